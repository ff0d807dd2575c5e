/-
  'l10At', 'TreeAt' of the model.
-/
import Derived.Test.YthlbmkefjjckaadGrEdge
import Derived.Test.YthlbmkefjjckaadTrAt
namespace Go.Proofs.Ythlbmkefjjckaad
open Go.RowKit
set_option linter.unusedVariables false
attribute [local go_sem] Oper.semAt_some wide_fn

theorem edS_swap {n : Int} {l : List EdD} (hf : FitEd n l) (hr : RiseEd l) (a b : Int) : edS l a b = edS l b a := by
  rw [edS_eq hf hr, edS_eq hf hr]
  unfold costB
  rw [show min a b = min b a by omega, show max a b = max b a by omega]
/-- The first of those asked for among numbers. -/
def parT (l : List EdD) (far : List Int) (r k : Int) (ks : List Int) : Int := head0 (ks.filter fun s => decide (k ≠ r ∧ lab far k < farC ∧ lab far s + edS l s k = lab far k))
theorem head0_snoc (zs : List Int) (x : Int) (h : ∀ y ∈ zs, 0 ≤ y) : head0 (zs ++ [x]) = if head0 zs < 0 then x else head0 zs := by
  cases zs with
  | nil => rfl
  | cons y zs =>
    have : ¬ y < 0 := by have := h y (List.mem_cons_self ..); omega
    show y = if y < 0 then x else y
    rw [if_neg this]
theorem parT_take (l : List EdD) (far : List Int) (r k : Int) (ks : List Int) (j : Nat) (h : j < ks.length) (hp : ∀ y ∈ ks, 0 ≤ y) : parT l far r k (ks.take (j + 1)) = if parT l far r k (ks.take j) < 0 ∧ k ≠ r ∧ lab far k < farC ∧ lab far ks[j] + edS l ks[j] k = lab far k then ks[j] else parT l far r k (ks.take j) := by
  unfold parT
  rw [List.take_succ_eq_append_getElem h, List.filter_append]
  by_cases e : k ≠ r ∧ lab far k < farC ∧ lab far ks[j] + edS l ks[j] k = lab far k
  · have : [ks[j]].filter (fun s => decide (k ≠ r ∧ lab far k < farC ∧ lab far s + edS l s k = lab far k)) = [ks[j]] := by simp [e]
    rw [this, head0_snoc _ _ fun y hy => hp y (List.mem_of_mem_take (List.mem_filter.1 hy).1)]
    by_cases q : head0 ((ks.take j).filter fun s => decide (k ≠ r ∧ lab far k < farC ∧ lab far s + edS l s k = lab far k)) < 0
    · rw [if_pos q, if_pos ⟨q, e⟩]
    · rw [if_neg q, if_neg fun q2 => q q2.1]
  · have : [ks[j]].filter (fun s => decide (k ≠ r ∧ lab far k < farC ∧ lab far s + edS l s k = lab far k)) = [] := by simp [e]
    rw [this, List.append_nil, if_neg fun q => e q.2]
theorem parT_all {n : Nat} {l : List EdD} {r : Int} (hn : n ≤ 12) (hf : FitEd n l) (hrs : RiseEd l) (hr : 0 ≤ r ∧ r < n) (k : Int) : parT l (fars n l r) r k (nearTo l k n) = head0 (hopsD l (fars n l r) k) := by
  by_cases e : k = r
  · have h0 : hopsD l (fars n l r) k = [] := by
      rw [e]
      exact (hops_none hf hr r hr.1 hr.2 (by rw [fars_at hf hr]; decide)).2 rfl
    rw [h0]
    unfold parT
    have : (nearTo l k n).filter (fun s => decide (k ≠ r ∧ lab (fars n l r) k < farC ∧ lab (fars n l r) s + edS l s k = lab (fars n l r) k)) = [] := by
      rw [List.filter_eq_nil_iff]
      intro s _
      simp [e]
    rw [this]
  · rw [← hopsS_eq hn hf hrs hr k]
    unfold parT hopsS
    congr 1
    refine List.filter_congr fun s _ => ?_
    rw [edS_swap hf hrs s k]
    simp [e]
theorem parT_low (l : List EdD) (far : List Int) (r k : Int) (ks : List Int) (m : Nat) (h : ∀ y ∈ ks, 0 ≤ y ∧ y < m) : -1 ≤ parT l far r k ks ∧ parT l far r k ks < m := by
  unfold parT head0
  cases hq : ks.filter fun s => decide (k ≠ r ∧ lab far k < farC ∧ lab far s + edS l s k = lab far k) with
  | nil => show -1 ≤ (-1 : Int) ∧ (-1 : Int) < m; omega
  | cons y z =>
    have := h y (List.mem_filter.1 (by rw [hq]; exact List.mem_cons_self ..)).1
    show -1 ≤ y ∧ y < m
    omega

set_option maxRecDepth 100000 in
set_option maxHeartbeats 8000000 in
theorem l10At_any (W : World) (v : Value) (l : List EdD) (n : Nat) (r : Int) (h : ReadsEd W v l) (hf : FitEd n l) (hrs : RiseEd l) (hn : 1 ≤ n ∧ n ≤ 12) (hl : l.length ≤ 40) (hr : 0 ≤ r ∧ r < n) :
    Calls Try.prog 41 #[.int .i64 (n : Int), v, .int .i64 r] W fun e W' => ∃ v', e = .returned v' ∧ Own W' W.heap.size v' (treeD n l r) ∧ Below W.heap.size W W' := by
  have HRD : Hid (∀ w', Since W.heap.size W w' → ReadsEd w' v l) := fun w' hs => h.below hs.1
  have HS0 : Hid (Since W.heap.size W W) := Since.start W
  obtain ⟨a1, c1, rfl⟩ := h.shape
  obtain ⟨near, hnear⟩ : ∃ near : Int → List Int, ∀ k, nearTo l k n = near k := ⟨fun k => nearTo l k n, fun _ => rfl⟩
  have CF : Hid (Calls Try.prog 67 #[.int .i64 (n : Int), .slice a1 l.length c1, .int .i64 r] W fun e W' => ∃ v', e = .returned v' ∧ Own W' W.heap.size v' (fars n l r) ∧ Below W.heap.size W W') := l9Fars_any W _ l n r h hf hn hl hr
  have CN : Hid (∀ (w' : World) (k : Int), Since W.heap.size W w' → Calls Try.prog 68 #[.slice a1 l.length c1, .int .i64 k] w' fun e w2 => ∃ u, e = .returned u ∧ Own w2 w'.heap.size u (near k) ∧ Below w'.heap.size w' w2) := fun w' k hs => by
    have t := l8Near_any w' _ l k (HRD.out w' hs) hl
    rw [nearS_eq hf] at t
    rw [← hnear k]
    exact t
  have CE : Hid (∀ (w' : World) (s k : Int), Since W.heap.size W w' → Calls Try.prog 64 #[.slice a1 l.length c1, .int .i64 s, .int .i64 k] w' fun e w2 => e = .returned (.int .i64 (edS l s k)) ∧ Below w'.heap.size w' w2) := fun w' s k hs => l9Edge_any w' _ l s k (HRD.out w' hs) (by omega)
  have HLOW : Hid (∀ s : Int, 0 ≤ s → s < n → 0 ≤ lab (fars n l r) s ∧ lab (fars n l r) s ≤ 100000) := fun s h0 h1 => ⟨fars_nonneg hf hr s h0 h1, fars_far hr s h0 h1⟩
  have HED : Hid (∀ s k : Int, 0 ≤ edS l s k ∧ edS l s k ≤ 100) := fun s k => by rw [edS_eq hf hrs]; exact costB_low hf _ _
  have HNF : Hid (∀ k : Int, ∀ s ∈ near k, 0 ≤ s ∧ s < n) := fun k s hs => near_fit hf k s (by rw [hnear k]; exact hs)
  have HNL : Hid (∀ k : Int, (near k).length ≤ 12) := fun k => by rw [← hnear k]; exact Nat.le_trans (nearTo_len l k n) hn.2
  have hfl : (fars n l r).length = n := fars_len
  have HTS : Hid (∀ k : Nat, treeT n l r (k + 1) = treeT n l r k ++ [parT l (fars n l r) r (k : Int) (near (k : Int))]) := fun k => by rw [← hnear, parT_all hn.2 hf hrs hr]; exact treeT_succ n l r k
  have HTK : Hid (∀ (k : Int) (j : Nat) (h : j < (near k).length), parT l (fars n l r) r k ((near k).take (j + 1)) = if parT l (fars n l r) r k ((near k).take j) < 0 ∧ k ≠ r ∧ lab (fars n l r) k < farC ∧ lab (fars n l r) (near k)[j] + edS l (near k)[j] k = lab (fars n l r) k then (near k)[j] else parT l (fars n l r) r k ((near k).take j)) := fun k j h => parT_take l (fars n l r) r k (near k) j h fun y hy => (HNF.out k y hy).1
  have HPL : Hid (∀ (k : Int) (j : Nat), -1 ≤ parT l (fars n l r) r k ((near k).take j) ∧ parT l (fars n l r) r k ((near k).take j) < (n : Int)) := fun k j => parT_low l _ r k _ n fun y hy => HNF.out k y (List.mem_of_mem_take hy)
  obtain ⟨pt, hpt⟩ : ∃ pt : Int → List Int → Int, pt = fun k ks => parT l (fars n l r) r k ks := ⟨_, rfl⟩
  have hptk : ∀ k ks, parT l (fars n l r) r k ks = pt k ks := fun k ks => by rw [hpt]
  have H00 : Hid (∀ k, pt k [] = -1) := fun k => by rw [hpt]; rfl
  simp only [hptk] at HTS HTK HPL
  clear hptk hpt
  have HTL : Hid (∀ k, (treeT n l r k).length = k) := treeT_len n l r
  have HTD : Hid (treeD n l r = treeT n l r n) := rfl
  generalize treeD n l r = td at *
  have HT0 : Hid (treeT n l r 0 = []) := rfl
  obtain ⟨tt, htt⟩ : ∃ tt, tt = treeT n l r := ⟨_, rfl⟩
  rw [← htt] at HTS HTL HTD HT0
  clear htt
  generalize fars n l r = far at *
  clear hnear
  obtain ⟨rt, rfl⟩ : ∃ rt : Nat, r = (rt : Int) := ⟨r.toNat, by omega⟩
  have hn2 := hn.2
  have hn1 := hn.1
  clear h hf hrs hr hn
  go_enter Try.func41, Try.ntmps41
  go_wp2_with fail
  refine CF.out.mono ?_
  rintro e w1 ⟨v1, rfl, ho1, hb1⟩
  obtain ⟨fg, fc, rfl, HF1⟩ : ∃ fg fc, v1 = .slice (some ⟨fg, 0, none⟩) n fc ∧ Hid (Own w1 W.heap.size (.slice (some ⟨fg, 0, none⟩) n fc) far ∧ Since W.heap.size W w1) := by
    have ho := ho1
    rcases ho1.2 with ⟨-, h0⟩ | ⟨g, cap, cur, rfl, hB, hg, -⟩
    · omega
    · rw [hfl] at ho ⊢
      exact ⟨g, cap, rfl, ho, HS0.out.step hb1⟩
  clear ho1 hb1 CF
  go_wp2
  go_loopw [8, 9] (fun u t wr => ∃ k : Nat, k ≤ n ∧ t = .int .i64 k ∧ Hid (Own wr w1.heap.size u (tt k) ∧ Since w1.heap.size w1 wr)) (fun _ t _ => n - (intOf t).toNat)
  case atStart => exact ⟨0, Nat.zero_le _, rfl, by rw [HT0.out]; exact Own.nil _ _, Since.start _⟩
  case round =>
    obtain ⟨p, hk, rfl, HK⟩ := hrel
    obtain ⟨a2, c2, rfl⟩ := HK.out.1.shape
    rw [HTL.out] at *
    by_cases hpn : p < n
    · have hpn' : (p : Int) < (n : Int) := by omega
      have HZ : Hid (tt (p + 1) = tt p ++ [pt (p : Int) (near (p : Int))]) := HTS.out p
      have SW0 : Hid (Since W.heap.size W wr) := HF1.out.2.step HK.out.2.1
      go_wp2_with fail
      refine (CN.out _ (p : Int) SW0.out).mono ?_
      rintro e w2 ⟨v2, rfl, ho2, hb2⟩
      obtain ⟨a4, c4, rfl⟩ := ho2.shape
      have HN2 : Hid (Own w2 wr.heap.size (.slice a4 (near (p : Int)).length c4) (near (p : Int))) := ho2
      have HF2 : Hid (Own w2 W.heap.size (.slice (some ⟨fg, 0, none⟩) n fc) far ∧ Since W.heap.size W w2) := ⟨HF1.out.1.below (HK.out.2.step hb2).1, SW0.out.step hb2⟩
      have HP2 : Hid (Own w2 w1.heap.size (.slice a2 p c2) (tt p) ∧ Since w1.heap.size w1 w2) := ⟨HK.out.1.below hb2, HK.out.2.step hb2⟩
      have hks12 : (near (p : Int)).length ≤ 12 := HNL.out (p : Int)
      have HNF1 : Hid (∀ s ∈ near (p : Int), 0 ≤ s ∧ s < n) := HNF.out (p : Int)
      have HTK1 : Hid (∀ (j : Nat) (h : j < (near (p : Int)).length), pt (p : Int) ((near (p : Int)).take (j + 1)) = if pt (p : Int) ((near (p : Int)).take j) < 0 ∧ (p : Int) ≠ (rt : Int) ∧ lab far (p : Int) < farC ∧ lab far (near (p : Int))[j] + edS l (near (p : Int))[j] (p : Int) = lab far (p : Int) then (near (p : Int))[j] else pt (p : Int) ((near (p : Int)).take j)) := HTK.out (p : Int)
      have HPL1 : Hid (∀ j : Nat, -1 ≤ pt (p : Int) ((near (p : Int)).take j) ∧ pt (p : Int) ((near (p : Int)).take j) < (n : Int)) := HPL.out (p : Int)
      have HFC : Hid (∀ w j, Since w2.heap.size w2 w → j < n → w.cell? ⟨fg, j, none⟩ = some (.int .i64 (lab far (j : Int)))) := fun w j hs hj => by
        have h1 := own_cellG HF2.out.1 hfl.symm j (by omega)
        rw [← lab_get far j (by omega)] at h1
        exact (hs.1.cell (p := ⟨fg, j, none⟩) (World.block_lt_of_cell? w2 ⟨fg, j, none⟩ h1)).trans h1
      have HKC : Hid (∀ w j (hj : j < (near (p : Int)).length), Since w2.heap.size w2 w → ∃ kg, a4 = some ⟨kg, 0, none⟩ ∧ w.cell? ⟨kg, j, none⟩ = some (.int .i64 (near (p : Int))[j])) := fun w j hj hs => by
        have ho := HN2.out
        rcases HN2.out.2 with ⟨hv, h0⟩ | ⟨g, cap, cur, hv, -⟩
        · omega
        · cases hv
          have h1 := own_cellG ho rfl j hj
          exact ⟨g, rfl, (hs.1.cell (p := ⟨g, j, none⟩) (World.block_lt_of_cell? w2 ⟨g, j, none⟩ h1)).trans h1⟩
      have HPC : Hid (pt (p : Int) (near (p : Int)) = pt (p : Int) ((near (p : Int)).take (near (p : Int)).length)) := by
        show _ = _
        rw [List.take_length]
      have hS2 : Since w2.heap.size w2 w2 := Since.start w2
      have HS2 : Hid (Since w2.heap.size w2 w2) := hS2
      have H01 : Hid (pt (p : Int) [] = -1) := H00.out _
      clear ho2 hb2 hS2 HK SW0 HNF HTK HPL
      generalize near (p : Int) = ks at *
      go_wp2
      go_loopw [10, 26] (fun u t wr => ∃ j : Nat, j ≤ ks.length ∧ t = .int .i64 j ∧ ∃ z : Int, u = .int .i64 z ∧ Hid (z = pt (p : Int) (ks.take j) ∧ Since w2.heap.size w2 wr)) (fun _ t _ => ks.length - (intOf t).toNat)
      case atStart => exact ⟨0, Nat.zero_le _, rfl, -1, rfl, H01.out.symm, HS2.out⟩
      case round =>
        obtain ⟨j, hj, rfl, z, rfl, HK⟩ := hrel
        by_cases hlt : j < ks.length
        · have hlt' : (j : Int) < (ks.length : Int) := by omega
          obtain ⟨kg, rfl, hkc⟩ := HKC.out wr j hlt HK.out.2
          have hsf := HNF1.out ks[j] (List.getElem_mem hlt)
          have HT := HTK1.out j hlt
          have hed := HED.out ks[j] (p : Int)
          have CE1 : Hid (∀ (w' : World), Since W.heap.size W w' → Calls Try.prog 64 #[.slice a1 l.length c1, .int .i64 ks[j], .int .i64 (p : Int)] w' fun e w2 => e = .returned (.int .i64 (edS l ks[j] p)) ∧ Below w'.heap.size w' w2) := fun w' hs => CE.out w' ks[j] (p : Int) hs
          have hlow := HLOW.out ks[j] hsf.1 hsf.2
          have hfk := HFC.out wr.drew ks[j].toNat ⟨HK.out.2.1.drew, HK.out.2.2⟩ (by omega)
          have hfp := HFC.out wr.drew p ⟨HK.out.2.1.drew, HK.out.2.2⟩ hpn
          rw [show ((ks[j].toNat : Nat) : Int) = ks[j] by omega] at hfk
          obtain ⟨s, hs⟩ : ∃ s : Nat, ks[j] = (s : Int) := ⟨ks[j].toNat, by omega⟩
          rw [hs] at hsf HT hed CE1 hlow hfk hkc
          rw [show ((s : Int)).toNat = s by omega] at hfk
          have hsn : s < n := by omega
          have hsn' : (s : Int) < (n : Int) := by omega
          have hlowp := (HLOW.out (p : Int) (by omega) hpn').2
          rw [← HK.out.1] at HT
          have hzl := HPL1.out j
          rw [← HK.out.1] at hzl
          generalize edS l (s : Int) (p : Int) = c at *
          generalize lab far (s : Int) = f at *
          generalize lab far (p : Int) = fp at *
          have hwr : IntKind.i64.wrap (f + c) = f + c := by rw [IntKind.wrap_i64]; omega
          have SWR : Hid (Since W.heap.size W wr.drew ∧ Since w2.heap.size w2 wr.drew) := ⟨⟨HF2.out.2.1.trans (HK.out.2.1.drew.mono HF2.out.2.2), Nat.le_trans HF2.out.2.2 HK.out.2.2⟩, HK.out.2.drew⟩
          clear hs HKC HFC HLOW HED CE hlow hlowp hed hsf HK HTK1 HPL1 HNF1 HNL
          unfold farC at HT
          have HSH : Hid (∀ w, Below wr.drew.heap.size wr.drew w → w.cell? ⟨fg, p, none⟩ = some (.int .i64 fp) ∧ w.cell? ⟨fg, s, none⟩ = some (.int .i64 f)) := fun w hb => ⟨(hb.cell (p := ⟨fg, p, none⟩) (World.block_lt_of_cell? wr.drew ⟨fg, p, none⟩ hfp)).trans hfp, (hb.cell (p := ⟨fg, s, none⟩) (World.block_lt_of_cell? wr.drew ⟨fg, s, none⟩ hfk)).trans hfk⟩
          clear hfp hfk
          by_cases hz : z < 0
          · have hzb : decide (z < 0) = true := by simpa using hz
            by_cases hpr : p = rt
            · have hpb : ((p : Int) != (rt : Int)) = false := by subst hpr; simp
              have HT1 : Hid (z = pt (p : Int) (ks.take (j + 1))) := by
                have := HT
                rw [if_neg (fun q => q.2.1 (by rw [hpr]))] at this
                exact this.symm
              clear HT hpr hz
              go_wp2
              refine (wpIn_wide (n := 9)).1 ?_
              refine region_outRound (S := (fun w' : World => w'.cell? ⟨fg, p, none⟩ = some (.int .i64 fp) ∧ w'.cell? ⟨fg, s, none⟩ = some (.int .i64 f))) 29 (by kernel_rfl) ?_ (fun hHeld => ?_)
              · exact HSH.out _ (Below.refl _ _)
              refine roundRead 0 (some 30) (.int .i64 z) rfl rfl (by kernel_rfl) (by kernel_rfl) (by kernel_rfl) (by kernel_rfl) (fun _ _ _ h => h) (by kernel_rfl) (by assumption) ?_ ?_
              · intro w hSw
                (try dsimp only at hSw)
                go_simp
              simp only [Act.put, List.setIfInBounds_toArray, List.set_cons_zero, List.set_cons_succ]
              refine roundRead 1 (some 31) (.bool true) rfl rfl (by kernel_rfl) (by kernel_rfl) (by kernel_rfl) (by kernel_rfl) (fun _ _ _ h => h) (by kernel_rfl) (by assumption) ?_ ?_
              · intro w hSw
                (try dsimp only at hSw)
                go_simp
              simp only [Act.put, List.setIfInBounds_toArray, List.set_cons_zero, List.set_cons_succ]
              refine roundRead 2 (some 32) (.bool true) rfl rfl (by kernel_rfl) (by kernel_rfl) (by kernel_rfl) (by kernel_rfl) (fun _ _ _ h => h) (by kernel_rfl) (by assumption) ?_ ?_
              · intro w hSw
                (try dsimp only at hSw)
                go_simp
              simp only [Act.put, List.setIfInBounds_toArray, List.set_cons_zero, List.set_cons_succ]
              refine roundRead 3 (some 33) (.int .i64 (p : Int)) rfl rfl (by kernel_rfl) (by kernel_rfl) (by kernel_rfl) (by kernel_rfl) (fun _ _ _ h => h) (by kernel_rfl) (by assumption) ?_ ?_
              · intro w hSw
                (try dsimp only at hSw)
                go_simp
              simp only [Act.put, List.setIfInBounds_toArray, List.set_cons_zero, List.set_cons_succ]
              refine roundRead 4 (some 34) (.int .i64 (rt : Int)) rfl rfl (by kernel_rfl) (by kernel_rfl) (by kernel_rfl) (by kernel_rfl) (fun _ _ _ h => h) (by kernel_rfl) (by assumption) ?_ ?_
              · intro w hSw
                (try dsimp only at hSw)
                go_simp
              simp only [Act.put, List.setIfInBounds_toArray, List.set_cons_zero, List.set_cons_succ]
              refine roundRead 5 (some 35) (.bool false) rfl rfl (by kernel_rfl) (by kernel_rfl) (by kernel_rfl) (by kernel_rfl) (fun _ _ _ h => h) (by kernel_rfl) (by assumption) ?_ ?_
              · intro w hSw
                (try dsimp only at hSw)
                go_simp
              simp only [Act.put, List.setIfInBounds_toArray, List.set_cons_zero, List.set_cons_succ]
              refine roundRead 6 (some 36) (.bool false) rfl rfl (by kernel_rfl) (by kernel_rfl) (by kernel_rfl) (by kernel_rfl) (fun _ _ _ h => h) (by kernel_rfl) (by assumption) ?_ ?_
              · intro w hSw
                (try dsimp only at hSw)
                go_simp
              simp only [Act.put, List.setIfInBounds_toArray, List.set_cons_zero, List.set_cons_succ]
              refine roundRead 7 (some 37) (.bool false) rfl rfl (by kernel_rfl) (by kernel_rfl) (by kernel_rfl) (by kernel_rfl) (fun _ _ _ h => h) (by kernel_rfl) (by assumption) ?_ ?_
              · intro w hSw
                (try dsimp only at hSw)
                go_simp
              simp only [Act.put, List.setIfInBounds_toArray, List.set_cons_zero, List.set_cons_succ]
              refine roundSkip 8 (some 38) rfl rfl (by kernel_rfl) (by kernel_rfl) (by kernel_rfl) (by kernel_rfl) (fun _ _ _ h => h) (by kernel_rfl) (by assumption) ?_
              simp only [Act.put, List.setIfInBounds_toArray, List.set_cons_zero, List.set_cons_succ]
              refine roundSkip 9 (some 39) rfl rfl (by kernel_rfl) (by kernel_rfl) (by kernel_rfl) (by kernel_rfl) (fun _ _ _ h => h) (by kernel_rfl) (by assumption) ?_
              simp only [Act.put, List.setIfInBounds_toArray, List.set_cons_zero, List.set_cons_succ]
              refine roundSkip 10 (some 40) rfl rfl (by kernel_rfl) (by kernel_rfl) (by kernel_rfl) (by kernel_rfl) (fun _ _ _ h => h) (by kernel_rfl) (by assumption) ?_
              simp only [Act.put, List.setIfInBounds_toArray, List.set_cons_zero, List.set_cons_succ]
              refine roundSkip 11 (some 41) rfl rfl (by kernel_rfl) (by kernel_rfl) (by kernel_rfl) (by kernel_rfl) (fun _ _ _ h => h) (by kernel_rfl) (by assumption) ?_
              simp only [Act.put, List.setIfInBounds_toArray, List.set_cons_zero, List.set_cons_succ]
              refine roundSkip 12 (some 42) rfl rfl (by kernel_rfl) (by kernel_rfl) (by kernel_rfl) (by kernel_rfl) (fun _ _ _ h => h) (by kernel_rfl) (by assumption) ?_
              simp only [Act.put, List.setIfInBounds_toArray, List.set_cons_zero, List.set_cons_succ]
              refine roundRead 13 (some 43) (.bool false) rfl rfl (by kernel_rfl) (by kernel_rfl) (by kernel_rfl) (by kernel_rfl) (fun _ _ _ h => h) (by kernel_rfl) (by assumption) ?_ ?_
              · intro w hSw
                (try dsimp only at hSw)
                go_simp
              simp only [Act.put, List.setIfInBounds_toArray, List.set_cons_zero, List.set_cons_succ]
              refine roundRead 14 (some 44) (.bool false) rfl rfl (by kernel_rfl) (by kernel_rfl) (by kernel_rfl) (by kernel_rfl) (fun _ _ _ h => h) (by kernel_rfl) (by assumption) ?_ ?_
              · intro w hSw
                (try dsimp only at hSw)
                go_simp
              simp only [Act.put, List.setIfInBounds_toArray, List.set_cons_zero, List.set_cons_succ]
              refine roundSkip 15 (some 45) rfl rfl (by kernel_rfl) (by kernel_rfl) (by kernel_rfl) (by kernel_rfl) (fun _ _ _ h => h) (by kernel_rfl) (by assumption) ?_
              simp only [Act.put, List.setIfInBounds_toArray, List.set_cons_zero, List.set_cons_succ]
              refine roundSkip 16 (some 46) rfl rfl (by kernel_rfl) (by kernel_rfl) (by kernel_rfl) (by kernel_rfl) (fun _ _ _ h => h) (by kernel_rfl) (by assumption) ?_
              simp only [Act.put, List.setIfInBounds_toArray, List.set_cons_zero, List.set_cons_succ]
              refine roundSkip 17 (some 47) rfl rfl (by kernel_rfl) (by kernel_rfl) (by kernel_rfl) (by kernel_rfl) (fun _ _ _ h => h) (by kernel_rfl) (by assumption) ?_
              simp only [Act.put, List.setIfInBounds_toArray, List.set_cons_zero, List.set_cons_succ]
              refine roundSkip 18 (some 48) rfl rfl (by kernel_rfl) (by kernel_rfl) (by kernel_rfl) (by kernel_rfl) (fun _ _ _ h => h) (by kernel_rfl) (by assumption) ?_
              simp only [Act.put, List.setIfInBounds_toArray, List.set_cons_zero, List.set_cons_succ]
              refine roundSkip 19 (some 49) rfl rfl (by kernel_rfl) (by kernel_rfl) (by kernel_rfl) (by kernel_rfl) (fun _ _ _ h => h) (by kernel_rfl) (by assumption) ?_
              simp only [Act.put, List.setIfInBounds_toArray, List.set_cons_zero, List.set_cons_succ]
              refine roundSkip 20 (some 50) rfl rfl (by kernel_rfl) (by kernel_rfl) (by kernel_rfl) (by kernel_rfl) (fun _ _ _ h => h) (by kernel_rfl) (by assumption) ?_
              simp only [Act.put, List.setIfInBounds_toArray, List.set_cons_zero, List.set_cons_succ]
              refine roundSkip 21 (some 51) rfl rfl (by kernel_rfl) (by kernel_rfl) (by kernel_rfl) (by kernel_rfl) (fun _ _ _ h => h) (by kernel_rfl) (by assumption) ?_
              simp only [Act.put, List.setIfInBounds_toArray, List.set_cons_zero, List.set_cons_succ]
              refine roundSkip 22 (some 52) rfl rfl (by kernel_rfl) (by kernel_rfl) (by kernel_rfl) (by kernel_rfl) (fun _ _ _ h => h) (by kernel_rfl) (by assumption) ?_
              simp only [Act.put, List.setIfInBounds_toArray, List.set_cons_zero, List.set_cons_succ]
              refine roundSkip 23 (some 53) rfl rfl (by kernel_rfl) (by kernel_rfl) (by kernel_rfl) (by kernel_rfl) (fun _ _ _ h => h) (by kernel_rfl) (by assumption) ?_
              simp only [Act.put, List.setIfInBounds_toArray, List.set_cons_zero, List.set_cons_succ]
              refine roundSkip 24 (some 54) rfl rfl (by kernel_rfl) (by kernel_rfl) (by kernel_rfl) (by kernel_rfl) (fun _ _ _ h => h) (by kernel_rfl) (by assumption) ?_
              simp only [Act.put, List.setIfInBounds_toArray, List.set_cons_zero, List.set_cons_succ]
              refine roundSkip 25 (some 55) rfl rfl (by kernel_rfl) (by kernel_rfl) (by kernel_rfl) (by kernel_rfl) (fun _ _ _ h => h) (by kernel_rfl) (by assumption) ?_
              simp only [Act.put, List.setIfInBounds_toArray, List.set_cons_zero, List.set_cons_succ]
              refine roundSkip 26 (some 56) rfl rfl (by kernel_rfl) (by kernel_rfl) (by kernel_rfl) (by kernel_rfl) (fun _ _ _ h => h) (by kernel_rfl) (by assumption) ?_
              simp only [Act.put, List.setIfInBounds_toArray, List.set_cons_zero, List.set_cons_succ]
              refine roundSkip 27 (some 57) rfl rfl (by kernel_rfl) (by kernel_rfl) (by kernel_rfl) (by kernel_rfl) (fun _ _ _ h => h) (by kernel_rfl) (by assumption) ?_
              simp only [Act.put, List.setIfInBounds_toArray, List.set_cons_zero, List.set_cons_succ]
              refine roundSkip 28 (some 58) rfl rfl (by kernel_rfl) (by kernel_rfl) (by kernel_rfl) (by kernel_rfl) (fun _ _ _ h => h) (by kernel_rfl) (by assumption) ?_
              simp only [Act.put, List.setIfInBounds_toArray, List.set_cons_zero, List.set_cons_succ]
              refine roundValue 29 (some 59) (.bool false) wr.drew (by kernel_rfl) rfl rfl (.inl (by kernel_rfl)) (by kernel_rfl) (by go_simp) ?_
              simp only [Act.put, List.setIfInBounds_toArray, List.set_cons_zero, List.set_cons_succ]
              refine wpAnyR.done (by kernel_rfl) ?_ _
              have HF : Hid (z = pt (p : Int) (ks.take (j + 1)) ∧ Since w2.heap.size w2 wr.drew) := ⟨HT1.out, SWR.out.2⟩
              clear HSH CE1 hHeld SWR HT1
              go_wp2
              go_roundw
              case rel => exact ⟨j + 1, by omega, by go_num, _, rfl, HF.out⟩
              case measure => simp [intOf]; omega
            · have hpb : ((p : Int) != (rt : Int)) = true := by simp; omega
              by_cases hfar : fp < 100000
              · have hfb : decide (fp < 100000) = true := by simpa using hfar
                by_cases hq : f + c = fp
                · have hbq : (f + c == fp) = true := by simpa using hq
                  have HT1 : Hid ((s : Int) = pt (p : Int) (ks.take (j + 1))) := by
                    have := HT
                    rw [if_pos ⟨hz, by omega, hfar, hq⟩] at this
                    exact this.symm
                  clear HT hq hfar hpr hz
                  go_wp2
                  refine (wpIn_wide (n := 9)).1 ?_
                  refine region_outRound (S := (fun w' : World => w'.cell? ⟨fg, p, none⟩ = some (.int .i64 fp) ∧ w'.cell? ⟨fg, s, none⟩ = some (.int .i64 f))) 29 (by kernel_rfl) ?_ (fun hHeld => ?_)
                  · exact HSH.out _ (Below.refl _ _)
                  refine roundRead 0 (some 30) (.int .i64 z) rfl rfl (by kernel_rfl) (by kernel_rfl) (by kernel_rfl) (by kernel_rfl) (fun _ _ _ h => h) (by kernel_rfl) (by assumption) ?_ ?_
                  · intro w hSw
                    (try dsimp only at hSw)
                    go_simp
                  simp only [Act.put, List.setIfInBounds_toArray, List.set_cons_zero, List.set_cons_succ]
                  refine roundRead 1 (some 31) (.bool true) rfl rfl (by kernel_rfl) (by kernel_rfl) (by kernel_rfl) (by kernel_rfl) (fun _ _ _ h => h) (by kernel_rfl) (by assumption) ?_ ?_
                  · intro w hSw
                    (try dsimp only at hSw)
                    go_simp
                  simp only [Act.put, List.setIfInBounds_toArray, List.set_cons_zero, List.set_cons_succ]
                  refine roundRead 2 (some 32) (.bool true) rfl rfl (by kernel_rfl) (by kernel_rfl) (by kernel_rfl) (by kernel_rfl) (fun _ _ _ h => h) (by kernel_rfl) (by assumption) ?_ ?_
                  · intro w hSw
                    (try dsimp only at hSw)
                    go_simp
                  simp only [Act.put, List.setIfInBounds_toArray, List.set_cons_zero, List.set_cons_succ]
                  refine roundRead 3 (some 33) (.int .i64 (p : Int)) rfl rfl (by kernel_rfl) (by kernel_rfl) (by kernel_rfl) (by kernel_rfl) (fun _ _ _ h => h) (by kernel_rfl) (by assumption) ?_ ?_
                  · intro w hSw
                    (try dsimp only at hSw)
                    go_simp
                  simp only [Act.put, List.setIfInBounds_toArray, List.set_cons_zero, List.set_cons_succ]
                  refine roundRead 4 (some 34) (.int .i64 (rt : Int)) rfl rfl (by kernel_rfl) (by kernel_rfl) (by kernel_rfl) (by kernel_rfl) (fun _ _ _ h => h) (by kernel_rfl) (by assumption) ?_ ?_
                  · intro w hSw
                    (try dsimp only at hSw)
                    go_simp
                  simp only [Act.put, List.setIfInBounds_toArray, List.set_cons_zero, List.set_cons_succ]
                  refine roundRead 5 (some 35) (.bool true) rfl rfl (by kernel_rfl) (by kernel_rfl) (by kernel_rfl) (by kernel_rfl) (fun _ _ _ h => h) (by kernel_rfl) (by assumption) ?_ ?_
                  · intro w hSw
                    (try dsimp only at hSw)
                    go_simp
                  simp only [Act.put, List.setIfInBounds_toArray, List.set_cons_zero, List.set_cons_succ]
                  refine roundRead 6 (some 36) (.bool true) rfl rfl (by kernel_rfl) (by kernel_rfl) (by kernel_rfl) (by kernel_rfl) (fun _ _ _ h => h) (by kernel_rfl) (by assumption) ?_ ?_
                  · intro w hSw
                    (try dsimp only at hSw)
                    go_simp
                  simp only [Act.put, List.setIfInBounds_toArray, List.set_cons_zero, List.set_cons_succ]
                  refine roundRead 7 (some 37) (.bool true) rfl rfl (by kernel_rfl) (by kernel_rfl) (by kernel_rfl) (by kernel_rfl) (fun _ _ _ h => h) (by kernel_rfl) (by assumption) ?_ ?_
                  · intro w hSw
                    (try dsimp only at hSw)
                    go_simp
                  simp only [Act.put, List.setIfInBounds_toArray, List.set_cons_zero, List.set_cons_succ]
                  refine roundRead 8 (some 38) (.slice (some ⟨fg, 0, none⟩) n fc) rfl rfl (by kernel_rfl) (by kernel_rfl) (by kernel_rfl) (by kernel_rfl) (fun _ _ _ h => h) (by kernel_rfl) (by assumption) ?_ ?_
                  · intro w hSw
                    (try dsimp only at hSw)
                    go_simp
                  simp only [Act.put, List.setIfInBounds_toArray, List.set_cons_zero, List.set_cons_succ]
                  refine roundRead 9 (some 39) (.int .i64 (p : Int)) rfl rfl (by kernel_rfl) (by kernel_rfl) (by kernel_rfl) (by kernel_rfl) (fun _ _ _ h => h) (by kernel_rfl) (by assumption) ?_ ?_
                  · intro w hSw
                    (try dsimp only at hSw)
                    go_simp
                  simp only [Act.put, List.setIfInBounds_toArray, List.set_cons_zero, List.set_cons_succ]
                  refine roundRead 10 (some 40) (.pointer (some ⟨fg, p, none⟩)) rfl rfl (by kernel_rfl) (by kernel_rfl) (by kernel_rfl) (by kernel_rfl) (fun _ _ _ h => h) (by kernel_rfl) (by assumption) ?_ ?_
                  · intro w hSw
                    (try dsimp only at hSw)
                    go_simp
                  simp only [Act.put, List.setIfInBounds_toArray, List.set_cons_zero, List.set_cons_succ]
                  refine roundRead 11 (some 41) (.int .i64 fp) rfl rfl (by kernel_rfl) (by kernel_rfl) (by kernel_rfl) (by kernel_rfl) (fun _ _ _ h => h) (by kernel_rfl) (by assumption) ?_ ?_
                  · intro w hSw
                    (try dsimp only at hSw)
                    go_simp
                  simp only [Act.put, List.setIfInBounds_toArray, List.set_cons_zero, List.set_cons_succ]
                  refine roundRead 12 (some 42) (.bool true) rfl rfl (by kernel_rfl) (by kernel_rfl) (by kernel_rfl) (by kernel_rfl) (fun _ _ _ h => h) (by kernel_rfl) (by assumption) ?_ ?_
                  · intro w hSw
                    (try dsimp only at hSw)
                    go_simp
                  simp only [Act.put, List.setIfInBounds_toArray, List.set_cons_zero, List.set_cons_succ]
                  refine roundRead 13 (some 43) (.bool true) rfl rfl (by kernel_rfl) (by kernel_rfl) (by kernel_rfl) (by kernel_rfl) (fun _ _ _ h => h) (by kernel_rfl) (by assumption) ?_ ?_
                  · intro w hSw
                    (try dsimp only at hSw)
                    go_simp
                  simp only [Act.put, List.setIfInBounds_toArray, List.set_cons_zero, List.set_cons_succ]
                  refine roundRead 14 (some 44) (.bool true) rfl rfl (by kernel_rfl) (by kernel_rfl) (by kernel_rfl) (by kernel_rfl) (fun _ _ _ h => h) (by kernel_rfl) (by assumption) ?_ ?_
                  · intro w hSw
                    (try dsimp only at hSw)
                    go_simp
                  simp only [Act.put, List.setIfInBounds_toArray, List.set_cons_zero, List.set_cons_succ]
                  refine roundRead 15 (some 45) (.slice (some ⟨fg, 0, none⟩) n fc) rfl rfl (by kernel_rfl) (by kernel_rfl) (by kernel_rfl) (by kernel_rfl) (fun _ _ _ h => h) (by kernel_rfl) (by assumption) ?_ ?_
                  · intro w hSw
                    (try dsimp only at hSw)
                    go_simp
                  simp only [Act.put, List.setIfInBounds_toArray, List.set_cons_zero, List.set_cons_succ]
                  refine roundRead 16 (some 46) (.int .i64 (s : Int)) rfl rfl (by kernel_rfl) (by kernel_rfl) (by kernel_rfl) (by kernel_rfl) (fun _ _ _ h => h) (by kernel_rfl) (by assumption) ?_ ?_
                  · intro w hSw
                    (try dsimp only at hSw)
                    go_simp
                  simp only [Act.put, List.setIfInBounds_toArray, List.set_cons_zero, List.set_cons_succ]
                  refine roundRead 17 (some 47) (.pointer (some ⟨fg, s, none⟩)) rfl rfl (by kernel_rfl) (by kernel_rfl) (by kernel_rfl) (by kernel_rfl) (fun _ _ _ h => h) (by kernel_rfl) (by assumption) ?_ ?_
                  · intro w hSw
                    (try dsimp only at hSw)
                    go_simp
                  simp only [Act.put, List.setIfInBounds_toArray, List.set_cons_zero, List.set_cons_succ]
                  refine roundRead 18 (some 48) (.int .i64 f) rfl rfl (by kernel_rfl) (by kernel_rfl) (by kernel_rfl) (by kernel_rfl) (fun _ _ _ h => h) (by kernel_rfl) (by assumption) ?_ ?_
                  · intro w hSw
                    (try dsimp only at hSw)
                    go_simp
                  simp only [Act.put, List.setIfInBounds_toArray, List.set_cons_zero, List.set_cons_succ]
                  refine roundRead 19 (some 49) (.slice a1 l.length c1) rfl rfl (by kernel_rfl) (by kernel_rfl) (by kernel_rfl) (by kernel_rfl) (fun _ _ _ h => h) (by kernel_rfl) (by assumption) ?_ ?_
                  · intro w hSw
                    (try dsimp only at hSw)
                    go_simp
                  simp only [Act.put, List.setIfInBounds_toArray, List.set_cons_zero, List.set_cons_succ]
                  refine roundRead 20 (some 50) (.int .i64 (s : Int)) rfl rfl (by kernel_rfl) (by kernel_rfl) (by kernel_rfl) (by kernel_rfl) (fun _ _ _ h => h) (by kernel_rfl) (by assumption) ?_ ?_
                  · intro w hSw
                    (try dsimp only at hSw)
                    go_simp
                  simp only [Act.put, List.setIfInBounds_toArray, List.set_cons_zero, List.set_cons_succ]
                  refine roundRead 21 (some 51) (.int .i64 (p : Int)) rfl rfl (by kernel_rfl) (by kernel_rfl) (by kernel_rfl) (by kernel_rfl) (fun _ _ _ h => h) (by kernel_rfl) (by assumption) ?_ ?_
                  · intro w hSw
                    (try dsimp only at hSw)
                    go_simp
                  simp only [Act.put, List.setIfInBounds_toArray, List.set_cons_zero, List.set_cons_succ]
                  refine roundRead 24 (some 54) (.slice (some ⟨fg, 0, none⟩) n fc) rfl rfl (by kernel_rfl) (by kernel_rfl) (by kernel_rfl) (by kernel_rfl) (fun _ _ _ h => h) (by kernel_rfl) (by assumption) ?_ ?_
                  · intro w hSw
                    (try dsimp only at hSw)
                    go_simp
                  simp only [Act.put, List.setIfInBounds_toArray, List.set_cons_zero, List.set_cons_succ]
                  refine roundRead 25 (some 55) (.int .i64 (p : Int)) rfl rfl (by kernel_rfl) (by kernel_rfl) (by kernel_rfl) (by kernel_rfl) (fun _ _ _ h => h) (by kernel_rfl) (by assumption) ?_ ?_
                  · intro w hSw
                    (try dsimp only at hSw)
                    go_simp
                  simp only [Act.put, List.setIfInBounds_toArray, List.set_cons_zero, List.set_cons_succ]
                  refine roundRead 26 (some 56) (.pointer (some ⟨fg, p, none⟩)) rfl rfl (by kernel_rfl) (by kernel_rfl) (by kernel_rfl) (by kernel_rfl) (fun _ _ _ h => h) (by kernel_rfl) (by assumption) ?_ ?_
                  · intro w hSw
                    (try dsimp only at hSw)
                    go_simp
                  simp only [Act.put, List.setIfInBounds_toArray, List.set_cons_zero, List.set_cons_succ]
                  refine roundRead 27 (some 57) (.int .i64 fp) rfl rfl (by kernel_rfl) (by kernel_rfl) (by kernel_rfl) (by kernel_rfl) (fun _ _ _ h => h) (by kernel_rfl) (by assumption) ?_ ?_
                  · intro w hSw
                    (try dsimp only at hSw)
                    go_simp
                  simp only [Act.put, List.setIfInBounds_toArray, List.set_cons_zero, List.set_cons_succ]
                  refine roundCall 22 (some 52) 64 #[.slice a1 l.length c1, .int .i64 (s : Int), .int .i64 (p : Int)] (by kernel_rfl) rfl rfl (by kernel_rfl) (by simp [go_sem]) ((CE1.out _ SWR.out.1).mono ?_)
                  rintro e wq ⟨rfl, hbq⟩
                  refine ⟨_, rfl, (by exact HSH.out _ hbq), fun hHeld => ?_⟩
                  simp only [Act.put, List.setIfInBounds_toArray, List.set_cons_zero, List.set_cons_succ]
                  refine roundRead 23 (some 53) (.int .i64 (f + c)) rfl rfl (by kernel_rfl) (by kernel_rfl) (by kernel_rfl) (by kernel_rfl) (fun _ _ _ h => h) (by kernel_rfl) (by assumption) ?_ ?_
                  · intro w hSw
                    (try dsimp only at hSw)
                    go_simp
                  simp only [Act.put, List.setIfInBounds_toArray, List.set_cons_zero, List.set_cons_succ]
                  refine roundRead 28 (some 58) (.bool true) rfl rfl (by kernel_rfl) (by kernel_rfl) (by kernel_rfl) (by kernel_rfl) (fun _ _ _ h => h) (by kernel_rfl) (by assumption) ?_ ?_
                  · intro w hSw
                    (try dsimp only at hSw)
                    go_simp
                  simp only [Act.put, List.setIfInBounds_toArray, List.set_cons_zero, List.set_cons_succ]
                  refine roundValue 29 (some 59) (.bool true) wq (by kernel_rfl) rfl rfl (.inl (by kernel_rfl)) (by kernel_rfl) (by go_simp) ?_
                  simp only [Act.put, List.setIfInBounds_toArray, List.set_cons_zero, List.set_cons_succ]
                  refine wpAnyR.done (by kernel_rfl) ?_ _
                  have HF : Hid ((s : Int) = pt (p : Int) (ks.take (j + 1)) ∧ Since w2.heap.size w2 wq) := ⟨HT1.out, SWR.out.2.step hbq⟩
                  clear hbq HSH CE1 hHeld SWR HT1
                  go_wp2
                  go_roundw
                  case rel => exact ⟨j + 1, by omega, by go_num, _, rfl, HF.out⟩
                  case measure => simp [intOf]; omega
                · have hbq : (f + c == fp) = false := by simpa using hq
                  have HT1 : Hid (z = pt (p : Int) (ks.take (j + 1))) := by
                    have := HT
                    rw [if_neg (fun q => hq q.2.2.2)] at this
                    exact this.symm
                  clear HT hq hfar hpr hz
                  go_wp2
                  refine (wpIn_wide (n := 9)).1 ?_
                  refine region_outRound (S := (fun w' : World => w'.cell? ⟨fg, p, none⟩ = some (.int .i64 fp) ∧ w'.cell? ⟨fg, s, none⟩ = some (.int .i64 f))) 29 (by kernel_rfl) ?_ (fun hHeld => ?_)
                  · exact HSH.out _ (Below.refl _ _)
                  refine roundRead 0 (some 30) (.int .i64 z) rfl rfl (by kernel_rfl) (by kernel_rfl) (by kernel_rfl) (by kernel_rfl) (fun _ _ _ h => h) (by kernel_rfl) (by assumption) ?_ ?_
                  · intro w hSw
                    (try dsimp only at hSw)
                    go_simp
                  simp only [Act.put, List.setIfInBounds_toArray, List.set_cons_zero, List.set_cons_succ]
                  refine roundRead 1 (some 31) (.bool true) rfl rfl (by kernel_rfl) (by kernel_rfl) (by kernel_rfl) (by kernel_rfl) (fun _ _ _ h => h) (by kernel_rfl) (by assumption) ?_ ?_
                  · intro w hSw
                    (try dsimp only at hSw)
                    go_simp
                  simp only [Act.put, List.setIfInBounds_toArray, List.set_cons_zero, List.set_cons_succ]
                  refine roundRead 2 (some 32) (.bool true) rfl rfl (by kernel_rfl) (by kernel_rfl) (by kernel_rfl) (by kernel_rfl) (fun _ _ _ h => h) (by kernel_rfl) (by assumption) ?_ ?_
                  · intro w hSw
                    (try dsimp only at hSw)
                    go_simp
                  simp only [Act.put, List.setIfInBounds_toArray, List.set_cons_zero, List.set_cons_succ]
                  refine roundRead 3 (some 33) (.int .i64 (p : Int)) rfl rfl (by kernel_rfl) (by kernel_rfl) (by kernel_rfl) (by kernel_rfl) (fun _ _ _ h => h) (by kernel_rfl) (by assumption) ?_ ?_
                  · intro w hSw
                    (try dsimp only at hSw)
                    go_simp
                  simp only [Act.put, List.setIfInBounds_toArray, List.set_cons_zero, List.set_cons_succ]
                  refine roundRead 4 (some 34) (.int .i64 (rt : Int)) rfl rfl (by kernel_rfl) (by kernel_rfl) (by kernel_rfl) (by kernel_rfl) (fun _ _ _ h => h) (by kernel_rfl) (by assumption) ?_ ?_
                  · intro w hSw
                    (try dsimp only at hSw)
                    go_simp
                  simp only [Act.put, List.setIfInBounds_toArray, List.set_cons_zero, List.set_cons_succ]
                  refine roundRead 5 (some 35) (.bool true) rfl rfl (by kernel_rfl) (by kernel_rfl) (by kernel_rfl) (by kernel_rfl) (fun _ _ _ h => h) (by kernel_rfl) (by assumption) ?_ ?_
                  · intro w hSw
                    (try dsimp only at hSw)
                    go_simp
                  simp only [Act.put, List.setIfInBounds_toArray, List.set_cons_zero, List.set_cons_succ]
                  refine roundRead 6 (some 36) (.bool true) rfl rfl (by kernel_rfl) (by kernel_rfl) (by kernel_rfl) (by kernel_rfl) (fun _ _ _ h => h) (by kernel_rfl) (by assumption) ?_ ?_
                  · intro w hSw
                    (try dsimp only at hSw)
                    go_simp
                  simp only [Act.put, List.setIfInBounds_toArray, List.set_cons_zero, List.set_cons_succ]
                  refine roundRead 7 (some 37) (.bool true) rfl rfl (by kernel_rfl) (by kernel_rfl) (by kernel_rfl) (by kernel_rfl) (fun _ _ _ h => h) (by kernel_rfl) (by assumption) ?_ ?_
                  · intro w hSw
                    (try dsimp only at hSw)
                    go_simp
                  simp only [Act.put, List.setIfInBounds_toArray, List.set_cons_zero, List.set_cons_succ]
                  refine roundRead 8 (some 38) (.slice (some ⟨fg, 0, none⟩) n fc) rfl rfl (by kernel_rfl) (by kernel_rfl) (by kernel_rfl) (by kernel_rfl) (fun _ _ _ h => h) (by kernel_rfl) (by assumption) ?_ ?_
                  · intro w hSw
                    (try dsimp only at hSw)
                    go_simp
                  simp only [Act.put, List.setIfInBounds_toArray, List.set_cons_zero, List.set_cons_succ]
                  refine roundRead 9 (some 39) (.int .i64 (p : Int)) rfl rfl (by kernel_rfl) (by kernel_rfl) (by kernel_rfl) (by kernel_rfl) (fun _ _ _ h => h) (by kernel_rfl) (by assumption) ?_ ?_
                  · intro w hSw
                    (try dsimp only at hSw)
                    go_simp
                  simp only [Act.put, List.setIfInBounds_toArray, List.set_cons_zero, List.set_cons_succ]
                  refine roundRead 10 (some 40) (.pointer (some ⟨fg, p, none⟩)) rfl rfl (by kernel_rfl) (by kernel_rfl) (by kernel_rfl) (by kernel_rfl) (fun _ _ _ h => h) (by kernel_rfl) (by assumption) ?_ ?_
                  · intro w hSw
                    (try dsimp only at hSw)
                    go_simp
                  simp only [Act.put, List.setIfInBounds_toArray, List.set_cons_zero, List.set_cons_succ]
                  refine roundRead 11 (some 41) (.int .i64 fp) rfl rfl (by kernel_rfl) (by kernel_rfl) (by kernel_rfl) (by kernel_rfl) (fun _ _ _ h => h) (by kernel_rfl) (by assumption) ?_ ?_
                  · intro w hSw
                    (try dsimp only at hSw)
                    go_simp
                  simp only [Act.put, List.setIfInBounds_toArray, List.set_cons_zero, List.set_cons_succ]
                  refine roundRead 12 (some 42) (.bool true) rfl rfl (by kernel_rfl) (by kernel_rfl) (by kernel_rfl) (by kernel_rfl) (fun _ _ _ h => h) (by kernel_rfl) (by assumption) ?_ ?_
                  · intro w hSw
                    (try dsimp only at hSw)
                    go_simp
                  simp only [Act.put, List.setIfInBounds_toArray, List.set_cons_zero, List.set_cons_succ]
                  refine roundRead 13 (some 43) (.bool true) rfl rfl (by kernel_rfl) (by kernel_rfl) (by kernel_rfl) (by kernel_rfl) (fun _ _ _ h => h) (by kernel_rfl) (by assumption) ?_ ?_
                  · intro w hSw
                    (try dsimp only at hSw)
                    go_simp
                  simp only [Act.put, List.setIfInBounds_toArray, List.set_cons_zero, List.set_cons_succ]
                  refine roundRead 14 (some 44) (.bool true) rfl rfl (by kernel_rfl) (by kernel_rfl) (by kernel_rfl) (by kernel_rfl) (fun _ _ _ h => h) (by kernel_rfl) (by assumption) ?_ ?_
                  · intro w hSw
                    (try dsimp only at hSw)
                    go_simp
                  simp only [Act.put, List.setIfInBounds_toArray, List.set_cons_zero, List.set_cons_succ]
                  refine roundRead 15 (some 45) (.slice (some ⟨fg, 0, none⟩) n fc) rfl rfl (by kernel_rfl) (by kernel_rfl) (by kernel_rfl) (by kernel_rfl) (fun _ _ _ h => h) (by kernel_rfl) (by assumption) ?_ ?_
                  · intro w hSw
                    (try dsimp only at hSw)
                    go_simp
                  simp only [Act.put, List.setIfInBounds_toArray, List.set_cons_zero, List.set_cons_succ]
                  refine roundRead 16 (some 46) (.int .i64 (s : Int)) rfl rfl (by kernel_rfl) (by kernel_rfl) (by kernel_rfl) (by kernel_rfl) (fun _ _ _ h => h) (by kernel_rfl) (by assumption) ?_ ?_
                  · intro w hSw
                    (try dsimp only at hSw)
                    go_simp
                  simp only [Act.put, List.setIfInBounds_toArray, List.set_cons_zero, List.set_cons_succ]
                  refine roundRead 17 (some 47) (.pointer (some ⟨fg, s, none⟩)) rfl rfl (by kernel_rfl) (by kernel_rfl) (by kernel_rfl) (by kernel_rfl) (fun _ _ _ h => h) (by kernel_rfl) (by assumption) ?_ ?_
                  · intro w hSw
                    (try dsimp only at hSw)
                    go_simp
                  simp only [Act.put, List.setIfInBounds_toArray, List.set_cons_zero, List.set_cons_succ]
                  refine roundRead 18 (some 48) (.int .i64 f) rfl rfl (by kernel_rfl) (by kernel_rfl) (by kernel_rfl) (by kernel_rfl) (fun _ _ _ h => h) (by kernel_rfl) (by assumption) ?_ ?_
                  · intro w hSw
                    (try dsimp only at hSw)
                    go_simp
                  simp only [Act.put, List.setIfInBounds_toArray, List.set_cons_zero, List.set_cons_succ]
                  refine roundRead 19 (some 49) (.slice a1 l.length c1) rfl rfl (by kernel_rfl) (by kernel_rfl) (by kernel_rfl) (by kernel_rfl) (fun _ _ _ h => h) (by kernel_rfl) (by assumption) ?_ ?_
                  · intro w hSw
                    (try dsimp only at hSw)
                    go_simp
                  simp only [Act.put, List.setIfInBounds_toArray, List.set_cons_zero, List.set_cons_succ]
                  refine roundRead 20 (some 50) (.int .i64 (s : Int)) rfl rfl (by kernel_rfl) (by kernel_rfl) (by kernel_rfl) (by kernel_rfl) (fun _ _ _ h => h) (by kernel_rfl) (by assumption) ?_ ?_
                  · intro w hSw
                    (try dsimp only at hSw)
                    go_simp
                  simp only [Act.put, List.setIfInBounds_toArray, List.set_cons_zero, List.set_cons_succ]
                  refine roundRead 21 (some 51) (.int .i64 (p : Int)) rfl rfl (by kernel_rfl) (by kernel_rfl) (by kernel_rfl) (by kernel_rfl) (fun _ _ _ h => h) (by kernel_rfl) (by assumption) ?_ ?_
                  · intro w hSw
                    (try dsimp only at hSw)
                    go_simp
                  simp only [Act.put, List.setIfInBounds_toArray, List.set_cons_zero, List.set_cons_succ]
                  refine roundRead 24 (some 54) (.slice (some ⟨fg, 0, none⟩) n fc) rfl rfl (by kernel_rfl) (by kernel_rfl) (by kernel_rfl) (by kernel_rfl) (fun _ _ _ h => h) (by kernel_rfl) (by assumption) ?_ ?_
                  · intro w hSw
                    (try dsimp only at hSw)
                    go_simp
                  simp only [Act.put, List.setIfInBounds_toArray, List.set_cons_zero, List.set_cons_succ]
                  refine roundRead 25 (some 55) (.int .i64 (p : Int)) rfl rfl (by kernel_rfl) (by kernel_rfl) (by kernel_rfl) (by kernel_rfl) (fun _ _ _ h => h) (by kernel_rfl) (by assumption) ?_ ?_
                  · intro w hSw
                    (try dsimp only at hSw)
                    go_simp
                  simp only [Act.put, List.setIfInBounds_toArray, List.set_cons_zero, List.set_cons_succ]
                  refine roundRead 26 (some 56) (.pointer (some ⟨fg, p, none⟩)) rfl rfl (by kernel_rfl) (by kernel_rfl) (by kernel_rfl) (by kernel_rfl) (fun _ _ _ h => h) (by kernel_rfl) (by assumption) ?_ ?_
                  · intro w hSw
                    (try dsimp only at hSw)
                    go_simp
                  simp only [Act.put, List.setIfInBounds_toArray, List.set_cons_zero, List.set_cons_succ]
                  refine roundRead 27 (some 57) (.int .i64 fp) rfl rfl (by kernel_rfl) (by kernel_rfl) (by kernel_rfl) (by kernel_rfl) (fun _ _ _ h => h) (by kernel_rfl) (by assumption) ?_ ?_
                  · intro w hSw
                    (try dsimp only at hSw)
                    go_simp
                  simp only [Act.put, List.setIfInBounds_toArray, List.set_cons_zero, List.set_cons_succ]
                  refine roundCall 22 (some 52) 64 #[.slice a1 l.length c1, .int .i64 (s : Int), .int .i64 (p : Int)] (by kernel_rfl) rfl rfl (by kernel_rfl) (by simp [go_sem]) ((CE1.out _ SWR.out.1).mono ?_)
                  rintro e wq ⟨rfl, hbq⟩
                  refine ⟨_, rfl, (by exact HSH.out _ hbq), fun hHeld => ?_⟩
                  simp only [Act.put, List.setIfInBounds_toArray, List.set_cons_zero, List.set_cons_succ]
                  refine roundRead 23 (some 53) (.int .i64 (f + c)) rfl rfl (by kernel_rfl) (by kernel_rfl) (by kernel_rfl) (by kernel_rfl) (fun _ _ _ h => h) (by kernel_rfl) (by assumption) ?_ ?_
                  · intro w hSw
                    (try dsimp only at hSw)
                    go_simp
                  simp only [Act.put, List.setIfInBounds_toArray, List.set_cons_zero, List.set_cons_succ]
                  refine roundRead 28 (some 58) (.bool false) rfl rfl (by kernel_rfl) (by kernel_rfl) (by kernel_rfl) (by kernel_rfl) (fun _ _ _ h => h) (by kernel_rfl) (by assumption) ?_ ?_
                  · intro w hSw
                    (try dsimp only at hSw)
                    go_simp
                  simp only [Act.put, List.setIfInBounds_toArray, List.set_cons_zero, List.set_cons_succ]
                  refine roundValue 29 (some 59) (.bool false) wq (by kernel_rfl) rfl rfl (.inl (by kernel_rfl)) (by kernel_rfl) (by go_simp) ?_
                  simp only [Act.put, List.setIfInBounds_toArray, List.set_cons_zero, List.set_cons_succ]
                  refine wpAnyR.done (by kernel_rfl) ?_ _
                  have HF : Hid (z = pt (p : Int) (ks.take (j + 1)) ∧ Since w2.heap.size w2 wq) := ⟨HT1.out, SWR.out.2.step hbq⟩
                  clear hbq HSH CE1 hHeld SWR HT1
                  go_wp2
                  go_roundw
                  case rel => exact ⟨j + 1, by omega, by go_num, _, rfl, HF.out⟩
                  case measure => simp [intOf]; omega
              · have hfb : decide (fp < 100000) = false := by simpa using hfar
                have HT1 : Hid (z = pt (p : Int) (ks.take (j + 1))) := by
                  have := HT
                  rw [if_neg (fun q => hfar q.2.2.1)] at this
                  exact this.symm
                clear HT hfar hpr hz
                go_wp2
                refine (wpIn_wide (n := 9)).1 ?_
                refine region_outRound (S := (fun w' : World => w'.cell? ⟨fg, p, none⟩ = some (.int .i64 fp) ∧ w'.cell? ⟨fg, s, none⟩ = some (.int .i64 f))) 29 (by kernel_rfl) ?_ (fun hHeld => ?_)
                · exact HSH.out _ (Below.refl _ _)
                refine roundRead 0 (some 30) (.int .i64 z) rfl rfl (by kernel_rfl) (by kernel_rfl) (by kernel_rfl) (by kernel_rfl) (fun _ _ _ h => h) (by kernel_rfl) (by assumption) ?_ ?_
                · intro w hSw
                  (try dsimp only at hSw)
                  go_simp
                simp only [Act.put, List.setIfInBounds_toArray, List.set_cons_zero, List.set_cons_succ]
                refine roundRead 1 (some 31) (.bool true) rfl rfl (by kernel_rfl) (by kernel_rfl) (by kernel_rfl) (by kernel_rfl) (fun _ _ _ h => h) (by kernel_rfl) (by assumption) ?_ ?_
                · intro w hSw
                  (try dsimp only at hSw)
                  go_simp
                simp only [Act.put, List.setIfInBounds_toArray, List.set_cons_zero, List.set_cons_succ]
                refine roundRead 2 (some 32) (.bool true) rfl rfl (by kernel_rfl) (by kernel_rfl) (by kernel_rfl) (by kernel_rfl) (fun _ _ _ h => h) (by kernel_rfl) (by assumption) ?_ ?_
                · intro w hSw
                  (try dsimp only at hSw)
                  go_simp
                simp only [Act.put, List.setIfInBounds_toArray, List.set_cons_zero, List.set_cons_succ]
                refine roundRead 3 (some 33) (.int .i64 (p : Int)) rfl rfl (by kernel_rfl) (by kernel_rfl) (by kernel_rfl) (by kernel_rfl) (fun _ _ _ h => h) (by kernel_rfl) (by assumption) ?_ ?_
                · intro w hSw
                  (try dsimp only at hSw)
                  go_simp
                simp only [Act.put, List.setIfInBounds_toArray, List.set_cons_zero, List.set_cons_succ]
                refine roundRead 4 (some 34) (.int .i64 (rt : Int)) rfl rfl (by kernel_rfl) (by kernel_rfl) (by kernel_rfl) (by kernel_rfl) (fun _ _ _ h => h) (by kernel_rfl) (by assumption) ?_ ?_
                · intro w hSw
                  (try dsimp only at hSw)
                  go_simp
                simp only [Act.put, List.setIfInBounds_toArray, List.set_cons_zero, List.set_cons_succ]
                refine roundRead 5 (some 35) (.bool true) rfl rfl (by kernel_rfl) (by kernel_rfl) (by kernel_rfl) (by kernel_rfl) (fun _ _ _ h => h) (by kernel_rfl) (by assumption) ?_ ?_
                · intro w hSw
                  (try dsimp only at hSw)
                  go_simp
                simp only [Act.put, List.setIfInBounds_toArray, List.set_cons_zero, List.set_cons_succ]
                refine roundRead 6 (some 36) (.bool true) rfl rfl (by kernel_rfl) (by kernel_rfl) (by kernel_rfl) (by kernel_rfl) (fun _ _ _ h => h) (by kernel_rfl) (by assumption) ?_ ?_
                · intro w hSw
                  (try dsimp only at hSw)
                  go_simp
                simp only [Act.put, List.setIfInBounds_toArray, List.set_cons_zero, List.set_cons_succ]
                refine roundRead 7 (some 37) (.bool true) rfl rfl (by kernel_rfl) (by kernel_rfl) (by kernel_rfl) (by kernel_rfl) (fun _ _ _ h => h) (by kernel_rfl) (by assumption) ?_ ?_
                · intro w hSw
                  (try dsimp only at hSw)
                  go_simp
                simp only [Act.put, List.setIfInBounds_toArray, List.set_cons_zero, List.set_cons_succ]
                refine roundRead 8 (some 38) (.slice (some ⟨fg, 0, none⟩) n fc) rfl rfl (by kernel_rfl) (by kernel_rfl) (by kernel_rfl) (by kernel_rfl) (fun _ _ _ h => h) (by kernel_rfl) (by assumption) ?_ ?_
                · intro w hSw
                  (try dsimp only at hSw)
                  go_simp
                simp only [Act.put, List.setIfInBounds_toArray, List.set_cons_zero, List.set_cons_succ]
                refine roundRead 9 (some 39) (.int .i64 (p : Int)) rfl rfl (by kernel_rfl) (by kernel_rfl) (by kernel_rfl) (by kernel_rfl) (fun _ _ _ h => h) (by kernel_rfl) (by assumption) ?_ ?_
                · intro w hSw
                  (try dsimp only at hSw)
                  go_simp
                simp only [Act.put, List.setIfInBounds_toArray, List.set_cons_zero, List.set_cons_succ]
                refine roundRead 10 (some 40) (.pointer (some ⟨fg, p, none⟩)) rfl rfl (by kernel_rfl) (by kernel_rfl) (by kernel_rfl) (by kernel_rfl) (fun _ _ _ h => h) (by kernel_rfl) (by assumption) ?_ ?_
                · intro w hSw
                  (try dsimp only at hSw)
                  go_simp
                simp only [Act.put, List.setIfInBounds_toArray, List.set_cons_zero, List.set_cons_succ]
                refine roundRead 11 (some 41) (.int .i64 fp) rfl rfl (by kernel_rfl) (by kernel_rfl) (by kernel_rfl) (by kernel_rfl) (fun _ _ _ h => h) (by kernel_rfl) (by assumption) ?_ ?_
                · intro w hSw
                  (try dsimp only at hSw)
                  go_simp
                simp only [Act.put, List.setIfInBounds_toArray, List.set_cons_zero, List.set_cons_succ]
                refine roundRead 12 (some 42) (.bool false) rfl rfl (by kernel_rfl) (by kernel_rfl) (by kernel_rfl) (by kernel_rfl) (fun _ _ _ h => h) (by kernel_rfl) (by assumption) ?_ ?_
                · intro w hSw
                  (try dsimp only at hSw)
                  go_simp
                simp only [Act.put, List.setIfInBounds_toArray, List.set_cons_zero, List.set_cons_succ]
                refine roundRead 13 (some 43) (.bool false) rfl rfl (by kernel_rfl) (by kernel_rfl) (by kernel_rfl) (by kernel_rfl) (fun _ _ _ h => h) (by kernel_rfl) (by assumption) ?_ ?_
                · intro w hSw
                  (try dsimp only at hSw)
                  go_simp
                simp only [Act.put, List.setIfInBounds_toArray, List.set_cons_zero, List.set_cons_succ]
                refine roundRead 14 (some 44) (.bool false) rfl rfl (by kernel_rfl) (by kernel_rfl) (by kernel_rfl) (by kernel_rfl) (fun _ _ _ h => h) (by kernel_rfl) (by assumption) ?_ ?_
                · intro w hSw
                  (try dsimp only at hSw)
                  go_simp
                simp only [Act.put, List.setIfInBounds_toArray, List.set_cons_zero, List.set_cons_succ]
                refine roundSkip 15 (some 45) rfl rfl (by kernel_rfl) (by kernel_rfl) (by kernel_rfl) (by kernel_rfl) (fun _ _ _ h => h) (by kernel_rfl) (by assumption) ?_
                simp only [Act.put, List.setIfInBounds_toArray, List.set_cons_zero, List.set_cons_succ]
                refine roundSkip 16 (some 46) rfl rfl (by kernel_rfl) (by kernel_rfl) (by kernel_rfl) (by kernel_rfl) (fun _ _ _ h => h) (by kernel_rfl) (by assumption) ?_
                simp only [Act.put, List.setIfInBounds_toArray, List.set_cons_zero, List.set_cons_succ]
                refine roundSkip 17 (some 47) rfl rfl (by kernel_rfl) (by kernel_rfl) (by kernel_rfl) (by kernel_rfl) (fun _ _ _ h => h) (by kernel_rfl) (by assumption) ?_
                simp only [Act.put, List.setIfInBounds_toArray, List.set_cons_zero, List.set_cons_succ]
                refine roundSkip 18 (some 48) rfl rfl (by kernel_rfl) (by kernel_rfl) (by kernel_rfl) (by kernel_rfl) (fun _ _ _ h => h) (by kernel_rfl) (by assumption) ?_
                simp only [Act.put, List.setIfInBounds_toArray, List.set_cons_zero, List.set_cons_succ]
                refine roundSkip 19 (some 49) rfl rfl (by kernel_rfl) (by kernel_rfl) (by kernel_rfl) (by kernel_rfl) (fun _ _ _ h => h) (by kernel_rfl) (by assumption) ?_
                simp only [Act.put, List.setIfInBounds_toArray, List.set_cons_zero, List.set_cons_succ]
                refine roundSkip 20 (some 50) rfl rfl (by kernel_rfl) (by kernel_rfl) (by kernel_rfl) (by kernel_rfl) (fun _ _ _ h => h) (by kernel_rfl) (by assumption) ?_
                simp only [Act.put, List.setIfInBounds_toArray, List.set_cons_zero, List.set_cons_succ]
                refine roundSkip 21 (some 51) rfl rfl (by kernel_rfl) (by kernel_rfl) (by kernel_rfl) (by kernel_rfl) (fun _ _ _ h => h) (by kernel_rfl) (by assumption) ?_
                simp only [Act.put, List.setIfInBounds_toArray, List.set_cons_zero, List.set_cons_succ]
                refine roundSkip 22 (some 52) rfl rfl (by kernel_rfl) (by kernel_rfl) (by kernel_rfl) (by kernel_rfl) (fun _ _ _ h => h) (by kernel_rfl) (by assumption) ?_
                simp only [Act.put, List.setIfInBounds_toArray, List.set_cons_zero, List.set_cons_succ]
                refine roundSkip 23 (some 53) rfl rfl (by kernel_rfl) (by kernel_rfl) (by kernel_rfl) (by kernel_rfl) (fun _ _ _ h => h) (by kernel_rfl) (by assumption) ?_
                simp only [Act.put, List.setIfInBounds_toArray, List.set_cons_zero, List.set_cons_succ]
                refine roundSkip 24 (some 54) rfl rfl (by kernel_rfl) (by kernel_rfl) (by kernel_rfl) (by kernel_rfl) (fun _ _ _ h => h) (by kernel_rfl) (by assumption) ?_
                simp only [Act.put, List.setIfInBounds_toArray, List.set_cons_zero, List.set_cons_succ]
                refine roundSkip 25 (some 55) rfl rfl (by kernel_rfl) (by kernel_rfl) (by kernel_rfl) (by kernel_rfl) (fun _ _ _ h => h) (by kernel_rfl) (by assumption) ?_
                simp only [Act.put, List.setIfInBounds_toArray, List.set_cons_zero, List.set_cons_succ]
                refine roundSkip 26 (some 56) rfl rfl (by kernel_rfl) (by kernel_rfl) (by kernel_rfl) (by kernel_rfl) (fun _ _ _ h => h) (by kernel_rfl) (by assumption) ?_
                simp only [Act.put, List.setIfInBounds_toArray, List.set_cons_zero, List.set_cons_succ]
                refine roundSkip 27 (some 57) rfl rfl (by kernel_rfl) (by kernel_rfl) (by kernel_rfl) (by kernel_rfl) (fun _ _ _ h => h) (by kernel_rfl) (by assumption) ?_
                simp only [Act.put, List.setIfInBounds_toArray, List.set_cons_zero, List.set_cons_succ]
                refine roundSkip 28 (some 58) rfl rfl (by kernel_rfl) (by kernel_rfl) (by kernel_rfl) (by kernel_rfl) (fun _ _ _ h => h) (by kernel_rfl) (by assumption) ?_
                simp only [Act.put, List.setIfInBounds_toArray, List.set_cons_zero, List.set_cons_succ]
                refine roundValue 29 (some 59) (.bool false) wr.drew (by kernel_rfl) rfl rfl (.inl (by kernel_rfl)) (by kernel_rfl) (by go_simp) ?_
                simp only [Act.put, List.setIfInBounds_toArray, List.set_cons_zero, List.set_cons_succ]
                refine wpAnyR.done (by kernel_rfl) ?_ _
                have HF : Hid (z = pt (p : Int) (ks.take (j + 1)) ∧ Since w2.heap.size w2 wr.drew) := ⟨HT1.out, SWR.out.2⟩
                clear HSH CE1 hHeld SWR HT1
                go_wp2
                go_roundw
                case rel => exact ⟨j + 1, by omega, by go_num, _, rfl, HF.out⟩
                case measure => simp [intOf]; omega
          · have hzb : decide (z < 0) = false := by simpa using hz
            have HT1 : Hid (z = pt (p : Int) (ks.take (j + 1))) := by
              have := HT
              rw [if_neg (fun q => hz q.1)] at this
              exact this.symm
            clear HT hz
            go_wp2
            refine (wpIn_wide (n := 9)).1 ?_
            refine region_outRound (S := (fun w' : World => w'.cell? ⟨fg, p, none⟩ = some (.int .i64 fp) ∧ w'.cell? ⟨fg, s, none⟩ = some (.int .i64 f))) 29 (by kernel_rfl) ?_ (fun hHeld => ?_)
            · exact HSH.out _ (Below.refl _ _)
            refine roundRead 0 (some 30) (.int .i64 z) rfl rfl (by kernel_rfl) (by kernel_rfl) (by kernel_rfl) (by kernel_rfl) (fun _ _ _ h => h) (by kernel_rfl) (by assumption) ?_ ?_
            · intro w hSw
              (try dsimp only at hSw)
              go_simp
            simp only [Act.put, List.setIfInBounds_toArray, List.set_cons_zero, List.set_cons_succ]
            refine roundRead 1 (some 31) (.bool false) rfl rfl (by kernel_rfl) (by kernel_rfl) (by kernel_rfl) (by kernel_rfl) (fun _ _ _ h => h) (by kernel_rfl) (by assumption) ?_ ?_
            · intro w hSw
              (try dsimp only at hSw)
              go_simp
            simp only [Act.put, List.setIfInBounds_toArray, List.set_cons_zero, List.set_cons_succ]
            refine roundRead 2 (some 32) (.bool false) rfl rfl (by kernel_rfl) (by kernel_rfl) (by kernel_rfl) (by kernel_rfl) (fun _ _ _ h => h) (by kernel_rfl) (by assumption) ?_ ?_
            · intro w hSw
              (try dsimp only at hSw)
              go_simp
            simp only [Act.put, List.setIfInBounds_toArray, List.set_cons_zero, List.set_cons_succ]
            refine roundSkip 3 (some 33) rfl rfl (by kernel_rfl) (by kernel_rfl) (by kernel_rfl) (by kernel_rfl) (fun _ _ _ h => h) (by kernel_rfl) (by assumption) ?_
            simp only [Act.put, List.setIfInBounds_toArray, List.set_cons_zero, List.set_cons_succ]
            refine roundSkip 4 (some 34) rfl rfl (by kernel_rfl) (by kernel_rfl) (by kernel_rfl) (by kernel_rfl) (fun _ _ _ h => h) (by kernel_rfl) (by assumption) ?_
            simp only [Act.put, List.setIfInBounds_toArray, List.set_cons_zero, List.set_cons_succ]
            refine roundSkip 5 (some 35) rfl rfl (by kernel_rfl) (by kernel_rfl) (by kernel_rfl) (by kernel_rfl) (fun _ _ _ h => h) (by kernel_rfl) (by assumption) ?_
            simp only [Act.put, List.setIfInBounds_toArray, List.set_cons_zero, List.set_cons_succ]
            refine roundRead 6 (some 36) (.bool false) rfl rfl (by kernel_rfl) (by kernel_rfl) (by kernel_rfl) (by kernel_rfl) (fun _ _ _ h => h) (by kernel_rfl) (by assumption) ?_ ?_
            · intro w hSw
              (try dsimp only at hSw)
              go_simp
            simp only [Act.put, List.setIfInBounds_toArray, List.set_cons_zero, List.set_cons_succ]
            refine roundRead 7 (some 37) (.bool false) rfl rfl (by kernel_rfl) (by kernel_rfl) (by kernel_rfl) (by kernel_rfl) (fun _ _ _ h => h) (by kernel_rfl) (by assumption) ?_ ?_
            · intro w hSw
              (try dsimp only at hSw)
              go_simp
            simp only [Act.put, List.setIfInBounds_toArray, List.set_cons_zero, List.set_cons_succ]
            refine roundSkip 8 (some 38) rfl rfl (by kernel_rfl) (by kernel_rfl) (by kernel_rfl) (by kernel_rfl) (fun _ _ _ h => h) (by kernel_rfl) (by assumption) ?_
            simp only [Act.put, List.setIfInBounds_toArray, List.set_cons_zero, List.set_cons_succ]
            refine roundSkip 9 (some 39) rfl rfl (by kernel_rfl) (by kernel_rfl) (by kernel_rfl) (by kernel_rfl) (fun _ _ _ h => h) (by kernel_rfl) (by assumption) ?_
            simp only [Act.put, List.setIfInBounds_toArray, List.set_cons_zero, List.set_cons_succ]
            refine roundSkip 10 (some 40) rfl rfl (by kernel_rfl) (by kernel_rfl) (by kernel_rfl) (by kernel_rfl) (fun _ _ _ h => h) (by kernel_rfl) (by assumption) ?_
            simp only [Act.put, List.setIfInBounds_toArray, List.set_cons_zero, List.set_cons_succ]
            refine roundSkip 11 (some 41) rfl rfl (by kernel_rfl) (by kernel_rfl) (by kernel_rfl) (by kernel_rfl) (fun _ _ _ h => h) (by kernel_rfl) (by assumption) ?_
            simp only [Act.put, List.setIfInBounds_toArray, List.set_cons_zero, List.set_cons_succ]
            refine roundSkip 12 (some 42) rfl rfl (by kernel_rfl) (by kernel_rfl) (by kernel_rfl) (by kernel_rfl) (fun _ _ _ h => h) (by kernel_rfl) (by assumption) ?_
            simp only [Act.put, List.setIfInBounds_toArray, List.set_cons_zero, List.set_cons_succ]
            refine roundRead 13 (some 43) (.bool false) rfl rfl (by kernel_rfl) (by kernel_rfl) (by kernel_rfl) (by kernel_rfl) (fun _ _ _ h => h) (by kernel_rfl) (by assumption) ?_ ?_
            · intro w hSw
              (try dsimp only at hSw)
              go_simp
            simp only [Act.put, List.setIfInBounds_toArray, List.set_cons_zero, List.set_cons_succ]
            refine roundRead 14 (some 44) (.bool false) rfl rfl (by kernel_rfl) (by kernel_rfl) (by kernel_rfl) (by kernel_rfl) (fun _ _ _ h => h) (by kernel_rfl) (by assumption) ?_ ?_
            · intro w hSw
              (try dsimp only at hSw)
              go_simp
            simp only [Act.put, List.setIfInBounds_toArray, List.set_cons_zero, List.set_cons_succ]
            refine roundSkip 15 (some 45) rfl rfl (by kernel_rfl) (by kernel_rfl) (by kernel_rfl) (by kernel_rfl) (fun _ _ _ h => h) (by kernel_rfl) (by assumption) ?_
            simp only [Act.put, List.setIfInBounds_toArray, List.set_cons_zero, List.set_cons_succ]
            refine roundSkip 16 (some 46) rfl rfl (by kernel_rfl) (by kernel_rfl) (by kernel_rfl) (by kernel_rfl) (fun _ _ _ h => h) (by kernel_rfl) (by assumption) ?_
            simp only [Act.put, List.setIfInBounds_toArray, List.set_cons_zero, List.set_cons_succ]
            refine roundSkip 17 (some 47) rfl rfl (by kernel_rfl) (by kernel_rfl) (by kernel_rfl) (by kernel_rfl) (fun _ _ _ h => h) (by kernel_rfl) (by assumption) ?_
            simp only [Act.put, List.setIfInBounds_toArray, List.set_cons_zero, List.set_cons_succ]
            refine roundSkip 18 (some 48) rfl rfl (by kernel_rfl) (by kernel_rfl) (by kernel_rfl) (by kernel_rfl) (fun _ _ _ h => h) (by kernel_rfl) (by assumption) ?_
            simp only [Act.put, List.setIfInBounds_toArray, List.set_cons_zero, List.set_cons_succ]
            refine roundSkip 19 (some 49) rfl rfl (by kernel_rfl) (by kernel_rfl) (by kernel_rfl) (by kernel_rfl) (fun _ _ _ h => h) (by kernel_rfl) (by assumption) ?_
            simp only [Act.put, List.setIfInBounds_toArray, List.set_cons_zero, List.set_cons_succ]
            refine roundSkip 20 (some 50) rfl rfl (by kernel_rfl) (by kernel_rfl) (by kernel_rfl) (by kernel_rfl) (fun _ _ _ h => h) (by kernel_rfl) (by assumption) ?_
            simp only [Act.put, List.setIfInBounds_toArray, List.set_cons_zero, List.set_cons_succ]
            refine roundSkip 21 (some 51) rfl rfl (by kernel_rfl) (by kernel_rfl) (by kernel_rfl) (by kernel_rfl) (fun _ _ _ h => h) (by kernel_rfl) (by assumption) ?_
            simp only [Act.put, List.setIfInBounds_toArray, List.set_cons_zero, List.set_cons_succ]
            refine roundSkip 22 (some 52) rfl rfl (by kernel_rfl) (by kernel_rfl) (by kernel_rfl) (by kernel_rfl) (fun _ _ _ h => h) (by kernel_rfl) (by assumption) ?_
            simp only [Act.put, List.setIfInBounds_toArray, List.set_cons_zero, List.set_cons_succ]
            refine roundSkip 23 (some 53) rfl rfl (by kernel_rfl) (by kernel_rfl) (by kernel_rfl) (by kernel_rfl) (fun _ _ _ h => h) (by kernel_rfl) (by assumption) ?_
            simp only [Act.put, List.setIfInBounds_toArray, List.set_cons_zero, List.set_cons_succ]
            refine roundSkip 24 (some 54) rfl rfl (by kernel_rfl) (by kernel_rfl) (by kernel_rfl) (by kernel_rfl) (fun _ _ _ h => h) (by kernel_rfl) (by assumption) ?_
            simp only [Act.put, List.setIfInBounds_toArray, List.set_cons_zero, List.set_cons_succ]
            refine roundSkip 25 (some 55) rfl rfl (by kernel_rfl) (by kernel_rfl) (by kernel_rfl) (by kernel_rfl) (fun _ _ _ h => h) (by kernel_rfl) (by assumption) ?_
            simp only [Act.put, List.setIfInBounds_toArray, List.set_cons_zero, List.set_cons_succ]
            refine roundSkip 26 (some 56) rfl rfl (by kernel_rfl) (by kernel_rfl) (by kernel_rfl) (by kernel_rfl) (fun _ _ _ h => h) (by kernel_rfl) (by assumption) ?_
            simp only [Act.put, List.setIfInBounds_toArray, List.set_cons_zero, List.set_cons_succ]
            refine roundSkip 27 (some 57) rfl rfl (by kernel_rfl) (by kernel_rfl) (by kernel_rfl) (by kernel_rfl) (fun _ _ _ h => h) (by kernel_rfl) (by assumption) ?_
            simp only [Act.put, List.setIfInBounds_toArray, List.set_cons_zero, List.set_cons_succ]
            refine roundSkip 28 (some 58) rfl rfl (by kernel_rfl) (by kernel_rfl) (by kernel_rfl) (by kernel_rfl) (fun _ _ _ h => h) (by kernel_rfl) (by assumption) ?_
            simp only [Act.put, List.setIfInBounds_toArray, List.set_cons_zero, List.set_cons_succ]
            refine roundValue 29 (some 59) (.bool false) wr.drew (by kernel_rfl) rfl rfl (.inl (by kernel_rfl)) (by kernel_rfl) (by go_simp) ?_
            simp only [Act.put, List.setIfInBounds_toArray, List.set_cons_zero, List.set_cons_succ]
            refine wpAnyR.done (by kernel_rfl) ?_ _
            have HF : Hid (z = pt (p : Int) (ks.take (j + 1)) ∧ Since w2.heap.size w2 wr.drew) := ⟨HT1.out, SWR.out.2⟩
            clear HSH CE1 hHeld SWR HT1
            go_wp2
            go_roundw
            case rel => exact ⟨j + 1, by omega, by go_num, _, rfl, HF.out⟩
            case measure => simp [intOf]; omega
        · have e : j = ks.length := by omega
          have HE : Hid (z = pt (p : Int) ks ∧ Own wr w1.heap.size (.slice a2 p c2) (tt p) ∧ Since w1.heap.size w1 wr) := by
            have h1 := HK.out.1
            rw [e, ← HPC.out] at h1
            exact ⟨h1, HP2.out.1.below HK.out.2.1, HP2.out.2.step HK.out.2.1⟩
          have hgl : (tt p).length = p := HTL.out p
          rw [← HE.out.1] at HZ
          have HE2 : Hid (Own wr w1.heap.size (.slice a2 p c2) (tt p) ∧ Since w1.heap.size w1 wr) := HE.out.2
          clear HK HE HP2 HN2 HF2 HKC HFC HTK1 HPL1 HPC
          subst e
          generalize tt p = z0 at *
          have HC : Hid (∀ ty, ∃ v' w', (Builtin.append_ #[26, 26] ty #[.slice a2 p c2, .slice (some ⟨wr.heap.size, 0, none⟩) 1 1]).run Try.prog (wr.alloc (.cells #[.int .i64 z] 3)) = .ok v' w' ∧ Grown (wr.alloc (.cells #[.int .i64 z] 3)) w1.heap.size 3 1 (.slice a2 p c2) (z0 ++ [z]).length ((z0 ++ [z]).map (Value.int .i64)) v' w') := fun ty => by
            have hp1 := HE2.out.1
            rw [← hgl] at hp1 ⊢
            exact run_app1 _ _ _ z0 (hp1.below ((Below.refl _ wr).alloc (Nat.le_refl _) _)) wr.heap.size 1 z (new_cell _ _ _) (by omega) (by have := HE2.out.2.2; simp; omega) ty
          have SQ1 : Hid (Since w1.heap.size w1 (wr.alloc (.cells #[.int .i64 z] 3))) := HE2.out.2.step ((Below.refl _ wr).alloc (Nat.le_refl _) _)
          clear HE2 hgl
          go_wp2_with (at_builtin; refine list_app (by rfl) (.tmp 62) (.tmp 64) 26 (by rfl) (.slice a2 p c2) (.slice (some ⟨wr.heap.size, 0, none⟩) 1 1) (by rfl) (by rfl) _ HC.out ?_; intro v5 w5 hg5; have HF : Hid (Own w5 w1.heap.size v5 (tt (p + 1)) ∧ Since w1.heap.size w1 w5) := ⟨by rw [HZ.out]; exact hg5.own, ⟨SQ1.out.1.trans hg5.below, Nat.le_trans SQ1.out.2 hg5.size⟩⟩; clear hg5)
          go_roundw
          case rel => exact ⟨p + 1, by omega, by go_num, HF.out⟩
          case measure => simp [intOf]; omega
    · have e : p = n := by omega
      subst e
      have HE : Hid (Own wr W.heap.size (.slice a2 p c2) td ∧ Below W.heap.size W wr) := ⟨by rw [HTD.out]; exact HK.out.1.mono HF1.out.2.2, (HF1.out.2.step HK.out.2.1).1⟩
      clear HK CN CE HRD
      go_wp2
      go_ret
      exact ⟨_, rfl, HE.out.1, HE.out.2⟩

set_option maxRecDepth 100000 in
set_option maxHeartbeats 2000000 in
theorem specTreeAt_any (W : World) (v : Value) (n : Int) (l : List EdD) (a : Int) (h : ReadsEd W v l) (hl : l.length ≤ 2097152) :
    Calls Try.prog 7 #[.int .i64 n, v, .int .i64 a] W (NearPost W (treeOut n l a) (farsOk n l a)) := by
  have CG : Hid (Calls Try.prog 39 #[.int .i64 n, v] W fun e W' => e = .returned (.bool (goodEd n l)) ∧ Below W.heap.size W W') := specGoodEd_any W v n l h hl
  have HRD : Hid (∀ w', Since W.heap.size W w' → ReadsEd w' v l) := fun w' hs => h.below hs.1
  have HS0 : Hid (Since W.heap.size W W) := Since.start W
  obtain ⟨a1, c1, rfl⟩ := h.shape
  have HD : Hid (farsOk n l a = (goodEd n l && decide (0 ≤ a ∧ a < n)) ∧ treeOut n l a = if farsOk n l a then treeD n.toNat l a else []) := ⟨rfl, rfl⟩
  generalize farsOk n l a = ok at *
  generalize treeOut n l a = out at *
  clear h
  cases hg : goodEd n l with
  | false =>
    have HF : Hid (ok = false ∧ out = []) := by
      have h1 : ok = false := HD.out.1.trans (by rw [hg]; rfl)
      exact ⟨h1, HD.out.2.trans (by rw [h1]; rfl)⟩
    rw [hg] at CG
    clear hg HD
    go_enter Try.func7, Try.ntmps7
    go_wp2_with fail
    refine CG.out.mono ?_
    rintro e w1 ⟨rfl, hb1⟩
    have HB1 : Hid (Below W.heap.size W w1) := hb1
    clear hb1
    go_wp2
    refine bodyPost_ret (results_tmp2 rfl _ _ _) rfl ?_
    exact NearPost.zero HF.out.1 HF.out.2 HB1.out
  | true =>
    have HGT : Hid ((1 ≤ n ∧ n ≤ 12) ∧ l.length ≤ 40 ∧ FitEd n l ∧ RiseEd l) := goodEd_true hg
    have hu : IntKind.i64.wrap (n - 1) = n - 1 := by have := HGT.out.1; rw [IntKind.wrap_i64]; omega
    rw [hg] at CG
    cases hs : decide (0 ≤ a ∧ a < n) with
    | false =>
      have hs' : decide (0 ≤ a ∧ a ≤ n - 1) = false := by simp at hs ⊢; omega
      have HF : Hid (ok = false ∧ out = []) := by
        have h1 : ok = false := HD.out.1.trans (by rw [hg, hs]; rfl)
        exact ⟨h1, HD.out.2.trans (by rw [h1]; rfl)⟩
      clear hg HD
      go_enter Try.func7, Try.ntmps7
      go_wp2_with fail
      refine CG.out.mono ?_
      rintro e w1 ⟨rfl, hb1⟩
      have HB1 : Hid (Below W.heap.size W w1) := hb1
      clear hb1
      go_wp2_with fail
      refine (l1In_any a 0 (n - 1) w1).mono ?_
      rintro e ww ⟨rfl, hww⟩
      obtain rfl := hww
      rw [hs']
      go_wp2
      refine bodyPost_ret (results_tmp2 rfl _ _ _) rfl ?_
      exact NearPost.zero HF.out.1 HF.out.2 HB1.out
    | true =>
      have hs' : decide (0 ≤ a ∧ a ≤ n - 1) = true := by simp at hs ⊢; omega
      have HF : Hid (ok = true ∧ out = treeD n.toNat l a) := by
        have h1 : ok = true := HD.out.1.trans (by rw [hg, hs]; rfl)
        exact ⟨h1, HD.out.2.trans (by rw [h1]; rfl)⟩
      have CN : Hid (∀ w', Since W.heap.size W w' → Calls Try.prog 41 #[.int .i64 n, .slice a1 l.length c1, .int .i64 a] w' fun e w2 => ∃ u, e = .returned u ∧ Own w2 w'.heap.size u (treeD n.toNat l a) ∧ Below w'.heap.size w' w2) := fun w' hs2 => by
        obtain ⟨g1, g2, g3, g4⟩ := HGT.out
        have en : ((n.toNat : Nat) : Int) = n := by omega
        have ha := of_decide_eq_true hs
        have t := l10At_any w' _ l n.toNat a (HRD.out w' hs2) (by rw [en]; exact g3) g4 (by omega) g2 (by omega)
        rw [en] at t
        exact t
      clear hg HD
      go_enter Try.func7, Try.ntmps7
      go_wp2_with fail
      refine CG.out.mono ?_
      rintro e w1 ⟨rfl, hb1⟩
      have HS1 : Hid (Since W.heap.size W w1) := HS0.out.step hb1
      clear hb1
      go_wp2_with fail
      refine (l1In_any a 0 (n - 1) w1).mono ?_
      rintro e ww ⟨rfl, hww⟩
      obtain rfl := hww
      rw [hs']
      go_wp2_with fail
      refine (CN.out _ HS1.out).mono ?_
      rintro e w2 ⟨u2, rfl, ho2, hb2⟩
      have HO2 : Hid (Own w2 W.heap.size u2 (treeD n.toNat l a)) := ho2.mono HS1.out.2
      have HS2 : Hid (Since W.heap.size W w2) := HS1.out.step hb2
      clear ho2 hb2
      go_wp2
      refine bodyPost_ret (results_tmp2 rfl _ _ _) rfl ?_
      exact NearPost.mk HF.out.1 HF.out.2 HO2.out HS2.out.1
end Go.Proofs.Ythlbmkefjjckaad
