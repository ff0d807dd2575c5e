/-
  'l9Hops' of the model.
-/
import Derived.Test.YthlbmkefjjckaacGrEdge
import Derived.Test.YthlbmkefjjckaacGrCollect
namespace Go.Proofs.Ythlbmkefjjckaac
open Go.RowKit
set_option linter.unusedVariables false
attribute [local go_sem] Oper.semAt_some wide_fn

theorem near_fit {n : Nat} {l : List EdD} (hf : FitEd n l) (a s : Int) (h : s ∈ nearTo l a n) : 0 ≤ s ∧ s < n := by
  unfold nearTo at h
  exact (mem_iota n s).1 (List.mem_filter.1 h).1
def hopsP (l : List EdD) (far : List Int) (a : Int) (ks : List Int) : List Int := ks.filter fun k => decide (lab far a < farC ∧ lab far k + edS l a k = lab far a)
theorem hopsP_take (l : List EdD) (far : List Int) (a : Int) (ks : List Int) (j : Nat) (h : j < ks.length) : hopsP l far a (ks.take (j + 1)) = hopsP l far a (ks.take j) ++ if lab far a < farC ∧ lab far ks[j] + edS l a ks[j] = lab far a then [ks[j]] else [] := by
  unfold hopsP
  rw [List.take_succ_eq_append_getElem h, List.filter_append]
  congr 1
  by_cases e : lab far a < farC ∧ lab far ks[j] + edS l a ks[j] = lab far a
  · rw [if_pos e]; simp [e]
  · rw [if_neg e]; simp [e]

set_option maxRecDepth 100000 in
set_option maxHeartbeats 8000000 in
theorem l9Hops_any (W : World) (v : Value) (l : List EdD) (n : Nat) (i b : Int) (h : ReadsEd W v l) (hf : FitEd n l) (hr : RiseEd l) (hn : 1 ≤ n ∧ n ≤ 12) (hl : l.length ≤ 40) (hi : 0 ≤ i ∧ i < n) (hb : 0 ≤ b ∧ b < n) :
    Calls Try.prog 116 #[.int .i64 (n : Int), v, .int .i64 i, .int .i64 b] W fun e W' => ∃ v', e = .returned v' ∧ Own W' W.heap.size v' (hopsD l (fars n l b) i) ∧ Below W.heap.size W W' := by
  rw [← hopsS_eq hn.2 hf hr hb i]
  show Calls _ _ _ _ fun e W' => ∃ v', e = .returned v' ∧ Own W' W.heap.size v' (hopsP l (fars n l b) i (nearTo l i n)) ∧ _
  have HRD : Hid (∀ w', Since W.heap.size W w' → ReadsEd w' v l) := fun w' hs => h.below hs.1
  have HS0 : Hid (Since W.heap.size W W) := Since.start W
  obtain ⟨a1, c1, rfl⟩ := h.shape
  have CF : Hid (Calls Try.prog 108 #[.int .i64 (n : Int), .slice a1 l.length c1, .int .i64 b] W fun e W' => ∃ v', e = .returned v' ∧ Own W' W.heap.size v' (fars n l b) ∧ Below W.heap.size W W') := l9Fars_any W _ l n b h hf hn hl hb
  have CN : Hid (∀ w', Since W.heap.size W w' → Calls Try.prog 94 #[.slice a1 l.length c1, .int .i64 i] w' fun e w2 => ∃ u, e = .returned u ∧ Own w2 w'.heap.size u (nearTo l i n) ∧ Below w'.heap.size w' w2) := fun w' hs => by
    have t := l8Near_any w' _ l i (HRD.out w' hs) hl
    rw [nearS_eq hf] at t
    exact t
  have CE : Hid (∀ (w' : World) (s : Int), Since W.heap.size W w' → Calls Try.prog 120 #[.slice a1 l.length c1, .int .i64 i, .int .i64 s] w' fun e w2 => e = .returned (.int .i64 (edS l i s)) ∧ Below w'.heap.size w' w2) := fun w' s hs => l9Edge_any w' _ l i s (HRD.out w' hs) (by omega)
  obtain ⟨p, rfl⟩ : ∃ p : Nat, i = (p : Int) := ⟨i.toNat, by omega⟩
  have hpn : p < n := by omega
  have hpn' : (p : Int) < (n : Int) := by omega
  have HLOW : Hid (∀ s : Int, 0 ≤ s → s < n → 0 ≤ lab (fars n l b) s ∧ lab (fars n l b) s ≤ 100000) := fun s h0 h1 => ⟨fars_nonneg hf hb s h0 h1, fars_far hb s h0 h1⟩
  have HED : Hid (∀ s : Int, 0 ≤ edS l (p : Int) s ∧ edS l (p : Int) s ≤ 100) := fun s => by rw [edS_eq hf hr]; exact costB_low hf _ _
  have HNF : Hid (∀ s ∈ nearTo l (p : Int) n, 0 ≤ s ∧ s < n) := near_fit hf p
  have HNL : Hid ((nearTo l (p : Int) n).length ≤ 12) := Nat.le_trans (nearTo_len l p n) hn.2
  have hfl : (fars n l b).length = n := fars_len
  have HTK : Hid (∀ (ks : List Int) (j : Nat) (h : j < ks.length), hopsP l (fars n l b) p (ks.take (j + 1)) = hopsP l (fars n l b) p (ks.take j) ++ if lab (fars n l b) p < farC ∧ lab (fars n l b) ks[j] + edS l p ks[j] = lab (fars n l b) p then [ks[j]] else []) := hopsP_take l (fars n l b) p
  have HPL : Hid (∀ ks, (hopsP l (fars n l b) p ks).length ≤ ks.length) := fun ks => List.length_filter_le _ _
  have H00 : Hid (hopsP l (fars n l b) p [] = []) := rfl
  obtain ⟨hp, hhp⟩ : ∃ hp, hp = hopsP l (fars n l b) p := ⟨_, rfl⟩
  rw [← hhp] at HTK HPL H00 ⊢
  clear hhp
  generalize fars n l b = far at *
  generalize nearTo l (p : Int) n = ks at *
  clear h hf hr hb hi
  go_enter Try.func116, Try.ntmps116
  go_wp2_with fail
  refine CF.out.mono ?_
  rintro e w1 ⟨v1, rfl, ho1, hb1⟩
  obtain ⟨fg, fc, rfl, HF1⟩ : ∃ fg fc, v1 = .slice (some ⟨fg, 0, none⟩) n fc ∧ Hid (Own w1 W.heap.size (.slice (some ⟨fg, 0, none⟩) n fc) far ∧ Since W.heap.size W w1) := by
    have ho := ho1
    rcases ho1.2 with ⟨-, h0⟩ | ⟨g, cap, cur, rfl, hB, hg, -⟩
    · omega
    · rw [hfl] at ho ⊢
      exact ⟨g, cap, rfl, ho, HS0.out.step hb1⟩
  clear ho1 hb1 CF
  go_wp2_with fail
  refine (CN.out _ HF1.out.2).mono ?_
  rintro e w2 ⟨v2, rfl, ho2, hb2⟩
  obtain ⟨a2, c2, rfl⟩ := ho2.shape
  have HN2 : Hid (Own w2 w1.heap.size (.slice a2 ks.length c2) ks) := ho2
  have HF2 : Hid (Own w2 W.heap.size (.slice (some ⟨fg, 0, none⟩) n fc) far ∧ Since W.heap.size W w2) := ⟨HF1.out.1.below hb2, HF1.out.2.step hb2⟩
  have HFC : Hid (∀ w j, Since w2.heap.size w2 w → j < n → w.cell? ⟨fg, j, none⟩ = some (.int .i64 (lab far (j : Int)))) := fun w j hs hj => by
    have h1 := own_cellG HF2.out.1 hfl.symm j (by omega)
    rw [← lab_get far j (by omega)] at h1
    exact (hs.1.cell (p := ⟨fg, j, none⟩) (World.block_lt_of_cell? w2 ⟨fg, j, none⟩ h1)).trans h1
  have HKC : Hid (∀ w j (hj : j < ks.length), Since w2.heap.size w2 w → ∃ kg, a2 = some ⟨kg, 0, none⟩ ∧ w.cell? ⟨kg, j, none⟩ = some (.int .i64 ks[j])) := fun w j hj hs => by
    have ho := HN2.out
    rcases HN2.out.2 with ⟨hv, h0⟩ | ⟨g, cap, cur, hv, -⟩
    · omega
    · cases hv
      have h1 := own_cellG ho rfl j hj
      exact ⟨g, rfl, (hs.1.cell (p := ⟨g, j, none⟩) (World.block_lt_of_cell? w2 ⟨g, j, none⟩ h1)).trans h1⟩
  have HS2 : Hid (Since w2.heap.size w2 w2) := Since.start w2
  clear ho2 hb2 CN HF1 HS0
  go_wp2
  go_loopw [10, 21] (fun u t wr => ∃ j : Nat, j ≤ ks.length ∧ t = .int .i64 j ∧ Hid (Own wr w2.heap.size u (hp (ks.take j)) ∧ Since w2.heap.size w2 wr)) (fun _ t _ => ks.length - (intOf t).toNat)
  case atStart => exact ⟨0, Nat.zero_le _, rfl, by show Own _ _ _ (hp []); rw [H00.out]; exact Own.nil _ _, HS2.out⟩
  case round =>
    obtain ⟨j, hj, rfl, HK⟩ := hrel
    obtain ⟨a3, c3, rfl⟩ := HK.out.1.shape
    have hk12 : ks.length ≤ 12 := HNL.out
    by_cases hlt : j < ks.length
    · have hlt' : (j : Int) < (ks.length : Int) := by omega
      obtain ⟨kg, rfl, hkc⟩ := HKC.out wr j hlt HK.out.2
      have hsf := HNF.out ks[j] (List.getElem_mem hlt)
      have HT := HTK.out ks j hlt
      have hed := HED.out ks[j]
      have CE1 : Hid (∀ (w' : World), Since W.heap.size W w' → Calls Try.prog 120 #[.slice a1 l.length c1, .int .i64 (p : Int), .int .i64 ks[j]] w' fun e w2 => e = .returned (.int .i64 (edS l p ks[j])) ∧ Below w'.heap.size w' w2) := fun w' hs => CE.out w' ks[j] hs
      have hlow := HLOW.out ks[j] hsf.1 hsf.2
      have hfk := HFC.out wr.drew ks[j].toNat ⟨HK.out.2.1.drew, HK.out.2.2⟩ (by omega)
      have hfp := HFC.out wr.drew p ⟨HK.out.2.1.drew, HK.out.2.2⟩ hpn
      rw [show ((ks[j].toNat : Nat) : Int) = ks[j] by omega] at hfk
      obtain ⟨s, hs⟩ : ∃ s : Nat, ks[j] = (s : Int) := ⟨ks[j].toNat, by omega⟩
      rw [hs] at hsf HT hed CE1 hlow hfk hkc
      rw [show ((s : Int)).toNat = s by omega] at hfk
      have hsn : s < n := by omega
      have hsn' : (s : Int) < (n : Int) := by omega
      have hlowp := (HLOW.out (p : Int) (by omega) hpn').2
      generalize edS l (p : Int) (s : Int) = c at *
      generalize lab far (s : Int) = f at *
      generalize lab far (p : Int) = fp at *
      have hwr : IntKind.i64.wrap (f + c) = f + c := by rw [IntKind.wrap_i64]; omega
      have HLEN : Hid ((hp (ks.take j)).length ≤ 12) := Nat.le_trans (HPL.out _) (by rw [List.length_take]; omega)
      have SWR : Hid (Since W.heap.size W wr.drew) := ⟨HF2.out.2.1.trans (HK.out.2.1.drew.mono HF2.out.2.2), Nat.le_trans HF2.out.2.2 HK.out.2.2⟩
      clear hs HKC HFC HNF HTK HLOW HED CE HPL hlow hlowp hed hsf
      unfold farC at HT
      have HSH : Hid (∀ w, Below wr.drew.heap.size wr.drew w → w.cell? ⟨fg, p, none⟩ = some (.int .i64 fp) ∧ w.cell? ⟨fg, s, none⟩ = some (.int .i64 f)) := fun w hb => ⟨(hb.cell (p := ⟨fg, p, none⟩) (World.block_lt_of_cell? wr.drew ⟨fg, p, none⟩ hfp)).trans hfp, (hb.cell (p := ⟨fg, s, none⟩) (World.block_lt_of_cell? wr.drew ⟨fg, s, none⟩ hfk)).trans hfk⟩
      clear hfp hfk
      by_cases hfar : fp < 100000
      · have hfb : decide (fp < 100000) = true := by simpa using hfar
        by_cases hq : f + c = fp
        · have hbq : (f + c == fp) = true := by simpa using hq
          have HT1 : Hid (hp (ks.take (j + 1)) = hp (ks.take j) ++ [(s : Int)]) := by
            have := HT
            rw [if_pos ⟨hfar, hq⟩] at this
            exact this
          clear HT hq hfar
          go_wp2
          refine (wpIn_wide (n := 9)).1 ?_
          refine region_outRound (S := (fun w' : World => w'.cell? ⟨fg, p, none⟩ = some (.int .i64 fp) ∧ w'.cell? ⟨fg, s, none⟩ = some (.int .i64 f))) 20 (by kernel_rfl) ?_ (fun hHeld => ?_)
          · exact HSH.out _ (Below.refl _ _)
          refine roundRead 0 (some 25) (.slice (some ⟨fg, 0, none⟩) n fc) rfl rfl (by kernel_rfl) (by kernel_rfl) (by kernel_rfl) (by kernel_rfl) (fun _ _ _ h => h) (by kernel_rfl) (by assumption) ?_ ?_
          · intro w hSw
            (try dsimp only at hSw)
            go_simp
          simp only [Act.put, List.setIfInBounds_toArray, List.set_cons_zero, List.set_cons_succ]
          refine roundRead 1 (some 26) (.int .i64 (p : Int)) rfl rfl (by kernel_rfl) (by kernel_rfl) (by kernel_rfl) (by kernel_rfl) (fun _ _ _ h => h) (by kernel_rfl) (by assumption) ?_ ?_
          · intro w hSw
            (try dsimp only at hSw)
            go_simp
          simp only [Act.put, List.setIfInBounds_toArray, List.set_cons_zero, List.set_cons_succ]
          refine roundRead 2 (some 27) (.pointer (some ⟨fg, p, none⟩)) rfl rfl (by kernel_rfl) (by kernel_rfl) (by kernel_rfl) (by kernel_rfl) (fun _ _ _ h => h) (by kernel_rfl) (by assumption) ?_ ?_
          · intro w hSw
            (try dsimp only at hSw)
            go_simp
          simp only [Act.put, List.setIfInBounds_toArray, List.set_cons_zero, List.set_cons_succ]
          refine roundRead 3 (some 28) (.int .i64 fp) rfl rfl (by kernel_rfl) (by kernel_rfl) (by kernel_rfl) (by kernel_rfl) (fun _ _ _ h => h) (by kernel_rfl) (by assumption) ?_ ?_
          · intro w hSw
            (try dsimp only at hSw)
            go_simp
          simp only [Act.put, List.setIfInBounds_toArray, List.set_cons_zero, List.set_cons_succ]
          refine roundRead 4 (some 29) (.bool true) rfl rfl (by kernel_rfl) (by kernel_rfl) (by kernel_rfl) (by kernel_rfl) (fun _ _ _ h => h) (by kernel_rfl) (by assumption) ?_ ?_
          · intro w hSw
            (try dsimp only at hSw)
            go_simp
          simp only [Act.put, List.setIfInBounds_toArray, List.set_cons_zero, List.set_cons_succ]
          refine roundRead 5 (some 30) (.bool true) rfl rfl (by kernel_rfl) (by kernel_rfl) (by kernel_rfl) (by kernel_rfl) (fun _ _ _ h => h) (by kernel_rfl) (by assumption) ?_ ?_
          · intro w hSw
            (try dsimp only at hSw)
            go_simp
          simp only [Act.put, List.setIfInBounds_toArray, List.set_cons_zero, List.set_cons_succ]
          refine roundRead 6 (some 31) (.slice (some ⟨fg, 0, none⟩) n fc) rfl rfl (by kernel_rfl) (by kernel_rfl) (by kernel_rfl) (by kernel_rfl) (fun _ _ _ h => h) (by kernel_rfl) (by assumption) ?_ ?_
          · intro w hSw
            (try dsimp only at hSw)
            go_simp
          simp only [Act.put, List.setIfInBounds_toArray, List.set_cons_zero, List.set_cons_succ]
          refine roundRead 7 (some 32) (.int .i64 (s : Int)) rfl rfl (by kernel_rfl) (by kernel_rfl) (by kernel_rfl) (by kernel_rfl) (fun _ _ _ h => h) (by kernel_rfl) (by assumption) ?_ ?_
          · intro w hSw
            (try dsimp only at hSw)
            go_simp
          simp only [Act.put, List.setIfInBounds_toArray, List.set_cons_zero, List.set_cons_succ]
          refine roundRead 8 (some 33) (.pointer (some ⟨fg, s, none⟩)) rfl rfl (by kernel_rfl) (by kernel_rfl) (by kernel_rfl) (by kernel_rfl) (fun _ _ _ h => h) (by kernel_rfl) (by assumption) ?_ ?_
          · intro w hSw
            (try dsimp only at hSw)
            go_simp
          simp only [Act.put, List.setIfInBounds_toArray, List.set_cons_zero, List.set_cons_succ]
          refine roundRead 9 (some 34) (.int .i64 f) rfl rfl (by kernel_rfl) (by kernel_rfl) (by kernel_rfl) (by kernel_rfl) (fun _ _ _ h => h) (by kernel_rfl) (by assumption) ?_ ?_
          · intro w hSw
            (try dsimp only at hSw)
            go_simp
          simp only [Act.put, List.setIfInBounds_toArray, List.set_cons_zero, List.set_cons_succ]
          refine roundRead 10 (some 35) (.slice a1 l.length c1) rfl rfl (by kernel_rfl) (by kernel_rfl) (by kernel_rfl) (by kernel_rfl) (fun _ _ _ h => h) (by kernel_rfl) (by assumption) ?_ ?_
          · intro w hSw
            (try dsimp only at hSw)
            go_simp
          simp only [Act.put, List.setIfInBounds_toArray, List.set_cons_zero, List.set_cons_succ]
          refine roundRead 11 (some 36) (.int .i64 (p : Int)) rfl rfl (by kernel_rfl) (by kernel_rfl) (by kernel_rfl) (by kernel_rfl) (fun _ _ _ h => h) (by kernel_rfl) (by assumption) ?_ ?_
          · intro w hSw
            (try dsimp only at hSw)
            go_simp
          simp only [Act.put, List.setIfInBounds_toArray, List.set_cons_zero, List.set_cons_succ]
          refine roundRead 12 (some 37) (.int .i64 (s : Int)) rfl rfl (by kernel_rfl) (by kernel_rfl) (by kernel_rfl) (by kernel_rfl) (fun _ _ _ h => h) (by kernel_rfl) (by assumption) ?_ ?_
          · intro w hSw
            (try dsimp only at hSw)
            go_simp
          simp only [Act.put, List.setIfInBounds_toArray, List.set_cons_zero, List.set_cons_succ]
          refine roundRead 15 (some 40) (.slice (some ⟨fg, 0, none⟩) n fc) rfl rfl (by kernel_rfl) (by kernel_rfl) (by kernel_rfl) (by kernel_rfl) (fun _ _ _ h => h) (by kernel_rfl) (by assumption) ?_ ?_
          · intro w hSw
            (try dsimp only at hSw)
            go_simp
          simp only [Act.put, List.setIfInBounds_toArray, List.set_cons_zero, List.set_cons_succ]
          refine roundRead 16 (some 41) (.int .i64 (p : Int)) rfl rfl (by kernel_rfl) (by kernel_rfl) (by kernel_rfl) (by kernel_rfl) (fun _ _ _ h => h) (by kernel_rfl) (by assumption) ?_ ?_
          · intro w hSw
            (try dsimp only at hSw)
            go_simp
          simp only [Act.put, List.setIfInBounds_toArray, List.set_cons_zero, List.set_cons_succ]
          refine roundRead 17 (some 42) (.pointer (some ⟨fg, p, none⟩)) rfl rfl (by kernel_rfl) (by kernel_rfl) (by kernel_rfl) (by kernel_rfl) (fun _ _ _ h => h) (by kernel_rfl) (by assumption) ?_ ?_
          · intro w hSw
            (try dsimp only at hSw)
            go_simp
          simp only [Act.put, List.setIfInBounds_toArray, List.set_cons_zero, List.set_cons_succ]
          refine roundRead 18 (some 43) (.int .i64 fp) rfl rfl (by kernel_rfl) (by kernel_rfl) (by kernel_rfl) (by kernel_rfl) (fun _ _ _ h => h) (by kernel_rfl) (by assumption) ?_ ?_
          · intro w hSw
            (try dsimp only at hSw)
            go_simp
          simp only [Act.put, List.setIfInBounds_toArray, List.set_cons_zero, List.set_cons_succ]
          refine roundCall 13 (some 38) 120 #[.slice a1 l.length c1, .int .i64 (p : Int), .int .i64 (s : Int)] (by kernel_rfl) rfl rfl (by kernel_rfl) (by simp [go_sem]) ((CE1.out _ SWR.out).mono ?_)
          rintro e wq ⟨rfl, hbq⟩
          refine ⟨_, rfl, (by exact HSH.out _ hbq), fun hHeld => ?_⟩
          simp only [Act.put, List.setIfInBounds_toArray, List.set_cons_zero, List.set_cons_succ]
          refine roundRead 14 (some 39) (.int .i64 (f + c)) rfl rfl (by kernel_rfl) (by kernel_rfl) (by kernel_rfl) (by kernel_rfl) (fun _ _ _ h => h) (by kernel_rfl) (by assumption) ?_ ?_
          · intro w hSw
            (try dsimp only at hSw)
            go_simp
          simp only [Act.put, List.setIfInBounds_toArray, List.set_cons_zero, List.set_cons_succ]
          refine roundRead 19 (some 44) (.bool true) rfl rfl (by kernel_rfl) (by kernel_rfl) (by kernel_rfl) (by kernel_rfl) (fun _ _ _ h => h) (by kernel_rfl) (by assumption) ?_ ?_
          · intro w hSw
            (try dsimp only at hSw)
            go_simp
          simp only [Act.put, List.setIfInBounds_toArray, List.set_cons_zero, List.set_cons_succ]
          refine roundValue 20 (some 45) (.bool true) wq (by kernel_rfl) rfl rfl (.inl (by kernel_rfl)) (by kernel_rfl) (by go_simp) ?_
          simp only [Act.put, List.setIfInBounds_toArray, List.set_cons_zero, List.set_cons_succ]
          refine wpAnyR.done (by kernel_rfl) ?_ _
          have OQ : Hid (Own wq w2.heap.size (.slice a3 (hp (ks.take j)).length c3) (hp (ks.take j))) := HK.out.1.drew.below hbq
          have SQ : Hid (Since w2.heap.size w2 wq ∧ W.heap.size ≤ wq.heap.size) := ⟨⟨HK.out.2.1.drew.trans (hbq.mono HK.out.2.2), Nat.le_trans HK.out.2.2 hbq.size⟩, Nat.le_trans SWR.out.2 hbq.size⟩
          clear HK hbq HSH CE1 hHeld SWR
          generalize hp (ks.take j) = z0 at *
          have hb1 : Below wq.heap.size wq (wq.alloc (.cells #[.int .i64 (s : Int)] 3)) := (Below.refl _ wq).alloc (Nat.le_refl _) _
          have HC : Hid (∀ ty, ∃ v' w', (Builtin.append_ #[35, 35] ty #[.slice a3 z0.length c3, .slice (some ⟨wq.heap.size, 0, none⟩) 1 1]).run Try.prog (wq.alloc (.cells #[.int .i64 (s : Int)] 3)) = .ok v' w' ∧ Grown (wq.alloc (.cells #[.int .i64 (s : Int)] 3)) w2.heap.size 3 1 (.slice a3 z0.length c3) (z0 ++ [(s : Int)]).length ((z0 ++ [(s : Int)]).map (Value.int .i64)) v' w') := fun ty =>
            run_app1 _ _ _ z0 (OQ.out.below hb1) wq.heap.size 1 (s : Int) (new_cell _ _ _) (by have := HLEN.out; omega) (by have := SQ.out.1.2; simp; omega) ty
          have SQ1 : Hid (Since w2.heap.size w2 (wq.alloc (.cells #[.int .i64 (s : Int)] 3))) := SQ.out.1.step hb1
          have HPOST : Hid (∀ v5 w5, Grown (wq.alloc (.cells #[.int .i64 (s : Int)] 3)) w2.heap.size 3 1 (.slice a3 z0.length c3) (z0 ++ [(s : Int)]).length ((z0 ++ [(s : Int)]).map (Value.int .i64)) v5 w5 → Own w5 w2.heap.size v5 (hp (ks.take (j + 1))) ∧ Since w2.heap.size w2 w5) := fun v5 w5 hg5 => by
            exact ⟨by rw [HT1.out]; exact hg5.own, SQ1.out.1.trans hg5.below, Nat.le_trans SQ1.out.2 hg5.size⟩
          clear hb1
          go_wp2_with (at_builtin; refine list_app (by rfl) (.tmp 46) (.tmp 48) 35 (by rfl) (.slice a3 z0.length c3) (.slice (some ⟨wq.heap.size, 0, none⟩) 1 1) (by rfl) (by rfl) _ HC.out ?_; intro v5 w5 hg5; have HF : Hid (Own w5 w2.heap.size v5 (hp (ks.take (j + 1))) ∧ Since w2.heap.size w2 w5) := HPOST.out v5 w5 hg5; clear hg5)
          go_roundw
          case rel => exact ⟨j + 1, by omega, by go_num, HF.out⟩
          case measure => simp [intOf]; omega
        · have hbq : (f + c == fp) = false := by simpa using hq
          have HT1 : Hid (hp (ks.take (j + 1)) = hp (ks.take j)) := by
            have := HT
            rw [if_neg (fun q => hq q.2), List.append_nil] at this
            exact this
          clear HT hq hfar
          go_wp2
          refine (wpIn_wide (n := 9)).1 ?_
          refine region_outRound (S := (fun w' : World => w'.cell? ⟨fg, p, none⟩ = some (.int .i64 fp) ∧ w'.cell? ⟨fg, s, none⟩ = some (.int .i64 f))) 20 (by kernel_rfl) ?_ (fun hHeld => ?_)
          · exact HSH.out _ (Below.refl _ _)
          refine roundRead 0 (some 25) (.slice (some ⟨fg, 0, none⟩) n fc) rfl rfl (by kernel_rfl) (by kernel_rfl) (by kernel_rfl) (by kernel_rfl) (fun _ _ _ h => h) (by kernel_rfl) (by assumption) ?_ ?_
          · intro w hSw
            (try dsimp only at hSw)
            go_simp
          simp only [Act.put, List.setIfInBounds_toArray, List.set_cons_zero, List.set_cons_succ]
          refine roundRead 1 (some 26) (.int .i64 (p : Int)) rfl rfl (by kernel_rfl) (by kernel_rfl) (by kernel_rfl) (by kernel_rfl) (fun _ _ _ h => h) (by kernel_rfl) (by assumption) ?_ ?_
          · intro w hSw
            (try dsimp only at hSw)
            go_simp
          simp only [Act.put, List.setIfInBounds_toArray, List.set_cons_zero, List.set_cons_succ]
          refine roundRead 2 (some 27) (.pointer (some ⟨fg, p, none⟩)) rfl rfl (by kernel_rfl) (by kernel_rfl) (by kernel_rfl) (by kernel_rfl) (fun _ _ _ h => h) (by kernel_rfl) (by assumption) ?_ ?_
          · intro w hSw
            (try dsimp only at hSw)
            go_simp
          simp only [Act.put, List.setIfInBounds_toArray, List.set_cons_zero, List.set_cons_succ]
          refine roundRead 3 (some 28) (.int .i64 fp) rfl rfl (by kernel_rfl) (by kernel_rfl) (by kernel_rfl) (by kernel_rfl) (fun _ _ _ h => h) (by kernel_rfl) (by assumption) ?_ ?_
          · intro w hSw
            (try dsimp only at hSw)
            go_simp
          simp only [Act.put, List.setIfInBounds_toArray, List.set_cons_zero, List.set_cons_succ]
          refine roundRead 4 (some 29) (.bool true) rfl rfl (by kernel_rfl) (by kernel_rfl) (by kernel_rfl) (by kernel_rfl) (fun _ _ _ h => h) (by kernel_rfl) (by assumption) ?_ ?_
          · intro w hSw
            (try dsimp only at hSw)
            go_simp
          simp only [Act.put, List.setIfInBounds_toArray, List.set_cons_zero, List.set_cons_succ]
          refine roundRead 5 (some 30) (.bool true) rfl rfl (by kernel_rfl) (by kernel_rfl) (by kernel_rfl) (by kernel_rfl) (fun _ _ _ h => h) (by kernel_rfl) (by assumption) ?_ ?_
          · intro w hSw
            (try dsimp only at hSw)
            go_simp
          simp only [Act.put, List.setIfInBounds_toArray, List.set_cons_zero, List.set_cons_succ]
          refine roundRead 6 (some 31) (.slice (some ⟨fg, 0, none⟩) n fc) rfl rfl (by kernel_rfl) (by kernel_rfl) (by kernel_rfl) (by kernel_rfl) (fun _ _ _ h => h) (by kernel_rfl) (by assumption) ?_ ?_
          · intro w hSw
            (try dsimp only at hSw)
            go_simp
          simp only [Act.put, List.setIfInBounds_toArray, List.set_cons_zero, List.set_cons_succ]
          refine roundRead 7 (some 32) (.int .i64 (s : Int)) rfl rfl (by kernel_rfl) (by kernel_rfl) (by kernel_rfl) (by kernel_rfl) (fun _ _ _ h => h) (by kernel_rfl) (by assumption) ?_ ?_
          · intro w hSw
            (try dsimp only at hSw)
            go_simp
          simp only [Act.put, List.setIfInBounds_toArray, List.set_cons_zero, List.set_cons_succ]
          refine roundRead 8 (some 33) (.pointer (some ⟨fg, s, none⟩)) rfl rfl (by kernel_rfl) (by kernel_rfl) (by kernel_rfl) (by kernel_rfl) (fun _ _ _ h => h) (by kernel_rfl) (by assumption) ?_ ?_
          · intro w hSw
            (try dsimp only at hSw)
            go_simp
          simp only [Act.put, List.setIfInBounds_toArray, List.set_cons_zero, List.set_cons_succ]
          refine roundRead 9 (some 34) (.int .i64 f) rfl rfl (by kernel_rfl) (by kernel_rfl) (by kernel_rfl) (by kernel_rfl) (fun _ _ _ h => h) (by kernel_rfl) (by assumption) ?_ ?_
          · intro w hSw
            (try dsimp only at hSw)
            go_simp
          simp only [Act.put, List.setIfInBounds_toArray, List.set_cons_zero, List.set_cons_succ]
          refine roundRead 10 (some 35) (.slice a1 l.length c1) rfl rfl (by kernel_rfl) (by kernel_rfl) (by kernel_rfl) (by kernel_rfl) (fun _ _ _ h => h) (by kernel_rfl) (by assumption) ?_ ?_
          · intro w hSw
            (try dsimp only at hSw)
            go_simp
          simp only [Act.put, List.setIfInBounds_toArray, List.set_cons_zero, List.set_cons_succ]
          refine roundRead 11 (some 36) (.int .i64 (p : Int)) rfl rfl (by kernel_rfl) (by kernel_rfl) (by kernel_rfl) (by kernel_rfl) (fun _ _ _ h => h) (by kernel_rfl) (by assumption) ?_ ?_
          · intro w hSw
            (try dsimp only at hSw)
            go_simp
          simp only [Act.put, List.setIfInBounds_toArray, List.set_cons_zero, List.set_cons_succ]
          refine roundRead 12 (some 37) (.int .i64 (s : Int)) rfl rfl (by kernel_rfl) (by kernel_rfl) (by kernel_rfl) (by kernel_rfl) (fun _ _ _ h => h) (by kernel_rfl) (by assumption) ?_ ?_
          · intro w hSw
            (try dsimp only at hSw)
            go_simp
          simp only [Act.put, List.setIfInBounds_toArray, List.set_cons_zero, List.set_cons_succ]
          refine roundRead 15 (some 40) (.slice (some ⟨fg, 0, none⟩) n fc) rfl rfl (by kernel_rfl) (by kernel_rfl) (by kernel_rfl) (by kernel_rfl) (fun _ _ _ h => h) (by kernel_rfl) (by assumption) ?_ ?_
          · intro w hSw
            (try dsimp only at hSw)
            go_simp
          simp only [Act.put, List.setIfInBounds_toArray, List.set_cons_zero, List.set_cons_succ]
          refine roundRead 16 (some 41) (.int .i64 (p : Int)) rfl rfl (by kernel_rfl) (by kernel_rfl) (by kernel_rfl) (by kernel_rfl) (fun _ _ _ h => h) (by kernel_rfl) (by assumption) ?_ ?_
          · intro w hSw
            (try dsimp only at hSw)
            go_simp
          simp only [Act.put, List.setIfInBounds_toArray, List.set_cons_zero, List.set_cons_succ]
          refine roundRead 17 (some 42) (.pointer (some ⟨fg, p, none⟩)) rfl rfl (by kernel_rfl) (by kernel_rfl) (by kernel_rfl) (by kernel_rfl) (fun _ _ _ h => h) (by kernel_rfl) (by assumption) ?_ ?_
          · intro w hSw
            (try dsimp only at hSw)
            go_simp
          simp only [Act.put, List.setIfInBounds_toArray, List.set_cons_zero, List.set_cons_succ]
          refine roundRead 18 (some 43) (.int .i64 fp) rfl rfl (by kernel_rfl) (by kernel_rfl) (by kernel_rfl) (by kernel_rfl) (fun _ _ _ h => h) (by kernel_rfl) (by assumption) ?_ ?_
          · intro w hSw
            (try dsimp only at hSw)
            go_simp
          simp only [Act.put, List.setIfInBounds_toArray, List.set_cons_zero, List.set_cons_succ]
          refine roundCall 13 (some 38) 120 #[.slice a1 l.length c1, .int .i64 (p : Int), .int .i64 (s : Int)] (by kernel_rfl) rfl rfl (by kernel_rfl) (by simp [go_sem]) ((CE1.out _ SWR.out).mono ?_)
          rintro e wq ⟨rfl, hbq⟩
          refine ⟨_, rfl, (by exact HSH.out _ hbq), fun hHeld => ?_⟩
          simp only [Act.put, List.setIfInBounds_toArray, List.set_cons_zero, List.set_cons_succ]
          refine roundRead 14 (some 39) (.int .i64 (f + c)) rfl rfl (by kernel_rfl) (by kernel_rfl) (by kernel_rfl) (by kernel_rfl) (fun _ _ _ h => h) (by kernel_rfl) (by assumption) ?_ ?_
          · intro w hSw
            (try dsimp only at hSw)
            go_simp
          simp only [Act.put, List.setIfInBounds_toArray, List.set_cons_zero, List.set_cons_succ]
          refine roundRead 19 (some 44) (.bool false) rfl rfl (by kernel_rfl) (by kernel_rfl) (by kernel_rfl) (by kernel_rfl) (fun _ _ _ h => h) (by kernel_rfl) (by assumption) ?_ ?_
          · intro w hSw
            (try dsimp only at hSw)
            go_simp
          simp only [Act.put, List.setIfInBounds_toArray, List.set_cons_zero, List.set_cons_succ]
          refine roundValue 20 (some 45) (.bool false) wq (by kernel_rfl) rfl rfl (.inl (by kernel_rfl)) (by kernel_rfl) (by go_simp) ?_
          simp only [Act.put, List.setIfInBounds_toArray, List.set_cons_zero, List.set_cons_succ]
          refine wpAnyR.done (by kernel_rfl) ?_ _
          have HF : Hid (Own wq w2.heap.size (.slice a3 (hp (ks.take j)).length c3) (hp (ks.take (j + 1))) ∧ Since w2.heap.size w2 wq) := ⟨by rw [HT1.out]; exact HK.out.1.drew.below hbq, HK.out.2.1.drew.trans (hbq.mono HK.out.2.2), Nat.le_trans HK.out.2.2 hbq.size⟩
          clear HK hbq HSH CE1 hHeld SWR HT1
          go_wp2
          go_roundw
          case rel => exact ⟨j + 1, by omega, by go_num, HF.out⟩
          case measure => simp [intOf]; omega
      · have hfb : decide (fp < 100000) = false := by simpa using hfar
        have HT1 : Hid (hp (ks.take (j + 1)) = hp (ks.take j)) := by
          have := HT
          rw [if_neg (fun q => hfar q.1), List.append_nil] at this
          exact this
        clear HT hfar
        go_wp2
        refine (wpIn_wide (n := 9)).1 ?_
        refine region_outRound (S := (fun w' : World => w'.cell? ⟨fg, p, none⟩ = some (.int .i64 fp) ∧ w'.cell? ⟨fg, s, none⟩ = some (.int .i64 f))) 20 (by kernel_rfl) ?_ (fun hHeld => ?_)
        · exact HSH.out _ (Below.refl _ _)
        refine roundRead 0 (some 25) (.slice (some ⟨fg, 0, none⟩) n fc) rfl rfl (by kernel_rfl) (by kernel_rfl) (by kernel_rfl) (by kernel_rfl) (fun _ _ _ h => h) (by kernel_rfl) (by assumption) ?_ ?_
        · intro w hSw
          (try dsimp only at hSw)
          go_simp
        simp only [Act.put, List.setIfInBounds_toArray, List.set_cons_zero, List.set_cons_succ]
        refine roundRead 1 (some 26) (.int .i64 (p : Int)) rfl rfl (by kernel_rfl) (by kernel_rfl) (by kernel_rfl) (by kernel_rfl) (fun _ _ _ h => h) (by kernel_rfl) (by assumption) ?_ ?_
        · intro w hSw
          (try dsimp only at hSw)
          go_simp
        simp only [Act.put, List.setIfInBounds_toArray, List.set_cons_zero, List.set_cons_succ]
        refine roundRead 2 (some 27) (.pointer (some ⟨fg, p, none⟩)) rfl rfl (by kernel_rfl) (by kernel_rfl) (by kernel_rfl) (by kernel_rfl) (fun _ _ _ h => h) (by kernel_rfl) (by assumption) ?_ ?_
        · intro w hSw
          (try dsimp only at hSw)
          go_simp
        simp only [Act.put, List.setIfInBounds_toArray, List.set_cons_zero, List.set_cons_succ]
        refine roundRead 3 (some 28) (.int .i64 fp) rfl rfl (by kernel_rfl) (by kernel_rfl) (by kernel_rfl) (by kernel_rfl) (fun _ _ _ h => h) (by kernel_rfl) (by assumption) ?_ ?_
        · intro w hSw
          (try dsimp only at hSw)
          go_simp
        simp only [Act.put, List.setIfInBounds_toArray, List.set_cons_zero, List.set_cons_succ]
        refine roundRead 4 (some 29) (.bool false) rfl rfl (by kernel_rfl) (by kernel_rfl) (by kernel_rfl) (by kernel_rfl) (fun _ _ _ h => h) (by kernel_rfl) (by assumption) ?_ ?_
        · intro w hSw
          (try dsimp only at hSw)
          go_simp
        simp only [Act.put, List.setIfInBounds_toArray, List.set_cons_zero, List.set_cons_succ]
        refine roundRead 5 (some 30) (.bool false) rfl rfl (by kernel_rfl) (by kernel_rfl) (by kernel_rfl) (by kernel_rfl) (fun _ _ _ h => h) (by kernel_rfl) (by assumption) ?_ ?_
        · intro w hSw
          (try dsimp only at hSw)
          go_simp
        simp only [Act.put, List.setIfInBounds_toArray, List.set_cons_zero, List.set_cons_succ]
        refine roundSkip 6 (some 31) rfl rfl (by kernel_rfl) (by kernel_rfl) (by kernel_rfl) (by kernel_rfl) (fun _ _ _ h => h) (by kernel_rfl) (by assumption) ?_
        simp only [Act.put, List.setIfInBounds_toArray, List.set_cons_zero, List.set_cons_succ]
        refine roundSkip 7 (some 32) rfl rfl (by kernel_rfl) (by kernel_rfl) (by kernel_rfl) (by kernel_rfl) (fun _ _ _ h => h) (by kernel_rfl) (by assumption) ?_
        simp only [Act.put, List.setIfInBounds_toArray, List.set_cons_zero, List.set_cons_succ]
        refine roundSkip 8 (some 33) rfl rfl (by kernel_rfl) (by kernel_rfl) (by kernel_rfl) (by kernel_rfl) (fun _ _ _ h => h) (by kernel_rfl) (by assumption) ?_
        simp only [Act.put, List.setIfInBounds_toArray, List.set_cons_zero, List.set_cons_succ]
        refine roundSkip 9 (some 34) rfl rfl (by kernel_rfl) (by kernel_rfl) (by kernel_rfl) (by kernel_rfl) (fun _ _ _ h => h) (by kernel_rfl) (by assumption) ?_
        simp only [Act.put, List.setIfInBounds_toArray, List.set_cons_zero, List.set_cons_succ]
        refine roundSkip 10 (some 35) rfl rfl (by kernel_rfl) (by kernel_rfl) (by kernel_rfl) (by kernel_rfl) (fun _ _ _ h => h) (by kernel_rfl) (by assumption) ?_
        simp only [Act.put, List.setIfInBounds_toArray, List.set_cons_zero, List.set_cons_succ]
        refine roundSkip 11 (some 36) rfl rfl (by kernel_rfl) (by kernel_rfl) (by kernel_rfl) (by kernel_rfl) (fun _ _ _ h => h) (by kernel_rfl) (by assumption) ?_
        simp only [Act.put, List.setIfInBounds_toArray, List.set_cons_zero, List.set_cons_succ]
        refine roundSkip 12 (some 37) rfl rfl (by kernel_rfl) (by kernel_rfl) (by kernel_rfl) (by kernel_rfl) (fun _ _ _ h => h) (by kernel_rfl) (by assumption) ?_
        simp only [Act.put, List.setIfInBounds_toArray, List.set_cons_zero, List.set_cons_succ]
        refine roundSkip 13 (some 38) rfl rfl (by kernel_rfl) (by kernel_rfl) (by kernel_rfl) (by kernel_rfl) (fun _ _ _ h => h) (by kernel_rfl) (by assumption) ?_
        simp only [Act.put, List.setIfInBounds_toArray, List.set_cons_zero, List.set_cons_succ]
        refine roundSkip 14 (some 39) rfl rfl (by kernel_rfl) (by kernel_rfl) (by kernel_rfl) (by kernel_rfl) (fun _ _ _ h => h) (by kernel_rfl) (by assumption) ?_
        simp only [Act.put, List.setIfInBounds_toArray, List.set_cons_zero, List.set_cons_succ]
        refine roundSkip 15 (some 40) rfl rfl (by kernel_rfl) (by kernel_rfl) (by kernel_rfl) (by kernel_rfl) (fun _ _ _ h => h) (by kernel_rfl) (by assumption) ?_
        simp only [Act.put, List.setIfInBounds_toArray, List.set_cons_zero, List.set_cons_succ]
        refine roundSkip 16 (some 41) rfl rfl (by kernel_rfl) (by kernel_rfl) (by kernel_rfl) (by kernel_rfl) (fun _ _ _ h => h) (by kernel_rfl) (by assumption) ?_
        simp only [Act.put, List.setIfInBounds_toArray, List.set_cons_zero, List.set_cons_succ]
        refine roundSkip 17 (some 42) rfl rfl (by kernel_rfl) (by kernel_rfl) (by kernel_rfl) (by kernel_rfl) (fun _ _ _ h => h) (by kernel_rfl) (by assumption) ?_
        simp only [Act.put, List.setIfInBounds_toArray, List.set_cons_zero, List.set_cons_succ]
        refine roundSkip 18 (some 43) rfl rfl (by kernel_rfl) (by kernel_rfl) (by kernel_rfl) (by kernel_rfl) (fun _ _ _ h => h) (by kernel_rfl) (by assumption) ?_
        simp only [Act.put, List.setIfInBounds_toArray, List.set_cons_zero, List.set_cons_succ]
        refine roundSkip 19 (some 44) rfl rfl (by kernel_rfl) (by kernel_rfl) (by kernel_rfl) (by kernel_rfl) (fun _ _ _ h => h) (by kernel_rfl) (by assumption) ?_
        simp only [Act.put, List.setIfInBounds_toArray, List.set_cons_zero, List.set_cons_succ]
        refine roundValue 20 (some 45) (.bool false) wr.drew (by kernel_rfl) rfl rfl (.inl (by kernel_rfl)) (by kernel_rfl) (by go_simp) ?_
        simp only [Act.put, List.setIfInBounds_toArray, List.set_cons_zero, List.set_cons_succ]
        refine wpAnyR.done (by kernel_rfl) ?_ _
        have HF : Hid (Own wr.drew w2.heap.size (.slice a3 (hp (ks.take j)).length c3) (hp (ks.take (j + 1))) ∧ Since w2.heap.size w2 wr.drew) := ⟨by rw [HT1.out]; exact HK.out.1.drew, HK.out.2.1.drew, HK.out.2.2⟩
        clear HK HSH CE1 hHeld SWR HT1
        go_wp2
        go_roundw
        case rel => exact ⟨j + 1, by omega, by go_num, HF.out⟩
        case measure => simp [intOf]; omega
    · have e : j = ks.length := by omega
      have HE : Hid (Own wr W.heap.size (.slice a3 (hp (ks.take j)).length c3) (hp ks) ∧ Below W.heap.size W wr) := by
        have := HK.out
        rw [e, List.take_length] at this ⊢
        exact ⟨this.1.mono HF2.out.2.2, HF2.out.2.1.trans (this.2.1.mono HF2.out.2.2)⟩
      clear HK
      subst e
      go_wp2
      go_ret
      exact ⟨_, rfl, HE.out.1, HE.out.2⟩
end Go.Proofs.Ythlbmkefjjckaac
