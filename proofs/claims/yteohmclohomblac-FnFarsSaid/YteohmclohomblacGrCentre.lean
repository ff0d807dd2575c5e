/-
  'CentreOf' of the program and of the model.
-/
import Derived.Test.YteohmclohomblacGrCen
namespace Go.Proofs.Yteohmclohomblac
open Go.RowKit
set_option linter.unusedVariables false

/-- The greatest distances from the first k spots. -/
def greT (n : Nat) (l : List EdD) (k : Nat) : List Int := (List.range k).map fun s : Nat => maxL (fars n l (s : Int))
theorem greT_len (n : Nat) (l : List EdD) (k : Nat) : (greT n l k).length = k := by simp [greT]
theorem greT_succ (n : Nat) (l : List EdD) (k : Nat) : greT n l (k + 1) = greT n l k ++ [maxL (fars n l (k : Int))] := by simp [greT, List.range_succ]
theorem greT_get (n : Nat) (l : List EdD) (m k : Nat) (h : k < m) : (greT n l m).getD k 0 = maxL (fars n l (k : Int)) := by
  simp [greT, List.getD_eq_getElem?_getD, h]
def cenI (n : Int) (l : List EdD) : Int := if goodEd n l then (cenP (greT n.toNat l n.toNat) n.toNat).1 else 0
def cenM (n : Int) (l : List EdD) : Int := if goodEd n l then (cenP (greT n.toNat l n.toNat) n.toNat).2 else 0
def CenPost (W : World) (i m : Int) (ok : Bool) (e : Ending) (W' : World) : Prop := e = .returned (.tuple #[.int .i64 i, .int .i64 m, .bool ok]) ∧ Below W.heap.size W W'

set_option maxRecDepth 100000 in
set_option maxHeartbeats 4000000 in
theorem implCentreOf_any (W : World) (v : Value) (n : Int) (l : List EdD) (h : ReadsEd W v l) (hl : l.length ≤ 2097152) :
    Calls Try.prog 57 #[.int .i64 n, v] W (CenPost W (cenI n l) (cenM n l) (goodEd n l)) := by
  have CG : Hid (Calls Try.prog 36 #[.int .i64 n, v] W fun e W' => e = .returned (.bool (goodEd n l)) ∧ Below W.heap.size W W') := implGoodEd_any W v n l h hl
  have HRD : Hid (∀ w', Since W.heap.size W w' → ReadsEd w' v l) := fun w' hs => h.below hs.1
  have HS0 : Hid (Since W.heap.size W W) := Since.start W
  obtain ⟨a1, c1, rfl⟩ := h.shape
  have HD : Hid (cenI n l = (if goodEd n l then (cenP (greT n.toNat l n.toNat) n.toNat).1 else 0) ∧ cenM n l = if goodEd n l then (cenP (greT n.toNat l n.toNat) n.toNat).2 else 0) := ⟨rfl, rfl⟩
  generalize cenI n l = ci at *
  generalize cenM n l = cm at *
  clear h
  cases hg : goodEd n l with
  | false =>
    rw [hg] at CG HD
    have HF : Hid (ci = 0 ∧ cm = 0) := ⟨HD.out.1, HD.out.2⟩
    clear hg HD
    go_enter Try.func57, Try.ntmps57
    go_wp2_with fail
    refine CG.out.mono ?_
    rintro e w1 ⟨rfl, hb1⟩
    have HB1 : Hid (Below W.heap.size W w1) := hb1
    clear hb1
    go_wp2
    refine bodyPost_ret (results_tmp3 rfl _ _ _) rfl ?_
    exact ⟨by rw [HF.out.1, HF.out.2]; rfl, HB1.out⟩
  | true =>
    rw [hg] at CG HD
    obtain ⟨g1, g2, g3, g4⟩ := goodEd_true hg
    obtain ⟨N, rfl⟩ : ∃ N : Nat, n = (N : Int) := ⟨n.toNat, by omega⟩
    have HF : Hid (ci = (cenP (greT N l N) N).1 ∧ cm = (cenP (greT N l N) N).2) := ⟨HD.out.1, HD.out.2⟩
    have hN1 : 1 ≤ N := by omega
    have hN2 : N ≤ 12 := by omega
    have CF : Hid (∀ (w' : World) (k : Nat), Since W.heap.size W w' → k < N → Calls Try.prog 107 #[.int .i64 (N : Int), .slice a1 l.length c1, .int .i64 (k : Int)] w' fun e w2 => ∃ u, e = .returned u ∧ Own w2 w'.heap.size u (fars N l (k : Int)) ∧ Below w'.heap.size w' w2) := fun w' k hs hk => farsFrom_any w' _ l N k (HRD.out w' hs) g3 ⟨hN1, hN2⟩ g2 ⟨by omega, by omega⟩
    have CM : Hid (∀ (w' : World) (k B : Nat) (u : Value), Own w' B u (fars N l (k : Int)) → Calls Try.prog 97 #[u] w' fun e w2 => e = .returned (.int .i64 (maxL (fars N l (k : Int)))) ∧ w2 = w') := fun w' k B u ho => max_any w' u _ ho.reads (by rw [fars_len]; omega) (by rw [fars_len]; omega)
    obtain ⟨i, i1, hi, i2, i3, i4⟩ := cenP_min (greT N l N) (by rw [greT_len]; omega)
    rw [greT_len] at i1 i3
    have HI : Hid (ci = (i : Int) ∧ cm = minL (greT N l N)) := ⟨HF.out.1.trans i1, HF.out.2.trans i3⟩
    have CN : Hid (∀ (w' : World) (B : Nat) (u : Value), Own w' B u (greT N l N) → Calls Try.prog 111 #[u] w' fun e w2 => e = .returned (.int .i64 (minL (greT N l N))) ∧ w2 = w') := fun w' B u ho => min_any w' u _ ho.reads (by rw [greT_len]; omega) (by rw [greT_len]; omega)
    have CX : Hid (∀ (w' : World) (B : Nat) (u : Value), Own w' B u (greT N l N) → Calls Try.prog 112 #[u, .int .i64 (minL (greT N l N))] w' fun e w2 => e = .returned (.int .i64 (i : Int)) ∧ w2 = w') := fun w' B u ho => indexG_any w' u _ _ i ho.reads hi i2 i4 (by rw [greT_len]; omega)
    clear hg HD g1 g2 g3 g4 HF i1 i2 i3 i4 hi HRD
    go_enter Try.func57, Try.ntmps57
    go_wp2_with fail
    refine CG.out.mono ?_
    rintro e w1 ⟨rfl, hb1⟩
    have HS1 : Hid (Since W.heap.size W w1) := HS0.out.step hb1
    clear hb1
    go_wp2
    go_loopw [7, 15] (fun u t wr => ∃ k : Nat, k ≤ N ∧ t = .int .i64 k ∧ Hid (Own wr W.heap.size u (greT N l k) ∧ Since W.heap.size W wr)) (fun _ t _ => N - (intOf t).toNat)
    case atStart => exact ⟨0, Nat.zero_le _, rfl, Own.nil _ _, HS1.out⟩
    case round =>
      obtain ⟨k, hk, rfl, HK⟩ := hrel
      obtain ⟨a2, c2, rfl⟩ := HK.out.1.shape
      rw [greT_len] at *
      by_cases hlt : k < N
      · have hlt' : (k : Int) < (N : Int) := by omega
        have HZ := greT_succ N l k
        go_wp2_with fail
        refine (CF.out _ k HK.out.2 hlt).mono ?_
        rintro e wq ⟨uq, rfl, hoq, hbq⟩
        obtain ⟨aq, cq, rfl⟩ := hoq.shape
        have OQ : Hid (Own wq W.heap.size (.slice a2 k c2) (greT N l k)) := HK.out.1.below hbq
        have SQ : Hid (Since W.heap.size W wq) := HK.out.2.step hbq
        have HOQ : Hid (Own wq wr.heap.size (.slice aq (fars N l (k : Int)).length cq) (fars N l (k : Int))) := hoq
        clear hoq hbq HK
        go_wp2_with fail
        refine (CM.out _ k _ _ HOQ.out).mono ?_
        rintro e ww ⟨rfl, hww⟩
        obtain rfl : wq = ww := hww.symm
        clear HOQ
        have hgl := greT_len N l k
        generalize maxL (fars N l (k : Int)) = z at *
        generalize greT N l k = z0 at *
        have hb1 : Below wq.heap.size wq (wq.alloc (.cells #[.int .i64 z] 3)) := (Below.refl _ wq).alloc (Nat.le_refl _) _
        have HC : Hid (∀ ty, ∃ v' w', (Builtin.append_ #[35, 35] ty #[.slice a2 k c2, .slice (some ⟨wq.heap.size, 0, none⟩) 1 1]).run Try.prog (wq.alloc (.cells #[.int .i64 z] 3)) = .ok v' w' ∧ Grown (wq.alloc (.cells #[.int .i64 z] 3)) W.heap.size 3 1 (.slice a2 k c2) (z0 ++ [z]).length ((z0 ++ [z]).map (Value.int .i64)) v' w') := fun ty =>
          run_app1 _ _ _ z0 (OQ.out.below hb1) wq.heap.size 1 z (new_cell _ _ _) (by omega) (by have := SQ.out.2; simp; omega) ty
        have SQ1 : Hid (Since W.heap.size W (wq.alloc (.cells #[.int .i64 z] 3))) := SQ.out.step hb1
        have HZ1 : Hid (greT N l (k + 1) = z0 ++ [z]) := HZ
        clear hb1 HZ hgl
        go_wp2_with (at_builtin; refine list_app (by rfl) (.tmp 18) (.tmp 24) 35 (by rfl) (.slice a2 k c2) (.slice (some ⟨wq.heap.size, 0, none⟩) 1 1) (by rfl) (by rfl) _ HC.out ?_; intro v5 w5 hg5; have HF : Hid (Own w5 W.heap.size v5 (greT N l (k + 1)) ∧ Since W.heap.size W w5) := ⟨by rw [HZ1.out]; exact hg5.own, ⟨SQ1.out.1.trans hg5.below, Nat.le_trans SQ1.out.2 hg5.size⟩⟩; clear hg5)
        go_roundw
        case rel => exact ⟨k + 1, by omega, by go_num, HF.out⟩
        case measure => simp [intOf]; omega
      · have e : k = N := by omega
        subst e
        have HOK : Hid (Own wr W.heap.size (.slice a2 k c2) (greT k l k)) := HK.out.1
        have HS2 : Hid (Since W.heap.size W wr) := HK.out.2
        clear HK CF CM
        go_wp2_with fail
        refine (CN.out _ _ _ HOK.out).mono ?_
        rintro e ww ⟨rfl, hww⟩
        obtain rfl : wr = ww := hww.symm
        go_wp2_with fail
        refine (CX.out _ _ _ HOK.out).mono ?_
        rintro e ww ⟨rfl, hww⟩
        obtain rfl : wr = ww := hww.symm
        go_wp2
        refine bodyPost_ret (results_tmp3 rfl _ _ _) rfl ?_
        exact ⟨by rw [HI.out.1, HI.out.2]; rfl, HS2.out.1⟩

/-- The greatest so far of numbers from nought on. -/
def topT (zs : List Int) (k : Nat) : Int := (zs.take k).foldl max 0
theorem topT_succ (zs : List Int) (k : Nat) (h : k < zs.length) : topT zs (k + 1) = max (topT zs k) zs[k] := by
  unfold topT
  rw [List.take_succ_eq_append_getElem h, List.foldl_append]
  rfl
theorem topT_all (zs : List Int) (h : 0 < zs.length) (hp : ∀ y ∈ zs, 0 ≤ y) : topT zs zs.length = maxL zs := by
  unfold topT
  rw [List.take_length]
  cases zs with
  | nil => simp at h
  | cons x r =>
    have := hp x (List.mem_cons_self ..)
    rw [List.foldl_cons, show max 0 x = x by omega]
    rfl

set_option maxRecDepth 100000 in
set_option maxHeartbeats 4000000 in
theorem specCentreOf_any (W : World) (v : Value) (n : Int) (l : List EdD) (h : ReadsEd W v l) (hl : l.length ≤ 2097152) :
    Calls Try.prog 58 #[.int .i64 n, v] W (CenPost W (cenI n l) (cenM n l) (goodEd n l)) := by
  have CG : Hid (Calls Try.prog 91 #[.int .i64 n, v] W fun e W' => e = .returned (.bool (goodEd n l)) ∧ Below W.heap.size W W') := specGoodEd_any W v n l h hl
  have HRD : Hid (∀ w', Since W.heap.size W w' → ReadsEd w' v l) := fun w' hs => h.below hs.1
  have HS0 : Hid (Since W.heap.size W W) := Since.start W
  obtain ⟨a1, c1, rfl⟩ := h.shape
  have HD : Hid (cenI n l = (if goodEd n l then (cenP (greT n.toNat l n.toNat) n.toNat).1 else 0) ∧ cenM n l = if goodEd n l then (cenP (greT n.toNat l n.toNat) n.toNat).2 else 0) := ⟨rfl, rfl⟩
  generalize cenI n l = ci at *
  generalize cenM n l = cm at *
  clear h
  cases hg : goodEd n l with
  | false =>
    rw [hg] at CG HD
    have HF : Hid (ci = 0 ∧ cm = 0) := ⟨HD.out.1, HD.out.2⟩
    clear hg HD
    go_enter Try.func58, Try.ntmps58
    go_wp2_with fail
    refine CG.out.mono ?_
    rintro e w1 ⟨rfl, hb1⟩
    have HB1 : Hid (Below W.heap.size W w1) := hb1
    clear hb1
    go_wp2
    refine bodyPost_ret (results_tmp3 rfl _ _ _) rfl ?_
    exact ⟨by rw [HF.out.1, HF.out.2]; rfl, HB1.out⟩
  | true =>
    rw [hg] at CG HD
    obtain ⟨g1, g2, g3, g4⟩ := goodEd_true hg
    obtain ⟨N, rfl⟩ : ∃ N : Nat, n = (N : Int) := ⟨n.toNat, by omega⟩
    have HF : Hid (ci = (cenP (greT N l N) N).1 ∧ cm = (cenP (greT N l N) N).2) := ⟨HD.out.1, HD.out.2⟩
    have hN1 : 1 ≤ N := by omega
    have hN2 : N ≤ 12 := by omega
    have CF : Hid (∀ (w' : World) (k : Nat), Since W.heap.size W w' → k < N → Calls Try.prog 108 #[.int .i64 (N : Int), .slice a1 l.length c1, .int .i64 (k : Int)] w' fun e w2 => ∃ u, e = .returned u ∧ Own w2 w'.heap.size u (fars N l (k : Int)) ∧ Below w'.heap.size w' w2) := fun w' k hs hk => l9Fars_any w' _ l N k (HRD.out w' hs) g3 ⟨hN1, hN2⟩ g2 ⟨by omega, by omega⟩
    have HTOP : Hid (∀ k : Nat, k < N → topT (fars N l (k : Int)) (fars N l (k : Int)).length = maxL (fars N l (k : Int))) := fun k hk => topT_all _ (by rw [fars_len]; omega) fun y hy => by
      obtain ⟨j, hj, rfl⟩ := List.getElem_of_mem hy
      have hj' := hj
      rw [fars_len] at hj'
      rw [← lab_get _ _ hj]
      exact fars_nonneg g3 ⟨by omega, by omega⟩ j (by omega) (by omega)
    have HST : Hid (∀ k : Nat, k < N → cenP (greT N l N) (k + 1) = if (cenP (greT N l N) k).1 < 0 ∨ maxL (fars N l (k : Int)) < (cenP (greT N l N) k).2 then ((k : Int), maxL (fars N l (k : Int))) else cenP (greT N l N) k) := fun k hk => by
      rw [cenP, greT_get N l N k hk]
    obtain ⟨cp, hcp⟩ : ∃ cp, cp = cenP (greT N l N) := ⟨_, rfl⟩
    have H0 : Hid (cp 0 = (-1, 0)) := by rw [hcp]; rfl
    rw [← hcp] at HF HST
    clear hg HD g1 g2 g3 g4 HRD hcp
    go_enter Try.func58, Try.ntmps58
    go_wp2_with fail
    refine CG.out.mono ?_
    rintro e w1 ⟨rfl, hb1⟩
    have HS1 : Hid (Since W.heap.size W w1) := HS0.out.step hb1
    clear hb1
    go_wp2
    go_loopw [7, 8, 9] (fun b m t wr => ∃ k : Nat, k ≤ N ∧ t = .int .i64 k ∧ ∃ bi mi : Int, b = .int .i64 bi ∧ m = .int .i64 mi ∧ Hid (cp k = (bi, mi) ∧ Since W.heap.size W wr)) (fun _ _ t _ => N - (intOf t).toNat)
    case atStart => exact ⟨0, Nat.zero_le _, rfl, -1, 0, rfl, rfl, H0.out, HS1.out⟩
    case round =>
      obtain ⟨k, hk, rfl, bi, mi, rfl, rfl, HK⟩ := hrel
      by_cases hlt : k < N
      · have hlt' : (k : Int) < (N : Int) := by omega
        have HT1 : Hid (topT (fars N l (k : Int)) (fars N l (k : Int)).length = maxL (fars N l (k : Int))) := HTOP.out k hlt
        have HS2 : Hid (cp (k + 1) = if bi < 0 ∨ maxL (fars N l (k : Int)) < mi then ((k : Int), maxL (fars N l (k : Int))) else (bi, mi)) := by
          have := HST.out k hlt
          rw [HK.out.1] at this
          exact this
        have hfl : (fars N l (k : Int)).length = N := fars_len
        go_wp2_with fail
        refine (CF.out _ k HK.out.2 hlt).mono ?_
        rintro e wq ⟨uq, rfl, hoq, hbq⟩
        have SQ : Hid (Since W.heap.size W wq) := HK.out.2.step hbq
        obtain ⟨aq, cq, rfl⟩ := hoq.shape
        have HOQ : Hid (Own wq wr.heap.size (.slice aq (fars N l (k : Int)).length cq) (fars N l (k : Int))) := hoq
        clear hoq hbq HK
        generalize maxL (fars N l (k : Int)) = mx at *
        generalize fars N l (k : Int) = zs at *
        go_wp2
        go_loop [10, 27] (fun m t => ∃ j : Nat, j ≤ zs.length ∧ t = .int .i64 j ∧ ∃ q : Int, m = .int .i64 q ∧ Hid (q = topT zs j)) (fun _ t => zs.length - (intOf t).toNat)
        case atStart => exact ⟨0, Nat.zero_le _, rfl, 0, rfl, rfl⟩
        case round =>
          obtain ⟨j, hj, rfl, q, rfl, HQ⟩ := hrel
          by_cases hlt2 : j < zs.length
          · have hlt2' : (j : Int) < (zs.length : Int) := by omega
            obtain ⟨g, rfl, hcell⟩ : ∃ g, aq = some ⟨g, 0, none⟩ ∧ wq.cell? ⟨g, j, none⟩ = some (.int .i64 zs[j]) := by
              have ho := HOQ.out
              rcases HOQ.out.2 with ⟨hv, h0⟩ | ⟨g, cap, cur, hv, -⟩
              · omega
              · cases hv
                exact ⟨g, rfl, own_cellG ho rfl _ hlt2⟩
            have HN : Hid (topT zs (j + 1) = max q zs[j]) := by
              show _ = _
              rw [topT_succ zs j hlt2, ← HQ.out]
            clear HQ
            generalize zs[j] = y at *
            by_cases hq : q < y
            · have hq' : decide (q < y) = true := by simpa using hq
              have HE : Hid (y = topT zs (j + 1)) := by show _ = _; rw [HN.out]; omega
              clear HN hq
              go_wp2
              go_round
              case rel => exact ⟨j + 1, by omega, by go_num, _, rfl, HE⟩
              case measure => simp [intOf]; omega
            · have hq' : decide (q < y) = false := by simpa using hq
              have HE : Hid (q = topT zs (j + 1)) := by show _ = _; rw [HN.out]; omega
              clear HN hq
              go_wp2
              go_round
              case rel => exact ⟨j + 1, by omega, by go_num, _, rfl, HE⟩
              case measure => simp [intOf]; omega
          · have e : j = zs.length := by omega
            subst e
            have e2 : q = mx := HQ.out.trans HT1.out
            subst e2
            clear HQ HT1 HOQ
            by_cases hb : bi < 0
            · have hb' : decide (bi < 0) = true := by simpa using hb
              have HE : Hid (cp (k + 1) = ((k : Int), q) ∧ Since W.heap.size W wq) := by
                have := HS2.out
                rw [if_pos (.inl hb)] at this
                exact ⟨this, SQ.out⟩
              clear HS2 SQ hb
              go_wp2
              go_roundw
              case rel => exact ⟨k + 1, by omega, by go_num, _, _, rfl, rfl, HE.out⟩
              case measure => simp [intOf]; omega
            · have hb' : decide (bi < 0) = false := by simpa using hb
              by_cases hm : q < mi
              · have hm' : decide (q < mi) = true := by simpa using hm
                have HE : Hid (cp (k + 1) = ((k : Int), q) ∧ Since W.heap.size W wq) := by
                  have := HS2.out
                  rw [if_pos (.inr hm)] at this
                  exact ⟨this, SQ.out⟩
                clear HS2 SQ hb hm
                go_wp2
                go_roundw
                case rel => exact ⟨k + 1, by omega, by go_num, _, _, rfl, rfl, HE.out⟩
                case measure => simp [intOf]; omega
              · have hm' : decide (q < mi) = false := by simpa using hm
                have HE : Hid (cp (k + 1) = (bi, mi) ∧ Since W.heap.size W wq) := by
                  have := HS2.out
                  rw [if_neg (by omega)] at this
                  exact ⟨this, SQ.out⟩
                clear HS2 SQ hb hm
                go_wp2
                go_roundw
                case rel => exact ⟨k + 1, by omega, by go_num, _, _, rfl, rfl, HE.out⟩
                case measure => simp [intOf]; omega
      · have e : k = N := by omega
        subst e
        have HE : Hid (ci = bi ∧ cm = mi ∧ Below W.heap.size W wr) := ⟨by rw [HF.out.1, HK.out.1], by rw [HF.out.2, HK.out.1], HK.out.2.1⟩
        clear HK HF HST HTOP CF
        go_wp2
        refine bodyPost_ret (results_tmp3 rfl _ _ _) rfl ?_
        exact ⟨by rw [HE.out.1, HE.out.2.1]; rfl, HE.out.2.2⟩
end Go.Proofs.Yteohmclohomblac
