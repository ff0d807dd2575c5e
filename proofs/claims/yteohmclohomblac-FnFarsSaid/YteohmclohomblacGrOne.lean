/-
  'slices.Max' of numbers; 'IsOneGroup' of both.
-/
import Derived.Test.YteohmclohomblacGrGrpS
namespace Go.Proofs.Yteohmclohomblac
open Go.RowKit
set_option linter.unusedVariables false

/-- The greatest. -/
def maxL : List Int → Int
  | [] => 0
  | x :: r => r.foldl max x
theorem maxL_take (zs : List Int) (k : Nat) (h0 : 0 < k) (h : k < zs.length) : maxL (zs.take (k + 1)) = max (maxL (zs.take k)) zs[k] := by
  cases zs with
  | nil => simp at h
  | cons x r =>
    obtain ⟨j, rfl⟩ : ∃ j, k = j + 1 := ⟨k - 1, by omega⟩
    have hj : j < r.length := by simpa using h
    simp only [List.take_succ_cons, maxL, List.getElem_cons_succ]
    rw [List.take_succ_eq_append_getElem hj, List.foldl_append]
    rfl
theorem foldl_max_ge (r : List Int) : ∀ x : Int, x ≤ r.foldl max x ∧ ∀ y ∈ r, y ≤ r.foldl max x := by
  induction r with
  | nil => intro x; exact ⟨Int.le_refl _, fun y hy => by cases hy⟩
  | cons z s ih =>
    intro x
    rw [List.foldl_cons]
    obtain ⟨h1, h2⟩ := ih (max x z)
    refine ⟨by omega, fun y hy => ?_⟩
    rcases List.mem_cons.1 hy with rfl | hy
    · omega
    · exact h2 y hy
theorem foldl_max_mem (r : List Int) : ∀ x : Int, r.foldl max x = x ∨ r.foldl max x ∈ r := by
  induction r with
  | nil => intro x; exact .inl rfl
  | cons z s ih =>
    intro x
    rw [List.foldl_cons]
    rcases ih (max x z) with h | h
    · rw [h]
      rcases Int.le_total x z with hle | hle
      · rw [Int.max_eq_right hle]; exact .inr (List.mem_cons_self ..)
      · rw [Int.max_eq_left hle]; exact .inl rfl
    · exact .inr (List.mem_cons_of_mem _ h)
theorem maxL_zero (zs : List Int) (h0 : 0 < zs.length) (hp : ∀ k (hk : k < zs.length), 0 ≤ zs[k]) : (maxL zs == 0) = allB zs 0 0 := by
  cases zs with
  | nil => simp at h0
  | cons x r =>
    have hx : 0 ≤ x := hp 0 (by simp)
    have hr : ∀ y ∈ r, 0 ≤ y := fun y hy => by
      obtain ⟨j, hj, rfl⟩ := List.getElem_of_mem hy
      have := hp (j + 1) (by simpa using hj)
      simpa using this
    obtain ⟨h1, h2⟩ := foldl_max_ge r x
    by_cases hz : r.foldl max x = 0
    · rw [show maxL (x :: r) = r.foldl max x from rfl, hz, allB_yes (x :: r) 0 0 fun j hj => ?_]
      · rfl
      · have hm := List.getElem_mem hj
        rcases List.mem_cons.1 hm with e | hm
        · rw [e]; omega
        · have a1 := h2 _ hm
          have a2 := hr _ hm
          omega
    · rw [show (maxL (x :: r) == 0) = false from beq_eq_false_iff_ne.2 hz]
      symm
      have hmem : r.foldl max x ∈ x :: r := (foldl_max_mem r x).elim (fun e => by rw [e]; exact List.mem_cons_self ..) fun h => List.mem_cons_of_mem _ h
      obtain ⟨j, hj, e⟩ := List.getElem_of_mem hmem
      exact allB_no (x :: r) 0 0 j hj (.inr (by rw [e]; omega))

set_option maxRecDepth 100000 in
set_option maxHeartbeats 2000000 in
theorem max_any (W : World) (v : Value) (zs : List Int) (h : Reads W v zs) (h0 : 0 < zs.length) (hl : zs.length ≤ 12) :
    Calls Try.prog 97 #[v] W fun e W' => e = .returned (.int .i64 (maxL zs)) ∧ W' = W := by
  obtain ⟨a1, cap1, rfl, hc1⟩ := h
  obtain ⟨g1, o1, rfl, hg1, hc1⟩ := hc1.resolve_left (fun e => by rw [e] at h0; exact absurd h0 (by simp))
  have HC1 : Hid (∀ j (hj : j < zs.length), W.cell? ⟨g1, o1 + j, none⟩ = some (.int .i64 zs[j])) := hc1
  have q0 : W.cell? ⟨g1, o1, none⟩ = some (.int .i64 zs[0]) := hc1 0 h0
  have HFIRST : Hid (zs[0] = maxL (zs.take 1)) := by
    show _ = _
    cases zs with
    | nil => simp at h0
    | cons x r => rfl
  have hlt0 : ¬ ((zs.length : Int) < 1) := by omega
  have hpos : 0 < (zs.length : Int) := by omega
  clear hc1 hg1
  generalize zs[0] = z0 at *
  go_enter Try.func97, Try.ntmps97
  go_wp2
  clear q0
  go_loop [3, 4] (fun m i => ∃ k : Nat, (1 ≤ k ∧ k ≤ zs.length) ∧ i = .int .i64 k ∧ ∃ z, m = .int .i64 z ∧ Hid (z = maxL (zs.take k))) (fun _ i => zs.length - (intOf i).toNat)
  case atStart => exact ⟨1, ⟨Nat.le_refl _, h0⟩, rfl, z0, rfl, HFIRST⟩
  case round =>
    obtain ⟨k, ⟨hk1, hk⟩, rfl, z, rfl, HZ⟩ := hrel
    by_cases hlt : k < zs.length
    · have hlt' : (k : Int) < (zs.length : Int) := by omega
      have q0 := HC1.out k hlt
      have HN : Hid (maxL (zs.take (k + 1)) = max z zs[k]) := by
        show _ = _
        rw [maxL_take zs k (by omega) hlt, ← HZ.out]
      clear HZ
      generalize zs[k] = y at *
      rcases Int.lt_trichotomy y z with hc | hc | hc
      · have h1 : y ≤ z := by omega
        have h2 : ¬ z ≤ y := by omega
        have HE : Hid (z = maxL (zs.take (k + 1))) := by show _ = _; rw [HN.out]; omega
        clear hc
        go_wp2
        go_round
        case rel => exact ⟨k + 1, by omega, by go_num, _, rfl, HE⟩
        case measure => simp [intOf]; omega
      · subst hc
        have h1 : y ≤ y := Int.le_refl _
        have HE : Hid (y = maxL (zs.take (k + 1))) := by show _ = _; rw [HN.out]; omega
        go_wp2
        go_round
        case rel => exact ⟨k + 1, by omega, by go_num, _, rfl, HE⟩
        case measure => simp [intOf]; omega
      · have h1 : z ≤ y := by omega
        have h2 : ¬ y ≤ z := by omega
        have HE : Hid (y = maxL (zs.take (k + 1))) := by show _ = _; rw [HN.out]; omega
        go_wp2
        go_round
        case rel => exact ⟨k + 1, by omega, by go_num, _, rfl, HE⟩
        case measure => simp [intOf]; omega
    · have hlt' : ¬ (k : Int) < (zs.length : Int) := by omega
      have HE : Hid (z = maxL zs) := by
        have := HZ.out
        rw [List.take_of_length_le (by omega)] at this
        exact this
      clear HZ
      go_wp2
      go_ret
      exact ⟨ret_int1 HE.out, rfl⟩

theorem one_ret {a b c : Bool} (h : a = b) : (Ending.returned (.tuple #[.bool a, .bool c]) : Ending) = .returned (.tuple #[.bool b, .bool c]) := by rw [h]
def oneOut (n : Int) (l : List EdD) : Bool := goodEd n l && allB (grp n l) 0 0

set_option maxRecDepth 100000 in
set_option maxHeartbeats 2000000 in
theorem implIsOne_any (W : World) (v : Value) (n : Int) (l : List EdD) (h : ReadsEd W v l) (hl : l.length ≤ 2097152) :
    Calls Try.prog 37 #[.int .i64 n, v] W fun e W' => e = .returned (.tuple #[.bool (oneOut n l), .bool (goodEd n l)]) ∧ Below W.heap.size W W' := by
  have CG : Hid (Calls Try.prog 36 #[.int .i64 n, v] W fun e W' => e = .returned (.bool (goodEd n l)) ∧ Below W.heap.size W W') := implGoodEd_any W v n l h hl
  have HRD : Hid (∀ w', Since W.heap.size W w' → ReadsEd w' v l) := fun w' hs => h.below hs.1
  have HS0 : Hid (Since W.heap.size W W) := Since.start W
  obtain ⟨a1, c1, rfl⟩ := h.shape
  have HD : Hid (oneOut n l = (goodEd n l && allB (grp n l) 0 0)) := rfl
  generalize oneOut n l = one at *
  clear h
  cases hg : goodEd n l with
  | false =>
    have HF : Hid (one = false) := HD.out.trans (by rw [hg]; rfl)
    rw [hg] at CG
    clear hg HD
    go_enter Try.func37, Try.ntmps37
    go_wp2_with fail
    refine CG.out.mono ?_
    rintro e w1 ⟨rfl, hb1⟩
    have HB1 : Hid (Below W.heap.size W w1) := hb1
    clear hb1
    go_wp2
    refine bodyPost_ret (results_tmp2 rfl _ _ _) rfl ?_
    exact ⟨one_ret HF.out.symm, HB1.out⟩
  | true =>
    obtain ⟨hn, hl40, hf, -⟩ := goodEd_true hg
    rw [hg] at CG
    have HOT : Hid (one = allB (grp n l) 0 0) := HD.out.trans (by rw [hg]; rfl)
    have CN : Hid (∀ w', Since W.heap.size W w' → Calls Try.prog 90 #[.int .i64 n, .slice a1 l.length c1] w' fun e w2 => ∃ u, e = .returned u ∧ Own w2 w'.heap.size u (grp n l) ∧ Below w'.heap.size w' w2) := fun w' hs => by
      obtain ⟨m, rfl⟩ : ∃ m : Nat, n = (m : Int) := ⟨n.toNat, by omega⟩
      exact groupsOf_any w' _ m l (HRD.out w' hs) hl40 (by omega) (by omega) hf
    obtain ⟨mx, hmx⟩ : ∃ mx, mx = maxL (grp n l) := ⟨_, rfl⟩
    have CM : Hid (∀ (w' : World) u, Own w' W.heap.size u (grp n l) → Calls Try.prog 97 #[u] w' fun e w2 => e = .returned (.int .i64 mx) ∧ w2 = w') := fun w' u ho => by
      rw [hmx]
      exact max_any w' u _ ho.reads (by rw [grp_len n l hf]; omega) (by rw [grp_len n l hf]; omega)
    have HMX : Hid ((mx == 0) = one) := by
      show _ = _
      rw [hmx]
      exact (maxL_zero _ (by rw [grp_len n l hf]; omega) fun k hk => by
        have hb := (isGrp_grp n l hf).2.2.1 (k : Int) (by omega) (by have := grp_len n l hf; omega)
        rw [lab_get _ k hk] at hb
        exact hb.1).trans HOT.out.symm
    clear hg HD hf HOT hmx
    go_enter Try.func37, Try.ntmps37
    go_wp2_with fail
    refine CG.out.mono ?_
    rintro e w1 ⟨rfl, hb1⟩
    have HS1 : Hid (Since W.heap.size W w1) := HS0.out.step hb1
    clear hb1
    go_wp2_with fail
    refine (CN.out _ HS1.out).mono ?_
    rintro e w2 ⟨u2, rfl, ho2, hb2⟩
    have HO2 : Hid (Own w2 W.heap.size u2 (grp n l)) := ho2.mono HS1.out.2
    have HS2 : Hid (Since W.heap.size W w2) := HS1.out.step hb2
    clear ho2 hb2
    go_wp2_with fail
    refine (CM.out w2 u2 HO2.out).mono ?_
    rintro e w3 ⟨rfl, hw3⟩
    obtain rfl := hw3
    have HEQ : Hid ((mx == 0) = one) := HMX.out
    go_wp2
    refine bodyPost_ret (results_tmp2 rfl _ _ _) rfl ?_
    exact ⟨one_ret HEQ.out, HS2.out.1⟩

set_option maxRecDepth 100000 in
set_option maxHeartbeats 2000000 in
theorem specIsOne_any (W : World) (v : Value) (n : Int) (l : List EdD) (h : ReadsEd W v l) (hl : l.length ≤ 2097152) :
    Calls Try.prog 39 #[.int .i64 n, v] W fun e W' => e = .returned (.tuple #[.bool (oneOut n l), .bool (goodEd n l)]) ∧ Below W.heap.size W W' := by
  have CG : Hid (Calls Try.prog 91 #[.int .i64 n, v] W fun e W' => e = .returned (.bool (goodEd n l)) ∧ Below W.heap.size W W') := specGoodEd_any W v n l h hl
  have HRD : Hid (∀ w', Since W.heap.size W w' → ReadsEd w' v l) := fun w' hs => h.below hs.1
  have HS0 : Hid (Since W.heap.size W W) := Since.start W
  obtain ⟨a1, c1, rfl⟩ := h.shape
  have HD : Hid (oneOut n l = (goodEd n l && allB (grp n l) 0 0)) := rfl
  generalize oneOut n l = one at *
  clear h
  cases hg : goodEd n l with
  | false =>
    have HF : Hid (one = false) := HD.out.trans (by rw [hg]; rfl)
    rw [hg] at CG
    clear hg HD
    go_enter Try.func39, Try.ntmps39
    go_wp2_with fail
    refine CG.out.mono ?_
    rintro e w1 ⟨rfl, hb1⟩
    have HB1 : Hid (Below W.heap.size W w1) := hb1
    clear hb1
    go_wp2
    refine bodyPost_ret (results_tmp2 rfl _ _ _) rfl ?_
    exact ⟨one_ret HF.out.symm, HB1.out⟩
  | true =>
    obtain ⟨hn, hl40, hf, -⟩ := goodEd_true hg
    rw [hg] at CG
    have HOT : Hid (one = allB (grp n l) 0 0) := HD.out.trans (by rw [hg]; rfl)
    have CN : Hid (∀ w', Since W.heap.size W w' → Calls Try.prog 92 #[.int .i64 n, .slice a1 l.length c1] w' fun e w2 => ∃ u, e = .returned u ∧ Own w2 w'.heap.size u (grp n l) ∧ Below w'.heap.size w' w2) := fun w' hs => by
      obtain ⟨m, rfl⟩ : ∃ m : Nat, n = (m : Int) := ⟨n.toNat, by omega⟩
      exact l8Groups_any w' _ m l (HRD.out w' hs) hl40 (by omega) (by omega) hf
    skip
    have CM : Hid (∀ (w' : World) u, Own w' W.heap.size u (grp n l) → Calls Try.prog 98 #[u, .int .i64 0, .int .i64 0] w' fun e w2 => e = .returned (.bool one) ∧ Below w'.heap.size w' w2) := fun w' u ho => by
      rw [HOT.out]
      exact (l1All_any w' u _ 0 0 ho.reads (by rw [grp_len n l hf]; omega)).mono fun e w2 hh => ⟨hh.1, by rw [hh.2]; exact Below.refl _ _⟩
    clear hg HD hf HOT
    go_enter Try.func39, Try.ntmps39
    go_wp2_with fail
    refine CG.out.mono ?_
    rintro e w1 ⟨rfl, hb1⟩
    have HS1 : Hid (Since W.heap.size W w1) := HS0.out.step hb1
    clear hb1
    go_wp2_with fail
    refine (CN.out _ HS1.out).mono ?_
    rintro e w2 ⟨u2, rfl, ho2, hb2⟩
    have HO2 : Hid (Own w2 W.heap.size u2 (grp n l)) := ho2.mono HS1.out.2
    have HS2 : Hid (Since W.heap.size W w2) := HS1.out.step hb2
    clear ho2 hb2
    go_wp2_with fail
    refine (CM.out w2 u2 HO2.out).mono ?_
    rintro e w3 ⟨rfl, hb3⟩
    have HS3 : Hid (Since W.heap.size W w3) := HS2.out.step hb3
    clear hb3
    go_wp2
    refine bodyPost_ret (results_tmp2 rfl _ _ _) rfl ?_
    exact ⟨rfl, HS3.out.1⟩
end Go.Proofs.Yteohmclohomblac
