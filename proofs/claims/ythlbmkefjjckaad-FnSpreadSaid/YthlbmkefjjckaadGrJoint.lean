/-
  What edges and tellings are asked by the same functions: from where to where, the cost, whether each is as said, what was told last.
-/
import Derived.Test.YthlbmkefjjckaadGrMath
import Derived.Test.YthlbmkefjjckaadSince0
import Derived.Test.YthlbmkefjjckaadHand
namespace Go.Proofs.Ythlbmkefjjckaad
open Go.RowKit
set_option linter.unusedVariables false

theorem ret_bool1 {a b : Bool} (h : a = b) : (Ending.returned (.bool a) : Ending) = .returned (.bool b) := by rw [h]
theorem ret_int1 {a b : Int} (h : a = b) : (Ending.returned (.int .i64 a) : Ending) = .returned (.int .i64 b) := by rw [h]
/-- A joint of spots. -/
def okJ (n a b c : Int) : Bool := (decide (0 ≤ a ∧ a < n) && decide (0 ≤ b ∧ b < n)) && (!(a == b) && (decide (1 ≤ c) && decide (c ≤ 100)))

theorem isSpot_any (W : World) (a n : Int) : Calls Try.prog 46 #[.int .i64 a, .int .i64 n] W fun e W' => e = .returned (.bool (decide (0 ≤ a ∧ a < n))) ∧ W' = W := by
  have e : decide (0 ≤ a ∧ a < n) = (decide (0 ≤ a) && decide (a < n)) := by rw [Bool.eq_iff_iff]; simp
  rw [e]
  cases d1 : decide (0 ≤ a) <;> cases d2 : decide (a < n) <;>
    (go_enter Try.func46, Try.ntmps46
     go_wp2
     go_ret
     exact ⟨rfl, rfl⟩)

theorem newEd (W : World) (x : EdD) : ∀ w', Since (W.alloc (.cells #[.int .i64 x.A, .int .i64 x.B, .int .i64 x.Cost] 84)).heap.size (W.alloc (.cells #[.int .i64 x.A, .int .i64 x.B, .int .i64 x.Cost] 84)) w' → w'.cell? ⟨W.heap.size, 0, none⟩ = some (.int .i64 x.A) ∧ w'.cell? ⟨W.heap.size, 1, none⟩ = some (.int .i64 x.B) ∧ w'.cell? ⟨W.heap.size, 2, none⟩ = some (.int .i64 x.Cost) := fun w' hs =>
  ⟨(hs.1.cell (p := ⟨W.heap.size, 0, none⟩) (by simp)).trans (by rw [World.cell?_alloc_at _ _ _ _ rfl]; rfl), (hs.1.cell (p := ⟨W.heap.size, 1, none⟩) (by simp)).trans (by rw [World.cell?_alloc_at _ _ _ _ rfl]; rfl), (hs.1.cell (p := ⟨W.heap.size, 2, none⟩) (by simp)).trans (by rw [World.cell?_alloc_at _ _ _ _ rfl]; rfl)⟩

theorem endsEd_any (W : World) (x : EdD) : Calls Try.prog 133 #[.agg #[.int .i64 x.A, .int .i64 x.B, .int .i64 x.Cost]] W fun e W' => e = .returned (.tuple #[.int .i64 x.A, .int .i64 x.B]) ∧ Below W.heap.size W W' := by
  have HB : Hid (Below W.heap.size W (W.alloc (.cells #[.int .i64 x.A, .int .i64 x.B, .int .i64 x.Cost] 84))) := (Below.refl _ W).alloc (Nat.le_refl _) _
  go_enter Try.func133, Try.ntmps133
  go_wp2
  go_quiet (fail)
  go_wp2
  refine bodyPost_ret (results_tmp2 rfl _ _ _) rfl ?_
  exact ⟨rfl, below_drewN HB.out nq⟩
theorem costEd_any (W : World) (x : EdD) : Calls Try.prog 132 #[.agg #[.int .i64 x.A, .int .i64 x.B, .int .i64 x.Cost]] W fun e W' => e = .returned (.int .i64 x.Cost) ∧ Below W.heap.size W W' := by
  have HB : Hid (Below W.heap.size W (W.alloc (.cells #[.int .i64 x.A, .int .i64 x.B, .int .i64 x.Cost] 84))) := (Below.refl _ W).alloc (Nat.le_refl _) _
  go_enter Try.func132, Try.ntmps132
  go_wp2
  go_ret
  exact ⟨rfl, HB.out⟩
set_option maxRecDepth 100000 in
set_option maxHeartbeats 2000000 in
theorem isJointEd_any (W : World) (x : EdD) (n : Int) : Calls Try.prog 97 #[.agg #[.int .i64 x.A, .int .i64 x.B, .int .i64 x.Cost], .int .i64 n] W fun e W' => e = .returned (.bool (okJ n x.A x.B x.Cost)) ∧ Below W.heap.size W W' := by
  have HB : Hid (Below W.heap.size W (W.alloc (.cells #[.int .i64 x.A, .int .i64 x.B, .int .i64 x.Cost] 84))) := (Below.refl _ W).alloc (Nat.le_refl _) _
  obtain ⟨oo, hoo⟩ : ∃ oo, oo = okJ n x.A x.B x.Cost := ⟨_, rfl⟩
  rw [← hoo]
  have HO : Hid (oo = okJ n x.A x.B x.Cost) := hoo
  clear hoo
  go_enter Try.func97, Try.ntmps97
  go_wp2_with fail
  refine (endsEd_any _ x).mono ?_
  rintro e w1 ⟨rfl, hb1⟩
  have SA1 : Hid (Since (W.alloc (.cells #[.int .i64 x.A, .int .i64 x.B, .int .i64 x.Cost] 84)).heap.size (W.alloc (.cells #[.int .i64 x.A, .int .i64 x.B, .int .i64 x.Cost] 84)) w1) := (Since.start (W.alloc (.cells #[.int .i64 x.A, .int .i64 x.B, .int .i64 x.Cost] 84))).step hb1
  have HX : Hid (∀ w', Since (W.alloc (.cells #[.int .i64 x.A, .int .i64 x.B, .int .i64 x.Cost] 84)).heap.size (W.alloc (.cells #[.int .i64 x.A, .int .i64 x.B, .int .i64 x.Cost] 84)) w' → w'.cell? ⟨W.heap.size, 0, none⟩ = some (.int .i64 x.A) ∧ w'.cell? ⟨W.heap.size, 1, none⟩ = some (.int .i64 x.B) ∧ w'.cell? ⟨W.heap.size, 2, none⟩ = some (.int .i64 x.Cost)) := newEd W x
  have HB1 : Hid (Below W.heap.size W w1) := HB.out.trans (SA1.out.1.mono (by simp))
  clear hb1
  obtain ⟨c0, c1, c2⟩ := HX.out w1 SA1.out
  go_wp2_with fail
  refine (isSpot_any w1 x.A n).mono ?_
  rintro e w2 ⟨rfl, hw2⟩
  obtain rfl : w1 = w2 := hw2.symm
  cases d1 : decide (0 ≤ x.A ∧ x.A < n) with
  | false =>
    go_wp2
    go_ret
    exact ⟨ret_bool1 (HO.out.trans (by unfold okJ; rw [d1]; rfl)).symm, HB1.out⟩
  | true =>
    go_wp2_with fail
    refine (isSpot_any w1 x.B n).mono ?_
    rintro e w2 ⟨rfl, hw2⟩
    obtain rfl : w1 = w2 := hw2.symm
    cases d2 : decide (0 ≤ x.B ∧ x.B < n) with
    | false =>
      go_wp2
      go_ret
      exact ⟨ret_bool1 (HO.out.trans (by unfold okJ; rw [d1, d2]; rfl)).symm, HB1.out⟩
    | true =>
      cases d3 : (x.A == x.B) with
      | true =>
        go_wp2
        go_ret
        exact ⟨ret_bool1 (HO.out.trans (by unfold okJ; rw [d1, d2, d3]; rfl)).symm, HB1.out⟩
      | false =>
        go_wp2_with fail
        refine (costEd_any w1 x).mono ?_
        rintro e w2 ⟨rfl, hb2⟩
        have HB2 : Hid (Below W.heap.size W w2) := HB1.out.trans (hb2.mono HB1.out.size)
        have HX2 := HX.out w2 (SA1.out.step hb2)
        clear hb2 c0 c1 c2
        obtain ⟨c0, c1, c2⟩ := HX2
        cases d4 : decide (1 ≤ x.Cost) with
        | false =>
          go_wp2
          go_ret
          exact ⟨ret_bool1 (HO.out.trans (by unfold okJ; rw [d1, d2, d3, d4]; rfl)).symm, HB2.out⟩
        | true =>
          go_wp2_with fail
          refine (costEd_any w2 x).mono ?_
          rintro e w3 ⟨rfl, hb3⟩
          have HB3 : Hid (Below W.heap.size W w3) := HB2.out.trans (hb3.mono HB2.out.size)
          clear hb3
          cases d5 : decide (x.Cost ≤ 100) <;>
          (go_wp2
           go_ret
           exact ⟨ret_bool1 (HO.out.trans (by unfold okJ; rw [d1, d2, d3, d4, d5]; rfl)).symm, HB3.out⟩)

/-- Whether all are joints, and no more than told. -/
def goodJEd (n : Int) (l : List EdD) (most : Int) : Bool := (decide (1 ≤ n ∧ n ≤ 12) && decide ((l.length : Int) ≤ most)) && l.all fun x => okJ n x.A x.B x.Cost
theorem goodJEd_no (n : Int) (l : List EdD) (m : Int) (k : Nat) (h : k < l.length) (hf : okJ n l[k].A l[k].B l[k].Cost = false) : goodJEd n l m = false := by
  rw [Bool.eq_false_iff]
  intro e
  unfold goodJEd at e
  rw [Bool.and_eq_true] at e
  have := List.all_eq_true.1 e.2 l[k] (List.getElem_mem h)
  rw [hf] at this
  cases this
theorem goodJEd_head (n : Int) (l : List EdD) (m : Int) (h : ¬ (1 ≤ n ∧ n ≤ 12) ∨ ¬ (l.length : Int) ≤ m) : goodJEd n l m = false := by
  unfold goodJEd
  rcases h with h | h
  · rw [decide_eq_false h]; rfl
  · rw [decide_eq_false h, Bool.and_false]; rfl
theorem goodJEd_yes (n : Int) (l : List EdD) (m : Int) (hn : 1 ≤ n ∧ n ≤ 12) (h0 : (l.length : Int) ≤ m) (h : ∀ j (hj : j < l.length), okJ n l[j].A l[j].B l[j].Cost = true) : goodJEd n l m = true := by
  unfold goodJEd
  rw [Bool.and_eq_true, Bool.and_eq_true]
  refine ⟨⟨decide_eq_true hn, decide_eq_true h0⟩, List.all_eq_true.2 fun x hx => ?_⟩
  obtain ⟨j, hj, rfl⟩ := List.getElem_of_mem hx
  exact h j hj

set_option maxRecDepth 100000 in
set_option maxHeartbeats 2000000 in
theorem areJointsEd_any (W : World) (v : Value) (l : List EdD) (n m : Int) (h : ReadsEd W v l) (hl : l.length ≤ 2097152) :
    Calls Try.prog 69 #[.int .i64 n, v, .int .i64 m] W fun e W' => e = .returned (.bool (goodJEd n l m)) ∧ Below W.heap.size W W' := by
  obtain ⟨a1, cap1, rfl, hc1⟩ := h
  have HS0 : Hid (Since W.heap.size W W) := Since.start W
  obtain ⟨oo, hoo⟩ : ∃ oo, oo = goodJEd n l m := ⟨_, rfl⟩
  rw [← hoo]
  have HO : Hid (oo = goodJEd n l m) := hoo
  clear hoo
  by_cases h1 : n < 1
  · have d1 : decide (n < 1) = true := decide_eq_true h1
    have HF : Hid (goodJEd n l m = oo) := HO.out.symm
    have HG : Hid (goodJEd n l m = false) := goodJEd_head n l m (.inl (by omega))
    clear h1 hc1 HO
    go_enter Try.func69, Try.ntmps69
    go_wp2
    go_ret
    exact ⟨ret_bool1 (HG.out.symm.trans HF.out), HS0.out.1⟩
  have d1 : decide (n < 1) = false := decide_eq_false h1
  by_cases h2 : 12 < n
  · have d2 : decide (12 < n) = true := decide_eq_true h2
    have HG : Hid (goodJEd n l m = false) := goodJEd_head n l m (.inl (by omega))
    clear h1 h2 hc1
    go_enter Try.func69, Try.ntmps69
    go_wp2
    go_ret
    exact ⟨ret_bool1 (HG.out.symm.trans HO.out.symm), HS0.out.1⟩
  have d2 : decide (12 < n) = false := decide_eq_false h2
  by_cases h3 : m < (l.length : Int)
  · have d3 : decide (m < (l.length : Int)) = true := decide_eq_true h3
    have HG : Hid (goodJEd n l m = false) := goodJEd_head n l m (.inr (by omega))
    clear h1 h2 h3 hc1
    go_enter Try.func69, Try.ntmps69
    go_wp2
    go_ret
    exact ⟨ret_bool1 (HG.out.symm.trans HO.out.symm), HS0.out.1⟩
  have d3 : decide (m < (l.length : Int)) = false := decide_eq_false h3
  have HN : Hid ((1 ≤ n ∧ n ≤ 12) ∧ (l.length : Int) ≤ m) := ⟨by omega, by omega⟩
  clear h1 h2 h3
  by_cases h4 : l = []
  · subst h4
    have HG : Hid (goodJEd n [] m = true) := goodJEd_yes n [] m HN.out.1 HN.out.2 fun j hj => absurd hj (Nat.not_lt_zero _)
    simp only [List.length_nil] at *
    have d3' : decide (m < 0) = false := d3
    clear hc1 d3
    go_enter Try.func69, Try.ntmps69
    go_wp2
    refine wp_loop_rounds 1 ?_
    rw [rounds_succ]
    go_wp2
    go_ret
    exact ⟨ret_bool1 (HG.out.symm.trans HO.out.symm), HS0.out.1⟩
  obtain ⟨g1, o1, rfl, hg1, hc1⟩ := hc1.resolve_left h4
  have HC1 : Hid (∀ W1, Since W.heap.size W W1 → ∀ j (hj : j < l.length), EdAt W1 g1 (o1 + j * 3) l[j]) := fun W1 hS j hj => (hc1 j hj).below hg1 hS.1
  clear hc1 hg1 h4
  go_enter Try.func69, Try.ntmps69
  go_wp2
  go_loopw [23] (fun i wr => ∃ k : Nat, k ≤ l.length ∧ i = .int .i64 k ∧ Hid ((∀ j (hj : j < l.length), j < k → okJ n l[j].A l[j].B l[j].Cost = true) ∧ Since W.heap.size W wr)) (fun i _ => l.length - (intOf i).toNat)
  case atStart => exact ⟨0, Nat.zero_le _, rfl, fun j _ hj => absurd hj (Nat.not_lt_zero _), HS0.out⟩
  case round =>
    obtain ⟨k, hk, rfl, HK⟩ := hrel
    by_cases hlt : k < l.length
    · have hlt' : (k : Int) < (l.length : Int) := by omega
      obtain ⟨hA, hS⟩ := HK.out
      obtain ⟨q0, q1, q2⟩ := HC1.out wr hS k hlt
      have HOK : Hid (okJ n l[k].A l[k].B l[k].Cost = true → ∀ j (hj : j < l.length), j < k + 1 → okJ n l[j].A l[j].B l[j].Cost = true) := fun ho j hj hjk => by
        by_cases e : j = k
        · subst e; exact ho
        · exact hA j hj (by omega)
      have HNO : Hid (okJ n l[k].A l[k].B l[k].Cost = false → goodJEd n l m = false) := goodJEd_no n l m k hlt
      generalize l[k] = x at *
      have HS1 : Hid (Since W.heap.size W (wr.alloc (.cells #[.int .i64 x.A, .int .i64 x.B, .int .i64 x.Cost] 84))) := hS.step ((Below.refl _ wr).alloc (Nat.le_refl _) _)
      obtain ⟨c0, c1, c2⟩ := newEd wr x (wr.alloc (.cells #[.int .i64 x.A, .int .i64 x.B, .int .i64 x.Cost] 84)) (Since.start _)
      clear hA hS HK
      go_wp2_with fail
      refine (isJointEd_any _ x n).mono ?_
      rintro e w1 ⟨rfl, hb1⟩
      have HS2 : Hid (Since W.heap.size W w1) := HS1.out.step hb1
      clear hb1 c0 c1 c2 HS1
      cases d4 : okJ n x.A x.B x.Cost with
      | false =>
        have HG : Hid (goodJEd n l m = false) := HNO.out d4
        clear HNO HOK
        go_wp2
        go_ret
        exact ⟨ret_bool1 (HG.out.symm.trans HO.out.symm), HS2.out.1⟩
      | true =>
        have HA1 : Hid (∀ j (hj : j < l.length), j < k + 1 → okJ n l[j].A l[j].B l[j].Cost = true) := HOK.out d4
        clear HNO HOK
        go_wp2
        go_roundw
        case rel => exact ⟨k + 1, by omega, by go_num, HA1.out, HS2.out⟩
        case measure => simp [intOf]; omega
    · have HG : Hid (goodJEd n l m = true ∧ Below W.heap.size W wr) := ⟨goodJEd_yes n l m HN.out.1 HN.out.2 fun j hj => HK.out.1 j hj (by omega), HK.out.2.1⟩
      have hlt' : ¬ (k : Int) < (l.length : Int) := by omega
      clear HK
      go_wp2
      go_ret
      exact ⟨ret_bool1 (HG.out.1.symm.trans HO.out.symm), HG.out.2⟩

/-- What was told last from the one to the other, 0 for nothing. -/
def lastEd (l : List EdD) (a b : Int) : Int := l.foldl (fun c x => if x.A = a ∧ x.B = b then x.Cost else c) 0
theorem lastEd_take (l : List EdD) (a b : Int) (k : Nat) (h : k < l.length) : lastEd (l.take (k + 1)) a b = if l[k].A = a ∧ l[k].B = b then l[k].Cost else lastEd (l.take k) a b := by
  unfold lastEd
  rw [List.take_succ_eq_append_getElem h, List.foldl_append]
  rfl

set_option maxRecDepth 100000 in
set_option maxHeartbeats 2000000 in
theorem lastCostEd_any (W : World) (v : Value) (l : List EdD) (a b : Int) (h : ReadsEd W v l) (hl : l.length ≤ 2097152) :
    Calls Try.prog 103 #[v, .int .i64 a, .int .i64 b] W fun e W' => e = .returned (.int .i64 (lastEd l a b)) ∧ Below W.heap.size W W' := by
  obtain ⟨a1, cap1, rfl, hc1⟩ := h
  have HS0 : Hid (Since W.heap.size W W) := Since.start W
  by_cases h4 : l = []
  · subst h4
    simp only [List.length_nil] at *
    clear hc1
    go_enter Try.func103, Try.ntmps103
    go_wp2
    refine wp_loop_rounds 1 ?_
    rw [rounds_succ]
    go_wp2
    go_ret
    exact ⟨rfl, HS0.out.1⟩
  obtain ⟨g1, o1, rfl, hg1, hc1⟩ := hc1.resolve_left h4
  have HC1 : Hid (∀ W1, Since W.heap.size W W1 → ∀ j (hj : j < l.length), EdAt W1 g1 (o1 + j * 3) l[j]) := fun W1 hS j hj => (hc1 j hj).below hg1 hS.1
  clear hc1 hg1 h4
  obtain ⟨oo, hoo⟩ : ∃ oo, oo = lastEd l a b := ⟨_, rfl⟩
  rw [← hoo]
  have HO : Hid (oo = lastEd l a b) := hoo
  clear hoo
  go_enter Try.func103, Try.ntmps103
  go_wp2
  go_loopw [7, 14] (fun c i wr => ∃ k : Nat, k ≤ l.length ∧ i = .int .i64 k ∧ ∃ z : Int, c = .int .i64 z ∧ Hid (z = lastEd (l.take k) a b ∧ Since W.heap.size W wr)) (fun _ i _ => l.length - (intOf i).toNat)
  case atStart => exact ⟨0, Nat.zero_le _, rfl, 0, rfl, rfl, HS0.out⟩
  case round =>
    obtain ⟨k, hk, rfl, z, rfl, HK⟩ := hrel
    by_cases hlt : k < l.length
    · have hlt' : (k : Int) < (l.length : Int) := by omega
      obtain ⟨hz, hS⟩ := HK.out
      obtain ⟨q0, q1, q2⟩ := HC1.out wr hS k hlt
      have HT : Hid (lastEd (l.take (k + 1)) a b = if l[k].A = a ∧ l[k].B = b then l[k].Cost else z) := by
        rw [hz]
        exact lastEd_take l a b k hlt
      generalize l[k] = x at *
      have HS1 : Hid (Since W.heap.size W (wr.alloc (.cells #[.int .i64 x.A, .int .i64 x.B, .int .i64 x.Cost] 84))) := hS.step ((Below.refl _ wr).alloc (Nat.le_refl _) _)
      have HX : Hid (∀ w', Since (wr.alloc (.cells #[.int .i64 x.A, .int .i64 x.B, .int .i64 x.Cost] 84)).heap.size (wr.alloc (.cells #[.int .i64 x.A, .int .i64 x.B, .int .i64 x.Cost] 84)) w' → w'.cell? ⟨wr.heap.size, 0, none⟩ = some (.int .i64 x.A) ∧ w'.cell? ⟨wr.heap.size, 1, none⟩ = some (.int .i64 x.B) ∧ w'.cell? ⟨wr.heap.size, 2, none⟩ = some (.int .i64 x.Cost)) := newEd wr x
      obtain ⟨c0, c1, c2⟩ := HX.out (wr.alloc (.cells #[.int .i64 x.A, .int .i64 x.B, .int .i64 x.Cost] 84)) (Since.start _)
      clear hz hS HK
      go_wp2_with fail
      refine (endsEd_any _ x).mono ?_
      rintro e w1 ⟨rfl, hb1⟩
      have HS2 : Hid (Since W.heap.size W w1) := HS1.out.step hb1
      have HX1 := HX.out w1 ((Since.start _).step hb1)
      clear hb1 c0 c1 c2 HS1 HX
      obtain ⟨c0, c1, c2⟩ := HX1
      by_cases e1 : x.A = a
      · have d1 : (x.A == a) = true := beq_iff_eq.2 e1
        by_cases e2 : x.B = b
        · have d2 : (x.B == b) = true := beq_iff_eq.2 e2
          have HT1 : Hid (x.Cost = lastEd (l.take (k + 1)) a b) := by
            show _ = _
            rw [HT.out, if_pos ⟨e1, e2⟩]
          clear HT e1 e2
          go_wp2_with fail
          refine (costEd_any _ x).mono ?_
          rintro e w2 ⟨rfl, hb2⟩
          have HS3 : Hid (Since W.heap.size W w2) := HS2.out.step hb2
          clear hb2 c0 c1 c2 HS2
          go_wp2
          go_roundw
          case rel => exact ⟨k + 1, by omega, by go_num, _, rfl, HT1.out, HS3.out⟩
          case measure => simp [intOf]; omega
        · have d2 : (x.B == b) = false := beq_eq_false_iff_ne.2 e2
          have HT1 : Hid (z = lastEd (l.take (k + 1)) a b) := by
            show _ = _
            rw [HT.out, if_neg fun e => e2 e.2]
          clear HT e1 e2
          go_wp2
          go_roundw
          case rel => exact ⟨k + 1, by omega, by go_num, _, rfl, HT1.out, HS2.out⟩
          case measure => simp [intOf]; omega
      · have d1 : (x.A == a) = false := beq_eq_false_iff_ne.2 e1
        have HT1 : Hid (z = lastEd (l.take (k + 1)) a b) := by
          show _ = _
          rw [HT.out, if_neg fun e => e1 e.1]
        clear HT e1
        go_wp2
        go_roundw
        case rel => exact ⟨k + 1, by omega, by go_num, _, rfl, HT1.out, HS2.out⟩
        case measure => simp [intOf]; omega
    · have HG : Hid (z = lastEd l a b ∧ Below W.heap.size W wr) := ⟨by rw [HK.out.1, List.take_of_length_le (by omega)], HK.out.2.1⟩
      have hlt' : ¬ (k : Int) < (l.length : Int) := by omega
      clear HK
      go_wp2
      go_ret
      exact ⟨ret_int1 (HG.out.1.trans HO.out.symm), HG.out.2⟩
end Go.Proofs.Ythlbmkefjjckaad
