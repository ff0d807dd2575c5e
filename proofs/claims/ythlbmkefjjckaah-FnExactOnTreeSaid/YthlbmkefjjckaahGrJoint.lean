/-
  What edges and tellings are asked by the same functions: from where to where, the cost, whether each is as said, what was told last.
-/
import Derived.Test.YthlbmkefjjckaahGrMath
import Derived.Test.YthlbmkefjjckaahSince0
import Derived.Test.YthlbmkefjjckaahHand
namespace Go.Proofs.Ythlbmkefjjckaah
open Go.RowKit
set_option linter.unusedVariables false

theorem ret_bool1 {a b : Bool} (h : a = b) : (Ending.returned (.bool a) : Ending) = .returned (.bool b) := by rw [h]
theorem ret_int1 {a b : Int} (h : a = b) : (Ending.returned (.int .i64 a) : Ending) = .returned (.int .i64 b) := by rw [h]
/-- A joint of spots. -/
def okJ (n a b c : Int) : Bool := (decide (0 ≤ a ∧ a < n) && decide (0 ≤ b ∧ b < n)) && (!(a == b) && (decide (1 ≤ c) && decide (c ≤ 100)))

theorem isSpot_any (W : World) (a n : Int) : Calls Try.prog 18 #[.int .i64 a, .int .i64 n] W fun e W' => e = .returned (.bool (decide (0 ≤ a ∧ a < n))) ∧ W' = W := by
  have e : decide (0 ≤ a ∧ a < n) = (decide (0 ≤ a) && decide (a < n)) := by rw [Bool.eq_iff_iff]; simp
  rw [e]
  cases d1 : decide (0 ≤ a) <;> cases d2 : decide (a < n) <;>
    (go_enter Try.func18, Try.ntmps18
     go_wp2
     go_ret
     exact ⟨rfl, rfl⟩)

theorem newEd (W : World) (x : EdD) : ∀ w', Since (W.alloc (.cells #[.int .i64 x.A, .int .i64 x.B, .int .i64 x.Cost] 56)).heap.size (W.alloc (.cells #[.int .i64 x.A, .int .i64 x.B, .int .i64 x.Cost] 56)) w' → w'.cell? ⟨W.heap.size, 0, none⟩ = some (.int .i64 x.A) ∧ w'.cell? ⟨W.heap.size, 1, none⟩ = some (.int .i64 x.B) ∧ w'.cell? ⟨W.heap.size, 2, none⟩ = some (.int .i64 x.Cost) := fun w' hs =>
  ⟨(hs.1.cell (p := ⟨W.heap.size, 0, none⟩) (by simp)).trans (by rw [World.cell?_alloc_at _ _ _ _ rfl]; rfl), (hs.1.cell (p := ⟨W.heap.size, 1, none⟩) (by simp)).trans (by rw [World.cell?_alloc_at _ _ _ _ rfl]; rfl), (hs.1.cell (p := ⟨W.heap.size, 2, none⟩) (by simp)).trans (by rw [World.cell?_alloc_at _ _ _ _ rfl]; rfl)⟩

/-- Whether all are joints, and no more than told. -/
def goodJEd (n : Int) (l : List EdD) (most : Int) : Bool := (decide (1 ≤ n ∧ n ≤ 12) && decide ((l.length : Int) ≤ most)) && l.all fun x => okJ n x.A x.B x.Cost
theorem goodJEd_no (n : Int) (l : List EdD) (m : Int) (k : Nat) (h : k < l.length) (hf : okJ n l[k].A l[k].B l[k].Cost = false) : goodJEd n l m = false := by
  rw [Bool.eq_false_iff]
  intro e
  unfold goodJEd at e
  rw [Bool.and_eq_true] at e
  have := List.all_eq_true.1 e.2 l[k] (List.getElem_mem h)
  rw [hf] at this
  cases this
theorem goodJEd_head (n : Int) (l : List EdD) (m : Int) (h : ¬ (1 ≤ n ∧ n ≤ 12) ∨ ¬ (l.length : Int) ≤ m) : goodJEd n l m = false := by
  unfold goodJEd
  rcases h with h | h
  · rw [decide_eq_false h]; rfl
  · rw [decide_eq_false h, Bool.and_false]; rfl
theorem goodJEd_yes (n : Int) (l : List EdD) (m : Int) (hn : 1 ≤ n ∧ n ≤ 12) (h0 : (l.length : Int) ≤ m) (h : ∀ j (hj : j < l.length), okJ n l[j].A l[j].B l[j].Cost = true) : goodJEd n l m = true := by
  unfold goodJEd
  rw [Bool.and_eq_true, Bool.and_eq_true]
  refine ⟨⟨decide_eq_true hn, decide_eq_true h0⟩, List.all_eq_true.2 fun x hx => ?_⟩
  obtain ⟨j, hj, rfl⟩ := List.getElem_of_mem hx
  exact h j hj

/-- What was told last from the one to the other, 0 for nothing. -/
def lastEd (l : List EdD) (a b : Int) : Int := l.foldl (fun c x => if x.A = a ∧ x.B = b then x.Cost else c) 0
theorem lastEd_take (l : List EdD) (a b : Int) (k : Nat) (h : k < l.length) : lastEd (l.take (k + 1)) a b = if l[k].A = a ∧ l[k].B = b then l[k].Cost else lastEd (l.take k) a b := by
  unfold lastEd
  rw [List.take_succ_eq_append_getElem h, List.foldl_append]
  rfl

end Go.Proofs.Ythlbmkefjjckaah
