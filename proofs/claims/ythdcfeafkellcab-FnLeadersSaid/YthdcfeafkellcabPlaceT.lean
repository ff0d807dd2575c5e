/-
  'placeOfId' of the program and 'l4At' of the model; 'copyBridges'.
-/
import Derived.Test.YthdcfeafkellcabElectMath
import Derived.Test.YthdcfeafkellcabBoxes
namespace Go.Proofs.Ythdcfeafkellcab
open Go.RowKit
set_option linter.unusedVariables false

theorem retI {a b : Int} (h : a = b) : Ending.returned (.int .i64 a) = .returned (.int .i64 b) := by rw [h]

/-- The place of an Id, -1 for none. -/
def placeB (l : List BrD) (id : Int) : Int := match l.findIdx? (fun x => x.id == id) with
  | some k => (k : Int)
  | none => -1
theorem placeB_at (l : List BrD) (id : Int) (k : Nat) (hk : k < l.length) (h : l[k].id = id) (ha : ∀ j (hj : j < l.length), j < k → l[j].id ≠ id) : placeB l id = (k : Int) := by
  have : l.findIdx? (fun x => x.id == id) = some k := by
    rw [List.findIdx?_eq_some_iff_getElem]
    exact ⟨hk, by simp [h], fun j hj => by simp [ha j (by omega) hj]⟩
  unfold placeB
  rw [this]
theorem placeB_none (l : List BrD) (id : Int) (ha : ∀ j (hj : j < l.length), l[j].id ≠ id) : placeB l id = -1 := by
  have : l.findIdx? (fun x => x.id == id) = none := by
    rw [List.findIdx?_eq_none_iff]
    intro x hx
    obtain ⟨j, hj, rfl⟩ := List.getElem_of_mem hx
    simp [ha j hj]
  unfold placeB
  rw [this]
theorem placeB_cases (l : List BrD) (id : Int) : placeB l id = -1 ∨ ∃ (k : Nat) (hk : k < l.length), placeB l id = (k : Int) ∧ l[k].id = id := by
  unfold placeB
  cases h : l.findIdx? (fun x => x.id == id) with
  | none => exact .inl rfl
  | some k =>
    rw [List.findIdx?_eq_some_iff_getElem] at h
    obtain ⟨hk, h1, -⟩ := h
    exact .inr ⟨k, hk, rfl, by simpa using h1⟩

set_option maxRecDepth 100000 in
set_option maxHeartbeats 2000000 in
theorem placeOf_any (W : World) (v : Value) (l : List BrD) (id : Int) (h : ReadsBr W v l) (hl : l.length ≤ 1048576) :
    Calls Try.prog 68 #[v, .int .i64 id] W fun e W' => e = .returned (.int .i64 (placeB l id)) ∧ Below W.heap.size W W' := by
  obtain ⟨a1, cap1, rfl, hc1⟩ := h
  by_cases hz : l = []
  · subst hz
    simp only [List.length_nil]
    clear hc1
    go_enter Try.func68, Try.ntmps68
    go_wp2
    refine wp_loop_rounds 1 ?_
    rw [rounds_succ]
    go_wp2
    go_ret
    exact ⟨rfl, Below.refl _ _⟩
  · obtain ⟨g1, o1, rfl, hg1, hc1⟩ := hc1.resolve_left hz
    have HC1 : Hid (∀ W1, Since W.heap.size W W1 → ∀ j (hj : j < l.length), BrAt W1 g1 (o1 + j * 3) l[j]) := fun W1 hS j hj => (hc1 j hj).below hg1 hS.1
    have HS0 : Hid (Since W.heap.size W W) := Since.start W
    clear hc1 hg1 hz
    go_enter Try.func68, Try.ntmps68
    go_wp2
    go_loopw [9] (fun i wr => ∃ k : Nat, k ≤ l.length ∧ i = .int .i64 k ∧ Hid ((∀ j (hj : j < l.length), j < k → l[j].id ≠ id) ∧ Since W.heap.size W wr)) (fun i _ => l.length - (intOf i).toNat)
    case atStart => exact ⟨0, Nat.zero_le _, rfl, fun j _ hj => absurd hj (Nat.not_lt_zero _), HS0.out⟩
    case round =>
      obtain ⟨k, hk, rfl, HK⟩ := hrel
      by_cases hlt : k < l.length
      · obtain ⟨hA, hS⟩ := HK.out
        have hlt' : (k : Int) < (l.length : Int) := by omega
        obtain ⟨q0, q1, q2⟩ := HC1.out wr hS k hlt
        have HS1 : Hid (Since W.heap.size W (wr.alloc (.cells #[.int .i64 l[k].id, .int .i64 l[k].rank, .bool l[k].up] 35))) := hS.step ((Below.refl _ wr).alloc (Nat.le_refl _) _)
        by_cases he : l[k].id = id
        · have HF : Hid (placeB l id = (k : Int)) := placeB_at l id k hlt he hA
          rw [he] at q0 HS1
          clear hA hS HK he
          generalize l[k] = x at *
          go_wp2
          go_ret
          exact ⟨retI HF.out.symm, HS1.out.1⟩
        · have HA1 : Hid (∀ j (hj : j < l.length), j < k + 1 → l[j].id ≠ id) := fun j hj h => by
            by_cases e : j = k
            · subst e; exact he
            · exact hA j hj (by omega)
          generalize l[k] = x at *
          clear hA hS HK
          go_wp2
          go_roundw
          case rel => exact ⟨k + 1, by omega, by go_num, HA1.out, HS1.out⟩
          case measure => simp [intOf]; omega
      · have hlt' : ¬ (k : Int) < (l.length : Int) := by omega
        have HF : Hid (placeB l id = -1 ∧ Below W.heap.size W wr) := ⟨placeB_none l id fun j hj => HK.out.1 j hj (by omega), HK.out.2.1⟩
        clear HK
        go_wp2
        go_ret
        exact ⟨retI HF.out.1.symm, HF.out.2⟩

set_option maxRecDepth 100000 in
set_option maxHeartbeats 2000000 in
theorem l4At_any (W : World) (v : Value) (l : List BrD) (id : Int) (h : ReadsBr W v l) (hl : l.length ≤ 1048576) :
    Calls Try.prog 72 #[v, .int .i64 id] W fun e W' => e = .returned (.int .i64 (placeB l id)) ∧ Below W.heap.size W W' := by
  obtain ⟨a1, cap1, rfl, hc1⟩ := h
  by_cases hz : l = []
  · subst hz
    simp only [List.length_nil]
    clear hc1
    go_enter Try.func72, Try.ntmps72
    go_wp2
    refine wp_loop_rounds 1 ?_
    rw [rounds_succ]
    go_wp2
    go_ret
    exact ⟨rfl, Below.refl _ _⟩
  · obtain ⟨g1, o1, rfl, hg1, hc1⟩ := hc1.resolve_left hz
    have HC1 : Hid (∀ W1, Since W.heap.size W W1 → ∀ j (hj : j < l.length), BrAt W1 g1 (o1 + j * 3) l[j]) := fun W1 hS j hj => (hc1 j hj).below hg1 hS.1
    have HS0 : Hid (Since W.heap.size W W) := Since.start W
    clear hc1 hg1 hz
    go_enter Try.func72, Try.ntmps72
    go_wp2
    go_loopw [9] (fun i wr => ∃ k : Nat, k ≤ l.length ∧ i = .int .i64 k ∧ Hid ((∀ j (hj : j < l.length), j < k → l[j].id ≠ id) ∧ Since W.heap.size W wr)) (fun i _ => l.length - (intOf i).toNat)
    case atStart => exact ⟨0, Nat.zero_le _, rfl, fun j _ hj => absurd hj (Nat.not_lt_zero _), HS0.out⟩
    case round =>
      obtain ⟨k, hk, rfl, HK⟩ := hrel
      by_cases hlt : k < l.length
      · obtain ⟨hA, hS⟩ := HK.out
        have hlt' : (k : Int) < (l.length : Int) := by omega
        obtain ⟨q0, q1, q2⟩ := HC1.out wr hS k hlt
        have HS1 : Hid (Since W.heap.size W (wr.alloc (.cells #[.int .i64 l[k].id, .int .i64 l[k].rank, .bool l[k].up] 35))) := hS.step ((Below.refl _ wr).alloc (Nat.le_refl _) _)
        by_cases he : l[k].id = id
        · have HF : Hid (placeB l id = (k : Int)) := placeB_at l id k hlt he hA
          rw [he] at q0 HS1
          clear hA hS HK he
          generalize l[k] = x at *
          go_wp2
          go_ret
          exact ⟨retI HF.out.symm, HS1.out.1⟩
        · have HA1 : Hid (∀ j (hj : j < l.length), j < k + 1 → l[j].id ≠ id) := fun j hj h => by
            by_cases e : j = k
            · subst e; exact he
            · exact hA j hj (by omega)
          generalize l[k] = x at *
          clear hA hS HK
          go_wp2
          go_roundw
          case rel => exact ⟨k + 1, by omega, by go_num, HA1.out, HS1.out⟩
          case measure => simp [intOf]; omega
      · have hlt' : ¬ (k : Int) < (l.length : Int) := by omega
        have HF : Hid (placeB l id = -1 ∧ Below W.heap.size W wr) := ⟨placeB_none l id fun j hj => HK.out.1 j hj (by omega), HK.out.2.1⟩
        clear HK
        go_wp2
        go_ret
        exact ⟨retI HF.out.1.symm, HF.out.2⟩

set_option maxRecDepth 100000 in
set_option maxHeartbeats 1000000 in
theorem copyBrs_any (W : World) (B : Nat) (v : Value) (l : List BrD) (h : OwnBr W B v l) (hl : l.length ≤ 1048576) :
    Calls Try.prog 70 #[v] W fun e W' => ∃ v', e = .returned v' ∧ OwnBr W' W.heap.size v' l ∧ Below W.heap.size W W' := by
  have HC : Hid (∀ ty, ∃ v' w', (Builtin.append_ #[23, 23] ty #[.slice none 0 0, v]).run Try.prog W = .ok v' w' ∧ Grown W W.heap.size 35 3 (.slice none 0 0) ([] ++ l).length (cellsBr ([] ++ l)) v' w') := fun ty => run_appBr W W.heap.size _ [] (OwnBr.nil _ _) v l (Src.row h) (by simp; omega) (Nat.le_refl _) ty
  clear h
  go_enter Try.func70, Try.ntmps70
  go_wp2_with (at_builtin; refine list_app (by rfl) (.const (.slice none 0 0)) (.tmp 3) 23 (by rfl) (.slice none 0 0) v (by rfl) (by rfl) _ HC.out ?_; intro v' w1 hg)
  have HW : Hid (Grown W W.heap.size 35 3 (.slice none 0 0) ([] ++ l).length (cellsBr ([] ++ l)) v' w1) := hg
  clear hg
  go_ret
  exact ⟨_, rfl, HW.out.own, HW.out.below⟩
end Go.Proofs.Ythdcfeafkellcab
