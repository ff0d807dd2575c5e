/-
  Rings: arrays of 64 bools as they lie in memory, whole and cell by cell.
-/
import Derived.Test.YthdcfeafkellcabNums
import Derived.Test.YthdcfeafkellcabRound0
import Derived.Deep.WholeRow
import Derived.Laws.Rows
import Derived.Laws.Tables
namespace Go.Proofs.Ythdcfeafkellcab
open Go.RowKit
set_option linter.unusedVariables false

/-- The cells of a ring. -/
def ringA (f : Nat → Bool) : Array Value := ((List.range 64).map fun n => Value.bool (f n)).toArray
theorem ringA_size (f : Nat → Bool) : (ringA f).size = 64 := by simp [ringA]
theorem ringA_get (f : Nat → Bool) (n : Nat) (h : n < 64) : (ringA f)[n]? = some (.bool (f n)) := by
  simp [ringA, h]
theorem ringA_one (f : Nat → Bool) : (ringA f).all (·.oneCell') = true := by
  rw [Array.all_eq_true_iff_forall_mem]
  intro x hx
  simp only [ringA, List.mem_toArray, List.mem_map] at hx
  obtain ⟨n, -, rfl⟩ := hx
  rfl
theorem ringA_set (f : Nat → Bool) (m : Nat) (x : Bool) : (ringA f).setIfInBounds m (.bool x) = ringA (fun n => if n = m then x else f n) := by
  apply Array.ext_getElem?
  intro i
  by_cases hi : i < 64
  · rw [ringA_get _ i hi, Array.getElem?_setIfInBounds]
    by_cases e : m = i
    · subst e
      simp [ringA_size, hi]
    · have e' : ¬ i = m := fun h => e h.symm
      simp [e, e', ringA_get f i hi]
  · rw [Array.getElem?_eq_none (by rw [Array.size_setIfInBounds, ringA_size]; omega), Array.getElem?_eq_none (by rw [ringA_size]; omega)]
theorem ringA_ext {f g : Nat → Bool} (h : ∀ n, n < 64 → f n = g n) : ringA f = ringA g := by
  apply Array.ext_getElem?
  intro i
  by_cases hi : i < 64
  · rw [ringA_get _ i hi, ringA_get _ i hi, h i hi]
  · rw [Array.getElem?_eq_none (by rw [ringA_size]; omega), Array.getElem?_eq_none (by rw [ringA_size]; omega)]
theorem ringA_inj {f g : Nat → Bool} (h : ringA f = ringA g) (n : Nat) (hn : n < 64) : f n = g n := by
  have := ringA_get f n hn
  rw [h, ringA_get g n hn] at this
  simpa using this.symm

/-- Block b is a ring. -/
def RB (W : World) (b : Nat) (f : Nat → Bool) : Prop := W.heap[b]? = some (.cells (ringA f) 99)
theorem RB.lt {W : World} {b : Nat} {f : Nat → Bool} (h : RB W b f) : b < W.heap.size := by
  unfold RB at h
  exact (Array.getElem?_eq_some_iff.1 h).1
theorem RB.below {W W' : World} {b : Nat} {f : Nat → Bool} (h : RB W b f) (hb : Below W.heap.size W W') : RB W' b f := (hb.block b h.lt).trans h
theorem RB.new (W : World) (f : Nat → Bool) : RB (W.alloc (.cells (ringA f) 99)) W.heap.size f := heap_alloc_last W _
theorem RB.cell {W : World} {b : Nat} {f : Nat → Bool} (h : RB W b f) (n : Nat) (hn : n < 64) : W.cell? ⟨b, n, none⟩ = some (.bool (f n)) := by
  rw [cell_of_row W b n _ _ _ h, ringA_get f n hn]
theorem RB.free {W : World} {b : Nat} {f : Nat → Bool} (h : RB W b f) (n : Nat) : W.frozen? ⟨b, n, none⟩ = false := by
  unfold RB at h
  simp [World.frozen?, h]
theorem RB.put {W : World} {b : Nat} {f : Nat → Bool} (h : RB W b f) (m : Nat) (x : Bool) : RB (W.setCell ⟨b, m, none⟩ (.bool x)) b (fun n => if n = m then x else f n) := by
  have hl := h.lt
  unfold RB at h ⊢
  simp only [World.setCell, Array.getElem?_modify, if_pos, h, Option.map_some]
  simp [ringA_set]
theorem RB.other {W : World} {b : Nat} {f : Nat → Bool} (h : RB W b f) {p : Addr} (hp : p.block ≠ b) (v : Value) : RB (W.setCell p v) b f :=
  (Below.heap_setCell _ _ _ _ (fun e => hp e.symm)).trans h
theorem RB.row {W : World} {b : Nat} {f : Nat → Bool} (h : RB W b f) (g : Nat → Bool) : RB (W.setRow b (ringA g)) b g := by
  unfold RB at h ⊢
  simp only [World.setRow, Array.getElem?_modify, if_pos, h, Option.map_some]
theorem below_setRow {B : Nat} {W0 W : World} {b : Nat} (h : Below B W0 W) (hb : B ≤ b) (c : Array Value) : Below B W0 (W.setRow b c) := by
  refine ⟨h.os, h.tape, h.output, ?_, fun j hj => ?_⟩
  · simpa [World.setRow] using h.size
  · rw [← h.block j hj]
    simp only [World.setRow, Array.getElem?_modify]
    rw [if_neg (by omega)]

theorem ring_info : (Try.prog.info? 99).map (·.size) = some 64 := by kernel_rfl
theorem RB.loads {W : World} {b : Nat} {f : Nat → Bool} (h : RB W b f) : (loadVar 99 ⟨b, 0, none⟩).run Try.prog W = .ok (.agg (ringA f)) W :=
  run_loadVar_row W b _ _ _ _ _ h Try.underlying99 rfl (by rw [ringA_size]; exact ring_info)
theorem RB.stores {W : World} {b : Nat} {f : Nat → Bool} (h : RB W b f) (g : Nat → Bool) : (storeVar 99 ⟨b, 0, none⟩ (.agg (ringA g))).run Try.prog W = .ok () (W.setRow b (ringA g)) :=
  run_storeVar_row W b _ _ _ _ h (by rw [ringA_size]; exact ring_info) (by rw [ringA_size, ringA_size]) (ringA_one g)
theorem RB.loadsAt {W : World} {b : Nat} {f : Nat → Bool} (h : RB W b f) : (Instr.loadAt 99 (.pointer (some ⟨b, 0, none⟩))).run Try.prog W = .ok (.agg (ringA f)) W := by
  simp only [Instr.loadAt, Instr.sureAddr, Sem.run_bind, Sem.run_pure, Result.andThen]
  exact h.loads
theorem RB.storesAt {W : World} {b : Nat} {f : Nat → Bool} (h : RB W b f) (g : Nat → Bool) : (Instr.storeAt 99 (.pointer (some ⟨b, 0, none⟩)) (.agg (ringA g))).run Try.prog W = .ok () (W.setRow b (ringA g)) := by
  simp only [Instr.storeAt, Instr.sureAddr, Sem.run_bind, Sem.run_pure, Result.andThen]
  exact h.stores g

theorem wpList_ringLoad {ops : Array Oper} {rest : List Oper} {o : Oper} {a : Act} {w : World} {Q : Exit → Act → World → Prop} (x : Operand) (ho : o.op = .load 99 x) (hgd : o.guard = none) {b : Nat} {f : Nat → Bool}
    (hx : a.eval x = .pointer (some ⟨b, 0, none⟩)) (h : RB w b f) (k : wpList Try.prog ops Q rest (a.put o.dst (.agg (ringA f))) w) : wpList Try.prog ops Q (o :: rest) a w :=
  wpList_load_row hgd _ x ho b hx _ _ _ _ h Try.underlying99 rfl (by rw [ringA_size]; exact ring_info) k
theorem wpList_ringStore {ops : Array Oper} {rest : List Oper} {o : Oper} {a : Act} {w : World} {Q : Exit → Act → World → Prop} (x y : Operand) (ho : o.op = .store 99 x y) (hgd : o.guard = none) {b : Nat} {f g : Nat → Bool}
    (hx : a.eval x = .pointer (some ⟨b, 0, none⟩)) (hy : a.eval y = .agg (ringA g)) (h : RB w b f) (k : wpList Try.prog ops Q rest (a.put o.dst undef) (w.setRow b (ringA g))) : wpList Try.prog ops Q (o :: rest) a w :=
  wpList_store_row hgd _ x y ho b _ hx hy _ _ h (by rw [ringA_size]; exact ring_info) (by rw [ringA_size, ringA_size]) (ringA_one g) k
theorem results_ring {fn : Func} {p : Tmp} (h : fn.results = #[.cell p 99]) (tmps : Array Value) (w : World) {b : Nat} {f : Nat → Bool} (hp : tmps.getD p undef = .pointer (some ⟨b, 0, none⟩)) (hb : RB w b f) :
    (results fn tmps).run Try.prog w = .ok (.agg (ringA f)) w :=
  results_cell_row h tmps w b _ _ _ _ hp hb Try.underlying99 rfl (by rw [ringA_size]; exact ring_info)
end Go.Proofs.Ythdcfeafkellcab
