/-
  What a call that makes memory leaves of the world: below a block number all is as it was, and no block has gone. And the end of a call with four results.
-/

/-
  Rows of numbers that a call has made: a slice that owns its numbers.
-/

/-
  What the laws' 'eqIntS', 'markIntS' and 'heldIntS' answer.
-/

/-
  Lists of numbers: their copies, whether they are in range, and their bytes, the program's and the model's.
-/
import Derived.WalkKit
import Derived.Below
import Derived.Deep.Draws
import Derived.Test.YtchddjidjfpehaaRows
import Derived.Laws.AppendOwn
import Derived.Laws.OwnMore
import Derived.OwnWalk
import Derived.Deep.AppendLies
import Derived.Deep.RegionWith
import Derived.BigRegion
import Derived.BigQuiet
import Derived.Deep.QuietTactic
import Derived.Laws.BytesArg
import Derived.Laws.IdiomStrings
import Derived.Lib.UnsafeStr
import Derived.WideShapes
namespace Go.Proofs.Ytchddjidjfpehaa
open Go.RowKit

/-- Below block B the world w is as w0 was, and it has B blocks at least. -/
def Since (B : Nat) (w0 w : World) : Prop := Below B w0 w ∧ B ≤ w.heap.size
theorem Since.start (w : World) : Since w.heap.size w w := ⟨Below.refl _ _, Nat.le_refl _⟩
theorem Since.step {B : Nat} {w0 w w' : World} (h : Since B w0 w) (hb : Below w.heap.size w w') : Since B w0 w' :=
  ⟨h.1.trans (hb.mono h.2), Nat.le_trans h.2 hb.size⟩
theorem Since.drew {B : Nat} {w0 w : World} (h : Since B w0 w) : Since B w0 w.drew := ⟨h.1.drew, h.2⟩
theorem below_drewN {B : Nat} {w0 w : World} (h : Below B w0 w) (n : Nat) : Below B w0 (w.drewN n) := ⟨h.os, h.tape, h.output, h.size, h.block⟩
theorem Since.drewN {B : Nat} {w0 w : World} (h : Since B w0 w) (n : Nat) : Since B w0 (w.drewN n) := ⟨below_drewN h.1 n, h.2⟩
theorem Since.tran {B : Nat} {w0 w w1 : World} (h : Since B w0 w) (k : Since w.heap.size w w1) : Since B w0 w1 := h.step k.1

theorem results_tmp4 {fn : Func} {a b c d : Tmp} (h : fn.results = #[.tmp a, .tmp b, .tmp c, .tmp d]) (tmps : Array Value) (P : Program) (w : World) :
    (results fn tmps).run P w = .ok (.tuple #[tmps.getD a undef, tmps.getD b undef, tmps.getD c undef, tmps.getD d undef]) w := by
  simp [results, h]
end Go.Proofs.Ytchddjidjfpehaa

namespace Go.Proofs.Ytchddjidjfpehaa
open Go.RowKit

theorem info3 : (Try.prog.info? 3).map (fun i => (i.zero, i.size, i.bytes)) = some (some (.int .i64 0), 1, 8) := by kernel_rfl

/-- The slice v owns the numbers zs, in a block from B on. -/
def Own (W : World) (B : Nat) (v : Value) (zs : List Int) : Prop := W.ownsRow B 3 1 v zs.length (zs.map (Value.int .i64))
theorem Own.nil (W : World) (B : Nat) : Own W B (.slice none 0 0) [] := World.ownsRow_nil W B 3 1

/-- Such a slice, told by its address and its cells: nil, or a block's head. -/
theorem Own.form {W : World} {B : Nat} {v : Value} {zs : List Int} (h : Own W B v zs) :
    ∃ (a : Option Addr) (cap : Nat), v = .slice a zs.length cap ∧ (zs = [] ∨ ∃ g, a = some ⟨g, 0, none⟩ ∧ B ≤ g ∧ g < W.heap.size ∧ (∀ j (hj : j < zs.length), W.cell? ⟨g, j, none⟩ = some (.int .i64 zs[j])) ∧ ∀ j, W.frozen? ⟨g, j, none⟩ = false) := by
  have h0 := h
  rcases h.2 with ⟨hv, hn⟩ | ⟨g, cap, cur, hv, hb, hg, hrest⟩
  · refine ⟨none, 0, by rw [hv, hn], .inl (List.eq_nil_of_length_eq_zero hn)⟩
  · subst hv
    refine ⟨_, _, rfl, .inr ⟨g, rfl, hb, (Array.getElem?_eq_some_iff.1 hg).1, fun j hj => ?_, fun j => World.ownsRow.frozenAt h0 j⟩⟩
    rw [World.ownsRow.cellAt h0 j (by omega)]
    simp [hj]
theorem Own.alloc {W : World} {B : Nat} {v : Value} {zs : List Int} (h : Own W B v zs) (o : Obj) : Own (W.alloc o) B v zs := World.ownsRow.alloc h o
theorem Own.drew {W : World} {B : Nat} {v : Value} {zs : List Int} (h : Own W B v zs) : Own W.drew B v zs := h
theorem Own.below {W W' : World} {B : Nat} {v : Value} {zs : List Int} (h : Own W B v zs) (hb : Below W.heap.size W W') : Own W' B v zs := by
  refine ⟨h.1, ?_⟩
  rcases h.2 with hn | ⟨g, cap, cur, hv, h1, hg, hrest⟩
  · exact .inl hn
  · exact .inr ⟨g, cap, cur, hv, h1, (hb.block g (Array.getElem?_eq_some_iff.1 hg).1).trans hg, hrest⟩
theorem Own.mono {W : World} {B B' : Nat} {v : Value} {zs : List Int} (h : Own W B v zs) (hB : B' ≤ B) : Own W B' v zs := by
  refine ⟨h.1, ?_⟩
  rcases h.2 with hn | ⟨g, cap, cur, hv, h1, hrest⟩
  · exact .inl hn
  · exact .inr ⟨g, cap, cur, hv, Nat.le_trans hB h1, hrest⟩

theorem new_cell (w : World) (z : Value) (t : TypeId) : (w.alloc (.cells #[z] t)).cell? ⟨w.heap.size, 0, none⟩ = some z := by
  rw [World.cell?_alloc_at _ _ _ _ rfl]; rfl

/-- 'append(l, z)' of one number, at a step of a region that draws. -/
theorem step_put {ops : Array Oper} {o : Oper} {a : Act} {w : World} {K : Act → World → Prop} {Q : Exit → Act → World → Prop} {E : Prop} (hgd : o.guard = none) (s x : Operand)
    (ho : o.op = .call { callee := .builtin .append, args := #[s, x], argTypes := #[37, 37] }) (B : Nat) (v : Value) (zs : List Int) (z : Int) (hs : a.eval s = v) (hown : Own w B v zs)
    (b c : Nat) (hx : a.eval x = .slice (some ⟨b, 0, none⟩) 1 c) (hz : w.cell? ⟨b, 0, none⟩ = some (.int .i64 z)) (hlen : zs.length ≤ 1048576) (hB : B ≤ w.heap.size)
    (h : ∀ v' w', Own w' B v' (zs ++ [z]) → Below B w w' → w.heap.size ≤ w'.heap.size → K (a.put o.dst v') w') :
    if Region.wanted o (yielded ops a.tmps) = true then Oper.wp Try.prog o a w K Q else E := by
  obtain ⟨i0, hi, hz0, hz1, hz2⟩ := info_parts info3
  refine step_append_lies w hgd s x 37 ho B 3 i0 (.int .i64 0) 1 8 Try.underlying37 hi hz0 hz1 hz2 rfl (by decide) v zs.length (zs.map (Value.int .i64)) hs hown ⟨b, 0, none⟩ 1 c [.int .i64 z] hx rfl ?_ ?_ (by decide) ?_ ?_ hB w.heap.size rfl ?_
  · intro j u hu
    match j, hu with
    | 0, hu => simp at hu; subst hu; simpa [Addr.add] using hz
  · intro u hu; simp at hu; subst hu; rfl
  · unfold maxLen; omega
  · omega
  · intro g cap w' h1 h2 h3 h4
    refine h _ w' ?_ ?_ h2.size
    · unfold Own; simpa using h1
    · exact (Below.refl B w).grown h2 hB (fun k hk => (World.ownsRow.lt hown k hk).1)

/-- The same in a region that goes its way. -/
theorem list_put {ops : Array Oper} {rest : List Oper} {o : Oper} {a : Act} {w : World} {Q : Exit → Act → World → Prop} (hgd : o.guard = none) (s x : Operand)
    (ho : o.op = .call { callee := .builtin .append, args := #[s, x], argTypes := #[37, 37] }) (B : Nat) (v : Value) (zs : List Int) (z : Int) (hs : a.eval s = v) (hown : Own w B v zs)
    (b c : Nat) (hx : a.eval x = .slice (some ⟨b, 0, none⟩) 1 c) (hz : w.cell? ⟨b, 0, none⟩ = some (.int .i64 z)) (hlen : zs.length ≤ 1048576) (hB : B ≤ w.heap.size)
    (h : ∀ v' w', Own w' B v' (zs ++ [z]) → Below B w w' → w.heap.size ≤ w'.heap.size → wpList Try.prog ops Q rest (a.put o.dst v') w') : wpList Try.prog ops Q (o :: rest) a w := by
  obtain ⟨i0, hi, hz0, hz1, hz2⟩ := info_parts info3
  refine wpList_append_lies w hgd s x 37 ho B 3 i0 (.int .i64 0) 1 8 Try.underlying37 hi hz0 hz1 hz2 rfl (by decide) v zs.length (zs.map (Value.int .i64)) hs hown ⟨b, 0, none⟩ 1 c [.int .i64 z] hx rfl ?_ ?_ (by decide) ?_ ?_ hB w.heap.size rfl ?_
  · intro j u hu
    match j, hu with
    | 0, hu => simp at hu; subst hu; simpa [Addr.add] using hz
  · intro u hu; simp at hu; subst hu; rfl
  · unfold maxLen; omega
  · omega
  · intro g cap w' h1 h2 h3 h4
    refine h _ w' ?_ ?_ h2.size
    · unfold Own; simpa using h1
    · exact (Below.refl B w).grown h2 hB (fun k hk => (World.ownsRow.lt hown k hk).1)
end Go.Proofs.Ytchddjidjfpehaa

namespace Go.Proofs.Ytchddjidjfpehaa
open Go.RowKit

/-- The slice v reads as the numbers zs. -/
def Reads (W : World) (v : Value) (zs : List Int) : Prop :=
  ∃ (a : Option Addr) (cap : Nat), v = .slice a zs.length cap ∧ (zs = [] ∨ ∃ g off, a = some ⟨g, off, none⟩ ∧ g < W.heap.size ∧ ∀ j (hj : j < zs.length), W.cell? ⟨g, off + j, none⟩ = some (.int .i64 zs[j]))
theorem Own.reads {W : World} {B : Nat} {v : Value} {zs : List Int} (h : Own W B v zs) : Reads W v zs := by
  obtain ⟨a, cap, hv, hc⟩ := h.form
  refine ⟨a, cap, hv, hc.imp id ?_⟩
  rintro ⟨g, ha, -, hg, hcell, -⟩
  exact ⟨g, 0, ha, hg, fun j hj => by rw [Nat.zero_add]; exact hcell j hj⟩
/-- A store below the rows. -/
theorem Own.setCell {W : World} {B : Nat} {v : Value} {zs : List Int} (h : Own W B v zs) {p : Addr} (hp : p.block < B) (u : Value) : Own (W.setCell p u) B v zs := by
  refine ⟨h.1, ?_⟩
  rcases h.2 with hn | ⟨g, cap, cur, hv, h1, hg, hrest⟩
  · exact .inl hn
  · exact .inr ⟨g, cap, cur, hv, h1, (Below.heap_setCell _ _ _ _ (by omega)).trans hg, hrest⟩
theorem Own.shape {W : World} {B : Nat} {v : Value} {zs : List Int} (h : Own W B v zs) : ∃ a cap, v = .slice a zs.length cap := by obtain ⟨a, cap, hv, -⟩ := h.form; exact ⟨a, cap, hv⟩
theorem Reads.shape {W : World} {v : Value} {zs : List Int} (h : Reads W v zs) : ∃ a cap, v = .slice a zs.length cap := by obtain ⟨a, cap, hv, -⟩ := h; exact ⟨a, cap, hv⟩
theorem Reads.below {W W' : World} {v : Value} {zs : List Int} (h : Reads W v zs) (hb : Below W.heap.size W W') : Reads W' v zs := by
  obtain ⟨a, cap, hv, hc⟩ := h
  refine ⟨a, cap, hv, hc.imp id ?_⟩
  rintro ⟨g, off, ha, hg, hcell⟩
  exact ⟨g, off, ha, Nat.lt_of_lt_of_le hg hb.size, fun j hj => (hb.cell (p := ⟨g, off + j, none⟩) hg).trans (hcell j hj)⟩

/-- Numbers that rise by one from k on. -/
def marks (k : Int) (n : Nat) : List Int := (List.range n).map fun j : Nat => k + (j : Int)
theorem marks_len (k : Int) (n : Nat) : (marks k n).length = n := by simp [marks]
theorem marks_get (k : Int) (n j : Nat) (h : j < (marks k n).length) : (marks k n)[j] = k + (j : Int) := by simp [marks]

/-- The numbers of which the first i are marks. -/
def marked (k0 : Int) (zs : List Int) (i : Nat) : List Int := marks k0 i ++ zs.drop i
theorem marked_len (k0 : Int) (zs : List Int) (i : Nat) (h : i ≤ zs.length) : (marked k0 zs i).length = zs.length := by simp [marked, marks_len]; omega
theorem marked_next (k0 : Int) (zs : List Int) (i : Nat) (h : i < zs.length) : marked k0 zs (i + 1) = (marked k0 zs i).set i (k0 + (i : Int)) := by
  unfold marked
  have e : zs.drop i = zs[i] :: zs.drop (i + 1) := List.drop_eq_getElem_cons h
  rw [List.set_append_right _ _ (by rw [marks_len]; exact Nat.le_refl _), marks_len, Nat.sub_self, e, List.set_cons_zero]
  simp [marks, List.range_succ]
theorem marked_all (k0 : Int) (zs : List Int) : marked k0 zs zs.length = marks k0 zs.length := by simp [marked]

theorem Own.set {W : World} {B : Nat} {zs : List Int} {g cap : Nat} (h : Own W B (.slice (some ⟨g, 0, none⟩) zs.length cap) zs) (j : Nat) (z : Int) :
    Own (W.setCell ⟨g, j, none⟩ (.int .i64 z)) B (.slice (some ⟨g, 0, none⟩) zs.length cap) (zs.set j z) := by
  have := (World.ownsRow.stored h j (.int .i64 z)).1
  unfold Own
  rw [List.length_set, List.map_set]
  exact this

end Go.Proofs.Ytchddjidjfpehaa

namespace Go.Proofs.Ytchddjidjfpehaa
open Go.RowKit

theorem ret_bool {a b : Bool} (h : a = b) : Ending.returned (.bool a) = .returned (.bool b) := by rw [h]

/-- 'make([]int, n)'. -/
theorem make_ints (n : Nat) (hn : n ≤ 4194304) (w : World) : ∃ W1 : World,
    (Instr.makeSlice 37 (.int .i64 (n : Int)) (.int .i64 (n : Int))).run Try.prog w = .ok (.slice (some ⟨w.heap.size, 0, none⟩) n n) W1 ∧
    Own W1 w.heap.size (.slice (some ⟨w.heap.size, 0, none⟩) n n) (List.replicate n 0) ∧ Below w.heap.size w W1 ∧ w.heap.size < W1.heap.size := by
  obtain ⟨i0, hi, hz0, hz1, hz2⟩ := info_parts info3
  obtain ⟨w', hr, ho, hg⟩ := run_make_full (P := Try.prog) w w.heap.size 37 3 i0 (.int .i64 0) 1 Try.underlying37 hi hz0 hz1 .i64 .i64 n (by rw [hz2]; omega) (by unfold maxLen; omega) (Nat.le_refl _)
  have hlt := (World.ownsRow.lt ho w.heap.size rfl).2
  refine ⟨w', hr, ?_, (Below.refl _ w).grown hg (Nat.le_refl _) (fun k hk => by cases hk), hlt⟩
  unfold Own
  rw [List.length_replicate, List.map_replicate]
  have e := toList_madeCells_one (.int .i64 0) n
  simp only [Nat.mul_one] at ho
  rw [show (Value.int IntKind.i64 0).cells = #[Value.int .i64 0] from rfl, e] at ho
  exact ho

theorem Own.grow {W W' : World} {B : Nat} {v : Value} {zs : List Int} {row : Option Nat} (h : Own W B v zs) (hg : W.grownBy W' row) (hne : ∀ k, row = some k → v.ownBlock ≠ some k) : Own W' B v zs := by
  refine World.ownsRow.kept h hg ?_
  rcases hv : v.ownBlock with _ | k
  · exact .inl rfl
  · exact .inr fun e => hne k e.symm hv

/-- Whether all numbers lie between two. -/
def allB (zs : List Int) (lo hi : Int) : Bool := zs.all fun z => decide (lo ≤ z ∧ z ≤ hi)
theorem allB_no (zs : List Int) (lo hi : Int) (k : Nat) (h : k < zs.length) (hz : zs[k] < lo ∨ hi < zs[k]) : allB zs lo hi = false := by
  rw [Bool.eq_false_iff]
  intro e
  have := of_decide_eq_true (List.all_eq_true.1 e _ (List.getElem_mem h))
  omega
theorem allB_yes (zs : List Int) (lo hi : Int) (h : ∀ j (hj : j < zs.length), lo ≤ zs[j] ∧ zs[j] ≤ hi) : allB zs lo hi = true :=
  List.all_eq_true.2 fun z hz => by
    obtain ⟨j, hj, rfl⟩ := List.getElem_of_mem hz
    exact decide_eq_true (h j hj)
theorem allB_at (zs : List Int) (lo hi : Int) (h : allB zs lo hi = true) (j : Nat) (hj : j < zs.length) : lo ≤ zs[j] ∧ zs[j] ≤ hi :=
  of_decide_eq_true (List.all_eq_true.1 h _ (List.getElem_mem hj))

/-- 'l1In'. -/
theorem l1In_any (n lo hi : Int) (w : World) : Calls Try.prog 50 #[.int .i64 n, .int .i64 lo, .int .i64 hi] w fun e w' => e = .returned (.bool (decide (lo ≤ n ∧ n ≤ hi))) ∧ w' = w := by
  by_cases h1 : lo ≤ n
  · have d1 : decide (lo ≤ n) = true := by simp; omega
    by_cases h2 : n ≤ hi
    · have d2 : decide (n ≤ hi) = true := by simp; omega
      have e : decide (lo ≤ n ∧ n ≤ hi) = true := by simp; omega
      rw [e]; clear e
      go_enter Try.func50, Try.ntmps50
      go_wp2
      go_ret
      exact ⟨rfl, rfl⟩
    · have d2 : decide (n ≤ hi) = false := by simp; omega
      have e : decide (lo ≤ n ∧ n ≤ hi) = false := by simp; omega
      rw [e]; clear e
      go_enter Try.func50, Try.ntmps50
      go_wp2
      go_ret
      exact ⟨rfl, rfl⟩
  · have d1 : decide (lo ≤ n) = false := by simp; omega
    have e : decide (lo ≤ n ∧ n ≤ hi) = false := by simp; omega
    rw [e]; clear e
    go_enter Try.func50, Try.ntmps50
    go_wp2
    go_ret
    exact ⟨rfl, rfl⟩

/-- Whether a list can be put into bytes. -/
def numsB (zs : List Int) : Bool := decide (zs.length ≤ 20) && allB zs 0 65535

set_option maxRecDepth 100000 in
set_option maxHeartbeats 1000000 in
theorem isNums_any (W : World) (v : Value) (zs : List Int) (h : Reads W v zs) (hl : zs.length ≤ 4194304) :
    Calls Try.prog 118 #[v] W fun e W' => e = .returned (.bool (numsB zs)) ∧ W' = W := by
  obtain ⟨a1, cap1, rfl, hc1⟩ := h
  by_cases h20 : zs.length ≤ 20
  · have HE : Hid (numsB zs = allB zs 0 65535) := by show _ = _; unfold numsB; rw [decide_eq_true h20]; rfl
    have d0 : ¬ (20 : Int) < (zs.length : Int) := by omega
    rcases hc1 with rfl | ⟨g1, o1, rfl, -, hc1⟩
    · simp only [List.length_nil]
      go_enter Try.func118, Try.ntmps118
      go_wp2
      refine wp_loop_rounds 1 ?_
      rw [rounds_succ]
      go_wp2
      go_ret
      exact ⟨rfl, rfl⟩
    · have HC1 : Hid (∀ j (hj : j < zs.length), W.cell? ⟨g1, o1 + j, none⟩ = some (.int .i64 zs[j])) := hc1
      clear hc1
      go_enter Try.func118, Try.ntmps118
      go_wp2
      go_loop [10] (fun i => ∃ k : Nat, k ≤ zs.length ∧ i = .int .i64 k ∧ Hid (∀ j (hj : j < zs.length), j < k → 0 ≤ zs[j] ∧ zs[j] ≤ 65535)) (fun i => zs.length - (intOf i).toNat)
      case atStart => exact ⟨0, Nat.zero_le _, rfl, fun j hj h => absurd h (Nat.not_lt_zero _)⟩
      case round =>
        obtain ⟨k, hk, rfl, HA⟩ := hrel
        by_cases hlt : k < zs.length
        · have c1 := HC1.out k hlt
          by_cases h0 : zs[k] < 0
          · have HF : Hid (allB zs 0 65535 = false) := allB_no zs 0 65535 k hlt (by omega)
            have d1 : decide (zs[k] < 0) = true := by simp; omega
            generalize zs[k] = z at *
            have hlt' : (k : Int) < (zs.length : Int) := by omega
            go_wp2
            go_ret
            exact ⟨ret_bool (HE.out.trans HF.out).symm, rfl⟩
          · have d1 : decide (zs[k] < 0) = false := by simp; omega
            by_cases h1 : 65535 < zs[k]
            · have HF : Hid (allB zs 0 65535 = false) := allB_no zs 0 65535 k hlt (by omega)
              have d2 : decide (65535 < zs[k]) = true := by simp; omega
              generalize zs[k] = z at *
              have hlt' : (k : Int) < (zs.length : Int) := by omega
              go_wp2
              go_ret
              exact ⟨ret_bool (HE.out.trans HF.out).symm, rfl⟩
            · have d2 : decide (65535 < zs[k]) = false := by simp; omega
              have HA1 : Hid (∀ j (hj : j < zs.length), j < k + 1 → 0 ≤ zs[j] ∧ zs[j] ≤ 65535) := fun j hj h => by
                by_cases e : j = k
                · subst e; omega
                · exact HA.out j hj (by omega)
              generalize zs[k] = z at *
              have hlt' : (k : Int) < (zs.length : Int) := by omega
              go_wp2
              go_round
              case rel => exact ⟨k + 1, by omega, by go_num, HA1⟩
              case measure => simp [intOf]; omega
        · have HF : Hid (allB zs 0 65535 = true) := allB_yes zs 0 65535 fun j hj => HA.out j hj (by omega)
          go_wp2
          go_ret
          exact ⟨ret_bool (HE.out.trans HF.out).symm, rfl⟩
  · have HE : Hid (numsB zs = false) := by show _ = _; unfold numsB; rw [decide_eq_false h20]; rfl
    have d0 : (20 : Int) < (zs.length : Int) := by omega
    clear hc1
    go_enter Try.func118, Try.ntmps118
    go_wp2
    go_ret
    exact ⟨ret_bool HE.out.symm, rfl⟩
end Go.Proofs.Ytchddjidjfpehaa
