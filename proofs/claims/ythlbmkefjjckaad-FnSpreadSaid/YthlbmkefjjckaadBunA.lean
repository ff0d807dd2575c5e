import Derived.Test.YthlbmkefjjckaadRows
import Derived.Test.YthlbmkefjjckaadSince0
import Derived.WalkKit
import Derived.Laws.AppendOwn
import Derived.Laws.OwnMore
import Derived.OwnWalk
import Derived.Deep.AppendLies
import Derived.Deep.RegionWith
import Derived.BigRegion
import Derived.BigQuiet
import Derived.Deep.QuietTactic
import Derived.Laws.BytesArg
import Derived.Laws.IdiomStrings
import Derived.Lib.UnsafeStr
import Derived.WideShapes
import Derived.Deep.RegionHeld3
import Derived.Maps.AppendAt
import Derived.Laws.AppendOwnNone
/-
  Rows of numbers that a call has made: a slice that owns its numbers.
-/
namespace Go.Proofs.Ythlbmkefjjckaad
open Go.RowKit

theorem info3 : (Try.prog.info? 3).map (fun i => (i.zero, i.size, i.bytes)) = some (some (.int .i64 0), 1, 8) := by kernel_rfl

/-- The slice v owns the numbers zs, in a block from B on. -/
def Own (W : World) (B : Nat) (v : Value) (zs : List Int) : Prop := W.ownsRow B 3 1 v zs.length (zs.map (Value.int .i64))
theorem Own.nil (W : World) (B : Nat) : Own W B (.slice none 0 0) [] := World.ownsRow_nil W B 3 1

/-- Such a slice, told by its address and its cells: nil, or a block's head. -/
theorem Own.form {W : World} {B : Nat} {v : Value} {zs : List Int} (h : Own W B v zs) :
    ∃ (a : Option Addr) (cap : Nat), v = .slice a zs.length cap ∧ (zs = [] ∨ ∃ g, a = some ⟨g, 0, none⟩ ∧ B ≤ g ∧ g < W.heap.size ∧ (∀ j (hj : j < zs.length), W.cell? ⟨g, j, none⟩ = some (.int .i64 zs[j])) ∧ ∀ j, W.frozen? ⟨g, j, none⟩ = false) := by
  have h0 := h
  rcases h.2 with ⟨hv, hn⟩ | ⟨g, cap, cur, hv, hb, hg, hrest⟩
  · refine ⟨none, 0, by rw [hv, hn], .inl (List.eq_nil_of_length_eq_zero hn)⟩
  · subst hv
    refine ⟨_, _, rfl, .inr ⟨g, rfl, hb, (Array.getElem?_eq_some_iff.1 hg).1, fun j hj => ?_, fun j => World.ownsRow.frozenAt h0 j⟩⟩
    rw [World.ownsRow.cellAt h0 j (by omega)]
    simp [hj]
theorem Own.alloc {W : World} {B : Nat} {v : Value} {zs : List Int} (h : Own W B v zs) (o : Obj) : Own (W.alloc o) B v zs := World.ownsRow.alloc h o
theorem Own.drew {W : World} {B : Nat} {v : Value} {zs : List Int} (h : Own W B v zs) : Own W.drew B v zs := h
theorem Own.below {W W' : World} {B : Nat} {v : Value} {zs : List Int} (h : Own W B v zs) (hb : Below W.heap.size W W') : Own W' B v zs := by
  refine ⟨h.1, ?_⟩
  rcases h.2 with hn | ⟨g, cap, cur, hv, h1, hg, hrest⟩
  · exact .inl hn
  · exact .inr ⟨g, cap, cur, hv, h1, (hb.block g (Array.getElem?_eq_some_iff.1 hg).1).trans hg, hrest⟩
theorem Own.mono {W : World} {B B' : Nat} {v : Value} {zs : List Int} (h : Own W B v zs) (hB : B' ≤ B) : Own W B' v zs := by
  refine ⟨h.1, ?_⟩
  rcases h.2 with hn | ⟨g, cap, cur, hv, h1, hrest⟩
  · exact .inl hn
  · exact .inr ⟨g, cap, cur, hv, Nat.le_trans hB h1, hrest⟩

theorem new_cell (w : World) (z : Value) (t : TypeId) : (w.alloc (.cells #[z] t)).cell? ⟨w.heap.size, 0, none⟩ = some z := by
  rw [World.cell?_alloc_at _ _ _ _ rfl]; rfl

/-- 'append(l, z)' of one number, at a step of a region that draws. -/
theorem step_put {ops : Array Oper} {o : Oper} {a : Act} {w : World} {K : Act → World → Prop} {Q : Exit → Act → World → Prop} {E : Prop} (hgd : o.guard = none) (s x : Operand)
    (ho : o.op = .call { callee := .builtin .append, args := #[s, x], argTypes := #[26, 26] }) (B : Nat) (v : Value) (zs : List Int) (z : Int) (hs : a.eval s = v) (hown : Own w B v zs)
    (b c : Nat) (hx : a.eval x = .slice (some ⟨b, 0, none⟩) 1 c) (hz : w.cell? ⟨b, 0, none⟩ = some (.int .i64 z)) (hlen : zs.length ≤ 1048576) (hB : B ≤ w.heap.size)
    (h : ∀ v' w', Own w' B v' (zs ++ [z]) → Below B w w' → w.heap.size ≤ w'.heap.size → K (a.put o.dst v') w') :
    if Region.wanted o (yielded ops a.tmps) = true then Oper.wp Try.prog o a w K Q else E := by
  obtain ⟨i0, hi, hz0, hz1, hz2⟩ := info_parts info3
  refine step_append_lies w hgd s x 26 ho B 3 i0 (.int .i64 0) 1 8 Try.underlying26 hi hz0 hz1 hz2 rfl (by decide) v zs.length (zs.map (Value.int .i64)) hs hown ⟨b, 0, none⟩ 1 c [.int .i64 z] hx rfl ?_ ?_ (by decide) ?_ ?_ hB w.heap.size rfl ?_
  · intro j u hu
    match j, hu with
    | 0, hu => simp at hu; subst hu; simpa [Addr.add] using hz
  · intro u hu; simp at hu; subst hu; rfl
  · unfold maxLen; omega
  · omega
  · intro g cap w' h1 h2 h3 h4
    refine h _ w' ?_ ?_ h2.size
    · unfold Own; simpa using h1
    · exact (Below.refl B w).grown h2 hB (fun k hk => (World.ownsRow.lt hown k hk).1)

/-- The same in a region that goes its way. -/
theorem list_put {ops : Array Oper} {rest : List Oper} {o : Oper} {a : Act} {w : World} {Q : Exit → Act → World → Prop} (hgd : o.guard = none) (s x : Operand)
    (ho : o.op = .call { callee := .builtin .append, args := #[s, x], argTypes := #[26, 26] }) (B : Nat) (v : Value) (zs : List Int) (z : Int) (hs : a.eval s = v) (hown : Own w B v zs)
    (b c : Nat) (hx : a.eval x = .slice (some ⟨b, 0, none⟩) 1 c) (hz : w.cell? ⟨b, 0, none⟩ = some (.int .i64 z)) (hlen : zs.length ≤ 1048576) (hB : B ≤ w.heap.size)
    (h : ∀ v' w', Own w' B v' (zs ++ [z]) → Below B w w' → w.heap.size ≤ w'.heap.size → wpList Try.prog ops Q rest (a.put o.dst v') w') : wpList Try.prog ops Q (o :: rest) a w := by
  obtain ⟨i0, hi, hz0, hz1, hz2⟩ := info_parts info3
  refine wpList_append_lies w hgd s x 26 ho B 3 i0 (.int .i64 0) 1 8 Try.underlying26 hi hz0 hz1 hz2 rfl (by decide) v zs.length (zs.map (Value.int .i64)) hs hown ⟨b, 0, none⟩ 1 c [.int .i64 z] hx rfl ?_ ?_ (by decide) ?_ ?_ hB w.heap.size rfl ?_
  · intro j u hu
    match j, hu with
    | 0, hu => simp at hu; subst hu; simpa [Addr.add] using hz
  · intro u hu; simp at hu; subst hu; rfl
  · unfold maxLen; omega
  · omega
  · intro g cap w' h1 h2 h3 h4
    refine h _ w' ?_ ?_ h2.size
    · unfold Own; simpa using h1
    · exact (Below.refl B w).grown h2 hB (fun k hk => (World.ownsRow.lt hown k hk).1)
end Go.Proofs.Ythlbmkefjjckaad

/-
  What the laws' 'eqIntS', 'markIntS' and 'heldIntS' answer.
-/
namespace Go.Proofs.Ythlbmkefjjckaad
open Go.RowKit

/-- The slice v reads as the numbers zs. -/
def Reads (W : World) (v : Value) (zs : List Int) : Prop :=
  ∃ (a : Option Addr) (cap : Nat), v = .slice a zs.length cap ∧ (zs = [] ∨ ∃ g off, a = some ⟨g, off, none⟩ ∧ g < W.heap.size ∧ ∀ j (hj : j < zs.length), W.cell? ⟨g, off + j, none⟩ = some (.int .i64 zs[j]))
theorem Own.reads {W : World} {B : Nat} {v : Value} {zs : List Int} (h : Own W B v zs) : Reads W v zs := by
  obtain ⟨a, cap, hv, hc⟩ := h.form
  refine ⟨a, cap, hv, hc.imp id ?_⟩
  rintro ⟨g, ha, -, hg, hcell, -⟩
  exact ⟨g, 0, ha, hg, fun j hj => by rw [Nat.zero_add]; exact hcell j hj⟩
/-- A store below the rows. -/
theorem Own.setCell {W : World} {B : Nat} {v : Value} {zs : List Int} (h : Own W B v zs) {p : Addr} (hp : p.block < B) (u : Value) : Own (W.setCell p u) B v zs := by
  refine ⟨h.1, ?_⟩
  rcases h.2 with hn | ⟨g, cap, cur, hv, h1, hg, hrest⟩
  · exact .inl hn
  · exact .inr ⟨g, cap, cur, hv, h1, (Below.heap_setCell _ _ _ _ (by omega)).trans hg, hrest⟩
theorem Own.shape {W : World} {B : Nat} {v : Value} {zs : List Int} (h : Own W B v zs) : ∃ a cap, v = .slice a zs.length cap := by obtain ⟨a, cap, hv, -⟩ := h.form; exact ⟨a, cap, hv⟩
theorem Reads.shape {W : World} {v : Value} {zs : List Int} (h : Reads W v zs) : ∃ a cap, v = .slice a zs.length cap := by obtain ⟨a, cap, hv, -⟩ := h; exact ⟨a, cap, hv⟩
theorem Reads.below {W W' : World} {v : Value} {zs : List Int} (h : Reads W v zs) (hb : Below W.heap.size W W') : Reads W' v zs := by
  obtain ⟨a, cap, hv, hc⟩ := h
  refine ⟨a, cap, hv, hc.imp id ?_⟩
  rintro ⟨g, off, ha, hg, hcell⟩
  exact ⟨g, off, ha, Nat.lt_of_lt_of_le hg hb.size, fun j hj => (hb.cell (p := ⟨g, off + j, none⟩) hg).trans (hcell j hj)⟩

/-- Numbers that rise by one from k on. -/
def marks (k : Int) (n : Nat) : List Int := (List.range n).map fun j : Nat => k + (j : Int)
theorem marks_len (k : Int) (n : Nat) : (marks k n).length = n := by simp [marks]
theorem marks_get (k : Int) (n j : Nat) (h : j < (marks k n).length) : (marks k n)[j] = k + (j : Int) := by simp [marks]

/-- The numbers of which the first i are marks. -/
def marked (k0 : Int) (zs : List Int) (i : Nat) : List Int := marks k0 i ++ zs.drop i
theorem marked_len (k0 : Int) (zs : List Int) (i : Nat) (h : i ≤ zs.length) : (marked k0 zs i).length = zs.length := by simp [marked, marks_len]; omega
theorem marked_next (k0 : Int) (zs : List Int) (i : Nat) (h : i < zs.length) : marked k0 zs (i + 1) = (marked k0 zs i).set i (k0 + (i : Int)) := by
  unfold marked
  have e : zs.drop i = zs[i] :: zs.drop (i + 1) := List.drop_eq_getElem_cons h
  rw [List.set_append_right _ _ (by rw [marks_len]; exact Nat.le_refl _), marks_len, Nat.sub_self, e, List.set_cons_zero]
  simp [marks, List.range_succ]
theorem marked_all (k0 : Int) (zs : List Int) : marked k0 zs zs.length = marks k0 zs.length := by simp [marked]

theorem Own.set {W : World} {B : Nat} {zs : List Int} {g cap : Nat} (h : Own W B (.slice (some ⟨g, 0, none⟩) zs.length cap) zs) (j : Nat) (z : Int) :
    Own (W.setCell ⟨g, j, none⟩ (.int .i64 z)) B (.slice (some ⟨g, 0, none⟩) zs.length cap) (zs.set j z) := by
  have := (World.ownsRow.stored h j (.int .i64 z)).1
  unfold Own
  rw [List.length_set, List.map_set]
  exact this

end Go.Proofs.Ythlbmkefjjckaad

/-
  Lists of numbers: their copies, whether they are in range, and their bytes, the program's and the model's.
-/
namespace Go.Proofs.Ythlbmkefjjckaad
open Go.RowKit

theorem ret_bool {a b : Bool} (h : a = b) : Ending.returned (.bool a) = .returned (.bool b) := by rw [h]

/-- 'make([]int, n)'. -/
theorem make_ints (n : Nat) (hn : n ≤ 4194304) (w : World) : ∃ W1 : World,
    (Instr.makeSlice 26 (.int .i64 (n : Int)) (.int .i64 (n : Int))).run Try.prog w = .ok (.slice (some ⟨w.heap.size, 0, none⟩) n n) W1 ∧
    Own W1 w.heap.size (.slice (some ⟨w.heap.size, 0, none⟩) n n) (List.replicate n 0) ∧ Below w.heap.size w W1 ∧ w.heap.size < W1.heap.size := by
  obtain ⟨i0, hi, hz0, hz1, hz2⟩ := info_parts info3
  obtain ⟨w', hr, ho, hg⟩ := run_make_full (P := Try.prog) w w.heap.size 26 3 i0 (.int .i64 0) 1 Try.underlying26 hi hz0 hz1 .i64 .i64 n (by rw [hz2]; omega) (by unfold maxLen; omega) (Nat.le_refl _)
  have hlt := (World.ownsRow.lt ho w.heap.size rfl).2
  refine ⟨w', hr, ?_, (Below.refl _ w).grown hg (Nat.le_refl _) (fun k hk => by cases hk), hlt⟩
  unfold Own
  rw [List.length_replicate, List.map_replicate]
  have e := toList_madeCells_one (.int .i64 0) n
  simp only [Nat.mul_one] at ho
  rw [show (Value.int IntKind.i64 0).cells = #[Value.int .i64 0] from rfl, e] at ho
  exact ho

theorem Own.grow {W W' : World} {B : Nat} {v : Value} {zs : List Int} {row : Option Nat} (h : Own W B v zs) (hg : W.grownBy W' row) (hne : ∀ k, row = some k → v.ownBlock ≠ some k) : Own W' B v zs := by
  refine World.ownsRow.kept h hg ?_
  rcases hv : v.ownBlock with _ | k
  · exact .inl rfl
  · exact .inr fun e => hne k e.symm hv

/-- Whether all numbers lie between two. -/
def allB (zs : List Int) (lo hi : Int) : Bool := zs.all fun z => decide (lo ≤ z ∧ z ≤ hi)
theorem allB_no (zs : List Int) (lo hi : Int) (k : Nat) (h : k < zs.length) (hz : zs[k] < lo ∨ hi < zs[k]) : allB zs lo hi = false := by
  rw [Bool.eq_false_iff]
  intro e
  have := of_decide_eq_true (List.all_eq_true.1 e _ (List.getElem_mem h))
  omega
theorem allB_yes (zs : List Int) (lo hi : Int) (h : ∀ j (hj : j < zs.length), lo ≤ zs[j] ∧ zs[j] ≤ hi) : allB zs lo hi = true :=
  List.all_eq_true.2 fun z hz => by
    obtain ⟨j, hj, rfl⟩ := List.getElem_of_mem hz
    exact decide_eq_true (h j hj)
theorem allB_at (zs : List Int) (lo hi : Int) (h : allB zs lo hi = true) (j : Nat) (hj : j < zs.length) : lo ≤ zs[j] ∧ zs[j] ≤ hi :=
  of_decide_eq_true (List.all_eq_true.1 h _ (List.getElem_mem hj))

/-- 'l1In'. -/
theorem l1In_any (n lo hi : Int) (w : World) : Calls Try.prog 40 #[.int .i64 n, .int .i64 lo, .int .i64 hi] w fun e w' => e = .returned (.bool (decide (lo ≤ n ∧ n ≤ hi))) ∧ w' = w := by
  by_cases h1 : lo ≤ n
  · have d1 : decide (lo ≤ n) = true := by simp; omega
    by_cases h2 : n ≤ hi
    · have d2 : decide (n ≤ hi) = true := by simp; omega
      have e : decide (lo ≤ n ∧ n ≤ hi) = true := by simp; omega
      rw [e]; clear e
      go_enter Try.func40, Try.ntmps40
      go_wp2
      go_ret
      exact ⟨rfl, rfl⟩
    · have d2 : decide (n ≤ hi) = false := by simp; omega
      have e : decide (lo ≤ n ∧ n ≤ hi) = false := by simp; omega
      rw [e]; clear e
      go_enter Try.func40, Try.ntmps40
      go_wp2
      go_ret
      exact ⟨rfl, rfl⟩
  · have d1 : decide (lo ≤ n) = false := by simp; omega
    have e : decide (lo ≤ n ∧ n ≤ hi) = false := by simp; omega
    rw [e]; clear e
    go_enter Try.func40, Try.ntmps40
    go_wp2
    go_ret
    exact ⟨rfl, rfl⟩

/-- Whether a list can be put into bytes. -/
def numsB (zs : List Int) : Bool := decide (zs.length ≤ 20) && allB zs 0 65535

end Go.Proofs.Ythlbmkefjjckaad

/-
  Rows of any kind that a call owns: how they are kept, when two of them are apart, and 'append' onto them.
-/
namespace Go.Proofs.Ythlbmkefjjckaad
open Go.RowKit

theorem rowSame {W W' : World} {B : Nat} {e : TypeId} {size : Nat} {v : Value} {n : Nat} {xs : List Value} (h : W.ownsRow B e size v n xs) (he : ∀ k, v.ownBlock = some k → W'.heap[k]? = W.heap[k]?) : W'.ownsRow B e size v n xs := by
  refine ⟨h.1, ?_⟩
  rcases h.2 with hn | ⟨g, cap, cur, hv, h1, hg, hrest⟩
  · exact .inl hn
  · exact .inr ⟨g, cap, cur, hv, h1, (he g (by rw [hv]; rfl)).trans hg, hrest⟩
theorem rowBelow {W W' : World} {B : Nat} {e : TypeId} {size : Nat} {v : Value} {n : Nat} {xs : List Value} (h : W.ownsRow B e size v n xs) (hb : Below W.heap.size W W') : W'.ownsRow B e size v n xs :=
  rowSame h fun k hk => hb.block k (World.ownsRow.lt h k hk).2
theorem rowMono {W : World} {B B' : Nat} {e : TypeId} {size : Nat} {v : Value} {n : Nat} {xs : List Value} (h : W.ownsRow B e size v n xs) (hB : B' ≤ B) : W.ownsRow B' e size v n xs :=
  ⟨h.1, h.2.imp id fun ⟨g, cap, cur, hv, h1, hr⟩ => ⟨g, cap, cur, hv, Nat.le_trans hB h1, hr⟩⟩
theorem rowShape {W : World} {B : Nat} {e : TypeId} {size : Nat} {v : Value} {n : Nat} {xs : List Value} (h : W.ownsRow B e size v n xs) : ∃ a cap, v = .slice a n cap := by
  rcases h.2 with ⟨hv, hn⟩ | ⟨g, cap, cur, hv, -⟩
  · exact ⟨none, 0, by rw [hv, hn]⟩
  · exact ⟨_, _, hv⟩
theorem rowSet {W : World} {B : Nat} {e : TypeId} {size : Nat} {v : Value} {n : Nat} {xs : List Value} (h : W.ownsRow B e size v n xs) {p : Addr} (hp : p.block < B) (u : Value) : (W.setCell p u).ownsRow B e size v n xs :=
  rowSame h fun k hk => Below.heap_setCell _ _ _ _ (fun e => by have := (World.ownsRow.lt h k hk).1; omega)
/-- Rows of two kinds are no one block. -/
theorem rowsApart {W : World} {B B' : Nat} {e e' : TypeId} {size size' n n' : Nat} {v u : Value} {xs ys : List Value} (h : W.ownsRow B e size v n xs) (h' : W.ownsRow B' e' size' u n' ys) (hne : e ≠ e') : ∀ k, v.ownBlock = some k → u.ownBlock ≠ some k := by
  intro k hk hk2
  rcases h.2 with ⟨rfl, -⟩ | ⟨g, cap, cur, rfl, -, hg, -⟩
  · simp [Value.ownBlock] at hk
  · rcases h'.2 with ⟨rfl, -⟩ | ⟨g', cap', cur', rfl, -, hg', -⟩
    · simp [Value.ownBlock] at hk2
    · simp only [Value.ownBlock, Option.some.injEq] at hk hk2
      subst hk
      subst hk2
      rw [hg] at hg'
      simp only [Option.some.injEq, Obj.cells.injEq] at hg'
      exact hne hg'.2.1
/-- A row that was there, and one that is newer. -/
theorem rowsApartLt {W : World} {B B' : Nat} {e e' : TypeId} {size size' n n' : Nat} {v u : Value} {xs ys : List Value} {W0 : World} (h : W0.ownsRow B e size v n xs) (h' : W.ownsRow B' e' size' u n' ys) (hB : W0.heap.size ≤ B') : ∀ k, v.ownBlock = some k → u.ownBlock ≠ some k := fun k hk hk2 => by
  have h1 := (World.ownsRow.lt h k hk).2
  have h2 := (World.ownsRow.lt h' k hk2).1
  omega

/-- What is appended: the nil list, or what lies at an address. -/
def Src (w : World) (x : Value) (m : Nat) (news : List Value) : Prop :=
  (x = .slice none 0 0 ∧ m = 0 ∧ news = []) ∨ ∃ ad c, x = .slice (some ad) m c ∧ ∀ j u, news[j]? = some u → w.cell? (ad.add j) = some u
theorem Src.row {w : World} {B : Nat} {e : TypeId} {size : Nat} {v : Value} {n : Nat} {xs : List Value} (h : w.ownsRow B e size v n xs) : Src w v n xs := by
  have h' := h
  rcases h.2 with ⟨rfl, rfl⟩ | ⟨g, cap, cur, rfl, hrest⟩
  · exact .inl ⟨rfl, rfl, List.eq_nil_of_length_eq_zero (by have := h.1; omega)⟩
  · exact .inr ⟨_, _, rfl, World.ownsRow.cells h' rfl⟩

/-- What an append leaves. -/
structure Grown (w : World) (B : Nat) (e : TypeId) (size : Nat) (v : Value) (n : Nat) (xs : List Value) (v' : Value) (w' : World) : Prop where
  own : w'.ownsRow B e size v' n xs
  below : Below B w w'
  size : w.heap.size ≤ w'.heap.size
  grown : w.grownBy w' v.ownBlock
  lies : v'.ownBlock = v.ownBlock ∨ v'.ownBlock = some w.heap.size

theorem run_app (w : World) (B : Nat) (t ty e : TypeId) (i : TypeInfo) (z : Value) (size bytes : Nat) (ht : Try.prog.underlying t = some (.slice e)) (hi : Try.prog.info? e = some i) (hz : i.zero = some z)
    (hsize : i.size = size) (hby : i.bytes = bytes) (hzs : z.cells.size = size) (hsz : 0 < size) (v : Value) (n : Nat) (xs : List Value) (hown : w.ownsRow B e size v n xs)
    (x : Value) (m : Nat) (news : List Value) (hsrc : Src w x m news) (hl : news.length = m * size) (h1 : ∀ u ∈ news, u.oneCell' = true)
    (h63 : n + m ≤ maxLen) (hbytes : (n + m) * bytes ≤ 140737488355328) (hB : B ≤ w.heap.size) :
    ∃ v' w', (Builtin.append_ #[t, t] ty #[v, x]).run Try.prog w = .ok v' w' ∧ Grown w B e size v (n + m) (xs ++ news) v' w' := by
  rcases hsrc with ⟨rfl, rfl, rfl⟩ | ⟨ad, c, rfl, hnews⟩
  · refine ⟨v, w, run_append_owned_none (P := Try.prog) (w := w) B t ty e i size ht hi v n xs hown, ?_, Below.refl _ _, Nat.le_refl _, ⟨rfl, rfl, rfl, Nat.le_refl _, fun _ _ _ => rfl⟩, .inl rfl⟩
    simpa using hown
  · obtain ⟨v', w', hr, h2, h3, _, h5⟩ := run_append_own_at (P := Try.prog) w B t ty e i z size bytes ht hi hz hsize hby hzs hsz v n xs hown ad m c news hl hnews h1 h63 hbytes hB
    exact ⟨v', w', hr, h2, (Below.refl B w).grown h3 hB (fun k hk => (World.ownsRow.lt hown k hk).1), h3.size, h3, h5⟩

theorem wp_app {o : Oper} {a : Act} {w : World} {K : Act → World → Prop} {Q : Exit → Act → World → Prop} (s x : Operand) (t : TypeId)
    (ho : o.op = .call { callee := .builtin .append, args := #[s, x], argTypes := #[t, t] }) (v xv : Value) (hs : a.eval s = v) (hx : a.eval x = xv)
    (R : Value → World → Prop) (hrun : ∀ ty, ∃ v' w', (Builtin.append_ #[t, t] ty #[v, xv]).run Try.prog w = .ok v' w' ∧ R v' w') (h : ∀ v' w', R v' w' → K (a.put o.dst v') w') : o.wp Try.prog a w K Q := by
  obtain ⟨v', w', hr, hR⟩ := hrun o.type
  unfold Oper.wp execOp
  simp only [ho, resolve, invoke, builtin, Sem.run_bind, Sem.run_pure, Result.andThen_ok, List.map_toArray, List.map_cons, List.map_nil, hs, hx, hr]
  exact h v' w' hR
theorem list_app {ops : Array Oper} {rest : List Oper} {o : Oper} {a : Act} {w : World} {Q : Exit → Act → World → Prop} (hgd : o.guard = none) (s x : Operand) (t : TypeId)
    (ho : o.op = .call { callee := .builtin .append, args := #[s, x], argTypes := #[t, t] }) (v xv : Value) (hs : a.eval s = v) (hx : a.eval x = xv)
    (R : Value → World → Prop) (hrun : ∀ ty, ∃ v' w', (Builtin.append_ #[t, t] ty #[v, xv]).run Try.prog w = .ok v' w' ∧ R v' w') (h : ∀ v' w', R v' w' → wpList Try.prog ops Q rest (a.put o.dst v') w') : wpList Try.prog ops Q (o :: rest) a w :=
  wpList_plain hgd fun _ hK => wp_app s x t ho v xv hs hx R hrun fun v' w' hR => hK _ _ (h v' w' hR)
theorem step_app {ops : Array Oper} {o : Oper} {a : Act} {w : World} {K : Act → World → Prop} {Q : Exit → Act → World → Prop} {E : Prop} (hgd : o.guard = none) (s x : Operand) (t : TypeId)
    (ho : o.op = .call { callee := .builtin .append, args := #[s, x], argTypes := #[t, t] }) (v xv : Value) (hs : a.eval s = v) (hx : a.eval x = xv)
    (R : Value → World → Prop) (hrun : ∀ ty, ∃ v' w', (Builtin.append_ #[t, t] ty #[v, xv]).run Try.prog w = .ok v' w' ∧ R v' w') (h : ∀ v' w', R v' w' → K (a.put o.dst v') w') :
    if Region.wanted o (yielded ops a.tmps) = true then Oper.wp Try.prog o a w K Q else E := by
  have hw : Region.wanted o (yielded ops a.tmps) = true := by simp [Region.wanted, hgd]
  rw [if_pos hw]
  exact wp_app s x t ho v xv hs hx R hrun h

/-- A call of a Go function, at a step of a region that draws. -/
theorem step_go {ops : Array Oper} {o : Oper} {a : Act} {w : World} {K : Act → World → Prop} {Q : Exit → Act → World → Prop} {E : Prop} (hgd : o.guard = none) (f : FuncId) (vs : Array Value)
    (hrun : (execOp a.eval o).run Try.prog w = .ok (.enter f vs) w) (hc : Calls Try.prog f vs w fun e w' => ∃ v, e = .returned v ∧ K (a.put o.dst v) w') :
    if Region.wanted o (yielded ops a.tmps) = true then Oper.wp Try.prog o a w K Q else E := by
  have hw : Region.wanted o (yielded ops a.tmps) = true := by unfold Region.wanted; rw [hgd]
  rw [if_pos hw]
  unfold Oper.wp
  rw [hrun, Oper.upon_enter]
  refine hc.mono ?_
  rintro e w' ⟨v, rfl, h⟩
  exact h

/-- 'append(l, z)' of one number that lies in a block of its own. -/
theorem run_app1 (w : World) (B : Nat) (v : Value) (zs : List Int) (hown : Own w B v zs) (b c : Nat) (z : Int) (hz : w.cell? ⟨b, 0, none⟩ = some (.int .i64 z)) (hl : zs.length ≤ 2097152) (hB : B ≤ w.heap.size) (ty : TypeId) :
    ∃ v' w', (Builtin.append_ #[26, 26] ty #[v, .slice (some ⟨b, 0, none⟩) 1 c]).run Try.prog w = .ok v' w' ∧ Grown w B 3 1 v (zs ++ [z]).length ((zs ++ [z]).map (Value.int .i64)) v' w' := by
  obtain ⟨i0, hi, hz0, hz1, hz2⟩ := info_parts info3
  have := run_app w B 26 ty 3 i0 (.int .i64 0) 1 8 Try.underlying26 hi hz0 hz1 hz2 rfl (by decide) v zs.length _ hown (.slice (some ⟨b, 0, none⟩) 1 c) 1 [.int .i64 z] (.inr ⟨_, _, rfl, fun j u hu => by
    match j, hu with
    | 0, hu => simp at hu; subst hu; simpa [Addr.add] using hz⟩) rfl (fun u hu => by simp at hu; subst hu; rfl) (by unfold maxLen; omega) (by omega) hB
  simpa using this
/-- 'append(l, m...)' of numbers. -/
theorem run_appI (w : World) (B : Nat) (v : Value) (zs : List Int) (hown : Own w B v zs) (x : Value) (ys : List Int) (hsrc : Src w x ys.length (ys.map (Value.int .i64))) (hl : zs.length + ys.length ≤ 4194304) (hB : B ≤ w.heap.size) (ty : TypeId) :
    ∃ v' w', (Builtin.append_ #[26, 26] ty #[v, x]).run Try.prog w = .ok v' w' ∧ Grown w B 3 1 v (zs ++ ys).length ((zs ++ ys).map (Value.int .i64)) v' w' := by
  obtain ⟨i0, hi, hz0, hz1, hz2⟩ := info_parts info3
  have := run_app w B 26 ty 3 i0 (.int .i64 0) 1 8 Try.underlying26 hi hz0 hz1 hz2 rfl (by decide) v zs.length _ hown x ys.length _ hsrc (by simp) (fun u hu => by
    obtain ⟨z, -, rfl⟩ := List.mem_map.1 hu
    rfl) (by unfold maxLen; omega) (by omega) hB
  rw [List.map_append, List.length_append]
  exact this
end Go.Proofs.Ythlbmkefjjckaad
