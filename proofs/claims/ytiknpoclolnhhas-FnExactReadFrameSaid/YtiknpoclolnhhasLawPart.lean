/-
  A part, as the laws copy, weigh and compare it: 'toPart', 'szPart', 'eqPart'.
-/
import Derived.Test.YtiknpoclolnhhasNums
import Derived.Deep.RegionWith
namespace Go.Proofs.Ytiknpoclolnhhas
open Go.RowKit

/-- A part's value. -/
def partV (k : Int) (t : ByteArray) (v : Value) : Value := .agg #[.int .i64 k, .string t, v]

theorem bcell {W w1 : World} (hb : Below W.heap.size W w1) : (∀ b o, b < W.heap.size → w1.cell? ⟨b, o, none⟩ = W.cell? ⟨b, o, none⟩) ∧ (∀ b o, b < W.heap.size → w1.frozen? ⟨b, o, none⟩ = W.frozen? ⟨b, o, none⟩) :=
  ⟨fun b o h => hb.cell (p := ⟨b, o, none⟩) h, fun b o h => hb.frozen (p := ⟨b, o, none⟩) h⟩

/-- Three cells at a block's head. -/
def Box3 (W : World) (b : Nat) (x y z : Value) : Prop := b < W.heap.size ∧ W.cell? ⟨b, 0, none⟩ = some x ∧ W.cell? ⟨b, 1, none⟩ = some y ∧ W.cell? ⟨b, 2, none⟩ = some z
theorem Box3.below {W W' : World} {b : Nat} {x y z : Value} (h : Box3 W b x y z) (hb : Below W.heap.size W W') : Box3 W' b x y z :=
  ⟨Nat.lt_of_lt_of_le h.1 hb.size, (hb.cell (p := ⟨b, 0, none⟩) h.1).trans h.2.1, (hb.cell (p := ⟨b, 1, none⟩) h.1).trans h.2.2.1, (hb.cell (p := ⟨b, 2, none⟩) h.1).trans h.2.2.2⟩
theorem Box3.new (W : World) (x y z : Value) (t : TypeId) : Box3 (W.alloc (.cells #[x, y, z] t)) W.heap.size x y z := by
  refine ⟨by simp, ?_, ?_, ?_⟩ <;> (rw [World.cell?_alloc_at _ _ _ _ rfl]; rfl)

set_option maxRecDepth 100000 in
set_option maxHeartbeats 1000000 in
theorem toPart_any (W : World) (k : Int) (t : ByteArray) (v : Value) (zs : List Int) (h : Reads W v zs) (hl : zs.length ≤ 4194304) :
    Calls Try.prog 30 #[partV k t v] W fun e W' => ∃ v', e = .returned (partV k t v') ∧ Own W' W.heap.size v' zs ∧ Below W.heap.size W W' := by
  unfold partV
  obtain ⟨a0, cap0, rfl⟩ := h.shape
  have HR : Hid (∀ W1, Below W.heap.size W W1 → Reads W1 (.slice a0 zs.length cap0) zs) := fun W1 hb => h.below hb
  clear h
  go_enter Try.func30, Try.ntmps30
  go_wp2_with fail
  refine (toInts_any _ _ zs (HR.out _ ?_) hl).mono ?_
  · exact (((Below.refl _ W).alloc (Nat.le_refl _) _).alloc (by simp) _).alloc (by simp; omega) _
  rintro e w1 ⟨v', rfl, ho, hb⟩
  obtain ⟨hc, hf⟩ := bcell hb
  have hz : W.heap.size + 2 < w1.heap.size := by have := hb.size; simp at this; omega
  obtain ⟨a', cap', rfl⟩ := ho.shape
  have HO : Hid (Own w1 (W.heap.size + 1 + 1 + 1) (.slice a' zs.length cap') zs) := by show Own _ _ _ _; simpa using ho
  have HB : Hid (Below W.heap.size W w1) := ((((Below.refl _ W).alloc (Nat.le_refl _) _).alloc (by simp) _).alloc (by simp; omega) _).trans (hb.mono (by simp; omega))
  clear ho hb
  go_wp2
  refine bodyPost_ret (v := .agg #[.int .i64 k, .string t, .slice a' zs.length cap']) (by simp [results, Try.results30, go_sem, hc]) rfl ⟨_, rfl, ?_, ?_⟩
  · exact ((((HO.out.setCell (by simp) _).setCell (by simp) _).setCell (by simp) _).setCell (by simp) _).mono (by omega)
  · exact (((HB.out.setCell (by simp; omega) _).setCell (by simp) _).setCell (by simp) _).setCell (by simp) _

set_option maxRecDepth 100000 in
set_option maxHeartbeats 1000000 in
/-- 'eqPart' of two parts that are alike. -/
theorem eqPart_same (W : World) (k : Int) (t : ByteArray) (v1 v2 : Value) (zs : List Int) (h1 : Reads W v1 zs) (h2 : Reads W v2 zs) (hl : zs.length ≤ 4194304) :
    Calls Try.prog 36 #[partV k t v1, partV k t v2] W fun e W' => e = .returned (.bool true) ∧ Below W.heap.size W W' := by
  unfold partV
  obtain ⟨a1, c1, rfl⟩ := h1.shape
  obtain ⟨a2, c2, rfl⟩ := h2.shape
  have HR1 : Hid (∀ W1, Below W.heap.size W W1 → Reads W1 (.slice a1 zs.length c1) zs) := fun W1 hb => h1.below hb
  have HR2 : Hid (∀ W1, Below W.heap.size W W1 → Reads W1 (.slice a2 zs.length c2) zs) := fun W1 hb => h2.below hb
  clear h1 h2
  go_enter Try.func36, Try.ntmps36
  go_wp2_with fail
  refine (eqInts_same _ _ _ zs (HR1.out _ ?_) (HR2.out _ ?_) hl).mono ?_
  · exact ((Below.refl _ W).alloc (Nat.le_refl _) _).alloc (by simp) _
  · exact ((Below.refl _ W).alloc (Nat.le_refl _) _).alloc (by simp) _
  rintro e w1 ⟨rfl, n, rfl⟩
  go_wp2
  go_ret
  exact ⟨rfl, below_drewN (((Below.refl _ W).alloc (Nat.le_refl _) _).alloc (by simp) _) n⟩

/-- 'szIntS': what is left of a measure. -/
theorem szInts_any (W : World) (v : Value) (zs : List Int) (left : Int) (h : Reads W v zs) (hl : zs.length ≤ maxLen) (h0 : 0 ≤ left) (h1 : left ≤ 1048576) :
    Calls Try.prog 50 #[v, .int .i64 left] W fun e W' => e = .returned (.int .i64 (if (zs.length : Int) ≤ left then left - zs.length else -1)) ∧ W' = W := by
  obtain ⟨a1, c1, rfl⟩ := h.shape
  unfold maxLen at hl
  clear h
  by_cases hle : (zs.length : Int) ≤ left
  · rw [if_pos hle]
    have e : ¬ (left - (zs.length : Int) < 0) := by omega
    go_enter Try.func50, Try.ntmps50
    go_wp2
    go_ret
    exact ⟨rfl, rfl⟩
  · rw [if_neg hle]
    have e : left - (zs.length : Int) < 0 := by omega
    go_enter Try.func50, Try.ntmps50
    go_wp2
    go_ret
    exact ⟨rfl, rfl⟩

/-- What a part leaves of a measure. -/
def szP (t : ByteArray) (zs : List Int) (left : Int) : Int := if (t.size : Int) + (zs.length : Int) ≤ left then left - (t.size : Int) - (zs.length : Int) else -1

set_option maxRecDepth 100000 in
set_option maxHeartbeats 1000000 in
theorem szPart_any (W : World) (k : Int) (t : ByteArray) (v : Value) (zs : List Int) (left : Int) (h : Reads W v zs) (ht : t.size ≤ maxLen) (hl : zs.length ≤ maxLen) (h0 : 0 ≤ left) (h1 : left ≤ 1048576) :
    Calls Try.prog 27 #[partV k t v, .int .i64 left] W fun e W' => e = .returned (.int .i64 (szP t zs left)) ∧ Below W.heap.size W W' := by
  unfold partV szP
  obtain ⟨a1, c1, rfl⟩ := h.shape
  have HR : Hid (∀ W1, Below W.heap.size W W1 → Reads W1 (.slice a1 zs.length c1) zs) := fun W1 hb => h.below hb
  have HL : Hid (zs.length ≤ maxLen) := hl
  unfold maxLen at ht hl
  clear h
  by_cases hle : (t.size : Int) ≤ left
  · have e : ¬ (left - (t.size : Int) < 0) := by omega
    by_cases hle2 : (zs.length : Int) ≤ left - (t.size : Int)
    · have HE : Hid ((if (zs.length : Int) ≤ left - (t.size : Int) then left - (t.size : Int) - (zs.length : Int) else -1) = left - (t.size : Int) - (zs.length : Int)) := if_pos hle2
      rw [if_pos (by omega)]
      have e2 : ¬ (left - (t.size : Int) - (zs.length : Int) < 0) := by omega
      go_enter Try.func27, Try.ntmps27
      go_wp2_with fail
      refine (szInts_any _ _ zs _ (HR.out _ ?_) HL.out (by omega) (by omega)).mono ?_
      · exact (Below.refl _ W).alloc (Nat.le_refl _) _
      rintro e w1 ⟨rfl, rfl⟩
      rw [HE.out]
      go_wp2
      go_ret
      exact ⟨rfl, (Below.refl _ W).alloc (Nat.le_refl _) _⟩
    · have HE : Hid ((if (zs.length : Int) ≤ left - (t.size : Int) then left - (t.size : Int) - (zs.length : Int) else -1) = -1) := if_neg hle2
      rw [if_neg (by omega)]
      go_enter Try.func27, Try.ntmps27
      go_wp2_with fail
      refine (szInts_any _ _ zs _ (HR.out _ ?_) HL.out (by omega) (by omega)).mono ?_
      · exact (Below.refl _ W).alloc (Nat.le_refl _) _
      rintro e w1 ⟨rfl, rfl⟩
      rw [HE.out]
      go_wp2
      go_ret
      exact ⟨rfl, (Below.refl _ W).alloc (Nat.le_refl _) _⟩
  · have e : left - (t.size : Int) < 0 := by omega
    rw [if_neg (by omega)]
    go_enter Try.func27, Try.ntmps27
    go_wp2
    go_ret
    exact ⟨rfl, (Below.refl _ W).alloc (Nat.le_refl _) _⟩
end Go.Proofs.Ytiknpoclolnhhas
