/-
  A summary, as the laws copy, weigh, compare and mark it; and one that came in.
-/
import Derived.Test.YtkpdiojomgiocayRowLawHv
import Derived.Test.YtkpdiojomgiocayRowOfHv
import Derived.Test.YtkpdiojomgiocayLsSync
import Derived.Deep.RegionWith
namespace Go.Proofs.Ytkpdiojomgiocay
open Go.RowKit
set_option linter.unusedVariables false

theorem bcellS {W w1 : World} (hb : Below W.heap.size W w1) : (∀ b o, b < W.heap.size → w1.cell? ⟨b, o, none⟩ = W.cell? ⟨b, o, none⟩) ∧ (∀ b o, b < W.heap.size → w1.frozen? ⟨b, o, none⟩ = W.frozen? ⟨b, o, none⟩) :=
  ⟨fun b o h => hb.cell (p := ⟨b, o, none⟩) h, fun b o h => hb.frozen (p := ⟨b, o, none⟩) h⟩

theorem smNewL (W : World) (x y z : Value) : ∀ w', Below (W.alloc (.cells #[x, y, z] 24)).heap.size (W.alloc (.cells #[x, y, z] 24)) w' → w'.cell? ⟨W.heap.size, 0, none⟩ = some x ∧ w'.cell? ⟨W.heap.size, 1, none⟩ = some y ∧ w'.cell? ⟨W.heap.size, 2, none⟩ = some z := fun w' hs =>
  ⟨(hs.cell (p := ⟨W.heap.size, 0, none⟩) (by simp)).trans (by rw [World.cell?_alloc_at _ _ _ _ rfl]; rfl), (hs.cell (p := ⟨W.heap.size, 1, none⟩) (by simp)).trans (by rw [World.cell?_alloc_at _ _ _ _ rfl]; rfl), (hs.cell (p := ⟨W.heap.size, 2, none⟩) (by simp)).trans (by rw [World.cell?_alloc_at _ _ _ _ rfl]; rfl)⟩

/-- Three cells at a block's head. -/
def SmBox (W : World) (b : Nat) (x y z : Value) : Prop := b < W.heap.size ∧ W.cell? ⟨b, 0, none⟩ = some x ∧ W.cell? ⟨b, 1, none⟩ = some y ∧ W.cell? ⟨b, 2, none⟩ = some z
theorem SmBox.new (W : World) (x y z : Value) (t : TypeId) : SmBox (W.alloc (.cells #[x, y, z] t)) W.heap.size x y z := by
  refine ⟨by simp, ?_, ?_, ?_⟩ <;> (rw [World.cell?_alloc_at _ _ _ _ rfl]; rfl)
theorem SmBox.below {W W' : World} {b : Nat} {x y z : Value} (h : SmBox W b x y z) (hb : Below W.heap.size W W') : SmBox W' b x y z :=
  ⟨Nat.lt_of_lt_of_le h.1 hb.size, (hb.cell (p := ⟨b, 0, none⟩) h.1).trans h.2.1, (hb.cell (p := ⟨b, 1, none⟩) h.1).trans h.2.2.1, (hb.cell (p := ⟨b, 2, none⟩) h.1).trans h.2.2.2⟩
theorem SmBox.grown {W W' : World} {b : Nat} {x y z : Value} {row : Option Nat} (h : SmBox W b x y z) (hg : W.grownBy W' row) (hne : ∀ k, row = some k → k ≠ b) : SmBox W' b x y z := by
  have e : W'.heap[b]? = W.heap[b]? := hg.block b h.1 (fun e => hne b e.symm rfl)
  exact ⟨Nat.lt_of_lt_of_le h.1 hg.size, (World.cell?_of_block e).trans h.2.1, (World.cell?_of_block e).trans h.2.2.1, (World.cell?_of_block e).trans h.2.2.2⟩

set_option maxRecDepth 100000 in
set_option maxHeartbeats 1000000 in
theorem toSm_any (W : World) (v : Value) (s : SmD) (h : ReadsHv W v s.Hs) (hl : s.Hs.length ≤ 4194304) :
    Calls Try.prog 11 #[.agg #[.int .i64 s.Lo, .int .i64 s.Hi, v]] W fun e W' => ∃ v', e = .returned (.agg #[.int .i64 s.Lo, .int .i64 s.Hi, v']) ∧ OwnHv W' W.heap.size v' s.Hs ∧ Below W.heap.size W W' := by
  obtain ⟨k, t, zs⟩ := s
  simp only at *
  obtain ⟨a0, cap0, rfl⟩ := h.shape
  have HR : Hid (∀ W1, Below W.heap.size W W1 → ReadsHv W1 (.slice a0 zs.length cap0) zs) := fun W1 hb => h.below hb
  clear h
  go_enter Try.func11, Try.ntmps11
  go_wp2_with fail
  refine (toHvs_any _ _ zs (HR.out _ ?_) hl).mono ?_
  · exact (((Below.refl _ W).alloc (Nat.le_refl _) _).alloc (by simp) _).alloc (by simp; omega) _
  rintro e w1 ⟨v', rfl, ho, hb⟩
  obtain ⟨hc, hf⟩ := bcellS hb
  have hz : W.heap.size + 2 < w1.heap.size := by have := hb.size; simp at this; omega
  obtain ⟨a', cap', rfl⟩ := ho.shape
  have HO : Hid (OwnHv w1 (W.heap.size + 1 + 1 + 1) (.slice a' zs.length cap') zs) := by show OwnHv _ _ _ _; simpa using ho
  have HB : Hid (Below W.heap.size W w1) := ((((Below.refl _ W).alloc (Nat.le_refl _) _).alloc (by simp) _).alloc (by simp; omega) _).trans (hb.mono (by simp; omega))
  clear ho hb
  go_wp2
  refine bodyPost_ret (v := .agg #[.int .i64 k, .int .i64 t, .slice a' zs.length cap']) (by simp [results, Try.results11, go_sem, hc]) rfl ⟨_, rfl, ?_, ?_⟩
  · exact ((((HO.out.setCell (by simp) _).setCell (by simp) _).setCell (by simp) _).setCell (by simp) _).mono (by omega)
  · exact (((HB.out.setCell (by simp; omega) _).setCell (by simp) _).setCell (by simp) _).setCell (by simp) _

set_option maxRecDepth 100000 in
set_option maxHeartbeats 1000000 in
theorem eqSm_same (W : World) (v1 v2 : Value) (s : SmD) (h1 : ReadsHv W v1 s.Hs) (h2 : ReadsHv W v2 s.Hs) (hl : s.Hs.length ≤ 4194304) :
    Calls Try.prog 13 #[.agg #[.int .i64 s.Lo, .int .i64 s.Hi, v1], .agg #[.int .i64 s.Lo, .int .i64 s.Hi, v2]] W fun e W' => e = .returned (.bool true) ∧ Below W.heap.size W W' := by
  obtain ⟨k, t, zs⟩ := s
  simp only at *
  obtain ⟨a1, c1, rfl⟩ := h1.shape
  obtain ⟨a2, c2, rfl⟩ := h2.shape
  have HR1 : Hid (∀ W1, Below W.heap.size W W1 → ReadsHv W1 (.slice a1 zs.length c1) zs) := fun W1 hb => h1.below hb
  have HR2 : Hid (∀ W1, Below W.heap.size W W1 → ReadsHv W1 (.slice a2 zs.length c2) zs) := fun W1 hb => h2.below hb
  clear h1 h2
  go_enter Try.func13, Try.ntmps13
  go_wp2_with fail
  refine (eqHvs_same _ _ _ zs (HR1.out _ ?_) (HR2.out _ ?_) hl).mono ?_
  · exact ((Below.refl _ W).alloc (Nat.le_refl _) _).alloc (by simp) _
  · exact ((Below.refl _ W).alloc (Nat.le_refl _) _).alloc (by simp) _
  rintro e w1 ⟨rfl, hb⟩
  have HB : Hid (Below W.heap.size W w1) := (((Below.refl _ W).alloc (Nat.le_refl _) _).alloc (by simp) _).trans (hb.mono (by simp <;> omega))
  clear hb
  go_wp2
  go_ret
  exact ⟨rfl, HB.out⟩

set_option maxRecDepth 100000 in
set_option maxHeartbeats 1000000 in
theorem szSm_any (W : World) (v : Value) (s : SmD) (left : Int) (h : ReadsHv W v s.Hs) (hl : s.Hs.length ≤ maxLen) (h0 : 0 ≤ left) (h1 : left ≤ 1048576) :
    Calls Try.prog 9 #[.agg #[.int .i64 s.Lo, .int .i64 s.Hi, v], .int .i64 left] W fun e W' => e = .returned (.int .i64 (if (s.Hs.length : Int) ≤ left then left - s.Hs.length else -1)) ∧ Below W.heap.size W W' := by
  obtain ⟨k, t, zs⟩ := s
  simp only at *
  obtain ⟨a1, c1, rfl⟩ := h.shape
  have HR : Hid (∀ W1, Below W.heap.size W W1 → ReadsHv W1 (.slice a1 zs.length c1) zs) := fun W1 hb => h.below hb
  have HL : Hid (zs.length ≤ maxLen) := hl
  clear h hl
  by_cases hle : (zs.length : Int) ≤ left
  · have HE : Hid ((if (zs.length : Int) ≤ left then left - (zs.length : Int) else -1) = left - (zs.length : Int)) := if_pos hle
    rw [HE.out]
    have e2 : ¬ (left - (zs.length : Int) < 0) := by omega
    go_enter Try.func9, Try.ntmps9
    go_wp2_with fail
    refine (szHvs_any _ _ zs _ (HR.out _ ?_) HL.out (by omega) (by omega)).mono ?_
    · exact (Below.refl _ W).alloc (Nat.le_refl _) _
    rintro e w1 ⟨rfl, rfl⟩
    rw [HE.out]
    go_wp2
    go_ret
    exact ⟨rfl, (Below.refl _ W).alloc (Nat.le_refl _) _⟩
  · have HE : Hid ((if (zs.length : Int) ≤ left then left - (zs.length : Int) else -1) = -1) := if_neg hle
    rw [HE.out]
    go_enter Try.func9, Try.ntmps9
    go_wp2_with fail
    refine (szHvs_any _ _ zs _ (HR.out _ ?_) HL.out (by omega) (by omega)).mono ?_
    · exact (Below.refl _ W).alloc (Nat.le_refl _) _
    rintro e w1 ⟨rfl, rfl⟩
    rw [HE.out]
    go_wp2
    go_ret
    exact ⟨rfl, (Below.refl _ W).alloc (Nat.le_refl _) _⟩

set_option maxRecDepth 100000
theorem cellsOf3S : Try.prog.cellsOf 3 = 1 := by kernel_rfl
theorem cellsOfHvs : Try.prog.cellsOf 22 = 1 := by kernel_rfl
theorem cellsOfSm : Try.prog.cellsOf 24 = 3 := by kernel_rfl
open Go.ChangeShapes Go.WideShapes Go.ChangeAt in
theorem Sm_of {H : Type} {enc : TypeId × Value → H} {W : World} {r : Reach} {base : Nat} {v : Value} {d : DataW H} {p : List MemPlace} (hv : Value.okWide Try.prog W r base 24 v) (h : DataW.Trod enc Try.prog W 0 (fun _ => true) true 24 v d p) :
    ∃ (x : Value) (s : SmD), v = .agg #[.int .i64 s.Lo, .int .i64 s.Hi, x] ∧ ReadsHv W x s.Hs ∧ s.Hs.length ≤ maxLen := by
  obtain ⟨cs, rfl, hsz⟩ := okWide_struct Try.underlying24 hv
  obtain ⟨fuel, hf⟩ := h
  obtain ⟨y0, y1, y2, n, hx, hl, h0, h1, h2⟩ := Go.Deep.trod_struct3 Try.underlying24 hf
  rw [cellsOfSm] at hl
  obtain ⟨c0, c1, c2, hcs⟩ : ∃ c0 c1 c2, cs.toList = [c0, c1, c2] := by
    match hm : cs.toList, hl with
    | [c0, c1, c2], _ => exact ⟨c0, c1, c2, rfl⟩
  simp only [Value.cells, hcs, cellsOf3S, cellsOfHvs, List.drop_zero, List.drop_succ_cons, List.take_succ_cons, List.take_zero] at h0 h1 h2
  obtain ⟨k, e0, -, -⟩ := DataW.trod_int Try.underlying3 h0
  obtain ⟨t, e1, -, -⟩ := DataW.trod_int Try.underlying3 h1
  obtain ⟨a, m, c, zs, e2, hr, hz⟩ := Hvs_trod h2
  simp only [List.cons.injEq, and_true] at e0 e1 e2
  subst e0 e1 e2
  refine ⟨.slice a m c, ⟨k, t, zs⟩, ?_, hr, hz⟩
  congr 1
  exact Array.ext' hcs
end Go.Proofs.Ytkpdiojomgiocay
