/-
  Proved: for every two items, 'Better' of the program at commit 9a5d4bce51f6 answers as the model's 'Better', the number and the bool; and the law's own arguments read as before. No condition.
-/
import Derived.Test.YthdcfeafkellcawPlain
import Derived.Test.YthdcfeafkellcawItemsC
import Derived.Test.YthdcfeafkellcawRowOfIt
import Derived.Deep.CutRange
namespace Go.Proofs.Ythdcfeafkellcaw.fnExactBetter
open Go.ChangeShapes Go.WideShapes Go.ChangeAt Go.RowKit
open Go.ChangeMaps (open_string shut_string)
set_option linter.unusedVariables false

set_option maxRecDepth 100000 in
set_option maxHeartbeats 4000000 in
theorem walk (x y : ItD) (w : World) (hx : x.text.size ≤ maxLen) (hy : y.text.size ≤ maxLen) :
    Calls Try.prog 3 #[.agg #[.int .i64 x.frm, .int .i64 x.seq, .int .i64 x.age, .string x.text], .agg #[.int .i64 y.frm, .int .i64 y.seq, .int .i64 y.age, .string y.text]] w fun e w' => e = .returned (.bool true) ∧ Below w.heap.size w w' := by
  have HX : Hid (Bx4 ((w.alloc (.cells #[.int .i64 x.frm, .int .i64 x.seq, .int .i64 x.age, .string x.text] 23)).alloc (.cells #[.int .i64 y.frm, .int .i64 y.seq, .int .i64 y.age, .string y.text] 23)) w.heap.size (.int .i64 x.frm) (.int .i64 x.seq) (.int .i64 x.age) (.string x.text)) := (Bx4.new _ _ _ _ _ _).below ((Below.refl _ _).alloc (Nat.le_refl _) _)
  have HY : Hid (Bx4 ((w.alloc (.cells #[.int .i64 x.frm, .int .i64 x.seq, .int .i64 x.age, .string x.text] 23)).alloc (.cells #[.int .i64 y.frm, .int .i64 y.seq, .int .i64 y.age, .string y.text] 23)) (w.heap.size + 1) (.int .i64 y.frm) (.int .i64 y.seq) (.int .i64 y.age) (.string y.text)) := by
    have := Bx4.new (w.alloc (.cells #[.int .i64 x.frm, .int .i64 x.seq, .int .i64 x.age, .string x.text] 23)) (.int .i64 y.frm) (.int .i64 y.seq) (.int .i64 y.age) (.string y.text) 23
    exact (show Bx4 _ _ _ _ _ _ by simpa using this)
  have HB : Hid (Since w.heap.size w ((w.alloc (.cells #[.int .i64 x.frm, .int .i64 x.seq, .int .i64 x.age, .string x.text] 23)).alloc (.cells #[.int .i64 y.frm, .int .i64 y.seq, .int .i64 y.age, .string y.text] 23))) := (Since.start w).step (alloc2_below _ _ _)
  have HTX : Hid (x.text.size ≤ maxLen) := hx
  have HTY : Hid (y.text.size ≤ maxLen) := hy
  clear hx hy
  by_cases hle : (x.text.size : Int) ≤ 1048576
  · obtain ⟨L, hL⟩ : ∃ L, L = 1048576 - (x.text.size : Int) := ⟨_, rfl⟩
    have HP : Hid ((if (x.text.size : Int) ≤ 1048576 then 1048576 - (x.text.size : Int) else -1) = L) := by show _ = _; rw [if_pos hle, hL]
    have l0 : 0 ≤ L := by omega
    have l1 : L ≤ 1048576 := by omega
    have n1 : ¬ L < 0 := by omega
    clear hL hle
    by_cases hly : (y.text.size : Int) ≤ L
    · have HQ : Hid ((if (y.text.size : Int) ≤ L then L - (y.text.size : Int) else -1) = L - y.text.size) := if_pos hly
      have n2 : ¬ (L - (y.text.size : Int) < 0) := by omega
      go_enter Try.func3, Try.ntmps3
      go_wp2_with fail
      refine (szIt_any _ x 1048576 HTX.out (by omega) (by omega)).mono ?_
      rintro e w1 ⟨rfl, hb1⟩
      rw [HP.out]
      have HB1 : Hid (Since w.heap.size w w1) := HB.out.step hb1
      have HX1 : Hid (Bx4 w1 w.heap.size (.int .i64 x.frm) (.int .i64 x.seq) (.int .i64 x.age) (.string x.text)) := HX.out.below hb1
      have HY1 : Hid (Bx4 w1 (w.heap.size + 1) (.int .i64 y.frm) (.int .i64 y.seq) (.int .i64 y.age) (.string y.text)) := HY.out.below hb1
      obtain ⟨a0, a1, a2, a3⟩ := HX1.out.cells
      obtain ⟨b0, b1, b2, b3⟩ := HY1.out.cells
      clear hb1
      go_wp2_with fail
      refine (szIt_any _ y L HTY.out l0 l1).mono ?_
      rintro e w2 ⟨rfl, hb2⟩
      rw [HQ.out]
      have HB2 : Hid (Since w.heap.size w w2) := HB1.out.step hb2
      have HX2 : Hid (Bx4 w2 w.heap.size (.int .i64 x.frm) (.int .i64 x.seq) (.int .i64 x.age) (.string x.text)) := HX1.out.below hb2
      have HY2 : Hid (Bx4 w2 (w.heap.size + 1) (.int .i64 y.frm) (.int .i64 y.seq) (.int .i64 y.age) (.string y.text)) := HY1.out.below hb2
      clear a0 a1 a2 a3 b0 b1 b2 b3
      obtain ⟨a0, a1, a2, a3⟩ := HX2.out.cells
      obtain ⟨b0, b1, b2, b3⟩ := HY2.out.cells
      clear hb2
      clear a0 a1 a2 a3 b0 b1 b2 b3 HX HY HB HX1 HY1 HB1
      go_wp2
      generalize w2 = w0 at *
      go_cut [6, 7] from 20 to 27 (fun s5 s6 wr => s5 = .int .i64 (outBetter x y) ∧ s6 = .bool (mayBetter x y) ∧ Hid (Below w0.heap.size w0 wr))
      case first =>
        obtain ⟨a0, a1, a2, a3⟩ := HX2.out.cells
        obtain ⟨b0, b1, b2, b3⟩ := HY2.out.cells
        go_region_with (first
          | (go_at_call 9; (with_reducible refine (toIt_any _ x).mono ?_); rintro e w1 ⟨rfl, hb1⟩; obtain ⟨z0, z1, z2, z3⟩ := (HY2.out.below ((Since.start w0).drew.step hb1).1).cells)
          | (go_at_call 9; (with_reducible refine (toIt_any _ y).mono ?_); rintro e w2 ⟨rfl, hb2⟩)
          | (go_at_call 8; refine (specBetter_any _ x y HTX.out HTY.out).mono ?_; rintro e w3 ⟨rfl, hb3⟩))
        all_goals
          go_wp2_with fail
          go_meet
          exact ⟨rfl, rfl, (((Since.start w0).drew.step hb1).step hb2).step hb3 |>.1⟩
      case rest =>
        obtain ⟨rfl, rfl, HB⟩ := hcut
        have HX3 : Hid (Bx4 wc w.heap.size (.int .i64 x.frm) (.int .i64 x.seq) (.int .i64 x.age) (.string x.text)) := HX2.out.below HB.out
        have HY3 : Hid (Bx4 wc (w.heap.size + 1) (.int .i64 y.frm) (.int .i64 y.seq) (.int .i64 y.age) (.string y.text)) := HY2.out.below HB.out
        have HB3 : Hid (Since w.heap.size w wc) := HB2.out.step HB.out
        clear HX2 HY2 HB2 HB
        generalize hww : wc = wr at *
        clear hww
        go_wp2
        go_cut [8, 9] from 28 to 35 (fun s7 s8 wq => s7 = .int .i64 (outBetter x y) ∧ s8 = .bool (mayBetter x y) ∧ Hid (Below wr.heap.size wr wq))
        case first =>
          obtain ⟨a0, a1, a2, a3⟩ := HX3.out.cells
          obtain ⟨b0, b1, b2, b3⟩ := HY3.out.cells
          go_region_with (first
            | (go_at_call 9; (with_reducible refine (toIt_any _ x).mono ?_); rintro e w1 ⟨rfl, hb1⟩; obtain ⟨z0, z1, z2, z3⟩ := (HY3.out.below ((Since.start wr).drew.step hb1).1).cells)
            | (go_at_call 9; (with_reducible refine (toIt_any _ y).mono ?_); rintro e w2 ⟨rfl, hb2⟩)
            | (go_at_call 10; refine (implBetter_any _ x y HTX.out HTY.out).mono ?_; rintro e w3 ⟨rfl, hb3⟩))
          all_goals
            go_wp2_with fail
            go_meet
            exact ⟨rfl, rfl, (((Since.start wr).drew.step hb1).step hb2).step hb3 |>.1⟩
        case rest =>
          obtain ⟨rfl, rfl, HB⟩ := hcut
          have HB4 : Hid (Since w.heap.size w wc) := HB3.out.step HB.out
          generalize outBetter x y = b1
          generalize mayBetter x y = b2
          clear HX3 HY3 HB3 HB
          go_wp2
          go_ret
          exact ⟨rfl, HB4.out.1⟩
    · have HQ : Hid ((if (y.text.size : Int) ≤ L then L - (y.text.size : Int) else -1) = -1) := if_neg hly
      go_enter Try.func3, Try.ntmps3
      go_wp2_with fail
      refine (szIt_any _ x 1048576 HTX.out (by omega) (by omega)).mono ?_
      rintro e w1 ⟨rfl, hb1⟩
      rw [HP.out]
      have HB1 : Hid (Since w.heap.size w w1) := HB.out.step hb1
      have HX1 : Hid (Bx4 w1 w.heap.size (.int .i64 x.frm) (.int .i64 x.seq) (.int .i64 x.age) (.string x.text)) := HX.out.below hb1
      have HY1 : Hid (Bx4 w1 (w.heap.size + 1) (.int .i64 y.frm) (.int .i64 y.seq) (.int .i64 y.age) (.string y.text)) := HY.out.below hb1
      obtain ⟨a0, a1, a2, a3⟩ := HX1.out.cells
      obtain ⟨b0, b1, b2, b3⟩ := HY1.out.cells
      clear hb1
      go_wp2_with fail
      refine (szIt_any _ y L HTY.out l0 l1).mono ?_
      rintro e w2 ⟨rfl, hb2⟩
      rw [HQ.out]
      have HB2 : Hid (Since w.heap.size w w2) := HB1.out.step hb2
      have HX2 : Hid (Bx4 w2 w.heap.size (.int .i64 x.frm) (.int .i64 x.seq) (.int .i64 x.age) (.string x.text)) := HX1.out.below hb2
      have HY2 : Hid (Bx4 w2 (w.heap.size + 1) (.int .i64 y.frm) (.int .i64 y.seq) (.int .i64 y.age) (.string y.text)) := HY1.out.below hb2
      clear a0 a1 a2 a3 b0 b1 b2 b3
      obtain ⟨a0, a1, a2, a3⟩ := HX2.out.cells
      obtain ⟨b0, b1, b2, b3⟩ := HY2.out.cells
      clear hb2
      go_wp2
      go_ret
      exact ⟨rfl, HB2.out.1⟩
  · have HP : Hid ((if (x.text.size : Int) ≤ 1048576 then 1048576 - (x.text.size : Int) else -1) = -1) := if_neg hle
    go_enter Try.func3, Try.ntmps3
    go_wp2_with fail
    refine (szIt_any _ x 1048576 HTX.out (by omega) (by omega)).mono ?_
    rintro e w1 ⟨rfl, hb1⟩
    rw [HP.out]
    have HB1 : Hid (Since w.heap.size w w1) := HB.out.step hb1
    have HX1 : Hid (Bx4 w1 w.heap.size (.int .i64 x.frm) (.int .i64 x.seq) (.int .i64 x.age) (.string x.text)) := HX.out.below hb1
    have HY1 : Hid (Bx4 w1 (w.heap.size + 1) (.int .i64 y.frm) (.int .i64 y.seq) (.int .i64 y.age) (.string y.text)) := HY.out.below hb1
    obtain ⟨a0, a1, a2, a3⟩ := HX1.out.cells
    obtain ⟨b0, b1, b2, b3⟩ := HY1.out.cells
    clear hb1
    go_wp2
    go_ret
    exact ⟨rfl, HB1.out.1⟩

set_option maxRecDepth 100000 in
theorem contract (H : Type) (enc : TypeId × Value → H) (W : World) (base : Nat) (args : Array Value) (ds gs : List (DataW H)) (before : List MemPlace)
    (hval : ∀ (j : Nat) t v, Try.f3.params[j]? = some t → args[j]? = some v → Value.okWide Try.prog W .any base t v)
    (hW : DataW.Whole enc Try.prog Try.f3.params.toList Rows.fnExactBetterSpec.vars false W args.toList ds gs before) :
    Calls Try.prog 3 args W fun e W' => ∃ v, e = .returned v ∧ Rows.fnExactBetterSpec.post enc Try.prog Try.f3 false true false false W args v W' := by
  have hW' := hW
  obtain ⟨p, q, hA0, hV0, rfl, hfz, hnd⟩ := hW
  have hA : DataW.TrodAll enc Try.prog W 0 (fun _ => true) true Try.f3.params.toList args.toList ds p := hA0
  rw [Try.params3] at hA hval
  obtain ⟨v0, vs0, d0, ds0, p0, q0, hargs, rfl, rfl, h0, r0⟩ := trodAll_cons hA
  obtain ⟨v1, vs1, d1, ds1, p1, q1, rfl, rfl, rfl, h1, r1⟩ := trodAll_cons r0
  obtain ⟨rfl, rfl, rfl⟩ := trodAll_nil r1
  obtain rfl : args = #[v0, v1] := by cases args; simp_all
  obtain ⟨rfl, rfl⟩ := trodVars_none hV0
  have k0 := h0
  have lt0 : ∀ x ∈ p0, x.block < W.heap.size := by obtain ⟨m, hm⟩ := k0; exact DataW.trod_lt m _ _ _ hm
  obtain ⟨pr0, rfl, hp0⟩ := It_of (hval 0 23 v0 rfl rfl) k0
  have k1 := h1
  have lt1 : ∀ x ∈ p1, x.block < W.heap.size := by obtain ⟨m, hm⟩ := k1; exact DataW.trod_lt m _ _ _ hm
  obtain ⟨pr1, rfl, hp1⟩ := It_of (hval 1 23 v1 rfl rfl) k1
  clear hA0 hV0
  refine (walk pr0 pr1 W hp0 hp1).mono fun e W' ⟨he, bel⟩ => ?_
  subst he
  exact ⟨_, rfl, _, _, _, [], _, [], hW', trodAll_mk1 (shut_bool Try.underlying4 _), (trodAll_cons_mk (Below.trod laidOut (by kernel_rfl) (of_decide_eq_true (by kernel_rfl)) k0 bel lt0) (trodAll_cons_mk (Below.trod laidOut (by kernel_rfl) (of_decide_eq_true (by kernel_rfl)) k1 bel lt1) trodAll_mk0)), rfl, bel.frame _, fun h => by cases h⟩

set_option maxRecDepth 100000 in
theorem lifted (os : Os) (started : os.Started) (H : Type) (enc : TypeId × Value → H) :
    ReturnsInHanded {} Try.checked os 3 .any (Rows.fnExactBetterSpec.pre6 enc Try.prog Try.f3 Rows.fnExactBetterRow.domain false) (Rows.fnExactBetterSpec.post enc Try.prog Try.f3 false true false false) := by
  refine returnsInHanded_of_change (C := Try.checked) own started (by kernel_rfl) Try.func3
    (ChangeSpec.witness6 (enc := enc) (C := Try.checked) false ⟨#[], #[.agg #[.int .i64 0, .int .i64 0, .int .i64 0, .string ByteArray.empty], .agg #[.int .i64 0, .int .i64 0, .int .i64 0, .string ByteArray.empty]], []⟩ 8 (by kernel_rfl) (by kernel_rfl) (by kernel_rfl) (by kernel_rfl)) ?_
  intro W base args ds gs before hval hW _ _
  exact contract H enc W base args ds gs before hval hW

/-- The statement. -/
theorem said : Rows.FnExactBetterSaid :=
  OpenClaim.holds_of_wide 3 Try.f3 rfl rfl rfl rfl rfl rfl rfl ⟨rfl, rfl, rfl, rfl, rfl⟩ rfl rfl rfl rfl rfl (by kernel_rfl) Try.func3 (by kernel_rfl)
    (of_decide_eq_true (by kernel_rfl)) (by unfold Func.isWrapper; first | (rw [if_pos (by decide +kernel)]; kernel_rfl) | (rw [if_neg (by decide +kernel)]; exact ⟨rfl, rfl⟩))
    (fun os started H enc _ => lifted os started H enc)
#print axioms said
end Go.Proofs.Ythdcfeafkellcaw.fnExactBetter
