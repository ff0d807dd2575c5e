/-
  Proved: for every two bridges, 'Beats' of the program at commit 8ec49a640c86 answers as the model's 'Beats', both bools. No condition.
-/
import Derived.Test.YtiimiiblhafajauPlain
import Derived.Test.YtiimiiblhafajauBeatsT
import Derived.Test.YtiimiiblhafajauRowOfBr
import Derived.Deep.CutRange
namespace Go.Proofs.Ytiimiiblhafajau.fnExactBeats
open Go.ChangeShapes Go.WideShapes Go.ChangeAt Go.RowKit
open Go.ChangeMaps (open_string shut_string)
set_option linter.unusedVariables false

set_option maxRecDepth 100000 in
set_option maxHeartbeats 4000000 in
theorem walk (x y : BrD) (w : World) :
    Calls Try.prog 6 #[.agg #[.int .i64 x.id, .int .i64 x.rank, .bool x.up], .agg #[.int .i64 y.id, .int .i64 y.rank, .bool y.up]] w fun e w' => e = .returned (.bool true) ∧ Below w.heap.size w w' := by
  have HX : Hid (Bx3 ((w.alloc (.cells #[.int .i64 x.id, .int .i64 x.rank, .bool x.up] 34)).alloc (.cells #[.int .i64 y.id, .int .i64 y.rank, .bool y.up] 34)) w.heap.size (.int .i64 x.id) (.int .i64 x.rank) (.bool x.up)) := (Bx3.new _ _ _ _ _).below ((Below.refl _ _).alloc (Nat.le_refl _) _)
  have HY : Hid (Bx3 ((w.alloc (.cells #[.int .i64 x.id, .int .i64 x.rank, .bool x.up] 34)).alloc (.cells #[.int .i64 y.id, .int .i64 y.rank, .bool y.up] 34)) (w.heap.size + 1) (.int .i64 y.id) (.int .i64 y.rank) (.bool y.up)) := by
    have := Bx3.new (w.alloc (.cells #[.int .i64 x.id, .int .i64 x.rank, .bool x.up] 34)) (.int .i64 y.id) (.int .i64 y.rank) (.bool y.up) 34
    exact (show Bx3 _ _ _ _ _ by simpa using this)
  have HS : Hid (Since w.heap.size w ((w.alloc (.cells #[.int .i64 x.id, .int .i64 x.rank, .bool x.up] 34)).alloc (.cells #[.int .i64 y.id, .int .i64 y.rank, .bool y.up] 34))) := (Since.start w).step (two_below _ _ _)
  go_enter Try.func6, Try.ntmps6
  go_wp2
  generalize (w.alloc (.cells #[.int .i64 x.id, .int .i64 x.rank, .bool x.up] 34)).alloc (.cells #[.int .i64 y.id, .int .i64 y.rank, .bool y.up] 34) = w0 at *
  go_cut [5, 6] from 9 to 16 (fun s5 s6 wr => s5 = .bool (outBeat x y) ∧ s6 = .bool (mayBeat x y) ∧ Hid (Below w0.heap.size w0 wr))
  case first =>
    obtain ⟨x0, x1, x2, x3, -⟩ := HX.out
    obtain ⟨y0, y1, y2, y3, -⟩ := HY.out
    go_region_with (first
      | (go_at_call 19; (with_reducible refine (toBr_any _ x).mono ?_); rintro e w1 ⟨rfl, hb1⟩; obtain ⟨-, z1, z2, z3, -⟩ := HY.out.below ((Since.start w0).drew.step hb1).1)
      | (go_at_call 19; (with_reducible refine (toBr_any _ y).mono ?_); rintro e w2 ⟨rfl, hb2⟩)
      | (go_at_call 18; refine (specBeats_any _ x y).mono ?_; rintro e w3 ⟨rfl, hb3⟩))
    all_goals
      go_wp2_with fail
      go_meet
      exact ⟨rfl, rfl, (((Since.start w0).drew.step hb1).step hb2).step hb3 |>.1⟩
  case rest =>
    obtain ⟨rfl, rfl, HB⟩ := hcut
    have HX2 : Hid (Bx3 wc w.heap.size (.int .i64 x.id) (.int .i64 x.rank) (.bool x.up)) := HX.out.below HB.out
    have HY2 : Hid (Bx3 wc (w.heap.size + 1) (.int .i64 y.id) (.int .i64 y.rank) (.bool y.up)) := HY.out.below HB.out
    have HS2 : Hid (Since w.heap.size w wc) := HS.out.step HB.out
    clear HX HY HS HB
    generalize hww : wc = wr at *
    clear hww
    go_wp2
    go_cut [7, 8] from 17 to 24 (fun s7 s8 wq => s7 = .bool (outBeat x y) ∧ s8 = .bool (mayBeat x y) ∧ Hid (Below wr.heap.size wr wq))
    case first =>
      obtain ⟨x0, x1, x2, x3, -⟩ := HX2.out
      obtain ⟨y0, y1, y2, y3, -⟩ := HY2.out
      go_region_with (first
        | (go_at_call 19; (with_reducible refine (toBr_any _ x).mono ?_); rintro e w1 ⟨rfl, hb1⟩; obtain ⟨-, z1, z2, z3, -⟩ := HY2.out.below ((Since.start wr).drew.step hb1).1)
        | (go_at_call 19; (with_reducible refine (toBr_any _ y).mono ?_); rintro e w2 ⟨rfl, hb2⟩)
        | (go_at_call 20; refine (implBeats_any _ x y).mono ?_; rintro e w3 ⟨rfl, hb3⟩))
      all_goals
        go_wp2_with fail
        go_meet
        exact ⟨rfl, rfl, (((Since.start wr).drew.step hb1).step hb2).step hb3 |>.1⟩
    case rest =>
      obtain ⟨rfl, rfl, HB⟩ := hcut
      have HS3 : Hid (Since w.heap.size w wc) := HS2.out.step HB.out
      generalize outBeat x y = b1
      generalize mayBeat x y = b2
      clear HX2 HY2 HS2 HB
      go_wp2
      go_ret
      exact ⟨rfl, HS3.out.1⟩

set_option maxRecDepth 100000 in
theorem contract (H : Type) (enc : TypeId × Value → H) (W : World) (base : Nat) (args : Array Value) (ds gs : List (DataW H)) (before : List MemPlace)
    (hval : ∀ (j : Nat) t v, Try.f6.params[j]? = some t → args[j]? = some v → Value.okWide Try.prog W .any base t v)
    (hW : DataW.Whole enc Try.prog Try.f6.params.toList Rows.fnExactBeatsSpec.vars false W args.toList ds gs before) :
    Calls Try.prog 6 args W fun e W' => ∃ v, e = .returned v ∧ Rows.fnExactBeatsSpec.post enc Try.prog Try.f6 false true false false W args v W' := by
  have hW' := hW
  obtain ⟨p, q, hA0, hV0, rfl, hfz, hnd⟩ := hW
  have hA : DataW.TrodAll enc Try.prog W 0 (fun _ => true) true Try.f6.params.toList args.toList ds p := hA0
  rw [Try.params6] at hA hval
  obtain ⟨v0, vs0, d0, ds0, p0, q0, hargs, rfl, rfl, h0, r0⟩ := trodAll_cons hA
  obtain ⟨v1, vs1, d1, ds1, p1, q1, rfl, rfl, rfl, h1, r1⟩ := trodAll_cons r0
  obtain ⟨rfl, rfl, rfl⟩ := trodAll_nil r1
  obtain rfl : args = #[v0, v1] := by cases args; simp_all
  obtain ⟨rfl, rfl⟩ := trodVars_none hV0
  have k0 := h0
  have lt0 : ∀ x ∈ p0, x.block < W.heap.size := by obtain ⟨m, hm⟩ := k0; exact DataW.trod_lt m _ _ _ hm
  obtain ⟨pr0, rfl⟩ := Br_of (hval 0 34 v0 rfl rfl) k0
  have k1 := h1
  have lt1 : ∀ x ∈ p1, x.block < W.heap.size := by obtain ⟨m, hm⟩ := k1; exact DataW.trod_lt m _ _ _ hm
  obtain ⟨pr1, rfl⟩ := Br_of (hval 1 34 v1 rfl rfl) k1
  clear hA0 hV0
  refine (walk pr0 pr1 W ).mono fun e W' ⟨he, bel⟩ => ?_
  subst he
  exact ⟨_, rfl, _, _, _, [], _, [], hW', trodAll_mk1 (shut_bool Try.underlying4 _), (trodAll_cons_mk (Below.trod laidOut (by kernel_rfl) (of_decide_eq_true (by kernel_rfl)) k0 bel lt0) (trodAll_cons_mk (Below.trod laidOut (by kernel_rfl) (of_decide_eq_true (by kernel_rfl)) k1 bel lt1) trodAll_mk0)), rfl, bel.frame _, fun h => by cases h⟩

set_option maxRecDepth 100000 in
theorem lifted (os : Os) (started : os.Started) (H : Type) (enc : TypeId × Value → H) :
    ReturnsInHanded {} Try.checked os 6 .any (Rows.fnExactBeatsSpec.pre6 enc Try.prog Try.f6 Rows.fnExactBeatsRow.domain false) (Rows.fnExactBeatsSpec.post enc Try.prog Try.f6 false true false false) := by
  refine returnsInHanded_of_change (C := Try.checked) own started (by kernel_rfl) Try.func6
    (ChangeSpec.witness6 (enc := enc) (C := Try.checked) false ⟨#[], #[.agg #[.int .i64 0, .int .i64 0, .bool false], .agg #[.int .i64 0, .int .i64 0, .bool false]], []⟩ 8 (by kernel_rfl) (by kernel_rfl) (by kernel_rfl) (by kernel_rfl)) ?_
  intro W base args ds gs before hval hW _ _
  exact contract H enc W base args ds gs before hval hW

/-- The statement. -/
theorem said : Rows.FnExactBeatsSaid :=
  OpenClaim.holds_of_wide 6 Try.f6 rfl rfl rfl rfl rfl rfl rfl ⟨rfl, rfl, rfl, rfl, rfl⟩ rfl rfl rfl rfl rfl (by kernel_rfl) Try.func6 (by kernel_rfl)
    (of_decide_eq_true (by kernel_rfl)) (by unfold Func.isWrapper; first | (rw [if_pos (by decide +kernel)]; kernel_rfl) | (rw [if_neg (by decide +kernel)]; exact ⟨rfl, rfl⟩))
    (fun os started H enc _ => lifted os started H enc)
#print axioms said
end Go.Proofs.Ytiimiiblhafajau.fnExactBeats
