/-
  Proved: for every number, 'NewPair' of the program at commit de1880d854f5 answers as the model's 'NewPair', every field and the bool; its answer is memory of its own (marks that are written into its lists stay there behind another call, and none is written over by another). No condition.
-/
import Derived.Test.YtijlhjfllfjllatPlain
import Derived.Test.YtijlhjfllfjllatNewP
namespace Go.Proofs.Ytijlhjfllfjllat.fnExactNewPair
open Go.ChangeShapes Go.WideShapes Go.ChangeAt Go.RowKit
open Go.ChangeMaps (open_string shut_string)
set_option linter.unusedVariables false

set_option maxRecDepth 100000 in
set_option maxHeartbeats 4000000 in
theorem walk (left : Int) (w : World) (_ : (Lit.int .i64 left).wf = true) :
    Calls Try.prog 3 #[.int .i64 left] w fun e w' => e = .returned (.bool true) ∧ Below w.heap.size w w' := by
  have HL := newP_len left
  have S1 := implNew_any left
  have S2 := specNew_any left
  generalize newP left = p at *
  generalize newB left = ok at *
  have L1 : Hid (p.st.length ≤ 1048576) := Nat.le_trans HL.1 (by decide)
  have L2 : Hid (p.lf.length ≤ 1048576) := Nat.le_trans HL.2.1 (by decide)
  have L3 : Hid (p.ln.length ≤ 1048576) := Nat.le_trans HL.2.2 (by decide)
  have HI : Hid (∀ W, Calls Try.prog 10 #[.int .i64 left] W fun e W' => ∃ x y z, e = .returned (.tuple #[.agg #[x, y, z], .bool ok]) ∧ Own3 W' W.heap.size x y z p ∧ Below W.heap.size W W') := S1
  have HP : Hid (∀ W, Calls Try.prog 9 #[.int .i64 left] W fun e W' => ∃ x y z, e = .returned (.tuple #[.agg #[x, y, z], .bool ok]) ∧ Own3 W' W.heap.size x y z p ∧ Below W.heap.size W W') := S2
  obtain ⟨q, hq⟩ : ∃ q : Int, q = (endPr p 1 : Int) := ⟨_, rfl⟩
  have HQ : Hid ((endPr p 1 : Int) = q) := hq.symm
  have hq1 : 0 ≤ q := by omega
  clear hq HL S1 S2
  go_enter Try.func3, Try.ntmps3
  go_wp2_with fail
  refine (HP.out _).mono ?_
  rintro e w1 ⟨x1, y1, z1, rfl, ho1, hb1⟩
  obtain ⟨ba1, da1, rfl⟩ := ho1.st.shape
  obtain ⟨bb1, db1, rfl⟩ := ho1.lf.shape
  obtain ⟨bc1, dc1, rfl⟩ := ho1.ln.shape
  have HS1 : Hid (Since w.heap.size w (w1.alloc (.cells #[.slice ba1 p.st.length da1, .slice bb1 p.lf.length db1, .slice bc1 p.ln.length dc1] 25))) := ((Since.start w).step hb1).step ((Below.refl _ w1).alloc (Nat.le_refl _) _)
  have HO1 : Hid (Own3 (w1.alloc (.cells #[.slice ba1 p.st.length da1, .slice bb1 p.lf.length db1, .slice bc1 p.ln.length dc1] 25)) w.heap.size (.slice ba1 p.st.length da1) (.slice bb1 p.lf.length db1) (.slice bc1 p.ln.length dc1) p) := ho1.below ((Below.refl _ w1).alloc (Nat.le_refl _) _)
  have HX1 : Hid (Bx3 (w1.alloc (.cells #[.slice ba1 p.st.length da1, .slice bb1 p.lf.length db1, .slice bc1 p.ln.length dc1] 25)) w1.heap.size (.slice ba1 p.st.length da1) (.slice bb1 p.lf.length db1) (.slice bc1 p.ln.length dc1)) := Bx3.new _ _ _ _ _
  have HLA : Hid (∀ k, Has (.slice ba1 p.st.length da1) (.slice bb1 p.lf.length db1) (.slice bc1 p.ln.length dc1) k → k < w1.heap.size) := fun k hk => (ho1.lt k hk).2
  have HBW : Hid (w.heap.size ≤ w1.heap.size + 1) := Nat.le_trans hb1.size (Nat.le_succ _)
  clear ho1 hb1
  go_wp2_with fail
  refine (HI.out _).mono ?_
  rintro e w2 ⟨x2, y2, z2, rfl, ho2, hb2⟩
  obtain ⟨ba2, da2, rfl⟩ := ho2.st.shape
  obtain ⟨bb2, db2, rfl⟩ := ho2.lf.shape
  obtain ⟨bc2, dc2, rfl⟩ := ho2.ln.shape
  have hz2 : w1.heap.size + 1 ≤ w2.heap.size := by have := hb2.size; simp at this; omega
  have HO2 : Hid (Own3 (w2.alloc (.cells #[.slice ba2 p.st.length da2, .slice bb2 p.lf.length db2, .slice bc2 p.ln.length dc2] 25)) (w1.heap.size + 1) (.slice ba2 p.st.length da2) (.slice bb2 p.lf.length db2) (.slice bc2 p.ln.length dc2) p) := by
    have := ho2.below ((Below.refl _ w2).alloc (Nat.le_refl _) (.cells #[.slice ba2 p.st.length da2, .slice bb2 p.lf.length db2, .slice bc2 p.ln.length dc2] 25))
    exact (show Own3 _ _ _ _ _ _ by simpa using this)
  have HB2 : Hid (Below w2.heap.size w2 (w2.alloc (.cells #[.slice ba2 p.st.length da2, .slice bb2 p.lf.length db2, .slice bc2 p.ln.length dc2] 25))) := (Below.refl _ w2).alloc (Nat.le_refl _) _
  have HX2 : Hid (Bx3 (w2.alloc (.cells #[.slice ba2 p.st.length da2, .slice bb2 p.lf.length db2, .slice bc2 p.ln.length dc2] 25)) w2.heap.size (.slice ba2 p.st.length da2) (.slice bb2 p.lf.length db2) (.slice bc2 p.ln.length dc2)) := Bx3.new _ _ _ _ _
  have HX12 : Hid (Bx3 (w2.alloc (.cells #[.slice ba2 p.st.length da2, .slice bb2 p.lf.length db2, .slice bc2 p.ln.length dc2] 25)) w1.heap.size (.slice ba1 p.st.length da1) (.slice bb1 p.lf.length db1) (.slice bc1 p.ln.length dc1)) := (HX1.out.below hb2).below HB2.out
  have HO12 : Hid (Own3 (w2.alloc (.cells #[.slice ba2 p.st.length da2, .slice bb2 p.lf.length db2, .slice bc2 p.ln.length dc2] 25)) w.heap.size (.slice ba1 p.st.length da1) (.slice bb1 p.lf.length db1) (.slice bc1 p.ln.length dc1) p) := (HO1.out.below hb2).below HB2.out
  have HS2 : Hid (Since w.heap.size w (w2.alloc (.cells #[.slice ba2 p.st.length da2, .slice bb2 p.lf.length db2, .slice bc2 p.ln.length dc2] 25))) := (HS1.out.step hb2).step HB2.out
  have HZ2 : Hid (w1.heap.size + 1 ≤ ((w2.alloc (.cells #[.slice ba2 p.st.length da2, .slice bb2 p.lf.length db2, .slice bc2 p.ln.length dc2] 25))).heap.size) := by show _ ≤ _; simp; omega
  have HLT : Hid (∀ k, Has (.slice ba2 p.st.length da2) (.slice bb2 p.lf.length db2) (.slice bc2 p.ln.length dc2) k → k < w2.heap.size) := fun k hk => (ho2.lt k hk).2
  clear ho2 hb2 HX1 HO1 HS1 HB2 hz2
  obtain ⟨l1, q10, q11, q12, -⟩ := HX12.out
  obtain ⟨l2, q20, q21, q22, -⟩ := HX2.out
  go_wp2_with fail
  refine (eqPair_same _ _ _ _ _ _ _ p HO2.out.reads HO12.out.reads L1.out L2.out L3.out).mono ?_
  rintro e w3 ⟨rfl, hb3⟩
  have HX3 : Hid (Bx3 w3 w2.heap.size (.slice ba2 p.st.length da2) (.slice bb2 p.lf.length db2) (.slice bc2 p.ln.length dc2)) := HX2.out.below hb3
  have HX13 : Hid (Bx3 w3 w1.heap.size (.slice ba1 p.st.length da1) (.slice bb1 p.lf.length db1) (.slice bc1 p.ln.length dc1)) := HX12.out.below hb3
  have HO3 : Hid (Own3 w3 (w1.heap.size + 1) (.slice ba2 p.st.length da2) (.slice bb2 p.lf.length db2) (.slice bc2 p.ln.length dc2) p) := HO2.out.below hb3
  have HO13 : Hid (Own3 w3 w.heap.size (.slice ba1 p.st.length da1) (.slice bb1 p.lf.length db1) (.slice bc1 p.ln.length dc1) p) := HO12.out.below hb3
  have HS3 : Hid (Since w.heap.size w w3) := HS2.out.step hb3
  have HZ3 : Hid ((w1.heap.size + 1) ≤ w3.heap.size) := Nat.le_trans HZ2.out hb3.size
  clear hb3 l1 q10 q11 q12 l2 q20 q21 q22 HX2 HX12 HO2 HO12 HS2 HZ2
  obtain ⟨l1, q10, q11, q12, -⟩ := HX13.out
  obtain ⟨l2, q20, q21, q22, -⟩ := HX3.out
  go_wp2_with fail
  refine (markPair_any w3 _ _ _ _ p 1 HO3.out HZ3.out L1.out L2.out L3.out (by omega)).mono ?_
  rintro e w4 ⟨rfl, ho4, hb4, hk4⟩
  rw [HQ.out]
  have HX4 : Hid (Bx3 w4 w2.heap.size (.slice ba2 p.st.length da2) (.slice bb2 p.lf.length db2) (.slice bc2 p.ln.length dc2)) := HX3.out.keep hk4 (fun hh => by have := HLT.out _ hh; omega)
  have HX14 : Hid (Bx3 w4 w1.heap.size (.slice ba1 p.st.length da1) (.slice bb1 p.lf.length db1) (.slice bc1 p.ln.length dc1)) := HX13.out.keep hk4 (fun hh => by have := (HO3.out.lt _ hh).1; omega)
  have HO4 : Hid (Own3 w4 (w1.heap.size + 1) (.slice ba2 p.st.length da2) (.slice bb2 p.lf.length db2) (.slice bc2 p.ln.length dc2) (markPr p 1)) := ho4
  have HO14 : Hid (Own3 w4 w.heap.size (.slice ba1 p.st.length da1) (.slice bb1 p.lf.length db1) (.slice bc1 p.ln.length dc1) p) := HO13.out.keep hk4 (fun k h1 h2 => by have := (HO3.out.lt _ h2).1; have := HLA.out _ h1; omega)
  have HS4 : Hid (Since w.heap.size w w4) := ⟨HS3.out.1.trans (hb4.mono HBW.out), Nat.le_trans HS3.out.2 hk4.size⟩
  clear ho4 hb4 hk4 l1 q10 q11 q12 l2 q20 q21 q22 HX3 HX13 HO3 HO13 HS3
  obtain ⟨l1, q10, q11, q12, -⟩ := HX14.out
  obtain ⟨l2, q20, q21, q22, -⟩ := HX4.out
  go_wp2_with fail
  refine (heldPair_yes w4 _ _ _ p 1 HO4.out.reads L1.out L2.out L3.out (by omega)).mono ?_
  rintro e w5 ⟨rfl, hb5⟩
  rw [HQ.out]
  have HX5 : Hid (Bx3 w5 w2.heap.size (.slice ba2 p.st.length da2) (.slice bb2 p.lf.length db2) (.slice bc2 p.ln.length dc2)) := HX4.out.below hb5
  have HX15 : Hid (Bx3 w5 w1.heap.size (.slice ba1 p.st.length da1) (.slice bb1 p.lf.length db1) (.slice bc1 p.ln.length dc1)) := HX14.out.below hb5
  have HO5 : Hid (Own3 w5 (w1.heap.size + 1) (.slice ba2 p.st.length da2) (.slice bb2 p.lf.length db2) (.slice bc2 p.ln.length dc2) (markPr p 1)) := HO4.out.below hb5
  have HO15 : Hid (Own3 w5 w.heap.size (.slice ba1 p.st.length da1) (.slice bb1 p.lf.length db1) (.slice bc1 p.ln.length dc1) p) := HO14.out.below hb5
  have HS5 : Hid (Since w.heap.size w w5) := HS4.out.step hb5
  clear hb5 l1 q10 q11 q12 l2 q20 q21 q22 HX4 HX14 HO4 HO14 HS4
  obtain ⟨l1, q10, q11, q12, -⟩ := HX15.out
  obtain ⟨l2, q20, q21, q22, -⟩ := HX5.out
  go_wp2_with fail
  refine (HI.out w5).mono ?_
  rintro e w6 ⟨x6, y6, z6, rfl, ho6, hb6⟩
  obtain ⟨ba6, da6, rfl⟩ := ho6.st.shape
  obtain ⟨bb6, db6, rfl⟩ := ho6.lf.shape
  obtain ⟨bc6, dc6, rfl⟩ := ho6.ln.shape
  have HB6 : Hid (Below w6.heap.size w6 (w6.alloc (.cells #[.slice ba6 p.st.length da6, .slice bb6 p.lf.length db6, .slice bc6 p.ln.length dc6] 25))) := (Below.refl _ w6).alloc (Nat.le_refl _) _
  have HY6 : Hid (Bx3 (w6.alloc (.cells #[.slice ba6 p.st.length da6, .slice bb6 p.lf.length db6, .slice bc6 p.ln.length dc6] 25)) w6.heap.size (.slice ba6 p.st.length da6) (.slice bb6 p.lf.length db6) (.slice bc6 p.ln.length dc6)) := Bx3.new _ _ _ _ _
  have HX6 : Hid (Bx3 (w6.alloc (.cells #[.slice ba6 p.st.length da6, .slice bb6 p.lf.length db6, .slice bc6 p.ln.length dc6] 25)) w2.heap.size (.slice ba2 p.st.length da2) (.slice bb2 p.lf.length db2) (.slice bc2 p.ln.length dc2)) := (HX5.out.below hb6).below HB6.out
  have HX16 : Hid (Bx3 (w6.alloc (.cells #[.slice ba6 p.st.length da6, .slice bb6 p.lf.length db6, .slice bc6 p.ln.length dc6] 25)) w1.heap.size (.slice ba1 p.st.length da1) (.slice bb1 p.lf.length db1) (.slice bc1 p.ln.length dc1)) := (HX15.out.below hb6).below HB6.out
  have HO6 : Hid (Own3 (w6.alloc (.cells #[.slice ba6 p.st.length da6, .slice bb6 p.lf.length db6, .slice bc6 p.ln.length dc6] 25)) (w1.heap.size + 1) (.slice ba2 p.st.length da2) (.slice bb2 p.lf.length db2) (.slice bc2 p.ln.length dc2) (markPr p 1)) := (HO5.out.below hb6).below HB6.out
  have HO16 : Hid (Own3 (w6.alloc (.cells #[.slice ba6 p.st.length da6, .slice bb6 p.lf.length db6, .slice bc6 p.ln.length dc6] 25)) w.heap.size (.slice ba1 p.st.length da1) (.slice bb1 p.lf.length db1) (.slice bc1 p.ln.length dc1) p) := (HO15.out.below hb6).below HB6.out
  have HO66 : Hid (Own3 (w6.alloc (.cells #[.slice ba6 p.st.length da6, .slice bb6 p.lf.length db6, .slice bc6 p.ln.length dc6] 25)) w5.heap.size (.slice ba6 p.st.length da6) (.slice bb6 p.lf.length db6) (.slice bc6 p.ln.length dc6) p) := ho6.below HB6.out
  have HS6 : Hid (Since w.heap.size w (w6.alloc (.cells #[.slice ba6 p.st.length da6, .slice bb6 p.lf.length db6, .slice bc6 p.ln.length dc6] 25))) := (HS5.out.step hb6).step HB6.out
  clear ho6 hb6 l1 q10 q11 q12 l2 q20 q21 q22 HX5 HX15 HO5 HO15 HS5
  obtain ⟨l1, q10, q11, q12, -⟩ := HX16.out
  obtain ⟨l2, q20, q21, q22, -⟩ := HX6.out
  obtain ⟨l6, q60, q61, q62, -⟩ := HY6.out
  go_wp2_with fail
  refine (eqPair_same _ _ _ _ _ _ _ p HO66.out.reads HO16.out.reads L1.out L2.out L3.out).mono ?_
  rintro e w7 ⟨rfl, hb7⟩
  have HX7 : Hid (Bx3 w7 w2.heap.size (.slice ba2 p.st.length da2) (.slice bb2 p.lf.length db2) (.slice bc2 p.ln.length dc2)) := HX6.out.below hb7
  have HO7 : Hid (Own3 w7 (w1.heap.size + 1) (.slice ba2 p.st.length da2) (.slice bb2 p.lf.length db2) (.slice bc2 p.ln.length dc2) (markPr p 1)) := HO6.out.below hb7
  have HS7 : Hid (Since w.heap.size w w7) := HS6.out.step hb7
  clear hb7 l1 q10 q11 q12 l2 q20 q21 q22 HX6 HX16 HO6 HO16 HO66 HS6 HY6 l6 q60 q61 q62 HB6
  obtain ⟨l2, q20, q21, q22, -⟩ := HX7.out
  go_wp2_with fail
  refine (heldPair_yes w7 _ _ _ p 1 HO7.out.reads L1.out L2.out L3.out (by omega)).mono ?_
  rintro e w8 ⟨rfl, hb8⟩
  rw [HQ.out]
  have HS8 : Hid (Since w.heap.size w w8) := HS7.out.step hb8
  clear hb8 l2 q20 q21 q22
  go_wp2
  go_ret
  exact ⟨rfl, HS8.out.1⟩

set_option maxRecDepth 100000 in
theorem contract (H : Type) (enc : TypeId × Value → H) (W : World) (base : Nat) (args : Array Value) (ds gs : List (DataW H)) (before : List MemPlace)
    (hval : ∀ (j : Nat) t v, Try.f3.params[j]? = some t → args[j]? = some v → Value.okWide Try.prog W .any base t v)
    (hW : DataW.Whole enc Try.prog Try.f3.params.toList Rows.fnExactNewPairSpec.vars false W args.toList ds gs before) :
    Calls Try.prog 3 args W fun e W' => ∃ v, e = .returned v ∧ Rows.fnExactNewPairSpec.post enc Try.prog Try.f3 false true false false W args v W' := by
  have hW' := hW
  obtain ⟨p, q, hA0, hV0, rfl, hfz, hnd⟩ := hW
  have hA : DataW.TrodAll enc Try.prog W 0 (fun _ => true) true Try.f3.params.toList args.toList ds p := hA0
  rw [Try.params3] at hA hval
  obtain ⟨v0, vs0, d0, ds0, p0, q0, hargs, rfl, rfl, h0, r0⟩ := trodAll_cons hA
  obtain ⟨rfl, rfl, rfl⟩ := trodAll_nil r0
  obtain rfl : args = #[v0] := by cases args; simp_all
  obtain ⟨rfl, rfl⟩ := trodVars_none hV0
  obtain ⟨a0, rfl, rfl, rfl, w0⟩ := open_int Try.underlying3 (hval 0 3 v0 rfl rfl) h0
  clear hA0 hV0
  refine (walk a0 W w0).mono fun e W' ⟨he, bel⟩ => ?_
  subst he
  exact ⟨_, rfl, _, _, _, [], [], [], hW', trodAll_mk1 (shut_bool Try.underlying4 _), (trodAll_cons_mk (shut_int Try.underlying3 w0) trodAll_mk0), rfl, bel.frame _, fun h => by cases h⟩

set_option maxRecDepth 100000 in
theorem lifted (os : Os) (started : os.Started) (H : Type) (enc : TypeId × Value → H) :
    ReturnsInHanded {} Try.checked os 3 .any (Rows.fnExactNewPairSpec.pre6 enc Try.prog Try.f3 Rows.fnExactNewPairRow.domain false) (Rows.fnExactNewPairSpec.post enc Try.prog Try.f3 false true false false) := by
  refine returnsInHanded_of_change (C := Try.checked) own started (by kernel_rfl) Try.func3
    (ChangeSpec.witness6 (enc := enc) (C := Try.checked) false ⟨#[], #[.int .i64 0], []⟩ 8 (by kernel_rfl) (by kernel_rfl) (by kernel_rfl) (by kernel_rfl)) ?_
  intro W base args ds gs before hval hW _ _
  exact contract H enc W base args ds gs before hval hW

/-- The statement. -/
theorem said : Rows.FnExactNewPairSaid :=
  OpenClaim.holds_of_wide 3 Try.f3 rfl rfl rfl rfl rfl rfl rfl ⟨rfl, rfl, rfl, rfl, rfl⟩ rfl rfl rfl rfl rfl (by kernel_rfl) Try.func3 (by kernel_rfl)
    (of_decide_eq_true (by kernel_rfl)) (by unfold Func.isWrapper; first | (rw [if_pos (by decide +kernel)]; kernel_rfl) | (rw [if_neg (by decide +kernel)]; exact ⟨rfl, rfl⟩))
    (fun os started H enc _ => lifted os started H enc)
#print axioms said
end Go.Proofs.Ytijlhjfllfjllat.fnExactNewPair
