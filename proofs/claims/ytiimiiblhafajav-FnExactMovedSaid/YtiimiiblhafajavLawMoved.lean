/-
  Proved: for every list of bridges and every two numbers, 'Moved' of the program at commit 8ec49a640c86 answers as the model's 'Moved', every number and the bool; it writes into no argument (the list that it was handed reads as before), keeps nothing of it (marks that are written into it change no answer), and its answer is memory of its own (marks that are written into it stay there behind another call). No condition.
-/
import Derived.Test.YtiimiiblhafajavPlain
import Derived.Test.YtiimiiblhafajavMovedT
import Derived.Test.YtiimiiblhafajavMovedS
import Derived.Test.YtiimiiblhafajavRowOfBr
import Derived.Test.YtiimiiblhafajavRowLaw0
namespace Go.Proofs.Ytiimiiblhafajav.fnExactMoved
open Go.ChangeShapes Go.WideShapes Go.ChangeAt Go.RowKit
open Go.ChangeMaps (open_string shut_string)
set_option linter.unusedVariables false

set_option maxRecDepth 100000 in
set_option maxHeartbeats 4000000 in
theorem walk (v : Value) (l : List BrD) (id : Int) (groups : Int) (w : World) (h : ReadsBr w v l) (hl : l.length ≤ maxLen) (wf_id : (Lit.int .i64 id).wf = true) (wf_groups : (Lit.int .i64 groups).wf = true) :
    Calls Try.prog 4 #[v, .int .i64 id, .int .i64 groups] w fun e w' => e = .returned (.bool true) ∧ Below w.heap.size w w' := by
  have HRD : Hid (∀ W1, Since w.heap.size w W1 → ReadsBr W1 v l) := fun W1 hb => h.below hb.1
  have HL : Hid (l.length ≤ maxLen) := hl
  obtain ⟨a1, c1, rfl⟩ := h.shape
  have S1 : Hid (Since w.heap.size w w) := Since.start w
  obtain ⟨out, hout⟩ : ∃ out, out = movedOut l id groups := ⟨_, rfl⟩
  obtain ⟨ok, hok⟩ : ∃ ok, ok = movedOk l id groups := ⟨_, rfl⟩
  have OL : Hid (out.length ≤ 4194304) := by show _ ≤ _; rw [hout]; exact movedOut_len l id groups
  clear h hl wf_id wf_groups
  go_enter Try.func4, Try.ntmps4
  go_wp2_with fail
  refine (szBrs_any _ _ l 1048576 (HRD.out _ S1.out) HL.out (by omega) (by omega)).mono ?_
  rintro e w1 ⟨rfl, hw1⟩
  obtain rfl : w = w1 := hw1.symm
  rcases Int.lt_or_le 1048576 (l.length : Int) with hle | hle
  · rw [if_neg (by omega)]
    go_wp2
    go_ret
    exact ⟨rfl, S1.out.1⟩
  rw [if_pos hle]
  have hnn : ¬ (1048576 - (l.length : Int) < 0) := by omega
  have LL : Hid (l.length ≤ 1048576) := by show _ ≤ _; omega
  have LB : Hid (l.length ≤ 4194304) := by show _ ≤ _; omega
  have CS : Hid (∀ (W : World) (B : Nat) (v : Value), OwnBr W B v l → Calls Try.prog 14 #[v, .int .i64 id, .int .i64 groups] W fun e W' => ∃ v', e = .returned (.tuple #[v', .bool ok]) ∧ Own W' W.heap.size v' out ∧ Below W.heap.size W W') := fun W B v ho => by
    have := specMoved_any W B v l id groups ho LL.out
    rw [← hout, ← hok] at this
    exact this
  have CI : Hid (∀ (W : World) (B : Nat) (v : Value), OwnBr W B v l → Calls Try.prog 15 #[v, .int .i64 id, .int .i64 groups] W fun e W' => ∃ v', e = .returned (.tuple #[v', .bool ok]) ∧ Own W' W.heap.size v' out ∧ Below W.heap.size W W') := fun W B v ho => by
    have := implMoved_any W B v l id groups ho LL.out
    rw [← hout, ← hok] at this
    exact this
  clear hout hok
  obtain ⟨k1, hk1⟩ : ∃ k1 : Int, k1 = ((1 + 3 * l.length : Nat) : Int) := ⟨_, rfl⟩
  obtain ⟨m1, hm1⟩ : ∃ m1 : Int, m1 = ((1 + 1 * out.length : Nat) : Int) := ⟨_, rfl⟩
  have hk1n : ¬ k1 < 0 := by omega
  have hm1n : ¬ m1 < 0 := by omega
  have MX : Hid (∀ (W : World) (B : Nat) (v : Value), OwnBr W B v l → Calls Try.prog 11 #[v, .int .i64 1] W fun e W' => e = .returned (.int .i64 k1) ∧ W.grownBy W' v.ownBlock) := fun W B v ho => by
    rw [hk1]
    exact (markBrs_any W B v 1 l ho LB.out (by omega)).mono fun e w' hh => ⟨hh.1, hh.2.2.2⟩
  have MG : Hid (∀ (W : World) (B : Nat) (v : Value), Own W B v out → Calls Try.prog 12 #[v, .int .i64 1] W fun e W' => e = .returned (.int .i64 m1) ∧ Own W' B v (marks ((1 : Nat) : Int) out.length) ∧ W'.heap.size = W.heap.size ∧ W.grownBy W' v.ownBlock) := fun W B v ho => by
    rw [hm1]
    exact markIs_any W B v 1 out ho OL.out (by omega)
  have HG : Hid (∀ (W : World) (B : Nat) (v : Value), Own W B v (marks ((1 : Nat) : Int) out.length) → Calls Try.prog 13 #[v, .int .i64 1] W fun e W' => e = .returned (.int .i64 m1) ∧ W' = W) := fun W B v ho => by
    rw [hm1]
    exact heldIs_yes W v 1 out.length ho.reads OL.out (by omega)
  have LM : Hid ((marks ((1 : Nat) : Int) out.length).length = out.length) := by show _ = _; exact marks_len _ _
  clear hk1 hm1
  go_wp2_with fail
  refine (toBrs_any _ _ l (HRD.out _ S1.out) LB.out).mono ?_
  rintro e w2 ⟨v2, rfl, ho2, hb2⟩
  obtain ⟨x2, y2, rfl⟩ := ho2.shape
  have S2 : Hid (Since w.heap.size w w2) := S1.out.step hb2
  have N2 : Hid (OwnBr w2 w.heap.size (.slice x2 l.length y2) l) := ho2
  have B2 : Hid (Below w.heap.size w w2) := hb2
  have O2 : Hid (OwnBr w2 w.heap.size (.slice x2 l.length y2) l) := ho2.mono S1.out.2
  clear ho2 hb2
  go_wp2_with fail
  refine (CS.out _ _ _ O2.out).mono ?_
  rintro e w3 ⟨v3, rfl, ho3, hb3⟩
  obtain ⟨x3, y3, rfl⟩ := rowShape ho3
  have S3 : Hid (Since w.heap.size w w3) := S2.out.step hb3
  have Q3 : Hid (Own w3 w.heap.size (.slice x3 out.length y3) out) := rowMono ho3 S2.out.2
  clear ho3 hb3
  go_wp2_with fail
  refine (toBrs_any _ _ l (HRD.out _ S3.out) LB.out).mono ?_
  rintro e w4 ⟨v4, rfl, ho4, hb4⟩
  obtain ⟨x4, y4, rfl⟩ := ho4.shape
  have S4 : Hid (Since w.heap.size w w4) := S3.out.step hb4
  have N4 : Hid (OwnBr w4 w3.heap.size (.slice x4 l.length y4) l) := ho4
  have B4 : Hid (Below w3.heap.size w3 w4) := hb4
  have O4 : Hid (OwnBr w4 w.heap.size (.slice x4 l.length y4) l) := ho4.mono S3.out.2
  clear ho4 hb4
  have Q4 : Hid (Own w4 w.heap.size (.slice x3 out.length y3) out) := rowBelow Q3.out B4.out
  have APSX : Hid (∀ k, (Value.slice x3 out.length y3).ownBlock = some k → (Value.slice x4 l.length y4).ownBlock ≠ some k) := rowsApartLt Q3.out N4.out (Nat.le_refl _)
  go_wp2_with fail
  refine (CI.out _ _ _ O4.out).mono ?_
  rintro e w5 ⟨v5, rfl, ho5, hb5⟩
  obtain ⟨x5, y5, rfl⟩ := rowShape ho5
  have S5 : Hid (Since w.heap.size w w5) := S4.out.step hb5
  have O5 : Hid (OwnBr w5 w.heap.size (.slice x4 l.length y4) l) := O4.out.below hb5
  have Q5 : Hid (Own w5 w.heap.size (.slice x3 out.length y3) out) := rowBelow Q4.out hb5
  have G5 : Hid (Own w5 w.heap.size (.slice x5 out.length y5) out) := rowMono ho5 S4.out.2
  have APXG : Hid (∀ k, (Value.slice x4 l.length y4).ownBlock = some k → (Value.slice x5 out.length y5).ownBlock ≠ some k) := rowsApartLt O4.out ho5 (Nat.le_refl _)
  have APSG : Hid (∀ k, (Value.slice x3 out.length y3).ownBlock = some k → (Value.slice x5 out.length y5).ownBlock ≠ some k) := rowsApartLt Q4.out ho5 (Nat.le_refl _)
  clear ho5 hb5
  go_wp2_with fail
  refine (eqIs_same _ _ _ out G5.out.reads Q5.out.reads OL.out).mono ?_
  rintro e w6 ⟨rfl, hb6⟩
  have S6 : Hid (Since w.heap.size w w6) := S5.out.step hb6
  have O6 : Hid (OwnBr w6 w.heap.size (.slice x4 l.length y4) l) := O5.out.below hb6
  have Q6 : Hid (Own w6 w.heap.size (.slice x3 out.length y3) out) := rowBelow Q5.out hb6
  have G6 : Hid (Own w6 w.heap.size (.slice x5 out.length y5) out) := rowBelow G5.out hb6
  clear hb6
  go_wp2_with fail
  refine (toBrs_any _ _ l (HRD.out _ S6.out) LB.out).mono ?_
  rintro e w7 ⟨v7, rfl, ho7, hb7⟩
  obtain ⟨x7, y7, rfl⟩ := ho7.shape
  have S7 : Hid (Since w.heap.size w w7) := S6.out.step hb7
  have N7 : Hid (OwnBr w7 w6.heap.size (.slice x7 l.length y7) l) := ho7
  have B7 : Hid (Below w6.heap.size w6 w7) := hb7
  have O7 : Hid (OwnBr w7 w.heap.size (.slice x7 l.length y7) l) := ho7.mono S6.out.2
  clear ho7 hb7
  have X7 : Hid (OwnBr w7 w.heap.size (.slice x4 l.length y4) l) := O6.out.below B7.out
  have Q7 : Hid (Own w7 w.heap.size (.slice x3 out.length y3) out) := rowBelow Q6.out B7.out
  have G7 : Hid (Own w7 w.heap.size (.slice x5 out.length y5) out) := rowBelow G6.out B7.out
  go_wp2_with fail
  refine (eqBrs_same _ _ _ l X7.out.reads O7.out.reads LB.out).mono ?_
  rintro e w8 ⟨rfl, hb8⟩
  have S8 : Hid (Since w.heap.size w w8) := S7.out.step hb8
  have X8 : Hid (OwnBr w8 w.heap.size (.slice x4 l.length y4) l) := X7.out.below hb8
  have Q8 : Hid (Own w8 w.heap.size (.slice x3 out.length y3) out) := rowBelow Q7.out hb8
  have G8 : Hid (Own w8 w.heap.size (.slice x5 out.length y5) out) := rowBelow G7.out hb8
  clear hb8
  go_wp2_with fail
  refine (MX.out _ _ _ X8.out).mono ?_
  rintro e w9 ⟨rfl, hg9⟩
  have S9 : Hid (Since w.heap.size w w9) := S8.out.grown hg9 (fun k hk => (World.ownsRow.lt X8.out k hk).1)
  have Q9 : Hid (Own w9 w.heap.size (.slice x3 out.length y3) out) := rowGrow Q8.out hg9 (apartSym APSX.out)
  have G9 : Hid (Own w9 w.heap.size (.slice x5 out.length y5) out) := rowGrow G8.out hg9 APXG.out
  clear hg9
  go_wp2_with fail
  refine (eqIs_same _ _ _ out G9.out.reads Q9.out.reads OL.out).mono ?_
  rintro e w10 ⟨rfl, hb10⟩
  have S10 : Hid (Since w.heap.size w w10) := S9.out.step hb10
  have Q10 : Hid (Own w10 w.heap.size (.slice x3 out.length y3) out) := rowBelow Q9.out hb10
  have G10 : Hid (Own w10 w.heap.size (.slice x5 out.length y5) out) := rowBelow G9.out hb10
  clear hb10
  go_wp2_with fail
  refine (MG.out _ _ _ G10.out).mono ?_
  rintro e w11 ⟨rfl, hg11, -, hgr11⟩
  have S11 : Hid (Since w.heap.size w w11) := S10.out.grown hgr11 (fun k hk => (World.ownsRow.lt G10.out k hk).1)
  have Q11 : Hid (Own w11 w.heap.size (.slice x3 out.length y3) out) := rowGrow Q10.out hgr11 (apartSym APSG.out)
  have G11 : Hid (Own w11 w.heap.size (.slice x5 out.length y5) (marks ((1 : Nat) : Int) out.length)) := hg11
  clear hg11 hgr11
  go_wp2_with fail
  refine (HG.out _ _ _ G11.out).mono ?_
  rintro e w12 ⟨rfl, hw12⟩
  obtain rfl : w11 = w12 := hw12.symm
  go_wp2_with fail
  refine (toBrs_any _ _ l (HRD.out _ S11.out) LB.out).mono ?_
  rintro e w13 ⟨v13, rfl, ho13, hb13⟩
  obtain ⟨x13, y13, rfl⟩ := ho13.shape
  have S13 : Hid (Since w.heap.size w w13) := S11.out.step hb13
  have N13 : Hid (OwnBr w13 w11.heap.size (.slice x13 l.length y13) l) := ho13
  have B13 : Hid (Below w11.heap.size w11 w13) := hb13
  have O13 : Hid (OwnBr w13 w.heap.size (.slice x13 l.length y13) l) := ho13.mono S11.out.2
  clear ho13 hb13
  have Q13 : Hid (Own w13 w.heap.size (.slice x3 out.length y3) out) := rowBelow Q11.out B13.out
  have G13 : Hid (Own w13 w.heap.size (.slice x5 out.length y5) (marks ((1 : Nat) : Int) out.length)) := by have := rowBelow G11.out B13.out; exact this
  go_wp2_with fail
  refine (CI.out _ _ _ O13.out).mono ?_
  rintro e w14 ⟨v14, rfl, ho14, hb14⟩
  obtain ⟨x14, y14, rfl⟩ := rowShape ho14
  have S14 : Hid (Since w.heap.size w w14) := S13.out.step hb14
  have Q14 : Hid (Own w14 w.heap.size (.slice x3 out.length y3) out) := rowBelow Q13.out hb14
  have G14 : Hid (Own w14 w.heap.size (.slice x5 out.length y5) (marks ((1 : Nat) : Int) out.length)) := by have := rowBelow G13.out hb14; exact this
  have H14 : Hid (Own w14 w13.heap.size (.slice x14 out.length y14) out) := ho14
  clear ho14 hb14
  go_wp2_with fail
  refine (eqIs_same _ _ _ out H14.out.reads Q14.out.reads OL.out).mono ?_
  rintro e w15 ⟨rfl, hb15⟩
  have S15 : Hid (Since w.heap.size w w15) := S14.out.step hb15
  have G15 : Hid (Own w15 w.heap.size (.slice x5 out.length y5) (marks ((1 : Nat) : Int) out.length)) := by have := rowBelow G14.out hb15; exact this
  clear hb15
  go_wp2_with fail
  refine (HG.out _ _ _ G15.out).mono ?_
  rintro e w16 ⟨rfl, hw16⟩
  obtain rfl : w15 = w16 := hw16.symm
  go_wp2
  go_ret
  exact ⟨rfl, S15.out.1⟩

set_option maxRecDepth 100000 in
theorem contract (H : Type) (enc : TypeId × Value → H) (W : World) (base : Nat) (args : Array Value) (ds gs : List (DataW H)) (before : List MemPlace)
    (hval : ∀ (j : Nat) t v, Try.f4.params[j]? = some t → args[j]? = some v → Value.okWide Try.prog W .any base t v)
    (hW : DataW.Whole enc Try.prog Try.f4.params.toList Rows.fnExactMovedSpec.vars false W args.toList ds gs before) :
    Calls Try.prog 4 args W fun e W' => ∃ v, e = .returned v ∧ Rows.fnExactMovedSpec.post enc Try.prog Try.f4 false true false false W args v W' := by
  have hW' := hW
  obtain ⟨p, q, hA0, hV0, rfl, hfz, hnd⟩ := hW
  have hA : DataW.TrodAll enc Try.prog W 0 (fun _ => true) true Try.f4.params.toList args.toList ds p := hA0
  rw [Try.params4] at hA hval
  obtain ⟨v0, vs0, d0, ds0, p0, q0, hargs, rfl, rfl, h0, r0⟩ := trodAll_cons hA
  obtain ⟨v1, vs1, d1, ds1, p1, q1, rfl, rfl, rfl, h1, r1⟩ := trodAll_cons r0
  obtain ⟨v2, vs2, d2, ds2, p2, q2, rfl, rfl, rfl, h2, r2⟩ := trodAll_cons r1
  obtain ⟨rfl, rfl, rfl⟩ := trodAll_nil r2
  obtain rfl : args = #[v0, v1, v2] := by cases args; simp_all
  obtain ⟨rfl, rfl⟩ := trodVars_none hV0
  obtain ⟨a0, len0, cap0, rfl⟩ := okWide_slice Try.underlying22 (hval 0 22 v0 rfl rfl)
  have k0 := h0
  have lt0 : ∀ x ∈ p0, x.block < W.heap.size := by obtain ⟨m, hm⟩ := k0; exact DataW.trod_lt m _ _ _ hm
  obtain ⟨ps0, hr0, hz0⟩ := Brs_of k0
  obtain ⟨a1, rfl, rfl, rfl, w1⟩ := open_int Try.underlying3 (hval 1 3 v1 rfl rfl) h1
  obtain ⟨a2, rfl, rfl, rfl, w2⟩ := open_int Try.underlying3 (hval 2 3 v2 rfl rfl) h2
  clear hA0 hV0
  refine (walk _ ps0 a1 a2 W hr0 hz0 w1 w2).mono fun e W' ⟨he, bel⟩ => ?_
  subst he
  exact ⟨_, rfl, _, _, _, [], _, [], hW', trodAll_mk1 (shut_bool Try.underlying4 _), (trodAll_cons_mk (Below.trod laidOut (by kernel_rfl) (of_decide_eq_true (by kernel_rfl)) k0 bel lt0) (trodAll_cons_mk (shut_int Try.underlying3 w1) (trodAll_cons_mk (shut_int Try.underlying3 w2) trodAll_mk0))), rfl, bel.frame _, fun h => by cases h⟩

set_option maxRecDepth 100000 in
theorem lifted (os : Os) (started : os.Started) (H : Type) (enc : TypeId × Value → H) :
    ReturnsInHanded {} Try.checked os 4 .any (Rows.fnExactMovedSpec.pre6 enc Try.prog Try.f4 Rows.fnExactMovedRow.domain false) (Rows.fnExactMovedSpec.post enc Try.prog Try.f4 false true false false) := by
  refine returnsInHanded_of_change (C := Try.checked) own started (by kernel_rfl) Try.func4
    (ChangeSpec.witness6 (enc := enc) (C := Try.checked) false ⟨#[], #[.slice none 0 0, .int .i64 0, .int .i64 0], []⟩ 8 (by kernel_rfl) (by kernel_rfl) (by kernel_rfl) (by kernel_rfl)) ?_
  intro W base args ds gs before hval hW _ _
  exact contract H enc W base args ds gs before hval hW

/-- The statement. -/
theorem said : Rows.FnExactMovedSaid :=
  OpenClaim.holds_of_wide 4 Try.f4 rfl rfl rfl rfl rfl rfl rfl ⟨rfl, rfl, rfl, rfl, rfl⟩ rfl rfl rfl rfl rfl (by kernel_rfl) Try.func4 (by kernel_rfl)
    (of_decide_eq_true (by kernel_rfl)) (by unfold Func.isWrapper; first | (rw [if_pos (by decide +kernel)]; kernel_rfl) | (rw [if_neg (by decide +kernel)]; exact ⟨rfl, rfl⟩))
    (fun os started H enc _ => lifted os started H enc)
#print axioms said
end Go.Proofs.Ytiimiiblhafajav.fnExactMoved
