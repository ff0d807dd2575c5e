/-
  Proved: for every list of items, 'NewestOf' of the program at commit 9a5d4bce51f6 answers as the model's 'NewestOf', every field and the bool; it writes into no argument (the list that it was handed reads as before), and so does the law's own argument. No condition.
-/
import Derived.Test.YthdcfeafkellcawPlain
import Derived.Test.YthdcfeafkellcawNewS
import Derived.Test.YthdcfeafkellcawRowOfIt
namespace Go.Proofs.Ythdcfeafkellcaw.fnExactNewestOf
open Go.ChangeShapes Go.WideShapes Go.ChangeAt Go.RowKit
open Go.ChangeMaps (open_string shut_string)
set_option linter.unusedVariables false

set_option maxRecDepth 100000 in
set_option maxHeartbeats 4000000 in
theorem walk (v : Value) (l : List ItD) (w : World) (h : ReadsIt w v l) (hl : l.length ≤ maxLen) (ht : ∀ x ∈ l, x.text.size ≤ maxLen) :
    Calls Try.prog 5 #[v] w fun e w' => e = .returned (.bool true) ∧ Below w.heap.size w w' := by
  have HRD : Hid (∀ W1, Since w.heap.size w W1 → ReadsIt W1 v l) := fun W1 hb => h.below hb.1
  have HL : Hid (l.length ≤ maxLen) := hl
  have HT : Hid (∀ x ∈ l, x.text.size ≤ maxLen) := ht
  obtain ⟨a1, c1, rfl⟩ := h.shape
  have S1 : Hid (Since w.heap.size w w) := Since.start w
  obtain ⟨o, ho⟩ : ∃ o, o = outNew l := ⟨_, rfl⟩
  obtain ⟨m, hm⟩ : ∃ m, m = mayNew l := ⟨_, rfl⟩
  have CS : Hid (∀ (W : World) (v : Value), ReadsIt W v l → l.length ≤ 1048576 → Calls Try.prog 15 #[v] W fun e W' => e = .returned (.tuple #[.agg #[.int .i64 o.frm, .int .i64 o.seq, .int .i64 o.age, .string o.text], .bool m]) ∧ Below W.heap.size W W') := fun W v hr h20 => by rw [ho, hm]; exact specNewest_any W v l hr h20 ht
  have CI : Hid (∀ (W : World) (v : Value), ReadsIt W v l → l.length ≤ 1048576 → Calls Try.prog 17 #[v] W fun e W' => e = .returned (.tuple #[.agg #[.int .i64 o.frm, .int .i64 o.seq, .int .i64 o.age, .string o.text], .bool m]) ∧ Below W.heap.size W W') := fun W v hr h20 => by rw [ho, hm]; exact implNewest_any W v l hr h20 ht
  clear h hl ht ho hm
  go_enter Try.func5, Try.ntmps5
  go_wp2_with fail
  refine (szIts_any _ _ l 1048576 (HRD.out _ S1.out) HL.out HT.out (by omega) (by omega)).mono ?_
  rintro e w1 ⟨z, rfl, hz, hb1⟩
  have S2 : Hid (Since w.heap.size w w1) := S1.out.step hb1
  clear hb1
  rcases hz with hz | ⟨hz, hle⟩
  · go_wp2
    go_ret
    exact ⟨rfl, S2.out.1⟩
  have hnn : ¬ z < 0 := by omega
  have LL : Hid (l.length ≤ 1048576) := by show _ ≤ _; omega
  have LB : Hid (l.length ≤ 4194304) := by show _ ≤ _; omega
  clear hle hz
  go_wp2_with fail
  refine (toIts_any _ _ l (HRD.out _ S2.out) LB.out).mono ?_
  rintro e w2 ⟨v2, rfl, ho2, hb2⟩
  obtain ⟨x2, y2, rfl⟩ := ho2.shape
  have S3 : Hid (Since w.heap.size w w2) := S2.out.step hb2
  have R2 : Hid (ReadsIt w2 (.slice x2 l.length y2) l) := ho2.reads
  clear ho2 hb2
  go_wp2_with fail
  refine (CS.out _ _ R2.out LL.out).mono ?_
  rintro e w3 ⟨rfl, hb3⟩
  have S4 : Hid (Since w.heap.size w w3) := S3.out.step hb3
  have S5 : Hid (Since w.heap.size w (w3.alloc (.cells #[.int .i64 o.frm, .int .i64 o.seq, .int .i64 o.age, .string o.text] 27))) := S4.out.step ((Below.refl _ _).alloc (Nat.le_refl _) _)
  clear hb3 R2
  go_wp2_with fail
  refine (toIts_any _ _ l (HRD.out _ S5.out) LB.out).mono ?_
  rintro e w4 ⟨v4, rfl, ho4, hb4⟩
  obtain ⟨x4, y4, rfl⟩ := ho4.shape
  have S6 : Hid (Since w.heap.size w w4) := S5.out.step hb4
  have HO4 : Hid (Bx4 w4 w3.heap.size (.int .i64 o.frm) (.int .i64 o.seq) (.int .i64 o.age) (.string o.text)) := (Bx4.new _ _ _ _ _ _).below hb4
  have R4 : Hid (∀ w', Since w4.heap.size w4 w' → ReadsIt w' (.slice x4 l.length y4) l) := fun w' hs => ho4.reads.below hs.1
  clear ho4 hb4
  go_wp2_with fail
  refine (CI.out _ _ (R4.out _ (Since.start _)) LL.out).mono ?_
  rintro e w5 ⟨rfl, hb5⟩
  have S7 : Hid (Since w.heap.size w w5) := S6.out.step hb5
  have HO5 : Hid (Bx4 w5 w3.heap.size (.int .i64 o.frm) (.int .i64 o.seq) (.int .i64 o.age) (.string o.text)) := HO4.out.below hb5
  have S8 : Hid (Since w.heap.size w (w5.alloc (.cells #[.int .i64 o.frm, .int .i64 o.seq, .int .i64 o.age, .string o.text] 27))) := S7.out.step ((Below.refl _ _).alloc (Nat.le_refl _) _)
  have U5 : Hid (Since w4.heap.size w4 (w5.alloc (.cells #[.int .i64 o.frm, .int .i64 o.seq, .int .i64 o.age, .string o.text] 27))) := ((Since.start _).step hb5).step ((Below.refl _ _).alloc (Nat.le_refl _) _)
  clear hb5 HO4
  obtain ⟨a0, a1, a2, a3⟩ := HO5.out.cells
  have lt5 := HO5.out.lt
  go_wp2_with fail
  refine (eqIt_same _ o).mono ?_
  rintro e w6 ⟨rfl, hb6⟩
  have S9 : Hid (Since w.heap.size w w6) := S8.out.step hb6
  have U6 : Hid (Since w4.heap.size w4 w6) := U5.out.step hb6
  clear hb6 a0 a1 a2 a3 lt5 HO5 U5
  go_wp2_with fail
  refine (toIts_any _ _ l (HRD.out _ S9.out) LB.out).mono ?_
  rintro e w7 ⟨v7, rfl, ho7, hb7⟩
  obtain ⟨x7, y7, rfl⟩ := ho7.shape
  have S10 : Hid (Since w.heap.size w w7) := S9.out.step hb7
  have R7 : Hid (ReadsIt w7 (.slice x7 l.length y7) l) := ho7.reads
  have U7 : Hid (Since w4.heap.size w4 w7) := U6.out.step hb7
  clear ho7 hb7
  go_wp2_with fail
  refine (eqIts_same _ _ _ l (R4.out _ U7.out) R7.out LB.out).mono ?_
  rintro e w8 ⟨rfl, hb8⟩
  have S11 : Hid (Since w.heap.size w w8) := S10.out.step hb8
  clear hb8
  go_wp2
  go_ret
  exact ⟨rfl, S11.out.1⟩

set_option maxRecDepth 100000 in
theorem contract (H : Type) (enc : TypeId × Value → H) (W : World) (base : Nat) (args : Array Value) (ds gs : List (DataW H)) (before : List MemPlace)
    (hval : ∀ (j : Nat) t v, Try.f5.params[j]? = some t → args[j]? = some v → Value.okWide Try.prog W .any base t v)
    (hW : DataW.Whole enc Try.prog Try.f5.params.toList Rows.fnExactNewestOfSpec.vars false W args.toList ds gs before) :
    Calls Try.prog 5 args W fun e W' => ∃ v, e = .returned v ∧ Rows.fnExactNewestOfSpec.post enc Try.prog Try.f5 false true false false W args v W' := by
  have hW' := hW
  obtain ⟨p, q, hA0, hV0, rfl, hfz, hnd⟩ := hW
  have hA : DataW.TrodAll enc Try.prog W 0 (fun _ => true) true Try.f5.params.toList args.toList ds p := hA0
  rw [Try.params5] at hA hval
  obtain ⟨v0, vs0, d0, ds0, p0, q0, hargs, rfl, rfl, h0, r0⟩ := trodAll_cons hA
  obtain ⟨rfl, rfl, rfl⟩ := trodAll_nil r0
  obtain rfl : args = #[v0] := by cases args; simp_all
  obtain ⟨rfl, rfl⟩ := trodVars_none hV0
  obtain ⟨a0, len0, cap0, rfl⟩ := okWide_slice Try.underlying34 (hval 0 34 v0 rfl rfl)
  have k0 := h0
  have lt0 : ∀ x ∈ p0, x.block < W.heap.size := by obtain ⟨m, hm⟩ := k0; exact DataW.trod_lt m _ _ _ hm
  obtain ⟨ps0, hr0, hz0, ht0⟩ := Its_of k0
  clear hA0 hV0
  refine (walk _ ps0 W hr0 hz0 ht0).mono fun e W' ⟨he, bel⟩ => ?_
  subst he
  exact ⟨_, rfl, _, _, _, [], _, [], hW', trodAll_mk1 (shut_bool Try.underlying4 _), (trodAll_cons_mk (Below.trod laidOut (by kernel_rfl) (of_decide_eq_true (by kernel_rfl)) k0 bel lt0) trodAll_mk0), rfl, bel.frame _, fun h => by cases h⟩

set_option maxRecDepth 100000 in
theorem lifted (os : Os) (started : os.Started) (H : Type) (enc : TypeId × Value → H) :
    ReturnsInHanded {} Try.checked os 5 .any (Rows.fnExactNewestOfSpec.pre6 enc Try.prog Try.f5 Rows.fnExactNewestOfRow.domain false) (Rows.fnExactNewestOfSpec.post enc Try.prog Try.f5 false true false false) := by
  refine returnsInHanded_of_change (C := Try.checked) own started (by kernel_rfl) Try.func5
    (ChangeSpec.witness6 (enc := enc) (C := Try.checked) false ⟨#[], #[.slice none 0 0], []⟩ 8 (by kernel_rfl) (by kernel_rfl) (by kernel_rfl) (by kernel_rfl)) ?_
  intro W base args ds gs before hval hW _ _
  exact contract H enc W base args ds gs before hval hW

/-- The statement. -/
theorem said : Rows.FnExactNewestOfSaid :=
  OpenClaim.holds_of_wide 5 Try.f5 rfl rfl rfl rfl rfl rfl rfl ⟨rfl, rfl, rfl, rfl, rfl⟩ rfl rfl rfl rfl rfl (by kernel_rfl) Try.func5 (by kernel_rfl)
    (of_decide_eq_true (by kernel_rfl)) (by unfold Func.isWrapper; first | (rw [if_pos (by decide +kernel)]; kernel_rfl) | (rw [if_neg (by decide +kernel)]; exact ⟨rfl, rfl⟩))
    (fun os started H enc _ => lifted os started H enc)
#print axioms said
end Go.Proofs.Ythdcfeafkellcaw.fnExactNewestOf
