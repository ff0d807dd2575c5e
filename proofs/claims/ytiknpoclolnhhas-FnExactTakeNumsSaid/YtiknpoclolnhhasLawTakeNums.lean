/-
  Proved: for every text, 'TakeNums' of the program at commit b03764082bd1 answers as the model's 'TakeNums', the numbers and the bool; its answer is memory of its own (numbers that are written into it stay there behind another call); and the text reads afterwards as before. No condition.
-/
import Derived.Test.YtiknpoclolnhhasPlain
import Derived.Test.YtiknpoclolnhhasTake
import Derived.Test.YtiknpoclolnhhasEqInts
namespace Go.Proofs.Ytiknpoclolnhhas.fnExactTakeNums
open Go.ChangeShapes Go.WideShapes Go.ChangeAt Go.RowKit
open Go.ChangeMaps (open_string shut_string)
set_option linter.unusedVariables false

theorem specTake_yes (s : ByteArray) (W : World) (h : takeB s = true) :
    Calls Try.prog 21 #[.string s] W fun e W' => ∃ v, e = .returned (.tuple #[v, .bool true]) ∧ Own W' W.heap.size v (numsTo s (s.size / 2)) ∧ Below W.heap.size W W' := by
  obtain ⟨h40, hev⟩ := of_decide_eq_true h
  have d1 : decide ((40 : Int) < (s.size : Int)) = false := by simp; omega
  have d2 : ((s.size : Int) % 2 != 0) = false := by simp; omega
  clear h hev
  go_enter Try.func21, Try.ntmps21
  go_wp2_with fail
  refine (l2Take_any s _ (by omega)).mono ?_
  rintro e w1 ⟨v, rfl, hown, hb⟩
  have HO : Hid (Own w1 W.heap.size v (numsTo s (s.size / 2))) := hown
  have HB : Hid (Below W.heap.size W w1) := hb
  clear hown hb
  go_wp2
  go_ret2
  exact ⟨_, rfl, HO.out, HB.out⟩

theorem specTake_no (s : ByteArray) (W : World) (hm : s.size ≤ maxLen) (h : takeB s = false) :
    Calls Try.prog 21 #[.string s] W fun e W' => e = .returned (.tuple #[.slice none 0 0, .bool false]) ∧ W' = W := by
  unfold maxLen at hm
  have h' := of_decide_eq_false h
  clear h
  by_cases h40 : 40 < s.size
  · have d1 : decide ((40 : Int) < (s.size : Int)) = true := by simp; omega
    clear h'
    go_enter Try.func21, Try.ntmps21
    go_wp2
    go_ret2
    exact ⟨rfl, rfl⟩
  · have d1 : decide ((40 : Int) < (s.size : Int)) = false := by simp; omega
    have d2 : ((s.size : Int) % 2 != 0) = true := by simp; omega
    clear h'
    go_enter Try.func21, Try.ntmps21
    go_wp2
    go_ret2
    exact ⟨rfl, rfl⟩

set_option maxHeartbeats 2000000 in
theorem walk (s : ByteArray) (w : World) (hm : s.size ≤ maxLen) :
    Calls Try.prog 6 #[.string s] w fun e w' => e = .returned (.bool true) ∧ Below w.heap.size w w' := by
  by_cases h1 : 1048576 < s.size
  · unfold maxLen at hm
    have h1' : (1048576 : Int) < (s.size : Int) := by omega
    go_enter Try.func6, Try.ntmps6
    go_wp2
    go_ret
    exact ⟨rfl, Below.refl _ _⟩
  · cases hB : takeB s with
    | true =>
      have H : Hid (takeB s = true) := hB
      have h40 : s.size ≤ 40 := (of_decide_eq_true hB).1
      obtain ⟨zs, hzs⟩ : ∃ zs, zs = numsTo s (s.size / 2) := ⟨_, rfl⟩
      have hzl : zs.length ≤ 20 := by rw [hzs, numsTo_len]; omega
      have HZS : Hid (zs = numsTo s (s.size / 2)) := hzs
      clear hB hm h1 hzs
      go_enter Try.func6, Try.ntmps6
      go_wp2_with fail
      refine (specTake_yes s _ H.out).mono ?_
      rintro e w1 ⟨v1, rfl, ho1, hb1⟩
      rw [← HZS.out] at ho1
      have HO1 : Hid (Own w1 w.heap.size v1 zs) := ho1
      have HS1 : Hid (Since w.heap.size w w1) := (Since.start w).step hb1
      clear hb1 ho1
      go_wp2_with fail
      refine (implTake_yes s _ H.out).mono ?_
      rintro e w2 ⟨v2, rfl, ho2, hb2⟩
      rw [← HZS.out] at ho2
      have HO2 : Hid (Own w2 w1.heap.size v2 zs) := ho2
      have HO12 : Hid (Own w2 w.heap.size v1 zs) := HO1.out.below hb2
      have HS2 : Hid (Since w.heap.size w w2) := HS1.out.step hb2
      clear hb2 ho2
      go_wp2_with fail
      refine (eqInts_same _ v2 v1 zs HO2.out.reads HO12.out.reads (by omega)).mono ?_
      rintro e w3 ⟨rfl, n3, rfl⟩
      go_wp2_with fail
      refine (markInts_any (w2.drewN n3) w1.heap.size v2 1 zs HO2.out (by omega) (by omega) (by omega)).mono ?_
      rintro e w4 ⟨rfl, ho4, hz4, hg4⟩
      have HO4 : Hid (Own w4 w1.heap.size v2 (marks 1 zs.length)) := ho4
      have HO14 : Hid (Own w4 w.heap.size v1 zs) := by
        refine World.ownsRow.kept (w := w2.drewN n3) HO12.out hg4 ?_
        rcases hv : v1.ownBlock with _ | k
        · exact .inl rfl
        · refine .inr fun e => ?_
          have a1 := World.ownsRow.lt HO1.out k hv
          have a2 := World.ownsRow.lt HO2.out k e.symm
          omega
      have HS4 : Hid (Since w.heap.size w w4) := by
        have s2 := HS2.out
        refine ⟨s2.1.trans ((below_drewN (Below.refl _ w2) n3).grown hg4 s2.2 fun k hk => ?_), by rw [hz4]; exact s2.2⟩
        have a2 := World.ownsRow.lt HO2.out k hk
        have := HS1.out.2
        omega
      clear ho4 hz4 hg4
      go_wp2_with fail
      refine (heldInts_yes w4 v2 1 zs.length HO4.out.reads (by omega) (by omega) (by omega)).mono ?_
      rintro e w5 ⟨rfl, rfl⟩
      go_wp2_with fail
      refine (implTake_yes s _ H.out).mono ?_
      rintro e w6 ⟨v6, rfl, ho6, hb6⟩
      rw [← HZS.out] at ho6
      have HO6 : Hid (Own w6 w5.heap.size v6 zs) := ho6
      have HO16 : Hid (Own w6 w.heap.size v1 zs) := HO14.out.below hb6
      have HO26 : Hid (Own w6 w1.heap.size v2 (marks 1 zs.length)) := HO4.out.below hb6
      have HS6 : Hid (Since w.heap.size w w6) := HS4.out.step hb6
      clear hb6 ho6
      go_wp2_with fail
      refine (eqInts_same _ v6 v1 zs HO6.out.reads HO16.out.reads (by omega)).mono ?_
      rintro e w7 ⟨rfl, n7, rfl⟩
      go_wp2_with fail
      refine (heldInts_yes (w6.drewN n7) v2 1 zs.length HO26.out.reads (by omega) (by omega) (by omega)).mono ?_
      rintro e w8 ⟨rfl, rfl⟩
      go_wp2
      go_ret
      exact ⟨rfl, (HS6.out.drewN n7).1⟩
    | false =>
      have H : Hid (takeB s = false) := hB
      have HM : Hid (s.size ≤ maxLen) := hm
      clear hB hm
      go_enter Try.func6, Try.ntmps6
      go_wp2_with fail
      refine (specTake_no s _ HM.out H.out).mono ?_
      rintro e w1 ⟨rfl, rfl⟩
      go_wp2_with fail
      refine (implTake_no s _ HM.out H.out).mono ?_
      rintro e w2 ⟨rfl, rfl⟩
      go_wp2_with fail
      refine (eqInts_same _ _ _ [] (Own.nil _ 0).reads (Own.nil _ 0).reads (by simp)).mono ?_
      rintro e w3 ⟨rfl, n3, rfl⟩
      go_wp2_with fail
      refine (markInts_any _ 0 _ 1 [] (Own.nil _ 0) (by simp) (by omega) (by omega)).mono ?_
      rintro e w4 ⟨rfl, ho4, hz4, hg4⟩
      have HB4 : Hid (Below w2.heap.size w2 w4) := (below_drewN (Below.refl _ w2) n3).grown hg4 (Nat.le_refl _) (fun k hk => by cases hk)
      clear ho4 hz4 hg4
      go_wp2_with fail
      refine (heldInts_yes w4 _ 1 0 (Own.nil _ 0).reads (by omega) (by omega) (by omega)).mono ?_
      rintro e w5 ⟨rfl, rfl⟩
      go_wp2_with fail
      refine (implTake_no s _ HM.out H.out).mono ?_
      rintro e w6 ⟨rfl, rfl⟩
      go_wp2_with fail
      refine (eqInts_same _ _ _ [] (Own.nil _ 0).reads (Own.nil _ 0).reads (by simp)).mono ?_
      rintro e w7 ⟨rfl, n7, rfl⟩
      go_wp2_with fail
      refine (heldInts_yes _ _ 1 0 (Own.nil _ 0).reads (by omega) (by omega) (by omega)).mono ?_
      rintro e w8 ⟨rfl, rfl⟩
      go_wp2
      go_ret
      exact ⟨rfl, below_drewN HB4.out n7⟩

theorem contract (H : Type) (enc : TypeId × Value → H) (W : World) (base : Nat) (args : Array Value) (ds gs : List (DataW H)) (before : List MemPlace)
    (hval : ∀ (j : Nat) t v, Try.f6.params[j]? = some t → args[j]? = some v → Value.okWide Try.prog W .any base t v)
    (hW : DataW.Whole enc Try.prog Try.f6.params.toList Rows.fnExactTakeNumsSpec.vars false W args.toList ds gs before) :
    Calls Try.prog 6 args W fun e W' => ∃ v, e = .returned v ∧ Rows.fnExactTakeNumsSpec.post enc Try.prog Try.f6 false true false false W args v W' := by
  have hW' := hW
  obtain ⟨p, q, hA0, hV0, rfl, hfz, hnd⟩ := hW
  have hA : DataW.TrodAll enc Try.prog W 0 (fun _ => true) true Try.f6.params.toList args.toList ds p := hA0
  rw [Try.params6] at hA hval
  obtain ⟨v0, vs0, d0, ds0, p0, q0, hargs, rfl, rfl, h0, r0⟩ := trodAll_cons hA
  obtain ⟨rfl, rfl, rfl⟩ := trodAll_nil r0
  obtain rfl : args = #[v0] := by cases args; simp_all
  obtain ⟨rfl, rfl⟩ := trodVars_none hV0
  obtain ⟨a0, rfl, rfl, rfl, w0⟩ := open_string Try.underlying9 (hval 0 9 v0 rfl rfl) h0
  clear hA0 hV0
  refine (walk a0 W w0).mono fun e W' ⟨he, bel⟩ => ?_
  subst he
  exact ⟨_, rfl, _, _, _, [], [], [], hW', trodAll_mk1 (shut_bool Try.underlying4 _), (trodAll_cons_mk (shut_string Try.underlying9 w0) trodAll_mk0), rfl, bel.frame _, fun h => by cases h⟩

set_option maxRecDepth 100000 in
theorem lifted (os : Os) (started : os.Started) (H : Type) (enc : TypeId × Value → H) :
    ReturnsInHanded {} Try.checked os 6 .any (Rows.fnExactTakeNumsSpec.pre6 enc Try.prog Try.f6 Rows.fnExactTakeNumsRow.domain false) (Rows.fnExactTakeNumsSpec.post enc Try.prog Try.f6 false true false false) := by
  refine returnsInHanded_of_change (C := Try.checked) own started (by kernel_rfl) Try.func6
    (ChangeSpec.witness6 (enc := enc) (C := Try.checked) false ⟨#[], #[.string ByteArray.empty], []⟩ 8 (by kernel_rfl) (by kernel_rfl) (by kernel_rfl) (by kernel_rfl)) ?_
  intro W base args ds gs before hval hW _ _
  exact contract H enc W base args ds gs before hval hW

/-- The statement. -/
theorem said : Rows.FnExactTakeNumsSaid :=
  OpenClaim.holds_of_wide 6 Try.f6 rfl rfl rfl rfl rfl rfl rfl ⟨rfl, rfl, rfl, rfl, rfl⟩ rfl rfl rfl rfl rfl (by kernel_rfl) Try.func6 (by kernel_rfl)
    (of_decide_eq_true (by kernel_rfl)) (by unfold Func.isWrapper; first | (rw [if_pos (by decide +kernel)]; kernel_rfl) | (rw [if_neg (by decide +kernel)]; exact ⟨rfl, rfl⟩))
    (fun os started H enc _ => lifted os started H enc)
#print axioms said
end Go.Proofs.Ytiknpoclolnhhas.fnExactTakeNums
