/-
  Proved: for every number of spots, every list of edges and every number 'TreesFor' of the program at commit 50a8e01d44cabb492beff5f4ebbc26caed7ec092 answers as the model's 'TreesFor', the list, every number of every list of it, and the bool; it writes into no argument (the list that it was handed reads as before), keeps nothing of it (marks that are written into it change no answer), and its answer is memory of its own (marks that are written into it stay there behind another call). No condition.
-/
import Derived.Test.YthlbmkefjjckaagPlain
import Derived.Test.YthlbmkefjjckaagTrTf
import Derived.Test.YthlbmkefjjckaagTrMarkS
import Derived.Test.YthlbmkefjjckaagRowOfEd
import Derived.Test.YthlbmkefjjckaagRowLawEd
import Derived.Test.YthlbmkefjjckaagRowLaw0
namespace Go.Proofs.Ythlbmkefjjckaag.fnExactTreesFor
open Go.ChangeShapes Go.WideShapes Go.ChangeAt Go.RowKit
open Go.ChangeMaps (open_string shut_string)
set_option linter.unusedVariables false

set_option maxRecDepth 100000 in
set_option maxHeartbeats 8000000 in
theorem walk (n : Int) (v1 : Value) (l : List EdD) (rt : Int) (w : World) (wf_n : (Lit.int .i64 n).wf = true) (h1 : ReadsEd w v1 l) (hl1 : l.length ≤ maxLen) (wf_rt : (Lit.int .i64 rt).wf = true) :
    Calls Try.prog 8 #[.int .i64 n, v1, .int .i64 rt] w fun e w' => e = .returned (.bool true) ∧ Below w.heap.size w w' := by
  have HRD1 : Hid (∀ W1, Since w.heap.size w W1 → ReadsEd W1 v1 l) := fun W1 hb => h1.below hb.1
  have HL1 : Hid (l.length ≤ maxLen) := hl1
  obtain ⟨a1, c1, rfl⟩ := h1.shape
  have S1 : Hid (Since w.heap.size w w) := Since.start w
  obtain ⟨tree, htree⟩ : ∃ tree, tree = tfOut n l rt := ⟨_, rfl⟩
  obtain ⟨ok, hok⟩ : ∃ ok, ok = tfOk n l rt := ⟨_, rfl⟩
  have OL0 : Hid (tree.length ≤ 4194304 ∧ (∀ j (hj : j < tree.length), tree[j].length ≤ 1048576) ∧ ∀ k, k ≤ tree.length → sumL tree k ≤ 2097152) := by show _ ∧ _; rw [htree]; exact tfOut_len n l rt
  clear h1 hl1 wf_n wf_rt
  go_enter Try.func8, Try.ntmps8
  go_wp2_with fail
  refine (szEds_any _ _ l (1048576) (HRD1.out _ S1.out) HL1.out (by omega) (by omega)).mono ?_
  rintro e wz0 ⟨rfl, hwz0⟩
  obtain rfl : w = wz0 := hwz0.symm
  rcases Int.lt_or_le (1048576) (l.length : Int) with hle0 | hle0
  · rw [if_neg (by omega)]
    go_wp2
    go_ret
    exact ⟨rfl, S1.out.1⟩
  rw [if_pos hle0]
  obtain ⟨lf1, hlf1⟩ : ∃ z : Int, z = 1048576 - (l.length : Int) := ⟨_, rfl⟩
  rw [← hlf1]
  have hnn0 : ¬ (lf1 < 0) := by omega
  have hlo0 : 0 ≤ lf1 := by omega
  have hhi0 : lf1 ≤ 1048576 := by omega
  have LL1 : Hid (l.length ≤ 1048576) := by show _ ≤ _; omega
  have LB1 : Hid (l.length ≤ 4194304) := by show _ ≤ _; omega
  clear hlf1 hle0
  clear hlo0 hhi0
  have CS : Hid (∀ (W : World) (B : Nat) (z1 : Value), OwnEd W B z1 l → Calls Try.prog 30 #[.int .i64 n, z1, .int .i64 rt] W fun e W' => ∃ u0, e = .returned (.tuple #[u0, .bool ok]) ∧ (∃ vs, OwnSS W' W.heap.size u0 vs tree) ∧ Below W.heap.size W W') := fun W B z1 ho1 => by
    have := specTreesFor_any W z1 n l rt ho1.reads (Nat.le_trans LL1.out (by decide))
    rw [← htree, ← hok] at this
    exact this
  have CI : Hid (∀ (W : World) (B : Nat) (z1 : Value), OwnEd W B z1 l → Calls Try.prog 31 #[.int .i64 n, z1, .int .i64 rt] W fun e W' => ∃ u0, e = .returned (.tuple #[u0, .bool ok]) ∧ (∃ vs, OwnSS W' W.heap.size u0 vs tree) ∧ Below W.heap.size W W') := fun W B z1 ho1 => by
    have := implTreesFor_any W z1 n l rt ho1.reads (Nat.le_trans LL1.out (by decide))
    rw [← htree, ← hok] at this
    exact this
  clear htree hok
  obtain ⟨k1, hk1⟩ : ∃ z : Nat, z = 1 + 3 * l.length := ⟨_, rfl⟩
  have MX1 : Hid (∀ (W : World) (B : Nat) (z : Value), OwnEd W B z l → Calls Try.prog 28 #[z, .int .i64 ((1 : Nat) : Int)] W fun e W' => e = .returned (.int .i64 ((k1 : Nat) : Int)) ∧ W.grownBy W' z.ownBlock) := fun W B z ho => by
    rw [hk1]
    exact (markEds_any W B z 1 l ho LB1.out (by have := LL1.out; omega)).mono fun e w' hh => ⟨hh.1, hh.2.2.2⟩
  have hkn : ¬ ((k1 : Nat) : Int) < 0 := by omega
  obtain ⟨m0, hm0⟩ : ∃ z : Nat, z = 1 + sumL tree tree.length := ⟨_, rfl⟩
  have MG0 : Hid (∀ (W : World) (B : Nat) (z : Value) (vs : List Value), OwnSS W B z vs tree → Calls Try.prog 33 #[z, .int .i64 ((1 : Nat) : Int)] W fun e W' => e = .returned (.int .i64 ((m0 : Nat) : Int)) ∧ Turned (InSS vs) W W' ∧ OwnSS W' B z vs (markL 1 tree)) := fun W B z vs ho => by
    rw [hm0]
    exact markSSc_any W B z vs tree 1 ho OL0.out.1 OL0.out.2.2 (by decide)
  have HG0 : Hid (∀ (W : World) (B : Nat) (z : Value) (vs : List Value), OwnSS W B z vs (markL 1 tree) → Calls Try.prog 34 #[z, .int .i64 ((1 : Nat) : Int)] W fun e W' => e = .returned (.int .i64 ((m0 : Nat) : Int)) ∧ W' = W) := fun W B z vs ho => by
    rw [hm0]
    exact heldSS_yes W z tree 1 ho.reads OL0.out.1 OL0.out.2.1 OL0.out.2.2 (by decide)
  have LM0 : Hid ((markL 1 tree).length = tree.length) := markL_len tree 1
  have hmn0 : ¬ ((m0 : Nat) : Int) < 0 := by omega
  clear hk1 hm0
  go_wp2_with fail
  refine (toEds_any _ _ l (HRD1.out _ S1.out) LB1.out).mono ?_
  rintro e w2 ⟨v2, rfl, ho2, hb2⟩
  obtain ⟨x2, y2, rfl⟩ := ho2.shape
  have S2 : Hid (Since w.heap.size w w2) := S1.out.step hb2
  have N2 : Hid (OwnEd w2 w.heap.size (.slice x2 l.length y2) l) := ho2
  have B2 : Hid (Below w.heap.size w w2) := hb2
  have FC1_2 : Hid (OwnEd w2 w.heap.size (.slice x2 l.length y2) l) := ho2.mono S1.out.2
  clear ho2 hb2
  go_wp2_with fail
  refine (CS.out _ _ _ FC1_2.out).mono ?_
  rintro e w3 ⟨u3_0, rfl, ⟨vsR, hu3_0⟩, hb3⟩
  obtain ⟨x3_0, y3_0, rfl⟩ := hu3_0.shape
  have S3 : Hid (Since w.heap.size w w3) := S2.out.step hb3
  have FC1_3 : Hid (OwnEd w3 w.heap.size (.slice x2 l.length y2) l) := rowBelow FC1_2.out hb3
  have FR0_3 : Hid (OwnSS w3 w.heap.size (.slice x3_0 tree.length y3_0) vsR tree) := hu3_0.mono S2.out.2
  clear hb3 hu3_0
  go_wp2_with fail
  refine (toEds_any _ _ l (HRD1.out _ S3.out) LB1.out).mono ?_
  rintro e w4 ⟨v4, rfl, ho4, hb4⟩
  obtain ⟨x4, y4, rfl⟩ := ho4.shape
  have S4 : Hid (Since w.heap.size w w4) := S3.out.step hb4
  have N4 : Hid (OwnEd w4 w3.heap.size (.slice x4 l.length y4) l) := ho4
  have B4 : Hid (Below w3.heap.size w3 w4) := hb4
  have FR0_4 : Hid (OwnSS w4 w.heap.size (.slice x3_0 tree.length y3_0) vsR tree) := FR0_3.out.below B4.out
  have RLT : Hid ((∀ b, (Value.slice x3_0 tree.length y3_0).ownBlock = some b → b < w4.heap.size) ∧ ∀ b, InSS vsR b → b < w4.heap.size) := ownSS_lt FR0_4.out
  have FX1_4 : Hid (OwnEd w4 w.heap.size (.slice x4 l.length y4) l) := ho4.mono S3.out.2
  clear ho4 hb4
  go_wp2_with fail
  refine (CI.out _ _ _ FX1_4.out).mono ?_
  rintro e w5 ⟨u5_0, rfl, ⟨vsG, hu5_0⟩, hb5⟩
  obtain ⟨x5_0, y5_0, rfl⟩ := hu5_0.shape
  have S5 : Hid (Since w.heap.size w w5) := S4.out.step hb5
  have FR0_5 : Hid (OwnSS w5 w.heap.size (.slice x3_0 tree.length y3_0) vsR tree) := FR0_4.out.below hb5
  have FX1_5 : Hid (OwnEd w5 w.heap.size (.slice x4 l.length y4) l) := rowBelow FX1_4.out hb5
  have GLT : Hid (∀ b, InSS vsG b → w4.heap.size ≤ b) := fun b hb => (hu5_0.inLt b hb).1
  have FG0_5 : Hid (OwnSS w5 w.heap.size (.slice x5_0 tree.length y5_0) vsG tree) := hu5_0.mono S4.out.2
  clear hb5 hu5_0
  go_wp2_with fail
  refine (eqSS_same _ _ _ tree FG0_5.out.reads FR0_5.out.reads OL0.out.1 (fun j hj => Nat.le_trans (OL0.out.2.1 j hj) (by decide))).mono ?_
  rintro e w6 ⟨rfl, hb6⟩
  have S6 : Hid (Since w.heap.size w w6) := S5.out.step hb6
  have FR0_6 : Hid (OwnSS w6 w.heap.size (.slice x3_0 tree.length y3_0) vsR tree) := FR0_5.out.below hb6
  have FX1_6 : Hid (OwnEd w6 w.heap.size (.slice x4 l.length y4) l) := rowBelow FX1_5.out hb6
  have FG0_6 : Hid (OwnSS w6 w.heap.size (.slice x5_0 tree.length y5_0) vsG tree) := FG0_5.out.below hb6
  clear hb6
  go_wp2_with fail
  refine (toEds_any _ _ l (HRD1.out _ S6.out) LB1.out).mono ?_
  rintro e w7 ⟨v7, rfl, ho7, hb7⟩
  obtain ⟨x7, y7, rfl⟩ := ho7.shape
  have S7 : Hid (Since w.heap.size w w7) := S6.out.step hb7
  have N7 : Hid (OwnEd w7 w6.heap.size (.slice x7 l.length y7) l) := ho7
  have B7 : Hid (Below w6.heap.size w6 w7) := hb7
  have FR0_7 : Hid (OwnSS w7 w.heap.size (.slice x3_0 tree.length y3_0) vsR tree) := FR0_6.out.below B7.out
  have FX1_7 : Hid (OwnEd w7 w.heap.size (.slice x4 l.length y4) l) := rowBelow FX1_6.out B7.out
  have FG0_7 : Hid (OwnSS w7 w.heap.size (.slice x5_0 tree.length y5_0) vsG tree) := FG0_6.out.below B7.out
  have FC_7 : Hid (OwnEd w7 w.heap.size (.slice x7 l.length y7) l) := ho7.mono S6.out.2
  clear ho7 hb7
  go_wp2_with fail
  refine (eqEds_same _ _ _ l FX1_7.out.reads FC_7.out.reads LB1.out).mono ?_
  rintro e w8 ⟨rfl, hb8⟩
  have S8 : Hid (Since w.heap.size w w8) := S7.out.step hb8
  have FR0_8 : Hid (OwnSS w8 w.heap.size (.slice x3_0 tree.length y3_0) vsR tree) := FR0_7.out.below hb8
  have FX1_8 : Hid (OwnEd w8 w.heap.size (.slice x4 l.length y4) l) := rowBelow FX1_7.out hb8
  have FG0_8 : Hid (OwnSS w8 w.heap.size (.slice x5_0 tree.length y5_0) vsG tree) := FG0_7.out.below hb8
  have FC_8 : Hid (OwnEd w8 w.heap.size (.slice x7 l.length y7) l) := rowBelow FC_7.out hb8
  clear hb8
  go_wp2_with fail
  refine (MX1.out _ _ _ FX1_8.out).mono ?_
  rintro e w9 ⟨rfl, hg9⟩
  have S9 : Hid (Since w.heap.size w w9) := S8.out.grown hg9 (fun k hk => (World.ownsRow.lt FX1_8.out k hk).1)
  have FR0_9 : Hid (OwnSS w9 w.heap.size (.slice x3_0 tree.length y3_0) vsR tree) := ownSS_grow FR0_8.out FX1_8.out (by decide) (by decide) hg9
  have FG0_9 : Hid (OwnSS w9 w.heap.size (.slice x5_0 tree.length y5_0) vsG tree) := ownSS_grow FG0_8.out FX1_8.out (by decide) (by decide) hg9
  clear hg9
  go_wp2_with fail
  refine (eqSS_same _ _ _ tree FG0_9.out.reads FR0_9.out.reads OL0.out.1 (fun j hj => Nat.le_trans (OL0.out.2.1 j hj) (by decide))).mono ?_
  rintro e w10 ⟨rfl, hb10⟩
  have S10 : Hid (Since w.heap.size w w10) := S9.out.step hb10
  have FR0_10 : Hid (OwnSS w10 w.heap.size (.slice x3_0 tree.length y3_0) vsR tree) := FR0_9.out.below hb10
  have FG0_10 : Hid (OwnSS w10 w.heap.size (.slice x5_0 tree.length y5_0) vsG tree) := FG0_9.out.below hb10
  clear hb10
  go_wp2_with fail
  refine (MG0.out _ _ _ vsG FG0_10.out).mono ?_
  rintro e w11 ⟨rfl, ht11, hm11⟩
  have S11 : Hid (Since w.heap.size w w11) := S10.out.turned ht11 (fun k hk => (FG0_10.out.inLt k hk).1)
  have FR0_11 : Hid (OwnSS w11 w.heap.size (.slice x3_0 tree.length y3_0) vsR tree) := ownSS_turned FR0_10.out ht11 (fun b hb hp => by have := RLT.out.1 b hb; have := GLT.out b hp; omega) (fun b hb hp => by have := RLT.out.2 b hb; have := GLT.out b hp; omega)
  have FG0_11 : Hid (OwnSS w11 w.heap.size (.slice x5_0 tree.length y5_0) vsG (markL 1 tree)) := hm11
  clear hm11 ht11
  go_wp2_with fail
  refine (HG0.out _ _ _ vsG FG0_11.out).mono ?_
  rintro e q1 ⟨rfl, hq1⟩
  obtain rfl : w11 = q1 := hq1.symm
  go_wp2_with fail
  refine (toEds_any _ _ l (HRD1.out _ S11.out) LB1.out).mono ?_
  rintro e w12 ⟨v12, rfl, ho12, hb12⟩
  obtain ⟨x12, y12, rfl⟩ := ho12.shape
  have S12 : Hid (Since w.heap.size w w12) := S11.out.step hb12
  have N12 : Hid (OwnEd w12 w11.heap.size (.slice x12 l.length y12) l) := ho12
  have B12 : Hid (Below w11.heap.size w11 w12) := hb12
  have FR0_12 : Hid (OwnSS w12 w.heap.size (.slice x3_0 tree.length y3_0) vsR tree) := FR0_11.out.below B12.out
  have FG0_12 : Hid (OwnSS w12 w.heap.size (.slice x5_0 tree.length y5_0) vsG (markL 1 tree)) := FG0_11.out.below B12.out
  have FD1_12 : Hid (OwnEd w12 w.heap.size (.slice x12 l.length y12) l) := ho12.mono S11.out.2
  clear ho12 hb12
  go_wp2_with fail
  refine (CI.out _ _ _ FD1_12.out).mono ?_
  rintro e w13 ⟨u13_0, rfl, ⟨vsH, hu13_0⟩, hb13⟩
  obtain ⟨x13_0, y13_0, rfl⟩ := hu13_0.shape
  have S13 : Hid (Since w.heap.size w w13) := S12.out.step hb13
  have FR0_13 : Hid (OwnSS w13 w.heap.size (.slice x3_0 tree.length y3_0) vsR tree) := FR0_12.out.below hb13
  have FG0_13 : Hid (OwnSS w13 w.heap.size (.slice x5_0 tree.length y5_0) vsG (markL 1 tree)) := FG0_12.out.below hb13
  have FD1_13 : Hid (OwnEd w13 w.heap.size (.slice x12 l.length y12) l) := rowBelow FD1_12.out hb13
  have FH0_13 : Hid (OwnSS w13 w.heap.size (.slice x13_0 tree.length y13_0) vsH tree) := hu13_0.mono S12.out.2
  clear hb13 hu13_0
  go_wp2_with fail
  refine (eqSS_same _ _ _ tree FH0_13.out.reads FR0_13.out.reads OL0.out.1 (fun j hj => Nat.le_trans (OL0.out.2.1 j hj) (by decide))).mono ?_
  rintro e w14 ⟨rfl, hb14⟩
  have S14 : Hid (Since w.heap.size w w14) := S13.out.step hb14
  have FR0_14 : Hid (OwnSS w14 w.heap.size (.slice x3_0 tree.length y3_0) vsR tree) := FR0_13.out.below hb14
  have FG0_14 : Hid (OwnSS w14 w.heap.size (.slice x5_0 tree.length y5_0) vsG (markL 1 tree)) := FG0_13.out.below hb14
  have FH0_14 : Hid (OwnSS w14 w.heap.size (.slice x13_0 tree.length y13_0) vsH tree) := FH0_13.out.below hb14
  clear hb14
  go_wp2_with fail
  refine (HG0.out _ _ _ vsG FG0_14.out).mono ?_
  rintro e q2 ⟨rfl, hq2⟩
  obtain rfl : w14 = q2 := hq2.symm
  go_wp2
  go_ret
  exact ⟨rfl, S14.out.1⟩

set_option maxRecDepth 100000 in
theorem contract (H : Type) (enc : TypeId × Value → H) (W : World) (base : Nat) (args : Array Value) (ds gs : List (DataW H)) (before : List MemPlace)
    (hval : ∀ (j : Nat) t v, Try.f8.params[j]? = some t → args[j]? = some v → Value.okWide Try.prog W .any base t v)
    (hW : DataW.Whole enc Try.prog Try.f8.params.toList Rows.fnExactTreesForSpec.vars false W args.toList ds gs before) :
    Calls Try.prog 8 args W fun e W' => ∃ v, e = .returned v ∧ Rows.fnExactTreesForSpec.post enc Try.prog Try.f8 false true false false W args v W' := by
  have hW' := hW
  obtain ⟨p, q, hA0, hV0, rfl, hfz, hnd⟩ := hW
  have hA : DataW.TrodAll enc Try.prog W 0 (fun _ => true) true Try.f8.params.toList args.toList ds p := hA0
  rw [Try.params8] at hA hval
  obtain ⟨v0, vs0, d0, ds0, p0, q0, hargs, rfl, rfl, h0, r0⟩ := trodAll_cons hA
  obtain ⟨v1, vs1, d1, ds1, p1, q1, rfl, rfl, rfl, h1, r1⟩ := trodAll_cons r0
  obtain ⟨v2, vs2, d2, ds2, p2, q2, rfl, rfl, rfl, h2, r2⟩ := trodAll_cons r1
  obtain ⟨rfl, rfl, rfl⟩ := trodAll_nil r2
  obtain rfl : args = #[v0, v1, v2] := by cases args; simp_all
  obtain ⟨rfl, rfl⟩ := trodVars_none hV0
  obtain ⟨a0, rfl, rfl, rfl, w0⟩ := open_int Try.underlying3 (hval 0 3 v0 rfl rfl) h0
  obtain ⟨a1, len1, cap1, rfl⟩ := okWide_slice Try.underlying36 (hval 1 36 v1 rfl rfl)
  have k1 := h1
  have lt1 : ∀ x ∈ p1, x.block < W.heap.size := by obtain ⟨m, hm⟩ := k1; exact DataW.trod_lt m _ _ _ hm
  obtain ⟨ps1, hr1, hz1⟩ := Eds_of k1
  obtain ⟨a2, rfl, rfl, rfl, w2⟩ := open_int Try.underlying3 (hval 2 3 v2 rfl rfl) h2
  clear hA0 hV0
  refine (walk a0 _ ps1 a2 W w0 hr1 hz1 w2).mono fun e W' ⟨he, bel⟩ => ?_
  subst he
  exact ⟨_, rfl, _, _, _, [], _, [], hW', trodAll_mk1 (shut_bool Try.underlying4 _), (trodAll_cons_mk (shut_int Try.underlying3 w0) (trodAll_cons_mk (Below.trod laidOut (by kernel_rfl) (of_decide_eq_true (by kernel_rfl)) k1 bel lt1) (trodAll_cons_mk (shut_int Try.underlying3 w2) trodAll_mk0))), rfl, bel.frame _, fun h => by cases h⟩

set_option maxRecDepth 100000 in
theorem lifted (os : Os) (started : os.Started) (H : Type) (enc : TypeId × Value → H) :
    ReturnsInHanded {} Try.checked os 8 .any (Rows.fnExactTreesForSpec.pre6 enc Try.prog Try.f8 Rows.fnExactTreesForRow.domain false) (Rows.fnExactTreesForSpec.post enc Try.prog Try.f8 false true false false) := by
  refine returnsInHanded_of_change (C := Try.checked) own started (by kernel_rfl) Try.func8
    (ChangeSpec.witness6 (enc := enc) (C := Try.checked) false ⟨#[], #[.int .i64 0, .slice none 0 0, .int .i64 0], []⟩ 8 (by kernel_rfl) (by kernel_rfl) (by kernel_rfl) (by kernel_rfl)) ?_
  intro W base args ds gs before hval hW _ _
  exact contract H enc W base args ds gs before hval hW

/-- The statement. -/
theorem said : Rows.FnExactTreesForSaid :=
  OpenClaim.holds_of_wide 8 Try.f8 rfl rfl rfl rfl rfl rfl rfl ⟨rfl, rfl, rfl, rfl, rfl⟩ rfl rfl rfl rfl rfl (by kernel_rfl) Try.func8 (by kernel_rfl)
    (of_decide_eq_true (by kernel_rfl)) (by unfold Func.isWrapper; first | (rw [if_pos (by decide +kernel)]; kernel_rfl) | (rw [if_neg (by decide +kernel)]; exact ⟨rfl, rfl⟩))
    (fun os started H enc _ => lifted os started H enc)
#print axioms said
end Go.Proofs.Ythlbmkefjjckaag.fnExactTreesFor
