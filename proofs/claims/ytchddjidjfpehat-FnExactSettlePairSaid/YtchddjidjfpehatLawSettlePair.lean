/-
  Proved: for every pair, 'SettlePair' of the program at commit d9a1fbfadef7 answers as the model's 'SettlePair', every field and the bool; it writes into no argument (the pair that it was handed reads as before), keeps nothing of it, and its answer is memory of its own (marks that are written into its lists stay there behind another call). No condition.
-/
import Derived.Test.YtchddjidjfpehatPlain
import Derived.Test.YtchddjidjfpehatSettleW
import Derived.Test.YtchddjidjfpehatPairVar
import Derived.Test.YtchddjidjfpehatPairOf
namespace Go.Proofs.Ytchddjidjfpehat.fnExactSettlePair
open Go.ChangeShapes Go.WideShapes Go.ChangeAt Go.RowKit
open Go.ChangeMaps (open_string shut_string)
set_option linter.unusedVariables false

set_option maxRecDepth 100000 in
set_option maxHeartbeats 8000000 in
theorem walk (x y z : Value) (p : PR) (w : World) (h : Reads3 w x y z p) (h1 : p.st.length ≤ maxLen) (h2 : p.lf.length ≤ maxLen) (h3 : p.ln.length ≤ maxLen) :
    Calls Try.prog 8 #[.agg #[x, y, z]] w fun e w' => e = .returned (.bool true) ∧ Below w.heap.size w w' := by
  obtain ⟨a1, c1, rfl⟩ := h.st.shape
  obtain ⟨a2, c2, rfl⟩ := h.lf.shape
  obtain ⟨a3, c3, rfl⟩ := h.ln.shape
  have hzA : ((w.alloc (.cells #[.slice a1 p.st.length c1, .slice a2 p.lf.length c2, .slice a3 p.ln.length c3] 33))).heap.size = w.heap.size + 1 := by simp
  have HBA : Hid (Below w.heap.size w (w.alloc (.cells #[.slice a1 p.st.length c1, .slice a2 p.lf.length c2, .slice a3 p.ln.length c3] 33))) := (Below.refl _ w).alloc (Nat.le_refl _) _
  have HRD : Hid (∀ w', Since (w.heap.size + 1) (w.alloc (.cells #[.slice a1 p.st.length c1, .slice a2 p.lf.length c2, .slice a3 p.ln.length c3] 33)) w' → Reads3 w' (.slice a1 p.st.length c1) (.slice a2 p.lf.length c2) (.slice a3 p.ln.length c3) p) := fun w' hS => h.below (HBA.out.trans (hS.1.mono (by omega)))
  have HBX0 : Hid (∀ w', Since (w.heap.size + 1) (w.alloc (.cells #[.slice a1 p.st.length c1, .slice a2 p.lf.length c2, .slice a3 p.ln.length c3] 33)) w' → Bx3 w' w.heap.size (.slice a1 p.st.length c1) (.slice a2 p.lf.length c2) (.slice a3 p.ln.length c3)) := fun w' hS => (Bx3.new w _ _ _ 33).since hS (by omega)
  have SA00 : Hid (Since (w.heap.size + 1) (w.alloc (.cells #[.slice a1 p.st.length c1, .slice a2 p.lf.length c2, .slice a3 p.ln.length c3] 33)) (w.alloc (.cells #[.slice a1 p.st.length c1, .slice a2 p.lf.length c2, .slice a3 p.ln.length c3] 33))) := ⟨Below.refl _ _, Nat.le_of_eq hzA.symm⟩
  clear h
  have HLen := settleOut_len p
  obtain ⟨out, hout⟩ : ∃ out, out = settleOut p := ⟨_, rfl⟩
  obtain ⟨ok, hok⟩ : ∃ ok, ok = goodPr p := ⟨_, rfl⟩
  rw [← hout] at HLen
  have O1 : Hid (out.st.length ≤ 1048576) := by show _ ≤ _; omega
  have O2 : Hid (out.lf.length ≤ 1048576) := by show _ ≤ _; omega
  have O3 : Hid (out.ln.length ≤ 1048576) := by show _ ≤ _; omega
  have HOut : Hid (settleOut p = out) := hout.symm
  have HOk : Hid (goodPr p = ok) := hok.symm
  clear HLen hout hok
  go_enter Try.func8, Try.ntmps8
  go_wp2_with fail
  refine (szPair_any _ _ _ _ p (HRD.out _ SA00.out) h1 h2 h3).mono ?_
  rintro e w1 ⟨rfl, hb1⟩
  have SA1 : Since (w.heap.size + 1) (w.alloc (.cells #[.slice a1 p.st.length c1, .slice a2 p.lf.length c2, .slice a3 p.ln.length c3] 33)) w1 := SA00.out.step hb1
  have hz1 : w.heap.size + 1 ≤ w1.heap.size := SA1.2
  have HB1 : Hid (Below w.heap.size w w1) := HBA.out.trans (SA1.1.mono (by omega))
  clear hb1 h1 h2 h3
  by_cases hle : szPr p 1048576 < 0
  · generalize szPr p 1048576 = sz at *
    go_wp2
    go_ret
    exact ⟨rfl, HB1.out⟩
  obtain ⟨l1, l2, l3⟩ := szPr_fit p hle
  have L1 : Hid (p.st.length ≤ 1048576) := l1
  have L2 : Hid (p.lf.length ≤ 1048576) := l2
  have L3 : Hid (p.ln.length ≤ 1048576) := l3
  clear l1 l2 l3
  generalize szPr p 1048576 = sz at *
  have CS : Hid (∀ (W : World) (x y z : Value), Own3 W 0 x y z p → Calls Try.prog 32 #[.agg #[x, y, z]] W fun e W' => ∃ x' y' z', e = .returned (.tuple #[.agg #[x', y', z'], .bool ok]) ∧ Own3 W' W.heap.size x' y' z' out ∧ Below W.heap.size W W') := fun W x y z ho => by
    have := specSettle_any W 0 x y z p ho L1.out L2.out L3.out
    rw [HOut.out, HOk.out] at this
    exact this
  have CI : Hid (∀ (W : World) (x y z : Value), Own3 W 0 x y z p → Calls Try.prog 33 #[.agg #[x, y, z]] W fun e W' => ∃ x' y' z', e = .returned (.tuple #[.agg #[x', y', z'], .bool ok]) ∧ Own3 W' W.heap.size x' y' z' out ∧ Below W.heap.size W W') := fun W x y z ho => by
    have := implSettle_any W 0 x y z p ho (Nat.zero_le _) L1.out L2.out L3.out
    rw [HOut.out, HOk.out] at this
    exact this
  obtain ⟨p0, p1, p2, p3, -⟩ := HBX0.out _ SA1
  go_wp2_with fail
  refine (toPair_any w1 _ _ _ p (HRD.out _ SA1) L1.out L2.out L3.out).mono ?_
  rintro e wa ⟨xa, ya, za, rfl, hoa, hba⟩
  obtain ⟨ba9, da9, rfl⟩ := hoa.st.shape
  obtain ⟨bb9, db9, rfl⟩ := hoa.lf.shape
  obtain ⟨bc9, dc9, rfl⟩ := hoa.ln.shape
  clear p0 p1 p2 p3
  go_wp2_with fail
  refine (CS.out wa _ _ _ (hoa.mono (Nat.zero_le _))).mono ?_
  rintro e wd ⟨xd, yd, zd, rfl, hod, hbd⟩
  obtain ⟨ba6, da6, rfl⟩ := hod.st.shape
  obtain ⟨bb6, db6, rfl⟩ := hod.lf.shape
  obtain ⟨bc6, dc6, rfl⟩ := hod.ln.shape
  have hb2 : Below wd.heap.size wd (wd.alloc (.cells #[.slice ba6 out.st.length da6, .slice bb6 out.lf.length db6, .slice bc6 out.ln.length dc6] 25)) := (Below.refl _ wd).alloc (Nat.le_refl _) _
  have SA2 : Since (w.heap.size + 1) (w.alloc (.cells #[.slice a1 p.st.length c1, .slice a2 p.lf.length c2, .slice a3 p.ln.length c3] 33)) (wd.alloc (.cells #[.slice ba6 out.st.length da6, .slice bb6 out.lf.length db6, .slice bc6 out.ln.length dc6] 25)) := ((SA1.step hba).step hbd).step hb2
  have V6 : PV (wd.alloc (.cells #[.slice ba6 out.st.length da6, .slice bb6 out.lf.length db6, .slice bc6 out.ln.length dc6] 25)) w1.heap.size (wd.alloc (.cells #[.slice ba6 out.st.length da6, .slice bb6 out.lf.length db6, .slice bc6 out.ln.length dc6] 25)).heap.size wd.heap.size (.slice ba6 out.st.length da6) (.slice bb6 out.lf.length db6) (.slice bc6 out.ln.length dc6) out := PV.new hod hba.size (Nat.le_trans hba.size hbd.size) _
  have hz2 : w1.heap.size ≤ (wd.alloc (.cells #[.slice ba6 out.st.length da6, .slice bb6 out.lf.length db6, .slice bc6 out.ln.length dc6] 25)).heap.size := Nat.le_trans (Nat.le_trans hba.size hbd.size) hb2.size
  clear hoa hba hod hbd hb2
  obtain ⟨p0, p1, p2, p3, -⟩ := HBX0.out _ SA2
  go_wp2_with fail
  generalize hww : wd.alloc (.cells #[.slice ba6 out.st.length da6, .slice bb6 out.lf.length db6, .slice bc6 out.ln.length dc6] 25) = w2 at *
  clear hww
  refine (toPair_any w2 _ _ _ p (HRD.out _ SA2) L1.out L2.out L3.out).mono ?_
  rintro e w3 ⟨x3, y3, z3, rfl, ho3, hb3⟩
  obtain ⟨ba8, da8, rfl⟩ := ho3.st.shape
  obtain ⟨bb8, db8, rfl⟩ := ho3.lf.shape
  obtain ⟨bc8, dc8, rfl⟩ := ho3.ln.shape
  have hb4 : Below w3.heap.size w3 (w3.alloc (.cells #[.slice ba8 p.st.length da8, .slice bb8 p.lf.length db8, .slice bc8 p.ln.length dc8] 25)) := (Below.refl _ w3).alloc (Nat.le_refl _) _
  have SA4 : Since (w.heap.size + 1) (w.alloc (.cells #[.slice a1 p.st.length c1, .slice a2 p.lf.length c2, .slice a3 p.ln.length c3] 33)) (w3.alloc (.cells #[.slice ba8 p.st.length da8, .slice bb8 p.lf.length db8, .slice bc8 p.ln.length dc8] 25)) := (SA2.step hb3).step hb4
  have V64 : PV (w3.alloc (.cells #[.slice ba8 p.st.length da8, .slice bb8 p.lf.length db8, .slice bc8 p.ln.length dc8] 25)) w1.heap.size w2.heap.size wd.heap.size (.slice ba6 out.st.length da6) (.slice bb6 out.lf.length db6) (.slice bc6 out.ln.length dc6) out := (V6.below hb3).below hb4
  have V8 : PV (w3.alloc (.cells #[.slice ba8 p.st.length da8, .slice bb8 p.lf.length db8, .slice bc8 p.ln.length dc8] 25)) w2.heap.size (w3.alloc (.cells #[.slice ba8 p.st.length da8, .slice bb8 p.lf.length db8, .slice bc8 p.ln.length dc8] 25)).heap.size w3.heap.size (.slice ba8 p.st.length da8) (.slice bb8 p.lf.length db8) (.slice bc8 p.ln.length dc8) p := PV.new ho3 (Nat.le_refl _) hb3.size _
  have hz4 : w2.heap.size ≤ (w3.alloc (.cells #[.slice ba8 p.st.length da8, .slice bb8 p.lf.length db8, .slice bc8 p.ln.length dc8] 25)).heap.size := Nat.le_trans hb3.size hb4.size
  clear p0 p1 p2 p3 ho3 hb3 hb4 SA2 V6
  go_wp2_with fail
  generalize hww : w3.alloc (.cells #[.slice ba8 p.st.length da8, .slice bb8 p.lf.length db8, .slice bc8 p.ln.length dc8] 25) = w4 at *
  clear hww
  refine (CI.out w4 _ _ _ (V8.own.mono (Nat.zero_le _))).mono ?_
  rintro e wf ⟨xf, yf, zf, rfl, hof, hbf⟩
  obtain ⟨ba7, da7, rfl⟩ := hof.st.shape
  obtain ⟨bb7, db7, rfl⟩ := hof.lf.shape
  obtain ⟨bc7, dc7, rfl⟩ := hof.ln.shape
  have hb5 : Below wf.heap.size wf (wf.alloc (.cells #[.slice ba7 out.st.length da7, .slice bb7 out.lf.length db7, .slice bc7 out.ln.length dc7] 25)) := (Below.refl _ wf).alloc (Nat.le_refl _) _
  have SA5 : Since (w.heap.size + 1) (w.alloc (.cells #[.slice a1 p.st.length c1, .slice a2 p.lf.length c2, .slice a3 p.ln.length c3] 33)) (wf.alloc (.cells #[.slice ba7 out.st.length da7, .slice bb7 out.lf.length db7, .slice bc7 out.ln.length dc7] 25)) := (SA4.step hbf).step hb5
  have V65 : PV (wf.alloc (.cells #[.slice ba7 out.st.length da7, .slice bb7 out.lf.length db7, .slice bc7 out.ln.length dc7] 25)) w1.heap.size w2.heap.size wd.heap.size (.slice ba6 out.st.length da6) (.slice bb6 out.lf.length db6) (.slice bc6 out.ln.length dc6) out := (V64.below hbf).below hb5
  have V85 : PV (wf.alloc (.cells #[.slice ba7 out.st.length da7, .slice bb7 out.lf.length db7, .slice bc7 out.ln.length dc7] 25)) w2.heap.size w4.heap.size w3.heap.size (.slice ba8 p.st.length da8) (.slice bb8 p.lf.length db8) (.slice bc8 p.ln.length dc8) p := (V8.below hbf).below hb5
  have V75 : PV (wf.alloc (.cells #[.slice ba7 out.st.length da7, .slice bb7 out.lf.length db7, .slice bc7 out.ln.length dc7] 25)) w4.heap.size (wf.alloc (.cells #[.slice ba7 out.st.length da7, .slice bb7 out.lf.length db7, .slice bc7 out.ln.length dc7] 25)).heap.size wf.heap.size (.slice ba7 out.st.length da7) (.slice bb7 out.lf.length db7) (.slice bc7 out.ln.length dc7) out := PV.new hof (Nat.le_refl _) hbf.size _
  have hz5 : w4.heap.size ≤ (wf.alloc (.cells #[.slice ba7 out.st.length da7, .slice bb7 out.lf.length db7, .slice bc7 out.ln.length dc7] 25)).heap.size := Nat.le_trans hbf.size hb5.size
  clear hof hbf hb5 V64 V8 SA4
  obtain ⟨q, hq⟩ : ∃ q : Int, q = (endPr out 1 : Int) := ⟨_, rfl⟩
  have HQ : Hid ((endPr out 1 : Int) = q) := hq.symm
  have hq1 : 0 ≤ q := by omega
  clear hq
  obtain ⟨r, hr⟩ : ∃ r : Int, r = (endPr p 1 : Int) := ⟨_, rfl⟩
  have HRR : Hid ((endPr p 1 : Int) = r) := hr.symm
  have hr1 : 0 ≤ r := by omega
  clear hr
  obtain ⟨l6, f60, f61, f62, -⟩ := V65.box
  obtain ⟨l7, f70, f71, f72, -⟩ := V75.box
  go_wp2_with fail
  generalize hww : wf.alloc (.cells #[.slice ba7 out.st.length da7, .slice bb7 out.lf.length db7, .slice bc7 out.ln.length dc7] 25) = w5 at *
  clear hww
  refine (eqPair_same _ _ _ _ _ _ _ out V75.own.reads V65.own.reads O1.out O2.out O3.out).mono ?_
  rintro e w6 ⟨rfl, hb6⟩
  have SA6 : Since (w.heap.size + 1) (w.alloc (.cells #[.slice a1 p.st.length c1, .slice a2 p.lf.length c2, .slice a3 p.ln.length c3] 33)) w6 := SA5.step hb6
  have V66 : PV w6 w1.heap.size w2.heap.size wd.heap.size (.slice ba6 out.st.length da6) (.slice bb6 out.lf.length db6) (.slice bc6 out.ln.length dc6) out := V65.below hb6
  have V86 : PV w6 w2.heap.size w4.heap.size w3.heap.size (.slice ba8 p.st.length da8) (.slice bb8 p.lf.length db8) (.slice bc8 p.ln.length dc8) p := V85.below hb6
  have V76 : PV w6 w4.heap.size w5.heap.size wf.heap.size (.slice ba7 out.st.length da7) (.slice bb7 out.lf.length db7) (.slice bc7 out.ln.length dc7) out := V75.below hb6
  clear hb6 l6 f60 f61 f62 l7 f70 f71 f72 V65 V85 V75 SA5
  obtain ⟨p0, p1, p2, p3, -⟩ := HBX0.out _ SA6
  obtain ⟨l8, f80, f81, f82, -⟩ := V86.box
  go_wp2
  have SAe : Since (w.heap.size + 1) (w.alloc (.cells #[.slice a1 p.st.length c1, .slice a2 p.lf.length c2, .slice a3 p.ln.length c3] 33)) w6.drew := SA6.drew
  have V8e : PV w6.drew w2.heap.size w4.heap.size w3.heap.size (.slice ba8 p.st.length da8) (.slice bb8 p.lf.length db8) (.slice bc8 p.ln.length dc8) p := V86.drew
  have HBe := HBX0.out _ SAe
  go_region_held3 (fun w' => w'.cell? ⟨w.heap.size, 0, none⟩ = some (.slice a1 p.st.length c1) ∧ w'.cell? ⟨w.heap.size, 1, none⟩ = some (.slice a2 p.lf.length c2) ∧ w'.cell? ⟨w.heap.size, 2, none⟩ = some (.slice a3 p.ln.length c3) ∧ w'.cell? ⟨w3.heap.size, 0, none⟩ = some (.slice ba8 p.st.length da8) ∧ w'.cell? ⟨w3.heap.size, 1, none⟩ = some (.slice bb8 p.lf.length db8) ∧ w'.cell? ⟨w3.heap.size, 2, none⟩ = some (.slice bc8 p.ln.length dc8))
    (first | with_reducible exact ⟨HBg.c0, HBg.c1, HBg.c2, V8g.box.c0, V8g.box.c1, V8g.box.c2⟩ | with_reducible exact ⟨HBf.c0, HBf.c1, HBf.c2, V8f.box.c0, V8f.box.c1, V8f.box.c2⟩ | with_reducible exact ⟨HBe.c0, HBe.c1, HBe.c2, V8e.box.c0, V8e.box.c1, V8e.box.c2⟩ | fail)
    (first
      | (refine step_call (by rfl) 16 #[.agg #[.slice a1 p.st.length c1, .slice a2 p.lf.length c2, .slice a3 p.ln.length c3]] ?_ (Calls.mono (toPair_any w6.drew _ _ _ p (HRD.out _ SAe) L1.out L2.out L3.out) ?_); (focus (simp [go_sem] <;> fail)); rintro e wh ⟨xf, yf, zf, rfl, hof, hbf⟩; refine ⟨_, rfl, ?_⟩; obtain ⟨b91, d91, rfl⟩ := hof.st.shape; obtain ⟨b92, d92, rfl⟩ := hof.lf.shape; obtain ⟨b93, d93, rfl⟩ := hof.ln.shape; have V8f := V8e.below hbf; have HBf := HBe.below hbf)
      | (refine step_call (by rfl) 11 #[.agg #[.slice ba8 p.st.length da8, .slice bb8 p.lf.length db8, .slice bc8 p.ln.length dc8], .agg #[.slice b91 p.st.length d91, .slice b92 p.lf.length d92, .slice b93 p.ln.length d93]] ?_ (Calls.mono (eqPair_same wh _ _ _ _ _ _ p V8f.own.reads hof.reads L1.out L2.out L3.out) ?_); (focus (simp [go_sem] <;> fail)); rintro e wg ⟨rfl, hbg⟩; refine ⟨_, rfl, ?_⟩; have V8g := V8f.below hbg; have HBg := HBf.below hbg)
      | fail)
  have SA7 : Since (w.heap.size + 1) (w.alloc (.cells #[.slice a1 p.st.length c1, .slice a2 p.lf.length c2, .slice a3 p.ln.length c3] 33)) wg := (SAe.step hbf).step hbg
  have V67 : PV wg w1.heap.size w2.heap.size wd.heap.size (.slice ba6 out.st.length da6) (.slice bb6 out.lf.length db6) (.slice bc6 out.ln.length dc6) out := (V66.drew.below hbf).below hbg
  have V77 : PV wg w4.heap.size w5.heap.size wf.heap.size (.slice ba7 out.st.length da7) (.slice bb7 out.lf.length db7) (.slice bc7 out.ln.length dc7) out := (V76.drew.below hbf).below hbg
  have V87 : PV wg w2.heap.size w4.heap.size w3.heap.size (.slice ba8 p.st.length da8) (.slice bb8 p.lf.length db8) (.slice bc8 p.ln.length dc8) p := V8g
  clear p0 p1 p2 p3 l8 f80 f81 f82 V66 V76 V86 SA6 SAe V8e HBe V8f HBf V8g HBg hof hbf hbg
  obtain ⟨l8, f80, f81, f82, -⟩ := V87.box
  go_wp2_with fail
  refine (markPair_any wg _ _ _ _ p 1 V87.own (by have := V87.rng; omega) L1.out L2.out L3.out (by omega)).mono ?_
  rintro e w8 ⟨rfl, ho8, hb8, hk8⟩
  rw [HRR.out]
  have SA8 : Since (w.heap.size + 1) (w.alloc (.cells #[.slice a1 p.st.length c1, .slice a2 p.lf.length c2, .slice a3 p.ln.length c3] 33)) w8 := SA7.keep (hb8.mono (by omega)) hk8
  have V68 : PV w8 w1.heap.size w2.heap.size wd.heap.size (.slice ba6 out.st.length da6) (.slice bb6 out.lf.length db6) (.slice bc6 out.ln.length dc6) out := V67.keep hk8 (V87.far (.inl (Nat.le_refl _)))
  have V78 : PV w8 w4.heap.size w5.heap.size wf.heap.size (.slice ba7 out.st.length da7) (.slice bb7 out.lf.length db7) (.slice bc7 out.ln.length dc7) out := V77.keep hk8 (V87.far (.inr (Nat.le_refl _)))
  clear l8 f80 f81 f82 ho8 hb8 hk8 V67 V77 V87 SA7
  obtain ⟨l6, f60, f61, f62, -⟩ := V68.box
  obtain ⟨l7, f70, f71, f72, -⟩ := V78.box
  go_wp2_with fail
  refine (eqPair_same _ _ _ _ _ _ _ out V78.own.reads V68.own.reads O1.out O2.out O3.out).mono ?_
  rintro e w9 ⟨rfl, hb9⟩
  have SA9 : Since (w.heap.size + 1) (w.alloc (.cells #[.slice a1 p.st.length c1, .slice a2 p.lf.length c2, .slice a3 p.ln.length c3] 33)) w9 := SA8.step hb9
  have V69 : PV w9 w1.heap.size w2.heap.size wd.heap.size (.slice ba6 out.st.length da6) (.slice bb6 out.lf.length db6) (.slice bc6 out.ln.length dc6) out := V68.below hb9
  have V79 : PV w9 w4.heap.size w5.heap.size wf.heap.size (.slice ba7 out.st.length da7) (.slice bb7 out.lf.length db7) (.slice bc7 out.ln.length dc7) out := V78.below hb9
  clear hb9 l6 f60 f61 f62 l7 f70 f71 f72 V68 V78 SA8
  obtain ⟨l7, f70, f71, f72, -⟩ := V79.box
  go_wp2_with fail
  refine (markPair_any w9 _ _ _ _ out 1 V79.own (by have := V79.rng; omega) O1.out O2.out O3.out (by omega)).mono ?_
  rintro e w10 ⟨rfl, ho10, hb10, hk10⟩
  rw [HQ.out]
  have SA10 : Since (w.heap.size + 1) (w.alloc (.cells #[.slice a1 p.st.length c1, .slice a2 p.lf.length c2, .slice a3 p.ln.length c3] 33)) w10 := SA9.keep (hb10.mono (by omega)) hk10
  have V610 : PV w10 w1.heap.size w2.heap.size wd.heap.size (.slice ba6 out.st.length da6) (.slice bb6 out.lf.length db6) (.slice bc6 out.ln.length dc6) out := V69.keep hk10 (V79.far (.inl hz4))
  have V710 : PV w10 w4.heap.size w5.heap.size wf.heap.size (.slice ba7 out.st.length da7) (.slice bb7 out.lf.length db7) (.slice bc7 out.ln.length dc7) (markPr out 1) := V79.mark hk10 ho10
  clear l7 f70 f71 f72 ho10 hb10 hk10 V69 V79 SA9
  obtain ⟨l7, f70, f71, f72, -⟩ := V710.box
  go_wp2_with fail
  refine (heldPair_yes w10 _ _ _ out 1 V710.own.reads O1.out O2.out O3.out (by omega)).mono ?_
  rintro e w11 ⟨rfl, hb11⟩
  rw [HQ.out]
  have SA11 : Since (w.heap.size + 1) (w.alloc (.cells #[.slice a1 p.st.length c1, .slice a2 p.lf.length c2, .slice a3 p.ln.length c3] 33)) w11 := SA10.step hb11
  have V611 : PV w11 w1.heap.size w2.heap.size wd.heap.size (.slice ba6 out.st.length da6) (.slice bb6 out.lf.length db6) (.slice bc6 out.ln.length dc6) out := V610.below hb11
  have V711 : PV w11 w4.heap.size w5.heap.size wf.heap.size (.slice ba7 out.st.length da7) (.slice bb7 out.lf.length db7) (.slice bc7 out.ln.length dc7) (markPr out 1) := V710.below hb11
  have hz11 : w.heap.size + 1 ≤ w11.heap.size := SA11.2
  clear l7 f70 f71 f72 hb11 V610 V710 SA10
  obtain ⟨p0, p1, p2, p3, -⟩ := HBX0.out _ SA11
  go_wp2_with fail
  refine (toPair_any w11 _ _ _ p (HRD.out _ SA11) L1.out L2.out L3.out).mono ?_
  rintro e wa ⟨xa, ya, za, rfl, hoa, hba⟩
  obtain ⟨bg9, dg9, rfl⟩ := hoa.st.shape
  obtain ⟨bh9, dh9, rfl⟩ := hoa.lf.shape
  obtain ⟨bi9, di9, rfl⟩ := hoa.ln.shape
  clear p0 p1 p2 p3
  go_wp2_with fail
  refine (CI.out wa _ _ _ (hoa.mono (Nat.zero_le _))).mono ?_
  rintro e wk ⟨xd, yd, zd, rfl, hod, hbd⟩
  obtain ⟨ba5, da5, rfl⟩ := hod.st.shape
  obtain ⟨bb5, db5, rfl⟩ := hod.lf.shape
  obtain ⟨bc5, dc5, rfl⟩ := hod.ln.shape
  have hb2 : Below wk.heap.size wk (wk.alloc (.cells #[.slice ba5 out.st.length da5, .slice bb5 out.lf.length db5, .slice bc5 out.ln.length dc5] 25)) := (Below.refl _ wk).alloc (Nat.le_refl _) _
  have SA12 : Since (w.heap.size + 1) (w.alloc (.cells #[.slice a1 p.st.length c1, .slice a2 p.lf.length c2, .slice a3 p.ln.length c3] 33)) (wk.alloc (.cells #[.slice ba5 out.st.length da5, .slice bb5 out.lf.length db5, .slice bc5 out.ln.length dc5] 25)) := ((SA11.step hba).step hbd).step hb2
  have V512 : PV (wk.alloc (.cells #[.slice ba5 out.st.length da5, .slice bb5 out.lf.length db5, .slice bc5 out.ln.length dc5] 25)) w11.heap.size (wk.alloc (.cells #[.slice ba5 out.st.length da5, .slice bb5 out.lf.length db5, .slice bc5 out.ln.length dc5] 25)).heap.size wk.heap.size (.slice ba5 out.st.length da5) (.slice bb5 out.lf.length db5) (.slice bc5 out.ln.length dc5) out := PV.new hod hba.size (Nat.le_trans hba.size hbd.size) _
  have V612 : PV (wk.alloc (.cells #[.slice ba5 out.st.length da5, .slice bb5 out.lf.length db5, .slice bc5 out.ln.length dc5] 25)) w1.heap.size w2.heap.size wd.heap.size (.slice ba6 out.st.length da6) (.slice bb6 out.lf.length db6) (.slice bc6 out.ln.length dc6) out := ((V611.below hba).below hbd).below hb2
  have V712 : PV (wk.alloc (.cells #[.slice ba5 out.st.length da5, .slice bb5 out.lf.length db5, .slice bc5 out.ln.length dc5] 25)) w4.heap.size w5.heap.size wf.heap.size (.slice ba7 out.st.length da7) (.slice bb7 out.lf.length db7) (.slice bc7 out.ln.length dc7) (markPr out 1) := ((V711.below hba).below hbd).below hb2
  clear hoa hba hod hbd hb2 V611 V711 SA11
  obtain ⟨l6, f60, f61, f62, -⟩ := V612.box
  obtain ⟨l5, f50, f51, f52, -⟩ := V512.box
  go_wp2_with fail
  generalize hww : wk.alloc (.cells #[.slice ba5 out.st.length da5, .slice bb5 out.lf.length db5, .slice bc5 out.ln.length dc5] 25) = w12 at *
  clear hww
  refine (eqPair_same _ _ _ _ _ _ _ out V512.own.reads V612.own.reads O1.out O2.out O3.out).mono ?_
  rintro e w13 ⟨rfl, hb13⟩
  have SA13 : Since (w.heap.size + 1) (w.alloc (.cells #[.slice a1 p.st.length c1, .slice a2 p.lf.length c2, .slice a3 p.ln.length c3] 33)) w13 := SA12.step hb13
  have V713 : PV w13 w4.heap.size w5.heap.size wf.heap.size (.slice ba7 out.st.length da7) (.slice bb7 out.lf.length db7) (.slice bc7 out.ln.length dc7) (markPr out 1) := V712.below hb13
  clear hb13 l6 f60 f61 f62 l5 f50 f51 f52 V612 V512 V712 SA12
  obtain ⟨l7, f70, f71, f72, -⟩ := V713.box
  go_wp2_with fail
  refine (heldPair_yes w13 _ _ _ out 1 V713.own.reads O1.out O2.out O3.out (by omega)).mono ?_
  rintro e w14 ⟨rfl, hb14⟩
  rw [HQ.out]
  have HF : Hid (Below w.heap.size w w14) := HBA.out.trans ((SA13.step hb14).1.mono (by omega))
  clear hb14 l7 f70 f71 f72 SA13 V713
  go_wp2
  go_ret
  exact ⟨rfl, HF.out⟩

set_option maxRecDepth 100000 in
theorem contract (H : Type) (enc : TypeId × Value → H) (W : World) (base : Nat) (args : Array Value) (ds gs : List (DataW H)) (before : List MemPlace)
    (hval : ∀ (j : Nat) t v, Try.f8.params[j]? = some t → args[j]? = some v → Value.okWide Try.prog W .any base t v)
    (hW : DataW.Whole enc Try.prog Try.f8.params.toList Rows.fnExactSettlePairSpec.vars false W args.toList ds gs before) :
    Calls Try.prog 8 args W fun e W' => ∃ v, e = .returned v ∧ Rows.fnExactSettlePairSpec.post enc Try.prog Try.f8 false true false false W args v W' := by
  have hW' := hW
  obtain ⟨p, q, hA0, hV0, rfl, hfz, hnd⟩ := hW
  have hA : DataW.TrodAll enc Try.prog W 0 (fun _ => true) true Try.f8.params.toList args.toList ds p := hA0
  rw [Try.params8] at hA hval
  obtain ⟨v0, vs0, d0, ds0, p0, q0, hargs, rfl, rfl, h0, r0⟩ := trodAll_cons hA
  obtain ⟨rfl, rfl, rfl⟩ := trodAll_nil r0
  obtain rfl : args = #[v0] := by cases args; simp_all
  obtain ⟨rfl, rfl⟩ := trodVars_none hV0
  have k0 := h0
  have lt0 : ∀ x ∈ p0, x.block < W.heap.size := by obtain ⟨m, hm⟩ := k0; exact DataW.trod_lt m _ _ _ hm
  obtain ⟨x0, y0, z0, pr0, rfl, hr0, h10, h20, h30⟩ := pair_of (hval 0 33 v0 rfl rfl) k0
  clear hA0 hV0
  refine (walk _ _ _ pr0 W hr0 h10 h20 h30).mono fun e W' ⟨he, bel⟩ => ?_
  subst he
  exact ⟨_, rfl, _, _, _, [], _, [], hW', trodAll_mk1 (shut_bool Try.underlying4 _), (trodAll_cons_mk (Below.trod laidOut (by kernel_rfl) (of_decide_eq_true (by kernel_rfl)) k0 bel lt0) trodAll_mk0), rfl, bel.frame _, fun h => by cases h⟩

set_option maxRecDepth 100000 in
theorem lifted (os : Os) (started : os.Started) (H : Type) (enc : TypeId × Value → H) :
    ReturnsInHanded {} Try.checked os 8 .any (Rows.fnExactSettlePairSpec.pre6 enc Try.prog Try.f8 Rows.fnExactSettlePairRow.domain false) (Rows.fnExactSettlePairSpec.post enc Try.prog Try.f8 false true false false) := by
  refine returnsInHanded_of_change (C := Try.checked) own started (by kernel_rfl) Try.func8
    (ChangeSpec.witness6 (enc := enc) (C := Try.checked) false ⟨#[], #[.agg #[.slice none 0 0, .slice none 0 0, .slice none 0 0]], []⟩ 8 (by kernel_rfl) (by kernel_rfl) (by kernel_rfl) (by kernel_rfl)) ?_
  intro W base args ds gs before hval hW _ _
  exact contract H enc W base args ds gs before hval hW

/-- The statement. -/
theorem said : Rows.FnExactSettlePairSaid :=
  OpenClaim.holds_of_wide 8 Try.f8 rfl rfl rfl rfl rfl rfl rfl ⟨rfl, rfl, rfl, rfl, rfl⟩ rfl rfl rfl rfl rfl (by kernel_rfl) Try.func8 (by kernel_rfl)
    (of_decide_eq_true (by kernel_rfl)) (by unfold Func.isWrapper; first | (rw [if_pos (by decide +kernel)]; kernel_rfl) | (rw [if_neg (by decide +kernel)]; exact ⟨rfl, rfl⟩))
    (fun os started H enc _ => lifted os started H enc)
#print axioms said
end Go.Proofs.Ytchddjidjfpehat.fnExactSettlePair
