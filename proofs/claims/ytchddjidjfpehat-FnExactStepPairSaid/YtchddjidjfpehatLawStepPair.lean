/-
  Proved: for every pair and every step, 'StepPair' of the program at commit d9a1fbfadef7 answers as the model's 'StepPair', every field and the bool; it writes into no argument (the pair that it was handed reads as before), keeps nothing of it, and its answer is memory of its own (marks that are written into its lists stay there behind another call). No condition.
-/
import Derived.Test.YtchddjidjfpehatPlain
import Derived.Test.YtchddjidjfpehatStepS
import Derived.Test.YtchddjidjfpehatPairVar
import Derived.Test.YtchddjidjfpehatPairOf
import Derived.Deep.CutRange
namespace Go.Proofs.Ytchddjidjfpehat.fnExactStepPair
open Go.ChangeShapes Go.WideShapes Go.ChangeAt Go.RowKit
open Go.ChangeMaps (open_string shut_string)
set_option linter.unusedVariables false

theorem heldB {w : World} {b b' : Nat} {x y z s u : Value} (h : Bx3 w b x y z ∧ Bx2 w b' s u) : w.cell? ⟨b, 0, none⟩ = some x ∧ w.cell? ⟨b, 1, none⟩ = some y ∧ w.cell? ⟨b, 2, none⟩ = some z ∧ w.cell? ⟨b', 0, none⟩ = some s ∧ w.cell? ⟨b', 1, none⟩ = some u := ⟨h.1.c0, h.1.c1, h.1.c2, h.2.c0, h.2.c1⟩

set_option maxRecDepth 100000 in
set_option maxHeartbeats 8000000 in
theorem walk (x y z : Value) (p : PR) (kind k : Int) (w : World) (h : Reads3 w x y z p) (h1 : p.st.length ≤ maxLen) (h2 : p.lf.length ≤ maxLen) (h3 : p.ln.length ≤ maxLen) :
    Calls Try.prog 5 #[.agg #[x, y, z], .agg #[.int .i64 kind, .int .i64 k]] w fun e w' => e = .returned (.bool true) ∧ Below w.heap.size w w' := by
  obtain ⟨a1, c1, rfl⟩ := h.st.shape
  obtain ⟨a2, c2, rfl⟩ := h.lf.shape
  obtain ⟨a3, c3, rfl⟩ := h.ln.shape
  have hzA : (((w.alloc (.cells #[.slice a1 p.st.length c1, .slice a2 p.lf.length c2, .slice a3 p.ln.length c3] 33)).alloc (.cells #[.int .i64 kind, .int .i64 k] 39))).heap.size = w.heap.size + 2 := by simp
  have HBA : Hid (Below w.heap.size w ((w.alloc (.cells #[.slice a1 p.st.length c1, .slice a2 p.lf.length c2, .slice a3 p.ln.length c3] 33)).alloc (.cells #[.int .i64 kind, .int .i64 k] 39))) := ((Below.refl _ w).alloc (Nat.le_refl _) _).alloc (by simp) _
  have HRD : Hid (∀ w', Since (w.heap.size + 2) ((w.alloc (.cells #[.slice a1 p.st.length c1, .slice a2 p.lf.length c2, .slice a3 p.ln.length c3] 33)).alloc (.cells #[.int .i64 kind, .int .i64 k] 39)) w' → Reads3 w' (.slice a1 p.st.length c1) (.slice a2 p.lf.length c2) (.slice a3 p.ln.length c3) p) := fun w' hS => h.below (HBA.out.trans (hS.1.mono (by omega)))
  have HBX0 : Hid (∀ w', Since (w.heap.size + 2) ((w.alloc (.cells #[.slice a1 p.st.length c1, .slice a2 p.lf.length c2, .slice a3 p.ln.length c3] 33)).alloc (.cells #[.int .i64 kind, .int .i64 k] 39)) w' → Bx3 w' w.heap.size (.slice a1 p.st.length c1) (.slice a2 p.lf.length c2) (.slice a3 p.ln.length c3) ∧ Bx2 w' (w.heap.size + 1) (.int .i64 kind) (.int .i64 k)) := fun w' hS => by
    refine ⟨((Bx3.new w _ _ _ 33).below ((Below.refl _ _).alloc (Nat.le_refl _) _)).since hS (by omega), Bx2.since (w0 := ((w.alloc (.cells #[.slice a1 p.st.length c1, .slice a2 p.lf.length c2, .slice a3 p.ln.length c3] 33)).alloc (.cells #[.int .i64 kind, .int .i64 k] 39))) ?_ hS (by omega)⟩
    have := Bx2.new (w.alloc (.cells #[.slice a1 p.st.length c1, .slice a2 p.lf.length c2, .slice a3 p.ln.length c3] 33)) (.int .i64 kind) (.int .i64 k) 39
    exact (show Bx2 _ _ _ _ by simpa using this)
  have SA00 : Hid (Since (w.heap.size + 2) ((w.alloc (.cells #[.slice a1 p.st.length c1, .slice a2 p.lf.length c2, .slice a3 p.ln.length c3] 33)).alloc (.cells #[.int .i64 kind, .int .i64 k] 39)) ((w.alloc (.cells #[.slice a1 p.st.length c1, .slice a2 p.lf.length c2, .slice a3 p.ln.length c3] 33)).alloc (.cells #[.int .i64 kind, .int .i64 k] 39))) := ⟨Below.refl _ _, Nat.le_of_eq hzA.symm⟩
  clear h
  have HLen := stepOut_len p kind k
  obtain ⟨out, hout⟩ : ∃ out, out = stepOut p kind k := ⟨_, rfl⟩
  obtain ⟨ok, hok⟩ : ∃ ok, ok = stepOk p kind k := ⟨_, rfl⟩
  rw [← hout] at HLen
  have O1 : Hid (out.st.length ≤ 1048576) := by show _ ≤ _; omega
  have O2 : Hid (out.lf.length ≤ 1048576) := by show _ ≤ _; omega
  have O3 : Hid (out.ln.length ≤ 1048576) := by show _ ≤ _; omega
  have HOut : Hid (stepOut p kind k = out) := hout.symm
  have HOk : Hid (stepOk p kind k = ok) := hok.symm
  clear HLen hout hok
  go_enter Try.func5, Try.ntmps5
  go_wp2_with fail
  refine (szPair_any _ _ _ _ p (HRD.out _ SA00.out) h1 h2 h3).mono ?_
  rintro e w1 ⟨rfl, hb1⟩
  have SA1 : Since (w.heap.size + 2) ((w.alloc (.cells #[.slice a1 p.st.length c1, .slice a2 p.lf.length c2, .slice a3 p.ln.length c3] 33)).alloc (.cells #[.int .i64 kind, .int .i64 k] 39)) w1 := SA00.out.step hb1
  have hz1 : w.heap.size + 2 ≤ w1.heap.size := SA1.2
  have HB1 : Hid (Below w.heap.size w w1) := HBA.out.trans (SA1.1.mono (by omega))
  clear hb1 h1 h2 h3
  by_cases hle : szPr p 1048576 < 0
  · generalize szPr p 1048576 = sz at *
    go_wp2
    go_ret
    exact ⟨rfl, HB1.out⟩
  obtain ⟨l1, l2, l3⟩ := szPr_fit p hle
  have L1 : Hid (p.st.length ≤ 1048576) := l1
  have L2 : Hid (p.lf.length ≤ 1048576) := l2
  have L3 : Hid (p.ln.length ≤ 1048576) := l3
  clear l1 l2 l3
  generalize szPr p 1048576 = sz at *
  have CS : Hid (∀ (W : World) (x y z : Value), Own3 W 0 x y z p → Calls Try.prog 18 #[.agg #[x, y, z], .agg #[.int .i64 kind, .int .i64 k]] W fun e W' => ∃ x' y' z', e = .returned (.tuple #[.agg #[x', y', z'], .bool ok]) ∧ Own3 W' W.heap.size x' y' z' out ∧ Below W.heap.size W W') := fun W x y z ho => by
    have := specStep_any W 0 x y z p kind k ho L1.out L2.out L3.out
    rw [HOut.out, HOk.out] at this
    exact this
  have CI : Hid (∀ (W : World) (x y z : Value), Own3 W 0 x y z p → Calls Try.prog 20 #[.agg #[x, y, z], .agg #[.int .i64 kind, .int .i64 k]] W fun e W' => ∃ x' y' z', e = .returned (.tuple #[.agg #[x', y', z'], .bool ok]) ∧ Own3 W' W.heap.size x' y' z' out ∧ Below W.heap.size W W') := fun W x y z ho => by
    have := implStep_any W 0 x y z p kind k ho L1.out L2.out L3.out
    rw [HOut.out, HOk.out] at this
    exact this
  obtain ⟨⟨p0, p1, p2, p3, -⟩, ⟨t0, t1, t2, -⟩⟩ := HBX0.out _ SA1
  go_wp2
  go_cut [6, 7] from 21 to 28 (fun s6 s7 wc => ∃ bx ba6 da6 bb6 db6 bc6 dc6, s6 = .pointer (some ⟨bx, 0, none⟩) ∧ s7 = .bool ok ∧ Hid (Since (w.heap.size + 2) ((w.alloc (.cells #[.slice a1 p.st.length c1, .slice a2 p.lf.length c2, .slice a3 p.ln.length c3] 33)).alloc (.cells #[.int .i64 kind, .int .i64 k] 39)) wc ∧ Since w1.heap.size w1 wc ∧ PV wc w1.heap.size wc.heap.size bx (.slice ba6 out.st.length da6) (.slice bb6 out.lf.length db6) (.slice bc6 out.ln.length dc6) out))
  case first =>
    go_region_held3 (fun w' => w'.cell? ⟨w.heap.size, 0, none⟩ = some (.slice a1 p.st.length c1) ∧ w'.cell? ⟨w.heap.size, 1, none⟩ = some (.slice a2 p.lf.length c2) ∧ w'.cell? ⟨w.heap.size, 2, none⟩ = some (.slice a3 p.ln.length c3) ∧ w'.cell? ⟨w.heap.size + 1, 0, none⟩ = some (.int .i64 kind) ∧ w'.cell? ⟨w.heap.size + 1, 1, none⟩ = some (.int .i64 k))
      (first | (refine heldB (HBX0.out _ (Since.tran SA1 ?_)); (focus (repeat (first | with_reducible exact SAd | with_reducible exact SAb | with_reducible exact SAa | with_reducible exact Since.start _ | with_reducible refine Since.al ?_ _ | with_reducible refine Since.drew ?_ | fail))); done) | (refine heldB (HBX0.out _ (Since.tran SA1 (Since.set3 ?_ SAd _ _ _))); omega) | fail)
      (first
        | (refine step_call (by rfl) 16 #[.agg #[.slice a1 p.st.length c1, .slice a2 p.lf.length c2, .slice a3 p.ln.length c3]] ?_ (Calls.mono (toPair_any _ _ _ _ p (HRD.out _ (Since.tran SA1 ?_)) L1.out L2.out L3.out) ?_); (focus (simp [go_sem] <;> fail)); (focus (repeat (first | with_reducible exact SAd | with_reducible exact SAb | with_reducible exact SAa | with_reducible exact Since.start _ | with_reducible refine Since.al ?_ _ | with_reducible refine Since.drew ?_ | fail))); rintro e wa ⟨xa, ya, za, rfl, hoa, hba⟩; refine ⟨_, rfl, ?_⟩; obtain ⟨ba9, da9, rfl⟩ := hoa.st.shape; obtain ⟨bb9, db9, rfl⟩ := hoa.lf.shape; obtain ⟨bc9, dc9, rfl⟩ := hoa.ln.shape; have hoa0 := hoa.mono (Nat.zero_le _); have SAa : Since w1.heap.size w1 wa := (by refine Since.step ?_ hba; (focus (repeat (first | with_reducible exact SAd | with_reducible exact SAb | with_reducible exact SAa | with_reducible exact Since.start _ | with_reducible refine Since.al ?_ _ | with_reducible refine Since.drew ?_ | fail)))); have kza := SAa.2; have sza := hba.size; (try simp at sza))
        | (refine step_call (by rfl) 19 #[.agg #[.int .i64 kind, .int .i64 k]] ?_ (Calls.mono (toStep_any _ kind k) ?_); (focus (simp [go_sem] <;> fail)); rintro e wb ⟨rfl, hbb⟩; refine ⟨_, rfl, ?_⟩; have SAb : Since w1.heap.size w1 wb := (by refine Since.step ?_ hbb; (focus (repeat (first | with_reducible exact SAd | with_reducible exact SAb | with_reducible exact SAa | with_reducible exact Since.start _ | with_reducible refine Since.al ?_ _ | with_reducible refine Since.drew ?_ | fail)))); have kzb := SAb.2; have szb := hbb.size; (try simp at szb))
        | (refine step_call (by rfl) 18 #[.agg #[.slice ba9 p.st.length da9, .slice bb9 p.lf.length db9, .slice bc9 p.ln.length dc9], .agg #[.int .i64 kind, .int .i64 k]] ?_ (Calls.mono (CS.out _ _ _ _ ?_) ?_); (focus (simp [go_sem] <;> fail)); (focus (repeat (first | with_reducible exact hoa0 | with_reducible refine Own3.al ?_ _ | with_reducible refine Own3.below ?_ hbb | fail))); rintro e wd ⟨xd, yd, zd, rfl, hod, hbd⟩; refine ⟨_, rfl, ?_⟩; obtain ⟨ba6, da6, rfl⟩ := hod.st.shape; obtain ⟨bb6, db6, rfl⟩ := hod.lf.shape; obtain ⟨bc6, dc6, rfl⟩ := hod.ln.shape; have SAd : Since w1.heap.size w1 wd := (by refine Since.step ?_ hbd; (focus (repeat (first | with_reducible exact SAd | with_reducible exact SAb | with_reducible exact SAa | with_reducible exact Since.start _ | with_reducible refine Since.al ?_ _ | with_reducible refine Since.drew ?_ | fail)))); have kzd := SAd.2; have szd := hbd.size; (try simp at szd); (first | (have HBX : Bx3 wd wb.heap.size (.slice none 0 0) (.slice none 0 0) (.slice none 0 0) := (Bx3.new _ _ _ _ _).below hbd; obtain ⟨g0, g1, g2, g3, gf⟩ := HBX) | (have HBX : Bx3 wd wa.heap.size (.slice none 0 0) (.slice none 0 0) (.slice none 0 0) := ((Bx3.new _ _ _ _ _).below hbb).below hbd; obtain ⟨g0, g1, g2, g3, gf⟩ := HBX) | (have HBX : Bx3 wd w1.heap.size (.slice none 0 0) (.slice none 0 0) (.slice none 0 0) := (((Bx3.new _ _ _ _ _).drew.below hba).below hbb).below hbd; obtain ⟨g0, g1, g2, g3, gf⟩ := HBX) | skip))
        | fail)
    · go_wp2_with fail
      go_meet
      exact ⟨_, _, _, _, _, _, _, rfl, rfl, Since.tran SA1 (Since.al SAd _), Since.al SAd _, PV.new hod (by omega) (by omega) _⟩
    · go_wp2_with fail
      go_meet
      exact ⟨_, _, _, _, _, _, _, rfl, rfl, Since.tran SA1 (Since.set3 (by omega) SAd _ _ _), Since.set3 (by omega) SAd _ _ _, PV.set hod ⟨g0, g1, g2, g3, gf⟩ (by omega) (by first | omega | (simp <;> omega))⟩
    · go_wp2_with fail
      go_meet
      exact ⟨_, _, _, _, _, _, _, rfl, rfl, Since.tran SA1 (Since.set3 (by omega) SAd _ _ _), Since.set3 (by omega) SAd _ _ _, PV.set hod ⟨g0, g1, g2, g3, gf⟩ (by omega) (by first | omega | (simp <;> omega))⟩
    · go_wp2_with fail
      go_meet
      exact ⟨_, _, _, _, _, _, _, rfl, rfl, Since.tran SA1 (Since.set3 (by omega) SAd _ _ _), Since.set3 (by omega) SAd _ _ _, PV.set hod ⟨g0, g1, g2, g3, gf⟩ (by omega) (by first | omega | (simp <;> omega))⟩
  case rest =>
  obtain ⟨bx6, ba6, da6, bb6, db6, bc6, dc6, rfl, rfl, H6⟩ := hcut
  obtain ⟨SA2, SB2, V6⟩ := H6.out
  clear p0 p1 p2 p3 t0 t1 t2 H6
  generalize hww : wc = w2 at *
  clear hww
  have hz2 : w1.heap.size ≤ w2.heap.size := SB2.2
  obtain ⟨⟨p0, p1, p2, p3, -⟩, ⟨t0, t1, t2, -⟩⟩ := HBX0.out _ SA2
  go_wp2_with fail
  refine (toPair_any _ _ _ _ p (HRD.out _ SA2) L1.out L2.out L3.out).mono ?_
  rintro e w3 ⟨x3, y3, z3, rfl, ho3, hb3⟩
  obtain ⟨ba8, da8, rfl⟩ := ho3.st.shape
  obtain ⟨bb8, db8, rfl⟩ := ho3.lf.shape
  obtain ⟨bc8, dc8, rfl⟩ := ho3.ln.shape
  have hb4 : Below w3.heap.size w3 (w3.alloc (.cells #[.slice ba8 p.st.length da8, .slice bb8 p.lf.length db8, .slice bc8 p.ln.length dc8] 25)) := (Below.refl _ w3).alloc (Nat.le_refl _) _
  have SA4 : Since (w.heap.size + 2) ((w.alloc (.cells #[.slice a1 p.st.length c1, .slice a2 p.lf.length c2, .slice a3 p.ln.length c3] 33)).alloc (.cells #[.int .i64 kind, .int .i64 k] 39)) (w3.alloc (.cells #[.slice ba8 p.st.length da8, .slice bb8 p.lf.length db8, .slice bc8 p.ln.length dc8] 25)) := (SA2.step hb3).step hb4
  have V64 : PV (w3.alloc (.cells #[.slice ba8 p.st.length da8, .slice bb8 p.lf.length db8, .slice bc8 p.ln.length dc8] 25)) w1.heap.size w2.heap.size bx6 (.slice ba6 out.st.length da6) (.slice bb6 out.lf.length db6) (.slice bc6 out.ln.length dc6) out := (V6.below hb3).below hb4
  have V8 : PV (w3.alloc (.cells #[.slice ba8 p.st.length da8, .slice bb8 p.lf.length db8, .slice bc8 p.ln.length dc8] 25)) w2.heap.size (w3.alloc (.cells #[.slice ba8 p.st.length da8, .slice bb8 p.lf.length db8, .slice bc8 p.ln.length dc8] 25)).heap.size w3.heap.size (.slice ba8 p.st.length da8) (.slice bb8 p.lf.length db8) (.slice bc8 p.ln.length dc8) p := PV.new ho3 (Nat.le_refl _) hb3.size _
  have hz4 : w2.heap.size ≤ (w3.alloc (.cells #[.slice ba8 p.st.length da8, .slice bb8 p.lf.length db8, .slice bc8 p.ln.length dc8] 25)).heap.size := Nat.le_trans hb3.size hb4.size
  clear p0 p1 p2 p3 t0 t1 t2 ho3 hb3 hb4
  obtain ⟨⟨p0, p1, p2, p3, -⟩, ⟨t0, t1, t2, -⟩⟩ := HBX0.out _ SA4
  obtain ⟨v0, v1, v2, v3, -⟩ := V8.box
  go_wp2
  generalize hww : w3.alloc (.cells #[.slice ba8 p.st.length da8, .slice bb8 p.lf.length db8, .slice bc8 p.ln.length dc8] 25) = w4 at *
  clear hww
  have HX8 : Hid (∀ w', Since w4.heap.size w4 w' → Bx3 w' w3.heap.size (.slice ba8 p.st.length da8) (.slice bb8 p.lf.length db8) (.slice bc8 p.ln.length dc8) ∧ Bx2 w' (w.heap.size + 1) (.int .i64 kind) (.int .i64 k)) := fun w' hS => ⟨V8.box.since hS V8.box.lt, (HBX0.out _ (Since.tran SA4 hS)).2⟩
  have hoj : Own3 w4 0 (.slice ba8 p.st.length da8) (.slice bb8 p.lf.length db8) (.slice bc8 p.ln.length dc8) p := V8.own.mono (Nat.zero_le _)
  go_cut [9, 10] from 31 to 37 (fun s6 s7 wc => ∃ bx ba7 da7 bb7 db7 bc7 dc7, s6 = .pointer (some ⟨bx, 0, none⟩) ∧ s7 = .bool ok ∧ Hid (Since (w.heap.size + 2) ((w.alloc (.cells #[.slice a1 p.st.length c1, .slice a2 p.lf.length c2, .slice a3 p.ln.length c3] 33)).alloc (.cells #[.int .i64 kind, .int .i64 k] 39)) wc ∧ Since w4.heap.size w4 wc ∧ PV wc w4.heap.size wc.heap.size bx (.slice ba7 out.st.length da7) (.slice bb7 out.lf.length db7) (.slice bc7 out.ln.length dc7) out))
  case first =>
    go_region_held3 (fun w' => w'.cell? ⟨w3.heap.size, 0, none⟩ = some (.slice ba8 p.st.length da8) ∧ w'.cell? ⟨w3.heap.size, 1, none⟩ = some (.slice bb8 p.lf.length db8) ∧ w'.cell? ⟨w3.heap.size, 2, none⟩ = some (.slice bc8 p.ln.length dc8) ∧ w'.cell? ⟨w.heap.size + 1, 0, none⟩ = some (.int .i64 kind) ∧ w'.cell? ⟨w.heap.size + 1, 1, none⟩ = some (.int .i64 k))
      (first | (refine heldB (HX8.out _ ?_); (focus (repeat (first | with_reducible exact SAd | with_reducible exact SAb | with_reducible exact SAa | with_reducible exact Since.start _ | with_reducible refine Since.al ?_ _ | with_reducible refine Since.drew ?_ | fail))); done) | (refine heldB (HX8.out _ (Since.set3 ?_ SAd _ _ _)); omega) | fail)
      (first
        | (refine step_call (by rfl) 19 #[.agg #[.int .i64 kind, .int .i64 k]] ?_ (Calls.mono (toStep_any _ kind k) ?_); (focus (simp [go_sem] <;> fail)); rintro e wb ⟨rfl, hbb⟩; refine ⟨_, rfl, ?_⟩; have SAb : Since w4.heap.size w4 wb := (by refine Since.step ?_ hbb; (focus (repeat (first | with_reducible exact SAd | with_reducible exact SAb | with_reducible exact SAa | with_reducible exact Since.start _ | with_reducible refine Since.al ?_ _ | with_reducible refine Since.drew ?_ | fail)))); have kzb := SAb.2; have szb := hbb.size; (try simp at szb))
        | (refine step_call (by rfl) 20 #[.agg #[.slice ba8 p.st.length da8, .slice bb8 p.lf.length db8, .slice bc8 p.ln.length dc8], .agg #[.int .i64 kind, .int .i64 k]] ?_ (Calls.mono (CI.out _ _ _ _ ?_) ?_); (focus (simp [go_sem] <;> fail)); (focus (repeat (first | with_reducible exact hoj | with_reducible refine Own3.al ?_ _ | with_reducible refine Own3.drew ?_ | with_reducible refine Own3.below ?_ hbb | fail))); rintro e wd ⟨xd, yd, zd, rfl, hod, hbd⟩; refine ⟨_, rfl, ?_⟩; obtain ⟨ba7, da7, rfl⟩ := hod.st.shape; obtain ⟨bb7, db7, rfl⟩ := hod.lf.shape; obtain ⟨bc7, dc7, rfl⟩ := hod.ln.shape; have SAd : Since w4.heap.size w4 wd := (by refine Since.step ?_ hbd; (focus (repeat (first | with_reducible exact SAd | with_reducible exact SAb | with_reducible exact SAa | with_reducible exact Since.start _ | with_reducible refine Since.al ?_ _ | with_reducible refine Since.drew ?_ | fail)))); have kzd := SAd.2; have szd := hbd.size; (try simp at szd); (first | (have HBX : Bx3 wd wb.heap.size (.slice none 0 0) (.slice none 0 0) (.slice none 0 0) := (Bx3.new _ _ _ _ _).below hbd; obtain ⟨g0, g1, g2, g3, gf⟩ := HBX) | (have HBX : Bx3 wd w4.heap.size (.slice none 0 0) (.slice none 0 0) (.slice none 0 0) := ((Bx3.new _ _ _ _ _).drew.below hbb).below hbd; obtain ⟨g0, g1, g2, g3, gf⟩ := HBX) | skip))
        | fail)
    · go_wp2_with fail
      go_meet
      exact ⟨_, _, _, _, _, _, _, rfl, rfl, Since.tran SA4 (Since.al SAd _), Since.al SAd _, PV.new hod (by omega) (by omega) _⟩
    · go_wp2_with fail
      go_meet
      exact ⟨_, _, _, _, _, _, _, rfl, rfl, Since.tran SA4 (Since.set3 (by omega) SAd _ _ _), Since.set3 (by omega) SAd _ _ _, PV.set hod ⟨g0, g1, g2, g3, gf⟩ (by omega) (by first | omega | (simp <;> omega))⟩
    · go_wp2_with fail
      go_meet
      exact ⟨_, _, _, _, _, _, _, rfl, rfl, Since.tran SA4 (Since.set3 (by omega) SAd _ _ _), Since.set3 (by omega) SAd _ _ _, PV.set hod ⟨g0, g1, g2, g3, gf⟩ (by omega) (by first | omega | (simp <;> omega))⟩
  case rest =>
  obtain ⟨bx7, ba7, da7, bb7, db7, bc7, dc7, rfl, rfl, H7⟩ := hcut
  obtain ⟨SA5, SB5, V75⟩ := H7.out
  have V65 : PV wc w1.heap.size w2.heap.size bx6 (.slice ba6 out.st.length da6) (.slice bb6 out.lf.length db6) (.slice bc6 out.ln.length dc6) out := V64.below SB5.1
  have V85 : PV wc w2.heap.size w4.heap.size w3.heap.size (.slice ba8 p.st.length da8) (.slice bb8 p.lf.length db8) (.slice bc8 p.ln.length dc8) p := V8.below SB5.1
  clear p0 p1 p2 p3 t0 t1 t2 v0 v1 v2 v3 H7 HX8 hoj V64 V8 SA4 SA2 SB2 V6
  generalize hww : wc = w5 at *
  clear hww
  have hz5 : w4.heap.size ≤ w5.heap.size := SB5.2
  obtain ⟨q, hq⟩ : ∃ q : Int, q = (endPr out 1 : Int) := ⟨_, rfl⟩
  have HQ : Hid ((endPr out 1 : Int) = q) := hq.symm
  have hq1 : 0 ≤ q := by omega
  clear hq
  obtain ⟨r, hr⟩ : ∃ r : Int, r = (endPr p 1 : Int) := ⟨_, rfl⟩
  have HRR : Hid ((endPr p 1 : Int) = r) := hr.symm
  have hr1 : 0 ≤ r := by omega
  clear hr
  obtain ⟨l6, f60, f61, f62, -⟩ := V65.box
  obtain ⟨l7, f70, f71, f72, -⟩ := V75.box
  go_wp2_with fail
  refine (eqPair_same _ _ _ _ _ _ _ out V75.own.reads V65.own.reads O1.out O2.out O3.out).mono ?_
  rintro e w6 ⟨rfl, hb6⟩
  have SA6 : Since (w.heap.size + 2) ((w.alloc (.cells #[.slice a1 p.st.length c1, .slice a2 p.lf.length c2, .slice a3 p.ln.length c3] 33)).alloc (.cells #[.int .i64 kind, .int .i64 k] 39)) w6 := SA5.step hb6
  have V66 : PV w6 w1.heap.size w2.heap.size bx6 (.slice ba6 out.st.length da6) (.slice bb6 out.lf.length db6) (.slice bc6 out.ln.length dc6) out := V65.below hb6
  have V86 : PV w6 w2.heap.size w4.heap.size w3.heap.size (.slice ba8 p.st.length da8) (.slice bb8 p.lf.length db8) (.slice bc8 p.ln.length dc8) p := V85.below hb6
  have V76 : PV w6 w4.heap.size w5.heap.size bx7 (.slice ba7 out.st.length da7) (.slice bb7 out.lf.length db7) (.slice bc7 out.ln.length dc7) out := V75.below hb6
  clear hb6 l6 f60 f61 f62 l7 f70 f71 f72 V65 V85 V75 SA5 SB5
  obtain ⟨⟨p0, p1, p2, p3, -⟩, -⟩ := HBX0.out _ SA6
  obtain ⟨l8, f80, f81, f82, -⟩ := V86.box
  go_wp2
  have SAe : Since (w.heap.size + 2) ((w.alloc (.cells #[.slice a1 p.st.length c1, .slice a2 p.lf.length c2, .slice a3 p.ln.length c3] 33)).alloc (.cells #[.int .i64 kind, .int .i64 k] 39)) w6.drew := SA6.drew
  have V8e : PV w6.drew w2.heap.size w4.heap.size w3.heap.size (.slice ba8 p.st.length da8) (.slice bb8 p.lf.length db8) (.slice bc8 p.ln.length dc8) p := V86.drew
  have HBe := (HBX0.out _ SAe).1
  go_region_held3 (fun w' => w'.cell? ⟨w.heap.size, 0, none⟩ = some (.slice a1 p.st.length c1) ∧ w'.cell? ⟨w.heap.size, 1, none⟩ = some (.slice a2 p.lf.length c2) ∧ w'.cell? ⟨w.heap.size, 2, none⟩ = some (.slice a3 p.ln.length c3) ∧ w'.cell? ⟨w3.heap.size, 0, none⟩ = some (.slice ba8 p.st.length da8) ∧ w'.cell? ⟨w3.heap.size, 1, none⟩ = some (.slice bb8 p.lf.length db8) ∧ w'.cell? ⟨w3.heap.size, 2, none⟩ = some (.slice bc8 p.ln.length dc8))
    (first | with_reducible exact ⟨HBg.c0, HBg.c1, HBg.c2, V8g.box.c0, V8g.box.c1, V8g.box.c2⟩ | with_reducible exact ⟨HBf.c0, HBf.c1, HBf.c2, V8f.box.c0, V8f.box.c1, V8f.box.c2⟩ | with_reducible exact ⟨HBe.c0, HBe.c1, HBe.c2, V8e.box.c0, V8e.box.c1, V8e.box.c2⟩ | fail)
    (first
      | (refine step_call (by rfl) 16 #[.agg #[.slice a1 p.st.length c1, .slice a2 p.lf.length c2, .slice a3 p.ln.length c3]] ?_ (Calls.mono (toPair_any w6.drew _ _ _ p (HRD.out _ SAe) L1.out L2.out L3.out) ?_); (focus (simp [go_sem] <;> fail)); rintro e wf ⟨xf, yf, zf, rfl, hof, hbf⟩; refine ⟨_, rfl, ?_⟩; obtain ⟨b91, d91, rfl⟩ := hof.st.shape; obtain ⟨b92, d92, rfl⟩ := hof.lf.shape; obtain ⟨b93, d93, rfl⟩ := hof.ln.shape; have V8f := V8e.below hbf; have HBf := HBe.below hbf)
      | (refine step_call (by rfl) 11 #[.agg #[.slice ba8 p.st.length da8, .slice bb8 p.lf.length db8, .slice bc8 p.ln.length dc8], .agg #[.slice b91 p.st.length d91, .slice b92 p.lf.length d92, .slice b93 p.ln.length d93]] ?_ (Calls.mono (eqPair_same wf _ _ _ _ _ _ p V8f.own.reads hof.reads L1.out L2.out L3.out) ?_); (focus (simp [go_sem] <;> fail)); rintro e wg ⟨rfl, hbg⟩; refine ⟨_, rfl, ?_⟩; have V8g := V8f.below hbg; have HBg := HBf.below hbg)
      | fail)
  have SA7 : Since (w.heap.size + 2) ((w.alloc (.cells #[.slice a1 p.st.length c1, .slice a2 p.lf.length c2, .slice a3 p.ln.length c3] 33)).alloc (.cells #[.int .i64 kind, .int .i64 k] 39)) wg := (SAe.step hbf).step hbg
  have V67 : PV wg w1.heap.size w2.heap.size bx6 (.slice ba6 out.st.length da6) (.slice bb6 out.lf.length db6) (.slice bc6 out.ln.length dc6) out := (V66.drew.below hbf).below hbg
  have V77 : PV wg w4.heap.size w5.heap.size bx7 (.slice ba7 out.st.length da7) (.slice bb7 out.lf.length db7) (.slice bc7 out.ln.length dc7) out := (V76.drew.below hbf).below hbg
  have V87 : PV wg w2.heap.size w4.heap.size w3.heap.size (.slice ba8 p.st.length da8) (.slice bb8 p.lf.length db8) (.slice bc8 p.ln.length dc8) p := V8g
  clear p0 p1 p2 p3 l8 f80 f81 f82 V66 V76 V86 SA6 SAe V8e HBe V8f HBf V8g HBg hof hbf hbg
  obtain ⟨l8, f80, f81, f82, -⟩ := V87.box
  go_wp2_with fail
  refine (markPair_any wg _ _ _ _ p 1 V87.own (by have := V87.rng; omega) L1.out L2.out L3.out (by omega)).mono ?_
  rintro e w8 ⟨rfl, ho8, hb8, hk8⟩
  rw [HRR.out]
  have SA8 : Since (w.heap.size + 2) ((w.alloc (.cells #[.slice a1 p.st.length c1, .slice a2 p.lf.length c2, .slice a3 p.ln.length c3] 33)).alloc (.cells #[.int .i64 kind, .int .i64 k] 39)) w8 := SA7.keep (hb8.mono (by omega)) hk8
  have V68 : PV w8 w1.heap.size w2.heap.size bx6 (.slice ba6 out.st.length da6) (.slice bb6 out.lf.length db6) (.slice bc6 out.ln.length dc6) out := V67.keep hk8 (V87.far (.inl (Nat.le_refl _)))
  have V78 : PV w8 w4.heap.size w5.heap.size bx7 (.slice ba7 out.st.length da7) (.slice bb7 out.lf.length db7) (.slice bc7 out.ln.length dc7) out := V77.keep hk8 (V87.far (.inr (Nat.le_refl _)))
  clear l8 f80 f81 f82 ho8 hb8 hk8 V67 V77 V87 SA7
  obtain ⟨l6, f60, f61, f62, -⟩ := V68.box
  obtain ⟨l7, f70, f71, f72, -⟩ := V78.box
  go_wp2_with fail
  refine (eqPair_same _ _ _ _ _ _ _ out V78.own.reads V68.own.reads O1.out O2.out O3.out).mono ?_
  rintro e w9 ⟨rfl, hb9⟩
  have SA9 : Since (w.heap.size + 2) ((w.alloc (.cells #[.slice a1 p.st.length c1, .slice a2 p.lf.length c2, .slice a3 p.ln.length c3] 33)).alloc (.cells #[.int .i64 kind, .int .i64 k] 39)) w9 := SA8.step hb9
  have V69 : PV w9 w1.heap.size w2.heap.size bx6 (.slice ba6 out.st.length da6) (.slice bb6 out.lf.length db6) (.slice bc6 out.ln.length dc6) out := V68.below hb9
  have V79 : PV w9 w4.heap.size w5.heap.size bx7 (.slice ba7 out.st.length da7) (.slice bb7 out.lf.length db7) (.slice bc7 out.ln.length dc7) out := V78.below hb9
  clear hb9 l6 f60 f61 f62 l7 f70 f71 f72 V68 V78 SA8
  obtain ⟨l7, f70, f71, f72, -⟩ := V79.box
  go_wp2_with fail
  refine (markPair_any w9 _ _ _ _ out 1 V79.own (by have := V79.rng; omega) O1.out O2.out O3.out (by omega)).mono ?_
  rintro e w10 ⟨rfl, ho10, hb10, hk10⟩
  rw [HQ.out]
  have SA10 : Since (w.heap.size + 2) ((w.alloc (.cells #[.slice a1 p.st.length c1, .slice a2 p.lf.length c2, .slice a3 p.ln.length c3] 33)).alloc (.cells #[.int .i64 kind, .int .i64 k] 39)) w10 := SA9.keep (hb10.mono (by omega)) hk10
  have V610 : PV w10 w1.heap.size w2.heap.size bx6 (.slice ba6 out.st.length da6) (.slice bb6 out.lf.length db6) (.slice bc6 out.ln.length dc6) out := V69.keep hk10 (V79.far (.inl hz4))
  have V710 : PV w10 w4.heap.size w5.heap.size bx7 (.slice ba7 out.st.length da7) (.slice bb7 out.lf.length db7) (.slice bc7 out.ln.length dc7) (markPr out 1) := V79.mark hk10 ho10
  clear l7 f70 f71 f72 ho10 hb10 hk10 V69 V79 SA9
  obtain ⟨l7, f70, f71, f72, -⟩ := V710.box
  go_wp2_with fail
  refine (heldPair_yes w10 _ _ _ out 1 V710.own.reads O1.out O2.out O3.out (by omega)).mono ?_
  rintro e w11 ⟨rfl, hb11⟩
  rw [HQ.out]
  have SA11 : Since (w.heap.size + 2) ((w.alloc (.cells #[.slice a1 p.st.length c1, .slice a2 p.lf.length c2, .slice a3 p.ln.length c3] 33)).alloc (.cells #[.int .i64 kind, .int .i64 k] 39)) w11 := SA10.step hb11
  have V611 : PV w11 w1.heap.size w2.heap.size bx6 (.slice ba6 out.st.length da6) (.slice bb6 out.lf.length db6) (.slice bc6 out.ln.length dc6) out := V610.below hb11
  have V711 : PV w11 w4.heap.size w5.heap.size bx7 (.slice ba7 out.st.length da7) (.slice bb7 out.lf.length db7) (.slice bc7 out.ln.length dc7) (markPr out 1) := V710.below hb11
  have hz11 : w.heap.size + 2 ≤ w11.heap.size := SA11.2
  clear l7 f70 f71 f72 hb11 V610 V710 SA10
  obtain ⟨⟨p0, p1, p2, p3, -⟩, ⟨t0, t1, t2, -⟩⟩ := HBX0.out _ SA11
  go_wp2
  go_cut [14, 15] from 79 to 86 (fun s6 s7 wc => ∃ bx ba5 da5 bb5 db5 bc5 dc5, s6 = .pointer (some ⟨bx, 0, none⟩) ∧ s7 = .bool ok ∧ Hid (Since (w.heap.size + 2) ((w.alloc (.cells #[.slice a1 p.st.length c1, .slice a2 p.lf.length c2, .slice a3 p.ln.length c3] 33)).alloc (.cells #[.int .i64 kind, .int .i64 k] 39)) wc ∧ Since w11.heap.size w11 wc ∧ PV wc w11.heap.size wc.heap.size bx (.slice ba5 out.st.length da5) (.slice bb5 out.lf.length db5) (.slice bc5 out.ln.length dc5) out))
  case first =>
    go_region_held3 (fun w' => w'.cell? ⟨w.heap.size, 0, none⟩ = some (.slice a1 p.st.length c1) ∧ w'.cell? ⟨w.heap.size, 1, none⟩ = some (.slice a2 p.lf.length c2) ∧ w'.cell? ⟨w.heap.size, 2, none⟩ = some (.slice a3 p.ln.length c3) ∧ w'.cell? ⟨w.heap.size + 1, 0, none⟩ = some (.int .i64 kind) ∧ w'.cell? ⟨w.heap.size + 1, 1, none⟩ = some (.int .i64 k))
      (first | (refine heldB (HBX0.out _ (Since.tran SA11 ?_)); (focus (repeat (first | with_reducible exact SAd | with_reducible exact SAb | with_reducible exact SAa | with_reducible exact Since.start _ | with_reducible refine Since.al ?_ _ | with_reducible refine Since.drew ?_ | fail))); done) | (refine heldB (HBX0.out _ (Since.tran SA11 (Since.set3 ?_ SAd _ _ _))); omega) | fail)
      (first
        | (refine step_call (by rfl) 16 #[.agg #[.slice a1 p.st.length c1, .slice a2 p.lf.length c2, .slice a3 p.ln.length c3]] ?_ (Calls.mono (toPair_any _ _ _ _ p (HRD.out _ (Since.tran SA11 ?_)) L1.out L2.out L3.out) ?_); (focus (simp [go_sem] <;> fail)); (focus (repeat (first | with_reducible exact SAd | with_reducible exact SAb | with_reducible exact SAa | with_reducible exact Since.start _ | with_reducible refine Since.al ?_ _ | with_reducible refine Since.drew ?_ | fail))); rintro e wa ⟨xa, ya, za, rfl, hoa, hba⟩; refine ⟨_, rfl, ?_⟩; obtain ⟨ba9, da9, rfl⟩ := hoa.st.shape; obtain ⟨bb9, db9, rfl⟩ := hoa.lf.shape; obtain ⟨bc9, dc9, rfl⟩ := hoa.ln.shape; have hoa0 := hoa.mono (Nat.zero_le _); have SAa : Since w11.heap.size w11 wa := (by refine Since.step ?_ hba; (focus (repeat (first | with_reducible exact SAd | with_reducible exact SAb | with_reducible exact SAa | with_reducible exact Since.start _ | with_reducible refine Since.al ?_ _ | with_reducible refine Since.drew ?_ | fail)))); have kza := SAa.2; have sza := hba.size; (try simp at sza))
        | (refine step_call (by rfl) 19 #[.agg #[.int .i64 kind, .int .i64 k]] ?_ (Calls.mono (toStep_any _ kind k) ?_); (focus (simp [go_sem] <;> fail)); rintro e wb ⟨rfl, hbb⟩; refine ⟨_, rfl, ?_⟩; have SAb : Since w11.heap.size w11 wb := (by refine Since.step ?_ hbb; (focus (repeat (first | with_reducible exact SAd | with_reducible exact SAb | with_reducible exact SAa | with_reducible exact Since.start _ | with_reducible refine Since.al ?_ _ | with_reducible refine Since.drew ?_ | fail)))); have kzb := SAb.2; have szb := hbb.size; (try simp at szb))
        | (refine step_call (by rfl) 20 #[.agg #[.slice ba9 p.st.length da9, .slice bb9 p.lf.length db9, .slice bc9 p.ln.length dc9], .agg #[.int .i64 kind, .int .i64 k]] ?_ (Calls.mono (CI.out _ _ _ _ ?_) ?_); (focus (simp [go_sem] <;> fail)); (focus (repeat (first | with_reducible exact hoa0 | with_reducible refine Own3.al ?_ _ | with_reducible refine Own3.below ?_ hbb | fail))); rintro e wd ⟨xd, yd, zd, rfl, hod, hbd⟩; refine ⟨_, rfl, ?_⟩; obtain ⟨ba5, da5, rfl⟩ := hod.st.shape; obtain ⟨bb5, db5, rfl⟩ := hod.lf.shape; obtain ⟨bc5, dc5, rfl⟩ := hod.ln.shape; have SAd : Since w11.heap.size w11 wd := (by refine Since.step ?_ hbd; (focus (repeat (first | with_reducible exact SAd | with_reducible exact SAb | with_reducible exact SAa | with_reducible exact Since.start _ | with_reducible refine Since.al ?_ _ | with_reducible refine Since.drew ?_ | fail)))); have kzd := SAd.2; have szd := hbd.size; (try simp at szd); (first | (have HBX : Bx3 wd wb.heap.size (.slice none 0 0) (.slice none 0 0) (.slice none 0 0) := (Bx3.new _ _ _ _ _).below hbd; obtain ⟨g0, g1, g2, g3, gf⟩ := HBX) | (have HBX : Bx3 wd wa.heap.size (.slice none 0 0) (.slice none 0 0) (.slice none 0 0) := ((Bx3.new _ _ _ _ _).below hbb).below hbd; obtain ⟨g0, g1, g2, g3, gf⟩ := HBX) | (have HBX : Bx3 wd w11.heap.size (.slice none 0 0) (.slice none 0 0) (.slice none 0 0) := (((Bx3.new _ _ _ _ _).drew.below hba).below hbb).below hbd; obtain ⟨g0, g1, g2, g3, gf⟩ := HBX) | skip))
        | fail)
    · go_wp2_with fail
      go_meet
      exact ⟨_, _, _, _, _, _, _, rfl, rfl, Since.tran SA11 (Since.al SAd _), Since.al SAd _, PV.new hod (by omega) (by omega) _⟩
    · go_wp2_with fail
      go_meet
      exact ⟨_, _, _, _, _, _, _, rfl, rfl, Since.tran SA11 (Since.set3 (by omega) SAd _ _ _), Since.set3 (by omega) SAd _ _ _, PV.set hod ⟨g0, g1, g2, g3, gf⟩ (by omega) (by first | omega | (simp <;> omega))⟩
    · go_wp2_with fail
      go_meet
      exact ⟨_, _, _, _, _, _, _, rfl, rfl, Since.tran SA11 (Since.set3 (by omega) SAd _ _ _), Since.set3 (by omega) SAd _ _ _, PV.set hod ⟨g0, g1, g2, g3, gf⟩ (by omega) (by first | omega | (simp <;> omega))⟩
    · go_wp2_with fail
      go_meet
      exact ⟨_, _, _, _, _, _, _, rfl, rfl, Since.tran SA11 (Since.set3 (by omega) SAd _ _ _), Since.set3 (by omega) SAd _ _ _, PV.set hod ⟨g0, g1, g2, g3, gf⟩ (by omega) (by first | omega | (simp <;> omega))⟩
  case rest =>
  obtain ⟨bx5, ba5, da5, bb5, db5, bc5, dc5, rfl, rfl, H5⟩ := hcut
  obtain ⟨SA12, SB12, V512⟩ := H5.out
  have V612 : PV wc w1.heap.size w2.heap.size bx6 (.slice ba6 out.st.length da6) (.slice bb6 out.lf.length db6) (.slice bc6 out.ln.length dc6) out := V611.below SB12.1
  have V712 : PV wc w4.heap.size w5.heap.size bx7 (.slice ba7 out.st.length da7) (.slice bb7 out.lf.length db7) (.slice bc7 out.ln.length dc7) (markPr out 1) := V711.below SB12.1
  clear p0 p1 p2 p3 t0 t1 t2 H5 V611 V711 SA11
  generalize hww : wc = w12 at *
  clear hww
  obtain ⟨l6, f60, f61, f62, -⟩ := V612.box
  obtain ⟨l5, f50, f51, f52, -⟩ := V512.box
  go_wp2_with fail
  refine (eqPair_same _ _ _ _ _ _ _ out V512.own.reads V612.own.reads O1.out O2.out O3.out).mono ?_
  rintro e w13 ⟨rfl, hb13⟩
  have SA13 : Since (w.heap.size + 2) ((w.alloc (.cells #[.slice a1 p.st.length c1, .slice a2 p.lf.length c2, .slice a3 p.ln.length c3] 33)).alloc (.cells #[.int .i64 kind, .int .i64 k] 39)) w13 := SA12.step hb13
  have V713 : PV w13 w4.heap.size w5.heap.size bx7 (.slice ba7 out.st.length da7) (.slice bb7 out.lf.length db7) (.slice bc7 out.ln.length dc7) (markPr out 1) := V712.below hb13
  clear hb13 l6 f60 f61 f62 l5 f50 f51 f52 V612 V512 V712 SA12 SB12
  obtain ⟨l7, f70, f71, f72, -⟩ := V713.box
  go_wp2_with fail
  refine (heldPair_yes w13 _ _ _ out 1 V713.own.reads O1.out O2.out O3.out (by omega)).mono ?_
  rintro e w14 ⟨rfl, hb14⟩
  rw [HQ.out]
  have HF : Hid (Below w.heap.size w w14) := HBA.out.trans ((SA13.step hb14).1.mono (by omega))
  clear hb14 l7 f70 f71 f72 SA13 V713
  go_wp2
  go_ret
  exact ⟨rfl, HF.out⟩

set_option maxRecDepth 100000 in
theorem contract (H : Type) (enc : TypeId × Value → H) (W : World) (base : Nat) (args : Array Value) (ds gs : List (DataW H)) (before : List MemPlace)
    (hval : ∀ (j : Nat) t v, Try.f5.params[j]? = some t → args[j]? = some v → Value.okWide Try.prog W .any base t v)
    (hW : DataW.Whole enc Try.prog Try.f5.params.toList Rows.fnExactStepPairSpec.vars false W args.toList ds gs before) :
    Calls Try.prog 5 args W fun e W' => ∃ v, e = .returned v ∧ Rows.fnExactStepPairSpec.post enc Try.prog Try.f5 false true false false W args v W' := by
  have hW' := hW
  obtain ⟨p, q, hA0, hV0, rfl, hfz, hnd⟩ := hW
  have hA : DataW.TrodAll enc Try.prog W 0 (fun _ => true) true Try.f5.params.toList args.toList ds p := hA0
  rw [Try.params5] at hA hval
  obtain ⟨v0, vs0, d0, ds0, p0, q0, hargs, rfl, rfl, h0, r0⟩ := trodAll_cons hA
  obtain ⟨v1, vs1, d1, ds1, p1, q1, rfl, rfl, rfl, h1, r1⟩ := trodAll_cons r0
  obtain ⟨rfl, rfl, rfl⟩ := trodAll_nil r1
  obtain rfl : args = #[v0, v1] := by cases args; simp_all
  obtain ⟨rfl, rfl⟩ := trodVars_none hV0
  have k0 := h0
  have lt0 : ∀ x ∈ p0, x.block < W.heap.size := by obtain ⟨m, hm⟩ := k0; exact DataW.trod_lt m _ _ _ hm
  obtain ⟨x0, y0, z0, pr0, rfl, hr0, h10, h20, h30⟩ := pair_of (hval 0 33 v0 rfl rfl) k0
  have k1 := h1
  have lt1 : ∀ x ∈ p1, x.block < W.heap.size := by obtain ⟨m, hm⟩ := k1; exact DataW.trod_lt m _ _ _ hm
  obtain ⟨kd1, st1, rfl⟩ := step_of (hval 1 39 v1 rfl rfl) k1
  clear hA0 hV0
  refine (walk _ _ _ pr0 kd1 st1 W hr0 h10 h20 h30).mono fun e W' ⟨he, bel⟩ => ?_
  subst he
  exact ⟨_, rfl, _, _, _, [], _, [], hW', trodAll_mk1 (shut_bool Try.underlying4 _), (trodAll_cons_mk (Below.trod laidOut (by kernel_rfl) (of_decide_eq_true (by kernel_rfl)) k0 bel lt0) (trodAll_cons_mk (Below.trod laidOut (by kernel_rfl) (of_decide_eq_true (by kernel_rfl)) k1 bel lt1) trodAll_mk0)), rfl, bel.frame _, fun h => by cases h⟩

set_option maxRecDepth 100000 in
theorem lifted (os : Os) (started : os.Started) (H : Type) (enc : TypeId × Value → H) :
    ReturnsInHanded {} Try.checked os 5 .any (Rows.fnExactStepPairSpec.pre6 enc Try.prog Try.f5 Rows.fnExactStepPairRow.domain false) (Rows.fnExactStepPairSpec.post enc Try.prog Try.f5 false true false false) := by
  refine returnsInHanded_of_change (C := Try.checked) own started (by kernel_rfl) Try.func5
    (ChangeSpec.witness6 (enc := enc) (C := Try.checked) false ⟨#[], #[.agg #[.slice none 0 0, .slice none 0 0, .slice none 0 0], .agg #[.int .i64 0, .int .i64 0]], []⟩ 8 (by kernel_rfl) (by kernel_rfl) (by kernel_rfl) (by kernel_rfl)) ?_
  intro W base args ds gs before hval hW _ _
  exact contract H enc W base args ds gs before hval hW

/-- The statement. -/
theorem said : Rows.FnExactStepPairSaid :=
  OpenClaim.holds_of_wide 5 Try.f5 rfl rfl rfl rfl rfl rfl rfl ⟨rfl, rfl, rfl, rfl, rfl⟩ rfl rfl rfl rfl rfl (by kernel_rfl) Try.func5 (by kernel_rfl)
    (of_decide_eq_true (by kernel_rfl)) (by unfold Func.isWrapper; first | (rw [if_pos (by decide +kernel)]; kernel_rfl) | (rw [if_neg (by decide +kernel)]; exact ⟨rfl, rfl⟩))
    (fun os started H enc _ => lifted os started H enc)
#print axioms said
end Go.Proofs.Ytchddjidjfpehat.fnExactStepPair
