/-
  Proved: for every list of steps, 'PlayPair' of the program at commit d9a1fbfadef7 answers as the model's 'PlayPair', every field of the pair, every bool and the last bool; it writes into no argument (the list that it was handed reads as before), keeps nothing of it (marks that are written into it change no answer), and its answers are memory of their own (marks that are written into them stay there behind another call). No condition.
-/
import Derived.Test.YtchddjidjfpehatPlain
import Derived.Test.YtchddjidjfpehatPlayLaw
import Derived.Test.YtchddjidjfpehatRowOfSt
namespace Go.Proofs.Ytchddjidjfpehat.fnExactPlayPair
open Go.ChangeShapes Go.WideShapes Go.ChangeAt Go.RowKit
open Go.ChangeMaps (open_string shut_string)
set_option linter.unusedVariables false

set_option maxRecDepth 100000 in
set_option maxHeartbeats 8000000 in
theorem walk (v : Value) (l : List StD) (w : World) (h : ReadsSt w v l) (hl : l.length ≤ maxLen) :
    Calls Try.prog 6 #[v] w fun e w' => e = .returned (.bool true) ∧ Below w.heap.size w w' := by
  have HRD : Hid (∀ W1, Since w.heap.size w W1 → ReadsSt W1 v l) := fun W1 hb => h.below hb.1
  have HL : Hid (l.length ≤ maxLen) := hl
  obtain ⟨a0, c0, rfl⟩ := h.shape
  have S1 : Hid (Since w.heap.size w w) := Since.start w
  obtain ⟨out, hout⟩ : ∃ out, out = playOut (stL l) := ⟨_, rfl⟩
  obtain ⟨did, hdid⟩ : ∃ did, did = playDid (stL l) := ⟨_, rfl⟩
  obtain ⟨ok, hok⟩ : ∃ ok, ok = playOk (stL l) := ⟨_, rfl⟩
  obtain ⟨n1, n2, n3, n4⟩ := playOut_len (stL l)
  rw [← hout] at n1 n2 n3
  rw [← hdid] at n4
  have O1 : Hid (out.st.length ≤ 1048576) := by show _ ≤ _; omega
  have O2 : Hid (out.lf.length ≤ 1048576) := by show _ ≤ _; omega
  have O3 : Hid (out.ln.length ≤ 1048576) := by show _ ≤ _; omega
  have O4 : Hid (did.length ≤ 4194304) := by show _ ≤ _; omega
  have hend : endPr out 1 ≤ 1000000000 := by unfold endPr; omega
  obtain ⟨m1, hm1⟩ : ∃ m1 : Int, m1 = (endPr out 1 : Int) := ⟨_, rfl⟩
  obtain ⟨m2, hm2⟩ : ∃ m2 : Int, m2 = ((endPr out 1 + did.length : Nat) : Int) := ⟨_, rfl⟩
  obtain ⟨k1, hk1⟩ : ∃ k1 : Int, k1 = ((1 + 2 * l.length : Nat) : Int) := ⟨_, rfl⟩
  obtain ⟨mb, hmb⟩ : ∃ mb, mb = marksB (endPr out 1) did.length := ⟨_, rfl⟩
  have m1n : ¬ m1 < 0 := by omega
  have m2n : ¬ m2 < 0 := by omega
  have k1n : ¬ k1 < 0 := by omega
  have MP : Hid (∀ (W : World) (lo : Nat) (x y z : Value), Own3 W lo x y z out → lo ≤ W.heap.size → Calls Try.prog 12 #[.agg #[x, y, z], .int .i64 1] W fun e W' => e = .returned (.int .i64 m1) ∧ Own3 W' lo x y z (markPr out 1) ∧ Below lo W W' ∧ Keep W W' x y z) := fun W lo x y z ho hB => by rw [hm1]; exact markPair_any W lo x y z out 1 ho hB O1.out O2.out O3.out (by omega)
  have MB : Hid (∀ (W : World) (lo : Nat) (v : Value), OwnB W lo v did → Calls Try.prog 28 #[v, .int .i64 m1] W fun e W' => e = .returned (.int .i64 m2) ∧ OwnB W' lo v mb ∧ W'.heap.size = W.heap.size ∧ W.grownBy W' v.ownBlock) := fun W lo v ho => by rw [hm1, hm2, hmb]; exact markBo_any W lo v (endPr out 1) did ho O4.out hend
  have HP : Hid (∀ (W : World) (x y z : Value), Reads3 W x y z (markPr out 1) → Calls Try.prog 13 #[.agg #[x, y, z], .int .i64 1] W fun e W' => e = .returned (.int .i64 m1) ∧ Below W.heap.size W W') := fun W x y z hr => by rw [hm1]; exact heldPair_yes W x y z out 1 hr O1.out O2.out O3.out (by omega)
  have HB : Hid (∀ (W : World) (v : Value), ReadsBo W v mb → Calls Try.prog 29 #[v, .int .i64 m1] W fun e W' => e = .returned (.int .i64 m2) ∧ W' = W) := fun W v hr => by rw [hm1, hm2]; rw [hmb] at hr; exact heldBo_yes W v (endPr out 1) did.length hr O4.out hend
  go_enter Try.func6, Try.ntmps6
  go_wp2_with fail
  refine (szSts_any _ _ l 1048576 (HRD.out _ S1.out) HL.out (by omega) (by omega)).mono ?_
  rintro e w1 ⟨rfl, hw1⟩
  obtain rfl : w = w1 := hw1.symm
  rcases Int.lt_or_le 1048576 (l.length : Int) with hle | hle
  · rw [if_neg (by omega)]
    go_wp2
    go_ret
    exact ⟨rfl, S1.out.1⟩
  rw [if_pos hle]
  have hnn : ¬ (1048576 - (l.length : Int) < 0) := by omega
  have LL : Hid ((stL l).length ≤ 1048576) := by show _ ≤ _; rw [stL_len]; omega
  have LB : Hid (l.length ≤ 4194304) := by show _ ≤ _; omega
  have MS : Hid (∀ (W : World) (lo : Nat) (v : Value), OwnSt W lo v l → Calls Try.prog 27 #[v, .int .i64 1] W fun e W' => e = .returned (.int .i64 k1) ∧ W.grownBy W' v.ownBlock) := fun W lo v ho => by
    rw [hk1]
    exact (markSts_any W lo v 1 l ho LB.out (by omega)).mono fun e w' hh => ⟨hh.1, hh.2.2.2⟩
  have CS : Hid (∀ (W : World) (v : Value), ReadsSt W v l → Calls Try.prog 22 #[v] W fun e W' => ∃ x y z b, e = .returned (.tuple #[.agg #[x, y, z], b, .bool ok]) ∧ Own3 W' W.heap.size x y z out ∧ OwnB W' W.heap.size b did ∧ Below W.heap.size W W') := fun W v hr => by rw [hout, hdid, hok]; exact specPlay_any W v (stL l) hr.readsS LL.out
  have CI : Hid (∀ (W : World) (v : Value), ReadsSt W v l → Calls Try.prog 24 #[v] W fun e W' => ∃ x y z b, e = .returned (.tuple #[.agg #[x, y, z], b, .bool ok]) ∧ Own3 W' W.heap.size x y z out ∧ OwnB W' W.heap.size b did ∧ Below W.heap.size W W') := fun W v hr => by rw [hout, hdid, hok]; exact implPlay_any W v (stL l) hr.readsS LL.out
  clear h hl hout hdid hok hm1 hm2 hk1 hmb hend n1 n2 n3 n4 hle
  go_wp2_with fail
  refine (toSts_any _ _ l (HRD.out _ S1.out) LB.out).mono ?_
  rintro e w2 ⟨v2, rfl, ho2, hb2⟩
  obtain ⟨s2, q2, rfl⟩ := ho2.shape
  have S2 : Hid (Since w.heap.size w w2) := S1.out.step hb2
  go_wp2_with fail
  refine (CS.out w2 _ ho2.reads).mono ?_
  rintro e w3 ⟨x1, y1, z1, b1, rfl, ho3, hB3, hb3⟩
  obtain ⟨x1, u1, rfl⟩ := ho3.st.shape
  obtain ⟨y1, r1, rfl⟩ := ho3.lf.shape
  obtain ⟨z1, t1, rfl⟩ := ho3.ln.shape
  obtain ⟨b1, d1, rfl⟩ := hB3.shape
  have V1 : Vr (w3.alloc (.cells #[.slice x1 out.st.length u1, .slice y1 out.lf.length r1, .slice z1 out.ln.length t1] 25)) w2.heap.size (w3.alloc (.cells #[.slice x1 out.st.length u1, .slice y1 out.lf.length r1, .slice z1 out.ln.length t1] 25)).heap.size w3.heap.size (.slice x1 out.st.length u1) (.slice y1 out.lf.length r1) (.slice z1 out.ln.length t1) out (.slice b1 did.length d1) did := Vr.new ho3 hB3 (Nat.le_refl _) hb3.size _
  have S3 : Since w.heap.size w (w3.alloc (.cells #[.slice x1 out.st.length u1, .slice y1 out.lf.length r1, .slice z1 out.ln.length t1] 25)) := (S2.out.step hb3).step ((Below.refl _ _).alloc (Nat.le_refl _) _)
  clear ho2 hb2 ho3 hB3 hb3 S2 S1
  go_wp2_with fail
  generalize hww : (w3.alloc (.cells #[.slice x1 out.st.length u1, .slice y1 out.lf.length r1, .slice z1 out.ln.length t1] 25)) = wA at *
  clear hww
  have HWA : Hid (w.heap.size ≤ wA.heap.size) := S3.2
  have VA : Hid (Vr wA w2.heap.size wA.heap.size w3.heap.size (.slice x1 out.st.length u1) (.slice y1 out.lf.length r1) (.slice z1 out.ln.length t1) out (.slice b1 did.length d1) did) := V1
  have SA : Hid (Since w.heap.size w wA) := S3
  clear V1 S3
  refine (toSts_any _ _ l (HRD.out _ SA.out) LB.out).mono ?_
  rintro e w4 ⟨v4, rfl, ho4, hb4⟩
  obtain ⟨s4, q4, rfl⟩ := ho4.shape
  have S4 : Hid (Since w.heap.size w w4) := SA.out.step hb4
  have V4 : Hid (Vr w4 w2.heap.size wA.heap.size w3.heap.size (.slice x1 out.st.length u1) (.slice y1 out.lf.length r1) (.slice z1 out.ln.length t1) out (.slice b1 did.length d1) did) := VA.out.below hb4
  have N4 : Hid (OwnSt w4 wA.heap.size (.slice s4 l.length q4) l) := ho4
  have HW4 : Hid (w.heap.size ≤ w4.heap.size) := S4.out.2
  have HAB : Hid (wA.heap.size ≤ w4.heap.size) := hb4.size
  clear ho4 hb4 VA SA
  go_wp2_with fail
  refine (CI.out w4 _ N4.out.reads).mono ?_
  rintro e w5 ⟨x2, y2, z2, b2, rfl, ho5, hB5, hb5⟩
  obtain ⟨x2, u2, rfl⟩ := ho5.st.shape
  obtain ⟨y2, r2, rfl⟩ := ho5.lf.shape
  obtain ⟨z2, t2, rfl⟩ := ho5.ln.shape
  obtain ⟨b2, d2, rfl⟩ := hB5.shape
  have V2 : Vr (w5.alloc (.cells #[.slice x2 out.st.length u2, .slice y2 out.lf.length r2, .slice z2 out.ln.length t2] 25)) w4.heap.size (w5.alloc (.cells #[.slice x2 out.st.length u2, .slice y2 out.lf.length r2, .slice z2 out.ln.length t2] 25)).heap.size w5.heap.size (.slice x2 out.st.length u2) (.slice y2 out.lf.length r2) (.slice z2 out.ln.length t2) out (.slice b2 did.length d2) did := Vr.new ho5 hB5 (Nat.le_refl _) hb5.size _
  have V1 : Vr (w5.alloc (.cells #[.slice x2 out.st.length u2, .slice y2 out.lf.length r2, .slice z2 out.ln.length t2] 25)) w2.heap.size wA.heap.size w3.heap.size (.slice x1 out.st.length u1) (.slice y1 out.lf.length r1) (.slice z1 out.ln.length t1) out (.slice b1 did.length d1) did := (V4.out.below hb5).below ((Below.refl _ _).alloc (Nat.le_refl _) _)
  have S5 : Since w.heap.size w (w5.alloc (.cells #[.slice x2 out.st.length u2, .slice y2 out.lf.length r2, .slice z2 out.ln.length t2] 25)) := (S4.out.step hb5).step ((Below.refl _ _).alloc (Nat.le_refl _) _)
  have NB : OwnSt (w5.alloc (.cells #[.slice x2 out.st.length u2, .slice y2 out.lf.length r2, .slice z2 out.ln.length t2] 25)) wA.heap.size (.slice s4 l.length q4) l := (N4.out.below hb5).below ((Below.refl _ _).alloc (Nat.le_refl _) _)
  clear ho5 hB5 hb5 S4 V4
  obtain ⟨lg, g0, g1, g2, -⟩ := V2.pv.box
  obtain ⟨lf, f0, f1, f2, -⟩ := V1.pv.box
  go_wp2_with fail
  generalize hww : (w5.alloc (.cells #[.slice x2 out.st.length u2, .slice y2 out.lf.length r2, .slice z2 out.ln.length t2] 25)) = wB at *
  clear hww
  have VB1 : Hid (Vr wB w2.heap.size wA.heap.size w3.heap.size (.slice x1 out.st.length u1) (.slice y1 out.lf.length r1) (.slice z1 out.ln.length t1) out (.slice b1 did.length d1) did) := V1
  have VB2 : Hid (Vr wB w4.heap.size wB.heap.size w5.heap.size (.slice x2 out.st.length u2) (.slice y2 out.lf.length r2) (.slice z2 out.ln.length t2) out (.slice b2 did.length d2) did) := V2
  have SB : Hid (Since w.heap.size w wB) := S5
  have NBx : Hid (OwnSt wB wA.heap.size (.slice s4 l.length q4) l) := NB
  clear V1 V2 S5 NB lg g0 g1 g2 lf f0 f1 f2
  refine (eqPair_same wB _ _ _ _ _ _ out VB2.out.pv.own.reads VB1.out.pv.own.reads O1.out O2.out O3.out).mono ?_
  rintro e m1 ⟨rfl, hb⟩
  have VB1m1 : Hid (Vr m1 w2.heap.size wA.heap.size w3.heap.size (.slice x1 out.st.length u1) (.slice y1 out.lf.length r1) (.slice z1 out.ln.length t1) out (.slice b1 did.length d1) did) := VB1.out.below hb
  have VB2m1 : Hid (Vr m1 w4.heap.size wB.heap.size w5.heap.size (.slice x2 out.st.length u2) (.slice y2 out.lf.length r2) (.slice z2 out.ln.length t2) out (.slice b2 did.length d2) did) := VB2.out.below hb
  have SBm1 : Hid (Since w.heap.size w m1) := SB.out.step hb
  have NBxm1 : Hid (OwnSt m1 wA.heap.size (.slice s4 l.length q4) l) := NBx.out.below hb
  clear hb VB1 VB2 SB NBx
  go_wp2_with fail
  refine (eqBo_same _ _ _ did VB2m1.out.ob.reads VB1m1.out.ob.reads O4.out).mono ?_
  rintro e n1 ⟨rfl, nd, hn1⟩
  have hb : Below m1.heap.size m1 n1 := by rw [hn1]; exact ((Since.start m1).drewN nd).1
  have VB1n1 : Hid (Vr n1 w2.heap.size wA.heap.size w3.heap.size (.slice x1 out.st.length u1) (.slice y1 out.lf.length r1) (.slice z1 out.ln.length t1) out (.slice b1 did.length d1) did) := VB1m1.out.below hb
  have VB2n1 : Hid (Vr n1 w4.heap.size wB.heap.size w5.heap.size (.slice x2 out.st.length u2) (.slice y2 out.lf.length r2) (.slice z2 out.ln.length t2) out (.slice b2 did.length d2) did) := VB2m1.out.below hb
  have SBn1 : Hid (Since w.heap.size w n1) := SBm1.out.step hb
  have NBxn1 : Hid (OwnSt n1 wA.heap.size (.slice s4 l.length q4) l) := NBxm1.out.below hb
  clear hb hn1 VB1m1 VB2m1 SBm1 NBxm1
  go_wp2_with fail
  refine (toSts_any _ _ l (HRD.out _ SBn1.out) LB.out).mono ?_
  rintro e w8 ⟨v8, rfl, ho8, hb8⟩
  obtain ⟨s8, q8, rfl⟩ := ho8.shape
  have S8 : Hid (Since w.heap.size w w8) := SBn1.out.step hb8
  have VC1 : Hid (Vr w8 w2.heap.size wA.heap.size w3.heap.size (.slice x1 out.st.length u1) (.slice y1 out.lf.length r1) (.slice z1 out.ln.length t1) out (.slice b1 did.length d1) did) := VB1n1.out.below hb8
  have VC2 : Hid (Vr w8 w4.heap.size wB.heap.size w5.heap.size (.slice x2 out.st.length u2) (.slice y2 out.lf.length r2) (.slice z2 out.ln.length t2) out (.slice b2 did.length d2) did) := VB2n1.out.below hb8
  have NC : Hid (OwnSt w8 wA.heap.size (.slice s4 l.length q4) l) := NBxn1.out.below hb8
  have R8 : Hid (ReadsSt w8 (.slice s8 l.length q8) l) := ho8.reads
  clear ho8 hb8 SBn1 VB1n1 VB2n1 NBxn1
  go_wp2_with fail
  refine (eqSts_same _ _ _ l NC.out.reads R8.out LB.out).mono ?_
  rintro e w9 ⟨rfl, hb9⟩
  have S9 : Hid (Since w.heap.size w w9) := S8.out.step hb9
  have VD1 : Hid (Vr w9 w2.heap.size wA.heap.size w3.heap.size (.slice x1 out.st.length u1) (.slice y1 out.lf.length r1) (.slice z1 out.ln.length t1) out (.slice b1 did.length d1) did) := VC1.out.below hb9
  have VD2 : Hid (Vr w9 w4.heap.size wB.heap.size w5.heap.size (.slice x2 out.st.length u2) (.slice y2 out.lf.length r2) (.slice z2 out.ln.length t2) out (.slice b2 did.length d2) did) := VC2.out.below hb9
  have ND : Hid (OwnSt w9 wA.heap.size (.slice s4 l.length q4) l) := NC.out.below hb9
  clear hb9 S8 VC1 VC2 NC R8
  go_wp2_with fail
  refine (MS.out _ _ _ ND.out).mono ?_
  rintro e w10 ⟨rfl, hg10⟩
  have hra : ∀ k, (Value.slice s4 l.length q4).ownBlock = some k → wA.heap.size ≤ k ∧ k < w4.heap.size := fun k hk => World.ownsRow.lt N4.out k hk
  have VE1 : Hid (Vr w10 w2.heap.size wA.heap.size w3.heap.size (.slice x1 out.st.length u1) (.slice y1 out.lf.length r1) (.slice z1 out.ln.length t1) out (.slice b1 did.length d1) did) := VD1.out.grown hg10 (fun k hk => .inr (hra k hk).1)
  have VE2 : Hid (Vr w10 w4.heap.size wB.heap.size w5.heap.size (.slice x2 out.st.length u2) (.slice y2 out.lf.length r2) (.slice z2 out.ln.length t2) out (.slice b2 did.length d2) did) := VD2.out.grown hg10 (fun k hk => .inl (hra k hk).2)
  have hwA : w.heap.size ≤ wA.heap.size := HWA.out
  have S10 : Hid (Since w.heap.size w w10) := S9.out.grown hg10 (fun k hk => Nat.le_trans hwA (hra k hk).1)
  clear hg10 hra hwA S9 VD1 VD2 ND
  obtain ⟨lg, g0, g1, g2, -⟩ := VE2.out.pv.box
  obtain ⟨lf, f0, f1, f2, -⟩ := VE1.out.pv.box
  go_wp2_with fail
  refine (eqPair_same w10 _ _ _ _ _ _ out VE2.out.pv.own.reads VE1.out.pv.own.reads O1.out O2.out O3.out).mono ?_
  rintro e m2 ⟨rfl, hb⟩
  have VE1m2 : Hid (Vr m2 w2.heap.size wA.heap.size w3.heap.size (.slice x1 out.st.length u1) (.slice y1 out.lf.length r1) (.slice z1 out.ln.length t1) out (.slice b1 did.length d1) did) := VE1.out.below hb
  have VE2m2 : Hid (Vr m2 w4.heap.size wB.heap.size w5.heap.size (.slice x2 out.st.length u2) (.slice y2 out.lf.length r2) (.slice z2 out.ln.length t2) out (.slice b2 did.length d2) did) := VE2.out.below hb
  have S10m2 : Hid (Since w.heap.size w m2) := S10.out.step hb
  clear hb VE1 VE2 S10 lg g0 g1 g2 lf f0 f1 f2
  go_wp2_with fail
  refine (eqBo_same _ _ _ did VE2m2.out.ob.reads VE1m2.out.ob.reads O4.out).mono ?_
  rintro e n2 ⟨rfl, nd, hn2⟩
  have hb : Below m2.heap.size m2 n2 := by rw [hn2]; exact ((Since.start m2).drewN nd).1
  have VE1n2 : Hid (Vr n2 w2.heap.size wA.heap.size w3.heap.size (.slice x1 out.st.length u1) (.slice y1 out.lf.length r1) (.slice z1 out.ln.length t1) out (.slice b1 did.length d1) did) := VE1m2.out.below hb
  have VE2n2 : Hid (Vr n2 w4.heap.size wB.heap.size w5.heap.size (.slice x2 out.st.length u2) (.slice y2 out.lf.length r2) (.slice z2 out.ln.length t2) out (.slice b2 did.length d2) did) := VE2m2.out.below hb
  have S10n2 : Hid (Since w.heap.size w n2) := S10m2.out.step hb
  clear hb hn2 VE1m2 VE2m2 S10m2
  obtain ⟨lg, g0, g1, g2, -⟩ := VE2n2.out.pv.box
  go_wp2_with fail
  refine (MP.out _ _ _ _ _ VE2n2.out.pv.own (by have := VE2n2.out.fit; have := VE2n2.out.pv.rng; omega)).mono ?_
  rintro e w13 ⟨rfl, ho13, hb13, hk13⟩
  have hw4 : w.heap.size ≤ w4.heap.size := HW4.out
  have VF2 : Hid (Vr w13 w4.heap.size wB.heap.size w5.heap.size (.slice x2 out.st.length u2) (.slice y2 out.lf.length r2) (.slice z2 out.ln.length t2) (markPr out 1) (.slice b2 did.length d2) did) := VE2n2.out.markP hk13 ho13
  have VF1 : Hid (Vr w13 w2.heap.size wA.heap.size w3.heap.size (.slice x1 out.st.length u1) (.slice y1 out.lf.length r1) (.slice z1 out.ln.length t1) out (.slice b1 did.length d1) did) := VE1n2.out.keep hk13 (fun j h1 h2 hh => by have h3 := (VE2n2.out.pv.own.lt j hh).1; have h4 := HAB.out; omega)
  have S13 : Hid (Since w.heap.size w w13) := ⟨S10n2.out.1.trans (hb13.mono hw4), Nat.le_trans S10n2.out.2 hk13.size⟩
  clear ho13 hb13 hk13 lg g0 g1 g2 VE1n2 VE2n2 S10n2
  go_wp2_with fail
  refine (MB.out _ _ _ VF2.out.ob).mono ?_
  rintro e w14 ⟨rfl, ho14, hz14, hg14⟩
  have hrb : ∀ k, (Value.slice b2 did.length d2).ownBlock = some k → w4.heap.size ≤ k := fun k hk => (World.ownsRow.lt VF2.out.ob k hk).1
  have VG2 : Hid (Vr w14 w4.heap.size wB.heap.size w5.heap.size (.slice x2 out.st.length u2) (.slice y2 out.lf.length r2) (.slice z2 out.ln.length t2) (markPr out 1) (.slice b2 did.length d2) mb) := VF2.out.markB hg14 ho14
  have VG1 : Hid (Vr w14 w2.heap.size wA.heap.size w3.heap.size (.slice x1 out.st.length u1) (.slice y1 out.lf.length r1) (.slice z1 out.ln.length t1) out (.slice b1 did.length d1) did) := VF1.out.grown hg14 (fun k hk => .inr (Nat.le_trans HAB.out (hrb k hk)))
  have S14 : Hid (Since w.heap.size w w14) := S13.out.grown hg14 (fun k hk => Nat.le_trans hw4 (hrb k hk))
  clear ho14 hz14 hg14 hrb VF1 VF2 S13 hw4
  obtain ⟨lg, g0, g1, g2, -⟩ := VG2.out.pv.box
  go_wp2_with fail
  refine (HP.out _ _ _ _ VG2.out.pv.own.reads).mono ?_
  rintro e w15 ⟨rfl, hb15⟩
  have VH2 : Hid (Vr w15 w4.heap.size wB.heap.size w5.heap.size (.slice x2 out.st.length u2) (.slice y2 out.lf.length r2) (.slice z2 out.ln.length t2) (markPr out 1) (.slice b2 did.length d2) mb) := VG2.out.below hb15
  have VH1 : Hid (Vr w15 w2.heap.size wA.heap.size w3.heap.size (.slice x1 out.st.length u1) (.slice y1 out.lf.length r1) (.slice z1 out.ln.length t1) out (.slice b1 did.length d1) did) := VG1.out.below hb15
  have S15 : Hid (Since w.heap.size w w15) := S14.out.step hb15
  clear hb15 lg g0 g1 g2 VG1 VG2 S14
  go_wp2_with fail
  refine (HB.out _ _ VH2.out.ob.reads).mono ?_
  rintro e w15' ⟨rfl, hw15⟩
  obtain rfl : w15 = w15' := hw15.symm
  go_wp2_with fail
  refine (toSts_any _ _ l (HRD.out _ S15.out) LB.out).mono ?_
  rintro e w16 ⟨v16, rfl, ho16, hb16⟩
  obtain ⟨s16, q16, rfl⟩ := ho16.shape
  have S16 : Hid (Since w.heap.size w w16) := S15.out.step hb16
  have VI2 : Hid (Vr w16 w4.heap.size wB.heap.size w5.heap.size (.slice x2 out.st.length u2) (.slice y2 out.lf.length r2) (.slice z2 out.ln.length t2) (markPr out 1) (.slice b2 did.length d2) mb) := VH2.out.below hb16
  have VI1 : Hid (Vr w16 w2.heap.size wA.heap.size w3.heap.size (.slice x1 out.st.length u1) (.slice y1 out.lf.length r1) (.slice z1 out.ln.length t1) out (.slice b1 did.length d1) did) := VH1.out.below hb16
  have R16 : Hid (ReadsSt w16 (.slice s16 l.length q16) l) := ho16.reads
  clear ho16 hb16 S15 VH1 VH2
  go_wp2_with fail
  refine (CI.out w16 _ R16.out).mono ?_
  rintro e w17 ⟨x3, y3, z3, b3, rfl, ho17, hB17, hb17⟩
  obtain ⟨x3, u3, rfl⟩ := ho17.st.shape
  obtain ⟨y3, r3, rfl⟩ := ho17.lf.shape
  obtain ⟨z3, t3, rfl⟩ := ho17.ln.shape
  obtain ⟨b3, d3, rfl⟩ := hB17.shape
  have V3 : Vr (w17.alloc (.cells #[.slice x3 out.st.length u3, .slice y3 out.lf.length r3, .slice z3 out.ln.length t3] 25)) w16.heap.size (w17.alloc (.cells #[.slice x3 out.st.length u3, .slice y3 out.lf.length r3, .slice z3 out.ln.length t3] 25)).heap.size w17.heap.size (.slice x3 out.st.length u3) (.slice y3 out.lf.length r3) (.slice z3 out.ln.length t3) out (.slice b3 did.length d3) did := Vr.new ho17 hB17 (Nat.le_refl _) hb17.size _
  have V1 : Vr (w17.alloc (.cells #[.slice x3 out.st.length u3, .slice y3 out.lf.length r3, .slice z3 out.ln.length t3] 25)) w2.heap.size wA.heap.size w3.heap.size (.slice x1 out.st.length u1) (.slice y1 out.lf.length r1) (.slice z1 out.ln.length t1) out (.slice b1 did.length d1) did := (VI1.out.below hb17).below ((Below.refl _ _).alloc (Nat.le_refl _) _)
  have V2 : Vr (w17.alloc (.cells #[.slice x3 out.st.length u3, .slice y3 out.lf.length r3, .slice z3 out.ln.length t3] 25)) w4.heap.size wB.heap.size w5.heap.size (.slice x2 out.st.length u2) (.slice y2 out.lf.length r2) (.slice z2 out.ln.length t2) (markPr out 1) (.slice b2 did.length d2) mb := (VI2.out.below hb17).below ((Below.refl _ _).alloc (Nat.le_refl _) _)
  have S17 : Since w.heap.size w (w17.alloc (.cells #[.slice x3 out.st.length u3, .slice y3 out.lf.length r3, .slice z3 out.ln.length t3] 25)) := (S16.out.step hb17).step ((Below.refl _ _).alloc (Nat.le_refl _) _)
  clear ho17 hB17 hb17 S16 VI1 VI2 R16
  obtain ⟨lg, g0, g1, g2, -⟩ := V3.pv.box
  obtain ⟨lf, f0, f1, f2, -⟩ := V1.pv.box
  go_wp2_with fail
  generalize hww : (w17.alloc (.cells #[.slice x3 out.st.length u3, .slice y3 out.lf.length r3, .slice z3 out.ln.length t3] 25)) = wC at *
  clear hww
  have VJ1 : Hid (Vr wC w2.heap.size wA.heap.size w3.heap.size (.slice x1 out.st.length u1) (.slice y1 out.lf.length r1) (.slice z1 out.ln.length t1) out (.slice b1 did.length d1) did) := V1
  have VJ2 : Hid (Vr wC w4.heap.size wB.heap.size w5.heap.size (.slice x2 out.st.length u2) (.slice y2 out.lf.length r2) (.slice z2 out.ln.length t2) (markPr out 1) (.slice b2 did.length d2) mb) := V2
  have VJ3 : Hid (Vr wC w16.heap.size wC.heap.size w17.heap.size (.slice x3 out.st.length u3) (.slice y3 out.lf.length r3) (.slice z3 out.ln.length t3) out (.slice b3 did.length d3) did) := V3
  have SC : Hid (Since w.heap.size w wC) := S17
  clear V1 V2 V3 S17 lg g0 g1 g2 lf f0 f1 f2
  refine (eqPair_same wC _ _ _ _ _ _ out VJ3.out.pv.own.reads VJ1.out.pv.own.reads O1.out O2.out O3.out).mono ?_
  rintro e m3 ⟨rfl, hb⟩
  have VJ1m3 : Hid (Vr m3 w2.heap.size wA.heap.size w3.heap.size (.slice x1 out.st.length u1) (.slice y1 out.lf.length r1) (.slice z1 out.ln.length t1) out (.slice b1 did.length d1) did) := VJ1.out.below hb
  have VJ2m3 : Hid (Vr m3 w4.heap.size wB.heap.size w5.heap.size (.slice x2 out.st.length u2) (.slice y2 out.lf.length r2) (.slice z2 out.ln.length t2) (markPr out 1) (.slice b2 did.length d2) mb) := VJ2.out.below hb
  have VJ3m3 : Hid (Vr m3 w16.heap.size wC.heap.size w17.heap.size (.slice x3 out.st.length u3) (.slice y3 out.lf.length r3) (.slice z3 out.ln.length t3) out (.slice b3 did.length d3) did) := VJ3.out.below hb
  have SCm3 : Hid (Since w.heap.size w m3) := SC.out.step hb
  clear hb VJ1 VJ2 VJ3 SC
  go_wp2_with fail
  refine (eqBo_same _ _ _ did VJ3m3.out.ob.reads VJ1m3.out.ob.reads O4.out).mono ?_
  rintro e n3 ⟨rfl, nd, hn3⟩
  have hb : Below m3.heap.size m3 n3 := by rw [hn3]; exact ((Since.start m3).drewN nd).1
  have VJ1n3 : Hid (Vr n3 w2.heap.size wA.heap.size w3.heap.size (.slice x1 out.st.length u1) (.slice y1 out.lf.length r1) (.slice z1 out.ln.length t1) out (.slice b1 did.length d1) did) := VJ1m3.out.below hb
  have VJ2n3 : Hid (Vr n3 w4.heap.size wB.heap.size w5.heap.size (.slice x2 out.st.length u2) (.slice y2 out.lf.length r2) (.slice z2 out.ln.length t2) (markPr out 1) (.slice b2 did.length d2) mb) := VJ2m3.out.below hb
  have VJ3n3 : Hid (Vr n3 w16.heap.size wC.heap.size w17.heap.size (.slice x3 out.st.length u3) (.slice y3 out.lf.length r3) (.slice z3 out.ln.length t3) out (.slice b3 did.length d3) did) := VJ3m3.out.below hb
  have SCn3 : Hid (Since w.heap.size w n3) := SCm3.out.step hb
  clear hb hn3 VJ1m3 VJ2m3 VJ3m3 SCm3
  obtain ⟨lg, g0, g1, g2, -⟩ := VJ2n3.out.pv.box
  go_wp2_with fail
  refine (HP.out _ _ _ _ VJ2n3.out.pv.own.reads).mono ?_
  rintro e w20 ⟨rfl, hb20⟩
  have VK2 : Hid (Vr w20 w4.heap.size wB.heap.size w5.heap.size (.slice x2 out.st.length u2) (.slice y2 out.lf.length r2) (.slice z2 out.ln.length t2) (markPr out 1) (.slice b2 did.length d2) mb) := VJ2n3.out.below hb20
  have S20 : Hid (Since w.heap.size w w20) := SCn3.out.step hb20
  clear hb20 lg g0 g1 g2 VJ1n3 VJ2n3 VJ3n3 SCn3
  go_wp2_with fail
  refine (HB.out _ _ VK2.out.ob.reads).mono ?_
  rintro e w21 ⟨rfl, hw21⟩
  obtain rfl : w20 = w21 := hw21.symm
  go_wp2
  go_ret
  exact ⟨rfl, S20.out.1⟩

set_option maxRecDepth 100000 in
theorem contract (H : Type) (enc : TypeId × Value → H) (W : World) (base : Nat) (args : Array Value) (ds gs : List (DataW H)) (before : List MemPlace)
    (hval : ∀ (j : Nat) t v, Try.f6.params[j]? = some t → args[j]? = some v → Value.okWide Try.prog W .any base t v)
    (hW : DataW.Whole enc Try.prog Try.f6.params.toList Rows.fnExactPlayPairSpec.vars false W args.toList ds gs before) :
    Calls Try.prog 6 args W fun e W' => ∃ v, e = .returned v ∧ Rows.fnExactPlayPairSpec.post enc Try.prog Try.f6 false true false false W args v W' := by
  have hW' := hW
  obtain ⟨p, q, hA0, hV0, rfl, hfz, hnd⟩ := hW
  have hA : DataW.TrodAll enc Try.prog W 0 (fun _ => true) true Try.f6.params.toList args.toList ds p := hA0
  rw [Try.params6] at hA hval
  obtain ⟨v0, vs0, d0, ds0, p0, q0, hargs, rfl, rfl, h0, r0⟩ := trodAll_cons hA
  obtain ⟨rfl, rfl, rfl⟩ := trodAll_nil r0
  obtain rfl : args = #[v0] := by cases args; simp_all
  obtain ⟨rfl, rfl⟩ := trodVars_none hV0
  obtain ⟨a0, len0, cap0, rfl⟩ := okWide_slice Try.underlying44 (hval 0 44 v0 rfl rfl)
  have k0 := h0
  have lt0 : ∀ x ∈ p0, x.block < W.heap.size := by obtain ⟨m, hm⟩ := k0; exact DataW.trod_lt m _ _ _ hm
  obtain ⟨ps0, hr0, hz0⟩ := Sts_of k0
  clear hA0 hV0
  refine (walk _ ps0 W hr0 hz0).mono fun e W' ⟨he, bel⟩ => ?_
  subst he
  exact ⟨_, rfl, _, _, _, [], _, [], hW', trodAll_mk1 (shut_bool Try.underlying4 _), (trodAll_cons_mk (Below.trod laidOut (by kernel_rfl) (of_decide_eq_true (by kernel_rfl)) k0 bel lt0) trodAll_mk0), rfl, bel.frame _, fun h => by cases h⟩

set_option maxRecDepth 100000 in
theorem lifted (os : Os) (started : os.Started) (H : Type) (enc : TypeId × Value → H) :
    ReturnsInHanded {} Try.checked os 6 .any (Rows.fnExactPlayPairSpec.pre6 enc Try.prog Try.f6 Rows.fnExactPlayPairRow.domain false) (Rows.fnExactPlayPairSpec.post enc Try.prog Try.f6 false true false false) := by
  refine returnsInHanded_of_change (C := Try.checked) own started (by kernel_rfl) Try.func6
    (ChangeSpec.witness6 (enc := enc) (C := Try.checked) false ⟨#[], #[.slice none 0 0], []⟩ 8 (by kernel_rfl) (by kernel_rfl) (by kernel_rfl) (by kernel_rfl)) ?_
  intro W base args ds gs before hval hW _ _
  exact contract H enc W base args ds gs before hval hW

/-- The statement. -/
theorem said : Rows.FnExactPlayPairSaid :=
  OpenClaim.holds_of_wide 6 Try.f6 rfl rfl rfl rfl rfl rfl rfl ⟨rfl, rfl, rfl, rfl, rfl⟩ rfl rfl rfl rfl rfl (by kernel_rfl) Try.func6 (by kernel_rfl)
    (of_decide_eq_true (by kernel_rfl)) (by unfold Func.isWrapper; first | (rw [if_pos (by decide +kernel)]; kernel_rfl) | (rw [if_neg (by decide +kernel)]; exact ⟨rfl, rfl⟩))
    (fun os started H enc _ => lifted os started H enc)
#print axioms said
end Go.Proofs.Ytchddjidjfpehat.fnExactPlayPair
