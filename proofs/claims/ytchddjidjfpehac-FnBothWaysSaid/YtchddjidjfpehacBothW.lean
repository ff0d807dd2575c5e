/-
  The walk of the law FnBothWays.
-/
import Derived.Test.YtchddjidjfpehacGrBwS
import Derived.Test.YtchddjidjfpehacGrNearS
import Derived.Test.YtchddjidjfpehacDrawTd
import Derived.Deep.CutRange
import Derived.Deep.Cut
namespace Go.Proofs.Ytchddjidjfpehac
open Go.RowKit
set_option linter.unusedVariables false

set_option maxRecDepth 100000 in
set_option maxHeartbeats 2000000 in
theorem has_yes (W : World) (v : Value) (zs : List Int) (n : Int) (h : Reads W v zs) (hl : zs.length ≤ 4194304) (hn : n ∈ zs) :
    Calls Try.prog 18 #[v, .int .i64 n] W fun e W' => e = .returned (.bool true) ∧ W' = W := by
  obtain ⟨a1, cap1, rfl, hc1⟩ := h
  obtain ⟨g1, o1, rfl, -, hc1⟩ := hc1.resolve_left (fun e => by rw [e] at hn; cases hn)
  have HC1 : Hid (∀ j (hj : j < zs.length), W.cell? ⟨g1, o1 + j, none⟩ = some (.int .i64 zs[j])) := hc1
  have HIN : Hid (∃ j, ∃ hj : j < zs.length, zs[j] = n) := by
    obtain ⟨j, hj, e⟩ := List.getElem_of_mem hn
    exact ⟨j, hj, e⟩
  clear hc1 hn
  go_enter Try.func18, Try.ntmps18
  go_wp2
  go_loop [9] (fun i => ∃ k : Nat, k ≤ zs.length ∧ i = .int .i64 k ∧ Hid (∀ j (hj : j < zs.length), j < k → ¬ zs[j] = n)) (fun i => zs.length - (intOf i).toNat)
  case atStart => exact ⟨0, Nat.zero_le _, rfl, fun j _ hj => absurd hj (Nat.not_lt_zero _)⟩
  case round =>
    obtain ⟨k, hk, rfl, HK⟩ := hrel
    by_cases hlt : k < zs.length
    · have hlt' : (k : Int) < (zs.length : Int) := by omega
      have q0 := HC1.out k hlt
      have HKN : Hid (¬ zs[k] = n → ∀ j (hj : j < zs.length), j < k + 1 → ¬ zs[j] = n) := fun hn j hj hjk => by
        by_cases e : j = k
        · subst e; exact hn
        · exact HK.out j hj (by omega)
      clear HK
      generalize zs[k] = z at *
      by_cases hz : z = n
      · have d1 : (z == n) = true := beq_iff_eq.2 hz
        clear hz
        go_wp2
        go_ret
        exact ⟨rfl, rfl⟩
      · have d1 : (z == n) = false := beq_eq_false_iff_ne.2 hz
        have HK1 : Hid (∀ j (hj : j < zs.length), j < k + 1 → ¬ zs[j] = n) := HKN.out hz
        clear hz HKN
        go_wp2
        go_round
        case rel => exact ⟨k + 1, by omega, by go_num, HK1.out⟩
        case measure => simp [intOf]; omega
    · obtain ⟨j, hj, e⟩ := HIN.out
      exact absurd e (HK.out j hj (by omega))

theorem code_since8 {B : Nat} {w0 W : World} {a : Option Addr} {len : Nat} (h : Code B w0 a len) (hs : Since B w0 W) : Code W.heap.size W a len := by
  rcases h with h | ⟨b, off, ha, hb, hc⟩
  · exact .inl h
  · refine .inr ⟨b, off, ha, Nat.lt_of_lt_of_le hb hs.2, fun j hj => ?_⟩
    obtain ⟨z, z0, z1, hz⟩ := hc j hj
    exact ⟨z, z0, z1, (World.cell?_of_block (a := ⟨b, off + j, none⟩) (hs.1.block b hb)).trans hz⟩

/-- A row that is one's own, by its cells, for good. -/
theorem own_cells8 {W : World} {B : Nat} {a : Option Addr} {n c : Nat} {zs : List Int} (h : Own W B (.slice a n c) zs) : ∀ j, j < zs.length → ∃ g o, a = some ⟨g, o, none⟩ ∧ ∀ W', Since W.heap.size W W' → ∀ hj : j < zs.length, W'.cell? ⟨g, o + j, none⟩ = some (.int .i64 zs[j]) := fun j hj => by
  obtain ⟨a1, c1, hv, hc⟩ := h.reads
  simp only [Value.slice.injEq] at hv
  obtain ⟨rfl, rfl, rfl⟩ := hv
  obtain ⟨g, o, rfl, hg, hcell⟩ := hc.resolve_left (fun e => by rw [e] at hj; exact absurd hj (Nat.not_lt_zero _))
  exact ⟨g, o, rfl, fun W' hs hj => (hs.1.cell (p := ⟨g, o + j, none⟩) hg).trans (hcell j hj)⟩

/-- What each edge of all that both ends tell costs. -/
theorem bwAll_cost {l : List TdD} {n k : Nat} {e : EdD} (h : e ∈ bwAll l n k) : 0 < lastTd l e.A e.B ∧ 0 < lastTd l e.B e.A ∧ e.Cost = max (lastTd l e.A e.B) (lastTd l e.B e.A) := by
  obtain ⟨a, h1, h2⟩ := (mem_bwAll l _ e _).1 h
  obtain ⟨j, h3, h4, h5⟩ := (mem_bwRow l a e _).1 h2
  obtain ⟨⟨p1, p2⟩, rfl⟩ := (mem_bwOne l _ _ e).1 h5
  exact ⟨p1, p2, rfl⟩

namespace fnBothWays
set_option maxRecDepth 100000 in
set_option maxHeartbeats 16000000 in
theorem walk (a0 : Option Addr) (len0 cap0 : Nat) (a1 : Option Addr) (len1 cap1 : Nat) (w : World) (hc0 : Code w.heap.size w a0 len0) (hl0 : len0 ≤ 9223372036854775807) (hc1 : Code w.heap.size w a1 len1) (hl1 : len1 ≤ 9223372036854775807) :
    Calls Try.prog 6 #[.slice a0 len0 cap0, .slice a1 len1 cap1] w fun e w' => e = .returned (.bool true) ∧ Below w.heap.size w w' := by
  have HC0 : Hid (Code w.heap.size w a0 len0) := hc0
  have HC1 : Hid (Code w.heap.size w a1 len1) := hc1
  have S0 : Hid (Since w.heap.size w w) := Since.start w
  clear hc0 hc1
  obtain ⟨X, hX⟩ : ∃ X : Int, IntKind.i64.wrap ((len0 : Int) + (len1 : Int)) = X := ⟨_, rfl⟩
  by_cases hbig : 1048576 < X
  · have hbig' : decide ((1048576 : Int) < X) = true := decide_eq_true hbig
    go_enter Try.func6, Try.ntmps6
    go_wp2
    go_ret
    exact ⟨rfl, Below.refl _ _⟩
  have hbig' : decide ((1048576 : Int) < X) = false := decide_eq_false hbig
  go_enter Try.func6, Try.ntmps6
  go_wp2_with fail
  refine (drawBoth_any w.heap.size w _ a0 len0 cap0 HC0.out hl0 S0.out).mono ?_
  rintro e w1 ⟨n, v1, l, rfl, ho1, hl40, hn6, hs1⟩
  obtain ⟨x1, y1, rfl⟩ := ho1.shape
  have S1 : Hid (Since w.heap.size w w1) := hs1
  have L1 : Hid (OwnTd w1 w.heap.size (.slice x1 l.length y1) l) := ho1
  have HL40 : Hid (l.length ≤ 40) := hl40
  clear ho1 hs1
  obtain ⟨bw, hbw⟩ : ∃ bw, bw = bwOut (n : Int) l := ⟨_, rfl⟩
  obtain ⟨ok, hok⟩ : ∃ ok, ok = goodJTd (n : Int) l 80 := ⟨_, rfl⟩
  have CB : Hid (∀ (W : World) (v : Value), ReadsTd W v l → Calls Try.prog 39 #[.int .i64 (n : Int), v] W (EdPost W bw ok)) := fun W v h => by
    rw [hbw, hok]; exact implBothWays_any W v (n : Int) l h (Nat.le_trans HL40.out (by decide))
  have CBS : Hid (∀ (W : World) (v : Value), ReadsTd W v l → Calls Try.prog 40 #[.int .i64 (n : Int), v] W (EdPost W bw ok)) := fun W v h => by
    rw [hbw, hok]; exact specBothWays_any W v (n : Int) l h (Nat.le_trans HL40.out (by decide))
  have BLEN : Hid (bw.length ≤ 4194304) := by show _ ≤ _; rw [hbw]; exact bwOut_len _ _
  have HGE : Hid (ok = true → goodEd (n : Int) bw = true ∧ ∀ e ∈ bw, 0 < lastTd l e.A e.B ∧ 0 < lastTd l e.B e.A ∧ e.Cost = max (lastTd l e.A e.B) (lastTd l e.B e.A)) := fun ho => by
    have hgd := hok.symm.trans ho
    have e1 : bw = bwAll l n n := by rw [hbw]; unfold bwOut; rw [hgd]; rfl
    rw [e1]
    exact ⟨by have := bwAll_good hgd; exact this, fun e he => bwAll_cost he⟩
  clear hbw hok
  go_wp2_with fail
  refine (CB.out _ _ L1.out.reads).mono ?_
  rintro e w2 ⟨u2, rfl, ho2, hb2⟩
  obtain ⟨x2, y2, rfl⟩ := ho2.shape
  have S2 : Hid (Since w.heap.size w w2) := S1.out.step hb2
  have B2 : Hid (OwnEd w2 w.heap.size (.slice x2 bw.length y2) bw) := ho2.mono S1.out.2
  have L2 : Hid (OwnTd w2 w.heap.size (.slice x1 l.length y1) l) := L1.out.below hb2
  clear ho2 hb2 L1
  go_wp2_with fail
  refine (CBS.out _ _ L2.out.reads).mono ?_
  rintro e w3 ⟨u3, rfl, ho3, hb3⟩
  obtain ⟨x3, y3, rfl⟩ := ho3.shape
  have S3 : Hid (Since w.heap.size w w3) := S2.out.step hb3
  have C3 : Hid (OwnEd w3 w.heap.size (.slice x3 bw.length y3) bw) := ho3.mono S2.out.2
  have B3 : Hid (OwnEd w3 w.heap.size (.slice x2 bw.length y2) bw) := B2.out.below hb3
  have L3 : Hid (OwnTd w3 w.heap.size (.slice x1 l.length y1) l) := L2.out.below hb3
  clear ho3 hb3 L2 B2
  go_wp2_with fail
  refine (sameEds_same _ _ _ bw B3.out.reads C3.out.reads BLEN.out).mono ?_
  rintro e w4 ⟨rfl, hb4⟩
  have S4 : Hid (Since w.heap.size w w4) := S3.out.step hb4
  have B4 : Hid (OwnEd w4 w.heap.size (.slice x2 bw.length y2) bw) := B3.out.below hb4
  have L4 : Hid (OwnTd w4 w.heap.size (.slice x1 l.length y1) l) := L3.out.below hb4
  clear hb4 L3 B3 C3 CB CBS
  cases hok : ok with
  | false =>
    rw [hok] at *
    clear HGE
    go_wp2_with fail
    refine (drawNear_any w.heap.size w _ a1 len1 cap1 HC1.out hl1 S4.out).mono ?_
    rintro e wa ⟨m, va, ea, at_, rfl, hoa, hla, hma, hsa⟩
    obtain ⟨xa, ya, rfl⟩ := hoa.shape
    have SA : Hid (Since w.heap.size w wa) := hsa
    have LA : Hid (OwnEd wa w.heap.size (.slice xa ea.length ya) ea) := hoa.mono S4.out.2
    have HLA : Hid (ea.length ≤ 40) := hla
    clear hoa hsa hla
    obtain ⟨nr, hnr⟩ : ∃ nr, nr = nearOut (m : Int) ea at_ := ⟨_, rfl⟩
    obtain ⟨no, hno⟩ : ∃ no, no = nearOk (m : Int) ea at_ := ⟨_, rfl⟩
    have NLEN : Hid (nr.length ≤ 4194304) := by show _ ≤ _; rw [hnr]; exact nearOut_len _ _ _
    have CN : Hid (∀ (W : World) (v : Value), ReadsEd W v ea → Calls Try.prog 43 #[.int .i64 (m : Int), v, .int .i64 at_] W (NearPost W nr no)) := fun W v h => by
      rw [hnr, hno]; exact implNearOf_any W v (m : Int) ea at_ h (Nat.le_trans HLA.out (by decide))
    have CNS : Hid (∀ (W : World) (v : Value), ReadsEd W v ea → Calls Try.prog 44 #[.int .i64 (m : Int), v, .int .i64 at_] W (NearPost W nr no)) := fun W v h => by
      rw [hnr, hno]; exact specNearOf_any W v (m : Int) ea at_ h (Nat.le_trans HLA.out (by decide))
    have HBK : Hid (no = true → ∀ z ∈ nr, ∃ bk : List Int, bk.length ≤ 4194304 ∧ at_ ∈ bk ∧ ∀ (W : World) (v : Value), ReadsEd W v ea → Calls Try.prog 43 #[.int .i64 (m : Int), v, .int .i64 z] W (NearPost W bk true)) := fun ho z hz => by
      have hk := hno.symm.trans ho
      have hk2 := hk
      unfold nearOk at hk2
      rw [Bool.and_eq_true] at hk2
      obtain ⟨hn1, -, hfit, -⟩ := goodEd_true hk2.1
      have hat := of_decide_eq_true hk2.2
      have e1 : nr = nearTo ea at_ m := by rw [hnr]; unfold nearOut; rw [hk]; rfl
      rw [e1] at hz
      obtain ⟨x, hx, hh⟩ := (mem_nearTo hfit at_ z).1 hz
      have hxf := hfit x hx
      have hzr : 0 ≤ z ∧ z < (m : Int) := by omega
      have hkz : nearOk (m : Int) ea z = true := by unfold nearOk; rw [hk2.1, decide_eq_true hzr]; rfl
      refine ⟨nearOut (m : Int) ea z, nearOut_len _ _ _, ?_, fun W v h => ?_⟩
      · have e2 : nearOut (m : Int) ea z = nearTo ea z m := by unfold nearOut; rw [hkz]; rfl
        rw [e2]
        exact (mem_nearTo hfit z at_).2 ⟨x, hx, hh.elim (fun h => .inr ⟨h.2, h.1⟩) fun h => .inl ⟨h.2, h.1⟩⟩
      · have := implNearOf_any W v (m : Int) ea z h (Nat.le_trans HLA.out (by decide))
        rw [hkz] at this
        exact this
    clear hnr hno
    go_wp2_with fail
    refine (CN.out _ _ LA.out.reads).mono ?_
    rintro e wb ⟨ub, rfl, hob, hbb⟩
    obtain ⟨xb, yb, rfl⟩ := hob.shape
    have SB : Hid (Since w.heap.size w wb) := SA.out.step hbb
    have NB : Hid (Own wb w.heap.size (.slice xb nr.length yb) nr) := hob.mono SA.out.2
    have LB : Hid (OwnEd wb w.heap.size (.slice xa ea.length ya) ea) := LA.out.below hbb
    clear hob hbb LA SA
    go_wp2_with fail
    refine (CNS.out _ _ LB.out.reads).mono ?_
    rintro e wc ⟨uc, rfl, hoc, hbc⟩
    obtain ⟨xc, yc, rfl⟩ := hoc.shape
    have SC : Hid (Since w.heap.size w wc) := SB.out.step hbc
    have NC : Hid (Own wc w.heap.size (.slice xb nr.length yb) nr) := NB.out.below hbc
    have MC : Hid (Own wc w.heap.size (.slice xc nr.length yc) nr) := hoc.mono SB.out.2
    have LC : Hid (OwnEd wc w.heap.size (.slice xa ea.length ya) ea) := LB.out.below hbc
    clear hoc hbc LB SB NB CN CNS
    have HCC : Hid (Code wc.heap.size wc a1 len1) := code_since8 HC1.out SC.out
    go_wp2_with fail
    refine (drawWo_any wc.heap.size wc _ a1 len1 cap1 HCC.out hl1 (Since.start wc)).mono ?_
    rintro e wd ⟨om, vd, ed, kd, rfl, hod, hld, hmd, hsd⟩
    obtain ⟨xd, yd, rfl⟩ := hod.shape
    have SDC : Hid (Since wc.heap.size wc wd) := hsd
    have SD : Hid (Since w.heap.size w wd) := SC.out.tran SDC.out
    have ED : Hid (OwnEd wd w.heap.size (.slice xd ed.length yd) ed) := hod.mono SC.out.2
    have ND : Hid (Own wd w.heap.size (.slice xb nr.length yb) nr) := NC.out.below SDC.out.1
    have MD : Hid (Own wd w.heap.size (.slice xc nr.length yc) nr) := MC.out.below SDC.out.1
    have LD : Hid (OwnEd wd w.heap.size (.slice xa ea.length ya) ea) := LC.out.below SDC.out.1
    clear hod hsd NC MC LC SC SDC HCC
    obtain ⟨wo, hwo⟩ : ∃ wo, wo = woOut (om : Int) ed kd := ⟨_, rfl⟩
    obtain ⟨wk, hwk⟩ : ∃ wk, wk = woOk (om : Int) ed kd := ⟨_, rfl⟩
    have WLEN : Hid (wo.length ≤ 4194304) := by show _ ≤ _; rw [hwo]; exact woOut_len _ _ _
    have CW : Hid (∀ (W : World) (v : Value), OwnEd W w.heap.size v ed → Calls Try.prog 46 #[.int .i64 (om : Int), v, .int .i64 kd] W (EdPost W wo wk)) := fun W v h => by
      rw [hwo, hwk]; exact implWithoutEdge_any W w.heap.size v (om : Int) ed kd h (Nat.le_trans hld (by decide))
    have CWS : Hid (∀ (W : World) (v : Value), OwnEd W w.heap.size v ed → Calls Try.prog 47 #[.int .i64 (om : Int), v, .int .i64 kd] W (EdPost W wo wk)) := fun W v h => by
      rw [hwo, hwk]; exact specWithoutEdge_any W w.heap.size v (om : Int) ed kd h (Nat.le_trans hld (by decide))
    clear hwo hwk hld
    go_wp2_with fail
    refine (CW.out _ _ ED.out).mono ?_
    rintro e we ⟨ue, rfl, hoe, hbe⟩
    obtain ⟨xe, ye, rfl⟩ := hoe.shape
    have SE : Hid (Since w.heap.size w we) := SD.out.step hbe
    have WE : Hid (OwnEd we w.heap.size (.slice xe wo.length ye) wo) := hoe.mono SD.out.2
    have EE : Hid (OwnEd we w.heap.size (.slice xd ed.length yd) ed) := ED.out.below hbe
    have NE : Hid (Own we w.heap.size (.slice xb nr.length yb) nr) := ND.out.below hbe
    have ME : Hid (Own we w.heap.size (.slice xc nr.length yc) nr) := MD.out.below hbe
    have LE : Hid (OwnEd we w.heap.size (.slice xa ea.length ya) ea) := LD.out.below hbe
    clear hoe hbe ED ND MD LD SD
    go_wp2_with fail
    refine (CWS.out _ _ EE.out).mono ?_
    rintro e wf ⟨uf, rfl, hof, hbf⟩
    obtain ⟨xf, yf, rfl⟩ := hof.shape
    have SF_ : Hid (Since w.heap.size w wf) := SE.out.step hbf
    have WF : Hid (OwnEd wf w.heap.size (.slice xe wo.length ye) wo) := WE.out.below hbf
    have VF : Hid (OwnEd wf w.heap.size (.slice xf wo.length yf) wo) := hof.mono SE.out.2
    have NF_ : Hid (Own wf w.heap.size (.slice xb nr.length yb) nr) := NE.out.below hbf
    have MF : Hid (Own wf w.heap.size (.slice xc nr.length yc) nr) := ME.out.below hbf
    have LF : Hid (OwnEd wf w.heap.size (.slice xa ea.length ya) ea) := LE.out.below hbf
    clear hof hbf WE EE NE ME LE SE CW CWS
    go_wp2_with fail
    refine (sameInts_same _ _ _ nr NF_.out.reads MF.out.reads NLEN.out).mono ?_
    rintro e wg ⟨rfl, hbg⟩
    have SG : Hid (Since w.heap.size w wg) := SF_.out.step hbg
    have WG : Hid (OwnEd wg w.heap.size (.slice xe wo.length ye) wo) := WF.out.below hbg
    have VG : Hid (OwnEd wg w.heap.size (.slice xf wo.length yf) wo) := VF.out.below hbg
    have NG : Hid (Own wg w.heap.size (.slice xb nr.length yb) nr) := NF_.out.below hbg
    have LG : Hid (OwnEd wg w.heap.size (.slice xa ea.length ya) ea) := LF.out.below hbg
    clear hbg SF_ WF VF NF_ MF LF
    go_wp2_with fail
    refine (sameEds_same _ _ _ wo WG.out.reads VG.out.reads WLEN.out).mono ?_
    rintro e wh ⟨rfl, hbh⟩
    have SH : Hid (Since w.heap.size w wh) := SG.out.step hbh
    have NH : Hid (Own wh w.heap.size (.slice xb nr.length yb) nr) := NG.out.below hbh
    have LH : Hid (OwnEd wh w.heap.size (.slice xa ea.length ya) ea) := LG.out.below hbh
    clear hbh SG WG VG NG LG
    cases hno : no with
    | false =>
      rw [hno] at *
      go_wp2
      go_ret
      exact ⟨rfl, SH.out.1⟩
    | true =>
      rw [hno] at HBK
      have HBN : Hid (∀ k (hk : k < nr.length), ∃ bk : List Int, bk.length ≤ 4194304 ∧ at_ ∈ bk ∧ ∀ (W : World) (v : Value), ReadsEd W v ea → Calls Try.prog 43 #[.int .i64 (m : Int), v, .int .i64 nr[k]] W (NearPost W bk true)) := fun k hk => HBK.out rfl nr[k] (List.getElem_mem hk)
      have HNC : Hid (∀ k, k < nr.length → ∃ gg go, xb = some ⟨gg, go, none⟩ ∧ ∀ W', Since wh.heap.size wh W' → ∀ hj : k < nr.length, W'.cell? ⟨gg, go + k, none⟩ = some (.int .i64 nr[k])) := fun k hk => own_cells8 NH.out k hk
      have SS0 : Hid (Since wh.heap.size wh wh) := Since.start wh
      have hnl : nr.length ≤ 4194304 := NLEN.out
      clear HBK hno
      go_wp2
      go_loopw [207] (fun i wr => ∃ k : Nat, k ≤ nr.length ∧ i = .int .i64 (k : Int) ∧ Hid (Since wh.heap.size wh wr)) (fun i _ => nr.length - (intOf i).toNat)
      case atStart => exact ⟨0, Nat.zero_le _, rfl, SS0.out⟩
      case round =>
        clear SS0
        obtain ⟨k, hk, rfl, HK⟩ := hrel
        by_cases hlt : k < nr.length
        · have hlt' : (k : Int) < (nr.length : Int) := by omega
          obtain ⟨gg, go, rfl, hcell⟩ := HNC.out k hlt
          have c0 := hcell wr HK.out hlt
          obtain ⟨bk, hbl, hbm, hbc⟩ := HBN.out k hlt
          have HBM : Hid (at_ ∈ bk ∧ bk.length ≤ 4194304) := ⟨hbm, hbl⟩
          have HBC : Hid (∀ (W : World) (v : Value), ReadsEd W v ea → Calls Try.prog 43 #[.int .i64 (m : Int), v, .int .i64 nr[k]] W (NearPost W bk true)) := hbc
          clear hbl hbm hbc hcell
          generalize nr[k] = z at *
          go_wp2_with fail
          refine (HBC.out _ _ (LH.out.below HK.out.1).reads).mono ?_
          rintro e wi ⟨ui, rfl, hoi, hbi⟩
          obtain ⟨xi, yi, rfl⟩ := hoi.shape
          have HK2 : Hid (Since wh.heap.size wh wi) := HK.out.step hbi
          have OI : Hid (Own wi wr.heap.size (.slice xi bk.length yi) bk) := hoi
          clear hoi hbi HK c0 HBC
          go_wp2_with fail
          refine (has_yes _ _ bk at_ OI.out.reads HBM.out.2 HBM.out.1).mono ?_
          rintro e wj ⟨rfl, hwj⟩
          obtain rfl := hwj
          go_wp2
          go_roundw
          case rel => exact ⟨k + 1, by omega, by go_num, HK2.out⟩
          case measure => simp [intOf]; omega
        · have hlt' : ¬ (k : Int) < (nr.length : Int) := by omega
          have HF : Hid (Below w.heap.size w wr) := (SH.out.tran HK.out).1
          clear HK
          go_wp2
          go_ret
          exact ⟨rfl, HF.out⟩
  | true =>
    rw [hok] at HGE
    obtain ⟨hge, hcost⟩ := HGE.out rfl
    have HCOST : Hid (∀ j (hj : j < bw.length), 0 < lastTd l bw[j].A bw[j].B ∧ 0 < lastTd l bw[j].B bw[j].A ∧ bw[j].Cost = max (lastTd l bw[j].A bw[j].B) (lastTd l bw[j].B bw[j].A)) := fun j hj => hcost _ (List.getElem_mem hj)
    have CE : Hid (∀ (W : World) (v : Value), ReadsEd W v bw → Calls Try.prog 34 #[.int .i64 (n : Int), v] W fun e W' => e = .returned (.bool true) ∧ Below W.heap.size W W') := fun W v h => by
      have := implGoodEd_any W v (n : Int) bw h (Nat.le_trans (goodEd_true hge).2.1 (by decide))
      rw [hge] at this
      exact this
    have hbl40 : bw.length ≤ 40 := (goodEd_true hge).2.1
    clear hge hcost HGE hok
    go_wp2_with fail
    refine (CE.out _ _ B4.out.reads).mono ?_
    rintro e w5 ⟨rfl, hb5⟩
    have S5 : Hid (Since w.heap.size w w5) := S4.out.step hb5
    have B5 : Hid (OwnEd w5 w.heap.size (.slice x2 bw.length y2) bw) := B4.out.below hb5
    have L5 : Hid (OwnTd w5 w.heap.size (.slice x1 l.length y1) l) := L4.out.below hb5
    clear hb5 B4 L4 CE
    have HBC : Hid (∀ j, j < bw.length → ∃ gb go, x2 = some ⟨gb, go, none⟩ ∧ ∀ W', Since w5.heap.size w5 W' → ∀ hj : j < bw.length, EdAt W' gb (go + j * 3) bw[j]) := fun j hj => by
      obtain ⟨a, c, hv, hc⟩ := B5.out.reads
      simp only [Value.slice.injEq] at hv
      obtain ⟨rfl, -, rfl⟩ := hv
      obtain ⟨gb, go, rfl, hg, hcell⟩ := hc.resolve_left (fun e => by rw [e] at hj; exact absurd hj (Nat.not_lt_zero _))
      exact ⟨gb, go, rfl, fun W' hs hj => (hcell j hj).below hg hs.1⟩
    have HLC : Hid (∀ j, j < l.length → ∃ gl gm, x1 = some ⟨gl, gm, none⟩ ∧ ∀ W', Since w5.heap.size w5 W' → ∀ hj : j < l.length, TdAt W' gl (gm + j * 3) l[j]) := fun j hj => by
      obtain ⟨a, c, hv, hc⟩ := L5.out.reads
      simp only [Value.slice.injEq] at hv
      obtain ⟨rfl, -, rfl⟩ := hv
      obtain ⟨gb, go, rfl, hg, hcell⟩ := hc.resolve_left (fun e => by rw [e] at hj; exact absurd hj (Nat.not_lt_zero _))
      exact ⟨gb, go, rfl, fun W' hs hj => (hcell j hj).below hg hs.1⟩
    have SS5 : Hid (Since w5.heap.size w5 w5) := Since.start w5
    go_wp2
    go_loopw [74] (fun i wr => ∃ j : Nat, j ≤ bw.length ∧ i = .int .i64 (j : Int) ∧ Hid (Since w5.heap.size w5 wr)) (fun i _ => bw.length - (intOf i).toNat)
    case atStart => exact ⟨0, Nat.zero_le _, rfl, SS5.out⟩
    case round =>
      clear SS5
      rename World => we
      obtain ⟨j, hj, rfl, HK⟩ := hrel
      by_cases hltj : j < bw.length
      · have hltj' : (j : Int) < (bw.length : Int) := by omega
        obtain ⟨gb, go, rfl, hat⟩ := HBC.out j hltj
        obtain ⟨q0, q1, q2⟩ := hat we HK.out hltj
        have HCJ : Hid (0 < lastTd l bw[j].A bw[j].B ∧ 0 < lastTd l bw[j].B bw[j].A ∧ bw[j].Cost = max (lastTd l bw[j].A bw[j].B) (lastTd l bw[j].B bw[j].A)) := HCOST.out j hltj
        clear hat
        generalize bw[j] = x at *
        have HXE : Hid (∀ w', Since (we.alloc (.cells #[.int .i64 x.A, .int .i64 x.B, .int .i64 x.Cost] 61)).heap.size (we.alloc (.cells #[.int .i64 x.A, .int .i64 x.B, .int .i64 x.Cost] 61)) w' → w'.cell? ⟨we.heap.size, 0, none⟩ = some (.int .i64 x.A) ∧ w'.cell? ⟨we.heap.size, 1, none⟩ = some (.int .i64 x.B) ∧ w'.cell? ⟨we.heap.size, 2, none⟩ = some (.int .i64 x.Cost)) := newEd we x
        have HKE : Hid (Since w5.heap.size w5 (we.alloc (.cells #[.int .i64 x.A, .int .i64 x.B, .int .i64 x.Cost] 61))) := HK.out.step ((Below.refl _ we).alloc (Nat.le_refl _) _)
        have SE0 : Hid (Since (we.alloc (.cells #[.int .i64 x.A, .int .i64 x.B, .int .i64 x.Cost] 61)).heap.size (we.alloc (.cells #[.int .i64 x.A, .int .i64 x.B, .int .i64 x.Cost] 61)) (we.alloc (.cells #[.int .i64 x.A, .int .i64 x.B, .int .i64 x.Cost] 61))) := Since.start _
        clear HK
        go_wp2
        clear q0 q1 q2
        go_loopw [13, 14, 80] (fun a b i wr => ∃ k : Nat, k ≤ l.length ∧ i = .int .i64 (k : Int) ∧ ∃ p q : Int, a = .int .i64 p ∧ b = .int .i64 q ∧ Hid (p = lastTd (l.take k) x.A x.B ∧ q = lastTd (l.take k) x.B x.A ∧ Since (we.alloc (.cells #[.int .i64 x.A, .int .i64 x.B, .int .i64 x.Cost] 61)).heap.size (we.alloc (.cells #[.int .i64 x.A, .int .i64 x.B, .int .i64 x.Cost] 61)) wr)) (fun _ _ i _ => l.length - (intOf i).toNat)
        case atStart => exact ⟨0, Nat.zero_le _, rfl, 0, 0, rfl, rfl, rfl, rfl, SE0.out⟩
        case round =>
          clear SE0
          obtain ⟨k, hk, rfl, p, q, rfl, rfl, HK⟩ := hrel
          obtain ⟨e0, e1, e2⟩ := HXE.out wr HK.out.2.2
          by_cases hlt : k < l.length
          · have hlt' : (k : Int) < (l.length : Int) := by omega
            obtain ⟨gl, gm, rfl, hat⟩ := HLC.out k hlt
            obtain ⟨q0, q1, q2⟩ := hat wr (HKE.out.tran HK.out.2.2) hlt
            have HT1 : Hid (lastTd (l.take (k + 1)) x.A x.B = if l[k].By = x.A ∧ l[k].Near = x.B then l[k].Cost else p) := by
              show _ = _
              rw [HK.out.1]
              exact lastTd_take l x.A x.B k hlt
            have HT2 : Hid (lastTd (l.take (k + 1)) x.B x.A = if l[k].By = x.B ∧ l[k].Near = x.A then l[k].Cost else q) := by
              show _ = _
              rw [HK.out.2.1]
              exact lastTd_take l x.B x.A k hlt
            clear hat
            generalize l[k] = t at *
            have HK2 : Hid (Since (we.alloc (.cells #[.int .i64 x.A, .int .i64 x.B, .int .i64 x.Cost] 61)).heap.size (we.alloc (.cells #[.int .i64 x.A, .int .i64 x.B, .int .i64 x.Cost] 61)) (wr.alloc (.cells #[.int .i64 t.By, .int .i64 t.Near, .int .i64 t.Cost] 71))) := HK.out.2.2.step ((Below.refl _ wr).alloc (Nat.le_refl _) _)
            obtain ⟨f0, f1, f2⟩ := newTd wr t (wr.alloc (.cells #[.int .i64 t.By, .int .i64 t.Near, .int .i64 t.Cost] 71)) (Since.start _)
            obtain ⟨g0, g1, g2⟩ := HXE.out _ HK2.out
            clear HK e0 e1 e2
            by_cases h1 : t.By = x.A
            · have d1 : (t.By == x.A) = true := beq_iff_eq.2 h1
              by_cases h2 : t.Near = x.B
              · have d2 : (t.Near == x.B) = true := beq_iff_eq.2 h2
                by_cases h3 : t.By = x.B
                · have d3 : (t.By == x.B) = true := beq_iff_eq.2 h3
                  by_cases h4 : t.Near = x.A
                  · have d4 : (t.Near == x.A) = true := beq_iff_eq.2 h4
                    have HP1 : Hid (t.Cost = lastTd (l.take (k + 1)) x.A x.B) := by show _ = _; rw [HT1.out, if_pos ⟨h1, h2⟩]
                    have HQ1 : Hid (t.Cost = lastTd (l.take (k + 1)) x.B x.A) := by show _ = _; rw [HT2.out, if_pos ⟨h3, h4⟩]
                    clear HT1 HT2 h1 h2 h3 h4
                    go_wp2
                    go_roundw
                    case rel => exact ⟨k + 1, by omega, by go_num, _, _, rfl, rfl, HP1.out, HQ1.out, HK2.out⟩
                    case measure => simp [intOf]; omega
                  · have d4 : (t.Near == x.A) = false := beq_eq_false_iff_ne.2 h4
                    have HP1 : Hid (t.Cost = lastTd (l.take (k + 1)) x.A x.B) := by show _ = _; rw [HT1.out, if_pos ⟨h1, h2⟩]
                    have HQ1 : Hid (q = lastTd (l.take (k + 1)) x.B x.A) := by show _ = _; rw [HT2.out, if_neg fun e => h4 e.2]
                    clear HT1 HT2 h1 h2 h3 h4
                    go_wp2
                    go_roundw
                    case rel => exact ⟨k + 1, by omega, by go_num, _, _, rfl, rfl, HP1.out, HQ1.out, HK2.out⟩
                    case measure => simp [intOf]; omega
                · have d3 : (t.By == x.B) = false := beq_eq_false_iff_ne.2 h3
                  by_cases h4 : t.Near = x.A
                  · have d4 : (t.Near == x.A) = true := beq_iff_eq.2 h4
                    have HP1 : Hid (t.Cost = lastTd (l.take (k + 1)) x.A x.B) := by show _ = _; rw [HT1.out, if_pos ⟨h1, h2⟩]
                    have HQ1 : Hid (q = lastTd (l.take (k + 1)) x.B x.A) := by show _ = _; rw [HT2.out, if_neg fun e => h3 e.1]
                    clear HT1 HT2 h1 h2 h3 h4
                    go_wp2
                    go_roundw
                    case rel => exact ⟨k + 1, by omega, by go_num, _, _, rfl, rfl, HP1.out, HQ1.out, HK2.out⟩
                    case measure => simp [intOf]; omega
                  · have d4 : (t.Near == x.A) = false := beq_eq_false_iff_ne.2 h4
                    have HP1 : Hid (t.Cost = lastTd (l.take (k + 1)) x.A x.B) := by show _ = _; rw [HT1.out, if_pos ⟨h1, h2⟩]
                    have HQ1 : Hid (q = lastTd (l.take (k + 1)) x.B x.A) := by show _ = _; rw [HT2.out, if_neg fun e => h3 e.1]
                    clear HT1 HT2 h1 h2 h3 h4
                    go_wp2
                    go_roundw
                    case rel => exact ⟨k + 1, by omega, by go_num, _, _, rfl, rfl, HP1.out, HQ1.out, HK2.out⟩
                    case measure => simp [intOf]; omega
              · have d2 : (t.Near == x.B) = false := beq_eq_false_iff_ne.2 h2
                by_cases h3 : t.By = x.B
                · have d3 : (t.By == x.B) = true := beq_iff_eq.2 h3
                  by_cases h4 : t.Near = x.A
                  · have d4 : (t.Near == x.A) = true := beq_iff_eq.2 h4
                    have HP1 : Hid (p = lastTd (l.take (k + 1)) x.A x.B) := by show _ = _; rw [HT1.out, if_neg fun e => h2 e.2]
                    have HQ1 : Hid (t.Cost = lastTd (l.take (k + 1)) x.B x.A) := by show _ = _; rw [HT2.out, if_pos ⟨h3, h4⟩]
                    clear HT1 HT2 h1 h2 h3 h4
                    go_wp2
                    go_roundw
                    case rel => exact ⟨k + 1, by omega, by go_num, _, _, rfl, rfl, HP1.out, HQ1.out, HK2.out⟩
                    case measure => simp [intOf]; omega
                  · have d4 : (t.Near == x.A) = false := beq_eq_false_iff_ne.2 h4
                    have HP1 : Hid (p = lastTd (l.take (k + 1)) x.A x.B) := by show _ = _; rw [HT1.out, if_neg fun e => h2 e.2]
                    have HQ1 : Hid (q = lastTd (l.take (k + 1)) x.B x.A) := by show _ = _; rw [HT2.out, if_neg fun e => h4 e.2]
                    clear HT1 HT2 h1 h2 h3 h4
                    go_wp2
                    go_roundw
                    case rel => exact ⟨k + 1, by omega, by go_num, _, _, rfl, rfl, HP1.out, HQ1.out, HK2.out⟩
                    case measure => simp [intOf]; omega
                · have d3 : (t.By == x.B) = false := beq_eq_false_iff_ne.2 h3
                  by_cases h4 : t.Near = x.A
                  · have d4 : (t.Near == x.A) = true := beq_iff_eq.2 h4
                    have HP1 : Hid (p = lastTd (l.take (k + 1)) x.A x.B) := by show _ = _; rw [HT1.out, if_neg fun e => h2 e.2]
                    have HQ1 : Hid (q = lastTd (l.take (k + 1)) x.B x.A) := by show _ = _; rw [HT2.out, if_neg fun e => h3 e.1]
                    clear HT1 HT2 h1 h2 h3 h4
                    go_wp2
                    go_roundw
                    case rel => exact ⟨k + 1, by omega, by go_num, _, _, rfl, rfl, HP1.out, HQ1.out, HK2.out⟩
                    case measure => simp [intOf]; omega
                  · have d4 : (t.Near == x.A) = false := beq_eq_false_iff_ne.2 h4
                    have HP1 : Hid (p = lastTd (l.take (k + 1)) x.A x.B) := by show _ = _; rw [HT1.out, if_neg fun e => h2 e.2]
                    have HQ1 : Hid (q = lastTd (l.take (k + 1)) x.B x.A) := by show _ = _; rw [HT2.out, if_neg fun e => h3 e.1]
                    clear HT1 HT2 h1 h2 h3 h4
                    go_wp2
                    go_roundw
                    case rel => exact ⟨k + 1, by omega, by go_num, _, _, rfl, rfl, HP1.out, HQ1.out, HK2.out⟩
                    case measure => simp [intOf]; omega
            · have d1 : (t.By == x.A) = false := beq_eq_false_iff_ne.2 h1
              by_cases h2 : t.Near = x.B
              · have d2 : (t.Near == x.B) = true := beq_iff_eq.2 h2
                by_cases h3 : t.By = x.B
                · have d3 : (t.By == x.B) = true := beq_iff_eq.2 h3
                  by_cases h4 : t.Near = x.A
                  · have d4 : (t.Near == x.A) = true := beq_iff_eq.2 h4
                    have HP1 : Hid (p = lastTd (l.take (k + 1)) x.A x.B) := by show _ = _; rw [HT1.out, if_neg fun e => h1 e.1]
                    have HQ1 : Hid (t.Cost = lastTd (l.take (k + 1)) x.B x.A) := by show _ = _; rw [HT2.out, if_pos ⟨h3, h4⟩]
                    clear HT1 HT2 h1 h2 h3 h4
                    go_wp2
                    go_roundw
                    case rel => exact ⟨k + 1, by omega, by go_num, _, _, rfl, rfl, HP1.out, HQ1.out, HK2.out⟩
                    case measure => simp [intOf]; omega
                  · have d4 : (t.Near == x.A) = false := beq_eq_false_iff_ne.2 h4
                    have HP1 : Hid (p = lastTd (l.take (k + 1)) x.A x.B) := by show _ = _; rw [HT1.out, if_neg fun e => h1 e.1]
                    have HQ1 : Hid (q = lastTd (l.take (k + 1)) x.B x.A) := by show _ = _; rw [HT2.out, if_neg fun e => h4 e.2]
                    clear HT1 HT2 h1 h2 h3 h4
                    go_wp2
                    go_roundw
                    case rel => exact ⟨k + 1, by omega, by go_num, _, _, rfl, rfl, HP1.out, HQ1.out, HK2.out⟩
                    case measure => simp [intOf]; omega
                · have d3 : (t.By == x.B) = false := beq_eq_false_iff_ne.2 h3
                  by_cases h4 : t.Near = x.A
                  · have d4 : (t.Near == x.A) = true := beq_iff_eq.2 h4
                    have HP1 : Hid (p = lastTd (l.take (k + 1)) x.A x.B) := by show _ = _; rw [HT1.out, if_neg fun e => h1 e.1]
                    have HQ1 : Hid (q = lastTd (l.take (k + 1)) x.B x.A) := by show _ = _; rw [HT2.out, if_neg fun e => h3 e.1]
                    clear HT1 HT2 h1 h2 h3 h4
                    go_wp2
                    go_roundw
                    case rel => exact ⟨k + 1, by omega, by go_num, _, _, rfl, rfl, HP1.out, HQ1.out, HK2.out⟩
                    case measure => simp [intOf]; omega
                  · have d4 : (t.Near == x.A) = false := beq_eq_false_iff_ne.2 h4
                    have HP1 : Hid (p = lastTd (l.take (k + 1)) x.A x.B) := by show _ = _; rw [HT1.out, if_neg fun e => h1 e.1]
                    have HQ1 : Hid (q = lastTd (l.take (k + 1)) x.B x.A) := by show _ = _; rw [HT2.out, if_neg fun e => h3 e.1]
                    clear HT1 HT2 h1 h2 h3 h4
                    go_wp2
                    go_roundw
                    case rel => exact ⟨k + 1, by omega, by go_num, _, _, rfl, rfl, HP1.out, HQ1.out, HK2.out⟩
                    case measure => simp [intOf]; omega
              · have d2 : (t.Near == x.B) = false := beq_eq_false_iff_ne.2 h2
                by_cases h3 : t.By = x.B
                · have d3 : (t.By == x.B) = true := beq_iff_eq.2 h3
                  by_cases h4 : t.Near = x.A
                  · have d4 : (t.Near == x.A) = true := beq_iff_eq.2 h4
                    have HP1 : Hid (p = lastTd (l.take (k + 1)) x.A x.B) := by show _ = _; rw [HT1.out, if_neg fun e => h1 e.1]
                    have HQ1 : Hid (t.Cost = lastTd (l.take (k + 1)) x.B x.A) := by show _ = _; rw [HT2.out, if_pos ⟨h3, h4⟩]
                    clear HT1 HT2 h1 h2 h3 h4
                    go_wp2
                    go_roundw
                    case rel => exact ⟨k + 1, by omega, by go_num, _, _, rfl, rfl, HP1.out, HQ1.out, HK2.out⟩
                    case measure => simp [intOf]; omega
                  · have d4 : (t.Near == x.A) = false := beq_eq_false_iff_ne.2 h4
                    have HP1 : Hid (p = lastTd (l.take (k + 1)) x.A x.B) := by show _ = _; rw [HT1.out, if_neg fun e => h1 e.1]
                    have HQ1 : Hid (q = lastTd (l.take (k + 1)) x.B x.A) := by show _ = _; rw [HT2.out, if_neg fun e => h4 e.2]
                    clear HT1 HT2 h1 h2 h3 h4
                    go_wp2
                    go_roundw
                    case rel => exact ⟨k + 1, by omega, by go_num, _, _, rfl, rfl, HP1.out, HQ1.out, HK2.out⟩
                    case measure => simp [intOf]; omega
                · have d3 : (t.By == x.B) = false := beq_eq_false_iff_ne.2 h3
                  by_cases h4 : t.Near = x.A
                  · have d4 : (t.Near == x.A) = true := beq_iff_eq.2 h4
                    have HP1 : Hid (p = lastTd (l.take (k + 1)) x.A x.B) := by show _ = _; rw [HT1.out, if_neg fun e => h1 e.1]
                    have HQ1 : Hid (q = lastTd (l.take (k + 1)) x.B x.A) := by show _ = _; rw [HT2.out, if_neg fun e => h3 e.1]
                    clear HT1 HT2 h1 h2 h3 h4
                    go_wp2
                    go_roundw
                    case rel => exact ⟨k + 1, by omega, by go_num, _, _, rfl, rfl, HP1.out, HQ1.out, HK2.out⟩
                    case measure => simp [intOf]; omega
                  · have d4 : (t.Near == x.A) = false := beq_eq_false_iff_ne.2 h4
                    have HP1 : Hid (p = lastTd (l.take (k + 1)) x.A x.B) := by show _ = _; rw [HT1.out, if_neg fun e => h1 e.1]
                    have HQ1 : Hid (q = lastTd (l.take (k + 1)) x.B x.A) := by show _ = _; rw [HT2.out, if_neg fun e => h3 e.1]
                    clear HT1 HT2 h1 h2 h3 h4
                    go_wp2
                    go_roundw
                    case rel => exact ⟨k + 1, by omega, by go_num, _, _, rfl, rfl, HP1.out, HQ1.out, HK2.out⟩
                    case measure => simp [intOf]; omega
          · have hlt' : ¬ (k : Int) < (l.length : Int) := by omega
            have HP : Hid (0 < p ∧ 0 < q ∧ x.Cost = max p q) := by
              have h1 := HK.out.1
              have h2 := HK.out.2.1
              rw [List.take_of_length_le (show l.length ≤ k by omega)] at h1 h2
              rw [h1, h2]
              exact HCJ.out
            have HK2 : Hid (Since w5.heap.size w5 wr) := HKE.out.tran HK.out.2.2
            clear HK HCJ
            obtain ⟨hp0, hq0, hz⟩ := HP.out
            generalize x.Cost = z at *
            have d1 : (p == 0) = false := beq_eq_false_iff_ne.2 (by omega)
            have d2 : (q == 0) = false := beq_eq_false_iff_ne.2 (by omega)
            have d3 : ¬ z < p := by omega
            have d4 : ¬ z < q := by omega
            by_cases hzp : z = p
            · subst hzp
              clear hz HP
              go_wp2
              go_roundw
              case rel => exact ⟨j + 1, by omega, by go_num, HK2.out⟩
              case measure => simp [intOf]; omega
            · have hzq : z = q := by omega
              subst hzq
              have d5 : (z == p) = false := beq_eq_false_iff_ne.2 hzp
              clear hzp hz HP
              go_wp2
              go_roundw
              case rel => exact ⟨j + 1, by omega, by go_num, HK2.out⟩
              case measure => simp [intOf]; omega
              all_goals exact ⟨⟨j + 1, by omega, by go_num, HK2.out⟩, by simp [intOf]; omega⟩
      · have hltj' : ¬ (j : Int) < (bw.length : Int) := by omega
        have SZ : Hid (Since w.heap.size w we) := S5.out.tran HK.out
        clear HK
        go_wp2_with fail
        refine (drawNear_any w.heap.size w _ a1 len1 cap1 HC1.out hl1 SZ.out).mono ?_
        rintro e wa ⟨m, va, ea, at_, rfl, hoa, hla, hma, hsa⟩
        obtain ⟨xa, ya, rfl⟩ := hoa.shape
        have SA : Hid (Since w.heap.size w wa) := hsa
        have LA : Hid (OwnEd wa w.heap.size (.slice xa ea.length ya) ea) := hoa.mono SZ.out.2
        have HLA : Hid (ea.length ≤ 40) := hla
        clear hoa hsa hla
        obtain ⟨nr, hnr⟩ : ∃ nr, nr = nearOut (m : Int) ea at_ := ⟨_, rfl⟩
        obtain ⟨no, hno⟩ : ∃ no, no = nearOk (m : Int) ea at_ := ⟨_, rfl⟩
        have NLEN : Hid (nr.length ≤ 4194304) := by show _ ≤ _; rw [hnr]; exact nearOut_len _ _ _
        have CN : Hid (∀ (W : World) (v : Value), ReadsEd W v ea → Calls Try.prog 43 #[.int .i64 (m : Int), v, .int .i64 at_] W (NearPost W nr no)) := fun W v h => by
          rw [hnr, hno]; exact implNearOf_any W v (m : Int) ea at_ h (Nat.le_trans HLA.out (by decide))
        have CNS : Hid (∀ (W : World) (v : Value), ReadsEd W v ea → Calls Try.prog 44 #[.int .i64 (m : Int), v, .int .i64 at_] W (NearPost W nr no)) := fun W v h => by
          rw [hnr, hno]; exact specNearOf_any W v (m : Int) ea at_ h (Nat.le_trans HLA.out (by decide))
        have HBK : Hid (no = true → ∀ z ∈ nr, ∃ bk : List Int, bk.length ≤ 4194304 ∧ at_ ∈ bk ∧ ∀ (W : World) (v : Value), ReadsEd W v ea → Calls Try.prog 43 #[.int .i64 (m : Int), v, .int .i64 z] W (NearPost W bk true)) := fun ho z hz => by
          have hk := hno.symm.trans ho
          have hk2 := hk
          unfold nearOk at hk2
          rw [Bool.and_eq_true] at hk2
          obtain ⟨hn1, -, hfit, -⟩ := goodEd_true hk2.1
          have hat := of_decide_eq_true hk2.2
          have e1 : nr = nearTo ea at_ m := by rw [hnr]; unfold nearOut; rw [hk]; rfl
          rw [e1] at hz
          obtain ⟨x, hx, hh⟩ := (mem_nearTo hfit at_ z).1 hz
          have hxf := hfit x hx
          have hzr : 0 ≤ z ∧ z < (m : Int) := by omega
          have hkz : nearOk (m : Int) ea z = true := by unfold nearOk; rw [hk2.1, decide_eq_true hzr]; rfl
          refine ⟨nearOut (m : Int) ea z, nearOut_len _ _ _, ?_, fun W v h => ?_⟩
          · have e2 : nearOut (m : Int) ea z = nearTo ea z m := by unfold nearOut; rw [hkz]; rfl
            rw [e2]
            exact (mem_nearTo hfit z at_).2 ⟨x, hx, hh.elim (fun h => .inr ⟨h.2, h.1⟩) fun h => .inl ⟨h.2, h.1⟩⟩
          · have := implNearOf_any W v (m : Int) ea z h (Nat.le_trans HLA.out (by decide))
            rw [hkz] at this
            exact this
        clear hnr hno
        go_wp2_with fail
        refine (CN.out _ _ LA.out.reads).mono ?_
        rintro e wb ⟨ub, rfl, hob, hbb⟩
        obtain ⟨xb, yb, rfl⟩ := hob.shape
        have SB : Hid (Since w.heap.size w wb) := SA.out.step hbb
        have NB : Hid (Own wb w.heap.size (.slice xb nr.length yb) nr) := hob.mono SA.out.2
        have LB : Hid (OwnEd wb w.heap.size (.slice xa ea.length ya) ea) := LA.out.below hbb
        clear hob hbb LA SA
        go_wp2_with fail
        refine (CNS.out _ _ LB.out.reads).mono ?_
        rintro e wc ⟨uc, rfl, hoc, hbc⟩
        obtain ⟨xc, yc, rfl⟩ := hoc.shape
        have SC : Hid (Since w.heap.size w wc) := SB.out.step hbc
        have NC : Hid (Own wc w.heap.size (.slice xb nr.length yb) nr) := NB.out.below hbc
        have MC : Hid (Own wc w.heap.size (.slice xc nr.length yc) nr) := hoc.mono SB.out.2
        have LC : Hid (OwnEd wc w.heap.size (.slice xa ea.length ya) ea) := LB.out.below hbc
        clear hoc hbc LB SB NB CN CNS
        have HCC : Hid (Code wc.heap.size wc a1 len1) := code_since8 HC1.out SC.out
        go_wp2_with fail
        refine (drawWo_any wc.heap.size wc _ a1 len1 cap1 HCC.out hl1 (Since.start wc)).mono ?_
        rintro e wd ⟨om, vd, ed, kd, rfl, hod, hld, hmd, hsd⟩
        obtain ⟨xd, yd, rfl⟩ := hod.shape
        have SDC : Hid (Since wc.heap.size wc wd) := hsd
        have SD : Hid (Since w.heap.size w wd) := SC.out.tran SDC.out
        have ED : Hid (OwnEd wd w.heap.size (.slice xd ed.length yd) ed) := hod.mono SC.out.2
        have ND : Hid (Own wd w.heap.size (.slice xb nr.length yb) nr) := NC.out.below SDC.out.1
        have MD : Hid (Own wd w.heap.size (.slice xc nr.length yc) nr) := MC.out.below SDC.out.1
        have LD : Hid (OwnEd wd w.heap.size (.slice xa ea.length ya) ea) := LC.out.below SDC.out.1
        clear hod hsd NC MC LC SC SDC HCC
        obtain ⟨wo, hwo⟩ : ∃ wo, wo = woOut (om : Int) ed kd := ⟨_, rfl⟩
        obtain ⟨wk, hwk⟩ : ∃ wk, wk = woOk (om : Int) ed kd := ⟨_, rfl⟩
        have WLEN : Hid (wo.length ≤ 4194304) := by show _ ≤ _; rw [hwo]; exact woOut_len _ _ _
        have CW : Hid (∀ (W : World) (v : Value), OwnEd W w.heap.size v ed → Calls Try.prog 46 #[.int .i64 (om : Int), v, .int .i64 kd] W (EdPost W wo wk)) := fun W v h => by
          rw [hwo, hwk]; exact implWithoutEdge_any W w.heap.size v (om : Int) ed kd h (Nat.le_trans hld (by decide))
        have CWS : Hid (∀ (W : World) (v : Value), OwnEd W w.heap.size v ed → Calls Try.prog 47 #[.int .i64 (om : Int), v, .int .i64 kd] W (EdPost W wo wk)) := fun W v h => by
          rw [hwo, hwk]; exact specWithoutEdge_any W w.heap.size v (om : Int) ed kd h (Nat.le_trans hld (by decide))
        clear hwo hwk hld
        go_wp2_with fail
        refine (CW.out _ _ ED.out).mono ?_
        rintro e we ⟨ue, rfl, hoe, hbe⟩
        obtain ⟨xe, ye, rfl⟩ := hoe.shape
        have SE : Hid (Since w.heap.size w we) := SD.out.step hbe
        have WE : Hid (OwnEd we w.heap.size (.slice xe wo.length ye) wo) := hoe.mono SD.out.2
        have EE : Hid (OwnEd we w.heap.size (.slice xd ed.length yd) ed) := ED.out.below hbe
        have NE : Hid (Own we w.heap.size (.slice xb nr.length yb) nr) := ND.out.below hbe
        have ME : Hid (Own we w.heap.size (.slice xc nr.length yc) nr) := MD.out.below hbe
        have LE : Hid (OwnEd we w.heap.size (.slice xa ea.length ya) ea) := LD.out.below hbe
        clear hoe hbe ED ND MD LD SD
        go_wp2_with fail
        refine (CWS.out _ _ EE.out).mono ?_
        rintro e wf ⟨uf, rfl, hof, hbf⟩
        obtain ⟨xf, yf, rfl⟩ := hof.shape
        have SF_ : Hid (Since w.heap.size w wf) := SE.out.step hbf
        have WF : Hid (OwnEd wf w.heap.size (.slice xe wo.length ye) wo) := WE.out.below hbf
        have VF : Hid (OwnEd wf w.heap.size (.slice xf wo.length yf) wo) := hof.mono SE.out.2
        have NF_ : Hid (Own wf w.heap.size (.slice xb nr.length yb) nr) := NE.out.below hbf
        have MF : Hid (Own wf w.heap.size (.slice xc nr.length yc) nr) := ME.out.below hbf
        have LF : Hid (OwnEd wf w.heap.size (.slice xa ea.length ya) ea) := LE.out.below hbf
        clear hof hbf WE EE NE ME LE SE CW CWS
        go_wp2_with fail
        refine (sameInts_same _ _ _ nr NF_.out.reads MF.out.reads NLEN.out).mono ?_
        rintro e wg ⟨rfl, hbg⟩
        have SG : Hid (Since w.heap.size w wg) := SF_.out.step hbg
        have WG : Hid (OwnEd wg w.heap.size (.slice xe wo.length ye) wo) := WF.out.below hbg
        have VG : Hid (OwnEd wg w.heap.size (.slice xf wo.length yf) wo) := VF.out.below hbg
        have NG : Hid (Own wg w.heap.size (.slice xb nr.length yb) nr) := NF_.out.below hbg
        have LG : Hid (OwnEd wg w.heap.size (.slice xa ea.length ya) ea) := LF.out.below hbg
        clear hbg SF_ WF VF NF_ MF LF
        go_wp2_with fail
        refine (sameEds_same _ _ _ wo WG.out.reads VG.out.reads WLEN.out).mono ?_
        rintro e wh ⟨rfl, hbh⟩
        have SH : Hid (Since w.heap.size w wh) := SG.out.step hbh
        have NH : Hid (Own wh w.heap.size (.slice xb nr.length yb) nr) := NG.out.below hbh
        have LH : Hid (OwnEd wh w.heap.size (.slice xa ea.length ya) ea) := LG.out.below hbh
        clear hbh SG WG VG NG LG
        cases hno : no with
        | false =>
          rw [hno] at *
          go_wp2
          go_ret
          exact ⟨rfl, SH.out.1⟩
        | true =>
          rw [hno] at HBK
          have HBN : Hid (∀ k (hk : k < nr.length), ∃ bk : List Int, bk.length ≤ 4194304 ∧ at_ ∈ bk ∧ ∀ (W : World) (v : Value), ReadsEd W v ea → Calls Try.prog 43 #[.int .i64 (m : Int), v, .int .i64 nr[k]] W (NearPost W bk true)) := fun k hk => HBK.out rfl nr[k] (List.getElem_mem hk)
          have HNC : Hid (∀ k, k < nr.length → ∃ gg go, xb = some ⟨gg, go, none⟩ ∧ ∀ W', Since wh.heap.size wh W' → ∀ hj : k < nr.length, W'.cell? ⟨gg, go + k, none⟩ = some (.int .i64 nr[k])) := fun k hk => own_cells8 NH.out k hk
          have SS0 : Hid (Since wh.heap.size wh wh) := Since.start wh
          have hnl : nr.length ≤ 4194304 := NLEN.out
          clear HBK hno
          go_wp2
          go_loopw [207] (fun i wr => ∃ k : Nat, k ≤ nr.length ∧ i = .int .i64 (k : Int) ∧ Hid (Since wh.heap.size wh wr)) (fun i _ => nr.length - (intOf i).toNat)
          case atStart => exact ⟨0, Nat.zero_le _, rfl, SS0.out⟩
          case round =>
            clear SS0
            obtain ⟨k, hk, rfl, HK⟩ := hrel
            by_cases hlt : k < nr.length
            · have hlt' : (k : Int) < (nr.length : Int) := by omega
              obtain ⟨gg, go, rfl, hcell⟩ := HNC.out k hlt
              have c0 := hcell wr HK.out hlt
              obtain ⟨bk, hbl, hbm, hbc⟩ := HBN.out k hlt
              have HBM : Hid (at_ ∈ bk ∧ bk.length ≤ 4194304) := ⟨hbm, hbl⟩
              have HBC : Hid (∀ (W : World) (v : Value), ReadsEd W v ea → Calls Try.prog 43 #[.int .i64 (m : Int), v, .int .i64 nr[k]] W (NearPost W bk true)) := hbc
              clear hbl hbm hbc hcell
              generalize nr[k] = z at *
              go_wp2_with fail
              refine (HBC.out _ _ (LH.out.below HK.out.1).reads).mono ?_
              rintro e wi ⟨ui, rfl, hoi, hbi⟩
              obtain ⟨xi, yi, rfl⟩ := hoi.shape
              have HK2 : Hid (Since wh.heap.size wh wi) := HK.out.step hbi
              have OI : Hid (Own wi wr.heap.size (.slice xi bk.length yi) bk) := hoi
              clear hoi hbi HK c0 HBC
              go_wp2_with fail
              refine (has_yes _ _ bk at_ OI.out.reads HBM.out.2 HBM.out.1).mono ?_
              rintro e wj ⟨rfl, hwj⟩
              obtain rfl := hwj
              go_wp2
              go_roundw
              case rel => exact ⟨k + 1, by omega, by go_num, HK2.out⟩
              case measure => simp [intOf]; omega
            · have hlt' : ¬ (k : Int) < (nr.length : Int) := by omega
              have HF : Hid (Below w.heap.size w wr) := (SH.out.tran HK.out).1
              clear HK
              go_wp2
              go_ret
              exact ⟨rfl, HF.out⟩
end fnBothWays
end Go.Proofs.Ytchddjidjfpehac
