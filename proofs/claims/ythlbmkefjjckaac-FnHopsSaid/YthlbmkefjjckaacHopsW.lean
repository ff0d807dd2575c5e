/-
  The walk of the law FnHops.
-/
import Derived.Test.YthlbmkefjjckaacGrHopM
import Derived.Deep.CutRange
import Derived.Deep.Cut
namespace Go.Proofs.Ythlbmkefjjckaac
open Go.RowKit
set_option linter.unusedVariables false

namespace fnHops
set_option maxRecDepth 100000 in
set_option maxHeartbeats 16000000 in
theorem walk (a0 : Option Addr) (len0 cap0 : Nat) (a1 : Option Addr) (len1 cap1 : Nat) (w : World) (hc0 : Code w.heap.size w a0 len0) (hl0 : len0 ≤ 9223372036854775807) (hc1 : Code w.heap.size w a1 len1) (hl1 : len1 ≤ 9223372036854775807) :
    Calls Try.prog 8 #[.slice a0 len0 cap0, .slice a1 len1 cap1] w fun e w' => e = .returned (.bool true) ∧ Below w.heap.size w w' := by
  have HC0 : Hid (Code w.heap.size w a0 len0) := hc0
  have HC1 : Hid (Code w.heap.size w a1 len1) := hc1
  have S0 : Hid (Since w.heap.size w w) := Since.start w
  clear hc0 hc1
  obtain ⟨X, hX⟩ : ∃ X : Int, IntKind.i64.wrap ((len0 : Int) + (len1 : Int)) = X := ⟨_, rfl⟩
  by_cases hbig : 1048576 < X
  · have hbig' : decide ((1048576 : Int) < X) = true := decide_eq_true hbig
    go_enter Try.func8, Try.ntmps8
    go_wp2
    go_ret
    exact ⟨rfl, Below.refl _ _⟩
  have hbig' : decide ((1048576 : Int) < X) = false := decide_eq_false hbig
  go_enter Try.func8, Try.ntmps8
  go_wp2_with fail
  refine (drawWay_any w.heap.size w _ a0 len0 cap0 HC0.out hl0 S0.out).mono ?_
  rintro e w1 ⟨n, v1, l, a, b, rfl, ho1, hl40, hn13, hs1, -⟩
  obtain ⟨x1, y1, rfl⟩ := ho1.shape
  have S1 : Hid (Since w.heap.size w w1) := hs1
  have L1 : Hid (OwnEd w1 w.heap.size (.slice x1 l.length y1) l) := ho1
  clear ho1 hs1
  obtain ⟨ws, hws⟩ : ∃ ws, ws = wayOut (n : Int) l a b := ⟨_, rfl⟩
  obtain ⟨cost, hcost⟩ : ∃ c, c = wayCost (n : Int) l a b := ⟨_, rfl⟩
  obtain ⟨ok, hok⟩ : ∃ ok, ok = wayOk (n : Int) l a b := ⟨_, rfl⟩
  have HWL : Hid (ws.length ≤ 12) := by show _ ≤ _; rw [hws]; exact wayOut_small _ _ _ _
  have HF : Hid (ok = true → (pathOk n l ws = true ∧ pathCost n l ws = cost) ∧ farsOk n l a = true ∧ ((farsOut n l a).length : Int) = n ∧ lab (farsOut n l a) b = cost ∧ (0 ≤ b ∧ b < (n : Int)) ∧ 1 ≤ ws.length ∧ ws.getD 0 0 = a ∧ ws.getD (ws.length - 1) 0 = b) := fun h => by
    rw [hws, hcost]; exact way_path (hok.symm.trans h)
  have CW : Hid (∀ (W : World) (v : Value), ReadsEd W v l → Calls Try.prog 60 #[.int .i64 (n : Int), v, .int .i64 a, .int .i64 b] W (WayPost W ws cost ok)) := fun W v h => by
    rw [hws, hcost, hok]; exact implWayTo_any W v (n : Int) l a b h (Nat.le_trans hl40 (by decide))
  have CWS : Hid (∀ (W : World) (v : Value), ReadsEd W v l → Calls Try.prog 61 #[.int .i64 (n : Int), v, .int .i64 a, .int .i64 b] W (WayPost W ws cost ok)) := fun W v h => by
    rw [hws, hcost, hok]; exact specWayTo_any W v (n : Int) l a b h (Nat.le_trans hl40 (by decide))
  clear hws hcost hok
  go_wp2_with fail
  refine (CW.out _ _ L1.out.reads).mono ?_
  rintro e w2 ⟨u2, rfl, ho2, hb2⟩
  have S2 : Hid (Since w.heap.size w w2) := S1.out.step hb2
  have L2 : Hid (OwnEd w2 w.heap.size (.slice x1 l.length y1) l) := L1.out.below hb2
  obtain ⟨x2, y2, rfl⟩ := ho2.shape
  have W2 : Hid (Own w2 w.heap.size (.slice x2 ws.length y2) ws) := ho2.mono S1.out.2
  clear ho2
  clear hb2
  go_wp2_with fail
  refine (CWS.out _ _ L2.out.reads).mono ?_
  rintro e w3 ⟨u3, rfl, ho3, hb3⟩
  have S3 : Hid (Since w.heap.size w w3) := S2.out.step hb3
  have L3 : Hid (OwnEd w3 w.heap.size (.slice x1 l.length y1) l) := L2.out.below hb3
  have W3 : Hid (Own w3 w.heap.size (.slice x2 ws.length y2) ws) := W2.out.below hb3
  obtain ⟨x3, y3, rfl⟩ := ho3.shape
  have V3 : Hid (Own w3 w.heap.size (.slice x3 ws.length y3) ws) := ho3.mono S2.out.2
  clear ho3
  clear hb3
  go_wp2_with fail
  refine (sameInts_same _ _ _ ws W3.out.reads V3.out.reads (Nat.le_trans HWL.out (by decide))).mono ?_
  rintro e w4 ⟨rfl, hb4⟩
  have S4 : Hid (Since w.heap.size w w4) := S3.out.step hb4
  have L4 : Hid (OwnEd w4 w.heap.size (.slice x1 l.length y1) l) := L3.out.below hb4
  have W4 : Hid (Own w4 w.heap.size (.slice x2 ws.length y2) ws) := W3.out.below hb4
  clear hb4
  clear CW CWS
  cases ok with
  | false =>
    clear HF
    go_wp2_with fail
    refine (drawTwo_any w.heap.size w _ a1 len1 cap1 HC1.out hl1 S4.out).mono ?_
    rintro e w20 ⟨m, v20, le, x, y, rfl, ho20, hl20, hm13, hs20, -⟩
    obtain ⟨x20, y20, rfl⟩ := ho20.shape
    have S20 : Hid (Since w.heap.size w w20) := hs20
    have M20 : Hid (OwnEd w20 w.heap.size (.slice x20 le.length y20) le) := ho20.mono S4.out.2
    clear ho20 hs20
    obtain ⟨hs, hhs⟩ : ∃ hs, hs = hopsOut (m : Int) le x y := ⟨_, rfl⟩
    obtain ⟨one, hone⟩ : ∃ one, one = hopsOk (m : Int) le x y := ⟨_, rfl⟩
    have HHL : Hid (hs.length ≤ 4194304) := by show _ ≤ _; rw [hhs]; exact hopsOut_len _ _ _ _
    have HG : Hid (one = true → farsOk m le y = true ∧ ((farsOut m le y).length : Int) = m ∧ (0 ≤ x ∧ x < (m : Int)) ∧ (∀ i, 0 ≤ i → i < (m : Int) → 0 ≤ lab (farsOut m le y) i ∧ lab (farsOut m le y) i ≤ 100000) ∧ ∀ k ∈ hs, (0 ≤ k ∧ k < (m : Int)) ∧ pathOk m le [x, k] = true ∧ lab (farsOut m le y) k + pathCost m le [x, k] = lab (farsOut m le y) x ∧ 0 ≤ pathCost m le [x, k] ∧ pathCost m le [x, k] ≤ 100) := fun h => by
      rw [hhs]; exact hop_path (hone.symm.trans h)
    have CH : Hid (∀ (W : World) (v : Value), ReadsEd W v le → Calls Try.prog 64 #[.int .i64 (m : Int), v, .int .i64 x, .int .i64 y] W (NearPost W hs one)) := fun W v h => by
      rw [hhs, hone]; exact implFirstHops_any W v (m : Int) le x y h (Nat.le_trans hl20 (by decide))
    have CHS : Hid (∀ (W : World) (v : Value), ReadsEd W v le → Calls Try.prog 65 #[.int .i64 (m : Int), v, .int .i64 x, .int .i64 y] W (NearPost W hs one)) := fun W v h => by
      rw [hhs, hone]; exact specFirstHops_any W v (m : Int) le x y h (Nat.le_trans hl20 (by decide))
    clear hhs hone
    go_wp2_with fail
    refine (CH.out _ _ M20.out.reads).mono ?_
    rintro e w21 ⟨u21, rfl, ho21, hb21⟩
    have S21 : Hid (Since w.heap.size w w21) := S20.out.step hb21
    have M21 : Hid (OwnEd w21 w.heap.size (.slice x20 le.length y20) le) := M20.out.below hb21
    obtain ⟨x21, y21, rfl⟩ := ho21.shape
    have H21 : Hid (Own w21 w.heap.size (.slice x21 hs.length y21) hs) := ho21.mono S20.out.2
    clear ho21
    clear hb21
    go_wp2_with fail
    refine (CHS.out _ _ M21.out.reads).mono ?_
    rintro e w22 ⟨u22, rfl, ho22, hb22⟩
    have S22 : Hid (Since w.heap.size w w22) := S21.out.step hb22
    have M22 : Hid (OwnEd w22 w.heap.size (.slice x20 le.length y20) le) := M21.out.below hb22
    have H22 : Hid (Own w22 w.heap.size (.slice x21 hs.length y21) hs) := H21.out.below hb22
    obtain ⟨x22, y22, rfl⟩ := ho22.shape
    have J22 : Hid (Own w22 w.heap.size (.slice x22 hs.length y22) hs) := ho22.mono S21.out.2
    clear ho22
    clear hb22
    go_wp2_with fail
    refine (sameInts_same _ _ _ hs H22.out.reads J22.out.reads HHL.out).mono ?_
    rintro e w23 ⟨rfl, hb23⟩
    have S23 : Hid (Since w.heap.size w w23) := S22.out.step hb23
    have M23 : Hid (OwnEd w23 w.heap.size (.slice x20 le.length y20) le) := M22.out.below hb23
    have H23 : Hid (Own w23 w.heap.size (.slice x21 hs.length y21) hs) := H22.out.below hb23
    clear hb23
    clear CH CHS
    cases one with
    | false =>
      clear HG
      go_wp2_with fail
      refine (drawHopFor_any w.heap.size w _ a1 len1 cap1 HC1.out hl1 S23.out).mono ?_
      rintro e wa ⟨oo, va, la, q, r, fl, rfl, hoa, hla, hoN, hsa⟩
      obtain ⟨xa, ya, rfl⟩ := hoa.shape
      have SA : Hid (Since w.heap.size w wa) := hsa
      have LA : Hid (OwnEd wa w.heap.size (.slice xa la.length ya) la) := hoa.mono S23.out.2
      clear hoa hsa
      obtain ⟨hop, hhop⟩ : ∃ hop, hop = hopForOut (oo : Int) la q r fl := ⟨_, rfl⟩
      obtain ⟨three, hthree⟩ : ∃ three, three = hopForOk (oo : Int) la q r fl := ⟨_, rfl⟩
      have HM : Hid (three = true → hopsOk oo la q r = true ∧ hop ∈ hopsOut oo la q r) := fun h => by
        rw [hhop]; exact hopFor_mem (hthree.symm.trans h)
      have CP : Hid (∀ (W : World) (v : Value), ReadsEd W v la → Calls Try.prog 67 #[.int .i64 (oo : Int), v, .int .i64 q, .int .i64 r, .int .i64 fl] W (ForPost W hop three)) := fun W v h => by
        rw [hhop, hthree]; exact implHopFor_any W v (oo : Int) la q r fl h (Nat.le_trans hla (by decide))
      have CPS : Hid (∀ (W : World) (v : Value), ReadsEd W v la → Calls Try.prog 68 #[.int .i64 (oo : Int), v, .int .i64 q, .int .i64 r, .int .i64 fl] W (ForPost W hop three)) := fun W v h => by
        rw [hhop, hthree]; exact specHopFor_any W v (oo : Int) la q r fl h (Nat.le_trans hla (by decide))
      clear hhop hthree
      go_wp2_with fail
      refine (CP.out _ _ LA.out.reads).mono ?_
      rintro e wb ⟨rfl, hbb⟩
      have SB : Hid (Since w.heap.size w wb) := SA.out.step hbb
      have LB : Hid (OwnEd wb w.heap.size (.slice xa la.length ya) la) := LA.out.below hbb
      clear hbb LA
      go_wp2_with fail
      refine (CPS.out _ _ LB.out.reads).mono ?_
      rintro e wc ⟨rfl, hbc⟩
      have SC : Hid (Since w.heap.size w wc) := SB.out.step hbc
      have LC : Hid (OwnEd wc w.heap.size (.slice xa la.length ya) la) := LB.out.below hbc
      clear hbc LB CP CPS
      go_wp2_with fail
      refine (drawCost_any wc.heap.size wc _ a1 len1 cap1 (HC1.out.since SC.out (Nat.le_refl _)) hl1 (Since.start wc)).mono ?_
      rintro e wd ⟨s, vd, ld, ud, ws2, rfl, hod, hld, hsN, huw, hwl, hsd⟩
      obtain ⟨xd, yd, rfl⟩ := hod.shape
      obtain ⟨xu, yu, rfl⟩ := huw.shape
      have SD : Hid (Since w.heap.size w wd) := SC.out.step hsd.1
      have LD : Hid (OwnEd wd w.heap.size (.slice xa la.length ya) la) := LC.out.below hsd.1
      have DD : Hid (OwnEd wd wc.heap.size (.slice xd ld.length yd) ld) := hod
      have UD : Hid (Own wd wc.heap.size (.slice xu ws2.length yu) ws2) := huw
      have HW2 : Hid (ws2.length ≤ 12 ∧ ld.length ≤ 40) := ⟨hwl, hld⟩
      clear hod huw hsd LC hwl hld
      go_wp2_with fail
      refine (implCostOf_any _ _ _ _ (s : Int) ld ws2 DD.out.reads UD.out (Nat.le_trans HW2.out.2 (by decide)) (Nat.le_trans HW2.out.1 (by decide))).mono ?_
      rintro e we ⟨rfl, hbe⟩
      have SE : Hid (Since w.heap.size w we) := SD.out.step hbe
      have LE : Hid (OwnEd we w.heap.size (.slice xa la.length ya) la) := LD.out.below hbe
      have DE : Hid (OwnEd we wc.heap.size (.slice xd ld.length yd) ld) := DD.out.below hbe
      have UE : Hid (Own we wc.heap.size (.slice xu ws2.length yu) ws2) := UD.out.below hbe
      clear hbe LD DD UD
      go_wp2_with fail
      refine (specCostOf_any _ _ _ _ (s : Int) ld ws2 DE.out.reads UE.out (Nat.le_trans HW2.out.2 (by decide)) (Nat.le_trans HW2.out.1 (by decide))).mono ?_
      rintro e wf ⟨rfl, hbf⟩
      have SF : Hid (Since w.heap.size w wf) := SE.out.step hbf
      have LF : Hid (OwnEd wf w.heap.size (.slice xa la.length ya) la) := LE.out.below hbf
      clear hbf LE DE UE
      generalize pathCost (s : Int) ld ws2 = c8 at *
      generalize pathOk (s : Int) ld ws2 = k8 at *
      have hkk : (k8 != k8) = false := by simp
      have hcc : (c8 != c8) = false := by simp
      have hhh : (hop != hop) = false := by simp
      cases three with
      | false =>
        go_wp2
        go_ret
        exact ⟨by simp, SF.out.1⟩
      | true =>
        obtain ⟨hm1, hm2⟩ := HM.out rfl
        obtain ⟨hz, hhz⟩ : ∃ hz, hz = hopsOut (oo : Int) la q r := ⟨_, rfl⟩
        have HZL : Hid (hz.length ≤ 4194304) := by show _ ≤ _; rw [hhz]; exact hopsOut_len _ _ _ _
        have HIN : Hid (hop ∈ hz) := by rw [hhz]; exact hm2
        have CQ : Hid (∀ (W : World) (v : Value), ReadsEd W v la → Calls Try.prog 64 #[.int .i64 (oo : Int), v, .int .i64 q, .int .i64 r] W (NearPost W hz true)) := fun W v h => by
          have := implFirstHops_any W v (oo : Int) la q r h (Nat.le_trans hla (by decide))
          rw [hm1, ← hhz] at this
          exact this
        clear hm1 hm2 hhz HM
        go_wp2_with fail
        refine (CQ.out _ _ LF.out.reads).mono ?_
        rintro e wg ⟨ug, rfl, hog, hbg⟩
        obtain ⟨xg, yg, rfl⟩ := hog.shape
        have SG : Hid (Since w.heap.size w wg) := SF.out.step hbg
        have OG : Hid (Own wg wf.heap.size (.slice xg hz.length yg) hz) := hog
        clear hog hbg CQ LF
        go_wp2_with fail
        refine (has_yesW _ _ hz hop OG.out.reads HZL.out HIN.out).mono ?_
        rintro e wh ⟨rfl, hwh⟩
        obtain rfl : wg = wh := hwh.symm
        go_wp2
        go_ret
        exact ⟨by simp, SG.out.1⟩
    | true =>
      obtain ⟨gf, gl, hx, gn, gk⟩ := HG.out rfl
      obtain ⟨f, hf⟩ : ∃ f, f = farsOut (m : Int) le y := ⟨_, rfl⟩
      have CF : Hid (∀ (W : World) (v : Value), ReadsEd W v le → Calls Try.prog 51 #[.int .i64 (m : Int), v, .int .i64 y] W (NearPost W f true)) := fun W v h => by
        have := implFarsFrom_any W v (m : Int) le y h (Nat.le_trans hl20 (by decide))
        rw [gf, ← hf] at this
        exact this
      have GN : Hid (∀ i, 0 ≤ i → i < (m : Int) → 0 ≤ lab f i ∧ lab f i ≤ 100000) := by rw [hf]; exact gn
      have GK : Hid (∀ k ∈ hs, (0 ≤ k ∧ k < (m : Int)) ∧ pathOk m le [x, k] = true ∧ lab f k + pathCost m le [x, k] = lab f x ∧ 0 ≤ pathCost m le [x, k] ∧ pathCost m le [x, k] ≤ 100) := by rw [hf]; exact gk
      have hfl : f.length = m := by rw [hf]; omega
      clear HG gf gl gn gk hf
      go_wp2_with fail
      refine (CF.out _ _ M23.out.reads).mono ?_
      rintro e w24 ⟨u24, rfl, ho24, hb24⟩
      have S24 : Hid (Since w.heap.size w w24) := S23.out.step hb24
      have M24 : Hid (OwnEd w24 w.heap.size (.slice x20 le.length y20) le) := M23.out.below hb24
      have H24 : Hid (Own w24 w.heap.size (.slice x21 hs.length y21) hs) := H23.out.below hb24
      obtain ⟨x24, y24, rfl⟩ := ho24.shape
      have F24 : Hid (Own w24 w.heap.size (.slice x24 f.length y24) f) := ho24.mono S23.out.2
      clear ho24
      clear hb24
      clear CF
      rw [hfl]
      have HFC : Hid (∀ j, j < m → ∃ gg go, x24 = some ⟨gg, go, none⟩ ∧ ∀ W', Since w24.heap.size w24 W' → ∀ hj : j < f.length, W'.cell? ⟨gg, go + j, none⟩ = some (.int .i64 f[j])) := fun j hj => own_cellsW F24.out j (by omega)
      have HHC : Hid (∀ j, j < hs.length → ∃ gg go, x21 = some ⟨gg, go, none⟩ ∧ ∀ W', Since w24.heap.size w24 W' → ∀ hj : j < hs.length, W'.cell? ⟨gg, go + j, none⟩ = some (.int .i64 hs[j])) := fun j hj => own_cellsW H24.out j hj
      have HS24 : Hid (Since w24.heap.size w24 w24) := Since.start w24
      obtain ⟨p, rfl⟩ : ∃ p : Nat, x = (p : Int) := ⟨x.toNat, by omega⟩
      have hpm : p < m := by omega
      have hpm' : (p : Int) < (m : Int) := by omega
      go_wp2
      go_loopw [189] (fun i wr => ∃ j : Nat, j ≤ hs.length ∧ i = .int .i64 (j : Int) ∧ Hid (Since w24.heap.size w24 wr)) (fun i _ => hs.length - (intOf i).toNat)
      case atStart => exact ⟨0, Nat.zero_le _, rfl, HS24.out⟩
      case round =>
        clear HS24
        obtain ⟨j, hj, rfl, HK⟩ := hrel
        by_cases hlt : j < hs.length
        · have hlt' : (j : Int) < (hs.length : Int) := by omega
          obtain ⟨gh, go, rfl, hhc⟩ := HHC.out j hlt
          have c0 := hhc wr HK.out hlt
          obtain ⟨hk, hpo, hpc, hc0, hc1⟩ := GK.out hs[j] (List.getElem_mem hlt)
          generalize hs[j] = z at *
          obtain ⟨q, rfl⟩ : ∃ q : Nat, z = (q : Int) := ⟨z.toNat, by omega⟩
          have hqm : q < m := by omega
          have hqm' : (q : Int) < (m : Int) := by omega
          have g1 := GN.out (p : Int) (by omega) hpm'
          have g2 := GN.out (q : Int) (by omega) hqm'
          obtain ⟨gg, fo, rfl, hfp⟩ := HFC.out p hpm
          obtain ⟨gg', fo', e2, hfq⟩ := HFC.out q hqm
          simp only [Option.some.injEq, Addr.mk.injEq] at e2
          obtain ⟨rfl, rfl, -⟩ := e2
          rw [lab_get f p (by omega)] at hpc g1
          rw [lab_get f q (by omega)] at hpc g2
          have HGP : Hid (∀ W', Since w24.heap.size w24 W' → W'.cell? ⟨gg, fo + p, none⟩ = some (.int .i64 f[p]) ∧ W'.cell? ⟨gg, fo + q, none⟩ = some (.int .i64 f[q])) := fun W' hs => ⟨hfp W' hs (by omega), hfq W' hs (by omega)⟩
          have CC : Hid (Calls Try.prog 62 #[.int .i64 (m : Int), .slice x20 le.length y20, .slice (some ⟨wr.heap.size, 0, none⟩) 2 2] (wr.alloc (.cells #[.int .i64 (p : Int), .int .i64 (q : Int)] 3)) (CostPost (wr.alloc (.cells #[.int .i64 (p : Int), .int .i64 (q : Int)] 3)) (pathCost m le [(p : Int), (q : Int)]) true)) := by
            have := implCostOf_any (wr.alloc (.cells #[.int .i64 (p : Int), .int .i64 (q : Int)] 3)) wr.heap.size (.slice x20 le.length y20) (.slice (some ⟨wr.heap.size, 0, none⟩) 2 2) (m : Int) le [(p : Int), (q : Int)] (((M24.out.below HK.out.1).below ((Below.refl _ wr).alloc (Nat.le_refl _) _)).reads) (own_twoW wr _ _) (Nat.le_trans hl20 (by decide)) (by simp)
            rwa [hpo] at this
          clear hhc hfp hfq hpo
          generalize pathCost (m : Int) le [(p : Int), (q : Int)] = c at *
          generalize f[p] = fp at *
          generalize f[q] = fq at *
          have hwr : IntKind.i64.wrap (fq + c) = fq + c := by rw [IntKind.wrap_i64]; omega
          have hbq : (fq + c == fp) = true := by simpa using hpc
          have HPC : Hid (fq + c = fp) := hpc
          have hhl := HHL.out
          clear hpc g1 g2 hc0 hc1
          have HSA : Hid (Since w24.heap.size w24 (wr.alloc (.cells #[.int .i64 (p : Int), .int .i64 (q : Int)] 3))) := HK.out.step ((Below.refl _ wr).alloc (Nat.le_refl _) _)
          go_wp2_with fail
          refine CC.out.mono ?_
          rintro e wk ⟨rfl, hbk⟩
          have HSK : Hid (Since w24.heap.size w24 wk) := HSA.out.step hbk
          clear hbk CC HSA HK
          go_wp2
          have SA0 := Since.start wk
          have HX : Hid (∀ w', Since wk.heap.size wk w' → w'.cell? ⟨gg, fo + p, none⟩ = some (.int .i64 fp) ∧ w'.cell? ⟨gg, fo + q, none⟩ = some (.int .i64 fq)) := fun w' hs => HGP.out w' (HSK.out.tran hs)
          refine wp_region_held_drew (S := (fun w' => w'.cell? ⟨gg, fo + p, none⟩ = some (.int .i64 fp) ∧ w'.cell? ⟨gg, fo + q, none⟩ = some (.int .i64 fq))) (by kernel_rfl) ?_ (fun hHeld => ?_)
          · exact HX.out _ SA0.drew
          refine handRead 0 (some 202) (.bool true) rfl rfl (by kernel_rfl) (by kernel_rfl) (by kernel_rfl) (fun _ _ _ h => h) (by kernel_rfl) (by assumption) ?_ ?_
          · intro w hSw
            (try dsimp only at hSw)
            go_simp
          simp only [Act.put, List.setIfInBounds_toArray, List.set_cons_zero, List.set_cons_succ]
          refine handRead 1 (some 203) (.bool false) rfl rfl (by kernel_rfl) (by kernel_rfl) (by kernel_rfl) (fun _ _ _ h => h) (by kernel_rfl) (by assumption) ?_ ?_
          · intro w hSw
            (try dsimp only at hSw)
            go_simp
          simp only [Act.put, List.setIfInBounds_toArray, List.set_cons_zero, List.set_cons_succ]
          refine handRead 2 (some 204) (.bool false) rfl rfl (by kernel_rfl) (by kernel_rfl) (by kernel_rfl) (fun _ _ _ h => h) (by kernel_rfl) (by assumption) ?_ ?_
          · intro w hSw
            (try dsimp only at hSw)
            go_simp
          simp only [Act.put, List.setIfInBounds_toArray, List.set_cons_zero, List.set_cons_succ]
          refine handRead 3 (some 205) (.bool true) rfl rfl (by kernel_rfl) (by kernel_rfl) (by kernel_rfl) (fun _ _ _ h => h) (by kernel_rfl) (by assumption) ?_ ?_
          · intro w hSw
            (try dsimp only at hSw)
            go_simp
          simp only [Act.put, List.setIfInBounds_toArray, List.set_cons_zero, List.set_cons_succ]
          refine handRead 4 (some 206) (.bool false) rfl rfl (by kernel_rfl) (by kernel_rfl) (by kernel_rfl) (fun _ _ _ h => h) (by kernel_rfl) (by assumption) ?_ ?_
          · intro w hSw
            (try dsimp only at hSw)
            go_simp
          simp only [Act.put, List.setIfInBounds_toArray, List.set_cons_zero, List.set_cons_succ]
          refine handRead 5 (some 207) (.bool false) rfl rfl (by kernel_rfl) (by kernel_rfl) (by kernel_rfl) (fun _ _ _ h => h) (by kernel_rfl) (by assumption) ?_ ?_
          · intro w hSw
            (try dsimp only at hSw)
            go_simp
          simp only [Act.put, List.setIfInBounds_toArray, List.set_cons_zero, List.set_cons_succ]
          refine handRead 6 (some 208) (.bool false) rfl rfl (by kernel_rfl) (by kernel_rfl) (by kernel_rfl) (fun _ _ _ h => h) (by kernel_rfl) (by assumption) ?_ ?_
          · intro w hSw
            (try dsimp only at hSw)
            go_simp
          simp only [Act.put, List.setIfInBounds_toArray, List.set_cons_zero, List.set_cons_succ]
          refine handRead 7 (some 209) (.slice (some ⟨gg, fo, none⟩) m y24) rfl rfl (by kernel_rfl) (by kernel_rfl) (by kernel_rfl) (fun _ _ _ h => h) (by kernel_rfl) (by assumption) ?_ ?_
          · intro w hSw
            (try dsimp only at hSw)
            go_simp
          simp only [Act.put, List.setIfInBounds_toArray, List.set_cons_zero, List.set_cons_succ]
          refine handRead 8 (some 210) (.int .i64 (q : Int)) rfl rfl (by kernel_rfl) (by kernel_rfl) (by kernel_rfl) (fun _ _ _ h => h) (by kernel_rfl) (by assumption) ?_ ?_
          · intro w hSw
            (try dsimp only at hSw)
            go_simp
          simp only [Act.put, List.setIfInBounds_toArray, List.set_cons_zero, List.set_cons_succ]
          refine handRead 9 (some 211) (.pointer (some ⟨gg, fo + q, none⟩)) rfl rfl (by kernel_rfl) (by kernel_rfl) (by kernel_rfl) (fun _ _ _ h => h) (by kernel_rfl) (by assumption) ?_ ?_
          · intro w hSw
            (try dsimp only at hSw)
            go_simp
          simp only [Act.put, List.setIfInBounds_toArray, List.set_cons_zero, List.set_cons_succ]
          refine handRead 10 (some 212) (.int .i64 fq) rfl rfl (by kernel_rfl) (by kernel_rfl) (by kernel_rfl) (fun _ _ _ h => h) (by kernel_rfl) (by assumption) ?_ ?_
          · intro w hSw
            (try dsimp only at hSw)
            go_simp
          simp only [Act.put, List.setIfInBounds_toArray, List.set_cons_zero, List.set_cons_succ]
          refine handRead 11 (some 213) (.int .i64 c) rfl rfl (by kernel_rfl) (by kernel_rfl) (by kernel_rfl) (fun _ _ _ h => h) (by kernel_rfl) (by assumption) ?_ ?_
          · intro w hSw
            (try dsimp only at hSw)
            go_simp
          simp only [Act.put, List.setIfInBounds_toArray, List.set_cons_zero, List.set_cons_succ]
          refine handRead 12 (some 214) (.int .i64 (fq + c)) rfl rfl (by kernel_rfl) (by kernel_rfl) (by kernel_rfl) (fun _ _ _ h => h) (by kernel_rfl) (by assumption) ?_ ?_
          · intro w hSw
            (try dsimp only at hSw)
            go_simp
          simp only [Act.put, List.setIfInBounds_toArray, List.set_cons_zero, List.set_cons_succ]
          refine handRead 13 (some 215) (.slice (some ⟨gg, fo, none⟩) m y24) rfl rfl (by kernel_rfl) (by kernel_rfl) (by kernel_rfl) (fun _ _ _ h => h) (by kernel_rfl) (by assumption) ?_ ?_
          · intro w hSw
            (try dsimp only at hSw)
            go_simp
          simp only [Act.put, List.setIfInBounds_toArray, List.set_cons_zero, List.set_cons_succ]
          refine handRead 14 (some 216) (.int .i64 (p : Int)) rfl rfl (by kernel_rfl) (by kernel_rfl) (by kernel_rfl) (fun _ _ _ h => h) (by kernel_rfl) (by assumption) ?_ ?_
          · intro w hSw
            (try dsimp only at hSw)
            go_simp
          simp only [Act.put, List.setIfInBounds_toArray, List.set_cons_zero, List.set_cons_succ]
          refine handRead 15 (some 217) (.pointer (some ⟨gg, fo + p, none⟩)) rfl rfl (by kernel_rfl) (by kernel_rfl) (by kernel_rfl) (fun _ _ _ h => h) (by kernel_rfl) (by assumption) ?_ ?_
          · intro w hSw
            (try dsimp only at hSw)
            go_simp
          simp only [Act.put, List.setIfInBounds_toArray, List.set_cons_zero, List.set_cons_succ]
          refine handRead 16 (some 218) (.int .i64 fp) rfl rfl (by kernel_rfl) (by kernel_rfl) (by kernel_rfl) (fun _ _ _ h => h) (by kernel_rfl) (by assumption) ?_ ?_
          · intro w hSw
            (try dsimp only at hSw)
            go_simp
          simp only [Act.put, List.setIfInBounds_toArray, List.set_cons_zero, List.set_cons_succ]
          refine handRead 17 (some 219) (.bool false) rfl rfl (by kernel_rfl) (by kernel_rfl) (by kernel_rfl) (fun _ _ _ h => h) (by kernel_rfl) (by assumption) ?_ ?_
          · intro w hSw
            (try dsimp only at hSw)
            go_simp
            exact HPC.out
          simp only [Act.put, List.setIfInBounds_toArray, List.set_cons_zero, List.set_cons_succ]
          refine handRead 18 (some 220) (.bool false) rfl rfl (by kernel_rfl) (by kernel_rfl) (by kernel_rfl) (fun _ _ _ h => h) (by kernel_rfl) (by assumption) ?_ ?_
          · intro w hSw
            (try dsimp only at hSw)
            go_simp
          simp only [Act.put, List.setIfInBounds_toArray, List.set_cons_zero, List.set_cons_succ]
          refine wpAnyH_done (by kernel_rfl) ?_ _
          clear SA0 HX
          have HSD : Hid (Since w24.heap.size w24 wk.drew) := HSK.out.drew
          go_wp2
          go_roundw
          case rel => exact ⟨j + 1, by omega, by go_num, HSD.out⟩
          case measure => simp [intOf]; omega
        · have hlt' : ¬ (j : Int) < (hs.length : Int) := by omega
          have S25 : Hid (Since w.heap.size w wr) := S24.out.tran HK.out
          clear HK HFC HHC GK GN M24 H24 F24
          go_wp2_with fail
          refine (drawHopFor_any w.heap.size w _ a1 len1 cap1 HC1.out hl1 S25.out).mono ?_
          rintro e wa ⟨oo, va, la, q, r, fl, rfl, hoa, hla, hoN, hsa⟩
          obtain ⟨xa, ya, rfl⟩ := hoa.shape
          have SA : Hid (Since w.heap.size w wa) := hsa
          have LA : Hid (OwnEd wa w.heap.size (.slice xa la.length ya) la) := hoa.mono S25.out.2
          clear hoa hsa
          obtain ⟨hop, hhop⟩ : ∃ hop, hop = hopForOut (oo : Int) la q r fl := ⟨_, rfl⟩
          obtain ⟨three, hthree⟩ : ∃ three, three = hopForOk (oo : Int) la q r fl := ⟨_, rfl⟩
          have HM : Hid (three = true → hopsOk oo la q r = true ∧ hop ∈ hopsOut oo la q r) := fun h => by
            rw [hhop]; exact hopFor_mem (hthree.symm.trans h)
          have CP : Hid (∀ (W : World) (v : Value), ReadsEd W v la → Calls Try.prog 67 #[.int .i64 (oo : Int), v, .int .i64 q, .int .i64 r, .int .i64 fl] W (ForPost W hop three)) := fun W v h => by
            rw [hhop, hthree]; exact implHopFor_any W v (oo : Int) la q r fl h (Nat.le_trans hla (by decide))
          have CPS : Hid (∀ (W : World) (v : Value), ReadsEd W v la → Calls Try.prog 68 #[.int .i64 (oo : Int), v, .int .i64 q, .int .i64 r, .int .i64 fl] W (ForPost W hop three)) := fun W v h => by
            rw [hhop, hthree]; exact specHopFor_any W v (oo : Int) la q r fl h (Nat.le_trans hla (by decide))
          clear hhop hthree
          go_wp2_with fail
          refine (CP.out _ _ LA.out.reads).mono ?_
          rintro e wb ⟨rfl, hbb⟩
          have SB : Hid (Since w.heap.size w wb) := SA.out.step hbb
          have LB : Hid (OwnEd wb w.heap.size (.slice xa la.length ya) la) := LA.out.below hbb
          clear hbb LA
          go_wp2_with fail
          refine (CPS.out _ _ LB.out.reads).mono ?_
          rintro e wc ⟨rfl, hbc⟩
          have SC : Hid (Since w.heap.size w wc) := SB.out.step hbc
          have LC : Hid (OwnEd wc w.heap.size (.slice xa la.length ya) la) := LB.out.below hbc
          clear hbc LB CP CPS
          go_wp2_with fail
          refine (drawCost_any wc.heap.size wc _ a1 len1 cap1 (HC1.out.since SC.out (Nat.le_refl _)) hl1 (Since.start wc)).mono ?_
          rintro e wd ⟨s, vd, ld, ud, ws2, rfl, hod, hld, hsN, huw, hwl, hsd⟩
          obtain ⟨xd, yd, rfl⟩ := hod.shape
          obtain ⟨xu, yu, rfl⟩ := huw.shape
          have SD : Hid (Since w.heap.size w wd) := SC.out.step hsd.1
          have LD : Hid (OwnEd wd w.heap.size (.slice xa la.length ya) la) := LC.out.below hsd.1
          have DD : Hid (OwnEd wd wc.heap.size (.slice xd ld.length yd) ld) := hod
          have UD : Hid (Own wd wc.heap.size (.slice xu ws2.length yu) ws2) := huw
          have HW2 : Hid (ws2.length ≤ 12 ∧ ld.length ≤ 40) := ⟨hwl, hld⟩
          clear hod huw hsd LC hwl hld
          go_wp2_with fail
          refine (implCostOf_any _ _ _ _ (s : Int) ld ws2 DD.out.reads UD.out (Nat.le_trans HW2.out.2 (by decide)) (Nat.le_trans HW2.out.1 (by decide))).mono ?_
          rintro e we ⟨rfl, hbe⟩
          have SE : Hid (Since w.heap.size w we) := SD.out.step hbe
          have LE : Hid (OwnEd we w.heap.size (.slice xa la.length ya) la) := LD.out.below hbe
          have DE : Hid (OwnEd we wc.heap.size (.slice xd ld.length yd) ld) := DD.out.below hbe
          have UE : Hid (Own we wc.heap.size (.slice xu ws2.length yu) ws2) := UD.out.below hbe
          clear hbe LD DD UD
          go_wp2_with fail
          refine (specCostOf_any _ _ _ _ (s : Int) ld ws2 DE.out.reads UE.out (Nat.le_trans HW2.out.2 (by decide)) (Nat.le_trans HW2.out.1 (by decide))).mono ?_
          rintro e wf ⟨rfl, hbf⟩
          have SF : Hid (Since w.heap.size w wf) := SE.out.step hbf
          have LF : Hid (OwnEd wf w.heap.size (.slice xa la.length ya) la) := LE.out.below hbf
          clear hbf LE DE UE
          generalize pathCost (s : Int) ld ws2 = c8 at *
          generalize pathOk (s : Int) ld ws2 = k8 at *
          have hkk : (k8 != k8) = false := by simp
          have hcc : (c8 != c8) = false := by simp
          have hhh : (hop != hop) = false := by simp
          cases three with
          | false =>
            go_wp2
            go_ret
            exact ⟨by simp, SF.out.1⟩
          | true =>
            obtain ⟨hm1, hm2⟩ := HM.out rfl
            obtain ⟨hz, hhz⟩ : ∃ hz, hz = hopsOut (oo : Int) la q r := ⟨_, rfl⟩
            have HZL : Hid (hz.length ≤ 4194304) := by show _ ≤ _; rw [hhz]; exact hopsOut_len _ _ _ _
            have HIN : Hid (hop ∈ hz) := by rw [hhz]; exact hm2
            have CQ : Hid (∀ (W : World) (v : Value), ReadsEd W v la → Calls Try.prog 64 #[.int .i64 (oo : Int), v, .int .i64 q, .int .i64 r] W (NearPost W hz true)) := fun W v h => by
              have := implFirstHops_any W v (oo : Int) la q r h (Nat.le_trans hla (by decide))
              rw [hm1, ← hhz] at this
              exact this
            clear hm1 hm2 hhz HM
            go_wp2_with fail
            refine (CQ.out _ _ LF.out.reads).mono ?_
            rintro e wg ⟨ug, rfl, hog, hbg⟩
            obtain ⟨xg, yg, rfl⟩ := hog.shape
            have SG : Hid (Since w.heap.size w wg) := SF.out.step hbg
            have OG : Hid (Own wg wf.heap.size (.slice xg hz.length yg) hz) := hog
            clear hog hbg CQ LF
            go_wp2_with fail
            refine (has_yesW _ _ hz hop OG.out.reads HZL.out HIN.out).mono ?_
            rintro e wh ⟨rfl, hwh⟩
            obtain rfl : wg = wh := hwh.symm
            go_wp2
            go_ret
            exact ⟨by simp, SG.out.1⟩
  | true =>
    obtain ⟨⟨h1, h2⟩, h3, h4, h5, h6, h7, h8, h9⟩ := HF.out rfl
    obtain ⟨f, hf⟩ : ∃ f, f = farsOut (n : Int) l a := ⟨_, rfl⟩
    have CC : Hid (∀ (W : World) (B : Nat) (v u : Value), ReadsEd W v l → Own W B u ws → Calls Try.prog 62 #[.int .i64 (n : Int), v, u] W (CostPost W cost true)) := fun W B v u h ho => by
      have := implCostOf_any W B v u (n : Int) l ws h ho (Nat.le_trans hl40 (by decide)) (Nat.le_trans HWL.out (by decide))
      rwa [h1, h2] at this
    have CF : Hid (∀ (W : World) (v : Value), ReadsEd W v l → Calls Try.prog 51 #[.int .i64 (n : Int), v, .int .i64 a] W (NearPost W f true)) := fun W v h => by
      have := implFarsFrom_any W v (n : Int) l a h (Nat.le_trans hl40 (by decide))
      rw [h3, ← hf] at this
      exact this
    have hfl : f.length = n := by rw [hf]; omega
    have HFB : Hid (lab f b = cost) := by rw [hf]; exact h5
    clear HF h1 h2 h3 h4 h5 hf
    go_wp2_with fail
    refine (CC.out _ _ _ _ L4.out.reads W4.out).mono ?_
    rintro e w5 ⟨rfl, hb5⟩
    have S5 : Hid (Since w.heap.size w w5) := S4.out.step hb5
    have L5 : Hid (OwnEd w5 w.heap.size (.slice x1 l.length y1) l) := L4.out.below hb5
    have W5 : Hid (Own w5 w.heap.size (.slice x2 ws.length y2) ws) := W4.out.below hb5
    clear hb5
    go_wp2_with fail
    refine (CF.out _ _ L5.out.reads).mono ?_
    rintro e w6 ⟨u6, rfl, ho6, hb6⟩
    have S6 : Hid (Since w.heap.size w w6) := S5.out.step hb6
    have W6 : Hid (Own w6 w.heap.size (.slice x2 ws.length y2) ws) := W5.out.below hb6
    obtain ⟨x6, y6, rfl⟩ := ho6.shape
    have F6 : Hid (Own w6 w.heap.size (.slice x6 f.length y6) f) := ho6.mono S5.out.2
    clear ho6
    clear hb6
    clear CC CF
    rw [hfl]
    obtain ⟨p, rfl⟩ : ∃ p : Nat, b = (p : Int) := ⟨b.toNat, by omega⟩
    have hpn : p < n := by omega
    have hpn' : (p : Int) < (n : Int) := by omega
    obtain ⟨gg, go, rfl, hfc⟩ := own_cellsW F6.out p (by omega)
    have c0 := hfc w6 (Since.start _) (by omega)
    rw [← lab_get f p (by omega), HFB.out] at c0
    obtain ⟨gw, wo, rfl, hwc⟩ := own_cellsW W6.out 0 (by omega)
    obtain ⟨gw', wo', e2, hwd⟩ := own_cellsW W6.out (ws.length - 1) (by omega)
    simp only [Option.some.injEq, Addr.mk.injEq] at e2
    obtain ⟨rfl, rfl, -⟩ := e2
    have c1 := hwc w6 (Since.start _) (by omega)
    have c2 := hwd w6 (Since.start _) (by omega)
    rw [← getD_atW ws _ (by omega), h8] at c1
    rw [← getD_atW ws _ (by omega), h9] at c2
    obtain ⟨lw, hlw⟩ : ∃ lw : Nat, lw = ws.length - 1 := ⟨_, rfl⟩
    have hw1 : IntKind.i64.wrap ((ws.length : Int) - 1) = (lw : Int) := by have := HWL.out; rw [IntKind.wrap_i64]; omega
    have hpos : (0 : Int) < (ws.length : Int) := by omega
    have hlw2 : (lw : Int) < (ws.length : Int) := by omega
    rw [← hlw] at c2
    rw [Nat.add_zero] at c1
    clear hfc hwc hwd F6 W6 HFB h8 h9 hlw h7
    go_wp2_with fail
    refine (drawTwo_any w.heap.size w _ a1 len1 cap1 HC1.out hl1 S6.out).mono ?_
    rintro e w20 ⟨m, v20, le, x, y, rfl, ho20, hl20, hm13, hs20, -⟩
    obtain ⟨x20, y20, rfl⟩ := ho20.shape
    have S20 : Hid (Since w.heap.size w w20) := hs20
    have M20 : Hid (OwnEd w20 w.heap.size (.slice x20 le.length y20) le) := ho20.mono S6.out.2
    clear ho20 hs20
    obtain ⟨hs, hhs⟩ : ∃ hs, hs = hopsOut (m : Int) le x y := ⟨_, rfl⟩
    obtain ⟨one, hone⟩ : ∃ one, one = hopsOk (m : Int) le x y := ⟨_, rfl⟩
    have HHL : Hid (hs.length ≤ 4194304) := by show _ ≤ _; rw [hhs]; exact hopsOut_len _ _ _ _
    have HG : Hid (one = true → farsOk m le y = true ∧ ((farsOut m le y).length : Int) = m ∧ (0 ≤ x ∧ x < (m : Int)) ∧ (∀ i, 0 ≤ i → i < (m : Int) → 0 ≤ lab (farsOut m le y) i ∧ lab (farsOut m le y) i ≤ 100000) ∧ ∀ k ∈ hs, (0 ≤ k ∧ k < (m : Int)) ∧ pathOk m le [x, k] = true ∧ lab (farsOut m le y) k + pathCost m le [x, k] = lab (farsOut m le y) x ∧ 0 ≤ pathCost m le [x, k] ∧ pathCost m le [x, k] ≤ 100) := fun h => by
      rw [hhs]; exact hop_path (hone.symm.trans h)
    have CH : Hid (∀ (W : World) (v : Value), ReadsEd W v le → Calls Try.prog 64 #[.int .i64 (m : Int), v, .int .i64 x, .int .i64 y] W (NearPost W hs one)) := fun W v h => by
      rw [hhs, hone]; exact implFirstHops_any W v (m : Int) le x y h (Nat.le_trans hl20 (by decide))
    have CHS : Hid (∀ (W : World) (v : Value), ReadsEd W v le → Calls Try.prog 65 #[.int .i64 (m : Int), v, .int .i64 x, .int .i64 y] W (NearPost W hs one)) := fun W v h => by
      rw [hhs, hone]; exact specFirstHops_any W v (m : Int) le x y h (Nat.le_trans hl20 (by decide))
    clear hhs hone
    go_wp2_with fail
    refine (CH.out _ _ M20.out.reads).mono ?_
    rintro e w21 ⟨u21, rfl, ho21, hb21⟩
    have S21 : Hid (Since w.heap.size w w21) := S20.out.step hb21
    have M21 : Hid (OwnEd w21 w.heap.size (.slice x20 le.length y20) le) := M20.out.below hb21
    obtain ⟨x21, y21, rfl⟩ := ho21.shape
    have H21 : Hid (Own w21 w.heap.size (.slice x21 hs.length y21) hs) := ho21.mono S20.out.2
    clear ho21
    clear hb21
    go_wp2_with fail
    refine (CHS.out _ _ M21.out.reads).mono ?_
    rintro e w22 ⟨u22, rfl, ho22, hb22⟩
    have S22 : Hid (Since w.heap.size w w22) := S21.out.step hb22
    have M22 : Hid (OwnEd w22 w.heap.size (.slice x20 le.length y20) le) := M21.out.below hb22
    have H22 : Hid (Own w22 w.heap.size (.slice x21 hs.length y21) hs) := H21.out.below hb22
    obtain ⟨x22, y22, rfl⟩ := ho22.shape
    have J22 : Hid (Own w22 w.heap.size (.slice x22 hs.length y22) hs) := ho22.mono S21.out.2
    clear ho22
    clear hb22
    go_wp2_with fail
    refine (sameInts_same _ _ _ hs H22.out.reads J22.out.reads HHL.out).mono ?_
    rintro e w23 ⟨rfl, hb23⟩
    have S23 : Hid (Since w.heap.size w w23) := S22.out.step hb23
    have M23 : Hid (OwnEd w23 w.heap.size (.slice x20 le.length y20) le) := M22.out.below hb23
    have H23 : Hid (Own w23 w.heap.size (.slice x21 hs.length y21) hs) := H22.out.below hb23
    clear hb23
    clear CH CHS
    cases one with
    | false =>
      clear HG
      go_wp2_with fail
      refine (drawHopFor_any w.heap.size w _ a1 len1 cap1 HC1.out hl1 S23.out).mono ?_
      rintro e wa ⟨oo, va, la, q, r, fl, rfl, hoa, hla, hoN, hsa⟩
      obtain ⟨xa, ya, rfl⟩ := hoa.shape
      have SA : Hid (Since w.heap.size w wa) := hsa
      have LA : Hid (OwnEd wa w.heap.size (.slice xa la.length ya) la) := hoa.mono S23.out.2
      clear hoa hsa
      obtain ⟨hop, hhop⟩ : ∃ hop, hop = hopForOut (oo : Int) la q r fl := ⟨_, rfl⟩
      obtain ⟨three, hthree⟩ : ∃ three, three = hopForOk (oo : Int) la q r fl := ⟨_, rfl⟩
      have HM : Hid (three = true → hopsOk oo la q r = true ∧ hop ∈ hopsOut oo la q r) := fun h => by
        rw [hhop]; exact hopFor_mem (hthree.symm.trans h)
      have CP : Hid (∀ (W : World) (v : Value), ReadsEd W v la → Calls Try.prog 67 #[.int .i64 (oo : Int), v, .int .i64 q, .int .i64 r, .int .i64 fl] W (ForPost W hop three)) := fun W v h => by
        rw [hhop, hthree]; exact implHopFor_any W v (oo : Int) la q r fl h (Nat.le_trans hla (by decide))
      have CPS : Hid (∀ (W : World) (v : Value), ReadsEd W v la → Calls Try.prog 68 #[.int .i64 (oo : Int), v, .int .i64 q, .int .i64 r, .int .i64 fl] W (ForPost W hop three)) := fun W v h => by
        rw [hhop, hthree]; exact specHopFor_any W v (oo : Int) la q r fl h (Nat.le_trans hla (by decide))
      clear hhop hthree
      go_wp2_with fail
      refine (CP.out _ _ LA.out.reads).mono ?_
      rintro e wb ⟨rfl, hbb⟩
      have SB : Hid (Since w.heap.size w wb) := SA.out.step hbb
      have LB : Hid (OwnEd wb w.heap.size (.slice xa la.length ya) la) := LA.out.below hbb
      clear hbb LA
      go_wp2_with fail
      refine (CPS.out _ _ LB.out.reads).mono ?_
      rintro e wc ⟨rfl, hbc⟩
      have SC : Hid (Since w.heap.size w wc) := SB.out.step hbc
      have LC : Hid (OwnEd wc w.heap.size (.slice xa la.length ya) la) := LB.out.below hbc
      clear hbc LB CP CPS
      go_wp2_with fail
      refine (drawCost_any wc.heap.size wc _ a1 len1 cap1 (HC1.out.since SC.out (Nat.le_refl _)) hl1 (Since.start wc)).mono ?_
      rintro e wd ⟨s, vd, ld, ud, ws2, rfl, hod, hld, hsN, huw, hwl, hsd⟩
      obtain ⟨xd, yd, rfl⟩ := hod.shape
      obtain ⟨xu, yu, rfl⟩ := huw.shape
      have SD : Hid (Since w.heap.size w wd) := SC.out.step hsd.1
      have LD : Hid (OwnEd wd w.heap.size (.slice xa la.length ya) la) := LC.out.below hsd.1
      have DD : Hid (OwnEd wd wc.heap.size (.slice xd ld.length yd) ld) := hod
      have UD : Hid (Own wd wc.heap.size (.slice xu ws2.length yu) ws2) := huw
      have HW2 : Hid (ws2.length ≤ 12 ∧ ld.length ≤ 40) := ⟨hwl, hld⟩
      clear hod huw hsd LC hwl hld
      go_wp2_with fail
      refine (implCostOf_any _ _ _ _ (s : Int) ld ws2 DD.out.reads UD.out (Nat.le_trans HW2.out.2 (by decide)) (Nat.le_trans HW2.out.1 (by decide))).mono ?_
      rintro e we ⟨rfl, hbe⟩
      have SE : Hid (Since w.heap.size w we) := SD.out.step hbe
      have LE : Hid (OwnEd we w.heap.size (.slice xa la.length ya) la) := LD.out.below hbe
      have DE : Hid (OwnEd we wc.heap.size (.slice xd ld.length yd) ld) := DD.out.below hbe
      have UE : Hid (Own we wc.heap.size (.slice xu ws2.length yu) ws2) := UD.out.below hbe
      clear hbe LD DD UD
      go_wp2_with fail
      refine (specCostOf_any _ _ _ _ (s : Int) ld ws2 DE.out.reads UE.out (Nat.le_trans HW2.out.2 (by decide)) (Nat.le_trans HW2.out.1 (by decide))).mono ?_
      rintro e wf ⟨rfl, hbf⟩
      have SF : Hid (Since w.heap.size w wf) := SE.out.step hbf
      have LF : Hid (OwnEd wf w.heap.size (.slice xa la.length ya) la) := LE.out.below hbf
      clear hbf LE DE UE
      generalize pathCost (s : Int) ld ws2 = c8 at *
      generalize pathOk (s : Int) ld ws2 = k8 at *
      have hkk : (k8 != k8) = false := by simp
      have hcc : (c8 != c8) = false := by simp
      have hhh : (hop != hop) = false := by simp
      cases three with
      | false =>
        go_wp2
        go_ret
        exact ⟨by simp, SF.out.1⟩
      | true =>
        obtain ⟨hm1, hm2⟩ := HM.out rfl
        obtain ⟨hz, hhz⟩ : ∃ hz, hz = hopsOut (oo : Int) la q r := ⟨_, rfl⟩
        have HZL : Hid (hz.length ≤ 4194304) := by show _ ≤ _; rw [hhz]; exact hopsOut_len _ _ _ _
        have HIN : Hid (hop ∈ hz) := by rw [hhz]; exact hm2
        have CQ : Hid (∀ (W : World) (v : Value), ReadsEd W v la → Calls Try.prog 64 #[.int .i64 (oo : Int), v, .int .i64 q, .int .i64 r] W (NearPost W hz true)) := fun W v h => by
          have := implFirstHops_any W v (oo : Int) la q r h (Nat.le_trans hla (by decide))
          rw [hm1, ← hhz] at this
          exact this
        clear hm1 hm2 hhz HM
        go_wp2_with fail
        refine (CQ.out _ _ LF.out.reads).mono ?_
        rintro e wg ⟨ug, rfl, hog, hbg⟩
        obtain ⟨xg, yg, rfl⟩ := hog.shape
        have SG : Hid (Since w.heap.size w wg) := SF.out.step hbg
        have OG : Hid (Own wg wf.heap.size (.slice xg hz.length yg) hz) := hog
        clear hog hbg CQ LF
        go_wp2_with fail
        refine (has_yesW _ _ hz hop OG.out.reads HZL.out HIN.out).mono ?_
        rintro e wh ⟨rfl, hwh⟩
        obtain rfl : wg = wh := hwh.symm
        go_wp2
        go_ret
        exact ⟨by simp, SG.out.1⟩
    | true =>
      obtain ⟨gf, gl, hx, gn, gk⟩ := HG.out rfl
      obtain ⟨f, hf⟩ : ∃ f, f = farsOut (m : Int) le y := ⟨_, rfl⟩
      have CF : Hid (∀ (W : World) (v : Value), ReadsEd W v le → Calls Try.prog 51 #[.int .i64 (m : Int), v, .int .i64 y] W (NearPost W f true)) := fun W v h => by
        have := implFarsFrom_any W v (m : Int) le y h (Nat.le_trans hl20 (by decide))
        rw [gf, ← hf] at this
        exact this
      have GN : Hid (∀ i, 0 ≤ i → i < (m : Int) → 0 ≤ lab f i ∧ lab f i ≤ 100000) := by rw [hf]; exact gn
      have GK : Hid (∀ k ∈ hs, (0 ≤ k ∧ k < (m : Int)) ∧ pathOk m le [x, k] = true ∧ lab f k + pathCost m le [x, k] = lab f x ∧ 0 ≤ pathCost m le [x, k] ∧ pathCost m le [x, k] ≤ 100) := by rw [hf]; exact gk
      have hfl : f.length = m := by rw [hf]; omega
      clear HG gf gl gn gk hf
      go_wp2_with fail
      refine (CF.out _ _ M23.out.reads).mono ?_
      rintro e w24 ⟨u24, rfl, ho24, hb24⟩
      have S24 : Hid (Since w.heap.size w w24) := S23.out.step hb24
      have M24 : Hid (OwnEd w24 w.heap.size (.slice x20 le.length y20) le) := M23.out.below hb24
      have H24 : Hid (Own w24 w.heap.size (.slice x21 hs.length y21) hs) := H23.out.below hb24
      obtain ⟨x24, y24, rfl⟩ := ho24.shape
      have F24 : Hid (Own w24 w.heap.size (.slice x24 f.length y24) f) := ho24.mono S23.out.2
      clear ho24
      clear hb24
      clear CF
      rw [hfl]
      have HFC : Hid (∀ j, j < m → ∃ gg go, x24 = some ⟨gg, go, none⟩ ∧ ∀ W', Since w24.heap.size w24 W' → ∀ hj : j < f.length, W'.cell? ⟨gg, go + j, none⟩ = some (.int .i64 f[j])) := fun j hj => own_cellsW F24.out j (by omega)
      have HHC : Hid (∀ j, j < hs.length → ∃ gg go, x21 = some ⟨gg, go, none⟩ ∧ ∀ W', Since w24.heap.size w24 W' → ∀ hj : j < hs.length, W'.cell? ⟨gg, go + j, none⟩ = some (.int .i64 hs[j])) := fun j hj => own_cellsW H24.out j hj
      have HS24 : Hid (Since w24.heap.size w24 w24) := Since.start w24
      obtain ⟨p, rfl⟩ : ∃ p : Nat, x = (p : Int) := ⟨x.toNat, by omega⟩
      have hpm : p < m := by omega
      have hpm' : (p : Int) < (m : Int) := by omega
      go_wp2
      go_loopw [189] (fun i wr => ∃ j : Nat, j ≤ hs.length ∧ i = .int .i64 (j : Int) ∧ Hid (Since w24.heap.size w24 wr)) (fun i _ => hs.length - (intOf i).toNat)
      case atStart => exact ⟨0, Nat.zero_le _, rfl, HS24.out⟩
      case round =>
        clear HS24
        obtain ⟨j, hj, rfl, HK⟩ := hrel
        by_cases hlt : j < hs.length
        · have hlt' : (j : Int) < (hs.length : Int) := by omega
          obtain ⟨gh, go, rfl, hhc⟩ := HHC.out j hlt
          have c0 := hhc wr HK.out hlt
          obtain ⟨hk, hpo, hpc, hc0, hc1⟩ := GK.out hs[j] (List.getElem_mem hlt)
          generalize hs[j] = z at *
          obtain ⟨q, rfl⟩ : ∃ q : Nat, z = (q : Int) := ⟨z.toNat, by omega⟩
          have hqm : q < m := by omega
          have hqm' : (q : Int) < (m : Int) := by omega
          have g1 := GN.out (p : Int) (by omega) hpm'
          have g2 := GN.out (q : Int) (by omega) hqm'
          obtain ⟨gg, fo, rfl, hfp⟩ := HFC.out p hpm
          obtain ⟨gg', fo', e2, hfq⟩ := HFC.out q hqm
          simp only [Option.some.injEq, Addr.mk.injEq] at e2
          obtain ⟨rfl, rfl, -⟩ := e2
          rw [lab_get f p (by omega)] at hpc g1
          rw [lab_get f q (by omega)] at hpc g2
          have HGP : Hid (∀ W', Since w24.heap.size w24 W' → W'.cell? ⟨gg, fo + p, none⟩ = some (.int .i64 f[p]) ∧ W'.cell? ⟨gg, fo + q, none⟩ = some (.int .i64 f[q])) := fun W' hs => ⟨hfp W' hs (by omega), hfq W' hs (by omega)⟩
          have CC : Hid (Calls Try.prog 62 #[.int .i64 (m : Int), .slice x20 le.length y20, .slice (some ⟨wr.heap.size, 0, none⟩) 2 2] (wr.alloc (.cells #[.int .i64 (p : Int), .int .i64 (q : Int)] 3)) (CostPost (wr.alloc (.cells #[.int .i64 (p : Int), .int .i64 (q : Int)] 3)) (pathCost m le [(p : Int), (q : Int)]) true)) := by
            have := implCostOf_any (wr.alloc (.cells #[.int .i64 (p : Int), .int .i64 (q : Int)] 3)) wr.heap.size (.slice x20 le.length y20) (.slice (some ⟨wr.heap.size, 0, none⟩) 2 2) (m : Int) le [(p : Int), (q : Int)] (((M24.out.below HK.out.1).below ((Below.refl _ wr).alloc (Nat.le_refl _) _)).reads) (own_twoW wr _ _) (Nat.le_trans hl20 (by decide)) (by simp)
            rwa [hpo] at this
          clear hhc hfp hfq hpo
          generalize pathCost (m : Int) le [(p : Int), (q : Int)] = c at *
          generalize f[p] = fp at *
          generalize f[q] = fq at *
          have hwr : IntKind.i64.wrap (fq + c) = fq + c := by rw [IntKind.wrap_i64]; omega
          have hbq : (fq + c == fp) = true := by simpa using hpc
          have HPC : Hid (fq + c = fp) := hpc
          have hhl := HHL.out
          clear hpc g1 g2 hc0 hc1
          have HSA : Hid (Since w24.heap.size w24 (wr.alloc (.cells #[.int .i64 (p : Int), .int .i64 (q : Int)] 3))) := HK.out.step ((Below.refl _ wr).alloc (Nat.le_refl _) _)
          go_wp2_with fail
          refine CC.out.mono ?_
          rintro e wk ⟨rfl, hbk⟩
          have HSK : Hid (Since w24.heap.size w24 wk) := HSA.out.step hbk
          clear hbk CC HSA HK
          go_wp2
          have SA0 := Since.start wk
          have HX : Hid (∀ w', Since wk.heap.size wk w' → w'.cell? ⟨gg, fo + p, none⟩ = some (.int .i64 fp) ∧ w'.cell? ⟨gg, fo + q, none⟩ = some (.int .i64 fq)) := fun w' hs => HGP.out w' (HSK.out.tran hs)
          refine wp_region_held_drew (S := (fun w' => w'.cell? ⟨gg, fo + p, none⟩ = some (.int .i64 fp) ∧ w'.cell? ⟨gg, fo + q, none⟩ = some (.int .i64 fq))) (by kernel_rfl) ?_ (fun hHeld => ?_)
          · exact HX.out _ SA0.drew
          refine handRead 0 (some 202) (.bool true) rfl rfl (by kernel_rfl) (by kernel_rfl) (by kernel_rfl) (fun _ _ _ h => h) (by kernel_rfl) (by assumption) ?_ ?_
          · intro w hSw
            (try dsimp only at hSw)
            go_simp
          simp only [Act.put, List.setIfInBounds_toArray, List.set_cons_zero, List.set_cons_succ]
          refine handRead 1 (some 203) (.bool false) rfl rfl (by kernel_rfl) (by kernel_rfl) (by kernel_rfl) (fun _ _ _ h => h) (by kernel_rfl) (by assumption) ?_ ?_
          · intro w hSw
            (try dsimp only at hSw)
            go_simp
          simp only [Act.put, List.setIfInBounds_toArray, List.set_cons_zero, List.set_cons_succ]
          refine handRead 2 (some 204) (.bool false) rfl rfl (by kernel_rfl) (by kernel_rfl) (by kernel_rfl) (fun _ _ _ h => h) (by kernel_rfl) (by assumption) ?_ ?_
          · intro w hSw
            (try dsimp only at hSw)
            go_simp
          simp only [Act.put, List.setIfInBounds_toArray, List.set_cons_zero, List.set_cons_succ]
          refine handRead 3 (some 205) (.bool true) rfl rfl (by kernel_rfl) (by kernel_rfl) (by kernel_rfl) (fun _ _ _ h => h) (by kernel_rfl) (by assumption) ?_ ?_
          · intro w hSw
            (try dsimp only at hSw)
            go_simp
          simp only [Act.put, List.setIfInBounds_toArray, List.set_cons_zero, List.set_cons_succ]
          refine handRead 4 (some 206) (.bool false) rfl rfl (by kernel_rfl) (by kernel_rfl) (by kernel_rfl) (fun _ _ _ h => h) (by kernel_rfl) (by assumption) ?_ ?_
          · intro w hSw
            (try dsimp only at hSw)
            go_simp
          simp only [Act.put, List.setIfInBounds_toArray, List.set_cons_zero, List.set_cons_succ]
          refine handRead 5 (some 207) (.bool false) rfl rfl (by kernel_rfl) (by kernel_rfl) (by kernel_rfl) (fun _ _ _ h => h) (by kernel_rfl) (by assumption) ?_ ?_
          · intro w hSw
            (try dsimp only at hSw)
            go_simp
          simp only [Act.put, List.setIfInBounds_toArray, List.set_cons_zero, List.set_cons_succ]
          refine handRead 6 (some 208) (.bool false) rfl rfl (by kernel_rfl) (by kernel_rfl) (by kernel_rfl) (fun _ _ _ h => h) (by kernel_rfl) (by assumption) ?_ ?_
          · intro w hSw
            (try dsimp only at hSw)
            go_simp
          simp only [Act.put, List.setIfInBounds_toArray, List.set_cons_zero, List.set_cons_succ]
          refine handRead 7 (some 209) (.slice (some ⟨gg, fo, none⟩) m y24) rfl rfl (by kernel_rfl) (by kernel_rfl) (by kernel_rfl) (fun _ _ _ h => h) (by kernel_rfl) (by assumption) ?_ ?_
          · intro w hSw
            (try dsimp only at hSw)
            go_simp
          simp only [Act.put, List.setIfInBounds_toArray, List.set_cons_zero, List.set_cons_succ]
          refine handRead 8 (some 210) (.int .i64 (q : Int)) rfl rfl (by kernel_rfl) (by kernel_rfl) (by kernel_rfl) (fun _ _ _ h => h) (by kernel_rfl) (by assumption) ?_ ?_
          · intro w hSw
            (try dsimp only at hSw)
            go_simp
          simp only [Act.put, List.setIfInBounds_toArray, List.set_cons_zero, List.set_cons_succ]
          refine handRead 9 (some 211) (.pointer (some ⟨gg, fo + q, none⟩)) rfl rfl (by kernel_rfl) (by kernel_rfl) (by kernel_rfl) (fun _ _ _ h => h) (by kernel_rfl) (by assumption) ?_ ?_
          · intro w hSw
            (try dsimp only at hSw)
            go_simp
          simp only [Act.put, List.setIfInBounds_toArray, List.set_cons_zero, List.set_cons_succ]
          refine handRead 10 (some 212) (.int .i64 fq) rfl rfl (by kernel_rfl) (by kernel_rfl) (by kernel_rfl) (fun _ _ _ h => h) (by kernel_rfl) (by assumption) ?_ ?_
          · intro w hSw
            (try dsimp only at hSw)
            go_simp
          simp only [Act.put, List.setIfInBounds_toArray, List.set_cons_zero, List.set_cons_succ]
          refine handRead 11 (some 213) (.int .i64 c) rfl rfl (by kernel_rfl) (by kernel_rfl) (by kernel_rfl) (fun _ _ _ h => h) (by kernel_rfl) (by assumption) ?_ ?_
          · intro w hSw
            (try dsimp only at hSw)
            go_simp
          simp only [Act.put, List.setIfInBounds_toArray, List.set_cons_zero, List.set_cons_succ]
          refine handRead 12 (some 214) (.int .i64 (fq + c)) rfl rfl (by kernel_rfl) (by kernel_rfl) (by kernel_rfl) (fun _ _ _ h => h) (by kernel_rfl) (by assumption) ?_ ?_
          · intro w hSw
            (try dsimp only at hSw)
            go_simp
          simp only [Act.put, List.setIfInBounds_toArray, List.set_cons_zero, List.set_cons_succ]
          refine handRead 13 (some 215) (.slice (some ⟨gg, fo, none⟩) m y24) rfl rfl (by kernel_rfl) (by kernel_rfl) (by kernel_rfl) (fun _ _ _ h => h) (by kernel_rfl) (by assumption) ?_ ?_
          · intro w hSw
            (try dsimp only at hSw)
            go_simp
          simp only [Act.put, List.setIfInBounds_toArray, List.set_cons_zero, List.set_cons_succ]
          refine handRead 14 (some 216) (.int .i64 (p : Int)) rfl rfl (by kernel_rfl) (by kernel_rfl) (by kernel_rfl) (fun _ _ _ h => h) (by kernel_rfl) (by assumption) ?_ ?_
          · intro w hSw
            (try dsimp only at hSw)
            go_simp
          simp only [Act.put, List.setIfInBounds_toArray, List.set_cons_zero, List.set_cons_succ]
          refine handRead 15 (some 217) (.pointer (some ⟨gg, fo + p, none⟩)) rfl rfl (by kernel_rfl) (by kernel_rfl) (by kernel_rfl) (fun _ _ _ h => h) (by kernel_rfl) (by assumption) ?_ ?_
          · intro w hSw
            (try dsimp only at hSw)
            go_simp
          simp only [Act.put, List.setIfInBounds_toArray, List.set_cons_zero, List.set_cons_succ]
          refine handRead 16 (some 218) (.int .i64 fp) rfl rfl (by kernel_rfl) (by kernel_rfl) (by kernel_rfl) (fun _ _ _ h => h) (by kernel_rfl) (by assumption) ?_ ?_
          · intro w hSw
            (try dsimp only at hSw)
            go_simp
          simp only [Act.put, List.setIfInBounds_toArray, List.set_cons_zero, List.set_cons_succ]
          refine handRead 17 (some 219) (.bool false) rfl rfl (by kernel_rfl) (by kernel_rfl) (by kernel_rfl) (fun _ _ _ h => h) (by kernel_rfl) (by assumption) ?_ ?_
          · intro w hSw
            (try dsimp only at hSw)
            go_simp
            exact HPC.out
          simp only [Act.put, List.setIfInBounds_toArray, List.set_cons_zero, List.set_cons_succ]
          refine handRead 18 (some 220) (.bool false) rfl rfl (by kernel_rfl) (by kernel_rfl) (by kernel_rfl) (fun _ _ _ h => h) (by kernel_rfl) (by assumption) ?_ ?_
          · intro w hSw
            (try dsimp only at hSw)
            go_simp
          simp only [Act.put, List.setIfInBounds_toArray, List.set_cons_zero, List.set_cons_succ]
          refine wpAnyH_done (by kernel_rfl) ?_ _
          clear SA0 HX
          have HSD : Hid (Since w24.heap.size w24 wk.drew) := HSK.out.drew
          go_wp2
          go_roundw
          case rel => exact ⟨j + 1, by omega, by go_num, HSD.out⟩
          case measure => simp [intOf]; omega
        · have hlt' : ¬ (j : Int) < (hs.length : Int) := by omega
          have S25 : Hid (Since w.heap.size w wr) := S24.out.tran HK.out
          clear HK HFC HHC GK GN M24 H24 F24
          go_wp2_with fail
          refine (drawHopFor_any w.heap.size w _ a1 len1 cap1 HC1.out hl1 S25.out).mono ?_
          rintro e wa ⟨oo, va, la, q, r, fl, rfl, hoa, hla, hoN, hsa⟩
          obtain ⟨xa, ya, rfl⟩ := hoa.shape
          have SA : Hid (Since w.heap.size w wa) := hsa
          have LA : Hid (OwnEd wa w.heap.size (.slice xa la.length ya) la) := hoa.mono S25.out.2
          clear hoa hsa
          obtain ⟨hop, hhop⟩ : ∃ hop, hop = hopForOut (oo : Int) la q r fl := ⟨_, rfl⟩
          obtain ⟨three, hthree⟩ : ∃ three, three = hopForOk (oo : Int) la q r fl := ⟨_, rfl⟩
          have HM : Hid (three = true → hopsOk oo la q r = true ∧ hop ∈ hopsOut oo la q r) := fun h => by
            rw [hhop]; exact hopFor_mem (hthree.symm.trans h)
          have CP : Hid (∀ (W : World) (v : Value), ReadsEd W v la → Calls Try.prog 67 #[.int .i64 (oo : Int), v, .int .i64 q, .int .i64 r, .int .i64 fl] W (ForPost W hop three)) := fun W v h => by
            rw [hhop, hthree]; exact implHopFor_any W v (oo : Int) la q r fl h (Nat.le_trans hla (by decide))
          have CPS : Hid (∀ (W : World) (v : Value), ReadsEd W v la → Calls Try.prog 68 #[.int .i64 (oo : Int), v, .int .i64 q, .int .i64 r, .int .i64 fl] W (ForPost W hop three)) := fun W v h => by
            rw [hhop, hthree]; exact specHopFor_any W v (oo : Int) la q r fl h (Nat.le_trans hla (by decide))
          clear hhop hthree
          go_wp2_with fail
          refine (CP.out _ _ LA.out.reads).mono ?_
          rintro e wb ⟨rfl, hbb⟩
          have SB : Hid (Since w.heap.size w wb) := SA.out.step hbb
          have LB : Hid (OwnEd wb w.heap.size (.slice xa la.length ya) la) := LA.out.below hbb
          clear hbb LA
          go_wp2_with fail
          refine (CPS.out _ _ LB.out.reads).mono ?_
          rintro e wc ⟨rfl, hbc⟩
          have SC : Hid (Since w.heap.size w wc) := SB.out.step hbc
          have LC : Hid (OwnEd wc w.heap.size (.slice xa la.length ya) la) := LB.out.below hbc
          clear hbc LB CP CPS
          go_wp2_with fail
          refine (drawCost_any wc.heap.size wc _ a1 len1 cap1 (HC1.out.since SC.out (Nat.le_refl _)) hl1 (Since.start wc)).mono ?_
          rintro e wd ⟨s, vd, ld, ud, ws2, rfl, hod, hld, hsN, huw, hwl, hsd⟩
          obtain ⟨xd, yd, rfl⟩ := hod.shape
          obtain ⟨xu, yu, rfl⟩ := huw.shape
          have SD : Hid (Since w.heap.size w wd) := SC.out.step hsd.1
          have LD : Hid (OwnEd wd w.heap.size (.slice xa la.length ya) la) := LC.out.below hsd.1
          have DD : Hid (OwnEd wd wc.heap.size (.slice xd ld.length yd) ld) := hod
          have UD : Hid (Own wd wc.heap.size (.slice xu ws2.length yu) ws2) := huw
          have HW2 : Hid (ws2.length ≤ 12 ∧ ld.length ≤ 40) := ⟨hwl, hld⟩
          clear hod huw hsd LC hwl hld
          go_wp2_with fail
          refine (implCostOf_any _ _ _ _ (s : Int) ld ws2 DD.out.reads UD.out (Nat.le_trans HW2.out.2 (by decide)) (Nat.le_trans HW2.out.1 (by decide))).mono ?_
          rintro e we ⟨rfl, hbe⟩
          have SE : Hid (Since w.heap.size w we) := SD.out.step hbe
          have LE : Hid (OwnEd we w.heap.size (.slice xa la.length ya) la) := LD.out.below hbe
          have DE : Hid (OwnEd we wc.heap.size (.slice xd ld.length yd) ld) := DD.out.below hbe
          have UE : Hid (Own we wc.heap.size (.slice xu ws2.length yu) ws2) := UD.out.below hbe
          clear hbe LD DD UD
          go_wp2_with fail
          refine (specCostOf_any _ _ _ _ (s : Int) ld ws2 DE.out.reads UE.out (Nat.le_trans HW2.out.2 (by decide)) (Nat.le_trans HW2.out.1 (by decide))).mono ?_
          rintro e wf ⟨rfl, hbf⟩
          have SF : Hid (Since w.heap.size w wf) := SE.out.step hbf
          have LF : Hid (OwnEd wf w.heap.size (.slice xa la.length ya) la) := LE.out.below hbf
          clear hbf LE DE UE
          generalize pathCost (s : Int) ld ws2 = c8 at *
          generalize pathOk (s : Int) ld ws2 = k8 at *
          have hkk : (k8 != k8) = false := by simp
          have hcc : (c8 != c8) = false := by simp
          have hhh : (hop != hop) = false := by simp
          cases three with
          | false =>
            go_wp2
            go_ret
            exact ⟨by simp, SF.out.1⟩
          | true =>
            obtain ⟨hm1, hm2⟩ := HM.out rfl
            obtain ⟨hz, hhz⟩ : ∃ hz, hz = hopsOut (oo : Int) la q r := ⟨_, rfl⟩
            have HZL : Hid (hz.length ≤ 4194304) := by show _ ≤ _; rw [hhz]; exact hopsOut_len _ _ _ _
            have HIN : Hid (hop ∈ hz) := by rw [hhz]; exact hm2
            have CQ : Hid (∀ (W : World) (v : Value), ReadsEd W v la → Calls Try.prog 64 #[.int .i64 (oo : Int), v, .int .i64 q, .int .i64 r] W (NearPost W hz true)) := fun W v h => by
              have := implFirstHops_any W v (oo : Int) la q r h (Nat.le_trans hla (by decide))
              rw [hm1, ← hhz] at this
              exact this
            clear hm1 hm2 hhz HM
            go_wp2_with fail
            refine (CQ.out _ _ LF.out.reads).mono ?_
            rintro e wg ⟨ug, rfl, hog, hbg⟩
            obtain ⟨xg, yg, rfl⟩ := hog.shape
            have SG : Hid (Since w.heap.size w wg) := SF.out.step hbg
            have OG : Hid (Own wg wf.heap.size (.slice xg hz.length yg) hz) := hog
            clear hog hbg CQ LF
            go_wp2_with fail
            refine (has_yesW _ _ hz hop OG.out.reads HZL.out HIN.out).mono ?_
            rintro e wh ⟨rfl, hwh⟩
            obtain rfl : wg = wh := hwh.symm
            go_wp2
            go_ret
            exact ⟨by simp, SG.out.1⟩
end fnHops
end Go.Proofs.Ythlbmkefjjckaac
