/-
  The walk of the law FnHaves.
-/
import Derived.Test.YtkpdiojomgiocacLsCutM
import Derived.Test.YtkpdiojomgiocacLsGoodSm2
import Derived.Test.YtkpdiojomgiocacDrawHv2
import Derived.Test.YtkpdiojomgiocacNum0
import Derived.Deep.CutRange
import Derived.Deep.Cut
namespace Go.Proofs.Ytkpdiojomgiocac
open Go.RowKit
set_option linter.unusedVariables false

/-- Summaries that lie there for good. -/
def SmsLie (W : World) (g : Nat) (ss : List SmD) : Prop :=
  ∀ j (hj : j < ss.length), ∃ x y, ∀ W', Since W.heap.size W W' → W'.cell? ⟨g, j * 3, none⟩ = some (.int .i64 ss[j].Lo) ∧ W'.cell? ⟨g, j * 3 + 1, none⟩ = some (.int .i64 ss[j].Hi) ∧ W'.cell? ⟨g, j * 3 + 2, none⟩ = some (.slice x ss[j].Hs.length y) ∧ LiesHv W' (.slice x ss[j].Hs.length y) ss[j].Hs
theorem OwnSms.lie {W : World} {B : Nat} {a : Option Addr} {c : Nat} {ss : List SmD} (h : OwnSms W B (.slice a ss.length c) ss) : ss = [] ∨ ∃ g, a = some ⟨g, 0, none⟩ ∧ SmsLie W g ss := by
  obtain ⟨es, ho, rfl⟩ := h
  by_cases hz : es = []
  · exact .inl (by rw [hz]; rfl)
  · obtain ⟨-, g, rfl, hg, hc⟩ := ho.at hz
    refine .inr ⟨g, rfl, fun j hj => ?_⟩
    have hj' : j < es.length := by simpa using hj
    obtain ⟨c0, c1, c2⟩ := hc j hj'
    have hi := ho.inner j hj'
    obtain ⟨x, y, e⟩ := hi.shape
    rw [e] at c2 hi
    simp only [List.getElem_map]
    exact ⟨x, y, fun W' hs => ⟨(hs.1.cell (p := ⟨g, j * 3, none⟩) hg).trans c0, (hs.1.cell (p := ⟨g, j * 3 + 1, none⟩) hg).trans c1, (hs.1.cell (p := ⟨g, j * 3 + 2, none⟩) hg).trans c2, hi.lies.below hs.1⟩⟩
theorem SmsLie.below {W W1 : World} {g : Nat} {ss : List SmD} (h : SmsLie W g ss) (hb : Since W.heap.size W W1) : SmsLie W1 g ss := fun j hj => by
  obtain ⟨x, y, hh⟩ := h j hj
  exact ⟨x, y, fun W' hs => hh W' (hb.tran hs)⟩

namespace fnHaves
set_option maxRecDepth 100000 in
set_option maxHeartbeats 16000000 in
theorem walk (a0 : Option Addr) (len0 cap0 : Nat) (a1 : Option Addr) (len1 cap1 : Nat) (w : World) (hc0 : Code w.heap.size w a0 len0) (hl0 : len0 ≤ 9223372036854775807) (hc1 : Code w.heap.size w a1 len1) (hl1 : len1 ≤ 9223372036854775807) :
    Calls Try.prog 4 #[.slice a0 len0 cap0, .slice a1 len1 cap1] w fun e w' => e = .returned (.bool true) ∧ Below w.heap.size w w' := by
  have HC0 : Hid (Code w.heap.size w a0 len0) := hc0
  have HC1 : Hid (Code w.heap.size w a1 len1) := hc1
  have S0 : Hid (Since w.heap.size w w) := Since.start w
  clear hc0 hc1
  obtain ⟨X, hX⟩ : ∃ X : Int, IntKind.i64.wrap ((len0 : Int) + (len1 : Int)) = X := ⟨_, rfl⟩
  by_cases hbig : 1048576 < X
  · have hbig' : decide ((1048576 : Int) < X) = true := decide_eq_true hbig
    go_enter Try.func4, Try.ntmps4
    go_wp2
    go_ret
    exact ⟨rfl, Below.refl _ _⟩
  have hbig' : decide ((1048576 : Int) < X) = false := decide_eq_false hbig
  go_enter Try.func4, Try.ntmps4
  go_wp2_with fail
  refine (drawCutHaves_any w.heap.size w _ a0 len0 cap0 HC0.out (by omega) S0.out).mono ?_
  rintro e x1 ⟨vl, l, most, rfl, hol, hll, hsx1⟩
  obtain ⟨al, cl, rfl⟩ := hol.shape
  have SX1 : Hid (Since w.heap.size w x1) := hsx1
  have OL1 : Hid (LiesHv x1 (.slice al l.length cl) l) := hol.lies
  obtain ⟨ss, hss⟩ : ∃ ss, ss = cutOut l most := ⟨_, rfl⟩
  obtain ⟨ok, hok⟩ : ∃ ok, ok = cutOk l most := ⟨_, rfl⟩
  have CI : Hid (∀ W, LiesHv W (.slice al l.length cl) l → Calls Try.prog 18 #[.slice al l.length cl, .int .i64 most] W (CutPost W ss ok)) := fun W ho => by rw [hss, hok]; exact implCut_any W _ l most ho (by omega)
  have CS : Hid (∀ W, LiesHv W (.slice al l.length cl) l → Calls Try.prog 19 #[.slice al l.length cl, .int .i64 most] W (CutPost W ss ok)) := fun W ho => by rw [hss, hok]; exact specCut_any W _ l most ho (by omega)
  have HSM : Hid (ss.length ≤ 31 ∧ ∀ s ∈ ss, s.Hs.length ≤ 30) := by rw [hss]; exact cutOut_small l most
  have HPT : Hid (ok = true → (∀ j (hj : j < ss.length), goodSm ss[j] = true ∧ ss[j].Lo = nextLo 1 (ss.take j) ∧ (ss[j].Hs.length : Int) ≤ most) ∧ allHs ss = l ∧ nextLo 1 ss = 1001) := fun h => by
    rw [hok] at h
    subst hss
    exact cutOut_parts h
  have hls : ss.length ≤ 31 := HSM.out.1
  have HLL : Hid (l.length ≤ 30) := hll
  clear hol hsx1 hss hok hll
  go_wp2_with fail
  refine (CI.out _ OL1.out).mono ?_
  rintro e x2 ⟨vc, rfl, hoc, hbx2⟩
  obtain ⟨ac, cc, rfl⟩ := hoc.shape
  have SX2 : Hid (Since w.heap.size w x2) := SX1.out.step hbx2
  have OL2 : Hid (LiesHv x2 (.slice al l.length cl) l) := OL1.out.below hbx2
  have OC2 : Hid (OwnSms x2 x1.heap.size (.slice ac ss.length cc) ss) := hoc
  clear hoc hbx2 SX1 OL1
  go_wp2_with fail
  refine (CS.out _ OL2.out).mono ?_
  rintro e x3 ⟨vw, rfl, how, hbx3⟩
  obtain ⟨aw, cw, rfl⟩ := how.shape
  have SX3 : Hid (Since w.heap.size w x3) := SX2.out.step hbx3
  have OL3 : Hid (LiesHv x3 (.slice al l.length cl) l) := OL2.out.below hbx3
  have OC3 : Hid (OwnSms x3 x1.heap.size (.slice ac ss.length cc) ss) := OC2.out.below hbx3
  have OW3 : Hid (OwnSms x3 x2.heap.size (.slice aw ss.length cw) ss) := how
  clear how hbx3 SX2 OL2 OC2 CI CS
  have LC : Hid (ss = [] ∨ ∃ g, ac = some ⟨g, 0, none⟩ ∧ SmsLie x3 g ss) := OC3.out.lie
  have LW : Hid (ss = [] ∨ ∃ g, aw = some ⟨g, 0, none⟩ ∧ SmsLie x3 g ss) := OW3.out.lie
  have HSS : Hid (Since x3.heap.size x3 x3) := Since.start x3
  clear OC3 OW3
  by_cases hz : ss = []
  · have hok0 : ok = false := by
      cases ok with
      | false => rfl
      | true =>
        have h3 := (HPT.out rfl).2.2
        rw [hz] at h3
        exact absurd h3 (by decide)
    subst hok0
    subst hz
    simp only [List.length_nil] at *
    clear LC LW HPT HSM
    go_wp2
    refine wp_loop_rounds 1 ?_
    rw [rounds_succ]
    go_wp2_with fail
    refine (drawMergeHaves_any w.heap.size w _ a1 len1 cap1 HC1.out (by omega) SX3.out).mono ?_
    rintro e y1 ⟨va, la, vb, lb, rfl, hoa, hla, hob, hlb, hsy1⟩
    obtain ⟨aa, ca, rfl⟩ := hoa.shape
    obtain ⟨ab, cb, rfl⟩ := hob.shape
    have SY1 : Hid (Since w.heap.size w y1) := hsy1
    have OA1 : Hid (OwnHv y1 0 (.slice aa la.length ca) la ∧ OwnHv y1 0 (.slice ab lb.length cb) lb) := ⟨hoa.mono (Nat.zero_le _), hob.mono (Nat.zero_le _)⟩
    obtain ⟨mo, hmo⟩ : ∃ mo, mo = mrgOut la lb := ⟨_, rfl⟩
    obtain ⟨mk, hmk⟩ : ∃ mk, mk = mrgOk la lb := ⟨_, rfl⟩
    obtain ⟨ga, hga⟩ : ∃ ga, ga = goodHv la := ⟨_, rfl⟩
    have CMI : Hid (∀ W, OwnHv W 0 (.slice aa la.length ca) la → OwnHv W 0 (.slice ab lb.length cb) lb → Calls Try.prog 9 #[.slice aa la.length ca, .slice ab lb.length cb] W (MrgPost W mo mk)) := fun W h1 h2 => by rw [hmo, hmk]; exact implMergeHaves_any W 0 _ _ la lb h1 h2 (by omega) (by omega)
    have CMS : Hid (∀ W, OwnHv W 0 (.slice aa la.length ca) la → OwnHv W 0 (.slice ab lb.length cb) lb → Calls Try.prog 21 #[.slice aa la.length ca, .slice ab lb.length cb] W (MrgPost W mo mk)) := fun W h1 h2 => by rw [hmo, hmk]; exact specMergeHaves_any W 0 _ _ la lb h1 h2 (by omega) (by omega)
    have CMT : Hid (mk = true → ∀ W, OwnHv W 0 (.slice aa la.length ca) la → OwnHv W 0 (.slice ab lb.length cb) lb → Calls Try.prog 9 #[.slice ab lb.length cb, .slice aa la.length ca] W (MrgPost W mo true)) := fun hk W h1 h2 => by
      rw [hmk] at hk
      have := implMergeHaves_any W 0 _ _ lb la h2 h1 (by omega) (by omega)
      rw [(mrg_turn hk).1, (mrg_turn hk).2, ← hmo] at this
      exact this
    have CGI : Hid (∀ W, OwnHv W 0 (.slice aa la.length ca) la → Calls Try.prog 22 #[.slice aa la.length ca] W fun e W' => e = .returned (.bool ga) ∧ Below W.heap.size W W') := fun W h1 => by rw [hga]; exact implGoodHv_any W _ la h1.reads (by omega)
    have CGS : Hid (∀ W, OwnHv W 0 (.slice aa la.length ca) la → Calls Try.prog 23 #[.slice aa la.length ca] W fun e W' => e = .returned (.bool ga) ∧ Below W.heap.size W W') := fun W h1 => by rw [hga]; exact specGoodHv_any W _ la h1.reads (by omega)
    have CQA : Hid (mk = true → ∀ j (hj : j < mo.length), ∃ P Q, (∀ W, OwnHv W 0 (.slice aa la.length ca) la → Calls Try.prog 24 #[.slice aa la.length ca, .int .i64 mo[j].From] W fun e W' => e = .returned (.tuple #[.int .i64 P, .bool true]) ∧ Below W.heap.size W W') ∧ (∀ W, OwnHv W 0 (.slice ab lb.length cb) lb → Calls Try.prog 24 #[.slice ab lb.length cb, .int .i64 mo[j].From] W fun e W' => e = .returned (.tuple #[.int .i64 Q, .bool true]) ∧ Below W.heap.size W W') ∧ (mo[j].Seq = P ∨ mo[j].Seq = Q) ∧ P ≤ mo[j].Seq ∧ Q ≤ mo[j].Seq) := fun hk j hj => by
      rw [hmk] at hk
      subst hmo
      obtain ⟨s1, s2, s3, s4, s5⟩ := mrg_seq hk j hj
      refine ⟨_, _, fun W h1 => ?_, fun W h1 => ?_, s3, s4, s5⟩
      · have := implSeqFor_any W 0 _ la (mrgOut la lb)[j].From h1 (by omega)
        rw [s1] at this
        exact this
      · have := implSeqFor_any W 0 _ lb (mrgOut la lb)[j].From h1 (by omega)
        rw [s2] at this
        exact this
    have LM : Hid (mo.length ≤ 4194304) := by show _ ≤ _; rw [hmo]; exact mrgOut_len la lb
    clear hoa hob hsy1 hla hlb hmo hmk hga
    go_wp2_with fail
    refine (CMI.out _ OA1.out.1 OA1.out.2).mono ?_
    rintro e y2 ⟨vm, rfl, hom, hby2⟩
    obtain ⟨am, cm, rfl⟩ := hom.shape
    have SY2 : Hid (Since w.heap.size w y2) := SY1.out.step hby2
    have OA2 : Hid (OwnHv y2 0 (.slice aa la.length ca) la ∧ OwnHv y2 0 (.slice ab lb.length cb) lb) := ⟨OA1.out.1.below hby2, OA1.out.2.below hby2⟩
    have OM2 : Hid (OwnHv y2 0 (.slice am mo.length cm) mo) := hom.mono (Nat.zero_le _)
    clear hom hby2 SY1 OA1
    go_wp2_with fail
    refine (CMS.out _ OA2.out.1 OA2.out.2).mono ?_
    rintro e y3 ⟨vn, rfl, hon, hby3⟩
    obtain ⟨an, cn, rfl⟩ := hon.shape
    have SY3 : Hid (Since w.heap.size w y3) := SY2.out.step hby3
    have OA3 : Hid (OwnHv y3 0 (.slice aa la.length ca) la ∧ OwnHv y3 0 (.slice ab lb.length cb) lb) := ⟨OA2.out.1.below hby3, OA2.out.2.below hby3⟩
    have OM3 : Hid (OwnHv y3 0 (.slice am mo.length cm) mo) := OM2.out.below hby3
    have ON3 : Hid (OwnHv y3 0 (.slice an mo.length cn) mo) := hon.mono (Nat.zero_le _)
    clear hon hby3 SY2 OA2 OM2
    go_wp2_with fail
    refine (sameHvs_same _ _ _ mo OM3.out.reads ON3.out.reads LM.out).mono ?_
    rintro e y4 ⟨rfl, hby4⟩
    have SY4 : Hid (Since w.heap.size w y4) := SY3.out.step hby4
    have OA4 : Hid (OwnHv y4 0 (.slice aa la.length ca) la ∧ OwnHv y4 0 (.slice ab lb.length cb) lb) := ⟨OA3.out.1.below hby4, OA3.out.2.below hby4⟩
    have OM4 : Hid (OwnHv y4 0 (.slice am mo.length cm) mo) := OM3.out.below hby4
    clear hby4 SY3 OA3 OM3 ON3
    go_wp2_with fail
    refine (CGI.out _ OA4.out.1).mono ?_
    rintro e y5 ⟨rfl, hby5⟩
    have SY5 : Hid (Since w.heap.size w y5) := SY4.out.step hby5
    have OA5 : Hid (OwnHv y5 0 (.slice aa la.length ca) la ∧ OwnHv y5 0 (.slice ab lb.length cb) lb) := ⟨OA4.out.1.below hby5, OA4.out.2.below hby5⟩
    have OM5 : Hid (OwnHv y5 0 (.slice am mo.length cm) mo) := OM4.out.below hby5
    clear hby5 SY4 OA4 OM4
    go_wp2_with fail
    refine (CGS.out _ OA5.out.1).mono ?_
    rintro e y6 ⟨rfl, hby6⟩
    have SY6 : Hid (Since w.heap.size w y6) := SY5.out.step hby6
    have OA6 : Hid (OwnHv y6 0 (.slice aa la.length ca) la ∧ OwnHv y6 0 (.slice ab lb.length cb) lb) := ⟨OA5.out.1.below hby6, OA5.out.2.below hby6⟩
    have OM6 : Hid (OwnHv y6 0 (.slice am mo.length cm) mo) := OM5.out.below hby6
    clear hby6 SY5 OA5 OM5
    cases mk with
    | false =>
      clear CMI CMS CMT CGI CGS CQA OA6 OM6
      go_wp2_with fail
      refine (drawSeqFor_any w.heap.size w _ a1 len1 cap1 HC1.out (by omega) SY6.out).mono ?_
      rintro e t1 ⟨vt, lt, fr, rfl, hot1, hlt1, hst1⟩
      obtain ⟨at1, ct1, rfl⟩ := hot1.shape
      have ST1 : Hid (Since w.heap.size w t1) := hst1
      have OT1 : Hid (OwnHv t1 0 (.slice at1 lt.length ct1) lt) := hot1.mono (Nat.zero_le _)
      obtain ⟨sq, hsq⟩ : ∃ sq, sq = seqOut lt fr := ⟨_, rfl⟩
      obtain ⟨sk, hsk⟩ : ∃ sk, sk = seqOk lt fr := ⟨_, rfl⟩
      have CTI : Hid (∀ W, OwnHv W 0 (.slice at1 lt.length ct1) lt → Calls Try.prog 24 #[.slice at1 lt.length ct1, .int .i64 fr] W fun e W' => e = .returned (.tuple #[.int .i64 sq, .bool sk]) ∧ Below W.heap.size W W') := fun W ho => by rw [hsq, hsk]; exact implSeqFor_any W 0 _ lt fr ho (by omega)
      have CTS : Hid (∀ W, OwnHv W 0 (.slice at1 lt.length ct1) lt → Calls Try.prog 26 #[.slice at1 lt.length ct1, .int .i64 fr] W fun e W' => e = .returned (.tuple #[.int .i64 sq, .bool sk]) ∧ Below W.heap.size W W') := fun W ho => by rw [hsq, hsk]; exact specSeqFor_any W 0 _ lt fr ho (by omega)
      clear hot1 hst1 hlt1 hsq hsk
      go_wp2_with fail
      refine (CTI.out _ OT1.out).mono ?_
      rintro e t2 ⟨rfl, hbt2⟩
      have ST2 : Hid (Since w.heap.size w t2) := ST1.out.step hbt2
      have OT2 : Hid (OwnHv t2 0 (.slice at1 lt.length ct1) lt) := OT1.out.below hbt2
      clear hbt2
      go_wp2_with fail
      refine (CTS.out _ OT2.out).mono ?_
      rintro e t3 ⟨rfl, hbt3⟩
      have ST3 : Hid (Since w.heap.size w t3) := ST2.out.step hbt3
      clear hbt3
      cases sk <;>
        (go_wp2
         go_ret
         exact ⟨rfl, ST3.out.1⟩)
    | true =>
      have CMT2 := CMT.out (by first | rfl | trivial)
      have CMTH : Hid (∀ W, OwnHv W 0 (.slice aa la.length ca) la → OwnHv W 0 (.slice ab lb.length cb) lb → Calls Try.prog 9 #[.slice ab lb.length cb, .slice aa la.length ca] W (MrgPost W mo true)) := CMT2
      have CQ2 := CQA.out (by first | rfl | trivial)
      have CQH : Hid (∀ j (hj : j < mo.length), ∃ P Q, (∀ W, OwnHv W 0 (.slice aa la.length ca) la → Calls Try.prog 24 #[.slice aa la.length ca, .int .i64 mo[j].From] W fun e W' => e = .returned (.tuple #[.int .i64 P, .bool true]) ∧ Below W.heap.size W W') ∧ (∀ W, OwnHv W 0 (.slice ab lb.length cb) lb → Calls Try.prog 24 #[.slice ab lb.length cb, .int .i64 mo[j].From] W fun e W' => e = .returned (.tuple #[.int .i64 Q, .bool true]) ∧ Below W.heap.size W W') ∧ (mo[j].Seq = P ∨ mo[j].Seq = Q) ∧ P ≤ mo[j].Seq ∧ Q ≤ mo[j].Seq) := CQ2
      clear CMT CQA CMT2 CQ2 CMI CMS CGI CGS
      go_wp2_with fail
      refine (CMTH.out _ OA6.out.1 OA6.out.2).mono ?_
      rintro e y7 ⟨vo, rfl, hoo, hby7⟩
      obtain ⟨ao, co, rfl⟩ := hoo.shape
      have SY7 : Hid (Since w.heap.size w y7) := SY6.out.step hby7
      have OA7 : Hid (OwnHv y7 0 (.slice aa la.length ca) la ∧ OwnHv y7 0 (.slice ab lb.length cb) lb) := ⟨OA6.out.1.below hby7, OA6.out.2.below hby7⟩
      have OM7 : Hid (OwnHv y7 0 (.slice am mo.length cm) mo) := OM6.out.below hby7
      have ON7 : Hid (OwnHv y7 0 (.slice ao mo.length co) mo) := hoo.mono (Nat.zero_le _)
      clear hoo hby7 SY6 OA6 OM6 CMTH
      go_wp2_with fail
      refine (sameHvs_same _ _ _ mo ON7.out.reads OM7.out.reads LM.out).mono ?_
      rintro e y8 ⟨rfl, hby8⟩
      have SY8 : Hid (Since w.heap.size w y8) := SY7.out.step hby8
      have OA8 : Hid (∀ W', Since y8.heap.size y8 W' → OwnHv W' 0 (.slice aa la.length ca) la ∧ OwnHv W' 0 (.slice ab lb.length cb) lb) := fun W' hs => ⟨(OA7.out.1.below hby8).below hs.1, (OA7.out.2.below hby8).below hs.1⟩
      have HM8 : Hid (mo = [] ∨ ∃ g, am = some ⟨g, 0, none⟩ ∧ ∀ W', Since y8.heap.size y8 W' → ∀ j (hj : j < mo.length), HvAt W' g (j * 2) mo[j]) := by
        have h := OM7.out.below hby8
        by_cases hz : mo = []
        · exact .inl hz
        · obtain ⟨g, cg, e6⟩ : ∃ g cap, Value.slice am mo.length cm = .slice (some ⟨g, 0, none⟩) mo.length cap := by
            rcases h.2 with ⟨hv, hn0⟩ | ⟨g, cap, cur, hv, -⟩
            · exact absurd (List.eq_nil_of_length_eq_zero hn0) hz
            · exact ⟨g, cap, hv⟩
          obtain ⟨rfl, rfl⟩ : am = some ⟨g, 0, none⟩ ∧ cm = cg := by simpa using e6
          refine .inr ⟨g, rfl, fun W' hs j hj => ?_⟩
          have h1 := h.below hs.1
          obtain ⟨q0, q1⟩ := cellsHv_get mo j hj
          exact ⟨(World.ownsRow.cellAt h1 _ (by omega)).trans q0, (World.ownsRow.cellAt h1 _ (by omega)).trans q1⟩
      have HSS : Hid (Since y8.heap.size y8 y8) := Since.start y8
      have hml : mo.length ≤ 4194304 := LM.out
      clear hby8 SY7 OA7 OM7 ON7
      rcases HM8.out with hz | ⟨gm, rfl, hcm⟩
      · subst hz
        simp only [List.length_nil] at *
        clear HM8 CQH OA8
        go_wp2
        refine wp_loop_rounds 1 ?_
        rw [rounds_succ]
        go_wp2_with fail
        refine (drawSeqFor_any w.heap.size w _ a1 len1 cap1 HC1.out (by omega) SY8.out).mono ?_
        rintro e t1 ⟨vt, lt, fr, rfl, hot1, hlt1, hst1⟩
        obtain ⟨at1, ct1, rfl⟩ := hot1.shape
        have ST1 : Hid (Since w.heap.size w t1) := hst1
        have OT1 : Hid (OwnHv t1 0 (.slice at1 lt.length ct1) lt) := hot1.mono (Nat.zero_le _)
        obtain ⟨sq, hsq⟩ : ∃ sq, sq = seqOut lt fr := ⟨_, rfl⟩
        obtain ⟨sk, hsk⟩ : ∃ sk, sk = seqOk lt fr := ⟨_, rfl⟩
        have CTI : Hid (∀ W, OwnHv W 0 (.slice at1 lt.length ct1) lt → Calls Try.prog 24 #[.slice at1 lt.length ct1, .int .i64 fr] W fun e W' => e = .returned (.tuple #[.int .i64 sq, .bool sk]) ∧ Below W.heap.size W W') := fun W ho => by rw [hsq, hsk]; exact implSeqFor_any W 0 _ lt fr ho (by omega)
        have CTS : Hid (∀ W, OwnHv W 0 (.slice at1 lt.length ct1) lt → Calls Try.prog 26 #[.slice at1 lt.length ct1, .int .i64 fr] W fun e W' => e = .returned (.tuple #[.int .i64 sq, .bool sk]) ∧ Below W.heap.size W W') := fun W ho => by rw [hsq, hsk]; exact specSeqFor_any W 0 _ lt fr ho (by omega)
        clear hot1 hst1 hlt1 hsq hsk
        go_wp2_with fail
        refine (CTI.out _ OT1.out).mono ?_
        rintro e t2 ⟨rfl, hbt2⟩
        have ST2 : Hid (Since w.heap.size w t2) := ST1.out.step hbt2
        have OT2 : Hid (OwnHv t2 0 (.slice at1 lt.length ct1) lt) := OT1.out.below hbt2
        clear hbt2
        go_wp2_with fail
        refine (CTS.out _ OT2.out).mono ?_
        rintro e t3 ⟨rfl, hbt3⟩
        have ST3 : Hid (Since w.heap.size w t3) := ST2.out.step hbt3
        clear hbt3
        cases sk <;>
          (go_wp2
           go_ret
           exact ⟨rfl, ST3.out.1⟩)
      have HCM : Hid (∀ W', Since y8.heap.size y8 W' → ∀ j (hj : j < mo.length), HvAt W' gm (j * 2) mo[j]) := hcm
      clear hcm HM8
      go_wp2
      go_loopw [202] (fun i wr => ∃ k : Nat, k ≤ mo.length ∧ i = .int .i64 k ∧ Hid (Since y8.heap.size y8 wr)) (fun i _ => mo.length - (intOf i).toNat)
      case atStart => exact ⟨0, Nat.zero_le _, rfl, HSS.out⟩
      case round =>
        obtain ⟨k, hk, rfl, HK⟩ := hrel
        by_cases hlt : k < mo.length
        · obtain ⟨q0, q1⟩ := HCM.out wr HK.out k hlt
          obtain ⟨P, Q, cp, cq, h3, h4, h5⟩ := CQH.out k hlt
          have hlt' : (k : Int) < (mo.length : Int) := by omega
          generalize mo[k] = x at *
          obtain ⟨f, q⟩ := x
          simp only at *
          have CP : Hid (∀ W, OwnHv W 0 (.slice aa la.length ca) la → Calls Try.prog 24 #[.slice aa la.length ca, .int .i64 f] W fun e W' => e = .returned (.tuple #[.int .i64 P, .bool true]) ∧ Below W.heap.size W W') := cp
          have CQ : Hid (∀ W, OwnHv W 0 (.slice ab lb.length cb) lb → Calls Try.prog 24 #[.slice ab lb.length cb, .int .i64 f] W fun e W' => e = .returned (.tuple #[.int .i64 Q, .bool true]) ∧ Below W.heap.size W W') := cq
          clear cp cq
          have HA : Hid (Since y8.heap.size y8 (wr.alloc (.cells #[.int .i64 f, .int .i64 q] 41))) := HK.out.step ((Below.refl _ wr).alloc (Nat.le_refl _) _)
          have HBX : Hid (∀ w', Below (wr.alloc (.cells #[.int .i64 f, .int .i64 q] 41)).heap.size (wr.alloc (.cells #[.int .i64 f, .int .i64 q] 41)) w' → w'.cell? ⟨wr.heap.size, 0, none⟩ = some (.int .i64 f) ∧ w'.cell? ⟨wr.heap.size, 1, none⟩ = some (.int .i64 q)) := fun w' hs => ⟨(hs.cell (p := ⟨wr.heap.size, 0, none⟩) (by simp)).trans (by rw [World.cell?_alloc_at _ _ _ _ rfl]; rfl), (hs.cell (p := ⟨wr.heap.size, 1, none⟩) (by simp)).trans (by rw [World.cell?_alloc_at _ _ _ _ rfl]; rfl)⟩
          clear HK
          go_wp2_with fail
          refine (CP.out _ (OA8.out _ HA.out).1).mono ?_
          rintro e r1 ⟨rfl, hbr1⟩
          have HB1 : Hid (Below (wr.alloc (.cells #[.int .i64 f, .int .i64 q] 41)).heap.size (wr.alloc (.cells #[.int .i64 f, .int .i64 q] 41)) r1) := hbr1
          have SR1 : Hid (Since y8.heap.size y8 r1) := HA.out.step hbr1
          obtain ⟨b0, b1⟩ := HBX.out r1 hbr1
          clear hbr1 HA
          go_wp2_with fail
          refine (CQ.out _ (OA8.out _ SR1.out).2).mono ?_
          rintro e r2 ⟨rfl, hbr2⟩
          have SR2 : Hid (Since y8.heap.size y8 r2) := SR1.out.step hbr2
          obtain ⟨d0, d1⟩ := HBX.out r2 (HB1.out.trans (hbr2.mono HB1.out.size))
          clear hbr2 HB1 SR1 HBX b0 b1 CP CQ q0 q1
          have n5 : ¬ (q < Q) := by omega
          have n4 : ¬ (q < P) := by omega
          by_cases e1 : q = P
          · subst e1
            clear h3 h4 n4
            go_wp2
            go_roundw
            case rel => exact ⟨k + 1, by omega, by go_num, SR2.out⟩
            case measure => simp [intOf]; omega
          · have e2 : q = Q := by omega
            subst e2
            have hd1 : decide (q = P) = false := decide_eq_false e1
            clear h3 h5 n5
            go_wp2
            go_roundw
            case rel => exact ⟨k + 1, by omega, by go_num, SR2.out⟩
            case measure => simp [intOf]; omega
        · have hlt' : ¬ (k : Int) < (mo.length : Int) := by omega
          have e : k = mo.length := by omega
          subst e
          have SZ : Hid (Since w.heap.size w wr) := SY8.out.tran HK.out
          clear HK CQH HCM OA8 SY8 HSS
          go_wp2_with fail
          refine (drawSeqFor_any w.heap.size w _ a1 len1 cap1 HC1.out (by omega) SZ.out).mono ?_
          rintro e t1 ⟨vt, lt, fr, rfl, hot1, hlt1, hst1⟩
          obtain ⟨at1, ct1, rfl⟩ := hot1.shape
          have ST1 : Hid (Since w.heap.size w t1) := hst1
          have OT1 : Hid (OwnHv t1 0 (.slice at1 lt.length ct1) lt) := hot1.mono (Nat.zero_le _)
          obtain ⟨sq, hsq⟩ : ∃ sq, sq = seqOut lt fr := ⟨_, rfl⟩
          obtain ⟨sk, hsk⟩ : ∃ sk, sk = seqOk lt fr := ⟨_, rfl⟩
          have CTI : Hid (∀ W, OwnHv W 0 (.slice at1 lt.length ct1) lt → Calls Try.prog 24 #[.slice at1 lt.length ct1, .int .i64 fr] W fun e W' => e = .returned (.tuple #[.int .i64 sq, .bool sk]) ∧ Below W.heap.size W W') := fun W ho => by rw [hsq, hsk]; exact implSeqFor_any W 0 _ lt fr ho (by omega)
          have CTS : Hid (∀ W, OwnHv W 0 (.slice at1 lt.length ct1) lt → Calls Try.prog 26 #[.slice at1 lt.length ct1, .int .i64 fr] W fun e W' => e = .returned (.tuple #[.int .i64 sq, .bool sk]) ∧ Below W.heap.size W W') := fun W ho => by rw [hsq, hsk]; exact specSeqFor_any W 0 _ lt fr ho (by omega)
          clear hot1 hst1 hlt1 hsq hsk
          go_wp2_with fail
          refine (CTI.out _ OT1.out).mono ?_
          rintro e t2 ⟨rfl, hbt2⟩
          have ST2 : Hid (Since w.heap.size w t2) := ST1.out.step hbt2
          have OT2 : Hid (OwnHv t2 0 (.slice at1 lt.length ct1) lt) := OT1.out.below hbt2
          clear hbt2
          go_wp2_with fail
          refine (CTS.out _ OT2.out).mono ?_
          rintro e t3 ⟨rfl, hbt3⟩
          have ST3 : Hid (Since w.heap.size w t3) := ST2.out.step hbt3
          clear hbt3
          cases sk <;>
            (go_wp2
             go_ret
             exact ⟨rfl, ST3.out.1⟩)
  obtain ⟨g1, rfl, hc1⟩ := LC.out.resolve_left hz
  obtain ⟨g2, rfl, hc2⟩ := LW.out.resolve_left hz
  have HL1 : Hid (SmsLie x3 g1 ss) := hc1
  have HL2 : Hid (SmsLie x3 g2 ss) := hc2
  clear hc1 hc2 LC LW hz
  generalize cc = c1 at *
  generalize cw = c2 at *
  go_wp2
  go_loopw [71] (fun i wr => ∃ k : Nat, k ≤ ss.length ∧ i = .int .i64 k ∧ Hid (Since x3.heap.size x3 wr)) (fun i _ => ss.length - (intOf i).toNat)
  case atStart => exact ⟨0, Nat.zero_le _, rfl, HSS.out⟩
  case round =>
   obtain ⟨k, hk, rfl, HK⟩ := hrel
   by_cases hlt : k < ss.length
   · obtain ⟨x1', y1, hx1⟩ := HL1.out k hlt
     obtain ⟨x2', y2, hx2⟩ := HL2.out k hlt
     have hlt' : (k : Int) < (ss.length : Int) := by omega
     have hsl := HSM.out.2 _ (List.getElem_mem hlt)
     generalize ss[k] = s at *
     obtain ⟨lo, hi, hs⟩ := s
     simp only at *
     have LHS : Hid (hs.length ≤ 4194304) := by show _ ≤ _; omega
     have HKK : Hid (∀ w', Since wr.heap.size wr w' → (w'.cell? ⟨g1, k * 3, none⟩ = some (.int .i64 lo) ∧ w'.cell? ⟨g1, k * 3 + 1, none⟩ = some (.int .i64 hi) ∧ w'.cell? ⟨g1, k * 3 + 2, none⟩ = some (.slice x1' hs.length y1)) ∧ (w'.cell? ⟨g2, k * 3, none⟩ = some (.int .i64 lo) ∧ w'.cell? ⟨g2, k * 3 + 1, none⟩ = some (.int .i64 hi) ∧ w'.cell? ⟨g2, k * 3 + 2, none⟩ = some (.slice x2' hs.length y2)) ∧ LiesHv w' (.slice x1' hs.length y1) hs ∧ LiesHv w' (.slice x2' hs.length y2) hs) := fun w' h => by
       obtain ⟨p1, p2, p3, p4⟩ := hx1 w' (HK.out.tran h)
       obtain ⟨q1, q2, q3, q4⟩ := hx2 w' (HK.out.tran h)
       exact ⟨⟨p1, p2, p3⟩, ⟨q1, q2, q3⟩, p4, q4⟩
     have SA0 : Since wr.heap.size wr wr := Since.start wr
     clear hx1 hx2 hsl
     generalize x1' = x1 at *
     generalize x2' = x2 at *
     go_wp2
     refine wp_region_held_drew (S := (fun w' => (w'.cell? ⟨g1, k * 3, none⟩ = some (.int .i64 lo) ∧ w'.cell? ⟨g1, k * 3 + 1, none⟩ = some (.int .i64 hi) ∧ w'.cell? ⟨g1, k * 3 + 2, none⟩ = some (.slice x1 hs.length y1)) ∧ (w'.cell? ⟨g2, k * 3, none⟩ = some (.int .i64 lo) ∧ w'.cell? ⟨g2, k * 3 + 1, none⟩ = some (.int .i64 hi) ∧ w'.cell? ⟨g2, k * 3 + 2, none⟩ = some (.slice x2 hs.length y2)))) (by kernel_rfl) ?_ (fun hHeld => ?_)
     · exact ⟨(HKK.out _ SA0.drew).1, (HKK.out _ SA0.drew).2.1⟩
     refine handRead 0 (some 74) (.slice (some ⟨g1, 0, none⟩) ss.length c1) rfl rfl (by kernel_rfl) (by kernel_rfl) (by kernel_rfl) (fun _ _ _ h => h) (by kernel_rfl) (by assumption) ?_ ?_
     · intro w hSw
       (try dsimp only at hSw)
       go_simp
     simp only [Act.put, List.setIfInBounds_toArray, List.set_cons_zero, List.set_cons_succ]
     refine handRead 1 (some 75) (.int .i64 (k : Int)) rfl rfl (by kernel_rfl) (by kernel_rfl) (by kernel_rfl) (fun _ _ _ h => h) (by kernel_rfl) (by assumption) ?_ ?_
     · intro w hSw
       (try dsimp only at hSw)
       go_simp
     simp only [Act.put, List.setIfInBounds_toArray, List.set_cons_zero, List.set_cons_succ]
     refine handRead 2 (some 76) (.pointer (some ⟨g1, k * 3, none⟩)) rfl rfl (by kernel_rfl) (by kernel_rfl) (by kernel_rfl) (fun _ _ _ h => h) (by kernel_rfl) (by assumption) ?_ ?_
     · intro w hSw
       (try dsimp only at hSw)
       go_simp
     simp only [Act.put, List.setIfInBounds_toArray, List.set_cons_zero, List.set_cons_succ]
     refine handRead 3 (some 77) (.pointer (some ⟨g1, k * 3, none⟩)) rfl rfl (by kernel_rfl) (by kernel_rfl) (by kernel_rfl) (fun _ _ _ h => h) (by kernel_rfl) (by assumption) ?_ ?_
     · intro w hSw
       (try dsimp only at hSw)
       go_simp
     simp only [Act.put, List.setIfInBounds_toArray, List.set_cons_zero, List.set_cons_succ]
     refine handRead 4 (some 78) (.int .i64 lo) rfl rfl (by kernel_rfl) (by kernel_rfl) (by kernel_rfl) (fun _ _ _ h => h) (by kernel_rfl) (by assumption) ?_ ?_
     · intro w hSw
       (try dsimp only at hSw)
       go_simp
     simp only [Act.put, List.setIfInBounds_toArray, List.set_cons_zero, List.set_cons_succ]
     refine handRead 5 (some 79) (.slice (some ⟨g2, 0, none⟩) ss.length c2) rfl rfl (by kernel_rfl) (by kernel_rfl) (by kernel_rfl) (fun _ _ _ h => h) (by kernel_rfl) (by assumption) ?_ ?_
     · intro w hSw
       (try dsimp only at hSw)
       go_simp
     simp only [Act.put, List.setIfInBounds_toArray, List.set_cons_zero, List.set_cons_succ]
     refine handRead 6 (some 80) (.int .i64 (k : Int)) rfl rfl (by kernel_rfl) (by kernel_rfl) (by kernel_rfl) (fun _ _ _ h => h) (by kernel_rfl) (by assumption) ?_ ?_
     · intro w hSw
       (try dsimp only at hSw)
       go_simp
     simp only [Act.put, List.setIfInBounds_toArray, List.set_cons_zero, List.set_cons_succ]
     refine handRead 7 (some 81) (.pointer (some ⟨g2, k * 3, none⟩)) rfl rfl (by kernel_rfl) (by kernel_rfl) (by kernel_rfl) (fun _ _ _ h => h) (by kernel_rfl) (by assumption) ?_ ?_
     · intro w hSw
       (try dsimp only at hSw)
       go_simp
     simp only [Act.put, List.setIfInBounds_toArray, List.set_cons_zero, List.set_cons_succ]
     refine handRead 8 (some 82) (.pointer (some ⟨g2, k * 3, none⟩)) rfl rfl (by kernel_rfl) (by kernel_rfl) (by kernel_rfl) (fun _ _ _ h => h) (by kernel_rfl) (by assumption) ?_ ?_
     · intro w hSw
       (try dsimp only at hSw)
       go_simp
     simp only [Act.put, List.setIfInBounds_toArray, List.set_cons_zero, List.set_cons_succ]
     refine handRead 9 (some 83) (.int .i64 lo) rfl rfl (by kernel_rfl) (by kernel_rfl) (by kernel_rfl) (fun _ _ _ h => h) (by kernel_rfl) (by assumption) ?_ ?_
     · intro w hSw
       (try dsimp only at hSw)
       go_simp
     simp only [Act.put, List.setIfInBounds_toArray, List.set_cons_zero, List.set_cons_succ]
     refine handRead 10 (some 84) (.bool false) rfl rfl (by kernel_rfl) (by kernel_rfl) (by kernel_rfl) (fun _ _ _ h => h) (by kernel_rfl) (by assumption) ?_ ?_
     · intro w hSw
       (try dsimp only at hSw)
       go_simp
     simp only [Act.put, List.setIfInBounds_toArray, List.set_cons_zero, List.set_cons_succ]
     refine handRead 11 (some 85) (.bool false) rfl rfl (by kernel_rfl) (by kernel_rfl) (by kernel_rfl) (fun _ _ _ h => h) (by kernel_rfl) (by assumption) ?_ ?_
     · intro w hSw
       (try dsimp only at hSw)
       go_simp
     simp only [Act.put, List.setIfInBounds_toArray, List.set_cons_zero, List.set_cons_succ]
     refine handRead 12 (some 86) (.slice (some ⟨g1, 0, none⟩) ss.length c1) rfl rfl (by kernel_rfl) (by kernel_rfl) (by kernel_rfl) (fun _ _ _ h => h) (by kernel_rfl) (by assumption) ?_ ?_
     · intro w hSw
       (try dsimp only at hSw)
       go_simp
     simp only [Act.put, List.setIfInBounds_toArray, List.set_cons_zero, List.set_cons_succ]
     refine handRead 13 (some 87) (.int .i64 (k : Int)) rfl rfl (by kernel_rfl) (by kernel_rfl) (by kernel_rfl) (fun _ _ _ h => h) (by kernel_rfl) (by assumption) ?_ ?_
     · intro w hSw
       (try dsimp only at hSw)
       go_simp
     simp only [Act.put, List.setIfInBounds_toArray, List.set_cons_zero, List.set_cons_succ]
     refine handRead 14 (some 88) (.pointer (some ⟨g1, k * 3, none⟩)) rfl rfl (by kernel_rfl) (by kernel_rfl) (by kernel_rfl) (fun _ _ _ h => h) (by kernel_rfl) (by assumption) ?_ ?_
     · intro w hSw
       (try dsimp only at hSw)
       go_simp
     simp only [Act.put, List.setIfInBounds_toArray, List.set_cons_zero, List.set_cons_succ]
     refine handRead 15 (some 89) (.pointer (some ⟨g1, k * 3 + 1, none⟩)) rfl rfl (by kernel_rfl) (by kernel_rfl) (by kernel_rfl) (fun _ _ _ h => h) (by kernel_rfl) (by assumption) ?_ ?_
     · intro w hSw
       (try dsimp only at hSw)
       go_simp
     simp only [Act.put, List.setIfInBounds_toArray, List.set_cons_zero, List.set_cons_succ]
     refine handRead 16 (some 90) (.int .i64 hi) rfl rfl (by kernel_rfl) (by kernel_rfl) (by kernel_rfl) (fun _ _ _ h => h) (by kernel_rfl) (by assumption) ?_ ?_
     · intro w hSw
       (try dsimp only at hSw)
       go_simp
     simp only [Act.put, List.setIfInBounds_toArray, List.set_cons_zero, List.set_cons_succ]
     refine handRead 17 (some 91) (.slice (some ⟨g2, 0, none⟩) ss.length c2) rfl rfl (by kernel_rfl) (by kernel_rfl) (by kernel_rfl) (fun _ _ _ h => h) (by kernel_rfl) (by assumption) ?_ ?_
     · intro w hSw
       (try dsimp only at hSw)
       go_simp
     simp only [Act.put, List.setIfInBounds_toArray, List.set_cons_zero, List.set_cons_succ]
     refine handRead 18 (some 92) (.int .i64 (k : Int)) rfl rfl (by kernel_rfl) (by kernel_rfl) (by kernel_rfl) (fun _ _ _ h => h) (by kernel_rfl) (by assumption) ?_ ?_
     · intro w hSw
       (try dsimp only at hSw)
       go_simp
     simp only [Act.put, List.setIfInBounds_toArray, List.set_cons_zero, List.set_cons_succ]
     refine handRead 19 (some 93) (.pointer (some ⟨g2, k * 3, none⟩)) rfl rfl (by kernel_rfl) (by kernel_rfl) (by kernel_rfl) (fun _ _ _ h => h) (by kernel_rfl) (by assumption) ?_ ?_
     · intro w hSw
       (try dsimp only at hSw)
       go_simp
     simp only [Act.put, List.setIfInBounds_toArray, List.set_cons_zero, List.set_cons_succ]
     refine handRead 20 (some 94) (.pointer (some ⟨g2, k * 3 + 1, none⟩)) rfl rfl (by kernel_rfl) (by kernel_rfl) (by kernel_rfl) (fun _ _ _ h => h) (by kernel_rfl) (by assumption) ?_ ?_
     · intro w hSw
       (try dsimp only at hSw)
       go_simp
     simp only [Act.put, List.setIfInBounds_toArray, List.set_cons_zero, List.set_cons_succ]
     refine handRead 21 (some 95) (.int .i64 hi) rfl rfl (by kernel_rfl) (by kernel_rfl) (by kernel_rfl) (fun _ _ _ h => h) (by kernel_rfl) (by assumption) ?_ ?_
     · intro w hSw
       (try dsimp only at hSw)
       go_simp
     simp only [Act.put, List.setIfInBounds_toArray, List.set_cons_zero, List.set_cons_succ]
     refine handRead 22 (some 96) (.bool false) rfl rfl (by kernel_rfl) (by kernel_rfl) (by kernel_rfl) (fun _ _ _ h => h) (by kernel_rfl) (by assumption) ?_ ?_
     · intro w hSw
       (try dsimp only at hSw)
       go_simp
     simp only [Act.put, List.setIfInBounds_toArray, List.set_cons_zero, List.set_cons_succ]
     refine handRead 23 (some 97) (.bool false) rfl rfl (by kernel_rfl) (by kernel_rfl) (by kernel_rfl) (fun _ _ _ h => h) (by kernel_rfl) (by assumption) ?_ ?_
     · intro w hSw
       (try dsimp only at hSw)
       go_simp
     simp only [Act.put, List.setIfInBounds_toArray, List.set_cons_zero, List.set_cons_succ]
     refine handRead 24 (some 98) (.bool false) rfl rfl (by kernel_rfl) (by kernel_rfl) (by kernel_rfl) (fun _ _ _ h => h) (by kernel_rfl) (by assumption) ?_ ?_
     · intro w hSw
       (try dsimp only at hSw)
       go_simp
     simp only [Act.put, List.setIfInBounds_toArray, List.set_cons_zero, List.set_cons_succ]
     refine handRead 25 (some 99) (.slice (some ⟨g1, 0, none⟩) ss.length c1) rfl rfl (by kernel_rfl) (by kernel_rfl) (by kernel_rfl) (fun _ _ _ h => h) (by kernel_rfl) (by assumption) ?_ ?_
     · intro w hSw
       (try dsimp only at hSw)
       go_simp
     simp only [Act.put, List.setIfInBounds_toArray, List.set_cons_zero, List.set_cons_succ]
     refine handRead 26 (some 100) (.int .i64 (k : Int)) rfl rfl (by kernel_rfl) (by kernel_rfl) (by kernel_rfl) (fun _ _ _ h => h) (by kernel_rfl) (by assumption) ?_ ?_
     · intro w hSw
       (try dsimp only at hSw)
       go_simp
     simp only [Act.put, List.setIfInBounds_toArray, List.set_cons_zero, List.set_cons_succ]
     refine handRead 27 (some 101) (.pointer (some ⟨g1, k * 3, none⟩)) rfl rfl (by kernel_rfl) (by kernel_rfl) (by kernel_rfl) (fun _ _ _ h => h) (by kernel_rfl) (by assumption) ?_ ?_
     · intro w hSw
       (try dsimp only at hSw)
       go_simp
     simp only [Act.put, List.setIfInBounds_toArray, List.set_cons_zero, List.set_cons_succ]
     refine handRead 28 (some 102) (.pointer (some ⟨g1, k * 3 + 2, none⟩)) rfl rfl (by kernel_rfl) (by kernel_rfl) (by kernel_rfl) (fun _ _ _ h => h) (by kernel_rfl) (by assumption) ?_ ?_
     · intro w hSw
       (try dsimp only at hSw)
       go_simp
     simp only [Act.put, List.setIfInBounds_toArray, List.set_cons_zero, List.set_cons_succ]
     refine handRead 29 (some 103) (.slice x1 hs.length y1) rfl rfl (by kernel_rfl) (by kernel_rfl) (by kernel_rfl) (fun _ _ _ h => h) (by kernel_rfl) (by assumption) ?_ ?_
     · intro w hSw
       (try dsimp only at hSw)
       go_simp
     simp only [Act.put, List.setIfInBounds_toArray, List.set_cons_zero, List.set_cons_succ]
     refine handRead 30 (some 104) (.slice (some ⟨g2, 0, none⟩) ss.length c2) rfl rfl (by kernel_rfl) (by kernel_rfl) (by kernel_rfl) (fun _ _ _ h => h) (by kernel_rfl) (by assumption) ?_ ?_
     · intro w hSw
       (try dsimp only at hSw)
       go_simp
     simp only [Act.put, List.setIfInBounds_toArray, List.set_cons_zero, List.set_cons_succ]
     refine handRead 31 (some 105) (.int .i64 (k : Int)) rfl rfl (by kernel_rfl) (by kernel_rfl) (by kernel_rfl) (fun _ _ _ h => h) (by kernel_rfl) (by assumption) ?_ ?_
     · intro w hSw
       (try dsimp only at hSw)
       go_simp
     simp only [Act.put, List.setIfInBounds_toArray, List.set_cons_zero, List.set_cons_succ]
     refine handRead 32 (some 106) (.pointer (some ⟨g2, k * 3, none⟩)) rfl rfl (by kernel_rfl) (by kernel_rfl) (by kernel_rfl) (fun _ _ _ h => h) (by kernel_rfl) (by assumption) ?_ ?_
     · intro w hSw
       (try dsimp only at hSw)
       go_simp
     simp only [Act.put, List.setIfInBounds_toArray, List.set_cons_zero, List.set_cons_succ]
     refine handRead 33 (some 107) (.pointer (some ⟨g2, k * 3 + 2, none⟩)) rfl rfl (by kernel_rfl) (by kernel_rfl) (by kernel_rfl) (fun _ _ _ h => h) (by kernel_rfl) (by assumption) ?_ ?_
     · intro w hSw
       (try dsimp only at hSw)
       go_simp
     simp only [Act.put, List.setIfInBounds_toArray, List.set_cons_zero, List.set_cons_succ]
     refine handRead 34 (some 108) (.slice x2 hs.length y2) rfl rfl (by kernel_rfl) (by kernel_rfl) (by kernel_rfl) (fun _ _ _ h => h) (by kernel_rfl) (by assumption) ?_ ?_
     · intro w hSw
       (try dsimp only at hSw)
       go_simp
     simp only [Act.put, List.setIfInBounds_toArray, List.set_cons_zero, List.set_cons_succ]
     refine handCall 35 (some 109) 8 #[.slice x1 hs.length y1, .slice x2 hs.length y2] (by kernel_rfl) rfl rfl (by kernel_rfl) (by simp [go_sem]) ((sameHvs_same _ _ _ hs (HKK.out _ SA0.drew).2.2.1.reads (HKK.out _ SA0.drew).2.2.2.reads LHS.out).mono ?_)
     rintro e r1 ⟨rfl, hbr1⟩
     have SA1 : Hid (Since wr.heap.size wr r1) := SA0.drew.step hbr1
     clear hHeld hbr1
     refine ⟨_, rfl, (by exact ⟨(HKK.out _ SA1.out).1, (HKK.out _ SA1.out).2.1⟩), fun hHeld => ?_⟩
     simp only [Act.put, List.setIfInBounds_toArray, List.set_cons_zero, List.set_cons_succ]
     refine handRead 36 (some 110) (.bool false) rfl rfl (by kernel_rfl) (by kernel_rfl) (by kernel_rfl) (fun _ _ _ h => h) (by kernel_rfl) (by assumption) ?_ ?_
     · intro w hSw
       (try dsimp only at hSw)
       go_simp
     simp only [Act.put, List.setIfInBounds_toArray, List.set_cons_zero, List.set_cons_succ]
     refine handRead 37 (some 111) (.bool false) rfl rfl (by kernel_rfl) (by kernel_rfl) (by kernel_rfl) (fun _ _ _ h => h) (by kernel_rfl) (by assumption) ?_ ?_
     · intro w hSw
       (try dsimp only at hSw)
       go_simp
     simp only [Act.put, List.setIfInBounds_toArray, List.set_cons_zero, List.set_cons_succ]
     refine wpAnyH_done (by kernel_rfl) ?_ _
     have SZ : Hid (Since x3.heap.size x3 r1) := HK.out.tran SA1.out
     clear SA0 SA1 HKK HK
     go_wp2
     go_roundw
     case rel => exact ⟨k + 1, by omega, by go_num, SZ.out⟩
     case measure => simp [intOf]; omega
   · have hlt' : ¬ (k : Int) < (ss.length : Int) := by omega
     have e : k = ss.length := by omega
     subst e
     have SZ : Hid (Since w.heap.size w wr) := SX3.out.tran HK.out
     cases ok with
     | false =>
      clear HPT HL1 HL2 HSM HK
      go_wp2_with fail
      refine (drawMergeHaves_any w.heap.size w _ a1 len1 cap1 HC1.out (by omega) SZ.out).mono ?_
      rintro e y1 ⟨va, la, vb, lb, rfl, hoa, hla, hob, hlb, hsy1⟩
      obtain ⟨aa, ca, rfl⟩ := hoa.shape
      obtain ⟨ab, cb, rfl⟩ := hob.shape
      have SY1 : Hid (Since w.heap.size w y1) := hsy1
      have OA1 : Hid (OwnHv y1 0 (.slice aa la.length ca) la ∧ OwnHv y1 0 (.slice ab lb.length cb) lb) := ⟨hoa.mono (Nat.zero_le _), hob.mono (Nat.zero_le _)⟩
      obtain ⟨mo, hmo⟩ : ∃ mo, mo = mrgOut la lb := ⟨_, rfl⟩
      obtain ⟨mk, hmk⟩ : ∃ mk, mk = mrgOk la lb := ⟨_, rfl⟩
      obtain ⟨ga, hga⟩ : ∃ ga, ga = goodHv la := ⟨_, rfl⟩
      have CMI : Hid (∀ W, OwnHv W 0 (.slice aa la.length ca) la → OwnHv W 0 (.slice ab lb.length cb) lb → Calls Try.prog 9 #[.slice aa la.length ca, .slice ab lb.length cb] W (MrgPost W mo mk)) := fun W h1 h2 => by rw [hmo, hmk]; exact implMergeHaves_any W 0 _ _ la lb h1 h2 (by omega) (by omega)
      have CMS : Hid (∀ W, OwnHv W 0 (.slice aa la.length ca) la → OwnHv W 0 (.slice ab lb.length cb) lb → Calls Try.prog 21 #[.slice aa la.length ca, .slice ab lb.length cb] W (MrgPost W mo mk)) := fun W h1 h2 => by rw [hmo, hmk]; exact specMergeHaves_any W 0 _ _ la lb h1 h2 (by omega) (by omega)
      have CMT : Hid (mk = true → ∀ W, OwnHv W 0 (.slice aa la.length ca) la → OwnHv W 0 (.slice ab lb.length cb) lb → Calls Try.prog 9 #[.slice ab lb.length cb, .slice aa la.length ca] W (MrgPost W mo true)) := fun hk W h1 h2 => by
        rw [hmk] at hk
        have := implMergeHaves_any W 0 _ _ lb la h2 h1 (by omega) (by omega)
        rw [(mrg_turn hk).1, (mrg_turn hk).2, ← hmo] at this
        exact this
      have CGI : Hid (∀ W, OwnHv W 0 (.slice aa la.length ca) la → Calls Try.prog 22 #[.slice aa la.length ca] W fun e W' => e = .returned (.bool ga) ∧ Below W.heap.size W W') := fun W h1 => by rw [hga]; exact implGoodHv_any W _ la h1.reads (by omega)
      have CGS : Hid (∀ W, OwnHv W 0 (.slice aa la.length ca) la → Calls Try.prog 23 #[.slice aa la.length ca] W fun e W' => e = .returned (.bool ga) ∧ Below W.heap.size W W') := fun W h1 => by rw [hga]; exact specGoodHv_any W _ la h1.reads (by omega)
      have CQA : Hid (mk = true → ∀ j (hj : j < mo.length), ∃ P Q, (∀ W, OwnHv W 0 (.slice aa la.length ca) la → Calls Try.prog 24 #[.slice aa la.length ca, .int .i64 mo[j].From] W fun e W' => e = .returned (.tuple #[.int .i64 P, .bool true]) ∧ Below W.heap.size W W') ∧ (∀ W, OwnHv W 0 (.slice ab lb.length cb) lb → Calls Try.prog 24 #[.slice ab lb.length cb, .int .i64 mo[j].From] W fun e W' => e = .returned (.tuple #[.int .i64 Q, .bool true]) ∧ Below W.heap.size W W') ∧ (mo[j].Seq = P ∨ mo[j].Seq = Q) ∧ P ≤ mo[j].Seq ∧ Q ≤ mo[j].Seq) := fun hk j hj => by
        rw [hmk] at hk
        subst hmo
        obtain ⟨s1, s2, s3, s4, s5⟩ := mrg_seq hk j hj
        refine ⟨_, _, fun W h1 => ?_, fun W h1 => ?_, s3, s4, s5⟩
        · have := implSeqFor_any W 0 _ la (mrgOut la lb)[j].From h1 (by omega)
          rw [s1] at this
          exact this
        · have := implSeqFor_any W 0 _ lb (mrgOut la lb)[j].From h1 (by omega)
          rw [s2] at this
          exact this
      have LM : Hid (mo.length ≤ 4194304) := by show _ ≤ _; rw [hmo]; exact mrgOut_len la lb
      clear hoa hob hsy1 hla hlb hmo hmk hga
      go_wp2_with fail
      refine (CMI.out _ OA1.out.1 OA1.out.2).mono ?_
      rintro e y2 ⟨vm, rfl, hom, hby2⟩
      obtain ⟨am, cm, rfl⟩ := hom.shape
      have SY2 : Hid (Since w.heap.size w y2) := SY1.out.step hby2
      have OA2 : Hid (OwnHv y2 0 (.slice aa la.length ca) la ∧ OwnHv y2 0 (.slice ab lb.length cb) lb) := ⟨OA1.out.1.below hby2, OA1.out.2.below hby2⟩
      have OM2 : Hid (OwnHv y2 0 (.slice am mo.length cm) mo) := hom.mono (Nat.zero_le _)
      clear hom hby2 SY1 OA1
      go_wp2_with fail
      refine (CMS.out _ OA2.out.1 OA2.out.2).mono ?_
      rintro e y3 ⟨vn, rfl, hon, hby3⟩
      obtain ⟨an, cn, rfl⟩ := hon.shape
      have SY3 : Hid (Since w.heap.size w y3) := SY2.out.step hby3
      have OA3 : Hid (OwnHv y3 0 (.slice aa la.length ca) la ∧ OwnHv y3 0 (.slice ab lb.length cb) lb) := ⟨OA2.out.1.below hby3, OA2.out.2.below hby3⟩
      have OM3 : Hid (OwnHv y3 0 (.slice am mo.length cm) mo) := OM2.out.below hby3
      have ON3 : Hid (OwnHv y3 0 (.slice an mo.length cn) mo) := hon.mono (Nat.zero_le _)
      clear hon hby3 SY2 OA2 OM2
      go_wp2_with fail
      refine (sameHvs_same _ _ _ mo OM3.out.reads ON3.out.reads LM.out).mono ?_
      rintro e y4 ⟨rfl, hby4⟩
      have SY4 : Hid (Since w.heap.size w y4) := SY3.out.step hby4
      have OA4 : Hid (OwnHv y4 0 (.slice aa la.length ca) la ∧ OwnHv y4 0 (.slice ab lb.length cb) lb) := ⟨OA3.out.1.below hby4, OA3.out.2.below hby4⟩
      have OM4 : Hid (OwnHv y4 0 (.slice am mo.length cm) mo) := OM3.out.below hby4
      clear hby4 SY3 OA3 OM3 ON3
      go_wp2_with fail
      refine (CGI.out _ OA4.out.1).mono ?_
      rintro e y5 ⟨rfl, hby5⟩
      have SY5 : Hid (Since w.heap.size w y5) := SY4.out.step hby5
      have OA5 : Hid (OwnHv y5 0 (.slice aa la.length ca) la ∧ OwnHv y5 0 (.slice ab lb.length cb) lb) := ⟨OA4.out.1.below hby5, OA4.out.2.below hby5⟩
      have OM5 : Hid (OwnHv y5 0 (.slice am mo.length cm) mo) := OM4.out.below hby5
      clear hby5 SY4 OA4 OM4
      go_wp2_with fail
      refine (CGS.out _ OA5.out.1).mono ?_
      rintro e y6 ⟨rfl, hby6⟩
      have SY6 : Hid (Since w.heap.size w y6) := SY5.out.step hby6
      have OA6 : Hid (OwnHv y6 0 (.slice aa la.length ca) la ∧ OwnHv y6 0 (.slice ab lb.length cb) lb) := ⟨OA5.out.1.below hby6, OA5.out.2.below hby6⟩
      have OM6 : Hid (OwnHv y6 0 (.slice am mo.length cm) mo) := OM5.out.below hby6
      clear hby6 SY5 OA5 OM5
      cases mk with
      | false =>
        clear CMI CMS CMT CGI CGS CQA OA6 OM6
        go_wp2_with fail
        refine (drawSeqFor_any w.heap.size w _ a1 len1 cap1 HC1.out (by omega) SY6.out).mono ?_
        rintro e t1 ⟨vt, lt, fr, rfl, hot1, hlt1, hst1⟩
        obtain ⟨at1, ct1, rfl⟩ := hot1.shape
        have ST1 : Hid (Since w.heap.size w t1) := hst1
        have OT1 : Hid (OwnHv t1 0 (.slice at1 lt.length ct1) lt) := hot1.mono (Nat.zero_le _)
        obtain ⟨sq, hsq⟩ : ∃ sq, sq = seqOut lt fr := ⟨_, rfl⟩
        obtain ⟨sk, hsk⟩ : ∃ sk, sk = seqOk lt fr := ⟨_, rfl⟩
        have CTI : Hid (∀ W, OwnHv W 0 (.slice at1 lt.length ct1) lt → Calls Try.prog 24 #[.slice at1 lt.length ct1, .int .i64 fr] W fun e W' => e = .returned (.tuple #[.int .i64 sq, .bool sk]) ∧ Below W.heap.size W W') := fun W ho => by rw [hsq, hsk]; exact implSeqFor_any W 0 _ lt fr ho (by omega)
        have CTS : Hid (∀ W, OwnHv W 0 (.slice at1 lt.length ct1) lt → Calls Try.prog 26 #[.slice at1 lt.length ct1, .int .i64 fr] W fun e W' => e = .returned (.tuple #[.int .i64 sq, .bool sk]) ∧ Below W.heap.size W W') := fun W ho => by rw [hsq, hsk]; exact specSeqFor_any W 0 _ lt fr ho (by omega)
        clear hot1 hst1 hlt1 hsq hsk
        go_wp2_with fail
        refine (CTI.out _ OT1.out).mono ?_
        rintro e t2 ⟨rfl, hbt2⟩
        have ST2 : Hid (Since w.heap.size w t2) := ST1.out.step hbt2
        have OT2 : Hid (OwnHv t2 0 (.slice at1 lt.length ct1) lt) := OT1.out.below hbt2
        clear hbt2
        go_wp2_with fail
        refine (CTS.out _ OT2.out).mono ?_
        rintro e t3 ⟨rfl, hbt3⟩
        have ST3 : Hid (Since w.heap.size w t3) := ST2.out.step hbt3
        clear hbt3
        cases sk <;>
          (go_wp2
           go_ret
           exact ⟨rfl, ST3.out.1⟩)
      | true =>
        have CMT2 := CMT.out (by first | rfl | trivial)
        have CMTH : Hid (∀ W, OwnHv W 0 (.slice aa la.length ca) la → OwnHv W 0 (.slice ab lb.length cb) lb → Calls Try.prog 9 #[.slice ab lb.length cb, .slice aa la.length ca] W (MrgPost W mo true)) := CMT2
        have CQ2 := CQA.out (by first | rfl | trivial)
        have CQH : Hid (∀ j (hj : j < mo.length), ∃ P Q, (∀ W, OwnHv W 0 (.slice aa la.length ca) la → Calls Try.prog 24 #[.slice aa la.length ca, .int .i64 mo[j].From] W fun e W' => e = .returned (.tuple #[.int .i64 P, .bool true]) ∧ Below W.heap.size W W') ∧ (∀ W, OwnHv W 0 (.slice ab lb.length cb) lb → Calls Try.prog 24 #[.slice ab lb.length cb, .int .i64 mo[j].From] W fun e W' => e = .returned (.tuple #[.int .i64 Q, .bool true]) ∧ Below W.heap.size W W') ∧ (mo[j].Seq = P ∨ mo[j].Seq = Q) ∧ P ≤ mo[j].Seq ∧ Q ≤ mo[j].Seq) := CQ2
        clear CMT CQA CMT2 CQ2 CMI CMS CGI CGS
        go_wp2_with fail
        refine (CMTH.out _ OA6.out.1 OA6.out.2).mono ?_
        rintro e y7 ⟨vo, rfl, hoo, hby7⟩
        obtain ⟨ao, co, rfl⟩ := hoo.shape
        have SY7 : Hid (Since w.heap.size w y7) := SY6.out.step hby7
        have OA7 : Hid (OwnHv y7 0 (.slice aa la.length ca) la ∧ OwnHv y7 0 (.slice ab lb.length cb) lb) := ⟨OA6.out.1.below hby7, OA6.out.2.below hby7⟩
        have OM7 : Hid (OwnHv y7 0 (.slice am mo.length cm) mo) := OM6.out.below hby7
        have ON7 : Hid (OwnHv y7 0 (.slice ao mo.length co) mo) := hoo.mono (Nat.zero_le _)
        clear hoo hby7 SY6 OA6 OM6 CMTH
        go_wp2_with fail
        refine (sameHvs_same _ _ _ mo ON7.out.reads OM7.out.reads LM.out).mono ?_
        rintro e y8 ⟨rfl, hby8⟩
        have SY8 : Hid (Since w.heap.size w y8) := SY7.out.step hby8
        have OA8 : Hid (∀ W', Since y8.heap.size y8 W' → OwnHv W' 0 (.slice aa la.length ca) la ∧ OwnHv W' 0 (.slice ab lb.length cb) lb) := fun W' hs => ⟨(OA7.out.1.below hby8).below hs.1, (OA7.out.2.below hby8).below hs.1⟩
        have HM8 : Hid (mo = [] ∨ ∃ g, am = some ⟨g, 0, none⟩ ∧ ∀ W', Since y8.heap.size y8 W' → ∀ j (hj : j < mo.length), HvAt W' g (j * 2) mo[j]) := by
          have h := OM7.out.below hby8
          by_cases hz : mo = []
          · exact .inl hz
          · obtain ⟨g, cg, e6⟩ : ∃ g cap, Value.slice am mo.length cm = .slice (some ⟨g, 0, none⟩) mo.length cap := by
              rcases h.2 with ⟨hv, hn0⟩ | ⟨g, cap, cur, hv, -⟩
              · exact absurd (List.eq_nil_of_length_eq_zero hn0) hz
              · exact ⟨g, cap, hv⟩
            obtain ⟨rfl, rfl⟩ : am = some ⟨g, 0, none⟩ ∧ cm = cg := by simpa using e6
            refine .inr ⟨g, rfl, fun W' hs j hj => ?_⟩
            have h1 := h.below hs.1
            obtain ⟨q0, q1⟩ := cellsHv_get mo j hj
            exact ⟨(World.ownsRow.cellAt h1 _ (by omega)).trans q0, (World.ownsRow.cellAt h1 _ (by omega)).trans q1⟩
        have HSS : Hid (Since y8.heap.size y8 y8) := Since.start y8
        have hml : mo.length ≤ 4194304 := LM.out
        clear hby8 SY7 OA7 OM7 ON7
        rcases HM8.out with hz | ⟨gm, rfl, hcm⟩
        · subst hz
          simp only [List.length_nil] at *
          clear HM8 CQH OA8
          go_wp2
          refine wp_loop_rounds 1 ?_
          rw [rounds_succ]
          go_wp2_with fail
          refine (drawSeqFor_any w.heap.size w _ a1 len1 cap1 HC1.out (by omega) SY8.out).mono ?_
          rintro e t1 ⟨vt, lt, fr, rfl, hot1, hlt1, hst1⟩
          obtain ⟨at1, ct1, rfl⟩ := hot1.shape
          have ST1 : Hid (Since w.heap.size w t1) := hst1
          have OT1 : Hid (OwnHv t1 0 (.slice at1 lt.length ct1) lt) := hot1.mono (Nat.zero_le _)
          obtain ⟨sq, hsq⟩ : ∃ sq, sq = seqOut lt fr := ⟨_, rfl⟩
          obtain ⟨sk, hsk⟩ : ∃ sk, sk = seqOk lt fr := ⟨_, rfl⟩
          have CTI : Hid (∀ W, OwnHv W 0 (.slice at1 lt.length ct1) lt → Calls Try.prog 24 #[.slice at1 lt.length ct1, .int .i64 fr] W fun e W' => e = .returned (.tuple #[.int .i64 sq, .bool sk]) ∧ Below W.heap.size W W') := fun W ho => by rw [hsq, hsk]; exact implSeqFor_any W 0 _ lt fr ho (by omega)
          have CTS : Hid (∀ W, OwnHv W 0 (.slice at1 lt.length ct1) lt → Calls Try.prog 26 #[.slice at1 lt.length ct1, .int .i64 fr] W fun e W' => e = .returned (.tuple #[.int .i64 sq, .bool sk]) ∧ Below W.heap.size W W') := fun W ho => by rw [hsq, hsk]; exact specSeqFor_any W 0 _ lt fr ho (by omega)
          clear hot1 hst1 hlt1 hsq hsk
          go_wp2_with fail
          refine (CTI.out _ OT1.out).mono ?_
          rintro e t2 ⟨rfl, hbt2⟩
          have ST2 : Hid (Since w.heap.size w t2) := ST1.out.step hbt2
          have OT2 : Hid (OwnHv t2 0 (.slice at1 lt.length ct1) lt) := OT1.out.below hbt2
          clear hbt2
          go_wp2_with fail
          refine (CTS.out _ OT2.out).mono ?_
          rintro e t3 ⟨rfl, hbt3⟩
          have ST3 : Hid (Since w.heap.size w t3) := ST2.out.step hbt3
          clear hbt3
          cases sk <;>
            (go_wp2
             go_ret
             exact ⟨rfl, ST3.out.1⟩)
        have HCM : Hid (∀ W', Since y8.heap.size y8 W' → ∀ j (hj : j < mo.length), HvAt W' gm (j * 2) mo[j]) := hcm
        clear hcm HM8
        go_wp2
        go_loopw [202] (fun i wr => ∃ k : Nat, k ≤ mo.length ∧ i = .int .i64 k ∧ Hid (Since y8.heap.size y8 wr)) (fun i _ => mo.length - (intOf i).toNat)
        case atStart => exact ⟨0, Nat.zero_le _, rfl, HSS.out⟩
        case round =>
          obtain ⟨k, hk, rfl, HK⟩ := hrel
          by_cases hlt : k < mo.length
          · obtain ⟨q0, q1⟩ := HCM.out wr HK.out k hlt
            obtain ⟨P, Q, cp, cq, h3, h4, h5⟩ := CQH.out k hlt
            have hlt' : (k : Int) < (mo.length : Int) := by omega
            generalize mo[k] = x at *
            obtain ⟨f, q⟩ := x
            simp only at *
            have CP : Hid (∀ W, OwnHv W 0 (.slice aa la.length ca) la → Calls Try.prog 24 #[.slice aa la.length ca, .int .i64 f] W fun e W' => e = .returned (.tuple #[.int .i64 P, .bool true]) ∧ Below W.heap.size W W') := cp
            have CQ : Hid (∀ W, OwnHv W 0 (.slice ab lb.length cb) lb → Calls Try.prog 24 #[.slice ab lb.length cb, .int .i64 f] W fun e W' => e = .returned (.tuple #[.int .i64 Q, .bool true]) ∧ Below W.heap.size W W') := cq
            clear cp cq
            have HA : Hid (Since y8.heap.size y8 (wr.alloc (.cells #[.int .i64 f, .int .i64 q] 41))) := HK.out.step ((Below.refl _ wr).alloc (Nat.le_refl _) _)
            have HBX : Hid (∀ w', Below (wr.alloc (.cells #[.int .i64 f, .int .i64 q] 41)).heap.size (wr.alloc (.cells #[.int .i64 f, .int .i64 q] 41)) w' → w'.cell? ⟨wr.heap.size, 0, none⟩ = some (.int .i64 f) ∧ w'.cell? ⟨wr.heap.size, 1, none⟩ = some (.int .i64 q)) := fun w' hs => ⟨(hs.cell (p := ⟨wr.heap.size, 0, none⟩) (by simp)).trans (by rw [World.cell?_alloc_at _ _ _ _ rfl]; rfl), (hs.cell (p := ⟨wr.heap.size, 1, none⟩) (by simp)).trans (by rw [World.cell?_alloc_at _ _ _ _ rfl]; rfl)⟩
            clear HK
            go_wp2_with fail
            refine (CP.out _ (OA8.out _ HA.out).1).mono ?_
            rintro e r1 ⟨rfl, hbr1⟩
            have HB1 : Hid (Below (wr.alloc (.cells #[.int .i64 f, .int .i64 q] 41)).heap.size (wr.alloc (.cells #[.int .i64 f, .int .i64 q] 41)) r1) := hbr1
            have SR1 : Hid (Since y8.heap.size y8 r1) := HA.out.step hbr1
            obtain ⟨b0, b1⟩ := HBX.out r1 hbr1
            clear hbr1 HA
            go_wp2_with fail
            refine (CQ.out _ (OA8.out _ SR1.out).2).mono ?_
            rintro e r2 ⟨rfl, hbr2⟩
            have SR2 : Hid (Since y8.heap.size y8 r2) := SR1.out.step hbr2
            obtain ⟨d0, d1⟩ := HBX.out r2 (HB1.out.trans (hbr2.mono HB1.out.size))
            clear hbr2 HB1 SR1 HBX b0 b1 CP CQ q0 q1
            have n5 : ¬ (q < Q) := by omega
            have n4 : ¬ (q < P) := by omega
            by_cases e1 : q = P
            · subst e1
              clear h3 h4 n4
              go_wp2
              go_roundw
              case rel => exact ⟨k + 1, by omega, by go_num, SR2.out⟩
              case measure => simp [intOf]; omega
            · have e2 : q = Q := by omega
              subst e2
              have hd1 : decide (q = P) = false := decide_eq_false e1
              clear h3 h5 n5
              go_wp2
              go_roundw
              case rel => exact ⟨k + 1, by omega, by go_num, SR2.out⟩
              case measure => simp [intOf]; omega
          · have hlt' : ¬ (k : Int) < (mo.length : Int) := by omega
            have e : k = mo.length := by omega
            subst e
            have SZ : Hid (Since w.heap.size w wr) := SY8.out.tran HK.out
            clear HK CQH HCM OA8 SY8 HSS
            go_wp2_with fail
            refine (drawSeqFor_any w.heap.size w _ a1 len1 cap1 HC1.out (by omega) SZ.out).mono ?_
            rintro e t1 ⟨vt, lt, fr, rfl, hot1, hlt1, hst1⟩
            obtain ⟨at1, ct1, rfl⟩ := hot1.shape
            have ST1 : Hid (Since w.heap.size w t1) := hst1
            have OT1 : Hid (OwnHv t1 0 (.slice at1 lt.length ct1) lt) := hot1.mono (Nat.zero_le _)
            obtain ⟨sq, hsq⟩ : ∃ sq, sq = seqOut lt fr := ⟨_, rfl⟩
            obtain ⟨sk, hsk⟩ : ∃ sk, sk = seqOk lt fr := ⟨_, rfl⟩
            have CTI : Hid (∀ W, OwnHv W 0 (.slice at1 lt.length ct1) lt → Calls Try.prog 24 #[.slice at1 lt.length ct1, .int .i64 fr] W fun e W' => e = .returned (.tuple #[.int .i64 sq, .bool sk]) ∧ Below W.heap.size W W') := fun W ho => by rw [hsq, hsk]; exact implSeqFor_any W 0 _ lt fr ho (by omega)
            have CTS : Hid (∀ W, OwnHv W 0 (.slice at1 lt.length ct1) lt → Calls Try.prog 26 #[.slice at1 lt.length ct1, .int .i64 fr] W fun e W' => e = .returned (.tuple #[.int .i64 sq, .bool sk]) ∧ Below W.heap.size W W') := fun W ho => by rw [hsq, hsk]; exact specSeqFor_any W 0 _ lt fr ho (by omega)
            clear hot1 hst1 hlt1 hsq hsk
            go_wp2_with fail
            refine (CTI.out _ OT1.out).mono ?_
            rintro e t2 ⟨rfl, hbt2⟩
            have ST2 : Hid (Since w.heap.size w t2) := ST1.out.step hbt2
            have OT2 : Hid (OwnHv t2 0 (.slice at1 lt.length ct1) lt) := OT1.out.below hbt2
            clear hbt2
            go_wp2_with fail
            refine (CTS.out _ OT2.out).mono ?_
            rintro e t3 ⟨rfl, hbt3⟩
            have ST3 : Hid (Since w.heap.size w t3) := ST2.out.step hbt3
            clear hbt3
            cases sk <;>
              (go_wp2
               go_ret
               exact ⟨rfl, ST3.out.1⟩)
     | true =>
      have hpt := HPT.out (by first | rfl | trivial)
      have HP1 : Hid (∀ j (hj : j < ss.length), goodSm ss[j] = true ∧ ss[j].Lo = nextLo 1 (ss.take j) ∧ (ss[j].Hs.length : Int) ≤ most) := hpt.1
      have HP2 : Hid (allHs ss = l ∧ nextLo 1 ss = 1001) := hpt.2
      have HV : Hid (SmsLie wr g1 ss) := HL1.out.below HK.out
      have HLW : Hid (LiesHv wr (.slice al l.length cl) l) := OL3.out.below HK.out.1
      have HAL : Hid (∀ j, (allHs (ss.take j)).length ≤ 1000) := fun j => by
        have h1 := allHs_len 30 (ss.take j) (fun s hs => HSM.out.2 s (List.mem_of_mem_take hs))
        have h2 := HSM.out.1
        rw [List.length_take] at h1
        omega
      have HZ : Hid (OwnHv wr wr.heap.size (.slice none 0 0) (allHs (ss.take 0))) := by show OwnHv _ _ _ _; simp only [List.take_zero]; exact OwnHv.nil _ _
      clear hpt HPT HL1 HL2 HK OL3
      generalize wr = wo at *
      go_wp2
      go_loopw [12, 13, 116] (fun al' nx i wr => ∃ (k : Nat) (x : Option Addr) (y : Nat), k ≤ ss.length ∧ i = .int .i64 k ∧ nx = .int .i64 (nextLo 1 (ss.take k)) ∧ al' = .slice x (allHs (ss.take k)).length y ∧ Hid (OwnHv wr wo.heap.size (.slice x (allHs (ss.take k)).length y) (allHs (ss.take k)) ∧ Since wo.heap.size wo wr)) (fun _ _ i _ => ss.length - (intOf i).toNat)
      case atStart => exact ⟨0, none, 0, Nat.zero_le _, rfl, rfl, rfl, HZ.out, Since.start _⟩
      case round =>
       clear HZ
       obtain ⟨k, x, y, hk, rfl, rfl, rfl, HK⟩ := hrel
       by_cases hlt : k < ss.length
       · obtain ⟨xv, yv, hxv⟩ := HV.out k hlt
         obtain ⟨hgd, hlo, hle⟩ := HP1.out k hlt
         have hlt' : (k : Int) < (ss.length : Int) := by omega
         have HNA : Hid (allHs (ss.take (k + 1)) = allHs (ss.take k) ++ ss[k].Hs) := by show _ = _; rw [List.take_succ_eq_append_getElem hlt, allHs_snoc]
         have HNL : Hid (nextLo 1 (ss.take (k + 1)) = ss[k].Hi + 1) := by show _ = _; rw [List.take_succ_eq_append_getElem hlt, nextLo_snoc]
         have hal := HAL.out k
         have hal2 := HAL.out (k + 1)
         rw [HNA.out, List.length_append] at hal2
         have HA1 : Hid (allHs (ss.take (k + 1)) = allHs (ss.take (k + 1))) := rfl
         generalize hna : allHs (ss.take (k + 1)) = nal at *
         generalize hnl : nextLo 1 (ss.take (k + 1)) = nnl at *
         generalize allHs (ss.take k) = oal at *
         generalize nextLo 1 (ss.take k) = onl at *
         generalize ss[k] = s at *
         obtain ⟨lo, hi, hs⟩ := s
         simp only at *
         subst hlo
         have hg2 := (goodSm_true hgd).2.1
         simp only at hg2
         have hhi1 : lo ≤ hi := hg2.2.1
         have hhi2 : hi ≤ 1000 := hg2.2.2
         have hhi3 : 1 ≤ lo := hg2.1
         have hmo : ¬ (most < (hs.length : Int)) := by omega
         obtain ⟨p1, p2, p3, -⟩ := hxv wr HK.out.2
         have HLS : Hid (∀ w', Since wr.heap.size wr w' → LiesHv w' (.slice xv hs.length yv) hs) := fun w' h => (hxv w' (HK.out.2.tran h)).2.2.2
         have CG : Hid (∀ w', Since wr.heap.size wr w' → Calls Try.prog 14 #[.agg #[.int .i64 lo, .int .i64 hi, .slice xv hs.length yv]] w' fun e W' => e = .returned (.bool true) ∧ Below w'.heap.size w' W') := fun w' h => by
           have := implGoodSm_any w' _ ⟨lo, hi, hs⟩ (HLS.out w' h) (by simp only; omega)
           rw [hgd] at this
           exact this
         have SB : Hid (Since wr.heap.size wr (wr.alloc (.cells #[.int .i64 lo, .int .i64 hi, .slice xv hs.length yv] 32))) := (Since.start wr).step ((Below.refl _ wr).alloc (Nat.le_refl _) _)
         have HBX : Hid (∀ w', Below (wr.alloc (.cells #[.int .i64 lo, .int .i64 hi, .slice xv hs.length yv] 32)).heap.size (wr.alloc (.cells #[.int .i64 lo, .int .i64 hi, .slice xv hs.length yv] 32)) w' → w'.cell? ⟨wr.heap.size, 0, none⟩ = some (.int .i64 lo) ∧ w'.cell? ⟨wr.heap.size, 1, none⟩ = some (.int .i64 hi) ∧ w'.cell? ⟨wr.heap.size, 2, none⟩ = some (.slice xv hs.length yv)) := fun w' hb => ⟨(hb.cell (p := ⟨wr.heap.size, 0, none⟩) (by simp)).trans (by rw [World.cell?_alloc_at _ _ _ _ rfl]; rfl), (hb.cell (p := ⟨wr.heap.size, 1, none⟩) (by simp)).trans (by rw [World.cell?_alloc_at _ _ _ _ rfl]; rfl), (hb.cell (p := ⟨wr.heap.size, 2, none⟩) (by simp)).trans (by rw [World.cell?_alloc_at _ _ _ _ rfl]; rfl)⟩
         clear hxv hgd hg2
         go_wp2_with fail
         refine (CG.out _ SB.out).mono ?_
         rintro e r1 ⟨rfl, hbr1⟩
         obtain ⟨b0, b1, b2⟩ := HBX.out r1 hbr1
         have SR : Hid (Since wr.heap.size wr r1) := SB.out.step hbr1
         have OR : Hid (OwnHv r1 wo.heap.size (.slice x oal.length y) oal) := HK.out.1.below SR.out.1
         have LR : Hid (LiesHv r1 (.slice xv hs.length yv) hs) := HLS.out r1 SR.out
         have SO : Hid (Since wo.heap.size wo r1) := HK.out.2.tran SR.out
         clear hbr1 CG SB HBX HLS SR HK p1 p2 p3
         have hol3 : oal.length + hs.length ≤ 2097152 := by omega
         have HC : Hid (∀ ty, ∃ v' w', (Builtin.append_ #[23, 23] ty #[.slice x oal.length y, .slice xv hs.length yv]).run Try.prog r1 = .ok v' w' ∧ Grown r1 wo.heap.size 41 2 (.slice x oal.length y) (oal ++ hs).length (cellsHv (oal ++ hs)) v' w') := fun ty => run_appHv r1 wo.heap.size _ oal OR.out _ hs LR.out.src hol3 SO.out.2 ty
         go_wp2_with (at_builtin; refine list_app (by rfl) (.tmp 139) (.tmp 141) 23 (by rfl) (.slice x oal.length y) (.slice xv hs.length yv) (by rfl) (by rfl) _ HC.out ?_; intro v7 w7 hg7; have HF : Hid (OwnHv w7 wo.heap.size v7 (oal ++ hs) ∧ Since wo.heap.size wo w7) := ⟨hg7.own, SO.out.1.trans hg7.below, Nat.le_trans SO.out.2 hg7.size⟩; clear hg7; obtain ⟨x7, y7, rfl⟩ := HF.out.1.shape)
         go_roundw
         case rel => exact ⟨k + 1, x7, y7, by omega, by go_num, by rw [hnl, HNL.out], by rw [hna, HNA.out, List.length_append], by rw [hna, HNA.out]; exact HF.out⟩
         case measure => simp [intOf]; omega
       · have hlt' : ¬ (k : Int) < (ss.length : Int) := by omega
         have e : k = ss.length := by omega
         subst e
         simp only [List.take_length] at HK ⊢
         rw [HP2.out.1] at HK ⊢
         rw [HP2.out.2]
         have SF : Hid (Since w.heap.size w wr) := SZ.out.tran HK.out.2
         have hll : l.length ≤ 30 := HLL.out
         go_wp2_with fail
         refine (sameHvs_same _ _ _ l HK.out.1.reads (HLW.out.below HK.out.2.1).reads (by omega)).mono ?_
         rintro e r9 ⟨rfl, hbr9⟩
         have SG : Hid (Since w.heap.size w r9) := SF.out.step hbr9
         clear hbr9 SF SZ HK HP1 HP2 HV HLW HAL HSM
         go_wp2_with fail
         refine (drawMergeHaves_any w.heap.size w _ a1 len1 cap1 HC1.out (by omega) SG.out).mono ?_
         rintro e y1 ⟨va, la, vb, lb, rfl, hoa, hla, hob, hlb, hsy1⟩
         obtain ⟨aa, ca, rfl⟩ := hoa.shape
         obtain ⟨ab, cb, rfl⟩ := hob.shape
         have SY1 : Hid (Since w.heap.size w y1) := hsy1
         have OA1 : Hid (OwnHv y1 0 (.slice aa la.length ca) la ∧ OwnHv y1 0 (.slice ab lb.length cb) lb) := ⟨hoa.mono (Nat.zero_le _), hob.mono (Nat.zero_le _)⟩
         obtain ⟨mo, hmo⟩ : ∃ mo, mo = mrgOut la lb := ⟨_, rfl⟩
         obtain ⟨mk, hmk⟩ : ∃ mk, mk = mrgOk la lb := ⟨_, rfl⟩
         obtain ⟨ga, hga⟩ : ∃ ga, ga = goodHv la := ⟨_, rfl⟩
         have CMI : Hid (∀ W, OwnHv W 0 (.slice aa la.length ca) la → OwnHv W 0 (.slice ab lb.length cb) lb → Calls Try.prog 9 #[.slice aa la.length ca, .slice ab lb.length cb] W (MrgPost W mo mk)) := fun W h1 h2 => by rw [hmo, hmk]; exact implMergeHaves_any W 0 _ _ la lb h1 h2 (by omega) (by omega)
         have CMS : Hid (∀ W, OwnHv W 0 (.slice aa la.length ca) la → OwnHv W 0 (.slice ab lb.length cb) lb → Calls Try.prog 21 #[.slice aa la.length ca, .slice ab lb.length cb] W (MrgPost W mo mk)) := fun W h1 h2 => by rw [hmo, hmk]; exact specMergeHaves_any W 0 _ _ la lb h1 h2 (by omega) (by omega)
         have CMT : Hid (mk = true → ∀ W, OwnHv W 0 (.slice aa la.length ca) la → OwnHv W 0 (.slice ab lb.length cb) lb → Calls Try.prog 9 #[.slice ab lb.length cb, .slice aa la.length ca] W (MrgPost W mo true)) := fun hk W h1 h2 => by
           rw [hmk] at hk
           have := implMergeHaves_any W 0 _ _ lb la h2 h1 (by omega) (by omega)
           rw [(mrg_turn hk).1, (mrg_turn hk).2, ← hmo] at this
           exact this
         have CGI : Hid (∀ W, OwnHv W 0 (.slice aa la.length ca) la → Calls Try.prog 22 #[.slice aa la.length ca] W fun e W' => e = .returned (.bool ga) ∧ Below W.heap.size W W') := fun W h1 => by rw [hga]; exact implGoodHv_any W _ la h1.reads (by omega)
         have CGS : Hid (∀ W, OwnHv W 0 (.slice aa la.length ca) la → Calls Try.prog 23 #[.slice aa la.length ca] W fun e W' => e = .returned (.bool ga) ∧ Below W.heap.size W W') := fun W h1 => by rw [hga]; exact specGoodHv_any W _ la h1.reads (by omega)
         have CQA : Hid (mk = true → ∀ j (hj : j < mo.length), ∃ P Q, (∀ W, OwnHv W 0 (.slice aa la.length ca) la → Calls Try.prog 24 #[.slice aa la.length ca, .int .i64 mo[j].From] W fun e W' => e = .returned (.tuple #[.int .i64 P, .bool true]) ∧ Below W.heap.size W W') ∧ (∀ W, OwnHv W 0 (.slice ab lb.length cb) lb → Calls Try.prog 24 #[.slice ab lb.length cb, .int .i64 mo[j].From] W fun e W' => e = .returned (.tuple #[.int .i64 Q, .bool true]) ∧ Below W.heap.size W W') ∧ (mo[j].Seq = P ∨ mo[j].Seq = Q) ∧ P ≤ mo[j].Seq ∧ Q ≤ mo[j].Seq) := fun hk j hj => by
           rw [hmk] at hk
           subst hmo
           obtain ⟨s1, s2, s3, s4, s5⟩ := mrg_seq hk j hj
           refine ⟨_, _, fun W h1 => ?_, fun W h1 => ?_, s3, s4, s5⟩
           · have := implSeqFor_any W 0 _ la (mrgOut la lb)[j].From h1 (by omega)
             rw [s1] at this
             exact this
           · have := implSeqFor_any W 0 _ lb (mrgOut la lb)[j].From h1 (by omega)
             rw [s2] at this
             exact this
         have LM : Hid (mo.length ≤ 4194304) := by show _ ≤ _; rw [hmo]; exact mrgOut_len la lb
         clear hoa hob hsy1 hla hlb hmo hmk hga
         go_wp2_with fail
         refine (CMI.out _ OA1.out.1 OA1.out.2).mono ?_
         rintro e y2 ⟨vm, rfl, hom, hby2⟩
         obtain ⟨am, cm, rfl⟩ := hom.shape
         have SY2 : Hid (Since w.heap.size w y2) := SY1.out.step hby2
         have OA2 : Hid (OwnHv y2 0 (.slice aa la.length ca) la ∧ OwnHv y2 0 (.slice ab lb.length cb) lb) := ⟨OA1.out.1.below hby2, OA1.out.2.below hby2⟩
         have OM2 : Hid (OwnHv y2 0 (.slice am mo.length cm) mo) := hom.mono (Nat.zero_le _)
         clear hom hby2 SY1 OA1
         go_wp2_with fail
         refine (CMS.out _ OA2.out.1 OA2.out.2).mono ?_
         rintro e y3 ⟨vn, rfl, hon, hby3⟩
         obtain ⟨an, cn, rfl⟩ := hon.shape
         have SY3 : Hid (Since w.heap.size w y3) := SY2.out.step hby3
         have OA3 : Hid (OwnHv y3 0 (.slice aa la.length ca) la ∧ OwnHv y3 0 (.slice ab lb.length cb) lb) := ⟨OA2.out.1.below hby3, OA2.out.2.below hby3⟩
         have OM3 : Hid (OwnHv y3 0 (.slice am mo.length cm) mo) := OM2.out.below hby3
         have ON3 : Hid (OwnHv y3 0 (.slice an mo.length cn) mo) := hon.mono (Nat.zero_le _)
         clear hon hby3 SY2 OA2 OM2
         go_wp2_with fail
         refine (sameHvs_same _ _ _ mo OM3.out.reads ON3.out.reads LM.out).mono ?_
         rintro e y4 ⟨rfl, hby4⟩
         have SY4 : Hid (Since w.heap.size w y4) := SY3.out.step hby4
         have OA4 : Hid (OwnHv y4 0 (.slice aa la.length ca) la ∧ OwnHv y4 0 (.slice ab lb.length cb) lb) := ⟨OA3.out.1.below hby4, OA3.out.2.below hby4⟩
         have OM4 : Hid (OwnHv y4 0 (.slice am mo.length cm) mo) := OM3.out.below hby4
         clear hby4 SY3 OA3 OM3 ON3
         go_wp2_with fail
         refine (CGI.out _ OA4.out.1).mono ?_
         rintro e y5 ⟨rfl, hby5⟩
         have SY5 : Hid (Since w.heap.size w y5) := SY4.out.step hby5
         have OA5 : Hid (OwnHv y5 0 (.slice aa la.length ca) la ∧ OwnHv y5 0 (.slice ab lb.length cb) lb) := ⟨OA4.out.1.below hby5, OA4.out.2.below hby5⟩
         have OM5 : Hid (OwnHv y5 0 (.slice am mo.length cm) mo) := OM4.out.below hby5
         clear hby5 SY4 OA4 OM4
         go_wp2_with fail
         refine (CGS.out _ OA5.out.1).mono ?_
         rintro e y6 ⟨rfl, hby6⟩
         have SY6 : Hid (Since w.heap.size w y6) := SY5.out.step hby6
         have OA6 : Hid (OwnHv y6 0 (.slice aa la.length ca) la ∧ OwnHv y6 0 (.slice ab lb.length cb) lb) := ⟨OA5.out.1.below hby6, OA5.out.2.below hby6⟩
         have OM6 : Hid (OwnHv y6 0 (.slice am mo.length cm) mo) := OM5.out.below hby6
         clear hby6 SY5 OA5 OM5
         cases mk with
         | false =>
           clear CMI CMS CMT CGI CGS CQA OA6 OM6
           go_wp2_with fail
           refine (drawSeqFor_any w.heap.size w _ a1 len1 cap1 HC1.out (by omega) SY6.out).mono ?_
           rintro e t1 ⟨vt, lt, fr, rfl, hot1, hlt1, hst1⟩
           obtain ⟨at1, ct1, rfl⟩ := hot1.shape
           have ST1 : Hid (Since w.heap.size w t1) := hst1
           have OT1 : Hid (OwnHv t1 0 (.slice at1 lt.length ct1) lt) := hot1.mono (Nat.zero_le _)
           obtain ⟨sq, hsq⟩ : ∃ sq, sq = seqOut lt fr := ⟨_, rfl⟩
           obtain ⟨sk, hsk⟩ : ∃ sk, sk = seqOk lt fr := ⟨_, rfl⟩
           have CTI : Hid (∀ W, OwnHv W 0 (.slice at1 lt.length ct1) lt → Calls Try.prog 24 #[.slice at1 lt.length ct1, .int .i64 fr] W fun e W' => e = .returned (.tuple #[.int .i64 sq, .bool sk]) ∧ Below W.heap.size W W') := fun W ho => by rw [hsq, hsk]; exact implSeqFor_any W 0 _ lt fr ho (by omega)
           have CTS : Hid (∀ W, OwnHv W 0 (.slice at1 lt.length ct1) lt → Calls Try.prog 26 #[.slice at1 lt.length ct1, .int .i64 fr] W fun e W' => e = .returned (.tuple #[.int .i64 sq, .bool sk]) ∧ Below W.heap.size W W') := fun W ho => by rw [hsq, hsk]; exact specSeqFor_any W 0 _ lt fr ho (by omega)
           clear hot1 hst1 hlt1 hsq hsk
           go_wp2_with fail
           refine (CTI.out _ OT1.out).mono ?_
           rintro e t2 ⟨rfl, hbt2⟩
           have ST2 : Hid (Since w.heap.size w t2) := ST1.out.step hbt2
           have OT2 : Hid (OwnHv t2 0 (.slice at1 lt.length ct1) lt) := OT1.out.below hbt2
           clear hbt2
           go_wp2_with fail
           refine (CTS.out _ OT2.out).mono ?_
           rintro e t3 ⟨rfl, hbt3⟩
           have ST3 : Hid (Since w.heap.size w t3) := ST2.out.step hbt3
           clear hbt3
           cases sk <;>
             (go_wp2
              go_ret
              exact ⟨rfl, ST3.out.1⟩)
         | true =>
           have CMT2 := CMT.out (by first | rfl | trivial)
           have CMTH : Hid (∀ W, OwnHv W 0 (.slice aa la.length ca) la → OwnHv W 0 (.slice ab lb.length cb) lb → Calls Try.prog 9 #[.slice ab lb.length cb, .slice aa la.length ca] W (MrgPost W mo true)) := CMT2
           have CQ2 := CQA.out (by first | rfl | trivial)
           have CQH : Hid (∀ j (hj : j < mo.length), ∃ P Q, (∀ W, OwnHv W 0 (.slice aa la.length ca) la → Calls Try.prog 24 #[.slice aa la.length ca, .int .i64 mo[j].From] W fun e W' => e = .returned (.tuple #[.int .i64 P, .bool true]) ∧ Below W.heap.size W W') ∧ (∀ W, OwnHv W 0 (.slice ab lb.length cb) lb → Calls Try.prog 24 #[.slice ab lb.length cb, .int .i64 mo[j].From] W fun e W' => e = .returned (.tuple #[.int .i64 Q, .bool true]) ∧ Below W.heap.size W W') ∧ (mo[j].Seq = P ∨ mo[j].Seq = Q) ∧ P ≤ mo[j].Seq ∧ Q ≤ mo[j].Seq) := CQ2
           clear CMT CQA CMT2 CQ2 CMI CMS CGI CGS
           go_wp2_with fail
           refine (CMTH.out _ OA6.out.1 OA6.out.2).mono ?_
           rintro e y7 ⟨vo, rfl, hoo, hby7⟩
           obtain ⟨ao, co, rfl⟩ := hoo.shape
           have SY7 : Hid (Since w.heap.size w y7) := SY6.out.step hby7
           have OA7 : Hid (OwnHv y7 0 (.slice aa la.length ca) la ∧ OwnHv y7 0 (.slice ab lb.length cb) lb) := ⟨OA6.out.1.below hby7, OA6.out.2.below hby7⟩
           have OM7 : Hid (OwnHv y7 0 (.slice am mo.length cm) mo) := OM6.out.below hby7
           have ON7 : Hid (OwnHv y7 0 (.slice ao mo.length co) mo) := hoo.mono (Nat.zero_le _)
           clear hoo hby7 SY6 OA6 OM6 CMTH
           go_wp2_with fail
           refine (sameHvs_same _ _ _ mo ON7.out.reads OM7.out.reads LM.out).mono ?_
           rintro e y8 ⟨rfl, hby8⟩
           have SY8 : Hid (Since w.heap.size w y8) := SY7.out.step hby8
           have OA8 : Hid (∀ W', Since y8.heap.size y8 W' → OwnHv W' 0 (.slice aa la.length ca) la ∧ OwnHv W' 0 (.slice ab lb.length cb) lb) := fun W' hs => ⟨(OA7.out.1.below hby8).below hs.1, (OA7.out.2.below hby8).below hs.1⟩
           have HM8 : Hid (mo = [] ∨ ∃ g, am = some ⟨g, 0, none⟩ ∧ ∀ W', Since y8.heap.size y8 W' → ∀ j (hj : j < mo.length), HvAt W' g (j * 2) mo[j]) := by
             have h := OM7.out.below hby8
             by_cases hz : mo = []
             · exact .inl hz
             · obtain ⟨g, cg, e6⟩ : ∃ g cap, Value.slice am mo.length cm = .slice (some ⟨g, 0, none⟩) mo.length cap := by
                 rcases h.2 with ⟨hv, hn0⟩ | ⟨g, cap, cur, hv, -⟩
                 · exact absurd (List.eq_nil_of_length_eq_zero hn0) hz
                 · exact ⟨g, cap, hv⟩
               obtain ⟨rfl, rfl⟩ : am = some ⟨g, 0, none⟩ ∧ cm = cg := by simpa using e6
               refine .inr ⟨g, rfl, fun W' hs j hj => ?_⟩
               have h1 := h.below hs.1
               obtain ⟨q0, q1⟩ := cellsHv_get mo j hj
               exact ⟨(World.ownsRow.cellAt h1 _ (by omega)).trans q0, (World.ownsRow.cellAt h1 _ (by omega)).trans q1⟩
           have HSS : Hid (Since y8.heap.size y8 y8) := Since.start y8
           have hml : mo.length ≤ 4194304 := LM.out
           clear hby8 SY7 OA7 OM7 ON7
           rcases HM8.out with hz | ⟨gm, rfl, hcm⟩
           · subst hz
             simp only [List.length_nil] at *
             clear HM8 CQH OA8
             go_wp2
             refine wp_loop_rounds 1 ?_
             rw [rounds_succ]
             go_wp2_with fail
             refine (drawSeqFor_any w.heap.size w _ a1 len1 cap1 HC1.out (by omega) SY8.out).mono ?_
             rintro e t1 ⟨vt, lt, fr, rfl, hot1, hlt1, hst1⟩
             obtain ⟨at1, ct1, rfl⟩ := hot1.shape
             have ST1 : Hid (Since w.heap.size w t1) := hst1
             have OT1 : Hid (OwnHv t1 0 (.slice at1 lt.length ct1) lt) := hot1.mono (Nat.zero_le _)
             obtain ⟨sq, hsq⟩ : ∃ sq, sq = seqOut lt fr := ⟨_, rfl⟩
             obtain ⟨sk, hsk⟩ : ∃ sk, sk = seqOk lt fr := ⟨_, rfl⟩
             have CTI : Hid (∀ W, OwnHv W 0 (.slice at1 lt.length ct1) lt → Calls Try.prog 24 #[.slice at1 lt.length ct1, .int .i64 fr] W fun e W' => e = .returned (.tuple #[.int .i64 sq, .bool sk]) ∧ Below W.heap.size W W') := fun W ho => by rw [hsq, hsk]; exact implSeqFor_any W 0 _ lt fr ho (by omega)
             have CTS : Hid (∀ W, OwnHv W 0 (.slice at1 lt.length ct1) lt → Calls Try.prog 26 #[.slice at1 lt.length ct1, .int .i64 fr] W fun e W' => e = .returned (.tuple #[.int .i64 sq, .bool sk]) ∧ Below W.heap.size W W') := fun W ho => by rw [hsq, hsk]; exact specSeqFor_any W 0 _ lt fr ho (by omega)
             clear hot1 hst1 hlt1 hsq hsk
             go_wp2_with fail
             refine (CTI.out _ OT1.out).mono ?_
             rintro e t2 ⟨rfl, hbt2⟩
             have ST2 : Hid (Since w.heap.size w t2) := ST1.out.step hbt2
             have OT2 : Hid (OwnHv t2 0 (.slice at1 lt.length ct1) lt) := OT1.out.below hbt2
             clear hbt2
             go_wp2_with fail
             refine (CTS.out _ OT2.out).mono ?_
             rintro e t3 ⟨rfl, hbt3⟩
             have ST3 : Hid (Since w.heap.size w t3) := ST2.out.step hbt3
             clear hbt3
             cases sk <;>
               (go_wp2
                go_ret
                exact ⟨rfl, ST3.out.1⟩)
           have HCM : Hid (∀ W', Since y8.heap.size y8 W' → ∀ j (hj : j < mo.length), HvAt W' gm (j * 2) mo[j]) := hcm
           clear hcm HM8
           go_wp2
           go_loopw [202] (fun i wr => ∃ k : Nat, k ≤ mo.length ∧ i = .int .i64 k ∧ Hid (Since y8.heap.size y8 wr)) (fun i _ => mo.length - (intOf i).toNat)
           case atStart => exact ⟨0, Nat.zero_le _, rfl, HSS.out⟩
           case round =>
             obtain ⟨k, hk, rfl, HK⟩ := hrel
             by_cases hlt : k < mo.length
             · obtain ⟨q0, q1⟩ := HCM.out wr HK.out k hlt
               obtain ⟨P, Q, cp, cq, h3, h4, h5⟩ := CQH.out k hlt
               have hlt' : (k : Int) < (mo.length : Int) := by omega
               generalize mo[k] = x at *
               obtain ⟨f, q⟩ := x
               simp only at *
               have CP : Hid (∀ W, OwnHv W 0 (.slice aa la.length ca) la → Calls Try.prog 24 #[.slice aa la.length ca, .int .i64 f] W fun e W' => e = .returned (.tuple #[.int .i64 P, .bool true]) ∧ Below W.heap.size W W') := cp
               have CQ : Hid (∀ W, OwnHv W 0 (.slice ab lb.length cb) lb → Calls Try.prog 24 #[.slice ab lb.length cb, .int .i64 f] W fun e W' => e = .returned (.tuple #[.int .i64 Q, .bool true]) ∧ Below W.heap.size W W') := cq
               clear cp cq
               have HA : Hid (Since y8.heap.size y8 (wr.alloc (.cells #[.int .i64 f, .int .i64 q] 41))) := HK.out.step ((Below.refl _ wr).alloc (Nat.le_refl _) _)
               have HBX : Hid (∀ w', Below (wr.alloc (.cells #[.int .i64 f, .int .i64 q] 41)).heap.size (wr.alloc (.cells #[.int .i64 f, .int .i64 q] 41)) w' → w'.cell? ⟨wr.heap.size, 0, none⟩ = some (.int .i64 f) ∧ w'.cell? ⟨wr.heap.size, 1, none⟩ = some (.int .i64 q)) := fun w' hs => ⟨(hs.cell (p := ⟨wr.heap.size, 0, none⟩) (by simp)).trans (by rw [World.cell?_alloc_at _ _ _ _ rfl]; rfl), (hs.cell (p := ⟨wr.heap.size, 1, none⟩) (by simp)).trans (by rw [World.cell?_alloc_at _ _ _ _ rfl]; rfl)⟩
               clear HK
               go_wp2_with fail
               refine (CP.out _ (OA8.out _ HA.out).1).mono ?_
               rintro e r1 ⟨rfl, hbr1⟩
               have HB1 : Hid (Below (wr.alloc (.cells #[.int .i64 f, .int .i64 q] 41)).heap.size (wr.alloc (.cells #[.int .i64 f, .int .i64 q] 41)) r1) := hbr1
               have SR1 : Hid (Since y8.heap.size y8 r1) := HA.out.step hbr1
               obtain ⟨b0, b1⟩ := HBX.out r1 hbr1
               clear hbr1 HA
               go_wp2_with fail
               refine (CQ.out _ (OA8.out _ SR1.out).2).mono ?_
               rintro e r2 ⟨rfl, hbr2⟩
               have SR2 : Hid (Since y8.heap.size y8 r2) := SR1.out.step hbr2
               obtain ⟨d0, d1⟩ := HBX.out r2 (HB1.out.trans (hbr2.mono HB1.out.size))
               clear hbr2 HB1 SR1 HBX b0 b1 CP CQ q0 q1
               have n5 : ¬ (q < Q) := by omega
               have n4 : ¬ (q < P) := by omega
               by_cases e1 : q = P
               · subst e1
                 clear h3 h4 n4
                 go_wp2
                 go_roundw
                 case rel => exact ⟨k + 1, by omega, by go_num, SR2.out⟩
                 case measure => simp [intOf]; omega
               · have e2 : q = Q := by omega
                 subst e2
                 have hd1 : decide (q = P) = false := decide_eq_false e1
                 clear h3 h5 n5
                 go_wp2
                 go_roundw
                 case rel => exact ⟨k + 1, by omega, by go_num, SR2.out⟩
                 case measure => simp [intOf]; omega
             · have hlt' : ¬ (k : Int) < (mo.length : Int) := by omega
               have e : k = mo.length := by omega
               subst e
               have SZ : Hid (Since w.heap.size w wr) := SY8.out.tran HK.out
               clear HK CQH HCM OA8 SY8 HSS
               go_wp2_with fail
               refine (drawSeqFor_any w.heap.size w _ a1 len1 cap1 HC1.out (by omega) SZ.out).mono ?_
               rintro e t1 ⟨vt, lt, fr, rfl, hot1, hlt1, hst1⟩
               obtain ⟨at1, ct1, rfl⟩ := hot1.shape
               have ST1 : Hid (Since w.heap.size w t1) := hst1
               have OT1 : Hid (OwnHv t1 0 (.slice at1 lt.length ct1) lt) := hot1.mono (Nat.zero_le _)
               obtain ⟨sq, hsq⟩ : ∃ sq, sq = seqOut lt fr := ⟨_, rfl⟩
               obtain ⟨sk, hsk⟩ : ∃ sk, sk = seqOk lt fr := ⟨_, rfl⟩
               have CTI : Hid (∀ W, OwnHv W 0 (.slice at1 lt.length ct1) lt → Calls Try.prog 24 #[.slice at1 lt.length ct1, .int .i64 fr] W fun e W' => e = .returned (.tuple #[.int .i64 sq, .bool sk]) ∧ Below W.heap.size W W') := fun W ho => by rw [hsq, hsk]; exact implSeqFor_any W 0 _ lt fr ho (by omega)
               have CTS : Hid (∀ W, OwnHv W 0 (.slice at1 lt.length ct1) lt → Calls Try.prog 26 #[.slice at1 lt.length ct1, .int .i64 fr] W fun e W' => e = .returned (.tuple #[.int .i64 sq, .bool sk]) ∧ Below W.heap.size W W') := fun W ho => by rw [hsq, hsk]; exact specSeqFor_any W 0 _ lt fr ho (by omega)
               clear hot1 hst1 hlt1 hsq hsk
               go_wp2_with fail
               refine (CTI.out _ OT1.out).mono ?_
               rintro e t2 ⟨rfl, hbt2⟩
               have ST2 : Hid (Since w.heap.size w t2) := ST1.out.step hbt2
               have OT2 : Hid (OwnHv t2 0 (.slice at1 lt.length ct1) lt) := OT1.out.below hbt2
               clear hbt2
               go_wp2_with fail
               refine (CTS.out _ OT2.out).mono ?_
               rintro e t3 ⟨rfl, hbt3⟩
               have ST3 : Hid (Since w.heap.size w t3) := ST2.out.step hbt3
               clear hbt3
               cases sk <;>
                 (go_wp2
                  go_ret
                  exact ⟨rfl, ST3.out.1⟩)
end fnHaves
end Go.Proofs.Ytkpdiojomgiocac
