/-
  'SettlePair' of the model: the walk.
-/
import Derived.Test.YtchddjidjfpehaaSettleS
namespace Go.Proofs.Ytchddjidjfpehaa
open Go.RowKit

set_option maxRecDepth 100000 in
set_option maxHeartbeats 4000000 in
theorem specSettle_any (W : World) (B : Nat) (x y z : Value) (p : PR) (h : Own3 W B x y z p) (h1 : p.st.length ≤ 1048576) (h2 : p.lf.length ≤ 1048576) (h3 : p.ln.length ≤ 1048576) :
    Calls Try.prog 33 #[.agg #[x, y, z]] W fun e W' => ∃ x' y' z', e = .returned (.tuple #[.agg #[x', y', z'], .bool (goodPr p)]) ∧ Own3 W' W.heap.size x' y' z' (settleOut p) ∧ Below W.heap.size W W' := by
  obtain ⟨a1, c1, rfl⟩ := h.st.shape
  obtain ⟨a2, c2, rfl⟩ := h.lf.shape
  obtain ⟨a3, c3, rfl⟩ := h.ln.shape
  have HR : Hid (∀ W1, Since W.heap.size W W1 → Own3 W1 B (.slice a1 p.st.length c1) (.slice a2 p.lf.length c2) (.slice a3 p.ln.length c3) p) := fun W1 hb => h.below hb.1
  have HS0 : Hid (Since W.heap.size W ((W.alloc (.cells #[.slice a1 p.st.length c1, .slice a2 p.lf.length c2, .slice a3 p.ln.length c3] 40)).alloc (.cells #[.slice none 0 0, .slice none 0 0, .slice none 0 0] 40))) := ((Since.start W).step ((Below.refl _ W).alloc (Nat.le_refl _) _)).step ((Below.refl _ _).alloc (Nat.le_refl _) _)
  have HP0 : Hid (Bx3 ((W.alloc (.cells #[.slice a1 p.st.length c1, .slice a2 p.lf.length c2, .slice a3 p.ln.length c3] 40)).alloc (.cells #[.slice none 0 0, .slice none 0 0, .slice none 0 0] 40)) W.heap.size (.slice a1 p.st.length c1) (.slice a2 p.lf.length c2) (.slice a3 p.ln.length c3)) := (Bx3.new _ _ _ _ _).below ((Below.refl _ _).alloc (Nat.le_refl _) _)
  have HQ0 : Hid (Bx3 ((W.alloc (.cells #[.slice a1 p.st.length c1, .slice a2 p.lf.length c2, .slice a3 p.ln.length c3] 40)).alloc (.cells #[.slice none 0 0, .slice none 0 0, .slice none 0 0] 40)) (W.heap.size + 1) (.slice none 0 0) (.slice none 0 0) (.slice none 0 0)) := by
    have := Bx3.new (W.alloc (.cells #[.slice a1 p.st.length c1, .slice a2 p.lf.length c2, .slice a3 p.ln.length c3] 40)) (.slice none 0 0) (.slice none 0 0) (.slice none 0 0) 40
    exact (show Bx3 _ _ _ _ _ by simpa using this)
  clear h
  cases hg : goodPr p with
  | false =>
    rw [show settleOut p = noP from by unfold settleOut; rw [hg]; rfl]
    have HG : Hid (goodPr p = false) := hg
    clear hg
    go_enter Try.func33, Try.ntmps33
    go_wp2_with fail
    refine (specGoodPair_any _ _ _ _ p (HR.out _ HS0.out).reads h1 h2 h3).mono ?_
    rintro e w1 ⟨rfl, hb1⟩
    rw [HG.out]
    have HS1 : Hid (Since W.heap.size W w1) := HS0.out.step hb1
    obtain ⟨q0, q1, q2, q3, qf⟩ := HQ0.out.below hb1
    clear hb1
    go_wp2
    refine bodyPost_ret (v := .tuple #[.agg #[.slice none 0 0, .slice none 0 0, .slice none 0 0], .bool false]) (by simp [results, Try.results33, go_sem, q1, q2, q3]) rfl ⟨_, _, _, rfl, Own3.nil _ _, ?_⟩
    exact ((HS1.out.1.setCell (by simp) _).setCell (by simp) _).setCell (by simp) _
  | true =>
    have HOUT : Hid (settleOut p = settleAt p 3) := by show _ = _; unfold settleOut; rw [hg]; exact settle_play p
    rw [HOUT.out]
    have HGA : Hid (∀ n, goodPr (settleAt p n) = true ∧ goodPr (stepP (settleAt p n) 1 (sideAt n)) = true) := fun n => ⟨settle_good p hg n, settle_good1 p hg n⟩
    have HCA : Hid (∀ n, canB (settleAt p n).ln 1 (sideAt n) = true ∧ canB (stepP (settleAt p n) 1 (sideAt n)).ln 2 0 = true) := settle_can p
    have HLA : Hid (∀ n, (settleAt p n).st.length ≤ 1048576 ∧ (settleAt p n).lf.length ≤ 1048576 ∧ (settleAt p n).ln.length ≤ 1048576) := fun n => by
      obtain ⟨_, _, _, _, _, e, -, -, hl, -⟩ := goodPr_form _ (settle_good p hg n)
      rw [e]
      exact ⟨by simp, by simp, by simp only; omega⟩
    have HG : Hid (goodPr p = true) := hg
    clear hg
    go_enter Try.func33, Try.ntmps33
    go_wp2_with fail
    refine (specGoodPair_any _ _ _ _ p (HR.out _ HS0.out).reads h1 h2 h3).mono ?_
    rintro e w1 ⟨rfl, hb1⟩
    rw [HG.out]
    have HS1 : Hid (Since W.heap.size W w1) := HS0.out.step hb1
    have HQ1 : Hid (Bx3 w1 (W.heap.size + 1) (.slice none 0 0) (.slice none 0 0) (.slice none 0 0)) := HQ0.out.below hb1
    obtain ⟨p0, p1, p2, p3, -⟩ := HP0.out.below hb1
    clear hb1
    go_wp2_with fail
    refine (l3Own_any w1 B _ _ _ p (HR.out _ HS1.out) h1 h2 h3).mono ?_
    rintro e w2 ⟨x2, y2, z2, rfl, ho2, hb2⟩
    obtain ⟨f1, i1, rfl⟩ := ho2.st.shape
    obtain ⟨f2, i2, rfl⟩ := ho2.lf.shape
    obtain ⟨f3, i3, rfl⟩ := ho2.ln.shape
    have HS2 : Hid (Since W.heap.size W w2) := HS1.out.step hb2
    have HQ2 : Hid (Bx3 w2 (W.heap.size + 1) (.slice none 0 0) (.slice none 0 0) (.slice none 0 0)) := HQ1.out.below hb2
    have HT : Hid (Stl W w1.heap.size w2.heap.size (w2.heap.size + 1) (.slice f1 p.st.length i1) (.slice f2 p.lf.length i2) (.slice none 0 0) (settleAt p 0) ((w2.alloc (.cells #[.slice f1 p.st.length i1, .slice f2 p.lf.length i2, .slice none 0 0] 40)).alloc (.cells #[.int .i64 0, .int .i64 1, .int .i64 0] 3))) := by
      have b1 : Below w2.heap.size w2 (w2.alloc (.cells #[.slice f1 p.st.length i1, .slice f2 p.lf.length i2, .slice none 0 0] 40)) := (Below.refl _ w2).alloc (Nat.le_refl _) _
      have b2 : Below (w2.alloc (.cells #[.slice f1 p.st.length i1, .slice f2 p.lf.length i2, .slice none 0 0] 40)).heap.size (w2.alloc (.cells #[.slice f1 p.st.length i1, .slice f2 p.lf.length i2, .slice none 0 0] 40)) ((w2.alloc (.cells #[.slice f1 p.st.length i1, .slice f2 p.lf.length i2, .slice none 0 0] 40)).alloc (.cells #[.int .i64 0, .int .i64 1, .int .i64 0] 3)) := (Below.refl _ _).alloc (Nat.le_refl _) _
      have hz : (w2.alloc (.cells #[.slice f1 p.st.length i1, .slice f2 p.lf.length i2, .slice none 0 0] 40)).heap.size = w2.heap.size + 1 := by simp
      have hX := Bx3.new (w2.alloc (.cells #[.slice f1 p.st.length i1, .slice f2 p.lf.length i2, .slice none 0 0] 40)) (.int .i64 0) (.int .i64 1) (.int .i64 0) 3
      rw [hz] at hX
      have ho0 : Own3 w2 w1.heap.size (.slice f1 p.st.length i1) (.slice f2 p.lf.length i2) (.slice none 0 0) ⟨p.st, p.lf, []⟩ := ⟨ho2.st, ho2.lf, OwnH.nil _ _, ho2.apart⟩
      refine ⟨(Bx3.new _ _ _ _ _).below b2, (HQ2.out.below b1).below b2, hX.c0, hX.c1, hX.c2, hX.lt, by omega, (ho0.below b1).below b2, fun hh => ?_, fun hh => ?_, (HS2.out.step b1).step b2, HQ1.out.lt, hb2.size, by have := hb2.size; omega⟩
      · have := (ho0.lt _ hh).2
        omega
      · have := (ho0.lt _ hh).2
        omega
    clear p0 p1 p2 p3 ho2 hb2
    go_wp2
    generalize hw : (w2.alloc (.cells #[.slice f1 p.st.length i1, .slice f2 p.lf.length i2, .slice none 0 0] 40)).alloc (.cells #[.int .i64 0, .int .i64 1, .int .i64 0] 3) = w3 at *
    clear hw
    go_loopw [20] (fun i wr => ∃ n : Nat, n ≤ 3 ∧ i = .int .i64 n ∧ Hid (∃ x' y' z', Stl W w1.heap.size w2.heap.size (w2.heap.size + 1) x' y' z' (settleAt p n) wr)) (fun i _ => 3 - (intOf i).toNat)
    case atStart => exact ⟨0, Nat.zero_le _, rfl, _, _, _, HT.out⟩
    case round =>
      clear HT
      obtain ⟨n, hn, rfl, HT⟩ := hrel
      obtain ⟨x', y', z', hT⟩ := HT.out
      clear HT
      obtain ⟨j1, e1, rfl⟩ := hT.own.st.shape
      obtain ⟨j2, e2, rfl⟩ := hT.own.lf.shape
      obtain ⟨j3, e3, rfl⟩ := hT.own.ln.shape
      by_cases hlt : n < 3
      · have hlt' : (n : Int) < 3 := by omega
        have hsd : ∃ sd : Int, sd = sideAt n ∧ wr.cell? ⟨w2.heap.size + 1, n, none⟩ = some (.int .i64 sd) := by
          match n, hlt with
          | 0, _ => exact ⟨0, rfl, hT.s0⟩
          | 1, _ => exact ⟨1, rfl, hT.s1⟩
          | 2, _ => exact ⟨0, rfl, hT.s2⟩
        obtain ⟨sd, hsd, csd⟩ := hsd
        obtain ⟨hc1, hc2⟩ := HCA.out n
        obtain ⟨hg1, hg2⟩ := HGA.out n
        obtain ⟨q, hq⟩ : ∃ q, q = settleAt p n := ⟨_, rfl⟩
        have HNX : Hid (settleAt p (n + 1) = stepP (stepP q 1 sd) 2 0) := by rw [hq, hsd]; rfl
        rw [← hq, ← hsd] at hc1 hc2 hg2
        rw [← hq] at hg1
        rw [← hq] at hT
        have HC1 : Hid (canB q.ln 1 sd = true) := hc1
        have HC2 : Hid (canB (stepP q 1 sd).ln 2 0 = true) := hc2
        have HG1 : Hid (goodPr q = true) := hg1
        have HG2 : Hid (goodPr (stepP q 1 sd) = true) := hg2
        have HT1 : Hid (Stl W w1.heap.size w2.heap.size (w2.heap.size + 1) (.slice j1 q.st.length e1) (.slice j2 q.lf.length e2) (.slice j3 q.ln.length e3) q wr) := hT
        obtain ⟨p0, p1, p2, p3, -⟩ := hT.px
        clear hT hc1 hc2 hg1 hg2 hsd hq
        go_wp2_with fail
        refine (l3Step_any wr _ _ _ _ q 1 sd HT1.out.own HT1.out.base HG1.out).mono ?_
        rintro e w4 ⟨r, hr, x4, y4, z4, rfl, ho4, hb4, hk4, hr4⟩
        rw [HC1.out]
        have hr := hr HC1.out
        obtain ⟨t1, u1, rfl⟩ := ho4.st.shape
        obtain ⟨t2, u2, rfl⟩ := ho4.lf.shape
        obtain ⟨t3, u3, rfl⟩ := ho4.ln.shape
        rw [← hr] at HC2 HG2 HNX
        have hA5 : Below w4.heap.size w4 (w4.alloc (.cells #[.slice t1 r.st.length u1, .slice t2 r.lf.length u2, .slice t3 r.ln.length u3] 40)) := (Below.refl _ w4).alloc (Nat.le_refl _) _
        have HM5 : Hid (Stm W w1.heap.size w2.heap.size (w2.heap.size + 1) (.slice j1 q.st.length e1) (.slice j2 q.lf.length e2) (.slice j3 q.ln.length e3) (.slice t1 r.st.length u1) (.slice t2 r.lf.length u2) (.slice t3 r.ln.length u3) r (w4.alloc (.cells #[.slice t1 r.st.length u1, .slice t2 r.lf.length u2, .slice t3 r.ln.length u3] 40))) := (HT1.out.mid.next ho4 hb4 hk4 hr4).step hA5
        clear p0 p1 p2 p3 csd ho4 hb4 hk4 hr4 hA5 hr
        go_wp2_with fail
        refine (l3Step_any _ _ _ _ _ r 2 0 HM5.out.own HM5.out.base HG2.out).mono ?_
        rintro e w6 ⟨s, hs, x6, y6, z6, rfl, ho6, hb6, hk6, hr6⟩
        rw [HC2.out]
        have hs := hs HC2.out
        rw [← hs] at HNX
        obtain ⟨v1, k1, rfl⟩ := ho6.st.shape
        obtain ⟨v2, k2, rfl⟩ := ho6.lf.shape
        obtain ⟨v3, k3, rfl⟩ := ho6.ln.shape
        have HM6 : Hid (Stm W w1.heap.size w2.heap.size (w2.heap.size + 1) (.slice j1 q.st.length e1) (.slice j2 q.lf.length e2) (.slice j3 q.ln.length e3) (.slice v1 s.st.length k1) (.slice v2 s.lf.length k2) (.slice v3 s.ln.length k3) s w6) := HM5.out.next ho6 hb6 hk6 hr6
        clear ho6 hb6 hk6 hr6 hs
        obtain ⟨p0, p1, p2, p3, pf⟩ := HM6.out.px
        have HF : Hid (Stl W w1.heap.size w2.heap.size (w2.heap.size + 1) (.slice v1 s.st.length k1) (.slice v2 s.lf.length k2) (.slice v3 s.ln.length k3) s ((((w6.setCell ⟨w2.heap.size, 0, none⟩ (.slice v1 s.st.length k1)).setCell ⟨w2.heap.size, 1, none⟩ (.slice v2 s.lf.length k2)).setCell ⟨w2.heap.size, 2, none⟩ (.slice v3 s.ln.length k3)).alloc (.cells #[.slice v1 s.st.length k1, .slice v2 s.lf.length k2, .slice v3 s.ln.length k3] 40))) := HM6.out.put.step ((Below.refl _ _).alloc (Nat.le_refl _) _)
        go_wp2
        go_roundw
        case rel => exact ⟨n + 1, by omega, by go_num, _, _, _, by rw [HNX.out]; exact HF.out⟩
        case measure => simp [intOf]; omega
      · obtain rfl : n = 3 := by omega
        obtain ⟨l1, l2, l3⟩ := HLA.out 3
        obtain ⟨q, hq⟩ : ∃ q, q = settleAt p 3 := ⟨_, rfl⟩
        rw [← hq] at hT l1 l2 l3
        have HQ3 : Hid (q = settleAt p 3) := hq
        have HT1 : Hid (Stl W w1.heap.size w2.heap.size (w2.heap.size + 1) (.slice j1 q.st.length e1) (.slice j2 q.lf.length e2) (.slice j3 q.ln.length e3) q wr) := hT
        obtain ⟨p0, p1, p2, p3, -⟩ := hT.px
        clear hT HLA HCA HGA HOUT hq
        go_wp2_with fail
        refine (l3Own_any wr _ _ _ _ q HT1.out.own l1 l2 l3).mono ?_
        rintro e w4 ⟨x4, y4, z4, rfl, ho4, hb4⟩
        obtain ⟨t1, u1, rfl⟩ := ho4.st.shape
        obtain ⟨t2, u2, rfl⟩ := ho4.lf.shape
        obtain ⟨t3, u3, rfl⟩ := ho4.ln.shape
        have HS4 : Hid (Since W.heap.size W w4) := HT1.out.since.step hb4
        have hlt5 : W.heap.size + 1 < wr.heap.size := HT1.out.rx.lt
        have HO4 : Hid (Own3 w4 wr.heap.size (.slice t1 q.st.length u1) (.slice t2 q.lf.length u2) (.slice t3 q.ln.length u3) q) := ho4
        obtain ⟨y0, y1, y2, y3, yf⟩ := HT1.out.rx.below hb4
        clear ho4 hb4 p0 p1 p2 p3
        go_wp2
        refine bodyPost_ret (v := .tuple #[.agg #[.slice t1 q.st.length u1, .slice t2 q.lf.length u2, .slice t3 q.ln.length u3], .bool true]) (by simp [results, Try.results33, go_sem, y1, y2, y3]) rfl ⟨_, _, _, rfl, ?_, ?_⟩
        · rw [← HQ3.out]
          exact (((HO4.out.setCell (a := ⟨W.heap.size + 1, 0, none⟩) hlt5 _).setCell (a := ⟨W.heap.size + 1, 1, none⟩) hlt5 _).setCell (a := ⟨W.heap.size + 1, 2, none⟩) hlt5 _).mono HT1.out.since.2
        · exact ((HS4.out.1.setCell (by simp) _).setCell (by simp) _).setCell (by simp) _
end Go.Proofs.Ytchddjidjfpehaa
