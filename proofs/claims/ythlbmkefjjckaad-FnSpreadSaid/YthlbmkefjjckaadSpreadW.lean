/-
  The walk of the law FnSpread.
-/
import Derived.Test.YthlbmkefjjckaadSpreadM
import Derived.Deep.CutRange
import Derived.Deep.Cut
namespace Go.Proofs.Ythlbmkefjjckaad
open Go.RowKit
set_option linter.unusedVariables false

namespace fnSpread
set_option maxRecDepth 100000 in
set_option maxHeartbeats 16000000 in
theorem walk (a0 : Option Addr) (len0 cap0 : Nat) (a1 : Option Addr) (len1 cap1 : Nat) (w : World) (hc0 : Code w.heap.size w a0 len0) (hl0 : len0 ≤ 9223372036854775807) (hc1 : Code w.heap.size w a1 len1) (hl1 : len1 ≤ 9223372036854775807) :
    Calls Try.prog 3 #[.slice a0 len0 cap0, .slice a1 len1 cap1] w fun e w' => e = .returned (.bool true) ∧ Below w.heap.size w w' := by
  have HC0 : Hid (Code w.heap.size w a0 len0) := hc0
  have HC1 : Hid (Code w.heap.size w a1 len1) := hc1
  have S0 : Hid (Since w.heap.size w w) := Since.start w
  clear hc0 hc1
  obtain ⟨X, hX⟩ : ∃ X : Int, IntKind.i64.wrap ((len0 : Int) + (len1 : Int)) = X := ⟨_, rfl⟩
  by_cases hbig : 1048576 < X
  · have hbig' : decide ((1048576 : Int) < X) = true := decide_eq_true hbig
    go_enter Try.func3, Try.ntmps3
    go_wp2
    go_ret
    exact ⟨rfl, Below.refl _ _⟩
  have hbig' : decide ((1048576 : Int) < X) = false := decide_eq_false hbig
  go_enter Try.func3, Try.ntmps3
  go_wp2_with fail
  refine (drawTree_any w.heap.size w _ a0 len0 cap0 HC0.out hl0 S0.out).mono ?_
  rintro e w1 ⟨n, v1, l, r, rfl, ho1, hl40, hn13, hs1⟩
  obtain ⟨x1, y1, rfl⟩ := ho1.shape
  have S1 : Hid (Since w.heap.size w w1) := hs1
  have L1 : Hid (OwnEd w1 w.heap.size (.slice x1 l.length y1) l) := ho1
  clear ho1 hs1
  obtain ⟨p, hp⟩ : ∃ p, p = treeOut (n : Int) l r := ⟨_, rfl⟩
  obtain ⟨g, hg⟩ : ∃ g, g = grpOut (n : Int) l := ⟨_, rfl⟩
  obtain ⟨f, hf⟩ : ∃ f, f = farsOut (n : Int) l r := ⟨_, rfl⟩
  obtain ⟨ok, hok⟩ : ∃ ok, ok = farsOk (n : Int) l r := ⟨_, rfl⟩
  have HPL : Hid (p.length ≤ 12) := by show _ ≤ _; rw [hp]; exact (treeOut_small _ _ _).1
  have HF : Hid (ok = true → goodEd (n : Int) l = true ∧ SprFacts n l r p g f) := fun h => by
    rw [hp, hg, hf]; exact spr_facts (hok.symm.trans h)
  have CW : Hid (∀ (W : World) (v : Value), ReadsEd W v l → Calls Try.prog 6 #[.int .i64 (n : Int), v, .int .i64 r] W (NearPost W p ok)) := fun W v h => by
    rw [hp, hok]; exact implTreeAt_any W v (n : Int) l r h (Nat.le_trans hl40 (by decide))
  have CWS : Hid (∀ (W : World) (v : Value), ReadsEd W v l → Calls Try.prog 7 #[.int .i64 (n : Int), v, .int .i64 r] W (NearPost W p ok)) := fun W v h => by
    rw [hp, hok]; exact specTreeAt_any W v (n : Int) l r h (Nat.le_trans hl40 (by decide))
  have CG : Hid (ok = true → ∀ (W : World) (v : Value), ReadsEd W v l → Calls Try.prog 9 #[.int .i64 (n : Int), v] W (NearPost W g true)) := fun h W v hr => by
    have := implGroupsOf_any W v (n : Int) l hr (Nat.le_trans hl40 (by decide))
    rwa [(HF.out h).1, ← hg] at this
  have CF : Hid (ok = true → ∀ (W : World) (v : Value), ReadsEd W v l → Calls Try.prog 14 #[.int .i64 (n : Int), v, .int .i64 r] W (NearPost W f true)) := fun h W v hr => by
    have := implFarsFrom_any W v (n : Int) l r hr (Nat.le_trans hl40 (by decide))
    rwa [← hok, h, ← hf] at this
  clear hp hg hf hok
  go_wp2_with fail
  refine (CW.out _ _ L1.out.reads).mono ?_
  rintro e w2 ⟨u2, rfl, ho2, hb2⟩
  have S2 : Hid (Since w.heap.size w w2) := S1.out.step hb2
  have L2 : Hid (OwnEd w2 w.heap.size (.slice x1 l.length y1) l) := L1.out.below hb2
  obtain ⟨x2, y2, rfl⟩ := ho2.shape
  have P2 : Hid (Own w2 w.heap.size (.slice x2 p.length y2) p) := ho2.mono S1.out.2
  clear ho2
  clear hb2
  go_wp2_with fail
  refine (CWS.out _ _ L2.out.reads).mono ?_
  rintro e w3 ⟨u3, rfl, ho3, hb3⟩
  have S3 : Hid (Since w.heap.size w w3) := S2.out.step hb3
  have L3 : Hid (OwnEd w3 w.heap.size (.slice x1 l.length y1) l) := L2.out.below hb3
  have P3 : Hid (Own w3 w.heap.size (.slice x2 p.length y2) p) := P2.out.below hb3
  obtain ⟨x3, y3, rfl⟩ := ho3.shape
  have V3 : Hid (Own w3 w.heap.size (.slice x3 p.length y3) p) := ho3.mono S2.out.2
  clear ho3
  clear hb3
  go_wp2_with fail
  refine (sameInts_same _ _ _ p P3.out.reads V3.out.reads (Nat.le_trans HPL.out (by decide))).mono ?_
  rintro e w4 ⟨rfl, hb4⟩
  have S4 : Hid (Since w.heap.size w w4) := S3.out.step hb4
  have L4 : Hid (OwnEd w4 w.heap.size (.slice x1 l.length y1) l) := L3.out.below hb4
  have P4 : Hid (Own w4 w.heap.size (.slice x2 p.length y2) p) := P3.out.below hb4
  clear hb4
  clear CW CWS V3 L1 L2 L3 P2 P3
  cases ok with
  | false =>
    clear HF CG CF P4 L4
    go_wp2_with fail
    refine (drawSpread_any w.heap.size w _ a1 len1 cap1 HC1.out hl1 S4.out).mono ?_
    rintro e w30 ⟨v30, q, fr, rfl, ho30, hl30, hs30, -⟩
    obtain ⟨x30, y30, rfl⟩ := ho30.shape
    have S30 : Hid (Since w.heap.size w w30) := hs30
    have Q30 : Hid (Own w30 w.heap.size (.slice x30 q.length y30) q) := ho30.mono S4.out.2
    clear ho30 hs30
    obtain ⟨ha, hha⟩ : ∃ ha, ha = spOut q fr := ⟨_, rfl⟩
    obtain ⟨ka, hka⟩ : ∃ ka, ka = spOk q fr := ⟨_, rfl⟩
    have HHL : Hid (ha.length ≤ 12) := by show _ ≤ _; rw [hha]; exact spOut_small _ _
    have CS : Hid (∀ (W : World) (B : Nat) (u : Value), Own W B u q → Calls Try.prog 11 #[u, .int .i64 fr] W (HopPost W ha ka)) := fun W B u h => by
      rw [hha, hka]; exact implSpreadOn_any W B u q fr h (Nat.le_trans hl30 (by decide))
    have CSS : Hid (∀ (W : World) (B : Nat) (u : Value), Own W B u q → Calls Try.prog 18 #[u, .int .i64 fr] W (HopPost W ha ka)) := fun W B u h => by
      rw [hha, hka]; exact specSpreadOn_any W B u q fr h (Nat.le_trans hl30 (by decide))
    clear hha hka
    go_wp2_with fail
    refine (CS.out _ _ _ Q30.out).mono ?_
    rintro e w31 ⟨u31, rfl, ho31, hb31⟩
    have S31 : Hid (Since w.heap.size w w31) := S30.out.step hb31
    have Q31 : Hid (Own w31 w.heap.size (.slice x30 q.length y30) q) := Q30.out.below hb31
    obtain ⟨x31, y31, rfl⟩ := ho31.reads.shape
    have H31 : Hid (OwnHop w31 w.heap.size (.slice x31 ha.length y31) ha) := ho31.mono S30.out.2
    clear ho31
    clear hb31
    go_wp2_with fail
    refine (CSS.out _ _ _ Q31.out).mono ?_
    rintro e w32 ⟨u32, rfl, ho32, hb32⟩
    have S32 : Hid (Since w.heap.size w w32) := S31.out.step hb32
    have Q32 : Hid (Own w32 w.heap.size (.slice x30 q.length y30) q) := Q31.out.below hb32
    have H32 : Hid (OwnHop w32 w.heap.size (.slice x31 ha.length y31) ha) := H31.out.below hb32
    obtain ⟨x32, y32, rfl⟩ := ho32.reads.shape
    have J32 : Hid (OwnHop w32 w.heap.size (.slice x32 ha.length y32) ha) := ho32.mono S31.out.2
    clear ho32
    clear hb32
    clear CS CSS Q30 Q31 H31
    go_wp2_with fail
    refine (drawCf_any w32.heap.size w32 _ a1 len1 cap1 (code_since HC1.out S32.out (Nat.le_refl _)) hl1 (Since.start w32)).mono ?_
    rintro e w33 ⟨v33, rr, aa, bb, rfl, ho33, hl33, hs33, -⟩
    obtain ⟨x33, y33, rfl⟩ := ho33.shape
    have S33 : Hid (Since w.heap.size w w33) := S32.out.step hs33.1
    have Q33 : Hid (Own w33 w.heap.size (.slice x30 q.length y30) q) := Q32.out.below hs33.1
    have H33 : Hid (OwnHop w33 w.heap.size (.slice x31 ha.length y31) ha) := H32.out.below hs33.1
    have J33 : Hid (OwnHop w33 w.heap.size (.slice x32 ha.length y32) ha) := J32.out.below hs33.1
    have R33 : Hid (Own w33 w.heap.size (.slice x33 rr.length y33) rr) := ho33.mono S32.out.2
    clear ho33 hs33 Q32 H32 J32
    obtain ⟨cz, hcz⟩ : ∃ cz, cz = cfOut rr aa bb := ⟨_, rfl⟩
    obtain ⟨kc, hkc⟩ : ∃ kc, kc = cfOk rr aa bb := ⟨_, rfl⟩
    obtain ⟨wo, hwo⟩ : ∃ wo, wo = otOut rr aa bb := ⟨_, rfl⟩
    obtain ⟨ko, hko⟩ : ∃ ko, ko = otOk rr aa bb := ⟨_, rfl⟩
    have HWO : Hid (wo.length ≤ 4194304) := by show _ ≤ _; rw [hwo]; exact otOut_len _ _ _
    have CC : Hid (∀ (W : World) (B : Nat) (u : Value), Own W B u rr → Calls Try.prog 12 #[u, .int .i64 aa, .int .i64 bb] W (CfPost W cz kc)) := fun W B u h => by
      rw [hcz, hkc]; exact implComesFrom_any W B u rr aa bb h (Nat.le_trans hl33 (by decide))
    have CCS : Hid (∀ (W : World) (B : Nat) (u : Value), Own W B u rr → Calls Try.prog 20 #[u, .int .i64 aa, .int .i64 bb] W (CfPost W cz kc)) := fun W B u h => by
      rw [hcz, hkc]; exact specComesFrom_any W B u rr aa bb h (Nat.le_trans hl33 (by decide))
    have CO : Hid (∀ (W : World) (B : Nat) (u : Value), Own W B u rr → Calls Try.prog 15 #[u, .int .i64 aa, .int .i64 bb] W (NearPost W wo ko)) := fun W B u h => by
      rw [hwo, hko]; exact implOnTree_any W B u rr aa bb h (Nat.le_trans hl33 (by decide))
    have COS : Hid (∀ (W : World) (B : Nat) (u : Value), Own W B u rr → Calls Try.prog 21 #[u, .int .i64 aa, .int .i64 bb] W (NearPost W wo ko)) := fun W B u h => by
      rw [hwo, hko]; exact specOnTree_any W B u rr aa bb h (Nat.le_trans hl33 (by decide))
    clear hcz hkc hwo hko
    go_wp2_with fail
    refine (CC.out _ _ _ R33.out).mono ?_
    rintro e w34 ⟨rfl, hb34⟩
    have S34 : Hid (Since w.heap.size w w34) := S33.out.step hb34
    have Q34 : Hid (Own w34 w.heap.size (.slice x30 q.length y30) q) := Q33.out.below hb34
    have H34 : Hid (OwnHop w34 w.heap.size (.slice x31 ha.length y31) ha) := H33.out.below hb34
    have J34 : Hid (OwnHop w34 w.heap.size (.slice x32 ha.length y32) ha) := J33.out.below hb34
    have R34 : Hid (Own w34 w.heap.size (.slice x33 rr.length y33) rr) := R33.out.below hb34
    clear hb34
    go_wp2_with fail
    refine (CCS.out _ _ _ R34.out).mono ?_
    rintro e w35 ⟨rfl, hb35⟩
    have S35 : Hid (Since w.heap.size w w35) := S34.out.step hb35
    have Q35 : Hid (Own w35 w.heap.size (.slice x30 q.length y30) q) := Q34.out.below hb35
    have H35 : Hid (OwnHop w35 w.heap.size (.slice x31 ha.length y31) ha) := H34.out.below hb35
    have J35 : Hid (OwnHop w35 w.heap.size (.slice x32 ha.length y32) ha) := J34.out.below hb35
    have R35 : Hid (Own w35 w.heap.size (.slice x33 rr.length y33) rr) := R34.out.below hb35
    clear hb35
    go_wp2_with fail
    refine (CO.out _ _ _ R35.out).mono ?_
    rintro e w36 ⟨u36, rfl, ho36, hb36⟩
    have S36 : Hid (Since w.heap.size w w36) := S35.out.step hb36
    have Q36 : Hid (Own w36 w.heap.size (.slice x30 q.length y30) q) := Q35.out.below hb36
    have H36 : Hid (OwnHop w36 w.heap.size (.slice x31 ha.length y31) ha) := H35.out.below hb36
    have J36 : Hid (OwnHop w36 w.heap.size (.slice x32 ha.length y32) ha) := J35.out.below hb36
    have R36 : Hid (Own w36 w.heap.size (.slice x33 rr.length y33) rr) := R35.out.below hb36
    obtain ⟨x36, y36, rfl⟩ := ho36.shape
    have Z36 : Hid (Own w36 w.heap.size (.slice x36 wo.length y36) wo) := ho36.mono S35.out.2
    clear ho36
    clear hb36
    go_wp2_with fail
    refine (COS.out _ _ _ R36.out).mono ?_
    rintro e w37 ⟨u37, rfl, ho37, hb37⟩
    have S37 : Hid (Since w.heap.size w w37) := S36.out.step hb37
    have Q37 : Hid (Own w37 w.heap.size (.slice x30 q.length y30) q) := Q36.out.below hb37
    have H37 : Hid (OwnHop w37 w.heap.size (.slice x31 ha.length y31) ha) := H36.out.below hb37
    have J37 : Hid (OwnHop w37 w.heap.size (.slice x32 ha.length y32) ha) := J36.out.below hb37
    have Z37 : Hid (Own w37 w.heap.size (.slice x36 wo.length y36) wo) := Z36.out.below hb37
    obtain ⟨x37, y37, rfl⟩ := ho37.shape
    have Y37 : Hid (Own w37 w.heap.size (.slice x37 wo.length y37) wo) := ho37.mono S36.out.2
    clear ho37
    clear hb37
    clear CC CCS CO COS R33 R34 R35 R36
    have hka2 : (ka == ka) = true := by simp
    have hkc2 : (kc == kc) = true := by simp
    have hcz2 : (cz == cz) = true := by simp
    have hko2 : (ko == ko) = true := by simp
    go_wp2_with fail
    refine (sameHops_same _ _ _ ha H37.out.reads J37.out.reads (Nat.le_trans HHL.out (by decide))).mono ?_
    rintro e w38 ⟨rfl, hb38⟩
    have S38 : Hid (Since w.heap.size w w38) := S37.out.step hb38
    have Q38 : Hid (Own w38 w.heap.size (.slice x30 q.length y30) q) := Q37.out.below hb38
    have Z38 : Hid (Own w38 w.heap.size (.slice x36 wo.length y36) wo) := Z37.out.below hb38
    have Y38 : Hid (Own w38 w.heap.size (.slice x37 wo.length y37) wo) := Y37.out.below hb38
    clear hb38
    go_wp2_with fail
    refine (sameInts_same _ _ _ wo Z38.out.reads Y38.out.reads HWO.out).mono ?_
    rintro e w39 ⟨rfl, hb39⟩
    have S39 : Hid (Since w.heap.size w w39) := S38.out.step hb39
    have Q39 : Hid (Own w39 w.heap.size (.slice x30 q.length y30) q) := Q38.out.below hb39
    clear hb39
    go_wp2_with fail
    refine (implGoodParents_any _ _ _ q Q39.out (Nat.le_trans hl30 (by decide))).mono ?_
    rintro e w40 ⟨rfl, hb40⟩
    have S40 : Hid (Since w.heap.size w w40) := S39.out.step hb40
    have Q40 : Hid (Own w40 w.heap.size (.slice x30 q.length y30) q) := Q39.out.below hb40
    clear hb40
    go_wp2_with fail
    refine (specGoodParentsB_any _ _ _ q Q40.out (Nat.le_trans hl30 (by decide))).mono ?_
    rintro e w41 ⟨rfl, hb41⟩
    have S41 : Hid (Since w.heap.size w w41) := S40.out.step hb41
    clear hb41
    generalize goodU q = gq at *
    have hgq2 : (gq == gq) = true := by simp
    go_wp2
    go_ret
    exact ⟨by simp, S41.out.1⟩
  | true =>
    obtain ⟨hge, HFA0⟩ := HF.out rfl
    have CG1 : Hid (∀ (W : World) (v : Value), ReadsEd W v l → Calls Try.prog 9 #[.int .i64 (n : Int), v] W (NearPost W g true)) := CG.out rfl
    have CF1 : Hid (∀ (W : World) (v : Value), ReadsEd W v l → Calls Try.prog 14 #[.int .i64 (n : Int), v, .int .i64 r] W (NearPost W f true)) := CF.out rfl
    obtain ⟨rt, rfl⟩ : ∃ rt : Nat, r = (rt : Int) := ⟨r.toNat, by have := HFA0.root; omega⟩
    have hrn : rt < n := by have := HFA0.root; omega
    have hpl : p.length ≤ n ∧ n ≤ p.length := by have := HFA0.plen; omega
    have hgl : g.length ≤ n ∧ n ≤ g.length := by have := HFA0.glen; omega
    have hfl : f.length ≤ n ∧ n ≤ f.length := by have := HFA0.flen; omega
    have HGD : Hid (goodU p = true) := HFA0.good
    have HSP : Hid (∀ k : Nat, k < n → lab g k = lab g rt → spOk p k = true ∧ (spOut p k).length ≤ 12 ∧
        (∀ j (hj : j < (spOut p k).length), cfOk p k (spOut p k)[j].To = true ∧ cfOut p k (spOut p k)[j].To = (spOut p k)[j].From ∧ ((spOut p k)[j].To ∈ camL k (spOut p k) j ↔ False) ∧ ((spOut p k)[j].From ∈ camL k (spOut p k) j)) ∧
        ∀ i : Nat, i < n → ((i : Int) ∈ camL k (spOut p k) (spOut p k).length ↔ lab g i = lab g rt)) := fun k hk he => by
      have := HFA0.spread k hk he
      exact ⟨this.1, this.2.1, this.2.2.1, fun i hi => by rw [camL_all]; exact this.2.2.2 i hi⟩
    have HWY : Hid (∀ k : Nat, k < n → otOk p rt k = decide (lab g k = lab g rt) ∧ (otOk p rt k = true → (otOut p rt k).length ≤ 12 ∧ pathOk n l (otOut p rt k) = true ∧ pathCost n l (otOut p rt k) = lab f k)) := HFA0.ways
    clear HF HFA0 hge CG CF
    go_wp2_with fail
    refine (CG1.out _ _ L4.out.reads).mono ?_
    rintro e w5 ⟨u5, rfl, ho5, hb5⟩
    have S5 : Hid (Since w.heap.size w w5) := S4.out.step hb5
    have L5 : Hid (OwnEd w5 w.heap.size (.slice x1 l.length y1) l) := L4.out.below hb5
    have P5 : Hid (Own w5 w.heap.size (.slice x2 p.length y2) p) := P4.out.below hb5
    obtain ⟨x5, y5, rfl⟩ := ho5.shape
    have G5 : Hid (Own w5 w.heap.size (.slice x5 g.length y5) g) := ho5.mono S4.out.2
    clear ho5
    clear hb5
    go_wp2_with fail
    refine (implGoodParents_any _ _ _ p P5.out (Nat.le_trans HPL.out (by decide))).mono ?_
    rintro e w6 ⟨rfl, hb6⟩
    have S6 : Hid (Since w.heap.size w w6) := S5.out.step hb6
    have L6 : Hid (OwnEd w6 w.heap.size (.slice x1 l.length y1) l) := L5.out.below hb6
    have P6 : Hid (Own w6 w.heap.size (.slice x2 p.length y2) p) := P5.out.below hb6
    have G6 : Hid (Own w6 w.heap.size (.slice x5 g.length y5) g) := G5.out.below hb6
    clear hb6
    rw [HGD.out]
    clear CG1 HGD L4 L5 P4 P5 G5
    have HGC : Hid (∀ j, j < n → ∃ gg go, x5 = some ⟨gg, go, none⟩ ∧ ∀ W', Since w6.heap.size w6 W' → ∀ hj : j < g.length, W'.cell? ⟨gg, go + j, none⟩ = some (.int .i64 g[j])) := fun j hj => own_cellsT G6.out j (by omega)
    obtain ⟨gg, go, rfl, hgr⟩ := HGC.out rt hrn
    have HGR : Hid (∀ W', Since w6.heap.size w6 W' → ∀ j (hj : j < n) (hj' : j < g.length), W'.cell? ⟨gg, go + j, none⟩ = some (.int .i64 g[j])) := fun W' hs j hj hj' => by
      obtain ⟨gg', go', e, hh⟩ := HGC.out j hj
      simp only [Option.some.injEq, Addr.mk.injEq] at e
      obtain ⟨rfl, rfl, -⟩ := e
      exact hh W' hs hj'
    clear HGC hgr
    have HS6 : Hid (Since w6.heap.size w6 w6) := Since.start w6
    have hrg : rt < g.length := by omega
    have hrg' : (rt : Int) < (g.length : Int) := by omega
    go_wp2
    go_loopw [14] (fun i wr => ∃ j : Nat, j ≤ n ∧ i = .int .i64 (j : Int) ∧ Hid (Since w6.heap.size w6 wr)) (fun i _ => n - (intOf i).toNat)
    case atStart => exact ⟨0, Nat.zero_le _, rfl, HS6.out⟩
    case round =>
      clear HS6
      obtain ⟨j, hj, rfl, HK⟩ := hrel
      by_cases hlt : j < n
      · have hlt' : (j : Int) < (n : Int) := by omega
        have hjg : j < g.length := by omega
        have hjg' : (j : Int) < (g.length : Int) := by omega
        obtain ⟨wo, rfl⟩ : ∃ wo, wo = wr := ⟨_, rfl⟩
        by_cases he : g[j] = g[rt]
        · obtain ⟨z, hz⟩ : ∃ z, z = g[rt] := ⟨_, rfl⟩
          have HX : Hid (∀ w', Since w6.heap.size w6 w' → w'.cell? ⟨gg, go + j, none⟩ = some (.int .i64 z) ∧ w'.cell? ⟨gg, go + rt, none⟩ = some (.int .i64 z)) := fun w' hs => ⟨by rw [hz, ← he]; exact HGR.out w' hs j hlt hjg, by rw [hz]; exact HGR.out w' hs rt hrn hrg⟩
          have HL : Hid (lab g j = lab g rt) := by show _ = _; rw [lab_get g j hjg, lab_get g rt hrg]; exact he
          clear hz he
          go_wp2
          have SA0 := HK.out
          refine wp_region_held_drew (S := (fun w' => w'.cell? ⟨gg, go + j, none⟩ = some (.int .i64 z) ∧ w'.cell? ⟨gg, go + rt, none⟩ = some (.int .i64 z))) (by kernel_rfl) ?_ (fun hHeld => ?_)
          · exact HX.out _ SA0.drew
          refine handRead 0 (some 101) (.slice (some ⟨gg, go, none⟩) g.length y5) rfl rfl (by kernel_rfl) (by kernel_rfl) (by kernel_rfl) (fun _ _ _ h => h) (by kernel_rfl) (by assumption) ?_ ?_
          · intro w hSw
            (try dsimp only at hSw)
            go_simp
          simp only [Act.put, List.setIfInBounds_toArray, List.set_cons_zero, List.set_cons_succ]
          refine handRead 1 (some 102) (.int .i64 (j : Int)) rfl rfl (by kernel_rfl) (by kernel_rfl) (by kernel_rfl) (fun _ _ _ h => h) (by kernel_rfl) (by assumption) ?_ ?_
          · intro w hSw
            (try dsimp only at hSw)
            go_simp
          simp only [Act.put, List.setIfInBounds_toArray, List.set_cons_zero, List.set_cons_succ]
          refine handRead 2 (some 103) (.pointer (some ⟨gg, go + j, none⟩)) rfl rfl (by kernel_rfl) (by kernel_rfl) (by kernel_rfl) (fun _ _ _ h => h) (by kernel_rfl) (by assumption) ?_ ?_
          · intro w hSw
            (try dsimp only at hSw)
            go_simp
          simp only [Act.put, List.setIfInBounds_toArray, List.set_cons_zero, List.set_cons_succ]
          refine handRead 3 (some 104) (.int .i64 z) rfl rfl (by kernel_rfl) (by kernel_rfl) (by kernel_rfl) (fun _ _ _ h => h) (by kernel_rfl) (by assumption) ?_ ?_
          · intro w hSw
            (try dsimp only at hSw)
            go_simp
          simp only [Act.put, List.setIfInBounds_toArray, List.set_cons_zero, List.set_cons_succ]
          refine handRead 4 (some 105) (.slice (some ⟨gg, go, none⟩) g.length y5) rfl rfl (by kernel_rfl) (by kernel_rfl) (by kernel_rfl) (fun _ _ _ h => h) (by kernel_rfl) (by assumption) ?_ ?_
          · intro w hSw
            (try dsimp only at hSw)
            go_simp
          simp only [Act.put, List.setIfInBounds_toArray, List.set_cons_zero, List.set_cons_succ]
          refine handRead 5 (some 106) (.int .i64 (rt : Int)) rfl rfl (by kernel_rfl) (by kernel_rfl) (by kernel_rfl) (fun _ _ _ h => h) (by kernel_rfl) (by assumption) ?_ ?_
          · intro w hSw
            (try dsimp only at hSw)
            go_simp
          simp only [Act.put, List.setIfInBounds_toArray, List.set_cons_zero, List.set_cons_succ]
          refine handRead 6 (some 107) (.pointer (some ⟨gg, go + rt, none⟩)) rfl rfl (by kernel_rfl) (by kernel_rfl) (by kernel_rfl) (fun _ _ _ h => h) (by kernel_rfl) (by assumption) ?_ ?_
          · intro w hSw
            (try dsimp only at hSw)
            go_simp
          simp only [Act.put, List.setIfInBounds_toArray, List.set_cons_zero, List.set_cons_succ]
          refine handRead 7 (some 108) (.int .i64 z) rfl rfl (by kernel_rfl) (by kernel_rfl) (by kernel_rfl) (fun _ _ _ h => h) (by kernel_rfl) (by assumption) ?_ ?_
          · intro w hSw
            (try dsimp only at hSw)
            go_simp
          simp only [Act.put, List.setIfInBounds_toArray, List.set_cons_zero, List.set_cons_succ]
          refine handRead 8 (some 109) (.bool false) rfl rfl (by kernel_rfl) (by kernel_rfl) (by kernel_rfl) (fun _ _ _ h => h) (by kernel_rfl) (by assumption) ?_ ?_
          · intro w hSw
            (try dsimp only at hSw)
            go_simp
          simp only [Act.put, List.setIfInBounds_toArray, List.set_cons_zero, List.set_cons_succ]
          refine wpAnyH_done (by kernel_rfl) ?_ _
          clear SA0
          have HKD : Hid (Since w6.heap.size w6 wo.drew) := HK.out.drew
          clear HX HK
          have CSP : Hid (∃ hs : List HopD, hs.length ≤ 12 ∧ (∀ t (ht : t < hs.length), cfOk p j hs[t].To = true ∧ cfOut p j hs[t].To = hs[t].From ∧ (hs[t].To ∈ camL j hs t ↔ False) ∧ (hs[t].From ∈ camL j hs t)) ∧ (∀ i : Nat, i < n → ((i : Int) ∈ camL j hs hs.length ↔ lab g i = lab g rt)) ∧
              Calls Try.prog 11 #[.slice x2 p.length y2, .int .i64 (j : Int)] wo.drew (HopPost wo.drew hs true)) := by
            obtain ⟨h1, h2, h3, h4⟩ := HSP.out j hlt HL.out
            have := implSpreadOn_any wo.drew w.heap.size (.slice x2 p.length y2) p (j : Int) (P6.out.below HKD.out.1) (Nat.le_trans HPL.out (by decide))
            rw [h1] at this
            exact ⟨_, h2, h3, h4, this⟩
          obtain ⟨hs, hhl, HSF0, HSG0, CSP0⟩ := CSP.out
          have HSF : Hid (∀ t (ht : t < hs.length), cfOk p j hs[t].To = true ∧ cfOut p j hs[t].To = hs[t].From ∧ (hs[t].To ∈ camL j hs t ↔ False) ∧ (hs[t].From ∈ camL j hs t)) := HSF0
          have HSG : Hid (∀ i : Nat, i < n → ((i : Int) ∈ camL j hs hs.length ↔ lab g i = lab g rt)) := HSG0
          have CS1 : Hid (Calls Try.prog 11 #[.slice x2 p.length y2, .int .i64 (j : Int)] wo.drew (HopPost wo.drew hs true)) := CSP0
          clear CSP HSF0 HSG0 CSP0 HL
          go_wp2_with fail
          refine CS1.out.mono ?_
          rintro e wa ⟨ua, rfl, hoa, hba⟩
          obtain ⟨xh, yh, rfl⟩ := hoa.reads.shape
          have HKA : Hid (Since w6.heap.size w6 wa) := HKD.out.step hba
          have HHC : Hid (∀ t, t < hs.length → ∃ gh oh, xh = some ⟨gh, oh, none⟩ ∧ ∀ W', Since wa.heap.size wa W' → ∀ ht : t < hs.length, HopAt W' gh (oh + t * 2) hs[t]) := hop_cellsT hoa
          clear hoa hba CS1 HKD
          have HB0 : Hid (Own (wa.alloc (.cells #[.int .i64 (j : Int)] 3)) wa.heap.size (.slice (some ⟨wa.heap.size, 0, none⟩) 1 1) (camL j hs 0) ∧ Since wa.heap.size wa (wa.alloc (.cells #[.int .i64 (j : Int)] 3))) := ⟨own_oneT wa (j : Int), (Since.start wa).step ((Below.refl _ wa).alloc (Nat.le_refl _) _)⟩
          go_wp2
          go_loopw [17, 122] (fun c i wr => ∃ t : Nat, t ≤ hs.length ∧ i = .int .i64 (t : Int) ∧ Hid (Own wr wa.heap.size c (camL j hs t) ∧ Since wa.heap.size wa wr)) (fun _ i _ => hs.length - (intOf i).toNat)
          case atStart => exact ⟨0, Nat.zero_le _, rfl, HB0.out⟩
          case round =>
            clear HB0
            obtain ⟨t, ht, rfl, HO⟩ := hrel
            obtain ⟨xc, yc, rfl⟩ := HO.out.1.shape
            by_cases htl : t < hs.length
            · have htl' : (t : Int) < (hs.length : Int) := by omega
              obtain ⟨gh, oh, rfl, hhc⟩ := HHC.out t htl
              obtain ⟨q0, q1⟩ := hhc wr HO.out.2 htl
              obtain ⟨k1, k2, k3, k4⟩ := HSF.out t htl
              have HSU := camL_succ (j : Int) hs t htl
              have HCL : Hid ((camL j hs t).length ≤ 13) := by show _ ≤ _; have := camL_len (j : Int) hs t; omega
              clear hhc
              generalize hs[t].From = xf at *
              generalize hs[t].To = xt at *
              generalize camL (j : Int) hs t = cl at *
              have HC2 : Hid (camL (j : Int) hs (t + 1) = cl ++ [xt]) := HSU
              have SB : Hid (Since wa.heap.size wa (wr.alloc (.cells #[.int .i64 xf, .int .i64 xt] 36))) := HO.out.2.step ((Below.refl _ wr).alloc (Nat.le_refl _) _)
              have OB : Hid (Own (wr.alloc (.cells #[.int .i64 xf, .int .i64 xt] 36)) wa.heap.size (.slice xc cl.length yc) cl) := HO.out.1.alloc _
              have HNW : Hid (∀ w', Since (wr.alloc (.cells #[.int .i64 xf, .int .i64 xt] 36)).heap.size (wr.alloc (.cells #[.int .i64 xf, .int .i64 xt] 36)) w' → w'.cell? ⟨wr.heap.size, 0, none⟩ = some (.int .i64 xf) ∧ w'.cell? ⟨wr.heap.size, 1, none⟩ = some (.int .i64 xt)) := newHopC wr xf xt
              have CC : Hid (Calls Try.prog 12 #[.slice x2 p.length y2, .int .i64 (j : Int), .int .i64 xt] (wr.alloc (.cells #[.int .i64 xf, .int .i64 xt] 36)) (CfPost (wr.alloc (.cells #[.int .i64 xf, .int .i64 xt] 36)) xf true)) := by
                have := implComesFrom_any (wr.alloc (.cells #[.int .i64 xf, .int .i64 xt] 36)) w.heap.size (.slice x2 p.length y2) p (j : Int) xt (P6.out.below ((HKA.out.tran SB.out).1)) (Nat.le_trans HPL.out (by decide))
                rwa [k1, k2] at this
              have HN1 : Hid (decide (xt ∈ cl) = false) := decide_eq_false (fun h => k3.1 h)
              have HN2 : Hid (decide (xf ∈ cl) = true) := decide_eq_true k4
              have hxx : (xf != xf) = false := by simp
              obtain ⟨d0, d1⟩ := newHopC wr xf xt _ (Since.start _)
              clear k1 k2 k3 k4 HO HSU
              go_wp2_with fail
              refine CC.out.mono ?_
              rintro e wy ⟨rfl, hby⟩
              have SY : Hid (Since wa.heap.size wa wy) := SB.out.step hby
              have OY : Hid (Own wy wa.heap.size (.slice xc cl.length yc) cl) := OB.out.below hby
              clear d0 d1
              obtain ⟨d0, d1⟩ := HNW.out wy ((Since.start _).step hby)
              clear hby CC SB OB
              go_wp2_with fail
              refine (hasT_any _ _ cl xt OY.out.reads (Nat.le_trans HCL.out (by decide))).mono ?_
              rintro e wz ⟨rfl, hwz⟩
              obtain rfl : wy = wz := hwz.symm
              rw [HN1.out]
              go_wp2_with fail
              refine (hasT_any _ _ cl xf OY.out.reads (Nat.le_trans HCL.out (by decide))).mono ?_
              rintro e wz ⟨rfl, hwz⟩
              obtain rfl : wy = wz := hwz.symm
              rw [HN2.out]
              have SX : Hid (Since wa.heap.size wa (wy.alloc (.cells #[.int .i64 xt] 3))) := SY.out.step ((Below.refl _ wy).alloc (Nat.le_refl _) _)
              have HAP : Hid (∀ ty, ∃ v' w', (Builtin.append_ #[26, 26] ty #[.slice xc cl.length yc, .slice (some ⟨wy.heap.size, 0, none⟩) 1 1]).run Try.prog (wy.alloc (.cells #[.int .i64 xt] 3)) = .ok v' w' ∧ Grown (wy.alloc (.cells #[.int .i64 xt] 3)) wa.heap.size 3 1 (.slice xc cl.length yc) (cl ++ [xt]).length ((cl ++ [xt]).map (Value.int .i64)) v' w') := fun ty =>
                run_app1 _ _ _ cl (OY.out.alloc _) wy.heap.size 1 xt (new_cell _ _ _) (Nat.le_trans HCL.out (by decide)) SX.out.2 ty
              go_wp2_with (at_builtin; refine list_app (by rfl) (.tmp 155) (.tmp 158) 26 (by rfl) (.slice xc cl.length yc) (.slice (some ⟨wy.heap.size, 0, none⟩) 1 1) (by rfl) (by rfl) _ HAP.out ?_; intro v9 w9 hg9; have HFN : Hid (Own w9 wa.heap.size v9 (camL (j : Int) hs (t + 1)) ∧ Since wa.heap.size wa w9) := ⟨by rw [HC2.out]; exact hg9.own, ⟨SX.out.1.trans hg9.below, Nat.le_trans SX.out.2 hg9.size⟩⟩; clear hg9)
              go_roundw
              case rel => exact ⟨t + 1, by omega, by go_num, HFN.out⟩
              case measure => simp [intOf]; omega
            · have htl' : ¬ (t : Int) < (hs.length : Int) := by omega
              obtain rfl : t = hs.length := by omega
              obtain ⟨wc, rfl⟩ : ∃ wc, wc = wr := ⟨_, rfl⟩
              have OC : Hid (Own wc wa.heap.size (.slice xc (camL j hs hs.length).length yc) (camL j hs hs.length)) := HO.out.1
              have SC : Hid (Since w6.heap.size w6 wc) := HKA.out.tran HO.out.2
              have HCL : Hid ((camL j hs hs.length).length ≤ 13) := by show _ ≤ _; have := camL_len (j : Int) hs hs.length; omega
              clear HO HKA HHC HSF
              generalize camL (j : Int) hs hs.length = cl at *
              have HSC : Hid (Since wc.heap.size wc wc) := Since.start wc
              go_wp2
              go_loopw [163] (fun i wr => ∃ k : Nat, k ≤ n ∧ i = .int .i64 (k : Int) ∧ Hid (Since wc.heap.size wc wr)) (fun i _ => n - (intOf i).toNat)
              case atStart => exact ⟨0, Nat.zero_le _, rfl, HSC.out⟩
              case round =>
                clear HSC
                obtain ⟨k, hk, rfl, HO⟩ := hrel
                by_cases hkn : k < n
                · have hkg : k < g.length := by omega
                  have hkg' : (k : Int) < (g.length : Int) := by omega
                  obtain ⟨wk, rfl⟩ : ∃ wk, wk = wr := ⟨_, rfl⟩
                  have SK : Hid (Since w6.heap.size w6 wk) := SC.out.tran HO.out
                  have HG := HSG.out k hkn
                  rw [lab_get g k hkg, lab_get g rt hrg] at HG
                  by_cases he : g[k] = g[rt]
                  · have HM : Hid (decide ((k : Int) ∈ cl) = true) := decide_eq_true (HG.2 he)
                    have CH : Hid (Calls Try.prog 13 #[.slice xc cl.length yc, .int .i64 (k : Int)] wk.drew fun e W' => e = .returned (.bool true) ∧ W' = wk.drew) := by
                      have := hasT_any wk.drew (.slice xc cl.length yc) cl (k : Int) (OC.out.below (HO.out.1.trans (below_drewN (Below.refl _ wk) 1))).reads (Nat.le_trans HCL.out (by decide))
                      rwa [HM.out] at this
                    obtain ⟨z, hz⟩ : ∃ z, z = g[rt] := ⟨_, rfl⟩
                    have HX : Hid (∀ w', Since w6.heap.size w6 w' → w'.cell? ⟨gg, go + k, none⟩ = some (.int .i64 z) ∧ w'.cell? ⟨gg, go + rt, none⟩ = some (.int .i64 z)) := fun w' hs => ⟨by rw [hz, ← he]; exact HGR.out w' hs k hkn hkg, by rw [hz]; exact HGR.out w' hs rt hrn hrg⟩
                    clear hz he HG
                    go_wp2
                    have SA0 := SK.out
                    refine wp_region_held_drew (S := (fun w' => w'.cell? ⟨gg, go + k, none⟩ = some (.int .i64 z) ∧ w'.cell? ⟨gg, go + rt, none⟩ = some (.int .i64 z))) (by kernel_rfl) ?_ (fun hHeld => ?_)
                    · exact HX.out _ SA0.drew
                    refine handRead 0 (some 166) (.slice xc cl.length yc) rfl rfl (by kernel_rfl) (by kernel_rfl) (by kernel_rfl) (fun _ _ _ h => h) (by kernel_rfl) (by assumption) ?_ ?_
                    · intro w hSw
                      (try dsimp only at hSw)
                      go_simp
                    simp only [Act.put, List.setIfInBounds_toArray, List.set_cons_zero, List.set_cons_succ]
                    refine handRead 1 (some 167) (.int .i64 (k : Int)) rfl rfl (by kernel_rfl) (by kernel_rfl) (by kernel_rfl) (fun _ _ _ h => h) (by kernel_rfl) (by assumption) ?_ ?_
                    · intro w hSw
                      (try dsimp only at hSw)
                      go_simp
                    simp only [Act.put, List.setIfInBounds_toArray, List.set_cons_zero, List.set_cons_succ]
                    refine handRead 3 (some 169) (.slice (some ⟨gg, go, none⟩) g.length y5) rfl rfl (by kernel_rfl) (by kernel_rfl) (by kernel_rfl) (fun _ _ _ h => h) (by kernel_rfl) (by assumption) ?_ ?_
                    · intro w hSw
                      (try dsimp only at hSw)
                      go_simp
                    simp only [Act.put, List.setIfInBounds_toArray, List.set_cons_zero, List.set_cons_succ]
                    refine handRead 4 (some 170) (.int .i64 (k : Int)) rfl rfl (by kernel_rfl) (by kernel_rfl) (by kernel_rfl) (fun _ _ _ h => h) (by kernel_rfl) (by assumption) ?_ ?_
                    · intro w hSw
                      (try dsimp only at hSw)
                      go_simp
                    simp only [Act.put, List.setIfInBounds_toArray, List.set_cons_zero, List.set_cons_succ]
                    refine handRead 5 (some 171) (.pointer (some ⟨gg, go + k, none⟩)) rfl rfl (by kernel_rfl) (by kernel_rfl) (by kernel_rfl) (fun _ _ _ h => h) (by kernel_rfl) (by assumption) ?_ ?_
                    · intro w hSw
                      (try dsimp only at hSw)
                      go_simp
                    simp only [Act.put, List.setIfInBounds_toArray, List.set_cons_zero, List.set_cons_succ]
                    refine handRead 6 (some 172) (.int .i64 z) rfl rfl (by kernel_rfl) (by kernel_rfl) (by kernel_rfl) (fun _ _ _ h => h) (by kernel_rfl) (by assumption) ?_ ?_
                    · intro w hSw
                      (try dsimp only at hSw)
                      go_simp
                    simp only [Act.put, List.setIfInBounds_toArray, List.set_cons_zero, List.set_cons_succ]
                    refine handRead 7 (some 173) (.slice (some ⟨gg, go, none⟩) g.length y5) rfl rfl (by kernel_rfl) (by kernel_rfl) (by kernel_rfl) (fun _ _ _ h => h) (by kernel_rfl) (by assumption) ?_ ?_
                    · intro w hSw
                      (try dsimp only at hSw)
                      go_simp
                    simp only [Act.put, List.setIfInBounds_toArray, List.set_cons_zero, List.set_cons_succ]
                    refine handRead 8 (some 174) (.int .i64 (rt : Int)) rfl rfl (by kernel_rfl) (by kernel_rfl) (by kernel_rfl) (fun _ _ _ h => h) (by kernel_rfl) (by assumption) ?_ ?_
                    · intro w hSw
                      (try dsimp only at hSw)
                      go_simp
                    simp only [Act.put, List.setIfInBounds_toArray, List.set_cons_zero, List.set_cons_succ]
                    refine handRead 9 (some 175) (.pointer (some ⟨gg, go + rt, none⟩)) rfl rfl (by kernel_rfl) (by kernel_rfl) (by kernel_rfl) (fun _ _ _ h => h) (by kernel_rfl) (by assumption) ?_ ?_
                    · intro w hSw
                      (try dsimp only at hSw)
                      go_simp
                    simp only [Act.put, List.setIfInBounds_toArray, List.set_cons_zero, List.set_cons_succ]
                    refine handRead 10 (some 176) (.int .i64 z) rfl rfl (by kernel_rfl) (by kernel_rfl) (by kernel_rfl) (fun _ _ _ h => h) (by kernel_rfl) (by assumption) ?_ ?_
                    · intro w hSw
                      (try dsimp only at hSw)
                      go_simp
                    simp only [Act.put, List.setIfInBounds_toArray, List.set_cons_zero, List.set_cons_succ]
                    refine handRead 11 (some 177) (.bool true) rfl rfl (by kernel_rfl) (by kernel_rfl) (by kernel_rfl) (fun _ _ _ h => h) (by kernel_rfl) (by assumption) ?_ ?_
                    · intro w hSw
                      (try dsimp only at hSw)
                      go_simp
                    simp only [Act.put, List.setIfInBounds_toArray, List.set_cons_zero, List.set_cons_succ]
                    refine handCall 2 (some 168) 13 #[.slice xc cl.length yc, .int .i64 (k : Int)] (by kernel_rfl) rfl rfl (by kernel_rfl) (by simp [go_sem]) ((CH.out).mono ?_)
                    rintro e w4 ⟨rfl, rfl⟩
                    refine ⟨_, rfl, (by exact hHeld), fun hHeld => ?_⟩
                    simp only [Act.put, List.setIfInBounds_toArray, List.set_cons_zero, List.set_cons_succ]
                    refine handRead 12 (some 178) (.bool false) rfl rfl (by kernel_rfl) (by kernel_rfl) (by kernel_rfl) (fun _ _ _ h => h) (by kernel_rfl) (by assumption) ?_ ?_
                    · intro w hSw
                      (try dsimp only at hSw)
                      go_simp
                    simp only [Act.put, List.setIfInBounds_toArray, List.set_cons_zero, List.set_cons_succ]
                    refine wpAnyH_done (by kernel_rfl) ?_ _
                    clear SA0
                    have HOD : Hid (Since wc.heap.size wc wk.drew) := HO.out.drew
                    clear HX HO
                    go_wp2
                    go_roundw
                    case rel => exact ⟨k + 1, by omega, by go_num, HOD.out⟩
                    case measure => simp [intOf]; omega
                  · have HM : Hid (decide ((k : Int) ∈ cl) = false) := decide_eq_false (fun h => he (HG.1 h))
                    have CH : Hid (Calls Try.prog 13 #[.slice xc cl.length yc, .int .i64 (k : Int)] wk.drew fun e W' => e = .returned (.bool false) ∧ W' = wk.drew) := by
                      have := hasT_any wk.drew (.slice xc cl.length yc) cl (k : Int) (OC.out.below (HO.out.1.trans (below_drewN (Below.refl _ wk) 1))).reads (Nat.le_trans HCL.out (by decide))
                      rwa [HM.out] at this
                    have HNE : Hid (¬ g[k] = g[rt]) := he
                    have HX : Hid (∀ w', Since w6.heap.size w6 w' → w'.cell? ⟨gg, go + k, none⟩ = some (.int .i64 g[k]) ∧ w'.cell? ⟨gg, go + rt, none⟩ = some (.int .i64 g[rt])) := fun w' hs => ⟨HGR.out w' hs k hkn hkg, HGR.out w' hs rt hrn hrg⟩
                    clear he HG
                    generalize g[k] = zk at *
                    generalize g[rt] = zr at *
                    go_wp2
                    have SA0 := SK.out
                    refine wp_region_held_drew (S := (fun w' => w'.cell? ⟨gg, go + k, none⟩ = some (.int .i64 zk) ∧ w'.cell? ⟨gg, go + rt, none⟩ = some (.int .i64 zr))) (by kernel_rfl) ?_ (fun hHeld => ?_)
                    · exact HX.out _ SA0.drew
                    refine handRead 0 (some 166) (.slice xc cl.length yc) rfl rfl (by kernel_rfl) (by kernel_rfl) (by kernel_rfl) (fun _ _ _ h => h) (by kernel_rfl) (by assumption) ?_ ?_
                    · intro w hSw
                      (try dsimp only at hSw)
                      go_simp
                    simp only [Act.put, List.setIfInBounds_toArray, List.set_cons_zero, List.set_cons_succ]
                    refine handRead 1 (some 167) (.int .i64 (k : Int)) rfl rfl (by kernel_rfl) (by kernel_rfl) (by kernel_rfl) (fun _ _ _ h => h) (by kernel_rfl) (by assumption) ?_ ?_
                    · intro w hSw
                      (try dsimp only at hSw)
                      go_simp
                    simp only [Act.put, List.setIfInBounds_toArray, List.set_cons_zero, List.set_cons_succ]
                    refine handRead 3 (some 169) (.slice (some ⟨gg, go, none⟩) g.length y5) rfl rfl (by kernel_rfl) (by kernel_rfl) (by kernel_rfl) (fun _ _ _ h => h) (by kernel_rfl) (by assumption) ?_ ?_
                    · intro w hSw
                      (try dsimp only at hSw)
                      go_simp
                    simp only [Act.put, List.setIfInBounds_toArray, List.set_cons_zero, List.set_cons_succ]
                    refine handRead 4 (some 170) (.int .i64 (k : Int)) rfl rfl (by kernel_rfl) (by kernel_rfl) (by kernel_rfl) (fun _ _ _ h => h) (by kernel_rfl) (by assumption) ?_ ?_
                    · intro w hSw
                      (try dsimp only at hSw)
                      go_simp
                    simp only [Act.put, List.setIfInBounds_toArray, List.set_cons_zero, List.set_cons_succ]
                    refine handRead 5 (some 171) (.pointer (some ⟨gg, go + k, none⟩)) rfl rfl (by kernel_rfl) (by kernel_rfl) (by kernel_rfl) (fun _ _ _ h => h) (by kernel_rfl) (by assumption) ?_ ?_
                    · intro w hSw
                      (try dsimp only at hSw)
                      go_simp
                    simp only [Act.put, List.setIfInBounds_toArray, List.set_cons_zero, List.set_cons_succ]
                    refine handRead 6 (some 172) (.int .i64 zk) rfl rfl (by kernel_rfl) (by kernel_rfl) (by kernel_rfl) (fun _ _ _ h => h) (by kernel_rfl) (by assumption) ?_ ?_
                    · intro w hSw
                      (try dsimp only at hSw)
                      go_simp
                    simp only [Act.put, List.setIfInBounds_toArray, List.set_cons_zero, List.set_cons_succ]
                    refine handRead 7 (some 173) (.slice (some ⟨gg, go, none⟩) g.length y5) rfl rfl (by kernel_rfl) (by kernel_rfl) (by kernel_rfl) (fun _ _ _ h => h) (by kernel_rfl) (by assumption) ?_ ?_
                    · intro w hSw
                      (try dsimp only at hSw)
                      go_simp
                    simp only [Act.put, List.setIfInBounds_toArray, List.set_cons_zero, List.set_cons_succ]
                    refine handRead 8 (some 174) (.int .i64 (rt : Int)) rfl rfl (by kernel_rfl) (by kernel_rfl) (by kernel_rfl) (fun _ _ _ h => h) (by kernel_rfl) (by assumption) ?_ ?_
                    · intro w hSw
                      (try dsimp only at hSw)
                      go_simp
                    simp only [Act.put, List.setIfInBounds_toArray, List.set_cons_zero, List.set_cons_succ]
                    refine handRead 9 (some 175) (.pointer (some ⟨gg, go + rt, none⟩)) rfl rfl (by kernel_rfl) (by kernel_rfl) (by kernel_rfl) (fun _ _ _ h => h) (by kernel_rfl) (by assumption) ?_ ?_
                    · intro w hSw
                      (try dsimp only at hSw)
                      go_simp
                    simp only [Act.put, List.setIfInBounds_toArray, List.set_cons_zero, List.set_cons_succ]
                    refine handRead 10 (some 176) (.int .i64 zr) rfl rfl (by kernel_rfl) (by kernel_rfl) (by kernel_rfl) (fun _ _ _ h => h) (by kernel_rfl) (by assumption) ?_ ?_
                    · intro w hSw
                      (try dsimp only at hSw)
                      go_simp
                    simp only [Act.put, List.setIfInBounds_toArray, List.set_cons_zero, List.set_cons_succ]
                    refine handRead 11 (some 177) (.bool false) rfl rfl (by kernel_rfl) (by kernel_rfl) (by kernel_rfl) (fun _ _ _ h => h) (by kernel_rfl) (by assumption) ?_ ?_
                    · intro w hSw
                      (try dsimp only at hSw)
                      go_simp
                      exact HNE.out
                    simp only [Act.put, List.setIfInBounds_toArray, List.set_cons_zero, List.set_cons_succ]
                    refine handCall 2 (some 168) 13 #[.slice xc cl.length yc, .int .i64 (k : Int)] (by kernel_rfl) rfl rfl (by kernel_rfl) (by simp [go_sem]) ((CH.out).mono ?_)
                    rintro e w4 ⟨rfl, rfl⟩
                    refine ⟨_, rfl, (by exact hHeld), fun hHeld => ?_⟩
                    simp only [Act.put, List.setIfInBounds_toArray, List.set_cons_zero, List.set_cons_succ]
                    refine handRead 12 (some 178) (.bool false) rfl rfl (by kernel_rfl) (by kernel_rfl) (by kernel_rfl) (fun _ _ _ h => h) (by kernel_rfl) (by assumption) ?_ ?_
                    · intro w hSw
                      (try dsimp only at hSw)
                      go_simp
                    simp only [Act.put, List.setIfInBounds_toArray, List.set_cons_zero, List.set_cons_succ]
                    refine wpAnyH_done (by kernel_rfl) ?_ _
                    clear SA0
                    have HOD : Hid (Since wc.heap.size wc wk.drew) := HO.out.drew
                    clear HX HO
                    go_wp2
                    go_roundw
                    case rel => exact ⟨k + 1, by omega, by go_num, HOD.out⟩
                    case measure => simp [intOf]; omega
                · have hkg' : ¬ (k : Int) < (g.length : Int) := by omega
                  have SD : Hid (Since w6.heap.size w6 wr) := SC.out.tran HO.out
                  clear HO OC SC
                  go_wp2
                  go_roundw
                  case rel => exact ⟨j + 1, by omega, by go_num, SD.out⟩
                  case measure => simp [intOf]; omega
        · have HNE : Hid (¬ g[j] = g[rt]) := he
          have HX : Hid (∀ w', Since w6.heap.size w6 w' → w'.cell? ⟨gg, go + j, none⟩ = some (.int .i64 g[j]) ∧ w'.cell? ⟨gg, go + rt, none⟩ = some (.int .i64 g[rt])) := fun w' hs => ⟨HGR.out w' hs j hlt hjg, HGR.out w' hs rt hrn hrg⟩
          clear he
          generalize g[j] = zj at *
          generalize g[rt] = zr at *
          go_wp2
          have SA0 := HK.out
          refine wp_region_held_drew (S := (fun w' => w'.cell? ⟨gg, go + j, none⟩ = some (.int .i64 zj) ∧ w'.cell? ⟨gg, go + rt, none⟩ = some (.int .i64 zr))) (by kernel_rfl) ?_ (fun hHeld => ?_)
          · exact HX.out _ SA0.drew
          refine handRead 0 (some 101) (.slice (some ⟨gg, go, none⟩) g.length y5) rfl rfl (by kernel_rfl) (by kernel_rfl) (by kernel_rfl) (fun _ _ _ h => h) (by kernel_rfl) (by assumption) ?_ ?_
          · intro w hSw
            (try dsimp only at hSw)
            go_simp
          simp only [Act.put, List.setIfInBounds_toArray, List.set_cons_zero, List.set_cons_succ]
          refine handRead 1 (some 102) (.int .i64 (j : Int)) rfl rfl (by kernel_rfl) (by kernel_rfl) (by kernel_rfl) (fun _ _ _ h => h) (by kernel_rfl) (by assumption) ?_ ?_
          · intro w hSw
            (try dsimp only at hSw)
            go_simp
          simp only [Act.put, List.setIfInBounds_toArray, List.set_cons_zero, List.set_cons_succ]
          refine handRead 2 (some 103) (.pointer (some ⟨gg, go + j, none⟩)) rfl rfl (by kernel_rfl) (by kernel_rfl) (by kernel_rfl) (fun _ _ _ h => h) (by kernel_rfl) (by assumption) ?_ ?_
          · intro w hSw
            (try dsimp only at hSw)
            go_simp
          simp only [Act.put, List.setIfInBounds_toArray, List.set_cons_zero, List.set_cons_succ]
          refine handRead 3 (some 104) (.int .i64 zj) rfl rfl (by kernel_rfl) (by kernel_rfl) (by kernel_rfl) (fun _ _ _ h => h) (by kernel_rfl) (by assumption) ?_ ?_
          · intro w hSw
            (try dsimp only at hSw)
            go_simp
          simp only [Act.put, List.setIfInBounds_toArray, List.set_cons_zero, List.set_cons_succ]
          refine handRead 4 (some 105) (.slice (some ⟨gg, go, none⟩) g.length y5) rfl rfl (by kernel_rfl) (by kernel_rfl) (by kernel_rfl) (fun _ _ _ h => h) (by kernel_rfl) (by assumption) ?_ ?_
          · intro w hSw
            (try dsimp only at hSw)
            go_simp
          simp only [Act.put, List.setIfInBounds_toArray, List.set_cons_zero, List.set_cons_succ]
          refine handRead 5 (some 106) (.int .i64 (rt : Int)) rfl rfl (by kernel_rfl) (by kernel_rfl) (by kernel_rfl) (fun _ _ _ h => h) (by kernel_rfl) (by assumption) ?_ ?_
          · intro w hSw
            (try dsimp only at hSw)
            go_simp
          simp only [Act.put, List.setIfInBounds_toArray, List.set_cons_zero, List.set_cons_succ]
          refine handRead 6 (some 107) (.pointer (some ⟨gg, go + rt, none⟩)) rfl rfl (by kernel_rfl) (by kernel_rfl) (by kernel_rfl) (fun _ _ _ h => h) (by kernel_rfl) (by assumption) ?_ ?_
          · intro w hSw
            (try dsimp only at hSw)
            go_simp
          simp only [Act.put, List.setIfInBounds_toArray, List.set_cons_zero, List.set_cons_succ]
          refine handRead 7 (some 108) (.int .i64 zr) rfl rfl (by kernel_rfl) (by kernel_rfl) (by kernel_rfl) (fun _ _ _ h => h) (by kernel_rfl) (by assumption) ?_ ?_
          · intro w hSw
            (try dsimp only at hSw)
            go_simp
          simp only [Act.put, List.setIfInBounds_toArray, List.set_cons_zero, List.set_cons_succ]
          refine handRead 8 (some 109) (.bool true) rfl rfl (by kernel_rfl) (by kernel_rfl) (by kernel_rfl) (fun _ _ _ h => h) (by kernel_rfl) (by assumption) ?_ ?_
          · intro w hSw
            (try dsimp only at hSw)
            go_simp
            exact HNE.out
          simp only [Act.put, List.setIfInBounds_toArray, List.set_cons_zero, List.set_cons_succ]
          refine wpAnyH_done (by kernel_rfl) ?_ _
          clear SA0
          have HKD : Hid (Since w6.heap.size w6 wo.drew) := HK.out.drew
          clear HX HK
          go_wp2
          go_roundw
          case rel => exact ⟨j + 1, by omega, by go_num, HKD.out⟩
          case measure => simp [intOf]; omega
      · have hlt' : ¬ (j : Int) < (n : Int) := by omega
        obtain ⟨w6b, rfl⟩ : ∃ w6b, w6b = wr := ⟨_, rfl⟩
        have S6b : Hid (Since w.heap.size w w6b) := S6.out.tran HK.out
        have L6b : Hid (OwnEd w6b w.heap.size (.slice x1 l.length y1) l) := L6.out.below HK.out.1
        have P6b : Hid (Own w6b w.heap.size (.slice x2 p.length y2) p) := P6.out.below HK.out.1
        have G6b : Hid (Own w6b w.heap.size (.slice (some ⟨gg, go, none⟩) g.length y5) g) := G6.out.below HK.out.1
        clear HSP L6 P6
        go_wp2_with fail
        refine (CF1.out _ _ L6b.out.reads).mono ?_
        rintro e w7 ⟨u7, rfl, ho7, hb7⟩
        have S7 : Hid (Since w.heap.size w w7) := S6b.out.step hb7
        have L7 : Hid (OwnEd w7 w.heap.size (.slice x1 l.length y1) l) := L6b.out.below hb7
        have P7 : Hid (Own w7 w.heap.size (.slice x2 p.length y2) p) := P6b.out.below hb7
        obtain ⟨x7, y7, rfl⟩ := ho7.shape
        have F7 : Hid (Own w7 w.heap.size (.slice x7 f.length y7) f) := ho7.mono S6b.out.2
        clear ho7
        have HS67 : Hid (Since w6b.heap.size w6b w7) := (Since.start w6b).step hb7
        clear hb7
        have HG7 : Hid (∀ W', Since w7.heap.size w7 W' → ∀ i (hi : i < n) (hi' : i < g.length), W'.cell? ⟨gg, go + i, none⟩ = some (.int .i64 g[i])) := fun W' hs i hi hi' => HGR.out W' (HK.out.tran (HS67.out.tran hs)) i hi hi'
        clear CF1 HGR HK G6b L6b P6b HS67
        have HFC : Hid (∀ i, i < n → ∃ gf fo, x7 = some ⟨gf, fo, none⟩ ∧ ∀ W', Since w7.heap.size w7 W' → ∀ hi : i < f.length, W'.cell? ⟨gf, fo + i, none⟩ = some (.int .i64 f[i])) := fun i hi => own_cellsT F7.out i (by omega)
        have HS7 : Hid (Since w7.heap.size w7 w7) := Since.start w7
        go_wp2
        go_loopw [189] (fun i wr => ∃ k : Nat, k ≤ n ∧ i = .int .i64 (k : Int) ∧ Hid (Since w7.heap.size w7 wr)) (fun i _ => n - (intOf i).toNat)
        case atStart => exact ⟨0, Nat.zero_le _, rfl, HS7.out⟩
        case round =>
          clear HS7
          obtain ⟨k, hk, rfl, HK⟩ := hrel
          by_cases hkn : k < n
          · have hkg : k < g.length := by omega
            have hkg' : (k : Int) < (g.length : Int) := by omega
            have hkp' : (k : Int) < (p.length : Int) := by omega
            have hkf : k < f.length := by omega
            have hkf' : (k : Int) < (f.length : Int) := by omega
            obtain ⟨wk, rfl⟩ : ∃ wk, wk = wr := ⟨_, rfl⟩
            obtain ⟨g1, g2⟩ := HWY.out k hkn
            rw [lab_get g k hkg, lab_get g rt hrg] at g1
            rw [lab_get f k hkf] at g2
            have hol := otOut_len p rt k
            have CO : Hid (Calls Try.prog 15 #[.slice x2 p.length y2, .int .i64 (rt : Int), .int .i64 (k : Int)] wk (NearPost wk (otOut p rt k) (otOk p rt k))) := implOnTree_any wk w.heap.size (.slice x2 p.length y2) p (rt : Int) (k : Int) (P7.out.below HK.out.1) (Nat.le_trans HPL.out (by decide))
            have HOL : Hid ((otOut p rt k).length ≤ 1048576) := by
              show _ ≤ _
              unfold otOut
              split
              · have := onOut_len p rt k; have := HPL.out; omega
              · simp
            generalize otOut p (rt : Int) (k : Int) = ws at *
            generalize otOk p (rt : Int) (k : Int) = three at *
            obtain ⟨gf, fo, rfl, hfk⟩ := HFC.out k hkn
            have HFK : Hid (∀ W', Since w7.heap.size w7 W' → W'.cell? ⟨gf, fo + k, none⟩ = some (.int .i64 f[k])) := fun W' hs => hfk W' hs hkf
            have HT : Hid (three = decide (g[k] = g[rt]) ∧ (three = true → ws.length ≤ 12 ∧ pathOk n l ws = true ∧ pathCost n l ws = f[k])) := ⟨g1, g2⟩
            clear hfk g1 g2 hol
            go_wp2_with fail
            refine CO.out.mono ?_
            rintro e wl ⟨ul, rfl, hol, hbl⟩
            obtain ⟨xl, yl, rfl⟩ := hol.shape
            have SL : Hid (Since w7.heap.size w7 wl) := HK.out.step hbl
            have WL : Hid (Own wl wk.heap.size (.slice xl ws.length yl) ws) := hol
            have CC : Hid (Calls Try.prog 16 #[.int .i64 (n : Int), .slice x1 l.length y1, .slice xl ws.length yl] wl (CostPost wl (pathCost n l ws) (pathOk n l ws))) := implCostOf_any wl wk.heap.size (.slice x1 l.length y1) (.slice xl ws.length yl) (n : Int) l ws (L7.out.below SL.out.1).reads WL.out (Nat.le_trans hl40 (by decide)) HOL.out
            clear hol hbl CO HK WL
            go_wp2_with fail
            refine CC.out.mono ?_
            rintro e wm ⟨rfl, hbm⟩
            have SM : Hid (Since w7.heap.size w7 wm) := SL.out.step hbm
            clear hbm CC SL
            go_wp2
            have SA0 := SM.out
            cases three with
            | true =>
              obtain ⟨t1, t2⟩ := HT.out
              have he : g[k] = g[rt] := of_decide_eq_true t1.symm
              obtain ⟨t3, t4, t5⟩ := t2 rfl
              rw [t4, t5]
              obtain ⟨z, hz⟩ : ∃ z, z = g[rt] := ⟨_, rfl⟩
              have HX : Hid (∀ w', Since w7.heap.size w7 w' → w'.cell? ⟨gg, go + k, none⟩ = some (.int .i64 z) ∧ w'.cell? ⟨gg, go + rt, none⟩ = some (.int .i64 z) ∧ w'.cell? ⟨gf, fo + k, none⟩ = some (.int .i64 f[k])) := fun w' hs => ⟨by rw [hz, ← he]; exact HG7.out w' hs k hkn hkg, by rw [hz]; exact HG7.out w' hs rt hrn hrg, HFK.out w' hs⟩
              clear hz he t1 t2 t3 t4 t5 HT
              generalize f[k] = zf at *
              go_wp2
              refine wp_region_held_drew (S := (fun w' => w'.cell? ⟨gg, go + k, none⟩ = some (.int .i64 z) ∧ w'.cell? ⟨gg, go + rt, none⟩ = some (.int .i64 z) ∧ w'.cell? ⟨gf, fo + k, none⟩ = some (.int .i64 zf))) (by kernel_rfl) ?_ (fun hHeld => ?_)
              · exact HX.out _ SA0.drew
              refine handRead 0 (some 206) (.bool true) rfl rfl (by kernel_rfl) (by kernel_rfl) (by kernel_rfl) (fun _ _ _ h => h) (by kernel_rfl) (by assumption) ?_ ?_
              · intro w hSw
                (try dsimp only at hSw)
                go_simp
              simp only [Act.put, List.setIfInBounds_toArray, List.set_cons_zero, List.set_cons_succ]
              refine handRead 1 (some 207) (.bool false) rfl rfl (by kernel_rfl) (by kernel_rfl) (by kernel_rfl) (fun _ _ _ h => h) (by kernel_rfl) (by assumption) ?_ ?_
              · intro w hSw
                (try dsimp only at hSw)
                go_simp
              simp only [Act.put, List.setIfInBounds_toArray, List.set_cons_zero, List.set_cons_succ]
              refine handRead 2 (some 208) (.bool false) rfl rfl (by kernel_rfl) (by kernel_rfl) (by kernel_rfl) (fun _ _ _ h => h) (by kernel_rfl) (by assumption) ?_ ?_
              · intro w hSw
                (try dsimp only at hSw)
                go_simp
              simp only [Act.put, List.setIfInBounds_toArray, List.set_cons_zero, List.set_cons_succ]
              refine handRead 3 (some 209) (.bool true) rfl rfl (by kernel_rfl) (by kernel_rfl) (by kernel_rfl) (fun _ _ _ h => h) (by kernel_rfl) (by assumption) ?_ ?_
              · intro w hSw
                (try dsimp only at hSw)
                go_simp
              simp only [Act.put, List.setIfInBounds_toArray, List.set_cons_zero, List.set_cons_succ]
              refine handRead 4 (some 210) (.slice (some ⟨gg, go, none⟩) g.length y5) rfl rfl (by kernel_rfl) (by kernel_rfl) (by kernel_rfl) (fun _ _ _ h => h) (by kernel_rfl) (by assumption) ?_ ?_
              · intro w hSw
                (try dsimp only at hSw)
                go_simp
              simp only [Act.put, List.setIfInBounds_toArray, List.set_cons_zero, List.set_cons_succ]
              refine handRead 5 (some 211) (.int .i64 (k : Int)) rfl rfl (by kernel_rfl) (by kernel_rfl) (by kernel_rfl) (fun _ _ _ h => h) (by kernel_rfl) (by assumption) ?_ ?_
              · intro w hSw
                (try dsimp only at hSw)
                go_simp
              simp only [Act.put, List.setIfInBounds_toArray, List.set_cons_zero, List.set_cons_succ]
              refine handRead 6 (some 212) (.pointer (some ⟨gg, go + k, none⟩)) rfl rfl (by kernel_rfl) (by kernel_rfl) (by kernel_rfl) (fun _ _ _ h => h) (by kernel_rfl) (by assumption) ?_ ?_
              · intro w hSw
                (try dsimp only at hSw)
                go_simp
              simp only [Act.put, List.setIfInBounds_toArray, List.set_cons_zero, List.set_cons_succ]
              refine handRead 7 (some 213) (.int .i64 z) rfl rfl (by kernel_rfl) (by kernel_rfl) (by kernel_rfl) (fun _ _ _ h => h) (by kernel_rfl) (by assumption) ?_ ?_
              · intro w hSw
                (try dsimp only at hSw)
                go_simp
              simp only [Act.put, List.setIfInBounds_toArray, List.set_cons_zero, List.set_cons_succ]
              refine handRead 8 (some 214) (.slice (some ⟨gg, go, none⟩) g.length y5) rfl rfl (by kernel_rfl) (by kernel_rfl) (by kernel_rfl) (fun _ _ _ h => h) (by kernel_rfl) (by assumption) ?_ ?_
              · intro w hSw
                (try dsimp only at hSw)
                go_simp
              simp only [Act.put, List.setIfInBounds_toArray, List.set_cons_zero, List.set_cons_succ]
              refine handRead 9 (some 215) (.int .i64 (rt : Int)) rfl rfl (by kernel_rfl) (by kernel_rfl) (by kernel_rfl) (fun _ _ _ h => h) (by kernel_rfl) (by assumption) ?_ ?_
              · intro w hSw
                (try dsimp only at hSw)
                go_simp
              simp only [Act.put, List.setIfInBounds_toArray, List.set_cons_zero, List.set_cons_succ]
              refine handRead 10 (some 216) (.pointer (some ⟨gg, go + rt, none⟩)) rfl rfl (by kernel_rfl) (by kernel_rfl) (by kernel_rfl) (fun _ _ _ h => h) (by kernel_rfl) (by assumption) ?_ ?_
              · intro w hSw
                (try dsimp only at hSw)
                go_simp
              simp only [Act.put, List.setIfInBounds_toArray, List.set_cons_zero, List.set_cons_succ]
              refine handRead 11 (some 217) (.int .i64 z) rfl rfl (by kernel_rfl) (by kernel_rfl) (by kernel_rfl) (fun _ _ _ h => h) (by kernel_rfl) (by assumption) ?_ ?_
              · intro w hSw
                (try dsimp only at hSw)
                go_simp
              simp only [Act.put, List.setIfInBounds_toArray, List.set_cons_zero, List.set_cons_succ]
              refine handRead 12 (some 218) (.bool true) rfl rfl (by kernel_rfl) (by kernel_rfl) (by kernel_rfl) (fun _ _ _ h => h) (by kernel_rfl) (by assumption) ?_ ?_
              · intro w hSw
                (try dsimp only at hSw)
                go_simp
              simp only [Act.put, List.setIfInBounds_toArray, List.set_cons_zero, List.set_cons_succ]
              refine handRead 13 (some 219) (.bool false) rfl rfl (by kernel_rfl) (by kernel_rfl) (by kernel_rfl) (fun _ _ _ h => h) (by kernel_rfl) (by assumption) ?_ ?_
              · intro w hSw
                (try dsimp only at hSw)
                go_simp
              simp only [Act.put, List.setIfInBounds_toArray, List.set_cons_zero, List.set_cons_succ]
              refine handRead 14 (some 220) (.bool false) rfl rfl (by kernel_rfl) (by kernel_rfl) (by kernel_rfl) (fun _ _ _ h => h) (by kernel_rfl) (by assumption) ?_ ?_
              · intro w hSw
                (try dsimp only at hSw)
                go_simp
              simp only [Act.put, List.setIfInBounds_toArray, List.set_cons_zero, List.set_cons_succ]
              refine handRead 15 (some 221) (.bool false) rfl rfl (by kernel_rfl) (by kernel_rfl) (by kernel_rfl) (fun _ _ _ h => h) (by kernel_rfl) (by assumption) ?_ ?_
              · intro w hSw
                (try dsimp only at hSw)
                go_simp
              simp only [Act.put, List.setIfInBounds_toArray, List.set_cons_zero, List.set_cons_succ]
              refine handRead 16 (some 222) (.bool true) rfl rfl (by kernel_rfl) (by kernel_rfl) (by kernel_rfl) (fun _ _ _ h => h) (by kernel_rfl) (by assumption) ?_ ?_
              · intro w hSw
                (try dsimp only at hSw)
                go_simp
              simp only [Act.put, List.setIfInBounds_toArray, List.set_cons_zero, List.set_cons_succ]
              refine handRead 17 (some 223) (.bool true) rfl rfl (by kernel_rfl) (by kernel_rfl) (by kernel_rfl) (fun _ _ _ h => h) (by kernel_rfl) (by assumption) ?_ ?_
              · intro w hSw
                (try dsimp only at hSw)
                go_simp
              simp only [Act.put, List.setIfInBounds_toArray, List.set_cons_zero, List.set_cons_succ]
              refine handRead 18 (some 224) (.bool true) rfl rfl (by kernel_rfl) (by kernel_rfl) (by kernel_rfl) (fun _ _ _ h => h) (by kernel_rfl) (by assumption) ?_ ?_
              · intro w hSw
                (try dsimp only at hSw)
                go_simp
              simp only [Act.put, List.setIfInBounds_toArray, List.set_cons_zero, List.set_cons_succ]
              refine handRead 19 (some 225) (.bool false) rfl rfl (by kernel_rfl) (by kernel_rfl) (by kernel_rfl) (fun _ _ _ h => h) (by kernel_rfl) (by assumption) ?_ ?_
              · intro w hSw
                (try dsimp only at hSw)
                go_simp
              simp only [Act.put, List.setIfInBounds_toArray, List.set_cons_zero, List.set_cons_succ]
              refine handRead 20 (some 226) (.bool false) rfl rfl (by kernel_rfl) (by kernel_rfl) (by kernel_rfl) (fun _ _ _ h => h) (by kernel_rfl) (by assumption) ?_ ?_
              · intro w hSw
                (try dsimp only at hSw)
                go_simp
              simp only [Act.put, List.setIfInBounds_toArray, List.set_cons_zero, List.set_cons_succ]
              refine handRead 21 (some 227) (.int .i64 zf) rfl rfl (by kernel_rfl) (by kernel_rfl) (by kernel_rfl) (fun _ _ _ h => h) (by kernel_rfl) (by assumption) ?_ ?_
              · intro w hSw
                (try dsimp only at hSw)
                go_simp
              simp only [Act.put, List.setIfInBounds_toArray, List.set_cons_zero, List.set_cons_succ]
              refine handRead 22 (some 228) (.slice (some ⟨gf, fo, none⟩) f.length y7) rfl rfl (by kernel_rfl) (by kernel_rfl) (by kernel_rfl) (fun _ _ _ h => h) (by kernel_rfl) (by assumption) ?_ ?_
              · intro w hSw
                (try dsimp only at hSw)
                go_simp
              simp only [Act.put, List.setIfInBounds_toArray, List.set_cons_zero, List.set_cons_succ]
              refine handRead 23 (some 229) (.int .i64 (k : Int)) rfl rfl (by kernel_rfl) (by kernel_rfl) (by kernel_rfl) (fun _ _ _ h => h) (by kernel_rfl) (by assumption) ?_ ?_
              · intro w hSw
                (try dsimp only at hSw)
                go_simp
              simp only [Act.put, List.setIfInBounds_toArray, List.set_cons_zero, List.set_cons_succ]
              refine handRead 24 (some 230) (.pointer (some ⟨gf, fo + k, none⟩)) rfl rfl (by kernel_rfl) (by kernel_rfl) (by kernel_rfl) (fun _ _ _ h => h) (by kernel_rfl) (by assumption) ?_ ?_
              · intro w hSw
                (try dsimp only at hSw)
                go_simp
              simp only [Act.put, List.setIfInBounds_toArray, List.set_cons_zero, List.set_cons_succ]
              refine handRead 25 (some 231) (.int .i64 zf) rfl rfl (by kernel_rfl) (by kernel_rfl) (by kernel_rfl) (fun _ _ _ h => h) (by kernel_rfl) (by assumption) ?_ ?_
              · intro w hSw
                (try dsimp only at hSw)
                go_simp
              simp only [Act.put, List.setIfInBounds_toArray, List.set_cons_zero, List.set_cons_succ]
              refine handRead 26 (some 232) (.bool false) rfl rfl (by kernel_rfl) (by kernel_rfl) (by kernel_rfl) (fun _ _ _ h => h) (by kernel_rfl) (by assumption) ?_ ?_
              · intro w hSw
                (try dsimp only at hSw)
                go_simp
              simp only [Act.put, List.setIfInBounds_toArray, List.set_cons_zero, List.set_cons_succ]
              refine handRead 27 (some 233) (.bool false) rfl rfl (by kernel_rfl) (by kernel_rfl) (by kernel_rfl) (fun _ _ _ h => h) (by kernel_rfl) (by assumption) ?_ ?_
              · intro w hSw
                (try dsimp only at hSw)
                go_simp
              simp only [Act.put, List.setIfInBounds_toArray, List.set_cons_zero, List.set_cons_succ]
              refine handRead 28 (some 234) (.bool false) rfl rfl (by kernel_rfl) (by kernel_rfl) (by kernel_rfl) (fun _ _ _ h => h) (by kernel_rfl) (by assumption) ?_ ?_
              · intro w hSw
                (try dsimp only at hSw)
                go_simp
              simp only [Act.put, List.setIfInBounds_toArray, List.set_cons_zero, List.set_cons_succ]
              refine handRead 29 (some 235) (.bool false) rfl rfl (by kernel_rfl) (by kernel_rfl) (by kernel_rfl) (fun _ _ _ h => h) (by kernel_rfl) (by assumption) ?_ ?_
              · intro w hSw
                (try dsimp only at hSw)
                go_simp
              simp only [Act.put, List.setIfInBounds_toArray, List.set_cons_zero, List.set_cons_succ]
              refine wpAnyH_done (by kernel_rfl) ?_ _
              clear SA0
              have HOD : Hid (Since w7.heap.size w7 wm.drew) := SM.out.drew
              clear HX
              go_wp2
              go_roundw
              case rel => exact ⟨k + 1, by omega, by go_num, HOD.out⟩
              case measure => simp [intOf]; omega
            | false =>
              obtain ⟨t1, -⟩ := HT.out
              have HNE : Hid (¬ g[k] = g[rt]) := of_decide_eq_false t1.symm
              have HX : Hid (∀ w', Since w7.heap.size w7 w' → w'.cell? ⟨gg, go + k, none⟩ = some (.int .i64 g[k]) ∧ w'.cell? ⟨gg, go + rt, none⟩ = some (.int .i64 g[rt])) := fun w' hs => ⟨HG7.out w' hs k hkn hkg, HG7.out w' hs rt hrn hrg⟩
              clear t1 HT
              generalize g[k] = zk at *
              generalize g[rt] = zr at *
              generalize pathCost (n : Int) l ws = pc at *
              generalize pathOk (n : Int) l ws = po at *
              go_wp2
              refine wp_region_held_drew (S := (fun w' => w'.cell? ⟨gg, go + k, none⟩ = some (.int .i64 zk) ∧ w'.cell? ⟨gg, go + rt, none⟩ = some (.int .i64 zr))) (by kernel_rfl) ?_ (fun hHeld => ?_)
              · exact HX.out _ SA0.drew
              refine handRead 0 (some 206) (.bool true) rfl rfl (by kernel_rfl) (by kernel_rfl) (by kernel_rfl) (fun _ _ _ h => h) (by kernel_rfl) (by assumption) ?_ ?_
              · intro w hSw
                (try dsimp only at hSw)
                go_simp
              simp only [Act.put, List.setIfInBounds_toArray, List.set_cons_zero, List.set_cons_succ]
              refine handRead 1 (some 207) (.bool false) rfl rfl (by kernel_rfl) (by kernel_rfl) (by kernel_rfl) (fun _ _ _ h => h) (by kernel_rfl) (by assumption) ?_ ?_
              · intro w hSw
                (try dsimp only at hSw)
                go_simp
              simp only [Act.put, List.setIfInBounds_toArray, List.set_cons_zero, List.set_cons_succ]
              refine handRead 2 (some 208) (.bool false) rfl rfl (by kernel_rfl) (by kernel_rfl) (by kernel_rfl) (fun _ _ _ h => h) (by kernel_rfl) (by assumption) ?_ ?_
              · intro w hSw
                (try dsimp only at hSw)
                go_simp
              simp only [Act.put, List.setIfInBounds_toArray, List.set_cons_zero, List.set_cons_succ]
              refine handRead 3 (some 209) (.bool false) rfl rfl (by kernel_rfl) (by kernel_rfl) (by kernel_rfl) (fun _ _ _ h => h) (by kernel_rfl) (by assumption) ?_ ?_
              · intro w hSw
                (try dsimp only at hSw)
                go_simp
              simp only [Act.put, List.setIfInBounds_toArray, List.set_cons_zero, List.set_cons_succ]
              refine handRead 4 (some 210) (.slice (some ⟨gg, go, none⟩) g.length y5) rfl rfl (by kernel_rfl) (by kernel_rfl) (by kernel_rfl) (fun _ _ _ h => h) (by kernel_rfl) (by assumption) ?_ ?_
              · intro w hSw
                (try dsimp only at hSw)
                go_simp
              simp only [Act.put, List.setIfInBounds_toArray, List.set_cons_zero, List.set_cons_succ]
              refine handRead 5 (some 211) (.int .i64 (k : Int)) rfl rfl (by kernel_rfl) (by kernel_rfl) (by kernel_rfl) (fun _ _ _ h => h) (by kernel_rfl) (by assumption) ?_ ?_
              · intro w hSw
                (try dsimp only at hSw)
                go_simp
              simp only [Act.put, List.setIfInBounds_toArray, List.set_cons_zero, List.set_cons_succ]
              refine handRead 6 (some 212) (.pointer (some ⟨gg, go + k, none⟩)) rfl rfl (by kernel_rfl) (by kernel_rfl) (by kernel_rfl) (fun _ _ _ h => h) (by kernel_rfl) (by assumption) ?_ ?_
              · intro w hSw
                (try dsimp only at hSw)
                go_simp
              simp only [Act.put, List.setIfInBounds_toArray, List.set_cons_zero, List.set_cons_succ]
              refine handRead 7 (some 213) (.int .i64 zk) rfl rfl (by kernel_rfl) (by kernel_rfl) (by kernel_rfl) (fun _ _ _ h => h) (by kernel_rfl) (by assumption) ?_ ?_
              · intro w hSw
                (try dsimp only at hSw)
                go_simp
              simp only [Act.put, List.setIfInBounds_toArray, List.set_cons_zero, List.set_cons_succ]
              refine handRead 8 (some 214) (.slice (some ⟨gg, go, none⟩) g.length y5) rfl rfl (by kernel_rfl) (by kernel_rfl) (by kernel_rfl) (fun _ _ _ h => h) (by kernel_rfl) (by assumption) ?_ ?_
              · intro w hSw
                (try dsimp only at hSw)
                go_simp
              simp only [Act.put, List.setIfInBounds_toArray, List.set_cons_zero, List.set_cons_succ]
              refine handRead 9 (some 215) (.int .i64 (rt : Int)) rfl rfl (by kernel_rfl) (by kernel_rfl) (by kernel_rfl) (fun _ _ _ h => h) (by kernel_rfl) (by assumption) ?_ ?_
              · intro w hSw
                (try dsimp only at hSw)
                go_simp
              simp only [Act.put, List.setIfInBounds_toArray, List.set_cons_zero, List.set_cons_succ]
              refine handRead 10 (some 216) (.pointer (some ⟨gg, go + rt, none⟩)) rfl rfl (by kernel_rfl) (by kernel_rfl) (by kernel_rfl) (fun _ _ _ h => h) (by kernel_rfl) (by assumption) ?_ ?_
              · intro w hSw
                (try dsimp only at hSw)
                go_simp
              simp only [Act.put, List.setIfInBounds_toArray, List.set_cons_zero, List.set_cons_succ]
              refine handRead 11 (some 217) (.int .i64 zr) rfl rfl (by kernel_rfl) (by kernel_rfl) (by kernel_rfl) (fun _ _ _ h => h) (by kernel_rfl) (by assumption) ?_ ?_
              · intro w hSw
                (try dsimp only at hSw)
                go_simp
              simp only [Act.put, List.setIfInBounds_toArray, List.set_cons_zero, List.set_cons_succ]
              refine handRead 12 (some 218) (.bool false) rfl rfl (by kernel_rfl) (by kernel_rfl) (by kernel_rfl) (fun _ _ _ h => h) (by kernel_rfl) (by assumption) ?_ ?_
              · intro w hSw
                (try dsimp only at hSw)
                go_simp
                exact HNE.out
              simp only [Act.put, List.setIfInBounds_toArray, List.set_cons_zero, List.set_cons_succ]
              refine handRead 13 (some 219) (.bool false) rfl rfl (by kernel_rfl) (by kernel_rfl) (by kernel_rfl) (fun _ _ _ h => h) (by kernel_rfl) (by assumption) ?_ ?_
              · intro w hSw
                (try dsimp only at hSw)
                go_simp
              simp only [Act.put, List.setIfInBounds_toArray, List.set_cons_zero, List.set_cons_succ]
              refine handRead 14 (some 220) (.bool false) rfl rfl (by kernel_rfl) (by kernel_rfl) (by kernel_rfl) (fun _ _ _ h => h) (by kernel_rfl) (by assumption) ?_ ?_
              · intro w hSw
                (try dsimp only at hSw)
                go_simp
              simp only [Act.put, List.setIfInBounds_toArray, List.set_cons_zero, List.set_cons_succ]
              refine handRead 15 (some 221) (.bool false) rfl rfl (by kernel_rfl) (by kernel_rfl) (by kernel_rfl) (fun _ _ _ h => h) (by kernel_rfl) (by assumption) ?_ ?_
              · intro w hSw
                (try dsimp only at hSw)
                go_simp
              simp only [Act.put, List.setIfInBounds_toArray, List.set_cons_zero, List.set_cons_succ]
              refine handRead 16 (some 222) (.bool false) rfl rfl (by kernel_rfl) (by kernel_rfl) (by kernel_rfl) (fun _ _ _ h => h) (by kernel_rfl) (by assumption) ?_ ?_
              · intro w hSw
                (try dsimp only at hSw)
                go_simp
              simp only [Act.put, List.setIfInBounds_toArray, List.set_cons_zero, List.set_cons_succ]
              refine handRead 17 (some 223) (.bool false) rfl rfl (by kernel_rfl) (by kernel_rfl) (by kernel_rfl) (fun _ _ _ h => h) (by kernel_rfl) (by assumption) ?_ ?_
              · intro w hSw
                (try dsimp only at hSw)
                go_simp
              simp only [Act.put, List.setIfInBounds_toArray, List.set_cons_zero, List.set_cons_succ]
              refine handSkip 18 (some 224) rfl rfl (by kernel_rfl) (by kernel_rfl) (by kernel_rfl) (fun _ _ _ h => h) (by kernel_rfl) (by assumption) ?_
              simp only [Act.put, List.setIfInBounds_toArray, List.set_cons_zero, List.set_cons_succ]
              refine handSkip 19 (some 225) rfl rfl (by kernel_rfl) (by kernel_rfl) (by kernel_rfl) (fun _ _ _ h => h) (by kernel_rfl) (by assumption) ?_
              simp only [Act.put, List.setIfInBounds_toArray, List.set_cons_zero, List.set_cons_succ]
              refine handSkip 20 (some 226) rfl rfl (by kernel_rfl) (by kernel_rfl) (by kernel_rfl) (fun _ _ _ h => h) (by kernel_rfl) (by assumption) ?_
              simp only [Act.put, List.setIfInBounds_toArray, List.set_cons_zero, List.set_cons_succ]
              refine handSkip 21 (some 227) rfl rfl (by kernel_rfl) (by kernel_rfl) (by kernel_rfl) (fun _ _ _ h => h) (by kernel_rfl) (by assumption) ?_
              simp only [Act.put, List.setIfInBounds_toArray, List.set_cons_zero, List.set_cons_succ]
              refine handSkip 22 (some 228) rfl rfl (by kernel_rfl) (by kernel_rfl) (by kernel_rfl) (fun _ _ _ h => h) (by kernel_rfl) (by assumption) ?_
              simp only [Act.put, List.setIfInBounds_toArray, List.set_cons_zero, List.set_cons_succ]
              refine handSkip 23 (some 229) rfl rfl (by kernel_rfl) (by kernel_rfl) (by kernel_rfl) (fun _ _ _ h => h) (by kernel_rfl) (by assumption) ?_
              simp only [Act.put, List.setIfInBounds_toArray, List.set_cons_zero, List.set_cons_succ]
              refine handSkip 24 (some 230) rfl rfl (by kernel_rfl) (by kernel_rfl) (by kernel_rfl) (fun _ _ _ h => h) (by kernel_rfl) (by assumption) ?_
              simp only [Act.put, List.setIfInBounds_toArray, List.set_cons_zero, List.set_cons_succ]
              refine handSkip 25 (some 231) rfl rfl (by kernel_rfl) (by kernel_rfl) (by kernel_rfl) (fun _ _ _ h => h) (by kernel_rfl) (by assumption) ?_
              simp only [Act.put, List.setIfInBounds_toArray, List.set_cons_zero, List.set_cons_succ]
              refine handSkip 26 (some 232) rfl rfl (by kernel_rfl) (by kernel_rfl) (by kernel_rfl) (fun _ _ _ h => h) (by kernel_rfl) (by assumption) ?_
              simp only [Act.put, List.setIfInBounds_toArray, List.set_cons_zero, List.set_cons_succ]
              refine handSkip 27 (some 233) rfl rfl (by kernel_rfl) (by kernel_rfl) (by kernel_rfl) (fun _ _ _ h => h) (by kernel_rfl) (by assumption) ?_
              simp only [Act.put, List.setIfInBounds_toArray, List.set_cons_zero, List.set_cons_succ]
              refine handRead 28 (some 234) (.bool false) rfl rfl (by kernel_rfl) (by kernel_rfl) (by kernel_rfl) (fun _ _ _ h => h) (by kernel_rfl) (by assumption) ?_ ?_
              · intro w hSw
                (try dsimp only at hSw)
                go_simp
              simp only [Act.put, List.setIfInBounds_toArray, List.set_cons_zero, List.set_cons_succ]
              refine handRead 29 (some 235) (.bool false) rfl rfl (by kernel_rfl) (by kernel_rfl) (by kernel_rfl) (fun _ _ _ h => h) (by kernel_rfl) (by assumption) ?_ ?_
              · intro w hSw
                (try dsimp only at hSw)
                go_simp
              simp only [Act.put, List.setIfInBounds_toArray, List.set_cons_zero, List.set_cons_succ]
              refine wpAnyH_done (by kernel_rfl) ?_ _
              clear SA0
              have HOD : Hid (Since w7.heap.size w7 wm.drew) := SM.out.drew
              clear HX
              go_wp2
              go_roundw
              case rel => exact ⟨k + 1, by omega, by go_num, HOD.out⟩
              case measure => simp [intOf]; omega
          · have hkp' : ¬ (k : Int) < (p.length : Int) := by omega
            have S8 : Hid (Since w.heap.size w wr) := S7.out.tran HK.out
            clear HK HFC HG7 HWY L7 P7 F7
            go_wp2_with fail
            refine (drawSpread_any w.heap.size w _ a1 len1 cap1 HC1.out hl1 S8.out).mono ?_
            rintro e w30 ⟨v30, q, fr, rfl, ho30, hl30, hs30, -⟩
            obtain ⟨x30, y30, rfl⟩ := ho30.shape
            have S30 : Hid (Since w.heap.size w w30) := hs30
            have Q30 : Hid (Own w30 w.heap.size (.slice x30 q.length y30) q) := ho30.mono S8.out.2
            clear ho30 hs30
            obtain ⟨ha, hha⟩ : ∃ ha, ha = spOut q fr := ⟨_, rfl⟩
            obtain ⟨ka, hka⟩ : ∃ ka, ka = spOk q fr := ⟨_, rfl⟩
            have HHL : Hid (ha.length ≤ 12) := by show _ ≤ _; rw [hha]; exact spOut_small _ _
            have CS : Hid (∀ (W : World) (B : Nat) (u : Value), Own W B u q → Calls Try.prog 11 #[u, .int .i64 fr] W (HopPost W ha ka)) := fun W B u h => by
              rw [hha, hka]; exact implSpreadOn_any W B u q fr h (Nat.le_trans hl30 (by decide))
            have CSS : Hid (∀ (W : World) (B : Nat) (u : Value), Own W B u q → Calls Try.prog 18 #[u, .int .i64 fr] W (HopPost W ha ka)) := fun W B u h => by
              rw [hha, hka]; exact specSpreadOn_any W B u q fr h (Nat.le_trans hl30 (by decide))
            clear hha hka
            go_wp2_with fail
            refine (CS.out _ _ _ Q30.out).mono ?_
            rintro e w31 ⟨u31, rfl, ho31, hb31⟩
            have S31 : Hid (Since w.heap.size w w31) := S30.out.step hb31
            have Q31 : Hid (Own w31 w.heap.size (.slice x30 q.length y30) q) := Q30.out.below hb31
            obtain ⟨x31, y31, rfl⟩ := ho31.reads.shape
            have H31 : Hid (OwnHop w31 w.heap.size (.slice x31 ha.length y31) ha) := ho31.mono S30.out.2
            clear ho31
            clear hb31
            go_wp2_with fail
            refine (CSS.out _ _ _ Q31.out).mono ?_
            rintro e w32 ⟨u32, rfl, ho32, hb32⟩
            have S32 : Hid (Since w.heap.size w w32) := S31.out.step hb32
            have Q32 : Hid (Own w32 w.heap.size (.slice x30 q.length y30) q) := Q31.out.below hb32
            have H32 : Hid (OwnHop w32 w.heap.size (.slice x31 ha.length y31) ha) := H31.out.below hb32
            obtain ⟨x32, y32, rfl⟩ := ho32.reads.shape
            have J32 : Hid (OwnHop w32 w.heap.size (.slice x32 ha.length y32) ha) := ho32.mono S31.out.2
            clear ho32
            clear hb32
            clear CS CSS Q30 Q31 H31
            go_wp2_with fail
            refine (drawCf_any w32.heap.size w32 _ a1 len1 cap1 (code_since HC1.out S32.out (Nat.le_refl _)) hl1 (Since.start w32)).mono ?_
            rintro e w33 ⟨v33, rr, aa, bb, rfl, ho33, hl33, hs33, -⟩
            obtain ⟨x33, y33, rfl⟩ := ho33.shape
            have S33 : Hid (Since w.heap.size w w33) := S32.out.step hs33.1
            have Q33 : Hid (Own w33 w.heap.size (.slice x30 q.length y30) q) := Q32.out.below hs33.1
            have H33 : Hid (OwnHop w33 w.heap.size (.slice x31 ha.length y31) ha) := H32.out.below hs33.1
            have J33 : Hid (OwnHop w33 w.heap.size (.slice x32 ha.length y32) ha) := J32.out.below hs33.1
            have R33 : Hid (Own w33 w.heap.size (.slice x33 rr.length y33) rr) := ho33.mono S32.out.2
            clear ho33 hs33 Q32 H32 J32
            obtain ⟨cz, hcz⟩ : ∃ cz, cz = cfOut rr aa bb := ⟨_, rfl⟩
            obtain ⟨kc, hkc⟩ : ∃ kc, kc = cfOk rr aa bb := ⟨_, rfl⟩
            obtain ⟨wo, hwo⟩ : ∃ wo, wo = otOut rr aa bb := ⟨_, rfl⟩
            obtain ⟨ko, hko⟩ : ∃ ko, ko = otOk rr aa bb := ⟨_, rfl⟩
            have HWO : Hid (wo.length ≤ 4194304) := by show _ ≤ _; rw [hwo]; exact otOut_len _ _ _
            have CC : Hid (∀ (W : World) (B : Nat) (u : Value), Own W B u rr → Calls Try.prog 12 #[u, .int .i64 aa, .int .i64 bb] W (CfPost W cz kc)) := fun W B u h => by
              rw [hcz, hkc]; exact implComesFrom_any W B u rr aa bb h (Nat.le_trans hl33 (by decide))
            have CCS : Hid (∀ (W : World) (B : Nat) (u : Value), Own W B u rr → Calls Try.prog 20 #[u, .int .i64 aa, .int .i64 bb] W (CfPost W cz kc)) := fun W B u h => by
              rw [hcz, hkc]; exact specComesFrom_any W B u rr aa bb h (Nat.le_trans hl33 (by decide))
            have CO : Hid (∀ (W : World) (B : Nat) (u : Value), Own W B u rr → Calls Try.prog 15 #[u, .int .i64 aa, .int .i64 bb] W (NearPost W wo ko)) := fun W B u h => by
              rw [hwo, hko]; exact implOnTree_any W B u rr aa bb h (Nat.le_trans hl33 (by decide))
            have COS : Hid (∀ (W : World) (B : Nat) (u : Value), Own W B u rr → Calls Try.prog 21 #[u, .int .i64 aa, .int .i64 bb] W (NearPost W wo ko)) := fun W B u h => by
              rw [hwo, hko]; exact specOnTree_any W B u rr aa bb h (Nat.le_trans hl33 (by decide))
            clear hcz hkc hwo hko
            go_wp2_with fail
            refine (CC.out _ _ _ R33.out).mono ?_
            rintro e w34 ⟨rfl, hb34⟩
            have S34 : Hid (Since w.heap.size w w34) := S33.out.step hb34
            have Q34 : Hid (Own w34 w.heap.size (.slice x30 q.length y30) q) := Q33.out.below hb34
            have H34 : Hid (OwnHop w34 w.heap.size (.slice x31 ha.length y31) ha) := H33.out.below hb34
            have J34 : Hid (OwnHop w34 w.heap.size (.slice x32 ha.length y32) ha) := J33.out.below hb34
            have R34 : Hid (Own w34 w.heap.size (.slice x33 rr.length y33) rr) := R33.out.below hb34
            clear hb34
            go_wp2_with fail
            refine (CCS.out _ _ _ R34.out).mono ?_
            rintro e w35 ⟨rfl, hb35⟩
            have S35 : Hid (Since w.heap.size w w35) := S34.out.step hb35
            have Q35 : Hid (Own w35 w.heap.size (.slice x30 q.length y30) q) := Q34.out.below hb35
            have H35 : Hid (OwnHop w35 w.heap.size (.slice x31 ha.length y31) ha) := H34.out.below hb35
            have J35 : Hid (OwnHop w35 w.heap.size (.slice x32 ha.length y32) ha) := J34.out.below hb35
            have R35 : Hid (Own w35 w.heap.size (.slice x33 rr.length y33) rr) := R34.out.below hb35
            clear hb35
            go_wp2_with fail
            refine (CO.out _ _ _ R35.out).mono ?_
            rintro e w36 ⟨u36, rfl, ho36, hb36⟩
            have S36 : Hid (Since w.heap.size w w36) := S35.out.step hb36
            have Q36 : Hid (Own w36 w.heap.size (.slice x30 q.length y30) q) := Q35.out.below hb36
            have H36 : Hid (OwnHop w36 w.heap.size (.slice x31 ha.length y31) ha) := H35.out.below hb36
            have J36 : Hid (OwnHop w36 w.heap.size (.slice x32 ha.length y32) ha) := J35.out.below hb36
            have R36 : Hid (Own w36 w.heap.size (.slice x33 rr.length y33) rr) := R35.out.below hb36
            obtain ⟨x36, y36, rfl⟩ := ho36.shape
            have Z36 : Hid (Own w36 w.heap.size (.slice x36 wo.length y36) wo) := ho36.mono S35.out.2
            clear ho36
            clear hb36
            go_wp2_with fail
            refine (COS.out _ _ _ R36.out).mono ?_
            rintro e w37 ⟨u37, rfl, ho37, hb37⟩
            have S37 : Hid (Since w.heap.size w w37) := S36.out.step hb37
            have Q37 : Hid (Own w37 w.heap.size (.slice x30 q.length y30) q) := Q36.out.below hb37
            have H37 : Hid (OwnHop w37 w.heap.size (.slice x31 ha.length y31) ha) := H36.out.below hb37
            have J37 : Hid (OwnHop w37 w.heap.size (.slice x32 ha.length y32) ha) := J36.out.below hb37
            have Z37 : Hid (Own w37 w.heap.size (.slice x36 wo.length y36) wo) := Z36.out.below hb37
            obtain ⟨x37, y37, rfl⟩ := ho37.shape
            have Y37 : Hid (Own w37 w.heap.size (.slice x37 wo.length y37) wo) := ho37.mono S36.out.2
            clear ho37
            clear hb37
            clear CC CCS CO COS R33 R34 R35 R36
            have hka2 : (ka == ka) = true := by simp
            have hkc2 : (kc == kc) = true := by simp
            have hcz2 : (cz == cz) = true := by simp
            have hko2 : (ko == ko) = true := by simp
            go_wp2_with fail
            refine (sameHops_same _ _ _ ha H37.out.reads J37.out.reads (Nat.le_trans HHL.out (by decide))).mono ?_
            rintro e w38 ⟨rfl, hb38⟩
            have S38 : Hid (Since w.heap.size w w38) := S37.out.step hb38
            have Q38 : Hid (Own w38 w.heap.size (.slice x30 q.length y30) q) := Q37.out.below hb38
            have Z38 : Hid (Own w38 w.heap.size (.slice x36 wo.length y36) wo) := Z37.out.below hb38
            have Y38 : Hid (Own w38 w.heap.size (.slice x37 wo.length y37) wo) := Y37.out.below hb38
            clear hb38
            go_wp2_with fail
            refine (sameInts_same _ _ _ wo Z38.out.reads Y38.out.reads HWO.out).mono ?_
            rintro e w39 ⟨rfl, hb39⟩
            have S39 : Hid (Since w.heap.size w w39) := S38.out.step hb39
            have Q39 : Hid (Own w39 w.heap.size (.slice x30 q.length y30) q) := Q38.out.below hb39
            clear hb39
            go_wp2_with fail
            refine (implGoodParents_any _ _ _ q Q39.out (Nat.le_trans hl30 (by decide))).mono ?_
            rintro e w40 ⟨rfl, hb40⟩
            have S40 : Hid (Since w.heap.size w w40) := S39.out.step hb40
            have Q40 : Hid (Own w40 w.heap.size (.slice x30 q.length y30) q) := Q39.out.below hb40
            clear hb40
            go_wp2_with fail
            refine (specGoodParentsB_any _ _ _ q Q40.out (Nat.le_trans hl30 (by decide))).mono ?_
            rintro e w41 ⟨rfl, hb41⟩
            have S41 : Hid (Since w.heap.size w w41) := S40.out.step hb41
            clear hb41
            generalize goodU q = gq at *
            have hgq2 : (gq == gq) = true := by simp
            go_wp2
            go_ret
            exact ⟨by simp, S41.out.1⟩
end fnSpread
end Go.Proofs.Ythlbmkefjjckaad
