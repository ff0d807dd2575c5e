/-
  The law FnFrames: the walk.
-/
import Derived.Test.YtijlhjfllfjllaaFrames1
namespace Go.Proofs.Ytijlhjfllfjllaa.fnFrames
open Go.RowKit

set_option maxRecDepth 100000 in
set_option maxHeartbeats 4000000 in
theorem walk (a0 : Option Addr) (len0 cap0 : Nat) (a1 : Option Addr) (len1 cap1 : Nat) (w : World) (hC0 : Code w.heap.size w a0 len0) (l0 : len0 ≤ 9223372036854775807) (hC1 : Code w.heap.size w a1 len1) (l1 : len1 ≤ 9223372036854775807) :
    Calls Try.prog 3 #[.slice a0 len0 cap0, .slice a1 len1 cap1] w fun e w' => e = .returned (.bool true) ∧ Below w.heap.size w w' := by
  obtain ⟨X, hX⟩ : ∃ X : Int, IntKind.i64.wrap ((len0 : Int) + (len1 : Int)) = X := ⟨_, rfl⟩
  by_cases hbig : 1048576 < X
  · have hbig' : decide ((1048576 : Int) < X) = true := decide_eq_true hbig
    clear hC0 hC1
    go_enter Try.func3, Try.ntmps3
    go_wp2
    go_ret
    exact ⟨rfl, Below.refl _ _⟩
  · have hbig' : decide ((1048576 : Int) < X) = false := decide_eq_false hbig
    have HC0 : Hid (Code w.heap.size w a0 len0) := hC0
    have HC1 : Hid (Code w.heap.size w a1 len1) := hC1
    clear hC0 hC1
    go_enter Try.func3, Try.ntmps3
    go_wp2_with fail
    refine (drawFrameText_any w.heap.size w _ a0 len0 cap0 HC0.out (by omega) (Since.start w)).mono ?_
    rintro e W1 ⟨v, ps, rfl, hr, ⟨al, cl, rfl, hcl⟩, hpl, hsm, hS1⟩
    have HF : Hid (∀ j (hj : j < ps.length), Fit ps[j]) := hsm.fit
    have HR1 : Hid (ReadsP W1 (.slice al ps.length cl) ps) := hr
    have HS1 : Hid (Since w.heap.size w W1) := hS1
    clear hr hsm hS1
    go_wp2_with fail
    refine (implFrame_any W1 _ ps HR1.out (by omega) HF.out).mono ?_
    rintro e W2 ⟨rfl, hb2⟩
    have HR2 : Hid (ReadsP W2 (.slice al ps.length cl) ps) := HR1.out.below hb2
    have HS2 : Hid (Since w.heap.size w W2) := HS1.out.step hb2
    clear hb2 HR1 HS1
    go_wp2_with fail
    refine (specFrame_any W2 _ ps HR2.out (by omega) HF.out).mono ?_
    rintro e W3 ⟨rfl, hb3⟩
    have HR3 : Hid (ReadsP W3 (.slice al ps.length cl) ps) := HR2.out.below hb3
    have HS3 : Hid (Since w.heap.size w W3) := HS2.out.step hb3
    clear hb3 HR2 HS2
    by_cases hB : frameB ps = true
    · rw [hB]
      have HB : Hid (frameB ps = true) := hB
      obtain ⟨s, hs⟩ : ∃ s, s = frameS ps := ⟨_, rfl⟩
      rw [← hs]
      have HSs : Hid (s = frameS ps) := hs
      have hsz : s.size ≤ 200 := by rw [hs]; exact frameS_size ps
      have HWR : Hid (readB s = true ∧ readN s = 0 ∧ readC s = 0 ∧ readP s = ps) := by show _ ∧ _; rw [hs]; exact write_read ps hB
      clear hB hs
      go_wp2_with fail
      refine (implRead_u s W3.heap.size W3 _ (Since.start W3) (by omega)).mono ?_
      rintro e W4 ⟨vb, rfl, hrb, hS4⟩
      obtain ⟨e1, e2, e3, e4⟩ := HWR.out
      rw [e1, e2, e3]
      rw [e4] at hrb
      obtain ⟨ab, cb, rfl⟩ := hrb.shape
      have HRb : Hid (ReadsP W4 (.slice ab ps.length cb) ps) := hrb
      have HR4 : Hid (ReadsP W4 (.slice al ps.length cl) ps) := HR3.out.below hS4.1
      have HS4 : Hid (Since w.heap.size w W4) := HS3.out.step hS4.1
      clear hrb hS4 HR3 HS3 HWR e1 e2 e3 e4
      go_wp2_with fail
      refine (sameParts_same W4 _ _ ps HRb.out HR4.out (by omega) HF.out).mono ?_
      rintro e W5 ⟨rfl, hb5⟩
      have HR5 : Hid (ReadsP W5 (.slice al ps.length cl) ps) := HR4.out.below hb5
      have HS5 : Hid (Since w.heap.size w W5) := HS4.out.step hb5
      clear hb5 HR4 HS4 HRb
      by_cases h3 : s.size + 3 ≤ 200
      · have d3 : decide ((s.size : Int) + 3 ≤ 200) = true := decide_eq_true (by omega)
        go_wp2_with fail
        refine (numberOf_any w.heap.size w W5 a1 len1 cap1 HC1.out (by omega) HS5.out).mono ?_
        rintro e W6 ⟨nn, rfl, n0, n1, rfl⟩
        obtain ⟨k, hk, hke⟩ : ∃ k : Nat, k ≤ ps.length ∧ nn % ((ps.length : Int) + 1) = k := ⟨(nn % ((ps.length : Int) + 1)).toNat, by have := Int.emod_lt_of_pos nn (show (0 : Int) < (ps.length : Int) + 1 by omega); omega, by have := Int.emod_nonneg nn (show (ps.length : Int) + 1 ≠ 0 by omega); omega⟩
        have hkc : k ≤ cl := by omega
        have HT : Hid (ReadsP W6 (.slice al k cl) (ps.take k)) := HR5.out.take k hk cl
        have HTL : Hid ((ps.take k).length ≤ 1048576) := by show _ ≤ _; rw [List.length_take]; omega
        have HTF : Hid (∀ j (hj : j < (ps.take k).length), Fit (ps.take k)[j]) := fun j hj => by rw [List.getElem_take]; exact HF.out j _
        go_wp2_with fail
        refine (implFrame_any W6 _ (ps.take k) HT.out HTL.out HTF.out).mono ?_
        rintro e W7 ⟨rfl, hb7⟩
        rw [frameB_take ps k HB.out]
        obtain ⟨hd, hhd⟩ : ∃ hd, hd = frameS (ps.take k) := ⟨_, rfl⟩
        rw [← hhd]
        have hds : hd.size ≤ s.size := by rw [hhd, HSs.out]; exact head_le ps k HB.out
        have HJ : Hid (hd ++ ⟨#[99, 1, 122]⟩ ++ s.extract hd.size s.size = junkT ps k) := by show _ = _; rw [hhd, HSs.out]; rfl
        have HJW : Hid (readB (junkT ps k) = true ∧ readN (junkT ps k) = 1 ∧ readC (junkT ps k) = 0 ∧ readP (junkT ps k) = ps) := write_junk ps k HB.out (by rw [← HSs.out]; exact h3)
        have hjz : (junkT ps k).size ≤ 200 := by rw [junk_size ps k HB.out, ← HSs.out]; exact h3
        have HR7 : Hid (ReadsP W7 (.slice al ps.length cl) ps) := HR5.out.below hb7
        have HS7 : Hid (Since w.heap.size w W7) := HS5.out.step hb7
        clear hb7 HR5 HS5 HT HTL HTF hhd
        go_wp2_with fail
        rw [HJ.out]
        refine (implRead_u (junkT ps k) W7.heap.size W7 _ (Since.start W7) (by omega)).mono ?_
        rintro e W8 ⟨vj, rfl, hrj, hS8⟩
        obtain ⟨e1, e2, e3, e4⟩ := HJW.out
        rw [e1, e2, e3]
        rw [e4] at hrj
        obtain ⟨aj, cj, rfl⟩ := hrj.shape
        have HRj : Hid (ReadsP W8 (.slice aj ps.length cj) ps) := hrj
        have HR8' : Hid (ReadsP W8 (.slice al ps.length cl) ps) := HR7.out.below hS8.1
        have HS8 : Hid (Since w.heap.size w W8) := HS7.out.step hS8.1
        clear hrj hS8 HR7 HS7 HJW e1 e2 e3 e4 HJ
        go_wp2_with fail
        refine (sameParts_same W8 _ _ ps HRj.out HR8'.out (by omega) HF.out).mono ?_
        rintro e W9 ⟨rfl, hb9⟩
        have HSX : Hid (Since w.heap.size w W9) := HS8.out.step hb9
        clear hb9 HS8 HR8' HRj
        go_wp2_with fail
        refine (drawReadFrame_any w.heap.size w _ a1 len1 cap1 HC1.out (by omega) HSX.out).mono ?_
        rintro e V1 ⟨t, rfl, ht, hV1⟩
        have HV1 : Hid (Since w.heap.size w V1) := hV1
        clear hV1 HSX
        go_wp2_with fail
        refine (implRead_u t V1.heap.size V1 _ (Since.start V1) (by omega)).mono ?_
        rintro e V2 ⟨v2, rfl, hr2, hV2⟩
        obtain ⟨a2, c2, rfl⟩ := hr2.shape
        have HV2 : Hid (Since w.heap.size w V2) := HV1.out.step hV2.1
        have HR2 : Hid (ReadsP V2 (.slice a2 (readP t).length c2) (readP t)) := hr2
        clear hV2 hr2 HV1
        go_wp2_with fail
        refine (specRead_u t V2.heap.size V2 _ (Since.start V2) (by omega)).mono ?_
        rintro e V3 ⟨v3, rfl, hr3, hV3⟩
        obtain ⟨a3, c3, rfl⟩ := hr3.shape
        have HV3 : Hid (Since w.heap.size w V3) := HV2.out.step hV3.1
        have HR2' : Hid (ReadsP V3 (.slice a2 (readP t).length c2) (readP t)) := HR2.out.below hV3.1
        have HR3 : Hid (ReadsP V3 (.slice a3 (readP t).length c3) (readP t)) := hr3
        clear hV3 hr3 HV2 HR2
        go_wp2_with fail
        refine (implSkip_u t V3.heap.size V3 _ (Since.start V3) (by unfold maxLen; omega)).mono ?_
        rintro e V4 ⟨rfl, hV4⟩
        have HV4 : Hid (Since w.heap.size w V4) := HV3.out.step hV4.1
        have HR4 : Hid (ReadsP V4 (.slice a2 (readP t).length c2) (readP t)) := HR2'.out.below hV4.1
        have HR5 : Hid (ReadsP V4 (.slice a3 (readP t).length c3) (readP t)) := HR3.out.below hV4.1
        clear hV4 HV3 HR2' HR3
        go_wp2_with fail
        refine (specSkip_u t V4.heap.size V4 _ (Since.start V4) (by unfold maxLen; omega)).mono ?_
        rintro e V5 ⟨rfl, hV5⟩
        have HV5 : Hid (Since w.heap.size w V5) := HV4.out.step hV5.1
        have HR6 : Hid (ReadsP V5 (.slice a2 (readP t).length c2) (readP t)) := HR4.out.below hV5.1
        have HR7 : Hid (ReadsP V5 (.slice a3 (readP t).length c3) (readP t)) := HR5.out.below hV5.1
        have HFT : Hid (∀ j (hj : j < (readP t).length), Fit (readP t)[j]) := (readP_fit t).2
        have HFL : Hid ((readP t).length ≤ 1048576) := Nat.le_trans (readP_fit t).1 (by omega)
        have HK : Hid (readB t = true → readN t = 0 → frameB (readP t) = true ∧ frameS (readP t) = t) := read_write t
        clear hV5 HV4 HR4 HR5
        generalize readB t = b at HK ⊢
        generalize readN t = n at HK ⊢
        generalize readC t = cc
        generalize readP t = rp at HK HR6 HR7 HFT HFL ⊢
        generalize skipK t = sk
        generalize skipN t = sn
        generalize skipU t = su
        generalize skipB t = sb
        go_wp2_with fail
        refine (sameParts_same V5 _ _ rp HR6.out HR7.out HFL.out HFT.out).mono ?_
        rintro e V6 ⟨rfl, hb6⟩
        have HV6 : Hid (Since w.heap.size w V6) := HV5.out.step hb6
        have HR8 : Hid (ReadsP V6 (.slice a2 rp.length c2) rp) := HR6.out.below hb6
        clear hb6 HV5 HR6 HR7
        cases b
        · go_wp2
          go_ret
          exact ⟨rfl, HV6.out.1⟩
        · by_cases hn : n = 0
          · subst hn
            obtain ⟨k1, k2⟩ := HK.out rfl rfl
            have HK1 : Hid (frameB rp = true) := k1
            have HK2 : Hid (frameS rp = t) := k2
            clear k1 k2 HK
            go_wp2_with fail
            refine (implFrame_any V6 _ rp HR8.out HFL.out HFT.out).mono ?_
            rintro e V7 ⟨rfl, hb7⟩
            rw [HK1.out, HK2.out]
            have HV7 : Hid (Since w.heap.size w V7) := HV6.out.step hb7
            clear hb7
            go_wp2
            go_ret
            exact ⟨rfl, HV7.out.1⟩
          · have hn' : (n == 0) = false := beq_eq_false_iff_ne.2 hn
            go_wp2
            go_ret
            exact ⟨rfl, HV6.out.1⟩
      · have d3 : decide ((s.size : Int) + 3 ≤ 200) = false := decide_eq_false (by omega)
        have HSX : Hid (Since w.heap.size w W5) := HS5.out
        clear HS5
        go_wp2_with fail
        refine (drawReadFrame_any w.heap.size w _ a1 len1 cap1 HC1.out (by omega) HSX.out).mono ?_
        rintro e V1 ⟨t, rfl, ht, hV1⟩
        have HV1 : Hid (Since w.heap.size w V1) := hV1
        clear hV1 HSX
        go_wp2_with fail
        refine (implRead_u t V1.heap.size V1 _ (Since.start V1) (by omega)).mono ?_
        rintro e V2 ⟨v2, rfl, hr2, hV2⟩
        obtain ⟨a2, c2, rfl⟩ := hr2.shape
        have HV2 : Hid (Since w.heap.size w V2) := HV1.out.step hV2.1
        have HR2 : Hid (ReadsP V2 (.slice a2 (readP t).length c2) (readP t)) := hr2
        clear hV2 hr2 HV1
        go_wp2_with fail
        refine (specRead_u t V2.heap.size V2 _ (Since.start V2) (by omega)).mono ?_
        rintro e V3 ⟨v3, rfl, hr3, hV3⟩
        obtain ⟨a3, c3, rfl⟩ := hr3.shape
        have HV3 : Hid (Since w.heap.size w V3) := HV2.out.step hV3.1
        have HR2' : Hid (ReadsP V3 (.slice a2 (readP t).length c2) (readP t)) := HR2.out.below hV3.1
        have HR3 : Hid (ReadsP V3 (.slice a3 (readP t).length c3) (readP t)) := hr3
        clear hV3 hr3 HV2 HR2
        go_wp2_with fail
        refine (implSkip_u t V3.heap.size V3 _ (Since.start V3) (by unfold maxLen; omega)).mono ?_
        rintro e V4 ⟨rfl, hV4⟩
        have HV4 : Hid (Since w.heap.size w V4) := HV3.out.step hV4.1
        have HR4 : Hid (ReadsP V4 (.slice a2 (readP t).length c2) (readP t)) := HR2'.out.below hV4.1
        have HR5 : Hid (ReadsP V4 (.slice a3 (readP t).length c3) (readP t)) := HR3.out.below hV4.1
        clear hV4 HV3 HR2' HR3
        go_wp2_with fail
        refine (specSkip_u t V4.heap.size V4 _ (Since.start V4) (by unfold maxLen; omega)).mono ?_
        rintro e V5 ⟨rfl, hV5⟩
        have HV5 : Hid (Since w.heap.size w V5) := HV4.out.step hV5.1
        have HR6 : Hid (ReadsP V5 (.slice a2 (readP t).length c2) (readP t)) := HR4.out.below hV5.1
        have HR7 : Hid (ReadsP V5 (.slice a3 (readP t).length c3) (readP t)) := HR5.out.below hV5.1
        have HFT : Hid (∀ j (hj : j < (readP t).length), Fit (readP t)[j]) := (readP_fit t).2
        have HFL : Hid ((readP t).length ≤ 1048576) := Nat.le_trans (readP_fit t).1 (by omega)
        have HK : Hid (readB t = true → readN t = 0 → frameB (readP t) = true ∧ frameS (readP t) = t) := read_write t
        clear hV5 HV4 HR4 HR5
        generalize readB t = b at HK ⊢
        generalize readN t = n at HK ⊢
        generalize readC t = cc
        generalize readP t = rp at HK HR6 HR7 HFT HFL ⊢
        generalize skipK t = sk
        generalize skipN t = sn
        generalize skipU t = su
        generalize skipB t = sb
        go_wp2_with fail
        refine (sameParts_same V5 _ _ rp HR6.out HR7.out HFL.out HFT.out).mono ?_
        rintro e V6 ⟨rfl, hb6⟩
        have HV6 : Hid (Since w.heap.size w V6) := HV5.out.step hb6
        have HR8 : Hid (ReadsP V6 (.slice a2 rp.length c2) rp) := HR6.out.below hb6
        clear hb6 HV5 HR6 HR7
        cases b
        · go_wp2
          go_ret
          exact ⟨rfl, HV6.out.1⟩
        · by_cases hn : n = 0
          · subst hn
            obtain ⟨k1, k2⟩ := HK.out rfl rfl
            have HK1 : Hid (frameB rp = true) := k1
            have HK2 : Hid (frameS rp = t) := k2
            clear k1 k2 HK
            go_wp2_with fail
            refine (implFrame_any V6 _ rp HR8.out HFL.out HFT.out).mono ?_
            rintro e V7 ⟨rfl, hb7⟩
            rw [HK1.out, HK2.out]
            have HV7 : Hid (Since w.heap.size w V7) := HV6.out.step hb7
            clear hb7
            go_wp2
            go_ret
            exact ⟨rfl, HV7.out.1⟩
          · have hn' : (n == 0) = false := beq_eq_false_iff_ne.2 hn
            go_wp2
            go_ret
            exact ⟨rfl, HV6.out.1⟩
    · have hB' : frameB ps = false := by simpa using hB
      rw [hB']
      generalize frameS ps = s
      have HSX : Hid (Since w.heap.size w W3) := HS3.out
      clear hB hB' HS3 HR3
      go_wp2_with fail
      refine (drawReadFrame_any w.heap.size w _ a1 len1 cap1 HC1.out (by omega) HSX.out).mono ?_
      rintro e V1 ⟨t, rfl, ht, hV1⟩
      have HV1 : Hid (Since w.heap.size w V1) := hV1
      clear hV1 HSX
      go_wp2_with fail
      refine (implRead_u t V1.heap.size V1 _ (Since.start V1) (by omega)).mono ?_
      rintro e V2 ⟨v2, rfl, hr2, hV2⟩
      obtain ⟨a2, c2, rfl⟩ := hr2.shape
      have HV2 : Hid (Since w.heap.size w V2) := HV1.out.step hV2.1
      have HR2 : Hid (ReadsP V2 (.slice a2 (readP t).length c2) (readP t)) := hr2
      clear hV2 hr2 HV1
      go_wp2_with fail
      refine (specRead_u t V2.heap.size V2 _ (Since.start V2) (by omega)).mono ?_
      rintro e V3 ⟨v3, rfl, hr3, hV3⟩
      obtain ⟨a3, c3, rfl⟩ := hr3.shape
      have HV3 : Hid (Since w.heap.size w V3) := HV2.out.step hV3.1
      have HR2' : Hid (ReadsP V3 (.slice a2 (readP t).length c2) (readP t)) := HR2.out.below hV3.1
      have HR3 : Hid (ReadsP V3 (.slice a3 (readP t).length c3) (readP t)) := hr3
      clear hV3 hr3 HV2 HR2
      go_wp2_with fail
      refine (implSkip_u t V3.heap.size V3 _ (Since.start V3) (by unfold maxLen; omega)).mono ?_
      rintro e V4 ⟨rfl, hV4⟩
      have HV4 : Hid (Since w.heap.size w V4) := HV3.out.step hV4.1
      have HR4 : Hid (ReadsP V4 (.slice a2 (readP t).length c2) (readP t)) := HR2'.out.below hV4.1
      have HR5 : Hid (ReadsP V4 (.slice a3 (readP t).length c3) (readP t)) := HR3.out.below hV4.1
      clear hV4 HV3 HR2' HR3
      go_wp2_with fail
      refine (specSkip_u t V4.heap.size V4 _ (Since.start V4) (by unfold maxLen; omega)).mono ?_
      rintro e V5 ⟨rfl, hV5⟩
      have HV5 : Hid (Since w.heap.size w V5) := HV4.out.step hV5.1
      have HR6 : Hid (ReadsP V5 (.slice a2 (readP t).length c2) (readP t)) := HR4.out.below hV5.1
      have HR7 : Hid (ReadsP V5 (.slice a3 (readP t).length c3) (readP t)) := HR5.out.below hV5.1
      have HFT : Hid (∀ j (hj : j < (readP t).length), Fit (readP t)[j]) := (readP_fit t).2
      have HFL : Hid ((readP t).length ≤ 1048576) := Nat.le_trans (readP_fit t).1 (by omega)
      have HK : Hid (readB t = true → readN t = 0 → frameB (readP t) = true ∧ frameS (readP t) = t) := read_write t
      clear hV5 HV4 HR4 HR5
      generalize readB t = b at HK ⊢
      generalize readN t = n at HK ⊢
      generalize readC t = cc
      generalize readP t = rp at HK HR6 HR7 HFT HFL ⊢
      generalize skipK t = sk
      generalize skipN t = sn
      generalize skipU t = su
      generalize skipB t = sb
      go_wp2_with fail
      refine (sameParts_same V5 _ _ rp HR6.out HR7.out HFL.out HFT.out).mono ?_
      rintro e V6 ⟨rfl, hb6⟩
      have HV6 : Hid (Since w.heap.size w V6) := HV5.out.step hb6
      have HR8 : Hid (ReadsP V6 (.slice a2 rp.length c2) rp) := HR6.out.below hb6
      clear hb6 HV5 HR6 HR7
      cases b
      · go_wp2
        go_ret
        exact ⟨rfl, HV6.out.1⟩
      · by_cases hn : n = 0
        · subst hn
          obtain ⟨k1, k2⟩ := HK.out rfl rfl
          have HK1 : Hid (frameB rp = true) := k1
          have HK2 : Hid (frameS rp = t) := k2
          clear k1 k2 HK
          go_wp2_with fail
          refine (implFrame_any V6 _ rp HR8.out HFL.out HFT.out).mono ?_
          rintro e V7 ⟨rfl, hb7⟩
          rw [HK1.out, HK2.out]
          have HV7 : Hid (Since w.heap.size w V7) := HV6.out.step hb7
          clear hb7
          go_wp2
          go_ret
          exact ⟨rfl, HV7.out.1⟩
        · have hn' : (n == 0) = false := beq_eq_false_iff_ne.2 hn
          go_wp2
          go_ret
          exact ⟨rfl, HV6.out.1⟩
end Go.Proofs.Ytijlhjfllfjllaa.fnFrames
