/-
  What the program's 'ReadFrame' answers.
-/
import Derived.Test.YtijlhjfllfjllaaReadMath
namespace Go.Proofs.Ytijlhjfllfjllaa
open Go.RowKit

set_option maxRecDepth 100000 in
set_option maxHeartbeats 4000000 in
theorem implRead_any (S : ByteArray) (W : World) (hS : S.size ≤ 200) :
    Calls Try.prog 9 #[.string S] W fun e W' => Came W' W.heap.size (readR S 0 [] 0) e ∧ Below W.heap.size W W' := by
  obtain ⟨H, hH⟩ : ∃ H, H = W.heap.size := ⟨_, rfl⟩
  have HS0 : Hid (Since H W W) := by rw [hH]; exact Since.start W
  rw [← hH]
  clear hH
  obtain ⟨R, hR⟩ : ∃ R, R = readR S 0 [] 0 := ⟨_, rfl⟩
  have HR : Hid (readR S 0 [] 0 = R) := hR.symm
  rw [← hR]
  clear hR
  have d200 : ¬ (200 : Int) < (S.size : Int) := by omega
  go_enter Try.func9, Try.ntmps9
  go_wp2
  go_loopw [0, 6, 7] (fun s v l wr => ∃ (a : Nat) (ps : List PD) (left : Nat), a ≤ S.size ∧ s = .string (cur S a) ∧ l = .int .i64 (left : Int) ∧ left ≤ a ∧ ps.length ≤ 10 ∧ Hid (OwnP wr H v ps) ∧ Hid (readR S a ps left = R) ∧ Hid (Since H W wr)) (fun s _ _ _ => strSize s)
  case atStart => exact ⟨0, [], 0, Nat.zero_le _, by rw [cur_zero], rfl, Nat.le_refl _, by simp, OwnP.nil _ _, HR.out, HS0.out⟩
  case round =>
    obtain ⟨a, ps, left, ha, rfl, rfl, hla, hpl, HO, HE, HS⟩ := hrel
    have hcs := cur_size S a
    by_cases hend : S.size ≤ a
    · have HF : Hid (R = (0, ps, left)) := HE.out.symm.trans (readR_end S a ps left hend)
      have d0 : ¬ (0 : Int) < ((cur S a).size : Int) := by omega
      obtain ⟨av, cv, hv⟩ := HO.out.shape
      subst hv
      generalize cur S a = c at *
      go_wp2
      refine bodyPost_ret (results_tmp4 rfl _ _ _) rfl ?_
      refine ⟨?_, HS.out.1⟩
      rw [HF.out]
      exact ⟨_, rfl, HO.out⟩
    · have d0 : (0 : Int) < ((cur S a).size : Int) := by omega
      cases hB : skipB (cur S a) with
      | false =>
        have HF : Hid (R = (1, [], 0)) := HE.out.symm.trans (readR_1 S a ps left hend hB)
        have HM : Hid ((cur S a).size ≤ maxLen) := by show _ ≤ _; unfold maxLen; omega
        have HB : Hid (skipB (cur S a) = false) := hB
        clear hB
        generalize cur S a = c at *
        go_wp2_with fail
        refine (implSkip_no c _ HM.out HB.out).mono ?_
        rintro e w1 ⟨rfl, rfl⟩
        go_wp2
        refine bodyPost_ret (results_tmp4 rfl _ _ _) rfl ?_
        refine ⟨?_, HS.out.1⟩
        rw [HF.out]
        exact ⟨_, rfl, OwnP.nil _ _⟩
      | true =>
        have HB : Hid (skipB (cur S a) = true) := hB
        obtain ⟨h2, h200, hle⟩ := of_decide_eq_true hB
        have b0 := byteAt_bd (cur S a) 0
        have b1 := byteAt_bd (cur S a) 1
        have hts : (skipT (cur S a)).size ≤ 255 := by rw [skipT_size _ hB]; omega
        obtain ⟨n, hn⟩ : ∃ n : Nat, byteAt (cur S a) 1 = n := ⟨(byteAt (cur S a) 1).toNat, by omega⟩
        obtain ⟨k, hk⟩ : ∃ k : Int, byteAt (cur S a) 0 = k := ⟨_, rfl⟩
        obtain ⟨t, ht⟩ : ∃ t : ByteArray, skipT (cur S a) = t := ⟨_, rfl⟩
        have HN : Hid ((byteAt (cur S a) 1).toNat = n) := by show _ = _; rw [hn]; rfl
        have HN' : Hid (byteAt (cur S a) 1 = (n : Int)) := hn
        have HK : Hid (byteAt (cur S a) 0 = k) := hk
        have HT : Hid (skipT (cur S a) = t) := ht
        have HCUT : Hid ((cur S a).extract (2 + n) (cur S a).size = cur S (a + (2 + n))) := cur_cut S a (2 + n)
        rw [hn] at b1 hle
        rw [hk] at b0
        rw [ht] at hts
        have q1 : (0 : Int) ≤ 2 + (n : Int) := by omega
        have q2 : 2 + (n : Int) ≤ ((cur S a).size : Int) := by omega
        have HANEXT : Hid (a + (2 + n) ≤ S.size ∧ left + 1 ≤ a + (2 + n) ∧ left ≤ a + (2 + n)) := ⟨by omega, by omega, by omega⟩
        have HMEAS : Hid ((cur S (a + (2 + n))).size < (cur S a).size) := by show _ < _; rw [cur_size, cur_size]; omega
        clear hn hk ht hB
        obtain ⟨c, hc⟩ : ∃ c, c = cur S a := ⟨_, rfl⟩
        rw [← hc] at d0 hcs HB h2 h200 hle q2 HN HN' HK HT HCUT HMEAS
        have HC : Hid (c = cur S a) := hc
        rw [← hc]
        clear hc hcs
        go_wp2_with fail
        refine (implSkip_yes c _ HB.out).mono ?_
        rintro e w1 ⟨rfl, hb1⟩
        rw [HN'.out, HK.out, HT.out]
        have HS1 : Hid (Since H W w1) := HS.out.step hb1
        have HO1 : Hid (OwnP w1 H u6 ps) := HO.out.below hb1
        clear hb1
        go_wp2_with fail
        refine (bodyIn_any w1 k t hts).mono ?_
        rintro e w2 ⟨b, rfl, hbi, hb2⟩
        have HS2 : Hid (Since H W w2) := HS1.out.step hb2
        have HO2 : Hid (OwnP w2 H u6 ps) := HO1.out.below hb2
        have HBI : Hid (BodyIs w2 w1.heap.size k t b) := hbi
        clear hb2 hbi
        by_cases h4 : 1 ≤ k ∧ k ≤ 4
        · have HPL : Hid (plainV b) := by
            rcases HBI.out with ⟨h, -⟩ | ⟨-, rfl⟩ | ⟨hk2, -, a', c', -, rfl⟩ | ⟨-, -, rfl⟩
            · exact absurd h4 h
            · exact .inr (.inl ⟨_, rfl⟩)
            · exact bodyV_plain k hk2 _ _
            · exact .inl rfl
          go_wp2_with fail
          refine (strange_no b _ HPL.out).mono ?_
          rintro e w3 ⟨rfl, rfl⟩
          obtain ⟨ty, x, f, hbv, hmeth, hcall, hf⟩ := isGood_any w3 _ k t b HBI.out h4 hts
          have HCALL : Hid (Calls Try.prog f #[x] w3 fun e W' => e = .returned (.bool (goodIn k t)) ∧ Below w3.heap.size w3 W') := hcall
          have hm1 := hmeth w3
          have HBV : Hid (b = .iface ty x) := hbv
          clear hcall hmeth
          cases hG : goodIn k t with
          | false =>
            have HG : Hid (goodIn k t = false) := hG
            have HF : Hid (R = (2, [], 0)) := HE.out.symm.trans (readR_2 S a ps left hend (by rw [← HC.out]; exact HB.out) (by rw [← HC.out, HK.out]; exact h4) (by rw [← HC.out, HK.out, HT.out]; exact hG))
            clear hG
            subst hbv
            rcases hf with rfl | rfl | rfl | rfl | rfl
            all_goals
              go_wp2_with fail
              refine HCALL.out.mono ?_
              rintro e w4 ⟨rfl, hb4⟩
              rw [HG.out]
              have HS4 : Hid (Below H W w4) := (HS2.out.step hb4).1
              clear hb4
              go_wp2
              refine bodyPost_ret (results_tmp4 rfl _ _ _) rfl ?_
              refine ⟨?_, HS4.out⟩
              rw [HF.out]
              exact ⟨_, rfl, OwnP.nil _ _⟩
          | true =>
            have HG : Hid (goodIn k t = true) := hG
            have HF : Hid ((ps.length = 10 → R = (3, [], 0)) ∧ (¬ ps.length = 10 → readR S (a + (2 + n)) (ps ++ [partIn k t]) left = R)) := by
              refine ⟨fun h10 => ?_, fun h10 => ?_⟩
              · exact HE.out.symm.trans (readR_3 S a ps left hend (by rw [← HC.out]; exact HB.out) (by rw [← HC.out, HK.out]; exact h4) (by rw [← HC.out, HK.out, HT.out]; exact hG) h10)
              · have := readR_put S a ps left hend (by rw [← HC.out]; exact HB.out) (by rw [← HC.out, HK.out]; exact h4) (by rw [← HC.out, HK.out, HT.out]; exact hG) h10
                rw [← HC.out, HK.out, HT.out, HN.out] at this
                exact this.symm.trans HE.out
            clear hG
            subst hbv
            obtain ⟨av, cv, hv⟩ := HO2.out.shape
            subst hv
            by_cases h10 : ps.length = 10
            · have d10 : ((ps.length : Int) == 10) = true := beq_iff_eq.2 (by omega)
              have HF1 : Hid (R = (3, [], 0)) := HF.out.1 h10
              clear h10
              rcases hf with rfl | rfl | rfl | rfl | rfl
              all_goals
                go_wp2_with fail
                refine HCALL.out.mono ?_
                rintro e w4 ⟨rfl, hb4⟩
                rw [HG.out]
                have HS4 : Hid (Below H W w4) := (HS2.out.step hb4).1
                clear hb4
                go_wp2
                refine bodyPost_ret (results_tmp4 rfl _ _ _) rfl ?_
                refine ⟨?_, HS4.out⟩
                rw [HF1.out]
                exact ⟨_, rfl, OwnP.nil _ _⟩
            · have d10 : ((ps.length : Int) == 10) = false := beq_eq_false_iff_ne.2 (by omega)
              have HF1 : Hid (readR S (a + (2 + n)) (ps ++ [partIn k t]) left = R) := HF.out.2 h10
              have hp9 : ps.length ≤ 9 := by omega
              clear h10
              rcases hf with rfl | rfl | rfl | rfl | rfl
              all_goals
                go_wp2_with fail
                refine HCALL.out.mono ?_
                rintro e w4 ⟨rfl, hb4⟩
                rw [HG.out]
                have HS4 : Hid (Since H W w4) := HS2.out.step hb4
                have HO4 : Hid (OwnP w4 H (.slice av ps.length cv) ps) := HO2.out.below hb4
                have HB4 : Hid (BodyIs w4 w1.heap.size k t (.iface ty x)) := HBI.out.below hb4
                clear hb4
                go_wp2_with fail
                refine (partOf_any w4 _ k t _ HB4.out h4 hts HG.out).mono ?_
                rintro e w5 ⟨y, rfl, ho5, hb5⟩
                obtain ⟨ay, cy, hy⟩ := ho5.shape
                subst hy
                have HA5 : Hid (Below w4.heap.size w4 (w5.alloc (.cells #[.int .i64 (partIn k t).k, .string (partIn k t).t, .slice ay (partIn k t).zs.length cy] 74))) := hb5.alloc hb5.size _
                have HY5 : Hid (Own (w5.alloc (.cells #[.int .i64 (partIn k t).k, .string (partIn k t).t, .slice ay (partIn k t).zs.length cy] 74)) w4.heap.size (.slice ay (partIn k t).zs.length cy) (partIn k t).zs) := ho5.alloc _
                have HX5 : Hid (Box3 (w5.alloc (.cells #[.int .i64 (partIn k t).k, .string (partIn k t).t, .slice ay (partIn k t).zs.length cy] 74)) w5.heap.size (.int .i64 (partIn k t).k) (.string (partIn k t).t) (.slice ay (partIn k t).zs.length cy)) := Box3.new _ _ _ _ _
                have HS5 : Hid (Since H W (w5.alloc (.cells #[.int .i64 (partIn k t).k, .string (partIn k t).t, .slice ay (partIn k t).zs.length cy] 74))) := HS4.out.step HA5.out
                clear ho5 hb5
                unfold partV
                generalize hpp : partIn k t = p at *
                clear hpp
                go_wp2_with (at_builtin; refine list_putP (by rfl) (.tmp 45) (.tmp 49) (by rfl) H (.slice av ps.length cv) ps p (.slice ay p.zs.length cy) (by rfl) HO4.out HA5.out HS4.out.2 HY5.out w5.heap.size 1 (by rfl) HX5.out (by omega) ?_; intro v6 w6 hown6 hb6 hz6)
                have HO6 : Hid (OwnP w6 H v6 (ps ++ [p])) := hown6
                have HS6 : Hid (Since H W w6) := ⟨HS5.out.1.trans hb6, Nat.le_trans HS5.out.2 hz6⟩
                clear hown6 hb6 hz6
                try go_wp2
                go_roundw
                case rel => exact ⟨a + (2 + n), ps ++ [p], left, HANEXT.out.1, by rw [HCUT.out], rfl, HANEXT.out.2.2, by simp; omega, HO6, HF1, HS6⟩
                case measure => simp only [strSize]; rw [HCUT.out]; exact HMEAS.out
        · have HBS : Hid (b = strangeV) := by
            rcases HBI.out with ⟨-, h⟩ | ⟨h, -⟩ | ⟨h, -⟩ | ⟨h, -⟩
            · exact h
            · omega
            · omega
            · omega
          have HF1 : Hid (readR S (a + (2 + n)) ps (left + 1) = R) := by
            have := readR_left S a ps left hend (by rw [← HC.out]; exact HB.out) (by rw [← HC.out, HK.out]; exact h4)
            rw [← HC.out, HN.out] at this
            exact this.symm.trans HE.out
          rw [HBS.out]
          go_wp2_with fail
          refine (strange_yes _).mono ?_
          rintro e w3 ⟨rfl, rfl⟩
          go_wp2
          go_roundw
          case rel => exact ⟨a + (2 + n), ps, left + 1, HANEXT.out.1, by rw [HCUT.out], by go_num, HANEXT.out.2.1, hpl, HO2, HF1, HS2⟩
          case measure => simp only [strSize]; rw [HCUT.out]; exact HMEAS.out
end Go.Proofs.Ytijlhjfllfjllaa
