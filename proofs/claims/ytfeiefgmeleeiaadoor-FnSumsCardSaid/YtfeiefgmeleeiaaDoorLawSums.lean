/-
  Proved: for every two lists of bytes, the law FnSums of the program at commit bd74fe5090bb answers true: the sums of a drawn text are the model's, those of its two halves add up to them by AddSums, the weights by WeightAt make the second sum, two neighbouring bytes that change places by SwapTwo leave the first sum and change the second one just where they differ modulo 255, and AddSums, WeightAt answer as the model does; and both lists read afterwards as before. Condition: the package variable impl.moduli starts as the program's text lays it (tied by the card).
-/
import Derived.Test.YtfeiefgmeleeiaaDoorDraws
import Derived.Test.YtfeiefgmeleeiaaDoorCodeOf
import Derived.Test.YtfeiefgmeleeiaaDoorSumsMath
namespace Go.Proofs.YtfeiefgmeleeiaaDoor.fnSums
open Go.ChangeShapes Go.WideShapes Go.ChangeAt Go.RowKit
open Go.ChangeMaps (open_string shut_string)
set_option linter.unusedVariables false

set_option maxRecDepth 100000 in
set_option maxHeartbeats 2000000 in
theorem walk (a0 : Option Addr) (len0 cap0 : Nat) (a1 : Option Addr) (len1 cap1 : Nat) (w : World) (hC0 : Code w.heap.size w a0 len0) (l0 : len0 ≤ 140737488351232) (hC1 : Code w.heap.size w a1 len1) (l1 : len1 ≤ 140737488351232) (ht : Tab w) :
    Calls Tryd.prog 3 #[.slice a0 len0 cap0, .slice a1 len1 cap1] w fun e w' => e = .returned (.bool true) ∧ Below w.heap.size w w' := by
  by_cases hbig : 1048576 < len0 + len1
  · have hbig' : (1048576 : Int) < (len0 : Int) + (len1 : Int) := by omega
    clear ht hC0 hC1
    go_enter Tryd.func3, Tryd.ntmps3
    go_wp2
    go_ret
    exact ⟨rfl, Below.refl _ _⟩
  · have hbig' : (len0 : Int) + (len1 : Int) ≤ 1048576 := by omega
    have HT : Hid (Tab w) := ht
    have HP : Hid (0 < w.heap.size) := ht.pos
    have HC0 : Hid (Code w.heap.size w a0 len0) := hC0
    have HC1 : Hid (Code w.heap.size w a1 len1) := hC1
    clear ht hC0 hC1
    go_enter Tryd.func3, Tryd.ntmps3
    go_wp2_with fail
    refine (drawSumOf_any w.heap.size w _ a0 len0 cap0 HC0.out (by omega) (Since.start w)).mono ?_
    rintro e W1 ⟨s, rfl, hs, hS1⟩
    have hms : s.size ≤ maxLen := by unfold maxLen; omega
    go_wp2_with fail
    refine (implSumOf_u s _ hms hS1 HT.out HP.out).mono ?_
    rintro e W2 ⟨rfl, hS2⟩
    clear hS1
    go_wp2_with fail
    refine (specSumOf_u s _ hms hS2).mono ?_
    rintro e W3 ⟨rfl, hS3⟩
    clear hS2 hms
    by_cases hg : s.size ≤ 200
    · rw [sumR_yes s hg]
      go_wp2_with fail
      refine (numberOf_any w.heap.size w _ a1 len1 cap1 HC1.out (by omega) hS3).mono ?_
      rintro e W4 ⟨x, rfl, x0, x1, rfl⟩
      obtain ⟨k, hk, hke⟩ : ∃ k : Nat, k ≤ s.size ∧ x % ((s.size : Int) + 1) = (k : Int) := by
        have h1 := Int.emod_nonneg x (b := (s.size : Int) + 1) (by omega)
        have h2 := Int.emod_lt_of_pos x (b := (s.size : Int) + 1) (by omega)
        exact ⟨(x % ((s.size : Int) + 1)).toNat, by omega, by omega⟩
      have hk' : (k : Int) ≤ (s.size : Int) := by omega
      have hz1 : (s.extract 0 k).size ≤ 200 := Nat.le_trans (extract_sz s 0 k) hg
      have hz2 : (s.extract k s.size).size ≤ 200 := Nat.le_trans (extract_sz s k s.size) hg
      have hm1 : (s.extract 0 k).size ≤ maxLen := by unfold maxLen; omega
      have hm2 : (s.extract k s.size).size ≤ maxLen := by unfold maxLen; omega
      go_wp2_with fail
      refine (implSumOf_u (s.extract 0 k) _ hm1 hS3 HT.out HP.out).mono ?_
      rintro e W5 ⟨rfl, hS5⟩
      rw [sumR_yes _ hz1]
      clear hS3
      go_wp2_with fail
      refine (implSumOf_u (s.extract k s.size) _ hm2 hS5 HT.out HP.out).mono ?_
      rintro e W6 ⟨rfl, hS6⟩
      rw [sumR_yes _ hz2]
      clear hS5
      go_wp2_with fail
      refine (implAdd_u (sA (s.extract 0 k)) (sB (s.extract 0 k)) (sA (s.extract k s.size)) (sB (s.extract k s.size)) ((s.size : Int) - k) _ hS6 HT.out HP.out).mono ?_
      rintro e W7 ⟨rfl, hS7⟩
      clear hS6
      rw [split_add s k hk hg]
      obtain ⟨cap, W8, hconv, hb8, -, -⟩ := conv_row s W7
      have HS8 : Hid (Since w.heap.size w W8) := hS7.step hb8
      clear hS7 hb8 hz1 hz2 hm1 hm2 hke hk hk' x0 x1
      have HM : Hid (s.size ≤ maxLen) := by show _ ≤ _; unfold maxLen; omega
      go_wp2
      go_loop [22, 147] (fun n i => ∃ j : Nat, j ≤ s.size ∧ i = .int .i64 j ∧ n = .int .i64 ((T s.data.toList - T (s.data.toList.drop j)) % 255)) (fun _ i => s.size - (intOf i).toNat)
      case atStart => exact ⟨0, Nat.zero_le _, rfl, val_int (by simp)⟩
      case round =>
        obtain ⟨j, hj, rfl, rfl⟩ := hrel
        clear hconv
        by_cases hlt : j < s.size
        · have HST : Hid (((T s.data.toList - T (s.data.toList.drop j)) % 255 + ((s.size : Int) - j) * (s[j].toNat : Int)) % 255 = (T s.data.toList - T (s.data.toList.drop (j + 1))) % 255) := weight_step s j hlt
          have hwb := weight_bd s j hg hlt
          have hlt' : (j : Int) < (s.size : Int) := by omega
          have hx : (s[j].toNat : Int) ≤ 255 := by have := s[j].toNat_lt; omega
          go_wp2_with fail
          refine (weight_walks s j _ HM.out).1.mono ?_
          rintro e W9 ⟨rfl, rfl⟩
          rw [weight_yes s j hg hlt]
          go_wp2
          go_round
          case rel => exact ⟨j + 1, by omega, by go_num, val_int HST.out⟩
          case measure => simp [intOf]; omega
        · obtain rfl : j = s.size := by omega
          have hend := weight_end s
          have hS8 := HS8.out
          clear HS8
          go_wp2_with fail
          refine (drawSwapTwo_any w.heap.size w _ a1 len1 cap1 HC1.out (by omega) hS8).mono ?_
          rintro e W11 ⟨t, kk, rfl, htz, q0, q1, hS11⟩
          clear hS8
          by_cases hg2 : t.size ≤ 200 ∧ 0 ≤ kk ∧ kk + 1 < (t.size : Int)
          · obtain ⟨m1, m2, m3⟩ := hg2
            obtain ⟨i, rfl⟩ : ∃ i : Nat, kk = i := ⟨kk.toNat, by omega⟩
            go_wp2_with fail
            refine (implSwap_yes t i _ m1 (by omega)).mono ?_
            rintro e W12 ⟨rfl, hb12⟩
            have hS12 := hS11.step hb12
            clear hS11 hb12
            go_wp2_with fail
            refine (specSwap_yes t i _ hS12 m1 (by omega)).mono ?_
            rintro e W13 ⟨rfl, hS13⟩
            clear hS12
            have hmt : t.size ≤ maxLen := by unfold maxLen; omega
            have hmu : (swapS t i).size ≤ maxLen := by rw [swapS_sz]; unfold maxLen; omega
            go_wp2_with fail
            refine (implSumOf_u t _ hmt hS13 HT.out HP.out).mono ?_
            rintro e W14 ⟨rfl, hS14⟩
            clear hS13
            rw [sumR_yes t m1]
            go_wp2_with fail
            refine (implSumOf_u (swapS t i) _ hmu hS14 HT.out HP.out).mono ?_
            rintro e W15 ⟨rfl, hS15⟩
            clear hS14
            rw [sumR_yes (swapS t i) (by rw [swapS_sz]; exact m1), (swap_fl t i (by omega)).1]
            have hiff := (swap_fl t i (by omega)).2
            generalize sB (swapS t i) = F at hiff
            generalize sB t = D at hiff
            generalize sA t = C
            have i1 : (i : Int) + 1 < (t.size : Int) := by omega
            have i0 : (i : Int) < (t.size : Int) := by omega
            have n1 : i + 1 < t.size := by omega
            have n0 : i < t.size := by omega
            have p1 : (0 : Int) ≤ (i : Int) + 1 := by omega
            have hwr : IntKind.i64.wrap ((i : Int) + 1) = (i : Int) + 1 := by rw [IntKind.wrap_i64]; omega
            have e0 := byteAt_eq t i n0
            have e1 := byteAt_eq t (i + 1) n1
            have b0 := byteAt_bd t i
            have b1 := byteAt_bd t (i + 1)
            have hwb : ∀ j, IntKind.i64.wrap (byteAt t j) = byteAt t j := fun j => by have := byteAt_bd t j; rw [IntKind.wrap_i64]; omega
            have htm : ∀ j, (byteAt t j).tmod 255 = byteAt t j % 255 := fun j => Int.tmod_eq_emod_of_nonneg (byteAt_bd t j).1
            have hwm : ∀ j, IntKind.i64.wrap (byteAt t j % 255) = byteAt t j % 255 := fun j => by rw [IntKind.wrap_i64]; omega
            by_cases hq : byteAt t i % 255 = byteAt t (i + 1) % 255
            · have hFD : F = D := hiff.2 hq
              subst hFD
              have hq' : (byteAt t i % 255 == byteAt t (i + 1) % 255) = true := by simpa using hq
              clear hiff hq
              go_wp2
              go_quiet (fail)
              go_wp2_with fail
              refine (drawAddSums_any w.heap.size w _ a1 len1 cap1 HC1.out (by omega) (hS15.drewN _)).mono ?_
              rintro e W20 ⟨p, q, r, v, long, rfl, hS20⟩
              clear hS15
              go_wp2_with fail
              refine (implAdd_u p q r v long _ hS20 HT.out HP.out).mono ?_
              rintro e W21 ⟨rfl, hS21⟩
              clear hS20
              go_wp2_with fail
              refine (specAdd_u p q r v long _ hS21).mono ?_
              rintro e W22 ⟨rfl, hS22⟩
              clear hS21
              go_wp2_with fail
              refine (drawWeightAt_any w.heap.size w _ a1 len1 cap1 HC1.out (by omega) hS22).mono ?_
              rintro e W23 ⟨z, y, rfl, hz, y0, y1, hS23⟩
              have HMZ : Hid (z.size ≤ maxLen) := by show _ ≤ _; unfold maxLen; omega
              have HE : Hid (Below w.heap.size w W23) := hS23.1
              clear hS22 hS23
              go_wp2_with fail
              refine (weight_walks z y _ HMZ.out).1.mono ?_
              rintro e W24 ⟨rfl, rfl⟩
              go_wp2_with fail
              refine (weight_walks z y _ HMZ.out).2.mono ?_
              rintro e W25 ⟨rfl, rfl⟩
              go_wp2
              go_ret
              exact ⟨rfl, HE.out⟩
            · have hFD : (D == F) = false := by
                cases hh : (D == F) with
                | false => rfl
                | true => exact absurd (hiff.1 (by simpa using (beq_iff_eq.1 hh).symm)) hq
              have hq' : (byteAt t i % 255 == byteAt t (i + 1) % 255) = false := by simpa using hq
              clear hiff hq
              go_wp2
              go_quiet (fail)
              go_wp2_with fail
              refine (drawAddSums_any w.heap.size w _ a1 len1 cap1 HC1.out (by omega) (hS15.drewN _)).mono ?_
              rintro e W20 ⟨p, q, r, v, long, rfl, hS20⟩
              clear hS15
              go_wp2_with fail
              refine (implAdd_u p q r v long _ hS20 HT.out HP.out).mono ?_
              rintro e W21 ⟨rfl, hS21⟩
              clear hS20
              go_wp2_with fail
              refine (specAdd_u p q r v long _ hS21).mono ?_
              rintro e W22 ⟨rfl, hS22⟩
              clear hS21
              go_wp2_with fail
              refine (drawWeightAt_any w.heap.size w _ a1 len1 cap1 HC1.out (by omega) hS22).mono ?_
              rintro e W23 ⟨z, y, rfl, hz, y0, y1, hS23⟩
              have HMZ : Hid (z.size ≤ maxLen) := by show _ ≤ _; unfold maxLen; omega
              have HE : Hid (Below w.heap.size w W23) := hS23.1
              clear hS22 hS23
              go_wp2_with fail
              refine (weight_walks z y _ HMZ.out).1.mono ?_
              rintro e W24 ⟨rfl, rfl⟩
              go_wp2_with fail
              refine (weight_walks z y _ HMZ.out).2.mono ?_
              rintro e W25 ⟨rfl, rfl⟩
              go_wp2
              go_ret
              exact ⟨rfl, HE.out⟩
          · have HM2 : Hid (t.size ≤ maxLen) := by show _ ≤ _; unfold maxLen; omega
            have HH2 : Hid (200 < t.size ∨ kk < 0 ∨ (t.size : Int) ≤ kk + 1) := by show _ ∨ _; omega
            clear hg2
            go_wp2_with fail
            refine (implSwap_no t kk _ HM2.out HH2.out).mono ?_
            rintro e W12 ⟨rfl, rfl⟩
            go_wp2_with fail
            refine (specSwap_no t kk _ HM2.out HH2.out).mono ?_
            rintro e W13 ⟨rfl, rfl⟩
            go_wp2_with fail
            refine (drawAddSums_any w.heap.size w _ a1 len1 cap1 HC1.out (by omega) hS11).mono ?_
            rintro e W20 ⟨p, q, r, v, long, rfl, hS20⟩
            clear hS11
            go_wp2_with fail
            refine (implAdd_u p q r v long _ hS20 HT.out HP.out).mono ?_
            rintro e W21 ⟨rfl, hS21⟩
            clear hS20
            go_wp2_with fail
            refine (specAdd_u p q r v long _ hS21).mono ?_
            rintro e W22 ⟨rfl, hS22⟩
            clear hS21
            go_wp2_with fail
            refine (drawWeightAt_any w.heap.size w _ a1 len1 cap1 HC1.out (by omega) hS22).mono ?_
            rintro e W23 ⟨z, y, rfl, hz, y0, y1, hS23⟩
            have HMZ : Hid (z.size ≤ maxLen) := by show _ ≤ _; unfold maxLen; omega
            have HE : Hid (Below w.heap.size w W23) := hS23.1
            clear hS22 hS23
            go_wp2_with fail
            refine (weight_walks z y _ HMZ.out).1.mono ?_
            rintro e W24 ⟨rfl, rfl⟩
            go_wp2_with fail
            refine (weight_walks z y _ HMZ.out).2.mono ?_
            rintro e W25 ⟨rfl, rfl⟩
            go_wp2
            go_ret
            exact ⟨rfl, HE.out⟩
    · rw [sumR_no s hg]
      go_wp2_with fail
      refine (drawSwapTwo_any w.heap.size w _ a1 len1 cap1 HC1.out (by omega) hS3).mono ?_
      rintro e W11 ⟨t, kk, rfl, htz, q0, q1, hS11⟩
      clear hS3
      by_cases hg2 : t.size ≤ 200 ∧ 0 ≤ kk ∧ kk + 1 < (t.size : Int)
      · obtain ⟨m1, m2, m3⟩ := hg2
        obtain ⟨i, rfl⟩ : ∃ i : Nat, kk = i := ⟨kk.toNat, by omega⟩
        go_wp2_with fail
        refine (implSwap_yes t i _ m1 (by omega)).mono ?_
        rintro e W12 ⟨rfl, hb12⟩
        have hS12 := hS11.step hb12
        clear hS11 hb12
        go_wp2_with fail
        refine (specSwap_yes t i _ hS12 m1 (by omega)).mono ?_
        rintro e W13 ⟨rfl, hS13⟩
        clear hS12
        have hmt : t.size ≤ maxLen := by unfold maxLen; omega
        have hmu : (swapS t i).size ≤ maxLen := by rw [swapS_sz]; unfold maxLen; omega
        go_wp2_with fail
        refine (implSumOf_u t _ hmt hS13 HT.out HP.out).mono ?_
        rintro e W14 ⟨rfl, hS14⟩
        clear hS13
        rw [sumR_yes t m1]
        go_wp2_with fail
        refine (implSumOf_u (swapS t i) _ hmu hS14 HT.out HP.out).mono ?_
        rintro e W15 ⟨rfl, hS15⟩
        clear hS14
        rw [sumR_yes (swapS t i) (by rw [swapS_sz]; exact m1), (swap_fl t i (by omega)).1]
        have hiff := (swap_fl t i (by omega)).2
        generalize sB (swapS t i) = F at hiff
        generalize sB t = D at hiff
        generalize sA t = C
        have i1 : (i : Int) + 1 < (t.size : Int) := by omega
        have i0 : (i : Int) < (t.size : Int) := by omega
        have n1 : i + 1 < t.size := by omega
        have n0 : i < t.size := by omega
        have p1 : (0 : Int) ≤ (i : Int) + 1 := by omega
        have hwr : IntKind.i64.wrap ((i : Int) + 1) = (i : Int) + 1 := by rw [IntKind.wrap_i64]; omega
        have e0 := byteAt_eq t i n0
        have e1 := byteAt_eq t (i + 1) n1
        have b0 := byteAt_bd t i
        have b1 := byteAt_bd t (i + 1)
        have hwb : ∀ j, IntKind.i64.wrap (byteAt t j) = byteAt t j := fun j => by have := byteAt_bd t j; rw [IntKind.wrap_i64]; omega
        have htm : ∀ j, (byteAt t j).tmod 255 = byteAt t j % 255 := fun j => Int.tmod_eq_emod_of_nonneg (byteAt_bd t j).1
        have hwm : ∀ j, IntKind.i64.wrap (byteAt t j % 255) = byteAt t j % 255 := fun j => by rw [IntKind.wrap_i64]; omega
        by_cases hq : byteAt t i % 255 = byteAt t (i + 1) % 255
        · have hFD : F = D := hiff.2 hq
          subst hFD
          have hq' : (byteAt t i % 255 == byteAt t (i + 1) % 255) = true := by simpa using hq
          clear hiff hq
          go_wp2
          go_quiet (fail)
          go_wp2_with fail
          refine (drawAddSums_any w.heap.size w _ a1 len1 cap1 HC1.out (by omega) (hS15.drewN _)).mono ?_
          rintro e W20 ⟨p, q, r, v, long, rfl, hS20⟩
          clear hS15
          go_wp2_with fail
          refine (implAdd_u p q r v long _ hS20 HT.out HP.out).mono ?_
          rintro e W21 ⟨rfl, hS21⟩
          clear hS20
          go_wp2_with fail
          refine (specAdd_u p q r v long _ hS21).mono ?_
          rintro e W22 ⟨rfl, hS22⟩
          clear hS21
          go_wp2_with fail
          refine (drawWeightAt_any w.heap.size w _ a1 len1 cap1 HC1.out (by omega) hS22).mono ?_
          rintro e W23 ⟨z, y, rfl, hz, y0, y1, hS23⟩
          have HMZ : Hid (z.size ≤ maxLen) := by show _ ≤ _; unfold maxLen; omega
          have HE : Hid (Below w.heap.size w W23) := hS23.1
          clear hS22 hS23
          go_wp2_with fail
          refine (weight_walks z y _ HMZ.out).1.mono ?_
          rintro e W24 ⟨rfl, rfl⟩
          go_wp2_with fail
          refine (weight_walks z y _ HMZ.out).2.mono ?_
          rintro e W25 ⟨rfl, rfl⟩
          go_wp2
          go_ret
          exact ⟨rfl, HE.out⟩
        · have hFD : (D == F) = false := by
            cases hh : (D == F) with
            | false => rfl
            | true => exact absurd (hiff.1 (by simpa using (beq_iff_eq.1 hh).symm)) hq
          have hq' : (byteAt t i % 255 == byteAt t (i + 1) % 255) = false := by simpa using hq
          clear hiff hq
          go_wp2
          go_quiet (fail)
          go_wp2_with fail
          refine (drawAddSums_any w.heap.size w _ a1 len1 cap1 HC1.out (by omega) (hS15.drewN _)).mono ?_
          rintro e W20 ⟨p, q, r, v, long, rfl, hS20⟩
          clear hS15
          go_wp2_with fail
          refine (implAdd_u p q r v long _ hS20 HT.out HP.out).mono ?_
          rintro e W21 ⟨rfl, hS21⟩
          clear hS20
          go_wp2_with fail
          refine (specAdd_u p q r v long _ hS21).mono ?_
          rintro e W22 ⟨rfl, hS22⟩
          clear hS21
          go_wp2_with fail
          refine (drawWeightAt_any w.heap.size w _ a1 len1 cap1 HC1.out (by omega) hS22).mono ?_
          rintro e W23 ⟨z, y, rfl, hz, y0, y1, hS23⟩
          have HMZ : Hid (z.size ≤ maxLen) := by show _ ≤ _; unfold maxLen; omega
          have HE : Hid (Below w.heap.size w W23) := hS23.1
          clear hS22 hS23
          go_wp2_with fail
          refine (weight_walks z y _ HMZ.out).1.mono ?_
          rintro e W24 ⟨rfl, rfl⟩
          go_wp2_with fail
          refine (weight_walks z y _ HMZ.out).2.mono ?_
          rintro e W25 ⟨rfl, rfl⟩
          go_wp2
          go_ret
          exact ⟨rfl, HE.out⟩
      · have HM2 : Hid (t.size ≤ maxLen) := by show _ ≤ _; unfold maxLen; omega
        have HH2 : Hid (200 < t.size ∨ kk < 0 ∨ (t.size : Int) ≤ kk + 1) := by show _ ∨ _; omega
        clear hg2
        go_wp2_with fail
        refine (implSwap_no t kk _ HM2.out HH2.out).mono ?_
        rintro e W12 ⟨rfl, rfl⟩
        go_wp2_with fail
        refine (specSwap_no t kk _ HM2.out HH2.out).mono ?_
        rintro e W13 ⟨rfl, rfl⟩
        go_wp2_with fail
        refine (drawAddSums_any w.heap.size w _ a1 len1 cap1 HC1.out (by omega) hS11).mono ?_
        rintro e W20 ⟨p, q, r, v, long, rfl, hS20⟩
        clear hS11
        go_wp2_with fail
        refine (implAdd_u p q r v long _ hS20 HT.out HP.out).mono ?_
        rintro e W21 ⟨rfl, hS21⟩
        clear hS20
        go_wp2_with fail
        refine (specAdd_u p q r v long _ hS21).mono ?_
        rintro e W22 ⟨rfl, hS22⟩
        clear hS21
        go_wp2_with fail
        refine (drawWeightAt_any w.heap.size w _ a1 len1 cap1 HC1.out (by omega) hS22).mono ?_
        rintro e W23 ⟨z, y, rfl, hz, y0, y1, hS23⟩
        have HMZ : Hid (z.size ≤ maxLen) := by show _ ≤ _; unfold maxLen; omega
        have HE : Hid (Below w.heap.size w W23) := hS23.1
        clear hS22 hS23
        go_wp2_with fail
        refine (weight_walks z y _ HMZ.out).1.mono ?_
        rintro e W24 ⟨rfl, rfl⟩
        go_wp2_with fail
        refine (weight_walks z y _ HMZ.out).2.mono ?_
        rintro e W25 ⟨rfl, rfl⟩
        go_wp2
        go_ret
        exact ⟨rfl, HE.out⟩

theorem contract (H : Type) (enc : TypeId × Value → H) (W : World) (base : Nat) (args : Array Value) (ds gs : List (DataW H)) (before : List MemPlace)
    (hval : ∀ (j : Nat) t v, Tryd.f3.params[j]? = some t → args[j]? = some v → Value.okWide Tryd.prog W .any base t v)
    (hW : DataW.Whole enc Tryd.prog Tryd.f3.params.toList Rows.fnSumsSpec.vars false W args.toList ds gs before) (hsz : (DataW.weightsEach Tryd.prog (Tryd.f3.params.toList ++ (OpenSpec.ofChange Rows.fnSumsSpec).bare.plain.varTypes Tryd.prog) (ds ++ gs)).all (· ≤ reachBytes) = true) (hL : laidMetH Tryd.prog Rows.fnSumsRow.laid W) :
    Calls Tryd.prog 3 args W fun e W' => ∃ v, e = .returned v ∧ Rows.fnSumsSpec.post enc Tryd.prog Tryd.f3 false true false false W args v W' := by
  have hW' := hW
  obtain ⟨p, q, hA0, hV0, rfl, hfz, hnd⟩ := hW
  have hA : DataW.TrodAll enc Tryd.prog W 0 (fun _ => true) true Tryd.f3.params.toList args.toList ds p := hA0
  have hV : DataW.TrodVars enc Tryd.prog W (fun _ => true) ["loop.example/g00575/impl.moduli"] gs q := hV0
  rw [Tryd.params3] at hA hval hsz
  obtain ⟨v0, vs0, d0, ds0, p0, q0, hargs, rfl, rfl, h0, r0⟩ := trodAll_cons hA
  obtain ⟨v1, vs1, d1, ds1, p1, q1, rfl, rfl, rfl, h1, r1⟩ := trodAll_cons r0
  obtain ⟨rfl, rfl, rfl⟩ := trodAll_nil r1
  obtain rfl : args = #[v0, v1] := by cases args; simp_all
  obtain ⟨a0, len0, cap0, rfl⟩ := okWide_slice Tryd.underlying22 (hval 0 22 v0 rfl rfl)
  have k0 := h0
  have lt0 : ∀ x ∈ p0, x.block < W.heap.size := by obtain ⟨m, hm⟩ := k0; exact DataW.trod_lt m _ _ _ hm
  have hl0 : len0 ≤ 140737488351232 := by
    rcases (code_of h0).2 with h | ⟨el, sp, hd, hel⟩
    · omega
    · have := sized_slice hsz (j := 0) (t := 22) (e := 5) rfl (by rw [hd]; rfl) Tryd.underlying22
      rw [bytes5] at this
      unfold reachBytes at this
      omega
  obtain ⟨a1, len1, cap1, rfl⟩ := okWide_slice Tryd.underlying22 (hval 1 22 v1 rfl rfl)
  have k1 := h1
  have lt1 : ∀ x ∈ p1, x.block < W.heap.size := by obtain ⟨m, hm⟩ := k1; exact DataW.trod_lt m _ _ _ hm
  have hl1 : len1 ≤ 140737488351232 := by
    rcases (code_of h1).2 with h | ⟨el, sp, hd, hel⟩
    · omega
    · have := sized_slice hsz (j := 1) (t := 22) (e := 5) rfl (by rw [hd]; rfl) Tryd.underlying22
      rw [bytes5] at this
      unfold reachBytes at this
      omega
  have hT := table hL
  clear hA0 hV0
  refine (walk a0 len0 cap0 a1 len1 cap1 W (code_of k0).1 hl0 (code_of k1).1 hl1 hT).mono fun e W' ⟨he, bel⟩ => ?_
  subst he
  obtain ⟨d, rfl, hv'⟩ := vars_again hV bel (fun x hx => hW'.lt x (List.mem_append_right _ hx)) hT.pos
  exact ⟨_, rfl, _, _, _, [], _, q, hW', trodAll_mk1 (shut_bool Tryd.underlying4 _), (trodAll_cons_mk (Below.trod laidOut (by kernel_rfl) (of_decide_eq_true (by kernel_rfl)) k0 bel lt0) (trodAll_cons_mk (Below.trod laidOut (by kernel_rfl) (of_decide_eq_true (by kernel_rfl)) k1 bel lt1) trodAll_mk0)), hv', bel.frame _, fun h => by cases h⟩

theorem laid_met (os : Os) : laidMet Tryd.prog Rows.fnSumsRow.laid (({ World.holding Tryd.prog os ⟨#[], #[], []⟩ with heap := (World.holding Tryd.prog os ⟨#[], #[], []⟩).heap.modify 0 fun | .cells _ t frozen => .cells #[.int .i64 32640, .int .i64 16320, .int .i64 8160, .int .i64 4080, .int .i64 2040, .int .i64 1020, .int .i64 510, .int .i64 255] t frozen | o => o } : World).forCall (fun _ _ => 0) ⟨#[], #[.slice none 0 0, .slice none 0 0], []⟩).memory :=
  laidMet_of_run' 8 (by kernel_rfl) (by kernel_rfl)
theorem reads (os : Os) {H : Type} (enc : TypeId × Value → H) : ∃ places, DataW.whole enc Tryd.prog (({ World.holding Tryd.prog os ⟨#[], #[], []⟩ with heap := (World.holding Tryd.prog os ⟨#[], #[], []⟩).heap.modify 0 fun | .cells _ t frozen => .cells #[.int .i64 32640, .int .i64 16320, .int .i64 8160, .int .i64 4080, .int .i64 2040, .int .i64 1020, .int .i64 510, .int .i64 255] t frozen | o => o } : World).forCall (fun _ _ => 0) ⟨#[], #[.slice none 0 0, .slice none 0 0], []⟩).memory Tryd.f3.params.toList Rows.fnSumsSpec.vars false #[Value.slice none 0 0, Value.slice none 0 0].toList 8 = some ([.nil, .nil], [Rows.laid_loop_example_g00575_impl_moduli], places) :=
  ⟨[.cell 0 0, .cell 0 1, .cell 0 2, .cell 0 3, .cell 0 4, .cell 0 5, .cell 0 6, .cell 0 7], by kernel_rfl⟩

set_option maxRecDepth 100000 in
theorem lifted (os : Os) (started : os.Started) (H : Type) (enc : TypeId × Value → H) (F : Stop.Interp) :
    ReturnsInHanded {} Tryd.checked os 3 .any ((OpenSpec.ofChange Rows.fnSumsSpec).preRow enc Tryd.prog Tryd.f3 Rows.fnSumsRow.domain false Rows.fnSumsRow.laid) (((OpenSpec.ofChange Rows.fnSumsSpec).at F).post enc Tryd.prog Tryd.f3 false true false false) := by
  obtain ⟨places, hx⟩ := reads os enc
  refine returnsInHanded_of_row (C := Tryd.checked) (s := OpenSpec.ofChange Rows.fnSumsSpec) own started (by kernel_rfl) Tryd.func3
    (witness_row_at (enc := enc) (C := Tryd.checked) false ({ World.holding Tryd.prog os ⟨#[], #[], []⟩ with heap := (World.holding Tryd.prog os ⟨#[], #[], []⟩).heap.modify 0 fun | .cells _ t frozen => .cells #[.int .i64 32640, .int .i64 16320, .int .i64 8160, .int .i64 4080, .int .i64 2040, .int .i64 1020, .int .i64 510, .int .i64 255] t frozen | o => o } : World) #[.slice none 0 0, .slice none 0 0] rfl (by kernel_rfl) (by kernel_rfl) (by kernel_rfl)
      (OpenSpec.preRow_of_cond 8 hx (by kernel_rfl) (fun k hk => by cases hk) (by kernel_rfl) (laid_met os))) ?_
  intro W base args ds gs before hval hW _ _ hsz hL _ _
  exact contract H enc W base args ds gs before hval hW hsz hL

theorem said : Rows.FnSumsSaid :=
  OpenClaim.holds_of_cond 3 Tryd.f3 rfl rfl rfl rfl rfl rfl rfl ⟨rfl, rfl, rfl, rfl, rfl⟩ rfl rfl rfl rfl rfl (by kernel_rfl) Tryd.func3 (by kernel_rfl)
    (of_decide_eq_true (by kernel_rfl)) (by unfold Func.isWrapper; first | (rw [if_pos (by decide +kernel)]; kernel_rfl) | (rw [if_neg (by decide +kernel)]; exact ⟨rfl, rfl⟩))
    (fun os started H enc _ F => by rw [OpenClaim.pre_eq_preRow]; exact lifted os started H enc F)

theorem plain (f : FuncId) (fn : Func) (hf : Tryd.pinned.checked.prog.funcNamed "loop.example/g00575/laws.FnSums" = some f) (hfn : Tryd.pinned.checked.prog.funcs[f]? = some fn) :
    false = Tryd.pinned.checked.prog.looks [] ∧ ∀ (j : Nat) t, fn.params[j]? = some t → Tryd.pinned.checked.prog.wantsStandIn t = false := by
  obtain rfl : f = 3 := Option.some.inj ((show Tryd.prog.funcNamed "loop.example/g00575/laws.FnSums" = some 3 by kernel_rfl).symm.trans hf) |>.symm
  obtain rfl : fn = Tryd.f3 := (Option.some.inj (Tryd.func3.symm.trans hfn)).symm
  refine ⟨by kernel_rfl, fun j t ht => ?_⟩
  rw [Tryd.params3] at ht
  have hm : t ∈ [22] := by simpa using Array.mem_of_getElem? ht
  have hall : ([22].all fun u => !Tryd.prog.wantsStandIn u) = true := by kernel_rfl
  exact (show Tryd.prog.wantsStandIn t = false by simpa using List.all_eq_true.1 hall t hm)

/-- The card. -/
theorem card : Rows.FnSumsCardSaid :=
  Claim7.holds_tied_plain_at .later [] _ _ _ _ said (fun _ h => by cases h) (by kernel_rfl) (fun _ h => by cases h) fnSums_row_tie rfl ⟨rfl, rfl⟩ (by kernel_rfl) rfl plain (by kernel_rfl)
#print axioms card
end Go.Proofs.YtfeiefgmeleeiaaDoor.fnSums
