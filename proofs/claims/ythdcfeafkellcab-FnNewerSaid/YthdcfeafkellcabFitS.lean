/-
  'FitsRing' of the model.
-/
import Derived.Test.YthdcfeafkellcabFitI
import Derived.Deep.CutRange
namespace Go.Proofs.Ythdcfeafkellcab
open Go.RowKit
set_option linter.unusedVariables false

theorem allB_seq (zs : List Int) : allB zs 0 63 = zs.all seqB := rfl
theorem fits_no2 {zs : List Int} {a b : Int} (ha : a ∈ zs) (hb : b ∈ zs) (h : pairB a b = false) : fitsZ zs = false := by
  rw [← Bool.not_eq_true]
  unfold fitsZ
  intro hh
  have := List.all_eq_true.1 (List.all_eq_true.1 hh a ha) b hb
  rw [h] at this
  cases this
theorem fits_no3 {zs : List Int} {a b c : Int} (ha : a ∈ zs) (hb : b ∈ zs) (hc : c ∈ zs) (h : cycB a b c = true) : fitsZ zs = false := by
  rw [← Bool.not_eq_true]
  unfold fitsZ
  intro hh
  have := List.all_eq_true.1 (List.all_eq_true.1 hh a ha) b hb
  rw [Bool.and_eq_true] at this
  have := List.all_eq_true.1 this.2 c hc
  rw [h] at this
  cases this
theorem fits_yes {zs : List Int} (h : ∀ a ∈ zs, ∀ b ∈ zs, pairB a b = true ∧ ∀ c ∈ zs, cycB a b c = false) : fitsZ zs = true := by
  unfold fitsZ
  rw [List.all_eq_true]
  intro a ha
  rw [List.all_eq_true]
  intro b hb
  rw [(h a ha b hb).1, Bool.true_and, List.all_eq_true]
  intro c hc
  rw [(h a ha b hb).2 c hc]
  rfl

set_option maxRecDepth 100000 in
set_option maxHeartbeats 8000000 in
theorem specFits_any (W : World) (v : Value) (zs : List Int) (h : Reads W v zs) (hl : zs.length ≤ 1048576) :
    Calls Try.prog 38 #[v] W fun e W' => e = .returned (.tuple #[.bool (outFit zs), .bool (mayFit zs)]) ∧ Below W.heap.size W W' := by
  obtain ⟨o, ho⟩ : ∃ o, o = outFit zs := ⟨_, rfl⟩
  obtain ⟨m, hm⟩ : ∃ m, m = mayFit zs := ⟨_, rfl⟩
  rw [← ho, ← hm]
  have HRD : Hid (Reads W v zs) := h
  obtain ⟨a1, cap1, rfl, hc1⟩ := h
  by_cases h40 : 40 < zs.length
  · have d1 : (40 : Int) < (zs.length : Int) := by omega
    obtain ⟨e1, e2⟩ := fit_long h40
    rw [← hm] at e1
    rw [← ho] at e2
    subst e1 e2
    clear ho hm hc1 HRD
    go_enter Try.func38, Try.ntmps38
    go_wp2
    go_ret2
    exact ⟨rfl, Below.refl _ _⟩
  · have d1 : ¬ (40 : Int) < (zs.length : Int) := by omega
    cases hall : zs.all seqB with
    | false =>
      have HAL : Hid (allB zs 0 63 = false) := hall
      obtain ⟨e1, e2⟩ := fit_out hall
      rw [← hm] at e1
      rw [← ho] at e2
      subst e1 e2
      clear ho hm hc1 hall
      go_enter Try.func38, Try.ntmps38
      go_wp2_with fail
      refine (l1All_any _ _ zs 0 63 HRD.out (by omega)).mono ?_
      rintro e w1 ⟨rfl, rfl⟩
      rw [HAL.out]
      go_wp2
      go_ret2
      exact ⟨rfl, Below.refl _ _⟩
    | true =>
      have HAL : Hid (allB zs 0 63 = true) := hall
      obtain ⟨e1, e2⟩ := fit_in (by omega) hall
      rw [← hm] at e1
      rw [← ho] at e2
      have HNO2 : Hid (∀ a ∈ zs, ∀ b ∈ zs, pairB a b = false → o = false) := fun a ha b hb hh => by rw [e2]; exact fits_no2 ha hb hh
      have HNO3 : Hid (∀ a ∈ zs, ∀ b ∈ zs, ∀ c ∈ zs, cycB a b c = true → o = false) := fun a ha b hb c hc hh => by rw [e2]; exact fits_no3 ha hb hc hh
      have HYES : Hid ((∀ a ∈ zs, ∀ b ∈ zs, pairB a b = true ∧ ∀ c ∈ zs, cycB a b c = false) → o = true) := fun hh => by rw [e2]; exact fits_yes hh
      have HSQ : Hid (∀ z ∈ zs, seqB z = true) := fun z hz => List.all_eq_true.1 hall z hz
      have HC1 : Hid (∀ j (hj : j < zs.length), ∃ g o, a1 = some ⟨g, o, none⟩ ∧ W.cell? ⟨g, o + j, none⟩ = some (.int .i64 zs[j])) := fun j hj => by
        rcases hc1 with e | ⟨g, o, ha, hg, hc⟩
        · rw [e] at hj; simp at hj
        · exact ⟨g, o, ha, hc j hj⟩
      subst e1
      clear ho hm hc1 hall e2
      go_enter Try.func38, Try.ntmps38
      go_wp2_with fail
      refine (l1All_any _ _ zs 0 63 HRD.out (by omega)).mono ?_
      rintro e w1 ⟨rfl, rfl⟩
      rw [HAL.out]
      go_wp2
      clear HAL HRD
      go_loop [20] (fun i => ∃ k : Nat, k ≤ zs.length ∧ i = .int .i64 k ∧ Hid (∀ j (hj : j < zs.length), j < k → ∀ b ∈ zs, pairB zs[j] b = true ∧ ∀ c ∈ zs, cycB zs[j] b c = false)) (fun i => zs.length - (intOf i).toNat)
      case atStart => exact ⟨0, Nat.zero_le _, rfl, fun j _ hj => absurd hj (Nat.not_lt_zero _)⟩
      case round =>
        obtain ⟨k, hk, rfl, HK⟩ := hrel
        by_cases hlt : k < zs.length
        · have hlt' : (k : Int) < (zs.length : Int) := by omega
          obtain ⟨g1, o1, rfl, q0⟩ := HC1.out k hlt
          have HMa : Hid (zs[k] ∈ zs) := List.getElem_mem hlt
          have HOK : Hid ((∀ b ∈ zs, pairB zs[k] b = true ∧ ∀ c ∈ zs, cycB zs[k] b c = false) → ∀ j (hj : j < zs.length), j < k + 1 → ∀ b ∈ zs, pairB zs[j] b = true ∧ ∀ c ∈ zs, cycB zs[j] b c = false) := fun hh j hj hj1 => by
            by_cases e : j = k
            · subst e; exact hh
            · exact HK.out j hj (by omega)
          generalize zs[k] = a at *
          have Sa : Hid (seqB a = true) := HSQ.out a HMa.out
          clear HK
          go_wp2
          go_loop [26] (fun i => ∃ j : Nat, j ≤ zs.length ∧ i = .int .i64 j ∧ Hid (∀ i (hi : i < zs.length), i < j → pairB a zs[i] = true ∧ ∀ c ∈ zs, cycB a zs[i] c = false)) (fun i => zs.length - (intOf i).toNat)
          case atStart => exact ⟨0, Nat.zero_le _, rfl, fun j _ hj => absurd hj (Nat.not_lt_zero _)⟩
          case round =>
            obtain ⟨j, hj, rfl, HJ⟩ := hrel
            by_cases hlj : j < zs.length
            · have hlj' : (j : Int) < (zs.length : Int) := by omega
              obtain ⟨g2, o2, hg2, q1⟩ := HC1.out j hlj
              simp only [Option.some.injEq, Addr.mk.injEq, and_true] at hg2
              obtain ⟨rfl, rfl⟩ := hg2
              have HMb : Hid (zs[j] ∈ zs) := List.getElem_mem hlj
              have HOJ : Hid ((pairB a zs[j] = true ∧ ∀ c ∈ zs, cycB a zs[j] c = false) → ∀ i (hi : i < zs.length), i < j + 1 → pairB a zs[i] = true ∧ ∀ c ∈ zs, cycB a zs[i] c = false) := fun hh i hi hi1 => by
                by_cases e : i = j
                · subst e; exact hh
                · exact HJ.out i hi (by omega)
              generalize zs[j] = b at *
              have Sb : Hid (seqB b = true) := HSQ.out b HMb.out
              clear HJ
              by_cases hab : a = b
              · have hq : (a == b) = true := by simp [hab]
                have HP : Hid (pairB a b = true) := by show _ = _; unfold pairB; rw [hq]; rfl
                have hq2 : (a != b) = false := by simp [hab]
                clear hab hq
                go_wp2
                go_loop [47] (fun i => ∃ n : Nat, n ≤ zs.length ∧ i = .int .i64 n ∧ Hid (∀ i (hi : i < zs.length), i < n → cycB a b zs[i] = false)) (fun i => zs.length - (intOf i).toNat)
                case atStart => exact ⟨0, Nat.zero_le _, rfl, fun j _ hj => absurd hj (Nat.not_lt_zero _)⟩
                case round =>
                  obtain ⟨n, hn, rfl, HN⟩ := hrel
                  by_cases hln : n < zs.length
                  · have hln' : (n : Int) < (zs.length : Int) := by omega
                    obtain ⟨g3, o3, hg3, q2⟩ := HC1.out n hln
                    simp only [Option.some.injEq, Addr.mk.injEq, and_true] at hg3
                    obtain ⟨rfl, rfl⟩ := hg3
                    have HMc : Hid (zs[n] ∈ zs) := List.getElem_mem hln
                    have HON : Hid (cycB a b zs[n] = false → ∀ i (hi : i < zs.length), i < n + 1 → cycB a b zs[i] = false) := fun hh i hi hi1 => by
                      by_cases e : i = n
                      · subst e; exact hh
                      · exact HN.out i hi (by omega)
                    generalize zs[n] = c at *
                    have Sc : Hid (seqB c = true) := HSQ.out c HMc.out
                    clear HN
                    cases n1 : newerB a b with
                    | false =>
                      have N1 : Hid (newerB a b = false) := n1
                      have HE : Hid (cycB a b c = false) := by show _ = _; unfold cycB; rw [n1]; rfl
                      have HA3 : Hid (∀ i (hi : i < zs.length), i < n + 1 → cycB a b zs[i] = false) := HON.out HE.out
                      clear HON n1
                      go_wp2_with fail
                      refine (l5Newer_any _ a b Sa.out Sb.out).mono ?_
                      rintro e w9 ⟨rfl, rfl⟩
                      rw [N1.out]
                      go_wp2
                      go_round
                      case rel => exact ⟨n + 1, by omega, by go_num, HA3⟩
                      case measure => simp [intOf]; omega
                    | true =>
                      have N1 : Hid (newerB a b = true) := n1
                      cases n2 : newerB b c with
                      | false =>
                        have N2 : Hid (newerB b c = false) := n2
                        have HE : Hid (cycB a b c = false) := by show _ = _; unfold cycB; rw [n1, n2]; rfl
                        have HA3 : Hid (∀ i (hi : i < zs.length), i < n + 1 → cycB a b zs[i] = false) := HON.out HE.out
                        clear HON n1 n2
                        go_wp2_with fail
                        refine (l5Newer_any _ a b Sa.out Sb.out).mono ?_
                        rintro e w9 ⟨rfl, rfl⟩
                        rw [N1.out]
                        go_wp2_with fail
                        refine (l5Newer_any _ b c Sb.out Sc.out).mono ?_
                        rintro e w9 ⟨rfl, rfl⟩
                        rw [N2.out]
                        go_wp2
                        go_round
                        case rel => exact ⟨n + 1, by omega, by go_num, HA3⟩
                        case measure => simp [intOf]; omega
                      | true =>
                        have N2 : Hid (newerB b c = true) := n2
                        cases n3 : newerB c a with
                        | false =>
                          have N3 : Hid (newerB c a = false) := n3
                          have HE : Hid (cycB a b c = false) := by show _ = _; unfold cycB; rw [n1, n2, n3]; rfl
                          have HA3 : Hid (∀ i (hi : i < zs.length), i < n + 1 → cycB a b zs[i] = false) := HON.out HE.out
                          clear HON n1 n2 n3
                          go_wp2_with fail
                          refine (l5Newer_any _ a b Sa.out Sb.out).mono ?_
                          rintro e w9 ⟨rfl, rfl⟩
                          rw [N1.out]
                          go_wp2_with fail
                          refine (l5Newer_any _ b c Sb.out Sc.out).mono ?_
                          rintro e w9 ⟨rfl, rfl⟩
                          rw [N2.out]
                          go_wp2_with fail
                          refine (l5Newer_any _ c a Sc.out Sa.out).mono ?_
                          rintro e w9 ⟨rfl, rfl⟩
                          rw [N3.out]
                          go_wp2
                          go_round
                          case rel => exact ⟨n + 1, by omega, by go_num, HA3⟩
                          case measure => simp [intOf]; omega
                        | true =>
                          have N3 : Hid (newerB c a = true) := n3
                          have HE : Hid (cycB a b c = true) := by show _ = _; unfold cycB; rw [n1, n2, n3]; rfl
                          obtain rfl := HNO3.out a HMa.out b HMb.out c HMc.out HE.out
                          clear HNO2 HNO3 HYES HOK HOJ HON n1 n2 n3
                          go_wp2_with fail
                          refine (l5Newer_any _ a b Sa.out Sb.out).mono ?_
                          rintro e w9 ⟨rfl, rfl⟩
                          rw [N1.out]
                          go_wp2_with fail
                          refine (l5Newer_any _ b c Sb.out Sc.out).mono ?_
                          rintro e w9 ⟨rfl, rfl⟩
                          rw [N2.out]
                          go_wp2_with fail
                          refine (l5Newer_any _ c a Sc.out Sa.out).mono ?_
                          rintro e w9 ⟨rfl, rfl⟩
                          rw [N3.out]
                          go_wp2
                          go_ret2
                          exact ⟨rfl, Below.refl _ _⟩
                  · have hln' : ¬ (n : Int) < (zs.length : Int) := by omega
                    have HA2 : Hid (∀ i (hi : i < zs.length), i < j + 1 → pairB a zs[i] = true ∧ ∀ c ∈ zs, cycB a zs[i] c = false) := HOJ.out ⟨HP.out, fun c hc => by
                      obtain ⟨i, hi, rfl⟩ := List.getElem_of_mem hc
                      exact HN.out i hi (by omega)⟩
                    clear HN HOJ
                    go_wp2
                    go_round
                    case rel => exact ⟨j + 1, by omega, by go_num, HA2⟩
                    case measure => simp [intOf]; omega
              · have hq : (a == b) = false := by simp [hab]
                have hq2 : (a != b) = true := by simp [hab]
                clear hab
                cases n1 : newerB a b with
                | true =>
                  have N1 : Hid (newerB a b = true) := n1
                  have HP : Hid (pairB a b = true) := by show _ = _; unfold pairB; rw [hq, n1]; rfl
                  clear n1
                  go_wp2_with fail
                  refine (l5Newer_any _ a b Sa.out Sb.out).mono ?_
                  rintro e w9 ⟨rfl, rfl⟩
                  rw [N1.out]
                  go_wp2
                  go_loop [47] (fun i => ∃ n : Nat, n ≤ zs.length ∧ i = .int .i64 n ∧ Hid (∀ i (hi : i < zs.length), i < n → cycB a b zs[i] = false)) (fun i => zs.length - (intOf i).toNat)
                  case atStart => exact ⟨0, Nat.zero_le _, rfl, fun j _ hj => absurd hj (Nat.not_lt_zero _)⟩
                  case round =>
                    obtain ⟨n, hn, rfl, HN⟩ := hrel
                    by_cases hln : n < zs.length
                    · have hln' : (n : Int) < (zs.length : Int) := by omega
                      obtain ⟨g3, o3, hg3, q2⟩ := HC1.out n hln
                      simp only [Option.some.injEq, Addr.mk.injEq, and_true] at hg3
                      obtain ⟨rfl, rfl⟩ := hg3
                      have HMc : Hid (zs[n] ∈ zs) := List.getElem_mem hln
                      have HON : Hid (cycB a b zs[n] = false → ∀ i (hi : i < zs.length), i < n + 1 → cycB a b zs[i] = false) := fun hh i hi hi1 => by
                        by_cases e : i = n
                        · subst e; exact hh
                        · exact HN.out i hi (by omega)
                      generalize zs[n] = c at *
                      have Sc : Hid (seqB c = true) := HSQ.out c HMc.out
                      clear HN
                      cases n1 : newerB a b with
                      | false =>
                        have N1 : Hid (newerB a b = false) := n1
                        have HE : Hid (cycB a b c = false) := by show _ = _; unfold cycB; rw [n1]; rfl
                        have HA3 : Hid (∀ i (hi : i < zs.length), i < n + 1 → cycB a b zs[i] = false) := HON.out HE.out
                        clear HON n1
                        go_wp2_with fail
                        refine (l5Newer_any _ a b Sa.out Sb.out).mono ?_
                        rintro e w9 ⟨rfl, rfl⟩
                        rw [N1.out]
                        go_wp2
                        go_round
                        case rel => exact ⟨n + 1, by omega, by go_num, HA3⟩
                        case measure => simp [intOf]; omega
                      | true =>
                        have N1 : Hid (newerB a b = true) := n1
                        cases n2 : newerB b c with
                        | false =>
                          have N2 : Hid (newerB b c = false) := n2
                          have HE : Hid (cycB a b c = false) := by show _ = _; unfold cycB; rw [n1, n2]; rfl
                          have HA3 : Hid (∀ i (hi : i < zs.length), i < n + 1 → cycB a b zs[i] = false) := HON.out HE.out
                          clear HON n1 n2
                          go_wp2_with fail
                          refine (l5Newer_any _ a b Sa.out Sb.out).mono ?_
                          rintro e w9 ⟨rfl, rfl⟩
                          rw [N1.out]
                          go_wp2_with fail
                          refine (l5Newer_any _ b c Sb.out Sc.out).mono ?_
                          rintro e w9 ⟨rfl, rfl⟩
                          rw [N2.out]
                          go_wp2
                          go_round
                          case rel => exact ⟨n + 1, by omega, by go_num, HA3⟩
                          case measure => simp [intOf]; omega
                        | true =>
                          have N2 : Hid (newerB b c = true) := n2
                          cases n3 : newerB c a with
                          | false =>
                            have N3 : Hid (newerB c a = false) := n3
                            have HE : Hid (cycB a b c = false) := by show _ = _; unfold cycB; rw [n1, n2, n3]; rfl
                            have HA3 : Hid (∀ i (hi : i < zs.length), i < n + 1 → cycB a b zs[i] = false) := HON.out HE.out
                            clear HON n1 n2 n3
                            go_wp2_with fail
                            refine (l5Newer_any _ a b Sa.out Sb.out).mono ?_
                            rintro e w9 ⟨rfl, rfl⟩
                            rw [N1.out]
                            go_wp2_with fail
                            refine (l5Newer_any _ b c Sb.out Sc.out).mono ?_
                            rintro e w9 ⟨rfl, rfl⟩
                            rw [N2.out]
                            go_wp2_with fail
                            refine (l5Newer_any _ c a Sc.out Sa.out).mono ?_
                            rintro e w9 ⟨rfl, rfl⟩
                            rw [N3.out]
                            go_wp2
                            go_round
                            case rel => exact ⟨n + 1, by omega, by go_num, HA3⟩
                            case measure => simp [intOf]; omega
                          | true =>
                            have N3 : Hid (newerB c a = true) := n3
                            have HE : Hid (cycB a b c = true) := by show _ = _; unfold cycB; rw [n1, n2, n3]; rfl
                            obtain rfl := HNO3.out a HMa.out b HMb.out c HMc.out HE.out
                            clear HNO2 HNO3 HYES HOK HOJ HON n1 n2 n3
                            go_wp2_with fail
                            refine (l5Newer_any _ a b Sa.out Sb.out).mono ?_
                            rintro e w9 ⟨rfl, rfl⟩
                            rw [N1.out]
                            go_wp2_with fail
                            refine (l5Newer_any _ b c Sb.out Sc.out).mono ?_
                            rintro e w9 ⟨rfl, rfl⟩
                            rw [N2.out]
                            go_wp2_with fail
                            refine (l5Newer_any _ c a Sc.out Sa.out).mono ?_
                            rintro e w9 ⟨rfl, rfl⟩
                            rw [N3.out]
                            go_wp2
                            go_ret2
                            exact ⟨rfl, Below.refl _ _⟩
                    · have hln' : ¬ (n : Int) < (zs.length : Int) := by omega
                      have HA2 : Hid (∀ i (hi : i < zs.length), i < j + 1 → pairB a zs[i] = true ∧ ∀ c ∈ zs, cycB a zs[i] c = false) := HOJ.out ⟨HP.out, fun c hc => by
                        obtain ⟨i, hi, rfl⟩ := List.getElem_of_mem hc
                        exact HN.out i hi (by omega)⟩
                      clear HN HOJ
                      go_wp2
                      go_round
                      case rel => exact ⟨j + 1, by omega, by go_num, HA2⟩
                      case measure => simp [intOf]; omega
                | false =>
                  have N1 : Hid (newerB a b = false) := n1
                  cases n2 : newerB b a with
                  | true =>
                    have N2 : Hid (newerB b a = true) := n2
                    have HP : Hid (pairB a b = true) := by show _ = _; unfold pairB; rw [hq, n1, n2]; rfl
                    clear n1 n2
                    go_wp2_with fail
                    refine (l5Newer_any _ a b Sa.out Sb.out).mono ?_
                    rintro e w9 ⟨rfl, rfl⟩
                    rw [N1.out]
                    go_wp2_with fail
                    refine (l5Newer_any _ b a Sb.out Sa.out).mono ?_
                    rintro e w9 ⟨rfl, rfl⟩
                    rw [N2.out]
                    go_wp2
                    go_loop [47] (fun i => ∃ n : Nat, n ≤ zs.length ∧ i = .int .i64 n ∧ Hid (∀ i (hi : i < zs.length), i < n → cycB a b zs[i] = false)) (fun i => zs.length - (intOf i).toNat)
                    case atStart => exact ⟨0, Nat.zero_le _, rfl, fun j _ hj => absurd hj (Nat.not_lt_zero _)⟩
                    case round =>
                      obtain ⟨n, hn, rfl, HN⟩ := hrel
                      by_cases hln : n < zs.length
                      · have hln' : (n : Int) < (zs.length : Int) := by omega
                        obtain ⟨g3, o3, hg3, q2⟩ := HC1.out n hln
                        simp only [Option.some.injEq, Addr.mk.injEq, and_true] at hg3
                        obtain ⟨rfl, rfl⟩ := hg3
                        have HMc : Hid (zs[n] ∈ zs) := List.getElem_mem hln
                        have HON : Hid (cycB a b zs[n] = false → ∀ i (hi : i < zs.length), i < n + 1 → cycB a b zs[i] = false) := fun hh i hi hi1 => by
                          by_cases e : i = n
                          · subst e; exact hh
                          · exact HN.out i hi (by omega)
                        generalize zs[n] = c at *
                        have Sc : Hid (seqB c = true) := HSQ.out c HMc.out
                        clear HN
                        cases n1 : newerB a b with
                        | false =>
                          have N1 : Hid (newerB a b = false) := n1
                          have HE : Hid (cycB a b c = false) := by show _ = _; unfold cycB; rw [n1]; rfl
                          have HA3 : Hid (∀ i (hi : i < zs.length), i < n + 1 → cycB a b zs[i] = false) := HON.out HE.out
                          clear HON n1
                          go_wp2_with fail
                          refine (l5Newer_any _ a b Sa.out Sb.out).mono ?_
                          rintro e w9 ⟨rfl, rfl⟩
                          rw [N1.out]
                          go_wp2
                          go_round
                          case rel => exact ⟨n + 1, by omega, by go_num, HA3⟩
                          case measure => simp [intOf]; omega
                        | true =>
                          have N1 : Hid (newerB a b = true) := n1
                          cases n2 : newerB b c with
                          | false =>
                            have N2 : Hid (newerB b c = false) := n2
                            have HE : Hid (cycB a b c = false) := by show _ = _; unfold cycB; rw [n1, n2]; rfl
                            have HA3 : Hid (∀ i (hi : i < zs.length), i < n + 1 → cycB a b zs[i] = false) := HON.out HE.out
                            clear HON n1 n2
                            go_wp2_with fail
                            refine (l5Newer_any _ a b Sa.out Sb.out).mono ?_
                            rintro e w9 ⟨rfl, rfl⟩
                            rw [N1.out]
                            go_wp2_with fail
                            refine (l5Newer_any _ b c Sb.out Sc.out).mono ?_
                            rintro e w9 ⟨rfl, rfl⟩
                            rw [N2.out]
                            go_wp2
                            go_round
                            case rel => exact ⟨n + 1, by omega, by go_num, HA3⟩
                            case measure => simp [intOf]; omega
                          | true =>
                            have N2 : Hid (newerB b c = true) := n2
                            cases n3 : newerB c a with
                            | false =>
                              have N3 : Hid (newerB c a = false) := n3
                              have HE : Hid (cycB a b c = false) := by show _ = _; unfold cycB; rw [n1, n2, n3]; rfl
                              have HA3 : Hid (∀ i (hi : i < zs.length), i < n + 1 → cycB a b zs[i] = false) := HON.out HE.out
                              clear HON n1 n2 n3
                              go_wp2_with fail
                              refine (l5Newer_any _ a b Sa.out Sb.out).mono ?_
                              rintro e w9 ⟨rfl, rfl⟩
                              rw [N1.out]
                              go_wp2_with fail
                              refine (l5Newer_any _ b c Sb.out Sc.out).mono ?_
                              rintro e w9 ⟨rfl, rfl⟩
                              rw [N2.out]
                              go_wp2_with fail
                              refine (l5Newer_any _ c a Sc.out Sa.out).mono ?_
                              rintro e w9 ⟨rfl, rfl⟩
                              rw [N3.out]
                              go_wp2
                              go_round
                              case rel => exact ⟨n + 1, by omega, by go_num, HA3⟩
                              case measure => simp [intOf]; omega
                            | true =>
                              have N3 : Hid (newerB c a = true) := n3
                              have HE : Hid (cycB a b c = true) := by show _ = _; unfold cycB; rw [n1, n2, n3]; rfl
                              obtain rfl := HNO3.out a HMa.out b HMb.out c HMc.out HE.out
                              clear HNO2 HNO3 HYES HOK HOJ HON n1 n2 n3
                              go_wp2_with fail
                              refine (l5Newer_any _ a b Sa.out Sb.out).mono ?_
                              rintro e w9 ⟨rfl, rfl⟩
                              rw [N1.out]
                              go_wp2_with fail
                              refine (l5Newer_any _ b c Sb.out Sc.out).mono ?_
                              rintro e w9 ⟨rfl, rfl⟩
                              rw [N2.out]
                              go_wp2_with fail
                              refine (l5Newer_any _ c a Sc.out Sa.out).mono ?_
                              rintro e w9 ⟨rfl, rfl⟩
                              rw [N3.out]
                              go_wp2
                              go_ret2
                              exact ⟨rfl, Below.refl _ _⟩
                      · have hln' : ¬ (n : Int) < (zs.length : Int) := by omega
                        have HA2 : Hid (∀ i (hi : i < zs.length), i < j + 1 → pairB a zs[i] = true ∧ ∀ c ∈ zs, cycB a zs[i] c = false) := HOJ.out ⟨HP.out, fun c hc => by
                          obtain ⟨i, hi, rfl⟩ := List.getElem_of_mem hc
                          exact HN.out i hi (by omega)⟩
                        clear HN HOJ
                        go_wp2
                        go_round
                        case rel => exact ⟨j + 1, by omega, by go_num, HA2⟩
                        case measure => simp [intOf]; omega
                  | false =>
                    have N2 : Hid (newerB b a = false) := n2
                    have HP : Hid (pairB a b = false) := by show _ = _; unfold pairB; rw [hq, n1, n2]; rfl
                    obtain rfl := HNO2.out a HMa.out b HMb.out HP.out
                    clear HNO2 HNO3 HYES HOK HOJ n1 n2
                    go_wp2_with fail
                    refine (l5Newer_any _ a b Sa.out Sb.out).mono ?_
                    rintro e w9 ⟨rfl, rfl⟩
                    rw [N1.out]
                    go_wp2_with fail
                    refine (l5Newer_any _ b a Sb.out Sa.out).mono ?_
                    rintro e w9 ⟨rfl, rfl⟩
                    rw [N2.out]
                    go_wp2
                    go_ret2
                    exact ⟨rfl, Below.refl _ _⟩
            · have hlj' : ¬ (j : Int) < (zs.length : Int) := by omega
              have HA1 : Hid (∀ j (hj : j < zs.length), j < k + 1 → ∀ b ∈ zs, pairB zs[j] b = true ∧ ∀ c ∈ zs, cycB zs[j] b c = false) := HOK.out fun b hb => by
                obtain ⟨i, hi, rfl⟩ := List.getElem_of_mem hb
                exact HJ.out i hi (by omega)
              clear HJ HOK
              go_wp2
              go_round
              case rel => exact ⟨k + 1, by omega, by go_num, HA1⟩
              case measure => simp [intOf]; omega
        · have hlt' : ¬ (k : Int) < (zs.length : Int) := by omega
          obtain rfl := HYES.out fun a ha => by
            obtain ⟨j, hj, rfl⟩ := List.getElem_of_mem ha
            exact HK.out j hj (by omega)
          clear HK HYES HNO2 HNO3
          go_wp2
          go_ret2
          exact ⟨rfl, Below.refl _ _⟩
end Go.Proofs.Ythdcfeafkellcab
