/-
  'FitsRing' of the program.
-/
import Derived.Test.YthdcfeafkellcabRingMath
namespace Go.Proofs.Ythdcfeafkellcab
open Go.RowKit
set_option linter.unusedVariables false

def mayFit (zs : List Int) : Bool := decide (zs.length ≤ 40) && zs.all seqB
def outFit (zs : List Int) : Bool := mayFit zs && fitsZ zs
theorem fit_long {zs : List Int} (h : 40 < zs.length) : mayFit zs = false ∧ outFit zs = false := by
  have e : mayFit zs = false := by unfold mayFit; rw [decide_eq_false (by omega)]; rfl
  exact ⟨e, by unfold outFit; rw [e]; rfl⟩
theorem fit_out {zs : List Int} (h : zs.all seqB = false) : mayFit zs = false ∧ outFit zs = false := by
  have e : mayFit zs = false := by unfold mayFit; rw [h, Bool.and_false]
  exact ⟨e, by unfold outFit; rw [e]; rfl⟩
theorem fit_in {zs : List Int} (hl : zs.length ≤ 40) (h : zs.all seqB = true) : mayFit zs = true ∧ outFit zs = fitsZ zs := by
  have e : mayFit zs = true := by unfold mayFit; rw [h, decide_eq_true hl]; rfl
  exact ⟨e, by unfold outFit; rw [e]; rfl⟩

set_option maxRecDepth 100000 in
set_option maxHeartbeats 4000000 in
theorem implFits_any (W : World) (v : Value) (zs : List Int) (h : Reads W v zs) (hl : zs.length ≤ 1048576) :
    Calls Try.prog 37 #[v] W fun e W' => e = .returned (.tuple #[.bool (outFit zs), .bool (mayFit zs)]) ∧ Below W.heap.size W W' := by
  obtain ⟨o, ho⟩ : ∃ o, o = outFit zs := ⟨_, rfl⟩
  obtain ⟨m, hm⟩ : ∃ m, m = mayFit zs := ⟨_, rfl⟩
  rw [← ho, ← hm]
  have HRD : Hid (Reads W v zs) := h
  obtain ⟨a1, cap1, rfl, hc1⟩ := h
  by_cases h40 : 40 < zs.length
  · have d1 : (40 : Int) < (zs.length : Int) := by omega
    obtain ⟨e1, e2⟩ := fit_long h40
    rw [← hm] at e1
    rw [← ho] at e2
    subst e1 e2
    clear ho hm hc1 HRD
    go_enter Try.func37, Try.ntmps37
    go_wp2
    go_ret2
    exact ⟨rfl, Below.refl _ _⟩
  · have d1 : ¬ (40 : Int) < (zs.length : Int) := by omega
    have HC1 : Hid (∀ j (hj : j < zs.length), ∃ g o, a1 = some ⟨g, o, none⟩ ∧ W.cell? ⟨g, o + j, none⟩ = some (.int .i64 zs[j])) := fun j hj => by
      rcases hc1 with e | ⟨g, o, ha, hg, hc⟩
      · rw [e] at hj; simp at hj
      · exact ⟨g, o, ha, hc j hj⟩
    have HOUT : Hid (zs.all seqB = false → m = false ∧ o = false) := fun hh => by rw [ho, hm]; exact fit_out hh
    have HIN : Hid (zs.all seqB = true → m = true ∧ o = withinB (hasN zs)) := fun hh => by rw [ho, hm, within_fits zs (fun z hz => List.all_eq_true.1 hh z hz)]; exact fit_in (by omega) hh
    have CR : Hid (zs.all seqB = true → Calls Try.prog 81 #[.slice a1 zs.length cap1] W fun e W' => e = .returned (.agg (ringA (hasN zs))) ∧ Below W.heap.size W W') := fun hh => ringOf_any W _ zs HRD.out (by omega) (fun z hz => List.all_eq_true.1 hh z hz)
    clear ho hm hc1 HRD
    go_enter Try.func37, Try.ntmps37
    go_wp2
    go_loop [11] (fun i => ∃ k : Nat, k ≤ zs.length ∧ i = .int .i64 k ∧ Hid (∀ j (hj : j < zs.length), j < k → seqB zs[j] = true)) (fun i => zs.length - (intOf i).toNat)
    case atStart => exact ⟨0, Nat.zero_le _, rfl, fun j _ hj => absurd hj (Nat.not_lt_zero _)⟩
    case round =>
      obtain ⟨k, hk, rfl, HK⟩ := hrel
      by_cases hlt : k < zs.length
      · have hlt' : (k : Int) < (zs.length : Int) := by omega
        obtain ⟨g1, o1, rfl, q0⟩ := HC1.out k hlt
        cases hs : seqB zs[k] with
        | true =>
          have HA1 : Hid (∀ j (hj : j < zs.length), j < k + 1 → seqB zs[j] = true) := fun j hj hj1 => by
            by_cases e : j = k
            · subst e; exact hs
            · exact HK.out j hj (by omega)
          have HS : Hid (seqB zs[k] = true) := hs
          clear hs HK
          generalize zs[k] = z at *
          go_wp2_with fail
          refine (isSeq_any _ z).mono ?_
          rintro e w1 ⟨rfl, rfl⟩
          rw [HS.out]
          go_wp2
          go_round
          case rel => exact ⟨k + 1, by omega, by go_num, HA1⟩
          case measure => simp [intOf]; omega
        | false =>
          have HS : Hid (seqB zs[k] = false) := hs
          obtain ⟨e1, e2⟩ := HOUT.out (by
            rw [← Bool.not_eq_true, List.all_eq_true]
            exact fun hh => by rw [hh _ (List.getElem_mem hlt)] at hs; cases hs)
          subst e1 e2
          clear hs HK HOUT HIN CR
          generalize zs[k] = z at *
          go_wp2_with fail
          refine (isSeq_any _ z).mono ?_
          rintro e w1 ⟨rfl, rfl⟩
          rw [HS.out]
          go_wp2
          go_ret2
          exact ⟨rfl, Below.refl _ _⟩
      · have hlt' : ¬ (k : Int) < (zs.length : Int) := by omega
        have hall : zs.all seqB = true := by
          rw [List.all_eq_true]
          intro z hz
          obtain ⟨j, hj, rfl⟩ := List.getElem_of_mem hz
          exact HK.out j hj (by omega)
        obtain ⟨e1, e2⟩ := HIN.out hall
        have CR2 : Hid (Calls Try.prog 81 #[.slice a1 zs.length cap1] W fun e W' => e = .returned (.agg (ringA (hasN zs))) ∧ Below W.heap.size W W') := CR.out hall
        subst e1 e2
        clear hall HK HOUT HIN CR
        go_wp2_with fail
        refine CR2.out.mono ?_
        rintro e w1 ⟨rfl, hb1⟩
        have HS1 : Hid (Since W.heap.size W w1) := (Since.start W).step hb1
        clear hb1
        go_wp2_with fail
        refine (isWithinHalf_any _ (hasN zs)).mono ?_
        rintro e w2 ⟨rfl, hb2⟩
        have HS2 : Hid (Since W.heap.size W w2) := HS1.out.step hb2
        clear hb2
        go_wp2
        go_ret2
        exact ⟨rfl, HS2.out.1⟩
end Go.Proofs.Ythdcfeafkellcab
