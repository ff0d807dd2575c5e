/-
  'GoodParents' of the model.
-/
import Derived.Test.YthlbmkefjjckaahTrMath
import Derived.Test.YthlbmkefjjckaahGrFars
namespace Go.Proofs.Ythlbmkefjjckaah
open Go.RowKit
set_option linter.unusedVariables false
attribute [local go_sem] Oper.semAt_some wide_fn

theorem goodU_out {p : List Int} {k : Nat} (hk : k < p.length) (h : ¬ (-1 ≤ lab p (k : Int) ∧ lab p (k : Int) ≤ (p.length : Int) - 1)) : goodU p = false := by
  cases hg : goodU p with
  | false => rfl
  | true =>
    have := ((goodU_iff p).1 hg).2.1 k (by omega) (by omega)
    omega
theorem goodU_long {p : List Int} {k : Nat} (hk : k < p.length) (h : 0 ≤ upU p p.length (k : Int)) : goodU p = false := by
  cases hg : goodU p with
  | false => rfl
  | true =>
    have := ((goodU_iff p).1 hg).2.2 k (by omega) (by omega)
    omega
theorem goodU_all {p : List Int} (h : ∀ i : Nat, i < p.length → (-1 ≤ lab p (i : Int) ∧ lab p (i : Int) ≤ (p.length : Int) - 1) ∧ upU p p.length (i : Int) < 0) : decide (1 ≤ (p.length : Int) ∧ (p.length : Int) ≤ 12) = goodU p := by
  have hi : ∀ i : Int, 0 ≤ i → i < p.length → (-1 ≤ lab p i ∧ lab p i < (p.length : Int)) ∧ upU p p.length i < 0 := fun i h0 h1 => by
    have := h i.toNat (by omega)
    rw [show ((i.toNat : Nat) : Int) = i by omega] at this
    omega
  by_cases e : 1 ≤ p.length ∧ p.length ≤ 12
  · rw [decide_eq_true (by omega)]
    exact ((goodU_iff p).2 ⟨e, fun i h0 h1 => (hi i h0 h1).1, fun i h0 h1 => (hi i h0 h1).2⟩).symm
  · rw [decide_eq_false (by omega)]
    cases hg : goodU p with
    | false => rfl
    | true => exact absurd ((goodU_iff p).1 hg).1 e

set_option maxRecDepth 100000 in
set_option maxHeartbeats 4000000 in
theorem specGoodParents_any (W : World) (B : Nat) (u : Value) (ps : List Int) (hu : Own W B u ps) (hl : ps.length ≤ 1048576) :
    Calls Try.prog 14 #[u] W fun e W' => e = .returned (.bool (goodU ps)) ∧ W' = W := by
  have HU : Hid (Own W B u ps) := hu
  obtain ⟨af, cf, rfl⟩ := hu.shape
  clear hu
  have hwn : IntKind.i64.wrap ((ps.length : Int) - 1) = (ps.length : Int) - 1 := by rw [IntKind.wrap_i64]; omega
  have HALL : Hid ((∀ i : Nat, i < ps.length → (-1 ≤ lab ps (i : Int) ∧ lab ps (i : Int) ≤ (ps.length : Int) - 1) ∧ upU ps ps.length (i : Int) < 0) → decide (1 ≤ (ps.length : Int) ∧ (ps.length : Int) ≤ 12) = goodU ps) := goodU_all
  have HOUT : Hid (∀ k : Nat, k < ps.length → ¬ (-1 ≤ lab ps (k : Int) ∧ lab ps (k : Int) ≤ (ps.length : Int) - 1) → goodU ps = false) := fun k hk h => goodU_out hk h
  have HLNG : Hid (∀ k : Nat, k < ps.length → 0 ≤ upU ps ps.length (k : Int) → goodU ps = false) := fun k hk h => goodU_long hk h
  generalize goodU ps = ok at *
  have HCELL : Hid (∀ k : Nat, k < ps.length → ∃ g, af = some ⟨g, 0, none⟩ ∧ W.cell? ⟨g, k, none⟩ = some (.int .i64 (lab ps (k : Int)))) := fun k hk => by
    have ho := HU.out
    rcases HU.out.2 with ⟨hv, h0⟩ | ⟨g, cap, cur, hv, -⟩
    · omega
    · cases hv
      exact ⟨g, rfl, by rw [lab_get ps k hk]; exact own_cellG ho rfl k hk⟩
  go_enter Try.func14, Try.ntmps14
  go_wp2
  go_loop [12] (fun i => ∃ k : Nat, k ≤ ps.length ∧ i = .int .i64 k ∧ Hid (∀ i : Nat, i < k → (-1 ≤ lab ps (i : Int) ∧ lab ps (i : Int) ≤ (ps.length : Int) - 1) ∧ upU ps ps.length (i : Int) < 0)) (fun i => ps.length - (intOf i).toNat)
  case atStart => exact ⟨0, Nat.zero_le _, rfl, fun i hi => by omega⟩
  case round =>
    obtain ⟨k, hk, rfl, HI⟩ := hrel
    by_cases hlt : k < ps.length
    · have hlt' : (k : Int) < (ps.length : Int) := by omega
      obtain ⟨g, rfl, hcell⟩ := HCELL.out k hlt
      have HC2 : Hid (∀ j : Nat, j < ps.length → W.cell? ⟨g, j, none⟩ = some (.int .i64 (lab ps (j : Int)))) := fun j hj => by
        obtain ⟨g', hg', h⟩ := HCELL.out j hj
        cases hg'
        exact h
      have hk64 : ps.length ≤ 1048576 := hl
      cases hd : decide (-1 ≤ lab ps (k : Int) ∧ lab ps (k : Int) ≤ (ps.length : Int) - 1) with
      | false =>
        have HF : Hid (false = ok) := (HOUT.out k hlt (of_decide_eq_false hd)).symm
        generalize lab ps (k : Int) = x at *
        clear HI HOUT HLNG HALL HC2 HCELL
        go_wp2_with fail
        refine (l1In_any x (-1) ((ps.length : Int) - 1) W).mono ?_
        rintro e ww ⟨rfl, hww⟩
        obtain rfl : W = ww := hww.symm
        rw [hd]
        go_wp2
        go_ret
        exact ⟨congrArg (fun q => Ending.returned (Value.bool q)) HF.out, rfl⟩
      | true =>
        have hx2 := of_decide_eq_true hd
        have HX2 : Hid (-1 ≤ lab ps (k : Int) ∧ lab ps (k : Int) ≤ (ps.length : Int) - 1) := hx2
        clear hx2
        obtain ⟨x, hx⟩ : ∃ x, x = lab ps (k : Int) := ⟨_, rfl⟩
        rw [← hx] at hcell hd
        clear hx
        go_wp2_with fail
        refine (l1In_any x (-1) ((ps.length : Int) - 1) W).mono ?_
        rintro e ww ⟨rfl, hww⟩
        obtain rfl : W = ww := hww.symm
        rw [hd]
        clear hd hcell
        go_wp2
        go_loop [6, 7] (fun s a => ∃ j : Nat, j ≤ ps.length ∧ s = .int .i64 j ∧ ∃ z : Int, a = .int .i64 z ∧ Hid (z = upU ps j (k : Int) ∧ -1 ≤ z ∧ z ≤ (ps.length : Int) - 1)) (fun s _ => ps.length + 1 - (intOf s).toNat)
        case atStart => exact ⟨0, Nat.zero_le _, rfl, k, rfl, rfl, by omega, by omega⟩
        case round =>
          obtain ⟨j, hj, rfl, z, rfl, HZ⟩ := hrel
          by_cases hz : 0 ≤ z
          · have hzb : decide (0 ≤ z) = true := by simpa using hz
            obtain ⟨m, rfl⟩ : ∃ m : Nat, z = (m : Int) := ⟨z.toNat, by omega⟩
            have hm : m < ps.length := by have := HZ.out.2.2; omega
            have hm' : (m : Int) < (ps.length : Int) := by omega
            have hj1 : IntKind.i64.wrap ((j : Int) + 1) = (j : Int) + 1 := by rw [IntKind.wrap_i64]; omega
            by_cases hjn : j < ps.length
            · have hjb : decide ((ps.length : Int) < (j : Int) + 1) = false := by simp; omega
              have hcm := HC2.out m hm
              have HUP : Hid (upU ps (j + 1) (k : Int) = lab ps (m : Int)) := by
                show _ = _
                rw [upU_succ, ← HZ.out.1, parU_pos ps (by omega)]
              cases hd : decide (-1 ≤ lab ps (m : Int) ∧ lab ps (m : Int) ≤ (ps.length : Int) - 1) with
              | false =>
                have HF : Hid (false = ok) := (HOUT.out m hm (of_decide_eq_false hd)).symm
                generalize lab ps (m : Int) = y at *
                clear HI HOUT HLNG HALL HC2 HCELL HZ HX2 HUP
                go_wp2_with fail
                refine (l1In_any y (-1) ((ps.length : Int) - 1) W).mono ?_
                rintro e ww ⟨rfl, hww⟩
                obtain rfl : W = ww := hww.symm
                rw [hd]
                go_wp2
                go_ret
                exact ⟨congrArg (fun q => Ending.returned (Value.bool q)) HF.out, rfl⟩
              | true =>
                have HF : Hid (lab ps (m : Int) = upU ps (j + 1) (k : Int) ∧ -1 ≤ lab ps (m : Int) ∧ lab ps (m : Int) ≤ (ps.length : Int) - 1) := ⟨HUP.out.symm, of_decide_eq_true hd⟩
                generalize lab ps (m : Int) = y at *
                clear HZ HUP hz HX2
                go_wp2_with fail
                refine (l1In_any y (-1) ((ps.length : Int) - 1) W).mono ?_
                rintro e ww ⟨rfl, hww⟩
                obtain rfl : W = ww := hww.symm
                rw [hd]
                clear hd
                go_wp2
                go_round
                case rel => exact ⟨j + 1, by omega, by go_num, _, rfl, HF.out⟩
                case measure => simp [intOf]; omega
            · have hjb : decide ((ps.length : Int) < (j : Int) + 1) = true := by simp; omega
              have HF : Hid (false = ok) := by
                refine (HLNG.out k hlt ?_).symm
                rw [show ps.length = j by omega, ← HZ.out.1]
                omega
              clear HI HOUT HLNG HALL HC2 HCELL HZ HX2
              go_wp2
              go_ret
              exact ⟨congrArg (fun q => Ending.returned (Value.bool q)) HF.out, rfl⟩
          · have hzb : decide (0 ≤ z) = false := by simpa using hz
            have HF : Hid (∀ i : Nat, i < k + 1 → (-1 ≤ lab ps (i : Int) ∧ lab ps (i : Int) ≤ (ps.length : Int) - 1) ∧ upU ps ps.length (i : Int) < 0) := fun i hi => by
              by_cases e : i = k
              · subst e
                refine ⟨HX2.out, ?_⟩
                have := upU_neg ps (ps.length - j) (x := upU ps j (i : Int)) (by rw [← HZ.out.1]; omega)
                rw [← upU_add, show ps.length - j + j = ps.length by omega] at this
                exact this
              · exact HI.out i (by omega)
            clear HI HOUT HLNG HALL HC2 HCELL HZ HX2 hz
            go_wp2
            go_round
            case rel => exact ⟨k + 1, by omega, by go_num, HF.out⟩
            case measure => simp [intOf]; omega
    · have e : k = ps.length := by omega
      have HF : Hid (decide (1 ≤ (ps.length : Int) ∧ (ps.length : Int) ≤ 12) = ok) := HALL.out fun i hi => HI.out i (by omega)
      clear HI HOUT HLNG HALL HCELL
      subst e
      go_wp2_with fail
      refine (l1In_any _ 1 12 W).mono ?_
      rintro e ww ⟨rfl, hww⟩
      obtain rfl : W = ww := hww.symm
      have hf := HF.out
      generalize decide (1 ≤ (ps.length : Int) ∧ (ps.length : Int) ≤ 12) = bb at *
      clear HF
      subst hf
      go_wp2
      go_ret
      exact ⟨rfl, rfl⟩
end Go.Proofs.Ythlbmkefjjckaah
