import Derived.Test.YthlbmkefjjckaadTrMath
import Derived.Test.YthlbmkefjjckaadGrFars
import Derived.Test.YthlbmkefjjckaadTrGood
import Derived.Test.YthlbmkefjjckaadPut2
/-
  'GoodParents' of the model.
-/
namespace Go.Proofs.Ythlbmkefjjckaad
open Go.RowKit
set_option linter.unusedVariables false
attribute [local go_sem] Oper.semAt_some wide_fn

theorem goodU_out {p : List Int} {k : Nat} (hk : k < p.length) (h : ¬ (-1 ≤ lab p (k : Int) ∧ lab p (k : Int) ≤ (p.length : Int) - 1)) : goodU p = false := by
  cases hg : goodU p with
  | false => rfl
  | true =>
    have := ((goodU_iff p).1 hg).2.1 k (by omega) (by omega)
    omega
theorem goodU_long {p : List Int} {k : Nat} (hk : k < p.length) (h : 0 ≤ upU p p.length (k : Int)) : goodU p = false := by
  cases hg : goodU p with
  | false => rfl
  | true =>
    have := ((goodU_iff p).1 hg).2.2 k (by omega) (by omega)
    omega
theorem goodU_all {p : List Int} (h : ∀ i : Nat, i < p.length → (-1 ≤ lab p (i : Int) ∧ lab p (i : Int) ≤ (p.length : Int) - 1) ∧ upU p p.length (i : Int) < 0) : decide (1 ≤ (p.length : Int) ∧ (p.length : Int) ≤ 12) = goodU p := by
  have hi : ∀ i : Int, 0 ≤ i → i < p.length → (-1 ≤ lab p i ∧ lab p i < (p.length : Int)) ∧ upU p p.length i < 0 := fun i h0 h1 => by
    have := h i.toNat (by omega)
    rw [show ((i.toNat : Nat) : Int) = i by omega] at this
    omega
  by_cases e : 1 ≤ p.length ∧ p.length ≤ 12
  · rw [decide_eq_true (by omega)]
    exact ((goodU_iff p).2 ⟨e, fun i h0 h1 => (hi i h0 h1).1, fun i h0 h1 => (hi i h0 h1).2⟩).symm
  · rw [decide_eq_false (by omega)]
    cases hg : goodU p with
    | false => rfl
    | true => exact absurd ((goodU_iff p).1 hg).1 e

set_option maxRecDepth 100000 in
set_option maxHeartbeats 4000000 in
theorem specGoodParents_any (W : World) (B : Nat) (u : Value) (ps : List Int) (hu : Own W B u ps) (hl : ps.length ≤ 1048576) :
    Calls Try.prog 23 #[u] W fun e W' => e = .returned (.bool (goodU ps)) ∧ W' = W := by
  have HU : Hid (Own W B u ps) := hu
  obtain ⟨af, cf, rfl⟩ := hu.shape
  clear hu
  have hwn : IntKind.i64.wrap ((ps.length : Int) - 1) = (ps.length : Int) - 1 := by rw [IntKind.wrap_i64]; omega
  have HALL : Hid ((∀ i : Nat, i < ps.length → (-1 ≤ lab ps (i : Int) ∧ lab ps (i : Int) ≤ (ps.length : Int) - 1) ∧ upU ps ps.length (i : Int) < 0) → decide (1 ≤ (ps.length : Int) ∧ (ps.length : Int) ≤ 12) = goodU ps) := goodU_all
  have HOUT : Hid (∀ k : Nat, k < ps.length → ¬ (-1 ≤ lab ps (k : Int) ∧ lab ps (k : Int) ≤ (ps.length : Int) - 1) → goodU ps = false) := fun k hk h => goodU_out hk h
  have HLNG : Hid (∀ k : Nat, k < ps.length → 0 ≤ upU ps ps.length (k : Int) → goodU ps = false) := fun k hk h => goodU_long hk h
  generalize goodU ps = ok at *
  have HCELL : Hid (∀ k : Nat, k < ps.length → ∃ g, af = some ⟨g, 0, none⟩ ∧ W.cell? ⟨g, k, none⟩ = some (.int .i64 (lab ps (k : Int)))) := fun k hk => by
    have ho := HU.out
    rcases HU.out.2 with ⟨hv, h0⟩ | ⟨g, cap, cur, hv, -⟩
    · omega
    · cases hv
      exact ⟨g, rfl, by rw [lab_get ps k hk]; exact own_cellG ho rfl k hk⟩
  go_enter Try.func23, Try.ntmps23
  go_wp2
  go_loop [12] (fun i => ∃ k : Nat, k ≤ ps.length ∧ i = .int .i64 k ∧ Hid (∀ i : Nat, i < k → (-1 ≤ lab ps (i : Int) ∧ lab ps (i : Int) ≤ (ps.length : Int) - 1) ∧ upU ps ps.length (i : Int) < 0)) (fun i => ps.length - (intOf i).toNat)
  case atStart => exact ⟨0, Nat.zero_le _, rfl, fun i hi => by omega⟩
  case round =>
    obtain ⟨k, hk, rfl, HI⟩ := hrel
    by_cases hlt : k < ps.length
    · have hlt' : (k : Int) < (ps.length : Int) := by omega
      obtain ⟨g, rfl, hcell⟩ := HCELL.out k hlt
      have HC2 : Hid (∀ j : Nat, j < ps.length → W.cell? ⟨g, j, none⟩ = some (.int .i64 (lab ps (j : Int)))) := fun j hj => by
        obtain ⟨g', hg', h⟩ := HCELL.out j hj
        cases hg'
        exact h
      have hk64 : ps.length ≤ 1048576 := hl
      cases hd : decide (-1 ≤ lab ps (k : Int) ∧ lab ps (k : Int) ≤ (ps.length : Int) - 1) with
      | false =>
        have HF : Hid (false = ok) := (HOUT.out k hlt (of_decide_eq_false hd)).symm
        generalize lab ps (k : Int) = x at *
        clear HI HOUT HLNG HALL HC2 HCELL
        go_wp2_with fail
        refine (l1In_any x (-1) ((ps.length : Int) - 1) W).mono ?_
        rintro e ww ⟨rfl, hww⟩
        obtain rfl : W = ww := hww.symm
        rw [hd]
        go_wp2
        go_ret
        exact ⟨congrArg (fun q => Ending.returned (Value.bool q)) HF.out, rfl⟩
      | true =>
        have hx2 := of_decide_eq_true hd
        have HX2 : Hid (-1 ≤ lab ps (k : Int) ∧ lab ps (k : Int) ≤ (ps.length : Int) - 1) := hx2
        clear hx2
        obtain ⟨x, hx⟩ : ∃ x, x = lab ps (k : Int) := ⟨_, rfl⟩
        rw [← hx] at hcell hd
        clear hx
        go_wp2_with fail
        refine (l1In_any x (-1) ((ps.length : Int) - 1) W).mono ?_
        rintro e ww ⟨rfl, hww⟩
        obtain rfl : W = ww := hww.symm
        rw [hd]
        clear hd hcell
        go_wp2
        go_loop [6, 7] (fun s a => ∃ j : Nat, j ≤ ps.length ∧ s = .int .i64 j ∧ ∃ z : Int, a = .int .i64 z ∧ Hid (z = upU ps j (k : Int) ∧ -1 ≤ z ∧ z ≤ (ps.length : Int) - 1)) (fun s _ => ps.length + 1 - (intOf s).toNat)
        case atStart => exact ⟨0, Nat.zero_le _, rfl, k, rfl, rfl, by omega, by omega⟩
        case round =>
          obtain ⟨j, hj, rfl, z, rfl, HZ⟩ := hrel
          by_cases hz : 0 ≤ z
          · have hzb : decide (0 ≤ z) = true := by simpa using hz
            obtain ⟨m, rfl⟩ : ∃ m : Nat, z = (m : Int) := ⟨z.toNat, by omega⟩
            have hm : m < ps.length := by have := HZ.out.2.2; omega
            have hm' : (m : Int) < (ps.length : Int) := by omega
            have hj1 : IntKind.i64.wrap ((j : Int) + 1) = (j : Int) + 1 := by rw [IntKind.wrap_i64]; omega
            by_cases hjn : j < ps.length
            · have hjb : decide ((ps.length : Int) < (j : Int) + 1) = false := by simp; omega
              have hcm := HC2.out m hm
              have HUP : Hid (upU ps (j + 1) (k : Int) = lab ps (m : Int)) := by
                show _ = _
                rw [upU_succ, ← HZ.out.1, parU_pos ps (by omega)]
              cases hd : decide (-1 ≤ lab ps (m : Int) ∧ lab ps (m : Int) ≤ (ps.length : Int) - 1) with
              | false =>
                have HF : Hid (false = ok) := (HOUT.out m hm (of_decide_eq_false hd)).symm
                generalize lab ps (m : Int) = y at *
                clear HI HOUT HLNG HALL HC2 HCELL HZ HX2 HUP
                go_wp2_with fail
                refine (l1In_any y (-1) ((ps.length : Int) - 1) W).mono ?_
                rintro e ww ⟨rfl, hww⟩
                obtain rfl : W = ww := hww.symm
                rw [hd]
                go_wp2
                go_ret
                exact ⟨congrArg (fun q => Ending.returned (Value.bool q)) HF.out, rfl⟩
              | true =>
                have HF : Hid (lab ps (m : Int) = upU ps (j + 1) (k : Int) ∧ -1 ≤ lab ps (m : Int) ∧ lab ps (m : Int) ≤ (ps.length : Int) - 1) := ⟨HUP.out.symm, of_decide_eq_true hd⟩
                generalize lab ps (m : Int) = y at *
                clear HZ HUP hz HX2
                go_wp2_with fail
                refine (l1In_any y (-1) ((ps.length : Int) - 1) W).mono ?_
                rintro e ww ⟨rfl, hww⟩
                obtain rfl : W = ww := hww.symm
                rw [hd]
                clear hd
                go_wp2
                go_round
                case rel => exact ⟨j + 1, by omega, by go_num, _, rfl, HF.out⟩
                case measure => simp [intOf]; omega
            · have hjb : decide ((ps.length : Int) < (j : Int) + 1) = true := by simp; omega
              have HF : Hid (false = ok) := by
                refine (HLNG.out k hlt ?_).symm
                rw [show ps.length = j by omega, ← HZ.out.1]
                omega
              clear HI HOUT HLNG HALL HC2 HCELL HZ HX2
              go_wp2
              go_ret
              exact ⟨congrArg (fun q => Ending.returned (Value.bool q)) HF.out, rfl⟩
          · have hzb : decide (0 ≤ z) = false := by simpa using hz
            have HF : Hid (∀ i : Nat, i < k + 1 → (-1 ≤ lab ps (i : Int) ∧ lab ps (i : Int) ≤ (ps.length : Int) - 1) ∧ upU ps ps.length (i : Int) < 0) := fun i hi => by
              by_cases e : i = k
              · subst e
                refine ⟨HX2.out, ?_⟩
                have := upU_neg ps (ps.length - j) (x := upU ps j (i : Int)) (by rw [← HZ.out.1]; omega)
                rw [← upU_add, show ps.length - j + j = ps.length by omega] at this
                exact this
              · exact HI.out i (by omega)
            clear HI HOUT HLNG HALL HC2 HCELL HZ HX2 hz
            go_wp2
            go_round
            case rel => exact ⟨k + 1, by omega, by go_num, HF.out⟩
            case measure => simp [intOf]; omega
    · have e : k = ps.length := by omega
      have HF : Hid (decide (1 ≤ (ps.length : Int) ∧ (ps.length : Int) ≤ 12) = ok) := HALL.out fun i hi => HI.out i (by omega)
      clear HI HOUT HLNG HALL HCELL
      subst e
      go_wp2_with fail
      refine (l1In_any _ 1 12 W).mono ?_
      rintro e ww ⟨rfl, hww⟩
      obtain rfl : W = ww := hww.symm
      have hf := HF.out
      generalize decide (1 ≤ (ps.length : Int) ∧ (ps.length : Int) ≤ 12) = bb at *
      clear HF
      subst hf
      go_wp2
      go_ret
      exact ⟨rfl, rfl⟩
end Go.Proofs.Ythlbmkefjjckaad

/-
  'GoodParents' of both.
-/
namespace Go.Proofs.Ythlbmkefjjckaad
open Go.RowKit

theorem specGoodParentsB_any (W : World) (B : Nat) (u : Value) (ps : List Int) (hu : Own W B u ps) (hl : ps.length ≤ 1048576) :
    Calls Try.prog 23 #[u] W fun e W' => e = .returned (.bool (goodU ps)) ∧ Below W.heap.size W W' :=
  (specGoodParents_any W B u ps hu hl).mono fun e W' h => ⟨h.1, by rw [h.2]; exact Below.refl _ _⟩
end Go.Proofs.Ythlbmkefjjckaad

/-
  'l10Two', 'l10Joined' of the model.
-/
namespace Go.Proofs.Ythlbmkefjjckaad
open Go.RowKit
set_option linter.unusedVariables false

def twoOk (ps : List Int) (a b : Int) : Bool := goodU ps && decide (0 ≤ a ∧ a < (ps.length : Int)) && decide (0 ≤ b ∧ b < (ps.length : Int))
theorem twoOk_true {ps : List Int} {a b : Int} (h : twoOk ps a b = true) : goodU ps = true ∧ (0 ≤ a ∧ a < (ps.length : Int)) ∧ (0 ≤ b ∧ b < (ps.length : Int)) := by
  unfold twoOk at h
  rw [Bool.and_eq_true, Bool.and_eq_true] at h
  exact ⟨h.1.1, of_decide_eq_true h.1.2, of_decide_eq_true h.2⟩

set_option maxRecDepth 100000 in
set_option maxHeartbeats 2000000 in
theorem l10Two_any (W : World) (B : Nat) (u : Value) (ps : List Int) (a b : Int) (hu : Own W B u ps) (hl : ps.length ≤ 1048576) :
    Calls Try.prog 55 #[u, .int .i64 a, .int .i64 b] W fun e W' => e = .returned (.bool (twoOk ps a b)) ∧ W' = W := by
  have CG : Hid (Calls Try.prog 23 #[u] W fun e W' => e = .returned (.bool (goodU ps)) ∧ W' = W) := specGoodParents_any W B u ps hu hl
  obtain ⟨au, cu, rfl⟩ := hu.shape
  have hwr : IntKind.i64.wrap ((ps.length : Int) - 1) = (ps.length : Int) - 1 := by rw [IntKind.wrap_i64]; omega
  have HD : Hid (twoOk ps a b = (goodU ps && decide (0 ≤ a ∧ a < (ps.length : Int)) && decide (0 ≤ b ∧ b < (ps.length : Int)))) := rfl
  generalize twoOk ps a b = ok at *
  generalize goodU ps = g at *
  clear hu
  cases g with
  | false =>
    have HF : Hid (false = ok) := HD.out.symm
    clear HD
    go_enter Try.func55, Try.ntmps55
    go_wp2_with fail
    refine CG.out.mono ?_
    rintro e ww ⟨rfl, hww⟩
    obtain rfl : W = ww := hww.symm
    go_wp2
    go_ret
    exact ⟨congrArg (fun q => Ending.returned (Value.bool q)) HF.out, rfl⟩
  | true =>
    cases ha : decide (0 ≤ a ∧ a < (ps.length : Int)) with
    | false =>
      have ha' : decide (0 ≤ a ∧ a ≤ (ps.length : Int) - 1) = false := by simp at ha ⊢; omega
      have HF : Hid (false = ok) := by rw [ha] at HD; exact HD.out.symm
      clear HD ha
      go_enter Try.func55, Try.ntmps55
      go_wp2_with fail
      refine CG.out.mono ?_
      rintro e ww ⟨rfl, hww⟩
      obtain rfl : W = ww := hww.symm
      go_wp2_with fail
      refine (l1In_any a 0 ((ps.length : Int) - 1) W).mono ?_
      rintro e ww ⟨rfl, hww⟩
      obtain rfl : W = ww := hww.symm
      rw [ha']
      go_wp2
      go_ret
      exact ⟨congrArg (fun q => Ending.returned (Value.bool q)) HF.out, rfl⟩
    | true =>
      have ha' : decide (0 ≤ a ∧ a ≤ (ps.length : Int) - 1) = true := by simp at ha ⊢; omega
      have hb' : decide (0 ≤ b ∧ b ≤ (ps.length : Int) - 1) = decide (0 ≤ b ∧ b < (ps.length : Int)) := by
        rw [Bool.eq_iff_iff, decide_eq_true_iff, decide_eq_true_iff]
        omega
      have HF : Hid (decide (0 ≤ b ∧ b < (ps.length : Int)) = ok) := by rw [ha] at HD; exact HD.out.symm
      generalize decide (0 ≤ b ∧ b < (ps.length : Int)) = bb at *
      clear HD ha
      have hf := HF.out
      clear HF
      subst hf
      go_enter Try.func55, Try.ntmps55
      go_wp2_with fail
      refine CG.out.mono ?_
      rintro e ww ⟨rfl, hww⟩
      obtain rfl : W = ww := hww.symm
      go_wp2_with fail
      refine (l1In_any a 0 ((ps.length : Int) - 1) W).mono ?_
      rintro e ww ⟨rfl, hww⟩
      obtain rfl : W = ww := hww.symm
      rw [ha']
      go_wp2_with fail
      refine (l1In_any b 0 ((ps.length : Int) - 1) W).mono ?_
      rintro e ww ⟨rfl, hww⟩
      obtain rfl : W = ww := hww.symm
      rw [hb']
      go_wp2
      go_ret
      exact ⟨rfl, rfl⟩

def joinT (p : List Int) (a : Int) (k : Nat) : List Int := (iota k).filter fun s => joinU p a s
theorem joinT_succ (p : List Int) (a : Int) (k : Nat) : joinT p a (k + 1) = joinT p a k ++ if joinU p a (k : Int) then [(k : Int)] else [] := by
  unfold joinT
  rw [iota_succ, List.filter_append]
  congr 1
  cases h : joinU p a (k : Int) <;> simp [h]
theorem joinT_len (p : List Int) (a : Int) (k : Nat) : (joinT p a k).length ≤ k := Nat.le_trans (List.length_filter_le _ _) (by rw [iota_len]; exact Nat.le_refl _)
theorem insL_endT : ∀ (n : Int) (zs : List Int), (∀ y ∈ zs, y < n) → insL n zs = zs ++ [n]
  | _, [], _ => rfl
  | n, z :: zs, h => by
    have h1 := h z (List.mem_cons_self ..)
    rw [insL, if_pos h1, insL_endT n zs fun y hy => h y (List.mem_cons_of_mem _ hy)]
    rfl
theorem joinT_lt (p : List Int) (a : Int) (k : Nat) : ∀ y ∈ joinT p a k, y < (k : Int) := fun y hy => ((mem_iota k y).1 (List.mem_filter.1 hy).1).2

set_option maxRecDepth 100000 in
set_option maxHeartbeats 4000000 in
theorem l10Joined_any (W : World) (B : Nat) (u : Value) (ps : List Int) (a : Int) (hu : Own W B u ps) (ha : 0 ≤ a ∧ a < ps.length) (hn : ps.length ≤ 12) :
    Calls Try.prog 85 #[u, .int .i64 a] W fun e W' => ∃ v, e = .returned v ∧ Own W' W.heap.size v (joinT ps a ps.length) ∧ Below W.heap.size W W' := by
  obtain ⟨wg, cap, rfl, -⟩ := own_at hu (by omega)
  obtain ⟨p, rfl⟩ : ∃ p : Nat, a = (p : Int) := ⟨a.toNat, by omega⟩
  have hp' : (p : Int) < (ps.length : Int) := ha.2
  have HC : Hid (∀ w (j : Nat), Since W.heap.size W w → j < ps.length → w.cell? ⟨wg, j, none⟩ = some (.int .i64 (lab ps (j : Int)))) := fun w j hs hj => by
    rw [lab_get ps j hj]
    exact own_cellG (hu.below hs.1) rfl j hj
  have HJ : Hid (∀ k : Int, joinU ps (p : Int) k = ((lab ps k == (p : Int)) || (lab ps (p : Int) == k))) := fun k => by
    unfold joinU
    rw [Bool.eq_iff_iff]
    simp
    exact or_comm
  have HS0 : Hid (Since W.heap.size W W) := Since.start W
  have HT : Hid (∀ k : Nat, joinT ps (p : Int) (k + 1) = joinT ps (p : Int) k ++ if joinU ps (p : Int) (k : Int) then [(k : Int)] else []) := joinT_succ ps (p : Int)
  have HTL : Hid (∀ k : Nat, (joinT ps (p : Int) k).length ≤ k ∧ ∀ y ∈ joinT ps (p : Int) k, y < (k : Int)) := fun k => ⟨joinT_len ps _ k, joinT_lt ps _ k⟩
  have HT0 : Hid (joinT ps (p : Int) 0 = []) := rfl
  have hpn : p < ps.length := by omega
  obtain ⟨jt, hjt⟩ : ∃ jt, jt = joinT ps (p : Int) := ⟨_, rfl⟩
  rw [← hjt] at HT HTL HT0 ⊢
  clear hjt hu ha
  go_enter Try.func85, Try.ntmps85
  go_wp2
  go_loopw [5, 10] (fun u t wr => ∃ k : Nat, k ≤ ps.length ∧ t = .int .i64 k ∧ Hid (Own wr W.heap.size u (jt k) ∧ Since W.heap.size W wr)) (fun _ t _ => ps.length - (intOf t).toNat)
  case atStart => exact ⟨0, Nat.zero_le _, rfl, by rw [HT0.out]; exact Own.nil _ _, HS0.out⟩
  case round =>
    obtain ⟨k, hk, rfl, HK⟩ := hrel
    obtain ⟨a2, c2, rfl⟩ := HK.out.1.shape
    by_cases hlt : k < ps.length
    · have hlt' : (k : Int) < (ps.length : Int) := by omega
      have h1 := HC.out wr k HK.out.2 hlt
      have h2 := HC.out wr p HK.out.2 hpn
      have HJ1 := HJ.out (k : Int)
      have HT1 := HT.out k
      have HL1 : Hid ((jt k).length ≤ 12 ∧ ∀ y ∈ jt k, y < (k : Int)) := ⟨by have := (HTL.out k).1; omega, (HTL.out k).2⟩
      generalize lab ps (k : Int) = x at *
      generalize lab ps (p : Int) = y at *
      generalize joinU ps (p : Int) (k : Int) = jn at *
      clear HC HJ HT HTL
      cases e1 : x == (p : Int) with
      | true =>
        have HN : Hid (jt (k + 1) = insL (k : Int) (jt k)) := by
          rw [e1, Bool.true_or] at HJ1
          rw [HJ1, if_pos rfl] at HT1
          show _ = _
          rw [HT1, insL_endT _ _ HL1.out.2]
        clear HJ1 HT1
        go_wp2_with fail
        refine (l1Put_any wr W.heap.size _ (jt k) (k : Int) HK.out.1 HK.out.2.2 (by have := HL1.out.1; omega)).mono ?_
        rintro e w1 ⟨uw1, rfl, how1, hbw1⟩
        obtain ⟨xw1, yw1, rfl⟩ := how1.shape
        have HF : Hid (Own w1 W.heap.size (.slice xw1 (insL (k : Int) (jt k)).length yw1) (jt (k + 1)) ∧ Since W.heap.size W w1) := ⟨by rw [HN.out]; exact how1, HK.out.2.step hbw1⟩
        clear how1 hbw1 HK
        go_wp2
        go_roundw
        case rel => exact ⟨k + 1, by omega, by go_num, HF.out⟩
        case measure => simp [intOf]; omega
      | false =>
        cases e2 : y == (k : Int) with
        | true =>
          have HN : Hid (jt (k + 1) = insL (k : Int) (jt k)) := by
            rw [e1, e2] at HJ1
            rw [HJ1] at HT1
            show _ = _
            rw [HT1, insL_endT _ _ HL1.out.2]
            rfl
          clear HJ1 HT1
          go_wp2_with fail
          refine (l1Put_any wr W.heap.size _ (jt k) (k : Int) HK.out.1 HK.out.2.2 (by have := HL1.out.1; omega)).mono ?_
          rintro e w1 ⟨uw1, rfl, how1, hbw1⟩
          obtain ⟨xw1, yw1, rfl⟩ := how1.shape
          have HF : Hid (Own w1 W.heap.size (.slice xw1 (insL (k : Int) (jt k)).length yw1) (jt (k + 1)) ∧ Since W.heap.size W w1) := ⟨by rw [HN.out]; exact how1, HK.out.2.step hbw1⟩
          clear how1 hbw1 HK
          go_wp2
          go_roundw
          case rel => exact ⟨k + 1, by omega, by go_num, HF.out⟩
          case measure => simp [intOf]; omega
        | false =>
          have HF : Hid (Own wr W.heap.size (.slice a2 (jt k).length c2) (jt (k + 1)) ∧ Since W.heap.size W wr) := by
            rw [e1, e2] at HJ1
            rw [HJ1] at HT1
            have : jt (k + 1) = jt k := by rw [HT1]; simp
            show _ ∧ _
            rw [this]
            exact HK.out
          clear HJ1 HT1 HK
          go_wp2
          go_roundw
          case rel => exact ⟨k + 1, by omega, by go_num, HF.out⟩
          case measure => simp [intOf]; omega
    · have e : k = ps.length := by omega
      have HE : Hid (Own wr W.heap.size (.slice a2 (jt k).length c2) (jt ps.length) ∧ Below W.heap.size W wr) := by
        have := HK.out
        rw [← e]
        exact ⟨this.1, this.2.1⟩
      clear HK HC HJ HT HTL
      subst e
      go_wp2
      go_ret
      exact ⟨_, rfl, HE.out.1, HE.out.2⟩
end Go.Proofs.Ythlbmkefjjckaad
