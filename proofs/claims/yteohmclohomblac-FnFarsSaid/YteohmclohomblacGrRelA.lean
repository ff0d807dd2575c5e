/-
  'RelaxAll' of the program and of the model.
-/
import Derived.Test.YteohmclohomblacGrFars
namespace Go.Proofs.Yteohmclohomblac
open Go.RowKit
set_option linter.unusedVariables false

def inFar (far : List Int) : Bool := far.all fun x => decide (0 ≤ x ∧ x ≤ 100000)
def relOk (n : Int) (l : List EdD) (far : List Int) : Bool := goodEd n l && decide ((far.length : Int) = n) && inFar far
def relOut (n : Int) (l : List EdD) (far : List Int) : List Int := if relOk n l far then relD l far else []
theorem relOk_true {n : Int} {l : List EdD} {far : List Int} (h : relOk n l far = true) : goodEd n l = true ∧ (far.length : Int) = n ∧ ∀ i : Int, 0 ≤ i → i < far.length → 0 ≤ lab far i ∧ lab far i ≤ farC := by
  unfold relOk at h
  rw [Bool.and_eq_true, Bool.and_eq_true] at h
  refine ⟨h.1.1, of_decide_eq_true h.1.2, fun i h0 hi => ?_⟩
  have e : i = ((i.toNat : Nat) : Int) := by omega
  have hlt : i.toNat < far.length := by omega
  have := of_decide_eq_true (List.all_eq_true.1 h.2 far[i.toNat] (List.getElem_mem hlt))
  rw [e, lab_get far _ hlt]
  exact this
theorem relOut_len (n : Int) (l : List EdD) (far : List Int) : (relOut n l far).length ≤ 4194304 := by
  unfold relOut
  split
  · next h =>
    have h1 := relOk_true h
    have := (goodEd_true h1.1).1
    rw [relD_len]
    omega
  · simp
theorem inFar_take (far : List Int) (k : Nat) (h : k < far.length) : inFar (far.take (k + 1)) = (inFar (far.take k) && decide (0 ≤ far[k] ∧ far[k] ≤ 100000)) := by
  unfold inFar
  rw [List.take_succ_eq_append_getElem h, List.all_append]
  simp
theorem inFar_no (far : List Int) (k : Nat) (h : k < far.length) (hx : ¬ (0 ≤ far[k] ∧ far[k] ≤ 100000)) : inFar far = false := by
  unfold inFar
  rw [Bool.eq_false_iff]
  intro e
  exact hx (of_decide_eq_true (List.all_eq_true.1 e far[k] (List.getElem_mem h)))

set_option maxRecDepth 100000 in
set_option maxHeartbeats 4000000 in
theorem implRelaxAll_any (W : World) (B : Nat) (v u : Value) (n : Int) (l : List EdD) (far : List Int) (h : ReadsEd W v l) (hu : Own W B u far) (hl : l.length ≤ 2097152) (hfl : far.length ≤ 1048576) :
    Calls Try.prog 53 #[.int .i64 n, v, u] W (NearPost W (relOut n l far) (relOk n l far)) := by
  have CG : Hid (Calls Try.prog 36 #[.int .i64 n, v] W fun e W' => e = .returned (.bool (goodEd n l)) ∧ Below W.heap.size W W') := implGoodEd_any W v n l h hl
  have HRD : Hid (∀ w', Since W.heap.size W w' → ReadsEd w' v l) := fun w' hs => h.below hs.1
  have HUD : Hid (∀ w', Since W.heap.size W w' → Own w' B u far) := fun w' hs => hu.below hs.1
  have HS0 : Hid (Since W.heap.size W W) := Since.start W
  obtain ⟨a1, c1, rfl⟩ := h.shape
  obtain ⟨af, cf, rfl⟩ := hu.shape
  have HD : Hid (relOk n l far = (goodEd n l && decide ((far.length : Int) = n) && inFar far) ∧ relOut n l far = if relOk n l far then relD l far else []) := ⟨rfl, rfl⟩
  have HT : Hid (relOk n l far = true → goodEd n l = true ∧ (far.length : Int) = n ∧ ∀ i : Int, 0 ≤ i → i < far.length → 0 ≤ lab far i ∧ lab far i ≤ farC) := relOk_true
  generalize relOk n l far = ok at *
  generalize relOut n l far = out at *
  clear h hu
  cases hg : goodEd n l with
  | false =>
    have HF : Hid (ok = false ∧ out = []) := by
      have h1 : ok = false := HD.out.1.trans (by rw [hg]; rfl)
      exact ⟨h1, HD.out.2.trans (by rw [h1]; rfl)⟩
    rw [hg] at CG
    clear hg HD HT
    go_enter Try.func53, Try.ntmps53
    go_wp2_with fail
    refine CG.out.mono ?_
    rintro e w1 ⟨rfl, hb1⟩
    have HB1 : Hid (Below W.heap.size W w1) := hb1
    clear hb1
    go_wp2
    refine bodyPost_ret (results_tmp2 rfl _ _ _) rfl ?_
    exact NearPost.zero HF.out.1 HF.out.2 HB1.out
  | true =>
    have HGT : Hid ((1 ≤ n ∧ n ≤ 12) ∧ l.length ≤ 40 ∧ FitEd n l ∧ RiseEd l) := goodEd_true hg
    rw [hg] at CG
    by_cases hs : (far.length : Int) = n
    · subst hs
      have HD2 : Hid (ok = inFar far) := HD.out.1.trans (by rw [hg]; simp)
      have hn12 : far.length ≤ 12 := by have := HGT.out.1; omega
      have CN : Hid (ok = true → ∀ w', Since W.heap.size W w' → Calls Try.prog 109 #[.slice a1 l.length c1, .slice af far.length cf] w' fun e w2 => ∃ u, e = .returned u ∧ Own w2 w'.heap.size u (relD l far) ∧ Below w'.heap.size w' w2) := fun hok w' hs2 => by
        obtain ⟨g1, g2, g3, g4⟩ := HGT.out
        exact relaxOnce_any w' _ _ l far B (HRD.out w' hs2) (HUD.out w' hs2) g3 (by omega) g2 (HT.out hok).2.2
      have HOUT : Hid (out = if ok then relD l far else []) := HD.out.2
      clear hg HD HT HGT
      go_enter Try.func53, Try.ntmps53
      go_wp2_with fail
      refine CG.out.mono ?_
      rintro e w1 ⟨rfl, hb1⟩
      have HS1 : Hid (Since W.heap.size W w1) := HS0.out.step hb1
      clear hb1
      go_wp2
      go_loop [22] (fun i => ∃ k : Nat, k ≤ far.length ∧ i = .int .i64 k ∧ Hid (inFar (far.take k) = true)) (fun i => far.length - (intOf i).toNat)
      case atStart => exact ⟨0, Nat.zero_le _, rfl, rfl⟩
      case round =>
        obtain ⟨k, hk, rfl, HI⟩ := hrel
        by_cases hlt : k < far.length
        · have hlt' : (k : Int) < (far.length : Int) := by omega
          obtain ⟨g, rfl, hcell⟩ : ∃ g, af = some ⟨g, 0, none⟩ ∧ w1.cell? ⟨g, k, none⟩ = some (.int .i64 far[k]) := by
            have ho := HUD.out w1 HS1.out
            rcases (HUD.out w1 HS1.out).2 with ⟨hv, h0⟩ | ⟨g, cap, cur, hv, -⟩
            · omega
            · cases hv
              exact ⟨g, rfl, own_cellG ho rfl k hlt⟩
          have HNO : Hid (¬ (0 ≤ far[k] ∧ far[k] ≤ 100000) → inFar far = false) := inFar_no far k hlt
          have HTK : Hid (inFar (far.take (k + 1)) = (inFar (far.take k) && decide (0 ≤ far[k] ∧ far[k] ≤ 100000))) := inFar_take far k hlt
          generalize far[k] = x at *
          by_cases h1 : x < 0
          · have HF : Hid (ok = false ∧ out = []) := by
              have h1 : ok = false := HD2.out.trans (HNO.out (by omega))
              exact ⟨h1, HOUT.out.trans (by rw [h1]; rfl)⟩
            clear HI HTK HNO CN HD2 HOUT
            have h1' : decide (x < 0) = true := by simpa using h1
            go_wp2
            refine bodyPost_ret (results_tmp2 rfl _ _ _) rfl ?_
            exact NearPost.zero HF.out.1 HF.out.2 HS1.out.1
          · by_cases h2 : 100000 < x
            · have HF : Hid (ok = false ∧ out = []) := by
                have h1 : ok = false := HD2.out.trans (HNO.out (by omega))
                exact ⟨h1, HOUT.out.trans (by rw [h1]; rfl)⟩
              clear HI HTK HNO CN HD2 HOUT
              have h1' : decide (x < 0) = false := by simpa using h1
              have h2' : decide (100000 < x) = true := by simpa using h2
              go_wp2
              refine bodyPost_ret (results_tmp2 rfl _ _ _) rfl ?_
              exact NearPost.zero HF.out.1 HF.out.2 HS1.out.1
            · have HF : Hid (inFar (far.take (k + 1)) = true) := by
                show _ = _
                rw [HTK.out, HI.out, Bool.true_and]
                exact decide_eq_true ⟨by omega, by omega⟩
              have h1' : decide (x < 0) = false := by simpa using h1
              have h2' : decide (100000 < x) = false := by simpa using h2
              clear HI HTK HNO CN HD2 HOUT
              go_wp2
              go_round
              case rel => exact ⟨k + 1, by omega, by go_num, HF.out⟩
              case measure => simp [intOf]; omega
        · have e : k = far.length := by omega
          have HOK : Hid (ok = true ∧ out = relD l far) := by
            have h0 := HI.out
            rw [e, List.take_length] at h0
            have h1 : ok = true := HD2.out.trans h0
            exact ⟨h1, HOUT.out.trans (by rw [h1]; rfl)⟩
          have CN1 := CN.out HOK.out.1 w1 HS1.out
          clear HI CN HD2 HOUT HRD HUD
          subst e
          go_wp2_with fail
          refine CN1.mono ?_
          rintro e w2 ⟨u2, rfl, ho2, hb2⟩
          have HO2 : Hid (Own w2 W.heap.size u2 (relD l far)) := ho2.mono HS1.out.2
          have HS2 : Hid (Since W.heap.size W w2) := HS1.out.step hb2
          clear ho2 hb2 CN1
          go_wp2
          refine bodyPost_ret (results_tmp2 rfl _ _ _) rfl ?_
          exact NearPost.mk HOK.out.1 HOK.out.2 HO2.out HS2.out.1
    · have HF : Hid (ok = false ∧ out = []) := by
        have h1 : ok = false := HD.out.1.trans (by rw [hg, decide_eq_false hs]; rfl)
        exact ⟨h1, HD.out.2.trans (by rw [h1]; rfl)⟩
      clear hg HD HT
      have hs1 : ((far.length : Int) == n) = false := by simpa using hs
      go_enter Try.func53, Try.ntmps53
      go_wp2_with fail
      refine CG.out.mono ?_
      rintro e w1 ⟨rfl, hb1⟩
      have HB1 : Hid (Below W.heap.size W w1) := hb1
      clear hb1
      go_wp2
      refine bodyPost_ret (results_tmp2 rfl _ _ _) rfl ?_
      exact NearPost.zero HF.out.1 HF.out.2 HB1.out

set_option maxRecDepth 100000 in
set_option maxHeartbeats 2000000 in
theorem l1AllG_any (W : World) (B : Nat) (u : Value) (far : List Int) (hu : Own W B u far) (hl : far.length ≤ 1048576) :
    Calls Try.prog 98 #[u, .int .i64 0, .int .i64 100000] W fun e W' => e = .returned (.bool (inFar far)) ∧ W' = W := by
  have HU : Hid (Own W B u far) := hu
  obtain ⟨af, cf, rfl⟩ := hu.shape
  clear hu
  go_enter Try.func98, Try.ntmps98
  go_wp2
  go_loop [11] (fun i => ∃ k : Nat, k ≤ far.length ∧ i = .int .i64 k ∧ Hid (inFar (far.take k) = true)) (fun i => far.length - (intOf i).toNat)
  case atStart => exact ⟨0, Nat.zero_le _, rfl, rfl⟩
  case round =>
    obtain ⟨k, hk, rfl, HI⟩ := hrel
    by_cases hlt : k < far.length
    · have hlt' : (k : Int) < (far.length : Int) := by omega
      obtain ⟨g, rfl, hcell⟩ : ∃ g, af = some ⟨g, 0, none⟩ ∧ W.cell? ⟨g, k, none⟩ = some (.int .i64 far[k]) := by
        have ho := HU.out
        rcases HU.out.2 with ⟨hv, h0⟩ | ⟨g, cap, cur, hv, -⟩
        · omega
        · cases hv
          exact ⟨g, rfl, own_cellG ho rfl k hlt⟩
      have HNO : Hid (¬ (0 ≤ far[k] ∧ far[k] ≤ 100000) → inFar far = false) := inFar_no far k hlt
      have HTK : Hid (inFar (far.take (k + 1)) = (inFar (far.take k) && decide (0 ≤ far[k] ∧ far[k] ≤ 100000))) := inFar_take far k hlt
      generalize far[k] = x at *
      cases hd : decide (0 ≤ x ∧ x ≤ 100000) with
      | false =>
        have HF : Hid (false = inFar far) := (HNO.out (of_decide_eq_false hd)).symm
        clear HI HTK HNO
        go_wp2_with fail
        refine (l1In_any x 0 100000 W).mono ?_
        rintro e ww ⟨rfl, hww⟩
        obtain rfl := hww
        rw [hd]
        go_wp2
        go_ret
        exact ⟨congrArg (fun q => Ending.returned (Value.bool q)) HF.out, rfl⟩
      | true =>
        have HF : Hid (inFar (far.take (k + 1)) = true) := by
          show _ = _
          rw [HTK.out, HI.out, Bool.true_and, hd]
        clear HI HTK HNO
        go_wp2_with fail
        refine (l1In_any x 0 100000 W).mono ?_
        rintro e ww ⟨rfl, hww⟩
        obtain rfl := hww
        rw [hd]
        go_wp2
        go_round
        case rel => exact ⟨k + 1, by omega, by go_num, HF.out⟩
        case measure => simp [intOf]; omega
    · have e : k = far.length := by omega
      have HF : Hid (true = inFar far) := by
        have h0 := HI.out
        rw [e, List.take_length] at h0
        exact h0.symm
      clear HI
      subst e
      go_wp2
      go_ret
      exact ⟨congrArg (fun q => Ending.returned (Value.bool q)) HF.out, rfl⟩
end Go.Proofs.Yteohmclohomblac
