/-
  'TreeCost' of the program and of the model.
-/
import Derived.Test.YthlbmkefjjckaagTrGood
import Derived.Test.YthlbmkefjjckaagTrGoodS
import Derived.Test.YthlbmkefjjckaagGrCostO
import Derived.Test.YthlbmkefjjckaagGrEdge
namespace Go.Proofs.Ythlbmkefjjckaag
open Go.RowKit
set_option linter.unusedVariables false

def tcOk (n : Int) (l : List EdD) (ps : List Int) : Bool := goodEd n l && decide ((ps.length : Int) = n) && goodU ps && okX l (stepsU ps ps.length)
def tcOut (n : Int) (l : List EdD) (ps : List Int) : Int := if tcOk n l ps then sumX l (stepsU ps ps.length) else 0
theorem stepsU_len (p : List Int) (k : Nat) : (stepsU p k).length ≤ k := by
  unfold stepsU
  rw [List.length_map]
  exact Nat.le_trans (List.length_filter_le _ _) (by rw [iota_len]; exact Nat.le_refl _)

set_option maxRecDepth 100000 in
set_option maxHeartbeats 8000000 in
theorem implTreeCost_any (W : World) (B : Nat) (v u : Value) (n : Int) (l : List EdD) (ps : List Int) (h : ReadsEd W v l) (hu : Own W B u ps) (hl : l.length ≤ 2097152) (hwl : ps.length ≤ 1048576) :
    Calls Try.prog 24 #[.int .i64 n, v, u] W (CostPost W (tcOut n l ps) (tcOk n l ps)) := by
  have CG : Hid (Calls Try.prog 49 #[.int .i64 n, v] W fun e w2 => e = .returned (.bool (goodEd n l)) ∧ Below W.heap.size W w2) := implGoodEd_any W v n l h hl
  have HRD : Hid (∀ w', Since W.heap.size W w' → ReadsEd w' v l) := fun w' hs => h.below hs.1
  have HUD : Hid (∀ w', Since W.heap.size W w' → Own w' B u ps) := fun w' hs => hu.below hs.1
  have HS0 : Hid (Since W.heap.size W W) := Since.start W
  obtain ⟨a1, c1, rfl⟩ := h.shape
  obtain ⟨aw, cw, rfl⟩ := hu.shape
  have CP : Hid (∀ w', Since W.heap.size W w' → Calls Try.prog 11 #[.slice aw ps.length cw] w' fun e w2 => e = .returned (.bool (goodU ps)) ∧ Below w'.heap.size w' w2) := fun w' hs => implGoodParents_any w' B _ ps (HUD.out w' hs) hwl
  have HD : Hid (tcOk n l ps = (goodEd n l && decide ((ps.length : Int) = n) && goodU ps && okX l (stepsU ps ps.length)) ∧ tcOut n l ps = if tcOk n l ps then sumX l (stepsU ps ps.length) else 0) := ⟨rfl, rfl⟩
  generalize tcOk n l ps = ok at *
  generalize tcOut n l ps = out at *
  clear h hu
  cases hg : goodEd n l with
  | false =>
    have HF : Hid (ok = false ∧ out = 0) := by
      have h1 : ok = false := HD.out.1.trans (by rw [hg]; rfl)
      exact ⟨h1, HD.out.2.trans (by rw [h1]; rfl)⟩
    rw [hg] at CG
    clear hg HD HUD HRD CP
    go_enter Try.func24, Try.ntmps24
    go_wp2_with fail
    refine CG.out.mono ?_
    rintro e w1 ⟨rfl, hb1⟩
    have HS1 : Hid (Since W.heap.size W w1) := HS0.out.step hb1
    clear hb1
    go_wp2
    refine bodyPost_ret (results_tmp2 rfl _ _ _) rfl ?_
    exact ⟨by rw [HF.out.1, HF.out.2]; rfl, HS1.out.1⟩
  | true =>
    have HGT : Hid ((1 ≤ n ∧ n ≤ 12) ∧ l.length ≤ 40 ∧ FitEd n l ∧ RiseEd l) := goodEd_true hg
    rw [hg] at CG
    by_cases hln : (ps.length : Int) = n
    · have q1 : ((ps.length : Int) != n) = false := by simpa using hln
      cases hgu : goodU ps with
      | false =>
        have HF : Hid (ok = false ∧ out = 0) := by
          have h1 : ok = false := HD.out.1.trans (by rw [hg, hgu, Bool.and_false]; rfl)
          exact ⟨h1, HD.out.2.trans (by rw [h1]; rfl)⟩
        rw [hgu] at CP
        clear hg HD HUD HRD HGT hln hgu
        go_enter Try.func24, Try.ntmps24
        go_wp2_with fail
        refine CG.out.mono ?_
        rintro e w1 ⟨rfl, hb1⟩
        have HS1 : Hid (Since W.heap.size W w1) := HS0.out.step hb1
        clear hb1
        go_wp2_with fail
        refine (CP.out w1 HS1.out).mono ?_
        rintro e w2 ⟨rfl, hb2⟩
        have HS2 : Hid (Since W.heap.size W w2) := HS1.out.step hb2
        clear hb2
        go_wp2
        refine bodyPost_ret (results_tmp2 rfl _ _ _) rfl ?_
        exact ⟨by rw [HF.out.1, HF.out.2]; rfl, HS2.out.1⟩
      | true =>
        have HOUT : Hid (ok = okX l (stepsU ps ps.length) ∧ out = if okX l (stepsU ps ps.length) then sumX l (stepsU ps ps.length) else 0) := by
          have e : ok = okX l (stepsU ps ps.length) := HD.out.1.trans (by rw [hg, hgu, decide_eq_true hln]; rfl)
          exact ⟨e, HD.out.2.trans (by rw [e])⟩
        have hw1 : 1 ≤ ps.length := by have := HGT.out.1; omega
        have hw2 : ps.length ≤ 12 := by have := HGT.out.1; omega
        obtain ⟨wg, rfl⟩ : ∃ wg, aw = some ⟨wg, 0, none⟩ := by
          rcases (HUD.out W (Since.start W)).2 with ⟨hv, h0⟩ | ⟨g, cap, cur, hv, -⟩
          · omega
          · cases hv; exact ⟨g, rfl⟩
        have CO : Hid (∀ (w1 : World), Since W.heap.size W w1 → Calls Try.prog 50 #[.slice a1 l.length c1, .func (.func 60) #[] #[.pointer (some ⟨w1.heap.size, 0, none⟩)]] (w1.alloc (.cells #[.slice (some ⟨wg, 0, none⟩) ps.length cw] 22)) (CostPost (w1.alloc (.cells #[.slice (some ⟨wg, 0, none⟩) ps.length cw] 22)) out ok)) := fun w1 hs => by
          have hb : Since W.heap.size W (w1.alloc (.cells #[.slice (some ⟨wg, 0, none⟩) ps.length cw] 22)) := hs.step ((Below.refl _ w1).alloc (Nat.le_refl _) _)
          rw [HOUT.out.1, HOUT.out.2]
          exact costOver_any _ _ n l _ _ (fun b => b < W.heap.size ∨ b = w1.heap.size) _ (HRD.out _ hb) HGT.out.2.2.1 hl (enters_of Try.func60 (by kernel_rfl) rfl)
            (stepsUpIt_any _ w1.heap.size ps W _ B wg cw hw1 (by omega) (.inr rfl) (Boxed.new w1 _ _).cell (HUD.out W (Since.start W)) hb.1 (fun b hb => .inl hb)) (fun b hb => by have := hs.2; rcases hb with hb | hb <;> simp <;> omega) (by have := stepsU_len ps ps.length; omega)
        rw [hgu] at CP
        clear hg HD HUD HRD HGT hln hgu HOUT
        go_enter Try.func24, Try.ntmps24
        go_wp2_with fail
        refine CG.out.mono ?_
        rintro e w1 ⟨rfl, hb1⟩
        have HS1 : Hid (Since W.heap.size W w1) := HS0.out.step hb1
        clear hb1
        go_wp2_with fail
        refine (CP.out w1 HS1.out).mono ?_
        rintro e w2 ⟨rfl, hb2⟩
        have HS2 : Hid (Since W.heap.size W w2) := HS1.out.step hb2
        clear hb2
        go_wp2_with fail
        refine (stepsUp_any w2 (.slice (some ⟨wg, 0, none⟩) ps.length cw) ⟨_, _, _, rfl⟩).mono ?_
        rintro e w3 ⟨rfl, hw3⟩
        rw [hw3]
        clear hw3
        go_wp2_with fail
        refine (CO.out w2 HS2.out).mono ?_
        rintro e w4 ⟨rfl, hb4⟩
        have HS4 : Hid (Since W.heap.size W w4) := (HS2.out.step ((Below.refl _ w2).alloc (Nat.le_refl _) _)).step hb4
        clear hb4
        go_wp2
        refine bodyPost_ret (results_tmp2 rfl _ _ _) rfl ?_
        exact ⟨rfl, HS4.out.1⟩
    · have q1 : ((ps.length : Int) != n) = true := by simpa using hln
      have HF : Hid (ok = false ∧ out = 0) := by
        have h1 : ok = false := HD.out.1.trans (by rw [hg, decide_eq_false hln]; rfl)
        exact ⟨h1, HD.out.2.trans (by rw [h1]; rfl)⟩
      clear hg HD HUD HRD HGT hln CP
      go_enter Try.func24, Try.ntmps24
      go_wp2_with fail
      refine CG.out.mono ?_
      rintro e w1 ⟨rfl, hb1⟩
      have HS1 : Hid (Since W.heap.size W w1) := HS0.out.step hb1
      clear hb1
      go_wp2
      refine bodyPost_ret (results_tmp2 rfl _ _ _) rfl ?_
      exact ⟨by rw [HF.out.1, HF.out.2]; rfl, HS1.out.1⟩

set_option maxRecDepth 100000 in
set_option maxHeartbeats 8000000 in
theorem specTreeCost_any (W : World) (B : Nat) (v u : Value) (n : Int) (l : List EdD) (ps : List Int) (h : ReadsEd W v l) (hu : Own W B u ps) (hl : l.length ≤ 2097152) (hwl : ps.length ≤ 1048576) :
    Calls Try.prog 22 #[.int .i64 n, v, u] W (CostPost W (tcOut n l ps) (tcOk n l ps)) := by
  have CG : Hid (Calls Try.prog 46 #[.int .i64 n, v] W fun e w2 => e = .returned (.bool (goodEd n l)) ∧ Below W.heap.size W w2) := specGoodEd_any W v n l h hl
  have HRD : Hid (∀ w', Since W.heap.size W w' → ReadsEd w' v l) := fun w' hs => h.below hs.1
  have HUD : Hid (∀ w', Since W.heap.size W w' → Own w' B u ps) := fun w' hs => hu.below hs.1
  have HS0 : Hid (Since W.heap.size W W) := Since.start W
  obtain ⟨a1, c1, rfl⟩ := h.shape
  obtain ⟨aw, cw, rfl⟩ := hu.shape
  have CP : Hid (∀ w', Since W.heap.size W w' → Calls Try.prog 9 #[.slice aw ps.length cw] w' fun e w2 => e = .returned (.bool (goodU ps)) ∧ w2 = w') := fun w' hs => specGoodParents_any w' B _ ps (HUD.out w' hs) hwl
  have HD : Hid (tcOk n l ps = (goodEd n l && decide ((ps.length : Int) = n) && goodU ps && okX l (stepsU ps ps.length)) ∧ tcOut n l ps = if tcOk n l ps then sumX l (stepsU ps ps.length) else 0) := ⟨rfl, rfl⟩
  generalize tcOk n l ps = ok at *
  generalize tcOut n l ps = out at *
  clear h hu
  cases hg : goodEd n l with
  | false =>
    have HF : Hid (ok = false ∧ out = 0) := by
      have h1 : ok = false := HD.out.1.trans (by rw [hg]; rfl)
      exact ⟨h1, HD.out.2.trans (by rw [h1]; rfl)⟩
    rw [hg] at CG
    clear hg HD HUD HRD CP
    go_enter Try.func22, Try.ntmps22
    go_wp2_with fail
    refine CG.out.mono ?_
    rintro e w1 ⟨rfl, hb1⟩
    have HS1 : Hid (Since W.heap.size W w1) := HS0.out.step hb1
    clear hb1
    go_wp2
    refine bodyPost_ret (results_tmp2 rfl _ _ _) rfl ?_
    exact ⟨by rw [HF.out.1, HF.out.2]; rfl, HS1.out.1⟩
  | true =>
    have HGT : Hid ((1 ≤ n ∧ n ≤ 12) ∧ l.length ≤ 40 ∧ FitEd n l ∧ RiseEd l) := goodEd_true hg
    rw [hg] at CG
    cases hgu : goodU ps with
    | false =>
      have HF : Hid (ok = false ∧ out = 0) := by
        have h1 : ok = false := HD.out.1.trans (by rw [hg, hgu, Bool.and_false]; rfl)
        exact ⟨h1, HD.out.2.trans (by rw [h1]; rfl)⟩
      rw [hgu] at CP
      clear hg HD HUD HRD HGT hgu
      go_enter Try.func22, Try.ntmps22
      go_wp2_with fail
      refine CG.out.mono ?_
      rintro e w1 ⟨rfl, hb1⟩
      have HS1 : Hid (Since W.heap.size W w1) := HS0.out.step hb1
      clear hb1
      go_wp2_with fail
      refine (CP.out w1 HS1.out).mono ?_
      rintro e ww ⟨rfl, hww⟩
      obtain rfl : w1 = ww := hww.symm
      go_wp2
      refine bodyPost_ret (results_tmp2 rfl _ _ _) rfl ?_
      exact ⟨by rw [HF.out.1, HF.out.2]; rfl, HS1.out.1⟩
    | true =>
      rw [hgu] at CP
      by_cases hln : (ps.length : Int) = n
      · have q1 : ((ps.length : Int) != n) = false := by simpa using hln
        have HOUT : Hid (ok = okX l (stepsU ps ps.length) ∧ out = if okX l (stepsU ps ps.length) then sumX l (stepsU ps ps.length) else 0) := by
          have e : ok = okX l (stepsU ps ps.length) := HD.out.1.trans (by rw [hg, hgu, decide_eq_true hln]; rfl)
          exact ⟨e, HD.out.2.trans (by rw [e])⟩
        have hw1 : 1 ≤ ps.length := by have := HGT.out.1; omega
        have hw2 : ps.length ≤ 12 := by have := HGT.out.1; omega
        have HFIT : Hid (∀ k : Nat, k < ps.length → -1 ≤ lab ps (k : Int)) := fun k hk => (((goodU_iff ps).1 hgu).2.1 k (by omega) (by omega)).1
        have CE : Hid (∀ (w' : World) (x y : Int), Since W.heap.size W w' → Calls Try.prog 47 #[.slice a1 l.length c1, .int .i64 x, .int .i64 y] w' fun e w2 => e = .returned (.int .i64 (costB l x y)) ∧ Below w'.heap.size w' w2) := fun w' x y hs => by
          have := l9Edge_any w' _ l x y (HRD.out w' hs) hl
          rw [edS_eq HGT.out.2.2.1 HGT.out.2.2.2] at this
          exact this
        have HLOW : Hid ((∀ x y, 0 ≤ costB l x y ∧ costB l x y ≤ 100) ∧ ∀ p : List (Int × Int), 0 ≤ sumX l p ∧ sumX l p ≤ 100 * p.length) := ⟨fun x y => costB_low HGT.out.2.2.1 x y, sumX_low HGT.out.2.2.1⟩
        have HSL : Hid (∀ k, (stepsU ps k).length ≤ k) := stepsU_len ps
        have HNO : Hid (∀ k : Nat, k < ps.length → lab ps (k : Int) ≠ -1 → costB l (k : Int) (lab ps (k : Int)) = 0 → okX l (stepsU ps ps.length) = false) := fun k hk h1 h2 => by
          refine okX_no (p := stepsU ps k) (x := ((k : Int), lab ps (k : Int))) l ?_ h2
          have := stepsU_pre ps (k := k + 1) (m := ps.length) (by omega)
          rw [stepsU_succ, if_neg h1] at this
          exact this
        have HST : Hid (∀ k : Nat, stepsU ps (k + 1) = stepsU ps k ++ if lab ps (k : Int) = -1 then [] else [((k : Int), lab ps (k : Int))]) := stepsU_succ ps
        have HCELL : Hid (∃ wg, aw = some ⟨wg, 0, none⟩ ∧ ∀ w j, Since W.heap.size W w → j < ps.length → w.cell? ⟨wg, j, none⟩ = some (.int .i64 (lab ps (j : Int)))) := by
          rcases (HUD.out W (Since.start W)).2 with ⟨hv, h0⟩ | ⟨g, cap, cur, hv, -⟩
          · omega
          · cases hv
            refine ⟨g, rfl, fun w j hs hj => ?_⟩
            rw [lab_get ps j hj]
            exact own_cellG (HUD.out w hs) rfl j hj
        obtain ⟨wg, rfl, hwc⟩ := HCELL.out
        have HWC : Hid (∀ w j, Since W.heap.size W w → j < ps.length → w.cell? ⟨wg, j, none⟩ = some (.int .i64 (lab ps (j : Int)))) := hwc
        have H0S : Hid (stepsU ps 0 = []) := rfl
        clear hg HD HUD HRD HGT hgu HCELL hwc hln
        go_enter Try.func22, Try.ntmps22
        go_wp2_with fail
        refine CG.out.mono ?_
        rintro e w1 ⟨rfl, hb1⟩
        have HS1 : Hid (Since W.heap.size W w1) := HS0.out.step hb1
        clear hb1
        go_wp2_with fail
        refine (CP.out w1 HS1.out).mono ?_
        rintro e ww ⟨rfl, hww⟩
        obtain rfl : w1 = ww := hww.symm
        go_wp2
        go_loopw [8, 29] (fun m i wr => ∃ k : Nat, k ≤ ps.length ∧ i = .int .i64 (k : Int) ∧ ∃ z : Int, m = .int .i64 z ∧ Hid (z = sumX l (stepsU ps k) ∧ okX l (stepsU ps k) = true ∧ Since W.heap.size W wr)) (fun _ i _ => ps.length - (intOf i).toNat)
        case atStart => exact ⟨0, Nat.zero_le _, rfl, 0, rfl, rfl, rfl, HS1.out⟩
        case round =>
          obtain ⟨k, hk, rfl, z, rfl, HK⟩ := hrel
          by_cases hlt : k < ps.length
          · have hlt' : (k : Int) < (ps.length : Int) := by omega
            have hcell := HWC.out wr k HK.out.2.2 hlt
            have hfit := HFIT.out k hlt
            have HS2 : Hid (stepsU ps (k + 1) = stepsU ps k ++ if lab ps (k : Int) = -1 then [] else [((k : Int), lab ps (k : Int))]) := HST.out k
            have HN1 : Hid (lab ps (k : Int) ≠ -1 → costB l (k : Int) (lab ps (k : Int)) = 0 → okX l (stepsU ps ps.length) = false) := HNO.out k hlt
            have hsum := HLOW.out.2 (stepsU ps k)
            rw [← HK.out.1] at hsum
            have hsl := HSL.out k
            have hlow := HLOW.out.1 (k : Int) (lab ps (k : Int))
            generalize lab ps (k : Int) = x at *
            by_cases hx : x < 0
            · have hxb : decide (x < 0) = true := by simpa using hx
              have HF : Hid (z = sumX l (stepsU ps (k + 1)) ∧ okX l (stepsU ps (k + 1)) = true ∧ Since W.heap.size W wr) := by
                have := HS2.out
                rw [if_pos (by omega), List.append_nil] at this
                show _ ∧ _
                rw [this]
                exact HK.out
              clear HK HS2 HN1 hx
              go_wp2
              go_roundw
              case rel => exact ⟨k + 1, by omega, by go_num, _, rfl, HF.out⟩
              case measure => simp [intOf]; omega
            · have hxb : decide (x < 0) = false := by simpa using hx
              have hx1 : x ≠ -1 := by omega
              have HS3 : Hid (stepsU ps (k + 1) = stepsU ps k ++ [((k : Int), x)]) := by
                have := HS2.out
                rw [if_neg hx1] at this
                exact this
              have CE1 : Hid (∀ (w' : World), Since W.heap.size W w' → Calls Try.prog 47 #[.slice a1 l.length c1, .int .i64 (k : Int), .int .i64 x] w' fun e w2 => e = .returned (.int .i64 (costB l (k : Int) x)) ∧ Below w'.heap.size w' w2) := fun w' hs => CE.out w' _ _ hs
              have HSX : Hid (sumX l (stepsU ps (k + 1)) = sumX l (stepsU ps k) + costB l (k : Int) x ∧ okX l (stepsU ps (k + 1)) = (okX l (stepsU ps k) && decide (costB l (k : Int) x ≠ 0))) := by
                show _ ∧ _
                rw [HS3.out]
                exact ⟨sumX_snoc l _ _, okX_snoc l _ _⟩
              generalize costB l (k : Int) x = c at *
              by_cases hc : c = 0
              · have hcb : (c == 0) = true := by simpa using hc
                have HF : Hid (ok = false ∧ out = 0) := by
                  have h1 : okX l (stepsU ps ps.length) = false := HN1.out hx1 hc
                  have h2 := HOUT.out
                  rw [h1] at h2
                  exact h2
                have SWR : Hid (Since W.heap.size W wr) := HK.out.2.2
                clear HK HS2 HN1 hx hc hx1 HS3 HSX HOUT HST HNO
                go_wp2_with fail
                refine (CE1.out wr SWR.out).mono ?_
                rintro e wq ⟨rfl, hbq⟩
                have HSQ : Hid (Since W.heap.size W wq) := SWR.out.step hbq
                clear hbq
                go_wp2
                refine bodyPost_ret (results_tmp2 rfl _ _ _) rfl ?_
                exact ⟨by rw [HF.out.1, HF.out.2]; rfl, HSQ.out.1⟩
              · have hcb : (c == 0) = false := by simpa using hc
                have hwr : IntKind.i64.wrap (z + c) = z + c := by rw [IntKind.wrap_i64]; omega
                have HF0 : Hid (z + c = sumX l (stepsU ps (k + 1)) ∧ okX l (stepsU ps (k + 1)) = true) := by
                  show _ ∧ _
                  rw [HSX.out.1, HSX.out.2, HK.out.2.1, decide_eq_true hc, ← HK.out.1]
                  exact ⟨rfl, rfl⟩
                have SWR : Hid (Since W.heap.size W wr) := HK.out.2.2
                clear HK HS2 HN1 hx hc hx1 HS3 HSX HST HNO
                go_wp2_with fail
                refine (CE1.out wr SWR.out).mono ?_
                rintro e wq ⟨rfl, hbq⟩
                have HF : Hid (z + c = sumX l (stepsU ps (k + 1)) ∧ okX l (stepsU ps (k + 1)) = true ∧ Since W.heap.size W wq) := ⟨HF0.out.1, HF0.out.2, SWR.out.step hbq⟩
                clear hbq SWR HF0
                go_wp2
                go_roundw
                case rel => exact ⟨k + 1, by omega, by go_num, _, rfl, HF.out⟩
                case measure => simp [intOf]; omega
          · have e : k = ps.length := by omega
            have HE : Hid (ok = true ∧ out = z ∧ Below W.heap.size W wr) := by
              have h1 := HK.out
              rw [e] at h1
              have h2 := HOUT.out
              rw [h1.2.1] at h2
              exact ⟨h2.1, by rw [h2.2, h1.1]; rfl, h1.2.2.1⟩
            clear HK HOUT HST HNO HLOW HSL HWC CE HFIT
            subst e
            go_wp2
            refine bodyPost_ret (results_tmp2 rfl _ _ _) rfl ?_
            exact ⟨by rw [HE.out.1, HE.out.2.1]; rfl, HE.out.2.2⟩
      · have q1 : ((ps.length : Int) != n) = true := by simpa using hln
        have HF : Hid (ok = false ∧ out = 0) := by
          have h1 : ok = false := HD.out.1.trans (by rw [hg, decide_eq_false hln]; rfl)
          exact ⟨h1, HD.out.2.trans (by rw [h1]; rfl)⟩
        clear hg HD HUD HRD HGT hln hgu
        go_enter Try.func22, Try.ntmps22
        go_wp2_with fail
        refine CG.out.mono ?_
        rintro e w1 ⟨rfl, hb1⟩
        have HS1 : Hid (Since W.heap.size W w1) := HS0.out.step hb1
        clear hb1
        go_wp2_with fail
        refine (CP.out w1 HS1.out).mono ?_
        rintro e ww ⟨rfl, hww⟩
        obtain rfl : w1 = ww := hww.symm
        go_wp2
        refine bodyPost_ret (results_tmp2 rfl _ _ _) rfl ?_
        exact ⟨by rw [HF.out.1, HF.out.2]; rfl, HS1.out.1⟩
end Go.Proofs.Ythlbmkefjjckaag
