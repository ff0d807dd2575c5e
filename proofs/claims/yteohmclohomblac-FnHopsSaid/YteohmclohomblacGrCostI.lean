/-
  'CostOf' of the program.
-/
import Derived.Test.YteohmclohomblacGrSteps
import Derived.Test.YteohmclohomblacGrFars
namespace Go.Proofs.Yteohmclohomblac
open Go.RowKit
set_option linter.unusedVariables false
attribute [local go_sem] Oper.semAt_some wide_fn

def stepC (l : List EdD) (ws : List Int) (j : Nat) : Int := costB l (ws.getD j 0) (ws.getD (j + 1) 0)
def sumC (l : List EdD) (ws : List Int) : Nat → Int
  | 0 => 0
  | k + 1 => sumC l ws k + stepC l ws k
def okC (l : List EdD) (ws : List Int) : Nat → Bool
  | 0 => true
  | k + 1 => okC l ws k && decide (stepC l ws k ≠ 0)
def pathOk (n : Int) (l : List EdD) (ws : List Int) : Bool := goodEd n l && decide (1 ≤ ws.length ∧ ws.length ≤ 12) && decide (0 ≤ ws.getD 0 0 ∧ ws.getD 0 0 < n) && okC l ws (ws.length - 1)
def pathCost (n : Int) (l : List EdD) (ws : List Int) : Int := if pathOk n l ws then sumC l ws (ws.length - 1) else 0
theorem okC_no (l : List EdD) (ws : List Int) (k : Nat) (h : stepC l ws k = 0) : ∀ m, k < m → okC l ws m = false
  | 0, hm => by omega
  | m + 1, hm => by
    rw [okC]
    by_cases e : k = m
    · rw [← e, decide_eq_false (not_not_intro h), Bool.and_false]
    · rw [okC_no l ws k h m (by omega), Bool.false_and]
theorem sumC_low {n : Int} {l : List EdD} (hf : FitEd n l) (ws : List Int) : ∀ k : Nat, 0 ≤ sumC l ws k ∧ sumC l ws k ≤ 100 * k
  | 0 => by simp [sumC]
  | k + 1 => by
    have h1 := sumC_low hf ws k
    have h2 := costB_low hf (ws.getD k 0) (ws.getD (k + 1) 0)
    rw [sumC]
    unfold stepC
    omega
def CostPost (W : World) (z : Int) (ok : Bool) (e : Ending) (W' : World) : Prop := e = .returned (.tuple #[.int .i64 z, .bool ok]) ∧ Below W.heap.size W W'

theorem resCost (tmps : Array Value) (W : World) (b6 b7 : Nat) (z : Int) (q : Bool) (h6 : tmps[6]?.getD undef = .pointer (some ⟨b6, 0, none⟩)) (h7 : tmps[7]?.getD undef = .pointer (some ⟨b7, 0, none⟩)) (c6 : W.cell? ⟨b6, 0, none⟩ = some (.int .i64 z)) (c7 : W.cell? ⟨b7, 0, none⟩ = some (.bool q)) :
    (results Try.f62 tmps).run Try.prog W = .ok (.tuple #[.int .i64 z, .bool q]) W := by
  simp [results, Try.f62, go_sem, h6, h7, c6, c7]

theorem getD_atC (zs : List Int) (j : Nat) (h : j < zs.length) : zs.getD j 0 = zs[j] := by simp [List.getD_eq_getElem?_getD, h]
/-- What lies in the cells when so many steps have come. -/
def CostI (l : List EdD) (ws : List Int) (W : World) (b8 : Nat) (v : Value) (pre : List (Int × Int)) (w : World) : Prop :=
  Boxed w W.heap.size 54 v ∧ Boxed w (W.heap.size + 1) 3 (.int .i64 0) ∧ Boxed w (W.heap.size + 1 + 1) 4 (.bool false) ∧ Boxed w b8 3 (.int .i64 (sumC l ws pre.length)) ∧ okC l ws pre.length = true ∧ Since W.heap.size W w
theorem fin2 {W w : World} {b6 b7 : Nat} {x y : Value} {z : Int} {q : Bool} (h6 : Boxed w b6 3 x) (h7 : Boxed w b7 4 y) (hne : b6 ≠ b7) (hb : Below W.heap.size W w) (l6 : W.heap.size ≤ b6) (l7 : W.heap.size ≤ b7) :
    ((w.setCell ⟨b6, 0, none⟩ (.int .i64 z)).setCell ⟨b7, 0, none⟩ (.bool q)).cell? ⟨b6, 0, none⟩ = some (.int .i64 z) ∧ ((w.setCell ⟨b6, 0, none⟩ (.int .i64 z)).setCell ⟨b7, 0, none⟩ (.bool q)).cell? ⟨b7, 0, none⟩ = some (.bool q) ∧ Below W.heap.size W ((w.setCell ⟨b6, 0, none⟩ (.int .i64 z)).setCell ⟨b7, 0, none⟩ (.bool q)) :=
  ⟨((h6.set (.int .i64 z)).other hne (.bool q)).cell, ((h7.other (Ne.symm hne) (.int .i64 z)).set (.bool q)).cell, (hb.setCell (p := ⟨b6, 0, none⟩) l6 _).setCell (p := ⟨b7, 0, none⟩) l7 _⟩

set_option maxRecDepth 100000 in
set_option maxHeartbeats 8000000 in
theorem implCostOf_any (W : World) (B : Nat) (v u : Value) (n : Int) (l : List EdD) (ws : List Int) (h : ReadsEd W v l) (hu : Own W B u ws) (hl : l.length ≤ 2097152) (hwl : ws.length ≤ 1048576) :
    Calls Try.prog 62 #[.int .i64 n, v, u] W (CostPost W (pathCost n l ws) (pathOk n l ws)) := by
  have CG : Hid (∀ w', Since W.heap.size W w' → Calls Try.prog 36 #[.int .i64 n, v] w' fun e w2 => e = .returned (.bool (goodEd n l)) ∧ Below w'.heap.size w' w2) := fun w' hs => implGoodEd_any w' v n l (h.below hs.1) hl
  have HRD : Hid (∀ w', Since W.heap.size W w' → ReadsEd w' v l) := fun w' hs => h.below hs.1
  have HUD : Hid (∀ w', Since W.heap.size W w' → Own w' B u ws) := fun w' hs => hu.below hs.1
  obtain ⟨a1, c1, rfl⟩ := h.shape
  obtain ⟨aw, cw, rfl⟩ := hu.shape
  have HD : Hid (pathOk n l ws = (goodEd n l && decide (1 ≤ ws.length ∧ ws.length ≤ 12) && decide (0 ≤ ws.getD 0 0 ∧ ws.getD 0 0 < n) && okC l ws (ws.length - 1)) ∧ pathCost n l ws = if pathOk n l ws then sumC l ws (ws.length - 1) else 0) := ⟨rfl, rfl⟩
  generalize pathOk n l ws = ok at *
  generalize pathCost n l ws = out at *
  clear h hu
  -- the world behind the boxes
  obtain ⟨W3, hW3⟩ : ∃ W3, W3 = ((W.alloc (.cells #[.slice a1 l.length c1] 54)).alloc (.cells #[.int .i64 0] 3)).alloc (.cells #[.bool false] 4) := ⟨_, rfl⟩
  have HS3 : Hid (Since W.heap.size W W3) := by
    show Since _ _ _
    rw [hW3]
    exact ⟨(((Below.refl _ W).alloc (Nat.le_refl _) _).alloc (by simp) _).alloc (by simp; omega) _, by simp; omega⟩
  have HB3 : Hid (Boxed W3 W.heap.size 54 (.slice a1 l.length c1) ∧ Boxed W3 (W.heap.size + 1) 3 (.int .i64 0) ∧ Boxed W3 (W.heap.size + 1 + 1) 4 (.bool false)) := by
    show _ ∧ _ ∧ _
    rw [hW3]
    refine ⟨((Boxed.new W _ _).alloc _).alloc _, ?_, ?_⟩
    · have := (Boxed.new (W.alloc (.cells #[.slice a1 l.length c1] 54)) 3 (.int .i64 0)).alloc (.cells #[.bool false] 4)
      rwa [World.size_alloc] at this
    · have := Boxed.new ((W.alloc (.cells #[.slice a1 l.length c1] 54)).alloc (.cells #[.int .i64 0] 3)) 4 (.bool false)
      rwa [World.size_alloc, World.size_alloc] at this
  have HW3 : Hid (((W.alloc (.cells #[.slice a1 l.length c1] 54)).alloc (.cells #[.int .i64 0] 3)).alloc (.cells #[.bool false] 4) = W3) := hW3.symm
  clear hW3
  refine callsIn_wide (n := 9) |>.1 ?_
  refine callsIn_of_wp_marks Try.func62 rfl trivial ?_ rfl
  simp only [Try.ntmps62, List.size_toArray, List.length_cons, List.length_nil, Nat.reduceAdd, Nat.reduceSub, Array.replicate_succ, Array.replicate_zero, List.push_toArray, List.append_toArray, List.nil_append, List.cons_append]
  have hcl0 : (((W.alloc (.cells #[.slice a1 l.length c1] 54)).alloc (.cells #[.int .i64 0] 3)).alloc (.cells #[.bool false] 4)).cell? ⟨W.heap.size, 0, none⟩ = some (.slice a1 l.length c1) := by rw [HW3.out]; exact HB3.out.1.cell
  cases hg : goodEd n l with
  | false =>
    have HF : Hid (ok = false ∧ out = 0) := by
      have h1 : ok = false := HD.out.1.trans (by rw [hg]; rfl)
      exact ⟨h1, HD.out.2.trans (by rw [h1]; rfl)⟩
    rw [hg] at CG
    clear hg HD HUD HRD
    gi_wp2_with (gi_at_call 36; rw [HW3.out]; refine (callsIn_wide.2 (CG.out _ HS3.out)).mono ?_; rintro e w1 ⟨rfl, hb1⟩; have HB1 : Hid (Boxed w1 W.heap.size 54 (.slice a1 l.length c1) ∧ Boxed w1 (W.heap.size + 1) 3 (.int .i64 0) ∧ Boxed w1 (W.heap.size + 1 + 1) 4 (.bool false) ∧ Since W.heap.size W w1) := ⟨(hb1.block _ HB3.out.1.lt).trans HB3.out.1, (hb1.block _ HB3.out.2.1.lt).trans HB3.out.2.1, (hb1.block _ HB3.out.2.2.lt).trans HB3.out.2.2, HS3.out.step hb1⟩; have hc4 := HB1.out.1.cell; have hc6 := HB1.out.2.1.cell; have hf6 := HB1.out.2.1.frozen; have hc7 := HB1.out.2.2.1.cell; have hf7 := HB1.out.2.2.1.frozen; clear hb1 hcl0)
    obtain ⟨q6, q7, qb⟩ := fin2 (z := 0) (q := false) HB1.out.2.1 HB1.out.2.2.1 (by omega) HB1.out.2.2.2.1 (by omega) (by omega)
    exact ⟨_, resCost _ _ _ _ _ _ rfl rfl q6 q7, by rw [HF.out.1, HF.out.2], qb⟩
  | true =>
    have HGT : Hid ((1 ≤ n ∧ n ≤ 12) ∧ l.length ≤ 40 ∧ FitEd n l ∧ RiseEd l) := goodEd_true hg
    rw [hg] at CG
    by_cases hl1 : ws.length < 1
    · have HF : Hid (ok = false ∧ out = 0) := by
        have h1 : ok = false := HD.out.1.trans (by rw [hg, decide_eq_false (by omega)]; rfl)
        exact ⟨h1, HD.out.2.trans (by rw [h1]; rfl)⟩
      have q1 : decide ((ws.length : Int) < 1) = true := by simp; omega
      clear hg HD HUD HRD HGT hl1
      gi_wp2_with (gi_at_call 36; rw [HW3.out]; refine (callsIn_wide.2 (CG.out _ HS3.out)).mono ?_; rintro e w1 ⟨rfl, hb1⟩; have HB1 : Hid (Boxed w1 W.heap.size 54 (.slice a1 l.length c1) ∧ Boxed w1 (W.heap.size + 1) 3 (.int .i64 0) ∧ Boxed w1 (W.heap.size + 1 + 1) 4 (.bool false) ∧ Since W.heap.size W w1) := ⟨(hb1.block _ HB3.out.1.lt).trans HB3.out.1, (hb1.block _ HB3.out.2.1.lt).trans HB3.out.2.1, (hb1.block _ HB3.out.2.2.lt).trans HB3.out.2.2, HS3.out.step hb1⟩; have hc4 := HB1.out.1.cell; have hc6 := HB1.out.2.1.cell; have hf6 := HB1.out.2.1.frozen; have hc7 := HB1.out.2.2.1.cell; have hf7 := HB1.out.2.2.1.frozen; clear hb1 hcl0)
      obtain ⟨q6, q7, qb⟩ := fin2 (z := 0) (q := false) HB1.out.2.1 HB1.out.2.2.1 (by omega) HB1.out.2.2.2.1 (by omega) (by omega)
      exact ⟨_, resCost _ _ _ _ _ _ rfl rfl q6 q7, by rw [HF.out.1, HF.out.2], qb⟩
    have q1 : decide ((ws.length : Int) < 1) = false := by simp; omega
    by_cases hl2 : 12 < ws.length
    · have HF : Hid (ok = false ∧ out = 0) := by
        have h1 : ok = false := HD.out.1.trans (by rw [hg, decide_eq_false (by omega)]; rfl)
        exact ⟨h1, HD.out.2.trans (by rw [h1]; rfl)⟩
      have q2 : decide (12 < (ws.length : Int)) = true := by simp; omega
      clear hg HD HUD HRD HGT hl1 hl2
      gi_wp2_with (gi_at_call 36; rw [HW3.out]; refine (callsIn_wide.2 (CG.out _ HS3.out)).mono ?_; rintro e w1 ⟨rfl, hb1⟩; have HB1 : Hid (Boxed w1 W.heap.size 54 (.slice a1 l.length c1) ∧ Boxed w1 (W.heap.size + 1) 3 (.int .i64 0) ∧ Boxed w1 (W.heap.size + 1 + 1) 4 (.bool false) ∧ Since W.heap.size W w1) := ⟨(hb1.block _ HB3.out.1.lt).trans HB3.out.1, (hb1.block _ HB3.out.2.1.lt).trans HB3.out.2.1, (hb1.block _ HB3.out.2.2.lt).trans HB3.out.2.2, HS3.out.step hb1⟩; have hc4 := HB1.out.1.cell; have hc6 := HB1.out.2.1.cell; have hf6 := HB1.out.2.1.frozen; have hc7 := HB1.out.2.2.1.cell; have hf7 := HB1.out.2.2.1.frozen; clear hb1 hcl0)
      obtain ⟨q6, q7, qb⟩ := fin2 (z := 0) (q := false) HB1.out.2.1 HB1.out.2.2.1 (by omega) HB1.out.2.2.2.1 (by omega) (by omega)
      exact ⟨_, resCost _ _ _ _ _ _ rfl rfl q6 q7, by rw [HF.out.1, HF.out.2], qb⟩
    have q2 : decide (12 < (ws.length : Int)) = false := by simp; omega
    have hw1 : 1 ≤ ws.length := by omega
    have hw2 : ws.length ≤ 12 := by omega
    have hpos : 0 < (ws.length : Int) := by omega
    obtain ⟨wg, rfl, HWC⟩ : ∃ wg, aw = some ⟨wg, 0, none⟩ ∧ Hid (∀ w, Since W.heap.size W w → w.cell? ⟨wg, 0, none⟩ = some (.int .i64 (ws.getD 0 0))) := by
      rcases (HUD.out W (Since.start W)).2 with ⟨hv, h0⟩ | ⟨g, cap, cur, hv, -⟩
      · omega
      · cases hv
        refine ⟨g, rfl, fun w hs => ?_⟩
        have := own_cellG (HUD.out w hs) rfl 0 (by omega)
        rw [getD_atC ws 0 (by omega)]
        exact this
    cases hsp : decide (0 ≤ ws.getD 0 0 ∧ ws.getD 0 0 < n) with
    | false =>
      have HF : Hid (ok = false ∧ out = 0) := by
        have h1 : ok = false := HD.out.1.trans (by rw [hg, hsp]; simp)
        exact ⟨h1, HD.out.2.trans (by rw [h1]; rfl)⟩
      clear hg HD HUD HRD HGT hl1 hl2
      generalize ws.getD 0 0 = x0 at *
      gi_wp2_with (first
        | (gi_at_call 36; rw [HW3.out]; refine (callsIn_wide.2 (CG.out _ HS3.out)).mono ?_; rintro e w1 ⟨rfl, hb1⟩; have HB1 : Hid (Boxed w1 W.heap.size 54 (.slice a1 l.length c1) ∧ Boxed w1 (W.heap.size + 1) 3 (.int .i64 0) ∧ Boxed w1 (W.heap.size + 1 + 1) 4 (.bool false) ∧ Since W.heap.size W w1) := ⟨(hb1.block _ HB3.out.1.lt).trans HB3.out.1, (hb1.block _ HB3.out.2.1.lt).trans HB3.out.2.1, (hb1.block _ HB3.out.2.2.lt).trans HB3.out.2.2, HS3.out.step hb1⟩; have hc4 := HB1.out.1.cell; have hc6 := HB1.out.2.1.cell; have hf6 := HB1.out.2.1.frozen; have hc7 := HB1.out.2.2.1.cell; have hf7 := HB1.out.2.2.1.frozen; clear hb1 hcl0; have hcx := HWC.out w1 HB1.out.2.2.2)
        | (gi_at_call 103; refine (callsIn_wide.2 (isSpot_any w1 x0 n)).mono ?_; rintro e ww ⟨rfl, hww⟩; rw [hww, hsp]; clear hww))
      obtain ⟨q6, q7, qb⟩ := fin2 (z := 0) (q := false) HB1.out.2.1 HB1.out.2.2.1 (by omega) HB1.out.2.2.2.1 (by omega) (by omega)
      exact ⟨_, resCost _ _ _ _ _ _ rfl rfl q6 q7, by rw [HF.out.1, HF.out.2], qb⟩
    | true =>
      have HOUT : Hid ((okC l ws (ws.length - 1) = true → ok = true ∧ out = sumC l ws (ws.length - 1)) ∧ (okC l ws (ws.length - 1) = false → ok = false ∧ out = 0)) := by
        have e : ok = okC l ws (ws.length - 1) := HD.out.1.trans (by rw [hg, hsp, decide_eq_true ⟨hw1, hw2⟩]; rfl)
        refine ⟨fun h1 => ?_, fun h1 => ?_⟩
        · rw [h1] at e
          exact ⟨e, HD.out.2.trans (by rw [e]; rfl)⟩
        · rw [h1] at e
          exact ⟨e, HD.out.2.trans (by rw [e]; rfl)⟩
      have CB : Hid (∀ (w' : World) (x y : Int), Since W.heap.size W w' → Calls Try.prog 118 #[.slice a1 l.length c1, .int .i64 x, .int .i64 y] w' fun e w2 => e = .returned (.int .i64 (costB l x y)) ∧ Below w'.heap.size w' w2) := fun w' x y hs => costB_any w' _ l x y (HRD.out w' hs) (by have := HGT.out.2.1; omega)
      have HLOW : Hid ((∀ x y, 0 ≤ costB l x y ∧ costB l x y ≤ 100) ∧ ∀ k, 0 ≤ sumC l ws k ∧ sumC l ws k ≤ 100 * k) := ⟨fun x y => costB_low HGT.out.2.2.1 x y, sumC_low HGT.out.2.2.1 ws⟩
      have HSP : Hid (decide (0 ≤ ws.getD 0 0 ∧ ws.getD 0 0 < n) = true) := hsp
      have hx0 : ∃ x0, x0 = ws.getD 0 0 := ⟨_, rfl⟩
      obtain ⟨x0, hx0⟩ := hx0
      rw [← hx0] at HSP HWC
      clear hg HD HRD HGT hl1 hl2 hx0 hsp
      gi_wp2_with (first
        | (gi_at_call 36; rw [HW3.out]; refine (callsIn_wide.2 (CG.out _ HS3.out)).mono ?_; rintro e w1 ⟨rfl, hb1⟩; have HB1 : Hid (Boxed w1 W.heap.size 54 (.slice a1 l.length c1) ∧ Boxed w1 (W.heap.size + 1) 3 (.int .i64 0) ∧ Boxed w1 (W.heap.size + 1 + 1) 4 (.bool false) ∧ Since W.heap.size W w1) := ⟨(hb1.block _ HB3.out.1.lt).trans HB3.out.1, (hb1.block _ HB3.out.2.1.lt).trans HB3.out.2.1, (hb1.block _ HB3.out.2.2.lt).trans HB3.out.2.2, HS3.out.step hb1⟩; have hc4 := HB1.out.1.cell; have hc6 := HB1.out.2.1.cell; have hf6 := HB1.out.2.1.frozen; have hc7 := HB1.out.2.2.1.cell; have hf7 := HB1.out.2.2.1.frozen; clear hb1 hcl0; have hcx := HWC.out w1 HB1.out.2.2.2)
        | (gi_at_call 103; refine (callsIn_wide.2 (isSpot_any w1 x0 n)).mono ?_; rintro e ww ⟨rfl, hww⟩; rw [hww, HSP.out]; clear hww)
        | (gi_at_call 117; refine (callsIn_wide.2 (stepsOf_any (w1.alloc (.cells #[.int .i64 0] 3)) (.slice (some ⟨wg, 0, none⟩) ws.length cw) ⟨_, _, _, rfl⟩)).mono ?_; rintro e w2 ⟨rfl, rfl⟩))
      obtain ⟨W2, hW2⟩ : ∃ W2, W2 = (w1.alloc (.cells #[.int .i64 0] 3)).alloc (.cells #[.slice (some ⟨wg, 0, none⟩) ws.length cw] 35) := ⟨_, rfl⟩
      have hsz : W2.heap.size = w1.heap.size + 2 := by rw [hW2]; simp
      have hb2 : Below w1.heap.size w1 W2 := by rw [hW2]; exact ((Below.refl _ w1).alloc (Nat.le_refl _) _).alloc (by simp) _
      have H8 : Boxed W2 w1.heap.size 3 (.int .i64 0) := by rw [hW2]; exact (Boxed.new w1 _ _).alloc _
      have HWB : Boxed W2 (w1.heap.size + 1) 35 (.slice (some ⟨wg, 0, none⟩) ws.length cw) := by
        rw [hW2]
        have := Boxed.new (w1.alloc (.cells #[.int .i64 0] 3)) 35 (.slice (some ⟨wg, 0, none⟩) ws.length cw)
        rwa [World.size_alloc] at this
      rw [← hW2]
      clear hW2 hc4 hc6 hf6 hc7 hf7 hcx
      obtain ⟨B4, B6, B7, S1⟩ := HB1.out
      have l7 := B7.lt
      have S2 : Since W.heap.size W W2 := S1.step hb2
      have D4 : Boxed W2 W.heap.size 54 (.slice a1 l.length c1) := (hb2.block _ B4.lt).trans B4
      have D6 : Boxed W2 (W.heap.size + 1) 3 (.int .i64 0) := (hb2.block _ B6.lt).trans B6
      have D7 : Boxed W2 (W.heap.size + 1 + 1) 4 (.bool false) := (hb2.block _ B7.lt).trans B7
      have h00 : CostI l ws W w1.heap.size (.slice a1 l.length c1) [] W2 := ⟨D4, D6, D7, H8, rfl, S2⟩
      refine wp_range (w0 := W2) (xs := pairsT ws (ws.length - 1)) (encs := fun p : Int × Int => #[.int .i64 p.1, .int .i64 p.2]) (S := fun b => b < W.heap.size ∨ b = w1.heap.size + 1) (gf := 137) (lb := #[.pointer (some ⟨w1.heap.size + 1, 0, none⟩)]) rfl (enters_of Try.func137 (by kernel_rfl) rfl)
        (stepsIt_any _ (w1.heap.size + 1) ws W W2 B wg cw hw1 (by omega) (.inr rfl) HWB.cell (HUD.out W (Since.start W)) S2.1 (fun b hb => .inl hb)) (Below.refl _ _)
        (CostI l ws W w1.heap.size (.slice a1 l.length c1)) (fun w b => (b = W.heap.size + 1 ∨ b = W.heap.size + 1 + 1 ∨ b = w1.heap.size) ∧ b < w.heap.size) ⟨fun _ _ _ _ h => h.2, fun _ X Y row b _ hX _ _ h => ⟨h.1, by have := h.1; omega⟩⟩
        (fun b hb q => by have := q.1; rcases hb with hb | hb <;> omega) (fun _ => rfl)
        (fun c pre w => c = .ret ∧ Boxed w (W.heap.size + 1) 3 (.int .i64 0) ∧ Boxed w (W.heap.size + 1 + 1) 4 (.bool false) ∧ okC l ws (ws.length - 1) = false ∧ Since W.heap.size W w)
        (fun s X Y row hs hg hr => ⟨boxed_own (β := Unit) _ _ (fun _ => _) () X Y row hs.1 hg (fun r e => (hr r e).2), boxed_own (β := Unit) _ _ (fun _ => _) () X Y row hs.2.1 hg (fun r e => (hr r e).2), boxed_own (β := Unit) _ _ (fun _ => _) () X Y row hs.2.2.1 hg (fun r e => (hr r e).2), boxed_own (β := Unit) _ _ (fun _ => _) () X Y row hs.2.2.2.1 hg (fun r e => (hr r e).2), hs.2.2.2.2.1, since_from (β := Unit) (Nat.le_refl _) (by omega) () X Y row hs.2.2.2.2.2 hg hr⟩)
        (fun c s X Y row hs hg hr => ⟨hs.1, boxed_own (β := Unit) _ _ (fun _ => _) () X Y row hs.2.1 hg (fun r e => (hr r e).2), boxed_own (β := Unit) _ _ (fun _ => _) () X Y row hs.2.2.1 hg (fun r e => (hr r e).2), hs.2.2.2.1, since_from (β := Unit) (Nat.le_refl _) (by omega) () X Y row hs.2.2.2.2 hg hr⟩)
        h00
        (fun x => { tmps := #[.int .i64 n, .slice a1 l.length c1, .slice (some ⟨wg, 0, none⟩) ws.length cw, undef, .pointer (some ⟨W.heap.size, 0, none⟩), undef, .pointer (some ⟨W.heap.size + 1, 0, none⟩), .pointer (some ⟨W.heap.size + 1 + 1, 0, none⟩), .pointer (some ⟨w1.heap.size, 0, none⟩), .int .i64 x.1, .int .i64 x.2, undef, .int .i64 n, .slice a1 l.length c1, .bool true, .bool false, .bool false, .slice (some ⟨wg, 0, none⟩) ws.length cw, .int .i64 (ws.length : Int), .bool false, .bool false, .bool false, .slice (some ⟨wg, 0, none⟩) ws.length cw, .int .i64 (ws.length : Int), .bool false, .bool false, .bool false, .slice (some ⟨wg, 0, none⟩) ws.length cw, .pointer (some ⟨wg, 0, none⟩), .int .i64 x0, .int .i64 n, .bool true, .bool false, .bool false, .slice (some ⟨wg, 0, none⟩) ws.length cw, .func (.func 137) #[] #[.pointer (some ⟨w1.heap.size + 1, 0, none⟩)], .int .i64 x.1, .int .i64 x.2, undef, undef, undef, undef, undef, undef, undef, undef, undef, undef], defers := [] }) ?assign ?body ?done ?stop
      case assign =>
        intro l2 x Wx K hK
        gi_wp2
        exact hK
      case body =>
        rintro l2 pre ⟨x, y⟩ wr ⟨E4, E6, E7, E8, hok, hs⟩ hpre hsx
        obtain ⟨hp1, hp2, hp3⟩ := pairsT_of_pre hpre
        have hex : x = ws.getD pre.length 0 ∧ y = ws.getD (pre.length + 1) 0 := by simpa using hp2
        have HST : Hid (stepC l ws pre.length = costB l x y) := by show _ = _; rw [hex.1, hex.2]; rfl
        have hlow := HLOW.out.1 x y
        have hsum := HLOW.out.2 pre.length
        have CB1 : Hid (Calls Try.prog 118 #[.slice a1 l.length c1, .int .i64 x, .int .i64 y] wr fun e w2 => e = .returned (.int .i64 (costB l x y)) ∧ Below wr.heap.size wr w2) := CB.out wr x y hs
        have k4 := E4.cell
        clear hp1 hp2 hex hpre
        generalize costB l x y = c at *
        obtain ⟨sm, hsm⟩ : ∃ sm, sm = sumC l ws pre.length := ⟨_, rfl⟩
        rw [← hsm] at E8 hsum
        refine wpIn_block ?_
        by_cases hc : c = 0
        · have HNO : Hid (okC l ws (ws.length - 1) = false) := okC_no l ws pre.length (by rw [HST.out]; exact hc) _ hp3
          have t1 : (c == 0) = true := by simpa using hc
          clear hc
          gi_wp2_with (gi_at_call 118; refine (CallsIn.inRound l2 (callsIn_wide.2 CB1.out)).mono ?_; rintro e w5 ⟨rfl, hb5⟩; have HB5 : Hid (Boxed w5 (W.heap.size + 1) 3 (.int .i64 0) ∧ Boxed w5 (W.heap.size + 1 + 1) 4 (.bool false) ∧ Since W.heap.size W w5 ∧ Below wr.heap.size wr w5) := ⟨(hb5.block _ E6.lt).trans E6, (hb5.block _ E7.lt).trans E7, hs.step hb5, hb5⟩; have k6 := HB5.out.1.cell; have f6 := HB5.out.1.frozen; have k7 := HB5.out.2.1.cell; have f7 := HB5.out.2.1.frozen; clear hb5)
          refine ⟨(KeepsOthers.of_grownBy (below_grown HB5.out.2.2.2) (fun j o e => by cases e)).from _ |>.trans (((KeepsOthers.setCell _ _ _).trans (KeepsOthers.setCell _ _ _)).from _), rfl, ((HB5.out.1.set _).other (by omega) _), ((HB5.out.2.1.other (by omega) _).set _), HNO.out, ⟨(HB5.out.2.2.1.1.setCell (p := ⟨_, 0, none⟩) (by show W.heap.size ≤ W.heap.size + 1; omega) _).setCell (p := ⟨_, 0, none⟩) (by show W.heap.size ≤ W.heap.size + 1 + 1; omega) _, by have := HB5.out.2.2.1.2; simpa [World.setCell] using this⟩⟩
        · have t1 : (c == 0) = false := by simpa using hc
          have hwr : IntKind.i64.wrap (sm + c) = sm + c := by rw [IntKind.wrap_i64]; omega
          have HOK : Hid (okC l ws (pre.length + 1) = true) := by
            show _ = _
            rw [okC, hok, HST.out, decide_eq_true hc]
            rfl
          have HSM : Hid (sumC l ws (pre.length + 1) = sm + c) := by
            show _ = _
            rw [sumC, HST.out, ← hsm]
          clear hc hsm
          gi_wp2_with (gi_at_call 118; refine (CallsIn.inRound l2 (callsIn_wide.2 CB1.out)).mono ?_; rintro e w5 ⟨rfl, hb5⟩; have HB5 : Hid (Boxed w5 W.heap.size 54 (.slice a1 l.length c1) ∧ Boxed w5 (W.heap.size + 1) 3 (.int .i64 0) ∧ Boxed w5 (W.heap.size + 1 + 1) 4 (.bool false) ∧ Boxed w5 w1.heap.size 3 (.int .i64 sm) ∧ Since W.heap.size W w5 ∧ Below wr.heap.size wr w5) := ⟨(hb5.block _ E4.lt).trans E4, (hb5.block _ E6.lt).trans E6, (hb5.block _ E7.lt).trans E7, (hb5.block _ E8.lt).trans E8, hs.step hb5, hb5⟩; have k8 := HB5.out.2.2.2.1.cell; have f8 := HB5.out.2.2.2.1.frozen; clear hb5)
          obtain ⟨F4, F6, F7, F8, hs5, hbb⟩ := HB5.out
          refine ⟨(KeepsOthers.of_grownBy (below_grown hbb) (fun j o e => by cases e)).from _ |>.trans ((KeepsOthers.setCell _ _ _).from _), ⟨?_, fun b o hbo hoc hm => ⟨?_, fun q => hm ⟨q.1, (Array.getElem?_eq_some_iff.1 hbo).1⟩⟩⟩, F4.other (by omega) _, F6.other (by omega) _, F7.other (by omega) _, ?_, ?_, ⟨hs5.1.setCell (p := ⟨_, 0, none⟩) (by show W.heap.size ≤ w1.heap.size; omega) _, by have := hs5.2; simpa [World.setCell] using this⟩⟩
          · have := hbb.size
            simpa [World.setCell] using this
          · have hlt := (Array.getElem?_eq_some_iff.1 hbo).1
            exact (Below.heap_setCell w5 ⟨w1.heap.size, 0, none⟩ _ b (fun e => hm ⟨.inr (.inr e), hlt⟩)).trans ((hbb.block b hlt).trans hbo)
          · rw [List.length_append, List.length_singleton, HSM.out]
            exact F8.set _
          · rw [List.length_append, List.length_singleton]
            exact HOK.out
      case done =>
        rintro D Wx hD ⟨E4, E6, E7, E8, hok, hs⟩ hd
        rw [pairsT_len] at E8 hok
        have HO := HOUT.out.1 hok
        have k8 := E8.cell
        have k6 := E6.cell
        have f6 := E6.frozen
        have k7 := E7.cell
        have f7 := E7.frozen
        have HE : Hid (Boxed Wx (W.heap.size + 1) 3 (.int .i64 0) ∧ Boxed Wx (W.heap.size + 1 + 1) 4 (.bool false) ∧ Since W.heap.size W Wx ∧ Wx.heap[D]? = some (.deferred (some []))) := ⟨E6, E7, hs, hd⟩
        clear E4 E6 E7 E8 hs hd hok
        gi_wp2
        obtain ⟨E6, E7, hs, hd⟩ := HE.out
        obtain ⟨q6, q7, qb⟩ := fin2 (z := sumC l ws (ws.length - 1)) (q := true) E6 E7 (by omega) hs.1 (by omega) (by omega)
        have hd' := ((KeepsOthers.setCell Wx ⟨W.heap.size + 1, 0, none⟩ (.int .i64 (sumC l ws (ws.length - 1)))).trans (KeepsOthers.setCell _ ⟨W.heap.size + 1 + 1, 0, none⟩ (.bool true))).same D _ hd rfl
        refine ⟨by simp, .inl ⟨_, _, rfl, run_takeDeferred hd', ?_⟩⟩
        have hgp := grownBy_putObj' ((Wx.setCell ⟨W.heap.size + 1, 0, none⟩ (.int .i64 (sumC l ws (ws.length - 1)))).setCell ⟨W.heap.size + 1 + 1, 0, none⟩ (.bool true)) D (.deferred none)
        exact ⟨_, resCost _ _ _ _ _ _ rfl rfl (cell_kept q6 hgp (fun r e => by cases e; exact ⟨_, hd', rfl⟩)) (cell_kept q7 hgp (fun r e => by cases e; exact ⟨_, hd', rfl⟩)), by rw [HO.1, HO.2], qb.grown hgp (by have := hs.2; simpa [World.setCell] using this) (fun k e => by cases e; omega)⟩
      case stop =>
        rintro D c pre Wx hD ⟨rfl, E6, E7, hok, hs⟩ hd
        have HO := HOUT.out.2 hok
        have HE : Hid (Boxed Wx (W.heap.size + 1) 3 (.int .i64 0) ∧ Boxed Wx (W.heap.size + 1 + 1) 4 (.bool false) ∧ Since W.heap.size W Wx ∧ Wx.heap[D]? = some (.deferred (some []))) := ⟨E6, E7, hs, hd⟩
        clear E6 E7 hs hd
        gi_wp2
        obtain ⟨E6, E7, hs, hd⟩ := HE.out
        refine ⟨by simp, .inl ⟨_, _, rfl, run_takeDeferred hd, ?_⟩⟩
        have hgp := grownBy_putObj' Wx D (.deferred none)
        exact ⟨_, resCost _ _ _ _ _ _ rfl rfl (cell_kept E6.cell hgp (fun r e => by cases e; exact ⟨_, hd, rfl⟩)) (cell_kept E7.cell hgp (fun r e => by cases e; exact ⟨_, hd, rfl⟩)), by rw [HO.1, HO.2], hs.1.grown hgp hs.2 (fun k e => by cases e; omega)⟩
end Go.Proofs.Yteohmclohomblac
