import Derived.Test.YthlbmkefjjckaadGrRelax
import Derived.Test.YthlbmkefjjckaadGrFars
import Derived.Test.YthlbmkefjjckaadTrOnI
import Derived.Test.YthlbmkefjjckaadTrAt
/-
  'stepsOf': the iterator over the steps of a way.
-/
namespace Go.Proofs.Ythlbmkefjjckaad
open Go.RowKit
set_option linter.unusedVariables false
attribute [local go_sem] Oper.semAt_some wide_fn

set_option maxHeartbeats 1000000 in
theorem stepsOf_any (W : World) (v : Value) (hv : ∃ a n c, v = .slice a n c) :
    Calls Try.prog 52 #[v] W fun e W' => e = .returned (.func (.func 83) #[] #[.pointer (some ⟨W.heap.size, 0, none⟩)]) ∧ W' = W.alloc (.cells #[v] 26) := by
  obtain ⟨a1, n1, c1, rfl⟩ := hv
  go_enter Try.func52, Try.ntmps52
  go_wp2
  go_ret
  exact ⟨rfl, rfl⟩

/-- The first k steps of a way. -/
def pairsT (ws : List Int) (k : Nat) : List (Int × Int) := (List.range k).map fun j => (ws.getD j 0, ws.getD (j + 1) 0)
theorem pairsT_succ (ws : List Int) (k : Nat) : pairsT ws (k + 1) = pairsT ws k ++ [(ws.getD k 0, ws.getD (k + 1) 0)] := by simp [pairsT, List.range_succ]
theorem pairsT_len (ws : List Int) (k : Nat) : (pairsT ws k).length = k := by simp [pairsT]
theorem pairsT_pre (ws : List Int) {k m : Nat} (h : k ≤ m) : pairsT ws k <+: pairsT ws m := by
  obtain ⟨d, rfl⟩ : ∃ d, m = k + d := ⟨m - k, by omega⟩
  unfold pairsT
  rw [List.range_add, List.map_append]
  exact List.prefix_append _ _
theorem pairsT_of_pre {ws : List Int} {m : Nat} {pre : List (Int × Int)} {p : Int × Int} (h : pre ++ [p] <+: pairsT ws m) : pre = pairsT ws pre.length ∧ p = (ws.getD pre.length 0, ws.getD (pre.length + 1) 0) ∧ pre.length < m := by
  have hl := h.length_le
  rw [pairsT_len, List.length_append, List.length_singleton] at hl
  have e : pre ++ [p] = pairsT ws (pre.length + 1) := by
    have h2 := pairsT_pre ws (k := pre.length + 1) (m := m) (by omega)
    exact List.IsPrefix.eq_of_length (List.prefix_of_prefix_length_le h h2 (by rw [pairsT_len]; simp)) (by rw [pairsT_len]; simp)
  rw [pairsT_succ] at e
  have := List.append_inj' e rfl
  exact ⟨this.1, by simpa using this.2, by omega⟩

set_option maxRecDepth 100000 in
set_option maxHeartbeats 4000000 in
theorem stepsIt_any (S : Nat → Prop) (bw : Nat) (ws : List Int) (W0 w : World) (B0 wg wcap : Nat) (h1 : 1 ≤ ws.length) (hl : ws.length ≤ 1048576) (hbw : S bw)
    (hcw : w.cell? ⟨bw, 0, none⟩ = some (.slice (some ⟨wg, 0, none⟩) ws.length wcap)) (hu : Own W0 B0 (.slice (some ⟨wg, 0, none⟩) ws.length wcap) ws) (hw0 : Below W0.heap.size W0 w) (hS2 : ∀ b, b < W0.heap.size → S b) :
    SeqO Try.prog 83 #[.pointer (some ⟨bw, 0, none⟩)] (fun p : Int × Int => #[.int .i64 p.1, .int .i64 p.2]) S (pairsT ws (ws.length - 1)) w := by
  intro ll J Jx Mine W hW hJ hJx hM hN hY h0
  have cw : W.cell? ⟨bw, 0, none⟩ = some (.slice (some ⟨wg, 0, none⟩) ws.length wcap) := (hW.cell (p := ⟨bw, 0, none⟩) (World.block_lt_of_cell? w ⟨bw, 0, none⟩ hcw)).trans hcw
  have hwg : wg < W0.heap.size := (World.ownsRow.lt hu wg rfl).2
  have HC : Hid (∀ j, j < ws.length → W.cell? ⟨wg, j, none⟩ = some (.int .i64 (ws.getD j 0))) := fun j hj => by
    have h1 := own_cellG hu rfl j hj
    rw [show ws.getD j 0 = ws[j] by simp [List.getD_eq_getElem?_getD, hj]]
    exact ((hw0.trans (hW.mono hw0.size)).cell (p := ⟨wg, j, none⟩) hwg).trans h1
  have HM : Hid (MineOk W.heap.size J Mine) := hM
  have HNM : Hid (∀ b, S b → ¬ Mine W b) := hN
  have HY : Hid (∀ pre x W1, J pre W1 → pre ++ [x] <+: pairsT ws (ws.length - 1) → YieldW Try.prog ll #[.int .i64 x.1, .int .i64 x.2] W1 fun e W' => (e = .returned (.bool true) ∧ J (pre ++ [x]) W' ∧ KeptBut Mine W1 W' ∧ KeepsFrom W.heap.size W1 W') ∨ (e = .returned (.bool false) ∧ Jx (pre ++ [x]) W' ∧ KeepsFrom W.heap.size W1 W')) := hY
  have HJ : Hid (OwnFrom W.heap.size J) := hJ
  have H0 : Hid (J [] W) := h0
  have HSB : Hid (S bw ∧ S wg) := ⟨hbw, hS2 wg hwg⟩
  clear hcw hu hw0 hS2 hM hN hY hJ h0 hJx hW hwg
  refine callsIn_of_wp Try.func83 rfl trivial ?_ rfl
  simp only [Try.ntmps83, List.size_toArray, List.length_cons, List.length_nil, Nat.reduceAdd, Nat.reduceSub, Array.replicate_succ, Array.replicate_zero, List.push_toArray, List.append_toArray, List.nil_append, List.cons_append]
  gi_wp2
  gi_loopw [3] (fun i wr => ∃ k : Nat, k ≤ ws.length - 1 ∧ i = .int .i64 ((k : Int) + 1) ∧ Hid (J (pairsT ws k) wr ∧ KeptBut Mine W wr)) (fun i _ => ws.length - (intOf i).toNat)
  case atStart => exact ⟨0, Nat.zero_le _, rfl, H0.out, KeptBut.refl _ _⟩
  case round =>
    obtain ⟨k, hk, rfl, HI⟩ := hrel
    have cwr : wr.cell? ⟨bw, 0, none⟩ = some (.slice (some ⟨wg, 0, none⟩) ws.length wcap) := HI.out.2.cell cw (HNM.out bw HSB.out.1)
    by_cases hlt : k < ws.length - 1
    · have hlt' : (k : Int) + 1 < (ws.length : Int) := by omega
      have hk1 : k < ws.length := by omega
      have hk2 : k + 1 < ws.length := by omega
      have hk1' : (k : Int) < (ws.length : Int) := by omega
      have hdr : Below wr.heap.size wr wr.drew := (Below.refl _ wr).drew
      have HPS : Hid (pairsT ws (k + 1) = pairsT ws k ++ [(ws.getD k 0, ws.getD (k + 1) 0)]) := pairsT_succ ws k
      have HS : Hid (wr.drew.cell? ⟨bw, 0, none⟩ = some (.slice (some ⟨wg, 0, none⟩) ws.length wcap) ∧ wr.drew.cell? ⟨wg, k, none⟩ = some (.int .i64 (ws.getD k 0)) ∧ wr.drew.cell? ⟨wg, k + 1, none⟩ = some (.int .i64 (ws.getD (k + 1) 0))) :=
        ⟨cwr, HI.out.2.cell (HC.out k hk1) (HNM.out wg HSB.out.2), HI.out.2.cell (HC.out (k + 1) hk2) (HNM.out wg HSB.out.2)⟩
      obtain ⟨fn, tmps, assign, body, hy, hR⟩ := HY.out (pairsT ws k) (ws.getD k 0, ws.getD (k + 1) 0) wr.drew (own_on HJ.out HI.out.1 hdr) (by rw [← HPS.out]; exact pairsT_pre ws (by omega))
      dsimp only at hy
      generalize ws.getD k 0 = x at *
      generalize ws.getD (k + 1) 0 = y at *
      have hwr : IntKind.i64.wrap (k : Int) = (k : Int) := by rw [IntKind.wrap_i64]; omega
      have hge0 : ¬ ((k : Int) + 1 < 0) := by omega
      have hnat : ((k : Int) + 1).toNat = k + 1 := by omega
      have hcast : ((k + 1 : Nat) : Int) = (k : Int) + 1 := by omega
      clear HC HY HNM H0
      gi_wp2
      refine region_outRound (S := (fun w' : World => w'.cell? ⟨bw, 0, none⟩ = some (.slice (some ⟨wg, 0, none⟩) ws.length wcap) ∧ w'.cell? ⟨wg, k, none⟩ = some (.int .i64 x) ∧ w'.cell? ⟨wg, k + 1, none⟩ = some (.int .i64 y))) 10 (by kernel_rfl) ?_ (fun hHeld => ?_)
      · exact HS.out
      refine roundRead 0 (some 10) (.func (.yield ll) #[] #[]) rfl rfl (by kernel_rfl) (by kernel_rfl) (by kernel_rfl) (by kernel_rfl) (fun _ _ _ h => h) (by kernel_rfl) (by assumption) ?_ ?_
      · intro w hSw
        (try dsimp only at hSw)
        go_simp
      simp only [Act.put, List.setIfInBounds_toArray, List.set_cons_zero, List.set_cons_succ]
      refine roundRead 1 (some 11) (.slice (some ⟨wg, 0, none⟩) ws.length wcap) rfl rfl (by kernel_rfl) (by kernel_rfl) (by kernel_rfl) (by kernel_rfl) (fun _ _ _ h => h) (by kernel_rfl) (by assumption) ?_ ?_
      · intro w hSw
        (try dsimp only at hSw)
        go_simp
      simp only [Act.put, List.setIfInBounds_toArray, List.set_cons_zero, List.set_cons_succ]
      refine roundRead 2 (some 12) (.int .i64 ((k : Int) + 1)) rfl rfl (by kernel_rfl) (by kernel_rfl) (by kernel_rfl) (by kernel_rfl) (fun _ _ _ h => h) (by kernel_rfl) (by assumption) ?_ ?_
      · intro w hSw
        (try dsimp only at hSw)
        go_simp
      simp only [Act.put, List.setIfInBounds_toArray, List.set_cons_zero, List.set_cons_succ]
      refine roundRead 3 (some 13) (.int .i64 (k : Int)) rfl rfl (by kernel_rfl) (by kernel_rfl) (by kernel_rfl) (by kernel_rfl) (fun _ _ _ h => h) (by kernel_rfl) (by assumption) ?_ ?_
      · intro w hSw
        (try dsimp only at hSw)
        go_simp
      simp only [Act.put, List.setIfInBounds_toArray, List.set_cons_zero, List.set_cons_succ]
      refine roundRead 4 (some 14) (.pointer (some ⟨wg, k, none⟩)) rfl rfl (by kernel_rfl) (by kernel_rfl) (by kernel_rfl) (by kernel_rfl) (fun _ _ _ h => h) (by kernel_rfl) (by assumption) ?_ ?_
      · intro w hSw
        (try dsimp only at hSw)
        go_simp
      simp only [Act.put, List.setIfInBounds_toArray, List.set_cons_zero, List.set_cons_succ]
      refine roundRead 5 (some 15) (.int .i64 x) rfl rfl (by kernel_rfl) (by kernel_rfl) (by kernel_rfl) (by kernel_rfl) (fun _ _ _ h => h) (by kernel_rfl) (by assumption) ?_ ?_
      · intro w hSw
        (try dsimp only at hSw)
        go_simp
      simp only [Act.put, List.setIfInBounds_toArray, List.set_cons_zero, List.set_cons_succ]
      refine roundRead 6 (some 16) (.slice (some ⟨wg, 0, none⟩) ws.length wcap) rfl rfl (by kernel_rfl) (by kernel_rfl) (by kernel_rfl) (by kernel_rfl) (fun _ _ _ h => h) (by kernel_rfl) (by assumption) ?_ ?_
      · intro w hSw
        (try dsimp only at hSw)
        go_simp
      simp only [Act.put, List.setIfInBounds_toArray, List.set_cons_zero, List.set_cons_succ]
      refine roundRead 7 (some 17) (.int .i64 ((k : Int) + 1)) rfl rfl (by kernel_rfl) (by kernel_rfl) (by kernel_rfl) (by kernel_rfl) (fun _ _ _ h => h) (by kernel_rfl) (by assumption) ?_ ?_
      · intro w hSw
        (try dsimp only at hSw)
        go_simp
      simp only [Act.put, List.setIfInBounds_toArray, List.set_cons_zero, List.set_cons_succ]
      refine roundRead 8 (some 18) (.pointer (some ⟨wg, k + 1, none⟩)) rfl rfl (by kernel_rfl) (by kernel_rfl) (by kernel_rfl) (by kernel_rfl) (fun _ _ _ h => h) (by kernel_rfl) (by assumption) ?_ ?_
      · intro w hSw
        (try dsimp only at hSw)
        go_simp
      simp only [Act.put, List.setIfInBounds_toArray, List.set_cons_zero, List.set_cons_succ]
      refine roundRead 9 (some 19) (.int .i64 y) rfl rfl (by kernel_rfl) (by kernel_rfl) (by kernel_rfl) (by kernel_rfl) (fun _ _ _ h => h) (by kernel_rfl) (by assumption) ?_ ?_
      · intro w hSw
        (try dsimp only at hSw)
        go_simp
      simp only [Act.put, List.setIfInBounds_toArray, List.set_cons_zero, List.set_cons_succ]
      refine roundYield 10 (some 20) ll #[.int .i64 x, .int .i64 y] (by kernel_rfl) rfl rfl (.inl (by kernel_rfl)) (by kernel_rfl) hy (fun hq => by simp [go_sem, hq]) ((hR _).mono ?_)
      rintro e W3 (⟨rfl, hj3, hk3, -⟩ | ⟨rfl, hx3, -⟩)
      · refine ⟨_, rfl, ?_⟩
        simp only [Act.put, List.setIfInBounds_toArray, List.set_cons_zero, List.set_cons_succ]
        refine roundValue 11 (some 21) (.bool false) W3 (by kernel_rfl) rfl rfl (.inl (by kernel_rfl)) (by kernel_rfl) (by go_simp) ?_
        simp only [Act.put, List.setIfInBounds_toArray, List.set_cons_zero, List.set_cons_succ]
        refine wpAnyR.done (by kernel_rfl) ?_ _
        have HF : Hid (J (pairsT ws (k + 1)) W3 ∧ KeptBut Mine W W3) := ⟨by rw [HPS.out]; exact hj3, (HI.out.2.trans (KeptBut.below HM.out HI.out.1 HI.out.2.1 hdr)).trans hk3⟩
        clear hj3 hk3 HS hR hy HI HPS
        gi_wp2
        go_roundw
        case rel => exact ⟨k + 1, by omega, by go_num, HF.out⟩
        case measure => simp [intOf]; omega
      · refine ⟨_, rfl, ?_⟩
        simp only [Act.put, List.setIfInBounds_toArray, List.set_cons_zero, List.set_cons_succ]
        refine roundValue 11 (some 21) (.bool true) W3 (by kernel_rfl) rfl rfl (.inl (by kernel_rfl)) (by kernel_rfl) (by go_simp) ?_
        simp only [Act.put, List.setIfInBounds_toArray, List.set_cons_zero, List.set_cons_succ]
        refine wpAnyR.done (by kernel_rfl) ?_ _
        have HF : Hid (∃ p, Jx p W3) := ⟨_, hx3⟩
        clear hx3 HS hR hy HI HPS
        gi_wp2
        refine bodyPost_ret (results_none rfl _ _ _) rfl ?_
        exact ⟨⟨_, rfl⟩, .inr HF.out⟩
    · have e : k = ws.length - 1 := by omega
      have HE : Hid (J (pairsT ws (ws.length - 1)) wr) := by rw [← e]; exact HI.out.1
      have hge : ¬ ((k : Int) + 1 < (ws.length : Int)) := by omega
      clear HI HY H0 HC
      gi_wp2
      go_end0
      exact ⟨⟨_, rfl⟩, .inl HE.out⟩
end Go.Proofs.Ythlbmkefjjckaad

/-
  'costOver': what an iterator over steps costs.
-/
namespace Go.Proofs.Ythlbmkefjjckaad
open Go.RowKit
set_option linter.unusedVariables false
attribute [local go_sem] Oper.semAt_some wide_fn

/-- What steps cost together, and whether each of them costs something. -/
def sumX (l : List EdD) : List (Int × Int) → Int
  | [] => 0
  | x :: r => costB l x.1 x.2 + sumX l r
def okX (l : List EdD) (xs : List (Int × Int)) : Bool := xs.all fun x => decide (costB l x.1 x.2 ≠ 0)
theorem sumX_app (l : List EdD) : ∀ p q : List (Int × Int), sumX l (p ++ q) = sumX l p + sumX l q
  | [], q => by simp [sumX]
  | x :: p, q => by rw [List.cons_append, sumX, sumX, sumX_app l p q]; omega
theorem sumX_snoc (l : List EdD) (p : List (Int × Int)) (x : Int × Int) : sumX l (p ++ [x]) = sumX l p + costB l x.1 x.2 := by rw [sumX_app]; simp [sumX]
theorem okX_snoc (l : List EdD) (p : List (Int × Int)) (x : Int × Int) : okX l (p ++ [x]) = (okX l p && decide (costB l x.1 x.2 ≠ 0)) := by simp [okX]
theorem okX_no (l : List EdD) {p xs : List (Int × Int)} {x : Int × Int} (h : p ++ [x] <+: xs) (h0 : costB l x.1 x.2 = 0) : okX l xs = false := by
  obtain ⟨t, rfl⟩ := h
  unfold okX
  simp [List.all_append, h0]
theorem sumX_low {n : Int} {l : List EdD} (hf : FitEd n l) : ∀ p : List (Int × Int), 0 ≤ sumX l p ∧ sumX l p ≤ 100 * p.length
  | [] => by simp [sumX]
  | x :: p => by
    have h1 := sumX_low hf p
    have h2 := costB_low hf x.1 x.2
    rw [sumX, List.length_cons]
    omega
def CostPost (W : World) (z : Int) (ok : Bool) (e : Ending) (W' : World) : Prop := e = .returned (.tuple #[.int .i64 z, .bool ok]) ∧ Below W.heap.size W W'
theorem resCost (tmps : Array Value) (W : World) (b4 b5 : Nat) (z : Int) (q : Bool) (h4 : tmps[4]?.getD undef = .pointer (some ⟨b4, 0, none⟩)) (h5 : tmps[5]?.getD undef = .pointer (some ⟨b5, 0, none⟩)) (c4 : W.cell? ⟨b4, 0, none⟩ = some (.int .i64 z)) (c5 : W.cell? ⟨b5, 0, none⟩ = some (.bool q)) :
    (results Try.f51 tmps).run Try.prog W = .ok (.tuple #[.int .i64 z, .bool q]) W := by
  simp [results, Try.f51, go_sem, h4, h5, c4, c5]
/-- What lies in the cells when so many steps have come. -/
def CostI (l : List EdD) (W : World) (b6 : Nat) (v : Value) (pre : List (Int × Int)) (w : World) : Prop :=
  Boxed w W.heap.size 23 v ∧ Boxed w (W.heap.size + 1) 3 (.int .i64 0) ∧ Boxed w (W.heap.size + 1 + 1) 4 (.bool false) ∧ Boxed w b6 3 (.int .i64 (sumX l pre)) ∧ okX l pre = true ∧ Since W.heap.size W w
theorem fin2 {W w : World} {b6 b7 : Nat} {x y : Value} {z : Int} {q : Bool} (h6 : Boxed w b6 3 x) (h7 : Boxed w b7 4 y) (hne : b6 ≠ b7) (hb : Below W.heap.size W w) (l6 : W.heap.size ≤ b6) (l7 : W.heap.size ≤ b7) :
    ((w.setCell ⟨b6, 0, none⟩ (.int .i64 z)).setCell ⟨b7, 0, none⟩ (.bool q)).cell? ⟨b6, 0, none⟩ = some (.int .i64 z) ∧ ((w.setCell ⟨b6, 0, none⟩ (.int .i64 z)).setCell ⟨b7, 0, none⟩ (.bool q)).cell? ⟨b7, 0, none⟩ = some (.bool q) ∧ Below W.heap.size W ((w.setCell ⟨b6, 0, none⟩ (.int .i64 z)).setCell ⟨b7, 0, none⟩ (.bool q)) :=
  ⟨((h6.set (.int .i64 z)).other hne (.bool q)).cell, ((h7.other (Ne.symm hne) (.int .i64 z)).set (.bool q)).cell, (hb.setCell (p := ⟨b6, 0, none⟩) l6 _).setCell (p := ⟨b7, 0, none⟩) l7 _⟩


set_option maxRecDepth 100000 in
set_option maxHeartbeats 8000000 in
theorem costOver_any (W : World) (v : Value) (n : Int) (l : List EdD) (gf : Nat) (lb : Array Value) (S : Nat → Prop) (xs : List (Int × Int)) (h : ReadsEd W v l) (hf : FitEd n l) (hl : l.length ≤ 2097152)
    (heg : ∀ args w, (callFunc gf args).run Try.prog w = .ok (.enter gf args) w) (hseq : SeqO Try.prog gf lb (fun p : Int × Int => #[.int .i64 p.1, .int .i64 p.2]) S xs W) (hS : ∀ b, S b → b < W.heap.size) (hxl : xs.length ≤ 1000000) :
    Calls Try.prog 51 #[v, .func (.func gf) #[] lb] W (CostPost W (if okX l xs then sumX l xs else 0) (okX l xs)) := by
  have CB : Hid (∀ (w' : World) (x y : Int), Since W.heap.size W w' → Calls Try.prog 82 #[v, .int .i64 x, .int .i64 y] w' fun e w2 => e = .returned (.int .i64 (costB l x y)) ∧ Below w'.heap.size w' w2) := fun w' x y hs => costB_any w' v l x y (h.below hs.1) hl
  have HLOW : Hid ((∀ x y, 0 ≤ costB l x y ∧ costB l x y ≤ 100) ∧ ∀ p : List (Int × Int), 0 ≤ sumX l p ∧ sumX l p ≤ 100 * p.length) := ⟨fun x y => costB_low hf x y, sumX_low hf⟩
  obtain ⟨a1, c1, rfl⟩ := h.shape
  clear h
  obtain ⟨out, hout⟩ : ∃ out, out = if okX l xs then sumX l xs else 0 := ⟨_, rfl⟩
  have HOUT : Hid ((okX l xs = true → out = sumX l xs) ∧ (okX l xs = false → out = 0)) := ⟨fun e => by rw [hout, e]; rfl, fun e => by rw [hout, e]; rfl⟩
  rw [← hout]
  clear hout
  refine callsIn_wide (n := 9) |>.1 ?_
  refine callsIn_of_wp_marks Try.func51 rfl trivial ?_ rfl
  simp only [Try.ntmps51, List.size_toArray, List.length_cons, List.length_nil, Nat.reduceAdd, Nat.reduceSub, Array.replicate_succ, Array.replicate_zero, List.push_toArray, List.append_toArray, List.nil_append, List.cons_append]
  gi_wp2
  obtain ⟨W2, hW2⟩ : ∃ W2, W2 = (((W.alloc (.cells #[.slice a1 l.length c1] 23)).alloc (.cells #[.int .i64 0] 3)).alloc (.cells #[.bool false] 4)).alloc (.cells #[.int .i64 0] 3) := ⟨_, rfl⟩
  have hsz : W2.heap.size = W.heap.size + 4 := by rw [hW2]; simp
  have S2 : Since W.heap.size W W2 := by
    rw [hW2]
    exact ⟨((((Below.refl _ W).alloc (Nat.le_refl _) _).alloc (by simp) _).alloc (by simp; omega) _).alloc (by simp; omega) _, by simp; omega⟩
  have D4 : Boxed W2 W.heap.size 23 (.slice a1 l.length c1) := by rw [hW2]; exact (((Boxed.new W _ _).alloc _).alloc _).alloc _
  have D6 : Boxed W2 (W.heap.size + 1) 3 (.int .i64 0) := by
    rw [hW2]
    have := ((Boxed.new (W.alloc (.cells #[.slice a1 l.length c1] 23)) 3 (.int .i64 0)).alloc (.cells #[.bool false] 4)).alloc (.cells #[.int .i64 0] 3)
    rwa [World.size_alloc] at this
  have D7 : Boxed W2 (W.heap.size + 1 + 1) 4 (.bool false) := by
    rw [hW2]
    have := (Boxed.new ((W.alloc (.cells #[.slice a1 l.length c1] 23)).alloc (.cells #[.int .i64 0] 3)) 4 (.bool false)).alloc (.cells #[.int .i64 0] 3)
    rwa [World.size_alloc, World.size_alloc] at this
  have H8 : Boxed W2 (W.heap.size + 1 + 1 + 1) 3 (.int .i64 0) := by
    rw [hW2]
    have := Boxed.new (((W.alloc (.cells #[.slice a1 l.length c1] 23)).alloc (.cells #[.int .i64 0] 3)).alloc (.cells #[.bool false] 4)) 3 (.int .i64 0)
    rwa [World.size_alloc, World.size_alloc, World.size_alloc] at this
  rw [← hW2]
  clear hW2
  have h00 : CostI l W (W.heap.size + 1 + 1 + 1) (.slice a1 l.length c1) [] W2 := ⟨D4, D6, D7, H8, rfl, S2⟩
  refine wp_range (w0 := W) (xs := xs) (encs := fun p : Int × Int => #[.int .i64 p.1, .int .i64 p.2]) (S := S) (gf := gf) (lb := lb) rfl heg hseq S2.1
    (CostI l W (W.heap.size + 1 + 1 + 1) (.slice a1 l.length c1)) (fun w b => (b = W.heap.size + 1 ∨ b = W.heap.size + 1 + 1 ∨ b = W.heap.size + 1 + 1 + 1) ∧ b < w.heap.size) ⟨fun _ _ _ _ h => h.2, fun _ X Y row b _ hX _ _ h => ⟨h.1, by have := h.1; omega⟩⟩
    (fun b hb q => by have := q.1; have := hS b hb; omega) (fun _ => rfl)
    (fun c pre w => c = .ret ∧ Boxed w (W.heap.size + 1) 3 (.int .i64 0) ∧ Boxed w (W.heap.size + 1 + 1) 4 (.bool false) ∧ okX l xs = false ∧ Since W.heap.size W w)
    (fun s X Y row hs hg hr => ⟨boxed_own (β := Unit) _ _ (fun _ => _) () X Y row hs.1 hg (fun r e => (hr r e).2), boxed_own (β := Unit) _ _ (fun _ => _) () X Y row hs.2.1 hg (fun r e => (hr r e).2), boxed_own (β := Unit) _ _ (fun _ => _) () X Y row hs.2.2.1 hg (fun r e => (hr r e).2), boxed_own (β := Unit) _ _ (fun _ => _) () X Y row hs.2.2.2.1 hg (fun r e => (hr r e).2), hs.2.2.2.2.1, since_from (β := Unit) (Nat.le_refl _) (by omega) () X Y row hs.2.2.2.2.2 hg hr⟩)
    (fun c s X Y row hs hg hr => ⟨hs.1, boxed_own (β := Unit) _ _ (fun _ => _) () X Y row hs.2.1 hg (fun r e => (hr r e).2), boxed_own (β := Unit) _ _ (fun _ => _) () X Y row hs.2.2.1 hg (fun r e => (hr r e).2), hs.2.2.2.1, since_from (β := Unit) (Nat.le_refl _) (by omega) () X Y row hs.2.2.2.2 hg hr⟩)
    h00
    (fun x => { tmps := #[.slice a1 l.length c1, .func (.func gf) #[] lb, .pointer (some ⟨W.heap.size, 0, none⟩), undef, .pointer (some ⟨W.heap.size + 1, 0, none⟩), .pointer (some ⟨W.heap.size + 1 + 1, 0, none⟩), .pointer (some ⟨W.heap.size + 1 + 1 + 1, 0, none⟩), .int .i64 x.1, .int .i64 x.2, undef, .func (.func gf) #[] lb, .int .i64 x.1, .int .i64 x.2, undef, undef, undef, undef, undef, undef, undef, undef, undef, undef], defers := [] }) ?assign ?body ?done ?stop
  case assign =>
    intro l2 x Wx K hK
    gi_wp2
    exact hK
  case body =>
    rintro l2 pre ⟨x, y⟩ wr ⟨E4, E6, E7, E8, hok, hs⟩ hpre hsx
    have hlen : pre.length ≤ 1000000 := by
      have := hpre.length_le
      simp at this
      omega
    have hlow := HLOW.out.1 x y
    have hsum := HLOW.out.2 pre
    have HNO : Hid (costB l x y = 0 → okX l xs = false) := okX_no l hpre
    have HSN : Hid (sumX l (pre ++ [(x, y)]) = sumX l pre + costB l x y ∧ okX l (pre ++ [(x, y)]) = (okX l pre && decide (costB l x y ≠ 0))) := ⟨sumX_snoc l pre (x, y), okX_snoc l pre (x, y)⟩
    have CB1 : Hid (Calls Try.prog 82 #[.slice a1 l.length c1, .int .i64 x, .int .i64 y] wr fun e w2 => e = .returned (.int .i64 (costB l x y)) ∧ Below wr.heap.size wr w2) := CB.out wr x y hs
    have k4 := E4.cell
    clear hpre
    generalize costB l x y = c at *
    obtain ⟨sm, hsm⟩ : ∃ sm, sm = sumX l pre := ⟨_, rfl⟩
    rw [← hsm] at E8 hsum
    refine wpIn_block ?_
    by_cases hc : c = 0
    · have HNO1 : Hid (okX l xs = false) := HNO.out hc
      have t1 : (c == 0) = true := by simpa using hc
      clear hc HNO HSN
      gi_wp2_with (gi_at_call 82; refine (CallsIn.inRound l2 (callsIn_wide.2 CB1.out)).mono ?_; rintro e w5 ⟨rfl, hb5⟩; have HB5 : Hid (Boxed w5 (W.heap.size + 1) 3 (.int .i64 0) ∧ Boxed w5 (W.heap.size + 1 + 1) 4 (.bool false) ∧ Since W.heap.size W w5 ∧ Below wr.heap.size wr w5) := ⟨(hb5.block _ E6.lt).trans E6, (hb5.block _ E7.lt).trans E7, hs.step hb5, hb5⟩; have k6 := HB5.out.1.cell; have f6 := HB5.out.1.frozen; have k7 := HB5.out.2.1.cell; have f7 := HB5.out.2.1.frozen; clear hb5)
      refine ⟨(KeepsOthers.of_grownBy (below_grown HB5.out.2.2.2) (fun j o e => by cases e)).from _ |>.trans (((KeepsOthers.setCell _ _ _).trans (KeepsOthers.setCell _ _ _)).from _), rfl, ((HB5.out.1.set _).other (by omega) _), ((HB5.out.2.1.other (by omega) _).set _), HNO1.out, ⟨(HB5.out.2.2.1.1.setCell (p := ⟨_, 0, none⟩) (by show W.heap.size ≤ W.heap.size + 1; omega) _).setCell (p := ⟨_, 0, none⟩) (by show W.heap.size ≤ W.heap.size + 1 + 1; omega) _, by have := HB5.out.2.2.1.2; simpa [World.setCell] using this⟩⟩
    · have t1 : (c == 0) = false := by simpa using hc
      have hwr : IntKind.i64.wrap (sm + c) = sm + c := by rw [IntKind.wrap_i64]; omega
      have HOK : Hid (okX l (pre ++ [(x, y)]) = true) := by
        show _ = _
        rw [HSN.out.2, hok, decide_eq_true hc]
        rfl
      have HSM : Hid (sumX l (pre ++ [(x, y)]) = sm + c) := by
        show _ = _
        rw [HSN.out.1, ← hsm]
      clear hc hsm HNO HSN
      gi_wp2_with (gi_at_call 82; refine (CallsIn.inRound l2 (callsIn_wide.2 CB1.out)).mono ?_; rintro e w5 ⟨rfl, hb5⟩; have HB5 : Hid (Boxed w5 W.heap.size 23 (.slice a1 l.length c1) ∧ Boxed w5 (W.heap.size + 1) 3 (.int .i64 0) ∧ Boxed w5 (W.heap.size + 1 + 1) 4 (.bool false) ∧ Boxed w5 (W.heap.size + 1 + 1 + 1) 3 (.int .i64 sm) ∧ Since W.heap.size W w5 ∧ Below wr.heap.size wr w5) := ⟨(hb5.block _ E4.lt).trans E4, (hb5.block _ E6.lt).trans E6, (hb5.block _ E7.lt).trans E7, (hb5.block _ E8.lt).trans E8, hs.step hb5, hb5⟩; have k8 := HB5.out.2.2.2.1.cell; have f8 := HB5.out.2.2.2.1.frozen; clear hb5)
      obtain ⟨F4, F6, F7, F8, hs5, hbb⟩ := HB5.out
      refine ⟨(KeepsOthers.of_grownBy (below_grown hbb) (fun j o e => by cases e)).from _ |>.trans ((KeepsOthers.setCell _ _ _).from _), ⟨?_, fun b o hbo hoc hm => ⟨?_, fun q => hm ⟨q.1, (Array.getElem?_eq_some_iff.1 hbo).1⟩⟩⟩, F4.other (by omega) _, F6.other (by omega) _, F7.other (by omega) _, ?_, ?_, ⟨hs5.1.setCell (p := ⟨_, 0, none⟩) (by show W.heap.size ≤ W.heap.size + 1 + 1 + 1; omega) _, by have := hs5.2; simpa [World.setCell] using this⟩⟩
      · have := hbb.size
        simpa [World.setCell] using this
      · have hlt := (Array.getElem?_eq_some_iff.1 hbo).1
        exact (Below.heap_setCell w5 ⟨W.heap.size + 1 + 1 + 1, 0, none⟩ _ b (fun e => hm ⟨.inr (.inr e), hlt⟩)).trans ((hbb.block b hlt).trans hbo)
      · rw [HSM.out]
        exact F8.set _
      · exact HOK.out
  case done =>
    rintro D Wx hD ⟨E4, E6, E7, E8, hok, hs⟩ hd
    have HO : out = sumX l xs := HOUT.out.1 hok
    have k8 := E8.cell
    have k6 := E6.cell
    have f6 := E6.frozen
    have k7 := E7.cell
    have f7 := E7.frozen
    have HE : Hid (Boxed Wx (W.heap.size + 1) 3 (.int .i64 0) ∧ Boxed Wx (W.heap.size + 1 + 1) 4 (.bool false) ∧ Since W.heap.size W Wx ∧ Wx.heap[D]? = some (.deferred (some [])) ∧ okX l xs = true) := ⟨E6, E7, hs, hd, hok⟩
    clear E4 E6 E7 E8 hs hd hok
    gi_wp2
    obtain ⟨E6, E7, hs, hd, hok⟩ := HE.out
    obtain ⟨q6, q7, qb⟩ := fin2 (z := sumX l xs) (q := true) E6 E7 (by omega) hs.1 (by omega) (by omega)
    have hd' := ((KeepsOthers.setCell Wx ⟨W.heap.size + 1, 0, none⟩ (.int .i64 (sumX l xs))).trans (KeepsOthers.setCell _ ⟨W.heap.size + 1 + 1, 0, none⟩ (.bool true))).same D _ hd rfl
    refine ⟨by simp, .inl ⟨_, _, rfl, run_takeDeferred hd', ?_⟩⟩
    have hgp := grownBy_putObj' ((Wx.setCell ⟨W.heap.size + 1, 0, none⟩ (.int .i64 (sumX l xs))).setCell ⟨W.heap.size + 1 + 1, 0, none⟩ (.bool true)) D (.deferred none)
    exact ⟨_, resCost _ _ _ _ _ _ rfl rfl (cell_kept q6 hgp (fun r e => by cases e; exact ⟨_, hd', rfl⟩)) (cell_kept q7 hgp (fun r e => by cases e; exact ⟨_, hd', rfl⟩)), by rw [HO, hok], qb.grown hgp (by have := hs.2; simpa [World.setCell] using this) (fun k e => by cases e; omega)⟩
  case stop =>
    rintro D c pre Wx hD ⟨rfl, E6, E7, hok, hs⟩ hd
    have HO : out = 0 := HOUT.out.2 hok
    have HE : Hid (Boxed Wx (W.heap.size + 1) 3 (.int .i64 0) ∧ Boxed Wx (W.heap.size + 1 + 1) 4 (.bool false) ∧ Since W.heap.size W Wx ∧ Wx.heap[D]? = some (.deferred (some [])) ∧ okX l xs = false) := ⟨E6, E7, hs, hd, hok⟩
    clear E6 E7 hs hd hok
    gi_wp2
    obtain ⟨E6, E7, hs, hd, hok⟩ := HE.out
    refine ⟨by simp, .inl ⟨_, _, rfl, run_takeDeferred hd, ?_⟩⟩
    have hgp := grownBy_putObj' Wx D (.deferred none)
    exact ⟨_, resCost _ _ _ _ _ _ rfl rfl (cell_kept E6.cell hgp (fun r e => by cases e; exact ⟨_, hd, rfl⟩)) (cell_kept E7.cell hgp (fun r e => by cases e; exact ⟨_, hd, rfl⟩)), by rw [HO, hok], hs.1.grown hgp hs.2 (fun k e => by cases e; omega)⟩
end Go.Proofs.Ythlbmkefjjckaad

/-
  'CostOf' of the program.
-/
namespace Go.Proofs.Ythlbmkefjjckaad
open Go.RowKit
set_option linter.unusedVariables false

def stepC (l : List EdD) (ws : List Int) (j : Nat) : Int := costB l (ws.getD j 0) (ws.getD (j + 1) 0)
def sumC (l : List EdD) (ws : List Int) : Nat → Int
  | 0 => 0
  | k + 1 => sumC l ws k + stepC l ws k
def okC (l : List EdD) (ws : List Int) : Nat → Bool
  | 0 => true
  | k + 1 => okC l ws k && decide (stepC l ws k ≠ 0)
def pathOk (n : Int) (l : List EdD) (ws : List Int) : Bool := goodEd n l && decide (1 ≤ ws.length ∧ ws.length ≤ 12) && decide (0 ≤ ws.getD 0 0 ∧ ws.getD 0 0 < n) && okC l ws (ws.length - 1)
def pathCost (n : Int) (l : List EdD) (ws : List Int) : Int := if pathOk n l ws then sumC l ws (ws.length - 1) else 0
theorem okC_no (l : List EdD) (ws : List Int) (k : Nat) (h : stepC l ws k = 0) : ∀ m, k < m → okC l ws m = false
  | 0, hm => by omega
  | m + 1, hm => by
    rw [okC]
    by_cases e : k = m
    · rw [← e, decide_eq_false (not_not_intro h), Bool.and_false]
    · rw [okC_no l ws k h m (by omega), Bool.false_and]
theorem sumC_low {n : Int} {l : List EdD} (hf : FitEd n l) (ws : List Int) : ∀ k : Nat, 0 ≤ sumC l ws k ∧ sumC l ws k ≤ 100 * k
  | 0 => by simp [sumC]
  | k + 1 => by
    have h1 := sumC_low hf ws k
    have h2 := costB_low hf (ws.getD k 0) (ws.getD (k + 1) 0)
    rw [sumC]
    unfold stepC
    omega
theorem getD_atC (zs : List Int) (j : Nat) (h : j < zs.length) : zs.getD j 0 = zs[j] := by simp [List.getD_eq_getElem?_getD, h]
theorem sumX_pairs (l : List EdD) (ws : List Int) : ∀ k, sumX l (pairsT ws k) = sumC l ws k
  | 0 => rfl
  | k + 1 => by rw [pairsT_succ, sumX_snoc, sumX_pairs l ws k]; rfl
theorem okX_pairs (l : List EdD) (ws : List Int) : ∀ k, okX l (pairsT ws k) = okC l ws k
  | 0 => rfl
  | k + 1 => by rw [pairsT_succ, okX_snoc, okX_pairs l ws k]; rfl

set_option maxRecDepth 100000 in
set_option maxHeartbeats 8000000 in
theorem implCostOf_any (W : World) (B : Nat) (v u : Value) (n : Int) (l : List EdD) (ws : List Int) (h : ReadsEd W v l) (hu : Own W B u ws) (hl : l.length ≤ 2097152) (hwl : ws.length ≤ 1048576) :
    Calls Try.prog 16 #[.int .i64 n, v, u] W (CostPost W (pathCost n l ws) (pathOk n l ws)) := by
  have CG : Hid (Calls Try.prog 42 #[.int .i64 n, v] W fun e w2 => e = .returned (.bool (goodEd n l)) ∧ Below W.heap.size W w2) := implGoodEd_any W v n l h hl
  have HRD : Hid (∀ w', Since W.heap.size W w' → ReadsEd w' v l) := fun w' hs => h.below hs.1
  have HUD : Hid (∀ w', Since W.heap.size W w' → Own w' B u ws) := fun w' hs => hu.below hs.1
  have HS0 : Hid (Since W.heap.size W W) := Since.start W
  obtain ⟨a1, c1, rfl⟩ := h.shape
  obtain ⟨aw, cw, rfl⟩ := hu.shape
  have HD : Hid (pathOk n l ws = (goodEd n l && decide (1 ≤ ws.length ∧ ws.length ≤ 12) && decide (0 ≤ ws.getD 0 0 ∧ ws.getD 0 0 < n) && okC l ws (ws.length - 1)) ∧ pathCost n l ws = if pathOk n l ws then sumC l ws (ws.length - 1) else 0) := ⟨rfl, rfl⟩
  generalize pathOk n l ws = ok at *
  generalize pathCost n l ws = out at *
  clear h hu
  cases hg : goodEd n l with
  | false =>
    have HF : Hid (ok = false ∧ out = 0) := by
      have h1 : ok = false := HD.out.1.trans (by rw [hg]; rfl)
      exact ⟨h1, HD.out.2.trans (by rw [h1]; rfl)⟩
    rw [hg] at CG
    clear hg HD HUD HRD
    go_enter Try.func16, Try.ntmps16
    go_wp2_with fail
    refine CG.out.mono ?_
    rintro e w1 ⟨rfl, hb1⟩
    have HS1 : Hid (Since W.heap.size W w1) := HS0.out.step hb1
    clear hb1
    go_wp2
    refine bodyPost_ret (results_tmp2 rfl _ _ _) rfl ?_
    exact ⟨by rw [HF.out.1, HF.out.2]; rfl, HS1.out.1⟩
  | true =>
    have HGT : Hid ((1 ≤ n ∧ n ≤ 12) ∧ l.length ≤ 40 ∧ FitEd n l ∧ RiseEd l) := goodEd_true hg
    rw [hg] at CG
    by_cases hl1 : ws.length < 1
    · have HF : Hid (ok = false ∧ out = 0) := by
        have h1 : ok = false := HD.out.1.trans (by rw [hg, decide_eq_false (by omega)]; rfl)
        exact ⟨h1, HD.out.2.trans (by rw [h1]; rfl)⟩
      have q1 : decide ((ws.length : Int) < 1) = true := by simp; omega
      clear hg HD HUD HRD HGT hl1
      go_enter Try.func16, Try.ntmps16
      go_wp2_with fail
      refine CG.out.mono ?_
      rintro e w1 ⟨rfl, hb1⟩
      have HS1 : Hid (Since W.heap.size W w1) := HS0.out.step hb1
      clear hb1
      go_wp2
      refine bodyPost_ret (results_tmp2 rfl _ _ _) rfl ?_
      exact ⟨by rw [HF.out.1, HF.out.2]; rfl, HS1.out.1⟩
    have q1 : decide ((ws.length : Int) < 1) = false := by simp; omega
    by_cases hl2 : 12 < ws.length
    · have HF : Hid (ok = false ∧ out = 0) := by
        have h1 : ok = false := HD.out.1.trans (by rw [hg, decide_eq_false (by omega)]; rfl)
        exact ⟨h1, HD.out.2.trans (by rw [h1]; rfl)⟩
      have q2 : decide (12 < (ws.length : Int)) = true := by simp; omega
      clear hg HD HUD HRD HGT hl1 hl2
      go_enter Try.func16, Try.ntmps16
      go_wp2_with fail
      refine CG.out.mono ?_
      rintro e w1 ⟨rfl, hb1⟩
      have HS1 : Hid (Since W.heap.size W w1) := HS0.out.step hb1
      clear hb1
      go_wp2
      refine bodyPost_ret (results_tmp2 rfl _ _ _) rfl ?_
      exact ⟨by rw [HF.out.1, HF.out.2]; rfl, HS1.out.1⟩
    have q2 : decide (12 < (ws.length : Int)) = false := by simp; omega
    have hw1 : 1 ≤ ws.length := by omega
    have hw2 : ws.length ≤ 12 := by omega
    have hpos : 0 < (ws.length : Int) := by omega
    obtain ⟨wg, rfl, HWC⟩ : ∃ wg, aw = some ⟨wg, 0, none⟩ ∧ Hid (∀ w, Since W.heap.size W w → w.cell? ⟨wg, 0, none⟩ = some (.int .i64 (ws.getD 0 0))) := by
      rcases (HUD.out W (Since.start W)).2 with ⟨hv, h0⟩ | ⟨g, cap, cur, hv, -⟩
      · omega
      · cases hv
        refine ⟨g, rfl, fun w hs => ?_⟩
        have := own_cellG (HUD.out w hs) rfl 0 (by omega)
        rw [getD_atC ws 0 (by omega)]
        exact this
    cases hsp : decide (0 ≤ ws.getD 0 0 ∧ ws.getD 0 0 < n) with
    | false =>
      have HF : Hid (ok = false ∧ out = 0) := by
        have h1 : ok = false := HD.out.1.trans (by rw [hg, hsp]; simp)
        exact ⟨h1, HD.out.2.trans (by rw [h1]; rfl)⟩
      clear hg HD HUD HRD HGT hl1 hl2
      generalize ws.getD 0 0 = x0 at *
      go_enter Try.func16, Try.ntmps16
      go_wp2_with fail
      refine CG.out.mono ?_
      rintro e w1 ⟨rfl, hb1⟩
      have HS1 : Hid (Since W.heap.size W w1) := HS0.out.step hb1
      clear hb1
      have hcx := HWC.out w1 HS1.out
      go_wp2_with fail
      refine (isSpot_any w1 x0 n).mono ?_
      rintro e ww ⟨rfl, hww⟩
      obtain rfl : w1 = ww := hww.symm
      rw [hsp]
      go_wp2
      refine bodyPost_ret (results_tmp2 rfl _ _ _) rfl ?_
      exact ⟨by rw [HF.out.1, HF.out.2]; rfl, HS1.out.1⟩
    | true =>
      have HOUT : Hid (ok = okX l (pairsT ws (ws.length - 1)) ∧ out = if okX l (pairsT ws (ws.length - 1)) then sumX l (pairsT ws (ws.length - 1)) else 0) := by
        rw [okX_pairs, sumX_pairs]
        have e : ok = okC l ws (ws.length - 1) := HD.out.1.trans (by rw [hg, hsp, decide_eq_true ⟨hw1, hw2⟩]; rfl)
        exact ⟨e, HD.out.2.trans (by rw [e])⟩
      have CO : Hid (∀ (w1 : World), Since W.heap.size W w1 → Calls Try.prog 51 #[.slice a1 l.length c1, .func (.func 83) #[] #[.pointer (some ⟨w1.heap.size, 0, none⟩)]] (w1.alloc (.cells #[.slice (some ⟨wg, 0, none⟩) ws.length cw] 26)) (CostPost (w1.alloc (.cells #[.slice (some ⟨wg, 0, none⟩) ws.length cw] 26)) out ok)) := fun w1 hs => by
        have hb : Since W.heap.size W (w1.alloc (.cells #[.slice (some ⟨wg, 0, none⟩) ws.length cw] 26)) := hs.step ((Below.refl _ w1).alloc (Nat.le_refl _) _)
        rw [HOUT.out.1, HOUT.out.2]
        exact costOver_any _ _ n l _ _ (fun b => b < W.heap.size ∨ b = w1.heap.size) _ (HRD.out _ hb) HGT.out.2.2.1 hl (enters_of Try.func83 (by kernel_rfl) rfl)
          (stepsIt_any _ w1.heap.size ws W _ B wg cw hw1 (by omega) (.inr rfl) (Boxed.new w1 _ _).cell (HUD.out W (Since.start W)) hb.1 (fun b hb => .inl hb)) (fun b hb => by have := hs.2; rcases hb with hb | hb <;> simp <;> omega) (by rw [pairsT_len]; omega)
      clear hg HD HRD HGT hl1 hl2 HUD HOUT
      generalize ws.getD 0 0 = x0 at *
      go_enter Try.func16, Try.ntmps16
      go_wp2_with fail
      refine CG.out.mono ?_
      rintro e w1 ⟨rfl, hb1⟩
      have HS1 : Hid (Since W.heap.size W w1) := HS0.out.step hb1
      clear hb1
      have hcx := HWC.out w1 HS1.out
      go_wp2_with fail
      refine (isSpot_any w1 x0 n).mono ?_
      rintro e ww ⟨rfl, hww⟩
      obtain rfl : w1 = ww := hww.symm
      rw [hsp]
      clear hcx
      go_wp2_with fail
      refine (stepsOf_any w1 (.slice (some ⟨wg, 0, none⟩) ws.length cw) ⟨_, _, _, rfl⟩).mono ?_
      rintro e w2 ⟨rfl, hw2⟩
      rw [hw2]
      clear hw2
      go_wp2_with fail
      refine (CO.out w1 HS1.out).mono ?_
      rintro e w3 ⟨rfl, hb3⟩
      have HS3 : Hid (Since W.heap.size W w3) := (HS1.out.step ((Below.refl _ w1).alloc (Nat.le_refl _) _)).step hb3
      clear hb3
      go_wp2
      refine bodyPost_ret (results_tmp2 rfl _ _ _) rfl ?_
      exact ⟨rfl, HS3.out.1⟩
end Go.Proofs.Ythlbmkefjjckaad

/-
  What is asked of trees of shortest ways: they are good; a frame comes to all of a group, to each from whom it is to come; ways over them cost what is told.
-/
namespace Go.Proofs.Ythlbmkefjjckaad
open Go.RowKit
set_option linter.unusedVariables false

/- Ways there and back. -/
theorem path_back {p : List Int} (hg : goodU p = true) {a b : Int} (ha : 0 ≤ a ∧ a < (p.length : Int)) (hb : 0 ≤ b ∧ b < (p.length : Int)) : ∀ (r : List Int) (x : Int), 0 ≤ x → x < (p.length : Int) → (x = a ∨ ∃ y : Int, (0 ≤ y ∧ y < (p.length : Int)) ∧ par2 p b y = x ∧ par2 p a x = y) → IsQ (par2 p b) b (x :: r) → IsQ (par2 p a) x (x :: r).reverse
  | [], x, h0, hx, _, _ => rfl
  | z :: r, x, h0, hx, hpre, h => by
    have hz := par2_fit hg hb.1 hb.2 h0 hx
    rw [h.1] at hz
    have hz0 := h.2.1
    have hj : par2 p a x = z ∨ par2 p a z = x := (par2_joined hg ha.1 ha.2 ⟨h0, hx⟩ ⟨hz0, hz.2⟩).1 ((par2_joined hg hb.1 hb.2 ⟨h0, hx⟩ ⟨hz0, hz.2⟩).2 (.inl h.1))
    have hback : par2 p a z = x := by
      rcases hj with q | q
      · exfalso
        rcases hpre with e | ⟨y, hy, e1, e2⟩
        · rw [e, par2_self] at q; omega
        · rw [q] at e2
          subst e2
          have r1 := rank2_lt hg hb.1 hb.2 h0 hx (by rw [h.1]; exact hz0)
          rw [h.1] at r1
          have r2 := rank2_lt hg hb.1 hb.2 hz0 hz.2 (by rw [e1]; exact h0)
          rw [e1] at r2
          omega
      · exact q
    have ih := path_back hg ha hb r z hz0 hz.2 (.inr ⟨x, ⟨h0, hx⟩, h.1, hback⟩) h.2.2
    rw [List.reverse_cons]
    cases hr : (z :: r).reverse with
    | nil => simp at hr
    | cons y s =>
      rw [hr] at ih
      exact isQ_snoc hback h0 s y ih
theorem onOut_back {p : List Int} (hg : goodU p = true) {a b : Int} (ha : 0 ≤ a ∧ a < (p.length : Int)) (hb : 0 ≤ b ∧ b < (p.length : Int)) (h : onTOk p a b = true) : IsQ (par2 p a) a (onOut p a b).reverse ∧ ∃ r, onOut p a b = a :: r := by
  obtain ⟨h1, r, hr⟩ := onOut_is hg ha.1 ha.2 hb.1 hb.2 h
  rw [hr] at h1 ⊢
  exact ⟨path_back hg ha hb r a ha.1 ha.2 (.inl rfl) h1, r, rfl⟩
theorem onT_symm {p : List Int} (hg : goodU p = true) {a b : Int} (ha : 0 ≤ a ∧ a < (p.length : Int)) (hb : 0 ≤ b ∧ b < (p.length : Int)) (h : onTOk p a b = true) : onTOk p b a = true := by
  obtain ⟨h1, r, hr⟩ := onOut_back hg ha hb h
  have hl := onOut_last hg ha.1 ha.2 hb.1 hb.2 h
  rw [meet_inT hg hb.1 hb.2 ha.1 ha.2]
  cases hs : (onOut p a b).reverse with
  | nil => rw [hr] at hs; simp at hs
  | cons y s =>
    have : y = b := by
      have e : (onOut p a b) = (y :: s).reverse := by rw [← hs, List.reverse_reverse]
      rw [e, List.reverse_cons] at hl
      simpa using hl
    subst this
    rw [hs] at h1
    exact isQ_inT hg ha.1 ha.2 s y hb.1 hb.2 h1
/-- From whom it comes is who stands ahead of it when the other one is the root. -/
theorem cf_par {p : List Int} (hg : goodU p = true) {a b : Int} (ha : 0 ≤ a ∧ a < (p.length : Int)) (hb : 0 ≤ b ∧ b < (p.length : Int)) (h : onTOk p a b = true) (hne : a ≠ b) : cfOk p a b = true ∧ cfOut p a b = par2 p a b := by
  have hok : cfOk p a b = true := by
    unfold cfOk otOk twoOk
    rw [hg, h, decide_eq_true ha, decide_eq_true hb, decide_eq_false hne]
    rfl
  refine ⟨hok, ?_⟩
  unfold cfOut
  rw [if_pos hok]
  obtain ⟨h1, r, hr⟩ := onOut_back hg ha hb h
  have hl := onOut_last hg ha.1 ha.2 hb.1 hb.2 h
  generalize onOut p a b = ws at *
  cases hs : ws.reverse with
  | nil => rw [hr] at hs; simp at hs
  | cons y s =>
    have e : ws = (y :: s).reverse := by rw [← hs, List.reverse_reverse]
    have hy : y = b := by
      rw [e, List.reverse_cons] at hl
      simpa using hl
    subst hy
    rw [hs] at h1
    cases s with
    | nil => exact absurd h1.symm hne
    | cons z s =>
      have hz := h1.1
      rw [hz, e]
      simp only [List.reverse_cons, List.length_append, List.length_reverse, List.length_cons, List.length_nil]
      rw [show s.length + (0 + 1) + (0 + 1) - 2 = s.length by omega, List.getD_eq_getElem?_getD, List.append_assoc, List.getElem?_append_right (by simp)]
      simp

/- Trees of shortest ways. -/
theorem lab_treeD {n : Nat} {l : List EdD} {r : Int} (i : Int) (h0 : 0 ≤ i) (hi : i < n) : lab (treeD n l r) i = head0 (hopsD l (fars n l r) i) := by
  obtain ⟨k, rfl⟩ : ∃ k : Nat, i = (k : Int) := ⟨i.toNat, by omega⟩
  unfold treeD treeT
  rw [lab_get _ _ (by simp [iota_len]; omega)]
  simp [iota]
theorem treeD_length (n : Nat) (l : List EdD) (r : Int) : (treeD n l r).length = n := treeT_len ..
theorem treeD_par {n : Nat} {l : List EdD} {r : Int} (hf : FitEd n l) (i : Int) (h0 : 0 ≤ i) (hi : i < n) : lab (treeD n l r) i = -1 ∧ hopsD l (fars n l r) i = [] ∨ (0 ≤ lab (treeD n l r) i ∧ lab (treeD n l r) i < n) ∧ ∃ c, Joined l i (lab (treeD n l r) i) c ∧ (1 ≤ c ∧ c ≤ 100) ∧ lab (fars n l r) (lab (treeD n l r) i) + c = lab (fars n l r) i := by
  rw [lab_treeD i h0 hi]
  cases hh : hopsD l (fars n l r) i with
  | nil => exact .inl ⟨rfl, rfl⟩
  | cons y s =>
    right
    have hm : y ∈ hopsD l (fars n l r) i := by rw [hh]; exact List.mem_cons_self ..
    obtain ⟨c, hj, he⟩ := (mem_hopsD l _ i y).1 hm
    have := hj.fit hf
    exact ⟨⟨this.2.1.1, this.2.1.2⟩, c, hj, this.2.2, he⟩
theorem treeD_good {n : Nat} {l : List EdD} {r : Int} (hn : 1 ≤ n ∧ n ≤ 12) (hf : FitEd n l) (hr : 0 ≤ r ∧ r < n) : goodU (treeD n l r) = true := by
  refine goodU_rank (by rw [treeD_length]; exact hn) (fun i h0 hi => ?_) (fun i => (lab (fars n l r) i).toNat) (fun i h0 hi hp => ?_)
  · rw [treeD_length] at hi ⊢
    rcases treeD_par (r := r) hf i h0 hi with ⟨e, -⟩ | ⟨h, -⟩
    · rw [e]; omega
    · omega
  · rw [treeD_length] at hi
    rcases treeD_par (r := r) hf i h0 hi with ⟨e, -⟩ | ⟨h, c, hj, hc, he⟩
    · omega
    · have := fars_nonneg hf hr _ h.1 h.2
      show (lab (fars n l r) (lab (treeD n l r) i)).toNat < (lab (fars n l r) i).toNat
      omega
theorem treeD_root {n : Nat} {l : List EdD} {r : Int} (hf : FitEd n l) (hr : 0 ≤ r ∧ r < n) : lab (treeD n l r) r = -1 := by
  rcases treeD_par hf r hr.1 hr.2 with ⟨e, -⟩ | ⟨h, c, hj, hc, he⟩
  · exact e
  · have := fars_nonneg hf hr _ h.1 h.2
    rw [fars_at hf hr] at he
    omega
/-- Up from whoever is reached one comes to the root. -/
theorem treeD_up {n : Nat} {l : List EdD} {r : Int} (hf : FitEd n l) (hr : 0 ≤ r ∧ r < n) : ∀ (m : Nat) (k : Int), 0 ≤ k → k < n → (lab (fars n l r) k).toNat ≤ m → lab (fars n l r) k < farC → ∃ j, upU (treeD n l r) j k = r
  | m, k, h0, hk, hm, hfar => by
    by_cases e : k = r
    · exact ⟨0, e⟩
    · rcases treeD_par (r := r) hf k h0 hk with ⟨-, q⟩ | ⟨h, c, hj, hc, he⟩
      · exact absurd ((hops_none hf hr k h0 hk hfar).1 q) e
      · have hnn := fars_nonneg hf hr _ h.1 h.2
        have hnk := fars_nonneg hf hr k h0 hk
        cases m with
        | zero => omega
        | succ m =>
          obtain ⟨j, hj2⟩ := treeD_up hf hr m _ h.1 h.2 (by omega) (by omega)
          exact ⟨j + 1, by rw [upU, parU_pos _ h0]; exact hj2⟩
theorem joined_grp {n : Int} {l : List EdD} {g : List Int} (hg : IsGrp n l g) {i k c : Int} (h : Joined l i k c) : lab g i = lab g k := by
  obtain ⟨e, he, h, -⟩ := h
  have := hg.2.1 e he
  rcases h with ⟨h1, h2⟩ | ⟨h1, h2⟩
  · rw [← h1, ← h2]; exact this
  · rw [← h1, ← h2]; exact this.symm
theorem tree_path_grp {n : Nat} {l : List EdD} {r : Int} {g : List Int} (hn : 1 ≤ n ∧ n ≤ 12) (hf : FitEd n l) (hr : 0 ≤ r ∧ r < n) (hg : IsGrp n l g) {b : Int} (hb : 0 ≤ b ∧ b < (n : Int)) : ∀ (s : List Int) (x : Int), 0 ≤ x → x < (n : Int) → IsQ (par2 (treeD n l r) b) b (x :: s) → lab g x = lab g b
  | [], x, _, _, h => by rw [show x = b from h]
  | z :: s, x, h0, hx, h => by
    have hgd := treeD_good hn hf hr
    have hl := treeD_length n l r
    have hz := par2_fit hgd (f := b) (i := x) hb.1 (by rw [hl]; exact hb.2) h0 (by rw [hl]; exact hx)
    rw [h.1, hl] at hz
    have hz0 := h.2.1
    have ih := tree_path_grp hn hf hr hg hb s z hz0 hz.2 h.2.2
    rw [← ih]
    have hj := (par2_joined hgd (f := b) hb.1 (by rw [hl]; exact hb.2) ⟨h0, by rw [hl]; exact hx⟩ ⟨hz0, by rw [hl]; exact hz.2⟩).2 (.inl h.1)
    rcases hj with q | q
    · rcases treeD_par (r := r) hf x h0 hx with ⟨e, -⟩ | ⟨-, c, hjj, -⟩
      · omega
      · rw [q] at hjj; exact joined_grp hg hjj
    · rcases treeD_par (r := r) hf z hz0 hz.2 with ⟨e, -⟩ | ⟨-, c, hjj, -⟩
      · omega
      · rw [q] at hjj; exact (joined_grp hg hjj).symm
/-- Over a tree of shortest ways just those of the root's group have ways to one another, whoever begins. -/
theorem tree_onT {n : Nat} {l : List EdD} {r : Int} {g : List Int} (hn : 1 ≤ n ∧ n ≤ 12) (hf : FitEd n l) (hr : 0 ≤ r ∧ r < n) (hg : IsGrp n l g) {a b : Int} (ha : 0 ≤ a ∧ a < (n : Int)) (hb : 0 ≤ b ∧ b < (n : Int)) (hag : lab g a = lab g r) : onTOk (treeD n l r) a b = true ↔ lab g b = lab g r := by
  have hgd := treeD_good hn hf hr
  have hl := treeD_length n l r
  have ha' : a < ((treeD n l r).length : Int) := by rw [hl]; exact ha.2
  have hb' : b < ((treeD n l r).length : Int) := by rw [hl]; exact hb.2
  constructor
  · intro h
    obtain ⟨h1, s, hs⟩ := onOut_is hgd ha.1 ha' hb.1 hb' h
    rw [hs] at h1
    rw [← tree_path_grp hn hf hr hg hb s a ha.1 ha.2 h1, hag]
  · intro hbg
    have far : ∀ k : Int, 0 ≤ k → k < n → lab g k = lab g r → lab (fars n l r) k < farC := fun k h0 hk hkg => by
      have h1 := fars_far (l := l) hr k h0 hk
      have h2 := mt (fars_groups hf hn.2 hr hg k ⟨h0, hk⟩).1 (fun q => q hkg)
      omega
    obtain ⟨j, hj⟩ := treeD_up hf hr _ a ha.1 ha.2 (Nat.le_refl _) (far a ha.1 ha.2 hag)
    obtain ⟨i, hi⟩ := treeD_up hf hr _ b hb.1 hb.2 (Nat.le_refl _) (far b hb.1 hb.2 hbg)
    have hon : onU (treeD n l r) b (upU (treeD n l r) j a) = true := by
      have h := onU_up hgd i hb.1 hb' (by rw [hi]; exact hr.1)
      rw [hi] at h; rw [hj]; exact h
    have hlt := up_lt_dep hgd j ha.1 ha' (by rw [hj]; exact hr.1)
    unfold onTOk
    cases hm : meetU (treeD n l r) a b with
    | some _ => rfl
    | none =>
      have := List.find?_eq_none.1 hm j (List.mem_range.2 hlt)
      exact absurd hon this
end Go.Proofs.Ythlbmkefjjckaad

/-
  What the law of chapter 10's frames asks, in one piece.
-/
namespace Go.Proofs.Ythlbmkefjjckaad
open Go.RowKit
set_option linter.unusedVariables false

theorem getLast_atS : ∀ (ws : List Int) (x : Int), ws.getLast? = some x → ws.getD (ws.length - 1) 0 = x
  | [], x, h => by simp at h
  | [y], x, h => by simpa using h
  | y :: z :: r, x, h => by
    rw [List.getLast?_cons_cons] at h
    have := getLast_atS (z :: r) x h
    simpa using this
theorem par2_top {p : List Int} (hg : goodU p = true) {r : Int} (hr : 0 ≤ r ∧ r < (p.length : Int)) (ht : lab p r = -1) (i : Int) (h0 : 0 ≤ i) (hi : i < (p.length : Int)) : par2 p r i = lab p i := by
  have hd : dep p r = 1 := by rw [dep_par hg hr.1 hr.2, ht, dep_neg p (by omega)]
  by_cases e : i = r
  · rw [e, par2_self, ht]
  · rw [par2_off]
    have h1 := dep_pos hg h0 hi
    cases hq : onU p r i with
    | false => rfl
    | true =>
      obtain ⟨q1, q2⟩ := (onU_iff ..).1 hq
      rw [show dep p r - dep p i = 0 by omega] at q2
      exact absurd q2.symm e
theorem isQ_get {q : Int → Int} {b n : Int} (hq : ∀ i, 0 ≤ i → i < n → q i < n) : ∀ (s : List Int) (x : Int), 0 ≤ x → x < n → IsQ q b (x :: s) → ∀ j, j < (x :: s).length → (0 ≤ (x :: s).getD j 0 ∧ (x :: s).getD j 0 < n) ∧ (j + 1 < (x :: s).length → q ((x :: s).getD j 0) = (x :: s).getD (j + 1) 0)
  | [], x, h0, hx, _, 0, _ => ⟨⟨h0, hx⟩, fun h => by simp at h⟩
  | [], x, h0, hx, _, j + 1, hj => by simp at hj
  | y :: s, x, h0, hx, h, 0, _ => ⟨⟨h0, hx⟩, fun _ => h.1⟩
  | y :: s, x, h0, hx, h, j + 1, hj => by
    have hy := hq x h0 hx
    rw [h.1] at hy
    have := isQ_get hq s y h.2.1 hy h.2.2 j (by simpa using hj)
    exact ⟨this.1, fun h => this.2 (by simpa using h)⟩
theorem rev_getD (ws : List Int) (j : Nat) (hj : j < ws.length) : ws.reverse.getD (ws.length - 1 - j) 0 = ws.getD j 0 := by
  rw [List.getD_eq_getElem?_getD, List.getD_eq_getElem?_getD, List.getElem?_reverse (by omega)]
  rw [show ws.length - 1 - (ws.length - 1 - j) = j by omega]
/-- A way whose steps go farther by what they cost. -/
structure Out (n : Int) (l : List EdD) (far : List Int) (ws : List Int) : Prop where
  fit : ∀ j, j < ws.length → 0 ≤ ws.getD j 0 ∧ ws.getD j 0 < n
  hop : ∀ j, j + 1 < ws.length → ∃ c, Joined l (ws.getD j 0) (ws.getD (j + 1) 0) c ∧ (1 ≤ c ∧ c ≤ 100) ∧ lab far (ws.getD j 0) + c = lab far (ws.getD (j + 1) 0)
theorem Out.cost {n : Int} {l : List EdD} {far ws : List Int} (hf : FitEd n l) (hr : RiseEd l) (h : Out n l far ws) : ∀ k, k + 1 ≤ ws.length → okC l ws k = true ∧ sumC l ws k + lab far (ws.getD 0 0) = lab far (ws.getD k 0)
  | 0, _ => ⟨rfl, by simp [sumC]⟩
  | k + 1, hk => by
    obtain ⟨h1, h2⟩ := Out.cost hf hr h k (by omega)
    obtain ⟨c, hj, hc, he⟩ := h.hop k (by omega)
    have e : stepC l ws k = c := costB_of hf hr hj
    refine ⟨?_, ?_⟩
    · rw [okC, h1, e, decide_eq_true (by omega)]; rfl
    · rw [sumC, e]; omega
theorem Out.rise {n : Int} {l : List EdD} {far ws : List Int} (h : Out n l far ws) (i : Nat) : ∀ d, i + d + 1 < ws.length → lab far (ws.getD i 0) < lab far (ws.getD (i + d + 1) 0)
  | 0, hd => by
    obtain ⟨c, hj, hc, he⟩ := h.hop i hd
    show _ < lab far (ws.getD (i + 1) 0)
    omega
  | d + 1, hd => by
    have ih := h.rise i d (by omega)
    obtain ⟨c, hj, hc, he⟩ := h.hop (i + d + 1) (by omega)
    have : i + (d + 1) + 1 = i + d + 1 + 1 := by omega
    rw [this]
    omega
theorem Out.len {n : Nat} {l : List EdD} {far ws : List Int} (h : Out n l far ws) : ws.length ≤ n := by
  have := nodup_len ws (iota n) (by
    rw [List.pairwise_iff_getElem]
    intro i j hi hj hij e
    have := h.rise i (j - i - 1) (by omega)
    rw [show i + (j - i - 1) + 1 = j by omega] at this
    rw [List.getD_eq_getElem?_getD, List.getD_eq_getElem?_getD, List.getElem?_eq_getElem hi, List.getElem?_eq_getElem hj] at this
    simp only [Option.getD_some] at this
    rw [e] at this
    omega) (fun x hx => by
    obtain ⟨j, hj, rfl⟩ := List.getElem_of_mem hx
    have := h.fit j hj
    rw [List.getD_eq_getElem?_getD, List.getElem?_eq_getElem hj] at this
    exact (mem_iota _ _).2 this)
  rwa [iota_len] at this
theorem tree_out {n : Nat} {l : List EdD} {r k : Int} (hn : 1 ≤ n ∧ n ≤ 12) (hf : FitEd n l) (hr : 0 ≤ r ∧ r < n) (hk : 0 ≤ k ∧ k < (n : Int)) (h : onTOk (treeD n l r) r k = true) :
    Out n l (fars n l r) (onOut (treeD n l r) r k) ∧ 1 ≤ (onOut (treeD n l r) r k).length ∧ (onOut (treeD n l r) r k).getD 0 0 = r ∧ (onOut (treeD n l r) r k).getD ((onOut (treeD n l r) r k).length - 1) 0 = k := by
  have hgd := treeD_good hn hf hr
  have hl := treeD_length n l r
  have hlz : ((treeD n l r).length : Int) = n := by rw [hl]
  have hr' : 0 ≤ r ∧ r < ((treeD n l r).length : Int) := by omega
  have hk' : 0 ≤ k ∧ k < ((treeD n l r).length : Int) := by omega
  obtain ⟨hb, s, hs⟩ := onOut_back hgd hr' hk' h
  have hlast := getLast_atS _ _ (onOut_last hgd hr'.1 hr'.2 hk'.1 hk'.2 h)
  have hfirst : (onOut (treeD n l r) r k).getD 0 0 = r := by rw [hs]; rfl
  have hlen : 1 ≤ (onOut (treeD n l r) r k).length := by rw [hs]; simp
  refine ⟨?_, hlen, hfirst, hlast⟩
  generalize onOut (treeD n l r) r k = ws at *
  have hq : ∀ i, 0 ≤ i → i < (n : Int) → par2 (treeD n l r) r i < (n : Int) := fun i h0 hi => by
    have := par2_fit hgd hr'.1 hr'.2 h0 (by omega : i < ((treeD n l r).length : Int)); omega
  have hrl : ws.reverse.length = ws.length := List.length_reverse
  have hat : ∀ j, j < ws.length → (0 ≤ ws.reverse.getD j 0 ∧ ws.reverse.getD j 0 < (n : Int)) ∧ (j + 1 < ws.length → par2 (treeD n l r) r (ws.reverse.getD j 0) = ws.reverse.getD (j + 1) 0) := by
    have h0 := rev_getD ws (ws.length - 1) (by omega)
    rw [show ws.length - 1 - (ws.length - 1) = 0 by omega, hlast] at h0
    rw [← hrl]
    cases hc : ws.reverse with
    | nil => rw [hc] at hb; exact absurd hb (by simp [IsQ])
    | cons x t =>
      rw [hc] at hb h0
      have : x = k := h0
      subst this
      exact isQ_get hq t x hk.1 hk.2 hb
  refine ⟨fun j hj => ?_, fun j hj => ?_⟩
  · have := (hat (ws.length - 1 - j) (by omega)).1
    rwa [rev_getD ws j hj] at this
  · obtain ⟨hx, hp⟩ := hat (ws.length - 1 - (j + 1)) (by omega)
    have hp := hp (by omega)
    have hy := (hat (ws.length - 1 - j) (by omega)).1
    rw [rev_getD ws (j + 1) hj] at hx hp
    rw [show ws.length - 1 - (j + 1) + 1 = ws.length - 1 - j by omega, rev_getD ws j (by omega)] at hp
    rw [rev_getD ws j (by omega)] at hy
    rw [par2_top hgd hr' (treeD_root hf hr) _ hx.1 (by omega)] at hp
    rcases treeD_par (r := r) hf _ hx.1 hx.2 with ⟨e, -⟩ | ⟨-, c, hjj, hc, he⟩
    · omega
    · rw [hp] at hjj he
      exact ⟨c, hjj.symm, hc, he⟩
structure SprFacts (n : Nat) (l : List EdD) (r : Int) (p g f : List Int) : Prop where
  small : 1 ≤ n ∧ n ≤ 12
  root : 0 ≤ r ∧ r < (n : Int)
  plen : p.length = n
  glen : g.length = n
  flen : f.length = n
  good : goodU p = true
  spread : ∀ k : Nat, k < n → lab g k = lab g r → spOk p k = true ∧ (spOut p k).length ≤ 12 ∧
    (∀ j (hj : j < (spOut p k).length), cfOk p k (spOut p k)[j].To = true ∧ cfOut p k (spOut p k)[j].To = (spOut p k)[j].From ∧ ((spOut p k)[j].To ∈ (k : Int) :: ((spOut p k).take j).map HopD.To ↔ False) ∧ ((spOut p k)[j].From ∈ (k : Int) :: ((spOut p k).take j).map HopD.To)) ∧
    ∀ i : Nat, i < n → ((i : Int) ∈ (k : Int) :: (spOut p k).map HopD.To ↔ lab g i = lab g r)
  ways : ∀ k : Nat, k < n → otOk p r k = decide (lab g k = lab g r) ∧ (otOk p r k = true → (otOut p r k).length ≤ 12 ∧ pathOk n l (otOut p r k) = true ∧ pathCost n l (otOut p r k) = lab f k)
theorem spr_facts {n : Nat} {l : List EdD} {r : Int} (h : farsOk n l r = true) : goodEd n l = true ∧ SprFacts n l r (treeOut n l r) (grpOut n l) (farsOut n l r) := by
  obtain ⟨hg, hr⟩ := farsOk_true h
  obtain ⟨g1, g2, g3, g4⟩ := goodEd_true hg
  have hn : 1 ≤ n ∧ n ≤ 12 := by omega
  have e1 : treeOut n l r = treeD n l r := by unfold treeOut; rw [if_pos h]; rfl
  have e2 : grpOut n l = grp n l := by unfold grpOut; rw [if_pos hg]
  have e3 : farsOut n l r = fars n l r := by unfold farsOut; rw [if_pos h]; rfl
  rw [e1, e2, e3]
  have hgd := treeD_good hn g3 hr
  have hl := treeD_length n l r
  have hlz : ((treeD n l r).length : Int) = n := by rw [hl]
  have hG := isGrp_grp n l g3
  have hrp : 0 ≤ r ∧ r < ((treeD n l r).length : Int) := by omega
  refine ⟨hg, hn, hr, hl, by rw [grp_len n l g3]; simp, fars_len .., hgd, fun k hk hgk => ?_, fun k hk => ?_⟩
  · have hkz : 0 ≤ (k : Int) ∧ (k : Int) < (n : Int) := by omega
    have hkp : 0 ≤ (k : Int) ∧ (k : Int) < ((treeD n l r).length : Int) := by omega
    have hsp : spOk (treeD n l r) k = true := by unfold spOk; rw [hgd, decide_eq_true hkp]; rfl
    have ho : spOut (treeD n l r) k = spreadD (treeD n l r) k := by unfold spOut; rw [if_pos hsp]
    have hH := spreadD_ok hgd hkp.1 hkp.2
    have hlen := hH.len hkp.1 hkp.2
    rw [ho]
    refine ⟨hsp, by omega, fun j hj => ?_, fun i hi => ?_⟩
    · have hx := hH.ok _ (List.getElem_mem hj)
      have hne := hx.1.ne hx.2
      have hin : InT (treeD n l r) k (spreadD (treeD n l r) k)[j].To := .inr ⟨_, List.getElem_mem hj, rfl⟩
      have ht := onT_symm hgd hx.1.1 hkp ((meet_inT hgd hx.1.1.1 hx.1.1.2 hkp.1 hkp.2).2 hin)
      obtain ⟨c1, c2⟩ := cf_par hgd hkp hx.1.1 ht (Ne.symm hne)
      refine ⟨c1, by rw [c2, ← hx.1.2], ⟨fun hm => ?_, False.elim⟩, ?_⟩
      · rcases List.mem_cons.1 hm with q | q
        · exact hne q
        · obtain ⟨y, hy, e⟩ := List.mem_map.1 q
          obtain ⟨i, hi, rfl⟩ := List.getElem_of_mem hy
          rw [List.getElem_take] at e
          rw [List.length_take] at hi
          exact List.pairwise_iff_getElem.1 hH.nd i j (by omega) hj (by omega) e
      · rcases hH.from_ j hj with q | ⟨i, hi, h1, -, q⟩
        · rw [q]; exact List.mem_cons_self ..
        · refine List.mem_cons_of_mem _ (List.mem_map.2 ⟨(spreadD (treeD n l r) k)[i], ?_, q⟩)
          exact List.mem_take_iff_getElem.2 ⟨i, by omega, rfl⟩
    · have hiz : 0 ≤ (i : Int) ∧ (i : Int) < (n : Int) := by omega
      have hip : 0 ≤ (i : Int) ∧ (i : Int) < ((treeD n l r).length : Int) := by omega
      rw [← tree_onT hn g3 hr hG hkz hiz hgk]
      constructor
      · intro hm
        have hin : InT (treeD n l r) k i := by
          rcases List.mem_cons.1 hm with q | q
          · exact .inl q
          · obtain ⟨y, hy, e⟩ := List.mem_map.1 q
            exact .inr ⟨y, hy, e⟩
        exact onT_symm hgd hip hkp ((meet_inT hgd hip.1 hip.2 hkp.1 hkp.2).2 hin)
      · intro ht
        rcases (meet_inT hgd hip.1 hip.2 hkp.1 hkp.2).1 (onT_symm hgd hkp hip ht) with q | ⟨y, hy, e⟩
        · rw [q]; exact List.mem_cons_self ..
        · exact List.mem_cons_of_mem _ (List.mem_map.2 ⟨y, hy, e⟩)
  · have hkz : 0 ≤ (k : Int) ∧ (k : Int) < (n : Int) := by omega
    have hkp : 0 ≤ (k : Int) ∧ (k : Int) < ((treeD n l r).length : Int) := by omega
    have hT := tree_onT hn g3 hr hG hr hkz rfl
    have htw : twoOk (treeD n l r) r k = true := by unfold twoOk; rw [hgd, decide_eq_true hrp, decide_eq_true hkp]; rfl
    have hot : otOk (treeD n l r) r k = onTOk (treeD n l r) r k := by unfold otOk; rw [htw, Bool.true_and]
    rw [hot]
    refine ⟨?_, fun ht => ?_⟩
    · cases hq : onTOk (treeD n l r) r k with
      | false => rw [decide_eq_false]; exact fun e => by rw [hT.2 e] at hq; cases hq
      | true => rw [decide_eq_true (hT.1 hq)]
    · have ho : otOut (treeD n l r) r k = onOut (treeD n l r) r k := by unfold otOut; rw [hot, if_pos ht]
      rw [ho]
      obtain ⟨hO, w1, w2, w3⟩ := tree_out hn g3 hr hkz ht
      have hle := hO.len
      obtain ⟨k1, k2⟩ := hO.cost g3 g4 ((onOut (treeD n l r) r k).length - 1) (by omega)
      rw [w2, w3, fars_at g3 hr] at k2
      have hp : pathOk n l (onOut (treeD n l r) r k) = true := by
        unfold pathOk
        rw [hg, decide_eq_true ⟨w1, by omega⟩, decide_eq_true (show 0 ≤ (onOut (treeD n l r) r k).getD 0 0 ∧ (onOut (treeD n l r) r k).getD 0 0 < (n : Int) by rw [w2]; exact hr), k1]
        rfl
      refine ⟨by omega, hp, ?_⟩
      unfold pathCost
      rw [if_pos hp]
      omega
end Go.Proofs.Ythlbmkefjjckaad
