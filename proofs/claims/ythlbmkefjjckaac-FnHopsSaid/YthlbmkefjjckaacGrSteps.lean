/-
  'stepsOf': the iterator over the steps of a way.
-/
import Derived.Test.YthlbmkefjjckaacGrRelax
namespace Go.Proofs.Ythlbmkefjjckaac
open Go.RowKit
set_option linter.unusedVariables false
attribute [local go_sem] Oper.semAt_some wide_fn

set_option maxHeartbeats 1000000 in
theorem stepsOf_any (W : World) (v : Value) (hv : ∃ a n c, v = .slice a n c) :
    Calls Try.prog 118 #[v] W fun e W' => e = .returned (.func (.func 138) #[] #[.pointer (some ⟨W.heap.size, 0, none⟩)]) ∧ W' = W.alloc (.cells #[v] 35) := by
  obtain ⟨a1, n1, c1, rfl⟩ := hv
  go_enter Try.func118, Try.ntmps118
  go_wp2
  go_ret
  exact ⟨rfl, rfl⟩

/-- The first k steps of a way. -/
def pairsT (ws : List Int) (k : Nat) : List (Int × Int) := (List.range k).map fun j => (ws.getD j 0, ws.getD (j + 1) 0)
theorem pairsT_succ (ws : List Int) (k : Nat) : pairsT ws (k + 1) = pairsT ws k ++ [(ws.getD k 0, ws.getD (k + 1) 0)] := by simp [pairsT, List.range_succ]
theorem pairsT_len (ws : List Int) (k : Nat) : (pairsT ws k).length = k := by simp [pairsT]
theorem pairsT_pre (ws : List Int) {k m : Nat} (h : k ≤ m) : pairsT ws k <+: pairsT ws m := by
  obtain ⟨d, rfl⟩ : ∃ d, m = k + d := ⟨m - k, by omega⟩
  unfold pairsT
  rw [List.range_add, List.map_append]
  exact List.prefix_append _ _
theorem pairsT_of_pre {ws : List Int} {m : Nat} {pre : List (Int × Int)} {p : Int × Int} (h : pre ++ [p] <+: pairsT ws m) : pre = pairsT ws pre.length ∧ p = (ws.getD pre.length 0, ws.getD (pre.length + 1) 0) ∧ pre.length < m := by
  have hl := h.length_le
  rw [pairsT_len, List.length_append, List.length_singleton] at hl
  have e : pre ++ [p] = pairsT ws (pre.length + 1) := by
    have h2 := pairsT_pre ws (k := pre.length + 1) (m := m) (by omega)
    exact List.IsPrefix.eq_of_length (List.prefix_of_prefix_length_le h h2 (by rw [pairsT_len]; simp)) (by rw [pairsT_len]; simp)
  rw [pairsT_succ] at e
  have := List.append_inj' e rfl
  exact ⟨this.1, by simpa using this.2, by omega⟩

set_option maxRecDepth 100000 in
set_option maxHeartbeats 4000000 in
theorem stepsIt_any (S : Nat → Prop) (bw : Nat) (ws : List Int) (W0 w : World) (B0 wg wcap : Nat) (h1 : 1 ≤ ws.length) (hl : ws.length ≤ 1048576) (hbw : S bw)
    (hcw : w.cell? ⟨bw, 0, none⟩ = some (.slice (some ⟨wg, 0, none⟩) ws.length wcap)) (hu : Own W0 B0 (.slice (some ⟨wg, 0, none⟩) ws.length wcap) ws) (hw0 : Below W0.heap.size W0 w) (hS2 : ∀ b, b < W0.heap.size → S b) :
    SeqO Try.prog 138 #[.pointer (some ⟨bw, 0, none⟩)] (fun p : Int × Int => #[.int .i64 p.1, .int .i64 p.2]) S (pairsT ws (ws.length - 1)) w := by
  intro ll J Jx Mine W hW hJ hJx hM hN hY h0
  have cw : W.cell? ⟨bw, 0, none⟩ = some (.slice (some ⟨wg, 0, none⟩) ws.length wcap) := (hW.cell (p := ⟨bw, 0, none⟩) (World.block_lt_of_cell? w ⟨bw, 0, none⟩ hcw)).trans hcw
  have hwg : wg < W0.heap.size := (World.ownsRow.lt hu wg rfl).2
  have HC : Hid (∀ j, j < ws.length → W.cell? ⟨wg, j, none⟩ = some (.int .i64 (ws.getD j 0))) := fun j hj => by
    have h1 := own_cellG hu rfl j hj
    rw [show ws.getD j 0 = ws[j] by simp [List.getD_eq_getElem?_getD, hj]]
    exact ((hw0.trans (hW.mono hw0.size)).cell (p := ⟨wg, j, none⟩) hwg).trans h1
  have HM : Hid (MineOk W.heap.size J Mine) := hM
  have HNM : Hid (∀ b, S b → ¬ Mine W b) := hN
  have HY : Hid (∀ pre x W1, J pre W1 → pre ++ [x] <+: pairsT ws (ws.length - 1) → YieldW Try.prog ll #[.int .i64 x.1, .int .i64 x.2] W1 fun e W' => (e = .returned (.bool true) ∧ J (pre ++ [x]) W' ∧ KeptBut Mine W1 W' ∧ KeepsFrom W.heap.size W1 W') ∨ (e = .returned (.bool false) ∧ Jx (pre ++ [x]) W' ∧ KeepsFrom W.heap.size W1 W')) := hY
  have HJ : Hid (OwnFrom W.heap.size J) := hJ
  have H0 : Hid (J [] W) := h0
  have HSB : Hid (S bw ∧ S wg) := ⟨hbw, hS2 wg hwg⟩
  clear hcw hu hw0 hS2 hM hN hY hJ h0 hJx hW hwg
  refine callsIn_of_wp Try.func138 rfl trivial ?_ rfl
  simp only [Try.ntmps138, List.size_toArray, List.length_cons, List.length_nil, Nat.reduceAdd, Nat.reduceSub, Array.replicate_succ, Array.replicate_zero, List.push_toArray, List.append_toArray, List.nil_append, List.cons_append]
  gi_wp2
  gi_loopw [3] (fun i wr => ∃ k : Nat, k ≤ ws.length - 1 ∧ i = .int .i64 ((k : Int) + 1) ∧ Hid (J (pairsT ws k) wr ∧ KeptBut Mine W wr)) (fun i _ => ws.length - (intOf i).toNat)
  case atStart => exact ⟨0, Nat.zero_le _, rfl, H0.out, KeptBut.refl _ _⟩
  case round =>
    obtain ⟨k, hk, rfl, HI⟩ := hrel
    have cwr : wr.cell? ⟨bw, 0, none⟩ = some (.slice (some ⟨wg, 0, none⟩) ws.length wcap) := HI.out.2.cell cw (HNM.out bw HSB.out.1)
    by_cases hlt : k < ws.length - 1
    · have hlt' : (k : Int) + 1 < (ws.length : Int) := by omega
      have hk1 : k < ws.length := by omega
      have hk2 : k + 1 < ws.length := by omega
      have hk1' : (k : Int) < (ws.length : Int) := by omega
      have hdr : Below wr.heap.size wr wr.drew := (Below.refl _ wr).drew
      have HPS : Hid (pairsT ws (k + 1) = pairsT ws k ++ [(ws.getD k 0, ws.getD (k + 1) 0)]) := pairsT_succ ws k
      have HS : Hid (wr.drew.cell? ⟨bw, 0, none⟩ = some (.slice (some ⟨wg, 0, none⟩) ws.length wcap) ∧ wr.drew.cell? ⟨wg, k, none⟩ = some (.int .i64 (ws.getD k 0)) ∧ wr.drew.cell? ⟨wg, k + 1, none⟩ = some (.int .i64 (ws.getD (k + 1) 0))) :=
        ⟨cwr, HI.out.2.cell (HC.out k hk1) (HNM.out wg HSB.out.2), HI.out.2.cell (HC.out (k + 1) hk2) (HNM.out wg HSB.out.2)⟩
      obtain ⟨fn, tmps, assign, body, hy, hR⟩ := HY.out (pairsT ws k) (ws.getD k 0, ws.getD (k + 1) 0) wr.drew (own_on HJ.out HI.out.1 hdr) (by rw [← HPS.out]; exact pairsT_pre ws (by omega))
      dsimp only at hy
      generalize ws.getD k 0 = x at *
      generalize ws.getD (k + 1) 0 = y at *
      have hwr : IntKind.i64.wrap (k : Int) = (k : Int) := by rw [IntKind.wrap_i64]; omega
      have hge0 : ¬ ((k : Int) + 1 < 0) := by omega
      have hnat : ((k : Int) + 1).toNat = k + 1 := by omega
      have hcast : ((k + 1 : Nat) : Int) = (k : Int) + 1 := by omega
      clear HC HY HNM H0
      gi_wp2
      refine region_outRound (S := (fun w' : World => w'.cell? ⟨bw, 0, none⟩ = some (.slice (some ⟨wg, 0, none⟩) ws.length wcap) ∧ w'.cell? ⟨wg, k, none⟩ = some (.int .i64 x) ∧ w'.cell? ⟨wg, k + 1, none⟩ = some (.int .i64 y))) 10 (by kernel_rfl) ?_ (fun hHeld => ?_)
      · exact HS.out
      refine roundRead 0 (some 10) (.func (.yield ll) #[] #[]) rfl rfl (by kernel_rfl) (by kernel_rfl) (by kernel_rfl) (by kernel_rfl) (fun _ _ _ h => h) (by kernel_rfl) (by assumption) ?_ ?_
      · intro w hSw
        (try dsimp only at hSw)
        go_simp
      simp only [Act.put, List.setIfInBounds_toArray, List.set_cons_zero, List.set_cons_succ]
      refine roundRead 1 (some 11) (.slice (some ⟨wg, 0, none⟩) ws.length wcap) rfl rfl (by kernel_rfl) (by kernel_rfl) (by kernel_rfl) (by kernel_rfl) (fun _ _ _ h => h) (by kernel_rfl) (by assumption) ?_ ?_
      · intro w hSw
        (try dsimp only at hSw)
        go_simp
      simp only [Act.put, List.setIfInBounds_toArray, List.set_cons_zero, List.set_cons_succ]
      refine roundRead 2 (some 12) (.int .i64 ((k : Int) + 1)) rfl rfl (by kernel_rfl) (by kernel_rfl) (by kernel_rfl) (by kernel_rfl) (fun _ _ _ h => h) (by kernel_rfl) (by assumption) ?_ ?_
      · intro w hSw
        (try dsimp only at hSw)
        go_simp
      simp only [Act.put, List.setIfInBounds_toArray, List.set_cons_zero, List.set_cons_succ]
      refine roundRead 3 (some 13) (.int .i64 (k : Int)) rfl rfl (by kernel_rfl) (by kernel_rfl) (by kernel_rfl) (by kernel_rfl) (fun _ _ _ h => h) (by kernel_rfl) (by assumption) ?_ ?_
      · intro w hSw
        (try dsimp only at hSw)
        go_simp
      simp only [Act.put, List.setIfInBounds_toArray, List.set_cons_zero, List.set_cons_succ]
      refine roundRead 4 (some 14) (.pointer (some ⟨wg, k, none⟩)) rfl rfl (by kernel_rfl) (by kernel_rfl) (by kernel_rfl) (by kernel_rfl) (fun _ _ _ h => h) (by kernel_rfl) (by assumption) ?_ ?_
      · intro w hSw
        (try dsimp only at hSw)
        go_simp
      simp only [Act.put, List.setIfInBounds_toArray, List.set_cons_zero, List.set_cons_succ]
      refine roundRead 5 (some 15) (.int .i64 x) rfl rfl (by kernel_rfl) (by kernel_rfl) (by kernel_rfl) (by kernel_rfl) (fun _ _ _ h => h) (by kernel_rfl) (by assumption) ?_ ?_
      · intro w hSw
        (try dsimp only at hSw)
        go_simp
      simp only [Act.put, List.setIfInBounds_toArray, List.set_cons_zero, List.set_cons_succ]
      refine roundRead 6 (some 16) (.slice (some ⟨wg, 0, none⟩) ws.length wcap) rfl rfl (by kernel_rfl) (by kernel_rfl) (by kernel_rfl) (by kernel_rfl) (fun _ _ _ h => h) (by kernel_rfl) (by assumption) ?_ ?_
      · intro w hSw
        (try dsimp only at hSw)
        go_simp
      simp only [Act.put, List.setIfInBounds_toArray, List.set_cons_zero, List.set_cons_succ]
      refine roundRead 7 (some 17) (.int .i64 ((k : Int) + 1)) rfl rfl (by kernel_rfl) (by kernel_rfl) (by kernel_rfl) (by kernel_rfl) (fun _ _ _ h => h) (by kernel_rfl) (by assumption) ?_ ?_
      · intro w hSw
        (try dsimp only at hSw)
        go_simp
      simp only [Act.put, List.setIfInBounds_toArray, List.set_cons_zero, List.set_cons_succ]
      refine roundRead 8 (some 18) (.pointer (some ⟨wg, k + 1, none⟩)) rfl rfl (by kernel_rfl) (by kernel_rfl) (by kernel_rfl) (by kernel_rfl) (fun _ _ _ h => h) (by kernel_rfl) (by assumption) ?_ ?_
      · intro w hSw
        (try dsimp only at hSw)
        go_simp
      simp only [Act.put, List.setIfInBounds_toArray, List.set_cons_zero, List.set_cons_succ]
      refine roundRead 9 (some 19) (.int .i64 y) rfl rfl (by kernel_rfl) (by kernel_rfl) (by kernel_rfl) (by kernel_rfl) (fun _ _ _ h => h) (by kernel_rfl) (by assumption) ?_ ?_
      · intro w hSw
        (try dsimp only at hSw)
        go_simp
      simp only [Act.put, List.setIfInBounds_toArray, List.set_cons_zero, List.set_cons_succ]
      refine roundYield 10 (some 20) ll #[.int .i64 x, .int .i64 y] (by kernel_rfl) rfl rfl (.inl (by kernel_rfl)) (by kernel_rfl) hy (fun hq => by simp [go_sem, hq]) ((hR _).mono ?_)
      rintro e W3 (⟨rfl, hj3, hk3, -⟩ | ⟨rfl, hx3, -⟩)
      · refine ⟨_, rfl, ?_⟩
        simp only [Act.put, List.setIfInBounds_toArray, List.set_cons_zero, List.set_cons_succ]
        refine roundValue 11 (some 21) (.bool false) W3 (by kernel_rfl) rfl rfl (.inl (by kernel_rfl)) (by kernel_rfl) (by go_simp) ?_
        simp only [Act.put, List.setIfInBounds_toArray, List.set_cons_zero, List.set_cons_succ]
        refine wpAnyR.done (by kernel_rfl) ?_ _
        have HF : Hid (J (pairsT ws (k + 1)) W3 ∧ KeptBut Mine W W3) := ⟨by rw [HPS.out]; exact hj3, (HI.out.2.trans (KeptBut.below HM.out HI.out.1 HI.out.2.1 hdr)).trans hk3⟩
        clear hj3 hk3 HS hR hy HI HPS
        gi_wp2
        go_roundw
        case rel => exact ⟨k + 1, by omega, by go_num, HF.out⟩
        case measure => simp [intOf]; omega
      · refine ⟨_, rfl, ?_⟩
        simp only [Act.put, List.setIfInBounds_toArray, List.set_cons_zero, List.set_cons_succ]
        refine roundValue 11 (some 21) (.bool true) W3 (by kernel_rfl) rfl rfl (.inl (by kernel_rfl)) (by kernel_rfl) (by go_simp) ?_
        simp only [Act.put, List.setIfInBounds_toArray, List.set_cons_zero, List.set_cons_succ]
        refine wpAnyR.done (by kernel_rfl) ?_ _
        have HF : Hid (∃ p, Jx p W3) := ⟨_, hx3⟩
        clear hx3 HS hR hy HI HPS
        gi_wp2
        refine bodyPost_ret (results_none rfl _ _ _) rfl ?_
        exact ⟨⟨_, rfl⟩, .inr HF.out⟩
    · have e : k = ws.length - 1 := by omega
      have HE : Hid (J (pairsT ws (ws.length - 1)) wr) := by rw [← e]; exact HI.out.1
      have hge : ¬ ((k : Int) + 1 < (ws.length : Int)) := by omega
      clear HI HY H0 HC
      gi_wp2
      go_end0
      exact ⟨⟨_, rfl⟩, .inl HE.out⟩
end Go.Proofs.Ythlbmkefjjckaac
