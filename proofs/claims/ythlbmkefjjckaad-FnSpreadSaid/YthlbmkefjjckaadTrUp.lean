/-
  'stepsUp': the iterator over the steps of spots to their parents; 'joiner': what remembers the groups that it joined.
-/
import Derived.Test.YthlbmkefjjckaadGrRelax
import Derived.Test.YthlbmkefjjckaadGrGrp
import Derived.Test.YthlbmkefjjckaadTrMath
namespace Go.Proofs.Ythlbmkefjjckaad
open Go.RowKit
set_option linter.unusedVariables false
attribute [local go_sem] Oper.semAt_some wide_fn

set_option maxHeartbeats 1000000 in
theorem stepsUp_any (W : World) (v : Value) (hv : ∃ a n c, v = .slice a n c) :
    Calls Try.prog 45 #[v] W fun e W' => e = .returned (.func (.func 73) #[] #[.pointer (some ⟨W.heap.size, 0, none⟩)]) ∧ W' = W.alloc (.cells #[v] 26) := by
  obtain ⟨a1, n1, c1, rfl⟩ := hv
  go_enter Try.func45, Try.ntmps45
  go_wp2
  go_ret
  exact ⟨rfl, rfl⟩

set_option maxRecDepth 100000 in
set_option maxHeartbeats 4000000 in
theorem stepsUpIt_any (S : Nat → Prop) (bw : Nat) (ps : List Int) (W0 w : World) (B0 wg wcap : Nat) (h1 : 1 ≤ ps.length) (hl : ps.length ≤ 1048576) (hbw : S bw)
    (hcw : w.cell? ⟨bw, 0, none⟩ = some (.slice (some ⟨wg, 0, none⟩) ps.length wcap)) (hu : Own W0 B0 (.slice (some ⟨wg, 0, none⟩) ps.length wcap) ps) (hw0 : Below W0.heap.size W0 w) (hS2 : ∀ b, b < W0.heap.size → S b) :
    SeqO Try.prog 73 #[.pointer (some ⟨bw, 0, none⟩)] (fun p : Int × Int => #[.int .i64 p.1, .int .i64 p.2]) S (stepsU ps ps.length) w := by
  intro ll J Jx Mine W hW hJ hJx hM hN hY h0
  have cw : W.cell? ⟨bw, 0, none⟩ = some (.slice (some ⟨wg, 0, none⟩) ps.length wcap) := (hW.cell (p := ⟨bw, 0, none⟩) (World.block_lt_of_cell? w ⟨bw, 0, none⟩ hcw)).trans hcw
  have hwg : wg < W0.heap.size := (World.ownsRow.lt hu wg rfl).2
  have HC : Hid (∀ j, j < ps.length → W.cell? ⟨wg, j, none⟩ = some (.int .i64 (lab ps (j : Int)))) := fun j hj => by
    have h1 := own_cellG hu rfl j hj
    rw [lab_get ps j hj]
    exact ((hw0.trans (hW.mono hw0.size)).cell (p := ⟨wg, j, none⟩) hwg).trans h1
  have HM : Hid (MineOk W.heap.size J Mine) := hM
  have HNM : Hid (∀ b, S b → ¬ Mine W b) := hN
  have HY : Hid (∀ pre x W1, J pre W1 → pre ++ [x] <+: stepsU ps ps.length → YieldW Try.prog ll #[.int .i64 x.1, .int .i64 x.2] W1 fun e W' => (e = .returned (.bool true) ∧ J (pre ++ [x]) W' ∧ KeptBut Mine W1 W' ∧ KeepsFrom W.heap.size W1 W') ∨ (e = .returned (.bool false) ∧ Jx (pre ++ [x]) W' ∧ KeepsFrom W.heap.size W1 W')) := hY
  have HJ : Hid (OwnFrom W.heap.size J) := hJ
  have H0 : Hid (J [] W) := h0
  have HSB : Hid (S bw ∧ S wg) := ⟨hbw, hS2 wg hwg⟩
  clear hcw hu hw0 hS2 hM hN hY hJ h0 hJx hW hwg
  refine callsIn_of_wp Try.func73 rfl trivial ?_ rfl
  simp only [Try.ntmps73, List.size_toArray, List.length_cons, List.length_nil, Nat.reduceAdd, Nat.reduceSub, Array.replicate_succ, Array.replicate_zero, List.push_toArray, List.append_toArray, List.nil_append, List.cons_append]
  gi_wp2
  gi_loopw [7] (fun i wr => ∃ k : Nat, k ≤ ps.length ∧ i = .int .i64 (k : Int) ∧ Hid (J (stepsU ps k) wr ∧ KeptBut Mine W wr)) (fun i _ => ps.length - (intOf i).toNat)
  case atStart => exact ⟨0, Nat.zero_le _, rfl, H0.out, KeptBut.refl _ _⟩
  case round =>
    obtain ⟨k, hk, rfl, HI⟩ := hrel
    by_cases hlt : k < ps.length
    · have hlt' : (k : Int) < (ps.length : Int) := by omega
      have HT : Hid (stepsU ps (k + 1) = stepsU ps k ++ if lab ps (k : Int) = -1 then [] else [((k : Int), lab ps (k : Int))]) := stepsU_succ ps k
      have hcell : wr.cell? ⟨wg, k, none⟩ = some (.int .i64 (lab ps (k : Int))) := HI.out.2.cell (HC.out k hlt) (HNM.out wg HSB.out.2)
      have HY1 : Hid (∀ x, stepsU ps k ++ [x] <+: stepsU ps ps.length → YieldW Try.prog ll #[.int .i64 x.1, .int .i64 x.2] wr fun e W' => (e = .returned (.bool true) ∧ J (stepsU ps k ++ [x]) W' ∧ KeptBut Mine wr W' ∧ KeepsFrom W.heap.size wr W') ∨ (e = .returned (.bool false) ∧ Jx (stepsU ps k ++ [x]) W' ∧ KeepsFrom W.heap.size wr W')) := fun x => HY.out (stepsU ps k) x wr HI.out.1
      have HP : Hid (stepsU ps (k + 1) <+: stepsU ps ps.length) := stepsU_pre ps (by omega)
      generalize lab ps (k : Int) = x at *
      clear HC HY HNM H0
      by_cases e : x = -1
      · subst e
        have HF : Hid (J (stepsU ps (k + 1)) wr ∧ KeptBut Mine W wr) := by
          have := HT.out
          rw [if_pos rfl, List.append_nil] at this
          show J _ _ ∧ _
          rw [this]
          exact HI.out
        clear HT HY1 HI
        gi_wp2
        go_roundw
        case rel => exact ⟨k + 1, by omega, by go_num, HF.out⟩
        case measure => simp [intOf]; omega
      · have eb : (x != -1) = true := by simpa using e
        have HT1 : Hid (stepsU ps (k + 1) = stepsU ps k ++ [((k : Int), x)]) := by
          have := HT.out
          rw [if_neg e] at this
          exact this
        obtain ⟨fn, tmps, assign, body, hy, hR⟩ := HY1.out ((k : Int), x) (by rw [← HT1.out]; exact HP.out)
        dsimp only at hy
        have HR : Hid (∀ m, RoundIn Fence.wide m Try.prog ll fn tmps assign body wr fun e W' => (e = .returned (.bool true) ∧ J (stepsU ps (k + 1)) W' ∧ KeptBut Mine wr W' ∧ KeepsFrom W.heap.size wr W') ∨ (e = .returned (.bool false) ∧ Jx (stepsU ps k ++ [((k : Int), x)]) W' ∧ KeepsFrom W.heap.size wr W')) := by rw [HT1.out]; exact hR
        clear hR HY1 HT HP e
        gi_wp2
        refine (HR.out _).mono ?_
        rintro e W3 (⟨rfl, hj3, hk3, -⟩ | ⟨rfl, hx3, -⟩)
        · have HF : Hid (J (stepsU ps (k + 1)) W3 ∧ KeptBut Mine W W3) := ⟨hj3, HI.out.2.trans hk3⟩
          clear hj3 hk3 HR hy HI
          gi_wp2
          go_roundw
          case rel => exact ⟨k + 1, by omega, by go_num, HF.out⟩
          case measure => simp [intOf]; omega
        · have HF : Hid (Jx (stepsU ps k ++ [((k : Int), x)]) W3) := hx3
          clear hx3 HR hy
          gi_wp2
          refine bodyPost_ret (results_none rfl _ _ _) rfl ?_
          exact ⟨⟨_, rfl⟩, .inr ⟨_, HF.out⟩⟩
    · have e : k = ps.length := by omega
      have HE : Hid (J (stepsU ps ps.length) wr) := by rw [← e]; exact HI.out.1
      clear HI HY H0 HC
      subst e
      gi_wp2
      go_end0
      exact ⟨⟨_, rfl⟩, .inl HE.out⟩
end Go.Proofs.Ythlbmkefjjckaad
