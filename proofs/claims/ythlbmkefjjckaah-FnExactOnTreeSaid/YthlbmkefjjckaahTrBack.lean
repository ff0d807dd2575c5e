/-
  'slices.Backward' over hops.
-/
import Derived.Test.YthlbmkefjjckaahTrSprI
namespace Go.Proofs.Ythlbmkefjjckaah
open Go.RowKit
set_option linter.unusedVariables false
attribute [local go_sem] Oper.semAt_some wide_fn

set_option maxHeartbeats 1000000 in
theorem backward_any (W : World) (v : Value) (hv : ∃ a n c, v = .slice a n c) :
    Calls Try.prog 21 #[v] W fun e W' => e = .returned (.func (.func 26) #[] #[.pointer (some ⟨W.heap.size, 0, none⟩)]) ∧ W' = W.alloc (.cells #[v] 40) := by
  obtain ⟨a1, n1, c1, rfl⟩ := hv
  go_enter Try.func21, Try.ntmps21
  go_wp2
  go_ret
  exact ⟨rfl, rfl⟩

def noHopB : HopD := ⟨0, 0⟩
/-- The last k hops with where they stand, the last one first. -/
def backP (H : List HopD) (k : Nat) : List (Int × HopD) := (List.range k).map fun j : Nat => ((H.length : Int) - 1 - (j : Int), H.getD (H.length - 1 - j) noHopB)
theorem backP_succ (H : List HopD) (k : Nat) : backP H (k + 1) = backP H k ++ [((H.length : Int) - 1 - (k : Int), H.getD (H.length - 1 - k) noHopB)] := by simp [backP, List.range_succ]
theorem backP_len (H : List HopD) (k : Nat) : (backP H k).length = k := by simp [backP]
theorem backP_pre (H : List HopD) {k m : Nat} (h : k ≤ m) : backP H k <+: backP H m := by
  obtain ⟨d, rfl⟩ : ∃ d, m = k + d := ⟨m - k, by omega⟩
  unfold backP
  rw [List.range_add, List.map_append]
  exact List.prefix_append _ _
theorem backP_snd (H : List HopD) : ∀ k, k ≤ H.length → (backP H k).map Prod.snd = (H.drop (H.length - k)).reverse
  | 0, _ => by simp [backP]
  | k + 1, h => by
    have hlt : H.length - (k + 1) < H.length := by omega
    rw [backP_succ, List.map_append, backP_snd H k (by omega), List.drop_eq_getElem_cons hlt, List.reverse_cons, show H.length - (k + 1) + 1 = H.length - k by omega]
    congr 1
    simp only [List.map_cons, List.map_nil]
    rw [show H.length - 1 - k = H.length - (k + 1) by omega, List.getD_eq_getElem?_getD, List.getElem?_eq_getElem hlt]
    rfl
theorem backP_all (H : List HopD) : (backP H H.length).map Prod.snd = H.reverse := by
  rw [backP_snd H _ (Nat.le_refl _), Nat.sub_self, List.drop_zero]

set_option maxRecDepth 100000 in
set_option maxHeartbeats 4000000 in
theorem backIt_any (S : Nat → Prop) (bl : Nat) (v : Value) (H : List HopD) (W0 w : World) (hl : H.length ≤ 1048576) (hbl : S bl) (hcl : w.cell? ⟨bl, 0, none⟩ = some v) (hr : ReadsHop W0 v H) (hw0 : Below W0.heap.size W0 w) (hS2 : ∀ g, v.ownBlock = some g → S g) :
    SeqO Try.prog 26 #[.pointer (some ⟨bl, 0, none⟩)] (fun p : Int × HopD => #[.int .i64 p.1, .agg #[.int .i64 p.2.From, .int .i64 p.2.To]]) S (backP H H.length) w := by
  intro ll J Jx Mine W hW hJ hJx hM hN hY h0
  obtain ⟨ao, cap, rfl, hcells⟩ := hr
  have cl : W.cell? ⟨bl, 0, none⟩ = some (.slice ao H.length cap) := (hW.cell (p := ⟨bl, 0, none⟩) (World.block_lt_of_cell? w ⟨bl, 0, none⟩ hcl)).trans hcl
  have HNM : Hid (∀ b, S b → ¬ Mine W b) := hN
  have HC : Hid (∀ wr j (hj : j < H.length), KeptBut Mine W wr → ∃ g off, ao = some ⟨g, off, none⟩ ∧ wr.cell? ⟨g, off + j * 2, none⟩ = some (.int .i64 H[j].From) ∧ wr.cell? ⟨g, off + j * 2 + 1, none⟩ = some (.int .i64 H[j].To)) := fun wr j hj hk => by
    rcases hcells with e | ⟨g, off, rfl, hg, hc⟩
    · rw [e] at hj; simp at hj
    · have h1 := hc j hj
      have hb := hw0.trans (hW.mono hw0.size)
      have hm := hN g (hS2 g rfl)
      exact ⟨g, off, rfl, hk.cell (p := ⟨g, off + j * 2, none⟩) ((hb.cell (p := ⟨g, off + j * 2, none⟩) hg).trans h1.1) hm, hk.cell (p := ⟨g, off + j * 2 + 1, none⟩) ((hb.cell (p := ⟨g, off + j * 2 + 1, none⟩) hg).trans h1.2) hm⟩
  have HM : Hid (MineOk W.heap.size J Mine) := hM
  have HY : Hid (∀ pre x W1, J pre W1 → pre ++ [x] <+: backP H H.length → YieldW Try.prog ll #[.int .i64 x.1, .agg #[.int .i64 x.2.From, .int .i64 x.2.To]] W1 fun e W' => (e = .returned (.bool true) ∧ J (pre ++ [x]) W' ∧ KeptBut Mine W1 W' ∧ KeepsFrom W.heap.size W1 W') ∨ (e = .returned (.bool false) ∧ Jx (pre ++ [x]) W' ∧ KeepsFrom W.heap.size W1 W')) := hY
  have H0 : Hid (J [] W) := h0
  have HSB : Hid (S bl) := hbl
  clear hcl hcells hw0 hS2 hM hN hY hJ h0 hJx hW
  refine callsIn_of_wp Try.func26 rfl trivial ?_ rfl
  simp only [Try.ntmps26, List.size_toArray, List.length_cons, List.length_nil, Nat.reduceAdd, Nat.reduceSub, Array.replicate_succ, Array.replicate_zero, List.push_toArray, List.append_toArray, List.nil_append, List.cons_append]
  have hwr0 : IntKind.i64.wrap ((H.length : Int) - 1) = (H.length : Int) - 1 := by rw [IntKind.wrap_i64]; omega
  gi_wp2
  gi_loopw [3] (fun i wr => ∃ k : Nat, k ≤ H.length ∧ i = .int .i64 ((H.length : Int) - 1 - (k : Int)) ∧ Hid (J (backP H k) wr ∧ KeptBut Mine W wr)) (fun i _ => (intOf i + 1).toNat)
  case atStart => exact ⟨0, Nat.zero_le _, by simp, H0.out, KeptBut.refl _ _⟩
  case round =>
    obtain ⟨k, hk, rfl, HI⟩ := hrel
    have cwr : wr.cell? ⟨bl, 0, none⟩ = some (.slice ao H.length cap) := HI.out.2.cell cl (HNM.out bl HSB.out)
    by_cases hlt : k < H.length
    · have hge : decide (0 ≤ (H.length : Int) - 1 - (k : Int)) = true := by simp; omega
      obtain ⟨g, off, rfl, hc0, hc1⟩ := HC.out wr (H.length - 1 - k) (by omega) HI.out.2
      have HT : Hid (backP H (k + 1) = backP H k ++ [((H.length : Int) - 1 - (k : Int), H[H.length - 1 - k])]) := by
        show _ = _
        rw [backP_succ, List.getD_eq_getElem?_getD, List.getElem?_eq_getElem (by omega)]
        rfl
      have HP : Hid (backP H (k + 1) <+: backP H H.length) := backP_pre H (by omega)
      obtain ⟨fn, tmps, assign, body, hy, hR⟩ := HY.out (backP H k) ((H.length : Int) - 1 - (k : Int), H[H.length - 1 - k]) wr HI.out.1 (by rw [← HT.out]; exact HP.out)
      dsimp only at hy
      have HR : Hid (∀ m, RoundIn Fence.wide m Try.prog ll fn tmps assign body wr fun e W' => (e = .returned (.bool true) ∧ J (backP H (k + 1)) W' ∧ KeptBut Mine wr W' ∧ KeepsFrom W.heap.size wr W') ∨ (e = .returned (.bool false) ∧ Jx (backP H k ++ [((H.length : Int) - 1 - (k : Int), H[H.length - 1 - k])]) W' ∧ KeepsFrom W.heap.size wr W')) := by rw [HT.out]; exact hR
      generalize H[H.length - 1 - k] = x at *
      obtain ⟨xf, xt⟩ := x
      dsimp only at hy hc0 hc1
      have e1 : (H.length : Int) - 1 - (k : Int) = ((H.length - 1 - k : Nat) : Int) := by omega
      have e2 : ((H.length - 1 - k : Nat) : Int) < (H.length : Int) := by omega
      have hwr1 : IntKind.i64.wrap (((H.length - 1 - k : Nat) : Int) - 1) = ((H.length - 1 - k : Nat) : Int) - 1 := by rw [IntKind.wrap_i64]; omega
      have e3 : ((H.length - 1 - k : Nat) : Int) - 1 = (H.length : Int) - 1 - ((k + 1 : Nat) : Int) := by omega
      have hkk : k + 1 ≤ H.length := by omega
      have hms : (((H.length - 1 - k : Nat) : Int) - 1 + 1).toNat < (((H.length - 1 - k : Nat) : Int) + 1).toNat := by omega
      rw [e1] at hge hy ⊢
      clear hR HY HP HC e1
      generalize H.length - 1 - k = q at *
      gi_wp2
      refine (HR.out _).mono ?_
      rintro e W3 (⟨rfl, hj3, hk3, -⟩ | ⟨rfl, hx3, -⟩)
      · have HF : Hid (J (backP H (k + 1)) W3 ∧ KeptBut Mine W W3) := ⟨hj3, HI.out.2.trans hk3⟩
        clear hj3 hk3 HR hy HI
        gi_wp2
        go_roundw
        case rel => exact ⟨k + 1, hkk, by rw [show ((k + 1 : Nat) : Int) = (k : Int) + 1 by omega], HF.out⟩
        case measure => simp [intOf]; omega
      · have HF : Hid (∃ p, Jx p W3) := ⟨_, hx3⟩
        clear hx3 HR hy HI
        gi_wp2
        refine bodyPost_ret (results_none rfl _ _ _) rfl ?_
        exact ⟨⟨_, rfl⟩, .inr HF.out⟩
    · have e : k = H.length := by omega
      have HE : Hid (J (backP H H.length) wr) := by rw [← e]; exact HI.out.1
      have hge : decide (0 ≤ (H.length : Int) - 1 - (k : Int)) = false := by simp; omega
      clear HI HY H0 HC
      gi_wp2
      go_end0
      exact ⟨⟨_, rfl⟩, .inl HE.out⟩
end Go.Proofs.Ythlbmkefjjckaah
