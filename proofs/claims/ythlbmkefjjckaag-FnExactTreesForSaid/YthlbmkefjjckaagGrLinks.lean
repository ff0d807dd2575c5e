/-
  'linksAt': the iterator over what lies at a spot's edges.
-/
import Derived.Test.YthlbmkefjjckaagRound
import Derived.Test.YthlbmkefjjckaagGrNear
import Derived.Test.YthlbmkefjjckaagGrFarN
namespace Go.Proofs.Ythlbmkefjjckaag
open Go.RowKit
set_option linter.unusedVariables false
attribute [local go_sem] Oper.semAt_some wide_fn

set_option maxHeartbeats 1000000 in
theorem linksAt_any (W : World) (v : Value) (hv : ∃ a n c, v = .slice a n c) (a : Int) :
    Calls Try.prog 95 #[v, .int .i64 a] W fun e W' => e = .returned (.func (.func 101) #[] #[.pointer (some ⟨W.heap.size, 0, none⟩), .pointer (some ⟨W.heap.size + 1, 0, none⟩)]) ∧ W' = (W.alloc (.cells #[v] 39)).alloc (.cells #[.int .i64 a] 3) := by
  obtain ⟨a1, n1, c1, rfl⟩ := hv
  go_enter Try.func95, Try.ntmps95
  go_wp2
  go_ret
  exact ⟨rfl, rfl⟩

set_option maxRecDepth 100000 in
set_option maxHeartbeats 4000000 in
theorem linksIt_any (S : Nat → Prop) (bl ba : Nat) (v : Value) (l : List EdD) (n : Nat) (a : Int) (W0 w : World) (hn : n ≤ 12) (hf : FitEd n l) (ha : 0 ≤ a ∧ a < n) (hl : l.length ≤ 40) (hbl : S bl) (hba : S ba)
    (hcl : w.cell? ⟨bl, 0, none⟩ = some v) (hca : w.cell? ⟨ba, 0, none⟩ = some (.int .i64 a)) (hr : ReadsEd W0 v l) (hw0 : Below W0.heap.size W0 w) (hS2 : ∀ b, b < W0.heap.size → S b) :
    SeqO Try.prog 101 #[.pointer (some ⟨bl, 0, none⟩), .pointer (some ⟨ba, 0, none⟩)] (fun p : Int × Int => #[.int .i64 p.1, .int .i64 p.2]) S (linksD l a) w := by
  intro ll J Jx Mine W hW hJ hJx hM hN hY h0
  have HW0 : Hid (Below W0.heap.size W0 W) := hw0.trans (hW.mono hw0.size)
  have HM : Hid (MineOk W.heap.size J Mine) := hM
  have HNM : Hid (∀ b, S b → ¬ Mine W b) := hN
  have HY : Hid (∀ pre x W1, J pre W1 → pre ++ [x] <+: linksD l a → YieldW Try.prog ll #[.int .i64 x.1, .int .i64 x.2] W1 fun e W' => (e = .returned (.bool true) ∧ J (pre ++ [x]) W' ∧ KeptBut Mine W1 W' ∧ KeepsFrom W.heap.size W1 W') ∨ (e = .returned (.bool false) ∧ Jx (pre ++ [x]) W' ∧ KeepsFrom W.heap.size W1 W')) := hY
  have HJ : Hid (OwnFrom W.heap.size J) := hJ
  have H0 : Hid (J [] W) := h0
  obtain ⟨ao, cap, hv, hcells⟩ := hr
  have HC : Hid (l = [] ∨ ∃ g off, ao = some ⟨g, off, none⟩ ∧ g < W0.heap.size ∧ ∀ j (hj : j < l.length), EdAt W0 g (off + j * 3) l[j]) := hcells
  have HS2 : Hid (∀ b, b < W0.heap.size → S b) := hS2
  have HCA : Hid (W.cell? ⟨ba, 0, none⟩ = some (.int .i64 a)) := (hW.cell (p := ⟨ba, 0, none⟩) (World.block_lt_of_cell? w ⟨ba, 0, none⟩ hca)).trans hca
  have cl : W.cell? ⟨bl, 0, none⟩ = some (.slice ao l.length cap) := by rw [← hv]; exact (hW.cell (p := ⟨bl, 0, none⟩) (World.block_lt_of_cell? w ⟨bl, 0, none⟩ hcl)).trans hcl
  have HF : Hid (FitEd n l) := hf
  clear hW hJ hJx hY h0 hcells hS2 hf hca hcl hw0 hM hN
  refine callsIn_of_wp Try.func101 rfl trivial ?_ rfl
  simp only [Try.ntmps101, List.size_toArray, List.length_cons, List.length_nil, Nat.reduceAdd, Nat.reduceSub, Array.replicate_succ, Array.replicate_zero, List.push_toArray, List.append_toArray, List.nil_append, List.cons_append]
  gi_wp2
  gi_loopw [9] (fun i wr => ∃ k : Nat, k ≤ l.length ∧ i = .int .i64 k ∧ Hid (J (linksD (l.take k) a) wr ∧ KeptBut Mine W wr)) (fun i _ => l.length - (intOf i).toNat)
  case atStart => exact ⟨0, Nat.zero_le _, rfl, H0.out, KeptBut.refl _ _⟩
  case round =>
    obtain ⟨k, hk, rfl, HI⟩ := hrel
    by_cases hlt : k < l.length
    · have hlt' : (k : Int) < (l.length : Int) := by omega
      obtain ⟨x, hx⟩ : ∃ x, x = l[k] := ⟨_, rfl⟩
      rcases HC.out with e0 | ⟨g, off, rfl, hg, hcs⟩
      · rw [e0] at hlt; cases hlt
      have hSg : S g := HS2.out g hg
      have hc := hcs k hlt
      rw [← hx] at hc
      have kk := HI.out.2
      have hmg := HNM.out g hSg
      have c0 : wr.cell? ⟨g, off + k * 3, none⟩ = some (.int .i64 x.A) := kk.cell (p := ⟨g, off + k * 3, none⟩) ((HW0.out.cell (p := ⟨g, off + k * 3, none⟩) hg).trans hc.1) hmg
      have c1 : wr.cell? ⟨g, off + k * 3 + 1, none⟩ = some (.int .i64 x.B) := kk.cell (p := ⟨g, off + k * 3 + 1, none⟩) ((HW0.out.cell (p := ⟨g, off + k * 3 + 1, none⟩) hg).trans hc.2.1) hmg
      have c2 : wr.cell? ⟨g, off + k * 3 + 2, none⟩ = some (.int .i64 x.Cost) := kk.cell (p := ⟨g, off + k * 3 + 2, none⟩) ((HW0.out.cell (p := ⟨g, off + k * 3 + 2, none⟩) hg).trans hc.2.2) hmg
      have ca : wr.cell? ⟨ba, 0, none⟩ = some (.int .i64 a) := HI.out.2.cell (p := ⟨ba, 0, none⟩) HCA.out (HNM.out ba hba)
      have fx := HF.out l[k] (List.getElem_mem hlt)
      rw [← hx] at fx
      obtain ⟨xA, xB, xC⟩ := x
      dsimp only at c0 c1 c2 fx hx
      have ba1 : 0 ≤ xA ∧ xA ≤ 12 := by omega
      have ba2 : 0 ≤ xB ∧ xB ≤ 12 := by omega
      have ba3 : 0 ≤ a ∧ a ≤ 12 := by omega
      have hlk : (wr.alloc (.cells #[.int .i64 xA, .int .i64 xB, .int .i64 xC] 69)).cell? ⟨ba, 0, none⟩ = some (.int .i64 a) := (World.cell?_alloc_lt _ _ _ (World.block_lt_of_cell? wr ⟨ba, 0, none⟩ ca)).trans ca
      have HT : Hid (linksD (l.take (k + 1)) a = linksD (l.take k) a ++ if xA = a ∨ xB = a then [(xA + xB - a, xC)] else []) := by
        have := linksD_take l a k hlt
        rw [← hx] at this
        exact this
      have HP : Hid (linksD (l.take (k + 1)) a <+: linksD l a) := linksD_pre l a (k + 1)
      have HJ1 : Hid (J (linksD (l.take k) a) (wr.alloc (.cells #[.int .i64 xA, .int .i64 xB, .int .i64 xC] 69))) := HJ.out.alloc _ HI.out.1
      have HK1 : Hid (KeptBut Mine W (wr.alloc (.cells #[.int .i64 xA, .int .i64 xB, .int .i64 xC] 69))) := HI.out.2.trans (KeptBut.below HM.out HI.out.1 HI.out.2.1 ((Below.refl _ wr).alloc (Nat.le_refl _) _))
      clear kk hc hcs fx hx HC HI ca
      by_cases h1 : xA = a
      · have HT1 : Hid (linksD (l.take (k + 1)) a = linksD (l.take k) a ++ [(xB, xC)]) := by
          have := HT.out
          rw [if_pos (.inl h1), show xA + xB - a = xB by omega] at this
          exact this
        clear HT
        subst h1
        have e1 : xA + xB - xA = xB := by omega
        obtain ⟨fn, tmps, assign, body, hy, hR⟩ := HY.out (linksD (l.take k) xA) (xB, xC) (wr.alloc (.cells #[.int .i64 xA, .int .i64 xB, .int .i64 xC] 69)) HJ1.out (by rw [← HT1.out]; exact HP.out)
        dsimp only at hy
        have HR : Hid (∀ m, RoundIn Fence.wide m Try.prog ll fn tmps assign body (wr.alloc (.cells #[.int .i64 xA, .int .i64 xB, .int .i64 xC] 69)) fun e W' => (e = .returned (.bool true) ∧ J (linksD (l.take (k + 1)) xA) W' ∧ KeptBut Mine (wr.alloc (.cells #[.int .i64 xA, .int .i64 xB, .int .i64 xC] 69)) W' ∧ KeepsFrom W.heap.size (wr.alloc (.cells #[.int .i64 xA, .int .i64 xB, .int .i64 xC] 69)) W') ∨ (e = .returned (.bool false) ∧ Jx (linksD (l.take k) xA ++ [(xB, xC)]) W' ∧ KeepsFrom W.heap.size (wr.alloc (.cells #[.int .i64 xA, .int .i64 xB, .int .i64 xC] 69)) W')) := by rw [HT1.out]; exact hR
        clear hR HY HJ H0 HJ1
        gi_wp2
        refine (HR.out _).mono ?_
        rintro e W3 (⟨rfl, hj3, hk3, -⟩ | ⟨rfl, hx3, -⟩)
        · have HF : Hid (J (linksD (l.take (k + 1)) xA) W3 ∧ KeptBut Mine W W3) := ⟨hj3, HK1.out.trans hk3⟩
          clear hj3 hk3 HR hy
          gi_wp2
          go_roundw
          case rel => exact ⟨k + 1, by omega, by go_num, HF.out⟩
          case measure => simp [intOf]; omega
        · have HF : Hid (Jx (linksD (l.take k) xA ++ [(xB, xC)]) W3) := hx3
          clear hx3 HR hy
          gi_wp2
          refine bodyPost_ret (results_none rfl _ _ _) rfl ?_
          exact ⟨⟨_, rfl⟩, .inr ⟨_, HF.out⟩⟩
      · by_cases h2 : xB = a
        · have HT1 : Hid (linksD (l.take (k + 1)) a = linksD (l.take k) a ++ [(xA, xC)]) := by
            have := HT.out
            rw [if_pos (.inr h2), show xA + xB - a = xA by omega] at this
            exact this
          clear HT
          subst h2
          have h1' : (xA == xB) = false := by simpa using h1
          obtain ⟨fn, tmps, assign, body, hy, hR⟩ := HY.out (linksD (l.take k) xB) (xA, xC) (wr.alloc (.cells #[.int .i64 xA, .int .i64 xB, .int .i64 xC] 69)) HJ1.out (by rw [← HT1.out]; exact HP.out)
          dsimp only at hy
          have HR : Hid (∀ m, RoundIn Fence.wide m Try.prog ll fn tmps assign body (wr.alloc (.cells #[.int .i64 xA, .int .i64 xB, .int .i64 xC] 69)) fun e W' => (e = .returned (.bool true) ∧ J (linksD (l.take (k + 1)) xB) W' ∧ KeptBut Mine (wr.alloc (.cells #[.int .i64 xA, .int .i64 xB, .int .i64 xC] 69)) W' ∧ KeepsFrom W.heap.size (wr.alloc (.cells #[.int .i64 xA, .int .i64 xB, .int .i64 xC] 69)) W') ∨ (e = .returned (.bool false) ∧ Jx (linksD (l.take k) xB ++ [(xA, xC)]) W' ∧ KeepsFrom W.heap.size (wr.alloc (.cells #[.int .i64 xA, .int .i64 xB, .int .i64 xC] 69)) W')) := by rw [HT1.out]; exact hR
          clear hR HY HJ H0 HJ1
          gi_wp2
          refine (HR.out _).mono ?_
          rintro e W3 (⟨rfl, hj3, hk3, -⟩ | ⟨rfl, hx3, -⟩)
          · have HF : Hid (J (linksD (l.take (k + 1)) xB) W3 ∧ KeptBut Mine W W3) := ⟨hj3, HK1.out.trans hk3⟩
            clear hj3 hk3 HR hy
            gi_wp2
            go_roundw
            case rel => exact ⟨k + 1, by omega, by go_num, HF.out⟩
            case measure => simp [intOf]; omega
          · have HF : Hid (Jx (linksD (l.take k) xB ++ [(xA, xC)]) W3) := hx3
            clear hx3 HR hy
            gi_wp2
            refine bodyPost_ret (results_none rfl _ _ _) rfl ?_
            exact ⟨⟨_, rfl⟩, .inr ⟨_, HF.out⟩⟩
        · have HT1 : Hid (linksD (l.take (k + 1)) a = linksD (l.take k) a) := by
            have := HT.out
            rw [if_neg (by omega), List.append_nil] at this
            exact this
          have HF : Hid (J (linksD (l.take (k + 1)) a) (wr.alloc (.cells #[.int .i64 xA, .int .i64 xB, .int .i64 xC] 69))) := by
            show J _ _
            rw [HT1.out]
            exact HJ1.out
          have h1' : (xA == a) = false := by simpa using h1
          have h2' : (xB == a) = false := by simpa using h2
          clear HT HT1 HY HJ H0 HJ1
          gi_wp2
          go_roundw
          case rel => exact ⟨k + 1, by omega, by go_num, HF.out, HK1.out⟩
          case measure => simp [intOf]; omega
    · have e : k = l.length := by omega
      have HE : Hid (J (linksD l a) wr) := by
        have := HI.out.1
        rw [e, List.take_length] at this
        exact this
      clear HI HY HJ H0
      subst e
      gi_wp2
      go_end0
      exact ⟨⟨_, rfl⟩, .inl HE.out⟩
end Go.Proofs.Ythlbmkefjjckaag
