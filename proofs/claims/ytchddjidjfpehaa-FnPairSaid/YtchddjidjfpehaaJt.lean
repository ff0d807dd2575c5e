/-
  What is drawn of steps and states: 'DrawPlayPair', 'DrawNextState', 'DrawNewPair'.
-/

/-
  A pair that has settled, and what three ticks leave of it.
-/
import Derived.Test.YtchddjidjfpehaaDrawSt
import Derived.Test.YtchddjidjfpehaaSettleI
import Derived.Test.YtchddjidjfpehaaBoth
import Derived.Test.YtchddjidjfpehaaPlayPI
namespace Go.Proofs.Ytchddjidjfpehaa
open Go.RowKit
set_option linter.unusedVariables false

theorem drawPlay_any (B : Nat) (w0 W : World) (a : Option Addr) (len cap : Nat) (hC : Code B w0 a len) (hl : len ≤ 9223372036854775807) (h : Since B w0 W) :
    Calls Try.prog 16 #[.slice a len cap] W fun e W' => ∃ v l, e = .returned v ∧ OwnSt W' B v l ∧ l.length ≤ 61 ∧ Since B w0 W' := by
  have HC : Hid (Code B w0 a len) := hC
  have hBW : B ≤ W.heap.size := h.2
  have HU : Hid (Cur B w0 (W.alloc (.cells #[.slice a len cap, .int .i64 0, .int .u64 0] 67)) W.heap.size a len cap 0) := cur_new a len cap 67 h
  clear hC h
  go_enter Try.func16, Try.ntmps16
  go_wp2_with fail
  refine (pairSteps_any B w0 _ _ a len cap 0 HC.out hl (by omega) HU.out).mono ?_
  rintro e W1 ⟨v, l, rfl, ho, hll, hc1, ho1⟩
  have HO : Hid (OwnSt W1 B v l) := OwnSt.mono ho (by simp; omega)
  have S1 : Hid (Since B w0 W1) := hc1.2.2.1
  clear ho hc1 ho1 HU
  go_wp2
  go_ret
  exact ⟨v, l, rfl, HO.out, hll, S1.out⟩

theorem drawNext_any (B : Nat) (w0 W : World) (a : Option Addr) (len cap : Nat) (hC : Code B w0 a len) (hl : len ≤ 9223372036854775807) (h : Since B w0 W) :
    Calls Try.prog 26 #[.slice a len cap] W fun e W' => ∃ (s : Int) (b : Bool), e = .returned (.tuple #[.int .i64 s, .bool b]) ∧ Since B w0 W' := by
  have HC : Hid (Code B w0 a len) := hC
  have hBW : B ≤ W.heap.size := h.2
  have HU : Hid (Cur B w0 (W.alloc (.cells #[.slice a len cap, .int .i64 0, .int .u64 0] 67)) W.heap.size a len cap 0) := cur_new a len cap 67 h
  clear hC h
  go_enter Try.func26, Try.ntmps26
  go_wp2_with fail
  refine (pick_any B w0 _ _ a len cap 0 5 HC.out hl (by omega) HU.out (by omega) (by omega)).mono ?_
  rintro e W1 ⟨q, rfl, q0, q1, hc1, ho1⟩
  have C1 : Hid (Cur B w0 W1 W.heap.size a len cap 2) := hc1
  clear hc1 ho1 HU
  go_wp2_with fail
  refine (one_any B w0 _ _ a len cap 2 2 HC.out hl (by omega) C1.out (by omega) (by omega)).mono ?_
  rintro e W2 ⟨b, rfl, hc2, ho2⟩
  have S2 : Hid (Since B w0 W2) := hc2.2.2.1
  clear hc2 ho2 C1
  go_wp2
  go_ret2
  exact ⟨_, b, rfl, S2.out⟩

theorem drawNew_any (B : Nat) (w0 W : World) (a : Option Addr) (len cap : Nat) (hC : Code B w0 a len) (hl : len ≤ 9223372036854775807) (h : Since B w0 W) :
    Calls Try.prog 35 #[.slice a len cap] W fun e W' => ∃ s : Int, e = .returned (.int .i64 s) ∧ Since B w0 W' := by
  have HC : Hid (Code B w0 a len) := hC
  have hBW : B ≤ W.heap.size := h.2
  have HU : Hid (Cur B w0 (W.alloc (.cells #[.slice a len cap, .int .i64 0, .int .u64 0] 67)) W.heap.size a len cap 0) := cur_new a len cap 67 h
  clear hC h
  go_enter Try.func35, Try.ntmps35
  go_wp2_with fail
  refine (pick_any B w0 _ _ a len cap 0 6 HC.out hl (by omega) HU.out (by omega) (by omega)).mono ?_
  rintro e W1 ⟨q, rfl, q0, q1, hc1, ho1⟩
  have S1 : Hid (Since B w0 W1) := hc1.2.2.1
  clear hc1 ho1 HU
  go_wp2
  go_ret
  exact ⟨_, rfl, S1.out⟩
end Go.Proofs.Ytchddjidjfpehaa

namespace Go.Proofs.Ytchddjidjfpehaa
open Go.RowKit
set_option linter.unusedVariables false

/-- Settled, and k ticks behind it. -/
def tkk : Nat → PR
  | 0 => ⟨[2, 2], [3, 3], []⟩
  | 1 => ⟨[2, 2], [2, 2], []⟩
  | 2 => ⟨[2, 2], [1, 1], []⟩
  | _ => ⟨[0, 0], [0, 0], []⟩
theorem tkk_len : ∀ k, (tkk k).st.length = 2 ∧ (tkk k).lf.length = 2 ∧ (tkk k).ln.length = 0
  | 0 => ⟨rfl, rfl, rfl⟩
  | 1 => ⟨rfl, rfl, rfl⟩
  | 2 => ⟨rfl, rfl, rfl⟩
  | _ + 3 => ⟨rfl, rfl, rfl⟩
theorem tkk_next : ∀ k, k < 3 → stepOk (tkk k) 4 0 = true ∧ stepOut (tkk k) 4 0 = tkk (k + 1)
  | 0, _ => ⟨rfl, rfl⟩
  | 1, _ => ⟨rfl, rfl⟩
  | 2, _ => ⟨rfl, rfl⟩
  | _ + 3, h => absurd h (by omega)
theorem tkk_both : bothB (tkk 0) = true ∧ goodPr (tkk 0) = true := ⟨rfl, rfl⟩
theorem settle_two (p : PR) (h : goodPr p = true) : settleOut p = tkk 0 := by
  unfold settleOut
  rw [if_pos h]
  obtain ⟨s0, s1, l0, l1, ln, rfl, g0, g1, hl, hL⟩ := goodPr_form p h
  by_cases hs : s0 = 0
  · subst hs
    rfl
  · have e : decide (s0 ≠ 0) = true := decide_eq_true hs
    simp [playP, settleSteps, oneP, canB, stepP, heardS, tkk, hs]
theorem play_ok_good (ss : List ST) (h : playOk ss = true) : goodPr (playOut ss) = true := by
  unfold playOut
  rw [if_pos h]
  exact play_good ss _ new_good
theorem tickStep (W : World) (x y z : Value) (k : Nat) (hk : k < 3) (h : Own3 W 0 x y z (tkk k)) :
    Calls Try.prog 24 #[.agg #[x, y, z], .agg #[.int .i64 4, .int .i64 0]] W fun e W' => ∃ x' y' z', e = .returned (.tuple #[.agg #[x', y', z'], .bool true]) ∧ Own3 W' W.heap.size x' y' z' (tkk (k + 1)) ∧ Below W.heap.size W W' := by
  obtain ⟨k1, k2, k3⟩ := tkk_len k
  have := implStep_any W 0 x y z (tkk k) 4 0 h (by omega) (by omega) (by omega)
  rw [(tkk_next k hk).1, (tkk_next k hk).2] at this
  exact this
theorem settleStep (W : World) (x y z : Value) (p : PR) (hg : goodPr p = true) (h : Own3 W 0 x y z p) (h1 : p.st.length ≤ 1048576) (h2 : p.lf.length ≤ 1048576) (h3 : p.ln.length ≤ 1048576) :
    Calls Try.prog 21 #[.agg #[x, y, z]] W fun e W' => ∃ x' y' z', e = .returned (.tuple #[.agg #[x', y', z'], .bool true]) ∧ Own3 W' W.heap.size x' y' z' (tkk 0) ∧ Below W.heap.size W W' := by
  have := implSettle_any W 0 x y z p h (Nat.zero_le _) h1 h2 h3
  rw [hg, settle_two p hg] at this
  exact this
theorem bothStep (W : World) (x y z : Value) (h : Reads3 W x y z (tkk 0)) :
    Calls Try.prog 22 #[.agg #[x, y, z]] W fun e W' => e = .returned (.tuple #[.bool true, .bool true]) ∧ Below W.heap.size W W' := by
  have := implBoth_any W x y z (tkk 0) h (by decide) (by decide) (by decide)
  rw [tkk_both.1, tkk_both.2] at this
  exact this
/-- Two noughts typed out. -/
theorem two_lit (W : World) : Reads (W.alloc (.cells #[.int .i64 0, .int .i64 0] 3)) (.slice (some ⟨W.heap.size, 0, none⟩) 2 2) [0, 0] := by
  refine ⟨_, 2, rfl, .inr ⟨_, 0, rfl, by simp, fun j hj => ?_⟩⟩
  rw [World.cell?_alloc_at _ _ _ _ rfl]
  match j, hj with
  | 0, _ => rfl
  | 1, _ => rfl
end Go.Proofs.Ytchddjidjfpehaa
