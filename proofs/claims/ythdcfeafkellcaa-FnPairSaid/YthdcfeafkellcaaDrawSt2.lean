/-
  What is drawn of steps and states: 'DrawPlayPair', 'DrawNextState', 'DrawNewPair'.
-/
import Derived.Test.YthdcfeafkellcaaDrawSt
namespace Go.Proofs.Ythdcfeafkellcaa
open Go.RowKit
set_option linter.unusedVariables false

theorem drawPlay_any (B : Nat) (w0 W : World) (a : Option Addr) (len cap : Nat) (hC : Code B w0 a len) (hl : len ≤ 9223372036854775807) (h : Since B w0 W) :
    Calls Try.prog 16 #[.slice a len cap] W fun e W' => ∃ v l, e = .returned v ∧ OwnSt W' B v l ∧ l.length ≤ 61 ∧ Since B w0 W' := by
  have HC : Hid (Code B w0 a len) := hC
  have hBW : B ≤ W.heap.size := h.2
  have HU : Hid (Cur B w0 (W.alloc (.cells #[.slice a len cap, .int .i64 0, .int .u64 0] 67)) W.heap.size a len cap 0) := cur_new a len cap 67 h
  clear hC h
  go_enter Try.func16, Try.ntmps16
  go_wp2_with fail
  refine (pairSteps_any B w0 _ _ a len cap 0 HC.out hl (by omega) HU.out).mono ?_
  rintro e W1 ⟨v, l, rfl, ho, hll, hc1, ho1⟩
  have HO : Hid (OwnSt W1 B v l) := OwnSt.mono ho (by simp; omega)
  have S1 : Hid (Since B w0 W1) := hc1.2.2.1
  clear ho hc1 ho1 HU
  go_wp2
  go_ret
  exact ⟨v, l, rfl, HO.out, hll, S1.out⟩

theorem drawNext_any (B : Nat) (w0 W : World) (a : Option Addr) (len cap : Nat) (hC : Code B w0 a len) (hl : len ≤ 9223372036854775807) (h : Since B w0 W) :
    Calls Try.prog 26 #[.slice a len cap] W fun e W' => ∃ (s : Int) (b : Bool), e = .returned (.tuple #[.int .i64 s, .bool b]) ∧ Since B w0 W' := by
  have HC : Hid (Code B w0 a len) := hC
  have hBW : B ≤ W.heap.size := h.2
  have HU : Hid (Cur B w0 (W.alloc (.cells #[.slice a len cap, .int .i64 0, .int .u64 0] 67)) W.heap.size a len cap 0) := cur_new a len cap 67 h
  clear hC h
  go_enter Try.func26, Try.ntmps26
  go_wp2_with fail
  refine (pick_any B w0 _ _ a len cap 0 5 HC.out hl (by omega) HU.out (by omega) (by omega)).mono ?_
  rintro e W1 ⟨q, rfl, q0, q1, hc1, ho1⟩
  have C1 : Hid (Cur B w0 W1 W.heap.size a len cap 2) := hc1
  clear hc1 ho1 HU
  go_wp2_with fail
  refine (one_any B w0 _ _ a len cap 2 2 HC.out hl (by omega) C1.out (by omega) (by omega)).mono ?_
  rintro e W2 ⟨b, rfl, hc2, ho2⟩
  have S2 : Hid (Since B w0 W2) := hc2.2.2.1
  clear hc2 ho2 C1
  go_wp2
  go_ret2
  exact ⟨_, b, rfl, S2.out⟩

theorem drawNew_any (B : Nat) (w0 W : World) (a : Option Addr) (len cap : Nat) (hC : Code B w0 a len) (hl : len ≤ 9223372036854775807) (h : Since B w0 W) :
    Calls Try.prog 35 #[.slice a len cap] W fun e W' => ∃ s : Int, e = .returned (.int .i64 s) ∧ Since B w0 W' := by
  have HC : Hid (Code B w0 a len) := hC
  have hBW : B ≤ W.heap.size := h.2
  have HU : Hid (Cur B w0 (W.alloc (.cells #[.slice a len cap, .int .i64 0, .int .u64 0] 67)) W.heap.size a len cap 0) := cur_new a len cap 67 h
  clear hC h
  go_enter Try.func35, Try.ntmps35
  go_wp2_with fail
  refine (pick_any B w0 _ _ a len cap 0 6 HC.out hl (by omega) HU.out (by omega) (by omega)).mono ?_
  rintro e W1 ⟨q, rfl, q0, q1, hc1, ho1⟩
  have S1 : Hid (Since B w0 W1) := hc1.2.2.1
  clear hc1 ho1 HU
  go_wp2
  go_ret
  exact ⟨_, rfl, S1.out⟩
end Go.Proofs.Ythdcfeafkellcaa
