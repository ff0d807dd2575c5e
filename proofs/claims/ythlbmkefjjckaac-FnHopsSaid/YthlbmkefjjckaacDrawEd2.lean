/-
  Lists compared in the laws of chapter 8; edges drawn: alone, with a number.
-/
import Derived.Test.YthlbmkefjjckaacDrawEd
import Derived.Test.YthlbmkefjjckaacNum0
namespace Go.Proofs.Ythlbmkefjjckaac
open Go.RowKit
set_option linter.unusedVariables false

set_option maxRecDepth 100000 in
set_option maxHeartbeats 2000000 in
theorem sameInts_same (W : World) (v1 v2 : Value) (zs : List Int) (h1 : Reads W v1 zs) (h2 : Reads W v2 zs) (hl : zs.length ≤ 4194304) :
    Calls Try.prog 17 #[v1, v2] W fun e W' => e = .returned (.bool true) ∧ Below W.heap.size W W' := by
  obtain ⟨a1, cap1, rfl, hc1⟩ := h1
  obtain ⟨a2, cap2, rfl, hc2⟩ := h2
  by_cases hz : zs = []
  · subst hz
    simp only [List.length_nil]
    clear hc1 hc2
    go_enter Try.func17, Try.ntmps17
    go_wp2
    refine wp_loop_rounds 1 ?_
    rw [rounds_succ]
    go_wp2
    go_ret
    exact ⟨rfl, Below.refl _ _⟩
  · obtain ⟨g1, o1, rfl, -, hc1⟩ := hc1.resolve_left hz
    obtain ⟨g2, o2, rfl, -, hc2⟩ := hc2.resolve_left hz
    have HC1 : Hid (∀ j (hj : j < zs.length), W.cell? ⟨g1, o1 + j, none⟩ = some (.int .i64 zs[j])) := hc1
    have HC2 : Hid (∀ j (hj : j < zs.length), W.cell? ⟨g2, o2 + j, none⟩ = some (.int .i64 zs[j])) := hc2
    clear hc1 hc2 hz
    go_enter Try.func17, Try.ntmps17
    go_wp2
    go_loopw [13] (fun i wr => ∃ k : Nat, k ≤ zs.length ∧ i = .int .i64 k ∧ ∃ n, wr = W.drewN n) (fun i _ => zs.length - (intOf i).toNat)
    case atStart => exact ⟨0, Nat.zero_le _, rfl, 0, rfl⟩
    case round =>
      obtain ⟨k, hk, rfl, n, rfl⟩ := hrel
      by_cases hlt : k < zs.length
      · have c1 : W.cell? ⟨g1, o1 + k, none⟩ = some (.int .i64 zs[k]) := HC1.out k hlt
        have c2 : W.cell? ⟨g2, o2 + k, none⟩ = some (.int .i64 zs[k]) := HC2.out k hlt
        generalize zs[k] = z at c1 c2
        have hlt' : (k : Int) < (zs.length : Int) := by omega
        go_wp2
        go_quiet (fail)
        go_wp2
        go_roundw
        case rel => exact ⟨k + 1, by omega, by go_num, _, rfl⟩
        case measure => simp [intOf]; omega
      · have hlt' : ¬ (k : Int) < (zs.length : Int) := by omega
        go_wp2
        go_ret
        exact ⟨rfl, below_drewN (Below.refl _ _) _⟩

set_option maxRecDepth 100000 in
set_option maxHeartbeats 2000000 in
theorem sameEds_same (W : World) (v1 v2 : Value) (hs : List EdD) (h1 : ReadsEd W v1 hs) (h2 : ReadsEd W v2 hs) (hl : hs.length ≤ 4194304) :
    Calls Try.prog 43 #[v1, v2] W fun e W' => e = .returned (.bool true) ∧ Below W.heap.size W W' := by
  obtain ⟨a1, cap1, rfl, hc1⟩ := h1
  obtain ⟨a2, cap2, rfl, hc2⟩ := h2
  by_cases hz : hs = []
  · subst hz
    simp only [List.length_nil]
    clear hc1 hc2
    go_enter Try.func43, Try.ntmps43
    go_wp2
    refine wp_loop_rounds 1 ?_
    rw [rounds_succ]
    go_wp2
    go_ret
    exact ⟨rfl, Below.refl _ _⟩
  · obtain ⟨g1, o1, rfl, -, hc1⟩ := hc1.resolve_left hz
    obtain ⟨g2, o2, rfl, -, hc2⟩ := hc2.resolve_left hz
    have HC1 : Hid (∀ j (hj : j < hs.length), EdAt W g1 (o1 + j * 3) hs[j]) := hc1
    have HC2 : Hid (∀ j (hj : j < hs.length), EdAt W g2 (o2 + j * 3) hs[j]) := hc2
    clear hc1 hc2 hz
    go_enter Try.func43, Try.ntmps43
    go_wp2
    go_loopw [13] (fun i wr => ∃ k : Nat, k ≤ hs.length ∧ i = .int .i64 k ∧ ∃ n, wr = W.drewN n) (fun i _ => hs.length - (intOf i).toNat)
    case atStart => exact ⟨0, Nat.zero_le _, rfl, 0, rfl⟩
    case round =>
      obtain ⟨k, hk, rfl, n, rfl⟩ := hrel
      by_cases hlt : k < hs.length
      · obtain ⟨q0, q1, q2⟩ := HC1.out k hlt
        obtain ⟨r0, r1, r2⟩ := HC2.out k hlt
        generalize hs[k] = x at *
        have hlt' : (k : Int) < (hs.length : Int) := by omega
        go_wp2
        go_quiet (fail)
        go_wp2
        go_roundw
        case rel => exact ⟨k + 1, by omega, by go_num, _, rfl⟩
        case measure => simp [intOf]; omega
      · have hlt' : ¬ (k : Int) < (hs.length : Int) := by omega
        go_wp2
        go_ret
        exact ⟨rfl, below_drewN (Below.refl _ _) _⟩

def DrawnE (B : Nat) (w0 W : World) (e : Ending) (W' : World) : Prop := ∃ (n : Nat) (v : Value) (l : List EdD), e = .returned (.tuple #[.int .i64 (n : Int), v]) ∧ OwnEd W' W.heap.size v l ∧ l.length ≤ 40 ∧ n ≤ 13 ∧ Since B w0 W'
def DrawnEi (B : Nat) (w0 W : World) (e : Ending) (W' : World) : Prop := ∃ (n : Nat) (v : Value) (l : List EdD) (r : Int), e = .returned (.tuple #[.int .i64 (n : Int), v, .int .i64 r]) ∧ OwnEd W' W.heap.size v l ∧ l.length ≤ 40 ∧ n ≤ 13 ∧ Since B w0 W'

set_option maxRecDepth 100000 in
set_option maxHeartbeats 2000000 in
theorem drawGood_any (B : Nat) (w0 W : World) (a : Option Addr) (len cap : Nat) (hC : Code B w0 a len) (hl : len ≤ 9223372036854775807) (h : Since B w0 W) :
    Calls Try.prog 89 #[.slice a len cap] W (DrawnE B w0 W) := by
  have HC : Hid (Code B w0 a len) := hC
  have HU : Hid (Cur B w0 (W.alloc (.cells #[.slice a len cap, .int .i64 0, .int .u64 0] 93)) W.heap.size a len cap 0) := cur_new a len cap 93 h
  clear hC h
  go_enter Try.func89, Try.ntmps89
  go_wp2_with fail
  refine (edges_any B w0 _ _ a len cap 0 HC.out hl (by omega) HU.out).mono ?_
  rintro e W1 ⟨n, v, l, rfl, ho1, hl1, hn1, hc1, hx1⟩
  have HP : Hid (DrawnE B w0 W (.returned (.tuple #[.int .i64 (n : Int), v])) W1) := ⟨n, v, l, rfl, ho1.mono (by simp), hl1, hn1, hc1.2.2.1⟩
  clear ho1 hc1 hx1 HU
  go_wp2
  refine bodyPost_ret (results_tmp2 rfl _ _ _) rfl ?_
  exact HP.out

theorem drawGroups_any (B : Nat) (w0 W : World) (a : Option Addr) (len cap : Nat) (hC : Code B w0 a len) (hl : len ≤ 9223372036854775807) (h : Since B w0 W) :
    Calls Try.prog 31 #[.slice a len cap] W (DrawnE B w0 W) := by
  have HC : Hid (Calls Try.prog 89 #[.slice a len cap] W (DrawnE B w0 W)) := drawGood_any B w0 W a len cap hC hl h
  clear hC h
  go_enter Try.func31, Try.ntmps31
  go_wp2_with fail
  refine HC.out.mono ?_
  rintro e W1 ⟨n, v, l, rfl, ho1, hl1, hn1, hs1⟩
  have HP : Hid (DrawnE B w0 W (.returned (.tuple #[.int .i64 (n : Int), v])) W1) := ⟨n, v, l, rfl, ho1, hl1, hn1, hs1⟩
  clear ho1 hs1
  go_wp2
  refine bodyPost_ret (results_tmp2 rfl _ _ _) rfl ?_
  exact HP.out

theorem drawIsOne_any (B : Nat) (w0 W : World) (a : Option Addr) (len cap : Nat) (hC : Code B w0 a len) (hl : len ≤ 9223372036854775807) (h : Since B w0 W) :
    Calls Try.prog 38 #[.slice a len cap] W (DrawnE B w0 W) := by
  have HC : Hid (Calls Try.prog 89 #[.slice a len cap] W (DrawnE B w0 W)) := drawGood_any B w0 W a len cap hC hl h
  clear hC h
  go_enter Try.func38, Try.ntmps38
  go_wp2_with fail
  refine HC.out.mono ?_
  rintro e W1 ⟨n, v, l, rfl, ho1, hl1, hn1, hs1⟩
  have HP : Hid (DrawnE B w0 W (.returned (.tuple #[.int .i64 (n : Int), v])) W1) := ⟨n, v, l, rfl, ho1, hl1, hn1, hs1⟩
  clear ho1 hs1
  go_wp2
  refine bodyPost_ret (results_tmp2 rfl _ _ _) rfl ?_
  exact HP.out

set_option maxRecDepth 100000 in
set_option maxHeartbeats 2000000 in
theorem drawNear_any (B : Nat) (w0 W : World) (a : Option Addr) (len cap : Nat) (hC : Code B w0 a len) (hl : len ≤ 9223372036854775807) (h : Since B w0 W) :
    Calls Try.prog 44 #[.slice a len cap] W (DrawnEi B w0 W) := by
  have HC : Hid (Code B w0 a len) := hC
  have HU : Hid (Cur B w0 (W.alloc (.cells #[.slice a len cap, .int .i64 0, .int .u64 0] 93)) W.heap.size a len cap 0) := cur_new a len cap 93 h
  clear hC h
  go_enter Try.func44, Try.ntmps44
  go_wp2_with fail
  refine (edges_any B w0 _ _ a len cap 0 HC.out hl (by omega) HU.out).mono ?_
  rintro e W1 ⟨n, v, l, rfl, ho1, hl1, hn1, hc1, hx1⟩
  obtain ⟨a1, c1, rfl⟩ := ho1.shape
  have O1 : Hid (OwnEd W1 (W.heap.size + 1) (.slice a1 l.length c1) l) := by show OwnEd _ _ _ _; have := ho1; simp at this; exact this
  have C1 : Hid (Cur B w0 W1 W.heap.size a len cap 1000) := hc1.mono (by omega)
  clear ho1 hc1 hx1 HU
  obtain ⟨kk, hkk, hk1, hk2⟩ : ∃ kk : Int, IntKind.i64.wrap ((n : Int) + 2) = kk ∧ 2 ≤ kk ∧ kk ≤ 50 := ⟨(n : Int) + 2, by rw [IntKind.wrap_i64]; omega, by omega, by omega⟩
  go_wp2_with fail
  refine (pick_any B w0 _ W.heap.size a len cap 1000 kk HC.out hl (by omega) C1.out (by omega) (by omega)).mono ?_
  rintro e W2 ⟨r, rfl, r0, r1, hc2, ho2⟩
  obtain ⟨rr, hrr⟩ : ∃ rr : Int, IntKind.i64.wrap (r - 1) = rr := ⟨_, rfl⟩
  have HP : Hid (DrawnEi B w0 W (.returned (.tuple #[.int .i64 (n : Int), .slice a1 l.length c1, .int .i64 rr])) W2) := ⟨n, _, l, rr, rfl, rowMono (rowOnly O1.out ho2 (by omega)) (Nat.le_succ _), hl1, hn1, hc2.2.2.1⟩
  clear hc2 ho2 C1 O1
  go_wp2
  refine bodyPost_ret (results_tmp3 rfl _ _ _) rfl ?_
  exact HP.out

set_option maxRecDepth 100000 in
set_option maxHeartbeats 2000000 in
theorem drawWo_any (B : Nat) (w0 W : World) (a : Option Addr) (len cap : Nat) (hC : Code B w0 a len) (hl : len ≤ 9223372036854775807) (h : Since B w0 W) :
    Calls Try.prog 47 #[.slice a len cap] W (DrawnEi B w0 W) := by
  have HC : Hid (Code B w0 a len) := hC
  have HU : Hid (Cur B w0 (W.alloc (.cells #[.slice a len cap, .int .i64 0, .int .u64 0] 93)) W.heap.size a len cap 0) := cur_new a len cap 93 h
  clear hC h
  go_enter Try.func47, Try.ntmps47
  go_wp2_with fail
  refine (edges_any B w0 _ _ a len cap 0 HC.out hl (by omega) HU.out).mono ?_
  rintro e W1 ⟨n, v, l, rfl, ho1, hl1, hn1, hc1, hx1⟩
  obtain ⟨a1, c1, rfl⟩ := ho1.shape
  have O1 : Hid (OwnEd W1 (W.heap.size + 1) (.slice a1 l.length c1) l) := by show OwnEd _ _ _ _; have := ho1; simp at this; exact this
  have C1 : Hid (Cur B w0 W1 W.heap.size a len cap 1000) := hc1.mono (by omega)
  clear ho1 hc1 hx1 HU
  obtain ⟨kk, hkk, hk1, hk2⟩ : ∃ kk : Int, IntKind.i64.wrap ((l.length : Int) + 2) = kk ∧ 2 ≤ kk ∧ kk ≤ 50 := ⟨(l.length : Int) + 2, by rw [IntKind.wrap_i64]; omega, by omega, by omega⟩
  go_wp2_with fail
  refine (pick_any B w0 _ W.heap.size a len cap 1000 kk HC.out hl (by omega) C1.out (by omega) (by omega)).mono ?_
  rintro e W2 ⟨r, rfl, r0, r1, hc2, ho2⟩
  obtain ⟨rr, hrr⟩ : ∃ rr : Int, IntKind.i64.wrap (r - 1) = rr := ⟨_, rfl⟩
  have HP : Hid (DrawnEi B w0 W (.returned (.tuple #[.int .i64 (n : Int), .slice a1 l.length c1, .int .i64 rr])) W2) := ⟨n, _, l, rr, rfl, rowMono (rowOnly O1.out ho2 (by omega)) (Nat.le_succ _), hl1, hn1, hc2.2.2.1⟩
  clear hc2 ho2 C1 O1
  go_wp2
  refine bodyPost_ret (results_tmp3 rfl _ _ _) rfl ?_
  exact HP.out
end Go.Proofs.Ythlbmkefjjckaac
