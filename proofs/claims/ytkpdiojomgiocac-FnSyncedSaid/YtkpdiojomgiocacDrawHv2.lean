/-
  What is drawn of lists of haves: 'DrawCutHaves', 'DrawMergeHaves', 'DrawSeqFor'; 'sameHaves' of the laws.
-/
import Derived.Test.YtkpdiojomgiocacDrawHv
import Derived.Test.YtkpdiojomgiocacHand
namespace Go.Proofs.Ytkpdiojomgiocac
open Go.RowKit
set_option linter.unusedVariables false

set_option maxRecDepth 100000 in
set_option maxHeartbeats 1000000 in
theorem sameHvs_same (W : World) (v1 v2 : Value) (hs : List HvD) (h1 : ReadsHv W v1 hs) (h2 : ReadsHv W v2 hs) (hl : hs.length ≤ 4194304) :
    Calls Try.prog 8 #[v1, v2] W fun e W' => e = .returned (.bool true) ∧ Below W.heap.size W W' := by
  obtain ⟨a1, cap1, rfl, hc1⟩ := h1
  obtain ⟨a2, cap2, rfl, hc2⟩ := h2
  by_cases hz : hs = []
  · subst hz
    simp only [List.length_nil]
    clear hc1 hc2
    go_enter Try.func8, Try.ntmps8
    go_wp2
    refine wp_loop_rounds 1 ?_
    rw [rounds_succ]
    go_wp2
    go_ret
    exact ⟨rfl, Below.refl _ _⟩
  · obtain ⟨g1, o1, rfl, -, hc1⟩ := hc1.resolve_left hz
    obtain ⟨g2, o2, rfl, -, hc2⟩ := hc2.resolve_left hz
    have HC1 : Hid (∀ j (hj : j < hs.length), HvAt W g1 (o1 + j * 2) hs[j]) := hc1
    have HC2 : Hid (∀ j (hj : j < hs.length), HvAt W g2 (o2 + j * 2) hs[j]) := hc2
    clear hc1 hc2 hz
    go_enter Try.func8, Try.ntmps8
    go_wp2
    go_loopw [13] (fun i wr => ∃ k : Nat, k ≤ hs.length ∧ i = .int .i64 k ∧ ∃ n, wr = W.drewN n) (fun i _ => hs.length - (intOf i).toNat)
    case atStart => exact ⟨0, Nat.zero_le _, rfl, 0, rfl⟩
    case round =>
      obtain ⟨k, hk, rfl, n, rfl⟩ := hrel
      by_cases hlt : k < hs.length
      · obtain ⟨q0, q1⟩ := HC1.out k hlt
        obtain ⟨r0, r1⟩ := HC2.out k hlt
        generalize hs[k] = x at *
        have hlt' : (k : Int) < (hs.length : Int) := by omega
        go_wp2
        go_quiet (fail)
        go_wp2
        go_roundw
        case rel => exact ⟨k + 1, by omega, by go_num, _, rfl⟩
        case measure => simp [intOf]; omega
      · have hlt' : ¬ (k : Int) < (hs.length : Int) := by omega
        go_wp2
        go_ret
        exact ⟨rfl, below_drewN (Below.refl _ _) _⟩

/-- A list of haves of its own and a number; two lists. -/
def DrawnHI (B : Nat) (w0 W : World) (e : Ending) (W' : World) : Prop := ∃ v l r, e = .returned (.tuple #[v, .int .i64 r]) ∧ OwnHv W' W.heap.size v l ∧ l.length ≤ 30 ∧ Since B w0 W'
def DrawnHH (B : Nat) (w0 W : World) (e : Ending) (W' : World) : Prop := ∃ v l u k, e = .returned (.tuple #[v, u]) ∧ OwnHv W' W.heap.size v l ∧ l.length ≤ 30 ∧ OwnHv W' W.heap.size u k ∧ k.length ≤ 30 ∧ Since B w0 W'

set_option maxRecDepth 100000 in
set_option maxHeartbeats 2000000 in
theorem drawCutHaves_any (B : Nat) (w0 W : World) (a : Option Addr) (len cap : Nat) (hC : Code B w0 a len) (hl : len ≤ 9223372036854775807) (h : Since B w0 W) :
    Calls Try.prog 17 #[.slice a len cap] W (DrawnHI B w0 W) := by
  have HC : Hid (Code B w0 a len) := hC
  have HU : Hid (Cur B w0 (W.alloc (.cells #[.slice a len cap, .int .i64 0, .int .u64 0] 57)) W.heap.size a len cap 0) := cur_new a len cap 57 h
  clear hC h
  go_enter Try.func17, Try.ntmps17
  go_wp2_with fail
  refine (haves_any B w0 _ _ a len cap 0 HC.out hl (by omega) HU.out).mono ?_
  rintro e W1 ⟨v, l, rfl, ho1, hl1, hc1, hn1⟩
  obtain ⟨a1, c1, rfl⟩ := ho1.shape
  have O1 : Hid (OwnHv W1 (W.heap.size + 1) (.slice a1 l.length c1) l) := by show OwnHv _ _ _ _; have := ho1; simp at this; exact this
  have C1 : Hid (Cur B w0 W1 W.heap.size a len cap 260) := hc1.mono (by omega)
  have hcW1 : W.heap.size < W1.heap.size := hc1.2.1
  clear ho1 hc1 hn1 HU
  have HCL : Hid (∀ j (hj : j < [(0 : Int), 1, 2, 3, 30, 31].length), (W1.alloc (.cells #[.int .i64 0, .int .i64 1, .int .i64 2, .int .i64 3, .int .i64 30, .int .i64 31] 3)).cell? ⟨W1.heap.size, j, none⟩ = some (.int .i64 [(0 : Int), 1, 2, 3, 30, 31][j])) := cells_lit W1 3 [(0 : Int), 1, 2, 3, 30, 31]
  go_wp2_with fail
  refine (among_any B w0 _ W.heap.size W1.heap.size [(0 : Int), 1, 2, 3, 30, 31] a len cap 6 260 HC.out hl (by omega) (curAlloc C1.out _) (by simp) (by simp) (by simp) (by omega) HCL.out).mono ?_
  rintro e W3 ⟨g, rfl, -, hc3, ho3⟩
  have HP : Hid (DrawnHI B w0 W (.returned (.tuple #[.slice a1 l.length c1, .int .i64 g])) W3) := ⟨_, l, g, rfl, rowMono (rowOnly O1.out ((onlyAlloc (Only.refl _ _) _).trans ho3) (by omega)) (Nat.le_succ _), hl1, hc3.2.2.1⟩
  clear hc3 ho3 HCL C1 O1
  go_wp2
  refine bodyPost_ret (results_tmp2 rfl _ _ _) rfl ?_
  exact HP.out

set_option maxRecDepth 100000 in
set_option maxHeartbeats 2000000 in
theorem drawMergeHaves_any (B : Nat) (w0 W : World) (a : Option Addr) (len cap : Nat) (hC : Code B w0 a len) (hl : len ≤ 9223372036854775807) (h : Since B w0 W) :
    Calls Try.prog 20 #[.slice a len cap] W (DrawnHH B w0 W) := by
  have HC : Hid (Code B w0 a len) := hC
  have HU : Hid (Cur B w0 (W.alloc (.cells #[.slice a len cap, .int .i64 0, .int .u64 0] 57)) W.heap.size a len cap 0) := cur_new a len cap 57 h
  clear hC h
  go_enter Try.func20, Try.ntmps20
  go_wp2_with fail
  refine (haves_any B w0 _ _ a len cap 0 HC.out hl (by omega) HU.out).mono ?_
  rintro e W1 ⟨v, l, rfl, ho1, hl1, hc1, hn1⟩
  obtain ⟨a1, c1, rfl⟩ := ho1.shape
  have O1 : Hid (OwnHv W1 (W.heap.size + 1) (.slice a1 l.length c1) l) := by show OwnHv _ _ _ _; have := ho1; simp at this; exact this
  have C1 : Hid (Cur B w0 W1 W.heap.size a len cap 260) := hc1.mono (by omega)
  have hcW1 : W.heap.size < W1.heap.size := hc1.2.1
  clear ho1 hc1 hn1 HU
  go_wp2_with fail
  refine (haves_any B w0 _ W.heap.size a len cap 260 HC.out hl (by omega) C1.out).mono ?_
  rintro e W2 ⟨v2, k2, rfl, ho2, hl2, hc2, hn2⟩
  obtain ⟨a2, c2, rfl⟩ := ho2.shape
  have O2 : Hid (OwnHv W2 (W.heap.size + 1) (.slice a1 l.length c1) l) := rowOnly O1.out hn2 (by omega)
  have P2 : Hid (OwnHv W2 (W.heap.size + 1) (.slice a2 k2.length c2) k2) := ho2.mono (by omega)
  have C2 : Hid (Cur B w0 W2 W.heap.size a len cap 520) := hc2.mono (by omega)
  have hcW2 : W.heap.size < W2.heap.size := hc2.2.1
  clear ho2 hc2 hn2 C1 O1
  have HP : Hid (DrawnHH B w0 W (.returned (.tuple #[.slice a1 l.length c1, .slice a2 k2.length c2])) W2) := ⟨_, l, _, k2, rfl, rowMono O2.out (Nat.le_succ _), hl1, rowMono P2.out (Nat.le_succ _), hl2, C2.out.2.2.1⟩
  clear C2 O2 P2
  go_wp2
  refine bodyPost_ret (results_tmp2 rfl _ _ _) rfl ?_
  exact HP.out

set_option maxRecDepth 100000 in
set_option maxHeartbeats 2000000 in
theorem drawSeqFor_any (B : Nat) (w0 W : World) (a : Option Addr) (len cap : Nat) (hC : Code B w0 a len) (hl : len ≤ 9223372036854775807) (h : Since B w0 W) :
    Calls Try.prog 25 #[.slice a len cap] W (DrawnHI B w0 W) := by
  have HC : Hid (Code B w0 a len) := hC
  have HU : Hid (Cur B w0 (W.alloc (.cells #[.slice a len cap, .int .i64 0, .int .u64 0] 57)) W.heap.size a len cap 0) := cur_new a len cap 57 h
  clear hC h
  go_enter Try.func25, Try.ntmps25
  go_wp2_with fail
  refine (haves_any B w0 _ _ a len cap 0 HC.out hl (by omega) HU.out).mono ?_
  rintro e W1 ⟨v, l, rfl, ho1, hl1, hc1, hn1⟩
  obtain ⟨a1, c1, rfl⟩ := ho1.shape
  have O1 : Hid (OwnHv W1 (W.heap.size + 1) (.slice a1 l.length c1) l) := by show OwnHv _ _ _ _; have := ho1; simp at this; exact this
  have C1 : Hid (Cur B w0 W1 W.heap.size a len cap 260) := hc1.mono (by omega)
  have hcW1 : W.heap.size < W1.heap.size := hc1.2.1
  clear ho1 hc1 hn1 HU
  by_cases hl0 : 0 < l.length
  · have hl0' : decide (0 < (l.length : Int)) = true := decide_eq_true (by omega)
    go_wp2_with fail
    refine (one_any B w0 _ W.heap.size a len cap 260 2 HC.out hl (by omega) C1.out (by omega) (by omega)).mono ?_
    rintro e W2 ⟨b2, rfl, hc2, hn2⟩
    have O2 : Hid (OwnHv W2 (W.heap.size + 1) (.slice a1 l.length c1) l) := rowOnly O1.out hn2 (by omega)
    have C2 : Hid (Cur B w0 W2 W.heap.size a len cap 262) := hc2
    have hcW2 : W.heap.size < W2.heap.size := hc2.2.1
    clear hc2 hn2 C1 O1
    cases b2 with
    | false =>
      have HCL : Hid (∀ j (hj : j < [(0 : Int), 1, 5, 1000, 1001].length), (W2.alloc (.cells #[.int .i64 0, .int .i64 1, .int .i64 5, .int .i64 1000, .int .i64 1001] 3)).cell? ⟨W2.heap.size, j, none⟩ = some (.int .i64 [(0 : Int), 1, 5, 1000, 1001][j])) := cells_lit W2 3 [(0 : Int), 1, 5, 1000, 1001]
      go_wp2_with fail
      refine (among_any B w0 _ W.heap.size W2.heap.size [(0 : Int), 1, 5, 1000, 1001] a len cap 5 262 HC.out hl (by omega) (curAlloc C2.out _) (by simp) (by simp) (by simp) (by omega) HCL.out).mono ?_
      rintro e W3 ⟨g, rfl, -, hc3, ho3⟩
      have HP : Hid (DrawnHI B w0 W (.returned (.tuple #[.slice a1 l.length c1, .int .i64 g])) W3) := ⟨_, l, g, rfl, rowMono (rowOnly O2.out ((onlyAlloc (Only.refl _ _) _).trans ho3) (by omega)) (Nat.le_succ _), hl1, hc3.2.2.1⟩
      clear hc3 ho3 HCL C2 O2
      go_wp2
      refine bodyPost_ret (results_tmp2 rfl _ _ _) rfl ?_
      exact HP.out
    | true =>
    obtain ⟨g1, cg, e6⟩ : ∃ g cap, Value.slice a1 l.length c1 = .slice (some ⟨g, 0, none⟩) l.length cap := by
      rcases O2.out.2 with ⟨hv, hn0⟩ | ⟨g, cap, cur, hv, -⟩
      · omega
      · exact ⟨g, cap, hv⟩
    obtain ⟨rfl, rfl⟩ : a1 = some ⟨g1, 0, none⟩ ∧ c1 = cg := by simpa using e6
    clear e6
    have HKK : Hid (∀ w', Only W.heap.size W2 w' → ∀ j (hj : j < l.length), w'.cell? ⟨g1, j * 2, none⟩ = some (.int .i64 l[j].From)) := fun w' ho j hj => by
      have h1 := rowOnly O2.out ho (by omega)
      rw [World.ownsRow.cellAt h1 _ (by omega)]
      exact (cellsHv_get l j hj).1
    go_wp2
    refine wp_region_held_drew (S := (fun w' => ∀ j (hj : j < l.length), w'.cell? ⟨g1, j * 2, none⟩ = some (.int .i64 l[j].From))) (by kernel_rfl) ?_ (fun hHeld => ?_)
    · exact HKK.out _ (Only.refl _ _)
    refine handRead 0 (some 18) (.slice (some ⟨g1, 0, none⟩) l.length c1) rfl rfl (by kernel_rfl) (by kernel_rfl) (by kernel_rfl) (fun _ _ _ h => h) (by kernel_rfl) (by assumption) ?_ ?_
    · intro w hSw
      (try dsimp only at hSw)
      go_simp
    simp only [Act.put, List.setIfInBounds_toArray, List.set_cons_zero, List.set_cons_succ]
    refine handRead 1 (some 19) (.slice (some ⟨g1, 0, none⟩) l.length c1) rfl rfl (by kernel_rfl) (by kernel_rfl) (by kernel_rfl) (fun _ _ _ h => h) (by kernel_rfl) (by assumption) ?_ ?_
    · intro w hSw
      (try dsimp only at hSw)
      go_simp
    simp only [Act.put, List.setIfInBounds_toArray, List.set_cons_zero, List.set_cons_succ]
    refine handRead 2 (some 20) (.pointer (some ⟨W.heap.size, 0, none⟩)) rfl rfl (by kernel_rfl) (by kernel_rfl) (by kernel_rfl) (fun _ _ _ h => h) (by kernel_rfl) (by assumption) ?_ ?_
    · intro w hSw
      (try dsimp only at hSw)
      go_simp
    simp only [Act.put, List.setIfInBounds_toArray, List.set_cons_zero, List.set_cons_succ]
    refine handRead 3 (some 21) (.slice (some ⟨g1, 0, none⟩) l.length c1) rfl rfl (by kernel_rfl) (by kernel_rfl) (by kernel_rfl) (fun _ _ _ h => h) (by kernel_rfl) (by assumption) ?_ ?_
    · intro w hSw
      (try dsimp only at hSw)
      go_simp
    simp only [Act.put, List.setIfInBounds_toArray, List.set_cons_zero, List.set_cons_succ]
    refine handRead 4 (some 22) (.int .i64 (l.length : Int)) rfl rfl (by kernel_rfl) (by kernel_rfl) (by kernel_rfl) (fun _ _ _ h => h) (by kernel_rfl) (by assumption) ?_ ?_
    · intro w hSw
      (try dsimp only at hSw)
      go_simp
    simp only [Act.put, List.setIfInBounds_toArray, List.set_cons_zero, List.set_cons_succ]
    refine handCall 5 (some 23) 44 #[.pointer (some ⟨W.heap.size, 0, none⟩), .int .i64 (l.length : Int)] (by kernel_rfl) rfl rfl (by kernel_rfl) (by simp [go_sem]) ((pick_any B w0 _ W.heap.size a len cap 262 (l.length : Int) HC.out hl (by omega) C2.out.drew (by omega) (by omega)).mono ?_)
    rintro e W3 ⟨q, rfl, q0, q1, hc3, hn3⟩
    obtain ⟨k, rfl⟩ : ∃ k : Nat, q = k := ⟨q.toNat, by omega⟩
    have hkl : k < l.length := by omega
    have hkl2 : (k : Int) < (l.length : Int) := by omega
    have HN3 : Hid (Only W.heap.size W2 W3) := ⟨hn3.1, hn3.2⟩
    have HC3 : Hid (Since B w0 W3) := hc3.2.2.1
    obtain ⟨zz, hzz⟩ : ∃ zz, zz = l[k].From := ⟨_, rfl⟩
    clear hHeld hc3 hn3
    refine ⟨_, rfl, (by exact HKK.out _ HN3.out), fun hHeld => ?_⟩
    simp only [Act.put, List.setIfInBounds_toArray, List.set_cons_zero, List.set_cons_succ]
    refine handRead 6 (some 24) (.pointer (some ⟨g1, k * 2, none⟩)) rfl rfl (by kernel_rfl) (by kernel_rfl) (by kernel_rfl) (fun _ _ _ h => h) (by kernel_rfl) (by assumption) ?_ ?_
    · intro w hSw
      (try dsimp only at hSw)
      go_simp
    simp only [Act.put, List.setIfInBounds_toArray, List.set_cons_zero, List.set_cons_succ]
    refine handRead 7 (some 25) (.pointer (some ⟨g1, k * 2, none⟩)) rfl rfl (by kernel_rfl) (by kernel_rfl) (by kernel_rfl) (fun _ _ _ h => h) (by kernel_rfl) (by assumption) ?_ ?_
    · intro w hSw
      (try dsimp only at hSw)
      go_simp
    simp only [Act.put, List.setIfInBounds_toArray, List.set_cons_zero, List.set_cons_succ]
    refine handRead 8 (some 26) (.int .i64 zz) rfl rfl (by kernel_rfl) (by kernel_rfl) (by kernel_rfl) (fun _ _ _ h => h) (by kernel_rfl) (by assumption) ?_ ?_
    · intro w hSw
      have hSw2 := hSw k hkl
      rw [← hzz] at hSw2
      clear hSw
      go_simp
    simp only [Act.put, List.setIfInBounds_toArray, List.set_cons_zero, List.set_cons_succ]
    refine handRead 9 (some 2) (.slice (some ⟨g1, 0, none⟩) l.length c1) rfl rfl (by kernel_rfl) (by kernel_rfl) (by kernel_rfl) (fun _ _ _ h => h) (by kernel_rfl) (by assumption) ?_ ?_
    · intro w hSw
      (try dsimp only at hSw)
      go_simp
    simp only [Act.put, List.setIfInBounds_toArray, List.set_cons_zero, List.set_cons_succ]
    refine handRead 10 (some 3) (.int .i64 zz) rfl rfl (by kernel_rfl) (by kernel_rfl) (by kernel_rfl) (fun _ _ _ h => h) (by kernel_rfl) (by assumption) ?_ ?_
    · intro w hSw
      (try dsimp only at hSw)
      go_simp
    simp only [Act.put, List.setIfInBounds_toArray, List.set_cons_zero, List.set_cons_succ]
    refine wpAnyH_done (by kernel_rfl) ?_ _
    have HP : Hid (DrawnHI B w0 W (.returned (.tuple #[.slice (some ⟨g1, 0, none⟩) l.length c1, .int .i64 zz])) W3) := ⟨_, l, zz, rfl, rowMono (rowOnly O2.out HN3.out (by omega)) (Nat.le_succ _), hl1, HC3.out⟩
    clear HN3 HC3 HKK C2 O2
    go_wp2
    refine bodyPost_ret (results_tmp2 rfl _ _ _) rfl ?_
    exact HP.out
  · have hl0' : decide (0 < (l.length : Int)) = false := decide_eq_false (by omega)
    have HCL : Hid (∀ j (hj : j < [(0 : Int), 1, 5, 1000, 1001].length), (W1.alloc (.cells #[.int .i64 0, .int .i64 1, .int .i64 5, .int .i64 1000, .int .i64 1001] 3)).cell? ⟨W1.heap.size, j, none⟩ = some (.int .i64 [(0 : Int), 1, 5, 1000, 1001][j])) := cells_lit W1 3 [(0 : Int), 1, 5, 1000, 1001]
    go_wp2_with fail
    refine (among_any B w0 _ W.heap.size W1.heap.size [(0 : Int), 1, 5, 1000, 1001] a len cap 5 260 HC.out hl (by omega) (curAlloc C1.out _) (by simp) (by simp) (by simp) (by omega) HCL.out).mono ?_
    rintro e W3 ⟨g, rfl, -, hc3, ho3⟩
    have HP : Hid (DrawnHI B w0 W (.returned (.tuple #[.slice a1 l.length c1, .int .i64 g])) W3) := ⟨_, l, g, rfl, rowMono (rowOnly O1.out ((onlyAlloc (Only.refl _ _) _).trans ho3) (by omega)) (Nat.le_succ _), hl1, hc3.2.2.1⟩
    clear hc3 ho3 HCL C1 O1
    go_wp2
    refine bodyPost_ret (results_tmp2 rfl _ _ _) rfl ?_
    exact HP.out
end Go.Proofs.Ytkpdiojomgiocac
