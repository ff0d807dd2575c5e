/-
  What the cursor draws of bridges, more: 'someId', 'DrawMoved', 'DrawSetRank', 'DrawServersOf'; and 'sameInts', 'sameBridges', 'has' of the laws.
-/
import Derived.Test.YthdcfeafkellcabDrawBr
namespace Go.Proofs.Ythdcfeafkellcab
open Go.RowKit
set_option linter.unusedVariables false

theorem cur_new {B : Nat} {w0 W : World} (a : Option Addr) (len cap : Nat) (t : TypeId) (h : Since B w0 W) :
    Cur B w0 (W.alloc (.cells #[.slice a len cap, .int .i64 0, .int .u64 0] t)) W.heap.size a len cap 0 := by
  have hh : (W.alloc (.cells #[.slice a len cap, .int .i64 0, .int .u64 0] t)).heap[W.heap.size]? = some (.cells #[.slice a len cap, .int .i64 0, .int .u64 0] t) := by
    show (W.heap.push _)[W.heap.size]? = _
    simp
  refine ⟨h.2, by simp, h.step ((Below.refl _ _).alloc (Nat.le_refl _) _), ?_, ⟨0, Nat.le_refl _, ?_⟩, ⟨0, ?_⟩, ?_, ?_⟩
  · rw [World.cell?_alloc_at _ _ _ _ rfl]; rfl
  · rw [World.cell?_alloc_at _ _ _ _ rfl]; rfl
  · rw [World.cell?_alloc_at _ _ _ _ rfl]; rfl
  · unfold World.frozen?; rw [hh]; simp
  · unfold World.frozen?; rw [hh]; simp

theorem results_tmp3 {fn : Func} {a b c : Tmp} (h : fn.results = #[.tmp a, .tmp b, .tmp c]) (tmps : Array Value) (P : Program) (w : World) :
    (results fn tmps).run P w = .ok (.tuple #[tmps.getD a undef, tmps.getD b undef, tmps.getD c undef]) w := by
  simp [results, h]

set_option maxRecDepth 100000 in
set_option maxHeartbeats 2000000 in
theorem someId_any (B : Nat) (w0 W : World) (c : Nat) (a : Option Addr) (len cap m : Nat) (hC : Code B w0 a len) (hl : len ≤ 9223372036854775807) (hm : m ≤ 100000) (h : Cur B w0 W c a len cap m) (B1 : Nat) (hB1 : c < B1) (v : Value) (l : List BrD) (ho : OwnBr W B1 v l) (hll : l.length ≤ 11) :
    Calls Try.prog 66 #[.pointer (some ⟨c, 0, none⟩), v] W fun e W' => ∃ r : Int, e = .returned (.int .i64 r) ∧ Cur B w0 W' c a len cap (m + 4) ∧ Only c W W' := by
  have HD : Hid (Code B w0 a len) := hC
  have HH : Hid (Cur B w0 W c a len cap m) := h
  have HO : Hid (OwnBr W B1 v l) := ho
  obtain ⟨a1, c1, rfl⟩ := ho.shape
  clear hC h ho
  by_cases hz : l.length = 0
  · have hz' : (l.length : Int) = 0 := by omega
    go_enter Try.func66, Try.ntmps66
    go_wp2_with fail
    refine (pick_any B w0 _ c a len cap m 9 HD.out hl (by omega) HH.out (by omega) (by omega)).mono ?_
    rintro e W1 ⟨q, rfl, q0, q1, hc1, ho1⟩
    have HC1 : Hid (Cur B w0 W1 c a len cap (m + 4) ∧ Only c W W1) := ⟨hc1.mono (by omega), ho1⟩
    clear hc1 ho1
    go_wp2
    go_ret
    exact ⟨_, rfl, HC1.out.1, HC1.out.2⟩
  · have hz' : ¬ (l.length : Int) = 0 := by omega
    go_enter Try.func66, Try.ntmps66
    go_wp2_with fail
    refine (one_any B w0 _ c a len cap m 8 HD.out hl (by omega) HH.out (by omega) (by omega)).mono ?_
    rintro e W1 ⟨b1, rfl, hc1, ho1⟩
    have HC1 : Hid (Cur B w0 W1 c a len cap (m + 2) ∧ Only c W W1) := ⟨hc1, ho1⟩
    clear hc1 ho1
    cases b1 with
    | true =>
      go_wp2_with fail
      refine (pick_any B w0 _ c a len cap (m + 2) 9 HD.out hl (by omega) HC1.out.1 (by omega) (by omega)).mono ?_
      rintro e W2 ⟨q, rfl, q0, q1, hc2, ho2⟩
      have HC2 : Hid (Cur B w0 W2 c a len cap (m + 4) ∧ Only c W W2) := ⟨hc2, HC1.out.2.trans ho2⟩
      clear hc2 ho2
      go_wp2
      go_ret
      exact ⟨_, rfl, HC2.out.1, HC2.out.2⟩
    | false =>
      go_wp2_with fail
      refine (pick_any B w0 _ c a len cap (m + 2) (l.length : Int) HD.out hl (by omega) HC1.out.1 (by omega) (by omega)).mono ?_
      rintro e W2 ⟨q, rfl, q0, q1, hc2, ho2⟩
      have HC2 : Hid (Cur B w0 W2 c a len cap (m + 4) ∧ Only c W W2) := ⟨hc2, HC1.out.2.trans ho2⟩
      obtain ⟨k, rfl⟩ : ∃ k : Nat, q = k := ⟨q.toNat, by omega⟩
      have hkl : k < l.length := by omega
      have ho2' : OwnBr W2 B1 (.slice a1 l.length c1) l := rowOnly HO.out HC2.out.2 hB1
      obtain ⟨a', c', e', hcc⟩ := ho2'.reads
      obtain ⟨g, off, ha, -, hcell⟩ := hcc.resolve_left (fun e => by rw [e] at hkl; simp at hkl)
      obtain ⟨rfl, -⟩ : a1 = a' ∧ c1 = c' := by simpa using e'
      subst ha
      obtain ⟨s0, -, -⟩ := hcell k hkl
      generalize l[k].id = zz at *
      clear hc2 ho2 ho2' hcc hcell e'
      go_wp2
      go_ret
      exact ⟨_, rfl, HC2.out.1, HC2.out.2⟩

/-- What is drawn: a list of bridges of its own, and two numbers. -/
def Drawn3 (B : Nat) (w0 W : World) (e : Ending) (W' : World) : Prop := ∃ v l r g, e = .returned (.tuple #[v, .int .i64 r, .int .i64 g]) ∧ OwnBr W' W.heap.size v l ∧ l.length ≤ 11 ∧ Since B w0 W'
def Drawn2 (B : Nat) (w0 W : World) (e : Ending) (W' : World) : Prop := ∃ v l g, e = .returned (.tuple #[v, .int .i64 g]) ∧ OwnBr W' W.heap.size v l ∧ l.length ≤ 11 ∧ Since B w0 W'

set_option maxRecDepth 100000 in
set_option maxHeartbeats 2000000 in
theorem drawMoved_any (B : Nat) (w0 W : World) (a : Option Addr) (len cap : Nat) (hC : Code B w0 a len) (hl : len ≤ 9223372036854775807) (h : Since B w0 W) :
    Calls Try.prog 18 #[.slice a len cap] W (Drawn3 B w0 W) := by
  have HC : Hid (Code B w0 a len) := hC
  have HU : Hid (Cur B w0 (W.alloc (.cells #[.slice a len cap, .int .i64 0, .int .u64 0] 75)) W.heap.size a len cap 0) := cur_new a len cap 75 h
  clear hC h
  go_enter Try.func18, Try.ntmps18
  go_wp2_with fail
  refine (bridges_any B w0 _ _ a len cap 0 HC.out hl (by omega) HU.out).mono ?_
  rintro e W1 ⟨v, l, rfl, ho1, hl1, hc1, hn1⟩
  obtain ⟨a1, c1, rfl⟩ := ho1.shape
  have O1 : Hid (OwnBr W1 (W.heap.size + 1) (.slice a1 l.length c1) l) := by have := ho1; simp at this; exact this
  have C1 : Hid (Cur B w0 W1 W.heap.size a len cap 200) := hc1.mono (by omega)
  clear ho1 hc1 hn1 HU
  go_wp2_with fail
  refine (someId_any B w0 _ W.heap.size a len cap 200 HC.out hl (by omega) C1.out (W.heap.size + 1) (by omega) _ l O1.out hl1).mono ?_
  rintro e W2 ⟨r, rfl, hc2, hn2⟩
  have O2 : Hid (OwnBr W2 (W.heap.size + 1) (.slice a1 l.length c1) l) := rowOnly O1.out hn2 (by omega)
  have C2 : Hid (Cur B w0 W2 W.heap.size a len cap 204) := hc2
  have hcW2 : W.heap.size < W2.heap.size := hc2.2.1
  have HCL : Hid (∀ j (hj : j < [(-1 : Int), 0, 3, 12, 40, 41].length), (W2.alloc (.cells #[.int .i64 (-1), .int .i64 0, .int .i64 3, .int .i64 12, .int .i64 40, .int .i64 41] 3)).cell? ⟨W2.heap.size, j, none⟩ = some (.int .i64 [(-1 : Int), 0, 3, 12, 40, 41][j])) := cells_lit W2 3 [(-1 : Int), 0, 3, 12, 40, 41]
  clear hc2 hn2 C1 O1
  go_wp2_with fail
  refine (among_any B w0 _ W.heap.size W2.heap.size [(-1 : Int), 0, 3, 12, 40, 41] a len cap 6 204 HC.out hl (by omega) (curAlloc C2.out _) (by simp) (by simp) (by simp) (by omega) HCL.out).mono ?_
  rintro e W3 ⟨g, rfl, -, hc3, ho3⟩
  have HP : Hid (Drawn3 B w0 W (.returned (.tuple #[.slice a1 l.length c1, .int .i64 r, .int .i64 g])) W3) := ⟨_, l, r, g, rfl, rowMono (rowOnly O2.out ((onlyAlloc (Only.refl _ _) _).trans ho3) (by omega)) (Nat.le_succ _), hl1, hc3.2.2.1⟩
  clear hc3 ho3 HCL C2 O2
  go_wp2
  refine bodyPost_ret (results_tmp3 rfl _ _ _) rfl ?_
  exact HP.out

set_option maxRecDepth 100000 in
set_option maxHeartbeats 2000000 in
theorem drawSetRank_any (B : Nat) (w0 W : World) (a : Option Addr) (len cap : Nat) (hC : Code B w0 a len) (hl : len ≤ 9223372036854775807) (h : Since B w0 W) :
    Calls Try.prog 24 #[.slice a len cap] W (Drawn3 B w0 W) := by
  have HC : Hid (Code B w0 a len) := hC
  have HU : Hid (Cur B w0 (W.alloc (.cells #[.slice a len cap, .int .i64 0, .int .u64 0] 75)) W.heap.size a len cap 0) := cur_new a len cap 75 h
  clear hC h
  go_enter Try.func24, Try.ntmps24
  go_wp2_with fail
  refine (bridges_any B w0 _ _ a len cap 0 HC.out hl (by omega) HU.out).mono ?_
  rintro e W1 ⟨v, l, rfl, ho1, hl1, hc1, hn1⟩
  obtain ⟨a1, c1, rfl⟩ := ho1.shape
  have O1 : Hid (OwnBr W1 (W.heap.size + 1) (.slice a1 l.length c1) l) := by have := ho1; simp at this; exact this
  have C1 : Hid (Cur B w0 W1 W.heap.size a len cap 200) := hc1.mono (by omega)
  clear ho1 hc1 hn1 HU
  go_wp2_with fail
  refine (someId_any B w0 _ W.heap.size a len cap 200 HC.out hl (by omega) C1.out (W.heap.size + 1) (by omega) _ l O1.out hl1).mono ?_
  rintro e W2 ⟨r, rfl, hc2, hn2⟩
  have O2 : Hid (OwnBr W2 (W.heap.size + 1) (.slice a1 l.length c1) l) := rowOnly O1.out hn2 (by omega)
  have C2 : Hid (Cur B w0 W2 W.heap.size a len cap 204) := hc2
  have hcW2 : W.heap.size < W2.heap.size := hc2.2.1
  have HCL : Hid (∀ j (hj : j < [(-1 : Int), 0, 3, 127, 128].length), (W2.alloc (.cells #[.int .i64 (-1), .int .i64 0, .int .i64 3, .int .i64 127, .int .i64 128] 3)).cell? ⟨W2.heap.size, j, none⟩ = some (.int .i64 [(-1 : Int), 0, 3, 127, 128][j])) := cells_lit W2 3 [(-1 : Int), 0, 3, 127, 128]
  clear hc2 hn2 C1 O1
  go_wp2_with fail
  refine (among_any B w0 _ W.heap.size W2.heap.size [(-1 : Int), 0, 3, 127, 128] a len cap 5 204 HC.out hl (by omega) (curAlloc C2.out _) (by simp) (by simp) (by simp) (by omega) HCL.out).mono ?_
  rintro e W3 ⟨g, rfl, -, hc3, ho3⟩
  have HP : Hid (Drawn3 B w0 W (.returned (.tuple #[.slice a1 l.length c1, .int .i64 r, .int .i64 g])) W3) := ⟨_, l, r, g, rfl, rowMono (rowOnly O2.out ((onlyAlloc (Only.refl _ _) _).trans ho3) (by omega)) (Nat.le_succ _), hl1, hc3.2.2.1⟩
  clear hc3 ho3 HCL C2 O2
  go_wp2
  refine bodyPost_ret (results_tmp3 rfl _ _ _) rfl ?_
  exact HP.out

set_option maxRecDepth 100000 in
set_option maxHeartbeats 2000000 in
theorem drawServersOf_any (B : Nat) (w0 W : World) (a : Option Addr) (len cap : Nat) (hC : Code B w0 a len) (hl : len ≤ 9223372036854775807) (h : Since B w0 W) :
    Calls Try.prog 28 #[.slice a len cap] W (Drawn2 B w0 W) := by
  have HC : Hid (Code B w0 a len) := hC
  have HU : Hid (Cur B w0 (W.alloc (.cells #[.slice a len cap, .int .i64 0, .int .u64 0] 75)) W.heap.size a len cap 0) := cur_new a len cap 75 h
  clear hC h
  go_enter Try.func28, Try.ntmps28
  go_wp2_with fail
  refine (bridges_any B w0 _ _ a len cap 0 HC.out hl (by omega) HU.out).mono ?_
  rintro e W1 ⟨v, l, rfl, ho1, hl1, hc1, hn1⟩
  obtain ⟨a1, c1, rfl⟩ := ho1.shape
  have O2 : Hid (OwnBr W1 (W.heap.size + 1) (.slice a1 l.length c1) l) := by have := ho1; simp at this; exact this
  have C2 : Hid (Cur B w0 W1 W.heap.size a len cap 200) := hc1.mono (by omega)
  have hcW2 : W.heap.size < W1.heap.size := hc1.2.1
  have HCL : Hid (∀ j (hj : j < [(-1 : Int), 0, 3, 12, 40, 41].length), (W1.alloc (.cells #[.int .i64 (-1), .int .i64 0, .int .i64 3, .int .i64 12, .int .i64 40, .int .i64 41] 3)).cell? ⟨W1.heap.size, j, none⟩ = some (.int .i64 [(-1 : Int), 0, 3, 12, 40, 41][j])) := cells_lit W1 3 [(-1 : Int), 0, 3, 12, 40, 41]
  clear ho1 hc1 hn1 HU
  go_wp2_with fail
  refine (among_any B w0 _ W.heap.size W1.heap.size [(-1 : Int), 0, 3, 12, 40, 41] a len cap 6 200 HC.out hl (by omega) (curAlloc C2.out _) (by simp) (by simp) (by simp) (by omega) HCL.out).mono ?_
  rintro e W3 ⟨g, rfl, -, hc3, ho3⟩
  have HP : Hid (Drawn2 B w0 W (.returned (.tuple #[.slice a1 l.length c1, .int .i64 g])) W3) := ⟨_, l, g, rfl, rowMono (rowOnly O2.out ((onlyAlloc (Only.refl _ _) _).trans ho3) (by omega)) (Nat.le_succ _), hl1, hc3.2.2.1⟩
  clear hc3 ho3 HCL C2 O2
  go_wp2
  refine bodyPost_ret (results_tmp2 rfl _ _ _) rfl ?_
  exact HP.out

set_option maxRecDepth 100000 in
set_option maxHeartbeats 1000000 in
theorem sameInts_same (W : World) (v1 v2 : Value) (zs : List Int) (h1 : Reads W v1 zs) (h2 : Reads W v2 zs) (hl : zs.length ≤ 4194304) :
    Calls Try.prog 12 #[v1, v2] W fun e W' => e = .returned (.bool true) ∧ Below W.heap.size W W' := by
  obtain ⟨a1, cap1, rfl, hc1⟩ := h1
  obtain ⟨a2, cap2, rfl, hc2⟩ := h2
  by_cases hz : zs = []
  · subst hz
    simp only [List.length_nil]
    clear hc1 hc2
    go_enter Try.func12, Try.ntmps12
    go_wp2
    refine wp_loop_rounds 1 ?_
    rw [rounds_succ]
    go_wp2
    go_ret
    exact ⟨rfl, Below.refl _ _⟩
  · obtain ⟨g1, o1, rfl, -, hc1⟩ := hc1.resolve_left hz
    obtain ⟨g2, o2, rfl, -, hc2⟩ := hc2.resolve_left hz
    have HC1 : Hid (∀ j (hj : j < zs.length), W.cell? ⟨g1, o1 + j, none⟩ = some (.int .i64 zs[j])) := hc1
    have HC2 : Hid (∀ j (hj : j < zs.length), W.cell? ⟨g2, o2 + j, none⟩ = some (.int .i64 zs[j])) := hc2
    clear hc1 hc2 hz
    go_enter Try.func12, Try.ntmps12
    go_wp2
    go_loopw [13] (fun i wr => ∃ k : Nat, k ≤ zs.length ∧ i = .int .i64 k ∧ ∃ n, wr = W.drewN n) (fun i _ => zs.length - (intOf i).toNat)
    case atStart => exact ⟨0, Nat.zero_le _, rfl, 0, rfl⟩
    case round =>
      obtain ⟨k, hk, rfl, n, rfl⟩ := hrel
      by_cases hlt : k < zs.length
      · have c1 : W.cell? ⟨g1, o1 + k, none⟩ = some (.int .i64 zs[k]) := HC1.out k hlt
        have c2 : W.cell? ⟨g2, o2 + k, none⟩ = some (.int .i64 zs[k]) := HC2.out k hlt
        generalize zs[k] = z at c1 c2
        have hlt' : (k : Int) < (zs.length : Int) := by omega
        go_wp2
        go_quiet (fail)
        go_wp2
        go_roundw
        case rel => exact ⟨k + 1, by omega, by go_num, _, rfl⟩
        case measure => simp [intOf]; omega
      · have hlt' : ¬ (k : Int) < (zs.length : Int) := by omega
        go_wp2
        go_ret
        exact ⟨rfl, below_drewN (Below.refl _ _) _⟩

set_option maxRecDepth 100000 in
set_option maxHeartbeats 1000000 in
theorem sameBrs_same (W : World) (v1 v2 : Value) (hs : List BrD) (h1 : ReadsBr W v1 hs) (h2 : ReadsBr W v2 hs) (hl : hs.length ≤ 4194304) :
    Calls Try.prog 27 #[v1, v2] W fun e W' => e = .returned (.bool true) ∧ Below W.heap.size W W' := by
  obtain ⟨a1, cap1, rfl, hc1⟩ := h1
  obtain ⟨a2, cap2, rfl, hc2⟩ := h2
  by_cases hz : hs = []
  · subst hz
    simp only [List.length_nil]
    clear hc1 hc2
    go_enter Try.func27, Try.ntmps27
    go_wp2
    refine wp_loop_rounds 1 ?_
    rw [rounds_succ]
    go_wp2
    go_ret
    exact ⟨rfl, Below.refl _ _⟩
  · obtain ⟨g1, o1, rfl, -, hc1⟩ := hc1.resolve_left hz
    obtain ⟨g2, o2, rfl, -, hc2⟩ := hc2.resolve_left hz
    have HC1 : Hid (∀ j (hj : j < hs.length), BrAt W g1 (o1 + j * 3) hs[j]) := hc1
    have HC2 : Hid (∀ j (hj : j < hs.length), BrAt W g2 (o2 + j * 3) hs[j]) := hc2
    clear hc1 hc2 hz
    go_enter Try.func27, Try.ntmps27
    go_wp2
    go_loopw [13] (fun i wr => ∃ k : Nat, k ≤ hs.length ∧ i = .int .i64 k ∧ ∃ n, wr = W.drewN n) (fun i _ => hs.length - (intOf i).toNat)
    case atStart => exact ⟨0, Nat.zero_le _, rfl, 0, rfl⟩
    case round =>
      obtain ⟨k, hk, rfl, n, rfl⟩ := hrel
      by_cases hlt : k < hs.length
      · obtain ⟨q0, q1, q2⟩ := HC1.out k hlt
        obtain ⟨r0, r1, r2⟩ := HC2.out k hlt
        generalize hs[k] = x at *
        have hlt' : (k : Int) < (hs.length : Int) := by omega
        go_wp2
        go_quiet (fail)
        go_wp2
        go_roundw
        case rel => exact ⟨k + 1, by omega, by go_num, _, rfl⟩
        case measure => simp [intOf]; omega
      · have hlt' : ¬ (k : Int) < (hs.length : Int) := by omega
        go_wp2
        go_ret
        exact ⟨rfl, below_drewN (Below.refl _ _) _⟩

set_option maxRecDepth 100000 in
set_option maxHeartbeats 1000000 in
theorem has_any (W : World) (v : Value) (zs : List Int) (z : Int) (h : Reads W v zs) (hl : zs.length ≤ 4194304) :
    Calls Try.prog 23 #[v, .int .i64 z] W fun e W' => e = .returned (.bool (decide (z ∈ zs))) ∧ W' = W := by
  obtain ⟨a1, cap1, rfl, hc1⟩ := h
  rcases hc1 with hz | ⟨g1, o1, rfl, -, hc1⟩
  · subst hz
    simp only [List.length_nil]
    go_enter Try.func23, Try.ntmps23
    go_wp2
    refine wp_loop_rounds 1 ?_
    rw [rounds_succ]
    go_wp2
    go_ret
    exact ⟨by simp, rfl⟩
  · have HC1 : Hid (∀ j (hj : j < zs.length), W.cell? ⟨g1, o1 + j, none⟩ = some (.int .i64 zs[j])) := hc1
    clear hc1
    go_enter Try.func23, Try.ntmps23
    go_wp2
    go_loop [9] (fun i => ∃ k : Nat, k ≤ zs.length ∧ i = .int .i64 k ∧ Hid (∀ j (hj : j < zs.length), j < k → zs[j] ≠ z)) (fun i => zs.length - (intOf i).toNat)
    case atStart => exact ⟨0, Nat.zero_le _, rfl, fun j _ hj => absurd hj (Nat.not_lt_zero _)⟩
    case round =>
      obtain ⟨k, hk, rfl, HA⟩ := hrel
      by_cases hlt : k < zs.length
      · have c1 := HC1.out k hlt
        have hlt' : (k : Int) < (zs.length : Int) := by omega
        by_cases he : zs[k] = z
        · have HF : Hid (true = decide (z ∈ zs)) := by show _ = _; rw [decide_eq_true (by rw [← he]; exact List.getElem_mem hlt)]
          rw [he] at c1
          clear he
          go_wp2
          go_ret
          exact ⟨ret_bool HF.out, rfl⟩
        · have HA1 : Hid (∀ j (hj : j < zs.length), j < k + 1 → zs[j] ≠ z) := fun j hj h => by
            by_cases e : j = k
            · subst e; exact he
            · exact HA.out j hj (by omega)
          generalize zs[k] = y at *
          go_wp2
          go_round
          case rel => exact ⟨k + 1, by omega, by go_num, HA1⟩
          case measure => simp [intOf]; omega
      · have hlt' : ¬ (k : Int) < (zs.length : Int) := by omega
        have HF : Hid (false = decide (z ∈ zs)) := by
          show _ = _
          rw [decide_eq_false]
          intro hm
          obtain ⟨j, hj, e⟩ := List.getElem_of_mem hm
          exact HA.out j hj (by omega) e
        go_wp2
        go_ret
        exact ⟨ret_bool HF.out, rfl⟩
end Go.Proofs.Ythdcfeafkellcab
