/-
  Draws of chapter 9: two spots, a flow, a way.
-/
import Derived.Test.YthlbmkefjjckaacDrawEd2
import Derived.Test.YthlbmkefjjckaacGrWayTo
namespace Go.Proofs.Ythlbmkefjjckaac
open Go.RowKit
set_option linter.unusedVariables false

theorem wayOut_small (n : Int) (l : List EdD) (a b : Int) : (wayOut n l a b).length ≤ 12 := by
  by_cases h : wayOk n l a b = true
  · obtain ⟨r, hr, hw⟩ := wayOut_is h
    rw [hr]
    unfold wayOk at h
    rw [Bool.and_eq_true] at h
    obtain ⟨hg, hA, hB⟩ := endsOk_true h.1
    obtain ⟨g1, -, g3, -⟩ := goodEd_true hg
    obtain ⟨N, rfl⟩ : ∃ N : Nat, n = (N : Int) := ⟨n.toNat, by omega⟩
    have := way_len g3 r a hA.1 hA.2 hw
    omega
  · unfold wayOut
    rw [if_neg h]
    simp

/-- 'pick' of nothing. -/
theorem pick0_any (W : World) (c : Nat) (n : Int) (h : n ≤ 1) : Calls Try.prog 88 #[.pointer (some ⟨c, 0, none⟩), .int .i64 n] W fun e W' => e = .returned (.int .i64 0) ∧ W' = W := by
  go_enter Try.func88, Try.ntmps88
  go_wp2
  go_ret
  exact ⟨rfl, rfl⟩
theorem pickN_any (B : Nat) (w0 W : World) (c : Nat) (a : Option Addr) (len cap m : Nat) (n : Int) (hC : Code B w0 a len) (hl : len ≤ 9223372036854775807) (hm : m ≤ 900000) (h : Cur B w0 W c a len cap m) (n2 : n ≤ 1000000) :
    Calls Try.prog 88 #[.pointer (some ⟨c, 0, none⟩), .int .i64 n] W fun e W' => ∃ r : Int, e = .returned (.int .i64 r) ∧ 0 ≤ r ∧ r ≤ max n 0 ∧ Cur B w0 W' c a len cap (m + 2) ∧ Only c W W' := by
  by_cases h1 : n ≤ 1
  · refine (pick0_any W c n h1).mono ?_
    rintro e W' ⟨rfl, rfl⟩
    exact ⟨0, rfl, by omega, by omega, h.mono (by omega), Only.refl _ _⟩
  · refine (pick_any B w0 W c a len cap m n hC hl hm h (by omega) n2).mono ?_
    rintro e W' ⟨r, rfl, r0, r1, hc, ho⟩
    exact ⟨r, rfl, r0, by omega, hc, ho⟩

theorem results_tmp4w {fn : Func} {t u v x : Tmp} (h : fn.results = #[.tmp t, .tmp u, .tmp v, .tmp x]) (tmps : Array Value) (P : Program) (w : World) :
    (results fn tmps).run P w = .ok (.tuple #[tmps[t]?.getD undef, tmps[u]?.getD undef, tmps[v]?.getD undef, tmps[x]?.getD undef]) w := by
  simp [results, h, go_sem]
theorem results_tmp5w {fn : Func} {t u v x y : Tmp} (h : fn.results = #[.tmp t, .tmp u, .tmp v, .tmp x, .tmp y]) (tmps : Array Value) (P : Program) (w : World) :
    (results fn tmps).run P w = .ok (.tuple #[tmps[t]?.getD undef, tmps[u]?.getD undef, tmps[v]?.getD undef, tmps[x]?.getD undef, tmps[y]?.getD undef]) w := by
  simp [results, h, go_sem]
def DrawnEii (B : Nat) (w0 W : World) (e : Ending) (W' : World) : Prop := ∃ (n : Nat) (v : Value) (l : List EdD) (r s : Int), e = .returned (.tuple #[.int .i64 (n : Int), v, .int .i64 r, .int .i64 s]) ∧ OwnEd W' W.heap.size v l ∧ l.length ≤ 40 ∧ n ≤ 13 ∧ Since B w0 W' ∧ W.heap.size ≤ W'.heap.size

set_option maxRecDepth 100000 in
set_option maxHeartbeats 2000000 in
theorem drawTwo_any (B : Nat) (w0 W : World) (a : Option Addr) (len cap : Nat) (hC : Code B w0 a len) (hl : len ≤ 9223372036854775807) (h : Since B w0 W) :
    Calls Try.prog 63 #[.slice a len cap] W (DrawnEii B w0 W) := by
  have HC : Hid (Code B w0 a len) := hC
  have HU : Hid (Cur B w0 (W.alloc (.cells #[.slice a len cap, .int .i64 0, .int .u64 0] 93)) W.heap.size a len cap 0) := cur_new a len cap 93 h
  clear hC h
  go_enter Try.func63, Try.ntmps63
  go_wp2_with fail
  refine (edges_any B w0 _ _ a len cap 0 HC.out hl (by omega) HU.out).mono ?_
  rintro e W1 ⟨n, v, l, rfl, ho1, hl1, hn1, hc1, hx1⟩
  obtain ⟨a1, c1, rfl⟩ := ho1.shape
  have O1 : Hid (OwnEd W1 (W.heap.size + 1) (.slice a1 l.length c1) l) := by show OwnEd _ _ _ _; have := ho1; simp at this; exact this
  have C1 : Hid (Cur B w0 W1 W.heap.size a len cap 1000) := hc1.mono (by omega)
  have Z1 : Hid (W.heap.size ≤ W1.heap.size) := by show _ ≤ _; have := hx1.1; simp at this; omega
  clear ho1 hc1 hx1 HU
  obtain ⟨k1, hk1, hk11, hk12⟩ : ∃ kk : Int, IntKind.i64.wrap ((n : Int) + 1) = kk ∧ 1 ≤ kk ∧ kk ≤ 50 := ⟨(n : Int) + 1, by rw [IntKind.wrap_i64]; omega, by omega, by omega⟩
  go_wp2_with fail
  refine (pick_any B w0 _ W.heap.size a len cap 1000 k1 HC.out hl (by omega) C1.out (by omega) (by omega)).mono ?_
  rintro e W2 ⟨r1, rfl, r10, r11, hc2, ho2⟩
  have C2 : Hid (Cur B w0 W2 W.heap.size a len cap 1002) := hc2
  have O2 : Hid (OwnEd W2 (W.heap.size + 1) (.slice a1 l.length c1) l) := rowOnly O1.out ho2 (by omega)
  have Z2 : Hid (W.heap.size ≤ W2.heap.size) := Nat.le_trans Z1.out ho2.1
  clear hc2 ho2 C1 O1
  go_wp2_with fail
  refine (pick_any B w0 _ W.heap.size a len cap 1002 9 HC.out hl (by omega) C2.out (by omega) (by omega)).mono ?_
  rintro e W3 ⟨r2, rfl, r20, r21, hc3, ho3⟩
  have C3 : Hid (Cur B w0 W3 W.heap.size a len cap 1004) := hc3
  have O3 : Hid (OwnEd W3 (W.heap.size + 1) (.slice a1 l.length c1) l) := rowOnly O2.out ho3 (by omega)
  have Z3 : Hid (W.heap.size ≤ W3.heap.size) := Nat.le_trans Z2.out ho3.1
  clear hc3 ho3 C2 O2
  go_wp2_with fail
  refine (pick_any B w0 _ W.heap.size a len cap 1004 9 HC.out hl (by omega) C3.out (by omega) (by omega)).mono ?_
  rintro e W4 ⟨r3, rfl, r30, r31, hc4, ho4⟩
  have C4 : Hid (Cur B w0 W4 W.heap.size a len cap 1006) := hc4
  have O4 : Hid (OwnEd W4 (W.heap.size + 1) (.slice a1 l.length c1) l) := rowOnly O3.out ho4 (by omega)
  have Z4 : Hid (W.heap.size ≤ W4.heap.size) := Nat.le_trans Z3.out ho4.1
  clear hc4 ho4 C3 O3
  go_wp2_with fail
  refine (pickN_any B w0 _ W.heap.size a len cap 1006 _ HC.out hl (by omega) C4.out (by omega)).mono ?_
  rintro e W5 ⟨r4, rfl, r40, r41, hc5, ho5⟩
  have HP : Hid (OwnEd W5 W.heap.size (.slice a1 l.length c1) l ∧ Since B w0 W5 ∧ W.heap.size ≤ W5.heap.size) := ⟨rowMono (rowOnly O4.out ho5 (by omega)) (Nat.le_succ _), hc5.2.2.1, Nat.le_trans Z4.out ho5.1⟩
  clear hc5 ho5 C4 O4
  go_wp2
  refine bodyPost_ret (results_tmp4w rfl _ _ _) rfl ?_
  exact ⟨n, _, l, _, _, rfl, HP.out.1, hl1, hn1, HP.out.2⟩

theorem drawWay_any (B : Nat) (w0 W : World) (a : Option Addr) (len cap : Nat) (hC : Code B w0 a len) (hl : len ≤ 9223372036854775807) (h : Since B w0 W) :
    Calls Try.prog 59 #[.slice a len cap] W (DrawnEii B w0 W) := by
  have HC : Hid (Calls Try.prog 63 #[.slice a len cap] W (DrawnEii B w0 W)) := drawTwo_any B w0 W a len cap hC hl h
  clear hC h
  go_enter Try.func59, Try.ntmps59
  go_wp2_with fail
  refine HC.out.mono ?_
  rintro e W1 ⟨n, v, l, r, s, rfl, ho1, hl1, hn1, hs1, hz1⟩
  have HP : Hid (DrawnEii B w0 W (.returned (.tuple #[.int .i64 (n : Int), v, .int .i64 r, .int .i64 s])) W1) := ⟨n, v, l, r, s, rfl, ho1, hl1, hn1, hs1, hz1⟩
  clear ho1 hs1
  go_wp2
  refine bodyPost_ret (results_tmp4w rfl _ _ _) rfl ?_
  exact HP.out

theorem drawFars_any (B : Nat) (w0 W : World) (a : Option Addr) (len cap : Nat) (hC : Code B w0 a len) (hl : len ≤ 9223372036854775807) (h : Since B w0 W) :
    Calls Try.prog 50 #[.slice a len cap] W (DrawnEi B w0 W) := by
  have HC : Hid (Calls Try.prog 44 #[.slice a len cap] W (DrawnEi B w0 W)) := drawNear_any B w0 W a len cap hC hl h
  clear hC h
  go_enter Try.func50, Try.ntmps50
  go_wp2_with fail
  refine HC.out.mono ?_
  rintro e W1 ⟨n, v, l, r, rfl, ho1, hl1, hn1, hs1⟩
  have HP : Hid (DrawnEi B w0 W (.returned (.tuple #[.int .i64 (n : Int), v, .int .i64 r])) W1) := ⟨n, v, l, r, rfl, ho1, hl1, hn1, hs1⟩
  clear ho1 hs1
  go_wp2
  refine bodyPost_ret (results_tmp3 rfl _ _ _) rfl ?_
  exact HP.out

def DrawnEiii (B : Nat) (w0 W : World) (e : Ending) (W' : World) : Prop := ∃ (n : Nat) (v : Value) (l : List EdD) (r s f : Int), e = .returned (.tuple #[.int .i64 (n : Int), v, .int .i64 r, .int .i64 s, .int .i64 f]) ∧ OwnEd W' W.heap.size v l ∧ l.length ≤ 40 ∧ n ≤ 13 ∧ Since B w0 W'
set_option maxRecDepth 100000 in
set_option maxHeartbeats 2000000 in
theorem drawHopFor_any (B : Nat) (w0 W : World) (a : Option Addr) (len cap : Nat) (hC : Code B w0 a len) (hl : len ≤ 9223372036854775807) (h : Since B w0 W) :
    Calls Try.prog 66 #[.slice a len cap] W (DrawnEiii B w0 W) := by
  have HC : Hid (Code B w0 a len) := hC
  have HD : Hid (Calls Try.prog 63 #[.slice a len cap] W (DrawnEii B w0 W)) := drawTwo_any B w0 W a len cap hC hl h
  clear hC h
  go_enter Try.func66, Try.ntmps66
  go_wp2_with fail
  refine HD.out.mono ?_
  rintro e W1 ⟨n, v, l, r, s, rfl, ho1, hl1, hn1, hs1, hz1⟩
  obtain ⟨a1, c1, rfl⟩ := ho1.shape
  have O1 : Hid (OwnEd W1 W.heap.size (.slice a1 l.length c1) l) := ho1
  have S1 : Hid (Since B w0 W1) := hs1
  have HU : Hid (Cur B w0 (W1.alloc (.cells #[.slice a len cap, .int .i64 0, .int .u64 0] 93)) W1.heap.size a len cap 0) := cur_new a len cap 93 S1.out
  have HCL : Hid (∀ j (hj : j < [(-1 : Int), 0, 1, 7, 1000, 1001].length), ((W1.alloc (.cells #[.slice a len cap, .int .i64 0, .int .u64 0] 93)).alloc (.cells #[.int .i64 (-1), .int .i64 0, .int .i64 1, .int .i64 7, .int .i64 1000, .int .i64 1001] 3)).cell? ⟨(W1.alloc (.cells #[.slice a len cap, .int .i64 0, .int .u64 0] 93)).heap.size, j, none⟩ = some (.int .i64 [(-1 : Int), 0, 1, 7, 1000, 1001][j])) := cells_lit (W1.alloc (.cells #[.slice a len cap, .int .i64 0, .int .u64 0] 93)) 3 [(-1 : Int), 0, 1, 7, 1000, 1001]
  have O2 : Hid (OwnEd ((W1.alloc (.cells #[.slice a len cap, .int .i64 0, .int .u64 0] 93)).alloc (.cells #[.int .i64 (-1), .int .i64 0, .int .i64 1, .int .i64 7, .int .i64 1000, .int .i64 1001] 3)) W.heap.size (.slice a1 l.length c1) l) := O1.out.below (((Below.refl _ W1).alloc (Nat.le_refl _) _).alloc (by simp) _)
  have HLT : Hid (∀ k, (Value.slice a1 l.length c1).ownBlock = some k → k < W1.heap.size) := fun k hk => (World.ownsRow.lt O1.out k hk).2
  clear ho1 hs1 HD O1
  go_wp2_with fail
  rw [World.size_alloc] at HCL
  refine (among_any B w0 _ W1.heap.size (W1.heap.size + 1) [(-1 : Int), 0, 1, 7, 1000, 1001] a len cap 6 0 HC.out hl (by omega) (curAlloc HU.out _) (by simp) (by simp) (by simp) (by omega) HCL.out).mono ?_
  rintro e W2 ⟨f, rfl, -, hc2, ho2⟩
  have HP : Hid (OwnEd W2 W.heap.size (.slice a1 l.length c1) l ∧ Since B w0 W2) := ⟨rowSame O2.out fun k hk => ho2.2 k (by have := HLT.out k hk; simp; omega) (by have := HLT.out k hk; omega), hc2.2.2.1⟩
  clear hc2 ho2 HU HCL O2
  go_wp2
  refine bodyPost_ret (results_tmp5w rfl _ _ _) rfl ?_
  exact ⟨n, _, l, _, _, _, rfl, HP.out.1, hl1, hn1, HP.out.2⟩

/-- Of a way drawn one may have been spoilt. -/
def DrawnEn (B : Nat) (w0 W : World) (e : Ending) (W' : World) : Prop := ∃ (n : Nat) (v : Value) (l : List EdD) (u : Value) (ws : List Int), e = .returned (.tuple #[.int .i64 (n : Int), v, u]) ∧ OwnEd W' W.heap.size v l ∧ l.length ≤ 40 ∧ n ≤ 13 ∧ Own W' W.heap.size u ws ∧ ws.length ≤ 12 ∧ Since B w0 W'

set_option maxRecDepth 100000 in
set_option maxHeartbeats 2000000 in
theorem drawCost_any (B : Nat) (w0 W : World) (a : Option Addr) (len cap : Nat) (hC : Code B w0 a len) (hl : len ≤ 9223372036854775807) (h : Since B w0 W) :
    Calls Try.prog 69 #[.slice a len cap] W (DrawnEn B w0 W) := by
  have HC : Hid (Code B w0 a len) := hC
  have HD : Hid (Calls Try.prog 63 #[.slice a len cap] W (DrawnEii B w0 W)) := drawTwo_any B w0 W a len cap hC hl h
  clear hC h
  go_enter Try.func69, Try.ntmps69
  go_wp2_with fail
  refine HD.out.mono ?_
  rintro e W1 ⟨n, v, l, r, s, rfl, ho1, hl1, hn1, hs1, hz1⟩
  obtain ⟨a1, c1, rfl⟩ := ho1.shape
  have O1 : Hid (OwnEd W1 W.heap.size (.slice a1 l.length c1) l) := ho1
  have S1 : Hid (Since B w0 W1) := hs1
  have HU : Hid (Cur B w0 (W1.alloc (.cells #[.slice a len cap, .int .i64 0, .int .u64 0] 93)) W1.heap.size a len cap 0) := cur_new a len cap 93 S1.out
  have O2 : Hid (OwnEd (W1.alloc (.cells #[.slice a len cap, .int .i64 0, .int .u64 0] 93)) W.heap.size (.slice a1 l.length c1) l) := O1.out.below ((Below.refl _ W1).alloc (Nat.le_refl _) _)
  have HW1 : Hid (W.heap.size ≤ W1.heap.size) := hz1
  have HLT : Hid (∀ k, (Value.slice a1 l.length c1).ownBlock = some k → k < W1.heap.size) := fun k hk => (World.ownsRow.lt O1.out k hk).2
  clear ho1 hs1 HD O1
  go_wp2_with fail
  refine (specWayTo_any _ _ (n : Int) l r s O2.out.reads (Nat.le_trans hl1 (by decide))).mono ?_
  rintro e W2 ⟨u, rfl, ho2, hb2⟩
  have HWL : Hid ((wayOut (n : Int) l r s).length ≤ 12) := wayOut_small _ _ _ _
  generalize wayOut (n : Int) l r s = ws at *
  generalize wayCost (n : Int) l r s = cost at *
  generalize wayOk (n : Int) l r s = ok at *
  obtain ⟨a2, c2, rfl⟩ := ho2.shape
  have HU2 : Hid (Cur B w0 W2 W1.heap.size a len cap 0) := HU.out.below hb2
  have O3 : Hid (OwnEd W2 W.heap.size (.slice a1 l.length c1) l) := O2.out.below hb2
  have HW2 : Hid (Own W2 (W1.heap.size + 1) (.slice a2 ws.length c2) ws) := by show Own _ _ _ _; have := ho2; rwa [World.size_alloc] at this
  have HSZ : Hid (W1.heap.size + 1 ≤ W2.heap.size) := by show _ ≤ _; have := hb2.size; simpa using this
  clear ho2 hb2 HU O2
  cases ok with
  | false =>
    go_wp2
    refine bodyPost_ret (results_tmp3 rfl _ _ _) rfl ?_
    exact ⟨n, _, l, _, ws, rfl, O3.out, hl1, hn1, HW2.out.mono (by have := HW1.out; omega), HWL.out, HU2.out.2.2.1⟩
  | true =>
    by_cases hw : ws.length ≤ 1
    · have hw' : ¬ (1 : Int) < (ws.length : Int) := by omega
      go_wp2
      refine bodyPost_ret (results_tmp3 rfl _ _ _) rfl ?_
      exact ⟨n, _, l, _, ws, rfl, O3.out, hl1, hn1, HW2.out.mono (by have := HW1.out; omega), HWL.out, HU2.out.2.2.1⟩
    · have hw' : (1 : Int) < (ws.length : Int) := by omega
      have hw0 : (0 : Int) < (ws.length : Int) := by omega
      go_wp2_with fail
      refine (one_any B w0 _ W1.heap.size a len cap 0 4 HC.out hl (by omega) HU2.out (by omega) (by omega)).mono ?_
      rintro e W3 ⟨q, rfl, hc3, ho3⟩
      have HU3 : Hid (Cur B w0 W3 W1.heap.size a len cap 2) := hc3
      have HW3 : Hid (Own W3 (W1.heap.size + 1) (.slice a2 ws.length c2) ws) := rowOnly HW2.out ho3 (by omega)
      have O4 : Hid (OwnEd W3 W.heap.size (.slice a1 l.length c1) l) := rowSame O3.out fun k hk => ho3.2 k (by have := HLT.out k hk; have := HSZ.out; omega) (by have := HLT.out k hk; omega)
      clear hc3 ho3 HU2 HW2 O3
      cases q with
      | false =>
        go_wp2
        refine bodyPost_ret (results_tmp3 rfl _ _ _) rfl ?_
        exact ⟨n, _, l, _, ws, rfl, O4.out, hl1, hn1, HW3.out.mono (by have := HW1.out; omega), HWL.out, HU3.out.2.2.1⟩
      | true =>
        rcases HW3.out.2 with ⟨hv, h0⟩ | ⟨g, cap2, cur2, hv, hg, -⟩
        · omega
        cases hv
        have hcell := own_cellG HW3.out rfl 0 (by omega)
        go_wp2_with fail
        refine (pick_any B w0 _ W1.heap.size a len cap 2 9 HC.out hl (by omega) HU3.out (by omega) (by omega)).mono ?_
        rintro e W4 ⟨x, rfl, -, -, hc4, ho4⟩
        have HW4 : Hid (Own W4 (W1.heap.size + 1) (.slice (some ⟨g, 0, none⟩) ws.length c2) ws) := rowOnly HW3.out ho4 (by omega)
        have hcell4 := own_cellG HW4.out rfl 0 (by omega)
        have hfz4 := own_frozenG HW4.out rfl 0
        have O5 : Hid (OwnEd W4 W.heap.size (.slice a1 l.length c1) l) := rowSame O4.out fun k hk => ho4.2 k (World.ownsRow.lt O4.out k hk).2 (by have := HLT.out k hk; omega)
        have HF : Hid (OwnEd (W4.setCell ⟨g, 0, none⟩ (.int .i64 x)) W.heap.size (.slice a1 l.length c1) l ∧ Own (W4.setCell ⟨g, 0, none⟩ (.int .i64 x)) W.heap.size (.slice (some ⟨g, 0, none⟩) ws.length c2) (ws.set 0 x) ∧ Since B w0 (W4.setCell ⟨g, 0, none⟩ (.int .i64 x))) :=
          ⟨rowSame O5.out fun k hk => Below.heap_setCell W4 ⟨g, 0, none⟩ _ k (by show k ≠ g; have := HLT.out k hk; omega), (HW4.out.set 0 x).mono (by have := HW1.out; omega), (hc4.2.2.1.1.setCell (p := ⟨g, 0, none⟩) (by have := S1.out.2; show B ≤ g; omega) _), by have := hc4.2.2.1.2; simpa [World.setCell] using this⟩
        clear hc4 ho4 hcell O4 HW3
        go_wp2
        refine bodyPost_ret (results_tmp3 rfl _ _ _) rfl ?_
        exact ⟨n, _, l, _, ws.set 0 x, rfl, HF.out.1, hl1, hn1, HF.out.2.1, by rw [List.length_set]; exact HWL.out, HF.out.2.2⟩
end Go.Proofs.Ythlbmkefjjckaac
