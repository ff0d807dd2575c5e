/-
  Draws of chapter 10: a tree with an edge, parents, of parents one and two spots.
-/
import Derived.Test.YthlbmkefjjckaadDrawWt
import Derived.Test.YthlbmkefjjckaadTrAtS
import Derived.Test.YthlbmkefjjckaadTrMath
namespace Go.Proofs.Ythlbmkefjjckaad
open Go.RowKit
set_option linter.unusedVariables false

theorem drawTree_any (B : Nat) (w0 W : World) (a : Option Addr) (len cap : Nat) (hC : Code B w0 a len) (hl : len ≤ 9223372036854775807) (h : Since B w0 W) :
    Calls Try.prog 5 #[.slice a len cap] W (DrawnEi B w0 W) := by
  have HC : Hid (Calls Try.prog 36 #[.slice a len cap] W (DrawnEi B w0 W)) := drawNear_any B w0 W a len cap hC hl h
  clear hC h
  go_enter Try.func5, Try.ntmps5
  go_wp2_with fail
  refine HC.out.mono ?_
  rintro e W1 ⟨n, v, l, r, rfl, ho1, hl1, hn1, hs1⟩
  have HP : Hid (DrawnEi B w0 W (.returned (.tuple #[.int .i64 (n : Int), v, .int .i64 r])) W1) := ⟨n, v, l, r, rfl, ho1, hl1, hn1, hs1⟩
  clear ho1 hs1
  go_wp2
  refine bodyPost_ret (results_tmp3 rfl _ _ _) rfl ?_
  exact HP.out

theorem treeOut_small (n : Int) (l : List EdD) (a : Int) : (treeOut n l a).length ≤ 12 ∧ (farsOk n l a = true → 1 ≤ (treeOut n l a).length) := by
  unfold treeOut
  by_cases h : farsOk n l a = true
  · rw [if_pos h]
    unfold farsOk at h
    rw [Bool.and_eq_true] at h
    obtain ⟨g1, g2, -, -⟩ := goodEd_true h.1
    rw [show (treeD n.toNat l a).length = n.toNat from treeT_len ..]
    omega
  · rw [if_neg h]
    exact ⟨by simp, fun q => absurd q h⟩
theorem only_set {c : Nat} {W w : World} (h : Only c W w) {p : Addr} (hp : W.heap.size ≤ p.block) (v : Value) : Only c W (w.setCell p v) := by
  have hz : (w.setCell p v).heap.size = w.heap.size := by simp [World.setCell]
  exact ⟨by rw [hz]; exact h.1, fun k hk hne => (Below.heap_setCell w p v k (by omega)).trans (h.2 k hk hne)⟩
def ParPost (B : Nat) (w0 W : World) (c : Nat) (a : Option Addr) (len cap m : Nat) (e : Ending) (W' : World) : Prop :=
  ∃ (v : Value) (ps : List Int), e = .returned v ∧ Own W' W.heap.size v ps ∧ ps.length ≤ 12 ∧ Cur B w0 W' c a len cap (m + 1010) ∧ Only c W W'

set_option maxRecDepth 100000 in
set_option maxHeartbeats 2000000 in
theorem parents_any (B : Nat) (w0 W : World) (c : Nat) (a : Option Addr) (len cap m : Nat) (hC : Code B w0 a len) (hl : len ≤ 9223372036854775807) (hm : m ≤ 100000) (h : Cur B w0 W c a len cap m) :
    Calls Try.prog 53 #[.pointer (some ⟨c, 0, none⟩)] W (ParPost B w0 W c a len cap m) := by
  have HC : Hid (Code B w0 a len) := hC
  have hcW : c < W.heap.size := h.2.1
  have HU : Hid (Cur B w0 W c a len cap m) := h
  clear hC h
  go_enter Try.func53, Try.ntmps53
  go_wp2_with fail
  refine (edges_any B w0 _ _ a len cap m HC.out hl (by omega) HU.out).mono ?_
  rintro e W1 ⟨n, v, l, rfl, ho1, hl1, hn1, hc1, hx1⟩
  obtain ⟨a1, c1, rfl⟩ := ho1.shape
  have O1 : Hid (OwnEd W1 W.heap.size (.slice a1 l.length c1) l) := ho1
  have C1 : Hid (Cur B w0 W1 c a len cap (m + 1000)) := hc1
  have X1 : Hid (Only c W W1) := hx1
  clear ho1 hc1 hx1 HU
  go_wp2_with fail
  refine (pickN_any B w0 _ c a len cap (m + 1000) (n : Int) HC.out hl (by omega) C1.out (by omega)).mono ?_
  rintro e W2 ⟨r, rfl, r0, r1, hc2, ho2⟩
  have C2 : Hid (Cur B w0 W2 c a len cap (m + 1002)) := hc2
  have X2 : Hid (Only c W W2) := X1.out.trans ho2
  have O2 : Hid (OwnEd W2 W.heap.size (.slice a1 l.length c1) l) := rowOnly O1.out ho2 hcW
  clear hc2 ho2 C1 O1 X1
  have HT := treeOut_small (n : Int) l r
  have HCT := specTreeAt_any W2 (.slice a1 l.length c1) (n : Int) l r O2.out.reads (Nat.le_trans hl1 (by decide))
  generalize treeOut (n : Int) l r = ps at *
  generalize farsOk (n : Int) l r = ok at *
  have CT : Hid (Calls Try.prog 7 #[.int .i64 (n : Int), .slice a1 l.length c1, .int .i64 r] W2 (NearPost W2 ps ok)) := HCT
  have hps := HT.1
  clear HCT
  go_wp2_with fail
  refine CT.out.mono ?_
  rintro e W3 ⟨u, rfl, ho3, hb3⟩
  have hz2 : W.heap.size ≤ W2.heap.size := X2.out.1
  have C3 : Hid (Cur B w0 W3 c a len cap (m + 1002)) := C2.out.below hb3
  have X3 : Hid (Only c W W3) := X2.out.trans (below_only hb3 c)
  have O3 : Hid (Own W3 W.heap.size u ps) := ho3.mono hz2
  clear ho3 hb3 C2 O2 X2 CT
  cases ok with
  | false =>
    have HP : Hid (ParPost B w0 W c a len cap m (.returned u) W3) := ⟨u, ps, rfl, O3.out, hps, C3.out.mono (by omega), X3.out⟩
    go_wp2
    go_ret
    exact HP.out
  | true =>
    have hp1 := HT.2 rfl
    go_wp2_with fail
    refine (one_any B w0 _ c a len cap (m + 1002) 12 HC.out hl (by omega) C3.out (by omega) (by omega)).mono ?_
    rintro e W4 ⟨b, rfl, hc4, ho4⟩
    have C4 : Hid (Cur B w0 W4 c a len cap (m + 1004)) := hc4
    have X4 : Hid (Only c W W4) := X3.out.trans ho4
    have O4 : Hid (Own W4 W.heap.size u ps) := rowOnly O3.out ho4 hcW
    clear hc4 ho4 C3 O3 X3
    cases b with
    | false =>
      have HP : Hid (ParPost B w0 W c a len cap m (.returned u) W4) := ⟨u, ps, rfl, O4.out, hps, C4.out.mono (by omega), X4.out⟩
      go_wp2
      go_ret
      exact HP.out
    | true =>
      obtain ⟨g, cap1, rfl⟩ : ∃ g cap1, u = .slice (some ⟨g, 0, none⟩) ps.length cap1 := by
        rcases O4.out.2 with ⟨hv, hn⟩ | ⟨g, cap1, cur, hv, -⟩
        · omega
        · exact ⟨g, cap1, hv⟩
      have hgW : W.heap.size ≤ g := own_ge O4.out rfl
      have hpz : (ps.length : Int) ≤ 12 := by omega
      have hpo : (1 : Int) ≤ (ps.length : Int) := by omega
      go_wp2_with fail
      refine (pick_any B w0 _ c a len cap (m + 1004) (ps.length : Int) HC.out hl (by omega) C4.out hpo (by omega)).mono ?_
      rintro e W5 ⟨q, rfl, q0, q1, hc5, ho5⟩
      obtain ⟨k, rfl⟩ : ∃ k : Nat, q = k := ⟨q.toNat, by omega⟩
      have hk : k < ps.length := by omega
      have C5 : Hid (Cur B w0 W5 c a len cap (m + 1006)) := hc5
      have X5 : Hid (Only c W W5) := X4.out.trans ho5
      have O5 : Hid (Own W5 W.heap.size (.slice (some ⟨g, 0, none⟩) ps.length cap1) ps) := rowOnly O4.out ho5 hcW
      clear hc5 ho5 C4 O4 X4
      go_wp2_with fail
      refine (pick_any B w0 _ c a len cap (m + 1006) 9 HC.out hl (by omega) C5.out (by omega) (by omega)).mono ?_
      rintro e W6 ⟨s, rfl, s0, s1, hc6, ho6⟩
      have C6 : Hid (Cur B w0 W6 c a len cap (m + 1008)) := hc6
      have X6 : Hid (Only c W W6) := X5.out.trans ho6
      have O6 : Hid (Own W6 W.heap.size (.slice (some ⟨g, 0, none⟩) ps.length cap1) ps) := rowOnly O5.out ho6 hcW
      clear hc6 ho6 C5 O5 X5
      obtain ⟨z, hz⟩ : ∃ z : Int, IntKind.i64.wrap (s - 2) = z := ⟨_, rfl⟩
      have cc := own_cellG O6.out rfl k hk
      have hfz := own_frozenG O6.out rfl k
      have HP : Hid (ParPost B w0 W c a len cap m (.returned (.slice (some ⟨g, 0, none⟩) ps.length cap1)) (W6.setCell ⟨g, k, none⟩ (.int .i64 z))) :=
        ⟨_, ps.set k z, rfl, O6.out.set k z, by rw [List.length_set]; exact hps, (C6.out.other (by omega) _).mono (by omega), only_set X6.out hgW _⟩
      clear C6 X6 O6
      have hkz : (k : Int) < (ps.length : Int) := by omega
      go_wp2
      go_ret
      exact HP.out

def DrawnPi (B : Nat) (w0 W : World) (e : Ending) (W' : World) : Prop := ∃ (v : Value) (ps : List Int) (r : Int), e = .returned (.tuple #[v, .int .i64 r]) ∧ Own W' W.heap.size v ps ∧ ps.length ≤ 12 ∧ Since B w0 W' ∧ W.heap.size ≤ W'.heap.size
def DrawnPii (B : Nat) (w0 W : World) (e : Ending) (W' : World) : Prop := ∃ (v : Value) (ps : List Int) (r s : Int), e = .returned (.tuple #[v, .int .i64 r, .int .i64 s]) ∧ Own W' W.heap.size v ps ∧ ps.length ≤ 12 ∧ Since B w0 W' ∧ W.heap.size ≤ W'.heap.size

set_option maxRecDepth 100000 in
set_option maxHeartbeats 2000000 in
theorem drawSpread_any (B : Nat) (w0 W : World) (a : Option Addr) (len cap : Nat) (hC : Code B w0 a len) (hl : len ≤ 9223372036854775807) (h : Since B w0 W) :
    Calls Try.prog 17 #[.slice a len cap] W (DrawnPi B w0 W) := by
  have HC : Hid (Code B w0 a len) := hC
  have HU : Hid (Cur B w0 (W.alloc (.cells #[.slice a len cap, .int .i64 0, .int .u64 0] 78)) W.heap.size a len cap 0) := cur_new a len cap 78 h
  clear hC h
  go_enter Try.func17, Try.ntmps17
  go_wp2_with fail
  refine (parents_any B w0 _ _ a len cap 0 HC.out hl (by omega) HU.out).mono ?_
  rintro e W1 ⟨v, ps, rfl, ho1, hl1, hc1, hx1⟩
  obtain ⟨a1, c1, rfl⟩ := ho1.shape
  have O1 : Hid (Own W1 (W.heap.size + 1) (.slice a1 ps.length c1) ps) := by show Own _ _ _ _; have := ho1; simp at this; exact this
  have C1 : Hid (Cur B w0 W1 W.heap.size a len cap 1010) := hc1.mono (by omega)
  have Z1 : Hid (W.heap.size ≤ W1.heap.size) := by show _ ≤ _; have := hx1.1; simp at this; omega
  clear ho1 hc1 hx1 HU
  obtain ⟨kk, hkk, hk1, hk2⟩ : ∃ kk : Int, IntKind.i64.wrap ((ps.length : Int) + 2) = kk ∧ 2 ≤ kk ∧ kk ≤ 50 := ⟨(ps.length : Int) + 2, by rw [IntKind.wrap_i64]; omega, by omega, by omega⟩
  go_wp2_with fail
  refine (pick_any B w0 _ W.heap.size a len cap 1010 kk HC.out hl (by omega) C1.out (by omega) (by omega)).mono ?_
  rintro e W2 ⟨r, rfl, r0, r1, hc2, ho2⟩
  obtain ⟨rr, hrr⟩ : ∃ rr : Int, IntKind.i64.wrap (r - 1) = rr := ⟨_, rfl⟩
  have HP : Hid (DrawnPi B w0 W (.returned (.tuple #[.slice a1 ps.length c1, .int .i64 rr])) W2) := ⟨_, ps, rr, rfl, rowMono (rowOnly O1.out ho2 (by omega)) (Nat.le_succ _), hl1, hc2.2.2.1, Nat.le_trans Z1.out ho2.1⟩
  clear hc2 ho2 C1 O1
  go_wp2
  refine bodyPost_ret (results_tmp2 rfl _ _ _) rfl ?_
  exact HP.out

set_option maxRecDepth 100000 in
set_option maxHeartbeats 2000000 in
theorem drawCf_any (B : Nat) (w0 W : World) (a : Option Addr) (len cap : Nat) (hC : Code B w0 a len) (hl : len ≤ 9223372036854775807) (h : Since B w0 W) :
    Calls Try.prog 19 #[.slice a len cap] W (DrawnPii B w0 W) := by
  have HC : Hid (Code B w0 a len) := hC
  have HU : Hid (Cur B w0 (W.alloc (.cells #[.slice a len cap, .int .i64 0, .int .u64 0] 78)) W.heap.size a len cap 0) := cur_new a len cap 78 h
  clear hC h
  go_enter Try.func19, Try.ntmps19
  go_wp2_with fail
  refine (parents_any B w0 _ _ a len cap 0 HC.out hl (by omega) HU.out).mono ?_
  rintro e W1 ⟨v, ps, rfl, ho1, hl1, hc1, hx1⟩
  obtain ⟨a1, c1, rfl⟩ := ho1.shape
  have O1 : Hid (Own W1 (W.heap.size + 1) (.slice a1 ps.length c1) ps) := by show Own _ _ _ _; have := ho1; simp at this; exact this
  have C1 : Hid (Cur B w0 W1 W.heap.size a len cap 1010) := hc1.mono (by omega)
  have Z1 : Hid (W.heap.size ≤ W1.heap.size) := by show _ ≤ _; have := hx1.1; simp at this; omega
  clear ho1 hc1 hx1 HU
  obtain ⟨k1, hk1, hk11, hk12⟩ : ∃ kk : Int, IntKind.i64.wrap ((ps.length : Int) + 1) = kk ∧ 1 ≤ kk ∧ kk ≤ 50 := ⟨(ps.length : Int) + 1, by rw [IntKind.wrap_i64]; omega, by omega, by omega⟩
  go_wp2_with fail
  refine (pick_any B w0 _ W.heap.size a len cap 1010 k1 HC.out hl (by omega) C1.out (by omega) (by omega)).mono ?_
  rintro e W2 ⟨r1, rfl, r10, r11, hc2, ho2⟩
  have C2 : Hid (Cur B w0 W2 W.heap.size a len cap 1012) := hc2
  have O2 : Hid (Own W2 (W.heap.size + 1) (.slice a1 ps.length c1) ps) := rowOnly O1.out ho2 (by omega)
  have Z2 : Hid (W.heap.size ≤ W2.heap.size) := Nat.le_trans Z1.out ho2.1
  clear hc2 ho2 C1 O1
  go_wp2_with fail
  refine (pick_any B w0 _ W.heap.size a len cap 1012 9 HC.out hl (by omega) C2.out (by omega) (by omega)).mono ?_
  rintro e W3 ⟨r2, rfl, r20, r21, hc3, ho3⟩
  have C3 : Hid (Cur B w0 W3 W.heap.size a len cap 1014) := hc3
  have O3 : Hid (Own W3 (W.heap.size + 1) (.slice a1 ps.length c1) ps) := rowOnly O2.out ho3 (by omega)
  have Z3 : Hid (W.heap.size ≤ W3.heap.size) := Nat.le_trans Z2.out ho3.1
  clear hc3 ho3 C2 O2
  go_wp2_with fail
  refine (pick_any B w0 _ W.heap.size a len cap 1014 9 HC.out hl (by omega) C3.out (by omega) (by omega)).mono ?_
  rintro e W4 ⟨r3, rfl, r30, r31, hc4, ho4⟩
  have C4 : Hid (Cur B w0 W4 W.heap.size a len cap 1016) := hc4
  have O4 : Hid (Own W4 (W.heap.size + 1) (.slice a1 ps.length c1) ps) := rowOnly O3.out ho4 (by omega)
  have Z4 : Hid (W.heap.size ≤ W4.heap.size) := Nat.le_trans Z3.out ho4.1
  clear hc4 ho4 C3 O3
  go_wp2_with fail
  refine (pickN_any B w0 _ W.heap.size a len cap 1016 _ HC.out hl (by omega) C4.out (by omega)).mono ?_
  rintro e W5 ⟨r4, rfl, r40, r41, hc5, ho5⟩
  have HP : Hid (Own W5 W.heap.size (.slice a1 ps.length c1) ps ∧ ps.length ≤ 12 ∧ Since B w0 W5 ∧ W.heap.size ≤ W5.heap.size) := ⟨rowMono (rowOnly O4.out ho5 (by omega)) (Nat.le_succ _), hl1, hc5.2.2.1, Nat.le_trans Z4.out ho5.1⟩
  clear hc5 ho5 C4 O4
  go_wp2
  refine bodyPost_ret (results_tmp3 rfl _ _ _) rfl ?_
  exact ⟨_, ps, _, _, rfl, HP.out.1, HP.out.2⟩
end Go.Proofs.Ythlbmkefjjckaad
