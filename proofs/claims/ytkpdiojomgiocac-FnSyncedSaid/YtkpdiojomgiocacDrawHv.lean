/-
  What the cursor draws of haves: 'haves'.
-/
import Derived.Test.YtkpdiojomgiocacDrawG
import Derived.Test.YtkpdiojomgiocacRowLaw0
import Derived.Test.YtkpdiojomgiocacLsLies
import Derived.WideShapes
import Derived.Deep.CutRange
namespace Go.Proofs.Ytkpdiojomgiocac
open Go.RowKit
set_option linter.unusedVariables false

/-- What 'haves' leaves: a list of its own. -/
def HvsPost (B : Nat) (w0 W : World) (c : Nat) (a : Option Addr) (len cap m : Nat) (e : Ending) (W' : World) : Prop :=
  ∃ v l, e = .returned v ∧ OwnHv W' W.heap.size v l ∧ l.length ≤ 30 ∧ Cur B w0 W' c a len cap (m + 260) ∧ Only c W W'

/-- What the loop of 'haves' keeps. -/
structure Hvg (B : Nat) (w0 W : World) (c : Nat) (a : Option Addr) (len cap m : Nat) (v : Value) (l : List HvD) (n : Nat) (wr : World) : Prop where
  own : OwnHv wr W.heap.size v l
  fit : l.length + n ≤ 30
  cur : Cur B w0 wr c a len cap (m + 4 + 8 * (30 - n))
  only : Only c W wr

set_option maxRecDepth 100000 in
set_option maxHeartbeats 4000000 in
theorem haves_any (B : Nat) (w0 W : World) (c : Nat) (a : Option Addr) (len cap m : Nat) (hC : Code B w0 a len) (hl : len ≤ 9223372036854775807) (hm : m ≤ 100000) (h : Cur B w0 W c a len cap m) :
    Calls Try.prog 27 #[.pointer (some ⟨c, 0, none⟩)] W (HvsPost B w0 W c a len cap m) := by
  have HD : Hid (Code B w0 a len) := hC
  have hcW : c < W.heap.size := h.2.1
  have HH : Hid (Cur B w0 W c a len cap m) := h
  clear hC h
  go_enter Try.func27, Try.ntmps27
  go_wp2_with fail
  refine (pick_any B w0 _ c a len cap m 9 HD.out hl (by omega) HH.out (by omega) (by omega)).mono ?_
  rintro e W1 ⟨q, rfl, q0, q1, hc1, ho1⟩
  obtain ⟨n1, rfl⟩ : ∃ n : Nat, q = n := ⟨q.toNat, by omega⟩
  have HC1 : Hid (Cur B w0 W1 c a len cap (m + 2) ∧ Only c W W1) := ⟨hc1, ho1⟩
  clear hc1 ho1
  go_wp2_with fail
  refine (one_any B w0 _ c a len cap (m + 2) 20 HD.out hl (by omega) HC1.out.1 (by omega) (by omega)).mono ?_
  rintro e W2 ⟨b2, rfl, hc2, ho2⟩
  have HC2 : Hid (Cur B w0 W2 c a len cap (m + 4) ∧ Only c W W2) := ⟨hc2, HC1.out.2.trans ho2⟩
  clear hc2 ho2 HC1
  cases b2
  case false =>
    have HB0 : Hid (Hvg B w0 W c a len cap m (.slice none 0 0) [] (n1) W2) := ⟨OwnHv.nil _ _, by have : ([] : List HvD).length = 0 := rfl; omega, HC2.out.1.mono (by omega), HC2.out.2⟩
    clear HC2
    go_wp2
    go_loopw [3, 4] (fun v i wr => ∃ (l : List HvD) (k : Nat), i = .int .i64 (k : Int) ∧ Hid (Hvg B w0 W c a len cap m v l k wr)) (fun _ i _ => (intOf i).toNat)
    case atStart => exact ⟨[], n1, rfl, HB0.out⟩
    case round =>
      clear HB0
      obtain ⟨l, k, rfl, HG⟩ := hrel
      obtain ⟨a3, c3, rfl⟩ := HG.out.own.shape
      have hkl : l.length + k ≤ 30 := HG.out.fit
      by_cases hk : 0 < k
      · have hk' : 0 < (k : Int) := by omega
        have HCU : Hid (Cur B w0 wr c a len cap (m + 4 + 8 * (30 - k))) := HG.out.cur
        go_wp2_with fail
        refine (pick_any B w0 _ c a len cap (m + 4 + 8 * (30 - k)) 20 HD.out hl (by omega) HCU.out (by omega) (by omega)).mono ?_
        rintro e W4 ⟨r4, rfl, r40, r41, hc4, ho4⟩
        have HC4 : Hid (Cur B w0 W4 c a len cap (m + 4 + 8 * (30 - k) + 2) ∧ Only c wr W4) := ⟨hc4, ho4⟩
        clear hc4 ho4
        go_wp2_with fail
        refine (pick_any B w0 _ c a len cap (m + 4 + 8 * (30 - k) + 2) 200 HD.out hl (by omega) HC4.out.1 (by omega) (by omega)).mono ?_
        rintro e W5 ⟨r5, rfl, r50, r51, hc5, ho5⟩
        have HC5 : Hid (Cur B w0 W5 c a len cap (m + 4 + 8 * (30 - k) + 4) ∧ Only c wr W5) := ⟨hc5, HC4.out.2.trans ho5⟩
        have hcW5 : c < W5.heap.size := hc5.2.1
        clear hc5 ho5 HC4
        have HCL : Hid (∀ j (hj : j < [(1 : Int), 1000, 1 + r4, 1 + r5].length), (W5.alloc (.cells #[.int .i64 1, .int .i64 1000, .int .i64 (1 + r4), .int .i64 (1 + r5)] 3)).cell? ⟨W5.heap.size, j, none⟩ = some (.int .i64 [(1 : Int), 1000, 1 + r4, 1 + r5][j])) := cells_lit W5 3 [(1 : Int), 1000, 1 + r4, 1 + r5]
        go_wp2_with fail
        refine (among_any B w0 _ c W5.heap.size [(1 : Int), 1000, 1 + r4, 1 + r5] a len cap 4 (m + 4 + 8 * (30 - k) + 4) HD.out hl (by omega) (curAlloc HC5.out.1 _) (by simp) (by simp) (by simp) (by omega) HCL.out).mono ?_
        rintro e W6 ⟨r6, rfl, -, hc6, ho6⟩
        have HC6 : Hid (Cur B w0 W6 c a len cap (m + 4 + 8 * (30 - k) + 6) ∧ Only c wr W6) := ⟨hc6, HC5.out.2.trans ((onlyAlloc (Only.refl _ _) _).trans ho6)⟩
        clear hc6 ho6 HC5 HCL
        go_wp2_with fail
        refine (pick_any B w0 _ c a len cap (m + 4 + 8 * (30 - k) + 6) 5 HD.out hl (by omega) HC6.out.1 (by omega) (by omega)).mono ?_
        rintro e W7 ⟨r7, rfl, r70, r71, hc7, ho7⟩
        have HC7 : Hid (Cur B w0 W7 c a len cap (m + 4 + 8 * (30 - k) + 8) ∧ Only c W W7) := ⟨hc7, HG.out.only.trans (HC6.out.2.trans ho7)⟩
        have HO7 : Hid (OwnHv W7 W.heap.size (.slice a3 l.length c3) l) := rowOnly HG.out.own (HC6.out.2.trans ho7) hcW
        clear hc7 ho7 HC6 HG HCU
        have CP : Hid (Calls Try.prog 36 #[.slice a3 l.length c3, .agg #[.int .i64 r6, .int .i64 (1 + r7)]] W7 (PutHvPost W7 (putHv ⟨r6, 1 + r7⟩ l))) := l7Put_any W7 W.heap.size _ l ⟨r6, 1 + r7⟩ HO7.out (by omega)
        go_wp2_with fail
        refine CP.out.mono ?_
        rintro e W8 ⟨v8, rfl, ho8, hb8⟩
        have HF : Hid (Hvg B w0 W c a len cap m v8 (putHv ⟨r6, 1 + r7⟩ l) (k - 1) W8) := ⟨ho8.mono HC7.out.2.1, by have := putHv_len ⟨r6, 1 + r7⟩ l; omega, (HC7.out.1.below hb8).mono (by omega), HC7.out.2.trans (below_only hb8 c)⟩
        clear ho8 hb8 CP HO7 HC7
        go_wp2
        go_roundw
        case rel => exact ⟨_, k - 1, by go_num, HF.out⟩
        case measure => simp [intOf]; omega
      · have hk' : ¬ 0 < (k : Int) := by omega
        obtain rfl : k = 0 := by omega
        have HO : Hid (OwnHv wr W.heap.size (.slice a3 l.length c3) l) := HG.out.own
        have HCU : Hid (Cur B w0 wr c a len cap (m + 244)) := HG.out.cur.mono (by omega)
        have HON : Hid (Only c W wr) := HG.out.only
        clear HG
        by_cases hl0 : 0 < l.length
        · have hl0' : decide (0 < (l.length : Int)) = true := decide_eq_true (by omega)
          go_wp2_with fail
          refine (one_any B w0 _ c a len cap (m + 244) 30 HD.out hl (by omega) HCU.out (by omega) (by omega)).mono ?_
          rintro e W4 ⟨b4, rfl, hc4, ho4⟩
          have HC4 : Hid (Cur B w0 W4 c a len cap (m + 246) ∧ Only c W W4) := ⟨hc4, HON.out.trans ho4⟩
          have HO4 : Hid (OwnHv W4 W.heap.size (.slice a3 l.length c3) l) := rowOnly HO.out ho4 hcW
          clear hc4 ho4 HO HON HCU
          cases b4 with
          | false =>
            go_wp2
            go_ret
            exact ⟨_, l, rfl, HO4.out, by omega, HC4.out.1.mono (by omega), HC4.out.2⟩
          | true =>
            have hcW4 : c < W4.heap.size := HC4.out.1.2.1
            have HCL : Hid (∀ j (hj : j < [(0 : Int), 1, 1001].length), (W4.alloc (.cells #[.int .i64 0, .int .i64 1, .int .i64 1001] 3)).cell? ⟨W4.heap.size, j, none⟩ = some (.int .i64 [(0 : Int), 1, 1001][j])) := cells_lit W4 3 [0, 1, 1001]
            go_wp2_with fail
            refine (among_any B w0 _ c W4.heap.size [0, 1, 1001] a len cap 3 (m + 246) HD.out hl (by omega) (curAlloc HC4.out.1 _) (by simp) (by simp) (by simp) (by omega) HCL.out).mono ?_
            rintro e W5 ⟨r5, rfl, -, hc5, ho5⟩
            have hO5 : Only c W4 W5 := (onlyAlloc (Only.refl _ _) _).trans ho5
            have HC5 : Hid (Cur B w0 W5 c a len cap (m + 248) ∧ Only c W W5) := ⟨hc5, HC4.out.2.trans hO5⟩
            have HO5 : Hid (OwnHv W5 W.heap.size (.slice a3 l.length c3) l) := rowOnly HO4.out hO5 hcW
            have hcW5 : c < W5.heap.size := hc5.2.1
            have HCL5 : Hid (∀ j (hj : j < [(0 : Int), 1000, 1001].length), (W5.alloc (.cells #[.int .i64 0, .int .i64 1000, .int .i64 1001] 3)).cell? ⟨W5.heap.size, j, none⟩ = some (.int .i64 [(0 : Int), 1000, 1001][j])) := cells_lit W5 3 [0, 1000, 1001]
            clear hc5 ho5 hO5 HC4 HO4
            go_wp2_with fail
            refine (among_any B w0 _ c W5.heap.size [0, 1000, 1001] a len cap 3 (m + 248) HD.out hl (by omega) (curAlloc HC5.out.1 _) (by simp) (by simp) (by simp) (by omega) HCL5.out).mono ?_
            rintro e W6 ⟨r6, rfl, -, hc6, ho6⟩
            have hO6 : Only c W5 W6 := (onlyAlloc (Only.refl _ _) _).trans ho6
            have ho6' : OwnHv W6 W.heap.size (.slice a3 l.length c3) l := rowOnly HO5.out hO6 hcW
            obtain ⟨g6, cg, e6⟩ : ∃ g cap, Value.slice a3 l.length c3 = .slice (some ⟨g, 0, none⟩) l.length cap := by
              rcases ho6'.2 with ⟨hv, hn0⟩ | ⟨g, cap, cur, hv, -⟩
              · omega
              · exact ⟨g, cap, hv⟩
            obtain ⟨rfl, rfl⟩ : a3 = some ⟨g6, 0, none⟩ ∧ c3 = cg := by simpa using e6
            have hg6 : W.heap.size ≤ g6 := (World.ownsRow.lt ho6' g6 rfl).1
            have z0 : ∀ j, j < l.length * 2 → ∃ x, W6.cell? ⟨g6, j, none⟩ = some x := fun j hj => ⟨_, by rw [World.ownsRow.cellAt ho6' j (by omega)]; exact List.getElem?_eq_getElem (by rw [cellsHv_len]; omega)⟩
            obtain ⟨t0, f0⟩ := z0 0 (by omega)
            obtain ⟨t1, f1⟩ := z0 1 (by omega)
            have fz0 := World.ownsRow.frozenAt ho6' 0
            have fz1 := World.ownsRow.frozenAt ho6' 1
            have HFI : Hid (OwnHv ((W6.setCell ⟨g6, 0, none⟩ (.int .i64 r5)).setCell ⟨g6, 1, none⟩ (.int .i64 r6)) W.heap.size (.slice (some ⟨g6, 0, none⟩) l.length c3) (l.set 0 ⟨r5, r6⟩)) := by
              have := ho6'.set 0 hl0 ⟨r5, r6⟩
              exact (show OwnHv _ _ _ _ by simpa using this)
            have HCI : Hid (Cur B w0 ((W6.setCell ⟨g6, 0, none⟩ (.int .i64 r5)).setCell ⟨g6, 1, none⟩ (.int .i64 r6)) c a len cap (m + 250)) := (hc6.other (by omega) _).other (by omega) _
            have HNI : Hid (Only c W ((W6.setCell ⟨g6, 0, none⟩ (.int .i64 r5)).setCell ⟨g6, 1, none⟩ (.int .i64 r6))) := by
              have h1 := HC5.out.2.trans hO6
              refine ⟨by have := h1.1; simpa [World.setCell] using this, fun k hk hne => ?_⟩
              rw [Below.heap_setCell _ _ _ _ (by show k ≠ g6; omega), Below.heap_setCell _ _ _ _ (by show k ≠ g6; omega)]
              exact h1.2 k hk hne
            clear hc6 ho6 hO6 ho6' z0 HC5 HO5 e6
            go_wp2
            go_ret
            exact ⟨_, l.set 0 ⟨r5, r6⟩, rfl, HFI.out, by rw [List.length_set]; omega, HCI.out.mono (by omega), HNI.out⟩
        · have hl0' : decide (0 < (l.length : Int)) = false := decide_eq_false (by omega)
          go_wp2
          go_ret
          exact ⟨_, l, rfl, HO.out, by omega, HCU.out.mono (by omega), HON.out⟩
  case true =>
    have HB0 : Hid (Hvg B w0 W c a len cap m (.slice none 0 0) [] (30) W2) := ⟨OwnHv.nil _ _, by have : ([] : List HvD).length = 0 := rfl; omega, HC2.out.1.mono (by omega), HC2.out.2⟩
    clear HC2
    go_wp2
    go_loopw [3, 4] (fun v i wr => ∃ (l : List HvD) (k : Nat), i = .int .i64 (k : Int) ∧ Hid (Hvg B w0 W c a len cap m v l k wr)) (fun _ i _ => (intOf i).toNat)
    case atStart => exact ⟨[], 30, rfl, HB0.out⟩
    case round =>
      clear HB0
      obtain ⟨l, k, rfl, HG⟩ := hrel
      obtain ⟨a3, c3, rfl⟩ := HG.out.own.shape
      have hkl : l.length + k ≤ 30 := HG.out.fit
      by_cases hk : 0 < k
      · have hk' : 0 < (k : Int) := by omega
        have HCU : Hid (Cur B w0 wr c a len cap (m + 4 + 8 * (30 - k))) := HG.out.cur
        go_wp2_with fail
        refine (pick_any B w0 _ c a len cap (m + 4 + 8 * (30 - k)) 20 HD.out hl (by omega) HCU.out (by omega) (by omega)).mono ?_
        rintro e W4 ⟨r4, rfl, r40, r41, hc4, ho4⟩
        have HC4 : Hid (Cur B w0 W4 c a len cap (m + 4 + 8 * (30 - k) + 2) ∧ Only c wr W4) := ⟨hc4, ho4⟩
        clear hc4 ho4
        go_wp2_with fail
        refine (pick_any B w0 _ c a len cap (m + 4 + 8 * (30 - k) + 2) 200 HD.out hl (by omega) HC4.out.1 (by omega) (by omega)).mono ?_
        rintro e W5 ⟨r5, rfl, r50, r51, hc5, ho5⟩
        have HC5 : Hid (Cur B w0 W5 c a len cap (m + 4 + 8 * (30 - k) + 4) ∧ Only c wr W5) := ⟨hc5, HC4.out.2.trans ho5⟩
        have hcW5 : c < W5.heap.size := hc5.2.1
        clear hc5 ho5 HC4
        have HCL : Hid (∀ j (hj : j < [(1 : Int), 1000, 1 + r4, 1 + r5].length), (W5.alloc (.cells #[.int .i64 1, .int .i64 1000, .int .i64 (1 + r4), .int .i64 (1 + r5)] 3)).cell? ⟨W5.heap.size, j, none⟩ = some (.int .i64 [(1 : Int), 1000, 1 + r4, 1 + r5][j])) := cells_lit W5 3 [(1 : Int), 1000, 1 + r4, 1 + r5]
        go_wp2_with fail
        refine (among_any B w0 _ c W5.heap.size [(1 : Int), 1000, 1 + r4, 1 + r5] a len cap 4 (m + 4 + 8 * (30 - k) + 4) HD.out hl (by omega) (curAlloc HC5.out.1 _) (by simp) (by simp) (by simp) (by omega) HCL.out).mono ?_
        rintro e W6 ⟨r6, rfl, -, hc6, ho6⟩
        have HC6 : Hid (Cur B w0 W6 c a len cap (m + 4 + 8 * (30 - k) + 6) ∧ Only c wr W6) := ⟨hc6, HC5.out.2.trans ((onlyAlloc (Only.refl _ _) _).trans ho6)⟩
        clear hc6 ho6 HC5 HCL
        go_wp2_with fail
        refine (pick_any B w0 _ c a len cap (m + 4 + 8 * (30 - k) + 6) 5 HD.out hl (by omega) HC6.out.1 (by omega) (by omega)).mono ?_
        rintro e W7 ⟨r7, rfl, r70, r71, hc7, ho7⟩
        have HC7 : Hid (Cur B w0 W7 c a len cap (m + 4 + 8 * (30 - k) + 8) ∧ Only c W W7) := ⟨hc7, HG.out.only.trans (HC6.out.2.trans ho7)⟩
        have HO7 : Hid (OwnHv W7 W.heap.size (.slice a3 l.length c3) l) := rowOnly HG.out.own (HC6.out.2.trans ho7) hcW
        clear hc7 ho7 HC6 HG HCU
        have CP : Hid (Calls Try.prog 36 #[.slice a3 l.length c3, .agg #[.int .i64 r6, .int .i64 (1 + r7)]] W7 (PutHvPost W7 (putHv ⟨r6, 1 + r7⟩ l))) := l7Put_any W7 W.heap.size _ l ⟨r6, 1 + r7⟩ HO7.out (by omega)
        go_wp2_with fail
        refine CP.out.mono ?_
        rintro e W8 ⟨v8, rfl, ho8, hb8⟩
        have HF : Hid (Hvg B w0 W c a len cap m v8 (putHv ⟨r6, 1 + r7⟩ l) (k - 1) W8) := ⟨ho8.mono HC7.out.2.1, by have := putHv_len ⟨r6, 1 + r7⟩ l; omega, (HC7.out.1.below hb8).mono (by omega), HC7.out.2.trans (below_only hb8 c)⟩
        clear ho8 hb8 CP HO7 HC7
        go_wp2
        go_roundw
        case rel => exact ⟨_, k - 1, by go_num, HF.out⟩
        case measure => simp [intOf]; omega
      · have hk' : ¬ 0 < (k : Int) := by omega
        obtain rfl : k = 0 := by omega
        have HO : Hid (OwnHv wr W.heap.size (.slice a3 l.length c3) l) := HG.out.own
        have HCU : Hid (Cur B w0 wr c a len cap (m + 244)) := HG.out.cur.mono (by omega)
        have HON : Hid (Only c W wr) := HG.out.only
        clear HG
        by_cases hl0 : 0 < l.length
        · have hl0' : decide (0 < (l.length : Int)) = true := decide_eq_true (by omega)
          go_wp2_with fail
          refine (one_any B w0 _ c a len cap (m + 244) 30 HD.out hl (by omega) HCU.out (by omega) (by omega)).mono ?_
          rintro e W4 ⟨b4, rfl, hc4, ho4⟩
          have HC4 : Hid (Cur B w0 W4 c a len cap (m + 246) ∧ Only c W W4) := ⟨hc4, HON.out.trans ho4⟩
          have HO4 : Hid (OwnHv W4 W.heap.size (.slice a3 l.length c3) l) := rowOnly HO.out ho4 hcW
          clear hc4 ho4 HO HON HCU
          cases b4 with
          | false =>
            go_wp2
            go_ret
            exact ⟨_, l, rfl, HO4.out, by omega, HC4.out.1.mono (by omega), HC4.out.2⟩
          | true =>
            have hcW4 : c < W4.heap.size := HC4.out.1.2.1
            have HCL : Hid (∀ j (hj : j < [(0 : Int), 1, 1001].length), (W4.alloc (.cells #[.int .i64 0, .int .i64 1, .int .i64 1001] 3)).cell? ⟨W4.heap.size, j, none⟩ = some (.int .i64 [(0 : Int), 1, 1001][j])) := cells_lit W4 3 [0, 1, 1001]
            go_wp2_with fail
            refine (among_any B w0 _ c W4.heap.size [0, 1, 1001] a len cap 3 (m + 246) HD.out hl (by omega) (curAlloc HC4.out.1 _) (by simp) (by simp) (by simp) (by omega) HCL.out).mono ?_
            rintro e W5 ⟨r5, rfl, -, hc5, ho5⟩
            have hO5 : Only c W4 W5 := (onlyAlloc (Only.refl _ _) _).trans ho5
            have HC5 : Hid (Cur B w0 W5 c a len cap (m + 248) ∧ Only c W W5) := ⟨hc5, HC4.out.2.trans hO5⟩
            have HO5 : Hid (OwnHv W5 W.heap.size (.slice a3 l.length c3) l) := rowOnly HO4.out hO5 hcW
            have hcW5 : c < W5.heap.size := hc5.2.1
            have HCL5 : Hid (∀ j (hj : j < [(0 : Int), 1000, 1001].length), (W5.alloc (.cells #[.int .i64 0, .int .i64 1000, .int .i64 1001] 3)).cell? ⟨W5.heap.size, j, none⟩ = some (.int .i64 [(0 : Int), 1000, 1001][j])) := cells_lit W5 3 [0, 1000, 1001]
            clear hc5 ho5 hO5 HC4 HO4
            go_wp2_with fail
            refine (among_any B w0 _ c W5.heap.size [0, 1000, 1001] a len cap 3 (m + 248) HD.out hl (by omega) (curAlloc HC5.out.1 _) (by simp) (by simp) (by simp) (by omega) HCL5.out).mono ?_
            rintro e W6 ⟨r6, rfl, -, hc6, ho6⟩
            have hO6 : Only c W5 W6 := (onlyAlloc (Only.refl _ _) _).trans ho6
            have ho6' : OwnHv W6 W.heap.size (.slice a3 l.length c3) l := rowOnly HO5.out hO6 hcW
            obtain ⟨g6, cg, e6⟩ : ∃ g cap, Value.slice a3 l.length c3 = .slice (some ⟨g, 0, none⟩) l.length cap := by
              rcases ho6'.2 with ⟨hv, hn0⟩ | ⟨g, cap, cur, hv, -⟩
              · omega
              · exact ⟨g, cap, hv⟩
            obtain ⟨rfl, rfl⟩ : a3 = some ⟨g6, 0, none⟩ ∧ c3 = cg := by simpa using e6
            have hg6 : W.heap.size ≤ g6 := (World.ownsRow.lt ho6' g6 rfl).1
            have z0 : ∀ j, j < l.length * 2 → ∃ x, W6.cell? ⟨g6, j, none⟩ = some x := fun j hj => ⟨_, by rw [World.ownsRow.cellAt ho6' j (by omega)]; exact List.getElem?_eq_getElem (by rw [cellsHv_len]; omega)⟩
            obtain ⟨t0, f0⟩ := z0 0 (by omega)
            obtain ⟨t1, f1⟩ := z0 1 (by omega)
            have fz0 := World.ownsRow.frozenAt ho6' 0
            have fz1 := World.ownsRow.frozenAt ho6' 1
            have HFI : Hid (OwnHv ((W6.setCell ⟨g6, 0, none⟩ (.int .i64 r5)).setCell ⟨g6, 1, none⟩ (.int .i64 r6)) W.heap.size (.slice (some ⟨g6, 0, none⟩) l.length c3) (l.set 0 ⟨r5, r6⟩)) := by
              have := ho6'.set 0 hl0 ⟨r5, r6⟩
              exact (show OwnHv _ _ _ _ by simpa using this)
            have HCI : Hid (Cur B w0 ((W6.setCell ⟨g6, 0, none⟩ (.int .i64 r5)).setCell ⟨g6, 1, none⟩ (.int .i64 r6)) c a len cap (m + 250)) := (hc6.other (by omega) _).other (by omega) _
            have HNI : Hid (Only c W ((W6.setCell ⟨g6, 0, none⟩ (.int .i64 r5)).setCell ⟨g6, 1, none⟩ (.int .i64 r6))) := by
              have h1 := HC5.out.2.trans hO6
              refine ⟨by have := h1.1; simpa [World.setCell] using this, fun k hk hne => ?_⟩
              rw [Below.heap_setCell _ _ _ _ (by show k ≠ g6; omega), Below.heap_setCell _ _ _ _ (by show k ≠ g6; omega)]
              exact h1.2 k hk hne
            clear hc6 ho6 hO6 ho6' z0 HC5 HO5 e6
            go_wp2
            go_ret
            exact ⟨_, l.set 0 ⟨r5, r6⟩, rfl, HFI.out, by rw [List.length_set]; omega, HCI.out.mono (by omega), HNI.out⟩
        · have hl0' : decide (0 < (l.length : Int)) = false := decide_eq_false (by omega)
          go_wp2
          go_ret
          exact ⟨_, l, rfl, HO.out, by omega, HCU.out.mono (by omega), HON.out⟩
end Go.Proofs.Ytkpdiojomgiocac
