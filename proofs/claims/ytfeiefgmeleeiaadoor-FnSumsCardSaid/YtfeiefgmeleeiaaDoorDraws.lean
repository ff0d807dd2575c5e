/-
  What the drawing functions of chapter 1 answer: texts of at most 201 bytes, places and numbers; they write into no memory that was there.
-/
import Derived.Test.YtfeiefgmeleeiaaDoorText
import Derived.Test.YtfeiefgmeleeiaaDoorFillSpec
namespace Go.Proofs.YtfeiefgmeleeiaaDoor
open Go.RowKit

theorem cur_new {B : Nat} {w0 W : World} (a : Option Addr) (len cap : Nat) (t : TypeId) (h : Since B w0 W) :
    Cur B w0 (W.alloc (.cells #[.slice a len cap, .int .i64 0, .int .u64 0] t)) W.heap.size a len cap 0 := by
  have hh : (W.alloc (.cells #[.slice a len cap, .int .i64 0, .int .u64 0] t)).heap[W.heap.size]? = some (.cells #[.slice a len cap, .int .i64 0, .int .u64 0] t) := by
    show (W.heap.push _)[W.heap.size]? = _
    simp
  refine ⟨h.2, by simp, h.step ((Below.refl _ _).alloc (Nat.le_refl _) _), ?_, ⟨0, Nat.le_refl _, ?_⟩, ⟨0, ?_⟩, ?_, ?_⟩
  · rw [World.cell?_alloc_at _ _ _ _ rfl]; rfl
  · rw [World.cell?_alloc_at _ _ _ _ rfl]; rfl
  · rw [World.cell?_alloc_at _ _ _ _ rfl]; rfl
  · unfold World.frozen?; rw [hh]; simp
  · unfold World.frozen?; rw [hh]; simp

set_option maxHeartbeats 400000 in
theorem drawSumOf_any (B : Nat) (w0 W : World) (a : Option Addr) (len cap : Nat) (hC : Code B w0 a len) (hl : len ≤ 1048576) (h : Since B w0 W) :
    Calls Tryd.prog 5 #[.slice a len cap] W fun e W' => ∃ s : ByteArray, e = .returned (.string s) ∧ s.size ≤ 201 ∧ Since B w0 W' := by
  have HC : Hid (Code B w0 a len) := hC
  have hcur := cur_new a len cap 42 h
  clear hC h
  go_enter Tryd.func5, Tryd.ntmps5
  go_wp2_with fail
  refine (text_any B w0 _ _ a len cap 0 HC.out hl (by omega) hcur).mono ?_
  rintro e W1 ⟨s, rfl, hs, hc1⟩
  have HS : Hid (Since B w0 W1) := hc1.2.2.1
  clear hcur hc1
  go_wp2
  go_ret
  exact ⟨s, rfl, hs, HS.out⟩

set_option maxHeartbeats 400000 in
theorem drawFillSum_any (B : Nat) (w0 W : World) (a : Option Addr) (len cap : Nat) (hC : Code B w0 a len) (hl : len ≤ 1048576) (h : Since B w0 W) :
    Calls Tryd.prog 18 #[.slice a len cap] W fun e W' => ∃ (s : ByteArray) (k : Int), e = .returned (.tuple #[.string s, .int .i64 k]) ∧ s.size ≤ 201 ∧ -1 ≤ k ∧ k ≤ s.size ∧ Since B w0 W' := by
  have HC : Hid (Code B w0 a len) := hC
  have hcur := cur_new a len cap 42 h
  clear hC h
  go_enter Tryd.func18, Tryd.ntmps18
  go_wp2_with fail
  refine (text_any B w0 _ _ a len cap 0 HC.out hl (by omega) hcur).mono ?_
  rintro e W1 ⟨s, rfl, hs, hc1⟩
  clear hcur
  go_wp2_with fail
  refine (pick_any B w0 _ _ a len cap _ ((s.size : Int) + 2) HC.out hl (by omega) hc1 (by omega) (by omega)).mono ?_
  rintro e W2 ⟨r, rfl, r0, r1, hc2, ho2⟩
  have HS : Hid (Since B w0 W2) := hc2.2.2.1
  clear hc1 hc2 ho2
  go_wp2
  go_ret2
  exact ⟨s, r - 1, rfl, hs, by omega, by omega, HS.out⟩

set_option maxHeartbeats 400000 in
theorem drawSwapTwo_any (B : Nat) (w0 W : World) (a : Option Addr) (len cap : Nat) (hC : Code B w0 a len) (hl : len ≤ 1048576) (h : Since B w0 W) :
    Calls Tryd.prog 11 #[.slice a len cap] W fun e W' => ∃ (s : ByteArray) (k : Int), e = .returned (.tuple #[.string s, .int .i64 k]) ∧ s.size ≤ 201 ∧ -1 ≤ k ∧ k ≤ s.size ∧ Since B w0 W' := by
  go_enter Tryd.func11, Tryd.ntmps11
  go_wp2_with fail
  refine (drawFillSum_any B w0 _ a len cap hC hl h).mono ?_
  rintro e W1 ⟨s, k, rfl, hs, k0, k1, hS⟩
  have HS : Hid (Since B w0 W1) := hS
  clear hC h hS
  go_wp2
  go_ret2
  exact ⟨s, k, rfl, hs, k0, k1, HS.out⟩

set_option maxHeartbeats 400000 in
theorem drawWeightAt_any (B : Nat) (w0 W : World) (a : Option Addr) (len cap : Nat) (hC : Code B w0 a len) (hl : len ≤ 1048576) (h : Since B w0 W) :
    Calls Tryd.prog 16 #[.slice a len cap] W fun e W' => ∃ (s : ByteArray) (k : Int), e = .returned (.tuple #[.string s, .int .i64 k]) ∧ s.size ≤ 201 ∧ -1 ≤ k ∧ k ≤ s.size ∧ Since B w0 W' := by
  go_enter Tryd.func16, Tryd.ntmps16
  go_wp2_with fail
  refine (drawFillSum_any B w0 _ a len cap hC hl h).mono ?_
  rintro e W1 ⟨s, k, rfl, hs, k0, k1, hS⟩
  have HS : Hid (Since B w0 W1) := hS
  clear hC h hS
  go_wp2
  go_ret2
  exact ⟨s, k, rfl, hs, k0, k1, HS.out⟩

set_option maxHeartbeats 400000 in
theorem drawMendByte_any (B : Nat) (w0 W : World) (a : Option Addr) (len cap : Nat) (hC : Code B w0 a len) (hl : len ≤ 1048576) (h : Since B w0 W) :
    Calls Tryd.prog 22 #[.slice a len cap] W fun e W' => ∃ (s : ByteArray) (k : Int), e = .returned (.tuple #[.string s, .int .i64 k]) ∧ s.size ≤ 201 ∧ -1 ≤ k ∧ k ≤ s.size ∧ Since B w0 W' := by
  go_enter Tryd.func22, Tryd.ntmps22
  go_wp2_with fail
  refine (drawFillSum_any B w0 _ a len cap hC hl h).mono ?_
  rintro e W1 ⟨s, k, rfl, hs, k0, k1, hS⟩
  have HS : Hid (Since B w0 W1) := hS
  clear hC h hS
  go_wp2
  go_ret2
  exact ⟨s, k, rfl, hs, k0, k1, HS.out⟩

theorem six_cells (w : World) : ∀ j (hj : j < [(-1 : Int), 0, 1, 9, 200, 201].length), (w.alloc (.cells #[.int .i64 (-1), .int .i64 0, .int .i64 1, .int .i64 9, .int .i64 200, .int .i64 201] 3)).cell? ⟨w.heap.size, j, none⟩ = some (.int .i64 [(-1 : Int), 0, 1, 9, 200, 201][j]) := by
  intro j hj
  rw [World.cell?_alloc_at _ _ _ _ rfl]
  match j, hj with
  | 0, _ | 1, _ | 2, _ | 3, _ | 4, _ | 5, _ => rfl

set_option maxHeartbeats 1000000 in
theorem drawAddSums_any (B : Nat) (w0 W : World) (a : Option Addr) (len cap : Nat) (hC : Code B w0 a len) (hl : len ≤ 1048576) (h : Since B w0 W) :
    Calls Tryd.prog 14 #[.slice a len cap] W fun e W' => ∃ p q r v long : Int, e = .returned (.tuple #[.int .i64 p, .int .i64 q, .int .i64 r, .int .i64 v, .int .i64 long]) ∧ Since B w0 W' := by
  have HC : Hid (Code B w0 a len) := hC
  have hcur := cur_new a len cap 42 h
  clear hC h
  go_enter Tryd.func14, Tryd.ntmps14
  go_wp2_with fail
  refine (pick_any B w0 _ _ a len cap _ 255 HC.out hl (by omega) hcur (by omega) (by omega)).mono ?_
  rintro e W1 ⟨p, rfl, p0, p1, hc1, -⟩
  clear hcur
  go_wp2_with fail
  refine (pick_any B w0 _ _ a len cap _ 255 HC.out hl (by omega) hc1 (by omega) (by omega)).mono ?_
  rintro e W2 ⟨q, rfl, q0, q1, hc2, -⟩
  clear hc1
  go_wp2_with fail
  refine (pick_any B w0 _ _ a len cap _ 255 HC.out hl (by omega) hc2 (by omega) (by omega)).mono ?_
  rintro e W3 ⟨r, rfl, r0, r1, hc3, -⟩
  clear hc2
  go_wp2_with fail
  refine (pick_any B w0 _ _ a len cap _ 255 HC.out hl (by omega) hc3 (by omega) (by omega)).mono ?_
  rintro e W4 ⟨v, rfl, v0, v1, hc4, -⟩
  clear hc3
  go_wp2_with fail
  refine (pick_any B w0 _ _ a len cap _ 20 HC.out hl (by omega) hc4 (by omega) (by omega)).mono ?_
  rintro e W5 ⟨x, rfl, x0, x1, hc5, -⟩
  clear hc4
  have hcb : W.heap.size < W5.heap.size := hc5.2.1
  have hc6 := hc5.below ((Below.refl W5.heap.size W5).alloc (Nat.le_refl _) (.cells #[.int .i64 (-1), .int .i64 0, .int .i64 1, .int .i64 9, .int .i64 200, .int .i64 201] 3))
  clear hc5
  go_wp2_with fail
  refine (among_any B w0 _ _ W5.heap.size [-1, 0, 1, 9, 200, 201] a len cap _ _ HC.out hl (by omega) hc6 (by simp) (by simp) (by simp) (by omega) (six_cells W5)).mono ?_
  rintro e W7 ⟨long, rfl, hlong, hc7, -⟩
  have HS : Hid (Since B w0 W7) := hc7.2.2.1
  clear hc6 hc7 hlong
  go_wp2
  exact bodyPost_ret (v := .tuple #[.int .i64 p, .int .i64 q, .int .i64 r, .int .i64 (v + x / 19 * 2), .int .i64 long]) (by simp [results, Tryd.results14, go_sem]) rfl ⟨_, _, _, _, _, rfl, HS.out⟩

theorem setZ_le (s : ByteArray) (k n : Int) (h : s.size ≤ 201) : (setZ s k n).size ≤ 201 := by rw [setZ_size]; exact h
theorem fillS_size (s : ByteArray) (k : Int) : (fillS s k).size = s.size := by unfold fillS; rw [setZ_size, setZ_size, fillT_size]

set_option maxHeartbeats 1000000 in
theorem drawIsWhole_any (B : Nat) (w0 W : World) (a : Option Addr) (len cap : Nat) (hC : Code B w0 a len) (hl : len ≤ 1048576) (h : Since B w0 W) :
    Calls Tryd.prog 25 #[.slice a len cap] W fun e W' => ∃ s : ByteArray, e = .returned (.string s) ∧ s.size ≤ 201 ∧ Since B w0 W' := by
  have HC : Hid (Code B w0 a len) := hC
  have hcur := cur_new a len cap 42 h
  clear hC h
  go_enter Tryd.func25, Tryd.ntmps25
  go_wp2_with fail
  refine (text_any B w0 _ _ a len cap 0 HC.out hl (by omega) hcur).mono ?_
  rintro e W1 ⟨s, rfl, hs, hc1⟩
  clear hcur
  go_wp2_with fail
  refine (pick_any B w0 _ _ a len cap _ ((s.size : Int) + 1) HC.out hl (by omega) hc1 (by omega) (by omega)).mono ?_
  rintro e W2 ⟨r, rfl, r0, r1, hc2, ho2⟩
  clear hc1 ho2
  by_cases hg : s.size ≤ 200 ∧ 0 ≤ r ∧ r + 1 < (s.size : Int)
  · obtain ⟨g1, g2, g3⟩ := hg
    go_wp2_with fail
    refine (specFill_yes (B := W2.heap.size) (w0 := W2) s r _ (Since.start W2) g1 g2 g3).mono ?_
    rintro e W3 ⟨rfl, hb3⟩
    have hc3 := hc2.below hb3.1
    have HF : Hid ((fillS s r).size ≤ 201) := by show _ ≤ _; rw [fillS_size]; exact hs
    clear hc2 hb3
    go_wp2_with fail
    refine (one_any B w0 _ _ a len cap _ 2 HC.out hl (by omega) hc3 (by omega) (by omega)).mono ?_
    rintro e W4 ⟨b, rfl, hc4, ho4⟩
    have HS : Hid (Since B w0 W4) := hc4.2.2.1
    clear hc3 hc4 ho4
    cases b
    · go_wp2
      go_ret
      exact ⟨s, rfl, hs, HS.out⟩
    · go_wp2
      go_ret
      exact ⟨_, rfl, HF.out, HS.out⟩
  · have HS : Hid (Since B w0 W2) := hc2.2.2.1
    have HM : Hid (s.size ≤ maxLen) := by show _ ≤ _; unfold maxLen; omega
    have HH : Hid (200 < s.size ∨ r < 0 ∨ (s.size : Int) ≤ r + 1) := by show _ ∨ _; omega
    clear hc2 hg
    go_wp2_with fail
    refine (specFill_no s r _ HM.out HH.out).mono ?_
    rintro e W3 ⟨rfl, rfl⟩
    go_wp2
    go_ret
    exact ⟨s, rfl, hs, HS.out⟩
end Go.Proofs.YtfeiefgmeleeiaaDoor
