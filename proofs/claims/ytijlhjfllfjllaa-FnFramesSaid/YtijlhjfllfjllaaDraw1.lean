/-
  What the cursor's 'of' and 'nums' answer: one of some texts, and a list of at most so many numbers, in memory of its own.
-/
import Derived.Test.YtijlhjfllfjllaaCur0
import Derived.Test.YtijlhjfllfjllaaPut1
namespace Go.Proofs.Ytijlhjfllfjllaa
open Go.RowKit

theorem Own.only {W W' : World} {B c : Nat} {v : Value} {zs : List Int} (h : Own W B v zs) (ho : Only c W W') (hc : c < B) : Own W' B v zs := by
  refine ⟨h.1, ?_⟩
  rcases h.2 with hn | ⟨g, cap, cur, hv, h1, hg, hrest⟩
  · exact .inl hn
  · exact .inr ⟨g, cap, cur, hv, h1, (ho.2 g (Array.getElem?_eq_some_iff.1 hg).1 (by omega)).trans hg, hrest⟩
theorem Only.alloc {c : Nat} {w w' : World} (h : Only c w w') (o : Obj) : Only c w (w'.alloc o) := h.trans (below_only ((Below.refl _ w').alloc (Nat.le_refl _) o) c)
theorem Cur.alloc {B : Nat} {w0 W : World} {c : Nat} {a : Option Addr} {len cap m : Nat} (h : Cur B w0 W c a len cap m) (o : Obj) : Cur B w0 (W.alloc o) c a len cap m := h.below ((Below.refl _ W).alloc (Nat.le_refl _) o)

/-- 'of': one of the texts of a row. -/
theorem of_any (B : Nat) (w0 W : World) (c b : Nat) (ts : List ByteArray) (a : Option Addr) (len cap cap2 m : Nat) (hC : Code B w0 a len) (hl : len ≤ 9223372036854775807) (hm : m ≤ 900000) (h : Cur B w0 W c a len cap m)
    (hz : 1 ≤ ts.length) (hz2 : ts.length ≤ 200) (hb : b < W.heap.size) (hbc : b ≠ c) (hcell : ∀ j (hj : j < ts.length), W.cell? ⟨b, j, none⟩ = some (.string ts[j])) :
    Calls Try.prog 77 #[.pointer (some ⟨c, 0, none⟩), .slice (some ⟨b, 0, none⟩) ts.length cap2] W fun e W' => ∃ t : ByteArray, e = .returned (.string t) ∧ t ∈ ts ∧ Cur B w0 W' c a len cap (m + 2) ∧ Only c W W' := by
  have HX : Hid (∀ j (hj : j < ts.length), W.cell? ⟨b, j, none⟩ = some (.string ts[j])) := hcell
  clear hcell
  go_enter Try.func77, Try.ntmps77
  go_wp2_with fail
  refine (pick_any B w0 _ c a len cap m ts.length hC hl hm h (by omega) (by omega)).mono ?_
  rintro e W1 ⟨r, rfl, r0, r1, hc1, ho1⟩
  obtain ⟨k, rfl⟩ : ∃ k : Nat, r = k := ⟨r.toNat, by omega⟩
  have hk : k < ts.length := by omega
  have hcell : W1.cell? ⟨b, k, none⟩ = some (.string ts[k]) := (World.cell?_of_block (w := W) (a := ⟨b, k, none⟩) (ho1.2 b hb hbc)).trans (HX.out k hk)
  go_wp2
  go_ret
  exact ⟨_, rfl, List.getElem_mem hk, hc1, ho1⟩

theorem six_cells (w : World) (x : Int) : ∀ j (hj : j < [(0 : Int), 1, 255, 256, 65535, x].length), (w.alloc (.cells #[.int .i64 0, .int .i64 1, .int .i64 255, .int .i64 256, .int .i64 65535, .int .i64 x] 3)).cell? ⟨w.heap.size, j, none⟩ = some (.int .i64 [(0 : Int), 1, 255, 256, 65535, x][j]) := by
  intro j hj
  rw [World.cell?_alloc_at _ _ _ _ rfl]
  match j, hj with
  | 0, _ | 1, _ | 2, _ | 3, _ | 4, _ | 5, _ => rfl

/-- What 'nums' leaves: numbers of its own. -/
def NumsPost (B : Nat) (w0 W : World) (c : Nat) (a : Option Addr) (len cap m n : Nat) (e : Ending) (W' : World) : Prop :=
  ∃ v zs, e = .returned v ∧ Own W' W.heap.size v zs ∧ zs.length ≤ n ∧ Cur B w0 W' c a len cap (m + 2 + 4 * n) ∧ Only c W W'

set_option maxRecDepth 100000 in
set_option maxHeartbeats 2000000 in
theorem nums_any (B : Nat) (w0 W : World) (c : Nat) (a : Option Addr) (len cap m : Nat) (hC : Code B w0 a len) (hl : len ≤ 9223372036854775807) (hm : m ≤ 100000) (h : Cur B w0 W c a len cap m) :
    Calls Try.prog 91 #[.pointer (some ⟨c, 0, none⟩), .int .i64 6] W (NumsPost B w0 W c a len cap m 6) := by
  have HD : Hid (Code B w0 a len) := hC
  have hcW : c < W.heap.size := h.2.1
  clear hC
  go_enter Try.func91, Try.ntmps91
  go_wp2_with fail
  refine (pick_any B w0 _ c a len cap m 7 HD.out hl (by omega) h (by omega) (by omega)).mono ?_
  rintro e W1 ⟨q, rfl, q0, q1, hc1, ho1⟩
  obtain ⟨n, rfl⟩ : ∃ n : Nat, q = n := ⟨q.toNat, by omega⟩
  have HS : Hid (∃ (v : Value) (zs : List Int) (k : Nat), Value.int .i64 (n : Int) = .int .i64 (k : Int) ∧ (v = Value.slice none 0 0) ∧ k ≤ 6 ∧ zs.length + k ≤ 6 ∧ Own W1 W.heap.size v zs ∧ Cur B w0 W1 c a len cap (m + 2 + 4 * (6 - k)) ∧ Only c W W1) :=
    ⟨_, [], n, rfl, rfl, by omega, by simp; omega, Own.nil _ _, hc1.mono (by omega), ho1⟩
  clear h hc1 ho1
  go_wp2
  go_loopw [5, 6] (fun l i wr => ∃ (v : Value) (zs : List Int) (k : Nat), i = .int .i64 (k : Int) ∧ v = l ∧ k ≤ 6 ∧ zs.length + k ≤ 6 ∧ Own wr W.heap.size v zs ∧ Cur B w0 wr c a len cap (m + 2 + 4 * (6 - k)) ∧ Only c W wr) (fun _ i _ => (intOf i).toNat)
  case atStart => exact HS.out
  case round =>
    obtain ⟨v, zs, k, rfl, rfl, hk, hz, hown, hcur, hon⟩ := hrel
    clear HS
    by_cases hk0 : 0 < k
    · have d0 : decide ((0 : Int) < (k : Int)) = true := decide_eq_true (by omega)
      have HO : Hid (Own wr W.heap.size v zs) := hown
      have HN : Hid (Only c W wr) := hon
      clear hown hon
      go_wp2_with fail
      refine (pick_any B w0 _ c a len cap _ 256 HD.out hl (by omega) hcur (by omega) (by omega)).mono ?_
      rintro e W2 ⟨x, rfl, x0, x1, hc2, ho2⟩
      have HX : Hid (Own W2 W.heap.size v zs) := HO.out.only ho2 hcW
      have HN2 : Hid (Only c W W2) := HN.out.trans ho2
      clear hcur ho2 HO HN
      go_wp2_with fail
      refine (among_any B w0 _ c W2.heap.size [0, 1, 255, 256, 65535, x * 7] a len cap 6 _ HD.out hl (by omega) (hc2.alloc _) (by simp) (by simp) (by simp) (by have := hc2.2.1; omega) (six_cells W2 (x * 7))).mono ?_
      rintro e W3 ⟨y, rfl, hy, hc3, ho3⟩
      have HX3 : Hid (Own W3 W.heap.size v zs) := (HX.out.alloc _).only ho3 hcW
      have HN3 : Hid (Only c W W3) := (HN2.out.alloc _).trans ho3
      clear hc2 ho3 HX HN2 hy
      go_wp2_with fail
      refine (l1Put_any W3 W.heap.size v zs y HX3.out HN3.out.1 (by omega)).mono ?_
      rintro e W4 ⟨v', zs', rfl, hown4, hz4, hb4⟩
      have hc4 := hc3.below hb4
      have hn4 := HN3.out.trans (below_only hb4 c)
      clear hb4 HX3 HN3 hc3
      go_wp2
      go_round
      case rel => exact ⟨v', zs', k - 1, by go_num, rfl, by omega, by omega, hown4, hc4.mono (by omega), hn4⟩
      case measure => simp [intOf]; omega
    · have d0 : decide ((0 : Int) < (k : Int)) = false := decide_eq_false (by omega)
      obtain rfl : k = 0 := by omega
      have HP : Hid (NumsPost B w0 W c a len cap m 6 (.returned v) wr) := ⟨v, zs, rfl, hown, by omega, hcur, hon⟩
      clear hown hcur hon
      go_wp2
      go_ret
      exact HP.out
end Go.Proofs.Ytijlhjfllfjllaa
