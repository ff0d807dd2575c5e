import Derived.Test.YthlbmkefjjckaadRows
import Derived.Test.YthlbmkefjjckaadSince0
import Derived.Laws.MakeOwn
import Derived.RegionTactic
import Derived.BigRegion
import Derived.BigQuiet
import Derived.Deep.QuietTactic
import Derived.WalkSmall
import Derived.Test.YthlbmkefjjckaadBunA
import Derived.WideShapes
import Derived.Test.YthlbmkefjjckaadGrJoint
import Derived.Test.YthlbmkefjjckaadBunC
import Derived.Test.YthlbmkefjjckaadPlain
import Derived.SizedLaws
/-
  The cursor that draws: what its methods 'next', 'pick', 'one' and 'among' answer, and what they leave of the world: they write into the cursor's own block alone.
-/
namespace Go.Proofs.Ythlbmkefjjckaad
open Go.RowKit

/-- A slice of bytes in old memory (below block B): empty, or bytes that lie there. -/
def Code (B : Nat) (w0 : World) (a : Option Addr) (len : Nat) : Prop :=
  len = 0 ∨ ∃ b off, a = some ⟨b, off, none⟩ ∧ b < B ∧ ∀ j, j < len → ∃ z : Int, 0 ≤ z ∧ z ≤ 255 ∧ w0.cell? ⟨b, off + j, none⟩ = some (.int .u8 z)

/-- Of the blocks that were there none but c has turned. -/
def Only (c : Nat) (w w' : World) : Prop := w.heap.size ≤ w'.heap.size ∧ ∀ k, k < w.heap.size → k ≠ c → w'.heap[k]? = w.heap[k]?
theorem Only.refl (c : Nat) (w : World) : Only c w w := ⟨Nat.le_refl _, fun _ _ _ => rfl⟩
theorem Only.trans {c : Nat} {w w1 w2 : World} (h : Only c w w1) (k : Only c w1 w2) : Only c w w2 :=
  ⟨Nat.le_trans h.1 k.1, fun i hi hc => (k.2 i (Nat.lt_of_lt_of_le hi h.1) hc).trans (h.2 i hi hc)⟩

/-- The cursor at block c: it holds the code, has drawn at most m times, and old memory is as it was. -/
def Cur (B : Nat) (w0 W : World) (c : Nat) (a : Option Addr) (len cap m : Nat) : Prop :=
  B ≤ c ∧ c < W.heap.size ∧ Since B w0 W ∧ W.cell? ⟨c, 0, none⟩ = some (.slice a len cap) ∧ (∃ n : Nat, n ≤ m ∧ W.cell? ⟨c, 1, none⟩ = some (.int .i64 n)) ∧ (∃ sd : Int, W.cell? ⟨c, 2, none⟩ = some (.int .u64 sd)) ∧
    W.frozen? ⟨c, 1, none⟩ = false ∧ W.frozen? ⟨c, 2, none⟩ = false

theorem seed_byte (X : Int) : 0 ≤ wrap64 (bits .and .u64 (IntKind.u64.wrap X / 1099511627776) 255) ∧ wrap64 (bits .and .u64 (IntKind.u64.wrap X / 1099511627776) 255) ≤ 255 := by
  have hx : 0 ≤ IntKind.u64.wrap X ∧ IntKind.u64.wrap X ≤ 18446744073709551615 := by rw [IntKind.wrap_u64]; omega
  generalize IntKind.u64.wrap X = Y at hx
  have h0 : 0 ≤ Y / 1099511627776 := by omega
  have h1 : Y / 1099511627776 ≤ 18446744073709551615 := by omega
  generalize Y / 1099511627776 = E at h0 h1
  have h := bits_and_u64_nat E.toNat 255 (by omega) (by omega)
  rw [Int.toNat_of_nonneg h0] at h
  have hle : E.toNat &&& 255 ≤ 255 := Nat.and_le_right
  rw [show ((255 : Nat) : Int) = 255 from rfl] at h
  rw [h]
  rw [IntWalk.wrap64_in _ ⟨by omega, by omega⟩]
  omega

theorem cur_step {B : Nat} {w0 W : World} {c : Nat} {a : Option Addr} {len cap m n : Nat} {sd : Int} (p q : Nat) (X : Int) (hB : B ≤ c) (hc : c < W.heap.size) (hS : Since B w0 W) (h0 : W.cell? ⟨c, 0, none⟩ = some (.slice a len cap)) (hn : n ≤ m)
    (h1 : W.cell? ⟨c, 1, none⟩ = some (.int .i64 n)) (h2 : W.cell? ⟨c, 2, none⟩ = some (.int .u64 sd)) (f1 : W.frozen? ⟨c, 1, none⟩ = false) (f2 : W.frozen? ⟨c, 2, none⟩ = false) :
    Cur B w0 ((((W.drewN p).setCell ⟨c, 1, none⟩ (.int .i64 ((n : Int) + 1))).setCell ⟨c, 2, none⟩ (.int .u64 X)).drewN q) c a len cap (m + 1) ∧
    Only c W ((((W.drewN p).setCell ⟨c, 1, none⟩ (.int .i64 ((n : Int) + 1))).setCell ⟨c, 2, none⟩ (.int .u64 X)).drewN q) := by
  have e0 : ((W.setCell ⟨c, 1, none⟩ (.int .i64 ((n : Int) + 1))).setCell ⟨c, 2, none⟩ (.int .u64 X)).cell? ⟨c, 0, none⟩ = some (.slice a len cap) := by
    rw [World.cell?_setCell_other _ _ _ _ (by simp), World.cell?_setCell_other _ _ _ _ (by simp)]; exact h0
  have e1 : ((W.setCell ⟨c, 1, none⟩ (.int .i64 ((n : Int) + 1))).setCell ⟨c, 2, none⟩ (.int .u64 X)).cell? ⟨c, 1, none⟩ = some (.int .i64 ((n + 1 : Nat) : Int)) := by
    rw [World.cell?_setCell_other _ _ _ _ (by simp), World.cell?_setCell_same _ _ _ h1]; simp
  have e2 : ((W.setCell ⟨c, 1, none⟩ (.int .i64 ((n : Int) + 1))).setCell ⟨c, 2, none⟩ (.int .u64 X)).cell? ⟨c, 2, none⟩ = some (.int .u64 X) := by
    have : (W.setCell ⟨c, 1, none⟩ (.int .i64 ((n : Int) + 1))).cell? ⟨c, 2, none⟩ = some (.int .u64 sd) := by rw [World.cell?_setCell_other _ _ _ _ (by simp)]; exact h2
    rw [World.cell?_setCell_same _ _ _ this]
  have g1 : ((W.setCell ⟨c, 1, none⟩ (.int .i64 ((n : Int) + 1))).setCell ⟨c, 2, none⟩ (.int .u64 X)).frozen? ⟨c, 1, none⟩ = false := by
    rw [World.frozen?_setCell, World.frozen?_setCell]; exact f1
  have g2 : ((W.setCell ⟨c, 1, none⟩ (.int .i64 ((n : Int) + 1))).setCell ⟨c, 2, none⟩ (.int .u64 X)).frozen? ⟨c, 2, none⟩ = false := by
    rw [World.frozen?_setCell, World.frozen?_setCell]; exact f2
  have hb : Below B w0 ((W.setCell ⟨c, 1, none⟩ (.int .i64 ((n : Int) + 1))).setCell ⟨c, 2, none⟩ (.int .u64 X)) := (hS.1.setCell hB _).setCell hB _
  have hz : ((W.setCell ⟨c, 1, none⟩ (.int .i64 ((n : Int) + 1))).setCell ⟨c, 2, none⟩ (.int .u64 X)).heap.size = W.heap.size := by simp [World.setCell]
  have ho : ∀ k, k ≠ c → ((W.setCell ⟨c, 1, none⟩ (.int .i64 ((n : Int) + 1))).setCell ⟨c, 2, none⟩ (.int .u64 X)).heap[k]? = W.heap[k]? := fun k hk => by
    rw [Below.heap_setCell _ _ _ _ hk, Below.heap_setCell _ _ _ _ hk]
  refine ⟨⟨hB, by rw [← hz] at hc; exact hc, ⟨⟨hb.os, hb.tape, hb.output, hb.size, hb.block⟩, by have := hS.2; rw [← hz] at this; exact this⟩, e0, ⟨n + 1, by omega, e1⟩, ⟨X, e2⟩, g1, g2⟩, ?_⟩
  exact ⟨Nat.le_of_eq hz.symm, fun k _ hk => ho k hk⟩

set_option maxHeartbeats 800000 in
theorem next_any (B : Nat) (w0 W : World) (c : Nat) (a : Option Addr) (len cap m : Nat) (hC : Code B w0 a len) (hl : len ≤ 9223372036854775807) (hm : m ≤ 1000000) (h : Cur B w0 W c a len cap m) :
    Calls Try.prog 84 #[.pointer (some ⟨c, 0, none⟩)] W fun e W' => ∃ r : Int, e = .returned (.int .i64 r) ∧ 0 ≤ r ∧ r ≤ 255 ∧ Cur B w0 W' c a len cap (m + 1) ∧ Only c W W' := by
  obtain ⟨hB, hc, hS, h0, ⟨n, hn, h1⟩, ⟨sd, h2⟩, f1, f2⟩ := h
  by_cases hlt : n < len
  · rcases hC with rfl | ⟨b, off, rfl, hb, hz⟩
    · omega
    · obtain ⟨z, z0, z1, hcell0⟩ := hz n hlt
      have hcell : W.cell? ⟨b, off + n, none⟩ = some (.int .u8 z) := (hS.1.cell (p := ⟨b, off + n, none⟩) hb).trans hcell0
      have hlt' : (n : Int) < (len : Int) := by omega
      clear hz hcell0
      go_enter Try.func84, Try.ntmps84
      go_wp2
      go_quiet (fail)
      go_wp2
      go_quiet (fail)
      go_wp2
      go_quiet (fail)
      go_wp2
      go_ret
      exact ⟨z, rfl, z0, z1, cur_step _ _ _ hB hc hS h0 hn h1 h2 f1 f2⟩
  · have hlt' : ¬ (n : Int) < (len : Int) := by omega
    have hd : decide ((n : Int) < (len : Int)) = false := by simp; omega
    go_enter Try.func84, Try.ntmps84
    go_wp2
    go_quiet (fail)
    go_wp2
    go_quiet (fail)
    go_wp2
    go_ret
    exact ⟨_, rfl, (seed_byte _).1, (seed_byte _).2, cur_step _ _ _ hB hc hS h0 hn h1 h2 f1 f2⟩

theorem Cur.mono {B : Nat} {w0 W : World} {c : Nat} {a : Option Addr} {len cap m m' : Nat} (h : Cur B w0 W c a len cap m) (hm : m ≤ m') : Cur B w0 W c a len cap m' := by
  obtain ⟨h1, h2, h3, h4, ⟨n, hn, h5⟩, h6⟩ := h
  exact ⟨h1, h2, h3, h4, ⟨n, by omega, h5⟩, h6⟩
theorem Only.lt {c : Nat} {w w' : World} (h : Only c w w') {b : Nat} (hb : b < w.heap.size) : b < w'.heap.size := Nat.lt_of_lt_of_le hb h.1

set_option maxHeartbeats 800000 in
theorem pick_any (B : Nat) (w0 W : World) (c : Nat) (a : Option Addr) (len cap m : Nat) (n : Int) (hC : Code B w0 a len) (hl : len ≤ 9223372036854775807) (hm : m ≤ 900000) (h : Cur B w0 W c a len cap m) (n1 : 1 ≤ n) (n2 : n ≤ 1000000) :
    Calls Try.prog 54 #[.pointer (some ⟨c, 0, none⟩), .int .i64 n] W fun e W' => ∃ r : Int, e = .returned (.int .i64 r) ∧ 0 ≤ r ∧ r < n ∧ Cur B w0 W' c a len cap (m + 2) ∧ Only c W W' := by
  by_cases h1 : n ≤ 1
  · have HC : Hid (Cur B w0 W c a len cap m) := h
    clear hC h
    go_enter Try.func54, Try.ntmps54
    go_wp2
    go_ret
    exact ⟨0, rfl, by omega, by omega, HC.out.mono (by omega), Only.refl _ _⟩
  · have HD : Hid (Code B w0 a len) := hC
    by_cases h2 : 200 < n
    · go_enter Try.func54, Try.ntmps54
      go_wp2_with fail
      refine (next_any B w0 _ c a len cap m HD.out hl (by omega) h).mono ?_
      rintro e W1 ⟨r, rfl, r0, r1, hc1, ho1⟩
      go_wp2_with fail
      refine (next_any B w0 _ c a len cap (m + 1) HD.out hl (by omega) hc1).mono ?_
      rintro e W2 ⟨q, rfl, q0, q1, hc2, ho2⟩
      go_wp2
      go_ret
      exact ⟨_, rfl, Int.emod_nonneg _ (by omega), Int.emod_lt_of_pos _ (by omega), hc2, ho1.trans ho2⟩
    · go_enter Try.func54, Try.ntmps54
      go_wp2_with fail
      refine (next_any B w0 _ c a len cap m HD.out hl (by omega) h).mono ?_
      rintro e W1 ⟨r, rfl, r0, r1, hc1, ho1⟩
      go_wp2
      go_ret
      exact ⟨_, rfl, Int.emod_nonneg _ (by omega), Int.emod_lt_of_pos _ (by omega), hc1.mono (by omega), ho1⟩

/-- 'one': whichever way it falls. -/
theorem one_any (B : Nat) (w0 W : World) (c : Nat) (a : Option Addr) (len cap m : Nat) (n : Int) (hC : Code B w0 a len) (hl : len ≤ 9223372036854775807) (hm : m ≤ 900000) (h : Cur B w0 W c a len cap m) (n1 : 1 ≤ n) (n2 : n ≤ 1000000) :
    Calls Try.prog 63 #[.pointer (some ⟨c, 0, none⟩), .int .i64 n] W fun e W' => ∃ r : Bool, e = .returned (.bool r) ∧ Cur B w0 W' c a len cap (m + 2) ∧ Only c W W' := by
  go_enter Try.func63, Try.ntmps63
  go_wp2_with fail
  refine (pick_any B w0 _ c a len cap m n hC hl hm h n1 n2).mono ?_
  rintro e W1 ⟨r, rfl, r0, r1, hc1, ho1⟩
  go_wp2
  go_ret
  exact ⟨_, rfl, hc1, ho1⟩

/-- 'among': one of the numbers of a row. -/
theorem among_any (B : Nat) (w0 W : World) (c b : Nat) (zs : List Int) (a : Option Addr) (len cap cap2 m : Nat) (hC : Code B w0 a len) (hl : len ≤ 9223372036854775807) (hm : m ≤ 900000) (h : Cur B w0 W c a len cap m)
    (hz : 1 ≤ zs.length) (hz2 : zs.length ≤ 200) (hb : b < W.heap.size) (hbc : b ≠ c) (hcell : ∀ j (hj : j < zs.length), W.cell? ⟨b, j, none⟩ = some (.int .i64 zs[j])) :
    Calls Try.prog 91 #[.pointer (some ⟨c, 0, none⟩), .slice (some ⟨b, 0, none⟩) zs.length cap2] W fun e W' => ∃ r : Int, e = .returned (.int .i64 r) ∧ r ∈ zs ∧ Cur B w0 W' c a len cap (m + 2) ∧ Only c W W' := by
  have HX : Hid (∀ j (hj : j < zs.length), W.cell? ⟨b, j, none⟩ = some (.int .i64 zs[j])) := hcell
  clear hcell
  go_enter Try.func91, Try.ntmps91
  go_wp2_with fail
  refine (pick_any B w0 _ c a len cap m zs.length hC hl hm h (by omega) (by omega)).mono ?_
  rintro e W1 ⟨r, rfl, r0, r1, hc1, ho1⟩
  obtain ⟨k, rfl⟩ : ∃ k : Nat, r = k := ⟨r.toNat, by omega⟩
  have hk : k < zs.length := by omega
  have hcell : W1.cell? ⟨b, k, none⟩ = some (.int .i64 zs[k]) := (World.cell?_of_block (w := W) (a := ⟨b, k, none⟩) (ho1.2 b hb hbc)).trans (HX.out k hk)
  go_wp2
  go_ret
  exact ⟨_, rfl, List.getElem_mem hk, hc1, ho1⟩

theorem below_only {w w' : World} (h : Below w.heap.size w w') (c : Nat) : Only c w w' := ⟨h.size, fun k hk _ => h.block k hk⟩
theorem Cur.below {B : Nat} {w0 W W1 : World} {c : Nat} {a : Option Addr} {len cap m : Nat} (h : Cur B w0 W c a len cap m) (hb : Below W.heap.size W W1) : Cur B w0 W1 c a len cap m := by
  obtain ⟨h1, h2, h3, h4, ⟨n, hn, h5⟩, ⟨sd, h6⟩, h7, h8⟩ := h
  exact ⟨h1, Nat.lt_of_lt_of_le h2 hb.size, h3.step hb, (hb.cell (p := ⟨c, 0, none⟩) h2).trans h4, ⟨n, hn, (hb.cell (p := ⟨c, 1, none⟩) h2).trans h5⟩, ⟨sd, (hb.cell (p := ⟨c, 2, none⟩) h2).trans h6⟩,
    (hb.frozen (p := ⟨c, 1, none⟩) h2).trans h7, (hb.frozen (p := ⟨c, 2, none⟩) h2).trans h8⟩

theorem Cur.drew {B : Nat} {w0 W : World} {c : Nat} {a : Option Addr} {len cap m : Nat} (h : Cur B w0 W c a len cap m) : Cur B w0 W.drew c a len cap m := ⟨h.1, h.2.1, h.2.2.1.drew, h.2.2.2⟩

/-- A store into another block of the call's own. -/
theorem Cur.other {B : Nat} {w0 W : World} {c : Nat} {a : Option Addr} {len cap m b o : Nat} (h : Cur B w0 W c a len cap m) (hcb : c < b) (v : Value) : Cur B w0 (W.setCell ⟨b, o, none⟩ v) c a len cap m := by
  obtain ⟨h1, h2, h3, h4, ⟨n, hn, h5⟩, ⟨sd, h6⟩, h7, h8⟩ := h
  have hz : (W.setCell ⟨b, o, none⟩ v).heap.size = W.heap.size := by simp [World.setCell]
  have ne : ∀ j, (⟨b, o, none⟩ : Addr) ≠ ⟨c, j, none⟩ := fun j e => by have := congrArg Addr.block e; simp at this; omega
  refine ⟨h1, by rw [hz]; exact h2, ⟨h3.1.setCell (by show _ ≤ b; omega) _, by rw [hz]; exact h3.2⟩, ?_, ⟨n, hn, ?_⟩, ⟨sd, ?_⟩, ?_, ?_⟩
  · rw [World.cell?_setCell_other _ _ _ _ (ne 0)]; exact h4
  · rw [World.cell?_setCell_other _ _ _ _ (ne 1)]; exact h5
  · rw [World.cell?_setCell_other _ _ _ _ (ne 2)]; exact h6
  · rw [World.frozen?_setCell]; exact h7
  · rw [World.frozen?_setCell]; exact h8
end Go.Proofs.Ythlbmkefjjckaad

/-
  What drawing with a cursor leaves as it was: rows, the cursor itself; a cursor that is made; numbers typed out in a row.
-/
namespace Go.Proofs.Ythlbmkefjjckaad
open Go.RowKit
set_option linter.unusedVariables false

theorem rowOnly {W W' : World} {B c : Nat} {e : TypeId} {size n : Nat} {v : Value} {xs : List Value} (h : W.ownsRow B e size v n xs) (ho : Only c W W') (hc : c < B) : W'.ownsRow B e size v n xs :=
  rowSame h fun k hk => ho.2 k (World.ownsRow.lt h k hk).2 (by have := (World.ownsRow.lt h k hk).1; omega)
theorem onlyAlloc {c : Nat} {w w' : World} (h : Only c w w') (o : Obj) : Only c w (w'.alloc o) := h.trans (below_only ((Below.refl _ w').alloc (Nat.le_refl _) o) c)
theorem curAlloc {B : Nat} {w0 W : World} {c : Nat} {a : Option Addr} {len cap m : Nat} (h : Cur B w0 W c a len cap m) (o : Obj) : Cur B w0 (W.alloc o) c a len cap m := h.below ((Below.refl _ W).alloc (Nat.le_refl _) o)
theorem cells_lit (w : World) (t : TypeId) (zs : List Int) : ∀ j (hj : j < zs.length), (w.alloc (.cells (zs.map (Value.int .i64)).toArray t)).cell? ⟨w.heap.size, j, none⟩ = some (.int .i64 zs[j]) := by
  intro j hj
  rw [World.cell?_alloc_at _ _ _ _ rfl]
  simp [hj]
theorem cur_new {B : Nat} {w0 W : World} (a : Option Addr) (len cap : Nat) (t : TypeId) (h : Since B w0 W) :
    Cur B w0 (W.alloc (.cells #[.slice a len cap, .int .i64 0, .int .u64 0] t)) W.heap.size a len cap 0 := by
  have hh : (W.alloc (.cells #[.slice a len cap, .int .i64 0, .int .u64 0] t)).heap[W.heap.size]? = some (.cells #[.slice a len cap, .int .i64 0, .int .u64 0] t) := by
    show (W.heap.push _)[W.heap.size]? = _
    simp
  refine ⟨h.2, by simp, h.step ((Below.refl _ _).alloc (Nat.le_refl _) _), ?_, ⟨0, Nat.le_refl _, ?_⟩, ⟨0, ?_⟩, ?_, ?_⟩
  · rw [World.cell?_alloc_at _ _ _ _ rfl]; rfl
  · rw [World.cell?_alloc_at _ _ _ _ rfl]; rfl
  · rw [World.cell?_alloc_at _ _ _ _ rfl]; rfl
  · unfold World.frozen?; rw [hh]; simp
  · unfold World.frozen?; rw [hh]; simp
/-- The cursor behind an append onto a row that lies above it. -/
theorem curGrown {B : Nat} {w0 w w' : World} {c : Nat} {a : Option Addr} {len cap m : Nat} {e : TypeId} {size n : Nat} {v v' : Value} {xs : List Value} (h : Cur B w0 w c a len cap m) (hg : Grown w (c + 1) e size v n xs v' w') : Cur B w0 w' c a len cap m := by
  have h1 : w'.heap[c]? = w.heap[c]? := hg.below.block c (by omega)
  obtain ⟨k1, k2, k3, k4, ⟨n, hn, k5⟩, ⟨sd, k6⟩, k7, k8⟩ := h
  exact ⟨k1, Nat.lt_of_lt_of_le k2 hg.size, ⟨k3.1.trans (hg.below.mono (by omega)), Nat.le_trans k3.2 hg.size⟩, (World.cell?_of_block h1).trans k4, ⟨n, by omega, (World.cell?_of_block h1).trans k5⟩, ⟨sd, (World.cell?_of_block h1).trans k6⟩, (World.frozen?_of_block h1).trans k7, (World.frozen?_of_block h1).trans k8⟩
end Go.Proofs.Ythlbmkefjjckaad

/-
  A new edge, as what is put behind a list.
-/
namespace Go.Proofs.Ythlbmkefjjckaad
open Go.RowKit
set_option linter.unusedVariables false

theorem srcEd_at {w : World} {g o : Nat} {l : List EdD} (h : ∀ j (hj : j < l.length), EdAt w g (o + j * 3) l[j]) (n c : Nat) (hn : n = l.length) : Src w (.slice (some ⟨g, o, none⟩) n c) n (cellsEd l) := by
  subst hn
  refine .inr ⟨_, _, rfl, fun j u hu => ?_⟩
  rw [Go.WideShapes.add_plain]
  have hj : j < l.length * 3 := by rw [← cellsEd_len]; exact (List.getElem?_eq_some_iff.1 hu).1
  obtain ⟨q, hq | hq | hq⟩ : ∃ q, j = q * 3 ∨ j = q * 3 + 1 ∨ j = q * 3 + 2 := ⟨j / 3, by omega⟩
  · have c0 := cellsEd_get l q (by omega)
    have h0 := h q (by omega)
    subst hq
    rw [c0.1] at hu
    cases hu
    exact h0.1
  · have c0 := cellsEd_get l q (by omega)
    have h0 := h q (by omega)
    subst hq
    rw [c0.2.1] at hu
    cases hu
    have := h0.2.1
    rwa [Nat.add_assoc] at this
  · have c0 := cellsEd_get l q (by omega)
    have h0 := h q (by omega)
    subst hq
    rw [c0.2.2] at hu
    cases hu
    have := h0.2.2
    rwa [Nat.add_assoc] at this

theorem srcEd_new (w : World) (x : EdD) (c : Nat) : Src (w.alloc (.cells #[.int .i64 x.A, .int .i64 x.B, .int .i64 x.Cost] 84)) (.slice (some ⟨w.heap.size, 0, none⟩) 1 c) 1 (cellsEd [x]) :=
  srcEd_at (l := [x]) (fun j hj => by
    obtain rfl : j = 0 := by simp at hj; omega
    exact newEd w x _ (Since.start _)) 1 c rfl
end Go.Proofs.Ythlbmkefjjckaad

/-
  What the cursor draws of edges.
-/
namespace Go.Proofs.Ythlbmkefjjckaad
open Go.RowKit
set_option linter.unusedVariables false

/-- What 'edges' leaves: how many spots, and a list of its own. -/
def EdsPost (B : Nat) (w0 W : World) (c : Nat) (a : Option Addr) (len cap m : Nat) (e : Ending) (W' : World) : Prop :=
  ∃ (n : Nat) (v : Value) (l : List EdD), e = .returned (.tuple #[.int .i64 (n : Int), v]) ∧ OwnEd W' W.heap.size v l ∧ l.length ≤ 40 ∧ n ≤ 13 ∧ Cur B w0 W' c a len cap (m + 1000) ∧ Only c W W'
/-- What its loops keep. -/
structure Edg (B : Nat) (w0 W : World) (c : Nat) (a : Option Addr) (len cap m : Nat) (v : Value) (l : List EdD) (wr : World) : Prop where
  own : OwnEd wr W.heap.size v l
  fit : l.length ≤ 40
  cur : Cur B w0 wr c a len cap m
  only : Only c W wr
theorem Edg.more {B : Nat} {w0 W : World} {c : Nat} {a : Option Addr} {len cap m m' : Nat} {v : Value} {l : List EdD} {wr : World} (h : Edg B w0 W c a len cap m v l wr) (hm : m ≤ m') : Edg B w0 W c a len cap m' v l wr := ⟨h.own, h.fit, h.cur.mono hm, h.only⟩
theorem Edg.step {B : Nat} {w0 W : World} {c : Nat} {a : Option Addr} {len cap m m' : Nat} {v : Value} {l : List EdD} {wr w1 : World} (h : Edg B w0 W c a len cap m v l wr) (hc : Cur B w0 w1 c a len cap m') (ho : Only c wr w1) (hcW : c < W.heap.size) : Edg B w0 W c a len cap m' v l w1 := ⟨rowOnly h.own ho hcW, h.fit, hc, h.only.trans ho⟩
theorem Edg.put {B : Nat} {w0 W : World} {c : Nat} {a : Option Addr} {len cap m : Nat} {v : Value} {l l' : List EdD} {wr w1 : World} {o : Obj} {v' : Value} (h : Edg B w0 W c a len cap m v l wr) (hg : Grown (wr.alloc o) W.heap.size 84 3 v l'.length (cellsEd l') v' w1) (hcW : c < W.heap.size) (hl : l'.length ≤ 40) : Edg B w0 W c a len cap m v' l' w1 :=
  ⟨hg.own, hl, curGrown (B := B) (h.cur.below ((Below.refl _ wr).alloc (Nat.le_refl _) o)) ⟨rowMono hg.own hcW, hg.below.mono hcW, hg.size, hg.grown, hg.lies⟩,
   Nat.le_trans h.only.1 (Nat.le_trans (by simp) hg.size), fun k hk hne => (hg.grown.block k (by have := h.only.1; simp; omega) (fun e => by
     have := (World.ownsRow.lt h.own k e.symm).1
     omega)).trans ((((Below.refl wr.heap.size wr).alloc (Nat.le_refl _) o).block k (by have := h.only.1; omega)).trans (h.only.2 k hk hne))⟩

set_option maxRecDepth 100000 in
set_option maxHeartbeats 8000000 in
theorem edges_any (B : Nat) (w0 W : World) (c : Nat) (a : Option Addr) (len cap m : Nat) (hC : Code B w0 a len) (hl : len ≤ 9223372036854775807) (hm : m ≤ 100000) (h : Cur B w0 W c a len cap m) :
    Calls Try.prog 62 #[.pointer (some ⟨c, 0, none⟩)] W (EdsPost B w0 W c a len cap m) := by
  have HD : Hid (Code B w0 a len) := hC
  have hcW : c < W.heap.size := h.2.1
  have HH : Hid (Cur B w0 W c a len cap m) := h
  clear hC h
  go_enter Try.func62, Try.ntmps62
  go_wp2_with fail
  refine (pick_any B w0 _ c a len cap m 8 HD.out hl (by omega) HH.out (by omega) (by omega)).mono ?_
  rintro e W1 ⟨q, rfl, q0, q1, hc1, ho1⟩
  obtain ⟨n1, rfl⟩ : ∃ n : Nat, q = n := ⟨q.toNat, by omega⟩
  have HC1 : Hid (Cur B w0 W1 c a len cap (m + 2) ∧ Only c W W1) := ⟨hc1, ho1⟩
  clear hc1 ho1
  go_wp2_with fail
  refine (one_any B w0 _ c a len cap (m + 2) 30 HD.out hl (by omega) HC1.out.1 (by omega) (by omega)).mono ?_
  rintro e W2 ⟨b2, rfl, hc2, ho2⟩
  have HC2 : Hid (Cur B w0 W2 c a len cap (m + 4) ∧ Only c W W2) := ⟨hc2, HC1.out.2.trans ho2⟩
  clear hc2 ho2 HC1
  cases b2
  case false =>
    obtain ⟨n, hn⟩ : ∃ n : Nat, n = 1 + n1 := ⟨_, rfl⟩
    have hnn : 1 + (n1 : Int) = (n : Int) := by omega
    have hn13 : n ≤ 13 := by omega
    have HCN : Hid (Cur B w0 W2 c a len cap (m + 6) ∧ Only c W W2) := ⟨HC2.out.1.mono (by omega), HC2.out.2⟩
    clear HC2 hn
    go_wp2_with fail
    refine (pick_any B w0 _ c a len cap (m + 6) 3 HD.out hl (by omega) HCN.out.1 (by omega) (by omega)).mono ?_
    rintro e W3 ⟨d, rfl, d0, d1, hc3, ho3⟩
    have HC3 : Hid (Cur B w0 W3 c a len cap (m + 8) ∧ Only c W W3) := ⟨hc3, HCN.out.2.trans ho3⟩
    obtain ⟨dd, hdd, hd1, hd2⟩ : ∃ dd : Int, IntKind.i64.wrap (1 + (1 + d)) = dd ∧ 1 ≤ dd ∧ dd ≤ 10 := ⟨2 + d, by rw [IntKind.wrap_i64]; omega, by omega, by omega⟩
    clear hc3 ho3 HCN
    have HB0 : Hid (Edg B w0 W c a len cap (m + 8) (.slice none 0 0) [] W3) := ⟨OwnEd.nil _ _, by simp, HC3.out.1, HC3.out.2⟩
    clear HC3
    go_wp2
    go_loopw [5, 7] (fun v i wr => ∃ (l : List EdD) (k : Nat), k ≤ n ∧ i = .int .i64 (k : Int) ∧ Hid (Edg B w0 W c a len cap (m + 8 + 60 * k) v l wr)) (fun _ i _ => n - (intOf i).toNat)
    case atStart => exact ⟨[], 0, Nat.zero_le _, rfl, HB0.out⟩
    case round =>
      clear HB0
      obtain ⟨l0, k, hk, rfl, HG⟩ := hrel
      by_cases hlt : k < n
      · have hlt' : (k : Int) < (n : Int) := by omega
        go_wp2
        go_loopw [5, 8] (fun v i wr => ∃ (l : List EdD) (b : Nat), k + 1 ≤ b ∧ b ≤ n ∧ i = .int .i64 (b : Int) ∧ Hid (Edg B w0 W c a len cap (m + 8 + 60 * k + 4 * b) v l wr)) (fun _ i _ => n - (intOf i).toNat)
        case atStart => exact ⟨l0, k + 1, Nat.le_refl _, by omega, by go_num, HG.out.more (by omega)⟩
        case round =>
          clear HG
          obtain ⟨l, b, hb0, hb, rfl, HG⟩ := hrel
          obtain ⟨a3, c3, rfl⟩ := HG.out.own.shape
          by_cases hltb : b < n
          · have hltb' : (b : Int) < (n : Int) := by omega
            have HLL : Hid (l.length ≤ 40) := HG.out.fit
            go_wp2_with fail
            refine (one_any B w0 _ c a len cap (m + 8 + 60 * k + 4 * b) dd HD.out hl (by omega) HG.out.cur (by omega) (by omega)).mono ?_
            rintro e W4 ⟨b4, rfl, hc4, ho4⟩
            have HG4 : Hid (Edg B w0 W c a len cap (m + 8 + 60 * k + 4 * b + 2) (.slice a3 l.length c3) l W4) := HG.out.step hc4 ho4 hcW
            clear hc4 ho4 HG
            cases b4 with
            | false =>
              go_wp2
              go_roundw
              case rel => exact ⟨l, b + 1, by omega, by omega, by go_num, HG4.out.more (by omega)⟩
              case measure => simp [intOf]; omega
            | true =>
              by_cases h40 : l.length < 40
              · have h40' : decide ((l.length : Int) < 40) = true := decide_eq_true (by omega)
                go_wp2_with fail
                refine (pick_any B w0 _ c a len cap (m + 8 + 60 * k + 4 * b + 2) 5 HD.out hl (by omega) HG4.out.cur (by omega) (by omega)).mono ?_
                rintro e W5 ⟨r5, rfl, r50, r51, hc5, ho5⟩
                have HG5 : Hid (Edg B w0 W c a len cap (m + 8 + 60 * k + 4 * b + 4) (.slice a3 l.length c3) l W5) := HG4.out.step hc5 ho5 hcW
                clear hc5 ho5 HG4
                have HA : Hid (∀ ty, ∃ v' w', (Builtin.append_ #[23, 23] ty #[.slice a3 l.length c3, .slice (some ⟨W5.heap.size, 0, none⟩) 1 1]).run Try.prog (W5.alloc (.cells #[.int .i64 (k : Int), .int .i64 (b : Int), .int .i64 (1 + r5)] 84)) = .ok v' w' ∧ Grown (W5.alloc (.cells #[.int .i64 (k : Int), .int .i64 (b : Int), .int .i64 (1 + r5)] 84)) W.heap.size 84 3 (.slice a3 l.length c3) (l ++ [(⟨(k : Int), (b : Int), 1 + r5⟩ : EdD)]).length (cellsEd (l ++ [(⟨(k : Int), (b : Int), 1 + r5⟩ : EdD)])) v' w') := fun ty => run_appEd _ W.heap.size _ l (HG5.out.own.below ((Below.refl _ W5).alloc (Nat.le_refl _) _)) _ [(⟨(k : Int), (b : Int), 1 + r5⟩ : EdD)] (srcEd_new W5 ⟨(k : Int), (b : Int), 1 + r5⟩ 1) (by have := HLL.out; simp only [List.length_cons, List.length_nil]; omega) (Nat.le_trans HG5.out.only.1 (by simp)) ty
                go_wp2_with (at_builtin; refine list_app (by rfl) (.tmp 41) (.tmp 48) 23 (by rfl) (.slice a3 l.length c3) (.slice (some ⟨W5.heap.size, 0, none⟩) 1 1) (by rfl) (by rfl) _ HA.out ?_; intro v6 W6 hg6; have HF : Hid (Edg B w0 W c a len cap (m + 8 + 60 * k + 4 * b + 4) v6 (l ++ [(⟨(k : Int), (b : Int), 1 + r5⟩ : EdD)]) W6) := HG5.out.put hg6 hcW (by simp; omega); clear hg6)
                go_roundw
                case rel => exact ⟨_, b + 1, by omega, by omega, by go_num, HF.out.more (by omega)⟩
                case measure => simp [intOf]; omega
              · have h40' : decide ((l.length : Int) < 40) = false := decide_eq_false (by omega)
                go_wp2
                go_roundw
                case rel => exact ⟨l, b + 1, by omega, by omega, by go_num, HG4.out.more (by omega)⟩
                case measure => simp [intOf]; omega
          · have hltb' : ¬ (b : Int) < (n : Int) := by omega
            go_wp2
            go_roundw
            case rel => exact ⟨l, k + 1, by omega, by go_num, HG.out.more (by omega)⟩
            case measure => simp [intOf]; omega
      · have hlt' : ¬ (k : Int) < (n : Int) := by omega
        obtain ⟨a3, c3, hv⟩ := HG.out.own.shape
        subst hv
        have HGE : Hid (Edg B w0 W c a len cap (m + 900) (.slice a3 l0.length c3) l0 wr) := HG.out.more (by omega)
        clear HG
        by_cases hl0 : 0 < l0.length
        · have hl0' : decide (0 < (l0.length : Int)) = true := decide_eq_true (by omega)
          go_wp2_with fail
          refine (one_any B w0 _ c a len cap (m + 900) 30 HD.out hl (by omega) HGE.out.cur (by omega) (by omega)).mono ?_
          rintro e W4 ⟨b4, rfl, hc4, ho4⟩
          have HG4 : Hid (Edg B w0 W c a len cap (m + 902) (.slice a3 l0.length c3) l0 W4) := HGE.out.step hc4 ho4 hcW
          clear hc4 ho4 HGE
          cases b4 with
          | false =>
            go_wp2
            refine bodyPost_ret (results_tmp2 rfl _ _ _) rfl ?_
            exact ⟨_, _, l0, rfl, HG4.out.own, HG4.out.fit, by omega, HG4.out.cur.mono (by omega), HG4.out.only⟩
          | true =>
            have HCL : Hid (∀ j (hj : j < [(0 : Int), 100, 101].length), (W4.alloc (.cells #[.int .i64 0, .int .i64 100, .int .i64 101] 3)).cell? ⟨W4.heap.size, j, none⟩ = some (.int .i64 [(0 : Int), 100, 101][j])) := cells_lit W4 3 [0, 100, 101]
            have hcW4 : c < W4.heap.size := HG4.out.cur.2.1
            go_wp2_with fail
            refine (among_any B w0 _ c W4.heap.size [0, 100, 101] a len cap 3 (m + 902) HD.out hl (by omega) (curAlloc HG4.out.cur _) (by simp) (by simp) (by simp) (by omega) HCL.out).mono ?_
            rintro e W5 ⟨r5, rfl, -, hc5, ho5⟩
            have HG5 : Hid (Edg B w0 W c a len cap (m + 904) (.slice a3 l0.length c3) l0 W5) := HG4.out.step hc5 ((onlyAlloc (Only.refl _ _) _).trans ho5) hcW
            clear hc5 ho5 HG4 HCL
            obtain ⟨g6, cg, e6⟩ : ∃ g cap, Value.slice a3 l0.length c3 = .slice (some ⟨g, 0, none⟩) l0.length cap := by
              rcases HG5.out.own.2 with ⟨hv, hn0⟩ | ⟨g, cap, cur, hv, -⟩
              · omega
              · exact ⟨g, cap, hv⟩
            obtain ⟨rfl, rfl⟩ : a3 = some ⟨g6, 0, none⟩ ∧ c3 = cg := by simpa using e6
            have ho6 := HG5.out.own
            have hg6 : W.heap.size ≤ g6 := (World.ownsRow.lt ho6 g6 rfl).1
            obtain ⟨t2, f2⟩ : ∃ x, W5.cell? ⟨g6, 2, none⟩ = some x := ⟨_, by rw [World.ownsRow.cellAt ho6 2 (by omega)]; exact List.getElem?_eq_getElem (by rw [cellsEd_len]; omega)⟩
            have fz2 := World.ownsRow.frozenAt ho6 2
            have HFI : Hid (OwnEd (W5.setCell ⟨g6, 2, none⟩ (.int .i64 r5)) W.heap.size (.slice (some ⟨g6, 0, none⟩) l0.length c3) (l0.set 0 { l0[0] with Cost := r5 })) := by
              have := ho6.set_Cost 0 hl0 r5
              exact (show OwnEd _ _ _ _ by simpa using this)
            have HCI : Hid (Cur B w0 (W5.setCell ⟨g6, 2, none⟩ (.int .i64 r5)) c a len cap (m + 904)) := HG5.out.cur.other (by omega) _
            have HNI : Hid (Only c W (W5.setCell ⟨g6, 2, none⟩ (.int .i64 r5))) := by
              have h1 := HG5.out.only
              refine ⟨by have := h1.1; simpa [World.setCell] using this, fun k hk hne => ?_⟩
              rw [Below.heap_setCell _ _ _ _ (by show k ≠ g6; omega)]
              exact h1.2 k hk hne
            have HFT : Hid (l0.length ≤ 40) := HG5.out.fit
            clear ho6 HG5 e6
            go_wp2
            refine bodyPost_ret (results_tmp2 rfl _ _ _) rfl ?_
            exact ⟨_, _, l0.set 0 { l0[0] with Cost := r5 }, rfl, HFI.out, by rw [List.length_set]; exact HFT.out, by omega, HCI.out.mono (by omega), HNI.out⟩
        · have hl0' : decide (0 < (l0.length : Int)) = false := decide_eq_false (by omega)
          go_wp2
          refine bodyPost_ret (results_tmp2 rfl _ _ _) rfl ?_
          exact ⟨_, _, l0, rfl, HGE.out.own, HGE.out.fit, by omega, HGE.out.cur.mono (by omega), HGE.out.only⟩
  case true =>
    have HCL0 : Hid (∀ j (hj : j < [(0 : Int), 12, 13].length), (W2.alloc (.cells #[.int .i64 0, .int .i64 12, .int .i64 13] 3)).cell? ⟨W2.heap.size, j, none⟩ = some (.int .i64 [(0 : Int), 12, 13][j])) := cells_lit W2 3 [0, 12, 13]
    have hcW2 : c < W2.heap.size := HC2.out.1.2.1
    go_wp2_with fail
    refine (among_any B w0 _ c W2.heap.size [0, 12, 13] a len cap 3 (m + 4) HD.out hl (by omega) (curAlloc HC2.out.1 _) (by simp) (by simp) (by simp) (by omega) HCL0.out).mono ?_
    rintro e W20 ⟨r2, rfl, hr2, hc20, ho20⟩
    obtain ⟨n, rfl, hn13⟩ : ∃ n : Nat, r2 = (n : Int) ∧ n ≤ 13 := by
      simp at hr2
      exact ⟨r2.toNat, by omega, by omega⟩
    have HCN : Hid (Cur B w0 W20 c a len cap (m + 6) ∧ Only c W W20) := ⟨hc20, HC2.out.2.trans ((onlyAlloc (Only.refl _ _) _).trans ho20)⟩
    clear hc20 ho20 HC2 HCL0 hr2
    go_wp2_with fail
    refine (pick_any B w0 _ c a len cap (m + 6) 3 HD.out hl (by omega) HCN.out.1 (by omega) (by omega)).mono ?_
    rintro e W3 ⟨d, rfl, d0, d1, hc3, ho3⟩
    have HC3 : Hid (Cur B w0 W3 c a len cap (m + 8) ∧ Only c W W3) := ⟨hc3, HCN.out.2.trans ho3⟩
    obtain ⟨dd, hdd, hd1, hd2⟩ : ∃ dd : Int, IntKind.i64.wrap (1 + (1 + d)) = dd ∧ 1 ≤ dd ∧ dd ≤ 10 := ⟨2 + d, by rw [IntKind.wrap_i64]; omega, by omega, by omega⟩
    clear hc3 ho3 HCN
    have HB0 : Hid (Edg B w0 W c a len cap (m + 8) (.slice none 0 0) [] W3) := ⟨OwnEd.nil _ _, by simp, HC3.out.1, HC3.out.2⟩
    clear HC3
    go_wp2
    go_loopw [5, 7] (fun v i wr => ∃ (l : List EdD) (k : Nat), k ≤ n ∧ i = .int .i64 (k : Int) ∧ Hid (Edg B w0 W c a len cap (m + 8 + 60 * k) v l wr)) (fun _ i _ => n - (intOf i).toNat)
    case atStart => exact ⟨[], 0, Nat.zero_le _, rfl, HB0.out⟩
    case round =>
      clear HB0
      obtain ⟨l0, k, hk, rfl, HG⟩ := hrel
      by_cases hlt : k < n
      · have hlt' : (k : Int) < (n : Int) := by omega
        go_wp2
        go_loopw [5, 8] (fun v i wr => ∃ (l : List EdD) (b : Nat), k + 1 ≤ b ∧ b ≤ n ∧ i = .int .i64 (b : Int) ∧ Hid (Edg B w0 W c a len cap (m + 8 + 60 * k + 4 * b) v l wr)) (fun _ i _ => n - (intOf i).toNat)
        case atStart => exact ⟨l0, k + 1, Nat.le_refl _, by omega, by go_num, HG.out.more (by omega)⟩
        case round =>
          clear HG
          obtain ⟨l, b, hb0, hb, rfl, HG⟩ := hrel
          obtain ⟨a3, c3, rfl⟩ := HG.out.own.shape
          by_cases hltb : b < n
          · have hltb' : (b : Int) < (n : Int) := by omega
            have HLL : Hid (l.length ≤ 40) := HG.out.fit
            go_wp2_with fail
            refine (one_any B w0 _ c a len cap (m + 8 + 60 * k + 4 * b) dd HD.out hl (by omega) HG.out.cur (by omega) (by omega)).mono ?_
            rintro e W4 ⟨b4, rfl, hc4, ho4⟩
            have HG4 : Hid (Edg B w0 W c a len cap (m + 8 + 60 * k + 4 * b + 2) (.slice a3 l.length c3) l W4) := HG.out.step hc4 ho4 hcW
            clear hc4 ho4 HG
            cases b4 with
            | false =>
              go_wp2
              go_roundw
              case rel => exact ⟨l, b + 1, by omega, by omega, by go_num, HG4.out.more (by omega)⟩
              case measure => simp [intOf]; omega
            | true =>
              by_cases h40 : l.length < 40
              · have h40' : decide ((l.length : Int) < 40) = true := decide_eq_true (by omega)
                go_wp2_with fail
                refine (pick_any B w0 _ c a len cap (m + 8 + 60 * k + 4 * b + 2) 5 HD.out hl (by omega) HG4.out.cur (by omega) (by omega)).mono ?_
                rintro e W5 ⟨r5, rfl, r50, r51, hc5, ho5⟩
                have HG5 : Hid (Edg B w0 W c a len cap (m + 8 + 60 * k + 4 * b + 4) (.slice a3 l.length c3) l W5) := HG4.out.step hc5 ho5 hcW
                clear hc5 ho5 HG4
                have HA : Hid (∀ ty, ∃ v' w', (Builtin.append_ #[23, 23] ty #[.slice a3 l.length c3, .slice (some ⟨W5.heap.size, 0, none⟩) 1 1]).run Try.prog (W5.alloc (.cells #[.int .i64 (k : Int), .int .i64 (b : Int), .int .i64 (1 + r5)] 84)) = .ok v' w' ∧ Grown (W5.alloc (.cells #[.int .i64 (k : Int), .int .i64 (b : Int), .int .i64 (1 + r5)] 84)) W.heap.size 84 3 (.slice a3 l.length c3) (l ++ [(⟨(k : Int), (b : Int), 1 + r5⟩ : EdD)]).length (cellsEd (l ++ [(⟨(k : Int), (b : Int), 1 + r5⟩ : EdD)])) v' w') := fun ty => run_appEd _ W.heap.size _ l (HG5.out.own.below ((Below.refl _ W5).alloc (Nat.le_refl _) _)) _ [(⟨(k : Int), (b : Int), 1 + r5⟩ : EdD)] (srcEd_new W5 ⟨(k : Int), (b : Int), 1 + r5⟩ 1) (by have := HLL.out; simp only [List.length_cons, List.length_nil]; omega) (Nat.le_trans HG5.out.only.1 (by simp)) ty
                go_wp2_with (at_builtin; refine list_app (by rfl) (.tmp 41) (.tmp 48) 23 (by rfl) (.slice a3 l.length c3) (.slice (some ⟨W5.heap.size, 0, none⟩) 1 1) (by rfl) (by rfl) _ HA.out ?_; intro v6 W6 hg6; have HF : Hid (Edg B w0 W c a len cap (m + 8 + 60 * k + 4 * b + 4) v6 (l ++ [(⟨(k : Int), (b : Int), 1 + r5⟩ : EdD)]) W6) := HG5.out.put hg6 hcW (by simp; omega); clear hg6)
                go_roundw
                case rel => exact ⟨_, b + 1, by omega, by omega, by go_num, HF.out.more (by omega)⟩
                case measure => simp [intOf]; omega
              · have h40' : decide ((l.length : Int) < 40) = false := decide_eq_false (by omega)
                go_wp2
                go_roundw
                case rel => exact ⟨l, b + 1, by omega, by omega, by go_num, HG4.out.more (by omega)⟩
                case measure => simp [intOf]; omega
          · have hltb' : ¬ (b : Int) < (n : Int) := by omega
            go_wp2
            go_roundw
            case rel => exact ⟨l, k + 1, by omega, by go_num, HG.out.more (by omega)⟩
            case measure => simp [intOf]; omega
      · have hlt' : ¬ (k : Int) < (n : Int) := by omega
        obtain ⟨a3, c3, hv⟩ := HG.out.own.shape
        subst hv
        have HGE : Hid (Edg B w0 W c a len cap (m + 900) (.slice a3 l0.length c3) l0 wr) := HG.out.more (by omega)
        clear HG
        by_cases hl0 : 0 < l0.length
        · have hl0' : decide (0 < (l0.length : Int)) = true := decide_eq_true (by omega)
          go_wp2_with fail
          refine (one_any B w0 _ c a len cap (m + 900) 30 HD.out hl (by omega) HGE.out.cur (by omega) (by omega)).mono ?_
          rintro e W4 ⟨b4, rfl, hc4, ho4⟩
          have HG4 : Hid (Edg B w0 W c a len cap (m + 902) (.slice a3 l0.length c3) l0 W4) := HGE.out.step hc4 ho4 hcW
          clear hc4 ho4 HGE
          cases b4 with
          | false =>
            go_wp2
            refine bodyPost_ret (results_tmp2 rfl _ _ _) rfl ?_
            exact ⟨_, _, l0, rfl, HG4.out.own, HG4.out.fit, by omega, HG4.out.cur.mono (by omega), HG4.out.only⟩
          | true =>
            have HCL : Hid (∀ j (hj : j < [(0 : Int), 100, 101].length), (W4.alloc (.cells #[.int .i64 0, .int .i64 100, .int .i64 101] 3)).cell? ⟨W4.heap.size, j, none⟩ = some (.int .i64 [(0 : Int), 100, 101][j])) := cells_lit W4 3 [0, 100, 101]
            have hcW4 : c < W4.heap.size := HG4.out.cur.2.1
            go_wp2_with fail
            refine (among_any B w0 _ c W4.heap.size [0, 100, 101] a len cap 3 (m + 902) HD.out hl (by omega) (curAlloc HG4.out.cur _) (by simp) (by simp) (by simp) (by omega) HCL.out).mono ?_
            rintro e W5 ⟨r5, rfl, -, hc5, ho5⟩
            have HG5 : Hid (Edg B w0 W c a len cap (m + 904) (.slice a3 l0.length c3) l0 W5) := HG4.out.step hc5 ((onlyAlloc (Only.refl _ _) _).trans ho5) hcW
            clear hc5 ho5 HG4 HCL
            obtain ⟨g6, cg, e6⟩ : ∃ g cap, Value.slice a3 l0.length c3 = .slice (some ⟨g, 0, none⟩) l0.length cap := by
              rcases HG5.out.own.2 with ⟨hv, hn0⟩ | ⟨g, cap, cur, hv, -⟩
              · omega
              · exact ⟨g, cap, hv⟩
            obtain ⟨rfl, rfl⟩ : a3 = some ⟨g6, 0, none⟩ ∧ c3 = cg := by simpa using e6
            have ho6 := HG5.out.own
            have hg6 : W.heap.size ≤ g6 := (World.ownsRow.lt ho6 g6 rfl).1
            obtain ⟨t2, f2⟩ : ∃ x, W5.cell? ⟨g6, 2, none⟩ = some x := ⟨_, by rw [World.ownsRow.cellAt ho6 2 (by omega)]; exact List.getElem?_eq_getElem (by rw [cellsEd_len]; omega)⟩
            have fz2 := World.ownsRow.frozenAt ho6 2
            have HFI : Hid (OwnEd (W5.setCell ⟨g6, 2, none⟩ (.int .i64 r5)) W.heap.size (.slice (some ⟨g6, 0, none⟩) l0.length c3) (l0.set 0 { l0[0] with Cost := r5 })) := by
              have := ho6.set_Cost 0 hl0 r5
              exact (show OwnEd _ _ _ _ by simpa using this)
            have HCI : Hid (Cur B w0 (W5.setCell ⟨g6, 2, none⟩ (.int .i64 r5)) c a len cap (m + 904)) := HG5.out.cur.other (by omega) _
            have HNI : Hid (Only c W (W5.setCell ⟨g6, 2, none⟩ (.int .i64 r5))) := by
              have h1 := HG5.out.only
              refine ⟨by have := h1.1; simpa [World.setCell] using this, fun k hk hne => ?_⟩
              rw [Below.heap_setCell _ _ _ _ (by show k ≠ g6; omega)]
              exact h1.2 k hk hne
            have HFT : Hid (l0.length ≤ 40) := HG5.out.fit
            clear ho6 HG5 e6
            go_wp2
            refine bodyPost_ret (results_tmp2 rfl _ _ _) rfl ?_
            exact ⟨_, _, l0.set 0 { l0[0] with Cost := r5 }, rfl, HFI.out, by rw [List.length_set]; exact HFT.out, by omega, HCI.out.mono (by omega), HNI.out⟩
        · have hl0' : decide (0 < (l0.length : Int)) = false := decide_eq_false (by omega)
          go_wp2
          refine bodyPost_ret (results_tmp2 rfl _ _ _) rfl ?_
          exact ⟨_, _, l0, rfl, HGE.out.own, HGE.out.fit, by omega, HGE.out.cur.mono (by omega), HGE.out.only⟩

end Go.Proofs.Ythlbmkefjjckaad

/-
  A slice of bytes that came in: what the walks are told of it, and 'numberOf'.
-/
namespace Go.Proofs.Ythlbmkefjjckaad
open Go.ChangeShapes Go.WideShapes Go.ChangeAt Go.RowKit

theorem cells5 : Try.prog.cellsOf 5 = 1 := by kernel_rfl
theorem bytes5 : Try.prog.bytesOf 5 = 1 := by kernel_rfl

theorem code_of {H : Type} {enc : TypeId × Value → H} {W : World} {a : Option Addr} {len cap : Nat} {d : DataW H} {p : List MemPlace} (h : DataW.Trod enc Try.prog W 0 (fun _ => true) true 22 (.slice a len cap) d p) :
    Code W.heap.size W a len ∧ (len = 0 ∨ ∃ elems spare, d = .slice elems spare ∧ elems.length = len) := by
  obtain ⟨fuel, hf⟩ := h
  rcases open_ints Try.underlying22 Try.underlying5 cells5 hf with ⟨hcs, _⟩ | ⟨x, l, c, zs, hcs, _, hl, hm, hz, hx, hcell, hwz⟩
  · simp [Value.cells] at hcs
    exact ⟨.inl hcs.2.1, .inl hcs.2.1⟩
  · simp [Value.cells] at hcs
    obtain ⟨rfl, rfl, rfl⟩ := hcs
    simp at hz
    simp only [Prod.mk.injEq] at hx
    refine ⟨?_, .inr ⟨_, _, hx.1, by simp [lits]; omega⟩⟩
    by_cases h0 : len = 0
    · exact .inl h0
    · obtain ⟨b, off, spot⟩ := x
      have hc := hcell 0 (by omega)
      have hspot : spot = none := by simpa [Addr.add] using World.cell?_spot hc
      subst hspot
      have hb : b < W.heap.size := by
        have := World.block_lt_of_cell? _ _ hc
        simpa [Addr.add] using this
      refine .inr ⟨b, off, rfl, hb, fun j hj => ?_⟩
      have hcj := hcell j (by omega)
      have hw : (Lit.int .u8 (zs.getD j 0)).wf = true := hwz _ (by rw [List.getD_eq_getElem?_getD, List.getElem?_eq_getElem (by omega)]; exact List.getElem_mem _)
      have hbd := bounds_u8 hw
      exact ⟨zs.getD j 0, hbd.1, hbd.2, by rw [← hcj, add_plain]⟩

theorem code_len {H : Type} {enc : TypeId × Value → H} {W : World} {a : Option Addr} {len cap : Nat} {d : DataW H} {p : List MemPlace} (h : DataW.Trod enc Try.prog W 0 (fun _ => true) true 22 (.slice a len cap) d p) : len ≤ 9223372036854775807 := by
  obtain ⟨fuel, hf⟩ := h
  rcases open_ints Try.underlying22 Try.underlying5 cells5 hf with ⟨hcs, _⟩ | ⟨x, l, c, zs, hcs, _, hl, hm, hz, hx, hcell, hwz⟩
  · simp [Value.cells] at hcs
    omega
  · simp [Value.cells] at hcs
    obtain ⟨rfl, rfl, rfl⟩ := hcs
    unfold maxLen at hm
    omega

end Go.Proofs.Ythlbmkefjjckaad

/-
  Lists compared in the laws of chapter 8; edges drawn: alone, with a number.
-/
namespace Go.Proofs.Ythlbmkefjjckaad
open Go.RowKit
set_option linter.unusedVariables false

set_option maxRecDepth 100000 in
set_option maxHeartbeats 2000000 in
theorem sameInts_same (W : World) (v1 v2 : Value) (zs : List Int) (h1 : Reads W v1 zs) (h2 : Reads W v2 zs) (hl : zs.length ≤ 4194304) :
    Calls Try.prog 8 #[v1, v2] W fun e W' => e = .returned (.bool true) ∧ Below W.heap.size W W' := by
  obtain ⟨a1, cap1, rfl, hc1⟩ := h1
  obtain ⟨a2, cap2, rfl, hc2⟩ := h2
  by_cases hz : zs = []
  · subst hz
    simp only [List.length_nil]
    clear hc1 hc2
    go_enter Try.func8, Try.ntmps8
    go_wp2
    refine wp_loop_rounds 1 ?_
    rw [rounds_succ]
    go_wp2
    go_ret
    exact ⟨rfl, Below.refl _ _⟩
  · obtain ⟨g1, o1, rfl, -, hc1⟩ := hc1.resolve_left hz
    obtain ⟨g2, o2, rfl, -, hc2⟩ := hc2.resolve_left hz
    have HC1 : Hid (∀ j (hj : j < zs.length), W.cell? ⟨g1, o1 + j, none⟩ = some (.int .i64 zs[j])) := hc1
    have HC2 : Hid (∀ j (hj : j < zs.length), W.cell? ⟨g2, o2 + j, none⟩ = some (.int .i64 zs[j])) := hc2
    clear hc1 hc2 hz
    go_enter Try.func8, Try.ntmps8
    go_wp2
    go_loopw [13] (fun i wr => ∃ k : Nat, k ≤ zs.length ∧ i = .int .i64 k ∧ ∃ n, wr = W.drewN n) (fun i _ => zs.length - (intOf i).toNat)
    case atStart => exact ⟨0, Nat.zero_le _, rfl, 0, rfl⟩
    case round =>
      obtain ⟨k, hk, rfl, n, rfl⟩ := hrel
      by_cases hlt : k < zs.length
      · have c1 : W.cell? ⟨g1, o1 + k, none⟩ = some (.int .i64 zs[k]) := HC1.out k hlt
        have c2 : W.cell? ⟨g2, o2 + k, none⟩ = some (.int .i64 zs[k]) := HC2.out k hlt
        generalize zs[k] = z at c1 c2
        have hlt' : (k : Int) < (zs.length : Int) := by omega
        go_wp2
        go_quiet (fail)
        go_wp2
        go_roundw
        case rel => exact ⟨k + 1, by omega, by go_num, _, rfl⟩
        case measure => simp [intOf]; omega
      · have hlt' : ¬ (k : Int) < (zs.length : Int) := by omega
        go_wp2
        go_ret
        exact ⟨rfl, below_drewN (Below.refl _ _) _⟩

set_option maxRecDepth 100000 in
set_option maxHeartbeats 2000000 in
theorem sameEds_same (W : World) (v1 v2 : Value) (hs : List EdD) (h1 : ReadsEd W v1 hs) (h2 : ReadsEd W v2 hs) (hl : hs.length ≤ 4194304) :
    Calls Try.prog 27 #[v1, v2] W fun e W' => e = .returned (.bool true) ∧ Below W.heap.size W W' := by
  obtain ⟨a1, cap1, rfl, hc1⟩ := h1
  obtain ⟨a2, cap2, rfl, hc2⟩ := h2
  by_cases hz : hs = []
  · subst hz
    simp only [List.length_nil]
    clear hc1 hc2
    go_enter Try.func27, Try.ntmps27
    go_wp2
    refine wp_loop_rounds 1 ?_
    rw [rounds_succ]
    go_wp2
    go_ret
    exact ⟨rfl, Below.refl _ _⟩
  · obtain ⟨g1, o1, rfl, -, hc1⟩ := hc1.resolve_left hz
    obtain ⟨g2, o2, rfl, -, hc2⟩ := hc2.resolve_left hz
    have HC1 : Hid (∀ j (hj : j < hs.length), EdAt W g1 (o1 + j * 3) hs[j]) := hc1
    have HC2 : Hid (∀ j (hj : j < hs.length), EdAt W g2 (o2 + j * 3) hs[j]) := hc2
    clear hc1 hc2 hz
    go_enter Try.func27, Try.ntmps27
    go_wp2
    go_loopw [13] (fun i wr => ∃ k : Nat, k ≤ hs.length ∧ i = .int .i64 k ∧ ∃ n, wr = W.drewN n) (fun i _ => hs.length - (intOf i).toNat)
    case atStart => exact ⟨0, Nat.zero_le _, rfl, 0, rfl⟩
    case round =>
      obtain ⟨k, hk, rfl, n, rfl⟩ := hrel
      by_cases hlt : k < hs.length
      · obtain ⟨q0, q1, q2⟩ := HC1.out k hlt
        obtain ⟨r0, r1, r2⟩ := HC2.out k hlt
        generalize hs[k] = x at *
        have hlt' : (k : Int) < (hs.length : Int) := by omega
        go_wp2
        go_quiet (fail)
        go_wp2
        go_roundw
        case rel => exact ⟨k + 1, by omega, by go_num, _, rfl⟩
        case measure => simp [intOf]; omega
      · have hlt' : ¬ (k : Int) < (hs.length : Int) := by omega
        go_wp2
        go_ret
        exact ⟨rfl, below_drewN (Below.refl _ _) _⟩

def DrawnE (B : Nat) (w0 W : World) (e : Ending) (W' : World) : Prop := ∃ (n : Nat) (v : Value) (l : List EdD), e = .returned (.tuple #[.int .i64 (n : Int), v]) ∧ OwnEd W' W.heap.size v l ∧ l.length ≤ 40 ∧ n ≤ 13 ∧ Since B w0 W'
def DrawnEi (B : Nat) (w0 W : World) (e : Ending) (W' : World) : Prop := ∃ (n : Nat) (v : Value) (l : List EdD) (r : Int), e = .returned (.tuple #[.int .i64 (n : Int), v, .int .i64 r]) ∧ OwnEd W' W.heap.size v l ∧ l.length ≤ 40 ∧ n ≤ 13 ∧ Since B w0 W'

set_option maxRecDepth 100000 in
set_option maxHeartbeats 2000000 in
theorem drawGood_any (B : Nat) (w0 W : World) (a : Option Addr) (len cap : Nat) (hC : Code B w0 a len) (hl : len ≤ 9223372036854775807) (h : Since B w0 W) :
    Calls Try.prog 58 #[.slice a len cap] W (DrawnE B w0 W) := by
  have HC : Hid (Code B w0 a len) := hC
  have HU : Hid (Cur B w0 (W.alloc (.cells #[.slice a len cap, .int .i64 0, .int .u64 0] 78)) W.heap.size a len cap 0) := cur_new a len cap 78 h
  clear hC h
  go_enter Try.func58, Try.ntmps58
  go_wp2_with fail
  refine (edges_any B w0 _ _ a len cap 0 HC.out hl (by omega) HU.out).mono ?_
  rintro e W1 ⟨n, v, l, rfl, ho1, hl1, hn1, hc1, hx1⟩
  have HP : Hid (DrawnE B w0 W (.returned (.tuple #[.int .i64 (n : Int), v])) W1) := ⟨n, v, l, rfl, ho1.mono (by simp), hl1, hn1, hc1.2.2.1⟩
  clear ho1 hc1 hx1 HU
  go_wp2
  refine bodyPost_ret (results_tmp2 rfl _ _ _) rfl ?_
  exact HP.out

set_option maxRecDepth 100000 in
set_option maxHeartbeats 2000000 in
theorem drawNear_any (B : Nat) (w0 W : World) (a : Option Addr) (len cap : Nat) (hC : Code B w0 a len) (hl : len ≤ 9223372036854775807) (h : Since B w0 W) :
    Calls Try.prog 36 #[.slice a len cap] W (DrawnEi B w0 W) := by
  have HC : Hid (Code B w0 a len) := hC
  have HU : Hid (Cur B w0 (W.alloc (.cells #[.slice a len cap, .int .i64 0, .int .u64 0] 78)) W.heap.size a len cap 0) := cur_new a len cap 78 h
  clear hC h
  go_enter Try.func36, Try.ntmps36
  go_wp2_with fail
  refine (edges_any B w0 _ _ a len cap 0 HC.out hl (by omega) HU.out).mono ?_
  rintro e W1 ⟨n, v, l, rfl, ho1, hl1, hn1, hc1, hx1⟩
  obtain ⟨a1, c1, rfl⟩ := ho1.shape
  have O1 : Hid (OwnEd W1 (W.heap.size + 1) (.slice a1 l.length c1) l) := by show OwnEd _ _ _ _; have := ho1; simp at this; exact this
  have C1 : Hid (Cur B w0 W1 W.heap.size a len cap 1000) := hc1.mono (by omega)
  clear ho1 hc1 hx1 HU
  obtain ⟨kk, hkk, hk1, hk2⟩ : ∃ kk : Int, IntKind.i64.wrap ((n : Int) + 2) = kk ∧ 2 ≤ kk ∧ kk ≤ 50 := ⟨(n : Int) + 2, by rw [IntKind.wrap_i64]; omega, by omega, by omega⟩
  go_wp2_with fail
  refine (pick_any B w0 _ W.heap.size a len cap 1000 kk HC.out hl (by omega) C1.out (by omega) (by omega)).mono ?_
  rintro e W2 ⟨r, rfl, r0, r1, hc2, ho2⟩
  obtain ⟨rr, hrr⟩ : ∃ rr : Int, IntKind.i64.wrap (r - 1) = rr := ⟨_, rfl⟩
  have HP : Hid (DrawnEi B w0 W (.returned (.tuple #[.int .i64 (n : Int), .slice a1 l.length c1, .int .i64 rr])) W2) := ⟨n, _, l, rr, rfl, rowMono (rowOnly O1.out ho2 (by omega)) (Nat.le_succ _), hl1, hn1, hc2.2.2.1⟩
  clear hc2 ho2 C1 O1
  go_wp2
  refine bodyPost_ret (results_tmp3 rfl _ _ _) rfl ?_
  exact HP.out

end Go.Proofs.Ythlbmkefjjckaad
