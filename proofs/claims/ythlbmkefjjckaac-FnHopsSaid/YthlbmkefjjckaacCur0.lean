/-
  The cursor that draws: what its methods 'next', 'pick', 'one' and 'among' answer, and what they leave of the world: they write into the cursor's own block alone.
-/
import Derived.Test.YthlbmkefjjckaacRows
import Derived.Test.YthlbmkefjjckaacSince0
import Derived.Laws.MakeOwn
import Derived.RegionTactic
import Derived.BigRegion
import Derived.BigQuiet
import Derived.Deep.QuietTactic
import Derived.WalkSmall
namespace Go.Proofs.Ythlbmkefjjckaac
open Go.RowKit

/-- A slice of bytes in old memory (below block B): empty, or bytes that lie there. -/
def Code (B : Nat) (w0 : World) (a : Option Addr) (len : Nat) : Prop :=
  len = 0 ∨ ∃ b off, a = some ⟨b, off, none⟩ ∧ b < B ∧ ∀ j, j < len → ∃ z : Int, 0 ≤ z ∧ z ≤ 255 ∧ w0.cell? ⟨b, off + j, none⟩ = some (.int .u8 z)

/-- Of the blocks that were there none but c has turned. -/
def Only (c : Nat) (w w' : World) : Prop := w.heap.size ≤ w'.heap.size ∧ ∀ k, k < w.heap.size → k ≠ c → w'.heap[k]? = w.heap[k]?
theorem Only.refl (c : Nat) (w : World) : Only c w w := ⟨Nat.le_refl _, fun _ _ _ => rfl⟩
theorem Only.trans {c : Nat} {w w1 w2 : World} (h : Only c w w1) (k : Only c w1 w2) : Only c w w2 :=
  ⟨Nat.le_trans h.1 k.1, fun i hi hc => (k.2 i (Nat.lt_of_lt_of_le hi h.1) hc).trans (h.2 i hi hc)⟩

/-- The cursor at block c: it holds the code, has drawn at most m times, and old memory is as it was. -/
def Cur (B : Nat) (w0 W : World) (c : Nat) (a : Option Addr) (len cap m : Nat) : Prop :=
  B ≤ c ∧ c < W.heap.size ∧ Since B w0 W ∧ W.cell? ⟨c, 0, none⟩ = some (.slice a len cap) ∧ (∃ n : Nat, n ≤ m ∧ W.cell? ⟨c, 1, none⟩ = some (.int .i64 n)) ∧ (∃ sd : Int, W.cell? ⟨c, 2, none⟩ = some (.int .u64 sd)) ∧
    W.frozen? ⟨c, 1, none⟩ = false ∧ W.frozen? ⟨c, 2, none⟩ = false

theorem seed_byte (X : Int) : 0 ≤ wrap64 (bits .and .u64 (IntKind.u64.wrap X / 1099511627776) 255) ∧ wrap64 (bits .and .u64 (IntKind.u64.wrap X / 1099511627776) 255) ≤ 255 := by
  have hx : 0 ≤ IntKind.u64.wrap X ∧ IntKind.u64.wrap X ≤ 18446744073709551615 := by rw [IntKind.wrap_u64]; omega
  generalize IntKind.u64.wrap X = Y at hx
  have h0 : 0 ≤ Y / 1099511627776 := by omega
  have h1 : Y / 1099511627776 ≤ 18446744073709551615 := by omega
  generalize Y / 1099511627776 = E at h0 h1
  have h := bits_and_u64_nat E.toNat 255 (by omega) (by omega)
  rw [Int.toNat_of_nonneg h0] at h
  have hle : E.toNat &&& 255 ≤ 255 := Nat.and_le_right
  rw [show ((255 : Nat) : Int) = 255 from rfl] at h
  rw [h]
  rw [IntWalk.wrap64_in _ ⟨by omega, by omega⟩]
  omega

theorem cur_step {B : Nat} {w0 W : World} {c : Nat} {a : Option Addr} {len cap m n : Nat} {sd : Int} (p q : Nat) (X : Int) (hB : B ≤ c) (hc : c < W.heap.size) (hS : Since B w0 W) (h0 : W.cell? ⟨c, 0, none⟩ = some (.slice a len cap)) (hn : n ≤ m)
    (h1 : W.cell? ⟨c, 1, none⟩ = some (.int .i64 n)) (h2 : W.cell? ⟨c, 2, none⟩ = some (.int .u64 sd)) (f1 : W.frozen? ⟨c, 1, none⟩ = false) (f2 : W.frozen? ⟨c, 2, none⟩ = false) :
    Cur B w0 ((((W.drewN p).setCell ⟨c, 1, none⟩ (.int .i64 ((n : Int) + 1))).setCell ⟨c, 2, none⟩ (.int .u64 X)).drewN q) c a len cap (m + 1) ∧
    Only c W ((((W.drewN p).setCell ⟨c, 1, none⟩ (.int .i64 ((n : Int) + 1))).setCell ⟨c, 2, none⟩ (.int .u64 X)).drewN q) := by
  have e0 : ((W.setCell ⟨c, 1, none⟩ (.int .i64 ((n : Int) + 1))).setCell ⟨c, 2, none⟩ (.int .u64 X)).cell? ⟨c, 0, none⟩ = some (.slice a len cap) := by
    rw [World.cell?_setCell_other _ _ _ _ (by simp), World.cell?_setCell_other _ _ _ _ (by simp)]; exact h0
  have e1 : ((W.setCell ⟨c, 1, none⟩ (.int .i64 ((n : Int) + 1))).setCell ⟨c, 2, none⟩ (.int .u64 X)).cell? ⟨c, 1, none⟩ = some (.int .i64 ((n + 1 : Nat) : Int)) := by
    rw [World.cell?_setCell_other _ _ _ _ (by simp), World.cell?_setCell_same _ _ _ h1]; simp
  have e2 : ((W.setCell ⟨c, 1, none⟩ (.int .i64 ((n : Int) + 1))).setCell ⟨c, 2, none⟩ (.int .u64 X)).cell? ⟨c, 2, none⟩ = some (.int .u64 X) := by
    have : (W.setCell ⟨c, 1, none⟩ (.int .i64 ((n : Int) + 1))).cell? ⟨c, 2, none⟩ = some (.int .u64 sd) := by rw [World.cell?_setCell_other _ _ _ _ (by simp)]; exact h2
    rw [World.cell?_setCell_same _ _ _ this]
  have g1 : ((W.setCell ⟨c, 1, none⟩ (.int .i64 ((n : Int) + 1))).setCell ⟨c, 2, none⟩ (.int .u64 X)).frozen? ⟨c, 1, none⟩ = false := by
    rw [World.frozen?_setCell, World.frozen?_setCell]; exact f1
  have g2 : ((W.setCell ⟨c, 1, none⟩ (.int .i64 ((n : Int) + 1))).setCell ⟨c, 2, none⟩ (.int .u64 X)).frozen? ⟨c, 2, none⟩ = false := by
    rw [World.frozen?_setCell, World.frozen?_setCell]; exact f2
  have hb : Below B w0 ((W.setCell ⟨c, 1, none⟩ (.int .i64 ((n : Int) + 1))).setCell ⟨c, 2, none⟩ (.int .u64 X)) := (hS.1.setCell hB _).setCell hB _
  have hz : ((W.setCell ⟨c, 1, none⟩ (.int .i64 ((n : Int) + 1))).setCell ⟨c, 2, none⟩ (.int .u64 X)).heap.size = W.heap.size := by simp [World.setCell]
  have ho : ∀ k, k ≠ c → ((W.setCell ⟨c, 1, none⟩ (.int .i64 ((n : Int) + 1))).setCell ⟨c, 2, none⟩ (.int .u64 X)).heap[k]? = W.heap[k]? := fun k hk => by
    rw [Below.heap_setCell _ _ _ _ hk, Below.heap_setCell _ _ _ _ hk]
  refine ⟨⟨hB, by rw [← hz] at hc; exact hc, ⟨⟨hb.os, hb.tape, hb.output, hb.size, hb.block⟩, by have := hS.2; rw [← hz] at this; exact this⟩, e0, ⟨n + 1, by omega, e1⟩, ⟨X, e2⟩, g1, g2⟩, ?_⟩
  exact ⟨Nat.le_of_eq hz.symm, fun k _ hk => ho k hk⟩

set_option maxHeartbeats 800000 in
theorem next_any (B : Nat) (w0 W : World) (c : Nat) (a : Option Addr) (len cap m : Nat) (hC : Code B w0 a len) (hl : len ≤ 9223372036854775807) (hm : m ≤ 1000000) (h : Cur B w0 W c a len cap m) :
    Calls Try.prog 125 #[.pointer (some ⟨c, 0, none⟩)] W fun e W' => ∃ r : Int, e = .returned (.int .i64 r) ∧ 0 ≤ r ∧ r ≤ 255 ∧ Cur B w0 W' c a len cap (m + 1) ∧ Only c W W' := by
  obtain ⟨hB, hc, hS, h0, ⟨n, hn, h1⟩, ⟨sd, h2⟩, f1, f2⟩ := h
  by_cases hlt : n < len
  · rcases hC with rfl | ⟨b, off, rfl, hb, hz⟩
    · omega
    · obtain ⟨z, z0, z1, hcell0⟩ := hz n hlt
      have hcell : W.cell? ⟨b, off + n, none⟩ = some (.int .u8 z) := (hS.1.cell (p := ⟨b, off + n, none⟩) hb).trans hcell0
      have hlt' : (n : Int) < (len : Int) := by omega
      clear hz hcell0
      go_enter Try.func125, Try.ntmps125
      go_wp2
      go_quiet (fail)
      go_wp2
      go_quiet (fail)
      go_wp2
      go_quiet (fail)
      go_wp2
      go_ret
      exact ⟨z, rfl, z0, z1, cur_step _ _ _ hB hc hS h0 hn h1 h2 f1 f2⟩
  · have hlt' : ¬ (n : Int) < (len : Int) := by omega
    have hd : decide ((n : Int) < (len : Int)) = false := by simp; omega
    go_enter Try.func125, Try.ntmps125
    go_wp2
    go_quiet (fail)
    go_wp2
    go_quiet (fail)
    go_wp2
    go_ret
    exact ⟨_, rfl, (seed_byte _).1, (seed_byte _).2, cur_step _ _ _ hB hc hS h0 hn h1 h2 f1 f2⟩

theorem Cur.mono {B : Nat} {w0 W : World} {c : Nat} {a : Option Addr} {len cap m m' : Nat} (h : Cur B w0 W c a len cap m) (hm : m ≤ m') : Cur B w0 W c a len cap m' := by
  obtain ⟨h1, h2, h3, h4, ⟨n, hn, h5⟩, h6⟩ := h
  exact ⟨h1, h2, h3, h4, ⟨n, by omega, h5⟩, h6⟩
theorem Only.lt {c : Nat} {w w' : World} (h : Only c w w') {b : Nat} (hb : b < w.heap.size) : b < w'.heap.size := Nat.lt_of_lt_of_le hb h.1

set_option maxHeartbeats 800000 in
theorem pick_any (B : Nat) (w0 W : World) (c : Nat) (a : Option Addr) (len cap m : Nat) (n : Int) (hC : Code B w0 a len) (hl : len ≤ 9223372036854775807) (hm : m ≤ 900000) (h : Cur B w0 W c a len cap m) (n1 : 1 ≤ n) (n2 : n ≤ 1000000) :
    Calls Try.prog 88 #[.pointer (some ⟨c, 0, none⟩), .int .i64 n] W fun e W' => ∃ r : Int, e = .returned (.int .i64 r) ∧ 0 ≤ r ∧ r < n ∧ Cur B w0 W' c a len cap (m + 2) ∧ Only c W W' := by
  by_cases h1 : n ≤ 1
  · have HC : Hid (Cur B w0 W c a len cap m) := h
    clear hC h
    go_enter Try.func88, Try.ntmps88
    go_wp2
    go_ret
    exact ⟨0, rfl, by omega, by omega, HC.out.mono (by omega), Only.refl _ _⟩
  · have HD : Hid (Code B w0 a len) := hC
    by_cases h2 : 200 < n
    · go_enter Try.func88, Try.ntmps88
      go_wp2_with fail
      refine (next_any B w0 _ c a len cap m HD.out hl (by omega) h).mono ?_
      rintro e W1 ⟨r, rfl, r0, r1, hc1, ho1⟩
      go_wp2_with fail
      refine (next_any B w0 _ c a len cap (m + 1) HD.out hl (by omega) hc1).mono ?_
      rintro e W2 ⟨q, rfl, q0, q1, hc2, ho2⟩
      go_wp2
      go_ret
      exact ⟨_, rfl, Int.emod_nonneg _ (by omega), Int.emod_lt_of_pos _ (by omega), hc2, ho1.trans ho2⟩
    · go_enter Try.func88, Try.ntmps88
      go_wp2_with fail
      refine (next_any B w0 _ c a len cap m HD.out hl (by omega) h).mono ?_
      rintro e W1 ⟨r, rfl, r0, r1, hc1, ho1⟩
      go_wp2
      go_ret
      exact ⟨_, rfl, Int.emod_nonneg _ (by omega), Int.emod_lt_of_pos _ (by omega), hc1.mono (by omega), ho1⟩

/-- 'one': whichever way it falls. -/
theorem one_any (B : Nat) (w0 W : World) (c : Nat) (a : Option Addr) (len cap m : Nat) (n : Int) (hC : Code B w0 a len) (hl : len ≤ 9223372036854775807) (hm : m ≤ 900000) (h : Cur B w0 W c a len cap m) (n1 : 1 ≤ n) (n2 : n ≤ 1000000) :
    Calls Try.prog 87 #[.pointer (some ⟨c, 0, none⟩), .int .i64 n] W fun e W' => ∃ r : Bool, e = .returned (.bool r) ∧ Cur B w0 W' c a len cap (m + 2) ∧ Only c W W' := by
  go_enter Try.func87, Try.ntmps87
  go_wp2_with fail
  refine (pick_any B w0 _ c a len cap m n hC hl hm h n1 n2).mono ?_
  rintro e W1 ⟨r, rfl, r0, r1, hc1, ho1⟩
  go_wp2
  go_ret
  exact ⟨_, rfl, hc1, ho1⟩

/-- 'among': one of the numbers of a row. -/
theorem among_any (B : Nat) (w0 W : World) (c b : Nat) (zs : List Int) (a : Option Addr) (len cap cap2 m : Nat) (hC : Code B w0 a len) (hl : len ≤ 9223372036854775807) (hm : m ≤ 900000) (h : Cur B w0 W c a len cap m)
    (hz : 1 ≤ zs.length) (hz2 : zs.length ≤ 200) (hb : b < W.heap.size) (hbc : b ≠ c) (hcell : ∀ j (hj : j < zs.length), W.cell? ⟨b, j, none⟩ = some (.int .i64 zs[j])) :
    Calls Try.prog 72 #[.pointer (some ⟨c, 0, none⟩), .slice (some ⟨b, 0, none⟩) zs.length cap2] W fun e W' => ∃ r : Int, e = .returned (.int .i64 r) ∧ r ∈ zs ∧ Cur B w0 W' c a len cap (m + 2) ∧ Only c W W' := by
  have HX : Hid (∀ j (hj : j < zs.length), W.cell? ⟨b, j, none⟩ = some (.int .i64 zs[j])) := hcell
  clear hcell
  go_enter Try.func72, Try.ntmps72
  go_wp2_with fail
  refine (pick_any B w0 _ c a len cap m zs.length hC hl hm h (by omega) (by omega)).mono ?_
  rintro e W1 ⟨r, rfl, r0, r1, hc1, ho1⟩
  obtain ⟨k, rfl⟩ : ∃ k : Nat, r = k := ⟨r.toNat, by omega⟩
  have hk : k < zs.length := by omega
  have hcell : W1.cell? ⟨b, k, none⟩ = some (.int .i64 zs[k]) := (World.cell?_of_block (w := W) (a := ⟨b, k, none⟩) (ho1.2 b hb hbc)).trans (HX.out k hk)
  go_wp2
  go_ret
  exact ⟨_, rfl, List.getElem_mem hk, hc1, ho1⟩

theorem below_only {w w' : World} (h : Below w.heap.size w w') (c : Nat) : Only c w w' := ⟨h.size, fun k hk _ => h.block k hk⟩
theorem Cur.below {B : Nat} {w0 W W1 : World} {c : Nat} {a : Option Addr} {len cap m : Nat} (h : Cur B w0 W c a len cap m) (hb : Below W.heap.size W W1) : Cur B w0 W1 c a len cap m := by
  obtain ⟨h1, h2, h3, h4, ⟨n, hn, h5⟩, ⟨sd, h6⟩, h7, h8⟩ := h
  exact ⟨h1, Nat.lt_of_lt_of_le h2 hb.size, h3.step hb, (hb.cell (p := ⟨c, 0, none⟩) h2).trans h4, ⟨n, hn, (hb.cell (p := ⟨c, 1, none⟩) h2).trans h5⟩, ⟨sd, (hb.cell (p := ⟨c, 2, none⟩) h2).trans h6⟩,
    (hb.frozen (p := ⟨c, 1, none⟩) h2).trans h7, (hb.frozen (p := ⟨c, 2, none⟩) h2).trans h8⟩

theorem Cur.drew {B : Nat} {w0 W : World} {c : Nat} {a : Option Addr} {len cap m : Nat} (h : Cur B w0 W c a len cap m) : Cur B w0 W.drew c a len cap m := ⟨h.1, h.2.1, h.2.2.1.drew, h.2.2.2⟩

/-- A store into another block of the call's own. -/
theorem Cur.other {B : Nat} {w0 W : World} {c : Nat} {a : Option Addr} {len cap m b o : Nat} (h : Cur B w0 W c a len cap m) (hcb : c < b) (v : Value) : Cur B w0 (W.setCell ⟨b, o, none⟩ v) c a len cap m := by
  obtain ⟨h1, h2, h3, h4, ⟨n, hn, h5⟩, ⟨sd, h6⟩, h7, h8⟩ := h
  have hz : (W.setCell ⟨b, o, none⟩ v).heap.size = W.heap.size := by simp [World.setCell]
  have ne : ∀ j, (⟨b, o, none⟩ : Addr) ≠ ⟨c, j, none⟩ := fun j e => by have := congrArg Addr.block e; simp at this; omega
  refine ⟨h1, by rw [hz]; exact h2, ⟨h3.1.setCell (by show _ ≤ b; omega) _, by rw [hz]; exact h3.2⟩, ?_, ⟨n, hn, ?_⟩, ⟨sd, ?_⟩, ?_, ?_⟩
  · rw [World.cell?_setCell_other _ _ _ _ (ne 0)]; exact h4
  · rw [World.cell?_setCell_other _ _ _ _ (ne 1)]; exact h5
  · rw [World.cell?_setCell_other _ _ _ _ (ne 2)]; exact h6
  · rw [World.frozen?_setCell]; exact h7
  · rw [World.frozen?_setCell]; exact h8
end Go.Proofs.Ythlbmkefjjckaac
