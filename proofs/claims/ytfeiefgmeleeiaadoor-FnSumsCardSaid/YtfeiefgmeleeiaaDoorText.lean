/-
  What the cursor's 'text' answers: some text of at most 201 bytes, and what it leaves of the world.
-/
import Derived.Test.YtfeiefgmeleeiaaDoorCur
import Derived.Laws.MakeOwn
import Derived.OwnWalk
namespace Go.Proofs.YtfeiefgmeleeiaaDoor
open Go.RowKit

theorem Below.only {w w' : World} (h : Below w.heap.size w w') (c : Nat) : Only c w w' := ⟨h.size, fun k hk _ => h.block k hk⟩
theorem Cur.below {B : Nat} {w0 W W1 : World} {c : Nat} {a : Option Addr} {len cap m : Nat} (h : Cur B w0 W c a len cap m) (hb : Below W.heap.size W W1) : Cur B w0 W1 c a len cap m := by
  obtain ⟨h1, h2, h3, h4, ⟨n, hn, h5⟩, ⟨sd, h6⟩, h7, h8⟩ := h
  exact ⟨h1, Nat.lt_of_lt_of_le h2 hb.size, h3.step hb, (hb.cell (p := ⟨c, 0, none⟩) h2).trans h4, ⟨n, hn, (hb.cell (p := ⟨c, 1, none⟩) h2).trans h5⟩, ⟨sd, (hb.cell (p := ⟨c, 2, none⟩) h2).trans h6⟩,
    (hb.frozen (p := ⟨c, 1, none⟩) h2).trans h7, (hb.frozen (p := ⟨c, 2, none⟩) h2).trans h8⟩

/-- A store into another block of the call's own. -/
theorem Cur.other {B : Nat} {w0 W : World} {c : Nat} {a : Option Addr} {len cap m b o : Nat} (h : Cur B w0 W c a len cap m) (hcb : c < b) (v : Value) : Cur B w0 (W.setCell ⟨b, o, none⟩ v) c a len cap m := by
  obtain ⟨h1, h2, h3, h4, ⟨n, hn, h5⟩, ⟨sd, h6⟩, h7, h8⟩ := h
  have hz : (W.setCell ⟨b, o, none⟩ v).heap.size = W.heap.size := by simp [World.setCell]
  have ne : ∀ j, (⟨b, o, none⟩ : Addr) ≠ ⟨c, j, none⟩ := fun j e => by have := congrArg Addr.block e; simp at this; omega
  refine ⟨h1, by rw [hz]; exact h2, ⟨h3.1.setCell (by show _ ≤ b; omega) _, by rw [hz]; exact h3.2⟩, ?_, ⟨n, hn, ?_⟩, ⟨sd, ?_⟩, ?_, ?_⟩
  · rw [World.cell?_setCell_other _ _ _ _ (ne 0)]; exact h4
  · rw [World.cell?_setCell_other _ _ _ _ (ne 1)]; exact h5
  · rw [World.cell?_setCell_other _ _ _ _ (ne 2)]; exact h6
  · rw [World.frozen?_setCell]; exact h7
  · rw [World.frozen?_setCell]; exact h8

theorem info5 : (Tryd.prog.info? 5).map (fun i => (i.zero, i.size, i.bytes)) = some (some (.int .u8 0), 1, 1) := by kernel_rfl

/-- 'make([]byte, n)': a new row of zeros. -/
theorem make_row (k : Nat) (hk : k ≤ 1000) (w : World) : ∃ W1 : World,
    (Instr.makeSlice 22 (.int .i64 (k : Int)) (.int .i64 (k : Int))).run Tryd.prog w = .ok (.slice (some ⟨w.heap.size, 0, none⟩) k k) W1 ∧
    Below w.heap.size w W1 ∧ W1.heap.size = w.heap.size + 1 ∧ Row W1 w.heap.size (List.replicate k 0) := by
  obtain ⟨i0, hi, hz0, hz1, hz2⟩ := info_parts info5
  have hr := run_make (P := Tryd.prog) w 22 5 i0 (.int .u8 0) Tryd.underlying22 hi hz0 .i64 .i64 (k : Int) (k : Int) (by omega) (by omega) (by rw [hz2]; omega) (by omega)
  simp only [Int.toNat_natCast, hz1, Nat.mul_one] at hr
  refine ⟨_, hr, (Below.refl _ _).alloc (Nat.le_refl _) _, by simp, ?_, ?_⟩
  · intro j hj
    have hj' : j < k := by simpa using hj
    rw [World.cell?_alloc_at _ _ _ _ rfl]
    simp [madeCells, Value.cells, hj', Nat.mod_one]
  · intro j hj
    have : (w.alloc (.cells (madeCells (Value.int .u8 0).cells k) 5)).heap[w.heap.size]? = some (.cells (madeCells (Value.int .u8 0).cells k) 5) := by
      show (w.heap.push _)[w.heap.size]? = _
      simp
    unfold World.frozen?
    rw [this]
    simp

theorem three_cells (w : World) : ∀ j (hj : j < [(199 : Int), 200, 201].length), (w.alloc (.cells #[.int .i64 199, .int .i64 200, .int .i64 201] 3)).cell? ⟨w.heap.size, j, none⟩ = some (.int .i64 [(199 : Int), 200, 201][j]) := by
  intro j hj
  rw [World.cell?_alloc_at _ _ _ _ rfl]
  match j, hj with
  | 0, _ | 1, _ | 2, _ => rfl

set_option maxHeartbeats 1000000 in
theorem text_any (B : Nat) (w0 W : World) (c : Nat) (a : Option Addr) (len cap m : Nat) (hC : Code B w0 a len) (hl : len ≤ 1048576) (hm : m ≤ 1000) (h : Cur B w0 W c a len cap m) :
    Calls Tryd.prog 27 #[.pointer (some ⟨c, 0, none⟩)] W fun e W' => ∃ s : ByteArray, e = .returned (.string s) ∧ s.size ≤ 201 ∧ Cur B w0 W' c a len cap (m + 40) := by
  have HD : Hid (Code B w0 a len) := hC
  clear hC
  go_enter Tryd.func27, Tryd.ntmps27
  go_wp2_with fail
  refine (one_any B w0 _ c a len cap m 20 HD.out hl (by omega) h (by omega) (by omega)).mono ?_
  rintro e W1 ⟨r, rfl, hc1, ho1⟩
  clear h
  cases r
  · go_wp2_with fail
    refine (pick_any B w0 _ c a len cap _ 14 HD.out hl (by omega) hc1 (by omega) (by omega)).mono ?_
    rintro e W2 ⟨q, rfl, q0, q1, hc2, ho2⟩
    obtain ⟨n, rfl⟩ : ∃ n : Nat, q = n := ⟨q.toNat, by omega⟩
    obtain ⟨W3, hmake, hb3, hz3, hr3⟩ := make_row n (by omega) W2
    have hc3 := hc2.below hb3
    have hcb : c < W2.heap.size := hc2.2.1
    clear hb3 hc2 ho2 hc1 ho1
    go_wp2
    go_loopw [17] (fun i wr => ∃ k : Nat, k ≤ n ∧ i = .int .i64 k ∧ Cur B w0 wr c a len cap (m + 4 + 2 * k) ∧ W2.heap.size < wr.heap.size ∧ ∃ l : List UInt8, l.length = n ∧ Row wr W2.heap.size l) (fun i _ => n - (intOf i).toNat)
    case atStart => exact ⟨0, Nat.zero_le _, rfl, hc3.mono (by omega), by omega, _, List.length_replicate, hr3⟩
    case round =>
      obtain ⟨k, hk, rfl, hck, hsz, l, hll, hrow⟩ := hrel
      clear hc3 hr3 hmake hz3
      by_cases hlt : k < n
      · have HR : Hid (Row wr W2.heap.size l) := hrow
        clear hrow
        go_wp2_with fail
        refine (pick_any B w0 _ c a len cap _ 256 HD.out hl (by omega) hck (by omega) (by omega)).mono ?_
        rintro e W4 ⟨x, rfl, x0, x1, hc4, ho4⟩
        have hrow4 := HR.out.only ho4 hsz (by omega)
        obtain ⟨c0, hc0⟩ : ∃ c0, W4.cell? ⟨W2.heap.size, k, none⟩ = some c0 := ⟨_, hrow4.1 k (by omega)⟩
        have hf0 := hrow4.2 k (by omega)
        have HR4 : Hid (Row (W4.setCell ⟨W2.heap.size, k, none⟩ (.int .u8 x)) W2.heap.size (l.set k (UInt8.ofNat x.toNat))) := hrow4.set k (by omega) x x0 (by omega)
        have HC4 : Hid (Cur B w0 (W4.setCell ⟨W2.heap.size, k, none⟩ (.int .u8 x)) c a len cap (m + 4 + 2 * k + 2)) := hc4.other hcb _
        have HZ4 : Hid (W2.heap.size < (W4.setCell ⟨W2.heap.size, k, none⟩ (.int .u8 x)).heap.size) := by show _ < _; have := ho4.lt hsz; simpa [World.setCell] using this
        clear hrow4 hc4 ho4 hck
        go_wp2
        go_roundw
        case rel => exact ⟨k + 1, by omega, by go_num, HC4.out.mono (by omega), HZ4.out, _, by simpa using hll, HR4.out⟩
        case measure => simp [intOf]; omega
      · have hback := hrow.back n n hll
        have HC : Hid (Cur B w0 wr c a len cap (m + 40)) := hck.mono (by omega)
        have HL : Hid (l.length ≤ 201) := by show _ ≤ _; omega
        clear hrow hck hll
        go_wp2
        go_ret
        exact ⟨_, rfl, by simpa [ByteArray.size] using HL.out, HC.out⟩
  · have hc2 := hc1.below ((Below.refl W1.heap.size W1).alloc (Nat.le_refl _) (.cells #[.int .i64 199, .int .i64 200, .int .i64 201] 3))
    have hcb : c < W1.heap.size := hc1.2.1
    clear hc1 ho1
    go_wp2_with fail
    refine (among_any B w0 _ c W1.heap.size [199, 200, 201] a len cap _ _ HD.out hl (by omega) hc2 (by simp) (by simp) (by simp) (by omega) (three_cells W1)).mono ?_
    rintro e W2 ⟨q, rfl, hq, hc3, ho3⟩
    have hq' : 199 ≤ q ∧ q ≤ 201 := by simp at hq; omega
    clear hq
    obtain ⟨n, rfl⟩ : ∃ n : Nat, q = n := ⟨q.toNat, by omega⟩
    obtain ⟨W3, hmake, hb3, hz3, hr3⟩ := make_row n (by omega) W2
    have hback := hr3.back n n (by simp)
    have HC : Hid (Cur B w0 W3 c a len cap (m + 40)) := (hc3.below hb3).mono (by omega)
    have HL : Hid (n ≤ 201) := by show _ ≤ _; omega
    clear hr3 hb3 hc3 ho3 hc2
    go_wp2
    go_ret
    exact ⟨_, rfl, by simpa [ByteArray.size] using HL.out, HC.out⟩
end Go.Proofs.YtfeiefgmeleeiaaDoor
