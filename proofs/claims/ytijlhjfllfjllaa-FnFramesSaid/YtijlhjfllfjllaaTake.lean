/-
  What 'TakeNums' answers.
-/
import Derived.Test.YtijlhjfllfjllaaByteAt
import Derived.Test.YtijlhjfllfjllaaInts
import Derived.Deep.RegionLaw
namespace Go.Proofs.Ytijlhjfllfjllaa
open Go.RowKit

/-- A text's numbers, two bytes each, the first k of them. -/
def numZ (s : ByteArray) (m : Nat) : Int := byteAt s m * 256 + byteAt s (m + 1)
def numsTo (s : ByteArray) (k : Nat) : List Int := (List.range k).map fun j => numZ s (2 * j)
theorem numsTo_len (s : ByteArray) (k : Nat) : (numsTo s k).length = k := by simp [numsTo]
theorem numsTo_next (s : ByteArray) (m : Nat) (h : m % 2 = 0) : numsTo s ((m + 2) / 2) = numsTo s (m / 2) ++ [numZ s m] := by
  have e : (m + 2) / 2 = m / 2 + 1 := by omega
  have e2 : 2 * (m / 2) = m := by omega
  rw [e]
  simp only [numsTo, List.range_succ, List.map_append, List.map_cons, List.map_nil, e2]
theorem numZ_bd (s : ByteArray) (m : Nat) : 0 ≤ numZ s m ∧ numZ s m ≤ 65535 := by
  have := byteAt_bd s m; have := byteAt_bd s (m + 1); unfold numZ; omega

theorem ret_int' {k : IntKind} {a b : Int} (h : a = b) : Value.int k a = .int k b := by rw [h]

set_option maxRecDepth 100000 in
set_option maxHeartbeats 1000000 in
theorem l2Take_any (s : ByteArray) (W : World) (hs : s.size ≤ 1048576) :
    Calls Try.prog 79 #[.string s] W fun e W' => ∃ v, e = .returned v ∧ Own W' W.heap.size v (numsTo s (s.size / 2)) ∧ Below W.heap.size W W' := by
  obtain ⟨H, hH⟩ : ∃ H, H = W.heap.size := ⟨_, rfl⟩
  have HS0 : Hid (Since H W W) := by rw [hH]; exact Since.start W
  rw [← hH]
  clear hH
  go_enter Try.func79, Try.ntmps79
  go_wp2
  go_loopw [3, 4] (fun v i wr => ∃ m : Nat, m ≤ s.size ∧ m % 2 = 0 ∧ i = .int .i64 m ∧ Own wr H v (numsTo s (m / 2)) ∧ Since H W wr) (fun _ i _ => s.size - (intOf i).toNat)
  case atStart => exact ⟨0, by omega, rfl, rfl, Own.nil _ _, HS0.out⟩
  case round =>
    obtain ⟨m, hk, heven, rfl, hown, hSr⟩ := hrel
    by_cases hlt : m + 1 < s.size
    · have b0 := byteAt_bd s m
      have b1 := byteAt_bd s (m + 1)
      have hm0 : m < s.size := by clear heven hown hSr; omega
      have e0 := byteAt_eq s m hm0
      have e1 := byteAt_eq s (m + 1) hlt
      have q1 : (m : Int) < (s.size : Int) := by omega
      have q2 : (m : Int) + 1 < (s.size : Int) := by omega
      have q3 : (0 : Int) ≤ (m : Int) + 1 := by omega
      have hwr : IntKind.i64.wrap ((m : Int) + 1) = (m : Int) + 1 := by rw [IntKind.wrap_i64]; omega
      have hwb : ∀ j, IntKind.i64.wrap (byteAt s j) = byteAt s j := fun j => by have := byteAt_bd s j; rw [IntKind.wrap_i64]; omega
      have hw1 : IntKind.i64.wrap (byteAt s m * 256) = byteAt s m * 256 := by rw [IntKind.wrap_i64]; omega
      have hw2 : IntKind.i64.wrap (byteAt s m * 256 + byteAt s (m + 1)) = numZ s m := by rw [IntKind.wrap_i64]; unfold numZ; omega
      have HO : Hid (Own wr H u3 (numsTo s (m / 2))) := hown
      have HN : Hid (numsTo s ((m + 2) / 2) = numsTo s (m / 2) ++ [numZ s m]) := numsTo_next s m heven
      have HE : Hid (m % 2 = 0) := heven
      have HSr : Hid (Since H W wr) := hSr
      have HZ : Hid (H ≤ ((wr.alloc (.cells #[.int .i64 (numZ s m)] 3)).drew).heap.size) := by have := hSr.2; show _ ≤ _; simp; omega
      have HL : Hid ((numsTo s (m / 2)).length ≤ 1048576) := by show _ ≤ _; rw [numsTo_len]; omega
      have HC : Hid ((wr.alloc (.cells #[.int .i64 (numZ s m)] 3)).drew.cell? ⟨wr.heap.size, 0, none⟩ = some (.int .i64 (numZ s m))) := new_cell wr _ 3
      clear hown hSr heven
      go_wp2
      go_region_law ((refine step_put (by rfl) (.tmp 12) (.tmp 24) (by rfl) H u3 (numsTo s (m / 2)) (numZ s m) (by rfl) ((HO.out.alloc _).drew) wr.heap.size 1 (by rfl) HC.out HL.out HZ.out ?_; intro v' w1 hown1 hb1 hz1))
      all_goals
        have HO1 : Hid (Own w1 H v' (numsTo s ((m + 2) / 2))) := by rw [← HN.out] at hown1; exact hown1
        have HS1 : Hid (Since H W w1) := ⟨(HSr.out.1.alloc HSr.out.2 (.cells #[.int .i64 (numZ s m)] 3)).drew.trans hb1, Nat.le_trans HZ.out hz1⟩
        clear hown1 hb1 hz1
        go_wp2
        go_roundw
        case rel => exact ⟨m + 2, by omega, by have := HE.out; omega, by go_num, HO1.out, HS1.out⟩
        case measure => simp [intOf]; omega
    · have HF : Hid (Own wr H u3 (numsTo s (s.size / 2))) := by
        have e : s.size / 2 = m / 2 := by omega
        show Own wr H u3 _
        rw [e]; exact hown
      clear hown heven
      go_wp2
      go_ret
      exact ⟨_, rfl, HF.out, hSr.1⟩

theorem or_num (a b : Int) (ha : 0 ≤ a) (ha2 : a ≤ 255) (hb : 0 ≤ b) (hb2 : b ≤ 255) : bits BinOp.or IntKind.i64 (a * 256) b = a * 256 + b := by
  obtain ⟨x, rfl⟩ : ∃ x : Nat, a = x := ⟨a.toNat, by omega⟩
  obtain ⟨y, rfl⟩ : ∃ y : Nat, b = y := ⟨b.toNat, by omega⟩
  have hx : x ≤ 255 := by omega
  have hy : y < 2 ^ 8 := by omega
  have e : ((x : Int) * 256) = ((x * 256 : Nat) : Int) := by omega
  rw [e]
  have h1 : (BitVec.ofInt 64 ((x * 256 : Nat) : Int)).toNat = x * 256 := by
    rw [BitVec.ofInt_natCast, BitVec.toNat_ofNat]; exact Nat.mod_eq_of_lt (by omega)
  have h2 : (BitVec.ofInt 64 (y : Int)).toNat = y := by
    rw [BitVec.ofInt_natCast, BitVec.toNat_ofNat]; exact Nat.mod_eq_of_lt (by omega)
  have ho : x * 256 ||| y = x * 256 + y := by
    have h := Nat.shiftLeft_add_eq_or_of_lt hy x
    rw [Nat.shiftLeft_eq, show (2 : Nat) ^ 8 = 256 from rfl] at h
    exact h.symm
  show IntKind.i64.wrap ((BitVec.ofInt 64 ((x * 256 : Nat) : Int) ||| BitVec.ofInt 64 (y : Int)).toNat : Int) = _
  rw [BitVec.toNat_or, h1, h2, ho, IntKind.wrap_i64]
  omega

/-- Whether a text can be taken for numbers. -/
def takeB (s : ByteArray) : Bool := decide (s.size ≤ 40 ∧ s.size % 2 = 0)

set_option maxRecDepth 100000 in
set_option maxHeartbeats 1000000 in
theorem implTake_yes (s : ByteArray) (W : World) (h : takeB s = true) :
    Calls Try.prog 75 #[.string s] W fun e W' => ∃ v, e = .returned (.tuple #[v, .bool true]) ∧ Own W' W.heap.size v (numsTo s (s.size / 2)) ∧ Below W.heap.size W W' := by
  obtain ⟨h40, hev⟩ := of_decide_eq_true h
  obtain ⟨H, hH⟩ : ∃ H, H = W.heap.size := ⟨_, rfl⟩
  have HS0 : Hid (Since H W W) := by rw [hH]; exact Since.start W
  rw [← hH]
  have d1 : decide ((40 : Int) < (s.size : Int)) = false := by simp; omega
  have d2 : ((s.size : Int) % 2 != 0) = false := by simp; omega
  have HEV : Hid (s.size % 2 = 0) := hev
  clear hH h hev
  go_enter Try.func75, Try.ntmps75
  go_wp2
  go_loopw [4, 5] (fun v i wr => ∃ m : Nat, m ≤ s.size ∧ m % 2 = 0 ∧ i = .int .i64 m ∧ Own wr H v (numsTo s (m / 2)) ∧ Since H W wr) (fun _ i _ => s.size - (intOf i).toNat)
  case atStart => exact ⟨0, by omega, rfl, rfl, Own.nil _ _, HS0.out⟩
  case round =>
    obtain ⟨m, hk, heven, rfl, hown, hSr⟩ := hrel
    by_cases hm0 : m < s.size
    · have hlt : m + 1 < s.size := by have := HEV.out; omega
      have b0 := byteAt_bd s m
      have b1 := byteAt_bd s (m + 1)
      have e0 := byteAt_eq s m hm0
      have e1 := byteAt_eq s (m + 1) hlt
      have q1 : (m : Int) < (s.size : Int) := by omega
      have q2 : (m : Int) + 1 < (s.size : Int) := by omega
      have q3 : (0 : Int) ≤ (m : Int) + 1 := by omega
      have hwr : IntKind.i64.wrap ((m : Int) + 1) = (m : Int) + 1 := by rw [IntKind.wrap_i64]; omega
      have hwb : ∀ j, IntKind.i64.wrap (byteAt s j) = byteAt s j := fun j => by have := byteAt_bd s j; rw [IntKind.wrap_i64]; omega
      have hw1 : IntKind.i64.wrap (byteAt s m * 256) = byteAt s m * 256 := by rw [IntKind.wrap_i64]; omega
      have hw2 : bits BinOp.or IntKind.i64 (byteAt s m * 256) (byteAt s (m + 1)) = numZ s m := or_num _ _ b0.1 b0.2 b1.1 b1.2
      have HO : Hid (Own wr H u4 (numsTo s (m / 2))) := hown
      have HN : Hid (numsTo s ((m + 2) / 2) = numsTo s (m / 2) ++ [numZ s m]) := numsTo_next s m heven
      have HE : Hid (m % 2 = 0) := heven
      have HSr : Hid (Since H W wr) := hSr
      have HZ : Hid (H ≤ ((wr.alloc (.cells #[.int .i64 (numZ s m)] 3)).drew).heap.size) := by have := hSr.2; show _ ≤ _; simp; omega
      have HL : Hid ((numsTo s (m / 2)).length ≤ 1048576) := by show _ ≤ _; rw [numsTo_len]; omega
      have HC : Hid ((wr.alloc (.cells #[.int .i64 (numZ s m)] 3)).drew.cell? ⟨wr.heap.size, 0, none⟩ = some (.int .i64 (numZ s m))) := new_cell wr _ 3
      have hlt' : m + 2 ≤ s.size := by omega
      clear hown hSr
      go_wp2
      go_region_law ((refine step_put (by rfl) (.tmp 21) (.tmp 33) (by rfl) H u4 (numsTo s (m / 2)) (numZ s m) (by rfl) ((HO.out.alloc _).drew) wr.heap.size 1 (by rfl) HC.out HL.out HZ.out ?_; intro v' w1 hown1 hb1 hz1))
      all_goals
        have HO1 : Hid (Own w1 H v' (numsTo s ((m + 2) / 2))) := by rw [← HN.out] at hown1; exact hown1
        have HS1 : Hid (Since H W w1) := ⟨(HSr.out.1.alloc HSr.out.2 (.cells #[.int .i64 (numZ s m)] 3)).drew.trans hb1, Nat.le_trans HZ.out hz1⟩
        clear hown1 hb1 hz1
        go_wp2
        go_roundw
        case rel => exact ⟨m + 2, by omega, by have := HE.out; omega, by go_num, HO1.out, HS1.out⟩
        case measure => simp [intOf]; omega
    · have HF : Hid (Own wr H u4 (numsTo s (s.size / 2))) := by
        have e : s.size = m := by omega
        show Own wr H u4 _
        rw [e]; exact hown
      clear hown heven
      go_wp2
      go_ret2
      exact ⟨_, rfl, HF.out, hSr.1⟩

theorem implTake_no (s : ByteArray) (W : World) (hm : s.size ≤ maxLen) (h : takeB s = false) :
    Calls Try.prog 75 #[.string s] W fun e W' => e = .returned (.tuple #[.slice none 0 0, .bool false]) ∧ W' = W := by
  unfold maxLen at hm
  have h' := of_decide_eq_false h
  clear h
  by_cases h40 : 40 < s.size
  · have d1 : decide ((40 : Int) < (s.size : Int)) = true := by simp; omega
    clear h'
    go_enter Try.func75, Try.ntmps75
    go_wp2
    go_ret2
    exact ⟨rfl, rfl⟩
  · have d1 : decide ((40 : Int) < (s.size : Int)) = false := by simp; omega
    have d2 : ((s.size : Int) % 2 != 0) = true := by simp; omega
    clear h'
    go_enter Try.func75, Try.ntmps75
    go_wp2
    go_ret2
    exact ⟨rfl, rfl⟩
end Go.Proofs.Ytijlhjfllfjllaa
