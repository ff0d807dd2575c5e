/-
  What 'SumOf' answers, the program's and the model's: of at most 200 bytes both sums and true, else zeros and false; nothing that was there is written.
-/
import Derived.Test.YtfeiefgmeleeiaaDoorSums
namespace Go.Proofs.YtfeiefgmeleeiaaDoor
open Go.RowKit

theorem Tab.pos {w : World} (h : Tab w) : 0 < w.heap.size := by
  have := World.block_lt_of_cell? _ _ (h 0 (by omega)); simpa using this
theorem Tab.below {B : Nat} {w w' : World} (h : Tab w) (hB : 0 < B) (hb : Below B w w') : Tab w' :=
  fun k hk => (hb.cell (p := ⟨0, k, none⟩) hB).trans (h k hk)

/-- '[]byte(s)': a new block that holds the bytes, not frozen. -/
theorem conv_bytes (s : ByteArray) (w : World) : ∃ (cap : Nat) (W1 : World),
    (convert 9 22 (.string s)).run Tryd.prog w = .ok (.slice (some ⟨w.heap.size, 0, none⟩) s.size cap) W1 ∧
    Below w.heap.size w W1 ∧ W1.heap.size = w.heap.size + 1 ∧
    (∀ j (hj : j < s.data.toList.length), W1.cell? ⟨w.heap.size, j, none⟩ = some (.int .u8 (s.data.toList[j].toNat : Int))) ∧
    (∀ j, j < s.data.toList.length → W1.frozen? ⟨w.heap.size, j, none⟩ = false) := by
  refine ⟨_, _, run_bytes_of_string (P := Tryd.prog) w 9 22 5 s Tryd.underlying9 Tryd.underlying22 Tryd.underlying5, ?_, ?_, ?_, ?_⟩
  · exact ((Below.refl w.heap.size w).drew).alloc (Nat.le_refl _) _
  · simp
  · intro j hj
    have hj' : j < s.data.size := by simpa using hj
    have := World.cell?_alloc_mark w.drew (bytesRow s (grownCap w s.size 0 5)) 5 ((bytesRow s (grownCap w s.size 0 5)).size, (bytesRow s (grownCap w s.size 0 5)).size + 1) j
    exact this.trans ((bytesRow_at s _ j hj').trans (by simp))
  · intro j hj
    have hj' : j < s.data.size := by simpa using hj
    have := World.frozen?_alloc_mark w.drew (bytesRow s (grownCap w s.size 0 5)) 5 (bytesRow s (grownCap w s.size 0 5)).size ((bytesRow s (grownCap w s.size 0 5)).size + 1) j
    refine this.trans ?_
    have hsz : j < (bytesRow s (grownCap w s.size 0 5)).size := by simp only [bytesRow, Array.size_append, Array.size_map, Array.size_replicate]; omega
    clear this hj
    simp; omega

set_option maxHeartbeats 400000 in
theorem implSumOf_yes (s : ByteArray) (w : World) (hs : s.size ≤ 200) (ht : Tab w) :
    Calls Tryd.prog 6 #[.string s] w fun e w' => e = .returned (.tuple #[.int .i64 (flA s.data.toList), .int .i64 (flB s.data.toList), .bool true]) ∧ Below w.heap.size w w' := by
  obtain ⟨cap, W1, hconv, hb, -, hc, -⟩ := conv_bytes s w
  have HT : Hid (Tab W1) := ht.below ht.pos hb
  have HC : Hid (∀ j (hj : j < s.data.toList.length), W1.cell? ⟨w.heap.size, j, none⟩ = some (.int .u8 (s.data.toList[j].toNat : Int))) := hc
  have HB : Hid (Below w.heap.size w W1) := hb
  clear hc ht hb
  have hd : decide ((s.size : Int) ≤ 200) = true := by simp; omega
  go_enter Tryd.func6, Tryd.ntmps6
  go_wp2_with (first | (go_at_call 29; refine (sumBytes_str s.data.toList _ _ _ _ (by simp) hs HC HT).mono ?_; rintro e w' ⟨rfl, rfl⟩) | go_in)
  go_ret3
  exact ⟨rfl, HB.out⟩

set_option maxHeartbeats 400000 in
theorem implSumOf_no (s : ByteArray) (w : World) (hs : 200 < s.size) (hm : s.size ≤ maxLen) :
    Calls Tryd.prog 6 #[.string s] w fun e w' => e = .returned (.tuple #[.int .i64 0, .int .i64 0, .bool false]) ∧ w' = w := by
  unfold maxLen at hm
  have hd : decide ((s.size : Int) ≤ 200) = false := by simp; omega
  go_enter Tryd.func6, Tryd.ntmps6
  go_wp2
  go_ret3
  exact ⟨rfl, rfl⟩

set_option maxHeartbeats 400000 in
theorem specSumOf_yes (s : ByteArray) (w : World) (hs : s.size ≤ 200) :
    Calls Tryd.prog 7 #[.string s] w fun e w' => e = .returned (.tuple #[.int .i64 (flA s.data.toList), .int .i64 (flB s.data.toList), .bool true]) ∧ w' = w := by
  have hd : decide ((s.size : Int) ≤ 200) = true := by simp; omega
  go_enter Tryd.func7, Tryd.ntmps7
  go_wp2_with (first | (go_at_call 31; refine (l1Sums_any _ _ hs).mono ?_; rintro e w' ⟨rfl, rfl⟩) | go_in)
  go_ret3
  exact ⟨rfl, rfl⟩

set_option maxHeartbeats 400000 in
theorem specSumOf_no (s : ByteArray) (w : World) (hs : 200 < s.size) (hm : s.size ≤ maxLen) :
    Calls Tryd.prog 7 #[.string s] w fun e w' => e = .returned (.tuple #[.int .i64 0, .int .i64 0, .bool false]) ∧ w' = w := by
  unfold maxLen at hm
  have hd : decide ((s.size : Int) ≤ 200) = false := by simp; omega
  go_enter Tryd.func7, Tryd.ntmps7
  go_wp2
  go_ret3
  exact ⟨rfl, rfl⟩
end Go.Proofs.YtfeiefgmeleeiaaDoor
