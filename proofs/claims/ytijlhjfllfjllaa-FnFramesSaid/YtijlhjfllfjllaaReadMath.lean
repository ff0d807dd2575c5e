/-
  A frame read from the front, without the program: what is left from a place on, and what comes out of it.
-/
import Derived.Test.YtijlhjfllfjllaaBodyIn
import Derived.Test.YtijlhjfllfjllaaSkip
import Derived.Test.YtijlhjfllfjllaaOwnParts
namespace Go.Proofs.Ytijlhjfllfjllaa
open Go.RowKit

/-- A text from a place on. -/
def cur (s : ByteArray) (a : Nat) : ByteArray := s.extract a s.size
theorem cur_size (s : ByteArray) (a : Nat) : (cur s a).size = s.size - a := by unfold cur; rw [ByteArray.size_extract]; omega
theorem cur_zero (s : ByteArray) : cur s 0 = s := by
  unfold cur
  apply ByteArray.ext
  rw [ByteArray.data_extract]
  exact Array.extract_eq_self_of_le (Nat.le_refl _)
theorem cur_cut (s : ByteArray) (a b : Nat) : (cur s a).extract b (cur s a).size = cur s (a + b) := by
  unfold cur
  apply ByteArray.ext
  simp only [ByteArray.data_extract, ByteArray.size_extract, Array.extract_extract]
  congr 1
  omega

/-- What is read from place a on, behind ps that have been read and left that were left out: the code, the parts, how many were left out. -/
def readR (s : ByteArray) (a : Nat) (ps : List PD) (left : Nat) : Int × List PD × Nat :=
  if s.size ≤ a then (0, ps, left)
  else if skipB (cur s a) = false then (1, [], 0)
  else if ¬ (1 ≤ byteAt (cur s a) 0 ∧ byteAt (cur s a) 0 ≤ 4) then readR s (a + (2 + (byteAt (cur s a) 1).toNat)) ps (left + 1)
  else if goodIn (byteAt (cur s a) 0) (skipT (cur s a)) = false then (2, [], 0)
  else if ps.length = 10 then (3, [], 0)
  else readR s (a + (2 + (byteAt (cur s a) 1).toNat)) (ps ++ [partIn (byteAt (cur s a) 0) (skipT (cur s a))]) left
termination_by s.size - a
decreasing_by all_goals omega

theorem readR_end (s : ByteArray) (a : Nat) (ps : List PD) (left : Nat) (h : s.size ≤ a) : readR s a ps left = (0, ps, left) := by rw [readR, if_pos h]
theorem readR_1 (s : ByteArray) (a : Nat) (ps : List PD) (left : Nat) (h : ¬ s.size ≤ a) (h1 : skipB (cur s a) = false) : readR s a ps left = (1, [], 0) := by rw [readR, if_neg h, if_pos h1]
theorem readR_left (s : ByteArray) (a : Nat) (ps : List PD) (left : Nat) (h : ¬ s.size ≤ a) (h1 : skipB (cur s a) = true) (h2 : ¬ (1 ≤ byteAt (cur s a) 0 ∧ byteAt (cur s a) 0 ≤ 4)) :
    readR s a ps left = readR s (a + (2 + (byteAt (cur s a) 1).toNat)) ps (left + 1) := by rw [readR, if_neg h, if_neg (by rw [h1]; exact Bool.noConfusion), if_pos h2]
theorem readR_2 (s : ByteArray) (a : Nat) (ps : List PD) (left : Nat) (h : ¬ s.size ≤ a) (h1 : skipB (cur s a) = true) (h2 : 1 ≤ byteAt (cur s a) 0 ∧ byteAt (cur s a) 0 ≤ 4) (h3 : goodIn (byteAt (cur s a) 0) (skipT (cur s a)) = false) :
    readR s a ps left = (2, [], 0) := by rw [readR, if_neg h, if_neg (by rw [h1]; exact Bool.noConfusion), if_neg (fun k => k h2), if_pos h3]
theorem readR_3 (s : ByteArray) (a : Nat) (ps : List PD) (left : Nat) (h : ¬ s.size ≤ a) (h1 : skipB (cur s a) = true) (h2 : 1 ≤ byteAt (cur s a) 0 ∧ byteAt (cur s a) 0 ≤ 4) (h3 : goodIn (byteAt (cur s a) 0) (skipT (cur s a)) = true) (h4 : ps.length = 10) :
    readR s a ps left = (3, [], 0) := by rw [readR, if_neg h, if_neg (by rw [h1]; exact Bool.noConfusion), if_neg (fun k => k h2), if_neg (by rw [h3]; exact Bool.noConfusion), if_pos h4]
theorem readR_put (s : ByteArray) (a : Nat) (ps : List PD) (left : Nat) (h : ¬ s.size ≤ a) (h1 : skipB (cur s a) = true) (h2 : 1 ≤ byteAt (cur s a) 0 ∧ byteAt (cur s a) 0 ≤ 4) (h3 : goodIn (byteAt (cur s a) 0) (skipT (cur s a)) = true) (h4 : ¬ ps.length = 10) :
    readR s a ps left = readR s (a + (2 + (byteAt (cur s a) 1).toNat)) (ps ++ [partIn (byteAt (cur s a) 0) (skipT (cur s a))]) left := by
  rw [readR, if_neg h, if_neg (by rw [h1]; exact Bool.noConfusion), if_neg (fun k => k h2), if_neg (by rw [h3]; exact Bool.noConfusion), if_neg h4]

def strSize : Value → Nat
  | .string b => b.size
  | _ => 0

/-- What a reader has come to: the answer's parts where the code is nought, else none. -/
def Came (W' : World) (B : Nat) (r : Int × List PD × Nat) (e : Ending) : Prop :=
  ∃ v, e = .returned (.tuple #[v, .int .i64 (r.2.2 : Int), .int .i64 r.1, .bool (decide (r.1 = 0))]) ∧ OwnP W' B v r.2.1
end Go.Proofs.Ytijlhjfllfjllaa
