/-
  What the law FnSums leans on, plain: the sums of a text cut in two, of a text in which two bytes have changed places, and the weights.
-/
import Derived.Test.YtfeiefgmeleeiaaDoorSwap
import Derived.Test.YtfeiefgmeleeiaaDoorAny
import Derived.Test.YtfeiefgmeleeiaaDoorFletcher
namespace Go.Proofs.YtfeiefgmeleeiaaDoor
open Go.RowKit

theorem extract_list (s : ByteArray) (a c : Nat) : (s.extract a c).data.toList = (s.data.toList.drop a).take (c - a) := by
  have es : s = ByteArray.mk s.data.toList.toArray := by cases s; simp
  rw [es, ByteArray.extract_mk]
theorem extract_sz (s : ByteArray) (a c : Nat) : (s.extract a c).size ≤ s.size := by
  have h : (s.extract a c).size = min c s.size - a := by simp
  omega

/-- Both sums of a text, behind names. -/
def sA (s : ByteArray) : Int := flA s.data.toList
def sB (s : ByteArray) : Int := flB s.data.toList
theorem sumR_yes (s : ByteArray) (h : s.size ≤ 200) : sumR s = (sA s, sB s, true) := if_pos h
theorem sumR_no (s : ByteArray) (h : ¬ s.size ≤ 200) : sumR s = (0, 0, false) := if_neg h

/-- A text cut in two. -/
theorem split_add (s : ByteArray) (k : Nat) (hk : k ≤ s.size) (hs : s.size ≤ 200) :
    addR (sA (s.extract 0 k)) (sB (s.extract 0 k)) (sA (s.extract k s.size)) (sB (s.extract k s.size)) ((s.size : Int) - k) = (sA s, sB s, true) := by
  unfold sA sB
  have hl : s.data.toList.length = s.size := by simp
  have e1 : (s.extract 0 k).data.toList = s.data.toList.take k := by rw [extract_list]; simp
  have e2 : (s.extract k s.size).data.toList = s.data.toList.drop k := by rw [extract_list, List.take_of_length_le (by simp)]
  rw [e1, e2]
  have b1 := fl_bd (s.data.toList.take k)
  have b2 := fl_bd (s.data.toList.drop k)
  have hg : goodAdd (flA (s.data.toList.take k)) (flB (s.data.toList.take k)) (flA (s.data.toList.drop k)) (flB (s.data.toList.drop k)) ((s.size : Int) - k) = true :=
    (goodAdd_iff ..).2 ⟨(isSumB_iff _).2 b1.1, (isSumB_iff _).2 b1.2, (isSumB_iff _).2 b2.1, (isSumB_iff _).2 b2.2, (inB_iff ..).2 ⟨by omega, by omega⟩⟩
  have ha := fl_append (s.data.toList.take k) (s.data.toList.drop k)
  rw [List.take_append_drop] at ha
  unfold addR
  rw [if_pos hg, ← ha.1, ha.2, List.length_drop, hl, show ((s.size - k : Nat) : Int) = (s.size : Int) - k by omega]

theorem weight_yes (s : ByteArray) (k : Nat) (hs : s.size ≤ 200) (hk : k < s.size) : weightR s k = ((s.size : Int) - k, true) := if_pos ⟨hs, by omega, by omega⟩

/-- A round of the weights' sum. -/
theorem weight_step (s : ByteArray) (k : Nat) (hk : k < s.size) :
    ((T s.data.toList - T (s.data.toList.drop k)) % 255 + ((s.size : Int) - k) * (s[k].toNat : Int)) % 255 = (T s.data.toList - T (s.data.toList.drop (k + 1))) % 255 := by
  have hl : s.data.toList.length = s.size := by simp
  have h := T_drop s.data.toList k (by omega)
  have e : (s.data.toList[k]'(by omega)) = s[k] := rfl
  rw [e, hl] at h
  omega
theorem weight_bd (s : ByteArray) (k : Nat) (hs : s.size ≤ 200) (hk : k < s.size) : 0 ≤ ((s.size : Int) - k) * (s[k].toNat : Int) ∧ ((s.size : Int) - k) * (s[k].toNat : Int) ≤ 51000 := by
  have hx : (s[k].toNat : Int) ≤ 255 := by have := s[k].toNat_lt; omega
  refine ⟨Int.mul_nonneg (by omega) (by omega), ?_⟩
  have h1 : ((s.size : Int) - k) * (s[k].toNat : Int) ≤ 200 * (s[k].toNat : Int) := Int.mul_le_mul_of_nonneg_right (by omega) (by omega)
  omega
theorem weight_end (s : ByteArray) : (T s.data.toList - T (s.data.toList.drop s.size)) % 255 = sB s := by
  unfold sB
  have : s.data.toList.drop s.size = [] := List.drop_of_length_le (by simp)
  rw [this, (fl_eq _).2]
  simp [T]

theorem swapS_list (s : ByteArray) (i : Nat) : (swapS s i).data.toList = (s.data.toList.set i (UInt8.ofNat (byteAt s (i + 1)).toNat)).set (i + 1) (UInt8.ofNat (byteAt s i).toNat) := by
  unfold swapS; rw [setZ_list, setZ_list]; simp
theorem swapS_sz (s : ByteArray) (i : Nat) : (swapS s i).size = s.size := by unfold swapS; rw [setZ_size, setZ_size]
theorem byteAt_of (s : ByteArray) (i : Nat) (h : i < s.data.toList.length) : UInt8.ofNat (byteAt s i).toNat = s.data.toList[i] ∧ byteAt s i = (s.data.toList[i].toNat : Int) := by
  have e : byteAt s i = (s.data.toList[i].toNat : Int) := by
    unfold byteAt; rw [List.getD_eq_getElem?_getD, List.getElem?_eq_getElem h]; rfl
  refine ⟨?_, e⟩
  rw [e]
  simp
theorem swap_fl (s : ByteArray) (i : Nat) (h : i + 1 < s.size) : sA (swapS s i) = sA s ∧ (sB (swapS s i) = sB s ↔ byteAt s i % 255 = byteAt s (i + 1) % 255) := by
  unfold sA sB
  have hl : s.data.toList.length = s.size := by simp
  have b0 := byteAt_of s i (by omega)
  have b1 := byteAt_of s (i + 1) (by omega)
  rw [swapS_list, b0.1, b1.1, b0.2, b1.2]
  exact swap_seen s.data.toList i (by omega)
end Go.Proofs.YtfeiefgmeleeiaaDoor
