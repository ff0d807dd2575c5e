/-
  What 'FillSum' and 'MendByte' make, plain: both sums of the text filled are nought, nothing but its two bytes has changed; the first sum of the text mended is nought.
-/
import Derived.Test.YtfeiefgmeleeiaaDoorFillSpec
import Derived.Test.YtfeiefgmeleeiaaDoorMend
import Derived.Test.YtfeiefgmeleeiaaDoorAny
import Derived.Test.YtfeiefgmeleeiaaDoorFletcher
namespace Go.Proofs.YtfeiefgmeleeiaaDoor
open Go.RowKit

theorem ext_list (s t : ByteArray) (a c : Nat) (h : (s.data.toList.drop a).take (c - a) = (t.data.toList.drop a).take (c - a)) : s.extract a c = t.extract a c := by
  have es : s = ByteArray.mk s.data.toList.toArray := by cases s; simp
  have et : t = ByteArray.mk t.data.toList.toArray := by cases t; simp
  rw [es, et, ByteArray.extract_mk, ByteArray.extract_mk, h]

theorem fillT_list (s : ByteArray) (i : Nat) : (fillT s i).data.toList = (s.data.toList.set i (UInt8.ofNat (0 : Int).toNat)).set (i + 1) (UInt8.ofNat (0 : Int).toNat) := by
  unfold fillT; rw [setZ_list, setZ_list]; simp
theorem fillS_list (s : ByteArray) (i : Nat) : (fillS s i).data.toList = ((fillT s i).data.toList.set i (UInt8.ofNat (fillX s i).toNat)).set (i + 1) (UInt8.ofNat (fillY s i).toNat) := by
  unfold fillS; rw [setZ_list, setZ_list]; simp
theorem fillS_sz (s : ByteArray) (i : Nat) : (fillS s i).size = s.size := by unfold fillS; rw [setZ_size, setZ_size, fillT_size]

theorem fill_head (s : ByteArray) (i : Nat) : (fillS s i).extract 0 i = s.extract 0 i := by
  apply ext_list
  rw [fillS_list, fillT_list]
  simp [List.take_set_of_le]
theorem fill_tail (s : ByteArray) (i : Nat) : (fillS s i).extract (i + 2) s.size = s.extract (i + 2) s.size := by
  apply ext_list
  rw [fillS_list, fillT_list]
  rw [List.drop_set_of_lt (by omega), List.drop_set_of_lt (by omega), List.drop_set_of_lt (by omega), List.drop_set_of_lt (by omega)]

theorem fill_whole (s : ByteArray) (i : Nat) (hs : s.size ≤ 200) (h : i + 1 < s.size) : wholeR (fillS s i) = (true, true) := by
  have hl : (fillT s i).data.toList.length = s.size := by rw [← fillT_size s i]; simp
  have hl0 : s.data.toList.length = s.size := by simp
  have h0 : (fillT s i).data.toList[i]'(by omega) = 0 := by
    simp only [fillT_list]
    rw [List.getElem_set_ne (by omega), List.getElem_set_self]; rfl
  have h1 : (fillT s i).data.toList[i + 1]'(by omega) = 0 := by
    simp only [fillT_list]
    rw [List.getElem_set_self]; rfl
  have hn := fill_nought (fillT s i).data.toList i (by omega) h0 h1 (fillX s i) (fillY s i) (by unfold fillX; rw [hl]) rfl
  rw [← fillS_list] at hn
  unfold wholeR
  rw [if_pos (by rw [fillS_sz]; exact hs)]
  unfold wholeB
  rw [hn.1, hn.2]
  rfl

theorem mendT_list (s : ByteArray) (i : Nat) : (mendT s i).data.toList = s.data.toList.set i (UInt8.ofNat (0 : Int).toNat) := by unfold mendT; rw [setZ_list]; simp
theorem mendS_list (s : ByteArray) (i : Nat) : (mendS s i).data.toList = (mendT s i).data.toList.set i (UInt8.ofNat (mendX s i).toNat) := by unfold mendS; rw [setZ_list]; simp
theorem mendS_sz (s : ByteArray) (i : Nat) : (mendS s i).size = s.size := by unfold mendS; rw [setZ_size, mendT_size]
theorem mend_sum (s : ByteArray) (i : Nat) (hs : s.size ≤ 200) (h : i < s.size) : (sumR (mendS s i)).1 = 0 ∧ (sumR (mendS s i)).2.2 = true := by
  have hl : (mendT s i).data.toList.length = s.size := by rw [← mendT_size s i]; simp
  have hl0 : s.data.toList.length = s.size := by simp
  have h0 : (mendT s i).data.toList[i]'(by omega) = 0 := by
    simp only [mendT_list]
    rw [List.getElem_set_self]; rfl
  have hn := mend_nought (mendT s i).data.toList i (by omega) h0
  have e : sumR (mendS s i) = (flA (mendS s i).data.toList, flB (mendS s i).data.toList, true) := if_pos (by rw [mendS_sz]; exact hs)
  rw [e]
  refine ⟨?_, rfl⟩
  show flA (mendS s i).data.toList = 0
  rw [mendS_list]
  exact hn
end Go.Proofs.YtfeiefgmeleeiaaDoor
