/-
  What the program's 'FillSum' answers.
-/
import Derived.Test.YtfeiefgmeleeiaqDoorFillSpec
import Derived.Test.YtfeiefgmeleeiaqDoorSumOf
import Derived.Test.YtfeiefgmeleeiaqDoorPair
namespace Go.Proofs.YtfeiefgmeleeiaqDoor
open Go.RowKit

theorem implFill_no (s : ByteArray) (k : Int) (w : World) (hm : s.size ≤ maxLen) (h : 200 < s.size ∨ k < 0 ∨ (s.size : Int) ≤ k + 1) :
    Calls Tryd.prog 11 #[.string s, .int .i64 k] w fun e w' => e = .returned (.tuple #[.string ⟨#[]⟩, .bool false]) ∧ w' = w := by
  have HM : Hid (s.size ≤ maxLen) := hm
  have HH : Hid (200 < s.size ∨ k < 0 ∨ (s.size : Int) ≤ k + 1) := h
  clear hm h
  go_enter Tryd.func11, Tryd.ntmps11
  go_wp2_with (go_at_call 21; refine (hasPair_no _ _ _ HM.out HH.out).mono ?_; rintro e w' ⟨rfl, rfl⟩)
  go_ret2
  exact ⟨rfl, rfl⟩

set_option maxHeartbeats 800000 in
theorem implFill_nat (s : ByteArray) (i : Nat) (w : World) (hs : s.size ≤ 200) (k1 : i + 1 < s.size) (ht : Tab w) :
    Calls Tryd.prog 11 #[.string s, .int .i64 i] w fun e w' => e = .returned (.tuple #[.string (fillS s i), .bool true]) ∧ Below w.heap.size w w' := by
  obtain ⟨cap, W1, hconv, hb, -, hr⟩ := conv_row s w
  have hl : s.data.toList.length = s.size := by simp
  obtain ⟨c0, hc0⟩ : ∃ c0, W1.cell? ⟨w.heap.size, i, none⟩ = some c0 := ⟨_, hr.1 i (by omega)⟩
  obtain ⟨c1, hc1⟩ : ∃ c1, W1.cell? ⟨w.heap.size, i + 1, none⟩ = some c1 := ⟨_, hr.1 (i + 1) (by omega)⟩
  have hf0 := hr.2 i (by omega)
  have hf1 := hr.2 (i + 1) (by omega)
  -- the rows behind each pair of stores
  have r2 : Row ((W1.setCell ⟨w.heap.size, i, none⟩ (.int .u8 0)).setCell ⟨w.heap.size, i + 1, none⟩ (.int .u8 0)) w.heap.size (fillT s i).data.toList := by
    have := (hr.set i (by omega) 0 (by omega) (by omega)).set (i + 1) (by simp; omega) 0 (by omega) (by omega)
    have e : (fillT s i).data.toList = (s.data.toList.set i (UInt8.ofNat (0 : Int).toNat)).set (i + 1) (UInt8.ofNat (0 : Int).toNat) := by
      unfold fillT; rw [setZ_list, setZ_list]; simp
    rw [e]; exact this
  have bX : 0 ≤ fillX s i ∧ fillX s i ≤ 254 := xOf_bd _ _ _
  have bY : 0 ≤ fillY s i ∧ fillY s i ≤ 254 := yOf_bd _ _
  have r4 := (r2.set i (by rw [← fillT_size s i] at k1; simpa using (by omega : i < (fillT s i).size)) (fillX s i) bX.1 (by omega)).set (i + 1) (by rw [← fillT_size s i] at k1; simpa using k1) (fillY s i) bY.1 (by omega)
  have b2 : Below w.heap.size w ((W1.setCell ⟨w.heap.size, i, none⟩ (.int .u8 0)).setCell ⟨w.heap.size, i + 1, none⟩ (.int .u8 0)) := (hb.setCell (Nat.le_refl _) _).setCell (Nat.le_refl _) _
  have b3 := b2.setCell (p := ⟨w.heap.size, i, none⟩) (Nat.le_refl _) (.int .u8 (fillX s i))
  have HB := b3.setCell (p := ⟨w.heap.size, i + 1, none⟩) (Nat.le_refl _) (.int .u8 (fillY s i))
  have hback := r4.back s.size cap (by simp only [List.length_set]; rw [← fillT_size s i]; simp)
  have e5 : (⟨(((fillT s i).data.toList.set i (UInt8.ofNat (fillX s i).toNat)).set (i + 1) (UInt8.ofNat (fillY s i).toNat)).toArray⟩ : ByteArray) = fillS s i := by
    unfold fillS setZ setB
    simp
  rw [e5] at hback
  have HC : Hid (∀ j (hj : j < (fillT s i).data.toList.length), ((W1.setCell ⟨w.heap.size, i, none⟩ (.int .u8 0)).setCell ⟨w.heap.size, i + 1, none⟩ (.int .u8 0)).cell? ⟨w.heap.size, j, none⟩ = some (.int .u8 ((fillT s i).data.toList[j].toNat : Int))) := r2.1
  have HT2 : Hid (Tab ((W1.setCell ⟨w.heap.size, i, none⟩ (.int .u8 0)).setCell ⟨w.heap.size, i + 1, none⟩ (.int .u8 0))) := ht.below ht.pos b2
  have HT3 : Hid (Tab (((W1.setCell ⟨w.heap.size, i, none⟩ (.int .u8 0)).setCell ⟨w.heap.size, i + 1, none⟩ (.int .u8 0)).setCell ⟨w.heap.size, i, none⟩ (.int .u8 (fillX s i)))) := ht.below ht.pos b3
  have HB4 : Hid (Below w.heap.size w ((((W1.setCell ⟨w.heap.size, i, none⟩ (.int .u8 0)).setCell ⟨w.heap.size, i + 1, none⟩ (.int .u8 0)).setCell ⟨w.heap.size, i, none⟩ (.int .u8 (fillX s i))).setCell ⟨w.heap.size, i + 1, none⟩ (.int .u8 (fillY s i)))) := HB
  have HN : Hid ((fillT s i).data.toList.length = s.size) := by show _ = _; rw [← fillT_size s i]; simp
  have ba := fl_bd (fillT s i).data.toList
  have bm : 0 ≤ flA (fillT s i).data.toList * ((s.size : Int) - i - 1) ∧ flA (fillT s i).data.toList * ((s.size : Int) - i - 1) ≤ 50800 := by
    rw [Int.mul_comm]; exact mul_bd' _ _ ba.1 ⟨by omega, by omega⟩
  have hX : (flA (fillT s i).data.toList * ((s.size : Int) - i - 1) + 255 - flB (fillT s i).data.toList) % 255 = fillX s i := xOf_impl _ _ _
  have hY : (510 - flA (fillT s i).data.toList - fillX s i) % 255 = fillY s i := yOf_impl _ _
  clear HB b3 b2 r4 r2 hr hb ht hl e5
  go_enter Tryd.func11, Tryd.ntmps11
  go_wp2_with (first | (go_at_call 21; refine (hasPair_yes _ _ _ hs (by omega) (by omega)).mono ?_; rintro e w' ⟨rfl, rfl⟩) | (go_at_call 15; refine (sumBytes_str (fillT s i).data.toList _ _ _ _ HN.out hs HC HT2).mono ?_; rintro e w' ⟨rfl, rfl⟩))
  refine (rem_any _ _ (by omega) (by omega) HT2.out).mono ?_
  rintro e w2 ⟨rfl, rfl⟩
  rw [hX]
  go_wp2_with fail
  refine (rem_any _ _ (by omega) (by omega) HT3.out).mono ?_
  rintro e w3 ⟨rfl, rfl⟩
  rw [hY]
  go_wp2
  go_ret2
  exact ⟨rfl, HB4.out⟩
end Go.Proofs.YtfeiefgmeleeiaqDoor
