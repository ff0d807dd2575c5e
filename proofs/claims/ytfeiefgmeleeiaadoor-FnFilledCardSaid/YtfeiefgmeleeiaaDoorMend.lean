/-
  What 'MendByte' answers, the program's and the model's.
-/
import Derived.Test.YtfeiefgmeleeiaaDoorSince
import Derived.Test.YtfeiefgmeleeiaaDoorSumOf
namespace Go.Proofs.YtfeiefgmeleeiaaDoor
open Go.RowKit

def mendT (s : ByteArray) (k : Int) : ByteArray := setZ s k 0
def mendX (s : ByteArray) (k : Int) : Int := (255 - flA (mendT s k).data.toList) % 255
/-- The text mended. -/
def mendS (s : ByteArray) (k : Int) : ByteArray := setZ (mendT s k) k (mendX s k)
theorem mendT_size (s : ByteArray) (k : Int) : (mendT s k).size = s.size := by simp only [mendT, setZ_size]

theorem l1Sums_m (s : ByteArray) (k : Int) (w : World) (hs : s.size ≤ 200) :
    Calls Tryd.prog 31 #[.string (setZ s k 0)] w fun e w' => e = .returned (.tuple #[.int .i64 (flA (mendT s k).data.toList), .int .i64 (flB (mendT s k).data.toList)]) ∧ w' = w :=
  l1Sums_any (mendT s k) w (by rw [mendT_size]; exact hs)

set_option maxHeartbeats 800000 in
theorem specMend_yes {B : Nat} {w0 : World} (s : ByteArray) (k : Int) (w : World) (hw : Since B w0 w) (hs : s.size ≤ 200) (k0 : 0 ≤ k) (k1 : k < s.size) :
    Calls Tryd.prog 24 #[.string s, .int .i64 k] w fun e w' => e = .returned (.tuple #[.string (mendS s k), .bool true]) ∧ Since B w0 w' := by
  have hd : decide ((s.size : Int) ≤ 200) = true := by simp; omega
  have hd2 : decide (k < 0) = false := by simp; omega
  have hd3 : decide ((s.size : Int) ≤ k) = false := by simp; omega
  have ba := fl_bd (mendT s k).data.toList
  have hX : (255 - flA (mendT s k).data.toList) % 255 = mendX s k := rfl
  have bX : 0 ≤ mendX s k ∧ mendX s k ≤ 254 := by unfold mendX; omega
  go_enter Tryd.func24, Tryd.ntmps24
  go_wp2_with (first | (go_at_call 30; go_in) | (go_at_call 31; refine (l1Sums_m s k _ hs).mono ?_; rintro e w' ⟨rfl, rfl⟩) | (go_at_call 36; refine (l1With_z _ _ _ _ (by assumption) (by omega) (by first | omega | (simp only [setZ_size]; omega)) (by omega) (by omega)).mono ?_; rintro e w' ⟨rfl, hw'⟩))
  go_ret2
  exact ⟨rfl, by assumption⟩

set_option maxHeartbeats 800000 in
theorem specMend_no (s : ByteArray) (k : Int) (w : World) (hm : s.size ≤ maxLen) (h : 200 < s.size ∨ k < 0 ∨ (s.size : Int) ≤ k) :
    Calls Tryd.prog 24 #[.string s, .int .i64 k] w fun e w' => e = .returned (.tuple #[.string ⟨#[]⟩, .bool false]) ∧ w' = w := by
  unfold maxLen at hm
  by_cases h1 : 200 < s.size
  · have hd : decide ((s.size : Int) ≤ 200) = false := by simp; omega
    clear h
    go_enter Tryd.func24, Tryd.ntmps24
    go_wp2
    go_ret2
    exact ⟨rfl, rfl⟩
  · have hd : decide ((s.size : Int) ≤ 200) = true := by simp; omega
    by_cases h2 : k < 0
    · have hd2 : decide (k < 0) = true := by simp; omega
      clear h
      go_enter Tryd.func24, Tryd.ntmps24
      go_wp2
      go_ret2
      exact ⟨rfl, rfl⟩
    · have hd2 : decide (k < 0) = false := by simp; omega
      have h3 : (s.size : Int) ≤ k := by omega
      have hd3 : decide ((s.size : Int) ≤ k) = true := by simp; omega
      clear h
      go_enter Tryd.func24, Tryd.ntmps24
      go_wp2
      go_ret2
      exact ⟨rfl, rfl⟩

theorem hasPlace_yes (s : ByteArray) (k : Int) (w : World) (hs : s.size ≤ 200) (k0 : 0 ≤ k) (k1 : k < s.size) :
    Calls Tryd.prog 34 #[.string s, .int .i64 k] w fun e w' => e = .returned (.bool true) ∧ w' = w := by
  have hd : decide ((s.size : Int) ≤ 200) = true := by simp; omega
  have hd2 : decide (0 ≤ k) = true := by simp; omega
  have hd3 : decide (k < (s.size : Int)) = true := by simp; omega
  go_enter Tryd.func34, Tryd.ntmps34
  go_wp2
  go_ret
  exact ⟨rfl, rfl⟩

theorem hasPlace_no (s : ByteArray) (k : Int) (w : World) (hm : s.size ≤ maxLen) (h : 200 < s.size ∨ k < 0 ∨ (s.size : Int) ≤ k) :
    Calls Tryd.prog 34 #[.string s, .int .i64 k] w fun e w' => e = .returned (.bool false) ∧ w' = w := by
  unfold maxLen at hm
  by_cases h1 : 200 < s.size
  · have hd : decide ((s.size : Int) ≤ 200) = false := by simp; omega
    clear h
    go_enter Tryd.func34, Tryd.ntmps34
    go_wp2
    go_ret
    exact ⟨rfl, rfl⟩
  · have hd : decide ((s.size : Int) ≤ 200) = true := by simp; omega
    by_cases h2 : k < 0
    · have hd2 : decide (0 ≤ k) = false := by simp; omega
      clear h
      go_enter Tryd.func34, Tryd.ntmps34
      go_wp2
      go_ret
      exact ⟨rfl, rfl⟩
    · have hd2 : decide (0 ≤ k) = true := by simp; omega
      have hd3 : decide (k < (s.size : Int)) = false := by simp; omega
      clear h
      go_enter Tryd.func34, Tryd.ntmps34
      go_wp2
      go_ret
      exact ⟨rfl, rfl⟩

theorem implMend_no (s : ByteArray) (k : Int) (w : World) (hm : s.size ≤ maxLen) (h : 200 < s.size ∨ k < 0 ∨ (s.size : Int) ≤ k) :
    Calls Tryd.prog 23 #[.string s, .int .i64 k] w fun e w' => e = .returned (.tuple #[.string ⟨#[]⟩, .bool false]) ∧ w' = w := by
  have HM : Hid (s.size ≤ maxLen) := hm
  have HH : Hid (200 < s.size ∨ k < 0 ∨ (s.size : Int) ≤ k) := h
  clear hm h
  go_enter Tryd.func23, Tryd.ntmps23
  go_wp2_with (go_at_call 34; refine (hasPlace_no _ _ _ HM.out HH.out).mono ?_; rintro e w' ⟨rfl, rfl⟩)
  go_ret2
  exact ⟨rfl, rfl⟩

set_option maxHeartbeats 800000 in
theorem implMend_nat (s : ByteArray) (i : Nat) (w : World) (hs : s.size ≤ 200) (k1 : i < s.size) (ht : Tab w) :
    Calls Tryd.prog 23 #[.string s, .int .i64 i] w fun e w' => e = .returned (.tuple #[.string (mendS s i), .bool true]) ∧ Below w.heap.size w w' := by
  obtain ⟨cap, W1, hconv, hb, -, hr⟩ := conv_row s w
  have hl : s.data.toList.length = s.size := by simp
  obtain ⟨c0, hc0⟩ : ∃ c0, W1.cell? ⟨w.heap.size, i, none⟩ = some c0 := ⟨_, hr.1 i (by omega)⟩
  have hf0 := hr.2 i (by omega)
  have r2 : Row (W1.setCell ⟨w.heap.size, i, none⟩ (.int .u8 0)) w.heap.size (mendT s i).data.toList := by
    have := hr.set i (by omega) 0 (by omega) (by omega)
    have e : (mendT s i).data.toList = s.data.toList.set i (UInt8.ofNat (0 : Int).toNat) := by unfold mendT; rw [setZ_list]; simp
    rw [e]; exact this
  have bX : 0 ≤ mendX s i ∧ mendX s i ≤ 254 := by unfold mendX; omega
  have r4 := r2.set i (by rw [← mendT_size s i] at k1; simpa using k1) (mendX s i) bX.1 (by omega)
  have b2 : Below w.heap.size w (W1.setCell ⟨w.heap.size, i, none⟩ (.int .u8 0)) := hb.setCell (Nat.le_refl _) _
  have b3 := b2.setCell (p := ⟨w.heap.size, i, none⟩) (Nat.le_refl _) (.int .u8 (mendX s i))
  have hback := r4.back s.size cap (by simp only [List.length_set]; rw [← mendT_size s i]; simp)
  have e5 : (⟨((mendT s i).data.toList.set i (UInt8.ofNat (mendX s i).toNat)).toArray⟩ : ByteArray) = mendS s i := by
    unfold mendS setZ setB
    simp
  rw [e5] at hback
  have HC : Hid (∀ j (hj : j < (mendT s i).data.toList.length), (W1.setCell ⟨w.heap.size, i, none⟩ (.int .u8 0)).cell? ⟨w.heap.size, j, none⟩ = some (.int .u8 ((mendT s i).data.toList[j].toNat : Int))) := r2.1
  have HT2 : Hid (Tab (W1.setCell ⟨w.heap.size, i, none⟩ (.int .u8 0))) := ht.below ht.pos b2
  have HB4 : Hid (Below w.heap.size w ((W1.setCell ⟨w.heap.size, i, none⟩ (.int .u8 0)).setCell ⟨w.heap.size, i, none⟩ (.int .u8 (mendX s i)))) := b3
  have HN : Hid ((mendT s i).data.toList.length = s.size) := by show _ = _; rw [← mendT_size s i]; simp
  have ba := fl_bd (mendT s i).data.toList
  have hX : (255 - flA (mendT s i).data.toList) % 255 = mendX s i := rfl
  clear b3 b2 r4 r2 hr hb ht hl e5
  go_enter Tryd.func23, Tryd.ntmps23
  go_wp2_with (first | (go_at_call 34; refine (hasPlace_yes _ _ _ hs (by omega) (by omega)).mono ?_; rintro e w' ⟨rfl, rfl⟩) | (go_at_call 29; refine (sumBytes_str (mendT s i).data.toList _ _ _ _ HN.out hs HC HT2).mono ?_; rintro e w' ⟨rfl, rfl⟩))
  refine (rem_any _ _ (by omega) (by omega) HT2.out).mono ?_
  rintro e w2 ⟨rfl, rfl⟩
  rw [hX]
  go_wp2
  go_ret2
  exact ⟨rfl, HB4.out⟩
end Go.Proofs.YtfeiefgmeleeiaaDoor
