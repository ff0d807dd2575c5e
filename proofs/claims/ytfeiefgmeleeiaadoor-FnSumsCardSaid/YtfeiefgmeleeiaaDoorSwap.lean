/-
  What 'SwapTwo' answers, the program's and the model's.
-/
import Derived.Test.YtfeiefgmeleeiaaDoorSince
import Derived.Test.YtfeiefgmeleeiaaDoorDoor
import Derived.Test.YtfeiefgmeleeiaaDoorPair
import Derived.Deep.RegionWith
import Derived.BigRegion
import Derived.BigQuiet
import Derived.Deep.QuietTactic
namespace Go.Proofs.YtfeiefgmeleeiaaDoor
open Go.RowKit

/-- A text's byte at a place, as a number. -/
def byteAt (s : ByteArray) (i : Nat) : Int := ((s.data.toList.getD i 0).toNat : Int)
theorem byteAt_bd (s : ByteArray) (i : Nat) : 0 ≤ byteAt s i ∧ byteAt s i ≤ 255 := by
  unfold byteAt; have := (s.data.toList.getD i 0).toNat_lt; omega
theorem byteAt_eq (s : ByteArray) (i : Nat) (h : i < s.size) : (s[i].toNat : Int) = byteAt s i := by
  have h' : i < s.data.toList.length := by simpa using h
  unfold byteAt
  rw [List.getD_eq_getElem?_getD, List.getElem?_eq_getElem h']
  rfl
/-- The text with both bytes changed over. -/
def swapS (s : ByteArray) (i : Nat) : ByteArray := setZ (setZ s i (byteAt s (i + 1))) (i + 1) (byteAt s i)

set_option maxHeartbeats 800000 in
theorem specSwap_yes {B : Nat} {w0 : World} (s : ByteArray) (i : Nat) (w : World) (hw : Since B w0 w) (hs : s.size ≤ 200) (k1 : i + 1 < s.size) :
    Calls Tryd.prog 13 #[.string s, .int .i64 i] w fun e w' => e = .returned (.tuple #[.string (swapS s i), .bool true]) ∧ Since B w0 w' := by
  have hd : decide ((s.size : Int) ≤ 200) = true := by simp; omega
  have hd2 : decide ((i : Int) < 0) = false := by simp
  have hd3 : decide ((s.size : Int) - 1 ≤ (i : Int)) = false := by simp; omega
  have hk : i < s.size := by omega
  have k1' : (i : Int) + 1 < (s.size : Int) := by omega
  have hk' : (i : Int) < (s.size : Int) := by omega
  have p1 : (0 : Int) ≤ (i : Int) + 1 := by omega
  have hwr : IntKind.i64.wrap ((i : Int) + 1) = (i : Int) + 1 := by rw [IntKind.wrap_i64]; omega
  have b0 := byteAt_bd s i
  have b1 := byteAt_bd s (i + 1)
  have hwb : ∀ j, IntKind.i64.wrap (byteAt s j) = byteAt s j := fun j => by have := byteAt_bd s j; rw [IntKind.wrap_i64]; omega
  have e0 := byteAt_eq s i hk
  have e1 := byteAt_eq s (i + 1) k1
  go_enter Tryd.func13, Tryd.ntmps13
  go_wp2
  go_region_with (go_at_call 36; refine (l1With_z _ _ _ _ (by first | assumption | exact Since.drew (by assumption)) (by omega) (by first | omega | (simp only [setZ_size]; omega)) (by omega) (by omega)).mono ?_; rintro e w' ⟨rfl, hw'⟩)
  all_goals
    go_wp2
    go_ret2
    exact ⟨rfl, by assumption⟩

set_option maxHeartbeats 800000 in
theorem specSwap_no (s : ByteArray) (k : Int) (w : World) (hm : s.size ≤ maxLen) (h : 200 < s.size ∨ k < 0 ∨ (s.size : Int) ≤ k + 1) :
    Calls Tryd.prog 13 #[.string s, .int .i64 k] w fun e w' => e = .returned (.tuple #[.string ⟨#[]⟩, .bool false]) ∧ w' = w := by
  unfold maxLen at hm
  by_cases h1 : 200 < s.size
  · have hd : decide ((s.size : Int) ≤ 200) = false := by simp; omega
    clear h
    go_enter Tryd.func13, Tryd.ntmps13
    go_wp2
    go_ret2
    exact ⟨rfl, rfl⟩
  · have hd : decide ((s.size : Int) ≤ 200) = true := by simp; omega
    by_cases h2 : k < 0
    · have hd2 : decide (k < 0) = true := by simp; omega
      clear h
      go_enter Tryd.func13, Tryd.ntmps13
      go_wp2
      go_ret2
      exact ⟨rfl, rfl⟩
    · have hd2 : decide (k < 0) = false := by simp; omega
      have h3 : (s.size : Int) - 1 ≤ k := by omega
      have hd3 : decide ((s.size : Int) - 1 ≤ k) = true := by simp; omega
      clear h
      go_enter Tryd.func13, Tryd.ntmps13
      go_wp2
      go_ret2
      exact ⟨rfl, rfl⟩

theorem implSwap_no (s : ByteArray) (k : Int) (w : World) (hm : s.size ≤ maxLen) (h : 200 < s.size ∨ k < 0 ∨ (s.size : Int) ≤ k + 1) :
    Calls Tryd.prog 12 #[.string s, .int .i64 k] w fun e w' => e = .returned (.tuple #[.string ⟨#[]⟩, .bool false]) ∧ w' = w := by
  have HM : Hid (s.size ≤ maxLen) := hm
  have HH : Hid (200 < s.size ∨ k < 0 ∨ (s.size : Int) ≤ k + 1) := h
  clear hm h
  go_enter Tryd.func12, Tryd.ntmps12
  go_wp2_with (go_at_call 35; refine (hasPair_no _ _ _ HM.out HH.out).mono ?_; rintro e w' ⟨rfl, rfl⟩)
  go_ret2
  exact ⟨rfl, rfl⟩

theorem Row.drew {W : World} {b : Nat} {l : List UInt8} (h : Row W b l) : Row W.drew b l := h

set_option maxHeartbeats 800000 in
theorem implSwap_yes (s : ByteArray) (i : Nat) (w : World) (hs : s.size ≤ 200) (k1 : i + 1 < s.size) :
    Calls Tryd.prog 12 #[.string s, .int .i64 i] w fun e w' => e = .returned (.tuple #[.string (swapS s i), .bool true]) ∧ Below w.heap.size w w' := by
  obtain ⟨cap, W1, hconv, hb, -, hr⟩ := conv_row s w
  have hl : s.data.toList.length = s.size := by simp
  have hk : i < s.size := by omega
  have b0 := byteAt_bd s i
  have b1 := byteAt_bd s (i + 1)
  have hc0 : W1.cell? ⟨w.heap.size, i, none⟩ = some (.int .u8 (byteAt s i)) := by rw [← byteAt_eq s i hk]; exact hr.1 i (by omega)
  have hc1 : W1.cell? ⟨w.heap.size, i + 1, none⟩ = some (.int .u8 (byteAt s (i + 1))) := by rw [← byteAt_eq s (i + 1) k1]; exact hr.1 (i + 1) (by omega)
  have hf0 := hr.2 i (by omega)
  have hf1 := hr.2 (i + 1) (by omega)
  have r4 := (hr.set i (by omega) (byteAt s (i + 1)) b1.1 b1.2).set (i + 1) (by simp; omega) (byteAt s i) b0.1 b0.2
  have hback := r4.drew.back s.size cap (by simp)
  have e5 : (⟨((s.data.toList.set i (UInt8.ofNat (byteAt s (i + 1)).toNat)).set (i + 1) (UInt8.ofNat (byteAt s i).toNat)).toArray⟩ : ByteArray) = swapS s i := by
    unfold swapS setZ setB
    simp
  rw [e5] at hback
  have HB4 : Hid (Below w.heap.size w ((W1.setCell ⟨w.heap.size, i, none⟩ (.int .u8 (byteAt s (i + 1)))).setCell ⟨w.heap.size, i + 1, none⟩ (.int .u8 (byteAt s i))).drew) := ((hb.setCell (Nat.le_refl _) _).setCell (Nat.le_refl _) _).drew
  have k1' : (i : Int) + 1 < (s.size : Int) := by omega
  have hk' : (i : Int) < (s.size : Int) := by omega
  have p1 : (0 : Int) ≤ (i : Int) + 1 := by omega
  have hwr : IntKind.i64.wrap ((i : Int) + 1) = (i : Int) + 1 := by rw [IntKind.wrap_i64]; omega
  clear r4 hr hb hl e5
  go_enter Tryd.func12, Tryd.ntmps12
  go_wp2_with (go_at_call 35; refine (hasPair_yes _ _ _ hs (by omega) (by omega)).mono ?_; rintro e w' ⟨rfl, rfl⟩)
  go_region
  all_goals go_wp2
  all_goals go_ret2
  all_goals exact ⟨rfl, HB4.out⟩
end Go.Proofs.YtfeiefgmeleeiaaDoor
