/-
  What the program's and the model's sums answer: of bytes that lie in memory, and of a text, 'fl' of its bytes; nothing that was there is written.
-/
import Derived.Test.YtfeiefgmeleeiaaDoorRem
import Derived.Laws.IdiomStrings
import Derived.Below
namespace Go.Proofs.YtfeiefgmeleeiaaDoor
open Go.RowKit

theorem take_snocL (l : List UInt8) (k : Nat) (h : k < l.length) : l.take (k + 1) = l.take k ++ [l[k]] := List.take_succ_eq_append_getElem h

set_option maxHeartbeats 400000 in
/-- 'spec.l1Sums'. -/
theorem l1Sums_any (s : ByteArray) (w : World) (hs : s.size ≤ 200) :
    Calls Tryd.prog 31 #[.string s] w fun e w' => e = .returned (.tuple #[.int .i64 (flA s.data.toList), .int .i64 (flB s.data.toList)]) ∧ w' = w := by
  go_enter Tryd.func31, Tryd.ntmps31
  go_wp2
  go_loop [4, 5, 6] (fun a b i => ∃ k : Nat, k ≤ s.size ∧ i = .int .i64 k ∧ a = .int .i64 (flA (s.data.toList.take k)) ∧ b = .int .i64 (flB (s.data.toList.take k))) (fun _ _ i => s.size - (intOf i).toNat)
  case atStart => exact ⟨0, Nat.zero_le _, rfl, rfl, rfl⟩
  case round =>
    obtain ⟨k, hk, rfl, rfl, rfl⟩ := hrel
    have hb := fl_bd (s.data.toList.take k)
    by_cases hlt : k < s.size
    · have HA : Hid (flA (s.data.toList.take (k + 1)) = (flA (s.data.toList.take k) + (s[k].toNat : Int)) % 255) := by rw [take_snoc s k hlt]; exact flA_snoc _ _
      have HB : Hid (flB (s.data.toList.take (k + 1)) = (flB (s.data.toList.take k) + (flA (s.data.toList.take k) + (s[k].toNat : Int)) % 255) % 255) := by rw [take_snoc s k hlt]; exact flB_snoc _ _
      have hx : (s[k].toNat : Int) ≤ 255 := by have := s[k].toNat_lt; omega
      go_wp2
      go_round
      case rel => exact ⟨k + 1, by omega, by go_num, by rw [HA.out], by rw [HB.out]⟩
      case measure => simp [intOf]; omega
    · go_wp2
      go_ret2
      rw [take_all s k hlt]
      exact ⟨rfl, rfl⟩

set_option maxHeartbeats 400000 in
/-- 'impl.sumBytes', of a row of bytes at the head of a block. -/
theorem sumBytes_any (l : List UInt8) (b cap : Nat) (w : World) (hl : l.length ≤ 200) (hc : ∀ j (hj : j < l.length), w.cell? ⟨b, j, none⟩ = some (.int .u8 (l[j].toNat : Int))) (ht : Tab w) :
    Calls Tryd.prog 29 #[.slice (some ⟨b, 0, none⟩) l.length cap] w fun e w' => e = .returned (.tuple #[.int .i64 (flA l), .int .i64 (flB l)]) ∧ w' = w := by
  go_enter Tryd.func29, Tryd.ntmps29
  go_wp2
  go_loop [4, 5, 10] (fun a b i => ∃ k : Nat, k ≤ l.length ∧ i = .int .i64 k ∧ a = .int .i64 (flA (l.take k)) ∧ b = .int .i64 (flB (l.take k))) (fun _ _ i => l.length - (intOf i).toNat)
  case atStart => exact ⟨0, Nat.zero_le _, rfl, rfl, rfl⟩
  case round =>
    obtain ⟨k, hk, rfl, rfl, rfl⟩ := hrel
    have hb := fl_bd (l.take k)
    by_cases hlt : k < l.length
    · have HA : Hid (flA (l.take (k + 1)) = (flA (l.take k) + (l[k].toNat : Int)) % 255) := by rw [take_snocL l k hlt]; exact flA_snoc _ _
      have HB : Hid (flB (l.take (k + 1)) = (flB (l.take k) + (flA (l.take k) + (l[k].toNat : Int)) % 255) % 255) := by rw [take_snocL l k hlt]; exact flB_snoc _ _
      have hx : (l[k].toNat : Int) ≤ 255 := by have := l[k].toNat_lt; omega
      have hcell := hc k hlt
      have HT : Hid (Tab w) := ht
      clear hc ht
      go_wp2_with (go_at_call 33; refine (rem_any _ _ (by omega) (by omega) HT.out).mono ?_; rintro e w' ⟨rfl, rfl⟩)
      go_round
      case rel => exact ⟨k + 1, by omega, by go_num, val_int (by rw [HA.out]), val_int (by rw [HB.out]; omega)⟩
      case measure => simp [intOf]; omega
    · go_wp2
      go_ret2
      rw [List.take_of_length_le (by omega)]
      exact ⟨rfl, rfl⟩

/-- The same, the bytes being those of a text. -/
theorem sumBytes_str (l : List UInt8) (n b cap : Nat) (w : World) (hn : l.length = n) (hl : n ≤ 200) (hc : Hid (∀ j (hj : j < l.length), w.cell? ⟨b, j, none⟩ = some (.int .u8 (l[j].toNat : Int)))) (ht : Hid (Tab w)) :
    Calls Tryd.prog 29 #[.slice (some ⟨b, 0, none⟩) n cap] w fun e w' => e = .returned (.tuple #[.int .i64 (flA l), .int .i64 (flB l)]) ∧ w' = w := by
  subst hn
  exact sumBytes_any l b cap w hl hc.out ht.out
end Go.Proofs.YtfeiefgmeleeiaaDoor
