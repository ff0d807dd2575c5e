/-
  What 'impl.remainder' answers: for a number in 0..65279, with the table as laid, its remainder modulo 255; nothing is written.
-/
import Derived.Test.YtfeiefgmeleeiaaDoorRows
import Derived.Test.YtfeiefgmeleeiaaDoorMath
import Derived.WalkKit
import Derived.WalkMore
import Derived.ScopeJumps
import Derived.Outline
namespace Go.Proofs.YtfeiefgmeleeiaaDoor
open Go.RowKit

/-- The table's cells hold its numbers. -/
def Tab (w : World) : Prop := ∀ k, k < 8 → w.cell? ⟨0, k, none⟩ = some (.int .i64 (modAt k))

set_option maxHeartbeats 400000 in
theorem rem_any (n : Int) (w : World) (h0 : 0 ≤ n) (h1 : n < 65280) (ht : Tab w) :
    Calls Tryd.prog 33 #[.int .i64 n] w fun e w' => e = .returned (.int .i64 (n % 255)) ∧ w' = w := by
  go_enter Tryd.func33, Tryd.ntmps33
  go_wp2
  refine wp_scope_jumps 0 (fun a' w' => w' = w ∧ ∃ (k : Nat) (m : Int) (u4 u5 u6 u7 u8 u9 u10 u11 u12 u13 u14 u15 u16 u17 : Value), a' = { tmps := #[.int .i64 m, undef, .int .i64 0, .int .i64 k, u4, u5, u6, u7, u8, u9, u10, u11, u12, u13, u14, u15, u16, u17, undef], defers := [] } ∧ k < 8 ∧ 0 ≤ m ∧ m < 2 * modAt k ∧ m % 255 = n % 255) (fun a' _ => 8 - (intOf (a'.tmps.getD 3 undef)).toNat) rfl ?_ ?_
  · have hc := ht 0 (by omega)
    have hv : modAt 0 = 32640 := by decide
    rw [hv] at hc
    clear ht
    go_wp2
    go_step3
    by_cases hn : 32640 ≤ n
    all_goals
      go_wp2
      go_step3
    · exact ⟨rfl, rfl, 1, n - 32640, _, _, _, _, _, _, _, _, _, _, _, _, _, _, rfl, by omega, by omega, by have := modAt_one; omega, by omega⟩
    · exact ⟨rfl, rfl, 1, n, _, _, _, _, _, _, _, _, _, _, _, _, _, _, rfl, by omega, by omega, by have := modAt_one; omega, by omega⟩
  · rintro a' w' ⟨rfl, k, m, u4, u5, u6, u7, u8, u9, u10, u11, u12, u13, u14, u15, u16, u17, rfl, hk, hm0, hm1, hme⟩
    have hc := ht k hk
    clear ht
    have hb := modAt_bd k hk
    by_cases hn : modAt k ≤ m
    · have hs := rem_sub k hk m hn hm1
      by_cases h8 : k = 7
      · subst h8
        have HL := rem_last (m - modAt 7) n hs.1 hs.2.1 (hs.2.2.trans hme)
        clear hs
        go_wp2
        simp only [Exit.jump]
        go_ret
        exact ⟨rfl, rfl⟩
      · have h8' : (k : Int) + 1 < 8 := by omega
        go_wp2
        go_step3
        exact ⟨rfl, ⟨rfl, k + 1, m - modAt k, _, _, _, _, _, _, _, _, _, _, _, _, _, _, rfl, by omega, by omega, by have := modAt_next k (by omega); omega, by omega⟩, by simp [intOf]; omega⟩
    · by_cases h8 : k = 7
      · subst h8
        have HL := rem_last m n hm0 (by omega) hme
        go_wp2
        simp only [Exit.jump]
        go_ret
        exact ⟨rfl, rfl⟩
      · have h8' : (k : Int) + 1 < 8 := by omega
        go_wp2
        go_step3
        exact ⟨rfl, ⟨rfl, k + 1, m, _, _, _, _, _, _, _, _, _, _, _, _, _, _, rfl, by omega, by omega, by have := modAt_next k (by omega); omega, by omega⟩, by simp [intOf]; omega⟩
end Go.Proofs.YtfeiefgmeleeiaaDoor
