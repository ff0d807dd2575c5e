/-
  'markSummary' of the laws.
-/
import Derived.Test.YtkpdiojomgiocayLsSmLaw
namespace Go.Proofs.Ytkpdiojomgiocay
open Go.RowKit
set_option linter.unusedVariables false

set_option maxRecDepth 100000 in
set_option maxHeartbeats 1000000 in
theorem markSm_any (W : World) (B : Nat) (z : Value) (k0 : Nat) (s : SmD) (h : OwnHv W B z s.Hs) (hl : s.Hs.length ≤ 4194304) (hk1 : k0 ≤ 500000000) :
    Calls Try.prog 26 #[.agg #[.int .i64 s.Lo, .int .i64 s.Hi, z], .int .i64 (k0 : Int)] W fun e W' => e = .returned (.int .i64 ((k0 + 2 * s.Hs.length : Nat) : Int)) ∧ W.grownBy W' z.ownBlock := by
  obtain ⟨k, t, zs⟩ := s
  simp only at *
  obtain ⟨a1, c1, rfl⟩ := h.shape
  have CM : Hid (∀ w', Below W.heap.size W w' → Calls Try.prog 20 #[.slice a1 zs.length c1, .int .i64 (k0 : Int)] w' fun e W' => e = .returned (.int .i64 ((k0 + 2 * zs.length : Nat) : Int)) ∧ w'.grownBy W' (Value.slice a1 zs.length c1).ownBlock) := fun w' hb =>
    (markHvs_any w' B _ k0 zs (h.below hb) hl (by omega)).mono fun e w2 hh => ⟨hh.1, hh.2.2.2⟩
  have HB1 : Hid (Below W.heap.size W (W.alloc (.cells #[.int .i64 k, .int .i64 t, .slice a1 zs.length c1] 29)) ∧ W.grownBy (W.alloc (.cells #[.int .i64 k, .int .i64 t, .slice a1 zs.length c1] 29)) (Value.slice a1 zs.length c1).ownBlock) := ⟨(Below.refl _ W).alloc (Nat.le_refl _) _, World.grownBy_alloc W _ _⟩
  clear h
  generalize (k0 + 2 * zs.length : Nat) = q at *
  go_enter Try.func26, Try.ntmps26
  go_wp2_with fail
  refine (CM.out _ HB1.out.1).mono ?_
  rintro e w1 ⟨rfl, hg⟩
  have HG : Hid (W.grownBy w1 (Value.slice a1 zs.length c1).ownBlock) := HB1.out.2.trans hg
  clear hg CM
  go_wp2
  go_ret
  exact ⟨rfl, HG.out⟩
end Go.Proofs.Ytkpdiojomgiocay
