/-
  'NewPair', the program's and the model's.
-/
import Derived.Test.YtchddjidjfpehaaJh
import Derived.Test.YtchddjidjfpehaaNextSt
namespace Go.Proofs.Ytchddjidjfpehaa
open Go.RowKit

def newB (left : Int) : Bool := decide (0 ≤ left ∧ left ≤ 3)
def newP (left : Int) : PR := if newB left then ⟨[if left = 0 then 0 else 1, if left = 0 then 0 else 1], [left, left], []⟩ else noP

theorem newP_len (left : Int) : (newP left).st.length ≤ 2 ∧ (newP left).lf.length ≤ 2 ∧ (newP left).ln.length ≤ 12 := by
  unfold newP
  split
  · exact ⟨Nat.le_refl _, Nat.le_refl _, Nat.zero_le _⟩
  · exact ⟨Nat.zero_le _, Nat.zero_le _, Nat.zero_le _⟩

/-- Two rows of two numbers, made one behind the other. -/
theorem two_rows (W : World) (B n : Nat) (hn : W.heap.size = n) (hB : B ≤ n) (a b c d : Int) :
    Own3 ((W.alloc (.cells #[.int .i64 a, .int .i64 b] 3)).alloc (.cells #[.int .i64 c, .int .i64 d] 3)) B (.slice (some ⟨n, 0, none⟩) 2 2) (.slice (some ⟨n + 1, 0, none⟩) 2 2) (.slice none 0 0) ⟨[a, b], [c, d], []⟩ := by
  subst hn
  refine ⟨?_, ?_, OwnH.nil _ _, fun k hk hk2 => ?_⟩
  · exact World.ownsRow.alloc (World.ownsRow_lit (base := B) (e := 3) (size := 1) W #[.int .i64 a, .int .i64 b] 2 hB (by unfold maxLen; omega) rfl) _
  · have := World.ownsRow_lit (base := B) (e := 3) (size := 1) (W.alloc (.cells #[.int .i64 a, .int .i64 b] 3)) #[.int .i64 c, .int .i64 d] 2 (by simp; omega) (by unfold maxLen; omega) rfl
    unfold Own
    simpa using this
  · simp [Value.ownBlock] at hk hk2
    omega

set_option maxRecDepth 100000 in
set_option maxHeartbeats 1000000 in
theorem implNew_any (left : Int) (W : World) : Calls Try.prog 36 #[.int .i64 left] W fun e W' => ∃ x y z, e = .returned (.tuple #[.agg #[x, y, z], .bool (newB left)]) ∧ Own3 W' W.heap.size x y z (newP left) ∧ Below W.heap.size W W' := by
  by_cases h : 0 ≤ left ∧ left ≤ 3
  · have hb : newB left = true := decide_eq_true h
    have hp : newP left = ⟨[if left = 0 then 0 else 1, if left = 0 then 0 else 1], [left, left], []⟩ := by unfold newP; rw [hb]; rfl
    rw [hb, hp]
    clear hb hp
    obtain ⟨h0, h3⟩ := h
    by_cases hz : left = 0
    · subst hz
      rw [if_pos rfl]
      go_enter Try.func36, Try.ntmps36
      go_wp2
      refine bodyPost_ret (v := .tuple #[.agg #[.slice (some ⟨W.heap.size + 1, 0, none⟩) 2 2, .slice (some ⟨W.heap.size + 1 + 1, 0, none⟩) 2 2, .slice none 0 0], .bool true]) (by simp [results, Try.results36, go_sem]) rfl ⟨_, _, _, rfl, ?_, ?_⟩
      · exact two_rows _ W.heap.size (W.heap.size + 1) (by simp) (Nat.le_succ _) _ _ _ _
      · exact (((Below.refl _ W).alloc (Nat.le_refl _) _).alloc (by simp) _).alloc (by simp; omega) _
    · rw [if_neg hz]
      have hp : 0 < left := by omega
      go_enter Try.func36, Try.ntmps36
      go_wp2
      refine bodyPost_ret (v := .tuple #[.agg #[.slice (some ⟨W.heap.size + 1, 0, none⟩) 2 2, .slice (some ⟨W.heap.size + 1 + 1, 0, none⟩) 2 2, .slice none 0 0], .bool true]) (by simp [results, Try.results36, go_sem]) rfl ⟨_, _, _, rfl, ?_, ?_⟩
      · exact two_rows _ W.heap.size (W.heap.size + 1) (by simp) (Nat.le_succ _) _ _ _ _
      · exact (((Below.refl _ W).alloc (Nat.le_refl _) _).alloc (by simp) _).alloc (by simp; omega) _
  · have hb : newB left = false := decide_eq_false h
    have hp : newP left = noP := by unfold newP; rw [hb]; rfl
    rw [hb, hp]
    clear hb hp
    have h' : left < 0 ∨ 3 < left := by omega
    clear h
    rcases h' with h' | h'
    · go_enter Try.func36, Try.ntmps36
      go_wp2
      all_goals
        refine bodyPost_ret (v := .tuple #[.agg #[.slice none 0 0, .slice none 0 0, .slice none 0 0], .bool false]) (by simp [results, Try.results36, go_sem]) rfl ⟨_, _, _, rfl, Own3.nil _ _, ?_⟩
        exact (Below.refl _ W).alloc (Nat.le_refl _) _
    · have hge : ¬ left < 0 := by omega
      go_enter Try.func36, Try.ntmps36
      go_wp2
      all_goals
        refine bodyPost_ret (v := .tuple #[.agg #[.slice none 0 0, .slice none 0 0, .slice none 0 0], .bool false]) (by simp [results, Try.results36, go_sem]) rfl ⟨_, _, _, rfl, Own3.nil _ _, ?_⟩
        exact (Below.refl _ W).alloc (Nat.le_refl _) _

set_option maxRecDepth 100000 in
set_option maxHeartbeats 1000000 in
theorem specNew_any (left : Int) (W : World) : Calls Try.prog 37 #[.int .i64 left] W fun e W' => ∃ x y z, e = .returned (.tuple #[.agg #[x, y, z], .bool (newB left)]) ∧ Own3 W' W.heap.size x y z (newP left) ∧ Below W.heap.size W W' := by
  by_cases h : 0 ≤ left ∧ left ≤ 3
  · have hb : newB left = true := decide_eq_true h
    have hp : newP left = ⟨[if left = 0 then 0 else 1, if left = 0 then 0 else 1], [left, left], []⟩ := by unfold newP; rw [hb]; rfl
    rw [hb, hp]
    have HD : Hid (decide (0 ≤ left ∧ left ≤ 3) = true) := decide_eq_true h
    clear hb hp
    obtain ⟨h0, h3⟩ := h
    by_cases hz : left = 0
    · subst hz
      rw [if_pos rfl]
      go_enter Try.func37, Try.ntmps37
      go_wp2_with fail
      refine (l1In_any _ _ _ _).mono ?_
      rintro e w1 ⟨rfl, rfl⟩
      rw [HD.out]
      go_wp2
      refine bodyPost_ret (v := .tuple #[.agg #[.slice (some ⟨W.heap.size + 1, 0, none⟩) 2 2, .slice (some ⟨W.heap.size + 1 + 1, 0, none⟩) 2 2, .slice none 0 0], .bool true]) (by simp [results, Try.results37, go_sem]) rfl ⟨_, _, _, rfl, ?_, ?_⟩
      · exact two_rows _ W.heap.size (W.heap.size + 1) (by simp) (Nat.le_succ _) _ _ _ _
      · exact (((Below.refl _ W).alloc (Nat.le_refl _) _).alloc (by simp) _).alloc (by simp; omega) _
    · rw [if_neg hz]
      have hp : 0 < left := by omega
      go_enter Try.func37, Try.ntmps37
      go_wp2_with fail
      refine (l1In_any _ _ _ _).mono ?_
      rintro e w1 ⟨rfl, rfl⟩
      rw [HD.out]
      go_wp2
      refine bodyPost_ret (v := .tuple #[.agg #[.slice (some ⟨W.heap.size + 1, 0, none⟩) 2 2, .slice (some ⟨W.heap.size + 1 + 1, 0, none⟩) 2 2, .slice none 0 0], .bool true]) (by simp [results, Try.results37, go_sem]) rfl ⟨_, _, _, rfl, ?_, ?_⟩
      · exact two_rows _ W.heap.size (W.heap.size + 1) (by simp) (Nat.le_succ _) _ _ _ _
      · exact (((Below.refl _ W).alloc (Nat.le_refl _) _).alloc (by simp) _).alloc (by simp; omega) _
  · have hb : newB left = false := decide_eq_false h
    have hp : newP left = noP := by unfold newP; rw [hb]; rfl
    rw [hb, hp]
    have HD : Hid (decide (0 ≤ left ∧ left ≤ 3) = false) := decide_eq_false h
    clear hb hp
    have h' : left < 0 ∨ 3 < left := by omega
    clear h
    go_enter Try.func37, Try.ntmps37
    go_wp2_with fail
    refine (l1In_any _ _ _ _).mono ?_
    rintro e w1 ⟨rfl, rfl⟩
    rw [HD.out]
    go_wp2
    all_goals
      refine bodyPost_ret (v := .tuple #[.agg #[.slice none 0 0, .slice none 0 0, .slice none 0 0], .bool false]) (by simp [results, Try.results37, go_sem]) rfl ⟨_, _, _, rfl, Own3.nil _ _, ?_⟩
      exact (Below.refl _ W).alloc (Nat.le_refl _) _

end Go.Proofs.Ytchddjidjfpehaa
