/-
  What 'ReadFrame' answers of a text that is too long; and how small the parts are that come out of a frame.
-/
import Derived.Test.YtijlhjfllfjllaaReadMath
namespace Go.Proofs.Ytijlhjfllfjllaa
open Go.RowKit

theorem implRead_no (S : ByteArray) (W : World) (h : 200 < S.size) (hm : S.size ≤ 1048576) :
    Calls Try.prog 9 #[.string S] W fun e W' => e = .returned (.tuple #[.slice none 0 0, .int .i64 0, .int .i64 0, .bool false]) ∧ W' = W := by
  have d : (200 : Int) < (S.size : Int) := by omega
  go_enter Try.func9, Try.ntmps9
  go_wp2
  refine bodyPost_ret (results_tmp4 rfl _ _ _) rfl ?_
  exact ⟨rfl, rfl⟩
theorem specRead_no (S : ByteArray) (W : World) (h : 200 < S.size) (hm : S.size ≤ 1048576) :
    Calls Try.prog 13 #[.string S] W fun e W' => e = .returned (.tuple #[.slice none 0 0, .int .i64 0, .int .i64 0, .bool false]) ∧ W' = W := by
  have d : (200 : Int) < (S.size : Int) := by omega
  go_enter Try.func13, Try.ntmps13
  go_wp2
  refine bodyPost_ret (results_tmp4 rfl _ _ _) rfl ?_
  exact ⟨rfl, rfl⟩

/-- What a part from a frame is at most. -/
def Small (p : PD) : Prop := p.t.size ≤ 255 ∧ p.zs.length ≤ 128
theorem Small.fit {p : PD} (h : Small p) : Fit p := ⟨Nat.le_trans h.1 (by omega), Nat.le_trans h.2 (by omega)⟩
theorem partIn_small (s : ByteArray) (h : skipB s = true) (k : Int) : Small (partIn k (skipT s)) := by
  have hb := byteAt_bd s 1
  have ht : (skipT s).size ≤ 255 := by rw [skipT_size s h]; omega
  unfold partIn
  by_cases k1 : k = 1
  · rw [if_pos k1]; exact ⟨ht, by simp⟩
  · rw [if_neg k1]
    refine ⟨by show 0 ≤ _; omega, ?_⟩
    show (numsTo (skipT s) _).length ≤ _
    rw [numsTo_len]; omega

theorem readR_small (s : ByteArray) : ∀ (n a : Nat) (ps : List PD) (left : Nat), s.size - a ≤ n → ps.length ≤ 10 → (∀ p ∈ ps, Small p) → (readR s a ps left).2.1.length ≤ 10 ∧ ∀ p ∈ (readR s a ps left).2.1, Small p := by
  intro n
  induction n with
  | zero =>
    intro a ps left h hl hp
    rw [readR_end s a ps left (by omega)]
    exact ⟨hl, hp⟩
  | succ n ih =>
    intro a ps left h hl hp
    have none : ([] : List PD).length ≤ 10 ∧ ∀ p ∈ ([] : List PD), Small p := ⟨by simp, fun p hp => by cases hp⟩
    by_cases h0 : s.size ≤ a
    · rw [readR_end s a ps left h0]; exact ⟨hl, hp⟩
    · cases h1 : skipB (cur s a) with
      | false => rw [readR_1 s a ps left h0 h1]; exact none
      | true =>
        by_cases h2 : 1 ≤ byteAt (cur s a) 0 ∧ byteAt (cur s a) 0 ≤ 4
        · cases h3 : goodIn (byteAt (cur s a) 0) (skipT (cur s a)) with
          | false => rw [readR_2 s a ps left h0 h1 h2 h3]; exact none
          | true =>
            by_cases h4 : ps.length = 10
            · rw [readR_3 s a ps left h0 h1 h2 h3 h4]; exact none
            · rw [readR_put s a ps left h0 h1 h2 h3 h4]
              refine ih _ _ _ (by omega) (by simp; omega) (fun p hp' => ?_)
              rcases List.mem_append.1 hp' with h | h
              · exact hp p h
              · obtain rfl : p = _ := by simpa using h
                exact partIn_small _ h1 _
        · rw [readR_left s a ps left h0 h1 h2]
          exact ih _ _ _ (by omega) hl hp
end Go.Proofs.Ytijlhjfllfjllaa
