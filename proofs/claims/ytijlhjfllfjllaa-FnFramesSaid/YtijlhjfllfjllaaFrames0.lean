/-
  What 'ReadFrame' and 'SkipPart' of both sides answer of any text that is drawn, told alike; and what the law FnFrames holds of frames.
-/
import Derived.Test.YtijlhjfllfjllaaFrameMath
import Derived.Test.YtijlhjfllfjllaaReadImpl
import Derived.Test.YtijlhjfllfjllaaReadEnds
import Derived.Test.YtijlhjfllfjllaaDraw3
import Derived.Test.YtijlhjfllfjllaaSameParts
import Derived.Test.YtijlhjfllfjllaaNum0
namespace Go.Proofs.Ytijlhjfllfjllaa
open Go.RowKit

/-- What is read of a text: how many are left out, the code, whether it is a frame, the parts. -/
def readN (t : ByteArray) : Int := if t.size ≤ 200 then ((readR t 0 [] 0).2.2 : Int) else 0
def readC (t : ByteArray) : Int := if t.size ≤ 200 then (readR t 0 [] 0).1 else 0
def readB (t : ByteArray) : Bool := if t.size ≤ 200 then decide ((readR t 0 [] 0).1 = 0) else false
def readP (t : ByteArray) : List PD := if t.size ≤ 200 then (readR t 0 [] 0).2.1 else []

def ReadIt (B : Nat) (w0 : World) (t : ByteArray) (e : Ending) (W' : World) : Prop :=
  ∃ v, e = .returned (.tuple #[v, .int .i64 (readN t), .int .i64 (readC t), .bool (readB t)]) ∧ ReadsP W' v (readP t) ∧ Since B w0 W'

theorem implRead_u (t : ByteArray) (B : Nat) (w0 W : World) (hs : Since B w0 W) (ht : t.size ≤ 1048576) : Calls Try.prog 9 #[.string t] W (ReadIt B w0 t) := by
  unfold ReadIt readN readC readB readP
  by_cases h : t.size ≤ 200
  · simp only [if_pos h]
    refine (implRead_any t W h).mono ?_
    rintro e W' ⟨⟨v, rfl, hv⟩, hb⟩
    exact ⟨v, rfl, hv.reads, hs.step hb⟩
  · simp only [if_neg h]
    refine (implRead_no t W (by omega) ht).mono ?_
    rintro e W' ⟨rfl, rfl⟩
    exact ⟨_, rfl, ⟨none, 0, rfl, .inl rfl⟩, hs⟩
theorem specRead_u (t : ByteArray) (B : Nat) (w0 W : World) (hs : Since B w0 W) (ht : t.size ≤ 1048576) : Calls Try.prog 13 #[.string t] W (ReadIt B w0 t) := by
  unfold ReadIt readN readC readB readP
  by_cases h : t.size ≤ 200
  · simp only [if_pos h]
    refine (specRead_any t W h).mono ?_
    rintro e W' ⟨⟨v, rfl, hv⟩, hb⟩
    exact ⟨v, rfl, hv.reads, hs.step hb⟩
  · simp only [if_neg h]
    refine (specRead_no t W (by omega) ht).mono ?_
    rintro e W' ⟨rfl, rfl⟩
    exact ⟨_, rfl, ⟨none, 0, rfl, .inl rfl⟩, hs⟩

theorem readP_fit (t : ByteArray) : (readP t).length ≤ 10 ∧ ∀ j (hj : j < (readP t).length), Fit (readP t)[j] := by
  unfold readP
  by_cases h : t.size ≤ 200
  · simp only [if_pos h]
    obtain ⟨h1, h2⟩ := readR_small t (t.size - 0) 0 [] 0 (Nat.le_refl _) (by simp) (fun p hp => by cases hp)
    exact ⟨h1, fun j hj => (h2 _ (List.getElem_mem hj)).fit⟩
  · simp only [if_neg h]
    exact ⟨by simp, fun j hj => absurd hj (Nat.not_lt_zero _)⟩

def skipK (t : ByteArray) : Int := if skipB t = true then byteAt t 0 else 0
def skipN (t : ByteArray) : Int := if skipB t = true then byteAt t 1 else 0
def skipU (t : ByteArray) : ByteArray := if skipB t = true then skipT t else ⟨#[]⟩
def SkipIt (B : Nat) (w0 : World) (t : ByteArray) (e : Ending) (W' : World) : Prop :=
  e = .returned (.tuple #[.int .i64 (skipK t), .int .i64 (skipN t), .string (skipU t), .bool (skipB t)]) ∧ Since B w0 W'
theorem implSkip_u (t : ByteArray) (B : Nat) (w0 W : World) (hs : Since B w0 W) (ht : t.size ≤ maxLen) : Calls Try.prog 14 #[.string t] W (SkipIt B w0 t) := by
  unfold SkipIt skipK skipN skipU
  cases h : skipB t with
  | true =>
    refine (implSkip_yes t W h).mono ?_
    rintro e W' ⟨rfl, hb⟩
    exact ⟨rfl, hs.step hb⟩
  | false =>
    refine (implSkip_no t W ht h).mono ?_
    rintro e W' ⟨rfl, rfl⟩
    exact ⟨rfl, hs⟩
theorem specSkip_u (t : ByteArray) (B : Nat) (w0 W : World) (hs : Since B w0 W) (ht : t.size ≤ maxLen) : Calls Try.prog 15 #[.string t] W (SkipIt B w0 t) := by
  unfold SkipIt skipK skipN skipU
  cases h : skipB t with
  | true =>
    refine (specSkip_yes t W h).mono ?_
    rintro e W' ⟨rfl, hb⟩
    exact ⟨rfl, hs.step hb⟩
  | false =>
    refine (specSkip_no t W ht h).mono ?_
    rintro e W' ⟨rfl, rfl⟩
    exact ⟨rfl, hs⟩

/-- A frame that was read with nothing left out is written again as it was. -/
theorem read_write (t : ByteArray) (h1 : readB t = true) (h2 : readN t = 0) : frameB (readP t) = true ∧ frameS (readP t) = t := by
  unfold readB at h1
  unfold readN at h2
  unfold readP
  by_cases h : t.size ≤ 200
  · rw [if_pos h] at h1 h2 ⊢
    have e1 : (readR t 0 [] 0).1 = 0 := of_decide_eq_true h1
    have e2 : (readR t 0 [] 0).2.2 = 0 := by omega
    generalize hr : readR t 0 [] 0 = r at e1 e2 ⊢
    obtain ⟨c, ps, m⟩ := r
    simp only at e1 e2
    subst e1
    subst e2
    obtain ⟨-, hx⟩ := read_again t (t.size - 0) 0 [] 0 ps 0 (Nat.le_refl _) (Nat.zero_le _) (by simp) hr
    obtain ⟨rs, e3, e4, e5, e6⟩ := hx rfl
    rw [List.nil_append] at e3
    subst e3
    rw [List.drop_zero] at e4
    have hz : (frameL ps).length ≤ 200 := by
      rw [e4]
      have : t.data.toList.length = t.size := by simp
      omega
    have hB : frameB ps = true := by
      unfold frameB partsB
      simp only [Bool.and_eq_true, decide_eq_true_eq]
      exact ⟨⟨e6, e5⟩, hz⟩
    refine ⟨hB, ?_⟩
    unfold frameS
    rw [if_pos hB, e4]
  · rw [if_neg h] at h1
    cases h1

/-- A frame is read as it was written. -/
theorem write_read (ps : List PD) (h : frameB ps = true) : readB (frameS ps) = true ∧ readN (frameS ps) = 0 ∧ readC (frameS ps) = 0 ∧ readP (frameS ps) = ps := by
  have hz := frameS_size ps
  unfold readB readN readC readP
  rw [if_pos hz, if_pos hz, if_pos hz, if_pos hz]
  have e : frameS ps = ⟨(frameL ps).toArray⟩ := by unfold frameS; rw [if_pos h]
  rw [e, frame_back ps h]
  exact ⟨rfl, rfl, rfl, rfl⟩
end Go.Proofs.Ytijlhjfllfjllaa
