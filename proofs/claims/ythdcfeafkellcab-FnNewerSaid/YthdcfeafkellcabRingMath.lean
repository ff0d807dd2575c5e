/-
  Numbers fit in one order just where some half of the round holds them all.
-/
import Derived.Test.YthdcfeafkellcabRingE
namespace Go.Proofs.Ythdcfeafkellcab

/-- What the model asks of a list. -/
def cycB (a b c : Int) : Bool := newerB a b && newerB b c && newerB c a
def pairB (a b : Int) : Bool := a == b || newerB a b || newerB b a
def fitsZ (zs : List Int) : Bool := zs.all fun a => zs.all fun b => pairB a b && zs.all fun c => !cycB a b c

theorem newerB_iff (a b : Int) : newerB a b = true ↔ 1 ≤ (a - b) % 64 ∧ (a - b) % 64 ≤ 31 := by unfold newerB stepsZ; exact decide_eq_true_iff
theorem fitsZ_iff (zs : List Int) : fitsZ zs = true ↔ ∀ a ∈ zs, ∀ b ∈ zs, (a = b ∨ newerB a b = true ∨ newerB b a = true) ∧ ∀ c ∈ zs, ¬ (newerB a b = true ∧ newerB b c = true ∧ newerB c a = true) := by
  unfold fitsZ pairB cycB
  simp only [List.all_eq_true, Bool.and_eq_true, Bool.or_eq_true, beq_iff_eq, Bool.not_eq_true', ← Bool.not_eq_true]
  constructor
  · intro h a ha b hb
    obtain ⟨h1, h2⟩ := h a ha b hb
    refine ⟨by rcases h1 with (h | h) | h <;> simp [h], fun c hc hh => h2 c hc ⟨⟨hh.1, hh.2.1⟩, hh.2.2⟩⟩
  · intro h a ha b hb
    obtain ⟨h1, h2⟩ := h a ha b hb
    refine ⟨by rcases h1 with h | h | h <;> simp [h], fun c hc hh => h2 c hc ⟨hh.1.1, hh.1.2, hh.2⟩⟩
theorem hasN_mem {zs : List Int} {z : Int} (h : z ∈ zs) (hz : seqB z = true) : hasN zs z.toNat = true := by
  have := (seqB_iff.1 hz).1
  unfold hasN
  rw [List.any_eq_true]
  exact ⟨z, h, by simp; omega⟩
theorem hasN_of {zs : List Int} {n : Nat} (h : hasN zs n = true) : (n : Int) ∈ zs := by
  unfold hasN at h
  rw [List.any_eq_true] at h
  obtain ⟨z, hz, e⟩ := h
  have : z = (n : Int) := by simpa using e
  rw [← this]
  exact hz
theorem sameR_iff (f : Nat → Bool) (s : Nat) : sameR (partB f s 32) f = true ↔ ∀ n, n < 64 → f n = true → (n + 64 - s) % 64 < 32 := by
  unfold sameR partB
  rw [List.all_eq_true]
  constructor
  · intro h n hn hf
    have := h n (by simpa using hn)
    rw [hf] at this
    simpa using this
  · intro h n hn
    have hn' : n < 64 := by simpa using hn
    cases hf : f n
    · simp
    · have := h n hn' hf
      simp [this]
theorem within_iff (zs : List Int) (hz : ∀ z ∈ zs, seqB z = true) : withinB (hasN zs) = true ↔ ∃ s : Int, (0 ≤ s ∧ s ≤ 63) ∧ ∀ z ∈ zs, (z - s) % 64 < 32 := by
  unfold withinB
  rw [List.any_eq_true]
  constructor
  · rintro ⟨s, hs, h⟩
    have hs' : s < 64 := by simpa using hs
    rw [sameR_iff] at h
    refine ⟨s, by omega, fun z hzm => ?_⟩
    have h0 := seqB_iff.1 (hz z hzm)
    have := h z.toNat (by omega) (hasN_mem hzm (hz z hzm))
    omega
  · rintro ⟨s, hs, h⟩
    refine ⟨s.toNat, by simp; omega, ?_⟩
    rw [sameR_iff]
    intro n hn hf
    have := h _ (hasN_of hf)
    omega
/-- One than which all others are newer. -/
theorem least_of : ∀ (zs : List Int), zs ≠ [] → (∀ a ∈ zs, ∀ b ∈ zs, (a = b ∨ newerB a b = true ∨ newerB b a = true) ∧ ∀ c ∈ zs, ¬ (newerB a b = true ∧ newerB b c = true ∧ newerB c a = true)) → ∃ m ∈ zs, ∀ b ∈ zs, b = m ∨ newerB b m = true
  | [], h, _ => absurd rfl h
  | [x], _, _ => ⟨x, by simp, by simp⟩
  | x :: y :: zs, _, h => by
    obtain ⟨m, hm, hl⟩ := least_of (y :: zs) (by simp) (fun a ha b hb => ⟨(h a (.tail _ ha) b (.tail _ hb)).1, fun c hc => (h a (.tail _ ha) b (.tail _ hb)).2 c (.tail _ hc)⟩)
    rcases (h x (.head _) m (.tail _ hm)).1 with e | e | e
    · exact ⟨m, .tail _ hm, fun b hb => by
        rcases List.mem_cons.1 hb with hb | hb
        · exact .inl (hb.trans e)
        · exact hl b hb⟩
    · exact ⟨m, .tail _ hm, fun b hb => by
        rcases List.mem_cons.1 hb with hb | hb
        · rw [hb]; exact .inr e
        · exact hl b hb⟩
    · refine ⟨x, .head _, fun b hb => ?_⟩
      rcases List.mem_cons.1 hb with hb | hb
      · exact .inl hb
      · rcases hl b hb with hbm | hbm
        · rw [hbm]; exact .inr e
        · rcases (h b (.tail _ hb) x (.head _)).1 with e2 | e2 | e2
          · exact .inl e2
          · exact .inr e2
          · exact absurd ⟨hbm, e, e2⟩ ((h b (.tail _ hb) m (.tail _ hm)).2 x (.head _))
theorem within_fits (zs : List Int) (hz : ∀ z ∈ zs, seqB z = true) : withinB (hasN zs) = fitsZ zs := by
  rw [Bool.eq_iff_iff, within_iff zs hz, fitsZ_iff]
  constructor
  · rintro ⟨s, hs, h⟩ a ha b hb
    have a0 := seqB_iff.1 (hz a ha)
    have b0 := seqB_iff.1 (hz b hb)
    have a1 := h a ha
    have b1 := h b hb
    simp only [newerB_iff]
    refine ⟨by omega, fun c hc => ?_⟩
    have c0 := seqB_iff.1 (hz c hc)
    have c1 := h c hc
    omega
  · intro h
    by_cases he : zs = []
    · exact ⟨0, by omega, by simp [he]⟩
    · obtain ⟨m, hm, hl⟩ := least_of zs he h
      have m0 := seqB_iff.1 (hz m hm)
      refine ⟨m, m0, fun z hzm => ?_⟩
      rcases hl z hzm with e | e
      · rw [e]; omega
      · rw [newerB_iff] at e
        omega
end Go.Proofs.Ythdcfeafkellcab
