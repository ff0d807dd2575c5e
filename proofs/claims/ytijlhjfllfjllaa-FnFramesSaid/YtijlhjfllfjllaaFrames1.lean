/-
  A frame with a part between that nobody knows: the text, and what is read of it.
-/
import Derived.Test.YtijlhjfllfjllaaFrames0
namespace Go.Proofs.Ytijlhjfllfjllaa
open Go.RowKit

theorem frameB_parts (ps : List PD) (h : frameB ps = true) : ps.length ≤ 10 ∧ allGood ps = true ∧ (frameL ps).length ≤ 200 := by
  have h1 : partsB ps = true ∧ (frameL ps).length ≤ 200 := by unfold frameB at h; simpa using h
  have h2 : ps.length ≤ 10 ∧ allGood ps = true := by have := h1.1; unfold partsB at this; simpa using this
  exact ⟨h2.1, h2.2, h1.2⟩
theorem frameL_cut (ps : List PD) (k : Nat) : frameL ps = frameL (ps.take k) ++ frameL (ps.drop k) := by
  have : frameL (ps.take k ++ ps.drop k) = frameL (ps.take k) ++ frameL (ps.drop k) := by unfold frameL; exact List.flatMap_append
  rw [List.take_append_drop] at this
  exact this
theorem frameB_take (ps : List PD) (k : Nat) (h : frameB ps = true) : frameB (ps.take k) = true := by
  obtain ⟨h1, h2, h3⟩ := frameB_parts ps h
  have e := congrArg List.length (frameL_cut ps k)
  rw [List.length_append] at e
  unfold frameB partsB
  simp only [Bool.and_eq_true, decide_eq_true_eq]
  exact ⟨⟨by rw [List.length_take]; omega, allGood_take ps k h2⟩, by omega⟩

theorem head_le (ps : List PD) (k : Nat) (h : frameB ps = true) : (frameS (ps.take k)).size ≤ (frameS ps).size := by
  unfold frameS
  rw [if_pos h, if_pos (frameB_take ps k h), size_toArray, size_toArray, frameL_cut ps k, List.length_append]
  omega

/-- The frame with a part of kind 99 behind its first k parts. -/
def junkT (ps : List PD) (k : Nat) : ByteArray := frameS (ps.take k) ++ ⟨#[99, 1, 122]⟩ ++ (frameS ps).extract (frameS (ps.take k)).size (frameS ps).size
theorem junk_text (ps : List PD) (k : Nat) (h : frameB ps = true) : junkT ps k = ⟨(frameL (ps.take k) ++ (99 :: 1 :: 122 :: frameL (ps.drop k))).toArray⟩ := by
  have e1 : frameS ps = ⟨(frameL ps).toArray⟩ := by unfold frameS; rw [if_pos h]
  have e2 : frameS (ps.take k) = ⟨(frameL (ps.take k)).toArray⟩ := by unfold frameS; rw [if_pos (frameB_take ps k h)]
  unfold junkT
  rw [e1, e2, size_toArray, size_toArray, frameL_cut ps k]
  generalize frameL (ps.take k) = A
  generalize frameL (ps.drop k) = C
  apply ByteArray.ext
  simp
theorem junk_size (ps : List PD) (k : Nat) (h : frameB ps = true) : (junkT ps k).size = (frameS ps).size + 3 := by
  have e1 : frameS ps = ⟨(frameL ps).toArray⟩ := by unfold frameS; rw [if_pos h]
  rw [junk_text ps k h, e1, size_toArray, size_toArray, frameL_cut ps k]
  simp only [List.length_append, List.length_cons]
  omega
theorem write_junk (ps : List PD) (k : Nat) (h : frameB ps = true) (hz : (frameS ps).size + 3 ≤ 200) : readB (junkT ps k) = true ∧ readN (junkT ps k) = 1 ∧ readC (junkT ps k) = 0 ∧ readP (junkT ps k) = ps := by
  have h1 := junk_size ps k h
  have e1 : frameS ps = ⟨(frameL ps).toArray⟩ := by unfold frameS; rw [if_pos h]
  have h2 : (junkT ps k).size ≤ 200 := by omega
  unfold readB readN readC readP
  rw [if_pos h2, if_pos h2, if_pos h2, if_pos h2, junk_text ps k h]
  have hc : ps.take k ++ ps.drop k = ps := List.take_append_drop k ps
  have := frame_junk (ps.take k) (ps.drop k) (by rw [hc]; exact h) (by rw [hc]; rw [e1, size_toArray] at hz; exact hz)
  rw [this, hc]
  exact ⟨rfl, rfl, rfl, rfl⟩

theorem ReadsP.take {W : World} {a : Option Addr} {cap : Nat} {ps : List PD} (h : ReadsP W (.slice a ps.length cap) ps) (k : Nat) (hk : k ≤ ps.length) (cap' : Nat) : ReadsP W (.slice a k cap') (ps.take k) := by
  obtain ⟨a', cap2, hv, hc⟩ := h
  simp only [Value.slice.injEq] at hv
  obtain ⟨rfl, -, rfl⟩ := hv
  have hl : (ps.take k).length = k := by rw [List.length_take]; omega
  refine ⟨a, cap', by rw [hl], ?_⟩
  by_cases h0 : ps.take k = []
  · exact .inl h0
  · rcases hc with rfl | ⟨g, off, ha, hg, hcell⟩
    · exact absurd (by simp) h0
    · refine .inr ⟨g, off, ha, hg, fun j hj => ?_⟩
      rw [hl] at hj
      rw [List.getElem_take]
      exact hcell j (by omega)
end Go.Proofs.Ytijlhjfllfjllaa
