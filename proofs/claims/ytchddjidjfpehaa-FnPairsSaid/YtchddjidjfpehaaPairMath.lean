/-
  Pairs as plain data: which are good, which steps can be done, what a step makes of a pair.
-/
import Derived.WalkKit
namespace Go.Proofs.Ytchddjidjfpehaa

/-- A hello's data, and a pair's. -/
structure HD where
  f : Int
  h : Bool
structure PR where
  st : List Int
  lf : List Int
  ln : List HD

/-- Whether a side's state and what is left go together. -/
def goodS (s l : Int) : Bool := decide ((s = 0 ∧ l = 0) ∨ ((s = 1 ∨ s = 2) ∧ 1 ≤ l ∧ l ≤ 3))
def sideB (k : Int) : Bool := decide (0 ≤ k ∧ k ≤ 1)
def goodL (ln : List HD) : Bool := ln.all fun x => sideB x.f
def goodT (st lf : List Int) : Bool :=
  match st, lf with
  | [s0, s1], [l0, l1] => goodS s0 l0 && goodS s1 l1
  | _, _ => false
def goodPr (p : PR) : Bool := goodT p.st p.lf && (decide (p.ln.length ≤ 12) && goodL p.ln)

theorem goodL_no (ln : List HD) (j : Nat) (h : j < ln.length) (hz : sideB ln[j].f = false) : goodL ln = false := by
  rw [Bool.eq_false_iff]
  intro e
  have := List.all_eq_true.1 e _ (List.getElem_mem h)
  rw [hz] at this
  cases this
theorem goodL_yes (ln : List HD) (h : ∀ j (hj : j < ln.length), sideB ln[j].f = true) : goodL ln = true :=
  List.all_eq_true.2 fun p hp => by
    obtain ⟨j, hj, rfl⟩ := List.getElem_of_mem hp
    exact h j hj
theorem goodL_at (ln : List HD) (h : goodL ln = true) (j : Nat) (hj : j < ln.length) : ln[j].f = 0 ∨ ln[j].f = 1 := by
  have := List.all_eq_true.1 h _ (List.getElem_mem hj)
  unfold sideB at this
  have := of_decide_eq_true this
  omega
theorem two_of (l : List Int) (h : l.length = 2) : ∃ a b, l = [a, b] := by
  match l, h with
  | [a, b], _ => exact ⟨a, b, rfl⟩
theorem goodT_len (st lf : List Int) (h : ¬ (st.length = 2 ∧ lf.length = 2)) : goodT st lf = false := by
  unfold goodT
  split
  · exact absurd ⟨rfl, rfl⟩ h
  · rfl
theorem goodPr_form (p : PR) (h : goodPr p = true) : ∃ s0 s1 l0 l1 ln, p = ⟨[s0, s1], [l0, l1], ln⟩ ∧ goodS s0 l0 = true ∧ goodS s1 l1 = true ∧ ln.length ≤ 12 ∧ goodL ln = true := by
  obtain ⟨st, lf, ln⟩ := p
  unfold goodPr at h
  simp only [Bool.and_eq_true, decide_eq_true_eq] at h
  obtain ⟨h1, h2, h3⟩ := h
  by_cases e : st.length = 2 ∧ lf.length = 2
  · obtain ⟨s0, s1, rfl⟩ := two_of st e.1
    obtain ⟨l0, l1, rfl⟩ := two_of lf e.2
    simp only [goodT, Bool.and_eq_true] at h1
    exact ⟨s0, s1, l0, l1, ln, rfl, h1.1, h1.2, h2, h3⟩
  · rw [goodT_len st lf e] at h1
    cases h1
theorem goodS_cases (s l : Int) (h : goodS s l = true) : (s = 0 ∧ l = 0) ∨ ((s = 1 ∨ s = 2) ∧ 1 ≤ l ∧ l ≤ 3) := of_decide_eq_true h

/-- A side behind a tick. -/
def tickS (s l : Int) : Int := if l ≤ 1 then 0 else s
def tickL (l : Int) : Int := if l ≤ 1 then 0 else l - 1
/-- What a hello makes of the state of who takes it. -/
def heardS (h : Bool) : Int := if h then 2 else 1

/-- Whether a step can be done. -/
def canB (ln : List HD) (kind k : Int) : Bool :=
  if kind = 1 then decide ((0 ≤ k ∧ k ≤ 1) ∧ ln.length < 12)
  else if kind = 2 ∨ kind = 3 then decide (0 ≤ k ∧ k < (ln.length : Int))
  else decide (kind = 4 ∧ k = 0)

/-- What a step makes of a pair. -/
def stepP (p : PR) (kind k : Int) : PR :=
  if kind = 1 then ⟨p.st, p.lf, p.ln ++ [⟨k, decide (p.st[k.toNat]! ≠ 0)⟩]⟩
  else if kind = 2 then
    match p.ln[k.toNat]? with
    | some h => ⟨p.st.set (1 - h.f).toNat (heardS h.h), p.lf.set (1 - h.f).toNat 3, p.ln.eraseIdx k.toNat⟩
    | none => p
  else if kind = 3 then ⟨p.st, p.lf, p.ln.eraseIdx k.toNat⟩
  else
    match p.st, p.lf with
    | [s0, s1], [l0, l1] => ⟨[tickS s0 l0, tickS s1 l1], [tickL l0, tickL l1], p.ln⟩
    | _, _ => p

def noP : PR := ⟨[], [], []⟩
def stepOk (p : PR) (kind k : Int) : Bool := goodPr p && canB p.ln kind k
def stepOut (p : PR) (kind k : Int) : PR := if stepOk p kind k then stepP p kind k else noP

theorem tick_good (s l : Int) (h : goodS s l = true) : goodS (tickS s l) (tickL l) = true := by
  have := goodS_cases s l h
  unfold tickS tickL goodS
  apply decide_eq_true
  split <;> omega
theorem heard_good (h : Bool) : goodS (heardS h) 3 = true := by cases h <;> rfl
theorem goodL_erase (ln : List HD) (k : Nat) (h : goodL ln = true) : goodL (ln.eraseIdx k) = true :=
  List.all_eq_true.2 fun x hx => List.all_eq_true.1 h x (List.mem_of_mem_eraseIdx hx)

/-- A step that can be done leads from a good pair to a good pair. -/
theorem step_good (p : PR) (kind k : Int) (hg : goodPr p = true) (hc : canB p.ln kind k = true) : goodPr (stepP p kind k) = true := by
  obtain ⟨s0, s1, l0, l1, ln, rfl, g0, g1, hl, hL⟩ := goodPr_form p hg
  have hc : canB ln kind k = true := hc
  unfold canB at hc
  unfold stepP
  by_cases h1 : kind = 1
  · rw [if_pos h1] at hc ⊢
    have hc := of_decide_eq_true hc
    simp only [goodPr, goodT, g0, g1, Bool.true_and, Bool.and_eq_true, decide_eq_true_eq]
    refine ⟨by simp; omega, ?_⟩
    simp only [goodL, List.all_append, List.all_cons, List.all_nil, Bool.and_true, Bool.and_eq_true]
    exact ⟨hL, decide_eq_true hc.1⟩
  · rw [if_neg h1] at hc ⊢
    by_cases h2 : kind = 2
    · rw [if_pos (.inl h2)] at hc
      rw [if_pos h2]
      have hc := of_decide_eq_true hc
      have hk : k.toNat < ln.length := by omega
      simp only [List.getElem?_eq_getElem hk]
      have hf := goodL_at ln hL k.toNat hk
      have hh := heard_good ln[k.toNat].h
      have he : (ln.eraseIdx k.toNat).length ≤ 12 := Nat.le_trans (List.length_eraseIdx_le ln _) hl
      rcases hf with hf | hf <;> simp [hf, goodPr, goodT, g0, g1, hh, he, goodL_erase ln _ hL]
    · rw [if_neg h2]
      by_cases h3 : kind = 3
      · rw [if_pos h3]
        have he : (ln.eraseIdx k.toNat).length ≤ 12 := Nat.le_trans (List.length_eraseIdx_le ln _) hl
        simp [goodPr, goodT, g0, g1, he, goodL_erase ln _ hL]
      · rw [if_neg h3]
        simp [goodPr, goodT, tick_good _ _ g0, tick_good _ _ g1, hl, hL]

/-- How long the lists of a step's answer are. -/
theorem stepOut_len (p : PR) (kind k : Int) : (stepOut p kind k).st.length ≤ 2 ∧ (stepOut p kind k).lf.length ≤ 2 ∧ (stepOut p kind k).ln.length ≤ 12 := by
  unfold stepOut
  split
  · next h =>
    unfold stepOk at h
    simp only [Bool.and_eq_true] at h
    obtain ⟨s0, s1, l0, l1, ln, e, -, -, hl, -⟩ := goodPr_form _ (step_good p kind k h.1 h.2)
    rw [e]
    exact ⟨Nat.le_refl _, Nat.le_refl _, hl⟩
  · exact ⟨Nat.zero_le _, Nat.zero_le _, Nat.zero_le _⟩
end Go.Proofs.Ytchddjidjfpehaa
