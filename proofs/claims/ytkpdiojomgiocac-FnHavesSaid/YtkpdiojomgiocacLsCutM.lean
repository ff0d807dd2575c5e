/-
  Parts of a list: they are all of it, and leave no name out between; and what two lists merged hold.
-/
import Derived.Test.YtkpdiojomgiocacLsCutX
import Derived.Test.YtkpdiojomgiocacLsMrg
import Derived.Test.YtkpdiojomgiocacLsSeq
namespace Go.Proofs.Ytkpdiojomgiocac
set_option linter.unusedVariables false

/-- The name at which the next part begins. -/
def nextLo (lo : Int) (ss : List SmD) : Int := ss.foldl (fun _ s => s.Hi + 1) lo
def allHs (ss : List SmD) : List HvD := (ss.map SmD.Hs).flatten
theorem nextLo_snoc (lo : Int) (ss : List SmD) (s : SmD) : nextLo lo (ss ++ [s]) = s.Hi + 1 := by simp [nextLo]
theorem allHs_snoc (ss : List SmD) (s : SmD) : allHs (ss ++ [s]) = allHs ss ++ s.Hs := by simp [allHs]
/-- Good parts, one behind another, from lo on to the last name. -/
def Parts (m : Nat) : Int → List SmD → List HvD → Prop
  | lo, [], l => lo = 1001 ∧ l = []
  | lo, s :: ss, l => goodSm s = true ∧ s.Lo = lo ∧ s.Hs.length ≤ m ∧ ∃ l', l = s.Hs ++ l' ∧ Parts m (s.Hi + 1) ss l'
theorem cut_is (m : Nat) (h1 : 1 ≤ m) : ∀ (n : Nat) (lo : Int) (l : List HvD), l.length ≤ n → l.length ≤ 30 → Rise l ∧ FitHv l → (∀ x ∈ l, lo ≤ x.From) → 1 ≤ lo → lo ≤ 1000 → Parts m lo (cutGo m n lo l) l
  | 0, lo, l, hn, h30, hl, hlo, hp, hq => by
    have e : l = [] := List.eq_nil_of_length_eq_zero (by omega)
    subst e
    exact ⟨goodSm_of rfl ⟨hp, hq, Int.le_refl _⟩ (by simp), rfl, by simp, [], by simp, rfl, rfl⟩
  | n + 1, lo, l, hn, h30, hl, hlo, hp, hq => by
    by_cases hm : m < l.length
    · obtain ⟨m', hm1, e⟩ := cutGo_more m (n + 1) lo l hm hn
      obtain rfl : m' = n := by omega
      rw [e]
      have hsp := split_at hl.1 h1 hm
      have hhi : lo ≤ (l.getD (m - 1) hv0).From ∧ (l.getD (m - 1) hv0).From < 1000 := by
        refine ⟨by rw [getHv l (m - 1) (by omega)]; exact hlo _ (List.getElem_mem _), ?_⟩
        have h2 := hsp.2 l[m] (by rw [List.mem_iff_getElem]; exact ⟨0, by rw [List.length_drop]; omega, by simp⟩)
        have h3 := (hl.2 l[m] (List.getElem_mem hm)).1.2
        omega
      generalize (l.getD (m - 1) hv0).From = hi at hsp hhi
      have ht : Rise (l.take m) ∧ FitHv (l.take m) := ⟨List.Pairwise.sublist (List.take_sublist _ _) hl.1, fun x hx => hl.2 x (List.mem_of_mem_take hx)⟩
      have hd : Rise (l.drop m) ∧ FitHv (l.drop m) := ⟨List.Pairwise.sublist (List.drop_sublist _ _) hl.1, fun x hx => hl.2 x (List.mem_of_mem_drop hx)⟩
      refine ⟨goodSm_of (goodHv_of (by simp; omega) ht.2 ht.1) ⟨hp, hhi.1, by simp only []; omega⟩ (fun x hx => ⟨hlo x (List.mem_of_mem_take hx), hsp.1 x hx⟩), rfl, by simp; omega, l.drop m, by simp, ?_⟩
      exact cut_is m h1 m' (hi + 1) (l.drop m) (by rw [List.length_drop]; omega) (by rw [List.length_drop]; omega) hd (fun x hx => by have := hsp.2 x hx; omega) (by omega) (by omega)
    · rw [cutGo_last m (n + 1) lo l hm]
      exact ⟨goodSm_of (goodHv_of h30 hl.2 hl.1) ⟨hp, hq, by simp⟩ (fun x hx => ⟨hlo x hx, (hl.2 x hx).1.2⟩), rfl, by simp only []; omega, [], by simp, rfl, rfl⟩
theorem parts_all {m : Nat} : ∀ {ss : List SmD} {lo : Int} {l : List HvD}, Parts m lo ss l → (∀ j (hj : j < ss.length), goodSm ss[j] = true ∧ ss[j].Lo = nextLo lo (ss.take j) ∧ ss[j].Hs.length ≤ m) ∧ allHs ss = l ∧ nextLo lo ss = 1001
  | [], lo, l, h => ⟨fun j hj => absurd hj (Nat.not_lt_zero _), h.2.symm, h.1⟩
  | s :: ss, lo, l, h => by
    obtain ⟨hg, hlo, hl, l', rfl, hr⟩ := h
    obtain ⟨i1, i2, i3⟩ := parts_all hr
    refine ⟨fun j hj => ?_, by rw [← i2]; simp [allHs], i3⟩
    cases j with
    | zero => exact ⟨hg, hlo, hl⟩
    | succ j => exact i1 j (by simpa using hj)
/-- What the law asks of the parts. -/
theorem cutOut_parts {l : List HvD} {most : Int} (h : cutOk l most = true) : (∀ j (hj : j < (cutOut l most).length), goodSm (cutOut l most)[j] = true ∧ (cutOut l most)[j].Lo = nextLo 1 ((cutOut l most).take j) ∧ ((cutOut l most)[j].Hs.length : Int) ≤ most) ∧ allHs (cutOut l most) = l ∧ nextLo 1 (cutOut l most) = 1001 := by
  have e : cutOut l most = cutHv most.toNat l := by unfold cutOut; rw [if_pos h]
  unfold cutOk at h
  simp only [Bool.and_eq_true, decide_eq_true_eq] at h
  have hg := goodHv_true h.1
  have hp := parts_all (cut_is most.toNat (by omega) l.length 1 l (Nat.le_refl _) hg.1 ⟨hg.2.2, hg.2.1⟩ (fun x hx => (hg.2.1 x hx).1.1) (by omega) (by omega))
  rw [e]
  unfold cutHv
  exact ⟨fun j hj => ⟨(hp.1 j hj).1, (hp.1 j hj).2.1, by have := (hp.1 j hj).2.2; omega⟩, hp.2.1, hp.2.2⟩
theorem allHs_len (n : Nat) : ∀ ss : List SmD, (∀ s ∈ ss, s.Hs.length ≤ n) → (allHs ss).length ≤ ss.length * n
  | [], _ => by simp [allHs]
  | s :: ss, h => by
    have h1 := h s (by simp)
    have h2 := allHs_len n ss (fun x hx => h x (by simp [hx]))
    have e : allHs (s :: ss) = s.Hs ++ allHs ss := by simp [allHs]
    rw [e, List.length_append, List.length_cons, Nat.add_mul]
    omega

/-- What two lists merged hold, seen from either side. -/
theorem mrg_turn {a b : List HvD} (h : mrgOk a b = true) : mrgOk b a = true ∧ mrgOut b a = mrgOut a b := by
  have h' := h
  unfold mrgOk at h
  simp only [Bool.and_eq_true] at h
  have ha := goodHv_true h.1.1
  have hb := goodHv_true h.1.2
  have hc := merge_comm ha.2.2 hb.2.2
  have h2 : mrgOk b a = true := by unfold mrgOk; simp only [Bool.and_eq_true]; exact ⟨⟨h.1.2, h.1.1⟩, by rw [← hc]; exact h.2⟩
  exact ⟨h2, by rw [mrg_yes h', mrg_yes h2, hc]⟩
theorem mrg_seq {a b : List HvD} (h : mrgOk a b = true) (j : Nat) (hj : j < (mrgOut a b).length) :
    seqOk a (mrgOut a b)[j].From = true ∧ seqOk b (mrgOut a b)[j].From = true ∧ ((mrgOut a b)[j].Seq = seqOut a (mrgOut a b)[j].From ∨ (mrgOut a b)[j].Seq = seqOut b (mrgOut a b)[j].From) ∧ seqOut a (mrgOut a b)[j].From ≤ (mrgOut a b)[j].Seq ∧ seqOut b (mrgOut a b)[j].From ≤ (mrgOut a b)[j].Seq := by
  have e : mrgOut a b = mergeHv a b := mrg_yes h
  unfold mrgOk at h
  simp only [Bool.and_eq_true] at h
  have ha := goodHv_true h.1.1
  have hb := goodHv_true h.1.2
  have hm := goodHv_true h.2
  have hx : (mrgOut a b)[j] ∈ mergeHv a b := by rw [← e]; exact List.getElem_mem hj
  generalize (mrgOut a b)[j] = x at hx
  have hf := hm.2.1 x hx
  have hc := mem_cont hm.2.2 hx
  rw [cont_mergeHv x.From b a ha.2.2 hb.2.2] at hc
  obtain ⟨s1, s2⟩ := seq_in h.1.1 hf.1
  obtain ⟨s3, s4⟩ := seq_in h.1.2 hf.1
  rw [s2, s4]
  refine ⟨s1, s3, ?_⟩
  unfold seqIn
  rcases ca : cont a x.From with _ | u <;> rcases cb : cont b x.From with _ | v <;> rw [ca, cb] at hc
  · cases hc
  · simp only [maxO, Option.some.injEq] at hc
    simp only [Option.getD_none, Option.getD_some]
    omega
  · simp only [maxO, Option.some.injEq] at hc
    simp only [Option.getD_none, Option.getD_some]
    omega
  · simp only [maxO, Option.some.injEq] at hc
    simp only [Option.getD_some]
    split at hc <;> omega
end Go.Proofs.Ytkpdiojomgiocac
