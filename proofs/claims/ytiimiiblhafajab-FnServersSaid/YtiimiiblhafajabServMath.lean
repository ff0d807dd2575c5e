/-
  When one that serves goes: just the groups that it served move; and who leads when a rank is the greatest.
-/
import Derived.Test.YtiimiiblhafajabMovedT
import Derived.Test.YtiimiiblhafajabSetRankT
import Derived.Test.YtiimiiblhafajabLeadT
namespace Go.Proofs.Ytiimiiblhafajab
open Go.RowKit
set_option linter.unusedVariables false

/-- A way to hold bridges against each other. -/
structure Ordr (f : BrD → BrD → Bool) : Prop where
  trans : ∀ x y z, f x y = true → f y z = true → f x z = true
  asym : ∀ x y, f x y = true → f y x = true → False
  total : ∀ x y, f x y = false → x.id = y.id ∨ f y x = true
theorem beats_ordr : Ordr beatsB := by
  refine ⟨fun x y z h1 h2 => ?_, fun x y h1 h2 => ?_, fun x y h => ?_⟩
  · unfold beatsB at *
    simp only [decide_eq_true_eq] at *
    omega
  · unfold beatsB at *
    simp only [decide_eq_true_eq] at *
    omega
  · unfold beatsB at *
    simp only [decide_eq_true_eq, decide_eq_false_iff_not] at *
    omega
theorem pref_iff (g : Int) (x y : BrD) : prefB g x y = true ↔ scoreB y.id g < scoreB x.id g ∨ (scoreB x.id g = scoreB y.id g ∧ x.id < y.id) := by
  unfold prefB
  split
  · next e => simp only [decide_eq_true_eq]; omega
  · next e => simp only [decide_eq_true_eq]; omega
theorem pref_ordr (g : Int) : Ordr (prefB g) := by
  refine ⟨fun x y z h1 h2 => ?_, fun x y h1 h2 => ?_, fun x y h => ?_⟩
  · rw [pref_iff] at *
    omega
  · rw [pref_iff] at *
    omega
  · have h' : ¬ prefB g x y = true := by rw [h]; simp
    rw [pref_iff] at h' ⊢
    omega
def InjO (l : List BrD) : Prop := ∀ x, x ∈ l → ∀ y, y ∈ l → x.id = y.id → x = y
theorem best_top (f : BrD → BrD → Bool) (hf : Ordr f) (l : List BrD) : ∀ n, n = l.length → InjO l → (∀ x, bestOf f l = some x → ∀ y, y ∈ l → y.up = true → y = x ∨ f x y = true) ∧ (bestOf f l = none → ∀ y, y ∈ l → y.up = false) := by
  intro n
  induction n generalizing l with
  | zero =>
    intro hn _
    obtain rfl : l = [] := List.eq_nil_of_length_eq_zero hn.symm
    exact ⟨fun x hx => (by cases hx), fun _ y hy => (by cases hy)⟩
  | succ n ih =>
    intro hn hinj
    rcases List.eq_nil_or_concat l with rfl | ⟨l', z, rfl⟩
    · simp at hn
    simp only [List.concat_eq_append] at hn hinj ⊢
    have hi' : InjO l' := fun x hx y hy => hinj x (by simp [hx]) y (by simp [hy])
    obtain ⟨ih1, ih2⟩ := ih l' (by simp at hn; omega) hi'
    rw [bestOf_app]
    unfold bestStep
    by_cases hu : z.up = true
    · rw [if_pos hu]
      cases hb : bestOf f l' with
      | none =>
        refine ⟨fun x hx y hy hyu => ?_, fun h => by simp at h⟩
        simp only [Option.some.injEq] at hx
        subst hx
        rcases List.mem_append.1 hy with h | h
        · rw [ih2 hb y h] at hyu; cases hyu
        · simp at h; exact .inl h
      | some w =>
        have hw := (bestOf_mem f l' _ rfl w hb)
        cases hfz : f z w with
        | true =>
          simp only [hfz, if_true]
          refine ⟨fun x hx y hy hyu => ?_, fun h => by simp at h⟩
          simp only [Option.some.injEq] at hx
          subst hx
          rcases List.mem_append.1 hy with h | h
          · rcases ih1 w hb y h hyu with rfl | hwy
            · exact .inr hfz
            · exact .inr (hf.trans _ _ _ hfz hwy)
          · simp at h; exact .inl h
        | false =>
          simp only [hfz]
          refine ⟨fun x hx y hy hyu => ?_, fun h => by simp at h⟩
          simp at hx
          subst hx
          rcases List.mem_append.1 hy with h | h
          · exact ih1 _ hb y h hyu
          · simp at h
            subst h
            rcases hf.total _ _ hfz with e | e
            · exact .inl (hinj _ (by simp) _ (by simp [hw.1]) e)
            · exact .inr e
    · rw [if_neg hu]
      refine ⟨fun x hx y hy hyu => ?_, fun h y hy => ?_⟩
      · rcases List.mem_append.1 hy with h | h
        · exact ih1 x hx y h hyu
        · simp at h; subst h; exact absurd hyu hu
      · rcases List.mem_append.1 hy with h' | h'
        · exact ih2 h y h'
        · simp at h'; subst h'; simpa using hu
/-- Who is up and better than all others that are is the best. -/
theorem best_is (f : BrD → BrD → Bool) (hf : Ordr f) (l : List BrD) (hi : InjO l) (x : BrD) (hx : x ∈ l) (hu : x.up = true) (h : ∀ y, y ∈ l → y.up = true → y = x ∨ f x y = true) : bestOf f l = some x := by
  obtain ⟨h1, h2⟩ := best_top f hf l _ rfl hi
  cases hb : bestOf f l with
  | none => rw [h2 hb x hx] at hu; cases hu
  | some z =>
    have hz := bestOf_mem f l _ rfl z hb
    rcases h z hz.1 hz.2 with e | e
    · rw [e]
    · rcases h1 z hb x hx hu with e' | e'
      · rw [e']
      · exact (hf.asym _ _ e e').elim
theorem good_injO (l : List BrD) (h : goodBrs l = true) : InjO l := fun x hx y hy e => by
  obtain ⟨i, hi, rfl⟩ := List.getElem_of_mem hx
  obtain ⟨j, hj, rfl⟩ := List.getElem_of_mem hy
  rcases Nat.lt_trichotomy i j with hij | rfl | hij
  · have := good_rise l h i j hij hj; omega
  · rfl
  · have := good_rise l h j i hij hi; omega
theorem mem_set (l : List BrD) (k : Nat) (hk : k < l.length) (x' y : BrD) (h : y ∈ l.set k x') : y = x' ∨ ∃ j, ∃ hj : j < l.length, j ≠ k ∧ y = l[j] := by
  obtain ⟨j, hj, rfl⟩ := List.getElem_of_mem h
  have hj' : j < l.length := by simpa using hj
  rw [List.getElem_set]
  split
  · exact .inl rfl
  · next e => exact .inr ⟨j, hj', fun h => e h.symm, rfl⟩
theorem set_mem (l : List BrD) (k : Nat) (hk : k < l.length) (x' : BrD) (j : Nat) (hj : j < l.length) (hne : j ≠ k) : l[j] ∈ l.set k x' := by
  have : (l.set k x')[j]'(by simpa using hj) = l[j] := by rw [List.getElem_set_ne (fun e => hne e.symm)]
  rw [← this]
  exact List.getElem_mem _
/-- Just the groups that it served move. -/
theorem moves (l : List BrD) (k : Nat) (hk : k < l.length) (hg : goodBrs l = true) (hu : l[k].up = true) (g : Nat) : (servAt l g = l[k].id) ↔ servAt l g ≠ servAt (l.set k { l[k] with up := false }) g := by
  have hgs := good_set l k hk false hg
  have hi := good_injO l hg
  have hig := good_injO _ hgs
  obtain ⟨h1, h2⟩ := best_top (prefB (g : Int)) (pref_ordr g) l _ rfl hi
  have hid := goodB_id _ (good_at l hg k hk)
  have hkm : l[k] ∈ l := List.getElem_mem hk
  unfold servAt
  constructor
  · intro e e2
    rw [e] at e2
    cases hb : bestOf (prefB (g : Int)) (l.set k { l[k] with up := false }) with
    | none => rw [hb] at e2; simp only [bestId] at e2; omega
    | some z =>
      rw [hb] at e2
      simp only [bestId] at e2
      have hz := bestOf_mem _ _ _ rfl z hb
      rcases mem_set l k hk _ z hz.1 with rfl | ⟨j, hj, hne, rfl⟩
      · cases hz.2
      · rcases Nat.lt_trichotomy j k with h | h | h
        · have := good_rise l hg j k h hk; omega
        · exact hne h
        · have := good_rise l hg k j h hj; omega
  · intro e
    cases hb : bestOf (prefB (g : Int)) l with
    | none => rw [h2 hb _ hkm] at hu; cases hu
    | some z =>
      have hz := bestOf_mem _ _ _ rfl z hb
      obtain ⟨j, hj, ej⟩ := List.getElem_of_mem hz.1
      by_cases hjk : j = k
      · subst hjk
        simp only [bestId]
        rw [ej]
      · exfalso
        apply e
        rw [hb]
        have : bestOf (prefB (g : Int)) (l.set k { l[k] with up := false }) = some z := by
          refine best_is _ (pref_ordr g) _ hig z (by rw [← ej]; exact set_mem l k hk _ j hj hjk) hz.2 fun y hy hyu => ?_
          rcases mem_set l k hk _ y hy with rfl | ⟨i, hi', hne, rfl⟩
          · cases hyu
          · exact h1 z hb _ (List.getElem_mem hi') hyu
        rw [this]
theorem movedL_mem (l g : List BrD) (n j : Nat) (hj : j < n) : ((j : Int) ∈ movedL l g n) ↔ servAt l j ≠ servAt g j := by
  unfold movedL
  simp only [List.mem_map, List.mem_filter, List.mem_range, decide_eq_true_eq]
  constructor
  · rintro ⟨i, ⟨hi, h⟩, e⟩
    obtain rfl : i = j := by omega
    exact h
  · intro h
    exact ⟨j, ⟨hj, h⟩, rfl⟩
/-- What the law asks of each group. -/
theorem moved_has (l : List BrD) (id : Int) (n : Nat) (h : movedOk l id (n : Int) = true) (g : Nat) (hgn : g < n) : (servAt l g = id) ↔ (g : Int) ∈ movedOut l id (n : Int) := by
  have h0 := h
  unfold movedOk at h
  simp only [Bool.and_eq_true] at h
  obtain ⟨hg, -, hu⟩ := h
  rcases placeB_cases l id with hp | ⟨k, hk, hp, hid⟩
  · rw [upAt_none l id hp] at hu; cases hu
  · obtain ⟨e1, e2⟩ := upAt_some l id k hk hp
    rw [e1] at hu
    have e3 : movedOut l id (n : Int) = movedL l (goneL l id) n := by unfold movedOut; rw [h0]; rfl
    rw [e3, e2, movedL_mem _ _ n g hgn, ← hid]
    exact moves l k hk hg hu g
theorem good_rank (l : List BrD) (k : Nat) (hk : k < l.length) (r : Int) (hr : 0 ≤ r ∧ r ≤ 127) (h : goodBrs l = true) : goodBrs (l.set k { l[k] with rank := r }) = true := by
  have h0 := (goodBrs_at l h).1
  have key : ∀ j (hj : j < l.length), ((l.set k { l[k] with rank := r })[j]'(by simpa using hj)).id = l[j].id ∧ goodB ((l.set k { l[k] with rank := r })[j]'(by simpa using hj)) = true := fun j hj => by
    rw [List.getElem_set]
    split
    · next e =>
      subst e
      refine ⟨rfl, ?_⟩
      have := goodB_id _ (good_at l h k hk)
      unfold goodB
      simp only [Bool.and_eq_true, decide_eq_true_eq]
      omega
    · exact ⟨rfl, good_at l h j hj⟩
  refine goodBrs_yes _ (by simpa using h0) fun j hj => ?_
  have hj' : j < l.length := by simpa using hj
  have hok := (goodBrs_at l h).2 j hj'
  cases j with
  | zero => rw [okAt_zero _ hj]; exact (key 0 hj').2
  | succ i =>
    rw [okAt_succ l i hj'] at hok
    simp only [Bool.and_eq_true] at hok
    rw [okAt_succ _ i hj, (key (i + 1) hj').2, (key (i + 1) hj').1, (key i (by omega)).1]
    exact hok.2
/-- Who is up with the greatest rank, and no other one is, leads. -/
def upIn (r : List BrD) (b : Int) : Bool := r.any fun x => decide (x.id = b) && x.up
def rivalIn (r : List BrD) (b : Int) : Bool := r.any fun x => (decide (x.id ≠ b) && x.up) && decide (x.rank = 127)
theorem rank_leads (l : List BrD) (b : Int) (h : rankOk l b 127 = true) (hu : upIn (rankOut l b 127) b = true) (hr : rivalIn (rankOut l b 127) b = false) : leadOk (rankOut l b 127) = true ∧ leadId (rankOut l b 127) = b := by
  have h0 := h
  unfold rankOk at h
  simp only [Bool.and_eq_true] at h
  obtain ⟨hg, hp0, -⟩ := h
  rcases placeB_cases l b with hp | ⟨k, hk, hp, hid⟩
  · rw [hp] at hp0; cases hp0
  · obtain ⟨-, e⟩ := rank_yes l b 127 k hk hg hp (by omega)
    rw [e] at hu hr ⊢
    have hgr := good_rank l k hk 127 (by omega) hg
    have hi := good_injO _ hgr
    obtain ⟨x, hx, hxx⟩ := List.any_eq_true.1 hu
    simp only [Bool.and_eq_true, decide_eq_true_eq] at hxx
    have hx' : x = { l[k] with rank := 127 } := by
      refine hi x hx _ ?_ (by rw [hxx.1]; exact hid.symm)
      have : (l.set k { l[k] with rank := 127 })[k]'(by simpa using hk) = { l[k] with rank := 127 } := List.getElem_set_self _
      exact List.mem_iff_getElem.2 ⟨k, by simpa using hk, this⟩
    have hbest : bestOf beatsB (l.set k { l[k] with rank := 127 }) = some x := by
      refine best_is _ beats_ordr _ hi x hx hxx.2 fun y hy hyu => ?_
      by_cases hyb : y.id = x.id
      · exact .inl (hi y hy x hx hyb)
      · right
        have hnr : ¬ y.rank = 127 := fun hy127 => by
          have : rivalIn (l.set k { l[k] with rank := 127 }) b = true := List.any_eq_true.2 ⟨y, hy, by simp only [Bool.and_eq_true, decide_eq_true_eq]; exact ⟨⟨by rw [← hxx.1]; exact hyb, hyu⟩, hy127⟩⟩
          rw [hr] at this
          cases this
        have hgy := goodB_id y (by obtain ⟨j, hj, rfl⟩ := List.getElem_of_mem hy; exact good_at _ hgr j hj)
        have hxr : x.rank = 127 := by rw [hx']
        unfold beatsB
        simp only [decide_eq_true_eq]
        omega
    have hl : leadId (l.set k { l[k] with rank := 127 }) = b := by rw [lead_yes _ hgr, hbest]; exact hxx.1
    refine ⟨?_, hl⟩
    unfold leadOk
    rw [hl]
    have := goodB_id _ (good_at l hg k hk)
    simp
    omega
end Go.Proofs.Ytiimiiblhafajab
