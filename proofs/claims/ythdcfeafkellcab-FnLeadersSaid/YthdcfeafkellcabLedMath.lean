/-
  Who leads by what each one sees, as plain data.
-/
import Derived.Test.YthdcfeafkellcabLeadS
import Derived.Test.YthdcfeafkellcabPut2
import Derived.Test.YthdcfeafkellcabRises
namespace Go.Proofs.Ythdcfeafkellcab
open Go.RowKit
set_option linter.unusedVariables false

theorem beats_trans (x y z : BrD) (h1 : beatsB x y = true) (h2 : beatsB y z = true) : beatsB x z = true := by
  unfold beatsB at *
  simp only [decide_eq_true_eq] at *
  omega
theorem beats_asym (x y : BrD) (h1 : beatsB x y = true) (h2 : beatsB y x = true) : False := by
  unfold beatsB at *
  simp only [decide_eq_true_eq] at *
  omega
theorem beats_total (x y : BrD) (h : beatsB x y = false) : x.id = y.id ∨ beatsB y x = true := by
  unfold beatsB at *
  simp only [decide_eq_true_eq, decide_eq_false_iff_not] at *
  omega
def InjB (l : List BrD) : Prop := ∀ x, x ∈ l → ∀ y, y ∈ l → x.id = y.id → x = y
theorem best_max (l : List BrD) : ∀ n, n = l.length → InjB l → (∀ x, bestOf beatsB l = some x → ∀ y, y ∈ l → y.up = true → y = x ∨ beatsB x y = true) ∧ (bestOf beatsB l = none → ∀ y, y ∈ l → y.up = false) := by
  intro n
  induction n generalizing l with
  | zero =>
    intro hn _
    obtain rfl : l = [] := List.eq_nil_of_length_eq_zero hn.symm
    exact ⟨fun x hx => (by cases hx), fun _ y hy => (by cases hy)⟩
  | succ n ih =>
    intro hn hinj
    rcases List.eq_nil_or_concat l with rfl | ⟨l', z, rfl⟩
    · simp at hn
    simp only [List.concat_eq_append] at hn hinj ⊢
    have hi' : InjB l' := fun x hx y hy => hinj x (by simp [hx]) y (by simp [hy])
    obtain ⟨ih1, ih2⟩ := ih l' (by simp at hn; omega) hi'
    rw [bestOf_app]
    unfold bestStep
    by_cases hu : z.up = true
    · rw [if_pos hu]
      cases hb : bestOf beatsB l' with
      | none =>
        refine ⟨fun x hx y hy hyu => ?_, fun h => by simp at h⟩
        simp only [Option.some.injEq] at hx
        subst hx
        rcases List.mem_append.1 hy with h | h
        · rw [ih2 hb y h] at hyu; cases hyu
        · simp at h; exact .inl h
      | some w =>
        have hw := (bestOf_mem beatsB l' _ rfl w hb)
        cases hf : beatsB z w with
        | true =>
          simp only [hf, if_true]
          refine ⟨fun x hx y hy hyu => ?_, fun h => by simp at h⟩
          simp only [Option.some.injEq] at hx
          subst hx
          rcases List.mem_append.1 hy with h | h
          · rcases ih1 w hb y h hyu with rfl | hwy
            · exact .inr hf
            · exact .inr (beats_trans _ _ _ hf hwy)
          · simp at h; exact .inl h
        | false =>
          simp only [hf]
          refine ⟨fun x hx y hy hyu => ?_, fun h => by simp at h⟩
          simp at hx
          subst hx
          rcases List.mem_append.1 hy with h | h
          · exact ih1 _ hb y h hyu
          · simp at h
            subst h
            rcases beats_total _ _ hf with e | e
            · exact .inl (hinj _ (by simp) _ (by simp [hw.1]) e)
            · exact .inr e
    · rw [if_neg hu]
      refine ⟨fun x hx y hy hyu => ?_, fun h y hy => ?_⟩
      · rcases List.mem_append.1 hy with h | h
        · exact ih1 x hx y h hyu
        · simp at h; subst h; exact absurd hyu hu
      · rcases List.mem_append.1 hy with h' | h'
        · exact ih2 h y h'
        · simp at h'; subst h'; simpa using hu
theorem best_same (l m : List BrD) (hl : InjB l) (hm : InjB m) (h : ∀ x, x ∈ l ↔ x ∈ m) : bestOf beatsB l = bestOf beatsB m := by
  obtain ⟨l1, l2⟩ := best_max l _ rfl hl
  obtain ⟨m1, m2⟩ := best_max m _ rfl hm
  cases hx : bestOf beatsB l with
  | none =>
    cases hy : bestOf beatsB m with
    | none => rfl
    | some y =>
      have := bestOf_mem beatsB m _ rfl y hy
      rw [l2 hx y ((h y).2 this.1)] at this
      cases this.2
  | some x =>
    have hxm := bestOf_mem beatsB l _ rfl x hx
    cases hy : bestOf beatsB m with
    | none =>
      rw [m2 hy x ((h x).1 hxm.1)] at hxm
      cases hxm.2
    | some y =>
      have hym := bestOf_mem beatsB m _ rfl y hy
      rcases l1 x hx y ((h y).2 hym.1) hym.2 with e | e
      · rw [e]
      · rcases m1 y hy x ((h x).1 hxm.1) hxm.2 with e' | e'
        · rw [e']
        · exact (beats_asym _ _ e e').elim
theorem good_inj (l : List BrD) (h : goodBrs l = true) : InjB l := fun x hx y hy e => by
  obtain ⟨i, hi, rfl⟩ := List.getElem_of_mem hx
  obtain ⟨j, hj, rfl⟩ := List.getElem_of_mem hy
  rcases Nat.lt_trichotomy i j with hij | rfl | hij
  · have := good_rise l h i j hij hj; omega
  · rfl
  · have := good_rise l h j i hij hi; omega
theorem atPl_mem (l : List BrD) (zs : List Int) (x : BrD) : x ∈ atPl l zs ↔ ∃ z, z ∈ zs ∧ l[z.toNat]? = some x := List.mem_filterMap
theorem atPl_sub (l : List BrD) (zs : List Int) (x : BrD) (h : x ∈ atPl l zs) : x ∈ l := by
  obtain ⟨z, -, h⟩ := (atPl_mem l zs x).1 h
  exact List.mem_of_getElem? h
theorem led_same (l : List BrD) (zs : List Int) (k : Nat) (hk : k < l.length) (h : goodBrs l = true) : bestOf beatsB (l[k] :: atPl l zs) = bestOf beatsB (atPl l (insL (k : Int) zs)) := by
  have hi := good_inj l h
  have hk' : l[k] ∈ l := List.getElem_mem hk
  refine best_same _ _ (fun x hx y hy => hi x ?_ y ?_) (fun x hx y hy => hi x (atPl_sub _ _ _ hx) y (atPl_sub _ _ _ hy)) fun x => ?_
  · rcases List.mem_cons.1 hx with rfl | h
    · exact hk'
    · exact atPl_sub _ _ _ h
  · rcases List.mem_cons.1 hy with rfl | h
    · exact hk'
    · exact atPl_sub _ _ _ h
  · rw [List.mem_cons, atPl_mem, atPl_mem]
    constructor
    · rintro (rfl | ⟨z, hz, h⟩)
      · exact ⟨(k : Int), (insL_mem _ _ _).2 (.inl rfl), by simp [List.getElem?_eq_getElem hk]⟩
      · exact ⟨z, (insL_mem _ _ _).2 (.inr hz), h⟩
    · rintro ⟨z, hz, h⟩
      rcases (insL_mem _ _ _).1 hz with rfl | hz
      · simp [List.getElem?_eq_getElem hk] at h
        exact .inl h.symm
      · exact .inr ⟨z, hz, h⟩

/-- Whether places rise within so many. -/
def plB (n : Nat) (zs : List Int) : Bool := allB zs 0 ((n : Int) - 1) && risesB zs
theorem rises_at (zs : List Int) (h : risesB zs = true) (j : Nat) (hj : j + 1 < zs.length) : zs[j] < zs[j + 1] := by
  have := List.all_eq_true.1 h j (List.mem_range.2 (by omega))
  have := of_decide_eq_true this hj
  rw [getD_at zs j (by omega), getD_at zs (j + 1) hj] at this
  exact this
theorem rises_ge (zs : List Int) (h : risesB zs = true) (h0 : ∀ j (hj : j < zs.length), 0 ≤ zs[j]) : ∀ j (hj : j < zs.length), (j : Int) ≤ zs[j]
  | 0, hj => h0 0 hj
  | j + 1, hj => by
    have h1 := rises_ge zs h h0 j (by omega)
    have h2 := rises_at zs h j hj
    omega
theorem plB_in (n : Nat) (zs : List Int) (h : plB n zs = true) : (∀ j (hj : j < zs.length), 0 ≤ zs[j] ∧ zs[j] < (n : Int)) ∧ zs.length ≤ n := by
  unfold plB at h
  simp only [Bool.and_eq_true] at h
  have ha : ∀ j (hj : j < zs.length), 0 ≤ zs[j] ∧ zs[j] < (n : Int) := fun j hj => by have := allB_at zs _ _ h.1 j hj; omega
  refine ⟨ha, ?_⟩
  by_cases hz : zs.length = 0
  · omega
  · have h1 := rises_ge zs h.2 (fun j hj => (ha j hj).1) (zs.length - 1) (by omega)
    have h2 := ha (zs.length - 1) (by omega)
    omega
def ledAt (l : List BrD) (zss : List (List Int)) (k : Nat) : Int := bestId (bestOf beatsB (atPl l (insL (k : Int) (zss.getD k []))))
def ledL (l : List BrD) (zss : List (List Int)) (n : Nat) : List Int := (List.range n).map (ledAt l zss)
theorem ledL_len (l : List BrD) (zss : List (List Int)) (n : Nat) : (ledL l zss n).length = n := by simp [ledL]
theorem ledL_next (l : List BrD) (zss : List (List Int)) (n : Nat) : ledL l zss (n + 1) = ledL l zss n ++ [ledAt l zss n] := by simp [ledL, List.range_succ]
theorem getDS (zss : List (List Int)) (k : Nat) (h : k < zss.length) : zss.getD k [] = zss[k] := by simp [List.getD_eq_getElem?_getD, h]
def seesB (n : Nat) (zss : List (List Int)) : Bool := zss.all (plB n)
theorem seesB_no (n : Nat) (zss : List (List Int)) (k : Nat) (hk : k < zss.length) (h : plB n zss[k] = false) : seesB n zss = false := by
  rw [Bool.eq_false_iff]
  intro e
  have := List.all_eq_true.1 e _ (List.getElem_mem hk)
  rw [h] at this
  cases this
theorem seesB_yes (n : Nat) (zss : List (List Int)) (h : ∀ j (hj : j < zss.length), plB n zss[j] = true) : seesB n zss = true :=
  List.all_eq_true.2 fun zs hz => by
    obtain ⟨j, hj, rfl⟩ := List.getElem_of_mem hz
    exact h j hj
theorem seesB_at (n : Nat) (zss : List (List Int)) (h : seesB n zss = true) (j : Nat) (hj : j < zss.length) : plB n zss[j] = true := List.all_eq_true.1 h _ (List.getElem_mem hj)
def ledOk (l : List BrD) (zss : List (List Int)) : Bool := goodBrs l && (decide (zss.length = l.length) && seesB l.length zss)
def ledOut (l : List BrD) (zss : List (List Int)) : List Int := if ledOk l zss then ledL l zss zss.length else []
theorem ledOut_len (l : List BrD) (zss : List (List Int)) : (ledOut l zss).length ≤ 4194304 := by
  unfold ledOut
  split
  · next h =>
    unfold ledOk at h
    simp only [Bool.and_eq_true, decide_eq_true_eq] at h
    have := (goodBrs_at l h.1).1
    rw [ledL_len]
    omega
  · simp
theorem led_no (l : List BrD) (zss : List (List Int)) (h : ledOk l zss = false) : ledOk l zss = false ∧ ledOut l zss = [] := ⟨h, by unfold ledOut; rw [h]; rfl⟩
theorem led_yes (l : List BrD) (zss : List (List Int)) (hg : goodBrs l = true) (hl : zss.length = l.length) (hs : seesB l.length zss = true) : ledOk l zss = true ∧ ledOut l zss = ledL l zss zss.length := by
  have : ledOk l zss = true := by unfold ledOk; rw [hg, hs, decide_eq_true hl]; rfl
  exact ⟨this, by unfold ledOut; rw [this]; rfl⟩
end Go.Proofs.Ythdcfeafkellcab
