/-
  Haves as plain data: when a list of them is good, what it has of each name, one put into its place, two lists as one, what is news, what lies between, parts.
-/
import Derived.Test.YtkpdiojomgiocacRowHv
namespace Go.Proofs.Ytkpdiojomgiocac
set_option linter.unusedVariables false

def hv0 : HvD := ⟨0, 0⟩
def okHv (x : HvD) : Bool := decide ((1 ≤ x.From ∧ x.From ≤ 1000) ∧ 1 ≤ x.Seq ∧ x.Seq ≤ 1000)
def stepHv (l : List HvD) (j : Nat) : Bool := okHv (l.getD j hv0) && (decide (j = 0) || decide ((l.getD (j - 1) hv0).From < (l.getD j hv0).From))
/-- Whether a list is good haves. -/
def goodHv (l : List HvD) : Bool := decide (l.length ≤ 30) && (List.range l.length).all (stepHv l)
def Rise (l : List HvD) : Prop := l.Pairwise fun a b => a.From < b.From
def FitHv (l : List HvD) : Prop := ∀ x ∈ l, (1 ≤ x.From ∧ x.From ≤ 1000) ∧ 1 ≤ x.Seq ∧ x.Seq ≤ 1000
theorem getHv (l : List HvD) (j : Nat) (h : j < l.length) : l.getD j hv0 = l[j] := by simp [List.getD_eq_getElem?_getD, h]

theorem goodHv_no (l : List HvD) (k : Nat) (h : k < l.length) (hf : stepHv l k = false) : goodHv l = false := by
  rw [Bool.eq_false_iff]
  intro e
  unfold goodHv at e
  rw [Bool.and_eq_true] at e
  have := List.all_eq_true.1 e.2 k (List.mem_range.2 h)
  rw [hf] at this
  cases this
theorem goodHv_long (l : List HvD) (h : ¬ l.length ≤ 30) : goodHv l = false := by simp [goodHv, h]
theorem goodHv_yes (l : List HvD) (h0 : l.length ≤ 30) (h : ∀ j, j < l.length → stepHv l j = true) : goodHv l = true := by
  unfold goodHv
  rw [Bool.and_eq_true]
  exact ⟨decide_eq_true h0, List.all_eq_true.2 fun j hj => h j (List.mem_range.1 hj)⟩
theorem rise_of_steps (l : List HvD) (h : ∀ j, 0 < j → (hj : j < l.length) → (l[j - 1]'(by omega)).From < l[j].From) : Rise l := by
  refine List.pairwise_iff_getElem.2 fun i j hi hj hij => ?_
  have key : ∀ d (hd : i + 1 + d < l.length), l[i].From < l[i + 1 + d].From := by
    intro d
    induction d with
    | zero => intro hd; exact h (i + 1) (by omega) hd
    | succ d ih =>
      intro hd
      have h1 := ih (by omega)
      have h2 := h (i + 1 + (d + 1)) (by omega) hd
      have e : i + 1 + (d + 1) - 1 = i + 1 + d := by omega
      simp only [e] at h2
      omega
  have e : j = i + 1 + (j - i - 1) := by omega
  have := key (j - i - 1) (by omega)
  simpa [← e] using this
theorem goodHv_true {l : List HvD} (h : goodHv l = true) : l.length ≤ 30 ∧ FitHv l ∧ Rise l := by
  unfold goodHv at h
  rw [Bool.and_eq_true] at h
  have hs : ∀ j (hj : j < l.length), okHv l[j] = true ∧ (j = 0 ∨ (l.getD (j - 1) hv0).From < l[j].From) := fun j hj => by
    have := List.all_eq_true.1 h.2 j (List.mem_range.2 hj)
    unfold stepHv at this
    rw [Bool.and_eq_true, getHv l j hj] at this
    exact ⟨this.1, by simpa using this.2⟩
  refine ⟨of_decide_eq_true h.1, fun x hx => ?_, rise_of_steps l fun j h0 hj => ?_⟩
  · obtain ⟨j, hj, rfl⟩ := List.getElem_of_mem hx
    exact of_decide_eq_true (hs j hj).1
  · have := ((hs j hj).2).resolve_left (by omega)
    rwa [getHv l (j - 1) (by omega)] at this
theorem goodHv_of {l : List HvD} (h0 : l.length ≤ 30) (hf : FitHv l) (hr : Rise l) : goodHv l = true := by
  refine goodHv_yes l h0 fun j hj => ?_
  unfold stepHv
  rw [Bool.and_eq_true, getHv l j hj]
  refine ⟨decide_eq_true (hf _ (List.getElem_mem hj)), ?_⟩
  by_cases e : j = 0
  · simp [e]
  · rw [getHv l (j - 1) (by omega)]
    have := List.pairwise_iff_getElem.1 hr (j - 1) j (by omega) hj (by omega)
    simp [e, this]

/-- What a list has of a name. -/
def cont : List HvD → Int → Option Int
  | [], _ => none
  | x :: r, k => if x.From = k then some x.Seq else cont r k
def seqIn (l : List HvD) (k : Int) : Int := (cont l k).getD 0
theorem cont_none_of {l : List HvD} {k : Int} (h : ∀ x ∈ l, x.From ≠ k) : cont l k = none := by
  induction l with
  | nil => rfl
  | cons x r ih =>
    unfold cont
    rw [if_neg (h x (List.mem_cons_self ..))]
    exact ih fun y hy => h y (List.mem_cons_of_mem _ hy)
theorem cont_mem {l : List HvD} {k v : Int} (h : cont l k = some v) : (⟨k, v⟩ : HvD) ∈ l := by
  induction l with
  | nil => cases h
  | cons x r ih =>
    unfold cont at h
    split at h
    · next e =>
      obtain ⟨f, s⟩ := x
      simp only [Option.some.injEq] at h e
      subst h e
      exact List.mem_cons_self ..
    · exact List.mem_cons_of_mem _ (ih h)
theorem mem_cont {l : List HvD} (hr : Rise l) {x : HvD} (h : x ∈ l) : cont l x.From = some x.Seq := by
  induction l with
  | nil => cases h
  | cons y r ih =>
    have hp := List.pairwise_cons.1 hr
    unfold cont
    rcases List.mem_cons.1 h with rfl | h
    · rw [if_pos rfl]
    · rw [if_neg (by have := hp.1 x h; omega)]
      exact ih hp.2 h
theorem cont_iff {l : List HvD} (hr : Rise l) (k v : Int) : cont l k = some v ↔ (⟨k, v⟩ : HvD) ∈ l := ⟨cont_mem, fun h => mem_cont hr h⟩
theorem rise_ext : ∀ {a b : List HvD}, Rise a → Rise b → (∀ x, x ∈ a ↔ x ∈ b) → a = b
  | [], [], _, _, _ => rfl
  | [], y :: s, _, _, h => absurd ((h y).2 (List.mem_cons_self ..)) (by simp)
  | x :: r, [], _, _, h => absurd ((h x).1 (List.mem_cons_self ..)) (by simp)
  | x :: r, y :: s, ha, hb, h => by
    have pa := List.pairwise_cons.1 ha
    have pb := List.pairwise_cons.1 hb
    have e : x = y := by
      rcases List.mem_cons.1 ((h x).1 (List.mem_cons_self ..)) with e | h1
      · exact e
      · rcases List.mem_cons.1 ((h y).2 (List.mem_cons_self ..)) with e | h2
        · exact e.symm
        · have := pb.1 x h1
          have := pa.1 y h2
          omega
    subst e
    refine congrArg _ (rise_ext pa.2 pb.2 fun z => ⟨fun hz => ?_, fun hz => ?_⟩)
    · rcases List.mem_cons.1 ((h z).1 (List.mem_cons_of_mem _ hz)) with rfl | h1
      · have := pa.1 z hz; omega
      · exact h1
    · rcases List.mem_cons.1 ((h z).2 (List.mem_cons_of_mem _ hz)) with rfl | h1
      · have := pb.1 z hz; omega
      · exact h1
theorem rise_cont {a b : List HvD} (ha : Rise a) (hb : Rise b) (h : ∀ k, cont a k = cont b k) : a = b :=
  rise_ext ha hb fun x => by rw [← cont_iff ha x.From x.Seq, ← cont_iff hb x.From x.Seq, h]

/-- One put into its place, the greater number counting. -/
def putHv (x : HvD) : List HvD → List HvD
  | [] => [x]
  | y :: r => if y.From < x.From then y :: putHv x r else if y.From = x.From then (if y.Seq > x.Seq then y else x) :: r else x :: y :: r
def mergeHv (a b : List HvD) : List HvD := b.foldl (fun l x => putHv x l) a
theorem putHv_len (x : HvD) : ∀ l : List HvD, (putHv x l).length ≤ l.length + 1
  | [] => Nat.le_refl _
  | y :: r => by
    have := putHv_len x r
    unfold putHv
    split
    · simp only [List.length_cons]; omega
    · split <;> simp only [List.length_cons] <;> omega
theorem putHv_from (x : HvD) : ∀ l : List HvD, ∀ z ∈ putHv x l, z.From = x.From ∨ z ∈ l
  | [], z, h => by simp [putHv] at h; exact .inl (by rw [h])
  | y :: r, z, h => by
    unfold putHv at h
    split at h
    · rcases List.mem_cons.1 h with rfl | h
      · exact .inr (List.mem_cons_self ..)
      · exact (putHv_from x r z h).imp id (List.mem_cons_of_mem _)
    · split at h
      · next e =>
        rcases List.mem_cons.1 h with rfl | h
        · split
          · exact .inl e
          · exact .inl rfl
        · exact .inr (List.mem_cons_of_mem _ h)
      · rcases List.mem_cons.1 h with rfl | h
        · exact .inl rfl
        · exact .inr h
theorem putHv_rise (x : HvD) : ∀ l : List HvD, Rise l → Rise (putHv x l)
  | [], _ => List.pairwise_singleton _ _
  | y :: r, h => by
    have hp := List.pairwise_cons.1 h
    unfold putHv
    split
    · next h1 =>
      refine List.pairwise_cons.2 ⟨fun z hz => ?_, putHv_rise x r hp.2⟩
      rcases putHv_from x r z hz with e | e
      · rw [e]; exact h1
      · exact hp.1 z e
    · next h1 =>
      split
      · next h2 =>
        refine List.pairwise_cons.2 ⟨fun z hz => ?_, hp.2⟩
        have := hp.1 z hz
        split <;> omega
      · next h2 =>
        refine List.pairwise_cons.2 ⟨fun z hz => ?_, h⟩
        rcases List.mem_cons.1 hz with rfl | hz
        · omega
        · have := hp.1 z hz; omega
theorem cont_putHv (x : HvD) (k : Int) : ∀ l : List HvD, Rise l → cont (putHv x l) k = if k = x.From then some (match cont l k with | some v => if v > x.Seq then v else x.Seq | none => x.Seq) else cont l k
  | [], _ => by
    by_cases e : k = x.From
    · simp [putHv, cont, e]
    · simp [putHv, cont, e, Ne.symm e]
  | y :: r, h => by
    have hp := List.pairwise_cons.1 h
    have ih := cont_putHv x k r hp.2
    unfold putHv
    split
    · next h1 =>
      unfold cont
      by_cases e : y.From = k
      · rw [if_pos e, if_pos e, if_neg (by omega)]
      · rw [if_neg e, if_neg e]
        exact ih
    · next h1 =>
      split
      · next h2 =>
        by_cases e : k = x.From
        · subst e
          rw [if_pos rfl]
          simp only [cont, h2, if_true]
          split <;> simp [*]
        · rw [if_neg e]
          simp only [cont]
          rw [if_neg (by split <;> omega), if_neg (by omega)]
      · next h2 =>
        by_cases e : k = x.From
        · subst e
          rw [if_pos rfl]
          have hn : cont (y :: r) x.From = none := cont_none_of fun z hz => by
            rcases List.mem_cons.1 hz with rfl | hz
            · exact h2
            · have := hp.1 z hz; omega
          rw [hn]
          simp only [cont, if_true]
        · rw [if_neg e]
          conv => lhs; unfold cont
          rw [if_neg (fun e2 => e e2.symm)]
theorem putHv_fit {x : HvD} (hx : (1 ≤ x.From ∧ x.From ≤ 1000) ∧ 1 ≤ x.Seq ∧ x.Seq ≤ 1000) : ∀ l : List HvD, FitHv l → FitHv (putHv x l)
  | [], _, z, hz => by simp [putHv] at hz; rw [hz]; exact hx
  | y :: r, h, z, hz => by
    unfold putHv at hz
    have hy := h y (List.mem_cons_self ..)
    have hr : FitHv r := fun u hu => h u (List.mem_cons_of_mem _ hu)
    split at hz
    · rcases List.mem_cons.1 hz with rfl | hz
      · exact hy
      · exact putHv_fit hx r hr z hz
    · split at hz
      · rcases List.mem_cons.1 hz with rfl | hz
        · split
          · exact hy
          · exact hx
        · exact hr z hz
      · rcases List.mem_cons.1 hz with rfl | hz
        · exact hx
        · exact h z hz
theorem mergeHv_rise (a : List HvD) : ∀ (b : List HvD), Rise a → Rise (mergeHv a b) := by
  intro b
  induction b generalizing a with
  | nil => exact id
  | cons x r ih => intro h; exact ih (putHv x a) (putHv_rise x a h)
theorem mergeHv_fit (a : List HvD) : ∀ (b : List HvD), FitHv a → FitHv b → FitHv (mergeHv a b) := by
  intro b
  induction b generalizing a with
  | nil => exact fun h _ => h
  | cons x r ih =>
    intro h hb
    exact ih (putHv x a) (putHv_fit (hb x (List.mem_cons_self ..)) a h) fun z hz => hb z (List.mem_cons_of_mem _ hz)
theorem mergeHv_len (a : List HvD) : ∀ (b : List HvD), (mergeHv a b).length ≤ a.length + b.length := by
  intro b
  induction b generalizing a with
  | nil => exact Nat.le_refl _
  | cons x r ih =>
    have h1 := ih (putHv x a)
    have h2 := putHv_len x a
    have e : mergeHv a (x :: r) = mergeHv (putHv x a) r := rfl
    rw [e, List.length_cons]
    omega
theorem mergeHv_snoc (a b : List HvD) (x : HvD) : mergeHv a (b ++ [x]) = putHv x (mergeHv a b) := by simp [mergeHv, List.foldl_append]
/-- The greater of two numbers that may be none. -/
def maxO : Option Int → Option Int → Option Int
  | none, b => b
  | some a, none => some a
  | some a, some b => some (if a > b then a else b)
theorem cont_mergeHv (k : Int) : ∀ (b a : List HvD), Rise a → Rise b → cont (mergeHv a b) k = maxO (cont a k) (cont b k) := by
  intro b
  induction b with
  | nil => intro a _ _; simp only [mergeHv, List.foldl_nil, cont]; cases cont a k <;> rfl
  | cons x r ih =>
    intro a ha hb
    have hp := List.pairwise_cons.1 hb
    have e : mergeHv a (x :: r) = mergeHv (putHv x a) r := rfl
    rw [e, ih (putHv x a) (putHv_rise x a ha) hp.2, cont_putHv x k a ha]
    by_cases ek : k = x.From
    · subst ek
      have hn : cont r x.From = none := cont_none_of fun z hz => by have := hp.1 z hz; omega
      rw [if_pos rfl, hn]
      simp only [cont, if_true]
      cases cont a x.From <;> rfl
    · rw [if_neg ek]
      simp only [cont]
      rw [if_neg (fun e2 => ek e2.symm)]

/-- A list of distinct names, none beside 1..1000, is no longer than 1000. -/
theorem rise_index {l : List HvD} (hr : Rise l) (hf : FitHv l) : ∀ j (hj : j < l.length), (j : Int) + 1 ≤ l[j].From
  | 0, hj => by have := hf l[0] (List.getElem_mem hj); omega
  | j + 1, hj => by
    have ih := rise_index hr hf j (by omega)
    have := List.pairwise_iff_getElem.1 hr j (j + 1) (by omega) hj (by omega)
    omega
theorem rise_len {l : List HvD} (hr : Rise l) (hf : FitHv l) : l.length ≤ 1000 := by
  rcases Nat.lt_or_ge 0 l.length with h | h
  · have h1 := rise_index hr hf (l.length - 1) (by omega)
    have h2 := (hf l[l.length - 1] (List.getElem_mem (by omega))).1.2
    omega
  · omega

/-- What a list has that others have not, or have older. -/
def newsHv (l others : List HvD) : List HvD := l.filter fun x => decide (seqIn others x.From < x.Seq)
def withinHv (l : List HvD) (lo hi : Int) : List HvD := l.filter fun x => decide (lo ≤ x.From ∧ x.From ≤ hi)
theorem filter_rise {l : List HvD} (h : Rise l) (p : HvD → Bool) : Rise (l.filter p) := List.Pairwise.filter _ h
theorem filter_fit {l : List HvD} (h : FitHv l) (p : HvD → Bool) : FitHv (l.filter p) := fun x hx => h x (List.mem_filter.1 hx).1
theorem cont_filter {l : List HvD} (h : Rise l) (p : HvD → Bool) (k : Int) : cont (l.filter p) k = match cont l k with | some v => if p ⟨k, v⟩ then some v else none | none => none := by
  rcases hc : cont l k with _ | v
  · refine cont_none_of fun x hx e => ?_
    have := mem_cont h (List.mem_filter.1 hx).1
    rw [e, hc] at this
    cases this
  · have hm := cont_mem hc
    by_cases hp : p ⟨k, v⟩ = true
    · simp only [hp, if_true]
      exact mem_cont (filter_rise h p) (x := ⟨k, v⟩) (List.mem_filter.2 ⟨hm, hp⟩)
    · simp only [hp]
      refine cont_none_of fun x hx e => ?_
      have h1 := List.mem_filter.1 hx
      have h2 := mem_cont h h1.1
      rw [e, hc] at h2
      obtain ⟨f, s⟩ := x
      simp only [Option.some.injEq] at h2 e
      subst h2 e
      exact hp h1.2
theorem within_all (l : List HvD) (lo hi : Int) : (withinHv l lo hi).length = l.length ↔ ∀ x ∈ l, lo ≤ x.From ∧ x.From ≤ hi := by
  unfold withinHv
  rw [List.length_filter_eq_length_iff]
  simp
end Go.Proofs.Ytkpdiojomgiocac
