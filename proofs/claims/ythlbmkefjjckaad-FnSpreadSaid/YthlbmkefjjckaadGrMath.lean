/-
  Edges and tellings as plain data: when edges are good, what was told last, groups (by putting them together, by passes), neighbours.
-/
import Derived.Test.YthlbmkefjjckaadRowEd
namespace Go.Proofs.Ythlbmkefjjckaad
set_option linter.unusedVariables false

def ed0 : EdD := ⟨0, 0, 0⟩
def okEd (n : Int) (x : EdD) : Bool := decide ((0 ≤ x.A ∧ x.A < n) ∧ (0 ≤ x.B ∧ x.B < n) ∧ x.A < x.B ∧ 1 ≤ x.Cost ∧ x.Cost ≤ 100)
/-- One stands ahead of the other. -/
def ahead (x y : EdD) : Bool := decide (x.A < y.A ∨ x.A = y.A ∧ x.B < y.B)
def stepEd (n : Int) (l : List EdD) (j : Nat) : Bool := okEd n (l.getD j ed0) && (decide (j = 0) || ahead (l.getD (j - 1) ed0) (l.getD j ed0))
/-- Whether a list is good edges. -/
def goodEd (n : Int) (l : List EdD) : Bool := (decide (1 ≤ n ∧ n ≤ 12) && decide (l.length ≤ 40)) && (List.range l.length).all (stepEd n l)
theorem getEd (l : List EdD) (j : Nat) (h : j < l.length) : l.getD j ed0 = l[j] := by simp [List.getD_eq_getElem?_getD, h]

theorem goodEd_no (n : Int) (l : List EdD) (k : Nat) (h : k < l.length) (hf : stepEd n l k = false) : goodEd n l = false := by
  rw [Bool.eq_false_iff]
  intro e
  unfold goodEd at e
  rw [Bool.and_eq_true] at e
  have := List.all_eq_true.1 e.2 k (List.mem_range.2 h)
  rw [hf] at this
  cases this
theorem goodEd_long (n : Int) (l : List EdD) (h : ¬ l.length ≤ 40) : goodEd n l = false := by simp [goodEd, h]
theorem goodEd_spots (n : Int) (l : List EdD) (h : ¬ (1 ≤ n ∧ n ≤ 12)) : goodEd n l = false := by
  unfold goodEd
  rw [decide_eq_false h]
  rfl
theorem goodEd_yes (n : Int) (l : List EdD) (hn : 1 ≤ n ∧ n ≤ 12) (h0 : l.length ≤ 40) (h : ∀ j, j < l.length → stepEd n l j = true) : goodEd n l = true := by
  unfold goodEd
  rw [Bool.and_eq_true, Bool.and_eq_true]
  exact ⟨⟨decide_eq_true hn, decide_eq_true h0⟩, List.all_eq_true.2 fun j hj => h j (List.mem_range.1 hj)⟩
/-- Each edge is as said. -/
def FitEd (n : Int) (l : List EdD) : Prop := ∀ x ∈ l, (0 ≤ x.A ∧ x.A < n) ∧ (0 ≤ x.B ∧ x.B < n) ∧ x.A < x.B ∧ 1 ≤ x.Cost ∧ x.Cost ≤ 100
def RiseEd (l : List EdD) : Prop := l.Pairwise fun a b => a.A < b.A ∨ a.A = b.A ∧ a.B < b.B
theorem riseEd_of_steps (l : List EdD) (h : ∀ j, 0 < j → (hj : j < l.length) → (l[j - 1]'(by omega)).A < l[j].A ∨ (l[j - 1]'(by omega)).A = l[j].A ∧ (l[j - 1]'(by omega)).B < l[j].B) : RiseEd l := by
  refine List.pairwise_iff_getElem.2 fun i j hi hj hij => ?_
  have key : ∀ d (hd : i + 1 + d < l.length), l[i].A < l[i + 1 + d].A ∨ l[i].A = l[i + 1 + d].A ∧ l[i].B < l[i + 1 + d].B := by
    intro d
    induction d with
    | zero => intro hd; exact h (i + 1) (by omega) hd
    | succ d ih =>
      intro hd
      have h1 := ih (by omega)
      have h2 := h (i + 1 + (d + 1)) (by omega) hd
      have e : i + 1 + (d + 1) - 1 = i + 1 + d := by omega
      simp only [e] at h2
      omega
  have e : j = i + 1 + (j - i - 1) := by omega
  have := key (j - i - 1) (by omega)
  simpa [← e] using this
theorem goodEd_true {n : Int} {l : List EdD} (h : goodEd n l = true) : (1 ≤ n ∧ n ≤ 12) ∧ l.length ≤ 40 ∧ FitEd n l ∧ RiseEd l := by
  unfold goodEd at h
  rw [Bool.and_eq_true, Bool.and_eq_true] at h
  have hs : ∀ j (hj : j < l.length), okEd n l[j] = true ∧ (j = 0 ∨ ahead (l.getD (j - 1) ed0) l[j] = true) := fun j hj => by
    have := List.all_eq_true.1 h.2 j (List.mem_range.2 hj)
    unfold stepEd at this
    rw [Bool.and_eq_true, getEd l j hj] at this
    exact ⟨this.1, by simpa using this.2⟩
  refine ⟨of_decide_eq_true h.1.1, of_decide_eq_true h.1.2, fun x hx => ?_, riseEd_of_steps l fun j h0 hj => ?_⟩
  · obtain ⟨j, hj, rfl⟩ := List.getElem_of_mem hx
    exact of_decide_eq_true (hs j hj).1
  · have := ((hs j hj).2).resolve_left (by omega)
    rw [getEd l (j - 1) (by omega)] at this
    exact of_decide_eq_true this
theorem goodEd_of {n : Int} {l : List EdD} (hn : 1 ≤ n ∧ n ≤ 12) (h0 : l.length ≤ 40) (hf : FitEd n l) (hr : RiseEd l) : goodEd n l = true := by
  refine goodEd_yes n l hn h0 fun j hj => ?_
  unfold stepEd
  rw [Bool.and_eq_true, getEd l j hj]
  refine ⟨decide_eq_true (hf _ (List.getElem_mem hj)), ?_⟩
  by_cases e : j = 0
  · simp [e]
  · rw [getEd l (j - 1) (by omega)]
    have := List.pairwise_iff_getElem.1 hr (j - 1) j (by omega) hj (by omega)
    rw [show ahead (l[j - 1]'(by omega)) l[j] = true from decide_eq_true this, Bool.or_true]
theorem goodEd_take {n : Int} {l : List EdD} (h : goodEd n l = true) (k : Nat) : goodEd n (l.take k) = true := by
  obtain ⟨hn, h0, hf, hr⟩ := goodEd_true h
  exact goodEd_of hn (Nat.le_trans (by rw [List.length_take]; exact Nat.min_le_right ..) h0) (fun x hx => hf x (List.mem_of_mem_take hx)) (List.Pairwise.sublist (List.take_sublist k l) hr)

/- Groups: labels of spots. -/
def lab (g : List Int) (i : Int) : Int := g.getD i.toNat 0
theorem lab_get (g : List Int) (k : Nat) (h : k < g.length) : lab g (k : Int) = g[k] := by simp [lab, List.getD_eq_getElem?_getD, h]
def iota (n : Nat) : List Int := (List.range n).map fun k : Nat => (k : Int)
theorem iota_len (n : Nat) : (iota n).length = n := by simp [iota]
theorem iota_succ (n : Nat) : iota (n + 1) = iota n ++ [(n : Int)] := by simp [iota, List.range_succ]
theorem lab_iota (n : Nat) (i : Int) (h0 : 0 ≤ i) (h : i < n) : lab (iota n) i = i := by
  have e : i = ((i.toNat : Nat) : Int) := by omega
  rw [e, lab_get _ _ (by rw [iota_len]; omega)]
  simp [iota]
/-- All that have the one label get the other. -/
def relab (g : List Int) (least other : Int) : List Int := g.map fun x => if x = other then least else x
def joinG (g : List Int) (a b : Int) : List Int := relab g (min (lab g a) (lab g b)) (max (lab g a) (lab g b))
def grp (n : Int) (l : List EdD) : List Int := l.foldl (fun g e => joinG g e.A e.B) (iota n.toNat)
theorem relab_len (g : List Int) (p q : Int) : (relab g p q).length = g.length := by simp [relab]
theorem grp_snoc (n : Int) (l : List EdD) (e : EdD) : grp n (l ++ [e]) = joinG (grp n l) e.A e.B := by simp [grp, List.foldl_append]
theorem lab_map (g : List Int) (f : Int → Int) (i : Int) (h0 : 0 ≤ i) (h : i < g.length) : lab (g.map f) i = f (lab g i) := by
  have e : i = ((i.toNat : Nat) : Int) := by omega
  rw [e, lab_get _ _ (by simp; omega), lab_get _ _ (by omega)]
  simp

/-- Labels that keep to edges: least, alike at both ends, and no more than edges ask. -/
def IsGrp (n : Int) (l : List EdD) (g : List Int) : Prop :=
  g.length = n.toNat ∧ (∀ e ∈ l, lab g e.A = lab g e.B) ∧ (∀ i, 0 ≤ i → i < n → 0 ≤ lab g i ∧ lab g i ≤ i) ∧ ∀ P : Int → Prop, (∀ e ∈ l, P e.A ↔ P e.B) → ∀ i, 0 ≤ i → i < n → (P (lab g i) ↔ P i)
theorem IsGrp.uniq {n : Int} {l : List EdD} {g h : List Int} (hg : IsGrp n l g) (hh : IsGrp n l h) : g = h := by
  have key : ∀ {g h : List Int}, IsGrp n l g → IsGrp n l h → ∀ i, 0 ≤ i → i < n → lab g i ≤ lab h i := fun {g h} hg hh i h0 hi => by
    have e := (hh.2.2.2 (fun x => lab g x = lab g i) (fun e he => by rw [hg.2.1 e he]) i h0 hi).2 rfl
    have hb := hh.2.2.1 i h0 hi
    have := (hg.2.2.1 (lab h i) hb.1 (by omega)).2
    omega
  refine List.ext_getElem (by rw [hg.1, hh.1]) fun k h1 h2 => ?_
  have hk : (k : Int) < n := by have := hg.1; omega
  have a := key hg hh k (by omega) hk
  have b := key hh hg k (by omega) hk
  rw [lab_get _ _ h1, lab_get _ _ h2] at a b
  omega
theorem IsGrp.root {n : Int} {l : List EdD} {g : List Int} (hg : IsGrp n l g) (i : Int) (h0 : 0 ≤ i) (hi : i < n) : lab g (lab g i) = lab g i :=
  (hg.2.2.2 (fun x => lab g x = lab g i) (fun e he => by rw [hg.2.1 e he]) i h0 hi).2 rfl
theorem isGrp_iota (n : Int) : IsGrp n [] (iota n.toNat) := by
  refine ⟨iota_len _, (fun e he => nomatch he), fun i h0 hi => ?_, fun P _ i h0 hi => ?_⟩
  · rw [lab_iota _ _ h0 (by omega)]; omega
  · rw [lab_iota _ _ h0 (by omega)]
theorem isGrp_join {n : Int} {l : List EdD} {g : List Int} (hg : IsGrp n l g) (hf : FitEd n l) (e : EdD) (ha : 0 ≤ e.A ∧ e.A < n) (hb : 0 ≤ e.B ∧ e.B < n) : IsGrp n (l ++ [e]) (joinG g e.A e.B) := by
  have hlen := hg.1
  have hm : ∀ i, 0 ≤ i → i < n → lab (joinG g e.A e.B) i = if lab g i = max (lab g e.A) (lab g e.B) then min (lab g e.A) (lab g e.B) else lab g i := fun i h0 hi => lab_map g _ i h0 (by omega)
  have h1 := hg.2.2.1 e.A ha.1 ha.2
  have h2 := hg.2.2.1 e.B hb.1 hb.2
  refine ⟨by unfold joinG; rw [relab_len, hlen], fun x hx => ?_, fun i h0 hi => ?_, fun P hP i h0 hi => ?_⟩
  · rcases List.mem_append.1 hx with hx | hx
    · have hxf := hf x hx
      rw [hm _ hxf.1.1 hxf.1.2, hm _ hxf.2.1.1 hxf.2.1.2, hg.2.1 x hx]
    · obtain rfl := List.mem_singleton.1 hx
      rw [hm _ ha.1 ha.2, hm _ hb.1 hb.2]
      split <;> split <;> omega
  · have h3 := hg.2.2.1 i h0 hi
    rw [hm _ h0 hi]
    split <;> omega
  · have hPl : ∀ x ∈ l, P x.A ↔ P x.B := fun x hx => hP x (List.mem_append_left _ hx)
    have hPe : P e.A ↔ P e.B := hP e (List.mem_append_right _ (List.mem_singleton.2 rfl))
    have pa := hg.2.2.2 P hPl e.A ha.1 ha.2
    have pb := hg.2.2.2 P hPl e.B hb.1 hb.2
    have pi := hg.2.2.2 P hPl i h0 hi
    rw [hm _ h0 hi]
    split
    · next hh =>
      rw [← pi, hh]
      rcases Int.le_total (lab g e.A) (lab g e.B) with hle | hle
      · rw [Int.min_eq_left hle, Int.max_eq_right hle, pa, pb, hPe]
      · rw [Int.min_eq_right hle, Int.max_eq_left hle, pa, pb, hPe]
    · exact pi
theorem isGrp_grp (n : Int) (l : List EdD) (hf : FitEd n l) : IsGrp n l (grp n l) := by
  have key : ∀ k, k ≤ l.length → IsGrp n (l.take k) (grp n (l.take k)) := by
    intro k
    induction k with
    | zero => intro _; rw [List.take_zero]; exact isGrp_iota n
    | succ k ih =>
      intro hk
      have ht : l.take (k + 1) = l.take k ++ [l[k]] := by rw [List.take_add_one, List.getElem?_eq_getElem (by omega)]; rfl
      have hx := hf l[k] (List.getElem_mem (by omega))
      rw [ht, grp_snoc]
      exact isGrp_join (ih (by omega)) (fun x h => hf x (List.mem_of_mem_take h)) _ hx.1 hx.2.1
  have := key l.length (Nat.le_refl _)
  rwa [List.take_length] at this
theorem grp_len (n : Int) (l : List EdD) (hf : FitEd n l) : (grp n l).length = n.toNat := (isGrp_grp n l hf).1

/- Groups by passes. -/
def least2 (g : List Int) (a b : Int) : List Int := (g.set a.toNat (min (lab g a) (lab g b))).set b.toNat (min (lab g a) (lab g b))
def pass (l : List EdD) (g : List Int) : List Int := l.foldl (fun g e => least2 g e.A e.B) g
def passes (l : List EdD) : Nat → List Int → List Int
  | 0, g => g
  | r + 1, g => passes l r (pass l g)
theorem passes_succ (l : List EdD) : ∀ r g, passes l (r + 1) g = pass l (passes l r g)
  | 0, g => rfl
  | r + 1, g => passes_succ l r (pass l g)
theorem pass_snoc (l : List EdD) (e : EdD) (g : List Int) : pass (l ++ [e]) g = least2 (pass l g) e.A e.B := by simp [pass, List.foldl_append]
theorem least2_len (g : List Int) (a b : Int) : (least2 g a b).length = g.length := by simp [least2]
theorem pass_len (l : List EdD) : ∀ g, (pass l g).length = g.length := by
  induction l with
  | nil => intro g; rfl
  | cons e r ih => intro g; exact (ih _).trans (least2_len ..)
theorem passes_len (l : List EdD) : ∀ r g, (passes l r g).length = g.length
  | 0, g => rfl
  | r + 1, g => (passes_len l r _).trans (pass_len l g)
theorem lab_least2 (g : List Int) (a b i : Int) (ha : 0 ≤ a ∧ a < g.length) (hb : 0 ≤ b ∧ b < g.length) (hi : 0 ≤ i ∧ i < g.length) : lab (least2 g a b) i = if i = a ∨ i = b then min (lab g a) (lab g b) else lab g i := by
  have e : ∀ m : Int, lab ((g.set a.toNat m).set b.toNat m) i = if i = a ∨ i = b then m else lab g i := fun m => by
    unfold lab
    simp only [List.getD_eq_getElem?_getD, List.getElem?_set, List.length_set]
    by_cases h1 : i = a
    · subst h1
      by_cases h2 : i = b
      · subst h2
        have : i.toNat < g.length := by omega
        simp [this]
      · have : ¬ b.toNat = i.toNat := by omega
        have h5 : i.toNat < g.length := by omega
        simp [this, h5]
    · by_cases h2 : i = b
      · subst h2
        have h5 : i.toNat < g.length := by omega
        simp [h5]
      · have h3 : ¬ b.toNat = i.toNat := by omega
        have h4 : ¬ a.toNat = i.toNat := by omega
        simp [h1, h2, h3, h4]
  exact e _

/-- What labels keep while passes go on, h being the ones in the end. -/
def Mid (n : Int) (h g : List Int) : Prop := g.length = n.toNat ∧ ∀ i, 0 ≤ i → i < n → lab h i ≤ lab g i ∧ lab g i ≤ i ∧ lab h (lab g i) = lab h i
theorem mid_iota {n : Int} {l : List EdD} {h : List Int} (hh : IsGrp n l h) : Mid n h (iota n.toNat) := by
  refine ⟨iota_len _, fun i h0 hi => ?_⟩
  rw [lab_iota _ _ h0 (by omega)]
  exact ⟨(hh.2.2.1 i h0 hi).2, Int.le_refl _, rfl⟩
theorem mid_least2 {n : Int} {l : List EdD} {h g : List Int} (hh : IsGrp n l h) (hm : Mid n h g) (e : EdD) (he : e ∈ l) (ha : 0 ≤ e.A ∧ e.A < n) (hb : 0 ≤ e.B ∧ e.B < n) :
    Mid n h (least2 g e.A e.B) ∧ (∀ i, 0 ≤ i → i < n → lab g i = lab h i → lab (least2 g e.A e.B) i = lab h i) ∧ ((lab g e.A = lab h e.A ∨ lab g e.B = lab h e.B) → lab (least2 g e.A e.B) e.A = lab h e.A ∧ lab (least2 g e.A e.B) e.B = lab h e.B) := by
  have hlen := hm.1
  have heq := hh.2.1 e he
  have ma := hm.2 e.A ha.1 ha.2
  have mb := hm.2 e.B hb.1 hb.2
  have hl : ∀ i, 0 ≤ i → i < n → lab (least2 g e.A e.B) i = if i = e.A ∨ i = e.B then min (lab g e.A) (lab g e.B) else lab g i := fun i h0 hi => lab_least2 g _ _ i (by omega) (by omega) (by omega)
  have hmin : lab h (min (lab g e.A) (lab g e.B)) = lab h e.A := by
    rcases Int.le_total (lab g e.A) (lab g e.B) with hle | hle
    · rw [Int.min_eq_left hle, ma.2.2]
    · rw [Int.min_eq_right hle, mb.2.2, heq]
  refine ⟨⟨by rw [least2_len, hlen], fun i h0 hi => ?_⟩, fun i h0 hi hg => ?_, fun hg => ?_⟩
  · rw [hl i h0 hi]
    split
    · next hi2 =>
      have hie : lab h i = lab h e.A := hi2.elim (fun e1 => by rw [e1]) fun e1 => by rw [e1, heq]
      rw [hmin, hie]
      refine ⟨by omega, ?_, rfl⟩
      rcases hi2 with rfl | rfl <;> omega
    · exact hm.2 i h0 hi
  · rw [hl i h0 hi]
    split
    · next hi2 =>
      have hie : lab h i = lab h e.A := hi2.elim (fun e1 => by rw [e1]) fun e1 => by rw [e1, heq]
      rcases hi2 with rfl | rfl <;> omega
    · exact hg
  · rw [hl _ ha.1 ha.2, hl _ hb.1 hb.2, if_pos (.inl rfl), if_pos (.inr rfl)]
    omega
theorem mid_pass {n : Int} {l : List EdD} {h : List Int} (hh : IsGrp n l h) (hf : FitEd n l) : ∀ (s : List EdD) (g : List Int), (∀ e ∈ s, e ∈ l) → Mid n h g →
    Mid n h (pass s g) ∧ (∀ i, 0 ≤ i → i < n → lab g i = lab h i → lab (pass s g) i = lab h i) ∧ ∀ e ∈ s, (lab g e.A = lab h e.A ∨ lab g e.B = lab h e.B) → lab (pass s g) e.A = lab h e.A ∧ lab (pass s g) e.B = lab h e.B := by
  intro s
  induction s with
  | nil => intro g _ hm; exact ⟨hm, fun _ _ _ h => h, fun e he => by cases he⟩
  | cons x r ih =>
    intro g hs hm
    have hx := hs x (List.mem_cons_self ..)
    have hxf := hf x hx
    obtain ⟨m1, k1, t1⟩ := mid_least2 hh hm x hx hxf.1 hxf.2.1
    obtain ⟨m2, k2, t2⟩ := ih (least2 g x.A x.B) (fun e he => hs e (List.mem_cons_of_mem _ he)) m1
    refine ⟨m2, fun i h0 hi hg => k2 i h0 hi (k1 i h0 hi hg), fun e he hor => ?_⟩
    have hef := hf e (hs e he)
    rcases List.mem_cons.1 he with rfl | he
    · obtain ⟨ta, tb⟩ := t1 hor
      exact ⟨k2 _ hef.1.1 hef.1.2 ta, k2 _ hef.2.1.1 hef.2.1.2 tb⟩
    · exact t2 e he (hor.imp (k1 _ hef.1.1 hef.1.2) (k1 _ hef.2.1.1 hef.2.1.2))

/-- How many spots have their label of the end. -/
def done (n : Int) (h g : List Int) : Nat := (List.range n.toNat).countP fun k : Nat => decide (lab g (k : Int) = lab h (k : Int))
theorem countP_lt {α : Type} (p q : α → Bool) : ∀ (l : List α), (∀ x ∈ l, p x = true → q x = true) → (∃ x ∈ l, p x = false ∧ q x = true) → l.countP p < l.countP q
  | [], _, h => by obtain ⟨x, hx, -⟩ := h; cases hx
  | y :: r, hm, h => by
    have hle : r.countP p ≤ r.countP q := List.countP_mono_left fun x hx hp => hm x (List.mem_cons_of_mem _ hx) hp
    obtain ⟨x, hx, h1, h2⟩ := h
    rw [List.countP_cons, List.countP_cons]
    rcases List.mem_cons.1 hx with rfl | hx
    · rw [h1, h2]
      simp
      omega
    · have := countP_lt p q r (fun x hx => hm x (List.mem_cons_of_mem _ hx)) ⟨x, hx, h1, h2⟩
      have hy := hm y (List.mem_cons_self ..)
      cases hp : p y with
      | false => simp; omega
      | true => rw [hy hp]; simp; omega
theorem done_all {n : Int} {h g : List Int} (hd : n.toNat ≤ done n h g) (i : Int) (h0 : 0 ≤ i) (hi : i < n) : lab g i = lab h i := by
  have e : (List.range n.toNat).countP (fun k : Nat => decide (lab g (k : Int) = lab h (k : Int))) = (List.range n.toNat).length := Nat.le_antisymm (List.countP_le_length ..) (by rw [List.length_range]; exact hd)
  have := of_decide_eq_true (List.countP_eq_length.1 e i.toNat (List.mem_range.2 (by omega)))
  rwa [show ((i.toNat : Nat) : Int) = i by omega] at this
theorem done_more {n : Int} {l : List EdD} {h g : List Int} (hh : IsGrp n l h) (hf : FitEd n l) (hm : Mid n h g) : n.toNat ≤ done n h g ∨ done n h g < done n h (pass l g) := by
  obtain ⟨m1, k1, t1⟩ := mid_pass hh hf l g (fun _ h => h) hm
  by_cases hall : ∀ i, 0 ≤ i → i < n → lab g i = lab h i
  · left
    unfold done
    exact Nat.le_of_eq (((List.countP_eq_length (p := fun k : Nat => decide (lab g (k : Int) = lab h (k : Int))) (l := List.range n.toNat)).2 fun k hk => decide_eq_true (hall (k : Int) (by omega) (by have := List.mem_range.1 hk; omega))).trans List.length_range).symm
  · right
    have hne : ∃ e ∈ l, ¬ (lab g e.A = lab h e.A ↔ lab g e.B = lab h e.B) := by
      refine Classical.byContradiction fun hno => hall fun i h0 hi => ?_
      have hcl : ∀ e ∈ l, (lab g e.A = lab h e.A) ↔ (lab g e.B = lab h e.B) := fun e he => Classical.byContradiction fun hc => hno ⟨e, he, hc⟩
      refine (hh.2.2.2 (fun x => lab g x = lab h x) hcl i h0 hi).1 ?_
      have hb := hh.2.2.1 i h0 hi
      have hr := hh.root i h0 hi
      have hq := hm.2 (lab h i) hb.1 (by omega)
      omega
    obtain ⟨e, he, hx⟩ := hne
    have hef := hf e he
    refine countP_lt _ _ _ (fun k hk hp => decide_eq_true (k1 (k : Int) (by omega) (by have := List.mem_range.1 hk; omega) (of_decide_eq_true hp))) ?_
    by_cases ha : lab g e.A = lab h e.A
    · have hb : ¬ lab g e.B = lab h e.B := fun hb => hx ⟨fun _ => hb, fun _ => ha⟩
      refine ⟨e.B.toNat, List.mem_range.2 (by omega), ?_, ?_⟩
      · rw [show ((e.B.toNat : Nat) : Int) = e.B by omega]; exact decide_eq_false hb
      · rw [show ((e.B.toNat : Nat) : Int) = e.B by omega]; exact decide_eq_true (t1 e he (.inl ha)).2
    · have hb : lab g e.B = lab h e.B := Classical.byContradiction fun hb => hx ⟨fun h => absurd h ha, fun h => absurd h hb⟩
      refine ⟨e.A.toNat, List.mem_range.2 (by omega), ?_, ?_⟩
      · rw [show ((e.A.toNat : Nat) : Int) = e.A by omega]; exact decide_eq_false ha
      · rw [show ((e.A.toNat : Nat) : Int) = e.A by omega]; exact decide_eq_true (t1 e he (.inr hb)).1
theorem passes_grp {n : Int} {l : List EdD} (hf : FitEd n l) : passes l n.toNat (iota n.toNat) = grp n l := by
  have hh := isGrp_grp n l hf
  have key : ∀ r, Mid n (grp n l) (passes l r (iota n.toNat)) ∧ (n.toNat ≤ done n (grp n l) (passes l r (iota n.toNat)) ∨ r ≤ done n (grp n l) (passes l r (iota n.toNat))) := by
    intro r
    induction r with
    | zero => exact ⟨mid_iota hh, .inr (Nat.zero_le _)⟩
    | succ r ih =>
      obtain ⟨hm, hd⟩ := ih
      rw [passes_succ]
      obtain ⟨m1, k1, -⟩ := mid_pass hh hf l _ (fun _ h => h) hm
      refine ⟨m1, ?_⟩
      have hmono : done n (grp n l) (passes l r (iota n.toNat)) ≤ done n (grp n l) (pass l (passes l r (iota n.toNat))) := List.countP_mono_left fun k hk hp => decide_eq_true (k1 (k : Int) (by omega) (by have := List.mem_range.1 hk; omega) (of_decide_eq_true hp))
      rcases done_more hh hf hm with h1 | h1 <;> omega
  obtain ⟨hm, hd⟩ := key n.toNat
  refine List.ext_getElem (by rw [passes_len, iota_len, hh.1]) fun k h1 h2 => ?_
  have hk : (k : Int) < n := by have := hh.1; omega
  have := done_all (h := grp n l) (g := passes l n.toNat (iota n.toNat)) (by omega) k (by omega) hk
  rwa [lab_get _ _ h1, lab_get _ _ h2] at this
end Go.Proofs.Ythlbmkefjjckaad
