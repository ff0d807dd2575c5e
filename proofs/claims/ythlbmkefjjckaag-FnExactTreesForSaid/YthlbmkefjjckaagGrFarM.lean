/-
  How far spots are, as data: relaxing again and again comes to rest, at what is the same there and back.
-/
import Derived.Test.YthlbmkefjjckaagGrNearM
namespace Go.Proofs.Ythlbmkefjjckaag
set_option linter.unusedVariables false

/- How far: what lies at an edge's other end, relaxing once, again and again. -/
def farC : Int := 100000
def linksD (l : List EdD) (a : Int) : List (Int × Int) := (l.filter fun e => decide (e.A = a ∨ e.B = a)).map fun e => (e.A + e.B - a, e.Cost)
theorem linksD_take (l : List EdD) (a : Int) (k : Nat) (h : k < l.length) : linksD (l.take (k + 1)) a = linksD (l.take k) a ++ if l[k].A = a ∨ l[k].B = a then [(l[k].A + l[k].B - a, l[k].Cost)] else [] := by
  unfold linksD
  rw [List.take_succ_eq_append_getElem h, List.filter_append, List.map_append]
  congr 1
  by_cases e : l[k].A = a ∨ l[k].B = a
  · rw [if_pos e]; simp [e]
  · rw [if_neg e]; simp [e]
theorem linksD_pre (l : List EdD) (a : Int) (k : Nat) : linksD (l.take k) a <+: linksD l a := by
  refine ⟨linksD (l.drop k) a, ?_⟩
  unfold linksD
  rw [← List.map_append, ← List.filter_append, List.take_append_drop]
theorem mem_linksD (l : List EdD) (a : Int) (p : Int × Int) : p ∈ linksD l a ↔ ∃ e ∈ l, (e.A = a ∨ e.B = a) ∧ p = (e.A + e.B - a, e.Cost) := by
  unfold linksD
  rw [List.mem_map]
  constructor
  · rintro ⟨e, he, rfl⟩
    rw [List.mem_filter] at he
    exact ⟨e, he.1, of_decide_eq_true he.2, rfl⟩
  · rintro ⟨e, he, h, rfl⟩
    exact ⟨e, List.mem_filter.2 ⟨he, decide_eq_true h⟩, rfl⟩
theorem linksD_len (l : List EdD) (a : Int) : (linksD l a).length ≤ l.length := by
  unfold linksD
  rw [List.length_map]
  exact List.length_filter_le ..

/-- Whether k is joined with i at Cost c. -/
def Joined (l : List EdD) (i k c : Int) : Prop := ∃ e ∈ l, (e.A = i ∧ e.B = k ∨ e.B = i ∧ e.A = k) ∧ e.Cost = c
theorem Joined.symm {l : List EdD} {i k c : Int} (h : Joined l i k c) : Joined l k i c := by
  obtain ⟨e, he, h, hc⟩ := h
  exact ⟨e, he, h.elim (fun h => .inr ⟨h.2, h.1⟩) (fun h => .inl ⟨h.2, h.1⟩), hc⟩
theorem Joined.fit {n : Int} {l : List EdD} (hf : FitEd n l) {i k c : Int} (h : Joined l i k c) : (0 ≤ i ∧ i < n) ∧ (0 ≤ k ∧ k < n) ∧ 1 ≤ c ∧ c ≤ 100 := by
  obtain ⟨e, he, h, hc⟩ := h
  have := hf e he
  omega
theorem linksD_joined (l : List EdD) (i k c : Int) : (k, c) ∈ linksD l i ↔ Joined l i k c := by
  rw [mem_linksD]
  refine exists_congr fun e => and_congr_right fun _ => ?_
  rw [Prod.mk.injEq]
  constructor
  · rintro ⟨h, h1, h2⟩
    exact ⟨by omega, by omega⟩
  · rintro ⟨h, h1⟩
    exact ⟨by omega, by omega, by omega⟩

theorem foldMin_le (f : Int × Int → Int) : ∀ (ps : List (Int × Int)) (z y : Int), y ≤ ps.foldl (fun m p => min m (f p)) z ↔ y ≤ z ∧ ∀ p ∈ ps, y ≤ f p
  | [], z, y => by simp
  | p :: r, z, y => by
    rw [List.foldl_cons, foldMin_le f r, List.forall_mem_cons]
    constructor
    · rintro ⟨h1, h2⟩
      exact ⟨by omega, by omega, h2⟩
    · rintro ⟨h1, h2, h3⟩
      exact ⟨by omega, h3⟩
theorem foldMin_is (f : Int × Int → Int) : ∀ (ps : List (Int × Int)) (z : Int), ps.foldl (fun m p => min m (f p)) z = z ∨ ∃ p ∈ ps, ps.foldl (fun m p => min m (f p)) z = f p
  | [], z => .inl rfl
  | p :: r, z => by
    rw [List.foldl_cons]
    rcases foldMin_is f r (min z (f p)) with h | ⟨q, hq, h⟩
    · rw [h]
      by_cases e : z ≤ f p
      · exact .inl (by omega)
      · exact .inr ⟨p, List.mem_cons_self .., by omega⟩
    · exact .inr ⟨q, List.mem_cons_of_mem _ hq, h⟩
def relAt (l : List EdD) (far : List Int) (i : Int) : Int := (linksD l i).foldl (fun m p => min m (lab far p.1 + p.2)) (lab far i)
theorem le_relAt (l : List EdD) (far : List Int) (i y : Int) : y ≤ relAt l far i ↔ y ≤ lab far i ∧ ∀ k c, Joined l i k c → y ≤ lab far k + c := by
  unfold relAt
  rw [foldMin_le (fun p => lab far p.1 + p.2)]
  refine and_congr_right fun _ => ⟨fun h k c hj => h (k, c) ((linksD_joined ..).2 hj), fun h p hp => h p.1 p.2 ((linksD_joined ..).1 hp)⟩
theorem relAt_is (l : List EdD) (far : List Int) (i : Int) : relAt l far i = lab far i ∨ ∃ k c, Joined l i k c ∧ relAt l far i = lab far k + c := by
  unfold relAt
  rcases foldMin_is (fun p => lab far p.1 + p.2) (linksD l i) (lab far i) with h | ⟨p, hp, h⟩
  · exact .inl h
  · exact .inr ⟨p.1, p.2, (linksD_joined ..).1 hp, h⟩
def relD (l : List EdD) (far : List Int) : List Int := (iota far.length).map (relAt l far)
theorem relD_len (l : List EdD) (far : List Int) : (relD l far).length = far.length := by simp [relD, iota_len]
theorem lab_relD (l : List EdD) (far : List Int) (i : Int) (h0 : 0 ≤ i) (h : i < far.length) : lab (relD l far) i = relAt l far i := by
  unfold relD
  rw [lab_map _ _ _ h0 (by rw [iota_len]; exact h), lab_iota _ _ h0 h]
theorem lab_ext {f g : List Int} (h : f.length = g.length) (he : ∀ i : Int, 0 ≤ i → i < f.length → lab f i = lab g i) : f = g := by
  refine List.ext_getElem h fun k h1 h2 => ?_
  have := he k (by omega) (by omega)
  rwa [lab_get _ _ h1, lab_get _ _ h2] at this
/-- The least of two is told by what lies below. -/
theorem eq_of_le {a b : Int} (h : ∀ y, y ≤ a ↔ y ≤ b) : a = b := by
  have h1 := (h a).1 (Int.le_refl _)
  have h2 := (h b).2 (Int.le_refl _)
  omega
theorem lab_set (g : List Int) (k : Nat) (v : Int) (i : Int) (hi : 0 ≤ i) (hk : k < g.length) : lab (g.set k v) i = if i = k then v else lab g i := by
  unfold lab
  rw [List.getD_eq_getElem?_getD, List.getElem?_set, List.getD_eq_getElem?_getD]
  by_cases e : i = k
  · have e2 : k = i.toNat := by omega
    rw [if_pos e, if_pos e2, if_pos hk]
    rfl
  · have e2 : ¬ k = i.toNat := by omega
    rw [if_neg e, if_neg e2]

/- The model's: an edge at a time, into a copy. -/
def relB (far out : List Int) (e : EdD) : List Int := out.set e.A.toNat (min (lab out e.A) (lab far e.B + e.Cost))
def relE (far out : List Int) (e : EdD) : List Int := (relB far out e).set e.B.toNat (min (lab (relB far out e) e.B) (lab far e.A + e.Cost))
def relS (l : List EdD) (far : List Int) : List Int := l.foldl (relE far) far
theorem relE_len (far out : List Int) (e : EdD) : (relE far out e).length = out.length := by simp [relE, relB]
theorem relS_take (l : List EdD) (far : List Int) (k : Nat) (h : k < l.length) : relS (l.take (k + 1)) far = relE far (relS (l.take k) far) l[k] := by
  unfold relS
  rw [List.take_succ_eq_append_getElem h, List.foldl_append]
  rfl
theorem relF_len (far : List Int) : ∀ (l : List EdD) (out : List Int), (l.foldl (relE far) out).length = out.length
  | [], _ => rfl
  | e :: r, out => by rw [List.foldl_cons, relF_len far r, relE_len]
theorem relS_len (l : List EdD) (far : List Int) : (relS l far).length = far.length := relF_len far l far
theorem le_relE {n : Int} (far out : List Int) (e : EdD) (ho : (out.length : Int) = n) (he : (0 ≤ e.A ∧ e.A < n) ∧ (0 ≤ e.B ∧ e.B < n) ∧ e.A < e.B) (i y : Int) (h0 : 0 ≤ i) :
    y ≤ lab (relE far out e) i ↔ y ≤ lab out i ∧ (e.A = i → y ≤ lab far e.B + e.Cost) ∧ (e.B = i → y ≤ lab far e.A + e.Cost) := by
  have h1 : ∀ j : Int, 0 ≤ j → lab (relB far out e) j = if j = e.A then min (lab out e.A) (lab far e.B + e.Cost) else lab out j := fun j hj => by
    unfold relB
    rw [lab_set _ _ _ _ hj (by omega), show (e.A.toNat : Int) = e.A by omega]
  have h2 : lab (relE far out e) i = if i = e.B then min (lab (relB far out e) e.B) (lab far e.A + e.Cost) else lab (relB far out e) i := by
    unfold relE
    rw [lab_set _ _ _ _ h0 (by unfold relB; rw [List.length_set]; omega), show (e.B.toNat : Int) = e.B by omega]
  rw [h2]
  by_cases c2 : i = e.B
  · rw [if_pos c2, h1 _ (by omega), if_neg (by omega), c2]
    have : ¬ e.A = e.B := by omega
    simp only [this, false_implies, true_implies, true_and]
    omega
  · rw [if_neg c2, h1 _ h0]
    have : ¬ e.B = i := fun h => c2 h.symm
    simp only [this, false_implies, and_true]
    by_cases c1 : i = e.A
    · rw [if_pos c1, c1]
      simp only [true_implies]
      omega
    · rw [if_neg c1]
      have : ¬ e.A = i := fun h => c1 h.symm
      simp [this]
theorem relS_eq {n : Int} {l : List EdD} (hf : FitEd n l) (far : List Int) (hl : (far.length : Int) = n) : relS l far = relD l far := by
  have key : ∀ (l : List EdD) (out : List Int), FitEd n l → (out.length : Int) = n → ∀ i y : Int, 0 ≤ i → (y ≤ lab (l.foldl (relE far) out) i ↔ y ≤ lab out i ∧ ∀ k c, Joined l i k c → y ≤ lab far k + c) := by
    intro l
    induction l with
    | nil =>
      intro out _ _ i y _
      simp [Joined]
    | cons e r ih =>
      intro out hf ho i y h0
      have he := hf e (List.mem_cons_self ..)
      rw [List.foldl_cons, ih _ (fun x hx => hf x (List.mem_cons_of_mem _ hx)) (by rw [relE_len]; exact ho) i y h0, le_relE far out e ho ⟨he.1, he.2.1, he.2.2.1⟩ i y h0]
      constructor
      · rintro ⟨⟨h1, h2, h3⟩, h4⟩
        refine ⟨h1, fun k c ⟨x, hx, hj, hc⟩ => ?_⟩
        rcases List.mem_cons.1 hx with rfl | hx
        · rcases hj with ⟨ha, hb⟩ | ⟨ha, hb⟩
          · rw [← hb, ← hc]; exact h2 ha
          · rw [← hb, ← hc]; exact h3 ha
        · exact h4 k c ⟨x, hx, hj, hc⟩
      · rintro ⟨h1, h2⟩
        exact ⟨⟨h1, fun ha => h2 e.B e.Cost ⟨e, List.mem_cons_self .., .inl ⟨ha, rfl⟩, rfl⟩, fun ha => h2 e.A e.Cost ⟨e, List.mem_cons_self .., .inr ⟨ha, rfl⟩, rfl⟩⟩, fun k c ⟨x, hx, hj, hc⟩ => h2 k c ⟨x, List.mem_cons_of_mem _ hx, hj, hc⟩⟩
  refine lab_ext (by rw [relS_len, relD_len]) fun i h0 hi => ?_
  rw [relS_len] at hi
  rw [lab_relD l far i h0 hi]
  refine eq_of_le fun y => ?_
  rw [le_relAt]
  exact key l far hf hl i y h0

/- The rounds. -/
def farI (n : Nat) (a : Int) : List Int := (List.replicate n farC).set a.toNat 0
def farD (n : Nat) (l : List EdD) (a : Int) : Nat → List Int
  | 0 => farI n a
  | j + 1 => relD l (farD n l a j)
def fars (n : Nat) (l : List EdD) (a : Int) : List Int := farD n l a n
theorem farD_len (n : Nat) (l : List EdD) (a : Int) : ∀ j, (farD n l a j).length = n
  | 0 => by simp [farD, farI]
  | j + 1 => by rw [farD, relD_len, farD_len n l a j]
theorem lab_farI (n : Nat) (a i : Int) (ha : 0 ≤ a ∧ a < n) (h0 : 0 ≤ i) (hi : i < n) : lab (farI n a) i = if i = a then 0 else farC := by
  unfold farI
  rw [lab_set _ _ _ _ h0 (by rw [List.length_replicate]; omega), show (a.toNat : Int) = a by omega]
  by_cases e : i = a
  · rw [if_pos e, if_pos e]
  · rw [if_neg e, if_neg e]
    have e2 : i = ((i.toNat : Nat) : Int) := by omega
    rw [e2, lab_get _ _ (by rw [List.length_replicate]; omega)]
    simp
theorem farD_succ {n : Nat} {l : List EdD} {a : Int} (j : Nat) (i : Int) (h0 : 0 ≤ i) (hi : i < n) : lab (farD n l a (j + 1)) i = relAt l (farD n l a j) i := by
  rw [farD, lab_relD _ _ _ h0 (by rw [farD_len]; exact hi)]
theorem farD_down {n : Nat} {l : List EdD} {a : Int} (j : Nat) (i : Int) (h0 : 0 ≤ i) (hi : i < n) : lab (farD n l a (j + 1)) i ≤ lab (farD n l a j) i := by
  rw [farD_succ j i h0 hi]
  exact ((le_relAt l _ i _).1 (Int.le_refl _)).1
theorem farD_far {n : Nat} {l : List EdD} {a : Int} (ha : 0 ≤ a ∧ a < n) (j : Nat) (i : Int) (h0 : 0 ≤ i) (hi : i < n) : lab (farD n l a j) i ≤ farC := by
  induction j with
  | zero =>
    rw [farD, lab_farI n a i ha h0 hi]
    unfold farC
    split <;> omega
  | succ j ih => exact Int.le_trans (farD_down j i h0 hi) ih
theorem farD_low {n : Nat} {l : List EdD} {a : Int} (hf : FitEd n l) (ha : 0 ≤ a ∧ a < n) (j : Nat) : ∀ (i : Int), 0 ≤ i → i < n → lab (farD n l a j) i = farC ∨ 0 ≤ lab (farD n l a j) i ∧ lab (farD n l a j) i ≤ 100 * j := by
  induction j with
  | zero =>
    intro i h0 hi
    rw [farD, lab_farI n a i ha h0 hi]
    split
    · exact .inr (by omega)
    · exact .inl rfl
  | succ j ih =>
    intro i h0 hi
    have hF := farD_far (l := l) ha (j + 1) i h0 hi
    rw [farD_succ j i h0 hi] at hF ⊢
    rcases relAt_is l (farD n l a j) i with e | ⟨k, c, hj, e⟩
    · rw [e]
      rcases ih i h0 hi with h | h
      · exact .inl h
      · exact .inr (by omega)
    · have hk := hj.fit hf
      rcases ih k hk.2.1.1 hk.2.1.2 with h | h
      · rw [e, h] at hF
        omega
      · exact .inr (by rw [e]; omega)
theorem farD_nonneg {n : Nat} {l : List EdD} {a : Int} (hf : FitEd n l) (ha : 0 ≤ a ∧ a < n) (j : Nat) (i : Int) (h0 : 0 ≤ i) (hi : i < n) : 0 ≤ lab (farD n l a j) i := by
  have := farD_low hf ha j i h0 hi
  unfold farC at this
  omega
/-- No numbers that keep to edges are greater. -/
theorem farD_most {n : Nat} {l : List EdD} {a : Int} (hf : FitEd n l) (ha : 0 ≤ a ∧ a < n) (g : Int → Int) (ga : g a ≤ 0) (gf : ∀ i : Int, 0 ≤ i → i < n → g i ≤ farC) (gj : ∀ i k c, Joined l i k c → g i ≤ g k + c) (j : Nat) :
    ∀ i : Int, 0 ≤ i → i < n → g i ≤ lab (farD n l a j) i := by
  induction j with
  | zero =>
    intro i h0 hi
    rw [farD, lab_farI n a i ha h0 hi]
    split
    · next e => rw [e]; exact ga
    · exact gf i h0 hi
  | succ j ih =>
    intro i h0 hi
    rw [farD_succ j i h0 hi, le_relAt]
    refine ⟨ih i h0 hi, fun k c hj => ?_⟩
    have hk := hj.fit hf
    have := ih k hk.2.1.1 hk.2.1.2
    have := gj i k c hj
    omega
theorem farD_at {n : Nat} {l : List EdD} {a : Int} (hf : FitEd n l) (ha : 0 ≤ a ∧ a < n) (j : Nat) : lab (farD n l a j) a = 0 := by
  have h1 := farD_nonneg hf ha j a ha.1 ha.2
  have h2 : lab (farD n l a j) a ≤ 0 := by
    clear h1
    induction j with
    | zero => rw [farD, lab_farI n a a ha ha.1 ha.2, if_pos rfl]; exact Int.le_refl _
    | succ j ih => exact Int.le_trans (farD_down j a ha.1 ha.2) ih
  omega

/- Sums over spots. -/
def sumTo (f : Int → Int) : Nat → Int
  | 0 => 0
  | k + 1 => sumTo f k + f k
theorem sumTo_le {f g : Int → Int} : ∀ {n : Nat}, (∀ i : Int, 0 ≤ i → i < n → f i ≤ g i) → sumTo f n ≤ sumTo g n
  | 0, _ => Int.le_refl _
  | n + 1, h => by
    have h1 := sumTo_le (n := n) fun i h0 hi => h i h0 (by omega)
    have h2 := h n (by omega) (by omega)
    simp only [sumTo]
    omega
theorem sumTo_lt {f g : Int → Int} : ∀ {n : Nat}, (∀ i : Int, 0 ≤ i → i < n → f i ≤ g i) → (∃ i : Int, 0 ≤ i ∧ i < n ∧ f i < g i) → sumTo f n < sumTo g n
  | 0, _, ⟨i, h0, hi, _⟩ => by omega
  | n + 1, h, ⟨i, h0, hi, hlt⟩ => by
    have h2 := h n (by omega) (by omega)
    simp only [sumTo]
    by_cases e : i = n
    · have h1 := sumTo_le (n := n) fun i h0 hi => h i h0 (by omega)
      rw [e] at hlt
      omega
    · have h1 := sumTo_lt (n := n) (fun i h0 hi => h i h0 (by omega)) ⟨i, h0, by omega, hlt⟩
      omega
theorem sumTo_one : ∀ n : Nat, sumTo (fun _ => 1) n = n
  | 0 => rfl
  | n + 1 => by simp only [sumTo, sumTo_one n]; omega
theorem sumTo_zero : ∀ n : Nat, sumTo (fun _ => 0) n = 0
  | 0 => rfl
  | n + 1 => by simp only [sumTo, sumTo_zero n]; omega

/-- Once the rounds change nothing. -/
def Rests (n : Nat) (l : List EdD) (a : Int) (m : Nat) : Prop := ∀ i : Int, 0 ≤ i → i < n → lab (farD n l a (m + 1)) i = lab (farD n l a m) i
theorem rests_ex {n : Nat} {l : List EdD} {a : Int} (hf : FitEd n l) (ha : 0 ≤ a ∧ a < n) : ∃ m, Rests n l a m := by
  refine Classical.byContradiction fun hno => ?_
  have hS : ∀ m : Nat, sumTo (lab (farD n l a m)) n ≤ sumTo (lab (farD n l a 0)) n - m := by
    intro m
    induction m with
    | zero => omega
    | succ m ih =>
      have : sumTo (lab (farD n l a (m + 1))) n < sumTo (lab (farD n l a m)) n := by
        refine sumTo_lt (fun i h0 hi => farD_down m i h0 hi) (Classical.byContradiction fun hn => hno ⟨m, fun i h0 hi => ?_⟩)
        have h1 := farD_down (l := l) (a := a) m i h0 hi
        refine Classical.byContradiction fun hne => hn ⟨i, h0, hi, by omega⟩
      omega
  have h1 := hS ((sumTo (lab (farD n l a 0)) n).toNat + 1)
  have h2 : (0 : Int) ≤ sumTo (lab (farD n l a ((sumTo (lab (farD n l a 0)) n).toNat + 1))) n := by
    have := sumTo_le (n := n) (f := fun _ => 0) (g := lab (farD n l a ((sumTo (lab (farD n l a 0)) n).toNat + 1))) fun i h0 hi => farD_nonneg hf ha _ i h0 hi
    rwa [sumTo_zero] at this
  omega
theorem Rests.same {n : Nat} {l : List EdD} {a : Int} {m : Nat} (h : Rests n l a m) : farD n l a (m + 1) = farD n l a m :=
  lab_ext (by rw [farD_len, farD_len]) fun i h0 hi => h i h0 (by rw [farD_len] at hi; exact hi)
theorem Rests.on {n : Nat} {l : List EdD} {a : Int} {m : Nat} (h : Rests n l a m) : ∀ j, farD n l a (m + j) = farD n l a m
  | 0 => rfl
  | j + 1 => by
    have := h.on j
    rw [← Nat.add_assoc, farD, this]
    exact h.same
theorem farD_anti {n : Nat} {l : List EdD} {a : Int} (i : Int) (h0 : 0 ≤ i) (hi : i < n) (j : Nat) : ∀ d, lab (farD n l a (j + d)) i ≤ lab (farD n l a j) i
  | 0 => Int.le_refl _
  | d + 1 => Int.le_trans (farD_down (j + d) i h0 hi) (farD_anti i h0 hi j d)
theorem Rests.least {n : Nat} {l : List EdD} {a : Int} {m : Nat} (h : Rests n l a m) (j : Nat) (i : Int) (h0 : 0 ≤ i) (hi : i < n) : lab (farD n l a m) i ≤ lab (farD n l a j) i := by
  have h1 := farD_anti (l := l) (a := a) i h0 hi j m
  rwa [Nat.add_comm, h.on j] at h1
theorem Rests.edge {n : Nat} {l : List EdD} {a : Int} {m : Nat} (hf : FitEd n l) (h : Rests n l a m) (i k c : Int) (hj : Joined l i k c) : lab (farD n l a m) i ≤ lab (farD n l a m) k + c := by
  have hk := hj.fit hf
  have := h i hk.1.1 hk.1.2
  rw [farD_succ m i hk.1.1 hk.1.2] at this
  rw [← this]
  exact ((le_relAt l _ i _).1 (Int.le_refl _)).2 k c hj
/-- What is near by some edge is so by an edge at which the way goes on. -/
theorem Rests.tight {n : Nat} {l : List EdD} {a : Int} {m : Nat} (hf : FitEd n l) (ha : 0 ≤ a ∧ a < n) (h : Rests n l a m) (i : Int) (h0 : 0 ≤ i) (hi : i < n) (hia : i ≠ a) (hfar : lab (farD n l a m) i < farC) :
    ∃ k c, Joined l i k c ∧ lab (farD n l a m) k + c = lab (farD n l a m) i := by
  have key : ∀ j, lab (farD n l a j) i = lab (farD n l a m) i → ∃ k c, Joined l i k c ∧ lab (farD n l a m) k + c = lab (farD n l a m) i := by
    intro j
    induction j with
    | zero =>
      intro e
      rw [← e, farD, lab_farI n a i ha h0 hi, if_neg hia] at hfar
      omega
    | succ j ih =>
      intro e
      by_cases e2 : lab (farD n l a j) i = lab (farD n l a m) i
      · exact ih e2
      · have hd := h.least j i h0 hi
        rw [farD_succ j i h0 hi] at e
        rcases relAt_is l (farD n l a j) i with q | ⟨k, c, hj, q⟩
        · omega
        · have hk := hj.fit hf
          have h1 := h.least j k hk.2.1.1 hk.2.1.2
          have h2 := h.edge hf i k c hj
          exact ⟨k, c, hj, by omega⟩
  exact key m rfl
/-- So many rounds as there are spots are enough. -/
theorem rests_n {n : Nat} {l : List EdD} {a : Int} (hf : FitEd n l) (ha : 0 ≤ a ∧ a < n) : ∃ m, Rests n l a m ∧ farD n l a n = farD n l a m := by
  obtain ⟨m, hm⟩ := rests_ex hf ha
  refine ⟨m, hm, ?_⟩
  have key : ∀ j : Nat, (∀ i : Int, 0 ≤ i → i < n → lab (farD n l a j) i = lab (farD n l a m) i) ∨ (j : Int) + 1 ≤ sumTo (fun i => if lab (farD n l a j) i = lab (farD n l a m) i then 1 else 0) n := by
    intro j
    induction j with
    | zero =>
      right
      have : sumTo (fun _ => 0) n < sumTo (fun i => if lab (farD n l a 0) i = lab (farD n l a m) i then 1 else 0) n := by
        refine sumTo_lt (fun i _ _ => ?_) ⟨a, ha.1, ha.2, ?_⟩
        · split <;> omega
        · rw [farD_at hf ha, farD_at hf ha, if_pos rfl]
          omega
      rw [sumTo_zero] at this
      omega
    | succ j ih =>
      rcases ih with ih | ih
      · left
        intro i h0 hi
        have h1 := farD_down (l := l) (a := a) j i h0 hi
        have h2 := hm.least (j + 1) i h0 hi
        have := ih i h0 hi
        omega
      · by_cases hall : ∀ i : Int, 0 ≤ i → i < n → lab (farD n l a j) i = lab (farD n l a m) i
        · left
          intro i h0 hi
          have h1 := farD_down (l := l) (a := a) j i h0 hi
          have h2 := hm.least (j + 1) i h0 hi
          have := hall i h0 hi
          omega
        · right
          -- the nearest one that is not yet told
          have hex : ∃ s : Int, 0 ≤ s ∧ s < n ∧ lab (farD n l a j) s ≠ lab (farD n l a m) s ∧ ∀ k : Int, 0 ≤ k → k < n → lab (farD n l a m) k < lab (farD n l a m) s → lab (farD n l a j) k = lab (farD n l a m) k := by
            refine Classical.byContradiction fun hno => hall ?_
            have hd : ∀ v : Nat, ∀ s : Int, 0 ≤ s → s < n → (lab (farD n l a m) s).toNat < v → lab (farD n l a j) s = lab (farD n l a m) s := by
              intro v
              induction v with
              | zero => intro s _ _ h; omega
              | succ v ihv =>
                intro s h0 hs hv
                refine Classical.byContradiction fun hne => hno ⟨s, h0, hs, hne, fun k k0 kn hlt => ihv k k0 kn ?_⟩
                have := farD_nonneg hf ha m k k0 kn
                omega
            exact fun i h0 hi => hd _ i h0 hi (Nat.lt_succ_self _)
          obtain ⟨s, s0, sn, hne, hless⟩ := hex
          have hsa : s ≠ a := fun e => hne (by rw [e, farD_at hf ha, farD_at hf ha])
          have hlow := hm.least j s s0 sn
          have hfar := farD_far (l := l) ha j s s0 sn
          obtain ⟨k, c, hj, hk⟩ := hm.tight hf ha s s0 sn hsa (by omega)
          have hfit := hj.fit hf
          have hkj := hless k hfit.2.1.1 hfit.2.1.2 (by omega)
          have hs1 : lab (farD n l a (j + 1)) s = lab (farD n l a m) s := by
            have h1 := hm.least (j + 1) s s0 sn
            have h2 : lab (farD n l a (j + 1)) s ≤ lab (farD n l a j) k + c := by
              rw [farD_succ j s s0 sn]
              exact ((le_relAt l _ s _).1 (Int.le_refl _)).2 k c hj
            omega
          have : sumTo (fun i => if lab (farD n l a j) i = lab (farD n l a m) i then 1 else 0) n < sumTo (fun i => if lab (farD n l a (j + 1)) i = lab (farD n l a m) i then 1 else 0) n := by
            refine sumTo_lt (fun i h0 hi => ?_) ⟨s, s0, sn, ?_⟩
            · by_cases e : lab (farD n l a j) i = lab (farD n l a m) i
              · have h1 := farD_down (l := l) (a := a) j i h0 hi
                have h2 := hm.least (j + 1) i h0 hi
                rw [if_pos e, if_pos (by omega)]
                exact Int.le_refl _
              · rw [if_neg e]
                split <;> omega
            · rw [if_neg hne, if_pos hs1]
              omega
          omega
  refine lab_ext (by rw [farD_len, farD_len]) fun i h0 hi => ?_
  rw [farD_len] at hi
  rcases key n with h | h
  · exact h i h0 hi
  · have := sumTo_le (n := n) (f := fun i => if lab (farD n l a n) i = lab (farD n l a m) i then 1 else 0) (g := fun _ => 1) fun i _ _ => by split <;> omega
    rw [sumTo_one] at this
    omega

section Told
variable {n : Nat} {l : List EdD} {a : Int}
theorem fars_len : (fars n l a).length = n := farD_len n l a n
theorem fars_edge (hf : FitEd n l) (ha : 0 ≤ a ∧ a < n) (i k c : Int) (hj : Joined l i k c) : lab (fars n l a) i ≤ lab (fars n l a) k + c := by
  obtain ⟨m, hm, e⟩ := rests_n hf ha
  rw [fars, e]
  exact hm.edge hf i k c hj
theorem fars_tight (hf : FitEd n l) (ha : 0 ≤ a ∧ a < n) (i : Int) (h0 : 0 ≤ i) (hi : i < n) (hia : i ≠ a) (hfar : lab (fars n l a) i < farC) : ∃ k c, Joined l i k c ∧ lab (fars n l a) k + c = lab (fars n l a) i := by
  obtain ⟨m, hm, e⟩ := rests_n hf ha
  rw [fars, e] at hfar ⊢
  exact hm.tight hf ha i h0 hi hia hfar
theorem fars_rests (hf : FitEd n l) (ha : 0 ≤ a ∧ a < n) : relD l (fars n l a) = fars n l a := by
  obtain ⟨m, hm, e⟩ := rests_n hf ha
  rw [fars, e]
  exact hm.same
theorem fars_far (ha : 0 ≤ a ∧ a < n) (i : Int) (h0 : 0 ≤ i) (hi : i < n) : lab (fars n l a) i ≤ farC := farD_far ha n i h0 hi
theorem fars_low (hf : FitEd n l) (ha : 0 ≤ a ∧ a < n) (i : Int) (h0 : 0 ≤ i) (hi : i < n) : lab (fars n l a) i = farC ∨ 0 ≤ lab (fars n l a) i ∧ lab (fars n l a) i ≤ 100 * n := farD_low hf ha n i h0 hi
theorem fars_nonneg (hf : FitEd n l) (ha : 0 ≤ a ∧ a < n) (i : Int) (h0 : 0 ≤ i) (hi : i < n) : 0 ≤ lab (fars n l a) i := farD_nonneg hf ha n i h0 hi
theorem fars_at (hf : FitEd n l) (ha : 0 ≤ a ∧ a < n) : lab (fars n l a) a = 0 := farD_at hf ha n
/-- The same there and back. -/
theorem fars_back (hf : FitEd n l) (ha : 0 ≤ a ∧ a < n) {b : Int} (hb : 0 ≤ b ∧ b < n) : lab (fars n l a) b = lab (fars n l b) a := by
  have key : ∀ {a b : Int}, (0 ≤ a ∧ a < n) → (0 ≤ b ∧ b < n) → lab (fars n l a) b ≤ lab (fars n l b) a := fun {a b} ha hb => by
    have h := farD_most hf hb (fun i => lab (fars n l a) b - lab (fars n l a) i) (by omega) (fun i h0 hi => by
      have h1 := fars_far (l := l) ha b hb.1 hb.2
      have h2 := fars_nonneg hf ha i h0 hi
      omega) (fun i k c hj => by
      have := fars_edge hf ha k i c hj.symm
      omega) n a ha.1 ha.2
    rw [fars_at hf ha] at h
    simpa [fars] using h
  have h1 := key ha hb
  have h2 := key hb ha
  omega
/-- No way round is shorter. -/
theorem fars_round (hf : FitEd n l) (ha : 0 ≤ a ∧ a < n) {b : Int} (hb : 0 ≤ b ∧ b < n) (j : Int) (h0 : 0 ≤ j) (hj : j < n) : lab (fars n l a) j ≤ lab (fars n l a) b + lab (fars n l b) j := by
  have h := farD_most hf hb (fun i => lab (fars n l a) i - lab (fars n l a) b) (by omega) (fun i h0 hi => by
    have h1 := fars_far (l := l) ha i h0 hi
    have h2 := fars_nonneg hf ha b hb.1 hb.2
    omega) (fun i k c hj => by
    have := fars_edge hf ha i k c hj
    omega) n j h0 hj
  have e : lab (fars n l b) j = lab (farD n l b n) j := rfl
  omega
/-- Far just where no way leads. -/
theorem fars_groups (hf : FitEd n l) (hn : n ≤ 12) (ha : 0 ≤ a ∧ a < n) {g : List Int} (hg : IsGrp n l g) (b : Int) (hb : 0 ≤ b ∧ b < n) : lab (fars n l a) b = farC ↔ lab g b ≠ lab g a := by
  constructor
  · intro hfar he
    have hP := hg.2.2.2 (fun x => 0 ≤ x ∧ x < n ∧ lab (fars n l a) x < farC) (fun e hm => by
      have hfit := hf e hm
      have j1 : Joined l e.A e.B e.Cost := ⟨e, hm, .inl ⟨rfl, rfl⟩, rfl⟩
      have h1 := fars_edge hf ha _ _ _ j1
      have h2 := fars_edge hf ha _ _ _ j1.symm
      have l1 := fars_low hf ha e.A hfit.1.1 hfit.1.2
      have l2 := fars_low hf ha e.B hfit.2.1.1 hfit.2.1.2
      unfold farC at *
      omega)
    have pa := (hP a ha.1 ha.2).2 ⟨ha.1, ha.2, by rw [fars_at hf ha]; decide⟩
    rw [← he] at pa
    have pb := (hP b hb.1 hb.2).1 pa
    have := pb.2.2
    omega
  · intro hne
    have h := farD_most hf ha (fun x => if lab g x = lab g a then 0 else farC) (by simp) (fun i _ _ => by unfold farC; split <;> omega) (fun i k c hj => by
      have hc := (hj.fit hf).2.2
      have e : lab g i = lab g k := by
        obtain ⟨e, he, h, -⟩ := hj
        have := hg.2.1 e he
        rcases h with ⟨h1, h2⟩ | ⟨h1, h2⟩
        · rw [← h1, ← h2]; exact this
        · rw [← h1, ← h2]; exact this.symm
      rw [e]
      split <;> omega) n b hb.1 hb.2
    rw [if_neg hne] at h
    have h2 := fars_far (l := l) ha b hb.1 hb.2
    have e : lab (fars n l a) b = lab (farD n l a n) b := rfl
    omega
end Told
end Go.Proofs.Ythlbmkefjjckaag
