/-
  Settling, as plain data: the first that is owed, the steps one behind the other, and that they end.
-/
import Derived.Test.YtkkamigaolejiaxFlSet
namespace Go.Proofs.Ytkkamigaolejiax
set_option linter.unusedVariables false

/-- The first row, and the first place in it, where something is owed. -/
structure FirstO (ow : List (List Int)) (i u : Nat) : Prop where
  hi : i < ow.length
  hu : u < ow[i].length
  at1 : ow[i][u] = 1
  before : ∀ j (hj : j < ow.length), j < i → ∀ v (hv : v < ow[j].length), ow[j][v] ≠ 1
  left : ∀ v (hv : v < ow[i].length), v < u → ow[i][v] ≠ 1
def NoneO (ow : List (List Int)) : Prop := ∀ j (hj : j < ow.length), ∀ v (hv : v < ow[j].length), ow[j][v] ≠ 1
theorem FirstO.not {ow : List (List Int)} {i u : Nat} (h : FirstO ow i u) : ¬ NoneO ow := fun hn => hn i h.hi u h.hu h.at1
theorem row_first (r : List Int) : (∀ v (hv : v < r.length), r[v] ≠ 1) ∨ ∃ u, ∃ hu : u < r.length, r[u] = 1 ∧ ∀ v (hv : v < r.length), v < u → r[v] ≠ 1 := by
  by_cases h : r.findIdx (fun z => decide (z = 1)) < r.length
  · refine .inr ⟨_, h, of_decide_eq_true (List.findIdx_getElem (w := h)), fun v hv hlt => ?_⟩
    have := List.not_of_lt_findIdx hlt
    simpa using this
  · refine .inl fun v hv e => h ?_
    exact List.findIdx_lt_length_of_exists ⟨_, List.getElem_mem hv, decide_eq_true e⟩
theorem first_or (ow : List (List Int)) : NoneO ow ∨ ∃ i u, FirstO ow i u := by
  have key : ∀ k, k ≤ ow.length → (∀ j (hj : j < ow.length), j < k → ∀ v (hv : v < ow[j].length), ow[j][v] ≠ 1) ∨ ∃ i u, FirstO ow i u := fun k => by
    induction k with
    | zero => exact fun _ => .inl fun j hj hk => absurd hk (Nat.not_lt_zero _)
    | succ k ih =>
      intro hk
      rcases ih (by omega) with hb | hf
      · rcases row_first (ow[k]'(by omega)) with hn | ⟨u, hu, h1, hl⟩
        · refine .inl fun j hj hjk v hv => ?_
          by_cases e : j = k
          · subst e; exact hn v hv
          · exact hb j hj (by omega) v hv
        · exact .inr ⟨k, u, by omega, hu, h1, hb, hl⟩
      · exact .inr hf
  rcases key ow.length (Nat.le_refl _) with h | h
  · exact .inl fun j hj v hv => h j hj hj v hv
  · exact .inr h
theorem FirstO.uniq {ow : List (List Int)} {i u i' u' : Nat} (h : FirstO ow i u) (h' : FirstO ow i' u') : i = i' ∧ u = u' := by
  have hi : i = i' := by
    rcases Nat.lt_trichotomy i i' with e | e | e
    · exact absurd h.at1 (h'.before i h.hi e u h.hu)
    · exact e
    · exact absurd h'.at1 (h.before i' h'.hi e u' h'.hu)
  subst hi
  refine ⟨rfl, ?_⟩
  rcases Nat.lt_trichotomy u u' with e | e | e
  · exact absurd h.at1 (h'.left u h.hu e)
  · exact e
  · exact absurd h'.at1 (h.left u' h'.hu e)

/-- The row of the same two the other way round. -/
def rvD (ds : List DbD) (i : Nat) : Nat := (ixD ds (dq ds i : Int) (dp ds i : Int)).toNat
theorem ixD_at {ds : List DbD} {p q : Int} (h : 0 ≤ ixD ds p q) : ∃ k : Nat, ixD ds p q = (k : Int) ∧ ∃ hk : k < ds.length, ds[k].p = p ∧ ds[k].q = q := by
  unfold ixD at h ⊢
  by_cases hlt : ds.findIdx (isD p q) < ds.length
  · rw [if_pos hlt]
    exact ⟨_, rfl, hlt, of_decide_eq_true (List.findIdx_getElem (w := hlt))⟩
  · rw [if_neg hlt] at h
    omega
theorem dpq_at (ds : List DbD) (k : Nat) (hk : k < ds.length) : dp ds k = ds[k].p.toNat ∧ dq ds k = ds[k].q.toNat := by
  unfold dp dq
  rw [List.getD_eq_getElem?_getD, List.getElem?_eq_getElem hk]
  exact ⟨rfl, rfl⟩
theorem joined_swap {n : Int} {lks : List (List Int)} (h : linksB n lks = true) (b z : Int) (hj : joinedB lks b z = true) : joinedB lks z b = true ∧ b ≠ z := by
  obtain ⟨l, hl, e⟩ := (joined_mem h b z).1 hj
  have := linksB_mem h l hl
  exact ⟨(joined_mem h z b).2 ⟨l, hl, by omega⟩, by omega⟩
theorem debt_at {n : Nat} {lks : List (List Int)} (h : linksB (n : Int) lks = true) (i : Nat) (hi : i < (debtsL n lks).length) :
    (debtsL n lks)[i].p = (dp (debtsL n lks) i : Int) ∧ (debtsL n lks)[i].q = (dq (debtsL n lks) i : Int) ∧ dp (debtsL n lks) i < n ∧ dq (debtsL n lks) i < n ∧ joinedB lks (dp (debtsL n lks) i : Int) (dq (debtsL n lks) i : Int) = true := by
  have hm : (⟨(debtsL n lks)[i].p, (debtsL n lks)[i].q⟩ : DbD) ∈ debtsL n lks := List.getElem_mem hi
  obtain ⟨h1, h2, h3⟩ := (debts_mem n lks _ _).1 hm
  obtain ⟨e1, e2⟩ := dpq_at (debtsL n lks) i hi
  have e1' : (debtsL n lks)[i].p = (dp (debtsL n lks) i : Int) := by omega
  have e2' : (debtsL n lks)[i].q = (dq (debtsL n lks) i : Int) := by omega
  refine ⟨e1', e2', by omega, by omega, ?_⟩
  rw [← e1', ← e2']
  exact h3
theorem rvD_ok {n : Nat} {lks : List (List Int)} (h : linksB (n : Int) lks = true) (i : Nat) (hi : i < (debtsL n lks).length) :
    ixD (debtsL n lks) (dq (debtsL n lks) i : Int) (dp (debtsL n lks) i : Int) = (rvD (debtsL n lks) i : Int) ∧ rvD (debtsL n lks) i < (debtsL n lks).length ∧ dp (debtsL n lks) (rvD (debtsL n lks) i) = dq (debtsL n lks) i ∧ dq (debtsL n lks) (rvD (debtsL n lks) i) = dp (debtsL n lks) i ∧ dp (debtsL n lks) i ≠ dq (debtsL n lks) i := by
  obtain ⟨-, -, -, -, hj⟩ := debt_at h i hi
  obtain ⟨hj', hne⟩ := joined_swap h _ _ hj
  obtain ⟨k, hk, hkl, hp, hq⟩ := ixD_at ((ixD_joined h _ _).2 hj')
  have hr : rvD (debtsL n lks) i = k := by unfold rvD; rw [hk]; rfl
  obtain ⟨e1, e2⟩ := dpq_at (debtsL n lks) k hkl
  rw [hr]
  exact ⟨hk, hkl, by rw [e1, hp]; rfl, by rw [e2, hq]; rfl, fun e => hne (by rw [e])⟩

/-- No debt is told twice. -/
theorem debts_apart (n : Nat) (lks : List (List Int)) : ∀ k, (debtsTo n lks k).Pairwise (fun a b => ¬ (a.p = b.p ∧ a.q = b.q)) ∧ ∀ d ∈ debtsTo n lks k, d.p < (k : Int)
  | 0 => ⟨List.Pairwise.nil, fun d hd => by simp [debtsTo] at hd⟩
  | k + 1 => by
    obtain ⟨ih, ib⟩ := debts_apart n lks k
    rw [debtsTo_next]
    have hin : ∀ d ∈ innerD lks k n, d.p = (k : Int) := fun d hd => by
      unfold innerD at hd
      obtain ⟨t, -, rfl⟩ := List.mem_map.1 hd
      rfl
    refine ⟨List.pairwise_append.2 ⟨ih, ?_, fun a ha b hb e => ?_⟩, fun d hd => ?_⟩
    · unfold innerD
      refine List.Pairwise.map _ (fun a c (hac : a < c) e => ?_) (List.Pairwise.filter _ (List.pairwise_lt_range))
      have := e.2
      simp only at this
      omega
    · have := ib a ha
      have := hin b hb
      omega
    · rcases List.mem_append.1 hd with hd | hd
      · have := ib d hd; omega
      · have := hin d hd; omega
theorem debts_one {n : Nat} {lks : List (List Int)} (h : linksB (n : Int) lks = true) (i j : Nat) (hi : i < (debtsL n lks).length) (hj : j < (debtsL n lks).length) (hp : dp (debtsL n lks) i = dp (debtsL n lks) j) (hq : dq (debtsL n lks) i = dq (debtsL n lks) j) : i = j := by
  obtain ⟨a1, a2, -⟩ := debt_at h i hi
  obtain ⟨b1, b2, -⟩ := debt_at h j hj
  have hpw : (debtsL n lks).Pairwise (fun a b => ¬ (a.p = b.p ∧ a.q = b.q)) := (debts_apart n lks n).1
  have hpw := List.pairwise_iff_getElem.1 hpw
  rcases Nat.lt_trichotomy i j with e | e | e
  · exact absurd ⟨by rw [a1, b1, hp], by rw [a2, b2, hq]⟩ (hpw i j hi hj e)
  · exact e
  · exact absurd ⟨by rw [a1, b1, hp], by rw [a2, b2, hq]⟩ (hpw j i hj hi e)

/-- As the model does it: a node owes it to all but one, in the first k rows. -/
def oweBut (ds : List DbD) (rows : List (List Int)) (node u : Nat) (nb : Int) : Nat → List (List Int)
  | 0 => rows
  | k + 1 => if dp ds k = node ∧ (dq ds k : Int) ≠ nb then setR (oweBut ds rows node u nb k) k u 1 else oweBut ds rows node u nb k
theorem oweBut_mat {ds : List DbD} {rows : List (List Int)} {m n : Nat} (h : Mat rows m n 1) (node : Nat) {u : Nat} (nb : Int) (hu : u < n) : ∀ k, k ≤ m → Mat (oweBut ds rows node u nb k) m n 1 ∧ ∀ a b, a < m → b < n → atR (oweBut ds rows node u nb k) a b = if a < k ∧ (dp ds a = node ∧ (dq ds a : Int) ≠ nb) ∧ b = u then 1 else atR rows a b
  | 0, _ => ⟨h, fun a b _ _ => by simp [oweBut]⟩
  | k + 1, hk => by
    obtain ⟨ih, ia⟩ := oweBut_mat h node nb hu k (by omega)
    unfold oweBut
    by_cases hd : dp ds k = node ∧ (dq ds k : Int) ≠ nb
    · rw [if_pos hd]
      refine ⟨ih.set (by omega) hu (by omega) (by omega), fun a b ha hb => ?_⟩
      rw [ih.at (by omega) hu, ia a b ha hb]
      by_cases hab : a = k ∧ b = u
      · obtain ⟨rfl, rfl⟩ := hab
        rw [if_pos ⟨rfl, rfl⟩, if_pos ⟨by omega, hd, rfl⟩]
      · rw [if_neg hab]
        by_cases hc : a < k ∧ (dp ds a = node ∧ (dq ds a : Int) ≠ nb) ∧ b = u
        · rw [if_pos hc, if_pos ⟨by omega, hc.2⟩]
        · rw [if_neg hc, if_neg (fun e => by
            by_cases hak : a = k
            · exact hab ⟨hak, e.2.2⟩
            · exact hc ⟨by omega, e.2⟩)]
    · rw [if_neg hd]
      refine ⟨ih, fun a b ha hb => ?_⟩
      rw [ia a b ha hb]
      by_cases hc : a < k ∧ (dp ds a = node ∧ (dq ds a : Int) ≠ nb) ∧ b = u
      · rw [if_pos hc, if_pos ⟨by omega, hc.2⟩]
      · rw [if_neg hc, if_neg (fun e => by
          by_cases hak : a = k
          · rw [hak] at e; exact hd e.2.1
          · exact hc ⟨by omega, e.2⟩)]
/-- Both ways come to the same. -/
theorem owe_same {n : Nat} {lks rows : List (List Int)} (h : linksB (n : Int) lks = true) (hm : Mat rows (debtsL n lks).length n 1) {node u nb r : Nat} (hu : u < n) (hr : r < (debtsL n lks).length) (hp : dp (debtsL n lks) r = node) (hq : dq (debtsL n lks) r = nb) :
    setR (oweBut (debtsL n lks) rows node u (nb : Int) (debtsL n lks).length) r u 0 = setR (oweTo (debtsL n lks) rows node u (debtsL n lks).length) r u 0 := by
  obtain ⟨b1, b2⟩ := oweBut_mat (ds := debtsL n lks) hm node (nb : Int) hu _ (Nat.le_refl _)
  obtain ⟨t1, t2⟩ := oweTo_mat (ds := debtsL n lks) hm node hu _ (Nat.le_refl _)
  refine Mat.ext (b1.set hr hu (by omega) (by omega) : Mat _ _ _ 1) (t1.set hr hu (by omega) (by omega) : Mat _ _ _ 1) fun a b ha hb => ?_
  rw [b1.at hr hu, t1.at hr hu, b2 a b ha hb, t2 a b ha hb]
  by_cases hab : a = r ∧ b = u
  · rw [if_pos hab, if_pos hab]
  · rw [if_neg hab, if_neg hab]
    by_cases hc : dp (debtsL n lks) a = node ∧ b = u
    · have hne : (dq (debtsL n lks) a : Int) ≠ (nb : Int) := fun e => hab ⟨debts_one h a r ha hr (by rw [hc.1, hp]) (by rw [hq]; omega), hc.2⟩
      rw [if_pos (show a < (debtsL n lks).length ∧ dp (debtsL n lks) a = node ∧ b = u from ⟨ha, hc⟩), if_pos ⟨ha, ⟨hc.1, hne⟩, hc.2⟩]
    · rw [if_neg (fun e : a < (debtsL n lks).length ∧ dp (debtsL n lks) a = node ∧ b = u => hc e.2), if_neg (fun e => hc ⟨e.2.1.1, e.2.2⟩)]

/-- Settling: k steps from f to g. -/
def Settles (ds : List DbD) : FD → Nat → FD → Prop
  | f, 0, g => NoneO f.ow ∧ g = f
  | f, k + 1, g => ∃ i u, FirstO f.ow i u ∧ Settles ds (stepS ds f i u (rvD ds i)) k g
theorem takeA_lk (f : FD) (to u : Nat) (seq : Int) (r : Nat) : (takeA f to u seq r).lk = f.lk := by unfold takeA; split <;> rfl
theorem takeE_lk (ds : List DbD) (f : FD) (to u : Nat) (seq : Int) (r : Nat) : (takeE ds f to u seq r).lk = f.lk := by unfold takeE; split <;> rfl
theorem stepS_lk (ds : List DbD) (f : FD) (i u r : Nat) : (stepS ds f i u r).lk = f.lk := by
  unfold stepS
  split
  · rfl
  · rw [takeA_lk, takeE_lk]
theorem Num.firstO {ds : List DbD} {n m : Nat} {f : FD} (h : Num ds n m f) {i u : Nat} (hf : FirstO f.ow i u) : i < m ∧ u < n ∧ atR f.ow i u = 1 := by
  have hi : i < m := by have := hf.hi; rw [h.ow.len] at this; exact this
  have e := getL_at f.ow i hf.hi
  have hr := h.ow.row i hi
  rw [e] at hr
  refine ⟨hi, by have := hf.hu; omega, ?_⟩
  unfold atR
  rw [e, List.getD_eq_getElem?_getD, List.getElem?_eq_getElem hf.hu]
  exact hf.at1
theorem settles_far {n : Nat} {f g : FD} {k : Nat} (hn : n ≤ 6) (hm : (debtsL n f.lk).length ≤ 36) (hl : linksB (n : Int) f.lk = true) (h : Num (debtsL n f.lk) n (debtsL n f.lk).length f) (hs : Settles (debtsL n f.lk) f k g) : (k : Int) ≤ far (debtsL n f.lk) n (debtsL n f.lk).length f ∧ g.lk = f.lk ∧ Num (debtsL n f.lk) n (debtsL n f.lk).length g := by
  induction k generalizing f with
  | zero =>
    obtain ⟨-, rfl⟩ := hs
    exact ⟨(far_bound h hn hm).1, rfl, h⟩
  | succ k ih =>
    obtain ⟨i, u, hf, hs⟩ := hs
    obtain ⟨hi, hu, h1⟩ := h.firstO hf
    obtain ⟨-, r1, r2, r3, r4⟩ := rvD_ok hl i hi
    have hlt := far_less h hn hm hi hu r1 h1 r2 r3 r4
    have e := stepS_lk (debtsL n f.lk) f i u (rvD (debtsL n f.lk) i)
    have hnum := stepS_num h hi hu r1
    have := ih (f := stepS (debtsL n f.lk) f i u (rvD (debtsL n f.lk) i)) (by rw [e]; exact hm) (by rw [e]; exact hl) (by rw [e]; exact hnum) (by rw [e]; exact hs)
    rw [e] at this
    obtain ⟨ih1, ih2, ih3⟩ := this
    exact ⟨by omega, ih2, ih3⟩
theorem settles_ex {n : Nat} (lk : List (List Int)) (hn : n ≤ 6) (hm : (debtsL n lk).length ≤ 36) (hl : linksB (n : Int) lk = true) : ∀ (b : Nat) (f : FD), f.lk = lk → Num (debtsL n lk) n (debtsL n lk).length f → far (debtsL n lk) n (debtsL n lk).length f ≤ (b : Int) → ∃ k g, Settles (debtsL n lk) f k g
  | b, f, hlk, h, hb => by
    rcases first_or f.ow with hN | ⟨i, u, hf⟩
    · exact ⟨0, f, hN, rfl⟩
    · obtain ⟨hi, hu, h1⟩ := h.firstO hf
      obtain ⟨-, r1, r2, r3, r4⟩ := rvD_ok hl i hi
      have hlt := far_less h hn hm hi hu r1 h1 r2 r3 r4
      have hnum := stepS_num h hi hu r1
      have h0 := (far_bound hnum hn hm).1
      match b, hb with
      | 0, hb => omega
      | b + 1, hb =>
        obtain ⟨k, g, hs⟩ := settles_ex lk hn hm hl b (stepS (debtsL n lk) f i u (rvD (debtsL n lk) i)) (by rw [stepS_lk]; exact hlk) hnum (by omega)
        exact ⟨k + 1, g, i, u, hf, hs⟩
theorem Settles.zero {ds : List DbD} {f g : FD} {k : Nat} (h : Settles ds f k g) (hn : NoneO f.ow) : k = 0 ∧ g = f := by
  match k, h with
  | 0, h => exact ⟨rfl, h.2⟩
  | k + 1, h =>
    obtain ⟨i, u, hf, -⟩ := h
    exact absurd hn hf.not
theorem Settles.more {ds : List DbD} {f g : FD} {k i u : Nat} (h : Settles ds f k g) (hf : FirstO f.ow i u) : ∃ j, k = j + 1 ∧ Settles ds (stepS ds f i u (rvD ds i)) j g := by
  match k, h with
  | 0, h => exact absurd h.1 hf.not
  | k + 1, h =>
    obtain ⟨i', u', hf', hs⟩ := h
    obtain ⟨rfl, rfl⟩ := hf.uniq hf'
    exact ⟨k, rfl, hs⟩
end Go.Proofs.Ytkkamigaolejiax
