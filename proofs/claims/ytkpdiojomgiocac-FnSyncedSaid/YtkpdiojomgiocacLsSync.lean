/-
  Parts of a list of haves, and two who tell one another in parts: that both come to have the same, the greater number of each name, and that then nothing more goes.
-/
import Derived.Test.YtkpdiojomgiocacLsMath
namespace Go.Proofs.Ytkpdiojomgiocac
set_option linter.unusedVariables false

structure SmD where
  Lo : Int
  Hi : Int
  Hs : List HvD
def goodSm (s : SmD) : Bool := (goodHv s.Hs && decide (1 ≤ s.Lo ∧ s.Lo ≤ s.Hi ∧ s.Hi ≤ 1000)) && s.Hs.all fun x => decide (s.Lo ≤ x.From ∧ x.From ≤ s.Hi)
theorem goodSm_true {s : SmD} (h : goodSm s = true) : goodHv s.Hs = true ∧ (1 ≤ s.Lo ∧ s.Lo ≤ s.Hi ∧ s.Hi ≤ 1000) ∧ ∀ x ∈ s.Hs, s.Lo ≤ x.From ∧ x.From ≤ s.Hi := by
  unfold goodSm at h
  rw [Bool.and_eq_true, Bool.and_eq_true] at h
  exact ⟨h.1.1, of_decide_eq_true h.1.2, fun x hx => of_decide_eq_true (List.all_eq_true.1 h.2 x hx)⟩
theorem goodSm_of {s : SmD} (h1 : goodHv s.Hs = true) (h2 : 1 ≤ s.Lo ∧ s.Lo ≤ s.Hi ∧ s.Hi ≤ 1000) (h3 : ∀ x ∈ s.Hs, s.Lo ≤ x.From ∧ x.From ≤ s.Hi) : goodSm s = true := by
  unfold goodSm
  rw [Bool.and_eq_true, Bool.and_eq_true]
  exact ⟨⟨h1, decide_eq_true h2⟩, List.all_eq_true.2 fun x hx => decide_eq_true (h3 x hx)⟩

def cutGo (most : Nat) : Nat → Int → List HvD → List SmD
  | 0, lo, l => [⟨lo, 1000, l⟩]
  | n + 1, lo, l => if most < l.length then ⟨lo, (l.getD (most - 1) hv0).From, l.take most⟩ :: cutGo most n ((l.getD (most - 1) hv0).From + 1) (l.drop most) else [⟨lo, 1000, l⟩]
/-- A list in parts. -/
def cutHv (most : Nat) (l : List HvD) : List SmD := cutGo most l.length 1 l
theorem cutGo_last (most n : Nat) (lo : Int) (l : List HvD) (h : ¬ most < l.length) : cutGo most n lo l = [⟨lo, 1000, l⟩] := by
  cases n with
  | zero => rfl
  | succ n => unfold cutGo; rw [if_neg h]
theorem cutGo_more (most n : Nat) (lo : Int) (l : List HvD) (h : most < l.length) (hn : l.length ≤ n) :
    ∃ m, n = m + 1 ∧ cutGo most n lo l = ⟨lo, (l.getD (most - 1) hv0).From, l.take most⟩ :: cutGo most m ((l.getD (most - 1) hv0).From + 1) (l.drop most) := by
  cases n with
  | zero => omega
  | succ n => exact ⟨n, rfl, by conv => lhs; unfold cutGo
                                rw [if_pos h]⟩

def beyondHv (l : List HvD) (s : SmD) : List HvD := newsHv (withinHv l s.Lo s.Hi) s.Hs
theorem beyondHv_eq (l : List HvD) (s : SmD) : beyondHv l s = l.filter fun x => decide (s.Lo ≤ x.From ∧ x.From ≤ s.Hi) && decide (seqIn s.Hs x.From < x.Seq) := by
  unfold beyondHv newsHv withinHv
  rw [List.filter_filter]
  refine List.filter_congr fun x _ => Bool.and_comm _ _
structure SyD where
  A : List HvD
  B : List HvD
  N : Nat
def syncStep (t : SyD) (s : SmD) : SyD := ⟨mergeHv t.A (beyondHv t.B s), mergeHv t.B (newsHv s.Hs t.B), t.N + (newsHv s.Hs t.B).length + (beyondHv t.B s).length⟩
/-- What both have in the end, and how many went. -/
def syncHv (a b : List HvD) (most : Nat) : SyD := (cutHv most a).foldl syncStep ⟨a, b, 0⟩

theorem cont_app (k : Int) : ∀ a b : List HvD, cont (a ++ b) k = match cont a k with | some v => some v | none => cont b k
  | [], b => rfl
  | x :: r, b => by
    have ih := cont_app k r b
    simp only [List.cons_append, cont]
    split
    · rfl
    · exact ih
theorem split_at {most : Nat} {l : List HvD} (hr : Rise l) (h1 : 1 ≤ most) (h : most < l.length) :
    (∀ x ∈ l.take most, x.From ≤ (l.getD (most - 1) hv0).From) ∧ ∀ x ∈ l.drop most, (l.getD (most - 1) hv0).From < x.From := by
  rw [getHv l (most - 1) (by omega)]
  have hp := List.pairwise_iff_getElem.1 hr
  refine ⟨fun x hx => ?_, fun x hx => ?_⟩
  · obtain ⟨j, hj, rfl⟩ := List.getElem_of_mem hx
    rw [List.getElem_take]
    rw [List.length_take] at hj
    rcases Nat.lt_or_ge j (most - 1) with hl | hl
    · have := hp j (most - 1) (by omega) (by omega) hl; omega
    · have e : j = most - 1 := by omega
      subst e
      exact Int.le_refl _
  · obtain ⟨j, hj, rfl⟩ := List.getElem_of_mem hx
    rw [List.getElem_drop]
    rw [List.length_drop] at hj
    exact hp (most - 1) (most + j) (by omega) (by omega) (by omega)
theorem maxO_comm (a b : Option Int) : maxO a b = maxO b a := by
  cases a <;> cases b <;> simp only [maxO]
  next x y => congr 1; split <;> split <;> omega
theorem maxO_self (a : Option Int) : maxO a a = a := by cases a <;> simp [maxO]
theorem cont_fit {l : List HvD} (hf : FitHv l) {k v : Int} (h : cont l k = some v) : (1 ≤ k ∧ k ≤ 1000) ∧ 1 ≤ v ∧ v ≤ 1000 := hf _ (cont_mem h)
theorem least_at (v : Int) (h1 : 1 ≤ v) : ∀ o : Option Int, maxO o (if decide (o.getD 0 < v) = true then some v else none) = maxO o (some v)
  | none => by rw [Option.getD_none, if_pos (by simp; omega)]
  | some u => by
    rw [Option.getD_some]
    by_cases e : u < v
    · rw [if_pos (by simp [e])]
    · rw [if_neg (by simp [e])]
      simp only [maxO]
      congr 1
      split <;> omega
/-- What a part brings, name by name. -/
theorem news_at {h y : List HvD} (hr : Rise h) (hf : FitHv h) (k : Int) : maxO (cont y k) (cont (newsHv h y) k) = maxO (cont y k) (cont h k) := by
  unfold newsHv
  rw [cont_filter hr]
  rcases hc : cont h k with _ | v
  · rfl
  · have := cont_fit hf hc
    simp only [seqIn]
    exact least_at v this.2.1 _
theorem beyond_at {y : List HvD} {s : SmD} (hr : Rise y) (hf : FitHv y) (k : Int) (x : Option Int) (hx : s.Lo ≤ k ∧ k ≤ s.Hi → x = cont s.Hs k) :
    maxO x (cont (beyondHv y s) k) = if s.Lo ≤ k ∧ k ≤ s.Hi then maxO x (cont y k) else x := by
  rw [beyondHv_eq, cont_filter hr]
  by_cases hb : s.Lo ≤ k ∧ k ≤ s.Hi
  · rw [if_pos hb, hx hb]
    rcases hc : cont y k with _ | u
    · rfl
    · have := cont_fit hf hc
      simp only [seqIn, decide_eq_true hb, Bool.true_and]
      exact least_at u this.2.1 _
  · rw [if_neg hb]
    rcases hc : cont y k with _ | u
    · cases x <;> rfl
    · simp only [decide_eq_false hb, Bool.false_and]
      cases x <;> rfl
theorem cont_out {h : List HvD} {lo hi : Int} (hb : ∀ x ∈ h, lo ≤ x.From ∧ x.From ≤ hi) {k : Int} (hk : ¬ (lo ≤ k ∧ k ≤ hi)) : cont h k = none :=
  cont_none_of fun x hx e => hk (by rw [← e]; exact hb x hx)

/-- One part told: name by name. -/
theorem step_at {t : SyD} {s : SmD} (hA : Rise t.A) (hB : Rise t.B) (fB : FitHv t.B) (hs : Rise s.Hs) (fs : FitHv s.Hs) (hb : ∀ x ∈ s.Hs, s.Lo ≤ x.From ∧ x.From ≤ s.Hi)
    (hx : ∀ k, s.Lo ≤ k ∧ k ≤ s.Hi → cont t.A k = cont s.Hs k) (k : Int) :
    cont (syncStep t s).A k = (if s.Lo ≤ k ∧ k ≤ s.Hi then maxO (cont t.A k) (cont t.B k) else cont t.A k) ∧ cont (syncStep t s).B k = (if s.Lo ≤ k ∧ k ≤ s.Hi then maxO (cont t.A k) (cont t.B k) else cont t.B k) := by
  have hy : Rise (beyondHv t.B s) := by rw [beyondHv_eq]; exact filter_rise hB _
  have hn : Rise (newsHv s.Hs t.B) := filter_rise hs _
  refine ⟨?_, ?_⟩
  · simp only [syncStep]
    rw [cont_mergeHv k _ _ hA hy, beyond_at hB fB k _ (hx k)]
  · simp only [syncStep]
    rw [cont_mergeHv k _ _ hB hn, news_at hs fs]
    by_cases hk : s.Lo ≤ k ∧ k ≤ s.Hi
    · rw [if_pos hk, hx k hk, maxO_comm]
    · rw [if_neg hk, cont_out hb hk]
      cases cont t.B k <;> rfl
theorem step_keeps {t : SyD} {s : SmD} (hA : Rise t.A ∧ FitHv t.A) (hB : Rise t.B ∧ FitHv t.B) (hs : Rise s.Hs ∧ FitHv s.Hs) :
    (Rise (syncStep t s).A ∧ FitHv (syncStep t s).A) ∧ Rise (syncStep t s).B ∧ FitHv (syncStep t s).B := by
  simp only [syncStep]
  refine ⟨⟨mergeHv_rise _ _ hA.1, mergeHv_fit _ _ hA.2 ?_⟩, mergeHv_rise _ _ hB.1, mergeHv_fit _ _ hB.2 (filter_fit hs.2 _)⟩
  rw [beyondHv_eq]
  exact filter_fit hB.2 _

/-- All parts told from a name on. -/
theorem sync_at (most : Nat) (h1 : 1 ≤ most) : ∀ (n : Nat) (lo : Int) (l : List HvD) (t : SyD), l.length ≤ n → Rise l ∧ FitHv l → (∀ x ∈ l, lo ≤ x.From) → 1 ≤ lo → Rise t.A ∧ FitHv t.A → Rise t.B ∧ FitHv t.B →
    (∀ k, lo ≤ k → cont t.A k = cont l k) →
    (Rise ((cutGo most n lo l).foldl syncStep t).A ∧ FitHv ((cutGo most n lo l).foldl syncStep t).A) ∧ (Rise ((cutGo most n lo l).foldl syncStep t).B ∧ FitHv ((cutGo most n lo l).foldl syncStep t).B) ∧
    ∀ k, (cont ((cutGo most n lo l).foldl syncStep t).A k = if lo ≤ k ∧ k ≤ 1000 then maxO (cont t.A k) (cont t.B k) else cont t.A k) ∧
      (cont ((cutGo most n lo l).foldl syncStep t).B k = if lo ≤ k ∧ k ≤ 1000 then maxO (cont t.A k) (cont t.B k) else cont t.B k) := by
  intro n
  induction n with
  | zero =>
    intro lo l t hn hl hlo hp hA hB hx
    have hbd : ∀ x ∈ l, lo ≤ x.From ∧ x.From ≤ 1000 := fun x hx => ⟨hlo x hx, (hl.2 x hx).1.2⟩
    have hst := step_at (t := t) (s := ⟨lo, 1000, l⟩) hA.1 hB.1 hB.2 hl.1 hl.2 hbd (fun k hk => hx k hk.1)
    have hkp := step_keeps (t := t) (s := ⟨lo, 1000, l⟩) hA hB hl
    exact ⟨hkp.1, hkp.2, hst⟩
  | succ n ih =>
    intro lo l t hn hl hlo hp hA hB hx
    by_cases hm : most < l.length
    · obtain ⟨m, hm1, e⟩ := cutGo_more most (n + 1) lo l hm hn
      obtain rfl : m = n := by omega
      rw [e]
      simp only [List.foldl_cons]
      have hsp := split_at hl.1 h1 hm
      have hfc := fun k => cont_app k (l.take most) (l.drop most)
      simp only [List.take_append_drop] at hfc
      have hhi : lo ≤ (l.getD (most - 1) hv0).From ∧ (l.getD (most - 1) hv0).From ≤ 1000 := by
        rw [getHv l (most - 1) (by omega)]
        exact ⟨hlo _ (List.getElem_mem _), (hl.2 _ (List.getElem_mem _)).1.2⟩
      generalize (l.getD (most - 1) hv0).From = hi at hsp hhi
      have ht : Rise (l.take most) ∧ FitHv (l.take most) := ⟨List.Pairwise.sublist (List.take_sublist _ _) hl.1, fun x hx => hl.2 x (List.mem_of_mem_take hx)⟩
      have hd : Rise (l.drop most) ∧ FitHv (l.drop most) := ⟨List.Pairwise.sublist (List.drop_sublist _ _) hl.1, fun x hx => hl.2 x (List.mem_of_mem_drop hx)⟩
      have hbd : ∀ x ∈ l.take most, lo ≤ x.From ∧ x.From ≤ hi := fun x hx => ⟨hlo x (List.mem_of_mem_take hx), hsp.1 x hx⟩
      have hdn : ∀ k, k ≤ hi → cont (l.drop most) k = none := fun k hk => cont_none_of fun x hx e => by have := hsp.2 x hx; omega
      have htn : ∀ k, hi < k → cont (l.take most) k = none := fun k hk => cont_none_of fun x hx e => by have := hsp.1 x hx; omega
      have hst := step_at (t := t) (s := ⟨lo, hi, l.take most⟩) hA.1 hB.1 hB.2 ht.1 ht.2 hbd (fun k hk => by
        rw [hx k hk.1, hfc k, hdn k hk.2]; cases cont (l.take most) k <;> rfl)
      have hkp := step_keeps (t := t) (s := ⟨lo, hi, l.take most⟩) hA hB ht
      obtain ⟨r1, r2, r3⟩ := ih (hi + 1) (l.drop most) (syncStep t ⟨lo, hi, l.take most⟩) (by rw [List.length_drop]; omega) hd (fun x hx => by have := hsp.2 x hx; omega) (by omega) hkp.1 hkp.2 (fun k hk => by
        rw [(hst k).1, if_neg (by simp; omega), hx k (by omega), hfc k, htn k (by omega)])
      refine ⟨r1, r2, fun k => ?_⟩
      rw [(r3 k).1, (r3 k).2, (hst k).1, (hst k).2]
      simp only
      by_cases c1 : lo ≤ k ∧ k ≤ hi
      · refine ⟨?_, ?_⟩ <;> rw [if_neg (by omega), if_pos c1, if_pos (by omega)]
      · by_cases c2 : hi + 1 ≤ k ∧ k ≤ 1000
        · refine ⟨?_, ?_⟩ <;> rw [if_pos c2, if_neg c1, if_neg c1, if_pos (by omega)]
        · refine ⟨?_, ?_⟩ <;> rw [if_neg c2, if_neg c1, if_neg (by omega)]
    · rw [cutGo_last most (n + 1) lo l hm]
      have hbd : ∀ x ∈ l, lo ≤ x.From ∧ x.From ≤ 1000 := fun x hx => ⟨hlo x hx, (hl.2 x hx).1.2⟩
      have hst := step_at (t := t) (s := ⟨lo, 1000, l⟩) hA.1 hB.1 hB.2 hl.1 hl.2 hbd (fun k hk => hx k hk.1)
      have hkp := step_keeps (t := t) (s := ⟨lo, 1000, l⟩) hA hB hl
      exact ⟨hkp.1, hkp.2, hst⟩
theorem sync_whole {a b : List HvD} {most : Nat} (h1 : 1 ≤ most) (ha : Rise a ∧ FitHv a) (hb : Rise b ∧ FitHv b) : (syncHv a b most).A = mergeHv a b ∧ (syncHv a b most).B = mergeHv a b := by
  obtain ⟨r1, r2, r3⟩ := sync_at most h1 a.length 1 a ⟨a, b, 0⟩ (Nat.le_refl _) ha (fun x hx => (ha.2 x hx).1.1) (by omega) ha hb (fun _ _ => rfl)
  have hm := mergeHv_rise a b ha.1
  have key : ∀ k, (if 1 ≤ k ∧ k ≤ 1000 then maxO (cont a k) (cont b k) else cont a k) = maxO (cont a k) (cont b k) ∧ (if 1 ≤ k ∧ k ≤ 1000 then maxO (cont a k) (cont b k) else cont b k) = maxO (cont a k) (cont b k) := fun k => by
    by_cases hk : 1 ≤ k ∧ k ≤ 1000
    · rw [if_pos hk, if_pos hk]; exact ⟨rfl, rfl⟩
    · have e1 : cont a k = none := cont_none_of fun x hx e => hk (by rw [← e]; exact (ha.2 x hx).1)
      have e2 : cont b k = none := cont_none_of fun x hx e => hk (by rw [← e]; exact (hb.2 x hx).1)
      rw [if_neg hk, if_neg hk, e1, e2]
      exact ⟨rfl, rfl⟩
  unfold syncHv cutHv
  refine ⟨rise_cont r1.1 hm fun k => ?_, rise_cont r2.1 hm fun k => ?_⟩
  · rw [(r3 k).1, cont_mergeHv k b a ha.1 hb.1]; exact (key k).1
  · rw [(r3 k).2, cont_mergeHv k b a ha.1 hb.1]; exact (key k).2
theorem merge_comm {a b : List HvD} (ha : Rise a) (hb : Rise b) : mergeHv a b = mergeHv b a :=
  rise_cont (mergeHv_rise a b ha) (mergeHv_rise b a hb) fun k => by rw [cont_mergeHv k b a ha hb, cont_mergeHv k a b hb ha, maxO_comm]

/-- Who has the same has nothing to tell. -/
theorem sync_still (most : Nat) (h1 : 1 ≤ most) (m : List HvD) (hm : Rise m ∧ FitHv m) : ∀ (n : Nat) (lo : Int) (l : List HvD) (c : Nat), l.length ≤ n → Rise l ∧ FitHv l → (∀ k, lo ≤ k → cont m k = cont l k) → (∀ x ∈ l, lo ≤ x.From) →
    (cutGo most n lo l).foldl syncStep ⟨m, m, c⟩ = ⟨m, m, c⟩ := by
  have one : ∀ (s : SmD) (c : Nat), (∀ k, s.Lo ≤ k ∧ k ≤ s.Hi → cont m k = cont s.Hs k) → Rise s.Hs → (∀ x ∈ s.Hs, s.Lo ≤ x.From ∧ x.From ≤ s.Hi) → syncStep ⟨m, m, c⟩ s = ⟨m, m, c⟩ := by
    intro s c hs hr hb
    have e1 : newsHv s.Hs m = [] := List.filter_eq_nil_iff.2 fun x hx => by
      have h2 := mem_cont hr hx
      rw [← hs x.From (hb x hx)] at h2
      simp [seqIn, h2]
    have e2 : beyondHv m s = [] := by
      rw [beyondHv_eq]
      refine List.filter_eq_nil_iff.2 fun x hx => ?_
      have h2 := mem_cont hm.1 hx
      by_cases hk : s.Lo ≤ x.From ∧ x.From ≤ s.Hi
      · rw [hs x.From hk] at h2
        simp [seqIn, h2]
      · simp [hk]
    simp only [syncStep, e1, e2]
    rfl
  intro n
  induction n with
  | zero =>
    intro lo l c hn hl hx hlo
    exact one ⟨lo, 1000, l⟩ c (fun k hk => hx k hk.1) hl.1 fun x hx => ⟨hlo x hx, (hl.2 x hx).1.2⟩
  | succ n ih =>
    intro lo l c hn hl hx hlo
    by_cases hmo : most < l.length
    · obtain ⟨m', hm1, e⟩ := cutGo_more most (n + 1) lo l hmo hn
      obtain rfl : m' = n := by omega
      rw [e]
      simp only [List.foldl_cons]
      have hsp := split_at hl.1 h1 hmo
      have hfc := fun k => cont_app k (l.take most) (l.drop most)
      simp only [List.take_append_drop] at hfc
      have hhi : lo ≤ (l.getD (most - 1) hv0).From := by
        rw [getHv l (most - 1) (by omega)]
        exact hlo _ (List.getElem_mem _)
      generalize (l.getD (most - 1) hv0).From = hi at hsp hhi
      have hdn : ∀ k, k ≤ hi → cont (l.drop most) k = none := fun k hk => cont_none_of fun x hx e => by have := hsp.2 x hx; omega
      have htn : ∀ k, hi < k → cont (l.take most) k = none := fun k hk => cont_none_of fun x hx e => by have := hsp.1 x hx; omega
      rw [one ⟨lo, hi, l.take most⟩ c (fun k hk => by rw [hx k hk.1, hfc k, hdn k hk.2]; cases cont (l.take most) k <;> rfl) (List.Pairwise.sublist (List.take_sublist _ _) hl.1) (fun x hx => ⟨hlo x (List.mem_of_mem_take hx), hsp.1 x hx⟩)]
      exact ih (hi + 1) (l.drop most) c (by rw [List.length_drop]; omega) ⟨List.Pairwise.sublist (List.drop_sublist _ _) hl.1, fun x hx => hl.2 x (List.mem_of_mem_drop hx)⟩
        (fun k hk => by rw [hx k (by omega), hfc k, htn k (by omega)]) fun x hx => by have := hsp.2 x hx; omega
    · rw [cutGo_last most (n + 1) lo l hmo]
      exact one ⟨lo, 1000, l⟩ c (fun k hk => hx k hk.1) hl.1 fun x hx => ⟨hlo x hx, (hl.2 x hx).1.2⟩
theorem sync_again {m : List HvD} {most : Nat} (h1 : 1 ≤ most) (hm : Rise m ∧ FitHv m) : syncHv m m most = ⟨m, m, 0⟩ :=
  sync_still most h1 m hm m.length 1 m 0 (Nat.le_refl _) hm (fun _ _ => rfl) fun x hx => (hm.2 x hx).1.1
end Go.Proofs.Ytkpdiojomgiocac
