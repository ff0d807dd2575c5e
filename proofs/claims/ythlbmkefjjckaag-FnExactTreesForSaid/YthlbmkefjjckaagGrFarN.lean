/-
  By whom a best way begins, and ways, as data.
-/
import Derived.Test.YthlbmkefjjckaagGrFarM
namespace Go.Proofs.Ythlbmkefjjckaag
set_option linter.unusedVariables false

/- Costs of edges; by whom a best way begins; ways. -/
theorem lastEd_is (l : List EdD) (a b : Int) : (lastEd l a b = 0 ∧ ∀ e ∈ l, ¬ (e.A = a ∧ e.B = b)) ∨ ∃ e ∈ l, (e.A = a ∧ e.B = b) ∧ e.Cost = lastEd l a b := by
  have key : ∀ (l : List EdD) (c : Int), (l.foldl (fun c x => if x.A = a ∧ x.B = b then x.Cost else c) c = c ∧ ∀ e ∈ l, ¬ (e.A = a ∧ e.B = b)) ∨ ∃ e ∈ l, (e.A = a ∧ e.B = b) ∧ e.Cost = l.foldl (fun c x => if x.A = a ∧ x.B = b then x.Cost else c) c := by
    intro l
    induction l with
    | nil => intro c; exact .inl ⟨rfl, fun e he => by cases he⟩
    | cons x r ih =>
      intro c
      rw [List.foldl_cons]
      by_cases h : x.A = a ∧ x.B = b
      · rw [if_pos h]
        rcases ih x.Cost with ⟨h1, h2⟩ | ⟨e, he, h1, h2⟩
        · exact .inr ⟨x, List.mem_cons_self .., h, h1.symm⟩
        · exact .inr ⟨e, List.mem_cons_of_mem _ he, h1, h2⟩
      · rw [if_neg h]
        rcases ih c with ⟨h1, h2⟩ | ⟨e, he, h1, h2⟩
        · exact .inl ⟨h1, fun e he => (List.mem_cons.1 he).elim (fun q => by rw [q]; exact h) (h2 e)⟩
        · exact .inr ⟨e, List.mem_cons_of_mem _ he, h1, h2⟩
  exact key l 0
theorem rise_uniq {l : List EdD} (hr : RiseEd l) {x y : EdD} (hx : x ∈ l) (hy : y ∈ l) (h1 : x.A = y.A) (h2 : x.B = y.B) : x.Cost = y.Cost := by
  induction l with
  | nil => cases hx
  | cons z r ih =>
    have hp := List.pairwise_cons.1 hr
    rcases List.mem_cons.1 hx with ex | hx
    · rcases List.mem_cons.1 hy with ey | hy
      · rw [ex, ey]
      · have := hp.1 y hy; rw [← ex] at this; omega
    · rcases List.mem_cons.1 hy with ey | hy
      · have := hp.1 x hx; rw [← ey] at this; omega
      · exact ih hp.2 hx hy
theorem joined_uniq {n : Int} {l : List EdD} (hf : FitEd n l) (hr : RiseEd l) {i k c c' : Int} (h : Joined l i k c) (h' : Joined l i k c') : c = c' := by
  obtain ⟨e, he, hj, rfl⟩ := h
  obtain ⟨e', he', hj', rfl⟩ := h'
  have a := hf e he
  have b := hf e' he'
  exact rise_uniq hr he he' (by omega) (by omega)
theorem costB_is {n : Int} {l : List EdD} (hf : FitEd n l) (a b : Int) : (costB l a b = 0 ∧ ∀ c, ¬ Joined l a b c) ∨ Joined l a b (costB l a b) := by
  unfold costB
  rcases lastEd_is l (min a b) (max a b) with ⟨h1, h2⟩ | ⟨e, he, h1, h2⟩
  · refine .inl ⟨h1, fun c hJ => ?_⟩
    obtain ⟨e, he, hj, -⟩ := hJ
    have := hf e he
    exact h2 e he (by omega)
  · refine .inr ⟨e, he, ?_, h2⟩
    omega
theorem costB_of {n : Int} {l : List EdD} (hf : FitEd n l) (hr : RiseEd l) {a b c : Int} (h : Joined l a b c) : costB l a b = c := by
  rcases costB_is hf a b with ⟨-, h2⟩ | h1
  · exact absurd h (h2 c)
  · exact joined_uniq hf hr h1 h
theorem costB_low {n : Int} {l : List EdD} (hf : FitEd n l) (a b : Int) : 0 ≤ costB l a b ∧ costB l a b ≤ 100 := by
  rcases costB_is hf a b with ⟨h, -⟩ | h
  · omega
  · have := h.fit hf; omega
/-- The model's: the first one that joins them. -/
def edS : List EdD → Int → Int → Int
  | [], _, _ => 0
  | e :: r, a, b => if e.A = a ∧ e.B = b ∨ e.A = b ∧ e.B = a then e.Cost else edS r a b
theorem edS_is : ∀ (l : List EdD) (a b : Int), (edS l a b = 0 ∧ ∀ c, ¬ Joined l a b c) ∨ Joined l a b (edS l a b)
  | [], a, b => .inl ⟨rfl, fun c ⟨e, he, _⟩ => by cases he⟩
  | x :: r, a, b => by
    unfold edS
    by_cases h : x.A = a ∧ x.B = b ∨ x.A = b ∧ x.B = a
    · rw [if_pos h]
      exact .inr ⟨x, List.mem_cons_self .., by omega, rfl⟩
    · rw [if_neg h]
      rcases edS_is r a b with ⟨h1, h2⟩ | ⟨e, he, h1⟩
      · refine .inl ⟨h1, fun c ⟨e, he, hj, hc⟩ => ?_⟩
        rcases List.mem_cons.1 he with q | he
        · rw [q] at hj; omega
        · exact h2 c ⟨e, he, hj, hc⟩
      · exact .inr ⟨e, List.mem_cons_of_mem _ he, h1⟩
theorem edS_eq {n : Int} {l : List EdD} (hf : FitEd n l) (hr : RiseEd l) (a b : Int) : edS l a b = costB l a b := by
  rcases edS_is l a b with ⟨h1, h2⟩ | h1
  · rcases costB_is hf a b with ⟨h3, -⟩ | h3
    · rw [h1, h3]
    · exact absurd h3 (h2 _)
  · exact (costB_of hf hr h1).symm

/-- By whom a best way begins: rising. -/
def hopsD (l : List EdD) (far : List Int) (i : Int) : List Int := ((linksD l i).filter fun p => decide (lab far p.1 + p.2 = lab far i)).map Prod.fst
theorem mem_hopsD (l : List EdD) (far : List Int) (i k : Int) : k ∈ hopsD l far i ↔ ∃ c, Joined l i k c ∧ lab far k + c = lab far i := by
  unfold hopsD
  rw [List.mem_map]
  constructor
  · rintro ⟨p, hp, rfl⟩
    rw [List.mem_filter] at hp
    exact ⟨p.2, (linksD_joined ..).1 hp.1, of_decide_eq_true hp.2⟩
  · rintro ⟨c, hj, he⟩
    exact ⟨(k, c), List.mem_filter.2 ⟨(linksD_joined ..).2 hj, decide_eq_true he⟩, rfl⟩
theorem linksD_rise {n : Int} {l : List EdD} (hf : FitEd n l) (hr : RiseEd l) (i : Int) : (linksD l i).Pairwise fun p q => p.1 < q.1 := by
  unfold linksD
  rw [List.pairwise_map]
  have h1 : (l.filter fun e => decide (e.A = i ∨ e.B = i)).Pairwise fun a b => a.A < b.A ∨ a.A = b.A ∧ a.B < b.B := List.Pairwise.filter _ hr
  refine List.Pairwise.imp_of_mem (fun {x y} hx hy h => ?_) h1
  rw [List.mem_filter] at hx hy
  have ax := of_decide_eq_true hx.2
  have ay := of_decide_eq_true hy.2
  have fx := hf x hx.1
  have fy := hf y hy.1
  dsimp only
  omega
theorem hopsD_rise {n : Int} {l : List EdD} (hf : FitEd n l) (hr : RiseEd l) (far : List Int) (i : Int) : (hopsD l far i).Pairwise fun x y => x < y := by
  unfold hopsD
  rw [List.pairwise_map]
  exact List.Pairwise.filter _ (linksD_rise hf hr i)
theorem hopsD_len (l : List EdD) (far : List Int) (i : Int) : (hopsD l far i).length ≤ l.length := by
  unfold hopsD
  rw [List.length_map]
  exact Nat.le_trans (List.length_filter_le ..) (linksD_len l i)
/-- The model's: of the neighbours those over whom it goes on. -/
def hopsS (n : Nat) (l : List EdD) (far : List Int) (i : Int) : List Int := (nearTo l i n).filter fun k => decide (lab far i < farC ∧ lab far k + edS l i k = lab far i)
theorem hopsS_eq {n : Nat} {l : List EdD} {b : Int} (hn : n ≤ 12) (hf : FitEd n l) (hr : RiseEd l) (hb : 0 ≤ b ∧ b < n) (i : Int) : hopsS n l (fars n l b) i = hopsD l (fars n l b) i := by
  refine rise_int_ext ((nearTo_rise l i n).filter _) (hopsD_rise hf hr _ i) fun k => ?_
  unfold hopsS
  rw [List.mem_filter, mem_hopsD, show n = (n : Int).toNat from rfl, mem_nearTo hf, decide_eq_true_iff]
  simp only [Int.toNat_natCast]
  constructor
  · rintro ⟨⟨e, he, hj⟩, h1, h2⟩
    have hJ : Joined l i k e.Cost := ⟨e, he, by omega, rfl⟩
    rw [edS_eq hf hr, costB_of hf hr hJ] at h2
    exact ⟨_, hJ, h2⟩
  · rintro ⟨c, hJ, h2⟩
    have hfit := hJ.fit hf
    have l1 := fars_low hf hb i hfit.1.1 hfit.1.2
    have l2 := fars_low hf hb k hfit.2.1.1 hfit.2.1.2
    refine ⟨?_, ?_, ?_⟩
    · obtain ⟨e, he, hj, -⟩ := hJ
      exact ⟨e, he, by omega⟩
    · unfold farC at *
      omega
    · rw [edS_eq hf hr, costB_of hf hr hJ]
      exact h2

/-- A way that goes each time to the least one. -/
def IsWay (l : List EdD) (far : List Int) : List Int → Prop
  | [] => False
  | [x] => hopsD l far x = []
  | x :: y :: r => (hopsD l far x).head? = some y ∧ IsWay l far (y :: r)
theorem way_hop {n : Int} {l : List EdD} (hf : FitEd n l) {far : List Int} {x y : Int} (h : (hopsD l far x).head? = some y) : ∃ c, Joined l x y c ∧ lab far y + c = lab far x := by
  have : y ∈ hopsD l far x := List.mem_of_mem_head? h
  exact (mem_hopsD ..).1 this
theorem way_ex {n : Int} {l : List EdD} (hf : FitEd n l) {far : List Int} (h0 : ∀ i : Int, 0 ≤ i → i < n → 0 ≤ lab far i) : ∀ (m : Nat) (x : Int), 0 ≤ x → x < n → (lab far x).toNat < m → ∃ r, IsWay l far (x :: r)
  | 0, x, _, _, h => by omega
  | m + 1, x, hx, hxn, h => by
    rcases e : hopsD l far x with _ | ⟨y, t⟩
    · exact ⟨[], e⟩
    · obtain ⟨c, hj, hc⟩ := way_hop hf (far := far) (x := x) (y := y) (by rw [e]; rfl)
      have hfit := hj.fit hf
      have := h0 y hfit.2.1.1 hfit.2.1.2
      obtain ⟨r, hr⟩ := way_ex hf h0 m y hfit.2.1.1 hfit.2.1.2 (by omega)
      exact ⟨y :: r, by rw [e]; rfl, hr⟩
theorem way_fit {n : Int} {l : List EdD} (hf : FitEd n l) {far : List Int} : ∀ (r : List Int) (x : Int), 0 ≤ x → x < n → IsWay l far (x :: r) → ∀ y ∈ x :: r, 0 ≤ y ∧ y < n
  | [], x, h0, hn, _, y, hy => by
    rcases List.mem_cons.1 hy with rfl | hy
    · exact ⟨h0, hn⟩
    · cases hy
  | z :: r, x, h0, hn, h, y, hy => by
    rcases List.mem_cons.1 hy with rfl | hy
    · exact ⟨h0, hn⟩
    · obtain ⟨c, hj, -⟩ := way_hop hf h.1
      have hfit := hj.fit hf
      exact way_fit hf r z hfit.2.1.1 hfit.2.1.2 h.2 y hy
theorem way_down {n : Int} {l : List EdD} (hf : FitEd n l) {far : List Int} : ∀ (r : List Int) (x : Int), IsWay l far (x :: r) → ∀ y ∈ r, lab far y < lab far x
  | [], x, _, y, hy => by cases hy
  | z :: r, x, h, y, hy => by
    obtain ⟨c, hj, hc⟩ := way_hop hf h.1
    have hfit := hj.fit hf
    rcases List.mem_cons.1 hy with rfl | hy
    · omega
    · have := way_down hf r z h.2 y hy
      omega
theorem way_once {n : Int} {l : List EdD} (hf : FitEd n l) {far : List Int} : ∀ (r : List Int) (x : Int), IsWay l far (x :: r) → (x :: r).Pairwise fun a b => ¬ a = b
  | [], x, _ => List.pairwise_singleton _ _
  | z :: r, x, h => by
    refine List.pairwise_cons.2 ⟨fun y hy e => ?_, way_once hf r z h.2⟩
    have := way_down hf (z :: r) x h y hy
    rw [e] at this
    omega
theorem nodup_len {α : Type} [DecidableEq α] : ∀ (p q : List α), (p.Pairwise fun x y => ¬ x = y) → (∀ x ∈ p, x ∈ q) → p.length ≤ q.length
  | [], q, _, _ => Nat.zero_le _
  | x :: r, q, hn, hs => by
    have hp := List.pairwise_cons.1 hn
    have hx := hs x (List.mem_cons_self ..)
    have ih := nodup_len r (q.erase x) hp.2 fun y hy => (List.mem_erase_of_ne (fun e => hp.1 y hy e.symm)).2 (hs y (List.mem_cons_of_mem _ hy))
    rw [List.length_erase_of_mem hx] at ih
    have := List.length_pos_of_mem hx
    simp only [List.length_cons]
    omega
theorem way_len {n : Nat} {l : List EdD} (hf : FitEd n l) {far : List Int} (r : List Int) (x : Int) (h0 : 0 ≤ x) (hn : x < n) (h : IsWay l far (x :: r)) : (x :: r).length ≤ n := by
  have := nodup_len (x :: r) (iota n) (way_once hf r x h) fun y hy => (mem_iota n y).2 (way_fit hf r x h0 hn h y hy)
  rwa [iota_len] at this
theorem way_uniq {l : List EdD} {far : List Int} : ∀ (r s : List Int) (x : Int), IsWay l far (x :: r) → IsWay l far (x :: s) → r = s
  | [], [], _, _, _ => rfl
  | [], z :: s, x, h1, h2 => by
    have a : hopsD l far x = [] := h1
    have b := h2.1
    rw [a] at b
    cases b
  | y :: r, [], x, h1, h2 => by
    have a : hopsD l far x = [] := h2
    have b := h1.1
    rw [a] at b
    cases b
  | y :: r, z :: s, x, h1, h2 => by
    have a := h1.1
    rw [h2.1] at a
    cases a
    rw [way_uniq r s y h1.2 h2.2]
/-- The way ends where it is to end, and costs what is told. -/
def costs (l : List EdD) : List Int → Int
  | [] => 0
  | [_] => 0
  | x :: y :: r => costB l x y + costs l (y :: r)
def linked (l : List EdD) : List Int → Prop
  | [] => True
  | [_] => True
  | x :: y :: r => costB l x y ≠ 0 ∧ linked l (y :: r)
theorem way_costs {n : Int} {l : List EdD} (hf : FitEd n l) (hr : RiseEd l) {far : List Int} : ∀ (r : List Int) (x : Int), IsWay l far (x :: r) → linked l (x :: r) ∧ costs l (x :: r) + lab far ((x :: r).getLast (by simp)) = lab far x
  | [], x, _ => ⟨trivial, by simp [costs]⟩
  | z :: r, x, h => by
    obtain ⟨c, hj, hc⟩ := way_hop hf h.1
    have hfit := hj.fit hf
    have e := costB_of hf hr hj
    obtain ⟨h1, h2⟩ := way_costs hf hr r z h.2
    refine ⟨⟨by omega, h1⟩, ?_⟩
    rw [costs, List.getLast_cons (by simp)]
    omega
theorem hops_none {n : Nat} {l : List EdD} {b : Int} (hf : FitEd n l) (hb : 0 ≤ b ∧ b < n) (x : Int) (h0 : 0 ≤ x) (hn : x < n) (hfar : lab (fars n l b) x < farC) : hopsD l (fars n l b) x = [] ↔ x = b := by
  constructor
  · intro e
    refine Classical.byContradiction fun hne => ?_
    obtain ⟨k, c, hj, hk⟩ := fars_tight hf hb x h0 hn hne hfar
    have : k ∈ hopsD l (fars n l b) x := (mem_hopsD ..).2 ⟨c, hj, hk⟩
    rw [e] at this
    cases this
  · rintro rfl
    refine List.eq_nil_iff_forall_not_mem.2 fun k hk => ?_
    obtain ⟨c, hj, hc⟩ := (mem_hopsD ..).1 hk
    have hfit := hj.fit hf
    rw [fars_at hf hb] at hc
    have := fars_nonneg hf hb k hfit.2.1.1 hfit.2.1.2
    omega
theorem hops_far {n : Nat} {l : List EdD} {b : Int} (hn : n ≤ 12) (hf : FitEd n l) (hb : 0 ≤ b ∧ b < n) (x : Int) (hfar : lab (fars n l b) x = farC) : hopsD l (fars n l b) x = [] := by
  refine List.eq_nil_iff_forall_not_mem.2 fun k hk => ?_
  obtain ⟨c, hj, hc⟩ := (mem_hopsD ..).1 hk
  have hfit := hj.fit hf
  have := fars_low hf hb k hfit.2.1.1 hfit.2.1.2
  unfold farC at *
  omega
theorem way_last {n : Nat} {l : List EdD} {b : Int} (hf : FitEd n l) (hb : 0 ≤ b ∧ b < n) : ∀ (r : List Int) (x : Int), 0 ≤ x → x < n → lab (fars n l b) x < farC → IsWay l (fars n l b) (x :: r) → (x :: r).getLast (by simp) = b
  | [], x, h0, hn, hfar, h => (hops_none hf hb x h0 hn hfar).1 h
  | z :: r, x, h0, hn, hfar, h => by
    obtain ⟨c, hj, hc⟩ := way_hop hf h.1
    have hfit := hj.fit hf
    rw [List.getLast_cons (by simp)]
    exact way_last hf hb r z hfit.2.1.1 hfit.2.1.2 (by omega) h.2
end Go.Proofs.Ythlbmkefjjckaag
