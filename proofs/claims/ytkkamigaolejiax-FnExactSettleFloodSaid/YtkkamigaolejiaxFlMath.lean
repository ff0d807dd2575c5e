/-
  Floods as plain data: links, who is joined, what is owed row by row; and that both ways of telling the rows come to the same.
-/
import Derived.Test.YtkkamigaolejiaxRowLt
import Derived.Test.YtkkamigaolejiaxRowDb
import Derived.Test.YtkkamigaolejiaxPut2
namespace Go.Proofs.Ytkkamigaolejiax
set_option linter.unusedVariables false

def at0 (l : List Int) : Int := l.getD 0 0
def at1 (l : List Int) : Int := l.getD 1 0
def okLk (n : Int) (l : List Int) : Bool := decide (l.length = 2 ∧ (0 ≤ at0 l ∧ at0 l < n) ∧ (0 ≤ at1 l ∧ at1 l < n) ∧ at0 l < at1 l)
def lessLk (a b : List Int) : Bool := decide (at0 a < at0 b ∨ at0 a = at0 b ∧ at1 a < at1 b)
def lkAt (n : Int) (lks : List (List Int)) (j : Nat) : Bool := okLk n (lks.getD j []) && (decide (j = 0) || lessLk (lks.getD (j - 1) []) (lks.getD j []))
/-- Whether links are as said, of n nodes. -/
def linksB (n : Int) (lks : List (List Int)) : Bool := (List.range lks.length).all fun j => lkAt n lks j
theorem getL_at (lks : List (List Int)) (j : Nat) (h : j < lks.length) : lks.getD j [] = lks[j] := by simp [List.getD_eq_getElem?_getD, h]
theorem linksB_no (n : Int) (lks : List (List Int)) (k : Nat) (h : k < lks.length) (hf : lkAt n lks k = false) : linksB n lks = false := by
  rw [Bool.eq_false_iff]
  intro e
  have := List.all_eq_true.1 e k (List.mem_range.2 h)
  rw [hf] at this
  cases this
theorem linksB_yes (n : Int) (lks : List (List Int)) (h : ∀ j, j < lks.length → lkAt n lks j = true) : linksB n lks = true :=
  List.all_eq_true.2 fun j hj => h j (List.mem_range.1 hj)
theorem linksB_at {n : Int} {lks : List (List Int)} (h : linksB n lks = true) (j : Nat) (hj : j < lks.length) : lkAt n lks j = true :=
  List.all_eq_true.1 h j (List.mem_range.2 hj)
theorem linksB_ok {n : Int} {lks : List (List Int)} (h : linksB n lks = true) (j : Nat) (hj : j < lks.length) : okLk n lks[j] = true := by
  have := linksB_at h j hj
  unfold lkAt at this
  rw [Bool.and_eq_true, getL_at lks j hj] at this
  exact this.1
theorem linksB_mem {n : Int} {lks : List (List Int)} (h : linksB n lks = true) (l : List Int) (hl : l ∈ lks) : l.length = 2 ∧ (0 ≤ at0 l ∧ at0 l < n) ∧ (0 ≤ at1 l ∧ at1 l < n) ∧ at0 l < at1 l := by
  obtain ⟨j, hj, rfl⟩ := List.getElem_of_mem hl
  exact of_decide_eq_true (linksB_ok h j hj)
theorem at0_of (l : List Int) (h : 0 < l.length) : at0 l = l[0] := by simp [at0, List.getD_eq_getElem?_getD, h]
theorem at1_of (l : List Int) (h : 1 < l.length) : at1 l = l[1] := by simp [at1, List.getD_eq_getElem?_getD, h]

/-- There are no more than 15 links of six nodes. -/
def rk (a b : Int) : Int := if a = 0 then b - 1 else if a = 1 then b + 3 else if a = 2 then b + 6 else if a = 3 then b + 8 else b + 9
theorem rk_lt (a b c d : Int) (h1 : 0 ≤ a ∧ a < b ∧ b < 6) (h2 : 0 ≤ c ∧ c < d ∧ d < 6) (h : a < c ∨ a = c ∧ b < d) : rk a b < rk c d := by
  unfold rk
  (repeat' split) <;> omega
theorem rk_le (a b : Int) (h : 0 ≤ a ∧ a < b ∧ b < 6) : 0 ≤ rk a b ∧ rk a b ≤ 14 := by
  unfold rk
  (repeat' split) <;> omega
theorem links_rk {n : Int} {lks : List (List Int)} (h : linksB n lks = true) (hn : n ≤ 6) : ∀ j (hj : j < lks.length), (j : Int) ≤ rk (at0 lks[j]) (at1 lks[j])
  | 0, hj => by
    have := linksB_mem h lks[0] (List.getElem_mem hj)
    have := rk_le (at0 lks[0]) (at1 lks[0]) (by omega)
    omega
  | j + 1, hj => by
    have ih := links_rk h hn j (by omega)
    have m1 := linksB_mem h lks[j] (List.getElem_mem (by omega))
    have m2 := linksB_mem h lks[j + 1] (List.getElem_mem hj)
    have hl := linksB_at h (j + 1) hj
    unfold lkAt at hl
    rw [Bool.and_eq_true, Nat.add_sub_cancel, getL_at lks (j + 1) hj, getL_at lks j (by omega)] at hl
    have hl2 : lessLk lks[j] lks[j + 1] = true := by simpa using hl.2
    have hl3 := of_decide_eq_true hl2
    have := rk_lt (at0 lks[j]) (at1 lks[j]) (at0 lks[j + 1]) (at1 lks[j + 1]) (by omega) (by omega) hl3
    omega
theorem links15 {n : Int} {lks : List (List Int)} (h : linksB n lks = true) (hn : n ≤ 6) : lks.length ≤ 15 := by
  by_cases h0 : lks.length = 0
  · omega
  · have h1 := links_rk h hn (lks.length - 1) (by omega)
    have m1 := linksB_mem h lks[lks.length - 1] (List.getElem_mem (by omega))
    have := rk_le (at0 lks[lks.length - 1]) (at1 lks[lks.length - 1]) (by omega)
    omega

/-- Whether a link joins two. -/
def joinsL (a b : Int) (l : List Int) : Bool := decide (at0 l = min a b ∧ at1 l = max a b)
def joinedB (lks : List (List Int)) (a b : Int) : Bool := lks.any (joinsL a b)
theorem joinedB_hit (lks : List (List Int)) (a b : Int) (k : Nat) (h : k < lks.length) (hk : joinsL a b lks[k] = true) : joinedB lks a b = true :=
  List.any_eq_true.2 ⟨_, List.getElem_mem h, hk⟩
theorem joinedB_none (lks : List (List Int)) (a b : Int) (h : ∀ j (hj : j < lks.length), joinsL a b lks[j] = false) : joinedB lks a b = false := by
  rw [Bool.eq_false_iff]
  intro e
  obtain ⟨l, hl, hj⟩ := List.any_eq_true.1 e
  obtain ⟨j, hj', rfl⟩ := List.getElem_of_mem hl
  rw [h j hj'] at hj
  cases hj

/-- The neighbours of a node, as the model finds them. -/
def nearStep (b : Int) (acc : List Int) (l : List Int) : List Int :=
  let acc1 := if at0 l = b then insL (at1 l) acc else acc
  if at1 l = b then insL (at0 l) acc1 else acc1
def nearL (lks : List (List Int)) (b : Int) : List Int := lks.foldl (nearStep b) []
theorem nearStep_mem (b z : Int) (acc l : List Int) : z ∈ nearStep b acc l ↔ z ∈ acc ∨ (at0 l = b ∧ z = at1 l) ∨ (at1 l = b ∧ z = at0 l) := by
  unfold nearStep
  simp only
  by_cases h0 : at0 l = b <;> by_cases h1 : at1 l = b
  · rw [if_pos h0, if_pos h1, insL_mem, insL_mem]
    constructor
    · rintro (h | h | h)
      · exact .inr (.inr ⟨h1, h⟩)
      · exact .inr (.inl ⟨h0, h⟩)
      · exact .inl h
    · rintro (h | ⟨-, h⟩ | ⟨-, h⟩)
      · exact .inr (.inr h)
      · exact .inr (.inl h)
      · exact .inl h
  · rw [if_pos h0, if_neg h1, insL_mem]
    constructor
    · rintro (h | h)
      · exact .inr (.inl ⟨h0, h⟩)
      · exact .inl h
    · rintro (h | ⟨-, h⟩ | ⟨h, -⟩)
      · exact .inr h
      · exact .inl h
      · exact absurd h h1
  · rw [if_neg h0, if_pos h1, insL_mem]
    constructor
    · rintro (h | h)
      · exact .inr (.inr ⟨h1, h⟩)
      · exact .inl h
    · rintro (h | ⟨h, -⟩ | ⟨-, h⟩)
      · exact .inr h
      · exact absurd h h0
      · exact .inl h
  · rw [if_neg h0, if_neg h1]
    constructor
    · exact .inl
    · rintro (h | ⟨h, -⟩ | ⟨h, -⟩)
      · exact h
      · exact absurd h h0
      · exact absurd h h1
theorem near_mem (b z : Int) : ∀ (lks : List (List Int)) (acc : List Int), z ∈ lks.foldl (nearStep b) acc ↔ z ∈ acc ∨ ∃ l ∈ lks, (at0 l = b ∧ z = at1 l) ∨ (at1 l = b ∧ z = at0 l)
  | [], acc => by simp
  | l :: r, acc => by
    rw [List.foldl_cons, near_mem b z r, nearStep_mem]
    simp only [List.mem_cons, exists_eq_or_imp]
    rw [or_assoc]
theorem insL_rise (n : Int) : ∀ zs : List Int, zs.Pairwise (· < ·) → (insL n zs).Pairwise (· < ·)
  | [], _ => by simp [insL]
  | y :: r, h => by
    have hr := (List.pairwise_cons.1 h)
    have ih := insL_rise n r hr.2
    unfold insL
    split
    · next hy =>
      refine List.pairwise_cons.2 ⟨fun z hz => ?_, ih⟩
      rcases (insL_mem n z r).1 hz with rfl | hz'
      · exact hy
      · exact hr.1 z hz'
    · split
      · exact h
      · next h1 h2 =>
        refine List.pairwise_cons.2 ⟨fun z hz => ?_, h⟩
        rcases List.mem_cons.1 hz with rfl | hz'
        · omega
        · have := hr.1 z hz'; omega
theorem nearStep_rise (b : Int) (acc l : List Int) (h : acc.Pairwise (· < ·)) : (nearStep b acc l).Pairwise (· < ·) := by
  unfold nearStep
  simp only
  split <;> split <;> (try apply insL_rise) <;> (try apply insL_rise) <;> exact h
theorem near_rise (b : Int) : ∀ (lks : List (List Int)) (acc : List Int), acc.Pairwise (· < ·) → (lks.foldl (nearStep b) acc).Pairwise (· < ·)
  | [], acc, h => h
  | l :: r, acc, h => by rw [List.foldl_cons]; exact near_rise b r _ (nearStep_rise b acc l h)
theorem nearStep_len (b : Int) (acc l : List Int) : (nearStep b acc l).length ≤ acc.length + 2 := by
  unfold nearStep
  simp only
  have h1 := insL_len (at1 l) acc
  have h2 := insL_len (at0 l) (insL (at1 l) acc)
  have h3 := insL_len (at0 l) acc
  split <;> split <;> omega
theorem near_len (b : Int) : ∀ (lks : List (List Int)) (acc : List Int), (lks.foldl (nearStep b) acc).length ≤ acc.length + 2 * lks.length
  | [], acc => by simp
  | l :: r, acc => by
    rw [List.foldl_cons]
    have := near_len b r (nearStep b acc l)
    have := nearStep_len b acc l
    simp only [List.length_cons]
    omega

/-- Two rising lists of the same numbers are one. -/
theorem rise_ext : ∀ l m : List Int, l.Pairwise (· < ·) → m.Pairwise (· < ·) → (∀ z, z ∈ l ↔ z ∈ m) → l = m
  | [], [], _, _, _ => rfl
  | [], y :: m, _, _, h => absurd ((h y).2 (by simp)) (by simp)
  | x :: l, [], _, _, h => absurd ((h x).1 (by simp)) (by simp)
  | x :: l, y :: m, hl, hm, h => by
    have hl' := List.pairwise_cons.1 hl
    have hm' := List.pairwise_cons.1 hm
    have hxy : x = y := by
      rcases List.mem_cons.1 ((h x).1 (by simp)) with e | e
      · exact e
      · rcases List.mem_cons.1 ((h y).2 (by simp)) with e' | e'
        · exact e'.symm
        · have := hl'.1 y e'; have := hm'.1 x e; omega
    subst hxy
    refine congrArg (x :: ·) (rise_ext l m hl'.2 hm'.2 fun z => ⟨fun hz => ?_, fun hz => ?_⟩)
    · rcases List.mem_cons.1 ((h z).1 (List.mem_cons_of_mem _ hz)) with e | e
      · have := hl'.1 z hz; omega
      · exact e
    · rcases List.mem_cons.1 ((h z).2 (List.mem_cons_of_mem _ hz)) with e | e
      · have := hm'.1 z hz; omega
      · exact e

theorem joined_mem {n : Int} {lks : List (List Int)} (h : linksB n lks = true) (b z : Int) : joinedB lks b z = true ↔ ∃ l ∈ lks, (at0 l = b ∧ z = at1 l) ∨ (at1 l = b ∧ z = at0 l) := by
  unfold joinedB joinsL
  rw [List.any_eq_true]
  constructor
  · rintro ⟨l, hl, e⟩
    have e := of_decide_eq_true e
    exact ⟨l, hl, by omega⟩
  · rintro ⟨l, hl, e⟩
    have := linksB_mem h l hl
    exact ⟨l, hl, decide_eq_true (by omega)⟩
theorem joined_in {n : Int} {lks : List (List Int)} (h : linksB n lks = true) (b z : Int) (hj : joinedB lks b z = true) : (0 ≤ b ∧ b < n) ∧ (0 ≤ z ∧ z < n) := by
  obtain ⟨l, hl, e⟩ := (joined_mem h b z).1 hj
  have := linksB_mem h l hl
  omega

/-- The neighbours of a node among the first k, as the program finds them. -/
def innerD (lks : List (List Int)) (b k : Nat) : List DbD := ((List.range k).filter fun (t : Nat) => joinedB lks (b : Int) (t : Int)).map fun (t : Nat) => ⟨(b : Int), (t : Int)⟩
def debtsTo (n : Nat) (lks : List (List Int)) (k : Nat) : List DbD := (List.range k).flatMap fun (b : Nat) => innerD lks b n
def debtsL (n : Nat) (lks : List (List Int)) : List DbD := debtsTo n lks n
theorem innerD_next (lks : List (List Int)) (b k : Nat) : innerD lks b (k + 1) = innerD lks b k ++ (if joinedB lks (b : Int) (k : Int) = true then [⟨(b : Int), (k : Int)⟩] else []) := by
  unfold innerD
  rw [List.range_succ, List.filter_append, List.map_append]
  congr 1
  by_cases h : joinedB lks (b : Int) (k : Int) = true
  · simp [h]
  · simp [h]
theorem debtsTo_next (n : Nat) (lks : List (List Int)) (k : Nat) : debtsTo n lks (k + 1) = debtsTo n lks k ++ innerD lks k n := by
  unfold debtsTo
  rw [List.range_succ, List.flatMap_append]
  simp
theorem innerD_len (lks : List (List Int)) (b k : Nat) : (innerD lks b k).length ≤ k := by
  unfold innerD
  have := List.length_filter_le (fun t : Nat => joinedB lks (b : Int) (t : Int)) (List.range k)
  simpa using this
theorem debtsTo_len (n : Nat) (lks : List (List Int)) : ∀ k, (debtsTo n lks k).length ≤ k * n
  | 0 => by simp [debtsTo]
  | k + 1 => by
    have := debtsTo_len n lks k
    have := innerD_len lks k n
    rw [debtsTo_next, List.length_append, Nat.add_mul]
    omega

/-- The rows, as the model tells them. -/
def rowsTo (lks : List (List Int)) (k : Nat) : List (List Int) := (List.range k).flatMap fun (b : Nat) => (nearL lks (b : Int)).map fun t => [(b : Int), t]
def rowsL (n : Nat) (lks : List (List Int)) : List (List Int) := rowsTo lks n
theorem rowsTo_next (lks : List (List Int)) (k : Nat) : rowsTo lks (k + 1) = rowsTo lks k ++ (nearL lks (k : Int)).map fun t => [(k : Int), t] := by
  unfold rowsTo
  rw [List.range_succ, List.flatMap_append]
  simp
theorem rowsTo_len (lks : List (List Int)) : ∀ k, (rowsTo lks k).length ≤ k * (2 * lks.length)
  | 0 => by simp [rowsTo]
  | k + 1 => by
    have := rowsTo_len lks k
    have := near_len (k : Int) lks []
    rw [rowsTo_next, List.length_append, List.length_map, Nat.add_mul]
    unfold nearL
    simp only [List.length_nil] at this
    omega

theorem near_eq {n : Nat} {lks : List (List Int)} (h : linksB (n : Int) lks = true) (b : Int) : nearL lks b = ((List.range n).filter fun (t : Nat) => joinedB lks b (t : Int)).map fun (t : Nat) => (t : Int) := by
  refine rise_ext _ _ (near_rise b lks [] List.Pairwise.nil) ?_ fun z => ?_
  · refine List.Pairwise.map _ (fun a c hac => ?_) (List.Pairwise.filter _ (List.pairwise_lt_range))
    omega
  · unfold nearL
    rw [near_mem, ← joined_mem h b z]
    simp only [List.not_mem_nil, false_or, List.mem_map, List.mem_filter, List.mem_range]
    constructor
    · intro hz
      have := joined_in h b z hz
      refine ⟨z.toNat, ⟨by omega, ?_⟩, by omega⟩
      rw [show ((z.toNat : Nat) : Int) = z by omega]
      exact hz
    · rintro ⟨t, ⟨-, ht⟩, rfl⟩
      exact ht
def pqL (d : DbD) : List Int := [d.p, d.q]
theorem rows_debts {n : Nat} {lks : List (List Int)} (h : linksB (n : Int) lks = true) : ∀ k, rowsTo lks k = (debtsTo n lks k).map pqL
  | 0 => rfl
  | k + 1 => by
    rw [rowsTo_next, debtsTo_next, rows_debts h k, List.map_append, near_eq h]
    congr 1
    unfold innerD
    rw [List.map_map, List.map_map]
    rfl
theorem rowsL_debts {n : Nat} {lks : List (List Int)} (h : linksB (n : Int) lks = true) : rowsL n lks = (debtsL n lks).map pqL := rows_debts h n

/-- The number of the row of two, -1 for none. -/
def isD (p q : Int) (d : DbD) : Bool := decide (d.p = p ∧ d.q = q)
def ixD (ds : List DbD) (p q : Int) : Int := if ds.findIdx (isD p q) < ds.length then (ds.findIdx (isD p q) : Int) else -1
theorem ixD_hit (ds : List DbD) (p q : Int) (k : Nat) (h : k < ds.length) (hb : ∀ j (hj : j < ds.length), j < k → isD p q ds[j] = false) (hk : isD p q ds[k] = true) : ixD ds p q = (k : Int) := by
  have e : ds.findIdx (isD p q) = k := by
    rw [List.findIdx_eq h]
    exact ⟨hk, fun j hj => hb j (by omega) hj⟩
  unfold ixD
  rw [e, if_pos h]
theorem ixD_none (ds : List DbD) (p q : Int) (h : ∀ j (hj : j < ds.length), isD p q ds[j] = false) : ixD ds p q = -1 := by
  unfold ixD
  rw [if_neg]
  intro hlt
  have := List.findIdx_getElem (w := hlt)
  rw [h _ hlt] at this
  cases this
theorem debts_mem (n : Nat) (lks : List (List Int)) (p q : Int) : (⟨p, q⟩ : DbD) ∈ debtsL n lks ↔ (0 ≤ p ∧ p < n) ∧ (0 ≤ q ∧ q < n) ∧ joinedB lks p q = true := by
  unfold debtsL debtsTo innerD
  simp only [List.mem_flatMap, List.mem_map, List.mem_filter, List.mem_range, DbD.mk.injEq]
  constructor
  · rintro ⟨b, hb, t, ⟨ht, hj⟩, rfl, rfl⟩
    exact ⟨by omega, by omega, hj⟩
  · rintro ⟨h1, h2, h3⟩
    refine ⟨p.toNat, by omega, q.toNat, ⟨by omega, ?_⟩, by omega, by omega⟩
    rw [show ((p.toNat : Nat) : Int) = p by omega, show ((q.toNat : Nat) : Int) = q by omega]
    exact h3
theorem ixD_joined {n : Nat} {lks : List (List Int)} (h : linksB (n : Int) lks = true) (p q : Int) : (0 ≤ ixD (debtsL n lks) p q) ↔ joinedB lks p q = true := by
  constructor
  · intro h0
    unfold ixD at h0
    split at h0
    · next hlt =>
      have e := of_decide_eq_true (List.findIdx_getElem (w := hlt))
      have hm := List.getElem_mem hlt
      generalize (debtsL n lks)[(debtsL n lks).findIdx (isD p q)] = d at e hm
      obtain ⟨dp, dq⟩ := d
      obtain ⟨rfl, rfl⟩ := e
      exact ((debts_mem n lks dp dq).1 hm).2.2
    · omega
  · intro hj
    have hin := joined_in h p q hj
    have hm := (debts_mem n lks p q).2 ⟨hin.1, hin.2, hj⟩
    have hlt : (debtsL n lks).findIdx (isD p q) < (debtsL n lks).length := List.findIdx_lt_length_of_exists ⟨_, hm, decide_eq_true ⟨rfl, rfl⟩⟩
    unfold ixD
    rw [if_pos hlt]
    omega

/-- The data of a flood. -/
structure FD where
  lk : List (List Int)
  kn : List (List Int)
  ow : List (List Int)
  ln : List LtD
def noF : FD := ⟨[], [], [], []⟩
def rowB (long top : Int) (r : List Int) : Bool := decide ((r.length : Int) = long) && allB r 0 top
def rowsB (rows : List (List Int)) (many long top : Int) : Bool := decide ((rows.length : Int) = many) && rows.all (rowB long top)
def goodLt (n : Int) (lks : List (List Int)) (x : LtD) : Bool := joinedB lks x.tt x.bb && (decide (0 ≤ x.fr ∧ x.fr < n) && decide (1 ≤ x.sq ∧ x.sq ≤ 60))
def headB (n : Int) (f : FD) : Bool := decide (1 ≤ n ∧ n ≤ 6) && (linksB n f.lk && decide (f.ln.length ≤ 40))
/-- Whether a flood is good. -/
def goodF (f : FD) : Bool := headB f.kn.length f && ((rowsB f.kn f.kn.length f.kn.length 60 && rowsB f.ow (debtsL f.kn.length f.lk).length f.kn.length 1) && f.ln.all (goodLt f.kn.length f.lk))
theorem rowsAll_no (rows : List (List Int)) (long top : Int) (k : Nat) (h : k < rows.length) (hf : rowB long top rows[k] = false) : rows.all (rowB long top) = false := by
  rw [Bool.eq_false_iff]
  intro e
  have := List.all_eq_true.1 e _ (List.getElem_mem h)
  rw [hf] at this
  cases this
theorem rowsAll_yes (rows : List (List Int)) (long top : Int) (h : ∀ j (hj : j < rows.length), rowB long top rows[j] = true) : rows.all (rowB long top) = true :=
  List.all_eq_true.2 fun z hz => by
    obtain ⟨j, hj, rfl⟩ := List.getElem_of_mem hz
    exact h j hj
theorem ltAll_no (l : List LtD) (p : LtD → Bool) (k : Nat) (h : k < l.length) (hf : p l[k] = false) : l.all p = false := by
  rw [Bool.eq_false_iff]
  intro e
  have := List.all_eq_true.1 e _ (List.getElem_mem h)
  rw [hf] at this
  cases this
theorem ltAll_yes (l : List LtD) (p : LtD → Bool) (h : ∀ j (hj : j < l.length), p l[j] = true) : l.all p = true :=
  List.all_eq_true.2 fun z hz => by
    obtain ⟨j, hj, rfl⟩ := List.getElem_of_mem hz
    exact h j hj
end Go.Proofs.Ytkkamigaolejiax
