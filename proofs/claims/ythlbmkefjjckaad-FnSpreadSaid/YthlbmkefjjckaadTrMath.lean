/-
  Trees over parents: walks up, another root, how a frame spreads, ways, and when parents are good.
-/
import Derived.Test.YthlbmkefjjckaadBunB
import Derived.Test.YthlbmkefjjckaadRowHop
namespace Go.Proofs.Ythlbmkefjjckaad
open Go.RowKit
set_option linter.unusedVariables false

/-- The parent of a spot; of none none. -/
def parU (p : List Int) (x : Int) : Int := if x < 0 then -1 else lab p x
/-- So many steps up. -/
def upU (p : List Int) : Nat → Int → Int
  | 0, x => x
  | k + 1, x => upU p k (parU p x)
theorem upU_succ (p : List Int) : ∀ (k : Nat) (x : Int), upU p (k + 1) x = parU p (upU p k x)
  | 0, _ => rfl
  | k + 1, x => by rw [upU, upU_succ p k (parU p x)]; rfl
theorem upU_add (p : List Int) (j : Nat) : ∀ (k : Nat) (x : Int), upU p (j + k) x = upU p j (upU p k x)
  | 0, _ => rfl
  | k + 1, x => by rw [← Nat.add_assoc, upU, upU_add p j k]; rfl
theorem parU_neg (p : List Int) {x : Int} (h : x < 0) : parU p x = -1 := by rw [parU, if_pos h]
theorem parU_pos (p : List Int) {x : Int} (h : 0 ≤ x) : parU p x = lab p x := by rw [parU, if_neg (by omega)]
theorem upU_neg (p : List Int) : ∀ (k : Nat) {x : Int}, x < 0 → upU p k x < 0
  | 0, _, h => h
  | k + 1, x, h => by rw [upU, parU_neg p h]; exact upU_neg p k (by omega)
theorem upU_down (p : List Int) {j k : Nat} {x : Int} (hjk : j ≤ k) (h : 0 ≤ upU p k x) : 0 ≤ upU p j x := by
  obtain ⟨d, rfl⟩ : ∃ d, k = d + j := ⟨k - j, by omega⟩
  rw [upU_add] at h
  by_cases e : 0 ≤ upU p j x
  · exact e
  · have := upU_neg p d (x := upU p j x) (by omega); omega
/-- How many steps it takes from a spot to none, at most so many. -/
def htU (p : List Int) : Nat → Int → Nat
  | 0, _ => 0
  | m + 1, x => if x < 0 then 0 else htU p m (parU p x) + 1
def dep (p : List Int) (x : Int) : Nat := htU p p.length x
def FitU (p : List Int) : Prop := ∀ i : Int, 0 ≤ i → i < p.length → -1 ≤ lab p i ∧ lab p i < p.length
/-- Good parents. -/
def goodU (p : List Int) : Bool := decide (1 ≤ p.length ∧ p.length ≤ 12) && (iota p.length).all fun i => decide (-1 ≤ lab p i ∧ lab p i < p.length) && decide (upU p p.length i < 0)
theorem goodU_iff (p : List Int) : goodU p = true ↔ (1 ≤ p.length ∧ p.length ≤ 12) ∧ FitU p ∧ ∀ i : Int, 0 ≤ i → i < p.length → upU p p.length i < 0 := by
  unfold goodU
  rw [Bool.and_eq_true, decide_eq_true_iff, List.all_eq_true]
  constructor
  · rintro ⟨h1, h2⟩
    have h3 : ∀ i : Int, 0 ≤ i → i < p.length → (-1 ≤ lab p i ∧ lab p i < p.length) ∧ upU p p.length i < 0 := fun i h0 hi => by
      have := h2 i ((mem_iota _ i).2 ⟨h0, hi⟩)
      rw [Bool.and_eq_true, decide_eq_true_iff, decide_eq_true_iff] at this
      exact this
    exact ⟨h1, fun i h0 hi => (h3 i h0 hi).1, fun i h0 hi => (h3 i h0 hi).2⟩
  · rintro ⟨h1, h2, h3⟩
    refine ⟨h1, fun i hi => ?_⟩
    have := (mem_iota _ i).1 hi
    rw [Bool.and_eq_true, decide_eq_true_iff, decide_eq_true_iff]
    exact ⟨h2 i this.1 this.2, h3 i this.1 this.2⟩
theorem FitU.up {p : List Int} (h : FitU p) : ∀ (k : Nat) {x : Int}, -1 ≤ x → x < p.length → -1 ≤ upU p k x ∧ upU p k x < p.length
  | 0, _, h0, h1 => ⟨h0, h1⟩
  | k + 1, x, h0, h1 => by
    rw [upU]
    by_cases e : x < 0
    · rw [parU_neg p e]; exact h.up k (by omega) (by omega)
    · rw [parU_pos p (by omega)]; exact h.up k (h x (by omega) h1).1 (h x (by omega) h1).2
theorem htU_more (p : List Int) : ∀ (m : Nat) (x : Int), upU p m x < 0 → htU p (m + 1) x = htU p m x
  | 0, x, h => if_pos (show x < 0 from h)
  | m + 1, x, h => by
    rw [htU]
    conv => rhs; rw [htU]
    by_cases e : x < 0
    · rw [if_pos e, if_pos e]
    · rw [if_neg e, if_neg e, htU_more p m (parU p x) h]
theorem dep_neg (p : List Int) {x : Int} (h : x < 0) : dep p x = 0 := by
  unfold dep
  cases p.length with
  | zero => rfl
  | succ m => rw [htU, if_pos h]
theorem dep_par {p : List Int} (hg : goodU p = true) {x : Int} (h0 : 0 ≤ x) (h : x < p.length) : dep p x = dep p (lab p x) + 1 := by
  obtain ⟨⟨g1, -⟩, -, g3⟩ := (goodU_iff p).1 hg
  have hx := g3 x h0 h
  unfold dep
  obtain ⟨m, hm⟩ : ∃ m, p.length = m + 1 := ⟨p.length - 1, by omega⟩
  rw [hm] at hx ⊢
  conv => lhs; rw [htU, if_neg (by omega), parU_pos p h0]
  rw [upU, parU_pos p h0] at hx
  rw [htU_more p m _ hx]
theorem dep_pos {p : List Int} (hg : goodU p = true) {x : Int} (h0 : 0 ≤ x) (h : x < p.length) : 1 ≤ dep p x := by rw [dep_par hg h0 h]; omega
theorem dep_up {p : List Int} (hg : goodU p = true) : ∀ (k : Nat) {x : Int}, 0 ≤ x → x < p.length → 0 ≤ upU p k x → dep p x = dep p (upU p k x) + k
  | 0, _, _, _, _ => rfl
  | k + 1, x, h0, h1, h => by
    have hf := ((goodU_iff p).1 hg).2.1
    rw [upU, parU_pos p h0] at h ⊢
    by_cases e : lab p x < 0
    · have := upU_neg p k e; omega
    · rw [dep_par hg h0 h1, dep_up hg k (by omega) (hf x h0 h1).2 h]; omega
theorem up_pos {p : List Int} (hg : goodU p = true) : ∀ (k : Nat) {x : Int}, 0 ≤ x → x < p.length → k < dep p x → 0 ≤ upU p k x
  | 0, _, h0, _, _ => h0
  | k + 1, x, h0, h1, h => by
    have hf := ((goodU_iff p).1 hg).2.1
    rw [upU, parU_pos p h0]
    rw [dep_par hg h0 h1] at h
    by_cases e : lab p x < 0
    · rw [dep_neg p e] at h; omega
    · exact up_pos hg k (by omega) (hf x h0 h1).2 (by omega)
theorem up_lt_dep {p : List Int} (hg : goodU p = true) (k : Nat) {x : Int} (h0 : 0 ≤ x) (h1 : x < p.length) (h : 0 ≤ upU p k x) : k < dep p x := by
  have hf := ((goodU_iff p).1 hg).2.1
  have := dep_up hg k h0 h1 h
  have := dep_pos hg h (hf.up k (by omega) h1).2
  omega
theorem dep_le {p : List Int} (x : Int) : dep p x ≤ p.length := by
  unfold dep
  have : ∀ (m : Nat) (x : Int), htU p m x ≤ m := fun m => by
    induction m with
    | zero => intro x; exact Nat.le_refl _
    | succ m ih => intro x; rw [htU]; split; · omega
                   · have := ih (parU p x); omega
  exact this _ x
/-- Whatever falls with each step up tells that none leads round. -/
theorem goodU_rank {p : List Int} (hn : 1 ≤ p.length ∧ p.length ≤ 12) (hf : FitU p) (d : Int → Nat) (hd : ∀ i : Int, 0 ≤ i → i < p.length → 0 ≤ lab p i → d (lab p i) < d i) : goodU p = true := by
  refine (goodU_iff p).2 ⟨hn, hf, fun x h0 hx => ?_⟩
  by_cases e : upU p p.length x < 0
  · exact e
  · exfalso
    have hpos : ∀ j, j ≤ p.length → 0 ≤ upU p j x ∧ upU p j x < p.length := fun j hj => ⟨upU_down p hj (by omega), (hf.up j (by omega) hx).2⟩
    have hs : ∀ j, j + 1 ≤ p.length → d (upU p (j + 1) x) < d (upU p j x) := fun j hj => by
      have h1 := hpos (j + 1) hj
      rw [upU_succ, parU_pos p (hpos j (by omega)).1] at h1 ⊢
      exact hd _ (hpos j (by omega)).1 (hpos j (by omega)).2 h1.1
    have hm : ∀ j i, j + i + 1 ≤ p.length → d (upU p (j + i + 1) x) < d (upU p j x) := fun j i => by
      induction i with
      | zero => exact hs j
      | succ i ih => intro h; have := ih (by omega); have := hs (j + i + 1) h; rw [show j + (i + 1) + 1 = j + i + 1 + 1 by omega]; omega
    have := nodup_len ((List.range (p.length + 1)).map fun j => upU p j x) (iota p.length) (by
      rw [List.pairwise_map]
      refine List.Pairwise.imp_of_mem (fun {a b} ha hb h => ?_) List.pairwise_lt_range
      intro q
      have := List.mem_range.1 hb
      have := hm a (b - a - 1) (by omega)
      rw [show a + (b - a - 1) + 1 = b by omega, ← q] at this
      omega) (fun y hy => by
      obtain ⟨j, hj, rfl⟩ := List.mem_map.1 hy
      have := List.mem_range.1 hj
      have := hpos j (by omega)
      exact (mem_iota _ _).2 this)
    rw [List.length_map, List.length_range, iota_len] at this
    omega
/-- Whether a spot is passed on the way up. -/
def onU (p : List Int) (f i : Int) : Bool := decide (dep p i ≤ dep p f ∧ upU p (dep p f - dep p i) f = i)
theorem onU_iff (p : List Int) (f i : Int) : onU p f i = true ↔ dep p i ≤ dep p f ∧ upU p (dep p f - dep p i) f = i := by unfold onU; exact decide_eq_true_iff
theorem onU_self (p : List Int) (f : Int) : onU p f f = true := (onU_iff p f f).2 ⟨Nat.le_refl _, by rw [Nat.sub_self]; rfl⟩
theorem onU_up {p : List Int} (hg : goodU p = true) (k : Nat) {f : Int} (h0 : 0 ≤ f) (h1 : f < p.length) (h : 0 ≤ upU p k f) : onU p f (upU p k f) = true := by
  have := dep_up hg k h0 h1 h
  exact (onU_iff p f _).2 ⟨by omega, by rw [show dep p f - dep p (upU p k f) = k by omega]⟩
theorem onU_par {p : List Int} (hg : goodU p = true) {f i : Int} (hf0 : 0 ≤ f) (hf1 : f < p.length) (h0 : 0 ≤ i) (h : onU p f i = true) (hp : 0 ≤ lab p i) : onU p f (lab p i) = true := by
  obtain ⟨a, b⟩ := (onU_iff p f i).1 h
  have e : upU p (dep p f - dep p i + 1) f = lab p i := by rw [upU_succ, b, parU_pos p h0]
  rw [← e] at hp ⊢
  exact onU_up hg _ hf0 hf1 hp
/-- The parents when another spot is the root of its tree. -/
def par2 (p : List Int) (f i : Int) : Int := if onU p f i then (if i = f then -1 else upU p (dep p f - dep p i - 1) f) else lab p i
theorem par2_self (p : List Int) (f : Int) : par2 p f f = -1 := by rw [par2, if_pos (onU_self p f), if_pos rfl]
theorem par2_child {p : List Int} (hg : goodU p = true) {f i : Int} (hf0 : 0 ≤ f) (hf1 : f < p.length) (h0 : 0 ≤ i) (h : onU p f i = true) (hne : i ≠ f) :
    (0 ≤ par2 p f i ∧ par2 p f i < p.length) ∧ lab p (par2 p f i) = i ∧ onU p f (par2 p f i) = true ∧ dep p (par2 p f i) = dep p i + 1 := by
  have hfit := ((goodU_iff p).1 hg).2.1
  obtain ⟨a, b⟩ := (onU_iff p f i).1 h
  have hd : dep p i < dep p f := by
    rcases Nat.lt_or_ge (dep p i) (dep p f) with q | q
    · exact q
    · rw [show dep p f - dep p i = 0 by omega] at b
      exact absurd b.symm hne
  rw [par2, if_pos h, if_neg hne]
  obtain ⟨k, hk⟩ : ∃ k, dep p f - dep p i = k + 1 := ⟨dep p f - dep p i - 1, by omega⟩
  rw [hk] at b ⊢
  rw [Nat.add_sub_cancel]
  have hpos : 0 ≤ upU p k f := upU_down p (Nat.le_succ k) (by rw [b]; exact h0)
  have hlt := (hfit.up k (x := f) (by omega) hf1).2
  have hl : lab p (upU p k f) = i := by rw [← parU_pos p hpos, ← upU_succ]; exact b
  exact ⟨⟨hpos, hlt⟩, hl, onU_up hg k hf0 hf1 hpos, by rw [dep_par hg hpos hlt, hl]⟩
theorem par2_off {p : List Int} {f i : Int} (h : onU p f i = false) : par2 p f i = lab p i := by rw [par2, h]; rfl
theorem par2_fit {p : List Int} (hg : goodU p = true) {f i : Int} (hf0 : 0 ≤ f) (hf1 : f < p.length) (h0 : 0 ≤ i) (h1 : i < p.length) : -1 ≤ par2 p f i ∧ par2 p f i < p.length := by
  cases h : onU p f i with
  | false => rw [par2_off h]; exact ((goodU_iff p).1 hg).2.1 i h0 h1
  | true =>
    by_cases e : i = f
    · rw [e, par2_self]; omega
    · have := (par2_child hg hf0 hf1 h0 h e).1; omega
/-- How far from the new root, at least. -/
def rank2 (p : List Int) (f i : Int) : Nat := if onU p f i then dep p f - dep p i else dep p f + 1 + dep p i
theorem rank2_lt {p : List Int} (hg : goodU p = true) {f i : Int} (hf0 : 0 ≤ f) (hf1 : f < p.length) (h0 : 0 ≤ i) (h1 : i < p.length) (hp : 0 ≤ par2 p f i) : rank2 p f (par2 p f i) < rank2 p f i := by
  cases h : onU p f i with
  | false =>
    rw [par2_off h] at hp ⊢
    have hd := dep_par hg h0 h1
    have hx : rank2 p f i = dep p f + 1 + dep p i := by rw [rank2, h]; rfl
    rw [hx]
    unfold rank2
    split <;> omega
  | true =>
    by_cases e : i = f
    · rw [e, par2_self] at hp; omega
    · obtain ⟨-, -, c3, c4⟩ := par2_child hg hf0 hf1 h0 h e
      rw [rank2, if_pos c3, rank2, if_pos h, c4]
      have := ((onU_iff p f _).1 c3).1
      omega
theorem par2_joined {p : List Int} (hg : goodU p = true) {f a b : Int} (hf0 : 0 ≤ f) (hf1 : f < p.length) (ha : 0 ≤ a ∧ a < p.length) (hb : 0 ≤ b ∧ b < p.length) : (lab p a = b ∨ lab p b = a) ↔ (par2 p f a = b ∨ par2 p f b = a) := by
  have key : ∀ a b : Int, 0 ≤ a ∧ a < p.length → 0 ≤ b ∧ b < p.length → lab p a = b → par2 p f a = b ∨ par2 p f b = a := fun a b ha hb h => by
    cases ho : onU p f a with
    | false => exact .inl (by rw [par2_off ho]; exact h)
    | true =>
      right
      have hob : onU p f b = true := by rw [← h]; exact onU_par hg hf0 hf1 ha.1 ho (by omega)
      have hd : dep p a = dep p b + 1 := by rw [dep_par hg ha.1 ha.2, h]
      have hbf : b ≠ f := fun e => by
        have := ((onU_iff p f a).1 ho).1
        rw [← e] at this; omega
      rw [par2, if_pos hob, if_neg hbf]
      have := ((onU_iff p f a).1 ho)
      rw [show dep p f - dep p b - 1 = dep p f - dep p a by omega]
      exact this.2
  have back : ∀ a b : Int, 0 ≤ a ∧ a < p.length → 0 ≤ b ∧ b < p.length → par2 p f a = b → lab p a = b ∨ lab p b = a := fun a b ha hb h => by
    cases ho : onU p f a with
    | false => exact .inl (by rw [← par2_off ho]; exact h)
    | true =>
      right
      by_cases e : a = f
      · rw [e, par2_self] at h; omega
      · have := (par2_child hg hf0 hf1 ha.1 ho e).2.1
        rwa [h] at this
  constructor
  · rintro (h | h)
    · exact key a b ha hb h
    · exact (key b a hb ha h).symm
  · rintro (h | h)
    · exact back a b ha hb h
    · exact (back b a hb ha h).symm
def joinU (p : List Int) (a b : Int) : Bool := decide (lab p a = b ∨ lab p b = a)
/-- To whom one sends on what came by a hop. -/
def kidsD (p : List Int) (x : HopD) : List HopD := ((iota p.length).filter fun k => joinU p x.To k && !decide (k = x.From)).map fun k => ⟨x.To, k⟩
def sprd (p : List Int) (f : Int) : Nat → List HopD
  | 0 => kidsD p ⟨-1, f⟩
  | k + 1 => if h : k < (sprd p f k).length then sprd p f k ++ kidsD p (sprd p f k)[k] else sprd p f k
def spreadD (p : List Int) (f : Int) : List HopD := sprd p f p.length
theorem sprd_next (p : List Int) (f : Int) (k : Nat) (h : k < (sprd p f k).length) : sprd p f (k + 1) = sprd p f k ++ kidsD p (sprd p f k)[k] := by rw [sprd, dif_pos h]
theorem sprd_stop (p : List Int) (f : Int) (k : Nat) (h : ¬ k < (sprd p f k).length) : sprd p f (k + 1) = sprd p f k := by rw [sprd, dif_neg h]
/-- A hop as the spread makes it. -/
def OkHop (p : List Int) (f : Int) (x : HopD) : Prop := (0 ≤ x.To ∧ x.To < p.length) ∧ x.From = par2 p f x.To
theorem kidsD_eq {p : List Int} (hg : goodU p = true) {f : Int} (hf0 : 0 ≤ f) (hf1 : f < p.length) {x : HopD} (hx : OkHop p f x) : kidsD p x = ((iota p.length).filter fun k => decide (par2 p f k = x.To)).map fun k => ⟨x.To, k⟩ := by
  unfold kidsD
  congr 1
  refine List.filter_congr fun k hk => ?_
  have hk := (mem_iota _ k).1 hk
  unfold joinU
  rw [Bool.eq_iff_iff, Bool.and_eq_true, decide_eq_true_iff, Bool.not_eq_true', decide_eq_false_iff_not, decide_eq_true_iff, par2_joined hg hf0 hf1 hx.1 hk, hx.2]
  constructor
  · rintro ⟨h1 | h1, h2⟩
    · exact absurd h1.symm h2
    · exact h1
  · intro h
    refine ⟨.inr h, fun e => ?_⟩
    have a1 := rank2_lt hg hf0 hf1 hk.1 hk.2 (by rw [h]; exact hx.1.1)
    rw [h] at a1
    have a2 := rank2_lt hg hf0 hf1 hx.1.1 hx.1.2 (by rw [← e]; exact hk.1)
    rw [← e] at a2
    omega
theorem kids_ok {p : List Int} (hg : goodU p = true) {f : Int} (hf0 : 0 ≤ f) (hf1 : f < p.length) {x : HopD} (hx : OkHop p f x) : ∀ y, y ∈ kidsD p x ↔ OkHop p f y ∧ y.From = x.To := fun y => by
  rw [kidsD_eq hg hf0 hf1 hx, List.mem_map]
  constructor
  · rintro ⟨k, hk, rfl⟩
    have h1 := List.mem_filter.1 hk
    exact ⟨⟨(mem_iota _ k).1 h1.1, (of_decide_eq_true h1.2).symm⟩, rfl⟩
  · rintro ⟨h1, h2⟩
    refine ⟨y.To, List.mem_filter.2 ⟨(mem_iota _ _).2 h1.1, decide_eq_true (by rw [← h1.2, h2])⟩, ?_⟩
    cases y with
    | mk a b => cases h2; rfl
theorem kids_rise (p : List Int) (x : HopD) : (kidsD p x).Pairwise fun y z => y.To < z.To := by
  unfold kidsD
  rw [List.pairwise_map]
  exact (iota_rise _).filter _
/-- What holds when so many have sent on. -/
structure SprOk (p : List Int) (f : Int) (k : Nat) (H : List HopD) : Prop where
  ok : ∀ x ∈ H, OkHop p f x ∧ 0 ≤ x.From
  nd : H.Pairwise fun x y => ¬ x.To = y.To
  from_ : ∀ t (ht : t < H.length), H[t].From = f ∨ ∃ j, ∃ hj : j < H.length, j < t ∧ j < k ∧ H[j].To = H[t].From
  root : ∀ y, OkHop p f y → y.From = f → ∃ t, ∃ ht : t < H.length, H[t].To = y.To
  all : ∀ j (hj : j < H.length), j < k → ∀ y, OkHop p f y → y.From = H[j].To → ∃ t, ∃ ht : t < H.length, H[t].To = y.To
theorem OkHop.ne {p : List Int} {f : Int} {x : HopD} (h : OkHop p f x) (h0 : 0 ≤ x.From) : x.To ≠ f := fun e => by
  have := h.2
  rw [e, par2_self] at this
  omega
theorem sprd_ok {p : List Int} (hg : goodU p = true) {f : Int} (hf0 : 0 ≤ f) (hf1 : f < p.length) : ∀ k, SprOk p f k (sprd p f k)
  | 0 => by
    have hs : OkHop p f ⟨-1, f⟩ := ⟨⟨hf0, hf1⟩, (par2_self p f).symm⟩
    have hm := kids_ok hg hf0 hf1 hs
    refine ⟨fun x hx => ?_, (kids_rise p _).imp fun h => by omega, fun t ht => .inl ?_, fun y hy he => ?_, fun j hj h => by omega⟩
    · have := (hm x).1 hx
      exact ⟨this.1, by rw [this.2]; exact hf0⟩
    · exact ((hm _).1 (List.getElem_mem ht)).2
    · obtain ⟨t, ht, e⟩ := List.getElem_of_mem ((hm y).2 ⟨hy, he⟩)
      exact ⟨t, ht, by rw [show (sprd p f 0)[t]'ht = y from e]⟩
  | k + 1 => by
    have ih := sprd_ok hg hf0 hf1 k
    by_cases h : k < (sprd p f k).length
    · rw [sprd_next p f k h]
      generalize sprd p f k = H at *
      have hx := ih.ok H[k] (List.getElem_mem h)
      have hm := kids_ok hg hf0 hf1 hx.1
      have hold : ∀ t (ht : t < H.length), ∃ ht' : t < (H ++ kidsD p H[k]).length, (H ++ kidsD p H[k])[t] = H[t] := fun t ht => ⟨by rw [List.length_append]; omega, by rw [List.getElem_append_left ht]⟩
      refine ⟨fun x hx' => ?_, ?_, fun t ht => ?_, fun y hy he => ?_, fun j hj hjk y hy he => ?_⟩
      · rcases List.mem_append.1 hx' with q | q
        · exact ih.ok x q
        · have := (hm x).1 q
          exact ⟨this.1, by rw [this.2]; exact hx.1.1.1⟩
      · refine List.pairwise_append.2 ⟨ih.nd, (kids_rise p _).imp fun h => by omega, fun y hy z hz e => ?_⟩
        have hz' := (hm z).1 hz
        have hy' := ih.ok y hy
        obtain ⟨t, ht, rfl⟩ := List.getElem_of_mem hy
        have ef : (H[t]).From = (H[k]).To := by rw [hy'.1.2, e, ← hz'.1.2, hz'.2]
        rcases ih.from_ t ht with q | ⟨j, hj, h1, h2, q⟩
        · exact hx.1.ne hx.2 (by rw [← ef, q])
        · have := List.pairwise_iff_getElem.1 ih.nd j k hj h h2
          exact this (by rw [q, ef])
      · by_cases h1 : t < H.length
        · rw [List.getElem_append_left h1]
          rcases ih.from_ t h1 with q | ⟨j, hj, h3, h4, q⟩
          · exact .inl q
          · obtain ⟨hj', e⟩ := hold j hj
            exact .inr ⟨j, hj', h3, by omega, by rw [e]; exact q⟩
        · right
          obtain ⟨hk', e⟩ := hold k h
          refine ⟨k, hk', by omega, by omega, ?_⟩
          rw [e, List.getElem_append_right (by omega)]
          exact ((hm _).1 (List.getElem_mem _)).2.symm
      · obtain ⟨t, ht, e⟩ := ih.root y hy he
        obtain ⟨ht', e'⟩ := hold t ht
        exact ⟨t, ht', by rw [e']; exact e⟩
      · by_cases h1 : j < H.length
        · rw [(hold j h1).2] at he
          by_cases e : j = k
          · subst e
            obtain ⟨t, ht, q⟩ := List.getElem_of_mem ((hm y).2 ⟨hy, he⟩)
            exact ⟨H.length + t, by rw [List.length_append]; omega, by rw [List.getElem_append_right (by omega)]; simp [q]⟩
          · obtain ⟨t, ht, q⟩ := ih.all j h1 (by omega) y hy he
            obtain ⟨ht', e'⟩ := hold t ht
            exact ⟨t, ht', by rw [e']; exact q⟩
        · omega
    · rw [sprd_stop p f k h]
      exact ⟨ih.ok, ih.nd, fun t ht => (ih.from_ t ht).imp id fun ⟨j, hj, h1, h2, q⟩ => ⟨j, hj, h1, by omega, q⟩, ih.root, fun j hj hjk y hy he => ih.all j hj (by omega) y hy he⟩
theorem SprOk.len {p : List Int} {f : Int} (hf0 : 0 ≤ f) (hf1 : f < p.length) {k : Nat} {H : List HopD} (h : SprOk p f k H) : H.length + 1 ≤ p.length := by
  have := nodup_len (f :: H.map HopD.To) (iota p.length) (by
    refine List.pairwise_cons.2 ⟨fun y hy => ?_, ?_⟩
    · obtain ⟨x, hx, rfl⟩ := List.mem_map.1 hy
      exact fun e => (h.ok x hx).1.ne (h.ok x hx).2 e.symm
    · rw [List.pairwise_map]; exact h.nd) (fun y hy => by
    rcases List.mem_cons.1 hy with rfl | hy
    · exact (mem_iota _ _).2 ⟨hf0, hf1⟩
    · obtain ⟨x, hx, rfl⟩ := List.mem_map.1 hy
      exact (mem_iota _ _).2 (h.ok x hx).1.1)
  rw [List.length_cons, List.length_map, iota_len] at this
  exact this
theorem sprd_len {p : List Int} (hg : goodU p = true) {f : Int} (hf0 : 0 ≤ f) (hf1 : f < p.length) (k : Nat) : (sprd p f k).length + 1 ≤ p.length := (sprd_ok hg hf0 hf1 k).len hf0 hf1
theorem sprd_on (p : List Int) (f : Int) (k : Nat) (h : ¬ k < (sprd p f k).length) : ∀ d, sprd p f (k + d) = sprd p f k
  | 0 => rfl
  | d + 1 => by
    have := sprd_on p f k h d
    rw [← Nat.add_assoc, sprd_stop p f (k + d) (by rw [this]; omega), this]
/-- Once all have sent on nothing more goes. -/
theorem sprd_all {p : List Int} (hg : goodU p = true) {f : Int} (hf0 : 0 ≤ f) (hf1 : f < p.length) (k : Nat) (h : ¬ k < (sprd p f k).length) : sprd p f k = spreadD p f := by
  unfold spreadD
  rcases Nat.lt_or_ge k p.length with q | q
  · have := sprd_on p f k h (p.length - k)
    rw [show k + (p.length - k) = p.length by omega] at this
    exact this.symm
  · have h1 := sprd_len hg hf0 hf1 p.length
    have := sprd_on p f p.length (by omega) (k - p.length)
    rw [show p.length + (k - p.length) = k by omega] at this
    exact this
theorem spreadD_ok {p : List Int} (hg : goodU p = true) {f : Int} (hf0 : 0 ≤ f) (hf1 : f < p.length) : SprOk p f p.length (spreadD p f) := sprd_ok hg hf0 hf1 _
/-- A way over the steps of q that ends at b. -/
def IsQ (q : Int → Int) (b : Int) : List Int → Prop
  | [] => False
  | [x] => x = b
  | x :: y :: r => q x = y ∧ 0 ≤ y ∧ IsQ q b (y :: r)
theorem isQ_uniq {q : Int → Int} {b : Int} (hb : q b < 0) : ∀ (r s : List Int) (x : Int), IsQ q b (x :: r) → IsQ q b (x :: s) → r = s
  | [], [], _, _, _ => rfl
  | [], y :: s, x, h1, h2 => by
    have e : x = b := h1
    have := h2.1; have := h2.2.1
    rw [e] at h2; have := h2.1; omega
  | y :: r, [], x, h1, h2 => by
    have e : x = b := h2
    have := h1.2.1
    rw [e] at h1; have := h1.1; omega
  | y :: r, z :: s, x, h1, h2 => by
    have e : y = z := h1.1.symm.trans h2.1
    subst e
    rw [isQ_uniq hb r s y h1.2.2 h2.2.2]
theorem isQ_last {q : Int → Int} {b : Int} : ∀ (r : List Int) (x : Int), IsQ q b (x :: r) → (x :: r).getLast? = some b
  | [], x, h => by rw [show x = b from h]; rfl
  | y :: r, x, h => by rw [List.getLast?_cons_cons]; exact isQ_last r y h.2.2
theorem isQ_snoc {q : Int → Int} {c b : Int} (hc : q c = b) (h0 : 0 ≤ b) : ∀ (r : List Int) (x : Int), IsQ q c (x :: r) → IsQ q b (x :: r ++ [b])
  | [], x, h => by rw [show x = c from h]; exact ⟨hc, h0, rfl⟩
  | y :: r, x, h => ⟨h.1, h.2.1, isQ_snoc hc h0 r y h.2.2⟩
/-- From a on, back from hop to hop. -/
def backD : List HopD → List Int → List Int
  | [], w => w
  | x :: H, w => backD H (if w.getLastD 0 = x.To then w ++ [x.From] else w)
def wayB (p : List Int) (a b : Int) : List Int := backD (spreadD p b).reverse [a]
/-- Whether a frame of b comes to a. -/
def InT (p : List Int) (b a : Int) : Prop := a = b ∨ ∃ x ∈ spreadD p b, x.To = a
theorem back_app : ∀ (G H : List HopD) (w : List Int), backD (G ++ H) w = backD H (backD G w)
  | [], _, _ => rfl
  | _ :: G, H, _ => back_app G H _
/-- What is so far behind the last hops. -/
theorem back_inv {p : List Int} {b : Int} {H : List HopD} (ho : SprOk p b p.length H) (hlen : H.length ≤ p.length) (a : Int) : ∀ m, m ≤ H.length →
    ∃ (r : List Int) (c : Int), backD (H.drop (H.length - m)).reverse [a] = a :: r ∧ IsQ (par2 p b) c (a :: r) ∧ (r = [] ∨ c = b ∨ ∃ t, ∃ ht : t < H.length, H[t].To = c) ∧ ∀ t (ht : t < H.length), H[t].To = c → t < H.length - m
  | 0, _ => ⟨[], a, by simp [backD], rfl, .inl rfl, fun t ht _ => by omega⟩
  | m + 1, hm => by
    obtain ⟨r, c, h1, h2, h3, h4⟩ := back_inv ho hlen a m (by omega)
    have hlt : H.length - (m + 1) < H.length := by omega
    have e1 : H.drop (H.length - (m + 1)) = H[H.length - (m + 1)] :: H.drop (H.length - m) := by
      rw [List.drop_eq_getElem_cons hlt]; congr 2; omega
    rw [e1, List.reverse_cons, back_app, h1]
    have hl : (a :: r).getLastD 0 = c := by
      have := isQ_last r a h2
      rw [List.getLastD_eq_getLast?, this]; rfl
    rw [backD, backD, hl]
    generalize hk : H.length - (m + 1) = k at *
    have hx := ho.ok H[k] (List.getElem_mem hlt)
    by_cases e : c = H[k].To
    · rw [if_pos e]
      refine ⟨r ++ [H[k].From], H[k].From, by rw [List.cons_append], ?_, ?_, fun t ht q => ?_⟩
      · exact isQ_snoc (by rw [e, ← hx.1.2]) hx.2 r a h2
      · right
        rcases ho.from_ k hlt with q | ⟨j, hj, -, -, q⟩
        · exact .inl q
        · exact .inr ⟨j, hj, q⟩
      · rcases ho.from_ k hlt with q2 | ⟨j, hj, h5, -, q2⟩
        · exact absurd (q.trans q2) ((ho.ok H[t] (List.getElem_mem ht)).1.ne (ho.ok H[t] (List.getElem_mem ht)).2)
        · rcases Nat.lt_trichotomy t j with q3 | q3 | q3
          · omega
          · omega
          · exact absurd (q2.trans q.symm) (List.pairwise_iff_getElem.1 ho.nd j t hj ht q3)
    · rw [if_neg e]
      refine ⟨r, c, rfl, h2, h3, fun t ht q => ?_⟩
      have := h4 t ht q
      by_cases e2 : t = k
      · subst e2; exact absurd q.symm e
      · omega
theorem wayB_is {p : List Int} (hg : goodU p = true) {a b : Int} (ha0 : 0 ≤ a) (ha1 : a < p.length) (hb0 : 0 ≤ b) (hb1 : b < p.length) : (InT p b a → ∃ r, wayB p a b = a :: r ∧ IsQ (par2 p b) b (a :: r)) ∧ (¬ InT p b a → wayB p a b = [a]) := by
  have ho := spreadD_ok hg hb0 hb1
  have hlen := ho.len hb0 hb1
  obtain ⟨r, c, h1, h2, h3, h4⟩ := back_inv ho (by omega) a (spreadD p b).length (Nat.le_refl _)
  rw [Nat.sub_self, List.drop_zero] at h1
  have hc : ∀ t (ht : t < (spreadD p b).length), (spreadD p b)[t].To ≠ c := fun t ht q => by have := h4 t ht q; omega
  have hr : r = [] ∨ c = b := by
    rcases h3 with h | h | ⟨t, ht, q⟩
    · exact .inl h
    · exact .inr h
    · exact absurd q (hc t ht)
  constructor
  · intro hin
    refine ⟨r, h1, ?_⟩
    rcases hr with rfl | rfl
    · have e : a = c := h2
      rcases hin with q | ⟨x, hx, q⟩
      · exact q
      · obtain ⟨t, ht, rfl⟩ := List.getElem_of_mem hx
        exact absurd (q.trans e) (hc t ht)
    · exact h2
  · intro hin
    rcases hr with rfl | rfl
    · exact h1
    · exfalso
      refine hin ?_
      cases r with
      | nil => exact .inl h2
      | cons y r =>
        have : ∀ (r : List Int) (x : Int), 0 ≤ x → x < p.length → IsQ (par2 p c) c (x :: r) → InT p c x := fun r => by
          induction r with
          | nil => intro x _ _ h; exact .inl h
          | cons z r ih =>
            intro x h0 hx h
            have hz := (par2_fit hg hb0 hb1 h0 hx).2
            rw [h.1] at hz
            have hy : OkHop p c ⟨z, x⟩ := ⟨⟨h0, hx⟩, h.1.symm⟩
            rcases ih z h.2.1 hz h.2.2 with rfl | ⟨y, hy', e⟩
            · obtain ⟨t, ht, q⟩ := ho.root _ hy rfl
              exact .inr ⟨_, List.getElem_mem ht, q⟩
            · obtain ⟨j, hj, rfl⟩ := List.getElem_of_mem hy'
              obtain ⟨t, ht, q⟩ := ho.all j hj (by omega) _ hy e.symm
              exact .inr ⟨_, List.getElem_mem ht, q⟩
        exact this (y :: r) a ha0 ha1 h2
theorem isQ_inT {p : List Int} (hg : goodU p = true) {b : Int} (hb0 : 0 ≤ b) (hb1 : b < p.length) : ∀ (r : List Int) (x : Int), 0 ≤ x → x < p.length → IsQ (par2 p b) b (x :: r) → InT p b x
  | [], x, _, _, h => .inl h
  | z :: r, x, h0, hx, h => by
    have ho := spreadD_ok hg hb0 hb1
    have hlen := ho.len hb0 hb1
    have hz := (par2_fit hg hb0 hb1 h0 hx).2
    rw [h.1] at hz
    have hy : OkHop p b ⟨z, x⟩ := ⟨⟨h0, hx⟩, h.1.symm⟩
    rcases isQ_inT hg hb0 hb1 r z h.2.1 hz h.2.2 with rfl | ⟨y, hy', e⟩
    · obtain ⟨t, ht, q⟩ := ho.root _ hy rfl
      exact .inr ⟨_, List.getElem_mem ht, q⟩
    · obtain ⟨j, hj, rfl⟩ := List.getElem_of_mem hy'
      obtain ⟨t, ht, q⟩ := ho.all j hj (by omega) _ hy e.symm
      exact .inr ⟨_, List.getElem_mem ht, q⟩
/-- So many spots up, and down to where one began. -/
def upL (p : List Int) : Nat → Int → List Int
  | 0, _ => []
  | m + 1, x => x :: upL p m (parU p x)
def downL (p : List Int) (b : Int) : Nat → List Int
  | 0 => []
  | k + 1 => upU p k b :: downL p b k
theorem upL_len (p : List Int) : ∀ m x, (upL p m x).length = m
  | 0, _ => rfl
  | m + 1, x => by rw [upL, List.length_cons, upL_len p m]
theorem downL_len (p : List Int) (b : Int) : ∀ k, (downL p b k).length = k
  | 0 => rfl
  | k + 1 => by rw [downL, List.length_cons, downL_len p b k]
theorem upL_get (p : List Int) : ∀ (m : Nat) (x : Int) (j : Nat) (h : j < (upL p m x).length), (upL p m x)[j] = upU p j x
  | 0, _, j, h => by simp [upL] at h
  | m + 1, x, 0, _ => rfl
  | m + 1, x, j + 1, h => by
    simp only [upL, List.getElem_cons_succ]
    rw [upL_get p m (parU p x) j]
    rfl
theorem upL_succ (p : List Int) : ∀ (m : Nat) (x : Int), upL p (m + 1) x = upL p m x ++ [upU p m x]
  | 0, _ => rfl
  | m + 1, x => by rw [upL, upL_succ p m (parU p x)]; rfl
theorem upL_take (p : List Int) : ∀ (m k : Nat) (x : Int), k ≤ m → (upL p m x).take k = upL p k x
  | _, 0, _, _ => rfl
  | 0, k + 1, _, h => by omega
  | m + 1, k + 1, x, h => by rw [upL, upL, List.take_succ_cons, upL_take p m k _ (by omega)]
def meetU (p : List Int) (a b : Int) : Option Nat := (List.range (dep p a)).find? fun i => onU p b (upU p i a)
def onOut (p : List Int) (a b : Int) : List Int := match meetU p a b with
  | none => []
  | some i => upL p (i + 1) a ++ downL p b (dep p b - dep p (upU p i a))
def onTOk (p : List Int) (a b : Int) : Bool := (meetU p a b).isSome
theorem isQ_down {p : List Int} (hg : goodU p = true) {b : Int} (hb0 : 0 ≤ b) (hb1 : b < p.length) : ∀ k, 0 ≤ upU p k b → IsQ (par2 p b) b (upU p k b :: downL p b k)
  | 0, _ => rfl
  | k + 1, h => by
    have hk : 0 ≤ upU p k b := upU_down p (Nat.le_succ k) h
    have hd := dep_up hg (k + 1) hb0 hb1 h
    refine ⟨?_, hk, isQ_down hg hb0 hb1 k hk⟩
    rw [par2, if_pos (onU_up hg (k + 1) hb0 hb1 h), if_neg (fun e => by rw [e] at hd; omega)]
    rw [show dep p b - dep p (upU p (k + 1) b) - 1 = k by omega]
theorem isQ_up {p : List Int} {b : Int} (s : List Int) : ∀ (i : Nat) (a : Int), 0 ≤ a → (∀ j, j < i → onU p b (upU p j a) = false) → (∀ j, j ≤ i → 0 ≤ upU p j a) → IsQ (par2 p b) b (upU p i a :: s) → IsQ (par2 p b) b (upL p (i + 1) a ++ s)
  | 0, a, _, _, _, h => h
  | i + 1, a, h0, hno, hpos, h => by
    have h1 : 0 ≤ parU p a := hpos 1 (by omega)
    have := isQ_up s i (parU p a) h1 (fun j hj => hno (j + 1) (by omega)) (fun j hj => hpos (j + 1) (by omega)) h
    rw [upL, List.cons_append]
    rw [upL, List.cons_append] at this ⊢
    refine ⟨?_, h1, this⟩
    rw [par2_off (show onU p b a = false from hno 0 (by omega)), parU_pos p h0]
theorem find_some_first {α : Type} (f : α → Bool) : ∀ (l : List α) (x : α), l.find? f = some x → ∃ k, ∃ hk : k < l.length, l[k] = x ∧ f x = true ∧ ∀ j (hj : j < k), f (l[j]'(by omega)) = false
  | [], x, h => by simp at h
  | y :: l, x, h => by
    rw [List.find?_cons] at h
    cases hy : f y with
    | true => rw [hy] at h; cases h; exact ⟨0, by simp, rfl, hy, fun j hj => by omega⟩
    | false =>
      rw [hy] at h
      obtain ⟨k, hk, h1, h2, h3⟩ := find_some_first f l x h
      refine ⟨k + 1, by simp; omega, by simpa using h1, h2, fun j hj => ?_⟩
      cases j with
      | zero => exact hy
      | succ j => exact h3 j (by omega)
theorem meet_some {p : List Int} {a b : Int} {i : Nat} (h : meetU p a b = some i) : i < dep p a ∧ onU p b (upU p i a) = true ∧ ∀ j, j < i → onU p b (upU p j a) = false := by
  obtain ⟨k, hk, h1, h2, h3⟩ := find_some_first _ _ _ h
  rw [List.getElem_range] at h1
  subst h1
  rw [List.length_range] at hk
  exact ⟨hk, h2, fun j hj => by have := h3 j hj; rwa [List.getElem_range] at this⟩
theorem onOut_is {p : List Int} (hg : goodU p = true) {a b : Int} (ha0 : 0 ≤ a) (ha1 : a < p.length) (hb0 : 0 ≤ b) (hb1 : b < p.length) (h : onTOk p a b = true) : IsQ (par2 p b) b (onOut p a b) ∧ ∃ r, onOut p a b = a :: r := by
  unfold onTOk at h
  unfold onOut
  cases hm : meetU p a b with
  | none => rw [hm] at h; cases h
  | some i =>
    obtain ⟨h1, h2, h3⟩ := meet_some hm
    have hx := up_pos hg i ha0 ha1 h1
    obtain ⟨c1, c2⟩ := (onU_iff p b _).1 h2
    have hd := isQ_down hg hb0 hb1 (dep p b - dep p (upU p i a)) (by rw [c2]; exact hx)
    rw [c2] at hd
    exact ⟨isQ_up _ i a ha0 h3 (fun j hj => upU_down p (Nat.le_trans hj (Nat.le_refl i)) hx) hd, _, rfl⟩
theorem isQ_meet {p : List Int} {b : Int} : ∀ (r : List Int) (x : Int), 0 ≤ x → IsQ (par2 p b) b (x :: r) → ∃ j, 0 ≤ upU p j x ∧ onU p b (upU p j x) = true
  | [], x, h0, h => by rw [show x = b from h] at h0 ⊢; exact ⟨0, h0, onU_self p b⟩
  | y :: r, x, h0, h => by
    cases ho : onU p b x with
    | true => exact ⟨0, h0, ho⟩
    | false =>
      obtain ⟨j, h1, h2⟩ := isQ_meet r y h.2.1 h.2.2
      refine ⟨j + 1, ?_⟩
      rw [upU, parU_pos p h0, ← par2_off ho, h.1]
      exact ⟨h1, h2⟩
theorem meet_inT {p : List Int} (hg : goodU p = true) {a b : Int} (ha0 : 0 ≤ a) (ha1 : a < p.length) (hb0 : 0 ≤ b) (hb1 : b < p.length) : onTOk p a b = true ↔ InT p b a := by
  constructor
  · intro h
    obtain ⟨h1, r, hr⟩ := onOut_is hg ha0 ha1 hb0 hb1 h
    rw [hr] at h1
    exact isQ_inT hg hb0 hb1 r a ha0 ha1 h1
  · intro h
    obtain ⟨r, -, h2⟩ := (wayB_is hg ha0 ha1 hb0 hb1).1 h
    obtain ⟨j, h3, h4⟩ := isQ_meet r a ha0 h2
    have h5 := up_lt_dep hg j ha0 ha1 h3
    unfold onTOk
    cases hm : meetU p a b with
    | some i => rfl
    | none =>
      have := List.find?_eq_none.1 hm j (List.mem_range.2 h5)
      exact absurd h4 this
/-- Back from hop to hop one comes as the parents lead. -/
theorem wayB_eq {p : List Int} (hg : goodU p = true) {a b : Int} (ha0 : 0 ≤ a) (ha1 : a < p.length) (hb0 : 0 ≤ b) (hb1 : b < p.length) : wayB p a b = if onTOk p a b then onOut p a b else [a] := by
  have hw := wayB_is hg ha0 ha1 hb0 hb1
  cases h : onTOk p a b with
  | true =>
    obtain ⟨r, h1, h2⟩ := hw.1 ((meet_inT hg ha0 ha1 hb0 hb1).1 h)
    obtain ⟨h3, s, h4⟩ := onOut_is hg ha0 ha1 hb0 hb1 h
    rw [h4] at h3
    rw [if_pos rfl, h1, h4, isQ_uniq (by rw [par2_self]; omega) r s a h2 h3]
  | false =>
    rw [if_neg (by simp)]
    exact hw.2 fun q => by have := (meet_inT hg ha0 ha1 hb0 hb1).2 q; rw [h] at this; cases this
theorem onOut_last {p : List Int} (hg : goodU p = true) {a b : Int} (ha0 : 0 ≤ a) (ha1 : a < p.length) (hb0 : 0 ≤ b) (hb1 : b < p.length) (h : onTOk p a b = true) : (onOut p a b).getLast? = some b := by
  obtain ⟨h1, r, hr⟩ := onOut_is hg ha0 ha1 hb0 hb1 h
  rw [hr] at h1 ⊢
  exact isQ_last r a h1
theorem onOut_len (p : List Int) (a b : Int) : (onOut p a b).length ≤ 2 * p.length := by
  unfold onOut
  cases h : meetU p a b with
  | none => simp
  | some i =>
    have h1 := (meet_some h).1
    have := dep_le (p := p) a
    have := dep_le (p := p) b
    simp only [List.length_append, upL_len, downL_len]
    omega
theorem not_on_self {p : List Int} {a b : Int} (hg : goodU p = true) (ha0 : 0 ≤ a) (ha1 : a < p.length) (hb0 : 0 ≤ b) (hb1 : b < p.length) (h : onTOk p a b = false) : a ≠ b := fun e => by
  have := (meet_inT hg ha0 ha1 hb0 hb1).2 (.inl e)
  rw [h] at this; cases this
/-- The groups that steps join, one after another, as long as each one joins two. -/
def jnP (n : Nat) : List Int → List (Int × Int) → Option (List Int)
  | g, [] => some g
  | g, (a, b) :: r => if 0 ≤ b ∧ b < n then (if lab g a = lab g b then none else jnP n (joinG g a b) r) else none
theorem jnP_snoc (n : Nat) : ∀ (r : List (Int × Int)) (g : List Int) (a b : Int), jnP n g (r ++ [(a, b)]) = (jnP n g r).bind fun g => if 0 ≤ b ∧ b < n then (if lab g a = lab g b then none else some (joinG g a b)) else none
  | [], g, a, b => by simp [jnP]
  | (x, y) :: r, g, a, b => by
    rw [List.cons_append, jnP, jnP]
    split
    · split
      · rfl
      · exact jnP_snoc n r _ a b
    · rfl
theorem jnP_pre (n : Nat) {r s : List (Int × Int)} (h : r <+: s) {g : List Int} (hn : jnP n g r = none) : jnP n g s = none := by
  obtain ⟨t, rfl⟩ := h
  induction r generalizing g with
  | nil => simp [jnP] at hn
  | cons x r ih =>
    obtain ⟨a, b⟩ := x
    rw [List.cons_append, jnP]
    rw [jnP] at hn
    split
    · next h1 =>
      rw [if_pos h1] at hn
      split
      · rfl
      · next h2 => rw [if_neg h2] at hn; exact ih hn
    · rfl
/-- The steps of so many spots to their parents. -/
def stepsU (p : List Int) (k : Nat) : List (Int × Int) := ((iota k).filter fun i => !decide (lab p i = -1)).map fun i => (i, lab p i)
theorem iota_succ' (n : Nat) : iota (n + 1) = iota n ++ [(n : Int)] := by simp [iota, List.range_succ]
theorem stepsU_succ (p : List Int) (k : Nat) : stepsU p (k + 1) = stepsU p k ++ if lab p k = -1 then [] else [((k : Int), lab p k)] := by
  unfold stepsU
  rw [iota_succ', List.filter_append, List.map_append]
  congr 1
  by_cases e : lab p k = -1
  · simp [e]
  · simp [e]
theorem stepsU_pre (p : List Int) {k m : Nat} (h : k ≤ m) : stepsU p k <+: stepsU p m := by
  obtain ⟨d, rfl⟩ : ∃ d, m = k + d := ⟨m - k, by omega⟩
  clear h
  induction d with
  | zero => exact List.prefix_refl _
  | succ d ih => rw [← Nat.add_assoc, stepsU_succ]; exact ih.trans (List.prefix_append _ _)
theorem joinG_same {g : List Int} {a b i j : Int} (hi : 0 ≤ i ∧ i < g.length) (hj : 0 ≤ j ∧ j < g.length) :
    lab (joinG g a b) i = lab (joinG g a b) j ↔ lab g i = lab g j ∨ (lab g i = lab g a ∨ lab g i = lab g b) ∧ (lab g j = lab g a ∨ lab g j = lab g b) := by
  unfold joinG relab
  rw [lab_map _ _ _ hi.1 hi.2, lab_map _ _ _ hj.1 hj.2]
  generalize lab g i = x; generalize lab g j = y; generalize lab g a = u; generalize lab g b = v
  split <;> split <;> omega
/-- The groups are the trees that so many spots' parents make. -/
def UniOk (p : List Int) (s : Nat) (g : List Int) : Prop := g.length = p.length ∧ ∃ (R : Int → Int) (d : Int → Nat),
  (∀ i : Int, 0 ≤ i → i < p.length → (0 ≤ R i ∧ R i < p.length) ∧ (s ≤ R i ∨ lab p (R i) = -1)) ∧
  (∀ i : Int, 0 ≤ i → i < p.length → (s ≤ i ∨ lab p i = -1) → R i = i) ∧
  (∀ i : Int, 0 ≤ i → i < p.length → i < s → lab p i ≠ -1 → (0 ≤ lab p i ∧ lab p i < p.length) ∧ R i = R (lab p i) ∧ d (lab p i) < d i) ∧
  (∀ i j : Int, 0 ≤ i → i < p.length → 0 ≤ j → j < p.length → (lab g i = lab g j ↔ R i = R j))
theorem uni_zero (p : List Int) : UniOk p 0 (iota p.length) := by
  refine ⟨iota_len _, id, fun _ => 0, fun i h0 h1 => ⟨⟨h0, h1⟩, .inl h0⟩, fun i _ _ _ => rfl, fun i h0 _ h _ => ?_, fun i j h0 h1 h2 h3 => ?_⟩
  · have : i < 0 := h
    omega
  · rw [lab_iota _ _ h0 h1, lab_iota _ _ h2 h3]; rfl
theorem uni_skip {p : List Int} {s : Nat} {g : List Int} (h : UniOk p s g) (hp : lab p s = -1) : UniOk p (s + 1) g := by
  obtain ⟨hl, R, d, h1, h2, h3, h4⟩ := h
  refine ⟨hl, R, d, fun i a b => ⟨(h1 i a b).1, ?_⟩, fun i a b c => h2 i a b ?_, fun i a b c e => h3 i a b ?_ e, h4⟩
  · rcases (h1 i a b).2 with q | q
    · by_cases e : R i = s
      · right; rw [e]; exact hp
      · left; omega
    · exact .inr q
  · rcases c with c | c
    · left; omega
    · exact .inr c
  · by_cases q : i = s
    · rw [q] at e; exact absurd hp e
    · omega
theorem uni_join {p : List Int} {s : Nat} {g : List Int} (h : UniOk p s g) (hs : s < p.length) (hp : 0 ≤ lab p s ∧ lab p s < p.length) (hne : lab g s ≠ lab g (lab p s)) : UniOk p (s + 1) (joinG g s (lab p s)) := by
  obtain ⟨hl, R, d, h1, h2, h3, h4⟩ := h
  have hs' : (0 : Int) ≤ s ∧ (s : Int) < p.length := by omega
  have eR : R s = s := h2 s hs'.1 hs'.2 (.inl (by omega))
  have hq : R (lab p s) ≠ s := fun e => hne ((h4 s _ hs'.1 hs'.2 hp.1 hp.2).2 (by rw [eR, e]))
  refine ⟨by unfold joinG; rw [relab_len]; exact hl, fun i => if R i = s then R (lab p s) else R i, fun i => if R i = s then d i + d (lab p s) + 1 else d i, fun i a b => ?_, fun i a b c => ?_, fun i a b c e => ?_, fun i j a b c e => ?_⟩
  · dsimp only
    split
    · refine ⟨(h1 _ hp.1 hp.2).1, ?_⟩
      rcases (h1 _ hp.1 hp.2).2 with q | q
      · left; omega
      · exact .inr q
    · next hn =>
      refine ⟨(h1 i a b).1, ?_⟩
      rcases (h1 i a b).2 with q | q
      · left; omega
      · exact .inr q
  · dsimp only
    have e : R i = i := h2 i a b (by rcases c with c | c; · left; omega
                                     · exact .inr c)
    rw [if_neg, e]
    rw [e]
    rcases c with c | c
    · omega
    · intro q; rw [q] at c; omega
  · dsimp only
    by_cases q : i = s
    · subst q
      rw [if_pos eR, if_neg hq, if_pos eR, if_neg hq]
      exact ⟨hp, rfl, by omega⟩
    · obtain ⟨c1, c2, c3⟩ := h3 i a b (by omega) e
      rw [← c2]
      split
      · exact ⟨c1, rfl, by omega⟩
      · exact ⟨c1, rfl, c3⟩
  · dsimp only
    rw [joinG_same (by omega) (by omega)]
    have k1 := h4 i j a b c e
    have k2 := h4 i s a b hs'.1 hs'.2
    have k3 := h4 i _ a b hp.1 hp.2
    have k4 := h4 j s c e hs'.1 hs'.2
    have k5 := h4 j _ c e hp.1 hp.2
    rw [k1, k2, k3, k4, k5, eR]
    generalize R i = x; generalize R j = y
    generalize R (lab p s) = z at *
    split <;> split <;> omega
theorem uni_fail {p : List Int} {s : Nat} {g : List Int} (h : UniOk p s g) (hs : s < p.length) (hp : 0 ≤ lab p s ∧ lab p s < p.length) (he : lab g s = lab g (lab p s)) : goodU p = false := by
  cases hg : goodU p with
  | false => rfl
  | true =>
    exfalso
    obtain ⟨hl, R, d, h1, h2, h3, h4⟩ := h
    have hs' : (0 : Int) ≤ s ∧ (s : Int) < p.length := by omega
    have eR : R s = s := h2 s hs'.1 hs'.2 (.inl (by omega))
    have eq : R (lab p s) = s := by rw [← (h4 s _ hs'.1 hs'.2 hp.1 hp.2).1 he, eR]
    have key : ∀ m (i : Int), 0 ≤ i → i < p.length → dep p i ≤ m → R i = s → dep p s ≤ dep p i := fun m => by
      induction m with
      | zero => intro i a b c e; have := dep_pos hg a b; omega
      | succ m ih =>
        intro i a b c e
        by_cases q : s ≤ i ∨ lab p i = -1
        · have := h2 i a b q
          rw [this] at e; rw [e]; exact Nat.le_refl _
        · obtain ⟨c1, c2, c3⟩ := h3 i a b (by omega) (by omega)
          have := dep_par hg a b
          have := ih (lab p i) c1.1 c1.2 (by omega) (by rw [← c2, e])
          omega
    have := key _ _ hp.1 hp.2 (Nat.le_refl _) eq
    have := dep_par hg hs'.1 hs'.2
    omega
theorem jn_uni {p : List Int} : ∀ k, k ≤ p.length → (∃ g, jnP p.length (iota p.length) (stepsU p k) = some g ∧ UniOk p k g ∧ ∀ i : Int, 0 ≤ i → i < k → -1 ≤ lab p i ∧ lab p i < p.length) ∨ jnP p.length (iota p.length) (stepsU p k) = none ∧ goodU p = false
  | 0, _ => .inl ⟨_, rfl, uni_zero p, fun i h0 h => by have : i < 0 := h; omega⟩
  | k + 1, hk => by
    rcases jn_uni (p := p) k (by omega) with ⟨g, h1, h2, h3⟩ | ⟨h1, h2⟩
    · rw [stepsU_succ]
      by_cases e : lab p k = -1
      · rw [if_pos e, List.append_nil]
        exact .inl ⟨g, h1, uni_skip h2 e, fun i h0 hi => by
          by_cases q : i = k
          · rw [q, e]; omega
          · exact h3 i h0 (by omega)⟩
      · rw [if_neg e, jnP_snoc, h1]
        dsimp only [Option.bind]
        by_cases hr : 0 ≤ lab p k ∧ lab p k < p.length
        · rw [if_pos hr]
          by_cases hs : lab g k = lab g (lab p k)
          · rw [if_pos hs]
            exact .inr ⟨rfl, uni_fail h2 (by omega) hr hs⟩
          · rw [if_neg hs]
            exact .inl ⟨_, rfl, uni_join h2 (by omega) hr hs, fun i h0 hi => by
              by_cases q : i = k
              · rw [q]; omega
              · exact h3 i h0 (by omega)⟩
        · rw [if_neg hr]
          refine .inr ⟨rfl, ?_⟩
          cases hg : goodU p with
          | false => rfl
          | true =>
            have := ((goodU_iff p).1 hg).2.1 k (by omega) (by omega)
            omega
    · exact .inr ⟨by rw [stepsU_succ]; exact jnP_pre _ (List.prefix_append _ _) h1, h2⟩
/-- Parents are good where each step joins two groups. -/
theorem goodU_jn (p : List Int) (hn : 1 ≤ p.length ∧ p.length ≤ 12) : goodU p = (jnP p.length (iota p.length) (stepsU p p.length)).isSome := by
  rcases jn_uni (p := p) p.length (Nat.le_refl _) with ⟨g, h1, ⟨hl, R, d, -, -, h3, -⟩, h4⟩ | ⟨h1, h2⟩
  · rw [h1]
    exact goodU_rank hn h4 d fun i h0 hi hp => (h3 i h0 hi hi (by omega)).2.2
  · rw [h1]; exact h2
end Go.Proofs.Ythlbmkefjjckaad
