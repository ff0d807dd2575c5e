/-
  Tellings as data: an edge for each two that tell of one another; how many there can be.
-/
import Derived.Test.YthlbmkefjjckaacGrJointT
import Derived.Test.YthlbmkefjjckaacGrGoodS
namespace Go.Proofs.Ythlbmkefjjckaac
set_option linter.unusedVariables false

/-- The edge of two, where both tell. -/
def bwOne (l : List TdD) (a b : Int) : List EdD := if 0 < lastTd l a b ∧ 0 < lastTd l b a then [⟨a, b, max (lastTd l a b) (lastTd l b a)⟩] else []
/-- Those of a with the spots behind it, below b. -/
def bwRow (l : List TdD) (a : Nat) : Nat → List EdD
  | 0 => []
  | b + 1 => bwRow l a b ++ if a < b then bwOne l (a : Int) (b : Int) else []
/-- Those of the first k spots. -/
def bwAll (l : List TdD) (n : Nat) : Nat → List EdD
  | 0 => []
  | k + 1 => bwAll l n k ++ bwRow l k n
theorem bwRow_next (l : List TdD) (a b : Nat) (h : a < b) : bwRow l a (b + 1) = bwRow l a b ++ bwOne l (a : Int) (b : Int) := by rw [bwRow, if_pos h]
theorem bwRow_start (l : List TdD) (a : Nat) : ∀ b, b ≤ a + 1 → bwRow l a b = []
  | 0, _ => rfl
  | b + 1, h => by rw [bwRow, bwRow_start l a b (by omega), if_neg (by omega)]; rfl
theorem bwOne_len (l : List TdD) (a b : Int) : (bwOne l a b).length ≤ 1 := by unfold bwOne; split <;> simp
theorem bwRow_len (l : List TdD) (a : Nat) : ∀ b, (bwRow l a b).length ≤ b
  | 0 => Nat.le_refl _
  | b + 1 => by
    have h1 := bwRow_len l a b
    have h2 := bwOne_len l (a : Int) (b : Int)
    rw [bwRow, List.length_append]
    split
    · omega
    · simp; omega
theorem bwAll_len (l : List TdD) (n : Nat) : ∀ k, (bwAll l n k).length ≤ k * n
  | 0 => by simp [bwAll]
  | k + 1 => by
    have h1 := bwAll_len l n k
    have h2 := bwRow_len l k n
    rw [bwAll, List.length_append, Nat.succ_mul]
    omega
theorem mem_bwOne (l : List TdD) (a b : Int) (e : EdD) : e ∈ bwOne l a b ↔ (0 < lastTd l a b ∧ 0 < lastTd l b a) ∧ e = ⟨a, b, max (lastTd l a b) (lastTd l b a)⟩ := by
  unfold bwOne
  split
  · next h => simp [h]
  · next h => simp [h]
theorem mem_bwRow (l : List TdD) (a : Nat) (e : EdD) : ∀ b, e ∈ bwRow l a b ↔ ∃ j : Nat, a < j ∧ j < b ∧ e ∈ bwOne l (a : Int) (j : Int)
  | 0 => by simp [bwRow]
  | b + 1 => by
    rw [bwRow, List.mem_append, mem_bwRow l a e b]
    constructor
    · rintro (⟨j, h1, h2, h3⟩ | h)
      · exact ⟨j, h1, by omega, h3⟩
      · split at h
        · exact ⟨b, by assumption, by omega, h⟩
        · cases h
    · rintro ⟨j, h1, h2, h3⟩
      by_cases e1 : j = b
      · subst e1
        rw [if_pos h1]
        exact .inr h3
      · exact .inl ⟨j, h1, by omega, h3⟩
theorem mem_bwAll (l : List TdD) (n : Nat) (e : EdD) : ∀ k, e ∈ bwAll l n k ↔ ∃ a : Nat, a < k ∧ e ∈ bwRow l a n
  | 0 => by simp [bwAll]
  | k + 1 => by
    rw [bwAll, List.mem_append, mem_bwAll l n e k]
    constructor
    · rintro (⟨a, h1, h2⟩ | h)
      · exact ⟨a, by omega, h2⟩
      · exact ⟨k, by omega, h⟩
    · rintro ⟨a, h1, h2⟩
      by_cases e1 : a = k
      · subst e1; exact .inr h2
      · exact .inl ⟨a, by omega, h2⟩
theorem bwRow_rise (l : List TdD) (a : Nat) : ∀ b, RiseEd (bwRow l a b)
  | 0 => List.Pairwise.nil
  | b + 1 => by
    unfold RiseEd
    rw [bwRow, List.pairwise_append]
    refine ⟨bwRow_rise l a b, ?_, fun x hx y hy => ?_⟩
    · split
      · unfold bwOne
        split
        · exact List.pairwise_singleton ..
        · exact List.Pairwise.nil
      · exact List.Pairwise.nil
    · obtain ⟨j, h1, h2, h3⟩ := (mem_bwRow l a x b).1 hx
      split at hy
      · obtain ⟨-, rfl⟩ := (mem_bwOne l _ _ x).1 h3
        obtain ⟨-, rfl⟩ := (mem_bwOne l _ _ y).1 hy
        refine .inr ⟨rfl, ?_⟩
        show (j : Int) < (b : Int)
        omega
      · cases hy
theorem bwAll_rise (l : List TdD) (n : Nat) : ∀ k, RiseEd (bwAll l n k)
  | 0 => List.Pairwise.nil
  | k + 1 => by
    unfold RiseEd
    rw [bwAll, List.pairwise_append]
    refine ⟨bwAll_rise l n k, bwRow_rise l k n, fun x hx y hy => ?_⟩
    obtain ⟨a, h1, h2⟩ := (mem_bwAll l n x k).1 hx
    obtain ⟨j, h3, h4, h5⟩ := (mem_bwRow l a x n).1 h2
    obtain ⟨j', h6, h7, h8⟩ := (mem_bwRow l k y n).1 hy
    obtain ⟨-, rfl⟩ := (mem_bwOne l _ _ x).1 h5
    obtain ⟨-, rfl⟩ := (mem_bwOne l _ _ y).1 h8
    refine .inl ?_
    show (a : Int) < (k : Int)
    omega

/-- What was told last, of tellings that are as said. -/
def FitTd (n : Int) (l : List TdD) : Prop := ∀ x ∈ l, (0 ≤ x.By ∧ x.By < n) ∧ (0 ≤ x.Near ∧ x.Near < n) ∧ ¬ x.By = x.Near ∧ 1 ≤ x.Cost ∧ x.Cost ≤ 100
theorem fitTd_of {n : Int} {l : List TdD} {m : Int} (h : goodJTd n l m = true) : (1 ≤ n ∧ n ≤ 12) ∧ (l.length : Int) ≤ m ∧ FitTd n l := by
  unfold goodJTd at h
  rw [Bool.and_eq_true, Bool.and_eq_true] at h
  refine ⟨of_decide_eq_true h.1.1, of_decide_eq_true h.1.2, fun x hx => ?_⟩
  have := List.all_eq_true.1 h.2 x hx
  unfold okJ at this
  simp at this
  omega
theorem lastTd_cases {n : Int} : ∀ (l : List TdD), FitTd n l → ∀ a b : Int, lastTd l a b = 0 ∨ (1 ≤ lastTd l a b ∧ lastTd l a b ≤ 100) ∧ ∃ x ∈ l, x.By = a ∧ x.Near = b := by
  have key : ∀ (l : List TdD), FitTd n l → ∀ (a b c : Int), l.foldl (fun c x => if x.By = a ∧ x.Near = b then x.Cost else c) c = c ∨ (1 ≤ l.foldl (fun c x => if x.By = a ∧ x.Near = b then x.Cost else c) c ∧ l.foldl (fun c x => if x.By = a ∧ x.Near = b then x.Cost else c) c ≤ 100) ∧ ∃ x ∈ l, x.By = a ∧ x.Near = b := by
    intro l
    induction l with
    | nil => intro _ a b c; exact .inl rfl
    | cons x r ih =>
      intro hf a b c
      have hx := hf x (List.mem_cons_self ..)
      have hr : FitTd n r := fun y hy => hf y (List.mem_cons_of_mem _ hy)
      rw [List.foldl_cons]
      by_cases h : x.By = a ∧ x.Near = b
      · rw [if_pos h]
        rcases ih hr a b x.Cost with h1 | ⟨h1, y, hy, h2⟩
        · exact .inr ⟨by rw [h1]; exact ⟨hx.2.2.2.1, hx.2.2.2.2⟩, x, List.mem_cons_self .., h⟩
        · exact .inr ⟨h1, y, List.mem_cons_of_mem _ hy, h2⟩
      · rw [if_neg h]
        rcases ih hr a b c with h1 | ⟨h1, y, hy, h2⟩
        · exact .inl h1
        · exact .inr ⟨h1, y, List.mem_cons_of_mem _ hy, h2⟩
  intro l hf a b
  exact key l hf a b 0
theorem bwAll_fit {n : Int} {l : List TdD} (hn : 1 ≤ n ∧ n ≤ 12) (hf : FitTd n l) : FitEd n (bwAll l n.toNat n.toNat) := by
  intro e he
  obtain ⟨a, h1, h2⟩ := (mem_bwAll l _ e _).1 he
  obtain ⟨j, h3, h4, h5⟩ := (mem_bwRow l a e _).1 h2
  obtain ⟨⟨p1, p2⟩, rfl⟩ := (mem_bwOne l _ _ e).1 h5
  have q1 := (lastTd_cases l hf (a : Int) (j : Int)).resolve_left (by omega)
  have q2 := (lastTd_cases l hf (j : Int) (a : Int)).resolve_left (by omega)
  refine ⟨⟨?_, ?_⟩, ⟨?_, ?_⟩, ?_, ?_, ?_⟩ <;> dsimp only <;> omega

/-- Ends there and back. -/
def ends2 (l : List EdD) : List (Int × Int) := l.flatMap fun e => [(e.A, e.B), (e.B, e.A)]
theorem ends2_len (l : List EdD) : (ends2 l).length = 2 * l.length := by
  induction l with
  | nil => rfl
  | cons e r ih =>
    unfold ends2 at ih ⊢
    rw [List.flatMap_cons, List.length_append, ih]
    simp only [List.length_cons, List.length_nil]
    omega
theorem mem_ends2 (l : List EdD) (p : Int × Int) : p ∈ ends2 l ↔ ∃ e ∈ l, p = (e.A, e.B) ∨ p = (e.B, e.A) := by
  unfold ends2
  rw [List.mem_flatMap]
  simp
theorem ends2_nodup : ∀ l : List EdD, RiseEd l → (∀ e ∈ l, e.A < e.B) → (ends2 l).Pairwise fun p q => ¬ p = q
  | [], _, _ => List.Pairwise.nil
  | e :: r, hr, hab => by
    have hp := List.pairwise_cons.1 hr
    have he := hab e (List.mem_cons_self ..)
    have ih := ends2_nodup r hp.2 fun x hx => hab x (List.mem_cons_of_mem _ hx)
    have hne : ∀ p ∈ ends2 r, ¬ (e.A, e.B) = p ∧ ¬ (e.B, e.A) = p := fun p hpm => by
      obtain ⟨x, hx, hh⟩ := (mem_ends2 r p).1 hpm
      have h1 := hp.1 x hx
      have h2 := hab x (List.mem_cons_of_mem _ hx)
      rcases hh with rfl | rfl <;> simp only [Prod.mk.injEq] <;> omega
    show ((e.A, e.B) :: (e.B, e.A) :: ends2 r).Pairwise fun p q => ¬ p = q
    refine List.pairwise_cons.2 ⟨fun p hp => ?_, List.pairwise_cons.2 ⟨fun p hp => (hne p hp).2, ih⟩⟩
    rcases List.mem_cons.1 hp with rfl | hp
    · simp only [Prod.mk.injEq]
      omega
    · exact (hne p hp).1
theorem len_le_of_sub {α : Type} [DecidableEq α] : ∀ (p q : List α), (p.Pairwise fun x y => ¬ x = y) → (∀ x ∈ p, x ∈ q) → p.length ≤ q.length
  | [], q, _, _ => Nat.zero_le _
  | x :: r, q, hn, hs => by
    have hp := List.pairwise_cons.1 hn
    have hx := hs x (List.mem_cons_self ..)
    have ih := len_le_of_sub r (q.erase x) hp.2 fun y hy => (List.mem_erase_of_ne (fun e => hp.1 y hy e.symm)).2 (hs y (List.mem_cons_of_mem _ hy))
    rw [List.length_erase_of_mem hx] at ih
    have := List.length_pos_of_mem hx
    simp only [List.length_cons]
    omega
theorem bwAll_forty {n : Int} {l : List TdD} (hn : 1 ≤ n ∧ n ≤ 12) (hf : FitTd n l) (hl : l.length ≤ 80) : (bwAll l n.toNat n.toNat).length ≤ 40 := by
  have hfit := bwAll_fit hn hf
  have h1 := len_le_of_sub (ends2 (bwAll l n.toNat n.toNat)) (l.map fun x => (x.By, x.Near)) (ends2_nodup _ (bwAll_rise l _ _) fun e he => (hfit e he).2.2.1) fun p hp => by
    obtain ⟨e, he, hh⟩ := (mem_ends2 _ p).1 hp
    obtain ⟨a, h1, h2⟩ := (mem_bwAll l _ e _).1 he
    obtain ⟨j, h3, h4, h5⟩ := (mem_bwRow l a e _).1 h2
    obtain ⟨⟨p1, p2⟩, rfl⟩ := (mem_bwOne l _ _ e).1 h5
    obtain ⟨-, x, hx, q1, q2⟩ := (lastTd_cases l hf (a : Int) (j : Int)).resolve_left (by omega)
    obtain ⟨-, y, hy, r1, r2⟩ := (lastTd_cases l hf (j : Int) (a : Int)).resolve_left (by omega)
    rw [List.mem_map]
    rcases hh with rfl | rfl
    · exact ⟨x, hx, by rw [q1, q2]⟩
    · exact ⟨y, hy, by rw [r1, r2]⟩
  rw [ends2_len, List.length_map] at h1
  omega
theorem bwAll_good {n : Int} {l : List TdD} (h : goodJTd n l 80 = true) : goodEd n (bwAll l n.toNat n.toNat) = true := by
  obtain ⟨hn, hl, hf⟩ := fitTd_of h
  exact goodEd_of hn (bwAll_forty hn hf (by omega)) (bwAll_fit hn hf) (bwAll_rise l _ _)
def bwOut (n : Int) (l : List TdD) : List EdD := if goodJTd n l 80 then bwAll l n.toNat n.toNat else []
theorem bwOut_len (n : Int) (l : List TdD) : (bwOut n l).length ≤ 4194304 := by
  unfold bwOut
  split
  · next h =>
    have := (goodEd_true (bwAll_good h)).2.1
    omega
  · simp
end Go.Proofs.Ythlbmkefjjckaac
