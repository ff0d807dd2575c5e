/-
  Fletcher's sums, plain: both sums as weighted sums of the bytes; of two texts; of a text in which a byte is put; of two bytes that change places; that two bytes make them nought.
-/
import Derived.Test.YtfeiefgmeleeiaaDoorMath
import Derived.Test.YtfeiefgmeleeiaaDoorFillMath
namespace Go.Proofs.YtfeiefgmeleeiaaDoor

/-- The sum of the bytes. -/
def S : List UInt8 → Int
  | [] => 0
  | x :: l => (x.toNat : Int) + S l
/-- Each byte times how many there are from it on. -/
def T : List UInt8 → Int
  | [] => 0
  | x :: l => ((l.length : Int) + 1) * (x.toNat : Int) + T l

theorem S_append (l m : List UInt8) : S (l ++ m) = S l + S m := by
  induction l with
  | nil => simp [S]
  | cons x l ih => simp only [List.cons_append, S, ih]; omega
theorem T_append (l m : List UInt8) : T (l ++ m) = T l + T m + (m.length : Int) * S l := by
  induction l with
  | nil => simp [S, T]
  | cons x l ih =>
    simp only [List.cons_append, S, T, ih, List.length_append]
    rw [Int.mul_add, show (((l.length + m.length : Nat) : Int) + 1) = ((l.length : Int) + 1) + (m.length : Int) by omega, Int.add_mul]
    omega
theorem fl_eq_of : ∀ (n : Nat) (l : List UInt8), l.length = n → flA l = S l % 255 ∧ flB l = T l % 255
  | 0, l, h => by
    obtain rfl := List.length_eq_zero_iff.1 h
    decide
  | n + 1, l, h => by
    rcases List.eq_nil_or_concat l with rfl | ⟨l', c, rfl⟩
    · simp at h
    · rw [List.concat_eq_append] at h ⊢
      have ih := fl_eq_of n l' (by simpa using h)
      rw [flA_snoc, flB_snoc, S_append, T_append, ih.1, ih.2]
      simp only [S, T, List.length_nil, List.length_singleton]
      omega
theorem fl_eq (l : List UInt8) : flA l = S l % 255 ∧ flB l = T l % 255 := fl_eq_of _ l rfl

theorem S_set (l : List UInt8) (i : Nat) (x : UInt8) (h : i < l.length) : S (l.set i x) = S l - (l[i].toNat : Int) + (x.toNat : Int) := by
  induction l generalizing i with
  | nil => simp at h
  | cons y l ih =>
    cases i with
    | zero => simp [S]; omega
    | succ i =>
      have := ih i (by simpa using h)
      simp only [List.set_cons_succ, S, this, List.getElem_cons_succ]; omega
theorem T_set (l : List UInt8) (i : Nat) (x : UInt8) (h : i < l.length) : T (l.set i x) = T l + ((l.length : Int) - i) * ((x.toNat : Int) - (l[i].toNat : Int)) := by
  induction l generalizing i with
  | nil => simp at h
  | cons y l ih =>
    cases i with
    | zero =>
      simp only [List.set_cons_zero, T, List.getElem_cons_zero, List.length_cons]
      rw [Int.mul_sub]
      simp
      omega
    | succ i =>
      have := ih i (by simpa using h)
      simp only [List.set_cons_succ, T, this, List.getElem_cons_succ, List.length_set, List.length_cons]
      rw [show (((l.length + 1 : Nat) : Int) - ((i + 1 : Nat) : Int)) = (l.length : Int) - i by omega]
      omega

/-- The weighted sum of what stands from a place on. -/
theorem T_drop (l : List UInt8) (k : Nat) (h : k < l.length) : T (l.drop k) = ((l.length : Int) - k) * (l[k].toNat : Int) + T (l.drop (k + 1)) := by
  rw [List.drop_eq_getElem_cons h]
  simp only [T, List.length_drop]
  rw [show (((l.length - (k + 1) : Nat) : Int) + 1) = (l.length : Int) - k by omega]

/-- Sums of two texts make that of both. -/
theorem fl_append (l m : List UInt8) : flA (l ++ m) = (flA l + flA m) % 255 ∧ flB (l ++ m) = (flB l + flB m + (m.length : Int) * flA l) % 255 := by
  rw [(fl_eq _).1, (fl_eq _).2, (fl_eq l).1, (fl_eq l).2, (fl_eq m).1, (fl_eq m).2, S_append, T_append]
  refine ⟨by omega, ?_⟩
  have e : S l = S l % 255 + 255 * (S l / 255) := by omega
  have e2 : (m.length : Int) * S l = (m.length : Int) * (S l % 255) + 255 * ((m.length : Int) * (S l / 255)) := by
    rw [Int.mul_left_comm 255, ← Int.mul_add, ← e]
  omega

theorem x_toNat (n : Int) (h0 : 0 ≤ n) (h1 : n ≤ 255) : ((UInt8.ofNat n.toNat).toNat : Int) = n := by
  simp [UInt8.toNat_ofNat']; omega

/-- Two bytes make both sums nought. -/
theorem fill_nought (l : List UInt8) (i : Nat) (h : i + 1 < l.length) (h0 : l[i] = 0) (h1 : l[i + 1] = 0) (x y : Int) (hx : x = xOf (flA l) (flB l) ((l.length : Int) - i - 1)) (hy : y = yOf (flA l) x) :
    flA ((l.set i (UInt8.ofNat x.toNat)).set (i + 1) (UInt8.ofNat y.toNat)) = 0 ∧ flB ((l.set i (UInt8.ofNat x.toNat)).set (i + 1) (UInt8.ofNat y.toNat)) = 0 := by
  have bx : 0 ≤ x ∧ x ≤ 254 := by rw [hx]; exact xOf_bd _ _ _
  have hy2 : 0 ≤ y ∧ y ≤ 254 := by rw [hy]; exact yOf_bd _ _
  have ex := x_toNat x bx.1 (by omega)
  have ey := x_toNat y hy2.1 (by omega)
  have hi : i < l.length := by omega
  have g1 : (l.set i (UInt8.ofNat x.toNat))[i + 1]'(by simpa using h) = 0 := by rw [List.getElem_set_ne (by omega)]; exact h1
  have eS : S ((l.set i (UInt8.ofNat x.toNat)).set (i + 1) (UInt8.ofNat y.toNat)) = S l + x + y := by
    rw [S_set _ _ _ (by simpa using h), S_set _ _ _ hi, g1, h0, ex, ey]; simp
  have eT : T ((l.set i (UInt8.ofNat x.toNat)).set (i + 1) (UInt8.ofNat y.toNat)) = T l + ((l.length : Int) - i - 1 + 1) * x + ((l.length : Int) - i - 1) * y := by
    rw [T_set _ _ _ (by simpa using h), T_set _ _ _ hi, g1, h0, ex, ey]
    simp only [List.length_set]
    rw [show ((l.length : Int) - ((i + 1 : Nat) : Int)) = (l.length : Int) - i - 1 by omega, show ((l.length : Int) - i - 1 + 1) = (l.length : Int) - i by omega]
    simp
  rw [(fl_eq _).1, (fl_eq _).2, eS, eT]
  generalize hc : (l.length : Int) - i - 1 = c at *
  have ha := (fl_eq l).1
  have hb := (fl_eq l).2
  generalize flA l = a at *
  generalize flB l = b at *
  unfold xOf at hx
  unfold yOf at hy
  obtain ⟨p, hp⟩ : ∃ p, x = c * a - b + 255 * p := ⟨-((c * a - b) / 255), by omega⟩
  obtain ⟨q, hq⟩ : ∃ q, x + y = -a + 255 * q := ⟨-((-a - x) / 255), by omega⟩
  have e1 : (c + 1) * x + c * y = x + c * (x + y) := by rw [Int.add_mul, Int.mul_add]; omega
  have e2 : c * (x + y) = -(c * a) + 255 * (c * q) := by rw [hq, Int.mul_add, Int.mul_neg, Int.mul_left_comm]
  refine ⟨by omega, ?_⟩
  rw [show T l + (c + 1) * x + c * y = T l + ((c + 1) * x + c * y) by omega, e1, e2]
  omega

/-- A byte makes the first sum nought. -/
theorem mend_nought (l : List UInt8) (i : Nat) (h : i < l.length) (h0 : l[i] = 0) : flA (l.set i (UInt8.ofNat ((255 - flA l) % 255).toNat)) = 0 := by
  have ex := x_toNat ((255 - flA l) % 255) (by omega) (by omega)
  rw [(fl_eq (l.set i _)).1, S_set _ _ _ h, h0, ex, (fl_eq l).1]
  simp
  omega

/-- Two bytes that change places are seen. -/
theorem swap_seen (l : List UInt8) (i : Nat) (h : i + 1 < l.length) :
    flA ((l.set i l[i + 1]).set (i + 1) l[i]) = flA l ∧ (flB ((l.set i l[i + 1]).set (i + 1) l[i]) = flB l ↔ (l[i].toNat : Int) % 255 = (l[i + 1].toNat : Int) % 255) := by
  have hi : i < l.length := by omega
  have g1 : (l.set i l[i + 1])[i + 1]'(by simpa using h) = l[i + 1] := by rw [List.getElem_set_ne (by omega)]
  have eS : S ((l.set i l[i + 1]).set (i + 1) l[i]) = S l := by rw [S_set _ _ _ (by simpa using h), S_set _ _ _ hi, g1]; omega
  have eT : T ((l.set i l[i + 1]).set (i + 1) l[i]) = T l + ((l[i + 1].toNat : Int) - (l[i].toNat : Int)) := by
    rw [T_set _ _ _ (by simpa using h), T_set _ _ _ hi, g1]
    simp only [List.length_set]
    generalize (l[i].toNat : Int) = x
    generalize (l[i + 1].toNat : Int) = y
    rw [show ((l.length : Int) - ((i + 1 : Nat) : Int)) = ((l.length : Int) - i) - 1 by omega]
    generalize (l.length : Int) - i = w
    rw [Int.sub_mul, Int.mul_sub, Int.mul_sub]
    omega
  rw [(fl_eq _).1, (fl_eq _).2, (fl_eq l).1, (fl_eq l).2, eS, eT]
  exact ⟨rfl, by omega⟩
end Go.Proofs.YtfeiefgmeleeiaaDoor
