/-
  'areEnds' and 'l9Two'; 'FarsFrom' and 'RelaxAll' of the program and of the model.
-/
import Derived.Test.YthlbmkefjjckaadGrFarS
namespace Go.Proofs.Ythlbmkefjjckaad
open Go.RowKit
set_option linter.unusedVariables false

def endsOk (n : Int) (l : List EdD) (a b : Int) : Bool := goodEd n l && decide (0 ≤ a ∧ a < n) && decide (0 ≤ b ∧ b < n)
theorem endsOk_true {n : Int} {l : List EdD} {a b : Int} (h : endsOk n l a b = true) : goodEd n l = true ∧ (0 ≤ a ∧ a < n) ∧ (0 ≤ b ∧ b < n) := by
  unfold endsOk at h
  rw [Bool.and_eq_true, Bool.and_eq_true] at h
  exact ⟨h.1.1, of_decide_eq_true h.1.2, of_decide_eq_true h.2⟩

set_option maxRecDepth 100000 in
set_option maxHeartbeats 2000000 in
theorem areEnds_any (W : World) (v : Value) (n : Int) (l : List EdD) (a b : Int) (h : ReadsEd W v l) (hl : l.length ≤ 2097152) :
    Calls Try.prog 37 #[.int .i64 n, v, .int .i64 a, .int .i64 b] W fun e W' => e = .returned (.bool (endsOk n l a b)) ∧ Below W.heap.size W W' := by
  have CG : Hid (Calls Try.prog 42 #[.int .i64 n, v] W fun e W' => e = .returned (.bool (goodEd n l)) ∧ Below W.heap.size W W') := implGoodEd_any W v n l h hl
  obtain ⟨a1, c1, rfl⟩ := h.shape
  have HD : Hid (endsOk n l a b = (goodEd n l && decide (0 ≤ a ∧ a < n) && decide (0 ≤ b ∧ b < n))) := rfl
  generalize endsOk n l a b = ok at *
  clear h
  cases hg : goodEd n l with
  | false =>
    have HF : Hid (ok = false) := HD.out.trans (by rw [hg]; rfl)
    rw [hg] at CG
    clear hg HD
    go_enter Try.func37, Try.ntmps37
    go_wp2_with fail
    refine CG.out.mono ?_
    rintro e w1 ⟨rfl, hb1⟩
    have HB1 : Hid (Below W.heap.size W w1) := hb1
    clear hb1
    go_wp2
    go_ret
    exact ⟨congrArg (fun q => Ending.returned (Value.bool q)) HF.out.symm, HB1.out⟩
  | true =>
    have HGT : Hid ((1 ≤ n ∧ n ≤ 12) ∧ l.length ≤ 40 ∧ FitEd n l ∧ RiseEd l) := goodEd_true hg
    have hu : IntKind.i64.wrap (n - 1) = n - 1 := by have := HGT.out.1; rw [IntKind.wrap_i64]; omega
    rw [hg] at CG
    cases hs : decide (0 ≤ a ∧ a < n) with
    | false =>
      have hs' : decide (0 ≤ a ∧ a ≤ n - 1) = false := by simp at hs ⊢; omega
      have HF : Hid (ok = false) := HD.out.trans (by rw [hg, hs]; rfl)
      clear hg HD
      go_enter Try.func37, Try.ntmps37
      go_wp2_with fail
      refine CG.out.mono ?_
      rintro e w1 ⟨rfl, hb1⟩
      have HB1 : Hid (Below W.heap.size W w1) := hb1
      clear hb1
      go_wp2_with fail
      refine (isSpot_any _ a n).mono ?_
      rintro e ww ⟨rfl, hww⟩
      obtain rfl := hww
      rw [hs]
      go_wp2
      go_ret
      exact ⟨congrArg (fun q => Ending.returned (Value.bool q)) HF.out.symm, HB1.out⟩
    | true =>
      have hs' : decide (0 ≤ a ∧ a ≤ n - 1) = true := by simp at hs ⊢; omega
      have HF : Hid (ok = decide (0 ≤ b ∧ b < n)) := HD.out.trans (by rw [hg, hs]; rfl)
      have ht' : decide (0 ≤ b ∧ b ≤ n - 1) = decide (0 ≤ b ∧ b < n) := by rw [decide_eq_decide]; omega
      clear hg HD
      go_enter Try.func37, Try.ntmps37
      go_wp2_with fail
      refine CG.out.mono ?_
      rintro e w1 ⟨rfl, hb1⟩
      have HB1 : Hid (Below W.heap.size W w1) := hb1
      clear hb1
      go_wp2_with fail
      refine (isSpot_any _ a n).mono ?_
      rintro e ww ⟨rfl, hww⟩
      obtain rfl := hww
      rw [hs]
      go_wp2_with fail
      refine (isSpot_any _ b n).mono ?_
      rintro e ww ⟨rfl, hww⟩
      obtain rfl := hww
      generalize decide (0 ≤ b ∧ b < n) = okb at *
      go_wp2
      go_ret
      exact ⟨congrArg (fun q => Ending.returned (Value.bool q)) HF.out.symm, HB1.out⟩

def farsOk (n : Int) (l : List EdD) (a : Int) : Bool := goodEd n l && decide (0 ≤ a ∧ a < n)
def farsOut (n : Int) (l : List EdD) (a : Int) : List Int := if farsOk n l a then fars n.toNat l a else []
theorem farsOk_true {n : Int} {l : List EdD} {a : Int} (h : farsOk n l a = true) : goodEd n l = true ∧ 0 ≤ a ∧ a < n := by
  unfold farsOk at h
  rw [Bool.and_eq_true] at h
  exact ⟨h.1, of_decide_eq_true h.2⟩
theorem farsOut_len (n : Int) (l : List EdD) (a : Int) : (farsOut n l a).length ≤ 4194304 := by
  unfold farsOut
  split
  · next h =>
    have := (goodEd_true (farsOk_true h).1).1
    rw [fars_len]
    omega
  · simp
theorem ends_fars (n : Int) (l : List EdD) (a : Int) : endsOk n l a a = farsOk n l a := by
  unfold endsOk farsOk
  cases goodEd n l <;> cases decide (0 ≤ a ∧ a < n) <;> rfl

set_option maxRecDepth 100000 in
set_option maxHeartbeats 2000000 in
theorem implFarsFrom_any (W : World) (v : Value) (n : Int) (l : List EdD) (a : Int) (h : ReadsEd W v l) (hl : l.length ≤ 2097152) :
    Calls Try.prog 14 #[.int .i64 n, v, .int .i64 a] W (NearPost W (farsOut n l a) (farsOk n l a)) := by
  have CG : Hid (Calls Try.prog 37 #[.int .i64 n, v, .int .i64 a, .int .i64 a] W fun e W' => e = .returned (.bool (farsOk n l a)) ∧ Below W.heap.size W W') := by
    have := areEnds_any W v n l a a h hl
    rw [ends_fars] at this
    exact this
  have HRD : Hid (∀ w', Since W.heap.size W w' → ReadsEd w' v l) := fun w' hs => h.below hs.1
  have HS0 : Hid (Since W.heap.size W W) := Since.start W
  obtain ⟨a1, c1, rfl⟩ := h.shape
  have HD : Hid (farsOut n l a = if farsOk n l a then fars n.toNat l a else []) := rfl
  have HT : Hid (farsOk n l a = true → goodEd n l = true ∧ 0 ≤ a ∧ a < n) := farsOk_true
  generalize farsOut n l a = out at *
  generalize farsOk n l a = ok at *
  clear h
  cases ok with
  | false =>
    have HF : Hid (out = []) := HD.out
    clear HD HT
    go_enter Try.func14, Try.ntmps14
    go_wp2_with fail
    refine CG.out.mono ?_
    rintro e w1 ⟨rfl, hb1⟩
    have HB1 : Hid (Below W.heap.size W w1) := hb1
    clear hb1
    go_wp2
    refine bodyPost_ret (results_tmp2 rfl _ _ _) rfl ?_
    exact NearPost.zero rfl HF.out HB1.out
  | true =>
    have HF : Hid (out = fars n.toNat l a) := HD.out
    obtain ⟨hg, ha⟩ := HT.out rfl
    have CN : Hid (∀ w', Since W.heap.size W w' → Calls Try.prog 49 #[.int .i64 n, .slice a1 l.length c1, .int .i64 a] w' fun e w2 => ∃ u, e = .returned u ∧ Own w2 w'.heap.size u (fars n.toNat l a) ∧ Below w'.heap.size w' w2) := fun w' hs => by
      obtain ⟨g1, g2, g3, g4⟩ := goodEd_true hg
      have en : ((n.toNat : Nat) : Int) = n := by omega
      have t := farsFrom_any w' _ l n.toNat a (HRD.out w' hs) (by rw [en]; exact g3) (by omega) g2 (by omega)
      rw [en] at t
      exact t
    clear HD HT hg ha
    go_enter Try.func14, Try.ntmps14
    go_wp2_with fail
    refine CG.out.mono ?_
    rintro e w1 ⟨rfl, hb1⟩
    have HS1 : Hid (Since W.heap.size W w1) := HS0.out.step hb1
    clear hb1
    go_wp2_with fail
    refine (CN.out _ HS1.out).mono ?_
    rintro e w2 ⟨u2, rfl, ho2, hb2⟩
    have HO2 : Hid (Own w2 W.heap.size u2 (fars n.toNat l a)) := ho2.mono HS1.out.2
    have HS2 : Hid (Since W.heap.size W w2) := HS1.out.step hb2
    clear ho2 hb2
    go_wp2
    refine bodyPost_ret (results_tmp2 rfl _ _ _) rfl ?_
    exact NearPost.mk rfl HF.out HO2.out HS2.out.1

end Go.Proofs.Ythlbmkefjjckaad
