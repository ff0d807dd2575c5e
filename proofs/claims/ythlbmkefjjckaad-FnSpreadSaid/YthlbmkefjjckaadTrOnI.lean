/-
  'OnTree', 'ComesFrom' of the program.
-/
import Derived.Test.YthlbmkefjjckaadTrWayB
namespace Go.Proofs.Ythlbmkefjjckaad
open Go.RowKit
set_option linter.unusedVariables false

def otOk (ps : List Int) (a b : Int) : Bool := twoOk ps a b && onTOk ps a b
def otOut (ps : List Int) (a b : Int) : List Int := if otOk ps a b then onOut ps a b else []
theorem otOk_true {ps : List Int} {a b : Int} (h : otOk ps a b = true) : twoOk ps a b = true ∧ onTOk ps a b = true := by
  unfold otOk at h
  rwa [Bool.and_eq_true] at h
theorem otOut_len (ps : List Int) (a b : Int) : (otOut ps a b).length ≤ 4194304 := by
  unfold otOut
  split
  · next h =>
    have h1 := (twoOk_true (otOk_true h).1).1
    have := ((goodU_iff ps).1 h1).1
    have := onOut_len ps a b
    omega
  · simp
theorem spotsOn_two (ps : List Int) (a b : Int) : spotsOn ps [a, b] = twoOk ps a b := by
  unfold spotsOn twoOk noneIn
  cases goodU ps <;> simp
theorem onOut_two {ps : List Int} {a b : Int} (h : otOk ps a b = true) (hne : a ≠ b) : 2 ≤ (onOut ps a b).length := by
  obtain ⟨h1, h2⟩ := otOk_true h
  obtain ⟨hg, ha, hb⟩ := twoOk_true h1
  obtain ⟨-, r, hr⟩ := onOut_is hg ha.1 ha.2 hb.1 hb.2 h2
  have hl := onOut_last hg ha.1 ha.2 hb.1 hb.2 h2
  rw [hr] at hl ⊢
  cases r with
  | nil => simp at hl; exact absurd hl hne
  | cons x r => simp

set_option maxRecDepth 100000 in
set_option maxHeartbeats 4000000 in
theorem implOnTree_any (W : World) (B : Nat) (u : Value) (ps : List Int) (a b : Int) (hu : Own W B u ps) (hl : ps.length ≤ 1048576) :
    Calls Try.prog 15 #[u, .int .i64 a, .int .i64 b] W (NearPost W (otOut ps a b) (otOk ps a b)) := by
  have hb1 : Below W.heap.size W (W.alloc (.cells #[.int .i64 a, .int .i64 b] 3)) := (Below.refl _ W).alloc (Nat.le_refl _) _
  have CG : Hid (Calls Try.prog 47 #[u, .slice (some ⟨W.heap.size, 0, none⟩) 2 2] (W.alloc (.cells #[.int .i64 a, .int .i64 b] 3)) fun e W' => e = .returned (.bool (twoOk ps a b)) ∧ Below (W.alloc (.cells #[.int .i64 a, .int .i64 b] 3)).heap.size (W.alloc (.cells #[.int .i64 a, .int .i64 b] 3)) W') := by
    have t := areSpotsOn_any (W.alloc (.cells #[.int .i64 a, .int .i64 b] 3)) B u (.slice (some ⟨W.heap.size, 0, none⟩) 2 2) ps [a, b] (hu.below hb1) hl ⟨_, _, rfl, .inr ⟨_, 0, rfl, by simp, fun j hj => by
      match j, hj with
      | 0, _ => simp
      | 1, _ => simp
      | j + 2, hj => exact absurd hj (by simp)⟩⟩ (by simp)
    rw [spotsOn_two] at t
    exact t
  have HB1 : Hid (Below W.heap.size W (W.alloc (.cells #[.int .i64 a, .int .i64 b] 3)) ∧ (W.alloc (.cells #[.int .i64 a, .int .i64 b] 3)).heap.size = W.heap.size + 1) := ⟨hb1, by simp⟩
  have CS : Hid (twoOk ps a b = true → ∀ w', Below W.heap.size W w' → Calls Try.prog 50 #[u, .int .i64 a, .int .i64 b] w' fun e w2 => ∃ v, e = .returned v ∧ Own w2 w'.heap.size v (wayB ps a b) ∧ Below w'.heap.size w' w2) := fun h w' hb => wayBack_any w' B u ps a b (hu.below hb) (twoOk_true h).1 (twoOk_true h).2.2
  have HD : Hid (otOk ps a b = (twoOk ps a b && onTOk ps a b) ∧ otOut ps a b = if otOk ps a b then onOut ps a b else []) := ⟨rfl, rfl⟩
  have HW : Hid (twoOk ps a b = true → wayB ps a b = (if onTOk ps a b then onOut ps a b else [a]) ∧ (onTOk ps a b = true → (onOut ps a b).getLast? = some b) ∧ (onTOk ps a b = false → a ≠ b) ∧ (onOut ps a b).length ≤ 24) := fun h => by
    obtain ⟨hg, ha, hb⟩ := twoOk_true h
    have := onOut_len ps a b
    have := ((goodU_iff ps).1 hg).1
    exact ⟨wayB_eq hg ha.1 ha.2 hb.1 hb.2, onOut_last hg ha.1 ha.2 hb.1 hb.2, not_on_self hg ha.1 ha.2 hb.1 hb.2, by omega⟩
  obtain ⟨au, cu, rfl⟩ := hu.shape
  generalize otOut ps a b = out at *
  generalize otOk ps a b = ok at *
  generalize twoOk ps a b = tk at *
  clear hu hb1
  cases tk with
  | false =>
    have HF : Hid (ok = false ∧ out = []) := by
      have h1 : ok = false := HD.out.1.trans (Bool.false_and _)
      exact ⟨h1, HD.out.2.trans (by rw [h1]; rfl)⟩
    clear HD CS HW
    go_enter Try.func15, Try.ntmps15
    go_wp2_with fail
    refine CG.out.mono ?_
    rintro e w1 ⟨rfl, hb2⟩
    have H2 : Hid (Below W.heap.size W w1) := HB1.out.1.trans (hb2.mono (by have := HB1.out.2; omega))
    clear hb2
    go_wp2
    refine bodyPost_ret (results_tmp2 rfl _ _ _) rfl ?_
    exact NearPost.zero HF.out.1 HF.out.2 H2.out
  | true =>
    have HW1 := HW.out rfl
    have CS1 : Hid (∀ w', Below W.heap.size W w' → Calls Try.prog 50 #[.slice au ps.length cu, .int .i64 a, .int .i64 b] w' fun e w2 => ∃ v, e = .returned v ∧ Own w2 w'.heap.size v (wayB ps a b) ∧ Below w'.heap.size w' w2) := CS.out rfl
    cases ht : onTOk ps a b with
    | false =>
      have hw : wayB ps a b = [a] := by rw [HW1.1, ht]; rfl
      have hab : (a != b) = true := by simpa using HW1.2.2.1 ht
      have HF : Hid (ok = false ∧ out = []) := by
        have h1 : ok = false := HD.out.1.trans (by rw [ht]; rfl)
        exact ⟨h1, HD.out.2.trans (by rw [h1]; rfl)⟩
      rw [hw] at CS1
      clear HD CS HW HW1 ht hw
      go_enter Try.func15, Try.ntmps15
      go_wp2_with fail
      refine CG.out.mono ?_
      rintro e w1 ⟨rfl, hb2⟩
      have H2 : Hid (Below W.heap.size W w1) := HB1.out.1.trans (hb2.mono (by have := HB1.out.2; omega))
      clear hb2
      go_wp2_with fail
      refine (CS1.out w1 H2.out).mono ?_
      rintro e w2 ⟨v2, rfl, ho2, hb2⟩
      obtain ⟨g2, c2, rfl, -⟩ := own_at ho2 (by simp)
      have hc := own_cellG ho2 rfl 0 (by simp)
      have H3 : Hid (Below W.heap.size W w2) := H2.out.trans (hb2.mono H2.out.size)
      simp only [List.length_singleton, List.getElem_cons_zero] at hc ⊢
      clear ho2 hb2
      go_wp2
      refine bodyPost_ret (results_tmp2 rfl _ _ _) rfl ?_
      exact NearPost.zero HF.out.1 HF.out.2 H3.out
    | true =>
      have hw : wayB ps a b = onOut ps a b := by rw [HW1.1, ht]; rfl
      have hla := HW1.2.1 ht
      have hln := HW1.2.2.2
      have HF : Hid (ok = true ∧ out = onOut ps a b) := by
        have h1 : ok = true := HD.out.1.trans (by rw [ht]; rfl)
        exact ⟨h1, HD.out.2.trans (by rw [h1]; rfl)⟩
      rw [hw] at CS1
      clear HD CS HW HW1 ht hw
      generalize onOut ps a b = ws at *
      obtain ⟨m, hm⟩ : ∃ m, ws.length = m + 1 := ⟨ws.length - 1, by
        cases ws with
        | nil => simp at hla
        | cons x r => simp⟩
      have hbm : ws[m]'(by omega) = b := by
        rw [last_get ws m hm, List.getLastD_eq_getLast?, hla]; rfl
      have hwr : IntKind.i64.wrap (m : Int) = (m : Int) := by rw [IntKind.wrap_i64]; omega
      have hmlt : (m : Int) < (m : Int) + 1 := by omega
      go_enter Try.func15, Try.ntmps15
      go_wp2_with fail
      refine CG.out.mono ?_
      rintro e w1 ⟨rfl, hb2⟩
      have H2 : Hid (Below W.heap.size W w1) := HB1.out.1.trans (hb2.mono (by have := HB1.out.2; omega))
      clear hb2
      go_wp2_with fail
      refine (CS1.out w1 H2.out).mono ?_
      rintro e w2 ⟨v2, rfl, ho2, hb2⟩
      obtain ⟨g2, c2, rfl, -⟩ := own_at ho2 (by omega)
      have hc := own_cellG ho2 rfl m (by omega)
      rw [hbm] at hc
      have H3 : Hid (Own w2 W.heap.size (.slice (some ⟨g2, 0, none⟩) (m + 1) c2) ws ∧ Below W.heap.size W w2) := ⟨by rw [← hm]; exact ho2.mono H2.out.size, H2.out.trans (hb2.mono H2.out.size)⟩
      rw [hm]
      clear ho2 hb2 hla hbm
      go_wp2
      refine bodyPost_ret (results_tmp2 rfl _ _ _) rfl ?_
      exact NearPost.mk HF.out.1 HF.out.2 H3.out.1 H3.out.2

def cfOk (ps : List Int) (a b : Int) : Bool := otOk ps a b && !decide (a = b)
def cfOut (ps : List Int) (a b : Int) : Int := if cfOk ps a b then (onOut ps a b).getD ((onOut ps a b).length - 2) 0 else 0
def CfPost (W : World) (z : Int) (ok : Bool) (e : Ending) (W' : World) : Prop := e = .returned (.tuple #[.int .i64 z, .bool ok]) ∧ Below W.heap.size W W'

set_option maxRecDepth 100000 in
set_option maxHeartbeats 4000000 in
theorem implComesFrom_any (W : World) (B : Nat) (u : Value) (ps : List Int) (a b : Int) (hu : Own W B u ps) (hl : ps.length ≤ 1048576) :
    Calls Try.prog 12 #[u, .int .i64 a, .int .i64 b] W (CfPost W (cfOut ps a b) (cfOk ps a b)) := by
  have CO : Hid (Calls Try.prog 15 #[u, .int .i64 a, .int .i64 b] W (NearPost W (otOut ps a b) (otOk ps a b))) := implOnTree_any W B u ps a b hu hl
  have HD : Hid (cfOk ps a b = (otOk ps a b && !decide (a = b)) ∧ (cfOut ps a b = if cfOk ps a b then (onOut ps a b).getD ((onOut ps a b).length - 2) 0 else 0) ∧ (otOk ps a b = true → otOut ps a b = onOut ps a b ∧ (a ≠ b → 2 ≤ (onOut ps a b).length) ∧ (onOut ps a b).length ≤ 24)) := ⟨rfl, rfl, fun h => ⟨by rw [otOut, h]; rfl, onOut_two h, by
    have h1 := (twoOk_true (otOk_true h).1).1
    have := ((goodU_iff ps).1 h1).1
    have := onOut_len ps a b
    omega⟩⟩
  obtain ⟨au, cu, rfl⟩ := hu.shape
  generalize cfOut ps a b = out at *
  generalize cfOk ps a b = ok at *
  generalize otOut ps a b = ot at *
  generalize otOk ps a b = tk at *
  clear hu
  cases tk with
  | false =>
    have HF : Hid (ok = false ∧ out = 0) := by
      have h1 : ok = false := HD.out.1.trans (Bool.false_and _)
      exact ⟨h1, HD.out.2.1.trans (by rw [h1]; rfl)⟩
    clear HD
    go_enter Try.func12, Try.ntmps12
    go_wp2_with fail
    refine CO.out.mono ?_
    rintro e w1 ⟨u1, rfl, ho1, hb1⟩
    have H1 : Hid (Below W.heap.size W w1) := hb1
    obtain ⟨a9, c9, rfl⟩ := ho1.shape
    clear ho1 hb1
    go_wp2
    refine bodyPost_ret (results_tmp2 rfl _ _ _) rfl ?_
    exact ⟨by rw [HF.out.1, HF.out.2]; rfl, H1.out⟩
  | true =>
    obtain ⟨h1, h2, h3⟩ := HD.out.2.2 rfl
    by_cases hab : a = b
    · have HF : Hid (ok = false ∧ out = 0) := by
        have h1 : ok = false := HD.out.1.trans (by rw [decide_eq_true hab]; rfl)
        exact ⟨h1, HD.out.2.1.trans (by rw [h1]; rfl)⟩
      have hbb : (a == b) = true := by simpa using hab
      clear HD h1 h2 h3 hab
      go_enter Try.func12, Try.ntmps12
      go_wp2_with fail
      refine CO.out.mono ?_
      rintro e w1 ⟨u1, rfl, ho1, hb1⟩
      have H1 : Hid (Below W.heap.size W w1) := hb1
      obtain ⟨a9, c9, rfl⟩ := ho1.shape
      clear ho1 hb1
      go_wp2
      refine bodyPost_ret (results_tmp2 rfl _ _ _) rfl ?_
      exact ⟨by rw [HF.out.1, HF.out.2]; rfl, H1.out⟩
    · have HF : Hid (ok = true ∧ out = (onOut ps a b).getD ((onOut ps a b).length - 2) 0) := by
        have h1 : ok = true := HD.out.1.trans (by rw [decide_eq_false hab]; rfl)
        exact ⟨h1, HD.out.2.1.trans (by rw [h1]; rfl)⟩
      have hbb : (a == b) = false := by simpa using hab
      have h4 := h2 hab
      subst h1
      clear HD h2 hab
      generalize onOut ps a b = ws at *
      obtain ⟨m, hm⟩ : ∃ m, ws.length = m + 2 := ⟨ws.length - 2, by omega⟩
      have hgm : ws.getD (ws.length - 2) 0 = ws[m]'(by omega) := by
        have e : ws.length - 2 = m := by omega
        rw [e, List.getD_eq_getElem?_getD, List.getElem?_eq_getElem (by omega)]; rfl
      rw [hgm] at HF
      have hwr : IntKind.i64.wrap ((m : Int) + 2 - 2) = (m : Int) := by rw [IntKind.wrap_i64]; omega
      have hwr2 : IntKind.i64.wrap (m : Int) = (m : Int) := by rw [IntKind.wrap_i64]; omega
      have hmlt : (m : Int) < (m : Int) + 2 := by omega
      go_enter Try.func12, Try.ntmps12
      go_wp2_with fail
      refine CO.out.mono ?_
      rintro e w1 ⟨u1, rfl, ho1, hb1⟩
      have H1 : Hid (Below W.heap.size W w1) := hb1
      obtain ⟨g2, c2, rfl, -⟩ := own_at ho1 (by omega)
      have hc := own_cellG ho1 rfl m (by omega)
      rw [hm]
      clear ho1 hb1 hgm
      generalize ws[m]'(by omega) = z at *
      go_wp2
      refine bodyPost_ret (results_tmp2 rfl _ _ _) rfl ?_
      exact ⟨by rw [HF.out.1, HF.out.2]; rfl, H1.out⟩
end Go.Proofs.Ythlbmkefjjckaad
