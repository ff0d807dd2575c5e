/-
  'NearOf' and 'DegreesOf' of the program and of the model.
-/
import Derived.Test.YthlbmkefjjckaacGrNear
namespace Go.Proofs.Ythlbmkefjjckaac
open Go.RowKit
set_option linter.unusedVariables false

set_option maxRecDepth 100000 in
set_option maxHeartbeats 4000000 in
theorem l8Near_any (W : World) (v : Value) (l : List EdD) (a : Int) (h : ReadsEd W v l) (hl : l.length ≤ 40) :
    Calls Try.prog 94 #[v, .int .i64 a] W fun e W' => ∃ v', e = .returned v' ∧ Own W' W.heap.size v' (nearS l a) ∧ Below W.heap.size W W' := by
  have HR : Hid (∀ w', Since W.heap.size W w' → ReadsEd w' v l) := fun w' hs => h.below hs.1
  obtain ⟨a1, cap1, rfl, hc1⟩ := h
  have HS0 : Hid (Since W.heap.size W W) := Since.start W
  by_cases h1 : l = []
  · subst h1
    simp only [List.length_nil]
    clear hc1 HR
    go_enter Try.func94, Try.ntmps94
    go_wp2
    refine wp_loop_rounds 1 ?_
    rw [rounds_succ]
    go_wp2
    go_ret
    exact ⟨_, rfl, Own.nil _ _, HS0.out.1⟩
  obtain ⟨g1, o1, rfl, hg1, hc1⟩ := hc1.resolve_left h1
  have HC1 : Hid (∀ W1, Since W.heap.size W W1 → ∀ j (hj : j < l.length), EdAt W1 g1 (o1 + j * 3) l[j]) := fun W1 hS j hj => (hc1 j hj).below hg1 hS.1
  have HL40 : Hid (l.length ≤ 40) := hl
  clear hc1 hg1 h1 HR
  go_enter Try.func94, Try.ntmps94
  go_wp2
  go_loopw [5, 10] (fun u i wr => ∃ k : Nat, k ≤ l.length ∧ i = .int .i64 k ∧ Hid (Own wr W.heap.size u (nearS (l.take k) a) ∧ Since W.heap.size W wr)) (fun _ i _ => l.length - (intOf i).toNat)
  case atStart => exact ⟨0, Nat.zero_le _, rfl, Own.nil _ _, HS0.out⟩
  case round =>
    obtain ⟨k, hk, rfl, HK⟩ := hrel
    obtain ⟨a2, c2', rfl⟩ := HK.out.1.shape
    by_cases hlt : k < l.length
    · have hlt' : (k : Int) < (l.length : Int) := by omega
      obtain ⟨q0, q1, q2⟩ := HC1.out wr HK.out.2 k hlt
      have HT := nearS_take l a k hlt
      have HL : Hid ((nearS (l.take k) a).length ≤ 80) := by
        show _ ≤ _
        have := nearS_len a (l.take k) []
        have h2 := HL40.out
        simp only [List.length_nil, List.length_take] at this
        unfold nearS
        omega
      generalize l[k] = x at *
      have S0 : Hid (Since W.heap.size W (wr.alloc (.cells #[.int .i64 x.A, .int .i64 x.B, .int .i64 x.Cost] 61))) := HK.out.2.step ((Below.refl _ wr).alloc (Nat.le_refl _) _)
      have O0 : Hid (Own (wr.alloc (.cells #[.int .i64 x.A, .int .i64 x.B, .int .i64 x.Cost] 61)) W.heap.size (.slice a2 (nearS (l.take k) a).length c2') (nearS (l.take k) a)) := HK.out.1.alloc _
      have HX : Hid (∀ w', Since (wr.alloc (.cells #[.int .i64 x.A, .int .i64 x.B, .int .i64 x.Cost] 61)).heap.size (wr.alloc (.cells #[.int .i64 x.A, .int .i64 x.B, .int .i64 x.Cost] 61)) w' → w'.cell? ⟨wr.heap.size, 0, none⟩ = some (.int .i64 x.A) ∧ w'.cell? ⟨wr.heap.size, 1, none⟩ = some (.int .i64 x.B) ∧ w'.cell? ⟨wr.heap.size, 2, none⟩ = some (.int .i64 x.Cost)) := newEd wr x
      have SB0 : Hid (Since (wr.alloc (.cells #[.int .i64 x.A, .int .i64 x.B, .int .i64 x.Cost] 61)).heap.size (wr.alloc (.cells #[.int .i64 x.A, .int .i64 x.B, .int .i64 x.Cost] 61)) (wr.alloc (.cells #[.int .i64 x.A, .int .i64 x.B, .int .i64 x.Cost] 61))) := Since.start _
      obtain ⟨c0, c1, c2⟩ := HX.out (wr.alloc (.cells #[.int .i64 x.A, .int .i64 x.B, .int .i64 x.Cost] 61)) SB0.out
      clear HK
      by_cases h1 : x.A = a
      · have d1 : (x.A == a) = true := beq_iff_eq.2 h1
        by_cases h2 : x.B = a
        · have d2 : (x.B == a) = true := beq_iff_eq.2 h2
          have HN : Hid (nearS (l.take (k + 1)) a = insL x.A (insL x.B (nearS (l.take k) a))) := HT.trans (by unfold nearAdd; dsimp only; rw [if_pos h2, if_pos h1])
          have HL2 : Hid ((insL x.B (nearS (l.take k) a)).length ≤ 81) := Nat.le_trans (insL_len _ _) (Nat.succ_le_succ HL.out)
          clear HT h1 h2
          go_wp2_with fail
          refine (l1Put_any _ W.heap.size _ (nearS (l.take k) a) x.B O0.out S0.out.2 (by have := HL.out; simp <;> omega)).mono ?_
          rintro e w1 ⟨uw1, rfl, how1, hbw1⟩
          have Sw1 : Hid (Since W.heap.size W w1) := S0.out.step hbw1
          have Ow1 : Hid (Own w1 W.heap.size uw1 (insL x.B (nearS (l.take k) a))) := how1
          obtain ⟨xw1, yw1, rfl⟩ := how1.shape
          have Xw1 := HX.out w1 (SB0.out.step hbw1)
          have SBw1 : Hid (Since (wr.alloc (.cells #[.int .i64 x.A, .int .i64 x.B, .int .i64 x.Cost] 61)).heap.size (wr.alloc (.cells #[.int .i64 x.A, .int .i64 x.B, .int .i64 x.Cost] 61)) w1) := SB0.out.step hbw1
          clear how1 hbw1 c0 c1 c2
          obtain ⟨c0, c1, c2⟩ := Xw1
          have HL : Hid ((insL x.B (nearS (l.take k) a)).length ≤ 81) := HL2.out
          go_wp2_with fail
          refine (l1Put_any w1 W.heap.size _ (insL x.B (nearS (l.take k) a)) x.A Ow1.out Sw1.out.2 (by have := HL.out; simp <;> omega)).mono ?_
          rintro e w2 ⟨uw2, rfl, how2, hbw2⟩
          have Sw2 : Hid (Since W.heap.size W w2) := Sw1.out.step hbw2
          have Ow2 : Hid (Own w2 W.heap.size uw2 (insL x.A (insL x.B (nearS (l.take k) a)))) := how2
          obtain ⟨xw2, yw2, rfl⟩ := how2.shape
          have Xw2 := HX.out w2 (SBw1.out.step hbw2)
          have SBw2 : Hid (Since (wr.alloc (.cells #[.int .i64 x.A, .int .i64 x.B, .int .i64 x.Cost] 61)).heap.size (wr.alloc (.cells #[.int .i64 x.A, .int .i64 x.B, .int .i64 x.Cost] 61)) w2) := SBw1.out.step hbw2
          clear how2 hbw2 c0 c1 c2
          obtain ⟨c0, c1, c2⟩ := Xw2
          have OF : Hid (Own w2 W.heap.size (.slice xw2 (insL x.A (insL x.B (nearS (l.take k) a))).length yw2) (nearS (l.take (k + 1)) a)) := by
            show Own _ _ _ _
            rw [HN.out]
            exact Ow2.out
          go_wp2
          go_roundw
          case rel => exact ⟨k + 1, by omega, by go_num, OF.out, Sw2.out⟩
          case measure => simp [intOf]; omega
        · have d2 : (x.B == a) = false := beq_eq_false_iff_ne.2 h2
          have HN : Hid (nearS (l.take (k + 1)) a = insL x.B (nearS (l.take k) a)) := HT.trans (by unfold nearAdd; dsimp only; rw [if_neg h2, if_pos h1])
          clear HT h1 h2
          go_wp2_with fail
          refine (l1Put_any _ W.heap.size _ (nearS (l.take k) a) x.B O0.out S0.out.2 (by have := HL.out; simp <;> omega)).mono ?_
          rintro e w1 ⟨uw1, rfl, how1, hbw1⟩
          have Sw1 : Hid (Since W.heap.size W w1) := S0.out.step hbw1
          have Ow1 : Hid (Own w1 W.heap.size uw1 (insL x.B (nearS (l.take k) a))) := how1
          obtain ⟨xw1, yw1, rfl⟩ := how1.shape
          have Xw1 := HX.out w1 (SB0.out.step hbw1)
          have SBw1 : Hid (Since (wr.alloc (.cells #[.int .i64 x.A, .int .i64 x.B, .int .i64 x.Cost] 61)).heap.size (wr.alloc (.cells #[.int .i64 x.A, .int .i64 x.B, .int .i64 x.Cost] 61)) w1) := SB0.out.step hbw1
          clear how1 hbw1 c0 c1 c2
          obtain ⟨c0, c1, c2⟩ := Xw1
          have OF : Hid (Own w1 W.heap.size (.slice xw1 (insL x.B (nearS (l.take k) a)).length yw1) (nearS (l.take (k + 1)) a)) := by
            show Own _ _ _ _
            rw [HN.out]
            exact Ow1.out
          go_wp2
          go_roundw
          case rel => exact ⟨k + 1, by omega, by go_num, OF.out, Sw1.out⟩
          case measure => simp [intOf]; omega
      · have d1 : (x.A == a) = false := beq_eq_false_iff_ne.2 h1
        by_cases h2 : x.B = a
        · have d2 : (x.B == a) = true := beq_iff_eq.2 h2
          have HN : Hid (nearS (l.take (k + 1)) a = insL x.A (nearS (l.take k) a)) := HT.trans (by unfold nearAdd; dsimp only; rw [if_pos h2, if_neg h1])
          clear HT h1 h2
          go_wp2_with fail
          refine (l1Put_any _ W.heap.size _ (nearS (l.take k) a) x.A O0.out S0.out.2 (by have := HL.out; simp <;> omega)).mono ?_
          rintro e w1 ⟨uw1, rfl, how1, hbw1⟩
          have Sw1 : Hid (Since W.heap.size W w1) := S0.out.step hbw1
          have Ow1 : Hid (Own w1 W.heap.size uw1 (insL x.A (nearS (l.take k) a))) := how1
          obtain ⟨xw1, yw1, rfl⟩ := how1.shape
          have Xw1 := HX.out w1 (SB0.out.step hbw1)
          have SBw1 : Hid (Since (wr.alloc (.cells #[.int .i64 x.A, .int .i64 x.B, .int .i64 x.Cost] 61)).heap.size (wr.alloc (.cells #[.int .i64 x.A, .int .i64 x.B, .int .i64 x.Cost] 61)) w1) := SB0.out.step hbw1
          clear how1 hbw1 c0 c1 c2
          obtain ⟨c0, c1, c2⟩ := Xw1
          have OF : Hid (Own w1 W.heap.size (.slice xw1 (insL x.A (nearS (l.take k) a)).length yw1) (nearS (l.take (k + 1)) a)) := by
            show Own _ _ _ _
            rw [HN.out]
            exact Ow1.out
          go_wp2
          go_roundw
          case rel => exact ⟨k + 1, by omega, by go_num, OF.out, Sw1.out⟩
          case measure => simp [intOf]; omega
        · have d2 : (x.B == a) = false := beq_eq_false_iff_ne.2 h2
          have HN : Hid (nearS (l.take (k + 1)) a = nearS (l.take k) a) := HT.trans (by unfold nearAdd; dsimp only; rw [if_neg h2, if_neg h1])
          have OF : Hid (Own (wr.alloc (.cells #[.int .i64 x.A, .int .i64 x.B, .int .i64 x.Cost] 61)) W.heap.size (.slice a2 (nearS (l.take k) a).length c2') (nearS (l.take (k + 1)) a)) := by
            show Own _ _ _ _
            rw [HN.out]
            exact O0.out
          clear HT h1 h2
          go_wp2
          go_roundw
          case rel => exact ⟨k + 1, by omega, by go_num, OF.out, S0.out⟩
          case measure => simp [intOf]; omega
    · have hlt' : ¬ (k : Int) < (l.length : Int) := by omega
      have HF : Hid (Own wr W.heap.size (.slice a2 (nearS (l.take k) a).length c2') (nearS l a) ∧ Below W.heap.size W wr) := ⟨by
        have := HK.out.1
        rw [List.take_of_length_le (show l.length ≤ k by omega)] at this ⊢
        exact this, HK.out.2.1⟩
      clear HK
      go_wp2
      go_ret
      exact ⟨_, rfl, HF.out⟩

def nearOk (n : Int) (l : List EdD) (a : Int) : Bool := goodEd n l && decide (0 ≤ a ∧ a < n)
def nearOut (n : Int) (l : List EdD) (a : Int) : List Int := if nearOk n l a then nearTo l a n.toNat else []
theorem nearOut_len (n : Int) (l : List EdD) (a : Int) : (nearOut n l a).length ≤ 4194304 := by
  unfold nearOut
  split
  · next h =>
    unfold nearOk at h
    rw [Bool.and_eq_true] at h
    have := (goodEd_true h.1).1
    have := nearTo_len l a n.toNat
    omega
  · simp
def NearPost (W : World) (out : List Int) (ok : Bool) (e : Ending) (W' : World) : Prop := ∃ u, e = .returned (.tuple #[u, .bool ok]) ∧ Own W' W.heap.size u out ∧ Below W.heap.size W W'
theorem NearPost.zero {W W' : World} {out : List Int} {ok : Bool} (h1 : ok = false) (h2 : out = []) (hb : Below W.heap.size W W') : NearPost W out ok (.returned (.tuple #[.slice none 0 0, .bool false])) W' := ⟨_, by rw [h1], by rw [h2]; exact Own.nil _ _, hb⟩
theorem NearPost.mk {W W' : World} {out zs : List Int} {ok : Bool} {u : Value} (h1 : ok = true) (h2 : out = zs) (ho : Own W' W.heap.size u zs) (hb : Below W.heap.size W W') : NearPost W out ok (.returned (.tuple #[u, .bool true])) W' := ⟨u, by rw [h1], by rw [h2]; exact ho, hb⟩

set_option maxRecDepth 100000 in
set_option maxHeartbeats 2000000 in
theorem implNearOf_any (W : World) (v : Value) (n : Int) (l : List EdD) (a : Int) (h : ReadsEd W v l) (hl : l.length ≤ 2097152) :
    Calls Try.prog 45 #[.int .i64 n, v, .int .i64 a] W (NearPost W (nearOut n l a) (nearOk n l a)) := by
  have CG : Hid (Calls Try.prog 36 #[.int .i64 n, v] W fun e W' => e = .returned (.bool (goodEd n l)) ∧ Below W.heap.size W W') := implGoodEd_any W v n l h hl
  have HRD : Hid (∀ w', Since W.heap.size W w' → ReadsEd w' v l) := fun w' hs => h.below hs.1
  have HS0 : Hid (Since W.heap.size W W) := Since.start W
  obtain ⟨a1, c1, rfl⟩ := h.shape
  have HD : Hid (nearOk n l a = (goodEd n l && decide (0 ≤ a ∧ a < n)) ∧ nearOut n l a = if nearOk n l a then nearTo l a n.toNat else []) := ⟨rfl, rfl⟩
  generalize nearOk n l a = ok at *
  generalize nearOut n l a = out at *
  clear h
  cases hg : goodEd n l with
  | false =>
    have HF : Hid (ok = false ∧ out = []) := by
      have h1 : ok = false := HD.out.1.trans (by rw [hg]; rfl)
      exact ⟨h1, HD.out.2.trans (by rw [h1]; rfl)⟩
    rw [hg] at CG
    clear hg HD
    go_enter Try.func45, Try.ntmps45
    go_wp2_with fail
    refine CG.out.mono ?_
    rintro e w1 ⟨rfl, hb1⟩
    have HB1 : Hid (Below W.heap.size W w1) := hb1
    clear hb1
    go_wp2
    refine bodyPost_ret (results_tmp2 rfl _ _ _) rfl ?_
    exact NearPost.zero HF.out.1 HF.out.2 HB1.out
  | true =>
    have HGT : Hid ((1 ≤ n ∧ n ≤ 12) ∧ l.length ≤ 40 ∧ FitEd n l ∧ RiseEd l) := goodEd_true hg
    have hu : IntKind.i64.wrap (n - 1) = n - 1 := by have := HGT.out.1; rw [IntKind.wrap_i64]; omega
    rw [hg] at CG
    cases hs : decide (0 ≤ a ∧ a < n) with
    | false =>
      have hs' : decide (0 ≤ a ∧ a ≤ n - 1) = false := by simp at hs ⊢; omega
      have HF : Hid (ok = false ∧ out = []) := by
        have h1 : ok = false := HD.out.1.trans (by rw [hg, hs]; rfl)
        exact ⟨h1, HD.out.2.trans (by rw [h1]; rfl)⟩
      clear hg HD
      go_enter Try.func45, Try.ntmps45
      go_wp2_with fail
      refine CG.out.mono ?_
      rintro e w1 ⟨rfl, hb1⟩
      have HB1 : Hid (Below W.heap.size W w1) := hb1
      clear hb1
      go_wp2_with fail
      refine (isSpot_any w1 a n).mono ?_
      rintro e ww ⟨rfl, hww⟩
      obtain rfl := hww
      rw [hs]
      go_wp2
      refine bodyPost_ret (results_tmp2 rfl _ _ _) rfl ?_
      exact NearPost.zero HF.out.1 HF.out.2 HB1.out
    | true =>
      have hs' : decide (0 ≤ a ∧ a ≤ n - 1) = true := by simp at hs ⊢; omega
      have HF : Hid (ok = true ∧ out = nearTo l a n.toNat) := by
        have h1 : ok = true := HD.out.1.trans (by rw [hg, hs]; rfl)
        exact ⟨h1, HD.out.2.trans (by rw [h1]; rfl)⟩
      have CN : Hid (∀ w', Since W.heap.size W w' → Calls Try.prog 93 #[.int .i64 n, .slice a1 l.length c1, .int .i64 a] w' fun e w2 => ∃ u, e = .returned u ∧ Own w2 w'.heap.size u (nearTo l a n.toNat) ∧ Below w'.heap.size w' w2) := fun w' hs => by
        have := HGT.out.1
        have t := nearOf_any w' _ n.toNat l a (HRD.out w' hs) hl (by omega)
        rw [show ((n.toNat : Nat) : Int) = n by omega] at t
        exact t
      clear hg HD
      go_enter Try.func45, Try.ntmps45
      go_wp2_with fail
      refine CG.out.mono ?_
      rintro e w1 ⟨rfl, hb1⟩
      have HS1 : Hid (Since W.heap.size W w1) := HS0.out.step hb1
      clear hb1
      go_wp2_with fail
      refine (isSpot_any w1 a n).mono ?_
      rintro e ww ⟨rfl, hww⟩
      obtain rfl := hww
      rw [hs]
      go_wp2_with fail
      refine (CN.out _ HS1.out).mono ?_
      rintro e w2 ⟨u2, rfl, ho2, hb2⟩
      have HO2 : Hid (Own w2 W.heap.size u2 (nearTo l a n.toNat)) := ho2.mono HS1.out.2
      have HS2 : Hid (Since W.heap.size W w2) := HS1.out.step hb2
      clear ho2 hb2
      go_wp2
      refine bodyPost_ret (results_tmp2 rfl _ _ _) rfl ?_
      exact NearPost.mk HF.out.1 HF.out.2 HO2.out HS2.out.1

set_option maxRecDepth 100000 in
set_option maxHeartbeats 2000000 in
theorem specNearOf_any (W : World) (v : Value) (n : Int) (l : List EdD) (a : Int) (h : ReadsEd W v l) (hl : l.length ≤ 2097152) :
    Calls Try.prog 46 #[.int .i64 n, v, .int .i64 a] W (NearPost W (nearOut n l a) (nearOk n l a)) := by
  have CG : Hid (Calls Try.prog 91 #[.int .i64 n, v] W fun e W' => e = .returned (.bool (goodEd n l)) ∧ Below W.heap.size W W') := specGoodEd_any W v n l h hl
  have HRD : Hid (∀ w', Since W.heap.size W w' → ReadsEd w' v l) := fun w' hs => h.below hs.1
  have HS0 : Hid (Since W.heap.size W W) := Since.start W
  obtain ⟨a1, c1, rfl⟩ := h.shape
  have HD : Hid (nearOk n l a = (goodEd n l && decide (0 ≤ a ∧ a < n)) ∧ nearOut n l a = if nearOk n l a then nearTo l a n.toNat else []) := ⟨rfl, rfl⟩
  generalize nearOk n l a = ok at *
  generalize nearOut n l a = out at *
  clear h
  cases hg : goodEd n l with
  | false =>
    have HF : Hid (ok = false ∧ out = []) := by
      have h1 : ok = false := HD.out.1.trans (by rw [hg]; rfl)
      exact ⟨h1, HD.out.2.trans (by rw [h1]; rfl)⟩
    rw [hg] at CG
    clear hg HD
    go_enter Try.func46, Try.ntmps46
    go_wp2_with fail
    refine CG.out.mono ?_
    rintro e w1 ⟨rfl, hb1⟩
    have HB1 : Hid (Below W.heap.size W w1) := hb1
    clear hb1
    go_wp2
    refine bodyPost_ret (results_tmp2 rfl _ _ _) rfl ?_
    exact NearPost.zero HF.out.1 HF.out.2 HB1.out
  | true =>
    have HGT : Hid ((1 ≤ n ∧ n ≤ 12) ∧ l.length ≤ 40 ∧ FitEd n l ∧ RiseEd l) := goodEd_true hg
    have hu : IntKind.i64.wrap (n - 1) = n - 1 := by have := HGT.out.1; rw [IntKind.wrap_i64]; omega
    rw [hg] at CG
    cases hs : decide (0 ≤ a ∧ a < n) with
    | false =>
      have hs' : decide (0 ≤ a ∧ a ≤ n - 1) = false := by simp at hs ⊢; omega
      have HF : Hid (ok = false ∧ out = []) := by
        have h1 : ok = false := HD.out.1.trans (by rw [hg, hs]; rfl)
        exact ⟨h1, HD.out.2.trans (by rw [h1]; rfl)⟩
      clear hg HD
      go_enter Try.func46, Try.ntmps46
      go_wp2_with fail
      refine CG.out.mono ?_
      rintro e w1 ⟨rfl, hb1⟩
      have HB1 : Hid (Below W.heap.size W w1) := hb1
      clear hb1
      go_wp2_with fail
      refine (l1In_any a 0 (n - 1) w1).mono ?_
      rintro e ww ⟨rfl, hww⟩
      obtain rfl := hww
      rw [hs']
      go_wp2
      refine bodyPost_ret (results_tmp2 rfl _ _ _) rfl ?_
      exact NearPost.zero HF.out.1 HF.out.2 HB1.out
    | true =>
      have hs' : decide (0 ≤ a ∧ a ≤ n - 1) = true := by simp at hs ⊢; omega
      have HF : Hid (ok = true ∧ out = nearTo l a n.toNat) := by
        have h1 : ok = true := HD.out.1.trans (by rw [hg, hs]; rfl)
        exact ⟨h1, HD.out.2.trans (by rw [h1]; rfl)⟩
      have CN : Hid (∀ w', Since W.heap.size W w' → Calls Try.prog 94 #[.slice a1 l.length c1, .int .i64 a] w' fun e w2 => ∃ u, e = .returned u ∧ Own w2 w'.heap.size u (nearTo l a n.toNat) ∧ Below w'.heap.size w' w2) := fun w' hs => by
        have := HGT.out.1
        have t := l8Near_any w' _ l a (HRD.out w' hs) HGT.out.2.1
        rw [nearS_eq HGT.out.2.2.1] at t
        exact t
      clear hg HD
      go_enter Try.func46, Try.ntmps46
      go_wp2_with fail
      refine CG.out.mono ?_
      rintro e w1 ⟨rfl, hb1⟩
      have HS1 : Hid (Since W.heap.size W w1) := HS0.out.step hb1
      clear hb1
      go_wp2_with fail
      refine (l1In_any a 0 (n - 1) w1).mono ?_
      rintro e ww ⟨rfl, hww⟩
      obtain rfl := hww
      rw [hs']
      go_wp2_with fail
      refine (CN.out _ HS1.out).mono ?_
      rintro e w2 ⟨u2, rfl, ho2, hb2⟩
      have HO2 : Hid (Own w2 W.heap.size u2 (nearTo l a n.toNat)) := ho2.mono HS1.out.2
      have HS2 : Hid (Since W.heap.size W w2) := HS1.out.step hb2
      clear ho2 hb2
      go_wp2
      refine bodyPost_ret (results_tmp2 rfl _ _ _) rfl ?_
      exact NearPost.mk HF.out.1 HF.out.2 HO2.out HS2.out.1

def degTo (l : List EdD) (n k : Nat) : List Int := (iota k).map fun s => ((nearTo l s n).length : Int)
theorem degTo_len (l : List EdD) (n k : Nat) : (degTo l n k).length = k := by simp [degTo, iota_len]
theorem degTo_succ (l : List EdD) (n k : Nat) : degTo l n (k + 1) = degTo l n k ++ [((nearTo l (k : Int) n).length : Int)] := by
  unfold degTo
  rw [iota_succ, List.map_append]
  rfl
def degOut (n : Int) (l : List EdD) : List Int := if goodEd n l then degTo l n.toNat n.toNat else []
theorem degOut_len (n : Int) (l : List EdD) : (degOut n l).length ≤ 4194304 := by
  unfold degOut
  split
  · next h =>
    have := (goodEd_true h).1
    rw [degTo_len]
    omega
  · simp

set_option maxRecDepth 100000 in
set_option maxHeartbeats 4000000 in
theorem implDegreesOf_any (W : World) (v : Value) (n : Int) (l : List EdD) (h : ReadsEd W v l) (hl : l.length ≤ 2097152) :
    Calls Try.prog 34 #[.int .i64 n, v] W (NearPost W (degOut n l) (goodEd n l)) := by
  have CG : Hid (Calls Try.prog 36 #[.int .i64 n, v] W fun e W' => e = .returned (.bool (goodEd n l)) ∧ Below W.heap.size W W') := implGoodEd_any W v n l h hl
  have HRD : Hid (∀ w', Since W.heap.size W w' → ReadsEd w' v l) := fun w' hs => h.below hs.1
  have HS0 : Hid (Since W.heap.size W W) := Since.start W
  obtain ⟨a1, c1, rfl⟩ := h.shape
  have HD : Hid (degOut n l = if goodEd n l then degTo l n.toNat n.toNat else []) := rfl
  generalize degOut n l = out at *
  clear h
  cases hg : goodEd n l with
  | false =>
    have HF : Hid (out = []) := HD.out.trans (by rw [hg]; rfl)
    rw [hg] at CG
    clear hg HD
    go_enter Try.func34, Try.ntmps34
    go_wp2_with fail
    refine CG.out.mono ?_
    rintro e w1 ⟨rfl, hb1⟩
    have HB1 : Hid (Below W.heap.size W w1) := hb1
    clear hb1
    go_wp2
    refine bodyPost_ret (results_tmp2 rfl _ _ _) rfl ?_
    exact NearPost.zero rfl HF.out HB1.out
  | true =>
    have HGT : Hid ((1 ≤ n ∧ n ≤ 12) ∧ l.length ≤ 40 ∧ FitEd n l ∧ RiseEd l) := goodEd_true hg
    rw [hg] at CG
    have HF : Hid (out = degTo l n.toNat n.toNat) := HD.out.trans (by rw [hg]; rfl)
    clear hg HD
    obtain ⟨m, hm⟩ : ∃ m : Nat, n = (m : Int) := ⟨n.toNat, by have := HGT.out.1; omega⟩
    have hm12 : m ≤ 12 := by have := HGT.out.1; omega
    have HF : Hid (out = degTo l m m) := by
      have := HF.out
      rw [hm, Int.toNat_natCast] at this
      exact this
    have CN : Hid (∀ w', Since W.heap.size W w' → ∀ s : Int, Calls Try.prog 93 #[.int .i64 (m : Int), .slice a1 l.length c1, .int .i64 s] w' fun e w2 => ∃ u, e = .returned u ∧ Own w2 w'.heap.size u (nearTo l s m) ∧ Below w'.heap.size w' w2) := fun w' hs s => by
      exact nearOf_any w' _ m l s (HRD.out w' hs) hl hm12
      
      
    subst hm
    go_enter Try.func34, Try.ntmps34
    go_wp2_with fail
    refine CG.out.mono ?_
    rintro e w1 ⟨rfl, hb1⟩
    have HS1 : Hid (Since W.heap.size W w1) := HS0.out.step hb1
    clear hb1
    go_wp2
    go_loopw [6, 13] (fun u i wr => ∃ k : Nat, k ≤ m ∧ i = .int .i64 k ∧ Hid (Own wr W.heap.size u (degTo l m k) ∧ Since W.heap.size W wr)) (fun _ i _ => m - (intOf i).toNat)
    case atStart => exact ⟨0, Nat.zero_le _, rfl, Own.nil _ _, HS1.out⟩
    case round =>
      clear HS1
      obtain ⟨k, hk, rfl, HK⟩ := hrel
      obtain ⟨a2, c2, rfl⟩ := HK.out.1.shape
      by_cases hlt : k < m
      · have hlt' : (k : Int) < (m : Int) := by omega
        have HZ : Hid (degTo l m (k + 1) = degTo l m k ++ [((nearTo l (k : Int) m).length : Int)]) := degTo_succ l m k
        have HL : Hid ((degTo l m k).length ≤ 12) := by show _ ≤ _; rw [degTo_len]; omega
        go_wp2_with fail
        refine (CN.out _ HK.out.2 (k : Int)).mono ?_
        rintro e wq ⟨uq, rfl, hoq, hbq⟩
        obtain ⟨xq, yq, rfl⟩ := hoq.shape
        have SQ : Hid (Since W.heap.size W wq) := HK.out.2.step hbq
        have OQ : Hid (Own wq W.heap.size (.slice a2 (degTo l m k).length c2) (degTo l m k)) := HK.out.1.below hbq
        clear HK hbq hoq
        generalize degTo l m k = z0 at *
        generalize (nearTo l (k : Int) m).length = cnt at *
        have hb1 : Below wq.heap.size wq (wq.alloc (.cells #[.int .i64 (cnt : Int)] 3)) := (Below.refl _ wq).alloc (Nat.le_refl _) _
        have HC : Hid (∀ ty, ∃ v' w', (Builtin.append_ #[35, 35] ty #[.slice a2 z0.length c2, .slice (some ⟨wq.heap.size, 0, none⟩) 1 1]).run Try.prog (wq.alloc (.cells #[.int .i64 (cnt : Int)] 3)) = .ok v' w' ∧ Grown (wq.alloc (.cells #[.int .i64 (cnt : Int)] 3)) W.heap.size 3 1 (.slice a2 z0.length c2) (z0 ++ [(cnt : Int)]).length ((z0 ++ [(cnt : Int)]).map (Value.int .i64)) v' w') := fun ty =>
          run_app1 _ _ _ z0 (OQ.out.below hb1) wq.heap.size 1 (cnt : Int) (new_cell _ _ _) (by have := HL.out; omega) (by have := SQ.out.2; simp; omega) ty
        have SQ1 : Hid (Since W.heap.size W (wq.alloc (.cells #[.int .i64 (cnt : Int)] 3))) := SQ.out.step hb1
        clear hb1
        go_wp2_with (at_builtin; refine list_app (by rfl) (.tmp 16) (.tmp 22) 35 (by rfl) (.slice a2 z0.length c2) (.slice (some ⟨wq.heap.size, 0, none⟩) 1 1) (by rfl) (by rfl) _ HC.out ?_; intro v5 w5 hg5; have HF5 : Hid (Own w5 W.heap.size v5 (degTo l m (k + 1)) ∧ Since W.heap.size W w5) := ⟨by rw [HZ.out]; exact hg5.own, ⟨SQ1.out.1.trans hg5.below, Nat.le_trans SQ1.out.2 hg5.size⟩⟩; clear hg5)
        go_roundw
        case rel => exact ⟨k + 1, by omega, by go_num, HF5.out⟩
        case measure => simp [intOf]; omega
      · have hlt' : ¬ (k : Int) < (m : Int) := by omega
        have e : k = m := by omega
        subst e
        have HE : Hid (Own wr W.heap.size (.slice a2 (degTo l k k).length c2) (degTo l k k) ∧ Below W.heap.size W wr) := ⟨HK.out.1, HK.out.2.1⟩
        clear HK
        go_wp2
        refine bodyPost_ret (results_tmp2 rfl _ _ _) rfl ?_
        exact NearPost.mk rfl HF.out HE.out.1 HE.out.2

set_option maxRecDepth 100000 in
set_option maxHeartbeats 4000000 in
theorem specDegreesOf_any (W : World) (v : Value) (n : Int) (l : List EdD) (h : ReadsEd W v l) (hl : l.length ≤ 2097152) :
    Calls Try.prog 35 #[.int .i64 n, v] W (NearPost W (degOut n l) (goodEd n l)) := by
  have CG : Hid (Calls Try.prog 91 #[.int .i64 n, v] W fun e W' => e = .returned (.bool (goodEd n l)) ∧ Below W.heap.size W W') := specGoodEd_any W v n l h hl
  have HRD : Hid (∀ w', Since W.heap.size W w' → ReadsEd w' v l) := fun w' hs => h.below hs.1
  have HS0 : Hid (Since W.heap.size W W) := Since.start W
  obtain ⟨a1, c1, rfl⟩ := h.shape
  have HD : Hid (degOut n l = if goodEd n l then degTo l n.toNat n.toNat else []) := rfl
  generalize degOut n l = out at *
  clear h
  cases hg : goodEd n l with
  | false =>
    have HF : Hid (out = []) := HD.out.trans (by rw [hg]; rfl)
    rw [hg] at CG
    clear hg HD
    go_enter Try.func35, Try.ntmps35
    go_wp2_with fail
    refine CG.out.mono ?_
    rintro e w1 ⟨rfl, hb1⟩
    have HB1 : Hid (Below W.heap.size W w1) := hb1
    clear hb1
    go_wp2
    refine bodyPost_ret (results_tmp2 rfl _ _ _) rfl ?_
    exact NearPost.zero rfl HF.out HB1.out
  | true =>
    have HGT : Hid ((1 ≤ n ∧ n ≤ 12) ∧ l.length ≤ 40 ∧ FitEd n l ∧ RiseEd l) := goodEd_true hg
    rw [hg] at CG
    have HF : Hid (out = degTo l n.toNat n.toNat) := HD.out.trans (by rw [hg]; rfl)
    clear hg HD
    obtain ⟨m, hm⟩ : ∃ m : Nat, n = (m : Int) := ⟨n.toNat, by have := HGT.out.1; omega⟩
    have hm12 : m ≤ 12 := by have := HGT.out.1; omega
    have HF : Hid (out = degTo l m m) := by
      have := HF.out
      rw [hm, Int.toNat_natCast] at this
      exact this
    have CN : Hid (∀ w', Since W.heap.size W w' → ∀ s : Int, Calls Try.prog 94 #[.slice a1 l.length c1, .int .i64 s] w' fun e w2 => ∃ u, e = .returned u ∧ Own w2 w'.heap.size u (nearTo l s m) ∧ Below w'.heap.size w' w2) := fun w' hs s => by
      have t := l8Near_any w' _ l s (HRD.out w' hs) HGT.out.2.1
      rw [nearS_eq HGT.out.2.2.1, hm, Int.toNat_natCast] at t
      exact t
    subst hm
    go_enter Try.func35, Try.ntmps35
    go_wp2_with fail
    refine CG.out.mono ?_
    rintro e w1 ⟨rfl, hb1⟩
    have HS1 : Hid (Since W.heap.size W w1) := HS0.out.step hb1
    clear hb1
    go_wp2
    go_loopw [6, 7] (fun u i wr => ∃ k : Nat, k ≤ m ∧ i = .int .i64 k ∧ Hid (Own wr W.heap.size u (degTo l m k) ∧ Since W.heap.size W wr)) (fun _ i _ => m - (intOf i).toNat)
    case atStart => exact ⟨0, Nat.zero_le _, rfl, Own.nil _ _, HS1.out⟩
    case round =>
      clear HS1
      obtain ⟨k, hk, rfl, HK⟩ := hrel
      obtain ⟨a2, c2, rfl⟩ := HK.out.1.shape
      by_cases hlt : k < m
      · have hlt' : (k : Int) < (m : Int) := by omega
        have HZ : Hid (degTo l m (k + 1) = degTo l m k ++ [((nearTo l (k : Int) m).length : Int)]) := degTo_succ l m k
        have HL : Hid ((degTo l m k).length ≤ 12) := by show _ ≤ _; rw [degTo_len]; omega
        go_wp2_with fail
        refine (CN.out _ HK.out.2 (k : Int)).mono ?_
        rintro e wq ⟨uq, rfl, hoq, hbq⟩
        obtain ⟨xq, yq, rfl⟩ := hoq.shape
        have SQ : Hid (Since W.heap.size W wq) := HK.out.2.step hbq
        have OQ : Hid (Own wq W.heap.size (.slice a2 (degTo l m k).length c2) (degTo l m k)) := HK.out.1.below hbq
        clear HK hbq hoq
        generalize degTo l m k = z0 at *
        generalize (nearTo l (k : Int) m).length = cnt at *
        have hb1 : Below wq.heap.size wq (wq.alloc (.cells #[.int .i64 (cnt : Int)] 3)) := (Below.refl _ wq).alloc (Nat.le_refl _) _
        have HC : Hid (∀ ty, ∃ v' w', (Builtin.append_ #[35, 35] ty #[.slice a2 z0.length c2, .slice (some ⟨wq.heap.size, 0, none⟩) 1 1]).run Try.prog (wq.alloc (.cells #[.int .i64 (cnt : Int)] 3)) = .ok v' w' ∧ Grown (wq.alloc (.cells #[.int .i64 (cnt : Int)] 3)) W.heap.size 3 1 (.slice a2 z0.length c2) (z0 ++ [(cnt : Int)]).length ((z0 ++ [(cnt : Int)]).map (Value.int .i64)) v' w') := fun ty =>
          run_app1 _ _ _ z0 (OQ.out.below hb1) wq.heap.size 1 (cnt : Int) (new_cell _ _ _) (by have := HL.out; omega) (by have := SQ.out.2; simp; omega) ty
        have SQ1 : Hid (Since W.heap.size W (wq.alloc (.cells #[.int .i64 (cnt : Int)] 3))) := SQ.out.step hb1
        clear hb1
        go_wp2_with (at_builtin; refine list_app (by rfl) (.tmp 17) (.tmp 22) 35 (by rfl) (.slice a2 z0.length c2) (.slice (some ⟨wq.heap.size, 0, none⟩) 1 1) (by rfl) (by rfl) _ HC.out ?_; intro v5 w5 hg5; have HF5 : Hid (Own w5 W.heap.size v5 (degTo l m (k + 1)) ∧ Since W.heap.size W w5) := ⟨by rw [HZ.out]; exact hg5.own, ⟨SQ1.out.1.trans hg5.below, Nat.le_trans SQ1.out.2 hg5.size⟩⟩; clear hg5)
        go_roundw
        case rel => exact ⟨k + 1, by omega, by go_num, HF5.out⟩
        case measure => simp [intOf]; omega
      · have hlt' : ¬ (k : Int) < (m : Int) := by omega
        have e : k = m := by omega
        subst e
        have HE : Hid (Own wr W.heap.size (.slice a2 (degTo l k k).length c2) (degTo l k k) ∧ Below W.heap.size W wr) := ⟨HK.out.1, HK.out.2.1⟩
        clear HK
        go_wp2
        refine bodyPost_ret (results_tmp2 rfl _ _ _) rfl ?_
        exact NearPost.mk rfl HF.out HE.out.1 HE.out.2
end Go.Proofs.Ythlbmkefjjckaac
