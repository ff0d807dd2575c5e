/-
  'NearOf' and 'DegreesOf' of the program and of the model.
-/
import Derived.Test.YthlbmkefjjckaadBunB
namespace Go.Proofs.Ythlbmkefjjckaad
open Go.RowKit
set_option linter.unusedVariables false

set_option maxRecDepth 100000 in
set_option maxHeartbeats 4000000 in
theorem l8Near_any (W : World) (v : Value) (l : List EdD) (a : Int) (h : ReadsEd W v l) (hl : l.length ≤ 40) :
    Calls Try.prog 68 #[v, .int .i64 a] W fun e W' => ∃ v', e = .returned v' ∧ Own W' W.heap.size v' (nearS l a) ∧ Below W.heap.size W W' := by
  have HR : Hid (∀ w', Since W.heap.size W w' → ReadsEd w' v l) := fun w' hs => h.below hs.1
  obtain ⟨a1, cap1, rfl, hc1⟩ := h
  have HS0 : Hid (Since W.heap.size W W) := Since.start W
  by_cases h1 : l = []
  · subst h1
    simp only [List.length_nil]
    clear hc1 HR
    go_enter Try.func68, Try.ntmps68
    go_wp2
    refine wp_loop_rounds 1 ?_
    rw [rounds_succ]
    go_wp2
    go_ret
    exact ⟨_, rfl, Own.nil _ _, HS0.out.1⟩
  obtain ⟨g1, o1, rfl, hg1, hc1⟩ := hc1.resolve_left h1
  have HC1 : Hid (∀ W1, Since W.heap.size W W1 → ∀ j (hj : j < l.length), EdAt W1 g1 (o1 + j * 3) l[j]) := fun W1 hS j hj => (hc1 j hj).below hg1 hS.1
  have HL40 : Hid (l.length ≤ 40) := hl
  clear hc1 hg1 h1 HR
  go_enter Try.func68, Try.ntmps68
  go_wp2
  go_loopw [5, 10] (fun u i wr => ∃ k : Nat, k ≤ l.length ∧ i = .int .i64 k ∧ Hid (Own wr W.heap.size u (nearS (l.take k) a) ∧ Since W.heap.size W wr)) (fun _ i _ => l.length - (intOf i).toNat)
  case atStart => exact ⟨0, Nat.zero_le _, rfl, Own.nil _ _, HS0.out⟩
  case round =>
    obtain ⟨k, hk, rfl, HK⟩ := hrel
    obtain ⟨a2, c2', rfl⟩ := HK.out.1.shape
    by_cases hlt : k < l.length
    · have hlt' : (k : Int) < (l.length : Int) := by omega
      obtain ⟨q0, q1, q2⟩ := HC1.out wr HK.out.2 k hlt
      have HT := nearS_take l a k hlt
      have HL : Hid ((nearS (l.take k) a).length ≤ 80) := by
        show _ ≤ _
        have := nearS_len a (l.take k) []
        have h2 := HL40.out
        simp only [List.length_nil, List.length_take] at this
        unfold nearS
        omega
      generalize l[k] = x at *
      have S0 : Hid (Since W.heap.size W (wr.alloc (.cells #[.int .i64 x.A, .int .i64 x.B, .int .i64 x.Cost] 84))) := HK.out.2.step ((Below.refl _ wr).alloc (Nat.le_refl _) _)
      have O0 : Hid (Own (wr.alloc (.cells #[.int .i64 x.A, .int .i64 x.B, .int .i64 x.Cost] 84)) W.heap.size (.slice a2 (nearS (l.take k) a).length c2') (nearS (l.take k) a)) := HK.out.1.alloc _
      have HX : Hid (∀ w', Since (wr.alloc (.cells #[.int .i64 x.A, .int .i64 x.B, .int .i64 x.Cost] 84)).heap.size (wr.alloc (.cells #[.int .i64 x.A, .int .i64 x.B, .int .i64 x.Cost] 84)) w' → w'.cell? ⟨wr.heap.size, 0, none⟩ = some (.int .i64 x.A) ∧ w'.cell? ⟨wr.heap.size, 1, none⟩ = some (.int .i64 x.B) ∧ w'.cell? ⟨wr.heap.size, 2, none⟩ = some (.int .i64 x.Cost)) := newEd wr x
      have SB0 : Hid (Since (wr.alloc (.cells #[.int .i64 x.A, .int .i64 x.B, .int .i64 x.Cost] 84)).heap.size (wr.alloc (.cells #[.int .i64 x.A, .int .i64 x.B, .int .i64 x.Cost] 84)) (wr.alloc (.cells #[.int .i64 x.A, .int .i64 x.B, .int .i64 x.Cost] 84))) := Since.start _
      obtain ⟨c0, c1, c2⟩ := HX.out (wr.alloc (.cells #[.int .i64 x.A, .int .i64 x.B, .int .i64 x.Cost] 84)) SB0.out
      clear HK
      by_cases h1 : x.A = a
      · have d1 : (x.A == a) = true := beq_iff_eq.2 h1
        by_cases h2 : x.B = a
        · have d2 : (x.B == a) = true := beq_iff_eq.2 h2
          have HN : Hid (nearS (l.take (k + 1)) a = insL x.A (insL x.B (nearS (l.take k) a))) := HT.trans (by unfold nearAdd; dsimp only; rw [if_pos h2, if_pos h1])
          have HL2 : Hid ((insL x.B (nearS (l.take k) a)).length ≤ 81) := Nat.le_trans (insL_len _ _) (Nat.succ_le_succ HL.out)
          clear HT h1 h2
          go_wp2_with fail
          refine (l1Put_any _ W.heap.size _ (nearS (l.take k) a) x.B O0.out S0.out.2 (by have := HL.out; simp <;> omega)).mono ?_
          rintro e w1 ⟨uw1, rfl, how1, hbw1⟩
          have Sw1 : Hid (Since W.heap.size W w1) := S0.out.step hbw1
          have Ow1 : Hid (Own w1 W.heap.size uw1 (insL x.B (nearS (l.take k) a))) := how1
          obtain ⟨xw1, yw1, rfl⟩ := how1.shape
          have Xw1 := HX.out w1 (SB0.out.step hbw1)
          have SBw1 : Hid (Since (wr.alloc (.cells #[.int .i64 x.A, .int .i64 x.B, .int .i64 x.Cost] 84)).heap.size (wr.alloc (.cells #[.int .i64 x.A, .int .i64 x.B, .int .i64 x.Cost] 84)) w1) := SB0.out.step hbw1
          clear how1 hbw1 c0 c1 c2
          obtain ⟨c0, c1, c2⟩ := Xw1
          have HL : Hid ((insL x.B (nearS (l.take k) a)).length ≤ 81) := HL2.out
          go_wp2_with fail
          refine (l1Put_any w1 W.heap.size _ (insL x.B (nearS (l.take k) a)) x.A Ow1.out Sw1.out.2 (by have := HL.out; simp <;> omega)).mono ?_
          rintro e w2 ⟨uw2, rfl, how2, hbw2⟩
          have Sw2 : Hid (Since W.heap.size W w2) := Sw1.out.step hbw2
          have Ow2 : Hid (Own w2 W.heap.size uw2 (insL x.A (insL x.B (nearS (l.take k) a)))) := how2
          obtain ⟨xw2, yw2, rfl⟩ := how2.shape
          have Xw2 := HX.out w2 (SBw1.out.step hbw2)
          have SBw2 : Hid (Since (wr.alloc (.cells #[.int .i64 x.A, .int .i64 x.B, .int .i64 x.Cost] 84)).heap.size (wr.alloc (.cells #[.int .i64 x.A, .int .i64 x.B, .int .i64 x.Cost] 84)) w2) := SBw1.out.step hbw2
          clear how2 hbw2 c0 c1 c2
          obtain ⟨c0, c1, c2⟩ := Xw2
          have OF : Hid (Own w2 W.heap.size (.slice xw2 (insL x.A (insL x.B (nearS (l.take k) a))).length yw2) (nearS (l.take (k + 1)) a)) := by
            show Own _ _ _ _
            rw [HN.out]
            exact Ow2.out
          go_wp2
          go_roundw
          case rel => exact ⟨k + 1, by omega, by go_num, OF.out, Sw2.out⟩
          case measure => simp [intOf]; omega
        · have d2 : (x.B == a) = false := beq_eq_false_iff_ne.2 h2
          have HN : Hid (nearS (l.take (k + 1)) a = insL x.B (nearS (l.take k) a)) := HT.trans (by unfold nearAdd; dsimp only; rw [if_neg h2, if_pos h1])
          clear HT h1 h2
          go_wp2_with fail
          refine (l1Put_any _ W.heap.size _ (nearS (l.take k) a) x.B O0.out S0.out.2 (by have := HL.out; simp <;> omega)).mono ?_
          rintro e w1 ⟨uw1, rfl, how1, hbw1⟩
          have Sw1 : Hid (Since W.heap.size W w1) := S0.out.step hbw1
          have Ow1 : Hid (Own w1 W.heap.size uw1 (insL x.B (nearS (l.take k) a))) := how1
          obtain ⟨xw1, yw1, rfl⟩ := how1.shape
          have Xw1 := HX.out w1 (SB0.out.step hbw1)
          have SBw1 : Hid (Since (wr.alloc (.cells #[.int .i64 x.A, .int .i64 x.B, .int .i64 x.Cost] 84)).heap.size (wr.alloc (.cells #[.int .i64 x.A, .int .i64 x.B, .int .i64 x.Cost] 84)) w1) := SB0.out.step hbw1
          clear how1 hbw1 c0 c1 c2
          obtain ⟨c0, c1, c2⟩ := Xw1
          have OF : Hid (Own w1 W.heap.size (.slice xw1 (insL x.B (nearS (l.take k) a)).length yw1) (nearS (l.take (k + 1)) a)) := by
            show Own _ _ _ _
            rw [HN.out]
            exact Ow1.out
          go_wp2
          go_roundw
          case rel => exact ⟨k + 1, by omega, by go_num, OF.out, Sw1.out⟩
          case measure => simp [intOf]; omega
      · have d1 : (x.A == a) = false := beq_eq_false_iff_ne.2 h1
        by_cases h2 : x.B = a
        · have d2 : (x.B == a) = true := beq_iff_eq.2 h2
          have HN : Hid (nearS (l.take (k + 1)) a = insL x.A (nearS (l.take k) a)) := HT.trans (by unfold nearAdd; dsimp only; rw [if_pos h2, if_neg h1])
          clear HT h1 h2
          go_wp2_with fail
          refine (l1Put_any _ W.heap.size _ (nearS (l.take k) a) x.A O0.out S0.out.2 (by have := HL.out; simp <;> omega)).mono ?_
          rintro e w1 ⟨uw1, rfl, how1, hbw1⟩
          have Sw1 : Hid (Since W.heap.size W w1) := S0.out.step hbw1
          have Ow1 : Hid (Own w1 W.heap.size uw1 (insL x.A (nearS (l.take k) a))) := how1
          obtain ⟨xw1, yw1, rfl⟩ := how1.shape
          have Xw1 := HX.out w1 (SB0.out.step hbw1)
          have SBw1 : Hid (Since (wr.alloc (.cells #[.int .i64 x.A, .int .i64 x.B, .int .i64 x.Cost] 84)).heap.size (wr.alloc (.cells #[.int .i64 x.A, .int .i64 x.B, .int .i64 x.Cost] 84)) w1) := SB0.out.step hbw1
          clear how1 hbw1 c0 c1 c2
          obtain ⟨c0, c1, c2⟩ := Xw1
          have OF : Hid (Own w1 W.heap.size (.slice xw1 (insL x.A (nearS (l.take k) a)).length yw1) (nearS (l.take (k + 1)) a)) := by
            show Own _ _ _ _
            rw [HN.out]
            exact Ow1.out
          go_wp2
          go_roundw
          case rel => exact ⟨k + 1, by omega, by go_num, OF.out, Sw1.out⟩
          case measure => simp [intOf]; omega
        · have d2 : (x.B == a) = false := beq_eq_false_iff_ne.2 h2
          have HN : Hid (nearS (l.take (k + 1)) a = nearS (l.take k) a) := HT.trans (by unfold nearAdd; dsimp only; rw [if_neg h2, if_neg h1])
          have OF : Hid (Own (wr.alloc (.cells #[.int .i64 x.A, .int .i64 x.B, .int .i64 x.Cost] 84)) W.heap.size (.slice a2 (nearS (l.take k) a).length c2') (nearS (l.take (k + 1)) a)) := by
            show Own _ _ _ _
            rw [HN.out]
            exact O0.out
          clear HT h1 h2
          go_wp2
          go_roundw
          case rel => exact ⟨k + 1, by omega, by go_num, OF.out, S0.out⟩
          case measure => simp [intOf]; omega
    · have hlt' : ¬ (k : Int) < (l.length : Int) := by omega
      have HF : Hid (Own wr W.heap.size (.slice a2 (nearS (l.take k) a).length c2') (nearS l a) ∧ Below W.heap.size W wr) := ⟨by
        have := HK.out.1
        rw [List.take_of_length_le (show l.length ≤ k by omega)] at this ⊢
        exact this, HK.out.2.1⟩
      clear HK
      go_wp2
      go_ret
      exact ⟨_, rfl, HF.out⟩

def nearOk (n : Int) (l : List EdD) (a : Int) : Bool := goodEd n l && decide (0 ≤ a ∧ a < n)
def nearOut (n : Int) (l : List EdD) (a : Int) : List Int := if nearOk n l a then nearTo l a n.toNat else []
theorem nearOut_len (n : Int) (l : List EdD) (a : Int) : (nearOut n l a).length ≤ 4194304 := by
  unfold nearOut
  split
  · next h =>
    unfold nearOk at h
    rw [Bool.and_eq_true] at h
    have := (goodEd_true h.1).1
    have := nearTo_len l a n.toNat
    omega
  · simp
def NearPost (W : World) (out : List Int) (ok : Bool) (e : Ending) (W' : World) : Prop := ∃ u, e = .returned (.tuple #[u, .bool ok]) ∧ Own W' W.heap.size u out ∧ Below W.heap.size W W'
theorem NearPost.zero {W W' : World} {out : List Int} {ok : Bool} (h1 : ok = false) (h2 : out = []) (hb : Below W.heap.size W W') : NearPost W out ok (.returned (.tuple #[.slice none 0 0, .bool false])) W' := ⟨_, by rw [h1], by rw [h2]; exact Own.nil _ _, hb⟩
theorem NearPost.mk {W W' : World} {out zs : List Int} {ok : Bool} {u : Value} (h1 : ok = true) (h2 : out = zs) (ho : Own W' W.heap.size u zs) (hb : Below W.heap.size W W') : NearPost W out ok (.returned (.tuple #[u, .bool true])) W' := ⟨u, by rw [h1], by rw [h2]; exact ho, hb⟩

def degTo (l : List EdD) (n k : Nat) : List Int := (iota k).map fun s => ((nearTo l s n).length : Int)
theorem degTo_len (l : List EdD) (n k : Nat) : (degTo l n k).length = k := by simp [degTo, iota_len]
theorem degTo_succ (l : List EdD) (n k : Nat) : degTo l n (k + 1) = degTo l n k ++ [((nearTo l (k : Int) n).length : Int)] := by
  unfold degTo
  rw [iota_succ, List.map_append]
  rfl
def degOut (n : Int) (l : List EdD) : List Int := if goodEd n l then degTo l n.toNat n.toNat else []
theorem degOut_len (n : Int) (l : List EdD) : (degOut n l).length ≤ 4194304 := by
  unfold degOut
  split
  · next h =>
    have := (goodEd_true h).1
    rw [degTo_len]
    omega
  · simp

end Go.Proofs.Ythlbmkefjjckaad
