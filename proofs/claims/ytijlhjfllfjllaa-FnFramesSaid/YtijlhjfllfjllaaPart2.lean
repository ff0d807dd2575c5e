/-
  What the cursor's 'part' answers: the walk.
-/
import Derived.Test.YtijlhjfllfjllaaPart1
import Derived.Deep.RegionLaw
namespace Go.Proofs.Ytijlhjfllfjllaa
open Go.RowKit

theorem own_one (W : World) (x : Int) : Own (W.alloc (.cells #[.int .i64 x] 3)) W.heap.size (.slice (some ⟨W.heap.size, 0, none⟩) 1 1) [x] :=
  ⟨by simp, .inr ⟨W.heap.size, 1, #[.int .i64 x], rfl, Nat.le_refl _, heap_alloc_new W _, Nat.le_refl _, by decide, rfl, by simp⟩⟩
theorem only3 (c : Nat) (W : World) : Only c W ((W.alloc (.cells #[.int .i64 (-1), .int .i64 0, .int .i64 65536] 3)).drew) := Only.alloc (c := c) (Only.refl c W) _
theorem Mid.step {B : Nat} {w0 W : World} {c : Nat} {a : Option Addr} {len cap m m' q : Nat} {y : Value} {zs : List Int} {w w' : World} (h : Mid B w0 W c a len cap m q y zs w) (ho : Only c w w') (hcq : c < q + 1) (hc : Cur B w0 w' c a len cap m') :
    Mid B w0 W c a len cap m' q y zs w' := ⟨Nat.lt_of_lt_of_le h.1 ho.1, h.2.1.only ho hcq, hc, h.2.2.2.trans ho⟩

set_option maxRecDepth 100000 in
set_option maxHeartbeats 4000000 in
theorem part_any (B : Nat) (w0 W : World) (c : Nat) (a : Option Addr) (len cap m : Nat) (hC : Code B w0 a len) (hl : len ≤ 9223372036854775807) (hm : m ≤ 90000) (h : Cur B w0 W c a len cap m) :
    Calls Try.prog 69 #[.pointer (some ⟨c, 0, none⟩)] W (PartPost B w0 W c a len cap (m + 60)) := by
  have HD : Hid (Code B w0 a len) := hC
  have hcW : c < W.heap.size := h.2.1
  clear hC
  go_enter Try.func69, Try.ntmps69
  go_wp2_with fail
  refine (pick_any B w0 _ c a len cap m 4 HD.out hl (by omega) (h.alloc _) (by omega) (by omega)).mono ?_
  rintro e W1 ⟨q, rfl, q0, q1, hc1, ho1⟩
  have hsz : W.heap.size < W1.heap.size := by have := ho1.1; simp at this; omega
  have HRQ : Hid (W.heap.size < W1.heap.size) := hsz
  have hrq : ¬ W.heap.size = W1.heap.size := by omega
  have hqr : ¬ W1.heap.size = W.heap.size := by omega
  have HBN : Hid (∀ k : Int, Boxes (W1.alloc (.cells #[.int .i64 k, .string ⟨#[]⟩, .slice none 0 0] 74)) W.heap.size W1.heap.size k ⟨#[]⟩ (.slice none 0 0)) := fun k => boxes_new W W1 c k ho1 hcW
  have HMN : Hid (∀ k : Int, Mid B w0 W c a len cap (m + 2) W1.heap.size (.slice none 0 0) [] (W1.alloc (.cells #[.int .i64 k, .string ⟨#[]⟩, .slice none 0 0] 74))) := fun k =>
    ⟨by simp, Own.nil _ _, hc1.alloc _, ((Only.alloc (Only.refl c W) _).trans ho1).alloc _⟩
  clear h hc1 ho1
  have hq : q = 0 ∨ (q = 1 ∨ q = 2) ∨ q = 3 := by omega
  rcases hq with rfl | hq | rfl
  · have HM1 := HMN.out 1
    have HB1 := HBN.out 1
    have HL1 : Hid (W1.heap.size < (W1.alloc (.cells #[.int .i64 1, .string ⟨#[]⟩, .slice none 0 0] 74)).heap.size) := HM1.1
    obtain ⟨w1, hw1⟩ : ∃ w1, w1 = W1.alloc (.cells #[.int .i64 1, .string ⟨#[]⟩, .slice none 0 0] 74) := ⟨_, rfl⟩
    have hsz1 : w1.heap.size = W1.heap.size + 1 := by rw [hw1]; simp
    rw [← hw1] at HM1 HB1
    have HM1' : Hid (Mid B w0 W c a len cap (m + 2) W1.heap.size (.slice none 0 0) [] w1) := HM1
    have HB1' : Hid (Boxes w1 W.heap.size W1.heap.size 1 ⟨#[]⟩ (.slice none 0 0)) := HB1
    have HW1 : Hid (w1 = W1.alloc (.cells #[.int .i64 1, .string ⟨#[]⟩, .slice none 0 0] 74)) := hw1
    clear HM1 HB1 hw1 HL1
    go_wp2_with fail
    rw [← HW1.out, show W1.heap.size + 1 = w1.heap.size from hsz1.symm]
    refine (of_any B w0 _ c w1.heap.size [⟨#[97]⟩, ⟨#[98, 114, 105, 100, 103, 101]⟩, ⟨#[116, 119, 101, 110, 116, 121, 108, 101, 116, 116, 101, 114, 115, 105, 110, 97, 110, 97, 109, 101]⟩, ⟨#[110, 111, 114, 116, 104]⟩] a len cap 4 _ HD.out hl (by omega) (HM1'.out.2.2.1.alloc _) (by simp) (by simp) (by simp) (by omega) (four_texts w1 _ _ _ _)).mono ?_
    rintro e W2 ⟨t, rfl, ht', hc2, ho2⟩
    have ho2' : Only c w1 W2 := (Only.alloc (Only.refl _ _) _).trans ho2
    have ht : t.size ≤ 20 := by
      simp only [List.mem_cons, List.not_mem_nil, or_false] at ht'
      rcases ht' with rfl | rfl | rfl | rfl <;> decide
    have HMp : Hid (Mid B w0 W c a len cap (m + 30) W1.heap.size (.slice none 0 0) [] W2) := HM1'.out.step ho2' (by omega) (hc2.mono (by omega))
    have HBp : Hid (Boxes W2 W.heap.size W1.heap.size 1 ⟨#[]⟩ (.slice none 0 0)) := HB1'.out.only ho2' (by omega) (by omega) (by omega) (by omega)
    obtain ⟨⟨f0, f1, f2⟩, ⟨f3, f4, f5⟩, ⟨f6, f7, f8⟩, ⟨f9, f10, f11⟩⟩ := HBp.out
    clear hc2 ho2 ho2' ht' HM1' HB1' HW1

    have HW2 : Hid (Mid B w0 W c a len cap (m + 30) W1.heap.size (.slice none 0 0) ([]) (W2.setCell ⟨W1.heap.size, 1, none⟩ (.string t))) := HMp.out.sets (r := W.heap.size) (Nat.le_refl _) HRQ.out hcW (.set .refl _ _ (.inr rfl) _)
    have HBW : Hid (Boxes (W2.setCell ⟨W1.heap.size, 1, none⟩ (.string t)) W.heap.size W1.heap.size 1 (t) (.slice none 0 0)) := HBp.out.text hrq _

    go_wp2_with fail
    refine (pick_any B w0 _ c a len cap _ 40 HD.out hl (by omega) HW2.out.2.2.1 (by omega) (by omega)).mono ?_
    rintro e W3 ⟨z, rfl, z0, z1, hc3, ho3⟩
    have HB3 : Hid (Boxes W3 W.heap.size W1.heap.size 1 (t) (.slice none 0 0)) := HBW.out.only ho3 (Nat.lt_trans HRQ.out HW2.out.1) HW2.out.1 (by omega) (by omega)
    have HM3 : Hid (Mid B w0 W c a len cap (m + 40) W1.heap.size (.slice none 0 0) ([]) W3) := HW2.out.step ho3 (by omega) (hc3.mono (by omega))
    have HRL3 : Hid (W.heap.size < W3.heap.size) := Nat.lt_trans HRQ.out HM3.out.1
    clear hc3 ho3 HW2 HBW HMp HBp f0 f1 f2 f3 f4 f5 f6 f7 f8 f9 f10 f11

    by_cases z0' : z = 0
    · subst z0'
      go_wp2_with fail
      refine (pick_any B w0 _ c a len cap _ 7 HD.out hl (by omega) HM3.out.2.2.1 (by omega) (by omega)).mono ?_
      rintro e W4 ⟨x7, rfl, x70, x71, hc4, ho4⟩
      have HM4 : Hid (Mid B w0 W c a len cap (m + 60) W1.heap.size (.slice none 0 0) ([]) W4) := HM3.out.step ho4 (by omega) (hc4.mono (by omega))
      obtain ⟨⟨f0, f1, f2⟩, ⟨f3, f4, f5⟩, ⟨f6, f7, f8⟩, ⟨f9, f10, f11⟩⟩ := HB3.out.only ho4 HRL3.out HM3.out.1 (by omega) (by omega)
      clear hc4 ho4
      go_wp2
      refine bodyPost_ret (v := .agg #[.int .i64 x7, .string t, .slice none 0 0]) (by simp [results, Try.results69, go_sem, f3, f4, f5]) rfl ?_
      exact PartPost.mk (t := t) (zs := []) HM4.out (Nat.le_refl _) HRQ.out hcW (ht) (by first | omega | simp) (by omega) (by repeat (first | exact Sets.refl | refine Sets.set ?_ _ _ (by first | exact .inl rfl | exact .inr rfl) _))
    · by_cases z1' : z = 1
      · subst z1'
        go_wp2_with fail
        refine (of_any B w0 _ c W3.heap.size [⟨#[]⟩, ⟨#[65]⟩, ⟨#[120]⟩] a len cap 3 _ HD.out hl (by omega) (HM3.out.2.2.1.alloc _) (by simp) (by simp) (by simp) (by have := HM3.out.1; omega) (three_texts W3 _ _ _)).mono ?_
        rintro e W4 ⟨t', rfl, ht', hc4, ho4⟩
        have ho4' : Only c W3 W4 := (Only.alloc (Only.refl _ _) _).trans ho4
        have HM4 : Hid (Mid B w0 W c a len cap (m + 60) W1.heap.size (.slice none 0 0) ([]) W4) := HM3.out.step ho4' (by omega) (hc4.mono (by omega))
        have ht4 : t'.size ≤ 20 := by
          simp only [List.mem_cons, List.not_mem_nil, or_false] at ht'
          rcases ht' with rfl | rfl | rfl <;> decide
        obtain ⟨⟨f0, f1, f2⟩, ⟨f3, f4, f5⟩, ⟨f6, f7, f8⟩, ⟨f9, f10, f11⟩⟩ := HB3.out.only ho4' HRL3.out HM3.out.1 (by omega) (by omega)
        clear hc4 ho4 ho4' ht'
        go_wp2
        refine bodyPost_ret (v := .agg #[.int .i64 1, .string t', .slice none 0 0]) (by simp [results, Try.results69, go_sem, f3, f4, f5]) rfl ?_
        exact PartPost.mk (t := t') (zs := []) HM4.out (Nat.le_refl _) HRQ.out hcW (ht4) (by first | omega | simp) (by omega) (by repeat (first | exact Sets.refl | refine Sets.set ?_ _ _ (by first | exact .inl rfl | exact .inr rfl) _))
      · have dz0 : (z == 0) = false := beq_eq_false_iff_ne.2 z0'
        have dz1 : (z == 1) = false := beq_eq_false_iff_ne.2 z1'
        by_cases z2' : z = 2
        · subst z2'
          clear dz0 dz1 z0' z1'
          have HM3' : Hid (Mid B w0 W c a len cap (m + 50) W1.heap.size (.slice none 0 0) ([]) ((W3.alloc (.cells #[.int .i64 (-1), .int .i64 0, .int .i64 65536] 3)).drew)) := HM3.out.step (only3 c W3) (by omega) ((HM3.out.2.2.1.alloc _).drew.mono (by omega))
          have HB3' : Hid (Boxes ((W3.alloc (.cells #[.int .i64 (-1), .int .i64 0, .int .i64 65536] 3)).drew) W.heap.size W1.heap.size 1 (t) (.slice none 0 0)) := HB3.out.only (c := c) (only3 c W3) HRL3.out HM3.out.1 (by omega) (by omega)
          have hq3 : W1.heap.size < W3.heap.size := HM3.out.1
          obtain ⟨⟨f0, f1, f2⟩, ⟨f3, f4, f5⟩, ⟨f6, f7, f8⟩, ⟨f9, f10, f11⟩⟩ := HB3.out
          have HAM : Hid (Calls Try.prog 82 #[.pointer (some ⟨c, 0, none⟩), .slice (some ⟨W3.heap.size, 0, none⟩) 3 3] ((W3.alloc (.cells #[.int .i64 (-1), .int .i64 0, .int .i64 65536] 3)).drew) fun e W' => ∃ r : Int, e = .returned (.int .i64 r) ∧ r ∈ [(-1 : Int), 0, 65536] ∧ Cur B w0 W' c a len cap (m + 50 + 2) ∧ Only c ((W3.alloc (.cells #[.int .i64 (-1), .int .i64 0, .int .i64 65536] 3)).drew) W') :=
            among_any B w0 _ c W3.heap.size [-1, 0, 65536] a len cap 3 _ HD.out hl (by omega) HM3'.out.2.2.1 (by simp) (by simp) (by simp [World.drew]) (by show W3.heap.size ≠ c; omega) (minus_cells W3)
          go_wp2
          go_region_law (first
            | (refine step_call (by rfl) 82 #[.pointer (some ⟨c, 0, none⟩), .slice (some ⟨W3.heap.size, 0, none⟩) 3 3] (by simp [go_sem]) (HAM.out.mono ?_); rintro e W4 ⟨z4, rfl, hz4, hc4, ho4⟩; refine ⟨_, rfl, ?_⟩;
               have HM4 : Hid (Mid B w0 W c a len cap (m + 60) W1.heap.size (.slice none 0 0) ([]) W4) := HM3'.out.step ho4 (by omega) (hc4.mono (by omega));
               have HB4 : Hid (Boxes W4 W.heap.size W1.heap.size 1 (t) (.slice none 0 0)) := HB3'.out.only ho4 (Nat.lt_trans HRQ.out HM3'.out.1) HM3'.out.1 (by omega) (by omega);
               have hq4 : W1.heap.size < W4.heap.size := HM4.out.1;
               obtain ⟨⟨g0, g1, g2⟩, ⟨g3, g4, g5⟩, ⟨g6, g7, g8⟩, ⟨g9, g10, g11⟩⟩ := HB4.out; clear hc4 ho4 hz4)
            | (refine step_put (by rfl) (.tmp 41) (.tmp 45) (by rfl) (W1.heap.size + 1) (.slice none 0 0) ([]) z4 (by rfl) (HM4.out.2.1.alloc _) W4.heap.size 1 (by rfl) (new_cell W4 _ 3) (by first | omega | simp) (by simp; omega) ?_; intro v5 w5 hown5 hb5 hz5;
               obtain ⟨zz, hzz⟩ : ∃ zz, zz = ([]) ++ [z4] := ⟨_, rfl⟩; rw [← hzz] at hown5; have hzl5 : zz.length ≤ 7 := (by rw [hzz]; simp; try omega); clear hzz; obtain ⟨a5, c5, rfl⟩ := hown5.shape;
               have HM5 : Hid (Mid B w0 W c a len cap (m + 60) W1.heap.size (.slice a5 zz.length c5) zz w5) := ⟨Nat.lt_of_lt_of_le HM4.out.1 (Nat.le_trans (by simp) hz5), hown5, (HM4.out.2.2.1.alloc _).belowQ hb5 (by omega) hz5, (HM4.out.2.2.2.alloc _).belowQ hb5 (by omega) hz5⟩;
               obtain ⟨⟨h0, h1, h2⟩, ⟨h3, h4, h5⟩, ⟨h6, h7, h8⟩, ⟨h9, h10, h11⟩⟩ := (HB4.out.only (c := c) (Only.alloc (c := c) (Only.refl c W4) _) (by omega) hq4 (by omega) (by omega)).belowQ hb5 HRQ.out; clear hown5 hb5))
          all_goals
            go_wp2
            refine bodyPost_ret (v := .agg #[.int .i64 1, .string t, .slice a5 zz.length c5]) (by simp [results, Try.results69, go_sem, h3, h4, h5]) rfl ?_
            exact PartPost.mk (t := t) (zs := zz) HM5.out (Nat.le_refl _) HRQ.out hcW (ht) hzl5 (by omega) (by repeat (first | exact Sets.refl | refine Sets.set ?_ _ _ (by first | exact .inl rfl | exact .inr rfl) _))
        · have dz2 : (z == 2) = false := beq_eq_false_iff_ne.2 z2'
          have HM4 : Hid (Mid B w0 W c a len cap (m + 60) W1.heap.size (.slice none 0 0) ([]) W3) := HM3.out.step (Only.refl _ _) (by omega) (HM3.out.2.2.1.mono (by omega))
          obtain ⟨⟨f0, f1, f2⟩, ⟨f3, f4, f5⟩, ⟨f6, f7, f8⟩, ⟨f9, f10, f11⟩⟩ := HB3.out
          go_wp2
          refine bodyPost_ret (v := .agg #[.int .i64 1, .string t, .slice none 0 0]) (by simp [results, Try.results69, go_sem, f3, f4, f5]) rfl ?_
          exact PartPost.mk (t := t) (zs := []) HM4.out (Nat.le_refl _) HRQ.out hcW (ht) (by first | omega | simp) (by omega) (by repeat (first | exact Sets.refl | refine Sets.set ?_ _ _ (by first | exact .inl rfl | exact .inr rfl) _))
  · rcases hq with rfl | rfl
    · have HM1 := HMN.out 2
      have HB1 := HBN.out 2
      obtain ⟨w1, hw1⟩ : ∃ w1, w1 = W1.alloc (.cells #[.int .i64 2, .string ⟨#[]⟩, .slice none 0 0] 74) := ⟨_, rfl⟩
      have hsz1 : w1.heap.size = W1.heap.size + 1 := by rw [hw1]; simp
      rw [← hw1] at HM1 HB1
      have HM1' : Hid (Mid B w0 W c a len cap (m + 2) W1.heap.size (.slice none 0 0) [] w1) := HM1
      have HB1' : Hid (Boxes w1 W.heap.size W1.heap.size 2 ⟨#[]⟩ (.slice none 0 0)) := HB1
      have HW1 : Hid (w1 = W1.alloc (.cells #[.int .i64 2, .string ⟨#[]⟩, .slice none 0 0] 74)) := hw1
      clear HM1 HB1 hw1
      go_wp2_with fail
      rw [← HW1.out]
      refine (nums_any B w0 w1 c a len cap _ HD.out hl (by omega) HM1'.out.2.2.1).mono ?_
      rintro e W2 ⟨v, zs, rfl, hown, hzl, hc2, ho2⟩
      obtain ⟨ay, cy, rfl⟩ := hown.shape
      have HO2 : Hid (Own W2 (W1.heap.size + 1) (.slice ay zs.length cy) zs) := by show Own _ _ _ _; rw [← hsz1]; exact hown
      have HMp : Hid (Mid B w0 W c a len cap (m + 30) W1.heap.size (.slice ay zs.length cy) zs W2) := ⟨Nat.lt_of_lt_of_le HM1'.out.1 ho2.1, HO2.out, hc2.mono (by omega), HM1'.out.2.2.2.trans ho2⟩
      have HBp : Hid (Boxes W2 W.heap.size W1.heap.size 2 ⟨#[]⟩ (.slice none 0 0)) := HB1'.out.only ho2 (by omega) (by omega) (by omega) (by omega)
      obtain ⟨⟨f0, f1, f2⟩, ⟨f3, f4, f5⟩, ⟨f6, f7, f8⟩, ⟨f9, f10, f11⟩⟩ := HBp.out
      clear hc2 ho2 hown HM1' HB1' HW1 HO2
      have HW2 : Hid (Mid B w0 W c a len cap (m + 30) W1.heap.size (.slice ay zs.length cy) zs (W2.setCell ⟨W1.heap.size, 2, none⟩ (.slice ay zs.length cy))) := HMp.out.sets (r := W.heap.size) (Nat.le_refl _) HRQ.out hcW (.set .refl _ _ (.inr rfl) _)
      have HBW : Hid (Boxes (W2.setCell ⟨W1.heap.size, 2, none⟩ (.slice ay zs.length cy)) W.heap.size W1.heap.size 2 ⟨#[]⟩ (.slice ay zs.length cy)) := HBp.out.nums hrq _
      go_wp2_with fail
      refine (pick_any B w0 _ c a len cap _ 40 HD.out hl (by omega) HW2.out.2.2.1 (by omega) (by omega)).mono ?_
      rintro e W3 ⟨z, rfl, z0, z1, hc3, ho3⟩
      have HB3 : Hid (Boxes W3 W.heap.size W1.heap.size 2 (⟨#[]⟩) (.slice ay zs.length cy)) := HBW.out.only ho3 (Nat.lt_trans HRQ.out HW2.out.1) HW2.out.1 (by omega) (by omega)
      have HM3 : Hid (Mid B w0 W c a len cap (m + 40) W1.heap.size (.slice ay zs.length cy) (zs) W3) := HW2.out.step ho3 (by omega) (hc3.mono (by omega))
      have HRL3 : Hid (W.heap.size < W3.heap.size) := Nat.lt_trans HRQ.out HM3.out.1
      clear hc3 ho3 HW2 HBW HMp HBp f0 f1 f2 f3 f4 f5 f6 f7 f8 f9 f10 f11

      by_cases z0' : z = 0
      · subst z0'
        go_wp2_with fail
        refine (pick_any B w0 _ c a len cap _ 7 HD.out hl (by omega) HM3.out.2.2.1 (by omega) (by omega)).mono ?_
        rintro e W4 ⟨x7, rfl, x70, x71, hc4, ho4⟩
        have HM4 : Hid (Mid B w0 W c a len cap (m + 60) W1.heap.size (.slice ay zs.length cy) (zs) W4) := HM3.out.step ho4 (by omega) (hc4.mono (by omega))
        obtain ⟨⟨f0, f1, f2⟩, ⟨f3, f4, f5⟩, ⟨f6, f7, f8⟩, ⟨f9, f10, f11⟩⟩ := HB3.out.only ho4 HRL3.out HM3.out.1 (by omega) (by omega)
        clear hc4 ho4
        go_wp2
        refine bodyPost_ret (v := .agg #[.int .i64 x7, .string ⟨#[]⟩, .slice ay zs.length cy]) (by simp [results, Try.results69, go_sem, f3, f4, f5]) rfl ?_
        exact PartPost.mk (t := ⟨#[]⟩) (zs := zs) HM4.out (Nat.le_refl _) HRQ.out hcW (by decide) (by first | omega | simp) (by omega) (by repeat (first | exact Sets.refl | refine Sets.set ?_ _ _ (by first | exact .inl rfl | exact .inr rfl) _))
      · by_cases z1' : z = 1
        · subst z1'
          go_wp2_with fail
          refine (of_any B w0 _ c W3.heap.size [⟨#[]⟩, ⟨#[65]⟩, ⟨#[120]⟩] a len cap 3 _ HD.out hl (by omega) (HM3.out.2.2.1.alloc _) (by simp) (by simp) (by simp) (by have := HM3.out.1; omega) (three_texts W3 _ _ _)).mono ?_
          rintro e W4 ⟨t', rfl, ht', hc4, ho4⟩
          have ho4' : Only c W3 W4 := (Only.alloc (Only.refl _ _) _).trans ho4
          have HM4 : Hid (Mid B w0 W c a len cap (m + 60) W1.heap.size (.slice ay zs.length cy) (zs) W4) := HM3.out.step ho4' (by omega) (hc4.mono (by omega))
          have ht4 : t'.size ≤ 20 := by
            simp only [List.mem_cons, List.not_mem_nil, or_false] at ht'
            rcases ht' with rfl | rfl | rfl <;> decide
          obtain ⟨⟨f0, f1, f2⟩, ⟨f3, f4, f5⟩, ⟨f6, f7, f8⟩, ⟨f9, f10, f11⟩⟩ := HB3.out.only ho4' HRL3.out HM3.out.1 (by omega) (by omega)
          clear hc4 ho4 ho4' ht'
          go_wp2
          refine bodyPost_ret (v := .agg #[.int .i64 2, .string t', .slice ay zs.length cy]) (by simp [results, Try.results69, go_sem, f3, f4, f5]) rfl ?_
          exact PartPost.mk (t := t') (zs := zs) HM4.out (Nat.le_refl _) HRQ.out hcW (ht4) (by first | omega | simp) (by omega) (by repeat (first | exact Sets.refl | refine Sets.set ?_ _ _ (by first | exact .inl rfl | exact .inr rfl) _))
        · have dz0 : (z == 0) = false := beq_eq_false_iff_ne.2 z0'
          have dz1 : (z == 1) = false := beq_eq_false_iff_ne.2 z1'
          by_cases z2' : z = 2
          · subst z2'
            clear dz0 dz1 z0' z1'
            have HM3' : Hid (Mid B w0 W c a len cap (m + 50) W1.heap.size (.slice ay zs.length cy) (zs) ((W3.alloc (.cells #[.int .i64 (-1), .int .i64 0, .int .i64 65536] 3)).drew)) := HM3.out.step (only3 c W3) (by omega) ((HM3.out.2.2.1.alloc _).drew.mono (by omega))
            have HB3' : Hid (Boxes ((W3.alloc (.cells #[.int .i64 (-1), .int .i64 0, .int .i64 65536] 3)).drew) W.heap.size W1.heap.size 2 (⟨#[]⟩) (.slice ay zs.length cy)) := HB3.out.only (c := c) (only3 c W3) HRL3.out HM3.out.1 (by omega) (by omega)
            have hq3 : W1.heap.size < W3.heap.size := HM3.out.1
            obtain ⟨⟨f0, f1, f2⟩, ⟨f3, f4, f5⟩, ⟨f6, f7, f8⟩, ⟨f9, f10, f11⟩⟩ := HB3.out
            have HAM : Hid (Calls Try.prog 82 #[.pointer (some ⟨c, 0, none⟩), .slice (some ⟨W3.heap.size, 0, none⟩) 3 3] ((W3.alloc (.cells #[.int .i64 (-1), .int .i64 0, .int .i64 65536] 3)).drew) fun e W' => ∃ r : Int, e = .returned (.int .i64 r) ∧ r ∈ [(-1 : Int), 0, 65536] ∧ Cur B w0 W' c a len cap (m + 50 + 2) ∧ Only c ((W3.alloc (.cells #[.int .i64 (-1), .int .i64 0, .int .i64 65536] 3)).drew) W') :=
              among_any B w0 _ c W3.heap.size [-1, 0, 65536] a len cap 3 _ HD.out hl (by omega) HM3'.out.2.2.1 (by simp) (by simp) (by simp [World.drew]) (by show W3.heap.size ≠ c; omega) (minus_cells W3)
            go_wp2
            go_region_law (first
              | (refine step_call (by rfl) 82 #[.pointer (some ⟨c, 0, none⟩), .slice (some ⟨W3.heap.size, 0, none⟩) 3 3] (by simp [go_sem]) (HAM.out.mono ?_); rintro e W4 ⟨z4, rfl, hz4, hc4, ho4⟩; refine ⟨_, rfl, ?_⟩;
                 have HM4 : Hid (Mid B w0 W c a len cap (m + 60) W1.heap.size (.slice ay zs.length cy) (zs) W4) := HM3'.out.step ho4 (by omega) (hc4.mono (by omega));
                 have HB4 : Hid (Boxes W4 W.heap.size W1.heap.size 2 (⟨#[]⟩) (.slice ay zs.length cy)) := HB3'.out.only ho4 (Nat.lt_trans HRQ.out HM3'.out.1) HM3'.out.1 (by omega) (by omega);
                 have hq4 : W1.heap.size < W4.heap.size := HM4.out.1;
                 obtain ⟨⟨g0, g1, g2⟩, ⟨g3, g4, g5⟩, ⟨g6, g7, g8⟩, ⟨g9, g10, g11⟩⟩ := HB4.out; clear hc4 ho4 hz4)
              | (refine step_put (by rfl) (.tmp 41) (.tmp 45) (by rfl) (W1.heap.size + 1) (.slice ay zs.length cy) (zs) z4 (by rfl) (HM4.out.2.1.alloc _) W4.heap.size 1 (by rfl) (new_cell W4 _ 3) (by first | omega | simp) (by simp; omega) ?_; intro v5 w5 hown5 hb5 hz5;
                 obtain ⟨zz, hzz⟩ : ∃ zz, zz = (zs) ++ [z4] := ⟨_, rfl⟩; rw [← hzz] at hown5; have hzl5 : zz.length ≤ 7 := (by rw [hzz]; simp; try omega); clear hzz; obtain ⟨a5, c5, rfl⟩ := hown5.shape;
                 have HM5 : Hid (Mid B w0 W c a len cap (m + 60) W1.heap.size (.slice a5 zz.length c5) zz w5) := ⟨Nat.lt_of_lt_of_le HM4.out.1 (Nat.le_trans (by simp) hz5), hown5, (HM4.out.2.2.1.alloc _).belowQ hb5 (by omega) hz5, (HM4.out.2.2.2.alloc _).belowQ hb5 (by omega) hz5⟩;
                 obtain ⟨⟨h0, h1, h2⟩, ⟨h3, h4, h5⟩, ⟨h6, h7, h8⟩, ⟨h9, h10, h11⟩⟩ := (HB4.out.only (c := c) (Only.alloc (c := c) (Only.refl c W4) _) (by omega) hq4 (by omega) (by omega)).belowQ hb5 HRQ.out; clear hown5 hb5))
            all_goals
              go_wp2
              refine bodyPost_ret (v := .agg #[.int .i64 2, .string ⟨#[]⟩, .slice a5 zz.length c5]) (by simp [results, Try.results69, go_sem, h3, h4, h5]) rfl ?_
              exact PartPost.mk (t := ⟨#[]⟩) (zs := zz) HM5.out (Nat.le_refl _) HRQ.out hcW (by decide) hzl5 (by omega) (by repeat (first | exact Sets.refl | refine Sets.set ?_ _ _ (by first | exact .inl rfl | exact .inr rfl) _))
          · have dz2 : (z == 2) = false := beq_eq_false_iff_ne.2 z2'
            have HM4 : Hid (Mid B w0 W c a len cap (m + 60) W1.heap.size (.slice ay zs.length cy) (zs) W3) := HM3.out.step (Only.refl _ _) (by omega) (HM3.out.2.2.1.mono (by omega))
            obtain ⟨⟨f0, f1, f2⟩, ⟨f3, f4, f5⟩, ⟨f6, f7, f8⟩, ⟨f9, f10, f11⟩⟩ := HB3.out
            go_wp2
            refine bodyPost_ret (v := .agg #[.int .i64 2, .string ⟨#[]⟩, .slice ay zs.length cy]) (by simp [results, Try.results69, go_sem, f3, f4, f5]) rfl ?_
            exact PartPost.mk (t := ⟨#[]⟩) (zs := zs) HM4.out (Nat.le_refl _) HRQ.out hcW (by decide) (by first | omega | simp) (by omega) (by repeat (first | exact Sets.refl | refine Sets.set ?_ _ _ (by first | exact .inl rfl | exact .inr rfl) _))
    · have HM1 := HMN.out 3
      have HB1 := HBN.out 3
      obtain ⟨w1, hw1⟩ : ∃ w1, w1 = W1.alloc (.cells #[.int .i64 3, .string ⟨#[]⟩, .slice none 0 0] 74) := ⟨_, rfl⟩
      have hsz1 : w1.heap.size = W1.heap.size + 1 := by rw [hw1]; simp
      rw [← hw1] at HM1 HB1
      have HM1' : Hid (Mid B w0 W c a len cap (m + 2) W1.heap.size (.slice none 0 0) [] w1) := HM1
      have HB1' : Hid (Boxes w1 W.heap.size W1.heap.size 3 ⟨#[]⟩ (.slice none 0 0)) := HB1
      have HW1 : Hid (w1 = W1.alloc (.cells #[.int .i64 3, .string ⟨#[]⟩, .slice none 0 0] 74)) := hw1
      clear HM1 HB1 hw1
      go_wp2_with fail
      rw [← HW1.out]
      refine (nums_any B w0 w1 c a len cap _ HD.out hl (by omega) HM1'.out.2.2.1).mono ?_
      rintro e W2 ⟨v, zs, rfl, hown, hzl, hc2, ho2⟩
      obtain ⟨ay, cy, rfl⟩ := hown.shape
      have HO2 : Hid (Own W2 (W1.heap.size + 1) (.slice ay zs.length cy) zs) := by show Own _ _ _ _; rw [← hsz1]; exact hown
      have HMp : Hid (Mid B w0 W c a len cap (m + 30) W1.heap.size (.slice ay zs.length cy) zs W2) := ⟨Nat.lt_of_lt_of_le HM1'.out.1 ho2.1, HO2.out, hc2.mono (by omega), HM1'.out.2.2.2.trans ho2⟩
      have HBp : Hid (Boxes W2 W.heap.size W1.heap.size 3 ⟨#[]⟩ (.slice none 0 0)) := HB1'.out.only ho2 (by omega) (by omega) (by omega) (by omega)
      obtain ⟨⟨f0, f1, f2⟩, ⟨f3, f4, f5⟩, ⟨f6, f7, f8⟩, ⟨f9, f10, f11⟩⟩ := HBp.out
      clear hc2 ho2 hown HM1' HB1' HW1 HO2
      have HW2 : Hid (Mid B w0 W c a len cap (m + 30) W1.heap.size (.slice ay zs.length cy) zs (W2.setCell ⟨W1.heap.size, 2, none⟩ (.slice ay zs.length cy))) := HMp.out.sets (r := W.heap.size) (Nat.le_refl _) HRQ.out hcW (.set .refl _ _ (.inr rfl) _)
      have HBW : Hid (Boxes (W2.setCell ⟨W1.heap.size, 2, none⟩ (.slice ay zs.length cy)) W.heap.size W1.heap.size 3 ⟨#[]⟩ (.slice ay zs.length cy)) := HBp.out.nums hrq _
      go_wp2_with fail
      refine (pick_any B w0 _ c a len cap _ 40 HD.out hl (by omega) HW2.out.2.2.1 (by omega) (by omega)).mono ?_
      rintro e W3 ⟨z, rfl, z0, z1, hc3, ho3⟩
      have HB3 : Hid (Boxes W3 W.heap.size W1.heap.size 3 (⟨#[]⟩) (.slice ay zs.length cy)) := HBW.out.only ho3 (Nat.lt_trans HRQ.out HW2.out.1) HW2.out.1 (by omega) (by omega)
      have HM3 : Hid (Mid B w0 W c a len cap (m + 40) W1.heap.size (.slice ay zs.length cy) (zs) W3) := HW2.out.step ho3 (by omega) (hc3.mono (by omega))
      have HRL3 : Hid (W.heap.size < W3.heap.size) := Nat.lt_trans HRQ.out HM3.out.1
      clear hc3 ho3 HW2 HBW HMp HBp f0 f1 f2 f3 f4 f5 f6 f7 f8 f9 f10 f11

      by_cases z0' : z = 0
      · subst z0'
        go_wp2_with fail
        refine (pick_any B w0 _ c a len cap _ 7 HD.out hl (by omega) HM3.out.2.2.1 (by omega) (by omega)).mono ?_
        rintro e W4 ⟨x7, rfl, x70, x71, hc4, ho4⟩
        have HM4 : Hid (Mid B w0 W c a len cap (m + 60) W1.heap.size (.slice ay zs.length cy) (zs) W4) := HM3.out.step ho4 (by omega) (hc4.mono (by omega))
        obtain ⟨⟨f0, f1, f2⟩, ⟨f3, f4, f5⟩, ⟨f6, f7, f8⟩, ⟨f9, f10, f11⟩⟩ := HB3.out.only ho4 HRL3.out HM3.out.1 (by omega) (by omega)
        clear hc4 ho4
        go_wp2
        refine bodyPost_ret (v := .agg #[.int .i64 x7, .string ⟨#[]⟩, .slice ay zs.length cy]) (by simp [results, Try.results69, go_sem, f3, f4, f5]) rfl ?_
        exact PartPost.mk (t := ⟨#[]⟩) (zs := zs) HM4.out (Nat.le_refl _) HRQ.out hcW (by decide) (by first | omega | simp) (by omega) (by repeat (first | exact Sets.refl | refine Sets.set ?_ _ _ (by first | exact .inl rfl | exact .inr rfl) _))
      · by_cases z1' : z = 1
        · subst z1'
          go_wp2_with fail
          refine (of_any B w0 _ c W3.heap.size [⟨#[]⟩, ⟨#[65]⟩, ⟨#[120]⟩] a len cap 3 _ HD.out hl (by omega) (HM3.out.2.2.1.alloc _) (by simp) (by simp) (by simp) (by have := HM3.out.1; omega) (three_texts W3 _ _ _)).mono ?_
          rintro e W4 ⟨t', rfl, ht', hc4, ho4⟩
          have ho4' : Only c W3 W4 := (Only.alloc (Only.refl _ _) _).trans ho4
          have HM4 : Hid (Mid B w0 W c a len cap (m + 60) W1.heap.size (.slice ay zs.length cy) (zs) W4) := HM3.out.step ho4' (by omega) (hc4.mono (by omega))
          have ht4 : t'.size ≤ 20 := by
            simp only [List.mem_cons, List.not_mem_nil, or_false] at ht'
            rcases ht' with rfl | rfl | rfl <;> decide
          obtain ⟨⟨f0, f1, f2⟩, ⟨f3, f4, f5⟩, ⟨f6, f7, f8⟩, ⟨f9, f10, f11⟩⟩ := HB3.out.only ho4' HRL3.out HM3.out.1 (by omega) (by omega)
          clear hc4 ho4 ho4' ht'
          go_wp2
          refine bodyPost_ret (v := .agg #[.int .i64 3, .string t', .slice ay zs.length cy]) (by simp [results, Try.results69, go_sem, f3, f4, f5]) rfl ?_
          exact PartPost.mk (t := t') (zs := zs) HM4.out (Nat.le_refl _) HRQ.out hcW (ht4) (by first | omega | simp) (by omega) (by repeat (first | exact Sets.refl | refine Sets.set ?_ _ _ (by first | exact .inl rfl | exact .inr rfl) _))
        · have dz0 : (z == 0) = false := beq_eq_false_iff_ne.2 z0'
          have dz1 : (z == 1) = false := beq_eq_false_iff_ne.2 z1'
          by_cases z2' : z = 2
          · subst z2'
            clear dz0 dz1 z0' z1'
            have HM3' : Hid (Mid B w0 W c a len cap (m + 50) W1.heap.size (.slice ay zs.length cy) (zs) ((W3.alloc (.cells #[.int .i64 (-1), .int .i64 0, .int .i64 65536] 3)).drew)) := HM3.out.step (only3 c W3) (by omega) ((HM3.out.2.2.1.alloc _).drew.mono (by omega))
            have HB3' : Hid (Boxes ((W3.alloc (.cells #[.int .i64 (-1), .int .i64 0, .int .i64 65536] 3)).drew) W.heap.size W1.heap.size 3 (⟨#[]⟩) (.slice ay zs.length cy)) := HB3.out.only (c := c) (only3 c W3) HRL3.out HM3.out.1 (by omega) (by omega)
            have hq3 : W1.heap.size < W3.heap.size := HM3.out.1
            obtain ⟨⟨f0, f1, f2⟩, ⟨f3, f4, f5⟩, ⟨f6, f7, f8⟩, ⟨f9, f10, f11⟩⟩ := HB3.out
            have HAM : Hid (Calls Try.prog 82 #[.pointer (some ⟨c, 0, none⟩), .slice (some ⟨W3.heap.size, 0, none⟩) 3 3] ((W3.alloc (.cells #[.int .i64 (-1), .int .i64 0, .int .i64 65536] 3)).drew) fun e W' => ∃ r : Int, e = .returned (.int .i64 r) ∧ r ∈ [(-1 : Int), 0, 65536] ∧ Cur B w0 W' c a len cap (m + 50 + 2) ∧ Only c ((W3.alloc (.cells #[.int .i64 (-1), .int .i64 0, .int .i64 65536] 3)).drew) W') :=
              among_any B w0 _ c W3.heap.size [-1, 0, 65536] a len cap 3 _ HD.out hl (by omega) HM3'.out.2.2.1 (by simp) (by simp) (by simp [World.drew]) (by show W3.heap.size ≠ c; omega) (minus_cells W3)
            go_wp2
            go_region_law (first
              | (refine step_call (by rfl) 82 #[.pointer (some ⟨c, 0, none⟩), .slice (some ⟨W3.heap.size, 0, none⟩) 3 3] (by simp [go_sem]) (HAM.out.mono ?_); rintro e W4 ⟨z4, rfl, hz4, hc4, ho4⟩; refine ⟨_, rfl, ?_⟩;
                 have HM4 : Hid (Mid B w0 W c a len cap (m + 60) W1.heap.size (.slice ay zs.length cy) (zs) W4) := HM3'.out.step ho4 (by omega) (hc4.mono (by omega));
                 have HB4 : Hid (Boxes W4 W.heap.size W1.heap.size 3 (⟨#[]⟩) (.slice ay zs.length cy)) := HB3'.out.only ho4 (Nat.lt_trans HRQ.out HM3'.out.1) HM3'.out.1 (by omega) (by omega);
                 have hq4 : W1.heap.size < W4.heap.size := HM4.out.1;
                 obtain ⟨⟨g0, g1, g2⟩, ⟨g3, g4, g5⟩, ⟨g6, g7, g8⟩, ⟨g9, g10, g11⟩⟩ := HB4.out; clear hc4 ho4 hz4)
              | (refine step_put (by rfl) (.tmp 41) (.tmp 45) (by rfl) (W1.heap.size + 1) (.slice ay zs.length cy) (zs) z4 (by rfl) (HM4.out.2.1.alloc _) W4.heap.size 1 (by rfl) (new_cell W4 _ 3) (by first | omega | simp) (by simp; omega) ?_; intro v5 w5 hown5 hb5 hz5;
                 obtain ⟨zz, hzz⟩ : ∃ zz, zz = (zs) ++ [z4] := ⟨_, rfl⟩; rw [← hzz] at hown5; have hzl5 : zz.length ≤ 7 := (by rw [hzz]; simp; try omega); clear hzz; obtain ⟨a5, c5, rfl⟩ := hown5.shape;
                 have HM5 : Hid (Mid B w0 W c a len cap (m + 60) W1.heap.size (.slice a5 zz.length c5) zz w5) := ⟨Nat.lt_of_lt_of_le HM4.out.1 (Nat.le_trans (by simp) hz5), hown5, (HM4.out.2.2.1.alloc _).belowQ hb5 (by omega) hz5, (HM4.out.2.2.2.alloc _).belowQ hb5 (by omega) hz5⟩;
                 obtain ⟨⟨h0, h1, h2⟩, ⟨h3, h4, h5⟩, ⟨h6, h7, h8⟩, ⟨h9, h10, h11⟩⟩ := (HB4.out.only (c := c) (Only.alloc (c := c) (Only.refl c W4) _) (by omega) hq4 (by omega) (by omega)).belowQ hb5 HRQ.out; clear hown5 hb5))
            all_goals
              go_wp2
              refine bodyPost_ret (v := .agg #[.int .i64 3, .string ⟨#[]⟩, .slice a5 zz.length c5]) (by simp [results, Try.results69, go_sem, h3, h4, h5]) rfl ?_
              exact PartPost.mk (t := ⟨#[]⟩) (zs := zz) HM5.out (Nat.le_refl _) HRQ.out hcW (by decide) hzl5 (by omega) (by repeat (first | exact Sets.refl | refine Sets.set ?_ _ _ (by first | exact .inl rfl | exact .inr rfl) _))
          · have dz2 : (z == 2) = false := beq_eq_false_iff_ne.2 z2'
            have HM4 : Hid (Mid B w0 W c a len cap (m + 60) W1.heap.size (.slice ay zs.length cy) (zs) W3) := HM3.out.step (Only.refl _ _) (by omega) (HM3.out.2.2.1.mono (by omega))
            obtain ⟨⟨f0, f1, f2⟩, ⟨f3, f4, f5⟩, ⟨f6, f7, f8⟩, ⟨f9, f10, f11⟩⟩ := HB3.out
            go_wp2
            refine bodyPost_ret (v := .agg #[.int .i64 3, .string ⟨#[]⟩, .slice ay zs.length cy]) (by simp [results, Try.results69, go_sem, f3, f4, f5]) rfl ?_
            exact PartPost.mk (t := ⟨#[]⟩) (zs := zs) HM4.out (Nat.le_refl _) HRQ.out hcW (by decide) (by first | omega | simp) (by omega) (by repeat (first | exact Sets.refl | refine Sets.set ?_ _ _ (by first | exact .inl rfl | exact .inr rfl) _))
  · have HM1 := HMN.out 4
    have HB1 := HBN.out 4
    obtain ⟨w1, hw1⟩ : ∃ w1, w1 = W1.alloc (.cells #[.int .i64 4, .string ⟨#[]⟩, .slice none 0 0] 74) := ⟨_, rfl⟩
    have hsz1 : w1.heap.size = W1.heap.size + 1 := by rw [hw1]; simp
    rw [← hw1] at HM1 HB1
    have HM1' : Hid (Mid B w0 W c a len cap (m + 2) W1.heap.size (.slice none 0 0) [] w1) := HM1
    have HB1' : Hid (Boxes w1 W.heap.size W1.heap.size 4 ⟨#[]⟩ (.slice none 0 0)) := HB1
    have HW1 : Hid (w1 = W1.alloc (.cells #[.int .i64 4, .string ⟨#[]⟩, .slice none 0 0] 74)) := hw1
    clear HM1 HB1 hw1
    go_wp2_with fail
    rw [← HW1.out]
    refine (pick_any B w0 w1 c a len cap _ 2 HD.out hl (by omega) HM1'.out.2.2.1 (by omega) (by omega)).mono ?_
    rintro e W2 ⟨x, rfl, x0, x1, hc2, ho2⟩
    have hss : (W2.setCell ⟨W1.heap.size, 2, none⟩ (.slice (some ⟨W2.heap.size, 0, none⟩) 1 1)).heap.size = W2.heap.size := by simp [World.setCell]
    have hbz : W1.heap.size < W2.heap.size := by have := ho2.1; omega
    have HBp : Hid (Boxes W2 W.heap.size W1.heap.size 4 ⟨#[]⟩ (.slice none 0 0)) := HB1'.out.only ho2 (by omega) (by omega) (by omega) (by omega)
    have HO2 : Hid (Own ((W2.setCell ⟨W1.heap.size, 2, none⟩ (.slice (some ⟨W2.heap.size, 0, none⟩) 1 1)).alloc (.cells #[.int .i64 x] 3)) (W1.heap.size + 1) (.slice (some ⟨W2.heap.size, 0, none⟩) 1 1) [x]) := by
      have := own_one (W2.setCell ⟨W1.heap.size, 2, none⟩ (.slice (some ⟨W2.heap.size, 0, none⟩) 1 1)) x
      rw [hss] at this
      exact this.mono (by omega)
    have HW2 : Hid (Mid B w0 W c a len cap (m + 30) W1.heap.size (.slice (some ⟨W2.heap.size, 0, none⟩) 1 1) [x] ((W2.setCell ⟨W1.heap.size, 2, none⟩ (.slice (some ⟨W2.heap.size, 0, none⟩) 1 1)).alloc (.cells #[.int .i64 x] 3))) := ⟨by simp [hss]; omega, HO2.out, ((hc2.other (by omega) _).alloc _).mono (by omega), ((HM1'.out.2.2.2.trans ho2).set (by omega) _ _).alloc _⟩
    have HBW : Hid (Boxes ((W2.setCell ⟨W1.heap.size, 2, none⟩ (.slice (some ⟨W2.heap.size, 0, none⟩) 1 1)).alloc (.cells #[.int .i64 x] 3)) W.heap.size W1.heap.size 4 ⟨#[]⟩ (.slice (some ⟨W2.heap.size, 0, none⟩) 1 1)) := (HBp.out.nums hrq (.slice (some ⟨W2.heap.size, 0, none⟩) 1 1)).only (c := c) (Only.alloc (Only.refl c _) _) (by rw [hss]; omega) (by rw [hss]; omega) (by omega) (by omega)
    have HMp : Hid True := trivial
    obtain ⟨⟨f0, f1, f2⟩, ⟨f3, f4, f5⟩, ⟨f6, f7, f8⟩, ⟨f9, f10, f11⟩⟩ := HBp.out
    clear hc2 ho2 HM1' HB1' HW1 HO2 hss
    go_wp2_with fail
    refine (pick_any B w0 _ c a len cap _ 40 HD.out hl (by omega) HW2.out.2.2.1 (by omega) (by omega)).mono ?_
    rintro e W3 ⟨z, rfl, z0, z1, hc3, ho3⟩
    have HB3 : Hid (Boxes W3 W.heap.size W1.heap.size 4 (⟨#[]⟩) (.slice (some ⟨W2.heap.size, 0, none⟩) 1 1)) := HBW.out.only ho3 (Nat.lt_trans HRQ.out HW2.out.1) HW2.out.1 (by omega) (by omega)
    have HM3 : Hid (Mid B w0 W c a len cap (m + 40) W1.heap.size (.slice (some ⟨W2.heap.size, 0, none⟩) 1 1) ([x]) W3) := HW2.out.step ho3 (by omega) (hc3.mono (by omega))
    have HRL3 : Hid (W.heap.size < W3.heap.size) := Nat.lt_trans HRQ.out HM3.out.1
    clear hc3 ho3 HW2 HBW HMp HBp f0 f1 f2 f3 f4 f5 f6 f7 f8 f9 f10 f11

    by_cases z0' : z = 0
    · subst z0'
      go_wp2_with fail
      refine (pick_any B w0 _ c a len cap _ 7 HD.out hl (by omega) HM3.out.2.2.1 (by omega) (by omega)).mono ?_
      rintro e W4 ⟨x7, rfl, x70, x71, hc4, ho4⟩
      have HM4 : Hid (Mid B w0 W c a len cap (m + 60) W1.heap.size (.slice (some ⟨W2.heap.size, 0, none⟩) 1 1) ([x]) W4) := HM3.out.step ho4 (by omega) (hc4.mono (by omega))
      obtain ⟨⟨f0, f1, f2⟩, ⟨f3, f4, f5⟩, ⟨f6, f7, f8⟩, ⟨f9, f10, f11⟩⟩ := HB3.out.only ho4 HRL3.out HM3.out.1 (by omega) (by omega)
      clear hc4 ho4
      go_wp2
      refine bodyPost_ret (v := .agg #[.int .i64 x7, .string ⟨#[]⟩, .slice (some ⟨W2.heap.size, 0, none⟩) 1 1]) (by simp [results, Try.results69, go_sem, f3, f4, f5]) rfl ?_
      exact PartPost.mk (t := ⟨#[]⟩) (zs := [x]) HM4.out (Nat.le_refl _) HRQ.out hcW (by decide) (by first | omega | simp) (by omega) (by repeat (first | exact Sets.refl | refine Sets.set ?_ _ _ (by first | exact .inl rfl | exact .inr rfl) _))
    · by_cases z1' : z = 1
      · subst z1'
        go_wp2_with fail
        refine (of_any B w0 _ c W3.heap.size [⟨#[]⟩, ⟨#[65]⟩, ⟨#[120]⟩] a len cap 3 _ HD.out hl (by omega) (HM3.out.2.2.1.alloc _) (by simp) (by simp) (by simp) (by have := HM3.out.1; omega) (three_texts W3 _ _ _)).mono ?_
        rintro e W4 ⟨t', rfl, ht', hc4, ho4⟩
        have ho4' : Only c W3 W4 := (Only.alloc (Only.refl _ _) _).trans ho4
        have HM4 : Hid (Mid B w0 W c a len cap (m + 60) W1.heap.size (.slice (some ⟨W2.heap.size, 0, none⟩) 1 1) ([x]) W4) := HM3.out.step ho4' (by omega) (hc4.mono (by omega))
        have ht4 : t'.size ≤ 20 := by
          simp only [List.mem_cons, List.not_mem_nil, or_false] at ht'
          rcases ht' with rfl | rfl | rfl <;> decide
        obtain ⟨⟨f0, f1, f2⟩, ⟨f3, f4, f5⟩, ⟨f6, f7, f8⟩, ⟨f9, f10, f11⟩⟩ := HB3.out.only ho4' HRL3.out HM3.out.1 (by omega) (by omega)
        clear hc4 ho4 ho4' ht'
        go_wp2
        refine bodyPost_ret (v := .agg #[.int .i64 4, .string t', .slice (some ⟨W2.heap.size, 0, none⟩) 1 1]) (by simp [results, Try.results69, go_sem, f3, f4, f5]) rfl ?_
        exact PartPost.mk (t := t') (zs := [x]) HM4.out (Nat.le_refl _) HRQ.out hcW (ht4) (by first | omega | simp) (by omega) (by repeat (first | exact Sets.refl | refine Sets.set ?_ _ _ (by first | exact .inl rfl | exact .inr rfl) _))
      · have dz0 : (z == 0) = false := beq_eq_false_iff_ne.2 z0'
        have dz1 : (z == 1) = false := beq_eq_false_iff_ne.2 z1'
        by_cases z2' : z = 2
        · subst z2'
          clear dz0 dz1 z0' z1'
          have HM3' : Hid (Mid B w0 W c a len cap (m + 50) W1.heap.size (.slice (some ⟨W2.heap.size, 0, none⟩) 1 1) ([x]) ((W3.alloc (.cells #[.int .i64 (-1), .int .i64 0, .int .i64 65536] 3)).drew)) := HM3.out.step (only3 c W3) (by omega) ((HM3.out.2.2.1.alloc _).drew.mono (by omega))
          have HB3' : Hid (Boxes ((W3.alloc (.cells #[.int .i64 (-1), .int .i64 0, .int .i64 65536] 3)).drew) W.heap.size W1.heap.size 4 (⟨#[]⟩) (.slice (some ⟨W2.heap.size, 0, none⟩) 1 1)) := HB3.out.only (c := c) (only3 c W3) HRL3.out HM3.out.1 (by omega) (by omega)
          have hq3 : W1.heap.size < W3.heap.size := HM3.out.1
          obtain ⟨⟨f0, f1, f2⟩, ⟨f3, f4, f5⟩, ⟨f6, f7, f8⟩, ⟨f9, f10, f11⟩⟩ := HB3.out
          have HAM : Hid (Calls Try.prog 82 #[.pointer (some ⟨c, 0, none⟩), .slice (some ⟨W3.heap.size, 0, none⟩) 3 3] ((W3.alloc (.cells #[.int .i64 (-1), .int .i64 0, .int .i64 65536] 3)).drew) fun e W' => ∃ r : Int, e = .returned (.int .i64 r) ∧ r ∈ [(-1 : Int), 0, 65536] ∧ Cur B w0 W' c a len cap (m + 50 + 2) ∧ Only c ((W3.alloc (.cells #[.int .i64 (-1), .int .i64 0, .int .i64 65536] 3)).drew) W') :=
            among_any B w0 _ c W3.heap.size [-1, 0, 65536] a len cap 3 _ HD.out hl (by omega) HM3'.out.2.2.1 (by simp) (by simp) (by simp [World.drew]) (by show W3.heap.size ≠ c; omega) (minus_cells W3)
          go_wp2
          go_region_law (first
            | (refine step_call (by rfl) 82 #[.pointer (some ⟨c, 0, none⟩), .slice (some ⟨W3.heap.size, 0, none⟩) 3 3] (by simp [go_sem]) (HAM.out.mono ?_); rintro e W4 ⟨z4, rfl, hz4, hc4, ho4⟩; refine ⟨_, rfl, ?_⟩;
               have HM4 : Hid (Mid B w0 W c a len cap (m + 60) W1.heap.size (.slice (some ⟨W2.heap.size, 0, none⟩) 1 1) ([x]) W4) := HM3'.out.step ho4 (by omega) (hc4.mono (by omega));
               have HB4 : Hid (Boxes W4 W.heap.size W1.heap.size 4 (⟨#[]⟩) (.slice (some ⟨W2.heap.size, 0, none⟩) 1 1)) := HB3'.out.only ho4 (Nat.lt_trans HRQ.out HM3'.out.1) HM3'.out.1 (by omega) (by omega);
               have hq4 : W1.heap.size < W4.heap.size := HM4.out.1;
               obtain ⟨⟨g0, g1, g2⟩, ⟨g3, g4, g5⟩, ⟨g6, g7, g8⟩, ⟨g9, g10, g11⟩⟩ := HB4.out; clear hc4 ho4 hz4)
            | (refine step_put (by rfl) (.tmp 41) (.tmp 45) (by rfl) (W1.heap.size + 1) (.slice (some ⟨W2.heap.size, 0, none⟩) 1 1) ([x]) z4 (by rfl) (HM4.out.2.1.alloc _) W4.heap.size 1 (by rfl) (new_cell W4 _ 3) (by first | omega | simp) (by simp; omega) ?_; intro v5 w5 hown5 hb5 hz5;
               obtain ⟨zz, hzz⟩ : ∃ zz, zz = ([x]) ++ [z4] := ⟨_, rfl⟩; rw [← hzz] at hown5; have hzl5 : zz.length ≤ 7 := (by rw [hzz]; simp; try omega); clear hzz; obtain ⟨a5, c5, rfl⟩ := hown5.shape;
               have HM5 : Hid (Mid B w0 W c a len cap (m + 60) W1.heap.size (.slice a5 zz.length c5) zz w5) := ⟨Nat.lt_of_lt_of_le HM4.out.1 (Nat.le_trans (by simp) hz5), hown5, (HM4.out.2.2.1.alloc _).belowQ hb5 (by omega) hz5, (HM4.out.2.2.2.alloc _).belowQ hb5 (by omega) hz5⟩;
               obtain ⟨⟨h0, h1, h2⟩, ⟨h3, h4, h5⟩, ⟨h6, h7, h8⟩, ⟨h9, h10, h11⟩⟩ := (HB4.out.only (c := c) (Only.alloc (c := c) (Only.refl c W4) _) (by omega) hq4 (by omega) (by omega)).belowQ hb5 HRQ.out; clear hown5 hb5))
          all_goals
            go_wp2
            refine bodyPost_ret (v := .agg #[.int .i64 4, .string ⟨#[]⟩, .slice a5 zz.length c5]) (by simp [results, Try.results69, go_sem, h3, h4, h5]) rfl ?_
            exact PartPost.mk (t := ⟨#[]⟩) (zs := zz) HM5.out (Nat.le_refl _) HRQ.out hcW (by decide) hzl5 (by omega) (by repeat (first | exact Sets.refl | refine Sets.set ?_ _ _ (by first | exact .inl rfl | exact .inr rfl) _))
        · have dz2 : (z == 2) = false := beq_eq_false_iff_ne.2 z2'
          have HM4 : Hid (Mid B w0 W c a len cap (m + 60) W1.heap.size (.slice (some ⟨W2.heap.size, 0, none⟩) 1 1) ([x]) W3) := HM3.out.step (Only.refl _ _) (by omega) (HM3.out.2.2.1.mono (by omega))
          obtain ⟨⟨f0, f1, f2⟩, ⟨f3, f4, f5⟩, ⟨f6, f7, f8⟩, ⟨f9, f10, f11⟩⟩ := HB3.out
          go_wp2
          refine bodyPost_ret (v := .agg #[.int .i64 4, .string ⟨#[]⟩, .slice (some ⟨W2.heap.size, 0, none⟩) 1 1]) (by simp [results, Try.results69, go_sem, f3, f4, f5]) rfl ?_
          exact PartPost.mk (t := ⟨#[]⟩) (zs := [x]) HM4.out (Nat.le_refl _) HRQ.out hcW (by decide) (by first | omega | simp) (by omega) (by repeat (first | exact Sets.refl | refine Sets.set ?_ _ _ (by first | exact .inl rfl | exact .inr rfl) _))
end Go.Proofs.Ytijlhjfllfjllaa
