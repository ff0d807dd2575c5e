/-
  The walk of the law FnItems.
-/
import Derived.Test.YthdcfeafkellcabItemMath
import Derived.Test.YthdcfeafkellcabDrawIt3
import Derived.Test.YthdcfeafkellcabNewS
import Derived.Test.YthdcfeafkellcabNum0
import Derived.Deep.CutRange
import Derived.Deep.Cut
namespace Go.Proofs.Ythdcfeafkellcab
open Go.RowKit
set_option linter.unusedVariables false

namespace fnItems
set_option maxRecDepth 100000 in
set_option maxHeartbeats 16000000 in
theorem walk (a0 : Option Addr) (len0 cap0 : Nat) (a1 : Option Addr) (len1 cap1 : Nat) (w : World) (hc0 : Code w.heap.size w a0 len0) (hl0 : len0 ≤ 9223372036854775807) (hc1 : Code w.heap.size w a1 len1) (hl1 : len1 ≤ 9223372036854775807) :
    Calls Try.prog 6 #[.slice a0 len0 cap0, .slice a1 len1 cap1] w fun e w' => e = .returned (.bool true) ∧ Below w.heap.size w w' := by
  have HC0 : Hid (Code w.heap.size w a0 len0) := hc0
  have HC1 : Hid (Code w.heap.size w a1 len1) := hc1
  have S0 : Hid (Since w.heap.size w w) := Since.start w
  clear hc0 hc1
  obtain ⟨X, hX⟩ : ∃ X : Int, IntKind.i64.wrap ((len0 : Int) + (len1 : Int)) = X := ⟨_, rfl⟩
  by_cases hbig : 1048576 < X
  · have hbig' : decide ((1048576 : Int) < X) = true := decide_eq_true hbig
    go_enter Try.func6, Try.ntmps6
    go_wp2
    go_ret
    exact ⟨rfl, Below.refl _ _⟩
  have hbig' : decide ((1048576 : Int) < X) = false := decide_eq_false hbig
  go_enter Try.func6, Try.ntmps6
  go_wp2_with fail
  refine (drawBetter_any w.heap.size w _ a0 len0 cap0 HC0.out (by omega) S0.out).mono ?_
  rintro e w1 ⟨x, y, rfl, hx, hy, hsw⟩
  have hxm : x.text.size ≤ maxLen := by unfold maxLen; omega
  have hym : y.text.size ≤ maxLen := by unfold maxLen; omega
  obtain ⟨n, hn⟩ : ∃ n, n = outBetter x y := ⟨_, rfl⟩
  obtain ⟨ok, hok⟩ : ∃ ok, ok = mayBetter x y := ⟨_, rfl⟩
  obtain ⟨gd, hgd⟩ : ∃ gd, gd = goodI x := ⟨_, rfl⟩
  have CBI : Hid (∀ W, Calls Try.prog 41 #[.agg #[.int .i64 x.frm, .int .i64 x.seq, .int .i64 x.age, .string x.text], .agg #[.int .i64 y.frm, .int .i64 y.seq, .int .i64 y.age, .string y.text]] W fun e W' => e = .returned (.tuple #[.int .i64 n, .bool ok]) ∧ Below W.heap.size W W') := fun W => by rw [hn, hok]; exact implBetter_any W x y hxm hym
  have CBS : Hid (∀ W, Calls Try.prog 42 #[.agg #[.int .i64 x.frm, .int .i64 x.seq, .int .i64 x.age, .string x.text], .agg #[.int .i64 y.frm, .int .i64 y.seq, .int .i64 y.age, .string y.text]] W fun e W' => e = .returned (.tuple #[.int .i64 n, .bool ok]) ∧ Below W.heap.size W W') := fun W => by rw [hn, hok]; exact specBetter_any W x y hxm hym
  have CGI : Hid (∀ W, Calls Try.prog 43 #[.agg #[.int .i64 x.frm, .int .i64 x.seq, .int .i64 x.age, .string x.text]] W fun e W' => e = .returned (.bool gd) ∧ Below W.heap.size W W') := fun W => by rw [hgd]; exact implGoodItem_any W x hxm
  have CGS : Hid (∀ W, Calls Try.prog 44 #[.agg #[.int .i64 x.frm, .int .i64 x.seq, .int .i64 x.age, .string x.text]] W fun e W' => e = .returned (.bool gd) ∧ Below W.heap.size W W') := fun W => by rw [hgd]; exact specGoodItem_any W x hxm
  have HOK : Hid (ok = true → ∃ m : Int, ((n = 1 ∧ m = 2) ∨ (n = 2 ∧ m = 1) ∨ (n = 0 ∧ m = 0) ∨ (n = 3 ∧ m = 3)) ∧ ∀ W, Calls Try.prog 41 #[.agg #[.int .i64 y.frm, .int .i64 y.seq, .int .i64 y.age, .string y.text], .agg #[.int .i64 x.frm, .int .i64 x.seq, .int .i64 x.age, .string x.text]] W fun e W' => e = .returned (.tuple #[.int .i64 m, .bool true]) ∧ Below W.heap.size W W') := fun h => by
    rw [hok] at h
    refine ⟨outBetter y x, by rw [hn]; exact out_sides x y h, fun W => ?_⟩
    have := implBetter_any W y x hym hxm
    rw [← may_symm, h] at this
    exact this
  obtain ⟨n5, hn5⟩ : ∃ n5, n5 = w1.heap.size := ⟨_, rfl⟩
  obtain ⟨n6, hn6⟩ : ∃ n6, n6 = w1.heap.size + 1 := ⟨_, rfl⟩
  have S1 : Hid (Since w.heap.size w ((w1.alloc (.cells #[.int .i64 x.frm, .int .i64 x.seq, .int .i64 x.age, .string x.text] 60)).alloc (.cells #[.int .i64 y.frm, .int .i64 y.seq, .int .i64 y.age, .string y.text] 60))) := hsw.step (alloc2_below _ _ _)
  have HX1 : Hid (Bx4 ((w1.alloc (.cells #[.int .i64 x.frm, .int .i64 x.seq, .int .i64 x.age, .string x.text] 60)).alloc (.cells #[.int .i64 y.frm, .int .i64 y.seq, .int .i64 y.age, .string y.text] 60)) n5 (.int .i64 x.frm) (.int .i64 x.seq) (.int .i64 x.age) (.string x.text)) := by rw [hn5]; exact (Bx4.new _ _ _ _ _ _).below ((Below.refl _ _).alloc (Nat.le_refl _) _)
  have HY1 : Hid (Bx4 ((w1.alloc (.cells #[.int .i64 x.frm, .int .i64 x.seq, .int .i64 x.age, .string x.text] 60)).alloc (.cells #[.int .i64 y.frm, .int .i64 y.seq, .int .i64 y.age, .string y.text] 60)) n6 (.int .i64 y.frm) (.int .i64 y.seq) (.int .i64 y.age) (.string y.text)) := by
    have := Bx4.new (w1.alloc (.cells #[.int .i64 x.frm, .int .i64 x.seq, .int .i64 x.age, .string x.text] 60)) (.int .i64 y.frm) (.int .i64 y.seq) (.int .i64 y.age) (.string y.text) 60
    rw [hn6]
    exact (show Bx4 _ _ _ _ _ _ by simpa using this)
  clear hsw hx hy hxm hym hn hok hgd S0
  go_wp2_with fail
  refine (CBI.out _).mono ?_
  rintro e w2 ⟨rfl, hb2⟩
  have S2 : Hid (Since w.heap.size w w2) := S1.out.step hb2
  have HX2 : Hid (Bx4 w2 n5 (.int .i64 x.frm) (.int .i64 x.seq) (.int .i64 x.age) (.string x.text)) := HX1.out.below hb2
  have HY2 : Hid (Bx4 w2 n6 (.int .i64 y.frm) (.int .i64 y.seq) (.int .i64 y.age) (.string y.text)) := HY1.out.below hb2
  rw [← hn6, ← hn5]
  clear hb2 S1 HX1 HY1 hn5 hn6
  obtain ⟨a0', a1', a2, a3⟩ := HX2.out.cells
  obtain ⟨b0, b1, b2, b3⟩ := HY2.out.cells
  go_wp2_with fail
  refine (CBS.out _).mono ?_
  rintro e w4 ⟨rfl, hb4⟩
  have S4 : Hid (Since w.heap.size w w4) := S2.out.step hb4
  have HX4 : Hid (Bx4 w4 n5 (.int .i64 x.frm) (.int .i64 x.seq) (.int .i64 x.age) (.string x.text)) := HX2.out.below hb4
  have HY4 : Hid (Bx4 w4 n6 (.int .i64 y.frm) (.int .i64 y.seq) (.int .i64 y.age) (.string y.text)) := HY2.out.below hb4
  clear hb4 S2 HX2 HY2 CBI CBS a0' a1' a2 a3 b0 b1 b2 b3
  go_wp2
  go_cut [69] from 55 to 68 (fun s69 wr => s69 = .bool false ∧ Hid (Below w4.heap.size w4 wr))
  case first =>
    refine wp_region_held_drew (S := (fun w' => w'.cell? ⟨n5, 0, none⟩ = some (.int .i64 x.frm) ∧ w'.cell? ⟨n5, 1, none⟩ = some (.int .i64 x.seq) ∧ w'.cell? ⟨n5, 2, none⟩ = some (.int .i64 x.age) ∧ w'.cell? ⟨n5, 3, none⟩ = some (.string x.text))) (by kernel_rfl) ?_ (fun hHeld => ?_)
    · exact HX4.out.drew.cells
    refine handRead 0 (some 55) (.bool ok) rfl rfl (by kernel_rfl) (by kernel_rfl) (by kernel_rfl) (fun _ _ _ h => h) (by kernel_rfl) (by assumption) ?_ ?_
    · intro w hSw
      (try dsimp only at hSw)
      go_simp
    simp only [Act.put, List.setIfInBounds_toArray, List.set_cons_zero, List.set_cons_succ]
    refine handRead 1 (some 56) (.bool ok) rfl rfl (by kernel_rfl) (by kernel_rfl) (by kernel_rfl) (fun _ _ _ h => h) (by kernel_rfl) (by assumption) ?_ ?_
    · intro w hSw
      (try dsimp only at hSw)
      go_simp
    simp only [Act.put, List.setIfInBounds_toArray, List.set_cons_zero, List.set_cons_succ]
    refine handRead 2 (some 57) (.bool false) rfl rfl (by kernel_rfl) (by kernel_rfl) (by kernel_rfl) (fun _ _ _ h => h) (by kernel_rfl) (by assumption) ?_ ?_
    · intro w hSw
      (try dsimp only at hSw)
      go_simp
    simp only [Act.put, List.setIfInBounds_toArray, List.set_cons_zero, List.set_cons_succ]
    refine handRead 3 (some 58) (.bool false) rfl rfl (by kernel_rfl) (by kernel_rfl) (by kernel_rfl) (fun _ _ _ h => h) (by kernel_rfl) (by assumption) ?_ ?_
    · intro w hSw
      (try dsimp only at hSw)
      go_simp
    simp only [Act.put, List.setIfInBounds_toArray, List.set_cons_zero, List.set_cons_succ]
    refine handRead 4 (some 59) (.int .i64 n) rfl rfl (by kernel_rfl) (by kernel_rfl) (by kernel_rfl) (fun _ _ _ h => h) (by kernel_rfl) (by assumption) ?_ ?_
    · intro w hSw
      (try dsimp only at hSw)
      go_simp
    simp only [Act.put, List.setIfInBounds_toArray, List.set_cons_zero, List.set_cons_succ]
    refine handRead 5 (some 60) (.int .i64 n) rfl rfl (by kernel_rfl) (by kernel_rfl) (by kernel_rfl) (fun _ _ _ h => h) (by kernel_rfl) (by assumption) ?_ ?_
    · intro w hSw
      (try dsimp only at hSw)
      go_simp
    simp only [Act.put, List.setIfInBounds_toArray, List.set_cons_zero, List.set_cons_succ]
    refine handRead 6 (some 61) (.bool false) rfl rfl (by kernel_rfl) (by kernel_rfl) (by kernel_rfl) (fun _ _ _ h => h) (by kernel_rfl) (by assumption) ?_ ?_
    · intro w hSw
      (try dsimp only at hSw)
      go_simp
    simp only [Act.put, List.setIfInBounds_toArray, List.set_cons_zero, List.set_cons_succ]
    refine handRead 7 (some 62) (.bool false) rfl rfl (by kernel_rfl) (by kernel_rfl) (by kernel_rfl) (fun _ _ _ h => h) (by kernel_rfl) (by assumption) ?_ ?_
    · intro w hSw
      (try dsimp only at hSw)
      go_simp
    simp only [Act.put, List.setIfInBounds_toArray, List.set_cons_zero, List.set_cons_succ]
    refine handRead 8 (some 63) (.bool false) rfl rfl (by kernel_rfl) (by kernel_rfl) (by kernel_rfl) (fun _ _ _ h => h) (by kernel_rfl) (by assumption) ?_ ?_
    · intro w hSw
      (try dsimp only at hSw)
      go_simp
    simp only [Act.put, List.setIfInBounds_toArray, List.set_cons_zero, List.set_cons_succ]
    refine handRead 9 (some 64) (.agg #[.int .i64 x.frm, .int .i64 x.seq, .int .i64 x.age, .string x.text]) rfl rfl (by kernel_rfl) (by kernel_rfl) (by kernel_rfl) (fun _ _ _ h => h) (by kernel_rfl) (by assumption) ?_ ?_
    · intro w hSw
      (try dsimp only at hSw)
      go_simp
    simp only [Act.put, List.setIfInBounds_toArray, List.set_cons_zero, List.set_cons_succ]
    refine handRead 11 (some 66) (.agg #[.int .i64 x.frm, .int .i64 x.seq, .int .i64 x.age, .string x.text]) rfl rfl (by kernel_rfl) (by kernel_rfl) (by kernel_rfl) (fun _ _ _ h => h) (by kernel_rfl) (by assumption) ?_ ?_
    · intro w hSw
      (try dsimp only at hSw)
      go_simp
    simp only [Act.put, List.setIfInBounds_toArray, List.set_cons_zero, List.set_cons_succ]
    refine handCall 10 (some 65) 43 #[.agg #[.int .i64 x.frm, .int .i64 x.seq, .int .i64 x.age, .string x.text]] (by kernel_rfl) rfl rfl (by kernel_rfl) (by simp [go_sem]) ((CGI.out _).mono ?_)
    rintro e v1 ⟨rfl, hv1⟩
    have X1 := HX4.out.drew.below hv1
    have U1 := (Since.start w4).drew.step hv1
    clear hHeld
    refine ⟨_, rfl, (by exact X1.cells), fun hHeld => ?_⟩
    simp only [Act.put, List.setIfInBounds_toArray, List.set_cons_zero, List.set_cons_succ]
    refine handCall 12 (some 67) 44 #[.agg #[.int .i64 x.frm, .int .i64 x.seq, .int .i64 x.age, .string x.text]] (by kernel_rfl) rfl rfl (by kernel_rfl) (by simp [go_sem]) ((CGS.out _).mono ?_)
    rintro e v2 ⟨rfl, hv2⟩
    have X2 := X1.below hv2
    have U2 := U1.step hv2
    clear hHeld
    refine ⟨_, rfl, (by exact X2.cells), fun hHeld => ?_⟩
    simp only [Act.put, List.setIfInBounds_toArray, List.set_cons_zero, List.set_cons_succ]
    refine handRead 13 (some 68) (.bool false) rfl rfl (by kernel_rfl) (by kernel_rfl) (by kernel_rfl) (fun _ _ _ h => h) (by kernel_rfl) (by assumption) ?_ ?_
    · intro w hSw
      (try dsimp only at hSw)
      go_simp
    simp only [Act.put, List.setIfInBounds_toArray, List.set_cons_zero, List.set_cons_succ]
    refine handRead 14 (some 69) (.bool false) rfl rfl (by kernel_rfl) (by kernel_rfl) (by kernel_rfl) (fun _ _ _ h => h) (by kernel_rfl) (by assumption) ?_ ?_
    · intro w hSw
      (try dsimp only at hSw)
      go_simp
    simp only [Act.put, List.setIfInBounds_toArray, List.set_cons_zero, List.set_cons_succ]
    refine wpAnyH_done (by kernel_rfl) ?_ _
    go_wp2_with fail
    go_meet
    exact ⟨rfl, U2.1⟩
  case rest =>
    obtain ⟨rfl, HB⟩ := hcut
    have S5 : Hid (Since w.heap.size w wc) := S4.out.step HB.out
    have HX5 : Hid (Bx4 wc n5 (.int .i64 x.frm) (.int .i64 x.seq) (.int .i64 x.age) (.string x.text)) := HX4.out.below HB.out
    have HY5 : Hid (Bx4 wc n6 (.int .i64 y.frm) (.int .i64 y.seq) (.int .i64 y.age) (.string y.text)) := HY4.out.below HB.out
    clear HB S4 HX4 HY4 CGI CGS
    generalize hwc5 : wc = w5 at *
    clear hwc5
    go_upto_if 70 with fail
    go_cut [11, 12] from 70 to 107 (fun s11 s12 wc => Hid (Since w.heap.size w wc))
    case first =>
     cases ok with
     | false =>
      go_wp2
      go_meet
      exact S5
     | true =>
      obtain ⟨m, hnm, cb2⟩ := HOK.out rfl
      have CB2 : Hid (∀ W, Calls Try.prog 41 #[.agg #[.int .i64 y.frm, .int .i64 y.seq, .int .i64 y.age, .string y.text], .agg #[.int .i64 x.frm, .int .i64 x.seq, .int .i64 x.age, .string x.text]] W fun e W' => e = .returned (.tuple #[.int .i64 m, .bool true]) ∧ Below W.heap.size W W') := cb2
      clear HOK cb2
      obtain ⟨c0, c1, c2, c3⟩ := HX5.out.cells
      obtain ⟨b0, b1, b2, b3⟩ := HY5.out.cells
      rcases hnm with ⟨rfl, rfl⟩ | ⟨rfl, rfl⟩ | ⟨rfl, rfl⟩ | ⟨rfl, rfl⟩
      · go_wp2_with fail
        refine (CB2.out _).mono ?_
        rintro e z1 ⟨rfl, hb1⟩
        have T1 : Hid (Since w.heap.size w z1) := S5.out.step hb1
        clear hb1
        go_wp2
        go_meet
        exact T1
      · go_wp2_with fail
        refine (CB2.out _).mono ?_
        rintro e z1 ⟨rfl, hb1⟩
        have T1 : Hid (Since w.heap.size w z1) := S5.out.step hb1
        clear hb1
        go_wp2
        go_meet
        exact T1
      · go_wp2_with fail
        refine (CB2.out _).mono ?_
        rintro e z1 ⟨rfl, hb1⟩
        have T1 : Hid (Since w.heap.size w z1) := S5.out.step hb1
        clear hb1
        go_wp2
        go_meet
        exact T1
      · go_wp2_with fail
        refine (CB2.out _).mono ?_
        rintro e z1 ⟨rfl, hb1⟩
        have T1 : Hid (Since w.heap.size w z1) := S5.out.step hb1
        clear hb1
        go_wp2
        go_meet
        exact T1
    case rest =>
      have SR : Hid (Since w.heap.size w wc) := hcut
      clear hcut HOK S5 HX5 HY5
      generalize hwz9 : wc = z9 at *
      clear hwz9
      go_wp2_with fail
      refine (drawNewest_any w.heap.size w _ a1 len1 cap1 HC1.out (by omega) SR.out).mono ?_
      rintro e y1 ⟨vl, l, rfl, hol, hll, htl, hsl⟩
      obtain ⟨al, cl, rfl⟩ := hol.shape
      have SL1 : Hid (Since w.heap.size w y1) := hsl
      have RL : Hid (∀ w', Since y1.heap.size y1 w' → ReadsIt w' (.slice al l.length cl) l) := fun w' hs => hol.reads.below hs.1
      obtain ⟨o, ho⟩ : ∃ o, o = outNew l := ⟨_, rfl⟩
      obtain ⟨on, hon⟩ : ∃ on, on = mayNew l := ⟨_, rfl⟩
      have htm : ∀ x ∈ l, x.text.size ≤ maxLen := fun x hx => by have := htl x hx; unfold maxLen; omega
      have CNI : Hid (∀ W, ReadsIt W (.slice al l.length cl) l → Calls Try.prog 46 #[.slice al l.length cl] W fun e W' => e = .returned (.tuple #[.agg #[.int .i64 o.frm, .int .i64 o.seq, .int .i64 o.age, .string o.text], .bool on]) ∧ Below W.heap.size W W') := fun W hr => by rw [ho, hon]; exact implNewest_any W _ l hr (by omega) htm
      have CNS : Hid (∀ W, ReadsIt W (.slice al l.length cl) l → Calls Try.prog 47 #[.slice al l.length cl] W fun e W' => e = .returned (.tuple #[.agg #[.int .i64 o.frm, .int .i64 o.seq, .int .i64 o.age, .string o.text], .bool on]) ∧ Below W.heap.size W W') := fun W hr => by rw [ho, hon]; exact specNewest_any W _ l hr (by omega) htm
      have HBE : Hid (on = true → ∀ y ∈ l, ∃ k : Int, ¬ k = 1 ∧ ∀ W, Calls Try.prog 41 #[.agg #[.int .i64 y.frm, .int .i64 y.seq, .int .i64 y.age, .string y.text], .agg #[.int .i64 o.frm, .int .i64 o.seq, .int .i64 o.age, .string o.text]] W fun e W' => e = .returned (.tuple #[.int .i64 k, .bool true]) ∧ Below W.heap.size W W') := fun h1 y hy => by
        rw [hon] at h1
        obtain ⟨hb, hmem⟩ := newest_best l h1
        obtain ⟨k1, k2⟩ := hb y hy
        rw [← ho] at k1 k2 hmem
        refine ⟨outBetter y o, k2, fun W => ?_⟩
        have := implBetter_any W y o (htm y hy) (htm o hmem)
        rw [k1] at this
        exact this
      clear hol hsl ho hon htm htl
      go_wp2_with fail
      refine (CNI.out _ (RL.out _ (Since.start _))).mono ?_
      rintro e y2 ⟨rfl, hb2⟩
      have SL2 : Hid (Since w.heap.size w y2) := SL1.out.step hb2
      have UL2 : Hid (Since y1.heap.size y1 y2) := (Since.start _).step hb2
      obtain ⟨m1, hm1⟩ : ∃ m, m = y2.heap.size := ⟨_, rfl⟩
      have HO2 : Hid (Bx4 (y2.alloc (.cells #[.int .i64 o.frm, .int .i64 o.seq, .int .i64 o.age, .string o.text] 60)) m1 (.int .i64 o.frm) (.int .i64 o.seq) (.int .i64 o.age) (.string o.text)) := by rw [hm1]; exact Bx4.new _ _ _ _ _ _
      have SLa : Hid (Since w.heap.size w (y2.alloc (.cells #[.int .i64 o.frm, .int .i64 o.seq, .int .i64 o.age, .string o.text] 60))) := SL2.out.step ((Below.refl _ _).alloc (Nat.le_refl _) _)
      have ULa : Hid (Since y1.heap.size y1 (y2.alloc (.cells #[.int .i64 o.frm, .int .i64 o.seq, .int .i64 o.age, .string o.text] 60))) := UL2.out.step ((Below.refl _ _).alloc (Nat.le_refl _) _)
      clear hb2 SL1 SL2 UL2
      go_wp2_with fail
      refine (CNS.out _ (RL.out _ ULa.out)).mono ?_
      rintro e y3 ⟨rfl, hb3⟩
      have SL3 : Hid (Since w.heap.size w y3) := SLa.out.step hb3
      have UL3 : Hid (Since y1.heap.size y1 y3) := ULa.out.step hb3
      have HO3 : Hid (Bx4 y3 m1 (.int .i64 o.frm) (.int .i64 o.seq) (.int .i64 o.age) (.string o.text)) := HO2.out.below hb3
      have lt3 := HO3.out.lt
      rw [← hm1]
      clear hb3 SLa ULa HO2 CNI CNS hm1
      obtain ⟨o0, o1, o2, o3⟩ := HO3.out.cells
      have HO4 : Hid (Bx4 (y3.alloc (.cells #[.int .i64 o.frm, .int .i64 o.seq, .int .i64 o.age, .string o.text] 60)) m1 (.int .i64 o.frm) (.int .i64 o.seq) (.int .i64 o.age) (.string o.text)) := HO3.out.below ((Below.refl _ _).alloc (Nat.le_refl _) _)
      have SL4 : Hid (Since w.heap.size w (y3.alloc (.cells #[.int .i64 o.frm, .int .i64 o.seq, .int .i64 o.age, .string o.text] 60))) := SL3.out.step ((Below.refl _ _).alloc (Nat.le_refl _) _)
      have UL4 : Hid (Since y1.heap.size y1 (y3.alloc (.cells #[.int .i64 o.frm, .int .i64 o.seq, .int .i64 o.age, .string o.text] 60))) := UL3.out.step ((Below.refl _ _).alloc (Nat.le_refl _) _)
      go_upto_if 128 with fail
      clear o0 o1 o2 o3 lt3 HO3 SL3 UL3
      generalize hy34 : (y3.alloc (.cells #[.int .i64 o.frm, .int .i64 o.seq, .int .i64 o.age, .string o.text] 60)) = y4 at *
      clear hy34
      go_cut [19, 20, 21] from 128 to 147 (fun s19 s20 s21 wc => Hid (Since w.heap.size w wc))
      case first =>
       cases on with
       | false =>
        go_wp2
        go_meet
        exact SL4
       | true =>
        have HBY := HBE.out rfl
        have HB2 : Hid (∀ y ∈ l, ∃ k : Int, ¬ k = 1 ∧ ∀ W, Calls Try.prog 41 #[.agg #[.int .i64 y.frm, .int .i64 y.seq, .int .i64 y.age, .string y.text], .agg #[.int .i64 o.frm, .int .i64 o.seq, .int .i64 o.age, .string o.text]] W fun e W' => e = .returned (.tuple #[.int .i64 k, .bool true]) ∧ Below W.heap.size W W') := HBY
        clear HBE HBY
        have HC4 : Hid (∀ W1, Since y4.heap.size y4 W1 → ∀ j (hj : j < l.length), ∃ g o, al = some ⟨g, o, none⟩ ∧ ItAt W1 g (o + j * 4) l[j]) := fun W1 hs j hj => by
          obtain ⟨a', c', e', hcc⟩ := RL.out W1 (UL4.out.tran hs)
          have ea : al = a' := by simp at e'; exact e'.1
          rcases hcc with e | ⟨g, o, ha, hg, hc⟩
          · rw [e] at hj; simp at hj
          · exact ⟨g, o, ea.trans ha, hc j hj⟩
        go_wp2
        go_loopw [131] (fun i wr => ∃ k : Nat, k ≤ l.length ∧ i = .int .i64 k ∧ Hid (Since y4.heap.size y4 wr)) (fun i _ => l.length - (intOf i).toNat)
        case atStart => exact ⟨0, Nat.zero_le _, rfl, Since.start _⟩
        case round =>
          obtain ⟨k, hk, rfl, HK⟩ := hrel
          by_cases hlt : k < l.length
          · have hlt' : (k : Int) < (l.length : Int) := by omega
            obtain ⟨g1, p1, rfl, q0, q1, q2, q3⟩ := HC4.out wr HK.out k hlt
            obtain ⟨kk, hkk, ck⟩ := HB2.out _ (List.getElem_mem hlt)
            have ek : (kk == 1) = false := by rw [beq_eq_false_iff_ne]; exact hkk
            generalize l[k] = y at *
            have CK : Hid (∀ W, Calls Try.prog 41 #[.agg #[.int .i64 y.frm, .int .i64 y.seq, .int .i64 y.age, .string y.text], .agg #[.int .i64 o.frm, .int .i64 o.seq, .int .i64 o.age, .string o.text]] W fun e W' => e = .returned (.tuple #[.int .i64 kk, .bool true]) ∧ Below W.heap.size W W') := ck
            have HOw : Hid (Bx4 wr m1 (.int .i64 o.frm) (.int .i64 o.seq) (.int .i64 o.age) (.string o.text)) := HO4.out.below HK.out.1
            have ltw := HOw.out.lt
            obtain ⟨o0, o1, o2, o3⟩ := HOw.out.cells
            have HS1 : Hid (Since y4.heap.size y4 (wr.alloc (.cells #[.int .i64 y.frm, .int .i64 y.seq, .int .i64 y.age, .string y.text] 60))) := HK.out.step ((Below.refl _ _).alloc (Nat.le_refl _) _)
            clear HK hkk ck
            go_wp2_with fail
            refine (CK.out _).mono ?_
            rintro e w8 ⟨rfl, hb8⟩
            have HS2 : Hid (Since y4.heap.size y4 w8) := HS1.out.step hb8
            clear hb8
            go_wp2
            go_roundw
            case rel => exact ⟨k + 1, by omega, by go_num, HS2⟩
            case measure => simp [intOf]; omega
          · have hlt' : ¬ (k : Int) < (l.length : Int) := by omega
            have HSE : Hid (Since w.heap.size w wr) := SL4.out.tran HK.out
            clear HK HC4
            go_wp2
            go_meet
            exact HSE
      case rest =>
        have SR : Hid (Since w.heap.size w wc) := hcut
        clear hcut HBE SL4 UL4 HO4 RL
        generalize hwz9 : wc = z9 at *
        clear hwz9
        go_wp2_with fail
        refine (drawAge_any w.heap.size w _ a1 len1 cap1 HC1.out (by omega) SR.out).mono ?_
        rintro e q1 ⟨z, bb, rfl, hz1, hbb0, hbb1, hsq⟩
        have SQ1 : Hid (Since w.heap.size w q1) := hsq
        obtain ⟨g, hg⟩ : ∃ g, g = outAge z bb := ⟨_, rfl⟩
        obtain ⟨th, hth⟩ : ∃ th, th = mayAge z bb := ⟨_, rfl⟩
        have hzm : z.text.size ≤ maxLen := by unfold maxLen; omega
        have CAI : Hid (∀ W, Calls Try.prog 49 #[.agg #[.int .i64 z.frm, .int .i64 z.seq, .int .i64 z.age, .string z.text], .int .i64 bb] W fun e W' => e = .returned (.tuple #[.agg #[.int .i64 g.frm, .int .i64 g.seq, .int .i64 g.age, .string g.text], .bool th]) ∧ Below W.heap.size W W') := fun W => by rw [hg, hth]; exact implAgeItem_any W z bb hzm
        have CAS : Hid (∀ W, Calls Try.prog 50 #[.agg #[.int .i64 z.frm, .int .i64 z.seq, .int .i64 z.age, .string z.text], .int .i64 bb] W fun e W' => e = .returned (.tuple #[.agg #[.int .i64 g.frm, .int .i64 g.seq, .int .i64 g.age, .string g.text], .bool th]) ∧ Below W.heap.size W W') := fun W => by rw [hg, hth]; exact specAgeItem_any W z bb hzm
        obtain ⟨hh, hhh⟩ : ∃ hh, hh = bb / 2 := ⟨_, rfl⟩
        obtain ⟨hf, hhf⟩ : ∃ hf, hf = outAge z hh := ⟨_, rfl⟩
        have HTH : Hid (th = true → (0 ≤ bb ∧ bb ≤ 100) ∧ (∀ W, Calls Try.prog 49 #[.agg #[.int .i64 z.frm, .int .i64 z.seq, .int .i64 z.age, .string z.text], .int .i64 hh] W fun e W' => e = .returned (.tuple #[.agg #[.int .i64 hf.frm, .int .i64 hf.seq, .int .i64 hf.age, .string hf.text], .bool true]) ∧ Below W.heap.size W W') ∧ (∀ W, Calls Try.prog 49 #[.agg #[.int .i64 hf.frm, .int .i64 hf.seq, .int .i64 hf.age, .string hf.text], .int .i64 (bb - hh)] W fun e W' => e = .returned (.tuple #[.agg #[.int .i64 g.frm, .int .i64 g.seq, .int .i64 g.age, .string g.text], .bool true]) ∧ Below W.heap.size W W') ∧ (∀ W, Calls Try.prog 43 #[.agg #[.int .i64 g.frm, .int .i64 g.seq, .int .i64 g.age, .string g.text]] W fun e W' => e = .returned (.bool true) ∧ Below W.heap.size W W')) := fun ht => by
          rw [hth] at ht
          have hb2 : 0 ≤ bb ∧ bb ≤ 100 := by unfold mayAge at ht; simp only [Bool.and_eq_true, decide_eq_true_eq] at ht; exact ht.2
          obtain ⟨k1, k2, k3, k4, k5, k6⟩ := age_halves z bb hh ht hhh
          rw [← hhf] at k2 k3 k5
          rw [← hg] at k3 k4 k6
          refine ⟨hb2, fun W => ?_, fun W => ?_, fun W => ?_⟩
          · have := implAgeItem_any W z hh hzm
            rw [← hhf, k1] at this
            exact this
          · have := implAgeItem_any W hf (bb - hh) (by unfold maxLen; omega)
            rw [k3, k2] at this
            exact this
          · have := implGoodItem_any W g (by unfold maxLen; omega)
            rw [k4] at this
            exact this
        have htd : 0 ≤ bb → bb.tdiv 2 = hh := fun h0 => by rw [hhh]; exact Int.tdiv_eq_ediv_of_nonneg h0
        have hhr : 0 ≤ bb → 0 ≤ hh ∧ hh ≤ bb := fun h0 => by omega
        have HTD : Hid ((0 ≤ bb → bb.tdiv 2 = hh) ∧ (0 ≤ bb → 0 ≤ hh ∧ hh ≤ bb)) := ⟨htd, hhr⟩
        obtain ⟨m1, hm1⟩ : ∃ m, m = q1.heap.size := ⟨_, rfl⟩
        have HZ1 : Hid (Bx4 (q1.alloc (.cells #[.int .i64 z.frm, .int .i64 z.seq, .int .i64 z.age, .string z.text] 60)) m1 (.int .i64 z.frm) (.int .i64 z.seq) (.int .i64 z.age) (.string z.text)) := by rw [hm1]; exact Bx4.new _ _ _ _ _ _
        have SQa : Hid (Since w.heap.size w (q1.alloc (.cells #[.int .i64 z.frm, .int .i64 z.seq, .int .i64 z.age, .string z.text] 60))) := SQ1.out.step ((Below.refl _ _).alloc (Nat.le_refl _) _)
        clear hsq hg hth hzm hhh hhf htd hhr SQ1 hz1
        go_wp2_with fail
        refine (CAI.out _).mono ?_
        rintro e q2 ⟨rfl, hb2⟩
        have SQ2 : Hid (Since w.heap.size w q2) := SQa.out.step hb2
        have HZ2 : Hid (Bx4 q2 m1 (.int .i64 z.frm) (.int .i64 z.seq) (.int .i64 z.age) (.string z.text)) := HZ1.out.below hb2
        have lt2 := HZ2.out.lt
        rw [← hm1]
        clear hb2 HZ1 SQa hm1
        obtain ⟨z0, z1, z2, z3⟩ := HZ2.out.cells
        obtain ⟨m2, hm2⟩ : ∃ m, m = q2.heap.size := ⟨_, rfl⟩
        have HG2 : Hid (Bx4 (q2.alloc (.cells #[.int .i64 g.frm, .int .i64 g.seq, .int .i64 g.age, .string g.text] 60)) m2 (.int .i64 g.frm) (.int .i64 g.seq) (.int .i64 g.age) (.string g.text)) := by rw [hm2]; exact Bx4.new _ _ _ _ _ _
        have HZ3 : Hid (Bx4 (q2.alloc (.cells #[.int .i64 g.frm, .int .i64 g.seq, .int .i64 g.age, .string g.text] 60)) m1 (.int .i64 z.frm) (.int .i64 z.seq) (.int .i64 z.age) (.string z.text)) := HZ2.out.below ((Below.refl _ _).alloc (Nat.le_refl _) _)
        have SQ3 : Hid (Since w.heap.size w (q2.alloc (.cells #[.int .i64 g.frm, .int .i64 g.seq, .int .i64 g.age, .string g.text] 60))) := SQ2.out.step ((Below.refl _ _).alloc (Nat.le_refl _) _)
        go_wp2_with fail
        refine (CAS.out _).mono ?_
        rintro e q4 ⟨rfl, hb4⟩
        have SQ4 : Hid (Since w.heap.size w q4) := SQ3.out.step hb4
        have HZ4 : Hid (Bx4 q4 m1 (.int .i64 z.frm) (.int .i64 z.seq) (.int .i64 z.age) (.string z.text)) := HZ3.out.below hb4
        have HG4 : Hid (Bx4 q4 m2 (.int .i64 g.frm) (.int .i64 g.seq) (.int .i64 g.age) (.string g.text)) := HG2.out.below hb4
        rw [← hm2]
        clear hb4 HG2 HZ3 SQ3 HZ2 SQ2 z0 z1 z2 z3 lt2 hm2
        obtain ⟨z0, z1, z2, z3⟩ := HZ4.out.cells
        obtain ⟨g0, g1, g2, g3⟩ := HG4.out.cells
        have lt4 := HZ4.out.lt
        have lt5 := HG4.out.lt
        have HZ5 : Hid (Bx4 (q4.alloc (.cells #[.int .i64 g.frm, .int .i64 g.seq, .int .i64 g.age, .string g.text] 60)) m1 (.int .i64 z.frm) (.int .i64 z.seq) (.int .i64 z.age) (.string z.text)) := HZ4.out.below ((Below.refl _ _).alloc (Nat.le_refl _) _)
        have HG5 : Hid (Bx4 (q4.alloc (.cells #[.int .i64 g.frm, .int .i64 g.seq, .int .i64 g.age, .string g.text] 60)) m2 (.int .i64 g.frm) (.int .i64 g.seq) (.int .i64 g.age) (.string g.text)) := HG4.out.below ((Below.refl _ _).alloc (Nat.le_refl _) _)
        have SQ5 : Hid (Since w.heap.size w (q4.alloc (.cells #[.int .i64 g.frm, .int .i64 g.seq, .int .i64 g.age, .string g.text] 60))) := SQ4.out.step ((Below.refl _ _).alloc (Nat.le_refl _) _)
        cases th with
        | false =>
          clear HTH HTD
          go_wp2
          go_ret
          exact ⟨rfl, SQ5.out.1⟩
        | true =>
          obtain ⟨hbr, ch1, ch2, ch3⟩ := HTH.out rfl
          have hb0 : 0 ≤ bb := hbr.1
          have hb1 : bb ≤ 100 := hbr.2
          have htd := HTD.out.1 hbr.1
          have hh0 := (HTD.out.2 hbr.1).1
          have hh1 := (HTD.out.2 hbr.1).2
          have CH1 : Hid (∀ W, Calls Try.prog 49 #[.agg #[.int .i64 z.frm, .int .i64 z.seq, .int .i64 z.age, .string z.text], .int .i64 hh] W fun e W' => e = .returned (.tuple #[.agg #[.int .i64 hf.frm, .int .i64 hf.seq, .int .i64 hf.age, .string hf.text], .bool true]) ∧ Below W.heap.size W W') := ch1
          have CH2 : Hid (∀ W, Calls Try.prog 49 #[.agg #[.int .i64 hf.frm, .int .i64 hf.seq, .int .i64 hf.age, .string hf.text], .int .i64 (bb - hh)] W fun e W' => e = .returned (.tuple #[.agg #[.int .i64 g.frm, .int .i64 g.seq, .int .i64 g.age, .string g.text], .bool true]) ∧ Below W.heap.size W W') := ch2
          have CH3 : Hid (∀ W, Calls Try.prog 43 #[.agg #[.int .i64 g.frm, .int .i64 g.seq, .int .i64 g.age, .string g.text]] W fun e W' => e = .returned (.bool true) ∧ Below W.heap.size W W') := ch3
          clear HTH HTD hbr ch1 ch2 ch3 CAI CAS
          go_wp2_with fail
          refine (CH1.out _).mono ?_
          rintro e q6 ⟨rfl, hb6⟩
          have SQ6 : Hid (Since w.heap.size w q6) := SQ5.out.step hb6
          have HG6 : Hid (Bx4 q6 m2 (.int .i64 g.frm) (.int .i64 g.seq) (.int .i64 g.age) (.string g.text)) := HG5.out.below hb6
          have lt6 := HG6.out.lt
          clear hb6 HZ5 HG5 SQ5 HZ4 HG4 SQ4 z0 z1 z2 z3 g0 g1 g2 g3 lt4 lt5
          obtain ⟨g0, g1, g2, g3⟩ := HG6.out.cells
          obtain ⟨m3, hm3⟩ : ∃ m, m = q6.heap.size := ⟨_, rfl⟩
          have HG7 : Hid (Bx4 (q6.alloc (.cells #[.int .i64 hf.frm, .int .i64 hf.seq, .int .i64 hf.age, .string hf.text] 60)) m2 (.int .i64 g.frm) (.int .i64 g.seq) (.int .i64 g.age) (.string g.text)) := HG6.out.below ((Below.refl _ _).alloc (Nat.le_refl _) _)
          have SQ7 : Hid (Since w.heap.size w (q6.alloc (.cells #[.int .i64 hf.frm, .int .i64 hf.seq, .int .i64 hf.age, .string hf.text] 60))) := SQ6.out.step ((Below.refl _ _).alloc (Nat.le_refl _) _)
          go_wp2_with fail
          refine (CH2.out _).mono ?_
          rintro e q8 ⟨rfl, hb8⟩
          have SQ8 : Hid (Since w.heap.size w q8) := SQ7.out.step hb8
          have HG8 : Hid (Bx4 q8 m2 (.int .i64 g.frm) (.int .i64 g.seq) (.int .i64 g.age) (.string g.text)) := HG7.out.below hb8
          have lt8 := HG8.out.lt
          clear hb8 HG7 SQ7 HG6 SQ6 g0 g1 g2 g3 lt6
          obtain ⟨g0, g1, g2, g3⟩ := HG8.out.cells
          obtain ⟨m4, hm4⟩ : ∃ m, m = q8.heap.size := ⟨_, rfl⟩
          have HG9 : Hid (Bx4 (q8.alloc (.cells #[.int .i64 g.frm, .int .i64 g.seq, .int .i64 g.age, .string g.text] 60)) m2 (.int .i64 g.frm) (.int .i64 g.seq) (.int .i64 g.age) (.string g.text)) := HG8.out.below ((Below.refl _ _).alloc (Nat.le_refl _) _)
          have HK9 : Hid (Bx4 (q8.alloc (.cells #[.int .i64 g.frm, .int .i64 g.seq, .int .i64 g.age, .string g.text] 60)) m4 (.int .i64 g.frm) (.int .i64 g.seq) (.int .i64 g.age) (.string g.text)) := by rw [hm4]; exact Bx4.new _ _ _ _ _ _
          have SQ9 : Hid (Since w.heap.size w (q8.alloc (.cells #[.int .i64 g.frm, .int .i64 g.seq, .int .i64 g.age, .string g.text] 60))) := SQ8.out.step ((Below.refl _ _).alloc (Nat.le_refl _) _)
          go_wp2_with fail
          refine (CH3.out _).mono ?_
          rintro e q10 ⟨rfl, hb10⟩
          have SQ10 : Hid (Since w.heap.size w q10) := SQ9.out.step hb10
          have HG10 : Hid (Bx4 q10 m2 (.int .i64 g.frm) (.int .i64 g.seq) (.int .i64 g.age) (.string g.text)) := HG9.out.below hb10
          have HK10 : Hid (Bx4 q10 m4 (.int .i64 g.frm) (.int .i64 g.seq) (.int .i64 g.age) (.string g.text)) := HK9.out.below hb10
          rw [← hm4]
          clear hb10 HG9 HK9 SQ9 HG8 SQ8 g0 g1 g2 g3 lt8 hm4
          obtain ⟨g0, g1, g2, g3⟩ := HG10.out.cells
          obtain ⟨k0, k1, k2, k3⟩ := HK10.out.cells
          go_wp2
          go_ret
          exact ⟨rfl, SQ10.out.1⟩
end fnItems
end Go.Proofs.Ythdcfeafkellcab
