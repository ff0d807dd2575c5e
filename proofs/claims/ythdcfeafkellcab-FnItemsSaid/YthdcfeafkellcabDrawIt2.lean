/-
  What is drawn of items, more: 'DrawAgeItem', 'DrawBetter'.
-/
import Derived.Test.YthdcfeafkellcabDrawIt
import Derived.Test.YthdcfeafkellcabHand
namespace Go.Proofs.Ythdcfeafkellcab
open Go.RowKit
set_option linter.unusedVariables false

theorem Bx4.drew {W : World} {b : Nat} {x y z u : Value} (h : Bx4 W b x y z u) : Bx4 W.drew b x y z u := ⟨h.lt, h.c0, h.c1, h.c2, h.c3, h.fz⟩
theorem Since.set {B : Nat} {w0 w : World} (h : Since B w0 w) {b : Nat} (hb : B ≤ b) (o : Nat) (v : Value) : Since B w0 (w.setCell ⟨b, o, none⟩ v) := ⟨h.1.setCell hb _, by simpa [World.setCell] using h.2⟩
/-- An item and a number that were drawn; two items. -/
def DrawnAge (B : Nat) (w0 W : World) (e : Ending) (W' : World) : Prop := ∃ (x : ItD) (g : Int), e = .returned (.tuple #[.agg #[.int .i64 x.frm, .int .i64 x.seq, .int .i64 x.age, .string x.text], .int .i64 g]) ∧ x.text.size ≤ 1 ∧ -1 ≤ g ∧ g ≤ 101 ∧ Since B w0 W'
def DrawnTwo (B : Nat) (w0 W : World) (e : Ending) (W' : World) : Prop := ∃ x y : ItD, e = .returned (.tuple #[.agg #[.int .i64 x.frm, .int .i64 x.seq, .int .i64 x.age, .string x.text], .agg #[.int .i64 y.frm, .int .i64 y.seq, .int .i64 y.age, .string y.text]]) ∧ x.text.size ≤ 1 ∧ y.text.size ≤ 1 ∧ Since B w0 W'

set_option maxRecDepth 100000 in
set_option maxHeartbeats 4000000 in
theorem drawAge_any (B : Nat) (w0 W : World) (a : Option Addr) (len cap : Nat) (hC : Code B w0 a len) (hl : len ≤ 9223372036854775807) (h : Since B w0 W) :
    Calls Try.prog 48 #[.slice a len cap] W (DrawnAge B w0 W) := by
  have HD : Hid (Code B w0 a len) := hC
  have hBW : B ≤ W.heap.size := h.2
  have hS : Since B w0 (W.alloc (.cells #[.int .i64 0, .int .i64 0, .int .i64 0, .string ⟨#[]⟩] 60)) := h.step ((Below.refl _ _).alloc (Nat.le_refl _) _)
  have HU : Hid (Cur B w0 ((W.alloc (.cells #[.int .i64 0, .int .i64 0, .int .i64 0, .string ⟨#[]⟩] 60)).alloc (.cells #[.slice a len cap, .int .i64 0, .int .u64 0] 75)) (W.heap.size + 1) a len cap 0) := by
    have := cur_new a len cap 75 hS
    exact (show Cur _ _ _ _ _ _ _ _ by simpa using this)
  have HR0 : Hid (Bx4 ((W.alloc (.cells #[.int .i64 0, .int .i64 0, .int .i64 0, .string ⟨#[]⟩] 60)).alloc (.cells #[.slice a len cap, .int .i64 0, .int .u64 0] 75)) W.heap.size (.int .i64 0) (.int .i64 0) (.int .i64 0) (.string ⟨#[]⟩)) := (Bx4.new _ _ _ _ _ _).below ((Below.refl _ _).alloc (Nat.le_refl _) _)
  clear hC h hS
  go_enter Try.func48, Try.ntmps48
  go_wp2_with fail
  refine (item_any B w0 _ _ a len cap 0 HD.out hl (by omega) HU.out).mono ?_
  rintro e w1 ⟨x, rfl, hx1, hc1, ho1⟩
  have HR1 : Hid (Bx4 w1 W.heap.size (.int .i64 0) (.int .i64 0) (.int .i64 0) (.string ⟨#[]⟩)) := HR0.out.only ho1 (by omega)
  have HC1 : Hid (Cur B w0 w1 (W.heap.size + 1) a len cap 24) := hc1
  have HX1 : Hid (x.text.size ≤ 1) := hx1
  have hcW1 : W.heap.size + 1 < w1.heap.size := hc1.2.1
  have HCL : Hid (∀ j (hj : j < [(-1 : Int), 0, 1, 5, 20, 100, 101].length), (w1.alloc (.cells #[.int .i64 (-1), .int .i64 0, .int .i64 1, .int .i64 5, .int .i64 20, .int .i64 100, .int .i64 101] 3)).cell? ⟨w1.heap.size, j, none⟩ = some (.int .i64 [(-1 : Int), 0, 1, 5, 20, 100, 101][j])) := cells_lit w1 3 [(-1 : Int), 0, 1, 5, 20, 100, 101]
  clear hx1 hc1 ho1 HU HR0
  go_wp2_with fail
  refine (among_any B w0 _ _ w1.heap.size [(-1 : Int), 0, 1, 5, 20, 100, 101] a len cap 7 24 HD.out hl (by omega) (curAlloc HC1.out _) (by simp) (by simp) (by simp) (by omega) HCL.out).mono ?_
  rintro e w2 ⟨g, rfl, hg, hc2, ho2⟩
  have hg2 : -1 ≤ g ∧ g ≤ 101 := by simp at hg; omega
  have HR2 : Hid (Bx4 w2 W.heap.size (.int .i64 0) (.int .i64 0) (.int .i64 0) (.string ⟨#[]⟩)) := HR1.out.only ((onlyAlloc (Only.refl _ _) _).trans ho2) (by omega)
  have HS2 : Hid (Since B w0 w2) := hc2.2.2.1
  clear hc2 ho2 HR1 HC1 HCL hg
  obtain ⟨r0, r1, r2, r3⟩ := HR2.out.cells
  have fr0 := HR2.out.fz 0
  have fr1 := HR2.out.fz 1
  have fr2 := HR2.out.fz 2
  have fr3 := HR2.out.fz 3
  go_wp2
  refine bodyPost_ret (v := .tuple #[.agg #[.int .i64 x.frm, .int .i64 x.seq, .int .i64 x.age, .string x.text], .int .i64 g]) (by simp [results, Try.results48, go_sem, r0, r1, r2, r3]) rfl ?_
  exact ⟨x, g, rfl, HX1.out, hg2.1, hg2.2, (((HS2.out.set hBW _ _).set hBW _ _).set hBW _ _).set hBW _ _⟩

set_option maxRecDepth 100000 in
set_option maxHeartbeats 8000000 in
theorem drawBetter_any (B : Nat) (w0 W : World) (a : Option Addr) (len cap : Nat) (hC : Code B w0 a len) (hl : len ≤ 9223372036854775807) (h : Since B w0 W) :
    Calls Try.prog 40 #[.slice a len cap] W (DrawnTwo B w0 W) := by
  have HD : Hid (Code B w0 a len) := hC
  have hBW : B ≤ W.heap.size := h.2
  have hS : Since B w0 ((W.alloc (.cells #[.int .i64 0, .int .i64 0, .int .i64 0, .string ⟨#[]⟩] 60)).alloc (.cells #[.int .i64 0, .int .i64 0, .int .i64 0, .string ⟨#[]⟩] 60)) := h.step (alloc2_below _ _ _)
  have HU : Hid (Cur B w0 (((W.alloc (.cells #[.int .i64 0, .int .i64 0, .int .i64 0, .string ⟨#[]⟩] 60)).alloc (.cells #[.int .i64 0, .int .i64 0, .int .i64 0, .string ⟨#[]⟩] 60)).alloc (.cells #[.slice a len cap, .int .i64 0, .int .u64 0] 75)) (W.heap.size + 1 + 1) a len cap 0) := by
    have := cur_new a len cap 75 hS
    exact (show Cur _ _ _ _ _ _ _ _ by simpa using this)
  have HR0 : Hid (Bx4 (((W.alloc (.cells #[.int .i64 0, .int .i64 0, .int .i64 0, .string ⟨#[]⟩] 60)).alloc (.cells #[.int .i64 0, .int .i64 0, .int .i64 0, .string ⟨#[]⟩] 60)).alloc (.cells #[.slice a len cap, .int .i64 0, .int .u64 0] 75)) W.heap.size (.int .i64 0) (.int .i64 0) (.int .i64 0) (.string ⟨#[]⟩)) := ((Bx4.new _ _ _ _ _ _).below ((Below.refl _ _).alloc (Nat.le_refl _) _)).below ((Below.refl _ _).alloc (Nat.le_refl _) _)
  have HQ0 : Hid (Bx4 (((W.alloc (.cells #[.int .i64 0, .int .i64 0, .int .i64 0, .string ⟨#[]⟩] 60)).alloc (.cells #[.int .i64 0, .int .i64 0, .int .i64 0, .string ⟨#[]⟩] 60)).alloc (.cells #[.slice a len cap, .int .i64 0, .int .u64 0] 75)) (W.heap.size + 1) (.int .i64 0) (.int .i64 0) (.int .i64 0) (.string ⟨#[]⟩)) := by
    have := (Bx4.new (W.alloc (.cells #[.int .i64 0, .int .i64 0, .int .i64 0, .string ⟨#[]⟩] 60)) (.int .i64 0) (.int .i64 0) (.int .i64 0) (.string ⟨#[]⟩) 60).below ((Below.refl _ _).alloc (Nat.le_refl _) (.cells #[.slice a len cap, .int .i64 0, .int .u64 0] 75))
    exact (show Bx4 _ _ _ _ _ _ by simpa using this)
  clear hC h hS
  go_enter Try.func40, Try.ntmps40
  go_wp2_with fail
  refine (item_any B w0 _ _ a len cap 0 HD.out hl (by omega) HU.out).mono ?_
  rintro e w1 ⟨x, rfl, hx1, hc1, ho1⟩
  have HR1 : Hid (Bx4 w1 W.heap.size (.int .i64 0) (.int .i64 0) (.int .i64 0) (.string ⟨#[]⟩)) := HR0.out.only ho1 (by omega)
  have HQ1 : Hid (Bx4 w1 (W.heap.size + 1) (.int .i64 0) (.int .i64 0) (.int .i64 0) (.string ⟨#[]⟩)) := HQ0.out.only ho1 (by omega)
  have HTX : Hid (x.text.size ≤ 1) := hx1
  have hW1 : W.heap.size + 1 + 1 < w1.heap.size := hc1.2.1
  obtain ⟨n5, hn5⟩ : ∃ n5, n5 = w1.heap.size := ⟨_, rfl⟩
  have hn5a : W.heap.size + 1 + 1 < n5 := by omega
  have HRa : Hid (Bx4 (w1.alloc (.cells #[.int .i64 x.frm, .int .i64 x.seq, .int .i64 x.age, .string x.text] 60)) W.heap.size (.int .i64 0) (.int .i64 0) (.int .i64 0) (.string ⟨#[]⟩)) := HR1.out.below ((Below.refl _ _).alloc (Nat.le_refl _) _)
  have HQa : Hid (Bx4 (w1.alloc (.cells #[.int .i64 x.frm, .int .i64 x.seq, .int .i64 x.age, .string x.text] 60)) (W.heap.size + 1) (.int .i64 0) (.int .i64 0) (.int .i64 0) (.string ⟨#[]⟩)) := HQ1.out.below ((Below.refl _ _).alloc (Nat.le_refl _) _)
  have HXa : Hid (Bx4 (w1.alloc (.cells #[.int .i64 x.frm, .int .i64 x.seq, .int .i64 x.age, .string x.text] 60)) n5 (.int .i64 x.frm) (.int .i64 x.seq) (.int .i64 x.age) (.string x.text)) := by rw [hn5]; exact Bx4.new _ _ _ _ _ _
  have HCa : Hid (Cur B w0 (w1.alloc (.cells #[.int .i64 x.frm, .int .i64 x.seq, .int .i64 x.age, .string x.text] 60)) (W.heap.size + 1 + 1) a len cap 24) := curAlloc hc1 _
  clear hc1 ho1 hx1 HR0 HQ0 HU HR1 HQ1 hW1
  go_wp2_with fail
  refine (item_any B w0 _ _ a len cap 24 HD.out hl (by omega) HCa.out).mono ?_
  rintro e w2 ⟨y, rfl, hy2, hc2, ho2⟩
  have HTY : Hid (y.text.size ≤ 1) := hy2
  have HR2 : Hid (Bx4 w2 W.heap.size (.int .i64 0) (.int .i64 0) (.int .i64 0) (.string ⟨#[]⟩)) := HRa.out.only ho2 (by omega)
  have HQ2 : Hid (Bx4 w2 (W.heap.size + 1) (.int .i64 0) (.int .i64 0) (.int .i64 0) (.string ⟨#[]⟩)) := HQa.out.only ho2 (by omega)
  have HX2 : Hid (Bx4 w2 n5 (.int .i64 x.frm) (.int .i64 x.seq) (.int .i64 x.age) (.string x.text)) := HXa.out.only ho2 (by omega)
  have hW2 : n5 < w2.heap.size := HX2.out.lt
  obtain ⟨n6, hn6⟩ : ∃ n6, n6 = w2.heap.size := ⟨_, rfl⟩
  have hn6a : n5 < n6 := by omega
  have HRb : Hid (Bx4 (w2.alloc (.cells #[.int .i64 y.frm, .int .i64 y.seq, .int .i64 y.age, .string y.text] 60)) W.heap.size (.int .i64 0) (.int .i64 0) (.int .i64 0) (.string ⟨#[]⟩)) := HR2.out.below ((Below.refl _ _).alloc (Nat.le_refl _) _)
  have HQb : Hid (Bx4 (w2.alloc (.cells #[.int .i64 y.frm, .int .i64 y.seq, .int .i64 y.age, .string y.text] 60)) (W.heap.size + 1) (.int .i64 0) (.int .i64 0) (.int .i64 0) (.string ⟨#[]⟩)) := HQ2.out.below ((Below.refl _ _).alloc (Nat.le_refl _) _)
  have HXb : Hid (Bx4 (w2.alloc (.cells #[.int .i64 y.frm, .int .i64 y.seq, .int .i64 y.age, .string y.text] 60)) n5 (.int .i64 x.frm) (.int .i64 x.seq) (.int .i64 x.age) (.string x.text)) := HX2.out.below ((Below.refl _ _).alloc (Nat.le_refl _) _)
  have HYb : Hid (Bx4 (w2.alloc (.cells #[.int .i64 y.frm, .int .i64 y.seq, .int .i64 y.age, .string y.text] 60)) n6 (.int .i64 y.frm) (.int .i64 y.seq) (.int .i64 y.age) (.string y.text)) := by rw [hn6]; exact Bx4.new _ _ _ _ _ _
  have HCb : Hid (Cur B w0 (w2.alloc (.cells #[.int .i64 y.frm, .int .i64 y.seq, .int .i64 y.age, .string y.text] 60)) (W.heap.size + 1 + 1) a len cap 48) := curAlloc hc2 _
  rw [← hn5]
  clear hc2 ho2 hy2 HRa HQa HXa HCa HR2 HQ2 HX2 hW2 hn5
  go_wp2_with fail
  refine (one_any B w0 _ _ a len cap 48 8 HD.out hl (by omega) HCb.out (by omega) (by omega)).mono ?_
  rintro e w3 ⟨b3, rfl, hc3, ho3⟩
  have HR3 : Hid (Bx4 w3 W.heap.size (.int .i64 0) (.int .i64 0) (.int .i64 0) (.string ⟨#[]⟩)) := HRb.out.only ho3 (by omega)
  have HQ3 : Hid (Bx4 w3 (W.heap.size + 1) (.int .i64 0) (.int .i64 0) (.int .i64 0) (.string ⟨#[]⟩)) := HQb.out.only ho3 (by omega)
  have HX3 : Hid (Bx4 w3 n5 (.int .i64 x.frm) (.int .i64 x.seq) (.int .i64 x.age) (.string x.text)) := HXb.out.only ho3 (by omega)
  have HY3 : Hid (Bx4 w3 n6 (.int .i64 y.frm) (.int .i64 y.seq) (.int .i64 y.age) (.string y.text)) := HYb.out.only ho3 (by omega)
  have HC3 : Hid (Cur B w0 w3 (W.heap.size + 1 + 1) a len cap 50) := hc3
  rw [← hn6]
  clear hc3 ho3 HRb HQb HXb HYb HCb hn6
  obtain ⟨x0, x1, x2, x3⟩ := HX3.out.cells
  obtain ⟨y0, y1, y2, y3⟩ := HY3.out.cells
  have fy0 := HY3.out.fz 0
  have fy1 := HY3.out.fz 1
  cases b3 with
  | true =>
    have HR4 := HR3
    have HQ4 := HQ3
    have HX4 := HX3
    have HY4 := HY3
    have HC4 := HC3
    clear HR3 HQ3 HX3 HY3 HC3
    go_wp2_with fail
    refine (one_any B w0 _ _ a len cap 50 3 HD.out hl (by omega) HC4.out (by omega) (by omega)).mono ?_
    rintro e w5 ⟨b5, rfl, hc5, ho5⟩
    have HR5 : Hid (Bx4 w5 W.heap.size (.int .i64 0) (.int .i64 0) (.int .i64 0) (.string ⟨#[]⟩)) := HR4.out.only ho5 (by omega)
    have HQ5 : Hid (Bx4 w5 (W.heap.size + 1) (.int .i64 0) (.int .i64 0) (.int .i64 0) (.string ⟨#[]⟩)) := HQ4.out.only ho5 (by omega)
    have HX5 : Hid (Bx4 w5 n5 (.int .i64 x.frm) (.int .i64 x.seq) (.int .i64 x.age) (.string x.text)) := HX4.out.only ho5 (by omega)
    have HY5 : Hid (Bx4 w5 n6 (.int .i64 y.frm) (.int .i64 y.seq) (.int .i64 y.age) (.string y.text)) := HY4.out.only ho5 (by omega)
    have HC5 : Hid (Cur B w0 w5 (W.heap.size + 1 + 1) a len cap 52) := hc5
    clear hc5 ho5 HR4 HQ4 HX4 HY4 HC4 x0 x1 x2 x3 y0 y1 y2 y3 fy0 fy1
    cases b5 with
    | false =>
      generalize hw59 : w5 = w9 at *
      clear hw59
      have HR9 := HR5
      have HQ9 := HQ5
      have HX9 := HX5
      have HY9 := HY5
      have HS9 : Hid (Since B w0 w9) := HC5.out.2.2.1
      clear HR5 HQ5 HX5 HY5 HC5
      go_wp2
      replace HR9 : Hid (Bx4 w9.drew W.heap.size (.int .i64 0) (.int .i64 0) (.int .i64 0) (.string ⟨#[]⟩)) := HR9.out.drew
      replace HQ9 : Hid (Bx4 w9.drew (W.heap.size + 1) (.int .i64 0) (.int .i64 0) (.int .i64 0) (.string ⟨#[]⟩)) := HQ9.out.drew
      replace HX9 : Hid (Bx4 w9.drew n5 (.int .i64 x.frm) (.int .i64 x.seq) (.int .i64 x.age) (.string x.text)) := HX9.out.drew
      replace HY9 : Hid (Bx4 w9.drew n6 (.int .i64 y.frm) (.int .i64 y.seq) (.int .i64 y.age) (.string y.text)) := HY9.out.drew
      replace HS9 : Hid (Since B w0 w9.drew) := HS9.out.drew
      refine wp_region_held_drew (S := (fun w' => (w'.cell? ⟨n5, 0, none⟩ = some (.int .i64 x.frm) ∧ w'.cell? ⟨n5, 1, none⟩ = some (.int .i64 x.seq) ∧ w'.cell? ⟨n5, 2, none⟩ = some (.int .i64 x.age) ∧ w'.cell? ⟨n5, 3, none⟩ = some (.string x.text)) ∧ (w'.cell? ⟨n6, 0, none⟩ = some (.int .i64 y.frm) ∧ w'.cell? ⟨n6, 1, none⟩ = some (.int .i64 y.seq) ∧ w'.cell? ⟨n6, 2, none⟩ = some (.int .i64 y.age) ∧ w'.cell? ⟨n6, 3, none⟩ = some (.string y.text)))) (by kernel_rfl) ?_ (fun hHeld => ?_)
      · exact ⟨HX9.out.cells, HY9.out.cells⟩
      generalize hwd : w9.drew = wd at *
      clear hwd
      refine handRead 0 (some 25) (.agg #[.int .i64 x.frm, .int .i64 x.seq, .int .i64 x.age, .string x.text]) rfl rfl (by kernel_rfl) (by kernel_rfl) (by kernel_rfl) (fun _ _ _ h => h) (by kernel_rfl) (by assumption) ?_ ?_
      · intro w hSw
        (try dsimp only at hSw)
        go_simp
      simp only [Act.put, List.setIfInBounds_toArray, List.set_cons_zero, List.set_cons_succ]
      refine handRead 1 (some 26) (.agg #[.int .i64 y.frm, .int .i64 y.seq, .int .i64 y.age, .string y.text]) rfl rfl (by kernel_rfl) (by kernel_rfl) (by kernel_rfl) (fun _ _ _ h => h) (by kernel_rfl) (by assumption) ?_ ?_
      · intro w hSw
        (try dsimp only at hSw)
        go_simp
      simp only [Act.put, List.setIfInBounds_toArray, List.set_cons_zero, List.set_cons_succ]
      refine wpAnyH_ready (rs := [2]) (by kernel_rfl) (by simp) ?_
      obtain ⟨r0, r1, r2, r3⟩ := HR9.out.cells
      have fr0 := HR9.out.fz 0
      have fr1 := HR9.out.fz 1
      have fr2 := HR9.out.fz 2
      have fr3 := HR9.out.fz 3
      obtain ⟨q0, q1, q2, q3⟩ := HQ9.out.cells
      have fq0 := HQ9.out.fz 0
      have fq1 := HQ9.out.fz 1
      have fq2 := HQ9.out.fz 2
      have fq3 := HQ9.out.fz 3
      refine AllReadyH.cons rfl (fun K hK => ?_) AllReadyH.nil
      go_simp
      have HRa : Hid (Bx4 ((((wd.setCell ⟨W.heap.size, 0, none⟩ (.int .i64 x.frm)).setCell ⟨W.heap.size, 1, none⟩ (.int .i64 x.seq)).setCell ⟨W.heap.size, 2, none⟩ (.int .i64 x.age)).setCell ⟨W.heap.size, 3, none⟩ (.string x.text)) W.heap.size (.int .i64 x.frm) (.int .i64 x.seq) (.int .i64 x.age) (.string x.text)) := (((HR9.out.put0 (.int .i64 x.frm)).put1 (.int .i64 x.seq)).put2 (.int .i64 x.age)).put3 (.string x.text)
      have HQa : Hid (Bx4 ((((wd.setCell ⟨W.heap.size, 0, none⟩ (.int .i64 x.frm)).setCell ⟨W.heap.size, 1, none⟩ (.int .i64 x.seq)).setCell ⟨W.heap.size, 2, none⟩ (.int .i64 x.age)).setCell ⟨W.heap.size, 3, none⟩ (.string x.text)) (W.heap.size + 1) (.int .i64 0) (.int .i64 0) (.int .i64 0) (.string ⟨#[]⟩)) := (((HQ9.out.other (by first | (simp; done) | (simp; omega)) _).other (by first | (simp; done) | (simp; omega)) _).other (by first | (simp; done) | (simp; omega)) _).other (by first | (simp; done) | (simp; omega)) _
      have HXa : Hid (Bx4 ((((wd.setCell ⟨W.heap.size, 0, none⟩ (.int .i64 x.frm)).setCell ⟨W.heap.size, 1, none⟩ (.int .i64 x.seq)).setCell ⟨W.heap.size, 2, none⟩ (.int .i64 x.age)).setCell ⟨W.heap.size, 3, none⟩ (.string x.text)) n5 (.int .i64 x.frm) (.int .i64 x.seq) (.int .i64 x.age) (.string x.text)) := (((HX9.out.other (by first | (simp; done) | (simp; omega)) _).other (by first | (simp; done) | (simp; omega)) _).other (by first | (simp; done) | (simp; omega)) _).other (by first | (simp; done) | (simp; omega)) _
      have HYa : Hid (Bx4 ((((wd.setCell ⟨W.heap.size, 0, none⟩ (.int .i64 x.frm)).setCell ⟨W.heap.size, 1, none⟩ (.int .i64 x.seq)).setCell ⟨W.heap.size, 2, none⟩ (.int .i64 x.age)).setCell ⟨W.heap.size, 3, none⟩ (.string x.text)) n6 (.int .i64 y.frm) (.int .i64 y.seq) (.int .i64 y.age) (.string y.text)) := (((HY9.out.other (by first | (simp; done) | (simp; omega)) _).other (by first | (simp; done) | (simp; omega)) _).other (by first | (simp; done) | (simp; omega)) _).other (by first | (simp; done) | (simp; omega)) _
      have HSa : Hid (Since B w0 ((((wd.setCell ⟨W.heap.size, 0, none⟩ (.int .i64 x.frm)).setCell ⟨W.heap.size, 1, none⟩ (.int .i64 x.seq)).setCell ⟨W.heap.size, 2, none⟩ (.int .i64 x.age)).setCell ⟨W.heap.size, 3, none⟩ (.string x.text))) := (((HS9.out.set (by omega) _ _).set (by omega) _ _).set (by omega) _ _).set (by omega) _ _
      have HRf : Hid (Bx4 ((((((((wd.setCell ⟨W.heap.size, 0, none⟩ (.int .i64 x.frm)).setCell ⟨W.heap.size, 1, none⟩ (.int .i64 x.seq)).setCell ⟨W.heap.size, 2, none⟩ (.int .i64 x.age)).setCell ⟨W.heap.size, 3, none⟩ (.string x.text)).setCell ⟨(W.heap.size + 1), 0, none⟩ (.int .i64 y.frm)).setCell ⟨(W.heap.size + 1), 1, none⟩ (.int .i64 y.seq)).setCell ⟨(W.heap.size + 1), 2, none⟩ (.int .i64 y.age)).setCell ⟨(W.heap.size + 1), 3, none⟩ (.string y.text)) W.heap.size (.int .i64 x.frm) (.int .i64 x.seq) (.int .i64 x.age) (.string x.text)) := (((HRa.out.other (by first | (simp; done) | (simp; omega)) _).other (by first | (simp; done) | (simp; omega)) _).other (by first | (simp; done) | (simp; omega)) _).other (by first | (simp; done) | (simp; omega)) _
      have HQf : Hid (Bx4 ((((((((wd.setCell ⟨W.heap.size, 0, none⟩ (.int .i64 x.frm)).setCell ⟨W.heap.size, 1, none⟩ (.int .i64 x.seq)).setCell ⟨W.heap.size, 2, none⟩ (.int .i64 x.age)).setCell ⟨W.heap.size, 3, none⟩ (.string x.text)).setCell ⟨(W.heap.size + 1), 0, none⟩ (.int .i64 y.frm)).setCell ⟨(W.heap.size + 1), 1, none⟩ (.int .i64 y.seq)).setCell ⟨(W.heap.size + 1), 2, none⟩ (.int .i64 y.age)).setCell ⟨(W.heap.size + 1), 3, none⟩ (.string y.text)) (W.heap.size + 1) (.int .i64 y.frm) (.int .i64 y.seq) (.int .i64 y.age) (.string y.text)) := (((HQa.out.put0 (.int .i64 y.frm)).put1 (.int .i64 y.seq)).put2 (.int .i64 y.age)).put3 (.string y.text)
      have HXf : Hid (Bx4 ((((((((wd.setCell ⟨W.heap.size, 0, none⟩ (.int .i64 x.frm)).setCell ⟨W.heap.size, 1, none⟩ (.int .i64 x.seq)).setCell ⟨W.heap.size, 2, none⟩ (.int .i64 x.age)).setCell ⟨W.heap.size, 3, none⟩ (.string x.text)).setCell ⟨(W.heap.size + 1), 0, none⟩ (.int .i64 y.frm)).setCell ⟨(W.heap.size + 1), 1, none⟩ (.int .i64 y.seq)).setCell ⟨(W.heap.size + 1), 2, none⟩ (.int .i64 y.age)).setCell ⟨(W.heap.size + 1), 3, none⟩ (.string y.text)) n5 (.int .i64 x.frm) (.int .i64 x.seq) (.int .i64 x.age) (.string x.text)) := (((HXa.out.other (by first | (simp; done) | (simp; omega)) _).other (by first | (simp; done) | (simp; omega)) _).other (by first | (simp; done) | (simp; omega)) _).other (by first | (simp; done) | (simp; omega)) _
      have HYf : Hid (Bx4 ((((((((wd.setCell ⟨W.heap.size, 0, none⟩ (.int .i64 x.frm)).setCell ⟨W.heap.size, 1, none⟩ (.int .i64 x.seq)).setCell ⟨W.heap.size, 2, none⟩ (.int .i64 x.age)).setCell ⟨W.heap.size, 3, none⟩ (.string x.text)).setCell ⟨(W.heap.size + 1), 0, none⟩ (.int .i64 y.frm)).setCell ⟨(W.heap.size + 1), 1, none⟩ (.int .i64 y.seq)).setCell ⟨(W.heap.size + 1), 2, none⟩ (.int .i64 y.age)).setCell ⟨(W.heap.size + 1), 3, none⟩ (.string y.text)) n6 (.int .i64 y.frm) (.int .i64 y.seq) (.int .i64 y.age) (.string y.text)) := (((HYa.out.other (by first | (simp; done) | (simp; omega)) _).other (by first | (simp; done) | (simp; omega)) _).other (by first | (simp; done) | (simp; omega)) _).other (by first | (simp; done) | (simp; omega)) _
      have HSf : Hid (Since B w0 ((((((((wd.setCell ⟨W.heap.size, 0, none⟩ (.int .i64 x.frm)).setCell ⟨W.heap.size, 1, none⟩ (.int .i64 x.seq)).setCell ⟨W.heap.size, 2, none⟩ (.int .i64 x.age)).setCell ⟨W.heap.size, 3, none⟩ (.string x.text)).setCell ⟨(W.heap.size + 1), 0, none⟩ (.int .i64 y.frm)).setCell ⟨(W.heap.size + 1), 1, none⟩ (.int .i64 y.seq)).setCell ⟨(W.heap.size + 1), 2, none⟩ (.int .i64 y.age)).setCell ⟨(W.heap.size + 1), 3, none⟩ (.string y.text))) := (((HSa.out.set (by omega) _ _).set (by omega) _ _).set (by omega) _ _).set (by omega) _ _
      refine hK.out _ _ ?_ (fun hHeld => ?_)
      · exact ⟨HXa.out.cells, HYa.out.cells⟩
      clear hK K
      try simp only [Act.put, List.setIfInBounds_toArray, List.set_cons_zero, List.set_cons_succ]
      clear r0 r1 r2 r3 q0 q1 q2 q3 fr0 fq0 fr1 fq1 fr2 fq2 fr3 fq3
      obtain ⟨r0, r1, r2, r3⟩ := HRa.out.cells
      obtain ⟨q0, q1, q2, q3⟩ := HQa.out.cells
      have fr0 := HRa.out.fz 0
      have fq0 := HQa.out.fz 0
      have fr1 := HRa.out.fz 1
      have fq1 := HQa.out.fz 1
      have fr2 := HRa.out.fz 2
      have fq2 := HQa.out.fz 2
      have fr3 := HRa.out.fz 3
      have fq3 := HQa.out.fz 3
      refine wpAnyH_ready (rs := [3]) (by kernel_rfl) (by simp) ?_
      refine AllReadyH.cons rfl (fun K hK => ?_) AllReadyH.nil
      go_simp
      refine hK.out _ _ ?_ (fun hHeld => ?_)
      · exact ⟨HXf.out.cells, HYf.out.cells⟩
      clear hK K
      try simp only [Act.put, List.setIfInBounds_toArray, List.set_cons_zero, List.set_cons_succ]
      clear r0 r1 r2 r3 q0 q1 q2 q3 fr0 fq0 fr1 fq1 fr2 fq2 fr3 fq3
      refine wpAnyH_done (by kernel_rfl) ?_ _
      obtain ⟨r0, r1, r2, r3⟩ := HRf.out.cells
      obtain ⟨q0, q1, q2, q3⟩ := HQf.out.cells
      go_wp2
      refine bodyPost_ret (v := .tuple #[.agg #[.int .i64 x.frm, .int .i64 x.seq, .int .i64 x.age, .string x.text], .agg #[.int .i64 y.frm, .int .i64 y.seq, .int .i64 y.age, .string y.text]]) (by simp [results, Try.results40, go_sem, r0, r1, r2, r3, q0, q1, q2, q3]) rfl ?_
      exact ⟨x, ⟨y.frm, y.seq, y.age, y.text⟩, rfl, HTX.out, HTY.out, HSf.out⟩
    | true =>
      obtain ⟨x0, x1, x2, x3⟩ := HX5.out.cells
      obtain ⟨y0, y1, y2, y3⟩ := HY5.out.cells
      have fy1 := HY5.out.fz 1
      have HR9 : Hid (Bx4 (w5.setCell ⟨n6, 1, none⟩ (.int .i64 x.seq)) W.heap.size (.int .i64 0) (.int .i64 0) (.int .i64 0) (.string ⟨#[]⟩)) := HR5.out.other (by show n6 ≠ _; omega) _
      have HQ9 : Hid (Bx4 (w5.setCell ⟨n6, 1, none⟩ (.int .i64 x.seq)) (W.heap.size + 1) (.int .i64 0) (.int .i64 0) (.int .i64 0) (.string ⟨#[]⟩)) := HQ5.out.other (by show n6 ≠ _; omega) _
      have HX9 : Hid (Bx4 (w5.setCell ⟨n6, 1, none⟩ (.int .i64 x.seq)) n5 (.int .i64 x.frm) (.int .i64 x.seq) (.int .i64 x.age) (.string x.text)) := HX5.out.other (by show n6 ≠ _; omega) _
      have HY9 : Hid (Bx4 (w5.setCell ⟨n6, 1, none⟩ (.int .i64 x.seq)) n6 (.int .i64 y.frm) (.int .i64 x.seq) (.int .i64 y.age) (.string y.text)) := HY5.out.put1 _
      have HS9 : Hid (Since B w0 (w5.setCell ⟨n6, 1, none⟩ (.int .i64 x.seq))) := HC5.out.2.2.1.set (by omega) _ _
      clear HR5 HQ5 HX5 HY5 HC5
      go_wp2
      clear x0 x1 x2 x3 y0 y1 y2 y3 fy1
      generalize hw59 : w5.setCell ⟨n6, 1, none⟩ (.int .i64 x.seq) = w9 at *
      clear hw59
      replace HR9 : Hid (Bx4 w9.drew W.heap.size (.int .i64 0) (.int .i64 0) (.int .i64 0) (.string ⟨#[]⟩)) := HR9.out.drew
      replace HQ9 : Hid (Bx4 w9.drew (W.heap.size + 1) (.int .i64 0) (.int .i64 0) (.int .i64 0) (.string ⟨#[]⟩)) := HQ9.out.drew
      replace HX9 : Hid (Bx4 w9.drew n5 (.int .i64 x.frm) (.int .i64 x.seq) (.int .i64 x.age) (.string x.text)) := HX9.out.drew
      replace HY9 : Hid (Bx4 w9.drew n6 (.int .i64 y.frm) (.int .i64 x.seq) (.int .i64 y.age) (.string y.text)) := HY9.out.drew
      replace HS9 : Hid (Since B w0 w9.drew) := HS9.out.drew
      refine wp_region_held_drew (S := (fun w' => (w'.cell? ⟨n5, 0, none⟩ = some (.int .i64 x.frm) ∧ w'.cell? ⟨n5, 1, none⟩ = some (.int .i64 x.seq) ∧ w'.cell? ⟨n5, 2, none⟩ = some (.int .i64 x.age) ∧ w'.cell? ⟨n5, 3, none⟩ = some (.string x.text)) ∧ (w'.cell? ⟨n6, 0, none⟩ = some (.int .i64 y.frm) ∧ w'.cell? ⟨n6, 1, none⟩ = some (.int .i64 x.seq) ∧ w'.cell? ⟨n6, 2, none⟩ = some (.int .i64 y.age) ∧ w'.cell? ⟨n6, 3, none⟩ = some (.string y.text)))) (by kernel_rfl) ?_ (fun hHeld => ?_)
      · exact ⟨HX9.out.cells, HY9.out.cells⟩
      generalize hwd : w9.drew = wd at *
      clear hwd
      refine handRead 0 (some 25) (.agg #[.int .i64 x.frm, .int .i64 x.seq, .int .i64 x.age, .string x.text]) rfl rfl (by kernel_rfl) (by kernel_rfl) (by kernel_rfl) (fun _ _ _ h => h) (by kernel_rfl) (by assumption) ?_ ?_
      · intro w hSw
        (try dsimp only at hSw)
        go_simp
      simp only [Act.put, List.setIfInBounds_toArray, List.set_cons_zero, List.set_cons_succ]
      refine handRead 1 (some 26) (.agg #[.int .i64 y.frm, .int .i64 x.seq, .int .i64 y.age, .string y.text]) rfl rfl (by kernel_rfl) (by kernel_rfl) (by kernel_rfl) (fun _ _ _ h => h) (by kernel_rfl) (by assumption) ?_ ?_
      · intro w hSw
        (try dsimp only at hSw)
        go_simp
      simp only [Act.put, List.setIfInBounds_toArray, List.set_cons_zero, List.set_cons_succ]
      refine wpAnyH_ready (rs := [2]) (by kernel_rfl) (by simp) ?_
      obtain ⟨r0, r1, r2, r3⟩ := HR9.out.cells
      have fr0 := HR9.out.fz 0
      have fr1 := HR9.out.fz 1
      have fr2 := HR9.out.fz 2
      have fr3 := HR9.out.fz 3
      obtain ⟨q0, q1, q2, q3⟩ := HQ9.out.cells
      have fq0 := HQ9.out.fz 0
      have fq1 := HQ9.out.fz 1
      have fq2 := HQ9.out.fz 2
      have fq3 := HQ9.out.fz 3
      refine AllReadyH.cons rfl (fun K hK => ?_) AllReadyH.nil
      go_simp
      have HRa : Hid (Bx4 ((((wd.setCell ⟨W.heap.size, 0, none⟩ (.int .i64 x.frm)).setCell ⟨W.heap.size, 1, none⟩ (.int .i64 x.seq)).setCell ⟨W.heap.size, 2, none⟩ (.int .i64 x.age)).setCell ⟨W.heap.size, 3, none⟩ (.string x.text)) W.heap.size (.int .i64 x.frm) (.int .i64 x.seq) (.int .i64 x.age) (.string x.text)) := (((HR9.out.put0 (.int .i64 x.frm)).put1 (.int .i64 x.seq)).put2 (.int .i64 x.age)).put3 (.string x.text)
      have HQa : Hid (Bx4 ((((wd.setCell ⟨W.heap.size, 0, none⟩ (.int .i64 x.frm)).setCell ⟨W.heap.size, 1, none⟩ (.int .i64 x.seq)).setCell ⟨W.heap.size, 2, none⟩ (.int .i64 x.age)).setCell ⟨W.heap.size, 3, none⟩ (.string x.text)) (W.heap.size + 1) (.int .i64 0) (.int .i64 0) (.int .i64 0) (.string ⟨#[]⟩)) := (((HQ9.out.other (by first | (simp; done) | (simp; omega)) _).other (by first | (simp; done) | (simp; omega)) _).other (by first | (simp; done) | (simp; omega)) _).other (by first | (simp; done) | (simp; omega)) _
      have HXa : Hid (Bx4 ((((wd.setCell ⟨W.heap.size, 0, none⟩ (.int .i64 x.frm)).setCell ⟨W.heap.size, 1, none⟩ (.int .i64 x.seq)).setCell ⟨W.heap.size, 2, none⟩ (.int .i64 x.age)).setCell ⟨W.heap.size, 3, none⟩ (.string x.text)) n5 (.int .i64 x.frm) (.int .i64 x.seq) (.int .i64 x.age) (.string x.text)) := (((HX9.out.other (by first | (simp; done) | (simp; omega)) _).other (by first | (simp; done) | (simp; omega)) _).other (by first | (simp; done) | (simp; omega)) _).other (by first | (simp; done) | (simp; omega)) _
      have HYa : Hid (Bx4 ((((wd.setCell ⟨W.heap.size, 0, none⟩ (.int .i64 x.frm)).setCell ⟨W.heap.size, 1, none⟩ (.int .i64 x.seq)).setCell ⟨W.heap.size, 2, none⟩ (.int .i64 x.age)).setCell ⟨W.heap.size, 3, none⟩ (.string x.text)) n6 (.int .i64 y.frm) (.int .i64 x.seq) (.int .i64 y.age) (.string y.text)) := (((HY9.out.other (by first | (simp; done) | (simp; omega)) _).other (by first | (simp; done) | (simp; omega)) _).other (by first | (simp; done) | (simp; omega)) _).other (by first | (simp; done) | (simp; omega)) _
      have HSa : Hid (Since B w0 ((((wd.setCell ⟨W.heap.size, 0, none⟩ (.int .i64 x.frm)).setCell ⟨W.heap.size, 1, none⟩ (.int .i64 x.seq)).setCell ⟨W.heap.size, 2, none⟩ (.int .i64 x.age)).setCell ⟨W.heap.size, 3, none⟩ (.string x.text))) := (((HS9.out.set (by omega) _ _).set (by omega) _ _).set (by omega) _ _).set (by omega) _ _
      have HRf : Hid (Bx4 ((((((((wd.setCell ⟨W.heap.size, 0, none⟩ (.int .i64 x.frm)).setCell ⟨W.heap.size, 1, none⟩ (.int .i64 x.seq)).setCell ⟨W.heap.size, 2, none⟩ (.int .i64 x.age)).setCell ⟨W.heap.size, 3, none⟩ (.string x.text)).setCell ⟨(W.heap.size + 1), 0, none⟩ (.int .i64 y.frm)).setCell ⟨(W.heap.size + 1), 1, none⟩ (.int .i64 x.seq)).setCell ⟨(W.heap.size + 1), 2, none⟩ (.int .i64 y.age)).setCell ⟨(W.heap.size + 1), 3, none⟩ (.string y.text)) W.heap.size (.int .i64 x.frm) (.int .i64 x.seq) (.int .i64 x.age) (.string x.text)) := (((HRa.out.other (by first | (simp; done) | (simp; omega)) _).other (by first | (simp; done) | (simp; omega)) _).other (by first | (simp; done) | (simp; omega)) _).other (by first | (simp; done) | (simp; omega)) _
      have HQf : Hid (Bx4 ((((((((wd.setCell ⟨W.heap.size, 0, none⟩ (.int .i64 x.frm)).setCell ⟨W.heap.size, 1, none⟩ (.int .i64 x.seq)).setCell ⟨W.heap.size, 2, none⟩ (.int .i64 x.age)).setCell ⟨W.heap.size, 3, none⟩ (.string x.text)).setCell ⟨(W.heap.size + 1), 0, none⟩ (.int .i64 y.frm)).setCell ⟨(W.heap.size + 1), 1, none⟩ (.int .i64 x.seq)).setCell ⟨(W.heap.size + 1), 2, none⟩ (.int .i64 y.age)).setCell ⟨(W.heap.size + 1), 3, none⟩ (.string y.text)) (W.heap.size + 1) (.int .i64 y.frm) (.int .i64 x.seq) (.int .i64 y.age) (.string y.text)) := (((HQa.out.put0 (.int .i64 y.frm)).put1 (.int .i64 x.seq)).put2 (.int .i64 y.age)).put3 (.string y.text)
      have HXf : Hid (Bx4 ((((((((wd.setCell ⟨W.heap.size, 0, none⟩ (.int .i64 x.frm)).setCell ⟨W.heap.size, 1, none⟩ (.int .i64 x.seq)).setCell ⟨W.heap.size, 2, none⟩ (.int .i64 x.age)).setCell ⟨W.heap.size, 3, none⟩ (.string x.text)).setCell ⟨(W.heap.size + 1), 0, none⟩ (.int .i64 y.frm)).setCell ⟨(W.heap.size + 1), 1, none⟩ (.int .i64 x.seq)).setCell ⟨(W.heap.size + 1), 2, none⟩ (.int .i64 y.age)).setCell ⟨(W.heap.size + 1), 3, none⟩ (.string y.text)) n5 (.int .i64 x.frm) (.int .i64 x.seq) (.int .i64 x.age) (.string x.text)) := (((HXa.out.other (by first | (simp; done) | (simp; omega)) _).other (by first | (simp; done) | (simp; omega)) _).other (by first | (simp; done) | (simp; omega)) _).other (by first | (simp; done) | (simp; omega)) _
      have HYf : Hid (Bx4 ((((((((wd.setCell ⟨W.heap.size, 0, none⟩ (.int .i64 x.frm)).setCell ⟨W.heap.size, 1, none⟩ (.int .i64 x.seq)).setCell ⟨W.heap.size, 2, none⟩ (.int .i64 x.age)).setCell ⟨W.heap.size, 3, none⟩ (.string x.text)).setCell ⟨(W.heap.size + 1), 0, none⟩ (.int .i64 y.frm)).setCell ⟨(W.heap.size + 1), 1, none⟩ (.int .i64 x.seq)).setCell ⟨(W.heap.size + 1), 2, none⟩ (.int .i64 y.age)).setCell ⟨(W.heap.size + 1), 3, none⟩ (.string y.text)) n6 (.int .i64 y.frm) (.int .i64 x.seq) (.int .i64 y.age) (.string y.text)) := (((HYa.out.other (by first | (simp; done) | (simp; omega)) _).other (by first | (simp; done) | (simp; omega)) _).other (by first | (simp; done) | (simp; omega)) _).other (by first | (simp; done) | (simp; omega)) _
      have HSf : Hid (Since B w0 ((((((((wd.setCell ⟨W.heap.size, 0, none⟩ (.int .i64 x.frm)).setCell ⟨W.heap.size, 1, none⟩ (.int .i64 x.seq)).setCell ⟨W.heap.size, 2, none⟩ (.int .i64 x.age)).setCell ⟨W.heap.size, 3, none⟩ (.string x.text)).setCell ⟨(W.heap.size + 1), 0, none⟩ (.int .i64 y.frm)).setCell ⟨(W.heap.size + 1), 1, none⟩ (.int .i64 x.seq)).setCell ⟨(W.heap.size + 1), 2, none⟩ (.int .i64 y.age)).setCell ⟨(W.heap.size + 1), 3, none⟩ (.string y.text))) := (((HSa.out.set (by omega) _ _).set (by omega) _ _).set (by omega) _ _).set (by omega) _ _
      refine hK.out _ _ ?_ (fun hHeld => ?_)
      · exact ⟨HXa.out.cells, HYa.out.cells⟩
      clear hK K
      try simp only [Act.put, List.setIfInBounds_toArray, List.set_cons_zero, List.set_cons_succ]
      clear r0 r1 r2 r3 q0 q1 q2 q3 fr0 fq0 fr1 fq1 fr2 fq2 fr3 fq3
      obtain ⟨r0, r1, r2, r3⟩ := HRa.out.cells
      obtain ⟨q0, q1, q2, q3⟩ := HQa.out.cells
      have fr0 := HRa.out.fz 0
      have fq0 := HQa.out.fz 0
      have fr1 := HRa.out.fz 1
      have fq1 := HQa.out.fz 1
      have fr2 := HRa.out.fz 2
      have fq2 := HQa.out.fz 2
      have fr3 := HRa.out.fz 3
      have fq3 := HQa.out.fz 3
      refine wpAnyH_ready (rs := [3]) (by kernel_rfl) (by simp) ?_
      refine AllReadyH.cons rfl (fun K hK => ?_) AllReadyH.nil
      go_simp
      refine hK.out _ _ ?_ (fun hHeld => ?_)
      · exact ⟨HXf.out.cells, HYf.out.cells⟩
      clear hK K
      try simp only [Act.put, List.setIfInBounds_toArray, List.set_cons_zero, List.set_cons_succ]
      clear r0 r1 r2 r3 q0 q1 q2 q3 fr0 fq0 fr1 fq1 fr2 fq2 fr3 fq3
      refine wpAnyH_done (by kernel_rfl) ?_ _
      obtain ⟨r0, r1, r2, r3⟩ := HRf.out.cells
      obtain ⟨q0, q1, q2, q3⟩ := HQf.out.cells
      go_wp2
      refine bodyPost_ret (v := .tuple #[.agg #[.int .i64 x.frm, .int .i64 x.seq, .int .i64 x.age, .string x.text], .agg #[.int .i64 y.frm, .int .i64 x.seq, .int .i64 y.age, .string y.text]]) (by simp [results, Try.results40, go_sem, r0, r1, r2, r3, q0, q1, q2, q3]) rfl ?_
      exact ⟨x, ⟨y.frm, x.seq, y.age, y.text⟩, rfl, HTX.out, HTY.out, HSf.out⟩
  | false =>
    have HR4 : Hid (Bx4 (w3.setCell ⟨n6, 0, none⟩ (.int .i64 x.frm)) W.heap.size (.int .i64 0) (.int .i64 0) (.int .i64 0) (.string ⟨#[]⟩)) := HR3.out.other (by show n6 ≠ _; omega) _
    have HQ4 : Hid (Bx4 (w3.setCell ⟨n6, 0, none⟩ (.int .i64 x.frm)) (W.heap.size + 1) (.int .i64 0) (.int .i64 0) (.int .i64 0) (.string ⟨#[]⟩)) := HQ3.out.other (by show n6 ≠ _; omega) _
    have HX4 : Hid (Bx4 (w3.setCell ⟨n6, 0, none⟩ (.int .i64 x.frm)) n5 (.int .i64 x.frm) (.int .i64 x.seq) (.int .i64 x.age) (.string x.text)) := HX3.out.other (by show n6 ≠ _; omega) _
    have HY4 : Hid (Bx4 (w3.setCell ⟨n6, 0, none⟩ (.int .i64 x.frm)) n6 (.int .i64 x.frm) (.int .i64 y.seq) (.int .i64 y.age) (.string y.text)) := HY3.out.put0 _
    have HC4 : Hid (Cur B w0 (w3.setCell ⟨n6, 0, none⟩ (.int .i64 x.frm)) (W.heap.size + 1 + 1) a len cap 50) := HC3.out.other (by omega) _
    clear HR3 HQ3 HX3 HY3 HC3
    go_wp2_with fail
    refine (one_any B w0 _ _ a len cap 50 3 HD.out hl (by omega) HC4.out (by omega) (by omega)).mono ?_
    rintro e w5 ⟨b5, rfl, hc5, ho5⟩
    have HR5 : Hid (Bx4 w5 W.heap.size (.int .i64 0) (.int .i64 0) (.int .i64 0) (.string ⟨#[]⟩)) := HR4.out.only ho5 (by omega)
    have HQ5 : Hid (Bx4 w5 (W.heap.size + 1) (.int .i64 0) (.int .i64 0) (.int .i64 0) (.string ⟨#[]⟩)) := HQ4.out.only ho5 (by omega)
    have HX5 : Hid (Bx4 w5 n5 (.int .i64 x.frm) (.int .i64 x.seq) (.int .i64 x.age) (.string x.text)) := HX4.out.only ho5 (by omega)
    have HY5 : Hid (Bx4 w5 n6 (.int .i64 x.frm) (.int .i64 y.seq) (.int .i64 y.age) (.string y.text)) := HY4.out.only ho5 (by omega)
    have HC5 : Hid (Cur B w0 w5 (W.heap.size + 1 + 1) a len cap 52) := hc5
    clear hc5 ho5 HR4 HQ4 HX4 HY4 HC4 x0 x1 x2 x3 y0 y1 y2 y3 fy0 fy1
    cases b5 with
    | false =>
      generalize hw59 : w5 = w9 at *
      clear hw59
      have HR9 := HR5
      have HQ9 := HQ5
      have HX9 := HX5
      have HY9 := HY5
      have HS9 : Hid (Since B w0 w9) := HC5.out.2.2.1
      clear HR5 HQ5 HX5 HY5 HC5
      go_wp2
      replace HR9 : Hid (Bx4 w9.drew W.heap.size (.int .i64 0) (.int .i64 0) (.int .i64 0) (.string ⟨#[]⟩)) := HR9.out.drew
      replace HQ9 : Hid (Bx4 w9.drew (W.heap.size + 1) (.int .i64 0) (.int .i64 0) (.int .i64 0) (.string ⟨#[]⟩)) := HQ9.out.drew
      replace HX9 : Hid (Bx4 w9.drew n5 (.int .i64 x.frm) (.int .i64 x.seq) (.int .i64 x.age) (.string x.text)) := HX9.out.drew
      replace HY9 : Hid (Bx4 w9.drew n6 (.int .i64 x.frm) (.int .i64 y.seq) (.int .i64 y.age) (.string y.text)) := HY9.out.drew
      replace HS9 : Hid (Since B w0 w9.drew) := HS9.out.drew
      refine wp_region_held_drew (S := (fun w' => (w'.cell? ⟨n5, 0, none⟩ = some (.int .i64 x.frm) ∧ w'.cell? ⟨n5, 1, none⟩ = some (.int .i64 x.seq) ∧ w'.cell? ⟨n5, 2, none⟩ = some (.int .i64 x.age) ∧ w'.cell? ⟨n5, 3, none⟩ = some (.string x.text)) ∧ (w'.cell? ⟨n6, 0, none⟩ = some (.int .i64 x.frm) ∧ w'.cell? ⟨n6, 1, none⟩ = some (.int .i64 y.seq) ∧ w'.cell? ⟨n6, 2, none⟩ = some (.int .i64 y.age) ∧ w'.cell? ⟨n6, 3, none⟩ = some (.string y.text)))) (by kernel_rfl) ?_ (fun hHeld => ?_)
      · exact ⟨HX9.out.cells, HY9.out.cells⟩
      generalize hwd : w9.drew = wd at *
      clear hwd
      refine handRead 0 (some 25) (.agg #[.int .i64 x.frm, .int .i64 x.seq, .int .i64 x.age, .string x.text]) rfl rfl (by kernel_rfl) (by kernel_rfl) (by kernel_rfl) (fun _ _ _ h => h) (by kernel_rfl) (by assumption) ?_ ?_
      · intro w hSw
        (try dsimp only at hSw)
        go_simp
      simp only [Act.put, List.setIfInBounds_toArray, List.set_cons_zero, List.set_cons_succ]
      refine handRead 1 (some 26) (.agg #[.int .i64 x.frm, .int .i64 y.seq, .int .i64 y.age, .string y.text]) rfl rfl (by kernel_rfl) (by kernel_rfl) (by kernel_rfl) (fun _ _ _ h => h) (by kernel_rfl) (by assumption) ?_ ?_
      · intro w hSw
        (try dsimp only at hSw)
        go_simp
      simp only [Act.put, List.setIfInBounds_toArray, List.set_cons_zero, List.set_cons_succ]
      refine wpAnyH_ready (rs := [2]) (by kernel_rfl) (by simp) ?_
      obtain ⟨r0, r1, r2, r3⟩ := HR9.out.cells
      have fr0 := HR9.out.fz 0
      have fr1 := HR9.out.fz 1
      have fr2 := HR9.out.fz 2
      have fr3 := HR9.out.fz 3
      obtain ⟨q0, q1, q2, q3⟩ := HQ9.out.cells
      have fq0 := HQ9.out.fz 0
      have fq1 := HQ9.out.fz 1
      have fq2 := HQ9.out.fz 2
      have fq3 := HQ9.out.fz 3
      refine AllReadyH.cons rfl (fun K hK => ?_) AllReadyH.nil
      go_simp
      have HRa : Hid (Bx4 ((((wd.setCell ⟨W.heap.size, 0, none⟩ (.int .i64 x.frm)).setCell ⟨W.heap.size, 1, none⟩ (.int .i64 x.seq)).setCell ⟨W.heap.size, 2, none⟩ (.int .i64 x.age)).setCell ⟨W.heap.size, 3, none⟩ (.string x.text)) W.heap.size (.int .i64 x.frm) (.int .i64 x.seq) (.int .i64 x.age) (.string x.text)) := (((HR9.out.put0 (.int .i64 x.frm)).put1 (.int .i64 x.seq)).put2 (.int .i64 x.age)).put3 (.string x.text)
      have HQa : Hid (Bx4 ((((wd.setCell ⟨W.heap.size, 0, none⟩ (.int .i64 x.frm)).setCell ⟨W.heap.size, 1, none⟩ (.int .i64 x.seq)).setCell ⟨W.heap.size, 2, none⟩ (.int .i64 x.age)).setCell ⟨W.heap.size, 3, none⟩ (.string x.text)) (W.heap.size + 1) (.int .i64 0) (.int .i64 0) (.int .i64 0) (.string ⟨#[]⟩)) := (((HQ9.out.other (by first | (simp; done) | (simp; omega)) _).other (by first | (simp; done) | (simp; omega)) _).other (by first | (simp; done) | (simp; omega)) _).other (by first | (simp; done) | (simp; omega)) _
      have HXa : Hid (Bx4 ((((wd.setCell ⟨W.heap.size, 0, none⟩ (.int .i64 x.frm)).setCell ⟨W.heap.size, 1, none⟩ (.int .i64 x.seq)).setCell ⟨W.heap.size, 2, none⟩ (.int .i64 x.age)).setCell ⟨W.heap.size, 3, none⟩ (.string x.text)) n5 (.int .i64 x.frm) (.int .i64 x.seq) (.int .i64 x.age) (.string x.text)) := (((HX9.out.other (by first | (simp; done) | (simp; omega)) _).other (by first | (simp; done) | (simp; omega)) _).other (by first | (simp; done) | (simp; omega)) _).other (by first | (simp; done) | (simp; omega)) _
      have HYa : Hid (Bx4 ((((wd.setCell ⟨W.heap.size, 0, none⟩ (.int .i64 x.frm)).setCell ⟨W.heap.size, 1, none⟩ (.int .i64 x.seq)).setCell ⟨W.heap.size, 2, none⟩ (.int .i64 x.age)).setCell ⟨W.heap.size, 3, none⟩ (.string x.text)) n6 (.int .i64 x.frm) (.int .i64 y.seq) (.int .i64 y.age) (.string y.text)) := (((HY9.out.other (by first | (simp; done) | (simp; omega)) _).other (by first | (simp; done) | (simp; omega)) _).other (by first | (simp; done) | (simp; omega)) _).other (by first | (simp; done) | (simp; omega)) _
      have HSa : Hid (Since B w0 ((((wd.setCell ⟨W.heap.size, 0, none⟩ (.int .i64 x.frm)).setCell ⟨W.heap.size, 1, none⟩ (.int .i64 x.seq)).setCell ⟨W.heap.size, 2, none⟩ (.int .i64 x.age)).setCell ⟨W.heap.size, 3, none⟩ (.string x.text))) := (((HS9.out.set (by omega) _ _).set (by omega) _ _).set (by omega) _ _).set (by omega) _ _
      have HRf : Hid (Bx4 ((((((((wd.setCell ⟨W.heap.size, 0, none⟩ (.int .i64 x.frm)).setCell ⟨W.heap.size, 1, none⟩ (.int .i64 x.seq)).setCell ⟨W.heap.size, 2, none⟩ (.int .i64 x.age)).setCell ⟨W.heap.size, 3, none⟩ (.string x.text)).setCell ⟨(W.heap.size + 1), 0, none⟩ (.int .i64 x.frm)).setCell ⟨(W.heap.size + 1), 1, none⟩ (.int .i64 y.seq)).setCell ⟨(W.heap.size + 1), 2, none⟩ (.int .i64 y.age)).setCell ⟨(W.heap.size + 1), 3, none⟩ (.string y.text)) W.heap.size (.int .i64 x.frm) (.int .i64 x.seq) (.int .i64 x.age) (.string x.text)) := (((HRa.out.other (by first | (simp; done) | (simp; omega)) _).other (by first | (simp; done) | (simp; omega)) _).other (by first | (simp; done) | (simp; omega)) _).other (by first | (simp; done) | (simp; omega)) _
      have HQf : Hid (Bx4 ((((((((wd.setCell ⟨W.heap.size, 0, none⟩ (.int .i64 x.frm)).setCell ⟨W.heap.size, 1, none⟩ (.int .i64 x.seq)).setCell ⟨W.heap.size, 2, none⟩ (.int .i64 x.age)).setCell ⟨W.heap.size, 3, none⟩ (.string x.text)).setCell ⟨(W.heap.size + 1), 0, none⟩ (.int .i64 x.frm)).setCell ⟨(W.heap.size + 1), 1, none⟩ (.int .i64 y.seq)).setCell ⟨(W.heap.size + 1), 2, none⟩ (.int .i64 y.age)).setCell ⟨(W.heap.size + 1), 3, none⟩ (.string y.text)) (W.heap.size + 1) (.int .i64 x.frm) (.int .i64 y.seq) (.int .i64 y.age) (.string y.text)) := (((HQa.out.put0 (.int .i64 x.frm)).put1 (.int .i64 y.seq)).put2 (.int .i64 y.age)).put3 (.string y.text)
      have HXf : Hid (Bx4 ((((((((wd.setCell ⟨W.heap.size, 0, none⟩ (.int .i64 x.frm)).setCell ⟨W.heap.size, 1, none⟩ (.int .i64 x.seq)).setCell ⟨W.heap.size, 2, none⟩ (.int .i64 x.age)).setCell ⟨W.heap.size, 3, none⟩ (.string x.text)).setCell ⟨(W.heap.size + 1), 0, none⟩ (.int .i64 x.frm)).setCell ⟨(W.heap.size + 1), 1, none⟩ (.int .i64 y.seq)).setCell ⟨(W.heap.size + 1), 2, none⟩ (.int .i64 y.age)).setCell ⟨(W.heap.size + 1), 3, none⟩ (.string y.text)) n5 (.int .i64 x.frm) (.int .i64 x.seq) (.int .i64 x.age) (.string x.text)) := (((HXa.out.other (by first | (simp; done) | (simp; omega)) _).other (by first | (simp; done) | (simp; omega)) _).other (by first | (simp; done) | (simp; omega)) _).other (by first | (simp; done) | (simp; omega)) _
      have HYf : Hid (Bx4 ((((((((wd.setCell ⟨W.heap.size, 0, none⟩ (.int .i64 x.frm)).setCell ⟨W.heap.size, 1, none⟩ (.int .i64 x.seq)).setCell ⟨W.heap.size, 2, none⟩ (.int .i64 x.age)).setCell ⟨W.heap.size, 3, none⟩ (.string x.text)).setCell ⟨(W.heap.size + 1), 0, none⟩ (.int .i64 x.frm)).setCell ⟨(W.heap.size + 1), 1, none⟩ (.int .i64 y.seq)).setCell ⟨(W.heap.size + 1), 2, none⟩ (.int .i64 y.age)).setCell ⟨(W.heap.size + 1), 3, none⟩ (.string y.text)) n6 (.int .i64 x.frm) (.int .i64 y.seq) (.int .i64 y.age) (.string y.text)) := (((HYa.out.other (by first | (simp; done) | (simp; omega)) _).other (by first | (simp; done) | (simp; omega)) _).other (by first | (simp; done) | (simp; omega)) _).other (by first | (simp; done) | (simp; omega)) _
      have HSf : Hid (Since B w0 ((((((((wd.setCell ⟨W.heap.size, 0, none⟩ (.int .i64 x.frm)).setCell ⟨W.heap.size, 1, none⟩ (.int .i64 x.seq)).setCell ⟨W.heap.size, 2, none⟩ (.int .i64 x.age)).setCell ⟨W.heap.size, 3, none⟩ (.string x.text)).setCell ⟨(W.heap.size + 1), 0, none⟩ (.int .i64 x.frm)).setCell ⟨(W.heap.size + 1), 1, none⟩ (.int .i64 y.seq)).setCell ⟨(W.heap.size + 1), 2, none⟩ (.int .i64 y.age)).setCell ⟨(W.heap.size + 1), 3, none⟩ (.string y.text))) := (((HSa.out.set (by omega) _ _).set (by omega) _ _).set (by omega) _ _).set (by omega) _ _
      refine hK.out _ _ ?_ (fun hHeld => ?_)
      · exact ⟨HXa.out.cells, HYa.out.cells⟩
      clear hK K
      try simp only [Act.put, List.setIfInBounds_toArray, List.set_cons_zero, List.set_cons_succ]
      clear r0 r1 r2 r3 q0 q1 q2 q3 fr0 fq0 fr1 fq1 fr2 fq2 fr3 fq3
      obtain ⟨r0, r1, r2, r3⟩ := HRa.out.cells
      obtain ⟨q0, q1, q2, q3⟩ := HQa.out.cells
      have fr0 := HRa.out.fz 0
      have fq0 := HQa.out.fz 0
      have fr1 := HRa.out.fz 1
      have fq1 := HQa.out.fz 1
      have fr2 := HRa.out.fz 2
      have fq2 := HQa.out.fz 2
      have fr3 := HRa.out.fz 3
      have fq3 := HQa.out.fz 3
      refine wpAnyH_ready (rs := [3]) (by kernel_rfl) (by simp) ?_
      refine AllReadyH.cons rfl (fun K hK => ?_) AllReadyH.nil
      go_simp
      refine hK.out _ _ ?_ (fun hHeld => ?_)
      · exact ⟨HXf.out.cells, HYf.out.cells⟩
      clear hK K
      try simp only [Act.put, List.setIfInBounds_toArray, List.set_cons_zero, List.set_cons_succ]
      clear r0 r1 r2 r3 q0 q1 q2 q3 fr0 fq0 fr1 fq1 fr2 fq2 fr3 fq3
      refine wpAnyH_done (by kernel_rfl) ?_ _
      obtain ⟨r0, r1, r2, r3⟩ := HRf.out.cells
      obtain ⟨q0, q1, q2, q3⟩ := HQf.out.cells
      go_wp2
      refine bodyPost_ret (v := .tuple #[.agg #[.int .i64 x.frm, .int .i64 x.seq, .int .i64 x.age, .string x.text], .agg #[.int .i64 x.frm, .int .i64 y.seq, .int .i64 y.age, .string y.text]]) (by simp [results, Try.results40, go_sem, r0, r1, r2, r3, q0, q1, q2, q3]) rfl ?_
      exact ⟨x, ⟨x.frm, y.seq, y.age, y.text⟩, rfl, HTX.out, HTY.out, HSf.out⟩
    | true =>
      obtain ⟨x0, x1, x2, x3⟩ := HX5.out.cells
      obtain ⟨y0, y1, y2, y3⟩ := HY5.out.cells
      have fy1 := HY5.out.fz 1
      have HR9 : Hid (Bx4 (w5.setCell ⟨n6, 1, none⟩ (.int .i64 x.seq)) W.heap.size (.int .i64 0) (.int .i64 0) (.int .i64 0) (.string ⟨#[]⟩)) := HR5.out.other (by show n6 ≠ _; omega) _
      have HQ9 : Hid (Bx4 (w5.setCell ⟨n6, 1, none⟩ (.int .i64 x.seq)) (W.heap.size + 1) (.int .i64 0) (.int .i64 0) (.int .i64 0) (.string ⟨#[]⟩)) := HQ5.out.other (by show n6 ≠ _; omega) _
      have HX9 : Hid (Bx4 (w5.setCell ⟨n6, 1, none⟩ (.int .i64 x.seq)) n5 (.int .i64 x.frm) (.int .i64 x.seq) (.int .i64 x.age) (.string x.text)) := HX5.out.other (by show n6 ≠ _; omega) _
      have HY9 : Hid (Bx4 (w5.setCell ⟨n6, 1, none⟩ (.int .i64 x.seq)) n6 (.int .i64 x.frm) (.int .i64 x.seq) (.int .i64 y.age) (.string y.text)) := HY5.out.put1 _
      have HS9 : Hid (Since B w0 (w5.setCell ⟨n6, 1, none⟩ (.int .i64 x.seq))) := HC5.out.2.2.1.set (by omega) _ _
      clear HR5 HQ5 HX5 HY5 HC5
      go_wp2
      clear x0 x1 x2 x3 y0 y1 y2 y3 fy1
      generalize hw59 : w5.setCell ⟨n6, 1, none⟩ (.int .i64 x.seq) = w9 at *
      clear hw59
      replace HR9 : Hid (Bx4 w9.drew W.heap.size (.int .i64 0) (.int .i64 0) (.int .i64 0) (.string ⟨#[]⟩)) := HR9.out.drew
      replace HQ9 : Hid (Bx4 w9.drew (W.heap.size + 1) (.int .i64 0) (.int .i64 0) (.int .i64 0) (.string ⟨#[]⟩)) := HQ9.out.drew
      replace HX9 : Hid (Bx4 w9.drew n5 (.int .i64 x.frm) (.int .i64 x.seq) (.int .i64 x.age) (.string x.text)) := HX9.out.drew
      replace HY9 : Hid (Bx4 w9.drew n6 (.int .i64 x.frm) (.int .i64 x.seq) (.int .i64 y.age) (.string y.text)) := HY9.out.drew
      replace HS9 : Hid (Since B w0 w9.drew) := HS9.out.drew
      refine wp_region_held_drew (S := (fun w' => (w'.cell? ⟨n5, 0, none⟩ = some (.int .i64 x.frm) ∧ w'.cell? ⟨n5, 1, none⟩ = some (.int .i64 x.seq) ∧ w'.cell? ⟨n5, 2, none⟩ = some (.int .i64 x.age) ∧ w'.cell? ⟨n5, 3, none⟩ = some (.string x.text)) ∧ (w'.cell? ⟨n6, 0, none⟩ = some (.int .i64 x.frm) ∧ w'.cell? ⟨n6, 1, none⟩ = some (.int .i64 x.seq) ∧ w'.cell? ⟨n6, 2, none⟩ = some (.int .i64 y.age) ∧ w'.cell? ⟨n6, 3, none⟩ = some (.string y.text)))) (by kernel_rfl) ?_ (fun hHeld => ?_)
      · exact ⟨HX9.out.cells, HY9.out.cells⟩
      generalize hwd : w9.drew = wd at *
      clear hwd
      refine handRead 0 (some 25) (.agg #[.int .i64 x.frm, .int .i64 x.seq, .int .i64 x.age, .string x.text]) rfl rfl (by kernel_rfl) (by kernel_rfl) (by kernel_rfl) (fun _ _ _ h => h) (by kernel_rfl) (by assumption) ?_ ?_
      · intro w hSw
        (try dsimp only at hSw)
        go_simp
      simp only [Act.put, List.setIfInBounds_toArray, List.set_cons_zero, List.set_cons_succ]
      refine handRead 1 (some 26) (.agg #[.int .i64 x.frm, .int .i64 x.seq, .int .i64 y.age, .string y.text]) rfl rfl (by kernel_rfl) (by kernel_rfl) (by kernel_rfl) (fun _ _ _ h => h) (by kernel_rfl) (by assumption) ?_ ?_
      · intro w hSw
        (try dsimp only at hSw)
        go_simp
      simp only [Act.put, List.setIfInBounds_toArray, List.set_cons_zero, List.set_cons_succ]
      refine wpAnyH_ready (rs := [2]) (by kernel_rfl) (by simp) ?_
      obtain ⟨r0, r1, r2, r3⟩ := HR9.out.cells
      have fr0 := HR9.out.fz 0
      have fr1 := HR9.out.fz 1
      have fr2 := HR9.out.fz 2
      have fr3 := HR9.out.fz 3
      obtain ⟨q0, q1, q2, q3⟩ := HQ9.out.cells
      have fq0 := HQ9.out.fz 0
      have fq1 := HQ9.out.fz 1
      have fq2 := HQ9.out.fz 2
      have fq3 := HQ9.out.fz 3
      refine AllReadyH.cons rfl (fun K hK => ?_) AllReadyH.nil
      go_simp
      have HRa : Hid (Bx4 ((((wd.setCell ⟨W.heap.size, 0, none⟩ (.int .i64 x.frm)).setCell ⟨W.heap.size, 1, none⟩ (.int .i64 x.seq)).setCell ⟨W.heap.size, 2, none⟩ (.int .i64 x.age)).setCell ⟨W.heap.size, 3, none⟩ (.string x.text)) W.heap.size (.int .i64 x.frm) (.int .i64 x.seq) (.int .i64 x.age) (.string x.text)) := (((HR9.out.put0 (.int .i64 x.frm)).put1 (.int .i64 x.seq)).put2 (.int .i64 x.age)).put3 (.string x.text)
      have HQa : Hid (Bx4 ((((wd.setCell ⟨W.heap.size, 0, none⟩ (.int .i64 x.frm)).setCell ⟨W.heap.size, 1, none⟩ (.int .i64 x.seq)).setCell ⟨W.heap.size, 2, none⟩ (.int .i64 x.age)).setCell ⟨W.heap.size, 3, none⟩ (.string x.text)) (W.heap.size + 1) (.int .i64 0) (.int .i64 0) (.int .i64 0) (.string ⟨#[]⟩)) := (((HQ9.out.other (by first | (simp; done) | (simp; omega)) _).other (by first | (simp; done) | (simp; omega)) _).other (by first | (simp; done) | (simp; omega)) _).other (by first | (simp; done) | (simp; omega)) _
      have HXa : Hid (Bx4 ((((wd.setCell ⟨W.heap.size, 0, none⟩ (.int .i64 x.frm)).setCell ⟨W.heap.size, 1, none⟩ (.int .i64 x.seq)).setCell ⟨W.heap.size, 2, none⟩ (.int .i64 x.age)).setCell ⟨W.heap.size, 3, none⟩ (.string x.text)) n5 (.int .i64 x.frm) (.int .i64 x.seq) (.int .i64 x.age) (.string x.text)) := (((HX9.out.other (by first | (simp; done) | (simp; omega)) _).other (by first | (simp; done) | (simp; omega)) _).other (by first | (simp; done) | (simp; omega)) _).other (by first | (simp; done) | (simp; omega)) _
      have HYa : Hid (Bx4 ((((wd.setCell ⟨W.heap.size, 0, none⟩ (.int .i64 x.frm)).setCell ⟨W.heap.size, 1, none⟩ (.int .i64 x.seq)).setCell ⟨W.heap.size, 2, none⟩ (.int .i64 x.age)).setCell ⟨W.heap.size, 3, none⟩ (.string x.text)) n6 (.int .i64 x.frm) (.int .i64 x.seq) (.int .i64 y.age) (.string y.text)) := (((HY9.out.other (by first | (simp; done) | (simp; omega)) _).other (by first | (simp; done) | (simp; omega)) _).other (by first | (simp; done) | (simp; omega)) _).other (by first | (simp; done) | (simp; omega)) _
      have HSa : Hid (Since B w0 ((((wd.setCell ⟨W.heap.size, 0, none⟩ (.int .i64 x.frm)).setCell ⟨W.heap.size, 1, none⟩ (.int .i64 x.seq)).setCell ⟨W.heap.size, 2, none⟩ (.int .i64 x.age)).setCell ⟨W.heap.size, 3, none⟩ (.string x.text))) := (((HS9.out.set (by omega) _ _).set (by omega) _ _).set (by omega) _ _).set (by omega) _ _
      have HRf : Hid (Bx4 ((((((((wd.setCell ⟨W.heap.size, 0, none⟩ (.int .i64 x.frm)).setCell ⟨W.heap.size, 1, none⟩ (.int .i64 x.seq)).setCell ⟨W.heap.size, 2, none⟩ (.int .i64 x.age)).setCell ⟨W.heap.size, 3, none⟩ (.string x.text)).setCell ⟨(W.heap.size + 1), 0, none⟩ (.int .i64 x.frm)).setCell ⟨(W.heap.size + 1), 1, none⟩ (.int .i64 x.seq)).setCell ⟨(W.heap.size + 1), 2, none⟩ (.int .i64 y.age)).setCell ⟨(W.heap.size + 1), 3, none⟩ (.string y.text)) W.heap.size (.int .i64 x.frm) (.int .i64 x.seq) (.int .i64 x.age) (.string x.text)) := (((HRa.out.other (by first | (simp; done) | (simp; omega)) _).other (by first | (simp; done) | (simp; omega)) _).other (by first | (simp; done) | (simp; omega)) _).other (by first | (simp; done) | (simp; omega)) _
      have HQf : Hid (Bx4 ((((((((wd.setCell ⟨W.heap.size, 0, none⟩ (.int .i64 x.frm)).setCell ⟨W.heap.size, 1, none⟩ (.int .i64 x.seq)).setCell ⟨W.heap.size, 2, none⟩ (.int .i64 x.age)).setCell ⟨W.heap.size, 3, none⟩ (.string x.text)).setCell ⟨(W.heap.size + 1), 0, none⟩ (.int .i64 x.frm)).setCell ⟨(W.heap.size + 1), 1, none⟩ (.int .i64 x.seq)).setCell ⟨(W.heap.size + 1), 2, none⟩ (.int .i64 y.age)).setCell ⟨(W.heap.size + 1), 3, none⟩ (.string y.text)) (W.heap.size + 1) (.int .i64 x.frm) (.int .i64 x.seq) (.int .i64 y.age) (.string y.text)) := (((HQa.out.put0 (.int .i64 x.frm)).put1 (.int .i64 x.seq)).put2 (.int .i64 y.age)).put3 (.string y.text)
      have HXf : Hid (Bx4 ((((((((wd.setCell ⟨W.heap.size, 0, none⟩ (.int .i64 x.frm)).setCell ⟨W.heap.size, 1, none⟩ (.int .i64 x.seq)).setCell ⟨W.heap.size, 2, none⟩ (.int .i64 x.age)).setCell ⟨W.heap.size, 3, none⟩ (.string x.text)).setCell ⟨(W.heap.size + 1), 0, none⟩ (.int .i64 x.frm)).setCell ⟨(W.heap.size + 1), 1, none⟩ (.int .i64 x.seq)).setCell ⟨(W.heap.size + 1), 2, none⟩ (.int .i64 y.age)).setCell ⟨(W.heap.size + 1), 3, none⟩ (.string y.text)) n5 (.int .i64 x.frm) (.int .i64 x.seq) (.int .i64 x.age) (.string x.text)) := (((HXa.out.other (by first | (simp; done) | (simp; omega)) _).other (by first | (simp; done) | (simp; omega)) _).other (by first | (simp; done) | (simp; omega)) _).other (by first | (simp; done) | (simp; omega)) _
      have HYf : Hid (Bx4 ((((((((wd.setCell ⟨W.heap.size, 0, none⟩ (.int .i64 x.frm)).setCell ⟨W.heap.size, 1, none⟩ (.int .i64 x.seq)).setCell ⟨W.heap.size, 2, none⟩ (.int .i64 x.age)).setCell ⟨W.heap.size, 3, none⟩ (.string x.text)).setCell ⟨(W.heap.size + 1), 0, none⟩ (.int .i64 x.frm)).setCell ⟨(W.heap.size + 1), 1, none⟩ (.int .i64 x.seq)).setCell ⟨(W.heap.size + 1), 2, none⟩ (.int .i64 y.age)).setCell ⟨(W.heap.size + 1), 3, none⟩ (.string y.text)) n6 (.int .i64 x.frm) (.int .i64 x.seq) (.int .i64 y.age) (.string y.text)) := (((HYa.out.other (by first | (simp; done) | (simp; omega)) _).other (by first | (simp; done) | (simp; omega)) _).other (by first | (simp; done) | (simp; omega)) _).other (by first | (simp; done) | (simp; omega)) _
      have HSf : Hid (Since B w0 ((((((((wd.setCell ⟨W.heap.size, 0, none⟩ (.int .i64 x.frm)).setCell ⟨W.heap.size, 1, none⟩ (.int .i64 x.seq)).setCell ⟨W.heap.size, 2, none⟩ (.int .i64 x.age)).setCell ⟨W.heap.size, 3, none⟩ (.string x.text)).setCell ⟨(W.heap.size + 1), 0, none⟩ (.int .i64 x.frm)).setCell ⟨(W.heap.size + 1), 1, none⟩ (.int .i64 x.seq)).setCell ⟨(W.heap.size + 1), 2, none⟩ (.int .i64 y.age)).setCell ⟨(W.heap.size + 1), 3, none⟩ (.string y.text))) := (((HSa.out.set (by omega) _ _).set (by omega) _ _).set (by omega) _ _).set (by omega) _ _
      refine hK.out _ _ ?_ (fun hHeld => ?_)
      · exact ⟨HXa.out.cells, HYa.out.cells⟩
      clear hK K
      try simp only [Act.put, List.setIfInBounds_toArray, List.set_cons_zero, List.set_cons_succ]
      clear r0 r1 r2 r3 q0 q1 q2 q3 fr0 fq0 fr1 fq1 fr2 fq2 fr3 fq3
      obtain ⟨r0, r1, r2, r3⟩ := HRa.out.cells
      obtain ⟨q0, q1, q2, q3⟩ := HQa.out.cells
      have fr0 := HRa.out.fz 0
      have fq0 := HQa.out.fz 0
      have fr1 := HRa.out.fz 1
      have fq1 := HQa.out.fz 1
      have fr2 := HRa.out.fz 2
      have fq2 := HQa.out.fz 2
      have fr3 := HRa.out.fz 3
      have fq3 := HQa.out.fz 3
      refine wpAnyH_ready (rs := [3]) (by kernel_rfl) (by simp) ?_
      refine AllReadyH.cons rfl (fun K hK => ?_) AllReadyH.nil
      go_simp
      refine hK.out _ _ ?_ (fun hHeld => ?_)
      · exact ⟨HXf.out.cells, HYf.out.cells⟩
      clear hK K
      try simp only [Act.put, List.setIfInBounds_toArray, List.set_cons_zero, List.set_cons_succ]
      clear r0 r1 r2 r3 q0 q1 q2 q3 fr0 fq0 fr1 fq1 fr2 fq2 fr3 fq3
      refine wpAnyH_done (by kernel_rfl) ?_ _
      obtain ⟨r0, r1, r2, r3⟩ := HRf.out.cells
      obtain ⟨q0, q1, q2, q3⟩ := HQf.out.cells
      go_wp2
      refine bodyPost_ret (v := .tuple #[.agg #[.int .i64 x.frm, .int .i64 x.seq, .int .i64 x.age, .string x.text], .agg #[.int .i64 x.frm, .int .i64 x.seq, .int .i64 y.age, .string y.text]]) (by simp [results, Try.results40, go_sem, r0, r1, r2, r3, q0, q1, q2, q3]) rfl ?_
      exact ⟨x, ⟨x.frm, x.seq, y.age, y.text⟩, rfl, HTX.out, HTY.out, HSf.out⟩
end Go.Proofs.Ythdcfeafkellcab
