/-
  What is drawn of items: 'of', 'item'.
-/
import Derived.Test.YthdcfeafkellcabDrawRing
import Derived.Test.YthdcfeafkellcabItemsA
namespace Go.Proofs.Ythdcfeafkellcab
open Go.RowKit
set_option linter.unusedVariables false

theorem one_t : (⟨#[116]⟩ : ByteArray).size ≤ 1 := by decide
theorem one_e : (⟨#[]⟩ : ByteArray).size ≤ 1 := by decide
theorem Bx4.put0 {W : World} {b : Nat} {x y z u : Value} (h : Bx4 W b x y z u) (v : Value) : Bx4 (W.setCell ⟨b, 0, none⟩ v) b v y z u :=
  ⟨by simpa [World.setCell] using h.lt, by simp [go_sem, h.c0], by simp [go_sem, h.c1], by simp [go_sem, h.c2], by simp [go_sem, h.c3], fun j => by simp [go_sem, h.fz]⟩
theorem Bx4.put1 {W : World} {b : Nat} {x y z u : Value} (h : Bx4 W b x y z u) (v : Value) : Bx4 (W.setCell ⟨b, 1, none⟩ v) b x v z u :=
  ⟨by simpa [World.setCell] using h.lt, by simp [go_sem, h.c0], by simp [go_sem, h.c1], by simp [go_sem, h.c2], by simp [go_sem, h.c3], fun j => by simp [go_sem, h.fz]⟩
theorem Bx4.put3 {W : World} {b : Nat} {x y z u : Value} (h : Bx4 W b x y z u) (v : Value) : Bx4 (W.setCell ⟨b, 3, none⟩ v) b x y z v :=
  ⟨by simpa [World.setCell] using h.lt, by simp [go_sem, h.c0], by simp [go_sem, h.c1], by simp [go_sem, h.c2], by simp [go_sem, h.c3], fun j => by simp [go_sem, h.fz]⟩
theorem Bx4.only {W W' : World} {b c : Nat} {x y z u : Value} (h : Bx4 W b x y z u) (ho : Only c W W') (hbc : b ≠ c) : Bx4 W' b x y z u := by
  have e := ho.2 b h.lt hbc
  exact ⟨Nat.lt_of_lt_of_le h.lt ho.1, (World.cell?_of_block e).trans h.c0, (World.cell?_of_block e).trans h.c1, (World.cell?_of_block e).trans h.c2, (World.cell?_of_block e).trans h.c3, fun j => (World.frozen?_of_block e).trans (h.fz j)⟩
theorem Only.set {c : Nat} {w w' : World} (h : Only c w w') {b : Nat} (hb : w.heap.size ≤ b) (o : Nat) (v : Value) : Only c w (w'.setCell ⟨b, o, none⟩ v) :=
  ⟨by simpa [World.setCell] using h.1, fun k hk hne => by rw [Below.heap_setCell _ _ _ _ (by show k ≠ b; omega)]; exact h.2 k hk hne⟩

theorem of_any (B : Nat) (w0 W : World) (c b : Nat) (ts : List ByteArray) (a : Option Addr) (len cap cap2 m : Nat) (hC : Code B w0 a len) (hl : len ≤ 9223372036854775807) (hm : m ≤ 900000) (h : Cur B w0 W c a len cap m)
    (hz : 1 ≤ ts.length) (hz2 : ts.length ≤ 200) (hb : b < W.heap.size) (hbc : b ≠ c) (hcell : ∀ j (hj : j < ts.length), W.cell? ⟨b, j, none⟩ = some (.string ts[j])) :
    Calls Try.prog 95 #[.pointer (some ⟨c, 0, none⟩), .slice (some ⟨b, 0, none⟩) ts.length cap2] W fun e W' => ∃ r : ByteArray, e = .returned (.string r) ∧ r ∈ ts ∧ Cur B w0 W' c a len cap (m + 2) ∧ Only c W W' := by
  have HX : Hid (∀ j (hj : j < ts.length), W.cell? ⟨b, j, none⟩ = some (.string ts[j])) := hcell
  clear hcell
  go_enter Try.func95, Try.ntmps95
  go_wp2_with fail
  refine (pick_any B w0 _ c a len cap m ts.length hC hl hm h (by omega) (by omega)).mono ?_
  rintro e W1 ⟨r, rfl, r0, r1, hc1, ho1⟩
  obtain ⟨k, rfl⟩ : ∃ k : Nat, r = k := ⟨r.toNat, by omega⟩
  have hk : k < ts.length := by omega
  have hcell : W1.cell? ⟨b, k, none⟩ = some (.string ts[k]) := (World.cell?_of_block (w := W) (a := ⟨b, k, none⟩) (ho1.2 b hb hbc)).trans (HX.out k hk)
  go_wp2
  go_ret
  exact ⟨_, rfl, List.getElem_mem hk, hc1, ho1⟩

/-- What 'item' leaves. -/
def ItPost (B : Nat) (w0 W : World) (c : Nat) (a : Option Addr) (len cap m : Nat) (e : Ending) (W' : World) : Prop :=
  ∃ x : ItD, e = .returned (.agg #[.int .i64 x.frm, .int .i64 x.seq, .int .i64 x.age, .string x.text]) ∧ x.text.size ≤ 1 ∧ Cur B w0 W' c a len cap (m + 24) ∧ Only c W W'

set_option maxRecDepth 100000 in
set_option maxHeartbeats 8000000 in
theorem item_any (B : Nat) (w0 W : World) (c : Nat) (a : Option Addr) (len cap m : Nat) (hC : Code B w0 a len) (hl : len ≤ 9223372036854775807) (hm : m ≤ 50000) (h : Cur B w0 W c a len cap m) :
    Calls Try.prog 84 #[.pointer (some ⟨c, 0, none⟩)] W (ItPost B w0 W c a len cap m) := by
  have HD : Hid (Code B w0 a len) := hC
  have hcW : c < W.heap.size := h.2.1
  have HC0 : Hid (Cur B w0 (W.alloc (.cells #[.int .i64 0, .int .i64 0, .int .i64 0, .string ⟨#[]⟩] 60)) c a len cap (m + 0) ∧ Only c (W.alloc (.cells #[.int .i64 0, .int .i64 0, .int .i64 0, .string ⟨#[]⟩] 60)) (W.alloc (.cells #[.int .i64 0, .int .i64 0, .int .i64 0, .string ⟨#[]⟩] 60))) := ⟨curAlloc h _, Only.refl _ _⟩
  have HR0 : Hid (Bx4 (W.alloc (.cells #[.int .i64 0, .int .i64 0, .int .i64 0, .string ⟨#[]⟩] 60)) W.heap.size (.int .i64 0) (.int .i64 0) (.int .i64 0) (.string ⟨#[]⟩)) := Bx4.new _ _ _ _ _ _
  have HS0 : Hid (Only c W (W.alloc (.cells #[.int .i64 0, .int .i64 0, .int .i64 0, .string ⟨#[]⟩] 60))) := onlyAlloc (Only.refl _ _) _
  clear hC h
  go_enter Try.func84, Try.ntmps84
  go_wp2_with fail
  refine (pick_any B w0 _ c a len cap (m + 0) 3 HD.out hl (by omega) HC0.out.1 (by omega) (by omega)).mono ?_
  rintro e W1 ⟨p1, rfl, p10, p11, hc1, ho1⟩
  have HC1 : Hid (Cur B w0 W1 c a len cap (m + 2) ∧ Only c (W.alloc (.cells #[.int .i64 0, .int .i64 0, .int .i64 0, .string ⟨#[]⟩] 60)) W1) := ⟨hc1, HC0.out.2.trans ho1⟩
  clear hc1 ho1 HC0
  go_wp2_with fail
  refine (pick_any B w0 _ c a len cap (m + 2) 64 HD.out hl (by omega) HC1.out.1 (by omega) (by omega)).mono ?_
  rintro e W2 ⟨p2, rfl, p20, p21, hc2, ho2⟩
  have HC2 : Hid (Cur B w0 W2 c a len cap (m + 4) ∧ Only c (W.alloc (.cells #[.int .i64 0, .int .i64 0, .int .i64 0, .string ⟨#[]⟩] 60)) W2) := ⟨hc2, HC1.out.2.trans ho2⟩
  clear hc2 ho2 HC1
  go_wp2_with fail
  refine (pick_any B w0 _ c a len cap (m + 4) 20 HD.out hl (by omega) HC2.out.1 (by omega) (by omega)).mono ?_
  rintro e W3 ⟨p3, rfl, p30, p31, hc3, ho3⟩
  have HC3 : Hid (Cur B w0 W3 c a len cap (m + 6) ∧ Only c (W.alloc (.cells #[.int .i64 0, .int .i64 0, .int .i64 0, .string ⟨#[]⟩] 60)) W3) := ⟨hc3, HC2.out.2.trans ho3⟩
  clear hc3 ho3 HC2
  have hcW3 : c < W3.heap.size := HC3.out.1.2.1
  have HTX : Hid (∀ j (hj : j < [(⟨#[]⟩ : ByteArray), ⟨#[97]⟩, ⟨#[98]⟩].length), (W3.alloc (.cells #[.string ⟨#[]⟩, .string ⟨#[97]⟩, .string ⟨#[98]⟩] 9)).cell? ⟨W3.heap.size, j, none⟩ = some (.string [(⟨#[]⟩ : ByteArray), ⟨#[97]⟩, ⟨#[98]⟩][j])) := fun j hj => by
    rw [World.cell?_alloc_at _ _ _ _ rfl]
    match j, hj with
    | 0, _ => rfl
    | 1, _ => rfl
    | 2, _ => rfl
  go_wp2_with fail
  refine (of_any B w0 _ c W3.heap.size [(⟨#[]⟩ : ByteArray), ⟨#[97]⟩, ⟨#[98]⟩] a len cap 3 (m + 6) HD.out hl (by omega) (curAlloc HC3.out.1 _) (by simp) (by simp) (by simp) (by omega) HTX.out).mono ?_
  rintro e W4 ⟨tx, rfl, htx, hc4, ho4⟩
  have htx1 : tx.size ≤ 1 := by
    simp only [List.mem_cons, List.not_mem_nil, or_false] at htx
    rcases htx with rfl | rfl | rfl <;> decide
  have HC4 : Hid (Cur B w0 W4 c a len cap (m + 8) ∧ Only c (W.alloc (.cells #[.int .i64 0, .int .i64 0, .int .i64 0, .string ⟨#[]⟩] 60)) W4) := ⟨hc4, HC3.out.2.trans ((onlyAlloc (Only.refl _ _) _).trans ho4)⟩
  have HR4 : Hid (Bx4 W4 W.heap.size (.int .i64 0) (.int .i64 0) (.int .i64 0) (.string ⟨#[]⟩)) := HR0.out.only HC4.out.2 (by omega)
  have hW4 : W.heap.size < W4.heap.size := HR4.out.lt
  have HO4 : Hid (Only c W W4) := HS0.out.trans HC4.out.2
  have HT1 : Hid (tx.size ≤ 1) := htx1
  clear hc4 ho4 HC3 HTX hcW3 htx htx1 HR0 HS0
  have HX5 : Hid (Bx4 (W4.alloc (.cells #[.int .i64 (1 + p1), .int .i64 p2, .int .i64 (1 + p3), .string tx] 60)) W4.heap.size (.int .i64 (1 + p1)) (.int .i64 p2) (.int .i64 (1 + p3)) (.string tx)) := Bx4.new _ _ _ _ _ _
  have HR5 : Hid (Bx4 (W4.alloc (.cells #[.int .i64 (1 + p1), .int .i64 p2, .int .i64 (1 + p3), .string tx] 60)) W.heap.size (.int .i64 0) (.int .i64 0) (.int .i64 0) (.string ⟨#[]⟩)) := HR4.out.below ((Below.refl _ _).alloc (Nat.le_refl _) _)
  have HU5 : Hid (Cur B w0 (W4.alloc (.cells #[.int .i64 (1 + p1), .int .i64 p2, .int .i64 (1 + p3), .string tx] 60)) c a len cap (m + 8)) := curAlloc HC4.out.1 _
  have HO5 : Hid (Only c W (W4.alloc (.cells #[.int .i64 (1 + p1), .int .i64 p2, .int .i64 (1 + p3), .string tx] 60))) := onlyAlloc HO4.out _
  clear HC4 HR4 HO4
  go_wp2_with fail
  refine (one_any B w0 _ c a len cap (m + 8) 6 HD.out hl (by omega) HU5.out (by omega) (by omega)).mono ?_
  rintro e W6 ⟨b6, rfl, hc6, ho6⟩
  obtain ⟨n5, hn5e⟩ : ∃ n5, n5 = W4.heap.size := ⟨_, rfl⟩
  have hn5 : W.heap.size ≤ n5 := by omega
  have hn5c : W.heap.size < n5 := by omega
  have HR6 : Hid (Bx4 W6 W.heap.size (.int .i64 0) (.int .i64 0) (.int .i64 0) (.string ⟨#[]⟩)) := HR5.out.only ho6 (by omega)
  have HX6 : Hid (Bx4 W6 n5 (.int .i64 (1 + p1)) (.int .i64 p2) (.int .i64 (1 + p3)) (.string tx)) := by rw [hn5e]; exact HX5.out.only ho6 (by omega)
  have HO6 : Hid (Only c W W6) := HO5.out.trans ho6
  have HU6 : Hid (Cur B w0 W6 c a len cap (m + 10)) := hc6
  rw [← hn5e]
  clear hc6 ho6 HR5 HX5 HO5 HU5 hn5e hW4
  cases b6 with
  | false =>
    have HR := HR6
    have HX := HX6
    have HON := HO6
    have HCU := HU6
    clear HR6 HX6 HO6 HU6
    obtain ⟨r0, r1, r2, r3⟩ := HR.out.cells
    obtain ⟨x0, x1, x2, x3⟩ := HX.out.cells
    have fr0 := HR.out.fz 0
    have fx0 := HX.out.fz 0
    have fr1 := HR.out.fz 1
    have fx1 := HX.out.fz 1
    have fr2 := HR.out.fz 2
    have fx2 := HX.out.fz 2
    have fr3 := HR.out.fz 3
    have fx3 := HX.out.fz 3
    go_wp2_with fail
    refine (one_any B w0 _ c a len cap (m + 10) 30 HD.out hl (by omega) HCU.out (by omega) (by omega)).mono ?_
    rintro e W7 ⟨b7, rfl, hc7, ho7⟩
    have HR7 : Hid (Bx4 W7 W.heap.size (.int .i64 0) (.int .i64 0) (.int .i64 0) (.string ⟨#[]⟩)) := HR.out.only ho7 (by omega)
    have HX7 : Hid (Bx4 W7 n5 (.int .i64 (1 + p1)) (.int .i64 p2) (.int .i64 (1 + p3)) (.string tx)) := HX.out.only ho7 (by omega)
    have HO7 : Hid (Only c W W7) := HON.out.trans ho7
    have HU7 : Hid (Cur B w0 W7 c a len cap (m + 12)) := hc7
    clear hc7 ho7 HR HX HON HCU r0 r1 r2 r3 x0 x1 x2 x3 fr0 fr1 fr2 fr3 fx0 fx1 fx2 fx3
    cases b7 with
    | false =>
      have HR := HR7
      have HX := HX7
      have HON := HO7
      have HCU := HU7
      clear HR7 HX7 HO7 HU7
      obtain ⟨r0, r1, r2, r3⟩ := HR.out.cells
      obtain ⟨x0, x1, x2, x3⟩ := HX.out.cells
      have fr0 := HR.out.fz 0
      have fx0 := HX.out.fz 0
      have fr1 := HR.out.fz 1
      have fx1 := HX.out.fz 1
      have fr2 := HR.out.fz 2
      have fx2 := HX.out.fz 2
      have fr3 := HR.out.fz 3
      have fx3 := HX.out.fz 3
      go_wp2
      refine bodyPost_ret (v := .agg #[.int .i64 (1 + p1), .int .i64 p2, .int .i64 (1 + p3), .string tx]) (by simp [results, Try.results84, go_sem, r0, r1, r2, r3]) rfl ?_
      exact ⟨⟨(1 + p1), p2, (1 + p3), tx⟩, rfl, HT1.out, (((HCU.out.other (by omega) _).other (by omega) _).other (by omega) _).other (by omega) _ |>.mono (by omega), (((HON.out.set (Nat.le_refl _) _ _).set (Nat.le_refl _) _ _).set (Nat.le_refl _) _ _).set (Nat.le_refl _) _ _⟩
    | true =>
      have hcW7 : c < W7.heap.size := HU7.out.2.1
      have HCL : Hid (∀ j (hj : j < [(0 : Int), 1, 1001].length), (W7.alloc (.cells #[.int .i64 0, .int .i64 1, .int .i64 1001] 3)).cell? ⟨W7.heap.size, j, none⟩ = some (.int .i64 [(0 : Int), 1, 1001][j])) := cells_lit W7 3 [(0 : Int), 1, 1001]
      go_wp2_with fail
      refine (among_any B w0 _ c W7.heap.size [(0 : Int), 1, 1001] a len cap 3 (m + 12) HD.out hl (by omega) (curAlloc HU7.out _) (by simp) (by simp) (by simp) (by omega) HCL.out).mono ?_
      rintro e W8 ⟨g8, rfl, -, hc8, ho8⟩
      have hO8 : Only c W7 W8 := (onlyAlloc (Only.refl _ _) _).trans ho8
      have HR8 : Hid (Bx4 W8 W.heap.size (.int .i64 0) (.int .i64 0) (.int .i64 0) (.string ⟨#[]⟩)) := HR7.out.only hO8 (by omega)
      have HX8 : Hid (Bx4 W8 n5 (.int .i64 (1 + p1)) (.int .i64 p2) (.int .i64 (1 + p3)) (.string tx)) := HX7.out.only hO8 (by omega)
      have HO8 : Hid (Only c W W8) := HO7.out.trans hO8
      have HU8 : Hid (Cur B w0 W8 c a len cap (m + 14)) := hc8
      clear hc8 ho8 hO8 HR7 HX7 HO7 HU7 HCL hcW7
      go_wp2_with fail
      refine (seq_any B w0 _ c a len cap (m + 14) HD.out hl (by omega) HU8.out).mono ?_
      rintro e W9 ⟨g9, rfl, -, -, hc9, ho9⟩
      have hcW9 : c < W9.heap.size := hc9.2.1
      have HR9 : Hid (Bx4 W9 W.heap.size (.int .i64 0) (.int .i64 0) (.int .i64 0) (.string ⟨#[]⟩)) := HR8.out.only ho9 (by omega)
      have HX9 : Hid (Bx4 W9 n5 (.int .i64 (1 + p1)) (.int .i64 p2) (.int .i64 (1 + p3)) (.string tx)) := HX8.out.only ho9 (by omega)
      have HO9 : Hid (Only c W W9) := HO8.out.trans ho9
      have HU9 : Hid (Cur B w0 W9 c a len cap (m + 20)) := hc9
      have HCL : Hid (∀ j (hj : j < [(-1 : Int), 0, 20, 21].length), (W9.alloc (.cells #[.int .i64 (-1), .int .i64 0, .int .i64 20, .int .i64 21] 3)).cell? ⟨W9.heap.size, j, none⟩ = some (.int .i64 [(-1 : Int), 0, 20, 21][j])) := cells_lit W9 3 [(-1 : Int), 0, 20, 21]
      clear hc9 ho9 HR8 HX8 HO8 HU8
      go_wp2_with fail
      refine (among_any B w0 _ c W9.heap.size [(-1 : Int), 0, 20, 21] a len cap 4 (m + 20) HD.out hl (by omega) (curAlloc HU9.out _) (by simp) (by simp) (by simp) (by omega) HCL.out).mono ?_
      rintro e W10 ⟨g10, rfl, -, hc10, ho10⟩
      have hO10 : Only c W9 W10 := (onlyAlloc (Only.refl _ _) _).trans ho10
      have HR : Hid (Bx4 W10 W.heap.size (.int .i64 0) (.int .i64 0) (.int .i64 0) (.string ⟨#[]⟩)) := HR9.out.only hO10 (by omega)
      have HX : Hid (Bx4 W10 n5 (.int .i64 (1 + p1)) (.int .i64 p2) (.int .i64 (1 + p3)) (.string tx)) := HX9.out.only hO10 (by omega)
      have HON : Hid (Only c W ((((W10.setCell ⟨n5, 0, none⟩ (.int .i64 g8)).setCell ⟨n5, 1, none⟩ (.int .i64 g9)).setCell ⟨n5, 2, none⟩ (.int .i64 g10)).setCell ⟨n5, 3, none⟩ (.string ⟨#[116]⟩))) := ((((HO9.out.trans hO10).set hn5 _ _).set hn5 _ _).set hn5 _ _).set hn5 _ _
      have HCU : Hid (Cur B w0 ((((W10.setCell ⟨n5, 0, none⟩ (.int .i64 g8)).setCell ⟨n5, 1, none⟩ (.int .i64 g9)).setCell ⟨n5, 2, none⟩ (.int .i64 g10)).setCell ⟨n5, 3, none⟩ (.string ⟨#[116]⟩)) c a len cap (m + 22)) := (((hc10.other (by omega) _).other (by omega) _).other (by omega) _).other (by omega) _
      clear hc10 ho10 hO10 HR9 HX9 HO9 HU9 HCL hcW9
      obtain ⟨r0, r1, r2, r3⟩ := HR.out.cells
      obtain ⟨x0, x1, x2, x3⟩ := HX.out.cells
      have fr0 := HR.out.fz 0
      have fx0 := HX.out.fz 0
      have fr1 := HR.out.fz 1
      have fx1 := HX.out.fz 1
      have fr2 := HR.out.fz 2
      have fx2 := HX.out.fz 2
      have fr3 := HR.out.fz 3
      have fx3 := HX.out.fz 3
      go_wp2
      refine bodyPost_ret (v := .agg #[.int .i64 g8, .int .i64 g9, .int .i64 g10, .string ⟨#[116]⟩]) (by simp [results, Try.results84, go_sem, r0, r1, r2, r3]) rfl ?_
      exact ⟨⟨g8, g9, g10, ⟨#[116]⟩⟩, rfl, one_t, (((HCU.out.other (by omega) _).other (by omega) _).other (by omega) _).other (by omega) _ |>.mono (by omega), (((HON.out.set (Nat.le_refl _) _ _).set (Nat.le_refl _) _ _).set (Nat.le_refl _) _ _).set (Nat.le_refl _) _ _⟩
  | true =>
    have HR := HR6
    have HX := HX6
    obtain ⟨r0, r1, r2, r3⟩ := HR.out.cells
    obtain ⟨x0, x1, x2, x3⟩ := HX.out.cells
    have fr0 := HR.out.fz 0
    have fx0 := HX.out.fz 0
    have fr1 := HR.out.fz 1
    have fx1 := HX.out.fz 1
    have fr2 := HR.out.fz 2
    have fx2 := HX.out.fz 2
    have fr3 := HR.out.fz 3
    have fx3 := HX.out.fz 3
    have HR7 : Hid (Bx4 ((W6.setCell ⟨n5, 2, none⟩ (.int .i64 0)).setCell ⟨n5, 3, none⟩ (.string ⟨#[]⟩)) W.heap.size (.int .i64 0) (.int .i64 0) (.int .i64 0) (.string ⟨#[]⟩)) := (HR6.out.other (by show n5 ≠ _; omega) _).other (by show n5 ≠ _; omega) _
    have HX7 : Hid (Bx4 ((W6.setCell ⟨n5, 2, none⟩ (.int .i64 0)).setCell ⟨n5, 3, none⟩ (.string ⟨#[]⟩)) n5 (.int .i64 (1 + p1)) (.int .i64 p2) (.int .i64 0) (.string ⟨#[]⟩)) := (HX6.out.put2 _).put3 _
    have HON : Hid (Only c W ((W6.setCell ⟨n5, 2, none⟩ (.int .i64 0)).setCell ⟨n5, 3, none⟩ (.string ⟨#[]⟩))) := (HO6.out.set hn5 _ _).set hn5 _ _
    have HCU : Hid (Cur B w0 ((W6.setCell ⟨n5, 2, none⟩ (.int .i64 0)).setCell ⟨n5, 3, none⟩ (.string ⟨#[]⟩)) c a len cap (m + 10)) := (HU6.out.other (by omega) _).other (by omega) _
    clear HR HX HR6 HX6 HO6 HU6
    have HR := HR7
    have HX := HX7
    clear HR7 HX7
    go_wp2_with fail
    refine (one_any B w0 _ c a len cap (m + 10) 30 HD.out hl (by omega) HCU.out (by omega) (by omega)).mono ?_
    rintro e W7 ⟨b7, rfl, hc7, ho7⟩
    have HR7 : Hid (Bx4 W7 W.heap.size (.int .i64 0) (.int .i64 0) (.int .i64 0) (.string ⟨#[]⟩)) := HR.out.only ho7 (by omega)
    have HX7 : Hid (Bx4 W7 n5 (.int .i64 (1 + p1)) (.int .i64 p2) (.int .i64 0) (.string ⟨#[]⟩)) := HX.out.only ho7 (by omega)
    have HO7 : Hid (Only c W W7) := HON.out.trans ho7
    have HU7 : Hid (Cur B w0 W7 c a len cap (m + 12)) := hc7
    clear hc7 ho7 HR HX HON HCU r0 r1 r2 r3 x0 x1 x2 x3 fr0 fr1 fr2 fr3 fx0 fx1 fx2 fx3
    cases b7 with
    | false =>
      have HR := HR7
      have HX := HX7
      have HON := HO7
      have HCU := HU7
      clear HR7 HX7 HO7 HU7
      obtain ⟨r0, r1, r2, r3⟩ := HR.out.cells
      obtain ⟨x0, x1, x2, x3⟩ := HX.out.cells
      have fr0 := HR.out.fz 0
      have fx0 := HX.out.fz 0
      have fr1 := HR.out.fz 1
      have fx1 := HX.out.fz 1
      have fr2 := HR.out.fz 2
      have fx2 := HX.out.fz 2
      have fr3 := HR.out.fz 3
      have fx3 := HX.out.fz 3
      go_wp2
      refine bodyPost_ret (v := .agg #[.int .i64 (1 + p1), .int .i64 p2, .int .i64 0, .string ⟨#[]⟩]) (by simp [results, Try.results84, go_sem, r0, r1, r2, r3]) rfl ?_
      exact ⟨⟨(1 + p1), p2, 0, ⟨#[]⟩⟩, rfl, one_e, (((HCU.out.other (by omega) _).other (by omega) _).other (by omega) _).other (by omega) _ |>.mono (by omega), (((HON.out.set (Nat.le_refl _) _ _).set (Nat.le_refl _) _ _).set (Nat.le_refl _) _ _).set (Nat.le_refl _) _ _⟩
    | true =>
      have hcW7 : c < W7.heap.size := HU7.out.2.1
      have HCL : Hid (∀ j (hj : j < [(0 : Int), 1, 1001].length), (W7.alloc (.cells #[.int .i64 0, .int .i64 1, .int .i64 1001] 3)).cell? ⟨W7.heap.size, j, none⟩ = some (.int .i64 [(0 : Int), 1, 1001][j])) := cells_lit W7 3 [(0 : Int), 1, 1001]
      go_wp2_with fail
      refine (among_any B w0 _ c W7.heap.size [(0 : Int), 1, 1001] a len cap 3 (m + 12) HD.out hl (by omega) (curAlloc HU7.out _) (by simp) (by simp) (by simp) (by omega) HCL.out).mono ?_
      rintro e W8 ⟨g8, rfl, -, hc8, ho8⟩
      have hO8 : Only c W7 W8 := (onlyAlloc (Only.refl _ _) _).trans ho8
      have HR8 : Hid (Bx4 W8 W.heap.size (.int .i64 0) (.int .i64 0) (.int .i64 0) (.string ⟨#[]⟩)) := HR7.out.only hO8 (by omega)
      have HX8 : Hid (Bx4 W8 n5 (.int .i64 (1 + p1)) (.int .i64 p2) (.int .i64 0) (.string ⟨#[]⟩)) := HX7.out.only hO8 (by omega)
      have HO8 : Hid (Only c W W8) := HO7.out.trans hO8
      have HU8 : Hid (Cur B w0 W8 c a len cap (m + 14)) := hc8
      clear hc8 ho8 hO8 HR7 HX7 HO7 HU7 HCL hcW7
      go_wp2_with fail
      refine (seq_any B w0 _ c a len cap (m + 14) HD.out hl (by omega) HU8.out).mono ?_
      rintro e W9 ⟨g9, rfl, -, -, hc9, ho9⟩
      have hcW9 : c < W9.heap.size := hc9.2.1
      have HR9 : Hid (Bx4 W9 W.heap.size (.int .i64 0) (.int .i64 0) (.int .i64 0) (.string ⟨#[]⟩)) := HR8.out.only ho9 (by omega)
      have HX9 : Hid (Bx4 W9 n5 (.int .i64 (1 + p1)) (.int .i64 p2) (.int .i64 0) (.string ⟨#[]⟩)) := HX8.out.only ho9 (by omega)
      have HO9 : Hid (Only c W W9) := HO8.out.trans ho9
      have HU9 : Hid (Cur B w0 W9 c a len cap (m + 20)) := hc9
      have HCL : Hid (∀ j (hj : j < [(-1 : Int), 0, 20, 21].length), (W9.alloc (.cells #[.int .i64 (-1), .int .i64 0, .int .i64 20, .int .i64 21] 3)).cell? ⟨W9.heap.size, j, none⟩ = some (.int .i64 [(-1 : Int), 0, 20, 21][j])) := cells_lit W9 3 [(-1 : Int), 0, 20, 21]
      clear hc9 ho9 HR8 HX8 HO8 HU8
      go_wp2_with fail
      refine (among_any B w0 _ c W9.heap.size [(-1 : Int), 0, 20, 21] a len cap 4 (m + 20) HD.out hl (by omega) (curAlloc HU9.out _) (by simp) (by simp) (by simp) (by omega) HCL.out).mono ?_
      rintro e W10 ⟨g10, rfl, -, hc10, ho10⟩
      have hO10 : Only c W9 W10 := (onlyAlloc (Only.refl _ _) _).trans ho10
      have HR : Hid (Bx4 W10 W.heap.size (.int .i64 0) (.int .i64 0) (.int .i64 0) (.string ⟨#[]⟩)) := HR9.out.only hO10 (by omega)
      have HX : Hid (Bx4 W10 n5 (.int .i64 (1 + p1)) (.int .i64 p2) (.int .i64 0) (.string ⟨#[]⟩)) := HX9.out.only hO10 (by omega)
      have HON : Hid (Only c W ((((W10.setCell ⟨n5, 0, none⟩ (.int .i64 g8)).setCell ⟨n5, 1, none⟩ (.int .i64 g9)).setCell ⟨n5, 2, none⟩ (.int .i64 g10)).setCell ⟨n5, 3, none⟩ (.string ⟨#[116]⟩))) := ((((HO9.out.trans hO10).set hn5 _ _).set hn5 _ _).set hn5 _ _).set hn5 _ _
      have HCU : Hid (Cur B w0 ((((W10.setCell ⟨n5, 0, none⟩ (.int .i64 g8)).setCell ⟨n5, 1, none⟩ (.int .i64 g9)).setCell ⟨n5, 2, none⟩ (.int .i64 g10)).setCell ⟨n5, 3, none⟩ (.string ⟨#[116]⟩)) c a len cap (m + 22)) := (((hc10.other (by omega) _).other (by omega) _).other (by omega) _).other (by omega) _
      clear hc10 ho10 hO10 HR9 HX9 HO9 HU9 HCL hcW9
      obtain ⟨r0, r1, r2, r3⟩ := HR.out.cells
      obtain ⟨x0, x1, x2, x3⟩ := HX.out.cells
      have fr0 := HR.out.fz 0
      have fx0 := HX.out.fz 0
      have fr1 := HR.out.fz 1
      have fx1 := HX.out.fz 1
      have fr2 := HR.out.fz 2
      have fx2 := HX.out.fz 2
      have fr3 := HR.out.fz 3
      have fx3 := HX.out.fz 3
      go_wp2
      refine bodyPost_ret (v := .agg #[.int .i64 g8, .int .i64 g9, .int .i64 g10, .string ⟨#[116]⟩]) (by simp [results, Try.results84, go_sem, r0, r1, r2, r3]) rfl ?_
      exact ⟨⟨g8, g9, g10, ⟨#[116]⟩⟩, rfl, one_t, (((HCU.out.other (by omega) _).other (by omega) _).other (by omega) _).other (by omega) _ |>.mono (by omega), (((HON.out.set (Nat.le_refl _) _ _).set (Nat.le_refl _) _ _).set (Nat.le_refl _) _ _).set (Nat.le_refl _) _ _⟩
end Go.Proofs.Ythdcfeafkellcab
