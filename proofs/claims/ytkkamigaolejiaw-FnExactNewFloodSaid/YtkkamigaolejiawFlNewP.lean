/-
  'NewFlood' of the program.
-/
import Derived.Test.YtkkamigaolejiawFlNewI
namespace Go.Proofs.Ytkkamigaolejiaw
open Go.RowKit
set_option linter.unusedVariables false

def newOk (n : Int) (lks : List (List Int)) : Bool := decide (1 ≤ n ∧ n ≤ 6) && linksB n lks
/-- A flood in which nothing is known and nothing owed. -/
def newF (n : Nat) (lks : List (List Int)) : FD := ⟨lks, zerosL n n, zerosL (debtsL n lks).length n, []⟩
def newR (n : Int) (lks : List (List Int)) : FD := if newOk n lks = true then newF n.toNat lks else noF
theorem newR_yes (n : Nat) (lks : List (List Int)) (h : newOk (n : Int) lks = true) : newR (n : Int) lks = newF n lks := by unfold newR; rw [if_pos h]; rfl
theorem newR_no (n : Int) (lks : List (List Int)) (h : newOk n lks = false) : newR n lks = noF := by unfold newR; rw [h]; rfl

theorem bx4_res {W : World} {b : Nat} {x y z u : Value} (h : Bx4 W b x y z u) : W.cell? ⟨b, 0, none⟩ = some x ∧ W.cell? ⟨b, 1, none⟩ = some y ∧ W.cell? ⟨b, 2, none⟩ = some z ∧ W.cell? ⟨b, 3, none⟩ = some u := ⟨h.c0, h.c1, h.c2, h.c3⟩

set_option maxRecDepth 100000 in
set_option maxHeartbeats 4000000 in
theorem implNewF_any (W : World) (v : Value) (lks : List (List Int)) (n : Int) (h : ReadsSS W v lks) (hl : lks.length ≤ 1048576) (hin : ∀ j (hj : j < lks.length), lks[j].length ≤ 1048576) :
    Calls Try.prog 28 #[.int .i64 n, v] W fun e W' => ∃ x y z l, e = .returned (.tuple #[.agg #[x, y, z, l], .bool (newOk n lks)]) ∧ (∃ xs ys zs, OwnF W' W.heap.size x y z l xs ys zs (newR n lks)) ∧ Below W.heap.size W W' := by
  have HRD : Hid (∀ W1, Since W.heap.size W W1 → ReadsSS W1 v lks) := fun W1 hS => h.below hS.1
  have HS0 : Hid (Since W.heap.size W (W.alloc (.cells #[.slice none 0 0, .slice none 0 0, .slice none 0 0, .slice none 0 0] 51))) := (Since.start W).step ((Below.refl _ W).alloc (Nat.le_refl _) _)
  have HX0 : Hid (Bx4 (W.alloc (.cells #[.slice none 0 0, .slice none 0 0, .slice none 0 0, .slice none 0 0] 51)) W.heap.size (.slice none 0 0) (.slice none 0 0) (.slice none 0 0) (.slice none 0 0)) := Bx4.new _ _ _ _ _ _
  have hsz0 : W.heap.size + 1 ≤ (W.alloc (.cells #[.slice none 0 0, .slice none 0 0, .slice none 0 0, .slice none 0 0] 51)).heap.size := by simp
  have HIN : Hid (∀ j (hj : j < lks.length), lks[j].length ≤ 1048576) := hin
  obtain ⟨av, cv, rfl⟩ := h.shape
  clear h hin
  by_cases g1 : n < 1
  · have HO : Hid (newOk n lks = false) := by show _ = _; unfold newOk; rw [decide_eq_false (by omega)]; rfl
    rw [newR_no n lks HO.out, HO.out]
    go_enter Try.func28, Try.ntmps28
    go_wp2
    refine bodyPost_ret (v := .tuple #[.agg #[.slice none 0 0, .slice none 0 0, .slice none 0 0, .slice none 0 0], .bool false]) (by simp [results, Try.results28, go_sem]) rfl ⟨_, _, _, _, rfl, ⟨[], [], [], OwnF.nil _ _⟩, ?_⟩
    exact (Below.refl _ W).alloc (Nat.le_refl _) _
  by_cases g2 : 6 < n
  · have HO : Hid (newOk n lks = false) := by show _ = _; unfold newOk; rw [decide_eq_false (by omega)]; rfl
    rw [newR_no n lks HO.out, HO.out]
    go_enter Try.func28, Try.ntmps28
    go_wp2
    refine bodyPost_ret (v := .tuple #[.agg #[.slice none 0 0, .slice none 0 0, .slice none 0 0, .slice none 0 0], .bool false]) (by simp [results, Try.results28, go_sem]) rfl ⟨_, _, _, _, rfl, ⟨[], [], [], OwnF.nil _ _⟩, ?_⟩
    exact (Below.refl _ W).alloc (Nat.le_refl _) _
  have CL : Hid (Calls Try.prog 54 #[.int .i64 n, .slice av lks.length cv] (W.alloc (.cells #[.slice none 0 0, .slice none 0 0, .slice none 0 0, .slice none 0 0] 51)) fun e W' => e = .returned (.bool (linksB n lks)) ∧ Below (W.alloc (.cells #[.slice none 0 0, .slice none 0 0, .slice none 0 0, .slice none 0 0] 51)).heap.size (W.alloc (.cells #[.slice none 0 0, .slice none 0 0, .slice none 0 0, .slice none 0 0] 51)) W') := areLinks_any _ _ lks n (HRD.out _ HS0.out) (by omega) (fun j hj => by have := HIN.out j hj; omega)
  cases hlk : linksB n lks with
  | false =>
    have HO : Hid (newOk n lks = false) := by show _ = _; unfold newOk; rw [hlk]; simp
    rw [newR_no n lks HO.out, HO.out]
    rw [hlk] at CL
    go_enter Try.func28, Try.ntmps28
    go_wp2_with fail
    refine CL.out.mono ?_
    rintro e w1 ⟨rfl, hb1⟩
    have HS1 : Hid (Since W.heap.size W w1) := HS0.out.step hb1
    obtain ⟨-, x0, x1, x2, x3, xf⟩ := HX0.out.below hb1
    have xf0 := xf 0
    have xf1 := xf 1
    have xf2 := xf 2
    have xf3 := xf 3
    clear hb1 xf
    go_wp2
    refine bodyPost_ret (v := .tuple #[.agg #[.slice none 0 0, .slice none 0 0, .slice none 0 0, .slice none 0 0], .bool false]) (by simp [results, Try.results28, go_sem, x0, x1, x2, x3]) rfl ⟨_, _, _, _, rfl, ⟨[], [], [], OwnF.nil _ _⟩, ?_⟩
    exact (((HS1.out.1.setCell (Nat.le_refl _) _).setCell (Nat.le_refl _) _).setCell (Nat.le_refl _) _).setCell (Nat.le_refl _) _
  | true =>
    obtain ⟨m, rfl⟩ : ∃ m : Nat, n = (m : Int) := ⟨n.toNat, by omega⟩
    have HO : Hid (newOk (m : Int) lks = true) := by show _ = _; unfold newOk; rw [hlk, decide_eq_true (by omega)]; rfl
    rw [newR_yes m lks HO.out, HO.out]
    have h2 : ∀ j (hj : j < lks.length), lks[j].length = 2 := fun j hj => (linksB_mem hlk lks[j] (List.getElem_mem hj)).1
    have h15 := links15 hlk (by omega)
    rw [hlk] at CL
    have CD : Hid (∀ W1, Since W.heap.size W W1 → Calls Try.prog 56 #[.int .i64 (m : Int), .slice av lks.length cv] W1 fun e W' => ∃ v', e = .returned v' ∧ OwnDb W' W1.heap.size v' (debtsL m lks) ∧ Below W1.heap.size W1 W') := fun W1 hs => debtsOf_any W1 _ lks m (HRD.out _ hs) h2 (by omega) (by omega)
    have CC : Hid (∀ W1, Since W.heap.size W W1 → Calls Try.prog 57 #[.slice av lks.length cv] W1 fun e W' => ∃ v', e = .returned v' ∧ HasSS W' W1.heap.size v' lks ∧ Below W1.heap.size W1 W') := fun W1 hs => copyRows_any W1 _ lks (HRD.out _ hs) h2 h15
    have hd36 : (debtsL m lks).length ≤ 36 := Nat.le_trans (debtsTo_len m lks m) (by have : m * m ≤ 6 * 6 := Nat.mul_le_mul (by omega) (by omega); omega)
    have HE : Hid (newF m lks = ⟨lks, zerosL m m, zerosL (debtsL m lks).length m, []⟩) := rfl
    rw [HE.out]
    have hm6 : m ≤ 6 := by omega
    have e1 : ¬ (m : Int) < 1 := by omega
    have e2 : ¬ (6 : Int) < (m : Int) := by omega
    clear hlk h2 HRD HIN HO HE g1 g2
    generalize (debtsL m lks) = ds at *
    generalize hll : lks.length = ll at *
    clear hll
    go_enter Try.func28, Try.ntmps28
    go_wp2_with fail
    refine CL.out.mono ?_
    rintro e w1 ⟨rfl, hb1⟩
    have HS1 : Hid (Since W.heap.size W w1) := HS0.out.step hb1
    have HX1 : Hid (Bx4 w1 W.heap.size (.slice none 0 0) (.slice none 0 0) (.slice none 0 0) (.slice none 0 0)) := HX0.out.below hb1
    have hz1 : W.heap.size + 1 ≤ w1.heap.size := Nat.le_trans hsz0 hb1.size
    clear hb1 CL HS0 HX0 hsz0
    go_wp2_with fail
    refine (CD.out w1 HS1.out).mono ?_
    rintro e w2 ⟨v2, rfl, ho2, hb2⟩
    obtain ⟨a2, c2, hv2⟩ := ho2.shape
    subst hv2
    have HS2 : Hid (Since W.heap.size W w2) := HS1.out.step hb2
    have HX2 : Hid (Bx4 w2 W.heap.size (.slice none 0 0) (.slice none 0 0) (.slice none 0 0) (.slice none 0 0)) := HX1.out.below hb2
    have hz2 : W.heap.size + 1 ≤ w2.heap.size := Nat.le_trans hz1 hb2.size
    clear ho2 hb2 HS1 HX1 hz1
    go_wp2_with fail
    refine (noughtRows_any w2 ds.length m hd36 hm6).mono ?_
    rintro e w3 ⟨v3, rfl, ⟨zs, ho3⟩, hb3⟩
    obtain ⟨a3, c3, hv3⟩ := ho3.shape
    rw [zerosL_len] at hv3
    subst hv3
    have HS3 : Hid (Since W.heap.size W w3) := HS2.out.step hb3
    have HX3 : Hid (Bx4 w3 W.heap.size (.slice none 0 0) (.slice none 0 0) (.slice none 0 0) (.slice none 0 0)) := HX2.out.below hb3
    have HZ3 : Hid (OwnSS w3 (W.heap.size + 1) (.slice a3 ds.length c3) zs (zerosL ds.length m)) := ho3.mono hz2
    have hz3 : W.heap.size + 1 ≤ w3.heap.size := Nat.le_trans hz2 hb3.size
    clear ho3 hb3 HS2 HX2 hz2
    go_wp2_with fail
    refine (CC.out w3 HS3.out).mono ?_
    rintro e w4 ⟨v4, rfl, ⟨xs, ho4⟩, hb4⟩
    obtain ⟨a4, c4, hv4⟩ := ho4.shape
    subst hv4
    have HS4 : Hid (Since W.heap.size W w4) := HS3.out.step hb4
    have HX4 : Hid (Bx4 w4 W.heap.size (.slice none 0 0) (.slice none 0 0) (.slice none 0 0) (.slice none 0 0)) := HX3.out.below hb4
    have HZ4 : Hid (OwnSS w4 (W.heap.size + 1) (.slice a3 ds.length c3) zs (zerosL ds.length m)) := HZ3.out.below hb4
    have HL4 : Hid (OwnSS w4 (W.heap.size + 1) (.slice a4 lks.length c4) xs lks) := ho4.mono hz3
    have HA02 : Hid (ApartSS (.slice a4 lks.length c4) xs (.slice a3 ds.length c3) zs) := by
      have := apartSS_lt HZ3.out ho4 (Nat.le_refl _)
      exact ⟨fun b hb hb2 => this.1 b hb2 hb, fun b hb hb2 => this.2 b hb2 hb⟩
    have hz4 : W.heap.size + 1 ≤ w4.heap.size := Nat.le_trans hz3 hb4.size
    clear ho4 hb4 HS3 HX3 HZ3 hz3
    go_wp2_with fail
    refine (noughtRows_any w4 m m (by omega) hm6).mono ?_
    rintro e w5 ⟨v5, rfl, ⟨ys, ho5⟩, hb5⟩
    obtain ⟨a5, c5, hv5⟩ := ho5.shape
    rw [zerosL_len] at hv5
    subst hv5
    have HS5 : Hid (Since W.heap.size W w5) := HS4.out.step hb5
    have HFIN : Hid (OwnF w5 (W.heap.size + 1) (.slice a4 lks.length c4) (.slice a5 m c5) (.slice a3 ds.length c3) (.slice none 0 0) xs ys zs ⟨lks, zerosL m m, zerosL ds.length m, []⟩) :=
      ⟨HL4.out.below hb5, ho5.mono hz4, HZ4.out.below hb5, OwnLt.nil _ _, apartSS_lt HL4.out ho5 (Nat.le_refl _), HA02.out, by
        have := apartSS_lt HZ4.out ho5 (Nat.le_refl _)
        exact ⟨fun b hb hb2 => this.1 b hb2 hb, fun b hb hb2 => this.2 b hb2 hb⟩⟩
    obtain ⟨-, x0, x1, x2, x3, xf⟩ := HX4.out.below hb5
    have xf0 := xf 0
    have xf1 := xf 1
    have xf2 := xf 2
    have xf3 := xf 3
    clear ho5 hb5 HS4 HX4 HZ4 HL4 hz4 xf
    generalize lks.length = l9 at *
    go_wp2
    refine bodyPost_ret (v := .tuple #[.agg #[.slice a4 l9 c4, .slice a5 m c5, .slice a3 ds.length c3, .slice none 0 0], .bool true]) (by simp [results, Try.results28, go_sem, x0, x1, x2, x3]) rfl ⟨_, _, _, _, rfl, ⟨xs, ys, zs, ?_⟩, ?_⟩
    · exact ((((HFIN.out.setCell (by simp) _).setCell (by simp) _).setCell (by simp) _).setCell (by simp) _).mono (by omega)
    · exact (((HS5.out.1.setCell (Nat.le_refl _) _).setCell (Nat.le_refl _) _).setCell (Nat.le_refl _) _).setCell (Nat.le_refl _) _
end Go.Proofs.Ytkkamigaolejiaw
