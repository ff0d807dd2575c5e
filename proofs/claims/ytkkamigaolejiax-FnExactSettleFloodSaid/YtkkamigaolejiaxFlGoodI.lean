/-
  'isGoodLetter', 'GoodFlood' of the program.
-/
import Derived.Test.YtkkamigaolejiaxFlGoodA
import Derived.Test.YtkkamigaolejiaxFlRead
import Derived.Test.YtkkamigaolejiaxHand
namespace Go.Proofs.Ytkkamigaolejiax
open Go.RowKit
set_option linter.unusedVariables false

set_option maxRecDepth 100000 in
set_option maxHeartbeats 2000000 in
theorem isGoodLetter_any (W : World) (x : LtD) (v : Value) (lks : List (List Int)) (n : Int) (h : ReadsSS W v lks) (h2 : ∀ j (hj : j < lks.length), lks[j].length = 2) (hl : lks.length ≤ 4194304) :
    Calls Try.prog 60 #[.agg #[.int .i64 x.tt, .int .i64 x.bb, .int .i64 x.fr, .int .i64 x.sq, .bool x.ak], .int .i64 n, v] W fun e W' => e = .returned (.bool (goodLt n lks x)) ∧ Below W.heap.size W W' := by
  have HB : Hid (Below W.heap.size W (W.alloc (.cells #[.int .i64 x.tt, .int .i64 x.bb, .int .i64 x.fr, .int .i64 x.sq, .bool x.ak] 66))) := (Below.refl _ W).alloc (Nat.le_refl _) _
  have CJ : Hid (Calls Try.prog 77 #[v, .int .i64 x.tt, .int .i64 x.bb] (W.alloc (.cells #[.int .i64 x.tt, .int .i64 x.bb, .int .i64 x.fr, .int .i64 x.sq, .bool x.ak] 66)) fun e W' => e = .returned (.bool (joinedB lks x.tt x.bb)) ∧ W' = W.alloc (.cells #[.int .i64 x.tt, .int .i64 x.bb, .int .i64 x.fr, .int .i64 x.sq, .bool x.ak] 66)) := areJoined_any _ v lks x.tt x.bb (h.below HB.out) h2 hl
  have CI : Hid (∀ w, Calls Try.prog 61 #[.int .i64 x.fr, .int .i64 n] w fun e W' => e = .returned (.bool (decide (0 ≤ x.fr ∧ x.fr < n))) ∧ W' = w) := fun w => isNode_any w x.fr n
  have HG : Hid (goodLt n lks x = (joinedB lks x.tt x.bb && (decide (0 ≤ x.fr ∧ x.fr < n) && decide (1 ≤ x.sq ∧ x.sq ≤ 60)))) := rfl
  rw [HG.out]
  obtain ⟨av, cv, rfl⟩ := h.shape
  clear h h2 HG
  generalize lks.length = ll at *
  cases hj : joinedB lks x.tt x.bb with
  | false =>
    rw [hj] at CJ
    go_enter Try.func60, Try.ntmps60
    go_wp2_with fail
    refine CJ.out.mono ?_
    rintro e w1 ⟨rfl, rfl⟩
    go_wp2
    go_ret
    exact ⟨rfl, HB.out⟩
  | true =>
    rw [hj] at CJ
    rw [Bool.true_and]
    by_cases b0 : 0 ≤ x.fr ∧ x.fr < n
    · rw [decide_eq_true b0] at CI
      rw [decide_eq_true b0, Bool.true_and]
      by_cases b1 : 1 ≤ x.sq
      · have d1 : decide (1 ≤ x.sq) = true := decide_eq_true b1
        by_cases b2 : x.sq ≤ 60
        · have d2 : decide (x.sq ≤ 60) = true := decide_eq_true b2
          rw [decide_eq_true ⟨b1, b2⟩]
          clear b0 b1 b2 hj
          go_enter Try.func60, Try.ntmps60
          go_wp2_with fail
          refine CJ.out.mono ?_
          rintro e w1 ⟨rfl, rfl⟩
          go_wp2_with fail
          refine (CI.out _).mono ?_
          rintro e w1 ⟨rfl, rfl⟩
          go_wp2
          go_ret
          exact ⟨rfl, HB.out⟩
        · have d2 : decide (x.sq ≤ 60) = false := decide_eq_false b2
          rw [decide_eq_false (fun h => b2 h.2)]
          clear b0 b1 b2 hj
          go_enter Try.func60, Try.ntmps60
          go_wp2_with fail
          refine CJ.out.mono ?_
          rintro e w1 ⟨rfl, rfl⟩
          go_wp2_with fail
          refine (CI.out _).mono ?_
          rintro e w1 ⟨rfl, rfl⟩
          go_wp2
          go_ret
          exact ⟨rfl, HB.out⟩
      · have d1 : decide (1 ≤ x.sq) = false := decide_eq_false b1
        rw [decide_eq_false (fun h => b1 h.1)]
        clear b0 b1 hj
        go_enter Try.func60, Try.ntmps60
        go_wp2_with fail
        refine CJ.out.mono ?_
        rintro e w1 ⟨rfl, rfl⟩
        go_wp2_with fail
        refine (CI.out _).mono ?_
        rintro e w1 ⟨rfl, rfl⟩
        go_wp2
        go_ret
        exact ⟨rfl, HB.out⟩
    · rw [decide_eq_false b0] at CI
      rw [decide_eq_false b0, Bool.false_and]
      clear b0 hj
      go_enter Try.func60, Try.ntmps60
      go_wp2_with fail
      refine CJ.out.mono ?_
      rintro e w1 ⟨rfl, rfl⟩
      go_wp2_with fail
      refine (CI.out _).mono ?_
      rintro e w1 ⟨rfl, rfl⟩
      go_wp2
      go_ret
      exact ⟨rfl, HB.out⟩

set_option maxRecDepth 100000 in
set_option maxHeartbeats 4000000 in
theorem implGoodF_any (W : World) (x y z l : Value) (f : FD) (h : ReadsF W x y z l f) (hf : FitF f) :
    Calls Try.prog 28 #[.agg #[x, y, z, l]] W fun e W' => e = .returned (.bool (goodF f)) ∧ Below W.heap.size W W' := by
  have HR : Hid (∀ W1, Below W.heap.size W W1 → ReadsF W1 x y z l f) := fun W1 hb => h.below hb
  have HF : Hid (FitF f) := hf
  obtain ⟨a0, c0, rfl⟩ := h.lk.shape
  obtain ⟨a1, c1, rfl⟩ := h.kn.shape
  obtain ⟨a2, c2, rfl⟩ := h.ow.shape
  obtain ⟨a3, c3, rfl⟩ := h.ln.shape
  have HLN : Hid (ReadsLt W (.slice a3 f.ln.length c3) f.ln) := h.ln
  have HG : Hid (goodF f = (headB f.kn.length f && ((rowsB f.kn f.kn.length f.kn.length 60 && rowsB f.ow (debtsL f.kn.length f.lk).length f.kn.length 1) && f.ln.all (goodLt f.kn.length f.lk)))) := rfl
  have HHB : Hid (headB f.kn.length f = (decide (1 ≤ (f.kn.length : Int) ∧ (f.kn.length : Int) ≤ 6) && (linksB f.kn.length f.lk && decide (f.ln.length ≤ 40)))) := rfl
  have HB : Hid (Since W.heap.size W (W.alloc (.cells #[.slice a0 f.lk.length c0, .slice a1 f.kn.length c1, .slice a2 f.ow.length c2, .slice a3 f.ln.length c3] 31))) := (Since.start W).step ((Below.refl _ W).alloc (Nat.le_refl _) _)
  have HX0 : Hid (∀ w', Since (W.alloc (.cells #[.slice a0 f.lk.length c0, .slice a1 f.kn.length c1, .slice a2 f.ow.length c2, .slice a3 f.ln.length c3] 31)).heap.size (W.alloc (.cells #[.slice a0 f.lk.length c0, .slice a1 f.kn.length c1, .slice a2 f.ow.length c2, .slice a3 f.ln.length c3] 31)) w' → Bx4 w' W.heap.size (.slice a0 f.lk.length c0) (.slice a1 f.kn.length c1) (.slice a2 f.ow.length c2) (.slice a3 f.ln.length c3)) := fun w' hs => (Bx4.new W (.slice a0 f.lk.length c0) (.slice a1 f.kn.length c1) (.slice a2 f.ow.length c2) (.slice a3 f.ln.length c3) 31).below hs.1
  have HC1 : Hid (∀ w', Since W.heap.size W w' → Calls Try.prog 57 #[.int .i64 (f.kn.length : Int), .slice a0 f.lk.length c0] w' fun e W' => e = .returned (.bool (linksB f.kn.length f.lk)) ∧ Below w'.heap.size w' W') := fun w' hs => areLinks_any w' _ f.lk f.kn.length (HR.out _ hs.1).lk (by have := HF.out.lk; omega) (fun j hj => by have := HF.out.lki j hj; omega)
  have m1 := hf.lk
  have m2 := hf.kn
  have m3 := hf.ow
  have m4 := hf.ln
  clear h hf
  by_cases g1 : f.kn.length < 1
  · have HFL : Hid (goodF f = false) := by show _ = _; rw [HG.out, HHB.out, decide_eq_false (by omega)]; rfl
    generalize goodF f = res at *
    generalize f.lk.length = k0 at *
    generalize f.kn.length = n at *
    generalize f.ow.length = k2 at *
    generalize f.ln.length = k3 at *
    have e1 : (n : Int) < 1 := by omega
    clear HG HHB HR
    go_enter Try.func28, Try.ntmps28
    go_wp2
    go_ret
    exact ⟨ret_bool HFL.out.symm, HB.out.1⟩
  by_cases g2 : 6 < f.kn.length
  · have HFL : Hid (goodF f = false) := by show _ = _; rw [HG.out, HHB.out, decide_eq_false (by omega)]; rfl
    generalize goodF f = res at *
    generalize f.lk.length = k0 at *
    generalize f.kn.length = n at *
    generalize f.ow.length = k2 at *
    generalize f.ln.length = k3 at *
    have e1 : ¬ (n : Int) < 1 := by omega
    have e2 : (6 : Int) < (n : Int) := by omega
    clear HG HHB HR
    go_enter Try.func28, Try.ntmps28
    go_wp2
    go_ret
    exact ⟨ret_bool HFL.out.symm, HB.out.1⟩
  have e1 : ¬ (f.kn.length : Int) < 1 := by omega
  have e2 : ¬ (6 : Int) < (f.kn.length : Int) := by omega
  cases hlk : linksB (f.kn.length : Int) f.lk with
  | false =>
    have HFL : Hid (goodF f = false) := by show _ = _; rw [HG.out, HHB.out, hlk]; simp
    rw [hlk] at HC1
    generalize goodF f = res at *
    generalize f.lk.length = k0 at *
    generalize f.kn.length = n at *
    generalize f.ow.length = k2 at *
    generalize f.ln.length = k3 at *
    clear HG HHB HR hlk
    go_enter Try.func28, Try.ntmps28
    go_wp2_with fail
    refine (HC1.out _ HB.out).mono ?_
    rintro e w1 ⟨rfl, hb1⟩
    have HS1 : Hid (Since W.heap.size W w1) := HB.out.step hb1
    clear hb1
    go_wp2
    go_ret
    exact ⟨ret_bool HFL.out.symm, HS1.out.1⟩
  | true =>
    by_cases g4 : f.ln.length ≤ 40
    · have HG2 : Hid (goodF f = ((rowsB f.kn f.kn.length f.kn.length 60 && rowsB f.ow (debtsL f.kn.length f.lk).length f.kn.length 1) && f.ln.all (goodLt f.kn.length f.lk))) := by show _ = _; rw [HG.out, HHB.out, hlk, decide_eq_true (by omega), decide_eq_true g4]; rfl
      have H2 : Hid (∀ j (hj : j < f.lk.length), f.lk[j].length = 2) := fun j hj => (linksB_mem hlk f.lk[j] (List.getElem_mem hj)).1
      rw [hlk] at HC1
      have HCR1 : Hid (∀ w', Since W.heap.size W w' → Calls Try.prog 58 #[.slice a1 f.kn.length c1, .int .i64 (f.kn.length : Int), .int .i64 (f.kn.length : Int), .int .i64 60] w' fun e W' => e = .returned (.bool (rowsB f.kn f.kn.length f.kn.length 60)) ∧ W' = w') := fun w' hs => areRows_any w' _ f.kn _ _ _ (HR.out _ hs.1).kn (by have := HF.out.kn; omega) (fun j hj => by have := HF.out.kni j hj; omega)
      have HCR2 : Hid (∀ w', Since W.heap.size W w' → Calls Try.prog 58 #[.slice a2 f.ow.length c2, .int .i64 ((debtsL f.kn.length f.lk).length : Int), .int .i64 (f.kn.length : Int), .int .i64 1] w' fun e W' => e = .returned (.bool (rowsB f.ow (debtsL f.kn.length f.lk).length f.kn.length 1)) ∧ W' = w') := fun w' hs => areRows_any w' _ f.ow _ _ _ (HR.out _ hs.1).ow (by have := HF.out.ow; omega) (fun j hj => by have := HF.out.owi j hj; omega)
      have HCD : Hid (∀ w', Since W.heap.size W w' → Calls Try.prog 59 #[.int .i64 (f.kn.length : Int), .slice a0 f.lk.length c0] w' fun e W' => ∃ v', e = .returned v' ∧ OwnDb W' w'.heap.size v' (debtsL f.kn.length f.lk) ∧ Below w'.heap.size w' W') := fun w' hs => debtsOf_any w' _ f.lk f.kn.length (HR.out _ hs.1).lk H2.out (by have := HF.out.lk; omega) (by omega)
      have HCL : Hid (∀ w' x, Since W.heap.size W w' → Calls Try.prog 60 #[.agg #[.int .i64 x.tt, .int .i64 x.bb, .int .i64 x.fr, .int .i64 x.sq, .bool x.ak], .int .i64 (f.kn.length : Int), .slice a0 f.lk.length c0] w' fun e W' => e = .returned (.bool (goodLt f.kn.length f.lk x)) ∧ Below w'.heap.size w' W') := fun w' x hs => isGoodLetter_any w' x _ f.lk f.kn.length (HR.out _ hs.1).lk H2.out (by have := HF.out.lk; omega)
      clear HG HHB HR hlk H2 HF
      generalize goodF f = res at *
      generalize hr1 : rowsB f.kn f.kn.length f.kn.length 60 = r1 at *
      generalize hr2 : rowsB f.ow (debtsL f.kn.length f.lk).length f.kn.length 1 = r2 at *
      clear hr1 hr2
      have e4 : ¬ (40 : Int) < (f.ln.length : Int) := by omega
      generalize f.lk.length = k0 at *
      generalize f.kn.length = n at *
      generalize f.ow.length = k2 at *
      generalize hk3 : f.ln.length = k3 at *
      have HK3 : Hid (f.ln.length = k3) := hk3
      clear hk3
      go_enter Try.func28, Try.ntmps28
      go_wp2_with fail
      refine (HC1.out _ HB.out).mono ?_
      rintro e w1 ⟨rfl, hb1⟩
      have HS1 : Hid (Since W.heap.size W w1) := HB.out.step hb1
      have HX1 : Hid (∀ w', Since w1.heap.size w1 w' → Bx4 w' W.heap.size (.slice a0 k0 c0) (.slice a1 n c1) (.slice a2 k2 c2) (.slice a3 k3 c3)) := fun w' hs => HX0.out w' (((Since.start _).step hb1).tran hs)
      have CR1 : Hid (∀ w', Since w1.heap.size w1 w' → Calls Try.prog 58 #[.slice a1 n c1, .int .i64 (n : Int), .int .i64 (n : Int), .int .i64 60] w' fun e W' => e = .returned (.bool r1) ∧ W' = w') := fun w' hs => HCR1.out w' (HS1.out.tran hs)
      have CR2 : Hid (∀ w', Since w1.heap.size w1 w' → Calls Try.prog 58 #[.slice a2 k2 c2, .int .i64 ((debtsL n f.lk).length : Int), .int .i64 (n : Int), .int .i64 1] w' fun e W' => e = .returned (.bool r2) ∧ W' = w') := fun w' hs => HCR2.out w' (HS1.out.tran hs)
      have CD : Hid (∀ w', Since w1.heap.size w1 w' → Calls Try.prog 59 #[.int .i64 (n : Int), .slice a0 k0 c0] w' fun e W' => ∃ v', e = .returned v' ∧ OwnDb W' w'.heap.size v' (debtsL n f.lk) ∧ Below w'.heap.size w' W') := fun w' hs => HCD.out w' (HS1.out.tran hs)
      obtain ⟨-, x0, x1, x2, x3, -⟩ := HX1.out w1 (Since.start w1)
      clear hb1 HX0 HCR1 HCR2 HCD HC1 HB
      have SA0 := Since.start w1
      cases r1 with
      | false =>
        have HFL : Hid (res = false) := HG2.out
        go_wp2
        generalize hHW : W.heap.size = H at *
        have HH : Hid (W.heap.size = H) := hHW
        clear hHW
        refine wp_region_held_drew (S := (fun w' => w'.cell? ⟨H, 0, none⟩ = some (.slice a0 k0 c0) ∧ w'.cell? ⟨H, 1, none⟩ = some (.slice a1 n c1) ∧ w'.cell? ⟨H, 2, none⟩ = some (.slice a2 k2 c2) ∧ w'.cell? ⟨H, 3, none⟩ = some (.slice a3 k3 c3))) (by kernel_rfl) ?_ (fun hHeld => ?_)
        · exact (HX1.out _ SA0.drew).cells
        refine handRead 0 (some 28) (.pointer (some ⟨H, 1, none⟩)) rfl rfl (by kernel_rfl) (by kernel_rfl) (by kernel_rfl) (fun _ _ _ h => h) (by kernel_rfl) (by assumption) ?_ ?_
        · intro w hSw
          (try dsimp only at hSw)
          go_simp
        simp only [Act.put, List.setIfInBounds_toArray, List.set_cons_zero, List.set_cons_succ]
        refine handRead 1 (some 29) (.slice a1 n c1) rfl rfl (by kernel_rfl) (by kernel_rfl) (by kernel_rfl) (fun _ _ _ h => h) (by kernel_rfl) (by assumption) ?_ ?_
        · intro w hSw
          (try dsimp only at hSw)
          go_simp
        simp only [Act.put, List.setIfInBounds_toArray, List.set_cons_zero, List.set_cons_succ]
        refine handRead 2 (some 30) (.int .i64 (n : Int)) rfl rfl (by kernel_rfl) (by kernel_rfl) (by kernel_rfl) (fun _ _ _ h => h) (by kernel_rfl) (by assumption) ?_ ?_
        · intro w hSw
          (try dsimp only at hSw)
          go_simp
        simp only [Act.put, List.setIfInBounds_toArray, List.set_cons_zero, List.set_cons_succ]
        refine handRead 3 (some 31) (.int .i64 (n : Int)) rfl rfl (by kernel_rfl) (by kernel_rfl) (by kernel_rfl) (fun _ _ _ h => h) (by kernel_rfl) (by assumption) ?_ ?_
        · intro w hSw
          (try dsimp only at hSw)
          go_simp
        simp only [Act.put, List.setIfInBounds_toArray, List.set_cons_zero, List.set_cons_succ]
        refine handCall 4 (some 32) 58 #[.slice a1 n c1, .int .i64 (n : Int), .int .i64 (n : Int), .int .i64 60] (by kernel_rfl) rfl rfl (by kernel_rfl) (by simp [go_sem]) ((CR1.out _ SA0.drew).mono ?_)
        rintro e w2 ⟨rfl, rfl⟩
        clear hHeld
        refine ⟨_, rfl, (by exact (HX1.out _ SA0.drew).cells), fun hHeld => ?_⟩
        simp only [Act.put, List.setIfInBounds_toArray, List.set_cons_zero, List.set_cons_succ]
        refine handRead 5 (some 33) (.bool true) rfl rfl (by kernel_rfl) (by kernel_rfl) (by kernel_rfl) (fun _ _ _ h => h) (by kernel_rfl) (by assumption) ?_ ?_
        · intro w hSw
          (try dsimp only at hSw)
          go_simp
        simp only [Act.put, List.setIfInBounds_toArray, List.set_cons_zero, List.set_cons_succ]
        refine handRead 6 (some 34) (.bool true) rfl rfl (by kernel_rfl) (by kernel_rfl) (by kernel_rfl) (fun _ _ _ h => h) (by kernel_rfl) (by assumption) ?_ ?_
        · intro w hSw
          (try dsimp only at hSw)
          go_simp
        simp only [Act.put, List.setIfInBounds_toArray, List.set_cons_zero, List.set_cons_succ]
        refine handSkip 7 (some 35) rfl rfl (by kernel_rfl) (by kernel_rfl) (by kernel_rfl) (fun _ _ _ h => h) (by kernel_rfl) (by assumption) ?_
        simp only [Act.put, List.setIfInBounds_toArray, List.set_cons_zero, List.set_cons_succ]
        refine handSkip 8 (some 36) rfl rfl (by kernel_rfl) (by kernel_rfl) (by kernel_rfl) (fun _ _ _ h => h) (by kernel_rfl) (by assumption) ?_
        simp only [Act.put, List.setIfInBounds_toArray, List.set_cons_zero, List.set_cons_succ]
        refine handSkip 9 (some 37) rfl rfl (by kernel_rfl) (by kernel_rfl) (by kernel_rfl) (fun _ _ _ h => h) (by kernel_rfl) (by assumption) ?_
        simp only [Act.put, List.setIfInBounds_toArray, List.set_cons_zero, List.set_cons_succ]
        refine handSkip 10 (some 38) rfl rfl (by kernel_rfl) (by kernel_rfl) (by kernel_rfl) (fun _ _ _ h => h) (by kernel_rfl) (by assumption) ?_
        simp only [Act.put, List.setIfInBounds_toArray, List.set_cons_zero, List.set_cons_succ]
        refine handSkip 11 (some 39) rfl rfl (by kernel_rfl) (by kernel_rfl) (by kernel_rfl) (fun _ _ _ h => h) (by kernel_rfl) (by assumption) ?_
        simp only [Act.put, List.setIfInBounds_toArray, List.set_cons_zero, List.set_cons_succ]
        refine handSkip 12 (some 40) rfl rfl (by kernel_rfl) (by kernel_rfl) (by kernel_rfl) (fun _ _ _ h => h) (by kernel_rfl) (by assumption) ?_
        simp only [Act.put, List.setIfInBounds_toArray, List.set_cons_zero, List.set_cons_succ]
        refine handSkip 13 (some 41) rfl rfl (by kernel_rfl) (by kernel_rfl) (by kernel_rfl) (fun _ _ _ h => h) (by kernel_rfl) (by assumption) ?_
        simp only [Act.put, List.setIfInBounds_toArray, List.set_cons_zero, List.set_cons_succ]
        refine handSkip 14 (some 42) rfl rfl (by kernel_rfl) (by kernel_rfl) (by kernel_rfl) (fun _ _ _ h => h) (by kernel_rfl) (by assumption) ?_
        simp only [Act.put, List.setIfInBounds_toArray, List.set_cons_zero, List.set_cons_succ]
        refine handSkip 15 (some 43) rfl rfl (by kernel_rfl) (by kernel_rfl) (by kernel_rfl) (fun _ _ _ h => h) (by kernel_rfl) (by assumption) ?_
        simp only [Act.put, List.setIfInBounds_toArray, List.set_cons_zero, List.set_cons_succ]
        refine handSkip 16 (some 44) rfl rfl (by kernel_rfl) (by kernel_rfl) (by kernel_rfl) (fun _ _ _ h => h) (by kernel_rfl) (by assumption) ?_
        simp only [Act.put, List.setIfInBounds_toArray, List.set_cons_zero, List.set_cons_succ]
        refine handRead 17 (some 45) (.bool true) rfl rfl (by kernel_rfl) (by kernel_rfl) (by kernel_rfl) (fun _ _ _ h => h) (by kernel_rfl) (by assumption) ?_ ?_
        · intro w hSw
          (try dsimp only at hSw)
          go_simp
        simp only [Act.put, List.setIfInBounds_toArray, List.set_cons_zero, List.set_cons_succ]
        refine wpAnyH_done (by kernel_rfl) ?_ _
        go_wp2
        go_ret
        rw [HH.out]
        exact ⟨ret_bool HFL.out.symm, (HS1.out.tran SA0.drew).1⟩
      | true =>
        rw [Bool.true_and] at HG2
        cases r2 with
        | false =>
          have HFL : Hid (res = false) := HG2.out
          go_wp2
          generalize hHW : W.heap.size = H at *
          have HH : Hid (W.heap.size = H) := hHW
          clear hHW
          refine wp_region_held_drew (S := (fun w' => w'.cell? ⟨H, 0, none⟩ = some (.slice a0 k0 c0) ∧ w'.cell? ⟨H, 1, none⟩ = some (.slice a1 n c1) ∧ w'.cell? ⟨H, 2, none⟩ = some (.slice a2 k2 c2) ∧ w'.cell? ⟨H, 3, none⟩ = some (.slice a3 k3 c3))) (by kernel_rfl) ?_ (fun hHeld => ?_)
          · exact (HX1.out _ SA0.drew).cells
          refine handRead 0 (some 28) (.pointer (some ⟨H, 1, none⟩)) rfl rfl (by kernel_rfl) (by kernel_rfl) (by kernel_rfl) (fun _ _ _ h => h) (by kernel_rfl) (by assumption) ?_ ?_
          · intro w hSw
            (try dsimp only at hSw)
            go_simp
          simp only [Act.put, List.setIfInBounds_toArray, List.set_cons_zero, List.set_cons_succ]
          refine handRead 1 (some 29) (.slice a1 n c1) rfl rfl (by kernel_rfl) (by kernel_rfl) (by kernel_rfl) (fun _ _ _ h => h) (by kernel_rfl) (by assumption) ?_ ?_
          · intro w hSw
            (try dsimp only at hSw)
            go_simp
          simp only [Act.put, List.setIfInBounds_toArray, List.set_cons_zero, List.set_cons_succ]
          refine handRead 2 (some 30) (.int .i64 (n : Int)) rfl rfl (by kernel_rfl) (by kernel_rfl) (by kernel_rfl) (fun _ _ _ h => h) (by kernel_rfl) (by assumption) ?_ ?_
          · intro w hSw
            (try dsimp only at hSw)
            go_simp
          simp only [Act.put, List.setIfInBounds_toArray, List.set_cons_zero, List.set_cons_succ]
          refine handRead 3 (some 31) (.int .i64 (n : Int)) rfl rfl (by kernel_rfl) (by kernel_rfl) (by kernel_rfl) (fun _ _ _ h => h) (by kernel_rfl) (by assumption) ?_ ?_
          · intro w hSw
            (try dsimp only at hSw)
            go_simp
          simp only [Act.put, List.setIfInBounds_toArray, List.set_cons_zero, List.set_cons_succ]
          refine handCall 4 (some 32) 58 #[.slice a1 n c1, .int .i64 (n : Int), .int .i64 (n : Int), .int .i64 60] (by kernel_rfl) rfl rfl (by kernel_rfl) (by simp [go_sem]) ((CR1.out _ SA0.drew).mono ?_)
          rintro e w2 ⟨rfl, rfl⟩
          clear hHeld
          refine ⟨_, rfl, (by exact (HX1.out _ SA0.drew).cells), fun hHeld => ?_⟩
          simp only [Act.put, List.setIfInBounds_toArray, List.set_cons_zero, List.set_cons_succ]
          refine handRead 5 (some 33) (.bool false) rfl rfl (by kernel_rfl) (by kernel_rfl) (by kernel_rfl) (fun _ _ _ h => h) (by kernel_rfl) (by assumption) ?_ ?_
          · intro w hSw
            (try dsimp only at hSw)
            go_simp
          simp only [Act.put, List.setIfInBounds_toArray, List.set_cons_zero, List.set_cons_succ]
          refine handRead 6 (some 34) (.bool false) rfl rfl (by kernel_rfl) (by kernel_rfl) (by kernel_rfl) (fun _ _ _ h => h) (by kernel_rfl) (by assumption) ?_ ?_
          · intro w hSw
            (try dsimp only at hSw)
            go_simp
          simp only [Act.put, List.setIfInBounds_toArray, List.set_cons_zero, List.set_cons_succ]
          refine handRead 7 (some 35) (.pointer (some ⟨H, 2, none⟩)) rfl rfl (by kernel_rfl) (by kernel_rfl) (by kernel_rfl) (fun _ _ _ h => h) (by kernel_rfl) (by assumption) ?_ ?_
          · intro w hSw
            (try dsimp only at hSw)
            go_simp
          simp only [Act.put, List.setIfInBounds_toArray, List.set_cons_zero, List.set_cons_succ]
          refine handRead 8 (some 36) (.slice a2 k2 c2) rfl rfl (by kernel_rfl) (by kernel_rfl) (by kernel_rfl) (fun _ _ _ h => h) (by kernel_rfl) (by assumption) ?_ ?_
          · intro w hSw
            (try dsimp only at hSw)
            go_simp
          simp only [Act.put, List.setIfInBounds_toArray, List.set_cons_zero, List.set_cons_succ]
          refine handRead 9 (some 37) (.int .i64 (n : Int)) rfl rfl (by kernel_rfl) (by kernel_rfl) (by kernel_rfl) (fun _ _ _ h => h) (by kernel_rfl) (by assumption) ?_ ?_
          · intro w hSw
            (try dsimp only at hSw)
            go_simp
          simp only [Act.put, List.setIfInBounds_toArray, List.set_cons_zero, List.set_cons_succ]
          refine handRead 10 (some 38) (.pointer (some ⟨H, 0, none⟩)) rfl rfl (by kernel_rfl) (by kernel_rfl) (by kernel_rfl) (fun _ _ _ h => h) (by kernel_rfl) (by assumption) ?_ ?_
          · intro w hSw
            (try dsimp only at hSw)
            go_simp
          simp only [Act.put, List.setIfInBounds_toArray, List.set_cons_zero, List.set_cons_succ]
          refine handRead 11 (some 39) (.slice a0 k0 c0) rfl rfl (by kernel_rfl) (by kernel_rfl) (by kernel_rfl) (fun _ _ _ h => h) (by kernel_rfl) (by assumption) ?_ ?_
          · intro w hSw
            (try dsimp only at hSw)
            go_simp
          simp only [Act.put, List.setIfInBounds_toArray, List.set_cons_zero, List.set_cons_succ]
          refine handRead 14 (some 42) (.int .i64 (n : Int)) rfl rfl (by kernel_rfl) (by kernel_rfl) (by kernel_rfl) (fun _ _ _ h => h) (by kernel_rfl) (by assumption) ?_ ?_
          · intro w hSw
            (try dsimp only at hSw)
            go_simp
          simp only [Act.put, List.setIfInBounds_toArray, List.set_cons_zero, List.set_cons_succ]
          refine handCall 12 (some 40) 59 #[.int .i64 (n : Int), .slice a0 k0 c0] (by kernel_rfl) rfl rfl (by kernel_rfl) (by simp [go_sem]) ((CD.out _ SA0.drew).mono ?_)
          rintro e w3 ⟨v3, rfl, ho3, hb3⟩
          obtain ⟨ad, cd, hd⟩ := ho3.shape
          subst hd
          have SA1 := SA0.drew.step hb3
          clear hHeld ho3 hb3
          generalize hdl : (debtsL n f.lk).length = dl at *
          refine ⟨_, rfl, (by exact (HX1.out _ SA1).cells), fun hHeld => ?_⟩
          simp only [Act.put, List.setIfInBounds_toArray, List.set_cons_zero, List.set_cons_succ]
          refine handRead 13 (some 41) (.int .i64 (dl : Int)) rfl rfl (by kernel_rfl) (by kernel_rfl) (by kernel_rfl) (fun _ _ _ h => h) (by kernel_rfl) (by assumption) ?_ ?_
          · intro w hSw
            (try dsimp only at hSw)
            go_simp
          simp only [Act.put, List.setIfInBounds_toArray, List.set_cons_zero, List.set_cons_succ]
          refine handCall 15 (some 43) 58 #[.slice a2 k2 c2, .int .i64 (dl : Int), .int .i64 (n : Int), .int .i64 1] (by kernel_rfl) rfl rfl (by kernel_rfl) (by simp [go_sem]) ((CR2.out _ SA1).mono ?_)
          rintro e w4 ⟨rfl, rfl⟩
          clear hHeld
          refine ⟨_, rfl, (by exact (HX1.out _ SA1).cells), fun hHeld => ?_⟩
          simp only [Act.put, List.setIfInBounds_toArray, List.set_cons_zero, List.set_cons_succ]
          refine handRead 16 (some 44) (.bool true) rfl rfl (by kernel_rfl) (by kernel_rfl) (by kernel_rfl) (fun _ _ _ h => h) (by kernel_rfl) (by assumption) ?_ ?_
          · intro w hSw
            (try dsimp only at hSw)
            go_simp
          simp only [Act.put, List.setIfInBounds_toArray, List.set_cons_zero, List.set_cons_succ]
          refine handRead 17 (some 45) (.bool true) rfl rfl (by kernel_rfl) (by kernel_rfl) (by kernel_rfl) (fun _ _ _ h => h) (by kernel_rfl) (by assumption) ?_ ?_
          · intro w hSw
            (try dsimp only at hSw)
            go_simp
          simp only [Act.put, List.setIfInBounds_toArray, List.set_cons_zero, List.set_cons_succ]
          refine wpAnyH_done (by kernel_rfl) ?_ _
          go_wp2
          go_ret
          rw [HH.out]
          exact ⟨ret_bool HFL.out.symm, (HS1.out.tran SA1).1⟩
        | true =>
          rw [Bool.true_and] at HG2
          go_wp2
          generalize hHW : W.heap.size = H at *
          have HH : Hid (W.heap.size = H) := hHW
          clear hHW
          refine wp_region_held_drew (S := (fun w' => w'.cell? ⟨H, 0, none⟩ = some (.slice a0 k0 c0) ∧ w'.cell? ⟨H, 1, none⟩ = some (.slice a1 n c1) ∧ w'.cell? ⟨H, 2, none⟩ = some (.slice a2 k2 c2) ∧ w'.cell? ⟨H, 3, none⟩ = some (.slice a3 k3 c3))) (by kernel_rfl) ?_ (fun hHeld => ?_)
          · exact (HX1.out _ SA0.drew).cells
          refine handRead 0 (some 28) (.pointer (some ⟨H, 1, none⟩)) rfl rfl (by kernel_rfl) (by kernel_rfl) (by kernel_rfl) (fun _ _ _ h => h) (by kernel_rfl) (by assumption) ?_ ?_
          · intro w hSw
            (try dsimp only at hSw)
            go_simp
          simp only [Act.put, List.setIfInBounds_toArray, List.set_cons_zero, List.set_cons_succ]
          refine handRead 1 (some 29) (.slice a1 n c1) rfl rfl (by kernel_rfl) (by kernel_rfl) (by kernel_rfl) (fun _ _ _ h => h) (by kernel_rfl) (by assumption) ?_ ?_
          · intro w hSw
            (try dsimp only at hSw)
            go_simp
          simp only [Act.put, List.setIfInBounds_toArray, List.set_cons_zero, List.set_cons_succ]
          refine handRead 2 (some 30) (.int .i64 (n : Int)) rfl rfl (by kernel_rfl) (by kernel_rfl) (by kernel_rfl) (fun _ _ _ h => h) (by kernel_rfl) (by assumption) ?_ ?_
          · intro w hSw
            (try dsimp only at hSw)
            go_simp
          simp only [Act.put, List.setIfInBounds_toArray, List.set_cons_zero, List.set_cons_succ]
          refine handRead 3 (some 31) (.int .i64 (n : Int)) rfl rfl (by kernel_rfl) (by kernel_rfl) (by kernel_rfl) (fun _ _ _ h => h) (by kernel_rfl) (by assumption) ?_ ?_
          · intro w hSw
            (try dsimp only at hSw)
            go_simp
          simp only [Act.put, List.setIfInBounds_toArray, List.set_cons_zero, List.set_cons_succ]
          refine handCall 4 (some 32) 58 #[.slice a1 n c1, .int .i64 (n : Int), .int .i64 (n : Int), .int .i64 60] (by kernel_rfl) rfl rfl (by kernel_rfl) (by simp [go_sem]) ((CR1.out _ SA0.drew).mono ?_)
          rintro e w2 ⟨rfl, rfl⟩
          clear hHeld
          refine ⟨_, rfl, (by exact (HX1.out _ SA0.drew).cells), fun hHeld => ?_⟩
          simp only [Act.put, List.setIfInBounds_toArray, List.set_cons_zero, List.set_cons_succ]
          refine handRead 5 (some 33) (.bool false) rfl rfl (by kernel_rfl) (by kernel_rfl) (by kernel_rfl) (fun _ _ _ h => h) (by kernel_rfl) (by assumption) ?_ ?_
          · intro w hSw
            (try dsimp only at hSw)
            go_simp
          simp only [Act.put, List.setIfInBounds_toArray, List.set_cons_zero, List.set_cons_succ]
          refine handRead 6 (some 34) (.bool false) rfl rfl (by kernel_rfl) (by kernel_rfl) (by kernel_rfl) (fun _ _ _ h => h) (by kernel_rfl) (by assumption) ?_ ?_
          · intro w hSw
            (try dsimp only at hSw)
            go_simp
          simp only [Act.put, List.setIfInBounds_toArray, List.set_cons_zero, List.set_cons_succ]
          refine handRead 7 (some 35) (.pointer (some ⟨H, 2, none⟩)) rfl rfl (by kernel_rfl) (by kernel_rfl) (by kernel_rfl) (fun _ _ _ h => h) (by kernel_rfl) (by assumption) ?_ ?_
          · intro w hSw
            (try dsimp only at hSw)
            go_simp
          simp only [Act.put, List.setIfInBounds_toArray, List.set_cons_zero, List.set_cons_succ]
          refine handRead 8 (some 36) (.slice a2 k2 c2) rfl rfl (by kernel_rfl) (by kernel_rfl) (by kernel_rfl) (fun _ _ _ h => h) (by kernel_rfl) (by assumption) ?_ ?_
          · intro w hSw
            (try dsimp only at hSw)
            go_simp
          simp only [Act.put, List.setIfInBounds_toArray, List.set_cons_zero, List.set_cons_succ]
          refine handRead 9 (some 37) (.int .i64 (n : Int)) rfl rfl (by kernel_rfl) (by kernel_rfl) (by kernel_rfl) (fun _ _ _ h => h) (by kernel_rfl) (by assumption) ?_ ?_
          · intro w hSw
            (try dsimp only at hSw)
            go_simp
          simp only [Act.put, List.setIfInBounds_toArray, List.set_cons_zero, List.set_cons_succ]
          refine handRead 10 (some 38) (.pointer (some ⟨H, 0, none⟩)) rfl rfl (by kernel_rfl) (by kernel_rfl) (by kernel_rfl) (fun _ _ _ h => h) (by kernel_rfl) (by assumption) ?_ ?_
          · intro w hSw
            (try dsimp only at hSw)
            go_simp
          simp only [Act.put, List.setIfInBounds_toArray, List.set_cons_zero, List.set_cons_succ]
          refine handRead 11 (some 39) (.slice a0 k0 c0) rfl rfl (by kernel_rfl) (by kernel_rfl) (by kernel_rfl) (fun _ _ _ h => h) (by kernel_rfl) (by assumption) ?_ ?_
          · intro w hSw
            (try dsimp only at hSw)
            go_simp
          simp only [Act.put, List.setIfInBounds_toArray, List.set_cons_zero, List.set_cons_succ]
          refine handRead 14 (some 42) (.int .i64 (n : Int)) rfl rfl (by kernel_rfl) (by kernel_rfl) (by kernel_rfl) (fun _ _ _ h => h) (by kernel_rfl) (by assumption) ?_ ?_
          · intro w hSw
            (try dsimp only at hSw)
            go_simp
          simp only [Act.put, List.setIfInBounds_toArray, List.set_cons_zero, List.set_cons_succ]
          refine handCall 12 (some 40) 59 #[.int .i64 (n : Int), .slice a0 k0 c0] (by kernel_rfl) rfl rfl (by kernel_rfl) (by simp [go_sem]) ((CD.out _ SA0.drew).mono ?_)
          rintro e w3 ⟨v3, rfl, ho3, hb3⟩
          obtain ⟨ad, cd, hd⟩ := ho3.shape
          subst hd
          have SA1 := SA0.drew.step hb3
          clear hHeld ho3 hb3
          generalize hdl : (debtsL n f.lk).length = dl at *
          refine ⟨_, rfl, (by exact (HX1.out _ SA1).cells), fun hHeld => ?_⟩
          simp only [Act.put, List.setIfInBounds_toArray, List.set_cons_zero, List.set_cons_succ]
          refine handRead 13 (some 41) (.int .i64 (dl : Int)) rfl rfl (by kernel_rfl) (by kernel_rfl) (by kernel_rfl) (fun _ _ _ h => h) (by kernel_rfl) (by assumption) ?_ ?_
          · intro w hSw
            (try dsimp only at hSw)
            go_simp
          simp only [Act.put, List.setIfInBounds_toArray, List.set_cons_zero, List.set_cons_succ]
          refine handCall 15 (some 43) 58 #[.slice a2 k2 c2, .int .i64 (dl : Int), .int .i64 (n : Int), .int .i64 1] (by kernel_rfl) rfl rfl (by kernel_rfl) (by simp [go_sem]) ((CR2.out _ SA1).mono ?_)
          rintro e w4 ⟨rfl, rfl⟩
          clear hHeld
          refine ⟨_, rfl, (by exact (HX1.out _ SA1).cells), fun hHeld => ?_⟩
          simp only [Act.put, List.setIfInBounds_toArray, List.set_cons_zero, List.set_cons_succ]
          refine handRead 16 (some 44) (.bool false) rfl rfl (by kernel_rfl) (by kernel_rfl) (by kernel_rfl) (fun _ _ _ h => h) (by kernel_rfl) (by assumption) ?_ ?_
          · intro w hSw
            (try dsimp only at hSw)
            go_simp
          simp only [Act.put, List.setIfInBounds_toArray, List.set_cons_zero, List.set_cons_succ]
          refine handRead 17 (some 45) (.bool false) rfl rfl (by kernel_rfl) (by kernel_rfl) (by kernel_rfl) (fun _ _ _ h => h) (by kernel_rfl) (by assumption) ?_ ?_
          · intro w hSw
            (try dsimp only at hSw)
            go_simp
          simp only [Act.put, List.setIfInBounds_toArray, List.set_cons_zero, List.set_cons_succ]
          refine wpAnyH_done (by kernel_rfl) ?_ _
          have HS3 : Hid (Since H W w4) := HS1.out.tran SA1
          have HX3 : Hid (∀ w', Since w4.heap.size w4 w' → Bx4 w' H (.slice a0 k0 c0) (.slice a1 n c1) (.slice a2 k2 c2) (.slice a3 k3 c3)) := fun w' hs => HX1.out w' (SA1.tran hs)
          obtain ⟨-, x0', x1', x2', x3', -⟩ := HX3.out w4 (Since.start w4)
          clear SA0 SA1 HX1 HS1 x0 x1 x2 x3 CR1 CR2 CD
          obtain ⟨a9, c9, hv9, hc9⟩ := HLN.out
          simp only [Value.slice.injEq] at hv9
          obtain ⟨rfl, -, rfl⟩ := hv9
          rcases hc9 with hz | ⟨g9, o9, rfl, hg9, hc9⟩
          · have hk0 : k3 = 0 := by rw [← HK3.out, hz]; rfl
            subst hk0
            have HFL : Hid (res = true) := by show _ = _; rw [HG2.out, hz]; rfl
            clear HG2 HLN hz
            go_wp2
            refine wp_loop_rounds 1 ?_
            rw [rounds_succ]
            go_wp2
            go_ret
            rw [HH.out]
            exact ⟨ret_bool HFL.out.symm, HS3.out.1⟩
          · have HC9 : Hid (∀ W1, Since H W W1 → ∀ j (hj : j < f.ln.length), LtAt W1 g9 (o9 + j * 5) f.ln[j]) := fun W1 hS j hj => (hc9 j hj).below hg9 (by rw [HH.out]; exact hS.1)
            have HCL2 : Hid (∀ w' x, Since H W w' → Calls Try.prog 60 #[.agg #[.int .i64 x.tt, .int .i64 x.bb, .int .i64 x.fr, .int .i64 x.sq, .bool x.ak], .int .i64 (n : Int), .slice a0 k0 c0] w' fun e W' => e = .returned (.bool (goodLt n f.lk x)) ∧ Below w'.heap.size w' W') := HCL.out
            clear hc9 hg9 HLN HCL
            go_wp2
            go_loopw [49] (fun i wr => ∃ k : Nat, k ≤ k3 ∧ i = .int .i64 k ∧ Hid ((∀ j (hj : j < f.ln.length), j < k → goodLt n f.lk f.ln[j] = true) ∧ Since w4.heap.size w4 wr)) (fun i _ => k3 - (intOf i).toNat)
            case atStart => exact ⟨0, Nat.zero_le _, rfl, fun j hj h => absurd h (Nat.not_lt_zero _), Since.start w4⟩
            case round =>
              obtain ⟨k, hk, rfl, HK⟩ := hrel
              by_cases hlt : k < k3
              · have hlt' : (k : Int) < (k3 : Int) := by omega
                have hkl : k < f.ln.length := by rw [HK3.out]; exact hlt
                obtain ⟨q0, q1, q2, q3, q4⟩ := HC9.out wr (HS3.out.tran HK.out.2) k hkl
                have HYES : Hid (goodLt n f.lk f.ln[k] = true → ∀ j (hj : j < f.ln.length), j < k + 1 → goodLt n f.lk f.ln[j] = true) := fun hf j hj h => by
                  by_cases e : j = k
                  · subst e; exact hf
                  · exact HK.out.1 j hj (by omega)
                have HNO : Hid (goodLt n f.lk f.ln[k] = false → res = false) := fun hf => by rw [HG2.out]; exact ltAll_no f.ln _ k hkl hf
                have CL := HCL2.out (wr.alloc (.cells #[.int .i64 f.ln[k].tt, .int .i64 f.ln[k].bb, .int .i64 f.ln[k].fr, .int .i64 f.ln[k].sq, .bool f.ln[k].ak] 66)) f.ln[k] ((HS3.out.tran HK.out.2).step ((Below.refl _ wr).alloc (Nat.le_refl _) _))
                have HSA : Hid (Since w4.heap.size w4 (wr.alloc (.cells #[.int .i64 f.ln[k].tt, .int .i64 f.ln[k].bb, .int .i64 f.ln[k].fr, .int .i64 f.ln[k].sq, .bool f.ln[k].ak] 66))) := HK.out.2.step ((Below.refl _ wr).alloc (Nat.le_refl _) _)
                obtain ⟨-, y0, y1, y2, y3, -⟩ := HX3.out _ HSA.out
                generalize f.ln[k] = x at *
                generalize goodLt n f.lk x = gx at *
                have HCL3 : Hid (Calls Try.prog 60 #[.agg #[.int .i64 x.tt, .int .i64 x.bb, .int .i64 x.fr, .int .i64 x.sq, .bool x.ak], .int .i64 (n : Int), .slice a0 k0 c0] (wr.alloc (.cells #[.int .i64 x.tt, .int .i64 x.bb, .int .i64 x.fr, .int .i64 x.sq, .bool x.ak] 66)) fun e W' => e = .returned (.bool gx) ∧ Below (wr.alloc (.cells #[.int .i64 x.tt, .int .i64 x.bb, .int .i64 x.fr, .int .i64 x.sq, .bool x.ak] 66)).heap.size (wr.alloc (.cells #[.int .i64 x.tt, .int .i64 x.bb, .int .i64 x.fr, .int .i64 x.sq, .bool x.ak] 66)) W') := CL
                clear CL
                have z0 := (HX3.out wr HK.out.2).c0
                cases gx with
                | false =>
                  have HFL : Hid (res = false) := HNO.out rfl
                  clear HYES HNO
                  go_wp2_with fail
                  refine HCL3.out.mono ?_
                  rintro e w5 ⟨rfl, hb5⟩
                  have HS5 : Hid (Since w4.heap.size w4 w5) := HSA.out.step hb5
                  clear hb5
                  go_wp2
                  go_ret
                  rw [HH.out]
                  exact ⟨ret_bool HFL.out.symm, (HS3.out.tran HS5.out).1⟩
                | true =>
                  have HA1 : Hid (∀ j (hj : j < f.ln.length), j < k + 1 → goodLt n f.lk f.ln[j] = true) := HYES.out rfl
                  clear HYES HNO
                  go_wp2_with fail
                  refine HCL3.out.mono ?_
                  rintro e w5 ⟨rfl, hb5⟩
                  have HS5 : Hid (Since w4.heap.size w4 w5) := HSA.out.step hb5
                  clear hb5
                  go_wp2
                  go_roundw
                  case rel => exact ⟨k + 1, by omega, by go_num, HA1.out, HS5.out⟩
                  case measure => simp [intOf]; omega
              · have hlt' : ¬ (k : Int) < (k3 : Int) := by omega
                have HFL : Hid (res = true) := by show _ = _; rw [HG2.out]; exact ltAll_yes f.ln _ fun j hj => HK.out.1 j hj (by have := HK3.out; omega)
                go_wp2
                go_ret
                rw [HH.out]
                exact ⟨ret_bool HFL.out.symm, (HS3.out.tran HK.out.2).1⟩
    · have HFL : Hid (goodF f = false) := by show _ = _; rw [HG.out, HHB.out, hlk, decide_eq_false g4]; simp
      rw [hlk] at HC1
      have e4 : (40 : Int) < (f.ln.length : Int) := by omega
      generalize goodF f = res at *
      generalize f.lk.length = k0 at *
      generalize f.kn.length = n at *
      generalize f.ow.length = k2 at *
      generalize f.ln.length = k3 at *
      clear HG HHB HR hlk
      go_enter Try.func28, Try.ntmps28
      go_wp2_with fail
      refine (HC1.out _ HB.out).mono ?_
      rintro e w1 ⟨rfl, hb1⟩
      have HS1 : Hid (Since W.heap.size W w1) := HB.out.step hb1
      obtain ⟨-, x0, x1, x2, x3, -⟩ := HX0.out w1 ((Since.start _).step hb1)
      clear hb1
      go_wp2
      go_ret
      exact ⟨ret_bool HFL.out.symm, HS1.out.1⟩
end Go.Proofs.Ytkkamigaolejiax
