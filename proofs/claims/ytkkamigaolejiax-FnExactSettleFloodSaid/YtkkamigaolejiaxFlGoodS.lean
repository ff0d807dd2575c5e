/-
  'GoodFlood' of the model.
-/
import Derived.Test.YtkkamigaolejiaxFlRowS
import Derived.Test.YtkkamigaolejiaxFlLinksS
import Derived.Test.YtkkamigaolejiaxHand
namespace Go.Proofs.Ytkkamigaolejiax
open Go.RowKit
set_option linter.unusedVariables false

theorem linksS_eq (n : Nat) (lks : List (List Int)) : linksS (n : Int) ((n : Int) - 1) lks = (decide (1 ≤ (n : Int) ∧ (n : Int) ≤ 6) && linksB (n : Int) lks) := by
  unfold linksS
  rw [show (n : Int) - 1 + 1 = (n : Int) by omega]
  cases hl : linksB (n : Int) lks with
  | false => simp
  | true =>
    by_cases hn : 1 ≤ (n : Int) ∧ (n : Int) ≤ 6
    · rw [decide_eq_true hn, decide_eq_true (links15 hl hn.2)]; rfl
    · rw [decide_eq_false hn]; rfl
theorem goodLt_eq {n : Nat} {lks : List (List Int)} (h : linksB (n : Int) lks = true) (x : LtD) : goodLt (n : Int) lks x = (decide (0 ≤ ixD (debtsL n lks) x.tt x.bb) && (decide (0 ≤ x.fr ∧ x.fr ≤ (n : Int) - 1) && decide (1 ≤ x.sq ∧ x.sq ≤ 60))) := by
  unfold goodLt
  have e1 : joinedB lks x.tt x.bb = decide (0 ≤ ixD (debtsL n lks) x.tt x.bb) := by
    cases hj : joinedB lks x.tt x.bb with
    | true => exact (decide_eq_true ((ixD_joined h _ _).2 hj)).symm
    | false => exact (decide_eq_false (fun h0 => by rw [(ixD_joined h _ _).1 h0] at hj; cases hj)).symm
  have e2 : decide (0 ≤ x.fr ∧ x.fr < (n : Int)) = decide (0 ≤ x.fr ∧ x.fr ≤ (n : Int) - 1) := decide_eq_decide.2 (by omega)
  rw [e1, e2]

set_option maxRecDepth 100000 in
set_option maxHeartbeats 4000000 in
theorem specGoodF_any (W : World) (x y z l : Value) (f : FD) (h : ReadsF W x y z l f) (hf : FitF f) :
    Calls Try.prog 23 #[.agg #[x, y, z, l]] W fun e W' => e = .returned (.bool (goodF f)) ∧ Below W.heap.size W W' := by
  have HR : Hid (∀ W1, Below W.heap.size W W1 → ReadsF W1 x y z l f) := fun W1 hb => h.below hb
  have HF : Hid (FitF f) := hf
  obtain ⟨a0, c0, rfl⟩ := h.lk.shape
  obtain ⟨a1, c1, rfl⟩ := h.kn.shape
  obtain ⟨a2, c2, rfl⟩ := h.ow.shape
  obtain ⟨a3, c3, rfl⟩ := h.ln.shape
  have HG : Hid (goodF f = (headB f.kn.length f && ((rowsB f.kn f.kn.length f.kn.length 60 && rowsB f.ow (debtsL f.kn.length f.lk).length f.kn.length 1) && f.ln.all (goodLt f.kn.length f.lk)))) := rfl
  have HHB : Hid (headB f.kn.length f = (decide (1 ≤ (f.kn.length : Int) ∧ (f.kn.length : Int) ≤ 6) && (linksB f.kn.length f.lk && decide (f.ln.length ≤ 40)))) := rfl
  have HB : Hid (Since W.heap.size W (W.alloc (.cells #[.slice a0 f.lk.length c0, .slice a1 f.kn.length c1, .slice a2 f.ow.length c2, .slice a3 f.ln.length c3] 31))) := (Since.start W).step ((Below.refl _ W).alloc (Nat.le_refl _) _)
  have HX0 : Hid (∀ w', Since (W.alloc (.cells #[.slice a0 f.lk.length c0, .slice a1 f.kn.length c1, .slice a2 f.ow.length c2, .slice a3 f.ln.length c3] 31)).heap.size (W.alloc (.cells #[.slice a0 f.lk.length c0, .slice a1 f.kn.length c1, .slice a2 f.ow.length c2, .slice a3 f.ln.length c3] 31)) w' → Bx4 w' W.heap.size (.slice a0 f.lk.length c0) (.slice a1 f.kn.length c1) (.slice a2 f.ow.length c2) (.slice a3 f.ln.length c3)) := fun w' hs => (Bx4.new W (.slice a0 f.lk.length c0) (.slice a1 f.kn.length c1) (.slice a2 f.ow.length c2) (.slice a3 f.ln.length c3) 31).below hs.1
  have m1 := hf.lk
  have m2 := hf.kn
  have m3 := hf.ow
  have m4 := hf.ln
  have HCL : Hid (∀ w', Since W.heap.size W w' → Calls Try.prog 48 #[.int .i64 (f.kn.length : Int), .slice a0 f.lk.length c0] w' fun e W' => e = .returned (.bool (linksS f.kn.length ((f.kn.length : Int) - 1) f.lk)) ∧ Below w'.heap.size w' W') := fun w' hs => l6Links_any w' _ f.lk f.kn.length _ (by rw [IntKind.wrap_i64]; have := HF.out.kn; omega) (HR.out _ hs.1).lk (by have := HF.out.lk; omega) (fun j hj => by have := HF.out.lki j hj; omega)
  have HLS := linksS_eq f.kn.length f.lk
  clear h hf
  cases hls : linksS f.kn.length ((f.kn.length : Int) - 1) f.lk with
  | false =>
    have HFL : Hid (goodF f = false) := by
      show _ = _
      rw [hls] at HLS
      rw [HG.out, HHB.out, ← Bool.and_assoc (decide _), ← HLS]
      rfl
    rw [hls] at HCL
    have CL : Hid (∀ w', Since (W.alloc (.cells #[.slice a0 f.lk.length c0, .slice a1 f.kn.length c1, .slice a2 f.ow.length c2, .slice a3 f.ln.length c3] 31)).heap.size (W.alloc (.cells #[.slice a0 f.lk.length c0, .slice a1 f.kn.length c1, .slice a2 f.ow.length c2, .slice a3 f.ln.length c3] 31)) w' → Calls Try.prog 48 #[.int .i64 (f.kn.length : Int), .slice a0 f.lk.length c0] w' fun e W' => e = .returned (.bool false) ∧ Below w'.heap.size w' W') := fun w' hs => HCL.out w' (HB.out.tran hs)
    have HX1 := HX0
    clear HG HHB HR HLS hls HCL HX0 HF
    generalize goodF f = res at *
    generalize f.lk.length = k0 at *
    generalize f.kn.length = n at *
    generalize f.ow.length = k2 at *
    generalize f.ln.length = k3 at *
    go_enter Try.func23, Try.ntmps23
    go_wp2
    have SA0 := Since.start (W.alloc (.cells #[.slice a0 k0 c0, .slice a1 n c1, .slice a2 k2 c2, .slice a3 k3 c3] 31))
    generalize (W.alloc (.cells #[.slice a0 k0 c0, .slice a1 n c1, .slice a2 k2 c2, .slice a3 k3 c3] 31)) = w1 at *
    generalize hHW : W.heap.size = H at *
    have HH : Hid (W.heap.size = H) := hHW
    clear hHW
    refine wp_region_held_drew (S := (fun w' => w'.cell? ⟨H, 0, none⟩ = some (.slice a0 k0 c0) ∧ w'.cell? ⟨H, 1, none⟩ = some (.slice a1 n c1) ∧ w'.cell? ⟨H, 2, none⟩ = some (.slice a2 k2 c2) ∧ w'.cell? ⟨H, 3, none⟩ = some (.slice a3 k3 c3))) (by kernel_rfl) ?_ (fun hHeld => ?_)
    · exact (HX1.out _ SA0.drew).cells
    refine handRead 0 (some 13) (.int .i64 (n : Int)) rfl rfl (by kernel_rfl) (by kernel_rfl) (by kernel_rfl) (fun _ _ _ h => h) (by kernel_rfl) (by assumption) ?_ ?_
    · intro w hSw
      (try dsimp only at hSw)
      go_simp
    simp only [Act.put, List.setIfInBounds_toArray, List.set_cons_zero, List.set_cons_succ]
    refine handRead 1 (some 14) (.pointer (some ⟨H, 0, none⟩)) rfl rfl (by kernel_rfl) (by kernel_rfl) (by kernel_rfl) (fun _ _ _ h => h) (by kernel_rfl) (by assumption) ?_ ?_
    · intro w hSw
      (try dsimp only at hSw)
      go_simp
    simp only [Act.put, List.setIfInBounds_toArray, List.set_cons_zero, List.set_cons_succ]
    refine handRead 2 (some 15) (.slice a0 k0 c0) rfl rfl (by kernel_rfl) (by kernel_rfl) (by kernel_rfl) (fun _ _ _ h => h) (by kernel_rfl) (by assumption) ?_ ?_
    · intro w hSw
      (try dsimp only at hSw)
      go_simp
    simp only [Act.put, List.setIfInBounds_toArray, List.set_cons_zero, List.set_cons_succ]
    refine handCall 3 (some 16) 48 #[.int .i64 (n : Int), .slice a0 k0 c0] (by kernel_rfl) rfl rfl (by kernel_rfl) (by simp [go_sem]) ((CL.out _ SA0.drew).mono ?_)
    rintro e w2 ⟨rfl, hb2⟩
    have SA1 := SA0.drew.step hb2
    clear hHeld hb2
    refine ⟨_, rfl, (by exact (HX1.out _ SA1).cells), fun hHeld => ?_⟩
    simp only [Act.put, List.setIfInBounds_toArray, List.set_cons_zero, List.set_cons_succ]
    refine handRead 4 (some 17) (.bool true) rfl rfl (by kernel_rfl) (by kernel_rfl) (by kernel_rfl) (fun _ _ _ h => h) (by kernel_rfl) (by assumption) ?_ ?_
    · intro w hSw
      (try dsimp only at hSw)
      go_simp
    simp only [Act.put, List.setIfInBounds_toArray, List.set_cons_zero, List.set_cons_succ]
    refine handRead 5 (some 18) (.bool true) rfl rfl (by kernel_rfl) (by kernel_rfl) (by kernel_rfl) (fun _ _ _ h => h) (by kernel_rfl) (by assumption) ?_ ?_
    · intro w hSw
      (try dsimp only at hSw)
      go_simp
    simp only [Act.put, List.setIfInBounds_toArray, List.set_cons_zero, List.set_cons_succ]
    refine handSkip 6 (some 19) rfl rfl (by kernel_rfl) (by kernel_rfl) (by kernel_rfl) (fun _ _ _ h => h) (by kernel_rfl) (by assumption) ?_
    simp only [Act.put, List.setIfInBounds_toArray, List.set_cons_zero, List.set_cons_succ]
    refine handSkip 7 (some 20) rfl rfl (by kernel_rfl) (by kernel_rfl) (by kernel_rfl) (fun _ _ _ h => h) (by kernel_rfl) (by assumption) ?_
    simp only [Act.put, List.setIfInBounds_toArray, List.set_cons_zero, List.set_cons_succ]
    refine handSkip 8 (some 21) rfl rfl (by kernel_rfl) (by kernel_rfl) (by kernel_rfl) (fun _ _ _ h => h) (by kernel_rfl) (by assumption) ?_
    simp only [Act.put, List.setIfInBounds_toArray, List.set_cons_zero, List.set_cons_succ]
    refine handSkip 9 (some 22) rfl rfl (by kernel_rfl) (by kernel_rfl) (by kernel_rfl) (fun _ _ _ h => h) (by kernel_rfl) (by assumption) ?_
    simp only [Act.put, List.setIfInBounds_toArray, List.set_cons_zero, List.set_cons_succ]
    refine handSkip 10 (some 23) rfl rfl (by kernel_rfl) (by kernel_rfl) (by kernel_rfl) (fun _ _ _ h => h) (by kernel_rfl) (by assumption) ?_
    simp only [Act.put, List.setIfInBounds_toArray, List.set_cons_zero, List.set_cons_succ]
    refine handSkip 11 (some 24) rfl rfl (by kernel_rfl) (by kernel_rfl) (by kernel_rfl) (fun _ _ _ h => h) (by kernel_rfl) (by assumption) ?_
    simp only [Act.put, List.setIfInBounds_toArray, List.set_cons_zero, List.set_cons_succ]
    refine handSkip 12 (some 25) rfl rfl (by kernel_rfl) (by kernel_rfl) (by kernel_rfl) (fun _ _ _ h => h) (by kernel_rfl) (by assumption) ?_
    simp only [Act.put, List.setIfInBounds_toArray, List.set_cons_zero, List.set_cons_succ]
    refine handSkip 13 (some 26) rfl rfl (by kernel_rfl) (by kernel_rfl) (by kernel_rfl) (fun _ _ _ h => h) (by kernel_rfl) (by assumption) ?_
    simp only [Act.put, List.setIfInBounds_toArray, List.set_cons_zero, List.set_cons_succ]
    refine handSkip 14 (some 27) rfl rfl (by kernel_rfl) (by kernel_rfl) (by kernel_rfl) (fun _ _ _ h => h) (by kernel_rfl) (by assumption) ?_
    simp only [Act.put, List.setIfInBounds_toArray, List.set_cons_zero, List.set_cons_succ]
    refine handRead 15 (some 28) (.bool true) rfl rfl (by kernel_rfl) (by kernel_rfl) (by kernel_rfl) (fun _ _ _ h => h) (by kernel_rfl) (by assumption) ?_ ?_
    · intro w hSw
      (try dsimp only at hSw)
      go_simp
    simp only [Act.put, List.setIfInBounds_toArray, List.set_cons_zero, List.set_cons_succ]
    refine handRead 16 (some 29) (.bool true) rfl rfl (by kernel_rfl) (by kernel_rfl) (by kernel_rfl) (fun _ _ _ h => h) (by kernel_rfl) (by assumption) ?_ ?_
    · intro w hSw
      (try dsimp only at hSw)
      go_simp
    simp only [Act.put, List.setIfInBounds_toArray, List.set_cons_zero, List.set_cons_succ]
    refine handSkip 17 (some 30) rfl rfl (by kernel_rfl) (by kernel_rfl) (by kernel_rfl) (fun _ _ _ h => h) (by kernel_rfl) (by assumption) ?_
    simp only [Act.put, List.setIfInBounds_toArray, List.set_cons_zero, List.set_cons_succ]
    refine handSkip 18 (some 31) rfl rfl (by kernel_rfl) (by kernel_rfl) (by kernel_rfl) (fun _ _ _ h => h) (by kernel_rfl) (by assumption) ?_
    simp only [Act.put, List.setIfInBounds_toArray, List.set_cons_zero, List.set_cons_succ]
    refine handSkip 19 (some 32) rfl rfl (by kernel_rfl) (by kernel_rfl) (by kernel_rfl) (fun _ _ _ h => h) (by kernel_rfl) (by assumption) ?_
    simp only [Act.put, List.setIfInBounds_toArray, List.set_cons_zero, List.set_cons_succ]
    refine handSkip 20 (some 33) rfl rfl (by kernel_rfl) (by kernel_rfl) (by kernel_rfl) (fun _ _ _ h => h) (by kernel_rfl) (by assumption) ?_
    simp only [Act.put, List.setIfInBounds_toArray, List.set_cons_zero, List.set_cons_succ]
    refine handRead 21 (some 34) (.bool true) rfl rfl (by kernel_rfl) (by kernel_rfl) (by kernel_rfl) (fun _ _ _ h => h) (by kernel_rfl) (by assumption) ?_ ?_
    · intro w hSw
      (try dsimp only at hSw)
      go_simp
    simp only [Act.put, List.setIfInBounds_toArray, List.set_cons_zero, List.set_cons_succ]
    refine wpAnyH_done (by kernel_rfl) ?_ _
    go_wp2
    go_ret
    rw [HH.out]
    exact ⟨ret_bool HFL.out.symm, (HB.out.tran SA1).1⟩
  | true =>
    rw [hls] at HLS
    have hn6 : 1 ≤ (f.kn.length : Int) ∧ (f.kn.length : Int) ≤ 6 := by
      have := HLS.symm
      rw [Bool.and_eq_true] at this
      exact of_decide_eq_true this.1
    have hlk : linksB (f.kn.length : Int) f.lk = true := by
      have := HLS.symm
      rw [Bool.and_eq_true] at this
      exact this.2
    have HG1 : Hid (goodF f = (decide (f.ln.length ≤ 40) && ((f.kn.all (rowB f.kn.length 60) && (decide ((f.ow.length : Int) = (debtsL f.kn.length f.lk).length) && f.ow.all (rowB f.kn.length 1))) && f.ln.all (goodLt f.kn.length f.lk)))) := by
      show _ = _
      rw [HG.out, HHB.out, decide_eq_true hn6, hlk]
      unfold rowsB
      rw [decide_eq_true (rfl : (f.kn.length : Int) = f.kn.length)]
      rfl
    rw [hls] at HCL
    have CL : Hid (∀ w', Since (W.alloc (.cells #[.slice a0 f.lk.length c0, .slice a1 f.kn.length c1, .slice a2 f.ow.length c2, .slice a3 f.ln.length c3] 31)).heap.size (W.alloc (.cells #[.slice a0 f.lk.length c0, .slice a1 f.kn.length c1, .slice a2 f.ow.length c2, .slice a3 f.ln.length c3] 31)) w' → Calls Try.prog 48 #[.int .i64 (f.kn.length : Int), .slice a0 f.lk.length c0] w' fun e W' => e = .returned (.bool true) ∧ Below w'.heap.size w' W') := fun w' hs => HCL.out w' (HB.out.tran hs)
    have HDL : Hid ((rowsL f.kn.length f.lk).length = (debtsL f.kn.length f.lk).length) := by show _ = _; rw [rowsL_debts hlk, List.length_map]
    have HX1 := HX0
    have CW : Hid (∀ w', Since (W.alloc (.cells #[.slice a0 f.lk.length c0, .slice a1 f.kn.length c1, .slice a2 f.ow.length c2, .slice a3 f.ln.length c3] 31)).heap.size (W.alloc (.cells #[.slice a0 f.lk.length c0, .slice a1 f.kn.length c1, .slice a2 f.ow.length c2, .slice a3 f.ln.length c3] 31)) w' → Calls Try.prog 38 #[.int .i64 (f.kn.length : Int), .slice a0 f.lk.length c0] w' fun e W' => ∃ v' vs, e = .returned v' ∧ OwnSS W' w'.heap.size v' vs (rowsL f.kn.length f.lk) ∧ Below w'.heap.size w' W') := fun w' hs => l6Rows_any w' _ f.lk f.kn.length (HR.out _ (HB.out.tran hs).1).lk (fun j hj => (linksB_mem hlk f.lk[j] (List.getElem_mem hj)).1) (links15 hlk hn6.2) (by omega)
    have HCRW : Hid (∀ w' p q, Since W.heap.size W w' → Calls Try.prog 50 #[.agg #[.slice a0 f.lk.length c0, .slice a1 f.kn.length c1, .slice a2 f.ow.length c2, .slice a3 f.ln.length c3], .int .i64 p, .int .i64 q] w' fun e W' => e = .returned (.int .i64 (ixD (debtsL f.kn.length f.lk) p q)) ∧ Below w'.heap.size w' W') := fun w' p q hs => l6Row_any w' _ _ _ _ f p q (HR.out _ hs.1) hlk (by omega)
    have HGL : Hid (∀ x, goodLt f.kn.length f.lk x = (decide (0 ≤ ixD (debtsL f.kn.length f.lk) x.tt x.bb) && (decide (0 ≤ x.fr ∧ x.fr ≤ (f.kn.length : Int) - 1) && decide (1 ≤ x.sq ∧ x.sq ≤ 60)))) := goodLt_eq hlk
    have HKN : Hid (∀ w', Since W.heap.size W w' → ReadsSS w' (.slice a1 f.kn.length c1) f.kn) := fun w' hs => (HR.out _ hs.1).kn
    have HOW : Hid (∀ w', Since W.heap.size W w' → ReadsSS w' (.slice a2 f.ow.length c2) f.ow) := fun w' hs => (HR.out _ hs.1).ow
    have HLN : Hid (∀ w', Since W.heap.size W w' → ReadsLt w' (.slice a3 f.ln.length c3) f.ln) := fun w' hs => (HR.out _ hs.1).ln
    have HKI : Hid (∀ r, r ∈ f.kn → r.length ≤ 1048576) := fun r hr => by obtain ⟨j, hj, rfl⟩ := List.getElem_of_mem hr; exact HF.out.kni j hj
    have HOI : Hid (∀ r, r ∈ f.ow → r.length ≤ 1048576) := fun r hr => by obtain ⟨j, hj, rfl⟩ := List.getElem_of_mem hr; exact HF.out.owi j hj
    clear HG HHB HR HLS hls HCL HX0 HF hlk
    generalize goodF f = res at *
    generalize goodLt (f.kn.length : Int) f.lk = GL at *
    generalize hdd : debtsL f.kn.length f.lk = dds at *
    clear hdd
    generalize hdl : dds.length = dl at *
    clear hdl
    generalize f.lk.length = k0 at *
    generalize hkn : f.kn.length = n at *
    generalize hk2 : f.ow.length = k2 at *
    generalize hk3 : f.ln.length = k3 at *
    have HNQ : Hid (f.kn.length = n) := hkn
    have HK2 : Hid (f.ow.length = k2) := hk2
    have HK3 : Hid (f.ln.length = k3) := hk3
    clear hkn hk2 hk3
    by_cases g2 : (k2 : Int) = (dl : Int)
    · have d2 : ((k2 : Int) != (dl : Int)) = false := by rw [g2]; simp
      rw [decide_eq_true g2, Bool.true_and] at HG1
      by_cases g3 : k3 ≤ 40
      · have d3 : decide ((40 : Int) < (k3 : Int)) = false := decide_eq_false (by omega)
        have HG2 : Hid (res = ((f.kn.all (rowB (n : Int) 60) && f.ow.all (rowB (n : Int) 1)) && f.ln.all GL)) := by show _ = _; rw [HG1.out, decide_eq_true g3]; rfl
        clear HG1 g2
        go_enter Try.func23, Try.ntmps23
        go_wp2
        have SA0 := Since.start (W.alloc (.cells #[.slice a0 k0 c0, .slice a1 n c1, .slice a2 k2 c2, .slice a3 k3 c3] 31))
        generalize (W.alloc (.cells #[.slice a0 k0 c0, .slice a1 n c1, .slice a2 k2 c2, .slice a3 k3 c3] 31)) = w1 at *
        generalize hHW : W.heap.size = H at *
        have HH : Hid (W.heap.size = H) := hHW
        clear hHW
        refine wp_region_held_drew (S := (fun w' => w'.cell? ⟨H, 0, none⟩ = some (.slice a0 k0 c0) ∧ w'.cell? ⟨H, 1, none⟩ = some (.slice a1 n c1) ∧ w'.cell? ⟨H, 2, none⟩ = some (.slice a2 k2 c2) ∧ w'.cell? ⟨H, 3, none⟩ = some (.slice a3 k3 c3))) (by kernel_rfl) ?_ (fun hHeld => ?_)
        · exact (HX1.out _ SA0.drew).cells
        refine handRead 0 (some 13) (.int .i64 (n : Int)) rfl rfl (by kernel_rfl) (by kernel_rfl) (by kernel_rfl) (fun _ _ _ h => h) (by kernel_rfl) (by assumption) ?_ ?_
        · intro w hSw
          (try dsimp only at hSw)
          go_simp
        simp only [Act.put, List.setIfInBounds_toArray, List.set_cons_zero, List.set_cons_succ]
        refine handRead 1 (some 14) (.pointer (some ⟨H, 0, none⟩)) rfl rfl (by kernel_rfl) (by kernel_rfl) (by kernel_rfl) (fun _ _ _ h => h) (by kernel_rfl) (by assumption) ?_ ?_
        · intro w hSw
          (try dsimp only at hSw)
          go_simp
        simp only [Act.put, List.setIfInBounds_toArray, List.set_cons_zero, List.set_cons_succ]
        refine handRead 2 (some 15) (.slice a0 k0 c0) rfl rfl (by kernel_rfl) (by kernel_rfl) (by kernel_rfl) (fun _ _ _ h => h) (by kernel_rfl) (by assumption) ?_ ?_
        · intro w hSw
          (try dsimp only at hSw)
          go_simp
        simp only [Act.put, List.setIfInBounds_toArray, List.set_cons_zero, List.set_cons_succ]
        refine handCall 3 (some 16) 48 #[.int .i64 (n : Int), .slice a0 k0 c0] (by kernel_rfl) rfl rfl (by kernel_rfl) (by simp [go_sem]) ((CL.out _ SA0.drew).mono ?_)
        rintro e w2 ⟨rfl, hb2⟩
        have SA1 := SA0.drew.step hb2
        clear hHeld hb2
        refine ⟨_, rfl, (by exact (HX1.out _ SA1).cells), fun hHeld => ?_⟩
        simp only [Act.put, List.setIfInBounds_toArray, List.set_cons_zero, List.set_cons_succ]
        refine handRead 4 (some 17) (.bool false) rfl rfl (by kernel_rfl) (by kernel_rfl) (by kernel_rfl) (fun _ _ _ h => h) (by kernel_rfl) (by assumption) ?_ ?_
        · intro w hSw
          (try dsimp only at hSw)
          go_simp
        simp only [Act.put, List.setIfInBounds_toArray, List.set_cons_zero, List.set_cons_succ]
        refine handRead 5 (some 18) (.bool false) rfl rfl (by kernel_rfl) (by kernel_rfl) (by kernel_rfl) (fun _ _ _ h => h) (by kernel_rfl) (by assumption) ?_ ?_
        · intro w hSw
          (try dsimp only at hSw)
          go_simp
        simp only [Act.put, List.setIfInBounds_toArray, List.set_cons_zero, List.set_cons_succ]
        refine handRead 6 (some 19) (.pointer (some ⟨H, 2, none⟩)) rfl rfl (by kernel_rfl) (by kernel_rfl) (by kernel_rfl) (fun _ _ _ h => h) (by kernel_rfl) (by assumption) ?_ ?_
        · intro w hSw
          (try dsimp only at hSw)
          go_simp
        simp only [Act.put, List.setIfInBounds_toArray, List.set_cons_zero, List.set_cons_succ]
        refine handRead 7 (some 20) (.slice a2 k2 c2) rfl rfl (by kernel_rfl) (by kernel_rfl) (by kernel_rfl) (fun _ _ _ h => h) (by kernel_rfl) (by assumption) ?_ ?_
        · intro w hSw
          (try dsimp only at hSw)
          go_simp
        simp only [Act.put, List.setIfInBounds_toArray, List.set_cons_zero, List.set_cons_succ]
        refine handRead 8 (some 21) (.int .i64 (k2 : Int)) rfl rfl (by kernel_rfl) (by kernel_rfl) (by kernel_rfl) (fun _ _ _ h => h) (by kernel_rfl) (by assumption) ?_ ?_
        · intro w hSw
          (try dsimp only at hSw)
          go_simp
        simp only [Act.put, List.setIfInBounds_toArray, List.set_cons_zero, List.set_cons_succ]
        refine handRead 9 (some 22) (.int .i64 (n : Int)) rfl rfl (by kernel_rfl) (by kernel_rfl) (by kernel_rfl) (fun _ _ _ h => h) (by kernel_rfl) (by assumption) ?_ ?_
        · intro w hSw
          (try dsimp only at hSw)
          go_simp
        simp only [Act.put, List.setIfInBounds_toArray, List.set_cons_zero, List.set_cons_succ]
        refine handRead 10 (some 23) (.pointer (some ⟨H, 0, none⟩)) rfl rfl (by kernel_rfl) (by kernel_rfl) (by kernel_rfl) (fun _ _ _ h => h) (by kernel_rfl) (by assumption) ?_ ?_
        · intro w hSw
          (try dsimp only at hSw)
          go_simp
        simp only [Act.put, List.setIfInBounds_toArray, List.set_cons_zero, List.set_cons_succ]
        refine handRead 11 (some 24) (.slice a0 k0 c0) rfl rfl (by kernel_rfl) (by kernel_rfl) (by kernel_rfl) (fun _ _ _ h => h) (by kernel_rfl) (by assumption) ?_ ?_
        · intro w hSw
          (try dsimp only at hSw)
          go_simp
        simp only [Act.put, List.setIfInBounds_toArray, List.set_cons_zero, List.set_cons_succ]
        refine handCall 12 (some 25) 38 #[.int .i64 (n : Int), .slice a0 k0 c0] (by kernel_rfl) rfl rfl (by kernel_rfl) (by simp [go_sem]) ((CW.out _ SA1).mono ?_)
        rintro e w3 ⟨v3, vs3, rfl, ho3, hb3⟩
        obtain ⟨ad, cd, hd⟩ := ho3.shape
        subst hd
        have SA2 := SA1.step hb3
        clear hHeld ho3 hb3
        have hdl := HDL.out
        rw [hdl]
        clear hdl
        refine ⟨_, rfl, (by exact (HX1.out _ SA2).cells), fun hHeld => ?_⟩
        simp only [Act.put, List.setIfInBounds_toArray, List.set_cons_zero, List.set_cons_succ]
        refine handRead 13 (some 26) (.int .i64 (dl : Int)) rfl rfl (by kernel_rfl) (by kernel_rfl) (by kernel_rfl) (fun _ _ _ h => h) (by kernel_rfl) (by assumption) ?_ ?_
        · intro w hSw
          (try dsimp only at hSw)
          go_simp
        simp only [Act.put, List.setIfInBounds_toArray, List.set_cons_zero, List.set_cons_succ]
        refine handRead 14 (some 27) (.bool false) rfl rfl (by kernel_rfl) (by kernel_rfl) (by kernel_rfl) (fun _ _ _ h => h) (by kernel_rfl) (by assumption) ?_ ?_
        · intro w hSw
          (try dsimp only at hSw)
          go_simp
        simp only [Act.put, List.setIfInBounds_toArray, List.set_cons_zero, List.set_cons_succ]
        refine handRead 15 (some 28) (.bool false) rfl rfl (by kernel_rfl) (by kernel_rfl) (by kernel_rfl) (fun _ _ _ h => h) (by kernel_rfl) (by assumption) ?_ ?_
        · intro w hSw
          (try dsimp only at hSw)
          go_simp
        simp only [Act.put, List.setIfInBounds_toArray, List.set_cons_zero, List.set_cons_succ]
        refine handRead 16 (some 29) (.bool false) rfl rfl (by kernel_rfl) (by kernel_rfl) (by kernel_rfl) (fun _ _ _ h => h) (by kernel_rfl) (by assumption) ?_ ?_
        · intro w hSw
          (try dsimp only at hSw)
          go_simp
        simp only [Act.put, List.setIfInBounds_toArray, List.set_cons_zero, List.set_cons_succ]
        refine handRead 17 (some 30) (.pointer (some ⟨H, 3, none⟩)) rfl rfl (by kernel_rfl) (by kernel_rfl) (by kernel_rfl) (fun _ _ _ h => h) (by kernel_rfl) (by assumption) ?_ ?_
        · intro w hSw
          (try dsimp only at hSw)
          go_simp
        simp only [Act.put, List.setIfInBounds_toArray, List.set_cons_zero, List.set_cons_succ]
        refine handRead 18 (some 31) (.slice a3 k3 c3) rfl rfl (by kernel_rfl) (by kernel_rfl) (by kernel_rfl) (fun _ _ _ h => h) (by kernel_rfl) (by assumption) ?_ ?_
        · intro w hSw
          (try dsimp only at hSw)
          go_simp
        simp only [Act.put, List.setIfInBounds_toArray, List.set_cons_zero, List.set_cons_succ]
        refine handRead 19 (some 32) (.int .i64 (k3 : Int)) rfl rfl (by kernel_rfl) (by kernel_rfl) (by kernel_rfl) (fun _ _ _ h => h) (by kernel_rfl) (by assumption) ?_ ?_
        · intro w hSw
          (try dsimp only at hSw)
          go_simp
        simp only [Act.put, List.setIfInBounds_toArray, List.set_cons_zero, List.set_cons_succ]
        refine handRead 20 (some 33) (.bool false) rfl rfl (by kernel_rfl) (by kernel_rfl) (by kernel_rfl) (fun _ _ _ h => h) (by kernel_rfl) (by assumption) ?_ ?_
        · intro w hSw
          (try dsimp only at hSw)
          go_simp
        simp only [Act.put, List.setIfInBounds_toArray, List.set_cons_zero, List.set_cons_succ]
        refine handRead 21 (some 34) (.bool false) rfl rfl (by kernel_rfl) (by kernel_rfl) (by kernel_rfl) (fun _ _ _ h => h) (by kernel_rfl) (by assumption) ?_ ?_
        · intro w hSw
          (try dsimp only at hSw)
          go_simp
        simp only [Act.put, List.setIfInBounds_toArray, List.set_cons_zero, List.set_cons_succ]
        refine wpAnyH_done (by kernel_rfl) ?_ _
        have HS3 : Hid (Since H W w3) := HB.out.tran SA2
        have HX3 : Hid (∀ w', Since w3.heap.size w3 w' → Bx4 w' H (.slice a0 k0 c0) (.slice a1 n c1) (.slice a2 k2 c2) (.slice a3 k3 c3)) := fun w' hs => HX1.out w' (SA2.tran hs)
        have HKN3 := HKN.out w3 HS3.out
        have HOW3 := HOW.out w3 HS3.out
        have HLN3 : Hid (∀ w', Since H W w' → ReadsLt w' (.slice a3 k3 c3) f.ln) := HLN.out
        have HCRW3 : Hid (∀ w' p q, Since H W w' → Calls Try.prog 50 #[.agg #[.slice a0 k0 c0, .slice a1 n c1, .slice a2 k2 c2, .slice a3 k3 c3], .int .i64 p, .int .i64 q] w' fun e W' => e = .returned (.int .i64 (ixD dds p q)) ∧ Below w'.heap.size w' W') := HCRW.out
        obtain ⟨-, x0, x1, x2, x3, -⟩ := HX3.out w3 (Since.start w3)
        obtain ⟨a8, c8, hv8, hc8⟩ := HKN3
        simp only [Value.slice.injEq] at hv8
        obtain ⟨rfl, -, rfl⟩ := hv8
        obtain ⟨a7, c7, hv7, hc7⟩ := HOW3
        simp only [Value.slice.injEq] at hv7
        obtain ⟨rfl, -, rfl⟩ := hv7
        clear SA0 SA1 SA2 HX1 HB CL CW HCRW HKN HOW HLN HDL
        have HC8 : Hid (f.kn = [] ∨ ∃ g off, a1 = some ⟨g, off, none⟩ ∧ g < w3.heap.size ∧ ∀ j (hj : j < f.kn.length), ∃ u, w3.cell? ⟨g, off + j, none⟩ = some u ∧ Reads w3 u f.kn[j]) := hc8
        have HC7 : Hid (f.ow = [] ∨ ∃ g off, a2 = some ⟨g, off, none⟩ ∧ g < w3.heap.size ∧ ∀ j (hj : j < f.ow.length), ∃ u, w3.cell? ⟨g, off + j, none⟩ = some u ∧ Reads w3 u f.ow[j]) := hc7
        clear hc8 hc7
        go_wp2
        go_loop [38] (fun i => ∃ k : Nat, k ≤ n ∧ i = .int .i64 k ∧ Hid (∀ j (hj : j < f.kn.length), j < k → rowB (n : Int) 60 f.kn[j] = true)) (fun i => n - (intOf i).toNat)
        case atStart => exact ⟨0, Nat.zero_le _, rfl, fun j hj h => absurd h (Nat.not_lt_zero _)⟩
        case round =>
          obtain ⟨k, hk, rfl, HA⟩ := hrel
          by_cases hlt : k < n
          · have hlt' : (k : Int) < (n : Int) := by omega
            have hkl : k < f.kn.length := by rw [HNQ.out]; exact hlt
            obtain ⟨g8, o8, ha8, hg8, hcc⟩ := HC8.out.resolve_left (fun e => by rw [e] at hkl; exact absurd hkl (Nat.not_lt_zero _))
            obtain ⟨u, hu, hr⟩ := hcc k hkl
            have HNO : Hid (rowB (n : Int) 60 f.kn[k] = false → res = false) := fun hf => by rw [HG2.out, rowsAll_no f.kn _ _ k hkl hf]; rfl
            have HYES : Hid (rowB (n : Int) 60 f.kn[k] = true → ∀ j (hj : j < f.kn.length), j < k + 1 → rowB (n : Int) 60 f.kn[j] = true) := fun hf j hj h => by
              by_cases e : j = k
              · subst e; exact hf
              · exact HA.out j hj (by omega)
            have HRB : Hid (rowB (n : Int) 60 f.kn[k] = (decide ((f.kn[k].length : Int) = (n : Int)) && allB f.kn[k] 0 60)) := rfl
            have hlr := HKI.out f.kn[k] (List.getElem_mem hkl)
            have CA : Hid (Calls Try.prog 49 #[u, .int .i64 0, .int .i64 60] w3 fun e W' => e = .returned (.bool (allB f.kn[k] 0 60)) ∧ W' = w3) := l1All_any w3 u f.kn[k] 0 60 hr (by omega)
            generalize rowB (n : Int) 60 f.kn[k] = rb at *
            generalize f.kn[k] = rr at *
            obtain ⟨av, cv, rfl⟩ := hr.shape
            clear hr hcc hg8
            generalize allB rr 0 60 = ab at *
            generalize rr.length = rl at *
            subst ha8
            by_cases hl2 : (rl : Int) = (n : Int)
            · have d0 : ((rl : Int) != (n : Int)) = false := by rw [hl2]; simp
              rw [decide_eq_true hl2, Bool.true_and] at HRB
              clear hl2
              cases ab with
              | true =>
                have HA1 : Hid (∀ j (hj : j < f.kn.length), j < k + 1 → rowB (n : Int) 60 f.kn[j] = true) := HYES.out HRB.out
                clear HNO HYES HRB
                go_wp2_with fail
                refine CA.out.mono ?_
                rintro e w9 ⟨rfl, rfl⟩
                go_wp2
                go_round
                case rel => exact ⟨k + 1, by omega, by go_num, HA1⟩
                case measure => simp [intOf]; omega
              | false =>
                have HFL : Hid (res = false) := HNO.out HRB.out
                clear HNO HYES HRB
                go_wp2_with fail
                refine CA.out.mono ?_
                rintro e w9 ⟨rfl, rfl⟩
                go_wp2
                go_ret
                rw [HH.out]
                exact ⟨ret_bool HFL.out.symm, HS3.out.1⟩
            · have d0 : ((rl : Int) != (n : Int)) = true := bne_iff_ne.2 hl2
              have HFL : Hid (res = false) := HNO.out (by rw [HRB.out, decide_eq_false hl2]; rfl)
              clear HNO HYES HRB hl2
              go_wp2
              go_ret
              rw [HH.out]
              exact ⟨ret_bool HFL.out.symm, HS3.out.1⟩
          · have hlt' : ¬ (k : Int) < (n : Int) := by omega
            have HG3 : Hid (res = (f.ow.all (rowB (n : Int) 1) && f.ln.all GL)) := by
              show _ = _
              rw [HG2.out, rowsAll_yes f.kn (n : Int) 60 fun j hj => HA.out j hj (by have := HNQ.out; omega)]
              rfl
            clear HG2 HA HC8
            go_wp2
            go_loop [55] (fun i => ∃ k : Nat, k ≤ k2 ∧ i = .int .i64 k ∧ Hid (∀ j (hj : j < f.ow.length), j < k → rowB (n : Int) 1 f.ow[j] = true)) (fun i => k2 - (intOf i).toNat)
            case atStart => exact ⟨0, Nat.zero_le _, rfl, fun j hj h => absurd h (Nat.not_lt_zero _)⟩
            case round =>
              obtain ⟨k', hk', rfl, HA⟩ := hrel
              by_cases hlt2 : k' < k2
              · have hlt2' : (k' : Int) < (k2 : Int) := by omega
                have hkl : k' < f.ow.length := by rw [HK2.out]; exact hlt2
                obtain ⟨g8, o8, ha8, hg8, hcc⟩ := HC7.out.resolve_left (fun e => by rw [e] at hkl; exact absurd hkl (Nat.not_lt_zero _))
                obtain ⟨u, hu, hr⟩ := hcc k' hkl
                have HNO : Hid (rowB (n : Int) 1 f.ow[k'] = false → res = false) := fun hf => by rw [HG3.out, rowsAll_no f.ow _ _ k' hkl hf]; rfl
                have HYES : Hid (rowB (n : Int) 1 f.ow[k'] = true → ∀ j (hj : j < f.ow.length), j < k' + 1 → rowB (n : Int) 1 f.ow[j] = true) := fun hf j hj h => by
                  by_cases e : j = k'
                  · subst e; exact hf
                  · exact HA.out j hj (by omega)
                have HRB : Hid (rowB (n : Int) 1 f.ow[k'] = (decide ((f.ow[k'].length : Int) = (n : Int)) && allB f.ow[k'] 0 1)) := rfl
                have hlr := HOI.out f.ow[k'] (List.getElem_mem hkl)
                have CA : Hid (Calls Try.prog 49 #[u, .int .i64 0, .int .i64 1] w3 fun e W' => e = .returned (.bool (allB f.ow[k'] 0 1)) ∧ W' = w3) := l1All_any w3 u f.ow[k'] 0 1 hr (by omega)
                generalize rowB (n : Int) 1 f.ow[k'] = rb at *
                generalize f.ow[k'] = rr at *
                obtain ⟨av, cv, rfl⟩ := hr.shape
                clear hr hcc hg8
                generalize allB rr 0 1 = ab at *
                generalize rr.length = rl at *
                subst ha8
                by_cases hl2 : (rl : Int) = (n : Int)
                · have d0 : ((rl : Int) != (n : Int)) = false := by rw [hl2]; simp
                  rw [decide_eq_true hl2, Bool.true_and] at HRB
                  clear hl2
                  cases ab with
                  | true =>
                    have HA1 : Hid (∀ j (hj : j < f.ow.length), j < k' + 1 → rowB (n : Int) 1 f.ow[j] = true) := HYES.out HRB.out
                    clear HNO HYES HRB
                    go_wp2_with fail
                    refine CA.out.mono ?_
                    rintro e w9 ⟨rfl, rfl⟩
                    go_wp2
                    go_round
                    case rel => exact ⟨k' + 1, by omega, by go_num, HA1⟩
                    case measure => simp [intOf]; omega
                  | false =>
                    have HFL : Hid (res = false) := HNO.out HRB.out
                    clear HNO HYES HRB
                    go_wp2_with fail
                    refine CA.out.mono ?_
                    rintro e w9 ⟨rfl, rfl⟩
                    go_wp2
                    go_ret
                    rw [HH.out]
                    exact ⟨ret_bool HFL.out.symm, HS3.out.1⟩
                · have d0 : ((rl : Int) != (n : Int)) = true := bne_iff_ne.2 hl2
                  have HFL : Hid (res = false) := HNO.out (by rw [HRB.out, decide_eq_false hl2]; rfl)
                  clear HNO HYES HRB hl2
                  go_wp2
                  go_ret
                  rw [HH.out]
                  exact ⟨ret_bool HFL.out.symm, HS3.out.1⟩
              · have hlt2' : ¬ (k' : Int) < (k2 : Int) := by omega
                have HG4 : Hid (res = f.ln.all GL) := by
                  show _ = _
                  rw [HG3.out, rowsAll_yes f.ow (n : Int) 1 fun j hj => HA.out j hj (by have := HK2.out; omega)]
                  rfl
                clear HG3 HA HC7
                go_wp2
                go_loopw [72] (fun i wr => ∃ k : Nat, k ≤ k3 ∧ i = .int .i64 k ∧ Hid ((∀ j (hj : j < f.ln.length), j < k → GL f.ln[j] = true) ∧ Since w3.heap.size w3 wr)) (fun i _ => k3 - (intOf i).toNat)
                case atStart => exact ⟨0, Nat.zero_le _, rfl, fun j hj h => absurd h (Nat.not_lt_zero _), Since.start w3⟩
                case round =>
                  obtain ⟨i, hi, rfl, HK⟩ := hrel
                  by_cases hlt3 : i < k3
                  · have hlt3' : (i : Int) < (k3 : Int) := by omega
                    have hkl : i < f.ln.length := by rw [HK3.out]; exact hlt3
                    obtain ⟨a9, c9, hv9, hc9⟩ := HLN3.out wr (HS3.out.tran HK.out.2)
                    simp only [Value.slice.injEq] at hv9
                    obtain ⟨ha9, -, rfl⟩ := hv9
                    obtain ⟨g9, o9, hb9, hg9, hcc⟩ := hc9.resolve_left (fun e => by rw [e] at hkl; exact absurd hkl (Nat.not_lt_zero _))
                    rw [hb9] at ha9
                    obtain ⟨q0, q1, q2, q3, q4⟩ := hcc i hkl
                    have HYES : Hid (GL f.ln[i] = true → ∀ j (hj : j < f.ln.length), j < i + 1 → GL f.ln[j] = true) := fun hf j hj h => by
                      by_cases e : j = i
                      · subst e; exact hf
                      · exact HK.out.1 j hj (by omega)
                    have HNO : Hid (GL f.ln[i] = false → res = false) := fun hf => by rw [HG4.out]; exact ltAll_no f.ln _ i hkl hf
                    have HGX : Hid (GL f.ln[i] = (decide (0 ≤ ixD dds f.ln[i].tt f.ln[i].bb) && (decide (0 ≤ f.ln[i].fr ∧ f.ln[i].fr ≤ (n : Int) - 1) && decide (1 ≤ f.ln[i].sq ∧ f.ln[i].sq ≤ 60)))) := HGL.out f.ln[i]
                    clear hcc hg9 hb9 hc9
                    generalize f.ln[i] = x at *
                    have HSA : Hid (Since w3.heap.size w3 (wr.alloc (.cells #[.int .i64 x.tt, .int .i64 x.bb, .int .i64 x.fr, .int .i64 x.sq, .bool x.ak] 66))) := HK.out.2.step ((Below.refl _ wr).alloc (Nat.le_refl _) _)
                    have CRW : Hid (Calls Try.prog 50 #[.agg #[.slice a0 k0 c0, .slice a1 n c1, .slice a2 k2 c2, .slice a3 k3 c3], .int .i64 x.tt, .int .i64 x.bb] (wr.alloc (.cells #[.int .i64 x.tt, .int .i64 x.bb, .int .i64 x.fr, .int .i64 x.sq, .bool x.ak] 66)) fun e W' => e = .returned (.int .i64 (ixD dds x.tt x.bb)) ∧ Below (wr.alloc (.cells #[.int .i64 x.tt, .int .i64 x.bb, .int .i64 x.fr, .int .i64 x.sq, .bool x.ak] 66)).heap.size (wr.alloc (.cells #[.int .i64 x.tt, .int .i64 x.bb, .int .i64 x.fr, .int .i64 x.sq, .bool x.ak] 66)) W') := HCRW3.out _ _ _ (HS3.out.tran HSA.out)
                    have HBX : Hid (∀ w', Since (wr.alloc (.cells #[.int .i64 x.tt, .int .i64 x.bb, .int .i64 x.fr, .int .i64 x.sq, .bool x.ak] 66)).heap.size (wr.alloc (.cells #[.int .i64 x.tt, .int .i64 x.bb, .int .i64 x.fr, .int .i64 x.sq, .bool x.ak] 66)) w' → Bx5 w' wr.heap.size (.int .i64 x.tt) (.int .i64 x.bb) (.int .i64 x.fr) (.int .i64 x.sq) (.bool x.ak)) := fun w' hs => (Bx5.new wr _ _ _ _ _ _).below hs.1
                    obtain ⟨-, y0, y1, y2, y3, -⟩ := HX3.out _ HK.out.2
                    obtain ⟨-, v0, v1, v2, v3, -⟩ := HX3.out _ HSA.out
                    have CI1 : Hid (∀ w, Calls Try.prog 51 #[.int .i64 x.fr, .int .i64 0, .int .i64 ((n : Int) - 1)] w fun e W' => e = .returned (.bool (decide (0 ≤ x.fr ∧ x.fr ≤ (n : Int) - 1))) ∧ W' = w) := fun w => l1In_any x.fr 0 _ w
                    have CI2 : Hid (∀ w, Calls Try.prog 51 #[.int .i64 x.sq, .int .i64 1, .int .i64 60] w fun e W' => e = .returned (.bool (decide (1 ≤ x.sq ∧ x.sq ≤ 60))) ∧ W' = w) := fun w => l1In_any x.sq 1 60 w
                    have hwn : IntKind.i64.wrap ((n : Int) - 1) = (n : Int) - 1 := by rw [IntKind.wrap_i64]; omega
                    subst ha9
                    generalize ixD dds x.tt x.bb = ix at *
                    generalize decide (0 ≤ x.fr ∧ x.fr ≤ (n : Int) - 1) = bf at *
                    generalize decide (1 ≤ x.sq ∧ x.sq ≤ 60) = bs at *
                    generalize GL x = gx at *
                    by_cases hix : 0 ≤ ix
                    · have dx : decide (ix < 0) = false := decide_eq_false (by omega)
                      rw [decide_eq_true hix, Bool.true_and] at HGX
                      clear hix
                      cases bf with
                      | false =>
                        have HFL : Hid (res = false) := HNO.out HGX.out
                        clear HYES HNO HGX
                        go_wp2_with fail
                        refine CRW.out.mono ?_
                        rintro e w5 ⟨rfl, hb5⟩
                        have HS5 : Hid (Since w3.heap.size w3 w5) := HSA.out.step hb5
                        obtain ⟨-, z0, z1, z2, z3, z4, -⟩ := HBX.out w5 ((Since.start _).step hb5)
                        clear hb5
                        go_wp2_with fail
                        refine (CI1.out _).mono ?_
                        rintro e w6 ⟨rfl, rfl⟩
                        go_wp2
                        go_ret
                        rw [HH.out]
                        exact ⟨ret_bool HFL.out.symm, (HS3.out.tran HS5.out).1⟩
                      | true =>
                        rw [Bool.true_and] at HGX
                        cases bs with
                        | false =>
                          have HFL : Hid (res = false) := HNO.out HGX.out
                          clear HYES HNO HGX
                          go_wp2_with fail
                          refine CRW.out.mono ?_
                          rintro e w5 ⟨rfl, hb5⟩
                          have HS5 : Hid (Since w3.heap.size w3 w5) := HSA.out.step hb5
                          obtain ⟨-, z0, z1, z2, z3, z4, -⟩ := HBX.out w5 ((Since.start _).step hb5)
                          clear hb5
                          go_wp2_with fail
                          refine (CI1.out _).mono ?_
                          rintro e w6 ⟨rfl, rfl⟩
                          go_wp2_with fail
                          refine (CI2.out _).mono ?_
                          rintro e w6 ⟨rfl, rfl⟩
                          go_wp2
                          go_ret
                          rw [HH.out]
                          exact ⟨ret_bool HFL.out.symm, (HS3.out.tran HS5.out).1⟩
                        | true =>
                          have HA1 : Hid (∀ j (hj : j < f.ln.length), j < i + 1 → GL f.ln[j] = true) := HYES.out HGX.out
                          clear HYES HNO HGX
                          go_wp2_with fail
                          refine CRW.out.mono ?_
                          rintro e w5 ⟨rfl, hb5⟩
                          have HS5 : Hid (Since w3.heap.size w3 w5) := HSA.out.step hb5
                          obtain ⟨-, z0, z1, z2, z3, z4, -⟩ := HBX.out w5 ((Since.start _).step hb5)
                          clear hb5
                          go_wp2_with fail
                          refine (CI1.out _).mono ?_
                          rintro e w6 ⟨rfl, rfl⟩
                          go_wp2_with fail
                          refine (CI2.out _).mono ?_
                          rintro e w6 ⟨rfl, rfl⟩
                          go_wp2
                          go_roundw
                          case rel => exact ⟨i + 1, by omega, by go_num, HA1.out, HS5.out⟩
                          case measure => simp [intOf]; omega
                    · have dx : decide (ix < 0) = true := decide_eq_true (by omega)
                      have HFL : Hid (res = false) := HNO.out (by rw [HGX.out, decide_eq_false hix]; rfl)
                      clear hix HYES HNO HGX
                      go_wp2_with fail
                      refine CRW.out.mono ?_
                      rintro e w5 ⟨rfl, hb5⟩
                      have HS5 : Hid (Since w3.heap.size w3 w5) := HSA.out.step hb5
                      clear hb5
                      go_wp2
                      go_ret
                      rw [HH.out]
                      exact ⟨ret_bool HFL.out.symm, (HS3.out.tran HS5.out).1⟩
                  · have hlt3' : ¬ (i : Int) < (k3 : Int) := by omega
                    have HFL : Hid (res = true) := by show _ = _; rw [HG4.out]; exact ltAll_yes f.ln _ fun j hj => HK.out.1 j hj (by have := HK3.out; omega)
                    go_wp2
                    go_ret
                    rw [HH.out]
                    exact ⟨ret_bool HFL.out.symm, (HS3.out.tran HK.out.2).1⟩
      · have d3 : decide ((40 : Int) < (k3 : Int)) = true := decide_eq_true (by omega)
        have HFL : Hid (res = false) := by show _ = _; rw [HG1.out, decide_eq_false g3]; rfl
        clear HG1 g2
        go_enter Try.func23, Try.ntmps23
        go_wp2
        have SA0 := Since.start (W.alloc (.cells #[.slice a0 k0 c0, .slice a1 n c1, .slice a2 k2 c2, .slice a3 k3 c3] 31))
        generalize (W.alloc (.cells #[.slice a0 k0 c0, .slice a1 n c1, .slice a2 k2 c2, .slice a3 k3 c3] 31)) = w1 at *
        generalize hHW : W.heap.size = H at *
        have HH : Hid (W.heap.size = H) := hHW
        clear hHW
        refine wp_region_held_drew (S := (fun w' => w'.cell? ⟨H, 0, none⟩ = some (.slice a0 k0 c0) ∧ w'.cell? ⟨H, 1, none⟩ = some (.slice a1 n c1) ∧ w'.cell? ⟨H, 2, none⟩ = some (.slice a2 k2 c2) ∧ w'.cell? ⟨H, 3, none⟩ = some (.slice a3 k3 c3))) (by kernel_rfl) ?_ (fun hHeld => ?_)
        · exact (HX1.out _ SA0.drew).cells
        refine handRead 0 (some 13) (.int .i64 (n : Int)) rfl rfl (by kernel_rfl) (by kernel_rfl) (by kernel_rfl) (fun _ _ _ h => h) (by kernel_rfl) (by assumption) ?_ ?_
        · intro w hSw
          (try dsimp only at hSw)
          go_simp
        simp only [Act.put, List.setIfInBounds_toArray, List.set_cons_zero, List.set_cons_succ]
        refine handRead 1 (some 14) (.pointer (some ⟨H, 0, none⟩)) rfl rfl (by kernel_rfl) (by kernel_rfl) (by kernel_rfl) (fun _ _ _ h => h) (by kernel_rfl) (by assumption) ?_ ?_
        · intro w hSw
          (try dsimp only at hSw)
          go_simp
        simp only [Act.put, List.setIfInBounds_toArray, List.set_cons_zero, List.set_cons_succ]
        refine handRead 2 (some 15) (.slice a0 k0 c0) rfl rfl (by kernel_rfl) (by kernel_rfl) (by kernel_rfl) (fun _ _ _ h => h) (by kernel_rfl) (by assumption) ?_ ?_
        · intro w hSw
          (try dsimp only at hSw)
          go_simp
        simp only [Act.put, List.setIfInBounds_toArray, List.set_cons_zero, List.set_cons_succ]
        refine handCall 3 (some 16) 48 #[.int .i64 (n : Int), .slice a0 k0 c0] (by kernel_rfl) rfl rfl (by kernel_rfl) (by simp [go_sem]) ((CL.out _ SA0.drew).mono ?_)
        rintro e w2 ⟨rfl, hb2⟩
        have SA1 := SA0.drew.step hb2
        clear hHeld hb2
        refine ⟨_, rfl, (by exact (HX1.out _ SA1).cells), fun hHeld => ?_⟩
        simp only [Act.put, List.setIfInBounds_toArray, List.set_cons_zero, List.set_cons_succ]
        refine handRead 4 (some 17) (.bool false) rfl rfl (by kernel_rfl) (by kernel_rfl) (by kernel_rfl) (fun _ _ _ h => h) (by kernel_rfl) (by assumption) ?_ ?_
        · intro w hSw
          (try dsimp only at hSw)
          go_simp
        simp only [Act.put, List.setIfInBounds_toArray, List.set_cons_zero, List.set_cons_succ]
        refine handRead 5 (some 18) (.bool false) rfl rfl (by kernel_rfl) (by kernel_rfl) (by kernel_rfl) (fun _ _ _ h => h) (by kernel_rfl) (by assumption) ?_ ?_
        · intro w hSw
          (try dsimp only at hSw)
          go_simp
        simp only [Act.put, List.setIfInBounds_toArray, List.set_cons_zero, List.set_cons_succ]
        refine handRead 6 (some 19) (.pointer (some ⟨H, 2, none⟩)) rfl rfl (by kernel_rfl) (by kernel_rfl) (by kernel_rfl) (fun _ _ _ h => h) (by kernel_rfl) (by assumption) ?_ ?_
        · intro w hSw
          (try dsimp only at hSw)
          go_simp
        simp only [Act.put, List.setIfInBounds_toArray, List.set_cons_zero, List.set_cons_succ]
        refine handRead 7 (some 20) (.slice a2 k2 c2) rfl rfl (by kernel_rfl) (by kernel_rfl) (by kernel_rfl) (fun _ _ _ h => h) (by kernel_rfl) (by assumption) ?_ ?_
        · intro w hSw
          (try dsimp only at hSw)
          go_simp
        simp only [Act.put, List.setIfInBounds_toArray, List.set_cons_zero, List.set_cons_succ]
        refine handRead 8 (some 21) (.int .i64 (k2 : Int)) rfl rfl (by kernel_rfl) (by kernel_rfl) (by kernel_rfl) (fun _ _ _ h => h) (by kernel_rfl) (by assumption) ?_ ?_
        · intro w hSw
          (try dsimp only at hSw)
          go_simp
        simp only [Act.put, List.setIfInBounds_toArray, List.set_cons_zero, List.set_cons_succ]
        refine handRead 9 (some 22) (.int .i64 (n : Int)) rfl rfl (by kernel_rfl) (by kernel_rfl) (by kernel_rfl) (fun _ _ _ h => h) (by kernel_rfl) (by assumption) ?_ ?_
        · intro w hSw
          (try dsimp only at hSw)
          go_simp
        simp only [Act.put, List.setIfInBounds_toArray, List.set_cons_zero, List.set_cons_succ]
        refine handRead 10 (some 23) (.pointer (some ⟨H, 0, none⟩)) rfl rfl (by kernel_rfl) (by kernel_rfl) (by kernel_rfl) (fun _ _ _ h => h) (by kernel_rfl) (by assumption) ?_ ?_
        · intro w hSw
          (try dsimp only at hSw)
          go_simp
        simp only [Act.put, List.setIfInBounds_toArray, List.set_cons_zero, List.set_cons_succ]
        refine handRead 11 (some 24) (.slice a0 k0 c0) rfl rfl (by kernel_rfl) (by kernel_rfl) (by kernel_rfl) (fun _ _ _ h => h) (by kernel_rfl) (by assumption) ?_ ?_
        · intro w hSw
          (try dsimp only at hSw)
          go_simp
        simp only [Act.put, List.setIfInBounds_toArray, List.set_cons_zero, List.set_cons_succ]
        refine handCall 12 (some 25) 38 #[.int .i64 (n : Int), .slice a0 k0 c0] (by kernel_rfl) rfl rfl (by kernel_rfl) (by simp [go_sem]) ((CW.out _ SA1).mono ?_)
        rintro e w3 ⟨v3, vs3, rfl, ho3, hb3⟩
        obtain ⟨ad, cd, hd⟩ := ho3.shape
        subst hd
        have SA2 := SA1.step hb3
        clear hHeld ho3 hb3
        have hdl := HDL.out
        rw [hdl]
        clear hdl
        refine ⟨_, rfl, (by exact (HX1.out _ SA2).cells), fun hHeld => ?_⟩
        simp only [Act.put, List.setIfInBounds_toArray, List.set_cons_zero, List.set_cons_succ]
        refine handRead 13 (some 26) (.int .i64 (dl : Int)) rfl rfl (by kernel_rfl) (by kernel_rfl) (by kernel_rfl) (fun _ _ _ h => h) (by kernel_rfl) (by assumption) ?_ ?_
        · intro w hSw
          (try dsimp only at hSw)
          go_simp
        simp only [Act.put, List.setIfInBounds_toArray, List.set_cons_zero, List.set_cons_succ]
        refine handRead 14 (some 27) (.bool false) rfl rfl (by kernel_rfl) (by kernel_rfl) (by kernel_rfl) (fun _ _ _ h => h) (by kernel_rfl) (by assumption) ?_ ?_
        · intro w hSw
          (try dsimp only at hSw)
          go_simp
        simp only [Act.put, List.setIfInBounds_toArray, List.set_cons_zero, List.set_cons_succ]
        refine handRead 15 (some 28) (.bool false) rfl rfl (by kernel_rfl) (by kernel_rfl) (by kernel_rfl) (fun _ _ _ h => h) (by kernel_rfl) (by assumption) ?_ ?_
        · intro w hSw
          (try dsimp only at hSw)
          go_simp
        simp only [Act.put, List.setIfInBounds_toArray, List.set_cons_zero, List.set_cons_succ]
        refine handRead 16 (some 29) (.bool false) rfl rfl (by kernel_rfl) (by kernel_rfl) (by kernel_rfl) (fun _ _ _ h => h) (by kernel_rfl) (by assumption) ?_ ?_
        · intro w hSw
          (try dsimp only at hSw)
          go_simp
        simp only [Act.put, List.setIfInBounds_toArray, List.set_cons_zero, List.set_cons_succ]
        refine handRead 17 (some 30) (.pointer (some ⟨H, 3, none⟩)) rfl rfl (by kernel_rfl) (by kernel_rfl) (by kernel_rfl) (fun _ _ _ h => h) (by kernel_rfl) (by assumption) ?_ ?_
        · intro w hSw
          (try dsimp only at hSw)
          go_simp
        simp only [Act.put, List.setIfInBounds_toArray, List.set_cons_zero, List.set_cons_succ]
        refine handRead 18 (some 31) (.slice a3 k3 c3) rfl rfl (by kernel_rfl) (by kernel_rfl) (by kernel_rfl) (fun _ _ _ h => h) (by kernel_rfl) (by assumption) ?_ ?_
        · intro w hSw
          (try dsimp only at hSw)
          go_simp
        simp only [Act.put, List.setIfInBounds_toArray, List.set_cons_zero, List.set_cons_succ]
        refine handRead 19 (some 32) (.int .i64 (k3 : Int)) rfl rfl (by kernel_rfl) (by kernel_rfl) (by kernel_rfl) (fun _ _ _ h => h) (by kernel_rfl) (by assumption) ?_ ?_
        · intro w hSw
          (try dsimp only at hSw)
          go_simp
        simp only [Act.put, List.setIfInBounds_toArray, List.set_cons_zero, List.set_cons_succ]
        refine handRead 20 (some 33) (.bool true) rfl rfl (by kernel_rfl) (by kernel_rfl) (by kernel_rfl) (fun _ _ _ h => h) (by kernel_rfl) (by assumption) ?_ ?_
        · intro w hSw
          (try dsimp only at hSw)
          go_simp
        simp only [Act.put, List.setIfInBounds_toArray, List.set_cons_zero, List.set_cons_succ]
        refine handRead 21 (some 34) (.bool true) rfl rfl (by kernel_rfl) (by kernel_rfl) (by kernel_rfl) (fun _ _ _ h => h) (by kernel_rfl) (by assumption) ?_ ?_
        · intro w hSw
          (try dsimp only at hSw)
          go_simp
        simp only [Act.put, List.setIfInBounds_toArray, List.set_cons_zero, List.set_cons_succ]
        refine wpAnyH_done (by kernel_rfl) ?_ _
        go_wp2
        go_ret
        rw [HH.out]
        exact ⟨ret_bool HFL.out.symm, (HB.out.tran SA2).1⟩
    · have d2 : ((k2 : Int) != (dl : Int)) = true := bne_iff_ne.2 g2
      have HFL : Hid (res = false) := by show _ = _; rw [HG1.out, decide_eq_false g2]; simp
      clear HG1 g2
      go_enter Try.func23, Try.ntmps23
      go_wp2
      have SA0 := Since.start (W.alloc (.cells #[.slice a0 k0 c0, .slice a1 n c1, .slice a2 k2 c2, .slice a3 k3 c3] 31))
      generalize (W.alloc (.cells #[.slice a0 k0 c0, .slice a1 n c1, .slice a2 k2 c2, .slice a3 k3 c3] 31)) = w1 at *
      generalize hHW : W.heap.size = H at *
      have HH : Hid (W.heap.size = H) := hHW
      clear hHW
      refine wp_region_held_drew (S := (fun w' => w'.cell? ⟨H, 0, none⟩ = some (.slice a0 k0 c0) ∧ w'.cell? ⟨H, 1, none⟩ = some (.slice a1 n c1) ∧ w'.cell? ⟨H, 2, none⟩ = some (.slice a2 k2 c2) ∧ w'.cell? ⟨H, 3, none⟩ = some (.slice a3 k3 c3))) (by kernel_rfl) ?_ (fun hHeld => ?_)
      · exact (HX1.out _ SA0.drew).cells
      refine handRead 0 (some 13) (.int .i64 (n : Int)) rfl rfl (by kernel_rfl) (by kernel_rfl) (by kernel_rfl) (fun _ _ _ h => h) (by kernel_rfl) (by assumption) ?_ ?_
      · intro w hSw
        (try dsimp only at hSw)
        go_simp
      simp only [Act.put, List.setIfInBounds_toArray, List.set_cons_zero, List.set_cons_succ]
      refine handRead 1 (some 14) (.pointer (some ⟨H, 0, none⟩)) rfl rfl (by kernel_rfl) (by kernel_rfl) (by kernel_rfl) (fun _ _ _ h => h) (by kernel_rfl) (by assumption) ?_ ?_
      · intro w hSw
        (try dsimp only at hSw)
        go_simp
      simp only [Act.put, List.setIfInBounds_toArray, List.set_cons_zero, List.set_cons_succ]
      refine handRead 2 (some 15) (.slice a0 k0 c0) rfl rfl (by kernel_rfl) (by kernel_rfl) (by kernel_rfl) (fun _ _ _ h => h) (by kernel_rfl) (by assumption) ?_ ?_
      · intro w hSw
        (try dsimp only at hSw)
        go_simp
      simp only [Act.put, List.setIfInBounds_toArray, List.set_cons_zero, List.set_cons_succ]
      refine handCall 3 (some 16) 48 #[.int .i64 (n : Int), .slice a0 k0 c0] (by kernel_rfl) rfl rfl (by kernel_rfl) (by simp [go_sem]) ((CL.out _ SA0.drew).mono ?_)
      rintro e w2 ⟨rfl, hb2⟩
      have SA1 := SA0.drew.step hb2
      clear hHeld hb2
      refine ⟨_, rfl, (by exact (HX1.out _ SA1).cells), fun hHeld => ?_⟩
      simp only [Act.put, List.setIfInBounds_toArray, List.set_cons_zero, List.set_cons_succ]
      refine handRead 4 (some 17) (.bool false) rfl rfl (by kernel_rfl) (by kernel_rfl) (by kernel_rfl) (fun _ _ _ h => h) (by kernel_rfl) (by assumption) ?_ ?_
      · intro w hSw
        (try dsimp only at hSw)
        go_simp
      simp only [Act.put, List.setIfInBounds_toArray, List.set_cons_zero, List.set_cons_succ]
      refine handRead 5 (some 18) (.bool false) rfl rfl (by kernel_rfl) (by kernel_rfl) (by kernel_rfl) (fun _ _ _ h => h) (by kernel_rfl) (by assumption) ?_ ?_
      · intro w hSw
        (try dsimp only at hSw)
        go_simp
      simp only [Act.put, List.setIfInBounds_toArray, List.set_cons_zero, List.set_cons_succ]
      refine handRead 6 (some 19) (.pointer (some ⟨H, 2, none⟩)) rfl rfl (by kernel_rfl) (by kernel_rfl) (by kernel_rfl) (fun _ _ _ h => h) (by kernel_rfl) (by assumption) ?_ ?_
      · intro w hSw
        (try dsimp only at hSw)
        go_simp
      simp only [Act.put, List.setIfInBounds_toArray, List.set_cons_zero, List.set_cons_succ]
      refine handRead 7 (some 20) (.slice a2 k2 c2) rfl rfl (by kernel_rfl) (by kernel_rfl) (by kernel_rfl) (fun _ _ _ h => h) (by kernel_rfl) (by assumption) ?_ ?_
      · intro w hSw
        (try dsimp only at hSw)
        go_simp
      simp only [Act.put, List.setIfInBounds_toArray, List.set_cons_zero, List.set_cons_succ]
      refine handRead 8 (some 21) (.int .i64 (k2 : Int)) rfl rfl (by kernel_rfl) (by kernel_rfl) (by kernel_rfl) (fun _ _ _ h => h) (by kernel_rfl) (by assumption) ?_ ?_
      · intro w hSw
        (try dsimp only at hSw)
        go_simp
      simp only [Act.put, List.setIfInBounds_toArray, List.set_cons_zero, List.set_cons_succ]
      refine handRead 9 (some 22) (.int .i64 (n : Int)) rfl rfl (by kernel_rfl) (by kernel_rfl) (by kernel_rfl) (fun _ _ _ h => h) (by kernel_rfl) (by assumption) ?_ ?_
      · intro w hSw
        (try dsimp only at hSw)
        go_simp
      simp only [Act.put, List.setIfInBounds_toArray, List.set_cons_zero, List.set_cons_succ]
      refine handRead 10 (some 23) (.pointer (some ⟨H, 0, none⟩)) rfl rfl (by kernel_rfl) (by kernel_rfl) (by kernel_rfl) (fun _ _ _ h => h) (by kernel_rfl) (by assumption) ?_ ?_
      · intro w hSw
        (try dsimp only at hSw)
        go_simp
      simp only [Act.put, List.setIfInBounds_toArray, List.set_cons_zero, List.set_cons_succ]
      refine handRead 11 (some 24) (.slice a0 k0 c0) rfl rfl (by kernel_rfl) (by kernel_rfl) (by kernel_rfl) (fun _ _ _ h => h) (by kernel_rfl) (by assumption) ?_ ?_
      · intro w hSw
        (try dsimp only at hSw)
        go_simp
      simp only [Act.put, List.setIfInBounds_toArray, List.set_cons_zero, List.set_cons_succ]
      refine handCall 12 (some 25) 38 #[.int .i64 (n : Int), .slice a0 k0 c0] (by kernel_rfl) rfl rfl (by kernel_rfl) (by simp [go_sem]) ((CW.out _ SA1).mono ?_)
      rintro e w3 ⟨v3, vs3, rfl, ho3, hb3⟩
      obtain ⟨ad, cd, hd⟩ := ho3.shape
      subst hd
      have SA2 := SA1.step hb3
      clear hHeld ho3 hb3
      have hdl := HDL.out
      rw [hdl]
      clear hdl
      refine ⟨_, rfl, (by exact (HX1.out _ SA2).cells), fun hHeld => ?_⟩
      simp only [Act.put, List.setIfInBounds_toArray, List.set_cons_zero, List.set_cons_succ]
      refine handRead 13 (some 26) (.int .i64 (dl : Int)) rfl rfl (by kernel_rfl) (by kernel_rfl) (by kernel_rfl) (fun _ _ _ h => h) (by kernel_rfl) (by assumption) ?_ ?_
      · intro w hSw
        (try dsimp only at hSw)
        go_simp
      simp only [Act.put, List.setIfInBounds_toArray, List.set_cons_zero, List.set_cons_succ]
      refine handRead 14 (some 27) (.bool true) rfl rfl (by kernel_rfl) (by kernel_rfl) (by kernel_rfl) (fun _ _ _ h => h) (by kernel_rfl) (by assumption) ?_ ?_
      · intro w hSw
        (try dsimp only at hSw)
        go_simp
      simp only [Act.put, List.setIfInBounds_toArray, List.set_cons_zero, List.set_cons_succ]
      refine handRead 15 (some 28) (.bool true) rfl rfl (by kernel_rfl) (by kernel_rfl) (by kernel_rfl) (fun _ _ _ h => h) (by kernel_rfl) (by assumption) ?_ ?_
      · intro w hSw
        (try dsimp only at hSw)
        go_simp
      simp only [Act.put, List.setIfInBounds_toArray, List.set_cons_zero, List.set_cons_succ]
      refine handRead 16 (some 29) (.bool true) rfl rfl (by kernel_rfl) (by kernel_rfl) (by kernel_rfl) (fun _ _ _ h => h) (by kernel_rfl) (by assumption) ?_ ?_
      · intro w hSw
        (try dsimp only at hSw)
        go_simp
      simp only [Act.put, List.setIfInBounds_toArray, List.set_cons_zero, List.set_cons_succ]
      refine handSkip 17 (some 30) rfl rfl (by kernel_rfl) (by kernel_rfl) (by kernel_rfl) (fun _ _ _ h => h) (by kernel_rfl) (by assumption) ?_
      simp only [Act.put, List.setIfInBounds_toArray, List.set_cons_zero, List.set_cons_succ]
      refine handSkip 18 (some 31) rfl rfl (by kernel_rfl) (by kernel_rfl) (by kernel_rfl) (fun _ _ _ h => h) (by kernel_rfl) (by assumption) ?_
      simp only [Act.put, List.setIfInBounds_toArray, List.set_cons_zero, List.set_cons_succ]
      refine handSkip 19 (some 32) rfl rfl (by kernel_rfl) (by kernel_rfl) (by kernel_rfl) (fun _ _ _ h => h) (by kernel_rfl) (by assumption) ?_
      simp only [Act.put, List.setIfInBounds_toArray, List.set_cons_zero, List.set_cons_succ]
      refine handSkip 20 (some 33) rfl rfl (by kernel_rfl) (by kernel_rfl) (by kernel_rfl) (fun _ _ _ h => h) (by kernel_rfl) (by assumption) ?_
      simp only [Act.put, List.setIfInBounds_toArray, List.set_cons_zero, List.set_cons_succ]
      refine handRead 21 (some 34) (.bool true) rfl rfl (by kernel_rfl) (by kernel_rfl) (by kernel_rfl) (fun _ _ _ h => h) (by kernel_rfl) (by assumption) ?_ ?_
      · intro w hSw
        (try dsimp only at hSw)
        go_simp
      simp only [Act.put, List.setIfInBounds_toArray, List.set_cons_zero, List.set_cons_succ]
      refine wpAnyH_done (by kernel_rfl) ?_ _
      go_wp2
      go_ret
      rw [HH.out]
      exact ⟨ret_bool HFL.out.symm, (HB.out.tran SA2).1⟩
end Go.Proofs.Ytkkamigaolejiax
