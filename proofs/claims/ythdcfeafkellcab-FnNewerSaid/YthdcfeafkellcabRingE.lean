/-
  Rings that are compared; 'isWithinHalf' of the program.
-/
import Derived.Test.YthdcfeafkellcabRingI
import Derived.Test.YthdcfeafkellcabHand
import Derived.ChangeKeysEq
import Derived.Laws.StructEq
namespace Go.Proofs.Ythdcfeafkellcab
open Go.RowKit
set_option linter.unusedVariables false

/-- Whether two rings are alike. -/
def sameR (f g : Nat → Bool) : Bool := (List.range 64).all fun i => f i == g i
theorem cells_bool : Try.prog.cellsOf 4 = 1 := by kernel_rfl
theorem eqItems_ring (d : Nat) (f g : Nat → Bool) (w : World) : ∀ l : List Nat, (∀ i ∈ l, i < 64) → (Op.eqItems (d + 1) 4 1 (ringA f) (ringA g) l).run Try.prog w = .ok (l.all fun i => f i == g i) w
  | [], _ => by simp [Op.eqItems]
  | i :: is, h => by
    have hi : i < 64 := h i (by simp)
    have px : (part 4 (ringA f) (i * 1)).run Try.prog w = .ok (.bool (f i)) w := by simp [part, isAgg, run_underlying Try.underlying4, ringA_get f i hi]
    have py : (part 4 (ringA g) (i * 1)).run Try.prog w = .ok (.bool (g i)) w := by simp [part, isAgg, run_underlying Try.underlying4, ringA_get g i hi]
    simp only [Op.eqItems, Sem.run_bind, px, py, Result.andThen_ok, run_equalIn_bool' w d 4 _ _ Try.underlying4, List.all_cons]
    have ih := eqItems_ring d f g w is fun j hj => h j (by simp [hj])
    cases hb : (f i == g i)
    · simp
    · simpa using ih
theorem ring_equal (d : Nat) (f g : Nat → Bool) (w : World) : (Op.equalIn (d + 2) 99 (.agg (ringA f)) (.agg (ringA g))).run Try.prog w = .ok (sameR f g) w := by
  obtain ⟨i0, hi⟩ : ∃ i, Try.prog.info? 4 = some i := by
    cases h : Try.prog.info? 4 with
    | none => exact absurd (show (Try.prog.info? 4).isSome = true by kernel_rfl) (by rw [h]; simp)
    | some i => exact ⟨i, rfl⟩
  rw [run_equalIn_array w (d + 1) _ _ Try.underlying99 hi, cells_bool, eqItems_ring d f g w _ (fun i hi => by simpa using hi)]
  rfl
theorem ring_eql {o : Oper} {a : Act} (x y : Operand) (t : TypeId) (ho : o.op = .binOp .eql 99 x y t) {f g : Nat → Bool} (hx : a.eval x = .agg (ringA f)) (hy : a.eval y = .agg (ringA g)) (w : World) :
    (execOp a.eval o).run Try.prog w = .ok (.value (.bool (sameR f g))) w := by
  unfold execOp
  simp only [ho, hx, hy, Sem.run_bind]
  rw [show (eqGuard .eql 99 x y (.agg (ringA f)) (.agg (ringA g))).run Try.prog w = .ok () w by simp [eqGuard, Try.eqGuardType99]]
  simp only [Result.andThen_ok, run_eql_struct, ring_equal 9998 f g w, Sem.run_pure]
theorem ring_loadx {o : Oper} {a : Act} {w : World} (x : Operand) (ho : o.op = .load 99 x) {b : Nat} {f : Nat → Bool} (hx : a.eval x = .pointer (some ⟨b, 0, none⟩)) (h : RB w b f) :
    (execOp a.eval o).run Try.prog w = .ok (.value (.agg (ringA f))) w := by
  unfold execOp
  simp only [ho, hx, Sem.run_bind, h.loadsAt, Result.andThen_ok, Sem.run_pure]
theorem RB.drewn {W : World} {b : Nat} {f : Nat → Bool} (h : RB W b f) : RB W.drew b f := h

/-- Whether some half of the round holds all. -/
def withinB (f : Nat → Bool) : Bool := (List.range 64).any fun s => sameR (partB f s 32) f

set_option maxRecDepth 100000 in
set_option maxHeartbeats 4000000 in
theorem isWithinHalf_any (W : World) (f : Nat → Bool) :
    Calls Try.prog 82 #[.agg (ringA f)] W fun e W' => e = .returned (.bool (withinB f)) ∧ Below W.heap.size W W' := by
  obtain ⟨W0, hW0⟩ : ∃ W0, W0 = W.alloc (.cells (ringA f) 99) := ⟨_, rfl⟩
  have HR0 : Hid (RB W0 W.heap.size f) := by rw [hW0]; exact RB.new W _
  have HS0 : Hid (Since W.heap.size W W0) := by rw [hW0]; exact (Since.start W).step ((Below.refl _ W).alloc (Nat.le_refl _) _)
  have HW0 : Hid (W0 = W.alloc (.cells (ringA f) 99)) := hW0
  clear hW0
  go_enter Try.func82, Try.ntmps82
  go_wp2
  go_loopw [4] (fun i wr => ∃ k : Nat, k ≤ 64 ∧ i = .int .i64 k ∧ Hid ((∀ j, j < k → sameR (partB f j 32) f = false) ∧ RB wr W.heap.size f ∧ Since W.heap.size W wr)) (fun i _ => 64 - (intOf i).toNat)
  case atStart =>
    refine ⟨0, Nat.zero_le _, rfl, fun j hj => absurd hj (Nat.not_lt_zero _), ?_⟩
    have := And.intro HR0.out HS0.out
    rw [HW0.out] at this
    exact this
  case round =>
    clear HW0 HR0 HS0
    obtain ⟨k, hk, rfl, HK⟩ := hrel
    by_cases hlt : k < 64
    · have hlt' : (k : Int) < 64 := by omega
      have HR : Hid (RB wr W.heap.size f) := HK.out.2.1
      have HS : Hid (Since W.heap.size W wr) := HK.out.2.2
      have HA : Hid (∀ j, j < k → sameR (partB f j 32) f = false) := HK.out.1
      clear HK
      cases he : sameR (partB f k 32) f with
      | true =>
        have HE : Hid (sameR (partB f k 32) f = true) := he
        have HF : Hid (withinB f = true) := by show _ = _; unfold withinB; rw [List.any_eq_true]; exact ⟨k, by simpa using hlt, he⟩
        clear he HA
        go_wp2
        refine wp_region_held_drew (S := (fun w' => RB w' W.heap.size f)) (by kernel_rfl) ?_ (fun hHeld => ?_)
        · exact HR.out.drewn
        refine handRead 0 (some 7) (.agg (ringA f)) rfl rfl (by kernel_rfl) (by kernel_rfl) (by kernel_rfl) (fun _ _ _ h => h) (by kernel_rfl) (by assumption) ?_ ?_
        · intro w hSw
          exact ring_loadx (.tmp 1) rfl rfl hSw
        simp only [Act.put, List.setIfInBounds_toArray, List.set_cons_zero, List.set_cons_succ]
        refine handRead 1 (some 8) (.int .i64 k) rfl rfl (by kernel_rfl) (by kernel_rfl) (by kernel_rfl) (fun _ _ _ h => h) (by kernel_rfl) (by assumption) ?_ ?_
        · intro w hSw
          go_simp
        simp only [Act.put, List.setIfInBounds_toArray, List.set_cons_zero, List.set_cons_succ]
        refine handRead 3 (some 10) (.agg (ringA f)) rfl rfl (by kernel_rfl) (by kernel_rfl) (by kernel_rfl) (fun _ _ _ h => h) (by kernel_rfl) (by assumption) ?_ ?_
        · intro w hSw
          exact ring_loadx (.tmp 1) rfl rfl hSw
        simp only [Act.put, List.setIfInBounds_toArray, List.set_cons_zero, List.set_cons_succ]
        refine handCall 2 (some 9) 94 #[.agg (ringA f), .int .i64 k] (by kernel_rfl) rfl rfl (by kernel_rfl) (by simp [go_sem]) ((halfFrom_any _ f k hlt).mono ?_)
        rintro e w1 ⟨rfl, hb1⟩
        have HR1 : Hid (RB w1 W.heap.size f) := RB.below hHeld hb1
        have HS1 : Hid (Since W.heap.size W w1) := HS.out.drew.step hb1
        clear hHeld hb1
        refine ⟨_, rfl, HR1.out, fun hHeld => ?_⟩
        simp only [Act.put, List.setIfInBounds_toArray, List.set_cons_zero, List.set_cons_succ]
        refine handRead 4 (some 11) (.bool true) rfl rfl (by kernel_rfl) (by kernel_rfl) (by kernel_rfl) (fun _ _ _ h => h) (by kernel_rfl) (by assumption) ?_ ?_
        · intro w hSw
          exact (ring_eql (.tmp 9) (.tmp 10) _ rfl rfl rfl w).trans (by rw [HE.out])
        simp only [Act.put, List.setIfInBounds_toArray, List.set_cons_zero, List.set_cons_succ]
        refine wpAnyH_done (by kernel_rfl) ?_ _
        go_wp2
        go_ret
        exact ⟨ret_bool HF.out.symm, HS1.out.1⟩
      | false =>
        have HE : Hid (sameR (partB f k 32) f = false) := he
        have HA1 : Hid (∀ j, j < k + 1 → sameR (partB f j 32) f = false) := fun j hj => by
          by_cases e : j = k
          · rw [e]; exact he
          · exact HA.out j (by omega)
        clear he HA
        go_wp2
        refine wp_region_held_drew (S := (fun w' => RB w' W.heap.size f)) (by kernel_rfl) ?_ (fun hHeld => ?_)
        · exact HR.out.drewn
        refine handRead 0 (some 7) (.agg (ringA f)) rfl rfl (by kernel_rfl) (by kernel_rfl) (by kernel_rfl) (fun _ _ _ h => h) (by kernel_rfl) (by assumption) ?_ ?_
        · intro w hSw
          exact ring_loadx (.tmp 1) rfl rfl hSw
        simp only [Act.put, List.setIfInBounds_toArray, List.set_cons_zero, List.set_cons_succ]
        refine handRead 1 (some 8) (.int .i64 k) rfl rfl (by kernel_rfl) (by kernel_rfl) (by kernel_rfl) (fun _ _ _ h => h) (by kernel_rfl) (by assumption) ?_ ?_
        · intro w hSw
          go_simp
        simp only [Act.put, List.setIfInBounds_toArray, List.set_cons_zero, List.set_cons_succ]
        refine handRead 3 (some 10) (.agg (ringA f)) rfl rfl (by kernel_rfl) (by kernel_rfl) (by kernel_rfl) (fun _ _ _ h => h) (by kernel_rfl) (by assumption) ?_ ?_
        · intro w hSw
          exact ring_loadx (.tmp 1) rfl rfl hSw
        simp only [Act.put, List.setIfInBounds_toArray, List.set_cons_zero, List.set_cons_succ]
        refine handCall 2 (some 9) 94 #[.agg (ringA f), .int .i64 k] (by kernel_rfl) rfl rfl (by kernel_rfl) (by simp [go_sem]) ((halfFrom_any _ f k hlt).mono ?_)
        rintro e w1 ⟨rfl, hb1⟩
        have HR1 : Hid (RB w1 W.heap.size f) := RB.below hHeld hb1
        have HS1 : Hid (Since W.heap.size W w1) := HS.out.drew.step hb1
        clear hHeld hb1
        refine ⟨_, rfl, HR1.out, fun hHeld => ?_⟩
        simp only [Act.put, List.setIfInBounds_toArray, List.set_cons_zero, List.set_cons_succ]
        refine handRead 4 (some 11) (.bool false) rfl rfl (by kernel_rfl) (by kernel_rfl) (by kernel_rfl) (fun _ _ _ h => h) (by kernel_rfl) (by assumption) ?_ ?_
        · intro w hSw
          exact (ring_eql (.tmp 9) (.tmp 10) _ rfl rfl rfl w).trans (by rw [HE.out])
        simp only [Act.put, List.setIfInBounds_toArray, List.set_cons_zero, List.set_cons_succ]
        refine wpAnyH_done (by kernel_rfl) ?_ _
        go_wp2
        go_roundw
        case rel => exact ⟨k + 1, by omega, by go_num, HA1.out, HR1.out, HS1.out⟩
        case measure => simp [intOf]; omega
    · have hlt' : ¬ (k : Int) < 64 := by omega
      have HF : Hid (withinB f = false ∧ Below W.heap.size W wr) := ⟨by
        unfold withinB
        rw [← Bool.not_eq_true, List.any_eq_true]
        rintro ⟨s, hs, he⟩
        rw [HK.out.1 s (by have : s < 64 := by simpa using hs
                           omega)] at he
        exact absurd he Bool.false_ne_true, HK.out.2.2.1⟩
      clear HK
      go_wp2
      go_ret
      exact ⟨ret_bool HF.out.1.symm, HF.out.2⟩
end Go.Proofs.Ythdcfeafkellcab
