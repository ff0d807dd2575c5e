/-
  A loop over an iterator that lays the value in a new cell each round.
-/
import Derived.Test.YthlbmkefjjckaagRound
namespace Go.Proofs.Ythlbmkefjjckaag
open Go.RowKit
set_option linter.unusedVariables false
variable {α : Type}

/-- A loop over an iterator, outermost, that lays the value in a new cell each round. -/
theorem wp_rangeB {α : Type} {P : Program} {g : Operand} {ps : Array Tmp} {assign body : Code} {Q : Exit → Act → World → Prop} {a : Act} {w w0 : World} {gf : Nat} {lb : Array Value} {encs : α → Array Value} {S : Nat → Prop} {xs : List α}
    (hg : a.eval g = .func (.func gf) #[] lb) (eg : ∀ args w, (callFunc gf args).run P w = .ok (.enter gf args) w) (hseq : SeqO P gf lb encs S xs w0) (hb0 : Below w0.heap.size w0 w)
    (I : List α → World → Prop) (Mine : World → Nat → Prop) (hM : MineOk w.heap.size I Mine) (hS : ∀ b, S b → ¬ Mine w b) (hps : ∀ x, (encs x).size = ps.size)
    (Ix : Code → List α → World → Prop) (hI : OwnFrom w.heap.size I) (hIx : ∀ c, OwnFrom w.heap.size (Ix c)) (h0 : I [] w) (a₁ : α → Nat → Act) (ob : α → Obj)
    (hassign : ∀ (l : Nat) (x : α) (W : World) (K : Act → World → Prop), K (a₁ x W.heap.size) (W.alloc (ob x)) →
      assign.wpIn (Fence.wide.inRound l) 9 P (Exit.then K (fun _ _ _ => False)) { tmps := (ps.zip (encs x)).foldl (fun t (p, v) => t.setIfInBounds p v) a.tmps, defers := [] } W)
    (hoc : ∀ x, (ob x).isCells = true)
    (hbody : ∀ (l : Nat) (pre : List α) (x : α) (b : Nat) (W : World), I pre W → pre ++ [x] <+: xs → w.heap.size ≤ W.heap.size → w.heap.size ≤ b → W.heap[b]? = some (ob x) → ¬ Mine W b → body.wpIn (Fence.wide.inRound l) 9 P (roundPostO w.heap.size Mine I Ix (pre ++ [x]) W) (a₁ x b) W)
    (hdone : ∀ (D : Nat) (W : World), w.heap.size ≤ D → I xs W → W.heap[D]? = some (.deferred (some [])) → Q .normal { a with defers := { target := .collected D, args := #[] } :: a.defers } W)
    (hstop : ∀ (D : Nat) (c : Code) (pre : List α) (W : World), w.heap.size ≤ D → Ix c pre W → W.heap[D]? = some (.deferred (some [])) → c.wpIn Fence.wide 9 P Q { a with defers := { target := .collected D, args := #[] } :: a.defers } W) :
    (Code.rangeFunc g ps assign body).wpIn Fence.wide 9 P Q a w := by
  refine wpIn_rangeFunc fun fn hfn => ?_
  obtain ⟨rec, hrec⟩ : ∃ rec : LoopState → Option Code → Loop, rec = fun st pe => { state := st, pending := pe, fn, tmps := a.tmps, params := ps, assign, body, defers := w.heap.size } := ⟨_, rfl⟩
  have hout := run_enterLoop_outer (P := P) (w := w) fn a.tmps ps assign body
  obtain ⟨W1, hW1⟩ : ∃ W1, (w.alloc (.deferred (some []))).alloc (.loop (rec .ready none)) = W1 := ⟨_, rfl⟩
  have hL1 : W1.heap[w.heap.size + 1]? = some (.loop (rec .ready none)) := by
    have := World.alloc_heap_new (w.alloc (.deferred (some []))) (.loop (rec .ready none))
    rwa [World.size_alloc, hW1] at this
  have hK1 : W1.heap[w.heap.size]? = some (.deferred (some [])) := by
    rw [← hW1]
    exact (Below.heap_alloc _ _ _ (by rw [World.size_alloc]; omega)).trans (World.alloc_heap_new w _)
  have hsz1 : W1.heap.size = w.heap.size + 2 := by rw [← hW1]; simp
  have hb1 : Below w.heap.size w W1 := by
    rw [← hW1]
    exact ((Below.refl _ w).alloc (Nat.le_refl _) _).alloc (by rw [World.size_alloc]; omega) _
  have hI1 : I [] W1 := own_on hI h0 hb1
  -- what the record says at its state
  obtain ⟨At, hAt⟩ : ∃ At : LoopState → Option Code → World → Prop, At = fun st pe W => W.heap[w.heap.size + 1]? = some (.loop (rec st pe)) ∧ W.heap[w.heap.size]? = some (.deferred (some [])) := ⟨_, rfl⟩
  have hAown : ∀ (st : LoopState) (pe : Option Code) (A B : World) (row : Option Nat), At st pe A → A.grownBy B row → (∀ r, row = some r → W1.heap.size ≤ r ∧ ∃ o : Obj, A.heap[r]? = some o ∧ o.isCells = false) → At st pe B := by
    intro st pe A B row h hgr hr
    rw [hAt] at h ⊢
    have hne : ∀ k, k < w.heap.size + 2 → some k ≠ row := fun k hk e => by
      have := (hr k e.symm).1
      omega
    have l1 := (Array.getElem?_eq_some_iff.1 h.1).1
    have l2 := (Array.getElem?_eq_some_iff.1 h.2).1
    exact ⟨(hgr.block _ l1 (hne _ (by omega))).trans h.1, (hgr.block _ l2 (hne _ (by omega))).trans h.2⟩
  have hlift : ∀ {A : World} {row : Option Nat}, (∀ r, row = some r → W1.heap.size ≤ r ∧ ∃ o : Obj, A.heap[r]? = some o ∧ o.isCells = false) → (∀ r, row = some r → w.heap.size ≤ r ∧ ∃ o : Obj, A.heap[r]? = some o ∧ o.isCells = false) := fun h r e => ⟨by have := (h r e).1; omega, (h r e).2⟩
  refine ⟨w.heap.size + 1, [{ target := .collected w.heap.size, args := #[] }], W1, { target := .fn (.func gf) lb, args := #[.func (.yield (w.heap.size + 1)) #[] #[]] }, W1, gf, #[.func (.yield (w.heap.size + 1)) #[] #[]] ++ lb, W1, ?_, ?_, fun _ _ => trivial, ?_, (fun h => by cases h), ?_⟩
  · rw [← hW1, hrec]
    exact hout
  · simp only [resolve, hg]
    simp [go_sem]
  · simp [invoke, go_sem, eg]
  · have hcall := hseq (w.heap.size + 1) (fun pre W => I pre W ∧ At .ready none W) (fun pre W => ∃ c, Ix c pre W ∧ At .done (some c) W) Mine W1
      (hb0.trans (hb1.mono hb0.size))
      (fun s A B row hs hgr hr => ⟨hI s A B row hs.1 hgr (hlift hr), hAown _ _ A B row hs.2 hgr hr⟩)
      (fun s A B row hs hgr hr => by
        obtain ⟨c, h1, h2⟩ := hs
        exact ⟨c, hIx c s A B row h1 hgr (hlift hr), hAown _ _ A B row h2 hgr hr⟩)
      (hM.mono (by omega) fun s _ h => ⟨s, h.1⟩) (fun b hb => hM.below h0 (Nat.le_refl _) hb1 (hS b hb))
      ?_ ⟨hI1, by rw [hAt]; exact ⟨hL1, hK1⟩⟩
    · refine CallsIn.mono (callsIn_wide.2 (callsIn_wide.1 hcall)) ?_
      rintro e W2 ⟨⟨v, rfl⟩, (⟨hi, hat⟩ | ⟨pre, c, hi, hat⟩)⟩
      · rw [hAt] at hat
        have hend := run_endLoop (P := P) hat.1 (by rw [hrec]; simp)
        rw [show (rec .ready none).pending = none by rw [hrec]] at hend
        exact ⟨none, _, hend, hdone w.heap.size _ (Nat.le_refl _) (hI.putObj _ hi (by omega) hat.1 rfl) ((World.putObj_heap_other (by omega)).trans hat.2)⟩
      · rw [hAt] at hat
        have hend := run_endLoop (P := P) hat.1 (by rw [hrec]; simp)
        rw [show (rec .done (some c)).pending = some c by rw [hrec]] at hend
        exact ⟨some c, _, hend, hstop w.heap.size c pre _ (Nat.le_refl _) ((hIx c).putObj _ hi (by omega) hat.1 rfl) ((World.putObj_heap_other (by omega)).trans hat.2)⟩
    · rintro pre x W0 ⟨hi0, hat0⟩ hpre
      have hat00 := hat0
      rw [hAt] at hat00
      have hlt0 : w.heap.size + 1 < W0.heap.size := (Array.getElem?_eq_some_iff.1 hat00.1).1
      have hy := run_yield (P := P) (args := encs x) hat00.1 (by rw [hrec]; exact hps x)
      rw [hrec] at hy
      have hbl : Below W0.heap.size W0 (W0.alloc (ob x)) := (Below.refl _ W0).alloc (Nat.le_refl _) _
      have hi : I pre (W0.alloc (ob x)) := own_on hI hi0 hbl
      have hat : At .ready none (W0.alloc (ob x)) := hAown _ _ W0 _ none hat0 (below_grown hbl) (fun r e => by cases e)
      have hkb0 : KeptBut Mine W0 (W0.alloc (ob x)) := KeptBut.below hM hi0 (by omega) hbl
      have hnm : ¬ Mine (W0.alloc (ob x)) W0.heap.size := hM.new hi0 (by omega) hbl (Nat.le_refl _)
      have hnew : (W0.alloc (ob x)).heap[W0.heap.size]? = some (ob x) := World.alloc_heap_new W0 _
      refine ⟨fn, _, assign, body, hy, fun m => roundIn_any (n := 9) (roundIn_of_wpIn hfn (hassign _ x W0 _ ⟨_, run_beginRound (by rw [hAt] at hat; exact hat.1) (by rw [hrec]), ?_⟩))⟩
      rw [hAt] at hat
      obtain ⟨W, hW⟩ : ∃ W, W = W0.alloc (ob x) := ⟨_, rfl⟩
      rw [← hW] at hi hat hkb0 hnm hnew ⊢
      have hlt : w.heap.size + 1 < W.heap.size := (Array.getElem?_eq_some_iff.1 hat.1).1
      have hko0 : KeepsFrom W1.heap.size W0 W := by rw [hW]; exact (KeepsOthers.alloc W0 _).from _
      have hl2 : (W.putObj (w.heap.size + 1) (.loop { rec .ready none with state := .busy })).heap[w.heap.size + 1]? = some (.loop { rec .ready none with state := .busy }) := World.putObj_heap_same hlt
      have hk2 : (W.putObj (w.heap.size + 1) (.loop { rec .ready none with state := .busy })).heap[w.heap.size]? = some (.deferred (some [])) := (World.putObj_heap_other (by omega)).trans hat.2
      have hKb : ∀ (s : List α) (A : World) (o o' : Obj), I s A → w.heap.size ≤ A.heap.size → A.heap[w.heap.size + 1]? = some o → o.isCells = false → KeptBut Mine A (A.putObj (w.heap.size + 1) o') := fun s A o o' hs hA ho hc =>
        KeptBut.grown hM hs hA (grownBy_putObj' A (w.heap.size + 1) o') (fun r e => by cases e; exact ⟨by omega, o, ho, hc⟩)
      have hw2 : KeptBut Mine W (W.putObj (w.heap.size + 1) (.loop { rec .ready none with state := .busy })) := hKb _ _ _ _ hi (by omega) hat.1 rfl
      have hkb2 := (hKb pre W _ (.loop { rec .ready none with state := .busy }) hi (by omega) hat.1 rfl).2 W0.heap.size (ob x) hnew (hoc x) hnm
      refine wpIn_mono (hbody _ pre x W0.heap.size _ (hI.putObj _ hi (by omega) hat.1 rfl) hpre (by rw [World.putObj_size]; omega) (by omega) hkb2.1 hkb2.2) ?_
      have hend : ∀ (jump : Option Code) (W3 : World), KeepsFrom w.heap.size (W.putObj (w.heap.size + 1) (.loop { rec .ready none with state := .busy })) W3 →
          (Instr.endRound (w.heap.size + 1) jump).run P W3 = .ok (.bool jump.isNone) (W3.putObj (w.heap.size + 1) (.loop (rec (if jump.isNone then .ready else .done) jump))) ∧ W3.heap[w.heap.size + 1]? = some (.loop { rec .ready none with state := .busy }) ∧
          At (if jump.isNone then .ready else .done) jump (W3.putObj (w.heap.size + 1) (.loop (rec (if jump.isNone then .ready else .done) jump))) := fun jump W3 hk => by
        have hl3 := hk.same _ _ (by omega) hl2 rfl
        have hk3 := hk.same _ _ (Nat.le_refl _) hk2 rfl
        have hr := run_endRound (P := P) jump hl3
        have hr' : (Instr.endRound (w.heap.size + 1) jump).run P W3 = .ok (.bool jump.isNone) (W3.putObj (w.heap.size + 1) (.loop (rec (if jump.isNone then .ready else .done) jump))) := by
          rw [hrec] at hr ⊢
          exact hr
        refine ⟨hr', hl3, ?_⟩
        rw [hAt]
        exact ⟨World.putObj_heap_same (Array.getElem?_eq_some_iff.1 hl3).1, (World.putObj_heap_other (by omega)).trans hk3⟩
      have hfrom : ∀ (o' : Obj) (W3 : World), KeepsFrom w.heap.size (W.putObj (w.heap.size + 1) (.loop { rec .ready none with state := .busy })) W3 → KeepsFrom W1.heap.size W (W3.putObj (w.heap.size + 1) o') := fun o' W3 hk =>
        ⟨by have := hk.size; rw [World.putObj_size] at this ⊢; exact this, fun k o hB hk0 ho => (World.putObj_heap_other (by omega)).trans (hk.same k o (by omega) ((World.putObj_heap_other (by omega)).trans hk0) ho)⟩
      rintro e a3 W3 hp
      cases e with
      | normal =>
        obtain ⟨hk3, hkp3, hi3⟩ := hp
        obtain ⟨hr, hl3, hat4⟩ := hend none W3 hk3
        exact ⟨_, _, hr, .inl ⟨rfl, ⟨hI.putObj _ hi3 (by omega) hl3 rfl, hat4⟩, ((hkb0.trans hw2).trans hkp3).trans (hKb _ _ _ _ hi3 (by have := (Array.getElem?_eq_some_iff.1 hl3).1; omega) hl3 rfl), hko0.trans (hfrom _ _ hk3)⟩⟩
      | ret =>
        obtain ⟨hk3, hi3⟩ := hp
        obtain ⟨hr, hl3, hat4⟩ := hend (some .ret) W3 hk3
        exact ⟨_, _, hr, .inr ⟨rfl, ⟨.ret, (hIx _).putObj _ hi3 (by omega) hl3 rfl, hat4⟩, hko0.trans (hfrom _ _ hk3)⟩⟩
      | _ => exact hp.elim
end Go.Proofs.Ythlbmkefjjckaag
