import Derived.Test.YthlbmkefjjckaadTrSprI
import Derived.Test.YthlbmkefjjckaadRound
/-
  'slices.Backward' over hops.
-/
namespace Go.Proofs.Ythlbmkefjjckaad
open Go.RowKit
set_option linter.unusedVariables false
attribute [local go_sem] Oper.semAt_some wide_fn

set_option maxHeartbeats 1000000 in
theorem backward_any (W : World) (v : Value) (hv : ∃ a n c, v = .slice a n c) :
    Calls Try.prog 81 #[v] W fun e W' => e = .returned (.func (.func 102) #[] #[.pointer (some ⟨W.heap.size, 0, none⟩)]) ∧ W' = W.alloc (.cells #[v] 32) := by
  obtain ⟨a1, n1, c1, rfl⟩ := hv
  go_enter Try.func81, Try.ntmps81
  go_wp2
  go_ret
  exact ⟨rfl, rfl⟩

def noHopB : HopD := ⟨0, 0⟩
/-- The last k hops with where they stand, the last one first. -/
def backP (H : List HopD) (k : Nat) : List (Int × HopD) := (List.range k).map fun j : Nat => ((H.length : Int) - 1 - (j : Int), H.getD (H.length - 1 - j) noHopB)
theorem backP_succ (H : List HopD) (k : Nat) : backP H (k + 1) = backP H k ++ [((H.length : Int) - 1 - (k : Int), H.getD (H.length - 1 - k) noHopB)] := by simp [backP, List.range_succ]
theorem backP_len (H : List HopD) (k : Nat) : (backP H k).length = k := by simp [backP]
theorem backP_pre (H : List HopD) {k m : Nat} (h : k ≤ m) : backP H k <+: backP H m := by
  obtain ⟨d, rfl⟩ : ∃ d, m = k + d := ⟨m - k, by omega⟩
  unfold backP
  rw [List.range_add, List.map_append]
  exact List.prefix_append _ _
theorem backP_snd (H : List HopD) : ∀ k, k ≤ H.length → (backP H k).map Prod.snd = (H.drop (H.length - k)).reverse
  | 0, _ => by simp [backP]
  | k + 1, h => by
    have hlt : H.length - (k + 1) < H.length := by omega
    rw [backP_succ, List.map_append, backP_snd H k (by omega), List.drop_eq_getElem_cons hlt, List.reverse_cons, show H.length - (k + 1) + 1 = H.length - k by omega]
    congr 1
    simp only [List.map_cons, List.map_nil]
    rw [show H.length - 1 - k = H.length - (k + 1) by omega, List.getD_eq_getElem?_getD, List.getElem?_eq_getElem hlt]
    rfl
theorem backP_all (H : List HopD) : (backP H H.length).map Prod.snd = H.reverse := by
  rw [backP_snd H _ (Nat.le_refl _), Nat.sub_self, List.drop_zero]

set_option maxRecDepth 100000 in
set_option maxHeartbeats 4000000 in
theorem backIt_any (S : Nat → Prop) (bl : Nat) (v : Value) (H : List HopD) (W0 w : World) (hl : H.length ≤ 1048576) (hbl : S bl) (hcl : w.cell? ⟨bl, 0, none⟩ = some v) (hr : ReadsHop W0 v H) (hw0 : Below W0.heap.size W0 w) (hS2 : ∀ g, v.ownBlock = some g → S g) :
    SeqO Try.prog 102 #[.pointer (some ⟨bl, 0, none⟩)] (fun p : Int × HopD => #[.int .i64 p.1, .agg #[.int .i64 p.2.From, .int .i64 p.2.To]]) S (backP H H.length) w := by
  intro ll J Jx Mine W hW hJ hJx hM hN hY h0
  obtain ⟨ao, cap, rfl, hcells⟩ := hr
  have cl : W.cell? ⟨bl, 0, none⟩ = some (.slice ao H.length cap) := (hW.cell (p := ⟨bl, 0, none⟩) (World.block_lt_of_cell? w ⟨bl, 0, none⟩ hcl)).trans hcl
  have HNM : Hid (∀ b, S b → ¬ Mine W b) := hN
  have HC : Hid (∀ wr j (hj : j < H.length), KeptBut Mine W wr → ∃ g off, ao = some ⟨g, off, none⟩ ∧ wr.cell? ⟨g, off + j * 2, none⟩ = some (.int .i64 H[j].From) ∧ wr.cell? ⟨g, off + j * 2 + 1, none⟩ = some (.int .i64 H[j].To)) := fun wr j hj hk => by
    rcases hcells with e | ⟨g, off, rfl, hg, hc⟩
    · rw [e] at hj; simp at hj
    · have h1 := hc j hj
      have hb := hw0.trans (hW.mono hw0.size)
      have hm := hN g (hS2 g rfl)
      exact ⟨g, off, rfl, hk.cell (p := ⟨g, off + j * 2, none⟩) ((hb.cell (p := ⟨g, off + j * 2, none⟩) hg).trans h1.1) hm, hk.cell (p := ⟨g, off + j * 2 + 1, none⟩) ((hb.cell (p := ⟨g, off + j * 2 + 1, none⟩) hg).trans h1.2) hm⟩
  have HM : Hid (MineOk W.heap.size J Mine) := hM
  have HY : Hid (∀ pre x W1, J pre W1 → pre ++ [x] <+: backP H H.length → YieldW Try.prog ll #[.int .i64 x.1, .agg #[.int .i64 x.2.From, .int .i64 x.2.To]] W1 fun e W' => (e = .returned (.bool true) ∧ J (pre ++ [x]) W' ∧ KeptBut Mine W1 W' ∧ KeepsFrom W.heap.size W1 W') ∨ (e = .returned (.bool false) ∧ Jx (pre ++ [x]) W' ∧ KeepsFrom W.heap.size W1 W')) := hY
  have H0 : Hid (J [] W) := h0
  have HSB : Hid (S bl) := hbl
  clear hcl hcells hw0 hS2 hM hN hY hJ h0 hJx hW
  refine callsIn_of_wp Try.func102 rfl trivial ?_ rfl
  simp only [Try.ntmps102, List.size_toArray, List.length_cons, List.length_nil, Nat.reduceAdd, Nat.reduceSub, Array.replicate_succ, Array.replicate_zero, List.push_toArray, List.append_toArray, List.nil_append, List.cons_append]
  have hwr0 : IntKind.i64.wrap ((H.length : Int) - 1) = (H.length : Int) - 1 := by rw [IntKind.wrap_i64]; omega
  gi_wp2
  gi_loopw [3] (fun i wr => ∃ k : Nat, k ≤ H.length ∧ i = .int .i64 ((H.length : Int) - 1 - (k : Int)) ∧ Hid (J (backP H k) wr ∧ KeptBut Mine W wr)) (fun i _ => (intOf i + 1).toNat)
  case atStart => exact ⟨0, Nat.zero_le _, by simp, H0.out, KeptBut.refl _ _⟩
  case round =>
    obtain ⟨k, hk, rfl, HI⟩ := hrel
    have cwr : wr.cell? ⟨bl, 0, none⟩ = some (.slice ao H.length cap) := HI.out.2.cell cl (HNM.out bl HSB.out)
    by_cases hlt : k < H.length
    · have hge : decide (0 ≤ (H.length : Int) - 1 - (k : Int)) = true := by simp; omega
      obtain ⟨g, off, rfl, hc0, hc1⟩ := HC.out wr (H.length - 1 - k) (by omega) HI.out.2
      have HT : Hid (backP H (k + 1) = backP H k ++ [((H.length : Int) - 1 - (k : Int), H[H.length - 1 - k])]) := by
        show _ = _
        rw [backP_succ, List.getD_eq_getElem?_getD, List.getElem?_eq_getElem (by omega)]
        rfl
      have HP : Hid (backP H (k + 1) <+: backP H H.length) := backP_pre H (by omega)
      obtain ⟨fn, tmps, assign, body, hy, hR⟩ := HY.out (backP H k) ((H.length : Int) - 1 - (k : Int), H[H.length - 1 - k]) wr HI.out.1 (by rw [← HT.out]; exact HP.out)
      dsimp only at hy
      have HR : Hid (∀ m, RoundIn Fence.wide m Try.prog ll fn tmps assign body wr fun e W' => (e = .returned (.bool true) ∧ J (backP H (k + 1)) W' ∧ KeptBut Mine wr W' ∧ KeepsFrom W.heap.size wr W') ∨ (e = .returned (.bool false) ∧ Jx (backP H k ++ [((H.length : Int) - 1 - (k : Int), H[H.length - 1 - k])]) W' ∧ KeepsFrom W.heap.size wr W')) := by rw [HT.out]; exact hR
      generalize H[H.length - 1 - k] = x at *
      obtain ⟨xf, xt⟩ := x
      dsimp only at hy hc0 hc1
      have e1 : (H.length : Int) - 1 - (k : Int) = ((H.length - 1 - k : Nat) : Int) := by omega
      have e2 : ((H.length - 1 - k : Nat) : Int) < (H.length : Int) := by omega
      have hwr1 : IntKind.i64.wrap (((H.length - 1 - k : Nat) : Int) - 1) = ((H.length - 1 - k : Nat) : Int) - 1 := by rw [IntKind.wrap_i64]; omega
      have e3 : ((H.length - 1 - k : Nat) : Int) - 1 = (H.length : Int) - 1 - ((k + 1 : Nat) : Int) := by omega
      have hkk : k + 1 ≤ H.length := by omega
      have hms : (((H.length - 1 - k : Nat) : Int) - 1 + 1).toNat < (((H.length - 1 - k : Nat) : Int) + 1).toNat := by omega
      rw [e1] at hge hy ⊢
      clear hR HY HP HC e1
      generalize H.length - 1 - k = q at *
      gi_wp2
      refine (HR.out _).mono ?_
      rintro e W3 (⟨rfl, hj3, hk3, -⟩ | ⟨rfl, hx3, -⟩)
      · have HF : Hid (J (backP H (k + 1)) W3 ∧ KeptBut Mine W W3) := ⟨hj3, HI.out.2.trans hk3⟩
        clear hj3 hk3 HR hy HI
        gi_wp2
        go_roundw
        case rel => exact ⟨k + 1, hkk, by rw [show ((k + 1 : Nat) : Int) = (k : Int) + 1 by omega], HF.out⟩
        case measure => simp [intOf]; omega
      · have HF : Hid (∃ p, Jx p W3) := ⟨_, hx3⟩
        clear hx3 HR hy HI
        gi_wp2
        refine bodyPost_ret (results_none rfl _ _ _) rfl ?_
        exact ⟨⟨_, rfl⟩, .inr HF.out⟩
    · have e : k = H.length := by omega
      have HE : Hid (J (backP H H.length) wr) := by rw [← e]; exact HI.out.1
      have hge : decide (0 ≤ (H.length : Int) - 1 - (k : Int)) = false := by simp; omega
      clear HI HY H0 HC
      gi_wp2
      go_end0
      exact ⟨⟨_, rfl⟩, .inl HE.out⟩
end Go.Proofs.Ythlbmkefjjckaad

/-
  A loop over an iterator that lays the value in a new cell each round.
-/
namespace Go.Proofs.Ythlbmkefjjckaad
open Go.RowKit
set_option linter.unusedVariables false
variable {α : Type}

/-- A loop over an iterator, outermost, that lays the value in a new cell each round. -/
theorem wp_rangeB {α : Type} {P : Program} {g : Operand} {ps : Array Tmp} {assign body : Code} {Q : Exit → Act → World → Prop} {a : Act} {w w0 : World} {gf : Nat} {lb : Array Value} {encs : α → Array Value} {S : Nat → Prop} {xs : List α}
    (hg : a.eval g = .func (.func gf) #[] lb) (eg : ∀ args w, (callFunc gf args).run P w = .ok (.enter gf args) w) (hseq : SeqO P gf lb encs S xs w0) (hb0 : Below w0.heap.size w0 w)
    (I : List α → World → Prop) (Mine : World → Nat → Prop) (hM : MineOk w.heap.size I Mine) (hS : ∀ b, S b → ¬ Mine w b) (hps : ∀ x, (encs x).size = ps.size)
    (Ix : Code → List α → World → Prop) (hI : OwnFrom w.heap.size I) (hIx : ∀ c, OwnFrom w.heap.size (Ix c)) (h0 : I [] w) (a₁ : α → Nat → Act) (ob : α → Obj)
    (hassign : ∀ (l : Nat) (x : α) (W : World) (K : Act → World → Prop), K (a₁ x W.heap.size) (W.alloc (ob x)) →
      assign.wpIn (Fence.wide.inRound l) 9 P (Exit.then K (fun _ _ _ => False)) { tmps := (ps.zip (encs x)).foldl (fun t (p, v) => t.setIfInBounds p v) a.tmps, defers := [] } W)
    (hoc : ∀ x, (ob x).isCells = true)
    (hbody : ∀ (l : Nat) (pre : List α) (x : α) (b : Nat) (W : World), I pre W → pre ++ [x] <+: xs → w.heap.size ≤ W.heap.size → w.heap.size ≤ b → W.heap[b]? = some (ob x) → ¬ Mine W b → body.wpIn (Fence.wide.inRound l) 9 P (roundPostO w.heap.size Mine I Ix (pre ++ [x]) W) (a₁ x b) W)
    (hdone : ∀ (D : Nat) (W : World), w.heap.size ≤ D → I xs W → W.heap[D]? = some (.deferred (some [])) → Q .normal { a with defers := { target := .collected D, args := #[] } :: a.defers } W)
    (hstop : ∀ (D : Nat) (c : Code) (pre : List α) (W : World), w.heap.size ≤ D → Ix c pre W → W.heap[D]? = some (.deferred (some [])) → c.wpIn Fence.wide 9 P Q { a with defers := { target := .collected D, args := #[] } :: a.defers } W) :
    (Code.rangeFunc g ps assign body).wpIn Fence.wide 9 P Q a w := by
  refine wpIn_rangeFunc fun fn hfn => ?_
  obtain ⟨rec, hrec⟩ : ∃ rec : LoopState → Option Code → Loop, rec = fun st pe => { state := st, pending := pe, fn, tmps := a.tmps, params := ps, assign, body, defers := w.heap.size } := ⟨_, rfl⟩
  have hout := run_enterLoop_outer (P := P) (w := w) fn a.tmps ps assign body
  obtain ⟨W1, hW1⟩ : ∃ W1, (w.alloc (.deferred (some []))).alloc (.loop (rec .ready none)) = W1 := ⟨_, rfl⟩
  have hL1 : W1.heap[w.heap.size + 1]? = some (.loop (rec .ready none)) := by
    have := World.alloc_heap_new (w.alloc (.deferred (some []))) (.loop (rec .ready none))
    rwa [World.size_alloc, hW1] at this
  have hK1 : W1.heap[w.heap.size]? = some (.deferred (some [])) := by
    rw [← hW1]
    exact (Below.heap_alloc _ _ _ (by rw [World.size_alloc]; omega)).trans (World.alloc_heap_new w _)
  have hsz1 : W1.heap.size = w.heap.size + 2 := by rw [← hW1]; simp
  have hb1 : Below w.heap.size w W1 := by
    rw [← hW1]
    exact ((Below.refl _ w).alloc (Nat.le_refl _) _).alloc (by rw [World.size_alloc]; omega) _
  have hI1 : I [] W1 := own_on hI h0 hb1
  -- what the record says at its state
  obtain ⟨At, hAt⟩ : ∃ At : LoopState → Option Code → World → Prop, At = fun st pe W => W.heap[w.heap.size + 1]? = some (.loop (rec st pe)) ∧ W.heap[w.heap.size]? = some (.deferred (some [])) := ⟨_, rfl⟩
  have hAown : ∀ (st : LoopState) (pe : Option Code) (A B : World) (row : Option Nat), At st pe A → A.grownBy B row → (∀ r, row = some r → W1.heap.size ≤ r ∧ ∃ o : Obj, A.heap[r]? = some o ∧ o.isCells = false) → At st pe B := by
    intro st pe A B row h hgr hr
    rw [hAt] at h ⊢
    have hne : ∀ k, k < w.heap.size + 2 → some k ≠ row := fun k hk e => by
      have := (hr k e.symm).1
      omega
    have l1 := (Array.getElem?_eq_some_iff.1 h.1).1
    have l2 := (Array.getElem?_eq_some_iff.1 h.2).1
    exact ⟨(hgr.block _ l1 (hne _ (by omega))).trans h.1, (hgr.block _ l2 (hne _ (by omega))).trans h.2⟩
  have hlift : ∀ {A : World} {row : Option Nat}, (∀ r, row = some r → W1.heap.size ≤ r ∧ ∃ o : Obj, A.heap[r]? = some o ∧ o.isCells = false) → (∀ r, row = some r → w.heap.size ≤ r ∧ ∃ o : Obj, A.heap[r]? = some o ∧ o.isCells = false) := fun h r e => ⟨by have := (h r e).1; omega, (h r e).2⟩
  refine ⟨w.heap.size + 1, [{ target := .collected w.heap.size, args := #[] }], W1, { target := .fn (.func gf) lb, args := #[.func (.yield (w.heap.size + 1)) #[] #[]] }, W1, gf, #[.func (.yield (w.heap.size + 1)) #[] #[]] ++ lb, W1, ?_, ?_, fun _ _ => trivial, ?_, (fun h => by cases h), ?_⟩
  · rw [← hW1, hrec]
    exact hout
  · simp only [resolve, hg]
    simp [go_sem]
  · simp [invoke, go_sem, eg]
  · have hcall := hseq (w.heap.size + 1) (fun pre W => I pre W ∧ At .ready none W) (fun pre W => ∃ c, Ix c pre W ∧ At .done (some c) W) Mine W1
      (hb0.trans (hb1.mono hb0.size))
      (fun s A B row hs hgr hr => ⟨hI s A B row hs.1 hgr (hlift hr), hAown _ _ A B row hs.2 hgr hr⟩)
      (fun s A B row hs hgr hr => by
        obtain ⟨c, h1, h2⟩ := hs
        exact ⟨c, hIx c s A B row h1 hgr (hlift hr), hAown _ _ A B row h2 hgr hr⟩)
      (hM.mono (by omega) fun s _ h => ⟨s, h.1⟩) (fun b hb => hM.below h0 (Nat.le_refl _) hb1 (hS b hb))
      ?_ ⟨hI1, by rw [hAt]; exact ⟨hL1, hK1⟩⟩
    · refine CallsIn.mono (callsIn_wide.2 (callsIn_wide.1 hcall)) ?_
      rintro e W2 ⟨⟨v, rfl⟩, (⟨hi, hat⟩ | ⟨pre, c, hi, hat⟩)⟩
      · rw [hAt] at hat
        have hend := run_endLoop (P := P) hat.1 (by rw [hrec]; simp)
        rw [show (rec .ready none).pending = none by rw [hrec]] at hend
        exact ⟨none, _, hend, hdone w.heap.size _ (Nat.le_refl _) (hI.putObj _ hi (by omega) hat.1 rfl) ((World.putObj_heap_other (by omega)).trans hat.2)⟩
      · rw [hAt] at hat
        have hend := run_endLoop (P := P) hat.1 (by rw [hrec]; simp)
        rw [show (rec .done (some c)).pending = some c by rw [hrec]] at hend
        exact ⟨some c, _, hend, hstop w.heap.size c pre _ (Nat.le_refl _) ((hIx c).putObj _ hi (by omega) hat.1 rfl) ((World.putObj_heap_other (by omega)).trans hat.2)⟩
    · rintro pre x W0 ⟨hi0, hat0⟩ hpre
      have hat00 := hat0
      rw [hAt] at hat00
      have hlt0 : w.heap.size + 1 < W0.heap.size := (Array.getElem?_eq_some_iff.1 hat00.1).1
      have hy := run_yield (P := P) (args := encs x) hat00.1 (by rw [hrec]; exact hps x)
      rw [hrec] at hy
      have hbl : Below W0.heap.size W0 (W0.alloc (ob x)) := (Below.refl _ W0).alloc (Nat.le_refl _) _
      have hi : I pre (W0.alloc (ob x)) := own_on hI hi0 hbl
      have hat : At .ready none (W0.alloc (ob x)) := hAown _ _ W0 _ none hat0 (below_grown hbl) (fun r e => by cases e)
      have hkb0 : KeptBut Mine W0 (W0.alloc (ob x)) := KeptBut.below hM hi0 (by omega) hbl
      have hnm : ¬ Mine (W0.alloc (ob x)) W0.heap.size := hM.new hi0 (by omega) hbl (Nat.le_refl _)
      have hnew : (W0.alloc (ob x)).heap[W0.heap.size]? = some (ob x) := World.alloc_heap_new W0 _
      refine ⟨fn, _, assign, body, hy, fun m => roundIn_any (n := 9) (roundIn_of_wpIn hfn (hassign _ x W0 _ ⟨_, run_beginRound (by rw [hAt] at hat; exact hat.1) (by rw [hrec]), ?_⟩))⟩
      rw [hAt] at hat
      obtain ⟨W, hW⟩ : ∃ W, W = W0.alloc (ob x) := ⟨_, rfl⟩
      rw [← hW] at hi hat hkb0 hnm hnew ⊢
      have hlt : w.heap.size + 1 < W.heap.size := (Array.getElem?_eq_some_iff.1 hat.1).1
      have hko0 : KeepsFrom W1.heap.size W0 W := by rw [hW]; exact (KeepsOthers.alloc W0 _).from _
      have hl2 : (W.putObj (w.heap.size + 1) (.loop { rec .ready none with state := .busy })).heap[w.heap.size + 1]? = some (.loop { rec .ready none with state := .busy }) := World.putObj_heap_same hlt
      have hk2 : (W.putObj (w.heap.size + 1) (.loop { rec .ready none with state := .busy })).heap[w.heap.size]? = some (.deferred (some [])) := (World.putObj_heap_other (by omega)).trans hat.2
      have hKb : ∀ (s : List α) (A : World) (o o' : Obj), I s A → w.heap.size ≤ A.heap.size → A.heap[w.heap.size + 1]? = some o → o.isCells = false → KeptBut Mine A (A.putObj (w.heap.size + 1) o') := fun s A o o' hs hA ho hc =>
        KeptBut.grown hM hs hA (grownBy_putObj' A (w.heap.size + 1) o') (fun r e => by cases e; exact ⟨by omega, o, ho, hc⟩)
      have hw2 : KeptBut Mine W (W.putObj (w.heap.size + 1) (.loop { rec .ready none with state := .busy })) := hKb _ _ _ _ hi (by omega) hat.1 rfl
      have hkb2 := (hKb pre W _ (.loop { rec .ready none with state := .busy }) hi (by omega) hat.1 rfl).2 W0.heap.size (ob x) hnew (hoc x) hnm
      refine wpIn_mono (hbody _ pre x W0.heap.size _ (hI.putObj _ hi (by omega) hat.1 rfl) hpre (by rw [World.putObj_size]; omega) (by omega) hkb2.1 hkb2.2) ?_
      have hend : ∀ (jump : Option Code) (W3 : World), KeepsFrom w.heap.size (W.putObj (w.heap.size + 1) (.loop { rec .ready none with state := .busy })) W3 →
          (Instr.endRound (w.heap.size + 1) jump).run P W3 = .ok (.bool jump.isNone) (W3.putObj (w.heap.size + 1) (.loop (rec (if jump.isNone then .ready else .done) jump))) ∧ W3.heap[w.heap.size + 1]? = some (.loop { rec .ready none with state := .busy }) ∧
          At (if jump.isNone then .ready else .done) jump (W3.putObj (w.heap.size + 1) (.loop (rec (if jump.isNone then .ready else .done) jump))) := fun jump W3 hk => by
        have hl3 := hk.same _ _ (by omega) hl2 rfl
        have hk3 := hk.same _ _ (Nat.le_refl _) hk2 rfl
        have hr := run_endRound (P := P) jump hl3
        have hr' : (Instr.endRound (w.heap.size + 1) jump).run P W3 = .ok (.bool jump.isNone) (W3.putObj (w.heap.size + 1) (.loop (rec (if jump.isNone then .ready else .done) jump))) := by
          rw [hrec] at hr ⊢
          exact hr
        refine ⟨hr', hl3, ?_⟩
        rw [hAt]
        exact ⟨World.putObj_heap_same (Array.getElem?_eq_some_iff.1 hl3).1, (World.putObj_heap_other (by omega)).trans hk3⟩
      have hfrom : ∀ (o' : Obj) (W3 : World), KeepsFrom w.heap.size (W.putObj (w.heap.size + 1) (.loop { rec .ready none with state := .busy })) W3 → KeepsFrom W1.heap.size W (W3.putObj (w.heap.size + 1) o') := fun o' W3 hk =>
        ⟨by have := hk.size; rw [World.putObj_size] at this ⊢; exact this, fun k o hB hk0 ho => (World.putObj_heap_other (by omega)).trans (hk.same k o (by omega) ((World.putObj_heap_other (by omega)).trans hk0) ho)⟩
      rintro e a3 W3 hp
      cases e with
      | normal =>
        obtain ⟨hk3, hkp3, hi3⟩ := hp
        obtain ⟨hr, hl3, hat4⟩ := hend none W3 hk3
        exact ⟨_, _, hr, .inl ⟨rfl, ⟨hI.putObj _ hi3 (by omega) hl3 rfl, hat4⟩, ((hkb0.trans hw2).trans hkp3).trans (hKb _ _ _ _ hi3 (by have := (Array.getElem?_eq_some_iff.1 hl3).1; omega) hl3 rfl), hko0.trans (hfrom _ _ hk3)⟩⟩
      | ret =>
        obtain ⟨hk3, hi3⟩ := hp
        obtain ⟨hr, hl3, hat4⟩ := hend (some .ret) W3 hk3
        exact ⟨_, _, hr, .inr ⟨rfl, ⟨.ret, (hIx _).putObj _ hi3 (by omega) hl3 rfl, hat4⟩, hko0.trans (hfrom _ _ hk3)⟩⟩
      | _ => exact hp.elim
end Go.Proofs.Ythlbmkefjjckaad
