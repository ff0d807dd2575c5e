/-
  'l9Relax', 'l9Fars' of the model.
-/
import Derived.Test.YthlbmkefjjckaadGrRepeat
import Derived.Test.YthlbmkefjjckaadGrGrpS
namespace Go.Proofs.Ythlbmkefjjckaad
open Go.RowKit
set_option linter.unusedVariables false
attribute [local go_sem] Oper.semAt_some wide_fn

theorem relF_fit {n : Nat} {far : List Int} (hl : far.length = n) : ∀ (l : List EdD) (out : List Int), FitEd n l → out.length = n → (∀ i : Int, 0 ≤ i → i < n → 0 ≤ lab far i) → (∀ i : Int, 0 ≤ i → i < n → 0 ≤ lab out i ∧ lab out i ≤ farC) → ∀ i : Int, 0 ≤ i → i < n → 0 ≤ lab (l.foldl (relE far) out) i ∧ lab (l.foldl (relE far) out) i ≤ farC
  | [], out, _, _, _, h => h
  | e :: r, out, hf, ho, hp, h => by
    have he := hf e (List.mem_cons_self ..)
    refine relF_fit hl r (relE far out e) (fun x hx => hf x (List.mem_cons_of_mem _ hx)) (by rw [relE_len]; exact ho) hp fun i h0 hi => ?_
    have key := fun y => le_relE (n := (n : Int)) far out e (by rw [ho]) ⟨he.1, he.2.1, he.2.2.1⟩ i y h0
    have hb := h i h0 hi
    refine ⟨(key 0).2 ⟨hb.1, fun _ => ?_, fun _ => ?_⟩, ?_⟩
    · have := hp e.B he.2.1.1 he.2.1.2; omega
    · have := hp e.A he.1.1 he.1.2; omega
    · have := ((key _).1 (Int.le_refl _)).1
      omega

theorem relB_len (far out : List Int) (e : EdD) : (relB far out e).length = out.length := by simp [relB]
theorem grown_at {W w1 : World} {g0 c0 : Nat} {far : List Int} {v1 : Value} (hg : Grown (W.alloc (.cells #[] 3)) W.heap.size 3 1 (.slice (some ⟨g0, 0, none⟩) 0 c0) far.length (far.map (Value.int .i64)) v1 w1) (hn : 1 ≤ far.length) :
    ∃ g vcap, v1 = .slice (some ⟨g, 0, none⟩) far.length vcap ∧ Hid (W.heap.size ≤ g ∧ Own w1 W.heap.size (.slice (some ⟨g, 0, none⟩) far.length vcap) far ∧ Since W.heap.size W w1) := by
  have ho := hg.own
  rcases hg.own.2 with ⟨-, h0⟩ | ⟨g, vcap, vcur, rfl, hB, hgc, -⟩
  · omega
  · exact ⟨g, vcap, rfl, hB, ho, ((Below.refl _ W).alloc (Nat.le_refl _) _).trans hg.below, by have := hg.size; simp at this; omega⟩

set_option maxRecDepth 100000 in
set_option maxHeartbeats 4000000 in
theorem l9Relax_any (W : World) (v u : Value) (l : List EdD) (far : List Int) (B : Nat) (h : ReadsEd W v l) (hu : Own W B u far) (hf : FitEd far.length l) (hn : 1 ≤ far.length ∧ far.length ≤ 12) (hl : l.length ≤ 40) (hfar : ∀ i : Int, 0 ≤ i → i < far.length → 0 ≤ lab far i ∧ lab far i ≤ farC) :
    Calls Try.prog 95 #[v, u] W fun e W' => ∃ v', e = .returned v' ∧ Own W' W.heap.size v' (relD l far) ∧ Below W.heap.size W W' := by
  rw [← relS_eq hf far rfl]
  obtain ⟨a1, c1, hv, hcells⟩ := h
  have HC : Hid (l = [] ∨ ∃ g off, a1 = some ⟨g, off, none⟩ ∧ g < W.heap.size ∧ ∀ j (hj : j < l.length), EdAt W g (off + j * 3) l[j]) := hcells
  subst hv
  rcases hu.2 with ⟨-, h0⟩ | ⟨fg, fcap, fcur, rfl, hfB, hfg, -⟩
  · omega
  have hfW : fg < W.heap.size := (Array.getElem?_eq_some_iff.1 hfg).1
  have HU : Hid (∀ w, Since W.heap.size W w → Own w B (.slice (some ⟨fg, 0, none⟩) far.length fcap) far) := fun w hs => hu.below hs.1
  have HA : Hid (∀ ty, ∃ v' w', (Builtin.append_ #[26, 26] ty #[.slice (some ⟨W.heap.size, 0, none⟩) 0 0, .slice (some ⟨fg, 0, none⟩) far.length fcap]).run Try.prog (W.alloc (.cells #[] 3)) = .ok v' w' ∧ Grown (W.alloc (.cells #[] 3)) W.heap.size 3 1 (.slice (some ⟨W.heap.size, 0, none⟩) 0 0) far.length (far.map (Value.int .i64)) v' w') := fun ty => by
    have ho : Own (W.alloc (.cells #[] 3)) W.heap.size (.slice (some ⟨W.heap.size, 0, none⟩) 0 0) [] := by
      have := World.ownsRow_lit (base := W.heap.size) (e := 3) (size := 1) W #[] 0 (Nat.le_refl _) (by decide) (by simp)
      exact this
    have hsrc : Src (W.alloc (.cells #[] 3)) (.slice (some ⟨fg, 0, none⟩) far.length fcap) far.length (far.map (Value.int .i64)) := Src.row (rowBelow hu ((Below.refl _ W).alloc (Nat.le_refl _) _))
    have := run_appI (W.alloc (.cells #[] 3)) W.heap.size _ [] ho _ far hsrc (by simp; omega) (by simp) ty
    simpa using this
  have HF : Hid (FitEd far.length l) := hf
  have HFA : Hid (∀ i : Int, 0 ≤ i → i < far.length → 0 ≤ lab far i ∧ lab far i ≤ farC) := hfar
  clear hu hfg hcells hf hfar
  go_enter Try.func95, Try.ntmps95
  go_wp2_with (at_builtin; refine list_app (by rfl) (.tmp 8) (.tmp 9) 26 (by rfl) (.slice (some ⟨W.heap.size, 0, none⟩) 0 0) (.slice (some ⟨fg, 0, none⟩) far.length fcap) (by rfl) (by rfl) _ HA.out ?_; intro v1 w1 hg1; obtain ⟨g, vcap, rfl, HG⟩ : ∃ g vcap, v1 = .slice (some ⟨g, 0, none⟩) far.length vcap ∧ Hid (W.heap.size ≤ g ∧ Own w1 W.heap.size (.slice (some ⟨g, 0, none⟩) far.length vcap) far ∧ Since W.heap.size W w1) := grown_at hg1 hn.1; clear hg1)
  have hgW : W.heap.size ≤ g := HG.out.1
  have H0 : Hid (Own w1 W.heap.size (.slice (some ⟨g, 0, none⟩) far.length vcap) (relS (l.take 0) far) ∧ Since W.heap.size W w1) := ⟨by simpa [relS] using HG.out.2.1, HG.out.2.2⟩
  clear HG HA
  go_loopw [13] (fun i wr => ∃ k : Nat, k ≤ l.length ∧ i = .int .i64 k ∧ Hid (Own wr W.heap.size (.slice (some ⟨g, 0, none⟩) far.length vcap) (relS (l.take k) far) ∧ Since W.heap.size W wr)) (fun i _ => l.length - (intOf i).toNat)
  case atStart => exact ⟨0, Nat.zero_le _, rfl, H0.out⟩
  case round =>
    obtain ⟨k, hk, rfl, HI⟩ := hrel
    by_cases hlt : k < l.length
    · have hlt' : (k : Int) < (l.length : Int) := by omega
      rcases HC.out with e0 | ⟨gl, off, rfl, hgl, hcs⟩
      · rw [e0] at hlt; cases hlt
      have hc := hcs k hlt
      have fx := HF.out l[k] (List.getElem_mem hlt)
      have HT : Hid (relS (l.take (k + 1)) far = relE far (relS (l.take k) far) l[k]) := relS_take l far k hlt
      have hfo : ∀ i : Int, 0 ≤ i → i < (far.length : Int) → 0 ≤ lab (relS (l.take k) far) i ∧ lab (relS (l.take k) far) i ≤ farC := relF_fit rfl (l.take k) far (fun x hx => HF.out x (List.mem_of_mem_take hx)) rfl (fun i h0 hi => (HFA.out i h0 hi).1) HFA.out
      obtain ⟨out, hout⟩ : ∃ out, out = relS (l.take k) far := ⟨_, rfl⟩
      have hol : far.length = out.length := by rw [hout, relS_len]
      rw [← hout] at hfo
      have ho := HI.out.1
      rw [← hout] at ho
      obtain ⟨x, hx⟩ : ∃ x, x = l[k] := ⟨_, rfl⟩
      rw [← hx] at hc fx
      have HTx : Hid (relS (l.take (k + 1)) far = relE far out x) := by rw [hout, hx]; exact HT.out
      clear HT hx
      obtain ⟨xA, xB, c⟩ := x
      dsimp only at fx
      obtain ⟨pA, rfl⟩ : ∃ pA : Nat, xA = (pA : Int) := ⟨xA.toNat, by omega⟩
      obtain ⟨pB, rfl⟩ : ∃ pB : Nat, xB = (pB : Int) := ⟨xB.toNat, by omega⟩
      have c0 : wr.cell? ⟨gl, off + k * 3, none⟩ = some (.int .i64 (pA : Int)) := (HI.out.2.1.cell (p := ⟨gl, off + k * 3, none⟩) hgl).trans hc.1
      have c1' : wr.cell? ⟨gl, off + k * 3 + 1, none⟩ = some (.int .i64 (pB : Int)) := (HI.out.2.1.cell (p := ⟨gl, off + k * 3 + 1, none⟩) hgl).trans hc.2.1
      have c2 : wr.cell? ⟨gl, off + k * 3 + 2, none⟩ = some (.int .i64 c) := (HI.out.2.1.cell (p := ⟨gl, off + k * 3 + 2, none⟩) hgl).trans hc.2.2
      have hA : pA < far.length := by omega
      have hB : pB < far.length := by omega
      have hA' : (pA : Int) < (far.length : Int) := by omega
      have hB' : (pB : Int) < (far.length : Int) := by omega
      have hAB : pA ≠ pB := by omega
      have foA := hfo pA (by omega) hA'
      have foB := hfo pB (by omega) hB'
      have ffA := HFA.out pA (by omega) hA'
      have ffB := HFA.out pB (by omega) hB'
      rw [lab_get out pA (by omega)] at foA
      rw [lab_get out pB (by omega)] at foB
      rw [lab_get far pA hA] at ffA
      rw [lab_get far pB hB] at ffB
      -- the world with the edge's copy
      obtain ⟨w4, hw4⟩ : ∃ w4, w4 = wr.alloc (.cells #[.int .i64 (pA : Int), .int .i64 (pB : Int), .int .i64 c] 84) := ⟨_, rfl⟩
      have hsz4 : w4.heap.size = wr.heap.size + 1 := by rw [hw4]; simp
      have hb4 : Below wr.heap.size wr w4 := by rw [hw4]; exact (Below.refl _ wr).alloc (Nat.le_refl _) _
      have hE : w4.heap[wr.heap.size]? = some (.cells #[.int .i64 (pA : Int), .int .i64 (pB : Int), .int .i64 c] 84 (0, 0)) := by rw [hw4]; exact World.alloc_heap_new wr _
      have ho4 : Own w4 W.heap.size (.slice (some ⟨g, 0, none⟩) far.length vcap) out := ho.below hb4
      have hs4 : Since W.heap.size W w4 := HI.out.2.step hb4
      have hgs : g < wr.heap.size := (World.ownsRow.lt ho g rfl).2
      obtain ⟨w5, hw5⟩ : ∃ w5, w5 = w4.drew.setCell ⟨g, pA, none⟩ (.int .i64 (min out[pA] (far[pB] + c))) := ⟨_, rfl⟩
      have eB : relB far out ⟨pA, pB, c⟩ = out.set pA (min out[pA] (far[pB] + c)) := by
        unfold relB
        dsimp only
        rw [lab_get out pA (by omega), lab_get far pB hB]
        simp
      have hO4 : Own w4.drew W.heap.size (.slice (some ⟨g, 0, none⟩) out.length vcap) out := by rw [← hol]; exact ho4.drew
      have ho5 : Own w5 W.heap.size (.slice (some ⟨g, 0, none⟩) far.length vcap) (relB far out ⟨pA, pB, c⟩) := by
        rw [eB, hw5, hol]
        exact hO4.set pA _
      have hs5 : Since W.heap.size W w5 := by
        rw [hw5]
        exact ⟨hs4.1.drew.setCell (by show W.heap.size ≤ g; exact hgW) _, by have := hs4.2; simpa [World.setCell] using this⟩
      have hlB : far.length = (relB far out ⟨pA, pB, c⟩).length := by rw [relB_len]; exact hol
      have e5 : w5.heap[wr.heap.size]? = some (.cells #[.int .i64 (pA : Int), .int .i64 (pB : Int), .int .i64 c] 84 (0, 0)) := by
        rw [hw5]
        exact (Below.heap_setCell w4.drew ⟨g, pA, none⟩ _ wr.heap.size (by show wr.heap.size ≠ g; omega)).trans hE
      have ecell : ∀ w : World, w.heap[wr.heap.size]? = some (.cells #[.int .i64 (pA : Int), .int .i64 (pB : Int), .int .i64 c] 84 (0, 0)) → w.cell? ⟨wr.heap.size, 0, none⟩ = some (.int .i64 (pA : Int)) ∧ w.cell? ⟨wr.heap.size, 1, none⟩ = some (.int .i64 (pB : Int)) ∧ w.cell? ⟨wr.heap.size, 2, none⟩ = some (.int .i64 c) := fun w hw => by simp [World.cell?, hw]
      obtain ⟨w6, hw6⟩ : ∃ w6, w6 = w5.drew.setCell ⟨g, pB, none⟩ (.int .i64 (min out[pB] (far[pA] + c))) := ⟨_, rfl⟩
      have gB : (relB far out ⟨pA, pB, c⟩)[pB]'(by omega) = out[pB] := by
        simp only [eB]
        rw [List.getElem_set_ne (by omega)]
      have eE : relE far out ⟨pA, pB, c⟩ = (relB far out ⟨pA, pB, c⟩).set pB (min out[pB] (far[pA] + c)) := by
        unfold relE
        dsimp only
        rw [lab_get (relB far out ⟨pA, pB, c⟩) pB (by omega), gB, lab_get far pA hA]
        simp
      have hO5 : Own w5.drew W.heap.size (.slice (some ⟨g, 0, none⟩) (relB far out ⟨pA, pB, c⟩).length vcap) (relB far out ⟨pA, pB, c⟩) := by rw [← hlB]; exact ho5.drew
      have HF6 : Hid (Own w6 W.heap.size (.slice (some ⟨g, 0, none⟩) far.length vcap) (relS (l.take (k + 1)) far) ∧ Since W.heap.size W w6) := by
        refine ⟨?_, ?_⟩
        · rw [HTx.out, eE, hw6, hlB]
          exact hO5.set pB _
        · rw [hw6]
          exact ⟨hs5.1.drew.setCell (by show W.heap.size ≤ g; exact hgW) _, by have := hs5.2; simpa [World.setCell] using this⟩
      have q4 := ecell w4.drew hE
      have q5 := ecell w5.drew e5
      have HS5 : Hid (w4.drew.cell? ⟨wr.heap.size, 0, none⟩ = some (.int .i64 (pA : Int)) ∧ w4.drew.cell? ⟨wr.heap.size, 1, none⟩ = some (.int .i64 (pB : Int)) ∧ w4.drew.cell? ⟨wr.heap.size, 2, none⟩ = some (.int .i64 c) ∧ w4.drew.cell? ⟨g, pA, none⟩ = some (.int .i64 out[pA]) ∧ w4.drew.cell? ⟨fg, pB, none⟩ = some (.int .i64 far[pB]) ∧ w4.drew.frozen? ⟨g, pA, none⟩ = false) :=
        ⟨q4.1, q4.2.1, q4.2.2, own_cellG ho4.drew hol pA (by omega), own_cellG (HU.out w4 hs4).drew rfl pB hB, own_frozenG ho4.drew hol pA⟩
      have HS6 : Hid (w5.drew.cell? ⟨wr.heap.size, 0, none⟩ = some (.int .i64 (pA : Int)) ∧ w5.drew.cell? ⟨wr.heap.size, 1, none⟩ = some (.int .i64 (pB : Int)) ∧ w5.drew.cell? ⟨wr.heap.size, 2, none⟩ = some (.int .i64 c) ∧ w5.drew.cell? ⟨g, pB, none⟩ = some (.int .i64 out[pB]) ∧ w5.drew.cell? ⟨fg, pA, none⟩ = some (.int .i64 far[pA]) ∧ w5.drew.frozen? ⟨g, pB, none⟩ = false) :=
        ⟨q5.1, q5.2.1, q5.2.2, by rw [← gB]; exact own_cellG ho5.drew hlB pB (by omega), own_cellG (HU.out w5 hs5).drew rfl pA hA, own_frozenG ho5.drew hlB pB⟩
      have HW4 : Hid (wr.alloc (.cells #[.int .i64 (pA : Int), .int .i64 (pB : Int), .int .i64 c] 84) = w4) := hw4.symm
      have HW5 : Hid (w4.drew.setCell ⟨g, pA, none⟩ (.int .i64 (min out[pA] (far[pB] + c))) = w5) := hw5.symm
      have HW6 : Hid (w5.drew.setCell ⟨g, pB, none⟩ (.int .i64 (min out[pB] (far[pA] + c))) = w6) := hw6.symm
      clear hw4 hw5 hw6 q4 q5 hO5 eE gB ecell e5 hs5 ho5 hO4 eB hs4 ho4 hE hb4 HTx hout hfo ho HI hc hcs HF HFA HU H0 HC
      generalize out[pA] = oa at *
      generalize out[pB] = ob at *
      generalize far[pA] = fa at *
      generalize far[pB] = fb at *
      clear hlB hol
      unfold farC at foA foB ffA ffB
      have hwr1 : IntKind.i64.wrap (fb + c) = fb + c := by rw [IntKind.wrap_i64]; omega
      have hwr2 : IntKind.i64.wrap (fa + c) = fa + c := by rw [IntKind.wrap_i64]; omega
      go_wp2
      rw [HW4.out]
      refine (wpIn_wide (n := 9)).1 ?_
      refine region_outRound (S := (fun w' : World => w'.cell? ⟨wr.heap.size, 0, none⟩ = some (.int .i64 (pA : Int)) ∧ w'.cell? ⟨wr.heap.size, 1, none⟩ = some (.int .i64 (pB : Int)) ∧ w'.cell? ⟨wr.heap.size, 2, none⟩ = some (.int .i64 c) ∧ w'.cell? ⟨g, pA, none⟩ = some (.int .i64 oa) ∧ w'.cell? ⟨fg, pB, none⟩ = some (.int .i64 fb) ∧ w'.frozen? ⟨g, pA, none⟩ = false)) 18 (by kernel_rfl) ?_ (fun hHeld => ?_)
      · exact HS5.out
      refine roundRead 0 (some 17) (.slice (some ⟨g, 0, none⟩) far.length vcap) rfl rfl (by kernel_rfl) (by kernel_rfl) (by kernel_rfl) (by kernel_rfl) (fun _ _ _ h => h) (by kernel_rfl) (by assumption) ?_ ?_
      · intro w hSw
        (try dsimp only at hSw)
        go_simp
      simp only [Act.put, List.setIfInBounds_toArray, List.set_cons_zero, List.set_cons_succ]
      refine roundRead 1 (some 18) (.pointer (some ⟨wr.heap.size, 0, none⟩)) rfl rfl (by kernel_rfl) (by kernel_rfl) (by kernel_rfl) (by kernel_rfl) (fun _ _ _ h => h) (by kernel_rfl) (by assumption) ?_ ?_
      · intro w hSw
        (try dsimp only at hSw)
        go_simp
      simp only [Act.put, List.setIfInBounds_toArray, List.set_cons_zero, List.set_cons_succ]
      refine roundRead 2 (some 19) (.int .i64 (pA : Int)) rfl rfl (by kernel_rfl) (by kernel_rfl) (by kernel_rfl) (by kernel_rfl) (fun _ _ _ h => h) (by kernel_rfl) (by assumption) ?_ ?_
      · intro w hSw
        (try dsimp only at hSw)
        go_simp
      simp only [Act.put, List.setIfInBounds_toArray, List.set_cons_zero, List.set_cons_succ]
      refine roundRead 3 (some 20) (.slice (some ⟨g, 0, none⟩) far.length vcap) rfl rfl (by kernel_rfl) (by kernel_rfl) (by kernel_rfl) (by kernel_rfl) (fun _ _ _ h => h) (by kernel_rfl) (by assumption) ?_ ?_
      · intro w hSw
        (try dsimp only at hSw)
        go_simp
      simp only [Act.put, List.setIfInBounds_toArray, List.set_cons_zero, List.set_cons_succ]
      refine roundRead 4 (some 21) (.pointer (some ⟨wr.heap.size, 0, none⟩)) rfl rfl (by kernel_rfl) (by kernel_rfl) (by kernel_rfl) (by kernel_rfl) (fun _ _ _ h => h) (by kernel_rfl) (by assumption) ?_ ?_
      · intro w hSw
        (try dsimp only at hSw)
        go_simp
      simp only [Act.put, List.setIfInBounds_toArray, List.set_cons_zero, List.set_cons_succ]
      refine roundRead 5 (some 22) (.int .i64 (pA : Int)) rfl rfl (by kernel_rfl) (by kernel_rfl) (by kernel_rfl) (by kernel_rfl) (fun _ _ _ h => h) (by kernel_rfl) (by assumption) ?_ ?_
      · intro w hSw
        (try dsimp only at hSw)
        go_simp
      simp only [Act.put, List.setIfInBounds_toArray, List.set_cons_zero, List.set_cons_succ]
      refine roundRead 6 (some 23) (.pointer (some ⟨g, pA, none⟩)) rfl rfl (by kernel_rfl) (by kernel_rfl) (by kernel_rfl) (by kernel_rfl) (fun _ _ _ h => h) (by kernel_rfl) (by assumption) ?_ ?_
      · intro w hSw
        (try dsimp only at hSw)
        go_simp
      simp only [Act.put, List.setIfInBounds_toArray, List.set_cons_zero, List.set_cons_succ]
      refine roundRead 7 (some 24) (.int .i64 (oa : Int)) rfl rfl (by kernel_rfl) (by kernel_rfl) (by kernel_rfl) (by kernel_rfl) (fun _ _ _ h => h) (by kernel_rfl) (by assumption) ?_ ?_
      · intro w hSw
        (try dsimp only at hSw)
        go_simp
      simp only [Act.put, List.setIfInBounds_toArray, List.set_cons_zero, List.set_cons_succ]
      refine roundRead 8 (some 25) (.slice (some ⟨fg, 0, none⟩) far.length fcap) rfl rfl (by kernel_rfl) (by kernel_rfl) (by kernel_rfl) (by kernel_rfl) (fun _ _ _ h => h) (by kernel_rfl) (by assumption) ?_ ?_
      · intro w hSw
        (try dsimp only at hSw)
        go_simp
      simp only [Act.put, List.setIfInBounds_toArray, List.set_cons_zero, List.set_cons_succ]
      refine roundRead 9 (some 26) (.pointer (some ⟨wr.heap.size, 1, none⟩)) rfl rfl (by kernel_rfl) (by kernel_rfl) (by kernel_rfl) (by kernel_rfl) (fun _ _ _ h => h) (by kernel_rfl) (by assumption) ?_ ?_
      · intro w hSw
        (try dsimp only at hSw)
        go_simp
      simp only [Act.put, List.setIfInBounds_toArray, List.set_cons_zero, List.set_cons_succ]
      refine roundRead 10 (some 27) (.int .i64 (pB : Int)) rfl rfl (by kernel_rfl) (by kernel_rfl) (by kernel_rfl) (by kernel_rfl) (fun _ _ _ h => h) (by kernel_rfl) (by assumption) ?_ ?_
      · intro w hSw
        (try dsimp only at hSw)
        go_simp
      simp only [Act.put, List.setIfInBounds_toArray, List.set_cons_zero, List.set_cons_succ]
      refine roundRead 11 (some 28) (.pointer (some ⟨fg, pB, none⟩)) rfl rfl (by kernel_rfl) (by kernel_rfl) (by kernel_rfl) (by kernel_rfl) (fun _ _ _ h => h) (by kernel_rfl) (by assumption) ?_ ?_
      · intro w hSw
        (try dsimp only at hSw)
        go_simp
      simp only [Act.put, List.setIfInBounds_toArray, List.set_cons_zero, List.set_cons_succ]
      refine roundRead 12 (some 29) (.int .i64 (fb : Int)) rfl rfl (by kernel_rfl) (by kernel_rfl) (by kernel_rfl) (by kernel_rfl) (fun _ _ _ h => h) (by kernel_rfl) (by assumption) ?_ ?_
      · intro w hSw
        (try dsimp only at hSw)
        go_simp
      simp only [Act.put, List.setIfInBounds_toArray, List.set_cons_zero, List.set_cons_succ]
      refine roundRead 13 (some 30) (.pointer (some ⟨wr.heap.size, 2, none⟩)) rfl rfl (by kernel_rfl) (by kernel_rfl) (by kernel_rfl) (by kernel_rfl) (fun _ _ _ h => h) (by kernel_rfl) (by assumption) ?_ ?_
      · intro w hSw
        (try dsimp only at hSw)
        go_simp
      simp only [Act.put, List.setIfInBounds_toArray, List.set_cons_zero, List.set_cons_succ]
      refine roundRead 14 (some 31) (.int .i64 (c : Int)) rfl rfl (by kernel_rfl) (by kernel_rfl) (by kernel_rfl) (by kernel_rfl) (fun _ _ _ h => h) (by kernel_rfl) (by assumption) ?_ ?_
      · intro w hSw
        (try dsimp only at hSw)
        go_simp
      simp only [Act.put, List.setIfInBounds_toArray, List.set_cons_zero, List.set_cons_succ]
      refine roundRead 15 (some 32) (.int .i64 (fb + c)) rfl rfl (by kernel_rfl) (by kernel_rfl) (by kernel_rfl) (by kernel_rfl) (fun _ _ _ h => h) (by kernel_rfl) (by assumption) ?_ ?_
      · intro w hSw
        (try dsimp only at hSw)
        go_simp
      simp only [Act.put, List.setIfInBounds_toArray, List.set_cons_zero, List.set_cons_succ]
      refine roundCall 16 (some 33) 90 #[.int .i64 oa, .int .i64 (fb + c)] (by kernel_rfl) rfl rfl (by kernel_rfl) (by simp [go_sem]) ((l1Least_any _ oa (fb + c)).mono ?_)
      rintro e wl ⟨rfl, hwl⟩
      subst hwl
      refine ⟨_, rfl, (by assumption), fun hHeld => ?_⟩
      simp only [Act.put, List.setIfInBounds_toArray, List.set_cons_zero, List.set_cons_succ]
      refine roundRead 17 (some 34) (.pointer (some ⟨g, pA, none⟩)) rfl rfl (by kernel_rfl) (by kernel_rfl) (by kernel_rfl) (by kernel_rfl) (fun _ _ _ h => h) (by kernel_rfl) (by assumption) ?_ ?_
      · intro w hSw
        (try dsimp only at hSw)
        go_simp
      simp only [Act.put, List.setIfInBounds_toArray, List.set_cons_zero, List.set_cons_succ]
      refine roundStore 18 none (w4.drew.setCell ⟨g, pA, none⟩ (.int .i64 (min oa (fb + c)))) (by kernel_rfl) rfl rfl (.inl (by kernel_rfl)) (by kernel_rfl) (by go_simp) ?_
      simp only [Act.put]
      refine wpAnyR.done (by kernel_rfl) ?_ _
      rw [HW5.out]
      go_wp2
      refine (wpIn_wide (n := 9)).1 ?_
      refine region_outRound (S := (fun w' : World => w'.cell? ⟨wr.heap.size, 0, none⟩ = some (.int .i64 (pA : Int)) ∧ w'.cell? ⟨wr.heap.size, 1, none⟩ = some (.int .i64 (pB : Int)) ∧ w'.cell? ⟨wr.heap.size, 2, none⟩ = some (.int .i64 c) ∧ w'.cell? ⟨g, pB, none⟩ = some (.int .i64 ob) ∧ w'.cell? ⟨fg, pA, none⟩ = some (.int .i64 fa) ∧ w'.frozen? ⟨g, pB, none⟩ = false)) 18 (by kernel_rfl) ?_ (fun hHeld => ?_)
      · exact HS6.out
      refine roundRead 0 (some 35) (.slice (some ⟨g, 0, none⟩) far.length vcap) rfl rfl (by kernel_rfl) (by kernel_rfl) (by kernel_rfl) (by kernel_rfl) (fun _ _ _ h => h) (by kernel_rfl) (by assumption) ?_ ?_
      · intro w hSw
        (try dsimp only at hSw)
        go_simp
      simp only [Act.put, List.setIfInBounds_toArray, List.set_cons_zero, List.set_cons_succ]
      refine roundRead 1 (some 36) (.pointer (some ⟨wr.heap.size, 1, none⟩)) rfl rfl (by kernel_rfl) (by kernel_rfl) (by kernel_rfl) (by kernel_rfl) (fun _ _ _ h => h) (by kernel_rfl) (by assumption) ?_ ?_
      · intro w hSw
        (try dsimp only at hSw)
        go_simp
      simp only [Act.put, List.setIfInBounds_toArray, List.set_cons_zero, List.set_cons_succ]
      refine roundRead 2 (some 37) (.int .i64 (pB : Int)) rfl rfl (by kernel_rfl) (by kernel_rfl) (by kernel_rfl) (by kernel_rfl) (fun _ _ _ h => h) (by kernel_rfl) (by assumption) ?_ ?_
      · intro w hSw
        (try dsimp only at hSw)
        go_simp
      simp only [Act.put, List.setIfInBounds_toArray, List.set_cons_zero, List.set_cons_succ]
      refine roundRead 3 (some 38) (.slice (some ⟨g, 0, none⟩) far.length vcap) rfl rfl (by kernel_rfl) (by kernel_rfl) (by kernel_rfl) (by kernel_rfl) (fun _ _ _ h => h) (by kernel_rfl) (by assumption) ?_ ?_
      · intro w hSw
        (try dsimp only at hSw)
        go_simp
      simp only [Act.put, List.setIfInBounds_toArray, List.set_cons_zero, List.set_cons_succ]
      refine roundRead 4 (some 39) (.pointer (some ⟨wr.heap.size, 1, none⟩)) rfl rfl (by kernel_rfl) (by kernel_rfl) (by kernel_rfl) (by kernel_rfl) (fun _ _ _ h => h) (by kernel_rfl) (by assumption) ?_ ?_
      · intro w hSw
        (try dsimp only at hSw)
        go_simp
      simp only [Act.put, List.setIfInBounds_toArray, List.set_cons_zero, List.set_cons_succ]
      refine roundRead 5 (some 40) (.int .i64 (pB : Int)) rfl rfl (by kernel_rfl) (by kernel_rfl) (by kernel_rfl) (by kernel_rfl) (fun _ _ _ h => h) (by kernel_rfl) (by assumption) ?_ ?_
      · intro w hSw
        (try dsimp only at hSw)
        go_simp
      simp only [Act.put, List.setIfInBounds_toArray, List.set_cons_zero, List.set_cons_succ]
      refine roundRead 6 (some 41) (.pointer (some ⟨g, pB, none⟩)) rfl rfl (by kernel_rfl) (by kernel_rfl) (by kernel_rfl) (by kernel_rfl) (fun _ _ _ h => h) (by kernel_rfl) (by assumption) ?_ ?_
      · intro w hSw
        (try dsimp only at hSw)
        go_simp
      simp only [Act.put, List.setIfInBounds_toArray, List.set_cons_zero, List.set_cons_succ]
      refine roundRead 7 (some 42) (.int .i64 (ob : Int)) rfl rfl (by kernel_rfl) (by kernel_rfl) (by kernel_rfl) (by kernel_rfl) (fun _ _ _ h => h) (by kernel_rfl) (by assumption) ?_ ?_
      · intro w hSw
        (try dsimp only at hSw)
        go_simp
      simp only [Act.put, List.setIfInBounds_toArray, List.set_cons_zero, List.set_cons_succ]
      refine roundRead 8 (some 43) (.slice (some ⟨fg, 0, none⟩) far.length fcap) rfl rfl (by kernel_rfl) (by kernel_rfl) (by kernel_rfl) (by kernel_rfl) (fun _ _ _ h => h) (by kernel_rfl) (by assumption) ?_ ?_
      · intro w hSw
        (try dsimp only at hSw)
        go_simp
      simp only [Act.put, List.setIfInBounds_toArray, List.set_cons_zero, List.set_cons_succ]
      refine roundRead 9 (some 44) (.pointer (some ⟨wr.heap.size, 0, none⟩)) rfl rfl (by kernel_rfl) (by kernel_rfl) (by kernel_rfl) (by kernel_rfl) (fun _ _ _ h => h) (by kernel_rfl) (by assumption) ?_ ?_
      · intro w hSw
        (try dsimp only at hSw)
        go_simp
      simp only [Act.put, List.setIfInBounds_toArray, List.set_cons_zero, List.set_cons_succ]
      refine roundRead 10 (some 45) (.int .i64 (pA : Int)) rfl rfl (by kernel_rfl) (by kernel_rfl) (by kernel_rfl) (by kernel_rfl) (fun _ _ _ h => h) (by kernel_rfl) (by assumption) ?_ ?_
      · intro w hSw
        (try dsimp only at hSw)
        go_simp
      simp only [Act.put, List.setIfInBounds_toArray, List.set_cons_zero, List.set_cons_succ]
      refine roundRead 11 (some 46) (.pointer (some ⟨fg, pA, none⟩)) rfl rfl (by kernel_rfl) (by kernel_rfl) (by kernel_rfl) (by kernel_rfl) (fun _ _ _ h => h) (by kernel_rfl) (by assumption) ?_ ?_
      · intro w hSw
        (try dsimp only at hSw)
        go_simp
      simp only [Act.put, List.setIfInBounds_toArray, List.set_cons_zero, List.set_cons_succ]
      refine roundRead 12 (some 47) (.int .i64 (fa : Int)) rfl rfl (by kernel_rfl) (by kernel_rfl) (by kernel_rfl) (by kernel_rfl) (fun _ _ _ h => h) (by kernel_rfl) (by assumption) ?_ ?_
      · intro w hSw
        (try dsimp only at hSw)
        go_simp
      simp only [Act.put, List.setIfInBounds_toArray, List.set_cons_zero, List.set_cons_succ]
      refine roundRead 13 (some 48) (.pointer (some ⟨wr.heap.size, 2, none⟩)) rfl rfl (by kernel_rfl) (by kernel_rfl) (by kernel_rfl) (by kernel_rfl) (fun _ _ _ h => h) (by kernel_rfl) (by assumption) ?_ ?_
      · intro w hSw
        (try dsimp only at hSw)
        go_simp
      simp only [Act.put, List.setIfInBounds_toArray, List.set_cons_zero, List.set_cons_succ]
      refine roundRead 14 (some 49) (.int .i64 (c : Int)) rfl rfl (by kernel_rfl) (by kernel_rfl) (by kernel_rfl) (by kernel_rfl) (fun _ _ _ h => h) (by kernel_rfl) (by assumption) ?_ ?_
      · intro w hSw
        (try dsimp only at hSw)
        go_simp
      simp only [Act.put, List.setIfInBounds_toArray, List.set_cons_zero, List.set_cons_succ]
      refine roundRead 15 (some 50) (.int .i64 (fa + c)) rfl rfl (by kernel_rfl) (by kernel_rfl) (by kernel_rfl) (by kernel_rfl) (fun _ _ _ h => h) (by kernel_rfl) (by assumption) ?_ ?_
      · intro w hSw
        (try dsimp only at hSw)
        go_simp
      simp only [Act.put, List.setIfInBounds_toArray, List.set_cons_zero, List.set_cons_succ]
      refine roundCall 16 (some 51) 90 #[.int .i64 ob, .int .i64 (fa + c)] (by kernel_rfl) rfl rfl (by kernel_rfl) (by simp [go_sem]) ((l1Least_any _ ob (fa + c)).mono ?_)
      rintro e wl ⟨rfl, hwl⟩
      subst hwl
      refine ⟨_, rfl, (by assumption), fun hHeld => ?_⟩
      simp only [Act.put, List.setIfInBounds_toArray, List.set_cons_zero, List.set_cons_succ]
      refine roundRead 17 (some 52) (.pointer (some ⟨g, pB, none⟩)) rfl rfl (by kernel_rfl) (by kernel_rfl) (by kernel_rfl) (by kernel_rfl) (fun _ _ _ h => h) (by kernel_rfl) (by assumption) ?_ ?_
      · intro w hSw
        (try dsimp only at hSw)
        go_simp
      simp only [Act.put, List.setIfInBounds_toArray, List.set_cons_zero, List.set_cons_succ]
      refine roundStore 18 none (w5.drew.setCell ⟨g, pB, none⟩ (.int .i64 (min ob (fa + c)))) (by kernel_rfl) rfl rfl (.inl (by kernel_rfl)) (by kernel_rfl) (by go_simp) ?_
      simp only [Act.put]
      refine wpAnyR.done (by kernel_rfl) ?_ _
      rw [HW6.out]
      go_wp2
      go_roundw
      case rel => exact ⟨k + 1, by omega, by go_num, HF6.out⟩
      case measure => simp [intOf]; omega
    · have e : k = l.length := by omega
      have HE : Hid (Own wr W.heap.size (.slice (some ⟨g, 0, none⟩) far.length vcap) (relS l far) ∧ Since W.heap.size W wr) := by
        have := HI.out
        rw [e, List.take_length] at this
        exact this
      clear HI HC HF HFA HU H0
      subst e
      go_wp2
      go_ret
      exact ⟨_, rfl, HE.out.1, HE.out.2.1⟩

theorem rep_snoc (n : Nat) (z : Int) : List.replicate (n + 1) z = List.replicate n z ++ [z] := List.replicate_succ'

set_option maxRecDepth 100000 in
set_option maxHeartbeats 4000000 in
theorem l9Fars_any (W : World) (v : Value) (l : List EdD) (n : Nat) (a : Int) (h : ReadsEd W v l) (hf : FitEd n l) (hn : 1 ≤ n ∧ n ≤ 12) (hl : l.length ≤ 40) (ha : 0 ≤ a ∧ a < n) :
    Calls Try.prog 67 #[.int .i64 (n : Int), v, .int .i64 a] W fun e W' => ∃ v', e = .returned v' ∧ Own W' W.heap.size v' (fars n l a) ∧ Below W.heap.size W W' := by
  have HR : Hid (∀ w, Since W.heap.size W w → ReadsEd w v l) := fun w hs => h.below hs.1
  obtain ⟨a1, c1, rfl⟩ := h.shape
  have CX : Hid (∀ (w : World) (u : Value) (j : Nat), Since W.heap.size W w → Own w W.heap.size u (farD n l a j) → Calls Try.prog 95 #[.slice a1 l.length c1, u] w fun e w' => ∃ v', e = .returned v' ∧ Own w' w.heap.size v' (farD n l a (j + 1)) ∧ Below w.heap.size w w') := fun w u j hs ho =>
    l9Relax_any w _ u l (farD n l a j) _ (HR.out w hs) ho (by rw [farD_len]; exact hf) (by rw [farD_len]; exact hn) hl (fun i h0 hi => by
      rw [farD_len] at hi
      exact ⟨farD_nonneg hf ha j i h0 hi, farD_far ha j i h0 hi⟩)
  obtain ⟨k, rfl⟩ : ∃ k : Nat, a = (k : Int) := ⟨a.toNat, by omega⟩
  have hk : k < n := by omega
  have hk' : (k : Int) < (n : Int) := by omega
  have HN : Hid (1 ≤ n ∧ n ≤ 12) := hn
  have hn12 : n ≤ 12 := hn.2
  have HS0 : Hid (Since W.heap.size W W) := Since.start W
  clear h hf hn ha
  go_enter Try.func67, Try.ntmps67
  go_wp2
  go_loopw [7, 8] (fun u i wr => ∃ j : Nat, j ≤ n ∧ i = .int .i64 j ∧ Hid (Own wr W.heap.size u (List.replicate j 100000) ∧ Since W.heap.size W wr)) (fun _ i _ => n - (intOf i).toNat)
  case atStart => exact ⟨0, Nat.zero_le _, rfl, Own.nil _ _, HS0.out⟩
  case round =>
    obtain ⟨j, hj, rfl, HK⟩ := hrel
    obtain ⟨a2, c2, rfl⟩ := HK.out.1.shape
    rw [List.length_replicate] at *
    by_cases hlt : j < n
    · have hlt' : (j : Int) < (n : Int) := by omega
      have hb1 : Below wr.heap.size wr (wr.alloc (.cells #[.int .i64 100000] 3)) := (Below.refl _ wr).alloc (Nat.le_refl _) _
      have HC : Hid (∀ ty, ∃ v' w', (Builtin.append_ #[26, 26] ty #[.slice a2 j c2, .slice (some ⟨wr.heap.size, 0, none⟩) 1 1]).run Try.prog (wr.alloc (.cells #[.int .i64 100000] 3)) = .ok v' w' ∧ Grown (wr.alloc (.cells #[.int .i64 100000] 3)) W.heap.size 3 1 (.slice a2 j c2) (List.replicate j (100000 : Int) ++ [100000]).length ((List.replicate j (100000 : Int) ++ [100000]).map (Value.int .i64)) v' w') := fun ty =>
        run_app1 _ _ _ (List.replicate j 100000) (HK.out.1.below hb1) wr.heap.size 1 100000 (new_cell _ _ _) (by rw [List.length_replicate]; omega) (by have := HK.out.2.2; simp; omega) ty
      have SQ1 : Hid (Since W.heap.size W (wr.alloc (.cells #[.int .i64 100000] 3))) := HK.out.2.step hb1
      clear hb1 HK
      go_wp2_with (at_builtin; refine list_app (by rfl) (.tmp 15) (.tmp 16) 26 (by rfl) (.slice a2 j c2) (.slice (some ⟨wr.heap.size, 0, none⟩) 1 1) (by rfl) (by rfl) _ HC.out ?_; intro v5 w5 hg5; have HF : Hid (Own w5 W.heap.size v5 (List.replicate (j + 1) 100000) ∧ Since W.heap.size W w5) := ⟨by rw [rep_snoc]; exact hg5.own, ⟨SQ1.out.1.trans hg5.below, Nat.le_trans SQ1.out.2 hg5.size⟩⟩; clear hg5)
      go_roundw
      case rel => exact ⟨j + 1, by omega, by go_num, HF.out⟩
      case measure => simp [intOf]; omega
    · have e : j = n := by omega
      subst e
      obtain ⟨g, rfl, HG⟩ : ∃ g, a2 = some ⟨g, 0, none⟩ ∧ Hid (W.heap.size ≤ g ∧ Own wr W.heap.size (.slice (some ⟨g, 0, none⟩) j c2) (List.replicate j 100000) ∧ Since W.heap.size W wr) := by
        have ho := HK.out.1
        rcases HK.out.1.2 with ⟨-, h0⟩ | ⟨g, cap, cur, hv, hB, hg, -⟩
        · rw [List.length_replicate] at h0
          have := HN.out
          omega
        · rw [List.length_replicate] at hv
          cases hv
          exact ⟨g, rfl, hB, ho, HK.out.2⟩
      have hcg : wr.cell? ⟨g, k, none⟩ = some (.int .i64 100000) := by
        have := own_cellG HG.out.2.1 (by simp) k (by simpa using hk)
        simpa using this
      have hfg : wr.frozen? ⟨g, k, none⟩ = false := own_frozenG HG.out.2.1 (by simp) k
      have HI : Hid (Own (wr.setCell ⟨g, k, none⟩ (.int .i64 0)) W.heap.size (.slice (some ⟨g, 0, none⟩) j c2) (farD j l k 0) ∧ Since W.heap.size W (wr.setCell ⟨g, k, none⟩ (.int .i64 0))) := by
        refine ⟨?_, HG.out.2.2.1.setCell (by have := HG.out.1; show W.heap.size ≤ g; omega) _, by have := HG.out.2.2.2; simpa [World.setCell] using this⟩
        have hO2 : Own wr W.heap.size (.slice (some ⟨g, 0, none⟩) (List.replicate j (100000 : Int)).length c2) (List.replicate j 100000) := by rw [List.length_replicate]; exact HG.out.2.1
        have := hO2.set k 0
        rw [List.length_replicate] at this
        exact this
      clear HG HK
      go_wp2
      go_loopw [7, 9] (fun u i ws => ∃ q : Nat, q ≤ j ∧ i = .int .i64 q ∧ Hid (Own ws W.heap.size u (farD j l k q) ∧ Since W.heap.size W ws)) (fun _ i _ => j - (intOf i).toNat)
      case atStart => exact ⟨0, Nat.zero_le _, rfl, HI.out⟩
      case round =>
        obtain ⟨q, hq, rfl, HK⟩ := hrel
        obtain ⟨a3, c3, rfl⟩ := HK.out.1.shape
        by_cases hlt : q < j
        · have hlt' : (q : Int) < (j : Int) := by omega
          go_wp2_with fail
          refine (CX.out _ _ q HK.out.2 HK.out.1).mono ?_
          rintro e wq ⟨vq, rfl, hoq, hbq⟩
          have HF : Hid (Own wq W.heap.size vq (farD j l k (q + 1)) ∧ Since W.heap.size W wq) := ⟨hoq.mono HK.out.2.2, HK.out.2.step hbq⟩
          obtain ⟨a4, c4, rfl⟩ := hoq.shape
          clear hoq hbq HK
          go_wp2
          go_roundw
          case rel => exact ⟨q + 1, by omega, by go_num, HF.out⟩
          case measure => simp [intOf]; omega
        · have e : q = j := by omega
          have HE : Hid (Own wr W.heap.size (.slice a3 (farD j l k q).length c3) (fars j l k) ∧ Since W.heap.size W wr) := by
            have := HK.out
            rw [show fars j l k = farD j l k q by rw [e]; rfl]
            exact this
          clear HK
          subst e
          go_wp2
          go_ret
          exact ⟨_, rfl, HE.out.1, HE.out.2.1⟩
end Go.Proofs.Ythlbmkefjjckaad
