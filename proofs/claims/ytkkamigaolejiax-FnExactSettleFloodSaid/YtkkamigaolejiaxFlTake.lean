/-
  'setOwed', 'oweToAll' of the program.
-/
import Derived.Test.YtkkamigaolejiaxFlStore
namespace Go.Proofs.Ytkkamigaolejiax
open Go.RowKit
set_option linter.unusedVariables false

/-- A flood that a call owns, with numbers as said. -/
structure SF (W : World) (B : Nat) (x y z l : Value) (xs ys zs : List Value) (f : FD) (n : Nat) : Prop where
  own : OwnF W B x y z l xs ys zs f
  num : Num (debtsL n f.lk) n (debtsL n f.lk).length f
  lks : linksB (n : Int) f.lk = true
  n1 : 1 ≤ n
  n6 : n ≤ 6
  low : B ≤ W.heap.size
theorem SF.lens {W : World} {B : Nat} {x y z l : Value} {xs ys zs : List Value} {f : FD} {n : Nat} (h : SF W B x y z l xs ys zs f n) : f.kn.length = n ∧ f.ow.length = (debtsL n f.lk).length ∧ (∀ i (hi : i < f.kn.length), f.kn[i].length = n) ∧ ∀ i (hi : i < f.ow.length), f.ow[i].length = n := by
  refine ⟨h.num.kn.len, h.num.ow.len, fun i hi => ?_, fun i hi => ?_⟩
  · have := h.num.kn.row i (by rw [← h.num.kn.len]; exact hi)
    rw [getL_at f.kn i hi] at this
    exact this
  · have := h.num.ow.row i (by rw [← h.num.ow.len]; exact hi)
    rw [getL_at f.ow i hi] at this
    exact this
theorem debts36 (n : Nat) (lks : List (List Int)) (hn : n ≤ 6) : (debtsL n lks).length ≤ 36 := Nat.le_trans (debtsTo_len n lks n) (by have : n * n ≤ 6 * 6 := Nat.mul_le_mul hn hn; omega)
theorem SF.below {W W' : World} {B : Nat} {x y z l : Value} {xs ys zs : List Value} {f : FD} {n : Nat} (h : SF W B x y z l xs ys zs f n) (hb : Below W.heap.size W W') : SF W' B x y z l xs ys zs f n := ⟨h.own.below hb, h.num, h.lks, h.n1, h.n6, Nat.le_trans h.low hb.size⟩
theorem ow_inner {ow' : List (List Int)} {W : World} {B : Nat} {x y z l : Value} {xs ys zs : List Value} {f : FD} (h : OwnF W B x y z l xs ys zs f) {gi : Nat} (hg : InSS zs gi) (j : Nat) (u : Value) (hz : OwnSS (W.setCell ⟨gi, j, none⟩ u) B z zs ow') : OwnF (W.setCell ⟨gi, j, none⟩ u) B x y z l xs ys zs ⟨f.lk, f.kn, ow', f.ln⟩ := by
  have hne : ∀ b, b ≠ gi → (W.setCell ⟨gi, j, none⟩ u).heap[b]? = W.heap[b]? := fun b hb => Below.heap_setCell _ _ _ _ hb
  refine ⟨h.lk.same (fun k hk => hne k (fun e => outer_inner h.lk h.ow k hk (by rw [e]; exact hg))) (fun k hk => hne k (fun e => h.a02.2 k hk (by rw [e]; exact hg))),
    h.kn.same (fun k hk => hne k (fun e => outer_inner h.kn h.ow k hk (by rw [e]; exact hg))) (fun k hk => hne k (fun e => h.a12.2 k hk (by rw [e]; exact hg))), hz,
    rowSame h.ln (fun k hk => hne k (fun e => lts_inner h.ln h.ow k hk (by rw [e]; exact hg))), h.a01, h.a02, h.a12⟩
theorem kn_inner {kn' : List (List Int)} {W : World} {B : Nat} {x y z l : Value} {xs ys zs : List Value} {f : FD} (h : OwnF W B x y z l xs ys zs f) {gi : Nat} (hg : InSS ys gi) (j : Nat) (u : Value) (hz : OwnSS (W.setCell ⟨gi, j, none⟩ u) B y ys kn') : OwnF (W.setCell ⟨gi, j, none⟩ u) B x y z l xs ys zs ⟨f.lk, kn', f.ow, f.ln⟩ := by
  have hne : ∀ b, b ≠ gi → (W.setCell ⟨gi, j, none⟩ u).heap[b]? = W.heap[b]? := fun b hb => Below.heap_setCell _ _ _ _ hb
  refine ⟨h.lk.same (fun k hk => hne k (fun e => outer_inner h.lk h.kn k hk (by rw [e]; exact hg))) (fun k hk => hne k (fun e => h.a01.2 k hk (by rw [e]; exact hg))), hz,
    h.ow.same (fun k hk => hne k (fun e => outer_inner h.ow h.kn k hk (by rw [e]; exact hg))) (fun k hk => hne k (fun e => h.a12.2 k (by rw [e]; exact hg) hk)),
    rowSame h.ln (fun k hk => hne k (fun e => lts_inner h.ln h.kn k hk (by rw [e]; exact hg))), h.a01, h.a02, h.a12⟩
end Go.Proofs.Ytkkamigaolejiax
