/-
  What drawing with a cursor leaves as it was: rows, the cursor itself; a cursor that is made; numbers typed out in a row.
-/
import Derived.Test.YthlbmkefjjckaacCur0
import Derived.Test.YthlbmkefjjckaacRow0
import Derived.WideShapes
namespace Go.Proofs.Ythlbmkefjjckaac
open Go.RowKit
set_option linter.unusedVariables false

theorem rowOnly {W W' : World} {B c : Nat} {e : TypeId} {size n : Nat} {v : Value} {xs : List Value} (h : W.ownsRow B e size v n xs) (ho : Only c W W') (hc : c < B) : W'.ownsRow B e size v n xs :=
  rowSame h fun k hk => ho.2 k (World.ownsRow.lt h k hk).2 (by have := (World.ownsRow.lt h k hk).1; omega)
theorem onlyAlloc {c : Nat} {w w' : World} (h : Only c w w') (o : Obj) : Only c w (w'.alloc o) := h.trans (below_only ((Below.refl _ w').alloc (Nat.le_refl _) o) c)
theorem curAlloc {B : Nat} {w0 W : World} {c : Nat} {a : Option Addr} {len cap m : Nat} (h : Cur B w0 W c a len cap m) (o : Obj) : Cur B w0 (W.alloc o) c a len cap m := h.below ((Below.refl _ W).alloc (Nat.le_refl _) o)
theorem cells_lit (w : World) (t : TypeId) (zs : List Int) : ∀ j (hj : j < zs.length), (w.alloc (.cells (zs.map (Value.int .i64)).toArray t)).cell? ⟨w.heap.size, j, none⟩ = some (.int .i64 zs[j]) := by
  intro j hj
  rw [World.cell?_alloc_at _ _ _ _ rfl]
  simp [hj]
theorem cur_new {B : Nat} {w0 W : World} (a : Option Addr) (len cap : Nat) (t : TypeId) (h : Since B w0 W) :
    Cur B w0 (W.alloc (.cells #[.slice a len cap, .int .i64 0, .int .u64 0] t)) W.heap.size a len cap 0 := by
  have hh : (W.alloc (.cells #[.slice a len cap, .int .i64 0, .int .u64 0] t)).heap[W.heap.size]? = some (.cells #[.slice a len cap, .int .i64 0, .int .u64 0] t) := by
    show (W.heap.push _)[W.heap.size]? = _
    simp
  refine ⟨h.2, by simp, h.step ((Below.refl _ _).alloc (Nat.le_refl _) _), ?_, ⟨0, Nat.le_refl _, ?_⟩, ⟨0, ?_⟩, ?_, ?_⟩
  · rw [World.cell?_alloc_at _ _ _ _ rfl]; rfl
  · rw [World.cell?_alloc_at _ _ _ _ rfl]; rfl
  · rw [World.cell?_alloc_at _ _ _ _ rfl]; rfl
  · unfold World.frozen?; rw [hh]; simp
  · unfold World.frozen?; rw [hh]; simp
/-- The cursor behind an append onto a row that lies above it. -/
theorem curGrown {B : Nat} {w0 w w' : World} {c : Nat} {a : Option Addr} {len cap m : Nat} {e : TypeId} {size n : Nat} {v v' : Value} {xs : List Value} (h : Cur B w0 w c a len cap m) (hg : Grown w (c + 1) e size v n xs v' w') : Cur B w0 w' c a len cap m := by
  have h1 : w'.heap[c]? = w.heap[c]? := hg.below.block c (by omega)
  obtain ⟨k1, k2, k3, k4, ⟨n, hn, k5⟩, ⟨sd, k6⟩, k7, k8⟩ := h
  exact ⟨k1, Nat.lt_of_lt_of_le k2 hg.size, ⟨k3.1.trans (hg.below.mono (by omega)), Nat.le_trans k3.2 hg.size⟩, (World.cell?_of_block h1).trans k4, ⟨n, by omega, (World.cell?_of_block h1).trans k5⟩, ⟨sd, (World.cell?_of_block h1).trans k6⟩, (World.frozen?_of_block h1).trans k7, (World.frozen?_of_block h1).trans k8⟩
end Go.Proofs.Ythlbmkefjjckaac
