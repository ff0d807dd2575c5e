/-
  What the laws' walks share: a world that has gone on, rows that are kept, the laws' functions over numbers told as those over structs are.
-/
import Derived.Test.YthlbmkefjjckaagRow0
namespace Go.Proofs.Ythlbmkefjjckaag
open Go.RowKit

theorem Since.grown {B : Nat} {w0 w w' : World} {row : Option Nat} (h : Since B w0 w) (hg : w.grownBy w' row) (hk : ∀ k, row = some k → B ≤ k) : Since B w0 w' :=
  ⟨h.1.grown hg h.2 hk, Nat.le_trans h.2 hg.size⟩
theorem rowGrow {W W' : World} {B : Nat} {e : TypeId} {size n : Nat} {v : Value} {xs : List Value} {row : Option Nat} (h : W.ownsRow B e size v n xs) (hg : W.grownBy W' row) (hne : ∀ k, row = some k → v.ownBlock ≠ some k) : W'.ownsRow B e size v n xs := by
  refine World.ownsRow.kept h hg ?_
  rcases hv : v.ownBlock with _ | k
  · exact .inl rfl
  · exact .inr fun e => hne k e.symm hv
theorem apartSym {v u : Value} (h : ∀ k, v.ownBlock = some k → u.ownBlock ≠ some k) : ∀ k, u.ownBlock = some k → v.ownBlock ≠ some k := fun k hk hv => h k hv hk

theorem eqIs_same (W : World) (v1 v2 : Value) (zs : List Int) (h1 : Reads W v1 zs) (h2 : Reads W v2 zs) (hl : zs.length ≤ 4194304) :
    Calls Try.prog 12 #[v1, v2] W fun e W' => e = .returned (.bool true) ∧ Below W.heap.size W W' := by
  refine (eqInts_same W v1 v2 zs h1 h2 hl).mono ?_
  rintro e w' ⟨rfl, n, rfl⟩
  exact ⟨rfl, below_drewN (Below.refl _ _) n⟩

theorem markIs_any (W : World) (B : Nat) (v : Value) (k0 : Nat) (zs : List Int) (h : Own W B v zs) (hl : zs.length ≤ 4194304) (hk1 : k0 ≤ 1000000000) :
    Calls Try.prog 16 #[v, .int .i64 (k0 : Int)] W fun e W' => e = .returned (.int .i64 ((k0 + 1 * zs.length : Nat) : Int)) ∧ Own W' B v (marks (k0 : Int) zs.length) ∧ W'.heap.size = W.heap.size ∧ W.grownBy W' v.ownBlock := by
  refine (markInts_any W B v (k0 : Int) zs h hl (by omega) (by omega)).mono ?_
  rintro e w' ⟨rfl, h1, h2, h3⟩
  exact ⟨by congr 2; omega, h1, h2, h3⟩

theorem heldIs_yes (W : World) (v : Value) (k0 n : Nat) (h : Reads W v (marks (k0 : Int) n)) (hl : n ≤ 4194304) (hk1 : k0 ≤ 1000000000) :
    Calls Try.prog 56 #[v, .int .i64 (k0 : Int)] W fun e W' => e = .returned (.int .i64 ((k0 + 1 * n : Nat) : Int)) ∧ W' = W := by
  refine (heldInts_yes W v (k0 : Int) n h hl (by omega) (by omega)).mono ?_
  rintro e w' ⟨rfl, h1⟩
  exact ⟨by congr 2; omega, h1⟩
end Go.Proofs.Ythlbmkefjjckaag
