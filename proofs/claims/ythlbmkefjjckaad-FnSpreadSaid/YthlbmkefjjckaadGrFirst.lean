/-
  'FirstHops' of the program and of the model.
-/
import Derived.Test.YthlbmkefjjckaadGrHopsS
namespace Go.Proofs.Ythlbmkefjjckaad
open Go.RowKit
set_option linter.unusedVariables false

theorem hopsEnters (args : Array Value) (w : World) : (callFunc 93 args).run Try.prog w = .ok (.enter 93 args) w := enters_of Try.func93 (by kernel_rfl) rfl args w

/-- The world behind 'hopsOn'. -/
def hopsW (W : World) (v u : Value) (a : Int) : World := ((W.alloc (.cells #[v] 23)).alloc (.cells #[u] 26)).alloc (.cells #[.int .i64 a] 3)
theorem hopsW_below (W : World) (v u : Value) (a : Int) : Below W.heap.size W (hopsW W v u a) := (((Below.refl _ W).alloc (Nat.le_refl _) _).alloc (by simp) _).alloc (by simp; omega) _
theorem hopsW_size (W : World) (v u : Value) (a : Int) : (hopsW W v u a).heap.size = W.heap.size + 3 := by simp [hopsW]
/-- What 'Collect' makes of 'hopsOn'. -/
theorem colHops_any (W : World) (v u : Value) (l : List EdD) (far : List Int) (n : Nat) (a : Int) (B : Nat) (hr : ReadsEd W v l) (hu : Own W B u far) (hn : 1 ≤ n ∧ n ≤ 12) (hfl : far.length = n) (hf : FitEd n l) (ha : 0 ≤ a ∧ a < n) (hl : l.length ≤ 40)
    (hfar : ∀ i : Int, 0 ≤ i → i < n → 0 ≤ lab far i ∧ lab far i ≤ farC) :
    Calls Try.prog 65 #[.func (.func 93) #[] #[.pointer (some ⟨W.heap.size, 0, none⟩), .pointer (some ⟨W.heap.size + 1 + 1, 0, none⟩), .pointer (some ⟨W.heap.size + 1, 0, none⟩)]] (hopsW W v u a)
      fun e W' => ∃ v', e = .returned v' ∧ Own W' W.heap.size v' (hopsD l far a) ∧ Below W.heap.size W W' := by
  rcases hu.2 with ⟨-, h0⟩ | ⟨fg, fcap, fcur, rfl, hfB, hfg, -⟩
  · omega
  have hu' := hu
  rw [hfl] at hu'
  have hb := hopsW_below W v (.slice (some ⟨fg, 0, none⟩) far.length fcap) a
  have c0 : (hopsW W v (.slice (some ⟨fg, 0, none⟩) far.length fcap) a).cell? ⟨W.heap.size, 0, none⟩ = some v := (((Boxed.new W _ _).alloc _).alloc _).cell
  have c1 : (hopsW W v (.slice (some ⟨fg, 0, none⟩) far.length fcap) a).cell? ⟨W.heap.size + 1, 0, none⟩ = some (.slice (some ⟨fg, 0, none⟩) far.length fcap) := by
    have := ((Boxed.new (W.alloc (.cells #[v] 23)) 26 (.slice (some ⟨fg, 0, none⟩) far.length fcap)).alloc (.cells #[.int .i64 a] 3)).cell
    rwa [World.size_alloc] at this
  have c2 : (hopsW W v (.slice (some ⟨fg, 0, none⟩) far.length fcap) a).cell? ⟨W.heap.size + 1 + 1, 0, none⟩ = some (.int .i64 a) := by
    have := (Boxed.new ((W.alloc (.cells #[v] 23)).alloc (.cells #[.slice (some ⟨fg, 0, none⟩) far.length fcap] 26)) 3 (.int .i64 a)).cell
    rwa [World.size_alloc, World.size_alloc] at this
  rw [hfl] at c1
  have hseq := hopsIt_any (fun b => b < W.heap.size + 3) W.heap.size (W.heap.size + 1 + 1) (W.heap.size + 1) v l far n a W _ B fg fcap hn hfl hf ha hl hfar (by omega) (by omega) (by omega) c0 c2 (by rw [← hfl] at c1 ⊢; exact c1) hr hu' hb (fun b hb => by omega)
  refine (collect_any _ _ _ _ (hopsD l far a) hopsEnters hseq (fun b hb => by rw [hopsW_size]; exact hb) (Nat.le_trans (hopsD_len l far a) (by omega))).mono ?_
  rintro e W' ⟨v', rfl, ho, hbb⟩
  exact ⟨v', rfl, ho.mono hb.size, hb.trans (hbb.mono hb.size)⟩

def hopsOk (n : Int) (l : List EdD) (a b : Int) : Bool := endsOk n l a b && decide (a ≠ b)
def hopsOut (n : Int) (l : List EdD) (a b : Int) : List Int := if hopsOk n l a b then hopsD l (fars n.toNat l b) a else []
theorem hopsOk_true {n : Int} {l : List EdD} {a b : Int} (h : hopsOk n l a b = true) : goodEd n l = true ∧ (0 ≤ a ∧ a < n) ∧ (0 ≤ b ∧ b < n) ∧ a ≠ b := by
  unfold hopsOk at h
  rw [Bool.and_eq_true] at h
  have := endsOk_true h.1
  exact ⟨this.1, this.2.1, this.2.2, of_decide_eq_true h.2⟩
theorem hopsOut_len (n : Int) (l : List EdD) (a b : Int) : (hopsOut n l a b).length ≤ 4194304 := by
  unfold hopsOut
  split
  · next h =>
    have h1 := hopsOk_true h
    have := (goodEd_true h1.1).2.1
    have := hopsD_len l (fars n.toNat l b) a
    omega
  · simp

end Go.Proofs.Ythlbmkefjjckaad
