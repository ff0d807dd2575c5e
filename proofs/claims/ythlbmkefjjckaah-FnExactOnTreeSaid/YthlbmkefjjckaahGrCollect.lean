/-
  'slices.Collect' of an iterator over numbers.
-/
import Derived.Test.YthlbmkefjjckaahGrHops
namespace Go.Proofs.Ythlbmkefjjckaah
open Go.RowKit
set_option linter.unusedVariables false
attribute [local go_sem] Oper.semAt_some wide_fn

/-- 'append' as one step of a fenced walk. -/
theorem listIn_app {F : Fence} {n : Nat} {ops : Array Oper} {rest : List Oper} {o : Oper} {a : Act} {w : World} {Q : Exit → Act → World → Prop} (hgd : o.guard = none) (s x : Operand) (t : TypeId)
    (hop : o.op = .call { callee := .builtin .append, args := #[s, x], argTypes := #[t, t] }) (v xv : Value) (hs : a.eval s = v) (hx : a.eval x = xv)
    (R : Value → World → Prop) (hrun : ∀ ty, ∃ v' w', (Builtin.append_ #[t, t] ty #[v, xv]).run Try.prog w = .ok v' w' ∧ R v' w') (h : ∀ v' w', R v' w' → wpListIn F n Try.prog ops Q rest (a.put o.dst v') w') : wpListIn F n Try.prog ops Q (o :: rest) a w := by
  refine wpListIn_plain hgd fun K hK => ?_
  obtain ⟨v', w', hr, hR⟩ := hrun o.type
  refine ⟨?_, ?_⟩
  · simp [Oper.about, hop, resolve, Target.leads, Sem.run_pure]
  · rw [Oper.semAt_plain F _ _ (by rw [hop]; intro c hc; cases hc)]
    simp [execOp, hop, resolve, invoke, builtin, hs, hx, hr, Result.andThen]
    exact hK _ _ (h v' w' hR)

/-- What the box of the collector holds when so many have come. -/
def ColI (B bx : Nat) (W0 : World) (pre : List Int) (w : World) : Prop := ∃ v, Boxed w bx 22 v ∧ Own w (B + 1) v pre ∧ Since B W0 w
def ColMine (bx : Nat) (w : World) (b : Nat) : Prop := b = bx ∨ ∃ n c, w.cell? ⟨bx, 0, none⟩ = some (.slice (some ⟨b, 0, none⟩) n c)
theorem colMine_ok (B bx : Nat) (W0 : World) (hbx : bx < B + 1) : MineOk (B + 1) (ColI B bx W0) (ColMine bx) where
  lt := fun s W b ⟨v, hb, ho, _⟩ hm => by
    rcases hm with rfl | ⟨n, c, hc⟩
    · exact hb.lt
    · rw [hb.cell] at hc
      cases hc
      exact (World.ownsRow.lt ho b rfl).2
  step := fun s W W' row b ⟨v, hb, ho, _⟩ hW hg hr hm => by
    have hne : some bx ≠ row := fun e => by have := (hr bx e.symm).1; omega
    have hb' : Boxed W' bx 22 v := (hg.block bx hb.lt hne).trans hb
    rcases hm with rfl | ⟨n, c, hc⟩
    · exact .inl rfl
    · rw [hb'.cell] at hc
      cases hc
      exact .inr ⟨n, c, hb.cell⟩
theorem colI_from (B B' bx : Nat) (W0 : World) (hB : B ≤ W0.heap.size) (hB' : B ≤ B') : OwnFrom B' (ColI B bx W0) := fun s A A' row ⟨v, hb, ho, hs⟩ hg hr =>
  ⟨v, boxed_own (β := Unit) bx 22 (fun _ => v) () A A' row hb hg (fun r e => (hr r e).2), own_from (β := Unit) B' (B + 1) (fun _ => v) (fun _ => s) () A A' row ho hg hr, since_from (β := Unit) hB hB' () A A' row hs hg hr⟩

end Go.Proofs.Ythlbmkefjjckaah
