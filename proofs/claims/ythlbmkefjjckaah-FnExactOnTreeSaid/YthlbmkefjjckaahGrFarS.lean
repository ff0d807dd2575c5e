/-
  'l9Relax', 'l9Fars' of the model.
-/
import Derived.Test.YthlbmkefjjckaahGrRepeat
import Derived.Test.YthlbmkefjjckaahGrGrpS
namespace Go.Proofs.Ythlbmkefjjckaah
open Go.RowKit
set_option linter.unusedVariables false
attribute [local go_sem] Oper.semAt_some wide_fn

theorem relF_fit {n : Nat} {far : List Int} (hl : far.length = n) : ∀ (l : List EdD) (out : List Int), FitEd n l → out.length = n → (∀ i : Int, 0 ≤ i → i < n → 0 ≤ lab far i) → (∀ i : Int, 0 ≤ i → i < n → 0 ≤ lab out i ∧ lab out i ≤ farC) → ∀ i : Int, 0 ≤ i → i < n → 0 ≤ lab (l.foldl (relE far) out) i ∧ lab (l.foldl (relE far) out) i ≤ farC
  | [], out, _, _, _, h => h
  | e :: r, out, hf, ho, hp, h => by
    have he := hf e (List.mem_cons_self ..)
    refine relF_fit hl r (relE far out e) (fun x hx => hf x (List.mem_cons_of_mem _ hx)) (by rw [relE_len]; exact ho) hp fun i h0 hi => ?_
    have key := fun y => le_relE (n := (n : Int)) far out e (by rw [ho]) ⟨he.1, he.2.1, he.2.2.1⟩ i y h0
    have hb := h i h0 hi
    refine ⟨(key 0).2 ⟨hb.1, fun _ => ?_, fun _ => ?_⟩, ?_⟩
    · have := hp e.B he.2.1.1 he.2.1.2; omega
    · have := hp e.A he.1.1 he.1.2; omega
    · have := ((key _).1 (Int.le_refl _)).1
      omega

theorem relB_len (far out : List Int) (e : EdD) : (relB far out e).length = out.length := by simp [relB]
theorem grown_at {W w1 : World} {g0 c0 : Nat} {far : List Int} {v1 : Value} (hg : Grown (W.alloc (.cells #[] 3)) W.heap.size 3 1 (.slice (some ⟨g0, 0, none⟩) 0 c0) far.length (far.map (Value.int .i64)) v1 w1) (hn : 1 ≤ far.length) :
    ∃ g vcap, v1 = .slice (some ⟨g, 0, none⟩) far.length vcap ∧ Hid (W.heap.size ≤ g ∧ Own w1 W.heap.size (.slice (some ⟨g, 0, none⟩) far.length vcap) far ∧ Since W.heap.size W w1) := by
  have ho := hg.own
  rcases hg.own.2 with ⟨-, h0⟩ | ⟨g, vcap, vcur, rfl, hB, hgc, -⟩
  · omega
  · exact ⟨g, vcap, rfl, hB, ho, ((Below.refl _ W).alloc (Nat.le_refl _) _).trans hg.below, by have := hg.size; simp at this; omega⟩

theorem rep_snoc (n : Nat) (z : Int) : List.replicate (n + 1) z = List.replicate n z ++ [z] := List.replicate_succ'

end Go.Proofs.Ythlbmkefjjckaah
