/-
  What the model's 'l1Put' answers: the list with the number put in its place.
-/
import Derived.Test.YthlbmkefjjckaahEqInts
import Derived.Laws.AppendOwnNone
import Derived.WideShapes
namespace Go.Proofs.Ythlbmkefjjckaah
open Go.RowKit

theorem ints_one (l : List Int) : ∀ u ∈ l.map (Value.int .i64), u.oneCell' = true := fun u hu => by
  obtain ⟨z, -, rfl⟩ := List.mem_map.1 hu
  rfl
theorem own_ge {W : World} {B : Nat} {v : Value} {l : List Int} (h : Own W B v l) {b : Nat} (hb : v.ownBlock = some b) : B ≤ b := by
  rcases h.2 with ⟨rfl, -⟩ | ⟨g, cap, cur, rfl, h1, -⟩
  · simp [Value.ownBlock] at hb
  · simp [Value.ownBlock] at hb; omega
theorem own_of2 {W : World} {B n : Nat} {v : Value} {l m : List Int} (h : W.ownsRow B 3 1 v n (l.map (Value.int .i64) ++ m.map (Value.int .i64))) (hn : n = l.length + m.length) : Own W B v (l ++ m) := by
  subst hn
  unfold Own
  rw [List.length_append, List.map_append]
  exact h
theorem own_of {W : World} {B n : Nat} {v : Value} {l : List Int} (h : W.ownsRow B 3 1 v n ([] ++ l.map (Value.int .i64))) (hn : n = l.length) : Own W B v l := by
  subst hn
  exact h

/-- 'append(l, m...)' of a list m of no numbers. -/
theorem list_put0 {ops : Array Oper} {rest : List Oper} {o : Oper} {a : Act} {w : World} {Q : Exit → Act → World → Prop} (hgd : o.guard = none) (s x : Operand)
    (ho : o.op = .call { callee := .builtin .append, args := #[s, x], argTypes := #[22, 22] }) (B : Nat) (v : Value) (zs : List Int) (hs : a.eval s = v) (hown : Own w B v zs)
    (ad : Addr) (c : Nat) (hx : a.eval x = .slice (some ad) 0 c) (hlen : zs.length ≤ 1048576) (hB : B ≤ w.heap.size)
    (h : ∀ v' w', Own w' B v' zs → Below B w w' → wpList Try.prog ops Q rest (a.put o.dst v') w') : wpList Try.prog ops Q (o :: rest) a w := by
  obtain ⟨i0, hi, hz0, hz1, hz2⟩ := info_parts info3
  refine wpList_append_own _ hgd s x 22 ho B 3 i0 (.int .i64 0) 1 8 Try.underlying22 hi hz0 hz1 hz2 rfl (by decide) v _ _ hs hown ad 0 c [] hx rfl (fun j u hu => by simp at hu) (fun u hu => by simp at hu) (by unfold maxLen; omega) (by omega) hB ?_
  intro v3 w3 hown3 hgrow3 _
  have ho3 : Own w3 B v3 zs := by
    have := own_of2 (m := []) hown3 rfl
    rw [List.append_nil] at this
    exact this
  exact h v3 w3 ho3 ((Below.refl _ w).grown hgrow3 hB (fun b hb => own_ge hown hb))

/-- A number put into its place. -/
def insL (n : Int) : List Int → List Int
  | [] => [n]
  | z :: r => if z < n then z :: insL n r else if z = n then z :: r else n :: z :: r
theorem insL_mem (n z : Int) : ∀ zs : List Int, z ∈ insL n zs ↔ z = n ∨ z ∈ zs
  | [] => by simp [insL]
  | y :: r => by
    unfold insL
    have ih := insL_mem n z r
    split
    · simp only [List.mem_cons, ih]
      constructor
      · rintro (h | h | h)
        · exact .inr (.inl h)
        · exact .inl h
        · exact .inr (.inr h)
      · rintro (h | h | h)
        · exact .inr (.inl h)
        · exact .inl h
        · exact .inr (.inr h)
    · split
      · next e =>
        simp only [List.mem_cons]
        constructor
        · exact .inr
        · rintro (h | h)
          · exact .inl (h.trans e.symm)
          · exact h
      · simp only [List.mem_cons]
theorem insL_len (n : Int) : ∀ zs : List Int, (insL n zs).length ≤ zs.length + 1
  | [] => by simp [insL]
  | y :: r => by
    unfold insL
    have ih := insL_len n r
    split
    · simp only [List.length_cons]; omega
    · split <;> simp only [List.length_cons] <;> omega
theorem insL_at (n : Int) : ∀ (zs : List Int) (k : Nat) (hk : k < zs.length), (∀ j (hj : j < zs.length), j < k → zs[j] < n) → ¬ zs[k] < n → (zs[k] = n → insL n zs = zs) ∧ (¬ zs[k] = n → insL n zs = (zs.take k ++ [n]) ++ zs.drop k)
  | y :: r, 0, _, _, h => by
    have h' : ¬ y < n := h
    constructor
    · intro e
      have e' : y = n := e
      unfold insL
      rw [if_neg h', if_pos e']
    · intro e
      have e' : ¬ y = n := e
      unfold insL
      rw [if_neg h', if_neg e']
      rfl
  | y :: r, k + 1, hk, ha, h => by
    have hy : y < n := ha 0 (by simp) (by omega)
    have ih := insL_at n r k (by simpa using hk) (fun j hj hlt => ha (j + 1) (by simpa using hj) (by omega)) (by simpa using h)
    have e0 : insL n (y :: r) = y :: insL n r := by rw [insL, if_pos hy]
    constructor
    · intro e
      rw [e0, ih.1 (by simpa using e)]
    · intro e
      rw [e0, ih.2 (by simpa using e)]
      rfl
theorem insL_end (n : Int) : ∀ zs : List Int, (∀ j (hj : j < zs.length), zs[j] < n) → insL n zs = zs ++ [n]
  | [], _ => rfl
  | y :: r, h => by
    have hy : y < n := h 0 (by simp)
    rw [insL, if_pos hy, insL_end n r fun j hj => h (j + 1) (by simpa using hj)]
    rfl

def PutPost (W : World) (B : Nat) (out : List Int) (e : Ending) (W' : World) : Prop := ∃ v', e = .returned v' ∧ Own W' B v' out ∧ Below W.heap.size W W'
theorem PutPost.mk {W W' : World} {B : Nat} {out : List Int} {v : Value} (zs : List Int) (h : Own W' B v zs) (he : out = zs) (hb : Below W.heap.size W W') : PutPost W B out (.returned v) W' := ⟨v, rfl, by rw [he]; exact h, hb⟩

end Go.Proofs.Ythlbmkefjjckaah
