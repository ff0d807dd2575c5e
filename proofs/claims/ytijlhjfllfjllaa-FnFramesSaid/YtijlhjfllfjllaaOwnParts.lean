/-
  Lists of parts that a call has made: each with numbers of its own; how one more is put behind.
-/
import Derived.Test.YtijlhjfllfjllaaLawParts
namespace Go.Proofs.Ytijlhjfllfjllaa
open Go.RowKit

/-- The cells of parts, their numbers' slices told beside. -/
def cellsP : List PD → List Value → List Value
  | p :: ps, x :: xs => .int .i64 p.k :: .string p.t :: x :: cellsP ps xs
  | _, _ => []
theorem cellsP_len : ∀ (ps : List PD) (xs : List Value), xs.length = ps.length → (cellsP ps xs).length = ps.length * 3
  | [], [], _ => rfl
  | p :: ps, x :: xs, h => by
    have := cellsP_len ps xs (by simpa using h)
    simp only [cellsP, List.length_cons]
    omega
theorem cellsP_snoc : ∀ (ps : List PD) (xs : List Value) (p : PD) (x : Value), xs.length = ps.length → cellsP (ps ++ [p]) (xs ++ [x]) = cellsP ps xs ++ [.int .i64 p.k, .string p.t, x]
  | [], [], p, x, _ => rfl
  | q :: ps, y :: xs, p, x, h => by
    have := cellsP_snoc ps xs p x (by simpa using h)
    simp only [List.cons_append, cellsP, this]
theorem cellsP_get : ∀ (ps : List PD) (xs : List Value) (h : xs.length = ps.length) (j : Nat) (hj : j < ps.length),
    (cellsP ps xs)[j * 3]? = some (.int .i64 ps[j].k) ∧ (cellsP ps xs)[j * 3 + 1]? = some (.string ps[j].t) ∧ (cellsP ps xs)[j * 3 + 2]? = some (xs[j]'(by omega))
  | p :: ps, x :: xs, h, 0, hj => ⟨rfl, rfl, rfl⟩
  | p :: ps, x :: xs, h, j + 1, hj => by
    have := cellsP_get ps xs (by simpa using h) j (by simpa using hj)
    have e : (j + 1) * 3 = j * 3 + 1 + 1 + 1 := by omega
    simp only [cellsP, e, List.getElem?_cons_succ, List.getElem_cons_succ]
    exact this

/-- One's block lies ahead of the other's. -/
def Ahead (x y : Value) : Prop := ∀ b c, x.ownBlock = some b → y.ownBlock = some c → b < c

/-- The slice v owns the parts ps, each of them its numbers, all in blocks from B on, no two in one. -/
def OwnP (W : World) (B : Nat) (v : Value) (ps : List PD) : Prop :=
  ∃ xs : List Value, xs.length = ps.length ∧ W.ownsRow B 74 3 v ps.length (cellsP ps xs) ∧ (∀ j (hp : j < ps.length) (hx : j < xs.length), Own W B xs[j] ps[j].zs) ∧ xs.Pairwise Ahead
theorem OwnP.nil (W : World) (B : Nat) : OwnP W B (.slice none 0 0) [] := ⟨[], rfl, World.ownsRow_nil W B _ 3, fun _ hp => absurd hp (Nat.not_lt_zero _), List.Pairwise.nil⟩
theorem OwnP.below {W W' : World} {B : Nat} {v : Value} {ps : List PD} (h : OwnP W B v ps) (hb : Below W.heap.size W W') : OwnP W' B v ps := by
  obtain ⟨xs, h1, h2, h3, h4⟩ := h
  exact ⟨xs, h1, owns_below h2 hb, fun j hp hx => (h3 j hp hx).below hb, h4⟩
theorem OwnP.shape {W : World} {B : Nat} {v : Value} {ps : List PD} (h : OwnP W B v ps) : ∃ a cap, v = .slice a ps.length cap := by
  obtain ⟨xs, -, h2, -⟩ := h
  rcases h2.2 with ⟨hv, hn⟩ | ⟨g, cap, cur, hv, -⟩
  · exact ⟨none, 0, by rw [hv, hn]⟩
  · exact ⟨_, _, hv⟩
theorem OwnP.reads {W : World} {B : Nat} {v : Value} {ps : List PD} (h : OwnP W B v ps) : ReadsP W v ps := by
  obtain ⟨xs, h1, h2, h3, -⟩ := h
  have h2' := h2
  rcases h2.2 with ⟨hv, hn⟩ | ⟨g, cap, cur, hv, hB, hg, -⟩
  · exact ⟨none, 0, by rw [hv, hn], .inl (List.eq_nil_of_length_eq_zero hn)⟩
  · subst hv
    refine ⟨_, _, rfl, .inr ⟨g, 0, rfl, (Array.getElem?_eq_some_iff.1 hg).1, fun j hj => ?_⟩⟩
    obtain ⟨c0, c1, c2⟩ := cellsP_get ps xs h1 j hj
    rw [Nat.zero_add]
    exact ⟨xs[j]'(by omega), (World.ownsRow.cellAt h2' _ (by omega)).trans c0, (World.ownsRow.cellAt h2' _ (by omega)).trans c1, (World.ownsRow.cellAt h2' _ (by omega)).trans c2, (h3 j hj (by omega)).reads⟩

/-- The row of parts is no row of numbers. -/
theorem rows_apart {W : World} {B B' n : Nat} {v x : Value} {zs : List Int} {cs : List Value} (hv : W.ownsRow B 74 3 v n cs) (hx : Own W B' x zs) : ∀ k, v.ownBlock = some k → x.ownBlock ≠ some k := by
  intro k hk hk2
  rcases hv.2 with ⟨rfl, -⟩ | ⟨g, cap, cur, rfl, -, hg, -⟩
  · simp [Value.ownBlock] at hk
  · rcases hx.2 with ⟨rfl, -⟩ | ⟨g', cap', cur', rfl, -, hg', -⟩
    · simp [Value.ownBlock] at hk2
    · simp only [Value.ownBlock, Option.some.injEq] at hk hk2
      subst hk
      subst hk2
      rw [hg] at hg'
      simp at hg'

/-- 'append(l, p)' of one part. -/
theorem list_putP {ops : Array Oper} {rest : List Oper} {o : Oper} {a : Act} {W w : World} {Q : Exit → Act → World → Prop} (hgd : o.guard = none) (s x : Operand)
    (ho : o.op = .call { callee := .builtin .append, args := #[s, x], argTypes := #[23, 23] }) (B : Nat) (v : Value) (ps : List PD) (p : PD) (y : Value) (hs : a.eval s = v)
    (hown : OwnP W B v ps) (hb : Below W.heap.size W w) (hBW : B ≤ W.heap.size) (hy : Own w W.heap.size y p.zs)
    (b c : Nat) (hx : a.eval x = .slice (some ⟨b, 0, none⟩) 1 c) (hz : Box3 w b (.int .i64 p.k) (.string p.t) y) (hlen : ps.length ≤ 1000)
    (h : ∀ v' w', OwnP w' B v' (ps ++ [p]) → Below B w w' → w.heap.size ≤ w'.heap.size → wpList Try.prog ops Q rest (a.put o.dst v') w') : wpList Try.prog ops Q (o :: rest) a w := by
  obtain ⟨i0, hi, hz0, hz1, hz2⟩ := info_parts infoP
  obtain ⟨xs, h1, h2, h3, h4⟩ := hown
  have hBw : B ≤ w.heap.size := Nat.le_trans hBW hb.size
  have h2w := owns_below h2 hb
  obtain ⟨ay, cy, ey⟩ := hy.shape
  refine wpList_append_lies w hgd s x 23 ho B 74 i0 _ 3 48 Try.underlying23 hi hz0 hz1 hz2 rfl (by decide) v ps.length (cellsP ps xs) hs h2w ⟨b, 0, none⟩ 1 c [.int .i64 p.k, .string p.t, y] hx rfl ?_ ?_ (by decide) ?_ ?_ hBw w.heap.size rfl ?_
  · intro j u hu
    match j, hu with
    | 0, hu => simp at hu; subst hu; simpa [Addr.add] using hz.2.1
    | 1, hu => simp at hu; subst hu; simpa [Addr.add] using hz.2.2.1
    | 2, hu => simp at hu; subst hu; simpa [Addr.add] using hz.2.2.2
  · intro u hu
    simp at hu
    rcases hu with rfl | rfl | rfl
    · rfl
    · rfl
    · rw [ey]; rfl
  · unfold maxLen; omega
  · omega
  · intro g cap w' k1 k2 k3 k4
    refine h _ w' ⟨xs ++ [y], by simp [h1], ?_, ?_, ?_⟩ ?_ k2.size
    · rw [cellsP_snoc ps xs p y h1]
      simpa using k1
    · intro j hp hx'
      have far : ∀ {z zs B'}, Own w B' z zs → Own w' B' z zs := fun hz' => hz'.grow k2 (rows_apart h2w hz')
      by_cases hj : j < ps.length
      · have e1 : (xs ++ [y])[j] = xs[j]'(by omega) := List.getElem_append_left (by omega)
        have e2 : (ps ++ [p])[j] = ps[j] := List.getElem_append_left hj
        rw [e1, e2]
        exact far ((h3 j hj (by omega)).below hb)
      · have hj2 : j = ps.length := by simp at hp; omega
        subst hj2
        have e1 : (xs ++ [y])[ps.length] = y := by rw [List.getElem_append_right (by omega)]; simp [h1]
        have e2 : (ps ++ [p])[ps.length] = p := by simp
        rw [e1, e2]
        exact (far hy).mono hBW
    · refine List.pairwise_append.2 ⟨h4, by simp, fun u hu z hz' => ?_⟩
      obtain rfl : z = y := by simpa using hz'
      obtain ⟨j, hj, rfl⟩ := List.getElem_of_mem hu
      intro b' c' hb' hc'
      have l1 := (World.ownsRow.lt (h3 j (by omega) hj) b' hb').2
      have l2 := (World.ownsRow.lt hy c' hc').1
      omega
    · exact (Below.refl B w).grown k2 hBw (fun k hk => (World.ownsRow.lt h2w k hk).1)
end Go.Proofs.Ytijlhjfllfjllaa
