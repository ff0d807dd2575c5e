/-
  A list of hops as a queue: its head cut off, more appended.
-/
import Derived.Test.YthlbmkefjjckaagTrSprI
import Derived.Test.YthlbmkefjjckaagPut2
namespace Go.Proofs.Ythlbmkefjjckaag
open Go.RowKit
set_option linter.unusedVariables false

theorem run_append_roomO {P : Program} (w : World) (t ty e : TypeId) (i : TypeInfo) (ht : P.underlying t = some (.slice e)) (hi : P.info? e = some i)
    (g o sLen sCap : Nat) (cur : Array Value) (hg : w.heap[g]? = some (.cells cur e (0, 0)))
    (a : Addr) (m c : Nat) (news : List Value) (hl : news.length = m * i.size) (hnews : ∀ j u, news[j]? = some u → w.cell? (a.add j) = some u) (h1 : ∀ u ∈ news, u.oneCell' = true)
    (hroom : sLen + m ≤ sCap) (hfit : o + sLen * i.size + news.length ≤ cur.size) :
    (Builtin.append_ #[t, t] ty #[.slice (some ⟨g, o, none⟩) sLen sCap, .slice (some a) m c]).run P w =
      .ok (.slice (some ⟨g, o, none⟩) (sLen + m) sCap) (w.setRow g (cur.toList.take (o + sLen * i.size) ++ news ++ cur.toList.drop (o + sLen * i.size + news.length)).toArray) := by
  have hf := run_firstCells_some (P := P) w i.size m a m c news hl hnews
  have hst := run_storeCells_at P g (o + sLen * i.size) e news 0 cur w hg (by simpa using hfit) h1
  simp only [Nat.add_zero] at hst
  simp [Builtin.append_, run_underlying ht, sizeOf, typeInfo, hi, Builtin.lenOf, hroom, hf, Addr.add_lit, hst]

/-- The slice v is a queue of hops, in a block that nothing else writes. -/
def QHop (W : World) (B : Nat) (v : Value) (xs : List HopD) : Prop :=
  ∃ (g o cap : Nat) (cur : Array Value), v = .slice (some ⟨g, o, none⟩) xs.length cap ∧ B ≤ g ∧ W.heap[g]? = some (.cells cur 63 (0, 0)) ∧ xs.length ≤ cap ∧ cap ≤ maxLen ∧ (cap = 0 ∨ o + cap * 2 = cur.size) ∧ ∀ j u, (cellsHop xs)[j]? = some u → cur[o + j]? = some u
theorem QHop.same {W W' : World} {B : Nat} {v : Value} {xs : List HopD} (h : QHop W B v xs) (hs : ∀ k, v.ownBlock = some k → W'.heap[k]? = W.heap[k]?) : QHop W' B v xs := by
  obtain ⟨g, o, cap, cur, rfl, h1, h2, h3⟩ := h
  exact ⟨g, o, cap, cur, rfl, h1, (hs g rfl).trans h2, h3⟩
theorem QHop.lt {W : World} {B : Nat} {v : Value} {xs : List HopD} (h : QHop W B v xs) : ∀ k, v.ownBlock = some k → B ≤ k ∧ k < W.heap.size := by
  obtain ⟨g, o, cap, cur, rfl, h1, h2, h3⟩ := h
  intro k hk
  cases hk
  exact ⟨h1, (Array.getElem?_eq_some_iff.1 h2).1⟩
theorem QHop.below {W W' : World} {B : Nat} {v : Value} {xs : List HopD} (h : QHop W B v xs) (hb : Below W.heap.size W W') : QHop W' B v xs := h.same fun k hk => hb.block k (h.lt k hk).2
theorem QHop.new (W : World) (B : Nat) (hB : B ≤ W.heap.size) (x : HopD) : QHop (W.alloc (.cells #[.int .i64 x.From, .int .i64 x.To] 63)) B (.slice (some ⟨W.heap.size, 0, none⟩) 1 1) [x] := by
  refine ⟨W.heap.size, 0, 1, #[.int .i64 x.From, .int .i64 x.To], rfl, hB, World.alloc_heap_new W _, by simp, by unfold maxLen; omega, .inr (by simp), fun j u hu => ?_⟩
  match j, hu with
  | 0, hu => simpa [cellsHop] using hu
  | 1, hu => simpa [cellsHop] using hu
  | j + 2, hu => simp [cellsHop] at hu
theorem qcell {W : World} {g : Nat} {cur : Array Value} (h : W.heap[g]? = some (.cells cur 63 (0, 0))) (j : Nat) (u : Value) (hu : cur[j]? = some u) : W.cell? ⟨g, j, none⟩ = some u := by
  simp [World.cell?, h, hu]
/-- Its head, and what is left when that is cut off. -/
theorem QHop.head {W : World} {B : Nat} {v : Value} {x : HopD} {xs : List HopD} (h : QHop W B v (x :: xs)) :
    ∃ g o cap, v = .slice (some ⟨g, o, none⟩) (xs.length + 1) cap ∧ xs.length + 1 ≤ cap ∧ cap ≤ maxLen ∧ W.cell? ⟨g, o, none⟩ = some (.int .i64 x.From) ∧ W.cell? ⟨g, o + 1, none⟩ = some (.int .i64 x.To) ∧
      (cap = 1 → QHop W B (.slice (some ⟨g, o, none⟩) xs.length (cap - 1)) xs) ∧ (cap ≠ 1 → QHop W B (.slice (some ⟨g, o + 2, none⟩) xs.length (cap - 1)) xs) := by
  obtain ⟨g, o, cap, cur, rfl, h1, h2, h3, h4, h5, h6⟩ := h
  rw [List.length_cons] at h3
  refine ⟨g, o, cap, rfl, h3, h4, qcell h2 _ _ (h6 0 _ rfl), qcell h2 _ _ (h6 1 _ rfl), fun e => ?_, fun e => ?_⟩
  · have : xs = [] := List.eq_nil_of_length_eq_zero (by omega)
    subst this
    exact ⟨g, o, cap - 1, cur, rfl, h1, h2, by simp, by omega, .inl (by omega), fun j u hu => by simp [cellsHop] at hu⟩
  · refine ⟨g, o + 2, cap - 1, cur, rfl, h1, h2, by omega, by omega, .inr ?_, fun j u hu => ?_⟩
    · rcases h5 with q | q
      · omega
      · omega
    · have := h6 (j + 2) u (by simpa [cellsHop] using hu)
      rw [show o + 2 + j = o + (j + 2) by omega]
      exact this
theorem run_appQ (w : World) (B : Nat) (v : Value) (xs : List HopD) (hown : QHop w B v xs) (b : Nat) (x : HopD) (hx : w.cell? ⟨b, 0, none⟩ = some (.int .i64 x.From) ∧ w.cell? ⟨b, 1, none⟩ = some (.int .i64 x.To)) (hl : xs.length ≤ 2097152) (hB : B ≤ w.heap.size) (ty : TypeId) :
    ∃ v' w', (Builtin.append_ #[26, 26] ty #[v, .slice (some ⟨b, 0, none⟩) 1 1]).run Try.prog w = .ok v' w' ∧ (QHop w' B v' (xs ++ [x]) ∧ w.grownBy w' v.ownBlock ∧ (v'.ownBlock = v.ownBlock ∨ v'.ownBlock = some w.heap.size)) := by
  obtain ⟨i0, hi, hz0, hz1, hz2⟩ := info_parts infoHop
  obtain ⟨g, o, cap, cur, rfl, h1, h2, h3, h4, h5, h6⟩ := hown
  have hnl : (cellsHop [x]).length = 1 * i0.size := by rw [cellsHop_len, hz1]; rfl
  have hnews : ∀ j u, (cellsHop [x])[j]? = some u → w.cell? ((⟨b, 0, none⟩ : Addr).add j) = some u := fun j u hu => by
    match j, hu with
    | 0, hu => simp [cellsHop] at hu; subst hu; simpa [Addr.add] using hx.1
    | 1, hu => simp [cellsHop] at hu; subst hu; simpa [Addr.add] using hx.2
    | j + 2, hu => simp [cellsHop] at hu
  by_cases hr : xs.length + 1 ≤ cap
  · have hsz : o + cap * 2 = cur.size := by rcases h5 with q | q <;> omega
    have hfit : o + xs.length * i0.size + (cellsHop [x]).length ≤ cur.size := by
      have e3 : xs.length * i0.size = xs.length * 2 := by rw [hz1]
      have e4 : (cellsHop [x]).length = 2 := rfl
      omega
    have hrun := run_append_roomO (P := Try.prog) w 26 ty 63 i0 Try.underlying26 hi g o xs.length cap cur h2 ⟨b, 0, none⟩ 1 1 (cellsHop [x]) hnl hnews (cellsHop_one [x]) hr hfit
    refine ⟨_, _, hrun, ⟨g, o, cap, _, by rw [List.length_append]; rfl, h1, setRow_heap w g cur _ _ _ h2, by rw [List.length_append]; exact hr, h4, .inr ?_, fun j u hu => ?_⟩, ⟨rfl, rfl, rfl, by simp, fun k _ hk => setRow_other w g k _ (fun e => hk (by simp [Value.ownBlock, e]))⟩, .inl rfl⟩
    · have e3 : xs.length * i0.size = xs.length * 2 := by rw [hz1]
      have e4 : (cellsHop [x]).length = 2 := rfl
      rw [e3, e4] at hfit
      simp only [List.size_toArray, List.length_append, List.length_take, List.length_drop, Array.length_toList, cellsHop_len, hz1, List.length_singleton]
      omega
    · rw [cellsHop_app] at hu
      have hco := cellsHop_len xs
      simp only [List.getElem?_toArray]
      rw [List.append_assoc]
      have htk : (cur.toList.take (o + xs.length * i0.size)).length = o + xs.length * 2 := by
        have e3 : xs.length * i0.size = xs.length * 2 := by rw [hz1]
        have e5 : cur.toList.length = cur.size := Array.length_toList ..
        rw [List.length_take, e3, e5]
        omega
      by_cases hj : j < (cellsHop xs).length
      · rw [List.getElem?_append_left hj] at hu
        rw [List.getElem?_append_left (by rw [htk]; omega), List.getElem?_take_of_lt (by rw [hz1]; omega)]
        have := h6 j u hu
        simpa using this
      · rw [List.getElem?_append_right (by omega)] at hu
        rw [List.getElem?_append_right (by rw [htk]; omega), htk, show o + j - (o + xs.length * 2) = j - (cellsHop xs).length by omega, List.getElem?_append_left]
        · exact hu
        · obtain ⟨hlt, -⟩ := List.getElem?_eq_some_iff.1 hu
          exact hlt
  · have holds : ∀ j u, (cellsHop xs)[j]? = some u → w.cell? ((⟨g, o, none⟩ : Addr).add j) = some u := fun j u hu => by
      rw [Addr.add_lit]
      exact qcell h2 _ _ (h6 j u hu)
    have hlo : (cellsHop xs).length = xs.length * i0.size := by rw [cellsHop_len, hz1]
    have hrun := run_append_grow (P := Try.prog) w 26 ty 63 i0 _ Try.underlying26 hi hz0 ⟨g, o, none⟩ xs.length cap (cellsHop xs) hlo holds ⟨b, 0, none⟩ 1 1 (cellsHop [x]) hnl hnews (by omega) (by omega) (growslice_fits (by omega) (by rw [hz2]; omega))
    have hge := grownCap_ge w (xs.length + 1) cap 63
    have hcm : grownCap w (xs.length + 1) cap 63 ≤ maxLen := grownCap_le_maxLen w (xs.length + 1) cap _ (by unfold maxLen; omega)
    refine ⟨_, _, hrun, ⟨w.heap.size, 0, _, _, by rw [List.length_append]; rfl, hB, heap_alloc_new w.drew _, by rw [List.length_append]; exact hge, hcm, .inr ?_, fun j u hu => ?_⟩, ⟨rfl, rfl, rfl, by simp, fun k hk _ => heap_alloc_old w.drew _ hk⟩, .inr rfl⟩
    · have hzc : (Value.agg #[Value.int .i64 0, Value.int .i64 0]).cells.size = 2 := rfl
      simp only [Array.size_append, List.size_toArray, size_zeroCells, cellsHop_len, List.length_singleton, hzc]
      omega
    · rw [cellsHop_app] at hu
      obtain ⟨hlt, hv⟩ := List.getElem?_eq_some_iff.1 hu
      rw [Nat.zero_add, Array.getElem?_append_left (by simpa using hlt)]
      simpa using hu
end Go.Proofs.Ythlbmkefjjckaag
