/-
  Lists of lists of numbers: how they lie in memory, and what the laws' functions over them answer: 'szIntSS', 'toIntSS', 'eqIntSS', 'markIntSS'.
-/
import Derived.Test.YthlbmkefjjckaahRowLaw0
import Derived.Test.YthlbmkefjjckaahHand
namespace Go.Proofs.Ythlbmkefjjckaah
open Go.RowKit
set_option linter.unusedVariables false

/-- What goes on in some blocks alone. -/
structure Turned (P : Nat → Prop) (W W' : World) : Prop where
  os : W'.os = W.os
  tape : W'.tape = W.tape
  output : W'.output = W.output
  size : W.heap.size ≤ W'.heap.size
  block : ∀ j, j < W.heap.size → ¬ P j → W'.heap[j]? = W.heap[j]?
theorem Turned.refl (P : Nat → Prop) (W : World) : Turned P W W := ⟨rfl, rfl, rfl, Nat.le_refl _, fun _ _ _ => rfl⟩
theorem Turned.grown {P : Nat → Prop} {W w w' : World} {row : Option Nat} (h : Turned P W w) (hg : w.grownBy w' row) (hr : ∀ k, row = some k → P k) : Turned P W w' :=
  ⟨hg.os.trans h.os, hg.tape.trans h.tape, hg.output.trans h.output, Nat.le_trans h.size hg.size, fun j hj hn => (hg.block j (Nat.lt_of_lt_of_le hj h.size) (fun e => hn (hr j e.symm))).trans (h.block j hj hn)⟩
theorem Since.turned {P : Nat → Prop} {B : Nat} {w0 w w' : World} (h : Since B w0 w) (ht : Turned P w w') (hP : ∀ k, P k → B ≤ k) : Since B w0 w' :=
  ⟨⟨ht.os.trans h.1.os, ht.tape.trans h.1.tape, ht.output.trans h.1.output, Nat.le_trans h.1.size ht.size, fun j hj => (ht.block j (Nat.lt_of_lt_of_le hj h.2) (fun hp => by have := hP j hp; omega)).trans (h.1.block j hj)⟩, Nat.le_trans h.2 ht.size⟩
theorem rowTurned {P : Nat → Prop} {W W' : World} {B : Nat} {e : TypeId} {size n : Nat} {v : Value} {xs : List Value} (h : W.ownsRow B e size v n xs) (ht : Turned P W W') (hne : ∀ k, v.ownBlock = some k → ¬ P k) : W'.ownsRow B e size v n xs :=
  rowSame h fun k hk => ht.block k (World.ownsRow.lt h k hk).2 (hne k hk)

/-- The slice v reads as the lists zss. -/
def ReadsSS (W : World) (v : Value) (zss : List (List Int)) : Prop :=
  ∃ (a : Option Addr) (cap : Nat), v = .slice a zss.length cap ∧ (zss = [] ∨ ∃ g off, a = some ⟨g, off, none⟩ ∧ g < W.heap.size ∧ ∀ j (hj : j < zss.length), ∃ u, W.cell? ⟨g, off + j, none⟩ = some u ∧ Reads W u zss[j])
theorem ReadsSS.shape {W : World} {v : Value} {zss : List (List Int)} (h : ReadsSS W v zss) : ∃ a cap, v = .slice a zss.length cap := by obtain ⟨a, cap, hv, -⟩ := h; exact ⟨a, cap, hv⟩
theorem ReadsSS.below {W W' : World} {v : Value} {zss : List (List Int)} (h : ReadsSS W v zss) (hb : Below W.heap.size W W') : ReadsSS W' v zss := by
  obtain ⟨a, cap, hv, hc⟩ := h
  refine ⟨a, cap, hv, hc.imp id ?_⟩
  rintro ⟨g, off, ha, hg, hcell⟩
  refine ⟨g, off, ha, Nat.lt_of_lt_of_le hg hb.size, fun j hj => ?_⟩
  obtain ⟨u, h1, h2⟩ := hcell j hj
  exact ⟨u, (hb.cell (p := ⟨g, off + j, none⟩) hg).trans h1, h2.below hb⟩

theorem infoSS : (Try.prog.info? 22).map (fun i => (i.zero, i.size, i.bytes)) = some (some (.slice none 0 0), 1, 24) := by kernel_rfl

/-- The slice v owns the lists zss, the inner ones vs, no two of them one block. -/
structure OwnSS (W : World) (B : Nat) (v : Value) (vs : List Value) (zss : List (List Int)) : Prop where
  len : vs.length = zss.length
  row : W.ownsRow B 22 1 v vs.length vs
  inner : ∀ j (hj : j < vs.length), Own W B vs[j] (zss[j]'(by omega))
  apart : ∀ i j (hi : i < vs.length) (hj : j < vs.length), i ≠ j → ∀ k, vs[i].ownBlock = some k → vs[j].ownBlock ≠ some k
theorem OwnSS.below {W W' : World} {B : Nat} {v : Value} {vs : List Value} {zss : List (List Int)} (h : OwnSS W B v vs zss) (hb : Below W.heap.size W W') : OwnSS W' B v vs zss :=
  ⟨h.len, rowBelow h.row hb, fun j hj => (h.inner j hj).below hb, h.apart⟩
theorem OwnSS.mono {W : World} {B B' : Nat} {v : Value} {vs : List Value} {zss : List (List Int)} (h : OwnSS W B v vs zss) (hB : B' ≤ B) : OwnSS W B' v vs zss :=
  ⟨h.len, rowMono h.row hB, fun j hj => (h.inner j hj).mono hB, h.apart⟩
theorem OwnSS.shape {W : World} {B : Nat} {v : Value} {vs : List Value} {zss : List (List Int)} (h : OwnSS W B v vs zss) : ∃ a cap, v = .slice a zss.length cap := by
  obtain ⟨a, cap, hv⟩ := rowShape h.row
  exact ⟨a, cap, by rw [hv, h.len]⟩
theorem OwnSS.reads {W : World} {B : Nat} {v : Value} {vs : List Value} {zss : List (List Int)} (h : OwnSS W B v vs zss) : ReadsSS W v zss := by
  have h' := h.row
  rcases h.row.2 with ⟨hv, hn⟩ | ⟨g, cap, cur, hv, hB, hg, -⟩
  · have : zss = [] := List.eq_nil_of_length_eq_zero (by rw [← h.len]; exact hn)
    exact ⟨none, 0, by rw [hv, this]; rfl, .inl this⟩
  · rw [hv] at h'
    refine ⟨_, cap, by rw [hv, h.len], .inr ⟨g, 0, rfl, (Array.getElem?_eq_some_iff.1 hg).1, fun j hj => ?_⟩⟩
    have hj' : j < vs.length := by rw [h.len]; exact hj
    refine ⟨vs[j], ?_, (h.inner j hj').reads⟩
    rw [Nat.zero_add, World.ownsRow.cellAt h' j (by omega), List.getElem?_eq_getElem hj']
/-- The blocks of the inner lists. -/
def InSS (vs : List Value) (b : Nat) : Prop := ∃ j, ∃ hj : j < vs.length, vs[j].ownBlock = some b
theorem OwnSS.inLt {W : World} {B : Nat} {v : Value} {vs : List Value} {zss : List (List Int)} (h : OwnSS W B v vs zss) (b : Nat) (hb : InSS vs b) : B ≤ b ∧ b < W.heap.size := by
  obtain ⟨j, hj, hk⟩ := hb
  exact World.ownsRow.lt (h.inner j hj) b hk

/-- What lists of lists leave of a measure. -/
def szL : List (List Int) → Int → Int
  | [], left => left
  | zs :: r, left => if (zs.length : Int) ≤ left then szL r (left - zs.length) else -1
def szSS (zss : List (List Int)) (left : Int) : Int := if (zss.length : Int) ≤ left then szL zss (left - zss.length) else -1
theorem szL_all : ∀ (zss : List (List Int)) (left : Int), left ≤ 1048576 → ¬ szL zss left < 0 → ∀ j (hj : j < zss.length), zss[j].length ≤ 1048576
  | zs :: r, left, hl, h, 0, _ => by
    unfold szL at h
    split at h
    · next hle => show zs.length ≤ _; omega
    · omega
  | zs :: r, left, hl, h, j + 1, hj => by
    unfold szL at h
    split at h
    · next hle => exact szL_all r _ (by omega) h j (by simpa using hj)
    · omega

def HasSS (W : World) (B : Nat) (v : Value) (zss : List (List Int)) : Prop := ∃ vs, OwnSS W B v vs zss

/-- The rows that are copied so far: the first ones, and nil ones behind them. -/
structure PartSS (W : World) (H n : Nat) (us : List Value) (zss : List (List Int)) (k : Nat) : Prop where
  len : us.length = k
  row : W.ownsRow H 22 1 (.slice (some ⟨H, 0, none⟩) n n) n (us ++ List.replicate (n - k) (.slice none 0 0))
  inner : ∀ j (hj : j < us.length) (hz : j < zss.length), Own W (H + 1) us[j] zss[j]
  apart : ∀ i j (hi : i < us.length) (hj : j < us.length), i ≠ j → ∀ b, us[i].ownBlock = some b → us[j].ownBlock ≠ some b

/-- How many numbers there are. -/
def sumL (zss : List (List Int)) (k : Nat) : Nat := ((zss.take k).map List.length).sum
theorem szL_sum : ∀ (zss : List (List Int)) (left : Int), 0 ≤ left → left ≤ 1048576 → ¬ szL zss left < 0 → ∀ k, (sumL zss k : Int) ≤ left
  | [], left, h0, hl, h, k => by simp [sumL]; exact h0
  | zs :: r, left, h0, hl, h, 0 => by simp [sumL]; exact h0
  | zs :: r, left, h0, hl, h, k + 1 => by
    unfold szL at h
    split at h
    · next hle =>
      have ih := szL_sum r (left - zs.length) (by omega) (by omega) h k
      have e : sumL (zs :: r) (k + 1) = zs.length + sumL r k := by simp [sumL]
      omega
    · omega
theorem szSS_fit (zss : List (List Int)) (left : Int) (hl : left ≤ 1048576) (h : ¬ szSS zss left < 0) : zss.length ≤ 1048576 ∧ (∀ j (hj : j < zss.length), zss[j].length ≤ 1048576) ∧ ∀ k, k ≤ zss.length → sumL zss k ≤ 1048576 := by
  unfold szSS at h
  split at h
  · next hle => exact ⟨by omega, szL_all zss _ (by omega) h, fun k _ => by have := szL_sum zss _ (by omega) (by omega) h k; omega⟩
  · omega
theorem sumL_next (zss : List (List Int)) (k : Nat) (h : k < zss.length) : sumL zss (k + 1) = sumL zss k + zss[k].length := by
  unfold sumL
  rw [List.take_succ_eq_append_getElem h, List.map_append, List.sum_append]
  simp

end Go.Proofs.Ythlbmkefjjckaah
