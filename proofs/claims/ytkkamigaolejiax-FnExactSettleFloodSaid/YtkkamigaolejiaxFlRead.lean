/-
  Floods in memory: boxes of four cells, what is read, what is owned.
-/
import Derived.Test.YtkkamigaolejiaxFlMath
import Derived.Test.YtkkamigaolejiaxRowSS
import Derived.Test.YtkkamigaolejiaxRowLawLt
import Derived.Test.YtkkamigaolejiaxBox4
namespace Go.Proofs.Ytkkamigaolejiax
open Go.RowKit
set_option linter.unusedVariables false

theorem Bx4.other {W : World} {b : Nat} {x y z u : Value} (h : Bx4 W b x y z u) {p : Addr} (hp : p.block ≠ b) (q : Value) : Bx4 (W.setCell p q) b x y z u := by
  have e : ∀ j, (W.setCell p q).cell? ⟨b, j, none⟩ = W.cell? ⟨b, j, none⟩ := fun j => World.cell?_of_block (Below.heap_setCell _ _ _ _ (fun e => hp e.symm))
  exact ⟨by simpa [World.setCell] using h.lt, (e 0).trans h.c0, (e 1).trans h.c1, (e 2).trans h.c2, (e 3).trans h.c3, fun j => (World.frozen?_of_block (Below.heap_setCell _ _ _ _ (fun e => hp e.symm))).trans (h.fz j)⟩
theorem Bx4.put0 {W : World} {b : Nat} {x y z u : Value} (h : Bx4 W b x y z u) (q : Value) : Bx4 (W.setCell ⟨b, 0, none⟩ q) b q y z u :=
  ⟨by simpa [World.setCell] using h.lt, by simp [go_sem, h.c0], by simp [go_sem, h.c1], by simp [go_sem, h.c2], by simp [go_sem, h.c3], fun j => by simp [go_sem, h.fz]⟩
theorem Bx4.put1 {W : World} {b : Nat} {x y z u : Value} (h : Bx4 W b x y z u) (q : Value) : Bx4 (W.setCell ⟨b, 1, none⟩ q) b x q z u :=
  ⟨by simpa [World.setCell] using h.lt, by simp [go_sem, h.c0], by simp [go_sem, h.c1], by simp [go_sem, h.c2], by simp [go_sem, h.c3], fun j => by simp [go_sem, h.fz]⟩
theorem Bx4.put2 {W : World} {b : Nat} {x y z u : Value} (h : Bx4 W b x y z u) (q : Value) : Bx4 (W.setCell ⟨b, 2, none⟩ q) b x y q u :=
  ⟨by simpa [World.setCell] using h.lt, by simp [go_sem, h.c0], by simp [go_sem, h.c1], by simp [go_sem, h.c2], by simp [go_sem, h.c3], fun j => by simp [go_sem, h.fz]⟩
theorem Bx4.put3 {W : World} {b : Nat} {x y z u : Value} (h : Bx4 W b x y z u) (q : Value) : Bx4 (W.setCell ⟨b, 3, none⟩ q) b x y z q :=
  ⟨by simpa [World.setCell] using h.lt, by simp [go_sem, h.c0], by simp [go_sem, h.c1], by simp [go_sem, h.c2], by simp [go_sem, h.c3], fun j => by simp [go_sem, h.fz]⟩

theorem Bx4.same {W W' : World} {b : Nat} {x y z u : Value} (h : Bx4 W b x y z u) (e : W'.heap[b]? = W.heap[b]?) (hs : W.heap.size ≤ W'.heap.size) : Bx4 W' b x y z u :=
  ⟨Nat.lt_of_lt_of_le h.lt hs, (World.cell?_of_block e).trans h.c0, (World.cell?_of_block e).trans h.c1, (World.cell?_of_block e).trans h.c2, (World.cell?_of_block e).trans h.c3, fun j => (World.frozen?_of_block e).trans (h.fz j)⟩

/-- The four slices of a flood read as its data. -/
structure ReadsF (W : World) (x y z l : Value) (f : FD) : Prop where
  lk : ReadsSS W x f.lk
  kn : ReadsSS W y f.kn
  ow : ReadsSS W z f.ow
  ln : ReadsLt W l f.ln
theorem ReadsF.below {W W' : World} {x y z l : Value} {f : FD} (h : ReadsF W x y z l f) (hb : Below W.heap.size W W') : ReadsF W' x y z l f := ⟨h.lk.below hb, h.kn.below hb, h.ow.below hb, h.ln.below hb⟩

theorem OwnSS.same {W W' : World} {B : Nat} {v : Value} {vs : List Value} {zss : List (List Int)} (h : OwnSS W B v vs zss) (h1 : ∀ k, v.ownBlock = some k → W'.heap[k]? = W.heap[k]?) (h2 : ∀ k, InSS vs k → W'.heap[k]? = W.heap[k]?) : OwnSS W' B v vs zss :=
  ⟨h.len, rowSame h.row h1, fun j hj => rowSame (h.inner j hj) fun k hk => h2 k ⟨j, hj, hk⟩, h.apart⟩
theorem OwnSS.setCell {W : World} {B : Nat} {v : Value} {vs : List Value} {zss : List (List Int)} (h : OwnSS W B v vs zss) {p : Addr} (hp : p.block < B) (u : Value) : OwnSS (W.setCell p u) B v vs zss :=
  h.same (fun k hk => Below.heap_setCell _ _ _ _ (fun e => by have := (World.ownsRow.lt h.row k hk).1; omega)) (fun k hk => Below.heap_setCell _ _ _ _ (fun e => by have := (h.inLt k hk).1; omega))
/-- No block of two lists of lists is one. -/
def ApartSS (x : Value) (xs : List Value) (y : Value) (ys : List Value) : Prop := (∀ b, x.ownBlock = some b → y.ownBlock ≠ some b) ∧ ∀ b, InSS xs b → ¬ InSS ys b
theorem apartSS_lt {W W' : World} {B B' : Nat} {x y : Value} {xs ys : List Value} {f g : List (List Int)} (h : OwnSS W B x xs f) (h' : OwnSS W' B' y ys g) (hB : W.heap.size ≤ B') : ApartSS x xs y ys :=
  ⟨fun b hb hb2 => by have := (World.ownsRow.lt h.row b hb).2; have := (World.ownsRow.lt h'.row b hb2).1; omega, fun b hb hb2 => by have := (h.inLt b hb).2; have := (h'.inLt b hb2).1; omega⟩

/-- The four slices of a flood own its data, no two of them in one block. -/
structure OwnF (W : World) (B : Nat) (x y z l : Value) (xs ys zs : List Value) (f : FD) : Prop where
  lk : OwnSS W B x xs f.lk
  kn : OwnSS W B y ys f.kn
  ow : OwnSS W B z zs f.ow
  ln : OwnLt W B l f.ln
  a01 : ApartSS x xs y ys
  a02 : ApartSS x xs z zs
  a12 : ApartSS y ys z zs
theorem OwnF.below {W W' : World} {B : Nat} {x y z l : Value} {xs ys zs : List Value} {f : FD} (h : OwnF W B x y z l xs ys zs f) (hb : Below W.heap.size W W') : OwnF W' B x y z l xs ys zs f := ⟨h.lk.below hb, h.kn.below hb, h.ow.below hb, h.ln.below hb, h.a01, h.a02, h.a12⟩
theorem OwnF.mono {W : World} {B B' : Nat} {x y z l : Value} {xs ys zs : List Value} {f : FD} (h : OwnF W B x y z l xs ys zs f) (hB : B' ≤ B) : OwnF W B' x y z l xs ys zs f := ⟨h.lk.mono hB, h.kn.mono hB, h.ow.mono hB, h.ln.mono hB, h.a01, h.a02, h.a12⟩
theorem OwnF.reads {W : World} {B : Nat} {x y z l : Value} {xs ys zs : List Value} {f : FD} (h : OwnF W B x y z l xs ys zs f) : ReadsF W x y z l f := ⟨h.lk.reads, h.kn.reads, h.ow.reads, h.ln.reads⟩
theorem OwnF.setCell {W : World} {B : Nat} {x y z l : Value} {xs ys zs : List Value} {f : FD} (h : OwnF W B x y z l xs ys zs f) {p : Addr} (hp : p.block < B) (u : Value) : OwnF (W.setCell p u) B x y z l xs ys zs f := ⟨h.lk.setCell hp u, h.kn.setCell hp u, h.ow.setCell hp u, h.ln.setCell hp u, h.a01, h.a02, h.a12⟩
theorem OwnF.nil (W : World) (B : Nat) : OwnF W B (.slice none 0 0) (.slice none 0 0) (.slice none 0 0) (.slice none 0 0) [] [] [] noF := by
  have hn : OwnSS W B (.slice none 0 0) [] [] := ⟨rfl, World.ownsRow_nil W B _ 1, fun j hj => absurd hj (Nat.not_lt_zero _), fun i j hi => absurd hi (Nat.not_lt_zero _)⟩
  have ha : ApartSS (.slice none 0 0) [] (.slice none 0 0) [] := ⟨fun b hb => by simp [Value.ownBlock] at hb, fun b hb => by obtain ⟨j, hj, -⟩ := hb; exact absurd hj (Nat.not_lt_zero _)⟩
  exact ⟨hn, hn, hn, OwnLt.nil W B, ha, ha, ha⟩

/-- A flood that no measure has called too long. -/
structure FitF (f : FD) : Prop where
  lk : f.lk.length ≤ 1048576
  lki : ∀ j (hj : j < f.lk.length), f.lk[j].length ≤ 1048576
  lks : ∀ k, k ≤ f.lk.length → sumL f.lk k ≤ 1048576
  kn : f.kn.length ≤ 1048576
  kni : ∀ j (hj : j < f.kn.length), f.kn[j].length ≤ 1048576
  kns : ∀ k, k ≤ f.kn.length → sumL f.kn k ≤ 1048576
  ow : f.ow.length ≤ 1048576
  owi : ∀ j (hj : j < f.ow.length), f.ow[j].length ≤ 1048576
  ows : ∀ k, k ≤ f.ow.length → sumL f.ow k ≤ 1048576
  ln : f.ln.length ≤ 1048576
theorem szL_le : ∀ (zss : List (List Int)) (left : Int), -1 ≤ left → szL zss left ≤ left
  | [], left, _ => by simp [szL]
  | zs :: r, left, h => by
    unfold szL
    split
    · have := szL_le r (left - zs.length) (by omega); omega
    · exact h
theorem szSS_le (zss : List (List Int)) (left : Int) (h : -1 ≤ left) : szSS zss left ≤ left := by
  unfold szSS
  split
  · have := szL_le zss (left - zss.length) (by omega); omega
  · exact h
/-- What a flood leaves of a measure. -/
def szFl (f : FD) : Int :=
  if szSS f.lk 1048576 < 0 then -1 else if szSS f.kn (szSS f.lk 1048576) < 0 then -1 else if szSS f.ow (szSS f.kn (szSS f.lk 1048576)) < 0 then -1
  else if (f.ln.length : Int) ≤ szSS f.ow (szSS f.kn (szSS f.lk 1048576)) then szSS f.ow (szSS f.kn (szSS f.lk 1048576)) - f.ln.length else -1
theorem szFl_fit (f : FD) (h : ¬ szFl f < 0) : FitF f := by
  unfold szFl at h
  by_cases h1 : szSS f.lk 1048576 < 0
  · rw [if_pos h1] at h; omega
  rw [if_neg h1] at h
  by_cases h2 : szSS f.kn (szSS f.lk 1048576) < 0
  · rw [if_pos h2] at h; omega
  rw [if_neg h2] at h
  by_cases h3 : szSS f.ow (szSS f.kn (szSS f.lk 1048576)) < 0
  · rw [if_pos h3] at h; omega
  rw [if_neg h3] at h
  by_cases h4 : (f.ln.length : Int) ≤ szSS f.ow (szSS f.kn (szSS f.lk 1048576))
  · have l1 := szSS_le f.lk 1048576 (by omega)
    have l2 := szSS_le f.kn (szSS f.lk 1048576) (by omega)
    have l3 := szSS_le f.ow (szSS f.kn (szSS f.lk 1048576)) (by omega)
    obtain ⟨a1, a2, a3⟩ := szSS_fit f.lk _ (by omega) h1
    obtain ⟨b1, b2, b3⟩ := szSS_fit f.kn _ (by omega) h2
    obtain ⟨c1, c2, c3⟩ := szSS_fit f.ow _ (by omega) h3
    exact ⟨a1, a2, a3, b1, b2, b3, c1, c2, c3, by omega⟩
  · rw [if_neg h4] at h; omega
end Go.Proofs.Ytkkamigaolejiax
