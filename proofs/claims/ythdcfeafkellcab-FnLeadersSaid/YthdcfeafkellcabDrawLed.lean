/-
  What the cursor draws of bridges and of what each one sees: 'DrawLeadersBy' up to its last change.
-/
import Derived.Test.YthdcfeafkellcabDrawBr
import Derived.Test.YthdcfeafkellcabAppSS
namespace Go.Proofs.Ythdcfeafkellcab
open Go.RowKit
set_option linter.unusedVariables false

theorem OwnSS.only {W W' : World} {B c : Nat} {v : Value} {vs : List Value} {zss : List (List Int)} (h : OwnSS W B v vs zss) (ho : Only c W W') (hc : c < B) : OwnSS W' B v vs zss :=
  ⟨h.len, rowOnly h.row ho hc, fun j hj => rowOnly (h.inner j hj) ho hc, h.apart⟩
theorem curGrown {B : Nat} {w0 w w' : World} {c : Nat} {a : Option Addr} {len cap m B1 : Nat} (h : Cur B w0 w c a len cap m) (hb : Below B1 w w') (hc : c < B1) (hBB : B ≤ B1) : Cur B w0 w' c a len cap m := by
  have h1 := hb.block c hc
  obtain ⟨k1, k2, k3, k4, ⟨n, hn, k5⟩, ⟨sd, k6⟩, k7, k8⟩ := h
  exact ⟨k1, Nat.lt_of_lt_of_le k2 hb.size, ⟨k3.1.trans (hb.mono hBB), Nat.le_trans k3.2 hb.size⟩, (World.cell?_of_block h1).trans k4, ⟨n, hn, (World.cell?_of_block h1).trans k5⟩, ⟨sd, (World.cell?_of_block h1).trans k6⟩, (World.frozen?_of_block h1).trans k7, (World.frozen?_of_block h1).trans k8⟩

/-- What the rows drawn so far are: lists of a call's own, each at most eleven long. -/
structure Rws (B : Nat) (w0 : World) (c : Nat) (a : Option Addr) (len cap m : Nat) (lv : Value) (l : List BrD) (v : Value) (vs : List Value) (zss : List (List Int)) (wr : World) : Prop where
  brs : OwnBr wr (c + 1) lv l
  rows : OwnSS wr (c + 1) v vs zss
  fit : ∀ j (hj : j < zss.length), zss[j].length ≤ 11
  cur : Cur B w0 wr c a len cap m
/-- And the row that is under way. -/
structure Rw1 (B : Nat) (w0 : World) (c : Nat) (a : Option Addr) (len cap m : Nat) (lv : Value) (l : List BrD) (v : Value) (vs : List Value) (zss : List (List Int)) (H : Nat) (u : Value) (zs : List Int) (wr : World) : Prop where
  all : Rws B w0 c a len cap m lv l v vs zss wr
  row : Own wr H u zs
  old : ∀ j (hj : j < vs.length), ∀ b, vs[j].ownBlock = some b → b < H
  out : ∀ b, v.ownBlock = some b → b < H
  br : ∀ b, lv.ownBlock = some b → b < H
  hc : c < H
  hw : H ≤ wr.heap.size
theorem Rw1.only {B : Nat} {w0 : World} {c : Nat} {a : Option Addr} {len cap m m' : Nat} {lv : Value} {l : List BrD} {v : Value} {vs : List Value} {zss : List (List Int)} {H : Nat} {u : Value} {zs : List Int} {wr w' : World} (h : Rw1 B w0 c a len cap m lv l v vs zss H u zs wr) (hc : Cur B w0 w' c a len cap m') (ho : Only c wr w') : Rw1 B w0 c a len cap m' lv l v vs zss H u zs w' :=
  ⟨⟨rowOnly h.all.brs ho (by omega), h.all.rows.only ho (by omega), h.all.fit, hc⟩, rowOnly h.row ho h.hc, h.old, h.out, h.br, h.hc, Nat.le_trans h.hw ho.1⟩
/-- A number is appended to the row that is under way. -/
theorem Rw1.add {B : Nat} {w0 : World} {c : Nat} {a : Option Addr} {len cap m : Nat} {lv : Value} {l : List BrD} {v : Value} {vs : List Value} {zss : List (List Int)} {H : Nat} {u u' : Value} {zs : List Int} {wr w' : World} {o : Obj} {z : Int} (h : Rw1 B w0 c a len cap m lv l v vs zss H u zs wr) (hB : B ≤ c) (hg : Grown (wr.alloc o) H 3 1 u (zs ++ [z]).length ((zs ++ [z]).map (Value.int .i64)) u' w') : Rw1 B w0 c a len cap m lv l v vs zss H u' (zs ++ [z]) w' := by
  have hb : Below wr.heap.size wr (wr.alloc o) := (Below.refl _ wr).alloc (Nat.le_refl _) _
  have hbH : Below H wr w' := (hb.mono h.hw).trans hg.below
  have keep : ∀ {e : TypeId} {size n : Nat} {x : Value} {xs : List Value}, wr.ownsRow (c + 1) e size x n xs → (∀ b, x.ownBlock = some b → b < H) → w'.ownsRow (c + 1) e size x n xs := fun hx hlt => rowSame hx fun b hbk => hbH.block b (hlt b hbk)
  exact ⟨⟨keep h.all.brs h.br, ⟨h.all.rows.len, keep h.all.rows.row h.out, fun j hj => keep (h.all.rows.inner j hj) (h.old j hj), h.all.rows.apart⟩, h.all.fit, curGrown h.all.cur hbH h.hc (by have := h.hc; omega)⟩, hg.own, h.old, h.out, h.br, h.hc, Nat.le_trans h.hw (Nat.le_trans hb.size hg.size)⟩
/-- The row is done. -/
theorem Rw1.done {B : Nat} {w0 : World} {c : Nat} {a : Option Addr} {len cap m : Nat} {lv : Value} {l : List BrD} {v v' : Value} {vs : List Value} {zss : List (List Int)} {H : Nat} {au : Option Addr} {nu cu : Nat} {zs : List Int} {wr w' : World} (h : Rw1 B w0 c a len cap m lv l v vs zss H (.slice au nu cu) zs wr) (hB : B ≤ c) (hz : zs.length ≤ 11) (hg : Grown (wr.alloc (.cells #[.slice au nu cu] 27)) (c + 1) 27 1 v (vs ++ [Value.slice au nu cu]).length (vs ++ [Value.slice au nu cu]) v' w') : Rws B w0 c a len cap m lv l v' (vs ++ [Value.slice au nu cu]) (zss ++ [zs]) w' := by
  have hb : Below wr.heap.size wr (wr.alloc (.cells #[.slice au nu cu] 27)) := (Below.refl _ wr).alloc (Nat.le_refl _) _
  have hcw : c + 1 ≤ wr.heap.size := by have := h.hc; have := h.hw; omega
  refine ⟨rowGrow (rowBelow h.all.brs hb) hg.grown fun k hk hk2 => rowsApart h.all.rows.row h.all.brs (by decide) k hk hk2, h.all.rows.add (h.row.mono (by have := h.hc; omega)) (fun j hj k hk hk2 => ?_) hg, fun j hj => ?_, curGrown (h.all.cur.below hb) hg.below (by omega) (by omega)⟩
  · have h1 := h.old j hj k hk
    have h2 := (World.ownsRow.lt h.row k hk2).1
    omega
  · by_cases e : j < zss.length
    · rw [List.getElem_append_left e]
      exact h.all.fit j e
    · have ej : j = zss.length := by simp at hj; omega
      subst ej
      rw [List.getElem_append_right (Nat.le_refl _)]
      simpa using hz

/-- What is drawn. -/
def DrawnLed (B : Nat) (w0 W : World) (e : Ending) (W' : World) : Prop := ∃ v l u vs zss, e = .returned (.tuple #[v, u]) ∧ OwnBr W' W.heap.size v l ∧ OwnSS W' W.heap.size u vs zss ∧ l.length ≤ 11 ∧ zss.length ≤ 11 ∧ (∀ j (hj : j < zss.length), zss[j].length ≤ 12) ∧ Since B w0 W'
end Go.Proofs.Ythdcfeafkellcab
