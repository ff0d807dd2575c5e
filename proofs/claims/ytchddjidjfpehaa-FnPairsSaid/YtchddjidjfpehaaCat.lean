/-
  'append(l, m...)' onto a list that a call owns, whatever is appended, nothing too: for numbers and for hellos.
-/
import Derived.Test.YtchddjidjfpehaaJh
import Derived.Deep.RegionHeld3
import Derived.Maps.AppendAt
namespace Go.Proofs.Ytchddjidjfpehaa
open Go.RowKit

/-- A call of a Go function, at a step of a region that draws. -/
theorem step_call {ops : Array Oper} {o : Oper} {a : Act} {w : World} {K : Act → World → Prop} {Q : Exit → Act → World → Prop} {E : Prop} (hgd : o.guard = none) (f : FuncId) (vs : Array Value)
    (hrun : (execOp a.eval o).run Try.prog w = .ok (.enter f vs) w) (hc : Calls Try.prog f vs w fun e w' => ∃ v, e = .returned v ∧ K (a.put o.dst v) w') :
    if Region.wanted o (yielded ops a.tmps) = true then Oper.wp Try.prog o a w K Q else E := by
  have hw : Region.wanted o (yielded ops a.tmps) = true := by unfold Region.wanted; rw [hgd]
  rw [if_pos hw]
  unfold Oper.wp
  rw [hrun, Oper.upon_enter]
  refine hc.mono ?_
  rintro e w' ⟨v, rfl, h⟩
  exact h

/-- What is appended: the nil list, or what lies at an address. -/
def Source (w : World) (x : Value) (m : Nat) (news : List Value) : Prop :=
  (x = .slice none 0 0 ∧ m = 0 ∧ news = []) ∨ ∃ ad c, x = .slice (some ad) m c ∧ ∀ j u, news[j]? = some u → w.cell? (ad.add j) = some u
theorem Source.row {w : World} {B : Nat} {e : TypeId} {size : Nat} {v : Value} {n : Nat} {xs : List Value} (h : w.ownsRow B e size v n xs) : Source w v n xs := by
  have h' := h
  rcases h.2 with ⟨rfl, rfl⟩ | ⟨g, cap, cur, rfl, hrest⟩
  · exact .inl ⟨rfl, rfl, List.eq_nil_of_length_eq_zero (by have := h.1; omega)⟩
  · exact .inr ⟨_, _, rfl, World.ownsRow.cells h' rfl⟩

/-- What an append leaves. -/
def Grew (w : World) (B : Nat) (e : TypeId) (size : Nat) (v : Value) (n : Nat) (xs : List Value) (v' : Value) (w' : World) : Prop :=
  w'.ownsRow B e size v' n xs ∧ w.grownBy w' v.ownBlock ∧ (v'.ownBlock = v.ownBlock ∨ v'.ownBlock = some w.heap.size)

theorem run_cat (w : World) (B : Nat) (t ty e : TypeId) (i : TypeInfo) (z : Value) (size bytes : Nat) (ht : Try.prog.underlying t = some (.slice e)) (hi : Try.prog.info? e = some i) (hz : i.zero = some z)
    (hsize : i.size = size) (hby : i.bytes = bytes) (hzs : z.cells.size = size) (hsz : 0 < size) (v : Value) (n : Nat) (xs : List Value) (hown : w.ownsRow B e size v n xs)
    (x : Value) (m : Nat) (news : List Value) (hsrc : Source w x m news) (hl : news.length = m * size) (h1 : ∀ u ∈ news, u.oneCell' = true)
    (h63 : n + m ≤ maxLen) (hbytes : (n + m) * bytes ≤ 140737488355328) (hB : B ≤ w.heap.size) :
    ∃ v' w', (Builtin.append_ #[t, t] ty #[v, x]).run Try.prog w = .ok v' w' ∧ Grew w B e size v (n + m) (xs ++ news) v' w' := by
  rcases hsrc with ⟨rfl, rfl, rfl⟩ | ⟨ad, c, rfl, hnews⟩
  · refine ⟨v, w, run_append_owned_none (P := Try.prog) (w := w) B t ty e i size ht hi v n xs hown, ?_, ⟨rfl, rfl, rfl, Nat.le_refl _, fun _ _ _ => rfl⟩, .inl rfl⟩
    simpa using hown
  · obtain ⟨v', w', hr, h2, h3, _, h5⟩ := run_append_own_at (P := Try.prog) w B t ty e i z size bytes ht hi hz hsize hby hzs hsz v n xs hown ad m c news hl hnews h1 h63 hbytes hB
    exact ⟨v', w', hr, h2, h3, h5⟩

theorem wp_cat {o : Oper} {a : Act} {w : World} {K : Act → World → Prop} {Q : Exit → Act → World → Prop} (s x : Operand) (t : TypeId)
    (ho : o.op = .call { callee := .builtin .append, args := #[s, x], argTypes := #[t, t] }) (v xv : Value) (hs : a.eval s = v) (hx : a.eval x = xv)
    (R : Value → World → Prop) (hrun : ∀ ty, ∃ v' w', (Builtin.append_ #[t, t] ty #[v, xv]).run Try.prog w = .ok v' w' ∧ R v' w') (h : ∀ v' w', R v' w' → K (a.put o.dst v') w') : o.wp Try.prog a w K Q := by
  obtain ⟨v', w', hr, hR⟩ := hrun o.type
  unfold Oper.wp execOp
  simp only [ho, resolve, invoke, builtin, Sem.run_bind, Sem.run_pure, Result.andThen_ok, List.map_toArray, List.map_cons, List.map_nil, hs, hx, hr]
  exact h v' w' hR
theorem list_cat {ops : Array Oper} {rest : List Oper} {o : Oper} {a : Act} {w : World} {Q : Exit → Act → World → Prop} (hgd : o.guard = none) (s x : Operand) (t : TypeId)
    (ho : o.op = .call { callee := .builtin .append, args := #[s, x], argTypes := #[t, t] }) (v xv : Value) (hs : a.eval s = v) (hx : a.eval x = xv)
    (R : Value → World → Prop) (hrun : ∀ ty, ∃ v' w', (Builtin.append_ #[t, t] ty #[v, xv]).run Try.prog w = .ok v' w' ∧ R v' w') (h : ∀ v' w', R v' w' → wpList Try.prog ops Q rest (a.put o.dst v') w') : wpList Try.prog ops Q (o :: rest) a w :=
  wpList_plain hgd fun _ hK => wp_cat s x t ho v xv hs hx R hrun fun v' w' hR => hK _ _ (h v' w' hR)
theorem step_cat {ops : Array Oper} {o : Oper} {a : Act} {w : World} {K : Act → World → Prop} {Q : Exit → Act → World → Prop} {E : Prop} (hgd : o.guard = none) (s x : Operand) (t : TypeId)
    (ho : o.op = .call { callee := .builtin .append, args := #[s, x], argTypes := #[t, t] }) (v xv : Value) (hs : a.eval s = v) (hx : a.eval x = xv)
    (R : Value → World → Prop) (hrun : ∀ ty, ∃ v' w', (Builtin.append_ #[t, t] ty #[v, xv]).run Try.prog w = .ok v' w' ∧ R v' w') (h : ∀ v' w', R v' w' → K (a.put o.dst v') w') :
    if Region.wanted o (yielded ops a.tmps) = true then Oper.wp Try.prog o a w K Q else E := by
  have hw : Region.wanted o (yielded ops a.tmps) = true := by simp [Region.wanted, hgd]
  rw [if_pos hw]
  exact wp_cat s x t ho v xv hs hx R hrun h

/-- What an append of numbers leaves; of hellos. -/
structure GrewI (w : World) (B : Nat) (v : Value) (zs : List Int) (v' : Value) (w' : World) : Prop where
  own : Own w' B v' zs
  below : Below B w w'
  size : w.heap.size ≤ w'.heap.size
  grown : w.grownBy w' v.ownBlock
  lies : v'.ownBlock = v.ownBlock ∨ v'.ownBlock = some w.heap.size
structure GrewH (w : World) (B : Nat) (v : Value) (hs : List HD) (v' : Value) (w' : World) : Prop where
  own : OwnH w' B v' hs
  below : Below B w w'
  size : w.heap.size ≤ w'.heap.size
  grown : w.grownBy w' v.ownBlock
  lies : v'.ownBlock = v.ownBlock ∨ v'.ownBlock = some w.heap.size

theorem run_catI (w : World) (B : Nat) (v : Value) (zs : List Int) (hown : Own w B v zs) (x : Value) (ys : List Int) (hsrc : Source w x ys.length (ys.map (Value.int .i64))) (hl : zs.length + ys.length ≤ 4194304) (hB : B ≤ w.heap.size) (ty : TypeId) :
    ∃ v' w', (Builtin.append_ #[37, 37] ty #[v, x]).run Try.prog w = .ok v' w' ∧ GrewI w B v (zs ++ ys) v' w' := by
  obtain ⟨i0, hi, hz0, hz1, hz2⟩ := info_parts info3
  obtain ⟨v', w', hr, h1, h2, h3⟩ := run_cat w B 37 ty 3 i0 (.int .i64 0) 1 8 Try.underlying37 hi hz0 hz1 hz2 rfl (by decide) v zs.length _ hown x ys.length _ hsrc (by simp) (fun u hu => by
    obtain ⟨z, -, rfl⟩ := List.mem_map.1 hu
    rfl) (by unfold maxLen; omega) (by omega) hB
  refine ⟨v', w', hr, ?_, (Below.refl B w).grown h2 hB (fun k hk => (World.ownsRow.lt hown k hk).1), h2.size, h2, h3⟩
  unfold Own
  rw [List.map_append, List.length_append]
  exact h1
theorem run_catH (w : World) (B : Nat) (v : Value) (hs : List HD) (hown : OwnH w B v hs) (x : Value) (ys : List HD) (hsrc : Source w x ys.length (cellsH ys)) (hl : hs.length + ys.length ≤ 4194304) (hB : B ≤ w.heap.size) (ty : TypeId) :
    ∃ v' w', (Builtin.append_ #[38, 38] ty #[v, x]).run Try.prog w = .ok v' w' ∧ GrewH w B v (hs ++ ys) v' w' := by
  obtain ⟨i0, hi, hz0, hz1, hz2⟩ := info_parts infoH
  obtain ⟨v', w', hr, h1, h2, h3⟩ := run_cat w B 38 ty 61 i0 _ 2 16 Try.underlying38 hi hz0 hz1 hz2 rfl (by decide) v hs.length _ hown x ys.length _ hsrc (cellsH_len ys) (cellsH_one ys) (by unfold maxLen; omega) (by omega) hB
  refine ⟨v', w', hr, ?_, (Below.refl B w).grown h2 hB (fun k hk => (World.ownsRow.lt hown k hk).1), h2.size, h2, h3⟩
  unfold OwnH
  rw [cellsH_app, List.length_append]
  exact h1

set_option maxRecDepth 100000 in
set_option maxHeartbeats 1000000 in
theorem copyNums_any (W : World) (B : Nat) (v : Value) (zs : List Int) (h : Own W B v zs) (hl : zs.length ≤ 1048576) :
    Calls Try.prog 76 #[v] W fun e W' => ∃ v', e = .returned v' ∧ Own W' W.heap.size v' zs ∧ Below W.heap.size W W' := by
  have HC : Hid (∀ ty, ∃ v' w', (Builtin.append_ #[37, 37] ty #[.slice none 0 0, v]).run Try.prog W = .ok v' w' ∧ GrewI W W.heap.size (.slice none 0 0) zs v' w') := fun ty => run_catI W W.heap.size _ [] (Own.nil _ _) v zs (Source.row h) (by simp; omega) (Nat.le_refl _) ty
  clear h
  go_enter Try.func76, Try.ntmps76
  go_wp2_with (at_builtin; refine list_cat (by rfl) (.const (.slice none 0 0)) (.tmp 3) 37 (by rfl) (.slice none 0 0) v (by rfl) (by rfl) _ HC.out ?_; intro v' w1 hg)
  have HW : Hid (GrewI W W.heap.size (.slice none 0 0) zs v' w1) := hg
  clear hg
  go_ret
  exact ⟨_, rfl, HW.out.own, HW.out.below⟩
end Go.Proofs.Ytchddjidjfpehaa
