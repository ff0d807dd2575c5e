/-
  A stock: a map from names to numbers, told name by name; 'stockOf' of the program.
-/
import Derived.Test.YtkpdiojomgiocacLsMath
import Derived.Test.YtkpdiojomgiocacSince0
import Derived.Maps.RangeWalk
import Derived.Maps.OwnSet
import Derived.Maps.OwnOps
namespace Go.Proofs.Ytkpdiojomgiocac
open Go.RowKit Go.Maps
set_option linter.unusedVariables false

theorem lawK : Keyed Try.prog 3 := int_keyed Try.underlying3
theorem zeroK (w : World) : (zeroValue 3).run Try.prog w = .ok (.int .i64 0) w := by kernel_rfl

/-- What a map as read has of each name. -/
def StF (D : DataW Unit) (F : Int → Option Int) : Prop :=
  IsMap D ∧ (∀ k, Maps.has D (.int .i64 k) = (F k).isSome) ∧ ∀ k z, D.atKey (.int .i64 k) z = match F k with | some v => .lit (.int .i64 v) | none => z
/-- Block b is a map of at most n names that has of each what F says. -/
def Stock (w : World) (b n : Nat) (F : Int → Option Int) : Prop := ∃ D : DataW Unit, w.ownsMap Try.prog 3 (plainElem Try.prog 3) b n D ∧ StF D F
theorem key_ne {a b : Int} (h : a ≠ b) : (Lit.int .i64 a) ≠ .int .i64 b := fun e => h (by injection e)
theorem isKey (k : Int) : WideAt.IsKeyLit (.int .i64 k) := trivial
theorem StF.put {D : DataW Unit} {F : Int → Option Int} (h : StF D F) (x v : Int) : StF (D.put (.int .i64 x) (.lit (.int .i64 v))) (fun k => if k = x then some v else F k) := by
  refine ⟨h.1.put _ _, fun k => ?_, fun k z => ?_⟩
  · by_cases e : k = x
    · subst e
      rw [has_put_same h.1 (isKey _)]
      simp
    · rw [has_put_other (key_ne e), h.2.1]
      simp [e]
  · by_cases e : k = x
    · subst e
      rw [atKey_put_same h.1 (isKey _)]
      simp
    · rw [atKey_put_other (key_ne e), h.2.2]
      simp [e]
theorem StF.del {D : DataW Unit} {F : Int → Option Int} (h : StF D F) (x : Int) : StF (D.del (.int .i64 x)) (fun k => if k = x then none else F k) := by
  refine ⟨h.1.del _, fun k => ?_, fun k z => ?_⟩
  · by_cases e : k = x
    · subst e
      rw [has_del_same]
      simp
    · rw [has_del_other (key_ne e), h.2.1]
      simp [e]
  · by_cases e : k = x
    · subst e
      rw [atKey_del_same]
      simp
    · rw [atKey_del_other (key_ne e), h.2.2]
      simp [e]
theorem StF.empty : StF (.map []) (fun _ => none) := ⟨isMap_empty, fun k => rfl, fun k z => rfl⟩
theorem StF.ext {D : DataW Unit} {F G : Int → Option Int} (h : StF D F) (e : ∀ k, F k = G k) : StF D G := by
  have : F = G := funext e
  rw [← this]
  exact h
theorem Stock.below {w w' : World} {b n : Nat} {F : Int → Option Int} (h : Stock w b n F) (hb : Below w.heap.size w w') : Stock w' b n F := by
  obtain ⟨D, hD, hF⟩ := h
  refine ⟨D, ?_, hF⟩
  have hl := hD.lt
  obtain ⟨es, clock, h1, h2⟩ := hD
  exact ⟨es, clock, (hb.block b hl).trans h1, h2⟩
theorem Stock.kept {w w' : World} {b n : Nat} {F : Int → Option Int} {row : Option Nat} (h : Stock w b n F) (hg : w.grownBy w' row) (hne : some b ≠ row) : Stock w' b n F := by
  obtain ⟨D, hD, hF⟩ := h
  exact ⟨D, hD.kept hg hne, hF⟩
theorem wf64 {x : Int} (h0 : 0 ≤ x) (h1 : x ≤ 1000) : (Lit.int .i64 x).wf = true := WalkArith.wf_i64 (by omega)

/-- 'm[k]' of a stock. -/
theorem list_look {ops : Array Oper} {rest : List Oper} {o : Oper} {a : Act} {w : World} {Q : Exit → Act → World → Prop} (hg : o.guard = none) (m x : Operand) (hop : o.op = Op.lookup 73 m x false) (b n : Nat) (D : DataW Unit) (F : Int → Option Int)
    (hm : a.eval m = .map (some b)) (hown : w.ownsMap Try.prog 3 (plainElem Try.prog 3) b n D) (hF : StF D F) (k C : Int) (hx : a.eval x = .int .i64 k) (hk : (Lit.int .i64 k).wf = true) (hC : (F k).getD 0 = C)
    (h : wpList Try.prog ops Q rest (a.put o.dst (.int .i64 C)) w) : wpList Try.prog ops Q (o :: rest) a w :=
  wpList_lookup_own_int w hg m x 73 hop 3 3 .i64 lawK Try.underlying73 Try.underlying3 (zeroK w) b n D hm hown _ _ hx (keyOf_int_mk Try.underlying3 hk) fun c hat _ => by
    rw [hF.2.2] at hat
    have e : c = C := by
      rw [← hC]
      cases hv : F k with
      | none => rw [hv] at hat; simp only [DataW.lit.injEq, Lit.int.injEq] at hat; exact hat.2.symm
      | some v => rw [hv] at hat; simp only [DataW.lit.injEq, Lit.int.injEq] at hat; exact hat.2.symm
    rw [e]
    exact h
/-- 'm[k] = v' of a stock. -/
theorem list_lay {ops : Array Oper} {rest : List Oper} {o : Oper} {a : Act} {w : World} {Q : Exit → Act → World → Prop} (hg : o.guard = none) (m x v : Operand) (hop : o.op = Op.mapUpdate 73 m x v) (b n : Nat) (F : Int → Option Int)
    (hm : a.eval m = .map (some b)) (hS : Stock w b n F) (hn : n ≤ 100000) (k c : Int) (hx : a.eval x = .int .i64 k) (hv : a.eval v = .int .i64 c) (hk : (Lit.int .i64 k).wf = true) (hc : (Lit.int .i64 c).wf = true) (B : Nat) (hb : B ≤ b) (w0 : World) (hB : Below B w0 w)
    (h : ∀ w', Stock w' b (n + 1) (fun z => if z = k then some c else F z) → Below B w0 w' → wpList Try.prog ops Q rest (a.put o.dst undef) w') : wpList Try.prog ops Q (o :: rest) a w := by
  obtain ⟨D, hD, hF⟩ := hS
  refine wpList_mapUpdate_own w hg m x v 73 hop 3 3 lawK Try.underlying73 _ b n D hm hD (by unfold maxLen; omega) _ _ _ hx hv (keyOf_int_mk Try.underlying3 hk) _ [] (plainElem_int Try.underlying3 hc) fun w' hD' hg' => ?_
  exact h w' ⟨_, hD', hF.put k c⟩ (hB.grown hg' (Nat.le_trans hb (Nat.le_of_lt hD.lt)) fun j hj => by cases hj; exact hb)
/-- 'delete(m, k)' of a stock. -/
theorem list_strike {ops : Array Oper} {rest : List Oper} {o : Oper} {a : Act} {w : World} {Q : Exit → Act → World → Prop} (hg : o.guard = none) (m x : Operand) (hop : o.op = Op.call { callee := Callee.builtin Builtin.delete, args := #[m, x], argTypes := #[73, 3] }) (b n : Nat) (F : Int → Option Int)
    (hm : a.eval m = .map (some b)) (hS : Stock w b n F) (k : Int) (hx : a.eval x = .int .i64 k) (hk : (Lit.int .i64 k).wf = true) (B : Nat) (hb : B ≤ b) (w0 : World) (hB : Below B w0 w)
    (h : ∀ w', Stock w' b n (fun z => if z = k then none else F z) → Below B w0 w' → wpList Try.prog ops Q rest (a.put o.dst (.tuple #[])) w') : wpList Try.prog ops Q (o :: rest) a w := by
  obtain ⟨D, hD, hF⟩ := hS
  refine wpList_delete_own w hg m x 73 3 hop 3 lawK Try.underlying73 _ b n D hm hD _ _ hx (keyOf_int_mk Try.underlying3 hk) fun w' hD' ht => ?_
  exact h w' ⟨_, hD', hF.del k⟩ (hB.grown ht.grown (Nat.le_trans hb (Nat.le_of_lt hD.lt)) fun j hj => by cases hj; exact hb)

theorem take_cont {hs : List HvD} (hr : Rise hs) (k : Nat) (hk : k < hs.length) (x : Int) : (if x = hs[k].From then some hs[k].Seq else cont (hs.take k) x) = cont (hs.take (k + 1)) x := by
  have hp := List.pairwise_iff_getElem.1 hr
  have happ : ∀ a b : List HvD, cont (a ++ b) x = match cont a x with | some v => some v | none => cont b x := fun a b => by
    induction a with
    | nil => rfl
    | cons y r ih =>
      simp only [List.cons_append, cont]
      split
      · rfl
      · exact ih
  rw [List.take_succ_eq_append_getElem hk, happ]
  by_cases e : x = hs[k].From
  · rw [if_pos e]
    have : cont (hs.take k) x = none := cont_none_of fun y hy ey => by
      obtain ⟨j, hj, rfl⟩ := List.getElem_of_mem hy
      rw [List.getElem_take] at ey
      rw [List.length_take] at hj
      have := hp j k (by omega) hk (by omega)
      omega
    rw [this]
    simp [cont, e]
  · rw [if_neg e]
    rcases cont (hs.take k) x with _ | v
    · simp [cont, Ne.symm e]
    · rfl

set_option maxRecDepth 100000 in
set_option maxHeartbeats 2000000 in
theorem stockOf_any (W : World) (v : Value) (hs : List HvD) (h : ReadsHv W v hs) (hr : Rise hs) (hf : FitHv hs) :
    Calls Try.prog 42 #[v] W fun e W' => e = .returned (.map (some W.heap.size)) ∧ Stock W' W.heap.size hs.length (cont hs) ∧ Below W.heap.size W W' := by
  have hmm := @run_makeMap Try.prog
  obtain ⟨a1, cap1, rfl, hc1⟩ := h
  have hl := rise_len hr hf
  by_cases hz : hs = []
  · subst hz
    simp only [List.length_nil] at *
    clear hc1 hl hr hf
    go_enter Try.func42, Try.ntmps42
    go_wp2
    refine wp_loop_rounds 1 ?_
    rw [rounds_succ]
    go_wp2
    go_ret
    exact ⟨rfl, ⟨_, World.ownsMap_made _ _ _ _, StF.empty⟩, (Below.refl _ _).alloc (Nat.le_refl _) _⟩
  · obtain ⟨g1, o1, rfl, hg1, hc1⟩ := hc1.resolve_left hz
    have HC1 : Hid (∀ wr, Below W.heap.size W wr → ∀ j (hj : j < hs.length), HvAt wr g1 (o1 + j * 2) hs[j]) := fun wr hB j hj => (hc1 j hj).below hg1 hB
    have HST : Hid (∀ k (hk : k < hs.length) x, (if x = hs[k].From then some hs[k].Seq else cont (hs.take k) x) = cont (hs.take (k + 1)) x) := take_cont hr
    have HF : Hid (∀ j (hj : j < hs.length), (Lit.int .i64 hs[j].From).wf = true ∧ (Lit.int .i64 hs[j].Seq).wf = true) := fun j hj => by
      have := hf hs[j] (List.getElem_mem hj)
      exact ⟨wf64 (by omega) (by omega), wf64 (by omega) (by omega)⟩
    clear hc1 hg1 hr hf
    have HS0 : Hid (Stock (W.alloc (.map #[] 0)) W.heap.size 0 (cont (hs.take 0)) ∧ Below W.heap.size W (W.alloc (.map #[] 0))) := ⟨⟨_, World.ownsMap_made _ _ _ _, StF.empty⟩, (Below.refl _ _).alloc (Nat.le_refl _) _⟩
    go_enter Try.func42, Try.ntmps42
    go_wp2
    go_loopw [9] (fun i wr => ∃ k : Nat, k ≤ hs.length ∧ i = .int .i64 k ∧ Hid (Stock wr W.heap.size k (cont (hs.take k)) ∧ Below W.heap.size W wr)) (fun i _ => hs.length - (intOf i).toNat)
    case atStart => exact ⟨0, Nat.zero_le _, rfl, HS0.out⟩
    case round =>
      obtain ⟨k, hk, rfl, HK⟩ := hrel
      by_cases hlt : k < hs.length
      · have hlt' : (k : Int) < (hs.length : Int) := by omega
        obtain ⟨q0, q1⟩ := HC1.out wr HK.out.2 k hlt
        obtain ⟨wf0, wf1⟩ := HF.out k hlt
        have HN : Hid (∀ z, (if z = hs[k].From then some hs[k].Seq else cont (hs.take k) z) = cont (hs.take (k + 1)) z) := HST.out k hlt
        have HB1 : Hid (Stock (wr.alloc (.cells #[.int .i64 hs[k].From, .int .i64 hs[k].Seq] 41)) W.heap.size k (cont (hs.take k)) ∧ Below W.heap.size W (wr.alloc (.cells #[.int .i64 hs[k].From, .int .i64 hs[k].Seq] 41))) := ⟨HK.out.1.kept (World.grownBy_alloc wr _ none) (by simp), HK.out.2.alloc HK.out.2.size _⟩
        clear HK
        generalize hs[k].From = fr at *
        generalize hs[k].Seq = sq at *
        go_wp2_with (first
          | (at_mapUpdate; refine list_lay rfl _ _ _ rfl W.heap.size k _ rfl HB1.out.1 (by omega) fr sq rfl rfl wf0 wf1 W.heap.size (Nat.le_refl _) W HB1.out.2 ?_; intro w2 hS2 hb2; have HD2 : Hid (Stock w2 W.heap.size (k + 1) (cont (hs.take (k + 1))) ∧ Below W.heap.size W w2) := ⟨by rw [show cont (hs.take (k + 1)) = fun z => if z = fr then some sq else cont (hs.take k) z from (funext HN.out).symm]; exact hS2, hb2⟩; clear hS2 hb2; go_frame)
          | go_in)
        go_roundw
        case rel => exact ⟨k + 1, by omega, by go_num, HD2.out⟩
        case measure => simp [intOf]; omega
      · have hlt' : ¬ (k : Int) < (hs.length : Int) := by omega
        have e : k = hs.length := by omega
        subst e
        rw [List.take_length] at HK
        go_wp2
        go_ret
        exact ⟨rfl, HK.out⟩
end Go.Proofs.Ytkpdiojomgiocac
