/-
  'slices.Collect' of an iterator over numbers.
-/
import Derived.Test.YthlbmkefjjckaadGrHops
namespace Go.Proofs.Ythlbmkefjjckaad
open Go.RowKit
set_option linter.unusedVariables false
attribute [local go_sem] Oper.semAt_some wide_fn

/-- 'append' as one step of a fenced walk. -/
theorem listIn_app {F : Fence} {n : Nat} {ops : Array Oper} {rest : List Oper} {o : Oper} {a : Act} {w : World} {Q : Exit → Act → World → Prop} (hgd : o.guard = none) (s x : Operand) (t : TypeId)
    (hop : o.op = .call { callee := .builtin .append, args := #[s, x], argTypes := #[t, t] }) (v xv : Value) (hs : a.eval s = v) (hx : a.eval x = xv)
    (R : Value → World → Prop) (hrun : ∀ ty, ∃ v' w', (Builtin.append_ #[t, t] ty #[v, xv]).run Try.prog w = .ok v' w' ∧ R v' w') (h : ∀ v' w', R v' w' → wpListIn F n Try.prog ops Q rest (a.put o.dst v') w') : wpListIn F n Try.prog ops Q (o :: rest) a w := by
  refine wpListIn_plain hgd fun K hK => ?_
  obtain ⟨v', w', hr, hR⟩ := hrun o.type
  refine ⟨?_, ?_⟩
  · simp [Oper.about, hop, resolve, Target.leads, Sem.run_pure]
  · rw [Oper.semAt_plain F _ _ (by rw [hop]; intro c hc; cases hc)]
    simp [execOp, hop, resolve, invoke, builtin, hs, hx, hr, Result.andThen]
    exact hK _ _ (h v' w' hR)

/-- What the box of the collector holds when so many have come. -/
def ColI (B bx : Nat) (W0 : World) (pre : List Int) (w : World) : Prop := ∃ v, Boxed w bx 26 v ∧ Own w (B + 1) v pre ∧ Since B W0 w
def ColMine (bx : Nat) (w : World) (b : Nat) : Prop := b = bx ∨ ∃ n c, w.cell? ⟨bx, 0, none⟩ = some (.slice (some ⟨b, 0, none⟩) n c)
theorem colMine_ok (B bx : Nat) (W0 : World) (hbx : bx < B + 1) : MineOk (B + 1) (ColI B bx W0) (ColMine bx) where
  lt := fun s W b ⟨v, hb, ho, _⟩ hm => by
    rcases hm with rfl | ⟨n, c, hc⟩
    · exact hb.lt
    · rw [hb.cell] at hc
      cases hc
      exact (World.ownsRow.lt ho b rfl).2
  step := fun s W W' row b ⟨v, hb, ho, _⟩ hW hg hr hm => by
    have hne : some bx ≠ row := fun e => by have := (hr bx e.symm).1; omega
    have hb' : Boxed W' bx 26 v := (hg.block bx hb.lt hne).trans hb
    rcases hm with rfl | ⟨n, c, hc⟩
    · exact .inl rfl
    · rw [hb'.cell] at hc
      cases hc
      exact .inr ⟨n, c, hb.cell⟩
theorem colI_from (B B' bx : Nat) (W0 : World) (hB : B ≤ W0.heap.size) (hB' : B ≤ B') : OwnFrom B' (ColI B bx W0) := fun s A A' row ⟨v, hb, ho, hs⟩ hg hr =>
  ⟨v, boxed_own (β := Unit) bx 26 (fun _ => v) () A A' row hb hg (fun r e => (hr r e).2), own_from (β := Unit) B' (B + 1) (fun _ => v) (fun _ => s) () A A' row ho hg hr, since_from (β := Unit) hB hB' () A A' row hs hg hr⟩

set_option maxRecDepth 100000 in
set_option maxHeartbeats 4000000 in
theorem appendSeq_any (W : World) (gf : Nat) (lb : Array Value) (S : Nat → Prop) (xs : List Int) (heg : ∀ args w, (callFunc gf args).run Try.prog w = .ok (.enter gf args) w) (hseq : SeqO Try.prog gf lb (fun x : Int => #[.int .i64 x]) S xs W) (hS : ∀ b, S b → b < W.heap.size) (hl : xs.length ≤ 1000000) :
    Calls Try.prog 92 #[.slice none 0 0, .func (.func gf) #[] lb] W fun e W' => ∃ v', e = .returned v' ∧ Own W' W.heap.size v' xs ∧ Below W.heap.size W W' := by
  refine callsIn_wide (n := 9) |>.1 ?_
  refine callsIn_of_wp_marks Try.func92 rfl trivial ?_ rfl
  simp only [Try.ntmps92, List.size_toArray, List.length_cons, List.length_nil, Nat.reduceAdd, Nat.reduceSub, Array.replicate_succ, Array.replicate_zero, List.push_toArray, List.append_toArray, List.nil_append, List.cons_append]
  gi_wp2
  obtain ⟨W2, hW2⟩ : ∃ W2, W2 = W.alloc (.cells #[.slice none 0 0] 26) := ⟨_, rfl⟩
  have hsz : W2.heap.size = W.heap.size + 1 := by rw [hW2]; simp
  have hb2 : Below W.heap.size W W2 := by rw [hW2]; exact (Below.refl _ W).alloc (Nat.le_refl _) _
  have HB2 : Boxed W2 W.heap.size 26 (.slice none 0 0) := by rw [hW2]; exact Boxed.new W _ _
  rw [← hW2]
  clear hW2
  have h00 : ColI W.heap.size W.heap.size W [] W2 := ⟨_, HB2, Own.nil _ _, hb2, by omega⟩
  refine wp_range (w0 := W) (xs := xs) (encs := fun x : Int => #[.int .i64 x]) (S := S) (gf := gf) (lb := lb) rfl heg hseq hb2
    (ColI W.heap.size W.heap.size W) (ColMine W.heap.size) ((colMine_ok W.heap.size W.heap.size W (by omega)).mono (by omega) fun s _ h => ⟨s, h⟩)
    (fun b hb q => by
      have := hS b hb
      rcases q with rfl | ⟨n, c, hc⟩
      · omega
      · rw [HB2.cell] at hc; cases hc) (fun _ => rfl) (fun _ _ _ => False) (colI_from _ _ _ _ (Nat.le_refl _) (by omega)) (fun _ _ _ _ _ hs _ _ => hs) h00
    (fun x => { tmps := #[.slice none 0 0, .func (.func gf) #[] lb, .pointer (some ⟨W.heap.size, 0, none⟩), undef, .slice none 0 0, .int .i64 x, .func (.func gf) #[] lb, .int .i64 x, undef, undef, undef, undef, undef], defers := [] }) ?assign ?body ?done ?stop
  case assign =>
    intro l2 x Wx K hK
    gi_wp2
    exact hK
  case body =>
    rintro l2 pre x wr ⟨v, hb, ho, hs⟩ hpre hsx
    have hlen : pre.length ≤ 1000000 := by
      have := hpre.length_le
      simp at this
      omega
    obtain ⟨a2, c2, rfl⟩ := ho.shape
    have hc := hb.cell
    have hfz := hb.frozen
    have hb1 : Below wr.heap.size wr (wr.alloc (.cells #[.int .i64 x] 3)) := (Below.refl _ wr).alloc (Nat.le_refl _) _
    have happ : ∀ ty, ∃ v' w', (Builtin.append_ #[26, 26] ty #[.slice a2 pre.length c2, .slice (some ⟨wr.heap.size, 0, none⟩) 1 1]).run Try.prog (wr.alloc (.cells #[.int .i64 x] 3)) = .ok v' w' ∧ Grown (wr.alloc (.cells #[.int .i64 x] 3)) (W.heap.size + 1) 3 1 (.slice a2 pre.length c2) (pre ++ [x]).length ((pre ++ [x]).map (Value.int .i64)) v' w' := fun ty =>
      run_app1 _ _ _ pre (ho.below hb1) wr.heap.size 1 x (new_cell _ _ _) (by omega) (by have := hb.lt; simp; omega) ty
    have HP : Hid (∀ v5 w5, Grown (wr.alloc (.cells #[.int .i64 x] 3)) (W.heap.size + 1) 3 1 (.slice a2 pre.length c2) (pre ++ [x]).length ((pre ++ [x]).map (Value.int .i64)) v5 w5 → (w5.cell? ⟨W.heap.size, 0, none⟩ = some (.slice a2 pre.length c2) ∧ w5.frozen? ⟨W.heap.size, 0, none⟩ = false) ∧ (∃ a5 n5 c5, v5 = .slice a5 n5 c5) ∧ roundPostO W2.heap.size (ColMine W.heap.size) (ColI W.heap.size W.heap.size W) (fun _ _ _ => False) (pre ++ [x]) wr .normal { tmps := #[], defers := [] } (w5.setCell ⟨W.heap.size, 0, none⟩ v5)) := fun v5 w5 hg5 => by
      have hnb : some W.heap.size ≠ (Value.slice a2 pre.length c2).ownBlock := fun e => by
        have := (World.ownsRow.lt ho W.heap.size e.symm).1
        omega
      have hb5 : Boxed w5 W.heap.size 26 (.slice a2 pre.length c2) := (hg5.grown.block _ (by have := hb.lt; simp; omega) hnb).trans (hb.alloc _)
      obtain ⟨a5, c5, e5⟩ := rowShape hg5.own
      have hrow : ∀ (j : Nat) (o : Obj), (Value.slice a2 pre.length c2).ownBlock = some j → (wr.alloc (.cells #[.int .i64 x] 3)).heap[j]? = some o → o.isCells = true := fun j o hj ho2 => by
        rcases (ho.below hb1).2 with ⟨hv, -⟩ | ⟨g, cap, cur, hv, -, hgc, -⟩
        · rw [hv] at hj; cases hj
        · rw [hv] at hj
          cases hj
          rw [hgc] at ho2
          cases ho2
          rfl
      refine ⟨⟨hb5.cell, hb5.frozen⟩, ⟨_, _, _, e5⟩, ?_, ⟨?_, fun b o hbo hoc hm => ?_⟩, v5, hb5.set v5, ?_, ?_, ?_⟩
      · exact (((KeepsOthers.alloc wr _).trans (KeepsOthers.of_grownBy hg5.grown hrow)).trans (KeepsOthers.setCell _ _ _)).from _
      · have h1 := hg5.grown.size
        simp [World.setCell] at h1 ⊢
        omega
      · have hlt := (Array.getElem?_eq_some_iff.1 hbo).1
        have n1 : b ≠ W.heap.size := fun e => hm (.inl e)
        have n2 : some b ≠ (Value.slice a2 pre.length c2).ownBlock := fun e => by
          rcases ho.2 with ⟨hv, -⟩ | ⟨g, cap, cur, hv, -⟩
          · rw [hv] at e; cases e
          · rw [hv] at e
            cases e
            exact hm (.inr ⟨pre.length, cap, by rw [hb.cell, hv]⟩)
        have hw5 : w5.heap[b]? = some o := (hg5.grown.block b (by simp; omega) n2).trans ((Below.heap_alloc _ _ _ hlt).trans hbo)
        refine ⟨(Below.heap_setCell w5 ⟨W.heap.size, 0, none⟩ v5 b n1).trans hw5, fun q => ?_⟩
        rcases q with q | ⟨n9, c9, q⟩
        · exact n1 q
        · rw [(hb5.set v5).cell] at q
          cases q
          rcases hg5.lies with e | e
          · exact n2 (by rw [← e]; rfl)
          · simp [Value.ownBlock] at e
            omega
      · have hO : Own w5 (W.heap.size + 1) v5 (pre ++ [x]) := hg5.own
        exact Own.setCell hO (by show W.heap.size < W.heap.size + 1; omega) v5
      · exact ((hs.1.alloc hs.2 _).trans (hg5.below.mono (by omega))).setCell (by show W.heap.size ≤ W.heap.size; omega) v5
      · have h1 := hg5.grown.size
        have h2 := hs.2
        simp [World.setCell] at h1 ⊢
        omega
    clear hb ho hs hseq hS
    refine wpIn_block ?_
    gi_wp2_with (gi_at_builtin; refine listIn_app (by rfl) (.tmp 8) (.tmp 10) 26 (by rfl) (.slice a2 pre.length c2) (.slice (some ⟨wr.heap.size, 0, none⟩) 1 1) (by rfl) (by rfl) _ happ ?_; intro v5 w5 hg5; obtain ⟨⟨hc5, hf5⟩, ⟨a5, n5, c5, rfl⟩, HZ⟩ := HP.out v5 w5 hg5; have HZ1 : Hid (roundPostO W2.heap.size (ColMine W.heap.size) (ColI W.heap.size W.heap.size W) (fun _ _ _ => False) (pre ++ [x]) wr .normal { tmps := #[], defers := [] } (w5.setCell ⟨W.heap.size, 0, none⟩ (.slice a5 n5 c5))) := HZ; clear HZ hg5)
    exact HZ1.out
  case done =>
    rintro D Wx hD ⟨v, hb, ho, hs⟩ hd
    have hc := hb.cell
    obtain ⟨a2, c2, rfl⟩ := ho.shape
    have HE : Hid (Own (Wx.putObj D (.deferred none)) W.heap.size (.slice a2 xs.length c2) xs ∧ Below W.heap.size W (Wx.putObj D (.deferred none))) := by
      have hg := grownBy_putObj' Wx D (.deferred none)
      refine ⟨own_from (β := Unit) W.heap.size W.heap.size (fun _ => .slice a2 xs.length c2) (fun _ => xs) () Wx _ (some D) (ho.mono (by omega)) hg (fun r e => by cases e; exact ⟨by omega, _, hd, rfl⟩), hs.1.grown hg hs.2 (fun k e => by cases e; omega)⟩
    clear ho hs hb
    gi_wp2
    refine ⟨by simp, .inl ⟨_, _, rfl, run_takeDeferred hd, ?_⟩⟩
    refine ⟨_, results_tmp rfl _ _ _, ?_⟩
    exact ⟨_, rfl, HE.out.1, HE.out.2⟩
  case stop =>
    rintro D c pre Wx hD hf' hd
    exact hf'.elim

set_option maxHeartbeats 1000000 in
theorem collect_any (W : World) (gf : Nat) (lb : Array Value) (S : Nat → Prop) (xs : List Int) (heg : ∀ args w, (callFunc gf args).run Try.prog w = .ok (.enter gf args) w) (hseq : SeqO Try.prog gf lb (fun x : Int => #[.int .i64 x]) S xs W) (hS : ∀ b, S b → b < W.heap.size) (hl : xs.length ≤ 1000000) :
    Calls Try.prog 65 #[.func (.func gf) #[] lb] W fun e W' => ∃ v', e = .returned v' ∧ Own W' W.heap.size v' xs ∧ Below W.heap.size W W' := by
  have CA : Hid (Calls Try.prog 92 #[.slice none 0 0, .func (.func gf) #[] lb] W fun e W' => ∃ v', e = .returned v' ∧ Own W' W.heap.size v' xs ∧ Below W.heap.size W W') := appendSeq_any W gf lb S xs heg hseq hS hl
  clear heg hseq hS hl
  go_enter Try.func65, Try.ntmps65
  go_wp2_with fail
  refine CA.out.mono ?_
  rintro e w1 ⟨v1, rfl, ho1, hb1⟩
  obtain ⟨a1, c1, rfl⟩ := ho1.shape
  have HF : Hid (Own w1 W.heap.size (.slice a1 xs.length c1) xs ∧ Below W.heap.size W w1) := ⟨ho1, hb1⟩
  clear ho1 hb1
  go_wp2
  go_ret
  exact ⟨_, rfl, HF.out.1, HF.out.2⟩
end Go.Proofs.Ythlbmkefjjckaad
