/-
  'exchange' of the program: a letter, and what goes back for it, by a channel.
-/
import Derived.Test.YtkkamigaolejiaxFlLetter
import Derived.Test.YtkkamigaolejiaxFlSettle
import Derived.Conc.LoneSelect
import Derived.Laws.Rows
namespace Go.Proofs.Ytkkamigaolejiax
open Go.RowKit Go.Conc
set_option linter.unusedVariables false

/-- A call, by what is proved of it. -/
theorem lone_calls {P : Program} {Q : Goroutine → World → Prop} {b : Frame} {a : Act} {k : List Item} {cs : List Frame} {w : World} {ops : Array Oper} {i : Nat} {rest : List Nat} {o : Oper} {f : FuncId} {fn : Func} {c : Code} {args : Array Operand} {ats : Array TypeId} {R : Ending → World → Prop} (vs : Array Value)
    (ho : ops[i]? = some o) (hw : Region.wanted o (yielded ops a.tmps) = true) (hk : b.kind ≠ .early) (hop : o.op = .call { callee := .value (.func f), args, argTypes := ats })
    (hf : P.funcs[f]? = some fn) (hname : (fn.name == "runtime.NumGoroutine") = false) (hb : fn.body = some c) (hvs : args.map a.eval = vs) (hc : Calls P f vs w R)
    (hnext : ∀ e w', R e w' → ∃ v, e = .returned v ∧ LoneTo P Q (G (b.at (a.put o.dst v) (.inRegion ops rest :: k)) cs) w') :
    LoneTo P Q (G (b.at a (.inRegion ops (i :: rest) :: k)) cs) w := by
  subst hvs
  have hgo := goes_elim (goes_call (P := P) (main := true) (b := b) (a := a) (k := k) (cs := cs) (w := w) (rest := rest) (K := fun g w' _ => g = G (Frame.enter P f (args.map a.eval) .normal) (b.at a (.inRegion ops (i :: rest) :: k) :: cs) ∧ w' = w) ho hw hk hop hf hname hb ⟨by rw [enter_at _ hf hb], rfl⟩)
  obtain ⟨g1, w1, es, hgo, rfl, rfl⟩ := hgo
  refine LoneTo.step (step_solo_go rfl hgo) ?_
  obtain ⟨e, w', fr, hR, hcm, -, hlv⟩ := hc (b.at a (.inRegion ops (i :: rest) :: k) :: cs)
  obtain ⟨v, rfl, g2, w2, hs, hq⟩ := hnext e w' hR
  have hl := step_leave_returned (c := b.at a (.inRegion ops (i :: rest) :: k)) (cs := cs) hlv
  rw [Frame.finish_at, ho] at hl
  exact ⟨g2, w2, Steps.trans hcm (Steps.head hl hs), hq⟩

theorem SF.keep {W w w' : World} {B : Nat} {x y z l : Value} {xs ys zs : List Value} {f0 f : FD} {n : Nat} (h0 : SF W B x y z l xs ys zs f0 n) (h : SF w B x y z l xs ys zs f n) (hb : Below W.heap.size w w') : SF w' B x y z l xs ys zs f n := by
  have e : ∀ b, b < W.heap.size → w'.heap[b]? = w.heap[b]? := fun b hb' => hb.block b hb'
  refine ⟨⟨?_, ?_, ?_, ?_, h.own.a01, h.own.a02, h.own.a12⟩, h.num, h.lks, h.n1, h.n6, Nat.le_trans h.low hb.size⟩
  · exact h.own.lk.same (fun k hk => e k (World.ownsRow.lt h0.own.lk.row k hk).2) (fun k hk => e k (h0.own.lk.inLt k hk).2)
  · exact h.own.kn.same (fun k hk => e k (World.ownsRow.lt h0.own.kn.row k hk).2) (fun k hk => e k (h0.own.kn.inLt k hk).2)
  · exact h.own.ow.same (fun k hk => e k (World.ownsRow.lt h0.own.ow.row k hk).2) (fun k hk => e k (h0.own.ow.inLt k hk).2)
  · exact rowSame h.own.ln (fun k hk => e k (World.ownsRow.lt h0.own.ln k hk).2)
theorem Turned.keep {P : Nat → Prop} {W w w' : World} (h : Turned P W w) (hb : Below W.heap.size w w') : Turned P W w' :=
  ⟨hb.os.trans h.os, hb.tape.trans h.tape, hb.output.trans h.output, Nat.le_trans h.size hb.size, fun j hj hn => (hb.block j hj).trans (h.block j hj hn)⟩
theorem heap_setChan_ne (w : World) {c b : Nat} (cap : Nat) (buf : Array Value) (cl : Bool) (s r : Nat) (tm : Bool) (h : b ≠ c) : (w.setChan c cap buf cl s r tm).heap[b]? = w.heap[b]? := by
  simp only [World.setChan]
  rw [Array.getElem?_setIfInBounds_ne (fun e => h e.symm)]

theorem bytesLt : (Try.prog.info? 66).map (fun i => i.bytes) = some 40 := by kernel_rfl
theorem mkLt (w : World) : (Instr.makeChan 109 (.int .i64 1)).run Try.prog w = .ok (.chan (some w.heap.size)) (w.alloc (.chan 1 #[] false 0 0 false)) := by
  obtain ⟨i, hi, hb⟩ := Option.map_eq_some_iff.1 bytesLt
  simpa using run_makeChan (P := Try.prog) (w := w) Try.underlying109 hi .i64 1 (by omega) (by rw [hb]; omega)

set_option maxRecDepth 100000 in
set_option maxHeartbeats 2000000 in
theorem exchange_any (W : World) (B : Nat) (x y z l : Value) (xs ys zs : List Value) (f : FD) (n : Nat) (h : SF W B x y z l xs ys zs f n) (to by1 u r i : Nat) (seq : Int) (hto : to < n) (hby : by1 < n) (hu : u < n) (hr : ixD (debtsL n f.lk) (to : Int) (by1 : Int) = (r : Int)) (hrm : r < (debtsL n f.lk).length) (hi : ixD (debtsL n f.lk) (by1 : Int) (to : Int) = (i : Int)) (him : i < (debtsL n f.lk).length) (h0 : 0 ≤ seq) (h1 : seq ≤ 60) :
    Calls Try.prog 72 #[.agg #[x, y, z, l], .agg #[.int .i64 (to : Int), .int .i64 (by1 : Int), .int .i64 (u : Int), .int .i64 seq, .bool false]] W fun e W' => (∃ v, e = .returned v) ∧ SF W' B x y z l xs ys zs (takeA (takeE (debtsL n f.lk) f to u seq r) by1 u seq i) n ∧ Turned (InKO ys zs) W W' := by
  obtain ⟨a0, c0, rfl⟩ := h.own.lk.shape
  obtain ⟨a1, c1, rfl⟩ := h.own.kn.shape
  obtain ⟨a2, c2, rfl⟩ := h.own.ow.shape
  obtain ⟨a3, c3, rfl⟩ := h.own.ln.shape
  have CTA : Hid (∀ w', SF w' B (.slice a0 f.lk.length c0) (.slice a1 f.kn.length c1) (.slice a2 f.ow.length c2) (.slice a3 f.ln.length c3) xs ys zs (takeE (debtsL n f.lk) f to u seq r) n → Calls Try.prog 65 #[.agg #[.slice a0 f.lk.length c0, .slice a1 f.kn.length c1, .slice a2 f.ow.length c2, .slice a3 f.ln.length c3], .agg #[.int .i64 (by1 : Int), .int .i64 (to : Int), .int .i64 (u : Int), .int .i64 seq, .bool true]] w' fun e W' => e = .returned (.slice none 0 0) ∧ SF W' B (.slice a0 f.lk.length c0) (.slice a1 f.kn.length c1) (.slice a2 f.ow.length c2) (.slice a3 f.ln.length c3) xs ys zs (takeA (takeE (debtsL n f.lk) f to u seq r) by1 u seq i) n ∧ Turned (InKO ys zs) w' W') := fun w' h' => by
    have hlk := takeE_lk (debtsL n f.lk) f to u seq r
    exact takeLetterA_any w' B _ _ _ _ xs ys zs _ n h' by1 to u i seq hby hu (by rw [hlk]; exact hi) (by rw [hlk]; exact him)
  refine calls_of_loneTo (fun cs => ?_) (by rintro _ ⟨⟨_, h⟩, _⟩; cases h)
  have e : Frame.enter Try.prog 72 #[.agg #[.slice a0 f.lk.length c0, .slice a1 f.kn.length c1, .slice a2 f.ow.length c2, .slice a3 f.ln.length c3], .agg #[.int .i64 (to : Int), .int .i64 (by1 : Int), .int .i64 (u : Int), .int .i64 seq, .bool false]] .normal = (base 72).at ⟨#[.agg #[.slice a0 f.lk.length c0, .slice a1 f.kn.length c1, .slice a2 f.ow.length c2, .slice a3 f.ln.length c3], .agg #[.int .i64 (to : Int), .int .i64 (by1 : Int), .int .i64 (u : Int), .int .i64 seq, .bool false], undef, undef, undef, undef, undef, undef, undef, undef, undef, undef, undef, undef, undef, undef, undef, undef, undef, undef, undef, undef, undef, undef, undef, undef, undef], []⟩ [.code (Try.f72.body.getD .skip)] := by
    simp [Frame.enter, Frame.at, Try.func72, base, Try.f72]
  rw [e]
  have hmc := mkLt
  refine LoneTo.goes (n := 40) ?_
  simp only [Try.f72, Option.getD_some]
  s_c stepG_seq
  s_reg
  s_op
  s_op
  s_c stepG_region_end
  s_c stepG_seq
  s_reg
  s_op
  s_op
  s_c stepG_region_end
  s_c stepG_seq
  s_reg
  s_op
  s_op
  s_stop
  refine LoneTo.step (step_lone_send_room (c := W.heap.size + 1 + 1) (cap := 1) (buf := #[]) (s := 0) (r := 0) (tm := false) (stepG_comm (cases := #[scase (W.heap.size + 1 + 1) (.agg #[.int .i64 (to : Int), .int .i64 (by1 : Int), .int .i64 (u : Int), .int .i64 seq, .bool false]) (.tuple #[])]) (blocking := true) (shape := .send) (w' := (((W.alloc (.cells #[.slice a0 f.lk.length c0, .slice a1 f.kn.length c1, .slice a2 f.ow.length c2, .slice a3 f.ln.length c3] 31)).alloc (.cells #[.int .i64 (to : Int), .int .i64 (by1 : Int), .int .i64 (u : Int), .int .i64 seq, .bool false] 66)).alloc (.chan 1 #[] false 0 0 false))) rfl rfl (by decide) (by simp [execOp, scase, Act.eval])) (by have := heap_alloc_new ((W.alloc (.cells #[.slice a0 f.lk.length c0, .slice a1 f.kn.length c1, .slice a2 f.ow.length c2, .slice a3 f.ln.length c3] 31)).alloc (.cells #[.int .i64 (to : Int), .int .i64 (by1 : Int), .int .i64 (u : Int), .int .i64 seq, .bool false] 66)) (.chan 1 #[] false 0 0 false); simpa only [World.size_alloc] using this) (by simp)) ?_
  rw [Frame.finish_at]
  walk_nrm
  have hb0 : Below W.heap.size W ((W.alloc (.cells #[.slice a0 f.lk.length c0, .slice a1 f.kn.length c1, .slice a2 f.ow.length c2, .slice a3 f.ln.length c3] 31)).alloc (.cells #[.int .i64 (to : Int), .int .i64 (by1 : Int), .int .i64 (u : Int), .int .i64 seq, .bool false] 66)) := ((Below.refl _ W).alloc (Nat.le_refl _) _).alloc (by simp) _
  have hb1 : Below W.heap.size W (((W.alloc (.cells #[.slice a0 f.lk.length c0, .slice a1 f.kn.length c1, .slice a2 f.ow.length c2, .slice a3 f.ln.length c3] 31)).alloc (.cells #[.int .i64 (to : Int), .int .i64 (by1 : Int), .int .i64 (u : Int), .int .i64 seq, .bool false] 66)).alloc (.chan 1 #[] false 0 0 false)) := hb0.alloc (by simp; omega) _
  have hb2 : Below W.heap.size W ((((W.alloc (.cells #[.slice a0 f.lk.length c0, .slice a1 f.kn.length c1, .slice a2 f.ow.length c2, .slice a3 f.ln.length c3] 31)).alloc (.cells #[.int .i64 (to : Int), .int .i64 (by1 : Int), .int .i64 (u : Int), .int .i64 seq, .bool false] 66)).alloc (.chan 1 #[] false 0 0 false)).setChan (W.heap.size + 1 + 1) 1 #[.agg #[.int .i64 (to : Int), .int .i64 (by1 : Int), .int .i64 (u : Int), .int .i64 seq, .bool false]] false 1 0 false) := below_setChan hb1 (by omega) _ _ _ _ _ _
  have HF1 : Hid (SF ((((W.alloc (.cells #[.slice a0 f.lk.length c0, .slice a1 f.kn.length c1, .slice a2 f.ow.length c2, .slice a3 f.ln.length c3] 31)).alloc (.cells #[.int .i64 (to : Int), .int .i64 (by1 : Int), .int .i64 (u : Int), .int .i64 seq, .bool false] 66)).alloc (.chan 1 #[] false 0 0 false)).setChan (W.heap.size + 1 + 1) 1 #[.agg #[.int .i64 (to : Int), .int .i64 (by1 : Int), .int .i64 (u : Int), .int .i64 seq, .bool false]] false 1 0 false) B (.slice a0 f.lk.length c0) (.slice a1 f.kn.length c1) (.slice a2 f.ow.length c2) (.slice a3 f.ln.length c3) xs ys zs f n) := h.keep h hb2
  have HT1 : Hid (Turned (InKO ys zs) W ((((W.alloc (.cells #[.slice a0 f.lk.length c0, .slice a1 f.kn.length c1, .slice a2 f.ow.length c2, .slice a3 f.ln.length c3] 31)).alloc (.cells #[.int .i64 (to : Int), .int .i64 (by1 : Int), .int .i64 (u : Int), .int .i64 seq, .bool false] 66)).alloc (.chan 1 #[] false 0 0 false)).setChan (W.heap.size + 1 + 1) 1 #[.agg #[.int .i64 (to : Int), .int .i64 (by1 : Int), .int .i64 (u : Int), .int .i64 seq, .bool false]] false 1 0 false)) := Turned.ofBelow hb2
  have HX1 : Hid (Bx4 ((((W.alloc (.cells #[.slice a0 f.lk.length c0, .slice a1 f.kn.length c1, .slice a2 f.ow.length c2, .slice a3 f.ln.length c3] 31)).alloc (.cells #[.int .i64 (to : Int), .int .i64 (by1 : Int), .int .i64 (u : Int), .int .i64 seq, .bool false] 66)).alloc (.chan 1 #[] false 0 0 false)).setChan (W.heap.size + 1 + 1) 1 #[.agg #[.int .i64 (to : Int), .int .i64 (by1 : Int), .int .i64 (u : Int), .int .i64 seq, .bool false]] false 1 0 false) W.heap.size (.slice a0 f.lk.length c0) (.slice a1 f.kn.length c1) (.slice a2 f.ow.length c2) (.slice a3 f.ln.length c3)) := by
    have := ((Bx4.new W (.slice a0 f.lk.length c0) (.slice a1 f.kn.length c1) (.slice a2 f.ow.length c2) (.slice a3 f.ln.length c3) 31).below ((Below.refl _ _).alloc (Nat.le_refl _) (.cells #[.int .i64 (to : Int), .int .i64 (by1 : Int), .int .i64 (u : Int), .int .i64 seq, .bool false] 66))).below ((Below.refl _ _).alloc (Nat.le_refl _) (.chan 1 #[] false 0 0 false))
    exact this.same (heap_setChan_ne _ _ _ _ _ _ _ (by omega)) (Nat.le_of_eq (size_setChan _ _ _ _ _ _ _ _).symm)
  have HC1 : Hid (((((W.alloc (.cells #[.slice a0 f.lk.length c0, .slice a1 f.kn.length c1, .slice a2 f.ow.length c2, .slice a3 f.ln.length c3] 31)).alloc (.cells #[.int .i64 (to : Int), .int .i64 (by1 : Int), .int .i64 (u : Int), .int .i64 seq, .bool false] 66)).alloc (.chan 1 #[] false 0 0 false)).setChan (W.heap.size + 1 + 1) 1 #[.agg #[.int .i64 (to : Int), .int .i64 (by1 : Int), .int .i64 (u : Int), .int .i64 seq, .bool false]] false 1 0 false).heap[W.heap.size + 1 + 1]? = some (.chan 1 #[.agg #[.int .i64 (to : Int), .int .i64 (by1 : Int), .int .i64 (u : Int), .int .i64 seq, .bool false]] false 1 0 false)) := heap_setChan _ _ _ _ _ _ _ _ (by simp)
  have hz1 : W.heap.size + 3 ≤ ((((W.alloc (.cells #[.slice a0 f.lk.length c0, .slice a1 f.kn.length c1, .slice a2 f.ow.length c2, .slice a3 f.ln.length c3] 31)).alloc (.cells #[.int .i64 (to : Int), .int .i64 (by1 : Int), .int .i64 (u : Int), .int .i64 seq, .bool false] 66)).alloc (.chan 1 #[] false 0 0 false)).setChan (W.heap.size + 1 + 1) 1 #[.agg #[.int .i64 (to : Int), .int .i64 (by1 : Int), .int .i64 (u : Int), .int .i64 seq, .bool false]] false 1 0 false).heap.size := by rw [size_setChan]; simp
  clear hb0 hb1 hb2 e hmc
  generalize ((((W.alloc (.cells #[.slice a0 f.lk.length c0, .slice a1 f.kn.length c1, .slice a2 f.ow.length c2, .slice a3 f.ln.length c3] 31)).alloc (.cells #[.int .i64 (to : Int), .int .i64 (by1 : Int), .int .i64 (u : Int), .int .i64 seq, .bool false] 66)).alloc (.chan 1 #[] false 0 0 false)).setChan (W.heap.size + 1 + 1) 1 #[.agg #[.int .i64 (to : Int), .int .i64 (by1 : Int), .int .i64 (u : Int), .int .i64 seq, .bool false]] false 1 0 false) = w1 at *
  refine LoneTo.goes (n := 40) ?_
  repeat (first | s_c stepG_seq | s_reg | s_c stepG_region_end | s_c stepG_block | s_c stepG_loop | s_c stepG_inLoop | s_c stepG_inBlock | s_c stepG_skip | s_cond true | s_cond false | s_op)
  s_stop
  refine LoneTo.step (step_lone_select_recv_buf (c := W.heap.size + 1 + 1) (z := .agg #[.int .i64 0, .int .i64 0, .int .i64 0, .int .i64 0, .bool false]) (stepG_comm (cases := #[rcase (W.heap.size + 1 + 1) (.agg #[.int .i64 0, .int .i64 0, .int .i64 0, .int .i64 0, .bool false])]) (blocking := false) (shape := .select) (w' := w1) rfl rfl (by decide) (by simp [go_sem, execOp, rcase, Act.eval])) HC1.out (by simp)) ?_
  rw [Frame.finish_at]
  walk_nrm
  have hb2 : Below W.heap.size w1 (w1.setChan (W.heap.size + 1 + 1) 1 #[] false 1 1 false) := below_setChan (Below.refl _ _) (by omega) _ _ _ _ _ _
  have HF2 : Hid (SF (w1.setChan (W.heap.size + 1 + 1) 1 #[] false 1 1 false) B (.slice a0 f.lk.length c0) (.slice a1 f.kn.length c1) (.slice a2 f.ow.length c2) (.slice a3 f.ln.length c3) xs ys zs f n) := h.keep HF1.out hb2
  have HT2 : Hid (Turned (InKO ys zs) W (w1.setChan (W.heap.size + 1 + 1) 1 #[] false 1 1 false)) := HT1.out.keep hb2
  have HX2 : Hid (Bx4 (w1.setChan (W.heap.size + 1 + 1) 1 #[] false 1 1 false) W.heap.size (.slice a0 f.lk.length c0) (.slice a1 f.kn.length c1) (.slice a2 f.ow.length c2) (.slice a3 f.ln.length c3)) := HX1.out.same (heap_setChan_ne _ _ _ _ _ _ _ (by omega)) (Nat.le_of_eq (size_setChan _ _ _ _ _ _ _ _).symm)
  have HC2 : Hid ((w1.setChan (W.heap.size + 1 + 1) 1 #[] false 1 1 false).heap[W.heap.size + 1 + 1]? = some (.chan 1 #[] false 1 1 false)) := heap_setChan _ _ _ _ _ _ _ _ (by omega)
  have hz2 : W.heap.size + 3 ≤ (w1.setChan (W.heap.size + 1 + 1) 1 #[] false 1 1 false).heap.size := by rw [size_setChan]; exact hz1
  have he : (#[.agg #[.int .i64 (to : Int), .int .i64 (by1 : Int), .int .i64 (u : Int), .int .i64 seq, .bool false]] : Array Value).extract 1 1 = #[] := by simp
  simp only [he]
  clear hb2 HF1 HT1 HX1 HC1 hz1 he
  generalize (w1.setChan (W.heap.size + 1 + 1) 1 #[] false 1 1 false) = w2 at *
  have hb3 : Below W.heap.size w2 (w2.alloc (.cells #[.int .i64 (to : Int), .int .i64 (by1 : Int), .int .i64 (u : Int), .int .i64 seq, .bool false] 66)) := (Below.refl _ _).alloc (by omega) _
  have HF3 : Hid (SF (w2.alloc (.cells #[.int .i64 (to : Int), .int .i64 (by1 : Int), .int .i64 (u : Int), .int .i64 seq, .bool false] 66)) B (.slice a0 f.lk.length c0) (.slice a1 f.kn.length c1) (.slice a2 f.ow.length c2) (.slice a3 f.ln.length c3) xs ys zs f n) := h.keep HF2.out hb3
  have HT3 : Hid (Turned (InKO ys zs) W (w2.alloc (.cells #[.int .i64 (to : Int), .int .i64 (by1 : Int), .int .i64 (u : Int), .int .i64 seq, .bool false] 66))) := HT2.out.keep hb3
  have hb3' : Below w2.heap.size w2 (w2.alloc (.cells #[.int .i64 (to : Int), .int .i64 (by1 : Int), .int .i64 (u : Int), .int .i64 seq, .bool false] 66)) := (Below.refl _ _).alloc (Nat.le_refl _) _
  have HX3 : Hid (Bx4 (w2.alloc (.cells #[.int .i64 (to : Int), .int .i64 (by1 : Int), .int .i64 (u : Int), .int .i64 seq, .bool false] 66)) W.heap.size (.slice a0 f.lk.length c0) (.slice a1 f.kn.length c1) (.slice a2 f.ow.length c2) (.slice a3 f.ln.length c3)) := HX2.out.below hb3'
  have HC3 : Hid ((w2.alloc (.cells #[.int .i64 (to : Int), .int .i64 (by1 : Int), .int .i64 (u : Int), .int .i64 seq, .bool false] 66)).heap[W.heap.size + 1 + 1]? = some (.chan 1 #[] false 1 1 false)) := (hb3'.block _ (by omega)).trans HC2.out
  have hz3 : W.heap.size + 3 ≤ (w2.alloc (.cells #[.int .i64 (to : Int), .int .i64 (by1 : Int), .int .i64 (u : Int), .int .i64 seq, .bool false] 66)).heap.size := by simp; omega
  clear hb3 hb3' HF2 HT2 HX2 HC2
  obtain ⟨-, x0, x1, x2, x3, -⟩ := HX3.out
  refine LoneTo.goes (n := 40) ?_
  repeat (first | s_c stepG_seq | s_reg | s_c stepG_region_end | s_c stepG_block | s_c stepG_loop | s_c stepG_inLoop | s_c stepG_inBlock | s_c stepG_skip | s_cond true | s_cond false | s_op)
  s_stop
  clear x0 x1 x2 x3
  generalize w2.alloc (.cells #[.int .i64 (to : Int), .int .i64 (by1 : Int), .int .i64 (u : Int), .int .i64 seq, .bool false] 66) = w3 at *
  clear hz2
  refine lone_calls #[.agg #[.slice a0 f.lk.length c0, .slice a1 f.kn.length c1, .slice a2 f.ow.length c2, .slice a3 f.ln.length c3], .agg #[.int .i64 (to : Int), .int .i64 (by1 : Int), .int .i64 (u : Int), .int .i64 seq, .bool false]] rfl rfl (by decide) rfl Try.func65 (by decide) rfl (by simp [Act.eval]) (takeLetterE_any w3 B _ _ _ _ xs ys zs f n HF3.out to by1 u r seq hto hu hr hrm h0 h1) ?_
  rintro e w4 ⟨b, rfl, h4, ht4, hb4⟩
  refine ⟨_, rfl, ?_⟩
  have HLW : ∀ b, InKO ys zs b → b < W.heap.size := fun b hb => hb.elim (fun e => (h.own.kn.inLt b e).2) (fun e => (h.own.ow.inLt b e).2)
  have HF4 : Hid (SF w4 B (.slice a0 f.lk.length c0) (.slice a1 f.kn.length c1) (.slice a2 f.ow.length c2) (.slice a3 f.ln.length c3) xs ys zs (takeE (debtsL n f.lk) f to u seq r) n) := h4
  have HT4 : Hid (Turned (InKO ys zs) W w4) := HT3.out.trans ht4
  have HX4 : Hid (Bx4 w4 W.heap.size (.slice a0 f.lk.length c0) (.slice a1 f.kn.length c1) (.slice a2 f.ow.length c2) (.slice a3 f.ln.length c3)) := HX3.out.turned ht4 (fun hb => by have := HLW _ hb; omega)
  have HC4 : Hid (w4.heap[W.heap.size + 1 + 1]? = some (.chan 1 #[] false 1 1 false)) := (ht4.block _ (by omega) (fun hb => by have := HLW _ hb; omega)).trans HC3.out
  have hz4 : W.heap.size + 3 ≤ w4.heap.size := Nat.le_trans hz3 ht4.size
  clear h4 ht4 HF3 HT3 HX3 HC3 hz3
  obtain ⟨hbl, b0, b1, b2, b3, b4, bf⟩ := hb4
  walk_nrm
  refine LoneTo.goes (n := 60) ?_
  repeat (first | s_c stepG_seq | s_reg | s_c stepG_region_end | s_c stepG_block | s_c stepG_loop | s_c stepG_inLoop | s_c stepG_inBlock | s_c stepG_skip | s_cond true | s_cond false | s_op)
  s_stop
  have hb5 : Below W.heap.size w4 (w4.alloc (.cells #[.int .i64 (by1 : Int), .int .i64 (to : Int), .int .i64 (u : Int), .int .i64 seq, .bool true] 66)) := (Below.refl _ _).alloc (by omega) _
  have HF5 : Hid (SF (w4.alloc (.cells #[.int .i64 (by1 : Int), .int .i64 (to : Int), .int .i64 (u : Int), .int .i64 seq, .bool true] 66)) B (.slice a0 f.lk.length c0) (.slice a1 f.kn.length c1) (.slice a2 f.ow.length c2) (.slice a3 f.ln.length c3) xs ys zs (takeE (debtsL n f.lk) f to u seq r) n) := h.keep HF4.out hb5
  have HT5 : Hid (Turned (InKO ys zs) W (w4.alloc (.cells #[.int .i64 (by1 : Int), .int .i64 (to : Int), .int .i64 (u : Int), .int .i64 seq, .bool true] 66))) := HT4.out.keep hb5
  have HX5 : Hid (Bx4 (w4.alloc (.cells #[.int .i64 (by1 : Int), .int .i64 (to : Int), .int .i64 (u : Int), .int .i64 seq, .bool true] 66)) W.heap.size (.slice a0 f.lk.length c0) (.slice a1 f.kn.length c1) (.slice a2 f.ow.length c2) (.slice a3 f.ln.length c3)) := HX4.out.below ((Below.refl _ _).alloc (Nat.le_refl _) _)
  have HC5 : Hid ((w4.alloc (.cells #[.int .i64 (by1 : Int), .int .i64 (to : Int), .int .i64 (u : Int), .int .i64 seq, .bool true] 66)).heap[W.heap.size + 1 + 1]? = some (.chan 1 #[] false 1 1 false)) := (((Below.refl _ w4).alloc (Nat.le_refl _) (.cells #[.int .i64 (by1 : Int), .int .i64 (to : Int), .int .i64 (u : Int), .int .i64 seq, .bool true] 66)).block _ (by omega)).trans HC4.out
  have hz5 : W.heap.size + 3 ≤ (w4.alloc (.cells #[.int .i64 (by1 : Int), .int .i64 (to : Int), .int .i64 (u : Int), .int .i64 seq, .bool true] 66)).heap.size := by simp; omega
  clear hb5 HF4 HT4 HX4 HC4 hbl b0 b1 b2 b3 b4 bf
  generalize (w4.alloc (.cells #[.int .i64 (by1 : Int), .int .i64 (to : Int), .int .i64 (u : Int), .int .i64 seq, .bool true] 66)) = w5 at *
  refine LoneTo.step (step_lone_send_room (c := W.heap.size + 1 + 1) (cap := 1) (buf := #[]) (s := 1) (r := 1) (tm := false) (stepG_comm (cases := #[scase (W.heap.size + 1 + 1) (.agg #[.int .i64 (by1 : Int), .int .i64 (to : Int), .int .i64 (u : Int), .int .i64 seq, .bool true]) (.tuple #[])]) (blocking := true) (shape := .send) (w' := w5) rfl rfl (by decide) (by simp [execOp, scase, Act.eval])) HC5.out (by simp)) ?_
  rw [Frame.finish_at]
  walk_nrm
  have hb6 : Below W.heap.size w5 (w5.setChan (W.heap.size + 1 + 1) 1 #[.agg #[.int .i64 (by1 : Int), .int .i64 (to : Int), .int .i64 (u : Int), .int .i64 seq, .bool true]] false 2 1 false) := below_setChan (Below.refl _ _) (by omega) _ _ _ _ _ _
  have HF6 : Hid (SF (w5.setChan (W.heap.size + 1 + 1) 1 #[.agg #[.int .i64 (by1 : Int), .int .i64 (to : Int), .int .i64 (u : Int), .int .i64 seq, .bool true]] false 2 1 false) B (.slice a0 f.lk.length c0) (.slice a1 f.kn.length c1) (.slice a2 f.ow.length c2) (.slice a3 f.ln.length c3) xs ys zs (takeE (debtsL n f.lk) f to u seq r) n) := h.keep HF5.out hb6
  have HT6 : Hid (Turned (InKO ys zs) W (w5.setChan (W.heap.size + 1 + 1) 1 #[.agg #[.int .i64 (by1 : Int), .int .i64 (to : Int), .int .i64 (u : Int), .int .i64 seq, .bool true]] false 2 1 false)) := HT5.out.keep hb6
  have HX6 : Hid (Bx4 (w5.setChan (W.heap.size + 1 + 1) 1 #[.agg #[.int .i64 (by1 : Int), .int .i64 (to : Int), .int .i64 (u : Int), .int .i64 seq, .bool true]] false 2 1 false) W.heap.size (.slice a0 f.lk.length c0) (.slice a1 f.kn.length c1) (.slice a2 f.ow.length c2) (.slice a3 f.ln.length c3)) := HX5.out.same (heap_setChan_ne _ _ _ _ _ _ _ (by omega)) (Nat.le_of_eq (size_setChan _ _ _ _ _ _ _ _).symm)
  have HC6 : Hid ((w5.setChan (W.heap.size + 1 + 1) 1 #[.agg #[.int .i64 (by1 : Int), .int .i64 (to : Int), .int .i64 (u : Int), .int .i64 seq, .bool true]] false 2 1 false).heap[W.heap.size + 1 + 1]? = some (.chan 1 #[.agg #[.int .i64 (by1 : Int), .int .i64 (to : Int), .int .i64 (u : Int), .int .i64 seq, .bool true]] false 2 1 false)) := heap_setChan _ _ _ _ _ _ _ _ (by omega)
  have hz6 : W.heap.size + 3 ≤ (w5.setChan (W.heap.size + 1 + 1) 1 #[.agg #[.int .i64 (by1 : Int), .int .i64 (to : Int), .int .i64 (u : Int), .int .i64 seq, .bool true]] false 2 1 false).heap.size := by rw [size_setChan]; exact hz5
  clear hb6 HF5 HT5 HX5 HC5 hz5
  generalize (w5.setChan (W.heap.size + 1 + 1) 1 #[.agg #[.int .i64 (by1 : Int), .int .i64 (to : Int), .int .i64 (u : Int), .int .i64 seq, .bool true]] false 2 1 false) = w6 at *
  refine LoneTo.goes (n := 60) ?_
  repeat (first | s_c stepG_seq | s_reg | s_c stepG_region_end | s_c stepG_block | s_c stepG_loop | s_c stepG_inLoop | s_c stepG_inBlock | s_c stepG_skip | s_cond true | s_cond false | s_exit | s_op)
  s_stop
  refine LoneTo.step (step_lone_select_recv_buf (c := W.heap.size + 1 + 1) (z := .agg #[.int .i64 0, .int .i64 0, .int .i64 0, .int .i64 0, .bool false]) (stepG_comm (cases := #[rcase (W.heap.size + 1 + 1) (.agg #[.int .i64 0, .int .i64 0, .int .i64 0, .int .i64 0, .bool false])]) (blocking := false) (shape := .select) (w' := w6) rfl rfl (by decide) (by simp [go_sem, execOp, rcase, Act.eval])) HC6.out (by simp)) ?_
  rw [Frame.finish_at]
  walk_nrm
  have hb7 : Below W.heap.size w6 (w6.setChan (W.heap.size + 1 + 1) 1 #[] false 2 2 false) := below_setChan (Below.refl _ _) (by omega) _ _ _ _ _ _
  have HF7 : Hid (SF (w6.setChan (W.heap.size + 1 + 1) 1 #[] false 2 2 false) B (.slice a0 f.lk.length c0) (.slice a1 f.kn.length c1) (.slice a2 f.ow.length c2) (.slice a3 f.ln.length c3) xs ys zs (takeE (debtsL n f.lk) f to u seq r) n) := h.keep HF6.out hb7
  have HT7 : Hid (Turned (InKO ys zs) W (w6.setChan (W.heap.size + 1 + 1) 1 #[] false 2 2 false)) := HT6.out.keep hb7
  have HX7 : Hid (Bx4 (w6.setChan (W.heap.size + 1 + 1) 1 #[] false 2 2 false) W.heap.size (.slice a0 f.lk.length c0) (.slice a1 f.kn.length c1) (.slice a2 f.ow.length c2) (.slice a3 f.ln.length c3)) := HX6.out.same (heap_setChan_ne _ _ _ _ _ _ _ (by omega)) (Nat.le_of_eq (size_setChan _ _ _ _ _ _ _ _).symm)
  have HC7 : Hid ((w6.setChan (W.heap.size + 1 + 1) 1 #[] false 2 2 false).heap[W.heap.size + 1 + 1]? = some (.chan 1 #[] false 2 2 false)) := heap_setChan _ _ _ _ _ _ _ _ (by omega)
  have hz7 : W.heap.size + 3 ≤ (w6.setChan (W.heap.size + 1 + 1) 1 #[] false 2 2 false).heap.size := by rw [size_setChan]; exact hz6
  have he : (#[.agg #[.int .i64 (by1 : Int), .int .i64 (to : Int), .int .i64 (u : Int), .int .i64 seq, .bool true]] : Array Value).extract 1 1 = #[] := by simp
  simp only [he]
  clear hb7 HF6 HT6 HX6 HC6 hz6 he
  generalize (w6.setChan (W.heap.size + 1 + 1) 1 #[] false 2 2 false) = w7 at *
  have hb8 : Below W.heap.size w7 (w7.alloc (.cells #[.int .i64 (by1 : Int), .int .i64 (to : Int), .int .i64 (u : Int), .int .i64 seq, .bool true] 66)) := (Below.refl _ _).alloc (by omega) _
  have HF8 : Hid (SF (w7.alloc (.cells #[.int .i64 (by1 : Int), .int .i64 (to : Int), .int .i64 (u : Int), .int .i64 seq, .bool true] 66)) B (.slice a0 f.lk.length c0) (.slice a1 f.kn.length c1) (.slice a2 f.ow.length c2) (.slice a3 f.ln.length c3) xs ys zs (takeE (debtsL n f.lk) f to u seq r) n) := h.keep HF7.out hb8
  have HT8 : Hid (Turned (InKO ys zs) W (w7.alloc (.cells #[.int .i64 (by1 : Int), .int .i64 (to : Int), .int .i64 (u : Int), .int .i64 seq, .bool true] 66))) := HT7.out.keep hb8
  have HX8 : Hid (Bx4 (w7.alloc (.cells #[.int .i64 (by1 : Int), .int .i64 (to : Int), .int .i64 (u : Int), .int .i64 seq, .bool true] 66)) W.heap.size (.slice a0 f.lk.length c0) (.slice a1 f.kn.length c1) (.slice a2 f.ow.length c2) (.slice a3 f.ln.length c3)) := HX7.out.below ((Below.refl _ _).alloc (Nat.le_refl _) _)
  have HC8 : Hid ((w7.alloc (.cells #[.int .i64 (by1 : Int), .int .i64 (to : Int), .int .i64 (u : Int), .int .i64 seq, .bool true] 66)).heap[W.heap.size + 1 + 1]? = some (.chan 1 #[] false 2 2 false)) := (((Below.refl _ w7).alloc (Nat.le_refl _) (.cells #[.int .i64 (by1 : Int), .int .i64 (to : Int), .int .i64 (u : Int), .int .i64 seq, .bool true] 66)).block _ (by omega)).trans HC7.out
  have hz8 : W.heap.size + 3 ≤ (w7.alloc (.cells #[.int .i64 (by1 : Int), .int .i64 (to : Int), .int .i64 (u : Int), .int .i64 seq, .bool true] 66)).heap.size := by simp; omega
  clear hb8 HF7 HT7 HX7 HC7
  obtain ⟨-, x0, x1, x2, x3, -⟩ := HX8.out
  refine LoneTo.goes (n := 40) ?_
  repeat (first | s_c stepG_seq | s_reg | s_c stepG_region_end | s_c stepG_block | s_c stepG_loop | s_c stepG_inLoop | s_c stepG_inBlock | s_c stepG_skip | s_cond true | s_cond false | s_exit | s_op)
  s_stop
  clear x0 x1 x2 x3
  generalize (w7.alloc (.cells #[.int .i64 (by1 : Int), .int .i64 (to : Int), .int .i64 (u : Int), .int .i64 seq, .bool true] 66)) = w8 at *
  clear hz7
  refine lone_calls #[.agg #[.slice a0 f.lk.length c0, .slice a1 f.kn.length c1, .slice a2 f.ow.length c2, .slice a3 f.ln.length c3], .agg #[.int .i64 (by1 : Int), .int .i64 (to : Int), .int .i64 (u : Int), .int .i64 seq, .bool true]] rfl rfl (by decide) rfl Try.func65 (by decide) rfl (by simp [Act.eval]) (CTA.out w8 HF8.out) ?_
  rintro e w9 ⟨rfl, h9, ht9⟩
  refine ⟨_, rfl, ?_⟩
  have HF9 : Hid (SF w9 B (.slice a0 f.lk.length c0) (.slice a1 f.kn.length c1) (.slice a2 f.ow.length c2) (.slice a3 f.ln.length c3) xs ys zs (takeA (takeE (debtsL n f.lk) f to u seq r) by1 u seq i) n) := h9
  have HT9 : Hid (Turned (InKO ys zs) W w9) := HT8.out.trans ht9
  have HC9 : Hid (w9.heap[W.heap.size + 1 + 1]? = some (.chan 1 #[] false 2 2 false)) := (ht9.block _ (by omega) (fun hb => by have := HLW _ hb; omega)).trans HC8.out
  clear h9 ht9 HF8 HT8 HX8 HC8 hz8
  walk_nrm
  refine LoneTo.goes (n := 60) ?_
  repeat (first | s_c stepG_seq | s_reg | s_c stepG_region_end | s_c stepG_block | s_c stepG_loop | s_c stepG_inLoop | s_c stepG_inBlock | s_c stepG_skip | s_cond true | s_cond false | s_exit | s_op)
  s_stop
  refine LoneTo.step (step_lone_select_default (c := W.heap.size + 1 + 1) (z := .agg #[.int .i64 0, .int .i64 0, .int .i64 0, .int .i64 0, .bool false]) (cap := 1) (s := 2) (r := 2) (tm := false) (stepG_comm (cases := #[rcase (W.heap.size + 1 + 1) (.agg #[.int .i64 0, .int .i64 0, .int .i64 0, .int .i64 0, .bool false])]) (blocking := false) (shape := .select) (w' := w9) rfl rfl (by decide) (by simp [go_sem, execOp, rcase, Act.eval])) HC9.out) ?_
  rw [Frame.finish_at]
  walk_nrm
  refine LoneTo.goes (n := 40) ?_
  repeat (first | s_c stepG_seq | s_reg | s_c stepG_region_end | s_c stepG_block | s_c stepG_loop | s_c stepG_inLoop | s_c stepG_inBlock | s_c stepG_skip | s_cond true | s_cond false | s_exit | s_c stepG_ret' | s_op)
  s_stop
  exact LoneTo.done ⟨.returned (.tuple #[]), _, rfl, ⟨⟨_, rfl⟩, HF9.out, HT9.out⟩, rfl, rfl, rfl, rfl, _, Try.func72, by simp [results, Try.f72, Frame.at]⟩
end Go.Proofs.Ytkkamigaolejiax
