/-
  A range over a function: what an iterator promises whose own body may range over another one; a region that draws its order within a round; a function that leaves with many marks.
-/
import Derived.Test.YthlbmkefjjckaadHand
import Derived.RangeFuncNested
import Derived.RangeFuncBound
import Derived.RangeFuncLeaves
import Derived.OrdersIn
import Derived.WalkKit
import Derived.OwnWalkIn
import Derived.TacticsInMore
import Derived.LoopNIn
import Derived.LoopIn
import Derived.Shelf.Abstract
namespace Go.Proofs.Ythlbmkefjjckaad
open Go.RowKit
set_option linter.unusedVariables false

section Held
variable {n : Nat} {P : Program} {ops : Array Oper} {Q : Exit → Act → World → Prop} {md : Region.Mode} {S : World → Prop}

/-- An operation that asks of no fence reads a value in every world of the kind. -/
def ReadsR (P : Program) (ops : Array Oper) (S : World → Prop) (o : Oper) (v : Value) (a : Act) : Prop :=
  (Region.wanted o (yielded ops a.tmps) = true ∧ ∀ w, S w → (execOp a.eval o).run P w = .ok (.value v) w) ∨ (Region.wanted o (yielded ops a.tmps) = false ∧ v = undef)
theorem ReadsR.same {o : Oper} {v : Value} {a a' : Act} (hy : ReadsR P ops S o v a) (he : execOp a'.eval o = execOp a.eval o) (hw : Region.wanted o (yielded ops a'.tmps) = Region.wanted o (yielded ops a.tmps)) : ReadsR P ops S o v a' := by
  unfold ReadsR
  rw [he, hw]
  exact hy
theorem ReadsR.op {i : Nat} {o : Oper} {v : Value} {a : Act} (hi : ops[i]? = some o) (hy : ReadsR P ops S o v a) {K : Act → World → Prop} {w : World} (hS : S w) (h : K (a.put o.dst v) w) : wpOpIn Fence.wide n P ops Q i K a w := by
  unfold wpOpIn
  rw [hi]
  dsimp only
  rcases hy with ⟨hw, hv⟩ | ⟨hw, rfl⟩
  · rw [if_pos hw]
    refine ⟨fun _ _ => trivial, ?_⟩
    rw [show Fence.wide.round = none from rfl, Oper.semAt_none, hv w hS]
    exact h
  · rw [if_neg (by rw [hw]; decide)]
    exact ⟨fun _ _ => trivial, h⟩
/-- A read and one that is apart from it: whichever comes first. -/
theorem ReadsR.past {j : Nat} {oi oj : Oper} {v : Value} (hj : ops[j]? = some oj) (hap : oi.apart ops oj = true) (hsi : ∀ cs b, oi.op ≠ .select cs b) (hsj : ∀ cs b, oj.op ≠ .select cs b)
    (hQ : ∀ c a w, Q (.panic c) (a.put oi.dst v) w → Q (.panic c) a w) {K : Act → World → Prop} {a : Act} {w : World} (hy : ReadsR P ops S oi v a) (h : wpOpIn Fence.wide n P ops Q j K (a.put oi.dst v) w) :
    wpOpIn Fence.wide n P ops Q j (fun a' w' => ReadsR P ops S oi v a' ∧ K (a'.put oi.dst v) w') a w := by
  obtain ⟨ap1, ap2, ap3⟩ := Oper.apart_spec hap
  have keep : ∀ b : Act, ReadsR P ops S oi v b → ∀ u, ReadsR P ops S oi v (b.put oj.dst u) := fun b hb u => hb.same (execOp_put oi hsi b oj.dst u ap3) (wanted_put oi b oj.dst u ap3)
  have hrun := execOp_put oj hsj a oi.dst v ap1
  have hwant := wanted_put oj a oi.dst v ap1
  unfold wpOpIn at h ⊢
  rw [hj] at h ⊢
  dsimp only at h ⊢
  rw [hwant] at h
  by_cases hw : Region.wanted oj (yielded ops a.tmps) = true
  · rw [if_pos hw] at h ⊢
    refine ⟨fun _ _ => trivial, ?_⟩
    have h2 := h.2
    rw [show Fence.wide.round = none from rfl, Oper.semAt_none] at h2 ⊢
    rw [hrun] at h2
    cases hr : (execOp a.eval oj).run P w with
    | halt x w' =>
      rw [hr] at h2
      cases x with
      | panic u => exact hQ _ _ _ h2
      | _ => exact h2
    | ok x w' =>
      rw [hr] at h2
      cases x with
      | value u => exact ⟨keep a hy u, by rw [← Act.put_comm a v u ap2]; exact h2⟩
      | skip => exact ⟨keep a hy _, by rw [← Act.put_comm a v undef ap2]; exact h2⟩
      | defer d =>
        refine ⟨keep { a with defers := d :: a.defers } (hy.same rfl rfl) _, ?_⟩
        rw [← Act.put_comm _ v undef ap2, ← Act.put_defers]
        exact h2
      | enter f vs =>
        refine ⟨h2.1, CallsIn.mono h2.2 fun e w'' he => ?_⟩
        cases e with
        | returned u => exact ⟨keep a hy u, by rw [← Act.put_comm a v u ap2]; exact he⟩
        | panicked c => exact hQ _ _ _ he
        | outgrown => exact he
      | row r vs => exact ⟨h2.1, RowsIn.mono h2.2 fun u w'' he => ⟨keep a hy u, by rw [← Act.put_comm a v u ap2]; exact he⟩⟩
      | round l f tmps assign body =>
        refine ⟨h2.1, RoundIn.mono h2.2 fun e w'' he => ?_⟩
        cases e with
        | returned u => exact ⟨keep a hy u, by rw [← Act.put_comm a v u ap2]; exact he⟩
        | panicked c => exact hQ _ _ _ he
        | outgrown => exact he
      | _ => exact h2
  · rw [if_neg hw] at h ⊢
    exact ⟨fun _ _ => trivial, keep a hy _, by rw [← Act.put_comm a v undef ap2]; exact h.2⟩

/-- Whatever comes up next, the kind of world is kept, as long as operation z has not come up. -/
def wpAnyR (n : Nat) (P : Program) (md : Region.Mode) (ops : Array Oper) (Q : Exit → Act → World → Prop) (S : World → Prop) (z : Nat) : Nat → Array Bool → Act → World → Prop
  | 0, listed, a, w => Region.ready md ops listed = [] ∧ Q .normal a w
  | m + 1, listed, a, w => (Region.ready md ops listed = [] → Q .normal a w) ∧ ∀ i ∈ Region.ready md ops listed, wpOpIn Fence.wide n P ops Q i (fun a' w' => (((listed.setIfInBounds i true).getD z true = true) ∨ S w') ∧ wpAnyR n P md ops Q S z m (listed.setIfInBounds i true) a' w') a w
theorem wpAnyR.any {z : Nat} : ∀ (m : Nat) (listed : Array Bool) (a : Act) (w : World), wpAnyR n P md ops Q S z m listed a w → wpAnyIn Fence.wide n P md ops Q m listed a w
  | 0, _, _, _, h => h
  | m + 1, _, _, _, h => ⟨h.1, fun i hi => wpOpIn_mono (fun a' w' h' => wpAnyR.any m _ a' w' h'.2) (h.2 i hi)⟩
/-- Those of T have not come up, and each waits for i or for one of T; z is one of them. -/
def waits (md : Region.Mode) (ops : Array Oper) (listed : Array Bool) (i z : Nat) (T : List Nat) : Bool :=
  T.contains z && !T.contains i && T.all fun t => !(listed.getD t true) && match ops[t]? with | none => false | some o => o.after.any fun e => Region.binds md e && (e.on == i || T.contains e.on)
theorem waits_not {listed : Array Bool} {i z : Nat} {T : List Nat} (h : waits md ops listed i z T = true) (hi : listed.getD i true = false) {j : Nat} (hj : j ∈ Region.ready md ops listed) : j ∉ T := fun hT => by
  unfold waits at h
  rw [Bool.and_eq_true, Bool.and_eq_true] at h
  have h1 := List.all_eq_true.1 h.2 j hT
  rw [Bool.and_eq_true] at h1
  obtain ⟨hun, oj, hoj, hall⟩ := mem_ready.1 hj
  have h2 := h1.2
  rw [hoj] at h2
  dsimp only at h2
  obtain ⟨e, he, hb⟩ := Array.any_eq_true'.1 h2
  rw [Bool.and_eq_true, Bool.or_eq_true] at hb
  have q1 := hall e he hb.1
  have q2 : listed.getD e.on true = false := by
    rcases hb.2 with q | q
    · rw [eq_of_beq q]; exact hi
    · have := List.all_eq_true.1 h.2 e.on (by simpa using q)
      rw [Bool.and_eq_true] at this
      simpa using this.1
  rcases Nat.lt_or_ge e.on listed.size with h' | h'
  · simp [h'] at q1 q2
    rw [q2] at q1
    cases q1
  · simp [Array.getElem?_eq_none h'] at q1
theorem waits_on {listed : Array Bool} {i z : Nat} {T : List Nat} (h : waits md ops listed i z T = true) {j : Nat} (hj : j ∉ T) : waits md ops (listed.setIfInBounds j true) i z T = true := by
  unfold waits at h ⊢
  rw [Bool.and_eq_true] at h ⊢
  refine ⟨h.1, List.all_eq_true.2 fun t ht => ?_⟩
  have h1 := List.all_eq_true.1 h.2 t ht
  rw [Bool.and_eq_true] at h1 ⊢
  refine ⟨?_, h1.2⟩
  rw [getD_set_ne true (fun e => hj (by rw [e]; exact ht))]
  exact h1.1
theorem waits_last {listed : Array Bool} {i z : Nat} {T : List Nat} (h : waits md ops listed i z T = true) : listed.getD z true = false := by
  unfold waits at h
  rw [Bool.and_eq_true, Bool.and_eq_true] at h
  have := List.all_eq_true.1 h.2 z (by simpa using h.1.1)
  rw [Bool.and_eq_true] at this
  simpa using this.1
theorem wpAnyR.first {i z : Nat} {T : List Nat} {oi : Oper} {v : Value} (hi : ops[i]? = some oi) (hsel : ∀ (j : Nat) (o : Oper) cs b, ops[j]? = some o → o.op ≠ .select cs b) (hQ : ∀ c a w, Q (.panic c) (a.put oi.dst v) w → Q (.panic c) a w) :
    ∀ (m : Nat) (listed : Array Bool) (a : Act) (w : World), (∀ j oj, ops[j]? = some oj → j ≠ i → listed.getD j true = false → (∀ e ∈ oj.after, Region.binds md e = true → e.on ≠ i) → oi.apart ops oj = true) →
      waits md ops listed i z T = true → i ∈ Region.ready md ops listed → ReadsR P ops S oi v a → S w → wpAnyR n P md ops Q S z m (listed.setIfInBounds i true) (a.put oi.dst v) w → wpAnyR n P md ops Q S z (m + 1) listed a w
  | 0, listed, a, w, _, hT, hr, hy, hS, H => by
    refine ⟨fun h => absurd hr (by rw [h]; exact List.not_mem_nil), fun j hj => ?_⟩
    by_cases e : j = i
    · rw [e]
      exact hy.op hi hS ⟨.inr hS, H⟩
    · have := ready_mono hj e
      rw [H.1] at this
      cases this
  | m + 1, listed, a, w, hfree, hT, hr, hy, hS, H => by
    refine ⟨fun h => absurd hr (by rw [h]; exact List.not_mem_nil), fun j hj => ?_⟩
    by_cases e : j = i
    · rw [e]
      exact hy.op hi hS ⟨.inr hS, H⟩
    · obtain ⟨hun, oj, hoj, hall⟩ := mem_ready.1 hj
      have hjT := waits_not hT (mem_ready.1 hr).1 hj
      have hT2 := waits_on hT hjT
      have hno : ∀ x ∈ oj.after, Region.binds md x = true → x.on ≠ i := fun x hx hb q => by
        have q1 := hall x hx hb
        have q2 := (mem_ready.1 hr).1
        rw [q] at q1
        rcases Nat.lt_or_ge i listed.size with h' | h'
        · simp [h'] at q1 q2
          rw [q2] at q1
          cases q1
        · simp [Array.getElem?_eq_none h'] at q1
      have h2 := ReadsR.past hoj (hfree j oj hoj e hun hno) (fun cs b => hsel i oi cs b hi) (fun cs b => hsel j oj cs b hoj) hQ hy (H.2 j (ready_mono hj e))
      refine wpOpIn_mono (fun a' w' h3 => ?_) h2
      have hS3 : S w' := by
        refine h3.2.1.resolve_left fun q => ?_
        rw [Array.setIfInBounds_comm _ _ (Ne.symm e)] at q
        rw [getD_set_ne true (fun q2 => ?_), waits_last hT2] at q
        · cases q
        · unfold waits at hT
          rw [Bool.and_eq_true, Bool.and_eq_true, q2] at hT
          have := hT.1.2
          rw [hT.1.1] at this
          cases this
      refine ⟨.inr hS3, wpAnyR.first hi hsel hQ m (listed.setIfInBounds j true) a' w' (fun k ok hk hki hku hkn => hfree k ok hk hki ?_ hkn) hT2 (ready_mono hr (Ne.symm e)) h3.1 hS3 ?_⟩
      · by_cases q : j = k
        · rw [← q]; exact hun
        · rwa [getD_set_ne true q] at hku
      · rw [Array.setIfInBounds_comm _ _ e]
        exact h3.2.2
theorem wpAnyR.done {z : Nat} {listed : Array Bool} {a : Act} {w : World} (hr : Region.ready md ops listed = []) (h : Q .normal a w) : ∀ m, wpAnyR n P md ops Q S z m listed a w
  | 0 => ⟨hr, h⟩
  | _ + 1 => ⟨fun _ => h, by rw [hr]; simp⟩

/-- All that wait for i. -/
def laterOf (md : Region.Mode) (ops : Array Oper) (listed : Array Bool) (i : Nat) : List Nat :=
  (List.range ops.size).foldl (fun T t => if !(listed.getD t true) && match ops[t]? with | none => false | some o => o.after.any fun e => Region.binds md e && (e.on == i || T.contains e.on) then T ++ [t] else T) []
/-- Take operation i first: it is not wanted. -/
theorem roundSkip (i : Nat) (d : Option Tmp) {z : Nat} {oi : Oper} {m : Nat} {listed : Array Bool} {a : Act} {w : World} (hi : ops[i]? = some oi) (hd : oi.dst = d)
    (hs : Region.noSelect ops = true) (hf : Region.free md ops listed i = true) (hT : waits md ops listed i z (laterOf md ops listed i) = true) (hr : (Region.ready md ops listed).contains i = true)
    (hQ : ∀ c a w, Q (.panic c) (a.put d undef) w → Q (.panic c) a w) (hw : Region.wanted oi (yielded ops a.tmps) = false) (hS : S w)
    (h : wpAnyR n P md ops Q S z m (listed.setIfInBounds i true) (a.put d undef) w) : wpAnyR n P md ops Q S z (m + 1) listed a w := by
  subst hd
  exact wpAnyR.first hi (Region.noSelect_spec hs) hQ m listed a w (Region.free_spec hi hf) hT (by simpa using hr) (Or.inr ⟨hw, rfl⟩) hS h
/-- Take operation i first: it reads. -/
theorem roundRead (i : Nat) (d : Option Tmp) (v : Value) {z : Nat} {oi : Oper} {m : Nat} {listed : Array Bool} {a : Act} {w : World} (hi : ops[i]? = some oi) (hd : oi.dst = d)
    (hs : Region.noSelect ops = true) (hf : Region.free md ops listed i = true) (hT : waits md ops listed i z (laterOf md ops listed i) = true) (hr : (Region.ready md ops listed).contains i = true)
    (hQ : ∀ c a w, Q (.panic c) (a.put d v) w → Q (.panic c) a w) (hw : Region.wanted oi (yielded ops a.tmps) = true) (hS : S w)
    (hy : ∀ w, S w → (execOp a.eval oi).run P w = .ok (.value v) w)
    (h : wpAnyR n P md ops Q S z m (listed.setIfInBounds i true) (a.put d v) w) : wpAnyR n P md ops Q S z (m + 1) listed a w := by
  subst hd
  exact wpAnyR.first hi (Region.noSelect_spec hs) hQ m listed a w (Region.free_spec hi hf) hT (by simpa using hr) (Or.inl ⟨hw, hy⟩) hS h
/-- Only operation i may come up, and it is what it is. -/
theorem roundOnly (i : Nat) {z : Nat} {o : Oper} {m : Nat} {listed : Array Bool} {a : Act} {w : World}
    (hr : Region.ready md ops listed = [i]) (hi : ops[i]? = some o) (hz : (listed.setIfInBounds i true).getD z true = true ∨ ∀ w', S w') (hw : Region.wanted o (yielded ops a.tmps) = true)
    (h : o.uponIn Fence.wide n P a (fun a' w' => wpAnyR n P md ops Q S z m (listed.setIfInBounds i true) a' w') Q ((execOp a.eval o).run P w)) : wpAnyR n P md ops Q S z (m + 1) listed a w := by
  refine ⟨fun h0 => absurd h0 (by rw [hr]; simp), fun j hj => ?_⟩
  rw [hr] at hj
  obtain rfl : j = i := by simpa using hj
  refine wpOpIn_mono (K := fun a' w' => wpAnyR n P md ops Q S z m (listed.setIfInBounds j true) a' w') (fun a' w' h' => ⟨hz.imp id fun q => q w', h'⟩) ?_
  unfold wpOpIn
  rw [hi]
  dsimp only
  rw [if_pos hw]
  exact ⟨fun _ _ => trivial, h⟩
/-- .. a store. -/
theorem roundStore (i : Nat) (d : Option Tmp) (w' : World) {z : Nat} {o : Oper} {m : Nat} {listed : Array Bool} {a : Act} {w : World}
    (hr : Region.ready md ops listed = [i]) (hi : ops[i]? = some o) (hd : o.dst = d) (hz : (listed.setIfInBounds i true).getD z true = true ∨ ∀ w', S w') (hw : Region.wanted o (yielded ops a.tmps) = true)
    (hrun : (execOp a.eval o).run P w = .ok .skip w') (h : wpAnyR n P md ops Q S z m (listed.setIfInBounds i true) (a.put d undef) w') : wpAnyR n P md ops Q S z (m + 1) listed a w := by
  subst hd
  refine roundOnly i hr hi hz hw ?_
  rw [hrun]
  exact h
/-- .. a value. -/
theorem roundValue (i : Nat) (d : Option Tmp) (v : Value) (w' : World) {z : Nat} {o : Oper} {m : Nat} {listed : Array Bool} {a : Act} {w : World}
    (hr : Region.ready md ops listed = [i]) (hi : ops[i]? = some o) (hd : o.dst = d) (hz : (listed.setIfInBounds i true).getD z true = true ∨ ∀ w', S w') (hw : Region.wanted o (yielded ops a.tmps) = true)
    (hrun : (execOp a.eval o).run P w = .ok (.value v) w') (h : wpAnyR n P md ops Q S z m (listed.setIfInBounds i true) (a.put d v) w') : wpAnyR n P md ops Q S z (m + 1) listed a w := by
  subst hd
  refine roundOnly i hr hi hz hw ?_
  rw [hrun]
  exact h
/-- .. a call of a Go function. -/
theorem roundCall (i : Nat) (d : Option Tmp) (f : FuncId) (vs : Array Value) {z : Nat} {o : Oper} {m : Nat} {listed : Array Bool} {a : Act} {w : World}
    (hr : Region.ready md ops listed = [i]) (hi : ops[i]? = some o) (hd : o.dst = d) (hw : Region.wanted o (yielded ops a.tmps) = true)
    (hrun : (execOp a.eval o).run P w = .ok (.enter f vs) w) (hc : Calls P f vs w fun e w' => ∃ v, e = .returned v ∧ S w' ∧ (S w' → wpAnyR n P md ops Q S z m (listed.setIfInBounds i true) (a.put d v) w')) : wpAnyR n P md ops Q S z (m + 1) listed a w := by
  subst hd
  refine ⟨fun h0 => absurd h0 (by rw [hr]; simp), fun j hj => ?_⟩
  rw [hr] at hj
  obtain rfl : j = i := by simpa using hj
  unfold wpOpIn
  rw [hi]
  dsimp only
  rw [if_pos hw]
  refine ⟨fun _ _ => trivial, ?_⟩
  rw [show Fence.wide.round = none from rfl, Oper.semAt_none, hrun]
  refine ⟨fun h => (by cases h), (callsIn_wide.2 hc).mono ?_⟩
  rintro e w' ⟨v, rfl, hS, h⟩
  exact ⟨.inr hS, h hS⟩
/-- .. a call of yield. -/
theorem roundYield (i : Nat) (d : Option Tmp) (l : Nat) (vs : Array Value) {z : Nat} {o : Oper} {m : Nat} {listed : Array Bool} {a : Act} {w : World} {fn : FuncId} {tmps : Array Value} {assign body : Code}
    (hr : Region.ready md ops listed = [i]) (hi : ops[i]? = some o) (hd : o.dst = d) (hz : (listed.setIfInBounds i true).getD z true = true ∨ ∀ w', S w') (hw : Region.wanted o (yielded ops a.tmps) = true)
    (hy : (Instr.yield l vs).run P w = .ok (.round l fn tmps assign body) w) (hrun : (Instr.yield l vs).run P w = .ok (.round l fn tmps assign body) w → (execOp a.eval o).run P w = .ok (.round l fn tmps assign body) w)
    (hc : RoundIn Fence.wide (n - 1) P l fn tmps assign body w fun e w' => ∃ v, e = .returned v ∧ wpAnyR n P md ops Q S z m (listed.setIfInBounds i true) (a.put d v) w') : wpAnyR n P md ops Q S z (m + 1) listed a w := by
  subst hd
  refine roundOnly i hr hi hz hw ?_
  rw [hrun hy]
  refine ⟨fun h => (by cases h), hc.mono ?_⟩
  rintro e w' ⟨v, rfl, h⟩
  exact h
/-- Only operation i may come up, and it is not wanted. -/
theorem roundOff (i : Nat) (d : Option Tmp) {z : Nat} {o : Oper} {m : Nat} {listed : Array Bool} {a : Act} {w : World}
    (hr : Region.ready md ops listed = [i]) (hi : ops[i]? = some o) (hd : o.dst = d) (hw : Region.wanted o (yielded ops a.tmps) = false) (hS : S w)
    (h : wpAnyR n P md ops Q S z m (listed.setIfInBounds i true) (a.put d undef) w) : wpAnyR n P md ops Q S z (m + 1) listed a w := by
  subst hd
  refine ⟨fun h0 => absurd h0 (by rw [hr]; simp), fun j hj => ?_⟩
  rw [hr] at hj
  obtain rfl : j = i := by simpa using hj
  unfold wpOpIn
  rw [hi]
  dsimp only
  rw [if_neg (by rw [hw]; decide)]
  exact ⟨fun _ _ => trivial, .inr hS, h⟩
end Held

/-- No operation of the region is a defer. -/
def noDefer (ops : Array Oper) : Bool := ops.all fun o => match o.op with | .defer _ => false | _ => true
theorem noDefer_at {ops : Array Oper} (h : noDefer ops = true) {i : Nat} {o : Oper} (hi : ops[i]? = some o) (c : Call) : o.op ≠ .defer c := fun e => by
  unfold noDefer at h
  rw [Array.all_eq_true] at h
  obtain ⟨hlt, hi⟩ := Array.getElem?_eq_some_iff.1 hi
  have := h i hlt
  rw [hi, e] at this
  cases this
/-- Operations that are no defer are run in a round as out of it. -/
theorem ops_inRound {n : Nat} {P : Program} {ops : Array Oper} {Q : Exit → Act → World → Prop} (hd : noDefer ops = true) (l : Nat) : ∀ (is : List Nat) (a : Act) (w : World), wpOpsIn Fence.wide n P ops Q is a w → wpOpsIn (Fence.wide.inRound l) n P ops Q is a w
  | [], _, _, h => h
  | i :: r, a, w, h => by
    rw [wpOpsIn_cons] at h ⊢
    have h1 := wpOpIn_mono (fun a' w' h' => ops_inRound hd l r a' w' h') h
    unfold wpOpIn at h1 ⊢
    cases ho : ops[i]? with
    | none => rw [ho] at h1; exact h1
    | some o =>
      rw [ho] at h1
      dsimp only at h1 ⊢
      by_cases hw : Region.wanted o (yielded ops a.tmps) = true
      · rw [if_pos hw] at h1 ⊢
        refine ⟨h1.1, ?_⟩
        have h2 := h1.2
        rw [Oper.semAt_eq _ _ _ (noDefer_at hd ho)] at h2 ⊢
        exact h2
      · rw [if_neg hw] at h1 ⊢
        exact h1
/-- A region that draws its order, in a round. -/
theorem region_inRound {n : Nat} {P : Program} {ops : Array Oper} {Q : Exit → Act → World → Prop} {S : World → Prop} (z : Nat) {id l : Nat} {a : Act} {w : World} (hm : P.follows .mixedOrders = true) (hd : noDefer ops = true) (hS : S w.drew)
    (h : S w.drew → wpAnyR n P .any ops Q S z ops.size (Array.replicate ops.size false) a w.drew) : (Code.region id ops true).wpIn (Fence.wide.inRound l) n P Q a w :=
  wpIn_region_draw fun t => by
    simp only [Region.schedule, hm, Bool.true_or, if_true]
    exact ops_inRound hd l _ _ _ (wpAnyIn_sound ops.size t _ a _ (wpAnyR.any _ _ _ _ (h hS)))
/-- .. out of a round. -/
theorem region_outRound {n : Nat} {P : Program} {ops : Array Oper} {Q : Exit → Act → World → Prop} {S : World → Prop} (z : Nat) {id : Nat} {a : Act} {w : World} (hm : P.follows .mixedOrders = true) (hS : S w.drew)
    (h : S w.drew → wpAnyR n P .any ops Q S z ops.size (Array.replicate ops.size false) a w.drew) : (Code.region id ops true).wpIn Fence.wide n P Q a w :=
  wpIn_region_draw fun t => by
    simp only [Region.schedule, hm, Bool.true_or, if_true]
    exact wpAnyIn_sound ops.size t _ a _ (wpAnyR.any _ _ _ _ (h hS))

theorem wide_fn (f : FuncId) : Fence.wide.fn f := trivial
/-- Depths don't matter at the wide fence. -/
theorem roundIn_any {n m : Nat} {P : Program} {l : Nat} {f : FuncId} {tmps : Array Value} {assign body : Code} {w : World} {R : Ending → World → Prop} (h : RoundIn Fence.wide n P l f tmps assign body w R) : RoundIn Fence.wide m P l f tmps assign body w R :=
  ⟨trivial, fun c cs _ => h.2 c cs (room_wide _)⟩
/-- A call of yield, at whatever depth. -/
def YieldW (P : Program) (l : Nat) (args : Array Value) (W : World) (R : Ending → World → Prop) : Prop :=
  ∃ fn tmps assign body, (Instr.yield l args).run P W = .ok (.round l fn tmps assign body) W ∧ ∀ m, RoundIn Fence.wide m P l fn tmps assign body W R
theorem below_grown {W W' : World} (h : Below W.heap.size W W') : W.grownBy W' none := ⟨h.os, h.tape, h.output, h.size, fun k hk _ => h.block k hk⟩
theorem own_on {β : Type} {B : Nat} {I : β → World → Prop} (h : OwnFrom B I) {s : β} {W W' : World} (hs : I s W) (hb : Below W.heap.size W W') : I s W' := h s W W' none hs (below_grown hb) (fun r e => by cases e)

/-- Blocks that are the caller's, in worlds as he keeps them: none that is new is one; what keeps cells and turns none of them makes none. -/
structure MineOk {β : Type} (B : Nat) (J : β → World → Prop) (Mine : World → Nat → Prop) : Prop where
  lt : ∀ s W b, J s W → Mine W b → b < W.heap.size
  step : ∀ s W W' row b, J s W → B ≤ W.heap.size → W.grownBy W' row → (∀ r, row = some r → B ≤ r ∧ ∃ o : Obj, W.heap[r]? = some o ∧ o.isCells = false) → Mine W' b → Mine W b
theorem MineOk.mono {β β' : Type} {B B' : Nat} {J : β → World → Prop} {J' : β' → World → Prop} {Mine : World → Nat → Prop} (h : MineOk B J Mine) (hB : B ≤ B') (hJ : ∀ s W, J' s W → ∃ s', J s' W) : MineOk B' J' Mine :=
  ⟨fun s W b hs hm => let ⟨s', h'⟩ := hJ s W hs; h.lt s' W b h' hm, fun s W W' row b hs hW hg hr hm => let ⟨s', h'⟩ := hJ s W hs; h.step s' W W' row b h' (Nat.le_trans hB hW) hg (fun r e => ⟨Nat.le_trans hB (hr r e).1, (hr r e).2⟩) hm⟩
theorem MineOk.below {β : Type} {B : Nat} {J : β → World → Prop} {Mine : World → Nat → Prop} (h : MineOk B J Mine) {s : β} {W W' : World} (hs : J s W) (hW : B ≤ W.heap.size) (hb : Below W.heap.size W W') {b : Nat} (hm : ¬ Mine W b) : ¬ Mine W' b := fun q =>
  hm (h.step s W W' none b hs hW (below_grown hb) (fun r e => by cases e) q)
/-- A block that is new is nobody's yet. -/
theorem MineOk.new {β : Type} {B : Nat} {J : β → World → Prop} {Mine : World → Nat → Prop} (h : MineOk B J Mine) {s : β} {W W' : World} (hs : J s W) (hW : B ≤ W.heap.size) (hb : Below W.heap.size W W') {b : Nat} (hn : W.heap.size ≤ b) : ¬ Mine W' b :=
  h.below hs hW hb fun q => by have := h.lt s W b hs q; omega
/-- All cells lie as they lay but the caller's. -/
def KeptBut (Mine : World → Nat → Prop) (W W' : World) : Prop := W.heap.size ≤ W'.heap.size ∧ ∀ b o, W.heap[b]? = some o → o.isCells = true → ¬ Mine W b → W'.heap[b]? = some o ∧ ¬ Mine W' b
theorem KeptBut.refl (Mine : World → Nat → Prop) (W : World) : KeptBut Mine W W := ⟨Nat.le_refl _, fun _ _ h _ hm => ⟨h, hm⟩⟩
theorem KeptBut.trans {Mine : World → Nat → Prop} {A B C : World} (h : KeptBut Mine A B) (k : KeptBut Mine B C) : KeptBut Mine A C :=
  ⟨Nat.le_trans h.1 k.1, fun b o hb ho hm => let q := h.2 b o hb ho hm; k.2 b o q.1 ho q.2⟩
theorem KeptBut.grown {β : Type} {B : Nat} {J : β → World → Prop} {Mine : World → Nat → Prop} (hM : MineOk B J Mine) {s : β} {W W' : World} {row : Option Nat} (hs : J s W) (hW : B ≤ W.heap.size) (hg : W.grownBy W' row) (hr : ∀ r, row = some r → B ≤ r ∧ ∃ o : Obj, W.heap[r]? = some o ∧ o.isCells = false) : KeptBut Mine W W' :=
  ⟨hg.size, fun b o hb ho hm => ⟨(hg.block b (Array.getElem?_eq_some_iff.1 hb).1 (fun e => by
    obtain ⟨-, o', h1, h2⟩ := hr b e.symm
    rw [hb] at h1
    cases h1
    rw [ho] at h2
    cases h2)).trans hb, fun q => hm (hM.step s W W' row b hs hW hg hr q)⟩⟩
theorem KeptBut.below {β : Type} {B : Nat} {J : β → World → Prop} {Mine : World → Nat → Prop} (hM : MineOk B J Mine) {s : β} {W W' : World} (hs : J s W) (hW : B ≤ W.heap.size) (hb : Below W.heap.size W W') : KeptBut Mine W W' := KeptBut.grown hM hs hW (below_grown hb) (fun r e => by cases e)
theorem cells_of_cell {W : World} {p : Addr} {u : Value} (h : W.cell? p = some u) : ∃ o, W.heap[p.block]? = some o ∧ o.isCells = true := by
  unfold World.cell? at h
  cases ho : W.heap[p.block]? with
  | none => simp [ho] at h
  | some o => exact ⟨o, rfl, by cases o <;> simp_all [Obj.isCells]⟩
theorem KeptBut.cell {Mine : World → Nat → Prop} {A B : World} (h : KeptBut Mine A B) {p : Addr} {u : Value} (hc : A.cell? p = some u) (hm : ¬ Mine A p.block) : B.cell? p = some u := by
  obtain ⟨o, ho, hcs⟩ := cells_of_cell hc
  have := (h.2 p.block o ho hcs hm).1
  exact (World.cell?_of_block (this.trans ho.symm)).trans hc

/-- What an iterator promises that hands over just xs, to whoever leaves it its cells (those of S, and what it makes): whatever keeps to its own cells. -/
def SeqO {α : Type} (P : Program) (g : Nat) (lb : Array Value) (encs : α → Array Value) (S : Nat → Prop) (xs : List α) (w : World) : Prop :=
  ∀ (l : Nat) (J Jx : List α → World → Prop) (Mine : World → Nat → Prop) (W : World), Below w.heap.size w W → OwnFrom W.heap.size J → OwnFrom W.heap.size Jx → MineOk W.heap.size J Mine → (∀ b, S b → ¬ Mine W b) →
    (∀ pre x W1, J pre W1 → pre ++ [x] <+: xs → YieldW P l (encs x) W1 fun e W' => (e = .returned (.bool true) ∧ J (pre ++ [x]) W' ∧ KeptBut Mine W1 W' ∧ KeepsFrom W.heap.size W1 W') ∨ (e = .returned (.bool false) ∧ Jx (pre ++ [x]) W' ∧ KeepsFrom W.heap.size W1 W')) →
    J [] W → CallsIn Fence.wide 9 P g (#[.func (.yield l) #[] #[]] ++ lb) W fun e W' => (∃ v, e = .returned v) ∧ (J xs W' ∨ ∃ pre, Jx pre W')

theorem ownFrom_mono {β : Type} {B B' : Nat} {I : β → World → Prop} (h : OwnFrom B I) (hB : B ≤ B') : OwnFrom B' I := fun s A A' row hs hg hr => h s A A' row hs hg fun r e => ⟨Nat.le_trans hB (hr r e).1, (hr r e).2⟩
theorem keepsFrom_mono {B B' : Nat} {W W' : World} (h : KeepsFrom B W W') (hB : B ≤ B') : KeepsFrom B' W W' := ⟨h.size, fun k o hk h0 ho => h.same k o (Nat.le_trans hB hk) h0 ho⟩
/-- How a round may be left. -/
def roundPostO {α : Type} (B : Nat) (Mine : World → Nat → Prop) (I : List α → World → Prop) (Ix : Code → List α → World → Prop) (xs : List α) (W : World) : Exit → Act → World → Prop
  | .normal, _, W' => KeepsFrom B W W' ∧ KeptBut Mine W W' ∧ I xs W'
  | .ret, _, W' => KeepsFrom B W W' ∧ Ix .ret xs W'
  | _, _, _ => False

/-- **A loop over an iterator, outermost.** -/
theorem wp_range {α : Type} {P : Program} {g : Operand} {ps : Array Tmp} {assign body : Code} {Q : Exit → Act → World → Prop} {a : Act} {w w0 : World} {gf : Nat} {lb : Array Value} {encs : α → Array Value} {S : Nat → Prop} {xs : List α}
    (hg : a.eval g = .func (.func gf) #[] lb) (eg : ∀ args w, (callFunc gf args).run P w = .ok (.enter gf args) w) (hseq : SeqO P gf lb encs S xs w0) (hb0 : Below w0.heap.size w0 w)
    (I : List α → World → Prop) (Mine : World → Nat → Prop) (hM : MineOk w.heap.size I Mine) (hS : ∀ b, S b → ¬ Mine w b) (hps : ∀ x, (encs x).size = ps.size)
    (Ix : Code → List α → World → Prop) (hI : OwnFrom w.heap.size I) (hIx : ∀ c, OwnFrom w.heap.size (Ix c)) (h0 : I [] w) (a₁ : α → Act)
    (hassign : ∀ (l : Nat) (x : α) (W : World) (K : Act → World → Prop), K (a₁ x) W →
      assign.wpIn (Fence.wide.inRound l) 9 P (Exit.then K (fun _ _ _ => False)) { tmps := (ps.zip (encs x)).foldl (fun t (p, v) => t.setIfInBounds p v) a.tmps, defers := [] } W)
    (hbody : ∀ (l : Nat) (pre : List α) (x : α) (W : World), I pre W → pre ++ [x] <+: xs → w.heap.size ≤ W.heap.size → body.wpIn (Fence.wide.inRound l) 9 P (roundPostO w.heap.size Mine I Ix (pre ++ [x]) W) (a₁ x) W)
    (hdone : ∀ (D : Nat) (W : World), w.heap.size ≤ D → I xs W → W.heap[D]? = some (.deferred (some [])) → Q .normal { a with defers := { target := .collected D, args := #[] } :: a.defers } W)
    (hstop : ∀ (D : Nat) (c : Code) (pre : List α) (W : World), w.heap.size ≤ D → Ix c pre W → W.heap[D]? = some (.deferred (some [])) → c.wpIn Fence.wide 9 P Q { a with defers := { target := .collected D, args := #[] } :: a.defers } W) :
    (Code.rangeFunc g ps assign body).wpIn Fence.wide 9 P Q a w := by
  refine wpIn_rangeFunc fun fn hfn => ?_
  obtain ⟨rec, hrec⟩ : ∃ rec : LoopState → Option Code → Loop, rec = fun st pe => { state := st, pending := pe, fn, tmps := a.tmps, params := ps, assign, body, defers := w.heap.size } := ⟨_, rfl⟩
  have hout := run_enterLoop_outer (P := P) (w := w) fn a.tmps ps assign body
  obtain ⟨W1, hW1⟩ : ∃ W1, (w.alloc (.deferred (some []))).alloc (.loop (rec .ready none)) = W1 := ⟨_, rfl⟩
  have hL1 : W1.heap[w.heap.size + 1]? = some (.loop (rec .ready none)) := by
    have := World.alloc_heap_new (w.alloc (.deferred (some []))) (.loop (rec .ready none))
    rwa [World.size_alloc, hW1] at this
  have hK1 : W1.heap[w.heap.size]? = some (.deferred (some [])) := by
    rw [← hW1]
    exact (Below.heap_alloc _ _ _ (by rw [World.size_alloc]; omega)).trans (World.alloc_heap_new w _)
  have hsz1 : W1.heap.size = w.heap.size + 2 := by rw [← hW1]; simp
  have hb1 : Below w.heap.size w W1 := by
    rw [← hW1]
    exact ((Below.refl _ w).alloc (Nat.le_refl _) _).alloc (by rw [World.size_alloc]; omega) _
  have hI1 : I [] W1 := own_on hI h0 hb1
  -- what the record says at its state
  obtain ⟨At, hAt⟩ : ∃ At : LoopState → Option Code → World → Prop, At = fun st pe W => W.heap[w.heap.size + 1]? = some (.loop (rec st pe)) ∧ W.heap[w.heap.size]? = some (.deferred (some [])) := ⟨_, rfl⟩
  have hAown : ∀ (st : LoopState) (pe : Option Code) (A B : World) (row : Option Nat), At st pe A → A.grownBy B row → (∀ r, row = some r → W1.heap.size ≤ r ∧ ∃ o : Obj, A.heap[r]? = some o ∧ o.isCells = false) → At st pe B := by
    intro st pe A B row h hgr hr
    rw [hAt] at h ⊢
    have hne : ∀ k, k < w.heap.size + 2 → some k ≠ row := fun k hk e => by
      have := (hr k e.symm).1
      omega
    have l1 := (Array.getElem?_eq_some_iff.1 h.1).1
    have l2 := (Array.getElem?_eq_some_iff.1 h.2).1
    exact ⟨(hgr.block _ l1 (hne _ (by omega))).trans h.1, (hgr.block _ l2 (hne _ (by omega))).trans h.2⟩
  have hlift : ∀ {A : World} {row : Option Nat}, (∀ r, row = some r → W1.heap.size ≤ r ∧ ∃ o : Obj, A.heap[r]? = some o ∧ o.isCells = false) → (∀ r, row = some r → w.heap.size ≤ r ∧ ∃ o : Obj, A.heap[r]? = some o ∧ o.isCells = false) := fun h r e => ⟨by have := (h r e).1; omega, (h r e).2⟩
  refine ⟨w.heap.size + 1, [{ target := .collected w.heap.size, args := #[] }], W1, { target := .fn (.func gf) lb, args := #[.func (.yield (w.heap.size + 1)) #[] #[]] }, W1, gf, #[.func (.yield (w.heap.size + 1)) #[] #[]] ++ lb, W1, ?_, ?_, fun _ _ => trivial, ?_, (fun h => by cases h), ?_⟩
  · rw [← hW1, hrec]
    exact hout
  · simp only [resolve, hg]
    simp [go_sem]
  · simp [invoke, go_sem, eg]
  · have hcall := hseq (w.heap.size + 1) (fun pre W => I pre W ∧ At .ready none W) (fun pre W => ∃ c, Ix c pre W ∧ At .done (some c) W) Mine W1
      (hb0.trans (hb1.mono hb0.size))
      (fun s A B row hs hgr hr => ⟨hI s A B row hs.1 hgr (hlift hr), hAown _ _ A B row hs.2 hgr hr⟩)
      (fun s A B row hs hgr hr => by
        obtain ⟨c, h1, h2⟩ := hs
        exact ⟨c, hIx c s A B row h1 hgr (hlift hr), hAown _ _ A B row h2 hgr hr⟩)
      (hM.mono (by omega) fun s _ h => ⟨s, h.1⟩) (fun b hb => hM.below h0 (Nat.le_refl _) hb1 (hS b hb))
      ?_ ⟨hI1, by rw [hAt]; exact ⟨hL1, hK1⟩⟩
    · refine CallsIn.mono (callsIn_wide.2 (callsIn_wide.1 hcall)) ?_
      rintro e W2 ⟨⟨v, rfl⟩, (⟨hi, hat⟩ | ⟨pre, c, hi, hat⟩)⟩
      · rw [hAt] at hat
        have hend := run_endLoop (P := P) hat.1 (by rw [hrec]; simp)
        rw [show (rec .ready none).pending = none by rw [hrec]] at hend
        exact ⟨none, _, hend, hdone w.heap.size _ (Nat.le_refl _) (hI.putObj _ hi (by omega) hat.1 rfl) ((World.putObj_heap_other (by omega)).trans hat.2)⟩
      · rw [hAt] at hat
        have hend := run_endLoop (P := P) hat.1 (by rw [hrec]; simp)
        rw [show (rec .done (some c)).pending = some c by rw [hrec]] at hend
        exact ⟨some c, _, hend, hstop w.heap.size c pre _ (Nat.le_refl _) ((hIx c).putObj _ hi (by omega) hat.1 rfl) ((World.putObj_heap_other (by omega)).trans hat.2)⟩
    · rintro pre x W ⟨hi, hat⟩ hpre
      rw [hAt] at hat
      have hlt : w.heap.size + 1 < W.heap.size := (Array.getElem?_eq_some_iff.1 hat.1).1
      have hy := run_yield (P := P) (args := encs x) hat.1 (by rw [hrec]; exact hps x)
      rw [hrec] at hy
      refine ⟨fn, _, assign, body, hy, fun m => roundIn_any (n := 9) (roundIn_of_wpIn hfn (hassign _ x W _ ⟨_, run_beginRound hat.1 (by rw [hrec]), ?_⟩))⟩
      have hl2 : (W.putObj (w.heap.size + 1) (.loop { rec .ready none with state := .busy })).heap[w.heap.size + 1]? = some (.loop { rec .ready none with state := .busy }) := World.putObj_heap_same hlt
      have hk2 : (W.putObj (w.heap.size + 1) (.loop { rec .ready none with state := .busy })).heap[w.heap.size]? = some (.deferred (some [])) := (World.putObj_heap_other (by omega)).trans hat.2
      have hKb : ∀ (s : List α) (A : World) (o o' : Obj), I s A → w.heap.size ≤ A.heap.size → A.heap[w.heap.size + 1]? = some o → o.isCells = false → KeptBut Mine A (A.putObj (w.heap.size + 1) o') := fun s A o o' hs hA ho hc =>
        KeptBut.grown hM hs hA (grownBy_putObj' A (w.heap.size + 1) o') (fun r e => by cases e; exact ⟨by omega, o, ho, hc⟩)
      have hw2 : KeptBut Mine W (W.putObj (w.heap.size + 1) (.loop { rec .ready none with state := .busy })) := hKb _ _ _ _ hi (by omega) hat.1 rfl
      refine wpIn_mono (hbody _ pre x _ (hI.putObj _ hi (by omega) hat.1 rfl) hpre (by rw [World.putObj_size]; omega)) ?_
      have hend : ∀ (jump : Option Code) (W3 : World), KeepsFrom w.heap.size (W.putObj (w.heap.size + 1) (.loop { rec .ready none with state := .busy })) W3 →
          (Instr.endRound (w.heap.size + 1) jump).run P W3 = .ok (.bool jump.isNone) (W3.putObj (w.heap.size + 1) (.loop (rec (if jump.isNone then .ready else .done) jump))) ∧ W3.heap[w.heap.size + 1]? = some (.loop { rec .ready none with state := .busy }) ∧
          At (if jump.isNone then .ready else .done) jump (W3.putObj (w.heap.size + 1) (.loop (rec (if jump.isNone then .ready else .done) jump))) := fun jump W3 hk => by
        have hl3 := hk.same _ _ (by omega) hl2 rfl
        have hk3 := hk.same _ _ (Nat.le_refl _) hk2 rfl
        have hr := run_endRound (P := P) jump hl3
        have hr' : (Instr.endRound (w.heap.size + 1) jump).run P W3 = .ok (.bool jump.isNone) (W3.putObj (w.heap.size + 1) (.loop (rec (if jump.isNone then .ready else .done) jump))) := by
          rw [hrec] at hr ⊢
          exact hr
        refine ⟨hr', hl3, ?_⟩
        rw [hAt]
        exact ⟨World.putObj_heap_same (Array.getElem?_eq_some_iff.1 hl3).1, (World.putObj_heap_other (by omega)).trans hk3⟩
      have hfrom : ∀ (o' : Obj) (W3 : World), KeepsFrom w.heap.size (W.putObj (w.heap.size + 1) (.loop { rec .ready none with state := .busy })) W3 → KeepsFrom W1.heap.size W (W3.putObj (w.heap.size + 1) o') := fun o' W3 hk =>
        ⟨by have := hk.size; rw [World.putObj_size] at this ⊢; exact this, fun k o hB hk0 ho => (World.putObj_heap_other (by omega)).trans (hk.same k o (by omega) ((World.putObj_heap_other (by omega)).trans hk0) ho)⟩
      rintro e a3 W3 hp
      cases e with
      | normal =>
        obtain ⟨hk3, hkp3, hi3⟩ := hp
        obtain ⟨hr, hl3, hat4⟩ := hend none W3 hk3
        exact ⟨_, _, hr, .inl ⟨rfl, ⟨hI.putObj _ hi3 (by omega) hl3 rfl, hat4⟩, (hw2.trans hkp3).trans (hKb _ _ _ _ hi3 (by have := (Array.getElem?_eq_some_iff.1 hl3).1; omega) hl3 rfl), hfrom _ _ hk3⟩⟩
      | ret =>
        obtain ⟨hk3, hi3⟩ := hp
        obtain ⟨hr, hl3, hat4⟩ := hend (some .ret) W3 hk3
        exact ⟨_, _, hr, .inr ⟨rfl, ⟨.ret, (hIx _).putObj _ hi3 (by omega) hl3 rfl, hat4⟩, hfrom _ _ hk3⟩⟩
      | _ => exact hp.elim

theorem row_from {β : Type} (B n₀ e size : Nat) (v : β → Value) (k : β → Nat) (f : β → List Value) : OwnFrom B (fun s W => W.ownsRow n₀ e size (v s) (k s) (f s)) := fun s A A' row hs hg hr => by
  refine World.ownsRow.kept hs hg ?_
  rcases hs.2 with ⟨hv, -⟩ | ⟨g, cap, cur, hv, -, hgc, -⟩
  · rw [hv]; exact .inl rfl
  · refine .inr fun e => ?_
    rw [hv] at e
    obtain ⟨-, o, ho, hc⟩ := hr g e.symm
    rw [hgc] at ho
    cases ho
    cases hc
theorem own_from {β : Type} (B n₀ : Nat) (v : β → Value) (f : β → List Int) : OwnFrom B (fun s W => Own W n₀ (v s) (f s)) := row_from B n₀ 3 1 v _ _
theorem since_from {β : Type} {B n₀ : Nat} {w₀ : World} (hn : n₀ ≤ w₀.heap.size) (hB : n₀ ≤ B) : OwnFrom B (fun (_ : β) W => Since n₀ w₀ W) := fun s A A' row hs hg hr =>
  ⟨ownFrom_below (β := β) hn hB s A A' row hs.1 hg hr, Nat.le_trans hs.2 hg.size⟩

/- Marks of loops that a function has left behind. -/
def markOf (D : Nat) : Deferred := { target := .collected D, args := #[] }
/-- The marks name blocks of their own from B on that wait. -/
def Marks (B : Nat) : List Nat → World → Prop
  | [], _ => True
  | D :: r, W => B ≤ D ∧ W.heap[D]? = some (.deferred (some [])) ∧ D ∉ r ∧ Marks B r W
theorem Marks.kept {B : Nat} {W W' : World} : ∀ {ds : List Nat}, Marks B ds W → (∀ D ∈ ds, W.heap[D]? = some (.deferred (some [])) → W'.heap[D]? = some (.deferred (some []))) → Marks B ds W'
  | [], _, _ => trivial
  | D :: r, h, hk => ⟨h.1, hk D (List.mem_cons_self ..) h.2.1, h.2.2.1, Marks.kept h.2.2.2 fun D' hD => hk D' (List.mem_cons_of_mem _ hD)⟩
theorem Marks.lt {B : Nat} {W : World} : ∀ {ds : List Nat}, Marks B ds W → ∀ D ∈ ds, B ≤ D ∧ D < W.heap.size ∧ W.heap[D]? = some (.deferred (some []))
  | [], _, D, hD => by cases hD
  | D0 :: r, h, D, hD => by
    rcases List.mem_cons.1 hD with rfl | hD
    · exact ⟨h.1, (Array.getElem?_eq_some_iff.1 h.2.1).1, h.2.1⟩
    · exact Marks.lt h.2.2.2 D hD
theorem marks_from {β : Type} {B B' : Nat} (ds : β → List Nat) (hd : ∀ s, ∀ D ∈ ds s, D < B) : OwnFrom B (fun s W => Marks B' (ds s) W) := fun s A A' row hs hg hr =>
  hs.kept fun D hD hk => (hg.block D (Array.getElem?_eq_some_iff.1 hk).1 (fun e => by have := (hr D e.symm).1; have := hd s D hD; omega)).trans hk
/-- What the shutting of blocks from B on leaves as it was: all that lies below, and all cells. -/
structure Shut (B : Nat) (W W' : World) : Prop where
  below : Below B W W'
  size : W'.heap.size = W.heap.size
  same : ∀ (k : Nat) (o : Obj), W.heap[k]? = some o → o.isCells = true → W'.heap[k]? = some o
theorem Shut.refl (B : Nat) (W : World) : Shut B W W := ⟨Below.refl _ _, rfl, fun _ _ h _ => h⟩
theorem Shut.put {B D : Nat} {W W' : World} (h : Shut B (W.putObj D (.deferred none)) W') (hB : B ≤ D) (hD : W.heap[D]? = some (.deferred (some []))) (hsz : B ≤ W.heap.size) : Shut B W W' := by
  refine ⟨((Below.refl B W).grown (grownBy_putObj' W D (.deferred none)) hsz (fun k e => by cases e; exact hB)).trans h.below, by rw [h.size, World.putObj_size], fun k o hk ho => h.same k o ?_ ho⟩
  refine (World.putObj_heap_other ?_).trans hk
  rintro rfl
  rw [hD] at hk
  cases hk
  cases ho
theorem Shut.own {B B' : Nat} {W W' : World} (h : Shut B W W') {v : Value} {zs : List Int} (ho : Own W B' v zs) : Own W' B' v zs := rowSame ho fun k hk => by
  rcases ho.2 with ⟨rfl, -⟩ | ⟨g, cap, cur, rfl, -, hg, -⟩
  · cases hk
  · cases hk
    exact (h.same _ _ hg rfl).trans hg.symm
theorem leaves_marks {P : Program} {fn : Func} {tmps : Array Value} {R : Ending → World → Prop} {B : Nat} : ∀ (ds : List Nat) (W : World), Marks B ds W → B ≤ W.heap.size →
    (∀ W', Shut B W W' → ∃ v, (results fn tmps).run P W' = .ok v W' ∧ R (.returned v) W') → LeavesInM Fence.wide 9 P fn tmps R (ds.map markOf) .returning W
  | [], W, _, _, h => h W (Shut.refl B W)
  | D :: r, W, hm, hB, h => by
    refine ⟨by simp, .inl ⟨D, _, rfl, run_takeDeferred hm.2.1, leaves_marks r _ (hm.2.2.2.kept fun D' hD' hk => (World.putObj_heap_other (by rintro rfl; exact hm.2.2.1 hD')).trans hk) (by rw [World.putObj_size]; exact hB) fun W' hs => h W' (hs.put hm.1 hm.2.1 hB)⟩⟩
end Go.Proofs.Ythlbmkefjjckaad
