/-
  'joiner': what remembers the groups that it joined.
-/
import Derived.Deep.QuietTactic
import Derived.BigQuiet
import Derived.Test.YthlbmkefjjckaadTrUp
import Derived.Test.YthlbmkefjjckaadBunC
namespace Go.Proofs.Ythlbmkefjjckaad
open Go.RowKit
set_option linter.unusedVariables false

theorem run_storeF (P : Program) (w : World) (a : Addr) (f : Fn) (x y : Array Value) (m : Mode) : (store a (.func f x y) m).run P w = stored P w a (.func f x y) m := run_store P w a _ m rfl
theorem Turned.others {g : Nat} {W W' : World} (h : Turned (fun j => j = g) W W') (hc : ∃ o : Obj, W.heap[g]? = some o ∧ o.isCells = true) : KeepsOthers W W' := ⟨h.size, fun k o hk ho => by
  refine (h.block k (Array.getElem?_eq_some_iff.1 hk).1 (fun e => ?_)).trans hk
  obtain ⟨o', h1, h2⟩ := hc
  rw [← e, hk] at h1
  cases h1
  rw [ho] at h2
  cases h2⟩
/-- The groups that a joiner has, in its box. -/
structure JoinS (W : World) (B b g cap n : Nat) (zs : List Int) : Prop where
  box : Boxed W b 26 (.slice (some ⟨g, 0, none⟩) n cap)
  own : Own W B (.slice (some ⟨g, 0, none⟩) n cap) zs
  low : B ≤ g
  lowb : B ≤ b
  ne : b ≠ g
  len : zs.length = n
theorem JoinS.below {W W' : World} {B b g cap n : Nat} {zs : List Int} (h : JoinS W B b g cap n zs) (hb : Below W.heap.size W W') : JoinS W' B b g cap n zs := ⟨(hb.block _ h.box.lt).trans h.box, h.own.below hb, h.low, h.lowb, h.ne, h.len⟩
theorem JoinS.glt {W : World} {B b g cap n : Nat} {zs : List Int} (h : JoinS W B b g cap n zs) : g < W.heap.size := (World.ownsRow.lt h.own g rfl).2
theorem JoinS.cells {W : World} {B b g cap n : Nat} {zs : List Int} (h : JoinS W B b g cap n zs) : ∃ o : Obj, W.heap[g]? = some o ∧ o.isCells = true := by
  rcases h.own.2 with ⟨hv, -⟩ | ⟨g', cap', cur, hv, -, hg, -⟩
  · cases hv
  · cases hv
    exact ⟨_, hg, rfl⟩
theorem joinS_from (B b g cap n B0 : Nat) : OwnFrom B0 (fun (zs : List Int) W => JoinS W B b g cap n zs) := fun zs X Y row hs hg hr =>
  ⟨boxed_own (β := Unit) _ _ (fun _ => _) () X Y row hs.box hg (fun r e => (hr r e).2), own_from (β := Unit) B0 B (fun _ => .slice (some ⟨g, 0, none⟩) n cap) (fun _ => zs) () X Y row hs.own hg hr, hs.low, hs.lowb, hs.ne, hs.len⟩

set_option maxRecDepth 100000 in
set_option maxHeartbeats 2000000 in
theorem joiner_any (W : World) (n : Nat) (hn0 : 1 ≤ n) (hn : n ≤ 12) :
    Calls Try.prog 44 #[.int .i64 (n : Int)] W fun e W' => ∃ b g cap, e = .returned (.func (.func 72) #[] #[.pointer (some ⟨b, 0, none⟩)]) ∧ JoinS W' W.heap.size b g cap n (iota n) ∧ Below W.heap.size W W' := by
  have CG : Hid (Calls Try.prog 43 #[.int .i64 (n : Int), .slice none 0 0] W fun e W' => ∃ v', e = .returned v' ∧ Own W' W.heap.size v' (iota n) ∧ Below W.heap.size W W') := by
    have t := groupsOf_any W (.slice none 0 0) n [] ⟨none, 0, rfl, .inl rfl⟩ (by simp) hn0 hn (fun x hx => by cases hx)
    rw [show grp (n : Int) [] = iota n by simp [grp]] at t
    exact t
  have hil : (iota n).length = n := iota_len n
  go_enter Try.func44, Try.ntmps44
  go_wp2_with fail
  refine CG.out.mono ?_
  rintro e w1 ⟨u1, rfl, ho1, hb1⟩
  obtain ⟨g, cap, rfl, hg⟩ := own_at ho1 (by omega)
  have HO1 : Hid (Own w1 W.heap.size (.slice (some ⟨g, 0, none⟩) n cap) (iota n) ∧ Below W.heap.size W w1 ∧ W.heap.size ≤ g ∧ g < w1.heap.size) := by
    rw [hil] at ho1
    exact ⟨ho1, hb1, hg, (World.ownsRow.lt ho1 g rfl).2⟩
  rw [hil]
  clear ho1 hb1 hg CG
  go_wp2
  go_ret
  obtain ⟨p1, p2, p3, p4⟩ := HO1.out
  exact ⟨_, _, _, rfl, ⟨Boxed.new _ _ _, p1.below ((Below.refl _ w1).alloc (Nat.le_refl _) _), p3, p2.size, by omega, hil⟩, p2.trans (((Below.refl _ w1).alloc (Nat.le_refl _) _).mono p2.size)⟩

set_option maxRecDepth 100000 in
set_option maxHeartbeats 2000000 in
theorem join1_any (W : World) (B b g cap n : Nat) (zs : List Int) (x y : Int) (h : JoinS W B b g cap n zs) (hx : 0 ≤ x ∧ x < n) (hy : 0 ≤ y ∧ y < n) (hn : n ≤ 12) :
    Calls Try.prog 72 #[.int .i64 x, .int .i64 y, .pointer (some ⟨b, 0, none⟩)] W fun e W' => e = .returned (.bool (decide (lab zs x ≠ lab zs y))) ∧ JoinS W' B b g cap n (if lab zs x = lab zs y then zs else joinG zs x y) ∧ Turned (fun j => j = g) W W' := by
  have CJ : Hid (∀ w', Below W.heap.size W w' → Calls Try.prog 71 #[.slice (some ⟨g, 0, none⟩) n cap, .int .i64 x, .int .i64 y] w' fun e W' => (∃ v, e = .returned v) ∧ JoinS W' B b g cap n (joinG zs x y) ∧ Turned (fun j => j = g) W W') := fun w' hb => by
    have h' := h.below hb
    refine (joinGroupsT_any w' B g cap n zs x y h'.own (Nat.le_trans h'.low (Nat.le_of_lt h'.glt)) h'.low h'.len hx hy hn).mono ?_
    rintro e W' ⟨h1, h2, h3⟩
    exact ⟨h1, ⟨(h3.block _ h'.box.lt h'.ne).trans h'.box, h2, h'.low, h'.lowb, h'.ne, by unfold joinG; rw [relab_len]; exact h'.len⟩, (Turned.ofB hb).tran h3⟩
  have HJ : Hid (JoinS W B b g cap n zs) := h
  have hcb := h.box.cell
  obtain ⟨p, rfl⟩ : ∃ p : Nat, x = (p : Int) := ⟨x.toNat, by omega⟩
  obtain ⟨q, rfl⟩ : ∃ q : Nat, y = (q : Int) := ⟨y.toNat, by omega⟩
  have hx' : (p : Int) < (n : Int) := hx.2
  have hy' : (q : Int) < (n : Int) := hy.2
  have hcp : W.cell? ⟨g, p, none⟩ = some (.int .i64 (lab zs (p : Int))) := by
    rw [lab_get zs p (by rw [h.len]; omega)]
    exact own_cellG h.own h.len.symm p (by rw [h.len]; omega)
  have hcq : W.cell? ⟨g, q, none⟩ = some (.int .i64 (lab zs (q : Int))) := by
    rw [lab_get zs q (by rw [h.len]; omega)]
    exact own_cellG h.own h.len.symm q (by rw [h.len]; omega)
  clear h hx hy
  generalize lab zs (p : Int) = xp at *
  generalize lab zs (q : Int) = xq at *
  by_cases e : xp = xq
  · have eb : (xp == xq) = true := by simpa using e
    have HD : Hid (decide (xp ≠ xq) = false ∧ JoinS W B b g cap n (if xp = xq then zs else joinG zs p q)) := ⟨by simp [e], by rw [if_pos e]; exact HJ.out⟩
    rw [HD.out.1]
    clear CJ
    subst e
    go_enter Try.func72, Try.ntmps72
    go_wp2
    go_quiet (fail)
    go_wp2
    go_ret
    exact ⟨rfl, HD.out.2.below (below_drewN (Below.refl _ _) _), Turned.ofB (below_drewN (Below.refl _ _) _)⟩
  · have eb : (xp == xq) = false := by simpa using e
    have HD : Hid (decide (xp ≠ xq) = true ∧ (if xp = xq then zs else joinG zs p q) = joinG zs p q) := ⟨by simp [e], by rw [if_neg e]⟩
    rw [HD.out.1, HD.out.2]
    clear HJ HD
    go_enter Try.func72, Try.ntmps72
    go_wp2
    go_quiet (fail)
    go_wp2_with fail
    refine (CJ.out _ (below_drewN (Below.refl _ _) _)).mono ?_
    rintro e w2 ⟨⟨v2, rfl⟩, h2⟩
    have HF : Hid (JoinS w2 B b g cap n (joinG zs p q) ∧ Turned (fun j => j = g) W w2) := h2
    clear h2
    go_wp2
    go_ret
    exact ⟨rfl, HF.out.1, HF.out.2⟩
end Go.Proofs.Ythlbmkefjjckaad
