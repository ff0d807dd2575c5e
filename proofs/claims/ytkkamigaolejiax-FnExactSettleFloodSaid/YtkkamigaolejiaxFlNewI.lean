/-
  'noughtRows', 'copyNums', 'copyRows', 'NewFlood' of the program.
-/
import Derived.Test.YtkkamigaolejiaxFlGoodA
import Derived.Test.YtkkamigaolejiaxFlRead
import Derived.Test.YtkkamigaolejiaxAppSS
namespace Go.Proofs.Ytkkamigaolejiax
open Go.RowKit
set_option linter.unusedVariables false

/-- So many rows of noughts. -/
def zerosL (many long : Nat) : List (List Int) := List.replicate many (List.replicate long 0)
theorem zerosL_next (k long : Nat) : zerosL (k + 1) long = zerosL k long ++ [List.replicate long 0] := by unfold zerosL; rw [List.replicate_succ']
theorem zerosL_len (k long : Nat) : (zerosL k long).length = k := by simp [zerosL]

/-- What a list of lists that is appended to keeps of others. -/
theorem grownKeep {w w' : World} {B B' : Nat} {v v' y : Value} {vs ys xs : List Value} {yss : List (List Int)} {o : Obj} {n : Nat} (hv : w.ownsRow B 60 1 v vs.length vs) (hy : OwnSS w B' y ys yss) (hap : ∀ b, v.ownBlock = some b → y.ownBlock ≠ some b)
    (hg : Grown (w.alloc o) B 60 1 v n xs v' w') : OwnSS w' B' y ys yss ∧ ∀ b, v'.ownBlock = some b → y.ownBlock ≠ some b := by
  have hb : Below w.heap.size w (w.alloc o) := (Below.refl _ w).alloc (Nat.le_refl _) _
  refine ⟨⟨hy.len, rowGrow (rowBelow hy.row hb) hg.grown hap, fun j hj => rowGrow (rowBelow (hy.inner j hj) hb) hg.grown fun k hk hk2 => rowsApart hv (hy.inner j hj) (by decide) k hk hk2, hy.apart⟩, fun b hb1 hb2 => ?_⟩
  rcases hg.lies with h1 | h1
  · exact hap b (by rw [← h1]; exact hb1) hb2
  · rw [h1] at hb1
    have := (World.ownsRow.lt hy.row b hb2).2
    simp at hb1
    omega

theorem copyTwo_any (W : World) (u : Value) (zs : List Int) (h : Reads W u zs) (hl : zs.length = 2) :
    Calls Try.prog 85 #[u] W fun e W' => ∃ v', e = .returned v' ∧ Own W' W.heap.size v' zs ∧ Below W.heap.size W W' := by
  obtain ⟨g, o, c, rfl, hg, p0, p1⟩ := reads_two h hl
  have hsrc : Src W (.slice (some ⟨g, o, none⟩) 2 c) zs.length (zs.map (Value.int .i64)) := .inr ⟨⟨g, o, none⟩, c, by rw [hl], fun j w hj => by
    obtain ⟨a, c', hv, hc⟩ := h
    rcases hc with hz | ⟨g', o', hv', -, hcell⟩
    · rw [hz] at hl; cases hl
    · simp only [Value.slice.injEq] at hv
      obtain ⟨rfl, -, -⟩ := hv
      simp only [Option.some.injEq, Addr.mk.injEq, and_true] at hv'
      obtain ⟨rfl, rfl⟩ := hv'
      have hjl : j < zs.length := by have := (List.getElem?_eq_some_iff.1 hj).1; simpa using this
      rw [Go.WideShapes.add_plain, hcell j hjl]
      rw [List.getElem?_map, List.getElem?_eq_getElem hjl] at hj
      exact hj⟩
  have HC : Hid (∀ ty, ∃ v' w', (Builtin.append_ #[60, 60] ty #[.slice none 0 0, .slice (some ⟨g, o, none⟩) 2 c]).run Try.prog W = .ok v' w' ∧ Grown W W.heap.size 3 1 (.slice none 0 0) ([] ++ zs).length (([] ++ zs).map (Value.int .i64)) v' w') := fun ty => run_appI W W.heap.size _ [] (Own.nil _ _) _ zs hsrc (by simp; omega) (Nat.le_refl _) ty
  clear h hsrc
  go_enter Try.func85, Try.ntmps85
  go_wp2_with (at_builtin; refine list_app (by rfl) (.const (.slice none 0 0)) (.tmp 3) 60 (by rfl) (.slice none 0 0) (.slice (some ⟨g, o, none⟩) 2 c) (by rfl) (by rfl) _ HC.out ?_; intro v' w1 hg1)
  have HW : Hid (Own w1 W.heap.size v' zs ∧ Below W.heap.size W w1) := ⟨hg1.own, hg1.below⟩
  clear hg1
  go_ret
  exact ⟨_, rfl, HW.out.1, HW.out.2⟩

set_option maxRecDepth 100000 in
set_option maxHeartbeats 2000000 in
theorem copyRows_any (W : World) (v : Value) (lks : List (List Int)) (h : ReadsSS W v lks) (h2 : ∀ j (hj : j < lks.length), lks[j].length = 2) (hl : lks.length ≤ 15) :
    Calls Try.prog 73 #[v] W fun e W' => ∃ v', e = .returned v' ∧ HasSS W' W.heap.size v' lks ∧ Below W.heap.size W W' := by
  have HS0 : Hid (∃ vs, OwnSS W W.heap.size (.slice none 0 0) vs (lks.take 0) ∧ Since W.heap.size W W) := ⟨[], OwnSS.nil W _, Since.start W⟩
  have HRD : Hid (∀ W1, Since W.heap.size W W1 → ReadsSS W1 v lks) := fun W1 hS => h.below hS.1
  have H2 : Hid (∀ j (hj : j < lks.length), lks[j].length = 2) := h2
  obtain ⟨av, cv, rfl⟩ := h.shape
  clear h h2
  go_enter Try.func73, Try.ntmps73
  go_wp2
  go_loopw [3, 8] (fun d i wr => ∃ k : Nat, k ≤ lks.length ∧ i = .int .i64 k ∧ Hid (∃ vs, OwnSS wr W.heap.size d vs (lks.take k) ∧ Since W.heap.size W wr)) (fun _ i _ => lks.length - (intOf i).toNat)
  case atStart => exact ⟨0, Nat.zero_le _, rfl, HS0⟩
  case round =>
    obtain ⟨k, hk, rfl, HK⟩ := hrel
    obtain ⟨vs, hos, hsi⟩ := HK.out
    obtain ⟨ad, cd, hd⟩ := hos.shape
    rw [show (lks.take k).length = k by rw [List.length_take]; omega] at hd
    subst hd
    have HO : Hid (OwnSS wr W.heap.size (.slice ad k cd) vs (lks.take k)) := hos
    have HS : Hid (Since W.heap.size W wr) := hsi
    have hvl : vs.length = k := by have := hos.len; rw [List.length_take] at this; omega
    clear hos hsi HK
    by_cases hlt : k < lks.length
    · have hlt' : (k : Int) < (lks.length : Int) := by omega
      obtain ⟨a8, c8, hv8, hc8⟩ := HRD.out wr HS.out
      simp only [Value.slice.injEq] at hv8
      obtain ⟨ha8, -, -⟩ := hv8
      obtain ⟨g8, o8, hb8, hg8, hcc⟩ := hc8.resolve_left (fun e => by rw [e] at hlt; exact absurd hlt (Nat.not_lt_zero _))
      obtain ⟨u, hu, hru⟩ := hcc k hlt
      rw [hb8] at ha8
      have CC : Hid (Calls Try.prog 85 #[u] wr fun e W' => ∃ v', e = .returned v' ∧ Own W' wr.heap.size v' lks[k] ∧ Below wr.heap.size wr W') := copyTwo_any wr u lks[k] hru (H2.out k hlt)
      have HNX : Hid (lks.take (k + 1) = lks.take k ++ [lks[k]]) := List.take_succ_eq_append_getElem hlt
      have hl2 := H2.out k hlt
      obtain ⟨au, cu, hus⟩ := hru.shape
      rw [hl2] at hus
      subst hus
      clear hcc hg8 hc8 hru hb8
      subst ha8
      generalize hnx : lks.take (k + 1) = nxt at *
      have HNQ : Hid (lks.take (k + 1) = nxt) := hnx
      clear hnx
      generalize lks[k] = zz at *
      go_wp2_with fail
      refine CC.out.mono ?_
      rintro e w1 ⟨v1, rfl, ho1, hb1⟩
      obtain ⟨a5, c5, hv5⟩ := ho1.shape
      rw [hl2] at hv5
      subst hv5
      have HO1 : Hid (Own w1 W.heap.size (.slice a5 2 c5) zz) := ho1.mono HS.out.2
      have HOw : Hid (OwnSS w1 W.heap.size (.slice ad k cd) vs (lks.take k)) := HO.out.below hb1
      have HS1 : Hid (Since W.heap.size W w1) := HS.out.step hb1
      have HAPA : Hid (∀ j (hj : j < vs.length), ∀ b, vs[j].ownBlock = some b → (Value.slice a5 2 c5).ownBlock ≠ some b) := fun j hj b hb hb2 => by
        have := (World.ownsRow.lt (HO.out.inner j hj) b hb).2
        have := (World.ownsRow.lt ho1 b hb2).1
        omega
      have HAP : Hid (∀ ty, ∃ v' w', (Builtin.append_ #[22, 22] ty #[.slice ad k cd, .slice (some ⟨w1.heap.size, 0, none⟩) 1 1]).run Try.prog (w1.alloc (.cells #[.slice a5 2 c5] 60)) = .ok v' w' ∧ Grown (w1.alloc (.cells #[.slice a5 2 c5] 60)) W.heap.size 60 1 (.slice ad k cd) (vs ++ [Value.slice a5 2 c5]).length (vs ++ [Value.slice a5 2 c5]) v' w') := fun ty => run_appSS w1 W.heap.size _ vs _ _ _ HOw.out.row (by omega) HS1.out.2 ty
      clear ho1 hb1 CC
      go_wp2_with (at_builtin; refine list_app (by rfl) (.tmp 12) (.tmp 15) 22 (by rfl) (.slice ad k cd) (.slice (some ⟨w1.heap.size, 0, none⟩) 1 1) (by rfl) (by rfl) _ HAP.out ?_; intro v7 w7 hg7; have HF : Hid (∃ us', OwnSS w7 W.heap.size v7 us' nxt ∧ Since W.heap.size W w7) := ⟨_, by rw [HNX.out]; exact HOw.out.add HO1.out HAPA.out hg7, ⟨(HS1.out.1.alloc HS1.out.2 _).trans hg7.below, Nat.le_trans HS1.out.2 (Nat.le_trans (by simp) hg7.size)⟩⟩; clear hg7)
      go_roundw
      case rel => exact ⟨k + 1, by omega, by go_num, by rw [HNQ.out]; exact HF⟩
      case measure => simp [intOf]; omega
    · have hlt' : ¬ (k : Int) < (lks.length : Int) := by omega
      have HF : Hid (OwnSS wr W.heap.size (.slice ad k cd) vs lks) := by
        have := HO.out
        rw [List.take_of_length_le (by omega)] at this
        exact this
      go_wp2
      go_ret
      exact ⟨_, rfl, ⟨vs, HF.out⟩, HS.out.1⟩
end Go.Proofs.Ytkkamigaolejiax
