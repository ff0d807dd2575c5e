/-
  'list' of a stock: what it has, by rising names.
-/
import Derived.Test.YtkpdiojomgiocacLsStock
import Derived.Test.YtkpdiojomgiocacLsSort
import Derived.Test.YtkpdiojomgiocacLsPut
import Derived.Sort.OwnSorted
namespace Go.Proofs.Ytkpdiojomgiocac
open Go.RowKit Go.Maps
set_option linter.unusedVariables false

/-- What has come of a map so far: just the entries that are no longer to come, no name twice. -/
def Got (F : Int → Option Int) (left : Lit → Bool) (acc : List HvD) : Prop :=
  (∀ k v, (⟨k, v⟩ : HvD) ∈ acc ↔ F k = some v ∧ left (.int .i64 k) = false) ∧ acc.Pairwise (fun a b => a.From ≠ b.From)
theorem got_start {D : DataW Unit} {F : Int → Option Int} (h : StF D F) : Got F (Maps.has D) [] := by
  refine ⟨fun k v => ⟨fun hm => by simp at hm, fun ⟨h1, h2⟩ => ?_⟩, List.Pairwise.nil⟩
  rw [h.2.1, h1] at h2
  cases h2
theorem same_int (a b : Int) : (Lit.int .i64 a).sameKey (.int .i64 b) = decide (a = b) := by
  by_cases h : a = b
  · subst h
    simp [Lit.sameKey]
  · rw [sameKey_ne (key_ne h), decide_eq_false h]
theorem got_step {D : DataW Unit} {F : Int → Option Int} (h : StF D F) {left : Lit → Bool} {acc : List HvD} (hg : Got F left acc) {x c : Int} (hl : left (.int .i64 x) = true) (hat : ∀ zd, D.atKey (.int .i64 x) zd = .lit (.int .i64 c)) :
    Got F (fun z => left z && !z.sameKey (.int .i64 x)) (acc ++ [⟨x, c⟩]) ∧ F x = some c := by
  have hF : F x = some c := by
    have h0 := hat .nil
    rw [h.2.2] at h0
    cases hv : F x with
    | none => rw [hv] at h0; cases h0
    | some v =>
      rw [hv] at h0
      simp only [DataW.lit.injEq, Lit.int.injEq] at h0
      rw [h0.2]
  refine ⟨⟨fun k v => ?_, ?_⟩, hF⟩
  · rw [List.mem_append, hg.1 k v]
    simp only [List.mem_singleton, HvD.mk.injEq]
    rw [same_int]
    by_cases e : k = x
    · subst e
      rw [hl, hF]
      simp
      exact ⟨fun h => h.symm, fun h => h.symm⟩
    · simp [e]
  · rw [List.pairwise_append]
    refine ⟨hg.2, List.pairwise_singleton _ _, fun a ha b hb => ?_⟩
    simp only [List.mem_singleton] at hb
    subst hb
    intro e
    have := (hg.1 a.From a.Seq).1 ha
    simp only at e
    rw [e, hl] at this
    exact Bool.noConfusion this.2
theorem got_end {F : Int → Option Int} {left : Lit → Bool} {acc L : List HvD} (hg : Got F left acc) (hl : ∀ k, left k = false) (hp : L.Perm acc) (hs : L.Pairwise (fun a b => a.From ≤ b.From)) : Rise L ∧ ∀ k, cont L k = F k := by
  have hd : L.Pairwise (fun a b => a.From ≠ b.From) := (hp.pairwise_iff (fun {a b} h => Ne.symm h)).2 hg.2
  have hr : Rise L := List.pairwise_iff_getElem.2 fun i j hi hj hij => by
    have h1 := List.pairwise_iff_getElem.1 hs i j hi hj hij
    have h2 := List.pairwise_iff_getElem.1 hd i j hi hj hij
    omega
  refine ⟨hr, fun k => ?_⟩
  have key : ∀ v, cont L k = some v ↔ F k = some v := fun v => by
    rw [cont_iff hr, hp.mem_iff, hg.1, hl]
    simp
  cases hF : F k with
  | some v => exact (key v).2 hF
  | none =>
    cases hc : cont L k with
    | none => rfl
    | some v => have := (key v).1 hc; rw [hF] at this; cases this

/-- What the loop keeps. -/
structure Lst (W : World) (b n : Nat) (D : DataW Unit) (F : Int → Option Int) (v : Value) (acc : List HvD) (left : Lit → Bool) (cnt : Nat) (wr : World) : Prop where
  rg : wr.ranges Try.prog 3 (plainElem Try.prog 3) b W.heap.size n D left cnt
  own : OwnHv wr (W.heap.size + 1) v acc
  fit : acc.length + cnt ≤ n
  got : Got F left acc
  bel : Below W.heap.size W wr
  big : W.heap.size + 1 ≤ wr.heap.size

set_option maxRecDepth 100000 in
set_option maxHeartbeats 4000000 in
theorem stockList_any (W : World) (b n : Nat) (F : Int → Option Int) (h : Stock W b n F) (hF : ∀ k v, F k = some v → (1 ≤ k ∧ k ≤ 1000) ∧ 1 ≤ v ∧ v ≤ 1000) (hn : n ≤ 5000) :
    Calls Try.prog 47 #[.map (some b)] W fun e W' => ∃ v L, e = .returned v ∧ OwnHv W' W.heap.size v L ∧ Rise L ∧ (∀ k, cont L k = F k) ∧ Below W.heap.size W W' := by
  obtain ⟨D, hown, hSF⟩ := h
  have hbl := hown.lt
  have hsz := hown.size_le
  have HSF : Hid (StF D F) := hSF
  have HFF : Hid (∀ k v, F k = some v → (1 ≤ k ∧ k ≤ 1000) ∧ 1 ≤ v ∧ v ≤ 1000) := hF
  clear hSF hF
  go_enter Try.func47, Try.ntmps47
  go_wp2_with (first
    | (at_range; refine wpList_range_own _ rfl _ 73 rfl 3 3 lawK Try.underlying73 _ b n _ rfl hown ?_; intro w0 hrg0 hg0 hs0)
    | go_in)
  go_frame
  have HL0 : Hid (Lst W b n D F (.slice none 0 0) [] (Maps.has D) (Maps.size D) w0) := ⟨hrg0, OwnHv.nil _ _, by simpa using hsz, got_start HSF.out, (Below.refl _ W).grown hg0 (Nat.le_refl _) (fun j hj => by cases hj), by omega⟩
  clear hrg0 hg0 hs0 hsz
  go_loopw [3] (fun v wr => ∃ (acc : List HvD) (left : Lit → Bool) (cnt : Nat) (a : Option Addr) (c : Nat), v = .slice a acc.length c ∧ Hid (Lst W b n D F (.slice a acc.length c) acc left cnt wr)) (fun _ wr => wr.rangeLeft b W.heap.size)
  case atStart => exact ⟨[], _, _, none, 0, rfl, HL0.out⟩
  case round =>
    obtain ⟨acc, left, cnt, a, c, rfl, HL⟩ := hrel
    have hrg := HL.out.rg
    go_wp2_with (first
      | (at_next; refine wpList_next_ranges_ii _ rfl _ rfl 3 3 .i64 .i64 lawK Try.underlying3 Try.underlying3 b W.heap.size n _ _ _ rfl hrg ?_ ?_)
      | go_in)
    · intro hc0 hl0
      have HO : Hid (OwnHv wr (W.heap.size + 1) (.slice a acc.length c) acc ∧ Below W.heap.size W wr) := ⟨HL.out.own, HL.out.bel⟩
      have HG : Hid (Got F left acc) := HL.out.got
      have CS : Hid (Calls Try.prog 50 #[.slice a acc.length c, .func (.func 51) #[] #[]] wr fun e W' => e = .returned (.tuple #[]) ∧
          ∃ L : List HvD, L.Perm acc ∧ L.Pairwise (fun a b => a.From ≤ b.From) ∧ OwnHv W' (W.heap.size + 1) (.slice a acc.length c) L ∧ Below (W.heap.size + 1) wr W') := sort_any wr _ _ acc HO.out.1 (fun x hx => (HFF.out x.From x.Seq ((HG.out.1 x.From x.Seq).1 hx).1).1) (by have := HL.out.fit; omega)
      clear hrg HL
      go_wp2_with fail
      refine CS.out.mono ?_
      rintro e w1 ⟨rfl, L, hp, hs, ho, hb⟩
      have HE : Hid (Rise L ∧ ∀ k, cont L k = F k) := got_end HG.out hl0 hp hs
      have HO1 : Hid (OwnHv w1 W.heap.size (.slice a acc.length c) L ∧ Below W.heap.size W w1) := ⟨ho.mono (Nat.le_succ _), HO.out.2.trans (hb.mono (Nat.le_succ _))⟩
      clear hp hs ho hb CS HO HG
      go_wp2
      go_ret
      exact ⟨_, L, rfl, HO1.out.1, HE.out.1, HE.out.2, HO1.out.2⟩
    · intro x y w1 cnt1 hwx hwc hlx hat hrg1 hlt hg1 hs1 hen
      have HGS : Hid (Got F (fun z => left z && !z.sameKey (.int .i64 x)) (acc ++ [⟨x, y⟩]) ∧ F x = some y) := got_step HSF.out HL.out.got hlx hat
      have hne : some W.heap.size ≠ (Value.slice a acc.length c).ownBlock := row_ne_low HL.out.own (Nat.lt_succ_self _)
      have HO1 : Hid (OwnHv w1 (W.heap.size + 1) (.slice a acc.length c) acc) := HL.out.own.grow hg1 (fun k hk e => by cases hk; exact hne e.symm)
      have HB1 : Hid (Below W.heap.size W w1 ∧ W.heap.size + 1 ≤ w1.heap.size) := ⟨HL.out.bel.grown hg1 (Nat.le_trans (Nat.le_succ _) HL.out.big) (fun j hj => by cases hj; exact Nat.le_refl _), by rw [hs1]; exact HL.out.big⟩
      have HRG : Hid (w1.ranges Try.prog 3 (plainElem Try.prog 3) b W.heap.size n D (fun z => left z && !z.sameKey (.int .i64 x)) cnt1) := hrg1
      have hfit := HL.out.fit
      have HA : Hid (∀ ty, ∃ v' w', (Builtin.append_ #[23, 23] ty #[.slice a acc.length c, .slice (some ⟨w1.heap.size, 0, none⟩) 1 1]).run Try.prog (w1.alloc (.cells #[.int .i64 x, .int .i64 y] 41)) = .ok v' w' ∧ Grown (w1.alloc (.cells #[.int .i64 x, .int .i64 y] 41)) (W.heap.size + 1) 41 2 (.slice a acc.length c) (acc ++ [(⟨x, y⟩ : HvD)]).length (cellsHv (acc ++ [(⟨x, y⟩ : HvD)])) v' w') := fun ty =>
        run_appHv _ _ _ acc (HO1.out.below ((Below.refl _ w1).alloc (Nat.le_refl _) _)) _ [⟨x, y⟩] (src_new w1 ⟨x, y⟩ 1) (by simp <;> omega) (by have := HB1.out.2; simp; omega) ty
      have hmeas : (wr.rangeLeft b W.heap.size) = cnt := hrg.left_eq
      clear hrg hrg1 hg1 hs1 hat hne HL
      go_wp2_with (first
        | (at_builtin; refine list_app (by rfl) (.tmp 13) (.tmp 17) 23 (by rfl) (.slice a acc.length c) (.slice (some ⟨w1.heap.size, 0, none⟩) 1 1) (by rfl) (by rfl) _ HA.out ?_; intro v2 w2 hg2; have HL2 : Hid (Lst W b n D F v2 (acc ++ [⟨x, y⟩]) (fun z => left z && !z.sameKey (.int .i64 x)) cnt1 w2) := ⟨(HRG.out.alloc _).kept hg2.grown (row_ne_low HO1.out (by omega)) (row_ne_low HO1.out (Nat.lt_succ_self _)), hg2.own, by simp; omega, HGS.out.1, (HB1.out.1.alloc HB1.out.1.size _).trans (hg2.below.mono (Nat.le_succ _)), Nat.le_trans HB1.out.2 (Nat.le_trans (by simp) hg2.size)⟩; have hms2 : w2.rangeLeft b W.heap.size = cnt1 := HL2.out.rg.left_eq; clear hg2; go_frame)
        | go_in)
      obtain ⟨a2, c2, rfl⟩ := HL2.out.own.shape
      go_roundw
      case rel => exact ⟨_, _, _, a2, c2, rfl, HL2.out⟩
      case measure => rw [hms2, hmeas]; exact hlt
end Go.Proofs.Ytkpdiojomgiocac
