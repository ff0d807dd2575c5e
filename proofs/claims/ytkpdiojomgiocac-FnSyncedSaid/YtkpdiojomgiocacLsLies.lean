/-
  Lists of haves that lie anywhere; what the model's 'l7Put' and 'l7Merge' answer, and the program's 'copyHaves'.
-/
import Derived.Test.YtkpdiojomgiocacLsPut
namespace Go.Proofs.Ytkpdiojomgiocac
open Go.RowKit
set_option linter.unusedVariables false

/-- The slice v, nil or at an address, holds the list l. -/
def LiesHv (W : World) (v : Value) (l : List HvD) : Prop :=
  (v = .slice none 0 0 ∧ l = []) ∨ ∃ g o cap, v = .slice (some ⟨g, o, none⟩) l.length cap ∧ g < W.heap.size ∧ l.length ≤ cap ∧ ∀ j (hj : j < l.length), HvAt W g (o + j * 2) l[j]
theorem LiesHv.below {W W' : World} {v : Value} {l : List HvD} (h : LiesHv W v l) (hb : Below W.heap.size W W') : LiesHv W' v l :=
  h.imp id fun ⟨g, o, cap, hv, hg, hc, ha⟩ => ⟨g, o, cap, hv, Nat.lt_of_lt_of_le hg hb.size, hc, fun j hj => (ha j hj).below hg hb⟩
theorem LiesHv.reads {W : World} {v : Value} {l : List HvD} (h : LiesHv W v l) : ReadsHv W v l := by
  rcases h with ⟨rfl, rfl⟩ | ⟨g, o, cap, rfl, hg, -, ha⟩
  · exact ⟨none, 0, rfl, .inl rfl⟩
  · exact ⟨_, _, rfl, .inr ⟨g, o, rfl, hg, ha⟩⟩
theorem OwnHv.lies {W : World} {B : Nat} {v : Value} {l : List HvD} (h : OwnHv W B v l) : LiesHv W v l := by
  have h' := h
  rcases h.2 with ⟨hv, hn⟩ | ⟨g, cap, cur, hv, hB, hg, hnc, -⟩
  · exact .inl ⟨hv, List.eq_nil_of_length_eq_zero hn⟩
  · subst hv
    refine .inr ⟨g, 0, cap, rfl, (Array.getElem?_eq_some_iff.1 hg).1, hnc, fun j hj => ?_⟩
    obtain ⟨c0, c1⟩ := cellsHv_get l j hj
    rw [Nat.zero_add]
    exact ⟨(World.ownsRow.cellAt h' _ (by omega)).trans c0, (World.ownsRow.cellAt h' _ (by omega)).trans c1⟩
theorem LiesHv.src {W : World} {v : Value} {l : List HvD} (h : LiesHv W v l) : Src W v l.length (cellsHv l) := by
  rcases h with ⟨rfl, rfl⟩ | ⟨g, o, cap, rfl, hg, -, ha⟩
  · exact src_nil
  · exact src_hv ha _ cap rfl
theorem LiesHv.shape {W : World} {v : Value} {l : List HvD} (h : LiesHv W v l) : ∃ a cap, v = .slice a l.length cap := h.reads.shape

theorem l7Put_any (W : World) (B : Nat) (v : Value) (l : List HvD) (x : HvD) (h : OwnHv W B v l) (hl : l.length ≤ 1048576) :
    Calls Try.prog 36 #[v, .agg #[.int .i64 x.From, .int .i64 x.Seq]] W (PutHvPost W (putHv x l)) := by
  have h' := h
  rcases h.2 with ⟨rfl, hn⟩ | ⟨g, cap, cur, rfl, hB, hg, hnc, -⟩
  · obtain rfl : l = [] := List.eq_nil_of_length_eq_zero hn
    exact l7Put_nil W x
  · exact l7Put_row W B g cap l x h' hl hnc

set_option maxRecDepth 100000 in
set_option maxHeartbeats 2000000 in
theorem l7Merge_any (W : World) (va vb : Value) (a b : List HvD) (hva : LiesHv W va a) (hvb : LiesHv W vb b) (hla : a.length ≤ 100000) (hlb : b.length ≤ 100000) :
    Calls Try.prog 38 #[va, vb] W fun e W' => ∃ v, e = .returned v ∧ OwnHv W' W.heap.size v (mergeHv a b) ∧ Below W.heap.size W W' := by
  have HM : Hid (OwnHv (W.alloc (.cells #[] 41)) W.heap.size (.slice (some ⟨W.heap.size, 0, none⟩) 0 0) []) := World.ownsRow_made (base := W.heap.size) (e := 41) (size := 2) W #[] 0 (Nat.le_refl _) (by decide) rfl
  have HB0 : Hid (Below W.heap.size W (W.alloc (.cells #[] 41))) := (Below.refl _ W).alloc (Nat.le_refl _) _
  have HA1 : Hid (∀ ty, ∃ v' w', (Builtin.append_ #[23, 23] ty #[.slice (some ⟨W.heap.size, 0, none⟩) 0 0, va]).run Try.prog (W.alloc (.cells #[] 41)) = .ok v' w' ∧ AppTo (W.alloc (.cells #[] 41)) W.heap.size ([] ++ a) v' w') :=
    run_to _ _ _ _ HM.out _ a _ rfl (hva.below HB0.out).src (by simp; omega) (by simp)
  have HLN : Hid (∀ k, k ≤ b.length → (mergeHv a (b.take k)).length ≤ 200000) := fun k hk => by
    have := mergeHv_len a (b.take k)
    rw [List.length_take] at this
    omega
  rcases hvb with ⟨rfl, rfl⟩ | ⟨g, o, cap, rfl, hg, hcap, hcell⟩
  · clear hva
    go_enter Try.func38, Try.ntmps38
    go_wp2_with (at_builtin; refine list_app (by rfl) (.tmp 8) (.tmp 9) 23 (by rfl) (.slice (some ⟨W.heap.size, 0, none⟩) 0 0) va (by rfl) (by rfl) _ HA1.out ?_; intro v1 w1 hg1; have HG1 : Hid (OwnHv w1 W.heap.size v1 a ∧ Below W.heap.size W w1) := ⟨hg1.own, HB0.out.trans hg1.below⟩; clear hg1)
    refine wp_loop_rounds 1 ?_
    rw [rounds_succ]
    go_wp2
    go_ret
    exact ⟨_, rfl, HG1.out⟩
  · have HC1 : Hid (∀ wr, Below W.heap.size W wr → ∀ j (hj : j < b.length), HvAt wr g (o + j * 2) b[j]) := fun wr hB j hj => (hcell j hj).below hg hB
    have HNX : Hid (∀ k (hk : k < b.length), mergeHv a (b.take (k + 1)) = putHv b[k] (mergeHv a (b.take k))) := fun k hk => by rw [List.take_succ_eq_append_getElem hk, mergeHv_snoc]
    clear hva hcell hg
    go_enter Try.func38, Try.ntmps38
    go_wp2_with (at_builtin; refine list_app (by rfl) (.tmp 8) (.tmp 9) 23 (by rfl) (.slice (some ⟨W.heap.size, 0, none⟩) 0 0) va (by rfl) (by rfl) _ HA1.out ?_; intro v1 w1 hg1; have HG1 : Hid (OwnHv w1 W.heap.size v1 a ∧ Below W.heap.size W w1) := ⟨hg1.own, HB0.out.trans hg1.below⟩; clear hg1)
    obtain ⟨a3, c3, rfl⟩ := HG1.out.1.shape
    go_loopw [5, 13] (fun v i wr => ∃ (k : Nat) (a3 : Option Addr) (c3 : Nat), k ≤ b.length ∧ i = .int .i64 k ∧ v = .slice a3 (mergeHv a (b.take k)).length c3 ∧ Hid (OwnHv wr W.heap.size (.slice a3 (mergeHv a (b.take k)).length c3) (mergeHv a (b.take k)) ∧ Below W.heap.size W wr)) (fun _ i _ => b.length - (intOf i).toNat)
    case atStart => exact ⟨0, a3, c3, Nat.zero_le _, rfl, rfl, HG1.out⟩
    case round =>
      obtain ⟨k, a3, c3, hk, rfl, rfl, HK⟩ := hrel
      by_cases hlt : k < b.length
      · have hlt' : (k : Int) < (b.length : Int) := by omega
        obtain ⟨q0, q1⟩ := HC1.out wr HK.out.2 k hlt
        have HN : Hid (mergeHv a (b.take (k + 1)) = putHv b[k] (mergeHv a (b.take k))) := HNX.out k hlt
        have HB1 : Hid (Below wr.heap.size wr (wr.alloc (.cells #[.int .i64 b[k].From, .int .i64 b[k].Seq] 41)) ∧ Below W.heap.size W (wr.alloc (.cells #[.int .i64 b[k].From, .int .i64 b[k].Seq] 41)) ∧ W.heap.size ≤ wr.heap.size) := ⟨(Below.refl _ _).alloc (Nat.le_refl _) _, HK.out.2.alloc HK.out.2.size _, HK.out.2.size⟩
        have CP : Hid (∀ w', Below wr.heap.size wr w' → Calls Try.prog 36 #[.slice a3 (mergeHv a (b.take k)).length c3, .agg #[.int .i64 b[k].From, .int .i64 b[k].Seq]] w' (PutHvPost w' (putHv b[k] (mergeHv a (b.take k))))) := fun w' hb => l7Put_any w' W.heap.size _ _ b[k] (HK.out.1.below hb) (Nat.le_trans (HLN.out k hk) (by omega))
        clear HK
        generalize b[k] = y at *
        generalize hml : mergeHv a (b.take k) = ml at *
        generalize hm2 : mergeHv a (b.take (k + 1)) = m2 at *
        clear hml
        go_wp2_with fail
        refine (CP.out _ HB1.out.1).mono ?_
        rintro e w2 ⟨v2, rfl, ho2, hb2⟩
        have HF : Hid (OwnHv w2 W.heap.size v2 m2 ∧ Below W.heap.size W w2) := ⟨by rw [HN.out]; exact ho2.mono (Nat.le_trans HB1.out.2.2 (by simp)), HB1.out.2.1.trans (hb2.mono (Nat.le_trans HB1.out.2.2 (by simp)))⟩
        clear ho2 hb2 CP HB1
        obtain ⟨a4, c4, rfl⟩ := HF.out.1.shape
        go_wp2
        go_roundw
        case rel => exact ⟨k + 1, a4, c4, by omega, by go_num, by rw [hm2], by rw [hm2]; exact HF.out⟩
        case measure => simp [intOf]; omega
      · have hlt' : ¬ (k : Int) < (b.length : Int) := by omega
        have e : k = b.length := by omega
        subst e
        rw [List.take_length] at HK
        go_wp2
        go_ret
        exact ⟨_, rfl, HK.out⟩

set_option maxHeartbeats 1000000 in
theorem copyHaves_any (W : World) (v : Value) (l : List HvD) (h : LiesHv W v l) (hl : l.length ≤ 100000) :
    Calls Try.prog 45 #[v] W fun e W' => ∃ v', e = .returned v' ∧ OwnHv W' W.heap.size v' l ∧ Below W.heap.size W W' := by
  have HA1 : Hid (∀ ty, ∃ v' w', (Builtin.append_ #[23, 23] ty #[.slice none 0 0, v]).run Try.prog W = .ok v' w' ∧ AppTo W W.heap.size ([] ++ l) v' w') :=
    run_to _ _ _ _ (OwnHv.nil W _) _ l _ rfl h.src (by simp; omega) (Nat.le_refl _)
  clear h
  go_enter Try.func45, Try.ntmps45
  go_wp2_with (at_builtin; refine list_app (by rfl) (.const (.slice none 0 0)) (.tmp 3) 23 (by rfl) (.slice none 0 0) v (by rfl) (by rfl) _ HA1.out ?_; intro v1 w1 hg1; have HG1 : Hid (OwnHv w1 W.heap.size v1 l ∧ Below W.heap.size W w1) := ⟨hg1.own, hg1.below⟩; clear hg1)
  go_ret
  exact ⟨_, rfl, HG1.out⟩
end Go.Proofs.Ytkpdiojomgiocac
