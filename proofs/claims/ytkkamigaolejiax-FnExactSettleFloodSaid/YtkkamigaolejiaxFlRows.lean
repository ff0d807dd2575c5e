/-
  'l6Near', 'l6Rows' of the model.
-/
import Derived.Test.YtkkamigaolejiaxFlLinksB
import Derived.Test.YtkkamigaolejiaxAppSS
namespace Go.Proofs.Ytkkamigaolejiax
open Go.RowKit
set_option linter.unusedVariables false

theorem near_next (lks : List (List Int)) (b : Int) (k : Nat) (h : k < lks.length) : (lks.take (k + 1)).foldl (nearStep b) [] = nearStep b ((lks.take k).foldl (nearStep b) []) lks[k] := by
  rw [List.take_succ_eq_append_getElem h, List.foldl_append]
  rfl
theorem nearTo_len (lks : List (List Int)) (b : Int) (k : Nat) (h : k ≤ lks.length) : ((lks.take k).foldl (nearStep b) []).length ≤ 2 * lks.length := by
  have := near_len b (lks.take k) []
  rw [List.length_take, Nat.min_eq_left h] at this
  simp only [List.length_nil] at this
  omega

set_option maxRecDepth 100000 in
set_option maxHeartbeats 4000000 in
theorem l6Near_any (W : World) (v : Value) (lks : List (List Int)) (b : Int) (h : ReadsSS W v lks) (h2 : ∀ j (hj : j < lks.length), lks[j].length = 2) (hl : lks.length ≤ 15) :
    Calls Try.prog 70 #[v, .int .i64 b] W fun e W' => ∃ v', e = .returned v' ∧ Own W' W.heap.size v' (nearL lks b) ∧ Below W.heap.size W W' := by
  have HS0 : Hid (Own W W.heap.size (.slice none 0 0) ((lks.take 0).foldl (nearStep b) []) ∧ Since W.heap.size W W) := ⟨Own.nil W _, Since.start W⟩
  obtain ⟨a1, cap1, rfl, hc1⟩ := h
  rcases hc1 with hz | ⟨g1, o1, rfl, hg1, hc1⟩
  · subst hz
    simp only [List.length_nil]
    go_enter Try.func70, Try.ntmps70
    go_wp2
    refine wp_loop_rounds 1 ?_
    rw [rounds_succ]
    go_wp2
    go_ret
    exact ⟨_, rfl, HS0.out.1, Below.refl _ _⟩
  · have HC1 : Hid (∀ W1, Since W.heap.size W W1 → ∀ j (hj : j < lks.length), ∃ u, W1.cell? ⟨g1, o1 + j, none⟩ = some u ∧ Reads W1 u lks[j]) := fun W1 hS j hj => by
      obtain ⟨u, h1, h2⟩ := hc1 j hj
      exact ⟨u, (hS.1.cell (p := ⟨g1, o1 + j, none⟩) hg1).trans h1, h2.below hS.1⟩
    have H2 : Hid (∀ j (hj : j < lks.length), lks[j].length = 2) := h2
    clear hc1 hg1 h2
    go_enter Try.func70, Try.ntmps70
    go_wp2
    go_loopw [5, 10] (fun d i wr => ∃ k : Nat, k ≤ lks.length ∧ i = .int .i64 k ∧ Hid (Own wr W.heap.size d ((lks.take k).foldl (nearStep b) []) ∧ Since W.heap.size W wr)) (fun _ i _ => lks.length - (intOf i).toNat)
    case atStart => exact ⟨0, Nat.zero_le _, rfl, HS0⟩
    case round =>
      obtain ⟨k, hk, rfl, HK⟩ := hrel
      obtain ⟨ad, cd, hd⟩ := HK.out.1.shape
      subst hd
      by_cases hlt : k < lks.length
      · obtain ⟨u, hu, hr⟩ := HC1.out wr HK.out.2 k hlt
        obtain ⟨g, o, c, rfl, hgl, p0, p1⟩ := reads_two hr (H2.out k hlt)
        have hlt' : (k : Int) < (lks.length : Int) := by omega
        have HNX : Hid ((lks.take (k + 1)).foldl (nearStep b) [] = if at1 lks[k] = b then insL (at0 lks[k]) (if at0 lks[k] = b then insL (at1 lks[k]) ((lks.take k).foldl (nearStep b) []) else (lks.take k).foldl (nearStep b) []) else (if at0 lks[k] = b then insL (at1 lks[k]) ((lks.take k).foldl (nearStep b) []) else (lks.take k).foldl (nearStep b) [])) := near_next lks b k hlt
        have HLN : Hid (((lks.take k).foldl (nearStep b) []).length ≤ 90) := by have := nearTo_len lks b k hk; show _ ≤ _; omega
        have HGL : Hid (g < wr.heap.size) := hgl
        generalize hnx : (lks.take (k + 1)).foldl (nearStep b) [] = nxt at *
        have HNQ : Hid ((lks.take (k + 1)).foldl (nearStep b) [] = nxt) := hnx
        clear hnx
        generalize (lks.take k).foldl (nearStep b) [] = acc at *
        clear hr hgl
        generalize at0 lks[k] = x at *
        generalize at1 lks[k] = y at *
        have CP1 : Hid (Calls Try.prog 83 #[.slice ad acc.length cd, .int .i64 y] wr (PutPost wr W.heap.size (insL y acc))) := l1Put_any wr W.heap.size _ acc y HK.out.1 HK.out.2.2 (by have := HLN.out; omega)
        have CP2 : Hid (Calls Try.prog 83 #[.slice ad acc.length cd, .int .i64 x] wr (PutPost wr W.heap.size (insL x acc))) := l1Put_any wr W.heap.size _ acc x HK.out.1 HK.out.2.2 (by have := HLN.out; omega)
        by_cases e0 : x = b
        · have d0 : (x == b) = true := beq_iff_eq.2 e0
          rw [if_pos e0] at HNX
          clear e0 CP2
          by_cases e1 : y = b
          · have d1 : (y == b) = true := beq_iff_eq.2 e1
            rw [if_pos e1] at HNX
            clear e1
            go_wp2_with fail
            refine CP1.out.mono ?_
            rintro e w1 ⟨v1, rfl, ho1, hb1⟩
            obtain ⟨a5, c5, hv1⟩ := ho1.shape
            subst hv1
            have HS1 : Hid (Since W.heap.size W w1) := HK.out.2.step hb1
            have CP3 : Hid (Calls Try.prog 83 #[.slice a5 (insL y acc).length c5, .int .i64 x] w1 (PutPost w1 W.heap.size (insL x (insL y acc)))) := l1Put_any w1 W.heap.size _ (insL y acc) x ho1 HS1.out.2 (by have := HLN.out; have := insL_len y acc; omega)
            have p0' : w1.cell? ⟨g, o, none⟩ = some (.int .i64 x) := (hb1.cell (p := ⟨g, o, none⟩) HGL.out).trans p0
            have p1' : w1.cell? ⟨g, o + 1, none⟩ = some (.int .i64 y) := (hb1.cell (p := ⟨g, o + 1, none⟩) HGL.out).trans p1
            clear hb1 ho1 CP1
            generalize (insL y acc).length = il at *
            go_wp2_with fail
            refine CP3.out.mono ?_
            rintro e w2 ⟨v2, rfl, ho2, hb2⟩
            have HF : Hid (Own w2 W.heap.size v2 nxt ∧ Since W.heap.size W w2) := ⟨by rw [HNX.out]; exact ho2, HS1.out.step hb2⟩
            obtain ⟨a6, c6, hv2⟩ := ho2.shape
            subst hv2
            clear hb2 ho2 CP3
            generalize (insL x (insL y acc)).length = il2 at *
            go_wp2
            go_roundw
            case rel => exact ⟨k + 1, by omega, by go_num, by rw [HNQ.out]; exact HF⟩
            case measure => simp [intOf]; omega
          · have d1 : (y == b) = false := beq_eq_false_iff_ne.2 e1
            rw [if_neg e1] at HNX
            clear e1
            go_wp2_with fail
            refine CP1.out.mono ?_
            rintro e w1 ⟨v1, rfl, ho1, hb1⟩
            have HF : Hid (Own w1 W.heap.size v1 nxt ∧ Since W.heap.size W w1) := ⟨by rw [HNX.out]; exact ho1, HK.out.2.step hb1⟩
            obtain ⟨a5, c5, hv1⟩ := ho1.shape
            subst hv1
            have p0' : w1.cell? ⟨g, o, none⟩ = some (.int .i64 x) := (hb1.cell (p := ⟨g, o, none⟩) HGL.out).trans p0
            have p1' : w1.cell? ⟨g, o + 1, none⟩ = some (.int .i64 y) := (hb1.cell (p := ⟨g, o + 1, none⟩) HGL.out).trans p1
            clear hb1 ho1 CP1
            generalize (insL y acc).length = il at *
            go_wp2
            go_roundw
            case rel => exact ⟨k + 1, by omega, by go_num, by rw [HNQ.out]; exact HF⟩
            case measure => simp [intOf]; omega
        · have d0 : (x == b) = false := beq_eq_false_iff_ne.2 e0
          rw [if_neg e0] at HNX
          clear e0 CP1
          by_cases e1 : y = b
          · have d1 : (y == b) = true := beq_iff_eq.2 e1
            rw [if_pos e1] at HNX
            clear e1
            go_wp2_with fail
            refine CP2.out.mono ?_
            rintro e w1 ⟨v1, rfl, ho1, hb1⟩
            have HF : Hid (Own w1 W.heap.size v1 nxt ∧ Since W.heap.size W w1) := ⟨by rw [HNX.out]; exact ho1, HK.out.2.step hb1⟩
            obtain ⟨a5, c5, hv1⟩ := ho1.shape
            subst hv1
            clear hb1 ho1 CP2
            generalize (insL x acc).length = il at *
            go_wp2
            go_roundw
            case rel => exact ⟨k + 1, by omega, by go_num, by rw [HNQ.out]; exact HF⟩
            case measure => simp [intOf]; omega
          · have d1 : (y == b) = false := beq_eq_false_iff_ne.2 e1
            rw [if_neg e1] at HNX
            have HF : Hid (Own wr W.heap.size (.slice ad acc.length cd) nxt ∧ Since W.heap.size W wr) := by
              show _ ∧ _
              rw [HNX.out]
              exact HK.out
            clear e1 HK
            generalize acc.length = al at *
            go_wp2
            go_roundw
            case rel => exact ⟨k + 1, by omega, by go_num, by rw [HNQ.out]; exact HF⟩
            case measure => simp [intOf]; omega
      · have hlt' : ¬ (k : Int) < (lks.length : Int) := by omega
        have HF : Hid (Own wr W.heap.size (.slice ad ((lks.take k).foldl (nearStep b) []).length cd) (nearL lks b) ∧ Since W.heap.size W wr) := by
          have e : lks.take k = lks := List.take_of_length_le (by omega)
          have := HK.out
          rw [e] at this ⊢
          exact this
        clear HK
        generalize ((lks.take k).foldl (nearStep b) []).length = nl at *
        go_wp2
        go_ret
        exact ⟨_, rfl, HF.out.1, HF.out.2.1⟩
end Go.Proofs.Ytkkamigaolejiax
