/-
  'SetRank' of the model.
-/
import Derived.Test.YtiimiiblhafajabSetRankT
namespace Go.Proofs.Ytiimiiblhafajab
open Go.RowKit
set_option linter.unusedVariables false

set_option maxRecDepth 100000 in
set_option maxHeartbeats 4000000 in
theorem specSetRank_any (W : World) (B : Nat) (v : Value) (l : List BrD) (id rank : Int) (h : OwnBr W B v l) (hl : l.length ≤ 1048576) :
    Calls Try.prog 24 #[v, .int .i64 id, .int .i64 rank] W fun e W' => ∃ v', e = .returned (.tuple #[v', .bool (rankOk l id rank)]) ∧ OwnBr W' W.heap.size v' (rankOut l id rank) ∧ Below W.heap.size W W' := by
  obtain ⟨a1, c1, rfl⟩ := h.shape
  have HO : Hid (OwnBr W B (.slice a1 l.length c1) l) := h
  have HR : Hid (ReadsBr W (.slice a1 l.length c1) l) := h.reads
  clear h
  cases hg : goodBrs l with
  | false =>
    have HN : Hid (rankOk l id rank = false ∧ rankOut l id rank = []) := by have : rankOk l id rank = false := by unfold rankOk; rw [hg]; rfl
                                                                            exact ⟨this, by unfold rankOut; rw [this]; rfl⟩
    have HG : Hid (goodBrs l = false) := hg
    obtain ⟨p, hp⟩ : ∃ p, placeB l id = p := ⟨_, rfl⟩
    have HP : Hid (placeB l id = p) := hp
    clear hg hp
    go_enter Try.func24, Try.ntmps24
    go_wp2_with fail
    refine (l4At_any _ _ l id HR.out hl).mono ?_
    rintro e w1 ⟨rfl, hb1⟩
    have S1 : Hid (Since W.heap.size W w1) := (Since.start W).step hb1
    have R1 : Hid (OwnBr w1 B (.slice a1 l.length c1) l) := HO.out.below hb1
    rw [HP.out]
    clear hb1
    go_wp2_with fail
    refine (specGoodBs_any _ _ l R1.out.reads hl).mono ?_
    rintro e w2 ⟨rfl, hb2⟩
    have S2 : Hid (Since W.heap.size W w2) := S1.out.step hb2
    have R2 : Hid (OwnBr w2 B (.slice a1 l.length c1) l) := R1.out.below hb2
    rw [HG.out]
    clear hb2
    go_wp2
    refine bodyPost_ret (results_tmp2 rfl _ _ _) rfl ?_
    rw [HN.out.1, HN.out.2]
    exact ⟨_, rfl, OwnBr.nil _ _, S2.out.1⟩
  | true =>
    have HG : Hid (goodBrs l = true) := hg
    rcases placeB_cases l id with hp | ⟨k, hkl, hp, hid⟩
    · have HN : Hid (rankOk l id rank = false ∧ rankOut l id rank = []) := by have : rankOk l id rank = false := by unfold rankOk; rw [hp]; simp
                                                                              exact ⟨this, by unfold rankOut; rw [this]; rfl⟩
      have HP : Hid (placeB l id = -1) := hp
      clear hg hp
      go_enter Try.func24, Try.ntmps24
      go_wp2_with fail
      refine (l4At_any _ _ l id HR.out hl).mono ?_
      rintro e w1 ⟨rfl, hb1⟩
      have S1 : Hid (Since W.heap.size W w1) := (Since.start W).step hb1
      have R1 : Hid (OwnBr w1 B (.slice a1 l.length c1) l) := HO.out.below hb1
      rw [HP.out]
      clear hb1
      go_wp2_with fail
      refine (specGoodBs_any _ _ l R1.out.reads hl).mono ?_
      rintro e w2 ⟨rfl, hb2⟩
      have S2 : Hid (Since W.heap.size W w2) := S1.out.step hb2
      have R2 : Hid (OwnBr w2 B (.slice a1 l.length c1) l) := R1.out.below hb2
      rw [HG.out]
      clear hb2
      go_wp2
      refine bodyPost_ret (results_tmp2 rfl _ _ _) rfl ?_
      rw [HN.out.1, HN.out.2]
      exact ⟨_, rfl, OwnBr.nil _ _, S2.out.1⟩
    · have HP : Hid (placeB l id = (k : Int)) := hp
      have hk0 : ¬ (k : Int) < 0 := by omega
      have hkl' : (k : Int) < (l.length : Int) := by omega
      by_cases hr : 0 ≤ rank ∧ rank ≤ 127
      · have HY : Hid (rankOk l id rank = true ∧ rankOut l id rank = l.set k { l[k] with rank := rank }) := rank_yes l id rank k hkl hg hp hr
        have HI : Hid (decide (0 ≤ rank ∧ rank ≤ 127) = true) := decide_eq_true hr
        have r0 : ¬ rank < 0 := by omega
        have r1 : ¬ 127 < rank := by omega
        clear hg hp hid
        go_enter Try.func24, Try.ntmps24
        go_wp2_with fail
        refine (l4At_any _ _ l id HR.out hl).mono ?_
        rintro e w1 ⟨rfl, hb1⟩
        have S1 : Hid (Since W.heap.size W w1) := (Since.start W).step hb1
        have R1 : Hid (OwnBr w1 B (.slice a1 l.length c1) l) := HO.out.below hb1
        rw [HP.out]
        clear hb1
        go_wp2_with fail
        refine (specGoodBs_any _ _ l R1.out.reads hl).mono ?_
        rintro e w2 ⟨rfl, hb2⟩
        have S2 : Hid (Since W.heap.size W w2) := S1.out.step hb2
        have R2 : Hid (OwnBr w2 B (.slice a1 l.length c1) l) := R1.out.below hb2
        rw [HG.out]
        clear hb2
        go_wp2_with fail
        refine (l1In_any rank 0 127 _).mono ?_
        rintro e w3 ⟨rfl, hw3⟩
        obtain rfl : w2 = w3 := hw3.symm
        rw [HI.out]
        have HM : Hid ((w2.alloc (.cells #[] 35)).ownsRow w2.heap.size 35 3 (.slice (some ⟨w2.heap.size, 0, none⟩) 0 0) 0 []) := World.ownsRow_made w2 #[] 0 (Nat.le_refl _) (by decide) rfl
        have HC : Hid (∀ ty, ∃ v' w', (Builtin.append_ #[23, 23] ty #[.slice (some ⟨w2.heap.size, 0, none⟩) 0 0, .slice a1 l.length c1]).run Try.prog (w2.alloc (.cells #[] 35)) = .ok v' w' ∧ Grown (w2.alloc (.cells #[] 35)) w2.heap.size 35 3 (.slice (some ⟨w2.heap.size, 0, none⟩) 0 0) ([] ++ l).length (cellsBr ([] ++ l)) v' w') := fun ty =>
          run_appBr _ w2.heap.size _ [] HM.out _ l (Src.row (R2.out.below ((Below.refl _ _).alloc (Nat.le_refl _) _))) (by simp; omega) (by simp) ty
        go_wp2_with (at_builtin; refine list_app (by rfl) (.tmp 25) (.tmp 26) 23 (by rfl) (.slice (some ⟨w2.heap.size, 0, none⟩) 0 0) (.slice a1 l.length c1) (by rfl) (by rfl) _ HC.out ?_; intro v3 w3 hg3; have HB3 : Hid (Since W.heap.size W w3) := (S2.out.step ((Below.refl _ w2).alloc (Nat.le_refl _) (.cells #[] 35))).step' hg3.below hg3.size S2.out.2; have ho3' : OwnBr w3 W.heap.size v3 l := rowMono hg3.own S2.out.2; clear hg3; (obtain ⟨g3, c3, rfl⟩ := ownBr_some ho3' (by omega)); (have HL3 : Hid (OwnBr w3 W.heap.size (.slice (some ⟨g3, 0, none⟩) l.length c3) l) := ho3'); (obtain ⟨d0, f0⟩ : ∃ c, w3.cell? ⟨g3, k * 3 + 1, none⟩ = some c := ⟨_, by rw [World.ownsRow.cellAt ho3' _ (by omega)]; exact List.getElem?_eq_getElem (by rw [cellsBr_len]; omega)⟩); (have fz0 := World.ownsRow.frozenAt ho3' (k * 3 + 1)); (have hge3 : W.heap.size ≤ g3 := (World.ownsRow.lt ho3' g3 rfl).1); (have HN4 : Hid (OwnBr (w3.setCell ⟨g3, k * 3 + 1, none⟩ (.int .i64 rank)) W.heap.size (.slice (some ⟨g3, 0, none⟩) l.length c3) (l.set k { l[k] with rank := rank })) := ho3'.set_rank k hkl rank); (have HB4 : Hid (Below W.heap.size W (w3.setCell ⟨g3, k * 3 + 1, none⟩ (.int .i64 rank))) := HB3.out.1.setCell hge3 _); (clear ho3' hge3))
        go_wp2
        refine bodyPost_ret (results_tmp2 rfl _ _ _) rfl ?_
        rw [HY.out.1, HY.out.2]
        exact ⟨_, rfl, HN4.out, HB4.out⟩
      · have HN : Hid (rankOk l id rank = false ∧ rankOut l id rank = []) := by have : rankOk l id rank = false := by unfold rankOk; rw [decide_eq_false hr]; simp
                                                                                exact ⟨this, by unfold rankOut; rw [this]; rfl⟩
        have HI : Hid (decide (0 ≤ rank ∧ rank ≤ 127) = false) := decide_eq_false hr
        clear hg hp hid
        by_cases r0 : rank < 0
        · have d0 := decide_eq_true r0
          clear hr
          go_enter Try.func24, Try.ntmps24
          go_wp2_with fail
          refine (l4At_any _ _ l id HR.out hl).mono ?_
          rintro e w1 ⟨rfl, hb1⟩
          have S1 : Hid (Since W.heap.size W w1) := (Since.start W).step hb1
          have R1 : Hid (OwnBr w1 B (.slice a1 l.length c1) l) := HO.out.below hb1
          rw [HP.out]
          clear hb1
          go_wp2_with fail
          refine (specGoodBs_any _ _ l R1.out.reads hl).mono ?_
          rintro e w2 ⟨rfl, hb2⟩
          have S2 : Hid (Since W.heap.size W w2) := S1.out.step hb2
          have R2 : Hid (OwnBr w2 B (.slice a1 l.length c1) l) := R1.out.below hb2
          rw [HG.out]
          clear hb2
          go_wp2_with fail
          refine (l1In_any rank 0 127 _).mono ?_
          rintro e w3 ⟨rfl, hw3⟩
          obtain rfl : w2 = w3 := hw3.symm
          rw [HI.out]
          go_wp2
          refine bodyPost_ret (results_tmp2 rfl _ _ _) rfl ?_
          rw [HN.out.1, HN.out.2]
          exact ⟨_, rfl, OwnBr.nil _ _, S2.out.1⟩
        · have d0 := decide_eq_false r0
          have r1 : 127 < rank := by omega
          have d1 := decide_eq_true r1
          clear hr
          go_enter Try.func24, Try.ntmps24
          go_wp2_with fail
          refine (l4At_any _ _ l id HR.out hl).mono ?_
          rintro e w1 ⟨rfl, hb1⟩
          have S1 : Hid (Since W.heap.size W w1) := (Since.start W).step hb1
          have R1 : Hid (OwnBr w1 B (.slice a1 l.length c1) l) := HO.out.below hb1
          rw [HP.out]
          clear hb1
          go_wp2_with fail
          refine (specGoodBs_any _ _ l R1.out.reads hl).mono ?_
          rintro e w2 ⟨rfl, hb2⟩
          have S2 : Hid (Since W.heap.size W w2) := S1.out.step hb2
          have R2 : Hid (OwnBr w2 B (.slice a1 l.length c1) l) := R1.out.below hb2
          rw [HG.out]
          clear hb2
          go_wp2_with fail
          refine (l1In_any rank 0 127 _).mono ?_
          rintro e w3 ⟨rfl, hw3⟩
          obtain rfl : w2 = w3 := hw3.symm
          rw [HI.out]
          go_wp2
          refine bodyPost_ret (results_tmp2 rfl _ _ _) rfl ?_
          rw [HN.out.1, HN.out.2]
          exact ⟨_, rfl, OwnBr.nil _ _, S2.out.1⟩
end Go.Proofs.Ytiimiiblhafajab
