/-
  'MergeHaves' of the program and of the model.
-/
import Derived.Test.YtkpdiojomgiocacLsMerge
import Derived.Test.YtkpdiojomgiocacLsLies
import Derived.Test.YtkpdiojomgiocacLsGood
import Derived.Test.YtkpdiojomgiocacLsGoodS
namespace Go.Proofs.Ytkpdiojomgiocac
open Go.RowKit
set_option linter.unusedVariables false

def mrgOk (a b : List HvD) : Bool := goodHv a && goodHv b && goodHv (mergeHv a b)
def mrgOut (a b : List HvD) : List HvD := if mrgOk a b then mergeHv a b else []
theorem mrgOut_len (a b : List HvD) : (mrgOut a b).length ≤ 4194304 := by
  unfold mrgOut
  split
  · next h =>
    unfold mrgOk at h
    rw [Bool.and_eq_true] at h
    have := (goodHv_true h.2).1
    omega
  · simp
theorem mrg_no {a b : List HvD} (h : mrgOk a b = false) : mrgOut a b = [] := by unfold mrgOut; rw [h]; rfl
theorem mrg_yes {a b : List HvD} (h : mrgOk a b = true) : mrgOut a b = mergeHv a b := by unfold mrgOut; rw [h]; rfl
def MrgPost (W : World) (out : List HvD) (ok : Bool) (e : Ending) (W' : World) : Prop := ∃ v', e = .returned (.tuple #[v', .bool ok]) ∧ OwnHv W' W.heap.size v' out ∧ Below W.heap.size W W'
theorem MrgPost.zero {W W' : World} (hb : Below W.heap.size W W') : MrgPost W [] false (.returned (.tuple #[.slice none 0 0, .bool false])) W' := ⟨_, rfl, OwnHv.nil _ _, hb⟩

set_option maxRecDepth 100000 in
set_option maxHeartbeats 4000000 in
theorem implMergeHaves_any (W : World) (B : Nat) (va vb : Value) (a b : List HvD) (hva : OwnHv W B va a) (hvb : OwnHv W B vb b) (hla : a.length ≤ 1048576) (hlb : b.length ≤ 1048576) :
    Calls Try.prog 9 #[va, vb] W (MrgPost W (mrgOut a b) (mrgOk a b)) := by
  have HA : Hid (OwnHv W B va a) := hva
  have HB : Hid (OwnHv W B vb b) := hvb
  have CA : Hid (Calls Try.prog 22 #[va] W fun e W' => e = .returned (.bool (goodHv a)) ∧ Below W.heap.size W W') := implGoodHv_any W va a hva.reads (by omega)
  have CB : Hid (∀ w', Below W.heap.size W w' → Calls Try.prog 22 #[vb] w' fun e W' => e = .returned (.bool (goodHv b)) ∧ Below w'.heap.size w' W') := fun w' hb => implGoodHv_any w' vb b (hvb.reads.below hb) (by omega)
  clear hva hvb
  cases hga : goodHv a with
  | false =>
    have ho : mrgOk a b = false := by unfold mrgOk; rw [hga]; rfl
    rw [mrg_no ho, ho]
    rw [hga] at CA
    clear hga ho
    go_enter Try.func9, Try.ntmps9
    go_wp2_with fail
    refine CA.out.mono ?_
    rintro e w1 ⟨rfl, hb1⟩
    have HB1 : Hid (Below W.heap.size W w1) := hb1
    clear hb1
    go_wp2
    refine bodyPost_ret (results_tmp2 rfl _ _ _) rfl ?_
    exact MrgPost.zero HB1.out
  | true =>
    rw [hga] at CA
    cases hgb : goodHv b with
    | false =>
      have ho : mrgOk a b = false := by unfold mrgOk; rw [hgb, Bool.and_false]; rfl
      rw [mrg_no ho, ho]
      rw [hgb] at CB
      clear hga hgb ho
      go_enter Try.func9, Try.ntmps9
      go_wp2_with fail
      refine CA.out.mono ?_
      rintro e w1 ⟨rfl, hb1⟩
      have HB1 : Hid (Below W.heap.size W w1) := hb1
      clear hb1
      go_wp2_with fail
      refine (CB.out _ HB1.out).mono ?_
      rintro e w2 ⟨rfl, hb2⟩
      have HB2 : Hid (Below W.heap.size W w2) := HB1.out.trans (hb2.mono HB1.out.size)
      clear hb2
      go_wp2
      refine bodyPost_ret (results_tmp2 rfl _ _ _) rfl ?_
      exact MrgPost.zero HB2.out
    | true =>
      rw [hgb] at CB
      have ha := goodHv_true hga
      have hb0 := goodHv_true hgb
      have hmr := rise_len (mergeHv_rise a b ha.2.2) (mergeHv_fit a b ha.2.1 hb0.2.1)
      have CM : Hid (∀ w', Below W.heap.size W w' → Calls Try.prog 32 #[va, vb] w' fun e W' => ∃ v, e = .returned v ∧ OwnHv W' w'.heap.size v (mergeHv a b) ∧ Below w'.heap.size w' W') := fun w' hb => mergeHaves_any w' va vb a b (HA.out.lies.below hb).reads (HB.out.lies.below hb).reads ⟨ha.2.2, ha.2.1⟩ ⟨hb0.2.2, hb0.2.1⟩
      have CG : Hid (∀ w' B' v, OwnHv w' B' v (mergeHv a b) → Calls Try.prog 22 #[v] w' fun e W' => e = .returned (.bool (goodHv (mergeHv a b))) ∧ Below w'.heap.size w' W') := fun w' B' v ho => implGoodHv_any w' v _ ho.reads (by omega)
      have HOK : Hid (mrgOk a b = goodHv (mergeHv a b)) := by show _ = _; unfold mrgOk; rw [hga, hgb]; rfl
      have HNO : Hid (mrgOk a b = false → mrgOut a b = []) := mrg_no
      have HYE : Hid (mrgOk a b = true → mrgOut a b = mergeHv a b) := mrg_yes
      clear ha hb0 hmr hga hgb
      generalize mergeHv a b = m at *
      generalize mrgOk a b = ok at *
      generalize mrgOut a b = out at *
      go_enter Try.func9, Try.ntmps9
      go_wp2_with fail
      refine CA.out.mono ?_
      rintro e w1 ⟨rfl, hb1⟩
      have HB1 : Hid (Below W.heap.size W w1) := hb1
      clear hb1
      go_wp2_with fail
      refine (CB.out _ HB1.out).mono ?_
      rintro e w2 ⟨rfl, hb2⟩
      have HB2 : Hid (Below W.heap.size W w2) := HB1.out.trans (hb2.mono HB1.out.size)
      clear hb2
      go_wp2_with fail
      refine (CM.out _ HB2.out).mono ?_
      rintro e w3 ⟨v3, rfl, ho3, hb3⟩
      have HB3 : Hid (Below W.heap.size W w3) := HB2.out.trans (hb3.mono HB2.out.size)
      have HO3 : Hid (OwnHv w3 W.heap.size v3 m) := ho3.mono HB2.out.size
      clear ho3 hb3
      obtain ⟨a3, c3, rfl⟩ := HO3.out.shape
      go_wp2_with fail
      refine (CG.out _ _ _ HO3.out).mono ?_
      rintro e w4 ⟨rfl, hb4⟩
      have HB4 : Hid (Below W.heap.size W w4) := HB3.out.trans (hb4.mono HB3.out.size)
      have HO4 : Hid (OwnHv w4 W.heap.size (.slice a3 m.length c3) m) := HO3.out.below hb4
      clear hb4
      cases hgm : goodHv m with
      | false =>
        have HZ : Hid (ok = false ∧ out = []) := ⟨HOK.out.trans hgm, HNO.out (HOK.out.trans hgm)⟩
        clear hgm
        go_wp2
        refine bodyPost_ret (results_tmp2 rfl _ _ _) rfl ?_
        rw [HZ.out.1, HZ.out.2]
        exact MrgPost.zero HB4.out
      | true =>
        have HZ : Hid (ok = true ∧ out = m) := ⟨HOK.out.trans hgm, HYE.out (HOK.out.trans hgm)⟩
        clear hgm
        go_wp2
        refine bodyPost_ret (results_tmp2 rfl _ _ _) rfl ?_
        rw [HZ.out.1, HZ.out.2]
        exact ⟨_, rfl, HO4.out, HB4.out⟩

set_option maxRecDepth 100000 in
set_option maxHeartbeats 4000000 in
theorem specMergeHaves_any (W : World) (B : Nat) (va vb : Value) (a b : List HvD) (hva : OwnHv W B va a) (hvb : OwnHv W B vb b) (hla : a.length ≤ 1048576) (hlb : b.length ≤ 1048576) :
    Calls Try.prog 21 #[va, vb] W (MrgPost W (mrgOut a b) (mrgOk a b)) := by
  have HA : Hid (OwnHv W B va a) := hva
  have HB : Hid (OwnHv W B vb b) := hvb
  have CA : Hid (Calls Try.prog 23 #[va] W fun e W' => e = .returned (.bool (goodHv a)) ∧ Below W.heap.size W W') := specGoodHv_any W va a hva.reads (by omega)
  have CB : Hid (∀ w', Below W.heap.size W w' → Calls Try.prog 23 #[vb] w' fun e W' => e = .returned (.bool (goodHv b)) ∧ Below w'.heap.size w' W') := fun w' hb => specGoodHv_any w' vb b (hvb.reads.below hb) (by omega)
  clear hva hvb
  cases hga : goodHv a with
  | false =>
    have ho : mrgOk a b = false := by unfold mrgOk; rw [hga]; rfl
    rw [mrg_no ho, ho]
    rw [hga] at CA
    clear hga ho
    go_enter Try.func21, Try.ntmps21
    go_wp2_with fail
    refine CA.out.mono ?_
    rintro e w1 ⟨rfl, hb1⟩
    have HB1 : Hid (Below W.heap.size W w1) := hb1
    clear hb1
    go_wp2
    refine bodyPost_ret (results_tmp2 rfl _ _ _) rfl ?_
    exact MrgPost.zero HB1.out
  | true =>
    rw [hga] at CA
    cases hgb : goodHv b with
    | false =>
      have ho : mrgOk a b = false := by unfold mrgOk; rw [hgb, Bool.and_false]; rfl
      rw [mrg_no ho, ho]
      rw [hgb] at CB
      clear hga hgb ho
      go_enter Try.func21, Try.ntmps21
      go_wp2_with fail
      refine CA.out.mono ?_
      rintro e w1 ⟨rfl, hb1⟩
      have HB1 : Hid (Below W.heap.size W w1) := hb1
      clear hb1
      go_wp2_with fail
      refine (CB.out _ HB1.out).mono ?_
      rintro e w2 ⟨rfl, hb2⟩
      have HB2 : Hid (Below W.heap.size W w2) := HB1.out.trans (hb2.mono HB1.out.size)
      clear hb2
      go_wp2
      refine bodyPost_ret (results_tmp2 rfl _ _ _) rfl ?_
      exact MrgPost.zero HB2.out
    | true =>
      rw [hgb] at CB
      have ha := goodHv_true hga
      have hb0 := goodHv_true hgb
      have hmr := rise_len (mergeHv_rise a b ha.2.2) (mergeHv_fit a b ha.2.1 hb0.2.1)
      have CM : Hid (∀ w', Below W.heap.size W w' → Calls Try.prog 38 #[va, vb] w' fun e W' => ∃ v, e = .returned v ∧ OwnHv W' w'.heap.size v (mergeHv a b) ∧ Below w'.heap.size w' W') := fun w' hb => l7Merge_any w' va vb a b (HA.out.lies.below hb) (HB.out.lies.below hb) (by omega) (by omega)
      have CG : Hid (∀ w' B' v, OwnHv w' B' v (mergeHv a b) → Calls Try.prog 23 #[v] w' fun e W' => e = .returned (.bool (goodHv (mergeHv a b))) ∧ Below w'.heap.size w' W') := fun w' B' v ho => specGoodHv_any w' v _ ho.reads (by omega)
      have HOK : Hid (mrgOk a b = goodHv (mergeHv a b)) := by show _ = _; unfold mrgOk; rw [hga, hgb]; rfl
      have HNO : Hid (mrgOk a b = false → mrgOut a b = []) := mrg_no
      have HYE : Hid (mrgOk a b = true → mrgOut a b = mergeHv a b) := mrg_yes
      clear ha hb0 hmr hga hgb
      generalize mergeHv a b = m at *
      generalize mrgOk a b = ok at *
      generalize mrgOut a b = out at *
      go_enter Try.func21, Try.ntmps21
      go_wp2_with fail
      refine CA.out.mono ?_
      rintro e w1 ⟨rfl, hb1⟩
      have HB1 : Hid (Below W.heap.size W w1) := hb1
      clear hb1
      go_wp2_with fail
      refine (CB.out _ HB1.out).mono ?_
      rintro e w2 ⟨rfl, hb2⟩
      have HB2 : Hid (Below W.heap.size W w2) := HB1.out.trans (hb2.mono HB1.out.size)
      clear hb2
      go_wp2_with fail
      refine (CM.out _ HB2.out).mono ?_
      rintro e w3 ⟨v3, rfl, ho3, hb3⟩
      have HB3 : Hid (Below W.heap.size W w3) := HB2.out.trans (hb3.mono HB2.out.size)
      have HO3 : Hid (OwnHv w3 W.heap.size v3 m) := ho3.mono HB2.out.size
      clear ho3 hb3
      obtain ⟨a3, c3, rfl⟩ := HO3.out.shape
      go_wp2_with fail
      refine (CG.out _ _ _ HO3.out).mono ?_
      rintro e w4 ⟨rfl, hb4⟩
      have HB4 : Hid (Below W.heap.size W w4) := HB3.out.trans (hb4.mono HB3.out.size)
      have HO4 : Hid (OwnHv w4 W.heap.size (.slice a3 m.length c3) m) := HO3.out.below hb4
      clear hb4
      cases hgm : goodHv m with
      | false =>
        have HZ : Hid (ok = false ∧ out = []) := ⟨HOK.out.trans hgm, HNO.out (HOK.out.trans hgm)⟩
        clear hgm
        go_wp2
        refine bodyPost_ret (results_tmp2 rfl _ _ _) rfl ?_
        rw [HZ.out.1, HZ.out.2]
        exact MrgPost.zero HB4.out
      | true =>
        have HZ : Hid (ok = true ∧ out = m) := ⟨HOK.out.trans hgm, HYE.out (HOK.out.trans hgm)⟩
        clear hgm
        go_wp2
        refine bodyPost_ret (results_tmp2 rfl _ _ _) rfl ?_
        rw [HZ.out.1, HZ.out.2]
        exact ⟨_, rfl, HO4.out, HB4.out⟩

end Go.Proofs.Ytkpdiojomgiocac
