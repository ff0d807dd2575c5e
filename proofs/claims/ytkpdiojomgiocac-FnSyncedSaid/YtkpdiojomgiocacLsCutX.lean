/-
  'CutHaves' of the program and of the model.
-/
import Derived.Test.YtkpdiojomgiocacLsCutI
import Derived.Test.YtkpdiojomgiocacLsCutS
import Derived.Test.YtkpdiojomgiocacLsSmMk
import Derived.Test.YtkpdiojomgiocacLsSynI
namespace Go.Proofs.Ytkpdiojomgiocac
open Go.RowKit
set_option linter.unusedVariables false

def cutOk (l : List HvD) (most : Int) : Bool := goodHv l && decide (1 ≤ most ∧ most ≤ 30)
def cutOut (l : List HvD) (most : Int) : List SmD := if cutOk l most then cutHv most.toNat l else []
theorem cutGo_small (m k : Nat) : ∀ (n : Nat) (lo : Int) (l : List HvD), l.length ≤ k → ∀ s ∈ cutGo m n lo l, s.Hs.length ≤ k
  | 0, lo, l, h, s, hs => by simp [cutGo] at hs; subst hs; exact h
  | n + 1, lo, l, h, s, hs => by
    unfold cutGo at hs
    split at hs
    · rcases List.mem_cons.1 hs with rfl | hs
      · simp only [List.length_take]; omega
      · exact cutGo_small m k n _ _ (by simp only [List.length_drop]; omega) s hs
    · simp at hs; subst hs; exact h
theorem cutOut_small (l : List HvD) (most : Int) : (cutOut l most).length ≤ 31 ∧ ∀ s ∈ cutOut l most, s.Hs.length ≤ 30 := by
  unfold cutOut
  split
  · next h =>
    have hl : l.length ≤ 30 := by
      unfold cutOk at h
      simp only [Bool.and_eq_true] at h
      exact (goodHv_true h.1).1
    exact ⟨Nat.le_trans (cut_few most.toNat l.length 1 l) (by omega), cutGo_small most.toNat 30 _ _ _ hl⟩
  · exact ⟨by simp, by simp⟩
theorem cutOut_end (l : List HvD) (most : Int) : endSm 1 (cutOut l most) ≤ 4194304 := by
  obtain ⟨h1, h2⟩ := cutOut_small l most
  have := endSm_bound 1 30 _ h2
  omega
def CutPost (W : World) (ss : List SmD) (ok : Bool) (e : Ending) (W' : World) : Prop := ∃ v', e = .returned (.tuple #[v', .bool ok]) ∧ OwnSms W' W.heap.size v' ss ∧ Below W.heap.size W W'
theorem OwnSms.nil (W : World) (B : Nat) : OwnSms W B (.slice none 0 0) [] := ⟨[], OwnSm.nil W B, rfl⟩

set_option maxRecDepth 100000 in
set_option maxHeartbeats 2000000 in
theorem implCut_any (W : World) (v : Value) (l : List HvD) (most : Int) (h : LiesHv W v l) (hl : l.length ≤ 1048576) :
    Calls Try.prog 18 #[v, .int .i64 most] W (CutPost W (cutOut l most) (cutOk l most)) := by
  obtain ⟨a1, c1, rfl⟩ := h.shape
  have CA : Hid (Calls Try.prog 22 #[.slice a1 l.length c1] W fun e W' => e = .returned (.bool (goodHv l)) ∧ Below W.heap.size W W') := implGoodHv_any W _ l h.reads (by omega)
  have CI : Hid (∀ w', Calls Try.prog 29 #[.int .i64 most] w' fun e W' => e = .returned (.bool (decide (1 ≤ most ∧ most ≤ 30))) ∧ W' = w') := fun w' => isMost_any w' most
  have H1 : Hid (∀ w', Below W.heap.size W w' → LiesHv w' (.slice a1 l.length c1) l) := fun w' hb => h.below hb
  clear h
  have fin0 : Hid (∀ w', Below W.heap.size W w' → cutOk l most = false → CutPost W (cutOut l most) (cutOk l most) (.returned (.tuple #[.slice none 0 0, .bool false])) w') := fun w' hb ho => by
    unfold cutOut
    rw [ho]
    exact ⟨_, rfl, OwnSms.nil _ _, hb⟩
  cases hga : goodHv l with
  | false =>
    have HO : Hid (cutOk l most = false) := by show _ = _; unfold cutOk; rw [hga]; rfl
    rw [hga] at CA
    clear hga
    go_enter Try.func18, Try.ntmps18
    go_wp2_with fail
    refine CA.out.mono ?_
    rintro e w1 ⟨rfl, hb1⟩
    have HB1 : Hid (Below W.heap.size W w1) := hb1
    clear hb1
    go_wp2
    refine bodyPost_ret (v := .tuple #[.slice none 0 0, .bool false]) (by simp [results, Try.results18, go_sem]) rfl ?_
    exact fin0.out _ HB1.out HO.out
  | true =>
    rw [hga] at CA
    have ha := goodHv_true hga
    by_cases hm : 1 ≤ most ∧ most ≤ 30
    · obtain ⟨m, rfl⟩ : ∃ m : Nat, most = (m : Int) := ⟨most.toNat, by omega⟩
      have hm1 : 1 ≤ m := by omega
      have hm2 : m ≤ 30 := by omega
      have HI : Hid (decide (1 ≤ (m : Int) ∧ (m : Int) ≤ 30) = true) := decide_eq_true hm
      have HOK : Hid (cutOk l (m : Int) = true) := by show _ = _; unfold cutOk; rw [hga, HI.out]; rfl
      have HOU : Hid (cutOut l (m : Int) = cutHv m l) := by show _ = _; unfold cutOut; rw [HOK.out, if_pos rfl, Int.toNat_natCast]
      have CC : Hid (∀ w', Below W.heap.size W w' → Calls Try.prog 30 #[.slice a1 l.length c1, .int .i64 (m : Int)] w' fun e W' => ∃ v' es, e = .returned v' ∧ OwnSm W' w'.heap.size v' es ∧ es.map SmE.s = cutHv m l ∧ Below w'.heap.size w' W') := fun w' hb => cutHaves_any w' _ l m (H1.out w' hb) (by omega) ha.2.1 hm1 hm2
      rw [HOU.out, HOK.out]
      rw [HI.out] at CI
      clear hga hm ha
      go_enter Try.func18, Try.ntmps18
      go_wp2_with fail
      refine CA.out.mono ?_
      rintro e w1 ⟨rfl, hb1⟩
      have HB1 : Hid (Below W.heap.size W w1) := hb1
      clear hb1
      go_wp2_with fail
      refine (CI.out _).mono ?_
      rintro e w2 ⟨rfl, hw2⟩
      obtain rfl : w1 = w2 := hw2.symm
      go_wp2_with fail
      refine (CC.out _ HB1.out).mono ?_
      rintro e w3 ⟨v', es, rfl, ho, he, hb3⟩
      have HF : Hid (OwnSms w3 W.heap.size v' (cutHv m l) ∧ Below W.heap.size W w3) := ⟨⟨es, ho.mono HB1.out.size, he⟩, HB1.out.trans (hb3.mono HB1.out.size)⟩
      clear ho he hb3
      obtain ⟨x3, y3, rfl⟩ := HF.out.1.shape
      go_wp2
      refine bodyPost_ret (v := .tuple #[.slice x3 (cutHv m l).length y3, .bool true]) (by simp [results, Try.results18, go_sem]) rfl ?_
      exact ⟨_, rfl, HF.out.1, HF.out.2⟩
    · have HI : Hid (decide (1 ≤ most ∧ most ≤ 30) = false) := decide_eq_false hm
      have HO : Hid (cutOk l most = false) := by show _ = _; unfold cutOk; rw [HI.out, Bool.and_false]
      rw [HI.out] at CI
      clear hga hm ha
      go_enter Try.func18, Try.ntmps18
      go_wp2_with fail
      refine CA.out.mono ?_
      rintro e w1 ⟨rfl, hb1⟩
      have HB1 : Hid (Below W.heap.size W w1) := hb1
      clear hb1
      go_wp2_with fail
      refine (CI.out _).mono ?_
      rintro e w2 ⟨rfl, hw2⟩
      obtain rfl : w1 = w2 := hw2.symm
      go_wp2
      refine bodyPost_ret (v := .tuple #[.slice none 0 0, .bool false]) (by simp [results, Try.results18, go_sem]) rfl ?_
      exact fin0.out _ HB1.out HO.out

set_option maxRecDepth 100000 in
set_option maxHeartbeats 2000000 in
theorem specCut_any (W : World) (v : Value) (l : List HvD) (most : Int) (h : LiesHv W v l) (hl : l.length ≤ 1048576) :
    Calls Try.prog 19 #[v, .int .i64 most] W (CutPost W (cutOut l most) (cutOk l most)) := by
  obtain ⟨a1, c1, rfl⟩ := h.shape
  have CA : Hid (Calls Try.prog 23 #[.slice a1 l.length c1] W fun e W' => e = .returned (.bool (goodHv l)) ∧ Below W.heap.size W W') := specGoodHv_any W _ l h.reads (by omega)
  have CI : Hid (∀ w', Calls Try.prog 33 #[.int .i64 most, .int .i64 1, .int .i64 30] w' fun e W' => e = .returned (.bool (decide (1 ≤ most ∧ most ≤ 30))) ∧ W' = w') := fun w' => l1In_any most 1 30 w'
  have H1 : Hid (∀ w', Below W.heap.size W w' → LiesHv w' (.slice a1 l.length c1) l) := fun w' hb => h.below hb
  clear h
  have fin0 : Hid (∀ w', Below W.heap.size W w' → cutOk l most = false → CutPost W (cutOut l most) (cutOk l most) (.returned (.tuple #[.slice none 0 0, .bool false])) w') := fun w' hb ho => by
    unfold cutOut
    rw [ho]
    exact ⟨_, rfl, OwnSms.nil _ _, hb⟩
  cases hga : goodHv l with
  | false =>
    have HO : Hid (cutOk l most = false) := by show _ = _; unfold cutOk; rw [hga]; rfl
    rw [hga] at CA
    clear hga
    go_enter Try.func19, Try.ntmps19
    go_wp2_with fail
    refine CA.out.mono ?_
    rintro e w1 ⟨rfl, hb1⟩
    have HB1 : Hid (Below W.heap.size W w1) := hb1
    clear hb1
    go_wp2
    refine bodyPost_ret (v := .tuple #[.slice none 0 0, .bool false]) (by simp [results, Try.results19, go_sem]) rfl ?_
    exact fin0.out _ HB1.out HO.out
  | true =>
    rw [hga] at CA
    have ha := goodHv_true hga
    by_cases hm : 1 ≤ most ∧ most ≤ 30
    · obtain ⟨m, rfl⟩ : ∃ m : Nat, most = (m : Int) := ⟨most.toNat, by omega⟩
      have hm1 : 1 ≤ m := by omega
      have hm2 : m ≤ 30 := by omega
      have HI : Hid (decide (1 ≤ (m : Int) ∧ (m : Int) ≤ 30) = true) := decide_eq_true hm
      have HOK : Hid (cutOk l (m : Int) = true) := by show _ = _; unfold cutOk; rw [hga, HI.out]; rfl
      have HOU : Hid (cutOut l (m : Int) = cutHv m l) := by show _ = _; unfold cutOut; rw [HOK.out, if_pos rfl, Int.toNat_natCast]
      have CC : Hid (∀ w', Below W.heap.size W w' → Calls Try.prog 34 #[.slice a1 l.length c1, .int .i64 (m : Int)] w' fun e W' => ∃ v' es, e = .returned v' ∧ OwnSm W' w'.heap.size v' es ∧ es.map SmE.s = cutHv m l ∧ Below w'.heap.size w' W') := fun w' hb => l7Cut_any w' _ l m (H1.out w' hb) (by omega) ha.2.1 hm1 hm2
      rw [HOU.out, HOK.out]
      rw [HI.out] at CI
      clear hga hm ha
      go_enter Try.func19, Try.ntmps19
      go_wp2_with fail
      refine CA.out.mono ?_
      rintro e w1 ⟨rfl, hb1⟩
      have HB1 : Hid (Below W.heap.size W w1) := hb1
      clear hb1
      go_wp2_with fail
      refine (CI.out _).mono ?_
      rintro e w2 ⟨rfl, hw2⟩
      obtain rfl : w1 = w2 := hw2.symm
      go_wp2_with fail
      refine (CC.out _ HB1.out).mono ?_
      rintro e w3 ⟨v', es, rfl, ho, he, hb3⟩
      have HF : Hid (OwnSms w3 W.heap.size v' (cutHv m l) ∧ Below W.heap.size W w3) := ⟨⟨es, ho.mono HB1.out.size, he⟩, HB1.out.trans (hb3.mono HB1.out.size)⟩
      clear ho he hb3
      obtain ⟨x3, y3, rfl⟩ := HF.out.1.shape
      go_wp2
      refine bodyPost_ret (v := .tuple #[.slice x3 (cutHv m l).length y3, .bool true]) (by simp [results, Try.results19, go_sem]) rfl ?_
      exact ⟨_, rfl, HF.out.1, HF.out.2⟩
    · have HI : Hid (decide (1 ≤ most ∧ most ≤ 30) = false) := decide_eq_false hm
      have HO : Hid (cutOk l most = false) := by show _ = _; unfold cutOk; rw [HI.out, Bool.and_false]
      rw [HI.out] at CI
      clear hga hm ha
      go_enter Try.func19, Try.ntmps19
      go_wp2_with fail
      refine CA.out.mono ?_
      rintro e w1 ⟨rfl, hb1⟩
      have HB1 : Hid (Below W.heap.size W w1) := hb1
      clear hb1
      go_wp2_with fail
      refine (CI.out _).mono ?_
      rintro e w2 ⟨rfl, hw2⟩
      obtain rfl : w1 = w2 := hw2.symm
      go_wp2
      refine bodyPost_ret (v := .tuple #[.slice none 0 0, .bool false]) (by simp [results, Try.results19, go_sem]) rfl ?_
      exact fin0.out _ HB1.out HO.out
end Go.Proofs.Ytkpdiojomgiocac
