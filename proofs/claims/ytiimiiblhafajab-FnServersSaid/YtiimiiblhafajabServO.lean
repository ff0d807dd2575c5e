/-
  'ServersOf' of the program and of the model.
-/
import Derived.Test.YtiimiiblhafajabServT
import Derived.Test.YtiimiiblhafajabGoodBs
import Derived.Test.YtiimiiblhafajabGoodBsS
namespace Go.Proofs.Ytiimiiblhafajab
open Go.RowKit
set_option linter.unusedVariables false

def cntB (g : Int) : Bool := decide (0 ≤ g ∧ g ≤ 40)
def servOk (l : List BrD) (groups : Int) : Bool := goodBrs l && cntB groups
def servOut (l : List BrD) (groups : Int) : List Int := if servOk l groups then servL l groups.toNat else []
theorem servOut_len (l : List BrD) (groups : Int) : (servOut l groups).length ≤ 4194304 := by
  unfold servOut
  split
  · next h =>
    unfold servOk cntB at h
    simp only [Bool.and_eq_true, decide_eq_true_eq] at h
    rw [servL_len]
    omega
  · simp

theorem isGroupCount_any (g : Int) (W : World) : Calls Try.prog 45 #[.int .i64 g] W fun e W' => e = .returned (.bool (cntB g)) ∧ W' = W := by
  by_cases h1 : 0 ≤ g
  · have d1 : decide (0 ≤ g) = true := by simp; omega
    have HE : Hid (decide (g ≤ 40) = cntB g) := by
      show _ = _
      unfold cntB
      rw [Bool.eq_iff_iff]
      simp
      omega
    go_enter Try.func45, Try.ntmps45
    go_wp2
    go_ret
    exact ⟨ret_bool HE.out, rfl⟩
  · have d1 : decide (0 ≤ g) = false := by simp; omega
    have HE : Hid (false = cntB g) := by
      show _ = _
      unfold cntB
      rw [Bool.eq_iff_iff]
      simp
      omega
    go_enter Try.func45, Try.ntmps45
    go_wp2
    go_ret
    exact ⟨ret_bool HE.out, rfl⟩

set_option maxRecDepth 100000 in
set_option maxHeartbeats 2000000 in
theorem implServers_any (W : World) (B : Nat) (v : Value) (l : List BrD) (groups : Int) (h : OwnBr W B v l) (hl : l.length ≤ 1048576) :
    Calls Try.prog 19 #[v, .int .i64 groups] W fun e W' => ∃ v', e = .returned (.tuple #[v', .bool (servOk l groups)]) ∧ Own W' W.heap.size v' (servOut l groups) ∧ Below W.heap.size W W' := by
  obtain ⟨a1, c1, rfl⟩ := h.shape
  have HO : Hid (OwnBr W B (.slice a1 l.length c1) l) := h
  clear h
  cases hg : goodBrs l with
  | false =>
    have HN : Hid (servOk l groups = false ∧ servOut l groups = []) := by
      have e : servOk l groups = false := by unfold servOk; rw [hg]; rfl
      exact ⟨e, by unfold servOut; rw [e]; rfl⟩
    have HG : Hid (goodBrs l = false) := hg
    clear hg
    go_enter Try.func19, Try.ntmps19
    go_wp2_with fail
    refine (implGoodBs_any _ _ l HO.out.reads hl).mono ?_
    rintro e w1 ⟨rfl, hb1⟩
    rw [HG.out]
    have S1 : Hid (Since W.heap.size W w1) := (Since.start W).step hb1
    have O1 : Hid (OwnBr w1 B (.slice a1 l.length c1) l) := HO.out.below hb1
    clear hb1
    go_wp2
    refine bodyPost_ret (results_tmp2 rfl _ _ _) rfl ?_
    rw [HN.out.1, HN.out.2]
    exact ⟨_, rfl, Own.nil _ _, S1.out.1⟩
  | true =>
    have HG : Hid (goodBrs l = true) := hg
    cases hc : cntB groups with
    | false =>
      have HN : Hid (servOk l groups = false ∧ servOut l groups = []) := by
        have e : servOk l groups = false := by unfold servOk; rw [hg, hc]; rfl
        exact ⟨e, by unfold servOut; rw [e]; rfl⟩
      have HC : Hid (cntB groups = false) := hc
      clear hg hc
      go_enter Try.func19, Try.ntmps19
      go_wp2_with fail
      refine (implGoodBs_any _ _ l HO.out.reads hl).mono ?_
      rintro e w1 ⟨rfl, hb1⟩
      rw [HG.out]
      have S1 : Hid (Since W.heap.size W w1) := (Since.start W).step hb1
      have O1 : Hid (OwnBr w1 B (.slice a1 l.length c1) l) := HO.out.below hb1
      clear hb1
      go_wp2_with fail
      refine (isGroupCount_any groups _).mono ?_
      rintro e w2 ⟨rfl, hw2⟩
      obtain rfl : w1 = w2 := hw2.symm
      rw [HC.out]
      go_wp2
      refine bodyPost_ret (results_tmp2 rfl _ _ _) rfl ?_
      rw [HN.out.1, HN.out.2]
      exact ⟨_, rfl, Own.nil _ _, S1.out.1⟩
    | true =>
      have e : servOk l groups = true := by unfold servOk; rw [hg, hc]; rfl
      have hcc : 0 ≤ groups ∧ groups ≤ 40 := of_decide_eq_true hc
      obtain ⟨n, rfl⟩ : ∃ n : Nat, groups = (n : Int) := ⟨groups.toNat, by omega⟩
      have HY : Hid (servOk l (n : Int) = true ∧ servOut l (n : Int) = servL l n) := ⟨e, by unfold servOut; rw [e]; rfl⟩
      have HC : Hid (cntB (n : Int) = true) := hc
      have hn : n ≤ 40 := by omega
      clear hg hc e hcc
      go_enter Try.func19, Try.ntmps19
      go_wp2_with fail
      refine (implGoodBs_any _ _ l HO.out.reads hl).mono ?_
      rintro e w1 ⟨rfl, hb1⟩
      rw [HG.out]
      have S1 : Hid (Since W.heap.size W w1) := (Since.start W).step hb1
      have O1 : Hid (OwnBr w1 B (.slice a1 l.length c1) l) := HO.out.below hb1
      clear hb1
      go_wp2_with fail
      refine (isGroupCount_any (n : Int) _).mono ?_
      rintro e w2 ⟨rfl, hw2⟩
      obtain rfl : w1 = w2 := hw2.symm
      rw [HC.out]
      go_wp2_with fail
      refine (serversFor_any _ _ _ l n O1.out hl HG.out hn).mono ?_
      rintro e w3 ⟨v3, rfl, ho3, hb3⟩
      have S3 : Hid (Since W.heap.size W w3) := S1.out.step hb3
      have O3 : Hid (Own w3 W.heap.size v3 (servL l n)) := ho3.mono S1.out.2
      clear ho3 hb3
      go_wp2
      refine bodyPost_ret (results_tmp2 rfl _ _ _) rfl ?_
      rw [HY.out.1, HY.out.2]
      exact ⟨_, rfl, O3.out, S3.out.1⟩

set_option maxRecDepth 100000 in
set_option maxHeartbeats 2000000 in
theorem specServers_any (W : World) (B : Nat) (v : Value) (l : List BrD) (groups : Int) (h : OwnBr W B v l) (hl : l.length ≤ 1048576) :
    Calls Try.prog 20 #[v, .int .i64 groups] W fun e W' => ∃ v', e = .returned (.tuple #[v', .bool (servOk l groups)]) ∧ Own W' W.heap.size v' (servOut l groups) ∧ Below W.heap.size W W' := by
  obtain ⟨a1, c1, rfl⟩ := h.shape
  have HO : Hid (OwnBr W B (.slice a1 l.length c1) l) := h
  clear h
  cases hg : goodBrs l with
  | false =>
    have HN : Hid (servOk l groups = false ∧ servOut l groups = []) := by
      have e : servOk l groups = false := by unfold servOk; rw [hg]; rfl
      exact ⟨e, by unfold servOut; rw [e]; rfl⟩
    have HG : Hid (goodBrs l = false) := hg
    clear hg
    go_enter Try.func20, Try.ntmps20
    go_wp2_with fail
    refine (specGoodBs_any _ _ l HO.out.reads hl).mono ?_
    rintro e w1 ⟨rfl, hb1⟩
    rw [HG.out]
    have S1 : Hid (Since W.heap.size W w1) := (Since.start W).step hb1
    have O1 : Hid (OwnBr w1 B (.slice a1 l.length c1) l) := HO.out.below hb1
    clear hb1
    go_wp2
    refine bodyPost_ret (results_tmp2 rfl _ _ _) rfl ?_
    rw [HN.out.1, HN.out.2]
    exact ⟨_, rfl, Own.nil _ _, S1.out.1⟩
  | true =>
    have HG : Hid (goodBrs l = true) := hg
    cases hc : cntB groups with
    | false =>
      have HN : Hid (servOk l groups = false ∧ servOut l groups = []) := by
        have e : servOk l groups = false := by unfold servOk; rw [hg, hc]; rfl
        exact ⟨e, by unfold servOut; rw [e]; rfl⟩
      have HC : Hid (cntB groups = false) := hc
      clear hg hc
      go_enter Try.func20, Try.ntmps20
      go_wp2_with fail
      refine (specGoodBs_any _ _ l HO.out.reads hl).mono ?_
      rintro e w1 ⟨rfl, hb1⟩
      rw [HG.out]
      have S1 : Hid (Since W.heap.size W w1) := (Since.start W).step hb1
      have O1 : Hid (OwnBr w1 B (.slice a1 l.length c1) l) := HO.out.below hb1
      clear hb1
      go_wp2_with fail
      refine (l1In_any groups 0 40 _).mono ?_
      rintro e w2 ⟨rfl, hw2⟩
      obtain rfl : w1 = w2 := hw2.symm
      rw [show decide (0 ≤ groups ∧ groups ≤ 40) = _ from HC.out]
      go_wp2
      refine bodyPost_ret (results_tmp2 rfl _ _ _) rfl ?_
      rw [HN.out.1, HN.out.2]
      exact ⟨_, rfl, Own.nil _ _, S1.out.1⟩
    | true =>
      have e : servOk l groups = true := by unfold servOk; rw [hg, hc]; rfl
      have hcc : 0 ≤ groups ∧ groups ≤ 40 := of_decide_eq_true hc
      obtain ⟨n, rfl⟩ : ∃ n : Nat, groups = (n : Int) := ⟨groups.toNat, by omega⟩
      have HY : Hid (servOk l (n : Int) = true ∧ servOut l (n : Int) = servL l n) := ⟨e, by unfold servOut; rw [e]; rfl⟩
      have HC : Hid (cntB (n : Int) = true) := hc
      have hn : n ≤ 40 := by omega
      clear hg hc e hcc
      go_enter Try.func20, Try.ntmps20
      go_wp2_with fail
      refine (specGoodBs_any _ _ l HO.out.reads hl).mono ?_
      rintro e w1 ⟨rfl, hb1⟩
      rw [HG.out]
      have S1 : Hid (Since W.heap.size W w1) := (Since.start W).step hb1
      have O1 : Hid (OwnBr w1 B (.slice a1 l.length c1) l) := HO.out.below hb1
      clear hb1
      go_wp2_with fail
      refine (l1In_any (n : Int) 0 40 _).mono ?_
      rintro e w2 ⟨rfl, hw2⟩
      obtain rfl : w1 = w2 := hw2.symm
      rw [show decide (0 ≤ (n : Int) ∧ (n : Int) ≤ 40) = _ from HC.out]
      go_wp2_with fail
      refine (l4Servers_any _ _ _ l n O1.out hl HG.out hn).mono ?_
      rintro e w3 ⟨v3, rfl, ho3, hb3⟩
      have S3 : Hid (Since W.heap.size W w3) := S1.out.step hb3
      have O3 : Hid (Own w3 W.heap.size v3 (servL l n)) := ho3.mono S1.out.2
      clear ho3 hb3
      go_wp2
      refine bodyPost_ret (results_tmp2 rfl _ _ _) rfl ?_
      rw [HY.out.1, HY.out.2]
      exact ⟨_, rfl, O3.out, S3.out.1⟩
end Go.Proofs.Ytiimiiblhafajab
