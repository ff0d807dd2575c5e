/-
  What a part holds, as the program puts it behind an interface: 'bodyOf', and what 'good' answers of each.
-/
import Derived.Test.YtijlhjfllfjllaaTests
import Derived.Test.YtijlhjfllfjllaaLawPart
namespace Go.Proofs.Ytijlhjfllfjllaa
open Go.RowKit

/-- Whether a name, a list, a flag is good. -/
def nameB (t : ByteArray) : Bool := decide (1 ≤ t.size) && (decide (t.size ≤ 20) && lettersB t)
def listB (zs : List Int) : Bool := numsB zs && risesB zs
def flagB (zs : List Int) : Bool := decide (zs.length = 1) && (decide (zs.getD 0 0 = 0) || decide (zs.getD 0 0 = 1))

set_option maxRecDepth 100000 in
set_option maxHeartbeats 1000000 in
theorem nameGood_any (t : ByteArray) (W : World) (hm : t.size ≤ 1048576) :
    Calls Try.prog 113 #[.agg #[.string t]] W fun e W' => e = .returned (.bool (nameB t)) ∧ Below W.heap.size W W' := by
  by_cases h1 : 1 ≤ t.size
  · have d1 : decide ((1 : Int) ≤ (t.size : Int)) = true := by simp; omega
    by_cases h2 : t.size ≤ 20
    · have d2 : decide ((t.size : Int) ≤ 20) = true := by simp; omega
      have HE : Hid (nameB t = lettersB t) := by show _ = _; unfold nameB; rw [decide_eq_true h1, decide_eq_true h2]; rfl
      go_enter Try.func113, Try.ntmps113
      go_wp2_with (go_at_call 114; refine (isLetters_any t _ hm).mono ?_; rintro e w' ⟨rfl, rfl⟩)
      go_ret
      exact ⟨ret_bool HE.out.symm, (Below.refl _ W).alloc (Nat.le_refl _) _⟩
    · have d2 : decide ((t.size : Int) ≤ 20) = false := by simp; omega
      have HE : Hid (nameB t = false) := by show _ = _; unfold nameB; rw [decide_eq_false h2, Bool.false_and, Bool.and_false]
      go_enter Try.func113, Try.ntmps113
      go_wp2
      go_ret
      exact ⟨ret_bool HE.out.symm, (Below.refl _ W).alloc (Nat.le_refl _) _⟩
  · have d1 : decide ((1 : Int) ≤ (t.size : Int)) = false := by simp; omega
    have HE : Hid (nameB t = false) := by show _ = _; unfold nameB; rw [decide_eq_false h1, Bool.false_and]
    go_enter Try.func113, Try.ntmps113
    go_wp2
    go_ret
    exact ⟨ret_bool HE.out.symm, (Below.refl _ W).alloc (Nat.le_refl _) _⟩

set_option maxRecDepth 100000 in
set_option maxHeartbeats 1000000 in
theorem listGood_any (W : World) (v : Value) (zs : List Int) (h : Reads W v zs) (hl : zs.length ≤ 4194304) :
    Calls Try.prog 115 #[.agg #[v]] W fun e W' => e = .returned (.bool (listB zs)) ∧ Below W.heap.size W W' := by
  obtain ⟨a1, c1, rfl⟩ := h.shape
  have HR : Hid (∀ W1, Below W.heap.size W W1 → Reads W1 (.slice a1 zs.length c1) zs) := fun W1 hb => h.below hb
  clear h
  cases hB : numsB zs with
  | true =>
    have H : Hid (numsB zs = true) := hB
    have HE : Hid (listB zs = risesB zs) := by show _ = _; unfold listB; rw [hB, Bool.true_and]
    clear hB
    go_enter Try.func115, Try.ntmps115
    go_wp2_with fail
    refine (isNums_any _ _ zs (HR.out _ ((Below.refl _ W).alloc (Nat.le_refl _) _)) hl).mono ?_
    rintro e w' ⟨rfl, rfl⟩
    rw [H.out]
    go_wp2_with fail
    refine (isRising_any _ _ zs (HR.out _ ((Below.refl _ W).alloc (Nat.le_refl _) _)) hl).mono ?_
    rintro e w' ⟨rfl, hb⟩
    have HB : Hid (Below W.heap.size W w') := ((Below.refl _ W).alloc (Nat.le_refl _) _).trans (hb.mono (by simp))
    clear hb
    go_wp2
    go_ret
    exact ⟨ret_bool HE.out.symm, HB.out⟩
  | false =>
    have H : Hid (numsB zs = false) := hB
    have HE : Hid (listB zs = false) := by show _ = _; unfold listB; rw [hB, Bool.false_and]
    clear hB
    go_enter Try.func115, Try.ntmps115
    go_wp2_with fail
    refine (isNums_any _ _ zs (HR.out _ ((Below.refl _ W).alloc (Nat.le_refl _) _)) hl).mono ?_
    rintro e w' ⟨rfl, rfl⟩
    rw [H.out]
    go_wp2
    go_ret
    exact ⟨ret_bool HE.out.symm, (Below.refl _ W).alloc (Nat.le_refl _) _⟩

set_option maxRecDepth 100000 in
set_option maxHeartbeats 1000000 in
theorem flagGood_any (W : World) (v : Value) (zs : List Int) (h : Reads W v zs) (hl : zs.length ≤ 4194304) :
    Calls Try.prog 118 #[.agg #[v]] W fun e W' => e = .returned (.bool (flagB zs)) ∧ Below W.heap.size W W' := by
  obtain ⟨a1, cap1, rfl, hc1⟩ := h
  by_cases h1 : zs.length = 1
  · rcases hc1 with rfl | ⟨g1, o1, rfl, hg1, hc1⟩
    · cases h1
    · obtain ⟨z, rfl⟩ : ∃ z, zs = [z] := List.length_eq_one_iff.1 h1
      have c0 := hc1 0 (by simp)
      simp only [Nat.add_zero, List.getElem_cons_zero] at c0
      clear hc1
      simp only [List.length_cons, List.length_nil, Nat.zero_add]
      by_cases e0 : z = 0
      · subst e0
        have HE : Hid (flagB [0] = true) := rfl
        go_enter Try.func118, Try.ntmps118
        go_wp2
        go_ret
        exact ⟨ret_bool HE.out.symm, (Below.refl _ W).alloc (Nat.le_refl _) _⟩
      · have d0 : (z == 0) = false := by simp [e0]
        by_cases e1 : z = 1
        · subst e1
          have HE : Hid (flagB [1] = true) := rfl
          go_enter Try.func118, Try.ntmps118
          go_wp2
          go_ret
          exact ⟨ret_bool HE.out.symm, (Below.refl _ W).alloc (Nat.le_refl _) _⟩
        · have d1 : (z == 1) = false := by simp [e1]
          have HE : Hid (flagB [z] = false) := by show _ = _; unfold flagB; simp [e0, e1]
          clear e0 e1
          go_enter Try.func118, Try.ntmps118
          go_wp2
          go_ret
          exact ⟨ret_bool HE.out.symm, (Below.refl _ W).alloc (Nat.le_refl _) _⟩
  · have d1 : ((zs.length : Int) == 1) = false := by simp; omega
    have HE : Hid (flagB zs = false) := by show _ = _; unfold flagB; rw [decide_eq_false h1, Bool.false_and]
    clear hc1 h1
    go_enter Try.func118, Try.ntmps118
    go_wp2
    go_ret
    exact ⟨ret_bool HE.out.symm, (Below.refl _ W).alloc (Nat.le_refl _) _⟩

/-- What is behind the interface. -/
def brokenV : Value := .iface 113 (.agg #[])
def strangeV : Value := .iface 114 (.agg #[])
def bodyV (k : Int) (t : ByteArray) (n : Nat) (v : Value) : Value :=
  if k = 1 then (if n = 0 then .iface 116 (.agg #[.string t]) else brokenV)
  else if k = 2 ∨ k = 3 then (if t.size = 0 then .iface 118 (.agg #[v]) else brokenV)
  else if k = 4 then (if t.size = 0 then .iface 120 (.agg #[v]) else brokenV)
  else strangeV

theorem some_of (t : ByteArray) (h : ¬ t.size = 0) : t.toList.isEmpty = false := by
  rw [ByteArray.toList_eq]
  cases e : t.data.toList with
  | nil => exact absurd (by rw [ByteArray.size, ← Array.length_toList, e]; rfl) h
  | cons a l => rfl
theorem empty_of (t : ByteArray) (h : t.size = 0) : t = ⟨#[]⟩ := ByteArray.ext (Array.eq_empty_of_size_eq_zero h)

set_option maxRecDepth 100000 in
set_option maxHeartbeats 2000000 in
theorem bodyOf_any (W : World) (k : Int) (t : ByteArray) (a : Option Addr) (n cap : Nat) (hn : n ≤ 4194304) :
    Calls Try.prog 71 #[partV k t (.slice a n cap)] W fun e W' => e = .returned (bodyV k t n (.slice a n cap)) ∧ Below W.heap.size W W' := by
  unfold partV
  by_cases k1 : k = 1
  · subst k1
    by_cases hn0 : n = 0
    · subst hn0
      have HE : Hid (bodyV 1 t 0 (.slice a 0 cap) = .iface 116 (.agg #[.string t])) := rfl
      go_enter Try.func71, Try.ntmps71
      go_wp2
      go_ret
      exact ⟨by rw [HE.out]; rfl, (Below.refl _ W).alloc (Nat.le_refl _) _⟩
    · have d : ((n : Int) == 0) = false := by simp; omega
      have HE : Hid (bodyV 1 t n (.slice a n cap) = brokenV) := by show _ = _; unfold bodyV; rw [if_pos rfl, if_neg hn0]
      go_enter Try.func71, Try.ntmps71
      go_wp2
      go_ret
      exact ⟨by rw [HE.out]; rfl, (Below.refl _ W).alloc (Nat.le_refl _) _⟩
  · have d1 : (k == 1) = false := by simp [k1]
    by_cases k2 : k = 2 ∨ k = 3
    · by_cases ht : t.size = 0
      · obtain rfl := empty_of t ht
        have HE : Hid (bodyV k ⟨#[]⟩ n (.slice a n cap) = .iface 118 (.agg #[.slice a n cap])) := by show _ = _; unfold bodyV; rw [if_neg k1, if_pos k2, if_pos ht]
        rcases k2 with rfl | rfl
        all_goals
          go_enter Try.func71, Try.ntmps71
          go_wp2
          go_ret
          exact ⟨by rw [HE.out]; rfl, (Below.refl _ W).alloc (Nat.le_refl _) _⟩
      · have HE : Hid (bodyV k t n (.slice a n cap) = brokenV) := by show _ = _; unfold bodyV; rw [if_neg k1, if_pos k2, if_neg ht]
        have hs := some_of t ht
        rcases k2 with rfl | rfl
        all_goals
          go_enter Try.func71, Try.ntmps71
          go_wp2
          go_ret
          exact ⟨by rw [HE.out]; rfl, (Below.refl _ W).alloc (Nat.le_refl _) _⟩
    · have d2 : (k == 2) = false := by simp; omega
      have d3 : (k == 3) = false := by simp; omega
      by_cases k4 : k = 4
      · by_cases ht : t.size = 0
        · obtain rfl := empty_of t ht
          have HE : Hid (bodyV k ⟨#[]⟩ n (.slice a n cap) = .iface 120 (.agg #[.slice a n cap])) := by show _ = _; unfold bodyV; rw [if_neg k1, if_neg k2, if_pos k4, if_pos ht]
          subst k4
          go_enter Try.func71, Try.ntmps71
          go_wp2
          go_ret
          exact ⟨by rw [HE.out]; rfl, (Below.refl _ W).alloc (Nat.le_refl _) _⟩
        · have HE : Hid (bodyV k t n (.slice a n cap) = brokenV) := by show _ = _; unfold bodyV; rw [if_neg k1, if_neg k2, if_pos k4, if_neg ht]
          have hs := some_of t ht
          subst k4
          go_enter Try.func71, Try.ntmps71
          go_wp2
          go_ret
          exact ⟨by rw [HE.out]; rfl, (Below.refl _ W).alloc (Nat.le_refl _) _⟩
      · have d4 : (k == 4) = false := by simp [k4]
        have HE : Hid (bodyV k t n (.slice a n cap) = strangeV) := by show _ = _; unfold bodyV; rw [if_neg k1, if_neg k2, if_neg k4]
        clear k1 k2 k4
        go_enter Try.func71, Try.ntmps71
        go_wp2
        go_ret
        exact ⟨by rw [HE.out]; rfl, (Below.refl _ W).alloc (Nat.le_refl _) _⟩

/-- Whether a part is good. -/
def goodB (k : Int) (t : ByteArray) (zs : List Int) : Bool :=
  if k = 1 then (if zs.length = 0 then nameB t else false)
  else if k = 2 ∨ k = 3 then (if t.size = 0 then listB zs else false)
  else if k = 4 then (if t.size = 0 then flagB zs else false)
  else false

theorem method_name (t : ByteArray) (w : World) : (method 251 116 (.agg #[.string t]) "loop.example/g00575/impl.good").run Try.prog w = .ok (113, .agg #[.string t]) w := by kernel_rfl
theorem method_list (v : Value) (w : World) : (method 251 118 (.agg #[v]) "loop.example/g00575/impl.good").run Try.prog w = .ok (115, .agg #[v]) w := by kernel_rfl
theorem method_flag (v : Value) (w : World) : (method 251 120 (.agg #[v]) "loop.example/g00575/impl.good").run Try.prog w = .ok (118, .agg #[v]) w := by kernel_rfl
theorem method_broken (w : World) : (method 251 113 (.agg #[]) "loop.example/g00575/impl.good").run Try.prog w = .ok (111, .agg #[]) w := by kernel_rfl
theorem method_strange (w : World) : (method 251 114 (.agg #[]) "loop.example/g00575/impl.good").run Try.prog w = .ok (112, .agg #[]) w := by kernel_rfl

theorem brokenGood (w : World) : Calls Try.prog 111 #[.agg #[]] w fun e w' => e = .returned (.bool false) ∧ Below w.heap.size w w' := by
  go_enter Try.func111, Try.ntmps111
  go_wp2
  go_ret
  exact ⟨rfl, (Below.refl _ w).alloc (Nat.le_refl _) _⟩
theorem strangeGood (w : World) : Calls Try.prog 112 #[.agg #[]] w fun e w' => e = .returned (.bool false) ∧ Below w.heap.size w w' := by
  go_enter Try.func112, Try.ntmps112
  go_wp2
  go_ret
  exact ⟨rfl, (Below.refl _ w).alloc (Nat.le_refl _) _⟩

set_option maxRecDepth 100000 in
set_option maxHeartbeats 2000000 in
theorem implGood_any (W : World) (k : Int) (t : ByteArray) (v : Value) (zs : List Int) (h : Reads W v zs) (hl : zs.length ≤ 1048576) (ht : t.size ≤ 1048576) :
    Calls Try.prog 70 #[partV k t v] W fun e W' => e = .returned (.bool (goodB k t zs)) ∧ Below W.heap.size W W' := by
  obtain ⟨a1, c1, rfl⟩ := h.shape
  have HR : Hid (∀ W1, Below W.heap.size W W1 → Reads W1 (.slice a1 zs.length c1) zs) := fun W1 hb => h.below hb
  clear h
  unfold partV
  go_enter Try.func70, Try.ntmps70
  go_wp2_with fail
  refine (bodyOf_any _ k t a1 zs.length c1 (by omega)).mono ?_
  rintro e w1 ⟨rfl, hb⟩
  have HB : Hid (Since W.heap.size W w1) := (Since.start W).step (((Below.refl _ W).alloc (Nat.le_refl _) _).trans (hb.mono (by simp)))
  clear hb
  have mb := method_broken w1
  by_cases k1 : k = 1
  · by_cases hn0 : zs.length = 0
    · rw [show bodyV k t zs.length (.slice a1 zs.length c1) = .iface 116 (.agg #[.string t]) from by unfold bodyV; rw [if_pos k1, if_pos hn0]]
      have HE : Hid (goodB k t zs = nameB t) := by show _ = _; unfold goodB; rw [if_pos k1, if_pos hn0]
      have mm := method_name t w1
      clear k1 hn0 mb
      go_wp2_with fail
      refine (nameGood_any t _ ht).mono ?_
      rintro e w2 ⟨rfl, hb⟩
      go_wp2
      go_ret
      exact ⟨ret_bool HE.out.symm, (HB.out.step hb).1⟩
    · rw [show bodyV k t zs.length (.slice a1 zs.length c1) = .iface 113 (.agg #[]) from by unfold bodyV; rw [if_pos k1, if_neg hn0]; rfl]
      have HE : Hid (goodB k t zs = false) := by show _ = _; unfold goodB; rw [if_pos k1, if_neg hn0]
      clear k1 hn0
      go_wp2_with fail
      refine (brokenGood _).mono ?_
      rintro e w2 ⟨rfl, hb⟩
      go_wp2
      go_ret
      exact ⟨ret_bool HE.out.symm, (HB.out.step hb).1⟩
  · by_cases k2 : k = 2 ∨ k = 3
    · by_cases h0 : t.size = 0
      · rw [show bodyV k t zs.length (.slice a1 zs.length c1) = .iface 118 (.agg #[.slice a1 zs.length c1]) from by unfold bodyV; rw [if_neg k1, if_pos k2, if_pos h0]]
        have HE : Hid (goodB k t zs = listB zs) := by show _ = _; unfold goodB; rw [if_neg k1, if_pos k2, if_pos h0]
        have mm := method_list (.slice a1 zs.length c1) w1
        clear k1 k2 h0 mb
        go_wp2_with fail
        refine (listGood_any _ _ zs (HR.out _ HB.out.1) (by omega)).mono ?_
        rintro e w2 ⟨rfl, hb⟩
        go_wp2
        go_ret
        exact ⟨ret_bool HE.out.symm, (HB.out.step hb).1⟩
      · rw [show bodyV k t zs.length (.slice a1 zs.length c1) = .iface 113 (.agg #[]) from by unfold bodyV; rw [if_neg k1, if_pos k2, if_neg h0]; rfl]
        have HE : Hid (goodB k t zs = false) := by show _ = _; unfold goodB; rw [if_neg k1, if_pos k2, if_neg h0]
        clear k1 k2 h0
        go_wp2_with fail
        refine (brokenGood _).mono ?_
        rintro e w2 ⟨rfl, hb⟩
        go_wp2
        go_ret
        exact ⟨ret_bool HE.out.symm, (HB.out.step hb).1⟩
    · by_cases k4 : k = 4
      · by_cases h0 : t.size = 0
        · rw [show bodyV k t zs.length (.slice a1 zs.length c1) = .iface 120 (.agg #[.slice a1 zs.length c1]) from by unfold bodyV; rw [if_neg k1, if_neg k2, if_pos k4, if_pos h0]]
          have HE : Hid (goodB k t zs = flagB zs) := by show _ = _; unfold goodB; rw [if_neg k1, if_neg k2, if_pos k4, if_pos h0]
          have mm := method_flag (.slice a1 zs.length c1) w1
          clear k1 k2 k4 h0 mb
          go_wp2_with fail
          refine (flagGood_any _ _ zs (HR.out _ HB.out.1) (by omega)).mono ?_
          rintro e w2 ⟨rfl, hb⟩
          go_wp2
          go_ret
          exact ⟨ret_bool HE.out.symm, (HB.out.step hb).1⟩
        · rw [show bodyV k t zs.length (.slice a1 zs.length c1) = .iface 113 (.agg #[]) from by unfold bodyV; rw [if_neg k1, if_neg k2, if_pos k4, if_neg h0]; rfl]
          have HE : Hid (goodB k t zs = false) := by show _ = _; unfold goodB; rw [if_neg k1, if_neg k2, if_pos k4, if_neg h0]
          clear k1 k2 k4 h0
          go_wp2_with fail
          refine (brokenGood _).mono ?_
          rintro e w2 ⟨rfl, hb⟩
          go_wp2
          go_ret
          exact ⟨ret_bool HE.out.symm, (HB.out.step hb).1⟩
      · rw [show bodyV k t zs.length (.slice a1 zs.length c1) = .iface 114 (.agg #[]) from by unfold bodyV; rw [if_neg k1, if_neg k2, if_neg k4]; rfl]
        have HE : Hid (goodB k t zs = false) := by show _ = _; unfold goodB; rw [if_neg k1, if_neg k2, if_neg k4]
        have mm := method_strange w1
        clear k1 k2 k4 mb
        go_wp2_with fail
        refine (strangeGood _).mono ?_
        rintro e w2 ⟨rfl, hb⟩
        go_wp2
        go_ret
        exact ⟨ret_bool HE.out.symm, (HB.out.step hb).1⟩
end Go.Proofs.Ytijlhjfllfjllaa
