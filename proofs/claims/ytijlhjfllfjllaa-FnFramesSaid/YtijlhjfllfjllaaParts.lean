/-
  Lists of parts: how they lie in memory, and what 'areParts' and 'l2Good' answer.
-/
import Derived.Test.YtijlhjfllfjllaaSpecGood
namespace Go.Proofs.Ytijlhjfllfjllaa
open Go.RowKit

/-- A part's data. -/
structure PD where
  k : Int
  t : ByteArray
  zs : List Int

/-- At a place of a block lies a part. -/
def PartAt (W : World) (g o : Nat) (p : PD) : Prop :=
  ∃ x, W.cell? ⟨g, o, none⟩ = some (.int .i64 p.k) ∧ W.cell? ⟨g, o + 1, none⟩ = some (.string p.t) ∧ W.cell? ⟨g, o + 2, none⟩ = some x ∧ Reads W x p.zs
theorem PartAt.below {W W' : World} {g o : Nat} {p : PD} (h : PartAt W g o p) (hg : g < W.heap.size) (hb : Below W.heap.size W W') : PartAt W' g o p := by
  obtain ⟨x, h0, h1, h2, hr⟩ := h
  exact ⟨x, (hb.cell (p := ⟨g, o, none⟩) hg).trans h0, (hb.cell (p := ⟨g, o + 1, none⟩) hg).trans h1, (hb.cell (p := ⟨g, o + 2, none⟩) hg).trans h2, hr.below hb⟩

/-- The slice v reads as the parts ps. -/
def ReadsP (W : World) (v : Value) (ps : List PD) : Prop :=
  ∃ (a : Option Addr) (cap : Nat), v = .slice a ps.length cap ∧ (ps = [] ∨ ∃ g off, a = some ⟨g, off, none⟩ ∧ g < W.heap.size ∧ ∀ j (hj : j < ps.length), PartAt W g (off + j * 3) ps[j])
theorem ReadsP.below {W W' : World} {v : Value} {ps : List PD} (h : ReadsP W v ps) (hb : Below W.heap.size W W') : ReadsP W' v ps := by
  obtain ⟨a, cap, hv, hc⟩ := h
  refine ⟨a, cap, hv, hc.imp id ?_⟩
  rintro ⟨g, off, ha, hg, hcell⟩
  exact ⟨g, off, ha, Nat.lt_of_lt_of_le hg hb.size, fun j hj => (hcell j hj).below hg hb⟩
theorem ReadsP.shape {W : World} {v : Value} {ps : List PD} (h : ReadsP W v ps) : ∃ a cap, v = .slice a ps.length cap := by obtain ⟨a, cap, hv, -⟩ := h; exact ⟨a, cap, hv⟩

/-- Every part's data are small enough to be walked over. -/
def Fit (p : PD) : Prop := p.t.size ≤ 1048576 ∧ p.zs.length ≤ 1048576
def goodP (p : PD) : Bool := goodB p.k p.t p.zs
def allGood (ps : List PD) : Bool := ps.all goodP
theorem allGood_no (ps : List PD) (j : Nat) (h : j < ps.length) (hz : goodP ps[j] = false) : allGood ps = false := by
  rw [Bool.eq_false_iff]
  intro e
  have := List.all_eq_true.1 e _ (List.getElem_mem h)
  rw [hz] at this
  cases this
theorem allGood_yes (ps : List PD) (h : ∀ j (hj : j < ps.length), goodP ps[j] = true) : allGood ps = true :=
  List.all_eq_true.2 fun p hp => by
    obtain ⟨j, hj, rfl⟩ := List.getElem_of_mem hp
    exact h j hj
theorem allGood_at (ps : List PD) (h : allGood ps = true) (j : Nat) (hj : j < ps.length) : goodP ps[j] = true := List.all_eq_true.1 h _ (List.getElem_mem hj)

/-- Whether they are parts of a frame. -/
def partsB (ps : List PD) : Bool := decide (ps.length ≤ 10) && allGood ps

set_option maxRecDepth 100000 in
set_option maxHeartbeats 2000000 in
theorem areParts_any (W : World) (v : Value) (ps : List PD) (h : ReadsP W v ps) (hl : ps.length ≤ 1048576) (hf : ∀ j (hj : j < ps.length), Fit ps[j]) :
    Calls Try.prog 39 #[v] W fun e W' => e = .returned (.bool (partsB ps)) ∧ Below W.heap.size W W' := by
  have h' := h
  obtain ⟨a1, cap1, rfl, hc1⟩ := h'
  by_cases h10 : ps.length ≤ 10
  · have HE : Hid (partsB ps = allGood ps) := by show _ = _; unfold partsB; rw [decide_eq_true h10, Bool.true_and]
    have d0 : ¬ (10 : Int) < (ps.length : Int) := by omega
    rcases hc1 with rfl | ⟨g1, o1, rfl, hg1, hc1⟩
    · simp only [List.length_nil]
      clear h hf
      go_enter Try.func39, Try.ntmps39
      go_wp2
      refine wp_loop_rounds 1 ?_
      rw [rounds_succ]
      go_wp2
      go_ret
      exact ⟨rfl, Below.refl _ _⟩
    · have HC1 : Hid (∀ W1, Since W.heap.size W W1 → ∀ j (hj : j < ps.length), PartAt W1 g1 (o1 + j * 3) ps[j]) := fun W1 hS j hj => (hc1 j hj).below hg1 hS.1
      have HF : Hid (∀ j (hj : j < ps.length), Fit ps[j]) := hf
      have HS0 : Hid (Since W.heap.size W W) := Since.start W
      clear hc1 h hf
      go_enter Try.func39, Try.ntmps39
      go_wp2
      go_loopw [10] (fun i wr => ∃ k : Nat, k ≤ ps.length ∧ i = .int .i64 k ∧ Hid (∀ j (hj : j < ps.length), j < k → goodP ps[j] = true) ∧ Since W.heap.size W wr) (fun i _ => ps.length - (intOf i).toNat)
      case atStart => exact ⟨0, Nat.zero_le _, rfl, fun j hj h => absurd h (Nat.not_lt_zero _), HS0.out⟩
      case round =>
        obtain ⟨k, hk, rfl, HA, hS⟩ := hrel
        have HS : Hid (Since W.heap.size W wr) := hS
        clear hS
        by_cases hlt : k < ps.length
        · obtain ⟨x, q0, q1, q2, hr⟩ := HC1.out wr HS.out k hlt
          obtain ⟨a2, c2, rfl⟩ := hr.shape
          have HR : Hid (Reads wr (.slice a2 ps[k].zs.length c2) ps[k].zs) := hr
          obtain ⟨ft, fz⟩ := HF.out k hlt
          have hlt' : (k : Int) < (ps.length : Int) := by omega
          have HG : Hid (goodB ps[k].k ps[k].t ps[k].zs = goodP ps[k]) := rfl
          clear hr
          have HAN : Hid (goodP ps[k] = true → ∀ j (hj : j < ps.length), j < k + 1 → goodP ps[j] = true) := fun hg j hj h => by
            by_cases e : j = k
            · subst e; exact hg
            · exact HA.out j hj (by omega)
          have HNO : Hid (goodP ps[k] = false → allGood ps = false) := allGood_no ps k hlt
          generalize ps[k] = p at *
          go_wp2_with fail
          refine (implGood_any _ p.k p.t _ p.zs (HR.out.below ((Below.refl _ wr).alloc (Nat.le_refl _) _)) fz ft).mono ?_
          rintro e w1 ⟨rfl, hb⟩
          have HS1 : Hid (Since W.heap.size W w1) := (HS.out.step ((Below.refl _ wr).alloc (Nat.le_refl _) _)).step hb
          rw [HG.out]
          clear hb
          cases hgd : goodP p with
          | true =>
            have HA1 : Hid (∀ j (hj : j < ps.length), j < k + 1 → goodP ps[j] = true) := HAN.out hgd
            clear hgd
            go_wp2
            go_roundw
            case rel => exact ⟨k + 1, by omega, by go_num, HA1, HS1.out⟩
            case measure => simp [intOf]; omega
          | false =>
            have HF1 : Hid (allGood ps = false) := HNO.out hgd
            clear hgd
            go_wp2
            go_ret
            exact ⟨ret_bool (HE.out.trans HF1.out).symm, HS1.out.1⟩
        · have HF1 : Hid (allGood ps = true) := allGood_yes ps fun j hj => HA.out j hj (by omega)
          have hlt' : ¬ (k : Int) < (ps.length : Int) := by omega
          go_wp2
          go_ret
          exact ⟨ret_bool (HE.out.trans HF1.out).symm, HS.out.1⟩
  · have HE : Hid (partsB ps = false) := by show _ = _; unfold partsB; rw [decide_eq_false h10, Bool.false_and]
    have d0 : (10 : Int) < (ps.length : Int) := by omega
    clear hc1 h hf
    go_enter Try.func39, Try.ntmps39
    go_wp2
    go_ret
    exact ⟨ret_bool HE.out.symm, Below.refl _ _⟩

set_option maxRecDepth 100000 in
set_option maxHeartbeats 2000000 in
theorem l2Good_any (W : World) (v : Value) (ps : List PD) (h : ReadsP W v ps) (hl : ps.length ≤ 1048576) (hf : ∀ j (hj : j < ps.length), Fit ps[j]) :
    Calls Try.prog 44 #[v] W fun e W' => e = .returned (.bool (partsB ps)) ∧ Below W.heap.size W W' := by
  have h' := h
  obtain ⟨a1, cap1, rfl, hc1⟩ := h'
  have HD : Hid (decide ((ps.length : Int) ≤ 10) = decide (ps.length ≤ 10)) := by
    show _ = _
    by_cases h : ps.length ≤ 10
    · rw [decide_eq_true h, decide_eq_true (by omega)]
    · rw [decide_eq_false h, decide_eq_false (by omega)]
  rcases hc1 with rfl | ⟨g1, o1, rfl, hg1, hc1⟩
  · simp only [List.length_nil]
    clear h hf
    go_enter Try.func44, Try.ntmps44
    go_wp2
    refine wp_loop_rounds 1 ?_
    rw [rounds_succ]
    go_wp2
    go_ret
    exact ⟨rfl, Below.refl _ _⟩
  · have HC1 : Hid (∀ W1, Since W.heap.size W W1 → ∀ j (hj : j < ps.length), PartAt W1 g1 (o1 + j * 3) ps[j]) := fun W1 hS j hj => (hc1 j hj).below hg1 hS.1
    have HF : Hid (∀ j (hj : j < ps.length), Fit ps[j]) := hf
    have HS0 : Hid (Since W.heap.size W W) := Since.start W
    clear hc1 h hf
    go_enter Try.func44, Try.ntmps44
    go_wp2
    go_loopw [7] (fun i wr => ∃ k : Nat, k ≤ ps.length ∧ i = .int .i64 k ∧ Hid (∀ j (hj : j < ps.length), j < k → goodP ps[j] = true) ∧ Since W.heap.size W wr) (fun i _ => ps.length - (intOf i).toNat)
    case atStart => exact ⟨0, Nat.zero_le _, rfl, fun j hj h => absurd h (Nat.not_lt_zero _), HS0.out⟩
    case round =>
      obtain ⟨k, hk, rfl, HA, hS⟩ := hrel
      have HS : Hid (Since W.heap.size W wr) := hS
      clear hS
      by_cases hlt : k < ps.length
      · obtain ⟨x, q0, q1, q2, hr⟩ := HC1.out wr HS.out k hlt
        obtain ⟨a2, c2, rfl⟩ := hr.shape
        have HR : Hid (Reads wr (.slice a2 ps[k].zs.length c2) ps[k].zs) := hr
        obtain ⟨ft, fz⟩ := HF.out k hlt
        have hlt' : (k : Int) < (ps.length : Int) := by omega
        have HG : Hid (goodB ps[k].k ps[k].t ps[k].zs = goodP ps[k]) := rfl
        clear hr
        have HAN : Hid (goodP ps[k] = true → ∀ j (hj : j < ps.length), j < k + 1 → goodP ps[j] = true) := fun hg j hj h => by
          by_cases e : j = k
          · subst e; exact hg
          · exact HA.out j hj (by omega)
        have HNO : Hid (goodP ps[k] = false → partsB ps = false) := fun e => by unfold partsB; rw [allGood_no ps k hlt e, Bool.and_false]
        generalize ps[k] = p at *
        go_wp2_with fail
        refine (specGood_any _ p.k p.t _ p.zs (HR.out.below ((Below.refl _ wr).alloc (Nat.le_refl _) _)) fz ft).mono ?_
        rintro e w1 ⟨rfl, hb⟩
        have HS1 : Hid (Since W.heap.size W w1) := (HS.out.step ((Below.refl _ wr).alloc (Nat.le_refl _) _)).step hb
        rw [HG.out]
        clear hb
        cases hgd : goodP p with
        | true =>
          have HA1 : Hid (∀ j (hj : j < ps.length), j < k + 1 → goodP ps[j] = true) := HAN.out hgd
          clear hgd
          go_wp2
          go_roundw
          case rel => exact ⟨k + 1, by omega, by go_num, HA1, HS1.out⟩
          case measure => simp [intOf]; omega
        | false =>
          have HF1 : Hid (partsB ps = false) := HNO.out hgd
          clear hgd
          go_wp2
          go_ret
          exact ⟨ret_bool HF1.out.symm, HS1.out.1⟩
      · have HF1 : Hid (partsB ps = decide ((ps.length : Int) ≤ 10)) := by
          show _ = _
          unfold partsB
          rw [allGood_yes ps fun j hj => HA.out j hj (by omega), Bool.and_true, HD.out]
        have hlt' : ¬ (k : Int) < (ps.length : Int) := by omega
        go_wp2
        go_ret
        exact ⟨ret_bool HF1.out.symm, HS.out.1⟩
end Go.Proofs.Ytijlhjfllfjllaa
