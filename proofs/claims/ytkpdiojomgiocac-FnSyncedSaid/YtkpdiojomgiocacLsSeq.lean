/-
  'SeqFor' of the program and of the model.
-/
import Derived.Test.YtkpdiojomgiocacLsStock
import Derived.Test.YtkpdiojomgiocacLsGood
import Derived.Test.YtkpdiojomgiocacLsGoodS
import Derived.BigQuiet
namespace Go.Proofs.Ytkpdiojomgiocac
open Go.RowKit
set_option linter.unusedVariables false

def seqOk (l : List HvD) (k : Int) : Bool := goodHv l && decide (1 ≤ k ∧ k ≤ 1000)
def seqOut (l : List HvD) (k : Int) : Int := if seqOk l k then seqIn l k else 0
theorem seq_bad {l : List HvD} (k : Int) (h : goodHv l = false) : seqOk l k = false ∧ seqOut l k = 0 := by
  have : seqOk l k = false := by unfold seqOk; rw [h]; rfl
  exact ⟨this, by unfold seqOut; rw [this]; rfl⟩
theorem seq_out {l : List HvD} {k : Int} (h : ¬ (1 ≤ k ∧ k ≤ 1000)) : seqOk l k = false ∧ seqOut l k = 0 := by
  have : seqOk l k = false := by unfold seqOk; rw [decide_eq_false h, Bool.and_false]
  exact ⟨this, by unfold seqOut; rw [this]; rfl⟩
theorem seq_in {l : List HvD} {k : Int} (hg : goodHv l = true) (h : 1 ≤ k ∧ k ≤ 1000) : seqOk l k = true ∧ seqOut l k = seqIn l k := by
  have : seqOk l k = true := by unfold seqOk; rw [hg, decide_eq_true h]; rfl
  exact ⟨this, by unfold seqOut; rw [this]; rfl⟩

set_option maxRecDepth 100000 in
set_option maxHeartbeats 2000000 in
theorem l7Seq_any (W : World) (v : Value) (l : List HvD) (k : Int) (h : ReadsHv W v l) (hl : l.length ≤ 2097152) :
    Calls Try.prog 37 #[v, .int .i64 k] W fun e W' => e = .returned (.int .i64 (seqIn l k)) ∧ Below W.heap.size W W' := by
  obtain ⟨a1, cap1, rfl, hc1⟩ := h
  by_cases hz : l = []
  · subst hz
    simp only [List.length_nil] at *
    clear hc1
    go_enter Try.func37, Try.ntmps37
    go_wp2
    refine wp_loop_rounds 1 ?_
    rw [rounds_succ]
    go_wp2
    go_ret
    exact ⟨rfl, Below.refl _ _⟩
  · obtain ⟨g1, o1, rfl, hg1, hc1⟩ := hc1.resolve_left hz
    have HC1 : Hid (∀ wr, Below W.heap.size W wr → ∀ j (hj : j < l.length), HvAt wr g1 (o1 + j * 2) l[j]) := fun wr hB j hj => (hc1 j hj).below hg1 hB
    have HDR : Hid (∀ j (hj : j < l.length), seqIn (l.drop j) k = if l[j].From = k then l[j].Seq else seqIn (l.drop (j + 1)) k) := fun j hj => by
      rw [List.drop_eq_getElem_cons hj]
      unfold seqIn
      conv => lhs; unfold cont
      split <;> rfl
    clear hc1 hg1 hz
    have HB0 : Hid (seqIn l k = seqIn (l.drop 0) k ∧ Below W.heap.size W W) := ⟨rfl, Below.refl _ _⟩
    go_enter Try.func37, Try.ntmps37
    go_wp2
    go_loopw [9] (fun i wr => ∃ j : Nat, j ≤ l.length ∧ i = .int .i64 j ∧ Hid (seqIn l k = seqIn (l.drop j) k ∧ Below W.heap.size W wr)) (fun i _ => l.length - (intOf i).toNat)
    case atStart => exact ⟨0, Nat.zero_le _, rfl, HB0.out⟩
    case round =>
      obtain ⟨j, hj, rfl, HK⟩ := hrel
      by_cases hlt : j < l.length
      · have hlt' : (j : Int) < (l.length : Int) := by omega
        obtain ⟨q0, q1⟩ := HC1.out wr HK.out.2 j hlt
        have HB1 : Hid (Below W.heap.size W (wr.alloc (.cells #[.int .i64 l[j].From, .int .i64 l[j].Seq] 41))) := HK.out.2.alloc HK.out.2.size _
        have HD := HDR.out j hlt
        by_cases he : l[j].From = k
        · have d1 : (l[j].From == k) = true := beq_iff_eq.2 he
          have HR : Hid (seqIn l k = l[j].Seq) := by show _ = _; rw [HK.out.1, HD, if_pos he]
          clear HK HD he
          generalize l[j].From = fr at *
          generalize l[j].Seq = sq at *
          go_wp2
          go_ret
          exact ⟨by rw [HR.out]; rfl, HB1.out⟩
        · have d1 : (l[j].From == k) = false := beq_eq_false_iff_ne.2 he
          have HN : Hid (seqIn l k = seqIn (l.drop (j + 1)) k) := by show _ = _; rw [HK.out.1, HD, if_neg he]
          clear HK HD he
          generalize l[j].From = fr at *
          generalize l[j].Seq = sq at *
          go_wp2
          go_roundw
          case rel => exact ⟨j + 1, by omega, by go_num, HN.out, HB1.out⟩
          case measure => simp [intOf]; omega
      · have hlt' : ¬ (j : Int) < (l.length : Int) := by omega
        have e : j = l.length := by omega
        subst e
        have HR : Hid (seqIn l k = 0 ∧ Below W.heap.size W wr) := ⟨by rw [HK.out.1, List.drop_length]; rfl, HK.out.2⟩
        clear HK
        go_wp2
        go_ret
        exact ⟨by rw [HR.out.1]; rfl, HR.out.2⟩

set_option maxRecDepth 100000 in
set_option maxHeartbeats 2000000 in
theorem specSeqFor_any (W : World) (B : Nat) (v : Value) (l : List HvD) (k : Int) (h : OwnHv W B v l) (hl : l.length ≤ 1048576) :
    Calls Try.prog 26 #[v, .int .i64 k] W fun e W' => e = .returned (.tuple #[.int .i64 (seqOut l k), .bool (seqOk l k)]) ∧ Below W.heap.size W W' := by
  obtain ⟨a1, c1, rfl⟩ := h.shape
  have CG : Hid (Calls Try.prog 23 #[.slice a1 l.length c1] W fun e W' => e = .returned (.bool (goodHv l)) ∧ Below W.heap.size W W') := specGoodHv_any W _ l h.reads (by omega)
  have HO : Hid (OwnHv W B (.slice a1 l.length c1) l) := h
  clear h
  cases hg : goodHv l with
  | false =>
    have HR : Hid (seqOk l k = false ∧ seqOut l k = 0) := seq_bad k hg
    rw [hg] at CG
    clear hg
    go_enter Try.func26, Try.ntmps26
    go_wp2_with fail
    refine CG.out.mono ?_
    rintro e w1 ⟨rfl, hb1⟩
    have HB1 : Hid (Below W.heap.size W w1) := hb1
    clear hb1
    go_wp2
    refine bodyPost_ret (results_tmp2 rfl _ _ _) rfl ?_
    rw [HR.out.1, HR.out.2]
    exact ⟨rfl, HB1.out⟩
  | true =>
    rw [hg] at CG
    by_cases hk : 1 ≤ k ∧ k ≤ 1000
    · have HR : Hid (seqOk l k = true ∧ seqOut l k = seqIn l k) := seq_in hg hk
      have HI : Hid (decide (1 ≤ k ∧ k ≤ 1000) = true) := decide_eq_true hk
      have CQ : Hid (∀ w', Below W.heap.size W w' → Calls Try.prog 37 #[.slice a1 l.length c1, .int .i64 k] w' fun e W' => e = .returned (.int .i64 (seqIn l k)) ∧ Below w'.heap.size w' W') := fun w' hb => l7Seq_any w' _ l k (HO.out.below hb).reads (by omega)
      clear hg hk
      go_enter Try.func26, Try.ntmps26
      go_wp2_with fail
      refine CG.out.mono ?_
      rintro e w1 ⟨rfl, hb1⟩
      have HB1 : Hid (Below W.heap.size W w1) := hb1
      clear hb1
      go_wp2_with fail
      refine (l1In_any _ _ _ _).mono ?_
      rintro e w2 ⟨rfl, rfl⟩
      rw [HI.out]
      go_wp2_with fail
      refine (CQ.out _ HB1.out).mono ?_
      rintro e w3 ⟨rfl, hb3⟩
      have HB3 : Hid (Below W.heap.size W w3) := HB1.out.trans (hb3.mono HB1.out.size)
      clear hb3
      go_wp2
      refine bodyPost_ret (results_tmp2 rfl _ _ _) rfl ?_
      rw [HR.out.1, HR.out.2]
      exact ⟨rfl, HB3.out⟩
    · have HR : Hid (seqOk l k = false ∧ seqOut l k = 0) := seq_out hk
      have HI : Hid (decide (1 ≤ k ∧ k ≤ 1000) = false) := decide_eq_false hk
      clear hg hk
      go_enter Try.func26, Try.ntmps26
      go_wp2_with fail
      refine CG.out.mono ?_
      rintro e w1 ⟨rfl, hb1⟩
      have HB1 : Hid (Below W.heap.size W w1) := hb1
      clear hb1
      go_wp2_with fail
      refine (l1In_any _ _ _ _).mono ?_
      rintro e w2 ⟨rfl, rfl⟩
      rw [HI.out]
      go_wp2
      refine bodyPost_ret (results_tmp2 rfl _ _ _) rfl ?_
      rw [HR.out.1, HR.out.2]
      exact ⟨rfl, HB1.out⟩

set_option maxRecDepth 100000 in
set_option maxHeartbeats 2000000 in
theorem implSeqFor_any (W : World) (B : Nat) (v : Value) (l : List HvD) (k : Int) (h : OwnHv W B v l) (hl : l.length ≤ 1048576) :
    Calls Try.prog 24 #[v, .int .i64 k] W fun e W' => e = .returned (.tuple #[.int .i64 (seqOut l k), .bool (seqOk l k)]) ∧ Below W.heap.size W W' := by
  obtain ⟨a1, c1, rfl⟩ := h.shape
  have CG : Hid (Calls Try.prog 22 #[.slice a1 l.length c1] W fun e W' => e = .returned (.bool (goodHv l)) ∧ Below W.heap.size W W') := implGoodHv_any W _ l h.reads (by omega)
  have HO : Hid (OwnHv W B (.slice a1 l.length c1) l) := h
  clear h
  cases hg : goodHv l with
  | false =>
    have HR : Hid (seqOk l k = false ∧ seqOut l k = 0) := seq_bad k hg
    rw [hg] at CG
    clear hg
    go_enter Try.func24, Try.ntmps24
    go_wp2_with fail
    refine CG.out.mono ?_
    rintro e w1 ⟨rfl, hb1⟩
    have HB1 : Hid (Below W.heap.size W w1) := hb1
    clear hb1
    go_wp2
    refine bodyPost_ret (results_tmp2 rfl _ _ _) rfl ?_
    rw [HR.out.1, HR.out.2]
    exact ⟨rfl, HB1.out⟩
  | true =>
    rw [hg] at CG
    by_cases hk1 : k < 1
    · have HR : Hid (seqOk l k = false ∧ seqOut l k = 0) := seq_out (by omega)
      have d1 : decide (k < 1) = true := decide_eq_true hk1
      clear hg hk1
      go_enter Try.func24, Try.ntmps24
      go_wp2_with fail
      refine CG.out.mono ?_
      rintro e w1 ⟨rfl, hb1⟩
      have HB1 : Hid (Below W.heap.size W w1) := hb1
      clear hb1
      go_wp2
      refine bodyPost_ret (results_tmp2 rfl _ _ _) rfl ?_
      rw [HR.out.1, HR.out.2]
      exact ⟨rfl, HB1.out⟩
    · have d1 : decide (k < 1) = false := decide_eq_false hk1
      by_cases hk2 : 1000 < k
      · have HR : Hid (seqOk l k = false ∧ seqOut l k = 0) := seq_out (by omega)
        have d2 : decide (1000 < k) = true := decide_eq_true hk2
        clear hg hk1 hk2
        go_enter Try.func24, Try.ntmps24
        go_wp2_with fail
        refine CG.out.mono ?_
        rintro e w1 ⟨rfl, hb1⟩
        have HB1 : Hid (Below W.heap.size W w1) := hb1
        clear hb1
        go_wp2
        refine bodyPost_ret (results_tmp2 rfl _ _ _) rfl ?_
        rw [HR.out.1, HR.out.2]
        exact ⟨rfl, HB1.out⟩
      · have d2 : decide (1000 < k) = false := decide_eq_false hk2
        have HR : Hid (seqOk l k = true ∧ seqOut l k = seqIn l k) := seq_in hg (by omega)
        obtain ⟨hlen, hfit, hrise⟩ := goodHv_true hg
        have wf0 : (Lit.int .i64 k).wf = true := wf64 (by omega) (by omega)
        have CS : Hid (∀ w', Below W.heap.size W w' → Calls Try.prog 42 #[.slice a1 l.length c1] w' fun e W' => e = .returned (.map (some w'.heap.size)) ∧ Stock W' w'.heap.size l.length (cont l) ∧ Below w'.heap.size w' W') := fun w' hb => stockOf_any w' _ l (HO.out.below hb).reads hrise hfit
        clear hg hk1 hk2 hlen hfit hrise
        go_enter Try.func24, Try.ntmps24
        go_wp2_with fail
        refine CG.out.mono ?_
        rintro e w1 ⟨rfl, hb1⟩
        have HB1 : Hid (Below W.heap.size W w1) := hb1
        clear hb1
        go_wp2_with fail
        refine (CS.out _ HB1.out).mono ?_
        rintro e w2 ⟨rfl, ⟨D, hD, hF⟩, hb2⟩
        have HD : Hid (w2.ownsMap Try.prog 3 (plainElem Try.prog 3) w1.heap.size l.length D) := hD
        have HF : Hid (StF D (cont l)) := hF
        have HB2 : Hid (Below W.heap.size W w2) := HB1.out.trans (hb2.mono HB1.out.size)
        clear hD hF hb2
        go_wp2_with (first
          | (at_lookup; refine list_look rfl _ _ rfl w1.heap.size _ D _ rfl HD.out HF.out k (seqIn l k) rfl wf0 rfl ?_)
          | go_in)
        refine bodyPost_ret (results_tmp2 rfl _ _ _) rfl ?_
        rw [HR.out.1, HR.out.2]
        exact ⟨rfl, HB2.out⟩
end Go.Proofs.Ytkpdiojomgiocac
