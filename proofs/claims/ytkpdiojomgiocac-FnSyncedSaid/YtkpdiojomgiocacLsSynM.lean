/-
  Two who told one another in parts have what the lists merged hold, and nothing more goes; and what goes back is not asked for.
-/
import Derived.Test.YtkpdiojomgiocacLsSynI
import Derived.Test.YtkpdiojomgiocacLsMrg
import Derived.Test.YtkpdiojomgiocacLsAsk
namespace Go.Proofs.Ytkpdiojomgiocac
set_option linter.unusedVariables false

theorem sync_math {a b : List HvD} {most : Int} (h : syncOk a b most = true) :
    mrgOk a b = true ∧ mrgOut a b = syncA a b most ∧ syncB a b most = syncA a b most ∧ syncOk (syncA a b most) (syncA a b most) most = true ∧ syncN (syncA a b most) (syncA a b most) most = 0 := by
  obtain ⟨e1, e2, e3⟩ := sync_yes h
  have h' := h
  unfold syncOk at h
  simp only [Bool.and_eq_true, decide_eq_true_eq] at h
  obtain ⟨⟨⟨⟨ga, gb⟩, hm⟩, gA⟩, gB⟩ := h
  have ha := goodHv_true ga
  have hb := goodHv_true gb
  obtain ⟨w1, w2⟩ := sync_whole (most := most.toNat) (by omega) ⟨ha.2.2, ha.2.1⟩ ⟨hb.2.2, hb.2.1⟩
  rw [w1] at gA
  have hmk : mrgOk a b = true := by unfold mrgOk; simp only [Bool.and_eq_true]; exact ⟨⟨ga, gb⟩, gA⟩
  have hM := goodHv_true gA
  have hag := sync_again (m := mergeHv a b) (most := most.toNat) (by omega) ⟨hM.2.2, hM.2.1⟩
  rw [e1, e2, w1, w2]
  have hok : syncOk (mergeHv a b) (mergeHv a b) most = true := by
    unfold syncOk
    rw [hag]
    simp only [Bool.and_eq_true, decide_eq_true_eq]
    exact ⟨⟨⟨⟨gA, gA⟩, hm⟩, gA⟩, gA⟩
  refine ⟨hmk, mrg_yes hmk, rfl, hok, ?_⟩
  rw [(sync_yes hok).2.2, hag]
  rfl
theorem ask_math {l : List HvD} {s : SmD} (h : askOk l s = true) (j : Nat) (hj : j < (moreOut l s).length) :
    (moreOut l s)[j].From ∉ asksOut l s ∧ s.Lo ≤ (moreOut l s)[j].From ∧ (moreOut l s)[j].From ≤ s.Hi := by
  obtain ⟨e1, e2⟩ := ask_yes h
  obtain ⟨⟨hr, hf⟩, hr2, hf2⟩ := ask_good h
  have hx : (moreOut l s)[j] ∈ beyondHv l s := by rw [← e2]; exact List.getElem_mem hj
  generalize (moreOut l s)[j] = x at hx
  rw [beyondHv_eq] at hx
  have hm := List.mem_filter.1 hx
  simp only [Bool.and_eq_true, decide_eq_true_eq] at hm
  refine ⟨fun hin => ?_, hm.2.1.1, hm.2.1.2⟩
  rw [e1] at hin
  unfold fromsOf newsHv at hin
  obtain ⟨y, hy, hyx⟩ := List.mem_map.1 hin
  have hy2 := List.mem_filter.1 hy
  have h1 := of_decide_eq_true hy2.2
  have h2 := hm.2.2
  have c1 := mem_cont hr hm.1
  have c2 := mem_cont hr2 hy2.1
  rw [hyx] at h1 c2
  unfold seqIn at h1 h2
  rw [c1] at h1
  rw [c2] at h2
  simp only [Option.getD_some] at h1 h2
  omega
end Go.Proofs.Ytkpdiojomgiocac
