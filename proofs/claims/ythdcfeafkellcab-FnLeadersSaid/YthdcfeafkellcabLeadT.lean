/-
  'LeaderOf' of the program and of the model.
-/
import Derived.Test.YthdcfeafkellcabLeadS
import Derived.Test.YthdcfeafkellcabGoodBs
import Derived.Test.YthdcfeafkellcabGoodBsS
namespace Go.Proofs.Ythdcfeafkellcab
open Go.RowKit
set_option linter.unusedVariables false

def leadId (l : List BrD) : Int := if goodBrs l then bestId (bestOf beatsB l) else 0
def leadOk (l : List BrD) : Bool := leadId l != 0
theorem lead_no (l : List BrD) (h : goodBrs l = false) : leadId l = 0 ∧ leadOk l = false := by
  have : leadId l = 0 := by unfold leadId; rw [h]; rfl
  exact ⟨this, by unfold leadOk; rw [this]; rfl⟩
theorem lead_yes (l : List BrD) (h : goodBrs l = true) : leadId l = bestId (bestOf beatsB l) := by unfold leadId; rw [h]; rfl

set_option maxRecDepth 100000 in
set_option maxHeartbeats 2000000 in
theorem implLeader_any (W : World) (B : Nat) (v : Value) (l : List BrD) (h : OwnBr W B v l) (hl : l.length ≤ 1048576) :
    Calls Try.prog 10 #[v] W fun e W' => e = .returned (.tuple #[.int .i64 (leadId l), .bool (leadOk l)]) ∧ Below W.heap.size W W' := by
  obtain ⟨a1, c1, rfl⟩ := h.shape
  have HO : Hid (OwnBr W B (.slice a1 l.length c1) l) := h
  clear h
  cases hg : goodBrs l with
  | false =>
    have HG : Hid (goodBrs l = false) := hg
    have HN : Hid (leadId l = 0 ∧ leadOk l = false) := lead_no l hg
    clear hg
    go_enter Try.func10, Try.ntmps10
    go_wp2_with fail
    refine (implGoodBs_any _ _ l HO.out.reads hl).mono ?_
    rintro e w1 ⟨rfl, hb1⟩
    rw [HG.out]
    have HB1 : Hid (Below W.heap.size W w1) := hb1
    clear hb1
    go_wp2
    refine bodyPost_ret (results_tmp2 rfl _ _ _) rfl ?_
    rw [HN.out.1, HN.out.2]
    exact ⟨rfl, HB1.out⟩
  | true =>
    have HG : Hid (goodBrs l = true) := hg
    obtain ⟨d, hd⟩ : ∃ d, leadId l = d := ⟨_, rfl⟩
    have HD : Hid (bestId (bestOf beatsB l) = d) := by show _ = _; rw [← lead_yes l hg, hd]
    have HK : Hid (leadOk l = (d != 0)) := by show _ = _; unfold leadOk; rw [hd]
    rw [HK.out, hd]
    clear hg hd
    go_enter Try.func10, Try.ntmps10
    go_wp2_with fail
    refine (implGoodBs_any _ _ l HO.out.reads hl).mono ?_
    rintro e w1 ⟨rfl, hb1⟩
    rw [HG.out]
    have S1 : Hid (Since W.heap.size W w1) := (Since.start W).step hb1
    have O1 : Hid (OwnBr w1 B (.slice a1 l.length c1) l) := HO.out.below hb1
    clear hb1
    go_wp2_with fail
    refine (bestBeats_any _ _ l O1.out.reads hl).mono ?_
    rintro e w2 ⟨rfl, hb2⟩
    rw [HD.out]
    have S2 : Hid (Since W.heap.size W w2) := S1.out.step hb2
    clear hb2
    go_wp2
    refine bodyPost_ret (results_tmp2 rfl _ _ _) rfl ?_
    exact ⟨rfl, S2.out.1⟩

theorem upTo_in (l : List BrD) : ∀ j (hj : j < (upTo l.length).length), 0 ≤ (upTo l.length)[j] ∧ (upTo l.length)[j] < (l.length : Int) := fun j hj => by
  rw [upTo_get]
  rw [upTo_len] at hj
  omega

set_option maxRecDepth 100000 in
set_option maxHeartbeats 2000000 in
theorem specLeader_any (W : World) (B : Nat) (v : Value) (l : List BrD) (h : OwnBr W B v l) (hl : l.length ≤ 1048576) :
    Calls Try.prog 11 #[v] W fun e W' => e = .returned (.tuple #[.int .i64 (leadId l), .bool (leadOk l)]) ∧ Below W.heap.size W W' := by
  obtain ⟨a1, c1, rfl⟩ := h.shape
  have HO : Hid (OwnBr W B (.slice a1 l.length c1) l) := h
  clear h
  cases hg : goodBrs l with
  | false =>
    have HG : Hid (goodBrs l = false) := hg
    have HN : Hid (leadId l = 0 ∧ leadOk l = false) := lead_no l hg
    clear hg
    go_enter Try.func11, Try.ntmps11
    go_wp2_with fail
    refine (specGoodBs_any _ _ l HO.out.reads hl).mono ?_
    rintro e w1 ⟨rfl, hb1⟩
    rw [HG.out]
    have HB1 : Hid (Below W.heap.size W w1) := hb1
    clear hb1
    go_wp2
    refine bodyPost_ret (results_tmp2 rfl _ _ _) rfl ?_
    rw [HN.out.1, HN.out.2]
    exact ⟨rfl, HB1.out⟩
  | true =>
    have HG : Hid (goodBrs l = true) := hg
    obtain ⟨d, hd⟩ : ∃ d, leadId l = d := ⟨_, rfl⟩
    have HL : Hid (∀ (w : World) (u : Value), ReadsBr w (.slice a1 l.length c1) l → Own w 0 u (upTo l.length) → Calls Try.prog 59 #[.slice a1 l.length c1, u] w fun e w' => e = .returned (.int .i64 d) ∧ Below w.heap.size w w') := fun w u hr ho => by
      have := l4Leader_any w _ u l (upTo l.length) hr ho.reads hl (by rw [upTo_len]; exact hl) (upTo_in l)
      rw [atPl_upTo l l.length (Nat.le_refl _), List.take_length, ← lead_yes l hg, hd] at this
      exact this
    have HK : Hid (leadOk l = (d != 0)) := by show _ = _; unfold leadOk; rw [hd]
    rw [HK.out, hd]
    clear hg hd
    by_cases h0 : d = 0
    · subst h0
      go_enter Try.func11, Try.ntmps11
      go_wp2_with fail
      refine (specGoodBs_any _ _ l HO.out.reads hl).mono ?_
      rintro e w1 ⟨rfl, hb1⟩
      rw [HG.out]
      have S1 : Hid (Since W.heap.size W w1) := (Since.start W).step hb1
      have O1 : Hid (OwnBr w1 B (.slice a1 l.length c1) l) := HO.out.below hb1
      clear hb1
      go_wp2_with fail
      refine (l4Places_any _ _ l O1.out.reads hl).mono ?_
      rintro e w2 ⟨u2, rfl, ho2, hb2⟩
      have S2 : Hid (Since W.heap.size W w2) := S1.out.step hb2
      have O2 : Hid (OwnBr w2 B (.slice a1 l.length c1) l) := O1.out.below hb2
      have P2 : Hid (Own w2 0 u2 (upTo l.length)) := ho2.mono (Nat.zero_le _)
      clear hb2 ho2
      go_wp2_with fail
      refine (HL.out _ _ O2.out.reads P2.out).mono ?_
      rintro e w3 ⟨rfl, hb3⟩
      have S3 : Hid (Since W.heap.size W w3) := S2.out.step hb3
      clear hb3
      go_wp2
      refine bodyPost_ret (results_tmp2 rfl _ _ _) rfl ?_
      exact ⟨rfl, S3.out.1⟩
    · have hq : (d == 0) = false := by simp [h0]
      have hq2 : (d != 0) = true := by simp [h0]
      rw [hq2]
      go_enter Try.func11, Try.ntmps11
      go_wp2_with fail
      refine (specGoodBs_any _ _ l HO.out.reads hl).mono ?_
      rintro e w1 ⟨rfl, hb1⟩
      rw [HG.out]
      have S1 : Hid (Since W.heap.size W w1) := (Since.start W).step hb1
      have O1 : Hid (OwnBr w1 B (.slice a1 l.length c1) l) := HO.out.below hb1
      clear hb1
      go_wp2_with fail
      refine (l4Places_any _ _ l O1.out.reads hl).mono ?_
      rintro e w2 ⟨u2, rfl, ho2, hb2⟩
      have S2 : Hid (Since W.heap.size W w2) := S1.out.step hb2
      have O2 : Hid (OwnBr w2 B (.slice a1 l.length c1) l) := O1.out.below hb2
      have P2 : Hid (Own w2 0 u2 (upTo l.length)) := ho2.mono (Nat.zero_le _)
      clear hb2 ho2
      go_wp2_with fail
      refine (HL.out _ _ O2.out.reads P2.out).mono ?_
      rintro e w3 ⟨rfl, hb3⟩
      have S3 : Hid (Since W.heap.size W w3) := S2.out.step hb3
      have O3 : Hid (OwnBr w3 B (.slice a1 l.length c1) l) := O2.out.below hb3
      clear hb3
      go_wp2_with fail
      refine (l4Places_any _ _ l O3.out.reads hl).mono ?_
      rintro e w4 ⟨u4, rfl, ho4, hb4⟩
      have S4 : Hid (Since W.heap.size W w4) := S3.out.step hb4
      have O4 : Hid (OwnBr w4 B (.slice a1 l.length c1) l) := O3.out.below hb4
      have P4 : Hid (Own w4 0 u4 (upTo l.length)) := ho4.mono (Nat.zero_le _)
      clear hb4 ho4
      go_wp2_with fail
      refine (HL.out _ _ O4.out.reads P4.out).mono ?_
      rintro e w5 ⟨rfl, hb5⟩
      have S5 : Hid (Since W.heap.size W w5) := S4.out.step hb5
      clear hb5
      go_wp2
      refine bodyPost_ret (results_tmp2 rfl _ _ _) rfl ?_
      exact ⟨rfl, S5.out.1⟩
end Go.Proofs.Ythdcfeafkellcab
