/-
  Where each one sees all, each one's leader is the leader; and none that is up beats it.
-/
import Derived.Test.YthdcfeafkellcabLedMath
import Derived.Test.YthdcfeafkellcabLeadT
import Derived.Test.YthdcfeafkellcabBeatsT
namespace Go.Proofs.Ythdcfeafkellcab
open Go.RowKit
set_option linter.unusedVariables false

def allRows (n : Nat) : List (List Int) := List.replicate n (upTo n)
theorem plB_all (n : Nat) : plB n (upTo n) = true := by
  have h1 : ∀ j (hj : j < (upTo n).length), (upTo n)[j] = (j : Int) := fun j hj => upTo_get n j hj
  have hl := upTo_len n
  unfold plB
  rw [Bool.and_eq_true]
  refine ⟨?_, ?_⟩
  · unfold allB
    refine List.all_eq_true.2 fun z hz => ?_
    obtain ⟨j, hj, rfl⟩ := List.getElem_of_mem hz
    rw [h1 j hj]
    simp
    omega
  · exact risesB_yes _ fun j hj => by rw [h1 j (by omega), h1 (j + 1) hj]; omega
theorem led_all (l : List BrD) (hg : goodBrs l = true) (k : Nat) (hk : k < l.length) : ledAt l (allRows l.length) k = leadId l := by
  have hi := good_inj l hg
  unfold ledAt
  have e : (allRows l.length).getD k [] = upTo l.length := by simp [allRows, List.getD_eq_getElem?_getD, hk]
  rw [e, ← led_same l (upTo l.length) k hk hg, atPl_upTo l l.length (Nat.le_refl _), List.take_length, lead_yes l hg]
  have hm : ∀ x, x ∈ l[k] :: l ↔ x ∈ l := fun x => by
    rw [List.mem_cons]
    exact ⟨fun h => h.elim (fun e => by rw [e]; exact List.getElem_mem hk) id, .inr⟩
  rw [best_same (l[k] :: l) l (fun x hx y hy => hi x ((hm x).1 hx) y ((hm y).1 hy)) hi hm]
theorem all_led (l : List BrD) (hg : goodBrs l = true) : ledOk l (allRows l.length) = true ∧ (ledOut l (allRows l.length)).length = l.length ∧ ∀ k (hk : k < (ledOut l (allRows l.length)).length), (ledOut l (allRows l.length))[k] = leadId l := by
  have hlen : (allRows l.length).length = l.length := by simp [allRows]
  obtain ⟨h1, h2⟩ := led_yes l (allRows l.length) hg hlen (seesB_yes _ _ fun j hj => by simp [allRows]; exact plB_all _)
  rw [h2]
  refine ⟨h1, by rw [ledL_len, hlen], fun k hk => ?_⟩
  have hk' : k < l.length := by rw [ledL_len, hlen] at hk; exact hk
  have e : (ledL l (allRows l.length) (allRows l.length).length)[k] = ledAt l (allRows l.length) k := by simp [ledL]
  rw [e]
  exact led_all l hg k hk'
/-- Who leads is one of them, and none that is up beats it. -/
theorem lead_top (l : List BrD) (h : leadOk l = true) : goodBrs l = true ∧ ∃ t, t ∈ l ∧ t.id = leadId l ∧ ∀ x, x ∈ l → x.up = true → x.id ≠ leadId l → mayBeat x t = true ∧ outBeat x t = false := by
  cases hg : goodBrs l with
  | false => rw [(lead_no l hg).2] at h; cases h
  | true =>
    refine ⟨rfl, ?_⟩
    have hi := good_inj l hg
    obtain ⟨h1, -⟩ := best_max l _ rfl hi
    have hy := lead_yes l hg
    cases hb : bestOf beatsB l with
    | none =>
      unfold leadOk at h
      rw [hy, hb] at h
      simp [bestId] at h
    | some t =>
      rw [hb] at hy
      have hm := bestOf_mem _ _ _ rfl t hb
      refine ⟨t, hm.1, hy.symm, fun x hx hu hne => ?_⟩
      have hy' : leadId l = t.id := hy
      rw [hy'] at hne
      have hgx : goodB x = true := by obtain ⟨j, hj, rfl⟩ := List.getElem_of_mem hx; exact good_at l hg j hj
      have hgt : goodB t = true := by obtain ⟨j, hj, rfl⟩ := List.getElem_of_mem hm.1; exact good_at l hg j hj
      have hmay : mayBeat x t = true := by unfold mayBeat; rw [hgx, hgt, decide_eq_true hne]; rfl
      refine ⟨hmay, ?_⟩
      unfold outBeat
      rw [hmay]
      rcases h1 t hb x hx hu with e | e
      · exact absurd (by rw [e]) hne
      · cases hbx : beatsB x t with
        | false => rfl
        | true => exact (beats_asym _ _ e hbx).elim
/-- Of two that may be held against each other just one beats the other one. -/
theorem beat_one (x y : BrD) (h : mayBeat x y = true) : mayBeat y x = true ∧ outBeat y x = !outBeat x y := by
  have h0 := h
  unfold mayBeat at h
  simp only [Bool.and_eq_true, decide_eq_true_eq] at h
  have h2 : mayBeat y x = true := by unfold mayBeat; rw [h.1.1, h.1.2, decide_eq_true (show y.id ≠ x.id from fun e => h.2 e.symm)]; rfl
  refine ⟨h2, ?_⟩
  unfold outBeat
  rw [h0, h2]
  cases hxy : beatsB x y with
  | true =>
    cases hyx : beatsB y x with
    | true => exact (beats_asym _ _ hxy hyx).elim
    | false => rfl
  | false =>
    rcases beats_total x y hxy with e | e
    · exact absurd e h.2
    · rw [e]; rfl
end Go.Proofs.Ythdcfeafkellcab
