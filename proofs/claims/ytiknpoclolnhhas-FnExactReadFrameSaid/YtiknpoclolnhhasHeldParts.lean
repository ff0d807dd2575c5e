/-
  'heldPartS' finds the marks.
-/
import Derived.Test.YtiknpoclolnhhasMarkParts
namespace Go.Proofs.Ytiknpoclolnhhas
open Go.RowKit

set_option maxRecDepth 100000 in
set_option maxHeartbeats 4000000 in
theorem heldParts_yes (W : World) (v : Value) (ps : List PD) (k0 : Nat) (h : ReadsP W v (markAll ps k0)) (hl : ps.length ≤ 10) (hz : ∀ p ∈ ps, p.zs.length ≤ 128) (hk0 : 1 ≤ k0) (hk1 : k0 ≤ 1000) :
    Calls Try.prog 16 #[v, .int .i64 (k0 : Int)] W fun e W' => e = .returned (.int .i64 (endK ps k0 : Int)) ∧ Below W.heap.size W W' := by
  obtain ⟨a1, cap1, hv, hc1⟩ := h
  rw [markAll_len] at hv
  subst hv
  by_cases hnil : ps = []
  · subst hnil
    simp only [List.length_nil]
    clear hc1 hz
    go_enter Try.func16, Try.ntmps16
    go_wp2
    refine wp_loop_rounds 1 ?_
    rw [rounds_succ]
    go_wp2
    go_ret
    exact ⟨rfl, Below.refl _ _⟩
  · obtain ⟨g1, o1, rfl, hg1, hc1⟩ := hc1.resolve_left (fun e => hnil (List.eq_nil_of_length_eq_zero (by rw [← markAll_len ps k0, e]; rfl)))
    have HC1 : Hid (∀ W1, Since W.heap.size W W1 → ∀ j (hj : j < ps.length), PartAt W1 g1 (o1 + j * 3) (markP ps[j] (endK (ps.take j) k0))) := fun W1 hS j hj => by
      have := (hc1 j (by rw [markAll_len]; exact hj)).below hg1 hS.1
      rw [markAll_at ps k0 j hj] at this
      exact this
    have HZ : Hid (∀ p ∈ ps, p.zs.length ≤ 128) := hz
    have HS0 : Hid (Since W.heap.size W W) := Since.start W
    have HG1 : Hid (g1 < W.heap.size) := hg1
    clear hc1 hz hnil hg1
    go_enter Try.func16, Try.ntmps16
    go_wp2
    go_loopw [1, 5] (fun x i wr => ∃ j : Nat, j ≤ ps.length ∧ i = .int .i64 (j : Int) ∧ x = .int .i64 (endK (ps.take j) k0 : Int) ∧ Hid (Since W.heap.size W wr)) (fun _ i _ => ps.length - (intOf i).toNat)
    case atStart => exact ⟨0, Nat.zero_le _, rfl, rfl, HS0⟩
    case round =>
      obtain ⟨j, hj, rfl, rfl, HS⟩ := hrel
      have hbd := endK_bd (ps.take j) k0 128 (fun p hp => HZ.out p (List.mem_of_mem_take hp))
      have hjt : (ps.take j).length = j := by rw [List.length_take]; omega
      rw [hjt] at hbd
      by_cases hlt : j < ps.length
      · have hlt' : (j : Int) < (ps.length : Int) := by omega
        have HEN : Hid (endK (ps.take (j + 1)) k0 = endK (ps.take j) k0 + 2 + ps[j].zs.length) := by show _ = _; rw [List.take_succ_eq_append_getElem hlt, endK_snoc]
        have hz128 : ps[j].zs.length ≤ 128 := HZ.out _ (List.getElem_mem hlt)
        have hpa := HC1.out wr HS.out j hlt
        have HPA : Hid (∀ W1, Since W.heap.size W W1 → PartAt W1 g1 (o1 + j * 3) (markP ps[j] (endK (ps.take j) k0))) := fun W1 hS => HC1.out W1 hS j hlt
        generalize ps[j] = p at *
        obtain ⟨c, hc⟩ : ∃ c, c = endK (ps.take j) k0 := ⟨_, rfl⟩
        rw [← hc] at HEN hbd hpa HPA ⊢
        have hcb : 1 ≤ c ∧ c ≤ 100000 := by omega
        have HMT : Hid (∀ W1, Calls Try.prog 43 #[.int .i64 ((c : Int) + 1)] W1 fun e W' => e = .returned (.string (mtext (c + 1))) ∧ Below W1.heap.size W1 W') := fun W1 => by
          rw [show ((c : Int) + 1) = ((c + 1 : Nat) : Int) from by omega]; exact markText_any (c + 1) W1 (by omega) (by omega)
        obtain ⟨x, q0, q1, q2, hr⟩ := hpa
        have q0' : wr.cell? ⟨g1, o1 + j * 3, none⟩ = some (.int .i64 (c : Int)) := q0
        have q1' : wr.cell? ⟨g1, o1 + j * 3 + 1, none⟩ = some (.string (mtext (c + 1))) := q1
        have HQ1 : Hid (∀ W1, Below wr.heap.size wr W1 → W1.cell? ⟨g1, o1 + j * 3 + 1, none⟩ = some (.string (mtext (c + 1)))) := fun W1 hb => by
          obtain ⟨_, -, k1, -⟩ := HPA.out W1 (HS.out.step hb)
          exact k1
        have HD : Hid (Below wr.heap.size wr wr.drew) := (Below.refl _ wr).drew
        generalize mtext (c + 1) = T at *
        clear hc hbd hjt q0 q1 q2 hr
        go_wp2
        go_region_with (go_at_call 43; refine (HMT.out _).mono ?_; rintro e w2 ⟨rfl, hb2⟩; have k1 := HQ1.out _ (HD.out.trans hb2))
        all_goals
          have HS2 : Hid (Since W.heap.size W w2) := HS.out.drew.step hb2
          obtain ⟨x2, -, -, r2, hr2⟩ := HPA.out w2 HS2.out
          obtain ⟨ax, cx, hxs⟩ := hr2.shape
          subst hxs
          have HR2 : Hid (Reads w2 (.slice ax (markP p c).zs.length cx) (marks ((c + 2 : Nat) : Int) p.zs.length)) := hr2
          have hml : (markP p c).zs.length = p.zs.length := marks_len _ _
          have HHI : Hid (Calls Try.prog 24 #[.slice ax (markP p c).zs.length cx, .int .i64 ((c : Int) + 1 + 1)] w2 fun e W' => e = .returned (.int .i64 ((c : Int) + 1 + 1 + (p.zs.length : Int))) ∧ W' = w2) := by
            rw [show ((c : Int) + 1 + 1) = ((c + 2 : Nat) : Int) from by omega]
            exact heldInts_yes w2 _ _ p.zs.length HR2.out (by omega) (by omega) (by omega)
          clear hb2 hr2 hml
          go_wp2_with fail
          refine HHI.out.mono ?_
          rintro e w3 ⟨rfl, rfl⟩
          go_wp2
          go_roundw
          case rel => exact ⟨j + 1, by omega, by go_num, val_of (by rw [HEN.out]; omega), HS2⟩
          case measure => simp [intOf]; omega
      · have hlt' : ¬ (j : Int) < (ps.length : Int) := by omega
        have HF : Hid (endK (ps.take j) k0 = endK ps k0) := by show _ = _; rw [show j = ps.length from by omega, List.take_length]
        go_wp2
        go_ret
        exact ⟨by rw [← HF.out]; rfl, HS.out.1⟩
end Go.Proofs.Ytiknpoclolnhhas
