/-
  'NewestOf' of the program.
-/
import Derived.Test.YthdcfeafkellcabNewA
import Derived.Test.YthdcfeafkellcabHand
namespace Go.Proofs.Ythdcfeafkellcab
open Go.RowKit
set_option linter.unusedVariables false

theorem newest_bad (l : List ItD) (h : ¬ (l.length ≤ 20 ∧ l.all (oneB (headF l)) = true)) : newestI l = none := by unfold newestI; rw [if_neg h]

set_option maxRecDepth 100000 in
set_option maxHeartbeats 4000000 in
theorem implNewest_any (W : World) (v : Value) (l : List ItD) (h : ReadsIt W v l) (hl : l.length ≤ 1048576) (ht : ∀ x ∈ l, x.text.size ≤ maxLen) :
    Calls Try.prog 46 #[v] W fun e W' => e = .returned (.tuple #[.agg #[.int .i64 (outNew l).frm, .int .i64 (outNew l).seq, .int .i64 (outNew l).age, .string (outNew l).text], .bool (mayNew l)]) ∧ Below W.heap.size W W' := by
  obtain ⟨o, ho⟩ : ∃ o, o = outNew l := ⟨_, rfl⟩
  obtain ⟨m, hm⟩ : ∃ m, m = mayNew l := ⟨_, rfl⟩
  rw [← ho, ← hm]
  have HR : Hid (∀ w', Since (W.alloc (.cells #[.int .i64 0, .int .i64 0, .int .i64 0, .string ⟨#[]⟩] 60)).heap.size (W.alloc (.cells #[.int .i64 0, .int .i64 0, .int .i64 0, .string ⟨#[]⟩] 60)) w' → Bx4 w' W.heap.size (.int .i64 0) (.int .i64 0) (.int .i64 0) (.string ⟨#[]⟩)) := fun w' hs => (Bx4.new _ _ _ _ _ _).below hs.1
  have HB0 : Hid (Since W.heap.size W (W.alloc (.cells #[.int .i64 0, .int .i64 0, .int .i64 0, .string ⟨#[]⟩] 60))) := (Since.start W).step ((Below.refl _ W).alloc (Nat.le_refl _) _)
  have HRD : Hid (∀ w', Since W.heap.size W w' → ReadsIt w' v l) := fun w' hs => h.below hs.1
  obtain ⟨a1, cap1, rfl, hc1⟩ := h
  by_cases h1 : l.length < 1
  · have d1 : (l.length : Int) < 1 := by omega
    obtain ⟨e1, e2⟩ := newest_none (newest_no l (fun j hj => by omega))
    rw [← ho] at e1
    rw [← hm] at e2
    subst e1 e2
    clear ho hm hc1 ht HRD
    go_enter Try.func46, Try.ntmps46
    go_wp2
    refine bodyPost_ret (v := .tuple #[.agg #[.int .i64 0, .int .i64 0, .int .i64 0, .string ⟨#[]⟩], .bool false]) (by simp [results, Try.results46, go_sem]) rfl ⟨rfl, ?_⟩
    repeat (refine Below.setCell ?_ (by first | exact Nat.le_refl _ | exact Nat.le_succ _ | (simp; omega)) _)
    exact HB0.out.1
  by_cases h20 : 20 < l.length
  · have d1 : ¬ (l.length : Int) < 1 := by omega
    have d2 : (20 : Int) < (l.length : Int) := by omega
    obtain ⟨e1, e2⟩ := newest_none (newest_bad l (by omega))
    rw [← ho] at e1
    rw [← hm] at e2
    subst e1 e2
    clear ho hm hc1 ht HRD
    go_enter Try.func46, Try.ntmps46
    go_wp2
    refine bodyPost_ret (v := .tuple #[.agg #[.int .i64 0, .int .i64 0, .int .i64 0, .string ⟨#[]⟩], .bool false]) (by simp [results, Try.results46, go_sem]) rfl ⟨rfl, ?_⟩
    repeat (refine Below.setCell ?_ (by first | exact Nat.le_refl _ | exact Nat.le_succ _ | (simp; omega)) _)
    exact HB0.out.1
  have d1 : ¬ (l.length : Int) < 1 := by omega
  have d2 : ¬ (20 : Int) < (l.length : Int) := by omega
  cases hall : l.all (oneB (headF l)) with
  | false =>
    have HAL : Hid (l.all (oneB (headF l)) = false) := hall
    have CA : Hid (∀ w', Since W.heap.size W w' → Calls Try.prog 88 #[.slice a1 l.length cap1] w' fun e w2 => e = .returned (.bool false) ∧ Below w'.heap.size w' w2) := fun w' hs => by
      have := areItems_any w' _ l (HRD.out w' hs) hl ht
      rw [hall] at this
      exact this
    obtain ⟨e1, e2⟩ := newest_none (newest_bad l (fun h => by rw [hall] at h; cases h.2))
    rw [← ho] at e1
    rw [← hm] at e2
    subst e1 e2
    clear ho hm hc1 ht HRD hall
    go_enter Try.func46, Try.ntmps46
    go_wp2_with fail
    refine (CA.out _ HB0.out).mono ?_
    rintro e w1 ⟨rfl, hb1⟩
    have HS1 : Hid (Since (W.alloc (.cells #[.int .i64 0, .int .i64 0, .int .i64 0, .string ⟨#[]⟩] 60)).heap.size (W.alloc (.cells #[.int .i64 0, .int .i64 0, .int .i64 0, .string ⟨#[]⟩] 60)) w1) := (Since.start _).step hb1
    obtain ⟨r0, r1, r2, r3⟩ := (HR.out w1 HS1.out).cells
    have fr0 := (HR.out w1 HS1.out).fz 0
    have fr1 := (HR.out w1 HS1.out).fz 1
    have fr2 := (HR.out w1 HS1.out).fz 2
    have fr3 := (HR.out w1 HS1.out).fz 3
    go_wp2
    refine bodyPost_ret (v := .tuple #[.agg #[.int .i64 0, .int .i64 0, .int .i64 0, .string ⟨#[]⟩], .bool false]) (by simp [results, Try.results46, go_sem, r0, r1, r2, r3]) rfl ⟨rfl, ?_⟩
    repeat (refine Below.setCell ?_ (by first | exact Nat.le_refl _ | exact Nat.le_succ _ | (simp; omega)) _)
    exact (HB0.out.tran HS1.out).1
  | true =>
    have CA : Hid (∀ w', Since W.heap.size W w' → Calls Try.prog 88 #[.slice a1 l.length cap1] w' fun e w2 => e = .returned (.bool true) ∧ Below w'.heap.size w' w2) := fun w' hs => by
      have := areItems_any w' _ l (HRD.out w' hs) hl ht
      rw [hall] at this
      exact this
    have HSQ : Hid (∀ y ∈ l, seqB y.seq = true) := fun y hy => (goodI_parts (oneB_good (List.all_eq_true.1 hall y hy))).2.1
    have CO : Hid (∀ w' x, Since W.heap.size W w' → x ∈ l → Calls Try.prog 89 #[.agg #[.int .i64 x.frm, .int .i64 x.seq, .int .i64 x.age, .string x.text], .slice a1 l.length cap1] w' fun e w2 => e = .returned (.bool (outdoneB l x)) ∧ Below w'.heap.size w' w2) := fun w' x hs hx => isOutdone_any w' x _ l (HRD.out w' hs) hl (HSQ.out x hx) HSQ.out
    have HNO : Hid ((∀ j (hj : j < l.length), outdoneB l l[j] = true) → o = zeroI ∧ m = false) := fun hh => by rw [ho, hm]; exact newest_none (newest_no l hh)
    have HAT : Hid (∀ k (hk : k < l.length), (∀ j (hj : j < l.length), j < k → outdoneB l l[j] = true) → outdoneB l l[k] = false → o = l[k] ∧ m = true) := fun k hk h1 h2 => by rw [ho, hm]; exact newest_some (newest_at l ⟨by omega, hall⟩ k hk h1 h2)
    obtain ⟨g1, o1, rfl, hg1, hc1⟩ := hc1.resolve_left (fun e => by rw [e] at h1; simp at h1)
    have HC1 : Hid (∀ W1, Since W.heap.size W W1 → ∀ j (hj : j < l.length), ItAt W1 g1 (o1 + j * 4) l[j]) := fun W1 hS j hj => (hc1 j hj).below hg1 hS.1
    clear ho hm hc1 ht HRD hall hg1 HSQ
    go_enter Try.func46, Try.ntmps46
    go_wp2_with fail
    refine (CA.out _ HB0.out).mono ?_
    rintro e w1 ⟨rfl, hb1⟩
    have HS1 : Hid (Since (W.alloc (.cells #[.int .i64 0, .int .i64 0, .int .i64 0, .string ⟨#[]⟩] 60)).heap.size (W.alloc (.cells #[.int .i64 0, .int .i64 0, .int .i64 0, .string ⟨#[]⟩] 60)) w1) := (Since.start _).step hb1
    clear hb1 CA
    go_wp2
    generalize hW1 : (W.alloc (.cells #[.int .i64 0, .int .i64 0, .int .i64 0, .string ⟨#[]⟩] 60)) = W1 at *
    clear hW1
    go_loopw [22] (fun i wr => ∃ k : Nat, k ≤ l.length ∧ i = .int .i64 k ∧ Hid ((∀ j (hj : j < l.length), j < k → outdoneB l l[j] = true) ∧ Since W1.heap.size W1 wr)) (fun i _ => l.length - (intOf i).toNat)
    case atStart => exact ⟨0, Nat.zero_le _, rfl, fun j _ hj => absurd hj (Nat.not_lt_zero _), HS1.out⟩
    case round =>
      obtain ⟨k, hk, rfl, HK⟩ := hrel
      by_cases hlt : k < l.length
      · obtain ⟨hA, hS⟩ := HK.out
        have hlt' : (k : Int) < (l.length : Int) := by omega
        obtain ⟨q0, q1, q2, q3⟩ := HC1.out wr (HB0.out.tran hS) k hlt
        have HMX : Hid (l[k] ∈ l) := List.getElem_mem hlt
        have HOK : Hid (outdoneB l l[k] = true → ∀ j (hj : j < l.length), j < k + 1 → outdoneB l l[j] = true) := fun ho j hj hk1 => by
          by_cases e : j = k
          · subst e; exact ho
          · exact hA j hj (by omega)
        have HYE : Hid (outdoneB l l[k] = false → o = l[k] ∧ m = true) := fun h => HAT.out k hlt hA h
        have HS : Hid (Since W1.heap.size W1 wr) := hS
        generalize l[k] = x at *
        have HS2 : Hid (Since W1.heap.size W1 (wr.alloc (.cells #[.int .i64 x.frm, .int .i64 x.seq, .int .i64 x.age, .string x.text] 60))) := hS.step ((Below.refl _ wr).alloc (Nat.le_refl _) _)
        have HX : Hid (∀ w', Since (wr.alloc (.cells #[.int .i64 x.frm, .int .i64 x.seq, .int .i64 x.age, .string x.text] 60)).heap.size (wr.alloc (.cells #[.int .i64 x.frm, .int .i64 x.seq, .int .i64 x.age, .string x.text] 60)) w' → Bx4 w' wr.heap.size (.int .i64 x.frm) (.int .i64 x.seq) (.int .i64 x.age) (.string x.text)) := fun w' hs => (Bx4.new _ _ _ _ _ _).below hs.1
        clear hA hS HK
        cases hb : outdoneB l x with
        | true =>
          have HE : Hid (outdoneB l x = true) := hb
          have HA1 : Hid (∀ j (hj : j < l.length), j < k + 1 → outdoneB l l[j] = true) := HOK.out hb
          clear hb HOK HYE
          go_wp2_with fail
          refine (CO.out _ x (HB0.out.tran HS2.out) HMX.out).mono ?_
          rintro e w2 ⟨rfl, hb2⟩
          rw [HE.out]
          have HS3 : Hid (Since W1.heap.size W1 w2) := HS2.out.step hb2
          clear hb2
          go_wp2
          go_roundw
          case rel => exact ⟨k + 1, by omega, by go_num, HA1.out, HS3.out⟩
          case measure => simp [intOf]; omega
        | false =>
          have HE : Hid (outdoneB l x = false) := hb
          obtain ⟨e1, e2⟩ := HYE.out hb
          subst e1 e2
          clear hb HOK HYE
          go_wp2_with fail
          refine (CO.out _ o (HB0.out.tran HS2.out) HMX.out).mono ?_
          rintro e w2 ⟨rfl, hb2⟩
          rw [HE.out]
          have HS3 : Hid (Since W1.heap.size W1 w2) := HS2.out.step hb2
          obtain ⟨x0, x1, x2, x3⟩ := (HX.out w2 ((Since.start _).step hb2)).cells
          clear hb2
          obtain ⟨r0, r1, r2, r3⟩ := (HR.out w2 HS3.out).cells
          have fr0 := (HR.out w2 HS3.out).fz 0
          have fr1 := (HR.out w2 HS3.out).fz 1
          have fr2 := (HR.out w2 HS3.out).fz 2
          have fr3 := (HR.out w2 HS3.out).fz 3
          go_wp2
          refine bodyPost_ret (v := .tuple #[.agg #[.int .i64 o.frm, .int .i64 o.seq, .int .i64 o.age, .string o.text], .bool true]) (by simp [results, Try.results46, go_sem, r0, r1, r2, r3]) rfl ⟨rfl, ?_⟩
          repeat (refine Below.setCell ?_ (by first | exact Nat.le_refl _ | exact Nat.le_succ _ | (simp; omega)) _)
          exact (HB0.out.tran HS3.out).1
      · obtain ⟨e1, e2⟩ := HNO.out fun j hj => HK.out.1 j hj (by omega)
        have HS : Hid (Since W1.heap.size W1 wr) := HK.out.2
        subst e1 e2
        have hlt' : ¬ (k : Int) < (l.length : Int) := by omega
        clear HK HAT HNO
        obtain ⟨r0, r1, r2, r3⟩ := (HR.out wr HS.out).cells
        have fr0 := (HR.out wr HS.out).fz 0
        have fr1 := (HR.out wr HS.out).fz 1
        have fr2 := (HR.out wr HS.out).fz 2
        have fr3 := (HR.out wr HS.out).fz 3
        go_wp2
        refine bodyPost_ret (v := .tuple #[.agg #[.int .i64 0, .int .i64 0, .int .i64 0, .string ⟨#[]⟩], .bool false]) (by simp [results, Try.results46, go_sem, r0, r1, r2, r3]) rfl ⟨rfl, ?_⟩
        repeat (refine Below.setCell ?_ (by first | exact Nat.le_refl _ | exact Nat.le_succ _ | (simp; omega)) _)
        exact (HB0.out.tran HS.out).1
end Go.Proofs.Ythdcfeafkellcab
