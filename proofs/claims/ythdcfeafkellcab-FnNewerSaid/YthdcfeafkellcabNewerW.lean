/-
  The walk of the law FnNewer.
-/
import Derived.Test.YthdcfeafkellcabDrawRing
import Derived.Test.YthdcfeafkellcabFitS
import Derived.Test.YthdcfeafkellcabNum0
import Derived.Deep.CutRange
import Derived.Deep.Cut
namespace Go.Proofs.Ythdcfeafkellcab
open Go.RowKit
set_option linter.unusedVariables false

/-- Numbers within half of the round from one on. -/
def nearL (f : Int) (l : List Int) : List Int := l.map fun z => (f + z % 32) % 64
theorem nearL_len (f : Int) (l : List Int) : (nearL f l).length = l.length := by simp [nearL]
theorem nearL_next (f : Int) (l : List Int) (k : Nat) (h : k < l.length) : nearL f (l.take (k + 1)) = nearL f (l.take k) ++ [(f + l[k] % 32) % 64] := by
  unfold nearL
  rw [List.take_succ_eq_append_getElem h, List.map_append]
  rfl
theorem near_fits (f : Int) (l : List Int) (hf : 0 ≤ f ∧ f ≤ 63) (hl : l.length ≤ 40) : mayFit (nearL f l) = true ∧ outFit (nearL f l) = true := by
  have hs : ∀ z ∈ nearL f l, seqB z = true := fun z hz => by
    obtain ⟨x, -, rfl⟩ := List.mem_map.1 hz
    exact seqB_mod _
  have h1 := fit_in (zs := nearL f l) (by rw [nearL_len]; exact hl) (List.all_eq_true.2 hs)
  refine ⟨h1.1, ?_⟩
  rw [h1.2, ← within_fits _ hs, within_iff _ hs]
  refine ⟨f, hf, fun z hz => ?_⟩
  obtain ⟨x, -, rfl⟩ := List.mem_map.1 hz
  omega
/-- Of two numbers of the round: at most one is newer; neither just where they are alike or half of it apart; there and back is the whole round; the next one is newer. -/
theorem newer_two (a b : Int) (ha : seqB a = true) (hb : seqB b = true) : ¬ (newerB a b = true ∧ newerB b a = true) ∧ ((newerB a b = false ∧ newerB b a = false) ↔ (a = b ∨ stepsZ a b = 32)) ∧ (stepsZ a b + stepsZ b a) % 64 = 0 ∧ newerB ((a + 1) % 64) a = true ∧ seqB ((a + 1) % 64) = true ∧ (0 ≤ stepsZ a b ∧ stepsZ a b ≤ 63) ∧ (0 ≤ stepsZ b a ∧ stepsZ b a ≤ 63) := by
  have a0 := seqB_iff.1 ha
  have b0 := seqB_iff.1 hb
  refine ⟨?_, ?_, ?_, ?_, seqB_mod _, ?_, ?_⟩
  · rw [newerB_iff, newerB_iff]; omega
  · rw [← Bool.not_eq_true, ← Bool.not_eq_true, newerB_iff, newerB_iff]; unfold stepsZ; omega
  · unfold stepsZ; omega
  · rw [newerB_iff]; omega
  · unfold stepsZ; omega
  · unfold stepsZ; omega

namespace fnNewer
set_option maxRecDepth 100000 in
set_option maxHeartbeats 16000000 in
theorem walk (a0 : Option Addr) (len0 cap0 : Nat) (a1 : Option Addr) (len1 cap1 : Nat) (w : World) (hc0 : Code w.heap.size w a0 len0) (hl0 : len0 ≤ 9223372036854775807) (hc1 : Code w.heap.size w a1 len1) (hl1 : len1 ≤ 9223372036854775807) :
    Calls Try.prog 5 #[.slice a0 len0 cap0, .slice a1 len1 cap1] w fun e w' => e = .returned (.bool true) ∧ Below w.heap.size w w' := by
  have HC0 : Hid (Code w.heap.size w a0 len0) := hc0
  have HC1 : Hid (Code w.heap.size w a1 len1) := hc1
  have S0 : Hid (Since w.heap.size w w) := Since.start w
  clear hc0 hc1
  obtain ⟨X, hX⟩ : ∃ X : Int, IntKind.i64.wrap ((len0 : Int) + (len1 : Int)) = X := ⟨_, rfl⟩
  by_cases hbig : 1048576 < X
  · have hbig' : decide ((1048576 : Int) < X) = true := decide_eq_true hbig
    go_enter Try.func5, Try.ntmps5
    go_wp2
    go_ret
    exact ⟨rfl, Below.refl _ _⟩
  have hbig' : decide ((1048576 : Int) < X) = false := decide_eq_false hbig
  go_enter Try.func5, Try.ntmps5
  go_wp2_with fail
  refine (drawIsNewer_any w.heap.size w _ a0 len0 cap0 HC0.out (by omega) S0.out).mono ?_
  rintro e w1 ⟨a, b, rfl, ha, hb, hsw⟩
  have S1 : Hid (Since w.heap.size w w1) := hsw
  clear hsw ha hb S0
  obtain ⟨n, hn⟩ : ∃ n, n = isNewZ a b := ⟨_, rfl⟩
  obtain ⟨ok, hok⟩ : ∃ ok, ok = bothB a b := ⟨_, rfl⟩
  obtain ⟨s, hs⟩ : ∃ s, s = stepsToZ a b := ⟨_, rfl⟩
  obtain ⟨x, hx⟩ : ∃ x, x = nextZ a := ⟨_, rfl⟩
  obtain ⟨tw, htw⟩ : ∃ tw, tw = seqB a := ⟨_, rfl⟩
  have CNI : Hid (Calls Try.prog 30 #[.int .i64 a, .int .i64 b] w1 fun e W' => e = .returned (.tuple #[.bool n, .bool ok]) ∧ W' = w1) := by rw [hn, hok]; exact implIsNewer_any w1 a b
  have CNS : Hid (Calls Try.prog 31 #[.int .i64 a, .int .i64 b] w1 fun e W' => e = .returned (.tuple #[.bool n, .bool ok]) ∧ W' = w1) := by rw [hn, hok]; exact specIsNewer_any w1 a b
  have CTI : Hid (Calls Try.prog 32 #[.int .i64 a, .int .i64 b] w1 fun e W' => e = .returned (.tuple #[.int .i64 s, .bool ok]) ∧ W' = w1) := by rw [hs, hok]; exact implStepsTo_any w1 a b
  have CTS : Hid (Calls Try.prog 33 #[.int .i64 a, .int .i64 b] w1 fun e W' => e = .returned (.tuple #[.int .i64 s, .bool ok]) ∧ W' = w1) := by rw [hs, hok]; exact specStepsTo_any w1 a b
  have CXI : Hid (Calls Try.prog 34 #[.int .i64 a] w1 fun e W' => e = .returned (.tuple #[.int .i64 x, .bool tw]) ∧ W' = w1) := by rw [hx, htw]; exact implNextSeq_any w1 a
  have CXS : Hid (Calls Try.prog 35 #[.int .i64 a] w1 fun e W' => e = .returned (.tuple #[.int .i64 x, .bool tw]) ∧ W' = w1) := by rw [hx, htw]; exact specNextSeq_any w1 a
  have HOK : Hid (ok = true → seqB a = true ∧ seqB b = true ∧ tw = true ∧ n = newerB a b ∧ s = stepsZ a b ∧ x = (a + 1) % 64) := fun h => by
    rw [hok] at h
    have h2 : seqB a = true ∧ seqB b = true := by unfold bothB at h; simpa using h
    refine ⟨h2.1, h2.2, by rw [htw]; exact h2.1, ?_, ?_, ?_⟩
    · rw [hn]; unfold isNewZ; rw [h]; rfl
    · rw [hs]; unfold stepsToZ; rw [h]; rfl
    · rw [hx]; unfold nextZ; rw [h2.1]; rfl
  clear hn hok hs hx htw
  go_wp2_with fail
  refine CNI.out.mono ?_
  rintro e w9 ⟨rfl, hw9⟩
  obtain rfl := hw9.symm
  clear hw9
  go_wp2_with fail
  refine CNS.out.mono ?_
  rintro e w9 ⟨rfl, hw9⟩
  obtain rfl := hw9.symm
  clear hw9
  go_wp2_with fail
  refine CTI.out.mono ?_
  rintro e w9 ⟨rfl, hw9⟩
  obtain rfl := hw9.symm
  clear hw9
  go_wp2_with fail
  refine CTS.out.mono ?_
  rintro e w9 ⟨rfl, hw9⟩
  obtain rfl := hw9.symm
  clear hw9
  go_wp2_with fail
  refine CXI.out.mono ?_
  rintro e w9 ⟨rfl, hw9⟩
  obtain rfl := hw9.symm
  clear hw9
  go_wp2_with fail
  refine CXS.out.mono ?_
  rintro e w9 ⟨rfl, hw9⟩
  obtain rfl := hw9.symm
  clear hw9
  clear CNI CNS CTI CTS CXI CXS
  go_upto_if 109 with fail
  go_cut [19, 20, 21, 22, 23, 24] from 109 to 178 (fun s19 s20 s21 s22 s23 s24 wc => Hid (Since w.heap.size w wc))
  case first =>
   cases ok with
   | false =>
    go_wp2
    go_meet
    exact S1
   | true =>
    obtain ⟨sa, sb, rfl, hn, hs, hx⟩ := HOK.out rfl
    obtain ⟨t1, t2, t3, t4, t5, t6, t7⟩ := newer_two a b sa sb
    obtain ⟨mm, hmm⟩ : ∃ mm, mm = newerB b a := ⟨_, rfl⟩
    obtain ⟨tt, htt⟩ : ∃ tt, tt = stepsZ b a := ⟨_, rfl⟩
    rw [← hn, ← hmm] at t1
    rw [← hn, ← hmm, ← hs] at t2
    rw [← hs, ← htt] at t3
    rw [← hx] at t4 t5
    rw [← hs] at t6
    rw [← htt] at t7
    have bba : bothB b a = true := by unfold bothB; rw [sa, sb]; rfl
    have bxa : bothB x a = true := by unfold bothB; rw [sa, t5]; rfl
    have CBA : Hid (Calls Try.prog 30 #[.int .i64 b, .int .i64 a] w1 fun e W' => e = .returned (.tuple #[.bool mm, .bool true]) ∧ W' = w1) := by
      have := implIsNewer_any w1 b a
      unfold isNewZ at this
      rw [bba, ← hmm] at this
      exact this
    have CTB : Hid (Calls Try.prog 32 #[.int .i64 b, .int .i64 a] w1 fun e W' => e = .returned (.tuple #[.int .i64 tt, .bool true]) ∧ W' = w1) := by
      have := implStepsTo_any w1 b a
      unfold stepsToZ at this
      rw [bba, if_pos rfl, ← htt] at this
      exact this
    have CXA : Hid (Calls Try.prog 30 #[.int .i64 x, .int .i64 a] w1 fun e W' => e = .returned (.tuple #[.bool true, .bool true]) ∧ W' = w1) := by
      have := implIsNewer_any w1 x a
      unfold isNewZ at this
      rw [bxa, t4] at this
      exact this
    have htm : (s + tt).tmod 64 = 0 := by rw [Int.tmod_eq_emod_of_nonneg (by omega)]; exact t3
    have s0 : 0 ≤ s := t6.1
    have s1 : s ≤ 63 := t6.2
    have q0 : 0 ≤ tt := t7.1
    have q1 : tt ≤ 63 := t7.2
    clear hn hs hx hmm htt t3 t4 t5 t6 t7 bba bxa sa sb HOK
    cases n with
    | true =>
     cases mm with
     | true => exact absurd ⟨rfl, rfl⟩ t1
     | false =>
      have e1 : (a == b) = false := by rw [beq_eq_false_iff_ne]; intro h; exact absurd (t2.2 (.inl h)).1 (by simp)
      have e2 : (s == 32) = false := by rw [beq_eq_false_iff_ne]; intro h; exact absurd (t2.2 (.inr h)).1 (by simp)
      clear t1 t2
      go_wp2_with fail
      refine CBA.out.mono ?_
      rintro e w9 ⟨rfl, rfl⟩
      go_wp2_with fail
      refine CTB.out.mono ?_
      rintro e w9 ⟨rfl, rfl⟩
      go_wp2_with fail
      refine CXA.out.mono ?_
      rintro e w9 ⟨rfl, rfl⟩
      go_wp2
      go_meet
      exact S1
    | false =>
     cases mm with
     | true =>
      have e1 : (a == b) = false := by rw [beq_eq_false_iff_ne]; intro h; exact absurd (t2.2 (.inl h)).2 (by simp)
      have e2 : (s == 32) = false := by rw [beq_eq_false_iff_ne]; intro h; exact absurd (t2.2 (.inr h)).2 (by simp)
      clear t1 t2
      go_wp2_with fail
      refine CBA.out.mono ?_
      rintro e w9 ⟨rfl, rfl⟩
      go_wp2_with fail
      refine CTB.out.mono ?_
      rintro e w9 ⟨rfl, rfl⟩
      go_wp2_with fail
      refine CXA.out.mono ?_
      rintro e w9 ⟨rfl, rfl⟩
      go_wp2
      go_meet
      exact S1
     | false =>
      have t2' := t2.1 ⟨rfl, rfl⟩
      clear t1 t2
      by_cases hab : a = b
      · have e1 : (a == b) = true := by simp [hab]
        clear hab t2'
        go_wp2_with fail
        refine CBA.out.mono ?_
        rintro e w9 ⟨rfl, rfl⟩
        go_wp2_with fail
        refine CTB.out.mono ?_
        rintro e w9 ⟨rfl, rfl⟩
        go_wp2_with fail
        refine CXA.out.mono ?_
        rintro e w9 ⟨rfl, rfl⟩
        go_wp2
        go_meet
        exact S1
      · have e1 : (a == b) = false := by simp [hab]
        have e2 : (s == 32) = true := by rw [beq_iff_eq]; exact t2'.resolve_left hab
        clear hab t2'
        go_wp2_with fail
        refine CBA.out.mono ?_
        rintro e w9 ⟨rfl, rfl⟩
        go_wp2_with fail
        refine CTB.out.mono ?_
        rintro e w9 ⟨rfl, rfl⟩
        go_wp2_with fail
        refine CXA.out.mono ?_
        rintro e w9 ⟨rfl, rfl⟩
        go_wp2
        go_meet
        exact S1
  case rest =>
    have SR : Hid (Since w.heap.size w wc) := hcut
    clear hcut HOK S1
    generalize hwz9 : wc = z9 at *
    clear hwz9
    go_wp2_with fail
    refine (drawFits_any w.heap.size w _ a1 len1 cap1 HC1.out (by omega) SR.out).mono ?_
    rintro e x1 ⟨vx, l, rfl, hox, hlx, hsq, hsx⟩
    obtain ⟨ax, cx, rfl⟩ : ∃ a c, vx = Value.slice a l.length c := by have := rowShape hox; simpa using this
    have SX1 : Hid (Since w.heap.size w x1) := hsx
    have RX : Hid (∀ w', Since x1.heap.size x1 w' → Reads w' (.slice ax l.length cx) l) := fun w' hs => hox.reads.below hs.1
    have HSQ : Hid (∀ z ∈ l, seqB z = true) := hsq
    obtain ⟨fo, hfo⟩ : ∃ fo, fo = outFit l := ⟨_, rfl⟩
    obtain ⟨fm, hfm⟩ : ∃ fm, fm = mayFit l := ⟨_, rfl⟩
    have CXI : Hid (∀ W, Reads W (.slice ax l.length cx) l → Calls Try.prog 37 #[.slice ax l.length cx] W fun e W' => e = .returned (.tuple #[.bool fo, .bool fm]) ∧ Below W.heap.size W W') := fun W hr => by rw [hfo, hfm]; exact implFits_any W _ l hr (by omega)
    have CXS : Hid (∀ W, Reads W (.slice ax l.length cx) l → Calls Try.prog 38 #[.slice ax l.length cx] W fun e W' => e = .returned (.tuple #[.bool fo, .bool fm]) ∧ Below W.heap.size W W') := fun W hr => by rw [hfo, hfm]; exact specFits_any W _ l hr (by omega)
    clear hox hsx hfo hfm hsq
    go_wp2_with fail
    refine (CXI.out _ (RX.out _ (Since.start _))).mono ?_
    rintro e x2 ⟨rfl, hbx2⟩
    have SX2 : Hid (Since w.heap.size w x2) := SX1.out.step hbx2
    have UX2 : Hid (Since x1.heap.size x1 x2) := (Since.start _).step hbx2
    clear hbx2
    go_wp2_with fail
    refine (CXS.out _ (RX.out _ UX2.out)).mono ?_
    rintro e x3 ⟨rfl, hbx3⟩
    have SX3 : Hid (Since w.heap.size w x3) := SX2.out.step hbx3
    have UX3 : Hid (Since x1.heap.size x1 x3) := UX2.out.step hbx3
    clear hbx3 UX2 SX2 SX1 CXI CXS
    go_wp2_with fail
    refine (numberOf_any w.heap.size w _ a0 len0 cap0 HC0.out (by omega) SX3.out).mono ?_
    rintro e x4 ⟨nn, rfl, nn0, nn1, hx4⟩
    obtain rfl := hx4.symm
    obtain ⟨fr, hfr⟩ : ∃ fr, fr = nn % 64 := ⟨_, rfl⟩
    have htm0 : nn.tmod 64 = fr := by rw [hfr]; exact Int.tmod_eq_emod_of_nonneg nn0
    have fr0 : 0 ≤ fr := by omega
    have fr1 : fr ≤ 63 := by omega
    have HCL : Hid (∀ W1, Since x3.heap.size x3 W1 → ∀ j (hj : j < l.length), ∃ g o, ax = some ⟨g, o, none⟩ ∧ W1.cell? ⟨g, o + j, none⟩ = some (.int .i64 l[j])) := fun W1 hs j hj => by
      obtain ⟨a', c', e', hcc⟩ := RX.out W1 (UX3.out.tran hs)
      have ea : ax = a' := by simp at e'; exact e'.1
      rcases hcc with e | ⟨g, o, ha, hg, hc⟩
      · rw [e] at hj; simp at hj
      · exact ⟨g, o, ea.trans ha, hc j hj⟩
    clear hfr
    go_wp2
    clear htm0 nn0 nn1
    go_loopw [31, 204] (fun v i wr => ∃ k : Nat, k ≤ l.length ∧ i = .int .i64 k ∧ Hid (Own wr x3.heap.size v (nearL fr (l.take k)) ∧ Since x3.heap.size x3 wr)) (fun _ i _ => l.length - (intOf i).toNat)
    case atStart => exact ⟨0, Nat.zero_le _, rfl, Own.nil _ _, Since.start _⟩
    case round =>
      obtain ⟨k, hk, rfl, HK⟩ := hrel
      obtain ⟨a3, c3, rfl⟩ : ∃ a c, _ = Value.slice a (nearL fr (l.take k)).length c := by have := rowShape HK.out.1; simpa using this
      have hnl : (nearL fr (l.take k)).length = k := by rw [nearL_len, List.length_take]; omega
      by_cases hlt : k < l.length
      · have hlt' : (k : Int) < (l.length : Int) := by omega
        obtain ⟨g1, o1, rfl, q0⟩ := HCL.out wr HK.out.2 k hlt
        have hz := seqB_iff.1 (HSQ.out _ (List.getElem_mem hlt))
        have HNX : Hid (nearL fr (l.take (k + 1)) = nearL fr (l.take k) ++ [(fr + l[k] % 32) % 64]) := nearL_next fr l k hlt
        generalize l[k] = z at *
        obtain ⟨y, hy⟩ : ∃ y, y = z % 32 := ⟨_, rfl⟩
        rw [← hy] at HNX
        have htm1 : z.tmod 32 = y := by rw [hy]; exact Int.tmod_eq_emod_of_nonneg (by omega)
        have y0 : 0 ≤ y := by omega
        have y1 : y ≤ 31 := by omega
        obtain ⟨u, hu⟩ : ∃ u, u = (fr + y) % 64 := ⟨_, rfl⟩
        rw [← hu] at HNX
        have htm2 : (fr + y).tmod 64 = u := by rw [hu]; exact Int.tmod_eq_emod_of_nonneg (by omega)
        have hz0 : 0 ≤ z := hz.1
        have HKK : Hid (Own wr x3.heap.size (.slice a3 (nearL fr (l.take k)).length c3) (nearL fr (l.take k)) ∧ Since x3.heap.size x3 wr) := HK.out
        clear hz hy hu HK
        generalize nearL fr (l.take k) = nl at *
        have HAP : Hid (∀ ty, ∃ v' w', (Builtin.append_ #[27, 27] ty #[.slice a3 nl.length c3, .slice (some ⟨wr.heap.size, 0, none⟩) 1 1]).run Try.prog (wr.alloc (.cells #[.int .i64 u] 3)) = .ok v' w' ∧ Grown (wr.alloc (.cells #[.int .i64 u] 3)) x3.heap.size 3 1 (.slice a3 nl.length c3) (nl ++ [u]).length ((nl ++ [u]).map (Value.int .i64)) v' w') := fun ty =>
          run_app1 _ _ _ nl (HKK.out.1.below ((Below.refl _ _).alloc (Nat.le_refl _) _)) wr.heap.size 1 u (new_cell _ _ _) (by omega) (by have := HKK.out.2.2; simp; omega) ty
        have HS1 : Hid (Since x3.heap.size x3 (wr.alloc (.cells #[.int .i64 u] 3))) := HKK.out.2.step ((Below.refl _ wr).alloc (Nat.le_refl _) _)
        clear HKK
        go_wp2_with (at_builtin; refine list_app (by rfl) (.tmp 210) (.tmp 216) 27 (by rfl) (.slice a3 nl.length c3) (.slice (some ⟨wr.heap.size, 0, none⟩) 1 1) (by rfl) (by rfl) _ HAP.out ?_; intro v7 w7 hg7; have HF : Hid (Own w7 x3.heap.size v7 (nl ++ [u]) ∧ Since x3.heap.size x3 w7) := ⟨hg7.own, HS1.out.1.trans hg7.below, Nat.le_trans HS1.out.2 hg7.size⟩; clear hg7)
        go_roundw
        case rel => exact ⟨k + 1, by omega, by go_num, by rw [HNX.out]; exact HF.out.1, HF.out.2⟩
        case measure => simp [intOf]; omega
      · have hlt' : ¬ (k : Int) < (l.length : Int) := by omega
        obtain rfl : k = l.length := by omega
        have e : l.take l.length = l := List.take_of_length_le (Nat.le_refl _)
        have HF : Hid (Own wr x3.heap.size (.slice a3 l.length c3) (nearL fr l) ∧ Since w.heap.size w wr) := by
          have h1 := HK.out.1
          rw [e, nearL_len] at h1
          exact ⟨h1, SX3.out.tran HK.out.2⟩
        rw [hnl]
        clear HK e hnl
        have CN : Hid (∀ W, Reads W (.slice a3 l.length c3) (nearL fr l) → Calls Try.prog 37 #[.slice a3 l.length c3] W fun e W' => e = .returned (.tuple #[.bool (outFit (nearL fr l)), .bool (mayFit (nearL fr l))]) ∧ Below W.heap.size W W') := fun W hr => implFits_any W _ _ hr (by rw [nearL_len]; omega)
        by_cases h40 : 40 < l.length
        · have h40' : (40 : Int) < (l.length : Int) := by omega
          generalize outFit (nearL fr l) = no at *
          generalize mayFit (nearL fr l) = nm at *
          go_wp2_with fail
          refine (CN.out _ HF.out.1.reads).mono ?_
          rintro e x7 ⟨rfl, hb7⟩
          have SF : Hid (Since w.heap.size w x7) := HF.out.2.step hb7
          clear hb7
          go_wp2
          go_ret
          exact ⟨rfl, SF.out.1⟩
        · have h40' : ¬ (40 : Int) < (l.length : Int) := by omega
          have HFT : Hid (mayFit (nearL fr l) = true ∧ outFit (nearL fr l) = true) := near_fits fr l ⟨fr0, fr1⟩ (by omega)
          go_wp2_with fail
          refine (CN.out _ HF.out.1.reads).mono ?_
          rintro e x7 ⟨rfl, hb7⟩
          rw [HFT.out.1, HFT.out.2]
          have SF : Hid (Since w.heap.size w x7) := HF.out.2.step hb7
          clear hb7
          go_wp2
          go_ret
          exact ⟨rfl, SF.out.1⟩
end fnNewer
end Go.Proofs.Ythdcfeafkellcab
