/-
  'LeadersBy' of the program.
-/
import Derived.Test.YthdcfeafkellcabLedT
import Derived.Test.YthdcfeafkellcabGoodBs
import Derived.Test.YthdcfeafkellcabGoodBsS
namespace Go.Proofs.Ythdcfeafkellcab
open Go.RowKit
set_option linter.unusedVariables false

set_option maxRecDepth 100000 in
set_option maxHeartbeats 4000000 in
theorem implLeaders_any (W : World) (B B2 : Nat) (v u : Value) (vs : List Value) (l : List BrD) (zss : List (List Int)) (h : OwnBr W B v l) (hs : OwnSS W B2 u vs zss) (hl : l.length ≤ 1048576) (hl2 : zss.length ≤ 1048576) (hin : ∀ j (hj : j < zss.length), zss[j].length ≤ 1048576) :
    Calls Try.prog 8 #[v, u] W fun e W' => ∃ v', e = .returned (.tuple #[v', .bool (ledOk l zss)]) ∧ Own W' W.heap.size v' (ledOut l zss) ∧ Below W.heap.size W W' := by
  obtain ⟨a1, c1, rfl⟩ := h.shape
  obtain ⟨a2, c2, rfl⟩ := hs.shape
  have HO : Hid (∀ w', Since W.heap.size W w' → ReadsBr w' (.slice a1 l.length c1) l) := fun w' hS => h.reads.below hS.1
  have HSS : Hid (∀ w', Since W.heap.size W w' → ReadsSS w' (.slice a2 zss.length c2) zss) := fun w' hS => hs.reads.below hS.1
  have HCS : Hid (zss = [] ∨ ∃ g off, a2 = some ⟨g, off, none⟩ ∧ ∀ W1, Since W.heap.size W W1 → ∀ j (hj : j < zss.length), ∃ u, W1.cell? ⟨g, off + j, none⟩ = some u ∧ Own W1 0 u zss[j]) := by
    have hr := hs.row
    rcases hs.row.2 with ⟨hv, hn⟩ | ⟨g, cap, cur, hv, -, hg, -⟩
    · exact .inl (List.eq_nil_of_length_eq_zero (by rw [← hs.len]; exact hn))
    · rw [hv] at hr
      have e : a2 = some ⟨g, 0, none⟩ := by simp at hv; exact hv.1
      refine .inr ⟨g, 0, e, fun W1 hS j hj => ?_⟩
      have hj' : j < vs.length := by rw [hs.len]; exact hj
      refine ⟨vs[j], ?_, ((hs.inner j hj').below hS.1).mono (Nat.zero_le _)⟩
      rw [Nat.zero_add, hS.1.cell (p := ⟨g, j, none⟩) (Array.getElem?_eq_some_iff.1 hg).1, World.ownsRow.cellAt hr j (by omega), List.getElem?_eq_getElem hj']
  have S0 : Hid (Since W.heap.size W W) := Since.start W
  have HIN : Hid (∀ j (hj : j < zss.length), zss[j].length ≤ 1048576) := hin
  clear h hs hin
  cases hg : goodBrs l with
  | false =>
    have HN : Hid (ledOk l zss = false ∧ ledOut l zss = []) := led_no l zss (by unfold ledOk; rw [hg]; rfl)
    have HG : Hid (goodBrs l = false) := hg
    clear hg
    go_enter Try.func8, Try.ntmps8
    go_wp2_with fail
    refine (implGoodBs_any _ _ l (HO.out _ S0.out) hl).mono ?_
    rintro e w1 ⟨rfl, hb1⟩
    rw [HG.out]
    have S1 : Hid (Since W.heap.size W w1) := S0.out.step hb1
    clear hb1
    go_wp2
    refine bodyPost_ret (results_tmp2 rfl _ _ _) rfl ?_
    rw [HN.out.1, HN.out.2]
    exact ⟨_, rfl, Own.nil _ _, S1.out.1⟩
  | true =>
    have HG : Hid (goodBrs l = true) := hg
    have CA : Hid (∀ b w, Since W.heap.size W w → (decide (zss.length = l.length) && seesB l.length zss) = b → Calls Try.prog 54 #[.slice a2 zss.length c2, .int .i64 (l.length : Int)] w fun e W' => e = .returned (.bool b) ∧ Below w.heap.size w W') := fun b w hS hb => by
      have := areSights_any w _ zss l.length (HSS.out w hS) hl2 HIN.out
      rw [hb] at this
      exact this
    cases hss : (decide (zss.length = l.length) && seesB l.length zss) with
    | false =>
      have HN : Hid (ledOk l zss = false ∧ ledOut l zss = []) := led_no l zss (by unfold ledOk; rw [hss]; simp)
      have HB : Hid ((decide (zss.length = l.length) && seesB l.length zss) = false) := hss
      clear hg hss
      go_enter Try.func8, Try.ntmps8
      go_wp2_with fail
      refine (implGoodBs_any _ _ l (HO.out _ S0.out) hl).mono ?_
      rintro e w1 ⟨rfl, hb1⟩
      rw [HG.out]
      have S1 : Hid (Since W.heap.size W w1) := S0.out.step hb1
      clear hb1
      go_wp2_with fail
      refine (CA.out false _ S1.out HB.out).mono ?_
      rintro e w2 ⟨rfl, hb2⟩
      have S2 : Hid (Since W.heap.size W w2) := S1.out.step hb2
      clear hb2
      go_wp2
      refine bodyPost_ret (results_tmp2 rfl _ _ _) rfl ?_
      rw [HN.out.1, HN.out.2]
      exact ⟨_, rfl, Own.nil _ _, S2.out.1⟩
    | true =>
      have HB : Hid ((decide (zss.length = l.length) && seesB l.length zss) = true) := hss
      simp only [Bool.and_eq_true, decide_eq_true_eq] at hss
      obtain ⟨hlen, hsb⟩ := hss
      have HY : Hid (ledOk l zss = true ∧ ledOut l zss = ledL l zss zss.length) := led_yes l zss hg hlen hsb
      have HSB : Hid (∀ j (hj : j < zss.length), plB l.length zss[j] = true) := seesB_at _ zss hsb
      have HLEN : Hid (zss.length = l.length) := hlen
      have hl10 : zss.length ≤ 10 := by have := (goodBrs_at l hg).1; omega
      have hl11 : l.length ≤ 10 := by have := (goodBrs_at l hg).1; omega
      clear hg hsb hlen
      go_enter Try.func8, Try.ntmps8
      go_wp2_with fail
      refine (implGoodBs_any _ _ l (HO.out _ S0.out) hl).mono ?_
      rintro e w1 ⟨rfl, hb1⟩
      rw [HG.out]
      have S1 : Hid (Since W.heap.size W w1) := S0.out.step hb1
      clear hb1
      go_wp2_with fail
      refine (CA.out true _ S1.out HB.out).mono ?_
      rintro e w2 ⟨rfl, hb2⟩
      have S2 : Hid (Since W.heap.size W w2) := S1.out.step hb2
      clear hb2 CA
      go_wp2
      go_loopw [6, 21] (fun b i wr => ∃ k : Nat, k ≤ zss.length ∧ i = .int .i64 k ∧ Hid (Own wr W.heap.size b (ledL l zss k) ∧ Since W.heap.size W wr)) (fun _ i _ => zss.length - (intOf i).toNat)
      case atStart => exact ⟨0, Nat.zero_le _, rfl, Own.nil _ _, S2.out⟩
      case round =>
        obtain ⟨k, hk, rfl, HK⟩ := hrel
        obtain ⟨a4, c4, rfl⟩ := HK.out.1.shape
        have eL := ledL_len l zss k
        rw [eL] at HK
        rw [eL]
        clear eL
        by_cases hlt : k < zss.length
        · have hlt' : (k : Int) < (zss.length : Int) := by omega
          obtain ⟨g2, o2, rfl, hc2⟩ := HCS.out.resolve_left (fun e => by rw [e] at hlt; simp at hlt)
          obtain ⟨u, q0, hou⟩ := hc2 wr HK.out.2 k hlt
          have hkl : k < l.length := by rw [← HLEN.out]; exact hlt
          obtain ⟨hpin, hpl⟩ := plB_in l.length zss[k] (HSB.out k hlt)
          obtain ⟨z, hz⟩ : ∃ z, z = ledAt l zss k := ⟨_, rfl⟩
          have HZ : Hid (ledL l zss (k + 1) = ledL l zss k ++ [z]) := by show _ = _; rw [ledL_next, hz]
          have CF : Hid (Calls Try.prog 56 #[.slice a1 l.length c1, .int .i64 (k : Int), u] wr fun e W' => ∃ v', e = .returned v' ∧ OwnBr W' wr.heap.size v' (l[k] :: atPl l zss[k]) ∧ Below wr.heap.size wr W') :=
            seenFrom_any wr _ u l zss[k] k (HO.out wr HK.out.2) hou.reads hl (by omega) hkl hpin
          have CB : Hid (∀ w x, OwnBr w 0 x (l[k] :: atPl l zss[k]) → Calls Try.prog 55 #[x, .func (.func 57) #[] #[]] w fun e w' => e = .returned (.int .i64 z) ∧ Below w.heap.size w w') := fun w x ho => by
            have h1 : (atPl l zss[k]).length ≤ zss[k].length := List.length_filterMap_le _ _
            have := bestBeats_any w x _ ho.reads (by simp only [List.length_cons]; omega)
            rw [led_same l zss[k] k hkl HG.out, ← getDS zss k hlt] at this
            rw [hz]
            exact this
          obtain ⟨au, cu, rfl⟩ := hou.shape
          clear hz hou hc2 hpin hpl
          generalize l[k] :: atPl l zss[k] = qs at *
          generalize zss[k].length = m at *
          go_wp2_with fail
          refine CF.out.mono ?_
          rintro e w6 ⟨v6, rfl, ho6, hb6⟩
          have S6 : Hid (Since W.heap.size W w6) := HK.out.2.step hb6
          have O6 : Hid (Own w6 W.heap.size (.slice a4 k c4) (ledL l zss k)) := HK.out.1.below hb6
          have Q6 : Hid (OwnBr w6 0 v6 qs) := ho6.mono (Nat.zero_le _)
          clear ho6 hb6 HK CF
          go_wp2_with fail
          refine (CB.out _ _ Q6.out).mono ?_
          rintro e wq ⟨rfl, hbq⟩
          have SQ : Hid (Since W.heap.size W wq) := S6.out.step hbq
          have OQ : Hid (Own wq W.heap.size (.slice a4 k c4) (ledL l zss k)) := O6.out.below hbq
          clear hbq CB Q6 O6
          have hb1 : Below wq.heap.size wq (wq.alloc (.cells #[.int .i64 z] 3)) := (Below.refl _ wq).alloc (Nat.le_refl _) _
          have HC : Hid (∀ ty, ∃ v' w', (Builtin.append_ #[27, 27] ty #[.slice a4 k c4, .slice (some ⟨wq.heap.size, 0, none⟩) 1 1]).run Try.prog (wq.alloc (.cells #[.int .i64 z] 3)) = .ok v' w' ∧ Grown (wq.alloc (.cells #[.int .i64 z] 3)) W.heap.size 3 1 (.slice a4 k c4) (ledL l zss k ++ [z]).length ((ledL l zss k ++ [z]).map (Value.int .i64)) v' w') := fun ty =>
            run_app1 _ _ _ (ledL l zss k) (OQ.out.below hb1) wq.heap.size 1 z (new_cell _ _ _) (by rw [ledL_len]; omega) (by have := SQ.out.2; simp; omega) ty
          have SQ1 : Hid (Since W.heap.size W (wq.alloc (.cells #[.int .i64 z] 3))) := SQ.out.step hb1
          clear hb1
          go_wp2_with (at_builtin; refine list_app (by rfl) (.tmp 26) (.tmp 32) 27 (by rfl) (.slice a4 k c4) (.slice (some ⟨wq.heap.size, 0, none⟩) 1 1) (by rfl) (by rfl) _ HC.out ?_; intro v5 w5 hg5; have HF : Hid (Own w5 W.heap.size v5 (ledL l zss (k + 1)) ∧ Since W.heap.size W w5) := ⟨by rw [HZ.out]; exact hg5.own, ⟨SQ1.out.1.trans hg5.below, Nat.le_trans SQ1.out.2 hg5.size⟩⟩; clear hg5)
          go_roundw
          case rel => exact ⟨k + 1, by omega, by go_num, HF.out⟩
          case measure => simp [intOf]; omega
        · have hlt' : ¬ (k : Int) < (zss.length : Int) := by omega
          have e : k = zss.length := by omega
          subst e
          go_wp2
          refine bodyPost_ret (results_tmp2 rfl _ _ _) rfl ?_
          rw [HY.out.1, HY.out.2]
          exact ⟨_, rfl, HK.out.1, HK.out.2.1⟩
end Go.Proofs.Ythdcfeafkellcab
