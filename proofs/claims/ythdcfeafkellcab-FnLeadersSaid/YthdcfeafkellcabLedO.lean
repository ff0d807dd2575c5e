/-
  'LeadersBy' of the model.
-/
import Derived.Test.YthdcfeafkellcabLedT
import Derived.Test.YthdcfeafkellcabGoodBs
import Derived.Test.YthdcfeafkellcabGoodBsS
namespace Go.Proofs.Ythdcfeafkellcab
open Go.RowKit
set_option linter.unusedVariables false

theorem ins_in (n k : Nat) (zs : List Int) (hk : k < n) (h : ∀ j (hj : j < zs.length), 0 ≤ zs[j] ∧ zs[j] < (n : Int)) : ∀ j (hj : j < (insL (k : Int) zs).length), 0 ≤ (insL (k : Int) zs)[j] ∧ (insL (k : Int) zs)[j] < (n : Int) := fun j hj => by
  rcases (insL_mem _ _ _).1 (List.getElem_mem hj) with e | hm
  · rw [e]; omega
  · obtain ⟨i, hi, e⟩ := List.getElem_of_mem hm
    rw [← e]
    exact h i hi

set_option maxRecDepth 100000 in
set_option maxHeartbeats 4000000 in
theorem specLeaders_any (W : World) (B B2 : Nat) (v u : Value) (vs : List Value) (l : List BrD) (zss : List (List Int)) (h : OwnBr W B v l) (hs : OwnSS W B2 u vs zss) (hl : l.length ≤ 1048576) (hl2 : zss.length ≤ 1048576) (hin : ∀ j (hj : j < zss.length), zss[j].length ≤ 1048576) :
    Calls Try.prog 9 #[v, u] W fun e W' => ∃ v', e = .returned (.tuple #[v', .bool (ledOk l zss)]) ∧ Own W' W.heap.size v' (ledOut l zss) ∧ Below W.heap.size W W' := by
  obtain ⟨a1, c1, rfl⟩ := h.shape
  obtain ⟨a2, c2, rfl⟩ := hs.shape
  have HO : Hid (∀ w', Since W.heap.size W w' → ReadsBr w' (.slice a1 l.length c1) l) := fun w' hS => h.reads.below hS.1
  have HSS : Hid (∀ w', Since W.heap.size W w' → ReadsSS w' (.slice a2 zss.length c2) zss) := fun w' hS => hs.reads.below hS.1
  have HCS : Hid (zss = [] ∨ ∃ g off, a2 = some ⟨g, off, none⟩ ∧ ∀ W1, Since W.heap.size W W1 → ∀ j (hj : j < zss.length), ∃ u, W1.cell? ⟨g, off + j, none⟩ = some u ∧ Own W1 0 u zss[j]) := by
    have hr := hs.row
    rcases hs.row.2 with ⟨hv, hn⟩ | ⟨g, cap, cur, hv, -, hg, -⟩
    · exact .inl (List.eq_nil_of_length_eq_zero (by rw [← hs.len]; exact hn))
    · rw [hv] at hr
      have e : a2 = some ⟨g, 0, none⟩ := by simp at hv; exact hv.1
      refine .inr ⟨g, 0, e, fun W1 hS j hj => ?_⟩
      have hj' : j < vs.length := by rw [hs.len]; exact hj
      refine ⟨vs[j], ?_, ((hs.inner j hj').below hS.1).mono (Nat.zero_le _)⟩
      rw [Nat.zero_add, hS.1.cell (p := ⟨g, j, none⟩) (Array.getElem?_eq_some_iff.1 hg).1, World.ownsRow.cellAt hr j (by omega), List.getElem?_eq_getElem hj']
  have S0 : Hid (Since W.heap.size W W) := Since.start W
  have HIN : Hid (∀ j (hj : j < zss.length), zss[j].length ≤ 1048576) := hin
  clear h hs hin
  cases hg : goodBrs l with
  | false =>
    have HN : Hid (ledOk l zss = false ∧ ledOut l zss = []) := led_no l zss (by unfold ledOk; rw [hg]; rfl)
    have HG : Hid (goodBrs l = false) := hg
    clear hg
    go_enter Try.func9, Try.ntmps9
    go_wp2_with fail
    refine (specGoodBs_any _ _ l (HO.out _ S0.out) hl).mono ?_
    rintro e w1 ⟨rfl, hb1⟩
    rw [HG.out]
    have S1 : Hid (Since W.heap.size W w1) := S0.out.step hb1
    clear hb1
    go_wp2
    refine bodyPost_ret (results_tmp2 rfl _ _ _) rfl ?_
    rw [HN.out.1, HN.out.2]
    exact ⟨_, rfl, Own.nil _ _, S1.out.1⟩
  | true =>
    have HG : Hid (goodBrs l = true) := hg
    by_cases hlen : zss.length = l.length
    · have HLEN : Hid (zss.length = l.length) := hlen
      have hl10 : 1 ≤ l.length ∧ l.length ≤ 10 := (goodBrs_at l hg).1
      have hq : (zss.length : Int) = (l.length : Int) := by omega
      have HNO : Hid (∀ k (hk : k < zss.length), plB l.length zss[k] = false → ledOk l zss = false ∧ ledOut l zss = []) := fun k hk hp => led_no l zss (by unfold ledOk; rw [seesB_no _ zss k hk hp]; simp)
      have HYE : Hid ((∀ j (hj : j < zss.length), plB l.length zss[j] = true) → ledOk l zss = true ∧ ledOut l zss = ledL l zss zss.length) := fun hh => led_yes l zss HG.out HLEN.out (seesB_yes _ zss hh)
      have hwr : IntKind.i64.wrap ((l.length : Int) - 1) = (l.length : Int) - 1 := by rw [IntKind.wrap_i64]; omega
      clear hg
      go_enter Try.func9, Try.ntmps9
      go_wp2_with fail
      refine (specGoodBs_any _ _ l (HO.out _ S0.out) hl).mono ?_
      rintro e w1 ⟨rfl, hb1⟩
      rw [HG.out]
      have S1 : Hid (Since W.heap.size W w1) := S0.out.step hb1
      clear hb1
      go_wp2
      clear hlen hq
      go_loopw [6, 21] (fun b i wr => ∃ k : Nat, k ≤ zss.length ∧ i = .int .i64 k ∧ Hid ((∀ j (hj : j < zss.length), j < k → plB l.length zss[j] = true) ∧ Own wr W.heap.size b (ledL l zss k) ∧ Since W.heap.size W wr)) (fun _ i _ => zss.length - (intOf i).toNat)
      case atStart => exact ⟨0, Nat.zero_le _, rfl, fun j _ hj => absurd hj (Nat.not_lt_zero _), Own.nil _ _, S1.out⟩
      case round =>
        obtain ⟨k, hk, rfl, HK⟩ := hrel
        obtain ⟨a4, c4, rfl⟩ := HK.out.2.1.shape
        have eL := ledL_len l zss k
        rw [eL] at HK
        rw [eL]
        clear eL
        by_cases hlt : k < zss.length
        · have hlt' : (k : Int) < (zss.length : Int) := by omega
          have hltz : k < zss.length := by omega
          obtain ⟨g2, o2, rfl, hc2⟩ := HCS.out.resolve_left (fun e => by rw [e] at hltz; simp at hltz)
          obtain ⟨u, q0, hou⟩ := hc2 wr HK.out.2.2 k hltz
          have hkl : k < l.length := by have := HLEN.out; omega
          have CR : Hid (∀ b, plB l.length zss[k] = b → Calls Try.prog 58 #[u, .int .i64 0, .int .i64 ((l.length : Int) - 1)] wr fun e W' => e = .returned (.bool b) ∧ W' = wr) := fun b hb => by
            have := l1Rising_any wr u zss[k] 0 ((l.length : Int) - 1) hou.reads (by have := HIN.out k hltz; omega)
            rw [show (allB zss[k] 0 ((l.length : Int) - 1) && risesB zss[k]) = plB l.length zss[k] from rfl, hb] at this
            exact this
          have HOU : Hid (Own wr 0 u zss[k]) := hou
          obtain ⟨au, cu, hau⟩ := hou.shape
          clear hou hc2
          cases hp : plB l.length zss[k] with
          | false =>
            have HN : Hid (ledOk l zss = false ∧ ledOut l zss = []) := HNO.out k hltz hp
            have C2 : Hid (Calls Try.prog 58 #[u, .int .i64 0, .int .i64 ((l.length : Int) - 1)] wr fun e W' => e = .returned (.bool false) ∧ W' = wr) := CR.out false hp
            have SX : Hid (Since W.heap.size W wr) := HK.out.2.2
            rw [hau] at q0 C2
            clear CR hp HK HNO HYE hau HOU
            generalize zss[k].length = m at *
            go_wp2_with fail
            refine C2.out.mono ?_
            rintro e w6 ⟨rfl, hw6⟩
            obtain rfl := hw6.symm
            go_wp2
            refine bodyPost_ret (results_tmp2 rfl _ _ _) rfl ?_
            rw [HN.out.1, HN.out.2]
            exact ⟨_, rfl, Own.nil _ _, SX.out.1⟩
          | true =>
            have HA1 : Hid (∀ j (hj : j < zss.length), j < k + 1 → plB l.length zss[j] = true) := fun j hj h => by
              by_cases e : j = k
              · subst e; exact hp
              · exact HK.out.1 j hj (by omega)
            obtain ⟨hpin, hpl⟩ := plB_in l.length zss[k] hp
            obtain ⟨z, hz⟩ : ∃ z, z = ledAt l zss k := ⟨_, rfl⟩
            have HZ : Hid (ledL l zss (k + 1) = ledL l zss k ++ [z]) := by show _ = _; rw [ledL_next, hz]
            have C2 : Hid (Calls Try.prog 58 #[u, .int .i64 0, .int .i64 ((l.length : Int) - 1)] wr fun e W' => e = .returned (.bool true) ∧ W' = wr) := CR.out true hp
            have CP : Hid (Calls Try.prog 60 #[u, .int .i64 (k : Int)] wr (PutPost wr 0 (insL (k : Int) zss[k]))) := l1Put_any wr 0 u zss[k] k HOU.out (Nat.zero_le _) (by omega)
            have CL : Hid (∀ w x, Since W.heap.size W w → Own w 0 x (insL (k : Int) zss[k]) → Calls Try.prog 59 #[.slice a1 l.length c1, x] w fun e w' => e = .returned (.int .i64 z) ∧ Below w.heap.size w w') := fun w x hS ho => by
              have h1 := insL_len (k : Int) zss[k]
              have := l4Leader_any w _ x l _ (HO.out w hS) ho.reads (by omega) (by omega) (ins_in l.length k zss[k] hkl hpin)
              rw [← getDS zss k hltz] at this
              rw [hz]
              exact this
            rw [hau] at q0 C2 CP
            clear CR hp hpin hpl hz HNO hau HOU
            generalize insL (k : Int) zss[k] = qs at *
            generalize zss[k].length = m at *
            go_wp2_with fail
            refine C2.out.mono ?_
            rintro e w6 ⟨rfl, hw6⟩
            obtain rfl := hw6.symm
            go_wp2_with fail
            refine CP.out.mono ?_
            rintro e w7 ⟨v7, rfl, ho7, hb7⟩
            have S7 : Hid (Since W.heap.size W w7) := HK.out.2.2.step hb7
            have O7 : Hid (Own w7 W.heap.size (.slice a4 k c4) (ledL l zss k)) := HK.out.2.1.below hb7
            have Q7 : Hid (Own w7 0 v7 qs) := ho7
            obtain ⟨a7, c7, rfl⟩ := ho7.shape
            clear ho7 hb7 HK CP C2
            go_wp2_with fail
            refine (CL.out _ _ S7.out Q7.out).mono ?_
            rintro e wq ⟨rfl, hbq⟩
            have SQ : Hid (Since W.heap.size W wq) := S7.out.step hbq
            have OQ : Hid (Own wq W.heap.size (.slice a4 k c4) (ledL l zss k)) := O7.out.below hbq
            clear hbq CL Q7 O7
            have hb1 : Below wq.heap.size wq (wq.alloc (.cells #[.int .i64 z] 3)) := (Below.refl _ wq).alloc (Nat.le_refl _) _
            have HC : Hid (∀ ty, ∃ v' w', (Builtin.append_ #[27, 27] ty #[.slice a4 k c4, .slice (some ⟨wq.heap.size, 0, none⟩) 1 1]).run Try.prog (wq.alloc (.cells #[.int .i64 z] 3)) = .ok v' w' ∧ Grown (wq.alloc (.cells #[.int .i64 z] 3)) W.heap.size 3 1 (.slice a4 k c4) (ledL l zss k ++ [z]).length ((ledL l zss k ++ [z]).map (Value.int .i64)) v' w') := fun ty =>
              run_app1 _ _ _ (ledL l zss k) (OQ.out.below hb1) wq.heap.size 1 z (new_cell _ _ _) (by rw [ledL_len]; omega) (by have := SQ.out.2; simp; omega) ty
            have SQ1 : Hid (Since W.heap.size W (wq.alloc (.cells #[.int .i64 z] 3))) := SQ.out.step hb1
            clear hb1
            go_wp2_with (at_builtin; refine list_app (by rfl) (.tmp 32) (.tmp 38) 27 (by rfl) (.slice a4 k c4) (.slice (some ⟨wq.heap.size, 0, none⟩) 1 1) (by rfl) (by rfl) _ HC.out ?_; intro v5 w5 hg5; have HF : Hid (Own w5 W.heap.size v5 (ledL l zss (k + 1)) ∧ Since W.heap.size W w5) := ⟨by rw [HZ.out]; exact hg5.own, ⟨SQ1.out.1.trans hg5.below, Nat.le_trans SQ1.out.2 hg5.size⟩⟩; clear hg5)
            go_roundw
            case rel => exact ⟨k + 1, by omega, by go_num, HA1.out, HF.out⟩
            case measure => simp [intOf]; omega
        · have hlt' : ¬ (k : Int) < (zss.length : Int) := by omega
          have e : k = zss.length := by omega
          subst e
          have hq3 : ¬ (zss.length : Int) < (l.length : Int) := by have := HLEN.out; omega
          have HY := HYE.out fun j hj => HK.out.1 j hj (by omega)
          have HYY : Hid (ledOk l zss = true ∧ ledOut l zss = ledL l zss zss.length) := HY
          clear HY HYE HNO
          go_wp2
          refine bodyPost_ret (results_tmp2 rfl _ _ _) rfl ?_
          rw [HYY.out.1, HYY.out.2]
          exact ⟨_, rfl, HK.out.2.1, HK.out.2.2.1⟩
    · have HN : Hid (ledOk l zss = false ∧ ledOut l zss = []) := led_no l zss (by unfold ledOk; rw [decide_eq_false hlen]; simp)
      have hq : ¬ (zss.length : Int) = (l.length : Int) := by omega
      clear hg hlen
      go_enter Try.func9, Try.ntmps9
      go_wp2_with fail
      refine (specGoodBs_any _ _ l (HO.out _ S0.out) hl).mono ?_
      rintro e w1 ⟨rfl, hb1⟩
      rw [HG.out]
      have S1 : Hid (Since W.heap.size W w1) := S0.out.step hb1
      clear hb1
      go_wp2
      refine bodyPost_ret (results_tmp2 rfl _ _ _) rfl ?_
      rw [HN.out.1, HN.out.2]
      exact ⟨_, rfl, Own.nil _ _, S1.out.1⟩
end Go.Proofs.Ythdcfeafkellcab
