/-
  'cutHaves' of the program.
-/
import Derived.Test.YtkpdiojomgiocacLsRowSm
import Derived.Test.YtkpdiojomgiocacRowLaw0
namespace Go.Proofs.Ytkpdiojomgiocac
open Go.RowKit
set_option linter.unusedVariables false

/-- What the loop keeps: the parts laid so far, and what is left of the list. -/
structure Cut (m : Nat) (W : World) (B : Nat) (l : List HvD) (d : Nat) (lo : Int) (v : Value) (es : List SmE) (wr : World) : Prop where
  own : OwnSm wr B v es
  below : Below W.heap.size W wr
  base : B = W.heap.size
  left : ∃ f, (l.drop d).length ≤ f ∧ cutHv m l = es.map SmE.s ++ cutGo m f lo (l.drop d)
  few : es.length ≤ d
  in_ : d ≤ l.length
  lolo : 1 ≤ lo ∧ lo ≤ 1001

set_option maxRecDepth 100000 in
set_option maxHeartbeats 4000000 in
theorem cutHaves_any (W : World) (v : Value) (l : List HvD) (m : Nat) (h : LiesHv W v l) (hl : l.length ≤ 2000) (hf : FitHv l) (hm : 1 ≤ m) (hm2 : m ≤ 30) :
    Calls Try.prog 30 #[v, .int .i64 (m : Int)] W fun e W' => ∃ v' es, e = .returned v' ∧ OwnSm W' W.heap.size v' es ∧ es.map SmE.s = cutHv m l ∧ Below W.heap.size W W' := by
  have CC : Hid (∀ w' z (k : List HvD), LiesHv w' z k → k.length ≤ 2000 → Calls Try.prog 45 #[z] w' fun e W' => ∃ v', e = .returned v' ∧ OwnHv W' w'.heap.size v' k ∧ Below w'.heap.size w' W') := fun w' z k hz hk => copyHaves_any w' z k hz (by omega)
  have hlast : ∀ (wr : World) (z : Value) (es : List SmE) (d : Nat) (lo : Int) (a : Option Addr) (n c : Nat) (k : List HvD), True := fun _ _ _ _ _ _ _ _ _ => trivial
  clear hlast
  rcases h with ⟨rfl, rfl⟩ | ⟨g, o, cap, rfl, hg, hcap, hcell⟩
  · have d1 : ¬ ((m : Int) < 0) := by omega
    have HL0 : Hid (LiesHv W (.slice none 0 0) []) := .inl ⟨rfl, rfl⟩
    have HCH : Hid (cutHv m [] = [⟨1, 1000, []⟩]) := rfl
    clear hl hf
    go_enter Try.func30, Try.ntmps30
    go_wp2
    refine wp_loop_rounds 1 ?_
    rw [rounds_succ]
    go_wp2_with fail
    refine (CC.out _ _ _ HL0.out (by simp)).mono ?_
    rintro e w1 ⟨v1, rfl, ho1, hb1⟩
    obtain ⟨xa, xn, xc, hv1⟩ : ∃ a n c, v1 = Value.slice a n c := by obtain ⟨a, c, e⟩ := rowShape ho1; exact ⟨a, _, c, e⟩
    subst hv1
    have HA : ∀ ty, ∃ v' w', (Builtin.append_ #[46, 46] ty #[.slice none 0 0, .slice (some ⟨w1.heap.size, 0, none⟩) 1 1]).run Try.prog (w1.alloc (.cells #[.int .i64 1, .int .i64 1000, .slice xa xn xc] 32)) = .ok v' w' ∧ OwnSm w' W.heap.size v' ([] ++ [⟨⟨1, 1000, []⟩, .slice xa xn xc⟩]) ∧ Below W.heap.size w1 w' := run_appSm w1 W.heap.size (.slice none 0 0) [] ⟨⟨1, 1000, []⟩, .slice xa xn xc⟩ (OwnSm.nil _ _) ho1 (fun j hj => absurd hj (Nat.not_lt_zero _)) (by simp) hb1.size
    have HB1 : Hid (Below W.heap.size W w1) := hb1
    clear ho1 hb1
    go_wp2_with (at_builtin; refine list_app (by rfl) (.tmp 33) (.tmp 38) 46 (by rfl) (.slice none 0 0) (.slice (some ⟨w1.heap.size, 0, none⟩) 1 1) (by rfl) (by rfl) _ HA ?_; intro v2 w2 hg2; have HF : Hid (OwnSm w2 W.heap.size v2 ([] ++ [⟨⟨1, 1000, []⟩, .slice xa xn xc⟩]) ∧ Below W.heap.size W w2) := ⟨hg2.1, HB1.out.trans hg2.2⟩; clear hg2)
    go_ret
    exact ⟨_, _, rfl, HF.out.1, HCH.out.symm, HF.out.2⟩
  · have HC : Hid (∀ wr, Below W.heap.size W wr → ∀ j (hj : j < l.length), HvAt wr g (o + j * 2) l[j]) := fun wr hB j hj => (hcell j hj).below hg hB
    have HSL : Hid (∀ wr, Below W.heap.size W wr → ∀ d, d ≤ l.length → ∀ (k : Nat) (c : Nat), d + k ≤ l.length → k ≤ c → LiesHv wr (.slice (some ⟨g, o + d * 2, none⟩) k c) ((l.drop d).take k)) := fun wr hB d hd k c hk hc => by
      have e : ((l.drop d).take k).length = k := by rw [List.length_take, List.length_drop]; omega
      refine .inr ⟨g, o + d * 2, c, by rw [e], Nat.lt_of_lt_of_le hg hB.size, by rw [e]; exact hc, fun j hj => ?_⟩
      rw [e] at hj
      have := HC.out wr hB (d + j) (by omega)
      rw [List.getElem_take, List.getElem_drop, show o + d * 2 + j * 2 = o + (d + j) * 2 by omega]
      exact this
    have HFR : Hid (∀ j (hj : j < l.length), 1 ≤ l[j].From ∧ l[j].From ≤ 1000) := fun j hj => (hf _ (List.getElem_mem hj)).1
    have HK0 : Hid (Cut m W W.heap.size l 0 1 (.slice none 0 0) [] W) := ⟨OwnSm.nil _ _, Below.refl _ _, rfl, ⟨l.length, by simp, by simp [cutHv]⟩, by simp, Nat.zero_le _, by omega⟩
    have hw0 : IntKind.i64.wrap ((m : Int) - 1) = ((m - 1 : Nat) : Int) := by rw [IntKind.wrap_i64]; omega
    clear hcell hg hf
    go_enter Try.func30, Try.ntmps30
    go_wp2
    go_loopw [0, 5, 6] (fun u p i wr => ∃ (d : Nat) (lo : Int) (es : List SmE) (a : Option Addr) (c : Nat), u = .slice (some ⟨g, o + d * 2, none⟩) (l.length - d) (cap - d) ∧ p = .slice a es.length c ∧ i = .int .i64 lo ∧ Hid (Cut m W W.heap.size l d lo (.slice a es.length c) es wr)) (fun u _ _ _ => match u with | .slice _ n _ => n | _ => 0)
    case atStart => exact ⟨0, 1, [], none, 0, by simp, rfl, rfl, HK0.out⟩
    case round =>
      obtain ⟨d, lo, es, a, c, rfl, rfl, rfl, HK⟩ := hrel
      have hd := HK.out.in_
      have hll := HK.out.lolo
      by_cases hlt : m < l.length - d
      · have d1 : ((m : Int) < ((l.length - d : Nat) : Int)) := by omega
        have HW1 : Hid (W.heap.size ≤ wr.heap.size) := HK.out.below.size
        have hfa : d + (m - 1) < l.length := by omega
        have q0 := (HC.out wr HK.out.below (d + (m - 1)) hfa).1
        rw [show o + (d + (m - 1)) * 2 = o + d * 2 + (m - 1) * 2 by omega] at q0
        have HFD : Hid ((l.drop d).getD (m - 1) hv0 = l[d + (m - 1)]) := by
          show _ = _
          rw [getHv _ _ (by rw [List.length_drop]; omega), List.getElem_drop]
        have hfr := HFR.out (d + (m - 1)) hfa
        generalize l[d + (m - 1)] = y at *
        have hw1 : IntKind.i64.wrap (y.From + 1) = y.From + 1 := by rw [IntKind.wrap_i64]; omega
        have hcm : m ≤ cap - d := by omega
        have hcm2 : ¬ cap - d ≤ m := by omega
        have HLM : Hid (LiesHv wr (.slice (some ⟨g, o + d * 2, none⟩) m (cap - d)) ((l.drop d).take m)) := HSL.out wr HK.out.below d hd m (cap - d) (by omega) hcm
        have hjlt : ((m - 1 : Nat) : Int) < ((l.length - d : Nat) : Int) := by omega
        go_wp2_with fail
        refine (CC.out _ _ _ HLM.out (by rw [List.length_take]; omega)).mono ?_
        rintro e w1 ⟨v1, rfl, ho1, hb1⟩
        obtain ⟨xa, xn, xc, hv1⟩ : ∃ a n c, v1 = Value.slice a n c := by obtain ⟨a, c, e⟩ := rowShape ho1; exact ⟨a, _, c, e⟩
        subst hv1
        have HOW : Hid (OwnSm w1 W.heap.size (.slice a es.length c) es) := HK.out.own.below hb1
        have HAP : Hid (∀ j (hj : j < es.length) k, es[j].u.ownBlock = some k → (Value.slice xa xn xc).ownBlock ≠ some k) := fun j hj k hk hk2 => by
          have h1 := (World.ownsRow.lt (HK.out.own.inner j hj) k hk).2
          have h2 := (World.ownsRow.lt ho1 k hk2).1
          omega
        have HBW : Hid (Below W.heap.size W w1) := HK.out.below.trans (hb1.mono HW1.out)
        have hfew := HK.out.few
        have HA : Hid (∀ ty, ∃ v' w', (Builtin.append_ #[46, 46] ty #[.slice a es.length c, .slice (some ⟨w1.heap.size, 0, none⟩) 1 1]).run Try.prog (w1.alloc (.cells #[.int .i64 lo, .int .i64 y.From, .slice xa xn xc] 32)) = .ok v' w' ∧ OwnSm w' W.heap.size v' (es ++ [⟨⟨lo, y.From, (l.drop d).take m⟩, .slice xa xn xc⟩]) ∧ Below W.heap.size w1 w') :=
          run_appSm w1 W.heap.size (.slice a es.length c) es ⟨⟨lo, y.From, (l.drop d).take m⟩, .slice xa xn xc⟩ HOW.out (ho1.mono HW1.out) HAP.out (by omega) HBW.out.size
        have HLF : Hid (∃ f, (l.drop (d + m)).length ≤ f ∧ cutHv m l = (es ++ [(⟨⟨lo, y.From, (l.drop d).take m⟩, .slice xa xn xc⟩ : SmE)]).map SmE.s ++ cutGo m f (y.From + 1) (l.drop (d + m))) := by
          obtain ⟨f, hf1, hf2⟩ := HK.out.left
          obtain ⟨f', hf3, hf4⟩ := cutGo_more m f lo (l.drop d) (by rw [List.length_drop]; omega) hf1
          refine ⟨f', ?_, ?_⟩
          · rw [List.length_drop] at hf1 ⊢; omega
          · rw [hf2, hf4, HFD.out, List.drop_drop, List.map_append, List.append_assoc]
            rfl
        clear ho1 hb1 HK q0 HFD HLM HOW HAP CC
        go_wp2_with (at_builtin; refine list_app (by rfl) (.tmp 18) (.tmp 26) 46 (by rfl) (.slice a es.length c) (.slice (some ⟨w1.heap.size, 0, none⟩) 1 1) (by rfl) (by rfl) _ HA.out ?_; intro v2 w2 hg2; have HF : Hid (Cut m W W.heap.size l (d + m) (y.From + 1) v2 (es ++ [⟨⟨lo, y.From, (l.drop d).take m⟩, .slice xa xn xc⟩]) w2) := ⟨hg2.1, HBW.out.trans hg2.2, rfl, HLF.out, by simp; omega, by omega, by omega⟩; clear hg2)
        obtain ⟨a3, c3, rfl⟩ := HF.out.own.shape
        go_roundw
        case rel => exact ⟨d + m, y.From + 1, _, a3, c3, by simp <;> omega, rfl, rfl, HF.out⟩
        case measure => simp <;> omega
      · have d1 : ¬ ((m : Int) < ((l.length - d : Nat) : Int)) := by omega
        have HW1 : Hid (W.heap.size ≤ wr.heap.size) := HK.out.below.size
        have HLM : Hid (LiesHv wr (.slice (some ⟨g, o + d * 2, none⟩) (l.length - d) (cap - d)) ((l.drop d).take (l.length - d))) := HSL.out wr HK.out.below d hd (l.length - d) (cap - d) (by omega) (by omega)
        have HTK : Hid ((l.drop d).take (l.length - d) = l.drop d) := List.take_of_length_le (by rw [List.length_drop]; omega)
        rw [HTK.out] at HLM
        have HFC : Hid (cutHv m l = es.map SmE.s ++ [⟨lo, 1000, l.drop d⟩]) := by
          obtain ⟨f, hf1, hf2⟩ := HK.out.left
          show _ = _
          rw [hf2, cutGo_last m f lo _ (by rw [List.length_drop]; omega)]
        have hfew := HK.out.few
        go_wp2_with fail
        refine (CC.out _ _ _ HLM.out (by rw [List.length_drop]; omega)).mono ?_
        rintro e w1 ⟨v1, rfl, ho1, hb1⟩
        obtain ⟨xa, xn, xc, hv1⟩ : ∃ a n c, v1 = Value.slice a n c := by obtain ⟨a, c, e⟩ := rowShape ho1; exact ⟨a, _, c, e⟩
        subst hv1
        have HOW : Hid (OwnSm w1 W.heap.size (.slice a es.length c) es) := HK.out.own.below hb1
        have HAP : Hid (∀ j (hj : j < es.length) k, es[j].u.ownBlock = some k → (Value.slice xa xn xc).ownBlock ≠ some k) := fun j hj k hk hk2 => by
          have h1 := (World.ownsRow.lt (HK.out.own.inner j hj) k hk).2
          have h2 := (World.ownsRow.lt ho1 k hk2).1
          omega
        have HBW : Hid (Below W.heap.size W w1) := HK.out.below.trans (hb1.mono HW1.out)
        have HA : Hid (∀ ty, ∃ v' w', (Builtin.append_ #[46, 46] ty #[.slice a es.length c, .slice (some ⟨w1.heap.size, 0, none⟩) 1 1]).run Try.prog (w1.alloc (.cells #[.int .i64 lo, .int .i64 1000, .slice xa xn xc] 32)) = .ok v' w' ∧ OwnSm w' W.heap.size v' (es ++ [⟨⟨lo, 1000, l.drop d⟩, .slice xa xn xc⟩]) ∧ Below W.heap.size w1 w') :=
          run_appSm w1 W.heap.size (.slice a es.length c) es ⟨⟨lo, 1000, l.drop d⟩, .slice xa xn xc⟩ HOW.out (ho1.mono HW1.out) HAP.out (by omega) HBW.out.size
        clear ho1 hb1 HK HLM HOW HAP CC HTK
        go_wp2_with (at_builtin; refine list_app (by rfl) (.tmp 33) (.tmp 38) 46 (by rfl) (.slice a es.length c) (.slice (some ⟨w1.heap.size, 0, none⟩) 1 1) (by rfl) (by rfl) _ HA.out ?_; intro v2 w2 hg2; have HF : Hid (OwnSm w2 W.heap.size v2 (es ++ [⟨⟨lo, 1000, l.drop d⟩, .slice xa xn xc⟩]) ∧ Below W.heap.size W w2) := ⟨hg2.1, HBW.out.trans hg2.2⟩; clear hg2)
        go_ret
        exact ⟨_, _, rfl, HF.out.1, by rw [HFC.out, List.map_append]; rfl, HF.out.2⟩
end Go.Proofs.Ytkpdiojomgiocac
