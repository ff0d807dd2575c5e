/-
  The model's 'l7Cut'.
-/
import Derived.Test.YtkpdiojomgiocacLsCutI
namespace Go.Proofs.Ytkpdiojomgiocac
open Go.RowKit
set_option linter.unusedVariables false

theorem leastL_any (a b : Int) (w : World) : Calls Try.prog 48 #[.int .i64 a, .int .i64 b] w fun e w' => e = .returned (.int .i64 (if a < b then a else b)) ∧ w' = w := by
  by_cases h : a < b
  · rw [if_pos h]
    have d : decide (a < b) = true := decide_eq_true h
    go_enter Try.func48, Try.ntmps48
    go_wp2
    go_ret
    exact ⟨rfl, rfl⟩
  · rw [if_neg h]
    have d : decide (a < b) = false := decide_eq_false h
    go_enter Try.func48, Try.ntmps48
    go_wp2
    go_ret
    exact ⟨rfl, rfl⟩

/-- The loop is done. -/
def CutEnd (m : Nat) (W : World) (l : List HvD) (d : Nat) (v : Value) (es : List SmE) (wr : World) : Prop :=
  OwnSm wr W.heap.size v es ∧ es.map SmE.s = cutHv m l ∧ Below W.heap.size W wr ∧ l.length ≤ d ∧ 0 < d

/-- One part laid behind the others. -/
theorem part_laid (W wr w2 : World) (m d : Nat) (lo hi : Int) (l k : List HvD) (a : Option Addr) (c : Nat) (es : List SmE) (u : Value) (HK : Cut m W W.heap.size l d lo (.slice a es.length c) es wr) (ho : OwnHv w2 wr.heap.size u k) (hb : Below wr.heap.size wr w2) (hl : l.length ≤ 2000) :
    ∀ ty, ∃ v' w', (Builtin.append_ #[46, 46] ty #[.slice a es.length c, .slice (some ⟨w2.heap.size, 0, none⟩) 1 1]).run Try.prog (w2.alloc (.cells #[.int .i64 lo, .int .i64 hi, u] 32)) = .ok v' w' ∧ OwnSm w' W.heap.size v' (es ++ [⟨⟨lo, hi, k⟩, u⟩]) ∧ Below W.heap.size W w' := fun ty => by
  have hW := HK.below.size
  have hB2 : Below W.heap.size W w2 := HK.below.trans (hb.mono hW)
  have hfew := HK.few
  have hin := HK.in_
  obtain ⟨v', w', h1, h2, h3⟩ := run_appSm w2 W.heap.size (.slice a es.length c) es ⟨⟨lo, hi, k⟩, u⟩ (HK.own.below hb) (ho.mono hW) (fun j hj q hq hq2 => by
    have h1 := (World.ownsRow.lt (HK.own.inner j hj) q hq).2
    have h2 := (World.ownsRow.lt ho q hq2).1
    omega) (by omega) hB2.size ty
  exact ⟨v', w', h1, h2, hB2.trans h3⟩
theorem cut_more {m : Nat} {W wr w2 : World} {d : Nat} {lo : Int} {l : List HvD} {v v2 : Value} {es : List SmE} {u : Value} (HK : Cut m W W.heap.size l d lo v es wr) (hm : 1 ≤ m) (hlt : d + m < l.length) (hf : FitHv l) (ho : OwnSm w2 W.heap.size v2 (es ++ [⟨⟨lo, ((l.drop d).getD (m - 1) hv0).From, (l.drop d).take m⟩, u⟩])) (hb : Below W.heap.size W w2) :
    Cut m W W.heap.size l (d + m) (((l.drop d).getD (m - 1) hv0).From + 1) v2 (es ++ [⟨⟨lo, ((l.drop d).getD (m - 1) hv0).From, (l.drop d).take m⟩, u⟩]) w2 := by
  obtain ⟨f, hf1, hf2⟩ := HK.left
  obtain ⟨f', hf3, hf4⟩ := cutGo_more m f lo (l.drop d) (by rw [List.length_drop]; omega) hf1
  have hfew := HK.few
  have hfr : 1 ≤ ((l.drop d).getD (m - 1) hv0).From ∧ ((l.drop d).getD (m - 1) hv0).From ≤ 1000 := by
    rw [getHv _ _ (by rw [List.length_drop]; omega), List.getElem_drop]
    exact (hf _ (List.getElem_mem _)).1
  refine ⟨ho, hb, rfl, ⟨f', ?_, ?_⟩, by simp; omega, by omega, by omega⟩
  · rw [List.length_drop] at hf1 ⊢; omega
  · rw [hf2, hf4, List.drop_drop, List.map_append, List.append_assoc]
    rfl
theorem cut_done {m : Nat} {W wr w2 : World} {d : Nat} {lo : Int} {l : List HvD} {v v2 : Value} {es : List SmE} {u : Value} (HK : Cut m W W.heap.size l d lo v es wr) (hm : 1 ≤ m) (hlt : l.length ≤ d + m) (ho : OwnSm w2 W.heap.size v2 (es ++ [⟨⟨lo, 1000, l.drop d⟩, u⟩])) (hb : Below W.heap.size W w2) :
    CutEnd m W l (d + m) v2 (es ++ [⟨⟨lo, 1000, l.drop d⟩, u⟩]) w2 := by
  obtain ⟨f, hf1, hf2⟩ := HK.left
  refine ⟨ho, ?_, hb, by omega, by omega⟩
  rw [hf2, cutGo_last m f lo _ (by rw [List.length_drop]; omega), List.map_append]
  rfl

/-- 'append([]Have{}, ..)' over a world of its own. -/
theorem made_to (w : World) (x : Value) (ys : List HvD) (m : Nat) (hm : m = ys.length) (hsrc : ∀ w', Below w.heap.size w w' → Src w' x m (cellsHv ys)) (hl : ys.length ≤ 100000) :
    ∀ ty, ∃ v' w', (Builtin.append_ #[23, 23] ty #[.slice (some ⟨w.heap.size, 0, none⟩) 0 0, x]).run Try.prog (w.alloc (.cells #[] 41)) = .ok v' w' ∧ OwnHv w' w.heap.size v' ys ∧ Below w.heap.size w w' := fun ty => by
  have hb : Below w.heap.size w (w.alloc (.cells #[] 41)) := (Below.refl _ w).alloc (Nat.le_refl _) _
  obtain ⟨v', w', h1, h2⟩ := run_to (w.alloc (.cells #[] 41)) w.heap.size (.slice (some ⟨w.heap.size, 0, none⟩) 0 0) [] (World.ownsRow_made (base := w.heap.size) (e := 41) (size := 2) w #[] 0 (Nat.le_refl _) (by decide) rfl) x ys m hm (hsrc _ hb) (by simp; omega) (by simp) ty
  exact ⟨v', w', h1, h2.own, hb.trans h2.below⟩

set_option maxRecDepth 100000 in
set_option maxHeartbeats 4000000 in
theorem l7Cut_none (W : World) (m : Nat) (hm : 1 ≤ m) (hm2 : m ≤ 30) :
    Calls Try.prog 34 #[.slice none 0 0, .int .i64 (m : Int)] W fun e W' => ∃ v' es, e = .returned v' ∧ OwnSm W' W.heap.size v' es ∧ es.map SmE.s = cutHv m [] ∧ Below W.heap.size W W' := by
  have HK : Hid (Cut m W W.heap.size [] 0 1 (.slice none ([] : List SmE).length 0) [] W) := ⟨OwnSm.nil _ _, Below.refl _ _, rfl, ⟨0, by simp, by simp [cutHv]⟩, by simp, Nat.zero_le _, by omega⟩
  have HM : Hid (∀ ty, ∃ v' w', (Builtin.append_ #[23, 23] ty #[.slice (some ⟨W.heap.size, 0, none⟩) 0 0, .slice none 0 0]).run Try.prog (W.alloc (.cells #[] 41)) = .ok v' w' ∧ OwnHv w' W.heap.size v' [] ∧ Below W.heap.size W w') := made_to W _ [] 0 rfl (fun _ _ => src_nil) (by simp)
  have d1 : ¬ ((0 : Int) < 0) := by omega
  have h0m : (0 : Int) < (m : Int) := by omega
  have hl : IntKind.i64.wrap (0 + (m : Int)) = (m : Int) := by rw [IntKind.wrap_i64]; omega
  have hl2 : IntKind.i64.wrap (m : Int) = (m : Int) := by rw [IntKind.wrap_i64]; omega
  have hmz : ((m : Int) == 0) = false := by simp; omega
  have hml : ¬ ((m : Int) < 0) := by omega
  go_enter Try.func34, Try.ntmps34
  go_wp2
  refine wp_loop_rounds 2 ?_
  rw [rounds_succ]
  go_wp2_with fail
  refine (leastL_any _ _ _).mono ?_
  rintro e w1 ⟨rfl, hw1⟩
  obtain rfl : W = w1 := hw1.symm
  rw [if_pos (by omega)]
  go_wp2_with (first
    | (at_builtin; refine list_app (by rfl) (.tmp 40) (.tmp 44) 23 (by rfl) (.slice (some ⟨W.heap.size, 0, none⟩) 0 0) (.slice none 0 0) (by rfl) (by rfl) _ HM.out ?_; intro v2 w2 hg2; obtain ⟨xa, xn, xc, hv2⟩ : ∃ a n c, v2 = Value.slice a n c := by { obtain ⟨a, c, e⟩ := rowShape hg2.1; exact ⟨a, _, c, e⟩ }; subst hv2; have HP := part_laid W W w2 m 0 1 1000 [] [] none 0 [] (.slice xa xn xc) HK.out hg2.1 hg2.2 (by simp); clear hg2)
    | (at_builtin; refine list_app (by rfl) (.tmp 37) (.tmp 47) 46 (by rfl) (.slice none 0 0) (.slice (some ⟨w2.heap.size, 0, none⟩) 1 1) (by rfl) (by rfl) _ HP ?_; intro v3 w3 hg3; have HF : Hid (CutEnd m W [] (0 + m) v3 ([] ++ [⟨⟨1, 1000, ([] : List HvD).drop 0⟩, .slice xa xn xc⟩]) w3) := cut_done HK.out hm (by simp) hg3.1 hg3.2; clear hg3))
  rw [rounds_succ]
  obtain ⟨a5, c5, rfl⟩ := HF.out.1.shape
  go_wp2
  go_ret
  exact ⟨_, _, rfl, HF.out.1, HF.out.2.1, HF.out.2.2.1⟩

set_option maxRecDepth 100000 in
set_option maxHeartbeats 4000000 in
theorem l7Cut_zero (W : World) (g o : Nat) (m : Nat) (hm : 1 ≤ m) (hm2 : m ≤ 30) :
    Calls Try.prog 34 #[.slice (some ⟨g, o, none⟩) 0 0, .int .i64 (m : Int)] W fun e W' => ∃ v' es, e = .returned v' ∧ OwnSm W' W.heap.size v' es ∧ es.map SmE.s = cutHv m [] ∧ Below W.heap.size W W' := by
  have HK : Hid (Cut m W W.heap.size [] 0 1 (.slice none ([] : List SmE).length 0) [] W) := ⟨OwnSm.nil _ _, Below.refl _ _, rfl, ⟨0, by simp, by simp [cutHv]⟩, by simp, Nat.zero_le _, by omega⟩
  have HM : Hid (∀ ty, ∃ v' w', (Builtin.append_ #[23, 23] ty #[.slice (some ⟨W.heap.size, 0, none⟩) 0 0, .slice (some ⟨g, o, none⟩) 0 0]).run Try.prog (W.alloc (.cells #[] 41)) = .ok v' w' ∧ OwnHv w' W.heap.size v' [] ∧ Below W.heap.size W w') := made_to W _ [] 0 rfl (fun _ _ => src_none _ _) (by simp)
  have d1 : ¬ ((0 : Int) < 0) := by omega
  have h0m : (0 : Int) < (m : Int) := by omega
  have hl : IntKind.i64.wrap (0 + (m : Int)) = (m : Int) := by rw [IntKind.wrap_i64]; omega
  have hl2 : IntKind.i64.wrap (m : Int) = (m : Int) := by rw [IntKind.wrap_i64]; omega
  have hmz : ((m : Int) == 0) = false := by simp; omega
  have hml : ¬ ((m : Int) < 0) := by omega
  go_enter Try.func34, Try.ntmps34
  go_wp2
  refine wp_loop_rounds 2 ?_
  rw [rounds_succ]
  go_wp2_with fail
  refine (leastL_any _ _ _).mono ?_
  rintro e w1 ⟨rfl, hw1⟩
  obtain rfl : W = w1 := hw1.symm
  rw [if_pos (by omega)]
  go_wp2_with (first
    | (at_builtin; refine list_app (by rfl) (.tmp 40) (.tmp 44) 23 (by rfl) (.slice (some ⟨W.heap.size, 0, none⟩) 0 0) (.slice (some ⟨g, o, none⟩) 0 0) (by rfl) (by rfl) _ HM.out ?_; intro v2 w2 hg2; obtain ⟨xa, xn, xc, hv2⟩ : ∃ a n c, v2 = Value.slice a n c := by { obtain ⟨a, c, e⟩ := rowShape hg2.1; exact ⟨a, _, c, e⟩ }; subst hv2; have HP := part_laid W W w2 m 0 1 1000 [] [] none 0 [] (.slice xa xn xc) HK.out hg2.1 hg2.2 (by simp); clear hg2)
    | (at_builtin; refine list_app (by rfl) (.tmp 37) (.tmp 47) 46 (by rfl) (.slice none 0 0) (.slice (some ⟨w2.heap.size, 0, none⟩) 1 1) (by rfl) (by rfl) _ HP ?_; intro v3 w3 hg3; have HF : Hid (CutEnd m W [] (0 + m) v3 ([] ++ [⟨⟨1, 1000, ([] : List HvD).drop 0⟩, .slice xa xn xc⟩]) w3) := cut_done HK.out hm (by simp) hg3.1 hg3.2; clear hg3))
  rw [rounds_succ]
  obtain ⟨a5, c5, rfl⟩ := HF.out.1.shape
  go_wp2
  go_ret
  exact ⟨_, _, rfl, HF.out.1, HF.out.2.1, HF.out.2.2.1⟩

set_option maxRecDepth 100000 in
set_option maxHeartbeats 4000000 in
theorem l7Cut_empty (W : World) (g o cap : Nat) (hcz : ¬ cap ≤ 0) (m : Nat) (hm : 1 ≤ m) (hm2 : m ≤ 30) :
    Calls Try.prog 34 #[.slice (some ⟨g, o, none⟩) 0 cap, .int .i64 (m : Int)] W fun e W' => ∃ v' es, e = .returned v' ∧ OwnSm W' W.heap.size v' es ∧ es.map SmE.s = cutHv m [] ∧ Below W.heap.size W W' := by
  have HK : Hid (Cut m W W.heap.size [] 0 1 (.slice none ([] : List SmE).length 0) [] W) := ⟨OwnSm.nil _ _, Below.refl _ _, rfl, ⟨0, by simp, by simp [cutHv]⟩, by simp, Nat.zero_le _, by omega⟩
  have HM : Hid (∀ ty, ∃ v' w', (Builtin.append_ #[23, 23] ty #[.slice (some ⟨W.heap.size, 0, none⟩) 0 0, .slice (some ⟨g, o, none⟩) 0 cap]).run Try.prog (W.alloc (.cells #[] 41)) = .ok v' w' ∧ OwnHv w' W.heap.size v' [] ∧ Below W.heap.size W w') := made_to W _ [] 0 rfl (fun _ _ => src_none _ _) (by simp)
  have d1 : ¬ ((0 : Int) < 0) := by omega
  have h0m : (0 : Int) < (m : Int) := by omega
  have hl : IntKind.i64.wrap (0 + (m : Int)) = (m : Int) := by rw [IntKind.wrap_i64]; omega
  have hl2 : IntKind.i64.wrap (m : Int) = (m : Int) := by rw [IntKind.wrap_i64]; omega
  have hmz : ((m : Int) == 0) = false := by simp; omega
  have hml : ¬ ((m : Int) < 0) := by omega
  go_enter Try.func34, Try.ntmps34
  go_wp2
  refine wp_loop_rounds 2 ?_
  rw [rounds_succ]
  go_wp2_with fail
  refine (leastL_any _ _ _).mono ?_
  rintro e w1 ⟨rfl, hw1⟩
  obtain rfl : W = w1 := hw1.symm
  rw [if_pos (by omega)]
  go_wp2_with (first
    | (at_builtin; refine list_app (by rfl) (.tmp 40) (.tmp 44) 23 (by rfl) (.slice (some ⟨W.heap.size, 0, none⟩) 0 0) (.slice (some ⟨g, o, none⟩) 0 cap) (by rfl) (by rfl) _ HM.out ?_; intro v2 w2 hg2; obtain ⟨xa, xn, xc, hv2⟩ : ∃ a n c, v2 = Value.slice a n c := by { obtain ⟨a, c, e⟩ := rowShape hg2.1; exact ⟨a, _, c, e⟩ }; subst hv2; have HP := part_laid W W w2 m 0 1 1000 [] [] none 0 [] (.slice xa xn xc) HK.out hg2.1 hg2.2 (by simp); clear hg2)
    | (at_builtin; refine list_app (by rfl) (.tmp 37) (.tmp 47) 46 (by rfl) (.slice none 0 0) (.slice (some ⟨w2.heap.size, 0, none⟩) 1 1) (by rfl) (by rfl) _ HP ?_; intro v3 w3 hg3; have HF : Hid (CutEnd m W [] (0 + m) v3 ([] ++ [⟨⟨1, 1000, ([] : List HvD).drop 0⟩, .slice xa xn xc⟩]) w3) := cut_done HK.out hm (by simp) hg3.1 hg3.2; clear hg3))
  rw [rounds_succ]
  obtain ⟨a5, c5, rfl⟩ := HF.out.1.shape
  go_wp2
  go_ret
  exact ⟨_, _, rfl, HF.out.1, HF.out.2.1, HF.out.2.2.1⟩

set_option maxRecDepth 100000 in
set_option maxHeartbeats 4000000 in
theorem l7Cut_row (W : World) (g o cap m : Nat) (l : List HvD) (hg : g < W.heap.size) (hcap : l.length ≤ cap) (hcell : ∀ j (hj : j < l.length), HvAt W g (o + j * 2) l[j]) (hl : l.length ≤ 2000) (hf : FitHv l) (hne : 0 < l.length) (hm : 1 ≤ m) (hm2 : m ≤ 30) :
    Calls Try.prog 34 #[.slice (some ⟨g, o, none⟩) l.length cap, .int .i64 (m : Int)] W fun e W' => ∃ v' es, e = .returned v' ∧ OwnSm W' W.heap.size v' es ∧ es.map SmE.s = cutHv m l ∧ Below W.heap.size W W' := by
  have HC : Hid (∀ wr, Below W.heap.size W wr → ∀ j (hj : j < l.length), HvAt wr g (o + j * 2) l[j]) := fun wr hB j hj => (hcell j hj).below hg hB
  have HSR : Hid (∀ wr, Below W.heap.size W wr → ∀ d, d ≤ l.length → ∀ (k : Nat) (c : Nat), d + k ≤ l.length → Src wr (.slice (some ⟨g, o + d * 2, none⟩) k c) k (cellsHv ((l.drop d).take k))) := fun wr hB d hd k c hk => src_hv (fun j hj => by
      rw [List.length_take, List.length_drop] at hj
      have := HC.out wr hB (d + j) (by omega)
      rw [List.getElem_take, List.getElem_drop, show o + d * 2 + j * 2 = o + (d + j) * 2 by omega]
      exact this) k c (by rw [List.length_take, List.length_drop]; omega)
  have HF : Hid (FitHv l) := hf
  have HK0 : Hid (Cut m W W.heap.size l 0 1 (.slice none 0 0) [] W) := ⟨OwnSm.nil _ _, Below.refl _ _, rfl, ⟨l.length, by simp, by simp [cutHv]⟩, by simp, Nat.zero_le _, by omega⟩
  clear hcell hg hf
  go_enter Try.func34, Try.ntmps34
  go_wp2
  go_loopw [5, 6, 7] (fun p q i wr => ∃ (d : Nat) (lo : Int) (es : List SmE) (a : Option Addr) (c : Nat), p = .slice a es.length c ∧ q = .int .i64 lo ∧ i = .int .i64 (d : Int) ∧ d ≤ 3000 ∧ Hid ((Cut m W W.heap.size l d lo (.slice a es.length c) es wr ∧ d < l.length) ∨ CutEnd m W l d (.slice a es.length c) es wr)) (fun _ _ i _ => l.length + 1 - (intOf i).toNat)
  case atStart => exact ⟨0, 1, [], none, 0, rfl, rfl, rfl, by omega, .inl ⟨HK0.out, hne⟩⟩
  case round =>
    obtain ⟨d, lo, es, a, c, rfl, rfl, rfl, hd3, HK⟩ := hrel
    rcases HK.out with ⟨hcut, hdd⟩ | hend
    · have HCUT : Hid (Cut m W W.heap.size l d lo (.slice a es.length c) es wr) := hcut
      have hd := hcut.in_
      have hll := hcut.lolo
      clear HK hcut
      have hw1 : IntKind.i64.wrap ((d : Int) + (m : Int)) = ((d + m : Nat) : Int) := by rw [IntKind.wrap_i64]; omega
      have HBW : Hid (Below W.heap.size W wr) := HCUT.out.below
      by_cases hlt : d + m < l.length
      · have hdl : d < l.length := hdd
        have hcd : ¬ cap ≤ d := by omega
        have hfa : d + m - 1 < l.length := by omega
        have q0 := (HC.out wr HBW.out (d + m - 1) hfa).1
        have HFD : Hid ((l.drop d).getD (m - 1) hv0 = l[d + m - 1]) := by
          show _ = _
          rw [getHv _ _ (by rw [List.length_drop]; omega), List.getElem_drop]
          congr 1
          omega
        have hfr := (HF.out _ (List.getElem_mem hfa)).1
        have hw2 : IntKind.i64.wrap (((d + m : Nat) : Int) - 1) = ((d + m - 1 : Nat) : Int) := by rw [IntKind.wrap_i64]; omega
        have hw3 : IntKind.i64.wrap (l[d + m - 1].From + 1) = l[d + m - 1].From + 1 := by rw [IntKind.wrap_i64]; omega
        have HM : Hid (∀ ty, ∃ v' w', (Builtin.append_ #[23, 23] ty #[.slice (some ⟨wr.heap.size, 0, none⟩) 0 0, .slice (some ⟨g, o + d * 2, none⟩) (d + m - d) (cap - d)]).run Try.prog (wr.alloc (.cells #[] 41)) = .ok v' w' ∧ OwnHv w' wr.heap.size v' ((l.drop d).take m) ∧ Below wr.heap.size wr w') := by
          rw [show d + m - d = m by omega]
          exact made_to wr _ ((l.drop d).take m) m (by rw [List.length_take, List.length_drop]; omega) (fun w' hb => HSR.out w' (HBW.out.trans (hb.mono HBW.out.size)) d hd m (cap - d) (by omega)) (by rw [List.length_take]; omega)
        have HQ : Hid (∀ w2, Below wr.heap.size wr w2 → w2.cell? ⟨g, o + (d + m - 1) * 2, none⟩ = some (.int .i64 l[d + m - 1].From)) := fun w2 hb => (HC.out w2 (HBW.out.trans (hb.mono HBW.out.size)) (d + m - 1) hfa).1
        generalize hy : l[d + m - 1].From = yf at *
        have HFD2 : Hid (((l.drop d).getD (m - 1) hv0).From = yf) := by show _ = _; rw [HFD.out, hy]
        clear hy HFD
        go_wp2_with fail
        refine (leastL_any _ _ _).mono ?_
        rintro e w1 ⟨rfl, hw1'⟩
        obtain rfl : wr = w1 := hw1'.symm
        rw [if_neg (by omega)]
        go_wp2_with (first
          | (at_builtin; refine list_app (by rfl) (.tmp 40) (.tmp 44) 23 (by rfl) (.slice (some ⟨wr.heap.size, 0, none⟩) 0 0) (.slice (some ⟨g, o + d * 2, none⟩) (d + m - d) (cap - d)) (by rfl) (by rfl) _ HM.out ?_; intro v2 w2 hg2; obtain ⟨xa, xn, xc, hv2⟩ : ∃ a n c, v2 = Value.slice a n c := by { obtain ⟨a, c, e⟩ := rowShape hg2.1; exact ⟨a, _, c, e⟩ }; subst hv2; have HP := part_laid W wr w2 m d lo yf l ((l.drop d).take m) a c es (.slice xa xn xc) HCUT.out hg2.1 hg2.2 hl; clear hg2)
          | (at_builtin; refine list_app (by rfl) (.tmp 37) (.tmp 47) 46 (by rfl) (.slice a es.length c) (.slice (some ⟨w2.heap.size, 0, none⟩) 1 1) (by rfl) (by rfl) _ HP ?_; intro v3 w3 hg3; have HN : Hid (Cut m W W.heap.size l (d + m) (yf + 1) v3 (es ++ [⟨⟨lo, yf, (l.drop d).take m⟩, .slice xa xn xc⟩]) w3) := by { have := cut_more (u := .slice xa xn xc) HCUT.out hm hlt HF.out (v2 := v3) (w2 := w3); rw [HFD2.out] at this; exact this hg3.1 hg3.2 }; clear hg3))
        obtain ⟨a5, c5, rfl⟩ := HN.out.own.shape
        go_roundw
        case rel => exact ⟨d + m, yf + 1, _, a5, c5, rfl, rfl, rfl, by omega, .inl ⟨HN.out, hlt⟩⟩
        case measure => simp [intOf]; omega
      · have HTK : Hid ((l.drop d).take (l.length - d) = l.drop d) := List.take_of_length_le (by rw [List.length_drop]; omega)
        have HM : Hid (∀ ty, ∃ v' w', (Builtin.append_ #[23, 23] ty #[.slice (some ⟨wr.heap.size, 0, none⟩) 0 0, .slice (some ⟨g, o + d * 2, none⟩) (l.length - d) (cap - d)]).run Try.prog (wr.alloc (.cells #[] 41)) = .ok v' w' ∧ OwnHv w' wr.heap.size v' (l.drop d) ∧ Below wr.heap.size wr w') := by
          have := made_to wr (.slice (some ⟨g, o + d * 2, none⟩) (l.length - d) (cap - d)) ((l.drop d).take (l.length - d)) (l.length - d) (by rw [List.length_take, List.length_drop]; omega) (fun w' hb => HSR.out w' (HBW.out.trans (hb.mono HBW.out.size)) d hd (l.length - d) (cap - d) (by omega)) (by rw [List.length_take]; omega)
          rw [HTK.out] at this
          exact this
        have hw3 : IntKind.i64.wrap ((1000 : Int) + 1) = 1001 := by decide
        have hlo2 : ¬ (l.length : Int) < (l.length : Int) := by omega
        have hdl : d < l.length := hdd
        clear hdd
        have HDN : Hid (∀ v3 w3 es', OwnSm w3 W.heap.size v3 (es ++ [es']) → es' = ⟨⟨lo, 1000, l.drop d⟩, es'.u⟩ → Below W.heap.size W w3 → CutEnd m W l (d + m) v3 (es ++ [es']) w3) := fun v3 w3 es' ho he hb => by
          rw [he] at ho ⊢
          exact cut_done HCUT.out hm (by omega) ho hb
        go_wp2_with fail
        refine (leastL_any _ _ _).mono ?_
        rintro e w1 ⟨rfl, hw1'⟩
        obtain rfl : wr = w1 := hw1'.symm
        rw [show (if (l.length : Int) < (d : Int) + (m : Int) then (l.length : Int) else (d : Int) + (m : Int)) = (l.length : Int) from by split <;> omega]
        have hcd : ¬ cap ≤ d := by omega
        go_wp2_with (first
          | (at_builtin; refine list_app (by rfl) (.tmp 40) (.tmp 44) 23 (by rfl) (.slice (some ⟨wr.heap.size, 0, none⟩) 0 0) (.slice (some ⟨g, o + d * 2, none⟩) (l.length - d) (cap - d)) (by rfl) (by rfl) _ HM.out ?_; intro v2 w2 hg2; obtain ⟨xa, xn, xc, hv2⟩ : ∃ a n c, v2 = Value.slice a n c := by { obtain ⟨a, c, e⟩ := rowShape hg2.1; exact ⟨a, _, c, e⟩ }; subst hv2; have HP := part_laid W wr w2 m d lo 1000 l (l.drop d) a c es (.slice xa xn xc) HCUT.out hg2.1 hg2.2 hl; clear hg2)
          | (at_builtin; refine list_app (by rfl) (.tmp 37) (.tmp 47) 46 (by rfl) (.slice a es.length c) (.slice (some ⟨w2.heap.size, 0, none⟩) 1 1) (by rfl) (by rfl) _ HP ?_; intro v3 w3 hg3; have HN : Hid (CutEnd m W l (d + m) v3 (es ++ [⟨⟨lo, 1000, l.drop d⟩, .slice xa xn xc⟩]) w3) := HDN.out _ _ _ hg3.1 rfl hg3.2; clear hg3))
        obtain ⟨a5, c5, rfl⟩ := HN.out.1.shape
        go_roundw
        case rel => exact ⟨d + m, 1001, _, a5, c5, rfl, rfl, rfl, by omega, .inr HN.out⟩
        case measure => simp [intOf]; omega
    · obtain ⟨ho, he, hb, hle, hpos⟩ := hend
      have HFIN : Hid (OwnSm wr W.heap.size (.slice a es.length c) es ∧ es.map SmE.s = cutHv m l ∧ Below W.heap.size W wr) := ⟨ho, he, hb⟩
      have d1 : ¬ d < l.length := by omega
      have d2 : ((d : Int) == 0) = false := by simp; omega
      have d3 : d ≠ 0 := by omega
      clear ho he hb HK
      go_wp2
      go_ret
      exact ⟨_, _, rfl, HFIN.out⟩

theorem l7Cut_any (W : World) (v : Value) (l : List HvD) (m : Nat) (h : LiesHv W v l) (hl : l.length ≤ 2000) (hf : FitHv l) (hm : 1 ≤ m) (hm2 : m ≤ 30) :
    Calls Try.prog 34 #[v, .int .i64 (m : Int)] W fun e W' => ∃ v' es, e = .returned v' ∧ OwnSm W' W.heap.size v' es ∧ es.map SmE.s = cutHv m l ∧ Below W.heap.size W W' := by
  rcases h with ⟨rfl, rfl⟩ | ⟨g, o, cap, rfl, hg, hcap, hcell⟩
  · exact l7Cut_none W m hm hm2
  · by_cases hz : l = []
    · subst hz
      by_cases hc0 : cap = 0
      · subst hc0
        exact l7Cut_zero W g o m hm hm2
      · exact l7Cut_empty W g o cap (by omega) m hm hm2
    · exact l7Cut_row W g o cap m l hg hcap hcell hl hf (List.length_pos_iff.2 hz) hm hm2
end Go.Proofs.Ytkpdiojomgiocac
