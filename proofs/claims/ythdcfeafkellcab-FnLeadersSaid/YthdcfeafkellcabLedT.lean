/-
  'arePlaces', 'areSights', 'seenFrom' of the program.
-/
import Derived.Test.YthdcfeafkellcabLedMath
import Derived.Test.YthdcfeafkellcabRowSS
namespace Go.Proofs.Ythdcfeafkellcab
open Go.RowKit
set_option linter.unusedVariables false

set_option maxRecDepth 100000 in
set_option maxHeartbeats 2000000 in
theorem arePlaces_any (W : World) (v : Value) (zs : List Int) (n : Nat) (h : Reads W v zs) (hl : zs.length ≤ 1048576) :
    Calls Try.prog 91 #[v, .int .i64 (n : Int)] W fun e W' => e = .returned (.bool (plB n zs)) ∧ Below W.heap.size W W' := by
  have HRD : Hid (Reads W v zs) := h
  obtain ⟨a1, cap1, rfl, hc1⟩ := h
  have CR : Hid (∀ b, risesB zs = b → Calls Try.prog 96 #[.slice a1 zs.length cap1] W fun e W' => e = .returned (.bool b) ∧ Below W.heap.size W W') := fun b hb => by
    have := isRising_any W _ zs HRD.out (by omega)
    rw [hb] at this
    exact this
  rcases hc1 with hz | ⟨g1, o1, rfl, -, hc1⟩
  · subst hz
    simp only [List.length_nil] at *
    have C2 := CR.out true rfl
    go_enter Try.func91, Try.ntmps91
    go_wp2
    refine wp_loop_rounds 1 ?_
    rw [rounds_succ]
    go_wp2_with fail
    refine C2.mono ?_
    rintro e w1 ⟨rfl, hb1⟩
    have HB1 : Hid (Below W.heap.size W w1) := hb1
    clear hb1
    go_wp2
    go_ret
    exact ⟨rfl, HB1.out⟩
  · have HC1 : Hid (∀ j (hj : j < zs.length), W.cell? ⟨g1, o1 + j, none⟩ = some (.int .i64 zs[j])) := hc1
    clear hc1
    go_enter Try.func91, Try.ntmps91
    go_wp2
    go_loop [9] (fun i => ∃ k : Nat, k ≤ zs.length ∧ i = .int .i64 k ∧ Hid (∀ j (hj : j < zs.length), j < k → 0 ≤ zs[j] ∧ zs[j] ≤ (n : Int) - 1)) (fun i => zs.length - (intOf i).toNat)
    case atStart => exact ⟨0, Nat.zero_le _, rfl, fun j hj h => absurd h (Nat.not_lt_zero _)⟩
    case round =>
      obtain ⟨k, hk, rfl, HA⟩ := hrel
      by_cases hlt : k < zs.length
      · have c1 := HC1.out k hlt
        have hlt' : (k : Int) < (zs.length : Int) := by omega
        by_cases h0 : zs[k] < 0
        · have HF : Hid (plB n zs = false) := by show _ = _; unfold plB; rw [allB_no zs 0 _ k hlt (by omega)]; rfl
          have d1 : decide (zs[k] < 0) = true := by simp; omega
          generalize zs[k] = z at *
          go_wp2
          go_ret
          exact ⟨ret_bool HF.out.symm, Below.refl _ _⟩
        · have d1 : decide (zs[k] < 0) = false := by simp; omega
          by_cases h1 : (n : Int) ≤ zs[k]
          · have HF : Hid (plB n zs = false) := by show _ = _; unfold plB; rw [allB_no zs 0 _ k hlt (by omega)]; rfl
            have d2 : decide ((n : Int) ≤ zs[k]) = true := by simp; omega
            generalize zs[k] = z at *
            go_wp2
            go_ret
            exact ⟨ret_bool HF.out.symm, Below.refl _ _⟩
          · have d2 : decide ((n : Int) ≤ zs[k]) = false := by simp; omega
            have HA1 : Hid (∀ j (hj : j < zs.length), j < k + 1 → 0 ≤ zs[j] ∧ zs[j] ≤ (n : Int) - 1) := fun j hj h => by
              by_cases e : j = k
              · subst e; omega
              · exact HA.out j hj (by omega)
            generalize zs[k] = z at *
            go_wp2
            go_round
            case rel => exact ⟨k + 1, by omega, by go_num, HA1⟩
            case measure => simp [intOf]; omega
      · have hlt' : ¬ (k : Int) < (zs.length : Int) := by omega
        obtain ⟨b, hb⟩ : ∃ b, risesB zs = b := ⟨_, rfl⟩
        have HF : Hid (b = plB n zs) := by show _ = _; unfold plB; rw [allB_yes zs 0 _ fun j hj => HA.out j hj (by omega), hb]; rfl
        have C2 := CR.out b hb
        clear hb
        go_wp2_with fail
        refine C2.mono ?_
        rintro e w1 ⟨rfl, hb1⟩
        have HB1 : Hid (Below W.heap.size W w1) := hb1
        clear hb1
        go_wp2
        go_ret
        exact ⟨ret_bool HF.out, HB1.out⟩

set_option maxRecDepth 100000 in
set_option maxHeartbeats 2000000 in
theorem areSights_any (W : World) (v : Value) (zss : List (List Int)) (n : Nat) (h : ReadsSS W v zss) (hl : zss.length ≤ 1048576) (hin : ∀ j (hj : j < zss.length), zss[j].length ≤ 1048576) :
    Calls Try.prog 54 #[v, .int .i64 (n : Int)] W fun e W' => e = .returned (.bool (decide (zss.length = n) && seesB n zss)) ∧ Below W.heap.size W W' := by
  obtain ⟨a1, cap1, rfl, hc1⟩ := h
  by_cases hn : zss.length = n
  · subst hn
    rw [decide_eq_true (rfl : zss.length = zss.length), Bool.true_and]
    rcases hc1 with hz | ⟨g1, o1, rfl, hg1, hc1⟩
    · subst hz
      simp only [List.length_nil] at *
      go_enter Try.func54, Try.ntmps54
      go_wp2
      refine wp_loop_rounds 1 ?_
      rw [rounds_succ]
      go_wp2
      go_ret
      exact ⟨rfl, Below.refl _ _⟩
    · have HC1 : Hid (∀ W1, Since W.heap.size W W1 → ∀ j (hj : j < zss.length), ∃ u, W1.cell? ⟨g1, o1 + j, none⟩ = some u ∧ Reads W1 u zss[j]) := fun W1 hS j hj => by
        obtain ⟨u, h1, h2⟩ := hc1 j hj
        exact ⟨u, (hS.1.cell (p := ⟨g1, o1 + j, none⟩) hg1).trans h1, h2.below hS.1⟩
      have HS0 : Hid (Since W.heap.size W W) := Since.start W
      have HIN : Hid (∀ j (hj : j < zss.length), zss[j].length ≤ 1048576) := hin
      clear hc1 hin
      go_enter Try.func54, Try.ntmps54
      go_wp2
      go_loopw [13] (fun i wr => ∃ k : Nat, k ≤ zss.length ∧ i = .int .i64 k ∧ Hid ((∀ j (hj : j < zss.length), j < k → plB zss.length zss[j] = true) ∧ Since W.heap.size W wr)) (fun i _ => zss.length - (intOf i).toNat)
      case atStart => exact ⟨0, Nat.zero_le _, rfl, fun j _ hj => absurd hj (Nat.not_lt_zero _), HS0.out⟩
      case round =>
        obtain ⟨k, hk, rfl, HK⟩ := hrel
        by_cases hlt : k < zss.length
        · have hlt' : (k : Int) < (zss.length : Int) := by omega
          obtain ⟨u, q0, hru⟩ := HC1.out wr HK.out.2 k hlt
          have CP : Hid (∀ b, plB zss.length zss[k] = b → Calls Try.prog 91 #[u, .int .i64 (zss.length : Int)] wr fun e W' => e = .returned (.bool b) ∧ Below wr.heap.size wr W') := fun b hb => by
            have := arePlaces_any wr u zss[k] zss.length hru (HIN.out k hlt)
            rw [hb] at this
            exact this
          clear hru
          cases hp : plB zss.length zss[k] with
          | false =>
            have HF : Hid (seesB zss.length zss = false) := seesB_no _ zss k hlt hp
            have C2 : Hid (Calls Try.prog 91 #[u, .int .i64 (zss.length : Int)] wr fun e W' => e = .returned (.bool false) ∧ Below wr.heap.size wr W') := CP.out false hp
            have HS : Hid (Since W.heap.size W wr) := HK.out.2
            clear CP hp HK
            go_wp2_with fail
            refine C2.out.mono ?_
            rintro e w1 ⟨rfl, hb1⟩
            have HB1 : Hid (Below W.heap.size W w1) := (HS.out.step hb1).1
            clear hb1
            go_wp2
            go_ret
            exact ⟨ret_bool HF.out.symm, HB1.out⟩
          | true =>
            have HA1 : Hid (∀ j (hj : j < zss.length), j < k + 1 → plB zss.length zss[j] = true) := fun j hj h => by
              by_cases e : j = k
              · subst e; exact hp
              · exact HK.out.1 j hj (by omega)
            have C2 : Hid (Calls Try.prog 91 #[u, .int .i64 (zss.length : Int)] wr fun e W' => e = .returned (.bool true) ∧ Below wr.heap.size wr W') := CP.out true hp
            have HS : Hid (Since W.heap.size W wr) := HK.out.2
            clear CP hp HK
            go_wp2_with fail
            refine C2.out.mono ?_
            rintro e w1 ⟨rfl, hb1⟩
            have HB1 : Hid (Since W.heap.size W w1) := HS.out.step hb1
            clear hb1
            go_wp2
            go_roundw
            case rel => exact ⟨k + 1, by omega, by go_num, HA1.out, HB1.out⟩
            case measure => simp [intOf]; omega
        · have hlt' : ¬ (k : Int) < (zss.length : Int) := by omega
          have HF : Hid (seesB zss.length zss = true ∧ Below W.heap.size W wr) := ⟨seesB_yes _ zss fun j hj => HK.out.1 j hj (by omega), HK.out.2.1⟩
          clear HK
          go_wp2
          go_ret
          exact ⟨ret_bool HF.out.1.symm, HF.out.2⟩
  · have hq : ¬ (zss.length : Int) = (n : Int) := by omega
    rw [decide_eq_false hn, Bool.false_and]
    clear hc1 hin
    go_enter Try.func54, Try.ntmps54
    go_wp2
    go_ret
    exact ⟨rfl, Below.refl _ _⟩

/-- 'append(l, x)' of one bridge that lies in a block of its own. -/
theorem run_appBr1 (w : World) (B : Nat) (v : Value) (hs : List BrD) (x : BrD) (hown : OwnBr w B v hs) (hl : hs.length ≤ 1048576) (hB : B ≤ w.heap.size) (ty : TypeId) :
    ∃ v' w', (Builtin.append_ #[23, 23] ty #[v, .slice (some ⟨w.heap.size, 0, none⟩) 1 1]).run Try.prog (w.alloc (.cells #[.int .i64 x.id, .int .i64 x.rank, .bool x.up] 35)) = .ok v' w' ∧ Grown (w.alloc (.cells #[.int .i64 x.id, .int .i64 x.rank, .bool x.up] 35)) B 35 3 v (hs ++ [x]).length (cellsBr (hs ++ [x])) v' w' := by
  refine run_appBr _ B v hs (hown.below ((Below.refl _ w).alloc (Nat.le_refl _) _)) _ [x] (.inr ⟨_, 1, rfl, fun j u hu => ?_⟩) (by simp; omega) (by simp; omega) ty
  have hc : cellsBr [x] = [.int .i64 x.id, .int .i64 x.rank, .bool x.up] := rfl
  rw [hc] at hu
  rw [Go.WideShapes.add_plain, Nat.zero_add, World.cell?_alloc_at _ _ _ _ rfl]
  simpa using hu

set_option maxRecDepth 100000 in
set_option maxHeartbeats 2000000 in
theorem seenFrom_any (W : World) (v u : Value) (l : List BrD) (zs : List Int) (k : Nat) (h : ReadsBr W v l) (hu : Reads W u zs) (hl : l.length ≤ 1048576) (hz : zs.length ≤ 1000) (hk : k < l.length) (hin : ∀ j (hj : j < zs.length), 0 ≤ zs[j] ∧ zs[j] < (l.length : Int)) :
    Calls Try.prog 56 #[v, .int .i64 (k : Int), u] W fun e W' => ∃ v', e = .returned v' ∧ OwnBr W' W.heap.size v' (l[k] :: atPl l zs) ∧ Below W.heap.size W W' := by
  obtain ⟨a1, cap1, rfl, hc1⟩ := h
  obtain ⟨a2, cap2, rfl, hc2⟩ := hu
  obtain ⟨g1, o1, rfl, hg1, hc1⟩ := hc1.resolve_left (fun e => by rw [e] at hk; simp at hk)
  have HC1 : Hid (∀ W1, Since W.heap.size W W1 → ∀ j (hj : j < l.length), BrAt W1 g1 (o1 + j * 3) l[j]) := fun W1 hS j hj => (hc1 j hj).below hg1 hS.1
  obtain ⟨q0, q1, q2⟩ := hc1 k hk
  have HS0 : Hid (Since W.heap.size W (W.alloc (.cells #[.int .i64 l[k].id, .int .i64 l[k].rank, .bool l[k].up] 35))) := (Since.start W).step ((Below.refl _ W).alloc (Nat.le_refl _) _)
  have HM : Hid (OwnBr (W.alloc (.cells #[.int .i64 l[k].id, .int .i64 l[k].rank, .bool l[k].up] 35)) W.heap.size (.slice (some ⟨W.heap.size, 0, none⟩) 1 1) [l[k]]) := World.ownsRow_lit W #[.int .i64 l[k].id, .int .i64 l[k].rank, .bool l[k].up] 1 (Nat.le_refl _) (by decide) rfl
  have hkl : (k : Int) < (l.length : Int) := by omega
  obtain ⟨y, hy⟩ : ∃ y, y = l[k] := ⟨_, rfl⟩
  rw [← hy] at q0 q1 q2 HS0 HM ⊢
  clear hy
  have HC2 : Hid (zs = [] ∨ ∃ g off, a2 = some ⟨g, off, none⟩ ∧ ∀ W1, Since W.heap.size W W1 → ∀ j (hj : j < zs.length), W1.cell? ⟨g, off + j, none⟩ = some (.int .i64 zs[j])) := hc2.imp id fun ⟨g, off, ha, hg, hcell⟩ => ⟨g, off, ha, fun W1 hS j hj => (hS.1.cell (p := ⟨g, off + j, none⟩) hg).trans (hcell j hj)⟩
  have HIN : Hid (∀ j (hj : j < zs.length), ∃ p : Nat, zs[j] = (p : Int) ∧ p < l.length) := fun j hj => ⟨zs[j].toNat, by have := hin j hj; omega, by have := hin j hj; omega⟩
  clear hc1 hc2 hg1 hin
  go_enter Try.func56, Try.ntmps56
  go_wp2
  generalize hw : W.alloc (.cells #[.int .i64 y.id, .int .i64 y.rank, .bool y.up] 35) = w0 at *
  clear hw
  go_loopw [7, 17] (fun b i wr => ∃ j : Nat, j ≤ zs.length ∧ i = .int .i64 j ∧ Hid (OwnBr wr W.heap.size b (y :: atPl l (zs.take j)) ∧ Since W.heap.size W wr)) (fun _ i _ => zs.length - (intOf i).toNat)
  case atStart => exact ⟨0, Nat.zero_le _, rfl, HM.out, HS0.out⟩
  case round =>
    clear HM HS0
    obtain ⟨j, hj, rfl, HJ⟩ := hrel
    obtain ⟨a3, c3, rfl⟩ := HJ.out.1.shape
    by_cases hlt : j < zs.length
    · have hlt' : (j : Int) < (zs.length : Int) := by omega
      obtain ⟨g2, o2, rfl, hc2⟩ := HC2.out.resolve_left (fun e => by rw [e] at hlt; simp at hlt)
      obtain ⟨p, hp, hpl⟩ := HIN.out j hlt
      have r0 := hc2 wr HJ.out.2 j hlt
      rw [hp] at r0
      have hpl' : (p : Int) < (l.length : Int) := by omega
      obtain ⟨s0, s1, s2⟩ := HC1.out wr HJ.out.2 p hpl
      have HN : Hid (y :: atPl l (zs.take (j + 1)) = (y :: atPl l (zs.take j)) ++ [l[p]]) := by
        show _ = _
        rw [List.take_succ_eq_append_getElem hlt, hp, atPl_app]
        have : atPl l [(p : Int)] = [l[p]] := by simp [atPl, List.getElem?_eq_getElem hpl]
        rw [this]
        rfl
      have hqs : (y :: atPl l (zs.take j)).length ≤ 1048576 := by
        have h1 : (atPl l (zs.take j)).length ≤ (zs.take j).length := List.length_filterMap_le _ _
        simp only [List.length_cons, List.length_take] at *
        omega
      generalize y :: atPl l (zs.take j) = qs at *
      generalize l[p] = x at *
      have HC : Hid (∀ ty, ∃ v' w', (Builtin.append_ #[23, 23] ty #[.slice a3 qs.length c3, .slice (some ⟨wr.heap.size, 0, none⟩) 1 1]).run Try.prog (wr.alloc (.cells #[.int .i64 x.id, .int .i64 x.rank, .bool x.up] 35)) = .ok v' w' ∧ Grown (wr.alloc (.cells #[.int .i64 x.id, .int .i64 x.rank, .bool x.up] 35)) W.heap.size 35 3 (.slice a3 qs.length c3) (qs ++ [x]).length (cellsBr (qs ++ [x])) v' w') := fun ty => run_appBr1 wr _ _ qs x HJ.out.1 hqs HJ.out.2.2 ty
      have HS1 : Hid (Since W.heap.size W (wr.alloc (.cells #[.int .i64 x.id, .int .i64 x.rank, .bool x.up] 35))) := HJ.out.2.step ((Below.refl _ wr).alloc (Nat.le_refl _) _)
      clear HJ hc2 hp
      go_wp2_with (at_builtin; refine list_app (by rfl) (.tmp 21) (.tmp 26) 23 (by rfl) (.slice a3 qs.length c3) (.slice (some ⟨wr.heap.size, 0, none⟩) 1 1) (by rfl) (by rfl) _ HC.out ?_; intro v5 w5 hg5; have HF : Hid (OwnBr w5 W.heap.size v5 (y :: atPl l (zs.take (j + 1))) ∧ Since W.heap.size W w5) := ⟨by rw [HN.out]; exact hg5.own, ⟨HS1.out.1.trans hg5.below, Nat.le_trans HS1.out.2 hg5.size⟩⟩; clear hg5)
      go_roundw
      case rel => exact ⟨j + 1, by omega, by go_num, HF.out⟩
      case measure => simp [intOf]; omega
    · have hlt' : ¬ (j : Int) < (zs.length : Int) := by omega
      have en : zs.take j = zs := List.take_of_length_le (by omega)
      rw [en] at HJ
      rw [en]
      clear en
      go_wp2
      go_ret
      exact ⟨_, rfl, HJ.out.1, HJ.out.2.1⟩
end Go.Proofs.Ythdcfeafkellcab
