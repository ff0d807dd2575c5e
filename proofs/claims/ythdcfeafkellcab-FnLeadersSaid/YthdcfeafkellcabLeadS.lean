/-
  'l4Places' and 'l4Leader' of the model.
-/
import Derived.Test.YthdcfeafkellcabBestT
import Derived.Test.YthdcfeafkellcabHand
import Derived.Test.YthdcfeafkellcabRowLaw0
namespace Go.Proofs.Ythdcfeafkellcab
open Go.RowKit
set_option linter.unusedVariables false

/-- The numbers from 0 on. -/
def upTo (n : Nat) : List Int := (List.range n).map fun j : Nat => (j : Int)
theorem upTo_len (n : Nat) : (upTo n).length = n := by simp [upTo]
theorem upTo_next (n : Nat) : upTo (n + 1) = upTo n ++ [(n : Int)] := by simp [upTo, List.range_succ]
theorem upTo_get (n j : Nat) (h : j < (upTo n).length) : (upTo n)[j] = (j : Int) := by simp [upTo]

set_option maxRecDepth 100000 in
set_option maxHeartbeats 2000000 in
theorem l4Places_any (W : World) (v : Value) (l : List BrD) (h : ReadsBr W v l) (hl : l.length ≤ 1048576) :
    Calls Try.prog 61 #[v] W fun e W' => ∃ v', e = .returned v' ∧ Own W' W.heap.size v' (upTo l.length) ∧ Below W.heap.size W W' := by
  obtain ⟨a1, c1, rfl⟩ := h.shape
  have HS0 : Hid (Since W.heap.size W W) := Since.start W
  clear h
  go_enter Try.func61, Try.ntmps61
  go_wp2
  go_loopw [3, 7] (fun u i wr => ∃ k : Nat, k ≤ l.length ∧ i = .int .i64 k ∧ Hid (Own wr W.heap.size u (upTo k) ∧ Since W.heap.size W wr)) (fun _ i _ => l.length - (intOf i).toNat)
  case atStart => exact ⟨0, Nat.zero_le _, rfl, Own.nil _ _, HS0.out⟩
  case round =>
    obtain ⟨k, hk, rfl, HK⟩ := hrel
    obtain ⟨a2, c2, rfl⟩ := HK.out.1.shape
    have eL := upTo_len k
    rw [eL] at HK
    rw [eL]
    clear eL
    by_cases hlt : k < l.length
    · have hlt' : (k : Int) < (l.length : Int) := by omega
      have hb1 : Below wr.heap.size wr (wr.alloc (.cells #[.int .i64 (k : Int)] 3)) := (Below.refl _ wr).alloc (Nat.le_refl _) _
      have HC : Hid (∀ ty, ∃ v' w', (Builtin.append_ #[27, 27] ty #[.slice a2 k c2, .slice (some ⟨wr.heap.size, 0, none⟩) 1 1]).run Try.prog (wr.alloc (.cells #[.int .i64 (k : Int)] 3)) = .ok v' w' ∧ Grown (wr.alloc (.cells #[.int .i64 (k : Int)] 3)) W.heap.size 3 1 (.slice a2 k c2) (upTo k ++ [(k : Int)]).length ((upTo k ++ [(k : Int)]).map (Value.int .i64)) v' w') := fun ty =>
        run_app1 _ _ _ (upTo k) (HK.out.1.below hb1) wr.heap.size 1 (k : Int) (new_cell _ _ _) (by rw [upTo_len]; omega) (by have := HK.out.2.2; simp; omega) ty
      have HS1 : Hid (Since W.heap.size W (wr.alloc (.cells #[.int .i64 (k : Int)] 3))) := HK.out.2.step hb1
      clear hb1
      go_wp2_with (at_builtin; refine list_app (by rfl) (.tmp 10) (.tmp 12) 27 (by rfl) (.slice a2 k c2) (.slice (some ⟨wr.heap.size, 0, none⟩) 1 1) (by rfl) (by rfl) _ HC.out ?_; intro v5 w5 hg5; have HF : Hid (Own w5 W.heap.size v5 (upTo (k + 1)) ∧ Since W.heap.size W w5) := ⟨by rw [upTo_next]; exact hg5.own, ⟨HS1.out.1.trans hg5.below, Nat.le_trans HS1.out.2 hg5.size⟩⟩; clear hg5)
      go_roundw
      case rel => exact ⟨k + 1, by omega, by go_num, HF.out⟩
      case measure => simp [intOf]; omega
    · have hlt' : ¬ (k : Int) < (l.length : Int) := by omega
      have e : k = l.length := by omega
      subst e
      go_wp2
      go_ret
      exact ⟨_, rfl, HK.out.1, HK.out.2.1⟩

/-- The bridges at places. -/
def atPl (l : List BrD) (zs : List Int) : List BrD := zs.filterMap fun z => l[z.toNat]?
theorem atPl_app (l : List BrD) (a b : List Int) : atPl l (a ++ b) = atPl l a ++ atPl l b := List.filterMap_append ..
theorem atPl_upTo (l : List BrD) : ∀ n, n ≤ l.length → atPl l (upTo n) = l.take n
  | 0, _ => by simp [upTo, atPl]
  | n + 1, h => by
    rw [upTo_next, atPl_app, atPl_upTo l n (by omega), List.take_succ_eq_append_getElem (by omega)]
    congr 1
    simp [atPl, List.getElem?_eq_getElem (show n < l.length by omega)]
/-- What the model's loop keeps: the place of the best so far, -1 for none. -/
def BestPl (l : List BrD) (f : BrD → BrD → Bool) (zs : List Int) (b : Int) : Prop :=
  (bestOf f (atPl l zs) = none ∧ b = -1) ∨ ∃ (k : Nat) (hk : k < l.length), b = (k : Int) ∧ bestOf f (atPl l zs) = some l[k]
theorem best_place (l : List BrD) (f : BrD → BrD → Bool) (zs : List Int) (p : Nat) (hp : p < l.length) : bestOf f (atPl l (zs ++ [(p : Int)])) = bestStep f (bestOf f (atPl l zs)) l[p] := by
  rw [atPl_app]
  have : atPl l [(p : Int)] = [l[p]] := by simp [atPl, List.getElem?_eq_getElem hp]
  rw [this, bestOf_app]

set_option maxRecDepth 100000 in
set_option maxHeartbeats 8000000 in
theorem l4Leader_any (W : World) (v u : Value) (l : List BrD) (zs : List Int) (h : ReadsBr W v l) (hu : Reads W u zs) (hl : l.length ≤ 1048576) (hz : zs.length ≤ 1048576) (hin : ∀ j (hj : j < zs.length), 0 ≤ zs[j] ∧ zs[j] < (l.length : Int)) :
    Calls Try.prog 59 #[v, u] W fun e W' => e = .returned (.int .i64 (bestId (bestOf beatsB (atPl l zs)))) ∧ Below W.heap.size W W' := by
  obtain ⟨a1, cap1, rfl, hc1⟩ := h
  obtain ⟨a2, cap2, rfl, hc2⟩ := hu
  by_cases hn : zs = []
  · subst hn
    simp only [List.length_nil]
    clear hc1 hc2
    go_enter Try.func59, Try.ntmps59
    go_wp2
    refine wp_loop_rounds 1 ?_
    rw [rounds_succ]
    go_wp2
    go_ret
    exact ⟨rfl, Below.refl _ _⟩
  · obtain ⟨g2, o2, rfl, hg2, hc2⟩ := hc2.resolve_left hn
    have hz0 : 0 < zs.length := List.length_pos_iff.2 hn
    obtain ⟨g1, o1, rfl, hg1, hc1⟩ := hc1.resolve_left (fun e => by have := hin 0 hz0; rw [e] at this; simp at this; omega)
    have HC1 : Hid (∀ W1, Since W.heap.size W W1 → ∀ j (hj : j < l.length), W1.cell? ⟨g1, o1 + j * 3, none⟩ = some (.int .i64 l[j].id) ∧ W1.cell? ⟨g1, o1 + j * 3 + 1, none⟩ = some (.int .i64 l[j].rank) ∧ W1.cell? ⟨g1, o1 + j * 3 + 2, none⟩ = some (.bool l[j].up)) := fun W1 hS j hj => (hc1 j hj).below hg1 hS.1
    have HC2 : Hid (∀ W1, Since W.heap.size W W1 → ∀ j (hj : j < zs.length), W1.cell? ⟨g2, o2 + j, none⟩ = some (.int .i64 zs[j])) := fun W1 hS j hj => (hS.1.cell (p := ⟨g2, o2 + j, none⟩) hg2).trans (hc2 j hj)
    have HS0 : Hid (Since W.heap.size W W) := Since.start W
    have HIN : Hid (∀ j (hj : j < zs.length), ∃ p : Nat, zs[j] = (p : Int) ∧ p < l.length) := fun j hj => ⟨zs[j].toNat, by have := hin j hj; omega, by have := hin j hj; omega⟩
    clear hc1 hg1 hn hc2 hg2 hin hz0
    go_enter Try.func59, Try.ntmps59
    go_wp2
    go_loopw [5, 10] (fun bv i wr => ∃ (k : Nat) (b : Int), k ≤ zs.length ∧ i = .int .i64 k ∧ bv = .int .i64 b ∧ Hid (BestPl l beatsB (zs.take k) b ∧ Since W.heap.size W wr)) (fun _ i _ => zs.length - (intOf i).toNat)
    case atStart => exact ⟨0, -1, Nat.zero_le _, rfl, rfl, .inl ⟨rfl, rfl⟩, HS0.out⟩
    case round =>
      obtain ⟨k, b, hk, rfl, rfl, HK⟩ := hrel
      by_cases hlt : k < zs.length
      · have hlt' : (k : Int) < (zs.length : Int) := by omega
        obtain ⟨p, hp, hpl⟩ := HIN.out k hlt
        have q0 := HC2.out wr HK.out.2 k hlt
        rw [hp] at q0
        have hpl' : (p : Int) < (l.length : Int) := by omega
        have HN : Hid (bestOf beatsB (atPl l (zs.take (k + 1))) = bestStep beatsB (bestOf beatsB (atPl l (zs.take k))) l[p]) := by
          show _ = _
          rw [List.take_succ_eq_append_getElem hlt, hp, best_place l beatsB _ p hpl]
        have HS : Hid (Since W.heap.size W wr) := HK.out.2
        have HPX : Hid (∀ w', Since wr.heap.size wr w' → w'.cell? ⟨g1, o1 + p * 3, none⟩ = some (.int .i64 l[p].id) ∧ w'.cell? ⟨g1, o1 + p * 3 + 1, none⟩ = some (.int .i64 l[p].rank) ∧ w'.cell? ⟨g1, o1 + p * 3 + 2, none⟩ = some (.bool l[p].up)) := fun w' hs => HC1.out w' (HS.out.tran hs) p hpl
        have HPL : Hid (∀ o, bestStep beatsB o l[p] = some l[p] → BestPl l beatsB (zs.take (k + 1)) p ∨ o ≠ bestOf beatsB (atPl l (zs.take k))) := fun o ho => by
          by_cases e : o = bestOf beatsB (atPl l (zs.take k))
          · subst e
            exact .inl (.inr ⟨p, hpl, rfl, HN.out.trans ho⟩)
          · exact .inr e
        cases hux : l[p].up with
        | false =>
          have HK1 : Hid (BestPl l beatsB (zs.take (k + 1)) b) := by
            have e : bestOf beatsB (atPl l (zs.take (k + 1))) = bestOf beatsB (atPl l (zs.take k)) := by rw [HN.out]; unfold bestStep; rw [hux]; rfl
            unfold Hid BestPl
            rw [e]
            exact HK.out.1
          rw [hux] at HPX
          have HP := HPX
          generalize l[p] = x at HP
          clear HK HN hp HPX HPL hux
          go_wp2
          have SA0 := Since.start wr
          refine wp_region_held_drew (S := (fun w' => (w'.cell? ⟨g1, o1 + p * 3, none⟩ = some (.int .i64 x.id) ∧ w'.cell? ⟨g1, o1 + p * 3 + 1, none⟩ = some (.int .i64 x.rank) ∧ w'.cell? ⟨g1, o1 + p * 3 + 2, none⟩ = some (.bool false)))) (by kernel_rfl) ?_ (fun hHeld => ?_)
          · exact HP.out _ SA0.drew
          refine handRead 0 (some 14) (.slice (some ⟨g1, o1, none⟩) l.length cap1) rfl rfl (by kernel_rfl) (by kernel_rfl) (by kernel_rfl) (fun _ _ _ h => h) (by kernel_rfl) (by assumption) ?_ ?_
          · intro w hSw
            (try dsimp only at hSw)
            go_simp
          simp only [Act.put, List.setIfInBounds_toArray, List.set_cons_zero, List.set_cons_succ]
          refine handRead 1 (some 15) (.int .i64 p) rfl rfl (by kernel_rfl) (by kernel_rfl) (by kernel_rfl) (fun _ _ _ h => h) (by kernel_rfl) (by assumption) ?_ ?_
          · intro w hSw
            (try dsimp only at hSw)
            go_simp
          simp only [Act.put, List.setIfInBounds_toArray, List.set_cons_zero, List.set_cons_succ]
          refine handRead 2 (some 16) (.pointer (some ⟨g1, o1 + p * 3, none⟩)) rfl rfl (by kernel_rfl) (by kernel_rfl) (by kernel_rfl) (fun _ _ _ h => h) (by kernel_rfl) (by assumption) ?_ ?_
          · intro w hSw
            (try dsimp only at hSw)
            go_simp
          simp only [Act.put, List.setIfInBounds_toArray, List.set_cons_zero, List.set_cons_succ]
          refine handRead 3 (some 17) (.pointer (some ⟨g1, o1 + p * 3 + 2, none⟩)) rfl rfl (by kernel_rfl) (by kernel_rfl) (by kernel_rfl) (fun _ _ _ h => h) (by kernel_rfl) (by assumption) ?_ ?_
          · intro w hSw
            (try dsimp only at hSw)
            go_simp
          simp only [Act.put, List.setIfInBounds_toArray, List.set_cons_zero, List.set_cons_succ]
          refine handRead 4 (some 18) (.bool false) rfl rfl (by kernel_rfl) (by kernel_rfl) (by kernel_rfl) (fun _ _ _ h => h) (by kernel_rfl) (by assumption) ?_ ?_
          · intro w hSw
            (try dsimp only at hSw)
            go_simp
          simp only [Act.put, List.setIfInBounds_toArray, List.set_cons_zero, List.set_cons_succ]
          refine handRead 5 (some 19) (.bool false) rfl rfl (by kernel_rfl) (by kernel_rfl) (by kernel_rfl) (fun _ _ _ h => h) (by kernel_rfl) (by assumption) ?_ ?_
          · intro w hSw
            (try dsimp only at hSw)
            go_simp
          simp only [Act.put, List.setIfInBounds_toArray, List.set_cons_zero, List.set_cons_succ]
          refine handSkip 6 (some 20) rfl rfl (by kernel_rfl) (by kernel_rfl) (by kernel_rfl) (fun _ _ _ h => h) (by kernel_rfl) (by assumption) ?_
          simp only [Act.put, List.setIfInBounds_toArray, List.set_cons_zero, List.set_cons_succ]
          refine handSkip 7 (some 21) rfl rfl (by kernel_rfl) (by kernel_rfl) (by kernel_rfl) (fun _ _ _ h => h) (by kernel_rfl) (by assumption) ?_
          simp only [Act.put, List.setIfInBounds_toArray, List.set_cons_zero, List.set_cons_succ]
          refine handSkip 8 (some 22) rfl rfl (by kernel_rfl) (by kernel_rfl) (by kernel_rfl) (fun _ _ _ h => h) (by kernel_rfl) (by assumption) ?_
          simp only [Act.put, List.setIfInBounds_toArray, List.set_cons_zero, List.set_cons_succ]
          refine handSkip 9 (some 23) rfl rfl (by kernel_rfl) (by kernel_rfl) (by kernel_rfl) (fun _ _ _ h => h) (by kernel_rfl) (by assumption) ?_
          simp only [Act.put, List.setIfInBounds_toArray, List.set_cons_zero, List.set_cons_succ]
          refine handSkip 10 (some 24) rfl rfl (by kernel_rfl) (by kernel_rfl) (by kernel_rfl) (fun _ _ _ h => h) (by kernel_rfl) (by assumption) ?_
          simp only [Act.put, List.setIfInBounds_toArray, List.set_cons_zero, List.set_cons_succ]
          refine handSkip 11 (some 25) rfl rfl (by kernel_rfl) (by kernel_rfl) (by kernel_rfl) (fun _ _ _ h => h) (by kernel_rfl) (by assumption) ?_
          simp only [Act.put, List.setIfInBounds_toArray, List.set_cons_zero, List.set_cons_succ]
          refine handSkip 12 (some 26) rfl rfl (by kernel_rfl) (by kernel_rfl) (by kernel_rfl) (fun _ _ _ h => h) (by kernel_rfl) (by assumption) ?_
          simp only [Act.put, List.setIfInBounds_toArray, List.set_cons_zero, List.set_cons_succ]
          refine handSkip 13 (some 27) rfl rfl (by kernel_rfl) (by kernel_rfl) (by kernel_rfl) (fun _ _ _ h => h) (by kernel_rfl) (by assumption) ?_
          simp only [Act.put, List.setIfInBounds_toArray, List.set_cons_zero, List.set_cons_succ]
          refine handSkip 14 (some 28) rfl rfl (by kernel_rfl) (by kernel_rfl) (by kernel_rfl) (fun _ _ _ h => h) (by kernel_rfl) (by assumption) ?_
          simp only [Act.put, List.setIfInBounds_toArray, List.set_cons_zero, List.set_cons_succ]
          refine handSkip 15 (some 29) rfl rfl (by kernel_rfl) (by kernel_rfl) (by kernel_rfl) (fun _ _ _ h => h) (by kernel_rfl) (by assumption) ?_
          simp only [Act.put, List.setIfInBounds_toArray, List.set_cons_zero, List.set_cons_succ]
          refine handSkip 16 (some 30) rfl rfl (by kernel_rfl) (by kernel_rfl) (by kernel_rfl) (fun _ _ _ h => h) (by kernel_rfl) (by assumption) ?_
          simp only [Act.put, List.setIfInBounds_toArray, List.set_cons_zero, List.set_cons_succ]
          refine handSkip 17 (some 31) rfl rfl (by kernel_rfl) (by kernel_rfl) (by kernel_rfl) (fun _ _ _ h => h) (by kernel_rfl) (by assumption) ?_
          simp only [Act.put, List.setIfInBounds_toArray, List.set_cons_zero, List.set_cons_succ]
          refine handSkip 18 (some 32) rfl rfl (by kernel_rfl) (by kernel_rfl) (by kernel_rfl) (fun _ _ _ h => h) (by kernel_rfl) (by assumption) ?_
          simp only [Act.put, List.setIfInBounds_toArray, List.set_cons_zero, List.set_cons_succ]
          refine handRead 19 (some 33) (.bool false) rfl rfl (by kernel_rfl) (by kernel_rfl) (by kernel_rfl) (fun _ _ _ h => h) (by kernel_rfl) (by assumption) ?_ ?_
          · intro w hSw
            (try dsimp only at hSw)
            go_simp
          simp only [Act.put, List.setIfInBounds_toArray, List.set_cons_zero, List.set_cons_succ]
          refine wpAnyH_done (by kernel_rfl) ?_ _
          go_wp2
          go_roundw
          case rel => exact ⟨k + 1, b, by omega, by go_num, rfl, HK1.out, HS.out.drew⟩
          case measure => simp [intOf]; omega
        | true =>
          rw [hux] at HPX
          rcases HK.out.1 with ⟨hb0, rfl⟩ | ⟨j, hj, rfl, hbj⟩
          · have HK1 : Hid (BestPl l beatsB (zs.take (k + 1)) p) := .inr ⟨p, hpl, rfl, by rw [HN.out, hb0]; unfold bestStep; rw [hux]; rfl⟩
            have HP := HPX
            generalize l[p] = x at HP
            clear HK HN hp HPX HPL hux hb0
            go_wp2
            have SA0 := Since.start wr
            refine wp_region_held_drew (S := (fun w' => (w'.cell? ⟨g1, o1 + p * 3, none⟩ = some (.int .i64 x.id) ∧ w'.cell? ⟨g1, o1 + p * 3 + 1, none⟩ = some (.int .i64 x.rank) ∧ w'.cell? ⟨g1, o1 + p * 3 + 2, none⟩ = some (.bool true)))) (by kernel_rfl) ?_ (fun hHeld => ?_)
            · exact HP.out _ SA0.drew
            refine handRead 0 (some 14) (.slice (some ⟨g1, o1, none⟩) l.length cap1) rfl rfl (by kernel_rfl) (by kernel_rfl) (by kernel_rfl) (fun _ _ _ h => h) (by kernel_rfl) (by assumption) ?_ ?_
            · intro w hSw
              (try dsimp only at hSw)
              go_simp
            simp only [Act.put, List.setIfInBounds_toArray, List.set_cons_zero, List.set_cons_succ]
            refine handRead 1 (some 15) (.int .i64 p) rfl rfl (by kernel_rfl) (by kernel_rfl) (by kernel_rfl) (fun _ _ _ h => h) (by kernel_rfl) (by assumption) ?_ ?_
            · intro w hSw
              (try dsimp only at hSw)
              go_simp
            simp only [Act.put, List.setIfInBounds_toArray, List.set_cons_zero, List.set_cons_succ]
            refine handRead 2 (some 16) (.pointer (some ⟨g1, o1 + p * 3, none⟩)) rfl rfl (by kernel_rfl) (by kernel_rfl) (by kernel_rfl) (fun _ _ _ h => h) (by kernel_rfl) (by assumption) ?_ ?_
            · intro w hSw
              (try dsimp only at hSw)
              go_simp
            simp only [Act.put, List.setIfInBounds_toArray, List.set_cons_zero, List.set_cons_succ]
            refine handRead 3 (some 17) (.pointer (some ⟨g1, o1 + p * 3 + 2, none⟩)) rfl rfl (by kernel_rfl) (by kernel_rfl) (by kernel_rfl) (fun _ _ _ h => h) (by kernel_rfl) (by assumption) ?_ ?_
            · intro w hSw
              (try dsimp only at hSw)
              go_simp
            simp only [Act.put, List.setIfInBounds_toArray, List.set_cons_zero, List.set_cons_succ]
            refine handRead 4 (some 18) (.bool true) rfl rfl (by kernel_rfl) (by kernel_rfl) (by kernel_rfl) (fun _ _ _ h => h) (by kernel_rfl) (by assumption) ?_ ?_
            · intro w hSw
              (try dsimp only at hSw)
              go_simp
            simp only [Act.put, List.setIfInBounds_toArray, List.set_cons_zero, List.set_cons_succ]
            refine handRead 5 (some 19) (.bool true) rfl rfl (by kernel_rfl) (by kernel_rfl) (by kernel_rfl) (fun _ _ _ h => h) (by kernel_rfl) (by assumption) ?_ ?_
            · intro w hSw
              (try dsimp only at hSw)
              go_simp
            simp only [Act.put, List.setIfInBounds_toArray, List.set_cons_zero, List.set_cons_succ]
            refine handRead 6 (some 20) (.int .i64 (-1)) rfl rfl (by kernel_rfl) (by kernel_rfl) (by kernel_rfl) (fun _ _ _ h => h) (by kernel_rfl) (by assumption) ?_ ?_
            · intro w hSw
              (try dsimp only at hSw)
              go_simp
            simp only [Act.put, List.setIfInBounds_toArray, List.set_cons_zero, List.set_cons_succ]
            refine handRead 7 (some 21) (.bool true) rfl rfl (by kernel_rfl) (by kernel_rfl) (by kernel_rfl) (fun _ _ _ h => h) (by kernel_rfl) (by assumption) ?_ ?_
            · intro w hSw
              (try dsimp only at hSw)
              go_simp
            simp only [Act.put, List.setIfInBounds_toArray, List.set_cons_zero, List.set_cons_succ]
            refine handRead 8 (some 22) (.bool true) rfl rfl (by kernel_rfl) (by kernel_rfl) (by kernel_rfl) (fun _ _ _ h => h) (by kernel_rfl) (by assumption) ?_ ?_
            · intro w hSw
              (try dsimp only at hSw)
              go_simp
            simp only [Act.put, List.setIfInBounds_toArray, List.set_cons_zero, List.set_cons_succ]
            refine handSkip 9 (some 23) rfl rfl (by kernel_rfl) (by kernel_rfl) (by kernel_rfl) (fun _ _ _ h => h) (by kernel_rfl) (by assumption) ?_
            simp only [Act.put, List.setIfInBounds_toArray, List.set_cons_zero, List.set_cons_succ]
            refine handSkip 10 (some 24) rfl rfl (by kernel_rfl) (by kernel_rfl) (by kernel_rfl) (fun _ _ _ h => h) (by kernel_rfl) (by assumption) ?_
            simp only [Act.put, List.setIfInBounds_toArray, List.set_cons_zero, List.set_cons_succ]
            refine handSkip 11 (some 25) rfl rfl (by kernel_rfl) (by kernel_rfl) (by kernel_rfl) (fun _ _ _ h => h) (by kernel_rfl) (by assumption) ?_
            simp only [Act.put, List.setIfInBounds_toArray, List.set_cons_zero, List.set_cons_succ]
            refine handSkip 12 (some 26) rfl rfl (by kernel_rfl) (by kernel_rfl) (by kernel_rfl) (fun _ _ _ h => h) (by kernel_rfl) (by assumption) ?_
            simp only [Act.put, List.setIfInBounds_toArray, List.set_cons_zero, List.set_cons_succ]
            refine handSkip 13 (some 27) rfl rfl (by kernel_rfl) (by kernel_rfl) (by kernel_rfl) (fun _ _ _ h => h) (by kernel_rfl) (by assumption) ?_
            simp only [Act.put, List.setIfInBounds_toArray, List.set_cons_zero, List.set_cons_succ]
            refine handSkip 14 (some 28) rfl rfl (by kernel_rfl) (by kernel_rfl) (by kernel_rfl) (fun _ _ _ h => h) (by kernel_rfl) (by assumption) ?_
            simp only [Act.put, List.setIfInBounds_toArray, List.set_cons_zero, List.set_cons_succ]
            refine handSkip 15 (some 29) rfl rfl (by kernel_rfl) (by kernel_rfl) (by kernel_rfl) (fun _ _ _ h => h) (by kernel_rfl) (by assumption) ?_
            simp only [Act.put, List.setIfInBounds_toArray, List.set_cons_zero, List.set_cons_succ]
            refine handSkip 16 (some 30) rfl rfl (by kernel_rfl) (by kernel_rfl) (by kernel_rfl) (fun _ _ _ h => h) (by kernel_rfl) (by assumption) ?_
            simp only [Act.put, List.setIfInBounds_toArray, List.set_cons_zero, List.set_cons_succ]
            refine handSkip 17 (some 31) rfl rfl (by kernel_rfl) (by kernel_rfl) (by kernel_rfl) (fun _ _ _ h => h) (by kernel_rfl) (by assumption) ?_
            simp only [Act.put, List.setIfInBounds_toArray, List.set_cons_zero, List.set_cons_succ]
            refine handRead 18 (some 32) (.bool true) rfl rfl (by kernel_rfl) (by kernel_rfl) (by kernel_rfl) (fun _ _ _ h => h) (by kernel_rfl) (by assumption) ?_ ?_
            · intro w hSw
              (try dsimp only at hSw)
              go_simp
            simp only [Act.put, List.setIfInBounds_toArray, List.set_cons_zero, List.set_cons_succ]
            refine handRead 19 (some 33) (.bool true) rfl rfl (by kernel_rfl) (by kernel_rfl) (by kernel_rfl) (fun _ _ _ h => h) (by kernel_rfl) (by assumption) ?_ ?_
            · intro w hSw
              (try dsimp only at hSw)
              go_simp
            simp only [Act.put, List.setIfInBounds_toArray, List.set_cons_zero, List.set_cons_succ]
            refine wpAnyH_done (by kernel_rfl) ?_ _
            go_wp2
            go_roundw
            case rel => exact ⟨k + 1, p, by omega, by go_num, rfl, HK1.out, HS.out.drew⟩
            case measure => simp [intOf]; omega
          · have hjl' : (j : Int) < (l.length : Int) := by omega
            have hjn : ¬ (j : Int) < 0 := by omega
            have HQX : Hid (∀ w', Since wr.heap.size wr w' → w'.cell? ⟨g1, o1 + j * 3, none⟩ = some (.int .i64 l[j].id) ∧ w'.cell? ⟨g1, o1 + j * 3 + 1, none⟩ = some (.int .i64 l[j].rank) ∧ w'.cell? ⟨g1, o1 + j * 3 + 2, none⟩ = some (.bool l[j].up)) := fun w' hs => HC1.out w' (HS.out.tran hs) j hj
            have CBX : Hid (∀ w, Calls Try.prog 65 #[.agg #[.int .i64 l[p].id, .int .i64 l[p].rank, .bool true], .agg #[.int .i64 l[j].id, .int .i64 l[j].rank, .bool l[j].up]] w fun e w' => e = .returned (.bool (beatsB l[p] l[j])) ∧ Below w.heap.size w w') := fun w => by
              have := l4Beats_any w l[p] l[j]
              rw [hux] at this
              exact this
            cases hfb : beatsB l[p] l[j] with
            | false =>
              have HK1 : Hid (BestPl l beatsB (zs.take (k + 1)) j) := .inr ⟨j, hj, rfl, by rw [HN.out, hbj]; unfold bestStep; rw [hux]; simp only [if_true, hfb]; rfl⟩
              rw [hfb] at CBX
              have HP := HPX
              have HQ := HQX
              have CB := CBX
              generalize l[p] = x at HP CB
              generalize l[j] = y at HQ CB
              generalize hjb : j = b at *
              clear HK HN hp HPX HQX CBX HPL hux hbj hfb hjb
              go_wp2
              have SA0 := Since.start wr
              refine wp_region_held_drew (S := (fun w' => (w'.cell? ⟨g1, o1 + p * 3, none⟩ = some (.int .i64 x.id) ∧ w'.cell? ⟨g1, o1 + p * 3 + 1, none⟩ = some (.int .i64 x.rank) ∧ w'.cell? ⟨g1, o1 + p * 3 + 2, none⟩ = some (.bool true)) ∧ (w'.cell? ⟨g1, o1 + b * 3, none⟩ = some (.int .i64 y.id) ∧ w'.cell? ⟨g1, o1 + b * 3 + 1, none⟩ = some (.int .i64 y.rank) ∧ w'.cell? ⟨g1, o1 + b * 3 + 2, none⟩ = some (.bool y.up)))) (by kernel_rfl) ?_ (fun hHeld => ?_)
              · exact ⟨HP.out _ SA0.drew, HQ.out _ SA0.drew⟩
              refine handRead 0 (some 14) (.slice (some ⟨g1, o1, none⟩) l.length cap1) rfl rfl (by kernel_rfl) (by kernel_rfl) (by kernel_rfl) (fun _ _ _ h => h) (by kernel_rfl) (by assumption) ?_ ?_
              · intro w hSw
                (try dsimp only at hSw)
                go_simp
              simp only [Act.put, List.setIfInBounds_toArray, List.set_cons_zero, List.set_cons_succ]
              refine handRead 1 (some 15) (.int .i64 p) rfl rfl (by kernel_rfl) (by kernel_rfl) (by kernel_rfl) (fun _ _ _ h => h) (by kernel_rfl) (by assumption) ?_ ?_
              · intro w hSw
                (try dsimp only at hSw)
                go_simp
              simp only [Act.put, List.setIfInBounds_toArray, List.set_cons_zero, List.set_cons_succ]
              refine handRead 2 (some 16) (.pointer (some ⟨g1, o1 + p * 3, none⟩)) rfl rfl (by kernel_rfl) (by kernel_rfl) (by kernel_rfl) (fun _ _ _ h => h) (by kernel_rfl) (by assumption) ?_ ?_
              · intro w hSw
                (try dsimp only at hSw)
                go_simp
              simp only [Act.put, List.setIfInBounds_toArray, List.set_cons_zero, List.set_cons_succ]
              refine handRead 3 (some 17) (.pointer (some ⟨g1, o1 + p * 3 + 2, none⟩)) rfl rfl (by kernel_rfl) (by kernel_rfl) (by kernel_rfl) (fun _ _ _ h => h) (by kernel_rfl) (by assumption) ?_ ?_
              · intro w hSw
                (try dsimp only at hSw)
                go_simp
              simp only [Act.put, List.setIfInBounds_toArray, List.set_cons_zero, List.set_cons_succ]
              refine handRead 4 (some 18) (.bool true) rfl rfl (by kernel_rfl) (by kernel_rfl) (by kernel_rfl) (fun _ _ _ h => h) (by kernel_rfl) (by assumption) ?_ ?_
              · intro w hSw
                (try dsimp only at hSw)
                go_simp
              simp only [Act.put, List.setIfInBounds_toArray, List.set_cons_zero, List.set_cons_succ]
              refine handRead 5 (some 19) (.bool true) rfl rfl (by kernel_rfl) (by kernel_rfl) (by kernel_rfl) (fun _ _ _ h => h) (by kernel_rfl) (by assumption) ?_ ?_
              · intro w hSw
                (try dsimp only at hSw)
                go_simp
              simp only [Act.put, List.setIfInBounds_toArray, List.set_cons_zero, List.set_cons_succ]
              refine handRead 6 (some 20) (.int .i64 b) rfl rfl (by kernel_rfl) (by kernel_rfl) (by kernel_rfl) (fun _ _ _ h => h) (by kernel_rfl) (by assumption) ?_ ?_
              · intro w hSw
                (try dsimp only at hSw)
                go_simp
              simp only [Act.put, List.setIfInBounds_toArray, List.set_cons_zero, List.set_cons_succ]
              refine handRead 7 (some 21) (.bool false) rfl rfl (by kernel_rfl) (by kernel_rfl) (by kernel_rfl) (fun _ _ _ h => h) (by kernel_rfl) (by assumption) ?_ ?_
              · intro w hSw
                (try dsimp only at hSw)
                go_simp
              simp only [Act.put, List.setIfInBounds_toArray, List.set_cons_zero, List.set_cons_succ]
              refine handRead 8 (some 22) (.bool false) rfl rfl (by kernel_rfl) (by kernel_rfl) (by kernel_rfl) (fun _ _ _ h => h) (by kernel_rfl) (by assumption) ?_ ?_
              · intro w hSw
                (try dsimp only at hSw)
                go_simp
              simp only [Act.put, List.setIfInBounds_toArray, List.set_cons_zero, List.set_cons_succ]
              refine handRead 9 (some 23) (.slice (some ⟨g1, o1, none⟩) l.length cap1) rfl rfl (by kernel_rfl) (by kernel_rfl) (by kernel_rfl) (fun _ _ _ h => h) (by kernel_rfl) (by assumption) ?_ ?_
              · intro w hSw
                (try dsimp only at hSw)
                go_simp
              simp only [Act.put, List.setIfInBounds_toArray, List.set_cons_zero, List.set_cons_succ]
              refine handRead 10 (some 24) (.int .i64 p) rfl rfl (by kernel_rfl) (by kernel_rfl) (by kernel_rfl) (fun _ _ _ h => h) (by kernel_rfl) (by assumption) ?_ ?_
              · intro w hSw
                (try dsimp only at hSw)
                go_simp
              simp only [Act.put, List.setIfInBounds_toArray, List.set_cons_zero, List.set_cons_succ]
              refine handRead 11 (some 25) (.pointer (some ⟨g1, o1 + p * 3, none⟩)) rfl rfl (by kernel_rfl) (by kernel_rfl) (by kernel_rfl) (fun _ _ _ h => h) (by kernel_rfl) (by assumption) ?_ ?_
              · intro w hSw
                (try dsimp only at hSw)
                go_simp
              simp only [Act.put, List.setIfInBounds_toArray, List.set_cons_zero, List.set_cons_succ]
              refine handRead 12 (some 26) (.agg #[.int .i64 x.id, .int .i64 x.rank, .bool true]) rfl rfl (by kernel_rfl) (by kernel_rfl) (by kernel_rfl) (fun _ _ _ h => h) (by kernel_rfl) (by assumption) ?_ ?_
              · intro w hSw
                (try dsimp only at hSw)
                go_simp
              simp only [Act.put, List.setIfInBounds_toArray, List.set_cons_zero, List.set_cons_succ]
              refine handRead 13 (some 27) (.slice (some ⟨g1, o1, none⟩) l.length cap1) rfl rfl (by kernel_rfl) (by kernel_rfl) (by kernel_rfl) (fun _ _ _ h => h) (by kernel_rfl) (by assumption) ?_ ?_
              · intro w hSw
                (try dsimp only at hSw)
                go_simp
              simp only [Act.put, List.setIfInBounds_toArray, List.set_cons_zero, List.set_cons_succ]
              refine handRead 14 (some 28) (.int .i64 b) rfl rfl (by kernel_rfl) (by kernel_rfl) (by kernel_rfl) (fun _ _ _ h => h) (by kernel_rfl) (by assumption) ?_ ?_
              · intro w hSw
                (try dsimp only at hSw)
                go_simp
              simp only [Act.put, List.setIfInBounds_toArray, List.set_cons_zero, List.set_cons_succ]
              refine handRead 15 (some 29) (.pointer (some ⟨g1, o1 + b * 3, none⟩)) rfl rfl (by kernel_rfl) (by kernel_rfl) (by kernel_rfl) (fun _ _ _ h => h) (by kernel_rfl) (by assumption) ?_ ?_
              · intro w hSw
                (try dsimp only at hSw)
                go_simp
              simp only [Act.put, List.setIfInBounds_toArray, List.set_cons_zero, List.set_cons_succ]
              refine handRead 16 (some 30) (.agg #[.int .i64 y.id, .int .i64 y.rank, .bool y.up]) rfl rfl (by kernel_rfl) (by kernel_rfl) (by kernel_rfl) (fun _ _ _ h => h) (by kernel_rfl) (by assumption) ?_ ?_
              · intro w hSw
                (try dsimp only at hSw)
                go_simp
              simp only [Act.put, List.setIfInBounds_toArray, List.set_cons_zero, List.set_cons_succ]
              refine handCall 17 (some 31) 65 #[.agg #[.int .i64 x.id, .int .i64 x.rank, .bool true], .agg #[.int .i64 y.id, .int .i64 y.rank, .bool y.up]] (by kernel_rfl) rfl rfl (by kernel_rfl) (by simp [go_sem]) ((CB.out _).mono ?_)
              rintro e w1 ⟨rfl, hb1⟩
              have SA1 := SA0.drew.step hb1
              clear hHeld
              refine ⟨_, rfl, (by exact ⟨HP.out _ SA1, HQ.out _ SA1⟩), fun hHeld => ?_⟩
              simp only [Act.put, List.setIfInBounds_toArray, List.set_cons_zero, List.set_cons_succ]
              refine handRead 18 (some 32) (.bool false) rfl rfl (by kernel_rfl) (by kernel_rfl) (by kernel_rfl) (fun _ _ _ h => h) (by kernel_rfl) (by assumption) ?_ ?_
              · intro w hSw
                (try dsimp only at hSw)
                go_simp
              simp only [Act.put, List.setIfInBounds_toArray, List.set_cons_zero, List.set_cons_succ]
              refine handRead 19 (some 33) (.bool false) rfl rfl (by kernel_rfl) (by kernel_rfl) (by kernel_rfl) (fun _ _ _ h => h) (by kernel_rfl) (by assumption) ?_ ?_
              · intro w hSw
                (try dsimp only at hSw)
                go_simp
              simp only [Act.put, List.setIfInBounds_toArray, List.set_cons_zero, List.set_cons_succ]
              refine wpAnyH_done (by kernel_rfl) ?_ _
              go_wp2
              go_roundw
              case rel => exact ⟨k + 1, b, by omega, by go_num, rfl, HK1.out, HS.out.tran SA1⟩
              case measure => simp [intOf]; omega
            | true =>
              have HK1 : Hid (BestPl l beatsB (zs.take (k + 1)) p) := .inr ⟨p, hpl, rfl, by rw [HN.out, hbj]; unfold bestStep; rw [hux]; simp only [if_true, hfb]⟩
              rw [hfb] at CBX
              have HP := HPX
              have HQ := HQX
              have CB := CBX
              generalize l[p] = x at HP CB
              generalize l[j] = y at HQ CB
              generalize hjb : j = b at *
              clear HK HN hp HPX HQX CBX HPL hux hbj hfb hjb
              go_wp2
              have SA0 := Since.start wr
              refine wp_region_held_drew (S := (fun w' => (w'.cell? ⟨g1, o1 + p * 3, none⟩ = some (.int .i64 x.id) ∧ w'.cell? ⟨g1, o1 + p * 3 + 1, none⟩ = some (.int .i64 x.rank) ∧ w'.cell? ⟨g1, o1 + p * 3 + 2, none⟩ = some (.bool true)) ∧ (w'.cell? ⟨g1, o1 + b * 3, none⟩ = some (.int .i64 y.id) ∧ w'.cell? ⟨g1, o1 + b * 3 + 1, none⟩ = some (.int .i64 y.rank) ∧ w'.cell? ⟨g1, o1 + b * 3 + 2, none⟩ = some (.bool y.up)))) (by kernel_rfl) ?_ (fun hHeld => ?_)
              · exact ⟨HP.out _ SA0.drew, HQ.out _ SA0.drew⟩
              refine handRead 0 (some 14) (.slice (some ⟨g1, o1, none⟩) l.length cap1) rfl rfl (by kernel_rfl) (by kernel_rfl) (by kernel_rfl) (fun _ _ _ h => h) (by kernel_rfl) (by assumption) ?_ ?_
              · intro w hSw
                (try dsimp only at hSw)
                go_simp
              simp only [Act.put, List.setIfInBounds_toArray, List.set_cons_zero, List.set_cons_succ]
              refine handRead 1 (some 15) (.int .i64 p) rfl rfl (by kernel_rfl) (by kernel_rfl) (by kernel_rfl) (fun _ _ _ h => h) (by kernel_rfl) (by assumption) ?_ ?_
              · intro w hSw
                (try dsimp only at hSw)
                go_simp
              simp only [Act.put, List.setIfInBounds_toArray, List.set_cons_zero, List.set_cons_succ]
              refine handRead 2 (some 16) (.pointer (some ⟨g1, o1 + p * 3, none⟩)) rfl rfl (by kernel_rfl) (by kernel_rfl) (by kernel_rfl) (fun _ _ _ h => h) (by kernel_rfl) (by assumption) ?_ ?_
              · intro w hSw
                (try dsimp only at hSw)
                go_simp
              simp only [Act.put, List.setIfInBounds_toArray, List.set_cons_zero, List.set_cons_succ]
              refine handRead 3 (some 17) (.pointer (some ⟨g1, o1 + p * 3 + 2, none⟩)) rfl rfl (by kernel_rfl) (by kernel_rfl) (by kernel_rfl) (fun _ _ _ h => h) (by kernel_rfl) (by assumption) ?_ ?_
              · intro w hSw
                (try dsimp only at hSw)
                go_simp
              simp only [Act.put, List.setIfInBounds_toArray, List.set_cons_zero, List.set_cons_succ]
              refine handRead 4 (some 18) (.bool true) rfl rfl (by kernel_rfl) (by kernel_rfl) (by kernel_rfl) (fun _ _ _ h => h) (by kernel_rfl) (by assumption) ?_ ?_
              · intro w hSw
                (try dsimp only at hSw)
                go_simp
              simp only [Act.put, List.setIfInBounds_toArray, List.set_cons_zero, List.set_cons_succ]
              refine handRead 5 (some 19) (.bool true) rfl rfl (by kernel_rfl) (by kernel_rfl) (by kernel_rfl) (fun _ _ _ h => h) (by kernel_rfl) (by assumption) ?_ ?_
              · intro w hSw
                (try dsimp only at hSw)
                go_simp
              simp only [Act.put, List.setIfInBounds_toArray, List.set_cons_zero, List.set_cons_succ]
              refine handRead 6 (some 20) (.int .i64 b) rfl rfl (by kernel_rfl) (by kernel_rfl) (by kernel_rfl) (fun _ _ _ h => h) (by kernel_rfl) (by assumption) ?_ ?_
              · intro w hSw
                (try dsimp only at hSw)
                go_simp
              simp only [Act.put, List.setIfInBounds_toArray, List.set_cons_zero, List.set_cons_succ]
              refine handRead 7 (some 21) (.bool false) rfl rfl (by kernel_rfl) (by kernel_rfl) (by kernel_rfl) (fun _ _ _ h => h) (by kernel_rfl) (by assumption) ?_ ?_
              · intro w hSw
                (try dsimp only at hSw)
                go_simp
              simp only [Act.put, List.setIfInBounds_toArray, List.set_cons_zero, List.set_cons_succ]
              refine handRead 8 (some 22) (.bool false) rfl rfl (by kernel_rfl) (by kernel_rfl) (by kernel_rfl) (fun _ _ _ h => h) (by kernel_rfl) (by assumption) ?_ ?_
              · intro w hSw
                (try dsimp only at hSw)
                go_simp
              simp only [Act.put, List.setIfInBounds_toArray, List.set_cons_zero, List.set_cons_succ]
              refine handRead 9 (some 23) (.slice (some ⟨g1, o1, none⟩) l.length cap1) rfl rfl (by kernel_rfl) (by kernel_rfl) (by kernel_rfl) (fun _ _ _ h => h) (by kernel_rfl) (by assumption) ?_ ?_
              · intro w hSw
                (try dsimp only at hSw)
                go_simp
              simp only [Act.put, List.setIfInBounds_toArray, List.set_cons_zero, List.set_cons_succ]
              refine handRead 10 (some 24) (.int .i64 p) rfl rfl (by kernel_rfl) (by kernel_rfl) (by kernel_rfl) (fun _ _ _ h => h) (by kernel_rfl) (by assumption) ?_ ?_
              · intro w hSw
                (try dsimp only at hSw)
                go_simp
              simp only [Act.put, List.setIfInBounds_toArray, List.set_cons_zero, List.set_cons_succ]
              refine handRead 11 (some 25) (.pointer (some ⟨g1, o1 + p * 3, none⟩)) rfl rfl (by kernel_rfl) (by kernel_rfl) (by kernel_rfl) (fun _ _ _ h => h) (by kernel_rfl) (by assumption) ?_ ?_
              · intro w hSw
                (try dsimp only at hSw)
                go_simp
              simp only [Act.put, List.setIfInBounds_toArray, List.set_cons_zero, List.set_cons_succ]
              refine handRead 12 (some 26) (.agg #[.int .i64 x.id, .int .i64 x.rank, .bool true]) rfl rfl (by kernel_rfl) (by kernel_rfl) (by kernel_rfl) (fun _ _ _ h => h) (by kernel_rfl) (by assumption) ?_ ?_
              · intro w hSw
                (try dsimp only at hSw)
                go_simp
              simp only [Act.put, List.setIfInBounds_toArray, List.set_cons_zero, List.set_cons_succ]
              refine handRead 13 (some 27) (.slice (some ⟨g1, o1, none⟩) l.length cap1) rfl rfl (by kernel_rfl) (by kernel_rfl) (by kernel_rfl) (fun _ _ _ h => h) (by kernel_rfl) (by assumption) ?_ ?_
              · intro w hSw
                (try dsimp only at hSw)
                go_simp
              simp only [Act.put, List.setIfInBounds_toArray, List.set_cons_zero, List.set_cons_succ]
              refine handRead 14 (some 28) (.int .i64 b) rfl rfl (by kernel_rfl) (by kernel_rfl) (by kernel_rfl) (fun _ _ _ h => h) (by kernel_rfl) (by assumption) ?_ ?_
              · intro w hSw
                (try dsimp only at hSw)
                go_simp
              simp only [Act.put, List.setIfInBounds_toArray, List.set_cons_zero, List.set_cons_succ]
              refine handRead 15 (some 29) (.pointer (some ⟨g1, o1 + b * 3, none⟩)) rfl rfl (by kernel_rfl) (by kernel_rfl) (by kernel_rfl) (fun _ _ _ h => h) (by kernel_rfl) (by assumption) ?_ ?_
              · intro w hSw
                (try dsimp only at hSw)
                go_simp
              simp only [Act.put, List.setIfInBounds_toArray, List.set_cons_zero, List.set_cons_succ]
              refine handRead 16 (some 30) (.agg #[.int .i64 y.id, .int .i64 y.rank, .bool y.up]) rfl rfl (by kernel_rfl) (by kernel_rfl) (by kernel_rfl) (fun _ _ _ h => h) (by kernel_rfl) (by assumption) ?_ ?_
              · intro w hSw
                (try dsimp only at hSw)
                go_simp
              simp only [Act.put, List.setIfInBounds_toArray, List.set_cons_zero, List.set_cons_succ]
              refine handCall 17 (some 31) 65 #[.agg #[.int .i64 x.id, .int .i64 x.rank, .bool true], .agg #[.int .i64 y.id, .int .i64 y.rank, .bool y.up]] (by kernel_rfl) rfl rfl (by kernel_rfl) (by simp [go_sem]) ((CB.out _).mono ?_)
              rintro e w1 ⟨rfl, hb1⟩
              have SA1 := SA0.drew.step hb1
              clear hHeld
              refine ⟨_, rfl, (by exact ⟨HP.out _ SA1, HQ.out _ SA1⟩), fun hHeld => ?_⟩
              simp only [Act.put, List.setIfInBounds_toArray, List.set_cons_zero, List.set_cons_succ]
              refine handRead 18 (some 32) (.bool true) rfl rfl (by kernel_rfl) (by kernel_rfl) (by kernel_rfl) (fun _ _ _ h => h) (by kernel_rfl) (by assumption) ?_ ?_
              · intro w hSw
                (try dsimp only at hSw)
                go_simp
              simp only [Act.put, List.setIfInBounds_toArray, List.set_cons_zero, List.set_cons_succ]
              refine handRead 19 (some 33) (.bool true) rfl rfl (by kernel_rfl) (by kernel_rfl) (by kernel_rfl) (fun _ _ _ h => h) (by kernel_rfl) (by assumption) ?_ ?_
              · intro w hSw
                (try dsimp only at hSw)
                go_simp
              simp only [Act.put, List.setIfInBounds_toArray, List.set_cons_zero, List.set_cons_succ]
              refine wpAnyH_done (by kernel_rfl) ?_ _
              go_wp2
              go_roundw
              case rel => exact ⟨k + 1, p, by omega, by go_num, rfl, HK1.out, HS.out.tran SA1⟩
              case measure => simp [intOf]; omega
      · have hlt' : ¬ (k : Int) < (zs.length : Int) := by omega
        have en : zs.take k = zs := List.take_of_length_le (by omega)
        rw [en] at HK
        clear en
        have HF : Hid (Below W.heap.size W wr) := HK.out.2.1
        rcases HK.out.1 with ⟨hb0, rfl⟩ | ⟨j, hj, rfl, hbj⟩
        · have HE : Hid (0 = bestId (bestOf beatsB (atPl l zs))) := by show _ = _; rw [hb0]; rfl
          clear HK hb0
          go_wp2
          go_ret
          exact ⟨retI HE.out, HF.out⟩
        · have HE : Hid (l[j].id = bestId (bestOf beatsB (atPl l zs))) := by show _ = _; rw [hbj]; rfl
          have hjl' : (j : Int) < (l.length : Int) := by omega
          have hjn : ¬ (j : Int) < 0 := by omega
          obtain ⟨y0, y1, y2⟩ := HC1.out wr HK.out.2 j hj
          clear HK hbj
          go_wp2
          go_ret
          exact ⟨retI HE.out, HF.out⟩
end Go.Proofs.Ythdcfeafkellcab
