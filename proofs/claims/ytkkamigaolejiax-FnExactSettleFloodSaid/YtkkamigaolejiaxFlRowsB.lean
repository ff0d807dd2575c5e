/-
  'l6Rows' of the model.
-/
import Derived.Test.YtkkamigaolejiaxFlRows
namespace Go.Proofs.Ytkkamigaolejiax
open Go.RowKit
set_option linter.unusedVariables false

/-- A list of lists that a call owns, and a list of numbers beside it. -/
theorem grown_own {w w' : World} {B B2 : Nat} {v v' u : Value} {vs xs : List Value} {zs : List Int} {o : Obj} {n : Nat} (ho : w.ownsRow B 60 1 v vs.length vs) (hu : Own w B2 u zs) (hg : Grown (w.alloc o) B 60 1 v n xs v' w') : Own w' B2 u zs :=
  rowGrow (rowBelow hu ((Below.refl _ w).alloc (Nat.le_refl _) _)) hg.grown fun k hk hk2 => rowsApart ho hu (by decide) k hk hk2

/-- Two numbers in a block of their own. -/
theorem own_pair (w : World) (B : Nat) (x y : Int) (hB : B ≤ w.heap.size) : Own (w.alloc (.cells #[.int .i64 x, .int .i64 y] 3)) B (.slice (some ⟨w.heap.size, 0, none⟩) 2 2) [x, y] := by
  exact ⟨rfl, .inr ⟨w.heap.size, 2, #[.int .i64 x, .int .i64 y], rfl, hB, heap_alloc_new w _, Nat.le_refl _, by decide, rfl, rfl⟩⟩

set_option maxRecDepth 100000 in
set_option maxHeartbeats 4000000 in
theorem l6Rows_any (W : World) (v : Value) (lks : List (List Int)) (n : Nat) (h : ReadsSS W v lks) (h2 : ∀ j (hj : j < lks.length), lks[j].length = 2) (hl : lks.length ≤ 15) (hn : n ≤ 6) :
    Calls Try.prog 38 #[.int .i64 (n : Int), v] W fun e W' => ∃ v' vs, e = .returned v' ∧ OwnSS W' W.heap.size v' vs (rowsL n lks) ∧ Below W.heap.size W W' := by
  have CN : Hid (∀ W1, Since W.heap.size W W1 → ∀ b : Int, Calls Try.prog 70 #[v, .int .i64 b] W1 fun e W' => ∃ v', e = .returned v' ∧ Own W' W1.heap.size v' (nearL lks b) ∧ Below W1.heap.size W1 W') := fun W1 hS b => l6Near_any W1 v lks b (h.below hS.1) h2 hl
  have HS0 : Hid (∃ vs, OwnSS W W.heap.size (.slice none 0 0) vs (rowsTo lks 0) ∧ Since W.heap.size W W) := ⟨[], OwnSS.nil W _, Since.start W⟩
  have HLN : Hid (∀ k, k ≤ 6 → (rowsTo lks k).length ≤ 180) := fun k hk => Nat.le_trans (rowsTo_len lks k) (Nat.le_trans (Nat.mul_le_mul hk (Nat.mul_le_mul (Nat.le_refl 2) hl)) (by decide))
  have HNL : Hid (∀ b : Int, (nearL lks b).length ≤ 30) := fun b => by have := near_len b lks []; unfold nearL; simp only [List.length_nil] at this; omega
  obtain ⟨av, cv, rfl⟩ := h.shape
  clear h h2
  generalize lks.length = ll at *
  go_enter Try.func38, Try.ntmps38
  go_wp2
  go_loopw [5, 6] (fun d i wr => ∃ k : Nat, k ≤ n ∧ i = .int .i64 k ∧ Hid (∃ vs, OwnSS wr W.heap.size d vs (rowsTo lks k) ∧ Since W.heap.size W wr)) (fun _ i _ => n - (intOf i).toNat)
  case atStart => exact ⟨0, Nat.zero_le _, rfl, HS0⟩
  case round =>
    obtain ⟨k, hk, rfl, HK⟩ := hrel
    obtain ⟨vs, hos, hsi⟩ := HK.out
    obtain ⟨ad, cd, hd⟩ := hos.shape
    subst hd
    have HO : Hid (OwnSS wr W.heap.size (.slice ad (rowsTo lks k).length cd) vs (rowsTo lks k)) := hos
    have HS : Hid (Since W.heap.size W wr) := hsi
    clear hos hsi HK
    by_cases hlt : k < n
    · have hlt' : (k : Int) < (n : Int) := by omega
      have CC : Hid (Calls Try.prog 70 #[.slice av ll cv, .int .i64 (k : Int)] wr fun e W' => ∃ v', e = .returned v' ∧ Own W' wr.heap.size v' (nearL lks (k : Int)) ∧ Below wr.heap.size wr W') := CN.out wr HS.out k
      have HRL : Hid ((rowsTo lks k).length ≤ 180) := HLN.out k (by omega)
      have HNK : Hid ((nearL lks (k : Int)).length ≤ 30) := HNL.out k
      have HNX : Hid (rowsTo lks (k + 1) = rowsTo lks k ++ (nearL lks (k : Int)).map fun t => [(k : Int), t]) := rowsTo_next lks k
      generalize hnx : rowsTo lks (k + 1) = nxt at *
      have HNQ : Hid (rowsTo lks (k + 1) = nxt) := hnx
      clear hnx
      generalize rowsTo lks k = acc at *
      generalize nearL lks (k : Int) = nr at *
      generalize hal : acc.length = al at *
      go_wp2_with fail
      refine CC.out.mono ?_
      rintro e w1 ⟨v1, rfl, ho1, hb1⟩
      obtain ⟨an, cn, hv1⟩ := ho1.shape
      subst hv1
      have HI0 : Hid (∃ us, OwnSS w1 W.heap.size (.slice ad al cd) us (acc ++ (nr.take 0).map fun t => [(k : Int), t]) ∧ Since W.heap.size W w1 ∧ Own w1 wr.heap.size (.slice an nr.length cn) nr) := ⟨vs, by simpa using HO.out.below hb1, HS.out.step hb1, ho1⟩
      clear ho1 hb1 CC HO
      by_cases hz : nr = []
      · subst hz
        have HF : Hid (∃ us, OwnSS w1 W.heap.size (.slice ad al cd) us nxt ∧ Since W.heap.size W w1) := by
          obtain ⟨us, h1, h2, -⟩ := HI0.out
          exact ⟨us, by rw [HNX.out]; simpa using h1, h2⟩
        simp only [List.length_nil] at *
        clear HI0 HNX
        go_wp2
        refine wp_loop_rounds 1 ?_
        rw [rounds_succ]
        go_wp2
        go_roundw
        case rel => exact ⟨k + 1, by omega, by go_num, by rw [HNQ.out]; exact HF⟩
        case measure => simp [intOf]; omega
      · obtain ⟨gn, rfl⟩ : ∃ gn, an = some ⟨gn, 0, none⟩ := by
          obtain ⟨us, -, -, h3⟩ := HI0.out
          rcases h3.2 with ⟨hv, hn0⟩ | ⟨g, cap, cur, hv, -⟩
          · exact absurd (List.eq_nil_of_length_eq_zero hn0) hz
          · simp only [Value.slice.injEq] at hv
            exact ⟨g, hv.1⟩
        have hnz : nr.length ≤ 30 := HNK.out
        go_wp2
        go_loopw [5, 18] (fun d i wr2 => ∃ t : Nat, t ≤ nr.length ∧ i = .int .i64 t ∧ Hid (∃ us, OwnSS wr2 W.heap.size d us (acc ++ (nr.take t).map fun t => [(k : Int), t]) ∧ Since W.heap.size W wr2 ∧ Own wr2 wr.heap.size (.slice (some ⟨gn, 0, none⟩) nr.length cn) nr)) (fun _ i _ => nr.length - (intOf i).toNat)
        case atStart => exact ⟨0, Nat.zero_le _, rfl, HI0⟩
        case round =>
          obtain ⟨t, ht, rfl, HT⟩ := hrel
          obtain ⟨us, hou, hsu, hnu⟩ := HT.out
          obtain ⟨ae, ce, he⟩ := hou.shape
          subst he
          by_cases hlt2 : t < nr.length
          · have hlt2' : (t : Int) < (nr.length : Int) := by omega
            have hcell : wr.cell? ⟨gn, t, none⟩ = some (.int .i64 nr[t]) := by
              have := World.ownsRow.cellAt hnu t (by omega)
              rw [this, List.getElem?_map, List.getElem?_eq_getElem hlt2]
              rfl
            have HNT : Hid (acc ++ (nr.take (t + 1)).map (fun t => [(k : Int), t]) = (acc ++ (nr.take t).map fun t => [(k : Int), t]) ++ [[(k : Int), nr[t]]]) := by
              show _ = _
              rw [List.take_succ_eq_append_getElem hlt2, List.map_append, List.append_assoc]
              rfl
            have HQL : Hid ((acc ++ (nr.take t).map fun t => [(k : Int), t]).length ≤ 1048576) := by
              have h1 := HRL.out
              show _ ≤ _
              simp
              omega
            generalize nr[t] = z at *
            have HEX : Hid (∃ us', us'.length ≤ 1048576 ∧ wr.heap.size + 1 = wr.heap.size + 1 ∧ us' = us) := ⟨us, by have := HQL.out; rw [← hou.len] at this; exact this, rfl, rfl⟩
            have HUL : Hid (us.length ≤ 1048576) := by obtain ⟨us', h1, -, h3⟩ := HEX.out; rw [← h3]; exact h1
            have HOU : Hid (OwnSS wr W.heap.size (.slice ae (acc ++ (nr.take t).map fun t => [(k : Int), t]).length ce) us (acc ++ (nr.take t).map fun t => [(k : Int), t])) := hou
            have HSU : Hid (Since W.heap.size W wr) := hsu
            have HNU : Hid (Own wr _ (.slice (some ⟨gn, 0, none⟩) nr.length cn) nr) := hnu
            have HO2 : Hid (OwnSS (wr.alloc (.cells #[.int .i64 (k : Int), .int .i64 z] 3)) W.heap.size (.slice ae (acc ++ (nr.take t).map fun t => [(k : Int), t]).length ce) us (acc ++ (nr.take t).map fun t => [(k : Int), t])) := hou.below ((Below.refl _ wr).alloc (Nat.le_refl _) _)
            have HS2 : Hid (Since W.heap.size W (wr.alloc (.cells #[.int .i64 (k : Int), .int .i64 z] 3))) := hsu.step ((Below.refl _ wr).alloc (Nat.le_refl _) _)
            have HN2 : Hid (Own (wr.alloc (.cells #[.int .i64 (k : Int), .int .i64 z] 3)) _ (.slice (some ⟨gn, 0, none⟩) nr.length cn) nr) := hnu.below ((Below.refl _ wr).alloc (Nat.le_refl _) _)
            have HP2 : Hid (Own (wr.alloc (.cells #[.int .i64 (k : Int), .int .i64 z] 3)) W.heap.size (.slice (some ⟨wr.heap.size, 0, none⟩) 2 2) [(k : Int), z]) := own_pair wr _ _ _ hsu.2
            have HAPA : Hid (∀ j (hj : j < us.length), ∀ b, us[j].ownBlock = some b → (Value.slice (some ⟨wr.heap.size, 0, none⟩) 2 2).ownBlock ≠ some b) := fun j hj b hb hb2 => by
              have := (World.ownsRow.lt (hou.inner j hj) b hb).2
              simp [Value.ownBlock] at hb2
              omega
            clear hou hsu hnu HT HEX
            generalize acc ++ (nr.take t).map (fun t => [(k : Int), t]) = qs at *
            have hw2s : (wr.alloc (.cells #[.int .i64 (k : Int), .int .i64 z] 3)).heap.size = wr.heap.size + 1 := by simp
            have HAP : Hid (∀ ty, ∃ v' w', (Builtin.append_ #[22, 22] ty #[.slice ae qs.length ce, .slice (some ⟨wr.heap.size + 1, 0, none⟩) 1 1]).run Try.prog ((wr.alloc (.cells #[.int .i64 (k : Int), .int .i64 z] 3)).alloc (.cells #[.slice (some ⟨wr.heap.size, 0, none⟩) 2 2] 60)) = .ok v' w' ∧ Grown ((wr.alloc (.cells #[.int .i64 (k : Int), .int .i64 z] 3)).alloc (.cells #[.slice (some ⟨wr.heap.size, 0, none⟩) 2 2] 60)) W.heap.size 60 1 (.slice ae qs.length ce) (us ++ [Value.slice (some ⟨wr.heap.size, 0, none⟩) 2 2]).length (us ++ [Value.slice (some ⟨wr.heap.size, 0, none⟩) 2 2]) v' w') := fun ty => by
              have := run_appSS (wr.alloc (.cells #[.int .i64 (k : Int), .int .i64 z] 3)) W.heap.size (.slice ae qs.length ce) us (some ⟨wr.heap.size, 0, none⟩) 2 2 (by have := HO2.out.row; exact this) HUL.out HS2.out.2 ty
              rw [hw2s] at this
              exact this
            clear hw2s
            go_wp2_with (at_builtin; refine list_app (by rfl) (.tmp 22) (.tmp 26) 22 (by rfl) (.slice ae qs.length ce) (.slice (some ⟨wr.heap.size + 1, 0, none⟩) 1 1) (by rfl) (by rfl) _ HAP.out ?_; intro v7 w7 hg7; have HF : Hid (∃ us', OwnSS w7 W.heap.size v7 us' (acc ++ (nr.take (t + 1)).map fun t => [(k : Int), t]) ∧ Since W.heap.size W w7 ∧ Own w7 _ (.slice (some ⟨gn, 0, none⟩) nr.length cn) nr) := ⟨_, by rw [HNT.out]; exact HO2.out.add HP2.out HAPA.out hg7, ⟨(HS2.out.1.alloc HS2.out.2 _).trans hg7.below, Nat.le_trans HS2.out.2 (Nat.le_trans (by simp) hg7.size)⟩, grown_own HO2.out.row HN2.out hg7⟩; clear hg7)
            go_roundw
            case rel => exact ⟨t + 1, by omega, by go_num, HF⟩
            case measure => simp [intOf]; omega
          · have hlt2' : ¬ (t : Int) < (nr.length : Int) := by omega
            have HF : Hid (∃ us, OwnSS wr W.heap.size (.slice ae (acc ++ (nr.take t).map fun t => [(k : Int), t]).length ce) us nxt ∧ Since W.heap.size W wr) := by
              have e : nr.take t = nr := List.take_of_length_le (by omega)
              refine ⟨us, ?_, hsu⟩
              rw [HNX.out]
              rw [e] at hou ⊢
              exact hou
            clear HT hou hsu hnu
            generalize (acc ++ (nr.take t).map fun t => [(k : Int), t]).length = qn at *
            go_wp2
            go_roundw
            case rel => exact ⟨k + 1, by omega, by go_num, by rw [HNQ.out]; exact HF⟩
            case measure => simp [intOf]; omega
    · have hlt' : ¬ (k : Int) < (n : Int) := by omega
      have e : k = n := by omega
      subst e
      generalize (rowsTo lks k).length = rl at *
      go_wp2
      go_ret
      exact ⟨_, rfl, ⟨vs, HO.out⟩, HS.out.1⟩
end Go.Proofs.Ytkkamigaolejiax
