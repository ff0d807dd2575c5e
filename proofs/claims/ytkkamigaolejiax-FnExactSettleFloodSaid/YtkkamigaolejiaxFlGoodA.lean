/-
  'debtsOf', 'areRows', 'isGoodLetter' of the program.
-/
import Derived.Test.YtkkamigaolejiaxFlLinksB
import Derived.WideShapes
namespace Go.Proofs.Ytkkamigaolejiax
open Go.RowKit
set_option linter.unusedVariables false

/-- 'append(l, x)' of one debt that lies in a block of its own. -/
theorem run_appDbD (w : World) (B : Nat) (v : Value) (hs : List DbD) (x : DbD) (hown : OwnDb w B v hs) (hl : hs.length ≤ 1048576) (hB : B ≤ w.heap.size) (ty : TypeId) :
    ∃ v' w', (Builtin.append_ #[86, 86] ty #[v, .slice (some ⟨w.heap.size, 0, none⟩) 1 1]).run Try.prog (w.alloc (.cells #[.int .i64 x.p, .int .i64 x.q] 99)) = .ok v' w' ∧ Grown (w.alloc (.cells #[.int .i64 x.p, .int .i64 x.q] 99)) B 99 2 v (hs ++ [x]).length (cellsDb (hs ++ [x])) v' w' := by
  refine run_appDb _ B v hs (hown.below ((Below.refl _ w).alloc (Nat.le_refl _) _)) _ [x] (.inr ⟨_, 1, rfl, fun j u hu => ?_⟩) (by simp; omega) (by simp; omega) ty
  have hc : cellsDb [x] = [.int .i64 x.p, .int .i64 x.q] := rfl
  rw [hc] at hu
  rw [Go.WideShapes.add_plain, Nat.zero_add, World.cell?_alloc_at _ _ _ _ rfl]
  simpa using hu

set_option maxRecDepth 100000 in
set_option maxHeartbeats 4000000 in
theorem debtsOf_any (W : World) (v : Value) (lks : List (List Int)) (n : Nat) (h : ReadsSS W v lks) (h2 : ∀ j (hj : j < lks.length), lks[j].length = 2) (hl : lks.length ≤ 4194304) (hn : n ≤ 6) :
    Calls Try.prog 59 #[.int .i64 (n : Int), v] W fun e W' => ∃ v', e = .returned v' ∧ OwnDb W' W.heap.size v' (debtsL n lks) ∧ Below W.heap.size W W' := by
  have CJ : Hid (∀ W1, Since W.heap.size W W1 → ∀ a b : Int, Calls Try.prog 77 #[v, .int .i64 a, .int .i64 b] W1 fun e W' => e = .returned (.bool (joinedB lks a b)) ∧ W' = W1) := fun W1 hS a b => areJoined_any W1 v lks a b (h.below hS.1) h2 hl
  have HS0 : Hid (OwnDb W W.heap.size (.slice none 0 0) (debtsTo n lks 0) ∧ Since W.heap.size W W) := ⟨OwnDb.nil W _, Since.start W⟩
  obtain ⟨av, cv, rfl⟩ := h.shape
  clear h h2
  generalize lks.length = ll at *
  go_enter Try.func59, Try.ntmps59
  go_wp2
  go_loopw [5, 9] (fun d i wr => ∃ k : Nat, k ≤ n ∧ i = .int .i64 k ∧ Hid (OwnDb wr W.heap.size d (debtsTo n lks k) ∧ Since W.heap.size W wr)) (fun _ i _ => n - (intOf i).toNat)
  case atStart => exact ⟨0, Nat.zero_le _, rfl, HS0⟩
  case round =>
    obtain ⟨k, hk, rfl, HK⟩ := hrel
    obtain ⟨ad, cd, hd⟩ := HK.out.1.shape
    subst hd
    by_cases hlt : k < n
    · have hlt' : (k : Int) < (n : Int) := by omega
      have HI0 : Hid (OwnDb wr W.heap.size (.slice ad (debtsTo n lks k).length cd) (debtsTo n lks k ++ innerD lks k 0) ∧ Since W.heap.size W wr) := by
        have e : innerD lks k 0 = [] := rfl
        show _ ∧ _
        rw [e, List.append_nil]
        exact HK.out
      have HLN : Hid ((debtsTo n lks k).length ≤ 36) := Nat.le_trans (debtsTo_len n lks k) (by have : k * n ≤ 6 * 6 := Nat.mul_le_mul (by omega) hn; omega)
      clear HK
      generalize (debtsTo n lks k).length = dl0 at *
      go_wp2
      go_loopw [5, 13] (fun d i wr2 => ∃ t : Nat, t ≤ n ∧ i = .int .i64 t ∧ Hid (OwnDb wr2 W.heap.size d (debtsTo n lks k ++ innerD lks k t) ∧ Since W.heap.size W wr2)) (fun _ i _ => n - (intOf i).toNat)
      case atStart => exact ⟨0, Nat.zero_le _, rfl, HI0⟩
      case round =>
        obtain ⟨t, ht, rfl, HT⟩ := hrel
        obtain ⟨ae, ce, he⟩ := HT.out.1.shape
        subst he
        by_cases hlt2 : t < n
        · have hlt2' : (t : Int) < (n : Int) := by omega
          have CC := CJ.out _ HT.out.2 (k : Int) (t : Int)
          cases hj : joinedB lks (k : Int) (t : Int) with
          | true =>
            rw [hj] at CC
            have HCC : Hid (Calls Try.prog 77 #[.slice av ll cv, .int .i64 (k : Int), .int .i64 (t : Int)] wr fun e W' => e = .returned (.bool true) ∧ W' = wr) := CC
            have HNX : Hid (debtsTo n lks k ++ innerD lks k (t + 1) = (debtsTo n lks k ++ innerD lks k t) ++ [(⟨(k : Int), (t : Int)⟩ : DbD)]) := by show _ = _; rw [innerD_next, if_pos hj, List.append_assoc]
            have HLE : Hid ((debtsTo n lks k ++ innerD lks k t).length ≤ 1048576) := by
              have h1 := innerD_len lks k t
              have h3 := debtsTo_len n lks k
              have h4 : k * n ≤ 6 * 6 := Nat.mul_le_mul (by omega) hn
              show _ ≤ _
              rw [List.length_append]; omega
            clear CC hj
            generalize debtsTo n lks k ++ innerD lks k t = qs at *
            have HAP : Hid (∀ ty, ∃ v' w', (Builtin.append_ #[86, 86] ty #[.slice ae qs.length ce, .slice (some ⟨wr.heap.size, 0, none⟩) 1 1]).run Try.prog (wr.alloc (.cells #[.int .i64 (k : Int), .int .i64 (t : Int)] 99)) = .ok v' w' ∧ Grown (wr.alloc (.cells #[.int .i64 (k : Int), .int .i64 (t : Int)] 99)) W.heap.size 99 2 (.slice ae qs.length ce) (qs ++ [(⟨(k : Int), (t : Int)⟩ : DbD)]).length (cellsDb (qs ++ [(⟨(k : Int), (t : Int)⟩ : DbD)])) v' w') := fun ty => run_appDbD _ _ _ qs ⟨(k : Int), (t : Int)⟩ HT.out.1 HLE.out HT.out.2.2 ty
            go_wp2_with fail
            refine HCC.out.mono ?_
            rintro e w' ⟨rfl, rfl⟩
            go_wp2_with (at_builtin; refine list_app (by rfl) (.tmp 20) (.tmp 24) 86 (by rfl) (.slice ae qs.length ce) (.slice (some ⟨w'.heap.size, 0, none⟩) 1 1) (by rfl) (by rfl) _ HAP.out ?_; intro v7 w7 hg7; have HF : Hid (OwnDb w7 W.heap.size v7 (debtsTo n lks k ++ innerD lks k (t + 1)) ∧ Since W.heap.size W w7) := ⟨by rw [HNX.out]; exact hg7.own, (HT.out.2.1.alloc HT.out.2.2 _).trans hg7.below, Nat.le_trans HT.out.2.2 (Nat.le_trans (by simp) hg7.size)⟩; clear hg7)
            go_roundw
            case rel => exact ⟨t + 1, by omega, by go_num, HF⟩
            case measure => simp [intOf]; omega
          | false =>
            rw [hj] at CC
            have HCC : Hid (Calls Try.prog 77 #[.slice av ll cv, .int .i64 (k : Int), .int .i64 (t : Int)] wr fun e W' => e = .returned (.bool false) ∧ W' = wr) := CC
            have HNX : Hid (debtsTo n lks k ++ innerD lks k (t + 1) = debtsTo n lks k ++ innerD lks k t) := by show _ = _; rw [innerD_next, if_neg (by rw [hj]; decide), List.append_nil]
            clear CC hj
            generalize debtsTo n lks k ++ innerD lks k t = qs at *
            go_wp2_with fail
            refine HCC.out.mono ?_
            rintro e w' ⟨rfl, rfl⟩
            go_wp2
            go_roundw
            case rel => exact ⟨t + 1, by omega, by go_num, by rw [HNX.out]; exact HT.out⟩
            case measure => simp [intOf]; omega
        · have hlt2' : ¬ (t : Int) < (n : Int) := by omega
          have e : t = n := by omega
          subst e
          have HF : Hid (OwnDb wr W.heap.size (.slice ae (debtsTo t lks k ++ innerD lks k t).length ce) (debtsTo t lks (k + 1)) ∧ Since W.heap.size W wr) := by
            show _ ∧ _
            rw [debtsTo_next]
            exact HT.out
          clear HT
          generalize (debtsTo t lks k ++ innerD lks k t).length = qn at *
          go_wp2
          go_roundw
          case rel => exact ⟨k + 1, by omega, by go_num, HF⟩
          case measure => simp [intOf]; omega
    · have hlt' : ¬ (k : Int) < (n : Int) := by omega
      have e : k = n := by omega
      subst e
      go_wp2
      go_ret
      exact ⟨_, rfl, HK.out.1, HK.out.2.1⟩

set_option maxRecDepth 100000 in
set_option maxHeartbeats 2000000 in
theorem areRows_any (W : World) (v : Value) (rows : List (List Int)) (many long top : Int) (h : ReadsSS W v rows) (hl : rows.length ≤ 4194304) (hin : ∀ j (hj : j < rows.length), rows[j].length ≤ 4194304) :
    Calls Try.prog 58 #[v, .int .i64 many, .int .i64 long, .int .i64 top] W fun e W' => e = .returned (.bool (rowsB rows many long top)) ∧ W' = W := by
  obtain ⟨a1, cap1, rfl, hc1⟩ := h
  by_cases hm : (rows.length : Int) = many
  · have HR : Hid (rowsB rows many long top = rows.all (rowB long top)) := by show _ = _; unfold rowsB; rw [decide_eq_true hm]; rfl
    rw [HR.out]
    subst hm
    rcases hc1 with hz | ⟨g1, o1, rfl, hg1, hc1⟩
    · subst hz
      simp only [List.length_nil]
      go_enter Try.func58, Try.ntmps58
      go_wp2
      refine wp_loop_rounds 1 ?_
      rw [rounds_succ]
      go_wp2
      go_ret
      exact ⟨rfl, rfl⟩
    · have HC1 : Hid (∀ j (hj : j < rows.length), ∃ u, W.cell? ⟨g1, o1 + j, none⟩ = some u ∧ Reads W u rows[j]) := hc1
      have HIN : Hid (∀ j (hj : j < rows.length), rows[j].length ≤ 4194304) := hin
      clear hc1 hg1 hin HR
      go_enter Try.func58, Try.ntmps58
      go_wp2
      go_loop [19] (fun i => ∃ k : Nat, k ≤ rows.length ∧ i = .int .i64 k ∧ Hid (∀ j (hj : j < rows.length), j < k → rowB long top rows[j] = true)) (fun i => rows.length - (intOf i).toNat)
      case atStart => exact ⟨0, Nat.zero_le _, rfl, fun j hj h => absurd h (Nat.not_lt_zero _)⟩
      case round =>
        obtain ⟨k, hk, rfl, HA⟩ := hrel
        by_cases hlt : k < rows.length
        · obtain ⟨u, hu, hr⟩ := HC1.out k hlt
          have hlt' : (k : Int) < (rows.length : Int) := by omega
          have HNO : Hid (rowB long top rows[k] = false → rows.all (rowB long top) = false) := rowsAll_no rows long top k hlt
          have HYES : Hid (rowB long top rows[k] = true → ∀ j (hj : j < rows.length), j < k + 1 → rowB long top rows[j] = true) := fun hf j hj h => by
            by_cases e : j = k
            · subst e; exact hf
            · exact HA.out j hj (by omega)
          have HRB : Hid (rowB long top rows[k] = (decide ((rows[k].length : Int) = long) && allB rows[k] 0 top)) := rfl
          have hlk := HIN.out k hlt
          generalize rowB long top rows[k] = rb at *
          generalize rows[k] = r at *
          obtain ⟨av, cv, rfl, hc⟩ := hr
          by_cases hl2 : (r.length : Int) = long
          · have d0 : ((r.length : Int) == long) = true := beq_iff_eq.2 hl2
            have HRB2 : Hid (rb = allB r 0 top) := by show _ = _; rw [HRB.out, decide_eq_true hl2]; rfl
            clear HRB
            subst hl2
            rcases hc with hz | ⟨g2, o2, rfl, hg2, hc⟩
            · subst hz
              have HA1 : Hid (∀ j (hj : j < rows.length), j < k + 1 → rowB ((([] : List Int).length : Nat) : Int) top rows[j] = true) := HYES.out HRB2.out
              simp only [List.length_nil] at *
              clear HNO HYES HRB2
              go_wp2
              refine wp_loop_rounds 1 ?_
              rw [rounds_succ]
              go_wp2
              go_round
              case rel => exact ⟨k + 1, by omega, by go_num, HA1⟩
              case measure => simp [intOf]; omega
            · have HC2 : Hid (∀ j (hj : j < r.length), W.cell? ⟨g2, o2 + j, none⟩ = some (.int .i64 r[j])) := hc
              clear hc hg2
              go_wp2
              go_loop [29] (fun i => ∃ t : Nat, t ≤ r.length ∧ i = .int .i64 t ∧ Hid (∀ j (hj : j < r.length), j < t → 0 ≤ r[j] ∧ r[j] ≤ top)) (fun i => r.length - (intOf i).toNat)
              case atStart => exact ⟨0, Nat.zero_le _, rfl, fun j hj h => absurd h (Nat.not_lt_zero _)⟩
              case round =>
                obtain ⟨t, ht, rfl, HB⟩ := hrel
                by_cases hlt2 : t < r.length
                · have c1 := HC2.out t hlt2
                  have hlt2' : (t : Int) < (r.length : Int) := by omega
                  have HBN : Hid (r[t] < 0 ∨ top < r[t] → rows.all (rowB (r.length : Int) top) = false) := fun h => HNO.out (by rw [HRB2.out]; exact allB_no r 0 top t hlt2 (by omega))
                  have HBY : Hid (0 ≤ r[t] ∧ r[t] ≤ top → ∀ j (hj : j < r.length), j < t + 1 → 0 ≤ r[j] ∧ r[j] ≤ top) := fun hf j hj h => by
                    by_cases e : j = t
                    · subst e; exact hf
                    · exact HB.out j hj (by omega)
                  generalize r[t] = z at *
                  by_cases z0 : z < 0
                  · have HF : Hid (rows.all (rowB (r.length : Int) top) = false) := HBN.out (.inl z0)
                    have d1 : decide (z < 0) = true := decide_eq_true z0
                    clear HBN HBY z0
                    go_wp2
                    go_ret
                    exact ⟨ret_bool HF.out.symm, rfl⟩
                  · have d1 : decide (z < 0) = false := decide_eq_false z0
                    by_cases z1 : top < z
                    · have HF : Hid (rows.all (rowB (r.length : Int) top) = false) := HBN.out (.inr z1)
                      have d2 : decide (top < z) = true := decide_eq_true z1
                      clear HBN HBY z0 z1
                      go_wp2
                      go_ret
                      exact ⟨ret_bool HF.out.symm, rfl⟩
                    · have HB1 : Hid (∀ j (hj : j < r.length), j < t + 1 → 0 ≤ r[j] ∧ r[j] ≤ top) := HBY.out (by omega)
                      have d2 : decide (top < z) = false := decide_eq_false z1
                      clear HBN HBY z0 z1
                      go_wp2
                      go_round
                      case rel => exact ⟨t + 1, by omega, by go_num, HB1⟩
                      case measure => simp [intOf]; omega
                · have hlt2' : ¬ (t : Int) < (r.length : Int) := by omega
                  have HA1 : Hid (∀ j (hj : j < rows.length), j < k + 1 → rowB (r.length : Int) top rows[j] = true) := HYES.out (by rw [HRB2.out]; exact allB_yes r 0 top fun j hj => HB.out j hj (by omega))
                  clear HB HNO HYES HRB2
                  go_wp2
                  go_round
                  case rel => exact ⟨k + 1, by omega, by go_num, HA1⟩
                  case measure => simp [intOf]; omega
          · have d0 : ((r.length : Int) == long) = false := beq_eq_false_iff_ne.2 hl2
            have HF : Hid (rows.all (rowB long top) = false) := HNO.out (by rw [HRB.out, decide_eq_false hl2]; rfl)
            clear HRB HNO HYES hc hl2
            generalize r.length = rl at *
            go_wp2
            go_ret
            exact ⟨ret_bool HF.out.symm, rfl⟩
        · have hlt' : ¬ (k : Int) < (rows.length : Int) := by omega
          have HF : Hid (rows.all (rowB long top) = true) := rowsAll_yes rows long top fun j hj => HA.out j hj (by omega)
          go_wp2
          go_ret
          exact ⟨ret_bool HF.out.symm, rfl⟩
  · have HR : Hid (rowsB rows many long top = false) := by show _ = _; unfold rowsB; rw [decide_eq_false hm]; rfl
    rw [HR.out]
    have d0 : ((rows.length : Int) == many) = false := beq_eq_false_iff_ne.2 hm
    clear hc1 HR hin hm
    generalize rows.length = rl at *
    go_enter Try.func58, Try.ntmps58
    go_wp2
    go_ret
    exact ⟨rfl, rfl⟩
end Go.Proofs.Ytkkamigaolejiax
