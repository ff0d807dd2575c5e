/-
  Groups by passes: 'l8Groups' of the model; 'GroupsOf' of both.
-/
import Derived.Test.YthlbmkefjjckaadGrGrp
import Derived.Test.YthlbmkefjjckaadGrNearS
namespace Go.Proofs.Ythlbmkefjjckaad
open Go.RowKit
set_option linter.unusedVariables false

theorem l1Least_any (W : World) (a b : Int) : Calls Try.prog 90 #[.int .i64 a, .int .i64 b] W fun e W' => e = .returned (.int .i64 (min a b)) ∧ W' = W := by
  by_cases h : a < b
  · rw [Int.min_eq_left (by omega)]
    go_enter Try.func90, Try.ntmps90
    go_wp2
    go_ret
    exact ⟨rfl, rfl⟩
  · rw [Int.min_eq_right (by omega)]
    go_enter Try.func90, Try.ntmps90
    go_wp2
    go_ret
    exact ⟨rfl, rfl⟩
theorem least2_nat (zs : List Int) (p q : Nat) (hp : p < zs.length) (hq : q < zs.length) : least2 zs (p : Int) (q : Int) = (zs.set p (min zs[p] zs[q])).set q (min zs[p] zs[q]) := by
  unfold least2
  rw [lab_get zs p hp, lab_get zs q hq, Int.toNat_natCast, Int.toNat_natCast]

set_option maxRecDepth 100000 in
set_option maxHeartbeats 8000000 in
theorem l8Groups_any (W : World) (v : Value) (n : Nat) (l : List EdD) (h : ReadsEd W v l) (hl : l.length ≤ 40) (hn0 : 1 ≤ n) (hn : n ≤ 12) (hf : FitEd (n : Int) l) :
    Calls Try.prog 60 #[.int .i64 (n : Int), v] W fun e W' => ∃ v', e = .returned v' ∧ Own W' W.heap.size v' (grp (n : Int) l) ∧ Below W.heap.size W W' := by
  obtain ⟨a1, c1, rfl, hc1⟩ := h
  have HS0 : Hid (Since W.heap.size W W) := Since.start W
  have HFT : Hid (FitEd (n : Int) l) := hf
  have HC0 : Hid (l = [] ∨ ∃ g off, a1 = some ⟨g, off, none⟩ ∧ g < W.heap.size ∧ ∀ j (hj : j < l.length), EdAt W g (off + j * 3) l[j]) := hc1
  clear hc1 hf
  go_enter Try.func60, Try.ntmps60
  go_wp2
  go_loopw [5, 6] (fun u i wr => ∃ k : Nat, k ≤ n ∧ i = .int .i64 k ∧ Hid (Own wr W.heap.size u (iota k) ∧ Since W.heap.size W wr)) (fun _ i _ => n - (intOf i).toNat)
  case atStart => exact ⟨0, Nat.zero_le _, rfl, Own.nil _ _, HS0.out⟩
  case round =>
    obtain ⟨k, hk, rfl, HK⟩ := hrel
    obtain ⟨a2, c2, rfl⟩ := HK.out.1.shape
    have eL := iota_len k
    rw [eL] at HK
    rw [eL]
    clear eL
    by_cases hlt : k < n
    · have hlt' : (k : Int) < (n : Int) := by omega
      have HZ : Hid (iota (k + 1) = iota k ++ [(k : Int)]) := iota_succ k
      have HLI : Hid ((iota k).length = k) := iota_len k
      have hb1 : Below wr.heap.size wr (wr.alloc (.cells #[.int .i64 (k : Int)] 3)) := (Below.refl _ wr).alloc (Nat.le_refl _) _
      have HC : Hid (∀ ty, ∃ v' w', (Builtin.append_ #[26, 26] ty #[.slice a2 k c2, .slice (some ⟨wr.heap.size, 0, none⟩) 1 1]).run Try.prog (wr.alloc (.cells #[.int .i64 (k : Int)] 3)) = .ok v' w' ∧ Grown (wr.alloc (.cells #[.int .i64 (k : Int)] 3)) W.heap.size 3 1 (.slice a2 k c2) (iota k ++ [(k : Int)]).length ((iota k ++ [(k : Int)]).map (Value.int .i64)) v' w') := fun ty =>
        run_app1 _ _ _ (iota k) (HK.out.1.below hb1) wr.heap.size 1 (k : Int) (new_cell _ _ _) (by rw [HLI.out]; omega) (by have := HK.out.2.2; simp; omega) ty
      have SQ1 : Hid (Since W.heap.size W (wr.alloc (.cells #[.int .i64 (k : Int)] 3))) := HK.out.2.step hb1
      clear hb1 HK
      go_wp2_with (at_builtin; refine list_app (by rfl) (.tmp 15) (.tmp 17) 26 (by rfl) (.slice a2 k c2) (.slice (some ⟨wr.heap.size, 0, none⟩) 1 1) (by rfl) (by rfl) _ HC.out ?_; intro v5 w5 hg5; have HF : Hid (Own w5 W.heap.size v5 (iota (k + 1)) ∧ Since W.heap.size W w5) := ⟨by rw [HZ.out]; exact hg5.own, ⟨SQ1.out.1.trans hg5.below, Nat.le_trans SQ1.out.2 hg5.size⟩⟩; clear hg5)
      go_roundw
      case rel => exact ⟨k + 1, by omega, by go_num, HF.out⟩
      case measure => simp [intOf]; omega
    · have hlt' : ¬ (k : Int) < (n : Int) := by omega
      have e : k = n := by omega
      subst e
      obtain ⟨g, cap, hv, hgB⟩ := own_at HK.out.1 (by rw [iota_len]; exact hn0)
      rw [iota_len] at hv
      have HI : Hid (Own wr W.heap.size (.slice a2 k c2) (iota k) ∧ Since W.heap.size W wr) := HK.out
      have HGB : Hid (W.heap.size ≤ g) := hgB
      clear HK hgB
      simp only [Value.slice.injEq, true_and] at hv
      obtain ⟨rfl, rfl⟩ := hv
      have HLG : Hid (∀ r j, (pass (l.take j) (passes l r (iota k))).length = k) := fun r j => by rw [pass_len, passes_len, iota_len]
      have HFIN : Hid (passes l k (iota k) = grp (k : Int) l) := by
        have := passes_grp HFT.out
        rwa [Int.toNat_natCast] at this
      go_wp2
      go_loopw [21] (fun i wr => ∃ r : Nat, r ≤ k ∧ i = .int .i64 r ∧ Hid (Own wr W.heap.size (.slice (some ⟨g, 0, none⟩) k c2) (passes l r (iota k)) ∧ Since W.heap.size W wr)) (fun i _ => k - (intOf i).toNat)
      case atStart => exact ⟨0, Nat.zero_le _, rfl, HI.out.1, HI.out.2⟩
      case round =>
        clear HI
        obtain ⟨r, hr, rfl, HR⟩ := hrel
        by_cases hltr : r < k
        · have hltr' : (r : Int) < (k : Int) := by omega
          have HPS : Hid (passes l (r + 1) (iota k) = pass l (passes l r (iota k))) := passes_succ l r (iota k)
          by_cases h4 : l = []
          · subst h4
            simp only [List.length_nil]
            have HF : Hid (Own wr W.heap.size (.slice (some ⟨g, 0, none⟩) k c2) (passes [] (r + 1) (iota k)) ∧ Since W.heap.size W wr) := ⟨by rw [HPS.out]; exact HR.out.1, HR.out.2⟩
            clear HR HC0
            go_wp2
            refine wp_loop_rounds 1 ?_
            rw [rounds_succ]
            go_wp2
            go_roundw
            case rel => exact ⟨r + 1, by omega, by go_num, HF.out⟩
            case measure => simp [intOf]; omega
          obtain ⟨g1, o1, rfl, hg1, hc1⟩ := HC0.out.resolve_left h4
          have HC1 : Hid (∀ W1, Since W.heap.size W W1 → ∀ j (hj : j < l.length), EdAt W1 g1 (o1 + j * 3) l[j]) := fun W1 hS j hj => (hc1 j hj).below hg1 hS.1
          clear hc1 hg1 h4
          go_wp2
          go_loopw [25] (fun i wr => ∃ j : Nat, j ≤ l.length ∧ i = .int .i64 j ∧ Hid (Own wr W.heap.size (.slice (some ⟨g, 0, none⟩) k c2) (pass (l.take j) (passes l r (iota k))) ∧ Since W.heap.size W wr)) (fun i _ => l.length - (intOf i).toNat)
          case atStart => exact ⟨0, Nat.zero_le _, rfl, HR.out⟩
          case round =>
            clear HR
            obtain ⟨j, hj, rfl, HK⟩ := hrel
            by_cases hlt : j < l.length
            · have hltj : (j : Int) < (l.length : Int) := by omega
              obtain ⟨q0, q1, q2⟩ := HC1.out wr HK.out.2 j hlt
              have HT : Hid (pass (l.take (j + 1)) (passes l r (iota k)) = least2 (pass (l.take j) (passes l r (iota k))) l[j].A l[j].B) := by
                show _ = _
                rw [List.take_succ_eq_append_getElem hlt, pass_snoc]
              have hx1 := (HFT.out _ (List.getElem_mem hlt)).1
              have hx2 := (HFT.out _ (List.getElem_mem hlt)).2.1
              have hzl := HLG.out r j
              generalize pass (l.take j) (passes l r (iota k)) = zs at *
              generalize l[j] = x at *
              obtain ⟨xa, xb, xc⟩ := x
              dsimp only at *
              obtain ⟨p, rfl⟩ : ∃ p : Nat, xa = (p : Int) := ⟨xa.toNat, by omega⟩
              obtain ⟨q, rfl⟩ : ∃ q : Nat, xb = (q : Int) := ⟨xb.toNat, by omega⟩
              have hpz : p < zs.length := by omega
              have hqz : q < zs.length := by omega
              have hpk : p < k := by omega
              have hqk : q < k := by omega
              have hpk' : (p : Int) < (k : Int) := by omega
              have hqk' : (q : Int) < (k : Int) := by omega
              obtain ⟨m, hm⟩ : ∃ m, m = min zs[p] zs[q] := ⟨_, rfl⟩
              have HN : Hid (pass (l.take (j + 1)) (passes l r (iota k)) = (zs.set p m).set q m) := by
                show _ = _
                rw [HT.out, least2_nat zs p q hpz hqz, hm]
              have HOW := HK.out.1
              rw [← hzl] at HOW
              have hgl : g < wr.heap.size := (World.ownsRow.lt HOW g rfl).2
              have HU : Hid (wr.cell? ⟨g, p, none⟩ = some (.int .i64 zs[p]) ∧ wr.cell? ⟨g, q, none⟩ = some (.int .i64 zs[q])) := ⟨own_cell HOW p hpz, own_cell HOW q hqz⟩
              have HM : Hid (min zs[p] zs[q] = m) := hm.symm
              clear hm
              generalize zs[p] = u at *
              generalize zs[q] = v at *
              have HX : Hid (∀ w', Since (wr.alloc (.cells #[.int .i64 (p : Int), .int .i64 (q : Int), .int .i64 xc] 84)).heap.size (wr.alloc (.cells #[.int .i64 (p : Int), .int .i64 (q : Int), .int .i64 xc] 84)) w' → (w'.cell? ⟨wr.heap.size, 0, none⟩ = some (.int .i64 (p : Int)) ∧ w'.cell? ⟨wr.heap.size, 1, none⟩ = some (.int .i64 (q : Int)) ∧ w'.cell? ⟨wr.heap.size, 2, none⟩ = some (.int .i64 xc)) ∧ w'.cell? ⟨g, p, none⟩ = some (.int .i64 u) ∧ w'.cell? ⟨g, q, none⟩ = some (.int .i64 v)) := fun w' hs =>
                ⟨newEd wr ⟨(p : Int), (q : Int), xc⟩ w' hs, (hs.1.cell (p := ⟨g, p, none⟩) (by simp; omega)).trans ((((Below.refl _ wr).alloc (Nat.le_refl _) _).cell (p := ⟨g, p, none⟩) hgl).trans HU.out.1), (hs.1.cell (p := ⟨g, q, none⟩) (by simp; omega)).trans ((((Below.refl _ wr).alloc (Nat.le_refl _) _).cell (p := ⟨g, q, none⟩) hgl).trans HU.out.2)⟩
              have HOD : Hid (Own (wr.alloc (.cells #[.int .i64 (p : Int), .int .i64 (q : Int), .int .i64 xc] 84)).drew W.heap.size (.slice (some ⟨g, 0, none⟩) k c2) zs ∧ Since W.heap.size W (wr.alloc (.cells #[.int .i64 (p : Int), .int .i64 (q : Int), .int .i64 xc] 84)).drew) := ⟨(HK.out.1.alloc _).drew, (HK.out.2.step ((Below.refl _ wr).alloc (Nat.le_refl _) _)).drew⟩
              have hgne : ¬ g = wr.heap.size := by omega
              clear HK HOW HU
              go_wp2
              have SA0 := Since.start (wr.alloc (.cells #[.int .i64 (p : Int), .int .i64 (q : Int), .int .i64 xc] 84))
              refine wp_region_held_drew (S := (fun w' => (w'.cell? ⟨wr.heap.size, 0, none⟩ = some (.int .i64 (p : Int)) ∧ w'.cell? ⟨wr.heap.size, 1, none⟩ = some (.int .i64 (q : Int)) ∧ w'.cell? ⟨wr.heap.size, 2, none⟩ = some (.int .i64 xc)) ∧ w'.cell? ⟨g, p, none⟩ = some (.int .i64 u) ∧ w'.cell? ⟨g, q, none⟩ = some (.int .i64 v))) (by kernel_rfl) ?_ (fun hHeld => ?_)
              · exact HX.out _ SA0.drew
              refine handRead 0 (some 29) (.slice (some ⟨g, 0, none⟩) k c2) rfl rfl (by kernel_rfl) (by kernel_rfl) (by kernel_rfl) (fun _ _ _ h => h) (by kernel_rfl) (by assumption) ?_ ?_
              · intro w hSw
                (try dsimp only at hSw)
                go_simp
              simp only [Act.put, List.setIfInBounds_toArray, List.set_cons_zero, List.set_cons_succ]
              refine handRead 1 (some 30) (.pointer (some ⟨wr.heap.size, 0, none⟩)) rfl rfl (by kernel_rfl) (by kernel_rfl) (by kernel_rfl) (fun _ _ _ h => h) (by kernel_rfl) (by assumption) ?_ ?_
              · intro w hSw
                (try dsimp only at hSw)
                go_simp
              simp only [Act.put, List.setIfInBounds_toArray, List.set_cons_zero, List.set_cons_succ]
              refine handRead 2 (some 31) (.int .i64 (p : Int)) rfl rfl (by kernel_rfl) (by kernel_rfl) (by kernel_rfl) (fun _ _ _ h => h) (by kernel_rfl) (by assumption) ?_ ?_
              · intro w hSw
                (try dsimp only at hSw)
                go_simp
              simp only [Act.put, List.setIfInBounds_toArray, List.set_cons_zero, List.set_cons_succ]
              refine handRead 3 (some 32) (.pointer (some ⟨g, p, none⟩)) rfl rfl (by kernel_rfl) (by kernel_rfl) (by kernel_rfl) (fun _ _ _ h => h) (by kernel_rfl) (by assumption) ?_ ?_
              · intro w hSw
                (try dsimp only at hSw)
                go_simp
              simp only [Act.put, List.setIfInBounds_toArray, List.set_cons_zero, List.set_cons_succ]
              refine handRead 4 (some 33) (.int .i64 u) rfl rfl (by kernel_rfl) (by kernel_rfl) (by kernel_rfl) (fun _ _ _ h => h) (by kernel_rfl) (by assumption) ?_ ?_
              · intro w hSw
                (try dsimp only at hSw)
                go_simp
              simp only [Act.put, List.setIfInBounds_toArray, List.set_cons_zero, List.set_cons_succ]
              refine handRead 5 (some 34) (.slice (some ⟨g, 0, none⟩) k c2) rfl rfl (by kernel_rfl) (by kernel_rfl) (by kernel_rfl) (fun _ _ _ h => h) (by kernel_rfl) (by assumption) ?_ ?_
              · intro w hSw
                (try dsimp only at hSw)
                go_simp
              simp only [Act.put, List.setIfInBounds_toArray, List.set_cons_zero, List.set_cons_succ]
              refine handRead 6 (some 35) (.pointer (some ⟨wr.heap.size, 1, none⟩)) rfl rfl (by kernel_rfl) (by kernel_rfl) (by kernel_rfl) (fun _ _ _ h => h) (by kernel_rfl) (by assumption) ?_ ?_
              · intro w hSw
                (try dsimp only at hSw)
                go_simp
              simp only [Act.put, List.setIfInBounds_toArray, List.set_cons_zero, List.set_cons_succ]
              refine handRead 7 (some 36) (.int .i64 (q : Int)) rfl rfl (by kernel_rfl) (by kernel_rfl) (by kernel_rfl) (fun _ _ _ h => h) (by kernel_rfl) (by assumption) ?_ ?_
              · intro w hSw
                (try dsimp only at hSw)
                go_simp
              simp only [Act.put, List.setIfInBounds_toArray, List.set_cons_zero, List.set_cons_succ]
              refine handRead 8 (some 37) (.pointer (some ⟨g, q, none⟩)) rfl rfl (by kernel_rfl) (by kernel_rfl) (by kernel_rfl) (fun _ _ _ h => h) (by kernel_rfl) (by assumption) ?_ ?_
              · intro w hSw
                (try dsimp only at hSw)
                go_simp
              simp only [Act.put, List.setIfInBounds_toArray, List.set_cons_zero, List.set_cons_succ]
              refine handRead 9 (some 38) (.int .i64 v) rfl rfl (by kernel_rfl) (by kernel_rfl) (by kernel_rfl) (fun _ _ _ h => h) (by kernel_rfl) (by assumption) ?_ ?_
              · intro w hSw
                (try dsimp only at hSw)
                go_simp
              simp only [Act.put, List.setIfInBounds_toArray, List.set_cons_zero, List.set_cons_succ]
              refine handCall 10 (some 39) 90 #[.int .i64 u, .int .i64 v] (by kernel_rfl) rfl rfl (by kernel_rfl) (by simp [go_sem]) ((l1Least_any _ _ _).mono ?_)
              rintro e w1 ⟨rfl, rfl⟩
              rw [HM.out]
              refine ⟨_, rfl, (by exact hHeld), fun hHeld => ?_⟩
              simp only [Act.put, List.setIfInBounds_toArray, List.set_cons_zero, List.set_cons_succ]
              refine handRead 11 (some 9) (.int .i64 m) rfl rfl (by kernel_rfl) (by kernel_rfl) (by kernel_rfl) (fun _ _ _ h => h) (by kernel_rfl) (by assumption) ?_ ?_
              · intro w hSw
                (try dsimp only at hSw)
                go_simp
              simp only [Act.put, List.setIfInBounds_toArray, List.set_cons_zero, List.set_cons_succ]
              refine wpAnyH_done (by kernel_rfl) ?_ _
              obtain ⟨⟨c0, c1, c2'⟩, c3, c4⟩ := HX.out _ SA0.drew
              clear SA0 HX q0 q1 q2
              generalize (wr.alloc (.cells #[.int .i64 (p : Int), .int .i64 (q : Int), .int .i64 xc] 84)).drew = w3 at *
              have HO3 := HOD.out.1
              rw [← hzl] at HO3
              have f3 : w3.frozen? ⟨g, p, none⟩ = false := World.ownsRow.frozenAt HO3 p
              have HO4 : Own (w3.setCell ⟨g, p, none⟩ (.int .i64 m)) W.heap.size (.slice (some ⟨g, 0, none⟩) zs.length c2) (zs.set p m) := HO3.set p m
              have hl4 : (zs.set p m).length = zs.length := List.length_set ..
              have c5 : ∃ t, (w3.setCell ⟨g, p, none⟩ (.int .i64 m)).cell? ⟨g, q, none⟩ = some (.int .i64 t) := ⟨_, own_cell (by rw [hl4]; exact HO4) q (by omega)⟩
              obtain ⟨t5, c5⟩ := c5
              have f5 : (w3.setCell ⟨g, p, none⟩ (.int .i64 m)).frozen? ⟨g, q, none⟩ = false := World.ownsRow.frozenAt (by rw [← hl4] at HO4; exact HO4) q
              have b5 : (w3.setCell ⟨g, p, none⟩ (.int .i64 m)).cell? ⟨wr.heap.size, 1, none⟩ = some (.int .i64 (q : Int)) := (World.cell?_setCell_far _ _ _ _ (by simp; omega)).trans c1
              have HF : Hid (Own ((w3.setCell ⟨g, p, none⟩ (.int .i64 m)).setCell ⟨g, q, none⟩ (.int .i64 m)) W.heap.size (.slice (some ⟨g, 0, none⟩) k c2) (pass (l.take (j + 1)) (passes l r (iota k))) ∧ Since W.heap.size W ((w3.setCell ⟨g, p, none⟩ (.int .i64 m)).setCell ⟨g, q, none⟩ (.int .i64 m))) := ⟨by
                rw [HN.out]
                rw [← hl4] at HO4
                have := HO4.set q m
                rw [hl4, hzl] at this
                exact this, ((HOD.out.2.1.setCell HGB.out _).setCell HGB.out _), by have := HOD.out.2.2; simpa using this⟩
              clear HOD HO3 HO4 HN HT
              go_wp2
              go_roundw
              case rel => exact ⟨j + 1, by omega, by go_num, HF.out⟩
              case measure => simp [intOf]; omega
            · have hltj : ¬ (j : Int) < (l.length : Int) := by omega
              have HF : Hid (Own wr W.heap.size (.slice (some ⟨g, 0, none⟩) k c2) (passes l (r + 1) (iota k)) ∧ Since W.heap.size W wr) := ⟨by
                have := HK.out.1
                rw [List.take_of_length_le (show l.length ≤ j by omega), ← HPS.out] at this
                exact this, HK.out.2⟩
              clear HK
              go_wp2
              go_roundw
              case rel => exact ⟨r + 1, by omega, by go_num, HF.out⟩
              case measure => simp [intOf]; omega
        · have hltr' : ¬ (r : Int) < (k : Int) := by omega
          have e : r = k := by omega
          have HF : Hid (Own wr W.heap.size (.slice (some ⟨g, 0, none⟩) k c2) (grp (k : Int) l) ∧ Below W.heap.size W wr) := ⟨by
            have := HR.out.1
            rw [e, HFIN.out] at this
            exact this, HR.out.2.1⟩
          clear HR
          go_wp2
          go_ret
          exact ⟨_, rfl, HF.out⟩

def grpOut (n : Int) (l : List EdD) : List Int := if goodEd n l then grp n l else []
theorem grpOut_len (n : Int) (l : List EdD) : (grpOut n l).length ≤ 4194304 := by
  unfold grpOut
  split
  · next h =>
    obtain ⟨hn, -, hf, -⟩ := goodEd_true h
    rw [grp_len n l hf]
    omega
  · simp

set_option maxRecDepth 100000 in
set_option maxHeartbeats 2000000 in
theorem implGroupsOf_any (W : World) (v : Value) (n : Int) (l : List EdD) (h : ReadsEd W v l) (hl : l.length ≤ 2097152) :
    Calls Try.prog 9 #[.int .i64 n, v] W (NearPost W (grpOut n l) (goodEd n l)) := by
  have CG : Hid (Calls Try.prog 42 #[.int .i64 n, v] W fun e W' => e = .returned (.bool (goodEd n l)) ∧ Below W.heap.size W W') := implGoodEd_any W v n l h hl
  have HRD : Hid (∀ w', Since W.heap.size W w' → ReadsEd w' v l) := fun w' hs => h.below hs.1
  have HS0 : Hid (Since W.heap.size W W) := Since.start W
  obtain ⟨a1, c1, rfl⟩ := h.shape
  have HD : Hid (grpOut n l = if goodEd n l then grp n l else []) := rfl
  generalize grpOut n l = out at *
  clear h
  cases hg : goodEd n l with
  | false =>
    have HF : Hid (out = []) := HD.out.trans (by rw [hg]; rfl)
    rw [hg] at CG
    clear hg HD
    go_enter Try.func9, Try.ntmps9
    go_wp2_with fail
    refine CG.out.mono ?_
    rintro e w1 ⟨rfl, hb1⟩
    have HB1 : Hid (Below W.heap.size W w1) := hb1
    clear hb1
    go_wp2
    refine bodyPost_ret (results_tmp2 rfl _ _ _) rfl ?_
    exact NearPost.zero rfl HF.out HB1.out
  | true =>
    obtain ⟨hn, hl40, hf, -⟩ := goodEd_true hg
    rw [hg] at CG
    have HF : Hid (out = grp n l) := HD.out.trans (by rw [hg]; rfl)
    have CN : Hid (∀ w', Since W.heap.size W w' → Calls Try.prog 43 #[.int .i64 n, .slice a1 l.length c1] w' fun e w2 => ∃ u, e = .returned u ∧ Own w2 w'.heap.size u (grp n l) ∧ Below w'.heap.size w' w2) := fun w' hs => by
      obtain ⟨m, rfl⟩ : ∃ m : Nat, n = (m : Int) := ⟨n.toNat, by omega⟩
      exact groupsOf_any w' _ m l (HRD.out w' hs) hl40 (by omega) (by omega) hf
    clear hg HD hf
    go_enter Try.func9, Try.ntmps9
    go_wp2_with fail
    refine CG.out.mono ?_
    rintro e w1 ⟨rfl, hb1⟩
    have HS1 : Hid (Since W.heap.size W w1) := HS0.out.step hb1
    clear hb1
    go_wp2_with fail
    refine (CN.out _ HS1.out).mono ?_
    rintro e w2 ⟨u2, rfl, ho2, hb2⟩
    have HO2 : Hid (Own w2 W.heap.size u2 (grp n l)) := ho2.mono HS1.out.2
    have HS2 : Hid (Since W.heap.size W w2) := HS1.out.step hb2
    clear ho2 hb2
    go_wp2
    refine bodyPost_ret (results_tmp2 rfl _ _ _) rfl ?_
    exact NearPost.mk rfl HF.out HO2.out HS2.out.1

end Go.Proofs.Ythlbmkefjjckaad
