/-
  'DrawLeadersBy' of the model.
-/
import Derived.Test.YthdcfeafkellcabDrawLed
import Derived.Test.YthdcfeafkellcabDrawBr2
import Derived.Deep.RegionLaw
import Derived.Laws.OwnMore
namespace Go.Proofs.Ythdcfeafkellcab
open Go.RowKit
set_option linter.unusedVariables false

theorem Rws.less {B : Nat} {w0 : World} {c : Nat} {a : Option Addr} {len cap m m' : Nat} {lv : Value} {l : List BrD} {v : Value} {vs : List Value} {zss : List (List Int)} {wr : World} (h : Rws B w0 c a len cap m lv l v vs zss wr) (hm : m ≤ m') : Rws B w0 c a len cap m' lv l v vs zss wr := ⟨h.brs, h.rows, h.fit, h.cur.mono hm⟩
theorem Rws.start {B : Nat} {w0 : World} {c : Nat} {a : Option Addr} {len cap m : Nat} {lv : Value} {l : List BrD} {v : Value} {vs : List Value} {zss : List (List Int)} {wr : World} (h : Rws B w0 c a len cap m lv l v vs zss wr) : Rw1 B w0 c a len cap m lv l v vs zss wr.heap.size (.slice none 0 0) [] wr :=
  ⟨h, Own.nil _ _, fun j hj b hb => (World.ownsRow.lt (h.rows.inner j hj) b hb).2, fun b hb => (World.ownsRow.lt h.rows.row b hb).2, fun b hb => (World.ownsRow.lt h.brs b hb).2, h.cur.2.1, Nat.le_refl _⟩

/-- A number is appended to the first row, in its place. -/
theorem Rws.put0 {B : Nat} {w0 : World} {c : Nat} {a : Option Addr} {len cap m : Nat} {lv : Value} {l : List BrD} {g k c6 : Nat} {vs : List Value} {zss : List (List Int)} {w w' : World} {o : Obj} {z : Int} {v' : Value} (h : Rws B w0 c a len cap m lv l (.slice (some ⟨g, 0, none⟩) k c6) vs zss w) (hBc : B ≤ c) (h0 : 0 < vs.length) (h0z : 0 < zss.length) (hg : Grown (w.alloc o) (c + 1) 3 1 vs[0] (zss[0] ++ [z]).length ((zss[0] ++ [z]).map (Value.int .i64)) v' w') :
    OwnBr (w'.setCell ⟨g, 0, none⟩ v') (c + 1) lv l ∧ OwnSS (w'.setCell ⟨g, 0, none⟩ v') (c + 1) (.slice (some ⟨g, 0, none⟩) k c6) (vs.set 0 v') (zss.set 0 (zss[0] ++ [z])) ∧ Cur B w0 (w'.setCell ⟨g, 0, none⟩ v') c a len cap m := by
  have hb : Below w.heap.size w (w.alloc o) := (Below.refl _ w).alloc (Nat.le_refl _) _
  have hgc : c + 1 ≤ g := (World.ownsRow.lt h.rows.row g rfl).1
  have h1 : OwnBr w' (c + 1) lv l := rowGrow (rowBelow h.brs hb) hg.grown fun b hk hk2 => rowsApart (h.rows.inner 0 h0) h.brs (by decide) b hk hk2
  refine ⟨rowSame h1 fun b hbk => Below.heap_setCell _ _ _ _ fun e => ?_, h.rows.put0 h0 h0z hg, (curGrown (h.cur.below hb) hg.below (by omega) (by omega)).other (by omega) _⟩
  exact rowsApart h.rows.row h.brs (by decide) g rfl (by rw [hbk]; exact congrArg some e)
/-- What is drawn, with that number. -/
theorem drawn_put0 {B : Nat} {w0 W : World} {a : Option Addr} {len cap m : Nat} {lv : Value} {l : List BrD} {g k c6 : Nat} {vs : List Value} {zss : List (List Int)} {w w' : World} {o : Obj} {z : Int} {v' : Value} (h : Rws B w0 W.heap.size a len cap m lv l (.slice (some ⟨g, 0, none⟩) k c6) vs zss w) (hBc : B ≤ W.heap.size) (hl : l.length ≤ 11) (hz : zss.length ≤ 11) (h0 : 0 < vs.length) (h0z : 0 < zss.length) (hg : Grown (w.alloc o) (W.heap.size + 1) 3 1 vs[0] (zss[0] ++ [z]).length ((zss[0] ++ [z]).map (Value.int .i64)) v' w') :
    DrawnLed B w0 W (.returned (.tuple #[lv, .slice (some ⟨g, 0, none⟩) k c6])) (w'.setCell ⟨g, 0, none⟩ v') := by
  obtain ⟨h1, h2, h3⟩ := h.put0 hBc h0 h0z hg
  refine ⟨_, l, _, _, _, rfl, rowMono h1 (Nat.le_succ _), h2.mono (Nat.le_succ _), hl, by simpa using hz, fun j hj => ?_, h3.2.2.1⟩
  have hj' : j < zss.length := by simpa using hj
  by_cases e : j = 0
  · subst e
    rw [List.getElem_set_self]
    have := h.fit 0 h0z
    simp; omega
  · rw [List.getElem_set_ne (fun h => e h.symm)]
    have := h.fit j hj'
    omega
/-- The first row's cell. -/
theorem Rws.at0 {B : Nat} {w0 : World} {c : Nat} {a : Option Addr} {len cap m : Nat} {lv : Value} {l : List BrD} {g k c6 : Nat} {vs : List Value} {zss : List (List Int)} {w : World} (h : Rws B w0 c a len cap m lv l (.slice (some ⟨g, 0, none⟩) k c6) vs zss w) (hk : vs.length = k) (h0 : 0 < vs.length) : w.cell? ⟨g, 0, none⟩ = some vs[0] ∧ w.frozen? ⟨g, 0, none⟩ = false := by
  subst hk
  exact ⟨(World.ownsRow.cellAt h.rows.row 0 (by omega)).trans (by simp [h0]), World.ownsRow.frozenAt h.rows.row 0⟩
/-- And behind the append. -/
theorem Rws.at1 {B : Nat} {w0 : World} {c : Nat} {a : Option Addr} {len cap m : Nat} {lv : Value} {l : List BrD} {g k c6 : Nat} {vs : List Value} {zss : List (List Int)} {w w' : World} {o : Obj} {n : Nat} {xs : List Value} {v' : Value} (h : Rws B w0 c a len cap m lv l (.slice (some ⟨g, 0, none⟩) k c6) vs zss w) (hk : vs.length = k) (h0 : 0 < vs.length) (hg : Grown (w.alloc o) (c + 1) 3 1 vs[0] n xs v' w') : w'.cell? ⟨g, 0, none⟩ = some vs[0] ∧ w'.frozen? ⟨g, 0, none⟩ = false := by
  have hb : Below w.heap.size w (w.alloc o) := (Below.refl _ w).alloc (Nat.le_refl _) _
  have hrow : w'.ownsRow (c + 1) 27 1 (.slice (some ⟨g, 0, none⟩) k c6) vs.length vs := rowGrow (rowBelow h.rows.row hb) hg.grown fun b hbk e => rowsApart (h.rows.inner 0 h0) h.rows.row (by decide) b hbk e
  subst hk
  exact ⟨(World.ownsRow.cellAt hrow 0 (by omega)).trans (by simp [h0]), World.ownsRow.frozenAt hrow 0⟩

set_option maxRecDepth 100000 in
set_option maxHeartbeats 4000000 in
theorem drawLeadersBy_any (B : Nat) (w0 W : World) (a : Option Addr) (len cap : Nat) (hC : Code B w0 a len) (hl : len ≤ 9223372036854775807) (h : Since B w0 W) :
    Calls Try.prog 7 #[.slice a len cap] W (DrawnLed B w0 W) := by
  have HC : Hid (Code B w0 a len) := hC
  have HU : Hid (Cur B w0 (W.alloc (.cells #[.slice a len cap, .int .i64 0, .int .u64 0] 75)) W.heap.size a len cap 0) := cur_new a len cap 75 h
  have HBW : Hid (B ≤ W.heap.size) := h.2
  clear hC h
  go_enter Try.func7, Try.ntmps7
  go_wp2_with fail
  refine (bridges_any B w0 _ _ a len cap 0 HC.out hl (by omega) HU.out).mono ?_
  rintro e W1 ⟨v, l, rfl, ho1, hl1, hc1, hn1⟩
  obtain ⟨a1, c1, rfl⟩ := ho1.shape
  have HR0 : Hid (Rws B w0 W.heap.size a len cap 200 (.slice a1 l.length c1) l (.slice none 0 0) [] [] W1) := ⟨(by have := ho1; simp at this; exact this), OwnSS.nil _ _, fun j hj => absurd hj (Nat.not_lt_zero _), hc1.mono (by omega)⟩
  clear ho1 hc1 hn1 HU
  go_wp2
  go_loopw [6, 16] (fun u i wr => ∃ k : Nat, k ≤ l.length ∧ i = .int .i64 k ∧ Hid (∃ vs zss, zss.length = k ∧ Rws B w0 W.heap.size a len cap (200 + 30 * k) (.slice a1 l.length c1) l u vs zss wr)) (fun _ i _ => l.length - (intOf i).toNat)
  case atStart => exact ⟨0, Nat.zero_le _, rfl, [], [], rfl, HR0.out⟩
  case round =>
    clear HR0
    obtain ⟨k, hk, rfl, HK⟩ := hrel
    obtain ⟨vs, zss, hzk, hR⟩ := HK.out
    obtain ⟨a6, c6, rfl⟩ := hR.rows.shape
    rw [hzk]
    rw [hzk] at hR
    have HR : Hid (Rws B w0 W.heap.size a len cap (200 + 30 * k) (.slice a1 l.length c1) l (.slice a6 k c6) vs zss wr) := hR
    have HZK : Hid (zss.length = k) := hzk
    clear HK hR hzk
    by_cases hlt : k < l.length
    · have hlt' : (k : Int) < (l.length : Int) := by omega
      have HI0 : Hid (Rw1 B w0 W.heap.size a len cap (200 + 30 * k) (.slice a1 l.length c1) l (.slice a6 k c6) vs zss wr.heap.size (.slice none 0 0) [] wr) := HR.out.start
      generalize hwo : wr = wo at *
      clear hwo HR
      go_wp2
      go_loopw [7, 20] (fun r i wr => ∃ j : Nat, j ≤ l.length ∧ i = .int .i64 j ∧ Hid (∃ zs, zs.length ≤ j ∧ Rw1 B w0 W.heap.size a len cap (200 + 30 * k + 2 * j) (.slice a1 l.length c1) l (.slice a6 k c6) vs zss wo.heap.size r zs wr)) (fun _ i _ => l.length - (intOf i).toNat)
      case atStart => exact ⟨0, Nat.zero_le _, rfl, [], Nat.le_refl _, HI0.out⟩
      case round =>
        clear HI0
        obtain ⟨j, hj, rfl, HJ⟩ := hrel
        obtain ⟨zs, hzs, hJ⟩ := HJ.out
        obtain ⟨a7, c7, rfl⟩ := hJ.row.shape
        have HJ1 : Hid (Rw1 B w0 W.heap.size a len cap (200 + 30 * k + 2 * j) (.slice a1 l.length c1) l (.slice a6 k c6) vs zss wo.heap.size (.slice a7 zs.length c7) zs wr) := hJ
        clear HJ hJ
        by_cases hjl : j < l.length
        · have hjl' : (j : Int) < (l.length : Int) := by omega
          go_wp2_with fail
          refine (one_any B w0 _ W.heap.size a len cap (200 + 30 * k + 2 * j) 2 HC.out hl (by omega) HJ1.out.all.cur (by omega) (by omega)).mono ?_
          rintro e W5 ⟨b5, rfl, hc5, ho5⟩
          have HJ5 : Hid (Rw1 B w0 W.heap.size a len cap (200 + 30 * k + 2 * (j + 1)) (.slice a1 l.length c1) l (.slice a6 k c6) vs zss wo.heap.size (.slice a7 zs.length c7) zs W5) := HJ1.out.only (hc5.mono (by omega)) ho5
          clear hc5 ho5 HJ1
          cases b5 with
          | false =>
            go_wp2
            go_roundw
            case rel => exact ⟨j + 1, by omega, by go_num, zs, by omega, HJ5.out⟩
            case measure => simp [intOf]; omega
          | true =>
            have HAP : Hid (∀ ty, ∃ v' w', (Builtin.append_ #[27, 27] ty #[.slice a7 zs.length c7, .slice (some ⟨W5.heap.size, 0, none⟩) 1 1]).run Try.prog (W5.alloc (.cells #[.int .i64 (j : Int)] 3)) = .ok v' w' ∧ Grown (W5.alloc (.cells #[.int .i64 (j : Int)] 3)) wo.heap.size 3 1 (.slice a7 zs.length c7) (zs ++ [(j : Int)]).length ((zs ++ [(j : Int)]).map (Value.int .i64)) v' w') := fun ty =>
              run_app1 _ _ _ zs (HJ5.out.row.below ((Below.refl _ _).alloc (Nat.le_refl _) _)) W5.heap.size 1 (j : Int) (new_cell _ _ _) (by omega) (by have := HJ5.out.hw; simp; omega) ty
            go_wp2_with (at_builtin; refine list_app (by rfl) (.tmp 25) (.tmp 27) 27 (by rfl) (.slice a7 zs.length c7) (.slice (some ⟨W5.heap.size, 0, none⟩) 1 1) (by rfl) (by rfl) _ HAP.out ?_; intro v9 w9 hg9; have HF : Hid (Rw1 B w0 W.heap.size a len cap (200 + 30 * k + 2 * (j + 1)) (.slice a1 l.length c1) l (.slice a6 k c6) vs zss wo.heap.size v9 (zs ++ [(j : Int)]) w9) := HJ5.out.add HBW.out hg9; clear hg9)
            go_roundw
            case rel => exact ⟨j + 1, by omega, by go_num, zs ++ [(j : Int)], by simp; omega, HF.out⟩
            case measure => simp [intOf]; omega
        · have hjl' : ¬ (j : Int) < (l.length : Int) := by omega
          generalize hwq : wr = wq at *
          clear hwq
          have hvl : vs.length = k := by have h1 := HJ1.out.all.rows.len; have h2 := HZK.out; omega
          have HAP : Hid (∀ ty, ∃ v' w', (Builtin.append_ #[24, 24] ty #[.slice a6 k c6, .slice (some ⟨wq.heap.size, 0, none⟩) 1 1]).run Try.prog (wq.alloc (.cells #[.slice a7 zs.length c7] 27)) = .ok v' w' ∧ Grown (wq.alloc (.cells #[.slice a7 zs.length c7] 27)) (W.heap.size + 1) 27 1 (.slice a6 k c6) (vs ++ [Value.slice a7 zs.length c7]).length (vs ++ [Value.slice a7 zs.length c7]) v' w') := fun ty =>
            run_appSS wq _ _ vs a7 zs.length c7 HJ1.out.all.rows.row (by omega) (by have h1 := HJ1.out.hc; have h2 := HJ1.out.hw; omega) ty
          have hzs11 : zs.length ≤ 11 := by omega
          clear hvl
          go_wp2_with (at_builtin; refine list_app (by rfl) (.tmp 30) (.tmp 32) 24 (by rfl) (.slice a6 k c6) (.slice (some ⟨wq.heap.size, 0, none⟩) 1 1) (by rfl) (by rfl) _ HAP.out ?_; intro v9 w9 hg9; have HF : Hid (Rws B w0 W.heap.size a len cap (200 + 30 * (k + 1)) (.slice a1 l.length c1) l v9 (vs ++ [Value.slice a7 zs.length c7]) (zss ++ [zs]) w9) := (HJ1.out.done HBW.out hzs11 hg9).less (by omega); clear hg9)
          go_roundw
          case rel => exact ⟨k + 1, by omega, by go_num, _, zss ++ [zs], by have := HZK.out; simp; omega, HF.out⟩
          case measure => simp [intOf]; omega
    · have hlt' : ¬ (k : Int) < (l.length : Int) := by omega
      have hk11 : k ≤ 11 := by omega
      have HPOST : Hid (∀ w', Rws B w0 W.heap.size a len cap 600 (.slice a1 l.length c1) l (.slice a6 k c6) vs zss w' → DrawnLed B w0 W (.returned (.tuple #[.slice a1 l.length c1, .slice a6 k c6])) w') := fun w' hr => ⟨_, l, _, vs, zss, rfl, hr.brs.mono (Nat.le_succ _), hr.rows.mono (Nat.le_succ _), hl1, by have := HZK.out; omega, fun j hj => by have := hr.fit j hj; omega, hr.cur.2.2.1⟩
      by_cases hk0 : 0 < k
      · have hk0' : decide (0 < (k : Int)) = true := decide_eq_true (by omega)
        go_wp2_with fail
        refine (one_any B w0 _ W.heap.size a len cap (200 + 30 * k) 12 HC.out hl (by omega) HR.out.cur (by omega) (by omega)).mono ?_
        rintro e W5 ⟨b5, rfl, hc5, ho5⟩
        have HR5 : Hid (Rws B w0 W.heap.size a len cap 598 (.slice a1 l.length c1) l (.slice a6 k c6) vs zss W5) := ⟨rowOnly HR.out.brs ho5 (by omega), HR.out.rows.only ho5 (by omega), HR.out.fit, hc5.mono (by omega)⟩
        clear hc5 ho5 HR
        cases b5 with
        | false =>
          have HP : Hid (DrawnLed B w0 W (.returned (.tuple #[.slice a1 l.length c1, .slice a6 k c6])) W5) := HPOST.out _ (HR5.out.less (by omega))
          go_wp2
          refine bodyPost_ret (results_tmp2 rfl _ _ _) rfl ?_
          exact HP.out
        | true =>
          obtain ⟨g, rfl⟩ : ∃ g, a6 = some ⟨g, 0, none⟩ := by
            rcases HR5.out.rows.row.2 with ⟨hv, hn⟩ | ⟨g, _, _, hv, -⟩
            · have h1 := HR5.out.rows.len
              have h2 := HZK.out
              omega
            · simp at hv
              exact ⟨g, hv.1⟩
          have hvl : vs.length = k := by have h1 := HR5.out.rows.len; have h2 := HZK.out; omega
          have hv0 : 0 < vs.length := by omega
          have hz0 : 0 < zss.length := by have h2 := HZK.out; omega
          have hz11 : zss.length ≤ 11 := by have h2 := HZK.out; omega
          obtain ⟨a0, c0, e0⟩ := (HR5.out.rows.inner 0 hv0).shape
          obtain ⟨n0, hn0⟩ : ∃ n0, n0 = zss[0].length := ⟨_, rfl⟩
          rw [← hn0] at e0
          obtain ⟨f0, f1⟩ := HR5.out.at0 hvl hv0
          rw [e0] at f0
          have HP6 : Hid (Calls Try.prog 53 #[.pointer (some ⟨W.heap.size, 0, none⟩), .int .i64 12] W5.drew fun e W' => ∃ r : Int, e = .returned (.int .i64 r) ∧ Rws B w0 W.heap.size a len cap 600 (.slice a1 l.length c1) l (.slice (some ⟨g, 0, none⟩) k c6) vs zss W') :=
            (pick_any B w0 _ W.heap.size a len cap 598 12 HC.out hl (by omega) HR5.out.cur.drew (by omega) (by omega)).mono (by
              rintro e W6 ⟨r, rfl, -, -, hc6, ho6⟩
              have ho6' : Only W.heap.size W5 W6 := ho6
              exact ⟨r, rfl, rowOnly HR5.out.brs ho6' (by omega), HR5.out.rows.only ho6' (by omega), HR5.out.fit, hc6.mono (by omega)⟩)
          have HAP : Hid (∀ (W6 : World) (r : Int), Rws B w0 W.heap.size a len cap 600 (.slice a1 l.length c1) l (.slice (some ⟨g, 0, none⟩) k c6) vs zss W6 → ∀ ty, ∃ v' w', (Builtin.append_ #[27, 27] ty #[.slice a0 n0 c0, .slice (some ⟨W6.heap.size, 0, none⟩) 1 1]).run Try.prog (W6.alloc (.cells #[.int .i64 r] 3)) = .ok v' w' ∧ (DrawnLed B w0 W (.returned (.tuple #[.slice a1 l.length c1, .slice (some ⟨g, 0, none⟩) k c6])) (w'.setCell ⟨g, 0, none⟩ v') ∧ w'.cell? ⟨g, 0, none⟩ = some (.slice a0 n0 c0) ∧ w'.frozen? ⟨g, 0, none⟩ = false ∧ ∃ a9 n9 c9, v' = .slice a9 n9 c9)) := fun W6 r h6 ty => by
            have hf := h6.fit 0 hz0
            obtain ⟨v', w', hrun, hg⟩ := run_app1 _ (W.heap.size + 1) _ zss[0] ((h6.rows.inner 0 hv0).below ((Below.refl _ _).alloc (Nat.le_refl _) _)) W6.heap.size 1 r (new_cell W6 _ 3) (by omega) (by have := h6.cur.2.1; simp; omega) ty
            obtain ⟨g0, g1⟩ := h6.at1 hvl hv0 hg
            obtain ⟨a9, c9, hs9⟩ := rowShape hg.own
            refine ⟨v', w', by rw [← e0]; exact hrun, drawn_put0 h6 HBW.out hl1 hz11 hv0 hz0 hg, by rw [g0, e0], g1, _, _, _, hs9⟩
          clear HPOST hn0
          go_wp2
          go_region_law (first
            | (refine step_go (by rfl) 53 #[.pointer (some ⟨W.heap.size, 0, none⟩), .int .i64 12] (by simp [go_sem]) (HP6.out.mono ?_); rintro e W6 ⟨r6, rfl, h6⟩; refine ⟨_, rfl, ?_⟩;
               have H6 : Hid (Rws B w0 W.heap.size a len cap 600 (.slice a1 l.length c1) l (.slice (some ⟨g, 0, none⟩) k c6) vs zss W6) := h6; clear h6; obtain ⟨p0, p1⟩ := H6.out.at0 hvl hv0; rw [e0] at p0; have p2 : (W6.alloc (.cells #[.int .i64 r6] 3)).cell? ⟨g, 0, none⟩ = some (.slice a0 n0 c0) := (((Below.refl _ W6).alloc (Nat.le_refl _) _).cell (p := ⟨g, 0, none⟩) (World.ownsRow.lt H6.out.rows.row g rfl).2).trans p0)
            | (refine step_app (by rfl) (.tmp 45) (.tmp 48) 27 (by rfl) (.slice a0 n0 c0) (.slice (some ⟨W6.heap.size, 0, none⟩) 1 1) (by rfl) (by rfl) _ (HAP.out W6 r6 H6.out) ?_; intro v9 w9 hg9;
               have HF : Hid (DrawnLed B w0 W (.returned (.tuple #[.slice a1 l.length c1, .slice (some ⟨g, 0, none⟩) k c6])) (w9.setCell ⟨g, 0, none⟩ v9)) := hg9.1; obtain ⟨-, q0, q1, a9, n9, c9, rfl⟩ := hg9))
          all_goals
            go_wp2
            refine bodyPost_ret (results_tmp2 rfl _ _ _) rfl ?_
            exact HF.out
      · have hk0' : decide (0 < (k : Int)) = false := decide_eq_false (by omega)
        have HP : Hid (DrawnLed B w0 W (.returned (.tuple #[.slice a1 l.length c1, .slice a6 k c6])) wr) := HPOST.out _ (HR.out.less (by omega))
        go_wp2
        refine bodyPost_ret (results_tmp2 rfl _ _ _) rfl ?_
        exact HP.out
end Go.Proofs.Ythdcfeafkellcab
