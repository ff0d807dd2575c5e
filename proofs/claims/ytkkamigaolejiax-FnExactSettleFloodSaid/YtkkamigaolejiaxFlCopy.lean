/-
  'copyFlood' of the program: rows copied one by one.
-/
import Derived.Test.YtkkamigaolejiaxFlNewI
import Derived.Test.YtkkamigaolejiaxFlTakeE
namespace Go.Proofs.Ytkkamigaolejiax
open Go.RowKit
set_option linter.unusedVariables false

theorem copyNumsO_any (W : World) (B : Nat) (v : Value) (zs : List Int) (h : Own W B v zs) (hl : zs.length ≤ 1048576) :
    Calls Try.prog 85 #[v] W fun e W' => ∃ v', e = .returned v' ∧ Own W' W.heap.size v' zs ∧ Below W.heap.size W W' := by
  have HC : Hid (∀ ty, ∃ v' w', (Builtin.append_ #[60, 60] ty #[.slice none 0 0, v]).run Try.prog W = .ok v' w' ∧ Grown W W.heap.size 3 1 (.slice none 0 0) ([] ++ zs).length (([] ++ zs).map (Value.int .i64)) v' w') := fun ty => run_appI W W.heap.size _ [] (Own.nil _ _) _ zs (Src.row h) (by simp; omega) (Nat.le_refl _) ty
  obtain ⟨a, c, hv⟩ := h.shape
  subst hv
  clear h
  go_enter Try.func85, Try.ntmps85
  go_wp2_with (at_builtin; refine list_app (by rfl) (.const (.slice none 0 0)) (.tmp 3) 60 (by rfl) (.slice none 0 0) (.slice a zs.length c) (by rfl) (by rfl) _ HC.out ?_; intro v' w1 hg1)
  have HW : Hid (Own w1 W.heap.size v' zs ∧ Below W.heap.size W w1) := ⟨hg1.own, hg1.below⟩
  clear hg1
  go_ret
  exact ⟨_, rfl, HW.out.1, HW.out.2⟩

set_option maxRecDepth 100000 in
set_option maxHeartbeats 2000000 in
theorem copyRowsO_any (W : World) (B : Nat) (v : Value) (us : List Value) (lks : List (List Int)) (h : OwnSS W B v us lks) (h2 : ∀ j (hj : j < lks.length), lks[j].length ≤ 1048576) (hl : lks.length ≤ 1048576) :
    Calls Try.prog 73 #[v] W fun e W' => ∃ v', e = .returned v' ∧ HasSS W' W.heap.size v' lks ∧ Below W.heap.size W W' := by
  have HS0 : Hid (∃ vs, OwnSS W W.heap.size (.slice none 0 0) vs (lks.take 0) ∧ Since W.heap.size W W) := ⟨[], OwnSS.nil W _, Since.start W⟩
  have HRD : Hid (∀ W1, Since W.heap.size W W1 → OwnSS W1 B v us lks) := fun W1 hS => h.below hS.1
  have HUL : Hid (us.length = lks.length) := h.len
  have H2 : Hid (∀ j (hj : j < lks.length), lks[j].length ≤ 1048576) := h2
  obtain ⟨av, cv, rfl⟩ := h.shape
  clear h h2
  go_enter Try.func73, Try.ntmps73
  go_wp2
  go_loopw [3, 8] (fun d i wr => ∃ k : Nat, k ≤ lks.length ∧ i = .int .i64 k ∧ Hid (∃ vs, OwnSS wr W.heap.size d vs (lks.take k) ∧ Since W.heap.size W wr)) (fun _ i _ => lks.length - (intOf i).toNat)
  case atStart => exact ⟨0, Nat.zero_le _, rfl, HS0⟩
  case round =>
    obtain ⟨k, hk, rfl, HK⟩ := hrel
    obtain ⟨vs, hos, hsi⟩ := HK.out
    obtain ⟨ad, cd, hd⟩ := hos.shape
    rw [show (lks.take k).length = k by rw [List.length_take]; omega] at hd
    subst hd
    have HO : Hid (OwnSS wr W.heap.size (.slice ad k cd) vs (lks.take k)) := hos
    have HS : Hid (Since W.heap.size W wr) := hsi
    have hvl : vs.length = k := by have := hos.len; rw [List.length_take] at this; omega
    clear hos hsi HK
    by_cases hlt : k < lks.length
    · have hlt' : (k : Int) < (lks.length : Int) := by omega
      have hku : k < us.length := by rw [HUL.out]; exact hlt
      obtain ⟨g8, hg8, hu⟩ : ∃ g8, av = some ⟨g8, 0, none⟩ ∧ wr.cell? ⟨g8, k, none⟩ = some us[k] := by
        have hown := HRD.out wr HS.out
        rcases hown.row.2 with ⟨-, hn⟩ | ⟨g, c, cur, hv, -⟩
        · omega
        · have hrow := hown.row
          rw [hv] at hrow
          simp only [Value.slice.injEq] at hv
          exact ⟨g, hv.1, by rw [World.ownsRow.cellAt hrow k (by omega), List.getElem?_eq_getElem hku]⟩
      have hru := (HRD.out wr HS.out).inner k hku
      have hlk := H2.out k hlt
      have CC : Hid (Calls Try.prog 85 #[us[k]] wr fun e W' => ∃ v', e = .returned v' ∧ Own W' wr.heap.size v' lks[k] ∧ Below wr.heap.size wr W') := copyNumsO_any wr B us[k] lks[k] hru hlk
      have HNX : Hid (lks.take (k + 1) = lks.take k ++ [lks[k]]) := List.take_succ_eq_append_getElem hlt
      obtain ⟨au, cu, hus⟩ := hru.shape
      generalize us[k] = uk at *
      subst hus
      clear hru
      subst hg8
      obtain ⟨m, hm⟩ : ∃ m, m = lks[k].length := ⟨_, rfl⟩
      rw [← hm] at hu CC hlk
      have HM : Hid (lks[k].length = m) := hm.symm
      clear hm
      generalize hnx : lks.take (k + 1) = nxt at *
      have HNQ : Hid (lks.take (k + 1) = nxt) := hnx
      clear hnx
      generalize lks[k] = zz at *
      go_wp2_with fail
      refine CC.out.mono ?_
      rintro e w1 ⟨v1, rfl, ho1, hb1⟩
      obtain ⟨a5, c5, hv5⟩ := ho1.shape
      rw [HM.out] at hv5
      subst hv5
      have HO1 : Hid (Own w1 W.heap.size (.slice a5 m c5) zz) := ho1.mono HS.out.2
      have HOw : Hid (OwnSS w1 W.heap.size (.slice ad k cd) vs (lks.take k)) := HO.out.below hb1
      have HS1 : Hid (Since W.heap.size W w1) := HS.out.step hb1
      have HAPA : Hid (∀ j (hj : j < vs.length), ∀ b, vs[j].ownBlock = some b → (Value.slice a5 m c5).ownBlock ≠ some b) := fun j hj b hb hb2 => by
        have := (World.ownsRow.lt (HO.out.inner j hj) b hb).2
        have := (World.ownsRow.lt ho1 b hb2).1
        omega
      have HAP : Hid (∀ ty, ∃ v' w', (Builtin.append_ #[22, 22] ty #[.slice ad k cd, .slice (some ⟨w1.heap.size, 0, none⟩) 1 1]).run Try.prog (w1.alloc (.cells #[.slice a5 m c5] 60)) = .ok v' w' ∧ Grown (w1.alloc (.cells #[.slice a5 m c5] 60)) W.heap.size 60 1 (.slice ad k cd) (vs ++ [Value.slice a5 m c5]).length (vs ++ [Value.slice a5 m c5]) v' w') := fun ty => run_appSS w1 W.heap.size _ vs _ _ _ HOw.out.row (by omega) HS1.out.2 ty
      clear ho1 hb1 CC
      go_wp2_with (at_builtin; refine list_app (by rfl) (.tmp 12) (.tmp 15) 22 (by rfl) (.slice ad k cd) (.slice (some ⟨w1.heap.size, 0, none⟩) 1 1) (by rfl) (by rfl) _ HAP.out ?_; intro v7 w7 hg7; have HF : Hid (∃ us', OwnSS w7 W.heap.size v7 us' nxt ∧ Since W.heap.size W w7) := ⟨_, by rw [HNX.out]; exact HOw.out.add HO1.out HAPA.out hg7, ⟨(HS1.out.1.alloc HS1.out.2 _).trans hg7.below, Nat.le_trans HS1.out.2 (Nat.le_trans (by simp) hg7.size)⟩⟩; clear hg7)
      go_roundw
      case rel => exact ⟨k + 1, by omega, by go_num, by rw [HNQ.out]; exact HF⟩
      case measure => simp [intOf]; omega
    · have hlt' : ¬ (k : Int) < (lks.length : Int) := by omega
      have HF : Hid (OwnSS wr W.heap.size (.slice ad k cd) vs lks) := by
        have := HO.out
        rw [List.take_of_length_le (by omega)] at this
        exact this
      go_wp2
      go_ret
      exact ⟨_, rfl, ⟨vs, HF.out⟩, HS.out.1⟩

/-- What an append of letters leaves. -/
structure GrewLt (w : World) (B : Nat) (v : Value) (hs : List LtD) (v' : Value) (w' : World) : Prop where
  own : OwnLt w' B v' hs
  below : Below B w w'
  size : w.heap.size ≤ w'.heap.size
  grown : w.grownBy w' v.ownBlock
  lies : v'.ownBlock = v.ownBlock ∨ v'.ownBlock = some w.heap.size
theorem Bx4.drew {W : World} {b : Nat} {x y z u : Value} (h : Bx4 W b x y z u) : Bx4 W.drew b x y z u := h.below ((Below.refl _ W).drew)

set_option maxRecDepth 100000 in
set_option maxHeartbeats 4000000 in
theorem copyFlood_any (W : World) (B : Nat) (x y z l : Value) (xs ys zs : List Value) (f : FD) (h : OwnF W B x y z l xs ys zs f) (hf : FitF f) :
    Calls Try.prog 42 #[.agg #[x, y, z, l]] W fun e W' => ∃ x' y' z' l', e = .returned (.agg #[x', y', z', l']) ∧ (∃ xs' ys' zs', OwnF W' W.heap.size x' y' z' l' xs' ys' zs' f) ∧ Below W.heap.size W W' := by
  obtain ⟨a0, c0, rfl⟩ := h.lk.shape
  obtain ⟨a1, c1, rfl⟩ := h.kn.shape
  obtain ⟨a2, c2, rfl⟩ := h.ow.shape
  obtain ⟨a3, c3, rfl⟩ := h.ln.shape
  have HR : Hid (∀ W1, Below W.heap.size W W1 → OwnF W1 B (.slice a0 f.lk.length c0) (.slice a1 f.kn.length c1) (.slice a2 f.ow.length c2) (.slice a3 f.ln.length c3) xs ys zs f) := fun W1 hb => h.below hb
  have HS0 : Hid (Since W.heap.size W (((W.alloc (.cells #[.slice a0 f.lk.length c0, .slice a1 f.kn.length c1, .slice a2 f.ow.length c2, .slice a3 f.ln.length c3] 31)).alloc (.cells #[.slice none 0 0, .slice none 0 0, .slice none 0 0, .slice none 0 0] 31))).drew) := (((Since.start W).step ((Below.refl _ W).alloc (Nat.le_refl _) _)).step ((Below.refl _ _).alloc (Nat.le_refl _) _)).drew
  have HX0 : Hid (Bx4 (((W.alloc (.cells #[.slice a0 f.lk.length c0, .slice a1 f.kn.length c1, .slice a2 f.ow.length c2, .slice a3 f.ln.length c3] 31)).alloc (.cells #[.slice none 0 0, .slice none 0 0, .slice none 0 0, .slice none 0 0] 31))).drew W.heap.size (.slice a0 f.lk.length c0) (.slice a1 f.kn.length c1) (.slice a2 f.ow.length c2) (.slice a3 f.ln.length c3)) := ((Bx4.new _ _ _ _ _ _).below ((Below.refl _ _).alloc (Nat.le_refl _) _)).drew
  have HY0 : Hid (Bx4 (((W.alloc (.cells #[.slice a0 f.lk.length c0, .slice a1 f.kn.length c1, .slice a2 f.ow.length c2, .slice a3 f.ln.length c3] 31)).alloc (.cells #[.slice none 0 0, .slice none 0 0, .slice none 0 0, .slice none 0 0] 31))).drew (W.heap.size + 1) (.slice none 0 0) (.slice none 0 0) (.slice none 0 0) (.slice none 0 0)) := by
    have := (Bx4.new (W.alloc (.cells #[.slice a0 f.lk.length c0, .slice a1 f.kn.length c1, .slice a2 f.ow.length c2, .slice a3 f.ln.length c3] 31)) (.slice none 0 0) (.slice none 0 0) (.slice none 0 0) (.slice none 0 0) 31).drew
    exact (show Bx4 _ _ _ _ _ _ by simpa using this)
  have HZ0 : Hid (W.heap.size + 2 ≤ (((W.alloc (.cells #[.slice a0 f.lk.length c0, .slice a1 f.kn.length c1, .slice a2 f.ow.length c2, .slice a3 f.ln.length c3] 31)).alloc (.cells #[.slice none 0 0, .slice none 0 0, .slice none 0 0, .slice none 0 0] 31))).drew.heap.size) := (show W.heap.size + 2 ≤ _ by simp [World.drew])
  have C0 : Hid (∀ w, Since W.heap.size W w → Calls Try.prog 73 #[.slice a0 f.lk.length c0] w fun e W' => ∃ v', e = .returned v' ∧ HasSS W' w.heap.size v' f.lk ∧ Below w.heap.size w W') := fun w hS => copyRowsO_any w B _ xs f.lk (HR.out w hS.1).lk hf.lki hf.lk
  have C1 : Hid (∀ w, Since W.heap.size W w → Calls Try.prog 73 #[.slice a1 f.kn.length c1] w fun e W' => ∃ v', e = .returned v' ∧ HasSS W' w.heap.size v' f.kn ∧ Below w.heap.size w W') := fun w hS => copyRowsO_any w B _ ys f.kn (HR.out w hS.1).kn hf.kni hf.kn
  have C2 : Hid (∀ w, Since W.heap.size W w → Calls Try.prog 73 #[.slice a2 f.ow.length c2] w fun e W' => ∃ v', e = .returned v' ∧ HasSS W' w.heap.size v' f.ow ∧ Below w.heap.size w W') := fun w hS => copyRowsO_any w B _ zs f.ow (HR.out w hS.1).ow hf.owi hf.ow
  have C3 : Hid (∀ w v0, Since W.heap.size W w → (∃ B', W.heap.size + 2 ≤ B' ∧ B' ≤ w.heap.size ∧ OwnLt w B' v0 []) → ∀ ty, ∃ v' w', (Builtin.append_ #[29, 29] ty #[v0, .slice a3 f.ln.length c3]).run Try.prog w = .ok v' w' ∧ ∃ B', W.heap.size + 2 ≤ B' ∧ GrewLt w B' v0 f.ln v' w') := fun w v0 hS ⟨B', hB0, hB1, hv0⟩ ty => by
    obtain ⟨v', w', hr, hg⟩ := run_appLt w B' _ [] hv0 _ f.ln (Src.row (HR.out w hS.1).ln) (by have := hf.ln; simp; omega) hB1 ty
    exact ⟨v', w', hr, B', hB0, ⟨hg.own, hg.below, hg.size, hg.grown, hg.lies⟩⟩
  clear h hf
  go_enter Try.func42, Try.ntmps42
  go_wp2
  refine wp_region_held_drew (S := (fun w' => w'.cell? ⟨W.heap.size, 0, none⟩ = some (.slice a0 f.lk.length c0) ∧ w'.cell? ⟨W.heap.size, 1, none⟩ = some (.slice a1 f.kn.length c1) ∧ w'.cell? ⟨W.heap.size, 2, none⟩ = some (.slice a2 f.ow.length c2) ∧ w'.cell? ⟨W.heap.size, 3, none⟩ = some (.slice a3 f.ln.length c3))) (by kernel_rfl) ?_ (fun hHeld => ?_)
  · exact HX0.out.cells
  generalize hwd : (((W.alloc (.cells #[.slice a0 f.lk.length c0, .slice a1 f.kn.length c1, .slice a2 f.ow.length c2, .slice a3 f.ln.length c3] 31)).alloc (.cells #[.slice none 0 0, .slice none 0 0, .slice none 0 0, .slice none 0 0] 31))).drew = w0 at *
  clear hwd
  refine handRead 0 (some 3) (.pointer (some ⟨W.heap.size, 0, none⟩)) rfl rfl (by kernel_rfl) (by kernel_rfl) (by kernel_rfl) (fun _ _ _ h => h) (by kernel_rfl) (by assumption) ?_ ?_
  · intro w hSw
    (try dsimp only at hSw)
    go_simp
  simp only [Act.put, List.setIfInBounds_toArray, List.set_cons_zero, List.set_cons_succ]
  refine handRead 1 (some 4) (.slice a0 f.lk.length c0) rfl rfl (by kernel_rfl) (by kernel_rfl) (by kernel_rfl) (fun _ _ _ h => h) (by kernel_rfl) (by assumption) ?_ ?_
  · intro w hSw
    (try dsimp only at hSw)
    go_simp
  simp only [Act.put, List.setIfInBounds_toArray, List.set_cons_zero, List.set_cons_succ]
  refine handRead 3 (some 6) (.pointer (some ⟨W.heap.size, 1, none⟩)) rfl rfl (by kernel_rfl) (by kernel_rfl) (by kernel_rfl) (fun _ _ _ h => h) (by kernel_rfl) (by assumption) ?_ ?_
  · intro w hSw
    (try dsimp only at hSw)
    go_simp
  simp only [Act.put, List.setIfInBounds_toArray, List.set_cons_zero, List.set_cons_succ]
  refine handRead 4 (some 7) (.slice a1 f.kn.length c1) rfl rfl (by kernel_rfl) (by kernel_rfl) (by kernel_rfl) (fun _ _ _ h => h) (by kernel_rfl) (by assumption) ?_ ?_
  · intro w hSw
    (try dsimp only at hSw)
    go_simp
  simp only [Act.put, List.setIfInBounds_toArray, List.set_cons_zero, List.set_cons_succ]
  refine handRead 6 (some 9) (.pointer (some ⟨W.heap.size, 2, none⟩)) rfl rfl (by kernel_rfl) (by kernel_rfl) (by kernel_rfl) (fun _ _ _ h => h) (by kernel_rfl) (by assumption) ?_ ?_
  · intro w hSw
    (try dsimp only at hSw)
    go_simp
  simp only [Act.put, List.setIfInBounds_toArray, List.set_cons_zero, List.set_cons_succ]
  refine handRead 7 (some 10) (.slice a2 f.ow.length c2) rfl rfl (by kernel_rfl) (by kernel_rfl) (by kernel_rfl) (fun _ _ _ h => h) (by kernel_rfl) (by assumption) ?_ ?_
  · intro w hSw
    (try dsimp only at hSw)
    go_simp
  simp only [Act.put, List.setIfInBounds_toArray, List.set_cons_zero, List.set_cons_succ]
  refine handRead 9 (some 12) (.pointer (some ⟨W.heap.size, 3, none⟩)) rfl rfl (by kernel_rfl) (by kernel_rfl) (by kernel_rfl) (fun _ _ _ h => h) (by kernel_rfl) (by assumption) ?_ ?_
  · intro w hSw
    (try dsimp only at hSw)
    go_simp
  simp only [Act.put, List.setIfInBounds_toArray, List.set_cons_zero, List.set_cons_succ]
  refine handRead 10 (some 13) (.slice a3 f.ln.length c3) rfl rfl (by kernel_rfl) (by kernel_rfl) (by kernel_rfl) (fun _ _ _ h => h) (by kernel_rfl) (by assumption) ?_ ?_
  · intro w hSw
    (try dsimp only at hSw)
    go_simp
  simp only [Act.put, List.setIfInBounds_toArray, List.set_cons_zero, List.set_cons_succ]
  refine handCall 2 (some 5) 73 #[.slice a0 f.lk.length c0] (by kernel_rfl) rfl rfl (by kernel_rfl) (by simp [go_sem]) ((C0.out _ HS0.out).mono ?_)
  rintro e w1 ⟨v1, rfl, ⟨us0, ho0⟩, hb0⟩
  obtain ⟨e0, d0, hv0⟩ := ho0.shape
  subst hv0
  have HS1 : Hid (Since W.heap.size W w1) := HS0.out.step hb0
  have HX1 : Hid (Bx4 w1 W.heap.size (.slice a0 f.lk.length c0) (.slice a1 f.kn.length c1) (.slice a2 f.ow.length c2) (.slice a3 f.ln.length c3)) := HX0.out.below hb0
  have HY1 : Hid (Bx4 w1 (W.heap.size + 1) (.slice none 0 0) (.slice none 0 0) (.slice none 0 0) (.slice none 0 0)) := HY0.out.below hb0
  have HZ1 : Hid (W.heap.size + 2 ≤ w1.heap.size) := Nat.le_trans HZ0.out hb0.size
  have HA1_0 : Hid (OwnSS w1 (W.heap.size + 2) (.slice e0 f.lk.length d0) us0 f.lk) := ho0.mono HZ0.out
  clear ho0 hb0 HS0 HX0 HY0
  refine ⟨_, rfl, (by exact HX1.out.cells), fun hHeld => ?_⟩
  simp only [Act.put, List.setIfInBounds_toArray, List.set_cons_zero, List.set_cons_succ]
  refine handCall 5 (some 8) 73 #[.slice a1 f.kn.length c1] (by kernel_rfl) rfl rfl (by kernel_rfl) (by simp [go_sem]) ((C1.out _ HS1.out).mono ?_)
  rintro e w2 ⟨v2, rfl, ⟨us1, ho1⟩, hb1⟩
  obtain ⟨e1, d1, hv1⟩ := ho1.shape
  subst hv1
  have HS2 : Hid (Since W.heap.size W w2) := HS1.out.step hb1
  have HX2 : Hid (Bx4 w2 W.heap.size (.slice a0 f.lk.length c0) (.slice a1 f.kn.length c1) (.slice a2 f.ow.length c2) (.slice a3 f.ln.length c3)) := HX1.out.below hb1
  have HY2 : Hid (Bx4 w2 (W.heap.size + 1) (.slice none 0 0) (.slice none 0 0) (.slice none 0 0) (.slice none 0 0)) := HY1.out.below hb1
  have HZ2 : Hid (W.heap.size + 2 ≤ w2.heap.size) := Nat.le_trans HZ1.out hb1.size
  have HA2_0 : Hid (OwnSS w2 (W.heap.size + 2) (.slice e0 f.lk.length d0) us0 f.lk) := HA1_0.out.below hb1
  have HA2_1 : Hid (OwnSS w2 (W.heap.size + 2) (.slice e1 f.kn.length d1) us1 f.kn) := ho1.mono HZ1.out
  have HP01 : Hid (ApartSS (.slice e0 f.lk.length d0) us0 (.slice e1 f.kn.length d1) us1) := apartSS_lt HA1_0.out ho1 (Nat.le_refl _)
  clear ho1 hb1 HS1 HX1 HY1
  refine ⟨_, rfl, (by exact HX2.out.cells), fun hHeld => ?_⟩
  simp only [Act.put, List.setIfInBounds_toArray, List.set_cons_zero, List.set_cons_succ]
  refine handCall 8 (some 11) 73 #[.slice a2 f.ow.length c2] (by kernel_rfl) rfl rfl (by kernel_rfl) (by simp [go_sem]) ((C2.out _ HS2.out).mono ?_)
  rintro e w3 ⟨v3, rfl, ⟨us2, ho2⟩, hb2⟩
  obtain ⟨e2, d2, hv2⟩ := ho2.shape
  subst hv2
  have HS3 : Hid (Since W.heap.size W w3) := HS2.out.step hb2
  have HX3 : Hid (Bx4 w3 W.heap.size (.slice a0 f.lk.length c0) (.slice a1 f.kn.length c1) (.slice a2 f.ow.length c2) (.slice a3 f.ln.length c3)) := HX2.out.below hb2
  have HY3 : Hid (Bx4 w3 (W.heap.size + 1) (.slice none 0 0) (.slice none 0 0) (.slice none 0 0) (.slice none 0 0)) := HY2.out.below hb2
  have HZ3 : Hid (W.heap.size + 2 ≤ w3.heap.size) := Nat.le_trans HZ2.out hb2.size
  have HA3_0 : Hid (OwnSS w3 (W.heap.size + 2) (.slice e0 f.lk.length d0) us0 f.lk) := HA2_0.out.below hb2
  have HA3_1 : Hid (OwnSS w3 (W.heap.size + 2) (.slice e1 f.kn.length d1) us1 f.kn) := HA2_1.out.below hb2
  have HA3_2 : Hid (OwnSS w3 (W.heap.size + 2) (.slice e2 f.ow.length d2) us2 f.ow) := ho2.mono HZ2.out
  have HP02 : Hid (ApartSS (.slice e0 f.lk.length d0) us0 (.slice e2 f.ow.length d2) us2) := apartSS_lt HA2_0.out ho2 (Nat.le_refl _)
  have HP12 : Hid (ApartSS (.slice e1 f.kn.length d1) us1 (.slice e2 f.ow.length d2) us2) := apartSS_lt HA2_1.out ho2 (Nat.le_refl _)
  clear ho2 hb2 HS2 HX2 HY2
  refine ⟨_, rfl, (by exact HX3.out.cells), fun hHeld => ?_⟩
  simp only [Act.put, List.setIfInBounds_toArray, List.set_cons_zero, List.set_cons_succ]
  have HN3 : Hid (∃ B', W.heap.size + 2 ≤ B' ∧ B' ≤ w3.heap.size ∧ OwnLt w3 B' (.slice none 0 0) []) := ⟨_, HZ3.out, Nat.le_refl _, OwnLt.nil _ _⟩
  refine wpAnyH_ready (rs := [11]) (by kernel_rfl) (by simp) ?_
  refine AllReadyH.cons rfl (fun K hK => ?_) AllReadyH.nil
  refine step_app (by rfl) (.const (.slice none 0 0)) (.tmp 13) 29 (by rfl) (.slice none 0 0) (.slice a3 f.ln.length c3) (by rfl) (by rfl) _ (C3.out w3 _ HS3.out HN3.out) ?_
  rintro v4 w4 ⟨B4, hB4, hg4⟩
  obtain ⟨e3, d3, hv4⟩ := OwnLt.shape hg4.own
  subst hv4
  have HS4 : Hid (Since W.heap.size W w4) := ⟨HS3.out.1.trans (hg4.below.mono (by omega)), Nat.le_trans HS3.out.2 hg4.size⟩
  have HX4 : Hid (Bx4 w4 W.heap.size (.slice a0 f.lk.length c0) (.slice a1 f.kn.length c1) (.slice a2 f.ow.length c2) (.slice a3 f.ln.length c3)) := HX3.out.same (hg4.below.block _ (by omega)) hg4.size
  have HY4 : Hid (Bx4 w4 (W.heap.size + 1) (.slice none 0 0) (.slice none 0 0) (.slice none 0 0) (.slice none 0 0)) := HY3.out.same (hg4.below.block _ (by omega)) hg4.size
  have HA4_0 : Hid (OwnSS w4 (W.heap.size + 2) (.slice e0 f.lk.length d0) us0 f.lk) := HA3_0.out.same (fun k hk => hg4.grown.block k (World.ownsRow.lt HA3_0.out.row k hk).2 (by simp [Value.ownBlock])) (fun k hk => hg4.grown.block k (HA3_0.out.inLt k hk).2 (by simp [Value.ownBlock]))
  have HA4_1 : Hid (OwnSS w4 (W.heap.size + 2) (.slice e1 f.kn.length d1) us1 f.kn) := HA3_1.out.same (fun k hk => hg4.grown.block k (World.ownsRow.lt HA3_1.out.row k hk).2 (by simp [Value.ownBlock])) (fun k hk => hg4.grown.block k (HA3_1.out.inLt k hk).2 (by simp [Value.ownBlock]))
  have HA4_2 : Hid (OwnSS w4 (W.heap.size + 2) (.slice e2 f.ow.length d2) us2 f.ow) := HA3_2.out.same (fun k hk => hg4.grown.block k (World.ownsRow.lt HA3_2.out.row k hk).2 (by simp [Value.ownBlock])) (fun k hk => hg4.grown.block k (HA3_2.out.inLt k hk).2 (by simp [Value.ownBlock]))
  have HF4 : Hid (OwnF w4 (W.heap.size + 2) (.slice e0 f.lk.length d0) (.slice e1 f.kn.length d1) (.slice e2 f.ow.length d2) (.slice e3 f.ln.length d3) us0 us1 us2 f) := ⟨HA4_0.out, HA4_1.out, HA4_2.out, OwnLt.mono hg4.own hB4, HP01.out, HP02.out, HP12.out⟩
  clear hg4 hB4
  refine hK.out _ _ ?_ (fun hHeld => ?_)
  · exact HX4.out.cells
  clear hK K
  try simp only [Act.put, List.setIfInBounds_toArray]
  refine handRead 12 (some 15) (.agg #[.slice e0 f.lk.length d0, .slice e1 f.kn.length d1, .slice e2 f.ow.length d2, .slice e3 f.ln.length d3]) rfl rfl (by kernel_rfl) (by kernel_rfl) (by kernel_rfl) (fun _ _ _ h => h) (by kernel_rfl) (by assumption) ?_ ?_
  · intro w hSw
    (try dsimp only at hSw)
    go_simp
  simp only [Act.put]
  have HYF : Hid (Bx4 ((((w4.setCell ⟨W.heap.size + 1, 0, none⟩ (.slice e0 f.lk.length d0)).setCell ⟨W.heap.size + 1, 1, none⟩ (.slice e1 f.kn.length d1)).setCell ⟨W.heap.size + 1, 2, none⟩ (.slice e2 f.ow.length d2)).setCell ⟨W.heap.size + 1, 3, none⟩ (.slice e3 f.ln.length d3)) (W.heap.size + 1) (.slice e0 f.lk.length d0) (.slice e1 f.kn.length d1) (.slice e2 f.ow.length d2) (.slice e3 f.ln.length d3)) := (((HY4.out.put0 _).put1 _).put2 _).put3 _
  have HXF : Hid (Bx4 ((((w4.setCell ⟨W.heap.size + 1, 0, none⟩ (.slice e0 f.lk.length d0)).setCell ⟨W.heap.size + 1, 1, none⟩ (.slice e1 f.kn.length d1)).setCell ⟨W.heap.size + 1, 2, none⟩ (.slice e2 f.ow.length d2)).setCell ⟨W.heap.size + 1, 3, none⟩ (.slice e3 f.ln.length d3)) W.heap.size (.slice a0 f.lk.length c0) (.slice a1 f.kn.length c1) (.slice a2 f.ow.length c2) (.slice a3 f.ln.length c3)) := (((HX4.out.other (by simp) _).other (by simp) _).other (by simp) _).other (by simp) _
  have HFF : Hid (OwnF ((((w4.setCell ⟨W.heap.size + 1, 0, none⟩ (.slice e0 f.lk.length d0)).setCell ⟨W.heap.size + 1, 1, none⟩ (.slice e1 f.kn.length d1)).setCell ⟨W.heap.size + 1, 2, none⟩ (.slice e2 f.ow.length d2)).setCell ⟨W.heap.size + 1, 3, none⟩ (.slice e3 f.ln.length d3)) (W.heap.size + 2) (.slice e0 f.lk.length d0) (.slice e1 f.kn.length d1) (.slice e2 f.ow.length d2) (.slice e3 f.ln.length d3) us0 us1 us2 f) := (((HF4.out.setCell (by simp) _).setCell (by simp) _).setCell (by simp) _).setCell (by simp) _
  have HSF : Hid (Below W.heap.size W ((((w4.setCell ⟨W.heap.size + 1, 0, none⟩ (.slice e0 f.lk.length d0)).setCell ⟨W.heap.size + 1, 1, none⟩ (.slice e1 f.kn.length d1)).setCell ⟨W.heap.size + 1, 2, none⟩ (.slice e2 f.ow.length d2)).setCell ⟨W.heap.size + 1, 3, none⟩ (.slice e3 f.ln.length d3))) := (((HS4.out.1.setCell (by simp) _).setCell (by simp) _).setCell (by simp) _).setCell (by simp) _
  obtain ⟨y, y0, y1, y2, y3, yf⟩ := HY4.out
  refine wpAnyH_ready (rs := [13]) (by kernel_rfl) (by simp) ?_
  refine AllReadyH.cons rfl (fun K hK => ?_) AllReadyH.nil
  go_simp
  refine hK.out _ _ ?_ (fun hHeld => ?_)
  · exact HXF.out.cells
  clear hK K
  try simp only [Act.put, List.setIfInBounds_toArray, List.set_cons_zero, List.set_cons_succ]
  refine wpAnyH_done (by kernel_rfl) ?_ _
  clear y y0 y1 y2 y3 yf
  obtain ⟨y, y0, y1, y2, y3, yf⟩ := HYF.out
  go_wp2
  refine bodyPost_ret (v := .agg #[.slice e0 f.lk.length d0, .slice e1 f.kn.length d1, .slice e2 f.ow.length d2, .slice e3 f.ln.length d3]) (by simp [results, Try.results42, go_sem, y0, y1, y2, y3]) rfl ⟨_, _, _, _, rfl, ⟨us0, us1, us2, HFF.out.mono (by omega)⟩, HSF.out⟩
end Go.Proofs.Ytkkamigaolejiax
