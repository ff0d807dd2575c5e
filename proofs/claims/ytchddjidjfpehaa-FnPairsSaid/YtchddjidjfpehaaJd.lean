/-
  What is drawn of pairs: 'pair'.
-/

/-
  What is drawn of pairs, more: 'DrawGoodPair', 'DrawSettlePair', 'DrawStepPair'.
-/

/-
  What is drawn of steps and states: 'DrawPlayPair', 'DrawNextState', 'DrawNewPair'.
-/

/-
  What a step turns of the states.
-/
import Derived.Test.YtchddjidjfpehaaDrawSt
import Derived.Test.YtchddjidjfpehaaPlayS
import Derived.Test.YtchddjidjfpehaaPlayLaw
import Derived.Test.YtchddjidjfpehaaPairVar
import Derived.Test.YtchddjidjfpehaaTick
import Derived.Test.YtchddjidjfpehaaHand
import Derived.Deep.CutRange
import Derived.Test.YtchddjidjfpehaaPairMath
namespace Go.Proofs.Ytchddjidjfpehaa
open Go.RowKit
set_option linter.unusedVariables false

theorem Bx3.only {W W' : World} {b c : Nat} {x y z : Value} (h : Bx3 W b x y z) (ho : Only c W W') (hbc : b ≠ c) : Bx3 W' b x y z := by
  have e := ho.2 b h.lt hbc
  exact ⟨Nat.lt_of_lt_of_le h.lt ho.1, (World.cell?_of_block e).trans h.c0, (World.cell?_of_block e).trans h.c1, (World.cell?_of_block e).trans h.c2, fun j => (World.frozen?_of_block e).trans (h.fz j)⟩

/-- The variable of 'pair' and its result, while it draws. -/
structure PrS (B : Nat) (w0 W : World) (c : Nat) (a : Option Addr) (len cap m n : Nat) (x y z : Value) (p : PR) (w : World) : Prop where
  rx : Bx3 w W.heap.size (.slice none 0 0) (.slice none 0 0) (.slice none 0 0)
  bx : Bx3 w n x y z
  own : Own3 w (W.heap.size + 1) x y z p
  far : ¬ Has x y z n
  lo : W.heap.size < n
  cur : Cur B w0 w c a len cap m
  only : Only c W w
theorem PrS.move {B : Nat} {w0 W w : World} {c : Nat} {a : Option Addr} {len cap m n : Nat} {x y z : Value} {p : PR} {w' : World} {m' : Nat} (h : PrS B w0 W c a len cap m n x y z p w) (hcW : c < W.heap.size) (ho : Only c w w') (hc : Cur B w0 w' c a len cap m') : PrS B w0 W c a len cap m' n x y z p w' :=
  ⟨h.rx.only ho (by omega), h.bx.only ho (by have := h.lo; omega), h.own.same fun k hk => ho.2 k (h.own.lt k hk).2 (by have := (h.own.lt k hk).1; omega), h.far, h.lo, hc, h.only.trans ho⟩
theorem PrS.drew {B : Nat} {w0 W w : World} {c : Nat} {a : Option Addr} {len cap m n : Nat} {x y z : Value} {p : PR} (h : PrS B w0 W c a len cap m n x y z p w) : PrS B w0 W c a len cap m n x y z p w.drew :=
  ⟨h.rx.below ((Below.refl _ _).drew), h.bx.below ((Below.refl _ _).drew), h.own.drew, h.far, h.lo, h.cur.drew, ⟨h.only.1, h.only.2⟩⟩
theorem PrS.setLf {B : Nat} {w0 W w : World} {c : Nat} {a : Option Addr} {len cap m n : Nat} {x z : Value} {p : PR} {g d : Nat} (h : PrS B w0 W c a len cap m n x (.slice (some ⟨g, 0, none⟩) 2 d) z p w) (hcW : c < W.heap.size) (k : Nat) (s : Int) (h2 : 2 = p.lf.length) : PrS B w0 W c a len cap m n x (.slice (some ⟨g, 0, none⟩) 2 d) z ⟨p.st, p.lf.set k s, p.ln⟩ (w.setCell ⟨g, k, none⟩ (.int .i64 s)) := by
  have hg : W.heap.size + 1 ≤ g := (h.own.lt g (.inr (.inl rfl))).1
  have hn : g ≠ n := fun e => h.far (.inr (.inl (by rw [e]; rfl)))
  exact ⟨h.rx.other (by show g ≠ _; omega) _, h.bx.other hn _, h.own.setLf k s h2, h.far, h.lo, h.cur.other (by omega) _, h.only.set (by omega) _ _⟩
theorem PrS.setSt {B : Nat} {w0 W w : World} {c : Nat} {a : Option Addr} {len cap m n : Nat} {y z : Value} {p : PR} {g d : Nat} (h : PrS B w0 W c a len cap m n (.slice (some ⟨g, 0, none⟩) 2 d) y z p w) (hcW : c < W.heap.size) (k : Nat) (s : Int) (h2 : 2 = p.st.length) : PrS B w0 W c a len cap m n (.slice (some ⟨g, 0, none⟩) 2 d) y z ⟨p.st.set k s, p.lf, p.ln⟩ (w.setCell ⟨g, k, none⟩ (.int .i64 s)) := by
  have hg : W.heap.size + 1 ≤ g := (h.own.lt g (.inl rfl)).1
  have hn : g ≠ n := fun e => h.far (.inl (by rw [e]; rfl))
  exact ⟨h.rx.other (by show g ≠ _; omega) _, h.bx.other hn _, h.own.setSt k s h2, h.far, h.lo, h.cur.other (by omega) _, h.only.set (by omega) _ _⟩
theorem PrS.fin {B : Nat} {w0 W w : World} {c : Nat} {a : Option Addr} {len cap m n : Nat} {x y z : Value} {p : PR} (h : PrS B w0 W c a len cap m n x y z p w) (hcW : c < W.heap.size) : Own3 (((w.setCell ⟨W.heap.size, 0, none⟩ x).setCell ⟨W.heap.size, 1, none⟩ y).setCell ⟨W.heap.size, 2, none⟩ z) W.heap.size x y z p ∧ Cur B w0 (((w.setCell ⟨W.heap.size, 0, none⟩ x).setCell ⟨W.heap.size, 1, none⟩ y).setCell ⟨W.heap.size, 2, none⟩ z) c a len cap m ∧ Only c W (((w.setCell ⟨W.heap.size, 0, none⟩ x).setCell ⟨W.heap.size, 1, none⟩ y).setCell ⟨W.heap.size, 2, none⟩ z) :=
  ⟨(((h.own.setCell (Nat.lt_succ_self _) _).setCell (Nat.lt_succ_self _) _).setCell (Nat.lt_succ_self _) _).mono (Nat.le_succ _), ((h.cur.other hcW _).other hcW _).other hcW _, ((h.only.set (Nat.le_refl _) _ _).set (Nat.le_refl _) _ _).set (Nat.le_refl _) _ _⟩
theorem two_row {W : World} {B : Nat} {v : Value} {zs : List Int} (h : Own W B v zs) (h2 : zs.length = 2) : ∃ g cap, v = .slice (some ⟨g, 0, none⟩) 2 cap := by
  rcases h.2 with ⟨hv, hn⟩ | ⟨g, cap, cur, hv, -⟩
  · omega
  · exact ⟨g, cap, by rw [hv, h2]⟩
theorem row_cell {W : World} {B g cap : Nat} {zs : List Int} (h : Own W B (.slice (some ⟨g, 0, none⟩) 2 cap) zs) (h2 : zs.length = 2) (j : Nat) (hj : j < 2) : (∃ u, W.cell? ⟨g, j, none⟩ = some u) ∧ W.frozen? ⟨g, j, none⟩ = false := by
  have h' : Own W B (.slice (some ⟨g, 0, none⟩) zs.length cap) zs := by rw [h2]; exact h
  refine ⟨⟨_, by rw [World.ownsRow.cellAt h' j (by simpa [h2] using hj)]; exact List.getElem?_eq_getElem (by simp; omega)⟩, World.ownsRow.frozenAt h' j⟩

/-- What 'pair' leaves: a pair of its own. -/
def PrPost (B : Nat) (w0 W : World) (c : Nat) (a : Option Addr) (len cap m : Nat) (e : Ending) (W' : World) : Prop :=
  ∃ x y z p, e = .returned (.agg #[x, y, z]) ∧ Own3 W' W.heap.size x y z p ∧ p.st.length = 2 ∧ p.lf.length = 2 ∧ p.ln.length ≤ 12 ∧ Cur B w0 W' c a len cap (m + 710) ∧ Only c W W'

set_option maxRecDepth 100000 in
set_option maxHeartbeats 8000000 in
theorem pair_any (B : Nat) (w0 W : World) (c : Nat) (a : Option Addr) (len cap m : Nat) (hC : Code B w0 a len) (hl : len ≤ 9223372036854775807) (hm : m ≤ 50000) (h : Cur B w0 W c a len cap m) :
    Calls Try.prog 66 #[.pointer (some ⟨c, 0, none⟩)] W (PrPost B w0 W c a len cap m) := by
  have HD : Hid (Code B w0 a len) := hC
  have hcW : c < W.heap.size := h.2.1
  have HU : Hid (Cur B w0 (W.alloc (.cells #[.slice none 0 0, .slice none 0 0, .slice none 0 0] 40)) c a len cap m) := curAlloc h _
  have HR0 : Hid (Bx3 (W.alloc (.cells #[.slice none 0 0, .slice none 0 0, .slice none 0 0] 40)) W.heap.size (.slice none 0 0) (.slice none 0 0) (.slice none 0 0)) := Bx3.new _ _ _ _ _
  have HO0 : Hid (Only c W (W.alloc (.cells #[.slice none 0 0, .slice none 0 0, .slice none 0 0] 40))) := onlyAlloc (Only.refl _ _) _
  clear hC h
  go_enter Try.func66, Try.ntmps66
  go_wp2_with fail
  refine (pairSteps_any B w0 _ c a len cap m HD.out hl (by omega) HU.out).mono ?_
  rintro e W1 ⟨v, l, rfl, ho1, hl1, hc1, hO1⟩
  obtain ⟨ss, hss⟩ : ∃ ss, ss = stL l := ⟨_, rfl⟩
  have hsl : ss.length ≤ 1048576 := by rw [hss, stL_len]; omega
  have R1 : Hid (ReadsS W1 v ss) := by rw [hss]; exact ho1.reads.readsS
  have HR1 : Hid (Bx3 W1 W.heap.size (.slice none 0 0) (.slice none 0 0) (.slice none 0 0)) := HR0.out.only hO1 (by omega)
  have HO1 : Hid (Only c W W1) := HO0.out.trans hO1
  have HC1 : Hid (Cur B w0 W1 c a len cap (m + 700)) := hc1
  have hW1 : W.heap.size + 1 ≤ W1.heap.size := HR1.out.lt
  clear ho1 hc1 hO1 HU HR0 HO0 hss
  go_wp2_with fail
  refine (specPlay_any W1 v ss R1.out hsl).mono ?_
  rintro e W2 ⟨x, y, z, b, rfl, ho2, -, hb2⟩
  have hW2 : W1.heap.size ≤ W2.heap.size := hb2.size
  obtain ⟨n3, hn3⟩ : ∃ n, n = W2.heap.size := ⟨_, rfl⟩
  have HA : Hid (∀ ok, ok = playOk ss → (ok = true → ((playOut ss).st.length = 2 ∧ (playOut ss).lf.length = 2 ∧ (playOut ss).ln.length ≤ 12))) := fun ok e h => by
    rw [e] at h
    have hg : goodPr (playOut ss) = true := by unfold playOut; rw [if_pos h]; exact play_good ss _ new_good
    obtain ⟨s0, s1, l0, l1, ln, e, -, -, hL, -⟩ := goodPr_form _ hg
    rw [e]
    exact ⟨rfl, rfl, hL⟩
  obtain ⟨ok, hok⟩ : ∃ ok, ok = playOk ss := ⟨_, rfl⟩
  rw [← hok]
  have HA1 : Hid (ok = true → ((playOut ss).st.length = 2 ∧ (playOut ss).lf.length = 2 ∧ (playOut ss).ln.length ≤ 12)) := HA.out ok hok
  generalize playOut ss = out at *
  obtain ⟨st, lf, ln⟩ := out
  clear HA hok
  cases ok with
  | true =>
    obtain ⟨hst, hlf, hln⟩ : st.length = 2 ∧ lf.length = 2 ∧ ln.length ≤ 12 := HA1.out rfl
    clear HA1
    obtain ⟨g1, c1, rfl⟩ := two_row ho2.st hst
    obtain ⟨g2, c2, rfl⟩ := two_row ho2.lf hlf
    obtain ⟨a3, c3, rfl⟩ : ∃ a c, z = Value.slice a ln.length c := ho2.ln.shape
    have HP5 : Hid (PrS B w0 W c a len cap (m + 700) n3 (.slice (some ⟨g1, 0, none⟩) 2 c1) (.slice (some ⟨g2, 0, none⟩) 2 c2) (.slice a3 ln.length c3) ⟨st, lf, ln⟩ (W2.alloc (.cells #[.slice (some ⟨g1, 0, none⟩) 2 c1, .slice (some ⟨g2, 0, none⟩) 2 c2, .slice a3 ln.length c3] 40))) :=
      ⟨(HR1.out.below hb2).below ((Below.refl _ _).alloc (Nat.le_refl _) _), by rw [hn3]; exact Bx3.new _ _ _ _ _, (ho2.mono hW1).al _, fun hk => by have := (ho2.lt _ hk).2; omega, by omega, (HC1.out.below hb2).below ((Below.refl _ _).alloc (Nat.le_refl _) _), onlyAlloc (HO1.out.trans (below_only hb2 c)) _⟩
    clear ho2 hb2 HR1 HO1 HC1 R1
    go_wp2_with fail
    refine (pick_any B w0 _ c a len cap (m + 700) 20 HD.out hl (by omega) HP5.out.cur (by omega) (by omega)).mono ?_
    rintro e w6 ⟨q, rfl, q0, q1, hc6, ho6⟩
    try rw [← hn3] at ho6
    have HP6 : Hid (PrS B w0 W c a len cap (m + 702) n3 (.slice (some ⟨g1, 0, none⟩) 2 c1) (.slice (some ⟨g2, 0, none⟩) 2 c2) (.slice a3 ln.length c3) ⟨st, lf, ln⟩ w6) := HP5.out.move hcW ho6 hc6
    rw [← hn3]
    clear hc6 ho6 HP5 hn3
    by_cases z0 : q = 0
    · subst z0
      go_wp2
      replace HP6 : Hid (PrS B w0 W c a len cap (m + 702) n3 (.slice (some ⟨g1, 0, none⟩) 2 c1) (.slice (some ⟨g2, 0, none⟩) 2 c2) (.slice a3 ln.length c3) ⟨st, lf, ln⟩ w6.drew) := HP6.out.drew
      refine wp_region_held_drew (S := (fun w' => w'.cell? ⟨n3, 1, none⟩ = some (.slice (some ⟨g2, 0, none⟩) 2 c2))) (by kernel_rfl) ?_ (fun hHeld => ?_)
      · exact HP6.out.bx.c1
      refine handRead 0 (some 23) (.pointer (some ⟨n3, 1, none⟩)) rfl rfl (by kernel_rfl) (by kernel_rfl) (by kernel_rfl) (fun _ _ _ h => h) (by kernel_rfl) (by assumption) ?_ ?_
      · intro w hSw
        (try dsimp only at hSw)
        go_simp
      simp only [Act.put, List.setIfInBounds_toArray, List.set_cons_zero, List.set_cons_succ]
      refine handRead 1 (some 24) (.slice (some ⟨g2, 0, none⟩) 2 c2) rfl rfl (by kernel_rfl) (by kernel_rfl) (by kernel_rfl) (fun _ _ _ h => h) (by kernel_rfl) (by assumption) ?_ ?_
      · intro w hSw
        (try dsimp only at hSw)
        go_simp
      simp only [Act.put, List.setIfInBounds_toArray, List.set_cons_zero, List.set_cons_succ]
      refine handRead 2 (some 25) (.pointer (some ⟨c, 0, none⟩)) rfl rfl (by kernel_rfl) (by kernel_rfl) (by kernel_rfl) (fun _ _ _ h => h) (by kernel_rfl) (by assumption) ?_ ?_
      · intro w hSw
        (try dsimp only at hSw)
        go_simp
      simp only [Act.put, List.setIfInBounds_toArray, List.set_cons_zero, List.set_cons_succ]
      refine handCall 3 (some 26) 63 #[.pointer (some ⟨c, 0, none⟩), .int .i64 5] (by kernel_rfl) rfl rfl (by kernel_rfl) (by simp [go_sem]) ((pick_any B w0 _ c a len cap (m + 702) 5 HD.out hl (by omega) HP6.out.cur (by omega) (by omega)).mono ?_)
      rintro e w7 ⟨r, rfl, r0, r1, hc7, ho7⟩
      have HP7 : Hid (PrS B w0 W c a len cap (m + 704) n3 (.slice (some ⟨g1, 0, none⟩) 2 c1) (.slice (some ⟨g2, 0, none⟩) 2 c2) (.slice a3 ln.length c3) ⟨st, lf, ln⟩ w7) := HP6.out.move hcW ho7 hc7
      clear hc7 ho7
      refine ⟨_, rfl, (by exact HP7.out.bx.c1), fun hHeld => ?_⟩
      simp only [Act.put, List.setIfInBounds_toArray, List.set_cons_zero, List.set_cons_succ]
      refine handRead 4 (some 27) (.pointer (some ⟨g2, 0, none⟩)) rfl rfl (by kernel_rfl) (by kernel_rfl) (by kernel_rfl) (fun _ _ _ h => h) (by kernel_rfl) (by assumption) ?_ ?_
      · intro w hSw
        (try dsimp only at hSw)
        go_simp
      simp only [Act.put, List.setIfInBounds_toArray, List.set_cons_zero, List.set_cons_succ]
      obtain ⟨⟨u, hu⟩, hfz⟩ := row_cell HP7.out.own.lf hlf 0 (by omega)
      have HP8 : Hid (PrS B w0 W c a len cap (m + 704) n3 (.slice (some ⟨g1, 0, none⟩) 2 c1) (.slice (some ⟨g2, 0, none⟩) 2 c2) (.slice a3 ln.length c3) ⟨st, lf.set 0 r, ln⟩ (w7.setCell ⟨g2, 0, none⟩ (.int .i64 r))) := HP7.out.setLf hcW 0 _ hlf.symm
      refine wpAnyH_ready (rs := [5]) (by kernel_rfl) (by simp) ?_
      refine AllReadyH.cons rfl (fun K hK => ?_) AllReadyH.nil
      go_simp
      refine hK.out _ _ ?_ (fun hHeld => ?_)
      · exact HP8.out.bx.c1
      clear hK K
      try simp only [Act.put, List.setIfInBounds_toArray, List.set_cons_zero, List.set_cons_succ]
      refine wpAnyH_done (by kernel_rfl) ?_ _
      clear hu hfz hHeld HP7 HP6
      generalize (w7.setCell ⟨g2, 0, none⟩ (.int .i64 r)) = w8 at HP8 ⊢
      have r0 := HP8.out.rx.c0
      have r1 := HP8.out.rx.c1
      have r2 := HP8.out.rx.c2
      have fr0 := HP8.out.rx.fz 0
      have fr1 := HP8.out.rx.fz 1
      have fr2 := HP8.out.rx.fz 2
      have b0 := HP8.out.bx.c0
      have b1 := HP8.out.bx.c1
      have b2 := HP8.out.bx.c2
      go_wp2
      refine bodyPost_ret (v := .agg #[.slice (some ⟨g1, 0, none⟩) 2 c1, .slice (some ⟨g2, 0, none⟩) 2 c2, .slice a3 ln.length c3]) (by simp [results, Try.results66, go_sem, r0, r1, r2]) rfl ?_
      obtain ⟨k1, k2, k3⟩ := HP8.out.fin hcW
      exact ⟨_, _, _, _, rfl, k1, hst, by simpa using hlf, hln, k2.mono (by omega), k3⟩
    · have z0' : decide (q = 0) = false := decide_eq_false z0
      by_cases z1 : q = 1
      · subst z1
        go_wp2
        replace HP6 : Hid (PrS B w0 W c a len cap (m + 702) n3 (.slice (some ⟨g1, 0, none⟩) 2 c1) (.slice (some ⟨g2, 0, none⟩) 2 c2) (.slice a3 ln.length c3) ⟨st, lf, ln⟩ w6.drew) := HP6.out.drew
        refine wp_region_held_drew (S := (fun w' => w'.cell? ⟨n3, 0, none⟩ = some (.slice (some ⟨g1, 0, none⟩) 2 c1))) (by kernel_rfl) ?_ (fun hHeld => ?_)
        · exact HP6.out.bx.c0
        refine handRead 0 (some 30) (.pointer (some ⟨n3, 0, none⟩)) rfl rfl (by kernel_rfl) (by kernel_rfl) (by kernel_rfl) (fun _ _ _ h => h) (by kernel_rfl) (by assumption) ?_ ?_
        · intro w hSw
          (try dsimp only at hSw)
          go_simp
        simp only [Act.put, List.setIfInBounds_toArray, List.set_cons_zero, List.set_cons_succ]
        refine handRead 1 (some 31) (.slice (some ⟨g1, 0, none⟩) 2 c1) rfl rfl (by kernel_rfl) (by kernel_rfl) (by kernel_rfl) (fun _ _ _ h => h) (by kernel_rfl) (by assumption) ?_ ?_
        · intro w hSw
          (try dsimp only at hSw)
          go_simp
        simp only [Act.put, List.setIfInBounds_toArray, List.set_cons_zero, List.set_cons_succ]
        refine handRead 2 (some 32) (.pointer (some ⟨c, 0, none⟩)) rfl rfl (by kernel_rfl) (by kernel_rfl) (by kernel_rfl) (fun _ _ _ h => h) (by kernel_rfl) (by assumption) ?_ ?_
        · intro w hSw
          (try dsimp only at hSw)
          go_simp
        simp only [Act.put, List.setIfInBounds_toArray, List.set_cons_zero, List.set_cons_succ]
        refine handCall 3 (some 33) 63 #[.pointer (some ⟨c, 0, none⟩), .int .i64 5] (by kernel_rfl) rfl rfl (by kernel_rfl) (by simp [go_sem]) ((pick_any B w0 _ c a len cap (m + 702) 5 HD.out hl (by omega) HP6.out.cur (by omega) (by omega)).mono ?_)
        rintro e w7 ⟨r, rfl, r0, r1, hc7, ho7⟩
        have HP7 : Hid (PrS B w0 W c a len cap (m + 704) n3 (.slice (some ⟨g1, 0, none⟩) 2 c1) (.slice (some ⟨g2, 0, none⟩) 2 c2) (.slice a3 ln.length c3) ⟨st, lf, ln⟩ w7) := HP6.out.move hcW ho7 hc7
        clear hc7 ho7
        refine ⟨_, rfl, (by exact HP7.out.bx.c0), fun hHeld => ?_⟩
        simp only [Act.put, List.setIfInBounds_toArray, List.set_cons_zero, List.set_cons_succ]
        refine handRead 4 (some 34) (.int .i64 (r - 1)) rfl rfl (by kernel_rfl) (by kernel_rfl) (by kernel_rfl) (fun _ _ _ h => h) (by kernel_rfl) (by assumption) ?_ ?_
        · intro w hSw
          (try dsimp only at hSw)
          go_simp
          (rw [IntKind.wrap_i64]; omega)
        simp only [Act.put, List.setIfInBounds_toArray, List.set_cons_zero, List.set_cons_succ]
        refine handRead 5 (some 35) (.pointer (some ⟨g1, 1, none⟩)) rfl rfl (by kernel_rfl) (by kernel_rfl) (by kernel_rfl) (fun _ _ _ h => h) (by kernel_rfl) (by assumption) ?_ ?_
        · intro w hSw
          (try dsimp only at hSw)
          go_simp
        simp only [Act.put, List.setIfInBounds_toArray, List.set_cons_zero, List.set_cons_succ]
        obtain ⟨⟨u, hu⟩, hfz⟩ := row_cell HP7.out.own.st hst 1 (by omega)
        have HP8 : Hid (PrS B w0 W c a len cap (m + 704) n3 (.slice (some ⟨g1, 0, none⟩) 2 c1) (.slice (some ⟨g2, 0, none⟩) 2 c2) (.slice a3 ln.length c3) ⟨st.set 1 (r - 1), lf, ln⟩ (w7.setCell ⟨g1, 1, none⟩ (.int .i64 (r - 1)))) := HP7.out.setSt hcW 1 _ hst.symm
        refine wpAnyH_ready (rs := [6]) (by kernel_rfl) (by simp) ?_
        refine AllReadyH.cons rfl (fun K hK => ?_) AllReadyH.nil
        go_simp
        refine hK.out _ _ ?_ (fun hHeld => ?_)
        · exact HP8.out.bx.c0
        clear hK K
        try simp only [Act.put, List.setIfInBounds_toArray, List.set_cons_zero, List.set_cons_succ]
        refine wpAnyH_done (by kernel_rfl) ?_ _
        clear hu hfz hHeld HP7 HP6
        generalize (w7.setCell ⟨g1, 1, none⟩ (.int .i64 (r - 1))) = w8 at HP8 ⊢
        have r0 := HP8.out.rx.c0
        have r1 := HP8.out.rx.c1
        have r2 := HP8.out.rx.c2
        have fr0 := HP8.out.rx.fz 0
        have fr1 := HP8.out.rx.fz 1
        have fr2 := HP8.out.rx.fz 2
        have b0 := HP8.out.bx.c0
        have b1 := HP8.out.bx.c1
        have b2 := HP8.out.bx.c2
        go_wp2
        refine bodyPost_ret (v := .agg #[.slice (some ⟨g1, 0, none⟩) 2 c1, .slice (some ⟨g2, 0, none⟩) 2 c2, .slice a3 ln.length c3]) (by simp [results, Try.results66, go_sem, r0, r1, r2]) rfl ?_
        obtain ⟨k1, k2, k3⟩ := HP8.out.fin hcW
        exact ⟨_, _, _, _, rfl, k1, by simpa using hst, hlf, hln, k2.mono (by omega), k3⟩
      · have z1' : decide (q = 1) = false := decide_eq_false z1
        have HP8 := HP6
        clear HP6
        generalize hw8 : w6 = w8 at *
        clear hw8
        have r0 := HP8.out.rx.c0
        have r1 := HP8.out.rx.c1
        have r2 := HP8.out.rx.c2
        have fr0 := HP8.out.rx.fz 0
        have fr1 := HP8.out.rx.fz 1
        have fr2 := HP8.out.rx.fz 2
        have b0 := HP8.out.bx.c0
        have b1 := HP8.out.bx.c1
        have b2 := HP8.out.bx.c2
        go_wp2
        refine bodyPost_ret (v := .agg #[.slice (some ⟨g1, 0, none⟩) 2 c1, .slice (some ⟨g2, 0, none⟩) 2 c2, .slice a3 ln.length c3]) (by simp [results, Try.results66, go_sem, r0, r1, r2]) rfl ?_
        obtain ⟨k1, k2, k3⟩ := HP8.out.fin hcW
        exact ⟨_, _, _, _, rfl, k1, hst, hlf, hln, k2.mono (by omega), k3⟩
  | false =>
    clear HA1
    obtain ⟨b1, b4, rfl⟩ : ∃ a c, x = Value.slice a st.length c := ho2.st.shape
    obtain ⟨b2, b5, rfl⟩ : ∃ a c, y = Value.slice a lf.length c := ho2.lf.shape
    obtain ⟨b3, b6, rfl⟩ : ∃ a c, z = Value.slice a ln.length c := ho2.ln.shape
    have HB3 : Hid (Bx3 (W2.alloc (.cells #[.slice b1 st.length b4, .slice b2 lf.length b5, .slice b3 ln.length b6] 40)) n3 (.slice b1 st.length b4) (.slice b2 lf.length b5) (.slice b3 ln.length b6)) := by rw [hn3]; exact Bx3.new _ _ _ _ _
    have HR3 : Hid (Bx3 (W2.alloc (.cells #[.slice b1 st.length b4, .slice b2 lf.length b5, .slice b3 ln.length b6] 40)) W.heap.size (.slice none 0 0) (.slice none 0 0) (.slice none 0 0)) := (HR1.out.below hb2).below ((Below.refl _ _).alloc (Nat.le_refl _) _)
    have HC3 : Hid (Cur B w0 (W2.alloc (.cells #[.slice b1 st.length b4, .slice b2 lf.length b5, .slice b3 ln.length b6] 40)) c a len cap (m + 700)) := (HC1.out.below hb2).below ((Below.refl _ _).alloc (Nat.le_refl _) _)
    have HO3 : Hid (Only c W (W2.alloc (.cells #[.slice b1 st.length b4, .slice b2 lf.length b5, .slice b3 ln.length b6] 40))) := onlyAlloc (HO1.out.trans (below_only hb2 c)) _
    have hn3s : n3 < (W2.alloc (.cells #[.slice b1 st.length b4, .slice b2 lf.length b5, .slice b3 ln.length b6] 40)).heap.size := HB3.out.lt
    clear ho2 hb2 HR1 HO1 HC1 R1
    go_wp2_with fail
    refine (specNew_any 2 _).mono ?_
    obtain ⟨st, lf, ln, hp, hst, hlf, hln⟩ : ∃ st lf ln, newP 2 = ⟨st, lf, ln⟩ ∧ st.length = 2 ∧ lf.length = 2 ∧ ln.length ≤ 12 := ⟨_, _, _, rfl, rfl, rfl, by decide⟩
    rw [hp]
    rintro e W4 ⟨x, y, z, rfl, ho4, hb4⟩
    obtain ⟨g1, c1, rfl⟩ := two_row ho4.st hst
    obtain ⟨g2, c2, rfl⟩ := two_row ho4.lf hlf
    obtain ⟨a3, c3, rfl⟩ : ∃ a c, z = Value.slice a ln.length c := ho4.ln.shape
    have hB4 := HB3.out.below hb4
    have m0 := hB4.c0
    have m1 := hB4.c1
    have m2 := hB4.c2
    have f0 := hB4.fz 0
    have f1 := hB4.fz 1
    have f2 := hB4.fz 2
    have HP5 : Hid (PrS B w0 W c a len cap (m + 700) n3 (.slice (some ⟨g1, 0, none⟩) 2 c1) (.slice (some ⟨g2, 0, none⟩) 2 c2) (.slice a3 ln.length c3) ⟨st, lf, ln⟩ (((W4.setCell ⟨n3, 0, none⟩ (.slice (some ⟨g1, 0, none⟩) 2 c1)).setCell ⟨n3, 1, none⟩ (.slice (some ⟨g2, 0, none⟩) 2 c2)).setCell ⟨n3, 2, none⟩ (.slice a3 ln.length c3))) :=
      ⟨(((HR3.out.below hb4).other (by show n3 ≠ _; omega) _).other (by show n3 ≠ _; omega) _).other (by show n3 ≠ _; omega) _, ((hB4.put0 _).put1 _).put2 _, (((ho4.setCell hn3s _).setCell hn3s _).setCell hn3s _).mono (by omega), fun hk => by have := (ho4.lt _ hk).1; omega, by omega, (((HC3.out.below hb4).other (by omega) _).other (by omega) _).other (by omega) _, (((HO3.out.trans (below_only hb4 c)).set (by omega) _ _).set (by omega) _ _).set (by omega) _ _⟩
    clear ho4 hb4 hB4 HB3 HR3 HC3 HO3
    simp only [hn3] at m0 m1 m2 f0 f1 f2
    go_wp2_with fail
    refine (pick_any B w0 _ c a len cap (m + 700) 20 HD.out hl (by omega) (by have := HP5.out.cur; simp only [hn3] at this; exact this) (by omega) (by omega)).mono ?_
    rintro e w6 ⟨q, rfl, q0, q1, hc6, ho6⟩
    try rw [← hn3] at ho6
    have HP6 : Hid (PrS B w0 W c a len cap (m + 702) n3 (.slice (some ⟨g1, 0, none⟩) 2 c1) (.slice (some ⟨g2, 0, none⟩) 2 c2) (.slice a3 ln.length c3) ⟨st, lf, ln⟩ w6) := HP5.out.move hcW ho6 hc6
    rw [← hn3]
    clear hc6 ho6 HP5 hn3 m0 m1 m2 f0 f1 f2 hn3s
    by_cases z0 : q = 0
    · subst z0
      go_wp2
      replace HP6 : Hid (PrS B w0 W c a len cap (m + 702) n3 (.slice (some ⟨g1, 0, none⟩) 2 c1) (.slice (some ⟨g2, 0, none⟩) 2 c2) (.slice a3 ln.length c3) ⟨st, lf, ln⟩ w6.drew) := HP6.out.drew
      refine wp_region_held_drew (S := (fun w' => w'.cell? ⟨n3, 1, none⟩ = some (.slice (some ⟨g2, 0, none⟩) 2 c2))) (by kernel_rfl) ?_ (fun hHeld => ?_)
      · exact HP6.out.bx.c1
      refine handRead 0 (some 23) (.pointer (some ⟨n3, 1, none⟩)) rfl rfl (by kernel_rfl) (by kernel_rfl) (by kernel_rfl) (fun _ _ _ h => h) (by kernel_rfl) (by assumption) ?_ ?_
      · intro w hSw
        (try dsimp only at hSw)
        go_simp
      simp only [Act.put, List.setIfInBounds_toArray, List.set_cons_zero, List.set_cons_succ]
      refine handRead 1 (some 24) (.slice (some ⟨g2, 0, none⟩) 2 c2) rfl rfl (by kernel_rfl) (by kernel_rfl) (by kernel_rfl) (fun _ _ _ h => h) (by kernel_rfl) (by assumption) ?_ ?_
      · intro w hSw
        (try dsimp only at hSw)
        go_simp
      simp only [Act.put, List.setIfInBounds_toArray, List.set_cons_zero, List.set_cons_succ]
      refine handRead 2 (some 25) (.pointer (some ⟨c, 0, none⟩)) rfl rfl (by kernel_rfl) (by kernel_rfl) (by kernel_rfl) (fun _ _ _ h => h) (by kernel_rfl) (by assumption) ?_ ?_
      · intro w hSw
        (try dsimp only at hSw)
        go_simp
      simp only [Act.put, List.setIfInBounds_toArray, List.set_cons_zero, List.set_cons_succ]
      refine handCall 3 (some 26) 63 #[.pointer (some ⟨c, 0, none⟩), .int .i64 5] (by kernel_rfl) rfl rfl (by kernel_rfl) (by simp [go_sem]) ((pick_any B w0 _ c a len cap (m + 702) 5 HD.out hl (by omega) HP6.out.cur (by omega) (by omega)).mono ?_)
      rintro e w7 ⟨r, rfl, r0, r1, hc7, ho7⟩
      have HP7 : Hid (PrS B w0 W c a len cap (m + 704) n3 (.slice (some ⟨g1, 0, none⟩) 2 c1) (.slice (some ⟨g2, 0, none⟩) 2 c2) (.slice a3 ln.length c3) ⟨st, lf, ln⟩ w7) := HP6.out.move hcW ho7 hc7
      clear hc7 ho7
      refine ⟨_, rfl, (by exact HP7.out.bx.c1), fun hHeld => ?_⟩
      simp only [Act.put, List.setIfInBounds_toArray, List.set_cons_zero, List.set_cons_succ]
      refine handRead 4 (some 27) (.pointer (some ⟨g2, 0, none⟩)) rfl rfl (by kernel_rfl) (by kernel_rfl) (by kernel_rfl) (fun _ _ _ h => h) (by kernel_rfl) (by assumption) ?_ ?_
      · intro w hSw
        (try dsimp only at hSw)
        go_simp
      simp only [Act.put, List.setIfInBounds_toArray, List.set_cons_zero, List.set_cons_succ]
      obtain ⟨⟨u, hu⟩, hfz⟩ := row_cell HP7.out.own.lf hlf 0 (by omega)
      have HP8 : Hid (PrS B w0 W c a len cap (m + 704) n3 (.slice (some ⟨g1, 0, none⟩) 2 c1) (.slice (some ⟨g2, 0, none⟩) 2 c2) (.slice a3 ln.length c3) ⟨st, lf.set 0 r, ln⟩ (w7.setCell ⟨g2, 0, none⟩ (.int .i64 r))) := HP7.out.setLf hcW 0 _ hlf.symm
      refine wpAnyH_ready (rs := [5]) (by kernel_rfl) (by simp) ?_
      refine AllReadyH.cons rfl (fun K hK => ?_) AllReadyH.nil
      go_simp
      refine hK.out _ _ ?_ (fun hHeld => ?_)
      · exact HP8.out.bx.c1
      clear hK K
      try simp only [Act.put, List.setIfInBounds_toArray, List.set_cons_zero, List.set_cons_succ]
      refine wpAnyH_done (by kernel_rfl) ?_ _
      clear hu hfz hHeld HP7 HP6
      generalize (w7.setCell ⟨g2, 0, none⟩ (.int .i64 r)) = w8 at HP8 ⊢
      have r0 := HP8.out.rx.c0
      have r1 := HP8.out.rx.c1
      have r2 := HP8.out.rx.c2
      have fr0 := HP8.out.rx.fz 0
      have fr1 := HP8.out.rx.fz 1
      have fr2 := HP8.out.rx.fz 2
      have b0 := HP8.out.bx.c0
      have b1 := HP8.out.bx.c1
      have b2 := HP8.out.bx.c2
      go_wp2
      refine bodyPost_ret (v := .agg #[.slice (some ⟨g1, 0, none⟩) 2 c1, .slice (some ⟨g2, 0, none⟩) 2 c2, .slice a3 ln.length c3]) (by simp [results, Try.results66, go_sem, r0, r1, r2]) rfl ?_
      obtain ⟨k1, k2, k3⟩ := HP8.out.fin hcW
      exact ⟨_, _, _, _, rfl, k1, hst, by simpa using hlf, hln, k2.mono (by omega), k3⟩
    · have z0' : decide (q = 0) = false := decide_eq_false z0
      by_cases z1 : q = 1
      · subst z1
        go_wp2
        replace HP6 : Hid (PrS B w0 W c a len cap (m + 702) n3 (.slice (some ⟨g1, 0, none⟩) 2 c1) (.slice (some ⟨g2, 0, none⟩) 2 c2) (.slice a3 ln.length c3) ⟨st, lf, ln⟩ w6.drew) := HP6.out.drew
        refine wp_region_held_drew (S := (fun w' => w'.cell? ⟨n3, 0, none⟩ = some (.slice (some ⟨g1, 0, none⟩) 2 c1))) (by kernel_rfl) ?_ (fun hHeld => ?_)
        · exact HP6.out.bx.c0
        refine handRead 0 (some 30) (.pointer (some ⟨n3, 0, none⟩)) rfl rfl (by kernel_rfl) (by kernel_rfl) (by kernel_rfl) (fun _ _ _ h => h) (by kernel_rfl) (by assumption) ?_ ?_
        · intro w hSw
          (try dsimp only at hSw)
          go_simp
        simp only [Act.put, List.setIfInBounds_toArray, List.set_cons_zero, List.set_cons_succ]
        refine handRead 1 (some 31) (.slice (some ⟨g1, 0, none⟩) 2 c1) rfl rfl (by kernel_rfl) (by kernel_rfl) (by kernel_rfl) (fun _ _ _ h => h) (by kernel_rfl) (by assumption) ?_ ?_
        · intro w hSw
          (try dsimp only at hSw)
          go_simp
        simp only [Act.put, List.setIfInBounds_toArray, List.set_cons_zero, List.set_cons_succ]
        refine handRead 2 (some 32) (.pointer (some ⟨c, 0, none⟩)) rfl rfl (by kernel_rfl) (by kernel_rfl) (by kernel_rfl) (fun _ _ _ h => h) (by kernel_rfl) (by assumption) ?_ ?_
        · intro w hSw
          (try dsimp only at hSw)
          go_simp
        simp only [Act.put, List.setIfInBounds_toArray, List.set_cons_zero, List.set_cons_succ]
        refine handCall 3 (some 33) 63 #[.pointer (some ⟨c, 0, none⟩), .int .i64 5] (by kernel_rfl) rfl rfl (by kernel_rfl) (by simp [go_sem]) ((pick_any B w0 _ c a len cap (m + 702) 5 HD.out hl (by omega) HP6.out.cur (by omega) (by omega)).mono ?_)
        rintro e w7 ⟨r, rfl, r0, r1, hc7, ho7⟩
        have HP7 : Hid (PrS B w0 W c a len cap (m + 704) n3 (.slice (some ⟨g1, 0, none⟩) 2 c1) (.slice (some ⟨g2, 0, none⟩) 2 c2) (.slice a3 ln.length c3) ⟨st, lf, ln⟩ w7) := HP6.out.move hcW ho7 hc7
        clear hc7 ho7
        refine ⟨_, rfl, (by exact HP7.out.bx.c0), fun hHeld => ?_⟩
        simp only [Act.put, List.setIfInBounds_toArray, List.set_cons_zero, List.set_cons_succ]
        refine handRead 4 (some 34) (.int .i64 (r - 1)) rfl rfl (by kernel_rfl) (by kernel_rfl) (by kernel_rfl) (fun _ _ _ h => h) (by kernel_rfl) (by assumption) ?_ ?_
        · intro w hSw
          (try dsimp only at hSw)
          go_simp
          (rw [IntKind.wrap_i64]; omega)
        simp only [Act.put, List.setIfInBounds_toArray, List.set_cons_zero, List.set_cons_succ]
        refine handRead 5 (some 35) (.pointer (some ⟨g1, 1, none⟩)) rfl rfl (by kernel_rfl) (by kernel_rfl) (by kernel_rfl) (fun _ _ _ h => h) (by kernel_rfl) (by assumption) ?_ ?_
        · intro w hSw
          (try dsimp only at hSw)
          go_simp
        simp only [Act.put, List.setIfInBounds_toArray, List.set_cons_zero, List.set_cons_succ]
        obtain ⟨⟨u, hu⟩, hfz⟩ := row_cell HP7.out.own.st hst 1 (by omega)
        have HP8 : Hid (PrS B w0 W c a len cap (m + 704) n3 (.slice (some ⟨g1, 0, none⟩) 2 c1) (.slice (some ⟨g2, 0, none⟩) 2 c2) (.slice a3 ln.length c3) ⟨st.set 1 (r - 1), lf, ln⟩ (w7.setCell ⟨g1, 1, none⟩ (.int .i64 (r - 1)))) := HP7.out.setSt hcW 1 _ hst.symm
        refine wpAnyH_ready (rs := [6]) (by kernel_rfl) (by simp) ?_
        refine AllReadyH.cons rfl (fun K hK => ?_) AllReadyH.nil
        go_simp
        refine hK.out _ _ ?_ (fun hHeld => ?_)
        · exact HP8.out.bx.c0
        clear hK K
        try simp only [Act.put, List.setIfInBounds_toArray, List.set_cons_zero, List.set_cons_succ]
        refine wpAnyH_done (by kernel_rfl) ?_ _
        clear hu hfz hHeld HP7 HP6
        generalize (w7.setCell ⟨g1, 1, none⟩ (.int .i64 (r - 1))) = w8 at HP8 ⊢
        have r0 := HP8.out.rx.c0
        have r1 := HP8.out.rx.c1
        have r2 := HP8.out.rx.c2
        have fr0 := HP8.out.rx.fz 0
        have fr1 := HP8.out.rx.fz 1
        have fr2 := HP8.out.rx.fz 2
        have b0 := HP8.out.bx.c0
        have b1 := HP8.out.bx.c1
        have b2 := HP8.out.bx.c2
        go_wp2
        refine bodyPost_ret (v := .agg #[.slice (some ⟨g1, 0, none⟩) 2 c1, .slice (some ⟨g2, 0, none⟩) 2 c2, .slice a3 ln.length c3]) (by simp [results, Try.results66, go_sem, r0, r1, r2]) rfl ?_
        obtain ⟨k1, k2, k3⟩ := HP8.out.fin hcW
        exact ⟨_, _, _, _, rfl, k1, by simpa using hst, hlf, hln, k2.mono (by omega), k3⟩
      · have z1' : decide (q = 1) = false := decide_eq_false z1
        have HP8 := HP6
        clear HP6
        generalize hw8 : w6 = w8 at *
        clear hw8
        have r0 := HP8.out.rx.c0
        have r1 := HP8.out.rx.c1
        have r2 := HP8.out.rx.c2
        have fr0 := HP8.out.rx.fz 0
        have fr1 := HP8.out.rx.fz 1
        have fr2 := HP8.out.rx.fz 2
        have b0 := HP8.out.bx.c0
        have b1 := HP8.out.bx.c1
        have b2 := HP8.out.bx.c2
        go_wp2
        refine bodyPost_ret (v := .agg #[.slice (some ⟨g1, 0, none⟩) 2 c1, .slice (some ⟨g2, 0, none⟩) 2 c2, .slice a3 ln.length c3]) (by simp [results, Try.results66, go_sem, r0, r1, r2]) rfl ?_
        obtain ⟨k1, k2, k3⟩ := HP8.out.fin hcW
        exact ⟨_, _, _, _, rfl, k1, hst, hlf, hln, k2.mono (by omega), k3⟩
end Go.Proofs.Ytchddjidjfpehaa

namespace Go.Proofs.Ytchddjidjfpehaa
open Go.RowKit
set_option linter.unusedVariables false

theorem code_since {B : Nat} {w0 W : World} {a : Option Addr} {len : Nat} (h : Code B w0 a len) (hs : Since B w0 W) : Code W.heap.size W a len := by
  rcases h with h | ⟨b, off, ha, hb, hc⟩
  · exact .inl h
  · refine .inr ⟨b, off, ha, Nat.lt_of_lt_of_le hb hs.2, fun j hj => ?_⟩
    obtain ⟨z, z0, z1, hz⟩ := hc j hj
    exact ⟨z, z0, z1, (World.cell?_of_block (a := ⟨b, off + j, none⟩) (hs.1.block b hb)).trans hz⟩
theorem Below.set3 {B bx : Nat} {w0 w : World} (ha : B ≤ bx) (h : Below B w0 w) (x y z : Value) : Below B w0 (((w.setCell ⟨bx, 0, none⟩ x).setCell ⟨bx, 1, none⟩ y).setCell ⟨bx, 2, none⟩ z) := ((h.setCell ha x).setCell ha y).setCell ha z

set_option maxRecDepth 100000 in
set_option maxHeartbeats 4000000 in
theorem drawGood_any (W : World) (a : Option Addr) (len cap : Nat) (hC : Code W.heap.size W a len) (hl : len ≤ 9223372036854775807) :
    Calls Try.prog 68 #[.slice a len cap] W fun e W' => ∃ x y z p, e = .returned (.agg #[x, y, z]) ∧ Own3 W' W.heap.size x y z p ∧ p.st.length = 2 ∧ p.lf.length = 2 ∧ p.ln.length ≤ 12 ∧ Below W.heap.size W W' := by
  have HD : Hid (Code W.heap.size W a len) := hC
  have HR : Hid (Bx3 ((W.alloc (.cells #[.slice none 0 0, .slice none 0 0, .slice none 0 0] 40)).alloc (.cells #[.slice a len cap, .int .i64 0, .int .u64 0] 67)) W.heap.size (.slice none 0 0) (.slice none 0 0) (.slice none 0 0)) := (Bx3.new _ _ _ _ _).below ((Below.refl _ _).alloc (Nat.le_refl _) _)
  have HU : Hid (Cur W.heap.size W ((W.alloc (.cells #[.slice none 0 0, .slice none 0 0, .slice none 0 0] 40)).alloc (.cells #[.slice a len cap, .int .i64 0, .int .u64 0] 67)) (W.heap.size + 1) a len cap 0) := by
    have := cur_new a len cap 67 ((Since.start W).step (w' := (W.alloc (.cells #[.slice none 0 0, .slice none 0 0, .slice none 0 0] 40))) ((Below.refl _ _).alloc (Nat.le_refl _) _))
    exact (show Cur _ _ _ _ _ _ _ _ by simpa using this)
  clear hC
  go_enter Try.func68, Try.ntmps68
  go_wp2_with fail
  refine (pair_any W.heap.size W _ _ a len cap 0 HD.out hl (by omega) HU.out).mono ?_
  rintro e w1 ⟨x, y, z, p, rfl, ho, hst, hlf, hln, hc1, hO1⟩
  obtain ⟨g1, c1, rfl⟩ := two_row ho.st hst
  obtain ⟨g2, c2, rfl⟩ := two_row ho.lf hlf
  obtain ⟨a3, c3, rfl⟩ : ∃ a c, z = Value.slice a p.ln.length c := ho.ln.shape
  have hr := HR.out.only hO1 (by omega)
  have r0 := hr.c0
  have fr0 := hr.fz 0
  have r1 := hr.c1
  have fr1 := hr.fz 1
  have r2 := hr.c2
  have fr2 := hr.fz 2
  have hs1 : Since W.heap.size W w1 := hc1.2.2.1
  have HB : Hid (Below W.heap.size W (((w1.setCell ⟨W.heap.size, 0, none⟩ (.slice (some ⟨g1, 0, none⟩) 2 c1)).setCell ⟨W.heap.size, 1, none⟩ (.slice (some ⟨g2, 0, none⟩) 2 c2)).setCell ⟨W.heap.size, 2, none⟩ (.slice a3 p.ln.length c3))) := Below.set3 (Nat.le_refl _) hs1.1 _ _ _
  have HO : Hid (Own3 (((w1.setCell ⟨W.heap.size, 0, none⟩ (.slice (some ⟨g1, 0, none⟩) 2 c1)).setCell ⟨W.heap.size, 1, none⟩ (.slice (some ⟨g2, 0, none⟩) 2 c2)).setCell ⟨W.heap.size, 2, none⟩ (.slice a3 p.ln.length c3)) W.heap.size (.slice (some ⟨g1, 0, none⟩) 2 c1) (.slice (some ⟨g2, 0, none⟩) 2 c2) (.slice a3 p.ln.length c3) p) := (((ho.setCell (by show W.heap.size < _; first | (simp; done) | (simp; omega)) _).setCell (by show W.heap.size < _; first | (simp; done) | (simp; omega)) _).setCell (by show W.heap.size < _; first | (simp; done) | (simp; omega)) _).mono (by first | (simp; done) | (simp; omega))
  clear ho hr hc1 hO1 hs1 HU HR
  go_wp2
  refine bodyPost_ret (v := .agg #[.slice (some ⟨g1, 0, none⟩) 2 c1, .slice (some ⟨g2, 0, none⟩) 2 c2, .slice a3 p.ln.length c3]) (by simp [results, Try.results68, go_sem, r0, r1, r2]) rfl ?_
  exact ⟨_, _, _, p, rfl, HO.out, hst, hlf, hln, HB.out⟩

set_option maxRecDepth 100000 in
set_option maxHeartbeats 4000000 in
theorem drawSettle_any (W : World) (a : Option Addr) (len cap : Nat) (hC : Code W.heap.size W a len) (hl : len ≤ 9223372036854775807) :
    Calls Try.prog 32 #[.slice a len cap] W fun e W' => ∃ x y z p, e = .returned (.agg #[x, y, z]) ∧ Own3 W' W.heap.size x y z p ∧ p.st.length = 2 ∧ p.lf.length = 2 ∧ p.ln.length ≤ 12 ∧ Below W.heap.size W W' := by
  have HD : Hid (Code (W.alloc (.cells #[.slice none 0 0, .slice none 0 0, .slice none 0 0] 40)).heap.size (W.alloc (.cells #[.slice none 0 0, .slice none 0 0, .slice none 0 0] 40)) a len) := code_since hC ((Since.start W).step ((Below.refl _ _).alloc (Nat.le_refl _) _))
  have HR : Hid (Bx3 (W.alloc (.cells #[.slice none 0 0, .slice none 0 0, .slice none 0 0] 40)) W.heap.size (.slice none 0 0) (.slice none 0 0) (.slice none 0 0)) := Bx3.new _ _ _ _ _
  clear hC
  go_enter Try.func32, Try.ntmps32
  go_wp2_with fail
  refine (drawGood_any _ a len cap HD.out hl).mono ?_
  rintro e w1 ⟨x, y, z, p, rfl, ho, hst, hlf, hln, hb1⟩
  obtain ⟨g1, c1, rfl⟩ := two_row ho.st hst
  obtain ⟨g2, c2, rfl⟩ := two_row ho.lf hlf
  obtain ⟨a3, c3, rfl⟩ : ∃ a c, z = Value.slice a p.ln.length c := ho.ln.shape
  have hr := HR.out.below hb1
  have r0 := hr.c0
  have fr0 := hr.fz 0
  have r1 := hr.c1
  have fr1 := hr.fz 1
  have r2 := hr.c2
  have fr2 := hr.fz 2
  have HB : Hid (Below W.heap.size W (((w1.setCell ⟨W.heap.size, 0, none⟩ (.slice (some ⟨g1, 0, none⟩) 2 c1)).setCell ⟨W.heap.size, 1, none⟩ (.slice (some ⟨g2, 0, none⟩) 2 c2)).setCell ⟨W.heap.size, 2, none⟩ (.slice a3 p.ln.length c3))) := Below.set3 (Nat.le_refl _) (Below.trans ((Below.refl _ _).alloc (Nat.le_refl _) _) (hb1.mono (by first | (simp; done) | (simp; omega)))) _ _ _
  have HO : Hid (Own3 (((w1.setCell ⟨W.heap.size, 0, none⟩ (.slice (some ⟨g1, 0, none⟩) 2 c1)).setCell ⟨W.heap.size, 1, none⟩ (.slice (some ⟨g2, 0, none⟩) 2 c2)).setCell ⟨W.heap.size, 2, none⟩ (.slice a3 p.ln.length c3)) W.heap.size (.slice (some ⟨g1, 0, none⟩) 2 c1) (.slice (some ⟨g2, 0, none⟩) 2 c2) (.slice a3 p.ln.length c3) p) := (((ho.setCell (by show W.heap.size < _; first | (simp; done) | (simp; omega)) _).setCell (by show W.heap.size < _; first | (simp; done) | (simp; omega)) _).setCell (by show W.heap.size < _; first | (simp; done) | (simp; omega)) _).mono (by first | (simp; done) | (simp; omega))
  clear ho hr hb1 HR HD
  go_wp2
  refine bodyPost_ret (v := .agg #[.slice (some ⟨g1, 0, none⟩) 2 c1, .slice (some ⟨g2, 0, none⟩) 2 c2, .slice a3 p.ln.length c3]) (by simp [results, Try.results32, go_sem, r0, r1, r2]) rfl ?_
  exact ⟨_, _, _, p, rfl, HO.out, hst, hlf, hln, HB.out⟩

set_option maxRecDepth 100000 in
set_option maxHeartbeats 8000000 in
theorem drawStep_any (W : World) (a : Option Addr) (len cap : Nat) (hC : Code W.heap.size W a len) (hl : len ≤ 9223372036854775807) :
    Calls Try.prog 29 #[.slice a len cap] W fun e W' => ∃ x y z p kd k, e = .returned (.tuple #[.agg #[x, y, z], .agg #[.int .i64 kd, .int .i64 k]]) ∧ Own3 W' W.heap.size x y z p ∧ p.st.length = 2 ∧ p.lf.length = 2 ∧ p.ln.length ≤ 12 ∧ Below W.heap.size W W' := by
  have HD : Hid (Code W.heap.size W a len) := hC
  have HR : Hid (Bx3 (((W.alloc (.cells #[.slice none 0 0, .slice none 0 0, .slice none 0 0] 40)).alloc (.cells #[.int .i64 0, .int .i64 0] 53)).alloc (.cells #[.slice a len cap, .int .i64 0, .int .u64 0] 67)) W.heap.size (.slice none 0 0) (.slice none 0 0) (.slice none 0 0)) := ((Bx3.new _ _ _ _ _).below ((Below.refl _ _).alloc (Nat.le_refl _) _)).below ((Below.refl _ _).alloc (Nat.le_refl _) _)
  have HQ : Hid (Dx2 (((W.alloc (.cells #[.slice none 0 0, .slice none 0 0, .slice none 0 0] 40)).alloc (.cells #[.int .i64 0, .int .i64 0] 53)).alloc (.cells #[.slice a len cap, .int .i64 0, .int .u64 0] 67)) (W.heap.size + 1) (.int .i64 0) (.int .i64 0)) := by
    have h1 : Dx2 ((W.alloc (.cells #[.slice none 0 0, .slice none 0 0, .slice none 0 0] 40)).alloc (.cells #[.int .i64 0, .int .i64 0] 53)) (W.heap.size + 1) (.int .i64 0) (.int .i64 0) := by
      have := Dx2.new (W.alloc (.cells #[.slice none 0 0, .slice none 0 0, .slice none 0 0] 40)) (.int .i64 0) (.int .i64 0) 53
      exact (show Dx2 _ _ _ _ by simpa using this)
    exact h1.only (onlyAlloc (Only.refl (W.heap.size + 1 + 1) _) _) (by omega)
  have HU : Hid (Cur W.heap.size W (((W.alloc (.cells #[.slice none 0 0, .slice none 0 0, .slice none 0 0] 40)).alloc (.cells #[.int .i64 0, .int .i64 0] 53)).alloc (.cells #[.slice a len cap, .int .i64 0, .int .u64 0] 67)) (W.heap.size + 1 + 1) a len cap 0) := by
    have := cur_new a len cap 67 (((Since.start W).step (w' := (W.alloc (.cells #[.slice none 0 0, .slice none 0 0, .slice none 0 0] 40))) ((Below.refl _ _).alloc (Nat.le_refl _) _)).step (w' := ((W.alloc (.cells #[.slice none 0 0, .slice none 0 0, .slice none 0 0] 40)).alloc (.cells #[.int .i64 0, .int .i64 0] 53))) ((Below.refl _ _).alloc (Nat.le_refl _) _))
    exact (show Cur _ _ _ _ _ _ _ _ by simpa using this)
  clear hC
  go_enter Try.func29, Try.ntmps29
  go_wp2_with fail
  refine (pair_any W.heap.size W _ _ a len cap 0 HD.out hl (by omega) HU.out).mono ?_
  rintro e w1 ⟨x, y, z, p, rfl, ho, hst, hlf, hln, hc1, hO1⟩
  obtain ⟨g1, c1, rfl⟩ := two_row ho.st hst
  obtain ⟨g2, c2, rfl⟩ := two_row ho.lf hlf
  obtain ⟨a3, c3, rfl⟩ : ∃ a c, z = Value.slice a p.ln.length c := ho.ln.shape
  have HC1 : Hid (Cur W.heap.size W (w1.alloc (.cells #[.slice (some ⟨g1, 0, none⟩) 2 c1, .slice (some ⟨g2, 0, none⟩) 2 c2, .slice a3 p.ln.length c3] 40)) (W.heap.size + 1 + 1) a len cap 710) := curAlloc hc1 _
  have hOA : Only (W.heap.size + 1 + 1) (((W.alloc (.cells #[.slice none 0 0, .slice none 0 0, .slice none 0 0] 40)).alloc (.cells #[.int .i64 0, .int .i64 0] 53)).alloc (.cells #[.slice a len cap, .int .i64 0, .int .u64 0] 67)) (w1.alloc (.cells #[.slice (some ⟨g1, 0, none⟩) 2 c1, .slice (some ⟨g2, 0, none⟩) 2 c2, .slice a3 p.ln.length c3] 40)) := onlyAlloc hO1 _
  have HR1 : Hid (Bx3 (w1.alloc (.cells #[.slice (some ⟨g1, 0, none⟩) 2 c1, .slice (some ⟨g2, 0, none⟩) 2 c2, .slice a3 p.ln.length c3] 40)) W.heap.size (.slice none 0 0) (.slice none 0 0) (.slice none 0 0)) := HR.out.only hOA (by omega)
  have HQ1 : Hid (Dx2 (w1.alloc (.cells #[.slice (some ⟨g1, 0, none⟩) 2 c1, .slice (some ⟨g2, 0, none⟩) 2 c2, .slice a3 p.ln.length c3] 40)) (W.heap.size + 1) (.int .i64 0) (.int .i64 0)) := HQ.out.only hOA (by omega)
  have HP1 : Hid (Bx3 (w1.alloc (.cells #[.slice (some ⟨g1, 0, none⟩) 2 c1, .slice (some ⟨g2, 0, none⟩) 2 c2, .slice a3 p.ln.length c3] 40)) w1.heap.size (.slice (some ⟨g1, 0, none⟩) 2 c1) (.slice (some ⟨g2, 0, none⟩) 2 c2) (.slice a3 p.ln.length c3)) := Bx3.new _ _ _ _ _
  have HO1 : Hid (Own3 (w1.alloc (.cells #[.slice (some ⟨g1, 0, none⟩) 2 c1, .slice (some ⟨g2, 0, none⟩) 2 c2, .slice a3 p.ln.length c3] 40)) (W.heap.size + 1 + 1 + 1) (.slice (some ⟨g1, 0, none⟩) 2 c1) (.slice (some ⟨g2, 0, none⟩) 2 c2) (.slice a3 p.ln.length c3) p) := (ho.mono (by first | (simp; done) | (simp; omega))).al _
  have hw1 : W.heap.size + 1 + 1 < w1.heap.size := hc1.2.1
  clear ho hc1 hO1 hOA HU HR HQ
  go_wp2_with fail
  refine (pairSteps_any W.heap.size W _ _ a len cap 710 HD.out hl (by omega) HC1.out).mono ?_
  rintro e w2 ⟨v, l, rfl, hol, hl61, hc2, hO2⟩
  have hR2 := HR1.out.only hO2 (by omega)
  have hQ2 := HQ1.out.only hO2 (by omega)
  have hP2 := HP1.out.only hO2 (by omega)
  have hX2 : Own3 w2 (W.heap.size + 1 + 1 + 1) (.slice (some ⟨g1, 0, none⟩) 2 c1) (.slice (some ⟨g2, 0, none⟩) 2 c2) (.slice a3 p.ln.length c3) p := HO1.out.same fun k hk => hO2.2 k (HO1.out.lt k hk).2 (by have := (HO1.out.lt k hk).1; omega)
  have HOW : Hid (Own3 w2 (W.heap.size + 1 + 1) (.slice (some ⟨g1, 0, none⟩) 2 c1) (.slice (some ⟨g2, 0, none⟩) 2 c2) (.slice a3 p.ln.length c3) p) := hX2.mono (by omega)
  have HBW : Hid (Below W.heap.size W w2) := hc2.2.2.1.1
  have r0 := hR2.c0
  have fr0 := hR2.fz 0
  have r1 := hR2.c1
  have fr1 := hR2.fz 1
  have r2 := hR2.c2
  have fr2 := hR2.fz 2
  have q0 := hQ2.c0
  have q1 := hQ2.c1
  have fq0 := hQ2.fz 0
  have fq1 := hQ2.fz 1
  have b0 := hP2.c0
  have b1 := hP2.c1
  have b2 := hP2.c2
  have lw2 := hP2.lt
  have HRS : Hid (ReadsSt w2 v l) := hol.reads
  have HOS : Hid (∀ k, v.ownBlock = some k → W.heap.size + 1 < k) := fun k hk => by
    have h1 := (World.ownsRow.lt hol k hk).1
    simp at h1
    omega
  clear hol hc2 hO2 hR2 hQ2 hP2 hX2 HC1 HR1 HQ1 HP1 HO1
  obtain ⟨av, cv, rfl, hcc⟩ := HRS.out
  rcases hcc with rfl | ⟨gs, os, rfl, hgs, hcell⟩
  · simp only [List.length_nil]
    have HBA : Hid (Below W.heap.size W (((((w2.setCell ⟨W.heap.size, 0, none⟩ (.slice (some ⟨g1, 0, none⟩) 2 c1)).setCell ⟨W.heap.size, 1, none⟩ (.slice (some ⟨g2, 0, none⟩) 2 c2)).setCell ⟨W.heap.size, 2, none⟩ (.slice a3 p.ln.length c3)).setCell ⟨(W.heap.size + 1), 0, none⟩ (.int .i64 4)).setCell ⟨(W.heap.size + 1), 1, none⟩ (.int .i64 0))) := ((Below.set3 (Nat.le_refl _) HBW.out _ _ _).setCell (by show W.heap.size ≤ W.heap.size + 1; omega) _).setCell (by show W.heap.size ≤ W.heap.size + 1; omega) _
    have HOA : Hid (Own3 (((((w2.setCell ⟨W.heap.size, 0, none⟩ (.slice (some ⟨g1, 0, none⟩) 2 c1)).setCell ⟨W.heap.size, 1, none⟩ (.slice (some ⟨g2, 0, none⟩) 2 c2)).setCell ⟨W.heap.size, 2, none⟩ (.slice a3 p.ln.length c3)).setCell ⟨(W.heap.size + 1), 0, none⟩ (.int .i64 4)).setCell ⟨(W.heap.size + 1), 1, none⟩ (.int .i64 0)) W.heap.size (.slice (some ⟨g1, 0, none⟩) 2 c1) (.slice (some ⟨g2, 0, none⟩) 2 c2) (.slice a3 p.ln.length c3) p) := (((((HOW.out.setCell (show W.heap.size < W.heap.size + 1 + 1 by omega) _).setCell (show W.heap.size < W.heap.size + 1 + 1 by omega) _).setCell (show W.heap.size < W.heap.size + 1 + 1 by omega) _).setCell (show W.heap.size + 1 < W.heap.size + 1 + 1 by omega) _).setCell (show W.heap.size + 1 < W.heap.size + 1 + 1 by omega) _).mono (by omega)
    have HBB : Hid (Below W.heap.size W (((((w2.setCell ⟨(W.heap.size + 1), 0, none⟩ (.int .i64 4)).setCell ⟨(W.heap.size + 1), 1, none⟩ (.int .i64 0)).setCell ⟨W.heap.size, 0, none⟩ (.slice (some ⟨g1, 0, none⟩) 2 c1)).setCell ⟨W.heap.size, 1, none⟩ (.slice (some ⟨g2, 0, none⟩) 2 c2)).setCell ⟨W.heap.size, 2, none⟩ (.slice a3 p.ln.length c3))) := Below.set3 (Nat.le_refl _) ((HBW.out.setCell (by show W.heap.size ≤ W.heap.size + 1; omega) _).setCell (by show W.heap.size ≤ W.heap.size + 1; omega) _) _ _ _
    have HOB : Hid (Own3 (((((w2.setCell ⟨(W.heap.size + 1), 0, none⟩ (.int .i64 4)).setCell ⟨(W.heap.size + 1), 1, none⟩ (.int .i64 0)).setCell ⟨W.heap.size, 0, none⟩ (.slice (some ⟨g1, 0, none⟩) 2 c1)).setCell ⟨W.heap.size, 1, none⟩ (.slice (some ⟨g2, 0, none⟩) 2 c2)).setCell ⟨W.heap.size, 2, none⟩ (.slice a3 p.ln.length c3)) W.heap.size (.slice (some ⟨g1, 0, none⟩) 2 c1) (.slice (some ⟨g2, 0, none⟩) 2 c2) (.slice a3 p.ln.length c3) p) := (((((HOW.out.setCell (show W.heap.size + 1 < W.heap.size + 1 + 1 by omega) _).setCell (show W.heap.size + 1 < W.heap.size + 1 + 1 by omega) _).setCell (show W.heap.size < W.heap.size + 1 + 1 by omega) _).setCell (show W.heap.size < W.heap.size + 1 + 1 by omega) _).setCell (show W.heap.size < W.heap.size + 1 + 1 by omega) _).mono (by omega)
    go_wp2
    refine bodyPost_ret (v := .tuple #[.agg #[.slice (some ⟨g1, 0, none⟩) 2 c1, .slice (some ⟨g2, 0, none⟩) 2 c2, .slice a3 p.ln.length c3], .agg #[.int .i64 4, .int .i64 0]]) (by simp [results, Try.results29, go_sem, r0, r1, r2, q0, q1]) rfl ?_
    exact ⟨_, _, _, p, _, _, rfl, HOA.out, hst, hlf, hln, HBA.out⟩
  · by_cases hz : l.length = 0
    · have e0 : l = [] := List.eq_nil_of_length_eq_zero hz
      subst e0
      simp only [List.length_nil]
      have HBA : Hid (Below W.heap.size W (((((w2.setCell ⟨W.heap.size, 0, none⟩ (.slice (some ⟨g1, 0, none⟩) 2 c1)).setCell ⟨W.heap.size, 1, none⟩ (.slice (some ⟨g2, 0, none⟩) 2 c2)).setCell ⟨W.heap.size, 2, none⟩ (.slice a3 p.ln.length c3)).setCell ⟨(W.heap.size + 1), 0, none⟩ (.int .i64 4)).setCell ⟨(W.heap.size + 1), 1, none⟩ (.int .i64 0))) := ((Below.set3 (Nat.le_refl _) HBW.out _ _ _).setCell (by show W.heap.size ≤ W.heap.size + 1; omega) _).setCell (by show W.heap.size ≤ W.heap.size + 1; omega) _
      have HOA : Hid (Own3 (((((w2.setCell ⟨W.heap.size, 0, none⟩ (.slice (some ⟨g1, 0, none⟩) 2 c1)).setCell ⟨W.heap.size, 1, none⟩ (.slice (some ⟨g2, 0, none⟩) 2 c2)).setCell ⟨W.heap.size, 2, none⟩ (.slice a3 p.ln.length c3)).setCell ⟨(W.heap.size + 1), 0, none⟩ (.int .i64 4)).setCell ⟨(W.heap.size + 1), 1, none⟩ (.int .i64 0)) W.heap.size (.slice (some ⟨g1, 0, none⟩) 2 c1) (.slice (some ⟨g2, 0, none⟩) 2 c2) (.slice a3 p.ln.length c3) p) := (((((HOW.out.setCell (show W.heap.size < W.heap.size + 1 + 1 by omega) _).setCell (show W.heap.size < W.heap.size + 1 + 1 by omega) _).setCell (show W.heap.size < W.heap.size + 1 + 1 by omega) _).setCell (show W.heap.size + 1 < W.heap.size + 1 + 1 by omega) _).setCell (show W.heap.size + 1 < W.heap.size + 1 + 1 by omega) _).mono (by omega)
      have HBB : Hid (Below W.heap.size W (((((w2.setCell ⟨(W.heap.size + 1), 0, none⟩ (.int .i64 4)).setCell ⟨(W.heap.size + 1), 1, none⟩ (.int .i64 0)).setCell ⟨W.heap.size, 0, none⟩ (.slice (some ⟨g1, 0, none⟩) 2 c1)).setCell ⟨W.heap.size, 1, none⟩ (.slice (some ⟨g2, 0, none⟩) 2 c2)).setCell ⟨W.heap.size, 2, none⟩ (.slice a3 p.ln.length c3))) := Below.set3 (Nat.le_refl _) ((HBW.out.setCell (by show W.heap.size ≤ W.heap.size + 1; omega) _).setCell (by show W.heap.size ≤ W.heap.size + 1; omega) _) _ _ _
      have HOB : Hid (Own3 (((((w2.setCell ⟨(W.heap.size + 1), 0, none⟩ (.int .i64 4)).setCell ⟨(W.heap.size + 1), 1, none⟩ (.int .i64 0)).setCell ⟨W.heap.size, 0, none⟩ (.slice (some ⟨g1, 0, none⟩) 2 c1)).setCell ⟨W.heap.size, 1, none⟩ (.slice (some ⟨g2, 0, none⟩) 2 c2)).setCell ⟨W.heap.size, 2, none⟩ (.slice a3 p.ln.length c3)) W.heap.size (.slice (some ⟨g1, 0, none⟩) 2 c1) (.slice (some ⟨g2, 0, none⟩) 2 c2) (.slice a3 p.ln.length c3) p) := (((((HOW.out.setCell (show W.heap.size + 1 < W.heap.size + 1 + 1 by omega) _).setCell (show W.heap.size + 1 < W.heap.size + 1 + 1 by omega) _).setCell (show W.heap.size < W.heap.size + 1 + 1 by omega) _).setCell (show W.heap.size < W.heap.size + 1 + 1 by omega) _).setCell (show W.heap.size < W.heap.size + 1 + 1 by omega) _).mono (by omega)
      go_wp2
      refine bodyPost_ret (v := .tuple #[.agg #[.slice (some ⟨g1, 0, none⟩) 2 c1, .slice (some ⟨g2, 0, none⟩) 2 c2, .slice a3 p.ln.length c3], .agg #[.int .i64 4, .int .i64 0]]) (by simp [results, Try.results29, go_sem, r0, r1, r2, q0, q1]) rfl ?_
      exact ⟨_, _, _, p, _, _, rfl, HOA.out, hst, hlf, hln, HBA.out⟩
    · have hz' : decide ((l.length : Int) = 0) = false := decide_eq_false (by omega)
      have hz2 : (0 : Int) < (l.length : Int) := by omega
      have hz3 : 0 < l.length := by omega
      have hg0 : W.heap.size + 1 < gs := HOS.out gs rfl
      have hg1 : W.heap.size < gs := by omega
      have hne1 : gs ≠ W.heap.size := by omega
      have hne2 : gs ≠ W.heap.size + 1 := by omega
      obtain ⟨s0, s1⟩ := hcell 0 (by omega)
      rw [Nat.zero_mul, Nat.add_zero] at s0 s1
      generalize l[0] = sx at s0 s1
      have HBA : Hid (Below W.heap.size W (((((w2.drew.setCell ⟨W.heap.size, 0, none⟩ (.slice (some ⟨g1, 0, none⟩) 2 c1)).setCell ⟨W.heap.size, 1, none⟩ (.slice (some ⟨g2, 0, none⟩) 2 c2)).setCell ⟨W.heap.size, 2, none⟩ (.slice a3 p.ln.length c3)).setCell ⟨(W.heap.size + 1), 0, none⟩ (.int .i64 sx.kd)).setCell ⟨(W.heap.size + 1), 1, none⟩ (.int .i64 sx.k))) := ((Below.set3 (Nat.le_refl _) (HBW.out.drew) _ _ _).setCell (by show W.heap.size ≤ W.heap.size + 1; omega) _).setCell (by show W.heap.size ≤ W.heap.size + 1; omega) _
      have HOA : Hid (Own3 (((((w2.drew.setCell ⟨W.heap.size, 0, none⟩ (.slice (some ⟨g1, 0, none⟩) 2 c1)).setCell ⟨W.heap.size, 1, none⟩ (.slice (some ⟨g2, 0, none⟩) 2 c2)).setCell ⟨W.heap.size, 2, none⟩ (.slice a3 p.ln.length c3)).setCell ⟨(W.heap.size + 1), 0, none⟩ (.int .i64 sx.kd)).setCell ⟨(W.heap.size + 1), 1, none⟩ (.int .i64 sx.k)) W.heap.size (.slice (some ⟨g1, 0, none⟩) 2 c1) (.slice (some ⟨g2, 0, none⟩) 2 c2) (.slice a3 p.ln.length c3) p) := (((((HOW.out.drew.setCell (show W.heap.size < W.heap.size + 1 + 1 by omega) _).setCell (show W.heap.size < W.heap.size + 1 + 1 by omega) _).setCell (show W.heap.size < W.heap.size + 1 + 1 by omega) _).setCell (show W.heap.size + 1 < W.heap.size + 1 + 1 by omega) _).setCell (show W.heap.size + 1 < W.heap.size + 1 + 1 by omega) _).mono (by omega)
      have HBB : Hid (Below W.heap.size W (((((w2.drew.setCell ⟨(W.heap.size + 1), 0, none⟩ (.int .i64 sx.kd)).setCell ⟨(W.heap.size + 1), 1, none⟩ (.int .i64 sx.k)).setCell ⟨W.heap.size, 0, none⟩ (.slice (some ⟨g1, 0, none⟩) 2 c1)).setCell ⟨W.heap.size, 1, none⟩ (.slice (some ⟨g2, 0, none⟩) 2 c2)).setCell ⟨W.heap.size, 2, none⟩ (.slice a3 p.ln.length c3))) := Below.set3 (Nat.le_refl _) (((HBW.out.drew).setCell (by show W.heap.size ≤ W.heap.size + 1; omega) _).setCell (by show W.heap.size ≤ W.heap.size + 1; omega) _) _ _ _
      have HOB : Hid (Own3 (((((w2.drew.setCell ⟨(W.heap.size + 1), 0, none⟩ (.int .i64 sx.kd)).setCell ⟨(W.heap.size + 1), 1, none⟩ (.int .i64 sx.k)).setCell ⟨W.heap.size, 0, none⟩ (.slice (some ⟨g1, 0, none⟩) 2 c1)).setCell ⟨W.heap.size, 1, none⟩ (.slice (some ⟨g2, 0, none⟩) 2 c2)).setCell ⟨W.heap.size, 2, none⟩ (.slice a3 p.ln.length c3)) W.heap.size (.slice (some ⟨g1, 0, none⟩) 2 c1) (.slice (some ⟨g2, 0, none⟩) 2 c2) (.slice a3 p.ln.length c3) p) := (((((HOW.out.drew.setCell (show W.heap.size + 1 < W.heap.size + 1 + 1 by omega) _).setCell (show W.heap.size + 1 < W.heap.size + 1 + 1 by omega) _).setCell (show W.heap.size < W.heap.size + 1 + 1 by omega) _).setCell (show W.heap.size < W.heap.size + 1 + 1 by omega) _).setCell (show W.heap.size < W.heap.size + 1 + 1 by omega) _).mono (by omega)
      go_wp2
      go_region
      all_goals
        go_wp2
        refine bodyPost_ret (v := .tuple #[.agg #[.slice (some ⟨g1, 0, none⟩) 2 c1, .slice (some ⟨g2, 0, none⟩) 2 c2, .slice a3 p.ln.length c3], .agg #[.int .i64 sx.kd, .int .i64 sx.k]]) (by simp [results, Try.results29, go_sem, r0, r1, r2, q0, q1]) rfl ?_
        exact ⟨_, _, _, p, _, _, rfl, (by first | exact HOA.out | exact HOB.out), hst, hlf, hln, (by first | exact HBA.out | exact HBB.out)⟩
end Go.Proofs.Ytchddjidjfpehaa

namespace Go.Proofs.Ytchddjidjfpehaa
open Go.RowKit
set_option linter.unusedVariables false

theorem drawPlay_any (B : Nat) (w0 W : World) (a : Option Addr) (len cap : Nat) (hC : Code B w0 a len) (hl : len ≤ 9223372036854775807) (h : Since B w0 W) :
    Calls Try.prog 16 #[.slice a len cap] W fun e W' => ∃ v l, e = .returned v ∧ OwnSt W' B v l ∧ l.length ≤ 61 ∧ Since B w0 W' := by
  have HC : Hid (Code B w0 a len) := hC
  have hBW : B ≤ W.heap.size := h.2
  have HU : Hid (Cur B w0 (W.alloc (.cells #[.slice a len cap, .int .i64 0, .int .u64 0] 67)) W.heap.size a len cap 0) := cur_new a len cap 67 h
  clear hC h
  go_enter Try.func16, Try.ntmps16
  go_wp2_with fail
  refine (pairSteps_any B w0 _ _ a len cap 0 HC.out hl (by omega) HU.out).mono ?_
  rintro e W1 ⟨v, l, rfl, ho, hll, hc1, ho1⟩
  have HO : Hid (OwnSt W1 B v l) := OwnSt.mono ho (by simp; omega)
  have S1 : Hid (Since B w0 W1) := hc1.2.2.1
  clear ho hc1 ho1 HU
  go_wp2
  go_ret
  exact ⟨v, l, rfl, HO.out, hll, S1.out⟩

theorem drawNext_any (B : Nat) (w0 W : World) (a : Option Addr) (len cap : Nat) (hC : Code B w0 a len) (hl : len ≤ 9223372036854775807) (h : Since B w0 W) :
    Calls Try.prog 26 #[.slice a len cap] W fun e W' => ∃ (s : Int) (b : Bool), e = .returned (.tuple #[.int .i64 s, .bool b]) ∧ Since B w0 W' := by
  have HC : Hid (Code B w0 a len) := hC
  have hBW : B ≤ W.heap.size := h.2
  have HU : Hid (Cur B w0 (W.alloc (.cells #[.slice a len cap, .int .i64 0, .int .u64 0] 67)) W.heap.size a len cap 0) := cur_new a len cap 67 h
  clear hC h
  go_enter Try.func26, Try.ntmps26
  go_wp2_with fail
  refine (pick_any B w0 _ _ a len cap 0 5 HC.out hl (by omega) HU.out (by omega) (by omega)).mono ?_
  rintro e W1 ⟨q, rfl, q0, q1, hc1, ho1⟩
  have C1 : Hid (Cur B w0 W1 W.heap.size a len cap 2) := hc1
  clear hc1 ho1 HU
  go_wp2_with fail
  refine (one_any B w0 _ _ a len cap 2 2 HC.out hl (by omega) C1.out (by omega) (by omega)).mono ?_
  rintro e W2 ⟨b, rfl, hc2, ho2⟩
  have S2 : Hid (Since B w0 W2) := hc2.2.2.1
  clear hc2 ho2 C1
  go_wp2
  go_ret2
  exact ⟨_, b, rfl, S2.out⟩

theorem drawNew_any (B : Nat) (w0 W : World) (a : Option Addr) (len cap : Nat) (hC : Code B w0 a len) (hl : len ≤ 9223372036854775807) (h : Since B w0 W) :
    Calls Try.prog 35 #[.slice a len cap] W fun e W' => ∃ s : Int, e = .returned (.int .i64 s) ∧ Since B w0 W' := by
  have HC : Hid (Code B w0 a len) := hC
  have hBW : B ≤ W.heap.size := h.2
  have HU : Hid (Cur B w0 (W.alloc (.cells #[.slice a len cap, .int .i64 0, .int .u64 0] 67)) W.heap.size a len cap 0) := cur_new a len cap 67 h
  clear hC h
  go_enter Try.func35, Try.ntmps35
  go_wp2_with fail
  refine (pick_any B w0 _ _ a len cap 0 6 HC.out hl (by omega) HU.out (by omega) (by omega)).mono ?_
  rintro e W1 ⟨q, rfl, q0, q1, hc1, ho1⟩
  have S1 : Hid (Since B w0 W1) := hc1.2.2.1
  clear hc1 ho1 HU
  go_wp2
  go_ret
  exact ⟨_, rfl, S1.out⟩
end Go.Proofs.Ytchddjidjfpehaa

namespace Go.Proofs.Ytchddjidjfpehaa
set_option linter.unusedVariables false

theorem step_good2 (p : PR) (kd K : Int) (h : stepOk p kd K = true) : goodPr (stepOut p kd K) = true ∧ (stepOut p kd K).st.length = 2 := by
  have h0 := h
  unfold stepOk at h
  simp only [Bool.and_eq_true] at h
  have e : stepOut p kd K = stepP p kd K := by unfold stepOut; rw [if_pos h0]
  have hg := step_good p kd K h.1 h.2
  rw [e]
  obtain ⟨s0, s1, l0, l1, ln, e2, -, -, -, -⟩ := goodPr_form _ hg
  exact ⟨hg, by rw [e2]; rfl⟩

theorem step_state (p : PR) (kd K : Int) (h : stepOk p kd K = true) (j : Nat) (u s : Int) (hu : (stepOut p kd K).st[j]? = some u) (hs : p.st[j]? = some s) :
    (u = s ∨ ((kd = 2 ∨ kd = 4) ∧ u ≠ 2)) ∨ (kd = 2 ∧ ∃ n : Nat, K = n ∧ ∃ hn : n < p.ln.length, p.ln[n].h = true ∧ p.ln[n].f ≠ (j : Int)) := by
  have h0 := h
  unfold stepOk at h
  simp only [Bool.and_eq_true] at h
  obtain ⟨hg, hc⟩ := h
  have e : stepOut p kd K = stepP p kd K := by unfold stepOut; rw [if_pos h0]
  rw [e] at hu
  obtain ⟨s0, s1, l0, l1, ln, rfl, g0, g1, hl, hL⟩ := goodPr_form p hg
  have hc : canB ln kd K = true := hc
  unfold canB at hc
  unfold stepP at hu
  by_cases h1 : kd = 1
  · rw [if_pos h1] at hu
    have : some u = some s := hu.symm.trans hs
    exact .inl (.inl (Option.some.inj this))
  rw [if_neg h1] at hu hc
  by_cases h2 : kd = 2
  · rw [if_pos (.inl h2)] at hc
    rw [if_pos h2] at hu
    have hc := of_decide_eq_true hc
    have hk : K.toNat < ln.length := by omega
    simp only [List.getElem?_eq_getElem hk] at hu
    have hf := goodL_at ln hL K.toNat hk
    by_cases hb : ln[K.toNat].h = true
    · by_cases hj : ln[K.toNat].f = (j : Int)
      · -- the sayer's own side is as it was
        have hne : (1 - ln[K.toNat].f).toNat ≠ j := by omega
        have : ([s0, s1].set (1 - ln[K.toNat].f).toNat (heardS ln[K.toNat].h))[j]? = [s0, s1][j]? := List.getElem?_set_ne hne
        have hu' : [s0, s1][j]? = some u := this.symm.trans hu
        exact .inl (.inl (Option.some.inj (hu'.symm.trans hs)))
      · exact .inr ⟨h2, K.toNat, by omega, hk, hb, hj⟩
    · by_cases hj : (1 - ln[K.toNat].f).toNat = j
      · have hlt : j < 2 := by omega
        have : ([s0, s1].set (1 - ln[K.toNat].f).toNat (heardS ln[K.toNat].h))[j]? = some (heardS ln[K.toNat].h) := by rw [hj]; exact List.getElem?_set_self (by simpa using hlt)
        have hu' : u = heardS ln[K.toNat].h := (Option.some.inj (this.symm.trans hu)).symm
        refine .inl (.inr ⟨.inl h2, ?_⟩)
        rw [hu']
        unfold heardS
        rw [if_neg hb]
        decide
      · have : ([s0, s1].set (1 - ln[K.toNat].f).toNat (heardS ln[K.toNat].h))[j]? = [s0, s1][j]? := List.getElem?_set_ne hj
        have hu' : [s0, s1][j]? = some u := this.symm.trans hu
        exact .inl (.inl (Option.some.inj (hu'.symm.trans hs)))
  rw [if_neg h2] at hu
  by_cases h3 : kd = 3
  · rw [if_pos h3] at hu
    have : some u = some s := hu.symm.trans hs
    exact .inl (.inl (Option.some.inj this))
  rw [if_neg h3] at hu
  rw [if_neg (by omega)] at hc
  have h4 := (of_decide_eq_true hc).1
  have hu : [tickS s0 l0, tickS s1 l1][j]? = some u := hu
  have hs : [s0, s1][j]? = some s := hs
  have tick : ∀ s l u : Int, u = tickS s l → u = s ∨ u ≠ 2 := fun s l u e => by
    unfold tickS at e
    split at e
    · exact .inr (by omega)
    · exact .inl e
  match j, hu, hs with
  | 0, hu, hs =>
    simp at hu hs
    rcases tick s0 l0 u hu.symm with e | e
    · exact .inl (.inl (e.trans hs))
    · exact .inl (.inr ⟨.inr h4, e⟩)
  | 1, hu, hs =>
    simp at hu hs
    rcases tick s1 l1 u hu.symm with e | e
    · exact .inl (.inl (e.trans hs))
    · exact .inl (.inr ⟨.inr h4, e⟩)
  | _ + 2, hu, _ => simp at hu
end Go.Proofs.Ytchddjidjfpehaa
