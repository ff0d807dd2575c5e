/-
  'l6Own' of the model.
-/
import Derived.Test.YtkkamigaolejiaxFlOwn
namespace Go.Proofs.Ytkkamigaolejiax
open Go.RowKit
set_option linter.unusedVariables false

theorem ne_some {k b n c : Nat} (h : k ≠ b) : some k ≠ (Value.slice (some ⟨b, 0, none⟩) n c).ownBlock := fun e => by
  simp only [Value.ownBlock, Option.some.injEq] at e
  exact h e

set_option maxRecDepth 100000 in
set_option maxHeartbeats 8000000 in
theorem l6Own_any (W : World) (B : Nat) (x y z l : Value) (xs ys zs : List Value) (f : FD) (h : OwnF W B x y z l xs ys zs f) (hf : FitF f) :
    Calls Try.prog 25 #[.agg #[x, y, z, l]] W fun e W' => ∃ x' y' z' l', e = .returned (.agg #[x', y', z', l']) ∧ (∃ xs' ys' zs', OwnF W' W.heap.size x' y' z' l' xs' ys' zs' f) ∧ Below W.heap.size W W' := by
  obtain ⟨a0, c0, rfl⟩ := h.lk.shape
  obtain ⟨a1, c1, rfl⟩ := h.kn.shape
  obtain ⟨a2, c2, rfl⟩ := h.ow.shape
  obtain ⟨a3, c3, rfl⟩ := h.ln.shape
  have HR : Hid (∀ W1, Below W.heap.size W W1 → OwnF W1 B (.slice a0 f.lk.length c0) (.slice a1 f.kn.length c1) (.slice a2 f.ow.length c2) (.slice a3 f.ln.length c3) xs ys zs f) := fun W1 hb => h.below hb
  have HS0 : Hid (Since W.heap.size W (((W.alloc (.cells #[.slice a0 f.lk.length c0, .slice a1 f.kn.length c1, .slice a2 f.ow.length c2, .slice a3 f.ln.length c3] 31)).alloc (.cells #[.slice none 0 0, .slice none 0 0, .slice none 0 0, .slice none 0 0] 31))).drew) := (((Since.start W).step ((Below.refl _ W).alloc (Nat.le_refl _) _)).step ((Below.refl _ _).alloc (Nat.le_refl _) _)).drew
  have HX0 : Hid (Bx4 (((W.alloc (.cells #[.slice a0 f.lk.length c0, .slice a1 f.kn.length c1, .slice a2 f.ow.length c2, .slice a3 f.ln.length c3] 31)).alloc (.cells #[.slice none 0 0, .slice none 0 0, .slice none 0 0, .slice none 0 0] 31))).drew W.heap.size (.slice a0 f.lk.length c0) (.slice a1 f.kn.length c1) (.slice a2 f.ow.length c2) (.slice a3 f.ln.length c3)) := ((Bx4.new _ _ _ _ _ _).below ((Below.refl _ _).alloc (Nat.le_refl _) _)).drew
  have HY0 : Hid (Bx4 (((W.alloc (.cells #[.slice a0 f.lk.length c0, .slice a1 f.kn.length c1, .slice a2 f.ow.length c2, .slice a3 f.ln.length c3] 31)).alloc (.cells #[.slice none 0 0, .slice none 0 0, .slice none 0 0, .slice none 0 0] 31))).drew (W.heap.size + 1) (.slice none 0 0) (.slice none 0 0) (.slice none 0 0) (.slice none 0 0)) := by
    have := (Bx4.new (W.alloc (.cells #[.slice a0 f.lk.length c0, .slice a1 f.kn.length c1, .slice a2 f.ow.length c2, .slice a3 f.ln.length c3] 31)) (.slice none 0 0) (.slice none 0 0) (.slice none 0 0) (.slice none 0 0) 31).drew
    exact (show Bx4 _ _ _ _ _ _ by simpa using this)
  have HZ0 : Hid (W.heap.size + 2 ≤ (((W.alloc (.cells #[.slice a0 f.lk.length c0, .slice a1 f.kn.length c1, .slice a2 f.ow.length c2, .slice a3 f.ln.length c3] 31)).alloc (.cells #[.slice none 0 0, .slice none 0 0, .slice none 0 0, .slice none 0 0] 31))).drew.heap.size) := (show W.heap.size + 2 ≤ _ by simp [World.drew])
  have C0 : Hid (∀ w, Since W.heap.size W w → Calls Try.prog 54 #[.slice a0 f.lk.length c0] w fun e W' => ∃ v', e = .returned v' ∧ HasSS W' w.heap.size v' f.lk ∧ Below w.heap.size w W') := fun w hS => l6Copy_any w B _ xs f.lk (HR.out w hS.1).lk hf.lki hf.lk
  have C1 : Hid (∀ w, Since W.heap.size W w → Calls Try.prog 54 #[.slice a1 f.kn.length c1] w fun e W' => ∃ v', e = .returned v' ∧ HasSS W' w.heap.size v' f.kn ∧ Below w.heap.size w W') := fun w hS => l6Copy_any w B _ ys f.kn (HR.out w hS.1).kn hf.kni hf.kn
  have C2 : Hid (∀ w, Since W.heap.size W w → Calls Try.prog 54 #[.slice a2 f.ow.length c2] w fun e W' => ∃ v', e = .returned v' ∧ HasSS W' w.heap.size v' f.ow ∧ Below w.heap.size w W') := fun w hS => l6Copy_any w B _ zs f.ow (HR.out w hS.1).ow hf.owi hf.ow
  have C3 : Hid (∀ w v0, Since W.heap.size W w → (∃ B', W.heap.size + 2 ≤ B' ∧ B' ≤ w.heap.size ∧ OwnLt w B' v0 []) → ∀ ty, ∃ v' w', (Builtin.append_ #[29, 29] ty #[v0, .slice a3 f.ln.length c3]).run Try.prog w = .ok v' w' ∧ ∃ B', W.heap.size + 2 ≤ B' ∧ GrewLt w B' v0 f.ln v' w') := fun w v0 hS ⟨B', hB0, hB1, hv0⟩ ty => by
    obtain ⟨v', w', hr, hg⟩ := run_appLt w B' _ [] hv0 _ f.ln (Src.row (HR.out w hS.1).ln) (by have := hf.ln; simp; omega) hB1 ty
    exact ⟨v', w', hr, B', hB0, ⟨hg.own, hg.below, hg.size, hg.grown, hg.lies⟩⟩
  clear h hf
  go_enter Try.func25, Try.ntmps25
  go_wp2
  refine wp_region_held_drew (S := (fun w' => w'.cell? ⟨W.heap.size, 0, none⟩ = some (.slice a0 f.lk.length c0) ∧ w'.cell? ⟨W.heap.size, 1, none⟩ = some (.slice a1 f.kn.length c1) ∧ w'.cell? ⟨W.heap.size, 2, none⟩ = some (.slice a2 f.ow.length c2) ∧ w'.cell? ⟨W.heap.size, 3, none⟩ = some (.slice a3 f.ln.length c3))) (by kernel_rfl) ?_ (fun hHeld => ?_)
  · exact HX0.out.cells
  generalize hwd : (((W.alloc (.cells #[.slice a0 f.lk.length c0, .slice a1 f.kn.length c1, .slice a2 f.ow.length c2, .slice a3 f.ln.length c3] 31)).alloc (.cells #[.slice none 0 0, .slice none 0 0, .slice none 0 0, .slice none 0 0] 31))).drew = w0 at *
  clear hwd
  refine handRead 0 (some 3) (.pointer (some ⟨W.heap.size, 0, none⟩)) rfl rfl (by kernel_rfl) (by kernel_rfl) (by kernel_rfl) (fun _ _ _ h => h) (by kernel_rfl) (by assumption) ?_ ?_
  · intro w hSw
    (try dsimp only at hSw)
    go_simp
  simp only [Act.put, List.setIfInBounds_toArray, List.set_cons_zero, List.set_cons_succ]
  refine handRead 1 (some 4) (.slice a0 f.lk.length c0) rfl rfl (by kernel_rfl) (by kernel_rfl) (by kernel_rfl) (fun _ _ _ h => h) (by kernel_rfl) (by assumption) ?_ ?_
  · intro w hSw
    (try dsimp only at hSw)
    go_simp
  simp only [Act.put, List.setIfInBounds_toArray, List.set_cons_zero, List.set_cons_succ]
  refine handRead 3 (some 6) (.pointer (some ⟨W.heap.size, 1, none⟩)) rfl rfl (by kernel_rfl) (by kernel_rfl) (by kernel_rfl) (fun _ _ _ h => h) (by kernel_rfl) (by assumption) ?_ ?_
  · intro w hSw
    (try dsimp only at hSw)
    go_simp
  simp only [Act.put, List.setIfInBounds_toArray, List.set_cons_zero, List.set_cons_succ]
  refine handRead 4 (some 7) (.slice a1 f.kn.length c1) rfl rfl (by kernel_rfl) (by kernel_rfl) (by kernel_rfl) (fun _ _ _ h => h) (by kernel_rfl) (by assumption) ?_ ?_
  · intro w hSw
    (try dsimp only at hSw)
    go_simp
  simp only [Act.put, List.setIfInBounds_toArray, List.set_cons_zero, List.set_cons_succ]
  refine handRead 6 (some 9) (.pointer (some ⟨W.heap.size, 2, none⟩)) rfl rfl (by kernel_rfl) (by kernel_rfl) (by kernel_rfl) (fun _ _ _ h => h) (by kernel_rfl) (by assumption) ?_ ?_
  · intro w hSw
    (try dsimp only at hSw)
    go_simp
  simp only [Act.put, List.setIfInBounds_toArray, List.set_cons_zero, List.set_cons_succ]
  refine handRead 7 (some 10) (.slice a2 f.ow.length c2) rfl rfl (by kernel_rfl) (by kernel_rfl) (by kernel_rfl) (fun _ _ _ h => h) (by kernel_rfl) (by assumption) ?_ ?_
  · intro w hSw
    (try dsimp only at hSw)
    go_simp
  simp only [Act.put, List.setIfInBounds_toArray, List.set_cons_zero, List.set_cons_succ]
  refine handRead 10 (some 13) (.pointer (some ⟨W.heap.size, 3, none⟩)) rfl rfl (by kernel_rfl) (by kernel_rfl) (by kernel_rfl) (fun _ _ _ h => h) (by kernel_rfl) (by assumption) ?_ ?_
  · intro w hSw
    (try dsimp only at hSw)
    go_simp
  simp only [Act.put, List.setIfInBounds_toArray, List.set_cons_zero, List.set_cons_succ]
  refine handRead 11 (some 14) (.slice a3 f.ln.length c3) rfl rfl (by kernel_rfl) (by kernel_rfl) (by kernel_rfl) (fun _ _ _ h => h) (by kernel_rfl) (by assumption) ?_ ?_
  · intro w hSw
    (try dsimp only at hSw)
    go_simp
  simp only [Act.put, List.setIfInBounds_toArray, List.set_cons_zero, List.set_cons_succ]
  refine wpAnyH_ready (rs := [2, 9]) (by kernel_rfl) (by simp) ?_
  refine AllReadyH.cons rfl (fun K hK => ?_) (AllReadyH.cons rfl (fun K hK => ?_) AllReadyH.nil)
  · refine step_go (by rfl) 54 #[.slice a0 f.lk.length c0] (by simp [go_sem]) ((C0.out _ HS0.out).mono ?_)
    rintro e w1 ⟨v1, rfl, ⟨us0, ho1⟩, hb1⟩
    refine ⟨_, rfl, ?_⟩
    obtain ⟨e0, d0, hv1⟩ := ho1.shape
    subst hv1
    have HS1 : Hid (Since W.heap.size W w1) := HS0.out.step hb1
    have HX1 : Hid (Bx4 w1 W.heap.size (.slice a0 f.lk.length c0) (.slice a1 f.kn.length c1) (.slice a2 f.ow.length c2) (.slice a3 f.ln.length c3)) := HX0.out.below hb1
    have HY1 : Hid (Bx4 w1 (W.heap.size + 1) (.slice none 0 0) (.slice none 0 0) (.slice none 0 0) (.slice none 0 0)) := HY0.out.below hb1
    have HZ1 : Hid (W.heap.size + 2 ≤ w1.heap.size) := Nat.le_trans HZ0.out hb1.size
    have HA1_0 : Hid (OwnSS w1 (W.heap.size + 2) (.slice e0 f.lk.length d0) us0 f.lk) := ho1.mono HZ0.out
    clear ho1 hb1
    refine hK.out _ _ (by exact HX1.out.cells) (fun hHeld => ?_)
    clear hK K
    try simp only [Act.put, List.setIfInBounds_toArray]
    refine wpAnyH_ready (rs := [5, 9]) (by kernel_rfl) (by simp) ?_
    refine AllReadyH.cons rfl (fun K hK => ?_) (AllReadyH.cons rfl (fun K hK => ?_) AllReadyH.nil)
    · refine step_go (by rfl) 54 #[.slice a1 f.kn.length c1] (by simp [go_sem]) ((C1.out _ HS1.out).mono ?_)
      rintro e w2 ⟨v2, rfl, ⟨us1, ho2⟩, hb2⟩
      refine ⟨_, rfl, ?_⟩
      obtain ⟨e1, d1, hv2⟩ := ho2.shape
      subst hv2
      have HS2 : Hid (Since W.heap.size W w2) := HS1.out.step hb2
      have HX2 : Hid (Bx4 w2 W.heap.size (.slice a0 f.lk.length c0) (.slice a1 f.kn.length c1) (.slice a2 f.ow.length c2) (.slice a3 f.ln.length c3)) := HX1.out.below hb2
      have HY2 : Hid (Bx4 w2 (W.heap.size + 1) (.slice none 0 0) (.slice none 0 0) (.slice none 0 0) (.slice none 0 0)) := HY1.out.below hb2
      have HZ2 : Hid (W.heap.size + 2 ≤ w2.heap.size) := Nat.le_trans HZ1.out hb2.size
      have HA2_0 : Hid (OwnSS w2 (W.heap.size + 2) (.slice e0 f.lk.length d0) us0 f.lk) := HA1_0.out.below hb2
      have HA2_1 : Hid (OwnSS w2 (W.heap.size + 2) (.slice e1 f.kn.length d1) us1 f.kn) := ho2.mono HZ1.out
      have HP01 : Hid (ApartSS (.slice e0 f.lk.length d0) us0 (.slice e1 f.kn.length d1) us1) := apartSS_lt HA1_0.out ho2 (Nat.le_refl _)
      clear ho2 hb2
      refine hK.out _ _ (by exact HX2.out.cells) (fun hHeld => ?_)
      clear hK K
      try simp only [Act.put]
      refine wpAnyH_ready (rs := [8, 9]) (by kernel_rfl) (by simp) ?_
      refine AllReadyH.cons rfl (fun K hK => ?_) (AllReadyH.cons rfl (fun K hK => ?_) AllReadyH.nil)
      · refine step_go (by rfl) 54 #[.slice a2 f.ow.length c2] (by simp [go_sem]) ((C2.out _ HS2.out).mono ?_)
        rintro e w3 ⟨v3, rfl, ⟨us2, ho3⟩, hb3⟩
        refine ⟨_, rfl, ?_⟩
        obtain ⟨e2, d2, hv3⟩ := ho3.shape
        subst hv3
        have HS3 : Hid (Since W.heap.size W w3) := HS2.out.step hb3
        have HX3 : Hid (Bx4 w3 W.heap.size (.slice a0 f.lk.length c0) (.slice a1 f.kn.length c1) (.slice a2 f.ow.length c2) (.slice a3 f.ln.length c3)) := HX2.out.below hb3
        have HY3 : Hid (Bx4 w3 (W.heap.size + 1) (.slice none 0 0) (.slice none 0 0) (.slice none 0 0) (.slice none 0 0)) := HY2.out.below hb3
        have HZ3 : Hid (W.heap.size + 2 ≤ w3.heap.size) := Nat.le_trans HZ2.out hb3.size
        have HA3_0 : Hid (OwnSS w3 (W.heap.size + 2) (.slice e0 f.lk.length d0) us0 f.lk) := HA2_0.out.below hb3
        have HA3_1 : Hid (OwnSS w3 (W.heap.size + 2) (.slice e1 f.kn.length d1) us1 f.kn) := HA2_1.out.below hb3
        have HA3_2 : Hid (OwnSS w3 (W.heap.size + 2) (.slice e2 f.ow.length d2) us2 f.ow) := ho3.mono HZ2.out
        have HP02 : Hid (ApartSS (.slice e0 f.lk.length d0) us0 (.slice e2 f.ow.length d2) us2) := apartSS_lt HA2_0.out ho3 (Nat.le_refl _)
        have HP12 : Hid (ApartSS (.slice e1 f.kn.length d1) us1 (.slice e2 f.ow.length d2) us2) := apartSS_lt HA2_1.out ho3 (Nat.le_refl _)
        clear ho3 hb3
        refine hK.out _ _ (by exact HX3.out.cells) (fun hHeld => ?_)
        clear hK K
        try simp only [Act.put]
        refine wpAnyH_ready (rs := [9]) (by kernel_rfl) (by simp) ?_
        refine AllReadyH.cons rfl (fun K hK => ?_) AllReadyH.nil
        go_simp
        have hb4 : Below w3.heap.size w3 (w3.alloc (.cells #[] 66)) := (Below.refl _ _).alloc (Nat.le_refl _) _
        obtain ⟨bm, hbm⟩ : ∃ bm, bm = w3.heap.size := ⟨_, rfl⟩
        have HMV : OwnLt (w3.alloc (.cells #[] 66)) (W.heap.size + 2) (.slice (some ⟨w3.heap.size, 0, none⟩) 0 0) [] := World.ownsRow_made (base := W.heap.size + 2) (e := 66) (size := 5) w3 #[] 0 HZ3.out (by unfold maxLen; omega) rfl
        rw [← hbm] at HMV ⊢
        have HM4 : Hid (OwnLt (w3.alloc (.cells #[] 66)) (W.heap.size + 2) (.slice (some ⟨bm, 0, none⟩) 0 0) []) := HMV
        have HMB4 : Hid (bm < (w3.alloc (.cells #[] 66)).heap.size) := (show bm < (w3.alloc (.cells #[] 66)).heap.size by simp; omega)
        have HS4 : Hid (Since W.heap.size W (w3.alloc (.cells #[] 66))) := HS3.out.step hb4
        have HX4 : Hid (Bx4 (w3.alloc (.cells #[] 66)) W.heap.size (.slice a0 f.lk.length c0) (.slice a1 f.kn.length c1) (.slice a2 f.ow.length c2) (.slice a3 f.ln.length c3)) := HX3.out.below hb4
        have HY4 : Hid (Bx4 (w3.alloc (.cells #[] 66)) (W.heap.size + 1) (.slice none 0 0) (.slice none 0 0) (.slice none 0 0) (.slice none 0 0)) := HY3.out.below hb4
        have HZ4 : Hid (W.heap.size + 2 ≤ (w3.alloc (.cells #[] 66)).heap.size) := Nat.le_trans HZ3.out hb4.size
        have HA4_0 : Hid (OwnSS (w3.alloc (.cells #[] 66)) (W.heap.size + 2) (.slice e0 f.lk.length d0) us0 f.lk) := HA3_0.out.below hb4
        have HA4_1 : Hid (OwnSS (w3.alloc (.cells #[] 66)) (W.heap.size + 2) (.slice e1 f.kn.length d1) us1 f.kn) := HA3_1.out.below hb4
        have HA4_2 : Hid (OwnSS (w3.alloc (.cells #[] 66)) (W.heap.size + 2) (.slice e2 f.ow.length d2) us2 f.ow) := HA3_2.out.below hb4
        have HNE0 : Hid ((∀ c, (.slice e0 f.lk.length d0 : Value).ownBlock = some c → c ≠ bm) ∧ ∀ c, InSS us0 c → c ≠ bm) := ⟨fun c hc => by have := (World.ownsRow.lt HA3_0.out.row c hc).2; omega, fun c hc => by have := (HA3_0.out.inLt c hc).2; omega⟩
        have HNE1 : Hid ((∀ c, (.slice e1 f.kn.length d1 : Value).ownBlock = some c → c ≠ bm) ∧ ∀ c, InSS us1 c → c ≠ bm) := ⟨fun c hc => by have := (World.ownsRow.lt HA3_1.out.row c hc).2; omega, fun c hc => by have := (HA3_1.out.inLt c hc).2; omega⟩
        have HNE2 : Hid ((∀ c, (.slice e2 f.ow.length d2 : Value).ownBlock = some c → c ≠ bm) ∧ ∀ c, InSS us2 c → c ≠ bm) := ⟨fun c hc => by have := (World.ownsRow.lt HA3_2.out.row c hc).2; omega, fun c hc => by have := (HA3_2.out.inLt c hc).2; omega⟩
        clear HMV hbm hb4
        refine hK.out _ _ (by exact HX4.out.cells) (fun hHeld => ?_)
        clear hK K
        try simp only [Act.put, List.setIfInBounds_toArray, List.set_cons_zero, List.set_cons_succ]
        generalize (w3.alloc (.cells #[] 66)) = w4 at *
        refine wpAnyH_ready (rs := [12]) (by kernel_rfl) (by simp) ?_
        refine AllReadyH.cons rfl (fun K hK => ?_) AllReadyH.nil
        refine step_app (by rfl) (.tmp 12) (.tmp 14) 29 (by rfl) (.slice (some ⟨bm, 0, none⟩) 0 0) (.slice a3 f.ln.length c3) (by rfl) (by rfl) _ (C3.out w4 _ HS4.out ⟨_, Nat.le_refl _, HZ4.out, HM4.out⟩) ?_
        rintro vz wz ⟨B4, hB4, hg4⟩
        have HS3 := HS4
        have HX3 := HX4
        have HY3 := HY4
        have HA3_0 := HA4_0
        have HA3_1 := HA4_1
        have HA3_2 := HA4_2
        obtain ⟨e3, d3, hvz⟩ := OwnLt.shape hg4.own
        subst hvz
        have HS4 : Hid (Since W.heap.size W wz) := ⟨HS3.out.1.trans (hg4.below.mono (by omega)), Nat.le_trans HS3.out.2 hg4.size⟩
        have HX4 : Hid (Bx4 wz W.heap.size (.slice a0 f.lk.length c0) (.slice a1 f.kn.length c1) (.slice a2 f.ow.length c2) (.slice a3 f.ln.length c3)) := HX3.out.same (hg4.below.block _ (by omega)) hg4.size
        have HY4 : Hid (Bx4 wz (W.heap.size + 1) (.slice none 0 0) (.slice none 0 0) (.slice none 0 0) (.slice none 0 0)) := HY3.out.same (hg4.below.block _ (by omega)) hg4.size
        have HA4_0 : Hid (OwnSS wz (W.heap.size + 2) (.slice e0 f.lk.length d0) us0 f.lk) := HA3_0.out.same (fun k hk => hg4.grown.block k (World.ownsRow.lt HA3_0.out.row k hk).2 (ne_some (HNE0.out.1 k hk))) (fun k hk => hg4.grown.block k (HA3_0.out.inLt k hk).2 (ne_some (HNE0.out.2 k hk)))
        have HA4_1 : Hid (OwnSS wz (W.heap.size + 2) (.slice e1 f.kn.length d1) us1 f.kn) := HA3_1.out.same (fun k hk => hg4.grown.block k (World.ownsRow.lt HA3_1.out.row k hk).2 (ne_some (HNE1.out.1 k hk))) (fun k hk => hg4.grown.block k (HA3_1.out.inLt k hk).2 (ne_some (HNE1.out.2 k hk)))
        have HA4_2 : Hid (OwnSS wz (W.heap.size + 2) (.slice e2 f.ow.length d2) us2 f.ow) := HA3_2.out.same (fun k hk => hg4.grown.block k (World.ownsRow.lt HA3_2.out.row k hk).2 (ne_some (HNE2.out.1 k hk))) (fun k hk => hg4.grown.block k (HA3_2.out.inLt k hk).2 (ne_some (HNE2.out.2 k hk)))
        have HF4 : Hid (OwnF wz (W.heap.size + 2) (.slice e0 f.lk.length d0) (.slice e1 f.kn.length d1) (.slice e2 f.ow.length d2) (.slice e3 f.ln.length d3) us0 us1 us2 f) := ⟨HA4_0.out, HA4_1.out, HA4_2.out, OwnLt.mono hg4.own hB4, HP01.out, HP02.out, HP12.out⟩
        clear hg4 hB4
        refine hK.out _ _ ?_ (fun hHeld => ?_)
        · exact HX4.out.cells
        clear hK K
        try simp only [Act.put, List.setIfInBounds_toArray]
        refine handRead 13 (some 16) (.agg #[.slice e0 f.lk.length d0, .slice e1 f.kn.length d1, .slice e2 f.ow.length d2, .slice e3 f.ln.length d3]) rfl rfl (by kernel_rfl) (by kernel_rfl) (by kernel_rfl) (fun _ _ _ h => h) (by kernel_rfl) (by assumption) ?_ ?_
        · intro w hSw
          (try dsimp only at hSw)
          go_simp
        simp only [Act.put]
        have HYF : Hid (Bx4 ((((wz.setCell ⟨W.heap.size + 1, 0, none⟩ (.slice e0 f.lk.length d0)).setCell ⟨W.heap.size + 1, 1, none⟩ (.slice e1 f.kn.length d1)).setCell ⟨W.heap.size + 1, 2, none⟩ (.slice e2 f.ow.length d2)).setCell ⟨W.heap.size + 1, 3, none⟩ (.slice e3 f.ln.length d3)) (W.heap.size + 1) (.slice e0 f.lk.length d0) (.slice e1 f.kn.length d1) (.slice e2 f.ow.length d2) (.slice e3 f.ln.length d3)) := (((HY4.out.put0 _).put1 _).put2 _).put3 _
        have HXF : Hid (Bx4 ((((wz.setCell ⟨W.heap.size + 1, 0, none⟩ (.slice e0 f.lk.length d0)).setCell ⟨W.heap.size + 1, 1, none⟩ (.slice e1 f.kn.length d1)).setCell ⟨W.heap.size + 1, 2, none⟩ (.slice e2 f.ow.length d2)).setCell ⟨W.heap.size + 1, 3, none⟩ (.slice e3 f.ln.length d3)) W.heap.size (.slice a0 f.lk.length c0) (.slice a1 f.kn.length c1) (.slice a2 f.ow.length c2) (.slice a3 f.ln.length c3)) := (((HX4.out.other (by simp) _).other (by simp) _).other (by simp) _).other (by simp) _
        have HFF : Hid (OwnF ((((wz.setCell ⟨W.heap.size + 1, 0, none⟩ (.slice e0 f.lk.length d0)).setCell ⟨W.heap.size + 1, 1, none⟩ (.slice e1 f.kn.length d1)).setCell ⟨W.heap.size + 1, 2, none⟩ (.slice e2 f.ow.length d2)).setCell ⟨W.heap.size + 1, 3, none⟩ (.slice e3 f.ln.length d3)) (W.heap.size + 2) (.slice e0 f.lk.length d0) (.slice e1 f.kn.length d1) (.slice e2 f.ow.length d2) (.slice e3 f.ln.length d3) us0 us1 us2 f) := (((HF4.out.setCell (by simp) _).setCell (by simp) _).setCell (by simp) _).setCell (by simp) _
        have HSF : Hid (Below W.heap.size W ((((wz.setCell ⟨W.heap.size + 1, 0, none⟩ (.slice e0 f.lk.length d0)).setCell ⟨W.heap.size + 1, 1, none⟩ (.slice e1 f.kn.length d1)).setCell ⟨W.heap.size + 1, 2, none⟩ (.slice e2 f.ow.length d2)).setCell ⟨W.heap.size + 1, 3, none⟩ (.slice e3 f.ln.length d3))) := (((HS4.out.1.setCell (by simp) _).setCell (by simp) _).setCell (by simp) _).setCell (by simp) _
        obtain ⟨y, y0, y1, y2, y3, yf⟩ := HY4.out
        refine wpAnyH_ready (rs := [14]) (by kernel_rfl) (by simp) ?_
        refine AllReadyH.cons rfl (fun K hK => ?_) AllReadyH.nil
        go_simp
        refine hK.out _ _ ?_ (fun hHeld => ?_)
        · exact HXF.out.cells
        clear hK K
        try simp only [Act.put, List.setIfInBounds_toArray, List.set_cons_zero, List.set_cons_succ]
        refine wpAnyH_done (by kernel_rfl) ?_ _
        clear y y0 y1 y2 y3 yf
        obtain ⟨y, y0, y1, y2, y3, yf⟩ := HYF.out
        go_wp2
        refine bodyPost_ret (v := .agg #[.slice e0 f.lk.length d0, .slice e1 f.kn.length d1, .slice e2 f.ow.length d2, .slice e3 f.ln.length d3]) (by simp [results, Try.results25, go_sem, y0, y1, y2, y3]) rfl ⟨_, _, _, _, rfl, ⟨us0, us1, us2, HFF.out.mono (by omega)⟩, HSF.out⟩
      · go_simp
        have hb3 : Below w2.heap.size w2 (w2.alloc (.cells #[] 66)) := (Below.refl _ _).alloc (Nat.le_refl _) _
        obtain ⟨bm, hbm⟩ : ∃ bm, bm = w2.heap.size := ⟨_, rfl⟩
        have HMV : OwnLt (w2.alloc (.cells #[] 66)) (W.heap.size + 2) (.slice (some ⟨w2.heap.size, 0, none⟩) 0 0) [] := World.ownsRow_made (base := W.heap.size + 2) (e := 66) (size := 5) w2 #[] 0 HZ2.out (by unfold maxLen; omega) rfl
        rw [← hbm] at HMV ⊢
        have HM3 : Hid (OwnLt (w2.alloc (.cells #[] 66)) (W.heap.size + 2) (.slice (some ⟨bm, 0, none⟩) 0 0) []) := HMV
        have HMB3 : Hid (bm < (w2.alloc (.cells #[] 66)).heap.size) := (show bm < (w2.alloc (.cells #[] 66)).heap.size by simp; omega)
        have HS3 : Hid (Since W.heap.size W (w2.alloc (.cells #[] 66))) := HS2.out.step hb3
        have HX3 : Hid (Bx4 (w2.alloc (.cells #[] 66)) W.heap.size (.slice a0 f.lk.length c0) (.slice a1 f.kn.length c1) (.slice a2 f.ow.length c2) (.slice a3 f.ln.length c3)) := HX2.out.below hb3
        have HY3 : Hid (Bx4 (w2.alloc (.cells #[] 66)) (W.heap.size + 1) (.slice none 0 0) (.slice none 0 0) (.slice none 0 0) (.slice none 0 0)) := HY2.out.below hb3
        have HZ3 : Hid (W.heap.size + 2 ≤ (w2.alloc (.cells #[] 66)).heap.size) := Nat.le_trans HZ2.out hb3.size
        have HA3_0 : Hid (OwnSS (w2.alloc (.cells #[] 66)) (W.heap.size + 2) (.slice e0 f.lk.length d0) us0 f.lk) := HA2_0.out.below hb3
        have HA3_1 : Hid (OwnSS (w2.alloc (.cells #[] 66)) (W.heap.size + 2) (.slice e1 f.kn.length d1) us1 f.kn) := HA2_1.out.below hb3
        have HNE0 : Hid ((∀ c, (.slice e0 f.lk.length d0 : Value).ownBlock = some c → c ≠ bm) ∧ ∀ c, InSS us0 c → c ≠ bm) := ⟨fun c hc => by have := (World.ownsRow.lt HA2_0.out.row c hc).2; omega, fun c hc => by have := (HA2_0.out.inLt c hc).2; omega⟩
        have HNE1 : Hid ((∀ c, (.slice e1 f.kn.length d1 : Value).ownBlock = some c → c ≠ bm) ∧ ∀ c, InSS us1 c → c ≠ bm) := ⟨fun c hc => by have := (World.ownsRow.lt HA2_1.out.row c hc).2; omega, fun c hc => by have := (HA2_1.out.inLt c hc).2; omega⟩
        clear HMV hbm hb3
        refine hK.out _ _ (by exact HX3.out.cells) (fun hHeld => ?_)
        clear hK K
        try simp only [Act.put, List.setIfInBounds_toArray, List.set_cons_zero, List.set_cons_succ]
        generalize (w2.alloc (.cells #[] 66)) = w3 at *
        refine wpAnyH_ready (rs := [8]) (by kernel_rfl) (by simp) ?_
        refine AllReadyH.cons rfl (fun K hK => ?_) AllReadyH.nil
        refine step_go (by rfl) 54 #[.slice a2 f.ow.length c2] (by simp [go_sem]) ((C2.out _ HS3.out).mono ?_)
        rintro e w4 ⟨v4, rfl, ⟨us2, ho4⟩, hb4⟩
        refine ⟨_, rfl, ?_⟩
        obtain ⟨e2, d2, hv4⟩ := ho4.shape
        subst hv4
        have HS4 : Hid (Since W.heap.size W w4) := HS3.out.step hb4
        have HX4 : Hid (Bx4 w4 W.heap.size (.slice a0 f.lk.length c0) (.slice a1 f.kn.length c1) (.slice a2 f.ow.length c2) (.slice a3 f.ln.length c3)) := HX3.out.below hb4
        have HY4 : Hid (Bx4 w4 (W.heap.size + 1) (.slice none 0 0) (.slice none 0 0) (.slice none 0 0) (.slice none 0 0)) := HY3.out.below hb4
        have HZ4 : Hid (W.heap.size + 2 ≤ w4.heap.size) := Nat.le_trans HZ3.out hb4.size
        have HA4_0 : Hid (OwnSS w4 (W.heap.size + 2) (.slice e0 f.lk.length d0) us0 f.lk) := HA3_0.out.below hb4
        have HA4_1 : Hid (OwnSS w4 (W.heap.size + 2) (.slice e1 f.kn.length d1) us1 f.kn) := HA3_1.out.below hb4
        have HM4 : Hid (OwnLt w4 (W.heap.size + 2) (.slice (some ⟨bm, 0, none⟩) 0 0) []) := OwnLt.below HM3.out hb4
        have HMB4 : Hid (bm < w4.heap.size) := Nat.lt_of_lt_of_le HMB3.out hb4.size
        have HA4_2 : Hid (OwnSS w4 (W.heap.size + 2) (.slice e2 f.ow.length d2) us2 f.ow) := ho4.mono HZ3.out
        have HP02 : Hid (ApartSS (.slice e0 f.lk.length d0) us0 (.slice e2 f.ow.length d2) us2) := apartSS_lt HA3_0.out ho4 (Nat.le_refl _)
        have HP12 : Hid (ApartSS (.slice e1 f.kn.length d1) us1 (.slice e2 f.ow.length d2) us2) := apartSS_lt HA3_1.out ho4 (Nat.le_refl _)
        have HNE2 : Hid ((∀ c, (.slice e2 f.ow.length d2 : Value).ownBlock = some c → c ≠ bm) ∧ ∀ c, InSS us2 c → c ≠ bm) := ⟨fun c hc => by have := (World.ownsRow.lt ho4.row c hc).1; have := HMB3.out; omega, fun c hc => by have := (ho4.inLt c hc).1; have := HMB3.out; omega⟩
        clear ho4 hb4
        refine hK.out _ _ (by exact HX4.out.cells) (fun hHeld => ?_)
        clear hK K
        try simp only [Act.put, List.setIfInBounds_toArray]
        refine wpAnyH_ready (rs := [12]) (by kernel_rfl) (by simp) ?_
        refine AllReadyH.cons rfl (fun K hK => ?_) AllReadyH.nil
        refine step_app (by rfl) (.tmp 12) (.tmp 14) 29 (by rfl) (.slice (some ⟨bm, 0, none⟩) 0 0) (.slice a3 f.ln.length c3) (by rfl) (by rfl) _ (C3.out w4 _ HS4.out ⟨_, Nat.le_refl _, HZ4.out, HM4.out⟩) ?_
        rintro vz wz ⟨B4, hB4, hg4⟩
        have HS3 := HS4
        have HX3 := HX4
        have HY3 := HY4
        have HA3_0 := HA4_0
        have HA3_1 := HA4_1
        have HA3_2 := HA4_2
        obtain ⟨e3, d3, hvz⟩ := OwnLt.shape hg4.own
        subst hvz
        have HS4 : Hid (Since W.heap.size W wz) := ⟨HS3.out.1.trans (hg4.below.mono (by omega)), Nat.le_trans HS3.out.2 hg4.size⟩
        have HX4 : Hid (Bx4 wz W.heap.size (.slice a0 f.lk.length c0) (.slice a1 f.kn.length c1) (.slice a2 f.ow.length c2) (.slice a3 f.ln.length c3)) := HX3.out.same (hg4.below.block _ (by omega)) hg4.size
        have HY4 : Hid (Bx4 wz (W.heap.size + 1) (.slice none 0 0) (.slice none 0 0) (.slice none 0 0) (.slice none 0 0)) := HY3.out.same (hg4.below.block _ (by omega)) hg4.size
        have HA4_0 : Hid (OwnSS wz (W.heap.size + 2) (.slice e0 f.lk.length d0) us0 f.lk) := HA3_0.out.same (fun k hk => hg4.grown.block k (World.ownsRow.lt HA3_0.out.row k hk).2 (ne_some (HNE0.out.1 k hk))) (fun k hk => hg4.grown.block k (HA3_0.out.inLt k hk).2 (ne_some (HNE0.out.2 k hk)))
        have HA4_1 : Hid (OwnSS wz (W.heap.size + 2) (.slice e1 f.kn.length d1) us1 f.kn) := HA3_1.out.same (fun k hk => hg4.grown.block k (World.ownsRow.lt HA3_1.out.row k hk).2 (ne_some (HNE1.out.1 k hk))) (fun k hk => hg4.grown.block k (HA3_1.out.inLt k hk).2 (ne_some (HNE1.out.2 k hk)))
        have HA4_2 : Hid (OwnSS wz (W.heap.size + 2) (.slice e2 f.ow.length d2) us2 f.ow) := HA3_2.out.same (fun k hk => hg4.grown.block k (World.ownsRow.lt HA3_2.out.row k hk).2 (ne_some (HNE2.out.1 k hk))) (fun k hk => hg4.grown.block k (HA3_2.out.inLt k hk).2 (ne_some (HNE2.out.2 k hk)))
        have HF4 : Hid (OwnF wz (W.heap.size + 2) (.slice e0 f.lk.length d0) (.slice e1 f.kn.length d1) (.slice e2 f.ow.length d2) (.slice e3 f.ln.length d3) us0 us1 us2 f) := ⟨HA4_0.out, HA4_1.out, HA4_2.out, OwnLt.mono hg4.own hB4, HP01.out, HP02.out, HP12.out⟩
        clear hg4 hB4
        refine hK.out _ _ ?_ (fun hHeld => ?_)
        · exact HX4.out.cells
        clear hK K
        try simp only [Act.put]
        refine handRead 13 (some 16) (.agg #[.slice e0 f.lk.length d0, .slice e1 f.kn.length d1, .slice e2 f.ow.length d2, .slice e3 f.ln.length d3]) rfl rfl (by kernel_rfl) (by kernel_rfl) (by kernel_rfl) (fun _ _ _ h => h) (by kernel_rfl) (by assumption) ?_ ?_
        · intro w hSw
          (try dsimp only at hSw)
          go_simp
        simp only [Act.put]
        have HYF : Hid (Bx4 ((((wz.setCell ⟨W.heap.size + 1, 0, none⟩ (.slice e0 f.lk.length d0)).setCell ⟨W.heap.size + 1, 1, none⟩ (.slice e1 f.kn.length d1)).setCell ⟨W.heap.size + 1, 2, none⟩ (.slice e2 f.ow.length d2)).setCell ⟨W.heap.size + 1, 3, none⟩ (.slice e3 f.ln.length d3)) (W.heap.size + 1) (.slice e0 f.lk.length d0) (.slice e1 f.kn.length d1) (.slice e2 f.ow.length d2) (.slice e3 f.ln.length d3)) := (((HY4.out.put0 _).put1 _).put2 _).put3 _
        have HXF : Hid (Bx4 ((((wz.setCell ⟨W.heap.size + 1, 0, none⟩ (.slice e0 f.lk.length d0)).setCell ⟨W.heap.size + 1, 1, none⟩ (.slice e1 f.kn.length d1)).setCell ⟨W.heap.size + 1, 2, none⟩ (.slice e2 f.ow.length d2)).setCell ⟨W.heap.size + 1, 3, none⟩ (.slice e3 f.ln.length d3)) W.heap.size (.slice a0 f.lk.length c0) (.slice a1 f.kn.length c1) (.slice a2 f.ow.length c2) (.slice a3 f.ln.length c3)) := (((HX4.out.other (by simp) _).other (by simp) _).other (by simp) _).other (by simp) _
        have HFF : Hid (OwnF ((((wz.setCell ⟨W.heap.size + 1, 0, none⟩ (.slice e0 f.lk.length d0)).setCell ⟨W.heap.size + 1, 1, none⟩ (.slice e1 f.kn.length d1)).setCell ⟨W.heap.size + 1, 2, none⟩ (.slice e2 f.ow.length d2)).setCell ⟨W.heap.size + 1, 3, none⟩ (.slice e3 f.ln.length d3)) (W.heap.size + 2) (.slice e0 f.lk.length d0) (.slice e1 f.kn.length d1) (.slice e2 f.ow.length d2) (.slice e3 f.ln.length d3) us0 us1 us2 f) := (((HF4.out.setCell (by simp) _).setCell (by simp) _).setCell (by simp) _).setCell (by simp) _
        have HSF : Hid (Below W.heap.size W ((((wz.setCell ⟨W.heap.size + 1, 0, none⟩ (.slice e0 f.lk.length d0)).setCell ⟨W.heap.size + 1, 1, none⟩ (.slice e1 f.kn.length d1)).setCell ⟨W.heap.size + 1, 2, none⟩ (.slice e2 f.ow.length d2)).setCell ⟨W.heap.size + 1, 3, none⟩ (.slice e3 f.ln.length d3))) := (((HS4.out.1.setCell (by simp) _).setCell (by simp) _).setCell (by simp) _).setCell (by simp) _
        obtain ⟨y, y0, y1, y2, y3, yf⟩ := HY4.out
        refine wpAnyH_ready (rs := [14]) (by kernel_rfl) (by simp) ?_
        refine AllReadyH.cons rfl (fun K hK => ?_) AllReadyH.nil
        go_simp
        refine hK.out _ _ ?_ (fun hHeld => ?_)
        · exact HXF.out.cells
        clear hK K
        try simp only [Act.put, List.setIfInBounds_toArray, List.set_cons_zero, List.set_cons_succ]
        refine wpAnyH_done (by kernel_rfl) ?_ _
        clear y y0 y1 y2 y3 yf
        obtain ⟨y, y0, y1, y2, y3, yf⟩ := HYF.out
        go_wp2
        refine bodyPost_ret (v := .agg #[.slice e0 f.lk.length d0, .slice e1 f.kn.length d1, .slice e2 f.ow.length d2, .slice e3 f.ln.length d3]) (by simp [results, Try.results25, go_sem, y0, y1, y2, y3]) rfl ⟨_, _, _, _, rfl, ⟨us0, us1, us2, HFF.out.mono (by omega)⟩, HSF.out⟩
    · go_simp
      have hb2 : Below w1.heap.size w1 (w1.alloc (.cells #[] 66)) := (Below.refl _ _).alloc (Nat.le_refl _) _
      obtain ⟨bm, hbm⟩ : ∃ bm, bm = w1.heap.size := ⟨_, rfl⟩
      have HMV : OwnLt (w1.alloc (.cells #[] 66)) (W.heap.size + 2) (.slice (some ⟨w1.heap.size, 0, none⟩) 0 0) [] := World.ownsRow_made (base := W.heap.size + 2) (e := 66) (size := 5) w1 #[] 0 HZ1.out (by unfold maxLen; omega) rfl
      rw [← hbm] at HMV ⊢
      have HM2 : Hid (OwnLt (w1.alloc (.cells #[] 66)) (W.heap.size + 2) (.slice (some ⟨bm, 0, none⟩) 0 0) []) := HMV
      have HMB2 : Hid (bm < (w1.alloc (.cells #[] 66)).heap.size) := (show bm < (w1.alloc (.cells #[] 66)).heap.size by simp; omega)
      have HS2 : Hid (Since W.heap.size W (w1.alloc (.cells #[] 66))) := HS1.out.step hb2
      have HX2 : Hid (Bx4 (w1.alloc (.cells #[] 66)) W.heap.size (.slice a0 f.lk.length c0) (.slice a1 f.kn.length c1) (.slice a2 f.ow.length c2) (.slice a3 f.ln.length c3)) := HX1.out.below hb2
      have HY2 : Hid (Bx4 (w1.alloc (.cells #[] 66)) (W.heap.size + 1) (.slice none 0 0) (.slice none 0 0) (.slice none 0 0) (.slice none 0 0)) := HY1.out.below hb2
      have HZ2 : Hid (W.heap.size + 2 ≤ (w1.alloc (.cells #[] 66)).heap.size) := Nat.le_trans HZ1.out hb2.size
      have HA2_0 : Hid (OwnSS (w1.alloc (.cells #[] 66)) (W.heap.size + 2) (.slice e0 f.lk.length d0) us0 f.lk) := HA1_0.out.below hb2
      have HNE0 : Hid ((∀ c, (.slice e0 f.lk.length d0 : Value).ownBlock = some c → c ≠ bm) ∧ ∀ c, InSS us0 c → c ≠ bm) := ⟨fun c hc => by have := (World.ownsRow.lt HA1_0.out.row c hc).2; omega, fun c hc => by have := (HA1_0.out.inLt c hc).2; omega⟩
      clear HMV hbm hb2
      refine hK.out _ _ (by exact HX2.out.cells) (fun hHeld => ?_)
      clear hK K
      try simp only [Act.put, List.setIfInBounds_toArray, List.set_cons_zero, List.set_cons_succ]
      generalize (w1.alloc (.cells #[] 66)) = w2 at *
      refine wpAnyH_ready (rs := [5]) (by kernel_rfl) (by simp) ?_
      refine AllReadyH.cons rfl (fun K hK => ?_) AllReadyH.nil
      refine step_go (by rfl) 54 #[.slice a1 f.kn.length c1] (by simp [go_sem]) ((C1.out _ HS2.out).mono ?_)
      rintro e w3 ⟨v3, rfl, ⟨us1, ho3⟩, hb3⟩
      refine ⟨_, rfl, ?_⟩
      obtain ⟨e1, d1, hv3⟩ := ho3.shape
      subst hv3
      have HS3 : Hid (Since W.heap.size W w3) := HS2.out.step hb3
      have HX3 : Hid (Bx4 w3 W.heap.size (.slice a0 f.lk.length c0) (.slice a1 f.kn.length c1) (.slice a2 f.ow.length c2) (.slice a3 f.ln.length c3)) := HX2.out.below hb3
      have HY3 : Hid (Bx4 w3 (W.heap.size + 1) (.slice none 0 0) (.slice none 0 0) (.slice none 0 0) (.slice none 0 0)) := HY2.out.below hb3
      have HZ3 : Hid (W.heap.size + 2 ≤ w3.heap.size) := Nat.le_trans HZ2.out hb3.size
      have HA3_0 : Hid (OwnSS w3 (W.heap.size + 2) (.slice e0 f.lk.length d0) us0 f.lk) := HA2_0.out.below hb3
      have HM3 : Hid (OwnLt w3 (W.heap.size + 2) (.slice (some ⟨bm, 0, none⟩) 0 0) []) := OwnLt.below HM2.out hb3
      have HMB3 : Hid (bm < w3.heap.size) := Nat.lt_of_lt_of_le HMB2.out hb3.size
      have HA3_1 : Hid (OwnSS w3 (W.heap.size + 2) (.slice e1 f.kn.length d1) us1 f.kn) := ho3.mono HZ2.out
      have HP01 : Hid (ApartSS (.slice e0 f.lk.length d0) us0 (.slice e1 f.kn.length d1) us1) := apartSS_lt HA2_0.out ho3 (Nat.le_refl _)
      have HNE1 : Hid ((∀ c, (.slice e1 f.kn.length d1 : Value).ownBlock = some c → c ≠ bm) ∧ ∀ c, InSS us1 c → c ≠ bm) := ⟨fun c hc => by have := (World.ownsRow.lt ho3.row c hc).1; have := HMB2.out; omega, fun c hc => by have := (ho3.inLt c hc).1; have := HMB2.out; omega⟩
      clear ho3 hb3
      refine hK.out _ _ (by exact HX3.out.cells) (fun hHeld => ?_)
      clear hK K
      try simp only [Act.put, List.setIfInBounds_toArray]
      refine wpAnyH_ready (rs := [8]) (by kernel_rfl) (by simp) ?_
      refine AllReadyH.cons rfl (fun K hK => ?_) AllReadyH.nil
      refine step_go (by rfl) 54 #[.slice a2 f.ow.length c2] (by simp [go_sem]) ((C2.out _ HS3.out).mono ?_)
      rintro e w4 ⟨v4, rfl, ⟨us2, ho4⟩, hb4⟩
      refine ⟨_, rfl, ?_⟩
      obtain ⟨e2, d2, hv4⟩ := ho4.shape
      subst hv4
      have HS4 : Hid (Since W.heap.size W w4) := HS3.out.step hb4
      have HX4 : Hid (Bx4 w4 W.heap.size (.slice a0 f.lk.length c0) (.slice a1 f.kn.length c1) (.slice a2 f.ow.length c2) (.slice a3 f.ln.length c3)) := HX3.out.below hb4
      have HY4 : Hid (Bx4 w4 (W.heap.size + 1) (.slice none 0 0) (.slice none 0 0) (.slice none 0 0) (.slice none 0 0)) := HY3.out.below hb4
      have HZ4 : Hid (W.heap.size + 2 ≤ w4.heap.size) := Nat.le_trans HZ3.out hb4.size
      have HA4_0 : Hid (OwnSS w4 (W.heap.size + 2) (.slice e0 f.lk.length d0) us0 f.lk) := HA3_0.out.below hb4
      have HA4_1 : Hid (OwnSS w4 (W.heap.size + 2) (.slice e1 f.kn.length d1) us1 f.kn) := HA3_1.out.below hb4
      have HM4 : Hid (OwnLt w4 (W.heap.size + 2) (.slice (some ⟨bm, 0, none⟩) 0 0) []) := OwnLt.below HM3.out hb4
      have HMB4 : Hid (bm < w4.heap.size) := Nat.lt_of_lt_of_le HMB3.out hb4.size
      have HA4_2 : Hid (OwnSS w4 (W.heap.size + 2) (.slice e2 f.ow.length d2) us2 f.ow) := ho4.mono HZ3.out
      have HP02 : Hid (ApartSS (.slice e0 f.lk.length d0) us0 (.slice e2 f.ow.length d2) us2) := apartSS_lt HA3_0.out ho4 (Nat.le_refl _)
      have HP12 : Hid (ApartSS (.slice e1 f.kn.length d1) us1 (.slice e2 f.ow.length d2) us2) := apartSS_lt HA3_1.out ho4 (Nat.le_refl _)
      have HNE2 : Hid ((∀ c, (.slice e2 f.ow.length d2 : Value).ownBlock = some c → c ≠ bm) ∧ ∀ c, InSS us2 c → c ≠ bm) := ⟨fun c hc => by have := (World.ownsRow.lt ho4.row c hc).1; have := HMB3.out; omega, fun c hc => by have := (ho4.inLt c hc).1; have := HMB3.out; omega⟩
      clear ho4 hb4
      refine hK.out _ _ (by exact HX4.out.cells) (fun hHeld => ?_)
      clear hK K
      try simp only [Act.put]
      refine wpAnyH_ready (rs := [12]) (by kernel_rfl) (by simp) ?_
      refine AllReadyH.cons rfl (fun K hK => ?_) AllReadyH.nil
      refine step_app (by rfl) (.tmp 12) (.tmp 14) 29 (by rfl) (.slice (some ⟨bm, 0, none⟩) 0 0) (.slice a3 f.ln.length c3) (by rfl) (by rfl) _ (C3.out w4 _ HS4.out ⟨_, Nat.le_refl _, HZ4.out, HM4.out⟩) ?_
      rintro vz wz ⟨B4, hB4, hg4⟩
      have HS3 := HS4
      have HX3 := HX4
      have HY3 := HY4
      have HA3_0 := HA4_0
      have HA3_1 := HA4_1
      have HA3_2 := HA4_2
      obtain ⟨e3, d3, hvz⟩ := OwnLt.shape hg4.own
      subst hvz
      have HS4 : Hid (Since W.heap.size W wz) := ⟨HS3.out.1.trans (hg4.below.mono (by omega)), Nat.le_trans HS3.out.2 hg4.size⟩
      have HX4 : Hid (Bx4 wz W.heap.size (.slice a0 f.lk.length c0) (.slice a1 f.kn.length c1) (.slice a2 f.ow.length c2) (.slice a3 f.ln.length c3)) := HX3.out.same (hg4.below.block _ (by omega)) hg4.size
      have HY4 : Hid (Bx4 wz (W.heap.size + 1) (.slice none 0 0) (.slice none 0 0) (.slice none 0 0) (.slice none 0 0)) := HY3.out.same (hg4.below.block _ (by omega)) hg4.size
      have HA4_0 : Hid (OwnSS wz (W.heap.size + 2) (.slice e0 f.lk.length d0) us0 f.lk) := HA3_0.out.same (fun k hk => hg4.grown.block k (World.ownsRow.lt HA3_0.out.row k hk).2 (ne_some (HNE0.out.1 k hk))) (fun k hk => hg4.grown.block k (HA3_0.out.inLt k hk).2 (ne_some (HNE0.out.2 k hk)))
      have HA4_1 : Hid (OwnSS wz (W.heap.size + 2) (.slice e1 f.kn.length d1) us1 f.kn) := HA3_1.out.same (fun k hk => hg4.grown.block k (World.ownsRow.lt HA3_1.out.row k hk).2 (ne_some (HNE1.out.1 k hk))) (fun k hk => hg4.grown.block k (HA3_1.out.inLt k hk).2 (ne_some (HNE1.out.2 k hk)))
      have HA4_2 : Hid (OwnSS wz (W.heap.size + 2) (.slice e2 f.ow.length d2) us2 f.ow) := HA3_2.out.same (fun k hk => hg4.grown.block k (World.ownsRow.lt HA3_2.out.row k hk).2 (ne_some (HNE2.out.1 k hk))) (fun k hk => hg4.grown.block k (HA3_2.out.inLt k hk).2 (ne_some (HNE2.out.2 k hk)))
      have HF4 : Hid (OwnF wz (W.heap.size + 2) (.slice e0 f.lk.length d0) (.slice e1 f.kn.length d1) (.slice e2 f.ow.length d2) (.slice e3 f.ln.length d3) us0 us1 us2 f) := ⟨HA4_0.out, HA4_1.out, HA4_2.out, OwnLt.mono hg4.own hB4, HP01.out, HP02.out, HP12.out⟩
      clear hg4 hB4
      refine hK.out _ _ ?_ (fun hHeld => ?_)
      · exact HX4.out.cells
      clear hK K
      try simp only [Act.put]
      refine handRead 13 (some 16) (.agg #[.slice e0 f.lk.length d0, .slice e1 f.kn.length d1, .slice e2 f.ow.length d2, .slice e3 f.ln.length d3]) rfl rfl (by kernel_rfl) (by kernel_rfl) (by kernel_rfl) (fun _ _ _ h => h) (by kernel_rfl) (by assumption) ?_ ?_
      · intro w hSw
        (try dsimp only at hSw)
        go_simp
      simp only [Act.put]
      have HYF : Hid (Bx4 ((((wz.setCell ⟨W.heap.size + 1, 0, none⟩ (.slice e0 f.lk.length d0)).setCell ⟨W.heap.size + 1, 1, none⟩ (.slice e1 f.kn.length d1)).setCell ⟨W.heap.size + 1, 2, none⟩ (.slice e2 f.ow.length d2)).setCell ⟨W.heap.size + 1, 3, none⟩ (.slice e3 f.ln.length d3)) (W.heap.size + 1) (.slice e0 f.lk.length d0) (.slice e1 f.kn.length d1) (.slice e2 f.ow.length d2) (.slice e3 f.ln.length d3)) := (((HY4.out.put0 _).put1 _).put2 _).put3 _
      have HXF : Hid (Bx4 ((((wz.setCell ⟨W.heap.size + 1, 0, none⟩ (.slice e0 f.lk.length d0)).setCell ⟨W.heap.size + 1, 1, none⟩ (.slice e1 f.kn.length d1)).setCell ⟨W.heap.size + 1, 2, none⟩ (.slice e2 f.ow.length d2)).setCell ⟨W.heap.size + 1, 3, none⟩ (.slice e3 f.ln.length d3)) W.heap.size (.slice a0 f.lk.length c0) (.slice a1 f.kn.length c1) (.slice a2 f.ow.length c2) (.slice a3 f.ln.length c3)) := (((HX4.out.other (by simp) _).other (by simp) _).other (by simp) _).other (by simp) _
      have HFF : Hid (OwnF ((((wz.setCell ⟨W.heap.size + 1, 0, none⟩ (.slice e0 f.lk.length d0)).setCell ⟨W.heap.size + 1, 1, none⟩ (.slice e1 f.kn.length d1)).setCell ⟨W.heap.size + 1, 2, none⟩ (.slice e2 f.ow.length d2)).setCell ⟨W.heap.size + 1, 3, none⟩ (.slice e3 f.ln.length d3)) (W.heap.size + 2) (.slice e0 f.lk.length d0) (.slice e1 f.kn.length d1) (.slice e2 f.ow.length d2) (.slice e3 f.ln.length d3) us0 us1 us2 f) := (((HF4.out.setCell (by simp) _).setCell (by simp) _).setCell (by simp) _).setCell (by simp) _
      have HSF : Hid (Below W.heap.size W ((((wz.setCell ⟨W.heap.size + 1, 0, none⟩ (.slice e0 f.lk.length d0)).setCell ⟨W.heap.size + 1, 1, none⟩ (.slice e1 f.kn.length d1)).setCell ⟨W.heap.size + 1, 2, none⟩ (.slice e2 f.ow.length d2)).setCell ⟨W.heap.size + 1, 3, none⟩ (.slice e3 f.ln.length d3))) := (((HS4.out.1.setCell (by simp) _).setCell (by simp) _).setCell (by simp) _).setCell (by simp) _
      obtain ⟨y, y0, y1, y2, y3, yf⟩ := HY4.out
      refine wpAnyH_ready (rs := [14]) (by kernel_rfl) (by simp) ?_
      refine AllReadyH.cons rfl (fun K hK => ?_) AllReadyH.nil
      go_simp
      refine hK.out _ _ ?_ (fun hHeld => ?_)
      · exact HXF.out.cells
      clear hK K
      try simp only [Act.put, List.setIfInBounds_toArray, List.set_cons_zero, List.set_cons_succ]
      refine wpAnyH_done (by kernel_rfl) ?_ _
      clear y y0 y1 y2 y3 yf
      obtain ⟨y, y0, y1, y2, y3, yf⟩ := HYF.out
      go_wp2
      refine bodyPost_ret (v := .agg #[.slice e0 f.lk.length d0, .slice e1 f.kn.length d1, .slice e2 f.ow.length d2, .slice e3 f.ln.length d3]) (by simp [results, Try.results25, go_sem, y0, y1, y2, y3]) rfl ⟨_, _, _, _, rfl, ⟨us0, us1, us2, HFF.out.mono (by omega)⟩, HSF.out⟩
  · go_simp
    have hb1 : Below w0.heap.size w0 (w0.alloc (.cells #[] 66)) := (Below.refl _ _).alloc (Nat.le_refl _) _
    obtain ⟨bm, hbm⟩ : ∃ bm, bm = w0.heap.size := ⟨_, rfl⟩
    have HMV : OwnLt (w0.alloc (.cells #[] 66)) (W.heap.size + 2) (.slice (some ⟨w0.heap.size, 0, none⟩) 0 0) [] := World.ownsRow_made (base := W.heap.size + 2) (e := 66) (size := 5) w0 #[] 0 HZ0.out (by unfold maxLen; omega) rfl
    rw [← hbm] at HMV ⊢
    have HM1 : Hid (OwnLt (w0.alloc (.cells #[] 66)) (W.heap.size + 2) (.slice (some ⟨bm, 0, none⟩) 0 0) []) := HMV
    have HMB1 : Hid (bm < (w0.alloc (.cells #[] 66)).heap.size) := (show bm < (w0.alloc (.cells #[] 66)).heap.size by simp; omega)
    have HS1 : Hid (Since W.heap.size W (w0.alloc (.cells #[] 66))) := HS0.out.step hb1
    have HX1 : Hid (Bx4 (w0.alloc (.cells #[] 66)) W.heap.size (.slice a0 f.lk.length c0) (.slice a1 f.kn.length c1) (.slice a2 f.ow.length c2) (.slice a3 f.ln.length c3)) := HX0.out.below hb1
    have HY1 : Hid (Bx4 (w0.alloc (.cells #[] 66)) (W.heap.size + 1) (.slice none 0 0) (.slice none 0 0) (.slice none 0 0) (.slice none 0 0)) := HY0.out.below hb1
    have HZ1 : Hid (W.heap.size + 2 ≤ (w0.alloc (.cells #[] 66)).heap.size) := Nat.le_trans HZ0.out hb1.size
    clear HMV hbm hb1
    refine hK.out _ _ (by exact HX1.out.cells) (fun hHeld => ?_)
    clear hK K
    try simp only [Act.put, List.setIfInBounds_toArray, List.set_cons_zero, List.set_cons_succ]
    generalize (w0.alloc (.cells #[] 66)) = w1 at *
    refine wpAnyH_ready (rs := [2]) (by kernel_rfl) (by simp) ?_
    refine AllReadyH.cons rfl (fun K hK => ?_) AllReadyH.nil
    refine step_go (by rfl) 54 #[.slice a0 f.lk.length c0] (by simp [go_sem]) ((C0.out _ HS1.out).mono ?_)
    rintro e w2 ⟨v2, rfl, ⟨us0, ho2⟩, hb2⟩
    refine ⟨_, rfl, ?_⟩
    obtain ⟨e0, d0, hv2⟩ := ho2.shape
    subst hv2
    have HS2 : Hid (Since W.heap.size W w2) := HS1.out.step hb2
    have HX2 : Hid (Bx4 w2 W.heap.size (.slice a0 f.lk.length c0) (.slice a1 f.kn.length c1) (.slice a2 f.ow.length c2) (.slice a3 f.ln.length c3)) := HX1.out.below hb2
    have HY2 : Hid (Bx4 w2 (W.heap.size + 1) (.slice none 0 0) (.slice none 0 0) (.slice none 0 0) (.slice none 0 0)) := HY1.out.below hb2
    have HZ2 : Hid (W.heap.size + 2 ≤ w2.heap.size) := Nat.le_trans HZ1.out hb2.size
    have HM2 : Hid (OwnLt w2 (W.heap.size + 2) (.slice (some ⟨bm, 0, none⟩) 0 0) []) := OwnLt.below HM1.out hb2
    have HMB2 : Hid (bm < w2.heap.size) := Nat.lt_of_lt_of_le HMB1.out hb2.size
    have HA2_0 : Hid (OwnSS w2 (W.heap.size + 2) (.slice e0 f.lk.length d0) us0 f.lk) := ho2.mono HZ1.out
    have HNE0 : Hid ((∀ c, (.slice e0 f.lk.length d0 : Value).ownBlock = some c → c ≠ bm) ∧ ∀ c, InSS us0 c → c ≠ bm) := ⟨fun c hc => by have := (World.ownsRow.lt ho2.row c hc).1; have := HMB1.out; omega, fun c hc => by have := (ho2.inLt c hc).1; have := HMB1.out; omega⟩
    clear ho2 hb2
    refine hK.out _ _ (by exact HX2.out.cells) (fun hHeld => ?_)
    clear hK K
    try simp only [Act.put, List.setIfInBounds_toArray]
    refine wpAnyH_ready (rs := [5]) (by kernel_rfl) (by simp) ?_
    refine AllReadyH.cons rfl (fun K hK => ?_) AllReadyH.nil
    refine step_go (by rfl) 54 #[.slice a1 f.kn.length c1] (by simp [go_sem]) ((C1.out _ HS2.out).mono ?_)
    rintro e w3 ⟨v3, rfl, ⟨us1, ho3⟩, hb3⟩
    refine ⟨_, rfl, ?_⟩
    obtain ⟨e1, d1, hv3⟩ := ho3.shape
    subst hv3
    have HS3 : Hid (Since W.heap.size W w3) := HS2.out.step hb3
    have HX3 : Hid (Bx4 w3 W.heap.size (.slice a0 f.lk.length c0) (.slice a1 f.kn.length c1) (.slice a2 f.ow.length c2) (.slice a3 f.ln.length c3)) := HX2.out.below hb3
    have HY3 : Hid (Bx4 w3 (W.heap.size + 1) (.slice none 0 0) (.slice none 0 0) (.slice none 0 0) (.slice none 0 0)) := HY2.out.below hb3
    have HZ3 : Hid (W.heap.size + 2 ≤ w3.heap.size) := Nat.le_trans HZ2.out hb3.size
    have HA3_0 : Hid (OwnSS w3 (W.heap.size + 2) (.slice e0 f.lk.length d0) us0 f.lk) := HA2_0.out.below hb3
    have HM3 : Hid (OwnLt w3 (W.heap.size + 2) (.slice (some ⟨bm, 0, none⟩) 0 0) []) := OwnLt.below HM2.out hb3
    have HMB3 : Hid (bm < w3.heap.size) := Nat.lt_of_lt_of_le HMB2.out hb3.size
    have HA3_1 : Hid (OwnSS w3 (W.heap.size + 2) (.slice e1 f.kn.length d1) us1 f.kn) := ho3.mono HZ2.out
    have HP01 : Hid (ApartSS (.slice e0 f.lk.length d0) us0 (.slice e1 f.kn.length d1) us1) := apartSS_lt HA2_0.out ho3 (Nat.le_refl _)
    have HNE1 : Hid ((∀ c, (.slice e1 f.kn.length d1 : Value).ownBlock = some c → c ≠ bm) ∧ ∀ c, InSS us1 c → c ≠ bm) := ⟨fun c hc => by have := (World.ownsRow.lt ho3.row c hc).1; have := HMB2.out; omega, fun c hc => by have := (ho3.inLt c hc).1; have := HMB2.out; omega⟩
    clear ho3 hb3
    refine hK.out _ _ (by exact HX3.out.cells) (fun hHeld => ?_)
    clear hK K
    try simp only [Act.put]
    refine wpAnyH_ready (rs := [8]) (by kernel_rfl) (by simp) ?_
    refine AllReadyH.cons rfl (fun K hK => ?_) AllReadyH.nil
    refine step_go (by rfl) 54 #[.slice a2 f.ow.length c2] (by simp [go_sem]) ((C2.out _ HS3.out).mono ?_)
    rintro e w4 ⟨v4, rfl, ⟨us2, ho4⟩, hb4⟩
    refine ⟨_, rfl, ?_⟩
    obtain ⟨e2, d2, hv4⟩ := ho4.shape
    subst hv4
    have HS4 : Hid (Since W.heap.size W w4) := HS3.out.step hb4
    have HX4 : Hid (Bx4 w4 W.heap.size (.slice a0 f.lk.length c0) (.slice a1 f.kn.length c1) (.slice a2 f.ow.length c2) (.slice a3 f.ln.length c3)) := HX3.out.below hb4
    have HY4 : Hid (Bx4 w4 (W.heap.size + 1) (.slice none 0 0) (.slice none 0 0) (.slice none 0 0) (.slice none 0 0)) := HY3.out.below hb4
    have HZ4 : Hid (W.heap.size + 2 ≤ w4.heap.size) := Nat.le_trans HZ3.out hb4.size
    have HA4_0 : Hid (OwnSS w4 (W.heap.size + 2) (.slice e0 f.lk.length d0) us0 f.lk) := HA3_0.out.below hb4
    have HA4_1 : Hid (OwnSS w4 (W.heap.size + 2) (.slice e1 f.kn.length d1) us1 f.kn) := HA3_1.out.below hb4
    have HM4 : Hid (OwnLt w4 (W.heap.size + 2) (.slice (some ⟨bm, 0, none⟩) 0 0) []) := OwnLt.below HM3.out hb4
    have HMB4 : Hid (bm < w4.heap.size) := Nat.lt_of_lt_of_le HMB3.out hb4.size
    have HA4_2 : Hid (OwnSS w4 (W.heap.size + 2) (.slice e2 f.ow.length d2) us2 f.ow) := ho4.mono HZ3.out
    have HP02 : Hid (ApartSS (.slice e0 f.lk.length d0) us0 (.slice e2 f.ow.length d2) us2) := apartSS_lt HA3_0.out ho4 (Nat.le_refl _)
    have HP12 : Hid (ApartSS (.slice e1 f.kn.length d1) us1 (.slice e2 f.ow.length d2) us2) := apartSS_lt HA3_1.out ho4 (Nat.le_refl _)
    have HNE2 : Hid ((∀ c, (.slice e2 f.ow.length d2 : Value).ownBlock = some c → c ≠ bm) ∧ ∀ c, InSS us2 c → c ≠ bm) := ⟨fun c hc => by have := (World.ownsRow.lt ho4.row c hc).1; have := HMB3.out; omega, fun c hc => by have := (ho4.inLt c hc).1; have := HMB3.out; omega⟩
    clear ho4 hb4
    refine hK.out _ _ (by exact HX4.out.cells) (fun hHeld => ?_)
    clear hK K
    try simp only [Act.put]
    refine wpAnyH_ready (rs := [12]) (by kernel_rfl) (by simp) ?_
    refine AllReadyH.cons rfl (fun K hK => ?_) AllReadyH.nil
    refine step_app (by rfl) (.tmp 12) (.tmp 14) 29 (by rfl) (.slice (some ⟨bm, 0, none⟩) 0 0) (.slice a3 f.ln.length c3) (by rfl) (by rfl) _ (C3.out w4 _ HS4.out ⟨_, Nat.le_refl _, HZ4.out, HM4.out⟩) ?_
    rintro vz wz ⟨B4, hB4, hg4⟩
    have HS3 := HS4
    have HX3 := HX4
    have HY3 := HY4
    have HA3_0 := HA4_0
    have HA3_1 := HA4_1
    have HA3_2 := HA4_2
    obtain ⟨e3, d3, hvz⟩ := OwnLt.shape hg4.own
    subst hvz
    have HS4 : Hid (Since W.heap.size W wz) := ⟨HS3.out.1.trans (hg4.below.mono (by omega)), Nat.le_trans HS3.out.2 hg4.size⟩
    have HX4 : Hid (Bx4 wz W.heap.size (.slice a0 f.lk.length c0) (.slice a1 f.kn.length c1) (.slice a2 f.ow.length c2) (.slice a3 f.ln.length c3)) := HX3.out.same (hg4.below.block _ (by omega)) hg4.size
    have HY4 : Hid (Bx4 wz (W.heap.size + 1) (.slice none 0 0) (.slice none 0 0) (.slice none 0 0) (.slice none 0 0)) := HY3.out.same (hg4.below.block _ (by omega)) hg4.size
    have HA4_0 : Hid (OwnSS wz (W.heap.size + 2) (.slice e0 f.lk.length d0) us0 f.lk) := HA3_0.out.same (fun k hk => hg4.grown.block k (World.ownsRow.lt HA3_0.out.row k hk).2 (ne_some (HNE0.out.1 k hk))) (fun k hk => hg4.grown.block k (HA3_0.out.inLt k hk).2 (ne_some (HNE0.out.2 k hk)))
    have HA4_1 : Hid (OwnSS wz (W.heap.size + 2) (.slice e1 f.kn.length d1) us1 f.kn) := HA3_1.out.same (fun k hk => hg4.grown.block k (World.ownsRow.lt HA3_1.out.row k hk).2 (ne_some (HNE1.out.1 k hk))) (fun k hk => hg4.grown.block k (HA3_1.out.inLt k hk).2 (ne_some (HNE1.out.2 k hk)))
    have HA4_2 : Hid (OwnSS wz (W.heap.size + 2) (.slice e2 f.ow.length d2) us2 f.ow) := HA3_2.out.same (fun k hk => hg4.grown.block k (World.ownsRow.lt HA3_2.out.row k hk).2 (ne_some (HNE2.out.1 k hk))) (fun k hk => hg4.grown.block k (HA3_2.out.inLt k hk).2 (ne_some (HNE2.out.2 k hk)))
    have HF4 : Hid (OwnF wz (W.heap.size + 2) (.slice e0 f.lk.length d0) (.slice e1 f.kn.length d1) (.slice e2 f.ow.length d2) (.slice e3 f.ln.length d3) us0 us1 us2 f) := ⟨HA4_0.out, HA4_1.out, HA4_2.out, OwnLt.mono hg4.own hB4, HP01.out, HP02.out, HP12.out⟩
    clear hg4 hB4
    refine hK.out _ _ ?_ (fun hHeld => ?_)
    · exact HX4.out.cells
    clear hK K
    try simp only [Act.put]
    refine handRead 13 (some 16) (.agg #[.slice e0 f.lk.length d0, .slice e1 f.kn.length d1, .slice e2 f.ow.length d2, .slice e3 f.ln.length d3]) rfl rfl (by kernel_rfl) (by kernel_rfl) (by kernel_rfl) (fun _ _ _ h => h) (by kernel_rfl) (by assumption) ?_ ?_
    · intro w hSw
      (try dsimp only at hSw)
      go_simp
    simp only [Act.put]
    have HYF : Hid (Bx4 ((((wz.setCell ⟨W.heap.size + 1, 0, none⟩ (.slice e0 f.lk.length d0)).setCell ⟨W.heap.size + 1, 1, none⟩ (.slice e1 f.kn.length d1)).setCell ⟨W.heap.size + 1, 2, none⟩ (.slice e2 f.ow.length d2)).setCell ⟨W.heap.size + 1, 3, none⟩ (.slice e3 f.ln.length d3)) (W.heap.size + 1) (.slice e0 f.lk.length d0) (.slice e1 f.kn.length d1) (.slice e2 f.ow.length d2) (.slice e3 f.ln.length d3)) := (((HY4.out.put0 _).put1 _).put2 _).put3 _
    have HXF : Hid (Bx4 ((((wz.setCell ⟨W.heap.size + 1, 0, none⟩ (.slice e0 f.lk.length d0)).setCell ⟨W.heap.size + 1, 1, none⟩ (.slice e1 f.kn.length d1)).setCell ⟨W.heap.size + 1, 2, none⟩ (.slice e2 f.ow.length d2)).setCell ⟨W.heap.size + 1, 3, none⟩ (.slice e3 f.ln.length d3)) W.heap.size (.slice a0 f.lk.length c0) (.slice a1 f.kn.length c1) (.slice a2 f.ow.length c2) (.slice a3 f.ln.length c3)) := (((HX4.out.other (by simp) _).other (by simp) _).other (by simp) _).other (by simp) _
    have HFF : Hid (OwnF ((((wz.setCell ⟨W.heap.size + 1, 0, none⟩ (.slice e0 f.lk.length d0)).setCell ⟨W.heap.size + 1, 1, none⟩ (.slice e1 f.kn.length d1)).setCell ⟨W.heap.size + 1, 2, none⟩ (.slice e2 f.ow.length d2)).setCell ⟨W.heap.size + 1, 3, none⟩ (.slice e3 f.ln.length d3)) (W.heap.size + 2) (.slice e0 f.lk.length d0) (.slice e1 f.kn.length d1) (.slice e2 f.ow.length d2) (.slice e3 f.ln.length d3) us0 us1 us2 f) := (((HF4.out.setCell (by simp) _).setCell (by simp) _).setCell (by simp) _).setCell (by simp) _
    have HSF : Hid (Below W.heap.size W ((((wz.setCell ⟨W.heap.size + 1, 0, none⟩ (.slice e0 f.lk.length d0)).setCell ⟨W.heap.size + 1, 1, none⟩ (.slice e1 f.kn.length d1)).setCell ⟨W.heap.size + 1, 2, none⟩ (.slice e2 f.ow.length d2)).setCell ⟨W.heap.size + 1, 3, none⟩ (.slice e3 f.ln.length d3))) := (((HS4.out.1.setCell (by simp) _).setCell (by simp) _).setCell (by simp) _).setCell (by simp) _
    obtain ⟨y, y0, y1, y2, y3, yf⟩ := HY4.out
    refine wpAnyH_ready (rs := [14]) (by kernel_rfl) (by simp) ?_
    refine AllReadyH.cons rfl (fun K hK => ?_) AllReadyH.nil
    go_simp
    refine hK.out _ _ ?_ (fun hHeld => ?_)
    · exact HXF.out.cells
    clear hK K
    try simp only [Act.put, List.setIfInBounds_toArray, List.set_cons_zero, List.set_cons_succ]
    refine wpAnyH_done (by kernel_rfl) ?_ _
    clear y y0 y1 y2 y3 yf
    obtain ⟨y, y0, y1, y2, y3, yf⟩ := HYF.out
    go_wp2
    refine bodyPost_ret (v := .agg #[.slice e0 f.lk.length d0, .slice e1 f.kn.length d1, .slice e2 f.ow.length d2, .slice e3 f.ln.length d3]) (by simp [results, Try.results25, go_sem, y0, y1, y2, y3]) rfl ⟨_, _, _, _, rfl, ⟨us0, us1, us2, HFF.out.mono (by omega)⟩, HSF.out⟩
end Go.Proofs.Ytkkamigaolejiax
