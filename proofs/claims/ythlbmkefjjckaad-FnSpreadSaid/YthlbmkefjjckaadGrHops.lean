/-
  'hopsOn': the iterator over those by whom a best way goes on; 'slices.Collect'.
-/
import Derived.Test.YthlbmkefjjckaadGrRelax
namespace Go.Proofs.Ythlbmkefjjckaad
open Go.RowKit
set_option linter.unusedVariables false
attribute [local go_sem] Oper.semAt_some wide_fn

set_option maxHeartbeats 1000000 in
theorem hopsOn_any (W : World) (v u : Value) (hv : ∃ a n c, v = .slice a n c) (hu : ∃ a n c, u = .slice a n c) (a : Int) :
    Calls Try.prog 66 #[v, u, .int .i64 a] W fun e W' => e = .returned (.func (.func 93) #[] #[.pointer (some ⟨W.heap.size, 0, none⟩), .pointer (some ⟨W.heap.size + 1 + 1, 0, none⟩), .pointer (some ⟨W.heap.size + 1, 0, none⟩)]) ∧ W' = ((W.alloc (.cells #[v] 23)).alloc (.cells #[u] 26)).alloc (.cells #[.int .i64 a] 3) := by
  obtain ⟨a1, n1, c1, rfl⟩ := hv
  obtain ⟨a2, n2, c2, rfl⟩ := hu
  go_enter Try.func66, Try.ntmps66
  go_wp2
  go_ret
  exact ⟨rfl, rfl⟩

/-- Of so many links those that go on. -/
def hopsOf (far : List Int) (i : Int) (ps : List (Int × Int)) : List Int := (ps.filter fun p => decide (lab far p.1 + p.2 = lab far i)).map Prod.fst
theorem hopsOf_all (l : List EdD) (far : List Int) (i : Int) : hopsOf far i (linksD l i) = hopsD l far i := rfl
theorem hopsOf_snoc (far : List Int) (i : Int) (ps : List (Int × Int)) (p : Int × Int) : hopsOf far i (ps ++ [p]) = hopsOf far i ps ++ if lab far p.1 + p.2 = lab far i then [p.1] else [] := by
  unfold hopsOf
  rw [List.filter_append, List.map_append]
  congr 1
  by_cases h : lab far p.1 + p.2 = lab far i <;> simp [h]
theorem hopsOf_pre (far : List Int) (i : Int) {ps qs : List (Int × Int)} (h : ps <+: qs) : hopsOf far i ps <+: hopsOf far i qs := by
  obtain ⟨r, rfl⟩ := h
  refine ⟨hopsOf far i r, ?_⟩
  unfold hopsOf
  rw [List.filter_append, List.map_append]

set_option maxRecDepth 100000 in
set_option maxHeartbeats 4000000 in
theorem hopsIt_any (S : Nat → Prop) (bl bt bf : Nat) (v : Value) (l : List EdD) (far : List Int) (n : Nat) (a : Int) (W0 w : World) (B0 fg fcap : Nat) (hn : 1 ≤ n ∧ n ≤ 12) (hfl : far.length = n) (hf : FitEd n l) (ha : 0 ≤ a ∧ a < n) (hl : l.length ≤ 40)
    (hfar : ∀ i : Int, 0 ≤ i → i < n → 0 ≤ lab far i ∧ lab far i ≤ farC) (hbl : S bl) (hbt : S bt) (hbf : S bf)
    (hcl : w.cell? ⟨bl, 0, none⟩ = some v) (hct : w.cell? ⟨bt, 0, none⟩ = some (.int .i64 a)) (hcf : w.cell? ⟨bf, 0, none⟩ = some (.slice (some ⟨fg, 0, none⟩) n fcap))
    (hr : ReadsEd W0 v l) (hu : Own W0 B0 (.slice (some ⟨fg, 0, none⟩) n fcap) far) (hw0 : Below W0.heap.size W0 w) (hS2 : ∀ b, b < W0.heap.size → S b) :
    SeqO Try.prog 93 #[.pointer (some ⟨bl, 0, none⟩), .pointer (some ⟨bt, 0, none⟩), .pointer (some ⟨bf, 0, none⟩)] (fun x : Int => #[.int .i64 x]) S (hopsD l far a) w := by
  intro ll J Jx Mine W hW hJ hJx hM hN hY h0
  obtain ⟨a1, c1, rfl⟩ := hr.shape
  have cl : W.cell? ⟨bl, 0, none⟩ = some (.slice a1 l.length c1) := (hW.cell (p := ⟨bl, 0, none⟩) (World.block_lt_of_cell? w ⟨bl, 0, none⟩ hcl)).trans hcl
  have ct : W.cell? ⟨bt, 0, none⟩ = some (.int .i64 a) := (hW.cell (p := ⟨bt, 0, none⟩) (World.block_lt_of_cell? w ⟨bt, 0, none⟩ hct)).trans hct
  have cf : W.cell? ⟨bf, 0, none⟩ = some (.slice (some ⟨fg, 0, none⟩) n fcap) := (hW.cell (p := ⟨bf, 0, none⟩) (World.block_lt_of_cell? w ⟨bf, 0, none⟩ hcf)).trans hcf
  have hW0W : Below W0.heap.size W0 W := hw0.trans (hW.mono hw0.size)
  have hfgW0 : fg < W0.heap.size := (World.ownsRow.lt hu fg rfl).2
  have HCF : Hid (∀ j, j < n → W.cell? ⟨fg, j, none⟩ = some (.int .i64 (lab far (j : Int)))) := fun j hj => by
    have h1 := own_cellG hu hfl.symm j (by omega)
    rw [← lab_get far j (by omega)] at h1
    exact (hW0W.cell (p := ⟨fg, j, none⟩) hfgW0).trans h1
  have bW : bl < W.heap.size ∧ bt < W.heap.size ∧ bf < W.heap.size := ⟨World.block_lt_of_cell? W ⟨bl, 0, none⟩ cl, World.block_lt_of_cell? W ⟨bt, 0, none⟩ ct, World.block_lt_of_cell? W ⟨bf, 0, none⟩ cf⟩
  have cl1 : ∀ o, (W.alloc o).cell? ⟨bl, 0, none⟩ = some (.slice a1 l.length c1) := fun o => (World.cell?_alloc_lt _ _ _ bW.1).trans cl
  have ct1 : ∀ o, (W.alloc o).cell? ⟨bt, 0, none⟩ = some (.int .i64 a) := fun o => (World.cell?_alloc_lt _ _ _ bW.2.1).trans ct
  clear hcl hct hcf
  obtain ⟨k, rfl⟩ : ∃ k : Nat, a = (k : Int) := ⟨a.toNat, by omega⟩
  have hkn : k < n := by omega
  have hkn' : (k : Int) < (n : Int) := by omega
  refine callsIn_of_wp_marks Try.func93 rfl trivial ?_ rfl
  simp only [Try.ntmps93, List.size_toArray, List.length_cons, List.length_nil, Nat.reduceAdd, Nat.reduceSub, Array.replicate_succ, Array.replicate_zero, List.push_toArray, List.append_toArray, List.nil_append, List.cons_append]
  gi_wp2_with (gi_at_call 94; refine (callsIn_wide.2 (linksAt_any (W.alloc (.cells #[.func (.yield ll) #[] #[]] 87)) (.slice a1 l.length c1) ⟨_, _, _, rfl⟩ (k : Int))).mono ?_; rintro e w2 ⟨rfl, rfl⟩)
  -- the loop
  obtain ⟨W2, hW2⟩ : ∃ W2, W2 = ((W.alloc (.cells #[.func (.yield ll) #[] #[]] 87)).alloc (.cells #[.slice a1 l.length c1] 23)).alloc (.cells #[.int .i64 (k : Int)] 3) := ⟨_, rfl⟩
  have hsz : W2.heap.size = W.heap.size + 3 := by rw [hW2]; simp
  have hb2 : Below W.heap.size W W2 := by
    rw [hW2]
    exact (((Below.refl _ W).alloc (Nat.le_refl _) _).alloc (by simp) _).alloc (by simp; omega) _
  have HY2 : Boxed W2 W.heap.size 87 (.func (.yield ll) #[] #[]) := by
    rw [hW2]
    exact ((Boxed.new W _ _).alloc _).alloc _
  have HL2 : Boxed W2 (W.heap.size + 1) 23 (.slice a1 l.length c1) := by
    rw [hW2]
    have := (Boxed.new (W.alloc (.cells #[.func (.yield ll) #[] #[]] 87)) 23 (.slice a1 l.length c1)).alloc (.cells #[.int .i64 (k : Int)] 3)
    rwa [World.size_alloc] at this
  have HA2 : Boxed W2 (W.heap.size + 1 + 1) 3 (.int .i64 (k : Int)) := by
    rw [hW2]
    have := Boxed.new ((W.alloc (.cells #[.func (.yield ll) #[] #[]] 87)).alloc (.cells #[.slice a1 l.length c1] 23)) 3 (.int .i64 (k : Int))
    rwa [World.size_alloc, World.size_alloc] at this
  rw [← hW2]
  have HM : Hid (MineOk W.heap.size J Mine) := hM
  have HJ : Hid (OwnFrom W.heap.size J) := hJ
  have hSW : ∀ b, S b → ¬ Mine W2 b := fun b hb => hM.below h0 (Nat.le_refl _) hb2 (hN b hb)
  have hnew : ∀ b, W.heap.size ≤ b → ¬ Mine W2 b := fun b hb => hM.new h0 (Nat.le_refl _) hb2 hb
  have hcf2 : W2.cell? ⟨bf, 0, none⟩ = some (.slice (some ⟨fg, 0, none⟩) n fcap) := (hb2.cell (p := ⟨bf, 0, none⟩) bW.2.2).trans cf
  have hct2 : W2.cell? ⟨bt, 0, none⟩ = some (.int .i64 (k : Int)) := (hb2.cell (p := ⟨bt, 0, none⟩) bW.2.1).trans ct
  have hfgW : fg < W.heap.size := Nat.lt_of_lt_of_le hfgW0 hW0W.size
  have hcell2 : ∀ j, j < n → W2.cell? ⟨fg, j, none⟩ = some (.int .i64 (lab far (j : Int))) := fun j hj => (hb2.cell (p := ⟨fg, j, none⟩) hfgW).trans (HCF.out j hj)
  refine wp_range (w0 := W2) (xs := linksD l (k : Int)) (encs := fun p : Int × Int => #[.int .i64 p.1, .int .i64 p.2]) (S := fun b => b < W0.heap.size ∨ b = W.heap.size + 1 ∨ b = W.heap.size + 1 + 1) (gf := 107) (lb := #[.pointer (some ⟨W.heap.size + 1, 0, none⟩), .pointer (some ⟨W.heap.size + 1 + 1, 0, none⟩)]) rfl (enters_of Try.func107 (by kernel_rfl) rfl)
    (linksIt_any _ (W.heap.size + 1) (W.heap.size + 1 + 1) (.slice a1 l.length c1) l n (k : Int) W0 W2 hn.2 hf ha hl (.inr (.inl rfl)) (.inr (.inr rfl)) HL2.cell HA2.cell hr (hW0W.trans (hb2.mono hW0W.size)) (fun b hb => .inl hb))
    (Below.refl _ _) (fun pre w => J (hopsOf far (k : Int) pre) w ∧ KeptBut Mine W2 w) Mine (hM.mono hb2.size fun s _ h => ⟨_, h.1⟩) (fun b hb => by
      rcases hb with hb | hb | hb
      · exact hSW b (hS2 b hb)
      · exact hnew b (by omega)
      · exact hnew b (by omega)) (fun _ => rfl)
    (fun c pre w => c = .ret ∧ ∃ p, Jx p w)
    (fun s A A' row hs hg hr => ⟨ownFrom_mono hJ hb2.size _ A A' row hs.1 hg hr, hs.2.trans (KeptBut.grown hM hs.1 (Nat.le_trans hb2.size hs.2.1) hg fun r e => ⟨Nat.le_trans hb2.size (hr r e).1, (hr r e).2⟩)⟩)
    (fun c s A A' row hs hg hr => by
      obtain ⟨h1, p, h2⟩ := hs
      exact ⟨h1, p, ownFrom_mono hJx hb2.size p A A' row h2 hg hr⟩)
    ⟨own_on hJ h0 hb2, KeptBut.refl _ _⟩
    (fun x => { tmps := #[.func (.yield ll) #[] #[], .pointer (some ⟨bl, 0, none⟩), .pointer (some ⟨bt, 0, none⟩), .pointer (some ⟨bf, 0, none⟩), .pointer (some ⟨W.heap.size, 0, none⟩), .int .i64 x.1, .int .i64 x.2, .slice a1 l.length c1, .int .i64 (k : Int), .func (.func 107) #[] #[.pointer (some ⟨W.heap.size + 1, 0, none⟩), .pointer (some ⟨W.heap.size + 1 + 1, 0, none⟩)], .int .i64 x.1, .int .i64 x.2, undef, undef, undef, undef, undef, undef, undef, undef, undef, undef, undef, undef, undef, undef, undef, undef, undef], defers := [] }) ?assign ?body ?done ?stop
  case assign =>
    intro l2 x Wx K hK
    gi_wp2
    exact hK
  case body =>
    rintro l2 pre ⟨x1, c⟩ wr ⟨hJ, hK⟩ hpre hsx
    have hfx := ((linksD_joined l (k : Int) x1 c).1 (hpre.subset (by simp))).fit hf
    obtain ⟨y, rfl⟩ : ∃ y : Nat, x1 = (y : Int) := ⟨x1.toNat, by omega⟩
    have hyn : y < n := by omega
    have hyn' : (y : Int) < (n : Int) := by omega
    have hdr : Below wr.heap.size wr wr.drew := (Below.refl _ wr).drew
    have HN2 : Hid (hopsOf far (k : Int) (pre ++ [((y : Int), c)]) = hopsOf far (k : Int) pre ++ if lab far (y : Int) + c = lab far (k : Int) then [(y : Int)] else []) := hopsOf_snoc far k pre (y, c)
    have HP : Hid (hopsOf far (k : Int) (pre ++ [((y : Int), c)]) <+: hopsD l far (k : Int)) := hopsOf_pre far k hpre
    have hfy := hfar (y : Int) (by omega) hyn'
    obtain ⟨f, hf1⟩ : ∃ f, f = lab far (y : Int) := ⟨_, rfl⟩
    obtain ⟨fk, hfk⟩ : ∃ fk, fk = lab far (k : Int) := ⟨_, rfl⟩
    have HS : Hid (wr.drew.cell? ⟨bf, 0, none⟩ = some (.slice (some ⟨fg, 0, none⟩) n fcap) ∧ wr.drew.cell? ⟨bt, 0, none⟩ = some (.int .i64 (k : Int)) ∧ wr.drew.cell? ⟨fg, y, none⟩ = some (.int .i64 f) ∧ wr.drew.cell? ⟨fg, k, none⟩ = some (.int .i64 fk) ∧ wr.drew.cell? ⟨W.heap.size, 0, none⟩ = some (.func (.yield ll) #[] #[])) :=
      ⟨hK.cell hcf2 (hSW bf hbf), hK.cell hct2 (hSW bt hbt), by rw [hf1]; exact hK.cell (hcell2 y hyn) (hSW fg (hS2 fg hfgW0)), by rw [hfk]; exact hK.cell (hcell2 k hkn) (hSW fg (hS2 fg hfgW0)), hK.cell HY2.cell (hnew _ (Nat.le_refl _))⟩
    rw [← hf1, ← hfk] at HN2
    rw [← hf1] at hfy
    unfold farC at hfy
    clear hf1 hfk
    have hwr : IntKind.i64.wrap (f + c) = f + c := by rw [IntKind.wrap_i64]; omega
    refine wpIn_block ?_
    refine wpIn_seq ?_
    by_cases hq : f + c = fk
    · have HN1 : Hid (hopsOf far (k : Int) (pre ++ [((y : Int), c)]) = hopsOf far (k : Int) pre ++ [(y : Int)]) := by
        have := HN2.out
        rw [if_pos hq] at this
        exact this
      have hbq : (f + c == fk) = true := by simpa using hq
      obtain ⟨fn, tmps, assign, body, hy, hR⟩ := hY (hopsOf far (k : Int) pre) (y : Int) wr.drew (own_on HJ.out hJ hdr) (by rw [← HN1.out]; exact HP.out)
      rw [← HN1.out] at hR
      clear hq HN2
      · skip
        refine region_inRound (S := (fun w' : World => w'.cell? ⟨bf, 0, none⟩ = some (.slice (some ⟨fg, 0, none⟩) n fcap) ∧ w'.cell? ⟨bt, 0, none⟩ = some (.int .i64 (k : Int)) ∧ w'.cell? ⟨fg, y, none⟩ = some (.int .i64 f) ∧ w'.cell? ⟨fg, k, none⟩ = some (.int .i64 fk) ∧ w'.cell? ⟨W.heap.size, 0, none⟩ = some (.func (.yield ll) #[] #[]))) 14 (by kernel_rfl) (by kernel_rfl) ?_ (fun hHeld => ?_)
        · exact HS.out
        refine roundRead 0 (some 12) (.slice (some ⟨fg, 0, none⟩) n fcap) rfl rfl (by kernel_rfl) (by kernel_rfl) (by kernel_rfl) (by kernel_rfl) (fun _ _ _ h => h) (by kernel_rfl) (by assumption) ?_ ?_
        · intro w hSw
          (try dsimp only at hSw)
          go_simp
        simp only [Act.put, List.setIfInBounds_toArray, List.set_cons_zero, List.set_cons_succ]
        refine roundRead 1 (some 13) (.int .i64 (y : Int)) rfl rfl (by kernel_rfl) (by kernel_rfl) (by kernel_rfl) (by kernel_rfl) (fun _ _ _ h => h) (by kernel_rfl) (by assumption) ?_ ?_
        · intro w hSw
          (try dsimp only at hSw)
          go_simp
        simp only [Act.put, List.setIfInBounds_toArray, List.set_cons_zero, List.set_cons_succ]
        refine roundRead 2 (some 14) (.pointer (some ⟨fg, y, none⟩)) rfl rfl (by kernel_rfl) (by kernel_rfl) (by kernel_rfl) (by kernel_rfl) (fun _ _ _ h => h) (by kernel_rfl) (by assumption) ?_ ?_
        · intro w hSw
          (try dsimp only at hSw)
          go_simp
        simp only [Act.put, List.setIfInBounds_toArray, List.set_cons_zero, List.set_cons_succ]
        refine roundRead 3 (some 15) (.int .i64 f) rfl rfl (by kernel_rfl) (by kernel_rfl) (by kernel_rfl) (by kernel_rfl) (fun _ _ _ h => h) (by kernel_rfl) (by assumption) ?_ ?_
        · intro w hSw
          (try dsimp only at hSw)
          go_simp
        simp only [Act.put, List.setIfInBounds_toArray, List.set_cons_zero, List.set_cons_succ]
        refine roundRead 4 (some 16) (.int .i64 c) rfl rfl (by kernel_rfl) (by kernel_rfl) (by kernel_rfl) (by kernel_rfl) (fun _ _ _ h => h) (by kernel_rfl) (by assumption) ?_ ?_
        · intro w hSw
          (try dsimp only at hSw)
          go_simp
        simp only [Act.put, List.setIfInBounds_toArray, List.set_cons_zero, List.set_cons_succ]
        refine roundRead 5 (some 17) (.int .i64 (f + c)) rfl rfl (by kernel_rfl) (by kernel_rfl) (by kernel_rfl) (by kernel_rfl) (fun _ _ _ h => h) (by kernel_rfl) (by assumption) ?_ ?_
        · intro w hSw
          (try dsimp only at hSw)
          go_simp
        simp only [Act.put, List.setIfInBounds_toArray, List.set_cons_zero, List.set_cons_succ]
        refine roundRead 6 (some 18) (.slice (some ⟨fg, 0, none⟩) n fcap) rfl rfl (by kernel_rfl) (by kernel_rfl) (by kernel_rfl) (by kernel_rfl) (fun _ _ _ h => h) (by kernel_rfl) (by assumption) ?_ ?_
        · intro w hSw
          (try dsimp only at hSw)
          go_simp
        simp only [Act.put, List.setIfInBounds_toArray, List.set_cons_zero, List.set_cons_succ]
        refine roundRead 7 (some 19) (.int .i64 (k : Int)) rfl rfl (by kernel_rfl) (by kernel_rfl) (by kernel_rfl) (by kernel_rfl) (fun _ _ _ h => h) (by kernel_rfl) (by assumption) ?_ ?_
        · intro w hSw
          (try dsimp only at hSw)
          go_simp
        simp only [Act.put, List.setIfInBounds_toArray, List.set_cons_zero, List.set_cons_succ]
        refine roundRead 8 (some 20) (.pointer (some ⟨fg, k, none⟩)) rfl rfl (by kernel_rfl) (by kernel_rfl) (by kernel_rfl) (by kernel_rfl) (fun _ _ _ h => h) (by kernel_rfl) (by assumption) ?_ ?_
        · intro w hSw
          (try dsimp only at hSw)
          go_simp
        simp only [Act.put, List.setIfInBounds_toArray, List.set_cons_zero, List.set_cons_succ]
        refine roundRead 9 (some 21) (.int .i64 fk) rfl rfl (by kernel_rfl) (by kernel_rfl) (by kernel_rfl) (by kernel_rfl) (fun _ _ _ h => h) (by kernel_rfl) (by assumption) ?_ ?_
        · intro w hSw
          (try dsimp only at hSw)
          go_simp
        simp only [Act.put, List.setIfInBounds_toArray, List.set_cons_zero, List.set_cons_succ]
        refine roundRead 10 (some 22) (.bool true) rfl rfl (by kernel_rfl) (by kernel_rfl) (by kernel_rfl) (by kernel_rfl) (fun _ _ _ h => h) (by kernel_rfl) (by assumption) ?_ ?_
        · intro w hSw
          (try dsimp only at hSw)
          go_simp
        simp only [Act.put, List.setIfInBounds_toArray, List.set_cons_zero, List.set_cons_succ]
        refine roundRead 11 (some 23) (.bool true) rfl rfl (by kernel_rfl) (by kernel_rfl) (by kernel_rfl) (by kernel_rfl) (fun _ _ _ h => h) (by kernel_rfl) (by assumption) ?_ ?_
        · intro w hSw
          (try dsimp only at hSw)
          go_simp
        simp only [Act.put, List.setIfInBounds_toArray, List.set_cons_zero, List.set_cons_succ]
        refine roundRead 12 (some 24) (.func (.yield ll) #[] #[]) rfl rfl (by kernel_rfl) (by kernel_rfl) (by kernel_rfl) (by kernel_rfl) (fun _ _ _ h => h) (by kernel_rfl) (by assumption) ?_ ?_
        · intro w hSw
          (try dsimp only at hSw)
          go_simp
        simp only [Act.put, List.setIfInBounds_toArray, List.set_cons_zero, List.set_cons_succ]
        refine roundRead 13 (some 25) (.int .i64 (y : Int)) rfl rfl (by kernel_rfl) (by kernel_rfl) (by kernel_rfl) (by kernel_rfl) (fun _ _ _ h => h) (by kernel_rfl) (by assumption) ?_ ?_
        · intro w hSw
          (try dsimp only at hSw)
          go_simp
        simp only [Act.put, List.setIfInBounds_toArray, List.set_cons_zero, List.set_cons_succ]
        refine roundYield 14 (some 26) ll #[.int .i64 (y : Int)] (by kernel_rfl) rfl rfl (.inl (by kernel_rfl)) (by kernel_rfl) hy (fun hq => by simp [go_sem, hq]) ((hR _).mono ?_)
        rintro e W3 (⟨rfl, hj3, hk3, hkf3⟩ | ⟨rfl, hx3, hkf3⟩)
        · refine ⟨_, rfl, ?_⟩
          simp only [Act.put, List.setIfInBounds_toArray, List.set_cons_zero, List.set_cons_succ]
          refine roundValue 15 (some 27) (.bool false) W3 (by kernel_rfl) rfl rfl (.inl (by kernel_rfl)) (by kernel_rfl) (by go_simp) ?_
          simp only [Act.put, List.setIfInBounds_toArray, List.set_cons_zero, List.set_cons_succ]
          refine roundValue 16 (some 28) (.bool false) W3 (by kernel_rfl) rfl rfl (.inl (by kernel_rfl)) (by kernel_rfl) (by go_simp) ?_
          simp only [Act.put, List.setIfInBounds_toArray, List.set_cons_zero, List.set_cons_succ]
          refine wpAnyR.done (by kernel_rfl) ?_ _
          have HZ : Hid (KeepsFrom W2.heap.size wr W3 ∧ KeptBut Mine wr W3 ∧ J (hopsOf far (k : Int) (pre ++ [((y : Int), c)])) W3 ∧ KeptBut Mine W2 W3) := ⟨keepsFrom_mono (((KeepsOthers.drew wr).from _).trans hkf3) (by omega), (KeptBut.below HM.out hJ (by omega) hdr).trans hk3, hj3, (hK.trans (KeptBut.below HM.out hJ (by omega) hdr)).trans hk3⟩
          clear hj3 hk3 hkf3 HS hR hy hJ hK
          gi_wp2
          exact ⟨HZ.out.1, HZ.out.2.1, HZ.out.2.2.1, HZ.out.2.2.2⟩
        · refine ⟨_, rfl, ?_⟩
          simp only [Act.put, List.setIfInBounds_toArray, List.set_cons_zero, List.set_cons_succ]
          refine roundValue 15 (some 27) (.bool true) W3 (by kernel_rfl) rfl rfl (.inl (by kernel_rfl)) (by kernel_rfl) (by go_simp) ?_
          simp only [Act.put, List.setIfInBounds_toArray, List.set_cons_zero, List.set_cons_succ]
          refine roundValue 16 (some 28) (.bool true) W3 (by kernel_rfl) rfl rfl (.inl (by kernel_rfl)) (by kernel_rfl) (by go_simp) ?_
          simp only [Act.put, List.setIfInBounds_toArray, List.set_cons_zero, List.set_cons_succ]
          refine wpAnyR.done (by kernel_rfl) ?_ _
          have HZ : Hid (KeepsFrom W2.heap.size wr W3 ∧ ∃ p, Jx p W3) := ⟨keepsFrom_mono (((KeepsOthers.drew wr).from _).trans hkf3) (by omega), _, hx3⟩
          clear hx3 hkf3 HS hR hy hJ hK
          gi_wp2
          exact ⟨HZ.out.1, rfl, HZ.out.2⟩
    · have HN1 : Hid (hopsOf far (k : Int) (pre ++ [((y : Int), c)]) = hopsOf far (k : Int) pre) := by
        have := HN2.out
        rw [if_neg hq, List.append_nil] at this
        exact this
      have hbq : (f + c == fk) = false := by simpa using hq
      clear hq HN2 hY
      · skip
        refine region_inRound (S := (fun w' : World => w'.cell? ⟨bf, 0, none⟩ = some (.slice (some ⟨fg, 0, none⟩) n fcap) ∧ w'.cell? ⟨bt, 0, none⟩ = some (.int .i64 (k : Int)) ∧ w'.cell? ⟨fg, y, none⟩ = some (.int .i64 f) ∧ w'.cell? ⟨fg, k, none⟩ = some (.int .i64 fk) ∧ w'.cell? ⟨W.heap.size, 0, none⟩ = some (.func (.yield ll) #[] #[]))) 16 (by kernel_rfl) (by kernel_rfl) ?_ (fun hHeld => ?_)
        · exact HS.out
        refine roundRead 0 (some 12) (.slice (some ⟨fg, 0, none⟩) n fcap) rfl rfl (by kernel_rfl) (by kernel_rfl) (by kernel_rfl) (by kernel_rfl) (fun _ _ _ h => h) (by kernel_rfl) (by assumption) ?_ ?_
        · intro w hSw
          (try dsimp only at hSw)
          go_simp
        simp only [Act.put, List.setIfInBounds_toArray, List.set_cons_zero, List.set_cons_succ]
        refine roundRead 1 (some 13) (.int .i64 (y : Int)) rfl rfl (by kernel_rfl) (by kernel_rfl) (by kernel_rfl) (by kernel_rfl) (fun _ _ _ h => h) (by kernel_rfl) (by assumption) ?_ ?_
        · intro w hSw
          (try dsimp only at hSw)
          go_simp
        simp only [Act.put, List.setIfInBounds_toArray, List.set_cons_zero, List.set_cons_succ]
        refine roundRead 2 (some 14) (.pointer (some ⟨fg, y, none⟩)) rfl rfl (by kernel_rfl) (by kernel_rfl) (by kernel_rfl) (by kernel_rfl) (fun _ _ _ h => h) (by kernel_rfl) (by assumption) ?_ ?_
        · intro w hSw
          (try dsimp only at hSw)
          go_simp
        simp only [Act.put, List.setIfInBounds_toArray, List.set_cons_zero, List.set_cons_succ]
        refine roundRead 3 (some 15) (.int .i64 f) rfl rfl (by kernel_rfl) (by kernel_rfl) (by kernel_rfl) (by kernel_rfl) (fun _ _ _ h => h) (by kernel_rfl) (by assumption) ?_ ?_
        · intro w hSw
          (try dsimp only at hSw)
          go_simp
        simp only [Act.put, List.setIfInBounds_toArray, List.set_cons_zero, List.set_cons_succ]
        refine roundRead 4 (some 16) (.int .i64 c) rfl rfl (by kernel_rfl) (by kernel_rfl) (by kernel_rfl) (by kernel_rfl) (fun _ _ _ h => h) (by kernel_rfl) (by assumption) ?_ ?_
        · intro w hSw
          (try dsimp only at hSw)
          go_simp
        simp only [Act.put, List.setIfInBounds_toArray, List.set_cons_zero, List.set_cons_succ]
        refine roundRead 5 (some 17) (.int .i64 (f + c)) rfl rfl (by kernel_rfl) (by kernel_rfl) (by kernel_rfl) (by kernel_rfl) (fun _ _ _ h => h) (by kernel_rfl) (by assumption) ?_ ?_
        · intro w hSw
          (try dsimp only at hSw)
          go_simp
        simp only [Act.put, List.setIfInBounds_toArray, List.set_cons_zero, List.set_cons_succ]
        refine roundRead 6 (some 18) (.slice (some ⟨fg, 0, none⟩) n fcap) rfl rfl (by kernel_rfl) (by kernel_rfl) (by kernel_rfl) (by kernel_rfl) (fun _ _ _ h => h) (by kernel_rfl) (by assumption) ?_ ?_
        · intro w hSw
          (try dsimp only at hSw)
          go_simp
        simp only [Act.put, List.setIfInBounds_toArray, List.set_cons_zero, List.set_cons_succ]
        refine roundRead 7 (some 19) (.int .i64 (k : Int)) rfl rfl (by kernel_rfl) (by kernel_rfl) (by kernel_rfl) (by kernel_rfl) (fun _ _ _ h => h) (by kernel_rfl) (by assumption) ?_ ?_
        · intro w hSw
          (try dsimp only at hSw)
          go_simp
        simp only [Act.put, List.setIfInBounds_toArray, List.set_cons_zero, List.set_cons_succ]
        refine roundRead 8 (some 20) (.pointer (some ⟨fg, k, none⟩)) rfl rfl (by kernel_rfl) (by kernel_rfl) (by kernel_rfl) (by kernel_rfl) (fun _ _ _ h => h) (by kernel_rfl) (by assumption) ?_ ?_
        · intro w hSw
          (try dsimp only at hSw)
          go_simp
        simp only [Act.put, List.setIfInBounds_toArray, List.set_cons_zero, List.set_cons_succ]
        refine roundRead 9 (some 21) (.int .i64 fk) rfl rfl (by kernel_rfl) (by kernel_rfl) (by kernel_rfl) (by kernel_rfl) (fun _ _ _ h => h) (by kernel_rfl) (by assumption) ?_ ?_
        · intro w hSw
          (try dsimp only at hSw)
          go_simp
        simp only [Act.put, List.setIfInBounds_toArray, List.set_cons_zero, List.set_cons_succ]
        refine roundRead 10 (some 22) (.bool false) rfl rfl (by kernel_rfl) (by kernel_rfl) (by kernel_rfl) (by kernel_rfl) (fun _ _ _ h => h) (by kernel_rfl) (by assumption) ?_ ?_
        · intro w hSw
          (try dsimp only at hSw)
          go_simp
        simp only [Act.put, List.setIfInBounds_toArray, List.set_cons_zero, List.set_cons_succ]
        refine roundRead 11 (some 23) (.bool false) rfl rfl (by kernel_rfl) (by kernel_rfl) (by kernel_rfl) (by kernel_rfl) (fun _ _ _ h => h) (by kernel_rfl) (by assumption) ?_ ?_
        · intro w hSw
          (try dsimp only at hSw)
          go_simp
        simp only [Act.put, List.setIfInBounds_toArray, List.set_cons_zero, List.set_cons_succ]
        refine roundSkip 12 (some 24) rfl rfl (by kernel_rfl) (by kernel_rfl) (by kernel_rfl) (by kernel_rfl) (fun _ _ _ h => h) (by kernel_rfl) (by assumption) ?_
        simp only [Act.put, List.setIfInBounds_toArray, List.set_cons_zero, List.set_cons_succ]
        refine roundSkip 13 (some 25) rfl rfl (by kernel_rfl) (by kernel_rfl) (by kernel_rfl) (by kernel_rfl) (fun _ _ _ h => h) (by kernel_rfl) (by assumption) ?_
        simp only [Act.put, List.setIfInBounds_toArray, List.set_cons_zero, List.set_cons_succ]
        refine roundOff 14 (some 26) (by kernel_rfl) rfl rfl (by kernel_rfl) (by assumption) ?_
        simp only [Act.put, List.setIfInBounds_toArray, List.set_cons_zero, List.set_cons_succ]
        refine roundOff 15 (some 27) (by kernel_rfl) rfl rfl (by kernel_rfl) (by assumption) ?_
        simp only [Act.put, List.setIfInBounds_toArray, List.set_cons_zero, List.set_cons_succ]
        refine roundValue 16 (some 28) (.bool false) wr.drew (by kernel_rfl) rfl rfl (.inl (by kernel_rfl)) (by kernel_rfl) (by go_simp) ?_
        simp only [Act.put, List.setIfInBounds_toArray, List.set_cons_zero, List.set_cons_succ]
        refine wpAnyR.done (by kernel_rfl) ?_ _
        have HZ : Hid (KeepsFrom W2.heap.size wr wr.drew ∧ KeptBut Mine wr wr.drew ∧ J (hopsOf far (k : Int) (pre ++ [((y : Int), c)])) wr.drew ∧ KeptBut Mine W2 wr.drew) := ⟨(KeepsOthers.drew wr).from _, KeptBut.below HM.out hJ (by omega) hdr, by rw [HN1.out]; exact own_on HJ.out hJ hdr, hK.trans (KeptBut.below HM.out hJ (by omega) hdr)⟩
        clear HS hJ hK
        gi_wp2
        exact ⟨HZ.out.1, HZ.out.2.1, HZ.out.2.2.1, HZ.out.2.2.2⟩
  case done =>
    rintro D Wx hD ⟨hJ2, hK2⟩ hd
    have HE : Hid (J (hopsD l far (k : Int)) (Wx.putObj D (.deferred none))) := by
      rw [hopsOf_all] at hJ2
      exact HJ.out.putObj _ hJ2 (Nat.le_trans hb2.size hD) hd rfl
    clear hJ2 hK2
    gi_wp2
    refine ⟨by simp, .inl ⟨_, _, rfl, run_takeDeferred hd, ?_⟩⟩
    exact ⟨_, results_none rfl _ _ _, ⟨_, rfl⟩, .inl HE.out⟩
  case stop =>
    rintro D c pre Wx hD ⟨rfl, p, hx⟩ hd
    have HE : Hid (Jx p (Wx.putObj D (.deferred none))) := hJx.putObj _ hx (Nat.le_trans hb2.size hD) hd rfl
    clear hx
    gi_wp2
    refine ⟨by simp, .inl ⟨_, _, rfl, run_takeDeferred hd, ?_⟩⟩
    exact ⟨_, results_none rfl _ _ _, ⟨_, rfl⟩, .inr ⟨p, HE.out⟩⟩
end Go.Proofs.Ythlbmkefjjckaad
