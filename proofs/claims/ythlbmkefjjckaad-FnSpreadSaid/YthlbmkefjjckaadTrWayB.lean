/-
  'wayBack', 'OnTree', 'ComesFrom' of the program.
-/
import Derived.Test.YthlbmkefjjckaadBunE
import Derived.Test.YthlbmkefjjckaadGrCollect
import Derived.Test.YthlbmkefjjckaadBunF
namespace Go.Proofs.Ythlbmkefjjckaad
open Go.RowKit
set_option linter.unusedVariables false
attribute [local go_sem] Oper.semAt_some wide_fn run_storeF

theorem backD_snoc (H : List HopD) (x : HopD) (w : List Int) : backD (H ++ [x]) w = if (backD H w).getLastD 0 = x.To then backD H w ++ [x.From] else backD H w := by rw [back_app]; rfl
theorem backD_len : ∀ (H : List HopD) (w : List Int), w.length ≤ (backD H w).length ∧ (backD H w).length ≤ w.length + H.length
  | [], w => ⟨Nat.le_refl _, Nat.le_refl _⟩
  | x :: H, w => by
    have h := backD_len H (if w.getLastD 0 = x.To then w ++ [x.From] else w)
    rw [backD, List.length_cons]
    split at h
    · next e => rw [if_pos e]; rw [List.length_append, List.length_singleton] at h; omega
    · next e => rw [if_neg e]; omega
theorem last_get (zs : List Int) (m : Nat) (h : zs.length = m + 1) : zs[m]'(by omega) = zs.getLastD 0 := by
  rw [List.getLastD_eq_getLast?, List.getLast?_eq_getElem?]
  have e : zs.length - 1 = m := by omega
  rw [e, List.getElem?_eq_getElem (by omega)]
  rfl
/-- What the way's box holds when so many hops have been gone back over. -/
def WayI (W : World) (b7 : Nat) (a : Int) (pre : List (Int × HopD)) (w : World) : Prop := ∃ v, Boxed w b7 26 v ∧ Own w W.heap.size v (backD (pre.map Prod.snd) [a]) ∧ (∀ g, v.ownBlock = some g → g ≠ b7) ∧ Since W.heap.size W w
theorem wayI_from (W : World) (b7 : Nat) (a : Int) (B' : Nat) (hB' : W.heap.size ≤ B') : OwnFrom B' (WayI W b7 a) := fun s A A' row ⟨v, hb, ho, hn, hs⟩ hg hr =>
  ⟨v, boxed_own (β := Unit) b7 26 (fun _ => v) () A A' row hb hg (fun r e => (hr r e).2), own_from (β := Unit) B' W.heap.size (fun _ => v) (fun _ => backD (s.map Prod.snd) [a]) () A A' row ho hg hr, hn, since_from (β := Unit) (Nat.le_refl _) hB' () A A' row hs hg hr⟩
theorem wayMine_ok (W : World) (b7 : Nat) (a : Int) (B : Nat) (hB : b7 < B) : MineOk B (WayI W b7 a) (ColMine b7) where
  lt := fun s W b ⟨v, hb, ho, _⟩ hm => by
    rcases hm with rfl | ⟨n, c, hc⟩
    · exact hb.lt
    · rw [hb.cell] at hc
      cases hc
      exact (World.ownsRow.lt ho b rfl).2
  step := fun s W W' row b ⟨v, hb, ho, _⟩ hW hg hr hm => by
    have hne : some b7 ≠ row := fun e => by have := (hr b7 e.symm).1; omega
    have hb' : Boxed W' b7 26 v := (hg.block b7 hb.lt hne).trans hb
    rcases hm with rfl | ⟨n, c, hc⟩
    · exact .inl rfl
    · rw [hb'.cell] at hc
      cases hc
      exact .inr ⟨n, c, hb.cell⟩

set_option maxRecDepth 100000 in
set_option maxHeartbeats 8000000 in
theorem wayBack_any (W : World) (B : Nat) (u : Value) (ps : List Int) (a b : Int) (hu : Own W B u ps) (hg : goodU ps = true) (hb : 0 ≤ b ∧ b < ps.length) :
    Calls Try.prog 50 #[u, .int .i64 a, .int .i64 b] W fun e W' => ∃ v, e = .returned v ∧ Own W' W.heap.size v (wayB ps a b) ∧ Below W.heap.size W W' := by
  obtain ⟨⟨hn1, hn2⟩, -, -⟩ := (goodU_iff ps).1 hg
  obtain ⟨au, cu, rfl⟩ := hu.shape
  obtain ⟨W2, hW2⟩ : ∃ W2, W2 = (W.alloc (.cells #[.int .i64 a] 3)).alloc (.cells #[.slice (some ⟨W.heap.size, 0, none⟩) 1 1] 26) := ⟨_, rfl⟩
  have HS2 : Hid (Since W.heap.size W W2 ∧ W2.heap.size = W.heap.size + 2) := by
    show Since _ _ _ ∧ _
    rw [hW2]
    exact ⟨⟨((Below.refl _ W).alloc (Nat.le_refl _) _).alloc (by simp) _, by simp; omega⟩, by simp⟩
  have HB2 : Hid (Boxed W2 (W.heap.size + 1) 26 (.slice (some ⟨W.heap.size, 0, none⟩) 1 1) ∧ Own W2 W.heap.size (.slice (some ⟨W.heap.size, 0, none⟩) 1 1) [a]) := by
    show _ ∧ _
    rw [hW2]
    refine ⟨?_, ?_⟩
    · have := Boxed.new (W.alloc (.cells #[.int .i64 a] 3)) 26 (.slice (some ⟨W.heap.size, 0, none⟩) 1 1)
      rwa [World.size_alloc] at this
    · have h1 : Own (W.alloc (.cells #[.int .i64 a] 3)) W.heap.size (.slice (some ⟨W.heap.size, 0, none⟩) 1 1) [a] :=
        ⟨rfl, .inr ⟨W.heap.size, 1, #[.int .i64 a], rfl, Nat.le_refl _, World.alloc_heap_new W _, Nat.le_refl _, by unfold maxLen; omega, rfl, rfl⟩⟩
      exact h1.alloc _
  have HW2 : Hid ((W.alloc (.cells #[.int .i64 a] 3)).alloc (.cells #[.slice (some ⟨W.heap.size, 0, none⟩) 1 1] 26) = W2) := hW2.symm
  have CS : Hid (Calls Try.prog 48 #[.slice au ps.length cu, .int .i64 b] W2 fun e W' => ∃ v, e = .returned v ∧ OwnHop W' W2.heap.size v (spreadD ps b) ∧ Below W2.heap.size W2 W') := spreadOn_any W2 B _ ps b (hu.below HS2.out.1.1) hg hb
  have HLH : Hid ((spreadD ps b).length ≤ 12) := by
    show _ ≤ _
    have := sprd_len hg hb.1 hb.2 ps.length
    unfold spreadD
    omega
  have HWB : Hid (backD ((backP (spreadD ps b) (spreadD ps b).length).map Prod.snd) [a] = wayB ps a b) := by
    show _ = _
    rw [backP_all]
    rfl
  generalize wayB ps a b = wb at *
  generalize spreadD ps b = H at *
  clear hu hg hb hW2
  refine callsIn_wide (n := 9) |>.1 ?_
  refine callsIn_of_wp_marks Try.func50 rfl trivial ?_ rfl
  simp only [Try.ntmps50, List.size_toArray, List.length_cons, List.length_nil, Nat.reduceAdd, Nat.reduceSub, Array.replicate_succ, Array.replicate_zero, List.push_toArray, List.append_toArray, List.nil_append, List.cons_append]
  gi_wp2_with (first
    | (gi_at_call 48; rw [HW2.out]; refine (callsIn_wide.2 CS.out).mono ?_; rintro e w3 ⟨v3, rfl, ho3, hb3⟩; obtain ⟨a3, c3, rfl⟩ := ho3.shape)
    | (gi_at_call 81; refine (callsIn_wide.2 (backward_any w3 (.slice a3 H.length c3) ⟨_, _, _, rfl⟩)).mono ?_; rintro e w4 ⟨rfl, rfl⟩))
  obtain ⟨W3, hW3⟩ : ∃ W3, W3 = w3.alloc (.cells #[.slice a3 H.length c3] 32) := ⟨_, rfl⟩
  rw [← hW3]
  have hsz3 : W3.heap.size = w3.heap.size + 1 := by rw [hW3]; simp
  have hbw : Below w3.heap.size w3 W3 := by rw [hW3]; exact (Below.refl _ w3).alloc (Nat.le_refl _) _
  have hbx : Boxed W3 w3.heap.size 32 (.slice a3 H.length c3) := by rw [hW3]; exact Boxed.new w3 _ _
  have hb23 : Below W2.heap.size W2 W3 := hb3.trans (hbw.mono hb3.size)
  have hge3 : ∀ g, (Value.slice a3 H.length c3).ownBlock = some g → W2.heap.size ≤ g ∧ g < w3.heap.size := fun g e => World.ownsRow.lt ho3 g e
  have h27 := HS2.out.2
  have hsz23 := hb3.size
  clear hW3
  have h00 : WayI W (W.heap.size + 1) a [] W3 := ⟨_, (hb23.block _ (by omega)).trans HB2.out.1, HB2.out.2.below hb23, fun g e => by cases e; show W.heap.size ≠ W.heap.size + 1; omega, HS2.out.1.step hb23⟩
  refine wp_rangeB (w0 := W3) (xs := backP H H.length) (encs := fun p : Int × HopD => #[.int .i64 p.1, .agg #[.int .i64 p.2.From, .int .i64 p.2.To]]) (S := fun b => b = w3.heap.size ∨ (Value.slice a3 H.length c3).ownBlock = some b) (gf := 102) (lb := #[.pointer (some ⟨w3.heap.size, 0, none⟩)]) rfl (enters_of Try.func102 (by kernel_rfl) rfl)
    (backIt_any _ w3.heap.size _ H w3 W3 (by have := HLH.out; omega) (.inl rfl) hbx.cell ho3.reads hbw (fun g e => .inr e)) (Below.refl _ _)
    (WayI W (W.heap.size + 1) a) (ColMine (W.heap.size + 1)) (wayMine_ok W (W.heap.size + 1) a W3.heap.size (by omega))
    (fun b hb q => by
      have hbl : W2.heap.size ≤ b := by
        rcases hb with rfl | hb
        · exact hsz23
        · exact (hge3 b hb).1
      obtain ⟨v0, x1, x2, -⟩ := h00
      rcases q with q | ⟨n9, c9, q⟩
      · omega
      · have hc : W3.cell? ⟨W.heap.size + 1, 0, none⟩ = some (.slice (some ⟨W.heap.size, 0, none⟩) 1 1) := Boxed.cell ((hb23.block _ (by omega)).trans HB2.out.1)
        rw [hc] at q
        cases q
        omega) (fun _ => rfl)
    (fun _ _ _ => False) (wayI_from W (W.heap.size + 1) a _ (by omega)) (fun _ _ _ _ _ hs _ _ => hs)
    h00
    (fun x b9 => { tmps := #[.slice au ps.length cu, .int .i64 a, .int .i64 b, undef, undef, undef, .slice none 0 0, .pointer (some ⟨W.heap.size + 1, 0, none⟩), undef, .pointer (some ⟨b9, 0, none⟩), .int .i64 a, .slice (some ⟨W.heap.size, 0, none⟩) 1 1, .slice au ps.length cu, .int .i64 b, .slice a3 H.length c3, .func (.func 102) #[] #[.pointer (some ⟨w3.heap.size, 0, none⟩)], .int .i64 x.1, .agg #[.int .i64 x.2.From, .int .i64 x.2.To], undef, undef, undef, undef, undef, undef, undef, undef, undef, undef, undef, undef, undef, undef, undef], defers := [] }) (fun x => .cells #[.int .i64 x.2.From, .int .i64 x.2.To] 36) ?assign (fun _ => rfl) ?body ?done ?stop
  case assign =>
    intro l2 x Wx K hK
    gi_wp2
    exact hK
  case body =>
    rintro l2 pre ⟨i9, ⟨xf, xt⟩⟩ b9 wr ⟨v, hbb, ho, hn7, hs⟩ hpre hsx hb9 hob hnm
    have hbd : Below wr.heap.size wr wr.drew := (Below.refl _ wr).drew
    have HKO : Hid (KeptBut (ColMine (W.heap.size + 1)) wr wr.drew) := KeptBut.below (wayMine_ok W (W.heap.size + 1) a W3.heap.size (by omega)) (s := pre) ⟨v, hbb, ho, hn7, hs⟩ hsx hbd
    have hlen := backD_len (pre.map Prod.snd) [a]
    have hpl : pre.length ≤ 12 := by
      have := hpre.length_le
      rw [backP_len, List.length_append] at this
      have := HLH.out
      omega
    rw [List.length_map, List.length_singleton] at hlen
    obtain ⟨a2, c2, rfl⟩ := ho.shape
    have hsn : backD ((pre ++ [(i9, (⟨xf, xt⟩ : HopD))]).map Prod.snd) [a] = if (backD (pre.map Prod.snd) [a]).getLastD 0 = xt then backD (pre.map Prod.snd) [a] ++ [xf] else backD (pre.map Prod.snd) [a] := by
      rw [List.map_append]
      exact backD_snoc _ _ _
    have HI : Hid (∀ w v', Boxed w (W.heap.size + 1) 26 v' → Own w W.heap.size v' (if (backD (pre.map Prod.snd) [a]).getLastD 0 = xt then backD (pre.map Prod.snd) [a] ++ [xf] else backD (pre.map Prod.snd) [a]) → (∀ g, v'.ownBlock = some g → g ≠ W.heap.size + 1) → Since W.heap.size W w → WayI W (W.heap.size + 1) a (pre ++ [(i9, (⟨xf, xt⟩ : HopD))]) w) := fun w v' h1 h2 h3 h4 => ⟨v', h1, by rw [hsn]; exact h2, h3, h4⟩
    clear hsn
    generalize backD (pre.map Prod.snd) [a] = ws at *
    obtain ⟨m, hm⟩ : ∃ m, ws.length = m + 1 := ⟨ws.length - 1, by omega⟩
    obtain ⟨g2, rfl, hcl⟩ : ∃ g2, a2 = some ⟨g2, 0, none⟩ ∧ wr.cell? ⟨g2, m, none⟩ = some (.int .i64 (ws.getLastD 0)) := by
      have ho' := ho
      rcases ho.2 with ⟨hv, h0⟩ | ⟨g, cap, cur, hv, -⟩
      · omega
      · cases hv
        exact ⟨g, rfl, by rw [← last_get ws m hm]; exact own_cellG ho' rfl m (by omega)⟩
    have hc7 := hbb.cell
    have h9f : wr.cell? ⟨b9, 0, none⟩ = some (.int .i64 xf) := by simp [World.cell?, hob]
    have h9t : wr.cell? ⟨b9, 1, none⟩ = some (.int .i64 xt) := by simp [World.cell?, hob]
    have HO : Hid (Boxed wr (W.heap.size + 1) 26 (.slice (some ⟨g2, 0, none⟩) (m + 1) c2) ∧ Own wr W.heap.size (.slice (some ⟨g2, 0, none⟩) (m + 1) c2) ws ∧ g2 ≠ W.heap.size + 1 ∧ Since W.heap.size W wr ∧ ws.length = m + 1 ∧ W3.heap.size ≤ wr.heap.size) := ⟨by rw [← hm]; exact hbb, by rw [← hm]; exact ho, hn7 g2 rfl, hs, hm, hsx⟩
    have HC : Hid (∀ w, Below wr.heap.size wr w → w.cell? ⟨W.heap.size + 1, 0, none⟩ = some (.slice (some ⟨g2, 0, none⟩) (m + 1) c2) ∧ w.cell? ⟨g2, m, none⟩ = some (.int .i64 (ws.getLastD 0)) ∧ w.cell? ⟨b9, 0, none⟩ = some (.int .i64 xf) ∧ w.cell? ⟨b9, 1, none⟩ = some (.int .i64 xt)) := fun w hb => by
      rw [hm] at hc7
      exact ⟨(hb.cell (p := ⟨_, 0, none⟩) (World.block_lt_of_cell? wr _ hc7)).trans hc7, (hb.cell (p := ⟨_, m, none⟩) (World.block_lt_of_cell? wr _ hcl)).trans hcl, (hb.cell (p := ⟨_, 0, none⟩) (World.block_lt_of_cell? wr _ h9f)).trans h9f, (hb.cell (p := ⟨_, 1, none⟩) (World.block_lt_of_cell? wr _ h9t)).trans h9t⟩
    have hm64 : m ≤ 24 := by omega
    have hwr : IntKind.i64.wrap (m : Int) = (m : Int) := by rw [IntKind.wrap_i64]; omega
    have hmlt : (m : Int) < (m : Int) + 1 := by omega
    clear hbb ho hn7 hs hpre hsx hob hnm hcl hc7 h9f h9t hlen hpl
    obtain ⟨la, hla⟩ : ∃ la, la = ws.getLastD 0 := ⟨_, rfl⟩
    rw [← hla] at HC HI
    clear hla
    refine wpIn_block ?_
    cases he : xt == la with
    | false =>
      gi_wp2
      refine region_inRound (S := (fun w' : World => w'.cell? ⟨W.heap.size + 1, 0, none⟩ = some (.slice (some ⟨g2, 0, none⟩) (m + 1) c2) ∧ w'.cell? ⟨g2, m, none⟩ = some (.int .i64 la) ∧ w'.cell? ⟨b9, 0, none⟩ = some (.int .i64 xf) ∧ w'.cell? ⟨b9, 1, none⟩ = some (.int .i64 xt))) 8 (by kernel_rfl) (by kernel_rfl) ?_ (fun hHeld => ?_)
      · exact HC.out _ hbd
      refine roundRead 0 (some 18) (.pointer (some ⟨b9, 1, none⟩)) rfl rfl (by kernel_rfl) (by kernel_rfl) (by kernel_rfl) (by kernel_rfl) (fun _ _ _ h => h) (by kernel_rfl) (by assumption) ?_ ?_
      · intro w hSw
        (try dsimp only at hSw)
        go_simp
      simp only [Act.put, List.setIfInBounds_toArray, List.set_cons_zero, List.set_cons_succ]
      refine roundRead 1 (some 19) (.int .i64 xt) rfl rfl (by kernel_rfl) (by kernel_rfl) (by kernel_rfl) (by kernel_rfl) (fun _ _ _ h => h) (by kernel_rfl) (by assumption) ?_ ?_
      · intro w hSw
        (try dsimp only at hSw)
        go_simp
      simp only [Act.put, List.setIfInBounds_toArray, List.set_cons_zero, List.set_cons_succ]
      refine roundRead 2 (some 20) (.slice (some ⟨g2, 0, none⟩) (m + 1) c2) rfl rfl (by kernel_rfl) (by kernel_rfl) (by kernel_rfl) (by kernel_rfl) (fun _ _ _ h => h) (by kernel_rfl) (by assumption) ?_ ?_
      · intro w hSw
        (try dsimp only at hSw)
        go_simp
      simp only [Act.put, List.setIfInBounds_toArray, List.set_cons_zero, List.set_cons_succ]
      refine roundRead 3 (some 21) (.slice (some ⟨g2, 0, none⟩) (m + 1) c2) rfl rfl (by kernel_rfl) (by kernel_rfl) (by kernel_rfl) (by kernel_rfl) (fun _ _ _ h => h) (by kernel_rfl) (by assumption) ?_ ?_
      · intro w hSw
        (try dsimp only at hSw)
        go_simp
      simp only [Act.put, List.setIfInBounds_toArray, List.set_cons_zero, List.set_cons_succ]
      refine roundRead 4 (some 22) (.int .i64 ((m : Int) + 1)) rfl rfl (by kernel_rfl) (by kernel_rfl) (by kernel_rfl) (by kernel_rfl) (fun _ _ _ h => h) (by kernel_rfl) (by assumption) ?_ ?_
      · intro w hSw
        (try dsimp only at hSw)
        go_simp
      simp only [Act.put, List.setIfInBounds_toArray, List.set_cons_zero, List.set_cons_succ]
      refine roundRead 5 (some 23) (.int .i64 (m : Int)) rfl rfl (by kernel_rfl) (by kernel_rfl) (by kernel_rfl) (by kernel_rfl) (fun _ _ _ h => h) (by kernel_rfl) (by assumption) ?_ ?_
      · intro w hSw
        (try dsimp only at hSw)
        go_simp
      simp only [Act.put, List.setIfInBounds_toArray, List.set_cons_zero, List.set_cons_succ]
      refine roundRead 6 (some 24) (.pointer (some ⟨g2, m, none⟩)) rfl rfl (by kernel_rfl) (by kernel_rfl) (by kernel_rfl) (by kernel_rfl) (fun _ _ _ h => h) (by kernel_rfl) (by assumption) ?_ ?_
      · intro w hSw
        (try dsimp only at hSw)
        go_simp
      simp only [Act.put, List.setIfInBounds_toArray, List.set_cons_zero, List.set_cons_succ]
      refine roundRead 7 (some 25) (.int .i64 la) rfl rfl (by kernel_rfl) (by kernel_rfl) (by kernel_rfl) (by kernel_rfl) (fun _ _ _ h => h) (by kernel_rfl) (by assumption) ?_ ?_
      · intro w hSw
        (try dsimp only at hSw)
        go_simp
      simp only [Act.put, List.setIfInBounds_toArray, List.set_cons_zero, List.set_cons_succ]
      refine roundValue 8 (some 26) (.bool false) wr.drew (by kernel_rfl) rfl rfl (.inl (by kernel_rfl)) (by kernel_rfl) (by go_simp) ?_
      simp only [Act.put, List.setIfInBounds_toArray, List.set_cons_zero, List.set_cons_succ]
      refine wpAnyR.done (by kernel_rfl) ?_ _
      gi_wp2
      have hne : ¬ la = xt := fun e => by rw [e] at he; simp at he
      obtain ⟨h1, h2, h3, h4, h5, h6⟩ := HO.out
      exact ⟨(KeepsOthers.of_grownBy (below_grown hbd) (fun j o e => by cases e)).from _, HKO.out, HI.out _ _ (show Boxed wr.drew _ _ _ from h1) (by rw [if_neg hne]; exact h2.drew) (fun g e => by cases e; exact h3) h4.drew⟩
    | true =>
      have hne : la = xt := by have := eq_of_beq he; exact this.symm
      have HC5 : Hid (∀ ty, ∃ v' w', (Builtin.append_ #[26, 26] ty #[.slice (some ⟨g2, 0, none⟩) (m + 1) c2, .slice (some ⟨wr.heap.size, 0, none⟩) 1 1]).run Try.prog (wr.drew.alloc (.cells #[.int .i64 xf] 3)) = .ok v' w' ∧ Grown (wr.drew.alloc (.cells #[.int .i64 xf] 3)) W.heap.size 3 1 (.slice (some ⟨g2, 0, none⟩) (m + 1) c2) (ws ++ [xf]).length ((ws ++ [xf]).map (Value.int .i64)) v' w') := fun ty => by
        have hp1 := HO.out.2.1
        rw [← hm] at hp1 ⊢
        have hl25 : ws.length ≤ 2097152 := by omega
        exact run_app1 (wr.drew.alloc (.cells #[.int .i64 xf] 3)) W.heap.size _ ws (hp1.drew.below ((Below.refl _ wr.drew).alloc (Nat.le_refl _) _)) wr.heap.size 1 xf (new_cell wr.drew _ _) hl25 (by have := HO.out.2.2.2.1.2; have h9 : wr.drew.heap.size = wr.heap.size := rfl; simp; omega) ty
      have HP : Hid (∀ v5 w5, Grown (wr.drew.alloc (.cells #[.int .i64 xf] 3)) W.heap.size 3 1 (.slice (some ⟨g2, 0, none⟩) (m + 1) c2) (ws ++ [xf]).length ((ws ++ [xf]).map (Value.int .i64)) v5 w5 → (w5.cell? ⟨W.heap.size + 1, 0, none⟩ = some (.slice (some ⟨g2, 0, none⟩) (m + 1) c2) ∧ w5.frozen? ⟨W.heap.size + 1, 0, none⟩ = false) ∧ (∃ a5 n5 c5, v5 = .slice a5 n5 c5) ∧ Hid (roundPostO W3.heap.size (ColMine (W.heap.size + 1)) (WayI W (W.heap.size + 1) a) (fun _ _ _ => False) (pre ++ [(i9, (⟨xf, xt⟩ : HopD))]) wr .normal { tmps := #[], defers := [] } (w5.setCell ⟨W.heap.size + 1, 0, none⟩ v5))) := fun v5 w5 hg5 => by
        obtain ⟨h1, h2, h3, h4, h5, h6⟩ := HO.out
        have hbd' : Boxed wr.drew (W.heap.size + 1) 26 (.slice (some ⟨g2, 0, none⟩) (m + 1) c2) := h1
        have hlt7 := hbd'.lt
        have hdz : wr.drew.heap.size = wr.heap.size := rfl
        have hb5 : Boxed w5 (W.heap.size + 1) 26 (.slice (some ⟨g2, 0, none⟩) (m + 1) c2) := (hg5.grown.block _ (by simp; omega) (fun e => by simp [Value.ownBlock] at e; omega)).trans (hbd'.alloc _)
        obtain ⟨a5, c5, e5⟩ := rowShape hg5.own
        have hg2l : g2 < wr.drew.heap.size := (World.ownsRow.lt h2.drew g2 rfl).2
        have hrow : ∀ (j : Nat) (o : Obj), (Value.slice (some ⟨g2, 0, none⟩) (m + 1) c2).ownBlock = some j → (wr.drew.alloc (.cells #[.int .i64 xf] 3)).heap[j]? = some o → o.isCells = true := fun j o hj ho2 => by
          cases hj
          have hbl := Below.heap_alloc wr.drew (.cells #[.int .i64 xf] 3) g2 hg2l
          rcases h2.2 with ⟨hv, -⟩ | ⟨g, cap, cur, hv, -, hgc, -⟩
          · cases hv
          · have hgg := congrArg Value.ownBlock hv
            simp [Value.ownBlock] at hgg
            subst hgg
            have : (wr.drew.alloc (.cells #[.int .i64 xf] 3)).heap[g2]? = some (.cells cur 3 (0, 0)) := hbl.trans hgc
            rw [this] at ho2
            cases ho2
            rfl
        have hlie : ∀ g, v5.ownBlock = some g → g = g2 ∨ g = wr.heap.size + 1 := fun g e => by
          rcases hg5.lies with q | q
          · rw [q] at e; cases e; exact .inl rfl
          · rw [q] at e; simp at e; exact .inr (by omega)
        have hn5 : ∀ g, v5.ownBlock = some g → g ≠ W.heap.size + 1 := fun g e => by
          rcases hlie g e with q | q <;> omega
        refine ⟨⟨hb5.cell, hb5.frozen⟩, ⟨_, _, _, e5⟩, ?_, HKO.out.trans ⟨?_, fun b o hbo hoc hm2 => ?_⟩, ?_⟩
        · exact ((KeepsOthers.of_grownBy (below_grown hbd) (fun j o e => by cases e)).trans ((KeepsOthers.alloc wr.drew _).trans ((KeepsOthers.of_grownBy hg5.grown hrow).trans (KeepsOthers.setCell _ _ _)))).from _
        · have h1 := hg5.grown.size
          simp [World.setCell] at h1 ⊢
          omega
        · have hlt := (Array.getElem?_eq_some_iff.1 hbo).1
          have n1 : b ≠ W.heap.size + 1 := fun e => hm2 (.inl e)
          have n2 : some b ≠ (Value.slice (some ⟨g2, 0, none⟩) (m + 1) c2).ownBlock := fun e => by
            simp [Value.ownBlock] at e
            exact hm2 (.inr ⟨m + 1, c2, by rw [e]; exact hbd'.cell⟩)
          have hw5 : w5.heap[b]? = some o := (hg5.grown.block b (by simp; omega) n2).trans ((Below.heap_alloc _ _ _ hlt).trans hbo)
          refine ⟨(Below.heap_setCell w5 ⟨W.heap.size + 1, 0, none⟩ v5 b n1).trans hw5, fun q => ?_⟩
          rcases q with q | ⟨n9, c9, q⟩
          · exact n1 q
          · rw [(hb5.set v5).cell] at q
            cases q
            rcases hlie b rfl with q | q
            · exact n2 (by rw [q]; rfl)
            · omega
        · refine HI.out _ v5 (hb5.set v5) ?_ hn5 ⟨?_, ?_⟩
          · rw [if_pos hne]
            exact rowSame (show Own w5 W.heap.size v5 (ws ++ [xf]) from hg5.own) fun k hk => Below.heap_setCell w5 ⟨W.heap.size + 1, 0, none⟩ v5 k (hn5 k hk)
          · exact ((h4.drew.1.alloc h4.drew.2 _).trans hg5.below).setCell (by show W.heap.size ≤ W.heap.size + 1; omega) v5
          · have h1 := hg5.grown.size
            have h7 := h4.2
            simp [World.setCell] at h1 ⊢
            omega
      have hcd7 : (wr.drew.alloc (.cells #[.int .i64 xf] 3)).cell? ⟨W.heap.size + 1, 0, none⟩ = some (.slice (some ⟨g2, 0, none⟩) (m + 1) c2) := (HC.out _ (hbd.trans (((Below.refl _ wr.drew).alloc (Nat.le_refl _) _)))).1
      have hcd8 : wr.drew.cell? ⟨W.heap.size + 1, 0, none⟩ = some (.slice (some ⟨g2, 0, none⟩) (m + 1) c2) := (HC.out _ hbd).1
      have hcd9 : wr.drew.cell? ⟨b9, 0, none⟩ = some (.int .i64 xf) := (HC.out _ hbd).2.2.1
      gi_wp2
      refine region_inRound (S := (fun w' : World => w'.cell? ⟨W.heap.size + 1, 0, none⟩ = some (.slice (some ⟨g2, 0, none⟩) (m + 1) c2) ∧ w'.cell? ⟨g2, m, none⟩ = some (.int .i64 la) ∧ w'.cell? ⟨b9, 0, none⟩ = some (.int .i64 xf) ∧ w'.cell? ⟨b9, 1, none⟩ = some (.int .i64 xt))) 8 (by kernel_rfl) (by kernel_rfl) ?_ (fun hHeld => ?_)
      · exact HC.out _ hbd
      refine roundRead 0 (some 18) (.pointer (some ⟨b9, 1, none⟩)) rfl rfl (by kernel_rfl) (by kernel_rfl) (by kernel_rfl) (by kernel_rfl) (fun _ _ _ h => h) (by kernel_rfl) (by assumption) ?_ ?_
      · intro w hSw
        (try dsimp only at hSw)
        go_simp
      simp only [Act.put, List.setIfInBounds_toArray, List.set_cons_zero, List.set_cons_succ]
      refine roundRead 1 (some 19) (.int .i64 xt) rfl rfl (by kernel_rfl) (by kernel_rfl) (by kernel_rfl) (by kernel_rfl) (fun _ _ _ h => h) (by kernel_rfl) (by assumption) ?_ ?_
      · intro w hSw
        (try dsimp only at hSw)
        go_simp
      simp only [Act.put, List.setIfInBounds_toArray, List.set_cons_zero, List.set_cons_succ]
      refine roundRead 2 (some 20) (.slice (some ⟨g2, 0, none⟩) (m + 1) c2) rfl rfl (by kernel_rfl) (by kernel_rfl) (by kernel_rfl) (by kernel_rfl) (fun _ _ _ h => h) (by kernel_rfl) (by assumption) ?_ ?_
      · intro w hSw
        (try dsimp only at hSw)
        go_simp
      simp only [Act.put, List.setIfInBounds_toArray, List.set_cons_zero, List.set_cons_succ]
      refine roundRead 3 (some 21) (.slice (some ⟨g2, 0, none⟩) (m + 1) c2) rfl rfl (by kernel_rfl) (by kernel_rfl) (by kernel_rfl) (by kernel_rfl) (fun _ _ _ h => h) (by kernel_rfl) (by assumption) ?_ ?_
      · intro w hSw
        (try dsimp only at hSw)
        go_simp
      simp only [Act.put, List.setIfInBounds_toArray, List.set_cons_zero, List.set_cons_succ]
      refine roundRead 4 (some 22) (.int .i64 ((m : Int) + 1)) rfl rfl (by kernel_rfl) (by kernel_rfl) (by kernel_rfl) (by kernel_rfl) (fun _ _ _ h => h) (by kernel_rfl) (by assumption) ?_ ?_
      · intro w hSw
        (try dsimp only at hSw)
        go_simp
      simp only [Act.put, List.setIfInBounds_toArray, List.set_cons_zero, List.set_cons_succ]
      refine roundRead 5 (some 23) (.int .i64 (m : Int)) rfl rfl (by kernel_rfl) (by kernel_rfl) (by kernel_rfl) (by kernel_rfl) (fun _ _ _ h => h) (by kernel_rfl) (by assumption) ?_ ?_
      · intro w hSw
        (try dsimp only at hSw)
        go_simp
      simp only [Act.put, List.setIfInBounds_toArray, List.set_cons_zero, List.set_cons_succ]
      refine roundRead 6 (some 24) (.pointer (some ⟨g2, m, none⟩)) rfl rfl (by kernel_rfl) (by kernel_rfl) (by kernel_rfl) (by kernel_rfl) (fun _ _ _ h => h) (by kernel_rfl) (by assumption) ?_ ?_
      · intro w hSw
        (try dsimp only at hSw)
        go_simp
      simp only [Act.put, List.setIfInBounds_toArray, List.set_cons_zero, List.set_cons_succ]
      refine roundRead 7 (some 25) (.int .i64 la) rfl rfl (by kernel_rfl) (by kernel_rfl) (by kernel_rfl) (by kernel_rfl) (fun _ _ _ h => h) (by kernel_rfl) (by assumption) ?_ ?_
      · intro w hSw
        (try dsimp only at hSw)
        go_simp
      simp only [Act.put, List.setIfInBounds_toArray, List.set_cons_zero, List.set_cons_succ]
      refine roundValue 8 (some 26) (.bool true) wr.drew (by kernel_rfl) rfl rfl (.inl (by kernel_rfl)) (by kernel_rfl) (by go_simp) ?_
      simp only [Act.put, List.setIfInBounds_toArray, List.set_cons_zero, List.set_cons_succ]
      refine wpAnyR.done (by kernel_rfl) ?_ _
      clear HI HO HKO hHeld
      gi_wp2_with (gi_at_builtin; refine listIn_app (by rfl) (.tmp 27) (.tmp 30) 26 (by rfl) (.slice (some ⟨g2, 0, none⟩) (m + 1) c2) (.slice (some ⟨wr.heap.size, 0, none⟩) 1 1) (by rfl) (by rfl) _ HC5.out ?_; intro v5 w5 hg5; obtain ⟨⟨hc5, hf5⟩, ⟨a5, n5, c5, rfl⟩, HZ⟩ := HP.out v5 w5 hg5; have HZ1 : Hid (roundPostO W3.heap.size (ColMine (W.heap.size + 1)) (WayI W (W.heap.size + 1) a) (fun _ _ _ => False) (pre ++ [(i9, (⟨xf, xt⟩ : HopD))]) wr .normal { tmps := #[], defers := [] } (w5.setCell ⟨W.heap.size + 1, 0, none⟩ (.slice a5 n5 c5))) := HZ; clear HZ hg5)
      exact HZ1.out
  case done =>
    rintro D Wx hD ⟨v, hbb, ho, hn7, hs⟩ hd
    rw [HWB.out] at ho
    have hc := hbb.cell
    obtain ⟨a2, c2, rfl⟩ := ho.shape
    have HE : Hid (Own (Wx.putObj D (.deferred none)) W.heap.size (.slice a2 wb.length c2) wb ∧ Below W.heap.size W (Wx.putObj D (.deferred none))) := by
      have hg := grownBy_putObj' Wx D (.deferred none)
      refine ⟨own_from (β := Unit) W.heap.size W.heap.size (fun _ => .slice a2 wb.length c2) (fun _ => wb) () Wx _ (some D) ho hg (fun r e => by cases e; exact ⟨by omega, _, hd, rfl⟩), hs.1.grown hg hs.2 (fun k e => by cases e; omega)⟩
    clear ho hs hbb
    gi_wp2
    refine ⟨by simp, .inl ⟨_, _, rfl, run_takeDeferred hd, ?_⟩⟩
    refine ⟨_, results_tmp rfl _ _ _, ?_⟩
    exact ⟨_, rfl, HE.out.1, HE.out.2⟩
  case stop =>
    rintro D c pre Wx hD hf' hd
    exact hf'.elim
end Go.Proofs.Ythlbmkefjjckaad
