/-
  'spreadOn', 'SpreadOn' of the program.
-/
import Derived.Test.YthlbmkefjjckaadBunD
import Derived.Test.YthlbmkefjjckaadGrNearS
namespace Go.Proofs.Ythlbmkefjjckaad
open Go.RowKit
set_option linter.unusedVariables false
attribute [local go_sem] Oper.semAt_some wide_fn run_storeF

/-- .. a call behind which nothing is held. -/
theorem roundCallY {n : Nat} {P : Program} {ops : Array Oper} {Q : Exit → Act → World → Prop} {md : Region.Mode} {S : World → Prop} (i : Nat) (d : Option Tmp) (f : FuncId) (vs : Array Value) {z : Nat} {o : Oper} {m : Nat} {listed : Array Bool} {a : Act} {w : World}
    (hr : Region.ready md ops listed = [i]) (hi : ops[i]? = some o) (hd : o.dst = d) (hz : (listed.setIfInBounds i true).getD z true = true) (hw : Region.wanted o (yielded ops a.tmps) = true)
    (hrun : (execOp a.eval o).run P w = .ok (.enter f vs) w) (hc : Calls P f vs w fun e w' => ∃ v, e = .returned v ∧ wpAnyR n P md ops Q S z m (listed.setIfInBounds i true) (a.put d v) w') : wpAnyR n P md ops Q S z (m + 1) listed a w := by
  subst hd
  refine ⟨fun h0 => absurd h0 (by rw [hr]; simp), fun j hj => ?_⟩
  rw [hr] at hj
  obtain rfl : j = i := by simpa using hj
  unfold wpOpIn
  rw [hi]
  dsimp only
  rw [if_pos hw]
  refine ⟨fun _ _ => trivial, ?_⟩
  rw [show Fence.wide.round = none from rfl, Oper.semAt_none, hrun]
  refine ⟨fun h => (by cases h), (callsIn_wide.2 hc).mono ?_⟩
  rintro e w' ⟨v, rfl, h⟩
  exact ⟨.inl hz, h⟩

/-- .. a value, behind which what was held still holds. -/
theorem roundValueS {n : Nat} {P : Program} {ops : Array Oper} {Q : Exit → Act → World → Prop} {md : Region.Mode} {S : World → Prop} (i : Nat) (d : Option Tmp) (v : Value) (w' : World) {z : Nat} {o : Oper} {m : Nat} {listed : Array Bool} {a : Act} {w : World}
    (hr : Region.ready md ops listed = [i]) (hi : ops[i]? = some o) (hd : o.dst = d) (hS : S w') (hw : Region.wanted o (yielded ops a.tmps) = true)
    (hrun : (execOp a.eval o).run P w = .ok (.value v) w') (h : wpAnyR n P md ops Q S z m (listed.setIfInBounds i true) (a.put d v) w') : wpAnyR n P md ops Q S z (m + 1) listed a w := by
  subst hd
  refine ⟨fun h0 => absurd h0 (by rw [hr]; simp), fun j hj => ?_⟩
  rw [hr] at hj
  obtain rfl : j = i := by simpa using hj
  refine wpOpIn_mono (K := fun a' w2 => w2 = w' ∧ wpAnyR n P md ops Q S z m (listed.setIfInBounds j true) a' w2) (fun a' w2 h' => ⟨.inr (by rw [h'.1]; exact hS), h'.2⟩) ?_
  unfold wpOpIn
  rw [hi]
  dsimp only
  rw [if_pos hw]
  refine ⟨fun _ _ => trivial, ?_⟩
  rw [show Fence.wide.round = none from rfl, Oper.semAt_none, hrun]
  exact ⟨rfl, h⟩

set_option maxRecDepth 100000 in
set_option maxHeartbeats 8000000 in
theorem spreadOn_any (W : World) (B : Nat) (u : Value) (ps : List Int) (f : Int) (hu : Own W B u ps) (hg : goodU ps = true) (hf : 0 ≤ f ∧ f < ps.length) :
    Calls Try.prog 48 #[u, .int .i64 f] W fun e W' => ∃ v, e = .returned v ∧ OwnHop W' W.heap.size v (spreadD ps f) ∧ Below W.heap.size W W' := by
  obtain ⟨⟨hn1, hn2⟩, -, -⟩ := (goodU_iff ps).1 hg
  obtain ⟨au, cu, rfl⟩ := hu.shape
  have hub : ∀ g, (Value.slice au ps.length cu).ownBlock = some g → g < W.heap.size := fun g e => (World.ownsRow.lt hu g e).2
  obtain ⟨W2, hW2⟩ : ∃ W2, W2 = (W.alloc (.cells #[.slice au ps.length cu] 26)).alloc (.cells #[.slice none 0 0] 32) := ⟨_, rfl⟩
  have hsz2 : W2.heap.size = W.heap.size + 2 := by rw [hW2]; simp
  have hb2 : Below W.heap.size W W2 := by rw [hW2]; exact ((Below.refl _ W).alloc (Nat.le_refl _) _).alloc (by simp) _
  have hbp : Boxed W2 W.heap.size 26 (.slice au ps.length cu) := by rw [hW2]; exact (Boxed.new W _ _).alloc _
  have hbh : Boxed W2 (W.heap.size + 1) 32 (.slice none 0 0) := by
    rw [hW2]
    have := Boxed.new (W.alloc (.cells #[.slice au ps.length cu] 26)) 32 (.slice none 0 0)
    rwa [World.size_alloc] at this
  have hu2 : Own W2 B (.slice au ps.length cu) ps := hu.below hb2
  have CS0 : Hid (Calls Try.prog 76 #[.int .i64 f, .slice none 0 0, .pointer (some ⟨W.heap.size, 0, none⟩), .pointer (some ⟨W.heap.size + 1, 0, none⟩)] W2 fun e W' => (∃ r, e = .returned r) ∧ (∃ vh', HopS W' (W.heap.size + 1) vh' (sprd ps f 0)) ∧ Since (W.heap.size + 1) W2 W') := by
    have t := send_any W2 W.heap.size (W.heap.size + 1) B _ _ (.slice none 0 0) ps [] f [] hbp (by omega) hu2 (fun g e => by have := hub g e; omega) ⟨hbh, OwnHop.nil _ _⟩ hf hn2 (by simp) ⟨none, 0, rfl, .inl rfl⟩ (by simp) (fun g o n c e => by cases e)
    rw [List.nil_append, kidsT_start] at t
    exact t
  have CS1 : Hid (∀ (w' : World) (vh : Value) (k : Nat) (hk : k < (sprd ps f k).length), HopS w' (W.heap.size + 1) vh (sprd ps f k) → Since (W.heap.size + 1) W2 w' → Calls Try.prog 76 #[.int .i64 (sprd ps f k)[k].To, .slice (some ⟨w'.heap.size, 0, none⟩) 1 1, .pointer (some ⟨W.heap.size, 0, none⟩), .pointer (some ⟨W.heap.size + 1, 0, none⟩)] (w'.alloc (.cells #[.int .i64 (sprd ps f k)[k].From] 3)) fun e W' => (∃ r, e = .returned r) ∧ (∃ vh', HopS W' (W.heap.size + 1) vh' (sprd ps f (k + 1))) ∧ Since (W.heap.size + 1) W2 W') := fun w' vh k hk hh hs => by
    have hb1 : Below w'.heap.size w' (w'.alloc (.cells #[.int .i64 (sprd ps f k)[k].From] 3)) := (Below.refl _ w').alloc (Nat.le_refl _) _
    have hs1 := hs.step hb1
    have hx := (sprd_ok hg hf.1 hf.2 k).ok _ (List.getElem_mem hk)
    have hln := sprd_len hg hf.1 hf.2 k
    have hvl : ∀ g, vh.ownBlock = some g → g < w'.heap.size := fun g e => (World.ownsRow.lt hh.2 g e).2
    have t := send_any (w'.alloc (.cells #[.int .i64 (sprd ps f k)[k].From] 3)) W.heap.size (W.heap.size + 1) B (.slice au ps.length cu) vh (.slice (some ⟨w'.heap.size, 0, none⟩) 1 1) ps [(sprd ps f k)[k].From] (sprd ps f k)[k].To (sprd ps f k) ((hs1.1.block _ (by omega)).trans hbp) (by omega) (own_lowT hu2 (fun g e => by have := hub g e; omega) hs1.1) (fun g e => by have := hub g e; omega) ⟨hh.1.alloc _, hh.2.below hb1⟩ hx.1.1 hn2 (by omega)
      ⟨_, _, rfl, .inr ⟨_, 0, rfl, by simp, fun j hj => by
        obtain rfl : j = 0 := by simp at hj; omega
        simp⟩⟩ (by simp) (fun g o n c e => by
          cases e
          exact ⟨by have := hh.1.lt; omega, fun q => by have := hvl _ q; omega⟩)
    rw [kidsT_one, ← sprd_next ps f k hk] at t
    refine t.mono ?_
    rintro e w2 ⟨h1, h2, h3⟩
    exact ⟨h1, h2, ⟨hs1.1.trans h3.1, Nat.le_trans hs1.2 (h3.1.size)⟩⟩
  have HALL : Hid (∀ k, ¬ k < (sprd ps f k).length → sprd ps f k = spreadD ps f) := sprd_all hg hf.1 hf.2
  have HLEN : Hid (∀ k, (sprd ps f k).length + 1 ≤ ps.length) := sprd_len hg hf.1 hf.2
  generalize spreadD ps f = sD at *
  obtain ⟨sp, hsp⟩ : ∃ sp, sp = sprd ps f := ⟨_, rfl⟩
  rw [← hsp] at CS0 CS1 HALL HLEN
  have HB2 : Hid (Below W.heap.size W W2) := hb2
  clear hg hf hu hub hb2 hbp hbh hu2 hsp
  have HW2 : Hid ((W.alloc (.cells #[.slice au ps.length cu] 26)).alloc (.cells #[.slice none 0 0] 32) = W2) := hW2.symm
  clear hW2
  go_enter Try.func48, Try.ntmps48
  go_wp2_with fail
  rw [HW2.out]
  refine CS0.out.mono ?_
  rintro e w3 ⟨⟨r3, rfl⟩, h3⟩
  have H3 : Hid ((∃ vh', HopS w3 (W.heap.size + 1) vh' (sp 0)) ∧ Since (W.heap.size + 1) W2 w3) := h3
  clear h3 CS0
  go_wp2
  go_loopw [7] (fun t wr => ∃ k : Nat, k ≤ ps.length ∧ t = .int .i64 k ∧ Hid ((∃ vh', HopS wr (W.heap.size + 1) vh' (sp k)) ∧ Since (W.heap.size + 1) W2 wr)) (fun t _ => ps.length - (intOf t).toNat)
  case atStart => exact ⟨0, Nat.zero_le _, rfl, H3.out⟩
  case round =>
    clear H3
    obtain ⟨k, hk, rfl, HI⟩ := hrel
    obtain ⟨⟨vh, hh⟩, hs⟩ := HI.out
    obtain ⟨a2, c2, rfl⟩ := hh.2.shape
    have hcb := hh.1.cell
    have hln := HLEN.out k
    have HH : Hid (HopS wr (W.heap.size + 1) (.slice a2 (sp k).length c2) (sp k) ∧ Since (W.heap.size + 1) W2 wr) := ⟨hh, hs⟩
    by_cases hlt : k < (sp k).length
    · have hlt' : (k : Int) < ((sp k).length : Int) := by omega
      have hl64 : (sp k).length ≤ 12 := by omega
      obtain ⟨hgb, rfl, hcf, hct⟩ : ∃ g, a2 = some ⟨g, 0, none⟩ ∧ wr.drew.cell? ⟨g, k * 2, none⟩ = some (.int .i64 (sp k)[k].From) ∧ wr.drew.cell? ⟨g, k * 2 + 1, none⟩ = some (.int .i64 (sp k)[k].To) := by
        obtain ⟨a, cap, hv, hc⟩ := hh.2.reads
        rcases hc with e0 | ⟨g, off, rfl, hg, hcell⟩
        · rw [e0] at hlt; simp at hlt
        · have h1 := hcell k hlt
          rcases hh.2.2 with ⟨hv2, -⟩ | ⟨g2, cap2, cur2, hv2, -⟩
          · injection hv2 with q1 q2 q3; omega
          · cases hv2
            cases hv
            refine ⟨g, rfl, ?_, ?_⟩
            · have := h1.1; rwa [Nat.zero_add] at this
            · have := h1.2; rwa [Nat.zero_add] at this
      have CS2 : Hid (Calls Try.prog 76 #[.int .i64 (sp k)[k].To, .slice (some ⟨wr.heap.size, 0, none⟩) 1 1, .pointer (some ⟨W.heap.size, 0, none⟩), .pointer (some ⟨W.heap.size + 1, 0, none⟩)] (wr.drew.alloc (.cells #[.int .i64 (sp k)[k].From] 3)) fun e W' => (∃ r, e = .returned r) ∧ (∃ vh', HopS W' (W.heap.size + 1) vh' (sp (k + 1))) ∧ Since (W.heap.size + 1) W2 W') := CS1.out wr.drew _ k hlt ⟨hh.1, hh.2⟩ hs.drew
      have hcd : wr.drew.cell? ⟨W.heap.size + 1, 0, none⟩ = some (.slice (some ⟨hgb, 0, none⟩) (sp k).length c2) := hcb
      generalize (sp k)[k].From = xf at *
      generalize (sp k)[k].To = xt at *
      clear hh hs HI CS1 HALL HLEN HH
      generalize (sp k).length = ln at *
      go_wp2
      refine (wpIn_wide (n := 9)).1 ?_
      refine region_outRound (S := (fun w' : World => w'.cell? ⟨W.heap.size + 1, 0, none⟩ = some (.slice (some ⟨hgb, 0, none⟩) ln c2) ∧ w'.cell? ⟨hgb, k * 2, none⟩ = some (.int .i64 xf) ∧ w'.cell? ⟨hgb, k * 2 + 1, none⟩ = some (.int .i64 xt))) 12 (by kernel_rfl) ?_ (fun hHeld => ?_)
      · exact ⟨hcd, hcf, hct⟩
      refine roundRead 0 (some 18) (.func (.func 76) #[] #[.pointer (some ⟨W.heap.size, 0, none⟩), .pointer (some ⟨W.heap.size + 1, 0, none⟩)]) rfl rfl (by kernel_rfl) (by kernel_rfl) (by kernel_rfl) (by kernel_rfl) (fun _ _ _ h => h) (by kernel_rfl) (by assumption) ?_ ?_
      · intro w hSw
        (try dsimp only at hSw)
        go_simp
      simp only [Act.put, List.setIfInBounds_toArray, List.set_cons_zero, List.set_cons_succ]
      refine roundRead 1 (some 19) (.slice (some ⟨hgb, 0, none⟩) ln c2) rfl rfl (by kernel_rfl) (by kernel_rfl) (by kernel_rfl) (by kernel_rfl) (fun _ _ _ h => h) (by kernel_rfl) (by assumption) ?_ ?_
      · intro w hSw
        (try dsimp only at hSw)
        go_simp
      simp only [Act.put, List.setIfInBounds_toArray, List.set_cons_zero, List.set_cons_succ]
      refine roundRead 2 (some 20) (.int .i64 (k : Int)) rfl rfl (by kernel_rfl) (by kernel_rfl) (by kernel_rfl) (by kernel_rfl) (fun _ _ _ h => h) (by kernel_rfl) (by assumption) ?_ ?_
      · intro w hSw
        (try dsimp only at hSw)
        go_simp
      simp only [Act.put, List.setIfInBounds_toArray, List.set_cons_zero, List.set_cons_succ]
      refine roundRead 3 (some 21) (.pointer (some ⟨hgb, k * 2, none⟩)) rfl rfl (by kernel_rfl) (by kernel_rfl) (by kernel_rfl) (by kernel_rfl) (fun _ _ _ h => h) (by kernel_rfl) (by assumption) ?_ ?_
      · intro w hSw
        (try dsimp only at hSw)
        go_simp
      simp only [Act.put, List.setIfInBounds_toArray, List.set_cons_zero, List.set_cons_succ]
      refine roundRead 4 (some 22) (.pointer (some ⟨hgb, k * 2 + 1, none⟩)) rfl rfl (by kernel_rfl) (by kernel_rfl) (by kernel_rfl) (by kernel_rfl) (fun _ _ _ h => h) (by kernel_rfl) (by assumption) ?_ ?_
      · intro w hSw
        (try dsimp only at hSw)
        go_simp
      simp only [Act.put, List.setIfInBounds_toArray, List.set_cons_zero, List.set_cons_succ]
      refine roundRead 5 (some 23) (.int .i64 xt) rfl rfl (by kernel_rfl) (by kernel_rfl) (by kernel_rfl) (by kernel_rfl) (fun _ _ _ h => h) (by kernel_rfl) (by assumption) ?_ ?_
      · intro w hSw
        (try dsimp only at hSw)
        go_simp
      simp only [Act.put, List.setIfInBounds_toArray, List.set_cons_zero, List.set_cons_succ]
      refine roundRead 6 (some 24) (.slice (some ⟨hgb, 0, none⟩) ln c2) rfl rfl (by kernel_rfl) (by kernel_rfl) (by kernel_rfl) (by kernel_rfl) (fun _ _ _ h => h) (by kernel_rfl) (by assumption) ?_ ?_
      · intro w hSw
        (try dsimp only at hSw)
        go_simp
      simp only [Act.put, List.setIfInBounds_toArray, List.set_cons_zero, List.set_cons_succ]
      refine roundRead 7 (some 25) (.int .i64 (k : Int)) rfl rfl (by kernel_rfl) (by kernel_rfl) (by kernel_rfl) (by kernel_rfl) (fun _ _ _ h => h) (by kernel_rfl) (by assumption) ?_ ?_
      · intro w hSw
        (try dsimp only at hSw)
        go_simp
      simp only [Act.put, List.setIfInBounds_toArray, List.set_cons_zero, List.set_cons_succ]
      refine roundRead 8 (some 26) (.pointer (some ⟨hgb, k * 2, none⟩)) rfl rfl (by kernel_rfl) (by kernel_rfl) (by kernel_rfl) (by kernel_rfl) (fun _ _ _ h => h) (by kernel_rfl) (by assumption) ?_ ?_
      · intro w hSw
        (try dsimp only at hSw)
        go_simp
      simp only [Act.put, List.setIfInBounds_toArray, List.set_cons_zero, List.set_cons_succ]
      refine roundRead 9 (some 27) (.pointer (some ⟨hgb, k * 2, none⟩)) rfl rfl (by kernel_rfl) (by kernel_rfl) (by kernel_rfl) (by kernel_rfl) (fun _ _ _ h => h) (by kernel_rfl) (by assumption) ?_ ?_
      · intro w hSw
        (try dsimp only at hSw)
        go_simp
      simp only [Act.put, List.setIfInBounds_toArray, List.set_cons_zero, List.set_cons_succ]
      refine roundRead 10 (some 28) (.int .i64 xf) rfl rfl (by kernel_rfl) (by kernel_rfl) (by kernel_rfl) (by kernel_rfl) (fun _ _ _ h => h) (by kernel_rfl) (by assumption) ?_ ?_
      · intro w hSw
        (try dsimp only at hSw)
        go_simp
      simp only [Act.put, List.setIfInBounds_toArray, List.set_cons_zero, List.set_cons_succ]
      refine roundValueS 11 (some 29) (.slice (some ⟨wr.heap.size, 0, none⟩) 1 1) (wr.drew.alloc (.cells #[.int .i64 xf] 3)) (by kernel_rfl) rfl rfl ⟨(World.cell?_alloc_lt _ _ _ (World.block_lt_of_cell? wr.drew _ hcd)).trans hcd, (World.cell?_alloc_lt _ _ _ (World.block_lt_of_cell? wr.drew _ hcf)).trans hcf, (World.cell?_alloc_lt _ _ _ (World.block_lt_of_cell? wr.drew _ hct)).trans hct⟩ (by kernel_rfl) (by go_simp) ?_
      simp only [Act.put, List.setIfInBounds_toArray, List.set_cons_zero, List.set_cons_succ]
      refine roundCallY 12 (some 30) 76 #[.int .i64 xt, .slice (some ⟨wr.heap.size, 0, none⟩) 1 1, .pointer (some ⟨W.heap.size, 0, none⟩), .pointer (some ⟨W.heap.size + 1, 0, none⟩)] (by kernel_rfl) rfl rfl (by kernel_rfl) (by kernel_rfl) (by simp [go_sem]) (CS2.out.mono ?_)
      rintro e wq ⟨⟨rq, rfl⟩, hq⟩
      have HF : Hid ((∃ vh', HopS wq (W.heap.size + 1) vh' (sp (k + 1))) ∧ Since (W.heap.size + 1) W2 wq) := hq
      clear hq
      refine ⟨_, rfl, ?_⟩
      simp only [Act.put, List.setIfInBounds_toArray, List.set_cons_zero, List.set_cons_succ]
      refine wpAnyR.done (by kernel_rfl) ?_ _
      clear hHeld CS2 hcd hcf hct hcb
      go_wp2
      go_roundw
      case rel => exact ⟨k + 1, by omega, by go_num, HF.out⟩
      case measure => simp [intOf]; omega
    · have HE : Hid (OwnHop wr W.heap.size (.slice a2 (sp k).length c2) sD ∧ Below W.heap.size W wr) := ⟨by rw [← HALL.out k hlt]; exact HH.out.1.2.mono (by omega), HB2.out.trans (HH.out.2.1.mono (by omega))⟩
      clear hh hs HI CS1 HALL HLEN HH
      generalize (sp k).length = ln at *
      go_wp2
      go_ret
      exact ⟨_, rfl, HE.out.1, HE.out.2⟩

def spOk (ps : List Int) (f : Int) : Bool := goodU ps && decide (0 ≤ f ∧ f < (ps.length : Int))
def spOut (ps : List Int) (f : Int) : List HopD := if spOk ps f then spreadD ps f else []
theorem spOk_true {ps : List Int} {f : Int} (h : spOk ps f = true) : goodU ps = true ∧ 0 ≤ f ∧ f < (ps.length : Int) := by
  unfold spOk at h
  rw [Bool.and_eq_true] at h
  exact ⟨h.1, of_decide_eq_true h.2⟩
theorem spotsOn_one (ps : List Int) (f : Int) : spotsOn ps [f] = spOk ps f := by
  unfold spotsOn spOk noneIn
  simp
theorem spOut_len (ps : List Int) (f : Int) : (spOut ps f).length ≤ 4194304 := by
  unfold spOut
  split
  · next h =>
    have h1 := spOk_true h
    have := sprd_len h1.1 h1.2.1 h1.2.2 ps.length
    have := ((goodU_iff ps).1 h1.1).1
    unfold spreadD
    omega
  · simp
def HopPost (W : World) (out : List HopD) (ok : Bool) (e : Ending) (W' : World) : Prop := ∃ u, e = .returned (.tuple #[u, .bool ok]) ∧ OwnHop W' W.heap.size u out ∧ Below W.heap.size W W'

set_option maxRecDepth 100000 in
set_option maxHeartbeats 4000000 in
theorem implSpreadOn_any (W : World) (B : Nat) (u : Value) (ps : List Int) (f : Int) (hu : Own W B u ps) (hl : ps.length ≤ 1048576) :
    Calls Try.prog 11 #[u, .int .i64 f] W (HopPost W (spOut ps f) (spOk ps f)) := by
  have hb1 : Below W.heap.size W (W.alloc (.cells #[.int .i64 f] 3)) := (Below.refl _ W).alloc (Nat.le_refl _) _
  have CG : Hid (Calls Try.prog 47 #[u, .slice (some ⟨W.heap.size, 0, none⟩) 1 1] (W.alloc (.cells #[.int .i64 f] 3)) fun e W' => e = .returned (.bool (spOk ps f)) ∧ Below (W.alloc (.cells #[.int .i64 f] 3)).heap.size (W.alloc (.cells #[.int .i64 f] 3)) W') := by
    have t := areSpotsOn_any (W.alloc (.cells #[.int .i64 f] 3)) B u (.slice (some ⟨W.heap.size, 0, none⟩) 1 1) ps [f] (hu.below hb1) hl ⟨_, _, rfl, .inr ⟨_, 0, rfl, by simp, fun j hj => by
      obtain rfl : j = 0 := by simp at hj; omega
      simp⟩⟩ (by simp)
    rw [spotsOn_one] at t
    exact t
  have HB1 : Hid (Below W.heap.size W (W.alloc (.cells #[.int .i64 f] 3)) ∧ (W.alloc (.cells #[.int .i64 f] 3)).heap.size = W.heap.size + 1) := ⟨hb1, by simp⟩
  have CS : Hid (spOk ps f = true → ∀ w', Below W.heap.size W w' → Calls Try.prog 48 #[u, .int .i64 f] w' fun e w2 => ∃ v, e = .returned v ∧ OwnHop w2 w'.heap.size v (spreadD ps f) ∧ Below w'.heap.size w' w2) := fun h w' hb => spreadOn_any w' B u ps f (hu.below hb) (spOk_true h).1 (spOk_true h).2
  have HD : Hid (spOut ps f = if spOk ps f then spreadD ps f else []) := rfl
  obtain ⟨au, cu, rfl⟩ := hu.shape
  generalize spOut ps f = out at *
  generalize spOk ps f = ok at *
  clear hu hb1
  cases ok with
  | false =>
    have HF : Hid (out = []) := HD.out
    clear HD CS
    go_enter Try.func11, Try.ntmps11
    go_wp2_with fail
    refine CG.out.mono ?_
    rintro e w1 ⟨rfl, hb2⟩
    have H2 : Hid (Below W.heap.size W w1) := HB1.out.1.trans (hb2.mono (by have := HB1.out.2; omega))
    clear hb2
    go_wp2
    refine bodyPost_ret (results_tmp2 rfl _ _ _) rfl ?_
    exact ⟨_, rfl, by rw [HF.out]; exact OwnHop.nil _ _, H2.out⟩
  | true =>
    have HF : Hid (out = spreadD ps f) := HD.out
    have CS1 : Hid (∀ w', Below W.heap.size W w' → Calls Try.prog 48 #[.slice au ps.length cu, .int .i64 f] w' fun e w2 => ∃ v, e = .returned v ∧ OwnHop w2 w'.heap.size v (spreadD ps f) ∧ Below w'.heap.size w' w2) := CS.out rfl
    clear HD CS
    go_enter Try.func11, Try.ntmps11
    go_wp2_with fail
    refine CG.out.mono ?_
    rintro e w1 ⟨rfl, hb2⟩
    have H2 : Hid (Below W.heap.size W w1) := HB1.out.1.trans (hb2.mono (by have := HB1.out.2; omega))
    clear hb2
    go_wp2_with fail
    refine (CS1.out w1 H2.out).mono ?_
    rintro e w3 ⟨u3, rfl, ho3, hb3⟩
    have H3 : Hid (OwnHop w3 W.heap.size u3 (spreadD ps f) ∧ Below W.heap.size W w3) := ⟨ho3.mono H2.out.size, H2.out.trans (hb3.mono H2.out.size)⟩
    obtain ⟨a3, c3, rfl⟩ := ho3.shape
    clear ho3 hb3
    go_wp2
    refine bodyPost_ret (results_tmp2 rfl _ _ _) rfl ?_
    exact ⟨_, rfl, by rw [HF.out]; exact H3.out.1, H3.out.2⟩
end Go.Proofs.Ythlbmkefjjckaad
