/-
  'costOver': what an iterator over steps costs.
-/
import Derived.Test.YthlbmkefjjckaacGrRelax
import Derived.Test.YthlbmkefjjckaacGrFars
namespace Go.Proofs.Ythlbmkefjjckaac
open Go.RowKit
set_option linter.unusedVariables false
attribute [local go_sem] Oper.semAt_some wide_fn

/-- What steps cost together, and whether each of them costs something. -/
def sumX (l : List EdD) : List (Int × Int) → Int
  | [] => 0
  | x :: r => costB l x.1 x.2 + sumX l r
def okX (l : List EdD) (xs : List (Int × Int)) : Bool := xs.all fun x => decide (costB l x.1 x.2 ≠ 0)
theorem sumX_app (l : List EdD) : ∀ p q : List (Int × Int), sumX l (p ++ q) = sumX l p + sumX l q
  | [], q => by simp [sumX]
  | x :: p, q => by rw [List.cons_append, sumX, sumX, sumX_app l p q]; omega
theorem sumX_snoc (l : List EdD) (p : List (Int × Int)) (x : Int × Int) : sumX l (p ++ [x]) = sumX l p + costB l x.1 x.2 := by rw [sumX_app]; simp [sumX]
theorem okX_snoc (l : List EdD) (p : List (Int × Int)) (x : Int × Int) : okX l (p ++ [x]) = (okX l p && decide (costB l x.1 x.2 ≠ 0)) := by simp [okX]
theorem okX_no (l : List EdD) {p xs : List (Int × Int)} {x : Int × Int} (h : p ++ [x] <+: xs) (h0 : costB l x.1 x.2 = 0) : okX l xs = false := by
  obtain ⟨t, rfl⟩ := h
  unfold okX
  simp [List.all_append, h0]
theorem sumX_low {n : Int} {l : List EdD} (hf : FitEd n l) : ∀ p : List (Int × Int), 0 ≤ sumX l p ∧ sumX l p ≤ 100 * p.length
  | [] => by simp [sumX]
  | x :: p => by
    have h1 := sumX_low hf p
    have h2 := costB_low hf x.1 x.2
    rw [sumX, List.length_cons]
    omega
def CostPost (W : World) (z : Int) (ok : Bool) (e : Ending) (W' : World) : Prop := e = .returned (.tuple #[.int .i64 z, .bool ok]) ∧ Below W.heap.size W W'
theorem resCost (tmps : Array Value) (W : World) (b4 b5 : Nat) (z : Int) (q : Bool) (h4 : tmps[4]?.getD undef = .pointer (some ⟨b4, 0, none⟩)) (h5 : tmps[5]?.getD undef = .pointer (some ⟨b5, 0, none⟩)) (c4 : W.cell? ⟨b4, 0, none⟩ = some (.int .i64 z)) (c5 : W.cell? ⟨b5, 0, none⟩ = some (.bool q)) :
    (results Try.f117 tmps).run Try.prog W = .ok (.tuple #[.int .i64 z, .bool q]) W := by
  simp [results, Try.f117, go_sem, h4, h5, c4, c5]
/-- What lies in the cells when so many steps have come. -/
def CostI (l : List EdD) (W : World) (b6 : Nat) (v : Value) (pre : List (Int × Int)) (w : World) : Prop :=
  Boxed w W.heap.size 54 v ∧ Boxed w (W.heap.size + 1) 3 (.int .i64 0) ∧ Boxed w (W.heap.size + 1 + 1) 4 (.bool false) ∧ Boxed w b6 3 (.int .i64 (sumX l pre)) ∧ okX l pre = true ∧ Since W.heap.size W w
theorem fin2 {W w : World} {b6 b7 : Nat} {x y : Value} {z : Int} {q : Bool} (h6 : Boxed w b6 3 x) (h7 : Boxed w b7 4 y) (hne : b6 ≠ b7) (hb : Below W.heap.size W w) (l6 : W.heap.size ≤ b6) (l7 : W.heap.size ≤ b7) :
    ((w.setCell ⟨b6, 0, none⟩ (.int .i64 z)).setCell ⟨b7, 0, none⟩ (.bool q)).cell? ⟨b6, 0, none⟩ = some (.int .i64 z) ∧ ((w.setCell ⟨b6, 0, none⟩ (.int .i64 z)).setCell ⟨b7, 0, none⟩ (.bool q)).cell? ⟨b7, 0, none⟩ = some (.bool q) ∧ Below W.heap.size W ((w.setCell ⟨b6, 0, none⟩ (.int .i64 z)).setCell ⟨b7, 0, none⟩ (.bool q)) :=
  ⟨((h6.set (.int .i64 z)).other hne (.bool q)).cell, ((h7.other (Ne.symm hne) (.int .i64 z)).set (.bool q)).cell, (hb.setCell (p := ⟨b6, 0, none⟩) l6 _).setCell (p := ⟨b7, 0, none⟩) l7 _⟩


set_option maxRecDepth 100000 in
set_option maxHeartbeats 8000000 in
theorem costOver_any (W : World) (v : Value) (n : Int) (l : List EdD) (gf : Nat) (lb : Array Value) (S : Nat → Prop) (xs : List (Int × Int)) (h : ReadsEd W v l) (hf : FitEd n l) (hl : l.length ≤ 2097152)
    (heg : ∀ args w, (callFunc gf args).run Try.prog w = .ok (.enter gf args) w) (hseq : SeqO Try.prog gf lb (fun p : Int × Int => #[.int .i64 p.1, .int .i64 p.2]) S xs W) (hS : ∀ b, S b → b < W.heap.size) (hxl : xs.length ≤ 1000000) :
    Calls Try.prog 117 #[v, .func (.func gf) #[] lb] W (CostPost W (if okX l xs then sumX l xs else 0) (okX l xs)) := by
  have CB : Hid (∀ (w' : World) (x y : Int), Since W.heap.size W w' → Calls Try.prog 137 #[v, .int .i64 x, .int .i64 y] w' fun e w2 => e = .returned (.int .i64 (costB l x y)) ∧ Below w'.heap.size w' w2) := fun w' x y hs => costB_any w' v l x y (h.below hs.1) hl
  have HLOW : Hid ((∀ x y, 0 ≤ costB l x y ∧ costB l x y ≤ 100) ∧ ∀ p : List (Int × Int), 0 ≤ sumX l p ∧ sumX l p ≤ 100 * p.length) := ⟨fun x y => costB_low hf x y, sumX_low hf⟩
  obtain ⟨a1, c1, rfl⟩ := h.shape
  clear h
  obtain ⟨out, hout⟩ : ∃ out, out = if okX l xs then sumX l xs else 0 := ⟨_, rfl⟩
  have HOUT : Hid ((okX l xs = true → out = sumX l xs) ∧ (okX l xs = false → out = 0)) := ⟨fun e => by rw [hout, e]; rfl, fun e => by rw [hout, e]; rfl⟩
  rw [← hout]
  clear hout
  refine callsIn_wide (n := 9) |>.1 ?_
  refine callsIn_of_wp_marks Try.func117 rfl trivial ?_ rfl
  simp only [Try.ntmps117, List.size_toArray, List.length_cons, List.length_nil, Nat.reduceAdd, Nat.reduceSub, Array.replicate_succ, Array.replicate_zero, List.push_toArray, List.append_toArray, List.nil_append, List.cons_append]
  gi_wp2
  obtain ⟨W2, hW2⟩ : ∃ W2, W2 = (((W.alloc (.cells #[.slice a1 l.length c1] 54)).alloc (.cells #[.int .i64 0] 3)).alloc (.cells #[.bool false] 4)).alloc (.cells #[.int .i64 0] 3) := ⟨_, rfl⟩
  have hsz : W2.heap.size = W.heap.size + 4 := by rw [hW2]; simp
  have S2 : Since W.heap.size W W2 := by
    rw [hW2]
    exact ⟨((((Below.refl _ W).alloc (Nat.le_refl _) _).alloc (by simp) _).alloc (by simp; omega) _).alloc (by simp; omega) _, by simp; omega⟩
  have D4 : Boxed W2 W.heap.size 54 (.slice a1 l.length c1) := by rw [hW2]; exact (((Boxed.new W _ _).alloc _).alloc _).alloc _
  have D6 : Boxed W2 (W.heap.size + 1) 3 (.int .i64 0) := by
    rw [hW2]
    have := ((Boxed.new (W.alloc (.cells #[.slice a1 l.length c1] 54)) 3 (.int .i64 0)).alloc (.cells #[.bool false] 4)).alloc (.cells #[.int .i64 0] 3)
    rwa [World.size_alloc] at this
  have D7 : Boxed W2 (W.heap.size + 1 + 1) 4 (.bool false) := by
    rw [hW2]
    have := (Boxed.new ((W.alloc (.cells #[.slice a1 l.length c1] 54)).alloc (.cells #[.int .i64 0] 3)) 4 (.bool false)).alloc (.cells #[.int .i64 0] 3)
    rwa [World.size_alloc, World.size_alloc] at this
  have H8 : Boxed W2 (W.heap.size + 1 + 1 + 1) 3 (.int .i64 0) := by
    rw [hW2]
    have := Boxed.new (((W.alloc (.cells #[.slice a1 l.length c1] 54)).alloc (.cells #[.int .i64 0] 3)).alloc (.cells #[.bool false] 4)) 3 (.int .i64 0)
    rwa [World.size_alloc, World.size_alloc, World.size_alloc] at this
  rw [← hW2]
  clear hW2
  have h00 : CostI l W (W.heap.size + 1 + 1 + 1) (.slice a1 l.length c1) [] W2 := ⟨D4, D6, D7, H8, rfl, S2⟩
  refine wp_range (w0 := W) (xs := xs) (encs := fun p : Int × Int => #[.int .i64 p.1, .int .i64 p.2]) (S := S) (gf := gf) (lb := lb) rfl heg hseq S2.1
    (CostI l W (W.heap.size + 1 + 1 + 1) (.slice a1 l.length c1)) (fun w b => (b = W.heap.size + 1 ∨ b = W.heap.size + 1 + 1 ∨ b = W.heap.size + 1 + 1 + 1) ∧ b < w.heap.size) ⟨fun _ _ _ _ h => h.2, fun _ X Y row b _ hX _ _ h => ⟨h.1, by have := h.1; omega⟩⟩
    (fun b hb q => by have := q.1; have := hS b hb; omega) (fun _ => rfl)
    (fun c pre w => c = .ret ∧ Boxed w (W.heap.size + 1) 3 (.int .i64 0) ∧ Boxed w (W.heap.size + 1 + 1) 4 (.bool false) ∧ okX l xs = false ∧ Since W.heap.size W w)
    (fun s X Y row hs hg hr => ⟨boxed_own (β := Unit) _ _ (fun _ => _) () X Y row hs.1 hg (fun r e => (hr r e).2), boxed_own (β := Unit) _ _ (fun _ => _) () X Y row hs.2.1 hg (fun r e => (hr r e).2), boxed_own (β := Unit) _ _ (fun _ => _) () X Y row hs.2.2.1 hg (fun r e => (hr r e).2), boxed_own (β := Unit) _ _ (fun _ => _) () X Y row hs.2.2.2.1 hg (fun r e => (hr r e).2), hs.2.2.2.2.1, since_from (β := Unit) (Nat.le_refl _) (by omega) () X Y row hs.2.2.2.2.2 hg hr⟩)
    (fun c s X Y row hs hg hr => ⟨hs.1, boxed_own (β := Unit) _ _ (fun _ => _) () X Y row hs.2.1 hg (fun r e => (hr r e).2), boxed_own (β := Unit) _ _ (fun _ => _) () X Y row hs.2.2.1 hg (fun r e => (hr r e).2), hs.2.2.2.1, since_from (β := Unit) (Nat.le_refl _) (by omega) () X Y row hs.2.2.2.2 hg hr⟩)
    h00
    (fun x => { tmps := #[.slice a1 l.length c1, .func (.func gf) #[] lb, .pointer (some ⟨W.heap.size, 0, none⟩), undef, .pointer (some ⟨W.heap.size + 1, 0, none⟩), .pointer (some ⟨W.heap.size + 1 + 1, 0, none⟩), .pointer (some ⟨W.heap.size + 1 + 1 + 1, 0, none⟩), .int .i64 x.1, .int .i64 x.2, undef, .func (.func gf) #[] lb, .int .i64 x.1, .int .i64 x.2, undef, undef, undef, undef, undef, undef, undef, undef, undef, undef], defers := [] }) ?assign ?body ?done ?stop
  case assign =>
    intro l2 x Wx K hK
    gi_wp2
    exact hK
  case body =>
    rintro l2 pre ⟨x, y⟩ wr ⟨E4, E6, E7, E8, hok, hs⟩ hpre hsx
    have hlen : pre.length ≤ 1000000 := by
      have := hpre.length_le
      simp at this
      omega
    have hlow := HLOW.out.1 x y
    have hsum := HLOW.out.2 pre
    have HNO : Hid (costB l x y = 0 → okX l xs = false) := okX_no l hpre
    have HSN : Hid (sumX l (pre ++ [(x, y)]) = sumX l pre + costB l x y ∧ okX l (pre ++ [(x, y)]) = (okX l pre && decide (costB l x y ≠ 0))) := ⟨sumX_snoc l pre (x, y), okX_snoc l pre (x, y)⟩
    have CB1 : Hid (Calls Try.prog 137 #[.slice a1 l.length c1, .int .i64 x, .int .i64 y] wr fun e w2 => e = .returned (.int .i64 (costB l x y)) ∧ Below wr.heap.size wr w2) := CB.out wr x y hs
    have k4 := E4.cell
    clear hpre
    generalize costB l x y = c at *
    obtain ⟨sm, hsm⟩ : ∃ sm, sm = sumX l pre := ⟨_, rfl⟩
    rw [← hsm] at E8 hsum
    refine wpIn_block ?_
    by_cases hc : c = 0
    · have HNO1 : Hid (okX l xs = false) := HNO.out hc
      have t1 : (c == 0) = true := by simpa using hc
      clear hc HNO HSN
      gi_wp2_with (gi_at_call 137; refine (CallsIn.inRound l2 (callsIn_wide.2 CB1.out)).mono ?_; rintro e w5 ⟨rfl, hb5⟩; have HB5 : Hid (Boxed w5 (W.heap.size + 1) 3 (.int .i64 0) ∧ Boxed w5 (W.heap.size + 1 + 1) 4 (.bool false) ∧ Since W.heap.size W w5 ∧ Below wr.heap.size wr w5) := ⟨(hb5.block _ E6.lt).trans E6, (hb5.block _ E7.lt).trans E7, hs.step hb5, hb5⟩; have k6 := HB5.out.1.cell; have f6 := HB5.out.1.frozen; have k7 := HB5.out.2.1.cell; have f7 := HB5.out.2.1.frozen; clear hb5)
      refine ⟨(KeepsOthers.of_grownBy (below_grown HB5.out.2.2.2) (fun j o e => by cases e)).from _ |>.trans (((KeepsOthers.setCell _ _ _).trans (KeepsOthers.setCell _ _ _)).from _), rfl, ((HB5.out.1.set _).other (by omega) _), ((HB5.out.2.1.other (by omega) _).set _), HNO1.out, ⟨(HB5.out.2.2.1.1.setCell (p := ⟨_, 0, none⟩) (by show W.heap.size ≤ W.heap.size + 1; omega) _).setCell (p := ⟨_, 0, none⟩) (by show W.heap.size ≤ W.heap.size + 1 + 1; omega) _, by have := HB5.out.2.2.1.2; simpa [World.setCell] using this⟩⟩
    · have t1 : (c == 0) = false := by simpa using hc
      have hwr : IntKind.i64.wrap (sm + c) = sm + c := by rw [IntKind.wrap_i64]; omega
      have HOK : Hid (okX l (pre ++ [(x, y)]) = true) := by
        show _ = _
        rw [HSN.out.2, hok, decide_eq_true hc]
        rfl
      have HSM : Hid (sumX l (pre ++ [(x, y)]) = sm + c) := by
        show _ = _
        rw [HSN.out.1, ← hsm]
      clear hc hsm HNO HSN
      gi_wp2_with (gi_at_call 137; refine (CallsIn.inRound l2 (callsIn_wide.2 CB1.out)).mono ?_; rintro e w5 ⟨rfl, hb5⟩; have HB5 : Hid (Boxed w5 W.heap.size 54 (.slice a1 l.length c1) ∧ Boxed w5 (W.heap.size + 1) 3 (.int .i64 0) ∧ Boxed w5 (W.heap.size + 1 + 1) 4 (.bool false) ∧ Boxed w5 (W.heap.size + 1 + 1 + 1) 3 (.int .i64 sm) ∧ Since W.heap.size W w5 ∧ Below wr.heap.size wr w5) := ⟨(hb5.block _ E4.lt).trans E4, (hb5.block _ E6.lt).trans E6, (hb5.block _ E7.lt).trans E7, (hb5.block _ E8.lt).trans E8, hs.step hb5, hb5⟩; have k8 := HB5.out.2.2.2.1.cell; have f8 := HB5.out.2.2.2.1.frozen; clear hb5)
      obtain ⟨F4, F6, F7, F8, hs5, hbb⟩ := HB5.out
      refine ⟨(KeepsOthers.of_grownBy (below_grown hbb) (fun j o e => by cases e)).from _ |>.trans ((KeepsOthers.setCell _ _ _).from _), ⟨?_, fun b o hbo hoc hm => ⟨?_, fun q => hm ⟨q.1, (Array.getElem?_eq_some_iff.1 hbo).1⟩⟩⟩, F4.other (by omega) _, F6.other (by omega) _, F7.other (by omega) _, ?_, ?_, ⟨hs5.1.setCell (p := ⟨_, 0, none⟩) (by show W.heap.size ≤ W.heap.size + 1 + 1 + 1; omega) _, by have := hs5.2; simpa [World.setCell] using this⟩⟩
      · have := hbb.size
        simpa [World.setCell] using this
      · have hlt := (Array.getElem?_eq_some_iff.1 hbo).1
        exact (Below.heap_setCell w5 ⟨W.heap.size + 1 + 1 + 1, 0, none⟩ _ b (fun e => hm ⟨.inr (.inr e), hlt⟩)).trans ((hbb.block b hlt).trans hbo)
      · rw [HSM.out]
        exact F8.set _
      · exact HOK.out
  case done =>
    rintro D Wx hD ⟨E4, E6, E7, E8, hok, hs⟩ hd
    have HO : out = sumX l xs := HOUT.out.1 hok
    have k8 := E8.cell
    have k6 := E6.cell
    have f6 := E6.frozen
    have k7 := E7.cell
    have f7 := E7.frozen
    have HE : Hid (Boxed Wx (W.heap.size + 1) 3 (.int .i64 0) ∧ Boxed Wx (W.heap.size + 1 + 1) 4 (.bool false) ∧ Since W.heap.size W Wx ∧ Wx.heap[D]? = some (.deferred (some [])) ∧ okX l xs = true) := ⟨E6, E7, hs, hd, hok⟩
    clear E4 E6 E7 E8 hs hd hok
    gi_wp2
    obtain ⟨E6, E7, hs, hd, hok⟩ := HE.out
    obtain ⟨q6, q7, qb⟩ := fin2 (z := sumX l xs) (q := true) E6 E7 (by omega) hs.1 (by omega) (by omega)
    have hd' := ((KeepsOthers.setCell Wx ⟨W.heap.size + 1, 0, none⟩ (.int .i64 (sumX l xs))).trans (KeepsOthers.setCell _ ⟨W.heap.size + 1 + 1, 0, none⟩ (.bool true))).same D _ hd rfl
    refine ⟨by simp, .inl ⟨_, _, rfl, run_takeDeferred hd', ?_⟩⟩
    have hgp := grownBy_putObj' ((Wx.setCell ⟨W.heap.size + 1, 0, none⟩ (.int .i64 (sumX l xs))).setCell ⟨W.heap.size + 1 + 1, 0, none⟩ (.bool true)) D (.deferred none)
    exact ⟨_, resCost _ _ _ _ _ _ rfl rfl (cell_kept q6 hgp (fun r e => by cases e; exact ⟨_, hd', rfl⟩)) (cell_kept q7 hgp (fun r e => by cases e; exact ⟨_, hd', rfl⟩)), by rw [HO, hok], qb.grown hgp (by have := hs.2; simpa [World.setCell] using this) (fun k e => by cases e; omega)⟩
  case stop =>
    rintro D c pre Wx hD ⟨rfl, E6, E7, hok, hs⟩ hd
    have HO : out = 0 := HOUT.out.2 hok
    have HE : Hid (Boxed Wx (W.heap.size + 1) 3 (.int .i64 0) ∧ Boxed Wx (W.heap.size + 1 + 1) 4 (.bool false) ∧ Since W.heap.size W Wx ∧ Wx.heap[D]? = some (.deferred (some [])) ∧ okX l xs = false) := ⟨E6, E7, hs, hd, hok⟩
    clear E6 E7 hs hd hok
    gi_wp2
    obtain ⟨E6, E7, hs, hd, hok⟩ := HE.out
    refine ⟨by simp, .inl ⟨_, _, rfl, run_takeDeferred hd, ?_⟩⟩
    have hgp := grownBy_putObj' Wx D (.deferred none)
    exact ⟨_, resCost _ _ _ _ _ _ rfl rfl (cell_kept E6.cell hgp (fun r e => by cases e; exact ⟨_, hd, rfl⟩)) (cell_kept E7.cell hgp (fun r e => by cases e; exact ⟨_, hd, rfl⟩)), by rw [HO, hok], hs.1.grown hgp hs.2 (fun k e => by cases e; omega)⟩
end Go.Proofs.Ythlbmkefjjckaac
