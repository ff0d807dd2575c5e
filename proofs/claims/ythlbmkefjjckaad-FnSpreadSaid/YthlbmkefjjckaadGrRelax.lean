/-
  'relaxOnce' of the program.
-/
import Derived.Test.YthlbmkefjjckaadBunB
namespace Go.Proofs.Ythlbmkefjjckaad
open Go.RowKit
set_option linter.unusedVariables false
attribute [local go_sem] Oper.semAt_some wide_fn

/-- Relaxed are those ahead of k. -/
def relK (l : List EdD) (far : List Int) (k : Nat) : List Int := (iota far.length).map fun i : Int => if i < k then relAt l far i else lab far i
theorem relK_len (l : List EdD) (far : List Int) (k : Nat) : (relK l far k).length = far.length := by simp [relK, iota_len]
theorem lab_relK (l : List EdD) (far : List Int) (k : Nat) (i : Int) (h0 : 0 ≤ i) (h : i < far.length) : lab (relK l far k) i = if i < k then relAt l far i else lab far i := by
  unfold relK
  rw [lab_map _ _ _ h0 (by rw [iota_len]; exact h), lab_iota _ _ h0 h]
theorem relK_zero (l : List EdD) (far : List Int) : relK l far 0 = far := lab_ext (relK_len ..) fun i h0 h => by
  rw [relK_len] at h
  rw [lab_relK _ _ _ _ h0 h, if_neg (by omega)]
theorem relK_all (l : List EdD) (far : List Int) : relK l far far.length = relD l far := lab_ext (by rw [relK_len, relD_len]) fun i h0 h => by
  rw [relK_len] at h
  rw [lab_relK _ _ _ _ h0 h, if_pos h, lab_relD _ _ _ h0 h]
/-- What stands at k when so many have come. -/
def relM (far : List Int) (k : Nat) (pre : List (Int × Int)) : Int := pre.foldl (fun m p => min m (lab far p.1 + p.2)) (lab far k)
def relKM (l : List EdD) (far : List Int) (k : Nat) (pre : List (Int × Int)) : List Int := (relK l far k).set k (relM far k pre)
theorem relM_snoc (far : List Int) (k : Nat) (pre : List (Int × Int)) (p : Int × Int) : relM far k (pre ++ [p]) = min (relM far k pre) (lab far p.1 + p.2) := by simp [relM, List.foldl_append]
theorem relKM_len (l : List EdD) (far : List Int) (k : Nat) (pre : List (Int × Int)) : (relKM l far k pre).length = far.length := by simp [relKM, relK_len]
theorem relKM_nil (l : List EdD) (far : List Int) (k : Nat) (hk : k < far.length) : relKM l far k [] = relK l far k := lab_ext (by rw [relKM_len, relK_len]) fun i h0 h => by
  rw [relKM_len] at h
  unfold relKM
  rw [lab_set _ _ _ _ h0 (by rw [relK_len]; exact hk)]
  split
  · next e => rw [e, lab_relK _ _ _ _ (by omega) (by omega), if_neg (by omega)]; rfl
  · rfl
theorem relKM_all (l : List EdD) (far : List Int) (k : Nat) (hk : k < far.length) : relKM l far k (linksD l k) = relK l far (k + 1) := lab_ext (by rw [relKM_len, relK_len]) fun i h0 h => by
  rw [relKM_len] at h
  unfold relKM
  rw [lab_set _ _ _ _ h0 (by rw [relK_len]; exact hk), lab_relK _ _ _ _ h0 h, lab_relK _ _ _ _ h0 h]
  by_cases e : i = k
  · rw [if_pos e, if_pos (by omega), e]; rfl
  · rw [if_neg e]
    by_cases e2 : i < k
    · rw [if_pos e2, if_pos (by omega)]
    · rw [if_neg e2, if_neg (by omega)]
theorem relKM_set (l : List EdD) (far : List Int) (k : Nat) (pre : List (Int × Int)) (p : Int × Int) (m : Int) (h : m = min (relM far k pre) (lab far p.1 + p.2)) : (relKM l far k pre).set k m = relKM l far k (pre ++ [p]) := by
  unfold relKM
  rw [List.set_set, relM_snoc, h]
theorem relKM_at (l : List EdD) (far : List Int) (k : Nat) (pre : List (Int × Int)) (hk : k < far.length) : (relKM l far k pre)[k]'(by rw [relKM_len]; exact hk) = relM far k pre := by
  unfold relKM
  rw [List.getElem_set_self]
theorem relM_low (far : List Int) (k : Nat) (h : ∀ i : Int, 0 ≤ i → i < far.length → 0 ≤ lab far i ∧ lab far i ≤ farC) (hk : k < far.length) : ∀ (pre : List (Int × Int)), (∀ p ∈ pre, (0 ≤ p.1 ∧ p.1 < far.length) ∧ 0 ≤ p.2) → 0 ≤ relM far k pre ∧ relM far k pre ≤ farC := by
  intro pre
  have key : ∀ (pre : List (Int × Int)) (z : Int), 0 ≤ z ∧ z ≤ farC → (∀ p ∈ pre, (0 ≤ p.1 ∧ p.1 < far.length) ∧ 0 ≤ p.2) → 0 ≤ pre.foldl (fun m p => min m (lab far p.1 + p.2)) z ∧ pre.foldl (fun m p => min m (lab far p.1 + p.2)) z ≤ farC := by
    intro pre
    induction pre with
    | nil => intro z hz _; exact hz
    | cons p r ih =>
      intro z hz hp
      have h1 := hp p (List.mem_cons_self ..)
      have h2 := h p.1 h1.1.1 h1.1.2
      exact ih (min z (lab far p.1 + p.2)) (by omega) fun q hq => hp q (List.mem_cons_of_mem _ hq)
  exact key pre _ (h k (by omega) (by omega))

theorem own_new {W w1 : World} {far : List Int} {u vr : Value} {t : TypeId} (ho : Own w1 (W.alloc (.cells #[u] t)).heap.size vr far) (hb : Below (W.alloc (.cells #[u] t)).heap.size (W.alloc (.cells #[u] t)) w1) (hn : 1 ≤ far.length) :
    ∃ g vcap, vr = .slice (some ⟨g, 0, none⟩) far.length vcap ∧ Hid (W.heap.size < g ∧ g < w1.heap.size ∧ Own w1 (W.heap.size + 1) (.slice (some ⟨g, 0, none⟩) far.length vcap) far ∧ Below W.heap.size W w1 ∧ Boxed w1 W.heap.size t u) := by
  have ho' := ho
  rcases ho.2 with ⟨-, h0⟩ | ⟨g, vcap, vcur, rfl, hgB, hgc, -⟩
  · omega
  rw [World.size_alloc] at hgB ho hb
  refine ⟨g, vcap, rfl, by omega, (Array.getElem?_eq_some_iff.1 hgc).1, ho, ((Below.refl _ W).alloc (Nat.le_refl _) _).trans (hb.mono (by omega)), ?_⟩
  exact (hb.block _ (by omega)).trans (Boxed.new W t u)

/-- What lies about when k spots are relaxed and the loops of ds are behind. -/
def RelI (W : World) (b5 g vcap : Nat) (l : List EdD) (far : List Int) (u : Value) (k : Nat) (ds : List Nat) (w : World) : Prop :=
  Own w (W.heap.size + 1) (.slice (some ⟨g, 0, none⟩) far.length vcap) (relK l far k) ∧ Boxed w W.heap.size 26 u ∧ Boxed w b5 26 (.slice (some ⟨g, 0, none⟩) far.length vcap) ∧ Since W.heap.size W w ∧ Marks W.heap.size ds w

set_option maxRecDepth 100000 in
set_option maxHeartbeats 4000000 in
theorem relaxOnce_any (W : World) (v u : Value) (l : List EdD) (far : List Int) (B : Nat) (h : ReadsEd W v l) (hu : Own W B u far) (hf : FitEd far.length l) (hn : 1 ≤ far.length ∧ far.length ≤ 12) (hl : l.length ≤ 40) (hfar : ∀ i : Int, 0 ≤ i → i < far.length → 0 ≤ lab far i ∧ lab far i ≤ farC) :
    Calls Try.prog 80 #[v, u] W fun e W' => ∃ v', e = .returned v' ∧ Own W' W.heap.size v' (relD l far) ∧ Below W.heap.size W W' := by
  have CC : Hid (∀ w, Below W.heap.size W w → Calls Try.prog 101 #[u] w fun e w' => ∃ v', e = .returned v' ∧ Own w' w.heap.size v' far ∧ Below w.heap.size w w') := fun w hb => copyNumsG_any w B u far (hu.below hb) (by omega)
  rcases hu.2 with ⟨-, h0⟩ | ⟨fg, fcap, fcur, rfl, hfB, hfg, -⟩
  · omega
  have HU : Hid (∀ w, Since W.heap.size W w → Own w B (.slice (some ⟨fg, 0, none⟩) far.length fcap) far) := fun w hs => hu.below hs.1
  have HR : Hid (∀ w, Since W.heap.size W w → ReadsEd w v l) := fun w hs => h.below hs.1
  have hfW : fg < W.heap.size := (Array.getElem?_eq_some_iff.1 hfg).1
  obtain ⟨a1, c1, rfl⟩ := h.shape
  clear h hu hfg
  refine callsIn_wide (n := 9) |>.1 ?_
  refine callsIn_of_wp_marks Try.func80 rfl trivial ?_ rfl
  simp only [Try.ntmps80, List.size_toArray, List.length_cons, List.length_nil, Nat.reduceAdd, Nat.reduceSub, Array.replicate_succ, Array.replicate_zero, List.push_toArray, List.append_toArray, List.nil_append, List.cons_append]
  gi_wp2_with (gi_at_call 101; refine (callsIn_wide.2 (CC.out _ ((Below.refl _ W).alloc (Nat.le_refl _) _))).mono ?_; rintro e w1 ⟨vr, rfl, ho1, hb1⟩; obtain ⟨g, vcap, rfl, HG⟩ : ∃ g vcap, vr = .slice (some ⟨g, 0, none⟩) far.length vcap ∧ Hid (W.heap.size < g ∧ g < w1.heap.size ∧ Own w1 (W.heap.size + 1) (.slice (some ⟨g, 0, none⟩) far.length vcap) far ∧ Below W.heap.size W w1 ∧ Boxed w1 W.heap.size 26 (.slice (some ⟨fg, 0, none⟩) far.length fcap)) := own_new ho1 hb1 (by omega); clear ho1 hb1; have hc3 : (w1.alloc (.cells #[.slice (some ⟨g, 0, none⟩) far.length vcap] 26)).cell? ⟨W.heap.size, 0, none⟩ = some (.slice (some ⟨fg, 0, none⟩) far.length fcap) := (HG.out.2.2.2.2.alloc _).cell)
  have HB : Hid (W.heap.size < g ∧ g < w1.heap.size ∧ W.heap.size < w1.heap.size) := ⟨HG.out.1, HG.out.2.1, by have := HG.out.1; have := HG.out.2.1; omega⟩
  have H0 : Hid (RelI W (w1.heap.size) g vcap l far (.slice (some ⟨fg, 0, none⟩) far.length fcap) 0 [] (w1.alloc (.cells #[.slice (some ⟨g, 0, none⟩) far.length vcap] 26))) := by
    refine ⟨?_, HG.out.2.2.2.2.alloc _, Boxed.new _ _ _, ⟨HG.out.2.2.2.1.alloc HG.out.2.2.2.1.size _, Nat.le_trans HG.out.2.2.2.1.size (by simp)⟩, trivial⟩
    rw [relK_zero]
    exact HG.out.2.2.1.alloc _
  have HF : Hid (FitEd far.length l) := hf
  have HFA : Hid (∀ i : Int, 0 ≤ i → i < far.length → 0 ≤ lab far i ∧ lab far i ≤ farC) := hfar
  clear HG hf hfar CC
  refine wpIn_loop (fun a' w' => ∃ (k : Nat) (ds : List Nat) (x6 x7 x8 x14 x15 x16 x17 x18 x19 x20 x21 x22 x23 x24 x25 x26 x27 x28 x29 x30 x31 x32 x33 x34 x35 : Value), a' = { tmps := #[.slice a1 l.length c1, .slice (some ⟨fg, 0, none⟩) far.length fcap, undef, .pointer (some ⟨W.heap.size, 0, none⟩), .slice none 0 0, .pointer (some ⟨w1.heap.size, 0, none⟩), x6, x7, x8, .slice (some ⟨fg, 0, none⟩) far.length fcap, .slice (some ⟨g, 0, none⟩) far.length vcap, .slice (some ⟨fg, 0, none⟩) far.length fcap, .int .i64 (far.length : Int), .int .i64 (k : Int), x14, x15, x16, x17, x18, x19, x20, x21, x22, x23, x24, x25, x26, x27, x28, x29, x30, x31, x32, x33, x34, x35, undef], defers := ds.map markOf } ∧ k ≤ far.length ∧ Hid (RelI W (w1.heap.size) g vcap l far (.slice (some ⟨fg, 0, none⟩) far.length fcap) k ds w')) (fun a' _ => far.length - (intOf (a'.tmps.getD 13 undef)).toNat) ⟨0, [], undef, undef, undef, undef, undef, undef, undef, undef, undef, undef, undef, undef, undef, undef, undef, undef, undef, undef, undef, undef, undef, undef, undef, undef, undef, rfl, Nat.zero_le _, H0.out⟩ ?_
  rintro _ wr ⟨k, ds, x6, x7, x8, x14, x15, x16, x17, x18, x19, x20, x21, x22, x23, x24, x25, x26, x27, x28, x29, x30, x31, x32, x33, x34, x35, rfl, hk, HI⟩
  clear H0
  by_cases hlt : k < far.length
  · have hlt' : (k : Int) < (far.length : Int) := by omega
    -- walk
    have HR1 : Hid (∀ w, Since W.heap.size W w → ReadsEd w (.slice a1 l.length c1) l) := HR
    gi_wp2_with (gi_at_call 94; refine (callsIn_wide.2 (linksAt_any (wr.alloc (.cells #[.int .i64 (k : Int)] 3)) (.slice a1 l.length c1) ⟨_, _, _, rfl⟩ (k : Int))).mono ?_; rintro e w2 ⟨rfl, rfl⟩)
    try simp only [World.size_alloc]
    obtain ⟨W2, hW2⟩ : ∃ W2, W2 = ((wr.alloc (.cells #[.int .i64 (k : Int)] 3)).alloc (.cells #[.slice a1 l.length c1] 23)).alloc (.cells #[.int .i64 (k : Int)] 3) := ⟨_, rfl⟩
    have hsz : W2.heap.size = wr.heap.size + 3 := by rw [hW2]; simp
    have hbw : Below wr.heap.size wr W2 := by
      rw [hW2]
      exact (((Below.refl _ wr).alloc (Nat.le_refl _) _).alloc (by simp) _).alloc (by simp; omega) _
    have H6 : Boxed W2 wr.heap.size 3 (.int .i64 (k : Int)) := by
      rw [hW2]
      exact ((Boxed.new wr 3 _).alloc _).alloc _
    have HL : Boxed W2 (wr.heap.size + 1) 23 (.slice a1 l.length c1) := by
      rw [hW2]
      have := (Boxed.new (wr.alloc (.cells #[.int .i64 (k : Int)] 3)) 23 (.slice a1 l.length c1)).alloc (.cells #[.int .i64 (k : Int)] 3)
      rwa [World.size_alloc] at this
    have HA : Boxed W2 (wr.heap.size + 1 + 1) 3 (.int .i64 (k : Int)) := by
      rw [hW2]
      have := Boxed.new ((wr.alloc (.cells #[.int .i64 (k : Int)] 3)).alloc (.cells #[.slice a1 l.length c1] 23)) 3 (.int .i64 (k : Int))
      rwa [World.size_alloc, World.size_alloc] at this
    rw [← hW2]
    have HR2 := HI.out
    obtain ⟨r1, r2, r3, r4, r5⟩ := HR2
    have hwr : W.heap.size ≤ wr.heap.size := r4.2
    have hb5 := r3.lt
    have hds : ∀ D ∈ ds, D < W2.heap.size := fun D hD => by
      have := (r5.lt D hD).2.1
      omega
    have s4 : Since W.heap.size W W2 := r4.step hbw
    have h00 : Own W2 (W.heap.size + 1) (.slice (some ⟨g, 0, none⟩) far.length vcap) (relKM l far k []) ∧ Boxed W2 W.heap.size 26 (.slice (some ⟨fg, 0, none⟩) far.length fcap) ∧ Boxed W2 w1.heap.size 26 (.slice (some ⟨g, 0, none⟩) far.length vcap) ∧ Since W.heap.size W W2 ∧ Marks W.heap.size ds W2 ∧ Boxed W2 wr.heap.size 3 (.int .i64 (k : Int)) := by
      refine ⟨?_, (hbw.block _ r2.lt).trans r2, (hbw.block _ r3.lt).trans r3, s4, r5.kept fun D hD hd => (hbw.block D (r5.lt D hD).2.1).trans hd, H6⟩
      rw [relKM_nil l far k hlt]
      exact r1.below hbw
    refine wp_range (w0 := W2) (xs := linksD l (k : Int)) (encs := fun p : Int × Int => #[.int .i64 p.1, .int .i64 p.2]) (S := fun b => b < W.heap.size ∨ b = wr.heap.size + 1 ∨ b = wr.heap.size + 1 + 1) (gf := 107) (lb := #[.pointer (some ⟨wr.heap.size + 1, 0, none⟩), .pointer (some ⟨wr.heap.size + 1 + 1, 0, none⟩)]) rfl (enters_of Try.func107 (by kernel_rfl) rfl)
      (linksIt_any _ (wr.heap.size + 1) (wr.heap.size + 1 + 1) (.slice a1 l.length c1) l far.length (k : Int) W W2 hn.2 HF.out ⟨by omega, by omega⟩ hl (.inr (.inl rfl)) (.inr (.inr rfl)) HL.cell HA.cell (HR1.out W (Since.start W)) s4.1 (fun b hb => .inl hb))
      (Below.refl _ _)
      (fun pre w => Own w (W.heap.size + 1) (.slice (some ⟨g, 0, none⟩) far.length vcap) (relKM l far k pre) ∧ Boxed w W.heap.size 26 (.slice (some ⟨fg, 0, none⟩) far.length fcap) ∧ Boxed w w1.heap.size 26 (.slice (some ⟨g, 0, none⟩) far.length vcap) ∧ Since W.heap.size W w ∧ Marks W.heap.size ds w ∧ Boxed w wr.heap.size 3 (.int .i64 (k : Int)))
      (fun w b => b = g ∧ b < w.heap.size) ⟨fun _ _ _ _ h => h.2, fun _ A A' row b _ hA _ _ h => ⟨h.1, by have := h.1; have := HB.out; omega⟩⟩ (fun b hb q => by have := HB.out; have := q.1; rcases hb with hb | hb | hb <;> omega) (fun _ => rfl)
      (fun _ _ _ => False)
      (OwnFrom.and (own_from _ _ _ _) (OwnFrom.and (Own.from (boxed_own _ _ _) _) (OwnFrom.and (Own.from (boxed_own _ _ _) _) (OwnFrom.and (since_from (Nat.le_refl _) (by omega)) (OwnFrom.and (marks_from (fun _ => ds) (fun _ => hds)) (Own.from (boxed_own _ _ _) _))))))
      (fun _ _ _ _ _ hs _ _ => hs) h00
      (fun x => { tmps := #[.slice a1 l.length c1, .slice (some ⟨fg, 0, none⟩) far.length fcap, undef, .pointer (some ⟨W.heap.size, 0, none⟩), .slice none 0 0, .pointer (some ⟨w1.heap.size, 0, none⟩), .pointer (some ⟨wr.heap.size, 0, none⟩), .int .i64 x.1, .int .i64 x.2, .slice (some ⟨fg, 0, none⟩) far.length fcap, .slice (some ⟨g, 0, none⟩) far.length vcap, .slice (some ⟨fg, 0, none⟩) far.length fcap, .int .i64 (far.length : Int), .int .i64 (k : Int), .bool true, .int .i64 (k : Int), .slice a1 l.length c1, .int .i64 (k : Int), .func (.func 107) #[] #[.pointer (some ⟨wr.heap.size + 1, 0, none⟩), .pointer (some ⟨wr.heap.size + 1 + 1, 0, none⟩)], .int .i64 x.1, .int .i64 x.2, x21, x22, x23, x24, x25, x26, x27, x28, x29, x30, x31, x32, x33, x34, x35, undef], defers := [] }) ?assign ?body ?done ?stop
    case assign =>
      intro ll x Wx K hK
      gi_wp2
      exact hK
    case body =>
      rintro ll pre ⟨x1, c⟩ Wx ⟨i1, i2, i3, i4, i5, i6⟩ hpre hsx
      have hin : ∀ p ∈ pre ++ [(x1, c)], (0 ≤ p.1 ∧ p.1 < (far.length : Int)) ∧ 1 ≤ p.2 ∧ p.2 ≤ 100 := fun p hp => by
        have := ((linksD_joined l (k : Int) p.1 p.2).1 (hpre.subset hp)).fit HF.out
        exact ⟨this.2.1, this.2.2⟩
      have hx := hin (x1, c) (by simp)
      dsimp only at hx
      obtain ⟨y, rfl⟩ : ∃ y : Nat, x1 = (y : Int) := ⟨x1.toNat, by omega⟩
      have hyn : y < far.length := by omega
      have hyn' : (y : Int) < (far.length : Int) := by omega
      have hml := relM_low far k HFA.out hlt pre fun p hp => ⟨(hin p (List.mem_append_left _ hp)).1, by have := (hin p (List.mem_append_left _ hp)).2; omega⟩
      have hfl := HFA.out (y : Int) (by omega) hyn'
      obtain ⟨m, hm⟩ : ∃ m, m = relM far k pre := ⟨_, rfl⟩
      obtain ⟨f, hf⟩ : ∃ f, f = lab far (y : Int) := ⟨_, rfl⟩
      rw [← hm] at hml
      rw [← hf] at hfl
      unfold farC at hml hfl
      have hlen : far.length = (relKM l far k pre).length := (relKM_len l far k pre).symm
      have hcm : Wx.drew.cell? ⟨g, k, none⟩ = some (.int .i64 m) := by
        have := own_cellG i1 hlen k (by omega)
        rw [relKM_at l far k pre hlt, ← hm] at this
        exact this
      have hfz : Wx.drew.frozen? ⟨g, k, none⟩ = false := own_frozenG i1 hlen k
      have hcf : Wx.drew.cell? ⟨fg, y, none⟩ = some (.int .i64 f) := by
        have := own_cellG (HU.out Wx i4) rfl y hyn
        rw [hf, lab_get far y hyn]
        exact this
      have HFIN : Hid (∀ mv, mv = min m (f + c) → roundPostO W2.heap.size (fun w b => b = g ∧ b < w.heap.size) (fun pre w => Own w (W.heap.size + 1) (.slice (some ⟨g, 0, none⟩) far.length vcap) (relKM l far k pre) ∧ Boxed w W.heap.size 26 (.slice (some ⟨fg, 0, none⟩) far.length fcap) ∧ Boxed w w1.heap.size 26 (.slice (some ⟨g, 0, none⟩) far.length vcap) ∧ Since W.heap.size W w ∧ Marks W.heap.size ds w ∧ Boxed w wr.heap.size 3 (.int .i64 (k : Int))) (fun _ _ _ => False) (pre ++ [((y : Int), c)]) Wx .normal { tmps := #[], defers := [] } (Wx.drew.setCell ⟨g, k, none⟩ (.int .i64 mv))) := fun mv hmv => by
        have hne : ∀ b, b ≠ g → (Wx.drew.setCell ⟨g, k, none⟩ (.int .i64 mv)).heap[b]? = Wx.heap[b]? := fun b hb => Below.heap_setCell Wx.drew ⟨g, k, none⟩ _ b hb
        have hbg := HB.out
        refine ⟨((KeepsOthers.drew Wx).trans (KeepsOthers.setCell _ _ _)).from _, ⟨by simp [World.setCell], fun b o hb ho hm => ⟨(hne b (fun e => hm ⟨e, (Array.getElem?_eq_some_iff.1 hb).1⟩)).trans hb, fun q => hm ⟨q.1, (Array.getElem?_eq_some_iff.1 hb).1⟩⟩⟩, ?_, (hne _ (by omega)).trans i2, (hne _ (by omega)).trans i3, ⟨i4.1.drew.setCell (by show W.heap.size ≤ g; omega) _, by have := i4.2; simpa [World.setCell] using this⟩, i5.kept fun D hD hd => (hne D ?_).trans hd, (hne _ (by omega)).trans i6⟩
        · rw [← relKM_set l far k pre ((y : Int), c) mv (by rw [hmv, hm, hf])]
          have HO := i1.drew
          rw [hlen] at HO ⊢
          exact HO.set k mv
        · rintro rfl
          have : Wx.cell? ⟨D, k, none⟩ = _ := hcm
          simp [World.cell?, hd] at this
      clear hpre hin hlen hm hf HF HFA HU hsx i1 i4 i5 r1 r2 r3 r4 r5 h00 hds s4 H6 HL HA hbw HR1 HR HI
      have hwr : IntKind.i64.wrap (f + c) = f + c := by rw [IntKind.wrap_i64]; omega
      refine wpIn_block ?_
      rcases Int.lt_trichotomy m (f + c) with hlt3 | hlt3 | hlt3
      · have HM : Hid (m = min m (f + c)) := by show _ = _; omega
        have h1 : m ≤ f + c := by omega
        have h2 : ¬ f + c ≤ m := by omega
        have h3 : ¬ f + c < m := by omega
        have HZ : Hid (roundPostO W2.heap.size (fun w b => b = g ∧ b < w.heap.size) (fun pre w => Own w (W.heap.size + 1) (.slice (some ⟨g, 0, none⟩) far.length vcap) (relKM l far k pre) ∧ Boxed w W.heap.size 26 (.slice (some ⟨fg, 0, none⟩) far.length fcap) ∧ Boxed w w1.heap.size 26 (.slice (some ⟨g, 0, none⟩) far.length vcap) ∧ Since W.heap.size W w ∧ Marks W.heap.size ds w ∧ Boxed w wr.heap.size 3 (.int .i64 (k : Int))) (fun _ _ _ => False) (pre ++ [((y : Int), c)]) Wx .normal { tmps := #[], defers := [] } (Wx.drew.setCell ⟨g, k, none⟩ (.int .i64 m))) := HFIN.out _ HM.out
        clear HM HFIN
        refine region_inRound (S := (fun w' : World => w'.cell? ⟨w1.heap.size, 0, none⟩ = some (.slice (some ⟨g, 0, none⟩) far.length vcap) ∧ w'.cell? ⟨wr.heap.size, 0, none⟩ = some (.int .i64 (k : Int)) ∧ w'.cell? ⟨g, k, none⟩ = some (.int .i64 m) ∧ w'.cell? ⟨W.heap.size, 0, none⟩ = some (.slice (some ⟨fg, 0, none⟩) far.length fcap) ∧ w'.cell? ⟨fg, y, none⟩ = some (.int .i64 f) ∧ w'.frozen? ⟨g, k, none⟩ = false)) 14 (by kernel_rfl) (by kernel_rfl) ?_ (fun hHeld => ?_)
        · exact ⟨i3.cell, i6.cell, hcm, i2.cell, hcf, hfz⟩
        refine roundRead 0 (some 21) (.slice (some ⟨g, 0, none⟩) far.length vcap) rfl rfl (by kernel_rfl) (by kernel_rfl) (by kernel_rfl) (by kernel_rfl) (fun _ _ _ h => h) (by kernel_rfl) (by assumption) ?_ ?_
        · intro w hSw
          (try dsimp only at hSw)
          go_simp
        simp only [Act.put, List.setIfInBounds_toArray, List.set_cons_zero, List.set_cons_succ]
        refine roundRead 1 (some 22) (.int .i64 (k : Int)) rfl rfl (by kernel_rfl) (by kernel_rfl) (by kernel_rfl) (by kernel_rfl) (fun _ _ _ h => h) (by kernel_rfl) (by assumption) ?_ ?_
        · intro w hSw
          (try dsimp only at hSw)
          go_simp
        simp only [Act.put, List.setIfInBounds_toArray, List.set_cons_zero, List.set_cons_succ]
        refine roundRead 2 (some 23) (.slice (some ⟨g, 0, none⟩) far.length vcap) rfl rfl (by kernel_rfl) (by kernel_rfl) (by kernel_rfl) (by kernel_rfl) (fun _ _ _ h => h) (by kernel_rfl) (by assumption) ?_ ?_
        · intro w hSw
          (try dsimp only at hSw)
          go_simp
        simp only [Act.put, List.setIfInBounds_toArray, List.set_cons_zero, List.set_cons_succ]
        refine roundRead 3 (some 24) (.int .i64 (k : Int)) rfl rfl (by kernel_rfl) (by kernel_rfl) (by kernel_rfl) (by kernel_rfl) (fun _ _ _ h => h) (by kernel_rfl) (by assumption) ?_ ?_
        · intro w hSw
          (try dsimp only at hSw)
          go_simp
        simp only [Act.put, List.setIfInBounds_toArray, List.set_cons_zero, List.set_cons_succ]
        refine roundRead 4 (some 25) (.pointer (some ⟨g, k, none⟩)) rfl rfl (by kernel_rfl) (by kernel_rfl) (by kernel_rfl) (by kernel_rfl) (fun _ _ _ h => h) (by kernel_rfl) (by assumption) ?_ ?_
        · intro w hSw
          (try dsimp only at hSw)
          go_simp
        simp only [Act.put, List.setIfInBounds_toArray, List.set_cons_zero, List.set_cons_succ]
        refine roundRead 5 (some 26) (.int .i64 m) rfl rfl (by kernel_rfl) (by kernel_rfl) (by kernel_rfl) (by kernel_rfl) (fun _ _ _ h => h) (by kernel_rfl) (by assumption) ?_ ?_
        · intro w hSw
          (try dsimp only at hSw)
          go_simp
        simp only [Act.put, List.setIfInBounds_toArray, List.set_cons_zero, List.set_cons_succ]
        refine roundRead 6 (some 27) (.slice (some ⟨fg, 0, none⟩) far.length fcap) rfl rfl (by kernel_rfl) (by kernel_rfl) (by kernel_rfl) (by kernel_rfl) (fun _ _ _ h => h) (by kernel_rfl) (by assumption) ?_ ?_
        · intro w hSw
          (try dsimp only at hSw)
          go_simp
        simp only [Act.put, List.setIfInBounds_toArray, List.set_cons_zero, List.set_cons_succ]
        refine roundRead 7 (some 28) (.int .i64 (y : Int)) rfl rfl (by kernel_rfl) (by kernel_rfl) (by kernel_rfl) (by kernel_rfl) (fun _ _ _ h => h) (by kernel_rfl) (by assumption) ?_ ?_
        · intro w hSw
          (try dsimp only at hSw)
          go_simp
        simp only [Act.put, List.setIfInBounds_toArray, List.set_cons_zero, List.set_cons_succ]
        refine roundRead 8 (some 29) (.pointer (some ⟨fg, y, none⟩)) rfl rfl (by kernel_rfl) (by kernel_rfl) (by kernel_rfl) (by kernel_rfl) (fun _ _ _ h => h) (by kernel_rfl) (by assumption) ?_ ?_
        · intro w hSw
          (try dsimp only at hSw)
          go_simp
        simp only [Act.put, List.setIfInBounds_toArray, List.set_cons_zero, List.set_cons_succ]
        refine roundRead 9 (some 30) (.int .i64 f) rfl rfl (by kernel_rfl) (by kernel_rfl) (by kernel_rfl) (by kernel_rfl) (fun _ _ _ h => h) (by kernel_rfl) (by assumption) ?_ ?_
        · intro w hSw
          (try dsimp only at hSw)
          go_simp
        simp only [Act.put, List.setIfInBounds_toArray, List.set_cons_zero, List.set_cons_succ]
        refine roundRead 10 (some 31) (.int .i64 c) rfl rfl (by kernel_rfl) (by kernel_rfl) (by kernel_rfl) (by kernel_rfl) (fun _ _ _ h => h) (by kernel_rfl) (by assumption) ?_ ?_
        · intro w hSw
          (try dsimp only at hSw)
          go_simp
        simp only [Act.put, List.setIfInBounds_toArray, List.set_cons_zero, List.set_cons_succ]
        refine roundRead 11 (some 32) (.int .i64 (f + c)) rfl rfl (by kernel_rfl) (by kernel_rfl) (by kernel_rfl) (by kernel_rfl) (fun _ _ _ h => h) (by kernel_rfl) (by assumption) ?_ ?_
        · intro w hSw
          (try dsimp only at hSw)
          go_simp
        simp only [Act.put, List.setIfInBounds_toArray, List.set_cons_zero, List.set_cons_succ]
        refine roundRead 12 (some 33) (.int .i64 m) rfl rfl (by kernel_rfl) (by kernel_rfl) (by kernel_rfl) (by kernel_rfl) (fun _ _ _ h => h) (by kernel_rfl) (by assumption) ?_ ?_
        · intro w hSw
          (try dsimp only at hSw)
          go_simp
        simp only [Act.put, List.setIfInBounds_toArray, List.set_cons_zero, List.set_cons_succ]
        refine roundRead 13 (some 34) (.pointer (some ⟨g, k, none⟩)) rfl rfl (by kernel_rfl) (by kernel_rfl) (by kernel_rfl) (by kernel_rfl) (fun _ _ _ h => h) (by kernel_rfl) (by assumption) ?_ ?_
        · intro w hSw
          (try dsimp only at hSw)
          go_simp
        simp only [Act.put, List.setIfInBounds_toArray, List.set_cons_zero, List.set_cons_succ]
        refine roundStore 14 none (Wx.drew.setCell ⟨g, k, none⟩ (.int .i64 m)) (by kernel_rfl) rfl rfl (.inl (by kernel_rfl)) (by kernel_rfl) (by go_simp) ?_
        simp only [Act.put]
        refine wpAnyR.done (by kernel_rfl) ?_ _
        exact HZ.out
      · have HM : Hid (m = min m (f + c)) := by show _ = _; omega
        have h1 : m ≤ f + c := by omega
        have h2 : f + c ≤ m := by omega
        have h3 : ¬ f + c < m := by omega
        have h4 : ¬ m < f + c := by omega
        have HZ : Hid (roundPostO W2.heap.size (fun w b => b = g ∧ b < w.heap.size) (fun pre w => Own w (W.heap.size + 1) (.slice (some ⟨g, 0, none⟩) far.length vcap) (relKM l far k pre) ∧ Boxed w W.heap.size 26 (.slice (some ⟨fg, 0, none⟩) far.length fcap) ∧ Boxed w w1.heap.size 26 (.slice (some ⟨g, 0, none⟩) far.length vcap) ∧ Since W.heap.size W w ∧ Marks W.heap.size ds w ∧ Boxed w wr.heap.size 3 (.int .i64 (k : Int))) (fun _ _ _ => False) (pre ++ [((y : Int), c)]) Wx .normal { tmps := #[], defers := [] } (Wx.drew.setCell ⟨g, k, none⟩ (.int .i64 m))) := HFIN.out _ HM.out
        clear HM HFIN
        refine region_inRound (S := (fun w' : World => w'.cell? ⟨w1.heap.size, 0, none⟩ = some (.slice (some ⟨g, 0, none⟩) far.length vcap) ∧ w'.cell? ⟨wr.heap.size, 0, none⟩ = some (.int .i64 (k : Int)) ∧ w'.cell? ⟨g, k, none⟩ = some (.int .i64 m) ∧ w'.cell? ⟨W.heap.size, 0, none⟩ = some (.slice (some ⟨fg, 0, none⟩) far.length fcap) ∧ w'.cell? ⟨fg, y, none⟩ = some (.int .i64 f) ∧ w'.frozen? ⟨g, k, none⟩ = false)) 14 (by kernel_rfl) (by kernel_rfl) ?_ (fun hHeld => ?_)
        · exact ⟨i3.cell, i6.cell, hcm, i2.cell, hcf, hfz⟩
        refine roundRead 0 (some 21) (.slice (some ⟨g, 0, none⟩) far.length vcap) rfl rfl (by kernel_rfl) (by kernel_rfl) (by kernel_rfl) (by kernel_rfl) (fun _ _ _ h => h) (by kernel_rfl) (by assumption) ?_ ?_
        · intro w hSw
          (try dsimp only at hSw)
          go_simp
        simp only [Act.put, List.setIfInBounds_toArray, List.set_cons_zero, List.set_cons_succ]
        refine roundRead 1 (some 22) (.int .i64 (k : Int)) rfl rfl (by kernel_rfl) (by kernel_rfl) (by kernel_rfl) (by kernel_rfl) (fun _ _ _ h => h) (by kernel_rfl) (by assumption) ?_ ?_
        · intro w hSw
          (try dsimp only at hSw)
          go_simp
        simp only [Act.put, List.setIfInBounds_toArray, List.set_cons_zero, List.set_cons_succ]
        refine roundRead 2 (some 23) (.slice (some ⟨g, 0, none⟩) far.length vcap) rfl rfl (by kernel_rfl) (by kernel_rfl) (by kernel_rfl) (by kernel_rfl) (fun _ _ _ h => h) (by kernel_rfl) (by assumption) ?_ ?_
        · intro w hSw
          (try dsimp only at hSw)
          go_simp
        simp only [Act.put, List.setIfInBounds_toArray, List.set_cons_zero, List.set_cons_succ]
        refine roundRead 3 (some 24) (.int .i64 (k : Int)) rfl rfl (by kernel_rfl) (by kernel_rfl) (by kernel_rfl) (by kernel_rfl) (fun _ _ _ h => h) (by kernel_rfl) (by assumption) ?_ ?_
        · intro w hSw
          (try dsimp only at hSw)
          go_simp
        simp only [Act.put, List.setIfInBounds_toArray, List.set_cons_zero, List.set_cons_succ]
        refine roundRead 4 (some 25) (.pointer (some ⟨g, k, none⟩)) rfl rfl (by kernel_rfl) (by kernel_rfl) (by kernel_rfl) (by kernel_rfl) (fun _ _ _ h => h) (by kernel_rfl) (by assumption) ?_ ?_
        · intro w hSw
          (try dsimp only at hSw)
          go_simp
        simp only [Act.put, List.setIfInBounds_toArray, List.set_cons_zero, List.set_cons_succ]
        refine roundRead 5 (some 26) (.int .i64 m) rfl rfl (by kernel_rfl) (by kernel_rfl) (by kernel_rfl) (by kernel_rfl) (fun _ _ _ h => h) (by kernel_rfl) (by assumption) ?_ ?_
        · intro w hSw
          (try dsimp only at hSw)
          go_simp
        simp only [Act.put, List.setIfInBounds_toArray, List.set_cons_zero, List.set_cons_succ]
        refine roundRead 6 (some 27) (.slice (some ⟨fg, 0, none⟩) far.length fcap) rfl rfl (by kernel_rfl) (by kernel_rfl) (by kernel_rfl) (by kernel_rfl) (fun _ _ _ h => h) (by kernel_rfl) (by assumption) ?_ ?_
        · intro w hSw
          (try dsimp only at hSw)
          go_simp
        simp only [Act.put, List.setIfInBounds_toArray, List.set_cons_zero, List.set_cons_succ]
        refine roundRead 7 (some 28) (.int .i64 (y : Int)) rfl rfl (by kernel_rfl) (by kernel_rfl) (by kernel_rfl) (by kernel_rfl) (fun _ _ _ h => h) (by kernel_rfl) (by assumption) ?_ ?_
        · intro w hSw
          (try dsimp only at hSw)
          go_simp
        simp only [Act.put, List.setIfInBounds_toArray, List.set_cons_zero, List.set_cons_succ]
        refine roundRead 8 (some 29) (.pointer (some ⟨fg, y, none⟩)) rfl rfl (by kernel_rfl) (by kernel_rfl) (by kernel_rfl) (by kernel_rfl) (fun _ _ _ h => h) (by kernel_rfl) (by assumption) ?_ ?_
        · intro w hSw
          (try dsimp only at hSw)
          go_simp
        simp only [Act.put, List.setIfInBounds_toArray, List.set_cons_zero, List.set_cons_succ]
        refine roundRead 9 (some 30) (.int .i64 f) rfl rfl (by kernel_rfl) (by kernel_rfl) (by kernel_rfl) (by kernel_rfl) (fun _ _ _ h => h) (by kernel_rfl) (by assumption) ?_ ?_
        · intro w hSw
          (try dsimp only at hSw)
          go_simp
        simp only [Act.put, List.setIfInBounds_toArray, List.set_cons_zero, List.set_cons_succ]
        refine roundRead 10 (some 31) (.int .i64 c) rfl rfl (by kernel_rfl) (by kernel_rfl) (by kernel_rfl) (by kernel_rfl) (fun _ _ _ h => h) (by kernel_rfl) (by assumption) ?_ ?_
        · intro w hSw
          (try dsimp only at hSw)
          go_simp
        simp only [Act.put, List.setIfInBounds_toArray, List.set_cons_zero, List.set_cons_succ]
        refine roundRead 11 (some 32) (.int .i64 (f + c)) rfl rfl (by kernel_rfl) (by kernel_rfl) (by kernel_rfl) (by kernel_rfl) (fun _ _ _ h => h) (by kernel_rfl) (by assumption) ?_ ?_
        · intro w hSw
          (try dsimp only at hSw)
          go_simp
        simp only [Act.put, List.setIfInBounds_toArray, List.set_cons_zero, List.set_cons_succ]
        refine roundRead 12 (some 33) (.int .i64 m) rfl rfl (by kernel_rfl) (by kernel_rfl) (by kernel_rfl) (by kernel_rfl) (fun _ _ _ h => h) (by kernel_rfl) (by assumption) ?_ ?_
        · intro w hSw
          (try dsimp only at hSw)
          go_simp
        simp only [Act.put, List.setIfInBounds_toArray, List.set_cons_zero, List.set_cons_succ]
        refine roundRead 13 (some 34) (.pointer (some ⟨g, k, none⟩)) rfl rfl (by kernel_rfl) (by kernel_rfl) (by kernel_rfl) (by kernel_rfl) (fun _ _ _ h => h) (by kernel_rfl) (by assumption) ?_ ?_
        · intro w hSw
          (try dsimp only at hSw)
          go_simp
        simp only [Act.put, List.setIfInBounds_toArray, List.set_cons_zero, List.set_cons_succ]
        refine roundStore 14 none (Wx.drew.setCell ⟨g, k, none⟩ (.int .i64 m)) (by kernel_rfl) rfl rfl (.inl (by kernel_rfl)) (by kernel_rfl) (by go_simp) ?_
        simp only [Act.put]
        refine wpAnyR.done (by kernel_rfl) ?_ _
        exact HZ.out
      · have HM : Hid ((f + c) = min m (f + c)) := by show _ = _; omega
        have h1 : ¬ m ≤ f + c := by omega
        have h2 : f + c ≤ m := by omega
        have h3 : ¬ m < f + c := by omega
        have HZ : Hid (roundPostO W2.heap.size (fun w b => b = g ∧ b < w.heap.size) (fun pre w => Own w (W.heap.size + 1) (.slice (some ⟨g, 0, none⟩) far.length vcap) (relKM l far k pre) ∧ Boxed w W.heap.size 26 (.slice (some ⟨fg, 0, none⟩) far.length fcap) ∧ Boxed w w1.heap.size 26 (.slice (some ⟨g, 0, none⟩) far.length vcap) ∧ Since W.heap.size W w ∧ Marks W.heap.size ds w ∧ Boxed w wr.heap.size 3 (.int .i64 (k : Int))) (fun _ _ _ => False) (pre ++ [((y : Int), c)]) Wx .normal { tmps := #[], defers := [] } (Wx.drew.setCell ⟨g, k, none⟩ (.int .i64 (f + c)))) := HFIN.out _ HM.out
        clear HM HFIN
        refine region_inRound (S := (fun w' : World => w'.cell? ⟨w1.heap.size, 0, none⟩ = some (.slice (some ⟨g, 0, none⟩) far.length vcap) ∧ w'.cell? ⟨wr.heap.size, 0, none⟩ = some (.int .i64 (k : Int)) ∧ w'.cell? ⟨g, k, none⟩ = some (.int .i64 m) ∧ w'.cell? ⟨W.heap.size, 0, none⟩ = some (.slice (some ⟨fg, 0, none⟩) far.length fcap) ∧ w'.cell? ⟨fg, y, none⟩ = some (.int .i64 f) ∧ w'.frozen? ⟨g, k, none⟩ = false)) 14 (by kernel_rfl) (by kernel_rfl) ?_ (fun hHeld => ?_)
        · exact ⟨i3.cell, i6.cell, hcm, i2.cell, hcf, hfz⟩
        refine roundRead 0 (some 21) (.slice (some ⟨g, 0, none⟩) far.length vcap) rfl rfl (by kernel_rfl) (by kernel_rfl) (by kernel_rfl) (by kernel_rfl) (fun _ _ _ h => h) (by kernel_rfl) (by assumption) ?_ ?_
        · intro w hSw
          (try dsimp only at hSw)
          go_simp
        simp only [Act.put, List.setIfInBounds_toArray, List.set_cons_zero, List.set_cons_succ]
        refine roundRead 1 (some 22) (.int .i64 (k : Int)) rfl rfl (by kernel_rfl) (by kernel_rfl) (by kernel_rfl) (by kernel_rfl) (fun _ _ _ h => h) (by kernel_rfl) (by assumption) ?_ ?_
        · intro w hSw
          (try dsimp only at hSw)
          go_simp
        simp only [Act.put, List.setIfInBounds_toArray, List.set_cons_zero, List.set_cons_succ]
        refine roundRead 2 (some 23) (.slice (some ⟨g, 0, none⟩) far.length vcap) rfl rfl (by kernel_rfl) (by kernel_rfl) (by kernel_rfl) (by kernel_rfl) (fun _ _ _ h => h) (by kernel_rfl) (by assumption) ?_ ?_
        · intro w hSw
          (try dsimp only at hSw)
          go_simp
        simp only [Act.put, List.setIfInBounds_toArray, List.set_cons_zero, List.set_cons_succ]
        refine roundRead 3 (some 24) (.int .i64 (k : Int)) rfl rfl (by kernel_rfl) (by kernel_rfl) (by kernel_rfl) (by kernel_rfl) (fun _ _ _ h => h) (by kernel_rfl) (by assumption) ?_ ?_
        · intro w hSw
          (try dsimp only at hSw)
          go_simp
        simp only [Act.put, List.setIfInBounds_toArray, List.set_cons_zero, List.set_cons_succ]
        refine roundRead 4 (some 25) (.pointer (some ⟨g, k, none⟩)) rfl rfl (by kernel_rfl) (by kernel_rfl) (by kernel_rfl) (by kernel_rfl) (fun _ _ _ h => h) (by kernel_rfl) (by assumption) ?_ ?_
        · intro w hSw
          (try dsimp only at hSw)
          go_simp
        simp only [Act.put, List.setIfInBounds_toArray, List.set_cons_zero, List.set_cons_succ]
        refine roundRead 5 (some 26) (.int .i64 m) rfl rfl (by kernel_rfl) (by kernel_rfl) (by kernel_rfl) (by kernel_rfl) (fun _ _ _ h => h) (by kernel_rfl) (by assumption) ?_ ?_
        · intro w hSw
          (try dsimp only at hSw)
          go_simp
        simp only [Act.put, List.setIfInBounds_toArray, List.set_cons_zero, List.set_cons_succ]
        refine roundRead 6 (some 27) (.slice (some ⟨fg, 0, none⟩) far.length fcap) rfl rfl (by kernel_rfl) (by kernel_rfl) (by kernel_rfl) (by kernel_rfl) (fun _ _ _ h => h) (by kernel_rfl) (by assumption) ?_ ?_
        · intro w hSw
          (try dsimp only at hSw)
          go_simp
        simp only [Act.put, List.setIfInBounds_toArray, List.set_cons_zero, List.set_cons_succ]
        refine roundRead 7 (some 28) (.int .i64 (y : Int)) rfl rfl (by kernel_rfl) (by kernel_rfl) (by kernel_rfl) (by kernel_rfl) (fun _ _ _ h => h) (by kernel_rfl) (by assumption) ?_ ?_
        · intro w hSw
          (try dsimp only at hSw)
          go_simp
        simp only [Act.put, List.setIfInBounds_toArray, List.set_cons_zero, List.set_cons_succ]
        refine roundRead 8 (some 29) (.pointer (some ⟨fg, y, none⟩)) rfl rfl (by kernel_rfl) (by kernel_rfl) (by kernel_rfl) (by kernel_rfl) (fun _ _ _ h => h) (by kernel_rfl) (by assumption) ?_ ?_
        · intro w hSw
          (try dsimp only at hSw)
          go_simp
        simp only [Act.put, List.setIfInBounds_toArray, List.set_cons_zero, List.set_cons_succ]
        refine roundRead 9 (some 30) (.int .i64 f) rfl rfl (by kernel_rfl) (by kernel_rfl) (by kernel_rfl) (by kernel_rfl) (fun _ _ _ h => h) (by kernel_rfl) (by assumption) ?_ ?_
        · intro w hSw
          (try dsimp only at hSw)
          go_simp
        simp only [Act.put, List.setIfInBounds_toArray, List.set_cons_zero, List.set_cons_succ]
        refine roundRead 10 (some 31) (.int .i64 c) rfl rfl (by kernel_rfl) (by kernel_rfl) (by kernel_rfl) (by kernel_rfl) (fun _ _ _ h => h) (by kernel_rfl) (by assumption) ?_ ?_
        · intro w hSw
          (try dsimp only at hSw)
          go_simp
        simp only [Act.put, List.setIfInBounds_toArray, List.set_cons_zero, List.set_cons_succ]
        refine roundRead 11 (some 32) (.int .i64 (f + c)) rfl rfl (by kernel_rfl) (by kernel_rfl) (by kernel_rfl) (by kernel_rfl) (fun _ _ _ h => h) (by kernel_rfl) (by assumption) ?_ ?_
        · intro w hSw
          (try dsimp only at hSw)
          go_simp
        simp only [Act.put, List.setIfInBounds_toArray, List.set_cons_zero, List.set_cons_succ]
        refine roundRead 12 (some 33) (.int .i64 (f + c)) rfl rfl (by kernel_rfl) (by kernel_rfl) (by kernel_rfl) (by kernel_rfl) (fun _ _ _ h => h) (by kernel_rfl) (by assumption) ?_ ?_
        · intro w hSw
          (try dsimp only at hSw)
          go_simp
        simp only [Act.put, List.setIfInBounds_toArray, List.set_cons_zero, List.set_cons_succ]
        refine roundRead 13 (some 34) (.pointer (some ⟨g, k, none⟩)) rfl rfl (by kernel_rfl) (by kernel_rfl) (by kernel_rfl) (by kernel_rfl) (fun _ _ _ h => h) (by kernel_rfl) (by assumption) ?_ ?_
        · intro w hSw
          (try dsimp only at hSw)
          go_simp
        simp only [Act.put, List.setIfInBounds_toArray, List.set_cons_zero, List.set_cons_succ]
        refine roundStore 14 none (Wx.drew.setCell ⟨g, k, none⟩ (.int .i64 (f + c))) (by kernel_rfl) rfl rfl (.inl (by kernel_rfl)) (by kernel_rfl) (by go_simp) ?_
        simp only [Act.put]
        refine wpAnyR.done (by kernel_rfl) ?_ _
        exact HZ.out
    case done =>
      rintro D Wx hD ⟨i1, i2, i3, i4, i5, i6⟩ hd
      have HE : Hid (RelI W (w1.heap.size) g vcap l far (.slice (some ⟨fg, 0, none⟩) far.length fcap) (k + 1) (D :: ds) Wx) := by
        refine ⟨?_, i2, i3, i4, by omega, hd, fun q => by have := hds D q; omega, i5⟩
        rw [← relKM_all l far k hlt]
        exact i1
      clear i1 i2 i3 i4 i5 i6 hd r1 r2 r3 r4 r5 h00 hds s4 H6 HL HA hbw HR1 HR HI
      gi_wp2
      refine ⟨⟨k + 1, D :: ds, _, _, _, _, _, _, _, _, _, _, _, _, _, _, _, _, _, _, _, _, _, _, _, _, _, by first | rfl | (simp [markOf]; done) | trace_state, by omega, HE.out⟩, ?_⟩
      simp [intOf]
      omega
    case stop =>
      rintro D c pre Wx hD hf' hd
      exact hf'.elim
  · obtain ⟨r1, r2, r3, r4, r5⟩ := HI.out
    have e : k = far.length := by omega
    have HE : Hid (Own wr (W.heap.size + 1) (.slice (some ⟨g, 0, none⟩) far.length vcap) (relD l far) ∧ Since W.heap.size W wr ∧ Marks W.heap.size ds wr) := by
      rw [e, relK_all] at r1
      exact ⟨r1, r4, r5⟩
    have hc5 := r3.cell
    clear r1 r2 r3 r4 r5 HI HF HFA HU HR
    subst e
    gi_wp2
    refine leaves_marks ds wr HE.out.2.2 HE.out.2.1.2 fun W' hs => ⟨_, results_tmp rfl _ _ _, _, rfl, (hs.own HE.out.1).mono (by omega), HE.out.2.1.1.trans hs.below⟩
end Go.Proofs.Ythlbmkefjjckaad
