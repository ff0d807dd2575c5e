/-
  'playSteps' of the program.
-/
import Derived.Test.YtchddjidjfpehaaPlay0
import Derived.Test.YtchddjidjfpehaaTick
namespace Go.Proofs.Ytchddjidjfpehaa
open Go.RowKit

/-- One of the bools is true. -/
def SomeB (bs : List Bool) : Prop := bs.any id = true

/-- What holds as the steps go on: the pair's box, the answer's, the pair and the bools. -/
structure Ply (W : World) (B : Nat) (bv : Value) (x y z : Value) (p : PR) (bs : List Bool) (w : World) : Prop where
  px : Bx3 w W.heap.size x y z
  rx : Bx3 w (W.heap.size + 1) (.slice none 0 0) (.slice none 0 0) (.slice none 0 0)
  own : Own3 w B x y z p
  fresh : SomeB bs → Own3 w (W.heap.size + 2) x y z p
  rows : ∀ j, Has x y z j → j < W.heap.size ∨ W.heap.size + 2 ≤ j
  bools : OwnB w (W.heap.size + 2) bv bs
  since : Since W.heap.size W w
  bB : B ≤ W.heap.size
theorem Ply.step {W : World} {B : Nat} {bv x y z : Value} {p : PR} {bs : List Bool} {w w' : World} (h : Ply W B bv x y z p bs w) (hb : Below w.heap.size w w') : Ply W B bv x y z p bs w' :=
  ⟨h.px.below hb, h.rx.below hb, h.own.below hb, fun e => (h.fresh e).below hb, h.rows, h.bools.below hb, h.since.step hb, h.bB⟩
theorem Ply.lt {W : World} {B : Nat} {bv x y z : Value} {p : PR} {bs : List Bool} {w : World} (h : Ply W B bv x y z p bs w) : W.heap.size + 2 ≤ w.heap.size := h.rx.lt

/-- A step that is done: the new pair goes into the box. -/
structure Mid1 (W : World) (B : Nat) (bv : Value) (x y z : Value) (p : PR) (bs : List Bool) (c : Bool) (w : World) : Prop where
  px : Bx3 w W.heap.size x y z
  rx : Bx3 w (W.heap.size + 1) (.slice none 0 0) (.slice none 0 0) (.slice none 0 0)
  own : Own3 w B x y z p
  fresh : SomeB (bs ++ [c]) → Own3 w (W.heap.size + 2) x y z p
  rows : ∀ j, Has x y z j → j < W.heap.size ∨ W.heap.size + 2 ≤ j
  bools : OwnB w (W.heap.size + 2) bv bs
  since : Since W.heap.size W w
  bB : B ≤ W.heap.size
theorem Ply.no {W : World} {B : Nat} {bv x y z : Value} {p : PR} {bs : List Bool} {w : World} (h : Ply W B bv x y z p bs w) : Mid1 W B bv x y z p bs false w :=
  ⟨h.px, h.rx, h.own, fun e => h.fresh (by unfold SomeB at *; simpa using e), h.rows, h.bools, h.since, h.bB⟩
theorem Ply.yes {W : World} {B : Nat} {bv x y z x' y' z' : Value} {p p' : PR} {bs : List Bool} {w w' : World} (h : Ply W B bv x y z p bs w) (hb : Below w.heap.size w w') (ho : Own3 w' w.heap.size x' y' z' p') :
    Mid1 W B bv x' y' z' p' bs true (((w'.setCell ⟨W.heap.size, 0, none⟩ x').setCell ⟨W.heap.size, 1, none⟩ y').setCell ⟨W.heap.size, 2, none⟩ z') := by
  have hl := h.lt
  have hx : ∀ j, (⟨W.heap.size, j, none⟩ : Addr).block < w.heap.size := fun j => by show W.heap.size < _; omega
  have h2 : ∀ j, (⟨W.heap.size, j, none⟩ : Addr).block < W.heap.size + 2 := fun j => by show W.heap.size < _; omega
  have hs := h.since.step hb
  have own' := ((ho.setCell (hx 0) x').setCell (hx 1) y').setCell (hx 2) z'
  refine ⟨(((h.px.below hb).put0 _).put1 _).put2 _, (((h.rx.below hb).other (by show W.heap.size ≠ _; omega) _).other (by show W.heap.size ≠ _; omega) _).other (by show W.heap.size ≠ _; omega) _, own'.mono (by have := h.bB; omega), fun _ => own'.mono hl, fun j hj => .inr (by have := (ho.lt j hj).1; omega), (((h.bools.below hb).setCell (h2 0) _).setCell (h2 1) _).setCell (h2 2) _, ⟨((hs.1.setCell (Nat.le_refl _) _).setCell (Nat.le_refl _) _).setCell (Nat.le_refl _) _, by simpa [World.setCell] using hs.2⟩, h.bB⟩
theorem Mid1.step {W : World} {B : Nat} {bv x y z : Value} {p : PR} {bs : List Bool} {c : Bool} {w w' : World} (h : Mid1 W B bv x y z p bs c w) (hb : Below w.heap.size w w') : Mid1 W B bv x y z p bs c w' :=
  ⟨h.px.below hb, h.rx.below hb, h.own.below hb, fun e => (h.fresh e).below hb, h.rows, h.bools.below hb, h.since.step hb, h.bB⟩
theorem Mid1.add {W : World} {B : Nat} {bv bv' x y z : Value} {p : PR} {bs : List Bool} {c : Bool} {w w' : World} (h : Mid1 W B bv x y z p bs c w) (hg : GrewB w (W.heap.size + 2) bv (bs ++ [c]) bv' w') : Ply W B bv' x y z p (bs ++ [c]) w' := by
  have hn := bool_apart h.bools h.own
  have hlow : ∀ j, j < W.heap.size + 2 → w'.heap[j]? = w.heap[j]? := fun j hj => hg.below.block j hj
  have hk : ∀ j, Has x y z j → w'.heap[j]? = w.heap[j]? := fun j hj => hg.grown.block j (h.own.lt j hj).2 (fun e => hn j e.symm hj)
  exact ⟨h.px.same (hlow _ (by omega)) hg.size, h.rx.same (hlow _ (by omega)) hg.size, h.own.same hk, fun e => (h.fresh e).same hk, h.rows, hg.own, ⟨h.since.1.trans (hg.below.mono (by omega)), Nat.le_trans h.since.2 hg.size⟩, h.bB⟩

set_option maxRecDepth 100000 in
set_option maxHeartbeats 4000000 in
theorem playSteps_any (W : World) (B : Nat) (x y z v : Value) (p : PR) (ss : List ST) (h : Own3 W B x y z p) (hB : B ≤ W.heap.size) (hg : goodPr p = true) (hs : ReadsS W v ss) (hl : ss.length ≤ 1048576) :
    Calls Try.prog 55 #[.agg #[x, y, z], v] W fun e W' => ∃ x' y' z' v', e = .returned (.tuple #[.agg #[x', y', z'], v']) ∧ Own3 W' B x' y' z' (playP p ss) ∧ (SomeB (playB p ss) → Own3 W' (W.heap.size + 2) x' y' z' (playP p ss)) ∧ OwnB W' (W.heap.size + 2) v' (playB p ss) ∧ Below W.heap.size W W' := by
  obtain ⟨a4, c4, rfl, hc4⟩ := hs
  have shp : ∃ a1 c1 a2 c2 a3 c3, x = .slice a1 p.st.length c1 ∧ y = .slice a2 p.lf.length c2 ∧ z = .slice a3 p.ln.length c3 := by
    obtain ⟨a1, c1, e1⟩ := h.st.shape
    obtain ⟨a2, c2, e2⟩ := h.lf.shape
    obtain ⟨a3, c3, e3⟩ := h.ln.shape
    exact ⟨a1, c1, a2, c2, a3, c3, e1, e2, e3⟩
  obtain ⟨a1, c1, a2, c2, a3, c3, rfl, rfl, rfl⟩ := shp
  have HP0 : Hid (Ply W B (.slice none 0 0) (.slice a1 p.st.length c1) (.slice a2 p.lf.length c2) (.slice a3 p.ln.length c3) (playP p (ss.take 0)) (playB p (ss.take 0)) ((W.alloc (.cells #[.slice a1 p.st.length c1, .slice a2 p.lf.length c2, .slice a3 p.ln.length c3] 40)).alloc (.cells #[.slice none 0 0, .slice none 0 0, .slice none 0 0] 40))) := by
    have hb1 : Below W.heap.size W (W.alloc (.cells #[.slice a1 p.st.length c1, .slice a2 p.lf.length c2, .slice a3 p.ln.length c3] 40)) := (Below.refl _ W).alloc (Nat.le_refl _) _
    refine ⟨(Bx3.new _ _ _ _ _).below ((Below.refl _ _).alloc (Nat.le_refl _) _), ?_, (h.below hb1).below ((Below.refl _ _).alloc (Nat.le_refl _) _), fun e => by simp [SomeB, playB] at e, fun j hj => .inl (h.lt j hj).2, OwnB.nil _ _, ((Since.start W).step hb1).step ((Below.refl _ _).alloc (Nat.le_refl _) _), hB⟩
    have := Bx3.new (W.alloc (.cells #[.slice a1 p.st.length c1, .slice a2 p.lf.length c2, .slice a3 p.ln.length c3] 40)) (.slice none 0 0) (.slice none 0 0) (.slice none 0 0) 40
    exact (show Bx3 _ _ _ _ _ by simpa using this)
  have HC4 : Hid (ss = [] ∨ ∃ g off, a4 = some ⟨g, off, none⟩ ∧ g < W.heap.size ∧ ∀ j (hj : j < ss.length), StepAt W g (off + j * 2) ss[j]) := hc4
  have HG : Hid (∀ n, goodPr (playP p (ss.take n)) = true) := fun n => play_good _ p hg
  clear h hc4 hg hB
  go_enter Try.func55, Try.ntmps55
  go_wp2
  generalize hw : (W.alloc (.cells #[.slice a1 p.st.length c1, .slice a2 p.lf.length c2, .slice a3 p.ln.length c3] 40)).alloc (.cells #[.slice none 0 0, .slice none 0 0, .slice none 0 0] 40) = w2 at *
  clear hw
  go_loopw [6, 12] (fun b i wr => ∃ n : Nat, n ≤ ss.length ∧ i = .int .i64 n ∧ Hid (∃ x' y' z', Ply W B b x' y' z' (playP p (ss.take n)) (playB p (ss.take n)) wr)) (fun _ i _ => ss.length - (intOf i).toNat)
  case atStart => exact ⟨0, Nat.zero_le _, rfl, _, _, _, HP0.out⟩
  case round =>
    clear HP0
    obtain ⟨n, hn, rfl, HT⟩ := hrel
    obtain ⟨x', y', z', hT⟩ := HT.out
    clear HT
    obtain ⟨q, hq⟩ : ∃ q, q = playP p (ss.take n) := ⟨_, rfl⟩
    have HGq : Hid (goodPr q = true) := by rw [hq]; exact HG.out n
    obtain ⟨bs, hbs⟩ : ∃ bs, bs = playB p (ss.take n) := ⟨_, rfl⟩
    have hbl : bs.length ≤ 1048576 := by rw [hbs, playB_len]; simp; omega
    rw [← hq, ← hbs] at hT
    obtain ⟨ab, cb, rfl⟩ := hT.bools.shape
    by_cases hlt : n < ss.length
    · obtain ⟨g, off, rfl, hgl, hcell⟩ := HC4.out.resolve_left (fun e => by rw [e] at hlt; simp at hlt)
      obtain ⟨n1, n2⟩ := play_next p ss n hlt
      rw [← hq] at n1
      rw [← hq, ← hbs] at n2
      have HN1 : Hid (playP p (ss.take (n + 1)) = oneP q ss[n]) := n1
      have HN2 : Hid (playB p (ss.take (n + 1)) = bs ++ [canB q.ln ss[n].kd ss[n].k]) := n2
      have hst := hcell n hlt
      have hlt' : (n : Int) < (ss.length : Int) := by omega
      obtain ⟨s0, s1⟩ := hst.below hgl hT.since.1
      generalize ss[n] = s at *
      clear n1 n2 hst hcell
      obtain ⟨kd, kk⟩ := s
      simp only at *
      obtain ⟨f1, i1, rfl⟩ := hT.own.st.shape
      obtain ⟨f2, i2, rfl⟩ := hT.own.lf.shape
      obtain ⟨f3, i3, rfl⟩ := hT.own.ln.shape
      have hS : Below wr.heap.size wr (wr.alloc (.cells #[.int .i64 kd, .int .i64 kk] 53)) := (Below.refl _ wr).alloc (Nat.le_refl _) _
      have HT1 : Hid (Ply W B (.slice ab bs.length cb) (.slice f1 q.st.length i1) (.slice f2 q.lf.length i2) (.slice f3 q.ln.length i3) q bs (wr.alloc (.cells #[.int .i64 kd, .int .i64 kk] 53))) := hT.step hS
      have HX1 : Hid (Bx2 (wr.alloc (.cells #[.int .i64 kd, .int .i64 kk] 53)) wr.heap.size (.int .i64 kd) (.int .i64 kk)) := Bx2.new _ _ _ _
      have HL3 : Hid (q.ln.length ≤ 1048576) := by
        obtain ⟨_, _, _, _, _, e, -, -, hl3, -⟩ := goodPr_form q HGq.out
        rw [e]
        show _ ≤ _
        simp only
        omega
      obtain ⟨p0, p1, p2, p3, -⟩ := hT.px
      clear hS hT hq hbs
      go_wp2_with fail
      refine (canStep_any _ _ _ _ q kd kk HT1.out.own.reads HL3.out).mono ?_
      rintro e w3 ⟨rfl, hb3⟩
      have HT3 : Hid (Ply W B (.slice ab bs.length cb) (.slice f1 q.st.length i1) (.slice f2 q.lf.length i2) (.slice f3 q.ln.length i3) q bs w3) := HT1.out.step hb3
      have HX3 : Hid (Bx2 w3 wr.heap.size (.int .i64 kd) (.int .i64 kk)) := HX1.out.below hb3
      clear hb3 p0 p1 p2 p3 s0 s1 HT1 HX1
      cases hc : canB q.ln kd kk with
      | false =>
        rw [hc] at HN2
        have HN1 : Hid (playP p (ss.take (n + 1)) = q) := by show _ = _; rw [HN1.out]; unfold oneP; rw [hc]; rfl
        have HM : Hid (Mid1 W B (.slice ab bs.length cb) (.slice f1 q.st.length i1) (.slice f2 q.lf.length i2) (.slice f3 q.ln.length i3) q bs false w3) := HT3.out.no
        clear hc
        have HC : Hid (∀ ty, ∃ v' w', (Builtin.append_ #[41, 41] ty #[.slice ab bs.length cb, .slice (some ⟨w3.heap.size, 0, none⟩) 1 1]).run Try.prog (w3.alloc (.cells #[.bool false] 4)) = .ok v' w' ∧ GrewB (w3.alloc (.cells #[.bool false] 4)) (W.heap.size + 2) (.slice ab bs.length cb) (bs ++ [false]) v' w') := fun ty =>
          run_catB w3 _ _ bs false (HM.out.step ((Below.refl _ _).alloc (Nat.le_refl _) _)).bools (by omega) HM.out.rx.lt ty
        go_wp2_with (at_builtin; refine list_cat (by rfl) (.tmp 23) (.tmp 25) 41 (by rfl) (.slice ab bs.length cb) (.slice (some ⟨w3.heap.size, 0, none⟩) 1 1) (by rfl) (by rfl) _ HC.out ?_; intro v5 w5 hg5; have HF : Hid (Ply W B v5 (.slice f1 q.st.length i1) (.slice f2 q.lf.length i2) (.slice f3 q.ln.length i3) q (bs ++ [false]) w5) := (HM.out.step ((Below.refl _ _).alloc (Nat.le_refl _) _)).add hg5; clear hg5)
        go_roundw
        case rel => exact ⟨n + 1, by omega, by go_num, _, _, _, by rw [HN1.out, HN2.out]; exact HF.out⟩
        case measure => simp [intOf]; omega
      | true =>
        rw [hc] at HN2
        have HN1 : Hid (playP p (ss.take (n + 1)) = stepP q kd kk) := by show _ = _; rw [HN1.out]; unfold oneP; rw [hc]; rfl
        have HCC : Hid (canB q.ln kd kk = true) := hc
        clear hc
        obtain ⟨p0, p1, p2, p3, -⟩ := HT3.out.px
        obtain ⟨t0, t1, t2, -⟩ := HX3.out
        go_wp2_with fail
        refine (afterStep_any w3 B _ _ _ q kd kk HT3.out.own HGq.out HCC.out).mono ?_
        rintro e w4 ⟨x4, y4, z4, rfl, ho4, hb4⟩
        obtain ⟨j1, e1, rfl⟩ := ho4.st.shape
        obtain ⟨j2, e2, rfl⟩ := ho4.lf.shape
        obtain ⟨j3, e3, rfl⟩ := ho4.ln.shape
        have hM := HT3.out.yes hb4 ho4
        generalize stepP q kd kk = r at *
        clear p0 p1 p2 p3 t0 t1 t2
        obtain ⟨p0, p1, p2, p3, pf⟩ := HT3.out.px.below hb4
        clear ho4 hb4
        have HM : Hid (Mid1 W B (.slice ab bs.length cb) (.slice j1 r.st.length e1) (.slice j2 r.lf.length e2) (.slice j3 r.ln.length e3) r bs true (((w4.setCell ⟨W.heap.size, 0, none⟩ (.slice j1 r.st.length e1)).setCell ⟨W.heap.size, 1, none⟩ (.slice j2 r.lf.length e2)).setCell ⟨W.heap.size, 2, none⟩ (.slice j3 r.ln.length e3))) := hM
        clear hM
        have HC : Hid (∀ ty, ∃ v' w', (Builtin.append_ #[41, 41] ty #[.slice ab bs.length cb, .slice (some ⟨w4.heap.size, 0, none⟩) 1 1]).run Try.prog ((((w4.setCell ⟨W.heap.size, 0, none⟩ (.slice j1 r.st.length e1)).setCell ⟨W.heap.size, 1, none⟩ (.slice j2 r.lf.length e2)).setCell ⟨W.heap.size, 2, none⟩ (.slice j3 r.ln.length e3)).alloc (.cells #[.bool true] 4)) = .ok v' w' ∧ GrewB ((((w4.setCell ⟨W.heap.size, 0, none⟩ (.slice j1 r.st.length e1)).setCell ⟨W.heap.size, 1, none⟩ (.slice j2 r.lf.length e2)).setCell ⟨W.heap.size, 2, none⟩ (.slice j3 r.ln.length e3)).alloc (.cells #[.bool true] 4)) (W.heap.size + 2) (.slice ab bs.length cb) (bs ++ [true]) v' w') := fun ty => by
          rw [show w4.heap.size = ((((w4.setCell ⟨W.heap.size, 0, none⟩ (.slice j1 r.st.length e1)).setCell ⟨W.heap.size, 1, none⟩ (.slice j2 r.lf.length e2)).setCell ⟨W.heap.size, 2, none⟩ (.slice j3 r.ln.length e3))).heap.size from by simp [World.setCell]]
          exact run_catB (((w4.setCell ⟨W.heap.size, 0, none⟩ (.slice j1 r.st.length e1)).setCell ⟨W.heap.size, 1, none⟩ (.slice j2 r.lf.length e2)).setCell ⟨W.heap.size, 2, none⟩ (.slice j3 r.ln.length e3)) _ _ bs true (HM.out.step ((Below.refl _ _).alloc (Nat.le_refl _) _)).bools (by omega) HM.out.rx.lt ty
        go_wp2_with (at_builtin; refine list_cat (by rfl) (.tmp 23) (.tmp 25) 41 (by rfl) (.slice ab bs.length cb) (.slice (some ⟨w4.heap.size, 0, none⟩) 1 1) (by rfl) (by rfl) _ HC.out ?_; intro v5 w5 hg5; have HF : Hid (Ply W B v5 (.slice j1 r.st.length e1) (.slice j2 r.lf.length e2) (.slice j3 r.ln.length e3) r (bs ++ [true]) w5) := (HM.out.step ((Below.refl _ _).alloc (Nat.le_refl _) _)).add hg5; clear hg5)
        go_roundw
        case rel => exact ⟨n + 1, by omega, by go_num, _, _, _, by rw [HN1.out, HN2.out]; exact HF.out⟩
        case measure => simp [intOf]; omega
    · have hlt' : ¬ (n : Int) < (ss.length : Int) := by omega
      have en : ss.take n = ss := List.take_of_length_le (by omega)
      rw [en] at hq hbs
      obtain ⟨f1, i1, rfl⟩ := hT.own.st.shape
      obtain ⟨f2, i2, rfl⟩ := hT.own.lf.shape
      obtain ⟨f3, i3, rfl⟩ := hT.own.ln.shape
      have HT1 : Hid (Ply W B (.slice ab bs.length cb) (.slice f1 q.st.length i1) (.slice f2 q.lf.length i2) (.slice f3 q.ln.length i3) q bs wr) := hT
      have HQ : Hid (q = playP p ss) := hq
      have HBS : Hid (bs = playB p ss) := hbs
      obtain ⟨p0, p1, p2, p3, -⟩ := hT.px
      obtain ⟨y0, y1, y2, y3, yf⟩ := hT.rx
      clear hT hq hbs en
      go_wp2
      refine bodyPost_ret (v := .tuple #[.agg #[.slice f1 q.st.length i1, .slice f2 q.lf.length i2, .slice f3 q.ln.length i3], .slice ab bs.length cb]) (by simp [results, Try.results55, go_sem, y1, y2, y3]) rfl ?_
      have hn1 : ¬ Has (.slice f1 q.st.length i1) (.slice f2 q.lf.length i2) (.slice f3 q.ln.length i3) (W.heap.size + 1) := fun hh => by rcases HT1.out.rows _ hh with h1 | h1 <;> omega
      refine ⟨_, _, _, _, rfl, ?_, fun e => ?_, ?_, ?_⟩
      · rw [← HQ.out]
        exact ((HT1.out.own.away (a := ⟨W.heap.size + 1, 0, none⟩) hn1 _).away (a := ⟨W.heap.size + 1, 1, none⟩) hn1 _).away (a := ⟨W.heap.size + 1, 2, none⟩) hn1 _
      · rw [← HBS.out] at e
        rw [← HQ.out]
        exact (((HT1.out.fresh e).away (a := ⟨W.heap.size + 1, 0, none⟩) hn1 _).away (a := ⟨W.heap.size + 1, 1, none⟩) hn1 _).away (a := ⟨W.heap.size + 1, 2, none⟩) hn1 _
      · rw [← HBS.out]
        exact ((HT1.out.bools.setCell (by simp) _).setCell (by simp) _).setCell (by simp) _
      · exact ((HT1.out.since.1.setCell (by simp) _).setCell (by simp) _).setCell (by simp) _
end Go.Proofs.Ytchddjidjfpehaa
