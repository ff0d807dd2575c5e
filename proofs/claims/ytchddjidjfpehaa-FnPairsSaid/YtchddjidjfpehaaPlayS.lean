/-
  'PlayPair' of the model.
-/
import Derived.Test.YtchddjidjfpehaaStepS
import Derived.Test.YtchddjidjfpehaaPlayPI
import Derived.Deep.CutRange
namespace Go.Proofs.Ytchddjidjfpehaa
open Go.RowKit
set_option linter.unusedVariables false

/-- What holds as the steps go on: the pair's box, the answer's, the pair and the bools. -/
structure Pls (W : World) (bp : Nat) (x y z : Value) (q : PR) (v : Value) (bs : List Bool) (w : World) : Prop where
  px : Bx3 w bp x y z
  rx : Bx3 w W.heap.size (.slice none 0 0) (.slice none 0 0) (.slice none 0 0)
  own : Own3 w (W.heap.size + 1) x y z q
  rows : ∀ j, Has x y z j → j ≠ bp
  bools : OwnB w (bp + 1) v bs
  since : Since W.heap.size W w
  lo : W.heap.size < bp
theorem Pls.step {W : World} {bp : Nat} {x y z v : Value} {q : PR} {bs : List Bool} {w w' : World} (h : Pls W bp x y z q v bs w) (hb : Below w.heap.size w w') : Pls W bp x y z q v bs w' :=
  ⟨h.px.below hb, h.rx.below hb, h.own.below hb, h.rows, h.bools.below hb, h.since.step hb, h.lo⟩
/-- The new pair goes into the box. -/
theorem Pls.put {W : World} {bp : Nat} {x y z x' y' z' v : Value} {q q' : PR} {bs : List Bool} {w w' : World} (h : Pls W bp x y z q v bs w) (hb : Below w.heap.size w w') (ho : Own3 w' w.heap.size x' y' z' q') :
    Pls W bp x' y' z' q' v bs (((w'.setCell ⟨bp, 0, none⟩ x').setCell ⟨bp, 1, none⟩ y').setCell ⟨bp, 2, none⟩ z') := by
  have hl := h.px.lt
  have hlo := h.lo
  have hx : ∀ j, (⟨bp, j, none⟩ : Addr).block < w.heap.size := fun j => hl
  have h2 : ∀ j, (⟨bp, j, none⟩ : Addr).block < bp + 1 := fun j => Nat.lt_succ_self _
  have hs := h.since.step hb
  refine ⟨(((h.px.below hb).put0 _).put1 _).put2 _, (((h.rx.below hb).other (by show bp ≠ _; omega) _).other (by show bp ≠ _; omega) _).other (by show bp ≠ _; omega) _, (((ho.setCell (hx 0) x').setCell (hx 1) y').setCell (hx 2) z').mono (by omega), fun j hj => by have := (ho.lt j hj).1; omega, (((h.bools.below hb).setCell (h2 0) _).setCell (h2 1) _).setCell (h2 2) _, ⟨((hs.1.setCell (by show _ ≤ bp; omega) _).setCell (by show _ ≤ bp; omega) _).setCell (by show _ ≤ bp; omega) _, by simpa [World.setCell] using hs.2⟩, h.lo⟩
theorem Pls.add {W : World} {bp : Nat} {x y z v v' : Value} {q : PR} {bs bs' : List Bool} {w w' : World} {o : Obj} (h : Pls W bp x y z q v bs w) (hg : GrewB (w.alloc o) (bp + 1) v bs' v' w') : Pls W bp x y z q v' bs' w' := by
  have h1 := h.step ((Below.refl _ w).alloc (Nat.le_refl _) o)
  have hn := bool_apart h1.bools h1.own
  have hlow : ∀ j, j < bp + 1 → w'.heap[j]? = (w.alloc o).heap[j]? := fun j hj => hg.below.block j hj
  have hk : ∀ j, Has x y z j → w'.heap[j]? = (w.alloc o).heap[j]? := fun j hj => hg.grown.block j (h1.own.lt j hj).2 (fun e => hn j e.symm hj)
  have hlo := h.lo
  exact ⟨h1.px.same (hlow _ (by omega)) hg.size, h1.rx.same (hlow _ (by omega)) hg.size, h1.own.same hk, h.rows, hg.own, ⟨h1.since.1.trans (hg.below.mono (by omega)), Nat.le_trans h1.since.2 hg.size⟩, h.lo⟩

set_option maxRecDepth 100000 in
set_option maxHeartbeats 8000000 in
theorem specPlay_any (W : World) (v : Value) (ss : List ST) (hs : ReadsS W v ss) (hl : ss.length ≤ 1048576) :
    Calls Try.prog 18 #[v] W fun e W' => ∃ x y z b, e = .returned (.tuple #[.agg #[x, y, z], b, .bool (playOk ss)]) ∧ Own3 W' W.heap.size x y z (playOut ss) ∧ OwnB W' W.heap.size b (playDid ss) ∧ Below W.heap.size W W' := by
  obtain ⟨a4, c4, rfl, hc4⟩ := hs
  have HR0 : Hid (Bx3 (W.alloc (.cells #[.slice none 0 0, .slice none 0 0, .slice none 0 0] 40)) W.heap.size (.slice none 0 0) (.slice none 0 0) (.slice none 0 0)) := Bx3.new _ _ _ _ _
  have HS0 : Hid (Since W.heap.size W (W.alloc (.cells #[.slice none 0 0, .slice none 0 0, .slice none 0 0] 40))) := (Since.start W).step ((Below.refl _ _).alloc (Nat.le_refl _) _)
  by_cases h60 : ss.length ≤ 60
  · have hok : playOk ss = true := decide_eq_true h60
    obtain ⟨pq, hpq⟩ : ∃ pq, pq = playP (newP 0) ss := ⟨_, rfl⟩
    obtain ⟨pb, hpb⟩ : ∃ pb, pb = playB (newP 0) ss := ⟨_, rfl⟩
    rw [hok, show playOut ss = pq from by unfold playOut; rw [if_pos hok, hpq], show playDid ss = pb from by unfold playDid; rw [if_pos hok, hpb]]
    have HQ : Hid (playP (newP 0) ss = pq) := hpq.symm
    have HBS : Hid (playB (newP 0) ss = pb) := hpb.symm
    have hle : ¬ (60 : Int) < (ss.length : Int) := by omega
    have HC4 : Hid (ss = [] ∨ ∃ g off, a4 = some ⟨g, off, none⟩ ∧ g < W.heap.size ∧ ∀ j (hj : j < ss.length), StepAt W g (off + j * 2) ss[j]) := hc4
    have HGP : Hid (∀ n, goodPr (playP (newP 0) (ss.take n)) = true) := fun n => play_good _ _ new_good
    clear hc4 hpq hpb hok
    go_enter Try.func18, Try.ntmps18
    go_wp2_with fail
    refine (specNew_any 0 _).mono ?_
    rintro e w1 ⟨x1, y1, z1, rfl, ho1, hb1⟩
    obtain ⟨a1, c1, rfl⟩ := ho1.st.shape
    obtain ⟨a2, c2, rfl⟩ := ho1.lf.shape
    obtain ⟨a3, c3, rfl⟩ := ho1.ln.shape
    obtain ⟨bp, hbp⟩ : ∃ bp, bp = w1.heap.size := ⟨_, rfl⟩
    have hlo : W.heap.size < bp := by have := hb1.size; simp at this; omega
    have HP0 : Hid (Pls W bp (.slice a1 (newP 0).st.length c1) (.slice a2 (newP 0).lf.length c2) (.slice a3 (newP 0).ln.length c3) (playP (newP 0) (ss.take 0)) (.slice none 0 0) (playB (newP 0) (ss.take 0)) (w1.alloc (.cells #[.slice a1 (newP 0).st.length c1, .slice a2 (newP 0).lf.length c2, .slice a3 (newP 0).ln.length c3] 40))) := by
      have hA : Below w1.heap.size w1 (w1.alloc (.cells #[.slice a1 (newP 0).st.length c1, .slice a2 (newP 0).lf.length c2, .slice a3 (newP 0).ln.length c3] 40)) := ((Below.refl _ _).alloc (Nat.le_refl _) _)
      refine ⟨by rw [hbp]; exact Bx3.new _ _ _ _ _, (HR0.out.below hb1).below hA, ?_, fun j hj => by have := (ho1.lt j hj).2; omega, OwnB.nil _ _, (HS0.out.step hb1).step hA, hlo⟩
      have := ho1.below hA
      exact (show Own3 _ _ _ _ _ (newP 0) by simpa using this)
    clear ho1 hb1 HR0 HS0
    go_wp2
    generalize hwA : w1.alloc (.cells #[.slice a1 (newP 0).st.length c1, .slice a2 (newP 0).lf.length c2, .slice a3 (newP 0).ln.length c3] 40) = wA at *
    clear hwA
    rw [← hbp]
    clear hbp
    go_loopw [7, 22] (fun b i wr => ∃ n : Nat, n ≤ ss.length ∧ i = .int .i64 n ∧ Hid (∃ x' y' z', Pls W bp x' y' z' (playP (newP 0) (ss.take n)) b (playB (newP 0) (ss.take n)) wr)) (fun _ i _ => ss.length - (intOf i).toNat)
    case atStart => exact ⟨0, Nat.zero_le _, rfl, _, _, _, HP0.out⟩
    case round =>
      clear HP0
      obtain ⟨n, hn, rfl, HT⟩ := hrel
      obtain ⟨x', y', z', hT⟩ := HT.out
      clear HT
      obtain ⟨q, hq⟩ : ∃ q, q = playP (newP 0) (ss.take n) := ⟨_, rfl⟩
      have HG : Hid (goodPr q = true) := by rw [hq]; exact HGP.out n
      obtain ⟨bs, hbs⟩ : ∃ bs, bs = playB (newP 0) (ss.take n) := ⟨_, rfl⟩
      have hbl : bs.length ≤ 1048576 := by rw [hbs, playB_len]; simp; omega
      have hql : q.st.length ≤ 1048576 ∧ q.lf.length ≤ 1048576 ∧ q.ln.length ≤ 1048576 := by
        obtain ⟨_, _, _, _, _, e, -, -, hl3, -⟩ := goodPr_form q HG.out
        rw [e]
        exact ⟨by simp, by simp, by simp only; omega⟩
      rw [← hq, ← hbs] at hT
      obtain ⟨ab, cb, rfl⟩ := hT.bools.shape
      obtain ⟨a1, c1, rfl⟩ := hT.own.st.shape
      obtain ⟨a2, c2, rfl⟩ := hT.own.lf.shape
      obtain ⟨a3, c3, rfl⟩ := hT.own.ln.shape
      by_cases hlt : n < ss.length
      · obtain ⟨g, off, rfl, hgl, hcell⟩ := HC4.out.resolve_left (fun e => by rw [e] at hlt; simp at hlt)
        obtain ⟨n1, n2⟩ := play_next (newP 0) ss n hlt
        rw [← hq] at n1
        rw [← hq, ← hbs] at n2
        have hst := hcell n hlt
        have hlt' : (n : Int) < (ss.length : Int) := by omega
        obtain ⟨s0, s1⟩ := hst.below hgl hT.since.1
        generalize ss[n] = s at *
        clear hst hcell
        obtain ⟨kd, kk⟩ := s
        simp only at *
        obtain ⟨ok, hok⟩ : ∃ ok, ok = canB q.ln kd kk := ⟨_, rfl⟩
        rw [← hok] at n2
        have HOK : Hid (canB q.ln kd kk = ok) := hok.symm
        have HN2 : Hid (playB (newP 0) (ss.take (n + 1)) = bs ++ [ok]) := n2
        have HNY : Hid (ok = true → playP (newP 0) (ss.take (n + 1)) = stepP q kd kk) := fun h => by rw [n1]; unfold oneP; rw [← hok, h]; rfl
        have HNN : Hid (ok = false → playP (newP 0) (ss.take (n + 1)) = q) := fun h => by rw [n1]; unfold oneP; rw [← hok, h]; rfl
        obtain ⟨h1, h2, h3⟩ := hql
        obtain ⟨bq, hbq⟩ : ∃ b, b = wr.heap.size := ⟨_, rfl⟩
        have HT1 : Hid (Pls W bp (.slice a1 q.st.length c1) (.slice a2 q.lf.length c2) (.slice a3 q.ln.length c3) q (.slice ab bs.length cb) bs (wr.alloc (.cells #[.int .i64 kd, .int .i64 kk] 53))) := hT.step ((Below.refl _ _).alloc (Nat.le_refl _) _)
        have HX1 : Hid (Bx2 (wr.alloc (.cells #[.int .i64 kd, .int .i64 kk] 53)) bq (.int .i64 kd) (.int .i64 kk)) := by rw [hbq]; exact Bx2.new _ _ _ _
        clear n1 n2 hT hq hbs hok
        go_wp2
        generalize hw1 : wr.alloc (.cells #[.int .i64 kd, .int .i64 kk] 53) = w1 at *
        clear hw1
        rw [← hbq]
        clear hbq s0 s1
        have HPx : Hid (Bx3 w1 bp (.slice a1 q.st.length c1) (.slice a2 q.lf.length c2) (.slice a3 q.ln.length c3)) := HT1.out.px
        have HTx : Hid (Bx2 w1 bq (.int .i64 kd) (.int .i64 kk)) := HX1.out
        have HOx : Hid (Own3 w1 (W.heap.size + 1) (.slice a1 q.st.length c1) (.slice a2 q.lf.length c2) (.slice a3 q.ln.length c3) q) := HT1.out.own
        go_cut [10, 11] from 26 to 32 (fun s10 s11 wc => ∃ (b : Nat) (x3 y3 z3 : Value) (r : PR), s10 = .pointer (some ⟨b, 0, none⟩) ∧ s11 = .bool ok ∧ Hid (Bx3 wc b x3 y3 z3 ∧ Own3 wc w1.heap.size x3 y3 z3 r ∧ (ok = true → r = stepP q kd kk) ∧ Below w1.heap.size w1 wc))
        case first =>
          have HP1 : Bx3 w1.drew bp (.slice a1 q.st.length c1) (.slice a2 q.lf.length c2) (.slice a3 q.ln.length c3) := HPx.out.drew
          have HT1 : Bx2 w1.drew bq (.int .i64 kd) (.int .i64 kk) := HTx.out.drew
          have HO1 : Own3 w1.drew (W.heap.size + 1) (.slice a1 q.st.length c1) (.slice a2 q.lf.length c2) (.slice a3 q.ln.length c3) q := HOx.out.below ((Below.refl _ w1).drew)
          have HA1 : Below w1.heap.size w1 (w1.alloc (.cells #[.slice none 0 0, .slice none 0 0, .slice none 0 0] 40)).drew := ((Below.refl _ w1).alloc (Nat.le_refl _) _).drew
          have HPc : Bx3 (w1.alloc (.cells #[.slice none 0 0, .slice none 0 0, .slice none 0 0] 40)).drew bp (.slice a1 q.st.length c1) (.slice a2 q.lf.length c2) (.slice a3 q.ln.length c3) := HPx.out.below HA1
          have HTc : Bx2 (w1.alloc (.cells #[.slice none 0 0, .slice none 0 0, .slice none 0 0] 40)).drew bq (.int .i64 kd) (.int .i64 kk) := HTx.out.below HA1
          have HOc : Own3 (w1.alloc (.cells #[.slice none 0 0, .slice none 0 0, .slice none 0 0] 40)).drew (W.heap.size + 1) (.slice a1 q.st.length c1) (.slice a2 q.lf.length c2) (.slice a3 q.ln.length c3) q := HOx.out.below HA1
          have HBc : Bx3 (w1.alloc (.cells #[.slice none 0 0, .slice none 0 0, .slice none 0 0] 40)).drew w1.heap.size (.slice none 0 0) (.slice none 0 0) (.slice none 0 0) := (Bx3.new _ _ _ _ _).drew
          have hzc : (w1.alloc (.cells #[.slice none 0 0, .slice none 0 0, .slice none 0 0] 40)).drew.heap.size = w1.heap.size + 1 := by simp [World.drew]
          have hzd : w1.drew.heap.size = w1.heap.size := rfl
          have u1 : bp < w1.heap.size := HP1.lt
          have u2 : bq < w1.heap.size := HT1.lt
          obtain ⟨p0, p1, p2, p3, -⟩ := HPx.out
          obtain ⟨t0, t1, t2, -⟩ := HTx.out
          go_region_held3 (fun w' => w'.cell? ⟨bp, 0, none⟩ = some (.slice a1 q.st.length c1) ∧ w'.cell? ⟨bp, 1, none⟩ = some (.slice a2 q.lf.length c2) ∧ w'.cell? ⟨bp, 2, none⟩ = some (.slice a3 q.ln.length c3) ∧ w'.cell? ⟨bq, 0, none⟩ = some (.int .i64 kd) ∧ w'.cell? ⟨bq, 1, none⟩ = some (.int .i64 kk))
            (first | with_reducible exact held5 HP3 HT3 | with_reducible exact held5_al HP3 HT3 _ | with_reducible exact held5_set HP3 HT3 hx1 hx2 _ _ _ | with_reducible exact held5 HP2 HT2 | with_reducible exact held5_al HP2 HT2 _ | with_reducible exact held5 HP1 HT1 | with_reducible exact held5 HPc HTc | fail)
            (first
              | (refine step_call (by rfl) 57 #[.agg #[.slice a1 q.st.length c1, .slice a2 q.lf.length c2, .slice a3 q.ln.length c3]] (by simp [go_sem]) ((l3Own_any w1.drew (W.heap.size + 1) _ _ _ q HO1 h1 h2 h3).mono ?_); rintro e w2 ⟨x2, y2, z2, rfl, ho2, hb2⟩; refine ⟨_, rfl, ?_⟩; obtain ⟨b1, d1, rfl⟩ := ho2.st.shape; obtain ⟨b2, d2, rfl⟩ := ho2.lf.shape; obtain ⟨b3, d3, rfl⟩ := ho2.ln.shape; have HP2 := HP1.below hb2; have HT2 := HT1.below hb2; have hz2 := hb2.size; have hB2 : Below w1.heap.size w1 w2 := (Below.trans ((Below.refl _ w1).drew) hb2); have HA2 : Below w2.heap.size w2 (w2.alloc (.cells #[.slice none 0 0, .slice none 0 0, .slice none 0 0] 40)) := (Below.refl _ w2).alloc (Nat.le_refl _) _)
              | (refine step_call (by rfl) 57 #[.agg #[.slice a1 q.st.length c1, .slice a2 q.lf.length c2, .slice a3 q.ln.length c3]] (by simp [go_sem]) ((l3Own_any (w1.alloc (.cells #[.slice none 0 0, .slice none 0 0, .slice none 0 0] 40)).drew (W.heap.size + 1) _ _ _ q HOc h1 h2 h3).mono ?_); rintro e w2 ⟨x2, y2, z2, rfl, ho2, hb2⟩; refine ⟨_, rfl, ?_⟩; obtain ⟨b1, d1, rfl⟩ := ho2.st.shape; obtain ⟨b2, d2, rfl⟩ := ho2.lf.shape; obtain ⟨b3, d3, rfl⟩ := ho2.ln.shape; have HP2 := HPc.below hb2; have HT2 := HTc.below hb2; have HB2 := HBc.below hb2; have hz2 := hb2.size; have hB2 : Below w1.heap.size w1 w2 := (Below.trans HA1 (hb2.mono (by rw [hzc]; omega))))
              | (refine step_call (by rfl) 56 #[.agg #[.slice b1 q.st.length d1, .slice b2 q.lf.length d2, .slice b3 q.ln.length d3], .agg #[.int .i64 kd, .int .i64 kk]] (by simp [go_sem]) ((l3Step_any w2 _ _ _ _ q kd kk ho2 hz2 HG.out).mono ?_); rintro e w3 ⟨r, hr, x3, y3, z3, rfl, ho3, hb3, hk3, hr3⟩; refine ⟨_, rfl, ?_⟩; rw [HOK.out] at hr ⊢; obtain ⟨f1, i1, rfl⟩ := ho3.st.shape; obtain ⟨f2, i2, rfl⟩ := ho3.lf.shape; obtain ⟨f3, i3, rfl⟩ := ho3.ln.shape; have HS3 : Since _ w2 w3 := ⟨hb3, Nat.le_trans hz2 hk3.size⟩; have HP3 := HP2.since HS3 (by omega); have HT3 := HT2.since2 HS3 (by omega); (try (obtain ⟨g0, g1, g2, g3, gf⟩ := HB2.since HS3 (by omega))); have hx1 : w1.heap.size ≠ bp := (by omega); have hx2 : w1.heap.size ≠ bq := (by omega))
              | (refine step_call (by rfl) 56 #[.agg #[.slice b1 q.st.length d1, .slice b2 q.lf.length d2, .slice b3 q.ln.length d3], .agg #[.int .i64 kd, .int .i64 kk]] (by simp [go_sem]) ((l3Step_any (w2.alloc (.cells #[.slice none 0 0, .slice none 0 0, .slice none 0 0] 40)) _ _ _ _ q kd kk (ho2.below HA2) (Nat.le_trans hz2 HA2.size) HG.out).mono ?_); rintro e w3 ⟨r, hr, x3, y3, z3, rfl, ho3, hb3, hk3, hr3⟩; refine ⟨_, rfl, ?_⟩; rw [HOK.out] at hr ⊢; obtain ⟨f1, i1, rfl⟩ := ho3.st.shape; obtain ⟨f2, i2, rfl⟩ := ho3.lf.shape; obtain ⟨f3, i3, rfl⟩ := ho3.ln.shape; have HS3 : Since _ (w2.alloc (.cells #[.slice none 0 0, .slice none 0 0, .slice none 0 0] 40)) w3 := ⟨hb3, Nat.le_trans (Nat.le_trans hz2 HA2.size) hk3.size⟩; have HP3 := (HP2.below HA2).since HS3 (by omega); have HT3 := (HT2.below HA2).since2 HS3 (by omega); obtain ⟨g0, g1, g2, g3, gf⟩ := (Bx3.new w2 (.slice none 0 0) (.slice none 0 0) (.slice none 0 0) 40).keep hk3 (fun hh => Nat.lt_irrefl _ (ho2.lt _ hh).2); have hx1 : w2.heap.size ≠ bp := (by omega); have hx2 : w2.heap.size ≠ bq := (by omega))
              | fail)
          · have HAL : Below w3.heap.size w3 (w3.alloc (.cells #[.slice f1 r.st.length i1, .slice f2 r.lf.length i2, .slice f3 r.ln.length i3] 40)) := (Below.refl _ w3).alloc (Nat.le_refl _) _
            have HF : Hid (Bx3 (w3.alloc (.cells #[.slice f1 r.st.length i1, .slice f2 r.lf.length i2, .slice f3 r.ln.length i3] 40)) w3.heap.size (.slice f1 r.st.length i1) (.slice f2 r.lf.length i2) (.slice f3 r.ln.length i3) ∧ Own3 (w3.alloc (.cells #[.slice f1 r.st.length i1, .slice f2 r.lf.length i2, .slice f3 r.ln.length i3] 40)) w1.heap.size (.slice f1 r.st.length i1) (.slice f2 r.lf.length i2) (.slice f3 r.ln.length i3) r ∧ (ok = true → r = stepP q kd kk) ∧ Below w1.heap.size w1 (w3.alloc (.cells #[.slice f1 r.st.length i1, .slice f2 r.lf.length i2, .slice f3 r.ln.length i3] 40))) := ⟨Bx3.new _ _ _ _ _, (ho3.below HAL).mono (by rw [hzd]; exact Nat.le_refl _), hr, (hB2.trans (hb3.mono (by rw [hzd]; exact Nat.le_refl _))).trans (HAL.mono (by have := HS3.2; omega))⟩
            go_wp2_with fail
            go_meet
            exact ⟨_, _, _, _, _, rfl, rfl, HF⟩
          · have hn : ¬ Has (.slice f1 r.st.length i1) (.slice f2 r.lf.length i2) (.slice f3 r.ln.length i3) w2.heap.size := fun hh => by
              rcases hr3 _ hh with ⟨h4, -⟩ | h4
              · exact Nat.lt_irrefl _ (ho2.lt _ h4).2
              · simp at h4
                omega
            have HB3 : Bx3 w3 w2.heap.size (.slice none 0 0) (.slice none 0 0) (.slice none 0 0) := ⟨g0, g1, g2, g3, gf⟩
            have HW3 : Below w1.heap.size w1 w3 := (hB2.trans (HA2.mono (by omega))).trans (hb3.mono (by rw [hzd]; exact Nat.le_refl _))
            have HF : Hid (Bx3 (((w3.setCell ⟨w2.heap.size, 0, none⟩ (.slice f1 r.st.length i1)).setCell ⟨w2.heap.size, 1, none⟩ (.slice f2 r.lf.length i2)).setCell ⟨w2.heap.size, 2, none⟩ (.slice f3 r.ln.length i3)) w2.heap.size (.slice f1 r.st.length i1) (.slice f2 r.lf.length i2) (.slice f3 r.ln.length i3) ∧ Own3 (((w3.setCell ⟨w2.heap.size, 0, none⟩ (.slice f1 r.st.length i1)).setCell ⟨w2.heap.size, 1, none⟩ (.slice f2 r.lf.length i2)).setCell ⟨w2.heap.size, 2, none⟩ (.slice f3 r.ln.length i3)) w1.heap.size (.slice f1 r.st.length i1) (.slice f2 r.lf.length i2) (.slice f3 r.ln.length i3) r ∧ (ok = true → r = stepP q kd kk) ∧ Below w1.heap.size w1 (((w3.setCell ⟨w2.heap.size, 0, none⟩ (.slice f1 r.st.length i1)).setCell ⟨w2.heap.size, 1, none⟩ (.slice f2 r.lf.length i2)).setCell ⟨w2.heap.size, 2, none⟩ (.slice f3 r.ln.length i3))) := ⟨((HB3.put0 _).put1 _).put2 _, (((ho3.away (a := ⟨w2.heap.size, 0, none⟩) hn _).away (a := ⟨w2.heap.size, 1, none⟩) hn _).away (a := ⟨w2.heap.size, 2, none⟩) hn _).mono (by rw [hzd]; exact Nat.le_refl _), hr, ((HW3.setCell (p := ⟨w2.heap.size, 0, none⟩) (by show _ ≤ w2.heap.size; omega) _).setCell (p := ⟨w2.heap.size, 1, none⟩) (by show _ ≤ w2.heap.size; omega) _).setCell (p := ⟨w2.heap.size, 2, none⟩) (by show _ ≤ w2.heap.size; omega) _⟩
            go_wp2_with fail
            go_meet
            exact ⟨_, _, _, _, _, rfl, rfl, HF⟩
          · have hn : ¬ Has (.slice f1 r.st.length i1) (.slice f2 r.lf.length i2) (.slice f3 r.ln.length i3) w1.heap.size := fun hh => by
              have := (ho3.lt _ hh).1
              rw [hzc] at this
              omega
            have HB3 : Bx3 w3 w1.heap.size (.slice none 0 0) (.slice none 0 0) (.slice none 0 0) := ⟨g0, g1, g2, g3, gf⟩
            have HW3 : Below w1.heap.size w1 w3 := hB2.trans (hb3.mono (by rw [hzc]; omega))
            have HF : Hid (Bx3 (((w3.setCell ⟨w1.heap.size, 0, none⟩ (.slice f1 r.st.length i1)).setCell ⟨w1.heap.size, 1, none⟩ (.slice f2 r.lf.length i2)).setCell ⟨w1.heap.size, 2, none⟩ (.slice f3 r.ln.length i3)) w1.heap.size (.slice f1 r.st.length i1) (.slice f2 r.lf.length i2) (.slice f3 r.ln.length i3) ∧ Own3 (((w3.setCell ⟨w1.heap.size, 0, none⟩ (.slice f1 r.st.length i1)).setCell ⟨w1.heap.size, 1, none⟩ (.slice f2 r.lf.length i2)).setCell ⟨w1.heap.size, 2, none⟩ (.slice f3 r.ln.length i3)) w1.heap.size (.slice f1 r.st.length i1) (.slice f2 r.lf.length i2) (.slice f3 r.ln.length i3) r ∧ (ok = true → r = stepP q kd kk) ∧ Below w1.heap.size w1 (((w3.setCell ⟨w1.heap.size, 0, none⟩ (.slice f1 r.st.length i1)).setCell ⟨w1.heap.size, 1, none⟩ (.slice f2 r.lf.length i2)).setCell ⟨w1.heap.size, 2, none⟩ (.slice f3 r.ln.length i3))) := ⟨((HB3.put0 _).put1 _).put2 _, (((ho3.away (a := ⟨w1.heap.size, 0, none⟩) hn _).away (a := ⟨w1.heap.size, 1, none⟩) hn _).away (a := ⟨w1.heap.size, 2, none⟩) hn _).mono (by rw [hzc]; omega), hr, ((HW3.setCell (p := ⟨w1.heap.size, 0, none⟩) (Nat.le_refl _) _).setCell (p := ⟨w1.heap.size, 1, none⟩) (Nat.le_refl _) _).setCell (p := ⟨w1.heap.size, 2, none⟩) (Nat.le_refl _) _⟩
            go_wp2_with fail
            go_meet
            exact ⟨_, _, _, _, _, rfl, rfl, HF⟩
        case rest =>
          obtain ⟨b10, x3, y3, z3, r, rfl, rfl, HH⟩ := hcut
          obtain ⟨hbx, hor, hrr, hbw⟩ := HH.out
          obtain ⟨f1, i1, rfl⟩ := hor.st.shape
          obtain ⟨f2, i2, rfl⟩ := hor.lf.shape
          obtain ⟨f3, i3, rfl⟩ := hor.ln.shape
          generalize hwc5 : wc = w5 at *
          clear hwc5
          have HBX : Hid (Bx3 w5 b10 (.slice f1 r.st.length i1) (.slice f2 r.lf.length i2) (.slice f3 r.ln.length i3)) := hbx
          have HOR : Hid (Own3 w5 w1.heap.size (.slice f1 r.st.length i1) (.slice f2 r.lf.length i2) (.slice f3 r.ln.length i3) r) := hor
          have HT5 : Hid (Pls W bp (.slice a1 q.st.length c1) (.slice a2 q.lf.length c2) (.slice a3 q.ln.length c3) q (.slice ab bs.length cb) bs w5) := HT1.out.step hbw
          have HBW : Hid (Below w1.heap.size w1 w5) := hbw
          have HRR : Hid (ok = true → r = stepP q kd kk) := hrr
          clear HH hbx hor hrr hbw HPx HTx HOx HX1 h1 h2 h3
          cases ok with
          | false =>
            have HN1 : Hid (playP (newP 0) (ss.take (n + 1)) = q) := HNN.out rfl
            have HPL := HT5
            clear HNY HNN HRR HT1 HT5
            have HC : Hid (∀ ty, ∃ v' w', (Builtin.append_ #[41, 41] ty #[.slice ab bs.length cb, .slice (some ⟨w5.heap.size, 0, none⟩) 1 1]).run Try.prog (w5.alloc (.cells #[.bool false] 4)) = .ok v' w' ∧ GrewB (w5.alloc (.cells #[.bool false] 4)) (bp + 1) (.slice ab bs.length cb) (bs ++ [false]) v' w') := fun ty => by
              have := run_catB w5 (bp + 1) (.slice ab bs.length cb) bs false (HPL.out.bools.below ((Below.refl _ _).alloc (Nat.le_refl _) _)) (by omega) (by have := HPL.out.px.lt; omega) ty
              rw [show (w5).heap.size = w5.heap.size by first | rfl | simp [World.setCell]] at this
              exact this
            go_wp2_with (at_builtin; refine list_cat (by rfl) (.tmp 35) (.tmp 37) 41 (by rfl) (.slice ab bs.length cb) (.slice (some ⟨w5.heap.size, 0, none⟩) 1 1) (by rfl) (by rfl) _ HC.out ?_; intro v8 w8 hg8; have HE8 := HPL.out.add hg8; clear hg8)
            go_roundw
            case rel => exact ⟨n + 1, by omega, by go_num, _, _, _, by rw [HN1.out, HN2.out]; exact HE8⟩
            case measure => simp [intOf]; omega
          | true =>
            have HN1 : Hid (playP (newP 0) (ss.take (n + 1)) = r) := by show _ = _; rw [HNY.out rfl, HRR.out rfl]
            have HPL : Hid (Pls W bp (.slice f1 r.st.length i1) (.slice f2 r.lf.length i2) (.slice f3 r.ln.length i3) r (.slice ab bs.length cb) bs (((w5.setCell ⟨bp, 0, none⟩ (.slice f1 r.st.length i1)).setCell ⟨bp, 1, none⟩ (.slice f2 r.lf.length i2)).setCell ⟨bp, 2, none⟩ (.slice f3 r.ln.length i3))) := HT1.out.put HBW.out HOR.out
            obtain ⟨m0, m1, m2, m3, -⟩ := HBX.out
            obtain ⟨k0, k1, k2, k3, kf⟩ := HT5.out.px
            have kf0 := kf 0
            have kf1 := kf 1
            have kf2 := kf 2
            clear HNY HNN HRR HT1 HT5 kf
            have HC : Hid (∀ ty, ∃ v' w', (Builtin.append_ #[41, 41] ty #[.slice ab bs.length cb, .slice (some ⟨w5.heap.size, 0, none⟩) 1 1]).run Try.prog ((((w5.setCell ⟨bp, 0, none⟩ (.slice f1 r.st.length i1)).setCell ⟨bp, 1, none⟩ (.slice f2 r.lf.length i2)).setCell ⟨bp, 2, none⟩ (.slice f3 r.ln.length i3)).alloc (.cells #[.bool true] 4)) = .ok v' w' ∧ GrewB ((((w5.setCell ⟨bp, 0, none⟩ (.slice f1 r.st.length i1)).setCell ⟨bp, 1, none⟩ (.slice f2 r.lf.length i2)).setCell ⟨bp, 2, none⟩ (.slice f3 r.ln.length i3)).alloc (.cells #[.bool true] 4)) (bp + 1) (.slice ab bs.length cb) (bs ++ [true]) v' w') := fun ty => by
              have := run_catB (((w5.setCell ⟨bp, 0, none⟩ (.slice f1 r.st.length i1)).setCell ⟨bp, 1, none⟩ (.slice f2 r.lf.length i2)).setCell ⟨bp, 2, none⟩ (.slice f3 r.ln.length i3)) (bp + 1) (.slice ab bs.length cb) bs true (HPL.out.bools.below ((Below.refl _ _).alloc (Nat.le_refl _) _)) (by omega) (by have := HPL.out.px.lt; omega) ty
              rw [show ((((w5.setCell ⟨bp, 0, none⟩ (.slice f1 r.st.length i1)).setCell ⟨bp, 1, none⟩ (.slice f2 r.lf.length i2)).setCell ⟨bp, 2, none⟩ (.slice f3 r.ln.length i3))).heap.size = w5.heap.size by first | rfl | simp [World.setCell]] at this
              exact this
            go_wp2_with (at_builtin; refine list_cat (by rfl) (.tmp 35) (.tmp 37) 41 (by rfl) (.slice ab bs.length cb) (.slice (some ⟨w5.heap.size, 0, none⟩) 1 1) (by rfl) (by rfl) _ HC.out ?_; intro v8 w8 hg8; have HE8 := HPL.out.add hg8; clear hg8)
            go_roundw
            case rel => exact ⟨n + 1, by omega, by go_num, _, _, _, by rw [HN1.out, HN2.out]; exact HE8⟩
            case measure => simp [intOf]; omega
      · have hlt' : ¬ (n : Int) < (ss.length : Int) := by omega
        have et : ss.take n = ss := List.take_of_length_le (by omega)
        rw [et, HQ.out] at hq
        rw [et, HBS.out] at hbs
        subst hq hbs
        have HT1 : Hid (Pls W bp (.slice a1 q.st.length c1) (.slice a2 q.lf.length c2) (.slice a3 q.ln.length c3) q (.slice ab bs.length cb) bs wr) := hT
        obtain ⟨h1, h2, h3⟩ := hql
        obtain ⟨p0, p1, p2, p3, -⟩ := HT1.out.px
        clear hT et
        go_wp2_with fail
        refine (l3Own_any wr (W.heap.size + 1) _ _ _ q HT1.out.own h1 h2 h3).mono ?_
        rintro e w4 ⟨x4, y4, z4, rfl, ho4, hb4⟩
        obtain ⟨j1, e1, rfl⟩ := ho4.st.shape
        obtain ⟨j2, e2, rfl⟩ := ho4.lf.shape
        obtain ⟨j3, e3, rfl⟩ := ho4.ln.shape
        have HT4 : Hid (Pls W bp (.slice a1 q.st.length c1) (.slice a2 q.lf.length c2) (.slice a3 q.ln.length c3) q (.slice ab bs.length cb) bs w4) := HT1.out.step hb4
        have HO4 : Hid (Own3 w4 wr.heap.size (.slice j1 q.st.length e1) (.slice j2 q.lf.length e2) (.slice j3 q.ln.length e3) q) := ho4
        have hltw : W.heap.size < wr.heap.size := HT1.out.rx.lt
        have hlo := HT1.out.lo
        clear hb4 ho4 p0 p1 p2 p3
        obtain ⟨y0, y1, y2, y3, yf⟩ := HT4.out.rx
        have yf0 := yf 0
        have yf1 := yf 1
        have yf2 := yf 2
        clear yf
        go_wp2
        refine bodyPost_ret (v := .tuple #[.agg #[.slice j1 q.st.length e1, .slice j2 q.lf.length e2, .slice j3 q.ln.length e3], .slice ab bs.length cb, .bool true]) (by simp [results, Try.results18, go_sem, y1, y2, y3]) rfl ⟨_, _, _, _, rfl, ?_, ?_, ?_⟩
        · exact (((HO4.out.setCell (a := ⟨W.heap.size, 0, none⟩) hltw _).setCell (a := ⟨W.heap.size, 1, none⟩) hltw _).setCell (a := ⟨W.heap.size, 2, none⟩) hltw _).mono (Nat.le_of_lt hltw)
        · have hwb : ∀ j, (⟨W.heap.size, j, none⟩ : Addr).block < bp + 1 := fun j => by show W.heap.size < _; omega
          exact (((HT4.out.bools.setCell (hwb 0) _).setCell (hwb 1) _).setCell (hwb 2) _).mono (by omega)
        · exact ((HT4.out.since.1.setCell (Nat.le_refl _) _).setCell (Nat.le_refl _) _).setCell (Nat.le_refl _) _
  · have hok : playOk ss = false := decide_eq_false h60
    rw [hok, show playOut ss = noP from by unfold playOut; rw [hok]; rfl, show playDid ss = [] from by unfold playDid; rw [hok]; rfl]
    have hle : (60 : Int) < (ss.length : Int) := by omega
    clear hc4
    go_enter Try.func18, Try.ntmps18
    go_wp2
    refine bodyPost_ret (v := .tuple #[.agg #[.slice none 0 0, .slice none 0 0, .slice none 0 0], .slice none 0 0, .bool false]) (by simp [results, Try.results18, go_sem]) rfl ⟨_, _, _, _, rfl, Own3.nil _ _, OwnB.nil _ _, ?_⟩
    repeat (refine Below.setCell ?_ (by first | exact Nat.le_refl _ | exact Nat.le_succ _ | (simp; omega)) _)
    exact HS0.out.1
end Go.Proofs.Ytchddjidjfpehaa
