/-
  'NewFlood' of the model.
-/
import Derived.Test.YtkkamigaolejiawFlNewP
import Derived.Test.YtkkamigaolejiawFlLinksS
import Derived.Test.YtkkamigaolejiawFlRowsB
import Derived.Test.YtkkamigaolejiawFlGoodS
import Derived.Test.YtkkamigaolejiawHand
namespace Go.Proofs.Ytkkamigaolejiaw
open Go.RowKit
set_option linter.unusedVariables false

theorem src_two {W : World} {u : Value} {zs : List Int} (h : Reads W u zs) (hl : zs.length = 2) : Src W u zs.length (zs.map (Value.int .i64)) := by
  obtain ⟨a, c', rfl, hc⟩ := h
  rcases hc with hz | ⟨g', o', rfl, -, hcell⟩
  · rw [hz] at hl; cases hl
  · refine .inr ⟨⟨g', o', none⟩, c', rfl, fun j w hj => ?_⟩
    have hjl : j < zs.length := by have := (List.getElem?_eq_some_iff.1 hj).1; simpa using this
    rw [Go.WideShapes.add_plain, hcell j hjl]
    rw [List.getElem?_map, List.getElem?_eq_getElem hjl] at hj
    exact hj

/-- A flood that is being made: its box, the box of the answer. -/
structure NF (W : World) (H G : Nat) (wr : World) (x y z : Value) (xs ys zs : List Value) (f : FD) : Prop where
  own : OwnF wr (G + 1) x y z (.slice none 0 0) xs ys zs f
  box : Bx4 wr G x y z (.slice none 0 0)
  res : Bx4 wr H (.slice none 0 0) (.slice none 0 0) (.slice none 0 0) (.slice none 0 0)
  hg : H < G
  since : Since H W wr
  sz : G + 1 ≤ wr.heap.size
theorem NF.below {W : World} {H G : Nat} {wr w' : World} {x y z : Value} {xs ys zs : List Value} {f : FD} (h : NF W H G wr x y z xs ys zs f) (hb : Below wr.heap.size wr w') : NF W H G w' x y z xs ys zs f :=
  ⟨h.own.below hb, h.box.below hb, h.res.below hb, h.hg, h.since.step hb, Nat.le_trans h.sz hb.size⟩
theorem inApp {xs : List Value} {s : Value} {b : Nat} (h : InSS (xs ++ [s]) b) : InSS xs b ∨ s.ownBlock = some b := by
  obtain ⟨j, hj, hb⟩ := h
  by_cases e : j < xs.length
  · rw [List.getElem_append_left e] at hb
    exact .inl ⟨j, e, hb⟩
  · have ej : j = xs.length := by simp at hj; omega
    subst ej
    rw [List.getElem_append_right (Nat.le_refl _)] at hb
    simp only [Nat.sub_self, List.getElem_cons_zero] at hb
    exact .inr hb
theorem apartSym2 {x y : Value} {xs ys : List Value} (h : ApartSS x xs y ys) : ApartSS y ys x xs := ⟨fun b hb hb2 => h.1 b hb2 hb, fun b hb hb2 => h.2 b hb2 hb⟩
theorem addApart {w w1 w7 : World} {B B' : Nat} {x x' y s : Value} {xs ys vs : List Value} {yss : List (List Int)} {zz : List Int} {o : Obj} {n : Nat} (hv : w1.ownsRow B 41 1 x xs.length xs) (hy : OwnSS w1 B' y ys yss) (hy0 : OwnSS w B' y ys yss) (hap : ApartSS x xs y ys)
    (hs : Own w1 w.heap.size s zz) (hg : Grown (w1.alloc o) B 41 1 x n vs x' w7) : OwnSS w7 B' y ys yss ∧ ApartSS x' (xs ++ [s]) y ys := by
  have h := grownKeep hv hy hap.1 hg
  refine ⟨h.1, h.2, fun b hb hb2 => ?_⟩
  rcases inApp hb with h1 | h1
  · exact hap.2 b h1 hb2
  · have := (World.ownsRow.lt hs b h1).1
    have := (hy0.inLt b hb2).2
    omega
theorem NF.add0 {W : World} {H G : Nat} {w w1 w7 : World} {x y z v' : Value} {xs ys zs : List Value} {f : FD} {a : Option Addr} {n c : Nat} {zz : List Int} (h : NF W H G w x y z xs ys zs f) (hb : Below w.heap.size w w1) (hs : Own w1 w.heap.size (.slice a n c) zz)
    (hg : Grown (w1.alloc (.cells #[.slice a n c] 41)) (G + 1) 41 1 x (xs ++ [Value.slice a n c]).length (xs ++ [Value.slice a n c]) v' w7) : NF W H G (w7.setCell ⟨G, 0, none⟩ v') v' y z (xs ++ [.slice a n c]) ys zs ⟨f.lk ++ [zz], f.kn, f.ow, f.ln⟩ := by
  have h1 := h.below hb
  have hba : Below w1.heap.size w1 (w1.alloc (.cells #[.slice a n c] 41)) := (Below.refl _ w1).alloc (Nat.le_refl _) _
  have hbl : ∀ b, b < G + 1 → w7.heap[b]? = w1.heap[b]? := fun b hb2 => (hg.below.block b hb2).trans (hba.block b (Nat.lt_of_lt_of_le hb2 h1.sz))
  have hsz : w1.heap.size ≤ w7.heap.size := Nat.le_trans hba.size hg.size
  have k1 := addApart h1.own.lk.row h1.own.kn h.own.kn h1.own.a01 hs hg
  have k2 := addApart h1.own.lk.row h1.own.ow h.own.ow h1.own.a02 hs hg
  have ho : OwnF w7 (G + 1) v' y z (.slice none 0 0) (xs ++ [.slice a n c]) ys zs ⟨f.lk ++ [zz], f.kn, f.ow, f.ln⟩ := ⟨h1.own.lk.add (hs.mono h.sz) (fun j hj k hk hk2 => by have := (h.own.lk.inLt k ⟨j, hj, hk⟩).2; have := (World.ownsRow.lt hs k hk2).1; omega) hg, k1.1, k2.1, rowSame h1.own.ln (fun k hk => by simp [Value.ownBlock] at hk), k1.2, k2.2, h.own.a12⟩
  have hHG := h.hg
  refine ⟨ho.setCell (by simp) _, (h1.box.same (hbl _ (by omega)) hsz).put0 _, (h1.res.same (hbl _ (by omega)) hsz).other (by have := h.hg; simp; omega) _, h.hg, ⟨?_, ?_⟩, ?_⟩
  · have hs7 : Below H W w7 := (h1.since.1.trans (hba.mono h1.since.2)).trans (hg.below.mono (by omega))
    exact hs7.setCell (Nat.le_of_lt hHG) _
  · have := Nat.le_trans h1.since.2 hsz
    simpa [World.setCell] using this
  · have := Nat.le_trans h1.sz hsz
    simpa [World.setCell] using this
theorem NF.add1 {W : World} {H G : Nat} {w w1 w7 : World} {x y z v' : Value} {xs ys zs : List Value} {f : FD} {a : Option Addr} {n c : Nat} {zz : List Int} (h : NF W H G w x y z xs ys zs f) (hb : Below w.heap.size w w1) (hs : Own w1 w.heap.size (.slice a n c) zz)
    (hg : Grown (w1.alloc (.cells #[.slice a n c] 41)) (G + 1) 41 1 y (ys ++ [Value.slice a n c]).length (ys ++ [Value.slice a n c]) v' w7) : NF W H G (w7.setCell ⟨G, 1, none⟩ v') x v' z xs (ys ++ [.slice a n c]) zs ⟨f.lk, f.kn ++ [zz], f.ow, f.ln⟩ := by
  have h1 := h.below hb
  have hba : Below w1.heap.size w1 (w1.alloc (.cells #[.slice a n c] 41)) := (Below.refl _ w1).alloc (Nat.le_refl _) _
  have hbl : ∀ b, b < G + 1 → w7.heap[b]? = w1.heap[b]? := fun b hb2 => (hg.below.block b hb2).trans (hba.block b (Nat.lt_of_lt_of_le hb2 h1.sz))
  have hsz : w1.heap.size ≤ w7.heap.size := Nat.le_trans hba.size hg.size
  have k0 := addApart h1.own.kn.row h1.own.lk h.own.lk (apartSym2 h1.own.a01) hs hg
  have k2 := addApart h1.own.kn.row h1.own.ow h.own.ow h1.own.a12 hs hg
  have ho : OwnF w7 (G + 1) x v' z (.slice none 0 0) xs (ys ++ [.slice a n c]) zs ⟨f.lk, f.kn ++ [zz], f.ow, f.ln⟩ := ⟨k0.1, h1.own.kn.add (hs.mono h.sz) (fun j hj k hk hk2 => by have := (h.own.kn.inLt k ⟨j, hj, hk⟩).2; have := (World.ownsRow.lt hs k hk2).1; omega) hg, k2.1, rowSame h1.own.ln (fun k hk => by simp [Value.ownBlock] at hk), apartSym2 k0.2, h.own.a02, k2.2⟩
  have hHG := h.hg
  refine ⟨ho.setCell (by simp) _, (h1.box.same (hbl _ (by omega)) hsz).put1 _, (h1.res.same (hbl _ (by omega)) hsz).other (by have := h.hg; simp; omega) _, h.hg, ⟨?_, ?_⟩, ?_⟩
  · have hs7 : Below H W w7 := (h1.since.1.trans (hba.mono h1.since.2)).trans (hg.below.mono (by omega))
    exact hs7.setCell (Nat.le_of_lt hHG) _
  · have := Nat.le_trans h1.since.2 hsz
    simpa [World.setCell] using this
  · have := Nat.le_trans h1.sz hsz
    simpa [World.setCell] using this
theorem NF.add2 {W : World} {H G : Nat} {w w1 w7 : World} {x y z v' : Value} {xs ys zs : List Value} {f : FD} {a : Option Addr} {n c : Nat} {zz : List Int} (h : NF W H G w x y z xs ys zs f) (hb : Below w.heap.size w w1) (hs : Own w1 w.heap.size (.slice a n c) zz)
    (hg : Grown (w1.alloc (.cells #[.slice a n c] 41)) (G + 1) 41 1 z (zs ++ [Value.slice a n c]).length (zs ++ [Value.slice a n c]) v' w7) : NF W H G (w7.setCell ⟨G, 2, none⟩ v') x y v' xs ys (zs ++ [.slice a n c]) ⟨f.lk, f.kn, f.ow ++ [zz], f.ln⟩ := by
  have h1 := h.below hb
  have hba : Below w1.heap.size w1 (w1.alloc (.cells #[.slice a n c] 41)) := (Below.refl _ w1).alloc (Nat.le_refl _) _
  have hbl : ∀ b, b < G + 1 → w7.heap[b]? = w1.heap[b]? := fun b hb2 => (hg.below.block b hb2).trans (hba.block b (Nat.lt_of_lt_of_le hb2 h1.sz))
  have hsz : w1.heap.size ≤ w7.heap.size := Nat.le_trans hba.size hg.size
  have k0 := addApart h1.own.ow.row h1.own.lk h.own.lk (apartSym2 h1.own.a02) hs hg
  have k1 := addApart h1.own.ow.row h1.own.kn h.own.kn (apartSym2 h1.own.a12) hs hg
  have ho : OwnF w7 (G + 1) x y v' (.slice none 0 0) xs ys (zs ++ [.slice a n c]) ⟨f.lk, f.kn, f.ow ++ [zz], f.ln⟩ := ⟨k0.1, k1.1, h1.own.ow.add (hs.mono h.sz) (fun j hj k hk hk2 => by have := (h.own.ow.inLt k ⟨j, hj, hk⟩).2; have := (World.ownsRow.lt hs k hk2).1; omega) hg, rowSame h1.own.ln (fun k hk => by simp [Value.ownBlock] at hk), h.own.a01, apartSym2 k0.2, apartSym2 k1.2⟩
  have hHG := h.hg
  refine ⟨ho.setCell (by simp) _, (h1.box.same (hbl _ (by omega)) hsz).put2 _, (h1.res.same (hbl _ (by omega)) hsz).other (by have := h.hg; simp; omega) _, h.hg, ⟨?_, ?_⟩, ?_⟩
  · have hs7 : Below H W w7 := (h1.since.1.trans (hba.mono h1.since.2)).trans (hg.below.mono (by omega))
    exact hs7.setCell (Nat.le_of_lt hHG) _
  · have := Nat.le_trans h1.since.2 hsz
    simpa [World.setCell] using this
  · have := Nat.le_trans h1.sz hsz
    simpa [World.setCell] using this

set_option maxRecDepth 100000 in
set_option maxHeartbeats 8000000 in
theorem specNewF_any (W : World) (v : Value) (lks : List (List Int)) (n : Int) (hi : Int) (hhi : IntKind.i64.wrap (n - 1) = hi) (h : ReadsSS W v lks) (hl : lks.length ≤ 1048576) (hin : ∀ j (hj : j < lks.length), lks[j].length ≤ 1048576) :
    Calls Try.prog 26 #[.int .i64 n, v] W fun e W' => ∃ x y z l, e = .returned (.tuple #[.agg #[x, y, z, l], .bool (newOk n lks)]) ∧ (∃ xs ys zs, OwnF W' W.heap.size x y z l xs ys zs (newR n lks)) ∧ Below W.heap.size W W' := by
  have HRD : Hid (∀ W1, Since W.heap.size W W1 → ReadsSS W1 v lks) := fun W1 hS => h.below hS.1
  have HS0 : Hid (Since W.heap.size W (W.alloc (.cells #[.slice none 0 0, .slice none 0 0, .slice none 0 0, .slice none 0 0] 51))) := (Since.start W).step ((Below.refl _ W).alloc (Nat.le_refl _) _)
  have HX0 : Hid (Bx4 (W.alloc (.cells #[.slice none 0 0, .slice none 0 0, .slice none 0 0, .slice none 0 0] 51)) W.heap.size (.slice none 0 0) (.slice none 0 0) (.slice none 0 0) (.slice none 0 0)) := Bx4.new _ _ _ _ _ _
  have hsz0 : W.heap.size + 1 ≤ (W.alloc (.cells #[.slice none 0 0, .slice none 0 0, .slice none 0 0, .slice none 0 0] 51)).heap.size := by simp
  have HLS : Hid (linksS n hi lks = newOk n lks) := by
    show _ = _
    unfold newOk
    by_cases hn : 1 ≤ n ∧ n ≤ 6
    · obtain ⟨m, rfl⟩ : ∃ m : Nat, n = (m : Int) := ⟨n.toNat, by omega⟩
      have : hi = (m : Int) - 1 := by rw [← hhi, IntKind.wrap_i64]; omega
      rw [this]
      exact linksS_eq m lks
    · unfold linksS
      rw [decide_eq_false hn]
      simp
  have CL : Hid (Calls Try.prog 52 #[.int .i64 n, v] (W.alloc (.cells #[.slice none 0 0, .slice none 0 0, .slice none 0 0, .slice none 0 0] 51)) fun e W' => e = .returned (.bool (newOk n lks)) ∧ Below (W.alloc (.cells #[.slice none 0 0, .slice none 0 0, .slice none 0 0, .slice none 0 0] 51)).heap.size (W.alloc (.cells #[.slice none 0 0, .slice none 0 0, .slice none 0 0, .slice none 0 0] 51)) W') := by
    have := l6Links_any (W.alloc (.cells #[.slice none 0 0, .slice none 0 0, .slice none 0 0, .slice none 0 0] 51)) v lks n hi hhi (HRD.out _ HS0.out) (by omega) (fun j hj => by have := hin j hj; omega)
    rw [HLS.out] at this
    exact this
  obtain ⟨av, cv, rfl⟩ := h.shape
  clear h hhi
  cases hok : newOk n lks with
  | false =>
    rw [newR_no n lks hok]
    rw [hok] at CL
    clear hin
    go_enter Try.func26, Try.ntmps26
    go_wp2_with fail
    refine CL.out.mono ?_
    rintro e w1 ⟨rfl, hb1⟩
    have HS1 : Hid (Since W.heap.size W w1) := HS0.out.step hb1
    obtain ⟨-, x0, x1, x2, x3, xf⟩ := HX0.out.below hb1
    have xf0 := xf 0
    have xf1 := xf 1
    have xf2 := xf 2
    have xf3 := xf 3
    clear hb1 xf
    go_wp2
    refine bodyPost_ret (v := .tuple #[.agg #[.slice none 0 0, .slice none 0 0, .slice none 0 0, .slice none 0 0], .bool false]) (by simp [results, Try.results26, go_sem, x0, x1, x2, x3]) rfl ⟨_, _, _, _, rfl, ⟨[], [], [], OwnF.nil _ _⟩, ?_⟩
    exact (((HS1.out.1.setCell (Nat.le_refl _) _).setCell (Nat.le_refl _) _).setCell (Nat.le_refl _) _).setCell (Nat.le_refl _) _
  | true =>
    have hok2 := hok
    unfold newOk at hok2
    rw [Bool.and_eq_true] at hok2
    have hn6 := of_decide_eq_true hok2.1
    obtain ⟨n, rfl⟩ : ∃ m : Nat, n = (m : Int) := ⟨n.toNat, by omega⟩
    rw [newR_yes n lks hok]
    have hlk := hok2.2
    have h2 : ∀ j (hj : j < lks.length), lks[j].length = 2 := fun j hj => (linksB_mem hlk lks[j] (List.getElem_mem hj)).1
    have h15 := links15 hlk (by omega)
    rw [hok] at CL
    have CR : Hid (∀ W1, Since W.heap.size W W1 → Calls Try.prog 53 #[.int .i64 (n : Int), .slice av lks.length cv] W1 fun e W' => ∃ v' vs, e = .returned v' ∧ OwnSS W' W1.heap.size v' vs (rowsL n lks) ∧ Below W1.heap.size W1 W') := fun W1 hs => l6Rows_any W1 _ lks n (HRD.out _ hs) h2 h15 (by omega)
    have HDL : Hid ((rowsL n lks).length = (debtsL n lks).length) := by show _ = _; rw [rowsL_debts hlk, List.length_map]
    have hd36 : (debtsL n lks).length ≤ 36 := Nat.le_trans (debtsTo_len n lks n) (by have : n * n ≤ 6 * 6 := Nat.mul_le_mul (by omega) (by omega); omega)
    have HE : Hid (newF n lks = ⟨lks, zerosL n n, zerosL (debtsL n lks).length n, []⟩) := rfl
    rw [HE.out]
    have H2 : Hid (∀ j (hj : j < lks.length), lks[j].length = 2) := h2
    have hn66 : n ≤ 6 := by omega
    clear hok hok2 hlk h2 HE hin HLS
    generalize (debtsL n lks).length = dl at *
    go_enter Try.func26, Try.ntmps26
    go_wp2_with fail
    refine CL.out.mono ?_
    rintro e w0 ⟨rfl, hb1⟩
    have HSW : Hid (Since W.heap.size W w0) := HS0.out.step hb1
    have hz1 : W.heap.size + 1 ≤ w0.heap.size := Nat.le_trans hsz0 hb1.size
    have HXW : Hid (Bx4 w0 W.heap.size (.slice none 0 0) (.slice none 0 0) (.slice none 0 0) (.slice none 0 0)) := HX0.out.below hb1
    clear hb1 HS0 HX0 CL hsz0
    have HNI : Hid (∃ ax kx cx xs, NF W W.heap.size w0.heap.size (w0.alloc (.cells #[.slice none 0 0, .slice none 0 0, .slice none 0 0, .slice none 0 0] 51)) (.slice ax kx cx) (.slice none 0 0) (.slice none 0 0) xs [] [] ⟨lks.take 0, [], [], []⟩) :=
      ⟨none, 0, 0, [], ⟨(OwnF.nil _ _), Bx4.new _ _ _ _ _ _, HXW.out.below ((Below.refl _ w0).alloc (Nat.le_refl _) _), by omega, HSW.out.step ((Below.refl _ w0).alloc (Nat.le_refl _) _), by simp⟩⟩
    clear HSW HXW
    go_wp2
    generalize w0.alloc (.cells #[.slice none 0 0, .slice none 0 0, .slice none 0 0, .slice none 0 0] 51) = wi at *
    generalize w0.heap.size = G at *
    go_loopw [17] (fun i wr => ∃ k : Nat, k ≤ lks.length ∧ i = .int .i64 k ∧ Hid (∃ ax kx cx xs, NF W W.heap.size G wr (.slice ax kx cx) (.slice none 0 0) (.slice none 0 0) xs [] [] ⟨lks.take k, [], [], []⟩)) (fun i _ => lks.length - (intOf i).toNat)
    case atStart => exact ⟨0, Nat.zero_le _, rfl, HNI⟩
    case round =>
      obtain ⟨k, hk, rfl, HK⟩ := hrel
      obtain ⟨ax, kx, cx, xs, hnf⟩ := HK.out
      have HN0 : Hid (NF W W.heap.size G wr (.slice ax kx cx) (.slice none 0 0) (.slice none 0 0) xs [] [] ⟨lks.take k, [], [], []⟩) := hnf
      clear hnf HK
      by_cases hlt : k < lks.length
      · have hlt' : (k : Int) < (lks.length : Int) := by omega
        obtain ⟨a8, c8, hv8, hc8⟩ := HRD.out wr HN0.out.since
        simp only [Value.slice.injEq] at hv8
        obtain ⟨ha8, -, -⟩ := hv8
        obtain ⟨g8, o8, hb8, hg8, hcc⟩ := hc8.resolve_left (fun e => by rw [e] at hlt; exact absurd hlt (Nat.not_lt_zero _))
        obtain ⟨u, hu, hru⟩ := hcc k hlt
        obtain ⟨gl, ol, cl, hus, -, -, -⟩ := reads_two hru (H2.out k hlt)
        subst hus
        rw [hb8] at ha8
        have HNXT : Hid (lks.take (k + 1) = lks.take k ++ [lks[k]]) := List.take_succ_eq_append_getElem hlt
        have HZ2 : Hid (lks[k].length = 2) := H2.out k hlt
        have HXL : Hid (xs.length ≤ 1048576) := by
          have := HN0.out.own.lk.len
          rw [List.length_take] at this
          show _ ≤ _
          omega
        have HN : Hid (NF W W.heap.size G wr.drew (.slice ax kx cx) (.slice none 0 0) (.slice none 0 0) xs [] [] ⟨lks.take k, [], [], []⟩) := HN0.out.below ((Below.refl _ wr).drew)
        have HCP : Hid (∀ ty, ∃ v' w', (Builtin.append_ #[41, 41] ty #[.slice (some ⟨wr.drew.heap.size, 0, none⟩) 0 0, .slice (some ⟨gl, ol, none⟩) 2 cl]).run Try.prog (wr.drew.alloc (.cells #[] 3)) = .ok v' w' ∧ Grown (wr.drew.alloc (.cells #[] 3)) wr.drew.heap.size 3 1 (.slice (some ⟨wr.drew.heap.size, 0, none⟩) 0 0) ([] ++ lks[k]).length (([] ++ lks[k]).map (Value.int .i64)) v' w') := fun ty => run_appI _ _ _ [] (World.ownsRow_made wr.drew #[] 0 (Nat.le_refl _) (by decide) rfl) _ lks[k] (src_two (hru.below (((Below.refl _ wr).drew).trans ((Below.refl _ wr.drew).alloc (Nat.le_refl _) _))) HZ2.out) (by have := HZ2.out; simp; omega) (by simp) ty
        have pa := (HN.out.below ((Below.refl _ wr.drew).alloc (Nat.le_refl _) (.cells #[] 3))).box
        obtain ⟨-, pa0, pa1, pa2, pa3, -⟩ := pa
        obtain ⟨-, p0, p1, p2, p3, -⟩ := HN.out.box
        clear hcc hg8 hc8 hru hb8 HN0
        subst ha8
        generalize lks[k] = zz at *
        go_wp2
        refine wp_region_held_drew (S := fun _ => True) (by kernel_rfl) trivial (fun hHeld => ?_)
        generalize hwd : wr.drew = wd at *
        clear hwd
        refine handRead 0 (some 21) (.pointer (some ⟨G, 0, none⟩)) rfl rfl (by kernel_rfl) (by kernel_rfl) (by kernel_rfl) (fun _ _ _ h => h) (by kernel_rfl) trivial ?_ ?_
        · intro w hSw
          go_simp
        try simp only [Act.put]
        try simp only [List.setIfInBounds_toArray]
        try simp only [List.set_cons_succ]
        try simp only [List.set_cons_zero]
        refine handRead 3 (some 24) (.slice (some ⟨gl, ol, none⟩) 2 cl) rfl rfl (by kernel_rfl) (by kernel_rfl) (by kernel_rfl) (fun _ _ _ h => h) (by kernel_rfl) trivial ?_ ?_
        · intro w hSw
          go_simp
        try simp only [Act.put]
        try simp only [List.setIfInBounds_toArray]
        try simp only [List.set_cons_succ]
        try simp only [List.set_cons_zero]
        refine wpAnyH_ready (rs := [1, 2]) (by kernel_rfl) (by simp) ?_
        refine AllReadyH.cons rfl (fun K hK => ?_) (AllReadyH.cons rfl (fun K hK => ?_) AllReadyH.nil)
        · go_simp
          refine hK.out _ _ trivial (fun hHeld => ?_)
          clear hK K
          try simp only [Act.put]
          try simp only [List.setIfInBounds_toArray]
          try simp only [List.set_cons_succ]
          try simp only [List.set_cons_zero]
          refine wpAnyH_ready (rs := [2]) (by kernel_rfl) (by simp) ?_
          refine AllReadyH.cons rfl (fun K hK => ?_) AllReadyH.nil
          go_simp
          refine hK.out _ _ trivial (fun hHeld => ?_)
          clear hK K
          try simp only [Act.put]
          try simp only [List.setIfInBounds_toArray]
          try simp only [List.set_cons_succ]
          try simp only [List.set_cons_zero]
          refine wpAnyH_ready (rs := [4]) (by kernel_rfl) (by simp) ?_
          refine AllReadyH.cons rfl (fun K hK => ?_) AllReadyH.nil
          refine step_app (by rfl) (.tmp 23) (.tmp 24) 41 (by rfl) (.slice (some ⟨wd.heap.size, 0, none⟩) 0 0) (.slice (some ⟨gl, ol, none⟩) 2 cl) (by rfl) (by rfl) _ HCP.out ?_
          intro v1 w1 hg1
          obtain ⟨a5, c5, hv5⟩ := rowShape hg1.own
          rw [show ([] ++ zz : List Int).length = 2 from HZ2.out] at hv5
          subst hv5
          have HO1 : Hid (Own w1 wd.heap.size (.slice a5 2 c5) zz) := hg1.own
          have HB1 : Hid (Below wd.heap.size wd w1) := ((Below.refl _ wd).alloc (Nat.le_refl _) _).trans hg1.below
          clear hg1
          have HN1 : Hid (NF W W.heap.size G w1 (.slice ax kx cx) (.slice none 0 0) (.slice none 0 0) xs [] [] ⟨lks.take k, [], [], []⟩) := HN.out.below HB1.out
          obtain ⟨-, p10, p11, p12, p13, -⟩ := HN1.out.box
          obtain ⟨-, pc0, pc1, pc2, pc3, -⟩ := (HN1.out.below ((Below.refl _ w1).alloc (Nat.le_refl _) (.cells #[.slice a5 2 c5] 41))).box
          refine hK.out _ _ trivial (fun hHeld => ?_)
          clear hK K
          try simp only [Act.put]
          try simp only [List.setIfInBounds_toArray]
          try simp only [List.set_cons_succ]
          try simp only [List.set_cons_zero]
          refine wpAnyH_ready (rs := [5]) (by kernel_rfl) (by simp) ?_
          refine AllReadyH.cons rfl (fun K hK => ?_) AllReadyH.nil
          go_simp
          refine hK.out _ _ trivial (fun hHeld => ?_)
          clear hK K
          try simp only [Act.put]
          try simp only [List.setIfInBounds_toArray]
          try simp only [List.set_cons_succ]
          try simp only [List.set_cons_zero]
          refine wpAnyH_ready (rs := [6]) (by kernel_rfl) (by simp) ?_
          refine AllReadyH.cons rfl (fun K hK => ?_) AllReadyH.nil
          refine step_app (by rfl) (.tmp 22) (.tmp 26) 47 (by rfl) (.slice ax kx cx) (.slice (some ⟨w1.heap.size, 0, none⟩) 1 1) (by rfl) (by rfl) _ (fun ty => run_appSS w1 (G + 1) (.slice ax kx cx) xs a5 2 c5 HN1.out.own.lk.row HXL.out HN1.out.sz ty) ?_
          intro v7 w7 hg7
          have HF : Hid (NF W W.heap.size G (w7.setCell ⟨G, 0, none⟩ v7) v7 (.slice none 0 0) (.slice none 0 0) (xs ++ [.slice a5 2 c5]) [] [] ⟨lks.take k ++ [zz], [], [], []⟩) := HN.out.add0 HB1.out HO1.out hg7
          have hbl : w7.heap[G]? = (w1.alloc (.cells #[.slice a5 2 c5] 41)).heap[G]? := hg7.below.block _ (by omega)
          obtain ⟨-, q0, q1, q2, q3, qf⟩ := ((HN1.out.below ((Below.refl _ w1).alloc (Nat.le_refl _) (.cells #[.slice a5 2 c5] 41))).box).same hbl hg7.size
          have qf0 := qf 0
          obtain ⟨a7, c7, hv7⟩ := rowShape hg7.own
          generalize (xs ++ [Value.slice a5 2 c5]).length = n7 at hv7
          subst hv7
          clear hg7 hbl qf
          refine hK.out _ _ trivial (fun hHeld => ?_)
          clear hK K
          try simp only [Act.put]
          try simp only [List.setIfInBounds_toArray]
          try simp only [List.set_cons_succ]
          try simp only [List.set_cons_zero]
          refine handRead 7 (some 28) (.pointer (some ⟨G, 0, none⟩)) rfl rfl (by kernel_rfl) (by kernel_rfl) (by kernel_rfl) (fun _ _ _ h => h) (by kernel_rfl) trivial ?_ ?_
          · intro w hSw
            go_simp
          try simp only [Act.put]
          try simp only [List.setIfInBounds_toArray]
          try simp only [List.set_cons_succ]
          try simp only [List.set_cons_zero]
          refine wpAnyH_ready (rs := [8]) (by kernel_rfl) (by simp) ?_
          refine AllReadyH.cons rfl (fun K hK => ?_) AllReadyH.nil
          go_simp
          refine hK.out _ _ trivial (fun hHeld => ?_)
          clear hK K
          try simp only [Act.put]
          try simp only [List.setIfInBounds_toArray]
          try simp only [List.set_cons_succ]
          try simp only [List.set_cons_zero]
          refine wpAnyH_done (by kernel_rfl) ?_ _
          go_wp2
          go_roundw
          case rel => exact ⟨k + 1, by omega, by go_num, by rw [HNXT.out]; exact ⟨_, _, _, _, HF.out⟩⟩
          case measure => simp [intOf]; omega
        · go_simp
          refine hK.out _ _ trivial (fun hHeld => ?_)
          clear hK K
          try simp only [Act.put]
          try simp only [List.setIfInBounds_toArray]
          try simp only [List.set_cons_succ]
          try simp only [List.set_cons_zero]
          refine wpAnyH_ready (rs := [1, 4]) (by kernel_rfl) (by simp) ?_
          refine AllReadyH.cons rfl (fun K hK => ?_) (AllReadyH.cons rfl (fun K hK => ?_) AllReadyH.nil)
          · go_simp
            refine hK.out _ _ trivial (fun hHeld => ?_)
            clear hK K
            try simp only [Act.put]
            try simp only [List.setIfInBounds_toArray]
            try simp only [List.set_cons_succ]
            try simp only [List.set_cons_zero]
            refine wpAnyH_ready (rs := [4]) (by kernel_rfl) (by simp) ?_
            refine AllReadyH.cons rfl (fun K hK => ?_) AllReadyH.nil
            refine step_app (by rfl) (.tmp 23) (.tmp 24) 41 (by rfl) (.slice (some ⟨wd.heap.size, 0, none⟩) 0 0) (.slice (some ⟨gl, ol, none⟩) 2 cl) (by rfl) (by rfl) _ HCP.out ?_
            intro v1 w1 hg1
            obtain ⟨a5, c5, hv5⟩ := rowShape hg1.own
            rw [show ([] ++ zz : List Int).length = 2 from HZ2.out] at hv5
            subst hv5
            have HO1 : Hid (Own w1 wd.heap.size (.slice a5 2 c5) zz) := hg1.own
            have HB1 : Hid (Below wd.heap.size wd w1) := ((Below.refl _ wd).alloc (Nat.le_refl _) _).trans hg1.below
            clear hg1
            have HN1 : Hid (NF W W.heap.size G w1 (.slice ax kx cx) (.slice none 0 0) (.slice none 0 0) xs [] [] ⟨lks.take k, [], [], []⟩) := HN.out.below HB1.out
            obtain ⟨-, p10, p11, p12, p13, -⟩ := HN1.out.box
            obtain ⟨-, pc0, pc1, pc2, pc3, -⟩ := (HN1.out.below ((Below.refl _ w1).alloc (Nat.le_refl _) (.cells #[.slice a5 2 c5] 41))).box
            refine hK.out _ _ trivial (fun hHeld => ?_)
            clear hK K
            try simp only [Act.put]
            try simp only [List.setIfInBounds_toArray]
            try simp only [List.set_cons_succ]
            try simp only [List.set_cons_zero]
            refine wpAnyH_ready (rs := [5]) (by kernel_rfl) (by simp) ?_
            refine AllReadyH.cons rfl (fun K hK => ?_) AllReadyH.nil
            go_simp
            refine hK.out _ _ trivial (fun hHeld => ?_)
            clear hK K
            try simp only [Act.put]
            try simp only [List.setIfInBounds_toArray]
            try simp only [List.set_cons_succ]
            try simp only [List.set_cons_zero]
            refine wpAnyH_ready (rs := [6]) (by kernel_rfl) (by simp) ?_
            refine AllReadyH.cons rfl (fun K hK => ?_) AllReadyH.nil
            refine step_app (by rfl) (.tmp 22) (.tmp 26) 47 (by rfl) (.slice ax kx cx) (.slice (some ⟨w1.heap.size, 0, none⟩) 1 1) (by rfl) (by rfl) _ (fun ty => run_appSS w1 (G + 1) (.slice ax kx cx) xs a5 2 c5 HN1.out.own.lk.row HXL.out HN1.out.sz ty) ?_
            intro v7 w7 hg7
            have HF : Hid (NF W W.heap.size G (w7.setCell ⟨G, 0, none⟩ v7) v7 (.slice none 0 0) (.slice none 0 0) (xs ++ [.slice a5 2 c5]) [] [] ⟨lks.take k ++ [zz], [], [], []⟩) := HN.out.add0 HB1.out HO1.out hg7
            have hbl : w7.heap[G]? = (w1.alloc (.cells #[.slice a5 2 c5] 41)).heap[G]? := hg7.below.block _ (by omega)
            obtain ⟨-, q0, q1, q2, q3, qf⟩ := ((HN1.out.below ((Below.refl _ w1).alloc (Nat.le_refl _) (.cells #[.slice a5 2 c5] 41))).box).same hbl hg7.size
            have qf0 := qf 0
            obtain ⟨a7, c7, hv7⟩ := rowShape hg7.own
            generalize (xs ++ [Value.slice a5 2 c5]).length = n7 at hv7
            subst hv7
            clear hg7 hbl qf
            refine hK.out _ _ trivial (fun hHeld => ?_)
            clear hK K
            try simp only [Act.put]
            try simp only [List.setIfInBounds_toArray]
            try simp only [List.set_cons_succ]
            try simp only [List.set_cons_zero]
            refine handRead 7 (some 28) (.pointer (some ⟨G, 0, none⟩)) rfl rfl (by kernel_rfl) (by kernel_rfl) (by kernel_rfl) (fun _ _ _ h => h) (by kernel_rfl) trivial ?_ ?_
            · intro w hSw
              go_simp
            try simp only [Act.put]
            try simp only [List.setIfInBounds_toArray]
            try simp only [List.set_cons_succ]
            try simp only [List.set_cons_zero]
            refine wpAnyH_ready (rs := [8]) (by kernel_rfl) (by simp) ?_
            refine AllReadyH.cons rfl (fun K hK => ?_) AllReadyH.nil
            go_simp
            refine hK.out _ _ trivial (fun hHeld => ?_)
            clear hK K
            try simp only [Act.put]
            try simp only [List.setIfInBounds_toArray]
            try simp only [List.set_cons_succ]
            try simp only [List.set_cons_zero]
            refine wpAnyH_done (by kernel_rfl) ?_ _
            go_wp2
            go_roundw
            case rel => exact ⟨k + 1, by omega, by go_num, by rw [HNXT.out]; exact ⟨_, _, _, _, HF.out⟩⟩
            case measure => simp [intOf]; omega
          · refine step_app (by rfl) (.tmp 23) (.tmp 24) 41 (by rfl) (.slice (some ⟨wd.heap.size, 0, none⟩) 0 0) (.slice (some ⟨gl, ol, none⟩) 2 cl) (by rfl) (by rfl) _ HCP.out ?_
            intro v1 w1 hg1
            obtain ⟨a5, c5, hv5⟩ := rowShape hg1.own
            rw [show ([] ++ zz : List Int).length = 2 from HZ2.out] at hv5
            subst hv5
            have HO1 : Hid (Own w1 wd.heap.size (.slice a5 2 c5) zz) := hg1.own
            have HB1 : Hid (Below wd.heap.size wd w1) := ((Below.refl _ wd).alloc (Nat.le_refl _) _).trans hg1.below
            clear hg1
            have HN1 : Hid (NF W W.heap.size G w1 (.slice ax kx cx) (.slice none 0 0) (.slice none 0 0) xs [] [] ⟨lks.take k, [], [], []⟩) := HN.out.below HB1.out
            obtain ⟨-, p10, p11, p12, p13, -⟩ := HN1.out.box
            obtain ⟨-, pc0, pc1, pc2, pc3, -⟩ := (HN1.out.below ((Below.refl _ w1).alloc (Nat.le_refl _) (.cells #[.slice a5 2 c5] 41))).box
            refine hK.out _ _ trivial (fun hHeld => ?_)
            clear hK K
            try simp only [Act.put]
            try simp only [List.setIfInBounds_toArray]
            try simp only [List.set_cons_succ]
            try simp only [List.set_cons_zero]
            refine wpAnyH_ready (rs := [1, 5]) (by kernel_rfl) (by simp) ?_
            refine AllReadyH.cons rfl (fun K hK => ?_) (AllReadyH.cons rfl (fun K hK => ?_) AllReadyH.nil)
            · go_simp
              refine hK.out _ _ trivial (fun hHeld => ?_)
              clear hK K
              try simp only [Act.put]
              try simp only [List.setIfInBounds_toArray]
              try simp only [List.set_cons_succ]
              try simp only [List.set_cons_zero]
              refine wpAnyH_ready (rs := [5]) (by kernel_rfl) (by simp) ?_
              refine AllReadyH.cons rfl (fun K hK => ?_) AllReadyH.nil
              go_simp
              refine hK.out _ _ trivial (fun hHeld => ?_)
              clear hK K
              try simp only [Act.put]
              try simp only [List.setIfInBounds_toArray]
              try simp only [List.set_cons_succ]
              try simp only [List.set_cons_zero]
              refine wpAnyH_ready (rs := [6]) (by kernel_rfl) (by simp) ?_
              refine AllReadyH.cons rfl (fun K hK => ?_) AllReadyH.nil
              refine step_app (by rfl) (.tmp 22) (.tmp 26) 47 (by rfl) (.slice ax kx cx) (.slice (some ⟨w1.heap.size, 0, none⟩) 1 1) (by rfl) (by rfl) _ (fun ty => run_appSS w1 (G + 1) (.slice ax kx cx) xs a5 2 c5 HN1.out.own.lk.row HXL.out HN1.out.sz ty) ?_
              intro v7 w7 hg7
              have HF : Hid (NF W W.heap.size G (w7.setCell ⟨G, 0, none⟩ v7) v7 (.slice none 0 0) (.slice none 0 0) (xs ++ [.slice a5 2 c5]) [] [] ⟨lks.take k ++ [zz], [], [], []⟩) := HN.out.add0 HB1.out HO1.out hg7
              have hbl : w7.heap[G]? = (w1.alloc (.cells #[.slice a5 2 c5] 41)).heap[G]? := hg7.below.block _ (by omega)
              obtain ⟨-, q0, q1, q2, q3, qf⟩ := ((HN1.out.below ((Below.refl _ w1).alloc (Nat.le_refl _) (.cells #[.slice a5 2 c5] 41))).box).same hbl hg7.size
              have qf0 := qf 0
              obtain ⟨a7, c7, hv7⟩ := rowShape hg7.own
              generalize (xs ++ [Value.slice a5 2 c5]).length = n7 at hv7
              subst hv7
              clear hg7 hbl qf
              refine hK.out _ _ trivial (fun hHeld => ?_)
              clear hK K
              try simp only [Act.put]
              try simp only [List.setIfInBounds_toArray]
              try simp only [List.set_cons_succ]
              try simp only [List.set_cons_zero]
              refine handRead 7 (some 28) (.pointer (some ⟨G, 0, none⟩)) rfl rfl (by kernel_rfl) (by kernel_rfl) (by kernel_rfl) (fun _ _ _ h => h) (by kernel_rfl) trivial ?_ ?_
              · intro w hSw
                go_simp
              try simp only [Act.put]
              try simp only [List.setIfInBounds_toArray]
              try simp only [List.set_cons_succ]
              try simp only [List.set_cons_zero]
              refine wpAnyH_ready (rs := [8]) (by kernel_rfl) (by simp) ?_
              refine AllReadyH.cons rfl (fun K hK => ?_) AllReadyH.nil
              go_simp
              refine hK.out _ _ trivial (fun hHeld => ?_)
              clear hK K
              try simp only [Act.put]
              try simp only [List.setIfInBounds_toArray]
              try simp only [List.set_cons_succ]
              try simp only [List.set_cons_zero]
              refine wpAnyH_done (by kernel_rfl) ?_ _
              go_wp2
              go_roundw
              case rel => exact ⟨k + 1, by omega, by go_num, by rw [HNXT.out]; exact ⟨_, _, _, _, HF.out⟩⟩
              case measure => simp [intOf]; omega
            · go_simp
              refine hK.out _ _ trivial (fun hHeld => ?_)
              clear hK K
              try simp only [Act.put]
              try simp only [List.setIfInBounds_toArray]
              try simp only [List.set_cons_succ]
              try simp only [List.set_cons_zero]
              refine wpAnyH_ready (rs := [1]) (by kernel_rfl) (by simp) ?_
              refine AllReadyH.cons rfl (fun K hK => ?_) AllReadyH.nil
              go_simp
              refine hK.out _ _ trivial (fun hHeld => ?_)
              clear hK K
              try simp only [Act.put]
              try simp only [List.setIfInBounds_toArray]
              try simp only [List.set_cons_succ]
              try simp only [List.set_cons_zero]
              refine wpAnyH_ready (rs := [6]) (by kernel_rfl) (by simp) ?_
              refine AllReadyH.cons rfl (fun K hK => ?_) AllReadyH.nil
              refine step_app (by rfl) (.tmp 22) (.tmp 26) 47 (by rfl) (.slice ax kx cx) (.slice (some ⟨w1.heap.size, 0, none⟩) 1 1) (by rfl) (by rfl) _ (fun ty => run_appSS w1 (G + 1) (.slice ax kx cx) xs a5 2 c5 HN1.out.own.lk.row HXL.out HN1.out.sz ty) ?_
              intro v7 w7 hg7
              have HF : Hid (NF W W.heap.size G (w7.setCell ⟨G, 0, none⟩ v7) v7 (.slice none 0 0) (.slice none 0 0) (xs ++ [.slice a5 2 c5]) [] [] ⟨lks.take k ++ [zz], [], [], []⟩) := HN.out.add0 HB1.out HO1.out hg7
              have hbl : w7.heap[G]? = (w1.alloc (.cells #[.slice a5 2 c5] 41)).heap[G]? := hg7.below.block _ (by omega)
              obtain ⟨-, q0, q1, q2, q3, qf⟩ := ((HN1.out.below ((Below.refl _ w1).alloc (Nat.le_refl _) (.cells #[.slice a5 2 c5] 41))).box).same hbl hg7.size
              have qf0 := qf 0
              obtain ⟨a7, c7, hv7⟩ := rowShape hg7.own
              generalize (xs ++ [Value.slice a5 2 c5]).length = n7 at hv7
              subst hv7
              clear hg7 hbl qf
              refine hK.out _ _ trivial (fun hHeld => ?_)
              clear hK K
              try simp only [Act.put]
              try simp only [List.setIfInBounds_toArray]
              try simp only [List.set_cons_succ]
              try simp only [List.set_cons_zero]
              refine handRead 7 (some 28) (.pointer (some ⟨G, 0, none⟩)) rfl rfl (by kernel_rfl) (by kernel_rfl) (by kernel_rfl) (fun _ _ _ h => h) (by kernel_rfl) trivial ?_ ?_
              · intro w hSw
                go_simp
              try simp only [Act.put]
              try simp only [List.setIfInBounds_toArray]
              try simp only [List.set_cons_succ]
              try simp only [List.set_cons_zero]
              refine wpAnyH_ready (rs := [8]) (by kernel_rfl) (by simp) ?_
              refine AllReadyH.cons rfl (fun K hK => ?_) AllReadyH.nil
              go_simp
              refine hK.out _ _ trivial (fun hHeld => ?_)
              clear hK K
              try simp only [Act.put]
              try simp only [List.setIfInBounds_toArray]
              try simp only [List.set_cons_succ]
              try simp only [List.set_cons_zero]
              refine wpAnyH_done (by kernel_rfl) ?_ _
              go_wp2
              go_roundw
              case rel => exact ⟨k + 1, by omega, by go_num, by rw [HNXT.out]; exact ⟨_, _, _, _, HF.out⟩⟩
              case measure => simp [intOf]; omega
      · have hlt' : ¬ (k : Int) < (lks.length : Int) := by omega
        have HNJ : Hid (∃ ax kx cx ay ky cy xs ys, NF W W.heap.size G wr (.slice ax kx cx) (.slice ay ky cy) (.slice none 0 0) xs ys [] ⟨lks, zerosL 0 n, [], []⟩) := by
          have := HN0.out
          rw [List.take_of_length_le (by omega)] at this
          exact ⟨ax, kx, cx, none, 0, 0, xs, [], this⟩
        clear HN0
        go_wp2
        go_loopw [9] (fun i wr => ∃ j : Nat, j ≤ n ∧ i = .int .i64 j ∧ Hid (∃ ax kx cx ay ky cy xs ys, NF W W.heap.size G wr (.slice ax kx cx) (.slice ay ky cy) (.slice none 0 0) xs ys [] ⟨lks, zerosL j n, [], []⟩)) (fun i _ => n - (intOf i).toNat)
        case atStart => exact ⟨0, Nat.zero_le _, rfl, HNJ⟩
        case round =>
          obtain ⟨j, hj, rfl, HK⟩ := hrel
          obtain ⟨ax, kx, cx, ay, ky, cy, xs, ys, hnf⟩ := HK.out
          have HN0 : Hid (NF W W.heap.size G wr (.slice ax kx cx) (.slice ay ky cy) (.slice none 0 0) xs ys [] ⟨lks, zerosL j n, [], []⟩) := hnf
          clear hnf HK
          by_cases hltj : j < n
          · have hltj' : (j : Int) < (n : Int) := by omega
            have HXL : Hid (ys.length ≤ 1048576) := by
              have := HN0.out.own.kn.len
              rw [zerosL_len] at this
              show _ ≤ _
              omega
            obtain ⟨w1, hmk, ho1, hb1, -⟩ := make_ints n (by omega) wr.drew
            have HN : Hid (NF W W.heap.size G wr.drew (.slice ax kx cx) (.slice ay ky cy) (.slice none 0 0) xs ys [] ⟨lks, zerosL j n, [], []⟩) := HN0.out.below ((Below.refl _ wr).drew)
            have HO1 : Hid (Own w1 wr.drew.heap.size (.slice (some ⟨wr.drew.heap.size, 0, none⟩) n n) (List.replicate n 0)) := ho1
            have HB1 : Hid (Below wr.drew.heap.size wr.drew w1) := hb1
            have HN1 : Hid (NF W W.heap.size G w1 (.slice ax kx cx) (.slice ay ky cy) (.slice none 0 0) xs ys [] ⟨lks, zerosL j n, [], []⟩) := HN.out.below hb1
            obtain ⟨-, p0, p1, p2, p3, -⟩ := HN.out.box
            obtain ⟨-, p10, p11, p12, p13, -⟩ := HN1.out.box
            obtain ⟨-, pc0, pc1, pc2, pc3, -⟩ := (HN1.out.below ((Below.refl _ w1).alloc (Nat.le_refl _) (.cells #[.slice (some ⟨wr.drew.heap.size, 0, none⟩) n n] 41))).box
            clear ho1 hb1 HN0
            go_wp2
            refine wp_region_held_drew (S := fun _ => True) (by kernel_rfl) trivial (fun hHeld => ?_)
            generalize hwd : wr.drew = wd at *
            clear hwd
            refine handRead 0 (some 35) (.pointer (some ⟨G, 1, none⟩)) rfl rfl (by kernel_rfl) (by kernel_rfl) (by kernel_rfl) (fun _ _ _ h => h) (by kernel_rfl) trivial ?_ ?_
            · intro w hSw
              go_simp
            try simp only [Act.put]
            try simp only [List.setIfInBounds_toArray]
            try simp only [List.set_cons_succ]
            try simp only [List.set_cons_zero]
            refine handRead 2 (some 37) (.int .i64 (n : Int)) rfl rfl (by kernel_rfl) (by kernel_rfl) (by kernel_rfl) (fun _ _ _ h => h) (by kernel_rfl) trivial ?_ ?_
            · intro w hSw
              go_simp
            try simp only [Act.put]
            try simp only [List.setIfInBounds_toArray]
            try simp only [List.set_cons_succ]
            try simp only [List.set_cons_zero]
            refine wpAnyH_ready (rs := [1, 3]) (by kernel_rfl) (by simp) ?_
            refine AllReadyH.cons rfl (fun K hK => ?_) (AllReadyH.cons rfl (fun K hK => ?_) AllReadyH.nil)
            · go_simp
              refine hK.out _ _ trivial (fun hHeld => ?_)
              clear hK K
              try simp only [Act.put]
              try simp only [List.setIfInBounds_toArray]
              try simp only [List.set_cons_succ]
              try simp only [List.set_cons_zero]
              refine wpAnyH_ready (rs := [3]) (by kernel_rfl) (by simp) ?_
              refine AllReadyH.cons rfl (fun K hK => ?_) AllReadyH.nil
              go_simp
              refine hK.out _ _ trivial (fun hHeld => ?_)
              clear hK K
              try simp only [Act.put]
              try simp only [List.setIfInBounds_toArray]
              try simp only [List.set_cons_succ]
              try simp only [List.set_cons_zero]
              refine wpAnyH_ready (rs := [4]) (by kernel_rfl) (by simp) ?_
              refine AllReadyH.cons rfl (fun K hK => ?_) AllReadyH.nil
              go_simp
              refine hK.out _ _ trivial (fun hHeld => ?_)
              clear hK K
              try simp only [Act.put]
              try simp only [List.setIfInBounds_toArray]
              try simp only [List.set_cons_succ]
              try simp only [List.set_cons_zero]
              refine wpAnyH_ready (rs := [5]) (by kernel_rfl) (by simp) ?_
              refine AllReadyH.cons rfl (fun K hK => ?_) AllReadyH.nil
              refine step_app (by rfl) (.tmp 36) (.tmp 39) 47 (by rfl) (.slice ay ky cy) (.slice (some ⟨w1.heap.size, 0, none⟩) 1 1) (by rfl) (by rfl) _ (fun ty => run_appSS w1 (G + 1) (.slice ay ky cy) ys _ n n HN1.out.own.kn.row HXL.out HN1.out.sz ty) ?_
              intro v7 w7 hg7
              have HF : Hid (NF W W.heap.size G (w7.setCell ⟨G, 1, none⟩ v7) (.slice ax kx cx) v7 (.slice none 0 0) xs (ys ++ [.slice (some ⟨wd.heap.size, 0, none⟩) n n]) [] ⟨lks, zerosL j n ++ [List.replicate n 0], [], []⟩) := HN.out.add1 HB1.out HO1.out hg7
              have hbl : w7.heap[G]? = (w1.alloc (.cells #[.slice (some ⟨wd.heap.size, 0, none⟩) n n] 41)).heap[G]? := hg7.below.block _ (by omega)
              obtain ⟨-, q0, q1, q2, q3, qf⟩ := ((HN1.out.below ((Below.refl _ w1).alloc (Nat.le_refl _) (.cells #[.slice (some ⟨wd.heap.size, 0, none⟩) n n] 41))).box).same hbl hg7.size
              have qf0 := qf 1
              obtain ⟨a7, c7, hv7⟩ := rowShape hg7.own
              generalize (ys ++ [Value.slice (some ⟨wd.heap.size, 0, none⟩) n n]).length = n7 at hv7
              subst hv7
              clear hg7 hbl qf
              refine hK.out _ _ trivial (fun hHeld => ?_)
              clear hK K
              try simp only [Act.put]
              try simp only [List.setIfInBounds_toArray]
              try simp only [List.set_cons_succ]
              try simp only [List.set_cons_zero]
              refine handRead 6 (some 41) (.pointer (some ⟨G, 1, none⟩)) rfl rfl (by kernel_rfl) (by kernel_rfl) (by kernel_rfl) (fun _ _ _ h => h) (by kernel_rfl) trivial ?_ ?_
              · intro w hSw
                go_simp
              try simp only [Act.put]
              try simp only [List.setIfInBounds_toArray]
              try simp only [List.set_cons_succ]
              try simp only [List.set_cons_zero]
              refine wpAnyH_ready (rs := [7]) (by kernel_rfl) (by simp) ?_
              refine AllReadyH.cons rfl (fun K hK => ?_) AllReadyH.nil
              go_simp
              refine hK.out _ _ trivial (fun hHeld => ?_)
              clear hK K
              try simp only [Act.put]
              try simp only [List.setIfInBounds_toArray]
              try simp only [List.set_cons_succ]
              try simp only [List.set_cons_zero]
              refine wpAnyH_done (by kernel_rfl) ?_ _
              go_wp2
              go_roundw
              case rel => exact ⟨j + 1, by omega, by go_num, by rw [zerosL_next]; exact ⟨_, _, _, _, _, _, _, _, HF.out⟩⟩
              case measure => simp [intOf]; omega
            · go_simp
              refine hK.out _ _ trivial (fun hHeld => ?_)
              clear hK K
              try simp only [Act.put]
              try simp only [List.setIfInBounds_toArray]
              try simp only [List.set_cons_succ]
              try simp only [List.set_cons_zero]
              refine wpAnyH_ready (rs := [1, 4]) (by kernel_rfl) (by simp) ?_
              refine AllReadyH.cons rfl (fun K hK => ?_) (AllReadyH.cons rfl (fun K hK => ?_) AllReadyH.nil)
              · go_simp
                refine hK.out _ _ trivial (fun hHeld => ?_)
                clear hK K
                try simp only [Act.put]
                try simp only [List.setIfInBounds_toArray]
                try simp only [List.set_cons_succ]
                try simp only [List.set_cons_zero]
                refine wpAnyH_ready (rs := [4]) (by kernel_rfl) (by simp) ?_
                refine AllReadyH.cons rfl (fun K hK => ?_) AllReadyH.nil
                go_simp
                refine hK.out _ _ trivial (fun hHeld => ?_)
                clear hK K
                try simp only [Act.put]
                try simp only [List.setIfInBounds_toArray]
                try simp only [List.set_cons_succ]
                try simp only [List.set_cons_zero]
                refine wpAnyH_ready (rs := [5]) (by kernel_rfl) (by simp) ?_
                refine AllReadyH.cons rfl (fun K hK => ?_) AllReadyH.nil
                refine step_app (by rfl) (.tmp 36) (.tmp 39) 47 (by rfl) (.slice ay ky cy) (.slice (some ⟨w1.heap.size, 0, none⟩) 1 1) (by rfl) (by rfl) _ (fun ty => run_appSS w1 (G + 1) (.slice ay ky cy) ys _ n n HN1.out.own.kn.row HXL.out HN1.out.sz ty) ?_
                intro v7 w7 hg7
                have HF : Hid (NF W W.heap.size G (w7.setCell ⟨G, 1, none⟩ v7) (.slice ax kx cx) v7 (.slice none 0 0) xs (ys ++ [.slice (some ⟨wd.heap.size, 0, none⟩) n n]) [] ⟨lks, zerosL j n ++ [List.replicate n 0], [], []⟩) := HN.out.add1 HB1.out HO1.out hg7
                have hbl : w7.heap[G]? = (w1.alloc (.cells #[.slice (some ⟨wd.heap.size, 0, none⟩) n n] 41)).heap[G]? := hg7.below.block _ (by omega)
                obtain ⟨-, q0, q1, q2, q3, qf⟩ := ((HN1.out.below ((Below.refl _ w1).alloc (Nat.le_refl _) (.cells #[.slice (some ⟨wd.heap.size, 0, none⟩) n n] 41))).box).same hbl hg7.size
                have qf0 := qf 1
                obtain ⟨a7, c7, hv7⟩ := rowShape hg7.own
                generalize (ys ++ [Value.slice (some ⟨wd.heap.size, 0, none⟩) n n]).length = n7 at hv7
                subst hv7
                clear hg7 hbl qf
                refine hK.out _ _ trivial (fun hHeld => ?_)
                clear hK K
                try simp only [Act.put]
                try simp only [List.setIfInBounds_toArray]
                try simp only [List.set_cons_succ]
                try simp only [List.set_cons_zero]
                refine handRead 6 (some 41) (.pointer (some ⟨G, 1, none⟩)) rfl rfl (by kernel_rfl) (by kernel_rfl) (by kernel_rfl) (fun _ _ _ h => h) (by kernel_rfl) trivial ?_ ?_
                · intro w hSw
                  go_simp
                try simp only [Act.put]
                try simp only [List.setIfInBounds_toArray]
                try simp only [List.set_cons_succ]
                try simp only [List.set_cons_zero]
                refine wpAnyH_ready (rs := [7]) (by kernel_rfl) (by simp) ?_
                refine AllReadyH.cons rfl (fun K hK => ?_) AllReadyH.nil
                go_simp
                refine hK.out _ _ trivial (fun hHeld => ?_)
                clear hK K
                try simp only [Act.put]
                try simp only [List.setIfInBounds_toArray]
                try simp only [List.set_cons_succ]
                try simp only [List.set_cons_zero]
                refine wpAnyH_done (by kernel_rfl) ?_ _
                go_wp2
                go_roundw
                case rel => exact ⟨j + 1, by omega, by go_num, by rw [zerosL_next]; exact ⟨_, _, _, _, _, _, _, _, HF.out⟩⟩
                case measure => simp [intOf]; omega
              · go_simp
                refine hK.out _ _ trivial (fun hHeld => ?_)
                clear hK K
                try simp only [Act.put]
                try simp only [List.setIfInBounds_toArray]
                try simp only [List.set_cons_succ]
                try simp only [List.set_cons_zero]
                refine wpAnyH_ready (rs := [1]) (by kernel_rfl) (by simp) ?_
                refine AllReadyH.cons rfl (fun K hK => ?_) AllReadyH.nil
                go_simp
                refine hK.out _ _ trivial (fun hHeld => ?_)
                clear hK K
                try simp only [Act.put]
                try simp only [List.setIfInBounds_toArray]
                try simp only [List.set_cons_succ]
                try simp only [List.set_cons_zero]
                refine wpAnyH_ready (rs := [5]) (by kernel_rfl) (by simp) ?_
                refine AllReadyH.cons rfl (fun K hK => ?_) AllReadyH.nil
                refine step_app (by rfl) (.tmp 36) (.tmp 39) 47 (by rfl) (.slice ay ky cy) (.slice (some ⟨w1.heap.size, 0, none⟩) 1 1) (by rfl) (by rfl) _ (fun ty => run_appSS w1 (G + 1) (.slice ay ky cy) ys _ n n HN1.out.own.kn.row HXL.out HN1.out.sz ty) ?_
                intro v7 w7 hg7
                have HF : Hid (NF W W.heap.size G (w7.setCell ⟨G, 1, none⟩ v7) (.slice ax kx cx) v7 (.slice none 0 0) xs (ys ++ [.slice (some ⟨wd.heap.size, 0, none⟩) n n]) [] ⟨lks, zerosL j n ++ [List.replicate n 0], [], []⟩) := HN.out.add1 HB1.out HO1.out hg7
                have hbl : w7.heap[G]? = (w1.alloc (.cells #[.slice (some ⟨wd.heap.size, 0, none⟩) n n] 41)).heap[G]? := hg7.below.block _ (by omega)
                obtain ⟨-, q0, q1, q2, q3, qf⟩ := ((HN1.out.below ((Below.refl _ w1).alloc (Nat.le_refl _) (.cells #[.slice (some ⟨wd.heap.size, 0, none⟩) n n] 41))).box).same hbl hg7.size
                have qf0 := qf 1
                obtain ⟨a7, c7, hv7⟩ := rowShape hg7.own
                generalize (ys ++ [Value.slice (some ⟨wd.heap.size, 0, none⟩) n n]).length = n7 at hv7
                subst hv7
                clear hg7 hbl qf
                refine hK.out _ _ trivial (fun hHeld => ?_)
                clear hK K
                try simp only [Act.put]
                try simp only [List.setIfInBounds_toArray]
                try simp only [List.set_cons_succ]
                try simp only [List.set_cons_zero]
                refine handRead 6 (some 41) (.pointer (some ⟨G, 1, none⟩)) rfl rfl (by kernel_rfl) (by kernel_rfl) (by kernel_rfl) (fun _ _ _ h => h) (by kernel_rfl) trivial ?_ ?_
                · intro w hSw
                  go_simp
                try simp only [Act.put]
                try simp only [List.setIfInBounds_toArray]
                try simp only [List.set_cons_succ]
                try simp only [List.set_cons_zero]
                refine wpAnyH_ready (rs := [7]) (by kernel_rfl) (by simp) ?_
                refine AllReadyH.cons rfl (fun K hK => ?_) AllReadyH.nil
                go_simp
                refine hK.out _ _ trivial (fun hHeld => ?_)
                clear hK K
                try simp only [Act.put]
                try simp only [List.setIfInBounds_toArray]
                try simp only [List.set_cons_succ]
                try simp only [List.set_cons_zero]
                refine wpAnyH_done (by kernel_rfl) ?_ _
                go_wp2
                go_roundw
                case rel => exact ⟨j + 1, by omega, by go_num, by rw [zerosL_next]; exact ⟨_, _, _, _, _, _, _, _, HF.out⟩⟩
                case measure => simp [intOf]; omega
          · have hltj' : ¬ (j : Int) < (n : Int) := by omega
            obtain rfl : n = j := by omega
            have CR1 : Hid (Calls Try.prog 53 #[.int .i64 (n : Int), .slice av lks.length cv] wr fun e W' => ∃ v' vs, e = .returned v' ∧ OwnSS W' wr.heap.size v' vs (rowsL n lks) ∧ Below wr.heap.size wr W') := CR.out wr HN0.out.since
            go_wp2_with fail
            refine CR1.out.mono ?_
            rintro e w2 ⟨v2, vs2, rfl, ho2, hb2⟩
            obtain ⟨a2, c2, hv2⟩ := ho2.shape
            rw [HDL.out] at hv2
            subst hv2
            have HNK : Hid (∃ ax kx cx ay ky cy az kz cz xs ys zs, NF W W.heap.size G w2 (.slice ax kx cx) (.slice ay ky cy) (.slice az kz cz) xs ys zs ⟨lks, zerosL n n, zerosL 0 n, []⟩) := ⟨ax, kx, cx, ay, ky, cy, none, 0, 0, xs, ys, [], HN0.out.below hb2⟩
            clear ho2 hb2 HN0 CR1
            go_wp2
            go_loopw [46] (fun i wr => ∃ j : Nat, j ≤ dl ∧ i = .int .i64 j ∧ Hid (∃ ax kx cx ay ky cy az kz cz xs ys zs, NF W W.heap.size G wr (.slice ax kx cx) (.slice ay ky cy) (.slice az kz cz) xs ys zs ⟨lks, zerosL n n, zerosL j n, []⟩)) (fun i _ => dl - (intOf i).toNat)
            case atStart => exact ⟨0, Nat.zero_le _, rfl, HNK⟩
            case round =>
              obtain ⟨j, hj, rfl, HK⟩ := hrel
              obtain ⟨ax, kx, cx, ay, ky, cy, az, kz, cz, xs, ys, zs, hnf⟩ := HK.out
              have HN0 : Hid (NF W W.heap.size G wr (.slice ax kx cx) (.slice ay ky cy) (.slice az kz cz) xs ys zs ⟨lks, zerosL n n, zerosL j n, []⟩) := hnf
              clear hnf HK
              by_cases hltj : j < dl
              · have hltj' : (j : Int) < (dl : Int) := by omega
                have HXL : Hid (zs.length ≤ 1048576) := by
                  have := HN0.out.own.ow.len
                  rw [zerosL_len] at this
                  show _ ≤ _
                  omega
                obtain ⟨w1, hmk, ho1, hb1, -⟩ := make_ints n (by omega) wr.drew
                have HN : Hid (NF W W.heap.size G wr.drew (.slice ax kx cx) (.slice ay ky cy) (.slice az kz cz) xs ys zs ⟨lks, zerosL n n, zerosL j n, []⟩) := HN0.out.below ((Below.refl _ wr).drew)
                have HO1 : Hid (Own w1 wr.drew.heap.size (.slice (some ⟨wr.drew.heap.size, 0, none⟩) n n) (List.replicate n 0)) := ho1
                have HB1 : Hid (Below wr.drew.heap.size wr.drew w1) := hb1
                have HN1 : Hid (NF W W.heap.size G w1 (.slice ax kx cx) (.slice ay ky cy) (.slice az kz cz) xs ys zs ⟨lks, zerosL n n, zerosL j n, []⟩) := HN.out.below hb1
                obtain ⟨-, p0, p1, p2, p3, -⟩ := HN.out.box
                obtain ⟨-, p10, p11, p12, p13, -⟩ := HN1.out.box
                obtain ⟨-, pc0, pc1, pc2, pc3, -⟩ := (HN1.out.below ((Below.refl _ w1).alloc (Nat.le_refl _) (.cells #[.slice (some ⟨wr.drew.heap.size, 0, none⟩) n n] 41))).box
                clear ho1 hb1 HN0
                go_wp2
                refine wp_region_held_drew (S := fun _ => True) (by kernel_rfl) trivial (fun hHeld => ?_)
                generalize hwd : wr.drew = wd at *
                clear hwd
                refine handRead 0 (some 48) (.pointer (some ⟨G, 2, none⟩)) rfl rfl (by kernel_rfl) (by kernel_rfl) (by kernel_rfl) (fun _ _ _ h => h) (by kernel_rfl) trivial ?_ ?_
                · intro w hSw
                  go_simp
                try simp only [Act.put]
                try simp only [List.setIfInBounds_toArray]
                try simp only [List.set_cons_succ]
                try simp only [List.set_cons_zero]
                refine handRead 2 (some 50) (.int .i64 (n : Int)) rfl rfl (by kernel_rfl) (by kernel_rfl) (by kernel_rfl) (fun _ _ _ h => h) (by kernel_rfl) trivial ?_ ?_
                · intro w hSw
                  go_simp
                try simp only [Act.put]
                try simp only [List.setIfInBounds_toArray]
                try simp only [List.set_cons_succ]
                try simp only [List.set_cons_zero]
                refine wpAnyH_ready (rs := [1, 3]) (by kernel_rfl) (by simp) ?_
                refine AllReadyH.cons rfl (fun K hK => ?_) (AllReadyH.cons rfl (fun K hK => ?_) AllReadyH.nil)
                · go_simp
                  refine hK.out _ _ trivial (fun hHeld => ?_)
                  clear hK K
                  try simp only [Act.put]
                  try simp only [List.setIfInBounds_toArray]
                  try simp only [List.set_cons_succ]
                  try simp only [List.set_cons_zero]
                  refine wpAnyH_ready (rs := [3]) (by kernel_rfl) (by simp) ?_
                  refine AllReadyH.cons rfl (fun K hK => ?_) AllReadyH.nil
                  go_simp
                  refine hK.out _ _ trivial (fun hHeld => ?_)
                  clear hK K
                  try simp only [Act.put]
                  try simp only [List.setIfInBounds_toArray]
                  try simp only [List.set_cons_succ]
                  try simp only [List.set_cons_zero]
                  refine wpAnyH_ready (rs := [4]) (by kernel_rfl) (by simp) ?_
                  refine AllReadyH.cons rfl (fun K hK => ?_) AllReadyH.nil
                  go_simp
                  refine hK.out _ _ trivial (fun hHeld => ?_)
                  clear hK K
                  try simp only [Act.put]
                  try simp only [List.setIfInBounds_toArray]
                  try simp only [List.set_cons_succ]
                  try simp only [List.set_cons_zero]
                  refine wpAnyH_ready (rs := [5]) (by kernel_rfl) (by simp) ?_
                  refine AllReadyH.cons rfl (fun K hK => ?_) AllReadyH.nil
                  refine step_app (by rfl) (.tmp 49) (.tmp 52) 47 (by rfl) (.slice az kz cz) (.slice (some ⟨w1.heap.size, 0, none⟩) 1 1) (by rfl) (by rfl) _ (fun ty => run_appSS w1 (G + 1) (.slice az kz cz) zs _ n n HN1.out.own.ow.row HXL.out HN1.out.sz ty) ?_
                  intro v7 w7 hg7
                  have HF : Hid (NF W W.heap.size G (w7.setCell ⟨G, 2, none⟩ v7) (.slice ax kx cx) (.slice ay ky cy) v7 xs ys (zs ++ [.slice (some ⟨wd.heap.size, 0, none⟩) n n]) ⟨lks, zerosL n n, zerosL j n ++ [List.replicate n 0], []⟩) := HN.out.add2 HB1.out HO1.out hg7
                  have hbl : w7.heap[G]? = (w1.alloc (.cells #[.slice (some ⟨wd.heap.size, 0, none⟩) n n] 41)).heap[G]? := hg7.below.block _ (by omega)
                  obtain ⟨-, q0, q1, q2, q3, qf⟩ := ((HN1.out.below ((Below.refl _ w1).alloc (Nat.le_refl _) (.cells #[.slice (some ⟨wd.heap.size, 0, none⟩) n n] 41))).box).same hbl hg7.size
                  have qf0 := qf 2
                  obtain ⟨a7, c7, hv7⟩ := rowShape hg7.own
                  generalize (zs ++ [Value.slice (some ⟨wd.heap.size, 0, none⟩) n n]).length = n7 at hv7
                  subst hv7
                  clear hg7 hbl qf
                  refine hK.out _ _ trivial (fun hHeld => ?_)
                  clear hK K
                  try simp only [Act.put]
                  try simp only [List.setIfInBounds_toArray]
                  try simp only [List.set_cons_succ]
                  try simp only [List.set_cons_zero]
                  refine handRead 6 (some 54) (.pointer (some ⟨G, 2, none⟩)) rfl rfl (by kernel_rfl) (by kernel_rfl) (by kernel_rfl) (fun _ _ _ h => h) (by kernel_rfl) trivial ?_ ?_
                  · intro w hSw
                    go_simp
                  try simp only [Act.put]
                  try simp only [List.setIfInBounds_toArray]
                  try simp only [List.set_cons_succ]
                  try simp only [List.set_cons_zero]
                  refine wpAnyH_ready (rs := [7]) (by kernel_rfl) (by simp) ?_
                  refine AllReadyH.cons rfl (fun K hK => ?_) AllReadyH.nil
                  go_simp
                  refine hK.out _ _ trivial (fun hHeld => ?_)
                  clear hK K
                  try simp only [Act.put]
                  try simp only [List.setIfInBounds_toArray]
                  try simp only [List.set_cons_succ]
                  try simp only [List.set_cons_zero]
                  refine wpAnyH_done (by kernel_rfl) ?_ _
                  go_wp2
                  go_roundw
                  case rel => exact ⟨j + 1, by omega, by go_num, by rw [zerosL_next]; exact ⟨_, _, _, _, _, _, _, _, _, _, _, _, HF.out⟩⟩
                  case measure => simp [intOf]; omega
                · go_simp
                  refine hK.out _ _ trivial (fun hHeld => ?_)
                  clear hK K
                  try simp only [Act.put]
                  try simp only [List.setIfInBounds_toArray]
                  try simp only [List.set_cons_succ]
                  try simp only [List.set_cons_zero]
                  refine wpAnyH_ready (rs := [1, 4]) (by kernel_rfl) (by simp) ?_
                  refine AllReadyH.cons rfl (fun K hK => ?_) (AllReadyH.cons rfl (fun K hK => ?_) AllReadyH.nil)
                  · go_simp
                    refine hK.out _ _ trivial (fun hHeld => ?_)
                    clear hK K
                    try simp only [Act.put]
                    try simp only [List.setIfInBounds_toArray]
                    try simp only [List.set_cons_succ]
                    try simp only [List.set_cons_zero]
                    refine wpAnyH_ready (rs := [4]) (by kernel_rfl) (by simp) ?_
                    refine AllReadyH.cons rfl (fun K hK => ?_) AllReadyH.nil
                    go_simp
                    refine hK.out _ _ trivial (fun hHeld => ?_)
                    clear hK K
                    try simp only [Act.put]
                    try simp only [List.setIfInBounds_toArray]
                    try simp only [List.set_cons_succ]
                    try simp only [List.set_cons_zero]
                    refine wpAnyH_ready (rs := [5]) (by kernel_rfl) (by simp) ?_
                    refine AllReadyH.cons rfl (fun K hK => ?_) AllReadyH.nil
                    refine step_app (by rfl) (.tmp 49) (.tmp 52) 47 (by rfl) (.slice az kz cz) (.slice (some ⟨w1.heap.size, 0, none⟩) 1 1) (by rfl) (by rfl) _ (fun ty => run_appSS w1 (G + 1) (.slice az kz cz) zs _ n n HN1.out.own.ow.row HXL.out HN1.out.sz ty) ?_
                    intro v7 w7 hg7
                    have HF : Hid (NF W W.heap.size G (w7.setCell ⟨G, 2, none⟩ v7) (.slice ax kx cx) (.slice ay ky cy) v7 xs ys (zs ++ [.slice (some ⟨wd.heap.size, 0, none⟩) n n]) ⟨lks, zerosL n n, zerosL j n ++ [List.replicate n 0], []⟩) := HN.out.add2 HB1.out HO1.out hg7
                    have hbl : w7.heap[G]? = (w1.alloc (.cells #[.slice (some ⟨wd.heap.size, 0, none⟩) n n] 41)).heap[G]? := hg7.below.block _ (by omega)
                    obtain ⟨-, q0, q1, q2, q3, qf⟩ := ((HN1.out.below ((Below.refl _ w1).alloc (Nat.le_refl _) (.cells #[.slice (some ⟨wd.heap.size, 0, none⟩) n n] 41))).box).same hbl hg7.size
                    have qf0 := qf 2
                    obtain ⟨a7, c7, hv7⟩ := rowShape hg7.own
                    generalize (zs ++ [Value.slice (some ⟨wd.heap.size, 0, none⟩) n n]).length = n7 at hv7
                    subst hv7
                    clear hg7 hbl qf
                    refine hK.out _ _ trivial (fun hHeld => ?_)
                    clear hK K
                    try simp only [Act.put]
                    try simp only [List.setIfInBounds_toArray]
                    try simp only [List.set_cons_succ]
                    try simp only [List.set_cons_zero]
                    refine handRead 6 (some 54) (.pointer (some ⟨G, 2, none⟩)) rfl rfl (by kernel_rfl) (by kernel_rfl) (by kernel_rfl) (fun _ _ _ h => h) (by kernel_rfl) trivial ?_ ?_
                    · intro w hSw
                      go_simp
                    try simp only [Act.put]
                    try simp only [List.setIfInBounds_toArray]
                    try simp only [List.set_cons_succ]
                    try simp only [List.set_cons_zero]
                    refine wpAnyH_ready (rs := [7]) (by kernel_rfl) (by simp) ?_
                    refine AllReadyH.cons rfl (fun K hK => ?_) AllReadyH.nil
                    go_simp
                    refine hK.out _ _ trivial (fun hHeld => ?_)
                    clear hK K
                    try simp only [Act.put]
                    try simp only [List.setIfInBounds_toArray]
                    try simp only [List.set_cons_succ]
                    try simp only [List.set_cons_zero]
                    refine wpAnyH_done (by kernel_rfl) ?_ _
                    go_wp2
                    go_roundw
                    case rel => exact ⟨j + 1, by omega, by go_num, by rw [zerosL_next]; exact ⟨_, _, _, _, _, _, _, _, _, _, _, _, HF.out⟩⟩
                    case measure => simp [intOf]; omega
                  · go_simp
                    refine hK.out _ _ trivial (fun hHeld => ?_)
                    clear hK K
                    try simp only [Act.put]
                    try simp only [List.setIfInBounds_toArray]
                    try simp only [List.set_cons_succ]
                    try simp only [List.set_cons_zero]
                    refine wpAnyH_ready (rs := [1]) (by kernel_rfl) (by simp) ?_
                    refine AllReadyH.cons rfl (fun K hK => ?_) AllReadyH.nil
                    go_simp
                    refine hK.out _ _ trivial (fun hHeld => ?_)
                    clear hK K
                    try simp only [Act.put]
                    try simp only [List.setIfInBounds_toArray]
                    try simp only [List.set_cons_succ]
                    try simp only [List.set_cons_zero]
                    refine wpAnyH_ready (rs := [5]) (by kernel_rfl) (by simp) ?_
                    refine AllReadyH.cons rfl (fun K hK => ?_) AllReadyH.nil
                    refine step_app (by rfl) (.tmp 49) (.tmp 52) 47 (by rfl) (.slice az kz cz) (.slice (some ⟨w1.heap.size, 0, none⟩) 1 1) (by rfl) (by rfl) _ (fun ty => run_appSS w1 (G + 1) (.slice az kz cz) zs _ n n HN1.out.own.ow.row HXL.out HN1.out.sz ty) ?_
                    intro v7 w7 hg7
                    have HF : Hid (NF W W.heap.size G (w7.setCell ⟨G, 2, none⟩ v7) (.slice ax kx cx) (.slice ay ky cy) v7 xs ys (zs ++ [.slice (some ⟨wd.heap.size, 0, none⟩) n n]) ⟨lks, zerosL n n, zerosL j n ++ [List.replicate n 0], []⟩) := HN.out.add2 HB1.out HO1.out hg7
                    have hbl : w7.heap[G]? = (w1.alloc (.cells #[.slice (some ⟨wd.heap.size, 0, none⟩) n n] 41)).heap[G]? := hg7.below.block _ (by omega)
                    obtain ⟨-, q0, q1, q2, q3, qf⟩ := ((HN1.out.below ((Below.refl _ w1).alloc (Nat.le_refl _) (.cells #[.slice (some ⟨wd.heap.size, 0, none⟩) n n] 41))).box).same hbl hg7.size
                    have qf0 := qf 2
                    obtain ⟨a7, c7, hv7⟩ := rowShape hg7.own
                    generalize (zs ++ [Value.slice (some ⟨wd.heap.size, 0, none⟩) n n]).length = n7 at hv7
                    subst hv7
                    clear hg7 hbl qf
                    refine hK.out _ _ trivial (fun hHeld => ?_)
                    clear hK K
                    try simp only [Act.put]
                    try simp only [List.setIfInBounds_toArray]
                    try simp only [List.set_cons_succ]
                    try simp only [List.set_cons_zero]
                    refine handRead 6 (some 54) (.pointer (some ⟨G, 2, none⟩)) rfl rfl (by kernel_rfl) (by kernel_rfl) (by kernel_rfl) (fun _ _ _ h => h) (by kernel_rfl) trivial ?_ ?_
                    · intro w hSw
                      go_simp
                    try simp only [Act.put]
                    try simp only [List.setIfInBounds_toArray]
                    try simp only [List.set_cons_succ]
                    try simp only [List.set_cons_zero]
                    refine wpAnyH_ready (rs := [7]) (by kernel_rfl) (by simp) ?_
                    refine AllReadyH.cons rfl (fun K hK => ?_) AllReadyH.nil
                    go_simp
                    refine hK.out _ _ trivial (fun hHeld => ?_)
                    clear hK K
                    try simp only [Act.put]
                    try simp only [List.setIfInBounds_toArray]
                    try simp only [List.set_cons_succ]
                    try simp only [List.set_cons_zero]
                    refine wpAnyH_done (by kernel_rfl) ?_ _
                    go_wp2
                    go_roundw
                    case rel => exact ⟨j + 1, by omega, by go_num, by rw [zerosL_next]; exact ⟨_, _, _, _, _, _, _, _, _, _, _, _, HF.out⟩⟩
                    case measure => simp [intOf]; omega
              · have hltj' : ¬ (j : Int) < (dl : Int) := by omega
                obtain rfl : j = dl := by omega
                obtain ⟨-, p0, p1, p2, p3, -⟩ := HN0.out.box
                obtain ⟨-, r0, r1, r2, r3, rf⟩ := HN0.out.res
                have rf0 := rf 0
                have rf1 := rf 1
                have rf2 := rf 2
                have rf3 := rf 3
                have hHG := HN0.out.hg
                have nGH : ¬ G = W.heap.size := by omega
                have nHG : ¬ W.heap.size = G := by omega
                clear rf
                go_wp2
                refine bodyPost_ret (v := .tuple #[.agg #[.slice ax kx cx, .slice ay ky cy, .slice az kz cz, .slice none 0 0], .bool true]) (by simp [results, Try.results26, go_sem, r0, r1, r2, r3]) rfl ⟨_, _, _, _, rfl, ⟨xs, ys, zs, ?_⟩, ?_⟩
                · exact ((((HN0.out.own.setCell (by simp; omega) _).setCell (by simp; omega) _).setCell (by simp; omega) _).setCell (by simp; omega) _).mono (by omega)
                · exact (((HN0.out.since.1.setCell (Nat.le_refl _) _).setCell (Nat.le_refl _) _).setCell (Nat.le_refl _) _).setCell (Nat.le_refl _) _
end Go.Proofs.Ytkkamigaolejiaw
