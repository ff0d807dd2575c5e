/-
  'DrawBeats' of the model.
-/
import Derived.Test.YthdcfeafkellcabDrawBr2
import Derived.Test.YthdcfeafkellcabBoxes
import Derived.Test.YthdcfeafkellcabHand
namespace Go.Proofs.Ythdcfeafkellcab
open Go.RowKit
set_option linter.unusedVariables false

theorem Bx3.only {W W' : World} {b c : Nat} {x y z : Value} (h : Bx3 W b x y z) (ho : Only c W W') (hc : b ≠ c) : Bx3 W' b x y z := by
  have e := ho.2 b h.lt hc
  exact ⟨Nat.lt_of_lt_of_le h.lt ho.1, (World.cell?_of_block e).trans h.c0, (World.cell?_of_block e).trans h.c1, (World.cell?_of_block e).trans h.c2, fun j => (World.frozen?_of_block e).trans (h.fz j)⟩

/-- The drawer's state: its two boxes, its cursor and its bridges. -/
structure Two (B : Nat) (w0 W : World) (a : Option Addr) (len cap m : Nat) (v : Value) (l : List BrD) (wr : World) : Prop where
  one : Bx3 wr W.heap.size (.int .i64 0) (.int .i64 0) (.bool false)
  two : Bx3 wr (W.heap.size + 1) (.int .i64 0) (.int .i64 0) (.bool false)
  cur : Cur B w0 wr (W.heap.size + 2) a len cap m
  own : OwnBr wr (W.heap.size + 3) v l
theorem Two.only {B : Nat} {w0 W : World} {a : Option Addr} {len cap m m' : Nat} {v : Value} {l : List BrD} {wr w' : World} (h : Two B w0 W a len cap m v l wr) (ho : Only (W.heap.size + 2) wr w') (hc : Cur B w0 w' (W.heap.size + 2) a len cap m') : Two B w0 W a len cap m' v l w' :=
  ⟨h.one.only ho (by omega), h.two.only ho (by omega), hc, rowOnly h.own ho (by omega)⟩
theorem Two.at {B : Nat} {w0 W : World} {a : Option Addr} {len cap m : Nat} {g c1 : Nat} {l : List BrD} {wr : World} (h : Two B w0 W a len cap m (.slice (some ⟨g, 0, none⟩) l.length c1) l wr) (j : Nat) (hj : j < l.length) : BrAt wr g (j * 3) l[j] := by
  obtain ⟨a', c', e', hcc⟩ := h.own.reads
  rcases hcc with e | ⟨g', off, ha, hg, hcell⟩
  · rw [e] at hj; simp at hj
  · simp at e'
    rw [← e'.1] at ha
    simp at ha
    obtain ⟨rfl, rfl⟩ := ha
    have := hcell j hj
    rwa [Nat.zero_add] at this
/-- What is left of the world behind the stores into the two boxes. -/
theorem Since.sets2 {B : Nat} {w0 w : World} {b : Nat} (h : Since B w0 w) (hb : B ≤ b) (o : Nat) (v : Value) : Since B w0 (w.setCell ⟨b, o, none⟩ v) :=
  ⟨h.1.setCell (p := ⟨b, o, none⟩) hb v, by simpa [World.setCell] using h.2⟩

/-- Two bridges that were drawn. -/
def DrawnBt (B : Nat) (w0 : World) (e : Ending) (W' : World) : Prop := ∃ x y : BrD, e = .returned (.tuple #[.agg #[.int .i64 x.id, .int .i64 x.rank, .bool x.up], .agg #[.int .i64 y.id, .int .i64 y.rank, .bool y.up]]) ∧ Since B w0 W'
theorem own_at {w : World} {B g c1 : Nat} {l : List BrD} (h : OwnBr w B (.slice (some ⟨g, 0, none⟩) l.length c1) l) (j : Nat) (hj : j < l.length) : BrAt w g (j * 3) l[j] := by
  obtain ⟨a', c', e', hcc⟩ := h.reads
  rcases hcc with e | ⟨g', off, ha, hg, hcell⟩
  · rw [e] at hj; simp at hj
  · simp at e'
    rw [← e'.1] at ha
    simp at ha
    obtain ⟨rfl, rfl⟩ := ha
    have := hcell j hj
    rwa [Nat.zero_add] at this

set_option maxRecDepth 100000 in
set_option maxHeartbeats 4000000 in
theorem drawBeats_any (B : Nat) (w0 W : World) (a : Option Addr) (len cap : Nat) (hC : Code B w0 a len) (hl : len ≤ 9223372036854775807) (h : Since B w0 W) :
    Calls Try.prog 16 #[.slice a len cap] W (DrawnBt B w0) := by
  have HC : Hid (Code B w0 a len) := hC
  have HBW : Hid (B ≤ W.heap.size) := h.2
  obtain ⟨W0, hW0⟩ : ∃ W0, W0 = (W.alloc (.cells #[.int .i64 0, .int .i64 0, .bool false] 35)).alloc (.cells #[.int .i64 0, .int .i64 0, .bool false] 35) := ⟨_, rfl⟩
  have hs0 : W0.heap.size = W.heap.size + 2 := by rw [hW0]; simp
  have hS0 : Since B w0 W0 := by rw [hW0]; exact (h.step ((Below.refl _ _).alloc (Nat.le_refl _) _)).step ((Below.refl _ _).alloc (Nat.le_refl _) _)
  have hb1 : Bx3 W0 W.heap.size (.int .i64 0) (.int .i64 0) (.bool false) := by rw [hW0]; exact (Bx3.new W _ _ _ _).below ((Below.refl _ _).alloc (Nat.le_refl _) _)
  have hb2 : Bx3 W0 (W.heap.size + 1) (.int .i64 0) (.int .i64 0) (.bool false) := by
    rw [hW0]
    have := Bx3.new (W.alloc (.cells #[.int .i64 0, .int .i64 0, .bool false] 35)) (.int .i64 0) (.int .i64 0) (.bool false) 35
    simpa using this
  have HU : Hid (Cur B w0 (W0.alloc (.cells #[.slice a len cap, .int .i64 0, .int .u64 0] 75)) (W.heap.size + 2) a len cap 0) := by
    have := cur_new a len cap 75 hS0
    rw [hs0] at this
    exact this
  have HB1 : Hid (Bx3 (W0.alloc (.cells #[.slice a len cap, .int .i64 0, .int .u64 0] 75)) W.heap.size (.int .i64 0) (.int .i64 0) (.bool false)) := hb1.below ((Below.refl _ _).alloc (Nat.le_refl _) _)
  have HB2 : Hid (Bx3 (W0.alloc (.cells #[.slice a len cap, .int .i64 0, .int .u64 0] 75)) (W.heap.size + 1) (.int .i64 0) (.int .i64 0) (.bool false)) := hb2.below ((Below.refl _ _).alloc (Nat.le_refl _) _)
  have HSZ : Hid ((W0.alloc (.cells #[.slice a len cap, .int .i64 0, .int .u64 0] 75)).heap.size = W.heap.size + 3) := by show _ = _; simp [hs0]
  have HW0 : Hid (W0 = (W.alloc (.cells #[.int .i64 0, .int .i64 0, .bool false] 35)).alloc (.cells #[.int .i64 0, .int .i64 0, .bool false] 35)) := hW0
  clear hC h hS0 hb1 hb2 hW0 hs0
  go_enter Try.func16, Try.ntmps16
  go_wp2_with fail
  rw [← HW0.out]
  refine (bridges_any B w0 _ (W.heap.size + 2) a len cap 0 HC.out hl (by omega) HU.out).mono ?_
  rintro e W1 ⟨v, l, rfl, ho1, hl1, hc1, hn1⟩
  obtain ⟨a1, c1, rfl⟩ := ho1.shape
  have HT : Hid (Two B w0 W a len cap 200 (.slice a1 l.length c1) l W1) := ⟨HB1.out.only hn1 (by omega), HB2.out.only hn1 (by omega), hc1.mono (by omega), by rw [HSZ.out] at ho1; exact ho1⟩
  clear ho1 hc1 hn1 HU HB1 HB2 HSZ HW0
  by_cases h2 : l.length < 2
  · have h2' : (l.length : Int) < 2 := by omega
    have HS1 : Hid (Since B w0 W1) := HT.out.cur.2.2.1
    obtain ⟨f0, f1, f2, f3, f4⟩ := HT.out.one
    obtain ⟨g0, g1, g2, g3, g4⟩ := HT.out.two
    go_wp2
    refine bodyPost_ret (v := .tuple #[.agg #[.int .i64 1, .int .i64 0, .bool false], .agg #[.int .i64 1, .int .i64 0, .bool false]]) (by simp [results, Try.results16, go_sem, f1, f2, f3, g1, g2, g3]) rfl ?_
    refine ⟨⟨1, 0, false⟩, ⟨1, 0, false⟩, rfl, ?_⟩
    repeat (first | exact HS1.out | refine Since.sets2 ?_ (by have := HBW.out; omega) _ _)
  · have h2' : ¬ (l.length : Int) < 2 := by omega
    obtain ⟨g, rfl⟩ : ∃ g, a1 = some ⟨g, 0, none⟩ := by
      rcases HT.out.own.2 with ⟨hv, hn⟩ | ⟨g, _, _, hv, -⟩
      · omega
      · simp at hv
        exact ⟨g, hv.1⟩
    have hgg : W.heap.size + 3 ≤ g := (World.ownsRow.lt HT.out.own g rfl).1
    have HP : Hid (∀ m W5, m ≤ 300 → Two B w0 W a len cap m (.slice (some ⟨g, 0, none⟩) l.length c1) l W5 → Calls Try.prog 53 #[.pointer (some ⟨W.heap.size + 2, 0, none⟩), .int .i64 (l.length : Int)] W5 fun e W' => ∃ n : Nat, e = .returned (.int .i64 (n : Int)) ∧ n < l.length ∧ Only (W.heap.size + 2) W5 W' ∧ Two B w0 W a len cap (m + 2) (.slice (some ⟨g, 0, none⟩) l.length c1) l W') := fun m W5 hm h5 =>
      (pick_any B w0 _ (W.heap.size + 2) a len cap m (l.length : Int) HC.out hl (by omega) h5.cur (by omega) (by omega)).mono (by
        rintro e W6 ⟨r, rfl, r0, r1, hc6, ho6⟩
        exact ⟨r.toNat, by rw [show ((r.toNat : Nat) : Int) = r from by omega], by omega, ho6, h5.only ho6 hc6⟩)
    have HTD : Hid (Two B w0 W a len cap 200 (.slice (some ⟨g, 0, none⟩) l.length c1) l W1.drew) := ⟨HT.out.one.only (Only.refl (W.heap.size + 2) W1) (by omega), HT.out.two.only (Only.refl (W.heap.size + 2) W1) (by omega), HT.out.cur.drew, rowOnly HT.out.own (Only.refl (W.heap.size + 2) W1) (by omega)⟩
    clear HT
    go_wp2
    refine wp_region_held_drew (S := (fun w' => OwnBr w' (W.heap.size + 3) (.slice (some ⟨g, 0, none⟩) l.length c1) l)) (by kernel_rfl) ?_ (fun hHeld => ?_)
    · exact HTD.out.own
    generalize hwd : W1.drew = WD at *
    clear hwd
    have HWD := HTD
    clear HTD
    refine handRead 0 (some 16) (.slice (some ⟨g, 0, none⟩) l.length c1) rfl rfl (by kernel_rfl) (by kernel_rfl) (by kernel_rfl) (fun _ _ _ h => h) (by kernel_rfl) (by assumption) ?_ ?_
    · intro w hSw
      (try dsimp only at hSw)
      go_simp
    simp only [Act.put, List.setIfInBounds_toArray, List.set_cons_zero, List.set_cons_succ]
    refine handRead 1 (some 17) (.pointer (some ⟨W.heap.size + 2, 0, none⟩)) rfl rfl (by kernel_rfl) (by kernel_rfl) (by kernel_rfl) (fun _ _ _ h => h) (by kernel_rfl) (by assumption) ?_ ?_
    · intro w hSw
      (try dsimp only at hSw)
      go_simp
    simp only [Act.put, List.setIfInBounds_toArray, List.set_cons_zero, List.set_cons_succ]
    refine handRead 2 (some 18) (.slice (some ⟨g, 0, none⟩) l.length c1) rfl rfl (by kernel_rfl) (by kernel_rfl) (by kernel_rfl) (fun _ _ _ h => h) (by kernel_rfl) (by assumption) ?_ ?_
    · intro w hSw
      (try dsimp only at hSw)
      go_simp
    simp only [Act.put, List.setIfInBounds_toArray, List.set_cons_zero, List.set_cons_succ]
    refine handRead 3 (some 19) (.int .i64 (l.length : Int)) rfl rfl (by kernel_rfl) (by kernel_rfl) (by kernel_rfl) (fun _ _ _ h => h) (by kernel_rfl) (by assumption) ?_ ?_
    · intro w hSw
      (try dsimp only at hSw)
      go_simp
    simp only [Act.put, List.setIfInBounds_toArray, List.set_cons_zero, List.set_cons_succ]
    refine handRead 7 (some 23) (.slice (some ⟨g, 0, none⟩) l.length c1) rfl rfl (by kernel_rfl) (by kernel_rfl) (by kernel_rfl) (fun _ _ _ h => h) (by kernel_rfl) (by assumption) ?_ ?_
    · intro w hSw
      (try dsimp only at hSw)
      go_simp
    simp only [Act.put, List.setIfInBounds_toArray, List.set_cons_zero, List.set_cons_succ]
    refine handRead 8 (some 24) (.pointer (some ⟨W.heap.size + 2, 0, none⟩)) rfl rfl (by kernel_rfl) (by kernel_rfl) (by kernel_rfl) (fun _ _ _ h => h) (by kernel_rfl) (by assumption) ?_ ?_
    · intro w hSw
      (try dsimp only at hSw)
      go_simp
    simp only [Act.put, List.setIfInBounds_toArray, List.set_cons_zero, List.set_cons_succ]
    refine handRead 9 (some 25) (.slice (some ⟨g, 0, none⟩) l.length c1) rfl rfl (by kernel_rfl) (by kernel_rfl) (by kernel_rfl) (fun _ _ _ h => h) (by kernel_rfl) (by assumption) ?_ ?_
    · intro w hSw
      (try dsimp only at hSw)
      go_simp
    simp only [Act.put, List.setIfInBounds_toArray, List.set_cons_zero, List.set_cons_succ]
    refine handRead 10 (some 26) (.int .i64 (l.length : Int)) rfl rfl (by kernel_rfl) (by kernel_rfl) (by kernel_rfl) (fun _ _ _ h => h) (by kernel_rfl) (by assumption) ?_ ?_
    · intro w hSw
      (try dsimp only at hSw)
      go_simp
    simp only [Act.put, List.setIfInBounds_toArray, List.set_cons_zero, List.set_cons_succ]
    refine handCall 4 (some 20) 53 #[.pointer (some ⟨W.heap.size + 2, 0, none⟩), .int .i64 (l.length : Int)] (by kernel_rfl) rfl rfl (by kernel_rfl) (by simp [go_sem]) ((HP.out 200 WD (by omega) HWD.out).mono ?_)
    rintro e W6 ⟨n6, rfl, hn6, ho, h5⟩
    have HW6 : Hid (Two B w0 W a len cap 202 (.slice (some ⟨g, 0, none⟩) l.length c1) l W6) := h5
    have hn6' : (n6 : Int) < (l.length : Int) := by omega
    clear hHeld ho h5
    refine ⟨_, rfl, HW6.out.own, fun hHeld => ?_⟩
    simp only [Act.put, List.setIfInBounds_toArray, List.set_cons_zero, List.set_cons_succ]
    obtain ⟨x, hx⟩ : ∃ x, x = l[n6] := ⟨_, rfl⟩
    refine handRead 5 (some 21) (.pointer (some ⟨g, n6 * 3, none⟩)) rfl rfl (by kernel_rfl) (by kernel_rfl) (by kernel_rfl) (fun _ _ _ h => h) (by kernel_rfl) (by assumption) ?_ ?_
    · intro w hSw
      (try dsimp only at hSw)
      go_simp
    simp only [Act.put, List.setIfInBounds_toArray, List.set_cons_zero, List.set_cons_succ]
    refine handRead 6 (some 22) (.agg #[.int .i64 x.id, .int .i64 x.rank, .bool x.up]) rfl rfl (by kernel_rfl) (by kernel_rfl) (by kernel_rfl) (fun _ _ _ h => h) (by kernel_rfl) (by assumption) ?_ ?_
    · intro w hSw
      (try dsimp only at hSw)
      obtain ⟨t0, t1, t2⟩ := own_at hSw n6 hn6
      rw [← hx] at t0 t1 t2
      clear hSw
      go_simp
    simp only [Act.put, List.setIfInBounds_toArray, List.set_cons_zero, List.set_cons_succ]
    refine handCall 11 (some 27) 53 #[.pointer (some ⟨W.heap.size + 2, 0, none⟩), .int .i64 (l.length : Int)] (by kernel_rfl) rfl rfl (by kernel_rfl) (by simp [go_sem]) ((HP.out 202 W6 (by omega) HW6.out).mono ?_)
    rintro e W7 ⟨n7, rfl, hn7, ho, h5⟩
    have HW7 : Hid (Two B w0 W a len cap 204 (.slice (some ⟨g, 0, none⟩) l.length c1) l W7) := h5
    have hn7' : (n7 : Int) < (l.length : Int) := by omega
    clear hHeld ho h5
    refine ⟨_, rfl, HW7.out.own, fun hHeld => ?_⟩
    simp only [Act.put, List.setIfInBounds_toArray, List.set_cons_zero, List.set_cons_succ]
    obtain ⟨y, hy⟩ : ∃ y, y = l[n7] := ⟨_, rfl⟩
    refine handRead 12 (some 28) (.pointer (some ⟨g, n7 * 3, none⟩)) rfl rfl (by kernel_rfl) (by kernel_rfl) (by kernel_rfl) (fun _ _ _ h => h) (by kernel_rfl) (by assumption) ?_ ?_
    · intro w hSw
      (try dsimp only at hSw)
      go_simp
    simp only [Act.put, List.setIfInBounds_toArray, List.set_cons_zero, List.set_cons_succ]
    refine handRead 13 (some 29) (.agg #[.int .i64 y.id, .int .i64 y.rank, .bool y.up]) rfl rfl (by kernel_rfl) (by kernel_rfl) (by kernel_rfl) (fun _ _ _ h => h) (by kernel_rfl) (by assumption) ?_ ?_
    · intro w hSw
      (try dsimp only at hSw)
      obtain ⟨t0, t1, t2⟩ := own_at hSw n7 hn7
      rw [← hy] at t0 t1 t2
      clear hSw
      go_simp
    simp only [Act.put, List.setIfInBounds_toArray, List.set_cons_zero, List.set_cons_succ]
    have hBW := HBW.out
    have HRa : Hid (Bx3 (((W7.setCell ⟨W.heap.size, 0, none⟩ (.int .i64 x.id)).setCell ⟨W.heap.size, 1, none⟩ (.int .i64 x.rank)).setCell ⟨W.heap.size, 2, none⟩ (.bool x.up)) W.heap.size (.int .i64 x.id) (.int .i64 x.rank) (.bool x.up)) := ((HW7.out.one.put0 _).put1 _).put2 _
    have HQa : Hid (Bx3 (((W7.setCell ⟨W.heap.size, 0, none⟩ (.int .i64 x.id)).setCell ⟨W.heap.size, 1, none⟩ (.int .i64 x.rank)).setCell ⟨W.heap.size, 2, none⟩ (.bool x.up)) (W.heap.size + 1) (.int .i64 0) (.int .i64 0) (.bool false)) := ((HW7.out.two.other (by simp) _).other (by simp) _).other (by simp) _
    have HOa : Hid (OwnBr (((W7.setCell ⟨W.heap.size, 0, none⟩ (.int .i64 x.id)).setCell ⟨W.heap.size, 1, none⟩ (.int .i64 x.rank)).setCell ⟨W.heap.size, 2, none⟩ (.bool x.up)) (W.heap.size + 3) (.slice (some ⟨g, 0, none⟩) l.length c1) l) := ((HW7.out.own.setCell (by show W.heap.size < _; omega) _).setCell (by show W.heap.size < _; omega) _).setCell (by show W.heap.size < _; omega) _
    have HRf : Hid (Bx3 ((((((W7.setCell ⟨W.heap.size, 0, none⟩ (.int .i64 x.id)).setCell ⟨W.heap.size, 1, none⟩ (.int .i64 x.rank)).setCell ⟨W.heap.size, 2, none⟩ (.bool x.up)).setCell ⟨(W.heap.size + 1), 0, none⟩ (.int .i64 y.id)).setCell ⟨(W.heap.size + 1), 1, none⟩ (.int .i64 y.rank)).setCell ⟨(W.heap.size + 1), 2, none⟩ (.bool y.up)) W.heap.size (.int .i64 x.id) (.int .i64 x.rank) (.bool x.up)) := ((HRa.out.other (by simp) _).other (by simp) _).other (by simp) _
    have HQf : Hid (Bx3 ((((((W7.setCell ⟨W.heap.size, 0, none⟩ (.int .i64 x.id)).setCell ⟨W.heap.size, 1, none⟩ (.int .i64 x.rank)).setCell ⟨W.heap.size, 2, none⟩ (.bool x.up)).setCell ⟨(W.heap.size + 1), 0, none⟩ (.int .i64 y.id)).setCell ⟨(W.heap.size + 1), 1, none⟩ (.int .i64 y.rank)).setCell ⟨(W.heap.size + 1), 2, none⟩ (.bool y.up)) (W.heap.size + 1) (.int .i64 y.id) (.int .i64 y.rank) (.bool y.up)) := ((HQa.out.put0 _).put1 _).put2 _
    have HOf : Hid (OwnBr ((((((W7.setCell ⟨W.heap.size, 0, none⟩ (.int .i64 x.id)).setCell ⟨W.heap.size, 1, none⟩ (.int .i64 x.rank)).setCell ⟨W.heap.size, 2, none⟩ (.bool x.up)).setCell ⟨(W.heap.size + 1), 0, none⟩ (.int .i64 y.id)).setCell ⟨(W.heap.size + 1), 1, none⟩ (.int .i64 y.rank)).setCell ⟨(W.heap.size + 1), 2, none⟩ (.bool y.up)) (W.heap.size + 3) (.slice (some ⟨g, 0, none⟩) l.length c1) l) := ((HOa.out.setCell (by show W.heap.size + 1 < _; omega) _).setCell (by show W.heap.size + 1 < _; omega) _).setCell (by show W.heap.size + 1 < _; omega) _
    have HSf : Hid (Since B w0 ((((((W7.setCell ⟨W.heap.size, 0, none⟩ (.int .i64 x.id)).setCell ⟨W.heap.size, 1, none⟩ (.int .i64 x.rank)).setCell ⟨W.heap.size, 2, none⟩ (.bool x.up)).setCell ⟨(W.heap.size + 1), 0, none⟩ (.int .i64 y.id)).setCell ⟨(W.heap.size + 1), 1, none⟩ (.int .i64 y.rank)).setCell ⟨(W.heap.size + 1), 2, none⟩ (.bool y.up))) := (((((HW7.out.cur.2.2.1.sets2 (by omega) _ _).sets2 (by omega) _ _).sets2 (by omega) _ _).sets2 (by omega) _ _).sets2 (by omega) _ _).sets2 (by omega) _ _
    obtain ⟨k0, k1, k2, k3, k4⟩ := HW7.out.one
    have kf0 := k4 0
    have kf1 := k4 1
    have kf2 := k4 2
    refine wpAnyH_ready (rs := [14]) (by kernel_rfl) (by simp) ?_
    refine AllReadyH.cons rfl (fun K hK => ?_) AllReadyH.nil
    clear hx hy
    go_simp
    refine hK.out _ _ ?_ (fun hHeld => ?_)
    · exact HOa.out
    clear hK K
    try simp only [Act.put, List.setIfInBounds_toArray, List.set_cons_zero, List.set_cons_succ]
    clear k0 k1 k2 k3 k4 kf0 kf1 kf2
    obtain ⟨k0, k1, k2, k3, k4⟩ := HQa.out
    have kf0 := k4 0
    have kf1 := k4 1
    have kf2 := k4 2
    refine wpAnyH_ready (rs := [15]) (by kernel_rfl) (by simp) ?_
    refine AllReadyH.cons rfl (fun K hK => ?_) AllReadyH.nil
    go_simp
    refine hK.out _ _ ?_ (fun hHeld => ?_)
    · exact HOf.out
    clear hK K
    try simp only [Act.put, List.setIfInBounds_toArray, List.set_cons_zero, List.set_cons_succ]
    clear k0 k1 k2 k3 k4 kf0 kf1 kf2
    refine wpAnyH_done (by kernel_rfl) ?_ _
    obtain ⟨r0, r1, r2⟩ := HRf.out.cells
    obtain ⟨q0, q1, q2⟩ := HQf.out.cells
    go_wp2
    refine bodyPost_ret (v := .tuple #[.agg #[.int .i64 x.id, .int .i64 x.rank, .bool x.up], .agg #[.int .i64 y.id, .int .i64 y.rank, .bool y.up]]) (by simp [results, Try.results16, go_sem, r0, r1, r2, q0, q1, q2]) rfl ?_
    exact ⟨x, y, rfl, HSf.out⟩
end Go.Proofs.Ythdcfeafkellcab
