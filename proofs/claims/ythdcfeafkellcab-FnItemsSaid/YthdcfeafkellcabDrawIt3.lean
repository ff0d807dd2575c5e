/-
  What is drawn of items, a list: 'DrawNewestOf'.
-/
import Derived.Test.YthdcfeafkellcabDrawIt2
namespace Go.Proofs.Ythdcfeafkellcab
open Go.RowKit
set_option linter.unusedVariables false

/-- 'append(l, x)' of one item that lies in a block of its own. -/
theorem run_appItD (w : World) (B : Nat) (v : Value) (hs : List ItD) (x : ItD) (hown : OwnIt w B v hs) (hl : hs.length ≤ 1048576) (hB : B ≤ w.heap.size) (ty : TypeId) :
    ∃ v' w', (Builtin.append_ #[65, 65] ty #[v, .slice (some ⟨w.heap.size, 0, none⟩) 1 1]).run Try.prog (w.alloc (.cells #[.int .i64 x.frm, .int .i64 x.seq, .int .i64 x.age, .string x.text] 60)) = .ok v' w' ∧ Grown (w.alloc (.cells #[.int .i64 x.frm, .int .i64 x.seq, .int .i64 x.age, .string x.text] 60)) B 60 4 v (hs ++ [x]).length (cellsIt (hs ++ [x])) v' w' := by
  refine run_appIt _ B v hs (hown.below ((Below.refl _ w).alloc (Nat.le_refl _) _)) _ [x] (.inr ⟨_, 1, rfl, fun j u hu => ?_⟩) (by simp; omega) (by simp; omega) ty
  have hc : cellsIt [x] = [.int .i64 x.frm, .int .i64 x.seq, .int .i64 x.age, .string x.text] := rfl
  rw [hc] at hu
  rw [Go.WideShapes.add_plain, Nat.zero_add, World.cell?_alloc_at _ _ _ _ rfl]
  simpa using hu
/-- What the loop keeps. -/
structure Ig (B : Nat) (w0 : World) (c : Nat) (a : Option Addr) (len cap : Nat) (v : Value) (l : List ItD) (n : Nat) (wr : World) : Prop where
  own : OwnIt wr (c + 1) v l
  fit : l.length + n ≤ 21
  texts : ∀ x ∈ l, x.text.size ≤ 1
  cur : Cur B w0 wr c a len cap (10 + 30 * (21 - n))
theorem ig_add {B : Nat} {w0 w6 w7 : World} {c : Nat} {a : Option Addr} {len cap k : Nat} {v v' : Value} {l : List ItD} {x : ItD} {o : Obj} (hr : ∀ x ∈ l, x.text.size ≤ 1) (hx : x.text.size ≤ 1) (hf : l.length + k ≤ 21) (hk : 0 < k)
    (hc : Cur B w0 w6 c a len cap (10 + 30 * (21 - k) + 26)) (hg : Grown (w6.alloc o) (c + 1) 60 4 v (l ++ [x]).length (cellsIt (l ++ [x])) v' w7) : Ig B w0 c a len cap v' (l ++ [x]) (k - 1) w7 :=
  ⟨hg.own, by simp; omega, fun y hy => by rcases List.mem_append.1 hy with h | h; exact hr y h; rw [List.mem_singleton.1 h]; exact hx, (curGrown (curAlloc hc o) hg).mono (by omega)⟩
/-- A list of items, of its own. -/
def DrawnIts (B : Nat) (w0 W : World) (e : Ending) (W' : World) : Prop := ∃ v l, e = .returned v ∧ OwnIt W' W.heap.size v l ∧ l.length ≤ 21 ∧ (∀ x ∈ l, x.text.size ≤ 1) ∧ Since B w0 W'

set_option maxRecDepth 100000 in
set_option maxHeartbeats 8000000 in
theorem drawNewest_any (B : Nat) (w0 W : World) (a : Option Addr) (len cap : Nat) (hC : Code B w0 a len) (hl : len ≤ 9223372036854775807) (h : Since B w0 W) :
    Calls Try.prog 45 #[.slice a len cap] W (DrawnIts B w0 W) := by
  have HD : Hid (Code B w0 a len) := hC
  have HU : Hid (Cur B w0 (W.alloc (.cells #[.slice a len cap, .int .i64 0, .int .u64 0] 75)) W.heap.size a len cap 0) := cur_new a len cap 75 h
  clear hC h
  go_enter Try.func45, Try.ntmps45
  go_wp2_with fail
  refine (pick_any B w0 _ _ a len cap 0 6 HD.out hl (by omega) HU.out (by omega) (by omega)).mono ?_
  rintro e W1 ⟨q, rfl, q0, q1, hc1, ho1⟩
  have C1 : Hid (Cur B w0 W1 W.heap.size a len cap 2) := hc1
  clear hc1 ho1 HU
  go_wp2_with fail
  refine (one_any B w0 _ _ a len cap 2 20 HD.out hl (by omega) C1.out (by omega) (by omega)).mono ?_
  rintro e W2 ⟨b2, rfl, hc2, ho2⟩
  have C2 : Hid (Cur B w0 W2 W.heap.size a len cap 4) := hc2
  clear hc2 ho2 C1
  cases b2 with
  | false =>
    obtain ⟨n1, rfl⟩ : ∃ n : Nat, q = n := ⟨q.toNat, by omega⟩
    have HB0 : Hid (Ig B w0 W.heap.size a len cap (.slice none 0 0) [] n1 W2) := ⟨OwnIt.nil _ _, by simp; omega, by simp, C2.out.mono (by omega)⟩
    clear C2
    go_wp2
    go_loopw [4, 5] (fun v i wr => ∃ (l : List ItD) (k : Nat), i = .int .i64 (k : Int) ∧ Hid (Ig B w0 W.heap.size a len cap v l k wr)) (fun _ i _ => (intOf i).toNat)
    case atStart => exact ⟨[], n1, rfl, HB0.out⟩
    case round =>
      clear HB0
      obtain ⟨l, k, rfl, HG⟩ := hrel
      obtain ⟨a3, c3, rfl⟩ := HG.out.own.shape
      have hkl : l.length + k ≤ 21 := HG.out.fit
      have HTL : Hid (∀ x ∈ l, x.text.size ≤ 1) := HG.out.texts
      by_cases hk : 0 < k
      · have hk' : 0 < (k : Int) := by omega
        have HCU : Hid (Cur B w0 wr W.heap.size a len cap (10 + 30 * (21 - k))) := HG.out.cur
        go_wp2_with fail
        refine (item_any B w0 _ _ a len cap (10 + 30 * (21 - k)) HD.out hl (by omega) HCU.out).mono ?_
        rintro e w4 ⟨x, rfl, hx4, hc4, ho4⟩
        have HTX : Hid (x.text.size ≤ 1) := hx4
        have hW4 : W.heap.size < w4.heap.size := hc4.2.1
        have HO4 : Hid (OwnIt w4 (W.heap.size + 1) (.slice a3 l.length c3) l) := rowOnly HG.out.own ho4 (by omega)
        have HC5 : Hid (Cur B w0 (w4.alloc (.cells #[.int .i64 x.frm, .int .i64 x.seq, .int .i64 x.age, .string x.text] 60)) W.heap.size a len cap ((10 + 30 * (21 - k)) + 24)) := curAlloc hc4 _
        have HO5 : Hid (OwnIt (w4.alloc (.cells #[.int .i64 x.frm, .int .i64 x.seq, .int .i64 x.age, .string x.text] 60)) (W.heap.size + 1) (.slice a3 l.length c3) l) := HO4.out.below ((Below.refl _ _).alloc (Nat.le_refl _) _)
        obtain ⟨n5, hn5⟩ : ∃ n5, n5 = w4.heap.size := ⟨_, rfl⟩
        have hn5a : W.heap.size < n5 := by omega
        have HX5 : Hid (Bx4 (w4.alloc (.cells #[.int .i64 x.frm, .int .i64 x.seq, .int .i64 x.age, .string x.text] 60)) n5 (.int .i64 x.frm) (.int .i64 x.seq) (.int .i64 x.age) (.string x.text)) := by rw [hn5]; exact Bx4.new _ _ _ _ _ _
        have HNW : Hid (∀ g q, Value.slice a3 l.length c3 = .slice (some ⟨g, 0, none⟩) l.length q → g < n5) := fun g q e => by
          rw [hn5]
          exact (World.ownsRow.lt HO4.out g (by rw [e]; rfl)).2
        clear hx4 hc4 ho4 HO4 HG HCU
        go_wp2_with fail
        refine (one_any B w0 _ _ a len cap ((10 + 30 * (21 - k)) + 24) 20 HD.out hl (by omega) HC5.out (by omega) (by omega)).mono ?_
        rintro e w6 ⟨b6, rfl, hc6, ho6⟩
        have HC6 : Hid (Cur B w0 w6 W.heap.size a len cap ((10 + 30 * (21 - k)) + 26)) := hc6
        have HX6 : Hid (Bx4 w6 n5 (.int .i64 x.frm) (.int .i64 x.seq) (.int .i64 x.age) (.string x.text)) := HX5.out.only ho6 (by omega)
        have HO6 : Hid (OwnIt w6 (W.heap.size + 1) (.slice a3 l.length c3) l) := rowOnly HO5.out ho6 (by omega)
        rw [← hn5]
        clear hc6 ho6 HC5 HX5 HO5 hW4 hn5
        cases b6 with
        | true =>
          generalize hw67 : w6 = w7 at *
          clear hw67
          have HC7 := HC6
          have HX7 := HX6
          have HO7 := HO6
          clear HC6 HX6 HO6
          have HAP : Hid (∀ ty, ∃ v' w', (Builtin.append_ #[65, 65] ty #[.slice a3 l.length c3, .slice (some ⟨w7.heap.size, 0, none⟩) 1 1]).run Try.prog (w7.alloc (.cells #[.int .i64 x.frm, .int .i64 x.seq, .int .i64 x.age, .string x.text] 60)) = .ok v' w' ∧ Grown (w7.alloc (.cells #[.int .i64 x.frm, .int .i64 x.seq, .int .i64 x.age, .string x.text] 60)) (W.heap.size + 1) 60 4 (.slice a3 l.length c3) (l ++ [(⟨x.frm, x.seq, x.age, x.text⟩ : ItD)]).length (cellsIt (l ++ [(⟨x.frm, x.seq, x.age, x.text⟩ : ItD)])) v' w') := fun ty => by
            have := run_appItD w7 _ _ l (⟨x.frm, x.seq, x.age, x.text⟩ : ItD) HO7.out (by omega) (by have := HC7.out.2.1; omega) ty
            rw [show (w7).heap.size = w7.heap.size by first | rfl | simp [World.setCell]] at this
            exact this
          obtain ⟨x0, x1, x2, x3⟩ := HX7.out.cells
          go_wp2_with (at_builtin; refine list_app (by rfl) (.tmp 27) (.tmp 29) 65 (by rfl) (.slice a3 l.length c3) (.slice (some ⟨w7.heap.size, 0, none⟩) 1 1) (by rfl) (by rfl) _ HAP.out ?_; intro v8 w8 hg8; have HF : Hid (Ig B w0 W.heap.size a len cap v8 (l ++ [(⟨x.frm, x.seq, x.age, x.text⟩ : ItD)]) (k - 1) w8) := ig_add HTL.out HTX.out hkl hk HC7.out hg8; clear hg8)
          go_roundw
          case rel => exact ⟨_, k - 1, by go_num, HF.out⟩
          case measure => simp [intOf]; omega
        | false =>
          obtain ⟨z0, z1, z2, z3⟩ := HX6.out.cells
          have fz0 := HX6.out.fz 0
          have HC7 : Hid (Cur B w0 (w6.setCell ⟨n5, 0, none⟩ (.int .i64 1)) W.heap.size a len cap ((10 + 30 * (21 - k)) + 26)) := HC6.out.other (by omega) _
          have HX7 : Hid (Bx4 (w6.setCell ⟨n5, 0, none⟩ (.int .i64 1)) n5 (.int .i64 1) (.int .i64 x.seq) (.int .i64 x.age) (.string x.text)) := HX6.out.put0 _
          have HO7 : Hid (OwnIt (w6.setCell ⟨n5, 0, none⟩ (.int .i64 1)) (W.heap.size + 1) (.slice a3 l.length c3) l) := rowSame HO6.out fun g hg => by
            rcases HO6.out.2 with ⟨hv, -⟩ | ⟨g', q, cur, hv, -⟩
            · rw [hv] at hg; cases hg
            · have hg' : g = g' := by rw [hv] at hg; exact (Option.some.inj hg).symm
              have := HNW.out g' q hv
              exact Below.heap_setCell _ _ _ _ (by show g ≠ n5; omega)
          clear HC6 HX6 HO6
          have HAP : Hid (∀ ty, ∃ v' w', (Builtin.append_ #[65, 65] ty #[.slice a3 l.length c3, .slice (some ⟨w6.heap.size, 0, none⟩) 1 1]).run Try.prog ((w6.setCell ⟨n5, 0, none⟩ (.int .i64 1)).alloc (.cells #[.int .i64 1, .int .i64 x.seq, .int .i64 x.age, .string x.text] 60)) = .ok v' w' ∧ Grown ((w6.setCell ⟨n5, 0, none⟩ (.int .i64 1)).alloc (.cells #[.int .i64 1, .int .i64 x.seq, .int .i64 x.age, .string x.text] 60)) (W.heap.size + 1) 60 4 (.slice a3 l.length c3) (l ++ [(⟨1, x.seq, x.age, x.text⟩ : ItD)]).length (cellsIt (l ++ [(⟨1, x.seq, x.age, x.text⟩ : ItD)])) v' w') := fun ty => by
            have := run_appItD (w6.setCell ⟨n5, 0, none⟩ (.int .i64 1)) _ _ l (⟨1, x.seq, x.age, x.text⟩ : ItD) HO7.out (by omega) (by have := HC7.out.2.1; omega) ty
            rw [show ((w6.setCell ⟨n5, 0, none⟩ (.int .i64 1))).heap.size = w6.heap.size by first | rfl | simp [World.setCell]] at this
            exact this
          go_wp2_with (at_builtin; refine list_app (by rfl) (.tmp 27) (.tmp 29) 65 (by rfl) (.slice a3 l.length c3) (.slice (some ⟨w6.heap.size, 0, none⟩) 1 1) (by rfl) (by rfl) _ HAP.out ?_; intro v8 w8 hg8; have HF : Hid (Ig B w0 W.heap.size a len cap v8 (l ++ [(⟨1, x.seq, x.age, x.text⟩ : ItD)]) (k - 1) w8) := ig_add HTL.out HTX.out hkl hk HC7.out hg8; clear hg8)
          go_roundw
          case rel => exact ⟨_, k - 1, by go_num, HF.out⟩
          case measure => simp [intOf]; omega
      · have hk' : ¬ 0 < (k : Int) := by omega
        have HF : Hid (Ig B w0 W.heap.size a len cap (.slice a3 l.length c3) l k wr) := HG.out
        clear HG
        go_wp2
        go_ret
        exact ⟨_, l, rfl, rowMono HF.out.own (Nat.le_succ _), by omega, HF.out.texts, HF.out.cur.2.2.1⟩
  | true =>
    go_wp2_with fail
    refine (pick_any B w0 _ _ a len cap 4 2 HD.out hl (by omega) C2.out (by omega) (by omega)).mono ?_
    rintro e W3 ⟨p, rfl, p0, p1, hc3, ho3⟩
    have C3 : Hid (Cur B w0 W3 W.heap.size a len cap 6) := hc3
    clear hc3 ho3 C2
    obtain ⟨n1, hn1⟩ : ∃ n : Nat, 20 + p = (n : Int) := ⟨(20 + p).toNat, by omega⟩
    have hn1' : n1 ≤ 21 := by omega
    have HB0 : Hid (Ig B w0 W.heap.size a len cap (.slice none 0 0) [] n1 W3) := ⟨OwnIt.nil _ _, by simp; omega, by simp, C3.out.mono (by omega)⟩
    clear C3
    go_wp2
    go_loopw [4, 5] (fun v i wr => ∃ (l : List ItD) (k : Nat), i = .int .i64 (k : Int) ∧ Hid (Ig B w0 W.heap.size a len cap v l k wr)) (fun _ i _ => (intOf i).toNat)
    case atStart => exact ⟨[], n1, by first | rfl | (congr 1) | (rw [hn1]), HB0.out⟩
    case round =>
      clear HB0
      obtain ⟨l, k, rfl, HG⟩ := hrel
      obtain ⟨a3, c3, rfl⟩ := HG.out.own.shape
      have hkl : l.length + k ≤ 21 := HG.out.fit
      have HTL : Hid (∀ x ∈ l, x.text.size ≤ 1) := HG.out.texts
      by_cases hk : 0 < k
      · have hk' : 0 < (k : Int) := by omega
        have HCU : Hid (Cur B w0 wr W.heap.size a len cap (10 + 30 * (21 - k))) := HG.out.cur
        go_wp2_with fail
        refine (item_any B w0 _ _ a len cap (10 + 30 * (21 - k)) HD.out hl (by omega) HCU.out).mono ?_
        rintro e w4 ⟨x, rfl, hx4, hc4, ho4⟩
        have HTX : Hid (x.text.size ≤ 1) := hx4
        have hW4 : W.heap.size < w4.heap.size := hc4.2.1
        have HO4 : Hid (OwnIt w4 (W.heap.size + 1) (.slice a3 l.length c3) l) := rowOnly HG.out.own ho4 (by omega)
        have HC5 : Hid (Cur B w0 (w4.alloc (.cells #[.int .i64 x.frm, .int .i64 x.seq, .int .i64 x.age, .string x.text] 60)) W.heap.size a len cap ((10 + 30 * (21 - k)) + 24)) := curAlloc hc4 _
        have HO5 : Hid (OwnIt (w4.alloc (.cells #[.int .i64 x.frm, .int .i64 x.seq, .int .i64 x.age, .string x.text] 60)) (W.heap.size + 1) (.slice a3 l.length c3) l) := HO4.out.below ((Below.refl _ _).alloc (Nat.le_refl _) _)
        obtain ⟨n5, hn5⟩ : ∃ n5, n5 = w4.heap.size := ⟨_, rfl⟩
        have hn5a : W.heap.size < n5 := by omega
        have HX5 : Hid (Bx4 (w4.alloc (.cells #[.int .i64 x.frm, .int .i64 x.seq, .int .i64 x.age, .string x.text] 60)) n5 (.int .i64 x.frm) (.int .i64 x.seq) (.int .i64 x.age) (.string x.text)) := by rw [hn5]; exact Bx4.new _ _ _ _ _ _
        have HNW : Hid (∀ g q, Value.slice a3 l.length c3 = .slice (some ⟨g, 0, none⟩) l.length q → g < n5) := fun g q e => by
          rw [hn5]
          exact (World.ownsRow.lt HO4.out g (by rw [e]; rfl)).2
        clear hx4 hc4 ho4 HO4 HG HCU
        go_wp2_with fail
        refine (one_any B w0 _ _ a len cap ((10 + 30 * (21 - k)) + 24) 20 HD.out hl (by omega) HC5.out (by omega) (by omega)).mono ?_
        rintro e w6 ⟨b6, rfl, hc6, ho6⟩
        have HC6 : Hid (Cur B w0 w6 W.heap.size a len cap ((10 + 30 * (21 - k)) + 26)) := hc6
        have HX6 : Hid (Bx4 w6 n5 (.int .i64 x.frm) (.int .i64 x.seq) (.int .i64 x.age) (.string x.text)) := HX5.out.only ho6 (by omega)
        have HO6 : Hid (OwnIt w6 (W.heap.size + 1) (.slice a3 l.length c3) l) := rowOnly HO5.out ho6 (by omega)
        rw [← hn5]
        clear hc6 ho6 HC5 HX5 HO5 hW4 hn5
        cases b6 with
        | true =>
          generalize hw67 : w6 = w7 at *
          clear hw67
          have HC7 := HC6
          have HX7 := HX6
          have HO7 := HO6
          clear HC6 HX6 HO6
          have HAP : Hid (∀ ty, ∃ v' w', (Builtin.append_ #[65, 65] ty #[.slice a3 l.length c3, .slice (some ⟨w7.heap.size, 0, none⟩) 1 1]).run Try.prog (w7.alloc (.cells #[.int .i64 x.frm, .int .i64 x.seq, .int .i64 x.age, .string x.text] 60)) = .ok v' w' ∧ Grown (w7.alloc (.cells #[.int .i64 x.frm, .int .i64 x.seq, .int .i64 x.age, .string x.text] 60)) (W.heap.size + 1) 60 4 (.slice a3 l.length c3) (l ++ [(⟨x.frm, x.seq, x.age, x.text⟩ : ItD)]).length (cellsIt (l ++ [(⟨x.frm, x.seq, x.age, x.text⟩ : ItD)])) v' w') := fun ty => by
            have := run_appItD w7 _ _ l (⟨x.frm, x.seq, x.age, x.text⟩ : ItD) HO7.out (by omega) (by have := HC7.out.2.1; omega) ty
            rw [show (w7).heap.size = w7.heap.size by first | rfl | simp [World.setCell]] at this
            exact this
          obtain ⟨x0, x1, x2, x3⟩ := HX7.out.cells
          go_wp2_with (at_builtin; refine list_app (by rfl) (.tmp 27) (.tmp 29) 65 (by rfl) (.slice a3 l.length c3) (.slice (some ⟨w7.heap.size, 0, none⟩) 1 1) (by rfl) (by rfl) _ HAP.out ?_; intro v8 w8 hg8; have HF : Hid (Ig B w0 W.heap.size a len cap v8 (l ++ [(⟨x.frm, x.seq, x.age, x.text⟩ : ItD)]) (k - 1) w8) := ig_add HTL.out HTX.out hkl hk HC7.out hg8; clear hg8)
          go_roundw
          case rel => exact ⟨_, k - 1, by go_num, HF.out⟩
          case measure => simp [intOf]; omega
        | false =>
          obtain ⟨z0, z1, z2, z3⟩ := HX6.out.cells
          have fz0 := HX6.out.fz 0
          have HC7 : Hid (Cur B w0 (w6.setCell ⟨n5, 0, none⟩ (.int .i64 1)) W.heap.size a len cap ((10 + 30 * (21 - k)) + 26)) := HC6.out.other (by omega) _
          have HX7 : Hid (Bx4 (w6.setCell ⟨n5, 0, none⟩ (.int .i64 1)) n5 (.int .i64 1) (.int .i64 x.seq) (.int .i64 x.age) (.string x.text)) := HX6.out.put0 _
          have HO7 : Hid (OwnIt (w6.setCell ⟨n5, 0, none⟩ (.int .i64 1)) (W.heap.size + 1) (.slice a3 l.length c3) l) := rowSame HO6.out fun g hg => by
            rcases HO6.out.2 with ⟨hv, -⟩ | ⟨g', q, cur, hv, -⟩
            · rw [hv] at hg; cases hg
            · have hg' : g = g' := by rw [hv] at hg; exact (Option.some.inj hg).symm
              have := HNW.out g' q hv
              exact Below.heap_setCell _ _ _ _ (by show g ≠ n5; omega)
          clear HC6 HX6 HO6
          have HAP : Hid (∀ ty, ∃ v' w', (Builtin.append_ #[65, 65] ty #[.slice a3 l.length c3, .slice (some ⟨w6.heap.size, 0, none⟩) 1 1]).run Try.prog ((w6.setCell ⟨n5, 0, none⟩ (.int .i64 1)).alloc (.cells #[.int .i64 1, .int .i64 x.seq, .int .i64 x.age, .string x.text] 60)) = .ok v' w' ∧ Grown ((w6.setCell ⟨n5, 0, none⟩ (.int .i64 1)).alloc (.cells #[.int .i64 1, .int .i64 x.seq, .int .i64 x.age, .string x.text] 60)) (W.heap.size + 1) 60 4 (.slice a3 l.length c3) (l ++ [(⟨1, x.seq, x.age, x.text⟩ : ItD)]).length (cellsIt (l ++ [(⟨1, x.seq, x.age, x.text⟩ : ItD)])) v' w') := fun ty => by
            have := run_appItD (w6.setCell ⟨n5, 0, none⟩ (.int .i64 1)) _ _ l (⟨1, x.seq, x.age, x.text⟩ : ItD) HO7.out (by omega) (by have := HC7.out.2.1; omega) ty
            rw [show ((w6.setCell ⟨n5, 0, none⟩ (.int .i64 1))).heap.size = w6.heap.size by first | rfl | simp [World.setCell]] at this
            exact this
          go_wp2_with (at_builtin; refine list_app (by rfl) (.tmp 27) (.tmp 29) 65 (by rfl) (.slice a3 l.length c3) (.slice (some ⟨w6.heap.size, 0, none⟩) 1 1) (by rfl) (by rfl) _ HAP.out ?_; intro v8 w8 hg8; have HF : Hid (Ig B w0 W.heap.size a len cap v8 (l ++ [(⟨1, x.seq, x.age, x.text⟩ : ItD)]) (k - 1) w8) := ig_add HTL.out HTX.out hkl hk HC7.out hg8; clear hg8)
          go_roundw
          case rel => exact ⟨_, k - 1, by go_num, HF.out⟩
          case measure => simp [intOf]; omega
      · have hk' : ¬ 0 < (k : Int) := by omega
        have HF : Hid (Ig B w0 W.heap.size a len cap (.slice a3 l.length c3) l k wr) := HG.out
        clear HG
        go_wp2
        go_ret
        exact ⟨_, l, rfl, rowMono HF.out.own (Nat.le_succ _), by omega, HF.out.texts, HF.out.cur.2.2.1⟩
end Go.Proofs.Ythdcfeafkellcab
