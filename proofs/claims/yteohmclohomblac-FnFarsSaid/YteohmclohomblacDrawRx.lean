/-
  Draws of chapter 9: numbers that are relaxed.
-/
import Derived.Test.YteohmclohomblacDrawWt
namespace Go.Proofs.Yteohmclohomblac
open Go.RowKit
set_option linter.unusedVariables false

/-- A row that grows beside a cursor. -/
structure FarG (B : Nat) (w0 W1 : World) (c : Nat) (a : Option Addr) (len cap m : Nat) (v : Value) (zs : List Int) (wr : World) : Prop where
  own : Own wr W1.heap.size v zs
  cur : Cur B w0 wr c a len cap m
  only : Only c W1 wr
theorem FarG.step {B : Nat} {w0 W1 : World} {c : Nat} {a : Option Addr} {len cap m m' : Nat} {v : Value} {zs : List Int} {wr w1 : World} (h : FarG B w0 W1 c a len cap m v zs wr) (hc : Cur B w0 w1 c a len cap m') (ho : Only c wr w1) (hcW : c < W1.heap.size) : FarG B w0 W1 c a len cap m' v zs w1 := ⟨rowOnly h.own ho hcW, hc, h.only.trans ho⟩
theorem FarG.put {B : Nat} {w0 W1 : World} {c : Nat} {a : Option Addr} {len cap m : Nat} {v : Value} {zs zs' : List Int} {wr w1 : World} {o : Obj} {v' : Value} (h : FarG B w0 W1 c a len cap m v zs wr) (hg : Grown (wr.alloc o) W1.heap.size 3 1 v zs'.length (zs'.map (Value.int .i64)) v' w1) (hcW : c < W1.heap.size) : FarG B w0 W1 c a len cap m v' zs' w1 :=
  ⟨hg.own, curGrown (B := B) (h.cur.below ((Below.refl _ wr).alloc (Nat.le_refl _) o)) ⟨rowMono hg.own hcW, hg.below.mono hcW, hg.size, hg.grown, hg.lies⟩,
   Nat.le_trans h.only.1 (Nat.le_trans (by simp) hg.size), fun k hk hne => (hg.grown.block k (by have := h.only.1; simp; omega) (fun e => by
     have := (World.ownsRow.lt h.own k e.symm).1
     omega)).trans ((((Below.refl wr.heap.size wr).alloc (Nat.le_refl _) o).block k (by have := h.only.1; omega)).trans (h.only.2 k hk hne))⟩

def DrawnEr (B : Nat) (w0 W : World) (e : Ending) (W' : World) : Prop := ∃ (n : Nat) (v : Value) (l : List EdD) (u : Value) (zs : List Int), e = .returned (.tuple #[.int .i64 (n : Int), v, u]) ∧ OwnEd W' W.heap.size v l ∧ l.length ≤ 40 ∧ n ≤ 13 ∧ Own W' W.heap.size u zs ∧ zs.length ≤ 13 ∧ Since B w0 W'

set_option maxRecDepth 100000 in
set_option maxHeartbeats 4000000 in
theorem drawRelax_any (B : Nat) (w0 W : World) (a : Option Addr) (len cap : Nat) (hC : Code B w0 a len) (hl : len ≤ 9223372036854775807) (h : Since B w0 W) :
    Calls Try.prog 54 #[.slice a len cap] W (DrawnEr B w0 W) := by
  have HC : Hid (Code B w0 a len) := hC
  have HU : Hid (Cur B w0 (W.alloc (.cells #[.slice a len cap, .int .i64 0, .int .u64 0] 93)) W.heap.size a len cap 0) := cur_new a len cap 93 h
  clear hC h
  go_enter Try.func54, Try.ntmps54
  go_wp2_with fail
  refine (edges_any B w0 _ _ a len cap 0 HC.out hl (by omega) HU.out).mono ?_
  rintro e W1 ⟨n, v, l, rfl, ho1, hl1, hn1, hc1, hx1⟩
  obtain ⟨a1, c1, rfl⟩ := ho1.shape
  have O1 : Hid (OwnEd W1 (W.heap.size + 1) (.slice a1 l.length c1) l) := by show OwnEd _ _ _ _; have := ho1; simp at this; exact this
  have HZ : Hid (W.heap.size + 1 ≤ W1.heap.size) := by show _ ≤ _; have := hx1.1; simpa using this
  have hcW : W.heap.size < W1.heap.size := HZ.out
  have G1 : Hid (FarG B w0 W1 W.heap.size a len cap 1000 (.slice none 0 0) [] W1) := ⟨Own.nil _ _, hc1.mono (by omega), Only.refl _ _⟩
  clear ho1 hc1 hx1 HU
  go_wp2
  go_loopw [8, 9] (fun u t wr => ∃ (k : Nat) (zs : List Int), k ≤ n ∧ t = .int .i64 (k : Int) ∧ zs.length = k ∧ Hid (FarG B w0 W1 W.heap.size a len cap (1000 + 4 * k) u zs wr)) (fun _ t _ => n - (intOf t).toNat)
  case atStart => exact ⟨0, [], Nat.zero_le _, rfl, rfl, G1.out⟩
  case round =>
    clear G1
    obtain ⟨k, zs, hk, rfl, hzl, HK⟩ := hrel
    obtain ⟨a2, c2, rfl⟩ := HK.out.own.shape
    rw [hzl]
    by_cases hlt : k < n
    · have hlt' : (k : Int) < (n : Int) := by omega
      go_wp2_with fail
      refine (pick_any B w0 _ W.heap.size a len cap (1000 + 4 * k) 30 HC.out hl (by omega) HK.out.cur (by omega) (by omega)).mono ?_
      rintro e W2 ⟨p, rfl, p0, p1, hc2, ho2⟩
      have G2 : Hid (FarG B w0 W1 W.heap.size a len cap (1000 + 4 * k + 2) (.slice a2 zs.length c2) zs W2) := HK.out.step hc2 ho2 hcW
      have HCL : Hid (∀ j (hj : j < [(0 : Int), 3, 9, 100000, p].length), (W2.alloc (.cells #[.int .i64 0, .int .i64 3, .int .i64 9, .int .i64 100000, .int .i64 p] 3)).cell? ⟨W2.heap.size, j, none⟩ = some (.int .i64 [(0 : Int), 3, 9, 100000, p][j])) := cells_lit W2 3 [(0 : Int), 3, 9, 100000, p]
      clear hc2 ho2 HK
      go_wp2_with fail
      refine (among_any B w0 _ W.heap.size W2.heap.size [(0 : Int), 3, 9, 100000, p] a len cap 5 (1000 + 4 * k + 2) HC.out hl (by omega) (curAlloc G2.out.cur _) (by simp) (by simp) (by simp) (by have := G2.out.cur.2.1; omega) HCL.out).mono ?_
      rintro e W3 ⟨f, rfl, -, hc3, ho3⟩
      have G3 : Hid (FarG B w0 W1 W.heap.size a len cap (1000 + 4 * (k + 1)) (.slice a2 zs.length c2) zs W3) := (G2.out.step (curAlloc G2.out.cur _) (onlyAlloc (Only.refl _ _) _) hcW).step (hc3.mono (by omega)) ho3 hcW
      have hb1 : Below W3.heap.size W3 (W3.alloc (.cells #[.int .i64 f] 3)) := (Below.refl _ W3).alloc (Nat.le_refl _) _
      have HA : Hid (∀ ty, ∃ v' w', (Builtin.append_ #[35, 35] ty #[.slice a2 zs.length c2, .slice (some ⟨W3.heap.size, 0, none⟩) 1 1]).run Try.prog (W3.alloc (.cells #[.int .i64 f] 3)) = .ok v' w' ∧ Grown (W3.alloc (.cells #[.int .i64 f] 3)) W1.heap.size 3 1 (.slice a2 zs.length c2) (zs ++ [f]).length ((zs ++ [f]).map (Value.int .i64)) v' w') := fun ty =>
        run_app1 _ _ _ zs (G3.out.own.below hb1) W3.heap.size 1 f (new_cell _ _ _) (by omega) (by have := G3.out.only.1; simp; omega) ty
      clear hc3 ho3 hb1 HCL G2
      have hzl2 : (zs ++ [f]).length = k + 1 := by simp [hzl]
      rw [hzl] at HA G3
      go_wp2_with (at_builtin; refine list_app (by rfl) (.tmp 23) (.tmp 29) 35 (by rfl) (.slice a2 k c2) (.slice (some ⟨W3.heap.size, 0, none⟩) 1 1) (by rfl) (by rfl) _ HA.out ?_; intro v5 w5 hg5; have HF : Hid (FarG B w0 W1 W.heap.size a len cap (1000 + 4 * (k + 1)) v5 (zs ++ [f]) w5) := G3.out.put hg5 hcW; clear hg5)
      go_roundw
      case rel => exact ⟨k + 1, zs ++ [f], by omega, by go_num, hzl2, HF.out⟩
      case measure => simp [intOf]; omega
    · have hlt' : ¬ (k : Int) < (n : Int) := by omega
      have HF : Hid (∀ w', Only W.heap.size W1 w' → OwnEd w' W.heap.size (.slice a1 l.length c1) l) := fun w' ho => rowMono (rowOnly O1.out ho (by omega)) (Nat.le_succ _)
      have hzn : zs.length ≤ 13 := by omega
      by_cases h0 : zs.length = 0
      · have hk0 : ¬ (0 : Int) < (k : Int) := by omega
        go_wp2
        refine bodyPost_ret (results_tmp3 rfl _ _ _) rfl ?_
        exact ⟨n, _, l, _, zs, rfl, HF.out _ HK.out.only, hl1, hn1, by rw [← hzl]; exact HK.out.own.mono (by omega), hzn, HK.out.cur.2.2.1⟩
      · have hk0 : (0 : Int) < (k : Int) := by omega
        go_wp2_with fail
        refine (one_any B w0 _ W.heap.size a len cap (1000 + 4 * k) 20 HC.out hl (by omega) HK.out.cur (by omega) (by omega)).mono ?_
        rintro e W2 ⟨q, rfl, hc2, ho2⟩
        have G2 : Hid (FarG B w0 W1 W.heap.size a len cap (1000 + 4 * k + 2) (.slice a2 zs.length c2) zs W2) := HK.out.step hc2 ho2 hcW
        clear hc2 ho2 HK
        cases q with
        | false =>
          go_wp2
          refine bodyPost_ret (results_tmp3 rfl _ _ _) rfl ?_
          exact ⟨n, _, l, _, zs, rfl, HF.out _ G2.out.only, hl1, hn1, by rw [← hzl]; exact G2.out.own.mono (by omega), hzn, G2.out.cur.2.2.1⟩
        | true =>
          have HCL : Hid (∀ j (hj : j < [(-1 : Int), 100001].length), (W2.alloc (.cells #[.int .i64 (-1), .int .i64 100001] 3)).cell? ⟨W2.heap.size, j, none⟩ = some (.int .i64 [(-1 : Int), 100001][j])) := cells_lit W2 3 [(-1 : Int), 100001]
          rcases G2.out.own.2 with ⟨hv, h9⟩ | ⟨g, cap2, cur2, hv, hg, -⟩
          · omega
          cases hv
          go_wp2_with fail
          refine (among_any B w0 _ W.heap.size W2.heap.size [(-1 : Int), 100001] a len cap 2 (1000 + 4 * k + 2) HC.out hl (by omega) (curAlloc G2.out.cur _) (by simp) (by simp) (by simp) (by have := G2.out.cur.2.1; omega) HCL.out).mono ?_
          rintro e W3 ⟨f, rfl, -, hc3, ho3⟩
          have G3 : Hid (FarG B w0 W1 W.heap.size a len cap (1000 + 4 * k + 4) (.slice (some ⟨g, 0, none⟩) zs.length c2) zs W3) := (G2.out.step (curAlloc G2.out.cur _) (onlyAlloc (Only.refl _ _) _) hcW).step (hc3.mono (by omega)) ho3 hcW
          have hcell4 := own_cellG G3.out.own rfl 0 (by omega)
          have hfz4 := own_frozenG G3.out.own rfl 0
          have HR : Hid (OwnEd (W3.setCell ⟨g, 0, none⟩ (.int .i64 f)) W.heap.size (.slice a1 l.length c1) l ∧ Own (W3.setCell ⟨g, 0, none⟩ (.int .i64 f)) W.heap.size (.slice (some ⟨g, 0, none⟩) zs.length c2) (zs.set 0 f) ∧ Since B w0 (W3.setCell ⟨g, 0, none⟩ (.int .i64 f))) :=
            ⟨rowSame (HF.out _ G3.out.only) fun k hk => Below.heap_setCell W3 ⟨g, 0, none⟩ _ k (by show k ≠ g; have := (World.ownsRow.lt O1.out k hk).2; omega), (G3.out.own.set 0 f).mono (by omega), (G3.out.cur.2.2.1.1.setCell (p := ⟨g, 0, none⟩) (by have := G3.out.cur.1; show B ≤ g; omega) _), by have := G3.out.cur.2.2.1.2; simpa [World.setCell] using this⟩
          clear hc3 ho3 G2 G3 HCL
          rw [hzl] at HR
          go_wp2
          refine bodyPost_ret (results_tmp3 rfl _ _ _) rfl ?_
          exact ⟨n, _, l, _, zs.set 0 f, rfl, HR.out.1, hl1, hn1, HR.out.2.1, by rw [List.length_set]; exact hzn, HR.out.2.2⟩
end Go.Proofs.Yteohmclohomblac
