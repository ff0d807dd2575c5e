/-
  What the cursor draws of bridges: 'bridges', 'someId', 'DrawMoved', 'DrawSetRank', 'DrawServersOf'.
-/
import Derived.Test.YthdcfeafkellcabCur0
import Derived.Test.YthdcfeafkellcabRowLaw0
import Derived.Test.YthdcfeafkellcabElectMath
import Derived.WideShapes
import Derived.Deep.CutRange
namespace Go.Proofs.Ythdcfeafkellcab
open Go.RowKit
set_option linter.unusedVariables false

theorem rowOnly {W W' : World} {B c : Nat} {e : TypeId} {size n : Nat} {v : Value} {xs : List Value} (h : W.ownsRow B e size v n xs) (ho : Only c W W') (hc : c < B) : W'.ownsRow B e size v n xs :=
  rowSame h fun k hk => ho.2 k (World.ownsRow.lt h k hk).2 (by have := (World.ownsRow.lt h k hk).1; omega)
theorem onlyAlloc {c : Nat} {w w' : World} (h : Only c w w') (o : Obj) : Only c w (w'.alloc o) := h.trans (below_only ((Below.refl _ w').alloc (Nat.le_refl _) o) c)
theorem curAlloc {B : Nat} {w0 W : World} {c : Nat} {a : Option Addr} {len cap m : Nat} (h : Cur B w0 W c a len cap m) (o : Obj) : Cur B w0 (W.alloc o) c a len cap m := h.below ((Below.refl _ W).alloc (Nat.le_refl _) o)
theorem onlyGrown {c : Nat} {w w' : World} {row : Option Nat} {B : Nat} (hg : w.grownBy w' row) (hr : ∀ k, row = some k → B ≤ k) : ∀ k, k < w.heap.size → k < B → w'.heap[k]? = w.heap[k]? := fun k hk hB => hg.block k hk (fun e => by have := hr k e.symm; omega)

/-- What 'bridges' leaves: a list of its own. -/
def BrsPost (B : Nat) (w0 W : World) (c : Nat) (a : Option Addr) (len cap m : Nat) (e : Ending) (W' : World) : Prop :=
  ∃ v l, e = .returned v ∧ OwnBr W' W.heap.size v l ∧ l.length ≤ 11 ∧ Cur B w0 W' c a len cap (m + 200) ∧ Only c W W'

theorem cells_lit (w : World) (t : TypeId) (zs : List Int) : ∀ j (hj : j < zs.length), (w.alloc (.cells (zs.map (Value.int .i64)).toArray t)).cell? ⟨w.heap.size, j, none⟩ = some (.int .i64 zs[j]) := by
  intro j hj
  rw [World.cell?_alloc_at _ _ _ _ rfl]
  simp [hj]

/-- What the loop of 'bridges' keeps. -/
structure Brg (B : Nat) (w0 W : World) (c : Nat) (a : Option Addr) (len cap m : Nat) (v : Value) (l : List BrD) (n : Nat) (wr : World) : Prop where
  own : OwnBr wr W.heap.size v l
  fit : l.length + n ≤ 11
  cur : Cur B w0 wr c a len cap (m + 6 + 6 * (11 - n))
  only : Only c W wr

/-- 'append(l, x)' of one bridge that lies in a block of its own. -/
theorem run_appBrD (w : World) (B : Nat) (v : Value) (hs : List BrD) (x : BrD) (hown : OwnBr w B v hs) (hl : hs.length ≤ 1048576) (hB : B ≤ w.heap.size) (ty : TypeId) :
    ∃ v' w', (Builtin.append_ #[23, 23] ty #[v, .slice (some ⟨w.heap.size, 0, none⟩) 1 1]).run Try.prog (w.alloc (.cells #[.int .i64 x.id, .int .i64 x.rank, .bool x.up] 35)) = .ok v' w' ∧ Grown (w.alloc (.cells #[.int .i64 x.id, .int .i64 x.rank, .bool x.up] 35)) B 35 3 v (hs ++ [x]).length (cellsBr (hs ++ [x])) v' w' := by
  refine run_appBr _ B v hs (hown.below ((Below.refl _ w).alloc (Nat.le_refl _) _)) _ [x] (.inr ⟨_, 1, rfl, fun j u hu => ?_⟩) (by simp; omega) (by simp; omega) ty
  have hc : cellsBr [x] = [.int .i64 x.id, .int .i64 x.rank, .bool x.up] := rfl
  rw [hc] at hu
  rw [Go.WideShapes.add_plain, Nat.zero_add, World.cell?_alloc_at _ _ _ _ rfl]
  simpa using hu
theorem brg_add {B : Nat} {w0 W w6 w7 : World} {c : Nat} {a : Option Addr} {len cap m k : Nat} {v v' : Value} {l : List BrD} {o : Obj} (hcW : c < W.heap.size) (hc : Cur B w0 w6 c a len cap (m + 6 + 6 * (11 - k) + 6)) (ho : Only c W w6) (hg : Grown (w6.alloc o) W.heap.size 35 3 v l.length (cellsBr l) v' w7) (hf : l.length + (k - 1) ≤ 11) (hk : 0 < k) (hk2 : k ≤ 11) : Brg B w0 W c a len cap m v' l (k - 1) w7 := by
  have hcb : Cur B w0 (w6.alloc o) c a len cap (m + 6 + 6 * (11 - k) + 6) := curAlloc hc o
  have hlow : ∀ j, j < W.heap.size → w7.heap[j]? = (w6.alloc o).heap[j]? := fun j hj => hg.below.block j hj
  refine ⟨hg.own, hf, ?_, ?_⟩
  · have h1 := hlow c hcW
    obtain ⟨k1, k2, k3, k4, ⟨n, hn, k5⟩, ⟨sd, k6⟩, k7, k8⟩ := hcb
    refine ⟨k1, Nat.lt_of_lt_of_le k2 hg.size, ⟨k3.1.trans (hg.below.mono (Nat.le_trans k1 (Nat.le_of_lt hcW))), Nat.le_trans k3.2 hg.size⟩, (World.cell?_of_block h1).trans k4, ⟨n, by omega, (World.cell?_of_block h1).trans k5⟩, ⟨sd, (World.cell?_of_block h1).trans k6⟩, (World.frozen?_of_block h1).trans k7, (World.frozen?_of_block h1).trans k8⟩
  · have h2 := onlyAlloc ho o
    exact ⟨Nat.le_trans h2.1 hg.size, fun j hj hne => (hlow j hj).trans (h2.2 j hj hne)⟩

set_option maxRecDepth 100000 in
set_option maxHeartbeats 4000000 in
theorem bridges_any (B : Nat) (w0 W : World) (c : Nat) (a : Option Addr) (len cap m : Nat) (hC : Code B w0 a len) (hl : len ≤ 9223372036854775807) (hm : m ≤ 100000) (h : Cur B w0 W c a len cap m) :
    Calls Try.prog 51 #[.pointer (some ⟨c, 0, none⟩)] W (BrsPost B w0 W c a len cap m) := by
  have HD : Hid (Code B w0 a len) := hC
  have hcW : c < W.heap.size := h.2.1
  have HH : Hid (Cur B w0 W c a len cap m) := h
  clear hC h
  go_enter Try.func51, Try.ntmps51
  go_wp2_with fail
  refine (pick_any B w0 _ c a len cap m 7 HD.out hl (by omega) HH.out (by omega) (by omega)).mono ?_
  rintro e W1 ⟨q, rfl, q0, q1, hc1, ho1⟩
  obtain ⟨n1, rfl⟩ : ∃ n : Nat, q = n := ⟨q.toNat, by omega⟩
  have HC1 : Hid (Cur B w0 W1 c a len cap (m + 2) ∧ Only c W W1) := ⟨hc1, ho1⟩
  clear hc1 ho1
  go_wp2_with fail
  refine (one_any B w0 _ c a len cap (m + 2) 20 HD.out hl (by omega) HC1.out.1 (by omega) (by omega)).mono ?_
  rintro e W2 ⟨b2, rfl, hc2, ho2⟩
  have HC2 : Hid (Cur B w0 W2 c a len cap (m + 4) ∧ Only c W W2) := ⟨hc2, HC1.out.2.trans ho2⟩
  clear hc2 ho2 HC1
  cases b2 with
  | false =>
      have HB0 : Hid (Brg B w0 W c a len cap m (.slice none 0 0) [] (n1 + 1) W2) := ⟨OwnBr.nil _ _, by simp; omega, HC2.out.1.mono (by omega), HC2.out.2⟩
      clear HC2
      go_wp2
      go_loopw [3, 4, 5] (fun v id i wr => ∃ (l : List BrD) (k : Nat) (d : Int), i = .int .i64 (k : Int) ∧ id = .int .i64 d ∧ 0 ≤ d ∧ d ≤ 100000 - 5000 * (k : Int) ∧ Hid (Brg B w0 W c a len cap m v l k wr)) (fun _ _ i _ => (intOf i).toNat)
      case atStart => exact ⟨[], n1 + 1, 0, by rw [show ((n1 + 1 : Nat) : Int) = 1 + (n1 : Int) by omega], rfl, by omega, by omega, HB0.out⟩
      case round =>
        clear HB0
        obtain ⟨l, k, d, rfl, rfl, hd0, hd1, HG⟩ := hrel
        obtain ⟨a3, c3, rfl⟩ := HG.out.own.shape
        have hkl : l.length + k ≤ 11 := HG.out.fit
        by_cases hk : 0 < k
        · have hk' : 0 < (k : Int) := by omega
          have HCU : Hid (Cur B w0 wr c a len cap (m + 6 + 6 * (11 - k))) := HG.out.cur
          go_wp2_with fail
          refine (pick_any B w0 _ c a len cap (m + 6 + 6 * (11 - k)) 20 HD.out hl (by omega) HCU.out (by omega) (by omega)).mono ?_
          rintro e W4 ⟨r4, rfl, r40, r41, hc4, ho4⟩
          have HC4 : Hid (Cur B w0 W4 c a len cap (m + 6 + 6 * (11 - k) + 2) ∧ Only c wr W4) := ⟨hc4, ho4⟩
          clear hc4 ho4
          have hd20 : 0 ≤ d + (1 + r4) := by omega
          have hd21 : d + (1 + r4) ≤ 100000 - 5000 * ((k : Int) - 1) := by omega
          go_wp2_with fail
          refine (pick_any B w0 _ c a len cap (m + 6 + 6 * (11 - k) + 2) 4 HD.out hl (by omega) HC4.out.1 (by omega) (by omega)).mono ?_
          rintro e W5 ⟨r5, rfl, r50, r51, hc5, ho5⟩
          have HC5 : Hid (Cur B w0 W5 c a len cap (m + 6 + 6 * (11 - k) + 4) ∧ Only c wr W5) := ⟨hc5, HC4.out.2.trans ho5⟩
          clear hc5 ho5 HC4
          go_wp2_with fail
          refine (one_any B w0 _ c a len cap (m + 6 + 6 * (11 - k) + 4) 4 HD.out hl (by omega) HC5.out.1 (by omega) (by omega)).mono ?_
          rintro e W6 ⟨b6, rfl, hc6, ho6⟩
          have HC6 : Hid (Cur B w0 W6 c a len cap (m + 6 + 6 * (11 - k) + 6) ∧ Only c wr W6) := ⟨hc6, HC5.out.2.trans ho6⟩
          clear hc6 ho6 HC5
          have HO6 : Hid (OwnBr W6 W.heap.size (.slice a3 l.length c3) l) := rowOnly HG.out.own HC6.out.2 hcW
          have HON : Hid (Only c W W6) := HG.out.only.trans HC6.out.2
          have HC : Hid (∀ ty, ∃ v' w', (Builtin.append_ #[23, 23] ty #[.slice a3 l.length c3, .slice (some ⟨W6.heap.size, 0, none⟩) 1 1]).run Try.prog (W6.alloc (.cells #[.int .i64 (d + (1 + r4)), .int .i64 r5, .bool (!b6)] 35)) = .ok v' w' ∧ Grown (W6.alloc (.cells #[.int .i64 (d + (1 + r4)), .int .i64 r5, .bool (!b6)] 35)) W.heap.size 35 3 (.slice a3 l.length c3) (l ++ [(⟨d + (1 + r4), r5, !b6⟩ : BrD)]).length (cellsBr (l ++ [(⟨d + (1 + r4), r5, !b6⟩ : BrD)])) v' w') := fun ty => run_appBrD W6 _ _ l (⟨d + (1 + r4), r5, !b6⟩ : BrD) HO6.out (by omega) HON.out.1 ty
          clear HG HCU
          go_wp2_with (at_builtin; refine list_app (by rfl) (.tmp 23) (.tmp 31) 23 (by rfl) (.slice a3 l.length c3) (.slice (some ⟨W6.heap.size, 0, none⟩) 1 1) (by rfl) (by rfl) _ HC.out ?_; intro v7 w7 hg7; have HF : Hid (Brg B w0 W c a len cap m v7 (l ++ [(⟨d + (1 + r4), r5, !b6⟩ : BrD)]) (k - 1) w7) := brg_add hcW HC6.out.1 HON.out hg7 (by simp; omega) hk (by omega); clear hg7)
          go_roundw
          case rel => exact ⟨_, k - 1, d + (1 + r4), by go_num, rfl, hd20, by omega, HF.out⟩
          case measure => simp [intOf]; omega
        · have hk' : ¬ 0 < (k : Int) := by omega
          obtain rfl : k = 0 := by omega
          have HO : Hid (OwnBr wr W.heap.size (.slice a3 l.length c3) l) := HG.out.own
          have HCU : Hid (Cur B w0 wr c a len cap (m + 72)) := HG.out.cur.mono (by omega)
          have HON : Hid (Only c W wr) := HG.out.only
          clear HG
          by_cases hl0 : 0 < l.length
          · have hl0' : decide (0 < (l.length : Int)) = true := decide_eq_true (by omega)
            go_wp2_with fail
            refine (one_any B w0 _ c a len cap (m + 72) 20 HD.out hl (by omega) HCU.out (by omega) (by omega)).mono ?_
            rintro e W4 ⟨b4, rfl, hc4, ho4⟩
            have HC4 : Hid (Cur B w0 W4 c a len cap (m + 74) ∧ Only c W W4) := ⟨hc4, HON.out.trans ho4⟩
            have HO4 : Hid (OwnBr W4 W.heap.size (.slice a3 l.length c3) l) := rowOnly HO.out ho4 hcW
            clear hc4 ho4 HO HON HCU
            cases b4 with
            | false =>
              go_wp2
              go_ret
              exact ⟨_, l, rfl, HO4.out, by omega, HC4.out.1.mono (by omega), HC4.out.2⟩
            | true =>
              have hcW4 : c < W4.heap.size := HC4.out.1.2.1
              have HCL : Hid (∀ j (hj : j < [(0 : Int), 1, 1000, 1001].length), (W4.alloc (.cells #[.int .i64 0, .int .i64 1, .int .i64 1000, .int .i64 1001] 3)).cell? ⟨W4.heap.size, j, none⟩ = some (.int .i64 [(0 : Int), 1, 1000, 1001][j])) := cells_lit W4 3 [0, 1, 1000, 1001]
              go_wp2_with fail
              refine (among_any B w0 _ c W4.heap.size [0, 1, 1000, 1001] a len cap 4 (m + 74) HD.out hl (by omega) (curAlloc HC4.out.1 _) (by simp) (by simp) (by simp) (by omega) HCL.out).mono ?_
              rintro e W5 ⟨r5, rfl, -, hc5, ho5⟩
              have hO5 : Only c W4 W5 := (onlyAlloc (Only.refl _ _) _).trans ho5
              have HC5 : Hid (Cur B w0 W5 c a len cap (m + 76) ∧ Only c W W5) := ⟨hc5, HC4.out.2.trans hO5⟩
              have HO5 : Hid (OwnBr W5 W.heap.size (.slice a3 l.length c3) l) := rowOnly HO4.out hO5 hcW
              have hcW5 : c < W5.heap.size := hc5.2.1
              have HCL5 : Hid (∀ j (hj : j < [(-1 : Int), 0, 127, 128].length), (W5.alloc (.cells #[.int .i64 (-1), .int .i64 0, .int .i64 127, .int .i64 128] 3)).cell? ⟨W5.heap.size, j, none⟩ = some (.int .i64 [(-1 : Int), 0, 127, 128][j])) := cells_lit W5 3 [-1, 0, 127, 128]
              clear hc5 ho5 hO5 HC4 HO4
              go_wp2_with fail
              refine (among_any B w0 _ c W5.heap.size [-1, 0, 127, 128] a len cap 4 (m + 76) HD.out hl (by omega) (curAlloc HC5.out.1 _) (by simp) (by simp) (by simp) (by omega) HCL5.out).mono ?_
              rintro e W6 ⟨r6, rfl, -, hc6, ho6⟩
              have hO6 : Only c W5 W6 := (onlyAlloc (Only.refl _ _) _).trans ho6
              have ho6' : OwnBr W6 W.heap.size (.slice a3 l.length c3) l := rowOnly HO5.out hO6 hcW
              obtain ⟨g6, cg, e6⟩ : ∃ g cap, Value.slice a3 l.length c3 = .slice (some ⟨g, 0, none⟩) l.length cap := by
                rcases ho6'.2 with ⟨hv, hn0⟩ | ⟨g, cap, cur, hv, -⟩
                · omega
                · exact ⟨g, cap, hv⟩
              obtain ⟨rfl, rfl⟩ : a3 = some ⟨g6, 0, none⟩ ∧ c3 = cg := by simpa using e6
              have hg6 : W.heap.size ≤ g6 := (World.ownsRow.lt ho6' g6 rfl).1
              have z0 : ∀ j, j < l.length * 3 → ∃ x, W6.cell? ⟨g6, j, none⟩ = some x := fun j hj => ⟨_, by rw [World.ownsRow.cellAt ho6' j (by omega)]; exact List.getElem?_eq_getElem (by rw [cellsBr_len]; omega)⟩
              obtain ⟨t0, f0⟩ := z0 0 (by omega)
              obtain ⟨t1, f1⟩ := z0 1 (by omega)
              obtain ⟨t2, f2⟩ := z0 2 (by omega)
              have fz0 := World.ownsRow.frozenAt ho6' 0
              have fz1 := World.ownsRow.frozenAt ho6' 1
              have fz2 := World.ownsRow.frozenAt ho6' 2
              have HFI : Hid (OwnBr (((W6.setCell ⟨g6, 0, none⟩ (.int .i64 r5)).setCell ⟨g6, 1, none⟩ (.int .i64 r6)).setCell ⟨g6, 2, none⟩ (.bool true)) W.heap.size (.slice (some ⟨g6, 0, none⟩) l.length c3) (l.set 0 ⟨r5, r6, true⟩)) := by
                have := ho6'.set 0 hl0 ⟨r5, r6, true⟩
                exact (show OwnBr _ _ _ _ by simpa using this)
              have HCI : Hid (Cur B w0 (((W6.setCell ⟨g6, 0, none⟩ (.int .i64 r5)).setCell ⟨g6, 1, none⟩ (.int .i64 r6)).setCell ⟨g6, 2, none⟩ (.bool true)) c a len cap (m + 78)) := ((hc6.other (by omega) _).other (by omega) _).other (by omega) _
              have HNI : Hid (Only c W (((W6.setCell ⟨g6, 0, none⟩ (.int .i64 r5)).setCell ⟨g6, 1, none⟩ (.int .i64 r6)).setCell ⟨g6, 2, none⟩ (.bool true))) := by
                have h1 := HC5.out.2.trans hO6
                refine ⟨by have := h1.1; simpa [World.setCell] using this, fun k hk hne => ?_⟩
                rw [Below.heap_setCell _ _ _ _ (by show k ≠ g6; omega), Below.heap_setCell _ _ _ _ (by show k ≠ g6; omega), Below.heap_setCell _ _ _ _ (by show k ≠ g6; omega)]
                exact h1.2 k hk hne
              clear hc6 ho6 hO6 ho6' z0 HC5 HO5 e6
              go_wp2
              go_ret
              exact ⟨_, l.set 0 ⟨r5, r6, true⟩, rfl, HFI.out, by rw [List.length_set]; omega, HCI.out.mono (by omega), HNI.out⟩
          · have hl0' : decide (0 < (l.length : Int)) = false := decide_eq_false (by omega)
            go_wp2
            go_ret
            exact ⟨_, l, rfl, HO.out, by omega, HCU.out.mono (by omega), HON.out⟩
  | true =>
      have HCL : Hid (∀ j (hj : j < [(0 : Int), 10, 11].length), (W2.alloc (.cells #[.int .i64 0, .int .i64 10, .int .i64 11] 3)).cell? ⟨W2.heap.size, j, none⟩ = some (.int .i64 [(0 : Int), 10, 11][j])) := cells_lit W2 3 [0, 10, 11]
      have hcW2 : c < W2.heap.size := HC2.out.1.2.1
      go_wp2_with fail
      refine (among_any B w0 _ c W2.heap.size [0, 10, 11] a len cap 3 (m + 4) HD.out hl (by omega) (curAlloc HC2.out.1 _) (by simp) (by simp) (by simp) (by omega) HCL.out).mono ?_
      rintro e W3 ⟨r, rfl, hr, hc3, ho3⟩
      obtain ⟨n3, hn3, rfl⟩ : ∃ n : Nat, n ≤ 11 ∧ r = (n : Int) := ⟨r.toNat, by simp at hr; omega, by simp at hr; omega⟩
      have HB0 : Hid (Brg B w0 W c a len cap m (.slice none 0 0) [] n3 W3) := ⟨OwnBr.nil _ _, by simp; omega, hc3.mono (by omega), (onlyAlloc HC2.out.2 _).trans ho3⟩
      clear hc3 ho3 hr HCL HC2
      go_wp2
      go_loopw [3, 4, 5] (fun v id i wr => ∃ (l : List BrD) (k : Nat) (d : Int), i = .int .i64 (k : Int) ∧ id = .int .i64 d ∧ 0 ≤ d ∧ d ≤ 100000 - 5000 * (k : Int) ∧ Hid (Brg B w0 W c a len cap m v l k wr)) (fun _ _ i _ => (intOf i).toNat)
      case atStart => exact ⟨[], n3, 0, rfl, rfl, by omega, by omega, HB0.out⟩
      case round =>
        clear HB0
        obtain ⟨l, k, d, rfl, rfl, hd0, hd1, HG⟩ := hrel
        obtain ⟨a3, c3, rfl⟩ := HG.out.own.shape
        have hkl : l.length + k ≤ 11 := HG.out.fit
        by_cases hk : 0 < k
        · have hk' : 0 < (k : Int) := by omega
          have HCU : Hid (Cur B w0 wr c a len cap (m + 6 + 6 * (11 - k))) := HG.out.cur
          go_wp2_with fail
          refine (pick_any B w0 _ c a len cap (m + 6 + 6 * (11 - k)) 20 HD.out hl (by omega) HCU.out (by omega) (by omega)).mono ?_
          rintro e W4 ⟨r4, rfl, r40, r41, hc4, ho4⟩
          have HC4 : Hid (Cur B w0 W4 c a len cap (m + 6 + 6 * (11 - k) + 2) ∧ Only c wr W4) := ⟨hc4, ho4⟩
          clear hc4 ho4
          have hd20 : 0 ≤ d + (1 + r4) := by omega
          have hd21 : d + (1 + r4) ≤ 100000 - 5000 * ((k : Int) - 1) := by omega
          go_wp2_with fail
          refine (pick_any B w0 _ c a len cap (m + 6 + 6 * (11 - k) + 2) 4 HD.out hl (by omega) HC4.out.1 (by omega) (by omega)).mono ?_
          rintro e W5 ⟨r5, rfl, r50, r51, hc5, ho5⟩
          have HC5 : Hid (Cur B w0 W5 c a len cap (m + 6 + 6 * (11 - k) + 4) ∧ Only c wr W5) := ⟨hc5, HC4.out.2.trans ho5⟩
          clear hc5 ho5 HC4
          go_wp2_with fail
          refine (one_any B w0 _ c a len cap (m + 6 + 6 * (11 - k) + 4) 4 HD.out hl (by omega) HC5.out.1 (by omega) (by omega)).mono ?_
          rintro e W6 ⟨b6, rfl, hc6, ho6⟩
          have HC6 : Hid (Cur B w0 W6 c a len cap (m + 6 + 6 * (11 - k) + 6) ∧ Only c wr W6) := ⟨hc6, HC5.out.2.trans ho6⟩
          clear hc6 ho6 HC5
          have HO6 : Hid (OwnBr W6 W.heap.size (.slice a3 l.length c3) l) := rowOnly HG.out.own HC6.out.2 hcW
          have HON : Hid (Only c W W6) := HG.out.only.trans HC6.out.2
          have HC : Hid (∀ ty, ∃ v' w', (Builtin.append_ #[23, 23] ty #[.slice a3 l.length c3, .slice (some ⟨W6.heap.size, 0, none⟩) 1 1]).run Try.prog (W6.alloc (.cells #[.int .i64 (d + (1 + r4)), .int .i64 r5, .bool (!b6)] 35)) = .ok v' w' ∧ Grown (W6.alloc (.cells #[.int .i64 (d + (1 + r4)), .int .i64 r5, .bool (!b6)] 35)) W.heap.size 35 3 (.slice a3 l.length c3) (l ++ [(⟨d + (1 + r4), r5, !b6⟩ : BrD)]).length (cellsBr (l ++ [(⟨d + (1 + r4), r5, !b6⟩ : BrD)])) v' w') := fun ty => run_appBrD W6 _ _ l (⟨d + (1 + r4), r5, !b6⟩ : BrD) HO6.out (by omega) HON.out.1 ty
          clear HG HCU
          go_wp2_with (at_builtin; refine list_app (by rfl) (.tmp 23) (.tmp 31) 23 (by rfl) (.slice a3 l.length c3) (.slice (some ⟨W6.heap.size, 0, none⟩) 1 1) (by rfl) (by rfl) _ HC.out ?_; intro v7 w7 hg7; have HF : Hid (Brg B w0 W c a len cap m v7 (l ++ [(⟨d + (1 + r4), r5, !b6⟩ : BrD)]) (k - 1) w7) := brg_add hcW HC6.out.1 HON.out hg7 (by simp; omega) hk (by omega); clear hg7)
          go_roundw
          case rel => exact ⟨_, k - 1, d + (1 + r4), by go_num, rfl, hd20, by omega, HF.out⟩
          case measure => simp [intOf]; omega
        · have hk' : ¬ 0 < (k : Int) := by omega
          obtain rfl : k = 0 := by omega
          have HO : Hid (OwnBr wr W.heap.size (.slice a3 l.length c3) l) := HG.out.own
          have HCU : Hid (Cur B w0 wr c a len cap (m + 72)) := HG.out.cur.mono (by omega)
          have HON : Hid (Only c W wr) := HG.out.only
          clear HG
          by_cases hl0 : 0 < l.length
          · have hl0' : decide (0 < (l.length : Int)) = true := decide_eq_true (by omega)
            go_wp2_with fail
            refine (one_any B w0 _ c a len cap (m + 72) 20 HD.out hl (by omega) HCU.out (by omega) (by omega)).mono ?_
            rintro e W4 ⟨b4, rfl, hc4, ho4⟩
            have HC4 : Hid (Cur B w0 W4 c a len cap (m + 74) ∧ Only c W W4) := ⟨hc4, HON.out.trans ho4⟩
            have HO4 : Hid (OwnBr W4 W.heap.size (.slice a3 l.length c3) l) := rowOnly HO.out ho4 hcW
            clear hc4 ho4 HO HON HCU
            cases b4 with
            | false =>
              go_wp2
              go_ret
              exact ⟨_, l, rfl, HO4.out, by omega, HC4.out.1.mono (by omega), HC4.out.2⟩
            | true =>
              have hcW4 : c < W4.heap.size := HC4.out.1.2.1
              have HCL : Hid (∀ j (hj : j < [(0 : Int), 1, 1000, 1001].length), (W4.alloc (.cells #[.int .i64 0, .int .i64 1, .int .i64 1000, .int .i64 1001] 3)).cell? ⟨W4.heap.size, j, none⟩ = some (.int .i64 [(0 : Int), 1, 1000, 1001][j])) := cells_lit W4 3 [0, 1, 1000, 1001]
              go_wp2_with fail
              refine (among_any B w0 _ c W4.heap.size [0, 1, 1000, 1001] a len cap 4 (m + 74) HD.out hl (by omega) (curAlloc HC4.out.1 _) (by simp) (by simp) (by simp) (by omega) HCL.out).mono ?_
              rintro e W5 ⟨r5, rfl, -, hc5, ho5⟩
              have hO5 : Only c W4 W5 := (onlyAlloc (Only.refl _ _) _).trans ho5
              have HC5 : Hid (Cur B w0 W5 c a len cap (m + 76) ∧ Only c W W5) := ⟨hc5, HC4.out.2.trans hO5⟩
              have HO5 : Hid (OwnBr W5 W.heap.size (.slice a3 l.length c3) l) := rowOnly HO4.out hO5 hcW
              have hcW5 : c < W5.heap.size := hc5.2.1
              have HCL5 : Hid (∀ j (hj : j < [(-1 : Int), 0, 127, 128].length), (W5.alloc (.cells #[.int .i64 (-1), .int .i64 0, .int .i64 127, .int .i64 128] 3)).cell? ⟨W5.heap.size, j, none⟩ = some (.int .i64 [(-1 : Int), 0, 127, 128][j])) := cells_lit W5 3 [-1, 0, 127, 128]
              clear hc5 ho5 hO5 HC4 HO4
              go_wp2_with fail
              refine (among_any B w0 _ c W5.heap.size [-1, 0, 127, 128] a len cap 4 (m + 76) HD.out hl (by omega) (curAlloc HC5.out.1 _) (by simp) (by simp) (by simp) (by omega) HCL5.out).mono ?_
              rintro e W6 ⟨r6, rfl, -, hc6, ho6⟩
              have hO6 : Only c W5 W6 := (onlyAlloc (Only.refl _ _) _).trans ho6
              have ho6' : OwnBr W6 W.heap.size (.slice a3 l.length c3) l := rowOnly HO5.out hO6 hcW
              obtain ⟨g6, cg, e6⟩ : ∃ g cap, Value.slice a3 l.length c3 = .slice (some ⟨g, 0, none⟩) l.length cap := by
                rcases ho6'.2 with ⟨hv, hn0⟩ | ⟨g, cap, cur, hv, -⟩
                · omega
                · exact ⟨g, cap, hv⟩
              obtain ⟨rfl, rfl⟩ : a3 = some ⟨g6, 0, none⟩ ∧ c3 = cg := by simpa using e6
              have hg6 : W.heap.size ≤ g6 := (World.ownsRow.lt ho6' g6 rfl).1
              have z0 : ∀ j, j < l.length * 3 → ∃ x, W6.cell? ⟨g6, j, none⟩ = some x := fun j hj => ⟨_, by rw [World.ownsRow.cellAt ho6' j (by omega)]; exact List.getElem?_eq_getElem (by rw [cellsBr_len]; omega)⟩
              obtain ⟨t0, f0⟩ := z0 0 (by omega)
              obtain ⟨t1, f1⟩ := z0 1 (by omega)
              obtain ⟨t2, f2⟩ := z0 2 (by omega)
              have fz0 := World.ownsRow.frozenAt ho6' 0
              have fz1 := World.ownsRow.frozenAt ho6' 1
              have fz2 := World.ownsRow.frozenAt ho6' 2
              have HFI : Hid (OwnBr (((W6.setCell ⟨g6, 0, none⟩ (.int .i64 r5)).setCell ⟨g6, 1, none⟩ (.int .i64 r6)).setCell ⟨g6, 2, none⟩ (.bool true)) W.heap.size (.slice (some ⟨g6, 0, none⟩) l.length c3) (l.set 0 ⟨r5, r6, true⟩)) := by
                have := ho6'.set 0 hl0 ⟨r5, r6, true⟩
                exact (show OwnBr _ _ _ _ by simpa using this)
              have HCI : Hid (Cur B w0 (((W6.setCell ⟨g6, 0, none⟩ (.int .i64 r5)).setCell ⟨g6, 1, none⟩ (.int .i64 r6)).setCell ⟨g6, 2, none⟩ (.bool true)) c a len cap (m + 78)) := ((hc6.other (by omega) _).other (by omega) _).other (by omega) _
              have HNI : Hid (Only c W (((W6.setCell ⟨g6, 0, none⟩ (.int .i64 r5)).setCell ⟨g6, 1, none⟩ (.int .i64 r6)).setCell ⟨g6, 2, none⟩ (.bool true))) := by
                have h1 := HC5.out.2.trans hO6
                refine ⟨by have := h1.1; simpa [World.setCell] using this, fun k hk hne => ?_⟩
                rw [Below.heap_setCell _ _ _ _ (by show k ≠ g6; omega), Below.heap_setCell _ _ _ _ (by show k ≠ g6; omega), Below.heap_setCell _ _ _ _ (by show k ≠ g6; omega)]
                exact h1.2 k hk hne
              clear hc6 ho6 hO6 ho6' z0 HC5 HO5 e6
              go_wp2
              go_ret
              exact ⟨_, l.set 0 ⟨r5, r6, true⟩, rfl, HFI.out, by rw [List.length_set]; omega, HCI.out.mono (by omega), HNI.out⟩
          · have hl0' : decide (0 < (l.length : Int)) = false := decide_eq_false (by omega)
            go_wp2
            go_ret
            exact ⟨_, l, rfl, HO.out, by omega, HCU.out.mono (by omega), HON.out⟩
end Go.Proofs.Ythdcfeafkellcab
