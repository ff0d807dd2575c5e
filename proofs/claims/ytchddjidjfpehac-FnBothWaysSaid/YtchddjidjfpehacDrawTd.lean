/-
  What is drawn of tellings.
-/
import Derived.Test.YtchddjidjfpehacDrawEd2
import Derived.Test.YtchddjidjfpehacGrBwS
namespace Go.Proofs.Ytchddjidjfpehac
open Go.RowKit
set_option linter.unusedVariables false

/-- What the loops keep. -/
structure Tdg (B : Nat) (w0 W : World) (c : Nat) (a : Option Addr) (len cap m q : Nat) (v : Value) (l : List TdD) (wr : World) : Prop where
  own : OwnTd wr W.heap.size v l
  fit : l.length ≤ q
  cur : Cur B w0 wr c a len cap m
  only : Only c W wr
theorem Tdg.more {B : Nat} {w0 W : World} {c : Nat} {a : Option Addr} {len cap m m' q q' : Nat} {v : Value} {l : List TdD} {wr : World} (h : Tdg B w0 W c a len cap m q v l wr) (hm : m ≤ m') (hq : q ≤ q') : Tdg B w0 W c a len cap m' q' v l wr := ⟨h.own, Nat.le_trans h.fit hq, h.cur.mono hm, h.only⟩
theorem Tdg.step {B : Nat} {w0 W : World} {c : Nat} {a : Option Addr} {len cap m m' q : Nat} {v : Value} {l : List TdD} {wr w1 : World} (h : Tdg B w0 W c a len cap m q v l wr) (hc : Cur B w0 w1 c a len cap m') (ho : Only c wr w1) (hcW : c < W.heap.size) : Tdg B w0 W c a len cap m' q v l w1 := ⟨rowOnly h.own ho hcW, h.fit, hc, h.only.trans ho⟩
theorem Tdg.put {B : Nat} {w0 W : World} {c : Nat} {a : Option Addr} {len cap m q q' : Nat} {v : Value} {l l' : List TdD} {wr w1 : World} {o : Obj} {v' : Value} (h : Tdg B w0 W c a len cap m q v l wr) (hg : Grown (wr.alloc o) W.heap.size 71 3 v l'.length (cellsTd l') v' w1) (hcW : c < W.heap.size) (hl : l'.length ≤ q') : Tdg B w0 W c a len cap m q' v' l' w1 :=
  ⟨hg.own, hl, curGrown (B := B) (h.cur.below ((Below.refl _ wr).alloc (Nat.le_refl _) o)) ⟨rowMono hg.own hcW, hg.below.mono hcW, hg.size, hg.grown, hg.lies⟩,
   Nat.le_trans h.only.1 (Nat.le_trans (by simp) hg.size), fun k hk hne => (hg.grown.block k (by have := h.only.1; simp; omega) (fun e => by
     have := (World.ownsRow.lt h.own k e.symm).1
     omega)).trans ((((Below.refl wr.heap.size wr).alloc (Nat.le_refl _) o).block k (by have := h.only.1; omega)).trans (h.only.2 k hk hne))⟩
theorem srcTd_at {w : World} {g o : Nat} {l : List TdD} (h : ∀ j (hj : j < l.length), TdAt w g (o + j * 3) l[j]) (n c : Nat) (hn : n = l.length) : Src w (.slice (some ⟨g, o, none⟩) n c) n (cellsTd l) := by
  subst hn
  refine .inr ⟨_, _, rfl, fun j u hu => ?_⟩
  rw [Go.WideShapes.add_plain]
  have hj : j < l.length * 3 := by rw [← cellsTd_len]; exact (List.getElem?_eq_some_iff.1 hu).1
  obtain ⟨q, hq | hq | hq⟩ : ∃ q, j = q * 3 ∨ j = q * 3 + 1 ∨ j = q * 3 + 2 := ⟨j / 3, by omega⟩
  · have c0 := cellsTd_get l q (by omega)
    have h0 := h q (by omega)
    subst hq
    rw [c0.1] at hu
    cases hu
    exact h0.1
  · have c0 := cellsTd_get l q (by omega)
    have h0 := h q (by omega)
    subst hq
    rw [c0.2.1] at hu
    cases hu
    have := h0.2.1
    rwa [Nat.add_assoc] at this
  · have c0 := cellsTd_get l q (by omega)
    have h0 := h q (by omega)
    subst hq
    rw [c0.2.2] at hu
    cases hu
    have := h0.2.2
    rwa [Nat.add_assoc] at this
theorem srcTd_new (w : World) (x : TdD) (c : Nat) : Src (w.alloc (.cells #[.int .i64 x.By, .int .i64 x.Near, .int .i64 x.Cost] 71)) (.slice (some ⟨w.heap.size, 0, none⟩) 1 c) 1 (cellsTd [x]) :=
  srcTd_at (l := [x]) (fun j hj => by
    obtain rfl : j = 0 := by simp at hj; omega
    exact newTd w x _ (Since.start _)) 1 c rfl

def DrawnT (B : Nat) (w0 W : World) (e : Ending) (W' : World) : Prop := ∃ (n : Nat) (v : Value) (l : List TdD), e = .returned (.tuple #[.int .i64 (n : Int), v]) ∧ OwnTd W' W.heap.size v l ∧ l.length ≤ 40 ∧ n ≤ 6 ∧ Since B w0 W'

set_option maxRecDepth 100000 in
set_option maxHeartbeats 8000000 in
theorem drawBoth_any (B : Nat) (w0 W0 : World) (a : Option Addr) (len cap : Nat) (hC : Code B w0 a len) (hl : len ≤ 9223372036854775807) (h : Since B w0 W0) :
    Calls Try.prog 38 #[.slice a len cap] W0 (DrawnT B w0 W0) := by
  have HD : Hid (Code B w0 a len) := hC
  have HU : Hid (Cur B w0 (W0.alloc (.cells #[.slice a len cap, .int .i64 0, .int .u64 0] 79)) W0.heap.size a len cap 0) := cur_new a len cap 79 h
  clear hC h
  go_enter Try.func38, Try.ntmps38
  go_wp2_with fail
  obtain ⟨W, hW⟩ : ∃ W, W = (W0.alloc (.cells #[.slice a len cap, .int .i64 0, .int .u64 0] 79)) := ⟨_, rfl⟩
  have hcW : W0.heap.size < W.heap.size := by rw [hW]; simp
  have HFIN : Hid (∀ W' v l, OwnTd W' W.heap.size v l → OwnTd W' W0.heap.size v l) := fun W' v l ho => ho.mono (by rw [hW]; simp)
  rw [← hW] at HU
  rw [← hW]
  clear hW
  have HX : Hid (Only W0.heap.size W W) := Only.refl _ _
  refine (pick_any B w0 _ W0.heap.size a len cap 0 6 HD.out hl (by omega) HU.out (by omega) (by omega)).mono ?_
  rintro e W1 ⟨q, rfl, q0, q1, hc1, ho1⟩
  obtain ⟨n1, rfl⟩ : ∃ n : Nat, q = n := ⟨q.toNat, by omega⟩
  obtain ⟨n, hn⟩ : ∃ n : Nat, n = 1 + n1 := ⟨_, rfl⟩
  have hnn : 1 + (n1 : Int) = (n : Int) := by omega
  have hn6 : n ≤ 6 := by omega
  have HB0 : Hid (Tdg B w0 W W0.heap.size a len cap 2 0 (.slice none 0 0) [] W1) := ⟨OwnTd.nil _ _, by simp, hc1, ho1⟩
  clear hc1 ho1 HU HX hn
  go_wp2
  go_loopw [6, 7] (fun v i wr => ∃ (l : List TdD) (k : Nat), k ≤ n ∧ i = .int .i64 (k : Int) ∧ Hid (Tdg B w0 W W0.heap.size a len cap (2 + 40 * k) (6 * k) v l wr)) (fun _ i _ => n - (intOf i).toNat)
  case atStart => exact ⟨[], 0, Nat.zero_le _, rfl, HB0.out⟩
  case round =>
    clear HB0
    obtain ⟨l0, k, hk, rfl, HG⟩ := hrel
    by_cases hlt : k < n
    · have hlt' : (k : Int) < (n : Int) := by omega
      go_wp2
      go_loopw [6, 8] (fun v i wr => ∃ (l : List TdD) (b : Nat), b ≤ n ∧ i = .int .i64 (b : Int) ∧ Hid (Tdg B w0 W W0.heap.size a len cap (2 + 40 * k + 4 * b) (6 * k + b) v l wr)) (fun _ i _ => n - (intOf i).toNat)
      case atStart => exact ⟨l0, 0, Nat.zero_le _, rfl, HG.out⟩
      case round =>
        clear HG
        obtain ⟨l, b, hb, rfl, HG⟩ := hrel
        obtain ⟨a3, c3, rfl⟩ := HG.out.own.shape
        by_cases hltb : b < n
        · have hltb' : (b : Int) < (n : Int) := by omega
          have HLL : Hid (l.length ≤ 6 * k + b) := HG.out.fit
          by_cases hkb : k = b
          · have d1 : ((k : Int) == (b : Int)) = true := beq_iff_eq.2 (by omega)
            go_wp2
            go_roundw
            case rel => exact ⟨l, b + 1, by omega, by go_num, HG.out.more (by omega) (by omega)⟩
            case measure => simp [intOf]; omega
          · have d1 : ((k : Int) == (b : Int)) = false := beq_eq_false_iff_ne.2 (by omega)
            go_wp2_with fail
            refine (one_any B w0 _ W0.heap.size a len cap (2 + 40 * k + 4 * b) 3 HD.out hl (by omega) HG.out.cur (by omega) (by omega)).mono ?_
            rintro e W4 ⟨b4, rfl, hc4, ho4⟩
            have HG4 : Hid (Tdg B w0 W W0.heap.size a len cap (2 + 40 * k + 4 * b + 2) (6 * k + b) (.slice a3 l.length c3) l W4) := HG.out.step hc4 ho4 hcW
            clear hc4 ho4 HG
            cases b4 with
            | true =>
              go_wp2
              go_roundw
              case rel => exact ⟨l, b + 1, by omega, by go_num, HG4.out.more (by omega) (by omega)⟩
              case measure => simp [intOf]; omega
            | false =>
              go_wp2_with fail
              refine (pick_any B w0 _ W0.heap.size a len cap (2 + 40 * k + 4 * b + 2) 9 HD.out hl (by omega) HG4.out.cur (by omega) (by omega)).mono ?_
              rintro e W5 ⟨r5, rfl, r50, r51, hc5, ho5⟩
              have HG5 : Hid (Tdg B w0 W W0.heap.size a len cap (2 + 40 * k + 4 * b + 4) (6 * k + b) (.slice a3 l.length c3) l W5) := HG4.out.step hc5 ho5 hcW
              clear hc5 ho5 HG4
              have HA : Hid (∀ ty, ∃ v' w', (Builtin.append_ #[64, 64] ty #[.slice a3 l.length c3, .slice (some ⟨W5.heap.size, 0, none⟩) 1 1]).run Try.prog (W5.alloc (.cells #[.int .i64 (k : Int), .int .i64 (b : Int), .int .i64 (1 + r5)] 71)) = .ok v' w' ∧ Grown (W5.alloc (.cells #[.int .i64 (k : Int), .int .i64 (b : Int), .int .i64 (1 + r5)] 71)) W.heap.size 71 3 (.slice a3 l.length c3) (l ++ [(⟨(k : Int), (b : Int), 1 + r5⟩ : TdD)]).length (cellsTd (l ++ [(⟨(k : Int), (b : Int), 1 + r5⟩ : TdD)])) v' w') := fun ty => run_appTd _ W.heap.size _ l (HG5.out.own.below ((Below.refl _ W5).alloc (Nat.le_refl _) _)) _ [(⟨(k : Int), (b : Int), 1 + r5⟩ : TdD)] (srcTd_new W5 ⟨(k : Int), (b : Int), 1 + r5⟩ 1) (by have := HLL.out; simp only [List.length_cons, List.length_nil]; omega) (Nat.le_trans HG5.out.only.1 (by simp)) ty
              go_wp2_with (at_builtin; refine list_app (by rfl) (.tmp 33) (.tmp 40) 64 (by rfl) (.slice a3 l.length c3) (.slice (some ⟨W5.heap.size, 0, none⟩) 1 1) (by rfl) (by rfl) _ HA.out ?_; intro v6 W6 hg6; have HF : Hid (Tdg B w0 W W0.heap.size a len cap (2 + 40 * k + 4 * b + 4) (6 * k + b + 1) v6 (l ++ [(⟨(k : Int), (b : Int), 1 + r5⟩ : TdD)]) W6) := HG5.out.put hg6 hcW (by have := HLL.out; simp; omega); clear hg6)
              go_roundw
              case rel => exact ⟨_, b + 1, by omega, by go_num, HF.out.more (by omega) (by omega)⟩
              case measure => simp [intOf]; omega
        · have hltb' : ¬ (b : Int) < (n : Int) := by omega
          go_wp2
          go_roundw
          case rel => exact ⟨l, k + 1, by omega, by go_num, HG.out.more (by omega) (by omega)⟩
          case measure => simp [intOf]; omega
    · have hlt' : ¬ (k : Int) < (n : Int) := by omega
      obtain ⟨a3, c3, hv⟩ := HG.out.own.shape
      subst hv
      have HGE : Hid (Tdg B w0 W W0.heap.size a len cap 300 36 (.slice a3 l0.length c3) l0 wr) := HG.out.more (by omega) (by omega)
      clear HG
      by_cases hl0 : 0 < l0.length
      · have hl0' : decide (0 < (l0.length : Int)) = true := decide_eq_true (by omega)
        go_wp2_with fail
        refine (one_any B w0 _ W0.heap.size a len cap 300 20 HD.out hl (by omega) HGE.out.cur (by omega) (by omega)).mono ?_
        rintro e W4 ⟨b4, rfl, hc4, ho4⟩
        have HG4 : Hid (Tdg B w0 W W0.heap.size a len cap 302 36 (.slice a3 l0.length c3) l0 W4) := HGE.out.step hc4 ho4 hcW
        clear hc4 ho4 HGE
        cases b4 with
        | false =>
          go_wp2
          refine bodyPost_ret (results_tmp2 rfl _ _ _) rfl ?_
          exact ⟨n, _, l0, rfl, HFIN.out _ _ _ HG4.out.own, Nat.le_trans HG4.out.fit (by omega), by omega, HG4.out.cur.2.2.1⟩
        | true =>
          go_wp2_with fail
          refine (pick_any B w0 _ W0.heap.size a len cap 302 3 HD.out hl (by omega) HG4.out.cur (by omega) (by omega)).mono ?_
          rintro e W5 ⟨p5, rfl, -, -, hc5, ho5⟩
          have HG5 : Hid (Tdg B w0 W W0.heap.size a len cap 304 36 (.slice a3 l0.length c3) l0 W5) := HG4.out.step hc5 ho5 hcW
          clear hc5 ho5 HG4
          go_wp2_with fail
          refine (pick_any B w0 _ W0.heap.size a len cap 304 3 HD.out hl (by omega) HG5.out.cur (by omega) (by omega)).mono ?_
          rintro e W6 ⟨p6, rfl, -, -, hc6, ho6⟩
          have HG6 : Hid (Tdg B w0 W W0.heap.size a len cap 306 36 (.slice a3 l0.length c3) l0 W6) := HG5.out.step hc6 ho6 hcW
          clear hc6 ho6 HG5
          have HCL : Hid (∀ j (hj : j < [(0 : Int), 100, 101].length), (W6.alloc (.cells #[.int .i64 0, .int .i64 100, .int .i64 101] 3)).cell? ⟨W6.heap.size, j, none⟩ = some (.int .i64 [(0 : Int), 100, 101][j])) := cells_lit W6 3 [0, 100, 101]
          have hcW6 : W0.heap.size < W6.heap.size := HG6.out.cur.2.1
          go_wp2_with fail
          refine (among_any B w0 _ W0.heap.size W6.heap.size [0, 100, 101] a len cap 3 306 HD.out hl (by omega) (curAlloc HG6.out.cur _) (by simp) (by simp) (by simp) (by omega) HCL.out).mono ?_
          rintro e W8 ⟨p8, rfl, -, hc8, ho8⟩
          have HG8 : Hid (Tdg B w0 W W0.heap.size a len cap 308 36 (.slice a3 l0.length c3) l0 W8) := HG6.out.step hc8 ((onlyAlloc (Only.refl _ _) _).trans ho8) hcW
          clear hc8 ho8 HG6 HCL
          obtain ⟨g6, cg, e6⟩ : ∃ g cap, Value.slice a3 l0.length c3 = .slice (some ⟨g, 0, none⟩) l0.length cap := by
            rcases HG8.out.own.2 with ⟨hv, hn0⟩ | ⟨g, cap, cur, hv, -⟩
            · omega
            · exact ⟨g, cap, hv⟩
          obtain ⟨rfl, rfl⟩ : a3 = some ⟨g6, 0, none⟩ ∧ c3 = cg := by simpa using e6
          have ho6 := HG8.out.own
          have hg6 : W.heap.size ≤ g6 := (World.ownsRow.lt ho6 g6 rfl).1
          have z0 : ∀ j, j < l0.length * 3 → ∃ x, W8.cell? ⟨g6, j, none⟩ = some x := fun j hj => ⟨_, by rw [World.ownsRow.cellAt ho6 j (by omega)]; exact List.getElem?_eq_getElem (by rw [cellsTd_len]; omega)⟩
          obtain ⟨t0, f0⟩ := z0 0 (by omega)
          obtain ⟨t1, f1⟩ := z0 1 (by omega)
          obtain ⟨t2, f2⟩ := z0 2 (by omega)
          have fz0 := World.ownsRow.frozenAt ho6 0
          have fz1 := World.ownsRow.frozenAt ho6 1
          have fz2 := World.ownsRow.frozenAt ho6 2
          have HFI : Hid (OwnTd (((W8.setCell ⟨g6, 0, none⟩ (.int .i64 p5)).setCell ⟨g6, 1, none⟩ (.int .i64 p6)).setCell ⟨g6, 2, none⟩ (.int .i64 p8)) W.heap.size (.slice (some ⟨g6, 0, none⟩) l0.length c3) (l0.set 0 ⟨p5, p6, p8⟩)) := by
            have := ho6.set 0 hl0 ⟨p5, p6, p8⟩
            exact (show OwnTd _ _ _ _ by simpa using this)
          have HCI : Hid (Cur B w0 (((W8.setCell ⟨g6, 0, none⟩ (.int .i64 p5)).setCell ⟨g6, 1, none⟩ (.int .i64 p6)).setCell ⟨g6, 2, none⟩ (.int .i64 p8)) W0.heap.size a len cap 308) := ((HG8.out.cur.other (by omega) _).other (by omega) _).other (by omega) _
          have HFT : Hid (l0.length ≤ 36) := HG8.out.fit
          clear ho6 HG8 e6 z0
          go_wp2
          refine bodyPost_ret (results_tmp2 rfl _ _ _) rfl ?_
          exact ⟨n, _, l0.set 0 ⟨p5, p6, p8⟩, rfl, HFIN.out _ _ _ HFI.out, by rw [List.length_set]; exact Nat.le_trans HFT.out (by omega), by omega, HCI.out.2.2.1⟩
      · have hl0' : decide (0 < (l0.length : Int)) = false := decide_eq_false (by omega)
        go_wp2
        refine bodyPost_ret (results_tmp2 rfl _ _ _) rfl ?_
        exact ⟨n, _, l0, rfl, HFIN.out _ _ _ HGE.out.own, Nat.le_trans HGE.out.fit (by omega), by omega, HGE.out.cur.2.2.1⟩
end Go.Proofs.Ytchddjidjfpehac
