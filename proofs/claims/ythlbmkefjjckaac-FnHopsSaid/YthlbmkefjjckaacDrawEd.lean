/-
  What the cursor draws of edges.
-/
import Derived.Test.YthlbmkefjjckaacDrawG
import Derived.Test.YthlbmkefjjckaacRowLaw0
import Derived.Test.YthlbmkefjjckaacGrBw
import Derived.WideShapes
namespace Go.Proofs.Ythlbmkefjjckaac
open Go.RowKit
set_option linter.unusedVariables false

/-- What 'edges' leaves: how many spots, and a list of its own. -/
def EdsPost (B : Nat) (w0 W : World) (c : Nat) (a : Option Addr) (len cap m : Nat) (e : Ending) (W' : World) : Prop :=
  ∃ (n : Nat) (v : Value) (l : List EdD), e = .returned (.tuple #[.int .i64 (n : Int), v]) ∧ OwnEd W' W.heap.size v l ∧ l.length ≤ 40 ∧ n ≤ 13 ∧ Cur B w0 W' c a len cap (m + 1000) ∧ Only c W W'
/-- What its loops keep. -/
structure Edg (B : Nat) (w0 W : World) (c : Nat) (a : Option Addr) (len cap m : Nat) (v : Value) (l : List EdD) (wr : World) : Prop where
  own : OwnEd wr W.heap.size v l
  fit : l.length ≤ 40
  cur : Cur B w0 wr c a len cap m
  only : Only c W wr
theorem Edg.more {B : Nat} {w0 W : World} {c : Nat} {a : Option Addr} {len cap m m' : Nat} {v : Value} {l : List EdD} {wr : World} (h : Edg B w0 W c a len cap m v l wr) (hm : m ≤ m') : Edg B w0 W c a len cap m' v l wr := ⟨h.own, h.fit, h.cur.mono hm, h.only⟩
theorem Edg.step {B : Nat} {w0 W : World} {c : Nat} {a : Option Addr} {len cap m m' : Nat} {v : Value} {l : List EdD} {wr w1 : World} (h : Edg B w0 W c a len cap m v l wr) (hc : Cur B w0 w1 c a len cap m') (ho : Only c wr w1) (hcW : c < W.heap.size) : Edg B w0 W c a len cap m' v l w1 := ⟨rowOnly h.own ho hcW, h.fit, hc, h.only.trans ho⟩
theorem Edg.put {B : Nat} {w0 W : World} {c : Nat} {a : Option Addr} {len cap m : Nat} {v : Value} {l l' : List EdD} {wr w1 : World} {o : Obj} {v' : Value} (h : Edg B w0 W c a len cap m v l wr) (hg : Grown (wr.alloc o) W.heap.size 61 3 v l'.length (cellsEd l') v' w1) (hcW : c < W.heap.size) (hl : l'.length ≤ 40) : Edg B w0 W c a len cap m v' l' w1 :=
  ⟨hg.own, hl, curGrown (B := B) (h.cur.below ((Below.refl _ wr).alloc (Nat.le_refl _) o)) ⟨rowMono hg.own hcW, hg.below.mono hcW, hg.size, hg.grown, hg.lies⟩,
   Nat.le_trans h.only.1 (Nat.le_trans (by simp) hg.size), fun k hk hne => (hg.grown.block k (by have := h.only.1; simp; omega) (fun e => by
     have := (World.ownsRow.lt h.own k e.symm).1
     omega)).trans ((((Below.refl wr.heap.size wr).alloc (Nat.le_refl _) o).block k (by have := h.only.1; omega)).trans (h.only.2 k hk hne))⟩

set_option maxRecDepth 100000 in
set_option maxHeartbeats 8000000 in
theorem edges_any (B : Nat) (w0 W : World) (c : Nat) (a : Option Addr) (len cap m : Nat) (hC : Code B w0 a len) (hl : len ≤ 9223372036854775807) (hm : m ≤ 100000) (h : Cur B w0 W c a len cap m) :
    Calls Try.prog 102 #[.pointer (some ⟨c, 0, none⟩)] W (EdsPost B w0 W c a len cap m) := by
  have HD : Hid (Code B w0 a len) := hC
  have hcW : c < W.heap.size := h.2.1
  have HH : Hid (Cur B w0 W c a len cap m) := h
  clear hC h
  go_enter Try.func102, Try.ntmps102
  go_wp2_with fail
  refine (pick_any B w0 _ c a len cap m 8 HD.out hl (by omega) HH.out (by omega) (by omega)).mono ?_
  rintro e W1 ⟨q, rfl, q0, q1, hc1, ho1⟩
  obtain ⟨n1, rfl⟩ : ∃ n : Nat, q = n := ⟨q.toNat, by omega⟩
  have HC1 : Hid (Cur B w0 W1 c a len cap (m + 2) ∧ Only c W W1) := ⟨hc1, ho1⟩
  clear hc1 ho1
  go_wp2_with fail
  refine (one_any B w0 _ c a len cap (m + 2) 30 HD.out hl (by omega) HC1.out.1 (by omega) (by omega)).mono ?_
  rintro e W2 ⟨b2, rfl, hc2, ho2⟩
  have HC2 : Hid (Cur B w0 W2 c a len cap (m + 4) ∧ Only c W W2) := ⟨hc2, HC1.out.2.trans ho2⟩
  clear hc2 ho2 HC1
  cases b2
  case false =>
    obtain ⟨n, hn⟩ : ∃ n : Nat, n = 1 + n1 := ⟨_, rfl⟩
    have hnn : 1 + (n1 : Int) = (n : Int) := by omega
    have hn13 : n ≤ 13 := by omega
    have HCN : Hid (Cur B w0 W2 c a len cap (m + 6) ∧ Only c W W2) := ⟨HC2.out.1.mono (by omega), HC2.out.2⟩
    clear HC2 hn
    go_wp2_with fail
    refine (pick_any B w0 _ c a len cap (m + 6) 3 HD.out hl (by omega) HCN.out.1 (by omega) (by omega)).mono ?_
    rintro e W3 ⟨d, rfl, d0, d1, hc3, ho3⟩
    have HC3 : Hid (Cur B w0 W3 c a len cap (m + 8) ∧ Only c W W3) := ⟨hc3, HCN.out.2.trans ho3⟩
    obtain ⟨dd, hdd, hd1, hd2⟩ : ∃ dd : Int, IntKind.i64.wrap (1 + (1 + d)) = dd ∧ 1 ≤ dd ∧ dd ≤ 10 := ⟨2 + d, by rw [IntKind.wrap_i64]; omega, by omega, by omega⟩
    clear hc3 ho3 HCN
    have HB0 : Hid (Edg B w0 W c a len cap (m + 8) (.slice none 0 0) [] W3) := ⟨OwnEd.nil _ _, by simp, HC3.out.1, HC3.out.2⟩
    clear HC3
    go_wp2
    go_loopw [5, 7] (fun v i wr => ∃ (l : List EdD) (k : Nat), k ≤ n ∧ i = .int .i64 (k : Int) ∧ Hid (Edg B w0 W c a len cap (m + 8 + 60 * k) v l wr)) (fun _ i _ => n - (intOf i).toNat)
    case atStart => exact ⟨[], 0, Nat.zero_le _, rfl, HB0.out⟩
    case round =>
      clear HB0
      obtain ⟨l0, k, hk, rfl, HG⟩ := hrel
      by_cases hlt : k < n
      · have hlt' : (k : Int) < (n : Int) := by omega
        go_wp2
        go_loopw [5, 8] (fun v i wr => ∃ (l : List EdD) (b : Nat), k + 1 ≤ b ∧ b ≤ n ∧ i = .int .i64 (b : Int) ∧ Hid (Edg B w0 W c a len cap (m + 8 + 60 * k + 4 * b) v l wr)) (fun _ i _ => n - (intOf i).toNat)
        case atStart => exact ⟨l0, k + 1, Nat.le_refl _, by omega, by go_num, HG.out.more (by omega)⟩
        case round =>
          clear HG
          obtain ⟨l, b, hb0, hb, rfl, HG⟩ := hrel
          obtain ⟨a3, c3, rfl⟩ := HG.out.own.shape
          by_cases hltb : b < n
          · have hltb' : (b : Int) < (n : Int) := by omega
            have HLL : Hid (l.length ≤ 40) := HG.out.fit
            go_wp2_with fail
            refine (one_any B w0 _ c a len cap (m + 8 + 60 * k + 4 * b) dd HD.out hl (by omega) HG.out.cur (by omega) (by omega)).mono ?_
            rintro e W4 ⟨b4, rfl, hc4, ho4⟩
            have HG4 : Hid (Edg B w0 W c a len cap (m + 8 + 60 * k + 4 * b + 2) (.slice a3 l.length c3) l W4) := HG.out.step hc4 ho4 hcW
            clear hc4 ho4 HG
            cases b4 with
            | false =>
              go_wp2
              go_roundw
              case rel => exact ⟨l, b + 1, by omega, by omega, by go_num, HG4.out.more (by omega)⟩
              case measure => simp [intOf]; omega
            | true =>
              by_cases h40 : l.length < 40
              · have h40' : decide ((l.length : Int) < 40) = true := decide_eq_true (by omega)
                go_wp2_with fail
                refine (pick_any B w0 _ c a len cap (m + 8 + 60 * k + 4 * b + 2) 5 HD.out hl (by omega) HG4.out.cur (by omega) (by omega)).mono ?_
                rintro e W5 ⟨r5, rfl, r50, r51, hc5, ho5⟩
                have HG5 : Hid (Edg B w0 W c a len cap (m + 8 + 60 * k + 4 * b + 4) (.slice a3 l.length c3) l W5) := HG4.out.step hc5 ho5 hcW
                clear hc5 ho5 HG4
                have HA : Hid (∀ ty, ∃ v' w', (Builtin.append_ #[54, 54] ty #[.slice a3 l.length c3, .slice (some ⟨W5.heap.size, 0, none⟩) 1 1]).run Try.prog (W5.alloc (.cells #[.int .i64 (k : Int), .int .i64 (b : Int), .int .i64 (1 + r5)] 61)) = .ok v' w' ∧ Grown (W5.alloc (.cells #[.int .i64 (k : Int), .int .i64 (b : Int), .int .i64 (1 + r5)] 61)) W.heap.size 61 3 (.slice a3 l.length c3) (l ++ [(⟨(k : Int), (b : Int), 1 + r5⟩ : EdD)]).length (cellsEd (l ++ [(⟨(k : Int), (b : Int), 1 + r5⟩ : EdD)])) v' w') := fun ty => run_appEd _ W.heap.size _ l (HG5.out.own.below ((Below.refl _ W5).alloc (Nat.le_refl _) _)) _ [(⟨(k : Int), (b : Int), 1 + r5⟩ : EdD)] (srcEd_new W5 ⟨(k : Int), (b : Int), 1 + r5⟩ 1) (by have := HLL.out; simp only [List.length_cons, List.length_nil]; omega) (Nat.le_trans HG5.out.only.1 (by simp)) ty
                go_wp2_with (at_builtin; refine list_app (by rfl) (.tmp 41) (.tmp 48) 54 (by rfl) (.slice a3 l.length c3) (.slice (some ⟨W5.heap.size, 0, none⟩) 1 1) (by rfl) (by rfl) _ HA.out ?_; intro v6 W6 hg6; have HF : Hid (Edg B w0 W c a len cap (m + 8 + 60 * k + 4 * b + 4) v6 (l ++ [(⟨(k : Int), (b : Int), 1 + r5⟩ : EdD)]) W6) := HG5.out.put hg6 hcW (by simp; omega); clear hg6)
                go_roundw
                case rel => exact ⟨_, b + 1, by omega, by omega, by go_num, HF.out.more (by omega)⟩
                case measure => simp [intOf]; omega
              · have h40' : decide ((l.length : Int) < 40) = false := decide_eq_false (by omega)
                go_wp2
                go_roundw
                case rel => exact ⟨l, b + 1, by omega, by omega, by go_num, HG4.out.more (by omega)⟩
                case measure => simp [intOf]; omega
          · have hltb' : ¬ (b : Int) < (n : Int) := by omega
            go_wp2
            go_roundw
            case rel => exact ⟨l, k + 1, by omega, by go_num, HG.out.more (by omega)⟩
            case measure => simp [intOf]; omega
      · have hlt' : ¬ (k : Int) < (n : Int) := by omega
        obtain ⟨a3, c3, hv⟩ := HG.out.own.shape
        subst hv
        have HGE : Hid (Edg B w0 W c a len cap (m + 900) (.slice a3 l0.length c3) l0 wr) := HG.out.more (by omega)
        clear HG
        by_cases hl0 : 0 < l0.length
        · have hl0' : decide (0 < (l0.length : Int)) = true := decide_eq_true (by omega)
          go_wp2_with fail
          refine (one_any B w0 _ c a len cap (m + 900) 30 HD.out hl (by omega) HGE.out.cur (by omega) (by omega)).mono ?_
          rintro e W4 ⟨b4, rfl, hc4, ho4⟩
          have HG4 : Hid (Edg B w0 W c a len cap (m + 902) (.slice a3 l0.length c3) l0 W4) := HGE.out.step hc4 ho4 hcW
          clear hc4 ho4 HGE
          cases b4 with
          | false =>
            go_wp2
            refine bodyPost_ret (results_tmp2 rfl _ _ _) rfl ?_
            exact ⟨_, _, l0, rfl, HG4.out.own, HG4.out.fit, by omega, HG4.out.cur.mono (by omega), HG4.out.only⟩
          | true =>
            have HCL : Hid (∀ j (hj : j < [(0 : Int), 100, 101].length), (W4.alloc (.cells #[.int .i64 0, .int .i64 100, .int .i64 101] 3)).cell? ⟨W4.heap.size, j, none⟩ = some (.int .i64 [(0 : Int), 100, 101][j])) := cells_lit W4 3 [0, 100, 101]
            have hcW4 : c < W4.heap.size := HG4.out.cur.2.1
            go_wp2_with fail
            refine (among_any B w0 _ c W4.heap.size [0, 100, 101] a len cap 3 (m + 902) HD.out hl (by omega) (curAlloc HG4.out.cur _) (by simp) (by simp) (by simp) (by omega) HCL.out).mono ?_
            rintro e W5 ⟨r5, rfl, -, hc5, ho5⟩
            have HG5 : Hid (Edg B w0 W c a len cap (m + 904) (.slice a3 l0.length c3) l0 W5) := HG4.out.step hc5 ((onlyAlloc (Only.refl _ _) _).trans ho5) hcW
            clear hc5 ho5 HG4 HCL
            obtain ⟨g6, cg, e6⟩ : ∃ g cap, Value.slice a3 l0.length c3 = .slice (some ⟨g, 0, none⟩) l0.length cap := by
              rcases HG5.out.own.2 with ⟨hv, hn0⟩ | ⟨g, cap, cur, hv, -⟩
              · omega
              · exact ⟨g, cap, hv⟩
            obtain ⟨rfl, rfl⟩ : a3 = some ⟨g6, 0, none⟩ ∧ c3 = cg := by simpa using e6
            have ho6 := HG5.out.own
            have hg6 : W.heap.size ≤ g6 := (World.ownsRow.lt ho6 g6 rfl).1
            obtain ⟨t2, f2⟩ : ∃ x, W5.cell? ⟨g6, 2, none⟩ = some x := ⟨_, by rw [World.ownsRow.cellAt ho6 2 (by omega)]; exact List.getElem?_eq_getElem (by rw [cellsEd_len]; omega)⟩
            have fz2 := World.ownsRow.frozenAt ho6 2
            have HFI : Hid (OwnEd (W5.setCell ⟨g6, 2, none⟩ (.int .i64 r5)) W.heap.size (.slice (some ⟨g6, 0, none⟩) l0.length c3) (l0.set 0 { l0[0] with Cost := r5 })) := by
              have := ho6.set_Cost 0 hl0 r5
              exact (show OwnEd _ _ _ _ by simpa using this)
            have HCI : Hid (Cur B w0 (W5.setCell ⟨g6, 2, none⟩ (.int .i64 r5)) c a len cap (m + 904)) := HG5.out.cur.other (by omega) _
            have HNI : Hid (Only c W (W5.setCell ⟨g6, 2, none⟩ (.int .i64 r5))) := by
              have h1 := HG5.out.only
              refine ⟨by have := h1.1; simpa [World.setCell] using this, fun k hk hne => ?_⟩
              rw [Below.heap_setCell _ _ _ _ (by show k ≠ g6; omega)]
              exact h1.2 k hk hne
            have HFT : Hid (l0.length ≤ 40) := HG5.out.fit
            clear ho6 HG5 e6
            go_wp2
            refine bodyPost_ret (results_tmp2 rfl _ _ _) rfl ?_
            exact ⟨_, _, l0.set 0 { l0[0] with Cost := r5 }, rfl, HFI.out, by rw [List.length_set]; exact HFT.out, by omega, HCI.out.mono (by omega), HNI.out⟩
        · have hl0' : decide (0 < (l0.length : Int)) = false := decide_eq_false (by omega)
          go_wp2
          refine bodyPost_ret (results_tmp2 rfl _ _ _) rfl ?_
          exact ⟨_, _, l0, rfl, HGE.out.own, HGE.out.fit, by omega, HGE.out.cur.mono (by omega), HGE.out.only⟩
  case true =>
    have HCL0 : Hid (∀ j (hj : j < [(0 : Int), 12, 13].length), (W2.alloc (.cells #[.int .i64 0, .int .i64 12, .int .i64 13] 3)).cell? ⟨W2.heap.size, j, none⟩ = some (.int .i64 [(0 : Int), 12, 13][j])) := cells_lit W2 3 [0, 12, 13]
    have hcW2 : c < W2.heap.size := HC2.out.1.2.1
    go_wp2_with fail
    refine (among_any B w0 _ c W2.heap.size [0, 12, 13] a len cap 3 (m + 4) HD.out hl (by omega) (curAlloc HC2.out.1 _) (by simp) (by simp) (by simp) (by omega) HCL0.out).mono ?_
    rintro e W20 ⟨r2, rfl, hr2, hc20, ho20⟩
    obtain ⟨n, rfl, hn13⟩ : ∃ n : Nat, r2 = (n : Int) ∧ n ≤ 13 := by
      simp at hr2
      exact ⟨r2.toNat, by omega, by omega⟩
    have HCN : Hid (Cur B w0 W20 c a len cap (m + 6) ∧ Only c W W20) := ⟨hc20, HC2.out.2.trans ((onlyAlloc (Only.refl _ _) _).trans ho20)⟩
    clear hc20 ho20 HC2 HCL0 hr2
    go_wp2_with fail
    refine (pick_any B w0 _ c a len cap (m + 6) 3 HD.out hl (by omega) HCN.out.1 (by omega) (by omega)).mono ?_
    rintro e W3 ⟨d, rfl, d0, d1, hc3, ho3⟩
    have HC3 : Hid (Cur B w0 W3 c a len cap (m + 8) ∧ Only c W W3) := ⟨hc3, HCN.out.2.trans ho3⟩
    obtain ⟨dd, hdd, hd1, hd2⟩ : ∃ dd : Int, IntKind.i64.wrap (1 + (1 + d)) = dd ∧ 1 ≤ dd ∧ dd ≤ 10 := ⟨2 + d, by rw [IntKind.wrap_i64]; omega, by omega, by omega⟩
    clear hc3 ho3 HCN
    have HB0 : Hid (Edg B w0 W c a len cap (m + 8) (.slice none 0 0) [] W3) := ⟨OwnEd.nil _ _, by simp, HC3.out.1, HC3.out.2⟩
    clear HC3
    go_wp2
    go_loopw [5, 7] (fun v i wr => ∃ (l : List EdD) (k : Nat), k ≤ n ∧ i = .int .i64 (k : Int) ∧ Hid (Edg B w0 W c a len cap (m + 8 + 60 * k) v l wr)) (fun _ i _ => n - (intOf i).toNat)
    case atStart => exact ⟨[], 0, Nat.zero_le _, rfl, HB0.out⟩
    case round =>
      clear HB0
      obtain ⟨l0, k, hk, rfl, HG⟩ := hrel
      by_cases hlt : k < n
      · have hlt' : (k : Int) < (n : Int) := by omega
        go_wp2
        go_loopw [5, 8] (fun v i wr => ∃ (l : List EdD) (b : Nat), k + 1 ≤ b ∧ b ≤ n ∧ i = .int .i64 (b : Int) ∧ Hid (Edg B w0 W c a len cap (m + 8 + 60 * k + 4 * b) v l wr)) (fun _ i _ => n - (intOf i).toNat)
        case atStart => exact ⟨l0, k + 1, Nat.le_refl _, by omega, by go_num, HG.out.more (by omega)⟩
        case round =>
          clear HG
          obtain ⟨l, b, hb0, hb, rfl, HG⟩ := hrel
          obtain ⟨a3, c3, rfl⟩ := HG.out.own.shape
          by_cases hltb : b < n
          · have hltb' : (b : Int) < (n : Int) := by omega
            have HLL : Hid (l.length ≤ 40) := HG.out.fit
            go_wp2_with fail
            refine (one_any B w0 _ c a len cap (m + 8 + 60 * k + 4 * b) dd HD.out hl (by omega) HG.out.cur (by omega) (by omega)).mono ?_
            rintro e W4 ⟨b4, rfl, hc4, ho4⟩
            have HG4 : Hid (Edg B w0 W c a len cap (m + 8 + 60 * k + 4 * b + 2) (.slice a3 l.length c3) l W4) := HG.out.step hc4 ho4 hcW
            clear hc4 ho4 HG
            cases b4 with
            | false =>
              go_wp2
              go_roundw
              case rel => exact ⟨l, b + 1, by omega, by omega, by go_num, HG4.out.more (by omega)⟩
              case measure => simp [intOf]; omega
            | true =>
              by_cases h40 : l.length < 40
              · have h40' : decide ((l.length : Int) < 40) = true := decide_eq_true (by omega)
                go_wp2_with fail
                refine (pick_any B w0 _ c a len cap (m + 8 + 60 * k + 4 * b + 2) 5 HD.out hl (by omega) HG4.out.cur (by omega) (by omega)).mono ?_
                rintro e W5 ⟨r5, rfl, r50, r51, hc5, ho5⟩
                have HG5 : Hid (Edg B w0 W c a len cap (m + 8 + 60 * k + 4 * b + 4) (.slice a3 l.length c3) l W5) := HG4.out.step hc5 ho5 hcW
                clear hc5 ho5 HG4
                have HA : Hid (∀ ty, ∃ v' w', (Builtin.append_ #[54, 54] ty #[.slice a3 l.length c3, .slice (some ⟨W5.heap.size, 0, none⟩) 1 1]).run Try.prog (W5.alloc (.cells #[.int .i64 (k : Int), .int .i64 (b : Int), .int .i64 (1 + r5)] 61)) = .ok v' w' ∧ Grown (W5.alloc (.cells #[.int .i64 (k : Int), .int .i64 (b : Int), .int .i64 (1 + r5)] 61)) W.heap.size 61 3 (.slice a3 l.length c3) (l ++ [(⟨(k : Int), (b : Int), 1 + r5⟩ : EdD)]).length (cellsEd (l ++ [(⟨(k : Int), (b : Int), 1 + r5⟩ : EdD)])) v' w') := fun ty => run_appEd _ W.heap.size _ l (HG5.out.own.below ((Below.refl _ W5).alloc (Nat.le_refl _) _)) _ [(⟨(k : Int), (b : Int), 1 + r5⟩ : EdD)] (srcEd_new W5 ⟨(k : Int), (b : Int), 1 + r5⟩ 1) (by have := HLL.out; simp only [List.length_cons, List.length_nil]; omega) (Nat.le_trans HG5.out.only.1 (by simp)) ty
                go_wp2_with (at_builtin; refine list_app (by rfl) (.tmp 41) (.tmp 48) 54 (by rfl) (.slice a3 l.length c3) (.slice (some ⟨W5.heap.size, 0, none⟩) 1 1) (by rfl) (by rfl) _ HA.out ?_; intro v6 W6 hg6; have HF : Hid (Edg B w0 W c a len cap (m + 8 + 60 * k + 4 * b + 4) v6 (l ++ [(⟨(k : Int), (b : Int), 1 + r5⟩ : EdD)]) W6) := HG5.out.put hg6 hcW (by simp; omega); clear hg6)
                go_roundw
                case rel => exact ⟨_, b + 1, by omega, by omega, by go_num, HF.out.more (by omega)⟩
                case measure => simp [intOf]; omega
              · have h40' : decide ((l.length : Int) < 40) = false := decide_eq_false (by omega)
                go_wp2
                go_roundw
                case rel => exact ⟨l, b + 1, by omega, by omega, by go_num, HG4.out.more (by omega)⟩
                case measure => simp [intOf]; omega
          · have hltb' : ¬ (b : Int) < (n : Int) := by omega
            go_wp2
            go_roundw
            case rel => exact ⟨l, k + 1, by omega, by go_num, HG.out.more (by omega)⟩
            case measure => simp [intOf]; omega
      · have hlt' : ¬ (k : Int) < (n : Int) := by omega
        obtain ⟨a3, c3, hv⟩ := HG.out.own.shape
        subst hv
        have HGE : Hid (Edg B w0 W c a len cap (m + 900) (.slice a3 l0.length c3) l0 wr) := HG.out.more (by omega)
        clear HG
        by_cases hl0 : 0 < l0.length
        · have hl0' : decide (0 < (l0.length : Int)) = true := decide_eq_true (by omega)
          go_wp2_with fail
          refine (one_any B w0 _ c a len cap (m + 900) 30 HD.out hl (by omega) HGE.out.cur (by omega) (by omega)).mono ?_
          rintro e W4 ⟨b4, rfl, hc4, ho4⟩
          have HG4 : Hid (Edg B w0 W c a len cap (m + 902) (.slice a3 l0.length c3) l0 W4) := HGE.out.step hc4 ho4 hcW
          clear hc4 ho4 HGE
          cases b4 with
          | false =>
            go_wp2
            refine bodyPost_ret (results_tmp2 rfl _ _ _) rfl ?_
            exact ⟨_, _, l0, rfl, HG4.out.own, HG4.out.fit, by omega, HG4.out.cur.mono (by omega), HG4.out.only⟩
          | true =>
            have HCL : Hid (∀ j (hj : j < [(0 : Int), 100, 101].length), (W4.alloc (.cells #[.int .i64 0, .int .i64 100, .int .i64 101] 3)).cell? ⟨W4.heap.size, j, none⟩ = some (.int .i64 [(0 : Int), 100, 101][j])) := cells_lit W4 3 [0, 100, 101]
            have hcW4 : c < W4.heap.size := HG4.out.cur.2.1
            go_wp2_with fail
            refine (among_any B w0 _ c W4.heap.size [0, 100, 101] a len cap 3 (m + 902) HD.out hl (by omega) (curAlloc HG4.out.cur _) (by simp) (by simp) (by simp) (by omega) HCL.out).mono ?_
            rintro e W5 ⟨r5, rfl, -, hc5, ho5⟩
            have HG5 : Hid (Edg B w0 W c a len cap (m + 904) (.slice a3 l0.length c3) l0 W5) := HG4.out.step hc5 ((onlyAlloc (Only.refl _ _) _).trans ho5) hcW
            clear hc5 ho5 HG4 HCL
            obtain ⟨g6, cg, e6⟩ : ∃ g cap, Value.slice a3 l0.length c3 = .slice (some ⟨g, 0, none⟩) l0.length cap := by
              rcases HG5.out.own.2 with ⟨hv, hn0⟩ | ⟨g, cap, cur, hv, -⟩
              · omega
              · exact ⟨g, cap, hv⟩
            obtain ⟨rfl, rfl⟩ : a3 = some ⟨g6, 0, none⟩ ∧ c3 = cg := by simpa using e6
            have ho6 := HG5.out.own
            have hg6 : W.heap.size ≤ g6 := (World.ownsRow.lt ho6 g6 rfl).1
            obtain ⟨t2, f2⟩ : ∃ x, W5.cell? ⟨g6, 2, none⟩ = some x := ⟨_, by rw [World.ownsRow.cellAt ho6 2 (by omega)]; exact List.getElem?_eq_getElem (by rw [cellsEd_len]; omega)⟩
            have fz2 := World.ownsRow.frozenAt ho6 2
            have HFI : Hid (OwnEd (W5.setCell ⟨g6, 2, none⟩ (.int .i64 r5)) W.heap.size (.slice (some ⟨g6, 0, none⟩) l0.length c3) (l0.set 0 { l0[0] with Cost := r5 })) := by
              have := ho6.set_Cost 0 hl0 r5
              exact (show OwnEd _ _ _ _ by simpa using this)
            have HCI : Hid (Cur B w0 (W5.setCell ⟨g6, 2, none⟩ (.int .i64 r5)) c a len cap (m + 904)) := HG5.out.cur.other (by omega) _
            have HNI : Hid (Only c W (W5.setCell ⟨g6, 2, none⟩ (.int .i64 r5))) := by
              have h1 := HG5.out.only
              refine ⟨by have := h1.1; simpa [World.setCell] using this, fun k hk hne => ?_⟩
              rw [Below.heap_setCell _ _ _ _ (by show k ≠ g6; omega)]
              exact h1.2 k hk hne
            have HFT : Hid (l0.length ≤ 40) := HG5.out.fit
            clear ho6 HG5 e6
            go_wp2
            refine bodyPost_ret (results_tmp2 rfl _ _ _) rfl ?_
            exact ⟨_, _, l0.set 0 { l0[0] with Cost := r5 }, rfl, HFI.out, by rw [List.length_set]; exact HFT.out, by omega, HCI.out.mono (by omega), HNI.out⟩
        · have hl0' : decide (0 < (l0.length : Int)) = false := decide_eq_false (by omega)
          go_wp2
          refine bodyPost_ret (results_tmp2 rfl _ _ _) rfl ?_
          exact ⟨_, _, l0, rfl, HGE.out.own, HGE.out.fit, by omega, HGE.out.cur.mono (by omega), HGE.out.only⟩

end Go.Proofs.Ythlbmkefjjckaac
