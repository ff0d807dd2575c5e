/-
  What is drawn of numbers that go round: 'seq', 'DrawIsNewer', 'DrawFitsRing'.
-/
import Derived.Test.YthdcfeafkellcabDrawG
import Derived.Test.YthdcfeafkellcabRound0
namespace Go.Proofs.Ythdcfeafkellcab
open Go.RowKit
set_option linter.unusedVariables false

set_option maxRecDepth 100000 in
set_option maxHeartbeats 2000000 in
theorem seq_any (B : Nat) (w0 W : World) (c : Nat) (a : Option Addr) (len cap m : Nat) (hC : Code B w0 a len) (hl : len ≤ 9223372036854775807) (hm : m ≤ 100000) (h : Cur B w0 W c a len cap m) :
    Calls Try.prog 74 #[.pointer (some ⟨c, 0, none⟩)] W fun e W' => ∃ r : Int, e = .returned (.int .i64 r) ∧ -1 ≤ r ∧ r ≤ 64 ∧ Cur B w0 W' c a len cap (m + 6) ∧ Only c W W' := by
  have HD : Hid (Code B w0 a len) := hC
  have HH : Hid (Cur B w0 W c a len cap m) := h
  clear hC h
  go_enter Try.func74, Try.ntmps74
  go_wp2_with fail
  refine (pick_any B w0 _ c a len cap m 64 HD.out hl (by omega) HH.out (by omega) (by omega)).mono ?_
  rintro e W1 ⟨p, rfl, p0, p1, hc1, ho1⟩
  have HC1 : Hid (Cur B w0 W1 c a len cap (m + 2) ∧ Only c W W1) := ⟨hc1, ho1⟩
  clear hc1 ho1 HH
  go_wp2_with fail
  refine (pick_any B w0 _ c a len cap (m + 2) 64 HD.out hl (by omega) HC1.out.1 (by omega) (by omega)).mono ?_
  rintro e W2 ⟨q, rfl, q0, q1, hc2, ho2⟩
  have hcW2 : c < W2.heap.size := hc2.2.1
  have HC2 : Hid (Cur B w0 W2 c a len cap (m + 4) ∧ Only c W W2) := ⟨hc2, HC1.out.2.trans ho2⟩
  have HCL : Hid (∀ j (hj : j < [(-1 : Int), 0, 1, 31, 32, 33, 63, 64, p, q].length), (W2.alloc (.cells #[.int .i64 (-1), .int .i64 0, .int .i64 1, .int .i64 31, .int .i64 32, .int .i64 33, .int .i64 63, .int .i64 64, .int .i64 p, .int .i64 q] 3)).cell? ⟨W2.heap.size, j, none⟩ = some (.int .i64 [(-1 : Int), 0, 1, 31, 32, 33, 63, 64, p, q][j])) := cells_lit W2 3 [(-1 : Int), 0, 1, 31, 32, 33, 63, 64, p, q]
  clear hc2 ho2 HC1
  go_wp2_with fail
  refine (among_any B w0 _ c W2.heap.size [(-1 : Int), 0, 1, 31, 32, 33, 63, 64, p, q] a len cap 10 (m + 4) HD.out hl (by omega) (curAlloc HC2.out.1 _) (by simp) (by simp) (by simp) (by omega) HCL.out).mono ?_
  rintro e W3 ⟨r, rfl, hr, hc3, ho3⟩
  have hr2 : -1 ≤ r ∧ r ≤ 64 := by simp at hr; omega
  have HP : Hid (Cur B w0 W3 c a len cap (m + 6) ∧ Only c W W3) := ⟨hc3, (onlyAlloc HC2.out.2 _).trans ho3⟩
  clear hc3 ho3 HC2 HCL hr
  go_wp2
  go_ret
  exact ⟨r, rfl, hr2.1, hr2.2, HP.out.1, HP.out.2⟩

set_option maxRecDepth 100000 in
set_option maxHeartbeats 2000000 in
theorem drawIsNewer_any (B : Nat) (w0 W : World) (a : Option Addr) (len cap : Nat) (hC : Code B w0 a len) (hl : len ≤ 9223372036854775807) (h : Since B w0 W) :
    Calls Try.prog 29 #[.slice a len cap] W fun e W' => ∃ x y : Int, e = .returned (.tuple #[.int .i64 x, .int .i64 y]) ∧ (-1 ≤ x ∧ x ≤ 64) ∧ (-1 ≤ y ∧ y ≤ 64) ∧ Since B w0 W' := by
  have HC : Hid (Code B w0 a len) := hC
  have HU : Hid (Cur B w0 (W.alloc (.cells #[.slice a len cap, .int .i64 0, .int .u64 0] 75)) W.heap.size a len cap 0) := cur_new a len cap 75 h
  clear hC h
  go_enter Try.func29, Try.ntmps29
  go_wp2_with fail
  refine (seq_any B w0 _ _ a len cap 0 HC.out hl (by omega) HU.out).mono ?_
  rintro e W1 ⟨x, rfl, x0, x1, hc1, ho1⟩
  have C1 : Hid (Cur B w0 W1 W.heap.size a len cap 6) := hc1
  clear hc1 ho1 HU
  go_wp2_with fail
  refine (seq_any B w0 _ _ a len cap 6 HC.out hl (by omega) C1.out).mono ?_
  rintro e W2 ⟨y, rfl, y0, y1, hc2, ho2⟩
  have S2 : Hid (Since B w0 W2) := hc2.2.2.1
  clear hc2 ho2 C1
  go_wp2
  go_ret2
  exact ⟨x, y, rfl, ⟨x0, x1⟩, ⟨y0, y1⟩, S2.out⟩

/-- What the loop of 'DrawFitsRing' keeps. -/
structure Rg (B : Nat) (w0 : World) (c : Nat) (a : Option Addr) (len cap : Nat) (v : Value) (l : List Int) (n : Nat) (wr : World) : Prop where
  own : Own wr (c + 1) v l
  fit : l.length + n ≤ 41
  seqs : ∀ z ∈ l, seqB z = true
  cur : Cur B w0 wr c a len cap (10 + 4 * (41 - n))
theorem rg_add {B : Nat} {w0 w6 w7 : World} {c : Nat} {a : Option Addr} {len cap k : Nat} {v v' : Value} {l : List Int} {z : Int} {o : Obj} (hr : ∀ z ∈ l, seqB z = true) (hz : seqB z = true) (hf : l.length + k ≤ 41) (hk : 0 < k)
    (hc : Cur B w0 w6 c a len cap (10 + 4 * (41 - k) + 4)) (hg : Grown (w6.alloc o) (c + 1) 3 1 v (l ++ [z]).length ((l ++ [z]).map (Value.int .i64)) v' w7) : Rg B w0 c a len cap v' (l ++ [z]) (k - 1) w7 :=
  ⟨hg.own, by simp; omega, fun x hx => by rcases List.mem_append.1 hx with h | h; exact hr x h; rw [List.mem_singleton.1 h]; exact hz, (curGrown (curAlloc hc o) hg).mono (by omega)⟩

/-- A list of numbers of the round, of its own. -/
def DrawnL (B : Nat) (w0 W : World) (e : Ending) (W' : World) : Prop := ∃ v l, e = .returned v ∧ Own W' W.heap.size v l ∧ l.length ≤ 41 ∧ (∀ z ∈ l, seqB z = true) ∧ Since B w0 W'

set_option maxRecDepth 100000 in
set_option maxHeartbeats 4000000 in
theorem drawFits_any (B : Nat) (w0 W : World) (a : Option Addr) (len cap : Nat) (hC : Code B w0 a len) (hl : len ≤ 9223372036854775807) (h : Since B w0 W) :
    Calls Try.prog 36 #[.slice a len cap] W (DrawnL B w0 W) := by
  have HD : Hid (Code B w0 a len) := hC
  have HU : Hid (Cur B w0 (W.alloc (.cells #[.slice a len cap, .int .i64 0, .int .u64 0] 75)) W.heap.size a len cap 0) := cur_new a len cap 75 h
  clear hC h
  go_enter Try.func36, Try.ntmps36
  go_wp2_with fail
  refine (pick_any B w0 _ _ a len cap 0 6 HD.out hl (by omega) HU.out (by omega) (by omega)).mono ?_
  rintro e W1 ⟨q, rfl, q0, q1, hc1, ho1⟩
  have C1 : Hid (Cur B w0 W1 W.heap.size a len cap 2) := hc1
  clear hc1 ho1 HU
  go_wp2_with fail
  refine (one_any B w0 _ _ a len cap 2 20 HD.out hl (by omega) C1.out (by omega) (by omega)).mono ?_
  rintro e W2 ⟨b2, rfl, hc2, ho2⟩
  have C2 : Hid (Cur B w0 W2 W.heap.size a len cap 4) := hc2
  clear hc2 ho2 C1
  cases b2 with
  | false =>
    obtain ⟨n1, rfl⟩ : ∃ n : Nat, q = n := ⟨q.toNat, by omega⟩
    go_wp2_with fail
    refine (pick_any B w0 _ _ a len cap 4 64 HD.out hl (by omega) C2.out (by omega) (by omega)).mono ?_
    rintro e W4 ⟨from', rfl, f0, f1, hc4, ho4⟩
    have HB0 : Hid (Rg B w0 W.heap.size a len cap (.slice none 0 0) [] n1 W4) := ⟨Own.nil _ _, by simp; omega, by simp, hc4.mono (by omega)⟩
    clear hc4 ho4
    go_wp2
    go_loopw [4, 5] (fun v i wr => ∃ (l : List Int) (k : Nat), i = .int .i64 (k : Int) ∧ Hid (Rg B w0 W.heap.size a len cap v l k wr)) (fun _ i _ => (intOf i).toNat)
    case atStart => exact ⟨[], n1, rfl, HB0.out⟩
    case round =>
      clear HB0
      obtain ⟨l, k, rfl, HG⟩ := hrel
      obtain ⟨a3, c3, rfl⟩ : ∃ a c, _ = Value.slice a l.length c := by have := rowShape HG.out.own; simpa using this
      have hkl : l.length + k ≤ 41 := HG.out.fit
      by_cases hk : 0 < k
      · have hk' : 0 < (k : Int) := by omega
        have HCU : Hid (Cur B w0 wr W.heap.size a len cap (10 + 4 * (41 - k))) := HG.out.cur
        go_wp2_with fail
        refine (one_any B w0 _ _ a len cap (10 + 4 * (41 - k)) 2 HD.out hl (by omega) HCU.out (by omega) (by omega)).mono ?_
        rintro e W4 ⟨b4, rfl, hc4, ho4⟩
        have HC4 : Hid (Cur B w0 W4 W.heap.size a len cap ((10 + 4 * (41 - k)) + 2) ∧ Only W.heap.size wr W4) := ⟨hc4, ho4⟩
        clear hc4 ho4
        cases b4 with
        | true =>
          go_wp2_with fail
          refine (pick_any B w0 _ _ a len cap ((10 + 4 * (41 - k)) + 2) 20 HD.out hl (by omega) HC4.out.1 (by omega) (by omega)).mono ?_
          rintro e W5 ⟨r, rfl, r0, r1, hc5, ho5⟩
          have HC6 : Hid (Cur B w0 W5 W.heap.size a len cap ((10 + 4 * (41 - k)) + 4) ∧ Only W.heap.size wr W5) := ⟨hc5, HC4.out.2.trans ho5⟩
          clear hc5 ho5 HC4
          obtain ⟨z, hz⟩ : ∃ z, z = (from' + r) % 64 := ⟨_, rfl⟩
          have htm : (from' + r).tmod 64 = z := by rw [hz]; exact Int.tmod_eq_emod_of_nonneg (by omega)
          have HZ : Hid (seqB z = true) := by rw [hz]; exact seqB_mod _
          clear hz
          have HO6 : Hid (Own W5 (W.heap.size + 1) (.slice a3 l.length c3) l) := rowOnly HG.out.own HC6.out.2 (by omega)
          have hw6 : W.heap.size + 1 ≤ W5.heap.size := HC6.out.1.2.1
          have HSQ : Hid (∀ z ∈ l, seqB z = true) := HG.out.seqs
          have HAP : Hid (∀ ty, ∃ v' w', (Builtin.append_ #[27, 27] ty #[.slice a3 l.length c3, .slice (some ⟨W5.heap.size, 0, none⟩) 1 1]).run Try.prog (W5.alloc (.cells #[.int .i64 z] 3)) = .ok v' w' ∧ Grown (W5.alloc (.cells #[.int .i64 z] 3)) (W.heap.size + 1) 3 1 (.slice a3 l.length c3) (l ++ [z]).length ((l ++ [z]).map (Value.int .i64)) v' w') := fun ty =>
            run_app1 _ _ _ l (HO6.out.below ((Below.refl _ _).alloc (Nat.le_refl _) _)) W5.heap.size 1 z (new_cell _ _ _) (by omega) (by simp; omega) ty
          clear HG HCU
          go_wp2_with (at_builtin; refine list_app (by rfl) (.tmp 25) (.tmp 31) 27 (by rfl) (.slice a3 l.length c3) (.slice (some ⟨W5.heap.size, 0, none⟩) 1 1) (by rfl) (by rfl) _ HAP.out ?_; intro v7 w7 hg7; have HF : Hid (Rg B w0 W.heap.size a len cap v7 (l ++ [z]) (k - 1) w7) := rg_add HSQ.out HZ.out hkl hk HC6.out.1 hg7; clear hg7)
          go_roundw
          case rel => exact ⟨_, k - 1, by go_num, HF.out⟩
          case measure => simp [intOf]; omega
        | false =>
          go_wp2_with fail
          refine (pick_any B w0 _ _ a len cap ((10 + 4 * (41 - k)) + 2) 64 HD.out hl (by omega) HC4.out.1 (by omega) (by omega)).mono ?_
          rintro e W5 ⟨r, rfl, r0, r1, hc5, ho5⟩
          have HC6 : Hid (Cur B w0 W5 W.heap.size a len cap ((10 + 4 * (41 - k)) + 4) ∧ Only W.heap.size wr W5) := ⟨hc5, HC4.out.2.trans ho5⟩
          clear hc5 ho5 HC4
          have HZ : Hid (seqB r = true) := seqB_iff.2 (by omega)
          have HO6 : Hid (Own W5 (W.heap.size + 1) (.slice a3 l.length c3) l) := rowOnly HG.out.own HC6.out.2 (by omega)
          have hw6 : W.heap.size + 1 ≤ W5.heap.size := HC6.out.1.2.1
          have HSQ : Hid (∀ z ∈ l, seqB z = true) := HG.out.seqs
          have HAP : Hid (∀ ty, ∃ v' w', (Builtin.append_ #[27, 27] ty #[.slice a3 l.length c3, .slice (some ⟨W5.heap.size, 0, none⟩) 1 1]).run Try.prog (W5.alloc (.cells #[.int .i64 r] 3)) = .ok v' w' ∧ Grown (W5.alloc (.cells #[.int .i64 r] 3)) (W.heap.size + 1) 3 1 (.slice a3 l.length c3) (l ++ [r]).length ((l ++ [r]).map (Value.int .i64)) v' w') := fun ty =>
            run_app1 _ _ _ l (HO6.out.below ((Below.refl _ _).alloc (Nat.le_refl _) _)) W5.heap.size 1 r (new_cell _ _ _) (by omega) (by simp; omega) ty
          clear HG HCU
          go_wp2_with (at_builtin; refine list_app (by rfl) (.tmp 33) (.tmp 36) 27 (by rfl) (.slice a3 l.length c3) (.slice (some ⟨W5.heap.size, 0, none⟩) 1 1) (by rfl) (by rfl) _ HAP.out ?_; intro v7 w7 hg7; have HF : Hid (Rg B w0 W.heap.size a len cap v7 (l ++ [r]) (k - 1) w7) := rg_add HSQ.out HZ.out hkl hk HC6.out.1 hg7; clear hg7)
          go_roundw
          case rel => exact ⟨_, k - 1, by go_num, HF.out⟩
          case measure => simp [intOf]; omega
      · have hk' : ¬ 0 < (k : Int) := by omega
        have HF : Hid (Rg B w0 W.heap.size a len cap (.slice a3 l.length c3) l k wr) := HG.out
        clear HG
        go_wp2
        go_ret
        exact ⟨_, l, rfl, rowMono HF.out.own (Nat.le_succ _), by omega, HF.out.seqs, HF.out.cur.2.2.1⟩
  | true =>
    go_wp2_with fail
    refine (pick_any B w0 _ _ a len cap 4 2 HD.out hl (by omega) C2.out (by omega) (by omega)).mono ?_
    rintro e W3 ⟨p, rfl, p0, p1, hc3, ho3⟩
    have C3 : Hid (Cur B w0 W3 W.heap.size a len cap 6) := hc3
    clear hc3 ho3 C2
    obtain ⟨n1, hn1⟩ : ∃ n : Nat, 40 + p = (n : Int) := ⟨(40 + p).toNat, by omega⟩
    have hn1' : n1 ≤ 41 := by omega
    go_wp2_with fail
    refine (pick_any B w0 _ _ a len cap 6 64 HD.out hl (by omega) C3.out (by omega) (by omega)).mono ?_
    rintro e W4 ⟨from', rfl, f0, f1, hc4, ho4⟩
    have HB0 : Hid (Rg B w0 W.heap.size a len cap (.slice none 0 0) [] n1 W4) := ⟨Own.nil _ _, by simp; omega, by simp, hc4.mono (by omega)⟩
    clear hc4 ho4
    go_wp2
    go_loopw [4, 5] (fun v i wr => ∃ (l : List Int) (k : Nat), i = .int .i64 (k : Int) ∧ Hid (Rg B w0 W.heap.size a len cap v l k wr)) (fun _ i _ => (intOf i).toNat)
    case atStart => exact ⟨[], n1, by first | rfl | (congr 1) | (rw [hn1]), HB0.out⟩
    case round =>
      clear HB0
      obtain ⟨l, k, rfl, HG⟩ := hrel
      obtain ⟨a3, c3, rfl⟩ : ∃ a c, _ = Value.slice a l.length c := by have := rowShape HG.out.own; simpa using this
      have hkl : l.length + k ≤ 41 := HG.out.fit
      by_cases hk : 0 < k
      · have hk' : 0 < (k : Int) := by omega
        have HCU : Hid (Cur B w0 wr W.heap.size a len cap (10 + 4 * (41 - k))) := HG.out.cur
        go_wp2_with fail
        refine (one_any B w0 _ _ a len cap (10 + 4 * (41 - k)) 2 HD.out hl (by omega) HCU.out (by omega) (by omega)).mono ?_
        rintro e W4 ⟨b4, rfl, hc4, ho4⟩
        have HC4 : Hid (Cur B w0 W4 W.heap.size a len cap ((10 + 4 * (41 - k)) + 2) ∧ Only W.heap.size wr W4) := ⟨hc4, ho4⟩
        clear hc4 ho4
        cases b4 with
        | true =>
          go_wp2_with fail
          refine (pick_any B w0 _ _ a len cap ((10 + 4 * (41 - k)) + 2) 20 HD.out hl (by omega) HC4.out.1 (by omega) (by omega)).mono ?_
          rintro e W5 ⟨r, rfl, r0, r1, hc5, ho5⟩
          have HC6 : Hid (Cur B w0 W5 W.heap.size a len cap ((10 + 4 * (41 - k)) + 4) ∧ Only W.heap.size wr W5) := ⟨hc5, HC4.out.2.trans ho5⟩
          clear hc5 ho5 HC4
          obtain ⟨z, hz⟩ : ∃ z, z = (from' + r) % 64 := ⟨_, rfl⟩
          have htm : (from' + r).tmod 64 = z := by rw [hz]; exact Int.tmod_eq_emod_of_nonneg (by omega)
          have HZ : Hid (seqB z = true) := by rw [hz]; exact seqB_mod _
          clear hz
          have HO6 : Hid (Own W5 (W.heap.size + 1) (.slice a3 l.length c3) l) := rowOnly HG.out.own HC6.out.2 (by omega)
          have hw6 : W.heap.size + 1 ≤ W5.heap.size := HC6.out.1.2.1
          have HSQ : Hid (∀ z ∈ l, seqB z = true) := HG.out.seqs
          have HAP : Hid (∀ ty, ∃ v' w', (Builtin.append_ #[27, 27] ty #[.slice a3 l.length c3, .slice (some ⟨W5.heap.size, 0, none⟩) 1 1]).run Try.prog (W5.alloc (.cells #[.int .i64 z] 3)) = .ok v' w' ∧ Grown (W5.alloc (.cells #[.int .i64 z] 3)) (W.heap.size + 1) 3 1 (.slice a3 l.length c3) (l ++ [z]).length ((l ++ [z]).map (Value.int .i64)) v' w') := fun ty =>
            run_app1 _ _ _ l (HO6.out.below ((Below.refl _ _).alloc (Nat.le_refl _) _)) W5.heap.size 1 z (new_cell _ _ _) (by omega) (by simp; omega) ty
          clear HG HCU
          go_wp2_with (at_builtin; refine list_app (by rfl) (.tmp 25) (.tmp 31) 27 (by rfl) (.slice a3 l.length c3) (.slice (some ⟨W5.heap.size, 0, none⟩) 1 1) (by rfl) (by rfl) _ HAP.out ?_; intro v7 w7 hg7; have HF : Hid (Rg B w0 W.heap.size a len cap v7 (l ++ [z]) (k - 1) w7) := rg_add HSQ.out HZ.out hkl hk HC6.out.1 hg7; clear hg7)
          go_roundw
          case rel => exact ⟨_, k - 1, by go_num, HF.out⟩
          case measure => simp [intOf]; omega
        | false =>
          go_wp2_with fail
          refine (pick_any B w0 _ _ a len cap ((10 + 4 * (41 - k)) + 2) 64 HD.out hl (by omega) HC4.out.1 (by omega) (by omega)).mono ?_
          rintro e W5 ⟨r, rfl, r0, r1, hc5, ho5⟩
          have HC6 : Hid (Cur B w0 W5 W.heap.size a len cap ((10 + 4 * (41 - k)) + 4) ∧ Only W.heap.size wr W5) := ⟨hc5, HC4.out.2.trans ho5⟩
          clear hc5 ho5 HC4
          have HZ : Hid (seqB r = true) := seqB_iff.2 (by omega)
          have HO6 : Hid (Own W5 (W.heap.size + 1) (.slice a3 l.length c3) l) := rowOnly HG.out.own HC6.out.2 (by omega)
          have hw6 : W.heap.size + 1 ≤ W5.heap.size := HC6.out.1.2.1
          have HSQ : Hid (∀ z ∈ l, seqB z = true) := HG.out.seqs
          have HAP : Hid (∀ ty, ∃ v' w', (Builtin.append_ #[27, 27] ty #[.slice a3 l.length c3, .slice (some ⟨W5.heap.size, 0, none⟩) 1 1]).run Try.prog (W5.alloc (.cells #[.int .i64 r] 3)) = .ok v' w' ∧ Grown (W5.alloc (.cells #[.int .i64 r] 3)) (W.heap.size + 1) 3 1 (.slice a3 l.length c3) (l ++ [r]).length ((l ++ [r]).map (Value.int .i64)) v' w') := fun ty =>
            run_app1 _ _ _ l (HO6.out.below ((Below.refl _ _).alloc (Nat.le_refl _) _)) W5.heap.size 1 r (new_cell _ _ _) (by omega) (by simp; omega) ty
          clear HG HCU
          go_wp2_with (at_builtin; refine list_app (by rfl) (.tmp 33) (.tmp 36) 27 (by rfl) (.slice a3 l.length c3) (.slice (some ⟨W5.heap.size, 0, none⟩) 1 1) (by rfl) (by rfl) _ HAP.out ?_; intro v7 w7 hg7; have HF : Hid (Rg B w0 W.heap.size a len cap v7 (l ++ [r]) (k - 1) w7) := rg_add HSQ.out HZ.out hkl hk HC6.out.1 hg7; clear hg7)
          go_roundw
          case rel => exact ⟨_, k - 1, by go_num, HF.out⟩
          case measure => simp [intOf]; omega
      · have hk' : ¬ 0 < (k : Int) := by omega
        have HF : Hid (Rg B w0 W.heap.size a len cap (.slice a3 l.length c3) l k wr) := HG.out
        clear HG
        go_wp2
        go_ret
        exact ⟨_, l, rfl, rowMono HF.out.own (Nat.le_succ _), by omega, HF.out.seqs, HF.out.cur.2.2.1⟩
end Go.Proofs.Ythdcfeafkellcab
