/-
  What the laws' functions over lists of hellos answer: 'szHelloS', 'toHelloS', 'eqHelloS', 'markHelloS', 'heldHelloS'.
-/
import Derived.Test.YtchddjidjfpehatHellos
namespace Go.Proofs.Ytchddjidjfpehat
open Go.RowKit

theorem szHellos_any (W : World) (v : Value) (hs : List HD) (left : Int) (h : ReadsH W v hs) (hl : hs.length ≤ maxLen) (h0 : 0 ≤ left) (h1 : left ≤ 1048576) :
    Calls Try.prog 42 #[v, .int .i64 left] W fun e W' => e = .returned (.int .i64 (if (hs.length : Int) ≤ left then left - hs.length else -1)) ∧ W' = W := by
  obtain ⟨a1, c1, rfl⟩ := h.shape
  unfold maxLen at hl
  clear h
  by_cases hle : (hs.length : Int) ≤ left
  · rw [if_pos hle]
    have e : ¬ (left - (hs.length : Int) < 0) := by omega
    go_enter Try.func42, Try.ntmps42
    go_wp2
    go_ret
    exact ⟨rfl, rfl⟩
  · rw [if_neg hle]
    have e : left - (hs.length : Int) < 0 := by omega
    go_enter Try.func42, Try.ntmps42
    go_wp2
    go_ret
    exact ⟨rfl, rfl⟩

theorem toHello_any (W : World) (x : HD) : Calls Try.prog 56 #[.agg #[.int .i64 x.f, .bool x.h]] W fun e W' => e = .returned (.agg #[.int .i64 x.f, .bool x.h]) ∧ Below W.heap.size W W' := by
  go_enter Try.func56, Try.ntmps56
  go_wp2
  refine bodyPost_ret (v := .agg #[.int .i64 x.f, .bool x.h]) (by simp [results, Try.results56, go_sem]) rfl ⟨rfl, ?_⟩
  exact (((Below.refl _ W).alloc (Nat.le_refl _) _).alloc (by simp) _).alloc (by simp; omega) _

def noH : HD := ⟨0, false⟩
theorem made_hellos : ∀ n : Nat, (madeCells #[.int .i64 0, .bool false] (n * 2)).toList = cellsH (List.replicate n noH)
  | 0 => by simp [madeCells, cellsH]
  | n + 1 => by
    have e : (n + 1) * 2 = n * 2 + 1 + 1 := by omega
    have ih := made_hellos n
    have m0 : n * 2 % 2 = 0 := by omega
    have m1 : (n * 2 + 1) % 2 = 1 := by omega
    rw [List.replicate_succ', cellsH_app, ← ih, e]
    unfold madeCells
    simp [Array.range_succ, cellsH, m0, m1, noH]

theorem make_hellos (n : Nat) (hn : n ≤ 4194304) (w : World) : ∃ W1 : World,
    (Instr.makeSlice 23 (.int .i64 (n : Int)) (.int .i64 (n : Int))).run Try.prog w = .ok (.slice (some ⟨w.heap.size, 0, none⟩) n n) W1 ∧
    OwnH W1 w.heap.size (.slice (some ⟨w.heap.size, 0, none⟩) n n) (List.replicate n noH) ∧ Below w.heap.size w W1 ∧ w.heap.size < W1.heap.size := by
  obtain ⟨i0, hi, hz0, hz1, hz2⟩ := info_parts infoH
  obtain ⟨w', hr, ho, hg⟩ := run_make_full (P := Try.prog) w w.heap.size 23 66 i0 _ 2 Try.underlying23 hi hz0 hz1 .i64 .i64 n (by rw [hz2]; omega) (by unfold maxLen; omega) (Nat.le_refl _)
  have hlt := (World.ownsRow.lt ho w.heap.size rfl).2
  refine ⟨w', hr, ?_, (Below.refl _ w).grown hg (Nat.le_refl _) (fun k hk => by cases hk), hlt⟩
  unfold OwnH
  rw [List.length_replicate]
  rw [show (Value.agg #[Value.int IntKind.i64 0, Value.bool false]).cells = #[.int .i64 0, .bool false] from rfl, made_hellos] at ho
  exact ho

/-- The list of which the first k are copied. -/
theorem to_next (hs : List HD) (k : Nat) (h : k < hs.length) : hs.take (k + 1) ++ List.replicate (hs.length - (k + 1)) noH = (hs.take k ++ List.replicate (hs.length - k) noH).set k hs[k] := by
  have e : hs.length - k = (hs.length - (k + 1)) + 1 := by omega
  rw [e, List.replicate_succ, List.set_append_right _ _ (by simp; omega), List.take_succ_eq_append_getElem h]
  have e2 : k - (hs.take k).length = 0 := by simp; omega
  rw [e2, List.set_cons_zero, List.append_assoc]
  rfl

/-- A store of a whole hello. -/
theorem OwnH.set {W : World} {B g cap : Nat} {hs : List HD} (h : OwnH W B (.slice (some ⟨g, 0, none⟩) hs.length cap) hs) (i : Nat) (hi : i < hs.length) (x : HD) :
    OwnH ((W.setCell ⟨g, i * 2, none⟩ (.int .i64 x.f)).setCell ⟨g, i * 2 + 1, none⟩ (.bool x.h)) B (.slice (some ⟨g, 0, none⟩) hs.length cap) (hs.set i x) := by
  have h1 := (World.ownsRow.stored h (i * 2) (.int .i64 x.f)).1
  have h2 := (World.ownsRow.stored h1 (i * 2 + 1) (.bool x.h)).1
  have e1 := cellsH_setF hs i x.f hi
  have e2 := cellsH_setH (hs.set i ⟨x.f, hs[i].h⟩) i x.h (by simpa using hi)
  rw [List.getElem_set_self, List.set_set, e1] at e2
  unfold OwnH
  rw [List.length_set, e2]
  exact h2

set_option maxRecDepth 100000 in
set_option maxHeartbeats 2000000 in
theorem toHellos_any (W : World) (v : Value) (hs : List HD) (h : ReadsH W v hs) (hl : hs.length ≤ 4194304) :
    Calls Try.prog 45 #[v] W fun e W' => ∃ v', e = .returned v' ∧ OwnH W' W.heap.size v' hs ∧ Below W.heap.size W W' := by
  obtain ⟨a1, cap1, rfl, hc1⟩ := h
  obtain ⟨W1, hmake, ho, hb, hlt⟩ := make_hellos hs.length hl W
  obtain ⟨H, hH⟩ : ∃ H, H = W.heap.size := ⟨_, rfl⟩
  rw [← hH] at hmake ho hb hlt ⊢
  have HB : Hid (Below H W W1) := hb
  have HO : Hid (OwnH W1 H (.slice (some ⟨H, 0, none⟩) hs.length hs.length) (List.replicate hs.length noH)) := ho
  have HHW : Hid (H = W.heap.size) := hH
  have HLT : Hid (H < W1.heap.size) := hlt
  clear ho hb hH hlt
  rcases hc1 with rfl | ⟨g1, o1, rfl, hg1, hc1⟩
  · simp only [List.length_nil] at HO ⊢
    have hm0 : (Instr.makeSlice 23 (.int .i64 0) (.int .i64 0)).run Try.prog W = .ok (.slice (some ⟨H, 0, none⟩) 0 0) W1 := hmake
    clear hmake
    go_enter Try.func45, Try.ntmps45
    go_wp2
    refine wp_loop_rounds 1 ?_
    rw [rounds_succ]
    go_wp2
    go_ret
    exact ⟨_, rfl, HO.out, HB.out⟩
  · have HC1 : Hid (∀ wr, Below H W wr → ∀ j (hj : j < hs.length), HelloAt wr g1 (o1 + j * 2) hs[j]) := fun wr hS j hj => (hc1 j hj).below hg1 (by rw [← HHW.out]; exact hS)
    clear hc1
    go_enter Try.func45, Try.ntmps45
    go_wp2
    go_loopw [4] (fun i wr => ∃ k : Nat, k ≤ hs.length ∧ i = .int .i64 k ∧ Hid (OwnH wr H (.slice (some ⟨H, 0, none⟩) hs.length hs.length) (hs.take k ++ List.replicate (hs.length - k) noH) ∧ Below H W wr ∧ H < wr.heap.size)) (fun i _ => hs.length - (intOf i).toNat)
    case atStart => exact ⟨0, Nat.zero_le _, rfl, by simpa using HO.out, HB.out, HLT.out⟩
    case round =>
      obtain ⟨k, hk, rfl, HK⟩ := hrel
      by_cases hlt2 : k < hs.length
      · obtain ⟨hown, hbr, hHr⟩ := HK.out
        obtain ⟨q0, q1⟩ := HC1.out wr hbr k hlt2
        have HNX : Hid (hs.take (k + 1) ++ List.replicate (hs.length - (k + 1)) noH = (hs.take k ++ List.replicate (hs.length - k) noH).set k hs[k]) := to_next hs k hlt2
        have hlt' : (k : Int) < (hs.length : Int) := by omega
        have HLQ : Hid ((hs.take k ++ List.replicate (hs.length - k) noH).length = hs.length) := by show _ = _; simp; omega
        generalize hs[k] = x at *
        have HOW : Hid (OwnH wr H (.slice (some ⟨H, 0, none⟩) hs.length hs.length) (hs.take k ++ List.replicate (hs.length - k) noH)) := hown
        have HBR : Hid (Below H W wr) := hbr
        have HHR : Hid (H < wr.heap.size) := hHr
        clear hown hbr hHr HK
        go_wp2_with fail
        refine (toHello_any _ x).mono ?_
        rintro e w2 ⟨rfl, hb2⟩
        have hO2 := HOW.out.below hb2
        generalize hs.take k ++ List.replicate (hs.length - k) noH = qs at *
        have hql := HLQ.out
        have hO3 : OwnH w2 H (.slice (some ⟨H, 0, none⟩) qs.length hs.length) qs := by rw [hql]; exact hO2
        have z0 : ∀ j, j < hs.length * 2 → ∃ c, w2.cell? ⟨H, j, none⟩ = some c := fun j hj => ⟨_, by rw [World.ownsRow.cellAt hO3 j (by omega)]; exact List.getElem?_eq_getElem (by rw [cellsH_len]; omega)⟩
        obtain ⟨d0, f0⟩ := z0 (k * 2) (by omega)
        obtain ⟨d1, f1⟩ := z0 (k * 2 + 1) (by omega)
        have fz0 := World.ownsRow.frozenAt hO3 (k * 2)
        have fz1 := World.ownsRow.frozenAt hO3 (k * 2 + 1)
        have HON : Hid (OwnH ((w2.setCell ⟨H, k * 2, none⟩ (.int .i64 x.f)).setCell ⟨H, k * 2 + 1, none⟩ (.bool x.h)) H (.slice (some ⟨H, 0, none⟩) hs.length hs.length) (qs.set k x)) := by
          have := hO3.set k (by omega) x
          rw [hql] at this
          exact this
        have HBN : Hid (Below H W ((w2.setCell ⟨H, k * 2, none⟩ (.int .i64 x.f)).setCell ⟨H, k * 2 + 1, none⟩ (.bool x.h))) :=
          ((HBR.out.trans (hb2.mono (Nat.le_of_lt HHR.out))).setCell (Nat.le_refl _) _).setCell (Nat.le_refl _) _
        have HHN : Hid (H < ((w2.setCell ⟨H, k * 2, none⟩ (.int .i64 x.f)).setCell ⟨H, k * 2 + 1, none⟩ (.bool x.h)).heap.size) := by
          have := Nat.lt_of_lt_of_le HHR.out hb2.size
          show _ < _
          simpa [World.setCell] using this
        clear hb2 hO2 hO3 z0 HOW hql
        go_wp2
        go_roundw
        case rel => exact ⟨k + 1, by omega, by go_num, by rw [HNX.out]; exact HON.out, HBN.out, HHN.out⟩
        case measure => simp [intOf]; omega
      · have hlt' : ¬ (k : Int) < (hs.length : Int) := by omega
        have e : k = hs.length := by omega
        subst e
        have HFIN : Hid (OwnH wr H (.slice (some ⟨H, 0, none⟩) hs.length hs.length) hs ∧ Below H W wr) := by
          obtain ⟨hown, hbr, -⟩ := HK.out
          exact ⟨by simpa using hown, hbr⟩
        clear HK
        go_wp2
        go_ret
        exact ⟨_, rfl, HFIN.out.1, HFIN.out.2⟩

theorem eqHello_same (W : World) (x : HD) : Calls Try.prog 55 #[.agg #[.int .i64 x.f, .bool x.h], .agg #[.int .i64 x.f, .bool x.h]] W fun e W' => e = .returned (.bool true) ∧ Below W.heap.size W W' := by
  go_enter Try.func55, Try.ntmps55
  go_wp2
  go_ret
  exact ⟨rfl, ((Below.refl _ W).alloc (Nat.le_refl _) _).alloc (by simp) _⟩

set_option maxRecDepth 100000 in
set_option maxHeartbeats 2000000 in
theorem eqHellos_same (W : World) (v1 v2 : Value) (hs : List HD) (h1 : ReadsH W v1 hs) (h2 : ReadsH W v2 hs) (hl : hs.length ≤ 4194304) :
    Calls Try.prog 36 #[v1, v2] W fun e W' => e = .returned (.bool true) ∧ Below W.heap.size W W' := by
  obtain ⟨a1, cap1, rfl, hc1⟩ := h1
  obtain ⟨a2, cap2, rfl, hc2⟩ := h2
  by_cases hz : hs = []
  · subst hz
    simp only [List.length_nil]
    clear hc1 hc2
    go_enter Try.func36, Try.ntmps36
    go_wp2
    refine wp_loop_rounds 1 ?_
    rw [rounds_succ]
    go_wp2
    go_ret
    exact ⟨rfl, Below.refl _ _⟩
  · obtain ⟨g1, o1, rfl, hg1, hc1⟩ := hc1.resolve_left hz
    obtain ⟨g2, o2, rfl, hg2, hc2⟩ := hc2.resolve_left hz
    have HC1 : Hid (∀ W1, Since W.heap.size W W1 → ∀ j (hj : j < hs.length), HelloAt W1 g1 (o1 + j * 2) hs[j]) := fun W1 hS j hj => (hc1 j hj).below hg1 hS.1
    have HC2 : Hid (∀ W1, Since W.heap.size W W1 → ∀ j (hj : j < hs.length), HelloAt W1 g2 (o2 + j * 2) hs[j]) := fun W1 hS j hj => (hc2 j hj).below hg2 hS.1
    have HS0 : Hid (Since W.heap.size W W) := Since.start W
    clear hc1 hc2 hz
    go_enter Try.func36, Try.ntmps36
    go_wp2
    go_loopw [5] (fun i wr => ∃ k : Nat, k ≤ hs.length ∧ i = .int .i64 k ∧ Hid (Since W.heap.size W wr)) (fun i _ => hs.length - (intOf i).toNat)
    case atStart => exact ⟨0, Nat.zero_le _, rfl, HS0⟩
    case round =>
      obtain ⟨k, hk, rfl, HS⟩ := hrel
      by_cases hlt : k < hs.length
      · obtain ⟨q0, q1⟩ := HC1.out wr HS.out k hlt
        obtain ⟨r0, r1⟩ := HC2.out wr HS.out k hlt
        have hlt' : (k : Int) < (hs.length : Int) := by omega
        generalize hs[k] = x at *
        go_wp2
        go_region_with (go_at_call 55; refine (eqHello_same _ x).mono ?_; rintro e w1 ⟨rfl, hb⟩)
        all_goals
          have HS1 : Hid (Since W.heap.size W w1) := HS.out.drew.step hb
          clear hb
          go_wp2
          go_roundw
          case rel => exact ⟨k + 1, by omega, by go_num, HS1⟩
          case measure => simp [intOf]; omega
      · have hlt' : ¬ (k : Int) < (hs.length : Int) := by omega
        go_wp2
        go_ret
        exact ⟨rfl, HS.out.1⟩

/-- A hello with marks from k on; a list so. -/
def markH (k : Nat) : HD := ⟨(k : Int), decide ((k + 1) % 3 = 0)⟩
def marksH (k n : Nat) : List HD := (List.range n).map fun j => markH (k + 2 * j)
theorem marksH_len (k n : Nat) : (marksH k n).length = n := by simp [marksH]
theorem marksH_get (k n j : Nat) (h : j < (marksH k n).length) : (marksH k n)[j] = markH (k + 2 * j) := by simp [marksH]
def markedH (k : Nat) (hs : List HD) (i : Nat) : List HD := marksH k i ++ hs.drop i
theorem markedH_len (k : Nat) (hs : List HD) (i : Nat) (h : i ≤ hs.length) : (markedH k hs i).length = hs.length := by simp [markedH, marksH_len]; omega
theorem markedH_next (k : Nat) (hs : List HD) (i : Nat) (h : i < hs.length) : markedH k hs (i + 1) = (markedH k hs i).set i (markH (k + 2 * i)) := by
  unfold markedH
  have e : hs.drop i = hs[i] :: hs.drop (i + 1) := List.drop_eq_getElem_cons h
  rw [List.set_append_right _ _ (by rw [marksH_len]; exact Nat.le_refl _), marksH_len, Nat.sub_self, e, List.set_cons_zero]
  simp [marksH, List.range_succ]
theorem markedH_all (k : Nat) (hs : List HD) : markedH k hs hs.length = marksH k hs.length := by simp [markedH]

theorem rem3 (k : Nat) : ((((k : Int) + 1) % 3 == 0) : Bool) = decide ((k + 1) % 3 = 0) := by
  rw [Bool.eq_iff_iff]
  simp
  omega

set_option maxRecDepth 100000 in
set_option maxHeartbeats 2000000 in
theorem markHellos_any (W : World) (B : Nat) (v : Value) (k0 : Nat) (hs : List HD) (h : OwnH W B v hs) (hl : hs.length ≤ 4194304) (hk1 : k0 ≤ 1000000000) :
    Calls Try.prog 38 #[v, .int .i64 (k0 : Int)] W fun e W' => e = .returned (.int .i64 ((k0 + 2 * hs.length : Nat) : Int)) ∧ OwnH W' B v (marksH k0 hs.length) ∧ W'.heap.size = W.heap.size ∧ W.grownBy W' v.ownBlock := by
  rcases h.2 with ⟨hv, hn⟩ | ⟨g, cap1, cur, hv, hB, hg, -⟩
  · obtain rfl : hs = [] := List.eq_nil_of_length_eq_zero hn
    subst hv
    have HO : Hid (OwnH W B (.slice none 0 0) []) := h
    clear h
    go_enter Try.func38, Try.ntmps38
    go_wp2
    refine wp_loop_rounds 1 ?_
    rw [rounds_succ]
    go_wp2
    go_ret
    exact ⟨by simp, by simpa [marksH] using HO.out, rfl, rfl, rfl, rfl, Nat.le_refl _, fun _ _ _ => rfl⟩
  · subst hv
    have HO : Hid (OwnH W B (.slice (some ⟨g, 0, none⟩) hs.length cap1) hs) := h
    clear h hg
    go_enter Try.func38, Try.ntmps38
    go_wp2
    go_loopw [1, 5] (fun x i wr => ∃ k : Nat, k ≤ hs.length ∧ i = .int .i64 k ∧ x = .int .i64 ((k0 : Int) + 2 * (k : Int)) ∧ Hid (OwnH wr B (.slice (some ⟨g, 0, none⟩) hs.length cap1) (markedH k0 hs k) ∧ wr.heap.size = W.heap.size ∧ W.grownBy wr (some g))) (fun _ i _ => hs.length - (intOf i).toNat)
    case atStart => exact ⟨0, Nat.zero_le _, rfl, by simp, by simpa [markedH, marksH] using HO.out, rfl, rfl, rfl, rfl, Nat.le_refl _, fun _ _ _ => rfl⟩
    case round =>
      obtain ⟨k, hk, rfl, rfl, HK⟩ := hrel
      by_cases hlt : k < hs.length
      · obtain ⟨hown, hsz, hgr⟩ := HK.out
        have hl2 := markedH_len k0 hs k hk
        have HNX : Hid (markedH k0 hs (k + 1) = (markedH k0 hs k).set k (markH (k0 + 2 * k))) := markedH_next k0 hs k hlt
        have hO3 : OwnH wr B (.slice (some ⟨g, 0, none⟩) (markedH k0 hs k).length cap1) (markedH k0 hs k) := by rw [hl2]; exact hown
        generalize markedH k0 hs k = qs at *
        obtain ⟨d0, f0⟩ : ∃ c, wr.cell? ⟨g, k * 2, none⟩ = some c := ⟨_, by rw [World.ownsRow.cellAt hO3 _ (by omega)]; exact List.getElem?_eq_getElem (by rw [cellsH_len]; omega)⟩
        obtain ⟨d1, f1⟩ : ∃ c, wr.cell? ⟨g, k * 2 + 1, none⟩ = some c := ⟨_, by rw [World.ownsRow.cellAt hO3 _ (by omega)]; exact List.getElem?_eq_getElem (by rw [cellsH_len]; omega)⟩
        have fz0 := World.ownsRow.frozenAt hO3 (k * 2)
        have fz1 := World.ownsRow.frozenAt hO3 (k * 2 + 1)
        have er : ((k0 : Int) + 2 * (k : Int)) = ((k0 + 2 * k : Nat) : Int) := by omega
        have hN := hO3.set k (by omega) (markH (k0 + 2 * k))
        rw [hl2] at hN
        rw [er]
        have hkb : k0 + 2 * k ≤ 1100000000 := by omega
        have HCC : Hid (k0 + 2 * k + 2 = k0 + 2 * (k + 1)) := by show _ = _; omega
        generalize k0 + 2 * k = c at *
        have HR3 : Hid (((((c : Int) + 1) % 3 == 0) : Bool) = decide ((c + 1) % 3 = 0)) := rem3 c
        have htm : ((c : Int) + 1).tmod 3 = ((c : Int) + 1) % 3 := Int.tmod_eq_emod_of_nonneg (by omega)
        have HN : Hid (OwnH ((wr.setCell ⟨g, k * 2, none⟩ (.int .i64 (c : Int))).setCell ⟨g, k * 2 + 1, none⟩ (.bool (((c : Int) + 1) % 3 == 0))) B (.slice (some ⟨g, 0, none⟩) hs.length cap1) (qs.set k (markH c))) := by
          show OwnH _ _ _ _
          rw [HR3.out]
          exact hN
        have HZ1 : Hid (((wr.setCell ⟨g, k * 2, none⟩ (.int .i64 (c : Int))).setCell ⟨g, k * 2 + 1, none⟩ (.bool (((c : Int) + 1) % 3 == 0))).heap.size = W.heap.size) := by show _ = _; rw [← hsz]; simp [World.setCell]
        have HG1 : Hid (W.grownBy ((wr.setCell ⟨g, k * 2, none⟩ (.int .i64 (c : Int))).setCell ⟨g, k * 2 + 1, none⟩ (.bool (((c : Int) + 1) % 3 == 0))) (some g)) :=
          ⟨hgr.os, hgr.tape, hgr.output, by rw [HZ1.out]; exact Nat.le_refl _, fun j hj hne => ((Below.heap_setCell _ _ _ _ (fun e => hne (by rw [e]))).trans (Below.heap_setCell _ _ _ _ (fun e => hne (by rw [e])))).trans (hgr.block j hj hne)⟩
        have hlt' : (k : Int) < (hs.length : Int) := by omega
        clear hown hO3 hgr hsz hl2 hN HK er
        go_wp2
        go_roundw
        case rel => exact ⟨k + 1, by omega, by go_num, by have := HCC.out; congr 1; omega, by rw [HNX.out]; exact HN.out, HZ1.out, HG1.out⟩
        case measure => simp [intOf]; omega
      · have e : k = hs.length := by omega
        have hlt' : ¬ (k : Int) < (hs.length : Int) := by omega
        have HF : Hid (OwnH wr B (.slice (some ⟨g, 0, none⟩) hs.length cap1) (marksH k0 hs.length) ∧ wr.heap.size = W.heap.size ∧ W.grownBy wr (some g)) := by
          have := HK.out
          rw [e, markedH_all] at this
          exact this
        clear HK
        go_wp2
        go_ret
        exact ⟨by congr 2, HF.out⟩

set_option maxRecDepth 100000 in
set_option maxHeartbeats 2000000 in
theorem heldHellos_yes (W : World) (v : Value) (k0 n : Nat) (h : ReadsH W v (marksH k0 n)) (hl : n ≤ 4194304) (hk1 : k0 ≤ 1000000000) :
    Calls Try.prog 40 #[v, .int .i64 (k0 : Int)] W fun e W' => e = .returned (.int .i64 ((k0 + 2 * n : Nat) : Int)) ∧ W' = W := by
  obtain ⟨a1, cap1, hv, hc1⟩ := h
  rw [marksH_len] at hv
  subst hv
  by_cases hn : n = 0
  · subst hn
    clear hc1
    go_enter Try.func40, Try.ntmps40
    go_wp2
    refine wp_loop_rounds 1 ?_
    rw [rounds_succ]
    go_wp2
    go_ret
    exact ⟨by simp, rfl⟩
  · obtain ⟨g1, o1, rfl, -, hc1⟩ := hc1.resolve_left (fun e => hn (by rw [← marksH_len k0 n, e]; rfl))
    have HC1 : Hid (∀ j, j < n → HelloAt W g1 (o1 + j * 2) (markH (k0 + 2 * j))) := fun j hj => by
      have := hc1 j (by rw [marksH_len]; exact hj)
      rw [marksH_get] at this
      exact this
    clear hc1 hn
    go_enter Try.func40, Try.ntmps40
    go_wp2
    go_loop [1, 5] (fun x i => ∃ k : Nat, k ≤ n ∧ i = .int .i64 k ∧ x = .int .i64 ((k0 : Int) + 2 * (k : Int))) (fun _ i => n - (intOf i).toNat)
    case atStart => exact ⟨0, Nat.zero_le _, rfl, by simp⟩
    case round =>
      obtain ⟨k, hk, rfl, rfl⟩ := hrel
      by_cases hlt : k < n
      · obtain ⟨q0, q1⟩ := HC1.out k hlt
        have er : ((k0 : Int) + 2 * (k : Int)) = ((k0 + 2 * k : Nat) : Int) := by omega
        rw [er]
        have hkb : k0 + 2 * k ≤ 1100000000 := by omega
        have HCC : Hid (k0 + 2 * k + 2 = k0 + 2 * (k + 1)) := by show _ = _; omega
        generalize k0 + 2 * k = c at *
        have q0' : W.cell? ⟨g1, o1 + k * 2, none⟩ = some (.int .i64 (c : Int)) := q0
        have q1' : W.cell? ⟨g1, o1 + k * 2 + 1, none⟩ = some (.bool (((c : Int) + 1) % 3 == 0)) := by rw [rem3 c]; exact q1
        have htm : ((c : Int) + 1).tmod 3 = ((c : Int) + 1) % 3 := Int.tmod_eq_emod_of_nonneg (by omega)
        have hlt' : (k : Int) < (n : Int) := by omega
        clear q0 q1 er
        go_wp2
        go_round
        case rel => exact ⟨k + 1, by omega, by go_num, by have := HCC.out; congr 1; omega⟩
        case measure => simp [intOf]; omega
      · have e : k = n := by omega
        have hlt' : ¬ (k : Int) < (n : Int) := by omega
        go_wp2
        go_ret
        exact ⟨by congr 2, rfl⟩
end Go.Proofs.Ytchddjidjfpehat
