/-
  What the laws' 'eqIntS', 'markIntS' and 'heldIntS' answer.
-/
import Derived.Test.YthlbmkefjjckaagInts
import Derived.Deep.RegionWith
import Derived.BigRegion
import Derived.BigQuiet
import Derived.Deep.QuietTactic
namespace Go.Proofs.Ythlbmkefjjckaag
open Go.RowKit

/-- The slice v reads as the numbers zs. -/
def Reads (W : World) (v : Value) (zs : List Int) : Prop :=
  ∃ (a : Option Addr) (cap : Nat), v = .slice a zs.length cap ∧ (zs = [] ∨ ∃ g off, a = some ⟨g, off, none⟩ ∧ g < W.heap.size ∧ ∀ j (hj : j < zs.length), W.cell? ⟨g, off + j, none⟩ = some (.int .i64 zs[j]))
theorem Own.reads {W : World} {B : Nat} {v : Value} {zs : List Int} (h : Own W B v zs) : Reads W v zs := by
  obtain ⟨a, cap, hv, hc⟩ := h.form
  refine ⟨a, cap, hv, hc.imp id ?_⟩
  rintro ⟨g, ha, -, hg, hcell, -⟩
  exact ⟨g, 0, ha, hg, fun j hj => by rw [Nat.zero_add]; exact hcell j hj⟩
/-- A store below the rows. -/
theorem Own.setCell {W : World} {B : Nat} {v : Value} {zs : List Int} (h : Own W B v zs) {p : Addr} (hp : p.block < B) (u : Value) : Own (W.setCell p u) B v zs := by
  refine ⟨h.1, ?_⟩
  rcases h.2 with hn | ⟨g, cap, cur, hv, h1, hg, hrest⟩
  · exact .inl hn
  · exact .inr ⟨g, cap, cur, hv, h1, (Below.heap_setCell _ _ _ _ (by omega)).trans hg, hrest⟩
theorem Own.shape {W : World} {B : Nat} {v : Value} {zs : List Int} (h : Own W B v zs) : ∃ a cap, v = .slice a zs.length cap := by obtain ⟨a, cap, hv, -⟩ := h.form; exact ⟨a, cap, hv⟩
theorem Reads.shape {W : World} {v : Value} {zs : List Int} (h : Reads W v zs) : ∃ a cap, v = .slice a zs.length cap := by obtain ⟨a, cap, hv, -⟩ := h; exact ⟨a, cap, hv⟩
theorem Reads.below {W W' : World} {v : Value} {zs : List Int} (h : Reads W v zs) (hb : Below W.heap.size W W') : Reads W' v zs := by
  obtain ⟨a, cap, hv, hc⟩ := h
  refine ⟨a, cap, hv, hc.imp id ?_⟩
  rintro ⟨g, off, ha, hg, hcell⟩
  exact ⟨g, off, ha, Nat.lt_of_lt_of_le hg hb.size, fun j hj => (hb.cell (p := ⟨g, off + j, none⟩) hg).trans (hcell j hj)⟩

set_option maxRecDepth 100000 in
set_option maxHeartbeats 1000000 in
/-- Two slices of the same numbers. -/
theorem eqInts_same (W : World) (v1 v2 : Value) (zs : List Int) (h1 : Reads W v1 zs) (h2 : Reads W v2 zs) (hl : zs.length ≤ 4194304) :
    Calls Try.prog 12 #[v1, v2] W fun e W' => e = .returned (.bool true) ∧ ∃ n, W' = W.drewN n := by
  obtain ⟨a1, cap1, rfl, hc1⟩ := h1
  obtain ⟨a2, cap2, rfl, hc2⟩ := h2
  rcases hc1 with rfl | ⟨g1, o1, rfl, -, hc1⟩
  · simp only [List.length_nil]
    clear hc2
    go_enter Try.func12, Try.ntmps12
    go_wp2
    refine wp_loop_rounds 1 ?_
    rw [rounds_succ]
    go_wp2
    go_ret
    exact ⟨rfl, 0, rfl⟩
  · rcases hc2 with rfl | ⟨g2, o2, rfl, -, hc2⟩
    · simp only [List.length_nil]
      clear hc1
      go_enter Try.func12, Try.ntmps12
      go_wp2
      refine wp_loop_rounds 1 ?_
      rw [rounds_succ]
      go_wp2
      go_ret
      exact ⟨rfl, 0, rfl⟩
    · have HC1 : Hid (∀ j (hj : j < zs.length), W.cell? ⟨g1, o1 + j, none⟩ = some (.int .i64 zs[j])) := hc1
      have HC2 : Hid (∀ j (hj : j < zs.length), W.cell? ⟨g2, o2 + j, none⟩ = some (.int .i64 zs[j])) := hc2
      clear hc1 hc2
      go_enter Try.func12, Try.ntmps12
      go_wp2
      go_loopw [5] (fun i wr => ∃ k : Nat, k ≤ zs.length ∧ i = .int .i64 k ∧ ∃ n, wr = W.drewN n) (fun i _ => zs.length - (intOf i).toNat)
      case atStart => exact ⟨0, Nat.zero_le _, rfl, 0, rfl⟩
      case round =>
        obtain ⟨k, hk, rfl, n, rfl⟩ := hrel
        by_cases hlt : k < zs.length
        · have c1 : W.cell? ⟨g1, o1 + k, none⟩ = some (.int .i64 zs[k]) := HC1.out k hlt
          have c2 : W.cell? ⟨g2, o2 + k, none⟩ = some (.int .i64 zs[k]) := HC2.out k hlt
          generalize zs[k] = z at c1 c2
          have hlt' : (k : Int) < (zs.length : Int) := by omega
          go_wp2
          go_quiet (fail)
          go_wp2
          go_roundw
          case rel => exact ⟨k + 1, by omega, by go_num, _, rfl⟩
          case measure => simp [intOf]; omega
        · go_wp2
          go_ret
          exact ⟨rfl, _, rfl⟩

/-- Numbers that rise by one from k on. -/
def marks (k : Int) (n : Nat) : List Int := (List.range n).map fun j : Nat => k + (j : Int)
theorem marks_len (k : Int) (n : Nat) : (marks k n).length = n := by simp [marks]
theorem marks_get (k : Int) (n j : Nat) (h : j < (marks k n).length) : (marks k n)[j] = k + (j : Int) := by simp [marks]

set_option maxRecDepth 100000 in
set_option maxHeartbeats 1000000 in
theorem heldInts_yes (W : World) (v : Value) (k0 : Int) (n : Nat) (h1 : Reads W v (marks k0 n)) (hl : n ≤ 4194304) (hk0 : 0 ≤ k0) (hk1 : k0 ≤ 1000000000) :
    Calls Try.prog 56 #[v, .int .i64 k0] W fun e W' => e = .returned (.int .i64 (k0 + n)) ∧ W' = W := by
  obtain ⟨a1, cap1, rfl, hc1⟩ := h1
  rw [marks_len]
  by_cases hn : n = 0
  · subst hn
    clear hc1
    go_enter Try.func56, Try.ntmps56
    go_wp2
    refine wp_loop_rounds 1 ?_
    rw [rounds_succ]
    go_wp2
    go_ret
    exact ⟨by simp, rfl⟩
  · rcases hc1 with h | ⟨g1, o1, rfl, -, hc1⟩
    · exact absurd (by rw [← marks_len k0 n, h]; rfl) hn
    · have HC1 : Hid (∀ j (hj : j < (marks k0 n).length), W.cell? ⟨g1, o1 + j, none⟩ = some (.int .i64 (marks k0 n)[j])) := hc1
      clear hc1 hn
      go_enter Try.func56, Try.ntmps56
      go_wp2
      go_loop [1, 5] (fun x i => ∃ k : Nat, k ≤ n ∧ i = .int .i64 k ∧ x = .int .i64 (k0 + (k : Int))) (fun _ i => n - (intOf i).toNat)
      case atStart => exact ⟨0, Nat.zero_le _, rfl, by simp⟩
      case round =>
        obtain ⟨k, hk, rfl, rfl⟩ := hrel
        by_cases hlt : k < n
        · have c1 : W.cell? ⟨g1, o1 + k, none⟩ = some (.int .i64 (k0 + (k : Int))) := by rw [HC1.out k (by rw [marks_len]; exact hlt), marks_get]
          have hlt' : (k : Int) < (n : Int) := by omega
          go_wp2
          go_round
          case rel => exact ⟨k + 1, by omega, by go_num, by go_num⟩
          case measure => simp [intOf]; omega
        · have e : k = n := by omega
          subst e
          go_wp2
          go_ret
          exact ⟨rfl, rfl⟩

/-- The numbers of which the first i are marks. -/
def marked (k0 : Int) (zs : List Int) (i : Nat) : List Int := marks k0 i ++ zs.drop i
theorem marked_len (k0 : Int) (zs : List Int) (i : Nat) (h : i ≤ zs.length) : (marked k0 zs i).length = zs.length := by simp [marked, marks_len]; omega
theorem marked_next (k0 : Int) (zs : List Int) (i : Nat) (h : i < zs.length) : marked k0 zs (i + 1) = (marked k0 zs i).set i (k0 + (i : Int)) := by
  unfold marked
  have e : zs.drop i = zs[i] :: zs.drop (i + 1) := List.drop_eq_getElem_cons h
  rw [List.set_append_right _ _ (by rw [marks_len]; exact Nat.le_refl _), marks_len, Nat.sub_self, e, List.set_cons_zero]
  simp [marks, List.range_succ]
theorem marked_all (k0 : Int) (zs : List Int) : marked k0 zs zs.length = marks k0 zs.length := by simp [marked]

theorem Own.set {W : World} {B : Nat} {zs : List Int} {g cap : Nat} (h : Own W B (.slice (some ⟨g, 0, none⟩) zs.length cap) zs) (j : Nat) (z : Int) :
    Own (W.setCell ⟨g, j, none⟩ (.int .i64 z)) B (.slice (some ⟨g, 0, none⟩) zs.length cap) (zs.set j z) := by
  have := (World.ownsRow.stored h j (.int .i64 z)).1
  unfold Own
  rw [List.length_set, List.map_set]
  exact this

set_option maxRecDepth 100000 in
set_option maxHeartbeats 1000000 in
theorem markInts_any (W : World) (B : Nat) (v : Value) (k0 : Int) (zs : List Int) (h : Own W B v zs) (hl : zs.length ≤ 4194304) (hk0 : 0 ≤ k0) (hk1 : k0 ≤ 1000000000) :
    Calls Try.prog 16 #[v, .int .i64 k0] W fun e W' => e = .returned (.int .i64 (k0 + zs.length)) ∧ Own W' B v (marks k0 zs.length) ∧ W'.heap.size = W.heap.size ∧ W.grownBy W' v.ownBlock := by
  obtain ⟨a1, cap1, rfl, hc1⟩ := h.form
  rcases hc1 with rfl | ⟨g, rfl, hB, hg, hcell, hfz⟩
  · have HO : Hid (Own W B (.slice a1 0 cap1) []) := h
    simp only [List.length_nil]
    clear h
    go_enter Try.func16, Try.ntmps16
    go_wp2
    refine wp_loop_rounds 1 ?_
    rw [rounds_succ]
    go_wp2
    go_ret
    exact ⟨by simp, by simpa [marks] using HO.out, rfl, rfl, rfl, rfl, Nat.le_refl _, fun _ _ _ => rfl⟩
  · clear hcell hfz
    have HO : Hid (Own W B (.slice (some ⟨g, 0, none⟩) zs.length cap1) zs) := h
    clear h
    go_enter Try.func16, Try.ntmps16
    go_wp2
    go_loopw [1, 5] (fun x i wr => ∃ k : Nat, k ≤ zs.length ∧ i = .int .i64 k ∧ x = .int .i64 (k0 + (k : Int)) ∧ Own wr B (.slice (some ⟨g, 0, none⟩) zs.length cap1) (marked k0 zs k) ∧ wr.heap.size = W.heap.size ∧ W.grownBy wr (some g)) (fun _ i _ => zs.length - (intOf i).toNat)
    case atStart => exact ⟨0, Nat.zero_le _, rfl, by simp, by simpa [marked, marks] using HO.out, rfl, rfl, rfl, rfl, Nat.le_refl _, fun _ _ _ => rfl⟩
    case round =>
      obtain ⟨k, hk, rfl, rfl, hown, hsz, hgr⟩ := hrel
      by_cases hlt : k < zs.length
      · have hl2 := marked_len k0 zs k hk
        have hown2 : Own wr B (.slice (some ⟨g, 0, none⟩) (marked k0 zs k).length cap1) (marked k0 zs k) := by rw [hl2]; exact hown
        obtain ⟨c0, hcell⟩ : ∃ c0, wr.cell? ⟨g, k, none⟩ = some c0 := ⟨_, by rw [World.ownsRow.cellAt hown2 k (by omega)]; exact List.getElem?_eq_getElem (by simp; omega)⟩
        have hfz : wr.frozen? ⟨g, k, none⟩ = false := World.ownsRow.frozenAt hown2 k
        have HO1 : Hid (Own (wr.setCell ⟨g, k, none⟩ (.int .i64 (k0 + (k : Int)))) B (.slice (some ⟨g, 0, none⟩) zs.length cap1) (marked k0 zs (k + 1))) := by
          have := hown2.set k (k0 + (k : Int))
          rw [← marked_next k0 zs k hlt, hl2] at this
          exact this
        have HZ1 : Hid ((wr.setCell ⟨g, k, none⟩ (.int .i64 (k0 + (k : Int)))).heap.size = W.heap.size) := by show _ = _; rw [← hsz]; simp [World.setCell]
        have HG1 : Hid (W.grownBy (wr.setCell ⟨g, k, none⟩ (.int .i64 (k0 + (k : Int)))) (some g)) :=
          ⟨hgr.os, hgr.tape, hgr.output, by rw [HZ1.out]; exact Nat.le_refl _, fun j hj hne => (Below.heap_setCell _ _ _ _ (fun e => hne (by rw [e]))).trans (hgr.block j hj hne)⟩
        have hlt' : (k : Int) < (zs.length : Int) := by omega
        clear hown hown2 hgr hsz hl2
        go_wp2
        go_roundw
        case rel => exact ⟨k + 1, by omega, by go_num, by go_num, HO1.out, HZ1.out, HG1.out⟩
        case measure => simp [intOf]; omega
      · have e : k = zs.length := by omega
        have HO1 : Hid (Own wr B (.slice (some ⟨g, 0, none⟩) zs.length cap1) (marks k0 zs.length)) := by rw [← marked_all k0 zs]; rw [e] at hown; exact hown
        have HZ1 : Hid (wr.heap.size = W.heap.size) := hsz
        subst e
        clear hown hsz
        go_wp2
        go_ret
        exact ⟨rfl, HO1.out, HZ1.out, hgr⟩
end Go.Proofs.Ythlbmkefjjckaag
