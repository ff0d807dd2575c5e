/-
  Lists of bools: how they are read, and what the laws' 'eqBoolS', 'markBoolS', 'heldBoolS' answer.
-/
import Derived.Test.YtchddjidjfpehatPlay0
import Derived.BigQuiet
import Derived.Deep.QuietTactic
namespace Go.Proofs.Ytchddjidjfpehat
open Go.RowKit
set_option linter.unusedVariables false

/-- The slice v reads as the list bs. -/
def ReadsBo (W : World) (v : Value) (bs : List Bool) : Prop :=
  ∃ (a : Option Addr) (cap : Nat), v = .slice a bs.length cap ∧ (bs = [] ∨ ∃ g off, a = some ⟨g, off, none⟩ ∧ g < W.heap.size ∧ ∀ j (hj : j < bs.length), W.cell? ⟨g, off + j, none⟩ = some (.bool bs[j]))
theorem ReadsBo.below {W W' : World} {v : Value} {bs : List Bool} (h : ReadsBo W v bs) (hb : Below W.heap.size W W') : ReadsBo W' v bs := by
  obtain ⟨a, cap, hv, hc⟩ := h
  refine ⟨a, cap, hv, hc.imp id ?_⟩
  rintro ⟨g, off, ha, hg, hcell⟩
  exact ⟨g, off, ha, Nat.lt_of_lt_of_le hg hb.size, fun j hj => (hb.cell (p := ⟨g, off + j, none⟩) hg).trans (hcell j hj)⟩
theorem OwnB.reads {W : World} {B : Nat} {v : Value} {bs : List Bool} (h : OwnB W B v bs) : ReadsBo W v bs := by
  rcases h.2 with ⟨hv, hn⟩ | ⟨g, cap, cur, hv, hB, hg, -⟩
  · have e : bs = [] := List.eq_nil_of_length_eq_zero hn
    subst e
    exact ⟨none, 0, hv, .inl rfl⟩
  · refine ⟨_, cap, hv, .inr ⟨g, 0, rfl, (Array.getElem?_eq_some_iff.1 hg).1, fun j hj => ?_⟩⟩
    subst hv
    have := World.ownsRow.cellAt h j (by simpa using hj)
    rw [Nat.zero_add, this]
    simp [hj]

set_option maxRecDepth 100000 in
set_option maxHeartbeats 1000000 in
theorem eqBo_same (W : World) (v1 v2 : Value) (bs : List Bool) (h1 : ReadsBo W v1 bs) (h2 : ReadsBo W v2 bs) (hl : bs.length ≤ 4194304) :
    Calls Try.prog 25 #[v1, v2] W fun e W' => e = .returned (.bool true) ∧ ∃ n, W' = W.drewN n := by
  obtain ⟨a1, cap1, rfl, hc1⟩ := h1
  obtain ⟨a2, cap2, rfl, hc2⟩ := h2
  rcases hc1 with rfl | ⟨g1, o1, rfl, -, hc1⟩
  · simp only [List.length_nil]
    clear hc2
    go_enter Try.func25, Try.ntmps25
    go_wp2
    refine wp_loop_rounds 1 ?_
    rw [rounds_succ]
    go_wp2
    go_ret
    exact ⟨rfl, 0, rfl⟩
  · rcases hc2 with rfl | ⟨g2, o2, rfl, -, hc2⟩
    · simp only [List.length_nil]
      clear hc1
      go_enter Try.func25, Try.ntmps25
      go_wp2
      refine wp_loop_rounds 1 ?_
      rw [rounds_succ]
      go_wp2
      go_ret
      exact ⟨rfl, 0, rfl⟩
    · have HC1 : Hid (∀ j (hj : j < bs.length), W.cell? ⟨g1, o1 + j, none⟩ = some (.bool bs[j])) := hc1
      have HC2 : Hid (∀ j (hj : j < bs.length), W.cell? ⟨g2, o2 + j, none⟩ = some (.bool bs[j])) := hc2
      clear hc1 hc2
      go_enter Try.func25, Try.ntmps25
      go_wp2
      go_loopw [5] (fun i wr => ∃ k : Nat, k ≤ bs.length ∧ i = .int .i64 k ∧ ∃ n, wr = W.drewN n) (fun i _ => bs.length - (intOf i).toNat)
      case atStart => exact ⟨0, Nat.zero_le _, rfl, 0, rfl⟩
      case round =>
        obtain ⟨k, hk, rfl, n, rfl⟩ := hrel
        by_cases hlt : k < bs.length
        · have c1 : W.cell? ⟨g1, o1 + k, none⟩ = some (.bool bs[k]) := HC1.out k hlt
          have c2 : W.cell? ⟨g2, o2 + k, none⟩ = some (.bool bs[k]) := HC2.out k hlt
          generalize bs[k] = z at c1 c2
          have hlt' : (k : Int) < (bs.length : Int) := by omega
          go_wp2
          go_quiet (fail)
          go_wp2
          go_roundw
          case rel => exact ⟨k + 1, by omega, by go_num, _, rfl⟩
          case measure => simp [intOf]; omega
        · go_wp2
          go_ret
          exact ⟨rfl, _, rfl⟩

/-- The marks from k on. -/
def mkB (k : Nat) : Bool := decide (k % 3 = 0)
def marksB (k n : Nat) : List Bool := (List.range n).map fun j => mkB (k + j)
theorem marksB_len (k n : Nat) : (marksB k n).length = n := by simp [marksB]
theorem marksB_get (k n j : Nat) (h : j < (marksB k n).length) : (marksB k n)[j] = mkB (k + j) := by simp [marksB]
def markedB (k : Nat) (bs : List Bool) (i : Nat) : List Bool := marksB k i ++ bs.drop i
theorem markedB_len (k : Nat) (bs : List Bool) (i : Nat) (h : i ≤ bs.length) : (markedB k bs i).length = bs.length := by simp [markedB, marksB_len]; omega
theorem markedB_next (k : Nat) (bs : List Bool) (i : Nat) (h : i < bs.length) : markedB k bs (i + 1) = (markedB k bs i).set i (mkB (k + i)) := by
  unfold markedB
  have e : bs.drop i = bs[i] :: bs.drop (i + 1) := List.drop_eq_getElem_cons h
  rw [List.set_append_right _ _ (by rw [marksB_len]; exact Nat.le_refl _), marksB_len, Nat.sub_self, e, List.set_cons_zero]
  simp [marksB, List.range_succ]
theorem markedB_all (k : Nat) (bs : List Bool) : markedB k bs bs.length = marksB k bs.length := by simp [markedB]
theorem mkB_int (c : Nat) : (((c : Int) % 3 == 0) : Bool) = mkB c := by unfold mkB; rw [Bool.eq_iff_iff]; simp; omega

set_option maxRecDepth 100000 in
set_option maxHeartbeats 2000000 in
theorem markBo_any (W : World) (B : Nat) (v : Value) (k0 : Nat) (bs : List Bool) (h : OwnB W B v bs) (hl : bs.length ≤ 4194304) (hk1 : k0 ≤ 1000000000) :
    Calls Try.prog 28 #[v, .int .i64 (k0 : Int)] W fun e W' => e = .returned (.int .i64 ((k0 + bs.length : Nat) : Int)) ∧ OwnB W' B v (marksB k0 bs.length) ∧ W'.heap.size = W.heap.size ∧ W.grownBy W' v.ownBlock := by
  rcases h.2 with ⟨hv, hn⟩ | ⟨g, cap1, cur, hv, hB, hg, -⟩
  · obtain rfl : bs = [] := List.eq_nil_of_length_eq_zero hn
    subst hv
    have HO : Hid (OwnB W B (.slice none 0 0) []) := h
    clear h
    go_enter Try.func28, Try.ntmps28
    go_wp2
    refine wp_loop_rounds 1 ?_
    rw [rounds_succ]
    go_wp2
    go_ret
    exact ⟨by simp, by simpa [marksB] using HO.out, rfl, rfl, rfl, rfl, Nat.le_refl _, fun _ _ _ => rfl⟩
  · subst hv
    have HO : Hid (OwnB W B (.slice (some ⟨g, 0, none⟩) bs.length cap1) bs) := h
    clear h hg
    go_enter Try.func28, Try.ntmps28
    go_wp2
    go_loopw [1, 5] (fun x i wr => ∃ k : Nat, k ≤ bs.length ∧ i = .int .i64 k ∧ x = .int .i64 ((k0 : Int) + (k : Int)) ∧ Hid (OwnB wr B (.slice (some ⟨g, 0, none⟩) bs.length cap1) (markedB k0 bs k) ∧ wr.heap.size = W.heap.size ∧ W.grownBy wr (some g))) (fun _ i _ => bs.length - (intOf i).toNat)
    case atStart => exact ⟨0, Nat.zero_le _, rfl, by simp, by simpa [markedB, marksB] using HO.out, rfl, rfl, rfl, rfl, Nat.le_refl _, fun _ _ _ => rfl⟩
    case round =>
      obtain ⟨k, hk, rfl, rfl, HK⟩ := hrel
      by_cases hlt : k < bs.length
      · obtain ⟨hown, hsz, hgr⟩ := HK.out
        have hl2 := markedB_len k0 bs k hk
        have HNX : Hid (markedB k0 bs (k + 1) = (markedB k0 bs k).set k (mkB (k0 + k))) := markedB_next k0 bs k hlt
        have hO3 : OwnB wr B (.slice (some ⟨g, 0, none⟩) (markedB k0 bs k).length cap1) (markedB k0 bs k) := by rw [hl2]; exact hown
        generalize markedB k0 bs k = qs at *
        obtain ⟨d0, f0⟩ : ∃ c, wr.cell? ⟨g, k, none⟩ = some c := ⟨_, by rw [World.ownsRow.cellAt hO3 k (by omega)]; exact List.getElem?_eq_getElem (by simp; omega)⟩
        have fz0 := World.ownsRow.frozenAt hO3 k
        have er : ((k0 : Int) + (k : Int)) = ((k0 + k : Nat) : Int) := by omega
        have hN := (World.ownsRow.stored hO3 k (.bool (mkB (k0 + k)))).1
        have HCC : Hid (k0 + k + 1 = k0 + (k + 1)) := by show _ = _; omega
        have hkb : k0 + k ≤ 1100000000 := by omega
        rw [er]
        generalize k0 + k = c at *
        have HR0 : Hid ((((c : Int) % 3 == 0) : Bool) = mkB c) := mkB_int c
        have htm0 : (c : Int).tmod 3 = (c : Int) % 3 := Int.tmod_eq_emod_of_nonneg (by omega)
        have HN : Hid (OwnB (wr.setCell ⟨g, k, none⟩ (.bool ((c : Int) % 3 == 0))) B (.slice (some ⟨g, 0, none⟩) bs.length cap1) (qs.set k (mkB c))) := by
          show OwnB _ _ _ _
          unfold OwnB
          rw [HR0.out, List.length_set, List.map_set, ← hl2]
          exact hN
        have HZ1 : Hid ((wr.setCell ⟨g, k, none⟩ (.bool ((c : Int) % 3 == 0))).heap.size = W.heap.size) := by show _ = _; rw [← hsz]; simp [World.setCell]
        have HG1 : Hid (W.grownBy (wr.setCell ⟨g, k, none⟩ (.bool ((c : Int) % 3 == 0))) (some g)) :=
          ⟨hgr.os, hgr.tape, hgr.output, by rw [HZ1.out]; exact Nat.le_refl _, fun j hj hne => (Below.heap_setCell _ _ _ _ (fun e => hne (by rw [e]))).trans (hgr.block j hj hne)⟩
        have hlt' : (k : Int) < (bs.length : Int) := by omega
        clear hown hO3 hgr hsz hl2 hN HK er
        go_wp2
        go_roundw
        case rel => exact ⟨k + 1, by omega, by go_num, by have := HCC.out; congr 1; omega, by rw [HNX.out]; exact HN.out, HZ1.out, HG1.out⟩
        case measure => simp [intOf]; omega
      · have e : k = bs.length := by omega
        have hlt' : ¬ (k : Int) < (bs.length : Int) := by omega
        have HF : Hid (OwnB wr B (.slice (some ⟨g, 0, none⟩) bs.length cap1) (marksB k0 bs.length) ∧ wr.heap.size = W.heap.size ∧ W.grownBy wr (some g)) := by
          have := HK.out
          rw [e, markedB_all] at this
          exact this
        clear HK
        go_wp2
        go_ret
        exact ⟨by congr 2, HF.out⟩

set_option maxRecDepth 100000 in
set_option maxHeartbeats 2000000 in
theorem heldBo_yes (W : World) (v : Value) (k0 n : Nat) (h : ReadsBo W v (marksB k0 n)) (hl : n ≤ 4194304) (hk1 : k0 ≤ 1000000000) :
    Calls Try.prog 29 #[v, .int .i64 (k0 : Int)] W fun e W' => e = .returned (.int .i64 ((k0 + n : Nat) : Int)) ∧ W' = W := by
  obtain ⟨a1, cap1, hv, hc1⟩ := h
  rw [marksB_len] at hv
  subst hv
  by_cases hn : n = 0
  · subst hn
    clear hc1
    go_enter Try.func29, Try.ntmps29
    go_wp2
    refine wp_loop_rounds 1 ?_
    rw [rounds_succ]
    go_wp2
    go_ret
    exact ⟨by simp, rfl⟩
  · obtain ⟨g1, o1, rfl, -, hc1⟩ := hc1.resolve_left (fun e => hn (by rw [← marksB_len k0 n, e]; rfl))
    have HC1 : Hid (∀ j, j < n → W.cell? ⟨g1, o1 + j, none⟩ = some (.bool (mkB (k0 + j)))) := fun j hj => by
      have := hc1 j (by rw [marksB_len]; exact hj)
      rw [marksB_get] at this
      exact this
    clear hc1 hn
    go_enter Try.func29, Try.ntmps29
    go_wp2
    go_loop [1, 5] (fun x i => ∃ k : Nat, k ≤ n ∧ i = .int .i64 k ∧ x = .int .i64 ((k0 : Int) + (k : Int))) (fun _ i => n - (intOf i).toNat)
    case atStart => exact ⟨0, Nat.zero_le _, rfl, by simp⟩
    case round =>
      obtain ⟨k, hk, rfl, rfl⟩ := hrel
      by_cases hlt : k < n
      · have q0 := HC1.out k hlt
        have er : ((k0 : Int) + (k : Int)) = ((k0 + k : Nat) : Int) := by omega
        rw [er]
        have hkb : k0 + k ≤ 1100000000 := by omega
        have HCC : Hid (k0 + k + 1 = k0 + (k + 1)) := by show _ = _; omega
        generalize k0 + k = c at *
        have HR0 : Hid ((((c : Int) % 3 == 0) : Bool) = mkB c) := mkB_int c
        have htm0 : (c : Int).tmod 3 = (c : Int) % 3 := Int.tmod_eq_emod_of_nonneg (by omega)
        have q0' : W.cell? ⟨g1, o1 + k, none⟩ = some (.bool ((c : Int) % 3 == 0)) := by rw [HR0.out]; exact q0
        have hlt' : (k : Int) < (n : Int) := by omega
        clear q0 er
        go_wp2
        go_round
        case rel => exact ⟨k + 1, by omega, by go_num, by have := HCC.out; congr 1; omega⟩
        case measure => simp [intOf]; omega
      · have e : k = n := by omega
        have hlt' : ¬ (k : Int) < (n : Int) := by omega
        go_wp2
        go_ret
        exact ⟨by congr 2, rfl⟩
end Go.Proofs.Ytchddjidjfpehat
