/-
  What the walk of the law of chapter 10's frames needs: who has come, hops side by side.
-/
import Derived.Test.YthlbmkefjjckaadBunG
import Derived.Test.YthlbmkefjjckaadDrawTr
import Derived.Test.YthlbmkefjjckaadBunI
import Derived.Test.YthlbmkefjjckaadTrSprS
import Derived.Test.YthlbmkefjjckaadBunF
import Derived.Test.YthlbmkefjjckaadHand
namespace Go.Proofs.Ythlbmkefjjckaad
open Go.RowKit
set_option linter.unusedVariables false

set_option maxRecDepth 100000 in
set_option maxHeartbeats 1000000 in
theorem hasT_any (W : World) (v : Value) (zs : List Int) (z : Int) (h : Reads W v zs) (hl : zs.length ≤ 4194304) :
    Calls Try.prog 13 #[v, .int .i64 z] W fun e W' => e = .returned (.bool (decide (z ∈ zs))) ∧ W' = W := by
  obtain ⟨a1, cap1, rfl, hc1⟩ := h
  rcases hc1 with hz | ⟨g1, o1, rfl, -, hc1⟩
  · subst hz
    simp only [List.length_nil]
    go_enter Try.func13, Try.ntmps13
    go_wp2
    refine wp_loop_rounds 1 ?_
    rw [rounds_succ]
    go_wp2
    go_ret
    exact ⟨by simp, rfl⟩
  · have HC1 : Hid (∀ j (hj : j < zs.length), W.cell? ⟨g1, o1 + j, none⟩ = some (.int .i64 zs[j])) := hc1
    clear hc1
    go_enter Try.func13, Try.ntmps13
    go_wp2
    go_loop [9] (fun i => ∃ k : Nat, k ≤ zs.length ∧ i = .int .i64 k ∧ Hid (∀ j (hj : j < zs.length), j < k → zs[j] ≠ z)) (fun i => zs.length - (intOf i).toNat)
    case atStart => exact ⟨0, Nat.zero_le _, rfl, fun j _ hj => absurd hj (Nat.not_lt_zero _)⟩
    case round =>
      obtain ⟨k, hk, rfl, HA⟩ := hrel
      by_cases hlt : k < zs.length
      · have c1 := HC1.out k hlt
        have hlt' : (k : Int) < (zs.length : Int) := by omega
        by_cases he : zs[k] = z
        · have HF : Hid (true = decide (z ∈ zs)) := by show _ = _; rw [decide_eq_true (by rw [← he]; exact List.getElem_mem hlt)]
          rw [he] at c1
          clear he
          go_wp2
          go_ret
          exact ⟨ret_bool1 HF.out, rfl⟩
        · have HA1 : Hid (∀ j (hj : j < zs.length), j < k + 1 → zs[j] ≠ z) := fun j hj h => by
            by_cases e : j = k
            · subst e; exact he
            · exact HA.out j hj (by omega)
          generalize zs[k] = y at *
          go_wp2
          go_round
          case rel => exact ⟨k + 1, by omega, by go_num, HA1⟩
          case measure => simp [intOf]; omega
      · have hlt' : ¬ (k : Int) < (zs.length : Int) := by omega
        have HF : Hid (false = decide (z ∈ zs)) := by
          show _ = _
          rw [decide_eq_false]
          intro hm
          obtain ⟨j, hj, e⟩ := List.getElem_of_mem hm
          exact HA.out j hj (by omega) e
        go_wp2
        go_ret
        exact ⟨ret_bool1 HF.out, rfl⟩

set_option maxRecDepth 100000 in
set_option maxHeartbeats 2000000 in
theorem sameHops_same (W : World) (v1 v2 : Value) (hs : List HopD) (h1 : ReadsHop W v1 hs) (h2 : ReadsHop W v2 hs) (hl : hs.length ≤ 4194304) :
    Calls Try.prog 22 #[v1, v2] W fun e W' => e = .returned (.bool true) ∧ Below W.heap.size W W' := by
  obtain ⟨a1, cap1, rfl, hc1⟩ := h1
  obtain ⟨a2, cap2, rfl, hc2⟩ := h2
  by_cases hz : hs = []
  · subst hz
    simp only [List.length_nil]
    clear hc1 hc2
    go_enter Try.func22, Try.ntmps22
    go_wp2
    refine wp_loop_rounds 1 ?_
    rw [rounds_succ]
    go_wp2
    go_ret
    exact ⟨rfl, Below.refl _ _⟩
  · obtain ⟨g1, o1, rfl, -, hc1⟩ := hc1.resolve_left hz
    obtain ⟨g2, o2, rfl, -, hc2⟩ := hc2.resolve_left hz
    have HC1 : Hid (∀ j (hj : j < hs.length), HopAt W g1 (o1 + j * 2) hs[j]) := hc1
    have HC2 : Hid (∀ j (hj : j < hs.length), HopAt W g2 (o2 + j * 2) hs[j]) := hc2
    clear hc1 hc2 hz
    go_enter Try.func22, Try.ntmps22
    go_wp2
    go_loopw [13] (fun i wr => ∃ k : Nat, k ≤ hs.length ∧ i = .int .i64 k ∧ ∃ n, wr = W.drewN n) (fun i _ => hs.length - (intOf i).toNat)
    case atStart => exact ⟨0, Nat.zero_le _, rfl, 0, rfl⟩
    case round =>
      obtain ⟨k, hk, rfl, n, rfl⟩ := hrel
      by_cases hlt : k < hs.length
      · obtain ⟨q0, q1⟩ := HC1.out k hlt
        obtain ⟨r0, r1⟩ := HC2.out k hlt
        generalize hs[k] = x at *
        have hlt' : (k : Int) < (hs.length : Int) := by omega
        go_wp2
        go_quiet (fail)
        go_wp2
        go_roundw
        case rel => exact ⟨k + 1, by omega, by go_num, _, rfl⟩
        case measure => simp [intOf]; omega
      · have hlt' : ¬ (k : Int) < (hs.length : Int) := by omega
        go_wp2
        go_ret
        exact ⟨rfl, below_drewN (Below.refl _ _) _⟩

/-- A row that is one's own, by its cells, for good. -/
theorem own_cellsT {W : World} {B : Nat} {a : Option Addr} {n c : Nat} {zs : List Int} (h : Own W B (.slice a n c) zs) : ∀ j, j < zs.length → ∃ g o, a = some ⟨g, o, none⟩ ∧ ∀ W', Since W.heap.size W W' → ∀ hj : j < zs.length, W'.cell? ⟨g, o + j, none⟩ = some (.int .i64 zs[j]) := fun j hj => by
  obtain ⟨a1, c1, hv, hc⟩ := h.reads
  simp only [Value.slice.injEq] at hv
  obtain ⟨rfl, rfl, rfl⟩ := hv
  obtain ⟨g, o, rfl, hg, hcell⟩ := hc.resolve_left (fun e => by rw [e] at hj; exact absurd hj (Nat.not_lt_zero _))
  exact ⟨g, o, rfl, fun W' hs hj => (hs.1.cell (p := ⟨g, o + j, none⟩) hg).trans (hcell j hj)⟩

theorem hop_cellsT {W : World} {B : Nat} {a : Option Addr} {n c : Nat} {hs : List HopD} (h : OwnHop W B (.slice a n c) hs) : ∀ j, j < hs.length → ∃ g o, a = some ⟨g, o, none⟩ ∧ ∀ W', Since W.heap.size W W' → ∀ hj : j < hs.length, HopAt W' g (o + j * 2) hs[j] := fun j hj => by
  obtain ⟨a1, c1, hv, hc⟩ := h.reads
  simp only [Value.slice.injEq] at hv
  obtain ⟨rfl, rfl, rfl⟩ := hv
  obtain ⟨g, o, rfl, hg, hcell⟩ := hc.resolve_left (fun e => by rw [e] at hj; exact absurd hj (Nat.not_lt_zero _))
  exact ⟨g, o, rfl, fun W' hs hj => (hcell j hj).below hg hs.1⟩

theorem newHopC (W : World) (x y : Int) : ∀ w', Since (W.alloc (.cells #[.int .i64 x, .int .i64 y] 36)).heap.size (W.alloc (.cells #[.int .i64 x, .int .i64 y] 36)) w' → w'.cell? ⟨W.heap.size, 0, none⟩ = some (.int .i64 x) ∧ w'.cell? ⟨W.heap.size, 1, none⟩ = some (.int .i64 y) := fun w' hs =>
  ⟨(hs.1.cell (p := ⟨W.heap.size, 0, none⟩) (by simp)).trans (by rw [World.cell?_alloc_at _ _ _ _ rfl]; rfl), (hs.1.cell (p := ⟨W.heap.size, 1, none⟩) (by simp)).trans (by rw [World.cell?_alloc_at _ _ _ _ rfl]; rfl)⟩

/-- To whom the frame has come behind so many hops. -/
def camL (j : Int) (hs : List HopD) (t : Nat) : List Int := j :: (hs.take t).map HopD.To
theorem camL_succ (j : Int) (hs : List HopD) (t : Nat) (ht : t < hs.length) : camL j hs (t + 1) = camL j hs t ++ [hs[t].To] := by
  unfold camL
  rw [List.take_succ_eq_append_getElem ht, List.map_append]
  rfl
theorem camL_all (j : Int) (hs : List HopD) : camL j hs hs.length = j :: hs.map HopD.To := by unfold camL; rw [List.take_length]
theorem camL_len (j : Int) (hs : List HopD) (t : Nat) : (camL j hs t).length ≤ hs.length + 1 := by unfold camL; rw [List.length_cons, List.length_map, List.length_take]; omega

theorem code_since {B : Nat} {w0 w : World} {a : Option Addr} {len : Nat} (h : Code B w0 a len) (hs : Since B w0 w) (hB : B ≤ w0.heap.size) : Code w.heap.size w a len := by
  rcases h with h | ⟨b, off, ha, hb, hc⟩
  · exact .inl h
  · exact .inr ⟨b, off, ha, Nat.lt_of_lt_of_le hb hs.2, fun j hj => let ⟨z, z0, z1, hz⟩ := hc j hj; ⟨z, z0, z1, (World.cell?_of_block (a := ⟨b, off + j, none⟩) (hs.1.block b hb)).trans hz⟩⟩
theorem own_oneT (W : World) (x : Int) : Own (W.alloc (.cells #[.int .i64 x] 3)) W.heap.size (.slice (some ⟨W.heap.size, 0, none⟩) 1 1) [x] :=
  ⟨rfl, .inr ⟨W.heap.size, 1, #[.int .i64 x], rfl, Nat.le_refl _, World.alloc_heap_new W _, Nat.le_refl _, by unfold maxLen; omega, rfl, rfl⟩⟩
theorem spOut_small (ps : List Int) (f : Int) : (spOut ps f).length ≤ 12 := by
  unfold spOut
  split
  · next h =>
    obtain ⟨h1, h2, h3⟩ := spOk_true h
    have := sprd_len h1 h2 h3 ps.length
    have := ((goodU_iff ps).1 h1).1
    unfold spreadD
    omega
  · simp
end Go.Proofs.Ythlbmkefjjckaad
