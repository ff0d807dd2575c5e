/-
  'l6Row' of the model.
-/
import Derived.Test.YtkkamigaolejiaxFlRowsB
import Derived.Test.YtkkamigaolejiaxFlRead
namespace Go.Proofs.Ytkkamigaolejiax
open Go.RowKit
set_option linter.unusedVariables false

theorem own_two {W : World} {B : Nat} {v : Value} {p q : Int} (h : Own W B v [p, q]) : ∃ g c, v = .slice (some ⟨g, 0, none⟩) 2 c ∧ W.cell? ⟨g, 0, none⟩ = some (.int .i64 p) ∧ W.cell? ⟨g, 1, none⟩ = some (.int .i64 q) := by
  have h' := h
  rcases h.2 with ⟨-, hn⟩ | ⟨g, cap, cur, rfl, -⟩
  · simp at hn
  · exact ⟨g, cap, rfl, by rw [World.ownsRow.cellAt h' 0 (by simp)]; rfl, by rw [World.ownsRow.cellAt h' 1 (by simp)]; rfl⟩

set_option maxRecDepth 100000 in
set_option maxHeartbeats 4000000 in
theorem l6Row_any (W : World) (x y z l : Value) (f : FD) (p q : Int) (h : ReadsF W x y z l f) (hlk : linksB (f.kn.length : Int) f.lk = true) (hn : f.kn.length ≤ 6) :
    Calls Try.prog 50 #[.agg #[x, y, z, l], .int .i64 p, .int .i64 q] W fun e W' => e = .returned (.int .i64 (ixD (debtsL f.kn.length f.lk) p q)) ∧ Below W.heap.size W W' := by
  have h15 := links15 hlk (by omega)
  have HB : Hid (Since W.heap.size W (W.alloc (.cells #[x, y, z, l] 31))) := (Since.start W).step ((Below.refl _ W).alloc (Nat.le_refl _) _)
  have CR := l6Rows_any (W.alloc (.cells #[x, y, z, l] 31)) x f.lk f.kn.length (h.lk.below HB.out.1) (fun j hj => (linksB_mem hlk f.lk[j] (List.getElem_mem hj)).1) h15 hn
  have HRD : Hid (rowsL f.kn.length f.lk = (debtsL f.kn.length f.lk).map pqL) := rowsL_debts hlk
  rw [HRD.out] at CR
  obtain ⟨a0, c0, rfl⟩ := h.lk.shape
  obtain ⟨a1, c1, rfl⟩ := h.kn.shape
  obtain ⟨a2, c2, rfl⟩ := h.ow.shape
  obtain ⟨a3, c3, rfl⟩ := h.ln.shape
  have hl36 : (debtsL f.kn.length f.lk).length ≤ 36 := Nat.le_trans (debtsTo_len f.kn.length f.lk f.kn.length) (by have : f.kn.length * f.kn.length ≤ 6 * 6 := Nat.mul_le_mul hn hn; omega)
  clear HRD hlk h
  generalize debtsL f.kn.length f.lk = ds at *
  have HCR : Hid (Calls Try.prog 38 #[.int .i64 (f.kn.length : Int), .slice a0 f.lk.length c0] (W.alloc (.cells #[.slice a0 f.lk.length c0, .slice a1 f.kn.length c1, .slice a2 f.ow.length c2, .slice a3 f.ln.length c3] 31)) fun e W' => ∃ v' vs, e = .returned v' ∧ OwnSS W' (W.alloc (.cells #[.slice a0 f.lk.length c0, .slice a1 f.kn.length c1, .slice a2 f.ow.length c2, .slice a3 f.ln.length c3] 31)).heap.size v' vs (ds.map pqL) ∧ Below (W.alloc (.cells #[.slice a0 f.lk.length c0, .slice a1 f.kn.length c1, .slice a2 f.ow.length c2, .slice a3 f.ln.length c3] 31)).heap.size (W.alloc (.cells #[.slice a0 f.lk.length c0, .slice a1 f.kn.length c1, .slice a2 f.ow.length c2, .slice a3 f.ln.length c3] 31)) W') := CR
  clear CR
  generalize f.lk.length = k0 at *
  generalize f.kn.length = k1 at *
  generalize f.ow.length = k2 at *
  generalize f.ln.length = k3 at *
  go_enter Try.func50, Try.ntmps50
  go_wp2_with fail
  refine HCR.out.mono ?_
  rintro e w1 ⟨v1, vs, rfl, ho1, hb1⟩
  have HS1 : Hid (Since W.heap.size W w1) := HB.out.step hb1
  have hlen : vs.length = ds.length := by rw [ho1.len, List.length_map]
  rcases ho1.row.2 with ⟨hv, hn0⟩ | ⟨g, cap, cur, hv, -⟩
  · have hz : ds = [] := List.eq_nil_of_length_eq_zero (by omega)
    subst hv hz
    clear ho1 hb1 hlen hn0
    go_wp2
    refine wp_loop_rounds 1 ?_
    rw [rounds_succ]
    go_wp2
    go_ret
    exact ⟨rfl, HS1.out.1⟩
  · have HCL : Hid (∀ j (hj : j < ds.length), ∃ g2 c2, w1.cell? ⟨g, j, none⟩ = some (.slice (some ⟨g2, 0, none⟩) 2 c2) ∧ w1.cell? ⟨g2, 0, none⟩ = some (.int .i64 ds[j].p) ∧ w1.cell? ⟨g2, 1, none⟩ = some (.int .i64 ds[j].q)) := fun j hj => by
      have hjv : j < vs.length := by omega
      have hi := ho1.inner j hjv
      have e : (ds.map pqL)[j]'(by simpa using hj) = [ds[j].p, ds[j].q] := by rw [List.getElem_map]; rfl
      rw [e] at hi
      obtain ⟨g2, c2, hv2, q0, q1⟩ := own_two hi
      have hr := ho1.row
      rw [hv] at hr
      exact ⟨g2, c2, by rw [World.ownsRow.cellAt hr j (by omega), List.getElem?_eq_getElem hjv, hv2], q0, q1⟩
    rw [hlen] at hv
    subst hv
    clear ho1 hb1 hlen
    go_wp2
    go_loop [16] (fun i => ∃ k : Nat, k ≤ ds.length ∧ i = .int .i64 k ∧ Hid (∀ j (hj : j < ds.length), j < k → isD p q ds[j] = false)) (fun i => ds.length - (intOf i).toNat)
    case atStart => exact ⟨0, Nat.zero_le _, rfl, fun j hj h => absurd h (Nat.not_lt_zero _)⟩
    case round =>
      obtain ⟨k, hk, rfl, HA⟩ := hrel
      by_cases hlt : k < ds.length
      · obtain ⟨g2, c2', q0, q1, q2⟩ := HCL.out k hlt
        have hlt' : (k : Int) < (ds.length : Int) := by omega
        have HY : Hid (isD p q ds[k] = true → ixD ds p q = (k : Int)) := ixD_hit ds p q k hlt HA.out
        have HN : Hid (isD p q ds[k] = false → ∀ j (hj : j < ds.length), j < k + 1 → isD p q ds[j] = false) := fun hf j hj h => by
          by_cases e : j = k
          · subst e; exact hf
          · exact HA.out j hj (by omega)
        have HD : Hid (isD p q ds[k] = decide (ds[k].p = p ∧ ds[k].q = q)) := rfl
        generalize isD p q ds[k] = jj at *
        generalize ds[k].p = dp at *
        generalize ds[k].q = dq at *
        by_cases e0 : dp = p
        · have d0 : (dp == p) = true := beq_iff_eq.2 e0
          by_cases e1 : dq = q
          · have d1 : (dq == q) = true := beq_iff_eq.2 e1
            have HF : Hid (ixD ds p q = (k : Int)) := HY.out (by rw [HD.out]; exact decide_eq_true ⟨e0, e1⟩)
            clear e0 e1 HY HN HD
            go_wp2
            go_ret
            exact ⟨by rw [HF.out]; rfl, HS1.out.1⟩
          · have d1 : (dq == q) = false := beq_eq_false_iff_ne.2 e1
            have HA1 : Hid (∀ j (hj : j < ds.length), j < k + 1 → isD p q ds[j] = false) := HN.out (by rw [HD.out]; exact decide_eq_false (fun h => e1 h.2))
            clear e0 e1 HY HN HD
            go_wp2
            go_round
            case rel => exact ⟨k + 1, by omega, by go_num, HA1⟩
            case measure => simp [intOf]; omega
        · have d0 : (dp == p) = false := beq_eq_false_iff_ne.2 e0
          have HA1 : Hid (∀ j (hj : j < ds.length), j < k + 1 → isD p q ds[j] = false) := HN.out (by rw [HD.out]; exact decide_eq_false (fun h => e0 h.1))
          clear e0 HY HN HD
          go_wp2
          go_round
          case rel => exact ⟨k + 1, by omega, by go_num, HA1⟩
          case measure => simp [intOf]; omega
      · have hlt' : ¬ (k : Int) < (ds.length : Int) := by omega
        have HF : Hid (ixD ds p q = -1) := ixD_none ds p q fun j hj => HA.out j hj (by omega)
        go_wp2
        go_ret
        exact ⟨by rw [HF.out]; rfl, HS1.out.1⟩
end Go.Proofs.Ytkkamigaolejiax
