/-
  'lineWithout' of the program.
-/
import Derived.Test.YthdcfeafkellcaaCopyP
namespace Go.Proofs.Ythdcfeafkellcaa
open Go.RowKit

theorem add_at (g o j : Nat) : (⟨g, o, none⟩ : Addr).add j = ⟨g, o + j, none⟩ := by simp [Addr.add]

/-- The head and the rest of a row of hellos, as what is appended. -/
theorem source_take {W : World} {B g cap : Nat} {hs : List HD} (h : OwnH W B (.slice (some ⟨g, 0, none⟩) hs.length cap) hs) (k c : Nat) (hk : k ≤ hs.length) : Source W (.slice (some ⟨g, 0, none⟩) k c) (hs.take k).length (cellsH (hs.take k)) := by
  rw [show (hs.take k).length = k from by simp; omega]
  refine .inr ⟨_, _, rfl, fun j u hu => ?_⟩
  rw [cellsH_take] at hu
  rw [add_at, Nat.zero_add]
  have hj : j < k * 2 := by
    have := (List.getElem?_eq_some_iff.1 hu).1
    rw [List.length_take] at this
    omega
  rw [World.ownsRow.cellAt h j (by omega)]
  rw [List.getElem?_take_of_lt hj] at hu
  exact hu
theorem source_drop {W : World} {B g cap : Nat} {hs : List HD} (h : OwnH W B (.slice (some ⟨g, 0, none⟩) hs.length cap) hs) (k c : Nat) : Source W (.slice (some ⟨g, k * 2, none⟩) (hs.length - k) c) (hs.drop k).length (cellsH (hs.drop k)) := by
  rw [show (hs.drop k).length = hs.length - k from by simp]
  refine .inr ⟨_, _, rfl, fun j u hu => ?_⟩
  rw [cellsH_drop, List.getElem?_drop] at hu
  rw [add_at]
  have hj : k * 2 + j < hs.length * 2 := by
    have := (List.getElem?_eq_some_iff.1 hu).1
    rw [cellsH_len] at this
    omega
  rw [World.ownsRow.cellAt h _ hj]
  exact hu
theorem source_none {W : World} (a : Addr) (c : Nat) : Source W (.slice (some a) 0 c) 0 [] := .inr ⟨_, _, rfl, fun j u hu => by simp at hu⟩

theorem wrap_succ (k : Nat) (h : k ≤ 1048576) : IntKind.i64.wrap ((k : Int) + 1) = (k : Int) + 1 := by rw [IntKind.wrap_i64]; omega

theorem erase_cat (hs : List HD) (k : Nat) : hs.take k ++ hs.drop (k + 1) = hs.eraseIdx k := (List.eraseIdx_eq_take_drop_succ hs k).symm

set_option maxRecDepth 100000 in
set_option maxHeartbeats 2000000 in
theorem lineWithout_any (W : World) (B : Nat) (v : Value) (hs : List HD) (k : Nat) (h : OwnH W B v hs) (hk : k < hs.length) (hl : hs.length ≤ 1048576) :
    Calls Try.prog 87 #[v, .int .i64 (k : Int)] W fun e W' => ∃ v', e = .returned v' ∧ OwnH W' W.heap.size v' (hs.eraseIdx k) ∧ Below W.heap.size W W' := by
  rcases h.2 with ⟨-, hn⟩ | ⟨g, cap, cur, rfl, hB, hg, hcap, hcm, -⟩
  · omega
  unfold maxLen at hcm
  have HR : Hid (∀ W1, Below W.heap.size W W1 → OwnH W1 B (.slice (some ⟨g, 0, none⟩) hs.length cap) hs) := fun W1 hb => h.below hb
  have HS0 : Since W.heap.size W W.drew := (Since.start W).drew
  have HE : Hid (hs.take k ++ hs.drop (k + 1) = hs.eraseIdx k) := erase_cat hs k
  have HTL : Hid ((hs.take k).length = k ∧ (hs.drop (k + 1)).length = hs.length - (k + 1)) := ⟨by simp; omega, by simp⟩
  have C1 : Hid (∀ w, Since W.heap.size W w → ∀ ty, ∃ v' w', (Builtin.append_ #[38, 38] ty #[.slice none 0 0, .slice (some ⟨g, 0, none⟩) k cap]).run Try.prog w = .ok v' w' ∧ GrewH w w.heap.size (.slice none 0 0) (hs.take k) v' w') := fun w hS ty =>
    run_catH w w.heap.size _ [] (OwnH.nil _ _) _ (hs.take k) (source_take (HR.out w hS.1) k cap (by omega)) (by simp; omega) (Nat.le_refl _) ty
  clear h hg
  by_cases hcl : cap ≤ k + 1
  · obtain rfl : cap = k + 1 := by omega
    have hn : hs.length = k + 1 := by omega
    rw [hn]
    have C2 : Hid (∀ w v, OwnH w W.heap.size v (hs.take k) → W.heap.size ≤ w.heap.size → ∀ ty, ∃ v' w', (Builtin.append_ #[38, 38] ty #[v, .slice (some ⟨g, 0, none⟩) 0 0]).run Try.prog w = .ok v' w' ∧ GrewH w W.heap.size v (hs.eraseIdx k) v' w') := fun w v hv hz ty => by
      have := run_catH w W.heap.size v (hs.take k) hv (.slice (some ⟨g, 0, none⟩) 0 0) [] (source_none _ _) (by have := HTL.out.1; simp; omega) hz ty
      rw [← HE.out, List.drop_eq_nil_of_le (Nat.le_of_eq hn)]
      exact this
    have HN : Hid (hs.length = k + 1) := hn
    have hk2 : k ≤ 1048576 := by omega
    have i0 : (0 : Int) ≤ (k : Int) := by omega
    have i1 : (k : Int) ≤ ((k + 1 : Nat) : Int) := by omega
    have i3 : (0 : Int) ≤ (k : Int) + 1 := by omega
    have i6 : (k : Int) ≤ (k : Int) + 1 := by omega
    clear hn hcl hk hcap hl HR HE HTL
    have i4 : IntKind.i64.wrap ((k : Int) + 1) = (k : Int) + 1 := wrap_succ k hk2
    go_enter Try.func87, Try.ntmps87
    go_wp2
    go_region_held3 (fun _ => True) (trivial)
      (first
        | (refine step_cat (by rfl) (.const (.slice none 0 0)) (.tmp 7) 38 (by rfl) (.slice none 0 0) (.slice (some ⟨g, 0, none⟩) k (k + 1)) (by rfl) (by rfl) _ (C1.out _ HS0) ?_; intro v1 w1 hg1; have HS1 := HS0.step hg1.below)
        | (refine step_cat (by rfl) (.tmp 8) (.tmp 12) 38 (by rfl) v1 (.slice (some ⟨g, 0, none⟩) 0 0) (by rfl) (by first | rfl | simp) _ (C2.out w1 v1 hg1.own HS1.2) ?_; intro v2 w2 hg2))
    all_goals
      go_wp2
      go_ret
      exact ⟨_, rfl, hg2.own, HS1.1.trans hg2.below⟩
  · have C2 : Hid (∀ w v, OwnH w W.heap.size v (hs.take k) → Below W.heap.size W w → W.heap.size ≤ w.heap.size → ∀ ty, ∃ v' w', (Builtin.append_ #[38, 38] ty #[v, .slice (some ⟨g, (k + 1) * 2, none⟩) (hs.length - (k + 1)) (cap - (k + 1))]).run Try.prog w = .ok v' w' ∧ GrewH w W.heap.size v (hs.eraseIdx k) v' w') := fun w v hv hb hz ty => by
      have := run_catH w W.heap.size v (hs.take k) hv _ (hs.drop (k + 1)) (source_drop (HR.out w hb) (k + 1) (cap - (k + 1))) (by have := HTL.out; omega) hz ty
      rw [← HE.out]
      exact this
    have i0 : (0 : Int) ≤ (k : Int) := by omega
    have i1 : (k : Int) ≤ (cap : Int) := by omega
    have i2 : (k : Int) + 1 ≤ (hs.length : Int) := by omega
    have i3 : (0 : Int) ≤ (k : Int) + 1 := by omega
    have i5 : (hs.length : Int) ≤ (cap : Int) := by omega
    have hk2 : k ≤ 1048576 := by omega
    have hne : ¬ cap = k + 1 := by omega
    clear HR HE HTL
    have i4 : IntKind.i64.wrap ((k : Int) + 1) = (k : Int) + 1 := wrap_succ k hk2
    go_enter Try.func87, Try.ntmps87
    go_wp2
    go_region_held3 (fun _ => True) (trivial)
      (first
        | (refine step_cat (by rfl) (.const (.slice none 0 0)) (.tmp 7) 38 (by rfl) (.slice none 0 0) (.slice (some ⟨g, 0, none⟩) k cap) (by rfl) (by rfl) _ (C1.out _ HS0) ?_; intro v1 w1 hg1; have HS1 := HS0.step hg1.below)
        | (refine step_cat (by rfl) (.tmp 8) (.tmp 12) 38 (by rfl) v1 (.slice (some ⟨g, (k + 1) * 2, none⟩) (hs.length - (k + 1)) (cap - (k + 1))) (by rfl) (by first | rfl | simp) _ (C2.out w1 v1 hg1.own HS1.1 HS1.2) ?_; intro v2 w2 hg2))
    all_goals
      go_wp2
      go_ret
      exact ⟨_, rfl, hg2.own, HS1.1.trans hg2.below⟩
end Go.Proofs.Ythdcfeafkellcaa
