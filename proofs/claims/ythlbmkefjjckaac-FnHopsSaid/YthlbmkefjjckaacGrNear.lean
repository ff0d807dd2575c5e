/-
  'NearOf' of the program and of the model.
-/
import Derived.Test.YthlbmkefjjckaacGrNearM
namespace Go.Proofs.Ythlbmkefjjckaac
open Go.RowKit
set_option linter.unusedVariables false

set_option maxHeartbeats 1000000 in
theorem costB_any (W : World) (v : Value) (l : List EdD) (a b : Int) (h : ReadsEd W v l) (hl : l.length ≤ 2097152) :
    Calls Try.prog 137 #[v, .int .i64 a, .int .i64 b] W fun e W' => e = .returned (.int .i64 (costB l a b)) ∧ Below W.heap.size W W' := by
  obtain ⟨z, hz⟩ : ∃ z, z = lastEd l (min a b) (max a b) := ⟨_, rfl⟩
  have CL : Hid (∀ x y, x = min a b → y = max a b → Calls Try.prog 145 #[v, .int .i64 x, .int .i64 y] W fun e W' => e = .returned (.int .i64 z) ∧ Below W.heap.size W W') := fun x y hx hy => by
    rw [hz, hx, hy]
    exact lastCostEd_any W v l _ _ h hl
  unfold costB
  rw [← hz]
  obtain ⟨a1, cap1, rfl⟩ := h.shape
  clear hz h
  rcases Int.lt_trichotomy a b with hlt | hlt | hlt
  · have h1 : a ≤ b := by omega
    have h2 : ¬ b ≤ a := by omega
    have hm : Hid (a = min a b) := by show _ = _; omega
    have hM : Hid (b = max a b) := by show _ = _; omega
    clear hlt
    go_enter Try.func137, Try.ntmps137
    go_wp2_with fail
    refine (CL.out a b hm.out hM.out).mono ?_
    rintro e w1 ⟨rfl, hb1⟩
    have HB : Hid (Below W.heap.size W w1) := hb1
    clear hb1
    go_wp2
    go_ret
    exact ⟨rfl, HB.out⟩
  · subst hlt
    have hlt : a = a := rfl
    have h1 : a ≤ a := Int.le_refl _
    have hm : Hid (a = min a a) := by show _ = _; omega
    have hM : Hid (a = max a a) := by show _ = _; omega
    clear hlt
    go_enter Try.func137, Try.ntmps137
    go_wp2_with fail
    refine (CL.out a a hm.out hM.out).mono ?_
    rintro e w1 ⟨rfl, hb1⟩
    have HB : Hid (Below W.heap.size W w1) := hb1
    clear hb1
    go_wp2
    go_ret
    exact ⟨rfl, HB.out⟩
  · have h1 : b ≤ a := by omega
    have h2 : ¬ a ≤ b := by omega
    have hm : Hid (b = min a b) := by show _ = _; omega
    have hM : Hid (a = max a b) := by show _ = _; omega
    clear hlt
    go_enter Try.func137, Try.ntmps137
    go_wp2_with fail
    refine (CL.out b a hm.out hM.out).mono ?_
    rintro e w1 ⟨rfl, hb1⟩
    have HB : Hid (Below W.heap.size W w1) := hb1
    clear hb1
    go_wp2
    go_ret
    exact ⟨rfl, HB.out⟩

set_option maxHeartbeats 1000000 in
theorem isBetw_any (W : World) (v : Value) (l : List EdD) (a b : Int) (h : ReadsEd W v l) (hl : l.length ≤ 2097152) :
    Calls Try.prog 127 #[v, .int .i64 a, .int .i64 b] W fun e W' => e = .returned (.bool (isBetw l a b)) ∧ Below W.heap.size W W' := by
  have CL := costB_any W v l a b h hl
  unfold isBetw
  unfold costB at CL
  generalize lastEd l (min a b) (max a b) = z at *
  obtain ⟨a1, cap1, rfl⟩ := h.shape
  clear h
  go_enter Try.func127, Try.ntmps127
  go_wp2_with (go_at_call 137; refine CL.mono ?_; rintro e w1 ⟨rfl, hb1⟩)
  have HB : Hid (Below W.heap.size W w1) := hb1
  clear hb1
  go_ret
  exact ⟨rfl, HB.out⟩

set_option maxRecDepth 100000 in
set_option maxHeartbeats 2000000 in
theorem nearOf_any (W : World) (v : Value) (n : Nat) (l : List EdD) (a : Int) (h : ReadsEd W v l) (hl : l.length ≤ 2097152) (hn : n ≤ 12) :
    Calls Try.prog 93 #[.int .i64 (n : Int), v, .int .i64 a] W fun e W' => ∃ v', e = .returned v' ∧ Own W' W.heap.size v' (nearTo l a n) ∧ Below W.heap.size W W' := by
  have HR : Hid (∀ w', Since W.heap.size W w' → ReadsEd w' v l) := fun w' hs => h.below hs.1
  obtain ⟨a1, c1, rfl⟩ := h.shape
  have HS0 : Hid (Since W.heap.size W W) := Since.start W
  clear h
  go_enter Try.func93, Try.ntmps93
  go_wp2
  go_loopw [7, 10] (fun u i wr => ∃ k : Nat, k ≤ n ∧ i = .int .i64 k ∧ Hid (Own wr W.heap.size u (nearTo l a k) ∧ Since W.heap.size W wr)) (fun _ i _ => n - (intOf i).toNat)
  case atStart => exact ⟨0, Nat.zero_le _, rfl, Own.nil _ _, HS0.out⟩
  case round =>
    obtain ⟨k, hk, rfl, HK⟩ := hrel
    obtain ⟨a2, c2, rfl⟩ := HK.out.1.shape
    by_cases hlt : k < n
    · have hlt' : (k : Int) < (n : Int) := by omega
      have HZ := nearTo_succ l a k
      have HL : Hid ((nearTo l a k).length ≤ 12) := Nat.le_trans (nearTo_len l a k) (by omega)
      have CB : Hid (∀ w, Since W.heap.size W w → Calls Try.prog 127 #[.slice a1 l.length c1, .int .i64 a, .int .i64 (k : Int)] w fun e w' => e = .returned (.bool (isBetw l a (k : Int))) ∧ Below w.heap.size w w') := fun w hs => isBetw_any w _ l a k (HR.out _ hs) hl
      cases hb : isBetw l a (k : Int) with
      | false =>
        rw [hb] at CB HZ
        have HZ1 : Hid (nearTo l a (k + 1) = nearTo l a k) := HZ.trans (by simp)
        clear HZ hb
        go_wp2_with fail
        refine (CB.out _ HK.out.2).mono ?_
        rintro e wq ⟨rfl, hbq⟩
        have SQ : Hid (Since W.heap.size W wq) := HK.out.2.step hbq
        have OQ : Hid (Own wq W.heap.size (.slice a2 (nearTo l a k).length c2) (nearTo l a (k + 1))) := by
          show Own _ _ _ _
          rw [HZ1.out]
          exact HK.out.1.below hbq
        clear HK hbq
        go_wp2
        go_roundw
        case rel => exact ⟨k + 1, by omega, by go_num, OQ.out, SQ.out⟩
        case measure => simp [intOf]; omega
      | true =>
        rw [hb] at CB HZ
        have HZ1 : Hid (nearTo l a (k + 1) = nearTo l a k ++ [(k : Int)]) := HZ
        clear HZ hb
        go_wp2_with fail
        refine (CB.out _ HK.out.2).mono ?_
        rintro e wq ⟨rfl, hbq⟩
        have SQ : Hid (Since W.heap.size W wq) := HK.out.2.step hbq
        have OQ : Hid (Own wq W.heap.size (.slice a2 (nearTo l a k).length c2) (nearTo l a k)) := HK.out.1.below hbq
        clear HK hbq
        generalize nearTo l a k = z0 at *
        have hb1 : Below wq.heap.size wq (wq.alloc (.cells #[.int .i64 (k : Int)] 3)) := (Below.refl _ wq).alloc (Nat.le_refl _) _
        have HC : Hid (∀ ty, ∃ v' w', (Builtin.append_ #[35, 35] ty #[.slice a2 z0.length c2, .slice (some ⟨wq.heap.size, 0, none⟩) 1 1]).run Try.prog (wq.alloc (.cells #[.int .i64 (k : Int)] 3)) = .ok v' w' ∧ Grown (wq.alloc (.cells #[.int .i64 (k : Int)] 3)) W.heap.size 3 1 (.slice a2 z0.length c2) (z0 ++ [(k : Int)]).length ((z0 ++ [(k : Int)]).map (Value.int .i64)) v' w') := fun ty =>
          run_app1 _ _ _ z0 (OQ.out.below hb1) wq.heap.size 1 (k : Int) (new_cell _ _ _) (by have := HL.out; omega) (by have := SQ.out.2; simp; omega) ty
        have SQ1 : Hid (Since W.heap.size W (wq.alloc (.cells #[.int .i64 (k : Int)] 3))) := SQ.out.step hb1
        clear hb1
        go_wp2_with (at_builtin; refine list_app (by rfl) (.tmp 17) (.tmp 19) 35 (by rfl) (.slice a2 z0.length c2) (.slice (some ⟨wq.heap.size, 0, none⟩) 1 1) (by rfl) (by rfl) _ HC.out ?_; intro v5 w5 hg5; have HF : Hid (Own w5 W.heap.size v5 (nearTo l a (k + 1)) ∧ Since W.heap.size W w5) := ⟨by rw [HZ1.out]; exact hg5.own, ⟨SQ1.out.1.trans hg5.below, Nat.le_trans SQ1.out.2 hg5.size⟩⟩; clear hg5)
        go_roundw
        case rel => exact ⟨k + 1, by omega, by go_num, HF.out⟩
        case measure => simp [intOf]; omega
    · have hlt' : ¬ (k : Int) < (n : Int) := by omega
      have e : k = n := by omega
      subst e
      go_wp2
      go_ret
      exact ⟨_, rfl, HK.out.1, HK.out.2.1⟩
end Go.Proofs.Ythlbmkefjjckaac
