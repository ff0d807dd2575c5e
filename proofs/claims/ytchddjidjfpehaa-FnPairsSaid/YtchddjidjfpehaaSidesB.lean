/-
  A pair's sides, as the program holds them: 'silentSide', 'isState', 'isSide', 'isGood', 'afterTick'.
-/
import Derived.Test.YtchddjidjfpehaaSides
import Derived.Deep.RegionWith
namespace Go.Proofs.Ytchddjidjfpehaa
open Go.RowKit

set_option maxHeartbeats 1000000 in
theorem afterTick_any (s l : Int) (W : World) (h : goodS s l = true) : Calls Try.prog 89 #[.agg #[.int .i64 s, .int .i64 l]] W fun e W' => e = .returned (.agg #[.int .i64 (tickS s l), .int .i64 (tickL l)]) ∧ Below W.heap.size W W' := by
  have HB : Hid (Since W.heap.size W ((W.alloc (.cells #[.int .i64 s, .int .i64 l] 98)).alloc (.cells #[.int .i64 0, .int .i64 0] 98))) := ((Since.start W).step ((Below.refl _ W).alloc (Nat.le_refl _) _)).step ((Below.refl _ _).alloc (Nat.le_refl _) _)
  have HC := goodS_cases s l h
  clear h
  by_cases h0 : l ≤ 1
  · rw [show tickS s l = 0 from if_pos h0, show tickL l = 0 from if_pos h0]
    by_cases hs : s = 0
    · subst hs
      obtain rfl : l = 0 := by omega
      clear HC h0
      go_enter Try.func89, Try.ntmps89
      go_wp2
      refine wp_region_any (by kernel_rfl) ?_
      change wpAny _ _ _ _ _ _ _ (World.drew _)
      refine wpAny_ready (rs := [0, 1]) (by kernel_rfl) (by simp) ?_
      refine AllReady.cons rfl (fun K hK => ?_) (AllReady.cons rfl (fun K hK => ?_) AllReady.nil)
      · go_simp
        refine hK _ _ ?_
        clear hK K
        refine wpAny_ready (rs := [1]) (by kernel_rfl) (by simp) ?_
        refine AllReady.cons rfl (fun K hK => ?_) AllReady.nil
        go_simp
        go_wp2_with (go_at_call 84; refine (silentSide_any _).mono ?_; rintro e w1 ⟨rfl, hb⟩; obtain ⟨hc, hf⟩ := bcells hb)
        refine wpAny_ready (rs := [2]) (by kernel_rfl) (by simp) ?_
        refine AllReady.cons rfl (fun K hK => ?_) AllReady.nil
        go_simp
        refine hK _ _ ?_
        clear hK K
        refine wpAny_ready (rs := [3]) (by kernel_rfl) (by simp) ?_
        refine AllReady.cons rfl (fun K hK => ?_) AllReady.nil
        go_simp
        refine hK _ _ ?_
        clear hK K
        refine wpAny_take (i := 4) (v := undef) rfl (by kernel_rfl) (by kernel_rfl) (by kernel_rfl) (fun _ _ _ h => h) (Or.inr ⟨by kernel_rfl, rfl⟩) ?_
        refine wpAny_take (i := 5) (v := undef) rfl (by kernel_rfl) (by kernel_rfl) (by kernel_rfl) (fun _ _ _ h => h) (Or.inr ⟨by kernel_rfl, rfl⟩) ?_
        refine wpAny_take (i := 6) (v := undef) rfl (by kernel_rfl) (by kernel_rfl) (by kernel_rfl) (fun _ _ _ h => h) (Or.inr ⟨by kernel_rfl, rfl⟩) ?_
        refine wpAny_ready (rs := [7]) (by kernel_rfl) (by simp) ?_
        refine AllReady.cons rfl (fun K hK => ?_) AllReady.nil
        go_simp
        refine hK _ _ ?_
        clear hK K
        refine wpAny_done (by kernel_rfl) ?_ _
        have HS : Hid (Since W.heap.size W w1) := HB.out.drew.step hb
        have HL : W.heap.size + 1 < w1.heap.size := by have := hb.size; simp at this; omega
        clear hb
        go_wp2_with fail
        refine (silentSide_any _).mono ?_
        rintro e w2 ⟨rfl, hb⟩
        have HS2 : Hid (Since W.heap.size W w2) := HS.out.step hb
        obtain ⟨hc2, hf2⟩ := bcells hb
        clear hb
        go_wp2
        refine bodyPost_ret (v := .agg #[.int .i64 0, .int .i64 0]) (by simp [results, Try.results89, go_sem, hc2, hc, HL]) rfl ⟨rfl, ?_⟩
        exact (HS2.out.1.setCell (by simp) _).setCell (by simp) _
      · go_simp
        go_wp2_with (go_at_call 84; refine (silentSide_any _).mono ?_; rintro e w1 ⟨rfl, hb⟩; obtain ⟨hc, hf⟩ := bcells hb)
        refine wpAny_ready (rs := [0]) (by kernel_rfl) (by simp) ?_
        refine AllReady.cons rfl (fun K hK => ?_) AllReady.nil
        go_simp
        refine hK _ _ ?_
        clear hK K
        refine wpAny_ready (rs := [2]) (by kernel_rfl) (by simp) ?_
        refine AllReady.cons rfl (fun K hK => ?_) AllReady.nil
        go_simp
        refine hK _ _ ?_
        clear hK K
        refine wpAny_ready (rs := [3]) (by kernel_rfl) (by simp) ?_
        refine AllReady.cons rfl (fun K hK => ?_) AllReady.nil
        go_simp
        refine hK _ _ ?_
        clear hK K
        refine wpAny_take (i := 4) (v := undef) rfl (by kernel_rfl) (by kernel_rfl) (by kernel_rfl) (fun _ _ _ h => h) (Or.inr ⟨by kernel_rfl, rfl⟩) ?_
        refine wpAny_take (i := 5) (v := undef) rfl (by kernel_rfl) (by kernel_rfl) (by kernel_rfl) (fun _ _ _ h => h) (Or.inr ⟨by kernel_rfl, rfl⟩) ?_
        refine wpAny_take (i := 6) (v := undef) rfl (by kernel_rfl) (by kernel_rfl) (by kernel_rfl) (fun _ _ _ h => h) (Or.inr ⟨by kernel_rfl, rfl⟩) ?_
        refine wpAny_ready (rs := [7]) (by kernel_rfl) (by simp) ?_
        refine AllReady.cons rfl (fun K hK => ?_) AllReady.nil
        go_simp
        refine hK _ _ ?_
        clear hK K
        refine wpAny_done (by kernel_rfl) ?_ _
        have HS : Hid (Since W.heap.size W w1) := HB.out.drew.step hb
        have HL : W.heap.size + 1 < w1.heap.size := by have := hb.size; simp at this; omega
        clear hb
        go_wp2_with fail
        refine (silentSide_any _).mono ?_
        rintro e w2 ⟨rfl, hb⟩
        have HS2 : Hid (Since W.heap.size W w2) := HS.out.step hb
        obtain ⟨hc2, hf2⟩ := bcells hb
        clear hb
        go_wp2
        refine bodyPost_ret (v := .agg #[.int .i64 0, .int .i64 0]) (by simp [results, Try.results89, go_sem, hc2, hc, HL]) rfl ⟨rfl, ?_⟩
        exact (HS2.out.1.setCell (by simp) _).setCell (by simp) _
    · obtain rfl : l = 1 := by omega
      clear HC h0
      go_enter Try.func89, Try.ntmps89
      go_wp2
      go_region_with (go_at_call 84; refine (silentSide_any _).mono ?_; rintro e w1 ⟨rfl, hb⟩; obtain ⟨hc, hf⟩ := bcells hb)
      all_goals
        have HS : Hid (Since W.heap.size W w1) := HB.out.drew.step hb
        have HL : W.heap.size + 1 < w1.heap.size := by have := hb.size; simp at this; omega
        clear hb
        go_wp2_with fail
        refine (silentSide_any _).mono ?_
        rintro e w2 ⟨rfl, hb⟩
        have HS2 : Hid (Since W.heap.size W w2) := HS.out.step hb
        obtain ⟨hc2, hf2⟩ := bcells hb
        clear hb
        go_wp2
        refine bodyPost_ret (v := .agg #[.int .i64 0, .int .i64 0]) (by simp [results, Try.results89, go_sem, hc2, hc, HL]) rfl ⟨rfl, ?_⟩
        exact (HS2.out.1.setCell (by simp) _).setCell (by simp) _
  · rw [show tickS s l = s from if_neg h0, show tickL l = l - 1 from if_neg h0]
    have hs : ¬ s = 0 := by omega
    have h3 : l ≤ 3 := by omega
    have h1 : ¬ l ≤ 1 := h0
    clear HC
    go_enter Try.func89, Try.ntmps89
    go_wp2
    go_region_with (go_at_call 84; refine (silentSide_any _).mono ?_; rintro e w1 ⟨rfl, hb⟩; obtain ⟨hc, hf⟩ := bcells hb)
    all_goals
      have HS : Hid (Since W.heap.size W w1) := HB.out.drew.step hb
      have HL : W.heap.size + 1 < w1.heap.size := by have := hb.size; simp at this; omega
      clear hb
      go_wp2
      refine bodyPost_ret (v := .agg #[.int .i64 s, .int .i64 (l - 1)]) (by simp [results, Try.results89, go_sem, hc]) rfl ⟨rfl, ?_⟩
      exact (HS.out.1.setCell (by simp) _).setCell (by simp) _
end Go.Proofs.Ytchddjidjfpehaa
