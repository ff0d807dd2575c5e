/-
  'AskFor' of the model.
-/
import Derived.Test.YtkpdiojomgiocacLsAskM
namespace Go.Proofs.Ytkpdiojomgiocac
open Go.RowKit
set_option linter.unusedVariables false

set_option maxRecDepth 100000 in
set_option maxHeartbeats 4000000 in
theorem specAskFor_any (W : World) (v1 v2 : Value) (l : List HvD) (s : SmD) (h1 : LiesHv W v1 l) (h2 : LiesHv W v2 s.Hs) (hl : l.length ≤ 1048576) (hls : s.Hs.length ≤ 1048576) :
    Calls Try.prog 12 #[v1, .agg #[.int .i64 s.Lo, .int .i64 s.Hi, v2]] W (AskPost W (asksOut l s) (moreOut l s) (askOk l s)) := by
  obtain ⟨a1, c1, rfl⟩ := h1.shape
  obtain ⟨a2, c2, rfl⟩ := h2.shape
  have HB1 : Hid (Below W.heap.size W (W.alloc (.cells #[.int .i64 s.Lo, .int .i64 s.Hi, .slice a2 s.Hs.length c2] 32))) := (Below.refl _ W).alloc (Nat.le_refl _) _
  have HX : Hid (∀ w', Since (W.alloc (.cells #[.int .i64 s.Lo, .int .i64 s.Hi, .slice a2 s.Hs.length c2] 32)).heap.size (W.alloc (.cells #[.int .i64 s.Lo, .int .i64 s.Hi, .slice a2 s.Hs.length c2] 32)) w' → w'.cell? ⟨W.heap.size, 0, none⟩ = some (.int .i64 s.Lo) ∧ w'.cell? ⟨W.heap.size, 1, none⟩ = some (.int .i64 s.Hi) ∧ w'.cell? ⟨W.heap.size, 2, none⟩ = some (.slice a2 s.Hs.length c2)) := fun w' hs => smNew W _ _ _ w' hs.1
  have H1 : Hid (∀ w', Since (W.alloc (.cells #[.int .i64 s.Lo, .int .i64 s.Hi, .slice a2 s.Hs.length c2] 32)).heap.size (W.alloc (.cells #[.int .i64 s.Lo, .int .i64 s.Hi, .slice a2 s.Hs.length c2] 32)) w' → LiesHv w' (.slice a1 l.length c1) l) := fun w' hb => (h1.below HB1.out).below hb.1
  have H2 : Hid (∀ w', Since (W.alloc (.cells #[.int .i64 s.Lo, .int .i64 s.Hi, .slice a2 s.Hs.length c2] 32)).heap.size (W.alloc (.cells #[.int .i64 s.Lo, .int .i64 s.Hi, .slice a2 s.Hs.length c2] 32)) w' → LiesHv w' (.slice a2 s.Hs.length c2) s.Hs) := fun w' hb => (h2.below HB1.out).below hb.1
  have SA0 : Hid (Since (W.alloc (.cells #[.int .i64 s.Lo, .int .i64 s.Hi, .slice a2 s.Hs.length c2] 32)).heap.size (W.alloc (.cells #[.int .i64 s.Lo, .int .i64 s.Hi, .slice a2 s.Hs.length c2] 32)) (W.alloc (.cells #[.int .i64 s.Lo, .int .i64 s.Hi, .slice a2 s.Hs.length c2] 32))) := Since.start _
  clear h1 h2
  have CG : Hid (∀ w', Since (W.alloc (.cells #[.int .i64 s.Lo, .int .i64 s.Hi, .slice a2 s.Hs.length c2] 32)).heap.size (W.alloc (.cells #[.int .i64 s.Lo, .int .i64 s.Hi, .slice a2 s.Hs.length c2] 32)) w' → Calls Try.prog 23 #[.slice a1 l.length c1] w' fun e W' => e = .returned (.bool (goodHv l)) ∧ Below w'.heap.size w' W') := fun w' hb => specGoodHv_any w' _ l (H1.out w' hb).reads (by omega)
  have CS : Hid (∀ w', Since (W.alloc (.cells #[.int .i64 s.Lo, .int .i64 s.Hi, .slice a2 s.Hs.length c2] 32)).heap.size (W.alloc (.cells #[.int .i64 s.Lo, .int .i64 s.Hi, .slice a2 s.Hs.length c2] 32)) w' → Calls Try.prog 15 #[.agg #[.int .i64 s.Lo, .int .i64 s.Hi, .slice a2 s.Hs.length c2]] w' fun e W' => e = .returned (.bool (goodSm s)) ∧ Below w'.heap.size w' W') := fun w' hb => specGoodSm_any w' _ s (H2.out w' hb) (by omega)
  cases hg : goodHv l with
  | false =>
    have ho : askOk l s = false := by unfold askOk; rw [hg]; rfl
    rw [(ask_no ho).1, (ask_no ho).2, ho]
    rw [hg] at CG
    clear hg ho
    go_enter Try.func12, Try.ntmps12
    go_wp2_with fail
    refine (CG.out _ SA0.out).mono ?_
    rintro e w1 ⟨rfl, hb1⟩
    have S1 : Hid (Since (W.alloc (.cells #[.int .i64 s.Lo, .int .i64 s.Hi, .slice a2 s.Hs.length c2] 32)).heap.size (W.alloc (.cells #[.int .i64 s.Lo, .int .i64 s.Hi, .slice a2 s.Hs.length c2] 32)) w1) := SA0.out.step hb1
    clear hb1
    go_wp2
    refine bodyPost_ret (v := .tuple #[.slice none 0 0, .slice none 0 0, .bool false]) (by simp [results, Try.results12, go_sem]) rfl ?_
    exact AskPost.zero (HB1.out.trans (S1.out.1.mono HB1.out.size))
  | true =>
    rw [hg] at CG
    cases hgs : goodSm s with
    | false =>
      have ho : askOk l s = false := by unfold askOk; rw [hgs, Bool.and_false]
      rw [(ask_no ho).1, (ask_no ho).2, ho]
      rw [hgs] at CS
      clear hg hgs ho
      go_enter Try.func12, Try.ntmps12
      go_wp2_with fail
      refine (CG.out _ SA0.out).mono ?_
      rintro e w1 ⟨rfl, hb1⟩
      have S1 : Hid (Since (W.alloc (.cells #[.int .i64 s.Lo, .int .i64 s.Hi, .slice a2 s.Hs.length c2] 32)).heap.size (W.alloc (.cells #[.int .i64 s.Lo, .int .i64 s.Hi, .slice a2 s.Hs.length c2] 32)) w1) := SA0.out.step hb1
      obtain ⟨q0, q1, q2⟩ := HX.out w1 S1.out
      clear hb1
      go_wp2_with fail
      refine (CS.out _ S1.out).mono ?_
      rintro e w2 ⟨rfl, hb2⟩
      have S2 : Hid (Since (W.alloc (.cells #[.int .i64 s.Lo, .int .i64 s.Hi, .slice a2 s.Hs.length c2] 32)).heap.size (W.alloc (.cells #[.int .i64 s.Lo, .int .i64 s.Hi, .slice a2 s.Hs.length c2] 32)) w2) := S1.out.step hb2
      clear hb2 q0 q1 q2
      go_wp2
      refine bodyPost_ret (v := .tuple #[.slice none 0 0, .slice none 0 0, .bool false]) (by simp [results, Try.results12, go_sem]) rfl ?_
      exact AskPost.zero (HB1.out.trans (S2.out.1.mono HB1.out.size))
    | true =>
      rw [hgs] at CS
      have ho : askOk l s = true := by unfold askOk; rw [hg, hgs]; rfl
      have hgood := ask_good ho
      rw [(ask_yes ho).1, (ask_yes ho).2, ho]
      have hl2 := rise_len hgood.1.1 hgood.1.2
      have hs2 := rise_len hgood.2.1 hgood.2.2
      have CN : Hid (∀ w', Since (W.alloc (.cells #[.int .i64 s.Lo, .int .i64 s.Hi, .slice a2 s.Hs.length c2] 32)).heap.size (W.alloc (.cells #[.int .i64 s.Lo, .int .i64 s.Hi, .slice a2 s.Hs.length c2] 32)) w' → Calls Try.prog 35 #[.slice a1 l.length c1, .agg #[.int .i64 s.Lo, .int .i64 s.Hi, .slice a2 s.Hs.length c2]] w' (AskPost2 w' (fromsOf (newsHv s.Hs l)) (beyondHv l s))) := fun w' hb => l7Ask_any w' _ _ l s (H1.out w' hb) (H2.out w' hb) (by omega) (by omega)
      clear hl2 hs2
      clear hg hgs ho hgood
      go_enter Try.func12, Try.ntmps12
      go_wp2_with fail
      refine (CG.out _ SA0.out).mono ?_
      rintro e w1 ⟨rfl, hb1⟩
      have S1 : Hid (Since (W.alloc (.cells #[.int .i64 s.Lo, .int .i64 s.Hi, .slice a2 s.Hs.length c2] 32)).heap.size (W.alloc (.cells #[.int .i64 s.Lo, .int .i64 s.Hi, .slice a2 s.Hs.length c2] 32)) w1) := SA0.out.step hb1
      obtain ⟨q0, q1, q2⟩ := HX.out w1 S1.out
      clear hb1
      go_wp2_with fail
      refine (CS.out _ S1.out).mono ?_
      rintro e w2 ⟨rfl, hb2⟩
      have S2 : Hid (Since (W.alloc (.cells #[.int .i64 s.Lo, .int .i64 s.Hi, .slice a2 s.Hs.length c2] 32)).heap.size (W.alloc (.cells #[.int .i64 s.Lo, .int .i64 s.Hi, .slice a2 s.Hs.length c2] 32)) w2) := S1.out.step hb2
      clear hb2 q0 q1 q2
      obtain ⟨q0, q1, q2⟩ := HX.out w2 S2.out
      go_wp2_with fail
      refine (CN.out _ S2.out).mono ?_
      rintro e w3 ⟨u1, u2, rfl, hu1, hu2, hb3⟩
      have hWs : W.heap.size ≤ w2.heap.size := Nat.le_trans HB1.out.size S2.out.2
      have HF : Hid (Own w3 W.heap.size u1 (fromsOf (newsHv s.Hs l)) ∧ OwnHv w3 W.heap.size u2 (beyondHv l s) ∧ Below W.heap.size W w3) := ⟨rowMono hu1 hWs, hu2.mono hWs, HB1.out.trans ((S2.out.step hb3).1.mono HB1.out.size)⟩
      clear hu1 hu2 hb3 q0 q1 q2 hWs
      obtain ⟨a4, c4, rfl⟩ := rowShape HF.out.1
      obtain ⟨a5, c5, rfl⟩ := rowShape HF.out.2.1
      go_wp2
      refine bodyPost_ret (v := .tuple #[.slice a4 (fromsOf (newsHv s.Hs l)).length c4, .slice a5 (beyondHv l s).length c5, .bool true]) (by simp [results, Try.results12, go_sem]) rfl ?_
      exact ⟨_, _, rfl, HF.out.1, HF.out.2.1, ownsApart HF.out.1 HF.out.2.1, HF.out.2.2⟩
end Go.Proofs.Ytkpdiojomgiocac
