/-
  'NewestOf' of the model.
-/
import Derived.Test.YthdcfeafkellcabNewI
import Derived.Test.YthdcfeafkellcabHand
namespace Go.Proofs.Ythdcfeafkellcab
open Go.RowKit
set_option linter.unusedVariables false

theorem betterN_one (y x : ItD) : (betterN y x == 1) = betterI y x := by
  unfold betterN
  cases betterI y x <;> simp
  split <;> (try split) <;> simp
theorem any_take_succ (l : List ItD) (p : ItD → Bool) (j : Nat) (hj : j < l.length) : (l.take (j + 1)).any p = ((l.take j).any p || p l[j]) := by
  rw [List.take_succ_eq_append_getElem hj, List.any_append]
  simp

set_option maxRecDepth 100000 in
set_option maxHeartbeats 8000000 in
theorem specNewest_any (W : World) (v : Value) (l : List ItD) (h : ReadsIt W v l) (hl : l.length ≤ 1048576) (ht : ∀ x ∈ l, x.text.size ≤ maxLen) :
    Calls Try.prog 47 #[v] W fun e W' => e = .returned (.tuple #[.agg #[.int .i64 (outNew l).frm, .int .i64 (outNew l).seq, .int .i64 (outNew l).age, .string (outNew l).text], .bool (mayNew l)]) ∧ Below W.heap.size W W' := by
  obtain ⟨o, ho⟩ : ∃ o, o = outNew l := ⟨_, rfl⟩
  obtain ⟨m, hm⟩ : ∃ m, m = mayNew l := ⟨_, rfl⟩
  rw [← ho, ← hm]
  have HR : Hid (∀ w', Since (W.alloc (.cells #[.int .i64 0, .int .i64 0, .int .i64 0, .string ⟨#[]⟩] 60)).heap.size (W.alloc (.cells #[.int .i64 0, .int .i64 0, .int .i64 0, .string ⟨#[]⟩] 60)) w' → Bx4 w' W.heap.size (.int .i64 0) (.int .i64 0) (.int .i64 0) (.string ⟨#[]⟩)) := fun w' hs => (Bx4.new _ _ _ _ _ _).below hs.1
  have HB0 : Hid (Since W.heap.size W (W.alloc (.cells #[.int .i64 0, .int .i64 0, .int .i64 0, .string ⟨#[]⟩] 60))) := (Since.start W).step ((Below.refl _ W).alloc (Nat.le_refl _) _)
  have HS0 : Hid (Since (W.alloc (.cells #[.int .i64 0, .int .i64 0, .int .i64 0, .string ⟨#[]⟩] 60)).heap.size (W.alloc (.cells #[.int .i64 0, .int .i64 0, .int .i64 0, .string ⟨#[]⟩] 60)) (W.alloc (.cells #[.int .i64 0, .int .i64 0, .int .i64 0, .string ⟨#[]⟩] 60))) := Since.start _
  obtain ⟨a1, cap1, rfl, hc1⟩ := h
  by_cases h1 : l = []
  · subst h1
    obtain ⟨e1, e2⟩ := newest_none (newest_no [] (fun j hj => by simp at hj))
    rw [← ho] at e1
    rw [← hm] at e2
    subst e1 e2
    simp only [List.length_nil]
    clear ho hm hc1 ht
    go_enter Try.func47, Try.ntmps47
    go_wp2
    refine wp_loop_rounds 1 ?_
    rw [rounds_succ]
    go_wp2
    refine wp_loop_rounds 1 ?_
    rw [rounds_succ]
    go_wp2
    refine bodyPost_ret (v := .tuple #[.agg #[.int .i64 0, .int .i64 0, .int .i64 0, .string ⟨#[]⟩], .bool false]) (by simp [results, Try.results47, go_sem]) rfl ⟨rfl, ?_⟩
    repeat (refine Below.setCell ?_ (by first | exact Nat.le_refl _ | exact Nat.le_succ _ | (simp; omega)) _)
    exact HB0.out.1
  · obtain ⟨g1, o1, rfl, hg1, hc1⟩ := hc1.resolve_left h1
    have hpos : 0 < l.length := List.length_pos_iff.2 h1
    have HC0 : Hid (∀ W1, Since W.heap.size W W1 → ∀ j (hj : j < l.length), ItAt W1 g1 (o1 + j * 4) l[j]) := fun W1 hS j hj => (hc1 j hj).below hg1 hS.1
    have HC1 : Hid (∀ w', Since (W.alloc (.cells #[.int .i64 0, .int .i64 0, .int .i64 0, .string ⟨#[]⟩] 60)).heap.size (W.alloc (.cells #[.int .i64 0, .int .i64 0, .int .i64 0, .string ⟨#[]⟩] 60)) w' → ∀ j (hj : j < l.length), ItAt w' g1 (o1 + j * 4) l[j]) := fun w' hS j hj => HC0.out w' (HB0.out.tran hS) j hj
    have HF0 : Hid (∀ w', Since (W.alloc (.cells #[.int .i64 0, .int .i64 0, .int .i64 0, .string ⟨#[]⟩] 60)).heap.size (W.alloc (.cells #[.int .i64 0, .int .i64 0, .int .i64 0, .string ⟨#[]⟩] 60)) w' → w'.cell? ⟨g1, o1, none⟩ = some (.int .i64 (headF l))) := fun w' hS => by
      have := (HC1.out w' hS 0 hpos).1
      rw [headF_get l hpos]
      simpa using this
    have HT : Hid (∀ x ∈ l, x.text.size ≤ maxLen) := ht
    have HBAD : Hid (l.all (oneB (headF l)) = false → o = zeroI ∧ m = false) := fun hh => by rw [ho, hm]; exact newest_none (newest_bad l (fun h => by rw [hh] at h; cases h.2))
    have HLONG : Hid (20 < l.length → o = zeroI ∧ m = false) := fun hh => by rw [ho, hm]; exact newest_none (newest_bad l (by omega))
    have HSQ : Hid (l.all (oneB (headF l)) = true → ∀ y ∈ l, seqB y.seq = true) := fun hall y hy => (goodI_parts (oneB_good (List.all_eq_true.1 hall y hy))).2.1
    have HNO : Hid ((∀ j (hj : j < l.length), outdoneB l l[j] = true) → o = zeroI ∧ m = false) := fun hh => by rw [ho, hm]; exact newest_none (newest_no l hh)
    have HAT : Hid (l.length ≤ 20 → l.all (oneB (headF l)) = true → ∀ k (hk : k < l.length), (∀ j (hj : j < l.length), j < k → outdoneB l l[j] = true) → outdoneB l l[k] = false → o = l[k] ∧ m = true) := fun h20 hall k hk h1 h2 => by rw [ho, hm]; exact newest_some (newest_at l ⟨h20, hall⟩ k hk h1 h2)
    clear ho hm hc1 ht hg1 h1 hpos HC0
    generalize headF l = f at *
    go_enter Try.func47, Try.ntmps47
    go_wp2
    generalize hW1 : (W.alloc (.cells #[.int .i64 0, .int .i64 0, .int .i64 0, .string ⟨#[]⟩] 60)) = W1 at *
    clear hW1
    go_loopw [13] (fun i wr => ∃ k : Nat, k ≤ l.length ∧ i = .int .i64 k ∧ Hid ((∀ j (hj : j < l.length), j < k → oneB f l[j] = true) ∧ Since W1.heap.size W1 wr)) (fun i _ => l.length - (intOf i).toNat)
    case atStart => exact ⟨0, Nat.zero_le _, rfl, fun j _ hj => absurd hj (Nat.not_lt_zero _), HS0.out⟩
    case round =>
      obtain ⟨k, hk, rfl, HK⟩ := hrel
      by_cases hlt : k < l.length
      · obtain ⟨hA, hS⟩ := HK.out
        have hlt' : (k : Int) < (l.length : Int) := by omega
        have h0l : 0 < l.length := by omega
        have h0l' : (0 : Int) < (l.length : Int) := by omega
        obtain ⟨q0, q1, q2, q3⟩ := HC1.out wr hS k hlt
        have HTX : Hid (l[k].text.size ≤ maxLen) := HT.out _ (List.getElem_mem hlt)
        have HOK : Hid (oneB f l[k] = true → ∀ j (hj : j < l.length), j < k + 1 → oneB f l[j] = true) := fun ho j hj hk1 => by
          by_cases e : j = k
          · subst e; exact ho
          · exact hA j hj (by omega)
        have HNO : Hid (oneB f l[k] = false → l.all (oneB f) = false) := fun h => by
          rw [← Bool.not_eq_true, List.all_eq_true]
          exact fun hall => by rw [hall _ (List.getElem_mem hlt)] at h; cases h
        generalize l[k] = x at *
        have HS1 : Hid (Since W1.heap.size W1 (wr.alloc (.cells #[.int .i64 x.frm, .int .i64 x.seq, .int .i64 x.age, .string x.text] 60))) := hS.step ((Below.refl _ wr).alloc (Nat.le_refl _) _)
        have HX : Hid (∀ w', Since (wr.alloc (.cells #[.int .i64 x.frm, .int .i64 x.seq, .int .i64 x.age, .string x.text] 60)).heap.size (wr.alloc (.cells #[.int .i64 x.frm, .int .i64 x.seq, .int .i64 x.age, .string x.text] 60)) w' → Bx4 w' wr.heap.size (.int .i64 x.frm) (.int .i64 x.seq) (.int .i64 x.age) (.string x.text)) := fun w' hs => (Bx4.new _ _ _ _ _ _).below hs.1
        have HY : Hid (∀ w', Since (wr.alloc (.cells #[.int .i64 x.frm, .int .i64 x.seq, .int .i64 x.age, .string x.text] 60)).heap.size (wr.alloc (.cells #[.int .i64 x.frm, .int .i64 x.seq, .int .i64 x.age, .string x.text] 60)) w' → w'.cell? ⟨g1, o1, none⟩ = some (.int .i64 f)) := fun w' hs => HF0.out w' (HS1.out.tran hs)
        clear hA hS HK
        cases hgd : goodI x with
        | false =>
          have HF : Hid (l.all (oneB f) = false) := HNO.out (by unfold oneB; rw [hgd]; rfl)
          have CG : Hid (∀ w', Calls Try.prog 44 #[.agg #[.int .i64 x.frm, .int .i64 x.seq, .int .i64 x.age, .string x.text]] w' fun e w2 => e = .returned (.bool false) ∧ Below w'.heap.size w' w2) := fun w' => by have := specGoodItem_any w' x HTX.out; rw [hgd] at this; exact this
          clear hgd HOK HNO
          go_wp2
          have SA0 := Since.start (wr.alloc (.cells #[.int .i64 x.frm, .int .i64 x.seq, .int .i64 x.age, .string x.text] 60))
          refine wp_region_held_drew (S := (fun w' => (w'.cell? ⟨wr.heap.size, 0, none⟩ = some (.int .i64 x.frm) ∧ w'.cell? ⟨wr.heap.size, 1, none⟩ = some (.int .i64 x.seq) ∧ w'.cell? ⟨wr.heap.size, 2, none⟩ = some (.int .i64 x.age) ∧ w'.cell? ⟨wr.heap.size, 3, none⟩ = some (.string x.text)) ∧ w'.cell? ⟨g1, o1, none⟩ = some (.int .i64 f))) (by kernel_rfl) ?_ (fun hHeld => ?_)
          · exact ⟨(HX.out _ SA0.drew).cells, HY.out _ SA0.drew⟩
          refine handRead 0 (some 17) (.agg #[.int .i64 x.frm, .int .i64 x.seq, .int .i64 x.age, .string x.text]) rfl rfl (by kernel_rfl) (by kernel_rfl) (by kernel_rfl) (fun _ _ _ h => h) (by kernel_rfl) (by assumption) ?_ ?_
          · intro w hSw
            (try dsimp only at hSw)
            go_simp
          simp only [Act.put, List.setIfInBounds_toArray, List.set_cons_zero, List.set_cons_succ]
          refine handCall 1 (some 18) 44 #[.agg #[.int .i64 x.frm, .int .i64 x.seq, .int .i64 x.age, .string x.text]] (by kernel_rfl) rfl rfl (by kernel_rfl) (by simp [go_sem]) ((CG.out _).mono ?_)
          rintro e w1 ⟨rfl, hb1⟩
          have SA1 := SA0.drew.step hb1
          clear hHeld
          refine ⟨_, rfl, (by exact ⟨(HX.out _ SA1).cells, HY.out _ SA1⟩), fun hHeld => ?_⟩
          simp only [Act.put, List.setIfInBounds_toArray, List.set_cons_zero, List.set_cons_succ]
          refine handRead 2 (some 19) (.bool true) rfl rfl (by kernel_rfl) (by kernel_rfl) (by kernel_rfl) (fun _ _ _ h => h) (by kernel_rfl) (by assumption) ?_ ?_
          · intro w hSw
            (try dsimp only at hSw)
            go_simp
          simp only [Act.put, List.setIfInBounds_toArray, List.set_cons_zero, List.set_cons_succ]
          refine handRead 3 (some 20) (.bool true) rfl rfl (by kernel_rfl) (by kernel_rfl) (by kernel_rfl) (fun _ _ _ h => h) (by kernel_rfl) (by assumption) ?_ ?_
          · intro w hSw
            (try dsimp only at hSw)
            go_simp
          simp only [Act.put, List.setIfInBounds_toArray, List.set_cons_zero, List.set_cons_succ]
          refine handSkip 4 (some 21) rfl rfl (by kernel_rfl) (by kernel_rfl) (by kernel_rfl) (fun _ _ _ h => h) (by kernel_rfl) (by assumption) ?_
          simp only [Act.put, List.setIfInBounds_toArray, List.set_cons_zero, List.set_cons_succ]
          refine handSkip 5 (some 22) rfl rfl (by kernel_rfl) (by kernel_rfl) (by kernel_rfl) (fun _ _ _ h => h) (by kernel_rfl) (by assumption) ?_
          simp only [Act.put, List.setIfInBounds_toArray, List.set_cons_zero, List.set_cons_succ]
          refine handSkip 6 (some 23) rfl rfl (by kernel_rfl) (by kernel_rfl) (by kernel_rfl) (fun _ _ _ h => h) (by kernel_rfl) (by assumption) ?_
          simp only [Act.put, List.setIfInBounds_toArray, List.set_cons_zero, List.set_cons_succ]
          refine handSkip 7 (some 24) rfl rfl (by kernel_rfl) (by kernel_rfl) (by kernel_rfl) (fun _ _ _ h => h) (by kernel_rfl) (by assumption) ?_
          simp only [Act.put, List.setIfInBounds_toArray, List.set_cons_zero, List.set_cons_succ]
          refine handSkip 8 (some 25) rfl rfl (by kernel_rfl) (by kernel_rfl) (by kernel_rfl) (fun _ _ _ h => h) (by kernel_rfl) (by assumption) ?_
          simp only [Act.put, List.setIfInBounds_toArray, List.set_cons_zero, List.set_cons_succ]
          refine handSkip 9 (some 26) rfl rfl (by kernel_rfl) (by kernel_rfl) (by kernel_rfl) (fun _ _ _ h => h) (by kernel_rfl) (by assumption) ?_
          simp only [Act.put, List.setIfInBounds_toArray, List.set_cons_zero, List.set_cons_succ]
          refine handSkip 10 (some 27) rfl rfl (by kernel_rfl) (by kernel_rfl) (by kernel_rfl) (fun _ _ _ h => h) (by kernel_rfl) (by assumption) ?_
          simp only [Act.put, List.setIfInBounds_toArray, List.set_cons_zero, List.set_cons_succ]
          refine handRead 11 (some 28) (.bool true) rfl rfl (by kernel_rfl) (by kernel_rfl) (by kernel_rfl) (fun _ _ _ h => h) (by kernel_rfl) (by assumption) ?_ ?_
          · intro w hSw
            (try dsimp only at hSw)
            go_simp
          simp only [Act.put, List.setIfInBounds_toArray, List.set_cons_zero, List.set_cons_succ]
          refine wpAnyH_done (by kernel_rfl) ?_ _
          obtain ⟨e1, e2⟩ := HBAD.out HF.out
          subst e1 e2
          obtain ⟨r0, r1, r2, r3⟩ := (HR.out w1 (HS1.out.tran SA1)).cells
          have fr0 := (HR.out w1 (HS1.out.tran SA1)).fz 0
          have fr1 := (HR.out w1 (HS1.out.tran SA1)).fz 1
          have fr2 := (HR.out w1 (HS1.out.tran SA1)).fz 2
          have fr3 := (HR.out w1 (HS1.out.tran SA1)).fz 3
          go_wp2
          refine bodyPost_ret (v := .tuple #[.agg #[.int .i64 0, .int .i64 0, .int .i64 0, .string ⟨#[]⟩], .bool false]) (by simp [results, Try.results47, go_sem, r0, r1, r2, r3]) rfl ⟨rfl, ?_⟩
          repeat (refine Below.setCell ?_ (by first | exact Nat.le_refl _ | exact Nat.le_succ _ | (simp; omega)) _)
          exact (HB0.out.tran (HS1.out.tran SA1)).1
        | true =>
          have CG : Hid (∀ w', Calls Try.prog 44 #[.agg #[.int .i64 x.frm, .int .i64 x.seq, .int .i64 x.age, .string x.text]] w' fun e w2 => e = .returned (.bool true) ∧ Below w'.heap.size w' w2) := fun w' => by have := specGoodItem_any w' x HTX.out; rw [hgd] at this; exact this
          by_cases hf : x.frm = f
          · have HA1 : Hid (∀ j (hj : j < l.length), j < k + 1 → oneB f l[j] = true) := HOK.out (by unfold oneB; rw [hgd, hf]; simp)
            have HQF : Hid (x.frm = f) := hf
            clear HOK HNO hf hgd
            go_wp2
            have SA0 := Since.start (wr.alloc (.cells #[.int .i64 x.frm, .int .i64 x.seq, .int .i64 x.age, .string x.text] 60))
            refine wp_region_held_drew (S := (fun w' => (w'.cell? ⟨wr.heap.size, 0, none⟩ = some (.int .i64 x.frm) ∧ w'.cell? ⟨wr.heap.size, 1, none⟩ = some (.int .i64 x.seq) ∧ w'.cell? ⟨wr.heap.size, 2, none⟩ = some (.int .i64 x.age) ∧ w'.cell? ⟨wr.heap.size, 3, none⟩ = some (.string x.text)) ∧ w'.cell? ⟨g1, o1, none⟩ = some (.int .i64 f))) (by kernel_rfl) ?_ (fun hHeld => ?_)
            · exact ⟨(HX.out _ SA0.drew).cells, HY.out _ SA0.drew⟩
            refine handRead 0 (some 17) (.agg #[.int .i64 x.frm, .int .i64 x.seq, .int .i64 x.age, .string x.text]) rfl rfl (by kernel_rfl) (by kernel_rfl) (by kernel_rfl) (fun _ _ _ h => h) (by kernel_rfl) (by assumption) ?_ ?_
            · intro w hSw
              (try dsimp only at hSw)
              go_simp
            simp only [Act.put, List.setIfInBounds_toArray, List.set_cons_zero, List.set_cons_succ]
            refine handCall 1 (some 18) 44 #[.agg #[.int .i64 x.frm, .int .i64 x.seq, .int .i64 x.age, .string x.text]] (by kernel_rfl) rfl rfl (by kernel_rfl) (by simp [go_sem]) ((CG.out _).mono ?_)
            rintro e w1 ⟨rfl, hb1⟩
            have SA1 := SA0.drew.step hb1
            clear hHeld
            refine ⟨_, rfl, (by exact ⟨(HX.out _ SA1).cells, HY.out _ SA1⟩), fun hHeld => ?_⟩
            simp only [Act.put, List.setIfInBounds_toArray, List.set_cons_zero, List.set_cons_succ]
            refine handRead 2 (some 19) (.bool false) rfl rfl (by kernel_rfl) (by kernel_rfl) (by kernel_rfl) (fun _ _ _ h => h) (by kernel_rfl) (by assumption) ?_ ?_
            · intro w hSw
              (try dsimp only at hSw)
              go_simp
            simp only [Act.put, List.setIfInBounds_toArray, List.set_cons_zero, List.set_cons_succ]
            refine handRead 3 (some 20) (.bool false) rfl rfl (by kernel_rfl) (by kernel_rfl) (by kernel_rfl) (fun _ _ _ h => h) (by kernel_rfl) (by assumption) ?_ ?_
            · intro w hSw
              (try dsimp only at hSw)
              go_simp
            simp only [Act.put, List.setIfInBounds_toArray, List.set_cons_zero, List.set_cons_succ]
            refine handRead 4 (some 21) (.pointer (some ⟨wr.heap.size, 0, none⟩)) rfl rfl (by kernel_rfl) (by kernel_rfl) (by kernel_rfl) (fun _ _ _ h => h) (by kernel_rfl) (by assumption) ?_ ?_
            · intro w hSw
              (try dsimp only at hSw)
              go_simp
            simp only [Act.put, List.setIfInBounds_toArray, List.set_cons_zero, List.set_cons_succ]
            refine handRead 5 (some 22) (.int .i64 x.frm) rfl rfl (by kernel_rfl) (by kernel_rfl) (by kernel_rfl) (fun _ _ _ h => h) (by kernel_rfl) (by assumption) ?_ ?_
            · intro w hSw
              (try dsimp only at hSw)
              go_simp
            simp only [Act.put, List.setIfInBounds_toArray, List.set_cons_zero, List.set_cons_succ]
            refine handRead 6 (some 23) (.slice (some ⟨g1, o1, none⟩) l.length cap1) rfl rfl (by kernel_rfl) (by kernel_rfl) (by kernel_rfl) (fun _ _ _ h => h) (by kernel_rfl) (by assumption) ?_ ?_
            · intro w hSw
              (try dsimp only at hSw)
              go_simp
            simp only [Act.put, List.setIfInBounds_toArray, List.set_cons_zero, List.set_cons_succ]
            refine handRead 7 (some 24) (.pointer (some ⟨g1, o1, none⟩)) rfl rfl (by kernel_rfl) (by kernel_rfl) (by kernel_rfl) (fun _ _ _ h => h) (by kernel_rfl) (by assumption) ?_ ?_
            · intro w hSw
              (try dsimp only at hSw)
              go_simp
            simp only [Act.put, List.setIfInBounds_toArray, List.set_cons_zero, List.set_cons_succ]
            refine handRead 8 (some 25) (.pointer (some ⟨g1, o1, none⟩)) rfl rfl (by kernel_rfl) (by kernel_rfl) (by kernel_rfl) (fun _ _ _ h => h) (by kernel_rfl) (by assumption) ?_ ?_
            · intro w hSw
              (try dsimp only at hSw)
              go_simp
            simp only [Act.put, List.setIfInBounds_toArray, List.set_cons_zero, List.set_cons_succ]
            refine handRead 9 (some 26) (.int .i64 f) rfl rfl (by kernel_rfl) (by kernel_rfl) (by kernel_rfl) (fun _ _ _ h => h) (by kernel_rfl) (by assumption) ?_ ?_
            · intro w hSw
              (try dsimp only at hSw)
              go_simp
            simp only [Act.put, List.setIfInBounds_toArray, List.set_cons_zero, List.set_cons_succ]
            refine handRead 10 (some 27) (.bool false) rfl rfl (by kernel_rfl) (by kernel_rfl) (by kernel_rfl) (fun _ _ _ h => h) (by kernel_rfl) (by assumption) ?_ ?_
            · intro w hSw
              (try dsimp only at hSw)
              go_simp
              exact HQF.out
            simp only [Act.put, List.setIfInBounds_toArray, List.set_cons_zero, List.set_cons_succ]
            refine handRead 11 (some 28) (.bool false) rfl rfl (by kernel_rfl) (by kernel_rfl) (by kernel_rfl) (fun _ _ _ h => h) (by kernel_rfl) (by assumption) ?_ ?_
            · intro w hSw
              (try dsimp only at hSw)
              go_simp
            simp only [Act.put, List.setIfInBounds_toArray, List.set_cons_zero, List.set_cons_succ]
            refine wpAnyH_done (by kernel_rfl) ?_ _
            go_wp2
            go_roundw
            case rel => exact ⟨k + 1, by omega, by go_num, HA1.out, HS1.out.tran SA1⟩
            case measure => simp [intOf]; omega
          · have HF : Hid (l.all (oneB f) = false) := HNO.out (by unfold oneB; rw [hgd]; simp [hf])
            have HQF : Hid (¬ x.frm = f) := hf
            clear HOK HNO hf hgd
            go_wp2
            have SA0 := Since.start (wr.alloc (.cells #[.int .i64 x.frm, .int .i64 x.seq, .int .i64 x.age, .string x.text] 60))
            refine wp_region_held_drew (S := (fun w' => (w'.cell? ⟨wr.heap.size, 0, none⟩ = some (.int .i64 x.frm) ∧ w'.cell? ⟨wr.heap.size, 1, none⟩ = some (.int .i64 x.seq) ∧ w'.cell? ⟨wr.heap.size, 2, none⟩ = some (.int .i64 x.age) ∧ w'.cell? ⟨wr.heap.size, 3, none⟩ = some (.string x.text)) ∧ w'.cell? ⟨g1, o1, none⟩ = some (.int .i64 f))) (by kernel_rfl) ?_ (fun hHeld => ?_)
            · exact ⟨(HX.out _ SA0.drew).cells, HY.out _ SA0.drew⟩
            refine handRead 0 (some 17) (.agg #[.int .i64 x.frm, .int .i64 x.seq, .int .i64 x.age, .string x.text]) rfl rfl (by kernel_rfl) (by kernel_rfl) (by kernel_rfl) (fun _ _ _ h => h) (by kernel_rfl) (by assumption) ?_ ?_
            · intro w hSw
              (try dsimp only at hSw)
              go_simp
            simp only [Act.put, List.setIfInBounds_toArray, List.set_cons_zero, List.set_cons_succ]
            refine handCall 1 (some 18) 44 #[.agg #[.int .i64 x.frm, .int .i64 x.seq, .int .i64 x.age, .string x.text]] (by kernel_rfl) rfl rfl (by kernel_rfl) (by simp [go_sem]) ((CG.out _).mono ?_)
            rintro e w1 ⟨rfl, hb1⟩
            have SA1 := SA0.drew.step hb1
            clear hHeld
            refine ⟨_, rfl, (by exact ⟨(HX.out _ SA1).cells, HY.out _ SA1⟩), fun hHeld => ?_⟩
            simp only [Act.put, List.setIfInBounds_toArray, List.set_cons_zero, List.set_cons_succ]
            refine handRead 2 (some 19) (.bool false) rfl rfl (by kernel_rfl) (by kernel_rfl) (by kernel_rfl) (fun _ _ _ h => h) (by kernel_rfl) (by assumption) ?_ ?_
            · intro w hSw
              (try dsimp only at hSw)
              go_simp
            simp only [Act.put, List.setIfInBounds_toArray, List.set_cons_zero, List.set_cons_succ]
            refine handRead 3 (some 20) (.bool false) rfl rfl (by kernel_rfl) (by kernel_rfl) (by kernel_rfl) (fun _ _ _ h => h) (by kernel_rfl) (by assumption) ?_ ?_
            · intro w hSw
              (try dsimp only at hSw)
              go_simp
            simp only [Act.put, List.setIfInBounds_toArray, List.set_cons_zero, List.set_cons_succ]
            refine handRead 4 (some 21) (.pointer (some ⟨wr.heap.size, 0, none⟩)) rfl rfl (by kernel_rfl) (by kernel_rfl) (by kernel_rfl) (fun _ _ _ h => h) (by kernel_rfl) (by assumption) ?_ ?_
            · intro w hSw
              (try dsimp only at hSw)
              go_simp
            simp only [Act.put, List.setIfInBounds_toArray, List.set_cons_zero, List.set_cons_succ]
            refine handRead 5 (some 22) (.int .i64 x.frm) rfl rfl (by kernel_rfl) (by kernel_rfl) (by kernel_rfl) (fun _ _ _ h => h) (by kernel_rfl) (by assumption) ?_ ?_
            · intro w hSw
              (try dsimp only at hSw)
              go_simp
            simp only [Act.put, List.setIfInBounds_toArray, List.set_cons_zero, List.set_cons_succ]
            refine handRead 6 (some 23) (.slice (some ⟨g1, o1, none⟩) l.length cap1) rfl rfl (by kernel_rfl) (by kernel_rfl) (by kernel_rfl) (fun _ _ _ h => h) (by kernel_rfl) (by assumption) ?_ ?_
            · intro w hSw
              (try dsimp only at hSw)
              go_simp
            simp only [Act.put, List.setIfInBounds_toArray, List.set_cons_zero, List.set_cons_succ]
            refine handRead 7 (some 24) (.pointer (some ⟨g1, o1, none⟩)) rfl rfl (by kernel_rfl) (by kernel_rfl) (by kernel_rfl) (fun _ _ _ h => h) (by kernel_rfl) (by assumption) ?_ ?_
            · intro w hSw
              (try dsimp only at hSw)
              go_simp
            simp only [Act.put, List.setIfInBounds_toArray, List.set_cons_zero, List.set_cons_succ]
            refine handRead 8 (some 25) (.pointer (some ⟨g1, o1, none⟩)) rfl rfl (by kernel_rfl) (by kernel_rfl) (by kernel_rfl) (fun _ _ _ h => h) (by kernel_rfl) (by assumption) ?_ ?_
            · intro w hSw
              (try dsimp only at hSw)
              go_simp
            simp only [Act.put, List.setIfInBounds_toArray, List.set_cons_zero, List.set_cons_succ]
            refine handRead 9 (some 26) (.int .i64 f) rfl rfl (by kernel_rfl) (by kernel_rfl) (by kernel_rfl) (fun _ _ _ h => h) (by kernel_rfl) (by assumption) ?_ ?_
            · intro w hSw
              (try dsimp only at hSw)
              go_simp
            simp only [Act.put, List.setIfInBounds_toArray, List.set_cons_zero, List.set_cons_succ]
            refine handRead 10 (some 27) (.bool true) rfl rfl (by kernel_rfl) (by kernel_rfl) (by kernel_rfl) (fun _ _ _ h => h) (by kernel_rfl) (by assumption) ?_ ?_
            · intro w hSw
              (try dsimp only at hSw)
              go_simp
              exact HQF.out
            simp only [Act.put, List.setIfInBounds_toArray, List.set_cons_zero, List.set_cons_succ]
            refine handRead 11 (some 28) (.bool true) rfl rfl (by kernel_rfl) (by kernel_rfl) (by kernel_rfl) (fun _ _ _ h => h) (by kernel_rfl) (by assumption) ?_ ?_
            · intro w hSw
              (try dsimp only at hSw)
              go_simp
            simp only [Act.put, List.setIfInBounds_toArray, List.set_cons_zero, List.set_cons_succ]
            refine wpAnyH_done (by kernel_rfl) ?_ _
            obtain ⟨e1, e2⟩ := HBAD.out HF.out
            subst e1 e2
            obtain ⟨r0, r1, r2, r3⟩ := (HR.out w1 (HS1.out.tran SA1)).cells
            have fr0 := (HR.out w1 (HS1.out.tran SA1)).fz 0
            have fr1 := (HR.out w1 (HS1.out.tran SA1)).fz 1
            have fr2 := (HR.out w1 (HS1.out.tran SA1)).fz 2
            have fr3 := (HR.out w1 (HS1.out.tran SA1)).fz 3
            go_wp2
            refine bodyPost_ret (v := .tuple #[.agg #[.int .i64 0, .int .i64 0, .int .i64 0, .string ⟨#[]⟩], .bool false]) (by simp [results, Try.results47, go_sem, r0, r1, r2, r3]) rfl ⟨rfl, ?_⟩
            repeat (refine Below.setCell ?_ (by first | exact Nat.le_refl _ | exact Nat.le_succ _ | (simp; omega)) _)
            exact (HB0.out.tran (HS1.out.tran SA1)).1
      · have HALL : Hid (l.all (oneB f) = true) := by
          show _ = _
          rw [List.all_eq_true]
          intro x hx
          obtain ⟨j, hj, rfl⟩ := List.getElem_of_mem hx
          exact HK.out.1 j hj (by omega)
        have HS : Hid (Since W1.heap.size W1 wr) := HK.out.2
        have hlt' : ¬ (k : Int) < (l.length : Int) := by omega
        have HSL : Hid (∀ y ∈ l, seqB y.seq = true) := HSQ.out HALL.out
        clear HK HBAD HF0 HSQ
        by_cases h20 : 20 < l.length
        · obtain ⟨e1, e2⟩ := HLONG.out h20
          subst e1 e2
          have d2 : (20 : Int) < (l.length : Int) := by omega
          clear HLONG HNO HAT HSL HALL
          obtain ⟨r0, r1, r2, r3⟩ := (HR.out wr HS.out).cells
          have fr0 := (HR.out wr HS.out).fz 0
          have fr1 := (HR.out wr HS.out).fz 1
          have fr2 := (HR.out wr HS.out).fz 2
          have fr3 := (HR.out wr HS.out).fz 3
          go_wp2
          refine bodyPost_ret (v := .tuple #[.agg #[.int .i64 0, .int .i64 0, .int .i64 0, .string ⟨#[]⟩], .bool false]) (by simp [results, Try.results47, go_sem, r0, r1, r2, r3]) rfl ⟨rfl, ?_⟩
          repeat (refine Below.setCell ?_ (by first | exact Nat.le_refl _ | exact Nat.le_succ _ | (simp; omega)) _)
          exact (HB0.out.tran HS.out).1
        · have d2 : ¬ (20 : Int) < (l.length : Int) := by omega
          have HAT2 : Hid (∀ k (hk : k < l.length), (∀ j (hj : j < l.length), j < k → outdoneB l l[j] = true) → outdoneB l l[k] = false → o = l[k] ∧ m = true) := HAT.out (by omega) HALL.out
          clear HLONG HAT HALL h20
          go_wp2
          clear hlt' hk
          go_loopw [37] (fun i wr => ∃ k : Nat, k ≤ l.length ∧ i = .int .i64 k ∧ Hid ((∀ j (hj : j < l.length), j < k → outdoneB l l[j] = true) ∧ Since W1.heap.size W1 wr)) (fun i _ => l.length - (intOf i).toNat)
          case atStart => exact ⟨0, Nat.zero_le _, rfl, fun j _ hj => absurd hj (Nat.not_lt_zero _), HS.out⟩
          case round =>
            clear HS
            obtain ⟨k, hk, rfl, HK⟩ := hrel
            by_cases hlt : k < l.length
            · obtain ⟨hA, hS⟩ := HK.out
              have hlt' : (k : Int) < (l.length : Int) := by omega
              obtain ⟨q0, q1, q2, q3⟩ := HC1.out wr hS k hlt
              have HSX : Hid (seqB l[k].seq = true) := HSL.out _ (List.getElem_mem hlt)
              have HOK : Hid (outdoneB l l[k] = true → ∀ j (hj : j < l.length), j < k + 1 → outdoneB l l[j] = true) := fun ho j hj hk1 => by
                by_cases e : j = k
                · subst e; exact ho
                · exact hA j hj (by omega)
              have HYE : Hid (outdoneB l l[k] = false → o = l[k] ∧ m = true) := fun h => HAT2.out k hlt hA h
              generalize l[k] = x at *
              have HS2 : Hid (Since W1.heap.size W1 (wr.alloc (.cells #[.int .i64 x.frm, .int .i64 x.seq, .int .i64 x.age, .string x.text] 60))) := hS.step ((Below.refl _ wr).alloc (Nat.le_refl _) _)
              have HX : Hid (∀ w', Since (wr.alloc (.cells #[.int .i64 x.frm, .int .i64 x.seq, .int .i64 x.age, .string x.text] 60)).heap.size (wr.alloc (.cells #[.int .i64 x.frm, .int .i64 x.seq, .int .i64 x.age, .string x.text] 60)) w' → Bx4 w' wr.heap.size (.int .i64 x.frm) (.int .i64 x.seq) (.int .i64 x.age) (.string x.text)) := fun w' hs => (Bx4.new _ _ _ _ _ _).below hs.1
              have HS20 : Hid (Since (wr.alloc (.cells #[.int .i64 x.frm, .int .i64 x.seq, .int .i64 x.age, .string x.text] 60)).heap.size (wr.alloc (.cells #[.int .i64 x.frm, .int .i64 x.seq, .int .i64 x.age, .string x.text] 60)) (wr.alloc (.cells #[.int .i64 x.frm, .int .i64 x.seq, .int .i64 x.age, .string x.text] 60))) := Since.start _
              clear hA hS HK
              go_wp2
              clear q0 q1 q2 q3
              generalize hW2 : (wr.alloc (.cells #[.int .i64 x.frm, .int .i64 x.seq, .int .i64 x.age, .string x.text] 60)) = W2 at *
              clear hW2
              generalize wr.heap.size = n5 at *
              go_loopw [8, 43] (fun b i wr => ∃ (j : Nat) (bt : Bool), j ≤ l.length ∧ i = .int .i64 j ∧ b = .bool bt ∧ Hid (bt = (l.take j).any (fun y => betterI y x) ∧ Since W2.heap.size W2 wr)) (fun _ i _ => l.length - (intOf i).toNat)
              case atStart => exact ⟨0, false, Nat.zero_le _, rfl, rfl, by simp, HS20.out⟩
              case round =>
                obtain ⟨j, bt, hj, rfl, rfl, HJ⟩ := hrel
                by_cases hjl : j < l.length
                · obtain ⟨hbt, hSq⟩ := HJ.out
                  have hjl' : (j : Int) < (l.length : Int) := by omega
                  obtain ⟨q0, q1, q2, q3⟩ := HC1.out wr (HS2.out.tran hSq) j hjl
                  obtain ⟨x0, x1, x2, x3⟩ := (HX.out wr hSq).cells
                  have ltx := (HX.out wr hSq).lt
                  have HSY : Hid (seqB l[j].seq = true) := HSL.out _ (List.getElem_mem hjl)
                  have HNX : Hid ((l.take (j + 1)).any (fun y => betterI y x) = (bt || betterI l[j] x)) := by show _ = _; rw [any_take_succ l _ j hjl, hbt]
                  generalize l[j] = y at *
                  have HSq : Hid (Since W2.heap.size W2 (wr.alloc (.cells #[.int .i64 y.frm, .int .i64 y.seq, .int .i64 y.age, .string y.text] 60))) := hSq.step ((Below.refl _ wr).alloc (Nat.le_refl _) _)
                  clear hbt hSq HJ
                  cases bt with
                  | true =>
                    go_wp2
                    go_roundw
                    case rel => exact ⟨j + 1, true, by omega, by go_num, rfl, by rw [HNX.out]; rfl, HSq.out⟩
                    case measure => simp [intOf]; omega
                  | false =>
                    have HBN : Hid ((betterN y x == 1) = betterI y x) := betterN_one y x
                    go_wp2_with fail
                    refine (l5Better_any _ y x HSY.out HSX.out).mono ?_
                    rintro e w3 ⟨rfl, hb3⟩
                    have HS3 : Hid (Since W2.heap.size W2 w3) := HSq.out.step hb3
                    clear hb3
                    generalize betterN y x = bn at *
                    go_wp2
                    go_roundw
                    case rel => exact ⟨j + 1, _, by omega, by go_num, rfl, by rw [HNX.out]; exact HBN.out, HS3.out⟩
                    case measure => simp [intOf]; omega
                · have HBT : Hid (bt = outdoneB l x) := by
                    show _ = _
                    rw [HJ.out.1, List.take_of_length_le (by omega)]
                    rfl
                  have HSq : Hid (Since W2.heap.size W2 wr) := HJ.out.2
                  have hjl' : ¬ (j : Int) < (l.length : Int) := by omega
                  clear HJ
                  cases bt with
                  | true =>
                    have HA1 : Hid (∀ j (hj : j < l.length), j < k + 1 → outdoneB l l[j] = true) := HOK.out HBT.out.symm
                    clear HOK HYE HBT
                    go_wp2
                    go_roundw
                    case rel => exact ⟨k + 1, by omega, by go_num, HA1.out, HS2.out.tran HSq.out⟩
                    case measure => simp [intOf]; omega
                  | false =>
                    obtain ⟨e1, e2⟩ := HYE.out HBT.out.symm
                    subst e1 e2
                    clear HOK HYE HBT
                    obtain ⟨x0, x1, x2, x3⟩ := (HX.out wr HSq.out).cells
                    obtain ⟨r0, r1, r2, r3⟩ := (HR.out wr (HS2.out.tran HSq.out)).cells
                    have fr0 := (HR.out wr (HS2.out.tran HSq.out)).fz 0
                    have fr1 := (HR.out wr (HS2.out.tran HSq.out)).fz 1
                    have fr2 := (HR.out wr (HS2.out.tran HSq.out)).fz 2
                    have fr3 := (HR.out wr (HS2.out.tran HSq.out)).fz 3
                    go_wp2
                    refine bodyPost_ret (v := .tuple #[.agg #[.int .i64 o.frm, .int .i64 o.seq, .int .i64 o.age, .string o.text], .bool true]) (by simp [results, Try.results47, go_sem, r0, r1, r2, r3]) rfl ⟨rfl, ?_⟩
                    repeat (refine Below.setCell ?_ (by first | exact Nat.le_refl _ | exact Nat.le_succ _ | (simp; omega)) _)
                    exact (HB0.out.tran (HS2.out.tran HSq.out)).1
            · obtain ⟨e1, e2⟩ := HNO.out fun j hj => HK.out.1 j hj (by omega)
              have HS : Hid (Since W1.heap.size W1 wr) := HK.out.2
              subst e1 e2
              have hlt' : ¬ (k : Int) < (l.length : Int) := by omega
              clear HK HAT2 HNO
              obtain ⟨r0, r1, r2, r3⟩ := (HR.out wr HS.out).cells
              have fr0 := (HR.out wr HS.out).fz 0
              have fr1 := (HR.out wr HS.out).fz 1
              have fr2 := (HR.out wr HS.out).fz 2
              have fr3 := (HR.out wr HS.out).fz 3
              go_wp2
              refine bodyPost_ret (v := .tuple #[.agg #[.int .i64 0, .int .i64 0, .int .i64 0, .string ⟨#[]⟩], .bool false]) (by simp [results, Try.results47, go_sem, r0, r1, r2, r3]) rfl ⟨rfl, ?_⟩
              repeat (refine Below.setCell ?_ (by first | exact Nat.le_refl _ | exact Nat.le_succ _ | (simp; omega)) _)
              exact (HB0.out.tran HS.out).1
end Go.Proofs.Ythdcfeafkellcab
