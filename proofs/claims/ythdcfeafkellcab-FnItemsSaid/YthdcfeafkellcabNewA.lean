/-
  'areItemsOfOne' and 'isOutdone' of the program; what 'NewestOf' answers, as plain data.
-/
import Derived.Test.YthdcfeafkellcabItemsB
import Derived.Test.YthdcfeafkellcabHand
namespace Go.Proofs.Ythdcfeafkellcab
open Go.RowKit
set_option linter.unusedVariables false

/-- One that is good and comes from f. -/
def oneB (f : Int) (x : ItD) : Bool := goodI x && decide (x.frm = f)
def headF (l : List ItD) : Int := match l with | [] => 0 | x :: _ => x.frm
def outdoneB (l : List ItD) (x : ItD) : Bool := l.any fun y => betterI y x
theorem headF_get (l : List ItD) (h : 0 < l.length) : headF l = (l[0]'h).frm := by cases l with | nil => simp at h | cons a t => rfl
theorem oneB_good {f : Int} {x : ItD} (h : oneB f x = true) : goodI x = true := by unfold oneB at h; simp at h; exact h.1

set_option maxRecDepth 100000 in
set_option maxHeartbeats 4000000 in
theorem areItems_any (W : World) (v : Value) (l : List ItD) (h : ReadsIt W v l) (hl : l.length ≤ 1048576) (ht : ∀ x ∈ l, x.text.size ≤ maxLen) :
    Calls Try.prog 88 #[v] W fun e W' => e = .returned (.bool (l.all (oneB (headF l)))) ∧ Below W.heap.size W W' := by
  obtain ⟨a1, cap1, rfl, hc1⟩ := h
  by_cases h1 : l = []
  · subst h1
    simp only [List.length_nil]
    clear hc1 ht
    go_enter Try.func88, Try.ntmps88
    go_wp2
    refine wp_loop_rounds 1 ?_
    rw [rounds_succ]
    go_wp2
    go_ret
    exact ⟨rfl, Below.refl _ _⟩
  · obtain ⟨g1, o1, rfl, hg1, hc1⟩ := hc1.resolve_left h1
    have hpos : 0 < l.length := List.length_pos_iff.2 h1
    have HC1 : Hid (∀ W1, Since W.heap.size W W1 → ∀ j (hj : j < l.length), ItAt W1 g1 (o1 + j * 4) l[j]) := fun W1 hS j hj => (hc1 j hj).below hg1 hS.1
    have HF0 : Hid (∀ W1, Since W.heap.size W W1 → W1.cell? ⟨g1, o1, none⟩ = some (.int .i64 (headF l))) := fun W1 hS => by
      have := (HC1.out W1 hS 0 hpos).1
      rw [headF_get l hpos]
      simpa using this
    have HT : Hid (∀ x ∈ l, x.text.size ≤ maxLen) := ht
    have HS0 : Hid (Since W.heap.size W W) := Since.start W
    clear hc1 hg1 h1 ht hpos
    generalize headF l = f at *
    go_enter Try.func88, Try.ntmps88
    go_wp2
    go_loopw [7] (fun i wr => ∃ k : Nat, k ≤ l.length ∧ i = .int .i64 k ∧ Hid ((∀ j (hj : j < l.length), j < k → oneB f l[j] = true) ∧ Since W.heap.size W wr)) (fun i _ => l.length - (intOf i).toNat)
    case atStart => exact ⟨0, Nat.zero_le _, rfl, fun j _ hj => absurd hj (Nat.not_lt_zero _), HS0.out⟩
    case round =>
      obtain ⟨k, hk, rfl, HK⟩ := hrel
      by_cases hlt : k < l.length
      · obtain ⟨hA, hS⟩ := HK.out
        have hlt' : (k : Int) < (l.length : Int) := by omega
        have h0l : 0 < l.length := by omega
        have h0l' : (0 : Int) < (l.length : Int) := by omega
        obtain ⟨q0, q1, q2, q3⟩ := HC1.out wr hS k hlt
        have HTX : Hid (l[k].text.size ≤ maxLen) := HT.out _ (List.getElem_mem hlt)
        have HOK : Hid (oneB f l[k] = true → ∀ j (hj : j < l.length), j < k + 1 → oneB f l[j] = true) := fun ho j hj hk1 => by
          by_cases e : j = k
          · subst e; exact ho
          · exact hA j hj (by omega)
        have HNO : Hid (oneB f l[k] = false → l.all (oneB f) = false) := fun h => by
          rw [← Bool.not_eq_true, List.all_eq_true]
          exact fun hall => by rw [hall _ (List.getElem_mem hlt)] at h; cases h
        generalize l[k] = x at *
        have HS1 : Hid (Since W.heap.size W (wr.alloc (.cells #[.int .i64 x.frm, .int .i64 x.seq, .int .i64 x.age, .string x.text] 60))) := hS.step ((Below.refl _ wr).alloc (Nat.le_refl _) _)
        have HX : Hid (∀ w', Since (wr.alloc (.cells #[.int .i64 x.frm, .int .i64 x.seq, .int .i64 x.age, .string x.text] 60)).heap.size (wr.alloc (.cells #[.int .i64 x.frm, .int .i64 x.seq, .int .i64 x.age, .string x.text] 60)) w' → Bx4 w' wr.heap.size (.int .i64 x.frm) (.int .i64 x.seq) (.int .i64 x.age) (.string x.text)) := fun w' hs => (Bx4.new _ _ _ _ _ _).below hs.1
        have HY : Hid (∀ w', Since (wr.alloc (.cells #[.int .i64 x.frm, .int .i64 x.seq, .int .i64 x.age, .string x.text] 60)).heap.size (wr.alloc (.cells #[.int .i64 x.frm, .int .i64 x.seq, .int .i64 x.age, .string x.text] 60)) w' → w'.cell? ⟨g1, o1, none⟩ = some (.int .i64 f)) := fun w' hs => HF0.out w' (HS1.out.tran hs)
        clear hA hS HK
        cases hgd : goodI x with
        | false =>
          have HF : Hid (l.all (oneB f) = false) := HNO.out (by unfold oneB; rw [hgd]; rfl)
          have CG : Hid (∀ w', Calls Try.prog 43 #[.agg #[.int .i64 x.frm, .int .i64 x.seq, .int .i64 x.age, .string x.text]] w' fun e w2 => e = .returned (.bool false) ∧ Below w'.heap.size w' w2) := fun w' => by have := implGoodItem_any w' x HTX.out; rw [hgd] at this; exact this
          clear hgd HOK HNO
          go_wp2
          have SA0 := Since.start (wr.alloc (.cells #[.int .i64 x.frm, .int .i64 x.seq, .int .i64 x.age, .string x.text] 60))
          refine wp_region_held_drew (S := (fun w' => (w'.cell? ⟨wr.heap.size, 0, none⟩ = some (.int .i64 x.frm) ∧ w'.cell? ⟨wr.heap.size, 1, none⟩ = some (.int .i64 x.seq) ∧ w'.cell? ⟨wr.heap.size, 2, none⟩ = some (.int .i64 x.age) ∧ w'.cell? ⟨wr.heap.size, 3, none⟩ = some (.string x.text)) ∧ w'.cell? ⟨g1, o1, none⟩ = some (.int .i64 f))) (by kernel_rfl) ?_ (fun hHeld => ?_)
          · exact ⟨(HX.out _ SA0.drew).cells, HY.out _ SA0.drew⟩
          refine handRead 0 (some 11) (.agg #[.int .i64 x.frm, .int .i64 x.seq, .int .i64 x.age, .string x.text]) rfl rfl (by kernel_rfl) (by kernel_rfl) (by kernel_rfl) (fun _ _ _ h => h) (by kernel_rfl) (by assumption) ?_ ?_
          · intro w hSw
            (try dsimp only at hSw)
            go_simp
          simp only [Act.put, List.setIfInBounds_toArray, List.set_cons_zero, List.set_cons_succ]
          refine handCall 1 (some 12) 43 #[.agg #[.int .i64 x.frm, .int .i64 x.seq, .int .i64 x.age, .string x.text]] (by kernel_rfl) rfl rfl (by kernel_rfl) (by simp [go_sem]) ((CG.out _).mono ?_)
          rintro e w1 ⟨rfl, hb1⟩
          have SA1 := SA0.drew.step hb1
          clear hHeld
          refine ⟨_, rfl, (by exact ⟨(HX.out _ SA1).cells, HY.out _ SA1⟩), fun hHeld => ?_⟩
          simp only [Act.put, List.setIfInBounds_toArray, List.set_cons_zero, List.set_cons_succ]
          refine handRead 2 (some 13) (.bool true) rfl rfl (by kernel_rfl) (by kernel_rfl) (by kernel_rfl) (fun _ _ _ h => h) (by kernel_rfl) (by assumption) ?_ ?_
          · intro w hSw
            (try dsimp only at hSw)
            go_simp
          simp only [Act.put, List.setIfInBounds_toArray, List.set_cons_zero, List.set_cons_succ]
          refine handRead 3 (some 14) (.bool true) rfl rfl (by kernel_rfl) (by kernel_rfl) (by kernel_rfl) (fun _ _ _ h => h) (by kernel_rfl) (by assumption) ?_ ?_
          · intro w hSw
            (try dsimp only at hSw)
            go_simp
          simp only [Act.put, List.setIfInBounds_toArray, List.set_cons_zero, List.set_cons_succ]
          refine handSkip 4 (some 15) rfl rfl (by kernel_rfl) (by kernel_rfl) (by kernel_rfl) (fun _ _ _ h => h) (by kernel_rfl) (by assumption) ?_
          simp only [Act.put, List.setIfInBounds_toArray, List.set_cons_zero, List.set_cons_succ]
          refine handSkip 5 (some 16) rfl rfl (by kernel_rfl) (by kernel_rfl) (by kernel_rfl) (fun _ _ _ h => h) (by kernel_rfl) (by assumption) ?_
          simp only [Act.put, List.setIfInBounds_toArray, List.set_cons_zero, List.set_cons_succ]
          refine handSkip 6 (some 17) rfl rfl (by kernel_rfl) (by kernel_rfl) (by kernel_rfl) (fun _ _ _ h => h) (by kernel_rfl) (by assumption) ?_
          simp only [Act.put, List.setIfInBounds_toArray, List.set_cons_zero, List.set_cons_succ]
          refine handSkip 7 (some 18) rfl rfl (by kernel_rfl) (by kernel_rfl) (by kernel_rfl) (fun _ _ _ h => h) (by kernel_rfl) (by assumption) ?_
          simp only [Act.put, List.setIfInBounds_toArray, List.set_cons_zero, List.set_cons_succ]
          refine handSkip 8 (some 19) rfl rfl (by kernel_rfl) (by kernel_rfl) (by kernel_rfl) (fun _ _ _ h => h) (by kernel_rfl) (by assumption) ?_
          simp only [Act.put, List.setIfInBounds_toArray, List.set_cons_zero, List.set_cons_succ]
          refine handSkip 9 (some 20) rfl rfl (by kernel_rfl) (by kernel_rfl) (by kernel_rfl) (fun _ _ _ h => h) (by kernel_rfl) (by assumption) ?_
          simp only [Act.put, List.setIfInBounds_toArray, List.set_cons_zero, List.set_cons_succ]
          refine handSkip 10 (some 21) rfl rfl (by kernel_rfl) (by kernel_rfl) (by kernel_rfl) (fun _ _ _ h => h) (by kernel_rfl) (by assumption) ?_
          simp only [Act.put, List.setIfInBounds_toArray, List.set_cons_zero, List.set_cons_succ]
          refine handRead 11 (some 22) (.bool true) rfl rfl (by kernel_rfl) (by kernel_rfl) (by kernel_rfl) (fun _ _ _ h => h) (by kernel_rfl) (by assumption) ?_ ?_
          · intro w hSw
            (try dsimp only at hSw)
            go_simp
          simp only [Act.put, List.setIfInBounds_toArray, List.set_cons_zero, List.set_cons_succ]
          refine wpAnyH_done (by kernel_rfl) ?_ _
          go_wp2
          go_ret
          exact ⟨ret_bool HF.out.symm, (HS1.out.tran SA1).1⟩
        | true =>
          have CG : Hid (∀ w', Calls Try.prog 43 #[.agg #[.int .i64 x.frm, .int .i64 x.seq, .int .i64 x.age, .string x.text]] w' fun e w2 => e = .returned (.bool true) ∧ Below w'.heap.size w' w2) := fun w' => by have := implGoodItem_any w' x HTX.out; rw [hgd] at this; exact this
          by_cases hf : x.frm = f
          · have HA1 : Hid (∀ j (hj : j < l.length), j < k + 1 → oneB f l[j] = true) := HOK.out (by unfold oneB; rw [hgd, hf]; simp)
            have HQF : Hid (x.frm = f) := hf
            clear HOK HNO hf hgd
            go_wp2
            have SA0 := Since.start (wr.alloc (.cells #[.int .i64 x.frm, .int .i64 x.seq, .int .i64 x.age, .string x.text] 60))
            refine wp_region_held_drew (S := (fun w' => (w'.cell? ⟨wr.heap.size, 0, none⟩ = some (.int .i64 x.frm) ∧ w'.cell? ⟨wr.heap.size, 1, none⟩ = some (.int .i64 x.seq) ∧ w'.cell? ⟨wr.heap.size, 2, none⟩ = some (.int .i64 x.age) ∧ w'.cell? ⟨wr.heap.size, 3, none⟩ = some (.string x.text)) ∧ w'.cell? ⟨g1, o1, none⟩ = some (.int .i64 f))) (by kernel_rfl) ?_ (fun hHeld => ?_)
            · exact ⟨(HX.out _ SA0.drew).cells, HY.out _ SA0.drew⟩
            refine handRead 0 (some 11) (.agg #[.int .i64 x.frm, .int .i64 x.seq, .int .i64 x.age, .string x.text]) rfl rfl (by kernel_rfl) (by kernel_rfl) (by kernel_rfl) (fun _ _ _ h => h) (by kernel_rfl) (by assumption) ?_ ?_
            · intro w hSw
              (try dsimp only at hSw)
              go_simp
            simp only [Act.put, List.setIfInBounds_toArray, List.set_cons_zero, List.set_cons_succ]
            refine handCall 1 (some 12) 43 #[.agg #[.int .i64 x.frm, .int .i64 x.seq, .int .i64 x.age, .string x.text]] (by kernel_rfl) rfl rfl (by kernel_rfl) (by simp [go_sem]) ((CG.out _).mono ?_)
            rintro e w1 ⟨rfl, hb1⟩
            have SA1 := SA0.drew.step hb1
            clear hHeld
            refine ⟨_, rfl, (by exact ⟨(HX.out _ SA1).cells, HY.out _ SA1⟩), fun hHeld => ?_⟩
            simp only [Act.put, List.setIfInBounds_toArray, List.set_cons_zero, List.set_cons_succ]
            refine handRead 2 (some 13) (.bool false) rfl rfl (by kernel_rfl) (by kernel_rfl) (by kernel_rfl) (fun _ _ _ h => h) (by kernel_rfl) (by assumption) ?_ ?_
            · intro w hSw
              (try dsimp only at hSw)
              go_simp
            simp only [Act.put, List.setIfInBounds_toArray, List.set_cons_zero, List.set_cons_succ]
            refine handRead 3 (some 14) (.bool false) rfl rfl (by kernel_rfl) (by kernel_rfl) (by kernel_rfl) (fun _ _ _ h => h) (by kernel_rfl) (by assumption) ?_ ?_
            · intro w hSw
              (try dsimp only at hSw)
              go_simp
            simp only [Act.put, List.setIfInBounds_toArray, List.set_cons_zero, List.set_cons_succ]
            refine handRead 4 (some 15) (.pointer (some ⟨wr.heap.size, 0, none⟩)) rfl rfl (by kernel_rfl) (by kernel_rfl) (by kernel_rfl) (fun _ _ _ h => h) (by kernel_rfl) (by assumption) ?_ ?_
            · intro w hSw
              (try dsimp only at hSw)
              go_simp
            simp only [Act.put, List.setIfInBounds_toArray, List.set_cons_zero, List.set_cons_succ]
            refine handRead 5 (some 16) (.int .i64 x.frm) rfl rfl (by kernel_rfl) (by kernel_rfl) (by kernel_rfl) (fun _ _ _ h => h) (by kernel_rfl) (by assumption) ?_ ?_
            · intro w hSw
              (try dsimp only at hSw)
              go_simp
            simp only [Act.put, List.setIfInBounds_toArray, List.set_cons_zero, List.set_cons_succ]
            refine handRead 6 (some 17) (.slice (some ⟨g1, o1, none⟩) l.length cap1) rfl rfl (by kernel_rfl) (by kernel_rfl) (by kernel_rfl) (fun _ _ _ h => h) (by kernel_rfl) (by assumption) ?_ ?_
            · intro w hSw
              (try dsimp only at hSw)
              go_simp
            simp only [Act.put, List.setIfInBounds_toArray, List.set_cons_zero, List.set_cons_succ]
            refine handRead 7 (some 18) (.pointer (some ⟨g1, o1, none⟩)) rfl rfl (by kernel_rfl) (by kernel_rfl) (by kernel_rfl) (fun _ _ _ h => h) (by kernel_rfl) (by assumption) ?_ ?_
            · intro w hSw
              (try dsimp only at hSw)
              go_simp
            simp only [Act.put, List.setIfInBounds_toArray, List.set_cons_zero, List.set_cons_succ]
            refine handRead 8 (some 19) (.pointer (some ⟨g1, o1, none⟩)) rfl rfl (by kernel_rfl) (by kernel_rfl) (by kernel_rfl) (fun _ _ _ h => h) (by kernel_rfl) (by assumption) ?_ ?_
            · intro w hSw
              (try dsimp only at hSw)
              go_simp
            simp only [Act.put, List.setIfInBounds_toArray, List.set_cons_zero, List.set_cons_succ]
            refine handRead 9 (some 20) (.int .i64 f) rfl rfl (by kernel_rfl) (by kernel_rfl) (by kernel_rfl) (fun _ _ _ h => h) (by kernel_rfl) (by assumption) ?_ ?_
            · intro w hSw
              (try dsimp only at hSw)
              go_simp
            simp only [Act.put, List.setIfInBounds_toArray, List.set_cons_zero, List.set_cons_succ]
            refine handRead 10 (some 21) (.bool false) rfl rfl (by kernel_rfl) (by kernel_rfl) (by kernel_rfl) (fun _ _ _ h => h) (by kernel_rfl) (by assumption) ?_ ?_
            · intro w hSw
              (try dsimp only at hSw)
              go_simp
              exact HQF.out
            simp only [Act.put, List.setIfInBounds_toArray, List.set_cons_zero, List.set_cons_succ]
            refine handRead 11 (some 22) (.bool false) rfl rfl (by kernel_rfl) (by kernel_rfl) (by kernel_rfl) (fun _ _ _ h => h) (by kernel_rfl) (by assumption) ?_ ?_
            · intro w hSw
              (try dsimp only at hSw)
              go_simp
            simp only [Act.put, List.setIfInBounds_toArray, List.set_cons_zero, List.set_cons_succ]
            refine wpAnyH_done (by kernel_rfl) ?_ _
            go_wp2
            go_roundw
            case rel => exact ⟨k + 1, by omega, by go_num, HA1.out, HS1.out.tran SA1⟩
            case measure => simp [intOf]; omega
          · have HF : Hid (l.all (oneB f) = false) := HNO.out (by unfold oneB; rw [hgd]; simp [hf])
            have HQF : Hid (¬ x.frm = f) := hf
            clear HOK HNO hf hgd
            go_wp2
            have SA0 := Since.start (wr.alloc (.cells #[.int .i64 x.frm, .int .i64 x.seq, .int .i64 x.age, .string x.text] 60))
            refine wp_region_held_drew (S := (fun w' => (w'.cell? ⟨wr.heap.size, 0, none⟩ = some (.int .i64 x.frm) ∧ w'.cell? ⟨wr.heap.size, 1, none⟩ = some (.int .i64 x.seq) ∧ w'.cell? ⟨wr.heap.size, 2, none⟩ = some (.int .i64 x.age) ∧ w'.cell? ⟨wr.heap.size, 3, none⟩ = some (.string x.text)) ∧ w'.cell? ⟨g1, o1, none⟩ = some (.int .i64 f))) (by kernel_rfl) ?_ (fun hHeld => ?_)
            · exact ⟨(HX.out _ SA0.drew).cells, HY.out _ SA0.drew⟩
            refine handRead 0 (some 11) (.agg #[.int .i64 x.frm, .int .i64 x.seq, .int .i64 x.age, .string x.text]) rfl rfl (by kernel_rfl) (by kernel_rfl) (by kernel_rfl) (fun _ _ _ h => h) (by kernel_rfl) (by assumption) ?_ ?_
            · intro w hSw
              (try dsimp only at hSw)
              go_simp
            simp only [Act.put, List.setIfInBounds_toArray, List.set_cons_zero, List.set_cons_succ]
            refine handCall 1 (some 12) 43 #[.agg #[.int .i64 x.frm, .int .i64 x.seq, .int .i64 x.age, .string x.text]] (by kernel_rfl) rfl rfl (by kernel_rfl) (by simp [go_sem]) ((CG.out _).mono ?_)
            rintro e w1 ⟨rfl, hb1⟩
            have SA1 := SA0.drew.step hb1
            clear hHeld
            refine ⟨_, rfl, (by exact ⟨(HX.out _ SA1).cells, HY.out _ SA1⟩), fun hHeld => ?_⟩
            simp only [Act.put, List.setIfInBounds_toArray, List.set_cons_zero, List.set_cons_succ]
            refine handRead 2 (some 13) (.bool false) rfl rfl (by kernel_rfl) (by kernel_rfl) (by kernel_rfl) (fun _ _ _ h => h) (by kernel_rfl) (by assumption) ?_ ?_
            · intro w hSw
              (try dsimp only at hSw)
              go_simp
            simp only [Act.put, List.setIfInBounds_toArray, List.set_cons_zero, List.set_cons_succ]
            refine handRead 3 (some 14) (.bool false) rfl rfl (by kernel_rfl) (by kernel_rfl) (by kernel_rfl) (fun _ _ _ h => h) (by kernel_rfl) (by assumption) ?_ ?_
            · intro w hSw
              (try dsimp only at hSw)
              go_simp
            simp only [Act.put, List.setIfInBounds_toArray, List.set_cons_zero, List.set_cons_succ]
            refine handRead 4 (some 15) (.pointer (some ⟨wr.heap.size, 0, none⟩)) rfl rfl (by kernel_rfl) (by kernel_rfl) (by kernel_rfl) (fun _ _ _ h => h) (by kernel_rfl) (by assumption) ?_ ?_
            · intro w hSw
              (try dsimp only at hSw)
              go_simp
            simp only [Act.put, List.setIfInBounds_toArray, List.set_cons_zero, List.set_cons_succ]
            refine handRead 5 (some 16) (.int .i64 x.frm) rfl rfl (by kernel_rfl) (by kernel_rfl) (by kernel_rfl) (fun _ _ _ h => h) (by kernel_rfl) (by assumption) ?_ ?_
            · intro w hSw
              (try dsimp only at hSw)
              go_simp
            simp only [Act.put, List.setIfInBounds_toArray, List.set_cons_zero, List.set_cons_succ]
            refine handRead 6 (some 17) (.slice (some ⟨g1, o1, none⟩) l.length cap1) rfl rfl (by kernel_rfl) (by kernel_rfl) (by kernel_rfl) (fun _ _ _ h => h) (by kernel_rfl) (by assumption) ?_ ?_
            · intro w hSw
              (try dsimp only at hSw)
              go_simp
            simp only [Act.put, List.setIfInBounds_toArray, List.set_cons_zero, List.set_cons_succ]
            refine handRead 7 (some 18) (.pointer (some ⟨g1, o1, none⟩)) rfl rfl (by kernel_rfl) (by kernel_rfl) (by kernel_rfl) (fun _ _ _ h => h) (by kernel_rfl) (by assumption) ?_ ?_
            · intro w hSw
              (try dsimp only at hSw)
              go_simp
            simp only [Act.put, List.setIfInBounds_toArray, List.set_cons_zero, List.set_cons_succ]
            refine handRead 8 (some 19) (.pointer (some ⟨g1, o1, none⟩)) rfl rfl (by kernel_rfl) (by kernel_rfl) (by kernel_rfl) (fun _ _ _ h => h) (by kernel_rfl) (by assumption) ?_ ?_
            · intro w hSw
              (try dsimp only at hSw)
              go_simp
            simp only [Act.put, List.setIfInBounds_toArray, List.set_cons_zero, List.set_cons_succ]
            refine handRead 9 (some 20) (.int .i64 f) rfl rfl (by kernel_rfl) (by kernel_rfl) (by kernel_rfl) (fun _ _ _ h => h) (by kernel_rfl) (by assumption) ?_ ?_
            · intro w hSw
              (try dsimp only at hSw)
              go_simp
            simp only [Act.put, List.setIfInBounds_toArray, List.set_cons_zero, List.set_cons_succ]
            refine handRead 10 (some 21) (.bool true) rfl rfl (by kernel_rfl) (by kernel_rfl) (by kernel_rfl) (fun _ _ _ h => h) (by kernel_rfl) (by assumption) ?_ ?_
            · intro w hSw
              (try dsimp only at hSw)
              go_simp
              exact HQF.out
            simp only [Act.put, List.setIfInBounds_toArray, List.set_cons_zero, List.set_cons_succ]
            refine handRead 11 (some 22) (.bool true) rfl rfl (by kernel_rfl) (by kernel_rfl) (by kernel_rfl) (fun _ _ _ h => h) (by kernel_rfl) (by assumption) ?_ ?_
            · intro w hSw
              (try dsimp only at hSw)
              go_simp
            simp only [Act.put, List.setIfInBounds_toArray, List.set_cons_zero, List.set_cons_succ]
            refine wpAnyH_done (by kernel_rfl) ?_ _
            go_wp2
            go_ret
            exact ⟨ret_bool HF.out.symm, (HS1.out.tran SA1).1⟩
      · have HF : Hid (l.all (oneB f) = true ∧ Below W.heap.size W wr) := ⟨by
          rw [List.all_eq_true]
          intro x hx
          obtain ⟨j, hj, rfl⟩ := List.getElem_of_mem hx
          exact HK.out.1 j hj (by omega), HK.out.2.1⟩
        have hlt' : ¬ (k : Int) < (l.length : Int) := by omega
        clear HK
        go_wp2
        go_ret
        exact ⟨ret_bool HF.out.1.symm, HF.out.2⟩

set_option maxRecDepth 100000 in
set_option maxHeartbeats 4000000 in
theorem isOutdone_any (W : World) (x : ItD) (v : Value) (l : List ItD) (h : ReadsIt W v l) (hl : l.length ≤ 1048576) (hx : seqB x.seq = true) (hs : ∀ y ∈ l, seqB y.seq = true) :
    Calls Try.prog 89 #[.agg #[.int .i64 x.frm, .int .i64 x.seq, .int .i64 x.age, .string x.text], v] W fun e W' => e = .returned (.bool (outdoneB l x)) ∧ Below W.heap.size W W' := by
  have HX : Hid (∀ w', Since (W.alloc (.cells #[.int .i64 x.frm, .int .i64 x.seq, .int .i64 x.age, .string x.text] 60)).heap.size (W.alloc (.cells #[.int .i64 x.frm, .int .i64 x.seq, .int .i64 x.age, .string x.text] 60)) w' → Bx4 w' W.heap.size (.int .i64 x.frm) (.int .i64 x.seq) (.int .i64 x.age) (.string x.text)) := fun w' hs => (Bx4.new _ _ _ _ _ _).below hs.1
  have HB0 : Hid (Since W.heap.size W (W.alloc (.cells #[.int .i64 x.frm, .int .i64 x.seq, .int .i64 x.age, .string x.text] 60))) := (Since.start W).step ((Below.refl _ W).alloc (Nat.le_refl _) _)
  obtain ⟨a1, cap1, rfl, hc1⟩ := h
  by_cases h1 : l = []
  · subst h1
    simp only [List.length_nil]
    clear hc1 hs
    go_enter Try.func89, Try.ntmps89
    go_wp2
    refine wp_loop_rounds 1 ?_
    rw [rounds_succ]
    go_wp2
    go_ret
    exact ⟨rfl, HB0.out.1⟩
  · obtain ⟨g1, o1, rfl, hg1, hc1⟩ := hc1.resolve_left h1
    have HC1 : Hid (∀ W1, Since W.heap.size W W1 → ∀ j (hj : j < l.length), ItAt W1 g1 (o1 + j * 4) l[j]) := fun W1 hS j hj => (hc1 j hj).below hg1 hS.1
    have HSX : Hid (seqB x.seq = true) := hx
    have HSL : Hid (∀ y ∈ l, seqB y.seq = true) := hs
    clear hc1 hg1 h1 hs hx
    go_enter Try.func89, Try.ntmps89
    go_wp2
    have HS0 : Hid (Since (W.alloc (.cells #[.int .i64 x.frm, .int .i64 x.seq, .int .i64 x.age, .string x.text] 60)).heap.size (W.alloc (.cells #[.int .i64 x.frm, .int .i64 x.seq, .int .i64 x.age, .string x.text] 60)) (W.alloc (.cells #[.int .i64 x.frm, .int .i64 x.seq, .int .i64 x.age, .string x.text] 60))) := Since.start _
    generalize hW1 : (W.alloc (.cells #[.int .i64 x.frm, .int .i64 x.seq, .int .i64 x.age, .string x.text] 60)) = W1 at *
    clear hW1
    go_loopw [9] (fun i wr => ∃ k : Nat, k ≤ l.length ∧ i = .int .i64 k ∧ Hid ((∀ j (hj : j < l.length), j < k → betterI l[j] x = false) ∧ Since W1.heap.size W1 wr)) (fun i _ => l.length - (intOf i).toNat)
    case atStart => exact ⟨0, Nat.zero_le _, rfl, fun j _ hj => absurd hj (Nat.not_lt_zero _), HS0.out⟩
    case round =>
      obtain ⟨k, hk, rfl, HK⟩ := hrel
      by_cases hlt : k < l.length
      · obtain ⟨hA, hS⟩ := HK.out
        have hlt' : (k : Int) < (l.length : Int) := by omega
        obtain ⟨q0, q1, q2, q3⟩ := HC1.out wr (HB0.out.tran hS) k hlt
        obtain ⟨a0, a1, a2, a3⟩ := (HX.out wr hS).cells
        have ltx := (HX.out wr hS).lt
        have HSY : Hid (seqB l[k].seq = true) := HSL.out _ (List.getElem_mem hlt)
        have HOK : Hid (betterI l[k] x = false → ∀ j (hj : j < l.length), j < k + 1 → betterI l[j] x = false) := fun ho j hj hk1 => by
          by_cases e : j = k
          · subst e; exact ho
          · exact hA j hj (by omega)
        have HNO : Hid (betterI l[k] x = true → outdoneB l x = true) := fun h => by
          unfold outdoneB
          rw [List.any_eq_true]
          exact ⟨_, List.getElem_mem hlt, h⟩
        have HS : Hid (Since W1.heap.size W1 wr) := hS
        generalize l[k] = y at *
        have HS1 : Hid (Since W1.heap.size W1 (wr.alloc (.cells #[.int .i64 y.frm, .int .i64 y.seq, .int .i64 y.age, .string y.text] 60))) := hS.step ((Below.refl _ wr).alloc (Nat.le_refl _) _)
        clear hA hS HK
        cases hb : betterI y x with
        | true =>
          have HE : Hid (betterI y x = true) := hb
          have HF : Hid (outdoneB l x = true) := HNO.out hb
          clear hb HOK HNO
          go_wp2_with fail
          refine (isBetter_any _ y x HSY.out HSX.out).mono ?_
          rintro e w1 ⟨rfl, hb1⟩
          rw [HE.out]
          have HS2 : Hid (Since W.heap.size W w1) := HB0.out.tran (HS1.out.step hb1)
          clear hb1
          go_wp2
          go_ret
          exact ⟨ret_bool HF.out.symm, HS2.out.1⟩
        | false =>
          have HE : Hid (betterI y x = false) := hb
          have HA1 : Hid (∀ j (hj : j < l.length), j < k + 1 → betterI l[j] x = false) := HOK.out hb
          clear hb HOK HNO
          go_wp2_with fail
          refine (isBetter_any _ y x HSY.out HSX.out).mono ?_
          rintro e w1 ⟨rfl, hb1⟩
          rw [HE.out]
          have HS2 : Hid (Since W1.heap.size W1 w1) := HS1.out.step hb1
          clear hb1
          go_wp2
          go_roundw
          case rel => exact ⟨k + 1, by omega, by go_num, HA1.out, HS2.out⟩
          case measure => simp [intOf]; omega
      · have HF : Hid (outdoneB l x = false ∧ Below W.heap.size W wr) := ⟨by
          unfold outdoneB
          rw [← Bool.not_eq_true, List.any_eq_true]
          rintro ⟨y, hy, he⟩
          obtain ⟨j, hj, rfl⟩ := List.getElem_of_mem hy
          rw [HK.out.1 j hj (by omega)] at he
          exact absurd he Bool.false_ne_true, (HB0.out.tran HK.out.2).1⟩
        have hlt' : ¬ (k : Int) < (l.length : Int) := by omega
        clear HK
        go_wp2
        go_ret
        exact ⟨ret_bool HF.out.1.symm, HF.out.2⟩

/-- What 'NewestOf' answers. -/
def newestI (l : List ItD) : Option ItD := if l.length ≤ 20 ∧ l.all (oneB (headF l)) = true then l.find? fun x => !outdoneB l x else none
def zeroI : ItD := ⟨0, 0, 0, ByteArray.empty⟩
def outNew (l : List ItD) : ItD := (newestI l).getD zeroI
def mayNew (l : List ItD) : Bool := (newestI l).isSome
theorem newest_none {l : List ItD} (h : newestI l = none) : outNew l = zeroI ∧ mayNew l = false := by unfold outNew mayNew; rw [h]; exact ⟨rfl, rfl⟩
theorem newest_some {l : List ItD} {x : ItD} (h : newestI l = some x) : outNew l = x ∧ mayNew l = true := by unfold outNew mayNew; rw [h]; exact ⟨rfl, rfl⟩
/-- The first that is not outdone. -/
theorem newest_at (l : List ItD) (h : l.length ≤ 20 ∧ l.all (oneB (headF l)) = true) (k : Nat) (hk : k < l.length) (ho : ∀ j (hj : j < l.length), j < k → outdoneB l l[j] = true) (hn : outdoneB l l[k] = false) : newestI l = some l[k] := by
  unfold newestI
  rw [if_pos h, List.find?_eq_some_iff_getElem]
  exact ⟨by rw [hn]; rfl, k, hk, rfl, fun j hj => by rw [ho j (by omega) hj]; rfl⟩
theorem newest_no (l : List ItD) (ho : ∀ j (hj : j < l.length), outdoneB l l[j] = true) : newestI l = none := by
  unfold newestI
  split
  · rw [List.find?_eq_none]
    intro x hx
    obtain ⟨j, hj, rfl⟩ := List.getElem_of_mem hx
    rw [ho j hj]
    simp
  · rfl
end Go.Proofs.Ythdcfeafkellcab
