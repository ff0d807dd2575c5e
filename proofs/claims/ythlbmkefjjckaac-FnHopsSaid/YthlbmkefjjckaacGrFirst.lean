/-
  'FirstHops' of the program and of the model.
-/
import Derived.Test.YthlbmkefjjckaacGrHopsS
namespace Go.Proofs.Ythlbmkefjjckaac
open Go.RowKit
set_option linter.unusedVariables false

theorem hopsEnters (args : Array Value) (w : World) : (callFunc 139 args).run Try.prog w = .ok (.enter 139 args) w := enters_of Try.func139 (by kernel_rfl) rfl args w

/-- The world behind 'hopsOn'. -/
def hopsW (W : World) (v u : Value) (a : Int) : World := ((W.alloc (.cells #[v] 54)).alloc (.cells #[u] 35)).alloc (.cells #[.int .i64 a] 3)
theorem hopsW_below (W : World) (v u : Value) (a : Int) : Below W.heap.size W (hopsW W v u a) := (((Below.refl _ W).alloc (Nat.le_refl _) _).alloc (by simp) _).alloc (by simp; omega) _
theorem hopsW_size (W : World) (v u : Value) (a : Int) : (hopsW W v u a).heap.size = W.heap.size + 3 := by simp [hopsW]
/-- What 'Collect' makes of 'hopsOn'. -/
theorem colHops_any (W : World) (v u : Value) (l : List EdD) (far : List Int) (n : Nat) (a : Int) (B : Nat) (hr : ReadsEd W v l) (hu : Own W B u far) (hn : 1 ≤ n ∧ n ≤ 12) (hfl : far.length = n) (hf : FitEd n l) (ha : 0 ≤ a ∧ a < n) (hl : l.length ≤ 40)
    (hfar : ∀ i : Int, 0 ≤ i → i < n → 0 ≤ lab far i ∧ lab far i ≤ farC) :
    Calls Try.prog 113 #[.func (.func 139) #[] #[.pointer (some ⟨W.heap.size, 0, none⟩), .pointer (some ⟨W.heap.size + 1 + 1, 0, none⟩), .pointer (some ⟨W.heap.size + 1, 0, none⟩)]] (hopsW W v u a)
      fun e W' => ∃ v', e = .returned v' ∧ Own W' W.heap.size v' (hopsD l far a) ∧ Below W.heap.size W W' := by
  rcases hu.2 with ⟨-, h0⟩ | ⟨fg, fcap, fcur, rfl, hfB, hfg, -⟩
  · omega
  have hu' := hu
  rw [hfl] at hu'
  have hb := hopsW_below W v (.slice (some ⟨fg, 0, none⟩) far.length fcap) a
  have c0 : (hopsW W v (.slice (some ⟨fg, 0, none⟩) far.length fcap) a).cell? ⟨W.heap.size, 0, none⟩ = some v := (((Boxed.new W _ _).alloc _).alloc _).cell
  have c1 : (hopsW W v (.slice (some ⟨fg, 0, none⟩) far.length fcap) a).cell? ⟨W.heap.size + 1, 0, none⟩ = some (.slice (some ⟨fg, 0, none⟩) far.length fcap) := by
    have := ((Boxed.new (W.alloc (.cells #[v] 54)) 35 (.slice (some ⟨fg, 0, none⟩) far.length fcap)).alloc (.cells #[.int .i64 a] 3)).cell
    rwa [World.size_alloc] at this
  have c2 : (hopsW W v (.slice (some ⟨fg, 0, none⟩) far.length fcap) a).cell? ⟨W.heap.size + 1 + 1, 0, none⟩ = some (.int .i64 a) := by
    have := (Boxed.new ((W.alloc (.cells #[v] 54)).alloc (.cells #[.slice (some ⟨fg, 0, none⟩) far.length fcap] 35)) 3 (.int .i64 a)).cell
    rwa [World.size_alloc, World.size_alloc] at this
  rw [hfl] at c1
  have hseq := hopsIt_any (fun b => b < W.heap.size + 3) W.heap.size (W.heap.size + 1 + 1) (W.heap.size + 1) v l far n a W _ B fg fcap hn hfl hf ha hl hfar (by omega) (by omega) (by omega) c0 c2 (by rw [← hfl] at c1 ⊢; exact c1) hr hu' hb (fun b hb => by omega)
  refine (collect_any _ _ _ _ (hopsD l far a) hopsEnters hseq (fun b hb => by rw [hopsW_size]; exact hb) (Nat.le_trans (hopsD_len l far a) (by omega))).mono ?_
  rintro e W' ⟨v', rfl, ho, hbb⟩
  exact ⟨v', rfl, ho.mono hb.size, hb.trans (hbb.mono hb.size)⟩

def hopsOk (n : Int) (l : List EdD) (a b : Int) : Bool := endsOk n l a b && decide (a ≠ b)
def hopsOut (n : Int) (l : List EdD) (a b : Int) : List Int := if hopsOk n l a b then hopsD l (fars n.toNat l b) a else []
theorem hopsOk_true {n : Int} {l : List EdD} {a b : Int} (h : hopsOk n l a b = true) : goodEd n l = true ∧ (0 ≤ a ∧ a < n) ∧ (0 ≤ b ∧ b < n) ∧ a ≠ b := by
  unfold hopsOk at h
  rw [Bool.and_eq_true] at h
  have := endsOk_true h.1
  exact ⟨this.1, this.2.1, this.2.2, of_decide_eq_true h.2⟩
theorem hopsOut_len (n : Int) (l : List EdD) (a b : Int) : (hopsOut n l a b).length ≤ 4194304 := by
  unfold hopsOut
  split
  · next h =>
    have h1 := hopsOk_true h
    have := (goodEd_true h1.1).2.1
    have := hopsD_len l (fars n.toNat l b) a
    omega
  · simp

set_option maxRecDepth 100000 in
set_option maxHeartbeats 4000000 in
theorem implFirstHops_any (W : World) (v : Value) (n : Int) (l : List EdD) (a b : Int) (h : ReadsEd W v l) (hl : l.length ≤ 2097152) :
    Calls Try.prog 64 #[.int .i64 n, v, .int .i64 a, .int .i64 b] W (NearPost W (hopsOut n l a b) (hopsOk n l a b)) := by
  have CG : Hid (Calls Try.prog 106 #[.int .i64 n, v, .int .i64 a, .int .i64 b] W fun e W' => e = .returned (.bool (endsOk n l a b)) ∧ Below W.heap.size W W') := areEnds_any W v n l a b h hl
  have HRD : Hid (∀ w', Since W.heap.size W w' → ReadsEd w' v l) := fun w' hs => h.below hs.1
  have HS0 : Hid (Since W.heap.size W W) := Since.start W
  obtain ⟨a1, c1, rfl⟩ := h.shape
  have HD : Hid (hopsOk n l a b = (endsOk n l a b && decide (a ≠ b)) ∧ hopsOut n l a b = if hopsOk n l a b then hopsD l (fars n.toNat l b) a else []) := ⟨rfl, rfl⟩
  have HT : Hid (hopsOk n l a b = true → goodEd n l = true ∧ (0 ≤ a ∧ a < n) ∧ (0 ≤ b ∧ b < n) ∧ a ≠ b) := hopsOk_true
  generalize hopsOk n l a b = ok at *
  generalize hopsOut n l a b = out at *
  clear h
  cases he : endsOk n l a b with
  | false =>
    have HF : Hid (ok = false ∧ out = []) := by
      have h1 : ok = false := HD.out.1.trans (by rw [he]; rfl)
      exact ⟨h1, HD.out.2.trans (by rw [h1]; rfl)⟩
    rw [he] at CG
    clear he HD HT
    go_enter Try.func64, Try.ntmps64
    go_wp2_with fail
    refine CG.out.mono ?_
    rintro e w1 ⟨rfl, hb1⟩
    have HB1 : Hid (Below W.heap.size W w1) := hb1
    clear hb1
    go_wp2
    refine bodyPost_ret (results_tmp2 rfl _ _ _) rfl ?_
    exact NearPost.zero HF.out.1 HF.out.2 HB1.out
  | true =>
    rw [he] at CG
    by_cases hab : a = b
    · have HF : Hid (ok = false ∧ out = []) := by
        have h1 : ok = false := HD.out.1.trans (by rw [he, decide_eq_false (not_not_intro hab)]; rfl)
        exact ⟨h1, HD.out.2.trans (by rw [h1]; rfl)⟩
      have t1 : (a == b) = true := by simpa using hab
      clear he HD HT hab
      go_enter Try.func64, Try.ntmps64
      go_wp2_with fail
      refine CG.out.mono ?_
      rintro e w1 ⟨rfl, hb1⟩
      have HB1 : Hid (Below W.heap.size W w1) := hb1
      clear hb1
      go_wp2
      refine bodyPost_ret (results_tmp2 rfl _ _ _) rfl ?_
      exact NearPost.zero HF.out.1 HF.out.2 HB1.out
    · have HF : Hid (ok = true ∧ out = hopsD l (fars n.toNat l b) a) := by
        have h1 : ok = true := HD.out.1.trans (by rw [he, decide_eq_true hab]; rfl)
        exact ⟨h1, HD.out.2.trans (by rw [h1]; rfl)⟩
      have t1 : (a == b) = false := by simpa using hab
      obtain ⟨hg, hA, hB, -⟩ := HT.out HF.out.1
      obtain ⟨g1, g2, g3, g4⟩ := goodEd_true hg
      obtain ⟨N, rfl⟩ : ∃ N : Nat, n = (N : Int) := ⟨n.toNat, by omega⟩
      rw [show ((N : Int)).toNat = N from rfl] at HF
      have CF : Hid (∀ w', Since W.heap.size W w' → Calls Try.prog 107 #[.int .i64 (N : Int), .slice a1 l.length c1, .int .i64 b] w' fun e w2 => ∃ u, e = .returned u ∧ Own w2 w'.heap.size u (fars N l b) ∧ Below w'.heap.size w' w2) := fun w' hs => farsFrom_any w' _ l N b (HRD.out w' hs) g3 (by omega) g2 hB
      have CC : Hid (∀ (w' : World) (B : Nat) (u : Value), Since W.heap.size W w' → Own w' B u (fars N l b) → Calls Try.prog 113 #[.func (.func 139) #[] #[.pointer (some ⟨w'.heap.size, 0, none⟩), .pointer (some ⟨w'.heap.size + 1 + 1, 0, none⟩), .pointer (some ⟨w'.heap.size + 1, 0, none⟩)]] (hopsW w' (.slice a1 l.length c1) u a) fun e w2 => ∃ v', e = .returned v' ∧ Own w2 w'.heap.size v' (hopsD l (fars N l b) a) ∧ Below w'.heap.size w' w2) := fun w' B u hs ho =>
        colHops_any w' _ u l (fars N l b) N a B (HRD.out w' hs) ho (by omega) fars_len g3 hA g2 (fun i h0 hi => ⟨fars_nonneg g3 hB i h0 hi, fars_far hB i h0 hi⟩)
      clear he HD HT hab hg hA hB g1 g2 g3 g4
      go_enter Try.func64, Try.ntmps64
      go_wp2_with fail
      refine CG.out.mono ?_
      rintro e w1 ⟨rfl, hb1⟩
      have HS1 : Hid (Since W.heap.size W w1) := HS0.out.step hb1
      clear hb1
      go_wp2_with fail
      refine (CF.out _ HS1.out).mono ?_
      rintro e w2 ⟨u2, rfl, ho2, hb2⟩
      have HO2 : Hid (Own w2 w1.heap.size u2 (fars N l b)) := ho2
      have HS2 : Hid (Since W.heap.size W w2) := HS1.out.step hb2
      obtain ⟨a3, c3, rfl⟩ := ho2.shape
      clear ho2 hb2
      go_wp2_with fail
      refine (hopsOn_any w2 (.slice a1 l.length c1) (.slice a3 (fars N l b).length c3) ⟨_, _, _, rfl⟩ ⟨_, _, _, rfl⟩ a).mono ?_
      rintro e w3 ⟨rfl, hw3⟩
      have hw3' : w3 = hopsW w2 (.slice a1 l.length c1) (.slice a3 (fars N l b).length c3) a := hw3
      rw [hw3']
      clear hw3 hw3'
      go_wp2_with fail
      refine (CC.out w2 _ _ HS2.out HO2.out).mono ?_
      rintro e w4 ⟨u4, rfl, ho4, hb4⟩
      obtain ⟨a5, c5, rfl⟩ := ho4.shape
      have HO4 : Hid (Own w4 W.heap.size (.slice a5 (hopsD l (fars N l b) a).length c5) (hopsD l (fars N l b) a)) := ho4.mono HS2.out.2
      have HS4 : Hid (Since W.heap.size W w4) := HS2.out.step hb4
      clear ho4 hb4
      go_wp2
      refine bodyPost_ret (results_tmp2 rfl _ _ _) rfl ?_
      exact NearPost.mk HF.out.1 HF.out.2 HO4.out HS4.out.1

set_option maxRecDepth 100000 in
set_option maxHeartbeats 4000000 in
theorem specFirstHops_any (W : World) (v : Value) (n : Int) (l : List EdD) (a b : Int) (h : ReadsEd W v l) (hl : l.length ≤ 2097152) :
    Calls Try.prog 65 #[.int .i64 n, v, .int .i64 a, .int .i64 b] W (NearPost W (hopsOut n l a b) (hopsOk n l a b)) := by
  have CG : Hid (Calls Try.prog 115 #[.int .i64 n, v, .int .i64 a, .int .i64 b] W fun e W' => e = .returned (.bool (endsOk n l a b)) ∧ Below W.heap.size W W') := l9Two_any W v n l a b h hl
  have HRD : Hid (∀ w', Since W.heap.size W w' → ReadsEd w' v l) := fun w' hs => h.below hs.1
  have HS0 : Hid (Since W.heap.size W W) := Since.start W
  obtain ⟨a1, c1, rfl⟩ := h.shape
  have HD : Hid (hopsOk n l a b = (endsOk n l a b && decide (a ≠ b)) ∧ hopsOut n l a b = if hopsOk n l a b then hopsD l (fars n.toNat l b) a else []) := ⟨rfl, rfl⟩
  have HT : Hid (hopsOk n l a b = true → goodEd n l = true ∧ (0 ≤ a ∧ a < n) ∧ (0 ≤ b ∧ b < n) ∧ a ≠ b) := hopsOk_true
  generalize hopsOk n l a b = ok at *
  generalize hopsOut n l a b = out at *
  clear h
  cases he : endsOk n l a b with
  | false =>
    have HF : Hid (ok = false ∧ out = []) := by
      have h1 : ok = false := HD.out.1.trans (by rw [he]; rfl)
      exact ⟨h1, HD.out.2.trans (by rw [h1]; rfl)⟩
    rw [he] at CG
    clear he HD HT
    go_enter Try.func65, Try.ntmps65
    go_wp2_with fail
    refine CG.out.mono ?_
    rintro e w1 ⟨rfl, hb1⟩
    have HB1 : Hid (Below W.heap.size W w1) := hb1
    clear hb1
    go_wp2
    refine bodyPost_ret (results_tmp2 rfl _ _ _) rfl ?_
    exact NearPost.zero HF.out.1 HF.out.2 HB1.out
  | true =>
    rw [he] at CG
    by_cases hab : a = b
    · have HF : Hid (ok = false ∧ out = []) := by
        have h1 : ok = false := HD.out.1.trans (by rw [he, decide_eq_false (not_not_intro hab)]; rfl)
        exact ⟨h1, HD.out.2.trans (by rw [h1]; rfl)⟩
      have t1 : (a == b) = true := by simpa using hab
      clear he HD HT hab
      go_enter Try.func65, Try.ntmps65
      go_wp2_with fail
      refine CG.out.mono ?_
      rintro e w1 ⟨rfl, hb1⟩
      have HB1 : Hid (Below W.heap.size W w1) := hb1
      clear hb1
      go_wp2
      refine bodyPost_ret (results_tmp2 rfl _ _ _) rfl ?_
      exact NearPost.zero HF.out.1 HF.out.2 HB1.out
    · have HF : Hid (ok = true ∧ out = hopsD l (fars n.toNat l b) a) := by
        have h1 : ok = true := HD.out.1.trans (by rw [he, decide_eq_true hab]; rfl)
        exact ⟨h1, HD.out.2.trans (by rw [h1]; rfl)⟩
      have t1 : (a == b) = false := by simpa using hab
      obtain ⟨hg, hA, hB, -⟩ := HT.out HF.out.1
      obtain ⟨g1, g2, g3, g4⟩ := goodEd_true hg
      obtain ⟨N, rfl⟩ : ∃ N : Nat, n = (N : Int) := ⟨n.toNat, by omega⟩
      rw [show ((N : Int)).toNat = N from rfl] at HF
      have CC : Hid (∀ w', Since W.heap.size W w' → Calls Try.prog 116 #[.int .i64 (N : Int), .slice a1 l.length c1, .int .i64 a, .int .i64 b] w' fun e w2 => ∃ u, e = .returned u ∧ Own w2 w'.heap.size u (hopsD l (fars N l b) a) ∧ Below w'.heap.size w' w2) := fun w' hs => l9Hops_any w' _ l N a b (HRD.out w' hs) g3 g4 (by omega) g2 hA hB
      clear he HD HT hab hg hA hB g1 g2 g3 g4
      go_enter Try.func65, Try.ntmps65
      go_wp2_with fail
      refine CG.out.mono ?_
      rintro e w2 ⟨rfl, hb1⟩
      have HS2 : Hid (Since W.heap.size W w2) := HS0.out.step hb1
      clear hb1
      go_wp2_with fail
      refine (CC.out _ HS2.out).mono ?_
      rintro e w4 ⟨u4, rfl, ho4, hb4⟩
      obtain ⟨a5, c5, rfl⟩ := ho4.shape
      have HO4 : Hid (Own w4 W.heap.size (.slice a5 (hopsD l (fars N l b) a).length c5) (hopsD l (fars N l b) a)) := ho4.mono HS2.out.2
      have HS4 : Hid (Since W.heap.size W w4) := HS2.out.step hb4
      clear ho4 hb4
      go_wp2
      refine bodyPost_ret (results_tmp2 rfl _ _ _) rfl ?_
      exact NearPost.mk HF.out.1 HF.out.2 HO4.out HS4.out.1
end Go.Proofs.Ythlbmkefjjckaac
