/-
  'WayTo' of the program and of the model.
-/
import Derived.Test.YthlbmkefjjckaacGrWalk
namespace Go.Proofs.Ythlbmkefjjckaac
open Go.RowKit
set_option linter.unusedVariables false

theorem walkEnters (args : Array Value) (w : World) : (callFunc 136 args).run Try.prog w = .ok (.enter 136 args) w := enters_of Try.func136 (by kernel_rfl) rfl args w
/-- What 'Collect' makes of 'walk'. -/
theorem colWalk_any (W : World) (v u : Value) (l : List EdD) (far : List Int) (n : Nat) (a : Int) (r : List Int) (B : Nat) (hr : ReadsEd W v l) (hu : Own W B u far) (hn : 1 ≤ n ∧ n ≤ 12) (hfl : far.length = n) (hf : FitEd n l) (ha : 0 ≤ a ∧ a < n) (hl : l.length ≤ 40)
    (hfar : ∀ i : Int, 0 ≤ i → i < n → 0 ≤ lab far i ∧ lab far i ≤ farC) (hway : IsWay l far (a :: r)) :
    Calls Try.prog 113 #[.func (.func 136) #[] #[.pointer (some ⟨W.heap.size + 1 + 1, 0, none⟩), .pointer (some ⟨W.heap.size, 0, none⟩), .pointer (some ⟨W.heap.size + 1, 0, none⟩)]] (hopsW W v u a)
      fun e W' => ∃ v', e = .returned v' ∧ Own W' W.heap.size v' (a :: r) ∧ Below W.heap.size W W' := by
  rcases hu.2 with ⟨-, h0⟩ | ⟨fg, fcap, fcur, rfl, hfB, hfg, -⟩
  · omega
  have hu' := hu
  rw [hfl] at hu'
  have hb := hopsW_below W v (.slice (some ⟨fg, 0, none⟩) far.length fcap) a
  have c0 : (hopsW W v (.slice (some ⟨fg, 0, none⟩) far.length fcap) a).cell? ⟨W.heap.size, 0, none⟩ = some v := (((Boxed.new W _ _).alloc _).alloc _).cell
  have c1 : (hopsW W v (.slice (some ⟨fg, 0, none⟩) far.length fcap) a).cell? ⟨W.heap.size + 1, 0, none⟩ = some (.slice (some ⟨fg, 0, none⟩) far.length fcap) := by
    have := ((Boxed.new (W.alloc (.cells #[v] 54)) 35 (.slice (some ⟨fg, 0, none⟩) far.length fcap)).alloc (.cells #[.int .i64 a] 3)).cell
    rwa [World.size_alloc] at this
  have c2 : (hopsW W v (.slice (some ⟨fg, 0, none⟩) far.length fcap) a).cell? ⟨W.heap.size + 1 + 1, 0, none⟩ = some (.int .i64 a) := by
    have := (Boxed.new ((W.alloc (.cells #[v] 54)).alloc (.cells #[.slice (some ⟨fg, 0, none⟩) far.length fcap] 35)) 3 (.int .i64 a)).cell
    rwa [World.size_alloc, World.size_alloc] at this
  rw [hfl] at c1
  have hlen := way_len hf r a ha.1 ha.2 hway
  have hseq := walkIt_any (fun b => b < W.heap.size + 3) W.heap.size (W.heap.size + 1 + 1) (W.heap.size + 1) v l far n a r W _ B fg fcap hn hfl hf ha hl hfar hway (by omega) (by omega) (by omega) c0 c2 (by rw [← hfl] at c1 ⊢; exact c1) hr hu' hb (fun b hb => by omega)
  refine (collect_any _ _ _ _ (a :: r) walkEnters hseq (fun b hb => by rw [hopsW_size]; exact hb) (by omega)).mono ?_
  rintro e W' ⟨v', rfl, ho, hbb⟩
  exact ⟨v', rfl, ho.mono hb.size, hb.trans (hbb.mono hb.size)⟩

/-- The way by the least ones, of so many steps at most. -/
def wayD (l : List EdD) (far : List Int) : Nat → Int → List Int
  | 0, x => [x]
  | m + 1, x => match hopsD l far x with
    | [] => [x]
    | y :: _ => x :: wayD l far m y
theorem wayD_is {n : Int} {l : List EdD} (hf : FitEd n l) {far : List Int} (h0 : ∀ i : Int, 0 ≤ i → i < n → 0 ≤ lab far i) : ∀ (m : Nat) (x : Int), 0 ≤ x → x < n → (lab far x).toNat ≤ m → ∃ r, wayD l far m x = x :: r ∧ IsWay l far (x :: r)
  | 0, x, hx, hxn, h => by
    refine ⟨[], rfl, ?_⟩
    rcases e : hopsD l far x with _ | ⟨y, t⟩
    · exact e
    · obtain ⟨c, hj, hc⟩ := way_hop hf (far := far) (x := x) (y := y) (by rw [e]; rfl)
      have hfit := hj.fit hf
      have := h0 y hfit.2.1.1 hfit.2.1.2
      have := h0 x hx hxn
      omega
  | m + 1, x, hx, hxn, h => by
    rcases e : hopsD l far x with _ | ⟨y, t⟩
    · exact ⟨[], by simp only [wayD, e], e⟩
    · obtain ⟨c, hj, hc⟩ := way_hop hf (far := far) (x := x) (y := y) (by rw [e]; rfl)
      have hfit := hj.fit hf
      have := h0 y hfit.2.1.1 hfit.2.1.2
      obtain ⟨r, hr, hw⟩ := wayD_is hf h0 m y hfit.2.1.1 hfit.2.1.2 (by omega)
      exact ⟨y :: r, by simp only [wayD, e, hr], by rw [e]; rfl, hw⟩
def wayOk (n : Int) (l : List EdD) (a b : Int) : Bool := endsOk n l a b && decide (lab (fars n.toNat l b) a < farC)
def wayOut (n : Int) (l : List EdD) (a b : Int) : List Int := if wayOk n l a b then wayD l (fars n.toNat l b) (lab (fars n.toNat l b) a).toNat a else []
def wayCost (n : Int) (l : List EdD) (a b : Int) : Int := if wayOk n l a b then lab (fars n.toNat l b) a else 0
theorem wayOut_is {n : Int} {l : List EdD} {a b : Int} (h : wayOk n l a b = true) : ∃ r, wayOut n l a b = a :: r ∧ IsWay l (fars n.toNat l b) (a :: r) := by
  unfold wayOut
  rw [if_pos h]
  unfold wayOk at h
  rw [Bool.and_eq_true] at h
  obtain ⟨hg, hA, hB⟩ := endsOk_true h.1
  obtain ⟨g1, -, g3, -⟩ := goodEd_true hg
  obtain ⟨N, rfl⟩ : ∃ N : Nat, n = (N : Int) := ⟨n.toNat, by omega⟩
  exact wayD_is g3 (fun i h0 hi => fars_nonneg g3 hB i h0 hi) _ a hA.1 hA.2 (Nat.le_refl _)
theorem wayOut_len (n : Int) (l : List EdD) (a b : Int) : (wayOut n l a b).length ≤ 4194304 := by
  by_cases h : wayOk n l a b = true
  · obtain ⟨r, hr, hw⟩ := wayOut_is h
    rw [hr]
    unfold wayOk at h
    rw [Bool.and_eq_true] at h
    obtain ⟨hg, hA, hB⟩ := endsOk_true h.1
    obtain ⟨g1, -, g3, -⟩ := goodEd_true hg
    obtain ⟨N, rfl⟩ : ∃ N : Nat, n = (N : Int) := ⟨n.toNat, by omega⟩
    have := way_len g3 r a hA.1 hA.2 hw
    omega
  · unfold wayOut
    rw [if_neg h]
    simp
def WayPost (W : World) (out : List Int) (c : Int) (ok : Bool) (e : Ending) (W' : World) : Prop := ∃ u, e = .returned (.tuple #[u, .int .i64 c, .bool ok]) ∧ Own W' W.heap.size u out ∧ Below W.heap.size W W'
theorem WayPost.zero {W W' : World} {out : List Int} {c : Int} {ok : Bool} (h : ok = false ∧ out = [] ∧ c = 0) (hb : Below W.heap.size W W') : WayPost W out c ok (.returned (.tuple #[.slice none 0 0, .int .i64 0, .bool false])) W' := ⟨_, by rw [h.1, h.2.2], by rw [h.2.1]; exact Own.nil _ _, hb⟩
theorem wayNot {n : Int} {l : List EdD} {a b : Int} (h : wayOk n l a b = false) : wayOk n l a b = false ∧ wayOut n l a b = [] ∧ wayCost n l a b = 0 := ⟨h, by unfold wayOut; rw [if_neg (by rw [h]; decide)], by unfold wayCost; rw [if_neg (by rw [h]; decide)]⟩

set_option maxRecDepth 100000 in
set_option maxHeartbeats 4000000 in
theorem implWayTo_any (W : World) (v : Value) (n : Int) (l : List EdD) (a b : Int) (h : ReadsEd W v l) (hl : l.length ≤ 2097152) :
    Calls Try.prog 60 #[.int .i64 n, v, .int .i64 a, .int .i64 b] W (WayPost W (wayOut n l a b) (wayCost n l a b) (wayOk n l a b)) := by
  have CG : Hid (Calls Try.prog 106 #[.int .i64 n, v, .int .i64 a, .int .i64 b] W fun e W' => e = .returned (.bool (endsOk n l a b)) ∧ Below W.heap.size W W') := areEnds_any W v n l a b h hl
  have HRD : Hid (∀ w', Since W.heap.size W w' → ReadsEd w' v l) := fun w' hs => h.below hs.1
  have HS0 : Hid (Since W.heap.size W W) := Since.start W
  obtain ⟨a1, c1, rfl⟩ := h.shape
  have HN : Hid (wayOk n l a b = false → wayOk n l a b = false ∧ wayOut n l a b = [] ∧ wayCost n l a b = 0) := wayNot
  have HD : Hid (wayOk n l a b = (endsOk n l a b && decide (lab (fars n.toNat l b) a < farC)) ∧ (wayOk n l a b = true → wayCost n l a b = lab (fars n.toNat l b) a)) := ⟨rfl, fun h => by unfold wayCost; rw [if_pos h]⟩
  have HW : Hid (wayOk n l a b = true → ∃ r, wayOut n l a b = a :: r ∧ IsWay l (fars n.toNat l b) (a :: r)) := wayOut_is
  generalize wayOk n l a b = ok at *
  generalize wayOut n l a b = out at *
  generalize wayCost n l a b = cost at *
  clear h
  cases he : endsOk n l a b with
  | false =>
    have HF := HN.out (HD.out.1.trans (by rw [he]; rfl))
    rw [he] at CG
    have HF : Hid (ok = false ∧ out = [] ∧ cost = 0) := HF
    clear he HD HN HW
    go_enter Try.func60, Try.ntmps60
    go_wp2_with fail
    refine CG.out.mono ?_
    rintro e w1 ⟨rfl, hb1⟩
    have HB1 : Hid (Below W.heap.size W w1) := hb1
    clear hb1
    go_wp2
    refine bodyPost_ret (results_tmp3 rfl _ _ _) rfl ?_
    exact WayPost.zero HF.out HB1.out
  | true =>
    rw [he] at CG
    obtain ⟨hg, hA, hB⟩ := endsOk_true he
    obtain ⟨g1, g2, g3, g4⟩ := goodEd_true hg
    obtain ⟨N, rfl⟩ : ∃ N : Nat, n = (N : Int) := ⟨n.toNat, by omega⟩
    rw [show ((N : Int)).toNat = N from rfl] at HD HW
    obtain ⟨k, rfl⟩ : ∃ k : Nat, a = (k : Int) := ⟨a.toNat, by omega⟩
    have hkN : k < N := by omega
    have hkN' : (k : Int) < (N : Int) := by omega
    have CF : Hid (∀ w', Since W.heap.size W w' → Calls Try.prog 107 #[.int .i64 (N : Int), .slice a1 l.length c1, .int .i64 b] w' fun e w2 => ∃ u, e = .returned u ∧ Own w2 w'.heap.size u (fars N l b) ∧ Below w'.heap.size w' w2) := fun w' hs => farsFrom_any w' _ l N b (HRD.out w' hs) g3 (by omega) g2 hB
    have CC : Hid (∀ (w' : World) (B : Nat) (u : Value) (r : List Int), Since W.heap.size W w' → Own w' B u (fars N l b) → IsWay l (fars N l b) ((k : Int) :: r) → Calls Try.prog 113 #[.func (.func 136) #[] #[.pointer (some ⟨w'.heap.size + 1 + 1, 0, none⟩), .pointer (some ⟨w'.heap.size, 0, none⟩), .pointer (some ⟨w'.heap.size + 1, 0, none⟩)]] (hopsW w' (.slice a1 l.length c1) u (k : Int)) fun e w2 => ∃ v', e = .returned v' ∧ Own w2 w'.heap.size v' ((k : Int) :: r) ∧ Below w'.heap.size w' w2) := fun w' B u r hs ho hw =>
      colWalk_any w' _ u l (fars N l b) N (k : Int) r B (HRD.out w' hs) ho (by omega) fars_len g3 hA g2 (fun i h0 hi => ⟨fars_nonneg g3 hB i h0 hi, fars_far hB i h0 hi⟩) hw
    have HLE : Hid (lab (fars N l b) (k : Int) ≤ farC) := fars_far hB (k : Int) hA.1 hA.2
    have hfl : (fars N l b).length = N := fars_len
    have he1 : Hid (ok = decide (lab (fars N l b) (k : Int) < farC)) := HD.out.1.trans (by rw [he]; rfl)
    have HCO : Hid (ok = true → cost = lab (fars N l b) (k : Int)) := HD.out.2
    clear he HD hg hA hB g1 g2 g3 g4
    go_enter Try.func60, Try.ntmps60
    go_wp2_with fail
    refine CG.out.mono ?_
    rintro e w1 ⟨rfl, hb1⟩
    have HS1 : Hid (Since W.heap.size W w1) := HS0.out.step hb1
    clear hb1
    go_wp2_with fail
    refine (CF.out _ HS1.out).mono ?_
    rintro e w2 ⟨u2, rfl, ho2, hb2⟩
    have HS2 : Hid (Since W.heap.size W w2) := HS1.out.step hb2
    rcases ho2.2 with ⟨hv, h0⟩ | ⟨g, cap, cur, rfl, -⟩
    · omega
    have hcell : w2.cell? ⟨g, k, none⟩ = some (.int .i64 (lab (fars N l b) (k : Int))) := by
      have h1 := own_cellG ho2 rfl k (by omega)
      rw [← lab_get (fars N l b) k (by omega)] at h1
      exact h1
    have HO2 : Hid (Own w2 w1.heap.size (.slice (some ⟨g, 0, none⟩) (fars N l b).length cap) (fars N l b)) := ho2
    rw [hfl] at HO2 ⊢
    clear ho2 hb2
    obtain ⟨f, hf⟩ : ∃ f, f = lab (fars N l b) (k : Int) := ⟨_, rfl⟩
    rw [← hf] at hcell HLE he1 HCO
    by_cases hq : f = 100000
    · have HF : Hid (ok = false ∧ out = [] ∧ cost = 0) := HN.out (he1.out.trans (by rw [hq]; rfl))
      have hq' : (f == 100000) = true := by simpa using hq
      clear hq hf he1 HN HCO HLE CC CF CG HW
      go_wp2
      refine bodyPost_ret (results_tmp3 rfl _ _ _) rfl ?_
      exact WayPost.zero HF.out HS2.out.1
    · have HOK : ok = true := he1.out.trans (by have := HLE.out; unfold farC at *; simp; omega)
      have HC : Hid (ok = true ∧ cost = f) := ⟨HOK, HCO.out HOK⟩
      obtain ⟨r, hout, hway⟩ := HW.out HOK
      have HOUT : Hid (out = (k : Int) :: r) := hout
      have hq' : (f == 100000) = false := by simpa using hq
      have CW : Hid (∀ w', w' = w2.drew → Calls Try.prog 113 #[.func (.func 136) #[] #[.pointer (some ⟨w'.heap.size + 1 + 1, 0, none⟩), .pointer (some ⟨w'.heap.size, 0, none⟩), .pointer (some ⟨w'.heap.size + 1, 0, none⟩)]] (hopsW w' (.slice a1 l.length c1) (.slice (some ⟨g, 0, none⟩) N cap) (k : Int)) fun e w3 => ∃ v', e = .returned v' ∧ Own w3 w'.heap.size v' ((k : Int) :: r) ∧ Below w'.heap.size w' w3) := fun w' hw => by
        subst hw
        exact CC.out w2.drew _ _ r HS2.out.drew (HO2.out.below ((Below.refl _ w2).drew)) hway
      have HCELL : Hid (w2.cell? ⟨g, k, none⟩ = some (.int .i64 f)) := hcell
      clear hq hf he1 HN HCO HLE CC CF CG HW hout hway HOK
      go_wp2
      -- all at once
      have HSH : Hid (∀ w', Below w2.drew.heap.size w2.drew w' → w'.cell? ⟨g, k, none⟩ = some (.int .i64 f)) := fun w' hb => by
        have q : w2.drew.cell? ⟨g, k, none⟩ = some (.int .i64 f) := HCELL.out
        exact (hb.cell (p := ⟨g, k, none⟩) (World.block_lt_of_cell? _ ⟨g, k, none⟩ q)).trans q
      clear hcell
      refine (wpIn_wide (n := 9)).1 ?_
      refine region_outRound (S := (fun w' : World => w'.cell? ⟨g, k, none⟩ = some (.int .i64 f))) 11 (by kernel_rfl) ?_ (fun hHeld => ?_)
      · exact HSH.out _ (Below.refl _ _)
      refine roundRead 0 (some 27) (.slice a1 l.length c1) rfl rfl (by kernel_rfl) (by kernel_rfl) (by kernel_rfl) (by kernel_rfl) (fun _ _ _ h => h) (by kernel_rfl) (by assumption) ?_ ?_
      · intro w hSw
        (try dsimp only at hSw)
        go_simp
      simp only [Act.put, List.setIfInBounds_toArray, List.set_cons_zero, List.set_cons_succ]
      refine roundRead 1 (some 28) (.slice (some ⟨g, 0, none⟩) N cap) rfl rfl (by kernel_rfl) (by kernel_rfl) (by kernel_rfl) (by kernel_rfl) (fun _ _ _ h => h) (by kernel_rfl) (by assumption) ?_ ?_
      · intro w hSw
        (try dsimp only at hSw)
        go_simp
      simp only [Act.put, List.setIfInBounds_toArray, List.set_cons_zero, List.set_cons_succ]
      refine roundRead 2 (some 29) (.int .i64 (k : Int)) rfl rfl (by kernel_rfl) (by kernel_rfl) (by kernel_rfl) (by kernel_rfl) (fun _ _ _ h => h) (by kernel_rfl) (by assumption) ?_ ?_
      · intro w hSw
        (try dsimp only at hSw)
        go_simp
      simp only [Act.put, List.setIfInBounds_toArray, List.set_cons_zero, List.set_cons_succ]
      refine roundRead 5 (some 32) (.slice (some ⟨g, 0, none⟩) N cap) rfl rfl (by kernel_rfl) (by kernel_rfl) (by kernel_rfl) (by kernel_rfl) (fun _ _ _ h => h) (by kernel_rfl) (by assumption) ?_ ?_
      · intro w hSw
        (try dsimp only at hSw)
        go_simp
      simp only [Act.put, List.setIfInBounds_toArray, List.set_cons_zero, List.set_cons_succ]
      refine roundRead 6 (some 33) (.int .i64 (k : Int)) rfl rfl (by kernel_rfl) (by kernel_rfl) (by kernel_rfl) (by kernel_rfl) (fun _ _ _ h => h) (by kernel_rfl) (by assumption) ?_ ?_
      · intro w hSw
        (try dsimp only at hSw)
        go_simp
      simp only [Act.put, List.setIfInBounds_toArray, List.set_cons_zero, List.set_cons_succ]
      refine roundRead 7 (some 34) (.pointer (some ⟨g, k, none⟩)) rfl rfl (by kernel_rfl) (by kernel_rfl) (by kernel_rfl) (by kernel_rfl) (fun _ _ _ h => h) (by kernel_rfl) (by assumption) ?_ ?_
      · intro w hSw
        (try dsimp only at hSw)
        go_simp
      simp only [Act.put, List.setIfInBounds_toArray, List.set_cons_zero, List.set_cons_succ]
      refine roundRead 8 (some 35) (.int .i64 f) rfl rfl (by kernel_rfl) (by kernel_rfl) (by kernel_rfl) (by kernel_rfl) (fun _ _ _ h => h) (by kernel_rfl) (by assumption) ?_ ?_
      · intro w hSw
        (try dsimp only at hSw)
        go_simp
      simp only [Act.put, List.setIfInBounds_toArray, List.set_cons_zero, List.set_cons_succ]
      refine roundCall 3 (some 30) 114 #[.slice a1 l.length c1, .slice (some ⟨g, 0, none⟩) N cap, .int .i64 (k : Int)] (by kernel_rfl) rfl rfl (by kernel_rfl) (by simp [go_sem]) ((walk_any _ (.slice a1 l.length c1) (.slice (some ⟨g, 0, none⟩) N cap) ⟨_, _, _, rfl⟩ ⟨_, _, _, rfl⟩ (k : Int)).mono ?_)
      rintro e w4 ⟨rfl, hw4⟩
      subst hw4
      refine ⟨_, rfl, (by exact HSH.out _ (hopsW_below _ _ _ _)), fun hHeld => ?_⟩
      simp only [Act.put, List.setIfInBounds_toArray, List.set_cons_zero, List.set_cons_succ]
      refine roundCall 4 (some 31) 113 #[.func (.func 136) #[] #[.pointer (some ⟨w2.drew.heap.size + 1 + 1, 0, none⟩), .pointer (some ⟨w2.drew.heap.size, 0, none⟩), .pointer (some ⟨w2.drew.heap.size + 1, 0, none⟩)]] (by kernel_rfl) rfl rfl (by kernel_rfl) (by simp [go_sem]) ((CW.out _ rfl).mono ?_)
      rintro e w5 ⟨v5, rfl, ho5, hb5⟩
      refine ⟨_, rfl, (by exact HSH.out _ hb5), fun hHeld => ?_⟩
      simp only [Act.put, List.setIfInBounds_toArray, List.set_cons_zero, List.set_cons_succ]
      refine roundRead 9 (some 8) (v5) rfl rfl (by kernel_rfl) (by kernel_rfl) (by kernel_rfl) (by kernel_rfl) (fun _ _ _ h => h) (by kernel_rfl) (by assumption) ?_ ?_
      · intro w hSw
        (try dsimp only at hSw)
        go_simp
      simp only [Act.put, List.setIfInBounds_toArray, List.set_cons_zero, List.set_cons_succ]
      refine roundRead 10 (some 9) (.int .i64 f) rfl rfl (by kernel_rfl) (by kernel_rfl) (by kernel_rfl) (by kernel_rfl) (fun _ _ _ h => h) (by kernel_rfl) (by assumption) ?_ ?_
      · intro w hSw
        (try dsimp only at hSw)
        go_simp
      simp only [Act.put, List.setIfInBounds_toArray, List.set_cons_zero, List.set_cons_succ]
      refine roundValue 11 (some 10) (.bool true) w5 (by kernel_rfl) rfl rfl (.inl (by kernel_rfl)) (by kernel_rfl) (by go_simp) ?_
      simp only [Act.put, List.setIfInBounds_toArray, List.set_cons_zero, List.set_cons_succ]
      refine wpAnyR.done (by kernel_rfl) ?_ _
      have HF : Hid (Own w5 W.heap.size v5 ((k : Int) :: r) ∧ Since W.heap.size W w5) := ⟨ho5.mono HS2.out.drew.2, HS2.out.drew.step hb5⟩
      obtain ⟨a5, c5, rfl⟩ := ho5.shape
      clear ho5 hb5 hHeld CW HSH
      go_wp2
      refine bodyPost_ret (results_tmp3 rfl _ _ _) rfl ?_
      exact ⟨.slice a5 ((k : Int) :: r).length c5, by rw [HC.out.1, HC.out.2]; rfl, by rw [HOUT.out]; exact HF.out.1, HF.out.2.1⟩

theorem own_oneW (W : World) (x : Int) : Own (W.alloc (.cells #[.int .i64 x] 3)) W.heap.size (.slice (some ⟨W.heap.size, 0, none⟩) 1 1) [x] :=
  ⟨by simp, .inr ⟨W.heap.size, 1, #[.int .i64 x], rfl, Nat.le_refl _, World.alloc_heap_new _ _, Nat.le_refl _, by decide, rfl, by simp⟩⟩
/-- On the way: it is at its end just where it has come to the end. -/
theorem way_facts {N : Nat} {l : List EdD} {b : Int} (hf : FitEd N l) (hb : 0 ≤ b ∧ b < N) (x : Int) (r : List Int) (hx : 0 ≤ x ∧ x < N) (hfar : lab (fars N l b) x < farC) (hway : IsWay l (fars N l b) (x :: r)) (ws : List Int) (hws : ws = x :: r) (k : Nat) (hk : k < ws.length) :
    (0 ≤ ws.getD k 0 ∧ ws.getD k 0 < (N : Int)) ∧ (ws.getD k 0 = b → k + 1 = ws.length) ∧ (ws.getD k 0 ≠ b → k + 1 < ws.length ∧ ∃ t, hopsD l (fars N l b) (ws.getD k 0) = ws.getD (k + 1) 0 :: t ∧ (lab (fars N l b) (ws.getD (k + 1) 0)).toNat < (lab (fars N l b) (ws.getD k 0)).toNat) := by
  have hin : 0 ≤ ws.getD k 0 ∧ ws.getD k 0 < (N : Int) := by
    rw [getD_atW ws k hk]
    exact way_fit hf r x hx.1 hx.2 hway _ (by rw [← hws]; exact List.getElem_mem hk)
  have hlow : lab (fars N l b) (ws.getD k 0) < farC := by
    rw [getD_atW ws k hk]
    have hm : ws[k] ∈ x :: r := by rw [← hws]; exact List.getElem_mem hk
    rcases List.mem_cons.1 hm with e | hm
    · rw [e]; exact hfar
    · have := way_down hf r x hway _ hm
      omega
  have hnone := hops_none hf hb _ hin.1 hin.2 hlow
  obtain ⟨s1, s2⟩ := way_step ws (by rw [hws]; exact hway) k hk
  refine ⟨hin, fun e => ?_, fun e => ?_⟩
  · refine Classical.byContradiction fun hne => ?_
    have := s1 (by omega)
    rw [hnone.2 e] at this
    cases this
  · have hk1 : k + 1 < ws.length := by
      refine Classical.byContradiction fun hne => ?_
      exact e (hnone.1 (s2 (by omega)))
    have hh := s1 hk1
    refine ⟨hk1, ?_⟩
    obtain ⟨c, hj, hc⟩ := way_hop hf hh
    have hfit := hj.fit hf
    have h0 := fars_nonneg hf hb _ hfit.2.1.1 hfit.2.1.2
    cases hd : hopsD l (fars N l b) (ws.getD k 0) with
    | nil => rw [hd] at hh; cases hh
    | cons y t =>
      rw [hd] at hh
      cases hh
      exact ⟨t, rfl, by omega⟩

set_option maxRecDepth 100000 in
set_option maxHeartbeats 4000000 in
theorem specWayTo_any (W : World) (v : Value) (n : Int) (l : List EdD) (a b : Int) (h : ReadsEd W v l) (hl : l.length ≤ 2097152) :
    Calls Try.prog 61 #[.int .i64 n, v, .int .i64 a, .int .i64 b] W (WayPost W (wayOut n l a b) (wayCost n l a b) (wayOk n l a b)) := by
  have CG : Hid (Calls Try.prog 115 #[.int .i64 n, v, .int .i64 a, .int .i64 b] W fun e W' => e = .returned (.bool (endsOk n l a b)) ∧ Below W.heap.size W W') := l9Two_any W v n l a b h hl
  have HRD : Hid (∀ w', Since W.heap.size W w' → ReadsEd w' v l) := fun w' hs => h.below hs.1
  have HS0 : Hid (Since W.heap.size W W) := Since.start W
  obtain ⟨a1, c1, rfl⟩ := h.shape
  have HN : Hid (wayOk n l a b = false → wayOk n l a b = false ∧ wayOut n l a b = [] ∧ wayCost n l a b = 0) := wayNot
  have HD : Hid (wayOk n l a b = (endsOk n l a b && decide (lab (fars n.toNat l b) a < farC)) ∧ (wayOk n l a b = true → wayCost n l a b = lab (fars n.toNat l b) a)) := ⟨rfl, fun h => by unfold wayCost; rw [if_pos h]⟩
  have HW : Hid (wayOk n l a b = true → ∃ r, wayOut n l a b = a :: r ∧ IsWay l (fars n.toNat l b) (a :: r)) := wayOut_is
  generalize wayOk n l a b = ok at *
  generalize wayOut n l a b = out at *
  generalize wayCost n l a b = cost at *
  clear h
  cases he : endsOk n l a b with
  | false =>
    have HF := HN.out (HD.out.1.trans (by rw [he]; rfl))
    rw [he] at CG
    have HF : Hid (ok = false ∧ out = [] ∧ cost = 0) := HF
    clear he HD HN HW
    go_enter Try.func61, Try.ntmps61
    go_wp2_with fail
    refine CG.out.mono ?_
    rintro e w1 ⟨rfl, hb1⟩
    have HB1 : Hid (Below W.heap.size W w1) := hb1
    clear hb1
    go_wp2
    refine bodyPost_ret (results_tmp3 rfl _ _ _) rfl ?_
    exact WayPost.zero HF.out HB1.out
  | true =>
    rw [he] at CG
    obtain ⟨hg, hA, hB⟩ := endsOk_true he
    obtain ⟨g1, g2, g3, g4⟩ := goodEd_true hg
    obtain ⟨N, rfl⟩ : ∃ N : Nat, n = (N : Int) := ⟨n.toNat, by omega⟩
    rw [show ((N : Int)).toNat = N from rfl] at HD HW
    have CH : Hid (∀ w' i, Since W.heap.size W w' → 0 ≤ i ∧ i < (N : Int) → Calls Try.prog 116 #[.int .i64 (N : Int), .slice a1 l.length c1, .int .i64 i, .int .i64 b] w' fun e w2 => ∃ v', e = .returned v' ∧ Own w2 w'.heap.size v' (hopsD l (fars N l b) i) ∧ Below w'.heap.size w' w2) := fun w' i hs hi => l9Hops_any w' _ l N i b (HRD.out w' hs) g3 g4 (by omega) g2 hi hB
    have CF : Hid (∀ w', Since W.heap.size W w' → Calls Try.prog 108 #[.int .i64 (N : Int), .slice a1 l.length c1, .int .i64 b] w' fun e w2 => ∃ v', e = .returned v' ∧ Own w2 w'.heap.size v' (fars N l b) ∧ Below w'.heap.size w' w2) := fun w' hs => l9Fars_any w' _ l N b (HRD.out w' hs) g3 (by omega) g2 hB
    have hfl : (fars N l b).length = N := fars_len
    cases hlt : decide (lab (fars N l b) a < farC) with
    | false =>
      have HF : Hid (ok = false ∧ out = [] ∧ cost = 0) := HN.out (HD.out.1.trans (by rw [he, hlt]; rfl))
      have hfa : lab (fars N l b) a = farC := by
        have := fars_far (l := l) (n := N) hB a hA.1 hA.2
        have := of_decide_eq_false hlt
        omega
      have hno : hopsD l (fars N l b) a = [] := hops_far (by omega) g3 hB a hfa
      have hne : a ≠ b := by
        rintro rfl
        rw [fars_at g3 hB] at hfa
        cases hfa
      have CA : Hid (∀ w', Since W.heap.size W w' → Calls Try.prog 116 #[.int .i64 (N : Int), .slice a1 l.length c1, .int .i64 a, .int .i64 b] w' fun e w2 => ∃ x c, e = .returned (.slice x 0 c) ∧ Below w'.heap.size w' w2) := fun w' hs => (CH.out w' a hs hA).mono fun e w2 => by
        rintro ⟨v', rfl, ho, hb⟩
        rw [hno] at ho
        obtain ⟨x, c, rfl⟩ := ho.shape
        exact ⟨x, c, rfl, hb⟩
      have t1 : (a == b) = false := by simpa using hne
      clear he HD HN HW hlt hfa hno hne hg hA hB g1 g2 g3 g4 CH CF
      go_enter Try.func61, Try.ntmps61
      go_wp2_with fail
      refine CG.out.mono ?_
      rintro e w1 ⟨rfl, hb1⟩
      have HS1 : Hid (Since W.heap.size W w1) := HS0.out.step hb1
      clear hb1
      go_wp2
      have S2 : Hid (Since W.heap.size W (w1.alloc (.cells #[.int .i64 a] 3))) := HS1.out.step ((Below.refl _ _).alloc (Nat.le_refl _) _)
      go_loopw [12] (fun t wr => t = .int .i64 a ∧ Hid (Since W.heap.size W wr)) (fun _ _ => 0)
      case atStart => exact ⟨rfl, S2.out⟩
      case round =>
        obtain ⟨rfl, HI⟩ := hrel
        go_wp2_with fail
        refine (CA.out _ HI.out).mono ?_
        rintro e wq ⟨xq, cq, rfl, hbq⟩
        have SQ : Hid (Since W.heap.size W wq) := HI.out.step hbq
        clear hbq
        go_wp2
        refine bodyPost_ret (results_tmp3 rfl _ _ _) rfl ?_
        exact WayPost.zero HF.out SQ.out.1
    | true =>
      have HOK : ok = true := HD.out.1.trans (by rw [he, hlt]; rfl)
      obtain ⟨r, hout, hway⟩ := HW.out HOK
      obtain ⟨ws, hws⟩ : ∃ ws, ws = a :: r := ⟨_, rfl⟩
      have HO : Hid (ok = true ∧ out = ws ∧ cost = lab (fars N l b) a) := ⟨HOK, by rw [hws]; exact hout, HD.out.2 HOK⟩
      have HWF : Hid (∀ k, k < ws.length → (0 ≤ ws.getD k 0 ∧ ws.getD k 0 < (N : Int)) ∧ (ws.getD k 0 = b → k + 1 = ws.length) ∧ (ws.getD k 0 ≠ b → k + 1 < ws.length ∧ ∃ t, hopsD l (fars N l b) (ws.getD k 0) = ws.getD (k + 1) 0 :: t ∧ (lab (fars N l b) (ws.getD (k + 1) 0)).toNat < (lab (fars N l b) (ws.getD k 0)).toNat)) := fun k hk => way_facts g3 hB a r hA (of_decide_eq_true hlt) hway ws hws k hk
      have HLEN : Hid (ws.length ≤ 12) := by
        have := way_len g3 r a hA.1 hA.2 hway
        show _ ≤ _
        rw [hws]
        omega
      have hw0 : 0 < ws.length ∧ ws.getD 0 0 = a ∧ ws.take 1 = [a] := by rw [hws]; exact ⟨by simp, rfl, rfl⟩
      obtain ⟨k0, rfl⟩ : ∃ k0 : Nat, a = (k0 : Int) := ⟨a.toNat, by omega⟩
      have hkN : k0 < N := by omega
      have hkN' : (k0 : Int) < (N : Int) := by omega
      clear he HD HN HW hlt hg hA hB g1 g2 g3 g4 HOK hout hway hws
      go_enter Try.func61, Try.ntmps61
      go_wp2_with fail
      refine CG.out.mono ?_
      rintro e w1 ⟨rfl, hb1⟩
      have HS1 : Hid (Since W.heap.size W w1) := HS0.out.step hb1
      clear hb1
      go_wp2
      have S2 : Hid (Since W.heap.size W (w1.alloc (.cells #[.int .i64 (k0 : Int)] 3))) := HS1.out.step ((Below.refl _ _).alloc (Nat.le_refl _) _)
      go_loopw [11, 12] (fun u t wr => ∃ k : Nat, k < ws.length ∧ t = .int .i64 (ws.getD k 0) ∧ Hid (Own wr W.heap.size u (ws.take (k + 1)) ∧ Since W.heap.size W wr)) (fun _ t _ => (lab (fars N l b) (intOf t)).toNat)
      case atStart => exact ⟨0, hw0.1, by rw [hw0.2.1], by rw [hw0.2.2]; exact (own_oneW w1 _).mono HS1.out.2, S2.out⟩
      case round =>
        obtain ⟨k, hk, rfl, HI⟩ := hrel
        clear hw0 S2 HS1
        obtain ⟨hin, heq, hne⟩ := HWF.out k hk
        obtain ⟨a2, c2, rfl⟩ := HI.out.1.shape
        have htl : (ws.take (k + 1)).length = k + 1 := by rw [List.length_take]; omega
        have HI2 : Own wr W.heap.size (.slice a2 (k + 1) c2) (ws.take (k + 1)) ∧ Since W.heap.size W wr := by
          have := HI.out
          rwa [htl] at this
        rw [htl]
        clear HI
        have hlen := HLEN.out
        by_cases hb : ws.getD k 0 = b
        · have hke := heq hb
          have HOW : Hid (Own wr W.heap.size (.slice a2 (k + 1) c2) ws ∧ Since W.heap.size W wr) := by
            have := HI2
            rwa [show ws.take (k + 1) = ws by rw [hke, List.take_length]] at this
          rw [hb]
          clear heq hne HI2 HWF hb hin
          have CF1 : Hid (Calls Try.prog 108 #[.int .i64 (N : Int), .slice a1 l.length c1, .int .i64 b] wr.drew fun e w2 => ∃ g cap, e = .returned (.slice (some ⟨g, 0, none⟩) N cap) ∧ w2.cell? ⟨g, k0, none⟩ = some (.int .i64 (lab (fars N l b) (k0 : Int))) ∧ Below wr.heap.size wr w2) := (CF.out wr.drew HOW.out.2.drew).mono fun e w2 => by
            rintro ⟨u2, rfl, ho2, hb2⟩
            rcases ho2.2 with ⟨hv, h0⟩ | ⟨g, cap, cur, rfl, -⟩
            · omega
            · refine ⟨g, cap, by rw [hfl], ?_, (Below.refl _ wr).drew.trans hb2⟩
              have h1 := own_cellG ho2 rfl k0 (by omega)
              rw [← lab_get (fars N l b) k0 (by omega)] at h1
              exact h1
          have HO1 : Hid (ok = true ∧ out = ws ∧ cost = lab (fars N l b) (k0 : Int)) := HO.out
          generalize lab (fars N l b) (k0 : Int) = f at *
          clear HO CF CH
          go_wp2
          refine (wpIn_wide (n := 9)).1 ?_
          refine region_outRound (S := (fun _ : World => True)) 10 (by kernel_rfl) ?_ (fun hHeld => ?_)
          · exact trivial
          refine roundRead 0 (some 41) (.slice a2 (k + 1) c2) rfl rfl (by kernel_rfl) (by kernel_rfl) (by kernel_rfl) (by kernel_rfl) (fun _ _ _ h => h) (by kernel_rfl) (by assumption) ?_ ?_
          · intro w hSw
            (try dsimp only at hSw)
            go_simp
          simp only [Act.put, List.setIfInBounds_toArray, List.set_cons_zero, List.set_cons_succ]
          refine roundRead 1 (some 42) (.int .i64 (N : Int)) rfl rfl (by kernel_rfl) (by kernel_rfl) (by kernel_rfl) (by kernel_rfl) (fun _ _ _ h => h) (by kernel_rfl) (by assumption) ?_ ?_
          · intro w hSw
            (try dsimp only at hSw)
            go_simp
          simp only [Act.put, List.setIfInBounds_toArray, List.set_cons_zero, List.set_cons_succ]
          refine roundRead 2 (some 43) (.slice a1 l.length c1) rfl rfl (by kernel_rfl) (by kernel_rfl) (by kernel_rfl) (by kernel_rfl) (fun _ _ _ h => h) (by kernel_rfl) (by assumption) ?_ ?_
          · intro w hSw
            (try dsimp only at hSw)
            go_simp
          simp only [Act.put, List.setIfInBounds_toArray, List.set_cons_zero, List.set_cons_succ]
          refine roundRead 3 (some 44) (.int .i64 b) rfl rfl (by kernel_rfl) (by kernel_rfl) (by kernel_rfl) (by kernel_rfl) (fun _ _ _ h => h) (by kernel_rfl) (by assumption) ?_ ?_
          · intro w hSw
            (try dsimp only at hSw)
            go_simp
          simp only [Act.put, List.setIfInBounds_toArray, List.set_cons_zero, List.set_cons_succ]
          refine roundRead 5 (some 46) (.int .i64 (k0 : Int)) rfl rfl (by kernel_rfl) (by kernel_rfl) (by kernel_rfl) (by kernel_rfl) (fun _ _ _ h => h) (by kernel_rfl) (by assumption) ?_ ?_
          · intro w hSw
            (try dsimp only at hSw)
            go_simp
          simp only [Act.put, List.setIfInBounds_toArray, List.set_cons_zero, List.set_cons_succ]
          refine roundCall 4 (some 45) 108 #[.int .i64 (N : Int), .slice a1 l.length c1, .int .i64 b] (by kernel_rfl) rfl rfl (by kernel_rfl) (by simp [go_sem]) ((CF1.out).mono ?_)
          rintro e w5 ⟨g, cap, rfl, hcell, hb5⟩
          refine ⟨_, rfl, (by trivial), fun hHeld => ?_⟩
          simp only [Act.put, List.setIfInBounds_toArray, List.set_cons_zero, List.set_cons_succ]
          refine roundRead 6 (some 47) (.pointer (some ⟨g, k0, none⟩)) rfl rfl (by kernel_rfl) (by kernel_rfl) (by kernel_rfl) (by kernel_rfl) (fun _ _ _ h => h) (by kernel_rfl) (by assumption) ?_ ?_
          · intro w hSw
            (try dsimp only at hSw)
            go_simp
          simp only [Act.put, List.setIfInBounds_toArray, List.set_cons_zero, List.set_cons_succ]
          refine roundRead 8 (some 8) (.slice a2 (k + 1) c2) rfl rfl (by kernel_rfl) (by kernel_rfl) (by kernel_rfl) (by kernel_rfl) (fun _ _ _ h => h) (by kernel_rfl) (by assumption) ?_ ?_
          · intro w hSw
            (try dsimp only at hSw)
            go_simp
          simp only [Act.put, List.setIfInBounds_toArray, List.set_cons_zero, List.set_cons_succ]
          refine roundValue 7 (some 48) (.int .i64 f) w5 (by kernel_rfl) rfl rfl (.inr fun _ => trivial) (by kernel_rfl) (by go_simp) ?_
          simp only [Act.put, List.setIfInBounds_toArray, List.set_cons_zero, List.set_cons_succ]
          refine roundValue 9 (some 9) (.int .i64 f) w5 (by kernel_rfl) rfl rfl (.inr fun _ => trivial) (by kernel_rfl) (by go_simp) ?_
          simp only [Act.put, List.setIfInBounds_toArray, List.set_cons_zero, List.set_cons_succ]
          refine roundValue 10 (some 10) (.bool true) w5 (by kernel_rfl) rfl rfl (.inr fun _ => trivial) (by kernel_rfl) (by go_simp) ?_
          simp only [Act.put, List.setIfInBounds_toArray, List.set_cons_zero, List.set_cons_succ]
          refine wpAnyR.done (by kernel_rfl) ?_ _
          have HF : Hid (Own w5 W.heap.size (.slice a2 (k + 1) c2) ws ∧ Since W.heap.size W w5) := ⟨HOW.out.1.below hb5, HOW.out.2.step hb5⟩
          clear hb5 hcell CF1 hHeld
          go_wp2
          refine bodyPost_ret (results_tmp3 rfl _ _ _) rfl ?_
          exact ⟨.slice a2 (k + 1) c2, by rw [HO1.out.1, HO1.out.2.2]; rfl, by rw [HO1.out.2.1]; exact HF.out.1, HF.out.2.1⟩
        · obtain ⟨hk1, t, hho, hdn⟩ := hne hb
          have CH1 : Hid (Calls Try.prog 116 #[.int .i64 (N : Int), .slice a1 l.length c1, .int .i64 (ws.getD k 0), .int .i64 b] wr fun e w2 => ∃ v', e = .returned v' ∧ Own w2 wr.heap.size v' (ws.getD (k + 1) 0 :: t) ∧ Below wr.heap.size wr w2) := by
            have := CH.out wr (ws.getD k 0) HI2.2 hin
            rwa [hho] at this
          have HTK : Hid (ws.take (k + 1 + 1) = ws.take (k + 1) ++ [ws.getD (k + 1) 0]) := by show _ = _; rw [List.take_succ_eq_append_getElem hk1, getD_atW ws (k + 1) hk1]
          have HDN : Hid ((lab (fars N l b) (ws.getD (k + 1) 0)).toNat < (lab (fars N l b) (ws.getD k 0)).toNat) := hdn
          clear heq hne hho hdn hin
          have HOW : Hid (Own wr W.heap.size (.slice a2 (k + 1) c2) (ws.take (k + 1)) ∧ Since W.heap.size W wr) := HI2
          obtain ⟨x, hx⟩ : ∃ x, x = ws.getD k 0 := ⟨_, rfl⟩
          obtain ⟨y, hy⟩ : ∃ y, y = ws.getD (k + 1) 0 := ⟨_, rfl⟩
          obtain ⟨zs, hzs⟩ : ∃ zs, zs = ws.take (k + 1) := ⟨_, rfl⟩
          have HY : Hid (y = ws.getD (k + 1) 0) := hy
          rw [← hx] at hb CH1 HDN ⊢
          rw [← hy] at CH1 HTK HDN
          rw [← hzs] at HTK HOW htl
          have tb : (x == b) = false := by simpa using hb
          have htn : ¬ (((t.length + 1 : Nat) : Int) = 0) := by omega
          clear hx hy hzs HI2 hb
          go_wp2_with fail
          refine CH1.out.mono ?_
          rintro e wq ⟨uq, rfl, hoq, hbq⟩
          obtain ⟨aq, cq, rfl⟩ := hoq.shape
          rcases hoq.2 with ⟨hv, h0⟩ | ⟨gq, capq, curq, hv, -⟩
          · simp at h0
          cases hv
          have hcq : wq.cell? ⟨gq, 0, none⟩ = some (.int .i64 y) := own_cellG hoq rfl 0 (by simp)
          have OQ : Hid (Own wq W.heap.size (.slice a2 (k + 1) c2) zs) := HOW.out.1.below hbq
          have SQ : Hid (Since W.heap.size W wq) := HOW.out.2.step hbq
          have hpos : 0 < (((y :: t).length : Nat) : Int) := by simp <;> omega
          have hnz : ((((y :: t).length : Nat) : Int) == 0) = false := by simp <;> omega
          have hb1 : Below wq.heap.size wq (wq.alloc (.cells #[.int .i64 y] 3)) := (Below.refl _ wq).alloc (Nat.le_refl _) _
          have HC : Hid (∀ ty, ∃ v' w', (Builtin.append_ #[35, 35] ty #[.slice a2 (k + 1) c2, .slice (some ⟨wq.heap.size, 0, none⟩) 1 1]).run Try.prog (wq.alloc (.cells #[.int .i64 y] 3)) = .ok v' w' ∧ Grown (wq.alloc (.cells #[.int .i64 y] 3)) W.heap.size 3 1 (.slice a2 (k + 1) c2) (zs ++ [y]).length ((zs ++ [y]).map (Value.int .i64)) v' w') := fun ty =>
            run_app1 _ _ _ zs (OQ.out.below hb1) wq.heap.size 1 y (new_cell _ _ _) (by omega) (by have := SQ.out.2; simp; omega) ty
          have SQ1 : Hid (Since W.heap.size W (wq.alloc (.cells #[.int .i64 y] 3))) := SQ.out.step hb1
          clear hb1 hoq hbq OQ SQ CH1 HOW
          generalize (y :: t).length = nq at *
          go_wp2_with (at_builtin; refine list_app (by rfl) (.tmp 37) (.tmp 39) 35 (by rfl) (.slice a2 (k + 1) c2) (.slice (some ⟨wq.heap.size, 0, none⟩) 1 1) (by rfl) (by rfl) _ HC.out ?_; intro v5 w5 hg5; have HF : Hid (Own w5 W.heap.size v5 (ws.take (k + 1 + 1)) ∧ Since W.heap.size W w5) := ⟨by rw [HTK.out]; exact hg5.own, ⟨SQ1.out.1.trans hg5.below, Nat.le_trans SQ1.out.2 hg5.size⟩⟩; clear hg5)
          go_roundw
          case rel => exact ⟨k + 1, hk1, by rw [HY.out], HF.out⟩
          case measure => exact HDN.out
end Go.Proofs.Ythlbmkefjjckaac
