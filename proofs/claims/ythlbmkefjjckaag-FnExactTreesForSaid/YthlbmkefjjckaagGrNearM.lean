/-
  Neighbours as data: by asking each spot, by putting each edge's other end to its place.
-/
import Derived.Test.YthlbmkefjjckaagGrGoodS
import Derived.Test.YthlbmkefjjckaagPut2
namespace Go.Proofs.Ythlbmkefjjckaag
set_option linter.unusedVariables false

theorem lastEd_pos {n : Int} : ∀ (l : List EdD), FitEd n l → ∀ a b : Int, 0 < lastEd l a b ↔ ∃ e ∈ l, e.A = a ∧ e.B = b := by
  have key : ∀ (l : List EdD), FitEd n l → ∀ (a b c : Int), 0 ≤ c → (0 < l.foldl (fun c x => if x.A = a ∧ x.B = b then x.Cost else c) c ↔ 0 < c ∨ ∃ e ∈ l, e.A = a ∧ e.B = b) := by
    intro l
    induction l with
    | nil => intro _ a b c hc; simp
    | cons x r ih =>
      intro hf a b c hc
      have hx := hf x (List.mem_cons_self ..)
      have hr : FitEd n r := fun y hy => hf y (List.mem_cons_of_mem _ hy)
      rw [List.foldl_cons]
      by_cases h : x.A = a ∧ x.B = b
      · rw [if_pos h, ih hr a b x.Cost (by omega)]
        exact ⟨fun _ => .inr ⟨x, List.mem_cons_self .., h⟩, fun _ => .inl (by omega)⟩
      · rw [if_neg h, ih hr a b c hc]
        refine or_congr Iff.rfl ⟨fun ⟨e, he, hh⟩ => ⟨e, List.mem_cons_of_mem _ he, hh⟩, fun ⟨e, he, hh⟩ => ?_⟩
        rcases List.mem_cons.1 he with rfl | he
        · exact absurd hh h
        · exact ⟨e, he, hh⟩
  intro l hf a b
  have := key l hf a b 0 (Int.le_refl _)
  simpa [lastEd] using this

/-- The Cost of the edge that joins the two. -/
def costB (l : List EdD) (a b : Int) : Int := lastEd l (min a b) (max a b)
/-- Whether an edge joins the two. -/
def isBetw (l : List EdD) (a b : Int) : Bool := decide (0 < lastEd l (min a b) (max a b))
theorem isBetw_iff {n : Int} {l : List EdD} (hf : FitEd n l) (a b : Int) : isBetw l a b = true ↔ ∃ e ∈ l, e.A = a ∧ e.B = b ∨ e.B = a ∧ e.A = b := by
  unfold isBetw
  rw [decide_eq_true_iff, lastEd_pos l hf]
  refine exists_congr fun e => and_congr_right fun he => ?_
  have := hf e he
  omega
def nearTo (l : List EdD) (a : Int) (k : Nat) : List Int := (iota k).filter (isBetw l a)
theorem nearTo_succ (l : List EdD) (a : Int) (k : Nat) : nearTo l a (k + 1) = nearTo l a k ++ if isBetw l a (k : Int) then [(k : Int)] else [] := by
  unfold nearTo
  rw [iota_succ, List.filter_append]
  congr 1
  cases h : isBetw l a (k : Int) <;> simp [h]
theorem nearTo_len (l : List EdD) (a : Int) (k : Nat) : (nearTo l a k).length ≤ k := by
  have := List.length_filter_le (isBetw l a) (iota k)
  rw [iota_len] at this
  exact this
theorem iota_rise (k : Nat) : (iota k).Pairwise fun x y => x < y := by
  unfold iota
  rw [List.pairwise_map]
  exact List.Pairwise.imp (fun h => by omega) List.pairwise_lt_range
theorem nearTo_rise (l : List EdD) (a : Int) (k : Nat) : (nearTo l a k).Pairwise fun x y => x < y := (iota_rise k).filter _
theorem mem_iota (k : Nat) (s : Int) : s ∈ iota k ↔ 0 ≤ s ∧ s < k := by
  unfold iota
  rw [List.mem_map]
  constructor
  · rintro ⟨j, hj, rfl⟩
    have := List.mem_range.1 hj
    omega
  · rintro ⟨h0, h1⟩
    exact ⟨s.toNat, List.mem_range.2 (by omega), by omega⟩
theorem mem_nearTo {n : Int} {l : List EdD} (hf : FitEd n l) (a s : Int) : s ∈ nearTo l a n.toNat ↔ ∃ e ∈ l, e.A = a ∧ e.B = s ∨ e.B = a ∧ e.A = s := by
  unfold nearTo
  rw [List.mem_filter, mem_iota, isBetw_iff hf]
  refine ⟨fun h => h.2, fun h => ⟨?_, h⟩⟩
  obtain ⟨e, he, hh⟩ := h
  have := hf e he
  omega

/-- One edge's other end put to its place. -/
def nearAdd (a : Int) (out : List Int) (e : EdD) : List Int :=
  let o1 := if e.A = a then insL e.B out else out
  if e.B = a then insL e.A o1 else o1
def nearS (l : List EdD) (a : Int) : List Int := l.foldl (nearAdd a) []
theorem insL_rise (n : Int) : ∀ zs : List Int, (zs.Pairwise fun x y => x < y) → (insL n zs).Pairwise fun x y => x < y
  | [], _ => by simp [insL]
  | z :: r, h => by
    have hp := List.pairwise_cons.1 h
    unfold insL
    split
    · next h1 =>
      refine List.pairwise_cons.2 ⟨fun y hy => ?_, insL_rise n r hp.2⟩
      rcases (insL_mem n y r).1 hy with rfl | hy
      · exact h1
      · exact hp.1 y hy
    · split
      · exact h
      · refine List.pairwise_cons.2 ⟨fun y hy => ?_, h⟩
        rcases List.mem_cons.1 hy with rfl | hy
        · omega
        · have := hp.1 y hy; omega
theorem nearAdd_rise (a : Int) (out : List Int) (e : EdD) (h : out.Pairwise fun x y => x < y) : (nearAdd a out e).Pairwise fun x y => x < y := by
  unfold nearAdd
  dsimp only
  split <;> split <;> first | exact insL_rise _ _ (insL_rise _ _ h) | exact insL_rise _ _ h | exact h
theorem nearAdd_mem (a : Int) (out : List Int) (e : EdD) (s : Int) : s ∈ nearAdd a out e ↔ s ∈ out ∨ (e.A = a ∧ e.B = s ∨ e.B = a ∧ e.A = s) := by
  unfold nearAdd
  dsimp only
  by_cases h1 : e.A = a
  · by_cases h2 : e.B = a
    · rw [if_pos h2, if_pos h1, insL_mem, insL_mem]
      exact ⟨fun h => h.elim (fun h => .inr (.inr ⟨h2, h.symm⟩)) fun h => h.elim (fun h => .inr (.inl ⟨h1, h.symm⟩)) .inl, fun h => h.elim (fun h => .inr (.inr h)) fun h => h.elim (fun h => .inr (.inl h.2.symm)) fun h => .inl h.2.symm⟩
    · rw [if_neg h2, if_pos h1, insL_mem]
      exact ⟨fun h => h.elim (fun h => .inr (.inl ⟨h1, h.symm⟩)) .inl, fun h => h.elim .inr fun h => h.elim (fun h => .inl h.2.symm) fun h => absurd h.1 h2⟩
  · by_cases h2 : e.B = a
    · rw [if_pos h2, if_neg h1, insL_mem]
      exact ⟨fun h => h.elim (fun h => .inr (.inr ⟨h2, h.symm⟩)) .inl, fun h => h.elim .inr fun h => h.elim (fun h => absurd h.1 h1) fun h => .inl h.2.symm⟩
    · rw [if_neg h2, if_neg h1]
      exact ⟨.inl, fun h => h.elim id fun h => h.elim (fun h => absurd h.1 h1) fun h => absurd h.1 h2⟩
theorem nearAdd_len (a : Int) (out : List Int) (e : EdD) : (nearAdd a out e).length ≤ out.length + 2 := by
  unfold nearAdd
  dsimp only
  have h1 := insL_len e.B out
  have h2 := insL_len e.A out
  have h3 := insL_len e.A (insL e.B out)
  split <;> split <;> omega
theorem nearS_take (l : List EdD) (a : Int) (k : Nat) (h : k < l.length) : nearS (l.take (k + 1)) a = nearAdd a (nearS (l.take k) a) l[k] := by
  unfold nearS
  rw [List.take_succ_eq_append_getElem h, List.foldl_append]
  rfl
theorem nearS_len (a : Int) : ∀ (l : List EdD) (out : List Int), (l.foldl (nearAdd a) out).length ≤ out.length + 2 * l.length
  | [], out => by simp
  | e :: r, out => by
    have h1 := nearS_len a r (nearAdd a out e)
    have h2 := nearAdd_len a out e
    simp only [List.foldl_cons, List.length_cons]
    omega
theorem nearS_rise (a : Int) : ∀ (l : List EdD) (out : List Int), (out.Pairwise fun x y => x < y) → (l.foldl (nearAdd a) out).Pairwise fun x y => x < y
  | [], out, h => h
  | e :: r, out, h => nearS_rise a r _ (nearAdd_rise a out e h)
theorem nearS_mem (a s : Int) : ∀ (l : List EdD) (out : List Int), s ∈ l.foldl (nearAdd a) out ↔ s ∈ out ∨ ∃ e ∈ l, e.A = a ∧ e.B = s ∨ e.B = a ∧ e.A = s
  | [], out => by simp
  | e :: r, out => by
    rw [List.foldl_cons, nearS_mem a s r, nearAdd_mem, or_assoc]
    refine or_congr Iff.rfl ?_
    simp only [List.mem_cons, exists_eq_or_imp]
theorem rise_int_ext : ∀ {a b : List Int}, (a.Pairwise fun x y => x < y) → (b.Pairwise fun x y => x < y) → (∀ x, x ∈ a ↔ x ∈ b) → a = b
  | [], [], _, _, _ => rfl
  | [], y :: s, _, _, h => absurd ((h y).2 (List.mem_cons_self ..)) (by simp)
  | x :: r, [], _, _, h => absurd ((h x).1 (List.mem_cons_self ..)) (by simp)
  | x :: r, y :: s, ha, hb, h => by
    have pa := List.pairwise_cons.1 ha
    have pb := List.pairwise_cons.1 hb
    have e : x = y := by
      rcases List.mem_cons.1 ((h x).1 (List.mem_cons_self ..)) with e | h1
      · exact e
      · rcases List.mem_cons.1 ((h y).2 (List.mem_cons_self ..)) with e | h2
        · exact e.symm
        · have := pb.1 x h1
          have := pa.1 y h2
          omega
    subst e
    refine congrArg _ (rise_int_ext pa.2 pb.2 fun z => ⟨fun hz => ?_, fun hz => ?_⟩)
    · rcases List.mem_cons.1 ((h z).1 (List.mem_cons_of_mem _ hz)) with rfl | h1
      · have := pa.1 z hz; omega
      · exact h1
    · rcases List.mem_cons.1 ((h z).2 (List.mem_cons_of_mem _ hz)) with rfl | h1
      · have := pb.1 z hz; omega
      · exact h1
theorem nearS_eq {n : Int} {l : List EdD} (hf : FitEd n l) (a : Int) : nearS l a = nearTo l a n.toNat :=
  rise_int_ext (nearS_rise a l [] List.Pairwise.nil) (nearTo_rise l a _) fun s => by
    unfold nearS
    rw [nearS_mem, mem_nearTo hf]
    simp
end Go.Proofs.Ythlbmkefjjckaag
