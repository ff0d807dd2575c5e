import Derived.Test.YthlbmkefjjckaadGrGoodS
import Derived.Test.YthlbmkefjjckaadPut2
import Derived.Test.YthlbmkefjjckaadRound
import Derived.Test.YthlbmkefjjckaadBunA
/-
  Neighbours as data: by asking each spot, by putting each edge's other end to its place.
-/
namespace Go.Proofs.Ythlbmkefjjckaad
set_option linter.unusedVariables false

theorem lastEd_pos {n : Int} : ∀ (l : List EdD), FitEd n l → ∀ a b : Int, 0 < lastEd l a b ↔ ∃ e ∈ l, e.A = a ∧ e.B = b := by
  have key : ∀ (l : List EdD), FitEd n l → ∀ (a b c : Int), 0 ≤ c → (0 < l.foldl (fun c x => if x.A = a ∧ x.B = b then x.Cost else c) c ↔ 0 < c ∨ ∃ e ∈ l, e.A = a ∧ e.B = b) := by
    intro l
    induction l with
    | nil => intro _ a b c hc; simp
    | cons x r ih =>
      intro hf a b c hc
      have hx := hf x (List.mem_cons_self ..)
      have hr : FitEd n r := fun y hy => hf y (List.mem_cons_of_mem _ hy)
      rw [List.foldl_cons]
      by_cases h : x.A = a ∧ x.B = b
      · rw [if_pos h, ih hr a b x.Cost (by omega)]
        exact ⟨fun _ => .inr ⟨x, List.mem_cons_self .., h⟩, fun _ => .inl (by omega)⟩
      · rw [if_neg h, ih hr a b c hc]
        refine or_congr Iff.rfl ⟨fun ⟨e, he, hh⟩ => ⟨e, List.mem_cons_of_mem _ he, hh⟩, fun ⟨e, he, hh⟩ => ?_⟩
        rcases List.mem_cons.1 he with rfl | he
        · exact absurd hh h
        · exact ⟨e, he, hh⟩
  intro l hf a b
  have := key l hf a b 0 (Int.le_refl _)
  simpa [lastEd] using this

/-- The Cost of the edge that joins the two. -/
def costB (l : List EdD) (a b : Int) : Int := lastEd l (min a b) (max a b)
/-- Whether an edge joins the two. -/
def isBetw (l : List EdD) (a b : Int) : Bool := decide (0 < lastEd l (min a b) (max a b))
theorem isBetw_iff {n : Int} {l : List EdD} (hf : FitEd n l) (a b : Int) : isBetw l a b = true ↔ ∃ e ∈ l, e.A = a ∧ e.B = b ∨ e.B = a ∧ e.A = b := by
  unfold isBetw
  rw [decide_eq_true_iff, lastEd_pos l hf]
  refine exists_congr fun e => and_congr_right fun he => ?_
  have := hf e he
  omega
def nearTo (l : List EdD) (a : Int) (k : Nat) : List Int := (iota k).filter (isBetw l a)
theorem nearTo_succ (l : List EdD) (a : Int) (k : Nat) : nearTo l a (k + 1) = nearTo l a k ++ if isBetw l a (k : Int) then [(k : Int)] else [] := by
  unfold nearTo
  rw [iota_succ, List.filter_append]
  congr 1
  cases h : isBetw l a (k : Int) <;> simp [h]
theorem nearTo_len (l : List EdD) (a : Int) (k : Nat) : (nearTo l a k).length ≤ k := by
  have := List.length_filter_le (isBetw l a) (iota k)
  rw [iota_len] at this
  exact this
theorem iota_rise (k : Nat) : (iota k).Pairwise fun x y => x < y := by
  unfold iota
  rw [List.pairwise_map]
  exact List.Pairwise.imp (fun h => by omega) List.pairwise_lt_range
theorem nearTo_rise (l : List EdD) (a : Int) (k : Nat) : (nearTo l a k).Pairwise fun x y => x < y := (iota_rise k).filter _
theorem mem_iota (k : Nat) (s : Int) : s ∈ iota k ↔ 0 ≤ s ∧ s < k := by
  unfold iota
  rw [List.mem_map]
  constructor
  · rintro ⟨j, hj, rfl⟩
    have := List.mem_range.1 hj
    omega
  · rintro ⟨h0, h1⟩
    exact ⟨s.toNat, List.mem_range.2 (by omega), by omega⟩
theorem mem_nearTo {n : Int} {l : List EdD} (hf : FitEd n l) (a s : Int) : s ∈ nearTo l a n.toNat ↔ ∃ e ∈ l, e.A = a ∧ e.B = s ∨ e.B = a ∧ e.A = s := by
  unfold nearTo
  rw [List.mem_filter, mem_iota, isBetw_iff hf]
  refine ⟨fun h => h.2, fun h => ⟨?_, h⟩⟩
  obtain ⟨e, he, hh⟩ := h
  have := hf e he
  omega

/-- One edge's other end put to its place. -/
def nearAdd (a : Int) (out : List Int) (e : EdD) : List Int :=
  let o1 := if e.A = a then insL e.B out else out
  if e.B = a then insL e.A o1 else o1
def nearS (l : List EdD) (a : Int) : List Int := l.foldl (nearAdd a) []
theorem insL_rise (n : Int) : ∀ zs : List Int, (zs.Pairwise fun x y => x < y) → (insL n zs).Pairwise fun x y => x < y
  | [], _ => by simp [insL]
  | z :: r, h => by
    have hp := List.pairwise_cons.1 h
    unfold insL
    split
    · next h1 =>
      refine List.pairwise_cons.2 ⟨fun y hy => ?_, insL_rise n r hp.2⟩
      rcases (insL_mem n y r).1 hy with rfl | hy
      · exact h1
      · exact hp.1 y hy
    · split
      · exact h
      · refine List.pairwise_cons.2 ⟨fun y hy => ?_, h⟩
        rcases List.mem_cons.1 hy with rfl | hy
        · omega
        · have := hp.1 y hy; omega
theorem nearAdd_rise (a : Int) (out : List Int) (e : EdD) (h : out.Pairwise fun x y => x < y) : (nearAdd a out e).Pairwise fun x y => x < y := by
  unfold nearAdd
  dsimp only
  split <;> split <;> first | exact insL_rise _ _ (insL_rise _ _ h) | exact insL_rise _ _ h | exact h
theorem nearAdd_mem (a : Int) (out : List Int) (e : EdD) (s : Int) : s ∈ nearAdd a out e ↔ s ∈ out ∨ (e.A = a ∧ e.B = s ∨ e.B = a ∧ e.A = s) := by
  unfold nearAdd
  dsimp only
  by_cases h1 : e.A = a
  · by_cases h2 : e.B = a
    · rw [if_pos h2, if_pos h1, insL_mem, insL_mem]
      exact ⟨fun h => h.elim (fun h => .inr (.inr ⟨h2, h.symm⟩)) fun h => h.elim (fun h => .inr (.inl ⟨h1, h.symm⟩)) .inl, fun h => h.elim (fun h => .inr (.inr h)) fun h => h.elim (fun h => .inr (.inl h.2.symm)) fun h => .inl h.2.symm⟩
    · rw [if_neg h2, if_pos h1, insL_mem]
      exact ⟨fun h => h.elim (fun h => .inr (.inl ⟨h1, h.symm⟩)) .inl, fun h => h.elim .inr fun h => h.elim (fun h => .inl h.2.symm) fun h => absurd h.1 h2⟩
  · by_cases h2 : e.B = a
    · rw [if_pos h2, if_neg h1, insL_mem]
      exact ⟨fun h => h.elim (fun h => .inr (.inr ⟨h2, h.symm⟩)) .inl, fun h => h.elim .inr fun h => h.elim (fun h => absurd h.1 h1) fun h => .inl h.2.symm⟩
    · rw [if_neg h2, if_neg h1]
      exact ⟨.inl, fun h => h.elim id fun h => h.elim (fun h => absurd h.1 h1) fun h => absurd h.1 h2⟩
theorem nearAdd_len (a : Int) (out : List Int) (e : EdD) : (nearAdd a out e).length ≤ out.length + 2 := by
  unfold nearAdd
  dsimp only
  have h1 := insL_len e.B out
  have h2 := insL_len e.A out
  have h3 := insL_len e.A (insL e.B out)
  split <;> split <;> omega
theorem nearS_take (l : List EdD) (a : Int) (k : Nat) (h : k < l.length) : nearS (l.take (k + 1)) a = nearAdd a (nearS (l.take k) a) l[k] := by
  unfold nearS
  rw [List.take_succ_eq_append_getElem h, List.foldl_append]
  rfl
theorem nearS_len (a : Int) : ∀ (l : List EdD) (out : List Int), (l.foldl (nearAdd a) out).length ≤ out.length + 2 * l.length
  | [], out => by simp
  | e :: r, out => by
    have h1 := nearS_len a r (nearAdd a out e)
    have h2 := nearAdd_len a out e
    simp only [List.foldl_cons, List.length_cons]
    omega
theorem nearS_rise (a : Int) : ∀ (l : List EdD) (out : List Int), (out.Pairwise fun x y => x < y) → (l.foldl (nearAdd a) out).Pairwise fun x y => x < y
  | [], out, h => h
  | e :: r, out, h => nearS_rise a r _ (nearAdd_rise a out e h)
theorem nearS_mem (a s : Int) : ∀ (l : List EdD) (out : List Int), s ∈ l.foldl (nearAdd a) out ↔ s ∈ out ∨ ∃ e ∈ l, e.A = a ∧ e.B = s ∨ e.B = a ∧ e.A = s
  | [], out => by simp
  | e :: r, out => by
    rw [List.foldl_cons, nearS_mem a s r, nearAdd_mem, or_assoc]
    refine or_congr Iff.rfl ?_
    simp only [List.mem_cons, exists_eq_or_imp]
theorem rise_int_ext : ∀ {a b : List Int}, (a.Pairwise fun x y => x < y) → (b.Pairwise fun x y => x < y) → (∀ x, x ∈ a ↔ x ∈ b) → a = b
  | [], [], _, _, _ => rfl
  | [], y :: s, _, _, h => absurd ((h y).2 (List.mem_cons_self ..)) (by simp)
  | x :: r, [], _, _, h => absurd ((h x).1 (List.mem_cons_self ..)) (by simp)
  | x :: r, y :: s, ha, hb, h => by
    have pa := List.pairwise_cons.1 ha
    have pb := List.pairwise_cons.1 hb
    have e : x = y := by
      rcases List.mem_cons.1 ((h x).1 (List.mem_cons_self ..)) with e | h1
      · exact e
      · rcases List.mem_cons.1 ((h y).2 (List.mem_cons_self ..)) with e | h2
        · exact e.symm
        · have := pb.1 x h1
          have := pa.1 y h2
          omega
    subst e
    refine congrArg _ (rise_int_ext pa.2 pb.2 fun z => ⟨fun hz => ?_, fun hz => ?_⟩)
    · rcases List.mem_cons.1 ((h z).1 (List.mem_cons_of_mem _ hz)) with rfl | h1
      · have := pa.1 z hz; omega
      · exact h1
    · rcases List.mem_cons.1 ((h z).2 (List.mem_cons_of_mem _ hz)) with rfl | h1
      · have := pb.1 z hz; omega
      · exact h1
theorem nearS_eq {n : Int} {l : List EdD} (hf : FitEd n l) (a : Int) : nearS l a = nearTo l a n.toNat :=
  rise_int_ext (nearS_rise a l [] List.Pairwise.nil) (nearTo_rise l a _) fun s => by
    unfold nearS
    rw [nearS_mem, mem_nearTo hf]
    simp
end Go.Proofs.Ythlbmkefjjckaad

/-
  'NearOf' of the program and of the model.
-/
namespace Go.Proofs.Ythlbmkefjjckaad
open Go.RowKit
set_option linter.unusedVariables false

set_option maxHeartbeats 1000000 in
theorem costB_any (W : World) (v : Value) (l : List EdD) (a b : Int) (h : ReadsEd W v l) (hl : l.length ≤ 2097152) :
    Calls Try.prog 82 #[v, .int .i64 a, .int .i64 b] W fun e W' => e = .returned (.int .i64 (costB l a b)) ∧ Below W.heap.size W W' := by
  obtain ⟨z, hz⟩ : ∃ z, z = lastEd l (min a b) (max a b) := ⟨_, rfl⟩
  have CL : Hid (∀ x y, x = min a b → y = max a b → Calls Try.prog 103 #[v, .int .i64 x, .int .i64 y] W fun e W' => e = .returned (.int .i64 z) ∧ Below W.heap.size W W') := fun x y hx hy => by
    rw [hz, hx, hy]
    exact lastCostEd_any W v l _ _ h hl
  unfold costB
  rw [← hz]
  obtain ⟨a1, cap1, rfl⟩ := h.shape
  clear hz h
  rcases Int.lt_trichotomy a b with hlt | hlt | hlt
  · have h1 : a ≤ b := by omega
    have h2 : ¬ b ≤ a := by omega
    have hm : Hid (a = min a b) := by show _ = _; omega
    have hM : Hid (b = max a b) := by show _ = _; omega
    clear hlt
    go_enter Try.func82, Try.ntmps82
    go_wp2_with fail
    refine (CL.out a b hm.out hM.out).mono ?_
    rintro e w1 ⟨rfl, hb1⟩
    have HB : Hid (Below W.heap.size W w1) := hb1
    clear hb1
    go_wp2
    go_ret
    exact ⟨rfl, HB.out⟩
  · subst hlt
    have hlt : a = a := rfl
    have h1 : a ≤ a := Int.le_refl _
    have hm : Hid (a = min a a) := by show _ = _; omega
    have hM : Hid (a = max a a) := by show _ = _; omega
    clear hlt
    go_enter Try.func82, Try.ntmps82
    go_wp2_with fail
    refine (CL.out a a hm.out hM.out).mono ?_
    rintro e w1 ⟨rfl, hb1⟩
    have HB : Hid (Below W.heap.size W w1) := hb1
    clear hb1
    go_wp2
    go_ret
    exact ⟨rfl, HB.out⟩
  · have h1 : b ≤ a := by omega
    have h2 : ¬ a ≤ b := by omega
    have hm : Hid (b = min a b) := by show _ = _; omega
    have hM : Hid (a = max a b) := by show _ = _; omega
    clear hlt
    go_enter Try.func82, Try.ntmps82
    go_wp2_with fail
    refine (CL.out b a hm.out hM.out).mono ?_
    rintro e w1 ⟨rfl, hb1⟩
    have HB : Hid (Below W.heap.size W w1) := hb1
    clear hb1
    go_wp2
    go_ret
    exact ⟨rfl, HB.out⟩

end Go.Proofs.Ythlbmkefjjckaad

/-
  How far spots are, as data: relaxing again and again comes to rest, at what is the same there and back.
-/
namespace Go.Proofs.Ythlbmkefjjckaad
set_option linter.unusedVariables false

/- How far: what lies at an edge's other end, relaxing once, again and again. -/
def farC : Int := 100000
def linksD (l : List EdD) (a : Int) : List (Int × Int) := (l.filter fun e => decide (e.A = a ∨ e.B = a)).map fun e => (e.A + e.B - a, e.Cost)
theorem linksD_take (l : List EdD) (a : Int) (k : Nat) (h : k < l.length) : linksD (l.take (k + 1)) a = linksD (l.take k) a ++ if l[k].A = a ∨ l[k].B = a then [(l[k].A + l[k].B - a, l[k].Cost)] else [] := by
  unfold linksD
  rw [List.take_succ_eq_append_getElem h, List.filter_append, List.map_append]
  congr 1
  by_cases e : l[k].A = a ∨ l[k].B = a
  · rw [if_pos e]; simp [e]
  · rw [if_neg e]; simp [e]
theorem linksD_pre (l : List EdD) (a : Int) (k : Nat) : linksD (l.take k) a <+: linksD l a := by
  refine ⟨linksD (l.drop k) a, ?_⟩
  unfold linksD
  rw [← List.map_append, ← List.filter_append, List.take_append_drop]
theorem mem_linksD (l : List EdD) (a : Int) (p : Int × Int) : p ∈ linksD l a ↔ ∃ e ∈ l, (e.A = a ∨ e.B = a) ∧ p = (e.A + e.B - a, e.Cost) := by
  unfold linksD
  rw [List.mem_map]
  constructor
  · rintro ⟨e, he, rfl⟩
    rw [List.mem_filter] at he
    exact ⟨e, he.1, of_decide_eq_true he.2, rfl⟩
  · rintro ⟨e, he, h, rfl⟩
    exact ⟨e, List.mem_filter.2 ⟨he, decide_eq_true h⟩, rfl⟩
theorem linksD_len (l : List EdD) (a : Int) : (linksD l a).length ≤ l.length := by
  unfold linksD
  rw [List.length_map]
  exact List.length_filter_le ..

/-- Whether k is joined with i at Cost c. -/
def Joined (l : List EdD) (i k c : Int) : Prop := ∃ e ∈ l, (e.A = i ∧ e.B = k ∨ e.B = i ∧ e.A = k) ∧ e.Cost = c
theorem Joined.symm {l : List EdD} {i k c : Int} (h : Joined l i k c) : Joined l k i c := by
  obtain ⟨e, he, h, hc⟩ := h
  exact ⟨e, he, h.elim (fun h => .inr ⟨h.2, h.1⟩) (fun h => .inl ⟨h.2, h.1⟩), hc⟩
theorem Joined.fit {n : Int} {l : List EdD} (hf : FitEd n l) {i k c : Int} (h : Joined l i k c) : (0 ≤ i ∧ i < n) ∧ (0 ≤ k ∧ k < n) ∧ 1 ≤ c ∧ c ≤ 100 := by
  obtain ⟨e, he, h, hc⟩ := h
  have := hf e he
  omega
theorem linksD_joined (l : List EdD) (i k c : Int) : (k, c) ∈ linksD l i ↔ Joined l i k c := by
  rw [mem_linksD]
  refine exists_congr fun e => and_congr_right fun _ => ?_
  rw [Prod.mk.injEq]
  constructor
  · rintro ⟨h, h1, h2⟩
    exact ⟨by omega, by omega⟩
  · rintro ⟨h, h1⟩
    exact ⟨by omega, by omega, by omega⟩

theorem foldMin_le (f : Int × Int → Int) : ∀ (ps : List (Int × Int)) (z y : Int), y ≤ ps.foldl (fun m p => min m (f p)) z ↔ y ≤ z ∧ ∀ p ∈ ps, y ≤ f p
  | [], z, y => by simp
  | p :: r, z, y => by
    rw [List.foldl_cons, foldMin_le f r, List.forall_mem_cons]
    constructor
    · rintro ⟨h1, h2⟩
      exact ⟨by omega, by omega, h2⟩
    · rintro ⟨h1, h2, h3⟩
      exact ⟨by omega, h3⟩
theorem foldMin_is (f : Int × Int → Int) : ∀ (ps : List (Int × Int)) (z : Int), ps.foldl (fun m p => min m (f p)) z = z ∨ ∃ p ∈ ps, ps.foldl (fun m p => min m (f p)) z = f p
  | [], z => .inl rfl
  | p :: r, z => by
    rw [List.foldl_cons]
    rcases foldMin_is f r (min z (f p)) with h | ⟨q, hq, h⟩
    · rw [h]
      by_cases e : z ≤ f p
      · exact .inl (by omega)
      · exact .inr ⟨p, List.mem_cons_self .., by omega⟩
    · exact .inr ⟨q, List.mem_cons_of_mem _ hq, h⟩
def relAt (l : List EdD) (far : List Int) (i : Int) : Int := (linksD l i).foldl (fun m p => min m (lab far p.1 + p.2)) (lab far i)
theorem le_relAt (l : List EdD) (far : List Int) (i y : Int) : y ≤ relAt l far i ↔ y ≤ lab far i ∧ ∀ k c, Joined l i k c → y ≤ lab far k + c := by
  unfold relAt
  rw [foldMin_le (fun p => lab far p.1 + p.2)]
  refine and_congr_right fun _ => ⟨fun h k c hj => h (k, c) ((linksD_joined ..).2 hj), fun h p hp => h p.1 p.2 ((linksD_joined ..).1 hp)⟩
theorem relAt_is (l : List EdD) (far : List Int) (i : Int) : relAt l far i = lab far i ∨ ∃ k c, Joined l i k c ∧ relAt l far i = lab far k + c := by
  unfold relAt
  rcases foldMin_is (fun p => lab far p.1 + p.2) (linksD l i) (lab far i) with h | ⟨p, hp, h⟩
  · exact .inl h
  · exact .inr ⟨p.1, p.2, (linksD_joined ..).1 hp, h⟩
def relD (l : List EdD) (far : List Int) : List Int := (iota far.length).map (relAt l far)
theorem relD_len (l : List EdD) (far : List Int) : (relD l far).length = far.length := by simp [relD, iota_len]
theorem lab_relD (l : List EdD) (far : List Int) (i : Int) (h0 : 0 ≤ i) (h : i < far.length) : lab (relD l far) i = relAt l far i := by
  unfold relD
  rw [lab_map _ _ _ h0 (by rw [iota_len]; exact h), lab_iota _ _ h0 h]
theorem lab_ext {f g : List Int} (h : f.length = g.length) (he : ∀ i : Int, 0 ≤ i → i < f.length → lab f i = lab g i) : f = g := by
  refine List.ext_getElem h fun k h1 h2 => ?_
  have := he k (by omega) (by omega)
  rwa [lab_get _ _ h1, lab_get _ _ h2] at this
/-- The least of two is told by what lies below. -/
theorem eq_of_le {a b : Int} (h : ∀ y, y ≤ a ↔ y ≤ b) : a = b := by
  have h1 := (h a).1 (Int.le_refl _)
  have h2 := (h b).2 (Int.le_refl _)
  omega
theorem lab_set (g : List Int) (k : Nat) (v : Int) (i : Int) (hi : 0 ≤ i) (hk : k < g.length) : lab (g.set k v) i = if i = k then v else lab g i := by
  unfold lab
  rw [List.getD_eq_getElem?_getD, List.getElem?_set, List.getD_eq_getElem?_getD]
  by_cases e : i = k
  · have e2 : k = i.toNat := by omega
    rw [if_pos e, if_pos e2, if_pos hk]
    rfl
  · have e2 : ¬ k = i.toNat := by omega
    rw [if_neg e, if_neg e2]

/- The model's: an edge at a time, into a copy. -/
def relB (far out : List Int) (e : EdD) : List Int := out.set e.A.toNat (min (lab out e.A) (lab far e.B + e.Cost))
def relE (far out : List Int) (e : EdD) : List Int := (relB far out e).set e.B.toNat (min (lab (relB far out e) e.B) (lab far e.A + e.Cost))
def relS (l : List EdD) (far : List Int) : List Int := l.foldl (relE far) far
theorem relE_len (far out : List Int) (e : EdD) : (relE far out e).length = out.length := by simp [relE, relB]
theorem relS_take (l : List EdD) (far : List Int) (k : Nat) (h : k < l.length) : relS (l.take (k + 1)) far = relE far (relS (l.take k) far) l[k] := by
  unfold relS
  rw [List.take_succ_eq_append_getElem h, List.foldl_append]
  rfl
theorem relF_len (far : List Int) : ∀ (l : List EdD) (out : List Int), (l.foldl (relE far) out).length = out.length
  | [], _ => rfl
  | e :: r, out => by rw [List.foldl_cons, relF_len far r, relE_len]
theorem relS_len (l : List EdD) (far : List Int) : (relS l far).length = far.length := relF_len far l far
theorem le_relE {n : Int} (far out : List Int) (e : EdD) (ho : (out.length : Int) = n) (he : (0 ≤ e.A ∧ e.A < n) ∧ (0 ≤ e.B ∧ e.B < n) ∧ e.A < e.B) (i y : Int) (h0 : 0 ≤ i) :
    y ≤ lab (relE far out e) i ↔ y ≤ lab out i ∧ (e.A = i → y ≤ lab far e.B + e.Cost) ∧ (e.B = i → y ≤ lab far e.A + e.Cost) := by
  have h1 : ∀ j : Int, 0 ≤ j → lab (relB far out e) j = if j = e.A then min (lab out e.A) (lab far e.B + e.Cost) else lab out j := fun j hj => by
    unfold relB
    rw [lab_set _ _ _ _ hj (by omega), show (e.A.toNat : Int) = e.A by omega]
  have h2 : lab (relE far out e) i = if i = e.B then min (lab (relB far out e) e.B) (lab far e.A + e.Cost) else lab (relB far out e) i := by
    unfold relE
    rw [lab_set _ _ _ _ h0 (by unfold relB; rw [List.length_set]; omega), show (e.B.toNat : Int) = e.B by omega]
  rw [h2]
  by_cases c2 : i = e.B
  · rw [if_pos c2, h1 _ (by omega), if_neg (by omega), c2]
    have : ¬ e.A = e.B := by omega
    simp only [this, false_implies, true_implies, true_and]
    omega
  · rw [if_neg c2, h1 _ h0]
    have : ¬ e.B = i := fun h => c2 h.symm
    simp only [this, false_implies, and_true]
    by_cases c1 : i = e.A
    · rw [if_pos c1, c1]
      simp only [true_implies]
      omega
    · rw [if_neg c1]
      have : ¬ e.A = i := fun h => c1 h.symm
      simp [this]
theorem relS_eq {n : Int} {l : List EdD} (hf : FitEd n l) (far : List Int) (hl : (far.length : Int) = n) : relS l far = relD l far := by
  have key : ∀ (l : List EdD) (out : List Int), FitEd n l → (out.length : Int) = n → ∀ i y : Int, 0 ≤ i → (y ≤ lab (l.foldl (relE far) out) i ↔ y ≤ lab out i ∧ ∀ k c, Joined l i k c → y ≤ lab far k + c) := by
    intro l
    induction l with
    | nil =>
      intro out _ _ i y _
      simp [Joined]
    | cons e r ih =>
      intro out hf ho i y h0
      have he := hf e (List.mem_cons_self ..)
      rw [List.foldl_cons, ih _ (fun x hx => hf x (List.mem_cons_of_mem _ hx)) (by rw [relE_len]; exact ho) i y h0, le_relE far out e ho ⟨he.1, he.2.1, he.2.2.1⟩ i y h0]
      constructor
      · rintro ⟨⟨h1, h2, h3⟩, h4⟩
        refine ⟨h1, fun k c ⟨x, hx, hj, hc⟩ => ?_⟩
        rcases List.mem_cons.1 hx with rfl | hx
        · rcases hj with ⟨ha, hb⟩ | ⟨ha, hb⟩
          · rw [← hb, ← hc]; exact h2 ha
          · rw [← hb, ← hc]; exact h3 ha
        · exact h4 k c ⟨x, hx, hj, hc⟩
      · rintro ⟨h1, h2⟩
        exact ⟨⟨h1, fun ha => h2 e.B e.Cost ⟨e, List.mem_cons_self .., .inl ⟨ha, rfl⟩, rfl⟩, fun ha => h2 e.A e.Cost ⟨e, List.mem_cons_self .., .inr ⟨ha, rfl⟩, rfl⟩⟩, fun k c ⟨x, hx, hj, hc⟩ => h2 k c ⟨x, List.mem_cons_of_mem _ hx, hj, hc⟩⟩
  refine lab_ext (by rw [relS_len, relD_len]) fun i h0 hi => ?_
  rw [relS_len] at hi
  rw [lab_relD l far i h0 hi]
  refine eq_of_le fun y => ?_
  rw [le_relAt]
  exact key l far hf hl i y h0

/- The rounds. -/
def farI (n : Nat) (a : Int) : List Int := (List.replicate n farC).set a.toNat 0
def farD (n : Nat) (l : List EdD) (a : Int) : Nat → List Int
  | 0 => farI n a
  | j + 1 => relD l (farD n l a j)
def fars (n : Nat) (l : List EdD) (a : Int) : List Int := farD n l a n
theorem farD_len (n : Nat) (l : List EdD) (a : Int) : ∀ j, (farD n l a j).length = n
  | 0 => by simp [farD, farI]
  | j + 1 => by rw [farD, relD_len, farD_len n l a j]
theorem lab_farI (n : Nat) (a i : Int) (ha : 0 ≤ a ∧ a < n) (h0 : 0 ≤ i) (hi : i < n) : lab (farI n a) i = if i = a then 0 else farC := by
  unfold farI
  rw [lab_set _ _ _ _ h0 (by rw [List.length_replicate]; omega), show (a.toNat : Int) = a by omega]
  by_cases e : i = a
  · rw [if_pos e, if_pos e]
  · rw [if_neg e, if_neg e]
    have e2 : i = ((i.toNat : Nat) : Int) := by omega
    rw [e2, lab_get _ _ (by rw [List.length_replicate]; omega)]
    simp
theorem farD_succ {n : Nat} {l : List EdD} {a : Int} (j : Nat) (i : Int) (h0 : 0 ≤ i) (hi : i < n) : lab (farD n l a (j + 1)) i = relAt l (farD n l a j) i := by
  rw [farD, lab_relD _ _ _ h0 (by rw [farD_len]; exact hi)]
theorem farD_down {n : Nat} {l : List EdD} {a : Int} (j : Nat) (i : Int) (h0 : 0 ≤ i) (hi : i < n) : lab (farD n l a (j + 1)) i ≤ lab (farD n l a j) i := by
  rw [farD_succ j i h0 hi]
  exact ((le_relAt l _ i _).1 (Int.le_refl _)).1
theorem farD_far {n : Nat} {l : List EdD} {a : Int} (ha : 0 ≤ a ∧ a < n) (j : Nat) (i : Int) (h0 : 0 ≤ i) (hi : i < n) : lab (farD n l a j) i ≤ farC := by
  induction j with
  | zero =>
    rw [farD, lab_farI n a i ha h0 hi]
    unfold farC
    split <;> omega
  | succ j ih => exact Int.le_trans (farD_down j i h0 hi) ih
theorem farD_low {n : Nat} {l : List EdD} {a : Int} (hf : FitEd n l) (ha : 0 ≤ a ∧ a < n) (j : Nat) : ∀ (i : Int), 0 ≤ i → i < n → lab (farD n l a j) i = farC ∨ 0 ≤ lab (farD n l a j) i ∧ lab (farD n l a j) i ≤ 100 * j := by
  induction j with
  | zero =>
    intro i h0 hi
    rw [farD, lab_farI n a i ha h0 hi]
    split
    · exact .inr (by omega)
    · exact .inl rfl
  | succ j ih =>
    intro i h0 hi
    have hF := farD_far (l := l) ha (j + 1) i h0 hi
    rw [farD_succ j i h0 hi] at hF ⊢
    rcases relAt_is l (farD n l a j) i with e | ⟨k, c, hj, e⟩
    · rw [e]
      rcases ih i h0 hi with h | h
      · exact .inl h
      · exact .inr (by omega)
    · have hk := hj.fit hf
      rcases ih k hk.2.1.1 hk.2.1.2 with h | h
      · rw [e, h] at hF
        omega
      · exact .inr (by rw [e]; omega)
theorem farD_nonneg {n : Nat} {l : List EdD} {a : Int} (hf : FitEd n l) (ha : 0 ≤ a ∧ a < n) (j : Nat) (i : Int) (h0 : 0 ≤ i) (hi : i < n) : 0 ≤ lab (farD n l a j) i := by
  have := farD_low hf ha j i h0 hi
  unfold farC at this
  omega
/-- No numbers that keep to edges are greater. -/
theorem farD_most {n : Nat} {l : List EdD} {a : Int} (hf : FitEd n l) (ha : 0 ≤ a ∧ a < n) (g : Int → Int) (ga : g a ≤ 0) (gf : ∀ i : Int, 0 ≤ i → i < n → g i ≤ farC) (gj : ∀ i k c, Joined l i k c → g i ≤ g k + c) (j : Nat) :
    ∀ i : Int, 0 ≤ i → i < n → g i ≤ lab (farD n l a j) i := by
  induction j with
  | zero =>
    intro i h0 hi
    rw [farD, lab_farI n a i ha h0 hi]
    split
    · next e => rw [e]; exact ga
    · exact gf i h0 hi
  | succ j ih =>
    intro i h0 hi
    rw [farD_succ j i h0 hi, le_relAt]
    refine ⟨ih i h0 hi, fun k c hj => ?_⟩
    have hk := hj.fit hf
    have := ih k hk.2.1.1 hk.2.1.2
    have := gj i k c hj
    omega
theorem farD_at {n : Nat} {l : List EdD} {a : Int} (hf : FitEd n l) (ha : 0 ≤ a ∧ a < n) (j : Nat) : lab (farD n l a j) a = 0 := by
  have h1 := farD_nonneg hf ha j a ha.1 ha.2
  have h2 : lab (farD n l a j) a ≤ 0 := by
    clear h1
    induction j with
    | zero => rw [farD, lab_farI n a a ha ha.1 ha.2, if_pos rfl]; exact Int.le_refl _
    | succ j ih => exact Int.le_trans (farD_down j a ha.1 ha.2) ih
  omega

/- Sums over spots. -/
def sumTo (f : Int → Int) : Nat → Int
  | 0 => 0
  | k + 1 => sumTo f k + f k
theorem sumTo_le {f g : Int → Int} : ∀ {n : Nat}, (∀ i : Int, 0 ≤ i → i < n → f i ≤ g i) → sumTo f n ≤ sumTo g n
  | 0, _ => Int.le_refl _
  | n + 1, h => by
    have h1 := sumTo_le (n := n) fun i h0 hi => h i h0 (by omega)
    have h2 := h n (by omega) (by omega)
    simp only [sumTo]
    omega
theorem sumTo_lt {f g : Int → Int} : ∀ {n : Nat}, (∀ i : Int, 0 ≤ i → i < n → f i ≤ g i) → (∃ i : Int, 0 ≤ i ∧ i < n ∧ f i < g i) → sumTo f n < sumTo g n
  | 0, _, ⟨i, h0, hi, _⟩ => by omega
  | n + 1, h, ⟨i, h0, hi, hlt⟩ => by
    have h2 := h n (by omega) (by omega)
    simp only [sumTo]
    by_cases e : i = n
    · have h1 := sumTo_le (n := n) fun i h0 hi => h i h0 (by omega)
      rw [e] at hlt
      omega
    · have h1 := sumTo_lt (n := n) (fun i h0 hi => h i h0 (by omega)) ⟨i, h0, by omega, hlt⟩
      omega
theorem sumTo_one : ∀ n : Nat, sumTo (fun _ => 1) n = n
  | 0 => rfl
  | n + 1 => by simp only [sumTo, sumTo_one n]; omega
theorem sumTo_zero : ∀ n : Nat, sumTo (fun _ => 0) n = 0
  | 0 => rfl
  | n + 1 => by simp only [sumTo, sumTo_zero n]; omega

/-- Once the rounds change nothing. -/
def Rests (n : Nat) (l : List EdD) (a : Int) (m : Nat) : Prop := ∀ i : Int, 0 ≤ i → i < n → lab (farD n l a (m + 1)) i = lab (farD n l a m) i
theorem rests_ex {n : Nat} {l : List EdD} {a : Int} (hf : FitEd n l) (ha : 0 ≤ a ∧ a < n) : ∃ m, Rests n l a m := by
  refine Classical.byContradiction fun hno => ?_
  have hS : ∀ m : Nat, sumTo (lab (farD n l a m)) n ≤ sumTo (lab (farD n l a 0)) n - m := by
    intro m
    induction m with
    | zero => omega
    | succ m ih =>
      have : sumTo (lab (farD n l a (m + 1))) n < sumTo (lab (farD n l a m)) n := by
        refine sumTo_lt (fun i h0 hi => farD_down m i h0 hi) (Classical.byContradiction fun hn => hno ⟨m, fun i h0 hi => ?_⟩)
        have h1 := farD_down (l := l) (a := a) m i h0 hi
        refine Classical.byContradiction fun hne => hn ⟨i, h0, hi, by omega⟩
      omega
  have h1 := hS ((sumTo (lab (farD n l a 0)) n).toNat + 1)
  have h2 : (0 : Int) ≤ sumTo (lab (farD n l a ((sumTo (lab (farD n l a 0)) n).toNat + 1))) n := by
    have := sumTo_le (n := n) (f := fun _ => 0) (g := lab (farD n l a ((sumTo (lab (farD n l a 0)) n).toNat + 1))) fun i h0 hi => farD_nonneg hf ha _ i h0 hi
    rwa [sumTo_zero] at this
  omega
theorem Rests.same {n : Nat} {l : List EdD} {a : Int} {m : Nat} (h : Rests n l a m) : farD n l a (m + 1) = farD n l a m :=
  lab_ext (by rw [farD_len, farD_len]) fun i h0 hi => h i h0 (by rw [farD_len] at hi; exact hi)
theorem Rests.on {n : Nat} {l : List EdD} {a : Int} {m : Nat} (h : Rests n l a m) : ∀ j, farD n l a (m + j) = farD n l a m
  | 0 => rfl
  | j + 1 => by
    have := h.on j
    rw [← Nat.add_assoc, farD, this]
    exact h.same
theorem farD_anti {n : Nat} {l : List EdD} {a : Int} (i : Int) (h0 : 0 ≤ i) (hi : i < n) (j : Nat) : ∀ d, lab (farD n l a (j + d)) i ≤ lab (farD n l a j) i
  | 0 => Int.le_refl _
  | d + 1 => Int.le_trans (farD_down (j + d) i h0 hi) (farD_anti i h0 hi j d)
theorem Rests.least {n : Nat} {l : List EdD} {a : Int} {m : Nat} (h : Rests n l a m) (j : Nat) (i : Int) (h0 : 0 ≤ i) (hi : i < n) : lab (farD n l a m) i ≤ lab (farD n l a j) i := by
  have h1 := farD_anti (l := l) (a := a) i h0 hi j m
  rwa [Nat.add_comm, h.on j] at h1
theorem Rests.edge {n : Nat} {l : List EdD} {a : Int} {m : Nat} (hf : FitEd n l) (h : Rests n l a m) (i k c : Int) (hj : Joined l i k c) : lab (farD n l a m) i ≤ lab (farD n l a m) k + c := by
  have hk := hj.fit hf
  have := h i hk.1.1 hk.1.2
  rw [farD_succ m i hk.1.1 hk.1.2] at this
  rw [← this]
  exact ((le_relAt l _ i _).1 (Int.le_refl _)).2 k c hj
/-- What is near by some edge is so by an edge at which the way goes on. -/
theorem Rests.tight {n : Nat} {l : List EdD} {a : Int} {m : Nat} (hf : FitEd n l) (ha : 0 ≤ a ∧ a < n) (h : Rests n l a m) (i : Int) (h0 : 0 ≤ i) (hi : i < n) (hia : i ≠ a) (hfar : lab (farD n l a m) i < farC) :
    ∃ k c, Joined l i k c ∧ lab (farD n l a m) k + c = lab (farD n l a m) i := by
  have key : ∀ j, lab (farD n l a j) i = lab (farD n l a m) i → ∃ k c, Joined l i k c ∧ lab (farD n l a m) k + c = lab (farD n l a m) i := by
    intro j
    induction j with
    | zero =>
      intro e
      rw [← e, farD, lab_farI n a i ha h0 hi, if_neg hia] at hfar
      omega
    | succ j ih =>
      intro e
      by_cases e2 : lab (farD n l a j) i = lab (farD n l a m) i
      · exact ih e2
      · have hd := h.least j i h0 hi
        rw [farD_succ j i h0 hi] at e
        rcases relAt_is l (farD n l a j) i with q | ⟨k, c, hj, q⟩
        · omega
        · have hk := hj.fit hf
          have h1 := h.least j k hk.2.1.1 hk.2.1.2
          have h2 := h.edge hf i k c hj
          exact ⟨k, c, hj, by omega⟩
  exact key m rfl
/-- So many rounds as there are spots are enough. -/
theorem rests_n {n : Nat} {l : List EdD} {a : Int} (hf : FitEd n l) (ha : 0 ≤ a ∧ a < n) : ∃ m, Rests n l a m ∧ farD n l a n = farD n l a m := by
  obtain ⟨m, hm⟩ := rests_ex hf ha
  refine ⟨m, hm, ?_⟩
  have key : ∀ j : Nat, (∀ i : Int, 0 ≤ i → i < n → lab (farD n l a j) i = lab (farD n l a m) i) ∨ (j : Int) + 1 ≤ sumTo (fun i => if lab (farD n l a j) i = lab (farD n l a m) i then 1 else 0) n := by
    intro j
    induction j with
    | zero =>
      right
      have : sumTo (fun _ => 0) n < sumTo (fun i => if lab (farD n l a 0) i = lab (farD n l a m) i then 1 else 0) n := by
        refine sumTo_lt (fun i _ _ => ?_) ⟨a, ha.1, ha.2, ?_⟩
        · split <;> omega
        · rw [farD_at hf ha, farD_at hf ha, if_pos rfl]
          omega
      rw [sumTo_zero] at this
      omega
    | succ j ih =>
      rcases ih with ih | ih
      · left
        intro i h0 hi
        have h1 := farD_down (l := l) (a := a) j i h0 hi
        have h2 := hm.least (j + 1) i h0 hi
        have := ih i h0 hi
        omega
      · by_cases hall : ∀ i : Int, 0 ≤ i → i < n → lab (farD n l a j) i = lab (farD n l a m) i
        · left
          intro i h0 hi
          have h1 := farD_down (l := l) (a := a) j i h0 hi
          have h2 := hm.least (j + 1) i h0 hi
          have := hall i h0 hi
          omega
        · right
          -- the nearest one that is not yet told
          have hex : ∃ s : Int, 0 ≤ s ∧ s < n ∧ lab (farD n l a j) s ≠ lab (farD n l a m) s ∧ ∀ k : Int, 0 ≤ k → k < n → lab (farD n l a m) k < lab (farD n l a m) s → lab (farD n l a j) k = lab (farD n l a m) k := by
            refine Classical.byContradiction fun hno => hall ?_
            have hd : ∀ v : Nat, ∀ s : Int, 0 ≤ s → s < n → (lab (farD n l a m) s).toNat < v → lab (farD n l a j) s = lab (farD n l a m) s := by
              intro v
              induction v with
              | zero => intro s _ _ h; omega
              | succ v ihv =>
                intro s h0 hs hv
                refine Classical.byContradiction fun hne => hno ⟨s, h0, hs, hne, fun k k0 kn hlt => ihv k k0 kn ?_⟩
                have := farD_nonneg hf ha m k k0 kn
                omega
            exact fun i h0 hi => hd _ i h0 hi (Nat.lt_succ_self _)
          obtain ⟨s, s0, sn, hne, hless⟩ := hex
          have hsa : s ≠ a := fun e => hne (by rw [e, farD_at hf ha, farD_at hf ha])
          have hlow := hm.least j s s0 sn
          have hfar := farD_far (l := l) ha j s s0 sn
          obtain ⟨k, c, hj, hk⟩ := hm.tight hf ha s s0 sn hsa (by omega)
          have hfit := hj.fit hf
          have hkj := hless k hfit.2.1.1 hfit.2.1.2 (by omega)
          have hs1 : lab (farD n l a (j + 1)) s = lab (farD n l a m) s := by
            have h1 := hm.least (j + 1) s s0 sn
            have h2 : lab (farD n l a (j + 1)) s ≤ lab (farD n l a j) k + c := by
              rw [farD_succ j s s0 sn]
              exact ((le_relAt l _ s _).1 (Int.le_refl _)).2 k c hj
            omega
          have : sumTo (fun i => if lab (farD n l a j) i = lab (farD n l a m) i then 1 else 0) n < sumTo (fun i => if lab (farD n l a (j + 1)) i = lab (farD n l a m) i then 1 else 0) n := by
            refine sumTo_lt (fun i h0 hi => ?_) ⟨s, s0, sn, ?_⟩
            · by_cases e : lab (farD n l a j) i = lab (farD n l a m) i
              · have h1 := farD_down (l := l) (a := a) j i h0 hi
                have h2 := hm.least (j + 1) i h0 hi
                rw [if_pos e, if_pos (by omega)]
                exact Int.le_refl _
              · rw [if_neg e]
                split <;> omega
            · rw [if_neg hne, if_pos hs1]
              omega
          omega
  refine lab_ext (by rw [farD_len, farD_len]) fun i h0 hi => ?_
  rw [farD_len] at hi
  rcases key n with h | h
  · exact h i h0 hi
  · have := sumTo_le (n := n) (f := fun i => if lab (farD n l a n) i = lab (farD n l a m) i then 1 else 0) (g := fun _ => 1) fun i _ _ => by split <;> omega
    rw [sumTo_one] at this
    omega

section Told
variable {n : Nat} {l : List EdD} {a : Int}
theorem fars_len : (fars n l a).length = n := farD_len n l a n
theorem fars_edge (hf : FitEd n l) (ha : 0 ≤ a ∧ a < n) (i k c : Int) (hj : Joined l i k c) : lab (fars n l a) i ≤ lab (fars n l a) k + c := by
  obtain ⟨m, hm, e⟩ := rests_n hf ha
  rw [fars, e]
  exact hm.edge hf i k c hj
theorem fars_tight (hf : FitEd n l) (ha : 0 ≤ a ∧ a < n) (i : Int) (h0 : 0 ≤ i) (hi : i < n) (hia : i ≠ a) (hfar : lab (fars n l a) i < farC) : ∃ k c, Joined l i k c ∧ lab (fars n l a) k + c = lab (fars n l a) i := by
  obtain ⟨m, hm, e⟩ := rests_n hf ha
  rw [fars, e] at hfar ⊢
  exact hm.tight hf ha i h0 hi hia hfar
theorem fars_rests (hf : FitEd n l) (ha : 0 ≤ a ∧ a < n) : relD l (fars n l a) = fars n l a := by
  obtain ⟨m, hm, e⟩ := rests_n hf ha
  rw [fars, e]
  exact hm.same
theorem fars_far (ha : 0 ≤ a ∧ a < n) (i : Int) (h0 : 0 ≤ i) (hi : i < n) : lab (fars n l a) i ≤ farC := farD_far ha n i h0 hi
theorem fars_low (hf : FitEd n l) (ha : 0 ≤ a ∧ a < n) (i : Int) (h0 : 0 ≤ i) (hi : i < n) : lab (fars n l a) i = farC ∨ 0 ≤ lab (fars n l a) i ∧ lab (fars n l a) i ≤ 100 * n := farD_low hf ha n i h0 hi
theorem fars_nonneg (hf : FitEd n l) (ha : 0 ≤ a ∧ a < n) (i : Int) (h0 : 0 ≤ i) (hi : i < n) : 0 ≤ lab (fars n l a) i := farD_nonneg hf ha n i h0 hi
theorem fars_at (hf : FitEd n l) (ha : 0 ≤ a ∧ a < n) : lab (fars n l a) a = 0 := farD_at hf ha n
/-- The same there and back. -/
theorem fars_back (hf : FitEd n l) (ha : 0 ≤ a ∧ a < n) {b : Int} (hb : 0 ≤ b ∧ b < n) : lab (fars n l a) b = lab (fars n l b) a := by
  have key : ∀ {a b : Int}, (0 ≤ a ∧ a < n) → (0 ≤ b ∧ b < n) → lab (fars n l a) b ≤ lab (fars n l b) a := fun {a b} ha hb => by
    have h := farD_most hf hb (fun i => lab (fars n l a) b - lab (fars n l a) i) (by omega) (fun i h0 hi => by
      have h1 := fars_far (l := l) ha b hb.1 hb.2
      have h2 := fars_nonneg hf ha i h0 hi
      omega) (fun i k c hj => by
      have := fars_edge hf ha k i c hj.symm
      omega) n a ha.1 ha.2
    rw [fars_at hf ha] at h
    simpa [fars] using h
  have h1 := key ha hb
  have h2 := key hb ha
  omega
/-- No way round is shorter. -/
theorem fars_round (hf : FitEd n l) (ha : 0 ≤ a ∧ a < n) {b : Int} (hb : 0 ≤ b ∧ b < n) (j : Int) (h0 : 0 ≤ j) (hj : j < n) : lab (fars n l a) j ≤ lab (fars n l a) b + lab (fars n l b) j := by
  have h := farD_most hf hb (fun i => lab (fars n l a) i - lab (fars n l a) b) (by omega) (fun i h0 hi => by
    have h1 := fars_far (l := l) ha i h0 hi
    have h2 := fars_nonneg hf ha b hb.1 hb.2
    omega) (fun i k c hj => by
    have := fars_edge hf ha i k c hj
    omega) n j h0 hj
  have e : lab (fars n l b) j = lab (farD n l b n) j := rfl
  omega
/-- Far just where no way leads. -/
theorem fars_groups (hf : FitEd n l) (hn : n ≤ 12) (ha : 0 ≤ a ∧ a < n) {g : List Int} (hg : IsGrp n l g) (b : Int) (hb : 0 ≤ b ∧ b < n) : lab (fars n l a) b = farC ↔ lab g b ≠ lab g a := by
  constructor
  · intro hfar he
    have hP := hg.2.2.2 (fun x => 0 ≤ x ∧ x < n ∧ lab (fars n l a) x < farC) (fun e hm => by
      have hfit := hf e hm
      have j1 : Joined l e.A e.B e.Cost := ⟨e, hm, .inl ⟨rfl, rfl⟩, rfl⟩
      have h1 := fars_edge hf ha _ _ _ j1
      have h2 := fars_edge hf ha _ _ _ j1.symm
      have l1 := fars_low hf ha e.A hfit.1.1 hfit.1.2
      have l2 := fars_low hf ha e.B hfit.2.1.1 hfit.2.1.2
      unfold farC at *
      omega)
    have pa := (hP a ha.1 ha.2).2 ⟨ha.1, ha.2, by rw [fars_at hf ha]; decide⟩
    rw [← he] at pa
    have pb := (hP b hb.1 hb.2).1 pa
    have := pb.2.2
    omega
  · intro hne
    have h := farD_most hf ha (fun x => if lab g x = lab g a then 0 else farC) (by simp) (fun i _ _ => by unfold farC; split <;> omega) (fun i k c hj => by
      have hc := (hj.fit hf).2.2
      have e : lab g i = lab g k := by
        obtain ⟨e, he, h, -⟩ := hj
        have := hg.2.1 e he
        rcases h with ⟨h1, h2⟩ | ⟨h1, h2⟩
        · rw [← h1, ← h2]; exact this
        · rw [← h1, ← h2]; exact this.symm
      rw [e]
      split <;> omega) n b hb.1 hb.2
    rw [if_neg hne] at h
    have h2 := fars_far (l := l) ha b hb.1 hb.2
    have e : lab (fars n l a) b = lab (farD n l a n) b := rfl
    omega
end Told
end Go.Proofs.Ythlbmkefjjckaad

/-
  By whom a best way begins, and ways, as data.
-/
namespace Go.Proofs.Ythlbmkefjjckaad
set_option linter.unusedVariables false

/- Costs of edges; by whom a best way begins; ways. -/
theorem lastEd_is (l : List EdD) (a b : Int) : (lastEd l a b = 0 ∧ ∀ e ∈ l, ¬ (e.A = a ∧ e.B = b)) ∨ ∃ e ∈ l, (e.A = a ∧ e.B = b) ∧ e.Cost = lastEd l a b := by
  have key : ∀ (l : List EdD) (c : Int), (l.foldl (fun c x => if x.A = a ∧ x.B = b then x.Cost else c) c = c ∧ ∀ e ∈ l, ¬ (e.A = a ∧ e.B = b)) ∨ ∃ e ∈ l, (e.A = a ∧ e.B = b) ∧ e.Cost = l.foldl (fun c x => if x.A = a ∧ x.B = b then x.Cost else c) c := by
    intro l
    induction l with
    | nil => intro c; exact .inl ⟨rfl, fun e he => by cases he⟩
    | cons x r ih =>
      intro c
      rw [List.foldl_cons]
      by_cases h : x.A = a ∧ x.B = b
      · rw [if_pos h]
        rcases ih x.Cost with ⟨h1, h2⟩ | ⟨e, he, h1, h2⟩
        · exact .inr ⟨x, List.mem_cons_self .., h, h1.symm⟩
        · exact .inr ⟨e, List.mem_cons_of_mem _ he, h1, h2⟩
      · rw [if_neg h]
        rcases ih c with ⟨h1, h2⟩ | ⟨e, he, h1, h2⟩
        · exact .inl ⟨h1, fun e he => (List.mem_cons.1 he).elim (fun q => by rw [q]; exact h) (h2 e)⟩
        · exact .inr ⟨e, List.mem_cons_of_mem _ he, h1, h2⟩
  exact key l 0
theorem rise_uniq {l : List EdD} (hr : RiseEd l) {x y : EdD} (hx : x ∈ l) (hy : y ∈ l) (h1 : x.A = y.A) (h2 : x.B = y.B) : x.Cost = y.Cost := by
  induction l with
  | nil => cases hx
  | cons z r ih =>
    have hp := List.pairwise_cons.1 hr
    rcases List.mem_cons.1 hx with ex | hx
    · rcases List.mem_cons.1 hy with ey | hy
      · rw [ex, ey]
      · have := hp.1 y hy; rw [← ex] at this; omega
    · rcases List.mem_cons.1 hy with ey | hy
      · have := hp.1 x hx; rw [← ey] at this; omega
      · exact ih hp.2 hx hy
theorem joined_uniq {n : Int} {l : List EdD} (hf : FitEd n l) (hr : RiseEd l) {i k c c' : Int} (h : Joined l i k c) (h' : Joined l i k c') : c = c' := by
  obtain ⟨e, he, hj, rfl⟩ := h
  obtain ⟨e', he', hj', rfl⟩ := h'
  have a := hf e he
  have b := hf e' he'
  exact rise_uniq hr he he' (by omega) (by omega)
theorem costB_is {n : Int} {l : List EdD} (hf : FitEd n l) (a b : Int) : (costB l a b = 0 ∧ ∀ c, ¬ Joined l a b c) ∨ Joined l a b (costB l a b) := by
  unfold costB
  rcases lastEd_is l (min a b) (max a b) with ⟨h1, h2⟩ | ⟨e, he, h1, h2⟩
  · refine .inl ⟨h1, fun c hJ => ?_⟩
    obtain ⟨e, he, hj, -⟩ := hJ
    have := hf e he
    exact h2 e he (by omega)
  · refine .inr ⟨e, he, ?_, h2⟩
    omega
theorem costB_of {n : Int} {l : List EdD} (hf : FitEd n l) (hr : RiseEd l) {a b c : Int} (h : Joined l a b c) : costB l a b = c := by
  rcases costB_is hf a b with ⟨-, h2⟩ | h1
  · exact absurd h (h2 c)
  · exact joined_uniq hf hr h1 h
theorem costB_low {n : Int} {l : List EdD} (hf : FitEd n l) (a b : Int) : 0 ≤ costB l a b ∧ costB l a b ≤ 100 := by
  rcases costB_is hf a b with ⟨h, -⟩ | h
  · omega
  · have := h.fit hf; omega
/-- The model's: the first one that joins them. -/
def edS : List EdD → Int → Int → Int
  | [], _, _ => 0
  | e :: r, a, b => if e.A = a ∧ e.B = b ∨ e.A = b ∧ e.B = a then e.Cost else edS r a b
theorem edS_is : ∀ (l : List EdD) (a b : Int), (edS l a b = 0 ∧ ∀ c, ¬ Joined l a b c) ∨ Joined l a b (edS l a b)
  | [], a, b => .inl ⟨rfl, fun c ⟨e, he, _⟩ => by cases he⟩
  | x :: r, a, b => by
    unfold edS
    by_cases h : x.A = a ∧ x.B = b ∨ x.A = b ∧ x.B = a
    · rw [if_pos h]
      exact .inr ⟨x, List.mem_cons_self .., by omega, rfl⟩
    · rw [if_neg h]
      rcases edS_is r a b with ⟨h1, h2⟩ | ⟨e, he, h1⟩
      · refine .inl ⟨h1, fun c ⟨e, he, hj, hc⟩ => ?_⟩
        rcases List.mem_cons.1 he with q | he
        · rw [q] at hj; omega
        · exact h2 c ⟨e, he, hj, hc⟩
      · exact .inr ⟨e, List.mem_cons_of_mem _ he, h1⟩
theorem edS_eq {n : Int} {l : List EdD} (hf : FitEd n l) (hr : RiseEd l) (a b : Int) : edS l a b = costB l a b := by
  rcases edS_is l a b with ⟨h1, h2⟩ | h1
  · rcases costB_is hf a b with ⟨h3, -⟩ | h3
    · rw [h1, h3]
    · exact absurd h3 (h2 _)
  · exact (costB_of hf hr h1).symm

/-- By whom a best way begins: rising. -/
def hopsD (l : List EdD) (far : List Int) (i : Int) : List Int := ((linksD l i).filter fun p => decide (lab far p.1 + p.2 = lab far i)).map Prod.fst
theorem mem_hopsD (l : List EdD) (far : List Int) (i k : Int) : k ∈ hopsD l far i ↔ ∃ c, Joined l i k c ∧ lab far k + c = lab far i := by
  unfold hopsD
  rw [List.mem_map]
  constructor
  · rintro ⟨p, hp, rfl⟩
    rw [List.mem_filter] at hp
    exact ⟨p.2, (linksD_joined ..).1 hp.1, of_decide_eq_true hp.2⟩
  · rintro ⟨c, hj, he⟩
    exact ⟨(k, c), List.mem_filter.2 ⟨(linksD_joined ..).2 hj, decide_eq_true he⟩, rfl⟩
theorem linksD_rise {n : Int} {l : List EdD} (hf : FitEd n l) (hr : RiseEd l) (i : Int) : (linksD l i).Pairwise fun p q => p.1 < q.1 := by
  unfold linksD
  rw [List.pairwise_map]
  have h1 : (l.filter fun e => decide (e.A = i ∨ e.B = i)).Pairwise fun a b => a.A < b.A ∨ a.A = b.A ∧ a.B < b.B := List.Pairwise.filter _ hr
  refine List.Pairwise.imp_of_mem (fun {x y} hx hy h => ?_) h1
  rw [List.mem_filter] at hx hy
  have ax := of_decide_eq_true hx.2
  have ay := of_decide_eq_true hy.2
  have fx := hf x hx.1
  have fy := hf y hy.1
  dsimp only
  omega
theorem hopsD_rise {n : Int} {l : List EdD} (hf : FitEd n l) (hr : RiseEd l) (far : List Int) (i : Int) : (hopsD l far i).Pairwise fun x y => x < y := by
  unfold hopsD
  rw [List.pairwise_map]
  exact List.Pairwise.filter _ (linksD_rise hf hr i)
theorem hopsD_len (l : List EdD) (far : List Int) (i : Int) : (hopsD l far i).length ≤ l.length := by
  unfold hopsD
  rw [List.length_map]
  exact Nat.le_trans (List.length_filter_le ..) (linksD_len l i)
/-- The model's: of the neighbours those over whom it goes on. -/
def hopsS (n : Nat) (l : List EdD) (far : List Int) (i : Int) : List Int := (nearTo l i n).filter fun k => decide (lab far i < farC ∧ lab far k + edS l i k = lab far i)
theorem hopsS_eq {n : Nat} {l : List EdD} {b : Int} (hn : n ≤ 12) (hf : FitEd n l) (hr : RiseEd l) (hb : 0 ≤ b ∧ b < n) (i : Int) : hopsS n l (fars n l b) i = hopsD l (fars n l b) i := by
  refine rise_int_ext ((nearTo_rise l i n).filter _) (hopsD_rise hf hr _ i) fun k => ?_
  unfold hopsS
  rw [List.mem_filter, mem_hopsD, show n = (n : Int).toNat from rfl, mem_nearTo hf, decide_eq_true_iff]
  simp only [Int.toNat_natCast]
  constructor
  · rintro ⟨⟨e, he, hj⟩, h1, h2⟩
    have hJ : Joined l i k e.Cost := ⟨e, he, by omega, rfl⟩
    rw [edS_eq hf hr, costB_of hf hr hJ] at h2
    exact ⟨_, hJ, h2⟩
  · rintro ⟨c, hJ, h2⟩
    have hfit := hJ.fit hf
    have l1 := fars_low hf hb i hfit.1.1 hfit.1.2
    have l2 := fars_low hf hb k hfit.2.1.1 hfit.2.1.2
    refine ⟨?_, ?_, ?_⟩
    · obtain ⟨e, he, hj, -⟩ := hJ
      exact ⟨e, he, by omega⟩
    · unfold farC at *
      omega
    · rw [edS_eq hf hr, costB_of hf hr hJ]
      exact h2

/-- A way that goes each time to the least one. -/
def IsWay (l : List EdD) (far : List Int) : List Int → Prop
  | [] => False
  | [x] => hopsD l far x = []
  | x :: y :: r => (hopsD l far x).head? = some y ∧ IsWay l far (y :: r)
theorem way_hop {n : Int} {l : List EdD} (hf : FitEd n l) {far : List Int} {x y : Int} (h : (hopsD l far x).head? = some y) : ∃ c, Joined l x y c ∧ lab far y + c = lab far x := by
  have : y ∈ hopsD l far x := List.mem_of_mem_head? h
  exact (mem_hopsD ..).1 this
theorem way_ex {n : Int} {l : List EdD} (hf : FitEd n l) {far : List Int} (h0 : ∀ i : Int, 0 ≤ i → i < n → 0 ≤ lab far i) : ∀ (m : Nat) (x : Int), 0 ≤ x → x < n → (lab far x).toNat < m → ∃ r, IsWay l far (x :: r)
  | 0, x, _, _, h => by omega
  | m + 1, x, hx, hxn, h => by
    rcases e : hopsD l far x with _ | ⟨y, t⟩
    · exact ⟨[], e⟩
    · obtain ⟨c, hj, hc⟩ := way_hop hf (far := far) (x := x) (y := y) (by rw [e]; rfl)
      have hfit := hj.fit hf
      have := h0 y hfit.2.1.1 hfit.2.1.2
      obtain ⟨r, hr⟩ := way_ex hf h0 m y hfit.2.1.1 hfit.2.1.2 (by omega)
      exact ⟨y :: r, by rw [e]; rfl, hr⟩
theorem way_fit {n : Int} {l : List EdD} (hf : FitEd n l) {far : List Int} : ∀ (r : List Int) (x : Int), 0 ≤ x → x < n → IsWay l far (x :: r) → ∀ y ∈ x :: r, 0 ≤ y ∧ y < n
  | [], x, h0, hn, _, y, hy => by
    rcases List.mem_cons.1 hy with rfl | hy
    · exact ⟨h0, hn⟩
    · cases hy
  | z :: r, x, h0, hn, h, y, hy => by
    rcases List.mem_cons.1 hy with rfl | hy
    · exact ⟨h0, hn⟩
    · obtain ⟨c, hj, -⟩ := way_hop hf h.1
      have hfit := hj.fit hf
      exact way_fit hf r z hfit.2.1.1 hfit.2.1.2 h.2 y hy
theorem way_down {n : Int} {l : List EdD} (hf : FitEd n l) {far : List Int} : ∀ (r : List Int) (x : Int), IsWay l far (x :: r) → ∀ y ∈ r, lab far y < lab far x
  | [], x, _, y, hy => by cases hy
  | z :: r, x, h, y, hy => by
    obtain ⟨c, hj, hc⟩ := way_hop hf h.1
    have hfit := hj.fit hf
    rcases List.mem_cons.1 hy with rfl | hy
    · omega
    · have := way_down hf r z h.2 y hy
      omega
theorem way_once {n : Int} {l : List EdD} (hf : FitEd n l) {far : List Int} : ∀ (r : List Int) (x : Int), IsWay l far (x :: r) → (x :: r).Pairwise fun a b => ¬ a = b
  | [], x, _ => List.pairwise_singleton _ _
  | z :: r, x, h => by
    refine List.pairwise_cons.2 ⟨fun y hy e => ?_, way_once hf r z h.2⟩
    have := way_down hf (z :: r) x h y hy
    rw [e] at this
    omega
theorem nodup_len {α : Type} [DecidableEq α] : ∀ (p q : List α), (p.Pairwise fun x y => ¬ x = y) → (∀ x ∈ p, x ∈ q) → p.length ≤ q.length
  | [], q, _, _ => Nat.zero_le _
  | x :: r, q, hn, hs => by
    have hp := List.pairwise_cons.1 hn
    have hx := hs x (List.mem_cons_self ..)
    have ih := nodup_len r (q.erase x) hp.2 fun y hy => (List.mem_erase_of_ne (fun e => hp.1 y hy e.symm)).2 (hs y (List.mem_cons_of_mem _ hy))
    rw [List.length_erase_of_mem hx] at ih
    have := List.length_pos_of_mem hx
    simp only [List.length_cons]
    omega
theorem way_len {n : Nat} {l : List EdD} (hf : FitEd n l) {far : List Int} (r : List Int) (x : Int) (h0 : 0 ≤ x) (hn : x < n) (h : IsWay l far (x :: r)) : (x :: r).length ≤ n := by
  have := nodup_len (x :: r) (iota n) (way_once hf r x h) fun y hy => (mem_iota n y).2 (way_fit hf r x h0 hn h y hy)
  rwa [iota_len] at this
theorem way_uniq {l : List EdD} {far : List Int} : ∀ (r s : List Int) (x : Int), IsWay l far (x :: r) → IsWay l far (x :: s) → r = s
  | [], [], _, _, _ => rfl
  | [], z :: s, x, h1, h2 => by
    have a : hopsD l far x = [] := h1
    have b := h2.1
    rw [a] at b
    cases b
  | y :: r, [], x, h1, h2 => by
    have a : hopsD l far x = [] := h2
    have b := h1.1
    rw [a] at b
    cases b
  | y :: r, z :: s, x, h1, h2 => by
    have a := h1.1
    rw [h2.1] at a
    cases a
    rw [way_uniq r s y h1.2 h2.2]
/-- The way ends where it is to end, and costs what is told. -/
def costs (l : List EdD) : List Int → Int
  | [] => 0
  | [_] => 0
  | x :: y :: r => costB l x y + costs l (y :: r)
def linked (l : List EdD) : List Int → Prop
  | [] => True
  | [_] => True
  | x :: y :: r => costB l x y ≠ 0 ∧ linked l (y :: r)
theorem way_costs {n : Int} {l : List EdD} (hf : FitEd n l) (hr : RiseEd l) {far : List Int} : ∀ (r : List Int) (x : Int), IsWay l far (x :: r) → linked l (x :: r) ∧ costs l (x :: r) + lab far ((x :: r).getLast (by simp)) = lab far x
  | [], x, _ => ⟨trivial, by simp [costs]⟩
  | z :: r, x, h => by
    obtain ⟨c, hj, hc⟩ := way_hop hf h.1
    have hfit := hj.fit hf
    have e := costB_of hf hr hj
    obtain ⟨h1, h2⟩ := way_costs hf hr r z h.2
    refine ⟨⟨by omega, h1⟩, ?_⟩
    rw [costs, List.getLast_cons (by simp)]
    omega
theorem hops_none {n : Nat} {l : List EdD} {b : Int} (hf : FitEd n l) (hb : 0 ≤ b ∧ b < n) (x : Int) (h0 : 0 ≤ x) (hn : x < n) (hfar : lab (fars n l b) x < farC) : hopsD l (fars n l b) x = [] ↔ x = b := by
  constructor
  · intro e
    refine Classical.byContradiction fun hne => ?_
    obtain ⟨k, c, hj, hk⟩ := fars_tight hf hb x h0 hn hne hfar
    have : k ∈ hopsD l (fars n l b) x := (mem_hopsD ..).2 ⟨c, hj, hk⟩
    rw [e] at this
    cases this
  · rintro rfl
    refine List.eq_nil_iff_forall_not_mem.2 fun k hk => ?_
    obtain ⟨c, hj, hc⟩ := (mem_hopsD ..).1 hk
    have hfit := hj.fit hf
    rw [fars_at hf hb] at hc
    have := fars_nonneg hf hb k hfit.2.1.1 hfit.2.1.2
    omega
theorem hops_far {n : Nat} {l : List EdD} {b : Int} (hn : n ≤ 12) (hf : FitEd n l) (hb : 0 ≤ b ∧ b < n) (x : Int) (hfar : lab (fars n l b) x = farC) : hopsD l (fars n l b) x = [] := by
  refine List.eq_nil_iff_forall_not_mem.2 fun k hk => ?_
  obtain ⟨c, hj, hc⟩ := (mem_hopsD ..).1 hk
  have hfit := hj.fit hf
  have := fars_low hf hb k hfit.2.1.1 hfit.2.1.2
  unfold farC at *
  omega
theorem way_last {n : Nat} {l : List EdD} {b : Int} (hf : FitEd n l) (hb : 0 ≤ b ∧ b < n) : ∀ (r : List Int) (x : Int), 0 ≤ x → x < n → lab (fars n l b) x < farC → IsWay l (fars n l b) (x :: r) → (x :: r).getLast (by simp) = b
  | [], x, h0, hn, hfar, h => (hops_none hf hb x h0 hn hfar).1 h
  | z :: r, x, h0, hn, hfar, h => by
    obtain ⟨c, hj, hc⟩ := way_hop hf h.1
    have hfit := hj.fit hf
    rw [List.getLast_cons (by simp)]
    exact way_last hf hb r z hfit.2.1.1 hfit.2.1.2 (by omega) h.2
end Go.Proofs.Ythlbmkefjjckaad

/-
  'linksAt': the iterator over what lies at a spot's edges.
-/
namespace Go.Proofs.Ythlbmkefjjckaad
open Go.RowKit
set_option linter.unusedVariables false
attribute [local go_sem] Oper.semAt_some wide_fn

set_option maxHeartbeats 1000000 in
theorem linksAt_any (W : World) (v : Value) (hv : ∃ a n c, v = .slice a n c) (a : Int) :
    Calls Try.prog 94 #[v, .int .i64 a] W fun e W' => e = .returned (.func (.func 107) #[] #[.pointer (some ⟨W.heap.size, 0, none⟩), .pointer (some ⟨W.heap.size + 1, 0, none⟩)]) ∧ W' = (W.alloc (.cells #[v] 23)).alloc (.cells #[.int .i64 a] 3) := by
  obtain ⟨a1, n1, c1, rfl⟩ := hv
  go_enter Try.func94, Try.ntmps94
  go_wp2
  go_ret
  exact ⟨rfl, rfl⟩

set_option maxRecDepth 100000 in
set_option maxHeartbeats 4000000 in
theorem linksIt_any (S : Nat → Prop) (bl ba : Nat) (v : Value) (l : List EdD) (n : Nat) (a : Int) (W0 w : World) (hn : n ≤ 12) (hf : FitEd n l) (ha : 0 ≤ a ∧ a < n) (hl : l.length ≤ 40) (hbl : S bl) (hba : S ba)
    (hcl : w.cell? ⟨bl, 0, none⟩ = some v) (hca : w.cell? ⟨ba, 0, none⟩ = some (.int .i64 a)) (hr : ReadsEd W0 v l) (hw0 : Below W0.heap.size W0 w) (hS2 : ∀ b, b < W0.heap.size → S b) :
    SeqO Try.prog 107 #[.pointer (some ⟨bl, 0, none⟩), .pointer (some ⟨ba, 0, none⟩)] (fun p : Int × Int => #[.int .i64 p.1, .int .i64 p.2]) S (linksD l a) w := by
  intro ll J Jx Mine W hW hJ hJx hM hN hY h0
  have HW0 : Hid (Below W0.heap.size W0 W) := hw0.trans (hW.mono hw0.size)
  have HM : Hid (MineOk W.heap.size J Mine) := hM
  have HNM : Hid (∀ b, S b → ¬ Mine W b) := hN
  have HY : Hid (∀ pre x W1, J pre W1 → pre ++ [x] <+: linksD l a → YieldW Try.prog ll #[.int .i64 x.1, .int .i64 x.2] W1 fun e W' => (e = .returned (.bool true) ∧ J (pre ++ [x]) W' ∧ KeptBut Mine W1 W' ∧ KeepsFrom W.heap.size W1 W') ∨ (e = .returned (.bool false) ∧ Jx (pre ++ [x]) W' ∧ KeepsFrom W.heap.size W1 W')) := hY
  have HJ : Hid (OwnFrom W.heap.size J) := hJ
  have H0 : Hid (J [] W) := h0
  obtain ⟨ao, cap, hv, hcells⟩ := hr
  have HC : Hid (l = [] ∨ ∃ g off, ao = some ⟨g, off, none⟩ ∧ g < W0.heap.size ∧ ∀ j (hj : j < l.length), EdAt W0 g (off + j * 3) l[j]) := hcells
  have HS2 : Hid (∀ b, b < W0.heap.size → S b) := hS2
  have HCA : Hid (W.cell? ⟨ba, 0, none⟩ = some (.int .i64 a)) := (hW.cell (p := ⟨ba, 0, none⟩) (World.block_lt_of_cell? w ⟨ba, 0, none⟩ hca)).trans hca
  have cl : W.cell? ⟨bl, 0, none⟩ = some (.slice ao l.length cap) := by rw [← hv]; exact (hW.cell (p := ⟨bl, 0, none⟩) (World.block_lt_of_cell? w ⟨bl, 0, none⟩ hcl)).trans hcl
  have HF : Hid (FitEd n l) := hf
  clear hW hJ hJx hY h0 hcells hS2 hf hca hcl hw0 hM hN
  refine callsIn_of_wp Try.func107 rfl trivial ?_ rfl
  simp only [Try.ntmps107, List.size_toArray, List.length_cons, List.length_nil, Nat.reduceAdd, Nat.reduceSub, Array.replicate_succ, Array.replicate_zero, List.push_toArray, List.append_toArray, List.nil_append, List.cons_append]
  gi_wp2
  gi_loopw [9] (fun i wr => ∃ k : Nat, k ≤ l.length ∧ i = .int .i64 k ∧ Hid (J (linksD (l.take k) a) wr ∧ KeptBut Mine W wr)) (fun i _ => l.length - (intOf i).toNat)
  case atStart => exact ⟨0, Nat.zero_le _, rfl, H0.out, KeptBut.refl _ _⟩
  case round =>
    obtain ⟨k, hk, rfl, HI⟩ := hrel
    by_cases hlt : k < l.length
    · have hlt' : (k : Int) < (l.length : Int) := by omega
      obtain ⟨x, hx⟩ : ∃ x, x = l[k] := ⟨_, rfl⟩
      rcases HC.out with e0 | ⟨g, off, rfl, hg, hcs⟩
      · rw [e0] at hlt; cases hlt
      have hSg : S g := HS2.out g hg
      have hc := hcs k hlt
      rw [← hx] at hc
      have kk := HI.out.2
      have hmg := HNM.out g hSg
      have c0 : wr.cell? ⟨g, off + k * 3, none⟩ = some (.int .i64 x.A) := kk.cell (p := ⟨g, off + k * 3, none⟩) ((HW0.out.cell (p := ⟨g, off + k * 3, none⟩) hg).trans hc.1) hmg
      have c1 : wr.cell? ⟨g, off + k * 3 + 1, none⟩ = some (.int .i64 x.B) := kk.cell (p := ⟨g, off + k * 3 + 1, none⟩) ((HW0.out.cell (p := ⟨g, off + k * 3 + 1, none⟩) hg).trans hc.2.1) hmg
      have c2 : wr.cell? ⟨g, off + k * 3 + 2, none⟩ = some (.int .i64 x.Cost) := kk.cell (p := ⟨g, off + k * 3 + 2, none⟩) ((HW0.out.cell (p := ⟨g, off + k * 3 + 2, none⟩) hg).trans hc.2.2) hmg
      have ca : wr.cell? ⟨ba, 0, none⟩ = some (.int .i64 a) := HI.out.2.cell (p := ⟨ba, 0, none⟩) HCA.out (HNM.out ba hba)
      have fx := HF.out l[k] (List.getElem_mem hlt)
      rw [← hx] at fx
      obtain ⟨xA, xB, xC⟩ := x
      dsimp only at c0 c1 c2 fx hx
      have ba1 : 0 ≤ xA ∧ xA ≤ 12 := by omega
      have ba2 : 0 ≤ xB ∧ xB ≤ 12 := by omega
      have ba3 : 0 ≤ a ∧ a ≤ 12 := by omega
      have hlk : (wr.alloc (.cells #[.int .i64 xA, .int .i64 xB, .int .i64 xC] 84)).cell? ⟨ba, 0, none⟩ = some (.int .i64 a) := (World.cell?_alloc_lt _ _ _ (World.block_lt_of_cell? wr ⟨ba, 0, none⟩ ca)).trans ca
      have HT : Hid (linksD (l.take (k + 1)) a = linksD (l.take k) a ++ if xA = a ∨ xB = a then [(xA + xB - a, xC)] else []) := by
        have := linksD_take l a k hlt
        rw [← hx] at this
        exact this
      have HP : Hid (linksD (l.take (k + 1)) a <+: linksD l a) := linksD_pre l a (k + 1)
      have HJ1 : Hid (J (linksD (l.take k) a) (wr.alloc (.cells #[.int .i64 xA, .int .i64 xB, .int .i64 xC] 84))) := HJ.out.alloc _ HI.out.1
      have HK1 : Hid (KeptBut Mine W (wr.alloc (.cells #[.int .i64 xA, .int .i64 xB, .int .i64 xC] 84))) := HI.out.2.trans (KeptBut.below HM.out HI.out.1 HI.out.2.1 ((Below.refl _ wr).alloc (Nat.le_refl _) _))
      clear kk hc hcs fx hx HC HI ca
      by_cases h1 : xA = a
      · have HT1 : Hid (linksD (l.take (k + 1)) a = linksD (l.take k) a ++ [(xB, xC)]) := by
          have := HT.out
          rw [if_pos (.inl h1), show xA + xB - a = xB by omega] at this
          exact this
        clear HT
        subst h1
        have e1 : xA + xB - xA = xB := by omega
        obtain ⟨fn, tmps, assign, body, hy, hR⟩ := HY.out (linksD (l.take k) xA) (xB, xC) (wr.alloc (.cells #[.int .i64 xA, .int .i64 xB, .int .i64 xC] 84)) HJ1.out (by rw [← HT1.out]; exact HP.out)
        dsimp only at hy
        have HR : Hid (∀ m, RoundIn Fence.wide m Try.prog ll fn tmps assign body (wr.alloc (.cells #[.int .i64 xA, .int .i64 xB, .int .i64 xC] 84)) fun e W' => (e = .returned (.bool true) ∧ J (linksD (l.take (k + 1)) xA) W' ∧ KeptBut Mine (wr.alloc (.cells #[.int .i64 xA, .int .i64 xB, .int .i64 xC] 84)) W' ∧ KeepsFrom W.heap.size (wr.alloc (.cells #[.int .i64 xA, .int .i64 xB, .int .i64 xC] 84)) W') ∨ (e = .returned (.bool false) ∧ Jx (linksD (l.take k) xA ++ [(xB, xC)]) W' ∧ KeepsFrom W.heap.size (wr.alloc (.cells #[.int .i64 xA, .int .i64 xB, .int .i64 xC] 84)) W')) := by rw [HT1.out]; exact hR
        clear hR HY HJ H0 HJ1
        gi_wp2
        refine (HR.out _).mono ?_
        rintro e W3 (⟨rfl, hj3, hk3, -⟩ | ⟨rfl, hx3, -⟩)
        · have HF : Hid (J (linksD (l.take (k + 1)) xA) W3 ∧ KeptBut Mine W W3) := ⟨hj3, HK1.out.trans hk3⟩
          clear hj3 hk3 HR hy
          gi_wp2
          go_roundw
          case rel => exact ⟨k + 1, by omega, by go_num, HF.out⟩
          case measure => simp [intOf]; omega
        · have HF : Hid (Jx (linksD (l.take k) xA ++ [(xB, xC)]) W3) := hx3
          clear hx3 HR hy
          gi_wp2
          refine bodyPost_ret (results_none rfl _ _ _) rfl ?_
          exact ⟨⟨_, rfl⟩, .inr ⟨_, HF.out⟩⟩
      · by_cases h2 : xB = a
        · have HT1 : Hid (linksD (l.take (k + 1)) a = linksD (l.take k) a ++ [(xA, xC)]) := by
            have := HT.out
            rw [if_pos (.inr h2), show xA + xB - a = xA by omega] at this
            exact this
          clear HT
          subst h2
          have h1' : (xA == xB) = false := by simpa using h1
          obtain ⟨fn, tmps, assign, body, hy, hR⟩ := HY.out (linksD (l.take k) xB) (xA, xC) (wr.alloc (.cells #[.int .i64 xA, .int .i64 xB, .int .i64 xC] 84)) HJ1.out (by rw [← HT1.out]; exact HP.out)
          dsimp only at hy
          have HR : Hid (∀ m, RoundIn Fence.wide m Try.prog ll fn tmps assign body (wr.alloc (.cells #[.int .i64 xA, .int .i64 xB, .int .i64 xC] 84)) fun e W' => (e = .returned (.bool true) ∧ J (linksD (l.take (k + 1)) xB) W' ∧ KeptBut Mine (wr.alloc (.cells #[.int .i64 xA, .int .i64 xB, .int .i64 xC] 84)) W' ∧ KeepsFrom W.heap.size (wr.alloc (.cells #[.int .i64 xA, .int .i64 xB, .int .i64 xC] 84)) W') ∨ (e = .returned (.bool false) ∧ Jx (linksD (l.take k) xB ++ [(xA, xC)]) W' ∧ KeepsFrom W.heap.size (wr.alloc (.cells #[.int .i64 xA, .int .i64 xB, .int .i64 xC] 84)) W')) := by rw [HT1.out]; exact hR
          clear hR HY HJ H0 HJ1
          gi_wp2
          refine (HR.out _).mono ?_
          rintro e W3 (⟨rfl, hj3, hk3, -⟩ | ⟨rfl, hx3, -⟩)
          · have HF : Hid (J (linksD (l.take (k + 1)) xB) W3 ∧ KeptBut Mine W W3) := ⟨hj3, HK1.out.trans hk3⟩
            clear hj3 hk3 HR hy
            gi_wp2
            go_roundw
            case rel => exact ⟨k + 1, by omega, by go_num, HF.out⟩
            case measure => simp [intOf]; omega
          · have HF : Hid (Jx (linksD (l.take k) xB ++ [(xA, xC)]) W3) := hx3
            clear hx3 HR hy
            gi_wp2
            refine bodyPost_ret (results_none rfl _ _ _) rfl ?_
            exact ⟨⟨_, rfl⟩, .inr ⟨_, HF.out⟩⟩
        · have HT1 : Hid (linksD (l.take (k + 1)) a = linksD (l.take k) a) := by
            have := HT.out
            rw [if_neg (by omega), List.append_nil] at this
            exact this
          have HF : Hid (J (linksD (l.take (k + 1)) a) (wr.alloc (.cells #[.int .i64 xA, .int .i64 xB, .int .i64 xC] 84))) := by
            show J _ _
            rw [HT1.out]
            exact HJ1.out
          have h1' : (xA == a) = false := by simpa using h1
          have h2' : (xB == a) = false := by simpa using h2
          clear HT HT1 HY HJ H0 HJ1
          gi_wp2
          go_roundw
          case rel => exact ⟨k + 1, by omega, by go_num, HF.out, HK1.out⟩
          case measure => simp [intOf]; omega
    · have e : k = l.length := by omega
      have HE : Hid (J (linksD l a) wr) := by
        have := HI.out.1
        rw [e, List.take_length] at this
        exact this
      clear HI HY HJ H0
      subst e
      gi_wp2
      go_end0
      exact ⟨⟨_, rfl⟩, .inl HE.out⟩
end Go.Proofs.Ythlbmkefjjckaad

/-
  'copyNums': numbers copied.
-/
namespace Go.Proofs.Ythlbmkefjjckaad
open Go.RowKit

set_option maxRecDepth 100000 in
set_option maxHeartbeats 1000000 in
theorem copyNumsG_any (W : World) (B : Nat) (v : Value) (zs : List Int) (h : Own W B v zs) (hl : zs.length ≤ 1048576) :
    Calls Try.prog 101 #[v] W fun e W' => ∃ v', e = .returned v' ∧ Own W' W.heap.size v' zs ∧ Below W.heap.size W W' := by
  have HA : Hid (∀ ty, ∃ v' w', (Builtin.append_ #[26, 26] ty #[.slice none 0 0, v]).run Try.prog W = .ok v' w' ∧ Grown W W.heap.size 3 1 (.slice none 0 0) zs.length (zs.map (Value.int .i64)) v' w') := fun ty => by
    have := run_appI W W.heap.size (.slice none 0 0) [] (Own.nil _ _) v zs (Src.row h) (by simp; omega) (Nat.le_refl _) ty
    simpa using this
  obtain ⟨a1, c1, rfl⟩ := h.shape
  clear h
  go_enter Try.func101, Try.ntmps101
  go_wp2_with (at_builtin; refine list_app (by rfl) (.const (.slice none 0 0)) (.tmp 3) 26 (by rfl) (.slice none 0 0) (.slice a1 zs.length c1) (by rfl) (by rfl) _ HA.out ?_; intro v5 w5 hg5; have HF : Hid (Own w5 W.heap.size v5 zs ∧ Below W.heap.size W w5) := ⟨hg5.own, hg5.below⟩; clear hg5)
  go_ret
  exact ⟨_, rfl, HF.out.1, HF.out.2⟩

/-- Cells of numbers that are one's own. -/
theorem own_cellG {W : World} {B g cap n : Nat} {zs : List Int} (h : Own W B (.slice (some ⟨g, 0, none⟩) n cap) zs) (hn : n = zs.length) (j : Nat) (hj : j < zs.length) : W.cell? ⟨g, j, none⟩ = some (.int .i64 zs[j]) := by
  subst hn
  rw [World.ownsRow.cellAt h j (by omega), List.getElem?_map, List.getElem?_eq_getElem hj]
  rfl
theorem own_frozenG {W : World} {B g cap n : Nat} {zs : List Int} (h : Own W B (.slice (some ⟨g, 0, none⟩) n cap) zs) (hn : n = zs.length) (j : Nat) : W.frozen? ⟨g, j, none⟩ = false := by
  subst hn
  exact World.ownsRow.frozenAt h j
end Go.Proofs.Ythlbmkefjjckaad
