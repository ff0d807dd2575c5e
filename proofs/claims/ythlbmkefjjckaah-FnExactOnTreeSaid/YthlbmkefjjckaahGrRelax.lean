/-
  'relaxOnce' of the program.
-/
import Derived.Test.YthlbmkefjjckaahGrLinks
import Derived.Test.YthlbmkefjjckaahGrCopy
namespace Go.Proofs.Ythlbmkefjjckaah
open Go.RowKit
set_option linter.unusedVariables false
attribute [local go_sem] Oper.semAt_some wide_fn

/-- Relaxed are those ahead of k. -/
def relK (l : List EdD) (far : List Int) (k : Nat) : List Int := (iota far.length).map fun i : Int => if i < k then relAt l far i else lab far i
theorem relK_len (l : List EdD) (far : List Int) (k : Nat) : (relK l far k).length = far.length := by simp [relK, iota_len]
theorem lab_relK (l : List EdD) (far : List Int) (k : Nat) (i : Int) (h0 : 0 ≤ i) (h : i < far.length) : lab (relK l far k) i = if i < k then relAt l far i else lab far i := by
  unfold relK
  rw [lab_map _ _ _ h0 (by rw [iota_len]; exact h), lab_iota _ _ h0 h]
theorem relK_zero (l : List EdD) (far : List Int) : relK l far 0 = far := lab_ext (relK_len ..) fun i h0 h => by
  rw [relK_len] at h
  rw [lab_relK _ _ _ _ h0 h, if_neg (by omega)]
theorem relK_all (l : List EdD) (far : List Int) : relK l far far.length = relD l far := lab_ext (by rw [relK_len, relD_len]) fun i h0 h => by
  rw [relK_len] at h
  rw [lab_relK _ _ _ _ h0 h, if_pos h, lab_relD _ _ _ h0 h]
/-- What stands at k when so many have come. -/
def relM (far : List Int) (k : Nat) (pre : List (Int × Int)) : Int := pre.foldl (fun m p => min m (lab far p.1 + p.2)) (lab far k)
def relKM (l : List EdD) (far : List Int) (k : Nat) (pre : List (Int × Int)) : List Int := (relK l far k).set k (relM far k pre)
theorem relM_snoc (far : List Int) (k : Nat) (pre : List (Int × Int)) (p : Int × Int) : relM far k (pre ++ [p]) = min (relM far k pre) (lab far p.1 + p.2) := by simp [relM, List.foldl_append]
theorem relKM_len (l : List EdD) (far : List Int) (k : Nat) (pre : List (Int × Int)) : (relKM l far k pre).length = far.length := by simp [relKM, relK_len]
theorem relKM_nil (l : List EdD) (far : List Int) (k : Nat) (hk : k < far.length) : relKM l far k [] = relK l far k := lab_ext (by rw [relKM_len, relK_len]) fun i h0 h => by
  rw [relKM_len] at h
  unfold relKM
  rw [lab_set _ _ _ _ h0 (by rw [relK_len]; exact hk)]
  split
  · next e => rw [e, lab_relK _ _ _ _ (by omega) (by omega), if_neg (by omega)]; rfl
  · rfl
theorem relKM_all (l : List EdD) (far : List Int) (k : Nat) (hk : k < far.length) : relKM l far k (linksD l k) = relK l far (k + 1) := lab_ext (by rw [relKM_len, relK_len]) fun i h0 h => by
  rw [relKM_len] at h
  unfold relKM
  rw [lab_set _ _ _ _ h0 (by rw [relK_len]; exact hk), lab_relK _ _ _ _ h0 h, lab_relK _ _ _ _ h0 h]
  by_cases e : i = k
  · rw [if_pos e, if_pos (by omega), e]; rfl
  · rw [if_neg e]
    by_cases e2 : i < k
    · rw [if_pos e2, if_pos (by omega)]
    · rw [if_neg e2, if_neg (by omega)]
theorem relKM_set (l : List EdD) (far : List Int) (k : Nat) (pre : List (Int × Int)) (p : Int × Int) (m : Int) (h : m = min (relM far k pre) (lab far p.1 + p.2)) : (relKM l far k pre).set k m = relKM l far k (pre ++ [p]) := by
  unfold relKM
  rw [List.set_set, relM_snoc, h]
theorem relKM_at (l : List EdD) (far : List Int) (k : Nat) (pre : List (Int × Int)) (hk : k < far.length) : (relKM l far k pre)[k]'(by rw [relKM_len]; exact hk) = relM far k pre := by
  unfold relKM
  rw [List.getElem_set_self]
theorem relM_low (far : List Int) (k : Nat) (h : ∀ i : Int, 0 ≤ i → i < far.length → 0 ≤ lab far i ∧ lab far i ≤ farC) (hk : k < far.length) : ∀ (pre : List (Int × Int)), (∀ p ∈ pre, (0 ≤ p.1 ∧ p.1 < far.length) ∧ 0 ≤ p.2) → 0 ≤ relM far k pre ∧ relM far k pre ≤ farC := by
  intro pre
  have key : ∀ (pre : List (Int × Int)) (z : Int), 0 ≤ z ∧ z ≤ farC → (∀ p ∈ pre, (0 ≤ p.1 ∧ p.1 < far.length) ∧ 0 ≤ p.2) → 0 ≤ pre.foldl (fun m p => min m (lab far p.1 + p.2)) z ∧ pre.foldl (fun m p => min m (lab far p.1 + p.2)) z ≤ farC := by
    intro pre
    induction pre with
    | nil => intro z hz _; exact hz
    | cons p r ih =>
      intro z hz hp
      have h1 := hp p (List.mem_cons_self ..)
      have h2 := h p.1 h1.1.1 h1.1.2
      exact ih (min z (lab far p.1 + p.2)) (by omega) fun q hq => hp q (List.mem_cons_of_mem _ hq)
  exact key pre _ (h k (by omega) (by omega))

theorem own_new {W w1 : World} {far : List Int} {u vr : Value} {t : TypeId} (ho : Own w1 (W.alloc (.cells #[u] t)).heap.size vr far) (hb : Below (W.alloc (.cells #[u] t)).heap.size (W.alloc (.cells #[u] t)) w1) (hn : 1 ≤ far.length) :
    ∃ g vcap, vr = .slice (some ⟨g, 0, none⟩) far.length vcap ∧ Hid (W.heap.size < g ∧ g < w1.heap.size ∧ Own w1 (W.heap.size + 1) (.slice (some ⟨g, 0, none⟩) far.length vcap) far ∧ Below W.heap.size W w1 ∧ Boxed w1 W.heap.size t u) := by
  have ho' := ho
  rcases ho.2 with ⟨-, h0⟩ | ⟨g, vcap, vcur, rfl, hgB, hgc, -⟩
  · omega
  rw [World.size_alloc] at hgB ho hb
  refine ⟨g, vcap, rfl, by omega, (Array.getElem?_eq_some_iff.1 hgc).1, ho, ((Below.refl _ W).alloc (Nat.le_refl _) _).trans (hb.mono (by omega)), ?_⟩
  exact (hb.block _ (by omega)).trans (Boxed.new W t u)

/-- What lies about when k spots are relaxed and the loops of ds are behind. -/
def RelI (W : World) (b5 g vcap : Nat) (l : List EdD) (far : List Int) (u : Value) (k : Nat) (ds : List Nat) (w : World) : Prop :=
  Own w (W.heap.size + 1) (.slice (some ⟨g, 0, none⟩) far.length vcap) (relK l far k) ∧ Boxed w W.heap.size 22 u ∧ Boxed w b5 22 (.slice (some ⟨g, 0, none⟩) far.length vcap) ∧ Since W.heap.size W w ∧ Marks W.heap.size ds w

end Go.Proofs.Ythlbmkefjjckaah
