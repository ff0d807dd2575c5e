/-
  'walk': the iterator over the least one of the ways of least cost.
-/
import Derived.Test.YthlbmkefjjckaadGrFirst
namespace Go.Proofs.Ythlbmkefjjckaad
open Go.RowKit
set_option linter.unusedVariables false
attribute [local go_sem] Oper.semAt_some wide_fn

theorem KeptBut.same {Mine : World → Nat → Prop} {A B : World} (h : KeptBut Mine A B) {p : Addr} {u : Value} (hc : A.cell? p = some u) (hm : ¬ Mine A p.block) : B.heap[p.block]? = A.heap[p.block]? := by
  obtain ⟨o, ho, hcs⟩ := cells_of_cell hc
  exact (h.2 p.block o ho hcs hm).1.trans ho.symm
theorem readsEd_kept {Mine : World → Nat → Prop} {A B : World} {v : Value} {l : List EdD} (h : KeptBut Mine A B) (hr : ReadsEd A v l) (hm : ∀ b, b < A.heap.size → ∀ a n c, v = .slice (some a) n c → a.block = b → ¬ Mine A b) : ReadsEd B v l := by
  obtain ⟨a, cap, hv, hc⟩ := hr
  refine ⟨a, cap, hv, hc.imp id ?_⟩
  rintro ⟨g, off, ha, hg, hcell⟩
  have hn := hm g hg ⟨g, off, none⟩ l.length cap (by rw [hv, ha]) rfl
  exact ⟨g, off, ha, Nat.lt_of_lt_of_le hg h.1, fun j hj => ⟨h.cell (hcell j hj).1 hn, h.cell (hcell j hj).2.1 hn, h.cell (hcell j hj).2.2 hn⟩⟩
theorem own_kept {Mine : World → Nat → Prop} {A B : World} {B0 g n cap : Nat} {zs : List Int} (h : KeptBut Mine A B) (hu : Own A B0 (.slice (some ⟨g, 0, none⟩) n cap) zs) (hm : ¬ Mine A g) (hn : n = zs.length) (hp : 0 < n) : Own B B0 (.slice (some ⟨g, 0, none⟩) n cap) zs :=
  rowSame hu fun k hk => by
    cases hk
    exact h.same (p := ⟨g, 0, none⟩) (own_cellG hu hn 0 (by omega)) hm
theorem getD_atW (zs : List Int) (j : Nat) (h : j < zs.length) : zs.getD j 0 = zs[j] := by simp [List.getD_eq_getElem?_getD, h]
theorem way_step {l : List EdD} {far : List Int} : ∀ (ws : List Int), IsWay l far ws → ∀ k, k < ws.length → (k + 1 < ws.length → (hopsD l far (ws.getD k 0)).head? = some (ws.getD (k + 1) 0)) ∧ (k + 1 = ws.length → hopsD l far (ws.getD k 0) = [])
  | [], h, k, hk => by cases hk
  | [x], h, k, hk => by
    have : k = 0 := by simp at hk; omega
    subst this
    exact ⟨fun q => by simp at q, fun _ => h⟩
  | x :: y :: r, h, 0, hk => ⟨fun _ => h.1, fun q => by simp at q⟩
  | x :: y :: r, h, k + 1, hk => by
    have := way_step (y :: r) h.2 k (by simpa using hk)
    exact ⟨fun q => this.1 (by simpa using q), fun q => this.2 (by simpa using q)⟩
/-- How much of the way is left, by what lies in the slice. -/
def leftW (far : List Int) (v : Value) (w : World) : Nat :=
  match v with
  | .slice (some p) (_ + 1) _ => match w.cell? p with
    | some (.int _ y) => (lab far y).toNat + 1
    | _ => 0
  | _ => 0
theorem leftW_some {far : List Int} {g n cp : Nat} {w : World} {y : Int} (hn : 1 ≤ n) (h : w.cell? ⟨g, 0, none⟩ = some (.int .i64 y)) : leftW far (.slice (some ⟨g, 0, none⟩) n cp) w = (lab far y).toNat + 1 := by
  obtain ⟨m, rfl⟩ : ∃ m, n = m + 1 := ⟨n - 1, by omega⟩
  simp only [leftW, h]
theorem leftW_none {far : List Int} {a : Option Addr} {cp : Nat} {w : World} : leftW far (.slice a 0 cp) w = 0 := by
  cases a <;> rfl
/-- What the slice holds when k have come. -/
def WalkI (Mine : World → Nat → Prop) (ws : List Int) (k : Nat) (a : Option Addr) (n : Nat) (w : World) : Prop :=
  (k < ws.length → 1 ≤ n ∧ ∃ g, a = some ⟨g, 0, none⟩ ∧ w.cell? ⟨g, 0, none⟩ = some (.int .i64 (ws.getD k 0)) ∧ ¬ Mine w g) ∧ (k = ws.length → n = 0)
theorem walkI_next {Mine : World → Nat → Prop} {ws : List Int} {k : Nat} {hs : List Int} {B : Nat} {v : Value} {w : World} (h : Own w B v hs) (hB : ∀ b, B ≤ b → ¬ Mine w b) (h1 : k < ws.length → hs.head? = some (ws.getD k 0)) (h2 : k = ws.length → hs = []) :
    ∃ a c, v = .slice a hs.length c ∧ WalkI Mine ws k a hs.length w := by
  obtain ⟨a, c, rfl⟩ := h.shape
  refine ⟨a, c, rfl, fun hk => ?_, fun hk => by rw [h2 hk]; rfl⟩
  have hh := h1 hk
  obtain ⟨y, t, rfl⟩ : ∃ y t, hs = y :: t := by cases hs with
    | nil => cases hh
    | cons y t => exact ⟨y, t, rfl⟩
  rcases h.2 with ⟨hv, h0⟩ | ⟨g, cap, cur, hv, hg, -⟩
  · simp at h0
  · cases hv
    refine ⟨by simp, g, rfl, ?_, hB g hg⟩
    have := own_cellG h rfl 0 (by simp)
    rw [this]
    cases hh
    rfl

end Go.Proofs.Ythlbmkefjjckaad
