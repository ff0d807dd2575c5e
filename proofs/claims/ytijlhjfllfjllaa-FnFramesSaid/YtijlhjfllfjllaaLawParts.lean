/-
  Lists of parts, as the laws weigh, copy and compare them: 'szPartS', 'toPartS', 'eqPartS'.
-/
import Derived.Test.YtijlhjfllfjllaaParts
namespace Go.Proofs.Ytijlhjfllfjllaa
open Go.RowKit

theorem infoP : (Try.prog.info? 74).map (fun i => (i.zero, i.size, i.bytes)) = some (some (.agg #[.int .i64 0, .string ⟨#[]⟩, .slice none 0 0]), 3, 48) := by kernel_rfl

theorem owns_below {W W' : World} {B e s n : Nat} {v : Value} {xs : List Value} (h : W.ownsRow B e s v n xs) (hb : Below W.heap.size W W') : W'.ownsRow B e s v n xs := by
  refine ⟨h.1, ?_⟩
  rcases h.2 with hn | ⟨g, cap, cur, hv, h1, hg, hrest⟩
  · exact .inl hn
  · exact .inr ⟨g, cap, cur, hv, h1, (hb.block g (Array.getElem?_eq_some_iff.1 hg).1).trans hg, hrest⟩

/-- Both bounds that a measure gives. -/
theorem szP_fit (t : ByteArray) (zs : List Int) (left : Int) (h1 : left ≤ 1048576) (h : ¬ szP t zs left < 0) : (t.size ≤ 1048576 ∧ zs.length ≤ 1048576) ∧ 0 ≤ szP t zs left ∧ szP t zs left ≤ left := by
  unfold szP at *
  by_cases hle : (t.size : Int) + (zs.length : Int) ≤ left
  · rw [if_pos hle]; exact ⟨⟨by omega, by omega⟩, by omega, by omega⟩
  · rw [if_neg hle] at h; omega

/-- What a measure that is left says. -/
def SzOk (ps : List PD) (r : Int) : Prop := ¬ r < 0 → ps.length ≤ 1048576 ∧ ∀ j (hj : j < ps.length), Fit ps[j]
theorem SzOk.neg (ps : List PD) : SzOk ps (-1) := fun h => absurd (by omega) h

/-- What has been copied: the first k parts, each with numbers of its own above block H. -/
def Copied (W : World) (H : Nat) (cs : List Value) (ps : List PD) (k : Nat) : Prop :=
  ∀ j (hj : j < ps.length), j < k → ∃ x, cs[j * 3]? = some (.int .i64 ps[j].k) ∧ cs[j * 3 + 1]? = some (.string ps[j].t) ∧ cs[j * 3 + 2]? = some x ∧ Own W (H + 1) x ps[j].zs

theorem copied_next {W W1 : World} {H : Nat} {cs : List Value} {ps : List PD} {k : Nat} (h : Copied W H cs ps k) (hlt : k < ps.length) (hcs : cs.length = ps.length * 3) (hb : Below W.heap.size W W1) (x : Value) (hx : Own W1 (H + 1) x ps[k].zs) (u0 u1 u2 : Value)
    (e0 : u0 = .int .i64 ps[k].k) (e1 : u1 = .string ps[k].t) (e2 : u2 = x) :
    Copied (((W1.setCell ⟨H, k * 3, none⟩ u0).setCell ⟨H, k * 3 + 1, none⟩ u1).setCell ⟨H, k * 3 + 2, none⟩ u2) H (((cs.set (k * 3) u0).set (k * 3 + 1) u1).set (k * 3 + 2) u2) ps (k + 1) := by
  intro j hj hjk
  have st : ∀ {y zs}, Own W1 (H + 1) y zs → Own (((W1.setCell ⟨H, k * 3, none⟩ u0).setCell ⟨H, k * 3 + 1, none⟩ u1).setCell ⟨H, k * 3 + 2, none⟩ u2) (H + 1) y zs := fun ho => ((ho.setCell (Nat.lt_succ_self H) _).setCell (Nat.lt_succ_self H) _).setCell (Nat.lt_succ_self H) _
  by_cases e : j = k
  · subst e
    refine ⟨x, ?_, ?_, ?_, st hx⟩
    · rw [List.getElem?_set_ne (by omega), List.getElem?_set_ne (by omega), List.getElem?_set_self (by omega), e0]
    · rw [List.getElem?_set_ne (by omega), List.getElem?_set_self (by rw [List.length_set]; omega), e1]
    · rw [List.getElem?_set_self (by rw [List.length_set, List.length_set]; omega), e2]
  · obtain ⟨y, c0, c1, c2, ho⟩ := h j hj (by omega)
    refine ⟨y, ?_, ?_, ?_, st (ho.below hb)⟩
    · rw [List.getElem?_set_ne (by omega), List.getElem?_set_ne (by omega), List.getElem?_set_ne (by omega), c0]
    · rw [List.getElem?_set_ne (by omega), List.getElem?_set_ne (by omega), List.getElem?_set_ne (by omega), c1]
    · rw [List.getElem?_set_ne (by omega), List.getElem?_set_ne (by omega), List.getElem?_set_ne (by omega), c2]

theorem copied_reads {W : World} {H B cap : Nat} {cs : List Value} {ps : List PD} (h : Copied W H cs ps ps.length) (ho : W.ownsRow B 74 3 (.slice (some ⟨H, 0, none⟩) ps.length cap) ps.length cs) (hH : H < W.heap.size) :
    ReadsP W (.slice (some ⟨H, 0, none⟩) ps.length cap) ps := by
  refine ⟨_, _, rfl, .inr ⟨H, 0, rfl, hH, fun j hj => ?_⟩⟩
  obtain ⟨x, c0, c1, c2, hx⟩ := h j hj hj
  rw [Nat.zero_add]
  exact ⟨x, by rw [World.ownsRow.cellAt ho _ (by omega), c0], by rw [World.ownsRow.cellAt ho _ (by omega), c1], by rw [World.ownsRow.cellAt ho _ (by omega), c2], hx.reads⟩

theorem make_parts (n : Nat) (hn : n ≤ 1048576) (w : World) : ∃ (W1 : World) (cs : List Value),
    (Instr.makeSlice 23 (.int .i64 (n : Int)) (.int .i64 (n : Int))).run Try.prog w = .ok (.slice (some ⟨w.heap.size, 0, none⟩) n n) W1 ∧
    cs.length = n * 3 ∧ W1.ownsRow w.heap.size 74 3 (.slice (some ⟨w.heap.size, 0, none⟩) n n) n cs ∧ Below w.heap.size w W1 ∧ w.heap.size < W1.heap.size := by
  obtain ⟨i0, hi, hz0, hz1, hz2⟩ := info_parts infoP
  obtain ⟨w', hr, ho, hg⟩ := run_make_full (P := Try.prog) w w.heap.size 23 74 i0 _ 3 Try.underlying23 hi hz0 hz1 .i64 .i64 n (by rw [hz2]; omega) (by unfold maxLen; omega) (Nat.le_refl _)
  exact ⟨w', _, hr, ho.1, ho, (Below.refl _ w).grown hg (Nat.le_refl _) (fun k hk => by cases hk), (World.ownsRow.lt ho w.heap.size rfl).2⟩

end Go.Proofs.Ytijlhjfllfjllaa
