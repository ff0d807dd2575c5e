/-
  Lists of summaries, as the laws compare, mark and read marks of them.
-/
import Derived.Test.YtkpdiojomgiocacLsRowSm
import Derived.Test.YtkpdiojomgiocacLsSmLaw
import Derived.Test.YtkpdiojomgiocacRowLaw0
namespace Go.Proofs.Ytkpdiojomgiocac
open Go.RowKit
set_option linter.unusedVariables false

/-- The list of summaries ss lies behind the slice v. -/
def SmsAt (W : World) (g : Nat) (ss : List SmD) : Prop :=
  ∀ j (hj : j < ss.length), ∃ x y, W.cell? ⟨g, j * 3, none⟩ = some (.int .i64 ss[j].Lo) ∧ W.cell? ⟨g, j * 3 + 1, none⟩ = some (.int .i64 ss[j].Hi) ∧ W.cell? ⟨g, j * 3 + 2, none⟩ = some (.slice x ss[j].Hs.length y) ∧ ReadsHv W (.slice x ss[j].Hs.length y) ss[j].Hs
def ReadsSms (W : World) (v : Value) (ss : List SmD) : Prop := ∃ a c, v = .slice a ss.length c ∧ (ss = [] ∨ ∃ g, a = some ⟨g, 0, none⟩ ∧ g < W.heap.size ∧ SmsAt W g ss)
theorem SmsAt.below {W W' : World} {g : Nat} {ss : List SmD} (h : SmsAt W g ss) (hg : g < W.heap.size) (hb : Below W.heap.size W W') : SmsAt W' g ss := fun j hj => by
  obtain ⟨x, y, c0, c1, c2, hr⟩ := h j hj
  exact ⟨x, y, (hb.cell (p := ⟨g, j * 3, none⟩) hg).trans c0, (hb.cell (p := ⟨g, j * 3 + 1, none⟩) hg).trans c1, (hb.cell (p := ⟨g, j * 3 + 2, none⟩) hg).trans c2, hr.below hb⟩
/-- The slice v owns the summaries ss. -/
def OwnSms (W : World) (B : Nat) (v : Value) (ss : List SmD) : Prop := ∃ es, OwnSm W B v es ∧ es.map SmE.s = ss
theorem OwnSms.below {W W' : World} {B : Nat} {v : Value} {ss : List SmD} (h : OwnSms W B v ss) (hb : Below W.heap.size W W') : OwnSms W' B v ss := by
  obtain ⟨es, ho, e⟩ := h
  exact ⟨es, ho.below hb, e⟩
theorem OwnSms.mono {W : World} {B B' : Nat} {v : Value} {ss : List SmD} (h : OwnSms W B v ss) (hB : B' ≤ B) : OwnSms W B' v ss := by
  obtain ⟨es, ho, e⟩ := h
  exact ⟨es, ho.mono hB, e⟩
theorem OwnSms.shape {W : World} {B : Nat} {v : Value} {ss : List SmD} (h : OwnSms W B v ss) : ∃ a cap, v = .slice a ss.length cap := by
  obtain ⟨es, ho, rfl⟩ := h
  obtain ⟨a, c, e⟩ := ho.shape
  exact ⟨a, c, by rw [e, List.length_map]⟩
theorem OwnSms.reads {W : World} {B : Nat} {v : Value} {ss : List SmD} (h : OwnSms W B v ss) : ReadsSms W v ss := by
  obtain ⟨es, ho, rfl⟩ := h
  obtain ⟨a, c, rfl⟩ := ho.shape
  refine ⟨a, c, by rw [List.length_map], ?_⟩
  by_cases hz : es = []
  · exact .inl (by rw [hz]; rfl)
  · obtain ⟨-, g, rfl, hg, hc⟩ := ho.at hz
    refine .inr ⟨g, rfl, hg, fun j hj => ?_⟩
    have hj' : j < es.length := by simpa using hj
    obtain ⟨c0, c1, c2⟩ := hc j hj'
    have hi := ho.inner j hj'
    obtain ⟨x, y, e⟩ := hi.shape
    rw [e] at c2 hi
    simp only [List.getElem_map]
    exact ⟨x, y, c0, c1, c2, hi.reads⟩
/-- A row from before is written into: what lies from B on stays. -/
theorem OwnSms.grow {W W' : World} {B : Nat} {v : Value} {ss : List SmD} {row : Option Nat} (h : OwnSms W B v ss) (hg : W.grownBy W' row) (hne : ∀ k, row = some k → k < B) : OwnSms W' B v ss := by
  obtain ⟨es, ho, e⟩ := h
  refine ⟨es, ⟨rowGrow0 ho.row hg fun k hk hk2 => ?_, fun j hj => rowGrow0 (ho.inner j hj) hg fun k hk hk2 => ?_, ho.apart⟩, e⟩
  · have := (World.ownsRow.lt ho.row k hk2).1
    have := hne k hk
    omega
  · have := (World.ownsRow.lt (ho.inner j hj) k hk2).1
    have := hne k hk
    omega

/-- Summaries with marks from k on. -/
def marksSm : Nat → List SmD → List SmD
  | _, [] => []
  | k, s :: ss => ⟨(k : Int), (k : Int) + 1, marksHv (k + 2) s.Hs.length⟩ :: marksSm (k + 2 + 2 * s.Hs.length) ss
def endSm : Nat → List SmD → Nat
  | k, [] => k
  | k, s :: ss => endSm (k + 2 + 2 * s.Hs.length) ss
theorem marksSm_len : ∀ (k : Nat) (ss : List SmD), (marksSm k ss).length = ss.length
  | _, [] => rfl
  | k, s :: ss => by simp only [marksSm, List.length_cons, marksSm_len]
theorem marksSm_app : ∀ (k : Nat) (a b : List SmD), marksSm k (a ++ b) = marksSm k a ++ marksSm (endSm k a) b
  | _, [], _ => rfl
  | k, s :: a, b => by simp only [List.cons_append, marksSm, endSm, marksSm_app]
theorem endSm_app : ∀ (k : Nat) (a b : List SmD), endSm k (a ++ b) = endSm (endSm k a) b
  | _, [], _ => rfl
  | k, s :: a, b => by simp only [List.cons_append, endSm, endSm_app]
theorem endSm_le : ∀ (k : Nat) (ss : List SmD), k + 2 * ss.length ≤ endSm k ss
  | _, [] => Nat.le_refl _
  | k, s :: ss => by have := endSm_le (k + 2 + 2 * s.Hs.length) ss; simp only [endSm, List.length_cons]; omega
theorem endSm_bound : ∀ (k m : Nat) (ss : List SmD), (∀ s ∈ ss, s.Hs.length ≤ m) → endSm k ss ≤ k + ss.length * (2 + 2 * m)
  | _, _, [], _ => by simp [endSm]
  | k, m, s :: ss, h => by
    have h1 := h s (by simp)
    have h2 := endSm_bound (k + 2 + 2 * s.Hs.length) m ss (fun x hx => h x (by simp [hx]))
    simp only [endSm, List.length_cons, Nat.add_mul]
    omega
/-- What is said of the summary at a place. -/
theorem endSm_next (k : Nat) (ss : List SmD) (i : Nat) (h : i < ss.length) : endSm k (ss.take (i + 1)) = endSm k (ss.take i) + 2 + 2 * ss[i].Hs.length ∧ endSm k (ss.take (i + 1)) ≤ endSm k ss := by
  refine ⟨by rw [List.take_succ_eq_append_getElem h, endSm_app]; rfl, ?_⟩
  have h1 : endSm k ss = endSm (endSm k (ss.take (i + 1))) (ss.drop (i + 1)) := by rw [← endSm_app, List.take_append_drop]
  have h2 := endSm_le (endSm k (ss.take (i + 1))) (ss.drop (i + 1))
  omega
theorem marksSm_get (k : Nat) (ss : List SmD) (i : Nat) (h : i < ss.length) : (marksSm k ss)[i]'(by rw [marksSm_len]; exact h) = ⟨((endSm k (ss.take i) : Nat) : Int), ((endSm k (ss.take i) : Nat) : Int) + 1, marksHv (endSm k (ss.take i) + 2) ss[i].Hs.length⟩ := by
  have e : ss = ss.take i ++ ss[i] :: ss.drop (i + 1) := by rw [← List.drop_eq_getElem_cons h, List.take_append_drop]
  have e2 : marksSm k ss = marksSm k (ss.take i) ++ (⟨((endSm k (ss.take i) : Nat) : Int), ((endSm k (ss.take i) : Nat) : Int) + 1, marksHv (endSm k (ss.take i) + 2) ss[i].Hs.length⟩ :: marksSm (endSm k (ss.take i) + 2 + 2 * ss[i].Hs.length) (ss.drop (i + 1))) := by
    conv => lhs; rw [e]
    rw [marksSm_app]
    rfl
  have hl : (marksSm k (ss.take i)).length = i := by rw [marksSm_len, List.length_take]; omega
  simp only [e2]
  rw [List.getElem_append_right (by omega)]
  simp [hl]
def markedSm (k : Nat) (ss : List SmD) (i : Nat) : List SmD := marksSm k (ss.take i) ++ ss.drop i
theorem markedSm_next (k : Nat) (ss : List SmD) (i : Nat) (h : i < ss.length) : markedSm k ss (i + 1) = (markedSm k ss i).set i ⟨((endSm k (ss.take i) : Nat) : Int), ((endSm k (ss.take i) : Nat) : Int) + 1, marksHv (endSm k (ss.take i) + 2) ss[i].Hs.length⟩ := by
  unfold markedSm
  have hl : (marksSm k (ss.take i)).length = i := by rw [marksSm_len, List.length_take]; omega
  rw [List.drop_eq_getElem_cons h, List.set_append_right _ _ (by omega), hl, Nat.sub_self, List.set_cons_zero, List.take_succ_eq_append_getElem h, marksSm_app, List.append_assoc]
  rfl
theorem markedSm_at (k : Nat) (ss : List SmD) (i : Nat) (h : i < ss.length) : (markedSm k ss i)[i]? = some ss[i] := by
  unfold markedSm
  have hl : (marksSm k (ss.take i)).length = i := by rw [marksSm_len, List.length_take]; omega
  rw [List.getElem?_append_right (by omega), hl, Nat.sub_self, List.getElem?_drop, Nat.add_zero, List.getElem?_eq_getElem h]
theorem markedSm_all (k : Nat) (ss : List SmD) : markedSm k ss ss.length = marksSm k ss := by simp [markedSm]
end Go.Proofs.Ytkpdiojomgiocac
