/-
  'PlayPair' of the program.
-/
import Derived.Test.YtchddjidjfpehaaPlayI
import Derived.Test.YtchddjidjfpehaaNewP
namespace Go.Proofs.Ytchddjidjfpehaa
open Go.RowKit

def playOk (ss : List ST) : Bool := decide (ss.length ≤ 60)
def playOut (ss : List ST) : PR := if playOk ss then playP (newP 0) ss else noP
def playDid (ss : List ST) : List Bool := if playOk ss then playB (newP 0) ss else []
theorem new_good : goodPr (newP 0) = true := rfl
theorem playOut_len (ss : List ST) : (playOut ss).st.length ≤ 2 ∧ (playOut ss).lf.length ≤ 2 ∧ (playOut ss).ln.length ≤ 12 ∧ (playDid ss).length ≤ 60 := by
  unfold playOut playDid
  by_cases h : playOk ss = true
  · rw [if_pos h, if_pos h]
    obtain ⟨s0, s1, l0, l1, ln, e, -, -, hl, -⟩ := goodPr_form _ (play_good ss _ new_good)
    rw [e, playB_len]
    exact ⟨Nat.le_refl _, Nat.le_refl _, hl, of_decide_eq_true h⟩
  · rw [if_neg h, if_neg h]
    exact ⟨Nat.zero_le _, Nat.zero_le _, Nat.zero_le _, Nat.zero_le _⟩

set_option maxRecDepth 100000 in
set_option maxHeartbeats 2000000 in
theorem implPlay_any (W : World) (v : Value) (ss : List ST) (hs : ReadsS W v ss) (hl : ss.length ≤ 1048576) :
    Calls Try.prog 17 #[v] W fun e W' => ∃ x y z b, e = .returned (.tuple #[.agg #[x, y, z], b, .bool (playOk ss)]) ∧ Own3 W' W.heap.size x y z (playOut ss) ∧ OwnB W' W.heap.size b (playDid ss) ∧ Below W.heap.size W W' := by
  have hs0 := hs
  obtain ⟨a4, c4, rfl, -⟩ := hs
  by_cases h60 : ss.length ≤ 60
  · have hok : playOk ss = true := decide_eq_true h60
    obtain ⟨q, hq⟩ : ∃ q, q = playP (newP 0) ss := ⟨_, rfl⟩
    obtain ⟨bs, hbs⟩ : ∃ bs, bs = playB (newP 0) ss := ⟨_, rfl⟩
    rw [hok, show playOut ss = q from by unfold playOut; rw [if_pos hok, hq], show playDid ss = bs from by unfold playDid; rw [if_pos hok, hbs]]
    have HQ : Hid (playP (newP 0) ss = q) := hq.symm
    have HBS : Hid (playB (newP 0) ss = bs) := hbs.symm
    have HR : Hid (∀ W1, Below W.heap.size W W1 → ∃ g, g = ReadsS W1 (.slice a4 ss.length c4) ss ∧ g) := fun W1 hb => by
      obtain ⟨a, cap, hv, hc⟩ := hs0
      refine ⟨_, rfl, a, cap, hv, hc.imp id ?_⟩
      rintro ⟨g, off, ha, hg, hcell⟩
      exact ⟨g, off, ha, Nat.lt_of_lt_of_le hg hb.size, fun j hj => (hcell j hj).below hg hb⟩
    have hle : ¬ (60 : Int) < (ss.length : Int) := by omega
    have HB0 : Hid (Below W.heap.size W (W.alloc (.cells #[.slice none 0 0, .slice none 0 0, .slice none 0 0] 40))) := (Below.refl _ W).alloc (Nat.le_refl _) _
    have HX0 : Hid (Bx3 (W.alloc (.cells #[.slice none 0 0, .slice none 0 0, .slice none 0 0] 40)) W.heap.size (.slice none 0 0) (.slice none 0 0) (.slice none 0 0)) := Bx3.new _ _ _ _ _
    clear hs0 hq hbs hok
    go_enter Try.func17, Try.ntmps17
    go_wp2_with fail
    refine (implNew_any 0 _).mono ?_
    rintro e w1 ⟨x1, y1, z1, rfl, ho1, hb1⟩
    obtain ⟨b1, d1, rfl⟩ := ho1.st.shape
    obtain ⟨b2, d2, rfl⟩ := ho1.lf.shape
    obtain ⟨b3, d3, rfl⟩ := ho1.ln.shape
    have hA2 : Below w1.heap.size w1 (w1.alloc (.cells #[.slice b1 (newP 0).st.length d1, .slice b2 (newP 0).lf.length d2, .slice b3 (newP 0).ln.length d3] 40)) := (Below.refl _ w1).alloc (Nat.le_refl _) _
    have hz1 : W.heap.size + 1 ≤ w1.heap.size := by have := hb1.size; simp at this; omega
    have HB2 : Hid (Below W.heap.size W (w1.alloc (.cells #[.slice b1 (newP 0).st.length d1, .slice b2 (newP 0).lf.length d2, .slice b3 (newP 0).ln.length d3] 40))) := (HB0.out.trans (hb1.mono (by simp))).trans (hA2.mono (by omega))
    have HX2 : Hid (Bx3 (w1.alloc (.cells #[.slice b1 (newP 0).st.length d1, .slice b2 (newP 0).lf.length d2, .slice b3 (newP 0).ln.length d3] 40)) W.heap.size (.slice none 0 0) (.slice none 0 0) (.slice none 0 0)) := (HX0.out.below hb1).below hA2
    have HO2 : Hid (Own3 (w1.alloc (.cells #[.slice b1 (newP 0).st.length d1, .slice b2 (newP 0).lf.length d2, .slice b3 (newP 0).ln.length d3] 40)) (W.heap.size + 1) (.slice b1 (newP 0).st.length d1) (.slice b2 (newP 0).lf.length d2) (.slice b3 (newP 0).ln.length d3) (newP 0)) := by
      have := ho1.below hA2
      exact (show Own3 _ _ _ _ _ _ by simpa using this)
    have HZ2 : Hid (W.heap.size + 1 ≤ (w1.alloc (.cells #[.slice b1 (newP 0).st.length d1, .slice b2 (newP 0).lf.length d2, .slice b3 (newP 0).ln.length d3] 40)).heap.size) := Nat.le_trans hz1 hA2.size
    clear ho1 hb1 hA2
    go_wp2_with fail
    obtain ⟨g, rfl, hrd⟩ := HR.out _ HB2.out
    refine (playSteps_any _ _ _ _ _ _ (newP 0) ss HO2.out HZ2.out new_good hrd hl).mono ?_
    rw [HQ.out, HBS.out]
    rintro e w3 ⟨x3, y3, z3, v3, rfl, ho3, -, hb3, hlow⟩
    obtain ⟨j1, e1, rfl⟩ := ho3.st.shape
    obtain ⟨j2, e2, rfl⟩ := ho3.lf.shape
    obtain ⟨j3, e3, rfl⟩ := ho3.ln.shape
    obtain ⟨j4, e4, rfl⟩ := hb3.shape
    have HB3 : Hid (Below W.heap.size W w3) := HB2.out.trans (hlow.mono (by have := HZ2.out; omega))
    have HO3 : Hid (Own3 w3 (W.heap.size + 1) (.slice j1 q.st.length e1) (.slice j2 q.lf.length e2) (.slice j3 q.ln.length e3) q) := ho3
    have HD3 : Hid (OwnB w3 (W.heap.size + 1) (.slice j4 bs.length e4) bs) := hb3.mono (by have := HZ2.out; omega)
    have HX3 := HX2.out.below hlow
    obtain ⟨z0, z1, z2, z3, -⟩ := (((HX3.put0 (.slice j1 q.st.length e1)).put1 (.slice j2 q.lf.length e2)).put2 (.slice j3 q.ln.length e3)).below ((Below.refl _ _).alloc (Nat.le_refl _) (.cells #[.slice j1 q.st.length e1, .slice j2 q.lf.length e2, .slice j3 q.ln.length e3] 40))
    obtain ⟨x0, x1, x2, x3', xf⟩ := HX3
    clear ho3 hb3 hlow hrd
    go_wp2
    refine bodyPost_ret (v := .tuple #[.agg #[.slice j1 q.st.length e1, .slice j2 q.lf.length e2, .slice j3 q.ln.length e3], .slice j4 bs.length e4, .bool true]) (by simp [results, Try.results17, go_sem, z1, z2, z3]) rfl ⟨_, _, _, _, rfl, ?_, ?_, ?_⟩
    · have h5 : ∀ j, (⟨W.heap.size, j, none⟩ : Addr).block < W.heap.size + 1 := fun j => by show W.heap.size < _; omega
      exact ((((HO3.out.setCell (h5 0) _).setCell (h5 1) _).setCell (h5 2) _).below ((Below.refl _ _).alloc (Nat.le_refl _) _)).mono (by omega)
    · have h5 : ∀ j, (⟨W.heap.size, j, none⟩ : Addr).block < W.heap.size + 1 := fun j => by show W.heap.size < _; omega
      exact ((((HD3.out.setCell (h5 0) _).setCell (h5 1) _).setCell (h5 2) _).below ((Below.refl _ _).alloc (Nat.le_refl _) _)).mono (by omega)
    · exact (((HB3.out.setCell (Nat.le_refl _) _).setCell (Nat.le_refl _) _).setCell (Nat.le_refl _) _).alloc (by have := HB3.out.size; simpa [World.setCell] using this) _
  · have hok : playOk ss = false := decide_eq_false h60
    rw [hok, show playOut ss = noP from by unfold playOut; rw [hok]; rfl, show playDid ss = [] from by unfold playDid; rw [hok]; rfl]
    have hle : (60 : Int) < (ss.length : Int) := by omega
    clear hs0 hok h60
    go_enter Try.func17, Try.ntmps17
    go_wp2
    refine bodyPost_ret (v := .tuple #[.agg #[.slice none 0 0, .slice none 0 0, .slice none 0 0], .slice none 0 0, .bool false]) (by simp [results, Try.results17, go_sem]) rfl ⟨_, _, _, _, rfl, Own3.nil _ _, OwnB.nil _ _, ?_⟩
    exact (Below.refl _ W).alloc (Nat.le_refl _) _
end Go.Proofs.Ytchddjidjfpehaa
