/-
  'bestUp' of the program, with 'beats'.
-/
import Derived.Test.YthdcfeafkellcabPlaceT
namespace Go.Proofs.Ythdcfeafkellcab
open Go.RowKit
set_option linter.unusedVariables false

/-- What the box of the best so far holds: the zero bridge, or one that is up. -/
def BestBox (wr : World) (b : Nat) : Option BrD → Prop
  | none => Bx3 wr b (.int .i64 0) (.int .i64 0) (.bool false)
  | some y => y.up = true ∧ Bx3 wr b (.int .i64 y.id) (.int .i64 y.rank) (.bool true)
def BestAt (W wr : World) (o : Option BrD) : Prop := Below W.heap.size W wr ∧ BestBox wr W.heap.size o
theorem BestAt.below {W wr : World} {o : Option BrD} (h : BestAt W wr o) : Below W.heap.size W wr := h.1
theorem BestAt.lt {W wr : World} {o : Option BrD} (h : BestAt W wr o) : W.heap.size < wr.heap.size := by
  cases o with
  | none => exact h.2.lt
  | some y => exact h.2.2.lt
theorem BestAt.step {W wr w1 : World} {o : Option BrD} (h : BestAt W wr o) (hb : Below wr.heap.size wr w1) : BestAt W w1 o := by
  refine ⟨h.1.trans (hb.mono (Nat.le_of_lt h.lt)), ?_⟩
  cases o with
  | none => exact Bx3.below h.2 hb
  | some y => exact ⟨h.2.1, h.2.2.below hb⟩
theorem BestAt.put {W wr : World} {o : Option BrD} (h : BestAt W wr o) (x : BrD) (hu : x.up = true) :
    BestAt W (((wr.setCell ⟨W.heap.size, 0, none⟩ (.int .i64 x.id)).setCell ⟨W.heap.size, 1, none⟩ (.int .i64 x.rank)).setCell ⟨W.heap.size, 2, none⟩ (.bool true)) (some x) := by
  refine ⟨((h.1.setCell (Nat.le_refl _) _).setCell (Nat.le_refl _) _).setCell (Nat.le_refl _) _, hu, ?_⟩
  cases o with
  | none => exact ((Bx3.put0 h.2 _).put1 _).put2 _
  | some y => exact ((h.2.2.put0 _).put1 _).put2 _

set_option maxRecDepth 100000 in
set_option maxHeartbeats 4000000 in
theorem bestBeats_any (W : World) (v : Value) (l : List BrD) (h : ReadsBr W v l) (hl : l.length ≤ 1048576) :
    Calls Try.prog 55 #[v, .func (.func 57) #[] #[]] W fun e W' => e = .returned (.int .i64 (bestId (bestOf (beatsB) l))) ∧ Below W.heap.size W W' := by
  obtain ⟨a1, cap1, rfl, hc1⟩ := h
  by_cases hz : l = []
  · subst hz
    simp only [List.length_nil]
    clear hc1
    go_enter Try.func55, Try.ntmps55
    go_wp2
    refine wp_loop_rounds 1 ?_
    rw [rounds_succ]
    go_wp2
    go_ret
    exact ⟨rfl, (Below.refl _ W).alloc (Nat.le_refl _) _⟩
  · obtain ⟨g1, o1, rfl, hg1, hc1⟩ := hc1.resolve_left hz
    have HC1 : Hid (∀ W1, Below W.heap.size W W1 → ∀ j (hj : j < l.length), BrAt W1 g1 (o1 + j * 3) l[j]) := fun W1 hS j hj => (hc1 j hj).below hg1 hS
    have HX0 : Hid (BestAt W (W.alloc (.cells #[.int .i64 0, .int .i64 0, .bool false] 35)) none) := ⟨(Below.refl _ W).alloc (Nat.le_refl _) _, Bx3.new _ _ _ _ _⟩
    clear hc1 hg1 hz
    go_enter Try.func55, Try.ntmps55
    go_wp2
    generalize hw : W.alloc (.cells #[.int .i64 0, .int .i64 0, .bool false] 35) = w0 at *
    clear hw
    go_loopw [10] (fun i wr => ∃ k : Nat, k ≤ l.length ∧ i = .int .i64 k ∧ Hid (BestAt W wr (bestOf (beatsB) (l.take k)))) (fun i _ => l.length - (intOf i).toNat)
    case atStart => exact ⟨0, Nat.zero_le _, rfl, HX0.out⟩
    case round =>
      clear HX0
      obtain ⟨k, hk, rfl, HK⟩ := hrel
      by_cases hlt : k < l.length
      · have hlt' : (k : Int) < (l.length : Int) := by omega
        have HN : Hid (bestOf (beatsB) (l.take (k + 1)) = bestStep (beatsB) (bestOf (beatsB) (l.take k)) l[k]) := best_next _ l k hlt
        obtain ⟨q0, q1, q2⟩ := HC1.out wr HK.out.below k hlt
        generalize l[k] = x at *
        generalize bestOf (beatsB) (l.take k) = o at *
        cases hu : x.up with
        | false =>
          have HN1 : Hid (bestOf (beatsB) (l.take (k + 1)) = o) := by show _ = _; rw [HN.out]; unfold bestStep; rw [hu]; rfl
          have HB1 : Hid (BestAt W (wr.alloc (.cells #[.int .i64 x.id, .int .i64 x.rank, .bool false] 35)) o) := HK.out.step ((Below.refl _ wr).alloc (Nat.le_refl _) _)
          rw [hu] at q2
          clear HK hu HN
          go_wp2
          go_roundw
          case rel => exact ⟨k + 1, by omega, by go_num, by rw [HN1.out]; exact HB1.out⟩
          case measure => simp [intOf]; omega
        | true =>
          rw [hu] at q2
          cases o with
          | none =>
            have HN1 : Hid (bestOf (beatsB) (l.take (k + 1)) = some x) := by show _ = _; rw [HN.out]; unfold bestStep; rw [hu]; rfl
            obtain ⟨y0, y1, y2, y3, yf⟩ := HK.out.2
            have hne : ¬ wr.heap.size = W.heap.size := by omega
            have HB1 : Hid (BestAt W ((((wr.setCell ⟨W.heap.size, 0, none⟩ (.int .i64 x.id)).setCell ⟨W.heap.size, 1, none⟩ (.int .i64 x.rank)).setCell ⟨W.heap.size, 2, none⟩ (.bool true)).alloc (.cells #[.int .i64 x.id, .int .i64 x.rank, .bool true] 35)) (some x)) := (HK.out.put x hu).step ((Below.refl _ _).alloc (Nat.le_refl _) _)
            clear HK hu HN
            go_wp2
            go_roundw
            case rel => exact ⟨k + 1, by omega, by go_num, by rw [HN1.out]; exact HB1.out⟩
            case measure => simp [intOf]; omega
          | some y =>
            obtain ⟨huy, hby⟩ := HK.out.2
            have HXA : Hid (Bx3 (wr.alloc (.cells #[.int .i64 x.id, .int .i64 x.rank, .bool true] 35)) wr.heap.size (.int .i64 x.id) (.int .i64 x.rank) (.bool true)) := Bx3.new _ _ _ _ _
            have HBA : Hid (BestAt W (wr.alloc (.cells #[.int .i64 x.id, .int .i64 x.rank, .bool true] 35)) (some y)) := HK.out.step ((Below.refl _ wr).alloc (Nat.le_refl _) _)
            have HLW : Hid (W.heap.size < wr.heap.size) := hby.lt
            obtain ⟨y0, y1, y2, y3, yf⟩ := hby
            have CB : Hid (∀ w, Calls Try.prog 57 #[.agg #[.int .i64 x.id, .int .i64 x.rank, .bool true], .agg #[.int .i64 y.id, .int .i64 y.rank, .bool true]] w fun e w' => e = .returned (.bool ((beatsB) x y)) ∧ Below w.heap.size w w') := fun w => by
              have := beatsB_any w x y
              rw [hu, huy] at this
              exact this
            have HU : Hid (x.up = true) := hu
            clear HK huy hu
            cases hfb : (beatsB) x y with
            | false =>
              have HN1 : Hid (bestOf (beatsB) (l.take (k + 1)) = some y) := by show _ = _; rw [HN.out]; unfold bestStep; rw [HU.out]; simp only [if_true, hfb]; rfl
              rw [hfb] at CB
              clear HN hfb
              go_wp2_with fail
              refine (CB.out _).mono ?_
              rintro e w1 ⟨rfl, hb1⟩
              have HB1 : Hid (BestAt W w1 (some y)) := HBA.out.step hb1
              clear hb1 y0 y1 y2 y3 yf
              go_wp2
              go_roundw
              case rel => exact ⟨k + 1, by omega, by go_num, by rw [HN1.out]; exact HB1.out⟩
              case measure => simp [intOf]; omega
            | true =>
              have HN1 : Hid (bestOf (beatsB) (l.take (k + 1)) = some x) := by show _ = _; rw [HN.out]; unfold bestStep; rw [HU.out]; simp only [if_true, hfb]
              rw [hfb] at CB
              clear HN hfb
              go_wp2_with fail
              refine (CB.out _).mono ?_
              rintro e w1 ⟨rfl, hb1⟩
              have HB1 : Hid (BestAt W (((w1.setCell ⟨W.heap.size, 0, none⟩ (.int .i64 x.id)).setCell ⟨W.heap.size, 1, none⟩ (.int .i64 x.rank)).setCell ⟨W.heap.size, 2, none⟩ (.bool true)) (some x)) := (HBA.out.step hb1).put x HU.out
              clear y0 y1 y2 y3 yf
              obtain ⟨y0, y1, y2, y3, yf⟩ := (HBA.out.step hb1).2.2
              obtain ⟨z0, z1, z2, z3, -⟩ := HXA.out.below hb1
              have hne : ¬ wr.heap.size = W.heap.size := by have := HLW.out; omega
              clear hb1
              go_wp2
              go_roundw
              case rel => exact ⟨k + 1, by omega, by go_num, by rw [HN1.out]; exact HB1.out⟩
              case measure => simp [intOf]; omega
      · have hlt' : ¬ (k : Int) < (l.length : Int) := by omega
        have en : l.take k = l := List.take_of_length_le (by omega)
        rw [en] at HK
        clear en
        have HF : Hid (Below W.heap.size W wr) := HK.out.below
        obtain ⟨oo, hoo⟩ : ∃ oo, oo = bestOf (beatsB) l := ⟨_, rfl⟩
        rw [← hoo] at HK
        have HOO : Hid (oo = bestOf (beatsB) l) := hoo
        clear hoo
        cases oo with
        | none =>
          obtain ⟨y0, y1, y2, y3, -⟩ := HK.out.2
          clear HK
          go_wp2
          go_ret
          exact ⟨retI (by rw [← HOO.out]; rfl), HF.out⟩
        | some y =>
          obtain ⟨-, y0, y1, y2, y3, -⟩ := HK.out.2
          clear HK
          go_wp2
          go_ret
          exact ⟨retI (by rw [← HOO.out]; rfl), HF.out⟩
end Go.Proofs.Ythdcfeafkellcab
