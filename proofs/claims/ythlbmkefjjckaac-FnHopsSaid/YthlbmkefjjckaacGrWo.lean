/-
  'WithoutEdge' of the program and of the model.
-/
import Derived.Test.YthlbmkefjjckaacCatEd
import Derived.Test.YthlbmkefjjckaacGrGoodS
namespace Go.Proofs.Ythlbmkefjjckaac
open Go.RowKit
set_option linter.unusedVariables false

/-- A list that is one's own, and not empty: where it lies. -/
theorem ownEd_at {W : World} {B : Nat} {v : Value} {l : List EdD} (h : OwnEd W B v l) (h0 : 0 < l.length) : ∃ g cap, v = .slice (some ⟨g, 0, none⟩) l.length cap ∧ l.length ≤ cap ∧ g < W.heap.size ∧ ∀ j (hj : j < l.length), EdAt W g (0 + j * 3) l[j] := by
  have h' := h
  rcases h.2 with ⟨hv, hn⟩ | ⟨g, cap, cur, hv, hB, hg, hc, -⟩
  · omega
  · subst hv
    refine ⟨g, cap, rfl, hc, (Array.getElem?_eq_some_iff.1 hg).1, fun j hj => ?_⟩
    have c0 := cellsEd_get l j hj
    rw [Nat.zero_add]
    exact ⟨(World.ownsRow.cellAt h' _ (by omega)).trans c0.1, (World.ownsRow.cellAt h' _ (by omega)).trans c0.2.1, (World.ownsRow.cellAt h' _ (by omega)).trans c0.2.2⟩

set_option maxRecDepth 100000 in
set_option maxHeartbeats 4000000 in
theorem l8Without_any (W : World) (B : Nat) (v : Value) (l : List EdD) (k : Nat) (h : OwnEd W B v l) (hk : k < l.length) (hl : l.length ≤ 1048576) :
    Calls Try.prog 105 #[v, .int .i64 (k : Int)] W fun e W' => ∃ u, e = .returned u ∧ OwnEd W' W.heap.size u (l.take k ++ l.drop (k + 1)) ∧ Below W.heap.size W W' := by
  obtain ⟨g, cap, hv, hcap, hg, hat⟩ := ownEd_at h (by omega)
  subst hv
  have HAT : Hid (∀ w', Below W.heap.size W w' → ∀ j (hj : j < l.length), EdAt w' g (0 + j * 3) l[j]) := fun w' hb j hj => (hat j hj).below hg hb
  have hw1 : IntKind.i64.wrap ((k : Int) + 1) = (k : Int) + 1 := by rw [IntKind.wrap_i64]; omega
  have hkc : k ≤ cap := by omega
  have hk1 : k + 1 ≤ l.length := by omega
  have hk2 : (k : Int) + 1 ≤ (l.length : Int) := by omega
  have hk3 : 0 ≤ (k : Int) + 1 := by omega
  have HL : Hid (l.length ≤ 1048576) := hl
  clear h hat hg hl
  obtain ⟨pp, hpp⟩ : ∃ pp : Option Addr, (if cap = k + 1 then some ⟨g, 0, none⟩ else some ⟨g, (k + 1) * 3, none⟩) = pp := ⟨_, rfl⟩
  have HS1 : Hid (∀ w', Below W.heap.size W w' → Src w' (.slice (some ⟨g, 0, none⟩) k cap) (l.take k).length (cellsEd (l.take k))) := fun w' hb => by
    rw [show (l.take k).length = k by rw [List.length_take]; omega]
    exact srcEd_at (fun j hj => by
      rw [List.length_take] at hj
      rw [List.getElem_take]
      exact HAT.out w' hb j (by omega)) _ _ (by rw [List.length_take]; omega)
  have HS2 : Hid (∀ w', Below W.heap.size W w' → Src w' (.slice pp (l.length - (k + 1)) (cap - (k + 1))) (l.drop (k + 1)).length (cellsEd (l.drop (k + 1)))) := fun w' hb => by
    rw [← hpp, List.length_drop]
    split
    · rw [show l.length - (k + 1) = 0 by omega, List.drop_eq_nil_of_le (by omega)]
      exact .inr ⟨_, _, rfl, fun j u hu => by simp [cellsEd] at hu⟩
    · exact srcEd_at (fun j hj => by
        rw [List.length_drop] at hj
        rw [List.getElem_drop]
        have := HAT.out w' hb (k + 1 + j) (by omega)
        rw [show 0 + (k + 1 + j) * 3 = (k + 1) * 3 + j * 3 by omega] at this
        exact this) _ _ (by rw [List.length_drop])
  have HM : Hid (OwnEd (W.alloc (.cells #[] 61)) W.heap.size (.slice (some ⟨W.heap.size, 0, none⟩) 0 0) [] ∧ Below W.heap.size W (W.alloc (.cells #[] 61))) := ⟨World.ownsRow_made (base := W.heap.size) (e := 61) (size := 3) W #[] 0 (Nat.le_refl _) (by decide) rfl, (Below.refl _ W).alloc (Nat.le_refl _) _⟩
  have A1 : Hid (∀ ty, ∃ v' w', (Builtin.append_ #[54, 54] ty #[.slice (some ⟨W.heap.size, 0, none⟩) 0 0, .slice (some ⟨g, 0, none⟩) k cap]).run Try.prog (W.alloc (.cells #[] 61)) = .ok v' w' ∧ Grown (W.alloc (.cells #[] 61)) W.heap.size 61 3 (.slice (some ⟨W.heap.size, 0, none⟩) 0 0) ([] ++ l.take k).length (cellsEd ([] ++ l.take k)) v' w') := fun ty => run_appEd _ W.heap.size _ [] HM.out.1 _ (l.take k) (HS1.out _ HM.out.2) (by have := HL.out; simp; omega) (by simp) ty
  go_enter Try.func105, Try.ntmps105
  go_wp2_with (first
    | (at_builtin; refine list_app (by rfl) (.tmp 6) (.tmp 9) 54 (by rfl) (.slice (some ⟨W.heap.size, 0, none⟩) 0 0) (.slice (some ⟨g, 0, none⟩) k cap) (by rfl) (by rfl) _ A1.out ?_; intro v2 w2 hg2; have S2 : Hid (Below W.heap.size W w2 ∧ W.heap.size ≤ w2.heap.size) := ⟨HM.out.2.trans hg2.below, Nat.le_trans (by simp) hg2.size⟩; have O2 : Hid (OwnEd w2 W.heap.size v2 (l.take k)) := hg2.own; clear hg2; have A2 : Hid (∀ ty, ∃ v' w', (Builtin.append_ #[54, 54] ty #[v2, .slice pp (l.length - (k + 1)) (cap - (k + 1))]).run Try.prog w2 = .ok v' w' ∧ Grown w2 W.heap.size 61 3 v2 (l.take k ++ l.drop (k + 1)).length (cellsEd (l.take k ++ l.drop (k + 1))) v' w') := fun ty => run_appEd w2 W.heap.size _ (l.take k) O2.out _ (l.drop (k + 1)) (HS2.out w2 S2.out.1) (by have := HL.out; simp; omega) S2.out.2 ty)
    | (at_builtin; refine list_app (by rfl) (.tmp 11) (.tmp 15) 54 (by rfl) v2 (.slice pp (l.length - (k + 1)) (cap - (k + 1))) (by rfl) (by rfl) _ A2.out ?_; intro v3 w3 hg3; have S3 : Hid (Below W.heap.size W w3) := S2.out.1.trans hg3.below; have O3 : Hid (OwnEd w3 W.heap.size v3 (l.take k ++ l.drop (k + 1))) := hg3.own; clear hg3))
  go_ret
  exact ⟨_, rfl, O3.out, S3.out⟩

def woOk (n : Int) (l : List EdD) (k : Int) : Bool := goodEd n l && decide (0 ≤ k ∧ k < l.length)
def woOut (n : Int) (l : List EdD) (k : Int) : List EdD := if woOk n l k then l.take k.toNat ++ l.drop (k.toNat + 1) else []
theorem woOut_len (n : Int) (l : List EdD) (k : Int) : (woOut n l k).length ≤ 4194304 := by
  unfold woOut
  split
  · next h =>
    unfold woOk at h
    rw [Bool.and_eq_true] at h
    have := (goodEd_true h.1).2.1
    rw [List.length_append, List.length_take, List.length_drop]
    omega
  · simp
def EdPost (W : World) (out : List EdD) (ok : Bool) (e : Ending) (W' : World) : Prop := ∃ u, e = .returned (.tuple #[u, .bool ok]) ∧ OwnEd W' W.heap.size u out ∧ Below W.heap.size W W'
theorem EdPost.zero {W W' : World} {out : List EdD} {ok : Bool} (h1 : ok = false) (h2 : out = []) (hb : Below W.heap.size W W') : EdPost W out ok (.returned (.tuple #[.slice none 0 0, .bool false])) W' := ⟨_, by rw [h1], by rw [h2]; exact OwnEd.nil _ _, hb⟩
theorem EdPost.mk {W W' : World} {out zs : List EdD} {ok : Bool} {u : Value} (h1 : ok = true) (h2 : out = zs) (ho : OwnEd W' W.heap.size u zs) (hb : Below W.heap.size W W') : EdPost W out ok (.returned (.tuple #[u, .bool true])) W' := ⟨u, by rw [h1], by rw [h2]; exact ho, hb⟩

set_option maxRecDepth 100000 in
set_option maxHeartbeats 2000000 in
theorem implWithoutEdge_any (W : World) (B : Nat) (v : Value) (n : Int) (l : List EdD) (k : Int) (h : OwnEd W B v l) (hl : l.length ≤ 1048576) :
    Calls Try.prog 48 #[.int .i64 n, v, .int .i64 k] W (EdPost W (woOut n l k) (woOk n l k)) := by
  have CG : Hid (Calls Try.prog 36 #[.int .i64 n, v] W fun e W' => e = .returned (.bool (goodEd n l)) ∧ Below W.heap.size W W') := implGoodEd_any W v n l h.reads (by omega)
  have HRD : Hid (∀ w', Below W.heap.size W w' → OwnEd w' B v l) := fun w' hs => h.below hs
  have HBZ : Hid (Below W.heap.size W W) := Below.refl _ _
  obtain ⟨a1, c1, rfl⟩ := h.shape
  have HD : Hid (woOk n l k = (goodEd n l && decide (0 ≤ k ∧ k < l.length)) ∧ woOut n l k = if woOk n l k then l.take k.toNat ++ l.drop (k.toNat + 1) else []) := ⟨rfl, rfl⟩
  generalize woOk n l k = ok at *
  generalize woOut n l k = out at *
  clear h
  cases hg : goodEd n l with
  | false =>
    have HF : Hid (ok = false ∧ out = []) := by
      have h1 : ok = false := HD.out.1.trans (by rw [hg]; rfl)
      exact ⟨h1, HD.out.2.trans (by rw [h1]; rfl)⟩
    rw [hg] at CG
    clear hg HD
    go_enter Try.func48, Try.ntmps48
    go_wp2_with fail
    refine CG.out.mono ?_
    rintro e w1 ⟨rfl, hb1⟩
    have HB1 : Hid (Below W.heap.size W w1) := hb1
    clear hb1
    go_wp2
    refine bodyPost_ret (results_tmp2 rfl _ _ _) rfl ?_
    exact EdPost.zero HF.out.1 HF.out.2 HB1.out
  | true =>
    rw [hg] at CG
    by_cases h1 : k < 0
    · have d1 : decide (k < 0) = true := decide_eq_true h1
      have HF : Hid (ok = false ∧ out = []) := by
        have h2 : ok = false := HD.out.1.trans (by rw [hg, decide_eq_false (show ¬ (0 ≤ k ∧ k < l.length) by omega)]; rfl)
        exact ⟨h2, HD.out.2.trans (by rw [h2]; rfl)⟩
      clear hg HD
      go_enter Try.func48, Try.ntmps48
      go_wp2_with fail
      refine CG.out.mono ?_
      rintro e w1 ⟨rfl, hb1⟩
      have HB1 : Hid (Below W.heap.size W w1) := hb1
      clear hb1
      go_wp2
      refine bodyPost_ret (results_tmp2 rfl _ _ _) rfl ?_
      exact EdPost.zero HF.out.1 HF.out.2 HB1.out
    · have d1 : decide (k < 0) = false := decide_eq_false h1
      by_cases h2 : (l.length : Int) ≤ k
      · have d2 : decide ((l.length : Int) ≤ k) = true := decide_eq_true h2
        have HF : Hid (ok = false ∧ out = []) := by
          have h3 : ok = false := HD.out.1.trans (by rw [hg, decide_eq_false (show ¬ (0 ≤ k ∧ k < l.length) by omega)]; rfl)
          exact ⟨h3, HD.out.2.trans (by rw [h3]; rfl)⟩
        clear hg HD
        go_enter Try.func48, Try.ntmps48
        go_wp2_with fail
        refine CG.out.mono ?_
        rintro e w1 ⟨rfl, hb1⟩
        have HB1 : Hid (Below W.heap.size W w1) := hb1
        clear hb1
        go_wp2
        refine bodyPost_ret (results_tmp2 rfl _ _ _) rfl ?_
        exact EdPost.zero HF.out.1 HF.out.2 HB1.out
      · have d2 : decide ((l.length : Int) ≤ k) = false := decide_eq_false h2
        obtain ⟨m, rfl⟩ : ∃ m : Nat, k = (m : Int) := ⟨k.toNat, by omega⟩
        have HF : Hid (ok = true ∧ out = l.take m ++ l.drop (m + 1)) := by
          have h3 : ok = true := HD.out.1.trans (by rw [hg, decide_eq_true (show 0 ≤ (m : Int) ∧ (m : Int) < l.length by omega)]; rfl)
          exact ⟨h3, HD.out.2.trans (by rw [h3, Int.toNat_natCast]; rfl)⟩
        have d3 : ¬ l.length ≤ m := by omega
        have CW : Hid (∀ w', Below W.heap.size W w' → Calls Try.prog 104 #[.slice a1 l.length c1, .int .i64 (m : Int)] w' fun e w2 => ∃ u, e = .returned u ∧ OwnEd w2 w'.heap.size u (l.take m ++ l.drop (m + 1)) ∧ Below w'.heap.size w' w2) := fun w' hs => withoutEd_any w' B _ l m (HRD.out w' hs) (by omega) hl
        clear hg HD h1 h2
        go_enter Try.func48, Try.ntmps48
        go_wp2_with fail
        refine CG.out.mono ?_
        rintro e w1 ⟨rfl, hb1⟩
        have HB1 : Hid (Below W.heap.size W w1) := hb1
        clear hb1
        go_wp2_with fail
        refine (CW.out _ HB1.out).mono ?_
        rintro e w2 ⟨u2, rfl, ho2, hb2⟩
        have HO2 : Hid (OwnEd w2 W.heap.size u2 (l.take m ++ l.drop (m + 1))) := ho2.mono HB1.out.size
        have HB2 : Hid (Below W.heap.size W w2) := HB1.out.trans (hb2.mono HB1.out.size)
        clear ho2 hb2
        go_wp2
        refine bodyPost_ret (results_tmp2 rfl _ _ _) rfl ?_
        exact EdPost.mk HF.out.1 HF.out.2 HO2.out HB2.out

set_option maxRecDepth 100000 in
set_option maxHeartbeats 2000000 in
theorem specWithoutEdge_any (W : World) (B : Nat) (v : Value) (n : Int) (l : List EdD) (k : Int) (h : OwnEd W B v l) (hl : l.length ≤ 1048576) :
    Calls Try.prog 49 #[.int .i64 n, v, .int .i64 k] W (EdPost W (woOut n l k) (woOk n l k)) := by
  have CG : Hid (Calls Try.prog 91 #[.int .i64 n, v] W fun e W' => e = .returned (.bool (goodEd n l)) ∧ Below W.heap.size W W') := specGoodEd_any W v n l h.reads (by omega)
  have HRD : Hid (∀ w', Below W.heap.size W w' → OwnEd w' B v l) := fun w' hs => h.below hs
  have HBZ : Hid (Below W.heap.size W W) := Below.refl _ _
  obtain ⟨a1, c1, rfl⟩ := h.shape
  have HD : Hid (woOk n l k = (goodEd n l && decide (0 ≤ k ∧ k < l.length)) ∧ woOut n l k = if woOk n l k then l.take k.toNat ++ l.drop (k.toNat + 1) else []) := ⟨rfl, rfl⟩
  generalize woOk n l k = ok at *
  generalize woOut n l k = out at *
  clear h
  cases hg : goodEd n l with
  | false =>
    have HF : Hid (ok = false ∧ out = []) := by
      have h1 : ok = false := HD.out.1.trans (by rw [hg]; rfl)
      exact ⟨h1, HD.out.2.trans (by rw [h1]; rfl)⟩
    rw [hg] at CG
    clear hg HD
    go_enter Try.func49, Try.ntmps49
    go_wp2_with fail
    refine CG.out.mono ?_
    rintro e w1 ⟨rfl, hb1⟩
    have HB1 : Hid (Below W.heap.size W w1) := hb1
    clear hb1
    go_wp2
    refine bodyPost_ret (results_tmp2 rfl _ _ _) rfl ?_
    exact EdPost.zero HF.out.1 HF.out.2 HB1.out
  | true =>
    rw [hg] at CG
    by_cases h1 : k < 0
    · have d1 : decide (k < 0) = true := decide_eq_true h1
      have HF : Hid (ok = false ∧ out = []) := by
        have h2 : ok = false := HD.out.1.trans (by rw [hg, decide_eq_false (show ¬ (0 ≤ k ∧ k < l.length) by omega)]; rfl)
        exact ⟨h2, HD.out.2.trans (by rw [h2]; rfl)⟩
      clear hg HD
      go_enter Try.func49, Try.ntmps49
      go_wp2_with fail
      refine CG.out.mono ?_
      rintro e w1 ⟨rfl, hb1⟩
      have HB1 : Hid (Below W.heap.size W w1) := hb1
      clear hb1
      go_wp2
      refine bodyPost_ret (results_tmp2 rfl _ _ _) rfl ?_
      exact EdPost.zero HF.out.1 HF.out.2 HB1.out
    · have d1 : decide (k < 0) = false := decide_eq_false h1
      by_cases h2 : (l.length : Int) ≤ k
      · have d2 : decide ((l.length : Int) ≤ k) = true := decide_eq_true h2
        have HF : Hid (ok = false ∧ out = []) := by
          have h3 : ok = false := HD.out.1.trans (by rw [hg, decide_eq_false (show ¬ (0 ≤ k ∧ k < l.length) by omega)]; rfl)
          exact ⟨h3, HD.out.2.trans (by rw [h3]; rfl)⟩
        clear hg HD
        go_enter Try.func49, Try.ntmps49
        go_wp2_with fail
        refine CG.out.mono ?_
        rintro e w1 ⟨rfl, hb1⟩
        have HB1 : Hid (Below W.heap.size W w1) := hb1
        clear hb1
        go_wp2
        refine bodyPost_ret (results_tmp2 rfl _ _ _) rfl ?_
        exact EdPost.zero HF.out.1 HF.out.2 HB1.out
      · have d2 : decide ((l.length : Int) ≤ k) = false := decide_eq_false h2
        obtain ⟨m, rfl⟩ : ∃ m : Nat, k = (m : Int) := ⟨k.toNat, by omega⟩
        have HF : Hid (ok = true ∧ out = l.take m ++ l.drop (m + 1)) := by
          have h3 : ok = true := HD.out.1.trans (by rw [hg, decide_eq_true (show 0 ≤ (m : Int) ∧ (m : Int) < l.length by omega)]; rfl)
          exact ⟨h3, HD.out.2.trans (by rw [h3, Int.toNat_natCast]; rfl)⟩
        have d3 : ¬ l.length ≤ m := by omega
        have CW : Hid (∀ w', Below W.heap.size W w' → Calls Try.prog 105 #[.slice a1 l.length c1, .int .i64 (m : Int)] w' fun e w2 => ∃ u, e = .returned u ∧ OwnEd w2 w'.heap.size u (l.take m ++ l.drop (m + 1)) ∧ Below w'.heap.size w' w2) := fun w' hs => l8Without_any w' B _ l m (HRD.out w' hs) (by omega) hl
        clear hg HD h1 h2
        go_enter Try.func49, Try.ntmps49
        go_wp2_with fail
        refine CG.out.mono ?_
        rintro e w1 ⟨rfl, hb1⟩
        have HB1 : Hid (Below W.heap.size W w1) := hb1
        clear hb1
        go_wp2_with fail
        refine (CW.out _ HB1.out).mono ?_
        rintro e w2 ⟨u2, rfl, ho2, hb2⟩
        have HO2 : Hid (OwnEd w2 W.heap.size u2 (l.take m ++ l.drop (m + 1))) := ho2.mono HB1.out.size
        have HB2 : Hid (Below W.heap.size W w2) := HB1.out.trans (hb2.mono HB1.out.size)
        clear ho2 hb2
        go_wp2
        refine bodyPost_ret (results_tmp2 rfl _ _ _) rfl ?_
        exact EdPost.mk HF.out.1 HF.out.2 HO2.out HB2.out
end Go.Proofs.Ythlbmkefjjckaac
