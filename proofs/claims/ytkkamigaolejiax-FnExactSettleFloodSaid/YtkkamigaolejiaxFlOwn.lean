/-
  'l6Copy', 'l6Own' of the model.
-/
import Derived.Test.YtkkamigaolejiaxFlCopy
namespace Go.Proofs.Ytkkamigaolejiax
open Go.RowKit
set_option linter.unusedVariables false

theorem copyStep {W wr w1 : World} {ad a5 : Option Addr} {k cd m c5 : Nat} {vs : List Value} {zz0 : List (List Int)} {zz : List Int} (HO : OwnSS wr W.heap.size (.slice ad k cd) vs zz0) (HS : Since W.heap.size W wr) (hk : vs.length ≤ 1048576) (ho1 : Own w1 wr.heap.size (.slice a5 m c5) zz) (hb1 : Below wr.heap.size wr w1) :
    Own w1 W.heap.size (.slice a5 m c5) zz ∧ OwnSS w1 W.heap.size (.slice ad k cd) vs zz0 ∧ Since W.heap.size W w1 ∧ (∀ j (hj : j < vs.length), ∀ b, vs[j].ownBlock = some b → (Value.slice a5 m c5).ownBlock ≠ some b) ∧ (∀ ty, ∃ v' w', (Builtin.append_ #[22, 22] ty #[.slice ad k cd, .slice (some ⟨w1.heap.size, 0, none⟩) 1 1]).run Try.prog (w1.alloc (.cells #[.slice a5 m c5] 60)) = .ok v' w' ∧ Grown (w1.alloc (.cells #[.slice a5 m c5] 60)) W.heap.size 60 1 (.slice ad k cd) (vs ++ [Value.slice a5 m c5]).length (vs ++ [Value.slice a5 m c5]) v' w') := by
  refine ⟨ho1.mono HS.2, HO.below hb1, HS.step hb1, fun j hj b hb hb2 => ?_, fun ty => run_appSS w1 W.heap.size _ vs _ _ _ (HO.below hb1).row hk (HS.step hb1).2 ty⟩
  have := (World.ownsRow.lt (HO.inner j hj) b hb).2
  have := (World.ownsRow.lt ho1 b hb2).1
  omega

set_option maxRecDepth 100000 in
set_option maxHeartbeats 2000000 in
theorem l6Copy_any (W : World) (B : Nat) (v : Value) (us : List Value) (lks : List (List Int)) (h : OwnSS W B v us lks) (h2 : ∀ j (hj : j < lks.length), lks[j].length ≤ 1048576) (hl : lks.length ≤ 1048576) :
    Calls Try.prog 54 #[v] W fun e W' => ∃ v', e = .returned v' ∧ HasSS W' W.heap.size v' lks ∧ Below W.heap.size W W' := by
  have HS0 : Hid (∃ vs, OwnSS W W.heap.size (.slice none 0 0) vs (lks.take 0) ∧ Since W.heap.size W W) := ⟨[], OwnSS.nil W _, Since.start W⟩
  have HRD : Hid (∀ W1, Since W.heap.size W W1 → OwnSS W1 B v us lks) := fun W1 hS => h.below hS.1
  have HUL : Hid (us.length = lks.length) := h.len
  have H2 : Hid (∀ j (hj : j < lks.length), lks[j].length ≤ 1048576) := h2
  obtain ⟨av, cv, rfl⟩ := h.shape
  clear h h2
  go_enter Try.func54, Try.ntmps54
  go_wp2
  go_loopw [3, 8] (fun d i wr => ∃ k : Nat, k ≤ lks.length ∧ i = .int .i64 k ∧ Hid (∃ vs, OwnSS wr W.heap.size d vs (lks.take k) ∧ Since W.heap.size W wr)) (fun _ i _ => lks.length - (intOf i).toNat)
  case atStart => exact ⟨0, Nat.zero_le _, rfl, HS0⟩
  case round =>
    obtain ⟨k, hk, rfl, HK⟩ := hrel
    obtain ⟨vs, hos, hsi⟩ := HK.out
    obtain ⟨ad, cd, hd⟩ := hos.shape
    rw [show (lks.take k).length = k by rw [List.length_take]; omega] at hd
    subst hd
    have HO : Hid (OwnSS wr W.heap.size (.slice ad k cd) vs (lks.take k)) := hos
    have HS : Hid (Since W.heap.size W wr) := hsi
    have hvl : vs.length = k := by have := hos.len; rw [List.length_take] at this; omega
    clear hos hsi HK
    by_cases hlt : k < lks.length
    · have hlt' : (k : Int) < (lks.length : Int) := by omega
      have hku : k < us.length := by rw [HUL.out]; exact hlt
      obtain ⟨g8, hg8, hu⟩ : ∃ g8, av = some ⟨g8, 0, none⟩ ∧ wr.cell? ⟨g8, k, none⟩ = some us[k] := by
        have hown := HRD.out wr HS.out
        rcases hown.row.2 with ⟨-, hn⟩ | ⟨g, c, cur, hv, -⟩
        · omega
        · have hrow := hown.row
          rw [hv] at hrow
          simp only [Value.slice.injEq] at hv
          exact ⟨g, hv.1, by rw [World.ownsRow.cellAt hrow k (by omega), List.getElem?_eq_getElem hku]⟩
      have hru := (HRD.out wr HS.out).inner k hku
      have hlk := H2.out k hlt
      have HSRC : Hid (Src (wr.alloc (.cells #[] 3)) us[k] lks[k].length (lks[k].map (Value.int .i64))) := Src.row (hru.below ((Below.refl _ wr).alloc (Nat.le_refl _) (.cells #[] 3)))
      have HNX : Hid (lks.take (k + 1) = lks.take k ++ [lks[k]]) := List.take_succ_eq_append_getElem hlt
      obtain ⟨au, cu, hus⟩ := hru.shape
      generalize us[k] = uk at *
      subst hus
      clear hru
      subst hg8
      obtain ⟨m, hm⟩ : ∃ m, m = lks[k].length := ⟨_, rfl⟩
      rw [← hm] at hu hlk
      have HM : Hid (lks[k].length = m) := hm.symm
      clear hm
      generalize hnx : lks.take (k + 1) = nxt at *
      have HNQ : Hid (lks.take (k + 1) = nxt) := hnx
      clear hnx
      generalize lks[k] = zz at *
      have HMD : Own (wr.alloc (.cells #[] 3)) wr.heap.size (.slice (some ⟨wr.heap.size, 0, none⟩) 0 0) [] := World.ownsRow_made (base := wr.heap.size) (e := 3) (size := 1) wr #[] 0 (Nat.le_refl _) (by unfold maxLen; omega) rfl
      have HAPI : Hid (∀ ty, ∃ v' w', (Builtin.append_ #[60, 60] ty #[.slice (some ⟨wr.heap.size, 0, none⟩) 0 0, .slice au m cu]).run Try.prog (wr.alloc (.cells #[] 3)) = .ok v' w' ∧ Own w' wr.heap.size v' zz ∧ Below wr.heap.size wr w') := fun ty => by
        obtain ⟨v', w', hr, hg⟩ := run_appI (wr.alloc (.cells #[] 3)) wr.heap.size _ [] HMD (.slice au m cu) zz (by have h9 := HSRC.out; rw [HM.out] at h9 ⊢; exact h9) (by rw [HM.out]; simp; omega) (by simp) ty
        exact ⟨v', w', hr, hg.own, ((Below.refl _ wr).alloc (Nat.le_refl _) _).trans hg.below⟩
      clear HMD HSRC
      go_wp2_with (first
        | (at_builtin; refine list_app (by rfl) (.tmp 13) (.tmp 14) 60 (by rfl) (.slice (some ⟨wr.heap.size, 0, none⟩) 0 0) (.slice au m cu) (by rfl) (by rfl) _ HAPI.out ?_; rintro v1 w1 ⟨ho1, hb1⟩; obtain ⟨a5, c5, hv5⟩ := ho1.shape; rw [HM.out] at hv5; subst hv5; have HPK : Hid (Own w1 W.heap.size (.slice a5 m c5) zz ∧ OwnSS w1 W.heap.size (.slice ad k cd) vs (lks.take k) ∧ Since W.heap.size W w1 ∧ (∀ j (hj : j < vs.length), ∀ b, vs[j].ownBlock = some b → (Value.slice a5 m c5).ownBlock ≠ some b) ∧ (∀ ty, ∃ v' w', (Builtin.append_ #[22, 22] ty #[.slice ad k cd, .slice (some ⟨w1.heap.size, 0, none⟩) 1 1]).run Try.prog (w1.alloc (.cells #[.slice a5 m c5] 60)) = .ok v' w' ∧ Grown (w1.alloc (.cells #[.slice a5 m c5] 60)) W.heap.size 60 1 (.slice ad k cd) (vs ++ [Value.slice a5 m c5]).length (vs ++ [Value.slice a5 m c5]) v' w')) := copyStep HO.out HS.out (by omega) ho1 hb1; clear ho1 hb1)
        | (at_builtin; refine list_app (by rfl) (.tmp 12) (.tmp 16) 22 (by rfl) (.slice ad k cd) (.slice (some ⟨w1.heap.size, 0, none⟩) 1 1) (by rfl) (by rfl) _ HPK.out.2.2.2.2 ?_; intro v7 w7 hg7; have HF : Hid (∃ us', OwnSS w7 W.heap.size v7 us' nxt ∧ Since W.heap.size W w7) := ⟨_, by rw [HNX.out]; exact HPK.out.2.1.add HPK.out.1 HPK.out.2.2.2.1 hg7, ⟨(HPK.out.2.2.1.1.alloc HPK.out.2.2.1.2 _).trans hg7.below, Nat.le_trans HPK.out.2.2.1.2 (Nat.le_trans (by simp) hg7.size)⟩⟩; clear hg7))
      go_roundw
      case rel => exact ⟨k + 1, by omega, by go_num, by rw [HNQ.out]; exact HF⟩
      case measure => simp [intOf]; omega
    · have hlt' : ¬ (k : Int) < (lks.length : Int) := by omega
      have HF : Hid (OwnSS wr W.heap.size (.slice ad k cd) vs lks) := by
        have := HO.out
        rw [List.take_of_length_le (by omega)] at this
        exact this
      go_wp2
      go_ret
      exact ⟨_, rfl, ⟨vs, HF.out⟩, HS.out.1⟩

end Go.Proofs.Ytkkamigaolejiax
