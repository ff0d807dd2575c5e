/-
  The text of a good part, as the program and the model make it.
-/
import Derived.Test.YtijlhjfllfjllaaSpecGood
import Derived.Test.YtijlhjfllfjllaaPutText
namespace Go.Proofs.Ytijlhjfllfjllaa
open Go.RowKit

/-- What stands behind a part's first two bytes; a part's text. -/
def bodyL (t : ByteArray) (zs : List Int) : List UInt8 := t.data.toList ++ putL zs
def partL (k : Int) (t : ByteArray) (zs : List Int) : List UInt8 := UInt8.ofNat k.toNat :: UInt8.ofNat (bodyL t zs).length :: bodyL t zs
theorem bodyL_len (t : ByteArray) (zs : List Int) : (bodyL t zs).length = t.size + 2 * zs.length := by
  unfold bodyL; rw [List.length_append, putL_len]; rfl

/-- The good parts, kind by kind. -/
theorem good_cases (k : Int) (t : ByteArray) (zs : List Int) (h : goodB k t zs = true) :
    (k = 1 ∧ zs = [] ∧ 1 ≤ t.size ∧ t.size ≤ 20) ∨ ((k = 2 ∨ k = 3) ∧ t = ⟨#[]⟩ ∧ zs.length ≤ 20 ∧ allB zs 0 65535 = true) ∨ (k = 4 ∧ t = ⟨#[]⟩ ∧ zs.length = 1 ∧ allB zs 0 65535 = true) := by
  unfold goodB at h
  by_cases k1 : k = 1
  · rw [if_pos k1] at h
    by_cases hn : zs.length = 0
    · rw [if_pos hn] at h
      unfold nameB at h
      simp only [Bool.and_eq_true, decide_eq_true_eq] at h
      exact .inl ⟨k1, List.eq_nil_of_length_eq_zero hn, h.1, h.2.1⟩
    · rw [if_neg hn] at h; cases h
  · rw [if_neg k1] at h
    by_cases k2 : k = 2 ∨ k = 3
    · rw [if_pos k2] at h
      by_cases h0 : t.size = 0
      · rw [if_pos h0] at h
        unfold listB numsB at h
        simp only [Bool.and_eq_true, decide_eq_true_eq] at h
        exact .inr (.inl ⟨k2, empty_of t h0, h.1.1, h.1.2⟩)
      · rw [if_neg h0] at h; cases h
    · rw [if_neg k2] at h
      by_cases k4 : k = 4
      · rw [if_pos k4] at h
        by_cases h0 : t.size = 0
        · rw [if_pos h0] at h
          unfold flagB at h
          simp only [Bool.and_eq_true, Bool.or_eq_true, decide_eq_true_eq] at h
          obtain ⟨z, rfl⟩ : ∃ z, zs = [z] := List.length_eq_one_iff.1 h.1
          refine .inr (.inr ⟨k4, empty_of t h0, rfl, ?_⟩)
          have h2 : z = 0 ∨ z = 1 := by simpa using h.2
          rcases h2 with rfl | rfl <;> rfl
        · rw [if_neg h0] at h; cases h
      · rw [if_neg k4] at h; cases h
theorem good_small (k : Int) (t : ByteArray) (zs : List Int) (h : goodB k t zs = true) : 1 ≤ k ∧ k ≤ 4 ∧ (bodyL t zs).length ≤ 40 ∧ zs.length ≤ 20 ∧ t.size ≤ 20 ∧ allB zs 0 65535 = true := by
  rw [bodyL_len]
  rcases good_cases k t zs h with ⟨rfl, rfl, h1, h2⟩ | ⟨hk, rfl, h1, h2⟩ | ⟨rfl, rfl, h1, h2⟩
  · exact ⟨by omega, by omega, by simp; omega, by simp, h2, rfl⟩
  · have e : (ByteArray.mk #[]).size = 0 := rfl
    rw [e]
    exact ⟨by omega, by omega, by omega, h1, by omega, h2⟩
  · have e : (ByteArray.mk #[]).size = 0 := rfl
    rw [e]
    exact ⟨by omega, by omega, by omega, by omega, by omega, h2⟩

theorem as_name (t : ByteArray) (w : World) : (Instr.typeAssert (.iface 116 (.agg #[.string t])) 84 116 true).run Try.prog w = .ok (.tuple #[.agg #[.string t], .bool true]) w := by kernel_rfl
theorem list_as_name (v : Value) (w : World) : (Instr.typeAssert (.iface 118 (.agg #[v])) 84 116 true).run Try.prog w = .ok (.tuple #[.agg #[.string ⟨#[]⟩], .bool false]) w := by kernel_rfl
theorem as_list (v : Value) (w : World) : (Instr.typeAssert (.iface 118 (.agg #[v])) 84 118 true).run Try.prog w = .ok (.tuple #[.agg #[v], .bool true]) w := by kernel_rfl
theorem flag_as_name (v : Value) (w : World) : (Instr.typeAssert (.iface 120 (.agg #[v])) 84 116 true).run Try.prog w = .ok (.tuple #[.agg #[.string ⟨#[]⟩], .bool false]) w := by kernel_rfl
theorem flag_as_list (v : Value) (w : World) : (Instr.typeAssert (.iface 120 (.agg #[v])) 84 118 true).run Try.prog w = .ok (.tuple #[.agg #[.slice none 0 0], .bool false]) w := by kernel_rfl
theorem as_flag (v : Value) (w : World) : (Instr.typeAssert (.iface 120 (.agg #[v])) 84 120 true).run Try.prog w = .ok (.tuple #[.agg #[v], .bool true]) w := by kernel_rfl

set_option maxRecDepth 100000 in
set_option maxHeartbeats 2000000 in
/-- 'textOf' of a good part's body. -/
theorem textOf_any (W : World) (k : Int) (t : ByteArray) (a : Option Addr) (c : Nat) (zs : List Int) (h : Reads W (.slice a zs.length c) zs) (hg : goodB k t zs = true) :
    Calls Try.prog 72 #[bodyV k t zs.length (.slice a zs.length c)] W fun e W' => e = .returned (.string ⟨(bodyL t zs).toArray⟩) ∧ Below W.heap.size W W' := by
  have HR : Hid (∀ W1, Below W.heap.size W W1 → Reads W1 (.slice a zs.length c) zs) := fun W1 hb => h.below hb
  clear h
  rcases good_cases k t zs hg with ⟨rfl, rfl, h1, h2⟩ | ⟨hk, rfl, h1, h2⟩ | ⟨rfl, rfl, h1, h2⟩
  · have e : bodyV 1 t ([] : List Int).length (.slice a ([] : List Int).length c) = .iface 116 (.agg #[.string t]) := rfl
    rw [e]
    have ta := as_name t W
    have HE : Hid ((⟨(bodyL t []).toArray⟩ : ByteArray) = t) := by
      show _ = _
      apply ByteArray.ext
      show (bodyL t []).toArray = t.data
      simp [bodyL, putL]
    clear e hg
    go_enter Try.func72, Try.ntmps72
    go_wp2
    go_ret
    exact ⟨by rw [HE.out]; rfl, (Below.refl _ W).alloc (Nat.le_refl _) _⟩
  · have e : bodyV k ⟨#[]⟩ zs.length (.slice a zs.length c) = .iface 118 (.agg #[.slice a zs.length c]) := by
      unfold bodyV; rw [if_neg (by omega), if_pos hk]; rfl
    rw [e]
    have t1 := list_as_name (.slice a zs.length c) W
    have t2 := as_list (.slice a zs.length c) W
    clear e hg hk
    go_enter Try.func72, Try.ntmps72
    go_wp2_with fail
    refine (numsText_any _ _ zs (HR.out _ ((Below.refl _ W).alloc (Nat.le_refl _) _)) (by omega) h2).mono ?_
    rintro e w1 ⟨rfl, hb⟩
    have HB : Hid (Below W.heap.size W w1) := ((Below.refl _ W).alloc (Nat.le_refl _) _).trans (hb.mono (by simp))
    clear hb
    go_wp2
    go_ret
    exact ⟨rfl, HB.out⟩
  · have e : bodyV 4 ⟨#[]⟩ zs.length (.slice a zs.length c) = .iface 120 (.agg #[.slice a zs.length c]) := rfl
    rw [e]
    have t1 := flag_as_name (.slice a zs.length c) W
    have t2 := flag_as_list (.slice a zs.length c) W
    have t3 := as_flag (.slice a zs.length c) W
    have h1' : zs.length ≤ 20 := by omega
    clear e hg h1
    go_enter Try.func72, Try.ntmps72
    go_wp2_with fail
    refine (numsText_any _ _ zs (HR.out _ ((Below.refl _ W).alloc (Nat.le_refl _) _)) (by omega) h2).mono ?_
    rintro e w1 ⟨rfl, hb⟩
    have HB : Hid (Below W.heap.size W w1) := ((Below.refl _ W).alloc (Nat.le_refl _) _).trans (hb.mono (by simp))
    clear hb
    go_wp2
    go_ret
    exact ⟨rfl, HB.out⟩

/-- 'string([]byte(x, y))' of two bytes that were just laid. -/
theorem two_back (w : World) (x y : Int) (x0 : 0 ≤ x) (x1 : x ≤ 255) (y0 : 0 ≤ y) (y1 : y ≤ 255) :
    (convert 22 9 (.slice (some ⟨w.heap.size, 0, none⟩) 2 2)).run Try.prog (w.alloc (.cells #[.int .u8 x, .int .u8 y] 5)) = .ok (.string ⟨#[UInt8.ofNat x.toNat, UInt8.ofNat y.toNat]⟩) (w.alloc (.cells #[.int .u8 x, .int .u8 y] 5)) := by
  refine run_convert_bytes_back (P := Try.prog) _ 22 9 5 ⟨w.heap.size, 0, none⟩ 2 [UInt8.ofNat x.toNat, UInt8.ofNat y.toNat] Try.underlying22 Try.underlying5 Try.underlying9 (fun j hj => ?_)
  rw [Go.WideShapes.add_plain, Nat.zero_add, World.cell?_alloc_at _ _ _ _ rfl]
  match j, hj with
  | 0, _ => simp [UInt8.toNat_ofNat']; omega
  | 1, _ => simp [UInt8.toNat_ofNat']; omega

set_option maxRecDepth 100000 in
set_option maxHeartbeats 2000000 in
theorem l2Text_any (W : World) (k : Int) (t : ByteArray) (v : Value) (zs : List Int) (h : Reads W v zs) (hg : goodB k t zs = true) :
    Calls Try.prog 45 #[partV k t v] W fun e W' => e = .returned (.string ⟨(partL k t zs).toArray⟩) ∧ Below W.heap.size W W' := by
  obtain ⟨a, c, rfl⟩ := h.shape
  have HR : Hid (∀ W1, Below W.heap.size W W1 → Reads W1 (.slice a zs.length c) zs) := fun W1 hb => h.below hb
  obtain ⟨k1, k4, hb40, hz20, ht20, hall⟩ := good_small k t zs hg
  have HAL : Hid (allB zs 0 65535 = true) := hall
  have HBA : Hid (∀ o, Below W.heap.size W (W.alloc o)) := fun o => (Below.refl _ W).alloc (Nat.le_refl _) o
  obtain ⟨P, hP⟩ : ∃ P : ByteArray, P = ⟨(putL zs).toArray⟩ := ⟨_, rfl⟩
  obtain ⟨Q, hQ⟩ : ∃ Q : ByteArray, Q = ⟨(bodyL t zs).toArray⟩ := ⟨_, rfl⟩
  have HP : Hid (P = ⟨(putL zs).toArray⟩) := hP
  have HQ : Hid (Q = ⟨(bodyL t zs).toArray⟩) := hQ
  have hPs : P.size = 2 * zs.length := by rw [hP, ← putL_len]; rfl
  have hQs : Q.size = (bodyL t zs).length := by rw [hQ]; rfl
  have hadd : ∀ w, (Op.stringOp .add t P).run Try.prog w = .ok (.string Q) w := fun w => by
    rw [run_string_add_sum w t P (by omega), hP, hQ]
    refine congrArg (fun x => Result.ok (Value.string x) w) (ByteArray.ext ?_)
    simp [bodyL]
  have hq1 : Q.size ≤ 40 := by rw [hQs]; exact hb40
  obtain ⟨R, hR⟩ : ∃ R : ByteArray, R = ⟨(partL k t zs).toArray⟩ := ⟨_, rfl⟩
  have HRr : Hid (R = ⟨(partL k t zs).toArray⟩) := hR
  have hadd2 : ∀ w, (Op.stringOp .add ⟨#[UInt8.ofNat k.toNat, UInt8.ofNat Q.size]⟩ Q).run Try.prog w = .ok (.string R) w := fun w => by
    rw [run_string_add_sum w _ Q (by show 2 + Q.size ≤ _; omega), hR, hQs]
    refine congrArg (fun x => Result.ok (Value.string x) w) (ByteArray.ext ?_)
    rw [hQ]
    simp [partL]
  have hback : ∀ w : World, (convert 22 9 (.slice (some ⟨w.heap.size, 0, none⟩) 2 2)).run Try.prog (w.alloc (.cells #[.int .u8 k, .int .u8 (Q.size : Int)] 5)) = .ok (.string ⟨#[UInt8.ofNat k.toNat, UInt8.ofNat Q.size]⟩) (w.alloc (.cells #[.int .u8 k, .int .u8 (Q.size : Int)] 5)) := fun w => by
    have := two_back w k (Q.size : Int) (by omega) (by omega) (by omega) (by omega)
    simpa using this
  rw [← hR]
  clear h hg hall hP hQ hPs hQs hR
  unfold partV
  go_enter Try.func45, Try.ntmps45
  go_wp2
  go_region_with (go_at_call 74; refine (l2Put_any _ _ zs (HR.out _ (by first | exact (HBA.out _).drew | exact HBA.out _)) (by omega) HAL.out).mono ?_; rintro e w1 ⟨rfl, hb⟩; rw [← HP.out]; obtain ⟨hc, hf⟩ := bcell hb)
  all_goals
    have hz : W.heap.size < w1.heap.size := by have := hb.size; simp at this; omega
    have HB : Hid (Below W.heap.size W w1) := ((HBA.out _).drew).trans (hb.mono (by simp))
    have hbk := hback w1
    clear hb hback
    go_wp2
    go_ret
    exact ⟨rfl, HB.out.alloc (by omega) _⟩
end Go.Proofs.Ytijlhjfllfjllaa
