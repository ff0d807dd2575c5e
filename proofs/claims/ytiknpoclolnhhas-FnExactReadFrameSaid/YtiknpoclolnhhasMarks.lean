/-
  Marks put into a list of parts, and found again: 'markText', 'markPartS', 'heldPartS'.
-/
import Derived.Test.YtiknpoclolnhhasOwnParts
import Derived.Deep.RegionWith
import Derived.BigRegion
import Derived.Laws.IdiomStrings
namespace Go.Proofs.Ytiknpoclolnhhas
open Go.RowKit

/-- A number's digits ahead of others. -/
def digs (k : Nat) (acc : List UInt8) : List UInt8 := if k = 0 then acc else digs (k / 10) (UInt8.ofNat (48 + k % 10) :: acc)
termination_by k
decreasing_by omega
theorem digs_zero (acc : List UInt8) : digs 0 acc = acc := by rw [digs, if_pos rfl]
theorem digs_step (k : Nat) (h : ¬ k = 0) (acc : List UInt8) : digs k acc = digs (k / 10) (UInt8.ofNat (48 + k % 10) :: acc) := by rw [digs, if_neg h]
theorem digs_len (k : Nat) (acc : List UInt8) : (digs k acc).length ≤ k + acc.length := by
  induction k using Nat.strongRecOn generalizing acc with
  | ind k ih =>
    by_cases h : k = 0
    · subst h; rw [digs_zero]; omega
    · rw [digs_step k h]
      have := ih (k / 10) (by omega) (UInt8.ofNat (48 + k % 10) :: acc)
      simp only [List.length_cons] at this
      omega
/-- The text of a mark. -/
def mtext (k : Nat) : ByteArray := ⟨((109 : UInt8) :: digs k []).toArray⟩

/-- 'string([]byte(x))' of a byte that was just laid. -/
theorem one_back (w : World) (x : Int) (x0 : 0 ≤ x) (x1 : x ≤ 255) :
    (convert 52 9 (.slice (some ⟨w.heap.size, 0, none⟩) 1 1)).run Try.prog (w.alloc (.cells #[.int .u8 x] 5)) = .ok (.string ⟨#[UInt8.ofNat x.toNat]⟩) (w.alloc (.cells #[.int .u8 x] 5)) := by
  refine run_convert_bytes_back (P := Try.prog) _ 52 9 5 ⟨w.heap.size, 0, none⟩ 1 [UInt8.ofNat x.toNat] Try.underlying52 Try.underlying5 Try.underlying9 (fun j hj => ?_)
  rw [Go.WideShapes.add_plain, Nat.zero_add, World.cell?_alloc_at _ _ _ _ rfl]
  match j, hj with
  | 0, _ => simp [UInt8.toNat_ofNat']; omega

set_option maxRecDepth 100000 in
set_option maxHeartbeats 2000000 in
theorem markText_any (k0 : Nat) (W : World) (h0 : 1 ≤ k0) (h1 : k0 ≤ 1000000) :
    Calls Try.prog 43 #[.int .i64 (k0 : Int)] W fun e W' => e = .returned (.string (mtext k0)) ∧ Below W.heap.size W W' := by
  obtain ⟨H, hH⟩ : ∃ H, H = W.heap.size := ⟨_, rfl⟩
  have HS0 : Hid (Since H W W) := by rw [hH]; exact Since.start W
  rw [← hH]
  clear hH
  obtain ⟨D, hD⟩ : ∃ D, D = digs k0 [] := ⟨_, rfl⟩
  have HD : Hid (digs k0 [] = D) := hD.symm
  have HM : Hid (mtext k0 = ⟨((109 : UInt8) :: D).toArray⟩) := by show _ = _; rw [hD]; rfl
  have HDL : Hid (D.length ≤ 1000000) := by have := digs_len k0 []; show _ ≤ _; rw [hD]; simp at this; omega
  have d0 : ¬ (k0 : Int) ≤ 0 := by omega
  clear hD
  go_enter Try.func43, Try.ntmps43
  go_wp2
  go_loopw [0, 3] (fun x s wr => ∃ (k : Nat) (acc : List UInt8), k ≤ k0 ∧ x = .int .i64 (k : Int) ∧ s = .string ⟨acc.toArray⟩ ∧ Hid (digs k acc = D) ∧ Hid (acc.length + k ≤ k0) ∧ Hid (Since H W wr)) (fun x _ _ => (intOf x).toNat)
  case atStart => exact ⟨k0, [], Nat.le_refl _, rfl, rfl, HD, by show _ ≤ _; simp, HS0⟩
  case round =>
    obtain ⟨k, acc, hk, rfl, rfl, HE, HL, HS⟩ := hrel
    by_cases hz : k = 0
    · subst hz
      have HF : Hid (acc = D) := by have := HE.out; rw [digs_zero] at this; exact this
      obtain ⟨A, hA⟩ : ∃ A : ByteArray, A = ⟨acc.toArray⟩ := ⟨_, rfl⟩
      have hadd : ∀ w, (Op.stringOp .add ⟨#[109]⟩ A).run Try.prog w = .ok (.string (mtext k0)) w := fun w => by
        have s1 : A.size = D.length := by rw [hA, HF.out]; rfl
        have := HDL.out
        rw [run_string_add_sum w _ A (by show 1 + A.size ≤ _; omega), HM.out, hA, HF.out]
        refine congrArg (fun x => Result.ok (Value.string x) w) (ByteArray.ext ?_)
        simp
      rw [← hA]
      clear hA
      go_wp2
      go_ret
      exact ⟨rfl, HS.out.1⟩
    · have dk : (0 : Int) < (k : Int) := by omega
      have HE1 : Hid (digs (k / 10) (UInt8.ofNat (48 + k % 10) :: acc) = D) := by have := HE.out; rw [digs_step k hz] at this; exact this
      have HL1 : Hid ((UInt8.ofNat (48 + k % 10) :: acc).length + k / 10 ≤ k0) := by have := HL.out; show _ ≤ _; simp only [List.length_cons]; omega
      obtain ⟨A, hA⟩ : ∃ A : ByteArray, A = ⟨acc.toArray⟩ := ⟨_, rfl⟩
      obtain ⟨Z, hZ⟩ : ∃ Z : ByteArray, Z = ⟨(UInt8.ofNat (48 + k % 10) :: acc).toArray⟩ := ⟨_, rfl⟩
      have HZ : Hid (Z = ⟨(UInt8.ofNat (48 + k % 10) :: acc).toArray⟩) := hZ
      obtain ⟨D1, hD1⟩ : ∃ D1 : ByteArray, D1 = ⟨#[UInt8.ofNat (48 + k % 10)]⟩ := ⟨_, rfl⟩
      have hadd : ∀ w, (Op.stringOp .add D1 A).run Try.prog w = .ok (.string Z) w := fun w => by
        have s1 : A.size = acc.length := by rw [hA]; rfl
        have s2 : D1.size = 1 := by rw [hD1]; rfl
        have := HL.out
        rw [run_string_add_sum w D1 A (by omega), hA, hZ, hD1]
        refine congrArg (fun x => Result.ok (Value.string x) w) (ByteArray.ext ?_)
        simp
      have hbk : (convert 52 9 (.slice (some ⟨wr.heap.size, 0, none⟩) 1 1)).run Try.prog (wr.alloc (.cells #[.int .u8 (48 + (k : Int) % 10)] 5)) = .ok (.string D1) (wr.alloc (.cells #[.int .u8 (48 + (k : Int) % 10)] 5)) := by
        have h := one_back wr (48 + (k : Int) % 10) (by omega) (by omega)
        have e : (48 + (k : Int) % 10).toNat = 48 + k % 10 := by omega
        rw [e, ← hD1] at h
        exact h
      have HS1 : Hid (Since H W (wr.alloc (.cells #[.int .u8 (48 + (k : Int) % 10)] 5))) := HS.out.step ((Below.refl _ wr).alloc (Nat.le_refl _) _)
      rw [← hA]
      clear hA hZ hD1
      go_wp2
      go_roundw
      case rel => exact ⟨k / 10, _, by omega, by go_num, by rw [HZ.out], HE1, HL1, HS1⟩
      case measure => simp [intOf]; omega
end Go.Proofs.Ytiknpoclolnhhas
