/-
  What 'PartText' answers, the program's and the model's: the same.
-/
import Derived.Test.YtijlhjfllfjllaaPartText
namespace Go.Proofs.Ytijlhjfllfjllaa
open Go.RowKit

/-- A part's text where it is good, else none. -/
def partS (k : Int) (t : ByteArray) (zs : List Int) : ByteArray := if goodB k t zs = true then ⟨(partL k t zs).toArray⟩ else ⟨#[]⟩

set_option maxRecDepth 100000 in
set_option maxHeartbeats 2000000 in
/-- What 'good' answers of a part's body, whatever it is. -/
theorem bodyGood_any (W : World) (k : Int) (t : ByteArray) (a : Option Addr) (c : Nat) (zs : List Int) (h : Reads W (.slice a zs.length c) zs) (hl : zs.length ≤ 1048576) (ht : t.size ≤ 1048576) :
    ∃ (ty : TypeId) (x : Value) (f : FuncId), bodyV k t zs.length (.slice a zs.length c) = .iface ty x ∧ (∀ w, (method 251 ty x "loop.example/g00575/impl.good").run Try.prog w = .ok (f, x) w) ∧
      (Calls Try.prog f #[x] W fun e W' => e = .returned (.bool (goodB k t zs)) ∧ Below W.heap.size W W') ∧
      (f = 113 ∨ f = 115 ∨ f = 118 ∨ f = 111 ∨ f = 112) := by
  by_cases k1 : k = 1
  · by_cases hn0 : zs.length = 0
    · refine ⟨116, .agg #[.string t], 113, by unfold bodyV; rw [if_pos k1, if_pos hn0], method_name t, ?_, by simp⟩
      rw [show goodB k t zs = nameB t from by unfold goodB; rw [if_pos k1, if_pos hn0]]
      exact nameGood_any t W ht
    · refine ⟨113, .agg #[], 111, by unfold bodyV; rw [if_pos k1, if_neg hn0]; rfl, method_broken, ?_, by simp⟩
      rw [show goodB k t zs = false from by unfold goodB; rw [if_pos k1, if_neg hn0]]
      exact brokenGood W
  · by_cases k2 : k = 2 ∨ k = 3
    · by_cases h0 : t.size = 0
      · refine ⟨118, .agg #[.slice a zs.length c], 115, by unfold bodyV; rw [if_neg k1, if_pos k2, if_pos h0], method_list _, ?_, by simp⟩
        rw [show goodB k t zs = listB zs from by unfold goodB; rw [if_neg k1, if_pos k2, if_pos h0]]
        exact listGood_any W _ zs h (by omega)
      · refine ⟨113, .agg #[], 111, by unfold bodyV; rw [if_neg k1, if_pos k2, if_neg h0]; rfl, method_broken, ?_, by simp⟩
        rw [show goodB k t zs = false from by unfold goodB; rw [if_neg k1, if_pos k2, if_neg h0]]
        exact brokenGood W
    · by_cases k4 : k = 4
      · by_cases h0 : t.size = 0
        · refine ⟨120, .agg #[.slice a zs.length c], 118, by unfold bodyV; rw [if_neg k1, if_neg k2, if_pos k4, if_pos h0], method_flag _, ?_, by simp⟩
          rw [show goodB k t zs = flagB zs from by unfold goodB; rw [if_neg k1, if_neg k2, if_pos k4, if_pos h0]]
          exact flagGood_any W _ zs h (by omega)
        · refine ⟨113, .agg #[], 111, by unfold bodyV; rw [if_neg k1, if_neg k2, if_pos k4, if_neg h0]; rfl, method_broken, ?_, by simp⟩
          rw [show goodB k t zs = false from by unfold goodB; rw [if_neg k1, if_neg k2, if_pos k4, if_neg h0]]
          exact brokenGood W
      · refine ⟨114, .agg #[], 112, by unfold bodyV; rw [if_neg k1, if_neg k2, if_neg k4]; rfl, method_strange, ?_, by simp⟩
        rw [show goodB k t zs = false from by unfold goodB; rw [if_neg k1, if_neg k2, if_neg k4]]
        exact strangeGood W

set_option maxRecDepth 100000 in
set_option maxHeartbeats 2000000 in
theorem implPartText_any (W : World) (k : Int) (t : ByteArray) (v : Value) (zs : List Int) (h : Reads W v zs) (hl : zs.length ≤ 1048576) (ht : t.size ≤ 1048576) :
    Calls Try.prog 40 #[partV k t v] W fun e W' => e = .returned (.tuple #[.string (partS k t zs), .bool (goodB k t zs)]) ∧ Below W.heap.size W W' := by
  obtain ⟨a, c, rfl⟩ := h.shape
  have HR : Hid (∀ W1, Below W.heap.size W W1 → Reads W1 (.slice a zs.length c) zs) := fun W1 hb => h.below hb
  have HBA : Hid (∀ o, Since W.heap.size W (W.alloc o)) := fun o => (Since.start W).step ((Below.refl _ W).alloc (Nat.le_refl _) o)
  have HX : Hid (∀ ty, Box3 (W.alloc (.cells #[.int .i64 k, .string t, .slice a zs.length c] ty)) W.heap.size (.int .i64 k) (.string t) (.slice a zs.length c)) := fun ty => Box3.new _ _ _ _ _
  clear h
  unfold partV
  go_enter Try.func40, Try.ntmps40
  go_wp2_with fail
  refine (bodyOf_any _ k t a zs.length c (by omega)).mono ?_
  rintro e w1 ⟨rfl, hb⟩
  have HS1 : Hid (Since W.heap.size W w1) := (HBA.out _).step hb
  have HX1 : Hid (Box3 w1 W.heap.size (.int .i64 k) (.string t) (.slice a zs.length c)) := (HX.out _).below hb
  clear hb
  obtain ⟨ty, x, f, hbv, hmeth, hcall, hf⟩ := bodyGood_any w1 k t a c zs (HR.out _ HS1.out.1) hl ht
  have HBV : Hid (bodyV k t zs.length (.slice a zs.length c) = .iface ty x) := hbv
  have HC : Hid (Calls Try.prog f #[x] w1 fun e W' => e = .returned (.bool (goodB k t zs)) ∧ Below w1.heap.size w1 W') := hcall
  have hm1 := hmeth w1
  rw [hbv]
  clear hbv hcall hmeth
  cases hG : goodB k t zs with
  | true =>
    have HG : Hid (goodB k t zs = true) := hG
    have HP : Hid (partS k t zs = ⟨(partL k t zs).toArray⟩) := if_pos hG
    obtain ⟨k1, k4, hb40, hz20, ht20, hall⟩ := good_small k t zs hG
    obtain ⟨Q, hQ⟩ : ∃ Q : ByteArray, Q = ⟨(bodyL t zs).toArray⟩ := ⟨_, rfl⟩
    have HQ : Hid (Q = ⟨(bodyL t zs).toArray⟩) := hQ
    have hQs : Q.size = (bodyL t zs).length := by rw [hQ]; rfl
    have hq1 : Q.size ≤ 40 := by rw [hQs]; exact hb40
    have hadd2 : ∀ w, (Op.stringOp .add ⟨#[UInt8.ofNat k.toNat, UInt8.ofNat Q.size]⟩ Q).run Try.prog w = .ok (.string (partS k t zs)) w := fun w => by
      rw [run_string_add_sum w _ Q (by show 2 + Q.size ≤ _; omega), HP.out, hQs]
      refine congrArg (fun x => Result.ok (Value.string x) w) (ByteArray.ext ?_)
      rw [hQ]
      simp [partL]
    have hback : ∀ w : World, (convert 22 9 (.slice (some ⟨w.heap.size, 0, none⟩) 2 2)).run Try.prog (w.alloc (.cells #[.int .u8 k, .int .u8 (Q.size : Int)] 5)) = .ok (.string ⟨#[UInt8.ofNat k.toNat, UInt8.ofNat Q.size]⟩) (w.alloc (.cells #[.int .u8 k, .int .u8 (Q.size : Int)] 5)) := fun w => by
      have := two_back w k (Q.size : Int) (by omega) (by omega) (by omega) (by omega)
      simpa using this
    have HBK : Hid (∀ w : World, (convert 22 9 (.slice (some ⟨w.heap.size, 0, none⟩) 2 2)).run Try.prog (w.alloc (.cells #[.int .u8 k, .int .u8 (Q.size : Int)] 5)) = .ok (.string ⟨#[UInt8.ofNat k.toNat, UInt8.ofNat Q.size]⟩) (w.alloc (.cells #[.int .u8 k, .int .u8 (Q.size : Int)] 5))) := hback
    clear hG hQ hQs hall hback
    rcases hf with rfl | rfl | rfl | rfl | rfl
    all_goals
      go_wp2_with fail
      refine HC.out.mono ?_
      rintro e w2 ⟨rfl, hb⟩
      rw [HG.out]
      have HS2 : Hid (Since W.heap.size W w2) := HS1.out.step hb
      have HX2 : Hid (Box3 w2 W.heap.size (.int .i64 k) (.string t) (.slice a zs.length c)) := HX1.out.below hb
      clear hb hm1
      go_wp2_with fail
      rw [← HBV.out]
      refine (textOf_any _ k t a c zs (HR.out _ HS2.out.1) HG.out).mono ?_
      rintro e w3 ⟨rfl, hb⟩
      rw [← HQ.out]
      have HS3 : Hid (Since W.heap.size W w3) := HS2.out.step hb
      obtain ⟨-, q0, q1, q2⟩ := HX2.out.below hb
      have hbk := HBK.out w3
      clear hb
      go_wp2
      go_ret2
      exact ⟨by rw [HG.out]; rfl, (HS3.out.step ((Below.refl _ w3).alloc (Nat.le_refl _) _)).1⟩
  | false =>
    have HG : Hid (goodB k t zs = false) := hG
    have HP : Hid (partS k t zs = ⟨#[]⟩) := if_neg (by rw [hG]; exact Bool.false_ne_true)
    clear hG
    rcases hf with rfl | rfl | rfl | rfl | rfl
    all_goals
      go_wp2_with fail
      refine HC.out.mono ?_
      rintro e w2 ⟨rfl, hb⟩
      rw [HG.out]
      have HS2 : Hid (Since W.heap.size W w2) := HS1.out.step hb
      clear hb
      go_wp2
      go_ret2
      exact ⟨by rw [HP.out, HG.out]; rfl, HS2.out.1⟩
end Go.Proofs.Ytijlhjfllfjllaa
