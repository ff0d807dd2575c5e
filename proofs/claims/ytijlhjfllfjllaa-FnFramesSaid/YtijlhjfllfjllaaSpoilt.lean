/-
  What the cursor's 'spoilt' answers: some text, at most two bytes longer.
-/
import Derived.Test.YtijlhjfllfjllaaCur0
import Derived.Test.YtijlhjfllfjllaaPutText
namespace Go.Proofs.Ytijlhjfllfjllaa
open Go.RowKit

theorem one_back (w : World) (x : Int) (x0 : 0 ≤ x) (x1 : x ≤ 255) :
    (convert 22 9 (.slice (some ⟨w.heap.size, 0, none⟩) 1 1)).run Try.prog (w.alloc (.cells #[.int .u8 x] 5)) = .ok (.string ⟨#[UInt8.ofNat x.toNat]⟩) (w.alloc (.cells #[.int .u8 x] 5)) := by
  refine run_convert_bytes_back (P := Try.prog) _ 22 9 5 ⟨w.heap.size, 0, none⟩ 1 [UInt8.ofNat x.toNat] Try.underlying22 Try.underlying5 Try.underlying9 (fun j hj => ?_)
  rw [Go.WideShapes.add_plain, Nat.zero_add, World.cell?_alloc_at _ _ _ _ rfl]
  match j, hj with
  | 0, _ => simp [UInt8.toNat_ofNat']; omega


def SpoiltPost (B : Nat) (w0 : World) (c : Nat) (a : Option Addr) (len cap m n : Nat) (e : Ending) (W' : World) : Prop :=
  ∃ t : ByteArray, e = .returned (.string t) ∧ t.size ≤ n + 2 ∧ Cur B w0 W' c a len cap (m + 20)

set_option maxRecDepth 100000 in
set_option maxHeartbeats 2000000 in
theorem spoilt_any (B : Nat) (w0 W : World) (c : Nat) (t : ByteArray) (a : Option Addr) (len cap m : Nat) (hC : Code B w0 a len) (hl : len ≤ 9223372036854775807) (hm : m ≤ 100000) (h : Cur B w0 W c a len cap m) (ht : t.size ≤ 1000) (S : ByteArray) (s1 : 1 ≤ S.size) (s2 : S.size ≤ 100) :
    Calls Try.prog 78 #[.pointer (some ⟨c, 0, none⟩), .string t, .string S] W (SpoiltPost B w0 c a len cap m t.size) := by
  have HD : Hid (Code B w0 a len) := hC
  clear hC
  go_enter Try.func78, Try.ntmps78
  go_wp2_with fail
  refine (pick_any B w0 _ c a len cap m 3 HD.out hl (by omega) h (by omega) (by omega)).mono ?_
  rintro e W1 ⟨q, rfl, q0, q1, hc1, ho1⟩
  obtain ⟨n, rfl⟩ : ∃ n : Nat, q = n := ⟨q.toNat, by omega⟩
  clear h ho1
  go_wp2
  go_loopw [1, 7] (fun s i wr => ∃ (u : ByteArray) (k : Nat), i = .int .i64 (k : Int) ∧ s = .string u ∧ k ≤ 2 ∧ u.size + k ≤ t.size + 2 ∧ Cur B w0 wr c a len cap (m + 2 + 6 * (2 - k))) (fun _ i _ => (intOf i).toNat)
  case atStart => exact ⟨t, n, rfl, rfl, by omega, by omega, hc1.mono (by omega)⟩
  case round =>
    obtain ⟨u, k, rfl, rfl, hk, hu, hcur⟩ := hrel
    clear hc1
    by_cases hk0 : 0 < k
    · have d0 : decide ((0 : Int) < (k : Int)) = true := decide_eq_true (by omega)
      by_cases hu0 : 0 < u.size
      · have d1 : decide ((0 : Int) < (u.size : Int)) = true := decide_eq_true (by omega)
        go_wp2_with fail
        refine (pick_any B w0 _ c a len cap _ u.size HD.out hl (by omega) hcur (by omega) (by omega)).mono ?_
        rintro e W2 ⟨x, rfl, x0, x1, hc2, ho2⟩
        obtain ⟨i, rfl⟩ : ∃ i : Nat, x = i := ⟨x.toNat, by omega⟩
        clear hcur ho2
        go_wp2_with fail
        refine (pick_any B w0 _ c a len cap _ S.size HD.out hl (by omega) hc2 (by omega) (by omega)).mono ?_
        rintro e W3 ⟨y, rfl, y0, y1, hc3, ho3⟩
        obtain ⟨j, rfl⟩ : ∃ j : Nat, y = j := ⟨y.toNat, by omega⟩
        have hjS : j < S.size := by omega
        clear hc2 ho3
        obtain ⟨wt, hwt, hback⟩ : ∃ wt : ByteArray, wt.size = 1 ∧ (convert 22 9 (.slice (some ⟨W3.heap.size, 0, none⟩) 1 1)).run Try.prog (W3.alloc (.cells #[.int .u8 ((S[j]'hjS).toNat : Int)] 5)) = .ok (.string wt) (W3.alloc (.cells #[.int .u8 ((S[j]'hjS).toNat : Int)] 5)) :=
          ⟨_, rfl, one_back W3 _ (by omega) (by have := (S[j]'hjS).toNat_lt; omega)⟩
        have hc3' := hc3.below ((Below.refl _ W3).alloc (Nat.le_refl _) (.cells #[.int .u8 ((S[j]'hjS).toNat : Int)] 5))
        clear hc3
        go_wp2_with fail
        refine (pick_any B w0 _ c a len cap _ 3 HD.out hl (by omega) hc3' (by omega) (by omega)).mono ?_
        rintro e W4 ⟨z, rfl, z0, z1, hc4, ho4⟩
        clear hc3' ho4 hback
        have hiu : i < u.size := by omega
        have e1 : IntKind.i64.wrap ((i : Int) + 1) = (i : Int) + 1 := by rw [IntKind.wrap_i64]; omega
        by_cases hz0 : z = 0
        · subst hz0
          go_wp2
          go_region
          go_wp2
          go_round
          case rel => exact ⟨_, k - 1, by go_num, rfl, by omega, by simp [ByteArray.size_append, ByteArray.size_extract]; omega, hc4.drew.mono (by omega)⟩
          case measure => simp [intOf]; omega
        · by_cases hz1 : z = 1
          · subst hz1
            go_wp2
            go_region
            go_wp2
            go_round
            case rel => exact ⟨_, k - 1, by go_num, rfl, by omega, by simp [ByteArray.size_append, ByteArray.size_extract]; omega, hc4.drew.mono (by omega)⟩
            case measure => simp [intOf]; omega
          · have dz0 : (z == 0) = false := beq_eq_false_iff_ne.2 hz0
            have dz1 : (z == 1) = false := beq_eq_false_iff_ne.2 hz1
            go_wp2
            go_region
            go_wp2
            go_round
            case rel => exact ⟨_, k - 1, by go_num, rfl, by omega, by simp [ByteArray.size_append, ByteArray.size_extract]; omega, hc4.drew.mono (by omega)⟩
            case measure => simp [intOf]; omega
      · have d1 : decide ((0 : Int) < (u.size : Int)) = false := decide_eq_false (by omega)
        have HP : Hid (SpoiltPost B w0 c a len cap m t.size (.returned (.string u)) wr) := ⟨u, rfl, by omega, hcur.mono (by omega)⟩
        clear hcur
        go_wp2
        go_ret
        exact HP.out
    · have d0 : decide ((0 : Int) < (k : Int)) = false := decide_eq_false (by omega)
      have HP : Hid (SpoiltPost B w0 c a len cap m t.size (.returned (.string u)) wr) := ⟨u, rfl, by omega, hcur.mono (by omega)⟩
      clear hcur
      go_wp2
      go_ret
      exact HP.out
end Go.Proofs.Ytijlhjfllfjllaa
