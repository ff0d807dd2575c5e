/-
  What 'DrawFrameText', the cursor's 'frame' and 'DrawReadFrame' answer: small parts, and a text of at most 207 bytes.
-/
import Derived.Test.YtijlhjfllfjllaaDraw2
import Derived.Test.YtijlhjfllfjllaaSpoilt
import Derived.Test.YtijlhjfllfjllaaFrame
namespace Go.Proofs.Ytijlhjfllfjllaa
open Go.RowKit

theorem cur_new {B : Nat} {w0 W : World} (a : Option Addr) (len cap : Nat) (t : TypeId) (h : Since B w0 W) :
    Cur B w0 (W.alloc (.cells #[.slice a len cap, .int .i64 0, .int .u64 0] t)) W.heap.size a len cap 0 := by
  have hh : (W.alloc (.cells #[.slice a len cap, .int .i64 0, .int .u64 0] t)).heap[W.heap.size]? = some (.cells #[.slice a len cap, .int .i64 0, .int .u64 0] t) := by
    show (W.heap.push _)[W.heap.size]? = _
    simp
  refine ⟨h.2, by simp, h.step ((Below.refl _ _).alloc (Nat.le_refl _) _), ?_, ⟨0, Nat.le_refl _, ?_⟩, ⟨0, ?_⟩, ?_, ?_⟩
  · rw [World.cell?_alloc_at _ _ _ _ rfl]; rfl
  · rw [World.cell?_alloc_at _ _ _ _ rfl]; rfl
  · rw [World.cell?_alloc_at _ _ _ _ rfl]; rfl
  · unfold World.frozen?; rw [hh]; simp
  · unfold World.frozen?; rw [hh]; simp

theorem OwnP.room {W : World} {B : Nat} {v : Value} {ps : List PD} (h : OwnP W B v ps) : ∃ a cap, v = .slice a ps.length cap ∧ ps.length ≤ cap := by
  obtain ⟨xs, -, h2, -⟩ := h
  rcases h2.2 with ⟨hv, hn⟩ | ⟨g, cap, cur, hv, -, -, hc, -⟩
  · exact ⟨none, 0, by rw [hv, hn], by omega⟩
  · exact ⟨_, _, hv, hc⟩

def DrawnParts (B : Nat) (w0 : World) (e : Ending) (W' : World) : Prop :=
  ∃ v ps, e = .returned v ∧ ReadsP W' v ps ∧ (∃ a cap, v = .slice a ps.length cap ∧ ps.length ≤ cap) ∧ ps.length ≤ 11 ∧ SmallPs ps ∧ Since B w0 W'

set_option maxHeartbeats 400000 in
theorem drawFrameText_any (B : Nat) (w0 W : World) (a : Option Addr) (len cap : Nat) (hC : Code B w0 a len) (hl : len ≤ 9223372036854775807) (h : Since B w0 W) :
    Calls Try.prog 6 #[.slice a len cap] W (DrawnParts B w0) := by
  have HC : Hid (Code B w0 a len) := hC
  have hcur := cur_new a len cap 67 h
  clear hC h
  go_enter Try.func6, Try.ntmps6
  go_wp2_with fail
  refine (parts_any B w0 _ _ a len cap 0 HC.out hl (by omega) hcur).mono ?_
  rintro e W1 ⟨v, ps, rfl, hown, hpl, hsm, hc1, ho1⟩
  have HP : Hid (DrawnParts B w0 (.returned v) W1) := ⟨v, ps, rfl, hown.reads, hown.room, hpl, hsm, hc1.2.2.1⟩
  clear hcur hc1 hown hsm ho1
  go_wp2
  go_ret
  exact HP.out

theorem frameS_size (ps : List PD) : (frameS ps).size ≤ 200 := by
  unfold frameS
  by_cases h : frameB ps = true
  · rw [if_pos h, size_toArray]
    unfold frameB at h
    rw [Bool.and_eq_true] at h
    exact of_decide_eq_true h.2
  · rw [if_neg h]; decide

def DrawnText (B : Nat) (w0 : World) (e : Ending) (W' : World) : Prop := ∃ t : ByteArray, e = .returned (.string t) ∧ t.size ≤ 207 ∧ Since B w0 W'

set_option maxRecDepth 100000 in
set_option maxHeartbeats 2000000 in
theorem frame_any (B : Nat) (w0 W : World) (c : Nat) (a : Option Addr) (len cap m : Nat) (hC : Code B w0 a len) (hl : len ≤ 9223372036854775807) (hm : m ≤ 100) (h : Cur B w0 W c a len cap m) :
    Calls Try.prog 49 #[.pointer (some ⟨c, 0, none⟩)] W (DrawnText B w0) := by
  have HD : Hid (Code B w0 a len) := hC
  clear hC
  go_enter Try.func49, Try.ntmps49
  go_wp2_with fail
  refine (parts_any B w0 _ _ a len cap _ HD.out hl (by omega) h).mono ?_
  rintro e W1 ⟨v, ps, rfl, hown, hpl, hsm, hc1, ho1⟩
  have HR : Hid (ReadsP W1 v ps) := hown.reads
  have HF : Hid (∀ j (hj : j < ps.length), Fit ps[j]) := hsm.fit
  clear h hown hsm ho1
  go_wp2_with fail
  refine (specFrame_any W1 v ps HR.out (by omega) HF.out).mono ?_
  rintro e W2 ⟨rfl, hb2⟩
  have hc2 := hc1.below hb2
  have hs2 := frameS_size ps
  generalize frameS ps = s at hs2 ⊢
  generalize frameB ps = b
  clear hc1 hb2 HR HF
  go_wp2_with fail
  refine (one_any B w0 _ c a len cap _ 4 HD.out hl (by omega) hc2 (by omega) (by omega)).mono ?_
  rintro e W3 ⟨r, rfl, hc3, ho3⟩
  clear hc2 ho3
  cases r
  · go_wp2_with fail
    refine (one_any B w0 _ c a len cap _ 3 HD.out hl (by omega) hc3 (by omega) (by omega)).mono ?_
    rintro e W4 ⟨r, rfl, hc4, ho4⟩
    clear hc3 ho4
    cases r
    · have HP : Hid (DrawnText B w0 (.returned (.string s)) W4) := ⟨s, rfl, by omega, hc4.2.2.1⟩
      clear hc4
      go_wp2
      go_ret
      exact HP.out
    · go_wp2_with fail
      refine (spoilt_any B w0 _ c s a len cap _ HD.out hl (by omega) hc4 (by omega) ⟨#[0, 1, 2, 4, 97]⟩ (by decide) (by decide)).mono ?_
      rintro e W5 ⟨u, rfl, hu, hc5⟩
      have HP : Hid (DrawnText B w0 (.returned (.string u)) W5) := ⟨u, rfl, by omega, hc5.2.2.1⟩
      clear hc4 hc5
      go_wp2
      go_ret
      exact HP.out
  · go_wp2_with fail
    refine (of_any B w0 _ c W3.heap.size [⟨#[9, 1, 122]⟩, ⟨#[0, 0]⟩, ⟨#[5, 3, 97, 98, 99]⟩] a len cap 3 _ HD.out hl (by omega) (hc3.alloc _) (by simp) (by simp) (by simp) (by have := hc3.2.1; omega) (three_texts W3 _ _ _)).mono ?_
    rintro e W4 ⟨t', rfl, ht', hc4, ho4⟩
    have ht4 : t'.size ≤ 5 := by
      simp only [List.mem_cons, List.not_mem_nil, or_false] at ht'
      rcases ht' with rfl | rfl | rfl <;> decide
    have hst : (s ++ t').size ≤ 205 := by rw [ByteArray.size_append]; omega
    clear hc3 ho4 ht'
    go_wp2_with fail
    refine (one_any B w0 _ c a len cap _ 3 HD.out hl (by omega) hc4 (by omega) (by omega)).mono ?_
    rintro e W5 ⟨r, rfl, hc5, ho5⟩
    clear hc4 ho5
    cases r
    · have HP : Hid (DrawnText B w0 (.returned (.string (s ++ t'))) W5) := ⟨_, rfl, by omega, hc5.2.2.1⟩
      clear hc5
      go_wp2
      go_ret
      exact HP.out
    · go_wp2_with fail
      refine (spoilt_any B w0 _ c (s ++ t') a len cap _ HD.out hl (by omega) hc5 (by omega) ⟨#[0, 1, 2, 4, 97]⟩ (by decide) (by decide)).mono ?_
      rintro e W6 ⟨u, rfl, hu, hc6⟩
      have HP : Hid (DrawnText B w0 (.returned (.string u)) W6) := ⟨u, rfl, by omega, hc6.2.2.1⟩
      clear hc5 hc6
      go_wp2
      go_ret
      exact HP.out

set_option maxHeartbeats 400000 in
theorem drawReadFrame_any (B : Nat) (w0 W : World) (a : Option Addr) (len cap : Nat) (hC : Code B w0 a len) (hl : len ≤ 9223372036854775807) (h : Since B w0 W) :
    Calls Try.prog 12 #[.slice a len cap] W (DrawnText B w0) := by
  have HC : Hid (Code B w0 a len) := hC
  have hcur := cur_new a len cap 67 h
  clear hC h
  go_enter Try.func12, Try.ntmps12
  go_wp2_with fail
  refine (frame_any B w0 _ _ a len cap 0 HC.out hl (by omega) hcur).mono ?_
  rintro e W1 ⟨t, rfl, ht, hs⟩
  have HP : Hid (DrawnText B w0 (.returned (.string t)) W1) := ⟨t, rfl, ht, hs⟩
  clear hcur hs
  go_wp2
  go_ret
  exact HP.out
end Go.Proofs.Ytijlhjfllfjllaa
