/-
  'takeLetter' of the program.
-/
import Derived.Test.YtkkamigaolejiaxFlTakeE
namespace Go.Proofs.Ytkkamigaolejiax
open Go.RowKit
set_option linter.unusedVariables false

set_option maxRecDepth 100000 in
set_option maxHeartbeats 2000000 in
theorem takeLetterA_any (W : World) (B : Nat) (x y z l : Value) (xs ys zs : List Value) (f : FD) (n : Nat) (h : SF W B x y z l xs ys zs f n) (to by1 u r : Nat) (seq : Int) (hto : to < n) (hu : u < n) (hr : ixD (debtsL n f.lk) (to : Int) (by1 : Int) = (r : Int)) (hrm : r < (debtsL n f.lk).length) :
    Calls Try.prog 65 #[.agg #[x, y, z, l], .agg #[.int .i64 (to : Int), .int .i64 (by1 : Int), .int .i64 (u : Int), .int .i64 seq, .bool true]] W fun e W' => e = .returned (.slice none 0 0) ∧ SF W' B x y z l xs ys zs (takeA f to u seq r) n ∧ Turned (InKO ys zs) W W' := by
  obtain ⟨a0, c0, rfl⟩ := h.own.lk.shape
  obtain ⟨a1, c1, rfl⟩ := h.own.kn.shape
  obtain ⟨a2, c2, rfl⟩ := h.own.ow.shape
  obtain ⟨a3, c3, rfl⟩ := h.own.ln.shape
  have hb1 : Below W.heap.size W (W.alloc (.cells #[.slice a0 f.lk.length c0, .slice a1 f.kn.length c1, .slice a2 f.ow.length c2, .slice a3 f.ln.length c3] 31)) := (Below.refl _ W).alloc (Nat.le_refl _) _
  have hb0 : Below W.heap.size W ((W.alloc (.cells #[.slice a0 f.lk.length c0, .slice a1 f.kn.length c1, .slice a2 f.ow.length c2, .slice a3 f.ln.length c3] 31)).alloc (.cells #[.int .i64 (to : Int), .int .i64 (by1 : Int), .int .i64 (u : Int), .int .i64 seq, .bool true] 66)) := hb1.alloc (by simp) _
  have HX0 : Hid (Bx4 ((W.alloc (.cells #[.slice a0 f.lk.length c0, .slice a1 f.kn.length c1, .slice a2 f.ow.length c2, .slice a3 f.ln.length c3] 31)).alloc (.cells #[.int .i64 (to : Int), .int .i64 (by1 : Int), .int .i64 (u : Int), .int .i64 seq, .bool true] 66)) W.heap.size (.slice a0 f.lk.length c0) (.slice a1 f.kn.length c1) (.slice a2 f.ow.length c2) (.slice a3 f.ln.length c3)) := (Bx4.new W (.slice a0 f.lk.length c0) (.slice a1 f.kn.length c1) (.slice a2 f.ow.length c2) (.slice a3 f.ln.length c3) 31).below ((Below.refl _ _).alloc (Nat.le_refl _) _)
  have HL0 : Hid (Bx5 ((W.alloc (.cells #[.slice a0 f.lk.length c0, .slice a1 f.kn.length c1, .slice a2 f.ow.length c2, .slice a3 f.ln.length c3] 31)).alloc (.cells #[.int .i64 (to : Int), .int .i64 (by1 : Int), .int .i64 (u : Int), .int .i64 seq, .bool true] 66)) (W.heap.size + 1) (.int .i64 (to : Int)) (.int .i64 (by1 : Int)) (.int .i64 (u : Int)) (.int .i64 seq) (.bool true)) := by
    have := Bx5.new (W.alloc (.cells #[.slice a0 f.lk.length c0, .slice a1 f.kn.length c1, .slice a2 f.ow.length c2, .slice a3 f.ln.length c3] 31)) (.int .i64 (to : Int)) (.int .i64 (by1 : Int)) (.int .i64 (u : Int)) (.int .i64 seq) (.bool true) 66
    exact (show Bx5 _ _ _ _ _ _ _ by simpa using this)
  have H0 : Hid (SF ((W.alloc (.cells #[.slice a0 f.lk.length c0, .slice a1 f.kn.length c1, .slice a2 f.ow.length c2, .slice a3 f.ln.length c3] 31)).alloc (.cells #[.int .i64 (to : Int), .int .i64 (by1 : Int), .int .i64 (u : Int), .int .i64 seq, .bool true] 66)) B (.slice a0 f.lk.length c0) (.slice a1 f.kn.length c1) (.slice a2 f.ow.length c2) (.slice a3 f.ln.length c3) xs ys zs f n) := h.below hb0
  have HT0 : Hid (Turned (InKO ys zs) W ((W.alloc (.cells #[.slice a0 f.lk.length c0, .slice a1 f.kn.length c1, .slice a2 f.ow.length c2, .slice a3 f.ln.length c3] 31)).alloc (.cells #[.int .i64 (to : Int), .int .i64 (by1 : Int), .int .i64 (u : Int), .int .i64 seq, .bool true] 66))) := Turned.ofBelow hb0
  have HLW : Hid (∀ b, InKO ys zs b → b < W.heap.size) := fun b hb => hb.elim (fun e => (h.own.kn.inLt b e).2) (fun e => (h.own.ow.inLt b e).2)
  have CT : Hid (∀ w', SF w' B (.slice a0 f.lk.length c0) (.slice a1 f.kn.length c1) (.slice a2 f.ow.length c2) (.slice a3 f.ln.length c3) xs ys zs f n → Calls Try.prog 80 #[.agg #[.slice a0 f.lk.length c0, .slice a1 f.kn.length c1, .slice a2 f.ow.length c2, .slice a3 f.ln.length c3], .agg #[.int .i64 (to : Int), .int .i64 (by1 : Int), .int .i64 (u : Int), .int .i64 seq, .bool true]] w' fun e W' => (∃ v, e = .returned v) ∧ SF W' B (.slice a0 f.lk.length c0) (.slice a1 f.kn.length c1) (.slice a2 f.ow.length c2) (.slice a3 f.ln.length c3) xs ys zs (takeA f to u seq r) n ∧ Turned (InKO ys zs) w' W') := fun w' h' => takeAck_any w' B _ _ _ _ xs ys zs f n h' to by1 u r seq true hto hu hr hrm
  clear h hb0 hb1
  go_enter Try.func65, Try.ntmps65
  generalize hw0 : ((W.alloc (.cells #[.slice a0 f.lk.length c0, .slice a1 f.kn.length c1, .slice a2 f.ow.length c2, .slice a3 f.ln.length c3] 31)).alloc (.cells #[.int .i64 (to : Int), .int .i64 (by1 : Int), .int .i64 (u : Int), .int .i64 seq, .bool true] 66)) = w0 at *
  obtain ⟨-, x0, x1, x2, x3, -⟩ := HX0.out
  obtain ⟨-, l0, l1, l2, l3, l4, -⟩ := HL0.out
  go_wp2_with fail
  clear hw0
  refine (CT.out _ H0.out).mono ?_
  rintro e w1 ⟨⟨v1, rfl⟩, h1', ht1⟩
  have HF : Hid (SF w1 B (.slice a0 f.lk.length c0) (.slice a1 f.kn.length c1) (.slice a2 f.ow.length c2) (.slice a3 f.ln.length c3) xs ys zs (takeA f to u seq r) n ∧ Turned (InKO ys zs) W w1) := ⟨h1', HT0.out.trans ht1⟩
  clear h1' ht1 CT H0 HT0 x0 x1 x2 x3 l0 l1 l2 l3 l4
  go_wp2
  go_ret
  exact ⟨rfl, HF.out.1, HF.out.2⟩

set_option maxRecDepth 100000 in
set_option maxHeartbeats 2000000 in
theorem takeLetterE_any (W : World) (B : Nat) (x y z l : Value) (xs ys zs : List Value) (f : FD) (n : Nat) (h : SF W B x y z l xs ys zs f n) (to by1 u r : Nat) (seq : Int) (hto : to < n) (hu : u < n) (hr : ixD (debtsL n f.lk) (to : Int) (by1 : Int) = (r : Int)) (hrm : r < (debtsL n f.lk).length) (h0 : 0 ≤ seq) (h1 : seq ≤ 60) :
    Calls Try.prog 65 #[.agg #[x, y, z, l], .agg #[.int .i64 (to : Int), .int .i64 (by1 : Int), .int .i64 (u : Int), .int .i64 seq, .bool false]] W fun e W' => ∃ b, e = .returned (.slice (some ⟨b, 0, none⟩) 1 1) ∧ SF W' B x y z l xs ys zs (takeE (debtsL n f.lk) f to u seq r) n ∧ Turned (InKO ys zs) W W' ∧ Bx5 W' b (.int .i64 (by1 : Int)) (.int .i64 (to : Int)) (.int .i64 (u : Int)) (.int .i64 seq) (.bool true) := by
  obtain ⟨a0, c0, rfl⟩ := h.own.lk.shape
  obtain ⟨a1, c1, rfl⟩ := h.own.kn.shape
  obtain ⟨a2, c2, rfl⟩ := h.own.ow.shape
  obtain ⟨a3, c3, rfl⟩ := h.own.ln.shape
  have hb1 : Below W.heap.size W (W.alloc (.cells #[.slice a0 f.lk.length c0, .slice a1 f.kn.length c1, .slice a2 f.ow.length c2, .slice a3 f.ln.length c3] 31)) := (Below.refl _ W).alloc (Nat.le_refl _) _
  have hb0 : Below W.heap.size W ((W.alloc (.cells #[.slice a0 f.lk.length c0, .slice a1 f.kn.length c1, .slice a2 f.ow.length c2, .slice a3 f.ln.length c3] 31)).alloc (.cells #[.int .i64 (to : Int), .int .i64 (by1 : Int), .int .i64 (u : Int), .int .i64 seq, .bool false] 66)) := hb1.alloc (by simp) _
  have HX0 : Hid (Bx4 ((W.alloc (.cells #[.slice a0 f.lk.length c0, .slice a1 f.kn.length c1, .slice a2 f.ow.length c2, .slice a3 f.ln.length c3] 31)).alloc (.cells #[.int .i64 (to : Int), .int .i64 (by1 : Int), .int .i64 (u : Int), .int .i64 seq, .bool false] 66)) W.heap.size (.slice a0 f.lk.length c0) (.slice a1 f.kn.length c1) (.slice a2 f.ow.length c2) (.slice a3 f.ln.length c3)) := (Bx4.new W (.slice a0 f.lk.length c0) (.slice a1 f.kn.length c1) (.slice a2 f.ow.length c2) (.slice a3 f.ln.length c3) 31).below ((Below.refl _ _).alloc (Nat.le_refl _) _)
  have HL0 : Hid (Bx5 ((W.alloc (.cells #[.slice a0 f.lk.length c0, .slice a1 f.kn.length c1, .slice a2 f.ow.length c2, .slice a3 f.ln.length c3] 31)).alloc (.cells #[.int .i64 (to : Int), .int .i64 (by1 : Int), .int .i64 (u : Int), .int .i64 seq, .bool false] 66)) (W.heap.size + 1) (.int .i64 (to : Int)) (.int .i64 (by1 : Int)) (.int .i64 (u : Int)) (.int .i64 seq) (.bool false)) := by
    have := Bx5.new (W.alloc (.cells #[.slice a0 f.lk.length c0, .slice a1 f.kn.length c1, .slice a2 f.ow.length c2, .slice a3 f.ln.length c3] 31)) (.int .i64 (to : Int)) (.int .i64 (by1 : Int)) (.int .i64 (u : Int)) (.int .i64 seq) (.bool false) 66
    exact (show Bx5 _ _ _ _ _ _ _ by simpa using this)
  have H0 : Hid (SF ((W.alloc (.cells #[.slice a0 f.lk.length c0, .slice a1 f.kn.length c1, .slice a2 f.ow.length c2, .slice a3 f.ln.length c3] 31)).alloc (.cells #[.int .i64 (to : Int), .int .i64 (by1 : Int), .int .i64 (u : Int), .int .i64 seq, .bool false] 66)) B (.slice a0 f.lk.length c0) (.slice a1 f.kn.length c1) (.slice a2 f.ow.length c2) (.slice a3 f.ln.length c3) xs ys zs f n) := h.below hb0
  have HT0 : Hid (Turned (InKO ys zs) W ((W.alloc (.cells #[.slice a0 f.lk.length c0, .slice a1 f.kn.length c1, .slice a2 f.ow.length c2, .slice a3 f.ln.length c3] 31)).alloc (.cells #[.int .i64 (to : Int), .int .i64 (by1 : Int), .int .i64 (u : Int), .int .i64 seq, .bool false] 66))) := Turned.ofBelow hb0
  have HLW : Hid (∀ b, InKO ys zs b → b < W.heap.size) := fun b hb => hb.elim (fun e => (h.own.kn.inLt b e).2) (fun e => (h.own.ow.inLt b e).2)
  have CT : Hid (∀ w', SF w' B (.slice a0 f.lk.length c0) (.slice a1 f.kn.length c1) (.slice a2 f.ow.length c2) (.slice a3 f.ln.length c3) xs ys zs f n → Calls Try.prog 81 #[.agg #[.slice a0 f.lk.length c0, .slice a1 f.kn.length c1, .slice a2 f.ow.length c2, .slice a3 f.ln.length c3], .agg #[.int .i64 (to : Int), .int .i64 (by1 : Int), .int .i64 (u : Int), .int .i64 seq, .bool false]] w' fun e W' => (∃ v, e = .returned v) ∧ SF W' B (.slice a0 f.lk.length c0) (.slice a1 f.kn.length c1) (.slice a2 f.ow.length c2) (.slice a3 f.ln.length c3) xs ys zs (takeE (debtsL n f.lk) f to u seq r) n ∧ Turned (InKO ys zs) w' W') := fun w' h' => takeEntry_any w' B _ _ _ _ xs ys zs f n h' to by1 u r seq false hto hu hr hrm h0 h1
  clear h hb0 hb1
  go_enter Try.func65, Try.ntmps65
  generalize hw0 : ((W.alloc (.cells #[.slice a0 f.lk.length c0, .slice a1 f.kn.length c1, .slice a2 f.ow.length c2, .slice a3 f.ln.length c3] 31)).alloc (.cells #[.int .i64 (to : Int), .int .i64 (by1 : Int), .int .i64 (u : Int), .int .i64 seq, .bool false] 66)) = w0 at *
  obtain ⟨-, x0, x1, x2, x3, -⟩ := HX0.out
  obtain ⟨-, l0, l1, l2, l3, l4, -⟩ := HL0.out
  go_wp2_with fail
  clear hw0
  refine (CT.out _ H0.out).mono ?_
  rintro e w1 ⟨⟨v1, rfl⟩, h1', ht1⟩
  have HF : Hid (SF w1 B (.slice a0 f.lk.length c0) (.slice a1 f.kn.length c1) (.slice a2 f.ow.length c2) (.slice a3 f.ln.length c3) xs ys zs (takeE (debtsL n f.lk) f to u seq r) n ∧ Turned (InKO ys zs) W w1) := ⟨h1', HT0.out.trans ht1⟩
  have HL1 : Hid (Bx5 w1 (W.heap.size + 1) (.int .i64 (to : Int)) (.int .i64 (by1 : Int)) (.int .i64 (u : Int)) (.int .i64 seq) (.bool false)) := HL0.out.turned ht1 (fun hb => by have := HLW.out _ hb; omega)
  clear h1' ht1 CT H0 HT0 x0 x1 x2 x3 l0 l1 l2 l3 l4
  obtain ⟨-, l0, l1, l2, l3, l4, -⟩ := HL1.out
  go_wp2
  go_ret
  refine ⟨_, rfl, HF.out.1.below ((Below.refl _ _).alloc (Nat.le_refl _) _), HF.out.2.below0 ((Below.refl _ _).alloc (Nat.le_refl _) _), Bx5.new _ _ _ _ _ _ _⟩
end Go.Proofs.Ytkkamigaolejiax
