/-
  A part taken from its bytes, as the program does it: 'copyNums', 'isStrange', 'bodyIn', 'partOf'.
-/
import Derived.Test.YtijlhjfllfjllaaPartTexts
import Derived.Test.YtijlhjfllfjllaaTake
import Derived.Test.YtijlhjfllfjllaaClone
import Derived.Test.YtijlhjfllfjllaaParts
import Derived.Laws.AppendOwnNone
namespace Go.Proofs.Ytijlhjfllfjllaa
open Go.RowKit

set_option maxRecDepth 100000 in
set_option maxHeartbeats 1000000 in
theorem copyNums_any (W : World) (B : Nat) (v : Value) (zs : List Int) (h : Own W B v zs) (hl : zs.length ≤ 1048576) :
    Calls Try.prog 76 #[v] W fun e W' => ∃ v', e = .returned v' ∧ Own W' W.heap.size v' zs ∧ Below W.heap.size W W' := by
  obtain ⟨i0, hi, hz0, hz1, hz2⟩ := info_parts info3
  rcases h.2 with ⟨rfl, hn⟩ | ⟨g, cap, cur, rfl, hB, hg, -⟩
  · obtain rfl : zs = [] := List.eq_nil_of_length_eq_zero hn
    clear h
    go_enter Try.func76, Try.ntmps76
    go_wp2_with (at_builtin; refine wpList_append_own_none (by rfl) (.const (.slice none 0 0)) (.tmp 3) 37 (by rfl) W.heap.size 3 i0 1 Try.underlying37 hi (.slice none 0 0) 0 [] (by rfl) (World.ownsRow_nil _ _ _ _) (by rfl) ?_)
    go_ret
    exact ⟨_, rfl, Own.nil _ _, Below.refl _ _⟩
  · have HC : Hid (∀ j u, (zs.map (Value.int .i64))[j]? = some u → W.cell? ((⟨g, 0, none⟩ : Addr).add j) = some u) := World.ownsRow.cells h rfl
    have HO : Hid (∀ u ∈ zs.map (Value.int .i64), u.oneCell' = true) := fun u hu => by
      obtain ⟨z, -, rfl⟩ := List.mem_map.1 hu
      rfl
    clear h hg
    go_enter Try.func76, Try.ntmps76
    go_wp2_with (at_builtin; refine wpList_append_own _ (by rfl) (.const (.slice none 0 0)) (.tmp 3) 37 (by rfl) W.heap.size 3 i0 (.int .i64 0) 1 8 Try.underlying37 hi hz0 hz1 hz2 rfl (by decide) (.slice none 0 0) 0 [] (by rfl) (World.ownsRow_nil _ _ _ _) ⟨g, 0, none⟩ zs.length cap (zs.map (Value.int .i64)) (by rfl) (by simp) HC.out HO.out (by unfold maxLen; omega) (by omega) (Nat.le_refl _) ?_; intro v' w1 hown hgrow _)
    have HW : Hid (Own w1 W.heap.size v' zs) := by show Own _ _ _ _; unfold Own; simpa using hown
    have HB : Hid (Below W.heap.size W w1) := (Below.refl _ W).grown hgrow (Nat.le_refl _) (fun k hk => by cases hk)
    clear hown hgrow
    go_ret
    exact ⟨_, rfl, HW.out, HB.out⟩

theorem strange_yes (w : World) : Calls Try.prog 47 #[strangeV] w fun e w' => e = .returned (.bool true) ∧ w' = w := by
  have ta : (Instr.typeAssert (.iface 114 (.agg #[])) 84 114 true).run Try.prog w = .ok (.tuple #[.agg #[], .bool true]) w := by kernel_rfl
  unfold strangeV
  go_enter Try.func47, Try.ntmps47
  go_wp2
  go_ret
  exact ⟨rfl, rfl⟩

/-- What is not strange: broken, or one of the three. -/
def plainV (b : Value) : Prop := b = brokenV ∨ (∃ t, b = .iface 116 (.agg #[.string t])) ∨ (∃ v, b = .iface 118 (.agg #[v])) ∨ (∃ v, b = .iface 120 (.agg #[v]))

theorem strange_no (b : Value) (w : World) (h : plainV b) : Calls Try.prog 47 #[b] w fun e w' => e = .returned (.bool false) ∧ w' = w := by
  rcases h with rfl | ⟨t, rfl⟩ | ⟨v, rfl⟩ | ⟨v, rfl⟩
  · have ta : (Instr.typeAssert (.iface 113 (.agg #[])) 84 114 true).run Try.prog w = .ok (.tuple #[.agg #[], .bool false]) w := by kernel_rfl
    unfold brokenV
    go_enter Try.func47, Try.ntmps47
    go_wp2
    go_ret
    exact ⟨rfl, rfl⟩
  · have ta : (Instr.typeAssert (.iface 116 (.agg #[.string t])) 84 114 true).run Try.prog w = .ok (.tuple #[.agg #[], .bool false]) w := by kernel_rfl
    go_enter Try.func47, Try.ntmps47
    go_wp2
    go_ret
    exact ⟨rfl, rfl⟩
  · have ta : (Instr.typeAssert (.iface 118 (.agg #[v])) 84 114 true).run Try.prog w = .ok (.tuple #[.agg #[], .bool false]) w := by kernel_rfl
    go_enter Try.func47, Try.ntmps47
    go_wp2
    go_ret
    exact ⟨rfl, rfl⟩
  · have ta : (Instr.typeAssert (.iface 120 (.agg #[v])) 84 114 true).run Try.prog w = .ok (.tuple #[.agg #[], .bool false]) w := by kernel_rfl
    go_enter Try.func47, Try.ntmps47
    go_wp2
    go_ret
    exact ⟨rfl, rfl⟩

/-- The numbers in a text. -/
def numsIn (t : ByteArray) : List Int := numsTo t (t.size / 2)

/-- What 'bodyIn' answers, told apart: strange; a name; a list or a flag with its numbers; broken. -/
def BodyIs (W : World) (B : Nat) (k : Int) (t : ByteArray) (b : Value) : Prop :=
  (¬ (1 ≤ k ∧ k ≤ 4) ∧ b = strangeV) ∨ (k = 1 ∧ b = .iface 116 (.agg #[.string t])) ∨
  ((k = 2 ∨ k = 3 ∨ k = 4) ∧ takeB t = true ∧ ∃ a c, Own W B (.slice a (numsIn t).length c) (numsIn t) ∧ b = bodyV k ⟨#[]⟩ (numsIn t).length (.slice a (numsIn t).length c)) ∨
  ((k = 2 ∨ k = 3 ∨ k = 4) ∧ takeB t = false ∧ b = brokenV)

theorem bodyV_plain (k : Int) (hk : k = 2 ∨ k = 3 ∨ k = 4) (n : Nat) (v : Value) : plainV (bodyV k ⟨#[]⟩ n v) := by
  unfold bodyV
  rw [if_neg (by omega)]
  by_cases h : k = 2 ∨ k = 3
  · rw [if_pos h, if_pos (show (ByteArray.mk #[]).size = 0 from rfl)]; exact .inr (.inr (.inl ⟨v, rfl⟩))
  · rw [if_neg h, if_pos (by omega), if_pos (show (ByteArray.mk #[]).size = 0 from rfl)]; exact .inr (.inr (.inr ⟨v, rfl⟩))
theorem bodyV_strange (k : Int) (hk : ¬ (1 ≤ k ∧ k ≤ 4)) (t : ByteArray) (n : Nat) (v : Value) : bodyV k t n v = strangeV := by
  unfold bodyV
  rw [if_neg (by omega), if_neg (by omega), if_neg (by omega)]

set_option maxRecDepth 100000 in
set_option maxHeartbeats 4000000 in
theorem bodyIn_any (W : World) (k : Int) (t : ByteArray) (ht : t.size ≤ 255) :
    Calls Try.prog 46 #[.int .i64 k, .string t] W fun e W' => ∃ b, e = .returned b ∧ BodyIs W' W.heap.size k t b ∧ Below W.heap.size W W' := by
  by_cases k1 : k = 1
  · subst k1
    go_enter Try.func46, Try.ntmps46
    go_wp2_with fail
    refine (bodyOf_any _ 1 t none 0 0 (by omega)).mono ?_
    rintro e w1 ⟨rfl, hb⟩
    rw [show bodyV 1 t 0 (.slice none 0 0) = .iface 116 (.agg #[.string t]) from rfl]
    have HB : Hid (Below W.heap.size W w1) := hb
    clear hb
    go_wp2
    go_ret
    exact ⟨_, rfl, .inr (.inl ⟨rfl, rfl⟩), HB.out⟩
  · have d1 : (k == 1) = false := by simp [k1]
    cases hT : takeB t with
    | true =>
      have HT : Hid (takeB t = true) := hT
      have HN : Hid ((numsIn t).length ≤ 128) := by show _ ≤ _; unfold numsIn; rw [numsTo_len]; omega
      clear hT
      go_enter Try.func46, Try.ntmps46
      go_wp2_with fail
      refine (implTake_yes t _ HT.out).mono ?_
      rintro e w1 ⟨v1, rfl, ho, hb⟩
      have ho' : Own w1 W.heap.size v1 (numsIn t) := ho
      obtain ⟨a, c, rfl⟩ := ho'.shape
      have HO : Hid (Own w1 W.heap.size (.slice a (numsIn t).length c) (numsIn t)) := ho'
      have HB : Hid (Since W.heap.size W w1) := (Since.start W).step hb
      clear ho hb ho'
      go_wp2_with fail
      refine (bodyOf_any _ k ⟨#[]⟩ a (numsIn t).length c (by have := HN.out; omega)).mono ?_
      rintro e w2 ⟨rfl, hb⟩
      have HO2 : Hid (Own w2 W.heap.size (.slice a (numsIn t).length c) (numsIn t)) := HO.out.below hb
      have HB2 : Hid (Below W.heap.size W w2) := (HB.out.step hb).1
      have HIS : Hid (BodyIs w2 W.heap.size k t (bodyV k ⟨#[]⟩ (numsIn t).length (.slice a (numsIn t).length c))) := by
        by_cases h4 : 1 ≤ k ∧ k ≤ 4
        · exact .inr (.inr (.inl ⟨by omega, HT.out, a, c, HO2.out, rfl⟩))
        · exact .inl ⟨h4, bodyV_strange k h4 _ _ _⟩
      clear hb
      generalize bodyV k ⟨#[]⟩ (numsIn t).length (.slice a (numsIn t).length c) = b at *
      go_wp2
      go_ret
      exact ⟨_, rfl, HIS.out, HB2.out⟩
    | false =>
      have HT : Hid (takeB t = false) := hT
      have HM : Hid (t.size ≤ maxLen) := by show _ ≤ _; unfold maxLen; omega
      clear hT
      go_enter Try.func46, Try.ntmps46
      go_wp2_with fail
      refine (implTake_no t _ HM.out HT.out).mono ?_
      rintro e w1 ⟨rfl, rfl⟩
      go_wp2_with fail
      refine (bodyOf_any _ k ⟨#[]⟩ none 0 0 (by omega)).mono ?_
      rintro e w2 ⟨rfl, hb⟩
      have HB2 : Hid (Below w1.heap.size w1 w2) := hb
      clear hb
      by_cases h4 : 1 ≤ k ∧ k ≤ 4
      · have HPL : Hid (plainV (bodyV k ⟨#[]⟩ 0 (.slice none 0 0))) := bodyV_plain k (by omega) _ _
        have HIS : Hid (BodyIs w2 w1.heap.size k t (.iface 113 (.agg #[]))) := .inr (.inr (.inr ⟨by omega, HT.out, rfl⟩))
        generalize bodyV k ⟨#[]⟩ 0 (.slice none 0 0) = b at *
        go_wp2_with fail
        refine (strange_no b _ HPL.out).mono ?_
        rintro e w3 ⟨rfl, rfl⟩
        go_wp2
        go_ret
        exact ⟨_, rfl, HIS.out, HB2.out⟩
      · rw [bodyV_strange k h4]
        have HIS : Hid (BodyIs w2 w1.heap.size k t strangeV) := .inl ⟨h4, rfl⟩
        go_wp2_with fail
        refine (strange_yes _).mono ?_
        rintro e w3 ⟨rfl, rfl⟩
        go_wp2
        go_ret
        exact ⟨_, rfl, HIS.out, HB2.out⟩

/-- The part of a kind and a text, and whether it is good. -/
def partIn (k : Int) (t : ByteArray) : PD := if k = 1 then ⟨k, t, []⟩ else ⟨k, ⟨#[]⟩, numsIn t⟩
def goodIn (k : Int) (t : ByteArray) : Bool := if k = 1 then nameB t else takeB t && goodB k ⟨#[]⟩ (numsIn t)

theorem BodyIs.below {W W' : World} {B : Nat} {k : Int} {t : ByteArray} {b : Value} (h : BodyIs W B k t b) (hb : Below W.heap.size W W') : BodyIs W' B k t b := by
  rcases h with h | h | ⟨hk, ht, a, c, ho, e⟩ | h
  · exact .inl h
  · exact .inr (.inl h)
  · exact .inr (.inr (.inl ⟨hk, ht, a, c, ho.below hb, e⟩))
  · exact .inr (.inr (.inr h))

/-- What 'good' answers of it. -/
theorem isGood_any (W : World) (B : Nat) (k : Int) (t : ByteArray) (b : Value) (h : BodyIs W B k t b) (hk : 1 ≤ k ∧ k ≤ 4) (ht : t.size ≤ 255) :
    ∃ (ty : TypeId) (x : Value) (f : FuncId), b = .iface ty x ∧ (∀ w, (method 251 ty x "loop.example/g00575/impl.good").run Try.prog w = .ok (f, x) w) ∧
      (Calls Try.prog f #[x] W fun e W' => e = .returned (.bool (goodIn k t)) ∧ Below W.heap.size W W') ∧
      (f = 113 ∨ f = 115 ∨ f = 118 ∨ f = 111 ∨ f = 112) := by
  rcases h with ⟨h, -⟩ | ⟨rfl, rfl⟩ | ⟨hk2, hT, a, c, ho, rfl⟩ | ⟨hk2, hT, rfl⟩
  · exact absurd hk h
  · exact ⟨_, _, _, rfl, method_name t, nameGood_any t W (by omega), by simp⟩
  · have hn : (numsIn t).length ≤ 1048576 := by unfold numsIn; rw [numsTo_len]; omega
    obtain ⟨ty, x, f, e, hm, hc, hf⟩ := bodyGood_any W k ⟨#[]⟩ a c (numsIn t) ho.reads hn (by show 0 ≤ _; omega)
    refine ⟨ty, x, f, e, hm, ?_, hf⟩
    rw [show goodIn k t = goodB k ⟨#[]⟩ (numsIn t) from by unfold goodIn; rw [if_neg (by omega), hT, Bool.true_and]]
    exact hc
  · refine ⟨_, _, _, rfl, method_broken, ?_, by simp⟩
    rw [show goodIn k t = false from by unfold goodIn; rw [if_neg (by omega), hT, Bool.false_and]]
    exact brokenGood W

theorem old_cell {W w1 : World} {cs : Array Value} {ty : TypeId} {o2 : Obj} (hb : Below ((W.alloc (.cells cs ty)).alloc o2).heap.size ((W.alloc (.cells cs ty)).alloc o2) w1) (o : Nat) : w1.cell? ⟨W.heap.size, o, none⟩ = cs[o]? := by
  have h : Below (W.alloc (.cells cs ty)).heap.size (W.alloc (.cells cs ty)) w1 := ((Below.refl _ _).alloc (Nat.le_refl _) o2).trans (hb.mono (by simp))
  rw [h.cell (p := ⟨W.heap.size, o, none⟩) (by simp), World.cell?_alloc_at _ _ _ _ rfl]

theorem put3 {W : World} {b : Nat} {c0 c1 c2 : Value} (x y z : Value) (h0 : W.cell? ⟨b, 0, none⟩ = some c0) (h1 : W.cell? ⟨b, 1, none⟩ = some c1) (h2 : W.cell? ⟨b, 2, none⟩ = some c2) :
    (((W.setCell ⟨b, 0, none⟩ x).setCell ⟨b, 1, none⟩ y).setCell ⟨b, 2, none⟩ z).cell? ⟨b, 0, none⟩ = some x ∧ (((W.setCell ⟨b, 0, none⟩ x).setCell ⟨b, 1, none⟩ y).setCell ⟨b, 2, none⟩ z).cell? ⟨b, 1, none⟩ = some y ∧ (((W.setCell ⟨b, 0, none⟩ x).setCell ⟨b, 1, none⟩ y).setCell ⟨b, 2, none⟩ z).cell? ⟨b, 2, none⟩ = some z := by
  refine ⟨?_, ?_, ?_⟩
  · rw [World.cell?_setCell_other _ _ _ _ (by simp), World.cell?_setCell_other _ _ _ _ (by simp), World.cell?_setCell_same _ _ _ h0]
  · rw [World.cell?_setCell_other _ _ _ _ (by simp)]
    refine World.cell?_setCell_same _ _ _ (?_ : _ = some c1)
    rw [World.cell?_setCell_other _ _ _ _ (by simp)]; exact h1
  · refine World.cell?_setCell_same _ _ _ (?_ : _ = some c2)
    rw [World.cell?_setCell_other _ _ _ _ (by simp), World.cell?_setCell_other _ _ _ _ (by simp)]; exact h2

set_option maxRecDepth 100000 in
set_option maxHeartbeats 4000000 in
/-- 'partOf' of a good one. -/
theorem partOf_any (W : World) (B : Nat) (k : Int) (t : ByteArray) (b : Value) (h : BodyIs W B k t b) (hk : 1 ≤ k ∧ k ≤ 4) (ht : t.size ≤ 255) (hg : goodIn k t = true) :
    Calls Try.prog 48 #[.int .i64 k, b] W fun e W' => ∃ x, e = .returned (partV (partIn k t).k (partIn k t).t x) ∧ Own W' W.heap.size x (partIn k t).zs ∧ Below W.heap.size W W' := by
  rcases h with ⟨h, -⟩ | ⟨rfl, rfl⟩ | ⟨hk2, hT, a, c, ho, rfl⟩ | ⟨hk2, hT, rfl⟩
  · exact absurd hk h
  · rw [show partIn 1 t = ⟨1, t, []⟩ from rfl]
    have ta := as_name t (W.alloc (.cells #[.int .i64 0, .string ⟨#[]⟩, .slice none 0 0] 74))
    clear hg hk
    unfold partV
    go_enter Try.func48, Try.ntmps48
    go_wp2_with fail
    refine (clone_any t _ (by omega)).mono ?_
    rintro e w1 ⟨rfl, hb⟩
    obtain ⟨hc, hf⟩ := bcell hb
    obtain ⟨z0, z1, z2⟩ := put3 (.int .i64 1) (.string t) (.slice none 0 0) (old_cell hb 0) (old_cell hb 1) (old_cell hb 2)
    have HB : Hid (Below W.heap.size W w1) := (((Below.refl _ W).alloc (Nat.le_refl _) _).alloc (by simp) _).trans (hb.mono (by simp; omega))
    clear hb
    go_wp2
    refine bodyPost_ret (v := .agg #[.int .i64 1, .string t, .slice none 0 0]) (by simp [results, Try.results48, go_sem, z0, z1, z2]) rfl ⟨_, rfl, Own.nil _ _, ?_⟩
    exact ((HB.out.setCell (by simp) _).setCell (by simp) _).setCell (by simp) _
  · have hn : (numsIn t).length ≤ 1048576 := by unfold numsIn; rw [numsTo_len]; omega
    rw [show partIn k t = ⟨k, ⟨#[]⟩, numsIn t⟩ from by unfold partIn; rw [if_neg (by omega)]]
    generalize numsIn t = zs at *
    have HO : Hid (∀ W1, Below W.heap.size W W1 → Own W1 B (.slice a zs.length c) zs) := fun _ hb => ho.below hb
    by_cases h23 : k = 2 ∨ k = 3
    · rw [show bodyV k ⟨#[]⟩ zs.length (.slice a zs.length c) = .iface 118 (.agg #[.slice a zs.length c]) from by unfold bodyV; rw [if_neg (by omega), if_pos h23, if_pos (show (ByteArray.mk #[]).size = 0 from rfl)]]
      have t1 := list_as_name (.slice a zs.length c) (W.alloc (.cells #[.int .i64 0, .string ⟨#[]⟩, .slice none 0 0] 74))
      have t2 := as_list (.slice a zs.length c) (W.alloc (.cells #[.int .i64 0, .string ⟨#[]⟩, .slice none 0 0] 74))
      clear ho hg hk hk2 hT h23
      unfold partV
      go_enter Try.func48, Try.ntmps48
      go_wp2_with fail
      refine (copyNums_any _ B _ zs (HO.out _ ?_) hn).mono ?_
      · exact ((Below.refl _ W).alloc (Nat.le_refl _) _).alloc (by simp) _
      rintro e w1 ⟨v', rfl, ho', hb⟩
      obtain ⟨a', c', rfl⟩ := ho'.shape
      obtain ⟨hc, hf⟩ := bcell hb
      obtain ⟨z0, z1, z2⟩ := put3 (.int .i64 k) (.string ⟨#[]⟩) (.slice a' zs.length c') (old_cell hb 0) (old_cell hb 1) (old_cell hb 2)
      have HO1 : Hid (Own w1 (W.heap.size + 1 + 1) (.slice a' zs.length c') zs) := by show Own _ _ _ _; simpa using ho'
      have HB : Hid (Below W.heap.size W w1) := (((Below.refl _ W).alloc (Nat.le_refl _) _).alloc (by simp) _).trans (hb.mono (by simp; omega))
      clear hb ho'
      go_wp2
      refine bodyPost_ret (v := .agg #[.int .i64 k, .string ⟨#[]⟩, .slice a' zs.length c']) (by simp [results, Try.results48, go_sem, z0, z1, z2]) rfl ⟨_, rfl, ?_, ?_⟩
      · exact (((HO1.out.setCell (by simp; omega) _).setCell (by simp; omega) _).setCell (by simp; omega) _).mono (by omega)
      · exact ((HB.out.setCell (by simp) _).setCell (by simp) _).setCell (by simp) _
    · rw [show bodyV k ⟨#[]⟩ zs.length (.slice a zs.length c) = .iface 120 (.agg #[.slice a zs.length c]) from by unfold bodyV; rw [if_neg (by omega), if_neg h23, if_pos (by omega), if_pos (show (ByteArray.mk #[]).size = 0 from rfl)]]
      have t1 := flag_as_name (.slice a zs.length c) (W.alloc (.cells #[.int .i64 0, .string ⟨#[]⟩, .slice none 0 0] 74))
      have t2 := flag_as_list (.slice a zs.length c) (W.alloc (.cells #[.int .i64 0, .string ⟨#[]⟩, .slice none 0 0] 74))
      have t3 := as_flag (.slice a zs.length c) (W.alloc (.cells #[.int .i64 0, .string ⟨#[]⟩, .slice none 0 0] 74))
      clear ho hg hk hk2 hT h23
      unfold partV
      go_enter Try.func48, Try.ntmps48
      go_wp2_with fail
      refine (copyNums_any _ B _ zs (HO.out _ ?_) hn).mono ?_
      · exact ((Below.refl _ W).alloc (Nat.le_refl _) _).alloc (by simp) _
      rintro e w1 ⟨v', rfl, ho', hb⟩
      obtain ⟨a', c', rfl⟩ := ho'.shape
      obtain ⟨hc, hf⟩ := bcell hb
      obtain ⟨z0, z1, z2⟩ := put3 (.int .i64 k) (.string ⟨#[]⟩) (.slice a' zs.length c') (old_cell hb 0) (old_cell hb 1) (old_cell hb 2)
      have HO1 : Hid (Own w1 (W.heap.size + 1 + 1) (.slice a' zs.length c') zs) := by show Own _ _ _ _; simpa using ho'
      have HB : Hid (Below W.heap.size W w1) := (((Below.refl _ W).alloc (Nat.le_refl _) _).alloc (by simp) _).trans (hb.mono (by simp; omega))
      clear hb ho'
      go_wp2
      refine bodyPost_ret (v := .agg #[.int .i64 k, .string ⟨#[]⟩, .slice a' zs.length c']) (by simp [results, Try.results48, go_sem, z0, z1, z2]) rfl ⟨_, rfl, ?_, ?_⟩
      · exact (((HO1.out.setCell (by simp; omega) _).setCell (by simp; omega) _).setCell (by simp; omega) _).mono (by omega)
      · exact ((HB.out.setCell (by simp) _).setCell (by simp) _).setCell (by simp) _
  · rw [show goodIn k t = false from by unfold goodIn; rw [if_neg (by omega), hT, Bool.false_and]] at hg
    cases hg
end Go.Proofs.Ytijlhjfllfjllaa
