/-
  What the cursor's 'parts' answers, and 'DrawFrameText': a list of parts, each with numbers of its own.
-/
import Derived.Test.YtijlhjfllfjllaaPart2
import Derived.Test.YtijlhjfllfjllaaOwnParts
namespace Go.Proofs.Ytijlhjfllfjllaa
open Go.RowKit

theorem owns_only {W W' : World} {B c e s n : Nat} {v : Value} {xs : List Value} (h : W.ownsRow B e s v n xs) (ho : Only c W W') (hc : c < B) : W'.ownsRow B e s v n xs := by
  refine ⟨h.1, ?_⟩
  rcases h.2 with hn | ⟨g, cap, cur, hv, h1, hg, hrest⟩
  · exact .inl hn
  · exact .inr ⟨g, cap, cur, hv, h1, (ho.2 g (Array.getElem?_eq_some_iff.1 hg).1 (by omega)).trans hg, hrest⟩

/-- 'append(l, p)' of one part, the cursor's block having turned between. -/
theorem list_putPc {ops : Array Oper} {rest : List Oper} {o : Oper} {a : Act} {W w : World} {Q : Exit → Act → World → Prop} (hgd : o.guard = none) (s x : Operand)
    (ho : o.op = .call { callee := .builtin .append, args := #[s, x], argTypes := #[23, 23] }) (B c0 : Nat) (v : Value) (ps : List PD) (p : PD) (y : Value) (hs : a.eval s = v)
    (hown : OwnP W B v ps) (hb : Only c0 W w) (hc0 : c0 < B) (hBW : B ≤ W.heap.size) (hy : Own w W.heap.size y p.zs)
    (b c : Nat) (hx : a.eval x = .slice (some ⟨b, 0, none⟩) 1 c) (hz : Box3 w b (.int .i64 p.k) (.string p.t) y) (hlen : ps.length ≤ 1000)
    (h : ∀ v' w', OwnP w' B v' (ps ++ [p]) → Below B w w' → w.heap.size ≤ w'.heap.size → wpList Try.prog ops Q rest (a.put o.dst v') w') : wpList Try.prog ops Q (o :: rest) a w := by
  obtain ⟨i0, hi, hz0, hz1, hz2⟩ := info_parts infoP
  obtain ⟨xs, h1, h2, h3, h4⟩ := hown
  have hBw : B ≤ w.heap.size := Nat.le_trans hBW hb.1
  have h2w := owns_only h2 hb hc0
  obtain ⟨ay, cy, ey⟩ := hy.shape
  refine wpList_append_lies w hgd s x 23 ho B 74 i0 _ 3 48 Try.underlying23 hi hz0 hz1 hz2 rfl (by decide) v ps.length (cellsP ps xs) hs h2w ⟨b, 0, none⟩ 1 c [.int .i64 p.k, .string p.t, y] hx rfl ?_ ?_ (by decide) ?_ ?_ hBw w.heap.size rfl ?_
  · intro j u hu
    match j, hu with
    | 0, hu => simp at hu; subst hu; simpa [Addr.add] using hz.2.1
    | 1, hu => simp at hu; subst hu; simpa [Addr.add] using hz.2.2.1
    | 2, hu => simp at hu; subst hu; simpa [Addr.add] using hz.2.2.2
  · intro u hu
    simp at hu
    rcases hu with rfl | rfl | rfl
    · rfl
    · rfl
    · rw [ey]; rfl
  · unfold maxLen; omega
  · omega
  · intro g cap w' k1 k2 k3 k4
    refine h _ w' ⟨xs ++ [y], by simp [h1], ?_, ?_, ?_⟩ ?_ k2.size
    · rw [cellsP_snoc ps xs p y h1]
      simpa using k1
    · intro j hp hx'
      have far : ∀ {z zs B'}, Own w B' z zs → Own w' B' z zs := fun hz' => hz'.grow k2 (rows_apart h2w hz')
      by_cases hj : j < ps.length
      · have e1 : (xs ++ [y])[j] = xs[j]'(by omega) := List.getElem_append_left (by omega)
        have e2 : (ps ++ [p])[j] = ps[j] := List.getElem_append_left hj
        rw [e1, e2]
        exact far ((h3 j hj (by omega)).only hb hc0)
      · have hj2 : j = ps.length := by simp at hp; omega
        subst hj2
        have e1 : (xs ++ [y])[ps.length] = y := by rw [List.getElem_append_right (by omega)]; simp [h1]
        have e2 : (ps ++ [p])[ps.length] = p := by simp
        rw [e1, e2]
        exact (far hy).mono hBW
    · refine List.pairwise_append.2 ⟨h4, by simp, fun u hu z hz' => ?_⟩
      obtain rfl : z = y := by simpa using hz'
      obtain ⟨j, hj, rfl⟩ := List.getElem_of_mem hu
      intro b' c' hb' hc'
      have l1 := (World.ownsRow.lt (h3 j (by omega) hj) b' hb').2
      have l2 := (World.ownsRow.lt hy c' hc').1
      omega
    · exact (Below.refl B w).grown k2 hBw (fun k hk => (World.ownsRow.lt h2w k hk).1)

/-- Parts as they are drawn are small. -/
def SmallPs (ps : List PD) : Prop := ∀ p ∈ ps, p.t.size ≤ 20 ∧ p.zs.length ≤ 7
theorem SmallPs.fit {ps : List PD} (h : SmallPs ps) : ∀ j (hj : j < ps.length), Fit ps[j] := fun j hj => by
  have := h _ (List.getElem_mem hj)
  exact ⟨by omega, by omega⟩
theorem SmallPs.snoc {ps : List PD} {p : PD} (h : SmallPs ps) (h1 : p.t.size ≤ 20) (h2 : p.zs.length ≤ 7) : SmallPs (ps ++ [p]) := fun q hq => by
  rcases List.mem_append.1 hq with hq | hq
  · exact h q hq
  · obtain rfl : q = p := by simpa using hq
    exact ⟨h1, h2⟩

def PartsPost (B : Nat) (w0 W : World) (c : Nat) (a : Option Addr) (len cap m : Nat) (e : Ending) (W' : World) : Prop :=
  ∃ v ps, e = .returned v ∧ OwnP W' W.heap.size v ps ∧ ps.length ≤ 11 ∧ SmallPs ps ∧ Cur B w0 W' c a len cap (m + 700) ∧ Only c W W'

def PartsAt (B : Nat) (w0 W : World) (c : Nat) (a : Option Addr) (len cap m k : Nat) (v : Value) (w : World) : Prop :=
  ∃ ps, OwnP w W.heap.size v ps ∧ ps.length + k ≤ 11 ∧ SmallPs ps ∧ Cur B w0 w c a len cap (m + 6 + 60 * (11 - k)) ∧ Only c W w

set_option maxRecDepth 100000 in
set_option maxHeartbeats 2000000 in
theorem parts_any (B : Nat) (w0 W : World) (c : Nat) (a : Option Addr) (len cap m : Nat) (hC : Code B w0 a len) (hl : len ≤ 9223372036854775807) (hm : m ≤ 1000) (h : Cur B w0 W c a len cap m) :
    Calls Try.prog 38 #[.pointer (some ⟨c, 0, none⟩)] W (PartsPost B w0 W c a len cap m) := by
  have HD : Hid (Code B w0 a len) := hC
  have hcW : c < W.heap.size := h.2.1
  clear hC
  go_enter Try.func38, Try.ntmps38
  go_wp2_with fail
  refine (pick_any B w0 _ c a len cap m 6 HD.out hl (by omega) h (by omega) (by omega)).mono ?_
  rintro e W1 ⟨q, rfl, q0, q1, hc1, ho1⟩
  obtain ⟨n, rfl⟩ : ∃ n : Nat, q = n := ⟨q.toNat, by omega⟩
  clear h
  go_wp2_with fail
  refine (one_any B w0 _ c a len cap _ 20 HD.out hl (by omega) hc1 (by omega) (by omega)).mono ?_
  rintro e W2 ⟨r, rfl, hc2, ho2⟩
  have ho2' := ho1.trans ho2
  clear hc1 ho1 ho2
  cases r
  · have HS : Hid (∃ (v : Value) (k : Nat), k ≤ 11 ∧ Value.int .i64 (n : Int) = .int .i64 (k : Int) ∧ v = .slice none 0 0 ∧ PartsAt B w0 W c a len cap m k v W2) :=
      ⟨_, n, by omega, rfl, rfl, [], OwnP.nil _ _, by simp; omega, fun _ h => by simp at h, hc2.mono (by omega), ho2'⟩
    clear hc2 ho2'
    go_wp2
    go_loopw [3, 4] (fun l i wr => ∃ (v : Value) (k : Nat), k ≤ 11 ∧ i = .int .i64 (k : Int) ∧ v = l ∧ PartsAt B w0 W c a len cap m k v wr) (fun _ i _ => (intOf i).toNat)
    case atStart => exact HS.out
    case round =>
      obtain ⟨v, k, hk, rfl, rfl, hat⟩ := hrel
      clear HS
      by_cases hk0 : 0 < k
      · have d0 : decide ((0 : Int) < (k : Int)) = true := decide_eq_true (by omega)
        obtain ⟨ps, hown, hpl, hsm, hcur, hon⟩ := hat
        have HO : Hid (OwnP wr W.heap.size v ps) := hown
        have HN : Hid (Only c W wr) := hon
        have HSM : Hid (SmallPs ps) := hsm
        clear hown hon hsm
        go_wp2_with fail
        refine (part_any B w0 _ c a len cap _ HD.out hl (by omega) hcur).mono ?_
        rintro e W4 ⟨k4, t4, zs4, y4, rfl, ht4, hz4, hy4, hc4, ho4⟩
        obtain ⟨ay, cy, rfl⟩ := hy4.shape
        have HY : Hid (Own W4 wr.heap.size (.slice ay zs4.length cy) zs4) := hy4
        have HO4 : Hid (Only c wr W4) := ho4
        have HC4 : Hid (Cur B w0 W4 c a len cap (m + 6 + 60 * (11 - k) + 60)) := hc4
        clear hcur hy4 hc4 ho4
        unfold partV
        go_wp2_with (at_builtin; refine list_putPc (W := wr) (by rfl) (.tmp 16) (.tmp 19) (by rfl) W.heap.size c v ps ⟨k4, t4, zs4⟩ (.slice ay zs4.length cy) (by rfl) HO.out (HO4.out.alloc _) hcW HN.out.1 (HY.out.alloc _) W4.heap.size 1 (by rfl) (Box3.new _ _ _ _ _) (by omega) ?_; intro v5 w5 hown5 hb5 hz5; have HP5 : Hid (PartsAt B w0 W c a len cap m (k - 1) v5 w5) := ⟨_, hown5, by simp; omega, HSM.out.snoc ht4 hz4, ((HC4.out.alloc _).belowQ hb5 hcW hz5).mono (by omega), ((HN.out.trans HO4.out).alloc _).belowQ hb5 (Nat.le_refl _) hz5⟩; clear hown5 hb5 hz5)
        go_roundw
        case rel => exact ⟨v5, k - 1, by omega, by go_num, rfl, HP5.out⟩
        case measure => simp [intOf]; omega
      · have d0 : decide ((0 : Int) < (k : Int)) = false := decide_eq_false (by omega)
        obtain rfl : k = 0 := by omega
        obtain ⟨ps, hown, hpl, hsm, hcur, hon⟩ := hat
        have HP : Hid (PartsPost B w0 W c a len cap m (.returned v) wr) := ⟨v, ps, rfl, hown, by omega, hsm, hcur.mono (by omega), hon⟩
        clear hown hcur hon hsm
        go_wp2
        go_ret
        exact HP.out
  · go_wp2_with fail
    refine (pick_any B w0 _ c a len cap _ 2 HD.out hl (by omega) hc2 (by omega) (by omega)).mono ?_
    rintro e W3 ⟨q2, rfl, q20, q21, hc3, ho3⟩
    obtain ⟨n2, rfl⟩ : ∃ n2 : Nat, q2 = n2 := ⟨q2.toNat, by omega⟩
    have hw10 : IntKind.i64.wrap (10 + (n2 : Int)) = ((10 + n2 : Nat) : Int) := by rw [IntKind.wrap_i64]; omega
    have HS : Hid (∃ (v : Value) (k : Nat), k ≤ 11 ∧ Value.int .i64 (10 + (n2 : Int)) = .int .i64 (k : Int) ∧ v = .slice none 0 0 ∧ PartsAt B w0 W c a len cap m k v W3) :=
      ⟨_, 10 + n2, by omega, by simp, rfl, [], OwnP.nil _ _, by simp; omega, fun _ h => by simp at h, hc3.mono (by omega), ho2'.trans ho3⟩
    clear hc2 ho2' hc3 ho3 hw10
    go_wp2
    go_loopw [3, 4] (fun l i wr => ∃ (v : Value) (k : Nat), k ≤ 11 ∧ i = .int .i64 (k : Int) ∧ v = l ∧ PartsAt B w0 W c a len cap m k v wr) (fun _ i _ => (intOf i).toNat)
    case atStart => exact HS.out
    case round =>
      obtain ⟨v, k, hk, rfl, rfl, hat⟩ := hrel
      clear HS
      by_cases hk0 : 0 < k
      · have d0 : decide ((0 : Int) < (k : Int)) = true := decide_eq_true (by omega)
        obtain ⟨ps, hown, hpl, hsm, hcur, hon⟩ := hat
        have HO : Hid (OwnP wr W.heap.size v ps) := hown
        have HN : Hid (Only c W wr) := hon
        have HSM : Hid (SmallPs ps) := hsm
        clear hown hon hsm
        go_wp2_with fail
        refine (part_any B w0 _ c a len cap _ HD.out hl (by omega) hcur).mono ?_
        rintro e W4 ⟨k4, t4, zs4, y4, rfl, ht4, hz4, hy4, hc4, ho4⟩
        obtain ⟨ay, cy, rfl⟩ := hy4.shape
        have HY : Hid (Own W4 wr.heap.size (.slice ay zs4.length cy) zs4) := hy4
        have HO4 : Hid (Only c wr W4) := ho4
        have HC4 : Hid (Cur B w0 W4 c a len cap (m + 6 + 60 * (11 - k) + 60)) := hc4
        clear hcur hy4 hc4 ho4
        unfold partV
        go_wp2_with (at_builtin; refine list_putPc (W := wr) (by rfl) (.tmp 16) (.tmp 19) (by rfl) W.heap.size c v ps ⟨k4, t4, zs4⟩ (.slice ay zs4.length cy) (by rfl) HO.out (HO4.out.alloc _) hcW HN.out.1 (HY.out.alloc _) W4.heap.size 1 (by rfl) (Box3.new _ _ _ _ _) (by omega) ?_; intro v5 w5 hown5 hb5 hz5; have HP5 : Hid (PartsAt B w0 W c a len cap m (k - 1) v5 w5) := ⟨_, hown5, by simp; omega, HSM.out.snoc ht4 hz4, ((HC4.out.alloc _).belowQ hb5 hcW hz5).mono (by omega), ((HN.out.trans HO4.out).alloc _).belowQ hb5 (Nat.le_refl _) hz5⟩; clear hown5 hb5 hz5)
        go_roundw
        case rel => exact ⟨v5, k - 1, by omega, by go_num, rfl, HP5.out⟩
        case measure => simp [intOf]; omega
      · have d0 : decide ((0 : Int) < (k : Int)) = false := decide_eq_false (by omega)
        obtain rfl : k = 0 := by omega
        obtain ⟨ps, hown, hpl, hsm, hcur, hon⟩ := hat
        have HP : Hid (PartsPost B w0 W c a len cap m (.returned v) wr) := ⟨v, ps, rfl, hown, by omega, hsm, hcur.mono (by omega), hon⟩
        clear hown hcur hon hsm
        go_wp2
        go_ret
        exact HP.out
end Go.Proofs.Ytijlhjfllfjllaa
