/-
  What the model's 'l1Put' answers: the list with the number put in its place.
-/
import Derived.Test.YthlbmkefjjckaadBunA
import Derived.Laws.AppendOwnNone
import Derived.WideShapes
namespace Go.Proofs.Ythlbmkefjjckaad
open Go.RowKit

theorem ints_one (l : List Int) : ∀ u ∈ l.map (Value.int .i64), u.oneCell' = true := fun u hu => by
  obtain ⟨z, -, rfl⟩ := List.mem_map.1 hu
  rfl
theorem own_ge {W : World} {B : Nat} {v : Value} {l : List Int} (h : Own W B v l) {b : Nat} (hb : v.ownBlock = some b) : B ≤ b := by
  rcases h.2 with ⟨rfl, -⟩ | ⟨g, cap, cur, rfl, h1, -⟩
  · simp [Value.ownBlock] at hb
  · simp [Value.ownBlock] at hb; omega
theorem own_of2 {W : World} {B n : Nat} {v : Value} {l m : List Int} (h : W.ownsRow B 3 1 v n (l.map (Value.int .i64) ++ m.map (Value.int .i64))) (hn : n = l.length + m.length) : Own W B v (l ++ m) := by
  subst hn
  unfold Own
  rw [List.length_append, List.map_append]
  exact h
theorem own_of {W : World} {B n : Nat} {v : Value} {l : List Int} (h : W.ownsRow B 3 1 v n ([] ++ l.map (Value.int .i64))) (hn : n = l.length) : Own W B v l := by
  subst hn
  exact h

/-- 'append(l, m...)' of a list m of no numbers. -/
theorem list_put0 {ops : Array Oper} {rest : List Oper} {o : Oper} {a : Act} {w : World} {Q : Exit → Act → World → Prop} (hgd : o.guard = none) (s x : Operand)
    (ho : o.op = .call { callee := .builtin .append, args := #[s, x], argTypes := #[26, 26] }) (B : Nat) (v : Value) (zs : List Int) (hs : a.eval s = v) (hown : Own w B v zs)
    (ad : Addr) (c : Nat) (hx : a.eval x = .slice (some ad) 0 c) (hlen : zs.length ≤ 1048576) (hB : B ≤ w.heap.size)
    (h : ∀ v' w', Own w' B v' zs → Below B w w' → wpList Try.prog ops Q rest (a.put o.dst v') w') : wpList Try.prog ops Q (o :: rest) a w := by
  obtain ⟨i0, hi, hz0, hz1, hz2⟩ := info_parts info3
  refine wpList_append_own _ hgd s x 26 ho B 3 i0 (.int .i64 0) 1 8 Try.underlying26 hi hz0 hz1 hz2 rfl (by decide) v _ _ hs hown ad 0 c [] hx rfl (fun j u hu => by simp at hu) (fun u hu => by simp at hu) (by unfold maxLen; omega) (by omega) hB ?_
  intro v3 w3 hown3 hgrow3 _
  have ho3 : Own w3 B v3 zs := by
    have := own_of2 (m := []) hown3 rfl
    rw [List.append_nil] at this
    exact this
  exact h v3 w3 ho3 ((Below.refl _ w).grown hgrow3 hB (fun b hb => own_ge hown hb))

/-- A number put into its place. -/
def insL (n : Int) : List Int → List Int
  | [] => [n]
  | z :: r => if z < n then z :: insL n r else if z = n then z :: r else n :: z :: r
theorem insL_mem (n z : Int) : ∀ zs : List Int, z ∈ insL n zs ↔ z = n ∨ z ∈ zs
  | [] => by simp [insL]
  | y :: r => by
    unfold insL
    have ih := insL_mem n z r
    split
    · simp only [List.mem_cons, ih]
      constructor
      · rintro (h | h | h)
        · exact .inr (.inl h)
        · exact .inl h
        · exact .inr (.inr h)
      · rintro (h | h | h)
        · exact .inr (.inl h)
        · exact .inl h
        · exact .inr (.inr h)
    · split
      · next e =>
        simp only [List.mem_cons]
        constructor
        · exact .inr
        · rintro (h | h)
          · exact .inl (h.trans e.symm)
          · exact h
      · simp only [List.mem_cons]
theorem insL_len (n : Int) : ∀ zs : List Int, (insL n zs).length ≤ zs.length + 1
  | [] => by simp [insL]
  | y :: r => by
    unfold insL
    have ih := insL_len n r
    split
    · simp only [List.length_cons]; omega
    · split <;> simp only [List.length_cons] <;> omega
theorem insL_at (n : Int) : ∀ (zs : List Int) (k : Nat) (hk : k < zs.length), (∀ j (hj : j < zs.length), j < k → zs[j] < n) → ¬ zs[k] < n → (zs[k] = n → insL n zs = zs) ∧ (¬ zs[k] = n → insL n zs = (zs.take k ++ [n]) ++ zs.drop k)
  | y :: r, 0, _, _, h => by
    have h' : ¬ y < n := h
    constructor
    · intro e
      have e' : y = n := e
      unfold insL
      rw [if_neg h', if_pos e']
    · intro e
      have e' : ¬ y = n := e
      unfold insL
      rw [if_neg h', if_neg e']
      rfl
  | y :: r, k + 1, hk, ha, h => by
    have hy : y < n := ha 0 (by simp) (by omega)
    have ih := insL_at n r k (by simpa using hk) (fun j hj hlt => ha (j + 1) (by simpa using hj) (by omega)) (by simpa using h)
    have e0 : insL n (y :: r) = y :: insL n r := by rw [insL, if_pos hy]
    constructor
    · intro e
      rw [e0, ih.1 (by simpa using e)]
    · intro e
      rw [e0, ih.2 (by simpa using e)]
      rfl
theorem insL_end (n : Int) : ∀ zs : List Int, (∀ j (hj : j < zs.length), zs[j] < n) → insL n zs = zs ++ [n]
  | [], _ => rfl
  | y :: r, h => by
    have hy : y < n := h 0 (by simp)
    rw [insL, if_pos hy, insL_end n r fun j hj => h (j + 1) (by simpa using hj)]
    rfl

def PutPost (W : World) (B : Nat) (out : List Int) (e : Ending) (W' : World) : Prop := ∃ v', e = .returned v' ∧ Own W' B v' out ∧ Below W.heap.size W W'
theorem PutPost.mk {W W' : World} {B : Nat} {out : List Int} {v : Value} (zs : List Int) (h : Own W' B v zs) (he : out = zs) (hb : Below W.heap.size W W') : PutPost W B out (.returned v) W' := ⟨v, rfl, by rw [he]; exact h, hb⟩

set_option maxRecDepth 100000 in
set_option maxHeartbeats 4000000 in
theorem l1Put_any (W : World) (B : Nat) (v : Value) (zs : List Int) (n : Int) (h : Own W B v zs) (hB : B ≤ W.heap.size) (hl : zs.length ≤ 100) :
    Calls Try.prog 96 #[v, .int .i64 n] W (PutPost W B (insL n zs)) := by
  obtain ⟨i0, hi, hz0, hz1, hz2⟩ := info_parts info3
  rcases h.2 with ⟨rfl, hn⟩ | ⟨g, cap, cur, rfl, hBg, hg, hnc, -⟩
  · obtain rfl : zs = [] := List.eq_nil_of_length_eq_zero hn
    have HM : Hid ((W.alloc (.cells #[] 3)).ownsRow W.heap.size 3 1 (.slice (some ⟨W.heap.size, 0, none⟩) 0 0) 0 []) := World.ownsRow_made W #[] 0 (Nat.le_refl _) (by decide) rfl
    have HO : Hid (Own (W.alloc (.cells #[] 3)) W.heap.size (.slice (some ⟨W.heap.size, 0, none⟩) 0 0) []) := HM.out
    have HN : Hid (((W.alloc (.cells #[] 3)).alloc (.cells #[.int .i64 n] 3)).cell? ⟨W.heap.size + 1, 0, none⟩ = some (.int .i64 n)) := by
      have := new_cell (W.alloc (.cells #[] 3)) (.int .i64 n) 3
      rw [show (W.alloc (.cells #[] 3)).heap.size = W.heap.size + 1 by simp] at this
      exact this
    clear h
    go_enter Try.func96, Try.ntmps96
    go_wp2
    refine wp_loop_rounds 1 ?_
    rw [rounds_succ]
    go_wp2_with (first
      | (at_builtin; refine wpList_append_own_none (by rfl) (.tmp 34) (.tmp 37) 26 (by rfl) W.heap.size 3 i0 1 Try.underlying26 hi (.slice (some ⟨W.heap.size, 0, none⟩) 0 0) 0 [] (by rfl) HM.out (by rfl) ?_)
      | (at_builtin; refine list_put (by rfl) (.tmp 39) (.tmp 41) (by rfl) W.heap.size (.slice (some ⟨W.heap.size, 0, none⟩) 0 0) [] n (by rfl) (Own.alloc HO.out _) (W.heap.size + 1) 1 (by rfl) HN.out (by simp) (by simp <;> omega) ?_; intro v2 w2 ho2 hb2' hz2'; have hb2 : Below W.heap.size W w2 := (((Below.refl _ W).alloc (Nat.le_refl _) _).alloc (by simp) _).trans hb2')
      | (at_builtin; refine wpList_append_own_none (by rfl) (.tmp 43) (.tmp 46) 26 (by rfl) W.heap.size 3 i0 1 Try.underlying26 hi v2 _ _ (by rfl) ho2 (by rfl) ?_))
    go_ret
    exact PutPost.mk _ (ho2.mono hB) rfl hb2
  · have HC : Hid (∀ j (hj : j < zs.length), W.cell? ⟨g, j, none⟩ = some (.int .i64 zs[j])) := by
      obtain ⟨a, c, hv, hc⟩ := h.form
      rcases hc with rfl | ⟨g', hag, -, -, hcell, -⟩
      · exact fun j hj => absurd hj (Nat.not_lt_zero _)
      · simp only [Value.slice.injEq] at hv
        obtain ⟨rfl, -, rfl⟩ := hv
        simp only [Option.some.injEq, Addr.mk.injEq, and_true] at hag
        rw [hag]; exact hcell
    have HO : Hid (Own W B (.slice (some ⟨g, 0, none⟩) zs.length cap) zs) := h
    have HGL : Hid (g < W.heap.size) := (Array.getElem?_eq_some_iff.1 hg).1
    have HTK : Hid (∀ k, k ≤ zs.length → ∀ j u, ((zs.take k).map (Value.int .i64))[j]? = some u → (W.alloc (.cells #[] 3)).cell? ((⟨g, 0, none⟩ : Addr).add j) = some u) := fun k hk j u hu => by
      have hj : j < (zs.take k).length := by
        have := (List.getElem?_eq_some_iff.1 hu).1
        simpa using this
      have hj2 : j < zs.length := by rw [List.length_take] at hj; omega
      rw [List.getElem?_eq_getElem (by simpa using hj)] at hu
      simp only [List.getElem_map, List.getElem_take, Option.some.injEq] at hu
      rw [Go.WideShapes.add_plain, Nat.zero_add, ((Below.refl _ W).alloc (Nat.le_refl _) _).cell (p := ⟨g, j, none⟩) HGL.out, HC.out j hj2, hu]
    have HDK : Hid (∀ k, k ≤ zs.length → ∀ w2, Below W.heap.size W w2 → ∀ j u, ((zs.drop k).map (Value.int .i64))[j]? = some u → w2.cell? ((⟨g, k, none⟩ : Addr).add j) = some u) := fun k hk w2 hb j u hu => by
      have hj : j < (zs.drop k).length := by
        have := (List.getElem?_eq_some_iff.1 hu).1
        simpa using this
      have hj2 : k + j < zs.length := by rw [List.length_drop] at hj; omega
      rw [List.getElem?_eq_getElem (by simpa using hj)] at hu
      simp only [List.getElem_map, List.getElem_drop, Option.some.injEq] at hu
      rw [Go.WideShapes.add_plain, hb.cell (p := ⟨g, k + j, none⟩) HGL.out, HC.out (k + j) hj2, hu]
    clear h hg
    go_enter Try.func96, Try.ntmps96
    go_wp2
    go_loop [5] (fun i => ∃ k : Nat, k ≤ zs.length ∧ i = .int .i64 (k : Int) ∧ Hid (∀ j (hj : j < zs.length), j < k → zs[j] < n)) (fun i => zs.length - (intOf i).toNat)
    case atStart => exact ⟨0, Nat.zero_le _, rfl, fun j _ hj => absurd hj (Nat.not_lt_zero _)⟩
    case round =>
      obtain ⟨k, hk, rfl, HA⟩ := hrel
      by_cases hlt : k < zs.length
      · have d0 : decide ((k : Int) < (zs.length : Int)) = true := decide_eq_true (by omega)
        have c1 := HC.out k hlt
        by_cases h1 : zs[k] < n
        · have d1 : decide (zs[k] < n) = true := decide_eq_true h1
          have HA1 : Hid (∀ j (hj : j < zs.length), j < k + 1 → zs[j] < n) := fun j hj h => by
            by_cases e : j = k
            · subst e; exact h1
            · exact HA.out j hj (by omega)
          generalize zs[k] = z at *
          go_wp2
          go_round
          case rel => exact ⟨k + 1, by omega, by go_num, HA1⟩
          case measure => simp [intOf]; omega
        · have d1 : decide (zs[k] < n) = false := decide_eq_false h1
          by_cases h2 : zs[k] = n
          · have d2 : (zs[k] == n) = true := beq_iff_eq.2 h2
            have HR : Hid (insL n zs = zs) := (insL_at n zs k hlt HA.out h1).1 h2
            generalize zs[k] = z at *
            clear h2
            go_wp2
            go_ret
            exact PutPost.mk zs HO.out HR.out (Below.refl _ _)
          · have d2 : (zs[k] == n) = false := beq_eq_false_iff_ne.2 h2
            have HR : Hid (insL n zs = (zs.take k ++ [n]) ++ zs.drop k) := (insL_at n zs k hlt HA.out h1).2 h2
            generalize zs[k] = z at *
            clear h2
            have HT : Hid (∀ j u, ((zs.take k).map (Value.int .i64))[j]? = some u → (W.alloc (.cells #[] 3)).cell? ((⟨g, 0, none⟩ : Addr).add j) = some u) := HTK.out k hk
            have HM : Hid ((W.alloc (.cells #[] 3)).ownsRow W.heap.size 3 1 (.slice (some ⟨W.heap.size, 0, none⟩) 0 0) 0 []) := World.ownsRow_made W #[] 0 (Nat.le_refl _) (by decide) rfl
            go_wp2_with (first
              | (at_builtin; refine wpList_append_own _ (by rfl) (.tmp 34) (.tmp 37) 26 (by rfl) W.heap.size 3 i0 (.int .i64 0) 1 8 Try.underlying26 hi hz0 hz1 hz2 rfl (by decide) (.slice (some ⟨W.heap.size, 0, none⟩) 0 0) 0 [] (by rfl) HM.out ⟨g, 0, none⟩ k cap ((zs.take k).map (Value.int .i64)) (by rfl) (by simp <;> omega) HT.out (ints_one _) (by unfold maxLen; omega) (by omega) (by simp) ?_; intro v1 w1 hown1 hgrow1 _; have ho1 : Own w1 W.heap.size v1 (zs.take k) := own_of hown1 (by simp <;> omega); have hb1 : Below W.heap.size W w1 := ((Below.refl _ W).alloc (Nat.le_refl _) _).grown hgrow1 (by simp) (fun b hb => by simp [Value.ownBlock] at hb; omega); clear hown1 hgrow1)
              | (at_builtin; refine list_put (by rfl) (.tmp 39) (.tmp 41) (by rfl) W.heap.size v1 (zs.take k) n (by rfl) (ho1.alloc _) w1.heap.size 1 (by rfl) (new_cell w1 _ 3) (by simp <;> omega) (Nat.le_trans hb1.size (by simp)) ?_; intro v2 w2 ho2 hb2' hz2'; have hb2 : Below W.heap.size W w2 := (hb1.alloc hb1.size _).trans hb2')
              | (at_builtin; refine wpList_append_own _ (by rfl) (.tmp 43) (.tmp 46) 26 (by rfl) W.heap.size 3 i0 (.int .i64 0) 1 8 Try.underlying26 hi hz0 hz1 hz2 rfl (by decide) v2 _ _ (by rfl) ho2 ⟨g, k, none⟩ (zs.length - k) (cap - k) ((zs.drop k).map (Value.int .i64)) (by rfl) (by simp) (HDK.out k hk w2 hb2) (ints_one _) (by simp [maxLen] <;> omega) (by simp <;> omega) (Nat.le_trans hb2.size (Nat.le_refl _)) ?_; intro v3 w3 hown3 hgrow3 _; have ho3 : Own w3 W.heap.size v3 ((zs.take k ++ [n]) ++ zs.drop k) := own_of2 hown3 (by simp <;> omega); have hb3 : Below W.heap.size W w3 := hb2.grown hgrow3 hb2.size (fun b hb => own_ge ho2 hb); clear hown3 hgrow3))
            go_ret
            exact PutPost.mk _ (ho3.mono hB) HR.out hb3
      · have d0 : decide ((k : Int) < (zs.length : Int)) = false := decide_eq_false (by omega)
        obtain rfl : k = zs.length := by omega
        have HR : Hid (insL n zs = zs.take zs.length ++ [n]) := by show _ = _; rw [List.take_length]; exact insL_end n zs fun j hj => HA.out j hj hj
        have HT : Hid (∀ j u, ((zs.take zs.length).map (Value.int .i64))[j]? = some u → (W.alloc (.cells #[] 3)).cell? ((⟨g, 0, none⟩ : Addr).add j) = some u) := HTK.out _ hk
        have HM : Hid ((W.alloc (.cells #[] 3)).ownsRow W.heap.size 3 1 (.slice (some ⟨W.heap.size, 0, none⟩) 0 0) 0 []) := World.ownsRow_made W #[] 0 (Nat.le_refl _) (by decide) rfl
        by_cases hce : cap = zs.length
        · subst hce
          go_wp2_with (first
                | (at_builtin; refine wpList_append_own _ (by rfl) (.tmp 34) (.tmp 37) 26 (by rfl) W.heap.size 3 i0 (.int .i64 0) 1 8 Try.underlying26 hi hz0 hz1 hz2 rfl (by decide) (.slice (some ⟨W.heap.size, 0, none⟩) 0 0) 0 [] (by rfl) HM.out ⟨g, 0, none⟩ zs.length zs.length ((zs.take zs.length).map (Value.int .i64)) (by rfl) (by simp) HT.out (ints_one _) (by unfold maxLen; omega) (by omega) (by simp) ?_; intro v1 w1 hown1 hgrow1 _; have ho1 : Own w1 W.heap.size v1 (zs.take zs.length) := own_of hown1 (by simp); have hb1 : Below W.heap.size W w1 := ((Below.refl _ W).alloc (Nat.le_refl _) _).grown hgrow1 (by simp) (fun b hb => by simp [Value.ownBlock] at hb; omega); clear hown1 hgrow1)
                | (at_builtin; refine list_put (by rfl) (.tmp 39) (.tmp 41) (by rfl) W.heap.size v1 (zs.take zs.length) n (by rfl) (ho1.alloc _) w1.heap.size 1 (by rfl) (new_cell w1 _ 3) (by simp <;> omega) (Nat.le_trans hb1.size (by simp)) ?_; intro v2 w2 ho2 hb2' hz2'; have hb2 : Below W.heap.size W w2 := (hb1.alloc hb1.size _).trans hb2')
                | (at_builtin; refine list_put0 (by rfl) (.tmp 43) (.tmp 46) (by rfl) W.heap.size v2 _ (by rfl) ho2 ⟨g, 0, none⟩ 0 (by rfl) (by simp <;> omega) hb2.size ?_; intro v3 w3 ho3 hb3'; have hb3 : Below W.heap.size W w3 := hb2.trans hb3'))
          go_ret
          exact PutPost.mk _ (ho3.mono hB) HR.out hb3
        · have hcl : ¬ cap ≤ zs.length := by omega
          go_wp2_with (first
                | (at_builtin; refine wpList_append_own _ (by rfl) (.tmp 34) (.tmp 37) 26 (by rfl) W.heap.size 3 i0 (.int .i64 0) 1 8 Try.underlying26 hi hz0 hz1 hz2 rfl (by decide) (.slice (some ⟨W.heap.size, 0, none⟩) 0 0) 0 [] (by rfl) HM.out ⟨g, 0, none⟩ zs.length cap ((zs.take zs.length).map (Value.int .i64)) (by rfl) (by simp) HT.out (ints_one _) (by unfold maxLen; omega) (by omega) (by simp) ?_; intro v1 w1 hown1 hgrow1 _; have ho1 : Own w1 W.heap.size v1 (zs.take zs.length) := own_of hown1 (by simp); have hb1 : Below W.heap.size W w1 := ((Below.refl _ W).alloc (Nat.le_refl _) _).grown hgrow1 (by simp) (fun b hb => by simp [Value.ownBlock] at hb; omega); clear hown1 hgrow1)
                | (at_builtin; refine list_put (by rfl) (.tmp 39) (.tmp 41) (by rfl) W.heap.size v1 (zs.take zs.length) n (by rfl) (ho1.alloc _) w1.heap.size 1 (by rfl) (new_cell w1 _ 3) (by simp <;> omega) (Nat.le_trans hb1.size (by simp)) ?_; intro v2 w2 ho2 hb2' hz2'; have hb2 : Below W.heap.size W w2 := (hb1.alloc hb1.size _).trans hb2')
                | (at_builtin; refine list_put0 (by rfl) (.tmp 43) (.tmp 46) (by rfl) W.heap.size v2 _ (by rfl) ho2 ⟨g, zs.length, none⟩ (cap - zs.length) (by rfl) (by simp <;> omega) hb2.size ?_; intro v3 w3 ho3 hb3'; have hb3 : Below W.heap.size W w3 := hb2.trans hb3'))
          go_ret
          exact PutPost.mk _ (ho3.mono hB) HR.out hb3
end Go.Proofs.Ythlbmkefjjckaad
