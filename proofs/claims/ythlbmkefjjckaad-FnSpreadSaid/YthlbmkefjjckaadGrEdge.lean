/-
  'l9Edge' of the model.
-/
import Derived.Test.YthlbmkefjjckaadGrFars
namespace Go.Proofs.Ythlbmkefjjckaad
open Go.RowKit
set_option linter.unusedVariables false

theorem edS_app : ∀ (p r : List EdD) (a b : Int), (∀ e ∈ p, ¬ (e.A = a ∧ e.B = b ∨ e.A = b ∧ e.B = a)) → edS (p ++ r) a b = edS r a b
  | [], r, a, b, _ => rfl
  | x :: p, r, a, b, h => by
    rw [List.cons_append, edS, if_neg (h x (List.mem_cons_self ..))]
    exact edS_app p r a b fun e he => h e (List.mem_cons_of_mem _ he)
theorem edS_hit (l : List EdD) (a b : Int) (k : Nat) (hk : k < l.length) (h : ∀ j (hj : j < k), ¬ (l[j].A = a ∧ l[j].B = b ∨ l[j].A = b ∧ l[j].B = a)) (hx : l[k].A = a ∧ l[k].B = b ∨ l[k].A = b ∧ l[k].B = a) : edS l a b = l[k].Cost := by
  have e : l = l.take k ++ l.drop k := (List.take_append_drop k l).symm
  have e2 : l.drop k = l[k] :: l.drop (k + 1) := List.drop_eq_getElem_cons hk
  have h1 := edS_app (l.take k) (l.drop k) a b fun x hx => by
    obtain ⟨j, hj, rfl⟩ := List.getElem_of_mem hx
    rw [List.length_take] at hj
    rw [List.getElem_take]
    exact h j (by omega)
  rw [← e, e2, edS, if_pos hx] at h1
  exact h1
theorem edS_none (l : List EdD) (a b : Int) (h : ∀ j (hj : j < l.length), ¬ (l[j].A = a ∧ l[j].B = b ∨ l[j].A = b ∧ l[j].B = a)) : edS l a b = 0 := by
  have h1 := edS_app l [] a b fun x hx => by
    obtain ⟨j, hj, rfl⟩ := List.getElem_of_mem hx
    exact h j hj
  rwa [List.append_nil] at h1

set_option maxRecDepth 100000 in
set_option maxHeartbeats 4000000 in
theorem l9Edge_any (W : World) (v : Value) (l : List EdD) (a b : Int) (h : ReadsEd W v l) (hl : l.length ≤ 2097152) :
    Calls Try.prog 64 #[v, .int .i64 a, .int .i64 b] W fun e W' => e = .returned (.int .i64 (edS l a b)) ∧ Below W.heap.size W W' := by
  obtain ⟨a1, c1, hv, hcells⟩ := h
  have HC : Hid (l = [] ∨ ∃ g off, a1 = some ⟨g, off, none⟩ ∧ g < W.heap.size ∧ ∀ j (hj : j < l.length), EdAt W g (off + j * 3) l[j]) := hcells
  subst hv
  have HS0 : Hid (Since W.heap.size W W) := Since.start W
  have HZ : Hid ((∀ (k : Nat) (hk : k < l.length), (∀ j (hj : j < k), ¬ (l[j].A = a ∧ l[j].B = b ∨ l[j].A = b ∧ l[j].B = a)) → (l[k].A = a ∧ l[k].B = b ∨ l[k].A = b ∧ l[k].B = a) → edS l a b = l[k].Cost) ∧ ((∀ j (hj : j < l.length), ¬ (l[j].A = a ∧ l[j].B = b ∨ l[j].A = b ∧ l[j].B = a)) → edS l a b = 0)) := ⟨fun k hk => edS_hit l a b k hk, edS_none l a b⟩
  generalize edS l a b = z at *
  clear hcells
  go_enter Try.func64, Try.ntmps64
  go_wp2
  go_loopw [11] (fun i wr => ∃ k : Nat, k ≤ l.length ∧ i = .int .i64 k ∧ Hid ((∀ j (hj : j < l.length), j < k → ¬ (l[j].A = a ∧ l[j].B = b ∨ l[j].A = b ∧ l[j].B = a)) ∧ Since W.heap.size W wr)) (fun i _ => l.length - (intOf i).toNat)
  case atStart => exact ⟨0, Nat.zero_le _, rfl, (fun j hj h0 => by omega), HS0.out⟩
  case round =>
    obtain ⟨k, hk, rfl, HI⟩ := hrel
    by_cases hlt : k < l.length
    · have hlt' : (k : Int) < (l.length : Int) := by omega
      rcases HC.out with e0 | ⟨g, off, rfl, hg, hcs⟩
      · rw [e0] at hlt; cases hlt
      have hc := hcs k hlt
      have HHIT : Hid ((l[k].A = a ∧ l[k].B = b ∨ l[k].A = b ∧ l[k].B = a) → z = l[k].Cost) := HZ.out.1 k hlt fun j hj => HI.out.1 j (by omega) hj
      have HNEXT : Hid (¬ (l[k].A = a ∧ l[k].B = b ∨ l[k].A = b ∧ l[k].B = a) → ∀ j (hj : j < l.length), j < k + 1 → ¬ (l[j].A = a ∧ l[j].B = b ∨ l[j].A = b ∧ l[j].B = a)) := fun hn j hj hlt2 => by
        by_cases e : j = k
        · subst e; exact hn
        · exact HI.out.1 j hj (by omega)
      have hsin := HI.out.2
      generalize l[k] = x at *
      obtain ⟨xA, xB, xC⟩ := x
      dsimp only at HHIT HNEXT
      have c0 : wr.cell? ⟨g, off + k * 3, none⟩ = some (.int .i64 xA) := (hsin.1.cell (p := ⟨g, off + k * 3, none⟩) hg).trans hc.1
      have c1' : wr.cell? ⟨g, off + k * 3 + 1, none⟩ = some (.int .i64 xB) := (hsin.1.cell (p := ⟨g, off + k * 3 + 1, none⟩) hg).trans hc.2.1
      have c2 : wr.cell? ⟨g, off + k * 3 + 2, none⟩ = some (.int .i64 xC) := (hsin.1.cell (p := ⟨g, off + k * 3 + 2, none⟩) hg).trans hc.2.2
      have HS1 : Hid (Since W.heap.size W (wr.alloc (.cells #[.int .i64 xA, .int .i64 xB, .int .i64 xC] 84))) := hsin.step ((Below.refl _ wr).alloc (Nat.le_refl _) _)
      clear hc hcs hsin HC HI HZ HS0
      by_cases h1 : xA = a
      · have t1 : (xA == a) = true := by simpa using h1
        by_cases h2 : xB = b
        · have t2 : (xB == b) = true := by simpa using h2
          have HF : Hid (z = xC) := HHIT.out (.inl ⟨h1, h2⟩)
          clear HHIT HNEXT h1 h2
          go_wp2
          go_ret
          exact ⟨congrArg (fun q => Ending.returned (Value.int .i64 q)) HF.out.symm, HS1.out.1⟩
        · have t2 : (xB == b) = false := by simpa using h2
          by_cases h3 : xA = b
          · have t3 : (xA == b) = true := by simpa using h3
            by_cases h4 : xB = a
            · have t4 : (xB == a) = true := by simpa using h4
              have HF : Hid (z = xC) := HHIT.out (.inr ⟨h3, h4⟩)
              clear HHIT HNEXT h1 h2 h3 h4
              go_wp2
              go_ret
              exact ⟨congrArg (fun q => Ending.returned (Value.int .i64 q)) HF.out.symm, HS1.out.1⟩
            · have t4 : (xB == a) = false := by simpa using h4
              have HF : Hid ((∀ j (hj : j < l.length), j < k + 1 → ¬ (l[j].A = a ∧ l[j].B = b ∨ l[j].A = b ∧ l[j].B = a)) ∧ Since W.heap.size W (wr.alloc (.cells #[.int .i64 xA, .int .i64 xB, .int .i64 xC] 84))) := ⟨HNEXT.out (by rintro (⟨q1, q2⟩ | ⟨q1, q2⟩) <;> simp_all), HS1.out⟩
              clear HHIT HNEXT
              (try clear h1)
              (try clear h2)
              (try clear h3)
              (try clear h4)
              go_wp2
              go_roundw
              case rel => exact ⟨k + 1, by omega, by go_num, HF.out⟩
              case measure => simp [intOf]; omega
          · have t3 : (xA == b) = false := by simpa using h3
            have HF : Hid ((∀ j (hj : j < l.length), j < k + 1 → ¬ (l[j].A = a ∧ l[j].B = b ∨ l[j].A = b ∧ l[j].B = a)) ∧ Since W.heap.size W (wr.alloc (.cells #[.int .i64 xA, .int .i64 xB, .int .i64 xC] 84))) := ⟨HNEXT.out (by rintro (⟨q1, q2⟩ | ⟨q1, q2⟩) <;> simp_all), HS1.out⟩
            clear HHIT HNEXT
            (try clear h1)
            (try clear h2)
            (try clear h3)
            (try clear h4)
            go_wp2
            go_roundw
            case rel => exact ⟨k + 1, by omega, by go_num, HF.out⟩
            case measure => simp [intOf]; omega
      · have t1 : (xA == a) = false := by simpa using h1
        by_cases h3 : xA = b
        · have t3 : (xA == b) = true := by simpa using h3
          by_cases h4 : xB = a
          · have t4 : (xB == a) = true := by simpa using h4
            have HF : Hid (z = xC) := HHIT.out (.inr ⟨h3, h4⟩)
            clear HHIT HNEXT h1 h3 h4
            go_wp2
            go_ret
            exact ⟨congrArg (fun q => Ending.returned (Value.int .i64 q)) HF.out.symm, HS1.out.1⟩
          · have t4 : (xB == a) = false := by simpa using h4
            have HF : Hid ((∀ j (hj : j < l.length), j < k + 1 → ¬ (l[j].A = a ∧ l[j].B = b ∨ l[j].A = b ∧ l[j].B = a)) ∧ Since W.heap.size W (wr.alloc (.cells #[.int .i64 xA, .int .i64 xB, .int .i64 xC] 84))) := ⟨HNEXT.out (by rintro (⟨q1, q2⟩ | ⟨q1, q2⟩) <;> simp_all), HS1.out⟩
            clear HHIT HNEXT
            (try clear h1)
            (try clear h2)
            (try clear h3)
            (try clear h4)
            go_wp2
            go_roundw
            case rel => exact ⟨k + 1, by omega, by go_num, HF.out⟩
            case measure => simp [intOf]; omega
        · have t3 : (xA == b) = false := by simpa using h3
          have HF : Hid ((∀ j (hj : j < l.length), j < k + 1 → ¬ (l[j].A = a ∧ l[j].B = b ∨ l[j].A = b ∧ l[j].B = a)) ∧ Since W.heap.size W (wr.alloc (.cells #[.int .i64 xA, .int .i64 xB, .int .i64 xC] 84))) := ⟨HNEXT.out (by rintro (⟨q1, q2⟩ | ⟨q1, q2⟩) <;> simp_all), HS1.out⟩
          clear HHIT HNEXT
          (try clear h1)
          (try clear h2)
          (try clear h3)
          (try clear h4)
          go_wp2
          go_roundw
          case rel => exact ⟨k + 1, by omega, by go_num, HF.out⟩
          case measure => simp [intOf]; omega
    · have e : k = l.length := by omega
      have HF : Hid (z = 0) := HZ.out.2 fun j hj => HI.out.1 j hj (by omega)
      have hs := HI.out.2
      have HS1 : Hid (Since W.heap.size W wr) := hs
      clear HI HC HZ hs
      subst e
      go_wp2
      go_ret
      exact ⟨congrArg (fun q => Ending.returned (Value.int .i64 q)) HF.out.symm, HS1.out.1⟩
end Go.Proofs.Ythlbmkefjjckaad
