/-
  'szFlood'.
-/
import Derived.Test.YtkkamigaolejiaxFlRead
namespace Go.Proofs.Ytkkamigaolejiax
open Go.RowKit
set_option linter.unusedVariables false

/-- What came in of a flood is no longer than may be. -/
structure MaxF (f : FD) : Prop where
  lk : f.lk.length ≤ maxLen
  lki : ∀ j (hj : j < f.lk.length), f.lk[j].length ≤ maxLen
  kn : f.kn.length ≤ maxLen
  kni : ∀ j (hj : j < f.kn.length), f.kn[j].length ≤ maxLen
  ow : f.ow.length ≤ maxLen
  owi : ∀ j (hj : j < f.ow.length), f.ow[j].length ≤ maxLen
  ln : f.ln.length ≤ maxLen

set_option maxRecDepth 100000 in
set_option maxHeartbeats 2000000 in
theorem szFlood_any (W : World) (x y z l : Value) (f : FD) (h : ReadsF W x y z l f) (hm : MaxF f) :
    Calls Try.prog 7 #[.agg #[x, y, z, l], .int .i64 1048576] W fun e W' => e = .returned (.int .i64 (szFl f)) ∧ Below W.heap.size W W' := by
  have HR : Hid (∀ W1, Below W.heap.size W W1 → ReadsF W1 x y z l f) := fun W1 hb => h.below hb
  have HM : Hid (MaxF f) := hm
  obtain ⟨a0, c0, rfl⟩ := h.lk.shape
  obtain ⟨a1, c1, rfl⟩ := h.kn.shape
  obtain ⟨a2, c2, rfl⟩ := h.ow.shape
  obtain ⟨a3, c3, rfl⟩ := h.ln.shape
  have HB : Hid (Below W.heap.size W (W.alloc (.cells #[.slice a0 f.lk.length c0, .slice a1 f.kn.length c1, .slice a2 f.ow.length c2, .slice a3 f.ln.length c3] 25))) := (Below.refl _ W).alloc (Nat.le_refl _) _
  have l1 := szSS_le f.lk 1048576 (by omega)
  have HE : Hid (szFl f = if szSS f.lk 1048576 < 0 then -1 else if szSS f.kn (szSS f.lk 1048576) < 0 then -1 else if szSS f.ow (szSS f.kn (szSS f.lk 1048576)) < 0 then -1 else if (f.ln.length : Int) ≤ szSS f.ow (szSS f.kn (szSS f.lk 1048576)) then szSS f.ow (szSS f.kn (szSS f.lk 1048576)) - f.ln.length else -1) := rfl
  rw [HE.out]
  clear HE h hm
  have S1 : Hid (∀ W1, Below W.heap.size W W1 → Calls Try.prog 21 #[.slice a0 f.lk.length c0, .int .i64 1048576] W1 fun e W' => e = .returned (.int .i64 (szSS f.lk 1048576)) ∧ W' = W1) := fun W1 hb => szSS_any W1 _ f.lk 1048576 (HR.out W1 hb).lk HM.out.lk HM.out.lki (by omega) (by omega)
  generalize szSS f.lk 1048576 = r1 at *
  by_cases n1 : r1 < 0
  · rw [if_pos n1]
    generalize f.lk.length = k0 at *
    generalize f.kn.length = k1 at *
    generalize f.ow.length = k2 at *
    generalize f.ln.length = k3 at *
    go_enter Try.func7, Try.ntmps7
    go_wp2_with fail
    refine (S1.out _ HB.out).mono ?_
    rintro e w1 ⟨rfl, rfl⟩
    go_wp2
    go_ret
    exact ⟨rfl, HB.out⟩
  rw [if_neg n1]
  have S2 : Hid (∀ W1, Below W.heap.size W W1 → Calls Try.prog 21 #[.slice a1 f.kn.length c1, .int .i64 r1] W1 fun e W' => e = .returned (.int .i64 (szSS f.kn r1)) ∧ W' = W1) := fun W1 hb => szSS_any W1 _ f.kn r1 (HR.out W1 hb).kn HM.out.kn HM.out.kni (by omega) (by omega)
  have l2 := szSS_le f.kn r1 (by omega)
  generalize szSS f.kn r1 = r2 at *
  by_cases n2 : r2 < 0
  · rw [if_pos n2]
    generalize f.lk.length = k0 at *
    generalize f.kn.length = k1 at *
    generalize f.ow.length = k2 at *
    generalize f.ln.length = k3 at *
    go_enter Try.func7, Try.ntmps7
    go_wp2_with fail
    refine (S1.out _ HB.out).mono ?_
    rintro e w1 ⟨rfl, rfl⟩
    go_wp2_with fail
    refine (S2.out _ HB.out).mono ?_
    rintro e w1 ⟨rfl, rfl⟩
    go_wp2
    go_ret
    exact ⟨rfl, HB.out⟩
  rw [if_neg n2]
  have S3 : Hid (∀ W1, Below W.heap.size W W1 → Calls Try.prog 21 #[.slice a2 f.ow.length c2, .int .i64 r2] W1 fun e W' => e = .returned (.int .i64 (szSS f.ow r2)) ∧ W' = W1) := fun W1 hb => szSS_any W1 _ f.ow r2 (HR.out W1 hb).ow HM.out.ow HM.out.owi (by omega) (by omega)
  have l3 := szSS_le f.ow r2 (by omega)
  generalize szSS f.ow r2 = r3 at *
  by_cases n3 : r3 < 0
  · rw [if_pos n3]
    generalize f.lk.length = k0 at *
    generalize f.kn.length = k1 at *
    generalize f.ow.length = k2 at *
    generalize f.ln.length = k3 at *
    go_enter Try.func7, Try.ntmps7
    go_wp2_with fail
    refine (S1.out _ HB.out).mono ?_
    rintro e w1 ⟨rfl, rfl⟩
    go_wp2_with fail
    refine (S2.out _ HB.out).mono ?_
    rintro e w1 ⟨rfl, rfl⟩
    go_wp2_with fail
    refine (S3.out _ HB.out).mono ?_
    rintro e w1 ⟨rfl, rfl⟩
    go_wp2
    go_ret
    exact ⟨rfl, HB.out⟩
  rw [if_neg n3]
  have S4 : Hid (∀ W1, Below W.heap.size W W1 → Calls Try.prog 22 #[.slice a3 f.ln.length c3, .int .i64 r3] W1 fun e W' => e = .returned (.int .i64 (if (f.ln.length : Int) ≤ r3 then r3 - f.ln.length else -1)) ∧ W' = W1) := fun W1 hb => szLts_any W1 _ f.ln r3 (HR.out W1 hb).ln HM.out.ln (by omega) (by omega)
  generalize f.lk.length = k0 at *
  generalize f.kn.length = k1 at *
  generalize f.ow.length = k2 at *
  generalize f.ln.length = k3 at *
  have n4 : (if (k3 : Int) ≤ r3 then r3 - (k3 : Int) else -1) < 0 ∨ ¬ (if (k3 : Int) ≤ r3 then r3 - (k3 : Int) else -1) < 0 := Decidable.em _
  have n5 : (if (k3 : Int) ≤ r3 then r3 - (k3 : Int) else -1) < 0 → (if (k3 : Int) ≤ r3 then r3 - (k3 : Int) else -1) = -1 := by split <;> omega
  generalize (if (k3 : Int) ≤ r3 then r3 - (k3 : Int) else -1) = r4 at *
  rcases n4 with n4 | n4
  · obtain rfl := n5 n4
    go_enter Try.func7, Try.ntmps7
    go_wp2_with fail
    refine (S1.out _ HB.out).mono ?_
    rintro e w1 ⟨rfl, rfl⟩
    go_wp2_with fail
    refine (S2.out _ HB.out).mono ?_
    rintro e w1 ⟨rfl, rfl⟩
    go_wp2_with fail
    refine (S3.out _ HB.out).mono ?_
    rintro e w1 ⟨rfl, rfl⟩
    go_wp2_with fail
    refine (S4.out _ HB.out).mono ?_
    rintro e w1 ⟨rfl, rfl⟩
    go_wp2
    go_ret
    exact ⟨rfl, HB.out⟩
  · clear n5
    go_enter Try.func7, Try.ntmps7
    go_wp2_with fail
    refine (S1.out _ HB.out).mono ?_
    rintro e w1 ⟨rfl, rfl⟩
    go_wp2_with fail
    refine (S2.out _ HB.out).mono ?_
    rintro e w1 ⟨rfl, rfl⟩
    go_wp2_with fail
    refine (S3.out _ HB.out).mono ?_
    rintro e w1 ⟨rfl, rfl⟩
    go_wp2_with fail
    refine (S4.out _ HB.out).mono ?_
    rintro e w1 ⟨rfl, rfl⟩
    go_wp2
    go_ret
    exact ⟨rfl, HB.out⟩
end Go.Proofs.Ytkkamigaolejiax
