/-
  The walk of the law FnPairs.
-/
import Derived.Test.YtchddjidjfpehaaJd
import Derived.Test.YtchddjidjfpehaaSameP
import Derived.Test.YtchddjidjfpehaaSettleW
import Derived.Test.YtchddjidjfpehaaSettleI
import Derived.Test.YtchddjidjfpehaaBoth
import Derived.Test.YtchddjidjfpehaaNum0
import Derived.Deep.CutRange
import Derived.Deep.Cut
namespace Go.Proofs.Ytchddjidjfpehaa
open Go.RowKit
set_option linter.unusedVariables false

/-- A block of two cells that is only read. -/
structure Bd2 (W : World) (b : Nat) (x y : Value) : Prop where
  lt : b < W.heap.size
  c0 : W.cell? ⟨b, 0, none⟩ = some x
  c1 : W.cell? ⟨b, 1, none⟩ = some y
theorem Bd2.below {W W' : World} {b : Nat} {x y : Value} (h : Bd2 W b x y) (hb : Below W.heap.size W W') : Bd2 W' b x y := ⟨Nat.lt_of_lt_of_le h.lt hb.size, (hb.cell (p := ⟨b, 0, none⟩) h.lt).trans h.c0, (hb.cell (p := ⟨b, 1, none⟩) h.lt).trans h.c1⟩

namespace fnPairs
set_option maxRecDepth 100000 in
set_option maxHeartbeats 32000000 in
theorem walk (a0 : Option Addr) (len0 cap0 : Nat) (a1 : Option Addr) (len1 cap1 : Nat) (w : World) (hc0 : Code w.heap.size w a0 len0) (hl0 : len0 ≤ 9223372036854775807) (hc1 : Code w.heap.size w a1 len1) (hl1 : len1 ≤ 9223372036854775807) :
    Calls Try.prog 5 #[.slice a0 len0 cap0, .slice a1 len1 cap1] w fun e w' => e = .returned (.bool true) ∧ Below w.heap.size w w' := by
  have HC0 : Hid (Code w.heap.size w a0 len0) := hc0
  have HC1 : Hid (Code w.heap.size w a1 len1) := hc1
  clear hc0 hc1
  obtain ⟨X, hX⟩ : ∃ X : Int, IntKind.i64.wrap ((len0 : Int) + (len1 : Int)) = X := ⟨_, rfl⟩
  by_cases hbig : 1048576 < X
  · have hbig' : decide ((1048576 : Int) < X) = true := decide_eq_true hbig
    go_enter Try.func5, Try.ntmps5
    go_wp2
    go_ret
    exact ⟨rfl, Below.refl _ _⟩
  have hbig' : decide ((1048576 : Int) < X) = false := decide_eq_false hbig
  go_enter Try.func5, Try.ntmps5
  go_wp2_with fail
  refine (drawStep_any w a0 len0 cap0 HC0.out (by omega)).mono ?_
  rintro e z1 ⟨x, y, z, p, kd, k, rfl, hoz, hst, hlf, hln, hbz⟩
  obtain ⟨g1, c1, rfl⟩ := two_row hoz.st hst
  obtain ⟨g2, c2, rfl⟩ := two_row hoz.lf hlf
  obtain ⟨a3, c3, rfl⟩ : ∃ a c, z = Value.slice a p.ln.length c := hoz.ln.shape
  have S1 : Hid (Since w.heap.size w ((z1.alloc (.cells #[.slice (some ⟨g1, 0, none⟩) 2 c1, .slice (some ⟨g2, 0, none⟩) 2 c2, .slice a3 p.ln.length c3] 40)).alloc (.cells #[.int .i64 kd, .int .i64 k] 53))) := (((Since.start w).step hbz).step ((Below.refl _ _).alloc (Nat.le_refl _) _)).step ((Below.refl _ _).alloc (Nat.le_refl _) _)
  have HP1 : Hid (Bx3 ((z1.alloc (.cells #[.slice (some ⟨g1, 0, none⟩) 2 c1, .slice (some ⟨g2, 0, none⟩) 2 c2, .slice a3 p.ln.length c3] 40)).alloc (.cells #[.int .i64 kd, .int .i64 k] 53)) z1.heap.size (.slice (some ⟨g1, 0, none⟩) 2 c1) (.slice (some ⟨g2, 0, none⟩) 2 c2) (.slice a3 p.ln.length c3)) := (Bx3.new _ _ _ _ _).below ((Below.refl _ _).alloc (Nat.le_refl _) _)
  have OP1 : Hid (Own3 ((z1.alloc (.cells #[.slice (some ⟨g1, 0, none⟩) 2 c1, .slice (some ⟨g2, 0, none⟩) 2 c2, .slice a3 p.ln.length c3] 40)).alloc (.cells #[.int .i64 kd, .int .i64 k] 53)) 0 (.slice (some ⟨g1, 0, none⟩) 2 c1) (.slice (some ⟨g2, 0, none⟩) 2 c2) (.slice a3 p.ln.length c3) p) := ((hoz.mono (Nat.zero_le _)).al _).al _
  have HD1 : Hid (Bd2 ((z1.alloc (.cells #[.slice (some ⟨g1, 0, none⟩) 2 c1, .slice (some ⟨g2, 0, none⟩) 2 c2, .slice a3 p.ln.length c3] 40)).alloc (.cells #[.int .i64 kd, .int .i64 k] 53)) (z1.heap.size + 1) (.int .i64 kd) (.int .i64 k)) := by
    have h := Dx2.new (z1.alloc (.cells #[.slice (some ⟨g1, 0, none⟩) 2 c1, .slice (some ⟨g2, 0, none⟩) 2 c2, .slice a3 p.ln.length c3] 40)) (.int .i64 kd) (.int .i64 k) 53
    have h2 : Dx2 ((z1.alloc (.cells #[.slice (some ⟨g1, 0, none⟩) 2 c1, .slice (some ⟨g2, 0, none⟩) 2 c2, .slice a3 p.ln.length c3] 40)).alloc (.cells #[.int .i64 kd, .int .i64 k] 53)) (z1.heap.size + 1) (.int .i64 kd) (.int .i64 k) := (show Dx2 _ _ _ _ by simpa using h)
    exact ⟨h2.lt, h2.c0, h2.c1⟩
  have HPL : Hid (p.st.length = 2) := hst
  obtain ⟨o, ho⟩ : ∃ o, o = stepOut p kd k := ⟨_, rfl⟩
  obtain ⟨ok, hok⟩ : ∃ b, b = stepOk p kd k := ⟨_, rfl⟩
  obtain ⟨gp, hgp⟩ : ∃ g, g = goodPr p := ⟨_, rfl⟩
  obtain ⟨m1, m2, m3⟩ := stepOut_len p kd k
  rw [← ho] at m1 m2 m3
  have L1 : Hid (o.st.length ≤ 1048576) := by show _ ≤ _; omega
  have L2 : Hid (o.lf.length ≤ 1048576) := by show _ ≤ _; omega
  have L3 : Hid (o.ln.length ≤ 1048576) := by show _ ≤ _; omega
  have P1 : p.st.length ≤ 1048576 := by omega
  have P2 : p.lf.length ≤ 1048576 := by omega
  have P3 : p.ln.length ≤ 1048576 := by omega
  have CI : Hid (∀ W x y z, Own3 W 0 x y z p → Calls Try.prog 24 #[.agg #[x, y, z], .agg #[.int .i64 kd, .int .i64 k]] W fun e W' => ∃ x' y' z', e = .returned (.tuple #[.agg #[x', y', z'], .bool ok]) ∧ Own3 W' W.heap.size x' y' z' o ∧ Below W.heap.size W W') := fun W x y z h => by rw [ho, hok]; exact implStep_any W 0 x y z p kd k h P1 P2 P3
  have CS : Hid (∀ W x y z, Own3 W 0 x y z p → Calls Try.prog 30 #[.agg #[x, y, z], .agg #[.int .i64 kd, .int .i64 k]] W fun e W' => ∃ x' y' z', e = .returned (.tuple #[.agg #[x', y', z'], .bool ok]) ∧ Own3 W' W.heap.size x' y' z' o ∧ Below W.heap.size W W') := fun W x y z h => by rw [ho, hok]; exact specStep_any W 0 x y z p kd k h P1 P2 P3
  have CGI : Hid (∀ W x y z, Reads3 W x y z p → Calls Try.prog 23 #[.agg #[x, y, z]] W fun e W' => e = .returned (.bool gp) ∧ Below W.heap.size W W') := fun W x y z h => by rw [hgp]; exact implGoodPair_any W x y z p h P1 P2 P3
  have CGS : Hid (∀ W x y z, Reads3 W x y z p → Calls Try.prog 31 #[.agg #[x, y, z]] W fun e W' => e = .returned (.bool gp) ∧ Below W.heap.size W W') := fun W x y z h => by rw [hgp]; exact specGoodPair_any W x y z p h P1 P2 P3
  have HYS : Hid (ok = true → o.st.length = 2 ∧ (∀ W x y z, Reads3 W x y z o → Calls Try.prog 23 #[.agg #[x, y, z]] W fun e W' => e = .returned (.bool true) ∧ Below W.heap.size W W') ∧ (∀ (j : Nat) (u s : Int), o.st[j]? = some u → p.st[j]? = some s → (u = s ∨ ((kd = 2 ∨ kd = 4) ∧ u ≠ 2)) ∨ (kd = 2 ∧ ∃ n : Nat, k = n ∧ ∃ hn : n < p.ln.length, p.ln[n].h = true ∧ p.ln[n].f ≠ (j : Int)))) := fun h => by
    have h' : stepOk p kd k = true := hok ▸ h
    obtain ⟨k1, k2⟩ := step_good2 p kd k h'
    rw [← ho] at k1 k2
    refine ⟨k2, fun W x y z hr => ?_, fun j u s h1 h2 => step_state p kd k h' j u s (by rw [← ho]; exact h1) h2⟩
    have := implGoodPair_any W x y z o hr L1.out L2.out L3.out
    rw [k1] at this
    exact this
  clear hoz hbz ho hok hgp m1 m2 m3 P1 P2 P3 hst hlf hln
  go_wp2_with fail
  refine (CI.out _ _ _ _ OP1.out).mono ?_
  rintro e z2 ⟨x, y, z, rfl, ho2, hb2⟩
  obtain ⟨x1, x4, rfl⟩ := ho2.st.shape
  obtain ⟨x2, x5, rfl⟩ := ho2.lf.shape
  obtain ⟨x3, x6, rfl⟩ := ho2.ln.shape
  have S2 : Hid (Since w.heap.size w (z2.alloc (.cells #[.slice x1 o.st.length x4, .slice x2 o.lf.length x5, .slice x3 o.ln.length x6] 40))) := (S1.out.step hb2).step ((Below.refl _ _).alloc (Nat.le_refl _) _)
  have HP2 : Hid (Bx3 (z2.alloc (.cells #[.slice x1 o.st.length x4, .slice x2 o.lf.length x5, .slice x3 o.ln.length x6] 40)) z1.heap.size (.slice (some ⟨g1, 0, none⟩) 2 c1) (.slice (some ⟨g2, 0, none⟩) 2 c2) (.slice a3 p.ln.length c3)) := (HP1.out.below hb2).below ((Below.refl _ _).alloc (Nat.le_refl _) _)
  have OP2 : Hid (Own3 (z2.alloc (.cells #[.slice x1 o.st.length x4, .slice x2 o.lf.length x5, .slice x3 o.ln.length x6] 40)) 0 (.slice (some ⟨g1, 0, none⟩) 2 c1) (.slice (some ⟨g2, 0, none⟩) 2 c2) (.slice a3 p.ln.length c3) p) := (OP1.out.below hb2).al _
  have HD2 : Hid (Bd2 (z2.alloc (.cells #[.slice x1 o.st.length x4, .slice x2 o.lf.length x5, .slice x3 o.ln.length x6] 40)) (z1.heap.size + 1) (.int .i64 kd) (.int .i64 k)) := (HD1.out.below hb2).below ((Below.refl _ _).alloc (Nat.le_refl _) _)
  have HX2 : Hid (Bx3 (z2.alloc (.cells #[.slice x1 o.st.length x4, .slice x2 o.lf.length x5, .slice x3 o.ln.length x6] 40)) z2.heap.size (.slice x1 o.st.length x4) (.slice x2 o.lf.length x5) (.slice x3 o.ln.length x6)) := Bx3.new _ _ _ _ _
  have OX2 : Hid (Own3 (z2.alloc (.cells #[.slice x1 o.st.length x4, .slice x2 o.lf.length x5, .slice x3 o.ln.length x6] 40)) 0 (.slice x1 o.st.length x4) (.slice x2 o.lf.length x5) (.slice x3 o.ln.length x6) o) := (ho2.mono (Nat.zero_le _)).al _
  have lt12 : z1.heap.size + 1 < z2.heap.size := Nat.lt_of_lt_of_le HD1.out.lt hb2.size
  clear ho2 hb2 S1 HP1 OP1 HD1 CI
  have cp0 := HP2.out.c0
  have cp1 := HP2.out.c1
  have cp2 := HP2.out.c2
  have kd0 := HD2.out.c0
  have kd1 := HD2.out.c1
  go_wp2_with fail
  refine (CS.out _ _ _ _ OP2.out).mono ?_
  rintro e z3 ⟨x, y, z, rfl, ho3, hb3⟩
  obtain ⟨y1, y4, rfl⟩ := ho3.st.shape
  obtain ⟨y2, y5, rfl⟩ := ho3.lf.shape
  obtain ⟨y3, y6, rfl⟩ := ho3.ln.shape
  have S3 : Hid (Since w.heap.size w (z3.alloc (.cells #[.slice y1 o.st.length y4, .slice y2 o.lf.length y5, .slice y3 o.ln.length y6] 40))) := (S2.out.step hb3).step ((Below.refl _ _).alloc (Nat.le_refl _) _)
  have HP3 : Hid (Bx3 (z3.alloc (.cells #[.slice y1 o.st.length y4, .slice y2 o.lf.length y5, .slice y3 o.ln.length y6] 40)) z1.heap.size (.slice (some ⟨g1, 0, none⟩) 2 c1) (.slice (some ⟨g2, 0, none⟩) 2 c2) (.slice a3 p.ln.length c3)) := (HP2.out.below hb3).below ((Below.refl _ _).alloc (Nat.le_refl _) _)
  have OP3 : Hid (Own3 (z3.alloc (.cells #[.slice y1 o.st.length y4, .slice y2 o.lf.length y5, .slice y3 o.ln.length y6] 40)) 0 (.slice (some ⟨g1, 0, none⟩) 2 c1) (.slice (some ⟨g2, 0, none⟩) 2 c2) (.slice a3 p.ln.length c3) p) := (OP2.out.below hb3).al _
  have HD3 : Hid (Bd2 (z3.alloc (.cells #[.slice y1 o.st.length y4, .slice y2 o.lf.length y5, .slice y3 o.ln.length y6] 40)) (z1.heap.size + 1) (.int .i64 kd) (.int .i64 k)) := (HD2.out.below hb3).below ((Below.refl _ _).alloc (Nat.le_refl _) _)
  have HX3 : Hid (Bx3 (z3.alloc (.cells #[.slice y1 o.st.length y4, .slice y2 o.lf.length y5, .slice y3 o.ln.length y6] 40)) z2.heap.size (.slice x1 o.st.length x4) (.slice x2 o.lf.length x5) (.slice x3 o.ln.length x6)) := (HX2.out.below hb3).below ((Below.refl _ _).alloc (Nat.le_refl _) _)
  have OX3 : Hid (Own3 (z3.alloc (.cells #[.slice y1 o.st.length y4, .slice y2 o.lf.length y5, .slice y3 o.ln.length y6] 40)) 0 (.slice x1 o.st.length x4) (.slice x2 o.lf.length x5) (.slice x3 o.ln.length x6) o) := (OX2.out.below hb3).al _
  have HY3 : Hid (Bx3 (z3.alloc (.cells #[.slice y1 o.st.length y4, .slice y2 o.lf.length y5, .slice y3 o.ln.length y6] 40)) z3.heap.size (.slice y1 o.st.length y4) (.slice y2 o.lf.length y5) (.slice y3 o.ln.length y6)) := Bx3.new _ _ _ _ _
  have OY3 : Hid (Own3 (z3.alloc (.cells #[.slice y1 o.st.length y4, .slice y2 o.lf.length y5, .slice y3 o.ln.length y6] 40)) 0 (.slice y1 o.st.length y4) (.slice y2 o.lf.length y5) (.slice y3 o.ln.length y6) o) := (ho3.mono (Nat.zero_le _)).al _
  have lt23 : z2.heap.size < z3.heap.size := Nat.lt_of_lt_of_le (by simp) hb3.size
  clear ho3 hb3 S2 HP2 OP2 HD2 HX2 OX2 CS cp0 cp1 cp2 kd0 kd1
  go_wp2
  have X0 := (HX3.out.below ((Below.refl _ _).drew))
  have Y0 := (HY3.out.below ((Below.refl _ _).drew))
  have P0 := (HP3.out.below ((Below.refl _ _).drew))
  have U0 := OX3.out.drew
  have V0 := OY3.out.drew
  have T0 := OP3.out.drew
  have OD0 := (HD3.out.below ((Below.refl _ _).drew))
  have D0 := S3.out.drew
  clear S3 HP3 OP3 HD3 HX3 OX3 HY3 OY3
  refine wp_region_held_drew (S := (fun w' => (w'.cell? ⟨z2.heap.size, 0, none⟩ = some (.slice x1 o.st.length x4) ∧ w'.cell? ⟨z2.heap.size, 1, none⟩ = some (.slice x2 o.lf.length x5) ∧ w'.cell? ⟨z2.heap.size, 2, none⟩ = some (.slice x3 o.ln.length x6)) ∧ (w'.cell? ⟨z3.heap.size, 0, none⟩ = some (.slice y1 o.st.length y4) ∧ w'.cell? ⟨z3.heap.size, 1, none⟩ = some (.slice y2 o.lf.length y5) ∧ w'.cell? ⟨z3.heap.size, 2, none⟩ = some (.slice y3 o.ln.length y6)) ∧ (w'.cell? ⟨z1.heap.size, 0, none⟩ = some (.slice (some ⟨g1, 0, none⟩) 2 c1) ∧ w'.cell? ⟨z1.heap.size, 1, none⟩ = some (.slice (some ⟨g2, 0, none⟩) 2 c2) ∧ w'.cell? ⟨z1.heap.size, 2, none⟩ = some (.slice a3 p.ln.length c3)))) (by kernel_rfl) ?_ (fun hHeld => ?_)
  · exact ⟨⟨X0.c0, X0.c1, X0.c2⟩, ⟨Y0.c0, Y0.c1, Y0.c2⟩, ⟨P0.c0, P0.c1, P0.c2⟩⟩
  refine handRead 0 (some 49) (.bool ok) rfl rfl (by kernel_rfl) (by kernel_rfl) (by kernel_rfl) (fun _ _ _ h => h) (by kernel_rfl) (by assumption) ?_ ?_
  · intro w hSw
    (try dsimp only at hSw)
    go_simp
  simp only [Act.put, List.setIfInBounds_toArray, List.set_cons_zero, List.set_cons_succ]
  refine handRead 1 (some 50) (.bool ok) rfl rfl (by kernel_rfl) (by kernel_rfl) (by kernel_rfl) (fun _ _ _ h => h) (by kernel_rfl) (by assumption) ?_ ?_
  · intro w hSw
    (try dsimp only at hSw)
    go_simp
  simp only [Act.put, List.setIfInBounds_toArray, List.set_cons_zero, List.set_cons_succ]
  refine handRead 2 (some 51) (.bool false) rfl rfl (by kernel_rfl) (by kernel_rfl) (by kernel_rfl) (fun _ _ _ h => h) (by kernel_rfl) (by assumption) ?_ ?_
  · intro w hSw
    (try dsimp only at hSw)
    go_simp
  simp only [Act.put, List.setIfInBounds_toArray, List.set_cons_zero, List.set_cons_succ]
  refine handRead 3 (some 52) (.bool false) rfl rfl (by kernel_rfl) (by kernel_rfl) (by kernel_rfl) (fun _ _ _ h => h) (by kernel_rfl) (by assumption) ?_ ?_
  · intro w hSw
    (try dsimp only at hSw)
    go_simp
  simp only [Act.put, List.setIfInBounds_toArray, List.set_cons_zero, List.set_cons_succ]
  refine handRead 4 (some 53) (.agg #[.slice x1 o.st.length x4, .slice x2 o.lf.length x5, .slice x3 o.ln.length x6]) rfl rfl (by kernel_rfl) (by kernel_rfl) (by kernel_rfl) (fun _ _ _ h => h) (by kernel_rfl) (by assumption) ?_ ?_
  · intro w hSw
    (try dsimp only at hSw)
    go_simp
  simp only [Act.put, List.setIfInBounds_toArray, List.set_cons_zero, List.set_cons_succ]
  refine handRead 5 (some 54) (.agg #[.slice y1 o.st.length y4, .slice y2 o.lf.length y5, .slice y3 o.ln.length y6]) rfl rfl (by kernel_rfl) (by kernel_rfl) (by kernel_rfl) (fun _ _ _ h => h) (by kernel_rfl) (by assumption) ?_ ?_
  · intro w hSw
    (try dsimp only at hSw)
    go_simp
  simp only [Act.put, List.setIfInBounds_toArray, List.set_cons_zero, List.set_cons_succ]
  refine handCall 6 (some 55) 20 #[.agg #[.slice x1 o.st.length x4, .slice x2 o.lf.length x5, .slice x3 o.ln.length x6], .agg #[.slice y1 o.st.length y4, .slice y2 o.lf.length y5, .slice y3 o.ln.length y6]] (by kernel_rfl) rfl rfl (by kernel_rfl) (by simp [go_sem]) ((samePair_same _ _ _ _ _ _ _ o U0.reads V0.reads L1.out L2.out L3.out).mono ?_)
  rintro e v1 ⟨rfl, hv⟩
  have X1 := X0.below hv
  have Y1 := Y0.below hv
  have P1 := P0.below hv
  have U1 := U0.below hv
  have V1 := V0.below hv
  have T1 := T0.below hv
  have OD1 := OD0.below hv
  have D1 := D0.step hv
  clear hHeld hv
  refine ⟨_, rfl, (by exact ⟨⟨X1.c0, X1.c1, X1.c2⟩, ⟨Y1.c0, Y1.c1, Y1.c2⟩, ⟨P1.c0, P1.c1, P1.c2⟩⟩), fun hHeld => ?_⟩
  simp only [Act.put, List.setIfInBounds_toArray, List.set_cons_zero, List.set_cons_succ]
  refine handRead 7 (some 56) (.bool false) rfl rfl (by kernel_rfl) (by kernel_rfl) (by kernel_rfl) (fun _ _ _ h => h) (by kernel_rfl) (by assumption) ?_ ?_
  · intro w hSw
    (try dsimp only at hSw)
    go_simp
  simp only [Act.put, List.setIfInBounds_toArray, List.set_cons_zero, List.set_cons_succ]
  refine handRead 8 (some 57) (.bool false) rfl rfl (by kernel_rfl) (by kernel_rfl) (by kernel_rfl) (fun _ _ _ h => h) (by kernel_rfl) (by assumption) ?_ ?_
  · intro w hSw
    (try dsimp only at hSw)
    go_simp
  simp only [Act.put, List.setIfInBounds_toArray, List.set_cons_zero, List.set_cons_succ]
  refine handRead 9 (some 58) (.bool false) rfl rfl (by kernel_rfl) (by kernel_rfl) (by kernel_rfl) (fun _ _ _ h => h) (by kernel_rfl) (by assumption) ?_ ?_
  · intro w hSw
    (try dsimp only at hSw)
    go_simp
  simp only [Act.put, List.setIfInBounds_toArray, List.set_cons_zero, List.set_cons_succ]
  refine handRead 10 (some 59) (.agg #[.slice (some ⟨g1, 0, none⟩) 2 c1, .slice (some ⟨g2, 0, none⟩) 2 c2, .slice a3 p.ln.length c3]) rfl rfl (by kernel_rfl) (by kernel_rfl) (by kernel_rfl) (fun _ _ _ h => h) (by kernel_rfl) (by assumption) ?_ ?_
  · intro w hSw
    (try dsimp only at hSw)
    go_simp
  simp only [Act.put, List.setIfInBounds_toArray, List.set_cons_zero, List.set_cons_succ]
  refine handRead 12 (some 61) (.agg #[.slice (some ⟨g1, 0, none⟩) 2 c1, .slice (some ⟨g2, 0, none⟩) 2 c2, .slice a3 p.ln.length c3]) rfl rfl (by kernel_rfl) (by kernel_rfl) (by kernel_rfl) (fun _ _ _ h => h) (by kernel_rfl) (by assumption) ?_ ?_
  · intro w hSw
    (try dsimp only at hSw)
    go_simp
  simp only [Act.put, List.setIfInBounds_toArray, List.set_cons_zero, List.set_cons_succ]
  refine handCall 11 (some 60) 23 #[.agg #[.slice (some ⟨g1, 0, none⟩) 2 c1, .slice (some ⟨g2, 0, none⟩) 2 c2, .slice a3 p.ln.length c3]] (by kernel_rfl) rfl rfl (by kernel_rfl) (by simp [go_sem]) ((CGI.out _ _ _ _ T1.reads).mono ?_)
  rintro e v2 ⟨rfl, hv⟩
  have X2 := X1.below hv
  have Y2 := Y1.below hv
  have P2 := P1.below hv
  have U2 := U1.below hv
  have V2 := V1.below hv
  have T2 := T1.below hv
  have OD2 := OD1.below hv
  have D2 := D1.step hv
  clear hHeld hv
  refine ⟨_, rfl, (by exact ⟨⟨X2.c0, X2.c1, X2.c2⟩, ⟨Y2.c0, Y2.c1, Y2.c2⟩, ⟨P2.c0, P2.c1, P2.c2⟩⟩), fun hHeld => ?_⟩
  simp only [Act.put, List.setIfInBounds_toArray, List.set_cons_zero, List.set_cons_succ]
  refine handCall 13 (some 62) 31 #[.agg #[.slice (some ⟨g1, 0, none⟩) 2 c1, .slice (some ⟨g2, 0, none⟩) 2 c2, .slice a3 p.ln.length c3]] (by kernel_rfl) rfl rfl (by kernel_rfl) (by simp [go_sem]) ((CGS.out _ _ _ _ T2.reads).mono ?_)
  rintro e v3 ⟨rfl, hv⟩
  have X3 := X2.below hv
  have Y3 := Y2.below hv
  have P3 := P2.below hv
  have U3 := U2.below hv
  have V3 := V2.below hv
  have T3 := T2.below hv
  have OD3 := OD2.below hv
  have D3 := D2.step hv
  clear hHeld hv
  refine ⟨_, rfl, (by exact ⟨⟨X3.c0, X3.c1, X3.c2⟩, ⟨Y3.c0, Y3.c1, Y3.c2⟩, ⟨P3.c0, P3.c1, P3.c2⟩⟩), fun hHeld => ?_⟩
  simp only [Act.put, List.setIfInBounds_toArray, List.set_cons_zero, List.set_cons_succ]
  refine handRead 14 (some 63) (.bool false) rfl rfl (by kernel_rfl) (by kernel_rfl) (by kernel_rfl) (fun _ _ _ h => h) (by kernel_rfl) (by assumption) ?_ ?_
  · intro w hSw
    (try dsimp only at hSw)
    go_simp
  simp only [Act.put, List.setIfInBounds_toArray, List.set_cons_zero, List.set_cons_succ]
  refine handRead 15 (some 64) (.bool false) rfl rfl (by kernel_rfl) (by kernel_rfl) (by kernel_rfl) (fun _ _ _ h => h) (by kernel_rfl) (by assumption) ?_ ?_
  · intro w hSw
    (try dsimp only at hSw)
    go_simp
  simp only [Act.put, List.setIfInBounds_toArray, List.set_cons_zero, List.set_cons_succ]
  refine wpAnyH_done (by kernel_rfl) ?_ _
  have S4 : Hid (Since w.heap.size w v3) := D3
  have HX4 : Hid (Bx3 v3 z2.heap.size (.slice x1 o.st.length x4) (.slice x2 o.lf.length x5) (.slice x3 o.ln.length x6)) := X3
  have OX4 : Hid (Own3 v3 0 (.slice x1 o.st.length x4) (.slice x2 o.lf.length x5) (.slice x3 o.ln.length x6) o) := U3
  have HP4 : Hid (Bx3 v3 z1.heap.size (.slice (some ⟨g1, 0, none⟩) 2 c1) (.slice (some ⟨g2, 0, none⟩) 2 c2) (.slice a3 p.ln.length c3)) := P3
  have OP4 : Hid (Own3 v3 0 (.slice (some ⟨g1, 0, none⟩) 2 c1) (.slice (some ⟨g2, 0, none⟩) 2 c2) (.slice a3 p.ln.length c3) p) := T3
  have HD4 : Hid (Bd2 v3 (z1.heap.size + 1) (.int .i64 kd) (.int .i64 k)) := OD3
  clear X0 Y0 P0 U0 V0 T0 OD0 D0 X1 Y1 P1 U1 V1 T1 OD1 D1 X2 Y2 P2 U2 V2 T2 OD2 D2 X3 Y3 P3 U3 V3 T3 OD3 D3 CGI CGS hHeld
  have cx0 := HX4.out.c0
  have cx1 := HX4.out.c1
  have cx2 := HX4.out.c2
  cases ok with
  | false =>
    clear HX4 OX4 HP4 OP4 HD4 cx0 cx1 cx2 HYS
    go_wp2_with fail
    refine (drawSettle_any _ a1 len1 cap1 (code_since HC1.out S4.out) (by omega)).mono ?_
    rintro e q1 ⟨x, y, z, q, rfl, hoq, hst, hlf, hln, hbq⟩
    obtain ⟨u1, d1, rfl⟩ := two_row hoq.st hst
    obtain ⟨u2, d2, rfl⟩ := two_row hoq.lf hlf
    obtain ⟨b3, d3, rfl⟩ : ∃ a c, z = Value.slice a q.ln.length c := hoq.ln.shape
    have HSa : Hid (Since w.heap.size w (q1.alloc (.cells #[.slice (some ⟨u1, 0, none⟩) 2 d1, .slice (some ⟨u2, 0, none⟩) 2 d2, .slice b3 q.ln.length d3] 40))) := (S4.out.step hbq).step ((Below.refl _ _).alloc (Nat.le_refl _) _)
    have HKa : Hid (Bx3 (q1.alloc (.cells #[.slice (some ⟨u1, 0, none⟩) 2 d1, .slice (some ⟨u2, 0, none⟩) 2 d2, .slice b3 q.ln.length d3] 40)) q1.heap.size (.slice (some ⟨u1, 0, none⟩) 2 d1) (.slice (some ⟨u2, 0, none⟩) 2 d2) (.slice b3 q.ln.length d3)) := Bx3.new _ _ _ _ _
    have OKa : Hid (Own3 (q1.alloc (.cells #[.slice (some ⟨u1, 0, none⟩) 2 d1, .slice (some ⟨u2, 0, none⟩) 2 d2, .slice b3 q.ln.length d3] 40)) 0 (.slice (some ⟨u1, 0, none⟩) 2 d1) (.slice (some ⟨u2, 0, none⟩) 2 d2) (.slice b3 q.ln.length d3) q) := (hoq.mono (Nat.zero_le _)).al _
    have Q1 : Hid (q.st.length ≤ 1048576) := by show _ ≤ _; omega
    have Q2 : Hid (q.lf.length ≤ 1048576) := by show _ ≤ _; omega
    have Q3 : Hid (q.ln.length ≤ 1048576) := by show _ ≤ _; omega
    obtain ⟨r, hr⟩ : ∃ r, r = settleOut q := ⟨_, rfl⟩
    obtain ⟨gq, hgq⟩ : ∃ g, g = goodPr q := ⟨_, rfl⟩
    obtain ⟨bq, hbb⟩ : ∃ b, b = bothB q := ⟨_, rfl⟩
    have CSI : Hid (∀ W x y z, Own3 W 0 x y z q → Calls Try.prog 21 #[.agg #[x, y, z]] W fun e W' => ∃ x' y' z', e = .returned (.tuple #[.agg #[x', y', z'], .bool gq]) ∧ Own3 W' W.heap.size x' y' z' r ∧ Below W.heap.size W W') := fun W x y z h => by rw [hr, hgq]; exact implSettle_any W 0 x y z q h (Nat.zero_le _) Q1.out Q2.out Q3.out
    have CSS : Hid (∀ W x y z, Own3 W 0 x y z q → Calls Try.prog 33 #[.agg #[x, y, z]] W fun e W' => ∃ x' y' z', e = .returned (.tuple #[.agg #[x', y', z'], .bool gq]) ∧ Own3 W' W.heap.size x' y' z' r ∧ Below W.heap.size W W') := fun W x y z h => by rw [hr, hgq]; exact specSettle_any W 0 x y z q h Q1.out Q2.out Q3.out
    have CBI : Hid (∀ W x y z, Own3 W 0 x y z q → Calls Try.prog 22 #[.agg #[x, y, z]] W fun e W' => e = .returned (.tuple #[.bool bq, .bool gq]) ∧ Below W.heap.size W W') := fun W x y z h => by rw [hbb, hgq]; exact implBoth_any W x y z q h.reads Q1.out Q2.out Q3.out
    have CBS : Hid (∀ W x y z, Own3 W 0 x y z q → Calls Try.prog 34 #[.agg #[x, y, z]] W fun e W' => e = .returned (.tuple #[.bool bq, .bool gq]) ∧ Below W.heap.size W W') := fun W x y z h => by rw [hbb, hgq]; exact specBoth_any W x y z q h.reads Q1.out Q2.out Q3.out
    obtain ⟨m1, m2, m3⟩ := settleOut_len q
    rw [← hr] at m1 m2 m3
    have M1 : Hid (r.st.length ≤ 1048576) := by show _ ≤ _; omega
    have M2 : Hid (r.lf.length ≤ 1048576) := by show _ ≤ _; omega
    have M3 : Hid (r.ln.length ≤ 1048576) := by show _ ≤ _; omega
    clear hoq hbq S4 hr hgq hbb m1 m2 m3 hst hlf hln
    go_wp2_with fail
    refine (CSI.out _ _ _ _ OKa.out).mono ?_
    rintro e q2 ⟨x, y, z, rfl, hor, hbr⟩
    obtain ⟨e1, e4, rfl⟩ := hor.st.shape
    obtain ⟨e2, e5, rfl⟩ := hor.lf.shape
    obtain ⟨e3, e6, rfl⟩ := hor.ln.shape
    have HSb : Hid (Since w.heap.size w (q2.alloc (.cells #[.slice e1 r.st.length e4, .slice e2 r.lf.length e5, .slice e3 r.ln.length e6] 40))) := (HSa.out.step hbr).step ((Below.refl _ _).alloc (Nat.le_refl _) _)
    have HKb : Hid (Bx3 (q2.alloc (.cells #[.slice e1 r.st.length e4, .slice e2 r.lf.length e5, .slice e3 r.ln.length e6] 40)) q1.heap.size (.slice (some ⟨u1, 0, none⟩) 2 d1) (.slice (some ⟨u2, 0, none⟩) 2 d2) (.slice b3 q.ln.length d3)) := (HKa.out.below hbr).below ((Below.refl _ _).alloc (Nat.le_refl _) _)
    have OKb : Hid (Own3 (q2.alloc (.cells #[.slice e1 r.st.length e4, .slice e2 r.lf.length e5, .slice e3 r.ln.length e6] 40)) 0 (.slice (some ⟨u1, 0, none⟩) 2 d1) (.slice (some ⟨u2, 0, none⟩) 2 d2) (.slice b3 q.ln.length d3) q) := (OKa.out.below hbr).below ((Below.refl _ _).alloc (Nat.le_refl _) _)
    clear HSa HKa OKa
    have HEb : Hid (Bx3 (q2.alloc (.cells #[.slice e1 r.st.length e4, .slice e2 r.lf.length e5, .slice e3 r.ln.length e6] 40)) q2.heap.size (.slice e1 r.st.length e4) (.slice e2 r.lf.length e5) (.slice e3 r.ln.length e6)) := Bx3.new _ _ _ _ _
    have OEb : Hid (Own3 (q2.alloc (.cells #[.slice e1 r.st.length e4, .slice e2 r.lf.length e5, .slice e3 r.ln.length e6] 40)) 0 (.slice e1 r.st.length e4) (.slice e2 r.lf.length e5) (.slice e3 r.ln.length e6) r) := (hor.mono (Nat.zero_le _)).al _
    clear hor hbr CSI
    have ck0 := (HKb.out.c0)
    have ck1 := (HKb.out.c1)
    have ck2 := (HKb.out.c2)
    go_wp2_with fail
    refine (CSS.out _ _ _ _ OKb.out).mono ?_
    rintro e q3 ⟨x, y, z, rfl, hor, hbr⟩
    clear ck0 ck1 ck2
    obtain ⟨f1, f4, rfl⟩ := hor.st.shape
    obtain ⟨f2, f5, rfl⟩ := hor.lf.shape
    obtain ⟨f3, f6, rfl⟩ := hor.ln.shape
    have HSc : Hid (Since w.heap.size w (q3.alloc (.cells #[.slice f1 r.st.length f4, .slice f2 r.lf.length f5, .slice f3 r.ln.length f6] 40))) := (HSb.out.step hbr).step ((Below.refl _ _).alloc (Nat.le_refl _) _)
    have HKc : Hid (Bx3 (q3.alloc (.cells #[.slice f1 r.st.length f4, .slice f2 r.lf.length f5, .slice f3 r.ln.length f6] 40)) q1.heap.size (.slice (some ⟨u1, 0, none⟩) 2 d1) (.slice (some ⟨u2, 0, none⟩) 2 d2) (.slice b3 q.ln.length d3)) := (HKb.out.below hbr).below ((Below.refl _ _).alloc (Nat.le_refl _) _)
    have OKc : Hid (Own3 (q3.alloc (.cells #[.slice f1 r.st.length f4, .slice f2 r.lf.length f5, .slice f3 r.ln.length f6] 40)) 0 (.slice (some ⟨u1, 0, none⟩) 2 d1) (.slice (some ⟨u2, 0, none⟩) 2 d2) (.slice b3 q.ln.length d3) q) := (OKb.out.below hbr).below ((Below.refl _ _).alloc (Nat.le_refl _) _)
    have HEc : Hid (Bx3 (q3.alloc (.cells #[.slice f1 r.st.length f4, .slice f2 r.lf.length f5, .slice f3 r.ln.length f6] 40)) q2.heap.size (.slice e1 r.st.length e4) (.slice e2 r.lf.length e5) (.slice e3 r.ln.length e6)) := (HEb.out.below hbr).below ((Below.refl _ _).alloc (Nat.le_refl _) _)
    have OEc : Hid (Own3 (q3.alloc (.cells #[.slice f1 r.st.length f4, .slice f2 r.lf.length f5, .slice f3 r.ln.length f6] 40)) 0 (.slice e1 r.st.length e4) (.slice e2 r.lf.length e5) (.slice e3 r.ln.length e6) r) := (OEb.out.below hbr).below ((Below.refl _ _).alloc (Nat.le_refl _) _)
    clear HSb HKb OKb HEb OEb
    have HGc : Hid (Bx3 (q3.alloc (.cells #[.slice f1 r.st.length f4, .slice f2 r.lf.length f5, .slice f3 r.ln.length f6] 40)) q3.heap.size (.slice f1 r.st.length f4) (.slice f2 r.lf.length f5) (.slice f3 r.ln.length f6)) := Bx3.new _ _ _ _ _
    have OGc : Hid (Own3 (q3.alloc (.cells #[.slice f1 r.st.length f4, .slice f2 r.lf.length f5, .slice f3 r.ln.length f6] 40)) 0 (.slice f1 r.st.length f4) (.slice f2 r.lf.length f5) (.slice f3 r.ln.length f6) r) := (hor.mono (Nat.zero_le _)).al _
    clear hor hbr CSS
    have ck0 := HKc.out.c0
    have ck1 := HKc.out.c1
    have ck2 := HKc.out.c2
    go_wp2_with fail
    refine (CBI.out _ _ _ _ OKc.out).mono ?_
    rintro e q4 ⟨rfl, hb4⟩
    clear ck0 ck1 ck2
    have HSd : Hid (Since w.heap.size w q4) := HSc.out.step hb4
    have HKd : Hid (Bx3 q4 q1.heap.size (.slice (some ⟨u1, 0, none⟩) 2 d1) (.slice (some ⟨u2, 0, none⟩) 2 d2) (.slice b3 q.ln.length d3)) := HKc.out.below hb4
    have OKd : Hid (Own3 q4 0 (.slice (some ⟨u1, 0, none⟩) 2 d1) (.slice (some ⟨u2, 0, none⟩) 2 d2) (.slice b3 q.ln.length d3) q) := OKc.out.below hb4
    have HEd : Hid (Bx3 q4 q2.heap.size (.slice e1 r.st.length e4) (.slice e2 r.lf.length e5) (.slice e3 r.ln.length e6)) := HEc.out.below hb4
    have OEd : Hid (Own3 q4 0 (.slice e1 r.st.length e4) (.slice e2 r.lf.length e5) (.slice e3 r.ln.length e6) r) := OEc.out.below hb4
    have HGd : Hid (Bx3 q4 q3.heap.size (.slice f1 r.st.length f4) (.slice f2 r.lf.length f5) (.slice f3 r.ln.length f6)) := HGc.out.below hb4
    have OGd : Hid (Own3 q4 0 (.slice f1 r.st.length f4) (.slice f2 r.lf.length f5) (.slice f3 r.ln.length f6) r) := OGc.out.below hb4
    clear HSc HKc OKc HEc OEc HGc OGc
    clear hb4 CBI
    have ck0 := HKd.out.c0
    have ck1 := HKd.out.c1
    have ck2 := HKd.out.c2
    go_wp2_with fail
    refine (CBS.out _ _ _ _ OKd.out).mono ?_
    rintro e q5 ⟨rfl, hb5⟩
    clear ck0 ck1 ck2
    have HSe : Hid (Since w.heap.size w q5) := HSd.out.step hb5
    have HEe : Hid (Bx3 q5 q2.heap.size (.slice e1 r.st.length e4) (.slice e2 r.lf.length e5) (.slice e3 r.ln.length e6)) := HEd.out.below hb5
    have OEe : Hid (Own3 q5 0 (.slice e1 r.st.length e4) (.slice e2 r.lf.length e5) (.slice e3 r.ln.length e6) r) := OEd.out.below hb5
    have HGe : Hid (Bx3 q5 q3.heap.size (.slice f1 r.st.length f4) (.slice f2 r.lf.length f5) (.slice f3 r.ln.length f6)) := HGd.out.below hb5
    have OGe : Hid (Own3 q5 0 (.slice f1 r.st.length f4) (.slice f2 r.lf.length f5) (.slice f3 r.ln.length f6) r) := OGd.out.below hb5
    clear HSd HEd OEd HGd OGd
    clear hb5 CBS HKd OKd
    go_wp2_with fail
    refine (drawNew_any q5.heap.size q5 _ a1 len1 cap1 (code_since HC1.out HSe.out) (by omega) (Since.start q5)).mono ?_
    rintro e q6 ⟨lf, rfl, hs6⟩
    have HSf : Hid (Since w.heap.size w q6) := HSe.out.step hs6.1
    have HEf : Hid (Bx3 q6 q2.heap.size (.slice e1 r.st.length e4) (.slice e2 r.lf.length e5) (.slice e3 r.ln.length e6)) := HEe.out.below hs6.1
    have OEf : Hid (Own3 q6 0 (.slice e1 r.st.length e4) (.slice e2 r.lf.length e5) (.slice e3 r.ln.length e6) r) := OEe.out.below hs6.1
    have HGf : Hid (Bx3 q6 q3.heap.size (.slice f1 r.st.length f4) (.slice f2 r.lf.length f5) (.slice f3 r.ln.length f6)) := HGe.out.below hs6.1
    have OGf : Hid (Own3 q6 0 (.slice f1 r.st.length f4) (.slice f2 r.lf.length f5) (.slice f3 r.ln.length f6) r) := OGe.out.below hs6.1
    clear HSe HEe OEe HGe OGe
    obtain ⟨n, hn⟩ : ∃ n, n = newP lf := ⟨_, rfl⟩
    obtain ⟨nb, hnb⟩ : ∃ b, b = newB lf := ⟨_, rfl⟩
    have CNI : Hid (∀ W, Calls Try.prog 36 #[.int .i64 lf] W fun e W' => ∃ x y z, e = .returned (.tuple #[.agg #[x, y, z], .bool nb]) ∧ Own3 W' W.heap.size x y z n ∧ Below W.heap.size W W') := fun W => by rw [hn, hnb]; exact implNew_any lf W
    have CNS : Hid (∀ W, Calls Try.prog 37 #[.int .i64 lf] W fun e W' => ∃ x y z, e = .returned (.tuple #[.agg #[x, y, z], .bool nb]) ∧ Own3 W' W.heap.size x y z n ∧ Below W.heap.size W W') := fun W => by rw [hn, hnb]; exact specNew_any lf W
    obtain ⟨m1, m2, m3⟩ := newP_len lf
    rw [← hn] at m1 m2 m3
    have N1 : Hid (n.st.length ≤ 1048576) := by show _ ≤ _; omega
    have N2 : Hid (n.lf.length ≤ 1048576) := by show _ ≤ _; omega
    have N3 : Hid (n.ln.length ≤ 1048576) := by show _ ≤ _; omega
    clear hs6 hn hnb m1 m2 m3
    go_wp2_with fail
    refine (CNI.out _).mono ?_
    rintro e q7 ⟨x, y, z, rfl, hor, hbr⟩
    obtain ⟨i1, i4, rfl⟩ := hor.st.shape
    obtain ⟨i2, i5, rfl⟩ := hor.lf.shape
    obtain ⟨i3, i6, rfl⟩ := hor.ln.shape
    have HSg : Hid (Since w.heap.size w (q7.alloc (.cells #[.slice i1 n.st.length i4, .slice i2 n.lf.length i5, .slice i3 n.ln.length i6] 40))) := (HSf.out.step hbr).step ((Below.refl _ _).alloc (Nat.le_refl _) _)
    have HEg : Hid (Bx3 (q7.alloc (.cells #[.slice i1 n.st.length i4, .slice i2 n.lf.length i5, .slice i3 n.ln.length i6] 40)) q2.heap.size (.slice e1 r.st.length e4) (.slice e2 r.lf.length e5) (.slice e3 r.ln.length e6)) := (HEf.out.below hbr).below ((Below.refl _ _).alloc (Nat.le_refl _) _)
    have OEg : Hid (Own3 (q7.alloc (.cells #[.slice i1 n.st.length i4, .slice i2 n.lf.length i5, .slice i3 n.ln.length i6] 40)) 0 (.slice e1 r.st.length e4) (.slice e2 r.lf.length e5) (.slice e3 r.ln.length e6) r) := (OEf.out.below hbr).below ((Below.refl _ _).alloc (Nat.le_refl _) _)
    have HGg : Hid (Bx3 (q7.alloc (.cells #[.slice i1 n.st.length i4, .slice i2 n.lf.length i5, .slice i3 n.ln.length i6] 40)) q3.heap.size (.slice f1 r.st.length f4) (.slice f2 r.lf.length f5) (.slice f3 r.ln.length f6)) := (HGf.out.below hbr).below ((Below.refl _ _).alloc (Nat.le_refl _) _)
    have OGg : Hid (Own3 (q7.alloc (.cells #[.slice i1 n.st.length i4, .slice i2 n.lf.length i5, .slice i3 n.ln.length i6] 40)) 0 (.slice f1 r.st.length f4) (.slice f2 r.lf.length f5) (.slice f3 r.ln.length f6) r) := (OGf.out.below hbr).below ((Below.refl _ _).alloc (Nat.le_refl _) _)
    clear HSf HEf OEf HGf OGf
    have HIg : Hid (Bx3 (q7.alloc (.cells #[.slice i1 n.st.length i4, .slice i2 n.lf.length i5, .slice i3 n.ln.length i6] 40)) q7.heap.size (.slice i1 n.st.length i4) (.slice i2 n.lf.length i5) (.slice i3 n.ln.length i6)) := Bx3.new _ _ _ _ _
    have OIg : Hid (Own3 (q7.alloc (.cells #[.slice i1 n.st.length i4, .slice i2 n.lf.length i5, .slice i3 n.ln.length i6] 40)) 0 (.slice i1 n.st.length i4) (.slice i2 n.lf.length i5) (.slice i3 n.ln.length i6) n) := (hor.mono (Nat.zero_le _)).al _
    clear hor hbr CNI
    go_wp2_with fail
    refine (CNS.out _).mono ?_
    rintro e q8 ⟨x, y, z, rfl, hor, hbr⟩
    obtain ⟨j1, j4, rfl⟩ := hor.st.shape
    obtain ⟨j2, j5, rfl⟩ := hor.lf.shape
    obtain ⟨j3, j6, rfl⟩ := hor.ln.shape
    have HSh : Hid (Since w.heap.size w (q8.alloc (.cells #[.slice j1 n.st.length j4, .slice j2 n.lf.length j5, .slice j3 n.ln.length j6] 40))) := (HSg.out.step hbr).step ((Below.refl _ _).alloc (Nat.le_refl _) _)
    have HEh : Hid (Bx3 (q8.alloc (.cells #[.slice j1 n.st.length j4, .slice j2 n.lf.length j5, .slice j3 n.ln.length j6] 40)) q2.heap.size (.slice e1 r.st.length e4) (.slice e2 r.lf.length e5) (.slice e3 r.ln.length e6)) := (HEg.out.below hbr).below ((Below.refl _ _).alloc (Nat.le_refl _) _)
    have OEh : Hid (Own3 (q8.alloc (.cells #[.slice j1 n.st.length j4, .slice j2 n.lf.length j5, .slice j3 n.ln.length j6] 40)) 0 (.slice e1 r.st.length e4) (.slice e2 r.lf.length e5) (.slice e3 r.ln.length e6) r) := (OEg.out.below hbr).below ((Below.refl _ _).alloc (Nat.le_refl _) _)
    have HGh : Hid (Bx3 (q8.alloc (.cells #[.slice j1 n.st.length j4, .slice j2 n.lf.length j5, .slice j3 n.ln.length j6] 40)) q3.heap.size (.slice f1 r.st.length f4) (.slice f2 r.lf.length f5) (.slice f3 r.ln.length f6)) := (HGg.out.below hbr).below ((Below.refl _ _).alloc (Nat.le_refl _) _)
    have OGh : Hid (Own3 (q8.alloc (.cells #[.slice j1 n.st.length j4, .slice j2 n.lf.length j5, .slice j3 n.ln.length j6] 40)) 0 (.slice f1 r.st.length f4) (.slice f2 r.lf.length f5) (.slice f3 r.ln.length f6) r) := (OGg.out.below hbr).below ((Below.refl _ _).alloc (Nat.le_refl _) _)
    have HIh : Hid (Bx3 (q8.alloc (.cells #[.slice j1 n.st.length j4, .slice j2 n.lf.length j5, .slice j3 n.ln.length j6] 40)) q7.heap.size (.slice i1 n.st.length i4) (.slice i2 n.lf.length i5) (.slice i3 n.ln.length i6)) := (HIg.out.below hbr).below ((Below.refl _ _).alloc (Nat.le_refl _) _)
    have OIh : Hid (Own3 (q8.alloc (.cells #[.slice j1 n.st.length j4, .slice j2 n.lf.length j5, .slice j3 n.ln.length j6] 40)) 0 (.slice i1 n.st.length i4) (.slice i2 n.lf.length i5) (.slice i3 n.ln.length i6) n) := (OIg.out.below hbr).below ((Below.refl _ _).alloc (Nat.le_refl _) _)
    clear HSg HEg OEg HGg OGg HIg OIg
    have HJh : Hid (Bx3 (q8.alloc (.cells #[.slice j1 n.st.length j4, .slice j2 n.lf.length j5, .slice j3 n.ln.length j6] 40)) q8.heap.size (.slice j1 n.st.length j4) (.slice j2 n.lf.length j5) (.slice j3 n.ln.length j6)) := Bx3.new _ _ _ _ _
    have OJh : Hid (Own3 (q8.alloc (.cells #[.slice j1 n.st.length j4, .slice j2 n.lf.length j5, .slice j3 n.ln.length j6] 40)) 0 (.slice j1 n.st.length j4) (.slice j2 n.lf.length j5) (.slice j3 n.ln.length j6) n) := (hor.mono (Nat.zero_le _)).al _
    clear hor hbr CNS
    have ce0 := HEh.out.c0
    have ce1 := HEh.out.c1
    have ce2 := HEh.out.c2
    have cg0 := HGh.out.c0
    have cg1 := HGh.out.c1
    have cg2 := HGh.out.c2
    go_wp2_with fail
    refine (samePair_same _ _ _ _ _ _ _ r OEh.out.reads OGh.out.reads M1.out M2.out M3.out).mono ?_
    rintro e q9 ⟨rfl, hb9⟩
    clear ce0 ce1 ce2 cg0 cg1 cg2
    clear HEh OEh HGh OGh
    have HSi : Hid (Since w.heap.size w q9) := HSh.out.step hb9
    have HIi : Hid (Bx3 q9 q7.heap.size (.slice i1 n.st.length i4) (.slice i2 n.lf.length i5) (.slice i3 n.ln.length i6)) := HIh.out.below hb9
    have OIi : Hid (Own3 q9 0 (.slice i1 n.st.length i4) (.slice i2 n.lf.length i5) (.slice i3 n.ln.length i6) n) := OIh.out.below hb9
    have HJi : Hid (Bx3 q9 q8.heap.size (.slice j1 n.st.length j4) (.slice j2 n.lf.length j5) (.slice j3 n.ln.length j6)) := HJh.out.below hb9
    have OJi : Hid (Own3 q9 0 (.slice j1 n.st.length j4) (.slice j2 n.lf.length j5) (.slice j3 n.ln.length j6) n) := OJh.out.below hb9
    clear HSh HIh OIh HJh OJh
    clear hb9
    have ci0 := HIi.out.c0
    have ci1 := HIi.out.c1
    have ci2 := HIi.out.c2
    have cj0 := HJi.out.c0
    have cj1 := HJi.out.c1
    have cj2 := HJi.out.c2
    go_wp2_with fail
    refine (samePair_same _ _ _ _ _ _ _ n OIi.out.reads OJi.out.reads N1.out N2.out N3.out).mono ?_
    rintro e q10 ⟨rfl, hb10⟩
    have HSZ : Hid (Since w.heap.size w q10) := HSi.out.step hb10
    clear ci0 ci1 ci2 cj0 cj1 cj2
    clear HIi OIi HJi OJi HSi hb10
    go_wp2
    go_ret
    exact ⟨rfl, HSZ.out.1⟩
  | true =>
    have HOL : Hid (o.st.length = 2) := (HYS.out rfl).1
    have CGO : Hid (∀ W x y z, Reads3 W x y z o → Calls Try.prog 23 #[.agg #[x, y, z]] W fun e W' => e = .returned (.bool true) ∧ Below W.heap.size W W') := (HYS.out rfl).2.1
    have HSTA : Hid (∀ (j : Nat) (u s : Int), o.st[j]? = some u → p.st[j]? = some s → (u = s ∨ ((kd = 2 ∨ kd = 4) ∧ u ≠ 2)) ∨ (kd = 2 ∧ ∃ n : Nat, k = n ∧ ∃ hn : n < p.ln.length, p.ln[n].h = true ∧ p.ln[n].f ≠ (j : Int))) := (HYS.out rfl).2.2
    clear HYS
    go_wp2_with fail
    refine (CGO.out _ _ _ _ OX4.out.reads).mono ?_
    rintro e z8 ⟨rfl, hb8⟩
    have S8 : Hid (Since w.heap.size w z8) := S4.out.step hb8
    have HX8 : Hid (Bx3 z8 z2.heap.size (.slice x1 o.st.length x4) (.slice x2 o.lf.length x5) (.slice x3 o.ln.length x6)) := HX4.out.below hb8
    have OX8 : Hid (Own3 z8 0 (.slice x1 o.st.length x4) (.slice x2 o.lf.length x5) (.slice x3 o.ln.length x6) o) := OX4.out.below hb8
    have HP8 : Hid (Bx3 z8 z1.heap.size (.slice (some ⟨g1, 0, none⟩) 2 c1) (.slice (some ⟨g2, 0, none⟩) 2 c2) (.slice a3 p.ln.length c3)) := HP4.out.below hb8
    have OP8 : Hid (Own3 z8 0 (.slice (some ⟨g1, 0, none⟩) 2 c1) (.slice (some ⟨g2, 0, none⟩) 2 c2) (.slice a3 p.ln.length c3) p) := OP4.out.below hb8
    have HD8 : Hid (Bd2 z8 (z1.heap.size + 1) (.int .i64 kd) (.int .i64 k)) := HD4.out.below hb8
    clear hb8 S4 HX4 OX4 HP4 OP4 HD4
    have kx0 := HX8.out.c0
    have kx1 := HX8.out.c1
    have kx2 := HX8.out.c2
    have kp0 := HP8.out.c0
    have kp1 := HP8.out.c1
    have kp2 := HP8.out.c2
    have kd0 := HD8.out.c0
    have kd1 := HD8.out.c1
    have HXC : Hid (∀ j (hj : j < o.st.length), ∃ g f, x1 = some ⟨g, f, none⟩ ∧ z8.cell? ⟨g, f + j, none⟩ = some (.int .i64 o.st[j])) := fun j hj => by
      obtain ⟨a', c', e', hcc⟩ := OX8.out.reads.st
      have ea : x1 = a' := by simp at e'; exact e'.1
      rcases hcc with e | ⟨g, f, ha, hg, hc⟩
      · rw [e] at hj; simp at hj
      · exact ⟨g, f, ea.trans ha, hc j hj⟩
    have HPC : Hid (∀ j (hj : j < p.st.length), z8.cell? ⟨g1, j, none⟩ = some (.int .i64 p.st[j])) := fun j hj => by
      obtain ⟨a', c', e', hcc⟩ := OP8.out.reads.st
      have ea : some (⟨g1, 0, none⟩ : Addr) = a' := by simp at e'; exact e'.1
      rcases hcc with e | ⟨g, f, ha, hg, hc⟩
      · rw [e] at hj; simp at hj
      · have e2 := ea.trans ha
        simp only [Option.some.injEq, Addr.mk.injEq, and_true] at e2
        obtain ⟨rfl, rfl⟩ := e2
        have := hc j hj
        rw [Nat.zero_add] at this
        exact this
    have HLC : Hid (∀ j (hj : j < p.ln.length), ∃ g f, a3 = some ⟨g, f, none⟩ ∧ HelloAt z8 g (f + j * 2) p.ln[j]) := fun j hj => by
      obtain ⟨a', c', e', hcc⟩ := OP8.out.reads.ln
      have ea : a3 = a' := by simp at e'; exact e'.1
      rcases hcc with e | ⟨g, f, ha, hg, hc⟩
      · rw [e] at hj; simp at hj
      · exact ⟨g, f, ea.trans ha, hc j hj⟩
    have ho2 : o.st.length = 2 := HOL.out
    go_wp2
    go_loopw [72] (fun i wr => ∃ j : Nat, j ≤ o.st.length ∧ i = .int .i64 j ∧ ∃ n, wr = z8.drewN n) (fun i _ => o.st.length - (intOf i).toNat)
    case atStart => exact ⟨0, Nat.zero_le _, rfl, 0, rfl⟩
    case round =>
      obtain ⟨j, hj, rfl, n, rfl⟩ := hrel
      by_cases hlt : j < o.st.length
      · have hlt' : (j : Int) < (o.st.length : Int) := by omega
        have hlt2 : (j : Int) < 2 := by omega
        have hjp : j < p.st.length := by rw [HPL.out]; omega
        obtain ⟨gx, fx, rfl, q0⟩ := HXC.out j hlt
        have q1 := HPC.out j hjp
        have HST := HSTA.out j o.st[j] p.st[j] (List.getElem?_eq_getElem hlt) (List.getElem?_eq_getElem hjp)
        generalize o.st[j] = u at q0 HST
        generalize p.st[j] = s at q1 HST
        by_cases e1 : u = s
        · subst e1
          clear HST
          by_cases e2 : u = 2
          · subst e2
            go_wp2
            go_quiet (fail)
            go_wp2
            go_roundw
            case rel => exact ⟨j + 1, by omega, by go_num, _, rfl⟩
            case measure => simp [intOf]; omega
          · have e2' : decide (u = 2) = false := decide_eq_false e2
            have e2q : (u == 2) = false := by simpa using e2
            go_wp2
            go_quiet (fail)
            go_wp2
            go_roundw
            case rel => exact ⟨j + 1, by omega, by go_num, _, rfl⟩
            case measure => simp [intOf]; omega
        · have e1' : decide (u = s) = false := decide_eq_false e1
          have e1q : (u != s) = true := by simpa using e1
          by_cases e2 : u = 2
          · obtain ⟨k2, kn, rfl, hkn, hh, hf⟩ : kd = 2 ∧ ∃ n : Nat, k = n ∧ ∃ hn : n < p.ln.length, p.ln[n].h = true ∧ p.ln[n].f ≠ (j : Int) := by
              rcases HST with (h | ⟨-, h⟩) | h
              · exact absurd h e1
              · exact absurd e2 h
              · exact h
            obtain ⟨g3, f3, rfl, l0, l1⟩ := HLC.out kn hkn
            generalize p.ln[kn] = hx at l0 l1 hh hf
            rw [hh] at l1
            have hkn' : (kn : Int) < (p.ln.length : Int) := by omega
            have hfq : decide (hx.f = (j : Int)) = false := decide_eq_false hf
            have hfb : (hx.f == (j : Int)) = false := by simpa using hf
            have es : s ≠ 2 := fun h => e1 (by rw [e2, h])
            have esd : decide (s = 2) = false := decide_eq_false es
            have esq : (s != 2) = true := by simpa using es
            have e1r : decide ((2 : Int) = s) = false := decide_eq_false (fun h => es h.symm)
            subst e2
            subst k2
            go_wp2
            go_quiet (fail)
            go_wp2
            go_roundw
            case rel => exact ⟨j + 1, by omega, by go_num, _, rfl⟩
            case measure => simp [intOf]; omega
          · have hkd : kd = 2 ∨ kd = 4 := by
              rcases HST with (h | ⟨h, -⟩) | ⟨h, -⟩
              · exact absurd h e1
              · exact h
              · exact .inl h
            have e2' : decide (u = 2) = false := decide_eq_false e2
            have e2q : (u == 2) = false := by simpa using e2
            clear HST
            rcases hkd with rfl | rfl
            · go_wp2
              go_quiet (fail)
              go_wp2
              go_roundw
              case rel => exact ⟨j + 1, by omega, by go_num, _, rfl⟩
              case measure => simp [intOf]; omega
            · go_wp2
              go_quiet (fail)
              go_wp2
              go_roundw
              case rel => exact ⟨j + 1, by omega, by go_num, _, rfl⟩
              case measure => simp [intOf]; omega
      · have hlt' : ¬ (j : Int) < (o.st.length : Int) := by omega
        have SZ : Hid (Since w.heap.size w (z8.drewN n)) := S8.out.step (below_drewN (Below.refl _ _) _)
        clear S8 HX8 OX8 HP8 OP8 HD8 HXC HPC HLC
        clear kx0 kx1 kx2 kp0 kp1 kp2 kd0 kd1
        generalize z8.drewN n = zz at *
        go_wp2_with fail
        refine (drawSettle_any _ a1 len1 cap1 (code_since HC1.out SZ.out) (by omega)).mono ?_
        rintro e q1 ⟨x, y, z, q, rfl, hoq, hst, hlf, hln, hbq⟩
        obtain ⟨u1, d1, rfl⟩ := two_row hoq.st hst
        obtain ⟨u2, d2, rfl⟩ := two_row hoq.lf hlf
        obtain ⟨b3, d3, rfl⟩ : ∃ a c, z = Value.slice a q.ln.length c := hoq.ln.shape
        have HSa : Hid (Since w.heap.size w (q1.alloc (.cells #[.slice (some ⟨u1, 0, none⟩) 2 d1, .slice (some ⟨u2, 0, none⟩) 2 d2, .slice b3 q.ln.length d3] 40))) := (SZ.out.step hbq).step ((Below.refl _ _).alloc (Nat.le_refl _) _)
        have HKa : Hid (Bx3 (q1.alloc (.cells #[.slice (some ⟨u1, 0, none⟩) 2 d1, .slice (some ⟨u2, 0, none⟩) 2 d2, .slice b3 q.ln.length d3] 40)) q1.heap.size (.slice (some ⟨u1, 0, none⟩) 2 d1) (.slice (some ⟨u2, 0, none⟩) 2 d2) (.slice b3 q.ln.length d3)) := Bx3.new _ _ _ _ _
        have OKa : Hid (Own3 (q1.alloc (.cells #[.slice (some ⟨u1, 0, none⟩) 2 d1, .slice (some ⟨u2, 0, none⟩) 2 d2, .slice b3 q.ln.length d3] 40)) 0 (.slice (some ⟨u1, 0, none⟩) 2 d1) (.slice (some ⟨u2, 0, none⟩) 2 d2) (.slice b3 q.ln.length d3) q) := (hoq.mono (Nat.zero_le _)).al _
        have Q1 : Hid (q.st.length ≤ 1048576) := by show _ ≤ _; omega
        have Q2 : Hid (q.lf.length ≤ 1048576) := by show _ ≤ _; omega
        have Q3 : Hid (q.ln.length ≤ 1048576) := by show _ ≤ _; omega
        obtain ⟨r, hr⟩ : ∃ r, r = settleOut q := ⟨_, rfl⟩
        obtain ⟨gq, hgq⟩ : ∃ g, g = goodPr q := ⟨_, rfl⟩
        obtain ⟨bq, hbb⟩ : ∃ b, b = bothB q := ⟨_, rfl⟩
        have CSI : Hid (∀ W x y z, Own3 W 0 x y z q → Calls Try.prog 21 #[.agg #[x, y, z]] W fun e W' => ∃ x' y' z', e = .returned (.tuple #[.agg #[x', y', z'], .bool gq]) ∧ Own3 W' W.heap.size x' y' z' r ∧ Below W.heap.size W W') := fun W x y z h => by rw [hr, hgq]; exact implSettle_any W 0 x y z q h (Nat.zero_le _) Q1.out Q2.out Q3.out
        have CSS : Hid (∀ W x y z, Own3 W 0 x y z q → Calls Try.prog 33 #[.agg #[x, y, z]] W fun e W' => ∃ x' y' z', e = .returned (.tuple #[.agg #[x', y', z'], .bool gq]) ∧ Own3 W' W.heap.size x' y' z' r ∧ Below W.heap.size W W') := fun W x y z h => by rw [hr, hgq]; exact specSettle_any W 0 x y z q h Q1.out Q2.out Q3.out
        have CBI : Hid (∀ W x y z, Own3 W 0 x y z q → Calls Try.prog 22 #[.agg #[x, y, z]] W fun e W' => e = .returned (.tuple #[.bool bq, .bool gq]) ∧ Below W.heap.size W W') := fun W x y z h => by rw [hbb, hgq]; exact implBoth_any W x y z q h.reads Q1.out Q2.out Q3.out
        have CBS : Hid (∀ W x y z, Own3 W 0 x y z q → Calls Try.prog 34 #[.agg #[x, y, z]] W fun e W' => e = .returned (.tuple #[.bool bq, .bool gq]) ∧ Below W.heap.size W W') := fun W x y z h => by rw [hbb, hgq]; exact specBoth_any W x y z q h.reads Q1.out Q2.out Q3.out
        obtain ⟨m1, m2, m3⟩ := settleOut_len q
        rw [← hr] at m1 m2 m3
        have M1 : Hid (r.st.length ≤ 1048576) := by show _ ≤ _; omega
        have M2 : Hid (r.lf.length ≤ 1048576) := by show _ ≤ _; omega
        have M3 : Hid (r.ln.length ≤ 1048576) := by show _ ≤ _; omega
        clear hoq hbq SZ hr hgq hbb m1 m2 m3 hst hlf hln
        go_wp2_with fail
        refine (CSI.out _ _ _ _ OKa.out).mono ?_
        rintro e q2 ⟨x, y, z, rfl, hor, hbr⟩
        obtain ⟨e1, e4, rfl⟩ := hor.st.shape
        obtain ⟨e2, e5, rfl⟩ := hor.lf.shape
        obtain ⟨e3, e6, rfl⟩ := hor.ln.shape
        have HSb : Hid (Since w.heap.size w (q2.alloc (.cells #[.slice e1 r.st.length e4, .slice e2 r.lf.length e5, .slice e3 r.ln.length e6] 40))) := (HSa.out.step hbr).step ((Below.refl _ _).alloc (Nat.le_refl _) _)
        have HKb : Hid (Bx3 (q2.alloc (.cells #[.slice e1 r.st.length e4, .slice e2 r.lf.length e5, .slice e3 r.ln.length e6] 40)) q1.heap.size (.slice (some ⟨u1, 0, none⟩) 2 d1) (.slice (some ⟨u2, 0, none⟩) 2 d2) (.slice b3 q.ln.length d3)) := (HKa.out.below hbr).below ((Below.refl _ _).alloc (Nat.le_refl _) _)
        have OKb : Hid (Own3 (q2.alloc (.cells #[.slice e1 r.st.length e4, .slice e2 r.lf.length e5, .slice e3 r.ln.length e6] 40)) 0 (.slice (some ⟨u1, 0, none⟩) 2 d1) (.slice (some ⟨u2, 0, none⟩) 2 d2) (.slice b3 q.ln.length d3) q) := (OKa.out.below hbr).below ((Below.refl _ _).alloc (Nat.le_refl _) _)
        clear HSa HKa OKa
        have HEb : Hid (Bx3 (q2.alloc (.cells #[.slice e1 r.st.length e4, .slice e2 r.lf.length e5, .slice e3 r.ln.length e6] 40)) q2.heap.size (.slice e1 r.st.length e4) (.slice e2 r.lf.length e5) (.slice e3 r.ln.length e6)) := Bx3.new _ _ _ _ _
        have OEb : Hid (Own3 (q2.alloc (.cells #[.slice e1 r.st.length e4, .slice e2 r.lf.length e5, .slice e3 r.ln.length e6] 40)) 0 (.slice e1 r.st.length e4) (.slice e2 r.lf.length e5) (.slice e3 r.ln.length e6) r) := (hor.mono (Nat.zero_le _)).al _
        clear hor hbr CSI
        have ck0 := (HKb.out.c0)
        have ck1 := (HKb.out.c1)
        have ck2 := (HKb.out.c2)
        go_wp2_with fail
        refine (CSS.out _ _ _ _ OKb.out).mono ?_
        rintro e q3 ⟨x, y, z, rfl, hor, hbr⟩
        clear ck0 ck1 ck2
        obtain ⟨f1, f4, rfl⟩ := hor.st.shape
        obtain ⟨f2, f5, rfl⟩ := hor.lf.shape
        obtain ⟨f3, f6, rfl⟩ := hor.ln.shape
        have HSc : Hid (Since w.heap.size w (q3.alloc (.cells #[.slice f1 r.st.length f4, .slice f2 r.lf.length f5, .slice f3 r.ln.length f6] 40))) := (HSb.out.step hbr).step ((Below.refl _ _).alloc (Nat.le_refl _) _)
        have HKc : Hid (Bx3 (q3.alloc (.cells #[.slice f1 r.st.length f4, .slice f2 r.lf.length f5, .slice f3 r.ln.length f6] 40)) q1.heap.size (.slice (some ⟨u1, 0, none⟩) 2 d1) (.slice (some ⟨u2, 0, none⟩) 2 d2) (.slice b3 q.ln.length d3)) := (HKb.out.below hbr).below ((Below.refl _ _).alloc (Nat.le_refl _) _)
        have OKc : Hid (Own3 (q3.alloc (.cells #[.slice f1 r.st.length f4, .slice f2 r.lf.length f5, .slice f3 r.ln.length f6] 40)) 0 (.slice (some ⟨u1, 0, none⟩) 2 d1) (.slice (some ⟨u2, 0, none⟩) 2 d2) (.slice b3 q.ln.length d3) q) := (OKb.out.below hbr).below ((Below.refl _ _).alloc (Nat.le_refl _) _)
        have HEc : Hid (Bx3 (q3.alloc (.cells #[.slice f1 r.st.length f4, .slice f2 r.lf.length f5, .slice f3 r.ln.length f6] 40)) q2.heap.size (.slice e1 r.st.length e4) (.slice e2 r.lf.length e5) (.slice e3 r.ln.length e6)) := (HEb.out.below hbr).below ((Below.refl _ _).alloc (Nat.le_refl _) _)
        have OEc : Hid (Own3 (q3.alloc (.cells #[.slice f1 r.st.length f4, .slice f2 r.lf.length f5, .slice f3 r.ln.length f6] 40)) 0 (.slice e1 r.st.length e4) (.slice e2 r.lf.length e5) (.slice e3 r.ln.length e6) r) := (OEb.out.below hbr).below ((Below.refl _ _).alloc (Nat.le_refl _) _)
        clear HSb HKb OKb HEb OEb
        have HGc : Hid (Bx3 (q3.alloc (.cells #[.slice f1 r.st.length f4, .slice f2 r.lf.length f5, .slice f3 r.ln.length f6] 40)) q3.heap.size (.slice f1 r.st.length f4) (.slice f2 r.lf.length f5) (.slice f3 r.ln.length f6)) := Bx3.new _ _ _ _ _
        have OGc : Hid (Own3 (q3.alloc (.cells #[.slice f1 r.st.length f4, .slice f2 r.lf.length f5, .slice f3 r.ln.length f6] 40)) 0 (.slice f1 r.st.length f4) (.slice f2 r.lf.length f5) (.slice f3 r.ln.length f6) r) := (hor.mono (Nat.zero_le _)).al _
        clear hor hbr CSS
        have ck0 := HKc.out.c0
        have ck1 := HKc.out.c1
        have ck2 := HKc.out.c2
        go_wp2_with fail
        refine (CBI.out _ _ _ _ OKc.out).mono ?_
        rintro e q4 ⟨rfl, hb4⟩
        clear ck0 ck1 ck2
        have HSd : Hid (Since w.heap.size w q4) := HSc.out.step hb4
        have HKd : Hid (Bx3 q4 q1.heap.size (.slice (some ⟨u1, 0, none⟩) 2 d1) (.slice (some ⟨u2, 0, none⟩) 2 d2) (.slice b3 q.ln.length d3)) := HKc.out.below hb4
        have OKd : Hid (Own3 q4 0 (.slice (some ⟨u1, 0, none⟩) 2 d1) (.slice (some ⟨u2, 0, none⟩) 2 d2) (.slice b3 q.ln.length d3) q) := OKc.out.below hb4
        have HEd : Hid (Bx3 q4 q2.heap.size (.slice e1 r.st.length e4) (.slice e2 r.lf.length e5) (.slice e3 r.ln.length e6)) := HEc.out.below hb4
        have OEd : Hid (Own3 q4 0 (.slice e1 r.st.length e4) (.slice e2 r.lf.length e5) (.slice e3 r.ln.length e6) r) := OEc.out.below hb4
        have HGd : Hid (Bx3 q4 q3.heap.size (.slice f1 r.st.length f4) (.slice f2 r.lf.length f5) (.slice f3 r.ln.length f6)) := HGc.out.below hb4
        have OGd : Hid (Own3 q4 0 (.slice f1 r.st.length f4) (.slice f2 r.lf.length f5) (.slice f3 r.ln.length f6) r) := OGc.out.below hb4
        clear HSc HKc OKc HEc OEc HGc OGc
        clear hb4 CBI
        have ck0 := HKd.out.c0
        have ck1 := HKd.out.c1
        have ck2 := HKd.out.c2
        go_wp2_with fail
        refine (CBS.out _ _ _ _ OKd.out).mono ?_
        rintro e q5 ⟨rfl, hb5⟩
        clear ck0 ck1 ck2
        have HSe : Hid (Since w.heap.size w q5) := HSd.out.step hb5
        have HEe : Hid (Bx3 q5 q2.heap.size (.slice e1 r.st.length e4) (.slice e2 r.lf.length e5) (.slice e3 r.ln.length e6)) := HEd.out.below hb5
        have OEe : Hid (Own3 q5 0 (.slice e1 r.st.length e4) (.slice e2 r.lf.length e5) (.slice e3 r.ln.length e6) r) := OEd.out.below hb5
        have HGe : Hid (Bx3 q5 q3.heap.size (.slice f1 r.st.length f4) (.slice f2 r.lf.length f5) (.slice f3 r.ln.length f6)) := HGd.out.below hb5
        have OGe : Hid (Own3 q5 0 (.slice f1 r.st.length f4) (.slice f2 r.lf.length f5) (.slice f3 r.ln.length f6) r) := OGd.out.below hb5
        clear HSd HEd OEd HGd OGd
        clear hb5 CBS HKd OKd
        go_wp2_with fail
        refine (drawNew_any q5.heap.size q5 _ a1 len1 cap1 (code_since HC1.out HSe.out) (by omega) (Since.start q5)).mono ?_
        rintro e q6 ⟨lf, rfl, hs6⟩
        have HSf : Hid (Since w.heap.size w q6) := HSe.out.step hs6.1
        have HEf : Hid (Bx3 q6 q2.heap.size (.slice e1 r.st.length e4) (.slice e2 r.lf.length e5) (.slice e3 r.ln.length e6)) := HEe.out.below hs6.1
        have OEf : Hid (Own3 q6 0 (.slice e1 r.st.length e4) (.slice e2 r.lf.length e5) (.slice e3 r.ln.length e6) r) := OEe.out.below hs6.1
        have HGf : Hid (Bx3 q6 q3.heap.size (.slice f1 r.st.length f4) (.slice f2 r.lf.length f5) (.slice f3 r.ln.length f6)) := HGe.out.below hs6.1
        have OGf : Hid (Own3 q6 0 (.slice f1 r.st.length f4) (.slice f2 r.lf.length f5) (.slice f3 r.ln.length f6) r) := OGe.out.below hs6.1
        clear HSe HEe OEe HGe OGe
        obtain ⟨n, hn⟩ : ∃ n, n = newP lf := ⟨_, rfl⟩
        obtain ⟨nb, hnb⟩ : ∃ b, b = newB lf := ⟨_, rfl⟩
        have CNI : Hid (∀ W, Calls Try.prog 36 #[.int .i64 lf] W fun e W' => ∃ x y z, e = .returned (.tuple #[.agg #[x, y, z], .bool nb]) ∧ Own3 W' W.heap.size x y z n ∧ Below W.heap.size W W') := fun W => by rw [hn, hnb]; exact implNew_any lf W
        have CNS : Hid (∀ W, Calls Try.prog 37 #[.int .i64 lf] W fun e W' => ∃ x y z, e = .returned (.tuple #[.agg #[x, y, z], .bool nb]) ∧ Own3 W' W.heap.size x y z n ∧ Below W.heap.size W W') := fun W => by rw [hn, hnb]; exact specNew_any lf W
        obtain ⟨m1, m2, m3⟩ := newP_len lf
        rw [← hn] at m1 m2 m3
        have N1 : Hid (n.st.length ≤ 1048576) := by show _ ≤ _; omega
        have N2 : Hid (n.lf.length ≤ 1048576) := by show _ ≤ _; omega
        have N3 : Hid (n.ln.length ≤ 1048576) := by show _ ≤ _; omega
        clear hs6 hn hnb m1 m2 m3
        go_wp2_with fail
        refine (CNI.out _).mono ?_
        rintro e q7 ⟨x, y, z, rfl, hor, hbr⟩
        obtain ⟨i1, i4, rfl⟩ := hor.st.shape
        obtain ⟨i2, i5, rfl⟩ := hor.lf.shape
        obtain ⟨i3, i6, rfl⟩ := hor.ln.shape
        have HSg : Hid (Since w.heap.size w (q7.alloc (.cells #[.slice i1 n.st.length i4, .slice i2 n.lf.length i5, .slice i3 n.ln.length i6] 40))) := (HSf.out.step hbr).step ((Below.refl _ _).alloc (Nat.le_refl _) _)
        have HEg : Hid (Bx3 (q7.alloc (.cells #[.slice i1 n.st.length i4, .slice i2 n.lf.length i5, .slice i3 n.ln.length i6] 40)) q2.heap.size (.slice e1 r.st.length e4) (.slice e2 r.lf.length e5) (.slice e3 r.ln.length e6)) := (HEf.out.below hbr).below ((Below.refl _ _).alloc (Nat.le_refl _) _)
        have OEg : Hid (Own3 (q7.alloc (.cells #[.slice i1 n.st.length i4, .slice i2 n.lf.length i5, .slice i3 n.ln.length i6] 40)) 0 (.slice e1 r.st.length e4) (.slice e2 r.lf.length e5) (.slice e3 r.ln.length e6) r) := (OEf.out.below hbr).below ((Below.refl _ _).alloc (Nat.le_refl _) _)
        have HGg : Hid (Bx3 (q7.alloc (.cells #[.slice i1 n.st.length i4, .slice i2 n.lf.length i5, .slice i3 n.ln.length i6] 40)) q3.heap.size (.slice f1 r.st.length f4) (.slice f2 r.lf.length f5) (.slice f3 r.ln.length f6)) := (HGf.out.below hbr).below ((Below.refl _ _).alloc (Nat.le_refl _) _)
        have OGg : Hid (Own3 (q7.alloc (.cells #[.slice i1 n.st.length i4, .slice i2 n.lf.length i5, .slice i3 n.ln.length i6] 40)) 0 (.slice f1 r.st.length f4) (.slice f2 r.lf.length f5) (.slice f3 r.ln.length f6) r) := (OGf.out.below hbr).below ((Below.refl _ _).alloc (Nat.le_refl _) _)
        clear HSf HEf OEf HGf OGf
        have HIg : Hid (Bx3 (q7.alloc (.cells #[.slice i1 n.st.length i4, .slice i2 n.lf.length i5, .slice i3 n.ln.length i6] 40)) q7.heap.size (.slice i1 n.st.length i4) (.slice i2 n.lf.length i5) (.slice i3 n.ln.length i6)) := Bx3.new _ _ _ _ _
        have OIg : Hid (Own3 (q7.alloc (.cells #[.slice i1 n.st.length i4, .slice i2 n.lf.length i5, .slice i3 n.ln.length i6] 40)) 0 (.slice i1 n.st.length i4) (.slice i2 n.lf.length i5) (.slice i3 n.ln.length i6) n) := (hor.mono (Nat.zero_le _)).al _
        clear hor hbr CNI
        go_wp2_with fail
        refine (CNS.out _).mono ?_
        rintro e q8 ⟨x, y, z, rfl, hor, hbr⟩
        obtain ⟨j1, j4, rfl⟩ := hor.st.shape
        obtain ⟨j2, j5, rfl⟩ := hor.lf.shape
        obtain ⟨j3, j6, rfl⟩ := hor.ln.shape
        have HSh : Hid (Since w.heap.size w (q8.alloc (.cells #[.slice j1 n.st.length j4, .slice j2 n.lf.length j5, .slice j3 n.ln.length j6] 40))) := (HSg.out.step hbr).step ((Below.refl _ _).alloc (Nat.le_refl _) _)
        have HEh : Hid (Bx3 (q8.alloc (.cells #[.slice j1 n.st.length j4, .slice j2 n.lf.length j5, .slice j3 n.ln.length j6] 40)) q2.heap.size (.slice e1 r.st.length e4) (.slice e2 r.lf.length e5) (.slice e3 r.ln.length e6)) := (HEg.out.below hbr).below ((Below.refl _ _).alloc (Nat.le_refl _) _)
        have OEh : Hid (Own3 (q8.alloc (.cells #[.slice j1 n.st.length j4, .slice j2 n.lf.length j5, .slice j3 n.ln.length j6] 40)) 0 (.slice e1 r.st.length e4) (.slice e2 r.lf.length e5) (.slice e3 r.ln.length e6) r) := (OEg.out.below hbr).below ((Below.refl _ _).alloc (Nat.le_refl _) _)
        have HGh : Hid (Bx3 (q8.alloc (.cells #[.slice j1 n.st.length j4, .slice j2 n.lf.length j5, .slice j3 n.ln.length j6] 40)) q3.heap.size (.slice f1 r.st.length f4) (.slice f2 r.lf.length f5) (.slice f3 r.ln.length f6)) := (HGg.out.below hbr).below ((Below.refl _ _).alloc (Nat.le_refl _) _)
        have OGh : Hid (Own3 (q8.alloc (.cells #[.slice j1 n.st.length j4, .slice j2 n.lf.length j5, .slice j3 n.ln.length j6] 40)) 0 (.slice f1 r.st.length f4) (.slice f2 r.lf.length f5) (.slice f3 r.ln.length f6) r) := (OGg.out.below hbr).below ((Below.refl _ _).alloc (Nat.le_refl _) _)
        have HIh : Hid (Bx3 (q8.alloc (.cells #[.slice j1 n.st.length j4, .slice j2 n.lf.length j5, .slice j3 n.ln.length j6] 40)) q7.heap.size (.slice i1 n.st.length i4) (.slice i2 n.lf.length i5) (.slice i3 n.ln.length i6)) := (HIg.out.below hbr).below ((Below.refl _ _).alloc (Nat.le_refl _) _)
        have OIh : Hid (Own3 (q8.alloc (.cells #[.slice j1 n.st.length j4, .slice j2 n.lf.length j5, .slice j3 n.ln.length j6] 40)) 0 (.slice i1 n.st.length i4) (.slice i2 n.lf.length i5) (.slice i3 n.ln.length i6) n) := (OIg.out.below hbr).below ((Below.refl _ _).alloc (Nat.le_refl _) _)
        clear HSg HEg OEg HGg OGg HIg OIg
        have HJh : Hid (Bx3 (q8.alloc (.cells #[.slice j1 n.st.length j4, .slice j2 n.lf.length j5, .slice j3 n.ln.length j6] 40)) q8.heap.size (.slice j1 n.st.length j4) (.slice j2 n.lf.length j5) (.slice j3 n.ln.length j6)) := Bx3.new _ _ _ _ _
        have OJh : Hid (Own3 (q8.alloc (.cells #[.slice j1 n.st.length j4, .slice j2 n.lf.length j5, .slice j3 n.ln.length j6] 40)) 0 (.slice j1 n.st.length j4) (.slice j2 n.lf.length j5) (.slice j3 n.ln.length j6) n) := (hor.mono (Nat.zero_le _)).al _
        clear hor hbr CNS
        have ce0 := HEh.out.c0
        have ce1 := HEh.out.c1
        have ce2 := HEh.out.c2
        have cg0 := HGh.out.c0
        have cg1 := HGh.out.c1
        have cg2 := HGh.out.c2
        go_wp2_with fail
        refine (samePair_same _ _ _ _ _ _ _ r OEh.out.reads OGh.out.reads M1.out M2.out M3.out).mono ?_
        rintro e q9 ⟨rfl, hb9⟩
        clear ce0 ce1 ce2 cg0 cg1 cg2
        clear HEh OEh HGh OGh
        have HSi : Hid (Since w.heap.size w q9) := HSh.out.step hb9
        have HIi : Hid (Bx3 q9 q7.heap.size (.slice i1 n.st.length i4) (.slice i2 n.lf.length i5) (.slice i3 n.ln.length i6)) := HIh.out.below hb9
        have OIi : Hid (Own3 q9 0 (.slice i1 n.st.length i4) (.slice i2 n.lf.length i5) (.slice i3 n.ln.length i6) n) := OIh.out.below hb9
        have HJi : Hid (Bx3 q9 q8.heap.size (.slice j1 n.st.length j4) (.slice j2 n.lf.length j5) (.slice j3 n.ln.length j6)) := HJh.out.below hb9
        have OJi : Hid (Own3 q9 0 (.slice j1 n.st.length j4) (.slice j2 n.lf.length j5) (.slice j3 n.ln.length j6) n) := OJh.out.below hb9
        clear HSh HIh OIh HJh OJh
        clear hb9
        have ci0 := HIi.out.c0
        have ci1 := HIi.out.c1
        have ci2 := HIi.out.c2
        have cj0 := HJi.out.c0
        have cj1 := HJi.out.c1
        have cj2 := HJi.out.c2
        go_wp2_with fail
        refine (samePair_same _ _ _ _ _ _ _ n OIi.out.reads OJi.out.reads N1.out N2.out N3.out).mono ?_
        rintro e q10 ⟨rfl, hb10⟩
        have HSZ : Hid (Since w.heap.size w q10) := HSi.out.step hb10
        clear ci0 ci1 ci2 cj0 cj1 cj2
        clear HIi OIi HJi OJi HSi hb10
        go_wp2
        go_ret
        exact ⟨rfl, HSZ.out.1⟩
end fnPairs
end Go.Proofs.Ytchddjidjfpehaa
