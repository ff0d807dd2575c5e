/-
  Proved: for every list of bridges and every list of lists of numbers, 'LeadersBy' of the program at commit 8ec49a640c86 answers as the model's 'LeadersBy', every number and the bool; it writes into no argument (both lists that it was handed read as before), keeps nothing of them (marks that are written into them change no answer), and its answer is memory of its own (marks that are written into it stay there behind another call). No condition.
-/
import Derived.Test.YtiimiiblhafajauPlain
import Derived.Test.YtiimiiblhafajauLedI
import Derived.Test.YtiimiiblhafajauLedO
import Derived.Test.YtiimiiblhafajauRowOfBr
import Derived.Test.YtiimiiblhafajauRowOfSS
import Derived.Test.YtiimiiblhafajauRowLaw0
namespace Go.Proofs.Ytiimiiblhafajau.fnExactLeadersBy
open Go.ChangeShapes Go.WideShapes Go.ChangeAt Go.RowKit
open Go.ChangeMaps (open_string shut_string)
set_option linter.unusedVariables false

set_option maxRecDepth 100000 in
set_option maxHeartbeats 4000000 in
theorem walk (v : Value) (l : List BrD) (u : Value) (zss : List (List Int)) (w : World) (h : ReadsBr w v l) (hl : l.length ≤ maxLen) (h2 : ReadsSS w u zss) (hl2 : zss.length ≤ maxLen) (hj2 : ∀ j (hj : j < zss.length), zss[j].length ≤ maxLen) :
    Calls Try.prog 7 #[v, u] w fun e w' => e = .returned (.bool true) ∧ Below w.heap.size w w' := by
  have HRD : Hid (∀ W1, Since w.heap.size w W1 → ReadsBr W1 v l) := fun W1 hb => h.below hb.1
  have HRS : Hid (∀ W1, Since w.heap.size w W1 → ReadsSS W1 u zss) := fun W1 hb => h2.below hb.1
  have HL : Hid (l.length ≤ maxLen) := hl
  have HL2 : Hid (zss.length ≤ maxLen) := hl2
  have HJ2 : Hid (∀ j (hj : j < zss.length), zss[j].length ≤ maxLen) := hj2
  obtain ⟨a1, c1, rfl⟩ := h.shape
  obtain ⟨a2, c2, rfl⟩ := h2.shape
  have S1 : Hid (Since w.heap.size w w) := Since.start w
  obtain ⟨out, hout⟩ : ∃ out, out = ledOut l zss := ⟨_, rfl⟩
  obtain ⟨ok, hok⟩ : ∃ ok, ok = ledOk l zss := ⟨_, rfl⟩
  have OL : Hid (out.length ≤ 4194304) := by show _ ≤ _; rw [hout]; exact ledOut_len l zss
  clear h hl h2 hl2 hj2
  go_enter Try.func7, Try.ntmps7
  go_wp2_with fail
  refine (szBrs_any _ _ l 1048576 (HRD.out _ S1.out) HL.out (by omega) (by omega)).mono ?_
  rintro e w1 ⟨rfl, hw1⟩
  obtain rfl : w = w1 := hw1.symm
  rcases Int.lt_or_le 1048576 (l.length : Int) with hle | hle
  · rw [if_neg (by omega)]
    go_wp2
    go_ret
    exact ⟨rfl, S1.out.1⟩
  rw [if_pos hle]
  have hnn : ¬ (1048576 - (l.length : Int) < 0) := by omega
  have LL : Hid (l.length ≤ 1048576) := by show _ ≤ _; omega
  have LB : Hid (l.length ≤ 4194304) := by show _ ≤ _; omega
  obtain ⟨lf, hlf⟩ : ∃ lf : Int, lf = 1048576 - (l.length : Int) := ⟨_, rfl⟩
  have hlf0 : 0 ≤ lf := by omega
  have hlf1 : lf ≤ 1048576 := by omega
  have hlfn : ¬ lf < 0 := by omega
  rw [← hlf]
  clear hnn hle hlf
  go_wp2_with fail
  refine (szSS_any _ _ zss lf (HRS.out _ S1.out) HL2.out HJ2.out hlf0 hlf1).mono ?_
  rintro e w1 ⟨rfl, hw1⟩
  obtain rfl : w = w1 := hw1.symm
  obtain ⟨sz, hsz⟩ : ∃ sz, sz = szSS zss lf := ⟨_, rfl⟩
  rw [← hsz]
  rcases Int.lt_or_le sz 0 with hn | hn
  · go_wp2
    go_ret
    exact ⟨rfl, S1.out.1⟩
  have hnn : ¬ sz < 0 := by omega
  obtain ⟨z1, z2, z3⟩ := szSS_fit zss lf hlf1 (by rw [← hsz]; exact hnn)
  have LZ : Hid (zss.length ≤ 4194304) := by show _ ≤ _; omega
  have LZ1 : Hid (zss.length ≤ 1048576) := z1
  have LJ1 : Hid (∀ j (hj : j < zss.length), zss[j].length ≤ 1048576) := z2
  have LJ : Hid (∀ j (hj : j < zss.length), zss[j].length ≤ 4194304) := fun j hj => by have := z2 j hj; omega
  have LS : Hid (∀ k, k ≤ zss.length → sumL zss k ≤ 2097152) := fun k hk => by have := z3 k hk; omega
  clear z1 z2 z3 hsz hn hlf0 hlf1 hlfn
  have CS : Hid (∀ (W : World) (B B2 : Nat) (v u : Value) (vs : List Value), OwnBr W B v l → OwnSS W B2 u vs zss → Calls Try.prog 22 #[v, u] W fun e W' => ∃ v', e = .returned (.tuple #[v', .bool ok]) ∧ Own W' W.heap.size v' out ∧ Below W.heap.size W W') := fun W B B2 v u vs ho hs => by
    have := specLeaders_any W B B2 v u vs l zss ho hs LL.out LZ1.out LJ1.out
    rw [← hout, ← hok] at this
    exact this
  have CI : Hid (∀ (W : World) (B B2 : Nat) (v u : Value) (vs : List Value), OwnBr W B v l → OwnSS W B2 u vs zss → Calls Try.prog 24 #[v, u] W fun e W' => ∃ v', e = .returned (.tuple #[v', .bool ok]) ∧ Own W' W.heap.size v' out ∧ Below W.heap.size W W') := fun W B B2 v u vs ho hs => by
    have := implLeaders_any W B B2 v u vs l zss ho hs LL.out LZ1.out LJ1.out
    rw [← hout, ← hok] at this
    exact this
  clear hout hok
  obtain ⟨k1, hk1⟩ : ∃ k1 : Nat, k1 = 1 + 3 * l.length := ⟨_, rfl⟩
  obtain ⟨k2, hk2⟩ : ∃ k2 : Int, k2 = ((k1 + sumL zss zss.length : Nat) : Int) := ⟨_, rfl⟩
  obtain ⟨m1, hm1⟩ : ∃ m1 : Int, m1 = ((1 + 1 * out.length : Nat) : Int) := ⟨_, rfl⟩
  have hk2n : ¬ k2 < 0 := by omega
  have hm1n : ¬ m1 < 0 := by omega
  have MX : Hid (∀ (W : World) (B : Nat) (v : Value), OwnBr W B v l → Calls Try.prog 27 #[v, .int .i64 1] W fun e W' => e = .returned (.int .i64 (k1 : Int)) ∧ W.grownBy W' v.ownBlock) := fun W B v ho => by
    rw [hk1]
    exact (markBrs_any W B v 1 l ho LB.out (by omega)).mono fun e w' hh => ⟨hh.1, hh.2.2.2⟩
  have MY : Hid (∀ (W : World) (B : Nat) (u : Value) (vs : List Value), OwnSS W B u vs zss → Calls Try.prog 28 #[u, .int .i64 (k1 : Int)] W fun e W' => e = .returned (.int .i64 k2) ∧ Turned (InSS vs) W W') := fun W B u vs ho => by
    rw [hk2]
    exact markSS_any W B u vs zss k1 ho LZ.out LS.out (by have := LL.out; omega)
  have MG : Hid (∀ (W : World) (B : Nat) (v : Value), Own W B v out → Calls Try.prog 29 #[v, .int .i64 1] W fun e W' => e = .returned (.int .i64 m1) ∧ Own W' B v (marks ((1 : Nat) : Int) out.length) ∧ W'.heap.size = W.heap.size ∧ W.grownBy W' v.ownBlock) := fun W B v ho => by
    rw [hm1]
    exact markIs_any W B v 1 out ho OL.out (by omega)
  have HG : Hid (∀ (W : World) (B : Nat) (v : Value), Own W B v (marks ((1 : Nat) : Int) out.length) → Calls Try.prog 30 #[v, .int .i64 1] W fun e W' => e = .returned (.int .i64 m1) ∧ W' = W) := fun W B v ho => by
    rw [hm1]
    exact heldIs_yes W v 1 out.length ho.reads OL.out (by omega)
  clear hk1 hk2 hm1
  go_wp2_with fail
  refine (toBrs_any _ _ l (HRD.out _ S1.out) LB.out).mono ?_
  rintro e w2 ⟨v2, rfl, ho2, hb2⟩
  obtain ⟨x2, y2, rfl⟩ := ho2.shape
  have S2 : Hid (Since w.heap.size w w2) := S1.out.step hb2
  have B2 : Hid (Below w.heap.size w w2) := hb2
  have N2 : Hid (OwnBr w2 w.heap.size (.slice x2 l.length y2) l) := ho2
  have O2 : Hid (OwnBr w2 w.heap.size (.slice x2 l.length y2) l) := ho2.mono S1.out.2
  clear ho2 hb2
  go_wp2_with fail
  refine (toSS_any _ _ zss (HRS.out _ S2.out) LZ.out LJ.out).mono ?_
  rintro e w3 ⟨v3, rfl, ⟨vs3, ho3⟩, hb3⟩
  obtain ⟨x3, y3, rfl⟩ := ho3.shape
  have S3 : Hid (Since w.heap.size w w3) := S2.out.step hb3
  have B3 : Hid (Below w2.heap.size w2 w3) := hb3
  have N3 : Hid (OwnSS w3 w2.heap.size (.slice x3 zss.length y3) vs3 zss) := ho3
  have O3 : Hid (OwnSS w3 w.heap.size (.slice x3 zss.length y3) vs3 zss) := ho3.mono S2.out.2
  clear ho3 hb3
  have P3 : Hid (OwnBr w3 w.heap.size (.slice x2 l.length y2) l) := O2.out.below B3.out
  go_wp2_with fail
  refine (CS.out _ _ _ _ _ _ P3.out O3.out).mono ?_
  rintro e w4 ⟨v4, rfl, ho4, hb4⟩
  obtain ⟨x4, y4, rfl⟩ := rowShape ho4
  have S4 : Hid (Since w.heap.size w w4) := S3.out.step hb4
  have Q4 : Hid (Own w4 w.heap.size (.slice x4 out.length y4) out) := rowMono ho4 S3.out.2
  clear ho4 hb4
  go_wp2_with fail
  refine (toBrs_any _ _ l (HRD.out _ S4.out) LB.out).mono ?_
  rintro e w5 ⟨v5, rfl, ho5, hb5⟩
  obtain ⟨x5, y5, rfl⟩ := ho5.shape
  have S5 : Hid (Since w.heap.size w w5) := S4.out.step hb5
  have B5 : Hid (Below w4.heap.size w4 w5) := hb5
  have N5 : Hid (OwnBr w5 w4.heap.size (.slice x5 l.length y5) l) := ho5
  have O5 : Hid (OwnBr w5 w.heap.size (.slice x5 l.length y5) l) := ho5.mono S4.out.2
  clear ho5 hb5
  have Q5 : Hid (Own w5 w.heap.size (.slice x4 out.length y4) out) := rowBelow Q4.out B5.out
  have APSX : Hid (∀ k, (Value.slice x4 out.length y4).ownBlock = some k → (Value.slice x5 l.length y5).ownBlock ≠ some k) := rowsApartLt Q4.out N5.out (Nat.le_refl _)
  go_wp2_with fail
  refine (toSS_any _ _ zss (HRS.out _ S5.out) LZ.out LJ.out).mono ?_
  rintro e w6 ⟨v6, rfl, ⟨vs6, ho6⟩, hb6⟩
  obtain ⟨x6, y6, rfl⟩ := ho6.shape
  have S6 : Hid (Since w.heap.size w w6) := S5.out.step hb6
  have B6 : Hid (Below w5.heap.size w5 w6) := hb6
  have N6 : Hid (OwnSS w6 w5.heap.size (.slice x6 zss.length y6) vs6 zss) := ho6
  have O6 : Hid (OwnSS w6 w.heap.size (.slice x6 zss.length y6) vs6 zss) := ho6.mono S5.out.2
  clear ho6 hb6
  have Q6 : Hid (Own w6 w.heap.size (.slice x4 out.length y4) out) := rowBelow Q5.out B6.out
  have X6 : Hid (OwnBr w6 w.heap.size (.slice x5 l.length y5) l) := O5.out.below B6.out
  have APSY : Hid (∀ k, (Value.slice x4 out.length y4).ownBlock = some k → ¬ InSS vs6 k) := fun k hk hin => by
    have h1 := (World.ownsRow.lt Q5.out k hk).2
    have h2 := (N6.out.inLt k hin).1
    omega
  have APXY : Hid (∀ k, (Value.slice x5 l.length y5).ownBlock = some k → ¬ InSS vs6 k ∧ (Value.slice x6 zss.length y6).ownBlock ≠ some k) := fun k hk => by
    have h1 := (World.ownsRow.lt O5.out k hk).2
    refine ⟨fun hin => ?_, fun h2 => ?_⟩
    · have h2 := (N6.out.inLt k hin).1
      omega
    · have h3 := (World.ownsRow.lt N6.out.row k h2).1
      omega
  go_wp2_with fail
  refine (CI.out _ _ _ _ _ _ X6.out O6.out).mono ?_
  rintro e w7 ⟨v7, rfl, ho7, hb7⟩
  obtain ⟨x7, y7, rfl⟩ := rowShape ho7
  have S7 : Hid (Since w.heap.size w w7) := S6.out.step hb7
  have X7 : Hid (OwnBr w7 w.heap.size (.slice x5 l.length y5) l) := X6.out.below hb7
  have Y7 : Hid (OwnSS w7 w.heap.size (.slice x6 zss.length y6) vs6 zss) := O6.out.below hb7
  have Q7 : Hid (Own w7 w.heap.size (.slice x4 out.length y4) out) := rowBelow Q6.out hb7
  have G7 : Hid (Own w7 w.heap.size (.slice x7 out.length y7) out) := rowMono ho7 S6.out.2
  have APXG : Hid (∀ k, (Value.slice x5 l.length y5).ownBlock = some k → (Value.slice x7 out.length y7).ownBlock ≠ some k) := rowsApartLt X6.out ho7 (Nat.le_refl _)
  have APSG : Hid (∀ k, (Value.slice x4 out.length y4).ownBlock = some k → (Value.slice x7 out.length y7).ownBlock ≠ some k) := rowsApartLt Q6.out ho7 (Nat.le_refl _)
  have APGY : Hid (∀ k, (Value.slice x7 out.length y7).ownBlock = some k → ¬ InSS vs6 k) := fun k hk hin => by
    have h1 := (World.ownsRow.lt ho7 k hk).1
    have h2 := (O6.out.inLt k hin).2
    omega
  clear ho7 hb7
  go_wp2_with fail
  refine (eqIs_same _ _ _ out G7.out.reads Q7.out.reads OL.out).mono ?_
  rintro e w8 ⟨rfl, hb8⟩
  have S8 : Hid (Since w.heap.size w w8) := S7.out.step hb8
  have X8 : Hid (OwnBr w8 w.heap.size (.slice x5 l.length y5) l) := X7.out.below hb8
  have Y8 : Hid (OwnSS w8 w.heap.size (.slice x6 zss.length y6) vs6 zss) := Y7.out.below hb8
  have Q8 : Hid (Own w8 w.heap.size (.slice x4 out.length y4) out) := rowBelow Q7.out hb8
  have G8 : Hid (Own w8 w.heap.size (.slice x7 out.length y7) out) := rowBelow G7.out hb8
  clear hb8
  go_wp2_with fail
  refine (toBrs_any _ _ l (HRD.out _ S8.out) LB.out).mono ?_
  rintro e w9 ⟨v9, rfl, ho9, hb9⟩
  obtain ⟨x9, y9, rfl⟩ := ho9.shape
  have S9 : Hid (Since w.heap.size w w9) := S8.out.step hb9
  have B9 : Hid (Below w8.heap.size w8 w9) := hb9
  have N9 : Hid (OwnBr w9 w8.heap.size (.slice x9 l.length y9) l) := ho9
  have O9 : Hid (OwnBr w9 w.heap.size (.slice x9 l.length y9) l) := ho9.mono S8.out.2
  clear ho9 hb9
  have X9 : Hid (OwnBr w9 w.heap.size (.slice x5 l.length y5) l) := X8.out.below B9.out
  have Y9 : Hid (OwnSS w9 w.heap.size (.slice x6 zss.length y6) vs6 zss) := Y8.out.below B9.out
  have Q9 : Hid (Own w9 w.heap.size (.slice x4 out.length y4) out) := rowBelow Q8.out B9.out
  have G9 : Hid (Own w9 w.heap.size (.slice x7 out.length y7) out) := rowBelow G8.out B9.out
  go_wp2_with fail
  refine (eqBrs_same _ _ _ l X9.out.reads O9.out.reads LB.out).mono ?_
  rintro e w10 ⟨rfl, hb10⟩
  have S10 : Hid (Since w.heap.size w w10) := S9.out.step hb10
  have X10 : Hid (OwnBr w10 w.heap.size (.slice x5 l.length y5) l) := X9.out.below hb10
  have Y10 : Hid (OwnSS w10 w.heap.size (.slice x6 zss.length y6) vs6 zss) := Y9.out.below hb10
  have Q10 : Hid (Own w10 w.heap.size (.slice x4 out.length y4) out) := rowBelow Q9.out hb10
  have G10 : Hid (Own w10 w.heap.size (.slice x7 out.length y7) out) := rowBelow G9.out hb10
  clear hb10
  go_wp2_with fail
  refine (toSS_any _ _ zss (HRS.out _ S10.out) LZ.out LJ.out).mono ?_
  rintro e w11 ⟨v11, rfl, ⟨vs11, ho11⟩, hb11⟩
  obtain ⟨x11, y11, rfl⟩ := ho11.shape
  have S11 : Hid (Since w.heap.size w w11) := S10.out.step hb11
  have B11 : Hid (Below w10.heap.size w10 w11) := hb11
  have N11 : Hid (OwnSS w11 w10.heap.size (.slice x11 zss.length y11) vs11 zss) := ho11
  have O11 : Hid (OwnSS w11 w.heap.size (.slice x11 zss.length y11) vs11 zss) := ho11.mono S10.out.2
  clear ho11 hb11
  have X11 : Hid (OwnBr w11 w.heap.size (.slice x5 l.length y5) l) := X10.out.below B11.out
  have Y11 : Hid (OwnSS w11 w.heap.size (.slice x6 zss.length y6) vs6 zss) := Y10.out.below B11.out
  have Q11 : Hid (Own w11 w.heap.size (.slice x4 out.length y4) out) := rowBelow Q10.out B11.out
  have G11 : Hid (Own w11 w.heap.size (.slice x7 out.length y7) out) := rowBelow G10.out B11.out
  go_wp2_with fail
  refine (eqSS_same _ _ _ zss Y11.out.reads O11.out.reads LZ.out LJ.out).mono ?_
  rintro e w12 ⟨rfl, hb12⟩
  have S12 : Hid (Since w.heap.size w w12) := S11.out.step hb12
  have X12 : Hid (OwnBr w12 w.heap.size (.slice x5 l.length y5) l) := X11.out.below hb12
  have Y12 : Hid (OwnSS w12 w.heap.size (.slice x6 zss.length y6) vs6 zss) := Y11.out.below hb12
  have Q12 : Hid (Own w12 w.heap.size (.slice x4 out.length y4) out) := rowBelow Q11.out hb12
  have G12 : Hid (Own w12 w.heap.size (.slice x7 out.length y7) out) := rowBelow G11.out hb12
  clear hb12
  go_wp2_with fail
  refine (MX.out _ _ _ X12.out).mono ?_
  rintro e w13 ⟨rfl, hg13⟩
  have S13 : Hid (Since w.heap.size w w13) := S12.out.grown hg13 (fun k hk => (World.ownsRow.lt X12.out k hk).1)
  have Q13 : Hid (Own w13 w.heap.size (.slice x4 out.length y4) out) := rowGrow Q12.out hg13 (apartSym APSX.out)
  have G13 : Hid (Own w13 w.heap.size (.slice x7 out.length y7) out) := rowGrow G12.out hg13 APXG.out
  have Y13 : Hid (OwnSS w13 w.heap.size (.slice x6 zss.length y6) vs6 zss) := ⟨Y12.out.len, rowGrow Y12.out.row hg13 (fun k hk => (APXY.out k hk).2), fun j hj => rowGrow (Y12.out.inner j hj) hg13 (fun k hk hv => (APXY.out k hk).1 ⟨j, hj, hv⟩), Y12.out.apart⟩
  clear hg13
  go_wp2_with fail
  refine (MY.out _ _ _ _ Y13.out).mono ?_
  rintro e w14 ⟨rfl, ht14⟩
  have S14 : Hid (Since w.heap.size w w14) := S13.out.turned ht14 (fun k hk => (Y13.out.inLt k hk).1)
  have Q14 : Hid (Own w14 w.heap.size (.slice x4 out.length y4) out) := rowTurned Q13.out ht14 APSY.out
  have G14 : Hid (Own w14 w.heap.size (.slice x7 out.length y7) out) := rowTurned G13.out ht14 APGY.out
  clear ht14
  go_wp2_with fail
  refine (eqIs_same _ _ _ out G14.out.reads Q14.out.reads OL.out).mono ?_
  rintro e w15 ⟨rfl, hb15⟩
  have S15 : Hid (Since w.heap.size w w15) := S14.out.step hb15
  have Q15 : Hid (Own w15 w.heap.size (.slice x4 out.length y4) out) := rowBelow Q14.out hb15
  have G15 : Hid (Own w15 w.heap.size (.slice x7 out.length y7) out) := rowBelow G14.out hb15
  clear hb15
  go_wp2_with fail
  refine (MG.out _ _ _ G15.out).mono ?_
  rintro e w16 ⟨rfl, hg16, -, hgr16⟩
  have S16 : Hid (Since w.heap.size w w16) := S15.out.grown hgr16 (fun k hk => (World.ownsRow.lt G15.out k hk).1)
  have Q16 : Hid (Own w16 w.heap.size (.slice x4 out.length y4) out) := rowGrow Q15.out hgr16 (apartSym APSG.out)
  have M16 : Hid (Own w16 w.heap.size (.slice x7 out.length y7) (marks ((1 : Nat) : Int) out.length)) := hg16
  clear hg16 hgr16
  go_wp2_with fail
  refine (HG.out _ _ _ M16.out).mono ?_
  rintro e w17 ⟨rfl, hw17⟩
  obtain rfl : w16 = w17 := hw17.symm
  go_wp2_with fail
  refine (toBrs_any _ _ l (HRD.out _ S16.out) LB.out).mono ?_
  rintro e w18 ⟨v18, rfl, ho18, hb18⟩
  obtain ⟨x18, y18, rfl⟩ := ho18.shape
  have S18 : Hid (Since w.heap.size w w18) := S16.out.step hb18
  have B18 : Hid (Below w16.heap.size w16 w18) := hb18
  have N18 : Hid (OwnBr w18 w16.heap.size (.slice x18 l.length y18) l) := ho18
  have O18 : Hid (OwnBr w18 w.heap.size (.slice x18 l.length y18) l) := ho18.mono S16.out.2
  clear ho18 hb18
  have Q18 : Hid (Own w18 w.heap.size (.slice x4 out.length y4) out) := rowBelow Q16.out B18.out
  have M18 : Hid (Own w18 w.heap.size (.slice x7 out.length y7) (marks ((1 : Nat) : Int) out.length)) := Own.below M16.out B18.out
  go_wp2_with fail
  refine (toSS_any _ _ zss (HRS.out _ S18.out) LZ.out LJ.out).mono ?_
  rintro e w19 ⟨v19, rfl, ⟨vs19, ho19⟩, hb19⟩
  obtain ⟨x19, y19, rfl⟩ := ho19.shape
  have S19 : Hid (Since w.heap.size w w19) := S18.out.step hb19
  have B19 : Hid (Below w18.heap.size w18 w19) := hb19
  have N19 : Hid (OwnSS w19 w18.heap.size (.slice x19 zss.length y19) vs19 zss) := ho19
  have O19 : Hid (OwnSS w19 w.heap.size (.slice x19 zss.length y19) vs19 zss) := ho19.mono S18.out.2
  clear ho19 hb19
  have Q19 : Hid (Own w19 w.heap.size (.slice x4 out.length y4) out) := rowBelow Q18.out B19.out
  have M19 : Hid (Own w19 w.heap.size (.slice x7 out.length y7) (marks ((1 : Nat) : Int) out.length)) := Own.below M18.out B19.out
  have P19 : Hid (OwnBr w19 w.heap.size (.slice x18 l.length y18) l) := O18.out.below B19.out
  go_wp2_with fail
  refine (CI.out _ _ _ _ _ _ P19.out O19.out).mono ?_
  rintro e w20 ⟨v20, rfl, ho20, hb20⟩
  obtain ⟨x20, y20, rfl⟩ := rowShape ho20
  have S20 : Hid (Since w.heap.size w w20) := S19.out.step hb20
  have Q20 : Hid (Own w20 w.heap.size (.slice x4 out.length y4) out) := rowBelow Q19.out hb20
  have M20 : Hid (Own w20 w.heap.size (.slice x7 out.length y7) (marks ((1 : Nat) : Int) out.length)) := Own.below M19.out hb20
  have H20 : Hid (Own w20 w19.heap.size (.slice x20 out.length y20) out) := ho20
  clear ho20 hb20
  go_wp2_with fail
  refine (eqIs_same _ _ _ out H20.out.reads Q20.out.reads OL.out).mono ?_
  rintro e w21 ⟨rfl, hb21⟩
  have S21 : Hid (Since w.heap.size w w21) := S20.out.step hb21
  have M21 : Hid (Own w21 w.heap.size (.slice x7 out.length y7) (marks ((1 : Nat) : Int) out.length)) := Own.below M20.out hb21
  clear hb21
  go_wp2_with fail
  refine (HG.out _ _ _ M21.out).mono ?_
  rintro e w22 ⟨rfl, hw22⟩
  obtain rfl : w21 = w22 := hw22.symm
  go_wp2
  go_ret
  exact ⟨rfl, S21.out.1⟩

set_option maxRecDepth 100000 in
theorem contract (H : Type) (enc : TypeId × Value → H) (W : World) (base : Nat) (args : Array Value) (ds gs : List (DataW H)) (before : List MemPlace)
    (hval : ∀ (j : Nat) t v, Try.f7.params[j]? = some t → args[j]? = some v → Value.okWide Try.prog W .any base t v)
    (hW : DataW.Whole enc Try.prog Try.f7.params.toList Rows.fnExactLeadersBySpec.vars false W args.toList ds gs before) :
    Calls Try.prog 7 args W fun e W' => ∃ v, e = .returned v ∧ Rows.fnExactLeadersBySpec.post enc Try.prog Try.f7 false true false false W args v W' := by
  have hW' := hW
  obtain ⟨p, q, hA0, hV0, rfl, hfz, hnd⟩ := hW
  have hA : DataW.TrodAll enc Try.prog W 0 (fun _ => true) true Try.f7.params.toList args.toList ds p := hA0
  rw [Try.params7] at hA hval
  obtain ⟨v0, vs0, d0, ds0, p0, q0, hargs, rfl, rfl, h0, r0⟩ := trodAll_cons hA
  obtain ⟨v1, vs1, d1, ds1, p1, q1, rfl, rfl, rfl, h1, r1⟩ := trodAll_cons r0
  obtain ⟨rfl, rfl, rfl⟩ := trodAll_nil r1
  obtain rfl : args = #[v0, v1] := by cases args; simp_all
  obtain ⟨rfl, rfl⟩ := trodVars_none hV0
  obtain ⟨a0, len0, cap0, rfl⟩ := okWide_slice Try.underlying25 (hval 0 25 v0 rfl rfl)
  have k0 := h0
  have lt0 : ∀ x ∈ p0, x.block < W.heap.size := by obtain ⟨m, hm⟩ := k0; exact DataW.trod_lt m _ _ _ hm
  obtain ⟨ps0, hr0, hz0⟩ := Brs_of k0
  obtain ⟨a1, len1, cap1, rfl⟩ := okWide_slice Try.underlying40 (hval 1 40 v1 rfl rfl)
  have k1 := h1
  have lt1 : ∀ x ∈ p1, x.block < W.heap.size := by obtain ⟨m, hm⟩ := k1; exact DataW.trod_lt m _ _ _ hm
  obtain ⟨ps1, hr1, hz1, hy1⟩ := SS_of k1
  clear hA0 hV0
  refine (walk _ ps0 _ ps1 W hr0 hz0 hr1 hz1 hy1).mono fun e W' ⟨he, bel⟩ => ?_
  subst he
  exact ⟨_, rfl, _, _, _, [], _, [], hW', trodAll_mk1 (shut_bool Try.underlying4 _), (trodAll_cons_mk (Below.trod laidOut (by kernel_rfl) (of_decide_eq_true (by kernel_rfl)) k0 bel lt0) (trodAll_cons_mk (Below.trod laidOut (by kernel_rfl) (of_decide_eq_true (by kernel_rfl)) k1 bel lt1) trodAll_mk0)), rfl, bel.frame _, fun h => by cases h⟩

set_option maxRecDepth 100000 in
theorem lifted (os : Os) (started : os.Started) (H : Type) (enc : TypeId × Value → H) :
    ReturnsInHanded {} Try.checked os 7 .any (Rows.fnExactLeadersBySpec.pre6 enc Try.prog Try.f7 Rows.fnExactLeadersByRow.domain false) (Rows.fnExactLeadersBySpec.post enc Try.prog Try.f7 false true false false) := by
  refine returnsInHanded_of_change (C := Try.checked) own started (by kernel_rfl) Try.func7
    (ChangeSpec.witness6 (enc := enc) (C := Try.checked) false ⟨#[], #[.slice none 0 0, .slice none 0 0], []⟩ 8 (by kernel_rfl) (by kernel_rfl) (by kernel_rfl) (by kernel_rfl)) ?_
  intro W base args ds gs before hval hW _ _
  exact contract H enc W base args ds gs before hval hW

/-- The statement. -/
theorem said : Rows.FnExactLeadersBySaid :=
  OpenClaim.holds_of_wide 7 Try.f7 rfl rfl rfl rfl rfl rfl rfl ⟨rfl, rfl, rfl, rfl, rfl⟩ rfl rfl rfl rfl rfl (by kernel_rfl) Try.func7 (by kernel_rfl)
    (of_decide_eq_true (by kernel_rfl)) (by unfold Func.isWrapper; first | (rw [if_pos (by decide +kernel)]; kernel_rfl) | (rw [if_neg (by decide +kernel)]; exact ⟨rfl, rfl⟩))
    (fun os started H enc _ => lifted os started H enc)
#print axioms said
end Go.Proofs.Ytiimiiblhafajau.fnExactLeadersBy
