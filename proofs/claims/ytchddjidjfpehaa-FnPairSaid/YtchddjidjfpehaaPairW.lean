/-
  The walk of the law FnPair.
-/
import Derived.Test.YtchddjidjfpehaaJt
import Derived.Test.YtchddjidjfpehaaSameP
import Derived.Test.YtchddjidjfpehaaPlayS
import Derived.Test.YtchddjidjfpehaaPlayLaw
import Derived.Test.YtchddjidjfpehaaPairVar
import Derived.Test.YtchddjidjfpehaaNum0
import Derived.Deep.CutRange
import Derived.Deep.Cut
namespace Go.Proofs.Ytchddjidjfpehaa
open Go.RowKit
set_option linter.unusedVariables false

namespace fnPair
set_option maxRecDepth 100000 in
set_option maxHeartbeats 16000000 in
theorem walk (a0 : Option Addr) (len0 cap0 : Nat) (a1 : Option Addr) (len1 cap1 : Nat) (w : World) (hc0 : Code w.heap.size w a0 len0) (hl0 : len0 ≤ 9223372036854775807) (hc1 : Code w.heap.size w a1 len1) (hl1 : len1 ≤ 9223372036854775807) :
    Calls Try.prog 4 #[.slice a0 len0 cap0, .slice a1 len1 cap1] w fun e w' => e = .returned (.bool true) ∧ Below w.heap.size w w' := by
  have HC0 : Hid (Code w.heap.size w a0 len0) := hc0
  have HC1 : Hid (Code w.heap.size w a1 len1) := hc1
  have S0 : Hid (Since w.heap.size w w) := Since.start w
  clear hc0 hc1
  obtain ⟨X, hX⟩ : ∃ X : Int, IntKind.i64.wrap ((len0 : Int) + (len1 : Int)) = X := ⟨_, rfl⟩
  by_cases hbig : 1048576 < X
  · have hbig' : decide ((1048576 : Int) < X) = true := decide_eq_true hbig
    go_enter Try.func4, Try.ntmps4
    go_wp2
    go_ret
    exact ⟨rfl, Below.refl _ _⟩
  have hbig' : decide ((1048576 : Int) < X) = false := decide_eq_false hbig
  go_enter Try.func4, Try.ntmps4
  go_wp2_with fail
  refine (drawPlay_any w.heap.size w _ a0 len0 cap0 HC0.out (by omega) S0.out).mono ?_
  rintro e z1 ⟨vz, l, rfl, hoz, hl61, hsz⟩
  obtain ⟨ss, hss⟩ : ∃ ss, ss = stL l := ⟨_, rfl⟩
  have hsl : ss.length ≤ 1048576 := by rw [hss, stL_len]; omega
  have R1 : Hid (ReadsS z1 vz ss) := by rw [hss]; exact hoz.reads.readsS
  have S1 : Hid (Since w.heap.size w z1) := hsz
  obtain ⟨out, hout⟩ : ∃ out, out = playOut ss := ⟨_, rfl⟩
  obtain ⟨did, hdid⟩ : ∃ did, did = playDid ss := ⟨_, rfl⟩
  obtain ⟨ok, hok⟩ : ∃ ok, ok = playOk ss := ⟨_, rfl⟩
  have HGO : Hid (ok = true → goodPr out = true) := fun h => by rw [hout]; exact play_ok_good ss (hok ▸ h)
  obtain ⟨n1, n2, n3, n4⟩ := playOut_len ss
  rw [← hout] at n1 n2 n3
  rw [← hdid] at n4
  have L1 : Hid (out.st.length ≤ 1048576) := by show _ ≤ _; omega
  have L2 : Hid (out.lf.length ≤ 1048576) := by show _ ≤ _; omega
  have L3 : Hid (out.ln.length ≤ 1048576) := by show _ ≤ _; omega
  have L4 : Hid (did.length ≤ 4194304) := by show _ ≤ _; omega
  have CI : Hid (∀ W, ReadsS W vz ss → Calls Try.prog 17 #[vz] W fun e W' => ∃ x y z b, e = .returned (.tuple #[.agg #[x, y, z], b, .bool ok]) ∧ Own3 W' W.heap.size x y z out ∧ OwnB W' W.heap.size b did ∧ Below W.heap.size W W') := fun W h => by rw [hout, hdid, hok]; exact implPlay_any W vz ss h hsl
  have CS : Hid (∀ W, ReadsS W vz ss → Calls Try.prog 18 #[vz] W fun e W' => ∃ x y z b, e = .returned (.tuple #[.agg #[x, y, z], b, .bool ok]) ∧ Own3 W' W.heap.size x y z out ∧ OwnB W' W.heap.size b did ∧ Below W.heap.size W W') := fun W h => by rw [hout, hdid, hok]; exact specPlay_any W vz ss h hsl
  obtain ⟨av, cv, rfl⟩ := hoz.shape
  clear hoz hsz hss hout hdid hok n1 n2 n3 n4 S0
  go_wp2_with fail
  refine (CI.out _ R1.out).mono ?_
  rintro e z2 ⟨x, y, z, b, rfl, ho2, hob2, hb2⟩
  obtain ⟨e1, e4, rfl⟩ := hob2.shape
  obtain ⟨x1, x4, rfl⟩ := ho2.st.shape
  obtain ⟨x2, x5, rfl⟩ := ho2.lf.shape
  obtain ⟨x3, x6, rfl⟩ := ho2.ln.shape
  have S2 : Hid (Since w.heap.size w (z2.alloc (.cells #[.slice x1 out.st.length x4, .slice x2 out.lf.length x5, .slice x3 out.ln.length x6] 40))) := (S1.out.step hb2).step ((Below.refl _ _).alloc (Nat.le_refl _) _)
  have R2 : Hid (ReadsS (z2.alloc (.cells #[.slice x1 out.st.length x4, .slice x2 out.lf.length x5, .slice x3 out.ln.length x6] 40)) (.slice av l.length cv) ss) := (R1.out.below hb2).below ((Below.refl _ _).alloc (Nat.le_refl _) _)
  have HX2 : Hid (Bx3 (z2.alloc (.cells #[.slice x1 out.st.length x4, .slice x2 out.lf.length x5, .slice x3 out.ln.length x6] 40)) z2.heap.size (.slice x1 out.st.length x4) (.slice x2 out.lf.length x5) (.slice x3 out.ln.length x6)) := Bx3.new _ _ _ _ _
  have OX2 : Hid (Own3 (z2.alloc (.cells #[.slice x1 out.st.length x4, .slice x2 out.lf.length x5, .slice x3 out.ln.length x6] 40)) 0 (.slice x1 out.st.length x4) (.slice x2 out.lf.length x5) (.slice x3 out.ln.length x6) out) := (ho2.mono (Nat.zero_le _)).al _
  have OB2 : Hid (OwnB (z2.alloc (.cells #[.slice x1 out.st.length x4, .slice x2 out.lf.length x5, .slice x3 out.ln.length x6] 40)) 0 (.slice e1 did.length e4) did) := (hob2.mono (Nat.zero_le _)).below ((Below.refl _ _).alloc (Nat.le_refl _) _)
  clear ho2 hob2 hb2 S1 R1 CI
  go_wp2_with fail
  refine (CS.out _ R2.out).mono ?_
  rintro e z3 ⟨x, y, z, b, rfl, ho3, hob3, hb3⟩
  obtain ⟨f1, f4, rfl⟩ := hob3.shape
  obtain ⟨y1, y4, rfl⟩ := ho3.st.shape
  obtain ⟨y2, y5, rfl⟩ := ho3.lf.shape
  obtain ⟨y3, y6, rfl⟩ := ho3.ln.shape
  have S3 : Hid (Since w.heap.size w (z3.alloc (.cells #[.slice y1 out.st.length y4, .slice y2 out.lf.length y5, .slice y3 out.ln.length y6] 40))) := (S2.out.step hb3).step ((Below.refl _ _).alloc (Nat.le_refl _) _)
  have HX3 : Hid (Bx3 (z3.alloc (.cells #[.slice y1 out.st.length y4, .slice y2 out.lf.length y5, .slice y3 out.ln.length y6] 40)) z2.heap.size (.slice x1 out.st.length x4) (.slice x2 out.lf.length x5) (.slice x3 out.ln.length x6)) := (HX2.out.below hb3).below ((Below.refl _ _).alloc (Nat.le_refl _) _)
  have OX3 : Hid (Own3 (z3.alloc (.cells #[.slice y1 out.st.length y4, .slice y2 out.lf.length y5, .slice y3 out.ln.length y6] 40)) 0 (.slice x1 out.st.length x4) (.slice x2 out.lf.length x5) (.slice x3 out.ln.length x6) out) := (OX2.out.below hb3).al _
  have HY3 : Hid (Bx3 (z3.alloc (.cells #[.slice y1 out.st.length y4, .slice y2 out.lf.length y5, .slice y3 out.ln.length y6] 40)) z3.heap.size (.slice y1 out.st.length y4) (.slice y2 out.lf.length y5) (.slice y3 out.ln.length y6)) := Bx3.new _ _ _ _ _
  have OY3 : Hid (Own3 (z3.alloc (.cells #[.slice y1 out.st.length y4, .slice y2 out.lf.length y5, .slice y3 out.ln.length y6] 40)) 0 (.slice y1 out.st.length y4) (.slice y2 out.lf.length y5) (.slice y3 out.ln.length y6) out) := (ho3.mono (Nat.zero_le _)).al _
  have OB3 : Hid (ReadsBo (z3.alloc (.cells #[.slice y1 out.st.length y4, .slice y2 out.lf.length y5, .slice y3 out.ln.length y6] 40)) (.slice e1 did.length e4) did) := ((OB2.out.below hb3).below ((Below.refl _ _).alloc (Nat.le_refl _) _)).reads
  have OD3 : Hid (ReadsBo (z3.alloc (.cells #[.slice y1 out.st.length y4, .slice y2 out.lf.length y5, .slice y3 out.ln.length y6] 40)) (.slice f1 did.length f4) did) := (hob3.below ((Below.refl _ _).alloc (Nat.le_refl _) _)).reads
  have lt2 : z2.heap.size < z3.heap.size := Nat.lt_of_lt_of_le (by simp) hb3.size
  clear ho3 hob3 hb3 S2 R2 CS HX2 OX2 OB2
  go_wp2_with fail
  refine (sameBools_same _ _ _ did OB3.out OD3.out L4.out).mono ?_
  rintro e z4 ⟨rfl, hb4⟩
  have S4 : Hid (Since w.heap.size w z4) := S3.out.step hb4
  have HX4 : Hid (Bx3 z4 z2.heap.size (.slice x1 out.st.length x4) (.slice x2 out.lf.length x5) (.slice x3 out.ln.length x6)) := HX3.out.below hb4
  have OX4 : Hid (Own3 z4 0 (.slice x1 out.st.length x4) (.slice x2 out.lf.length x5) (.slice x3 out.ln.length x6) out) := OX3.out.below hb4
  have HY4 : Hid (Bx3 z4 z3.heap.size (.slice y1 out.st.length y4) (.slice y2 out.lf.length y5) (.slice y3 out.ln.length y6)) := HY3.out.below hb4
  have OY4 : Hid (Own3 z4 0 (.slice y1 out.st.length y4) (.slice y2 out.lf.length y5) (.slice y3 out.ln.length y6) out) := OY3.out.below hb4
  clear hb4 S3 HX3 OX3 HY3 OY3
  clear OB3 OD3
  have cx0 := HX4.out.c0
  have cx1 := HX4.out.c1
  have cx2 := HX4.out.c2
  have cy0 := HY4.out.c0
  have cy1 := HY4.out.c1
  have cy2 := HY4.out.c2
  go_wp2_with fail
  refine (samePair_same _ _ _ _ _ _ _ out OX4.out.reads OY4.out.reads L1.out L2.out L3.out).mono ?_
  rintro e z5 ⟨rfl, hb5⟩
  have S5 : Hid (Since w.heap.size w z5) := S4.out.step hb5
  have HX5 : Hid (Bx3 z5 z2.heap.size (.slice x1 out.st.length x4) (.slice x2 out.lf.length x5) (.slice x3 out.ln.length x6)) := HX4.out.below hb5
  have OX5 : Hid (Own3 z5 0 (.slice x1 out.st.length x4) (.slice x2 out.lf.length x5) (.slice x3 out.ln.length x6) out) := OX4.out.below hb5
  have HY5 : Hid (Bx3 z5 z3.heap.size (.slice y1 out.st.length y4) (.slice y2 out.lf.length y5) (.slice y3 out.ln.length y6)) := HY4.out.below hb5
  have OY5 : Hid (Own3 z5 0 (.slice y1 out.st.length y4) (.slice y2 out.lf.length y5) (.slice y3 out.ln.length y6) out) := OY4.out.below hb5
  clear hb5 S4 HX4 OX4 HY4 OY4
  clear cx0 cx1 cx2 cy0 cy1 cy2
  clear HY5 OY5
  cases ok with
  | false =>
    clear HX5 OX5
    go_wp2_with fail
    refine (drawNext_any w.heap.size w _ a1 len1 cap1 HC1.out (by omega) S5.out).mono ?_
    rintro e q1 ⟨st, he, rfl, hsq⟩
    have SQ1 : Hid (Since w.heap.size w q1) := hsq
    clear hsq S5
    go_wp2_with fail
    refine (implNext_any _ _ _).mono ?_
    rintro e q2 ⟨rfl, rfl⟩
    go_wp2_with fail
    refine (specNext_any _ _ _).mono ?_
    rintro e q3 ⟨rfl, rfl⟩
    go_wp2
    go_ret
    exact ⟨rfl, SQ1.out.1⟩
  | true =>
    have HG : Hid (goodPr out = true) := HGO.out rfl
    clear HGO
    have cx0 := HX5.out.c0
    have cx1 := HX5.out.c1
    have cx2 := HX5.out.c2
    go_wp2_with fail
    refine (settleStep _ _ _ _ out HG.out OX5.out L1.out L2.out L3.out).mono ?_
    rintro e z6 ⟨p1, p2, p3, rfl, ho6, hb6⟩
    obtain ⟨t1, t4, rfl⟩ : ∃ a c, _ = Value.slice a 2 c := by have := ho6.st.shape; rw [(tkk_len 0).1] at this; exact this
    obtain ⟨t2, t5, rfl⟩ : ∃ a c, _ = Value.slice a 2 c := by have := ho6.lf.shape; rw [(tkk_len 0).2.1] at this; exact this
    obtain ⟨t3, t6, rfl⟩ : ∃ a c, _ = Value.slice a 0 c := by have := ho6.ln.shape; rw [(tkk_len 0).2.2] at this; exact this
    have S6 : Hid (Since w.heap.size w z6) := S5.out.step hb6
    have HX6 : Hid (Bx3 z6 z2.heap.size (.slice x1 out.st.length x4) (.slice x2 out.lf.length x5) (.slice x3 out.ln.length x6)) := HX5.out.below hb6
    have OX6 : Hid (Own3 z6 0 (.slice x1 out.st.length x4) (.slice x2 out.lf.length x5) (.slice x3 out.ln.length x6) out) := OX5.out.below hb6
    have OT6 : Hid (Own3 (z6.alloc (.cells #[.slice t1 2 t4, .slice t2 2 t5, .slice t3 0 t6] 40)) 0 (.slice t1 2 t4) (.slice t2 2 t5) (.slice t3 0 t6) (tkk 0)) := (ho6.mono (Nat.zero_le _)).al _
    have HT6 : Hid (Bx3 (z6.alloc (.cells #[.slice t1 2 t4, .slice t2 2 t5, .slice t3 0 t6] 40)) z6.heap.size (.slice t1 2 t4) (.slice t2 2 t5) (.slice t3 0 t6)) := Bx3.new _ _ _ _ _
    have S6b : Hid (Since w.heap.size w (z6.alloc (.cells #[.slice t1 2 t4, .slice t2 2 t5, .slice t3 0 t6] 40))) := S6.out.step ((Below.refl _ _).alloc (Nat.le_refl _) _)
    have HX6b : Hid (Bx3 (z6.alloc (.cells #[.slice t1 2 t4, .slice t2 2 t5, .slice t3 0 t6] 40)) z2.heap.size (.slice x1 out.st.length x4) (.slice x2 out.lf.length x5) (.slice x3 out.ln.length x6)) := HX6.out.below ((Below.refl _ _).alloc (Nat.le_refl _) _)
    have OX6b : Hid (Own3 (z6.alloc (.cells #[.slice t1 2 t4, .slice t2 2 t5, .slice t3 0 t6] 40)) 0 (.slice x1 out.st.length x4) (.slice x2 out.lf.length x5) (.slice x3 out.ln.length x6) out) := OX6.out.al _
    clear ho6 hb6 S5 HX5 OX5 S6 HX6 OX6
    clear cx0 cx1 cx2
    go_wp2_with fail
    refine (bothStep _ _ _ _ OT6.out.reads).mono ?_
    rintro e z7 ⟨rfl, hb7⟩
    have S7 : Hid (Since w.heap.size w z7) := S6b.out.step hb7
    have HX7 : Hid (Bx3 z7 z2.heap.size (.slice x1 out.st.length x4) (.slice x2 out.lf.length x5) (.slice x3 out.ln.length x6)) := HX6b.out.below hb7
    have OX7 : Hid (Own3 z7 0 (.slice x1 out.st.length x4) (.slice x2 out.lf.length x5) (.slice x3 out.ln.length x6) out) := OX6b.out.below hb7
    have HT7 : Hid (Bx3 z7 z6.heap.size (.slice t1 2 t4) (.slice t2 2 t5) (.slice t3 0 t6)) := HT6.out.below hb7
    have OT7 : Hid (Own3 z7 0 (.slice t1 2 t4) (.slice t2 2 t5) (.slice t3 0 t6) (tkk 0)) := OT6.out.below hb7
    clear hb7 S6b HX6b OX6b HT6 OT6
    have cx0 := HX7.out.c0
    have cx1 := HX7.out.c1
    have cx2 := HX7.out.c2
    have cu0 := HT7.out.c0
    have cu1 := HT7.out.c1
    have cu2 := HT7.out.c2
    go_wp2_with fail
    refine (implGoodPair_any _ _ _ _ out OX7.out.reads L1.out L2.out L3.out).mono ?_
    rw [HG.out]
    rintro e z8 ⟨rfl, hb8⟩
    have S8 : Hid (Since w.heap.size w z8) := S7.out.step hb8
    have HT8 : Hid (Bx3 z8 z6.heap.size (.slice t1 2 t4) (.slice t2 2 t5) (.slice t3 0 t6)) := HT7.out.below hb8
    have OT8 : Hid (Own3 z8 0 (.slice t1 2 t4) (.slice t2 2 t5) (.slice t3 0 t6) (tkk 0)) := OT7.out.below hb8
    clear hb8 S7 HX7 OX7 HT7 OT7
    clear cx0 cx1 cx2 cu0 cu1 cu2
    have cu0 := HT8.out.c0
    have cu1 := HT8.out.c1
    have cu2 := HT8.out.c2
    obtain ⟨n8, hn8⟩ : ∃ n, n = z8.heap.size := ⟨_, rfl⟩
    have HB8 : Hid (Bx3 (z8.alloc (.cells #[.slice t1 2 t4, .slice t2 2 t5, .slice t3 0 t6] 40)) n8 (.slice t1 2 t4) (.slice t2 2 t5) (.slice t3 0 t6)) := by rw [hn8]; exact Bx3.new _ _ _ _ _
    have OB8 : Hid (Own3 (z8.alloc (.cells #[.slice t1 2 t4, .slice t2 2 t5, .slice t3 0 t6] 40)) 0 (.slice t1 2 t4) (.slice t2 2 t5) (.slice t3 0 t6) (tkk 0)) := OT8.out.al _
    have SB8 : Hid (Since w.heap.size w (z8.alloc (.cells #[.slice t1 2 t4, .slice t2 2 t5, .slice t3 0 t6] 40))) := S8.out.step ((Below.refl _ _).alloc (Nat.le_refl _) _)
    have hw8 : w.heap.size ≤ n8 := by rw [hn8]; exact S8.out.2
    clear S8 HT8 OT8
    go_wp2
    rw [← hn8]
    clear cu0 cu1 cu2
    clear hn8
    go_loopw [17] (fun i wr => ∃ (k : Nat) (x y z : Value), k ≤ 3 ∧ i = .int .i64 k ∧ Hid (Bx3 wr n8 x y z ∧ Own3 wr 0 x y z (tkk k) ∧ Since w.heap.size w wr)) (fun i _ => 3 - (intOf i).toNat)
    case atStart => exact ⟨0, _, _, _, Nat.zero_le _, rfl, HB8.out, OB8.out, SB8.out⟩
    case round =>
      clear HB8 OB8 SB8
      obtain ⟨k, p1, p2, p3, hk, rfl, HK⟩ := hrel
      obtain ⟨r1, r4, rfl⟩ : ∃ a c, _ = Value.slice a 2 c := by have := HK.out.2.1.st.shape; rw [(tkk_len k).1] at this; exact this
      obtain ⟨r2, r5, rfl⟩ : ∃ a c, _ = Value.slice a 2 c := by have := HK.out.2.1.lf.shape; rw [(tkk_len k).2.1] at this; exact this
      obtain ⟨r3, r6, rfl⟩ : ∃ a c, _ = Value.slice a 0 c := by have := HK.out.2.1.ln.shape; rw [(tkk_len k).2.2] at this; exact this
      have HB9 : Hid (Bx3 wr n8 (.slice r1 2 r4) (.slice r2 2 r5) (.slice r3 0 r6)) := HK.out.1
      have cu0 := HB9.out.c0
      have cu1 := HB9.out.c1
      have cu2 := HB9.out.c2
      by_cases hlt : k < 3
      · have hlt' : (k : Int) < 3 := by omega
        have lt8 : n8 < wr.heap.size := HB9.out.lt
        have O9 : Hid (Own3 wr 0 (.slice r1 2 r4) (.slice r2 2 r5) (.slice r3 0 r6) (tkk k)) := HK.out.2.1
        have S9 : Hid (Since w.heap.size w wr) := HK.out.2.2
        clear HK
        go_wp2_with fail
        refine (tickStep _ _ _ _ k hlt O9.out).mono ?_
        rintro e w9 ⟨p1, p2, p3, rfl, ho9, hb9⟩
        obtain ⟨v1, v4, rfl⟩ : ∃ a c, _ = Value.slice a 2 c := by have := ho9.st.shape; rw [(tkk_len (k + 1)).1] at this; exact this
        obtain ⟨v2, v5, rfl⟩ : ∃ a c, _ = Value.slice a 2 c := by have := ho9.lf.shape; rw [(tkk_len (k + 1)).2.1] at this; exact this
        obtain ⟨v3, v6, rfl⟩ : ∃ a c, _ = Value.slice a 0 c := by have := ho9.ln.shape; rw [(tkk_len (k + 1)).2.2] at this; exact this
        have HB10 : Hid (Bx3 w9 n8 (.slice r1 2 r4) (.slice r2 2 r5) (.slice r3 0 r6)) := HB9.out.below hb9
        have HN10 : Hid (Bx3 ((((w9.setCell ⟨n8, 0, none⟩ (.slice v1 2 v4)).setCell ⟨n8, 1, none⟩ (.slice v2 2 v5)).setCell ⟨n8, 2, none⟩ (.slice v3 0 v6)).alloc (.cells #[.slice v1 2 v4, .slice v2 2 v5, .slice v3 0 v6] 40)) n8 (.slice v1 2 v4) (.slice v2 2 v5) (.slice v3 0 v6)) := (((HB10.out.put0 _).put1 _).put2 _).below ((Below.refl _ _).alloc (Nat.le_refl _) _)
        have ON10 : Hid (Own3 ((((w9.setCell ⟨n8, 0, none⟩ (.slice v1 2 v4)).setCell ⟨n8, 1, none⟩ (.slice v2 2 v5)).setCell ⟨n8, 2, none⟩ (.slice v3 0 v6)).alloc (.cells #[.slice v1 2 v4, .slice v2 2 v5, .slice v3 0 v6] 40)) 0 (.slice v1 2 v4) (.slice v2 2 v5) (.slice v3 0 v6) (tkk (k + 1))) := ((((ho9.setCell (by exact lt8) _).setCell (by exact lt8) _).setCell (by exact lt8) _).al _).mono (Nat.zero_le _)
        have SN10 : Hid (Since w.heap.size w ((((w9.setCell ⟨n8, 0, none⟩ (.slice v1 2 v4)).setCell ⟨n8, 1, none⟩ (.slice v2 2 v5)).setCell ⟨n8, 2, none⟩ (.slice v3 0 v6)).alloc (.cells #[.slice v1 2 v4, .slice v2 2 v5, .slice v3 0 v6] 40))) := (Since.set3 hw8 (S9.out.step hb9) _ _ _).step ((Below.refl _ _).alloc (Nat.le_refl _) _)
        have hlt9 : n8 < w9.heap.size := Nat.lt_of_lt_of_le lt8 hb9.size
        have hN : Bx3 w9 n8 (.slice r1 2 r4) (.slice r2 2 r5) (.slice r3 0 r6) := HB9.out.below hb9
        have g0 := hN.fz 0
        have g1 := hN.fz 1
        have g2 := hN.fz 2
        have m0 := hN.c0
        have m1 := hN.c1
        have m2 := hN.c2
        clear ho9 hb9 HB9 O9 S9 HB10 cu0 cu1 cu2 hN
        go_wp2
        go_roundw
        case rel => exact ⟨k + 1, _, _, _, by omega, by go_num, HN10.out, ON10.out, SN10.out⟩
        case measure => simp [intOf]; omega
      · have hlt' : ¬ (k : Int) < 3 := by omega
        obtain rfl : k = 3 := by omega
        have O9 : Hid (Own3 wr 0 (.slice r1 2 r4) (.slice r2 2 r5) (.slice r3 0 r6) (tkk 3)) := HK.out.2.1
        have S9 : Hid (Since w.heap.size w wr) := HK.out.2.2
        have RL : Hid (Reads (wr.alloc (.cells #[.int .i64 0, .int .i64 0] 3)) (.slice (some ⟨wr.heap.size, 0, none⟩) 2 2) [0, 0]) := two_lit wr
        have RX : Hid (Reads (wr.alloc (.cells #[.int .i64 0, .int .i64 0] 3)) (.slice r1 2 r4) [0, 0]) := O9.out.reads.st.below ((Below.refl _ _).alloc (Nat.le_refl _) _)
        have SX : Hid (Since w.heap.size w (wr.alloc (.cells #[.int .i64 0, .int .i64 0] 3))) := S9.out.step ((Below.refl _ _).alloc (Nat.le_refl _) _)
        clear HK O9 S9
        go_wp2_with fail
        refine (sameInts_same _ _ _ [0, 0] RX.out RL.out (by decide)).mono ?_
        rintro e z9 ⟨rfl, hb9⟩
        have SZ : Hid (Since w.heap.size w z9) := SX.out.step hb9
        clear hb9 RX RL SX HB9 cu0 cu1 cu2
        go_wp2_with fail
        refine (drawNext_any w.heap.size w _ a1 len1 cap1 HC1.out (by omega) SZ.out).mono ?_
        rintro e q1 ⟨st, he, rfl, hsq⟩
        have SQ1 : Hid (Since w.heap.size w q1) := hsq
        clear hsq SZ
        go_wp2_with fail
        refine (implNext_any _ _ _).mono ?_
        rintro e q2 ⟨rfl, rfl⟩
        go_wp2_with fail
        refine (specNext_any _ _ _).mono ?_
        rintro e q3 ⟨rfl, rfl⟩
        go_wp2
        go_ret
        exact ⟨rfl, SQ1.out.1⟩
end fnPair
end Go.Proofs.Ytchddjidjfpehaa
