/-
  The walk of the law FnSynced.
-/
import Derived.Test.YtkpdiojomgiocacLsSynM
import Derived.Test.YtkpdiojomgiocacLsSynS
import Derived.Test.YtkpdiojomgiocacLsAskS
import Derived.Test.YtkpdiojomgiocacDrawHv3
import Derived.Test.YtkpdiojomgiocacNum0
import Derived.Deep.CutRange
import Derived.Deep.Cut
namespace Go.Proofs.Ytkpdiojomgiocac
open Go.RowKit
set_option linter.unusedVariables false

namespace fnSynced
set_option maxRecDepth 100000 in
set_option maxHeartbeats 16000000 in
theorem walk (a0 : Option Addr) (len0 cap0 : Nat) (a1 : Option Addr) (len1 cap1 : Nat) (w : World) (hc0 : Code w.heap.size w a0 len0) (hl0 : len0 ≤ 9223372036854775807) (hc1 : Code w.heap.size w a1 len1) (hl1 : len1 ≤ 9223372036854775807) :
    Calls Try.prog 3 #[.slice a0 len0 cap0, .slice a1 len1 cap1] w fun e w' => e = .returned (.bool true) ∧ Below w.heap.size w w' := by
  have HC0 : Hid (Code w.heap.size w a0 len0) := hc0
  have HC1 : Hid (Code w.heap.size w a1 len1) := hc1
  have S0 : Hid (Since w.heap.size w w) := Since.start w
  clear hc0 hc1
  obtain ⟨X, hX⟩ : ∃ X : Int, IntKind.i64.wrap ((len0 : Int) + (len1 : Int)) = X := ⟨_, rfl⟩
  by_cases hbig : 1048576 < X
  · have hbig' : decide ((1048576 : Int) < X) = true := decide_eq_true hbig
    go_enter Try.func3, Try.ntmps3
    go_wp2
    go_ret
    exact ⟨rfl, Below.refl _ _⟩
  have hbig' : decide ((1048576 : Int) < X) = false := decide_eq_false hbig
  go_enter Try.func3, Try.ntmps3
  go_wp2_with fail
  refine (drawSyncBy_any w.heap.size w _ a0 len0 cap0 HC0.out (by omega) S0.out).mono ?_
  rintro e x1 ⟨va, la, vb, lb, most, rfl, hoa, hla, hob, hlb, hsx1⟩
  obtain ⟨aa, ca, rfl⟩ := hoa.shape
  obtain ⟨ab, cb, rfl⟩ := hob.shape
  have SX1 : Hid (Since w.heap.size w x1) := hsx1
  have HO1 : Hid (OwnHv x1 0 (.slice aa la.length ca) la ∧ OwnHv x1 0 (.slice ab lb.length cb) lb) := ⟨hoa.mono (Nat.zero_le _), hob.mono (Nat.zero_le _)⟩
  obtain ⟨xa, hxa⟩ : ∃ xa, xa = syncA la lb most := ⟨_, rfl⟩
  obtain ⟨xb, hxb⟩ : ∃ xb, xb = syncB la lb most := ⟨_, rfl⟩
  obtain ⟨xn, hxn⟩ : ∃ xn, xn = syncN la lb most := ⟨_, rfl⟩
  obtain ⟨ok, hok⟩ : ∃ ok, ok = syncOk la lb most := ⟨_, rfl⟩
  have CI : Hid (∀ W, LiesHv W (.slice aa la.length ca) la → LiesHv W (.slice ab lb.length cb) lb → Calls Try.prog 6 #[.slice aa la.length ca, .slice ab lb.length cb, .int .i64 most] W (SyncPost W xa xb xn ok)) := fun W h1 h2 => by rw [hxa, hxb, hxn, hok]; exact implSyncBy_any W _ _ la lb most h1 h2 (by omega) (by omega)
  have CS : Hid (∀ W, LiesHv W (.slice aa la.length ca) la → LiesHv W (.slice ab lb.length cb) lb → Calls Try.prog 7 #[.slice aa la.length ca, .slice ab lb.length cb, .int .i64 most] W (SyncPost W xa xb xn ok)) := fun W h1 h2 => by rw [hxa, hxb, hxn, hok]; exact specSyncBy_any W _ _ la lb most h1 h2 (by omega) (by omega)
  have LA : Hid (xa.length ≤ 30 ∨ ok = false) := by
    cases hk : ok with
    | false => exact .inr rfl
    | true =>
      rw [hok] at hk
      refine .inl ?_
      have h4 := (sync_math hk).2.2.2.1
      rw [← hxa] at h4
      unfold syncOk at h4
      simp only [Bool.and_eq_true] at h4
      exact (goodHv_true h4.1.1.1.1).1
  have LXA : Hid (xa.length ≤ 4194304) := by show _ ≤ _; rw [hxa]; exact syncA_len la lb most
  have LXB : Hid (xb.length ≤ 4194304) := by show _ ≤ _; rw [hxb]; exact syncB_len la lb most
  have HMA : Hid (ok = true → xb = xa ∧ (∀ W, OwnHv W 0 (.slice aa la.length ca) la → OwnHv W 0 (.slice ab lb.length cb) lb → Calls Try.prog 9 #[.slice aa la.length ca, .slice ab lb.length cb] W (MrgPost W xa true)) ∧ ∃ p q, ∀ W v1 v2, LiesHv W v1 xa → LiesHv W v2 xa → Calls Try.prog 6 #[v1, v2, .int .i64 most] W (SyncPost W p q 0 true)) := fun hk => by
    have hk2 : syncOk la lb most = true := by rw [← hok]; exact hk
    obtain ⟨m1, m2, m3, m4, m5⟩ := sync_math hk2
    have h30 : xa.length ≤ 30 := LA.out.resolve_right (by rw [hk]; simp)
    refine ⟨by rw [hxb, hxa]; exact m3, fun W h1 h2 => ?_, syncA xa xa most, syncB xa xa most, fun W v1 v2 h1 h2 => ?_⟩
    · have := implMergeHaves_any W 0 _ _ la lb h1 h2 (by omega) (by omega)
      rw [m1, m2, ← hxa] at this
      exact this
    · have := implSyncBy_any W v1 v2 xa xa most h1 h2 (by omega) (by omega)
      rw [← hxa] at m4 m5
      rw [m4, m5] at this
      exact this
  clear hoa hob hla hlb hsx1 hxa hxb hxn hok LA
  go_wp2_with fail
  refine (CI.out _ HO1.out.1.lies HO1.out.2.lies).mono ?_
  rintro e x2 ⟨v2, u2, rfl, hv2, hu2, -, hbx2⟩
  obtain ⟨a2, c2, rfl⟩ := hv2.shape
  obtain ⟨b2, d2, rfl⟩ := hu2.shape
  have SX2 : Hid (Since w.heap.size w x2) := SX1.out.step hbx2
  have HO2 : Hid (OwnHv x2 0 (.slice aa la.length ca) la ∧ OwnHv x2 0 (.slice ab lb.length cb) lb) := ⟨HO1.out.1.below hbx2, HO1.out.2.below hbx2⟩
  have HX2 : Hid (OwnHv x2 0 (.slice a2 xa.length c2) xa ∧ OwnHv x2 0 (.slice b2 xb.length d2) xb) := ⟨hv2.mono (Nat.zero_le _), hu2.mono (Nat.zero_le _)⟩
  clear hv2 hu2 hbx2 SX1 HO1 CI
  go_wp2_with fail
  refine (CS.out _ HO2.out.1.lies HO2.out.2.lies).mono ?_
  rintro e x3 ⟨v3, u3, rfl, hv3, hu3, -, hbx3⟩
  obtain ⟨a3, c3, rfl⟩ := hv3.shape
  obtain ⟨b3, d3, rfl⟩ := hu3.shape
  have SX3 : Hid (Since w.heap.size w x3) := SX2.out.step hbx3
  have HO3 : Hid (OwnHv x3 0 (.slice aa la.length ca) la ∧ OwnHv x3 0 (.slice ab lb.length cb) lb) := ⟨HO2.out.1.below hbx3, HO2.out.2.below hbx3⟩
  have HX3 : Hid (OwnHv x3 0 (.slice a2 xa.length c2) xa ∧ OwnHv x3 0 (.slice b2 xb.length d2) xb) := ⟨HX2.out.1.below hbx3, HX2.out.2.below hbx3⟩
  have HY3 : Hid (OwnHv x3 0 (.slice a3 xa.length c3) xa ∧ OwnHv x3 0 (.slice b3 xb.length d3) xb) := ⟨hv3.mono (Nat.zero_le _), hu3.mono (Nat.zero_le _)⟩
  clear hv3 hu3 hbx3 SX2 HO2 HX2 CS
  go_wp2_with fail
  refine (sameHvs_same _ _ _ xa HX3.out.1.reads HY3.out.1.reads LXA.out).mono ?_
  rintro e x4 ⟨rfl, hbx4⟩
  have SX4 : Hid (Since w.heap.size w x4) := SX3.out.step hbx4
  have HO4 : Hid (OwnHv x4 0 (.slice aa la.length ca) la ∧ OwnHv x4 0 (.slice ab lb.length cb) lb) := ⟨HO3.out.1.below hbx4, HO3.out.2.below hbx4⟩
  have HX4 : Hid (OwnHv x4 0 (.slice a2 xa.length c2) xa ∧ OwnHv x4 0 (.slice b2 xb.length d2) xb) := ⟨HX3.out.1.below hbx4, HX3.out.2.below hbx4⟩
  have HY4 : Hid (OwnHv x4 0 (.slice b3 xb.length d3) xb) := HY3.out.2.below hbx4
  clear hbx4 SX3 HO3 HX3 HY3
  go_wp2_with fail
  refine (sameHvs_same _ _ _ xb HX4.out.2.reads HY4.out.reads LXB.out).mono ?_
  rintro e x5 ⟨rfl, hbx5⟩
  have SX5 : Hid (Since w.heap.size w x5) := SX4.out.step hbx5
  have HO5 : Hid (OwnHv x5 0 (.slice aa la.length ca) la ∧ OwnHv x5 0 (.slice ab lb.length cb) lb) := ⟨HO4.out.1.below hbx5, HO4.out.2.below hbx5⟩
  have HX5 : Hid (OwnHv x5 0 (.slice a2 xa.length c2) xa ∧ OwnHv x5 0 (.slice b2 xb.length d2) xb) := ⟨HX4.out.1.below hbx5, HX4.out.2.below hbx5⟩
  clear hbx5 SX4 HO4 HX4 HY4
  cases ok with
  | false =>
    clear HMA HO5 HX5
    go_wp2_with fail
    refine (drawAskFor_any w.heap.size w _ a1 len1 cap1 HC1.out (by omega) SX5.out).mono ?_
    rintro e t1 ⟨vt, lt, vu, sm, rfl, hot, hlt, hou, hlu, hst1⟩
    obtain ⟨al, cl, rfl⟩ := hot.shape
    obtain ⟨au, cu, rfl⟩ := hou.shape
    obtain ⟨asks, hasks⟩ : ∃ asks, asks = asksOut lt sm := ⟨_, rfl⟩
    obtain ⟨over, hover⟩ : ∃ over, over = moreOut lt sm := ⟨_, rfl⟩
    obtain ⟨ok2, hok2⟩ : ∃ ok2, ok2 = askOk lt sm := ⟨_, rfl⟩
    obtain ⟨gs, hgs⟩ : ∃ gs, gs = goodSm sm := ⟨_, rfl⟩
    have LAS : Hid (asks.length ≤ 4194304) := by show _ ≤ _; rw [hasks]; exact asksOut_len lt sm
    have LOV : Hid (over.length ≤ 4194304) := by show _ ≤ _; rw [hover]; exact moreOut_len lt sm
    have HIN : Hid (ok2 = true → ∀ j (hj : j < over.length), over[j].From ∉ asks ∧ sm.Lo ≤ over[j].From ∧ over[j].From ≤ sm.Hi) := fun h j hj => by
      rw [hok2] at h
      subst hover
      subst hasks
      exact ask_math h j hj
    have CAI0 := fun (W : World) (h1 : LiesHv W (.slice al lt.length cl) lt) (h2 : LiesHv W (.slice au sm.Hs.length cu) sm.Hs) => implAskFor_any W _ _ lt sm h1 h2 (by omega) (by omega)
    have CAS0 := fun (W : World) (h1 : LiesHv W (.slice al lt.length cl) lt) (h2 : LiesHv W (.slice au sm.Hs.length cu) sm.Hs) => specAskFor_any W _ _ lt sm h1 h2 (by omega) (by omega)
    have CGI0 := fun (W : World) (h2 : LiesHv W (.slice au sm.Hs.length cu) sm.Hs) => implGoodSm_any W _ sm h2 (by omega)
    have CGS0 := fun (W : World) (h2 : LiesHv W (.slice au sm.Hs.length cu) sm.Hs) => specGoodSm_any W _ sm h2 (by omega)
    rw [← hasks, ← hover, ← hok2] at CAI0 CAS0
    rw [← hgs] at CGI0 CGS0
    clear hasks hover hok2 hgs
    obtain ⟨lo, hi, hs⟩ := sm
    simp only at *
    have SB : Hid (Since t1.heap.size t1 (t1.alloc (.cells #[.int .i64 lo, .int .i64 hi, .slice au hs.length cu] 32))) := (Since.start t1).step ((Below.refl _ t1).alloc (Nat.le_refl _) _)
    have SW1 : Hid (Since w.heap.size w (t1.alloc (.cells #[.int .i64 lo, .int .i64 hi, .slice au hs.length cu] 32))) := hst1.tran SB.out
    obtain ⟨tb, htb⟩ : ∃ tb, tb = (t1.alloc (.cells #[.int .i64 lo, .int .i64 hi, .slice au hs.length cu] 32)) := ⟨_, rfl⟩
    have HBX : Hid (∀ w', Since tb.heap.size tb w' → w'.cell? ⟨t1.heap.size, 0, none⟩ = some (.int .i64 lo) ∧ w'.cell? ⟨t1.heap.size, 1, none⟩ = some (.int .i64 hi) ∧ w'.cell? ⟨t1.heap.size, 2, none⟩ = some (.slice au hs.length cu)) := by
      rw [htb]
      exact fun w' hb => ⟨(hb.1.cell (p := ⟨t1.heap.size, 0, none⟩) (by simp)).trans (by rw [World.cell?_alloc_at _ _ _ _ rfl]; rfl), (hb.1.cell (p := ⟨t1.heap.size, 1, none⟩) (by simp)).trans (by rw [World.cell?_alloc_at _ _ _ _ rfl]; rfl), (hb.1.cell (p := ⟨t1.heap.size, 2, none⟩) (by simp)).trans (by rw [World.cell?_alloc_at _ _ _ _ rfl]; rfl)⟩
    have HLL : Hid (∀ w', Since tb.heap.size tb w' → LiesHv w' (.slice al lt.length cl) lt ∧ LiesHv w' (.slice au hs.length cu) hs) := fun w' h => by
      have h2 := SB.out
      rw [← htb] at h2
      have h3 := h2.tran h
      exact ⟨hot.lies.below h3.1, hou.lies.below h3.1⟩
    rw [← htb] at SW1
    have CAI : Hid (∀ W, Since tb.heap.size tb W → Calls Try.prog 11 #[.slice al lt.length cl, .agg #[.int .i64 lo, .int .i64 hi, .slice au hs.length cu]] W (AskPost W asks over ok2)) := fun W h => CAI0 W (HLL.out W h).1 (HLL.out W h).2
    have CAS : Hid (∀ W, Since tb.heap.size tb W → Calls Try.prog 12 #[.slice al lt.length cl, .agg #[.int .i64 lo, .int .i64 hi, .slice au hs.length cu]] W (AskPost W asks over ok2)) := fun W h => CAS0 W (HLL.out W h).1 (HLL.out W h).2
    have CGI : Hid (∀ W, Since tb.heap.size tb W → Calls Try.prog 14 #[.agg #[.int .i64 lo, .int .i64 hi, .slice au hs.length cu]] W fun e W' => e = .returned (.bool gs) ∧ Below W.heap.size W W') := fun W h => CGI0 W (HLL.out W h).2
    have CGS : Hid (∀ W, Since tb.heap.size tb W → Calls Try.prog 15 #[.agg #[.int .i64 lo, .int .i64 hi, .slice au hs.length cu]] W fun e W' => e = .returned (.bool gs) ∧ Below W.heap.size W W') := fun W h => CGS0 W (HLL.out W h).2
    have STB : Hid (Since tb.heap.size tb tb) := Since.start tb
    clear CAI0 CAS0 CGI0 CGS0 hot hou hlt hlu hst1 SB HLL
    go_wp2_with fail
    rw [← htb]
    clear htb
    refine (CAI.out _ STB.out).mono ?_
    rintro e t2 ⟨v2, o2, rfl, hq2, ho2, -, hbt2⟩
    obtain ⟨xi, yi, rfl⟩ := hq2.shape
    obtain ⟨xo, yo, rfl⟩ := ho2.shape
    have ST2 : Hid (Since tb.heap.size tb t2) := STB.out.step hbt2
    have OQ2 : Hid (Own t2 0 (.slice xi asks.length yi) asks ∧ OwnHv t2 0 (.slice xo over.length yo) over) := ⟨hq2.mono (Nat.zero_le _), ho2.mono (Nat.zero_le _)⟩
    clear hq2 ho2 hbt2 STB
    obtain ⟨z0, z1, z2⟩ := HBX.out t2 ST2.out
    go_wp2_with fail
    clear z0 z1 z2
    refine (CAS.out _ ST2.out).mono ?_
    rintro e t3 ⟨v3, o3, rfl, hq3, ho3, -, hbt3⟩
    obtain ⟨xs, ys, rfl⟩ := hq3.shape
    obtain ⟨xp, yp, rfl⟩ := ho3.shape
    have ST3 : Hid (Since tb.heap.size tb t3) := ST2.out.step hbt3
    have HRI : Hid (∀ w', Since t3.heap.size t3 w' → Reads w' (.slice xi asks.length yi) asks ∧ Reads w' (.slice xs asks.length ys) asks) := fun w' h => ⟨((OQ2.out.1.below hbt3).below h.1).reads, (hq3.below h.1).reads⟩
    have HRO : Hid (∀ w', Since t3.heap.size t3 w' → ReadsHv w' (.slice xo over.length yo) over ∧ ReadsHv w' (.slice xp over.length yp) over) := fun w' h => ⟨((OQ2.out.2.below hbt3).below h.1).reads, (ho3.below h.1).reads⟩
    have HOV : Hid (over = [] ∨ ∃ g, xo = some ⟨g, 0, none⟩ ∧ ∀ w', Since t3.heap.size t3 w' → ∀ j (hj : j < over.length), HvAt w' g (j * 2) over[j]) := by
      have h := OQ2.out.2.below hbt3
      by_cases hz : over = []
      · exact .inl hz
      · obtain ⟨g, cg, e6⟩ : ∃ g cap, Value.slice xo over.length yo = .slice (some ⟨g, 0, none⟩) over.length cap := by
          rcases h.2 with ⟨hv, hn0⟩ | ⟨g, cap, cur, hv, -⟩
          · exact absurd (List.eq_nil_of_length_eq_zero hn0) hz
          · exact ⟨g, cap, hv⟩
        obtain ⟨rfl, rfl⟩ : xo = some ⟨g, 0, none⟩ ∧ yo = cg := by simpa using e6
        refine .inr ⟨g, rfl, fun W' hs j hj => ?_⟩
        have h1 := h.below hs.1
        obtain ⟨q0, q1⟩ := cellsHv_get over j hj
        exact ⟨(World.ownsRow.cellAt h1 _ (by omega)).trans q0, (World.ownsRow.cellAt h1 _ (by omega)).trans q1⟩
    have SA0 : Since t3.heap.size t3 t3 := Since.start t3
    clear hq3 ho3 hbt3 OQ2 ST2 CAI CAS
    obtain ⟨z0, z1, z2⟩ := HBX.out t3 ST3.out
    go_wp2
    clear z0 z1 z2
    refine wp_region_held_drew (S := (fun w' => w'.cell? ⟨t1.heap.size, 0, none⟩ = some (.int .i64 lo) ∧ w'.cell? ⟨t1.heap.size, 1, none⟩ = some (.int .i64 hi) ∧ w'.cell? ⟨t1.heap.size, 2, none⟩ = some (.slice au hs.length cu))) (by kernel_rfl) ?_ (fun hHeld => ?_)
    · exact HBX.out _ (ST3.out.tran SA0.drew)
    refine handRead 0 (some 139) (.bool ok2) rfl rfl (by kernel_rfl) (by kernel_rfl) (by kernel_rfl) (fun _ _ _ h => h) (by kernel_rfl) (by assumption) ?_ ?_
    · intro w hSw
      (try dsimp only at hSw)
      go_simp
    simp only [Act.put, List.setIfInBounds_toArray, List.set_cons_zero, List.set_cons_succ]
    refine handRead 1 (some 140) (.bool ok2) rfl rfl (by kernel_rfl) (by kernel_rfl) (by kernel_rfl) (fun _ _ _ h => h) (by kernel_rfl) (by assumption) ?_ ?_
    · intro w hSw
      (try dsimp only at hSw)
      go_simp
    simp only [Act.put, List.setIfInBounds_toArray, List.set_cons_zero, List.set_cons_succ]
    refine handRead 2 (some 141) (.bool false) rfl rfl (by kernel_rfl) (by kernel_rfl) (by kernel_rfl) (fun _ _ _ h => h) (by kernel_rfl) (by assumption) ?_ ?_
    · intro w hSw
      (try dsimp only at hSw)
      go_simp
    simp only [Act.put, List.setIfInBounds_toArray, List.set_cons_zero, List.set_cons_succ]
    refine handRead 3 (some 142) (.bool false) rfl rfl (by kernel_rfl) (by kernel_rfl) (by kernel_rfl) (fun _ _ _ h => h) (by kernel_rfl) (by assumption) ?_ ?_
    · intro w hSw
      (try dsimp only at hSw)
      go_simp
    simp only [Act.put, List.setIfInBounds_toArray, List.set_cons_zero, List.set_cons_succ]
    refine handRead 4 (some 143) (.slice xi asks.length yi) rfl rfl (by kernel_rfl) (by kernel_rfl) (by kernel_rfl) (fun _ _ _ h => h) (by kernel_rfl) (by assumption) ?_ ?_
    · intro w hSw
      (try dsimp only at hSw)
      go_simp
    simp only [Act.put, List.setIfInBounds_toArray, List.set_cons_zero, List.set_cons_succ]
    refine handRead 5 (some 144) (.slice xs asks.length ys) rfl rfl (by kernel_rfl) (by kernel_rfl) (by kernel_rfl) (fun _ _ _ h => h) (by kernel_rfl) (by assumption) ?_ ?_
    · intro w hSw
      (try dsimp only at hSw)
      go_simp
    simp only [Act.put, List.setIfInBounds_toArray, List.set_cons_zero, List.set_cons_succ]
    refine handCall 6 (some 145) 13 #[.slice xi asks.length yi, .slice xs asks.length ys] (by kernel_rfl) rfl rfl (by kernel_rfl) (by simp [go_sem]) ((sameInts_same _ _ _ asks (HRI.out _ SA0.drew).1 (HRI.out _ SA0.drew).2 LAS.out).mono ?_)
    rintro e r1 ⟨rfl, hbr1⟩
    have SA1 : Hid (Since t3.heap.size t3 r1) := SA0.drew.step hbr1
    clear hHeld hbr1
    refine ⟨_, rfl, (by exact HBX.out _ (ST3.out.tran SA1.out)), fun hHeld => ?_⟩
    simp only [Act.put, List.setIfInBounds_toArray, List.set_cons_zero, List.set_cons_succ]
    refine handRead 7 (some 146) (.bool false) rfl rfl (by kernel_rfl) (by kernel_rfl) (by kernel_rfl) (fun _ _ _ h => h) (by kernel_rfl) (by assumption) ?_ ?_
    · intro w hSw
      (try dsimp only at hSw)
      go_simp
    simp only [Act.put, List.setIfInBounds_toArray, List.set_cons_zero, List.set_cons_succ]
    refine handRead 8 (some 147) (.bool false) rfl rfl (by kernel_rfl) (by kernel_rfl) (by kernel_rfl) (fun _ _ _ h => h) (by kernel_rfl) (by assumption) ?_ ?_
    · intro w hSw
      (try dsimp only at hSw)
      go_simp
    simp only [Act.put, List.setIfInBounds_toArray, List.set_cons_zero, List.set_cons_succ]
    refine handRead 9 (some 148) (.bool false) rfl rfl (by kernel_rfl) (by kernel_rfl) (by kernel_rfl) (fun _ _ _ h => h) (by kernel_rfl) (by assumption) ?_ ?_
    · intro w hSw
      (try dsimp only at hSw)
      go_simp
    simp only [Act.put, List.setIfInBounds_toArray, List.set_cons_zero, List.set_cons_succ]
    refine handRead 10 (some 149) (.slice xo over.length yo) rfl rfl (by kernel_rfl) (by kernel_rfl) (by kernel_rfl) (fun _ _ _ h => h) (by kernel_rfl) (by assumption) ?_ ?_
    · intro w hSw
      (try dsimp only at hSw)
      go_simp
    simp only [Act.put, List.setIfInBounds_toArray, List.set_cons_zero, List.set_cons_succ]
    refine handRead 11 (some 150) (.slice xp over.length yp) rfl rfl (by kernel_rfl) (by kernel_rfl) (by kernel_rfl) (fun _ _ _ h => h) (by kernel_rfl) (by assumption) ?_ ?_
    · intro w hSw
      (try dsimp only at hSw)
      go_simp
    simp only [Act.put, List.setIfInBounds_toArray, List.set_cons_zero, List.set_cons_succ]
    refine handCall 12 (some 151) 8 #[.slice xo over.length yo, .slice xp over.length yp] (by kernel_rfl) rfl rfl (by kernel_rfl) (by simp [go_sem]) ((sameHvs_same _ _ _ over (HRO.out _ SA1.out).1 (HRO.out _ SA1.out).2 LOV.out).mono ?_)
    rintro e r2 ⟨rfl, hbr2⟩
    have SA2 : Hid (Since t3.heap.size t3 r2) := SA1.out.step hbr2
    clear hHeld hbr2
    refine ⟨_, rfl, (by exact HBX.out _ (ST3.out.tran SA2.out)), fun hHeld => ?_⟩
    simp only [Act.put, List.setIfInBounds_toArray, List.set_cons_zero, List.set_cons_succ]
    refine handRead 13 (some 152) (.bool false) rfl rfl (by kernel_rfl) (by kernel_rfl) (by kernel_rfl) (fun _ _ _ h => h) (by kernel_rfl) (by assumption) ?_ ?_
    · intro w hSw
      (try dsimp only at hSw)
      go_simp
    simp only [Act.put, List.setIfInBounds_toArray, List.set_cons_zero, List.set_cons_succ]
    refine handRead 14 (some 153) (.bool false) rfl rfl (by kernel_rfl) (by kernel_rfl) (by kernel_rfl) (fun _ _ _ h => h) (by kernel_rfl) (by assumption) ?_ ?_
    · intro w hSw
      (try dsimp only at hSw)
      go_simp
    simp only [Act.put, List.setIfInBounds_toArray, List.set_cons_zero, List.set_cons_succ]
    refine handRead 15 (some 154) (.bool false) rfl rfl (by kernel_rfl) (by kernel_rfl) (by kernel_rfl) (fun _ _ _ h => h) (by kernel_rfl) (by assumption) ?_ ?_
    · intro w hSw
      (try dsimp only at hSw)
      go_simp
    simp only [Act.put, List.setIfInBounds_toArray, List.set_cons_zero, List.set_cons_succ]
    refine handRead 16 (some 155) (.agg #[.int .i64 lo, .int .i64 hi, .slice au hs.length cu]) rfl rfl (by kernel_rfl) (by kernel_rfl) (by kernel_rfl) (fun _ _ _ h => h) (by kernel_rfl) (by assumption) ?_ ?_
    · intro w hSw
      (try dsimp only at hSw)
      go_simp
    simp only [Act.put, List.setIfInBounds_toArray, List.set_cons_zero, List.set_cons_succ]
    refine handRead 18 (some 157) (.agg #[.int .i64 lo, .int .i64 hi, .slice au hs.length cu]) rfl rfl (by kernel_rfl) (by kernel_rfl) (by kernel_rfl) (fun _ _ _ h => h) (by kernel_rfl) (by assumption) ?_ ?_
    · intro w hSw
      (try dsimp only at hSw)
      go_simp
    simp only [Act.put, List.setIfInBounds_toArray, List.set_cons_zero, List.set_cons_succ]
    refine handCall 17 (some 156) 14 #[.agg #[.int .i64 lo, .int .i64 hi, .slice au hs.length cu]] (by kernel_rfl) rfl rfl (by kernel_rfl) (by simp [go_sem]) ((CGI.out _ (ST3.out.tran SA2.out)).mono ?_)
    rintro e r3 ⟨rfl, hbr3⟩
    have SA3 : Hid (Since t3.heap.size t3 r3) := SA2.out.step hbr3
    clear hHeld hbr3
    refine ⟨_, rfl, (by exact HBX.out _ (ST3.out.tran SA3.out)), fun hHeld => ?_⟩
    simp only [Act.put, List.setIfInBounds_toArray, List.set_cons_zero, List.set_cons_succ]
    refine handCall 19 (some 158) 15 #[.agg #[.int .i64 lo, .int .i64 hi, .slice au hs.length cu]] (by kernel_rfl) rfl rfl (by kernel_rfl) (by simp [go_sem]) ((CGS.out _ (ST3.out.tran SA3.out)).mono ?_)
    rintro e r4 ⟨rfl, hbr4⟩
    have SA4 : Hid (Since t3.heap.size t3 r4) := SA3.out.step hbr4
    clear hHeld hbr4
    refine ⟨_, rfl, (by exact HBX.out _ (ST3.out.tran SA4.out)), fun hHeld => ?_⟩
    simp only [Act.put, List.setIfInBounds_toArray, List.set_cons_zero, List.set_cons_succ]
    refine handRead 20 (some 159) (.bool false) rfl rfl (by kernel_rfl) (by kernel_rfl) (by kernel_rfl) (fun _ _ _ h => h) (by kernel_rfl) (by assumption) ?_ ?_
    · intro w hSw
      (try dsimp only at hSw)
      go_simp
    simp only [Act.put, List.setIfInBounds_toArray, List.set_cons_zero, List.set_cons_succ]
    refine handRead 21 (some 160) (.bool false) rfl rfl (by kernel_rfl) (by kernel_rfl) (by kernel_rfl) (fun _ _ _ h => h) (by kernel_rfl) (by assumption) ?_ ?_
    · intro w hSw
      (try dsimp only at hSw)
      go_simp
    simp only [Act.put, List.setIfInBounds_toArray, List.set_cons_zero, List.set_cons_succ]
    refine wpAnyH_done (by kernel_rfl) ?_ _
    have SR4 : Hid (Since tb.heap.size tb r4) := ST3.out.tran SA4.out
    clear CGI CGS SA0 SA1 SA2 SA3
    cases ok2 with
    | false =>
      have SZ : Hid (Since w.heap.size w r4) := SW1.out.tran SR4.out
      clear SA4 HBX HRI HRO HOV HIN
      go_wp2
      go_ret
      exact ⟨rfl, SZ.out.1⟩
    | true =>
      have hin := HIN.out (by first | rfl | trivial)
      have HI2 : Hid (∀ j (hj : j < over.length), over[j].From ∉ asks ∧ lo ≤ over[j].From ∧ over[j].From ≤ hi) := hin
      have hov : over.length ≤ 4194304 := LOV.out
      clear hin HIN
      rcases HOV.out with hz | ⟨g, rfl, hcm⟩
      · subst hz
        simp only [List.length_nil] at *
        have SZ : Hid (Since w.heap.size w r4) := SW1.out.tran SR4.out
        clear SA4 HBX HRI HRO HOV HI2
        go_wp2
        refine wp_loop_rounds 1 ?_
        rw [rounds_succ]
        go_wp2
        go_ret
        exact ⟨rfl, SZ.out.1⟩
      have HCM : Hid (∀ w', Since t3.heap.size t3 w' → ∀ j (hj : j < over.length), HvAt w' g (j * 2) over[j]) := hcm
      clear hcm HOV
      go_wp2
      go_loopw [164] (fun i wr => ∃ k : Nat, k ≤ over.length ∧ i = .int .i64 k ∧ Hid (Since t3.heap.size t3 wr)) (fun i _ => over.length - (intOf i).toNat)
      case atStart => exact ⟨0, Nat.zero_le _, rfl, SA4.out⟩
      case round =>
        obtain ⟨k, hk, rfl, HK⟩ := hrel
        by_cases hlt : k < over.length
        · obtain ⟨q0, q1⟩ := HCM.out wr HK.out k hlt
          obtain ⟨h3, h4, h5⟩ := HI2.out k hlt
          have hlt' : (k : Int) < (over.length : Int) := by omega
          generalize over[k] = x at *
          obtain ⟨f, q⟩ := x
          simp only at *
          have hd : decide (f ∈ asks) = false := decide_eq_false h3
          have n4 : ¬ (f < lo) := by omega
          have n5 : ¬ (hi < f) := by omega
          have HA : Hid (Since wr.heap.size wr (wr.alloc (.cells #[.int .i64 f, .int .i64 q] 41))) := (Since.start wr).step ((Below.refl _ wr).alloc (Nat.le_refl _) _)
          have SA : Hid (Since t3.heap.size t3 (wr.alloc (.cells #[.int .i64 f, .int .i64 q] 41))) := HK.out.tran HA.out
          have CH : Hid (Calls Try.prog 16 #[.slice xi asks.length yi, .int .i64 f] (wr.alloc (.cells #[.int .i64 f, .int .i64 q] 41)) fun e W' => e = .returned (.bool false) ∧ W' = wr.alloc (.cells #[.int .i64 f, .int .i64 q] 41)) := by
            have := has_any (wr.alloc (.cells #[.int .i64 f, .int .i64 q] 41)) _ asks f (HRI.out _ SA.out).1 LAS.out
            rw [hd] at this
            exact this
          obtain ⟨z0, z1, z2⟩ := HBX.out wr (ST3.out.tran HK.out)
          obtain ⟨y0, y1, y2⟩ := HBX.out (wr.alloc (.cells #[.int .i64 f, .int .i64 q] 41)) (ST3.out.tran SA.out)
          clear HK HA hd h3
          go_wp2_with fail
          refine CH.out.mono ?_
          rintro e r5 ⟨rfl, hr5⟩
          subst hr5
          clear CH
          go_wp2
          go_roundw
          case rel => exact ⟨k + 1, by omega, by go_num, SA.out⟩
          case measure => simp [intOf]; omega
        · have hlt' : ¬ (k : Int) < (over.length : Int) := by omega
          have SZ : Hid (Since w.heap.size w wr) := SW1.out.tran (ST3.out.tran HK.out)
          clear HK HCM HI2 HBX HRI HRO SA4
          go_wp2
          go_ret
          exact ⟨rfl, SZ.out.1⟩
  | true =>
    obtain ⟨hxx, hm, p, q, hs2⟩ := HMA.out (by first | rfl | trivial)
    subst hxx
    have CM : Hid (∀ W, OwnHv W 0 (.slice aa la.length ca) la → OwnHv W 0 (.slice ab lb.length cb) lb → Calls Try.prog 9 #[.slice aa la.length ca, .slice ab lb.length cb] W (MrgPost W xb true)) := hm
    have CY : Hid (∀ W v1 v2, LiesHv W v1 xb → LiesHv W v2 xb → Calls Try.prog 6 #[v1, v2, .int .i64 most] W (SyncPost W p q 0 true)) := hs2
    clear hm hs2 HMA LXA
    go_wp2_with fail
    refine (CM.out _ HO5.out.1 HO5.out.2).mono ?_
    rintro e x6 ⟨v6, rfl, hv6, hbx6⟩
    obtain ⟨a6, c6, rfl⟩ := hv6.shape
    have SX6 : Hid (Since w.heap.size w x6) := SX5.out.step hbx6
    have HX6 : Hid (OwnHv x6 0 (.slice a2 xb.length c2) xb ∧ OwnHv x6 0 (.slice b2 xb.length d2) xb) := ⟨HX5.out.1.below hbx6, HX5.out.2.below hbx6⟩
    have HM6 : Hid (OwnHv x6 0 (.slice a6 xb.length c6) xb) := hv6.mono (Nat.zero_le _)
    clear hv6 hbx6 SX5 HO5 HX5 CM
    go_wp2_with fail
    refine (CY.out _ _ _ HX6.out.1.lies HX6.out.2.lies).mono ?_
    rintro e x7 ⟨v7, u7, rfl, hv7, hu7, -, hbx7⟩
    obtain ⟨a7, c7, rfl⟩ := hv7.shape
    obtain ⟨b7, d7, rfl⟩ := hu7.shape
    have SX7 : Hid (Since w.heap.size w x7) := SX6.out.step hbx7
    have HX7 : Hid (OwnHv x7 0 (.slice a2 xb.length c2) xb ∧ OwnHv x7 0 (.slice b2 xb.length d2) xb) := ⟨HX6.out.1.below hbx7, HX6.out.2.below hbx7⟩
    have HM7 : Hid (OwnHv x7 0 (.slice a6 xb.length c6) xb) := HM6.out.below hbx7
    clear hv7 hu7 hbx7 SX6 HX6 HM6 CY
    go_wp2_with fail
    refine (sameHvs_same _ _ _ xb HX7.out.1.reads HM7.out.reads LXB.out).mono ?_
    rintro e x8 ⟨rfl, hbx8⟩
    have SX8 : Hid (Since w.heap.size w x8) := SX7.out.step hbx8
    have HX8 : Hid (OwnHv x8 0 (.slice b2 xb.length d2) xb) := HX7.out.2.below hbx8
    have HM8 : Hid (OwnHv x8 0 (.slice a6 xb.length c6) xb) := HM7.out.below hbx8
    clear hbx8 SX7 HX7 HM7
    go_wp2_with fail
    refine (sameHvs_same _ _ _ xb HX8.out.reads HM8.out.reads LXB.out).mono ?_
    rintro e x9 ⟨rfl, hbx9⟩
    have SX9 : Hid (Since w.heap.size w x9) := SX8.out.step hbx9
    clear hbx9 SX8 HX8 HM8
    go_wp2_with fail
    refine (drawAskFor_any w.heap.size w _ a1 len1 cap1 HC1.out (by omega) SX9.out).mono ?_
    rintro e t1 ⟨vt, lt, vu, sm, rfl, hot, hlt, hou, hlu, hst1⟩
    obtain ⟨al, cl, rfl⟩ := hot.shape
    obtain ⟨au, cu, rfl⟩ := hou.shape
    obtain ⟨asks, hasks⟩ : ∃ asks, asks = asksOut lt sm := ⟨_, rfl⟩
    obtain ⟨over, hover⟩ : ∃ over, over = moreOut lt sm := ⟨_, rfl⟩
    obtain ⟨ok2, hok2⟩ : ∃ ok2, ok2 = askOk lt sm := ⟨_, rfl⟩
    obtain ⟨gs, hgs⟩ : ∃ gs, gs = goodSm sm := ⟨_, rfl⟩
    have LAS : Hid (asks.length ≤ 4194304) := by show _ ≤ _; rw [hasks]; exact asksOut_len lt sm
    have LOV : Hid (over.length ≤ 4194304) := by show _ ≤ _; rw [hover]; exact moreOut_len lt sm
    have HIN : Hid (ok2 = true → ∀ j (hj : j < over.length), over[j].From ∉ asks ∧ sm.Lo ≤ over[j].From ∧ over[j].From ≤ sm.Hi) := fun h j hj => by
      rw [hok2] at h
      subst hover
      subst hasks
      exact ask_math h j hj
    have CAI0 := fun (W : World) (h1 : LiesHv W (.slice al lt.length cl) lt) (h2 : LiesHv W (.slice au sm.Hs.length cu) sm.Hs) => implAskFor_any W _ _ lt sm h1 h2 (by omega) (by omega)
    have CAS0 := fun (W : World) (h1 : LiesHv W (.slice al lt.length cl) lt) (h2 : LiesHv W (.slice au sm.Hs.length cu) sm.Hs) => specAskFor_any W _ _ lt sm h1 h2 (by omega) (by omega)
    have CGI0 := fun (W : World) (h2 : LiesHv W (.slice au sm.Hs.length cu) sm.Hs) => implGoodSm_any W _ sm h2 (by omega)
    have CGS0 := fun (W : World) (h2 : LiesHv W (.slice au sm.Hs.length cu) sm.Hs) => specGoodSm_any W _ sm h2 (by omega)
    rw [← hasks, ← hover, ← hok2] at CAI0 CAS0
    rw [← hgs] at CGI0 CGS0
    clear hasks hover hok2 hgs
    obtain ⟨lo, hi, hs⟩ := sm
    simp only at *
    have SB : Hid (Since t1.heap.size t1 (t1.alloc (.cells #[.int .i64 lo, .int .i64 hi, .slice au hs.length cu] 32))) := (Since.start t1).step ((Below.refl _ t1).alloc (Nat.le_refl _) _)
    have SW1 : Hid (Since w.heap.size w (t1.alloc (.cells #[.int .i64 lo, .int .i64 hi, .slice au hs.length cu] 32))) := hst1.tran SB.out
    obtain ⟨tb, htb⟩ : ∃ tb, tb = (t1.alloc (.cells #[.int .i64 lo, .int .i64 hi, .slice au hs.length cu] 32)) := ⟨_, rfl⟩
    have HBX : Hid (∀ w', Since tb.heap.size tb w' → w'.cell? ⟨t1.heap.size, 0, none⟩ = some (.int .i64 lo) ∧ w'.cell? ⟨t1.heap.size, 1, none⟩ = some (.int .i64 hi) ∧ w'.cell? ⟨t1.heap.size, 2, none⟩ = some (.slice au hs.length cu)) := by
      rw [htb]
      exact fun w' hb => ⟨(hb.1.cell (p := ⟨t1.heap.size, 0, none⟩) (by simp)).trans (by rw [World.cell?_alloc_at _ _ _ _ rfl]; rfl), (hb.1.cell (p := ⟨t1.heap.size, 1, none⟩) (by simp)).trans (by rw [World.cell?_alloc_at _ _ _ _ rfl]; rfl), (hb.1.cell (p := ⟨t1.heap.size, 2, none⟩) (by simp)).trans (by rw [World.cell?_alloc_at _ _ _ _ rfl]; rfl)⟩
    have HLL : Hid (∀ w', Since tb.heap.size tb w' → LiesHv w' (.slice al lt.length cl) lt ∧ LiesHv w' (.slice au hs.length cu) hs) := fun w' h => by
      have h2 := SB.out
      rw [← htb] at h2
      have h3 := h2.tran h
      exact ⟨hot.lies.below h3.1, hou.lies.below h3.1⟩
    rw [← htb] at SW1
    have CAI : Hid (∀ W, Since tb.heap.size tb W → Calls Try.prog 11 #[.slice al lt.length cl, .agg #[.int .i64 lo, .int .i64 hi, .slice au hs.length cu]] W (AskPost W asks over ok2)) := fun W h => CAI0 W (HLL.out W h).1 (HLL.out W h).2
    have CAS : Hid (∀ W, Since tb.heap.size tb W → Calls Try.prog 12 #[.slice al lt.length cl, .agg #[.int .i64 lo, .int .i64 hi, .slice au hs.length cu]] W (AskPost W asks over ok2)) := fun W h => CAS0 W (HLL.out W h).1 (HLL.out W h).2
    have CGI : Hid (∀ W, Since tb.heap.size tb W → Calls Try.prog 14 #[.agg #[.int .i64 lo, .int .i64 hi, .slice au hs.length cu]] W fun e W' => e = .returned (.bool gs) ∧ Below W.heap.size W W') := fun W h => CGI0 W (HLL.out W h).2
    have CGS : Hid (∀ W, Since tb.heap.size tb W → Calls Try.prog 15 #[.agg #[.int .i64 lo, .int .i64 hi, .slice au hs.length cu]] W fun e W' => e = .returned (.bool gs) ∧ Below W.heap.size W W') := fun W h => CGS0 W (HLL.out W h).2
    have STB : Hid (Since tb.heap.size tb tb) := Since.start tb
    clear CAI0 CAS0 CGI0 CGS0 hot hou hlt hlu hst1 SB HLL
    go_wp2_with fail
    rw [← htb]
    clear htb
    refine (CAI.out _ STB.out).mono ?_
    rintro e t2 ⟨v2, o2, rfl, hq2, ho2, -, hbt2⟩
    obtain ⟨xi, yi, rfl⟩ := hq2.shape
    obtain ⟨xo, yo, rfl⟩ := ho2.shape
    have ST2 : Hid (Since tb.heap.size tb t2) := STB.out.step hbt2
    have OQ2 : Hid (Own t2 0 (.slice xi asks.length yi) asks ∧ OwnHv t2 0 (.slice xo over.length yo) over) := ⟨hq2.mono (Nat.zero_le _), ho2.mono (Nat.zero_le _)⟩
    clear hq2 ho2 hbt2 STB
    obtain ⟨z0, z1, z2⟩ := HBX.out t2 ST2.out
    go_wp2_with fail
    clear z0 z1 z2
    refine (CAS.out _ ST2.out).mono ?_
    rintro e t3 ⟨v3, o3, rfl, hq3, ho3, -, hbt3⟩
    obtain ⟨xs, ys, rfl⟩ := hq3.shape
    obtain ⟨xp, yp, rfl⟩ := ho3.shape
    have ST3 : Hid (Since tb.heap.size tb t3) := ST2.out.step hbt3
    have HRI : Hid (∀ w', Since t3.heap.size t3 w' → Reads w' (.slice xi asks.length yi) asks ∧ Reads w' (.slice xs asks.length ys) asks) := fun w' h => ⟨((OQ2.out.1.below hbt3).below h.1).reads, (hq3.below h.1).reads⟩
    have HRO : Hid (∀ w', Since t3.heap.size t3 w' → ReadsHv w' (.slice xo over.length yo) over ∧ ReadsHv w' (.slice xp over.length yp) over) := fun w' h => ⟨((OQ2.out.2.below hbt3).below h.1).reads, (ho3.below h.1).reads⟩
    have HOV : Hid (over = [] ∨ ∃ g, xo = some ⟨g, 0, none⟩ ∧ ∀ w', Since t3.heap.size t3 w' → ∀ j (hj : j < over.length), HvAt w' g (j * 2) over[j]) := by
      have h := OQ2.out.2.below hbt3
      by_cases hz : over = []
      · exact .inl hz
      · obtain ⟨g, cg, e6⟩ : ∃ g cap, Value.slice xo over.length yo = .slice (some ⟨g, 0, none⟩) over.length cap := by
          rcases h.2 with ⟨hv, hn0⟩ | ⟨g, cap, cur, hv, -⟩
          · exact absurd (List.eq_nil_of_length_eq_zero hn0) hz
          · exact ⟨g, cap, hv⟩
        obtain ⟨rfl, rfl⟩ : xo = some ⟨g, 0, none⟩ ∧ yo = cg := by simpa using e6
        refine .inr ⟨g, rfl, fun W' hs j hj => ?_⟩
        have h1 := h.below hs.1
        obtain ⟨q0, q1⟩ := cellsHv_get over j hj
        exact ⟨(World.ownsRow.cellAt h1 _ (by omega)).trans q0, (World.ownsRow.cellAt h1 _ (by omega)).trans q1⟩
    have SA0 : Since t3.heap.size t3 t3 := Since.start t3
    clear hq3 ho3 hbt3 OQ2 ST2 CAI CAS
    obtain ⟨z0, z1, z2⟩ := HBX.out t3 ST3.out
    go_wp2
    clear z0 z1 z2
    refine wp_region_held_drew (S := (fun w' => w'.cell? ⟨t1.heap.size, 0, none⟩ = some (.int .i64 lo) ∧ w'.cell? ⟨t1.heap.size, 1, none⟩ = some (.int .i64 hi) ∧ w'.cell? ⟨t1.heap.size, 2, none⟩ = some (.slice au hs.length cu))) (by kernel_rfl) ?_ (fun hHeld => ?_)
    · exact HBX.out _ (ST3.out.tran SA0.drew)
    refine handRead 0 (some 139) (.bool ok2) rfl rfl (by kernel_rfl) (by kernel_rfl) (by kernel_rfl) (fun _ _ _ h => h) (by kernel_rfl) (by assumption) ?_ ?_
    · intro w hSw
      (try dsimp only at hSw)
      go_simp
    simp only [Act.put, List.setIfInBounds_toArray, List.set_cons_zero, List.set_cons_succ]
    refine handRead 1 (some 140) (.bool ok2) rfl rfl (by kernel_rfl) (by kernel_rfl) (by kernel_rfl) (fun _ _ _ h => h) (by kernel_rfl) (by assumption) ?_ ?_
    · intro w hSw
      (try dsimp only at hSw)
      go_simp
    simp only [Act.put, List.setIfInBounds_toArray, List.set_cons_zero, List.set_cons_succ]
    refine handRead 2 (some 141) (.bool false) rfl rfl (by kernel_rfl) (by kernel_rfl) (by kernel_rfl) (fun _ _ _ h => h) (by kernel_rfl) (by assumption) ?_ ?_
    · intro w hSw
      (try dsimp only at hSw)
      go_simp
    simp only [Act.put, List.setIfInBounds_toArray, List.set_cons_zero, List.set_cons_succ]
    refine handRead 3 (some 142) (.bool false) rfl rfl (by kernel_rfl) (by kernel_rfl) (by kernel_rfl) (fun _ _ _ h => h) (by kernel_rfl) (by assumption) ?_ ?_
    · intro w hSw
      (try dsimp only at hSw)
      go_simp
    simp only [Act.put, List.setIfInBounds_toArray, List.set_cons_zero, List.set_cons_succ]
    refine handRead 4 (some 143) (.slice xi asks.length yi) rfl rfl (by kernel_rfl) (by kernel_rfl) (by kernel_rfl) (fun _ _ _ h => h) (by kernel_rfl) (by assumption) ?_ ?_
    · intro w hSw
      (try dsimp only at hSw)
      go_simp
    simp only [Act.put, List.setIfInBounds_toArray, List.set_cons_zero, List.set_cons_succ]
    refine handRead 5 (some 144) (.slice xs asks.length ys) rfl rfl (by kernel_rfl) (by kernel_rfl) (by kernel_rfl) (fun _ _ _ h => h) (by kernel_rfl) (by assumption) ?_ ?_
    · intro w hSw
      (try dsimp only at hSw)
      go_simp
    simp only [Act.put, List.setIfInBounds_toArray, List.set_cons_zero, List.set_cons_succ]
    refine handCall 6 (some 145) 13 #[.slice xi asks.length yi, .slice xs asks.length ys] (by kernel_rfl) rfl rfl (by kernel_rfl) (by simp [go_sem]) ((sameInts_same _ _ _ asks (HRI.out _ SA0.drew).1 (HRI.out _ SA0.drew).2 LAS.out).mono ?_)
    rintro e r1 ⟨rfl, hbr1⟩
    have SA1 : Hid (Since t3.heap.size t3 r1) := SA0.drew.step hbr1
    clear hHeld hbr1
    refine ⟨_, rfl, (by exact HBX.out _ (ST3.out.tran SA1.out)), fun hHeld => ?_⟩
    simp only [Act.put, List.setIfInBounds_toArray, List.set_cons_zero, List.set_cons_succ]
    refine handRead 7 (some 146) (.bool false) rfl rfl (by kernel_rfl) (by kernel_rfl) (by kernel_rfl) (fun _ _ _ h => h) (by kernel_rfl) (by assumption) ?_ ?_
    · intro w hSw
      (try dsimp only at hSw)
      go_simp
    simp only [Act.put, List.setIfInBounds_toArray, List.set_cons_zero, List.set_cons_succ]
    refine handRead 8 (some 147) (.bool false) rfl rfl (by kernel_rfl) (by kernel_rfl) (by kernel_rfl) (fun _ _ _ h => h) (by kernel_rfl) (by assumption) ?_ ?_
    · intro w hSw
      (try dsimp only at hSw)
      go_simp
    simp only [Act.put, List.setIfInBounds_toArray, List.set_cons_zero, List.set_cons_succ]
    refine handRead 9 (some 148) (.bool false) rfl rfl (by kernel_rfl) (by kernel_rfl) (by kernel_rfl) (fun _ _ _ h => h) (by kernel_rfl) (by assumption) ?_ ?_
    · intro w hSw
      (try dsimp only at hSw)
      go_simp
    simp only [Act.put, List.setIfInBounds_toArray, List.set_cons_zero, List.set_cons_succ]
    refine handRead 10 (some 149) (.slice xo over.length yo) rfl rfl (by kernel_rfl) (by kernel_rfl) (by kernel_rfl) (fun _ _ _ h => h) (by kernel_rfl) (by assumption) ?_ ?_
    · intro w hSw
      (try dsimp only at hSw)
      go_simp
    simp only [Act.put, List.setIfInBounds_toArray, List.set_cons_zero, List.set_cons_succ]
    refine handRead 11 (some 150) (.slice xp over.length yp) rfl rfl (by kernel_rfl) (by kernel_rfl) (by kernel_rfl) (fun _ _ _ h => h) (by kernel_rfl) (by assumption) ?_ ?_
    · intro w hSw
      (try dsimp only at hSw)
      go_simp
    simp only [Act.put, List.setIfInBounds_toArray, List.set_cons_zero, List.set_cons_succ]
    refine handCall 12 (some 151) 8 #[.slice xo over.length yo, .slice xp over.length yp] (by kernel_rfl) rfl rfl (by kernel_rfl) (by simp [go_sem]) ((sameHvs_same _ _ _ over (HRO.out _ SA1.out).1 (HRO.out _ SA1.out).2 LOV.out).mono ?_)
    rintro e r2 ⟨rfl, hbr2⟩
    have SA2 : Hid (Since t3.heap.size t3 r2) := SA1.out.step hbr2
    clear hHeld hbr2
    refine ⟨_, rfl, (by exact HBX.out _ (ST3.out.tran SA2.out)), fun hHeld => ?_⟩
    simp only [Act.put, List.setIfInBounds_toArray, List.set_cons_zero, List.set_cons_succ]
    refine handRead 13 (some 152) (.bool false) rfl rfl (by kernel_rfl) (by kernel_rfl) (by kernel_rfl) (fun _ _ _ h => h) (by kernel_rfl) (by assumption) ?_ ?_
    · intro w hSw
      (try dsimp only at hSw)
      go_simp
    simp only [Act.put, List.setIfInBounds_toArray, List.set_cons_zero, List.set_cons_succ]
    refine handRead 14 (some 153) (.bool false) rfl rfl (by kernel_rfl) (by kernel_rfl) (by kernel_rfl) (fun _ _ _ h => h) (by kernel_rfl) (by assumption) ?_ ?_
    · intro w hSw
      (try dsimp only at hSw)
      go_simp
    simp only [Act.put, List.setIfInBounds_toArray, List.set_cons_zero, List.set_cons_succ]
    refine handRead 15 (some 154) (.bool false) rfl rfl (by kernel_rfl) (by kernel_rfl) (by kernel_rfl) (fun _ _ _ h => h) (by kernel_rfl) (by assumption) ?_ ?_
    · intro w hSw
      (try dsimp only at hSw)
      go_simp
    simp only [Act.put, List.setIfInBounds_toArray, List.set_cons_zero, List.set_cons_succ]
    refine handRead 16 (some 155) (.agg #[.int .i64 lo, .int .i64 hi, .slice au hs.length cu]) rfl rfl (by kernel_rfl) (by kernel_rfl) (by kernel_rfl) (fun _ _ _ h => h) (by kernel_rfl) (by assumption) ?_ ?_
    · intro w hSw
      (try dsimp only at hSw)
      go_simp
    simp only [Act.put, List.setIfInBounds_toArray, List.set_cons_zero, List.set_cons_succ]
    refine handRead 18 (some 157) (.agg #[.int .i64 lo, .int .i64 hi, .slice au hs.length cu]) rfl rfl (by kernel_rfl) (by kernel_rfl) (by kernel_rfl) (fun _ _ _ h => h) (by kernel_rfl) (by assumption) ?_ ?_
    · intro w hSw
      (try dsimp only at hSw)
      go_simp
    simp only [Act.put, List.setIfInBounds_toArray, List.set_cons_zero, List.set_cons_succ]
    refine handCall 17 (some 156) 14 #[.agg #[.int .i64 lo, .int .i64 hi, .slice au hs.length cu]] (by kernel_rfl) rfl rfl (by kernel_rfl) (by simp [go_sem]) ((CGI.out _ (ST3.out.tran SA2.out)).mono ?_)
    rintro e r3 ⟨rfl, hbr3⟩
    have SA3 : Hid (Since t3.heap.size t3 r3) := SA2.out.step hbr3
    clear hHeld hbr3
    refine ⟨_, rfl, (by exact HBX.out _ (ST3.out.tran SA3.out)), fun hHeld => ?_⟩
    simp only [Act.put, List.setIfInBounds_toArray, List.set_cons_zero, List.set_cons_succ]
    refine handCall 19 (some 158) 15 #[.agg #[.int .i64 lo, .int .i64 hi, .slice au hs.length cu]] (by kernel_rfl) rfl rfl (by kernel_rfl) (by simp [go_sem]) ((CGS.out _ (ST3.out.tran SA3.out)).mono ?_)
    rintro e r4 ⟨rfl, hbr4⟩
    have SA4 : Hid (Since t3.heap.size t3 r4) := SA3.out.step hbr4
    clear hHeld hbr4
    refine ⟨_, rfl, (by exact HBX.out _ (ST3.out.tran SA4.out)), fun hHeld => ?_⟩
    simp only [Act.put, List.setIfInBounds_toArray, List.set_cons_zero, List.set_cons_succ]
    refine handRead 20 (some 159) (.bool false) rfl rfl (by kernel_rfl) (by kernel_rfl) (by kernel_rfl) (fun _ _ _ h => h) (by kernel_rfl) (by assumption) ?_ ?_
    · intro w hSw
      (try dsimp only at hSw)
      go_simp
    simp only [Act.put, List.setIfInBounds_toArray, List.set_cons_zero, List.set_cons_succ]
    refine handRead 21 (some 160) (.bool false) rfl rfl (by kernel_rfl) (by kernel_rfl) (by kernel_rfl) (fun _ _ _ h => h) (by kernel_rfl) (by assumption) ?_ ?_
    · intro w hSw
      (try dsimp only at hSw)
      go_simp
    simp only [Act.put, List.setIfInBounds_toArray, List.set_cons_zero, List.set_cons_succ]
    refine wpAnyH_done (by kernel_rfl) ?_ _
    have SR4 : Hid (Since tb.heap.size tb r4) := ST3.out.tran SA4.out
    clear CGI CGS SA0 SA1 SA2 SA3
    cases ok2 with
    | false =>
      have SZ : Hid (Since w.heap.size w r4) := SW1.out.tran SR4.out
      clear SA4 HBX HRI HRO HOV HIN
      go_wp2
      go_ret
      exact ⟨rfl, SZ.out.1⟩
    | true =>
      have hin := HIN.out (by first | rfl | trivial)
      have HI2 : Hid (∀ j (hj : j < over.length), over[j].From ∉ asks ∧ lo ≤ over[j].From ∧ over[j].From ≤ hi) := hin
      have hov : over.length ≤ 4194304 := LOV.out
      clear hin HIN
      rcases HOV.out with hz | ⟨g, rfl, hcm⟩
      · subst hz
        simp only [List.length_nil] at *
        have SZ : Hid (Since w.heap.size w r4) := SW1.out.tran SR4.out
        clear SA4 HBX HRI HRO HOV HI2
        go_wp2
        refine wp_loop_rounds 1 ?_
        rw [rounds_succ]
        go_wp2
        go_ret
        exact ⟨rfl, SZ.out.1⟩
      have HCM : Hid (∀ w', Since t3.heap.size t3 w' → ∀ j (hj : j < over.length), HvAt w' g (j * 2) over[j]) := hcm
      clear hcm HOV
      go_wp2
      go_loopw [164] (fun i wr => ∃ k : Nat, k ≤ over.length ∧ i = .int .i64 k ∧ Hid (Since t3.heap.size t3 wr)) (fun i _ => over.length - (intOf i).toNat)
      case atStart => exact ⟨0, Nat.zero_le _, rfl, SA4.out⟩
      case round =>
        obtain ⟨k, hk, rfl, HK⟩ := hrel
        by_cases hlt : k < over.length
        · obtain ⟨q0, q1⟩ := HCM.out wr HK.out k hlt
          obtain ⟨h3, h4, h5⟩ := HI2.out k hlt
          have hlt' : (k : Int) < (over.length : Int) := by omega
          generalize over[k] = x at *
          obtain ⟨f, q⟩ := x
          simp only at *
          have hd : decide (f ∈ asks) = false := decide_eq_false h3
          have n4 : ¬ (f < lo) := by omega
          have n5 : ¬ (hi < f) := by omega
          have HA : Hid (Since wr.heap.size wr (wr.alloc (.cells #[.int .i64 f, .int .i64 q] 41))) := (Since.start wr).step ((Below.refl _ wr).alloc (Nat.le_refl _) _)
          have SA : Hid (Since t3.heap.size t3 (wr.alloc (.cells #[.int .i64 f, .int .i64 q] 41))) := HK.out.tran HA.out
          have CH : Hid (Calls Try.prog 16 #[.slice xi asks.length yi, .int .i64 f] (wr.alloc (.cells #[.int .i64 f, .int .i64 q] 41)) fun e W' => e = .returned (.bool false) ∧ W' = wr.alloc (.cells #[.int .i64 f, .int .i64 q] 41)) := by
            have := has_any (wr.alloc (.cells #[.int .i64 f, .int .i64 q] 41)) _ asks f (HRI.out _ SA.out).1 LAS.out
            rw [hd] at this
            exact this
          obtain ⟨z0, z1, z2⟩ := HBX.out wr (ST3.out.tran HK.out)
          obtain ⟨y0, y1, y2⟩ := HBX.out (wr.alloc (.cells #[.int .i64 f, .int .i64 q] 41)) (ST3.out.tran SA.out)
          clear HK HA hd h3
          go_wp2_with fail
          refine CH.out.mono ?_
          rintro e r5 ⟨rfl, hr5⟩
          subst hr5
          clear CH
          go_wp2
          go_roundw
          case rel => exact ⟨k + 1, by omega, by go_num, SA.out⟩
          case measure => simp [intOf]; omega
        · have hlt' : ¬ (k : Int) < (over.length : Int) := by omega
          have SZ : Hid (Since w.heap.size w wr) := SW1.out.tran (ST3.out.tran HK.out)
          clear HK HCM HI2 HBX HRI HRO SA4
          go_wp2
          go_ret
          exact ⟨rfl, SZ.out.1⟩
end fnSynced
end Go.Proofs.Ytkpdiojomgiocac
