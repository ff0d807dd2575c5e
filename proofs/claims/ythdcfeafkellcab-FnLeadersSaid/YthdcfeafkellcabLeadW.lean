/-
  The walk of the law FnLeaders.
-/
import Derived.Test.YthdcfeafkellcabAllMath
import Derived.Test.YthdcfeafkellcabLedI
import Derived.Test.YthdcfeafkellcabLedO
import Derived.Test.YthdcfeafkellcabDrawLed2
import Derived.Test.YthdcfeafkellcabDrawBeats
import Derived.Test.YthdcfeafkellcabNum0
import Derived.Deep.CutRange
import Derived.Deep.Cut
namespace Go.Proofs.Ythdcfeafkellcab
open Go.RowKit
set_option linter.unusedVariables false

namespace fnLeaders
set_option maxRecDepth 100000 in
set_option maxHeartbeats 16000000 in
theorem walk (a0 : Option Addr) (len0 cap0 : Nat) (a1 : Option Addr) (len1 cap1 : Nat) (w : World) (hc0 : Code w.heap.size w a0 len0) (hl0 : len0 ≤ 9223372036854775807) (hc1 : Code w.heap.size w a1 len1) (hl1 : len1 ≤ 9223372036854775807) :
    Calls Try.prog 3 #[.slice a0 len0 cap0, .slice a1 len1 cap1] w fun e w' => e = .returned (.bool true) ∧ Below w.heap.size w w' := by
  have HC0 : Hid (Code w.heap.size w a0 len0) := hc0
  have HC1 : Hid (Code w.heap.size w a1 len1) := hc1
  have S0 : Hid (Since w.heap.size w w) := Since.start w
  clear hc0 hc1
  obtain ⟨X, hX⟩ : ∃ X : Int, IntKind.i64.wrap ((len0 : Int) + (len1 : Int)) = X := ⟨_, rfl⟩
  by_cases hbig : 1048576 < X
  · have hbig' : decide ((1048576 : Int) < X) = true := decide_eq_true hbig
    go_enter Try.func3, Try.ntmps3
    go_wp2
    go_ret
    exact ⟨rfl, Below.refl _ _⟩
  have hbig' : decide ((1048576 : Int) < X) = false := decide_eq_false hbig
  go_enter Try.func3, Try.ntmps3
  go_wp2_with fail
  refine (drawLeadersBy_any w.heap.size w _ a0 len0 cap0 HC0.out (by omega) S0.out).mono ?_
  rintro e z1 ⟨vz, l, uz, vs, zss, rfl, hoz, hos, hl11, hz11, hin, hsz⟩
  obtain ⟨az, cz, rfl⟩ := hoz.shape
  obtain ⟨au, cu, rfl⟩ := hos.shape
  have S1 : Hid (Since w.heap.size w z1) := hsz
  have O1 : Hid (OwnBr z1 0 (.slice az l.length cz) l) := hoz.mono (Nat.zero_le _)
  have OS1 : Hid (OwnSS z1 0 (.slice au zss.length cu) vs zss) := hos.mono (Nat.zero_le _)
  have hin2 : ∀ j (hj : j < zss.length), zss[j].length ≤ 1048576 := fun j hj => Nat.le_trans (hin j hj) (by omega)
  obtain ⟨lo, hlo⟩ : ∃ lo, lo = ledOut l zss := ⟨_, rfl⟩
  obtain ⟨ok, hok⟩ : ∃ ok, ok = ledOk l zss := ⟨_, rfl⟩
  obtain ⟨ni, hni⟩ : ∃ ni, ni = leadId l := ⟨_, rfl⟩
  obtain ⟨on, hon⟩ : ∃ on, on = leadOk l := ⟨_, rfl⟩
  obtain ⟨gb, hgb⟩ : ∃ gb, gb = goodBrs l := ⟨_, rfl⟩
  obtain ⟨co, hco⟩ : ∃ co, co = ledOut l (allRows l.length) := ⟨_, rfl⟩
  have CLI : Hid (∀ W, OwnBr W 0 (.slice az l.length cz) l → OwnSS W 0 (.slice au zss.length cu) vs zss → Calls Try.prog 8 #[.slice az l.length cz, .slice au zss.length cu] W fun e W' => ∃ v', e = .returned (.tuple #[v', .bool ok]) ∧ Own W' W.heap.size v' lo ∧ Below W.heap.size W W') := fun W h1 h2 => by rw [hok, hlo]; exact implLeaders_any W 0 0 _ _ vs l zss h1 h2 (by omega) (by omega) hin2
  have CLS : Hid (∀ W, OwnBr W 0 (.slice az l.length cz) l → OwnSS W 0 (.slice au zss.length cu) vs zss → Calls Try.prog 9 #[.slice az l.length cz, .slice au zss.length cu] W fun e W' => ∃ v', e = .returned (.tuple #[v', .bool ok]) ∧ Own W' W.heap.size v' lo ∧ Below W.heap.size W W') := fun W h1 h2 => by rw [hok, hlo]; exact specLeaders_any W 0 0 _ _ vs l zss h1 h2 (by omega) (by omega) hin2
  have CEI : Hid (∀ W, OwnBr W 0 (.slice az l.length cz) l → Calls Try.prog 10 #[.slice az l.length cz] W fun e W' => e = .returned (.tuple #[.int .i64 ni, .bool on]) ∧ Below W.heap.size W W') := fun W h1 => by rw [hni, hon]; exact implLeader_any W 0 _ l h1 (by omega)
  have CES : Hid (∀ W, OwnBr W 0 (.slice az l.length cz) l → Calls Try.prog 11 #[.slice az l.length cz] W fun e W' => e = .returned (.tuple #[.int .i64 ni, .bool on]) ∧ Below W.heap.size W W') := fun W h1 => by rw [hni, hon]; exact specLeader_any W 0 _ l h1 (by omega)
  have CGI : Hid (∀ W, OwnBr W 0 (.slice az l.length cz) l → Calls Try.prog 13 #[.slice az l.length cz] W fun e W' => e = .returned (.bool gb) ∧ Below W.heap.size W W') := fun W h1 => by rw [hgb]; exact implGoodBs_any W _ l h1.reads (by omega)
  have CGS : Hid (∀ W, OwnBr W 0 (.slice az l.length cz) l → Calls Try.prog 14 #[.slice az l.length cz] W fun e W' => e = .returned (.bool gb) ∧ Below W.heap.size W W') := fun W h1 => by rw [hgb]; exact specGoodBs_any W _ l h1.reads (by omega)
  have LL : Hid (lo.length ≤ 4194304) := by show _ ≤ _; rw [hlo]; exact ledOut_len l zss
  have HON : Hid (on = true → 0 < l.length ∧ (co.length = l.length ∧ ∀ k (hk : k < co.length), co[k] = ni) ∧ (∀ (W : World) (u : Value) (us : List Value), OwnBr W 0 (.slice az l.length cz) l → OwnSS W 0 u us (allRows l.length) → Calls Try.prog 8 #[.slice az l.length cz, u] W fun e W' => ∃ v', e = .returned (.tuple #[v', .bool true]) ∧ Own W' W.heap.size v' co ∧ Below W.heap.size W W') ∧ (∀ tp ∈ l, tp.id = ni → ∀ x ∈ l, x.up = true → x.id ≠ ni → ∀ W, Calls Try.prog 15 #[.agg #[.int .i64 x.id, .int .i64 x.rank, .bool x.up], .agg #[.int .i64 tp.id, .int .i64 tp.rank, .bool tp.up]] W fun e W' => e = .returned (.tuple #[.bool false, .bool true]) ∧ Below W.heap.size W W') ∧ ¬ (∀ j (hj : j < l.length), l[j].id ≠ ni)) := fun h => by
    rw [hon] at h
    obtain ⟨hg, t, ht, hti, hb⟩ := lead_top l h
    obtain ⟨k1, k2, k3⟩ := all_led l hg
    rw [← hco] at k2 k3
    rw [← hni] at k3 hti hb
    refine ⟨List.length_pos_iff.2 (List.ne_nil_of_mem ht), ⟨k2, k3⟩, fun W u us h1 h2 => ?_, fun tp htp hid x hx hu hne W => ?_, fun hno => ?_⟩
    · have := implLeaders_any W 0 0 _ u us l (allRows l.length) h1 h2 (by omega) (by simp [allRows]; omega) (fun j hj => by simp [allRows, upTo_len]; omega)
      rw [k1, ← hco] at this
      exact this
    · obtain rfl : tp = t := good_inj l hg tp htp t ht (hid.trans hti.symm)
      obtain ⟨m1, m2⟩ := hb x hx hu hne
      have := implBeats_any W x tp
      rw [m1, m2] at this
      exact this
    · obtain ⟨j, hj, rfl⟩ := List.getElem_of_mem ht
      exact hno j hj hti
  clear hoz hos hsz hlo hok hni hon hgb hco hin hin2 S0
  go_wp2_with fail
  refine (CLI.out _ O1.out OS1.out).mono ?_
  rintro e z2 ⟨v2, rfl, ho2, hb2⟩
  obtain ⟨a2, c2, rfl⟩ := ho2.shape
  have S2 : Hid (Since w.heap.size w z2) := S1.out.step hb2
  have O2 : Hid (OwnBr z2 0 (.slice az l.length cz) l) := O1.out.below hb2
  have OS2 : Hid (OwnSS z2 0 (.slice au zss.length cu) vs zss) := OS1.out.below hb2
  have P2 : Hid (Own z2 0 (.slice a2 lo.length c2) lo) := ho2.mono (Nat.zero_le _)
  clear ho2 hb2 S1 O1 OS1
  go_wp2_with fail
  refine (CLS.out _ O2.out OS2.out).mono ?_
  rintro e z3 ⟨v3, rfl, ho3, hb3⟩
  obtain ⟨a3, c3, rfl⟩ := ho3.shape
  have S3 : Hid (Since w.heap.size w z3) := S2.out.step hb3
  have O3 : Hid (OwnBr z3 0 (.slice az l.length cz) l) := O2.out.below hb3
  have P3 : Hid (Own z3 0 (.slice a2 lo.length c2) lo) := P2.out.below hb3
  have Q3 : Hid (Own z3 0 (.slice a3 lo.length c3) lo) := ho3.mono (Nat.zero_le _)
  clear ho3 hb3 S2 O2 OS2 P2 CLI CLS
  go_wp2_with fail
  refine (CEI.out _ O3.out).mono ?_
  rintro e z4 ⟨rfl, hb4⟩
  have S4 : Hid (Since w.heap.size w z4) := S3.out.step hb4
  have O4 : Hid (OwnBr z4 0 (.slice az l.length cz) l) := O3.out.below hb4
  have P4 : Hid (Own z4 0 (.slice a2 lo.length c2) lo) := P3.out.below hb4
  have Q4 : Hid (Own z4 0 (.slice a3 lo.length c3) lo) := Q3.out.below hb4
  clear hb4 S3 O3 P3 Q3
  go_wp2_with fail
  refine (CES.out _ O4.out).mono ?_
  rintro e z5 ⟨rfl, hb5⟩
  have S5 : Hid (Since w.heap.size w z5) := S4.out.step hb5
  have O5 : Hid (OwnBr z5 0 (.slice az l.length cz) l) := O4.out.below hb5
  have P5 : Hid (Own z5 0 (.slice a2 lo.length c2) lo) := P4.out.below hb5
  have Q5 : Hid (Own z5 0 (.slice a3 lo.length c3) lo) := Q4.out.below hb5
  clear hb5 S4 O4 P4 Q4
  go_wp2_with fail
  refine (sameInts_same _ _ _ lo P5.out.reads Q5.out.reads LL.out).mono ?_
  rintro e z6 ⟨rfl, hb6⟩
  have S6 : Hid (Since w.heap.size w z6) := S5.out.step hb6
  have O6 : Hid (OwnBr z6 0 (.slice az l.length cz) l) := O5.out.below hb6
  clear hb6 S5 O5 P5 Q5
  go_wp2_with fail
  refine (CGI.out _ O6.out).mono ?_
  rintro e z7 ⟨rfl, hb7⟩
  have S7 : Hid (Since w.heap.size w z7) := S6.out.step hb7
  have O7 : Hid (OwnBr z7 0 (.slice az l.length cz) l) := O6.out.below hb7
  clear hb7 S6 O6
  go_wp2_with fail
  refine (CGS.out _ O7.out).mono ?_
  rintro e z8 ⟨rfl, hb8⟩
  have S8 : Hid (Since w.heap.size w z8) := S7.out.step hb8
  have O8 : Hid (OwnBr z8 0 (.slice az l.length cz) l) := O7.out.below hb8
  clear hb8 S7 O7 CEI CES CGI CGS LL
  go_upto_if 94 with fail
  go_cut [15, 16, 17, 18, 19, 20, 22, 23, 24, 25, 26] from 94 to 171 (fun s15 s16 s17 s18 s19 s20 s22 s23 s24 s25 s26 wc => Hid (Since w.heap.size w wc))
  case first =>
   cases on with
   | false =>
    go_wp2
    go_meet
    exact S8
   | true =>
    obtain ⟨hl1, hc1, ca1, ct1, cx1⟩ := HON.out rfl
    have HCO : Hid (co.length = l.length ∧ ∀ k (hk : k < co.length), co[k] = ni) := hc1
    have CA : Hid (∀ (W : World) (u : Value) (us : List Value), OwnBr W 0 (.slice az l.length cz) l → OwnSS W 0 u us (allRows l.length) → Calls Try.prog 8 #[.slice az l.length cz, u] W fun e W' => ∃ v', e = .returned (.tuple #[v', .bool true]) ∧ Own W' W.heap.size v' co ∧ Below W.heap.size W W') := ca1
    have HTOP : Hid (∀ tp ∈ l, tp.id = ni → ∀ x ∈ l, x.up = true → x.id ≠ ni → ∀ W, Calls Try.prog 15 #[.agg #[.int .i64 x.id, .int .i64 x.rank, .bool x.up], .agg #[.int .i64 tp.id, .int .i64 tp.rank, .bool tp.up]] W fun e W' => e = .returned (.tuple #[.bool false, .bool true]) ∧ Below W.heap.size W W') := ct1
    have HEX : Hid (¬ (∀ j (hj : j < l.length), l[j].id ≠ ni)) := cx1
    clear HON hc1 ca1 ct1 cx1
    go_wp2
    go_loopw [15, 97] (fun v i wr => ∃ k : Nat, k ≤ l.length ∧ i = .int .i64 k ∧ Hid (Own wr z8.heap.size v (upTo k) ∧ Since z8.heap.size z8 wr)) (fun _ i _ => l.length - (intOf i).toNat)
    case atStart => exact ⟨0, Nat.zero_le _, rfl, Own.nil _ _, Since.start _⟩
    case round =>
      obtain ⟨k, hk, rfl, HK⟩ := hrel
      obtain ⟨aa, ca, rfl⟩ : ∃ a c, _ = Value.slice a k c := by have := rowShape HK.out.1; rw [upTo_len] at this; exact this
      by_cases hlt : k < l.length
      · have hlt' : (k : Int) < (l.length : Int) := by omega
        have HAP : Hid (∀ ty, ∃ v' w', (Builtin.append_ #[27, 27] ty #[.slice aa k ca, .slice (some ⟨wr.heap.size, 0, none⟩) 1 1]).run Try.prog (wr.alloc (.cells #[.int .i64 (k : Int)] 3)) = .ok v' w' ∧ Grown (wr.alloc (.cells #[.int .i64 (k : Int)] 3)) z8.heap.size 3 1 (.slice aa k ca) (upTo k ++ [(k : Int)]).length ((upTo k ++ [(k : Int)]).map (Value.int .i64)) v' w') := fun ty =>
          run_app1 _ _ _ (upTo k) (HK.out.1.below ((Below.refl _ _).alloc (Nat.le_refl _) _)) wr.heap.size 1 (k : Int) (new_cell _ _ _) (by rw [upTo_len]; omega) (by have := HK.out.2.2; simp; omega) ty
        have HS1 : Hid (Since z8.heap.size z8 (wr.alloc (.cells #[.int .i64 (k : Int)] 3))) := HK.out.2.step ((Below.refl _ _).alloc (Nat.le_refl _) _)
        clear HK
        go_wp2_with (at_builtin; refine list_app (by rfl) (.tmp 100) (.tmp 102) 27 (by rfl) (.slice aa k ca) (.slice (some ⟨wr.heap.size, 0, none⟩) 1 1) (by rfl) (by rfl) _ HAP.out ?_; intro v7 w7 hg7; have HF : Hid (Own w7 z8.heap.size v7 (upTo (k + 1)) ∧ Since z8.heap.size z8 w7) := ⟨by rw [upTo_next]; exact hg7.own, HS1.out.1.trans hg7.below, Nat.le_trans HS1.out.2 hg7.size⟩; clear hg7)
        go_roundw
        case rel => exact ⟨k + 1, by omega, by go_num, HF.out⟩
        case measure => simp [intOf]; omega
      · have hlt' : ¬ (k : Int) < (l.length : Int) := by omega
        obtain rfl : k = l.length := by omega
        have HAL : Hid (Own wr z8.heap.size (.slice aa l.length ca) (upTo l.length)) := HK.out.1
        have HSA : Hid (Since z8.heap.size z8 wr) := HK.out.2
        clear HK
        go_wp2
        clear hlt' hk
        generalize hwA : wr = wA at *
        clear hwA
        go_loopw [16, 107] (fun v i wr => ∃ (k : Nat) (us : List Value), k ≤ l.length ∧ i = .int .i64 k ∧ Hid (OwnSS wr wA.heap.size v us (List.replicate k (upTo l.length)) ∧ Since wA.heap.size wA wr)) (fun _ i _ => l.length - (intOf i).toNat)
        case atStart => exact ⟨0, [], Nat.zero_le _, rfl, OwnSS.nil _ _, Since.start _⟩
        case round =>
          obtain ⟨k, us, hk, rfl, HK⟩ := hrel
          obtain ⟨ab, cb, rfl⟩ : ∃ a c, _ = Value.slice a k c := by have := HK.out.1.shape; rw [List.length_replicate] at this; exact this
          have husl : us.length = k := by have := HK.out.1.len; rw [List.length_replicate] at this; exact this
          by_cases hlt : k < l.length
          · have hlt' : (k : Int) < (l.length : Int) := by omega
            have HM : Hid ((wr.alloc (.cells #[] 3)).ownsRow wr.heap.size 3 1 (.slice (some ⟨wr.heap.size, 0, none⟩) 0 0) 0 []) := World.ownsRow_made wr #[] 0 (Nat.le_refl _) (by decide) rfl
            have HSS : Hid (OwnSS wr wA.heap.size (.slice ab k cb) us (List.replicate k (upTo l.length))) := HK.out.1
            have HS0 : Hid (Since wA.heap.size wA wr) := HK.out.2
            have HAW : Hid (Own wr z8.heap.size (.slice aa l.length ca) (upTo l.length)) := HAL.out.below HS0.out.1
            have HAP : Hid (∀ ty, ∃ v' w', (Builtin.append_ #[27, 27] ty #[.slice (some ⟨wr.heap.size, 0, none⟩) 0 0, .slice aa l.length ca]).run Try.prog (wr.alloc (.cells #[] 3)) = .ok v' w' ∧ Grown (wr.alloc (.cells #[] 3)) wr.heap.size 3 1 (.slice (some ⟨wr.heap.size, 0, none⟩) 0 0) (upTo l.length).length ((upTo l.length).map (Value.int .i64)) v' w') := fun ty => by
              have := run_appI (wr.alloc (.cells #[] 3)) wr.heap.size (.slice (some ⟨wr.heap.size, 0, none⟩) 0 0) [] HM.out (.slice aa l.length ca) (upTo l.length) (Src.row (rowBelow HAW.out ((Below.refl _ _).alloc (Nat.le_refl _) _))) (by rw [upTo_len]; simp; omega) (by simp) ty
              simpa using this
            clear HK
            go_wp2_with (first
              | (at_builtin; refine list_app (by rfl) (.tmp 110) (.tmp 111) 27 (by rfl) (.slice (some ⟨wr.heap.size, 0, none⟩) 0 0) (.slice aa l.length ca) (by rfl) (by rfl) _ HAP.out ?_; intro v5 w5 hg5
                 obtain ⟨a5, c5, rfl⟩ : ∃ a c, v5 = Value.slice a l.length c := (by have := rowShape hg5.own; rw [upTo_len] at this; exact this)
                 have B5 : Hid (Below wr.heap.size wr w5) := (Below.trans ((Below.refl _ _).alloc (Nat.le_refl _) _) hg5.below)
                 have O5 : Hid (Own w5 wr.heap.size (.slice a5 l.length c5) (upTo l.length)) := hg5.own
                 have SS5 : Hid (OwnSS w5 wA.heap.size (.slice ab k cb) us (List.replicate k (upTo l.length))) := HSS.out.below B5.out
                 have hw5 : wA.heap.size ≤ w5.heap.size := (Nat.le_trans HS0.out.2 B5.out.size)
                 have HAP2 : Hid (∀ ty, ∃ v' w', (Builtin.append_ #[24, 24] ty #[.slice ab k cb, .slice (some ⟨w5.heap.size, 0, none⟩) 1 1]).run Try.prog (w5.alloc (.cells #[.slice a5 l.length c5] 27)) = .ok v' w' ∧ Grown (w5.alloc (.cells #[.slice a5 l.length c5] 27)) wA.heap.size 27 1 (.slice ab k cb) (us ++ [Value.slice a5 l.length c5]).length (us ++ [Value.slice a5 l.length c5]) v' w') := (fun ty => run_appSS w5 wA.heap.size (.slice ab k cb) us a5 l.length c5 SS5.out.row (by omega) hw5 ty)
                 clear hg5)
              | (at_builtin; refine list_app (by rfl) (.tmp 109) (.tmp 113) 24 (by rfl) (.slice ab k cb) (.slice (some ⟨w5.heap.size, 0, none⟩) 1 1) (by rfl) (by rfl) _ HAP2.out ?_; intro v6 w6 hg6
                 have HF : Hid (OwnSS w6 wA.heap.size v6 (us ++ [Value.slice a5 l.length c5]) (List.replicate (k + 1) (upTo l.length)) ∧ Since wA.heap.size wA w6) := ⟨(by rw [List.replicate_succ']; exact SS5.out.add (O5.out.mono HS0.out.2) (fun j hj b hb hb2 => (by have h1 := (HSS.out.inLt b ⟨j, hj, hb⟩).2; have h2 := (World.ownsRow.lt O5.out b hb2).1; omega)) hg6), (HS0.out.1.trans (B5.out.mono HS0.out.2)).trans (((Below.refl _ w5).alloc hw5 _).trans hg6.below), Nat.le_trans hw5 (Nat.le_trans (by simp) hg6.size)⟩
                 clear hg6))
            go_roundw
            case rel => exact ⟨k + 1, _, by omega, by go_num, HF.out⟩
            case measure => simp [intOf]; omega
          · have hlt' : ¬ (k : Int) < (l.length : Int) := by omega
            obtain rfl : k = l.length := by omega
            have HRW : Hid (OwnSS wr 0 (.slice ab l.length cb) us (allRows l.length)) := HK.out.1.mono (Nat.zero_le _)
            have HSB : Hid (Since z8.heap.size z8 wr) := HSA.out.tran HK.out.2
            clear HK HAL HSA
            generalize hwB : wr = wB at *
            clear hwB
            have OB : Hid (OwnBr wB 0 (.slice az l.length cz) l) := O8.out.below HSB.out.1
            go_wp2_with fail
            refine (CA.out _ _ _ OB.out HRW.out).mono ?_
            rintro e w7 ⟨v7, rfl, ho7, hb7⟩
            obtain ⟨ac, cc, rfl⟩ : ∃ a c, v7 = Value.slice a l.length c := by have := rowShape ho7; rw [HCO.out.1] at this; exact this
            have HS7 : Hid (Since z8.heap.size z8 w7) := HSB.out.step hb7
            have HCC : Hid (∀ W1, Since w7.heap.size w7 W1 → ∀ j, j < l.length → ∃ g o, ac = some ⟨g, o, none⟩ ∧ W1.cell? ⟨g, o + j, none⟩ = some (.int .i64 ni)) := fun W1 hs j hj => by
              have hr : Reads W1 (.slice ac l.length cc) co := Reads.below (by have := ho7.reads; exact this) hs.1
              obtain ⟨a', c', e', hcc⟩ := hr
              have ea : ac = a' := by simp at e'; exact e'.1
              have hjc : j < co.length := by rw [HCO.out.1]; exact hj
              rcases hcc with e | ⟨g, o, ha, hg, hc⟩
              · rw [e] at hjc; simp at hjc
              · have := hc j hjc
                rw [HCO.out.2 j hjc] at this
                exact ⟨g, o, ea.trans ha, this⟩
            have HLB : Hid (∀ W1, Since w7.heap.size w7 W1 → ∀ j (hj : j < l.length), ∃ g o, az = some ⟨g, o, none⟩ ∧ BrAt W1 g (o + j * 3) l[j]) := fun W1 hs j hj => by
              obtain ⟨a', c', e', hcc⟩ := (OB.out.below (hb7.trans (hs.1.mono hb7.size))).reads
              have ea : az = a' := by simp at e'; exact e'.1
              rcases hcc with e | ⟨g, o, ha, hg, hc⟩
              · rw [e] at hj; simp at hj
              · exact ⟨g, o, ea.trans ha, hc j hj⟩
            clear hb7 ho7 HRW OB HSB CA
            obtain ⟨g0, p0, rfl, f0, f1, f2⟩ := HLB.out w7 (Since.start _) 0 hl1
            have h0l : (0 : Int) < (l.length : Int) := by omega
            rw [Nat.zero_mul, Nat.add_zero] at f0 f1 f2
            obtain ⟨x0, hx0⟩ : ∃ x, x = l[0] := ⟨_, rfl⟩
            have hm0 : x0 ∈ l := by rw [hx0]; exact List.getElem_mem hl1
            rw [← hx0] at f0 f1 f2
            obtain ⟨bt, hbt⟩ : ∃ b, b = w7.heap.size := ⟨_, rfl⟩
            have HT0 : Hid (Bx3 (w7.alloc (.cells #[.int .i64 x0.id, .int .i64 x0.rank, .bool x0.up] 35)) bt (.int .i64 x0.id) (.int .i64 x0.rank) (.bool x0.up)) := by rw [hbt]; exact Bx3.new _ _ _ _ _
            have HST : Hid (Since w7.heap.size w7 (w7.alloc (.cells #[.int .i64 x0.id, .int .i64 x0.rank, .bool x0.up] 35))) := (Since.start _).step ((Below.refl _ _).alloc (Nat.le_refl _) _)
            have HBT : Hid (bt = w7.heap.size) := hbt
            have HM0 : Hid (x0 ∈ l) := hm0
            clear hx0 hm0
            go_wp2
            rw [← hbt]
            clear f0 f1 f2 hbt
            go_loopw [129] (fun i wr => ∃ (k : Nat) (tp : BrD), k ≤ l.length ∧ i = .int .i64 k ∧ Hid (Bx3 wr bt (.int .i64 tp.id) (.int .i64 tp.rank) (.bool tp.up) ∧ tp ∈ l ∧ (tp.id = ni ∨ ∀ j (hj : j < l.length), j < k → l[j].id ≠ ni) ∧ Since w7.heap.size w7 wr)) (fun i _ => l.length - (intOf i).toNat)
            case atStart => exact ⟨0, x0, Nat.zero_le _, rfl, HT0.out, HM0.out, .inr (fun j _ hj => absurd hj (Nat.not_lt_zero _)), HST.out⟩
            case round =>
              clear HT0 HM0 HST
              obtain ⟨k, tp, hk, rfl, HK⟩ := hrel
              by_cases hlt : k < l.length
              · have hlt' : (k : Int) < (l.length : Int) := by omega
                obtain ⟨g1, p1, eg, q0, q1, q2⟩ := HLB.out wr HK.out.2.2.2 k hlt
                simp only [Option.some.injEq, Addr.mk.injEq, and_true] at eg
                obtain ⟨rfl, rfl⟩ := eg
                have HXM : Hid (l[k] ∈ l) := List.getElem_mem hlt
                have HNX : Hid (l[k].id ≠ ni → (∀ j (hj : j < l.length), j < k → l[j].id ≠ ni) → ∀ j (hj : j < l.length), j < k + 1 → l[j].id ≠ ni) := fun h1 h2 j hj hj1 => by
                  by_cases e : j = k
                  · subst e; exact h1
                  · exact h2 j hj (by omega)
                generalize l[k] = x at *
                have HTB : Hid (Bx3 wr bt (.int .i64 tp.id) (.int .i64 tp.rank) (.bool tp.up)) := HK.out.1
                have HSW : Hid (Since w7.heap.size w7 wr) := HK.out.2.2.2
                have HS1 : Hid (Since w7.heap.size w7 (wr.alloc (.cells #[.int .i64 x.id, .int .i64 x.rank, .bool x.up] 35))) := HSW.out.step ((Below.refl _ _).alloc (Nat.le_refl _) _)
                have HT1 : Hid (Bx3 (wr.alloc (.cells #[.int .i64 x.id, .int .i64 x.rank, .bool x.up] 35)) bt (.int .i64 tp.id) (.int .i64 tp.rank) (.bool tp.up)) := HTB.out.below ((Below.refl _ _).alloc (Nat.le_refl _) _)
                have ltb := HTB.out.lt
                by_cases he : x.id = ni
                · have hq : (x.id == ni) = true := by simp [he]
                  have HID : Hid (x.id = ni) := he
                  obtain ⟨t0, t1, t2⟩ := HTB.out.cells
                  have ft0 := HTB.out.fz 0
                  have ft1 := HTB.out.fz 1
                  have ft2 := HTB.out.fz 2
                  have hwb : w7.heap.size ≤ bt := Nat.le_of_eq HBT.out.symm
                  have HT2 : Hid (Bx3 ((((wr.setCell ⟨bt, 0, none⟩ (.int .i64 x.id)).setCell ⟨bt, 1, none⟩ (.int .i64 x.rank)).setCell ⟨bt, 2, none⟩ (.bool x.up)).alloc (.cells #[.int .i64 x.id, .int .i64 x.rank, .bool x.up] 35)) bt (.int .i64 x.id) (.int .i64 x.rank) (.bool x.up)) := (((HTB.out.put0 _).put1 _).put2 _).below ((Below.refl _ _).alloc (Nat.le_refl _) _)
                  have HS2 : Hid (Since w7.heap.size w7 ((((wr.setCell ⟨bt, 0, none⟩ (.int .i64 x.id)).setCell ⟨bt, 1, none⟩ (.int .i64 x.rank)).setCell ⟨bt, 2, none⟩ (.bool x.up)).alloc (.cells #[.int .i64 x.id, .int .i64 x.rank, .bool x.up] 35))) := (((HSW.out.sets2 hwb _ _).sets2 hwb _ _).sets2 hwb _ _).step ((Below.refl _ _).alloc (Nat.le_refl _) _)
                  clear he HK HNX HTB HT1 HS1 HSW hwb
                  go_wp2
                  go_roundw
                  case rel => exact ⟨k + 1, x, by omega, by go_num, HT2.out, HXM.out, .inl HID.out, HS2.out⟩
                  case measure => simp [intOf]; omega
                · have hq : (x.id == ni) = false := by simp [he]
                  have HOR : Hid (tp ∈ l ∧ (tp.id = ni ∨ ∀ j (hj : j < l.length), j < k + 1 → l[j].id ≠ ni)) := ⟨HK.out.2.1, HK.out.2.2.1.imp id (HNX.out he)⟩
                  clear he HK HNX HTB HSW
                  go_wp2
                  go_roundw
                  case rel => exact ⟨k + 1, tp, by omega, by go_num, HT1.out, HOR.out.1, HOR.out.2, HS1.out⟩
                  case measure => simp [intOf]; omega
              · have hlt' : ¬ (k : Int) < (l.length : Int) := by omega
                have HTP : Hid (∀ x ∈ l, x.up = true → x.id ≠ ni → ∀ W, Calls Try.prog 15 #[.agg #[.int .i64 x.id, .int .i64 x.rank, .bool x.up], .agg #[.int .i64 tp.id, .int .i64 tp.rank, .bool tp.up]] W fun e W' => e = .returned (.tuple #[.bool false, .bool true]) ∧ Below W.heap.size W W') := by
                  obtain ⟨-, hmem, hor, -⟩ := HK.out
                  refine HTOP.out tp hmem ?_
                  rcases hor with h | h
                  · exact h
                  · exact (HEX.out fun j hj => h j hj (by omega)).elim
                have HTB : Hid (Bx3 wr bt (.int .i64 tp.id) (.int .i64 tp.rank) (.bool tp.up)) := HK.out.1
                have HSW : Hid (Since w7.heap.size w7 wr) := HK.out.2.2.2
                clear HK HTOP HEX
                generalize hwC : wr = wC at *
                clear hwC
                go_wp2
                clear hlt' hk
                go_loopw [141] (fun i wr => ∃ k : Nat, k ≤ l.length ∧ i = .int .i64 k ∧ Hid (Since wC.heap.size wC wr)) (fun i _ => l.length - (intOf i).toNat)
                case atStart => exact ⟨0, Nat.zero_le _, rfl, Since.start _⟩
                case round =>
                  obtain ⟨k, hk, rfl, HK⟩ := hrel
                  by_cases hlt : k < l.length
                  · have hlt' : (k : Int) < (l.length : Int) := by omega
                    obtain ⟨g1, p1, eg, q0, q1, q2⟩ := HLB.out wr (HSW.out.tran HK.out) k hlt
                    simp only [Option.some.injEq, Addr.mk.injEq, and_true] at eg
                    obtain ⟨rfl, rfl⟩ := eg
                    obtain ⟨gc, oc, rfl, qc⟩ := HCC.out wr (HSW.out.tran HK.out) k hlt
                    have ltc : gc < wr.heap.size := by have := World.block_lt_of_cell? _ _ qc; simpa using this
                    have HXM : Hid (l[k] ∈ l) := List.getElem_mem hlt
                    generalize l[k] = x at *
                    have HTW : Hid (Bx3 wr bt (.int .i64 tp.id) (.int .i64 tp.rank) (.bool tp.up)) := HTB.out.below HK.out.1
                    have ltb := HTW.out.lt
                    obtain ⟨t0, t1, t2⟩ := HTW.out.cells
                    have HS1 : Hid (Since wC.heap.size wC (wr.alloc (.cells #[.int .i64 x.id, .int .i64 x.rank, .bool x.up] 35))) := HK.out.step ((Below.refl _ _).alloc (Nat.le_refl _) _)
                    clear HK
                    have hxu : x.up = true ∨ x.up = false := by cases x.up <;> simp
                    rcases hxu with hu | hu
                    · by_cases he : x.id = ni
                      · have hq : (x.id != ni) = false := by simp [he]
                        have hq3 : (x.id == ni) = true := by simp [he]
                        rw [hu] at q2 HS1
                        clear he hu
                        go_wp2
                        go_roundw
                        case rel => exact ⟨k + 1, by omega, by go_num, HS1⟩
                        case measure => simp [intOf]; omega
                      · have hq : (x.id != ni) = true := by simp [he]
                        have hq3 : (x.id == ni) = false := by simp [he]
                        have CBT : Hid (∀ W, Calls Try.prog 15 #[.agg #[.int .i64 x.id, .int .i64 x.rank, .bool true], .agg #[.int .i64 tp.id, .int .i64 tp.rank, .bool tp.up]] W fun e W' => e = .returned (.tuple #[.bool false, .bool true]) ∧ Below W.heap.size W W') := fun W => by
                          have := HTP.out x HXM.out hu he W
                          rw [hu] at this
                          exact this
                        rw [hu] at q2 HS1
                        clear he hu
                        go_wp2_with fail
                        refine (CBT.out _).mono ?_
                        rintro e w9 ⟨rfl, hb9⟩
                        have HS2 : Hid (Since wC.heap.size wC w9) := HS1.out.step hb9
                        clear hb9
                        go_wp2
                        go_roundw
                        case rel => exact ⟨k + 1, by omega, by go_num, HS2⟩
                        case measure => simp [intOf]; omega
                    · rw [hu] at q2 HS1
                      clear hu
                      go_wp2
                      go_roundw
                      case rel => exact ⟨k + 1, by omega, by go_num, HS1⟩
                      case measure => simp [intOf]; omega
                  · have hlt' : ¬ (k : Int) < (l.length : Int) := by omega
                    have HSE : Hid (Since w.heap.size w wr) := S8.out.tran ((HS7.out.tran HSW.out).tran HK.out)
                    clear HK HTB HSW HTP HCC HLB
                    go_wp2
                    go_meet
                    exact HSE
  case rest =>
    have SR : Hid (Since w.heap.size w wc) := hcut
    clear hcut HON S8 O8
    generalize hwz9 : wc = z9 at *
    clear hwz9
    go_wp2_with fail
    refine (drawBeats_any w.heap.size w _ a1 len1 cap1 HC1.out (by omega) SR.out).mono ?_
    rintro e q1 ⟨x, y, rfl, hsq⟩
    obtain ⟨ob, hob⟩ : ∃ ob, ob = outBeat x y := ⟨_, rfl⟩
    obtain ⟨mb, hmb⟩ : ∃ mb, mb = mayBeat x y := ⟨_, rfl⟩
    have CBI : Hid (∀ W, Calls Try.prog 15 #[.agg #[.int .i64 x.id, .int .i64 x.rank, .bool x.up], .agg #[.int .i64 y.id, .int .i64 y.rank, .bool y.up]] W fun e W' => e = .returned (.tuple #[.bool ob, .bool mb]) ∧ Below W.heap.size W W') := fun W => by rw [hob, hmb]; exact implBeats_any W x y
    have CBS : Hid (∀ W, Calls Try.prog 17 #[.agg #[.int .i64 x.id, .int .i64 x.rank, .bool x.up], .agg #[.int .i64 y.id, .int .i64 y.rank, .bool y.up]] W fun e W' => e = .returned (.tuple #[.bool ob, .bool mb]) ∧ Below W.heap.size W W') := fun W => by rw [hob, hmb]; exact specBeats_any W x y
    have CB2 : Hid (mb = true → ∀ W, Calls Try.prog 15 #[.agg #[.int .i64 y.id, .int .i64 y.rank, .bool y.up], .agg #[.int .i64 x.id, .int .i64 x.rank, .bool x.up]] W fun e W' => e = .returned (.tuple #[.bool (!ob), .bool true]) ∧ Below W.heap.size W W') := fun h W => by
      rw [hmb] at h
      obtain ⟨k1, k2⟩ := beat_one x y h
      have := implBeats_any W y x
      rw [k1, k2, ← hob] at this
      exact this
    obtain ⟨m1, hm1⟩ : ∃ m, m = q1.heap.size := ⟨_, rfl⟩
    obtain ⟨m2, hm2⟩ : ∃ m, m = q1.heap.size + 1 := ⟨_, rfl⟩
    have SQ1 : Hid (Since w.heap.size w ((q1.alloc (.cells #[.int .i64 x.id, .int .i64 x.rank, .bool x.up] 35)).alloc (.cells #[.int .i64 y.id, .int .i64 y.rank, .bool y.up] 35))) := Since.step hsq (two_below _ _ _)
    have HX1 : Hid (Bx3 ((q1.alloc (.cells #[.int .i64 x.id, .int .i64 x.rank, .bool x.up] 35)).alloc (.cells #[.int .i64 y.id, .int .i64 y.rank, .bool y.up] 35)) m1 (.int .i64 x.id) (.int .i64 x.rank) (.bool x.up)) := by rw [hm1]; exact (Bx3.new _ _ _ _ _).below ((Below.refl _ _).alloc (Nat.le_refl _) _)
    have HY1 : Hid (Bx3 ((q1.alloc (.cells #[.int .i64 x.id, .int .i64 x.rank, .bool x.up] 35)).alloc (.cells #[.int .i64 y.id, .int .i64 y.rank, .bool y.up] 35)) m2 (.int .i64 y.id) (.int .i64 y.rank) (.bool y.up)) := by
      have := Bx3.new (q1.alloc (.cells #[.int .i64 x.id, .int .i64 x.rank, .bool x.up] 35)) (.int .i64 y.id) (.int .i64 y.rank) (.bool y.up) 35
      rw [hm2]
      exact (show Bx3 _ _ _ _ _ by simpa using this)
    clear hsq hob hmb
    go_wp2_with fail
    refine (CBI.out _).mono ?_
    rintro e q2 ⟨rfl, hb2⟩
    have SQ2 : Hid (Since w.heap.size w q2) := SQ1.out.step hb2
    have HX2 : Hid (Bx3 q2 m1 (.int .i64 x.id) (.int .i64 x.rank) (.bool x.up)) := HX1.out.below hb2
    have HY2 : Hid (Bx3 q2 m2 (.int .i64 y.id) (.int .i64 y.rank) (.bool y.up)) := HY1.out.below hb2
    clear hb2 SQ1 HX1 HY1
    rw [← hm2, ← hm1]
    clear hm1 hm2
    obtain ⟨c0, c1, c2⟩ := HX2.out.cells
    obtain ⟨d0, d1, d2⟩ := HY2.out.cells
    go_wp2_with fail
    refine (CBS.out _).mono ?_
    rintro e q3 ⟨rfl, hb3⟩
    have SQ3 : Hid (Since w.heap.size w q3) := SQ2.out.step hb3
    have HX3 : Hid (Bx3 q3 m1 (.int .i64 x.id) (.int .i64 x.rank) (.bool x.up)) := HX2.out.below hb3
    have HY3 : Hid (Bx3 q3 m2 (.int .i64 y.id) (.int .i64 y.rank) (.bool y.up)) := HY2.out.below hb3
    clear hb3 SQ2 HX2 HY2
    clear c0 c1 c2 d0 d1 d2
    obtain ⟨c0, c1, c2⟩ := HX3.out.cells
    obtain ⟨d0, d1, d2⟩ := HY3.out.cells
    cases mb with
    | false =>
      clear CB2
      go_wp2
      go_ret
      exact ⟨rfl, SQ3.out.1⟩
    | true =>
      have CB3 : Hid (∀ W, Calls Try.prog 15 #[.agg #[.int .i64 y.id, .int .i64 y.rank, .bool y.up], .agg #[.int .i64 x.id, .int .i64 x.rank, .bool x.up]] W fun e W' => e = .returned (.tuple #[.bool (!ob), .bool true]) ∧ Below W.heap.size W W') := CB2.out rfl
      clear CB2
      go_wp2_with fail
      refine (CB3.out _).mono ?_
      rintro e q4 ⟨rfl, hb4⟩
      have SQ4 : Hid (Since w.heap.size w q4) := SQ3.out.step hb4
      clear hb4
      cases ob <;>
        (go_wp2
         go_ret
         exact ⟨rfl, SQ4.out.1⟩)
end fnLeaders
end Go.Proofs.Ythdcfeafkellcab
