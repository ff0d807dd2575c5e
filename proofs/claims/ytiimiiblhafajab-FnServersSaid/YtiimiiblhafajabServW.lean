/-
  The law FnServers: the walk.
-/
import Derived.Test.YtiimiiblhafajabServMath
import Derived.Test.YtiimiiblhafajabDrawBr2
import Derived.Test.YtiimiiblhafajabMovedS
import Derived.Test.YtiimiiblhafajabSetRankS
import Derived.Test.YtiimiiblhafajabNum0
import Derived.Deep.CutRange
namespace Go.Proofs.Ytiimiiblhafajab
open Go.RowKit
set_option linter.unusedVariables false

theorem upIn_next (r : List BrD) (b : Int) (k : Nat) (h : k < r.length) : upIn (r.take (k + 1)) b = (upIn (r.take k) b || (decide (r[k].id = b) && r[k].up)) := by
  unfold upIn
  rw [List.take_succ_eq_append_getElem h, List.any_append]
  simp
theorem rivalIn_next (r : List BrD) (b : Int) (k : Nat) (h : k < r.length) : rivalIn (r.take (k + 1)) b = (rivalIn (r.take k) b || ((decide (r[k].id ≠ b) && r[k].up) && decide (r[k].rank = 127))) := by
  unfold rivalIn
  rw [List.take_succ_eq_append_getElem h, List.any_append]
  simp
theorem rankOut_small (l : List BrD) (id rank : Int) : (rankOut l id rank).length ≤ 1048576 := by
  unfold rankOut
  split
  · next h =>
    unfold rankOk at h
    simp only [Bool.and_eq_true] at h
    have := (goodBrs_at l h.1).1
    split
    · simp; omega
    · omega
  · simp

namespace fnServers
set_option maxRecDepth 100000 in
set_option maxHeartbeats 16000000 in
theorem walk (a0 : Option Addr) (len0 cap0 : Nat) (a1 : Option Addr) (len1 cap1 : Nat) (w : World) (hC0 : Code w.heap.size w a0 len0) (l0 : len0 ≤ 9223372036854775807) (hC1 : Code w.heap.size w a1 len1) (l1 : len1 ≤ 9223372036854775807) :
    Calls Try.prog 4 #[.slice a0 len0 cap0, .slice a1 len1 cap1] w fun e w' => e = .returned (.bool true) ∧ Below w.heap.size w w' := by
  obtain ⟨X, hX⟩ : ∃ X : Int, IntKind.i64.wrap ((len0 : Int) + (len1 : Int)) = X := ⟨_, rfl⟩
  by_cases hbig : 1048576 < X
  · have hbig' : decide ((1048576 : Int) < X) = true := decide_eq_true hbig
    clear hC0 hC1
    go_enter Try.func4, Try.ntmps4
    go_wp2
    go_ret
    exact ⟨rfl, Below.refl _ _⟩
  · have hbig' : decide ((1048576 : Int) < X) = false := decide_eq_false hbig
    have HC0 : Hid (Code w.heap.size w a0 len0) := hC0
    have HC1 : Hid (Code w.heap.size w a1 len1) := hC1
    have S0 : Hid (Since w.heap.size w w) := Since.start w
    clear hC0 hC1
    go_enter Try.func4, Try.ntmps4
    go_wp2_with fail
    refine (drawMoved_any w.heap.size w _ a0 len0 cap0 HC0.out (by omega) S0.out).mono ?_
    rintro e z1 ⟨vz, l, id, gg, rfl, hoz1, hlz, hsz1⟩
    obtain ⟨az, cz, rfl⟩ := hoz1.shape
    have SZ1 : Hid (Since w.heap.size w z1) := hsz1
    have OZ1 : Hid (OwnBr z1 0 (.slice az l.length cz) l) := hoz1.mono (Nat.zero_le _)
    obtain ⟨mo, hmo⟩ : ∃ mo, mo = movedOk l id gg := ⟨_, rfl⟩
    obtain ⟨mu, hmu⟩ : ∃ mu, mu = movedOut l id gg := ⟨_, rfl⟩
    obtain ⟨so, hso⟩ : ∃ so, so = servOk l gg := ⟨_, rfl⟩
    obtain ⟨su, hsu⟩ : ∃ su, su = servOut l gg := ⟨_, rfl⟩
    have CMI : Hid (∀ W, OwnBr W 0 (.slice az l.length cz) l → Calls Try.prog 17 #[.slice az l.length cz, .int .i64 id, .int .i64 gg] W fun e W' => ∃ v', e = .returned (.tuple #[v', .bool mo]) ∧ Own W' W.heap.size v' mu ∧ Below W.heap.size W W') := fun W ho => by rw [hmo, hmu]; exact implMoved_any W 0 _ l id gg ho (by omega)
    have CMS : Hid (∀ W, OwnBr W 0 (.slice az l.length cz) l → Calls Try.prog 18 #[.slice az l.length cz, .int .i64 id, .int .i64 gg] W fun e W' => ∃ v', e = .returned (.tuple #[v', .bool mo]) ∧ Own W' W.heap.size v' mu ∧ Below W.heap.size W W') := fun W ho => by rw [hmo, hmu]; exact specMoved_any W 0 _ l id gg ho (by omega)
    have CSI : Hid (∀ W, OwnBr W 0 (.slice az l.length cz) l → Calls Try.prog 19 #[.slice az l.length cz, .int .i64 gg] W fun e W' => ∃ v', e = .returned (.tuple #[v', .bool so]) ∧ Own W' W.heap.size v' su ∧ Below W.heap.size W W') := fun W ho => by rw [hso, hsu]; exact implServers_any W 0 _ l gg ho (by omega)
    have CSS : Hid (∀ W, OwnBr W 0 (.slice az l.length cz) l → Calls Try.prog 20 #[.slice az l.length cz, .int .i64 gg] W fun e W' => ∃ v', e = .returned (.tuple #[v', .bool so]) ∧ Own W' W.heap.size v' su ∧ Below W.heap.size W W') := fun W ho => by rw [hso, hsu]; exact specServers_any W 0 _ l gg ho (by omega)
    have LM : Hid (mu.length ≤ 4194304) := by show _ ≤ _; rw [hmu]; exact movedOut_len l id gg
    have LS : Hid (su.length ≤ 4194304) := by show _ ≤ _; rw [hsu]; exact servOut_len l gg
    have HOK : Hid (mo = true → so = true ∧ gg = (su.length : Int) ∧ su.length ≤ 40 ∧ ∀ j (hj : j < su.length), (su[j] = id ↔ (j : Int) ∈ mu)) := fun h => by
      have h0 : movedOk l id gg = true := by rw [← hmo]; exact h
      have h1 := h0
      unfold movedOk at h1
      simp only [Bool.and_eq_true] at h1
      have hc : 0 ≤ gg ∧ gg ≤ 40 := of_decide_eq_true h1.2.1
      obtain ⟨n, rfl⟩ : ∃ n : Nat, gg = (n : Int) := ⟨gg.toNat, by omega⟩
      have hs1 : servOk l (n : Int) = true := by unfold servOk; rw [h1.1, h1.2.1]; rfl
      have hs2 : servOut l (n : Int) = servL l n := by unfold servOut; rw [hs1]; rfl
      refine ⟨by rw [hso]; exact hs1, by rw [hsu, hs2, servL_len], by rw [hsu, hs2, servL_len]; omega, fun j hj => ?_⟩
      have hj' : j < n := by rw [hsu, hs2, servL_len] at hj; exact hj
      have e1 : su[j] = servAt l j := by
        have : su = servL l n := by rw [hsu, hs2]
        subst this
        exact servL_get l n j hj
      rw [e1, hmu]
      exact moved_has l id n h0 j hj'
    clear hoz1 hsz1 hmo hmu hso hsu
    go_wp2_with fail
    refine (CMI.out _ OZ1.out).mono ?_
    rintro e z2 ⟨v2, rfl, ho2, hb2⟩
    obtain ⟨a2, c2, rfl⟩ := ho2.shape
    have SZ2 : Hid (Since w.heap.size w z2) := SZ1.out.step hb2
    have OZ2 : Hid (OwnBr z2 0 (.slice az l.length cz) l) := OZ1.out.below hb2
    have M2 : Hid (Own z2 0 (.slice a2 mu.length c2) mu) := ho2.mono (Nat.zero_le _)
    clear ho2 hb2
    go_wp2_with fail
    refine (CMS.out _ OZ2.out).mono ?_
    rintro e z3 ⟨v3, rfl, ho3, hb3⟩
    obtain ⟨a3, c3, rfl⟩ := ho3.shape
    have SZ3 : Hid (Since w.heap.size w z3) := SZ2.out.step hb3
    have OZ3 : Hid (OwnBr z3 0 (.slice az l.length cz) l) := OZ2.out.below hb3
    have M3 : Hid (Own z3 0 (.slice a2 mu.length c2) mu) := M2.out.below hb3
    have N3 : Hid (Own z3 0 (.slice a3 mu.length c3) mu) := ho3.mono (Nat.zero_le _)
    clear ho3 hb3
    go_wp2_with fail
    refine (CSI.out _ OZ3.out).mono ?_
    rintro e z4 ⟨v4, rfl, ho4, hb4⟩
    obtain ⟨a4, c4, rfl⟩ := ho4.shape
    have SZ4 : Hid (Since w.heap.size w z4) := SZ3.out.step hb4
    have OZ4 : Hid (OwnBr z4 0 (.slice az l.length cz) l) := OZ3.out.below hb4
    have M4 : Hid (Own z4 0 (.slice a2 mu.length c2) mu) := M3.out.below hb4
    have N4 : Hid (Own z4 0 (.slice a3 mu.length c3) mu) := N3.out.below hb4
    have P4 : Hid (Own z4 0 (.slice a4 su.length c4) su) := ho4.mono (Nat.zero_le _)
    clear ho4 hb4
    go_wp2_with fail
    refine (CSS.out _ OZ4.out).mono ?_
    rintro e z5 ⟨v5, rfl, ho5, hb5⟩
    obtain ⟨a5, c5, rfl⟩ := ho5.shape
    have SZ5 : Hid (Since w.heap.size w z5) := SZ4.out.step hb5
    have M5 : Hid (Own z5 0 (.slice a2 mu.length c2) mu) := M4.out.below hb5
    have N5 : Hid (Own z5 0 (.slice a3 mu.length c3) mu) := N4.out.below hb5
    have P5 : Hid (Own z5 0 (.slice a4 su.length c4) su) := P4.out.below hb5
    have Q5 : Hid (Own z5 0 (.slice a5 su.length c5) su) := ho5.mono (Nat.zero_le _)
    clear ho5 hb5
    go_wp2_with fail
    refine (sameInts_same _ _ _ mu M5.out.reads N5.out.reads LM.out).mono ?_
    rintro e z6 ⟨rfl, hb6⟩
    have SZ6 : Hid (Since w.heap.size w z6) := SZ5.out.step hb6
    have M6 : Hid (Own z6 0 (.slice a2 mu.length c2) mu) := M5.out.below hb6
    have P6 : Hid (Own z6 0 (.slice a4 su.length c4) su) := P5.out.below hb6
    have Q6 : Hid (Own z6 0 (.slice a5 su.length c5) su) := Q5.out.below hb6
    clear hb6
    go_wp2_with fail
    refine (sameInts_same _ _ _ su P6.out.reads Q6.out.reads LS.out).mono ?_
    rintro e z7 ⟨rfl, hb7⟩
    have SZ7 : Hid (Since w.heap.size w z7) := SZ6.out.step hb7
    have M7 : Hid (Own z7 0 (.slice a2 mu.length c2) mu) := M6.out.below hb7
    have P7 : Hid (Own z7 0 (.slice a4 su.length c4) su) := P6.out.below hb7
    clear hb7 CMI CMS CSI CSS
    go_upto_if 95 with fail
    go_cut [16, 17] from 95 to 118 (fun s16 s17 wc => Hid (Since w.heap.size w wc))
    case first =>
     cases mo with
     | false =>
      go_wp2
      go_meet
      exact SZ7
     | true =>
      obtain ⟨rfl, rfl, hn40, hiff⟩ := HOK.out rfl
      have HIFF : Hid (∀ j (hj : j < su.length), (su[j] = id ↔ (j : Int) ∈ mu)) := hiff
      have HPC : Hid (su = [] ∨ ∃ g off, a4 = some ⟨g, off, none⟩ ∧ ∀ j (hj : j < su.length), z7.cell? ⟨g, off + j, none⟩ = some (.int .i64 su[j])) := by
        obtain ⟨a', c', e', hcc⟩ := P7.out.reads
        have ea : a4 = a' := by simp at e'; exact e'.1
        exact hcc.imp (fun h => h) fun ⟨g, off, ha, hg, hcell⟩ => ⟨g, off, ea.trans ha, hcell⟩
      have CHA : Hid (∀ z : Int, ∀ b, decide (z ∈ mu) = b → Calls Try.prog 21 #[.slice a2 mu.length c2, .int .i64 z] z7 fun e W' => e = .returned (.bool b) ∧ W' = z7) := fun z b hb => by
        have := has_any z7 _ mu z M7.out.reads LM.out
        rw [hb] at this
        exact this
      clear HOK hiff M7 P7
      go_wp2
      go_loopw [106] (fun i wr => ∃ j : Nat, j ≤ su.length ∧ i = .int .i64 j ∧ wr = z7) (fun i _ => su.length - (intOf i).toNat)
      case atStart => exact ⟨0, Nat.zero_le _, rfl, rfl⟩
      case round =>
        obtain ⟨j, hj, rfl, rfl⟩ := hrel
        by_cases hlt : j < su.length
        · have hlt' : (j : Int) < (su.length : Int) := by omega
          have hjs : j < su.length := hlt
          obtain ⟨g4, o4, rfl, hc4⟩ := HPC.out.resolve_left (fun e => by rw [e] at hjs; simp at hjs)
          have q0 := hc4 j hjs
          have hif := HIFF.out j hjs
          clear hc4
          by_cases he : su[j] = id
          · have CH : Hid (Calls Try.prog 21 #[.slice a2 mu.length c2, .int .i64 (j : Int)] wr fun e W' => e = .returned (.bool true) ∧ W' = wr) := CHA.out _ _ (decide_eq_true (hif.1 he))
            rw [he] at q0
            clear hif he
            go_wp2_with fail
            refine CH.out.mono ?_
            rintro e w8 ⟨rfl, hw8⟩
            obtain rfl := hw8.symm
            go_wp2
            go_roundw
            case rel => exact ⟨j + 1, by omega, by go_num, by trivial⟩
            case measure => simp [intOf]; omega
          · have CH : Hid (Calls Try.prog 21 #[.slice a2 mu.length c2, .int .i64 (j : Int)] wr fun e W' => e = .returned (.bool false) ∧ W' = wr) := CHA.out _ _ (decide_eq_false (fun h => he (hif.2 h)))
            generalize su[j] = zz at *
            clear hif
            go_wp2_with fail
            refine CH.out.mono ?_
            rintro e w8 ⟨rfl, hw8⟩
            obtain rfl := hw8.symm
            go_wp2
            go_roundw
            case rel => exact ⟨j + 1, by omega, by go_num, by trivial⟩
            case measure => simp [intOf]; omega
        · have hlt' : ¬ (j : Int) < (su.length : Int) := by omega
          clear HPC HIFF CHA
          go_wp2
          go_meet
          exact SZ7
    case rest =>
      have SZ9 : Hid (Since w.heap.size w wc) := hcut
      clear hcut HOK M7 P7
      generalize hwz9 : wc = z9 at *
      clear hwz9
      go_wp2_with fail
      refine (drawSetRank_any w.heap.size w _ a1 len1 cap1 HC1.out (by omega) SZ9.out).mono ?_
      rintro e y1 ⟨vy, ly, bb, gy, rfl, hoy1, hly, hsy1⟩
      obtain ⟨ay, cy, rfl⟩ := hoy1.shape
      have SY1 : Hid (Since w.heap.size w y1) := hsy1
      have OY1 : Hid (OwnBr y1 0 (.slice ay ly.length cy) ly) := hoy1.mono (Nat.zero_le _)
      obtain ⟨ro, hro⟩ : ∃ ro, ro = rankOk ly bb gy := ⟨_, rfl⟩
      obtain ⟨rr, hrr⟩ : ∃ rr, rr = rankOut ly bb gy := ⟨_, rfl⟩
      have CYI : Hid (∀ W, OwnBr W 0 (.slice ay ly.length cy) ly → Calls Try.prog 23 #[.slice ay ly.length cy, .int .i64 bb, .int .i64 gy] W fun e W' => ∃ v', e = .returned (.tuple #[v', .bool ro]) ∧ OwnBr W' W.heap.size v' rr ∧ Below W.heap.size W W') := fun W ho => by rw [hro, hrr]; exact implSetRank_any W 0 _ ly bb gy ho (by omega)
      have CYS : Hid (∀ W, OwnBr W 0 (.slice ay ly.length cy) ly → Calls Try.prog 24 #[.slice ay ly.length cy, .int .i64 bb, .int .i64 gy] W fun e W' => ∃ v', e = .returned (.tuple #[v', .bool ro]) ∧ OwnBr W' W.heap.size v' rr ∧ Below W.heap.size W W') := fun W ho => by rw [hro, hrr]; exact specSetRank_any W 0 _ ly bb gy ho (by omega)
      have LR : Hid (rr.length ≤ 4194304) := by show _ ≤ _; rw [hrr]; exact rankOut_len ly bb gy
      have LR1 : Hid (rr.length ≤ 1048576) := by show _ ≤ _; rw [hrr]; exact rankOut_small ly bb gy
      have HLEAD : Hid (ro = true → gy = 127 → upIn rr bb = true → rivalIn rr bb = false → leadOk rr = true ∧ leadId rr = bb) := fun h1 h2 h3 h4 => by
        subst h2
        rw [hro] at h1
        rw [hrr] at h3 h4 ⊢
        exact rank_leads ly bb h1 h3 h4
      clear hoy1 hsy1 hro hrr
      go_wp2_with fail
      refine (CYI.out _ OY1.out).mono ?_
      rintro e y2 ⟨vy2, rfl, hoy2, hby2⟩
      obtain ⟨ay2, cy2, rfl⟩ := hoy2.shape
      have SY2 : Hid (Since w.heap.size w y2) := SY1.out.step hby2
      have OY2 : Hid (OwnBr y2 0 (.slice ay ly.length cy) ly) := OY1.out.below hby2
      have QY2 : Hid (OwnBr y2 0 (.slice ay2 rr.length cy2) rr) := hoy2.mono (Nat.zero_le _)
      clear hoy2 hby2
      go_wp2_with fail
      refine (CYS.out _ OY2.out).mono ?_
      rintro e y3 ⟨vy3, rfl, hoy3, hby3⟩
      obtain ⟨ay3, cy3, rfl⟩ := hoy3.shape
      have SY3 : Hid (Since w.heap.size w y3) := SY2.out.step hby3
      have QY3 : Hid (OwnBr y3 0 (.slice ay2 rr.length cy2) rr) := QY2.out.below hby3
      have RY3 : Hid (OwnBr y3 0 (.slice ay3 rr.length cy3) rr) := hoy3.mono (Nat.zero_le _)
      clear hoy3 hby3
      go_wp2_with fail
      refine (sameBrs_same _ _ _ rr QY3.out.reads RY3.out.reads LR.out).mono ?_
      rintro e y4 ⟨rfl, hby4⟩
      have SY4 : Hid (Since w.heap.size w y4) := SY3.out.step hby4
      have QY4 : Hid (OwnBr y4 0 (.slice ay2 rr.length cy2) rr) := QY3.out.below hby4
      clear hby4
      cases ro with
      | false =>
        clear HLEAD CYI CYS
        go_wp2_with fail
        refine (drawServersOf_any w.heap.size w _ a1 len1 cap1 HC1.out (by omega) SY4.out).mono ?_
        rintro e x1 ⟨vx, lx, gx, rfl, hox1, hlx, hsx1⟩
        obtain ⟨ax, cx, rfl⟩ := hox1.shape
        have SX1 : Hid (Since w.heap.size w x1) := hsx1
        have OX1 : Hid (OwnBr x1 0 (.slice ax lx.length cx) lx) := hox1.mono (Nat.zero_le _)
        obtain ⟨sox, hsox⟩ : ∃ sox, sox = servOk lx gx := ⟨_, rfl⟩
        obtain ⟨sux, hsux⟩ : ∃ sux, sux = servOut lx gx := ⟨_, rfl⟩
        have CXI : Hid (∀ W, OwnBr W 0 (.slice ax lx.length cx) lx → Calls Try.prog 19 #[.slice ax lx.length cx, .int .i64 gx] W fun e W' => ∃ v', e = .returned (.tuple #[v', .bool sox]) ∧ Own W' W.heap.size v' sux ∧ Below W.heap.size W W') := fun W ho => by rw [hsox, hsux]; exact implServers_any W 0 _ lx gx ho (by omega)
        have CXS : Hid (∀ W, OwnBr W 0 (.slice ax lx.length cx) lx → Calls Try.prog 20 #[.slice ax lx.length cx, .int .i64 gx] W fun e W' => ∃ v', e = .returned (.tuple #[v', .bool sox]) ∧ Own W' W.heap.size v' sux ∧ Below W.heap.size W W') := fun W ho => by rw [hsox, hsux]; exact specServers_any W 0 _ lx gx ho (by omega)
        have LX : Hid (sux.length ≤ 4194304) := by show _ ≤ _; rw [hsux]; exact servOut_len lx gx
        clear hox1 hsx1 hsox hsux
        go_wp2_with fail
        refine (CXI.out _ OX1.out).mono ?_
        rintro e x2 ⟨vx2, rfl, hox2, hbx2⟩
        obtain ⟨ax2, cx2, rfl⟩ := hox2.shape
        have SX2 : Hid (Since w.heap.size w x2) := SX1.out.step hbx2
        have OX2 : Hid (OwnBr x2 0 (.slice ax lx.length cx) lx) := OX1.out.below hbx2
        have QX2 : Hid (Own x2 0 (.slice ax2 sux.length cx2) sux) := hox2.mono (Nat.zero_le _)
        clear hox2 hbx2
        go_wp2_with fail
        refine (CXS.out _ OX2.out).mono ?_
        rintro e x3 ⟨vx3, rfl, hox3, hbx3⟩
        obtain ⟨ax3, cx3, rfl⟩ := hox3.shape
        have SX3 : Hid (Since w.heap.size w x3) := SX2.out.step hbx3
        have QX3 : Hid (Own x3 0 (.slice ax2 sux.length cx2) sux) := QX2.out.below hbx3
        have RX3 : Hid (Own x3 0 (.slice ax3 sux.length cx3) sux) := hox3.mono (Nat.zero_le _)
        clear hox3 hbx3
        go_wp2_with fail
        refine (sameInts_same _ _ _ sux QX3.out.reads RX3.out.reads LX.out).mono ?_
        rintro e x4 ⟨rfl, hbx4⟩
        have SX4 : Hid (Since w.heap.size w x4) := SX3.out.step hbx4
        clear hbx4
        go_wp2
        go_ret
        exact ⟨rfl, SX4.out.1⟩
      | true =>
       go_upto_if 152 with fail
       go_cut [25, 26, 27, 28, 30] from 148 to 205 (fun s25 s26 s27 s28 s30 wc => Hid (Since w.heap.size w wc))
       case first =>
        by_cases hgy : gy = 127
        · subst hgy
          have HLD : Hid (upIn rr bb = true → rivalIn rr bb = false → leadOk rr = true ∧ leadId rr = bb) := HLEAD.out (by first | rfl | trivial) (by first | rfl | trivial)
          clear HLEAD
          obtain ⟨lo, hlo⟩ : ∃ lo, lo = leadOk rr := ⟨_, rfl⟩
          obtain ⟨ld, hld⟩ : ∃ ld, ld = leadId rr := ⟨_, rfl⟩
          have CYL : Hid (∀ W, OwnBr W 0 (.slice ay2 rr.length cy2) rr → Calls Try.prog 8 #[.slice ay2 rr.length cy2] W fun e W' => e = .returned (.tuple #[.int .i64 ld, .bool lo]) ∧ Below W.heap.size W W') := fun W ho => by rw [hlo, hld]; exact implLeader_any W 0 _ rr ho LR1.out
          rw [← hlo, ← hld] at HLD
          clear hlo hld
          go_wp2_with fail
          refine (CYL.out _ QY4.out).mono ?_
          rintro e y5 ⟨rfl, hby5⟩
          have SY5 : Hid (Since w.heap.size w y5) := SY4.out.step hby5
          have QY5 : Hid (OwnBr y5 0 (.slice ay2 rr.length cy2) rr) := QY4.out.below hby5
          clear hby5
          have HCR0 : Hid (rr = [] ∨ ∃ g off, ay2 = some ⟨g, off, none⟩ ∧ ∀ wz, Since y5.heap.size y5 wz → ∀ j (hj : j < rr.length), BrAt wz g (off + j * 3) rr[j]) := by
            obtain ⟨a', c', e', hcc⟩ := QY5.out.reads
            have ea : ay2 = a' := by simp at e'; exact e'.1
            exact hcc.imp (fun h => h) fun ⟨g, off, ha, hg, hcell⟩ => ⟨g, off, ea.trans ha, fun wz hS j hj => (hcell j hj).below hg hS.1⟩
          have HFIN : Hid (∀ uu vv : Bool, upIn rr bb = uu → rivalIn rr bb = vv → uu = true → vv = false → lo = true ∧ ld = bb) := fun uu vv h1 h2 h3 h4 => HLD.out (h1.trans h3) (h2.trans h4)
          have HSS : Hid (Since y5.heap.size y5 y5) := Since.start y5
          clear HLD
          go_wp2
          go_loopw [27, 28, 160] (fun s27 s28 i wr => ∃ k : Nat, k ≤ rr.length ∧ i = .int .i64 k ∧ s27 = .bool (upIn (rr.take k) bb) ∧ s28 = .bool (rivalIn (rr.take k) bb) ∧ Hid (Since y5.heap.size y5 wr)) (fun _ _ i _ => rr.length - (intOf i).toNat)
          case atStart => exact ⟨0, Nat.zero_le _, rfl, rfl, rfl, HSS.out⟩
          case round =>
            obtain ⟨k, hk, rfl, rfl, rfl, HK⟩ := hrel
            by_cases hlt : k < rr.length
            · obtain ⟨g2, o2, rfl, hcr⟩ := HCR0.out.resolve_left (fun e => by rw [e] at hlt; simp at hlt)
              have HCR : Hid (∀ wz, Since y5.heap.size y5 wz → ∀ j (hj : j < rr.length), BrAt wz g2 (o2 + j * 3) rr[j]) := hcr
              clear hcr HFIN
              obtain ⟨q0, q1, q2⟩ := HCR.out wr HK.out k hlt
              have hrl : rr.length ≤ 1048576 := LR1.out
              have hlt' : (k : Int) < (rr.length : Int) := by omega
              have HUN : Hid (upIn (rr.take (k + 1)) bb = (upIn (rr.take k) bb || (decide (rr[k].id = bb) && rr[k].up))) := upIn_next rr bb k hlt
              have HVN : Hid (rivalIn (rr.take (k + 1)) bb = (rivalIn (rr.take k) bb || ((decide (rr[k].id ≠ bb) && rr[k].up) && decide (rr[k].rank = 127)))) := rivalIn_next rr bb k hlt
              have HSA : Hid (Since y5.heap.size y5 (wr.alloc (.cells #[.int .i64 rr[k].id, .int .i64 rr[k].rank, .bool rr[k].up] 35))) := HK.out.step ((Below.refl _ wr).alloc (Nat.le_refl _) _)
              generalize rr[k] = x at *
              generalize upIn (rr.take k) bb = uu at *
              generalize rivalIn (rr.take k) bb = vv at *
              clear HK
              by_cases he : x.id = bb
              · rw [he] at q0 HSA
                rw [decide_eq_true he] at HUN
                rw [decide_eq_false (show ¬ x.id ≠ bb from fun h => h he)] at HVN
                cases hxu : x.up <;> rw [hxu] at q2 HSA HUN HVN <;> clear hxu <;> cases uu <;> cases vv <;>
                  (go_wp2
                   go_roundw
                   case rel => exact ⟨k + 1, by omega, by go_num, by rw [HUN.out]; first | rfl | simp [he], by rw [HVN.out]; first | rfl | (simp [he, hr]; done) | (simp [he]; done), HSA.out⟩
                   case measure => simp [intOf]; omega)
              · rw [decide_eq_false he] at HUN
                rw [decide_eq_true (show x.id ≠ bb from he)] at HVN
                by_cases hr : x.rank = 127
                · rw [hr] at q1 HSA
                  rw [decide_eq_true hr] at HVN
                  clear hr
                  cases hxu : x.up <;> rw [hxu] at q2 HSA HUN HVN <;> clear hxu <;> cases uu <;> cases vv <;>
                    (go_wp2
                     go_roundw
                     case rel => exact ⟨k + 1, by omega, by go_num, by rw [HUN.out]; first | rfl | simp [he], by rw [HVN.out]; first | rfl | (simp [he, hr]; done) | (simp [he]; done), HSA.out⟩
                     case measure => simp [intOf]; omega)
                · rw [decide_eq_false hr] at HVN
                  cases hxu : x.up <;> rw [hxu] at q2 HSA HUN HVN <;> clear hxu <;> cases uu <;> cases vv <;>
                    (go_wp2
                     go_roundw
                     case rel => exact ⟨k + 1, by omega, by go_num, by rw [HUN.out]; first | rfl | simp [he], by rw [HVN.out]; first | rfl | (simp [he, hr]; done) | (simp [he]; done), HSA.out⟩
                     case measure => simp [intOf]; omega)
            · have hlt' : ¬ (k : Int) < (rr.length : Int) := by omega
              have en : rr.take k = rr := List.take_of_length_le (by omega)
              have SYZ : Hid (Since w.heap.size w wr) := SY5.out.tran HK.out
              rw [en]
              clear en HK
              obtain ⟨uu, huu⟩ : ∃ uu, upIn rr bb = uu := ⟨_, rfl⟩
              obtain ⟨vv, hvv⟩ : ∃ vv, rivalIn rr bb = vv := ⟨_, rfl⟩
              have HF2 := HFIN.out uu vv huu hvv
              rw [huu, hvv]
              clear huu hvv HFIN
              generalize hyz : wr = yz at *
              clear hyz
              cases uu with
              | false =>
                clear HF2
                go_wp2
                go_meet
                exact SYZ
              | true =>
                cases vv with
                | true =>
                  clear HF2
                  go_wp2
                  go_meet
                  exact SYZ
                | false =>
                  obtain ⟨rfl, rfl⟩ := HF2 rfl rfl
                  clear HF2
                  go_wp2
                  go_meet
                  exact SYZ
        · clear HLEAD
          go_wp2
          go_meet
          exact SY4
       case rest =>
        have SYR : Hid (Since w.heap.size w wc) := hcut
        clear hcut HLEAD CYI CYS
        generalize hwyr : wc = yr at *
        clear hwyr
        go_wp2_with fail
        refine (drawServersOf_any w.heap.size w _ a1 len1 cap1 HC1.out (by omega) SYR.out).mono ?_
        rintro e x1 ⟨vx, lx, gx, rfl, hox1, hlx, hsx1⟩
        obtain ⟨ax, cx, rfl⟩ := hox1.shape
        have SX1 : Hid (Since w.heap.size w x1) := hsx1
        have OX1 : Hid (OwnBr x1 0 (.slice ax lx.length cx) lx) := hox1.mono (Nat.zero_le _)
        obtain ⟨sox, hsox⟩ : ∃ sox, sox = servOk lx gx := ⟨_, rfl⟩
        obtain ⟨sux, hsux⟩ : ∃ sux, sux = servOut lx gx := ⟨_, rfl⟩
        have CXI : Hid (∀ W, OwnBr W 0 (.slice ax lx.length cx) lx → Calls Try.prog 19 #[.slice ax lx.length cx, .int .i64 gx] W fun e W' => ∃ v', e = .returned (.tuple #[v', .bool sox]) ∧ Own W' W.heap.size v' sux ∧ Below W.heap.size W W') := fun W ho => by rw [hsox, hsux]; exact implServers_any W 0 _ lx gx ho (by omega)
        have CXS : Hid (∀ W, OwnBr W 0 (.slice ax lx.length cx) lx → Calls Try.prog 20 #[.slice ax lx.length cx, .int .i64 gx] W fun e W' => ∃ v', e = .returned (.tuple #[v', .bool sox]) ∧ Own W' W.heap.size v' sux ∧ Below W.heap.size W W') := fun W ho => by rw [hsox, hsux]; exact specServers_any W 0 _ lx gx ho (by omega)
        have LX : Hid (sux.length ≤ 4194304) := by show _ ≤ _; rw [hsux]; exact servOut_len lx gx
        clear hox1 hsx1 hsox hsux
        go_wp2_with fail
        refine (CXI.out _ OX1.out).mono ?_
        rintro e x2 ⟨vx2, rfl, hox2, hbx2⟩
        obtain ⟨ax2, cx2, rfl⟩ := hox2.shape
        have SX2 : Hid (Since w.heap.size w x2) := SX1.out.step hbx2
        have OX2 : Hid (OwnBr x2 0 (.slice ax lx.length cx) lx) := OX1.out.below hbx2
        have QX2 : Hid (Own x2 0 (.slice ax2 sux.length cx2) sux) := hox2.mono (Nat.zero_le _)
        clear hox2 hbx2
        go_wp2_with fail
        refine (CXS.out _ OX2.out).mono ?_
        rintro e x3 ⟨vx3, rfl, hox3, hbx3⟩
        obtain ⟨ax3, cx3, rfl⟩ := hox3.shape
        have SX3 : Hid (Since w.heap.size w x3) := SX2.out.step hbx3
        have QX3 : Hid (Own x3 0 (.slice ax2 sux.length cx2) sux) := QX2.out.below hbx3
        have RX3 : Hid (Own x3 0 (.slice ax3 sux.length cx3) sux) := hox3.mono (Nat.zero_le _)
        clear hox3 hbx3
        go_wp2_with fail
        refine (sameInts_same _ _ _ sux QX3.out.reads RX3.out.reads LX.out).mono ?_
        rintro e x4 ⟨rfl, hbx4⟩
        have SX4 : Hid (Since w.heap.size w x4) := SX3.out.step hbx4
        clear hbx4
        go_wp2
        go_ret
        exact ⟨rfl, SX4.out.1⟩
end fnServers
end Go.Proofs.Ytiimiiblhafajab
