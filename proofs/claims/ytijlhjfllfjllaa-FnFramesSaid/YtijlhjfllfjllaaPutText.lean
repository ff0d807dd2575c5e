/-
  The bytes of a list of numbers, as the program's 'numsText' and the model's 'l2Put' make them.
-/
import Derived.Test.YtijlhjfllfjllaaNums
namespace Go.Proofs.Ytijlhjfllfjllaa
open Go.RowKit

theorem info5c : (Try.prog.info? 5).map (fun i => (i.zero, i.size, i.bytes)) = some (some (.int .u8 0), 1, 1) := by kernel_rfl

/-- The slice v owns the bytes l, in a block from B on. -/
def OwnB (W : World) (B : Nat) (v : Value) (l : List UInt8) : Prop := W.ownsRow B 5 1 v l.length (Lib.byteCells l)
theorem OwnB.nil (W : World) (B : Nat) : OwnB W B (.slice none 0 0) [] := World.ownsRow_nil W B 5 1

/-- 'string(b)'. -/
theorem OwnB.back {W : World} {B : Nat} {v : Value} {l : List UInt8} (h : OwnB W B v l) : (convert 22 9 v).run Try.prog W = .ok (.string ⟨l.toArray⟩) W := by
  have h0 := h
  rcases h.2 with ⟨hv, hn⟩ | ⟨g, cap, cur, hv, hb, hg, hrest⟩
  · obtain rfl : l = [] := List.eq_nil_of_length_eq_zero hn
    subst hv
    exact run_convert_bytes_nil (P := Try.prog) W 22 5 Try.underlying22 Try.underlying5 0 0 9 Try.underlying9
  · subst hv
    refine run_convert_bytes_back (P := Try.prog) W 22 9 5 ⟨g, 0, none⟩ cap l Try.underlying22 Try.underlying5 Try.underlying9 (fun j hj => ?_)
    rw [Go.WideShapes.add_plain, Nat.zero_add, World.ownsRow.cellAt h0 j (by omega)]
    simp [Lib.byteCells, hj]

/-- 'append(b, x, y)' of two bytes. -/
theorem list_put2 {ops : Array Oper} {rest : List Oper} {o : Oper} {a : Act} {w : World} {Q : Exit → Act → World → Prop} (hgd : o.guard = none) (s x : Operand)
    (ho : o.op = .call { callee := .builtin .append, args := #[s, x], argTypes := #[22, 22] }) (B : Nat) (v : Value) (l : List UInt8) (c d : UInt8) (hs : a.eval s = v) (hown : OwnB w B v l)
    (b cp : Nat) (hx : a.eval x = .slice (some ⟨b, 0, none⟩) 2 cp) (hc : w.cell? ⟨b, 0, none⟩ = some (.int .u8 c.toNat)) (hd : w.cell? ⟨b, 1, none⟩ = some (.int .u8 d.toNat)) (hlen : l.length ≤ 4194304) (hB : B ≤ w.heap.size)
    (h : ∀ v' w', OwnB w' B v' (l ++ [c, d]) → Below B w w' → w.heap.size ≤ w'.heap.size → wpList Try.prog ops Q rest (a.put o.dst v') w') : wpList Try.prog ops Q (o :: rest) a w := by
  obtain ⟨i0, hi, hz0, hz1, hz2⟩ := info_parts info5c
  refine wpList_append_lies w hgd s x 22 ho B 5 i0 (.int .u8 0) 1 1 Try.underlying22 hi hz0 hz1 hz2 rfl (by decide) v l.length (Lib.byteCells l) hs hown ⟨b, 0, none⟩ 2 cp [.int .u8 c.toNat, .int .u8 d.toNat] hx rfl ?_ ?_ (by decide) ?_ ?_ hB w.heap.size rfl ?_
  · intro j u hu
    match j, hu with
    | 0, hu => simp at hu; subst hu; simpa [Addr.add] using hc
    | 1, hu => simp at hu; subst hu; simpa [Addr.add] using hd
  · intro u hu
    simp at hu
    rcases hu with rfl | rfl <;> rfl
  · unfold maxLen; omega
  · omega
  · intro g cap w' h1 h2 h3 h4
    refine h _ w' ?_ ?_ h2.size
    · unfold OwnB
      rw [Lib.byteCells_append, show Lib.byteCells [c, d] = [.int .u8 c.toNat, .int .u8 d.toNat] from rfl]
      simpa using h1
    · exact (Below.refl B w).grown h2 hB (fun k hk => (World.ownsRow.lt hown k hk).1)

/-- A number's two bytes, the upper one first; and a list's. -/
def hiB (n : Int) : UInt8 := UInt8.ofNat (n / 256).toNat
def loB (n : Int) : UInt8 := UInt8.ofNat (n % 256).toNat
def putL (zs : List Int) : List UInt8 := zs.flatMap fun n => [hiB n, loB n]
theorem putL_len (zs : List Int) : (putL zs).length = 2 * zs.length := by
  induction zs with
  | nil => rfl
  | cons a l ih => simp only [putL, List.flatMap_cons, List.length_append, List.length_cons, List.length_nil] at *; omega
theorem putL_snoc (zs : List Int) (z : Int) : putL (zs ++ [z]) = putL zs ++ [hiB z, loB z] := by simp [putL]
theorem hiB_eq (n : Int) (h0 : 0 ≤ n) (h1 : n ≤ 65535) : ((hiB n).toNat : Int) = n / 256 := by
  unfold hiB; simp [UInt8.toNat_ofNat']; omega
theorem loB_eq (n : Int) : ((loB n).toNat : Int) = n % 256 := by
  unfold loB; simp [UInt8.toNat_ofNat']; omega

set_option maxRecDepth 100000 in
set_option maxHeartbeats 1000000 in
theorem numsText_any (W : World) (v : Value) (zs : List Int) (h : Reads W v zs) (hl : zs.length ≤ 1048576) (hall : allB zs 0 65535 = true) :
    Calls Try.prog 92 #[v] W fun e W' => e = .returned (.string ⟨(putL zs).toArray⟩) ∧ Below W.heap.size W W' := by
  obtain ⟨a1, cap1, rfl, hc1⟩ := h
  obtain ⟨H, hH⟩ : ∃ H, H = W.heap.size := ⟨_, rfl⟩
  have HS0 : Hid (Since H W W) := by rw [hH]; exact Since.start W
  rw [← hH]
  rcases hc1 with rfl | ⟨g1, o1, rfl, hg1, hc1⟩
  · simp only [List.length_nil]
    clear hH
    have hb0 := (OwnB.nil W H).back
    go_enter Try.func92, Try.ntmps92
    go_wp2
    refine wp_loop_rounds 1 ?_
    rw [rounds_succ]
    go_wp2
    go_ret
    exact ⟨rfl, HS0.out.1⟩
  · have HC1 : Hid (∀ j (hj : j < zs.length), W.cell? ⟨g1, o1 + j, none⟩ = some (.int .i64 zs[j])) := hc1
    have HG1 : Hid (g1 < H) := by show _ < _; rw [hH]; exact hg1
    have HA : Hid (allB zs 0 65535 = true) := hall
    clear hc1 hg1 hall hH
    go_enter Try.func92, Try.ntmps92
    go_wp2
    go_loopw [3, 8] (fun v i wr => ∃ k : Nat, k ≤ zs.length ∧ i = .int .i64 k ∧ OwnB wr H v (putL (zs.take k)) ∧ Since H W wr) (fun _ i _ => zs.length - (intOf i).toNat)
    case atStart => exact ⟨0, Nat.zero_le _, rfl, OwnB.nil _ _, HS0.out⟩
    case round =>
      obtain ⟨k, hk, rfl, hown, hSr⟩ := hrel
      by_cases hlt : k < zs.length
      · have c1 : wr.cell? ⟨g1, o1 + k, none⟩ = some (.int .i64 zs[k]) := (hSr.1.cell (p := ⟨g1, o1 + k, none⟩) HG1.out).trans (HC1.out k hlt)
        have hz := allB_at zs 0 65535 HA.out k hlt
        have HN : Hid (putL (zs.take (k + 1)) = putL (zs.take k) ++ [hiB zs[k], loB zs[k]]) := by show _ = _; rw [List.take_succ_eq_append_getElem hlt, putL_snoc]
        have HO : Hid (OwnB wr H u3 (putL (zs.take k))) := hown
        have HSr : Hid (Since H W wr) := hSr
        have HL : Hid ((putL (zs.take k)).length ≤ 4194304) := by show _ ≤ _; rw [putL_len]; simp; omega
        generalize zs[k] = z at *
        have HX : Hid ((wr.alloc (.cells #[.int .u8 (z / 256), .int .u8 (z % 256)] 5)).cell? ⟨wr.heap.size, 0, none⟩ = some (.int .u8 (hiB z).toNat)) := by
          show _ = _
          rw [World.cell?_alloc_at _ _ _ _ rfl, hiB_eq z hz.1 hz.2]; rfl
        have HY : Hid ((wr.alloc (.cells #[.int .u8 (z / 256), .int .u8 (z % 256)] 5)).cell? ⟨wr.heap.size, 1, none⟩ = some (.int .u8 (loB z).toNat)) := by
          show _ = _
          rw [World.cell?_alloc_at _ _ _ _ rfl, loB_eq z]; rfl
        have HZ : Hid (H ≤ (wr.alloc (.cells #[.int .u8 (z / 256), .int .u8 (z % 256)] 5)).heap.size) := by have := hSr.2; show _ ≤ _; simp; omega
        have hlt' : (k : Int) < (zs.length : Int) := by omega
        clear hown hSr
        go_wp2_with (at_builtin; refine list_put2 (by rfl) (.tmp 12) (.tmp 18) (by rfl) H u3 (putL (zs.take k)) (hiB z) (loB z) (by rfl) (World.ownsRow.alloc HO.out _) wr.heap.size 2 (by rfl) HX.out HY.out HL.out HZ.out ?_; intro v' w1 hown1 hb1 hz1)
        have HO1 : Hid (OwnB w1 H v' (putL (zs.take (k + 1)))) := by show OwnB _ _ _ _; rw [HN.out]; exact hown1
        have HS1 : Hid (Since H W w1) := ⟨(HSr.out.1.alloc HSr.out.2 _).trans hb1, Nat.le_trans HZ.out hz1⟩
        clear hown1 hb1 hz1
        try go_wp2
        go_roundw
        case rel => exact ⟨k + 1, by omega, by go_num, HO1.out, HS1.out⟩
        case measure => simp [intOf]; omega
      · have e : zs.take k = zs := List.take_of_length_le (by omega)
        rw [e] at hown
        have hback := hown.back
        clear hown e
        go_wp2
        go_ret
        exact ⟨rfl, hSr.1⟩

set_option maxRecDepth 100000 in
set_option maxHeartbeats 1000000 in
theorem l2Put_any (W : World) (v : Value) (zs : List Int) (h : Reads W v zs) (hl : zs.length ≤ 1048576) (hall : allB zs 0 65535 = true) :
    Calls Try.prog 74 #[v] W fun e W' => e = .returned (.string ⟨(putL zs).toArray⟩) ∧ Below W.heap.size W W' := by
  obtain ⟨a1, cap1, rfl, hc1⟩ := h
  obtain ⟨H, hH⟩ : ∃ H, H = W.heap.size := ⟨_, rfl⟩
  have HS0 : Hid (Since H W W) := by rw [hH]; exact Since.start W
  rw [← hH]
  rcases hc1 with rfl | ⟨g1, o1, rfl, hg1, hc1⟩
  · simp only [List.length_nil]
    clear hH
    have hb0 := (OwnB.nil W H).back
    go_enter Try.func74, Try.ntmps74
    go_wp2
    refine wp_loop_rounds 1 ?_
    rw [rounds_succ]
    go_wp2
    go_ret
    exact ⟨rfl, HS0.out.1⟩
  · have HC1 : Hid (∀ j (hj : j < zs.length), W.cell? ⟨g1, o1 + j, none⟩ = some (.int .i64 zs[j])) := hc1
    have HG1 : Hid (g1 < H) := by show _ < _; rw [hH]; exact hg1
    have HA : Hid (allB zs 0 65535 = true) := hall
    clear hc1 hg1 hall hH
    go_enter Try.func74, Try.ntmps74
    go_wp2
    go_loopw [3, 8] (fun v i wr => ∃ k : Nat, k ≤ zs.length ∧ i = .int .i64 k ∧ OwnB wr H v (putL (zs.take k)) ∧ Since H W wr) (fun _ i _ => zs.length - (intOf i).toNat)
    case atStart => exact ⟨0, Nat.zero_le _, rfl, OwnB.nil _ _, HS0.out⟩
    case round =>
      obtain ⟨k, hk, rfl, hown, hSr⟩ := hrel
      by_cases hlt : k < zs.length
      · have c1 : wr.cell? ⟨g1, o1 + k, none⟩ = some (.int .i64 zs[k]) := (hSr.1.cell (p := ⟨g1, o1 + k, none⟩) HG1.out).trans (HC1.out k hlt)
        have hz := allB_at zs 0 65535 HA.out k hlt
        have HN : Hid (putL (zs.take (k + 1)) = putL (zs.take k) ++ [hiB zs[k], loB zs[k]]) := by show _ = _; rw [List.take_succ_eq_append_getElem hlt, putL_snoc]
        have HO : Hid (OwnB wr H u3 (putL (zs.take k))) := hown
        have HSr : Hid (Since H W wr) := hSr
        have HL : Hid ((putL (zs.take k)).length ≤ 4194304) := by show _ ≤ _; rw [putL_len]; simp; omega
        generalize zs[k] = z at *
        have HX : Hid ((wr.alloc (.cells #[.int .u8 (z / 256), .int .u8 (z % 256)] 5)).cell? ⟨wr.heap.size, 0, none⟩ = some (.int .u8 (hiB z).toNat)) := by
          show _ = _
          rw [World.cell?_alloc_at _ _ _ _ rfl, hiB_eq z hz.1 hz.2]; rfl
        have HY : Hid ((wr.alloc (.cells #[.int .u8 (z / 256), .int .u8 (z % 256)] 5)).cell? ⟨wr.heap.size, 1, none⟩ = some (.int .u8 (loB z).toNat)) := by
          show _ = _
          rw [World.cell?_alloc_at _ _ _ _ rfl, loB_eq z]; rfl
        have HZ : Hid (H ≤ (wr.alloc (.cells #[.int .u8 (z / 256), .int .u8 (z % 256)] 5)).heap.size) := by have := hSr.2; show _ ≤ _; simp; omega
        have hlt' : (k : Int) < (zs.length : Int) := by omega
        clear hown hSr
        go_wp2_with (at_builtin; refine list_put2 (by rfl) (.tmp 12) (.tmp 18) (by rfl) H u3 (putL (zs.take k)) (hiB z) (loB z) (by rfl) (World.ownsRow.alloc HO.out _) wr.heap.size 2 (by rfl) HX.out HY.out HL.out HZ.out ?_; intro v' w1 hown1 hb1 hz1)
        have HO1 : Hid (OwnB w1 H v' (putL (zs.take (k + 1)))) := by show OwnB _ _ _ _; rw [HN.out]; exact hown1
        have HS1 : Hid (Since H W w1) := ⟨(HSr.out.1.alloc HSr.out.2 _).trans hb1, Nat.le_trans HZ.out hz1⟩
        clear hown1 hb1 hz1
        try go_wp2
        go_roundw
        case rel => exact ⟨k + 1, by omega, by go_num, HO1.out, HS1.out⟩
        case measure => simp [intOf]; omega
      · have e : zs.take k = zs := List.take_of_length_le (by omega)
        rw [e] at hown
        have hback := hown.back
        clear hown e
        go_wp2
        go_ret
        exact ⟨rfl, hSr.1⟩
end Go.Proofs.Ytijlhjfllfjllaa
