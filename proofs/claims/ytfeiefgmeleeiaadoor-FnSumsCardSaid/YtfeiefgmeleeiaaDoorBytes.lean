/-
  Rows of bytes in memory: a text made into bytes, a byte that is put, and the text made again; what the model's 'l1With' answers.
-/
import Derived.Test.YtfeiefgmeleeiaaDoorRows
import Derived.Test.YtfeiefgmeleeiaaDoorMath
import Derived.WalkKit
import Derived.Outline
import Derived.Laws.IdiomStrings
import Derived.Below
import Derived.WideShapes
namespace Go.Proofs.YtfeiefgmeleeiaaDoor
open Go.RowKit

/-- The block's first cells are these bytes, none of them frozen. -/
def Row (W : World) (b : Nat) (l : List UInt8) : Prop :=
  (∀ j (hj : j < l.length), W.cell? ⟨b, j, none⟩ = some (.int .u8 (l[j].toNat : Int))) ∧ ∀ j, j < l.length → W.frozen? ⟨b, j, none⟩ = false

/-- '[]byte(s)': a new block that holds the bytes. -/
theorem conv_row (s : ByteArray) (w : World) : ∃ (cap : Nat) (W1 : World),
    (convert 9 22 (.string s)).run Tryd.prog w = .ok (.slice (some ⟨w.heap.size, 0, none⟩) s.size cap) W1 ∧
    Below w.heap.size w W1 ∧ W1.heap.size = w.heap.size + 1 ∧ Row W1 w.heap.size s.data.toList := by
  refine ⟨_, _, run_bytes_of_string (P := Tryd.prog) w 9 22 5 s Tryd.underlying9 Tryd.underlying22 Tryd.underlying5, ?_, ?_, ?_, ?_⟩
  · exact ((Below.refl w.heap.size w).drew).alloc (Nat.le_refl _) _
  · simp
  · intro j hj
    have hj' : j < s.data.size := by simpa using hj
    have := World.cell?_alloc_mark w.drew (bytesRow s (grownCap w s.size 0 5)) 5 ((bytesRow s (grownCap w s.size 0 5)).size, (bytesRow s (grownCap w s.size 0 5)).size + 1) j
    exact this.trans ((bytesRow_at s _ j hj').trans (by simp))
  · intro j hj
    have hj' : j < s.data.size := by simpa using hj
    have := World.frozen?_alloc_mark w.drew (bytesRow s (grownCap w s.size 0 5)) 5 (bytesRow s (grownCap w s.size 0 5)).size ((bytesRow s (grownCap w s.size 0 5)).size + 1) j
    refine this.trans ?_
    have hsz : j < (bytesRow s (grownCap w s.size 0 5)).size := by simp only [bytesRow, Array.size_append, Array.size_map, Array.size_replicate]; omega
    clear this hj
    simp; omega

theorem Row.below {W W' : World} {b B : Nat} {l : List UInt8} (h : Row W b l) (hb : Below B W W') (hB : b < B) : Row W' b l :=
  ⟨fun j hj => (hb.cell (p := ⟨b, j, none⟩) hB).trans (h.1 j hj), fun j hj => (hb.frozen (p := ⟨b, j, none⟩) hB).trans (h.2 j hj)⟩

theorem u8_back (n : Int) (h0 : 0 ≤ n) (h1 : n ≤ 255) : ((UInt8.ofNat n.toNat).toNat : Int) = n := by
  simp [UInt8.toNat_ofNat']; omega

/-- A byte that is put into the row. -/
theorem Row.set {W : World} {b : Nat} {l : List UInt8} (h : Row W b l) (i : Nat) (hi : i < l.length) (n : Int) (h0 : 0 ≤ n) (h1 : n ≤ 255) :
    Row (W.setCell ⟨b, i, none⟩ (.int .u8 n)) b (l.set i (UInt8.ofNat n.toNat)) := by
  refine ⟨fun j hj => ?_, fun j hj => ?_⟩
  · have hj' : j < l.length := by simpa using hj
    by_cases e : i = j
    · subst e
      rw [World.cell?_setCell_same _ _ _ (h.1 i hi)]
      simp only [List.getElem_set_self]
      rw [u8_back n h0 h1]
    · rw [World.cell?_setCell_other _ _ _ _ (fun h => e (congrArg Addr.off h)), h.1 j hj', List.getElem_set_ne e]
  · have hj' : j < l.length := by simpa using hj
    rw [World.frozen?_setCell]
    exact h.2 j hj'

/-- 'string(b)'. -/
theorem Row.back {W : World} {b : Nat} {l : List UInt8} (h : Row W b l) (n cap : Nat) (hn : l.length = n) :
    (convert 22 9 (.slice (some ⟨b, 0, none⟩) n cap)).run Tryd.prog W = .ok (.string ⟨l.toArray⟩) W := by
  subst hn
  exact run_convert_bytes_back (P := Tryd.prog) W 22 9 5 ⟨b, 0, none⟩ cap l Tryd.underlying22 Tryd.underlying5 Tryd.underlying9 (fun j hj => by rw [Go.WideShapes.add_plain, Nat.zero_add]; exact h.1 j hj)

/-- A text with a byte at a place. -/
def setB (s : ByteArray) (i : Nat) (n : Int) : ByteArray := ⟨(s.data.toList.set i (UInt8.ofNat n.toNat)).toArray⟩
theorem setB_list (s : ByteArray) (i : Nat) (n : Int) : (setB s i n).data.toList = s.data.toList.set i (UInt8.ofNat n.toNat) := by simp [setB]
theorem setB_size (s : ByteArray) (i : Nat) (n : Int) : (setB s i n).size = s.size := by
  have := congrArg List.length (setB_list s i n)
  simpa using this

set_option maxHeartbeats 400000 in
theorem l1With_any (s : ByteArray) (i : Nat) (n : Int) (w : World) (hi : i < s.size) (h0 : 0 ≤ n) (h1 : n ≤ 255) :
    Calls Tryd.prog 36 #[.string s, .int .i64 i, .int .i64 n] w fun e w' => e = .returned (.string (setB s i n)) ∧ Below w.heap.size w w' := by
  obtain ⟨cap, W1, hconv, hb, -, hr⟩ := conv_row s w
  have hi' : i < s.data.toList.length := by simpa using hi
  have hback := (hr.set i hi' n h0 h1).back s.size cap (by simp)
  obtain ⟨c0, hcell⟩ : ∃ c0, W1.cell? ⟨w.heap.size, i, none⟩ = some c0 := ⟨_, hr.1 i hi'⟩
  have hfz := hr.2 i hi'
  have HB : Hid (Below w.heap.size w (W1.setCell ⟨w.heap.size, i, none⟩ (.int .u8 n))) := hb.setCell (Nat.le_refl _) _
  clear hr hb hi'
  go_enter Tryd.func36, Tryd.ntmps36
  go_wp2
  go_ret
  exact ⟨rfl, HB.out⟩
end Go.Proofs.YtfeiefgmeleeiaaDoor
