/-
  What a call that makes memory leaves of the world: below a block number all is as it was, and no block has gone; 'l1With' in that form, its place a number.
-/
import Derived.Test.YtfeiefgmeleeiaqDoorBytes
import Derived.Deep.Draws
namespace Go.Proofs.YtfeiefgmeleeiaqDoor
open Go.RowKit

/-- Below block B the world w is as w0 was, and it has B blocks at least. -/
def Since (B : Nat) (w0 w : World) : Prop := Below B w0 w ∧ B ≤ w.heap.size
theorem Since.start (w : World) : Since w.heap.size w w := ⟨Below.refl _ _, Nat.le_refl _⟩
theorem Since.step {B : Nat} {w0 w w' : World} (h : Since B w0 w) (hb : Below w.heap.size w w') : Since B w0 w' :=
  ⟨h.1.trans (hb.mono h.2), Nat.le_trans h.2 hb.size⟩

theorem Since.drew {B : Nat} {w0 w : World} (h : Since B w0 w) : Since B w0 w.drew := ⟨h.1.drew, h.2⟩

theorem Since.drewN {B : Nat} {w0 w : World} (h : Since B w0 w) (n : Nat) : Since B w0 (w.drewN n) := ⟨⟨h.1.os, h.1.tape, h.1.output, h.1.size, h.1.block⟩, h.2⟩

/-- A text with a byte at a place that is a number. -/
def setZ (s : ByteArray) (k n : Int) : ByteArray := setB s k.toNat n
theorem setZ_size (s : ByteArray) (k n : Int) : (setZ s k n).size = s.size := setB_size s _ n
theorem setZ_list (s : ByteArray) (k n : Int) : (setZ s k n).data.toList = s.data.toList.set k.toNat (UInt8.ofNat n.toNat) := setB_list s _ n

theorem l1With_z {B : Nat} {w0 : World} (s : ByteArray) (k n : Int) (w : World) (hw : Since B w0 w) (k0 : 0 ≤ k) (k1 : k < s.size) (h0 : 0 ≤ n) (h1 : n ≤ 255) :
    Calls Tryd.prog 20 #[.string s, .int .i64 k, .int .i64 n] w fun e w' => e = .returned (.string (setZ s k n)) ∧ Since B w0 w' := by
  obtain ⟨i, rfl⟩ : ∃ i : Nat, k = i := ⟨k.toNat, by omega⟩
  refine (l1With_any s i n w (by omega) h0 h1).mono fun e w' ⟨he, hb⟩ => ⟨?_, hw.step hb⟩
  rw [he]
  simp [setZ]
end Go.Proofs.YtfeiefgmeleeiaqDoor
