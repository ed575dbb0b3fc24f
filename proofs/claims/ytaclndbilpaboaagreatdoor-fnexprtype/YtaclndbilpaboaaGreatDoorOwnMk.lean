/-
  What is reckoned in memory of its own, made out of a block of one or two kids.
-/
import Derived.Test.YtaclndbilpaboaaGreatDoorOwn
namespace Go.Proofs.YtaclndbilpaboaaGreatDoor
open Go.RowKit

/-- The four cells of a kid. -/
def kidCells (e : Ex) (D : Option Addr) (c : Nat) : List Value := [.int .i64 e.kind, .int .i64 e.n, .string e.s, .slice D e.kids.length c]
theorem own_one {w : World} {k n : Int} {s : ByteArray} {x : Ex} {D : Option Addr} {c g lo mid hi : Nat} (hB : Blk w g (kidCells x D c).toArray) (hc : x.kids.length ≤ c) (hO : OwnE w x lo mid D) (hm : mid ≤ g) (hg : g < hi) : OwnE w (.mk k n s [x]) lo hi (some ⟨g, 0, none⟩) := by
  have hl := own_le _ _ _ _ _ hO
  have b0 := hB.cell 0
  have b1 := hB.cell 1
  have b2 := hB.cell 2
  have b3 := hB.cell 3
  rw [OwnE]
  refine .inr ⟨g, lo, mid, rfl, by omega, hg, Nat.le_refl _, by omega, .inr hm, ⟨_, hB⟩, ?_⟩
  rw [OwnL]
  exact ⟨D, c, mid, ⟨b0, b1, b2, b3, hc⟩, hO, by rw [OwnL]; exact Nat.le_refl _⟩
theorem own_two {w : World} {k n : Int} {s : ByteArray} {x y : Ex} {D E : Option Addr} {c d g lo m1 m2 hi : Nat} (hB : Blk w g (kidCells x D c ++ kidCells y E d).toArray) (hc : x.kids.length ≤ c) (hd : y.kids.length ≤ d) (hO : OwnE w x lo m1 D) (hP : OwnE w y m1 m2 E) (hm : m2 ≤ g) (hg : g < hi) : OwnE w (.mk k n s [x, y]) lo hi (some ⟨g, 0, none⟩) := by
  have hl := own_le _ _ _ _ _ hO
  have hl2 := own_le _ _ _ _ _ hP
  have b0 := hB.cell 0
  have b1 := hB.cell 1
  have b2 := hB.cell 2
  have b3 := hB.cell 3
  have b4 := hB.cell 4
  have b5 := hB.cell 5
  have b6 := hB.cell 6
  have b7 := hB.cell 7
  rw [OwnE]
  refine .inr ⟨g, lo, m2, rfl, by omega, hg, Nat.le_refl _, by omega, .inr hm, ⟨_, hB⟩, ?_⟩
  rw [OwnL]
  refine ⟨D, c, m1, ⟨b0, b1, b2, b3, hc⟩, hO, ?_⟩
  rw [OwnL]
  exact ⟨E, d, m2, ⟨b4, b5, b6, b7, hd⟩, hP, by rw [OwnL]; exact Nat.le_refl _⟩
end Go.Proofs.YtaclndbilpaboaaGreatDoor
