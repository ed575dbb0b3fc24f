/-
  The contracts of the reader of codes: l12Open, pick, of, num, for all codes.
-/
import Derived.Test.YtaclndbilpaboaaGreatDoorBase
import Derived.OpenShut
import Derived.Laws.BitsAllLaws
import Derived.Laws.BitsLemmas
namespace Go.Proofs.YtaclndbilpaboaaGreatDoor
open Go.RowKit

/-- Block g is a box of two cells. -/
def Box2 (W : World) (g : Nat) (t : TypeId) (x y : Value) : Prop := W.heap[g]? = some (.cells #[x, y] t (0, 0))
theorem Box2.new (w : World) (t : TypeId) (x y : Value) : Box2 (w.alloc (.cells #[x, y] t)) w.heap.size t x y := World.alloc_heap_new w _
theorem Box2.below {W W' : World} {g : Nat} {t : TypeId} {x y : Value} {B : Nat} (h : Box2 W g t x y) (hb : Below B W W') (hg : g < B) : Box2 W' g t x y := (hb.block g hg).trans h
theorem Box2.cell0 {W : World} {g : Nat} {t : TypeId} {x y : Value} (h : Box2 W g t x y) : W.cell? ⟨g, 0, none⟩ = some x := by simp [World.cell?, show W.heap[g]? = _ from h]
theorem Box2.cell1 {W : World} {g : Nat} {t : TypeId} {x y : Value} (h : Box2 W g t x y) : W.cell? ⟨g, 1, none⟩ = some y := by simp [World.cell?, show W.heap[g]? = _ from h]
theorem Box2.frozen {W : World} {g : Nat} {t : TypeId} {x y : Value} (h : Box2 W g t x y) (i : Nat) : W.frozen? ⟨g, i, none⟩ = false := by simp [World.frozen?, show W.heap[g]? = _ from h]

theorem Box2.set {W : World} {g : Nat} {t : TypeId} {x y : Value} (h : Box2 W g t x y) (a b : Value) : Box2 ((W.setCell ⟨g, 0, none⟩ a).setCell ⟨g, 1, none⟩ b) g t a b := by
  have h1 := heap_setCell_same W g 0 #[x, y] t a h
  have h2 := heap_setCell_same _ g 1 _ t b h1
  exact h2
theorem below_set2 {w W : World} (h : Below w.heap.size w W) {g : Nat} (hg : w.heap.size ≤ g) (a b : Value) : Below w.heap.size w ((W.setCell ⟨g, 0, none⟩ a).setCell ⟨g, 1, none⟩ b) :=
  (h.setCell (p := ⟨g, 0, none⟩) hg a).setCell (p := ⟨g, 1, none⟩) hg b

/-- The code that came in: bytes, below block B. -/
def Code (w : World) (B : Nat) (A : Option Addr) (len : Nat) : Prop :=
  len = 0 ∨ ∃ h off, A = some ⟨h, off, none⟩ ∧ h < B ∧ ∀ j, j < len → ∃ z : Int, 0 ≤ z ∧ z ≤ 255 ∧ w.cell? ⟨h, off + j, none⟩ = some (.int .u8 z)

/-- A reader at block g, behind B, that has read so often. -/
def Rd (w : World) (B g : Nat) (A : Option Addr) (len cap p : Nat) : Prop :=
  Box2 w g 82 (.slice A len cap) (.int .i64 (p : Int)) ∧ B ≤ g ∧ Code w B A len ∧ len ≤ 2000

theorem grown_cell {w w' : World} {g : Nat} (h : w.grownBy w' (some g)) {p : Addr} (hp : p.block < w.heap.size) (hne : p.block ≠ g) : w'.cell? p = w.cell? p :=
  World.cell?_of_block (h.block p.block hp (fun e => hne (by injection e)))
theorem Code.grown {w w' : World} {B g : Nat} {A : Option Addr} {len : Nat} (hc : Code w B A len) (h : w.grownBy w' (some g)) (hB : B ≤ w.heap.size) (hg : B ≤ g) : Code w' B A len := by
  rcases hc with h0 | ⟨hh, off, e, hb, hcell⟩
  · exact .inl h0
  · refine .inr ⟨hh, off, e, hb, fun j hj => ?_⟩
    obtain ⟨z, z0, z1, hz⟩ := hcell j hj
    exact ⟨z, z0, z1, (grown_cell h (p := ⟨hh, off + j, none⟩) (by show hh < _; omega) (by show hh ≠ g; omega)).trans hz⟩
theorem grown_refl (w : World) (g : Option Nat) : w.grownBy w g := ⟨rfl, rfl, rfl, Nat.le_refl _, fun _ _ _ => rfl⟩
theorem grown_drews {a w : World} {row : Option Nat} (h : a.grownBy w row) (n : Nat) : a.grownBy (w.drewN n) row := ⟨h.os, h.tape, h.output, h.size, h.block⟩
theorem grown_set {w : World} (g i : Nat) (v : Value) : w.grownBy (w.setCell ⟨g, i, none⟩ v) (some g) :=
  ⟨rfl, rfl, rfl, by simp [World.setCell], fun k _ hk => Below.heap_setCell w ⟨g, i, none⟩ v k (fun e => hk (by rw [e]))⟩
theorem grown_alloc {a w : World} {row : Option Nat} (h : a.grownBy w row) (o : Obj) : a.grownBy (w.alloc o) row :=
  ⟨h.os, h.tape, h.output, Nat.le_trans h.size (by simp), fun i hi hne => (Below.heap_alloc w o i (Nat.lt_of_lt_of_le hi h.size)).trans (h.block i hi hne)⟩
theorem grown_trans {a b c : World} {g : Nat} (h : a.grownBy b (some g)) (k : b.grownBy c (some g)) : a.grownBy c (some g) :=
  ⟨k.os.trans h.os, k.tape.trans h.tape, k.output.trans h.output, Nat.le_trans h.size k.size, fun i hi hne => (k.block i (Nat.lt_of_lt_of_le hi h.size) hne).trans (h.block i hi hne)⟩
theorem grown_below {w w' : World} {B g : Nat} (h : w.grownBy w' (some g)) (hB : B ≤ g) (hw : B ≤ w.heap.size) : Below B w w' :=
  ⟨h.os, h.tape, h.output, h.size, fun k hk => h.block k (by omega) (fun e => by injection e with e; omega)⟩
theorem Box2.set1 {W : World} {g : Nat} {t : TypeId} {x y : Value} (h : Box2 W g t x y) (b : Value) : Box2 (W.setCell ⟨g, 1, none⟩ b) g t x b :=
  heap_setCell_same W g 1 #[x, y] t b h

/-- The reader has read k times more, and all else is as it was. -/
def Read (w : World) (B g : Nat) (A : Option Addr) (len cap p k : Nat) (w' : World) : Prop := ∃ q, p ≤ q ∧ q ≤ p + k ∧ Rd w' B g A len cap q ∧ w.grownBy w' (some g)

theorem Rd.lt {w : World} {B g : Nat} {A : Option Addr} {len cap p : Nat} (h : Rd w B g A len cap p) : g < w.heap.size := (Array.getElem?_eq_some_iff.1 h.1).1
theorem Rd.after {w : World} {B g : Nat} {A : Option Addr} {len cap p : Nat} (h : Rd w B g A len cap p) (q : Nat) (n : Nat) : Rd ((w.setCell ⟨g, 1, none⟩ (.int .i64 (q : Int))).drewN n) B g A len cap q :=
  ⟨h.1.set1 _, h.2.1, h.2.2.1.grown (grown_drews (grown_set g 1 _) n) (by have := h.lt; have := h.2.1; omega) h.2.1, h.2.2.2⟩

theorem xor_nat (a b : Nat) (ha : a < 2 ^ 40) (hb : b < 2 ^ 40) : ∃ c : Nat, c < 2 ^ 40 ∧ bits .xor .i64 (a : Int) (b : Int) = (c : Int) := by
  have hlt : a ^^^ b < 2 ^ 40 := Nat.xor_lt_two_pow ha hb
  refine ⟨a ^^^ b, hlt, ?_⟩
  have ea : (BitVec.ofInt 64 (a : Int)).toNat = a := by
    rw [BitVec.ofInt_natCast, BitVec.toNat_ofNat, Nat.mod_eq_of_lt (by omega)]
  have eb : (BitVec.ofInt 64 (b : Int)).toNat = b := by
    rw [BitVec.ofInt_natCast, BitVec.toNat_ofNat, Nat.mod_eq_of_lt (by omega)]
  show IntKind.i64.wrap ((BitVec.ofInt 64 (a : Int) ^^^ BitVec.ofInt 64 (b : Int)).toNat : Int) = _
  rw [BitVec.toNat_xor, ea, eb]
  exact IntWalk.i64_in _ (by omega)

/-- A number that was picked. -/
def Picked (w : World) (B g : Nat) (A : Option Addr) (len cap p n : Nat) (e : Ending) (w' : World) : Prop :=
  ∃ v : Nat, v < n ∧ e = .returned (.int .i64 (v : Int)) ∧ Read w B g A len cap p 1 w'

set_option maxRecDepth 100000 in
set_option maxHeartbeats 2000000 in
theorem pick_any (B g : Nat) (A : Option Addr) (len cap p n : Nat) (w : World) (hr : Rd w B g A len cap p) (hp : p ≤ 2 ^ 30) (hn : 0 < n) (hn2 : n ≤ 2 ^ 30) :
    Calls Tryz.prog 34 #[.pointer (some ⟨g, 0, none⟩), .int .i64 (n : Int)] w (Picked w B g A len cap p n) := by
  have HR := Lib.hid hr
  obtain ⟨bx, hBg, hcode, hlen⟩ := hr
  have c0 := bx.cell0
  have c1 := bx.cell1
  have f1 := bx.frozen 1
  have q0 : decide ((n : Int) < 1) = false := by simp; omega
  by_cases hl0 : len = 0
  · subst hl0
    clear hcode bx
    go_enter Tryz.func34, Tryz.ntmps34
    go_wp2
    go_ret
    exact ⟨0, hn, rfl, p + 1, by omega, Nat.le_refl _, by have := HR.out.after (p + 1) 0; exact this, grown_set g 1 _⟩
  · have q1 : ((len : Int) == 0) = false := by simp; omega
    obtain ⟨h, off, rfl, hhB, hcell⟩ : ∃ h off, A = some ⟨h, off, none⟩ ∧ h < B ∧ ∀ j, j < len → ∃ z : Int, 0 ≤ z ∧ z ≤ 255 ∧ w.cell? ⟨h, off + j, none⟩ = some (.int .u8 z) := by
      rcases hcode with h0 | h0
      · exact absurd h0 hl0
      · exact h0
    by_cases hpl : p < len
    · obtain ⟨z, z0, z1, hz⟩ := hcell p hpl
      have hne : ¬ h = g := by omega
      clear hcell hcode bx
      go_enter Tryz.func34, Tryz.ntmps34
      go_wp2
      go_ret
      have h1 : 0 ≤ z % (n : Int) := Int.emod_nonneg _ (by omega)
      have h2 : z % (n : Int) < (n : Int) := Int.emod_lt_of_pos _ (by omega)
      exact ⟨(z % (n : Int)).toNat, by omega, congrArg (fun x => Ending.returned (.int .i64 x)) (by show z % (n : Int) = _; omega), p + 1, by omega, Nat.le_refl _, by have := HR.out.after (p + 1) 0; exact this, grown_set g 1 _⟩
    · have hq : p % len < len := Nat.mod_lt _ (by omega)
      have hq2 : (p * 7 + 3) % len < len := Nat.mod_lt _ (by omega)
      obtain ⟨z, z0, z1, hz⟩ := hcell _ hq
      obtain ⟨y, y0, y1, hy⟩ := hcell _ hq2
      have hne : ¬ h = g := by omega
      have hdv : p / len ≤ p := Nat.div_le_self _ _
      clear hcell hcode bx
      go_enter Tryz.func34, Tryz.ntmps34
      go_wp2
      generalize hmA : p % len = mA at *
      generalize hmB : (p * 7 + 3) % len = mB at *
      generalize hmC : p / len = mC at *
      have e1 : (p : Int).tmod (len : Int) = (mA : Int) := by rw [← hmA]; exact Int.ofNat_tmod _ _ |>.symm
      have e2 : ((p : Int) * 7 + 3).tmod (len : Int) = (mB : Int) := by rw [← hmB]; exact Int.ofNat_tmod (p * 7 + 3) len |>.symm
      have e3 : (p : Int).tdiv (len : Int) = (mC : Int) := by rw [← hmC]; exact Int.ofNat_tdiv _ _ |>.symm
      have w1 : IntKind.i64.wrap (z * 131) = z * 131 := IntWalk.i64_in _ (by omega)
      have w2 : IntKind.i64.wrap ((p : Int) * 7) = (p : Int) * 7 := IntWalk.i64_in _ (by omega)
      have w3 : IntKind.i64.wrap ((p : Int) * 7 + 3) = (p : Int) * 7 + 3 := IntWalk.i64_in _ (by omega)
      have w4 : IntKind.i64.wrap (y * 1117) = y * 1117 := IntWalk.i64_in _ (by omega)
      have w5 : IntKind.i64.wrap (z * 131 + y * 1117) = z * 131 + y * 1117 := IntWalk.i64_in _ (by omega)
      have w6 : IntKind.i64.wrap ((p : Int) * 29) = (p : Int) * 29 := IntWalk.i64_in _ (by omega)
      have w7 : IntKind.i64.wrap (z * 131 + y * 1117 + (p : Int) * 29) = z * 131 + y * 1117 + (p : Int) * 29 := IntWalk.i64_in _ (by omega)
      have w8 : IntKind.i64.wrap ((mC : Int) * 53) = (mC : Int) * 53 := IntWalk.i64_in _ (by omega)
      have w9 : IntKind.i64.wrap (z * 131 + y * 1117 + (p : Int) * 29 + (mC : Int) * 53) = z * 131 + y * 1117 + (p : Int) * 29 + (mC : Int) * 53 := IntWalk.i64_in _ (by omega)
      clear hmA hmB hmC
      have hx0 : 0 ≤ z * 131 + y * 1117 + (p : Int) * 29 + (mC : Int) * 53 := by omega
      have hx1 : z * 131 + y * 1117 + (p : Int) * 29 + (mC : Int) * 53 < 2 ^ 40 := by omega
      go_quiet (fail)
      clear w1 w2 w3 w4 w5 w6 w7 w8 w9 e1 e2 e3
      obtain ⟨X, hX⟩ := Int.eq_ofNat_of_zero_le hx0
      rw [hX] at hx1 ⊢
      clear hX hx0
      have hX2 : X < 2 ^ 40 := by omega
      obtain ⟨c, hc40, hxor⟩ := xor_nat X (X / 64) hX2 (by omega)
      have hdv2 : ((X / 64 : Nat) : Int) = (X : Int) / 64 := by omega
      rw [hdv2] at hxor
      go_wp2
      go_ret
      have h1 : 0 ≤ (c : Int) % (n : Int) := Int.emod_nonneg _ (by omega)
      have h2 : (c : Int) % (n : Int) < (n : Int) := Int.emod_lt_of_pos _ (by omega)
      exact ⟨((c : Int) % (n : Int)).toNat, by omega, congrArg (fun x => Ending.returned (.int .i64 x)) (by show (c : Int) % (n : Int) = _; omega), p + 1, by omega, Nat.le_refl _, by have := HR.out.after (p + 1) nq; exact this, grown_drews (grown_set g 1 _) nq⟩

/-- A slice of bytes that came in. -/
def InCode (w : World) (a : Option Addr) (len cap : Nat) : Prop := len ≤ cap ∧ cap ≤ maxLen ∧ Code w w.heap.size a len
theorem inCode_nil (w : World) : InCode w none 0 0 := ⟨Nat.le_refl _, Nat.zero_le _, .inl rfl⟩
theorem inCode_of {w : World} {x : Addr} {len cap : Nat} {zs : List Int} (hl : len ≤ cap) (hm : cap ≤ maxLen) (hz : zs.length = cap) (hc : ∀ i, i < zs.length → w.cell? (x.add i) = some (.int .u8 (zs.getD i 0))) (hw : ∀ n ∈ zs, (Lit.int .u8 n).wf = true) :
    InCode w (some x) len cap := by
  refine ⟨hl, hm, ?_⟩
  by_cases h0 : len = 0
  · exact .inl h0
  · obtain ⟨b, off, rfl, hcell⟩ := ints_at hc (by omega)
    have hb : b < w.heap.size := by
      have h1 := hcell 0 (by omega)
      rcases Nat.lt_or_ge b w.heap.size with h | h
      · exact h
      · simp [World.cell?, Array.getElem?_eq_none h] at h1
    refine .inr ⟨b, off, rfl, hb, fun j hj => ?_⟩
    have hjz : j < zs.length := by omega
    have hwf := bounds_u8 (hw (zs.getD j 0) (by simp [List.getD, hjz]))
    exact ⟨zs.getD j 0, hwf.1, hwf.2, hcell j hjz⟩

theorem InCode.below {w w' : World} {a : Option Addr} {len cap : Nat} (h : InCode w a len cap) (hb : Below w.heap.size w w') : InCode w' a len cap := by
  refine ⟨h.1, h.2.1, ?_⟩
  rcases h.2.2 with h0 | ⟨hh, off, e, hlt, hc⟩
  · exact .inl h0
  · refine .inr ⟨hh, off, e, Nat.lt_of_lt_of_le hlt hb.size, fun j hj => ?_⟩
    obtain ⟨z, z0, z1, hz⟩ := hc j hj
    exact ⟨z, z0, z1, (hb.cell (p := ⟨hh, off + j, none⟩) hlt).trans hz⟩

/-- A reader was made. -/
def Opened (w : World) (e : Ending) (w' : World) : Prop := ∃ A len cap, e = .returned (.pointer (some ⟨w.heap.size, 0, none⟩)) ∧ Rd w' w.heap.size w.heap.size A len cap 0 ∧ Below w.heap.size w w'

theorem Code.cut {w : World} {B : Nat} {A : Option Addr} {n k : Nat} (h : Code w B A n) (hk : k ≤ n) : Code w B A k := by
  rcases h with h0 | ⟨hh, off, e, hb, hc⟩
  · exact .inl (by omega)
  · exact .inr ⟨hh, off, e, hb, fun j hj => hc j (by omega)⟩
theorem Rd.new {w : World} {A : Option Addr} {len cap : Nat} (h : Code w w.heap.size A len) (hl : len ≤ 2000) : Rd (w.alloc (.cells #[.slice A len cap, .int .i64 0] 82)) w.heap.size w.heap.size A len cap 0 := by
  refine ⟨Box2.new w _ _ _, Nat.le_refl _, ?_, hl⟩
  rcases h with h0 | ⟨hh, off, e, hb, hc⟩
  · exact .inl h0
  · refine .inr ⟨hh, off, e, hb, fun j hj => ?_⟩
    obtain ⟨z, z0, z1, hz⟩ := hc j hj
    exact ⟨z, z0, z1, (World.cell?_alloc_lt w _ ⟨hh, off + j, none⟩ hb).trans hz⟩

set_option maxHeartbeats 1000000 in
theorem open_any (A : Option Addr) (len cap : Nat) (w : World) (h : InCode w A len cap) :
    Calls Tryz.prog 32 #[.slice A len cap] w (Opened w) := by
  obtain ⟨hl, hm, hc⟩ := h
  unfold maxLen at hm
  have HC := Lib.hid hc
  by_cases hbig : 2000 < len
  · have q1 : (2000 : Int) < (len : Int) := by omega
    have hcap : (2000 : Int) ≤ (cap : Int) := by omega
    obtain ⟨h, off, rfl, _⟩ : ∃ h off, A = some ⟨h, off, none⟩ ∧ True := by
      rcases hc with h0 | ⟨h, off, e, _⟩
      · omega
      · exact ⟨h, off, e, trivial⟩
    clear hc
    go_enter Tryz.func32, Tryz.ntmps32
    go_wp2
    go_ret
    exact ⟨_, 2000, cap, rfl, Rd.new (HC.out.cut (by omega)) (Nat.le_refl _), (Below.refl _ w).alloc (Nat.le_refl _) _⟩
  · have q1 : ¬ (2000 : Int) < (len : Int) := by omega
    clear hc
    go_enter Tryz.func32, Tryz.ntmps32
    go_wp2
    go_ret
    exact ⟨A, len, cap, rfl, Rd.new HC.out (by omega), (Below.refl _ w).alloc (Nat.le_refl _) _⟩

/-- One of a list was picked. -/
def OneOf (w : World) (B g : Nat) (A : Option Addr) (len cap p : Nat) (xs : List Value) (e : Ending) (w' : World) : Prop :=
  ∃ u, u ∈ xs ∧ e = .returned u ∧ Read w B g A len cap p 1 w'

theorem Read.cell {w w' : World} {B g : Nat} {A : Option Addr} {len cap p k : Nat} (h : Read w B g A len cap p k w') {x : Addr} (hx : x.block < w.heap.size) (hne : x.block ≠ g) : w'.cell? x = w.cell? x := by
  obtain ⟨_, _, _, _, hg⟩ := h
  exact grown_cell hg hx hne

set_option maxHeartbeats 1000000 in
theorem of_any (B g : Nat) (A : Option Addr) (len cap p b n c : Nat) (ss : List ByteArray) (w : World) (hr : Rd w B g A len cap p) (hp : p ≤ 2 ^ 30) (hss : ss.length = n) (hn : 0 < n) (hn2 : n ≤ 2 ^ 20) (hb : b < w.heap.size) (hbg : b ≠ g)
    (hc : ∀ j (hj : j < ss.length), w.cell? ⟨b, j, none⟩ = some (.string ss[j])) :
    Calls Tryz.prog 35 #[.pointer (some ⟨g, 0, none⟩), .slice (some ⟨b, 0, none⟩) n c] w (OneOf w B g A len cap p (ss.map strV)) := by
  have HP := Lib.hid (pick_any B g A len cap p n w hr hp hn (by omega))
  have HC := Lib.hid hc
  have HS := Lib.hid hss
  clear hc hr hss
  go_enter Tryz.func35, Tryz.ntmps35
  go_wp2_with fail
  refine HP.out.mono ?_
  rintro e w1 ⟨v, hv, rfl, hrd⟩
  have hcell := (hrd.cell (x := ⟨b, v, none⟩) hb hbg).trans (HC.out v (by rw [HS.out]; exact hv))
  have hmem : ss[v]'(by rw [HS.out]; exact hv) ∈ ss := List.getElem_mem _
  generalize ss[v]'(by rw [HS.out]; exact hv) = t at *
  have hv0 : (v : Int) < (n : Int) := by omega
  go_wp2
  go_ret
  exact ⟨.string t, List.mem_map.2 ⟨t, hmem, rfl⟩, rfl, hrd⟩

theorem Read.refl {w : World} {B g : Nat} {A : Option Addr} {len cap p : Nat} (h : Rd w B g A len cap p) : Read w B g A len cap p 0 w := ⟨p, Nat.le_refl _, Nat.le_refl _, h, grown_refl _ _⟩
theorem Box2.allocD {W : World} {g : Nat} {t : TypeId} {x y : Value} (h : Box2 W g t x y) (o : Obj) : Box2 (W.alloc o) g t x y := (Below.heap_alloc W o g (Array.getElem?_eq_some_iff.1 h).1).trans h
theorem Rd.alloc {w : World} {B g : Nat} {A : Option Addr} {len cap p : Nat} (h : Rd w B g A len cap p) (o : Obj) : Rd (w.alloc o) B g A len cap p :=
  ⟨h.1.allocD o, h.2.1, h.2.2.1.grown (grown_alloc (grown_refl w (some g)) o) (by have := h.lt; have := h.2.1; omega) h.2.1, h.2.2.2⟩

theorem cell_made (w : World) (cs : Array Value) (t : TypeId) (j : Nat) : (w.alloc (.cells cs t)).cell? ⟨w.heap.size, j, none⟩ = cs[j]? := by
  have h := World.alloc_heap_new w (.cells cs t)
  simp only [World.cell?]
  rw [h]
  rfl

set_option maxHeartbeats 1000000 in
theorem num_any (B g : Nat) (A : Option Addr) (len cap p b n c : Nat) (zs : List Int) (w : World) (hr : Rd w B g A len cap p) (hp : p ≤ 2 ^ 30) (hss : zs.length = n) (hn : 0 < n) (hn2 : n ≤ 2 ^ 20) (hb : b < w.heap.size) (hbg : b ≠ g)
    (hc : ∀ j (hj : j < zs.length), w.cell? ⟨b, j, none⟩ = some (.int .i64 zs[j])) :
    Calls Tryz.prog 36 #[.pointer (some ⟨g, 0, none⟩), .slice (some ⟨b, 0, none⟩) n c] w (OneOf w B g A len cap p (zs.map (Value.int .i64))) := by
  have HP := Lib.hid (pick_any B g A len cap p n w hr hp hn (by omega))
  have HC := Lib.hid hc
  have HS := Lib.hid hss
  clear hc hr hss
  go_enter Tryz.func36, Tryz.ntmps36
  go_wp2_with fail
  refine HP.out.mono ?_
  rintro e w1 ⟨v, hv, rfl, hrd⟩
  have hcell := (hrd.cell (x := ⟨b, v, none⟩) hb hbg).trans (HC.out v (by rw [HS.out]; exact hv))
  have hmem : zs[v]'(by rw [HS.out]; exact hv) ∈ zs := List.getElem_mem _
  generalize zs[v]'(by rw [HS.out]; exact hv) = t at *
  have hv0 : (v : Int) < (n : Int) := by omega
  go_wp2
  go_ret
  exact ⟨.int .i64 t, List.mem_map.2 ⟨t, hmem, rfl⟩, rfl, hrd⟩

theorem Read.below {w w' : World} {B g : Nat} {A : Option Addr} {len cap p k : Nat} (h : Read w B g A len cap p k w') (hB : B ≤ g) (hw : B ≤ w.heap.size) : Below B w w' := by
  obtain ⟨_, _, _, _, hg⟩ := h
  exact grown_below hg hB hw

theorem Rd.kept {w w' : World} {B g : Nat} {A : Option Addr} {len cap p : Nat} {v : Value} {base : Nat} {t : TypeId} {n : Nat} {xs : List Value} (h : Rd w B g A len cap p) (hg : w.grownBy w' v.ownBlock) (hne : v.ownBlock ≠ some g) (hrow : w.ownsRow base t 1 v n xs) (hb : B ≤ base) : Rd w' B g A len cap p := by
  refine ⟨(hg.block g h.lt (fun e => hne e.symm)).trans h.1, h.2.1, ?_, h.2.2.2⟩
  rcases h.2.2.1 with h0 | ⟨hh, off, e, hlt, hc⟩
  · exact .inl h0
  · refine .inr ⟨hh, off, e, hlt, fun j hj => ?_⟩
    obtain ⟨z, z0, z1, hz⟩ := hc j hj
    have hblk : w'.heap[hh]? = w.heap[hh]? := hg.block hh (by have := h.lt; have := h.2.1; omega) (fun e => by
      have := (hrow.lt hh e.symm).1
      omega)
    exact ⟨z, z0, z1, (World.cell?_of_block (a := ⟨hh, off + j, none⟩) hblk).trans hz⟩


end Go.Proofs.YtaclndbilpaboaaGreatDoor
