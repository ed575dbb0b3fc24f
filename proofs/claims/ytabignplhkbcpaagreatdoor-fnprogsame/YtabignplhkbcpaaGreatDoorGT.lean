/-
  Rd, DrawEx, DrawEx2, DrawOk: these texts one behind the other, as a claim holds at most 60 files.
-/
import Derived.Test.YtabignplhkbcpaaGreatDoorGB
import Derived.OpenShut
import Derived.Laws.BitsAllLaws
import Derived.Laws.BitsLemmas
import Derived.Test.YtabignplhkbcpaaGreatDoorGD
import Derived.Test.YtabignplhkbcpaaGreatDoorGL
namespace Go.Proofs.YtabignplhkbcpaaGreatDoor
open Go.RowKit

/-- Block g is a box of two cells. -/
def Box2 (W : World) (g : Nat) (t : TypeId) (x y : Value) : Prop := W.heap[g]? = some (.cells #[x, y] t (0, 0))
theorem Box2.new (w : World) (t : TypeId) (x y : Value) : Box2 (w.alloc (.cells #[x, y] t)) w.heap.size t x y := World.alloc_heap_new w _
theorem Box2.below {W W' : World} {g : Nat} {t : TypeId} {x y : Value} {B : Nat} (h : Box2 W g t x y) (hb : Below B W W') (hg : g < B) : Box2 W' g t x y := (hb.block g hg).trans h
theorem Box2.cell0 {W : World} {g : Nat} {t : TypeId} {x y : Value} (h : Box2 W g t x y) : W.cell? ⟨g, 0, none⟩ = some x := by simp [World.cell?, show W.heap[g]? = _ from h]
theorem Box2.cell1 {W : World} {g : Nat} {t : TypeId} {x y : Value} (h : Box2 W g t x y) : W.cell? ⟨g, 1, none⟩ = some y := by simp [World.cell?, show W.heap[g]? = _ from h]
theorem Box2.frozen {W : World} {g : Nat} {t : TypeId} {x y : Value} (h : Box2 W g t x y) (i : Nat) : W.frozen? ⟨g, i, none⟩ = false := by simp [World.frozen?, show W.heap[g]? = _ from h]

theorem Box2.set {W : World} {g : Nat} {t : TypeId} {x y : Value} (h : Box2 W g t x y) (a b : Value) : Box2 ((W.setCell ⟨g, 0, none⟩ a).setCell ⟨g, 1, none⟩ b) g t a b := by
  have h1 := heap_setCell_same W g 0 #[x, y] t a h
  have h2 := heap_setCell_same _ g 1 _ t b h1
  exact h2
theorem below_set2 {w W : World} (h : Below w.heap.size w W) {g : Nat} (hg : w.heap.size ≤ g) (a b : Value) : Below w.heap.size w ((W.setCell ⟨g, 0, none⟩ a).setCell ⟨g, 1, none⟩ b) :=
  (h.setCell (p := ⟨g, 0, none⟩) hg a).setCell (p := ⟨g, 1, none⟩) hg b

/-- The code that came in: bytes, below block B. -/
def Code (w : World) (B : Nat) (A : Option Addr) (len : Nat) : Prop :=
  len = 0 ∨ ∃ h off, A = some ⟨h, off, none⟩ ∧ h < B ∧ ∀ j, j < len → ∃ z : Int, 0 ≤ z ∧ z ≤ 255 ∧ w.cell? ⟨h, off + j, none⟩ = some (.int .u8 z)

/-- A reader at block g, behind B, that has read so often. -/
def Rd (w : World) (B g : Nat) (A : Option Addr) (len cap p : Nat) : Prop :=
  Box2 w g 67 (.slice A len cap) (.int .i64 (p : Int)) ∧ B ≤ g ∧ Code w B A len ∧ len ≤ 2000

theorem grown_cell {w w' : World} {g : Nat} (h : w.grownBy w' (some g)) {p : Addr} (hp : p.block < w.heap.size) (hne : p.block ≠ g) : w'.cell? p = w.cell? p :=
  World.cell?_of_block (h.block p.block hp (fun e => hne (by injection e)))
theorem Code.grown {w w' : World} {B g : Nat} {A : Option Addr} {len : Nat} (hc : Code w B A len) (h : w.grownBy w' (some g)) (hB : B ≤ w.heap.size) (hg : B ≤ g) : Code w' B A len := by
  rcases hc with h0 | ⟨hh, off, e, hb, hcell⟩
  · exact .inl h0
  · refine .inr ⟨hh, off, e, hb, fun j hj => ?_⟩
    obtain ⟨z, z0, z1, hz⟩ := hcell j hj
    exact ⟨z, z0, z1, (grown_cell h (p := ⟨hh, off + j, none⟩) (by show hh < _; omega) (by show hh ≠ g; omega)).trans hz⟩
theorem grown_refl (w : World) (g : Option Nat) : w.grownBy w g := ⟨rfl, rfl, rfl, Nat.le_refl _, fun _ _ _ => rfl⟩
theorem grown_drews {a w : World} {row : Option Nat} (h : a.grownBy w row) (n : Nat) : a.grownBy (w.drewN n) row := ⟨h.os, h.tape, h.output, h.size, h.block⟩
theorem grown_set {w : World} (g i : Nat) (v : Value) : w.grownBy (w.setCell ⟨g, i, none⟩ v) (some g) :=
  ⟨rfl, rfl, rfl, by simp [World.setCell], fun k _ hk => Below.heap_setCell w ⟨g, i, none⟩ v k (fun e => hk (by rw [e]))⟩
theorem grown_alloc {a w : World} {row : Option Nat} (h : a.grownBy w row) (o : Obj) : a.grownBy (w.alloc o) row :=
  ⟨h.os, h.tape, h.output, Nat.le_trans h.size (by simp), fun i hi hne => (Below.heap_alloc w o i (Nat.lt_of_lt_of_le hi h.size)).trans (h.block i hi hne)⟩
theorem grown_trans {a b c : World} {g : Nat} (h : a.grownBy b (some g)) (k : b.grownBy c (some g)) : a.grownBy c (some g) :=
  ⟨k.os.trans h.os, k.tape.trans h.tape, k.output.trans h.output, Nat.le_trans h.size k.size, fun i hi hne => (k.block i (Nat.lt_of_lt_of_le hi h.size) hne).trans (h.block i hi hne)⟩
theorem grown_below {w w' : World} {B g : Nat} (h : w.grownBy w' (some g)) (hB : B ≤ g) (hw : B ≤ w.heap.size) : Below B w w' :=
  ⟨h.os, h.tape, h.output, h.size, fun k hk => h.block k (by omega) (fun e => by injection e with e; omega)⟩
theorem Box2.set1 {W : World} {g : Nat} {t : TypeId} {x y : Value} (h : Box2 W g t x y) (b : Value) : Box2 (W.setCell ⟨g, 1, none⟩ b) g t x b :=
  heap_setCell_same W g 1 #[x, y] t b h

/-- The reader has read k times more, and all else is as it was. -/
def Read (w : World) (B g : Nat) (A : Option Addr) (len cap p k : Nat) (w' : World) : Prop := ∃ q, p ≤ q ∧ q ≤ p + k ∧ Rd w' B g A len cap q ∧ w.grownBy w' (some g)

theorem Rd.lt {w : World} {B g : Nat} {A : Option Addr} {len cap p : Nat} (h : Rd w B g A len cap p) : g < w.heap.size := (Array.getElem?_eq_some_iff.1 h.1).1
theorem Rd.after {w : World} {B g : Nat} {A : Option Addr} {len cap p : Nat} (h : Rd w B g A len cap p) (q : Nat) (n : Nat) : Rd ((w.setCell ⟨g, 1, none⟩ (.int .i64 (q : Int))).drewN n) B g A len cap q :=
  ⟨h.1.set1 _, h.2.1, h.2.2.1.grown (grown_drews (grown_set g 1 _) n) (by have := h.lt; have := h.2.1; omega) h.2.1, h.2.2.2⟩

theorem xor_nat (a b : Nat) (ha : a < 2 ^ 40) (hb : b < 2 ^ 40) : ∃ c : Nat, c < 2 ^ 40 ∧ bits .xor .i64 (a : Int) (b : Int) = (c : Int) := by
  have hlt : a ^^^ b < 2 ^ 40 := Nat.xor_lt_two_pow ha hb
  refine ⟨a ^^^ b, hlt, ?_⟩
  have ea : (BitVec.ofInt 64 (a : Int)).toNat = a := by
    rw [BitVec.ofInt_natCast, BitVec.toNat_ofNat, Nat.mod_eq_of_lt (by omega)]
  have eb : (BitVec.ofInt 64 (b : Int)).toNat = b := by
    rw [BitVec.ofInt_natCast, BitVec.toNat_ofNat, Nat.mod_eq_of_lt (by omega)]
  show IntKind.i64.wrap ((BitVec.ofInt 64 (a : Int) ^^^ BitVec.ofInt 64 (b : Int)).toNat : Int) = _
  rw [BitVec.toNat_xor, ea, eb]
  exact IntWalk.i64_in _ (by omega)

/-- A number that was picked. -/
def Picked (w : World) (B g : Nat) (A : Option Addr) (len cap p n : Nat) (e : Ending) (w' : World) : Prop :=
  ∃ v : Nat, v < n ∧ e = .returned (.int .i64 (v : Int)) ∧ Read w B g A len cap p 1 w'

set_option maxRecDepth 100000 in
set_option maxHeartbeats 2000000 in
theorem pick_any (B g : Nat) (A : Option Addr) (len cap p n : Nat) (w : World) (hr : Rd w B g A len cap p) (hp : p ≤ 2 ^ 30) (hn : 0 < n) (hn2 : n ≤ 2 ^ 30) :
    Calls Tryz.prog 30 #[.pointer (some ⟨g, 0, none⟩), .int .i64 (n : Int)] w (Picked w B g A len cap p n) := by
  have HR := Lib.hid hr
  obtain ⟨bx, hBg, hcode, hlen⟩ := hr
  have c0 := bx.cell0
  have c1 := bx.cell1
  have f1 := bx.frozen 1
  have q0 : decide ((n : Int) < 1) = false := by simp; omega
  by_cases hl0 : len = 0
  · subst hl0
    clear hcode bx
    go_enter Tryz.func30, Tryz.ntmps30
    go_wp2
    go_ret
    exact ⟨0, hn, rfl, p + 1, by omega, Nat.le_refl _, by have := HR.out.after (p + 1) 0; exact this, grown_set g 1 _⟩
  · have q1 : ((len : Int) == 0) = false := by simp; omega
    obtain ⟨h, off, rfl, hhB, hcell⟩ : ∃ h off, A = some ⟨h, off, none⟩ ∧ h < B ∧ ∀ j, j < len → ∃ z : Int, 0 ≤ z ∧ z ≤ 255 ∧ w.cell? ⟨h, off + j, none⟩ = some (.int .u8 z) := by
      rcases hcode with h0 | h0
      · exact absurd h0 hl0
      · exact h0
    by_cases hpl : p < len
    · obtain ⟨z, z0, z1, hz⟩ := hcell p hpl
      have hne : ¬ h = g := by omega
      clear hcell hcode bx
      go_enter Tryz.func30, Tryz.ntmps30
      go_wp2
      go_ret
      have h1 : 0 ≤ z % (n : Int) := Int.emod_nonneg _ (by omega)
      have h2 : z % (n : Int) < (n : Int) := Int.emod_lt_of_pos _ (by omega)
      exact ⟨(z % (n : Int)).toNat, by omega, congrArg (fun x => Ending.returned (.int .i64 x)) (by show z % (n : Int) = _; omega), p + 1, by omega, Nat.le_refl _, by have := HR.out.after (p + 1) 0; exact this, grown_set g 1 _⟩
    · have hq : p % len < len := Nat.mod_lt _ (by omega)
      have hq2 : (p * 7 + 3) % len < len := Nat.mod_lt _ (by omega)
      obtain ⟨z, z0, z1, hz⟩ := hcell _ hq
      obtain ⟨y, y0, y1, hy⟩ := hcell _ hq2
      have hne : ¬ h = g := by omega
      have hdv : p / len ≤ p := Nat.div_le_self _ _
      clear hcell hcode bx
      go_enter Tryz.func30, Tryz.ntmps30
      go_wp2
      generalize hmA : p % len = mA at *
      generalize hmB : (p * 7 + 3) % len = mB at *
      generalize hmC : p / len = mC at *
      have e1 : (p : Int).tmod (len : Int) = (mA : Int) := by rw [← hmA]; exact Int.ofNat_tmod _ _ |>.symm
      have e2 : ((p : Int) * 7 + 3).tmod (len : Int) = (mB : Int) := by rw [← hmB]; exact Int.ofNat_tmod (p * 7 + 3) len |>.symm
      have e3 : (p : Int).tdiv (len : Int) = (mC : Int) := by rw [← hmC]; exact Int.ofNat_tdiv _ _ |>.symm
      have w1 : IntKind.i64.wrap (z * 131) = z * 131 := IntWalk.i64_in _ (by omega)
      have w2 : IntKind.i64.wrap ((p : Int) * 7) = (p : Int) * 7 := IntWalk.i64_in _ (by omega)
      have w3 : IntKind.i64.wrap ((p : Int) * 7 + 3) = (p : Int) * 7 + 3 := IntWalk.i64_in _ (by omega)
      have w4 : IntKind.i64.wrap (y * 1117) = y * 1117 := IntWalk.i64_in _ (by omega)
      have w5 : IntKind.i64.wrap (z * 131 + y * 1117) = z * 131 + y * 1117 := IntWalk.i64_in _ (by omega)
      have w6 : IntKind.i64.wrap ((p : Int) * 29) = (p : Int) * 29 := IntWalk.i64_in _ (by omega)
      have w7 : IntKind.i64.wrap (z * 131 + y * 1117 + (p : Int) * 29) = z * 131 + y * 1117 + (p : Int) * 29 := IntWalk.i64_in _ (by omega)
      have w8 : IntKind.i64.wrap ((mC : Int) * 53) = (mC : Int) * 53 := IntWalk.i64_in _ (by omega)
      have w9 : IntKind.i64.wrap (z * 131 + y * 1117 + (p : Int) * 29 + (mC : Int) * 53) = z * 131 + y * 1117 + (p : Int) * 29 + (mC : Int) * 53 := IntWalk.i64_in _ (by omega)
      clear hmA hmB hmC
      have hx0 : 0 ≤ z * 131 + y * 1117 + (p : Int) * 29 + (mC : Int) * 53 := by omega
      have hx1 : z * 131 + y * 1117 + (p : Int) * 29 + (mC : Int) * 53 < 2 ^ 40 := by omega
      go_quiet (fail)
      clear w1 w2 w3 w4 w5 w6 w7 w8 w9 e1 e2 e3
      obtain ⟨X, hX⟩ := Int.eq_ofNat_of_zero_le hx0
      rw [hX] at hx1 ⊢
      clear hX hx0
      have hX2 : X < 2 ^ 40 := by omega
      obtain ⟨c, hc40, hxor⟩ := xor_nat X (X / 64) hX2 (by omega)
      have hdv2 : ((X / 64 : Nat) : Int) = (X : Int) / 64 := by omega
      rw [hdv2] at hxor
      go_wp2
      go_ret
      have h1 : 0 ≤ (c : Int) % (n : Int) := Int.emod_nonneg _ (by omega)
      have h2 : (c : Int) % (n : Int) < (n : Int) := Int.emod_lt_of_pos _ (by omega)
      exact ⟨((c : Int) % (n : Int)).toNat, by omega, congrArg (fun x => Ending.returned (.int .i64 x)) (by show (c : Int) % (n : Int) = _; omega), p + 1, by omega, Nat.le_refl _, by have := HR.out.after (p + 1) nq; exact this, grown_drews (grown_set g 1 _) nq⟩

/-- A slice of bytes that came in. -/
def InCode (w : World) (a : Option Addr) (len cap : Nat) : Prop := len ≤ cap ∧ cap ≤ maxLen ∧ Code w w.heap.size a len
theorem inCode_nil (w : World) : InCode w none 0 0 := ⟨Nat.le_refl _, Nat.zero_le _, .inl rfl⟩
theorem inCode_of {w : World} {x : Addr} {len cap : Nat} {zs : List Int} (hl : len ≤ cap) (hm : cap ≤ maxLen) (hz : zs.length = cap) (hc : ∀ i, i < zs.length → w.cell? (x.add i) = some (.int .u8 (zs.getD i 0))) (hw : ∀ n ∈ zs, (Lit.int .u8 n).wf = true) :
    InCode w (some x) len cap := by
  refine ⟨hl, hm, ?_⟩
  by_cases h0 : len = 0
  · exact .inl h0
  · obtain ⟨b, off, rfl, hcell⟩ := ints_at hc (by omega)
    have hb : b < w.heap.size := by
      have h1 := hcell 0 (by omega)
      rcases Nat.lt_or_ge b w.heap.size with h | h
      · exact h
      · simp [World.cell?, Array.getElem?_eq_none h] at h1
    refine .inr ⟨b, off, rfl, hb, fun j hj => ?_⟩
    have hjz : j < zs.length := by omega
    have hwf := bounds_u8 (hw (zs.getD j 0) (by simp [List.getD, hjz]))
    exact ⟨zs.getD j 0, hwf.1, hwf.2, hcell j hjz⟩

theorem InCode.below {w w' : World} {a : Option Addr} {len cap : Nat} (h : InCode w a len cap) (hb : Below w.heap.size w w') : InCode w' a len cap := by
  refine ⟨h.1, h.2.1, ?_⟩
  rcases h.2.2 with h0 | ⟨hh, off, e, hlt, hc⟩
  · exact .inl h0
  · refine .inr ⟨hh, off, e, Nat.lt_of_lt_of_le hlt hb.size, fun j hj => ?_⟩
    obtain ⟨z, z0, z1, hz⟩ := hc j hj
    exact ⟨z, z0, z1, (hb.cell (p := ⟨hh, off + j, none⟩) hlt).trans hz⟩

/-- A reader was made. -/
def Opened (w : World) (e : Ending) (w' : World) : Prop := ∃ A len cap, e = .returned (.pointer (some ⟨w.heap.size, 0, none⟩)) ∧ Rd w' w.heap.size w.heap.size A len cap 0 ∧ Below w.heap.size w w'

theorem Code.cut {w : World} {B : Nat} {A : Option Addr} {n k : Nat} (h : Code w B A n) (hk : k ≤ n) : Code w B A k := by
  rcases h with h0 | ⟨hh, off, e, hb, hc⟩
  · exact .inl (by omega)
  · exact .inr ⟨hh, off, e, hb, fun j hj => hc j (by omega)⟩
theorem Rd.new {w : World} {A : Option Addr} {len cap : Nat} (h : Code w w.heap.size A len) (hl : len ≤ 2000) : Rd (w.alloc (.cells #[.slice A len cap, .int .i64 0] 67)) w.heap.size w.heap.size A len cap 0 := by
  refine ⟨Box2.new w _ _ _, Nat.le_refl _, ?_, hl⟩
  rcases h with h0 | ⟨hh, off, e, hb, hc⟩
  · exact .inl h0
  · refine .inr ⟨hh, off, e, hb, fun j hj => ?_⟩
    obtain ⟨z, z0, z1, hz⟩ := hc j hj
    exact ⟨z, z0, z1, (World.cell?_alloc_lt w _ ⟨hh, off + j, none⟩ hb).trans hz⟩

set_option maxHeartbeats 1000000 in
theorem open_any (A : Option Addr) (len cap : Nat) (w : World) (h : InCode w A len cap) :
    Calls Tryz.prog 20 #[.slice A len cap] w (Opened w) := by
  obtain ⟨hl, hm, hc⟩ := h
  unfold maxLen at hm
  have HC := Lib.hid hc
  by_cases hbig : 2000 < len
  · have q1 : (2000 : Int) < (len : Int) := by omega
    have hcap : (2000 : Int) ≤ (cap : Int) := by omega
    obtain ⟨h, off, rfl, _⟩ : ∃ h off, A = some ⟨h, off, none⟩ ∧ True := by
      rcases hc with h0 | ⟨h, off, e, _⟩
      · omega
      · exact ⟨h, off, e, trivial⟩
    clear hc
    go_enter Tryz.func20, Tryz.ntmps20
    go_wp2
    go_ret
    exact ⟨_, 2000, cap, rfl, Rd.new (HC.out.cut (by omega)) (Nat.le_refl _), (Below.refl _ w).alloc (Nat.le_refl _) _⟩
  · have q1 : ¬ (2000 : Int) < (len : Int) := by omega
    clear hc
    go_enter Tryz.func20, Tryz.ntmps20
    go_wp2
    go_ret
    exact ⟨A, len, cap, rfl, Rd.new HC.out (by omega), (Below.refl _ w).alloc (Nat.le_refl _) _⟩

/-- One of a list was picked. -/
def OneOf (w : World) (B g : Nat) (A : Option Addr) (len cap p : Nat) (xs : List Value) (e : Ending) (w' : World) : Prop :=
  ∃ u, u ∈ xs ∧ e = .returned u ∧ Read w B g A len cap p 1 w'

theorem Read.cell {w w' : World} {B g : Nat} {A : Option Addr} {len cap p k : Nat} (h : Read w B g A len cap p k w') {x : Addr} (hx : x.block < w.heap.size) (hne : x.block ≠ g) : w'.cell? x = w.cell? x := by
  obtain ⟨_, _, _, _, hg⟩ := h
  exact grown_cell hg hx hne

set_option maxHeartbeats 1000000 in
theorem of_any (B g : Nat) (A : Option Addr) (len cap p b n c : Nat) (ss : List ByteArray) (w : World) (hr : Rd w B g A len cap p) (hp : p ≤ 2 ^ 30) (hss : ss.length = n) (hn : 0 < n) (hn2 : n ≤ 2 ^ 20) (hb : b < w.heap.size) (hbg : b ≠ g)
    (hc : ∀ j (hj : j < ss.length), w.cell? ⟨b, j, none⟩ = some (.string ss[j])) :
    Calls Tryz.prog 46 #[.pointer (some ⟨g, 0, none⟩), .slice (some ⟨b, 0, none⟩) n c] w (OneOf w B g A len cap p (ss.map strV)) := by
  have HP := Lib.hid (pick_any B g A len cap p n w hr hp hn (by omega))
  have HC := Lib.hid hc
  have HS := Lib.hid hss
  clear hc hr hss
  go_enter Tryz.func46, Tryz.ntmps46
  go_wp2_with fail
  refine HP.out.mono ?_
  rintro e w1 ⟨v, hv, rfl, hrd⟩
  have hcell := (hrd.cell (x := ⟨b, v, none⟩) hb hbg).trans (HC.out v (by rw [HS.out]; exact hv))
  have hmem : ss[v]'(by rw [HS.out]; exact hv) ∈ ss := List.getElem_mem _
  generalize ss[v]'(by rw [HS.out]; exact hv) = t at *
  have hv0 : (v : Int) < (n : Int) := by omega
  go_wp2
  go_ret
  exact ⟨.string t, List.mem_map.2 ⟨t, hmem, rfl⟩, rfl, hrd⟩

theorem Read.refl {w : World} {B g : Nat} {A : Option Addr} {len cap p : Nat} (h : Rd w B g A len cap p) : Read w B g A len cap p 0 w := ⟨p, Nat.le_refl _, Nat.le_refl _, h, grown_refl _ _⟩
theorem Box2.allocD {W : World} {g : Nat} {t : TypeId} {x y : Value} (h : Box2 W g t x y) (o : Obj) : Box2 (W.alloc o) g t x y := (Below.heap_alloc W o g (Array.getElem?_eq_some_iff.1 h).1).trans h
theorem Rd.alloc {w : World} {B g : Nat} {A : Option Addr} {len cap p : Nat} (h : Rd w B g A len cap p) (o : Obj) : Rd (w.alloc o) B g A len cap p :=
  ⟨h.1.allocD o, h.2.1, h.2.2.1.grown (grown_alloc (grown_refl w (some g)) o) (by have := h.lt; have := h.2.1; omega) h.2.1, h.2.2.2⟩

theorem cell_made (w : World) (cs : Array Value) (t : TypeId) (j : Nat) : (w.alloc (.cells cs t)).cell? ⟨w.heap.size, j, none⟩ = cs[j]? := by
  have h := World.alloc_heap_new w (.cells cs t)
  simp only [World.cell?]
  rw [h]
  rfl

set_option maxHeartbeats 1000000 in
theorem num_any (B g : Nat) (A : Option Addr) (len cap p b n c : Nat) (zs : List Int) (w : World) (hr : Rd w B g A len cap p) (hp : p ≤ 2 ^ 30) (hss : zs.length = n) (hn : 0 < n) (hn2 : n ≤ 2 ^ 20) (hb : b < w.heap.size) (hbg : b ≠ g)
    (hc : ∀ j (hj : j < zs.length), w.cell? ⟨b, j, none⟩ = some (.int .i64 zs[j])) :
    Calls Tryz.prog 45 #[.pointer (some ⟨g, 0, none⟩), .slice (some ⟨b, 0, none⟩) n c] w (OneOf w B g A len cap p (zs.map (Value.int .i64))) := by
  have HP := Lib.hid (pick_any B g A len cap p n w hr hp hn (by omega))
  have HC := Lib.hid hc
  have HS := Lib.hid hss
  clear hc hr hss
  go_enter Tryz.func45, Tryz.ntmps45
  go_wp2_with fail
  refine HP.out.mono ?_
  rintro e w1 ⟨v, hv, rfl, hrd⟩
  have hcell := (hrd.cell (x := ⟨b, v, none⟩) hb hbg).trans (HC.out v (by rw [HS.out]; exact hv))
  have hmem : zs[v]'(by rw [HS.out]; exact hv) ∈ zs := List.getElem_mem _
  generalize zs[v]'(by rw [HS.out]; exact hv) = t at *
  have hv0 : (v : Int) < (n : Int) := by omega
  go_wp2
  go_ret
  exact ⟨.int .i64 t, List.mem_map.2 ⟨t, hmem, rfl⟩, rfl, hrd⟩

theorem Read.below {w w' : World} {B g : Nat} {A : Option Addr} {len cap p k : Nat} (h : Read w B g A len cap p k w') (hB : B ≤ g) (hw : B ≤ w.heap.size) : Below B w w' := by
  obtain ⟨_, _, _, _, hg⟩ := h
  exact grown_below hg hB hw

theorem Rd.kept {w w' : World} {B g : Nat} {A : Option Addr} {len cap p : Nat} {v : Value} {base : Nat} {t : TypeId} {n : Nat} {xs : List Value} (h : Rd w B g A len cap p) (hg : w.grownBy w' v.ownBlock) (hne : v.ownBlock ≠ some g) (hrow : w.ownsRow base t 1 v n xs) (hb : B ≤ base) : Rd w' B g A len cap p := by
  refine ⟨(hg.block g h.lt (fun e => hne e.symm)).trans h.1, h.2.1, ?_, h.2.2.2⟩
  rcases h.2.2.1 with h0 | ⟨hh, off, e, hlt, hc⟩
  · exact .inl h0
  · refine .inr ⟨hh, off, e, hlt, fun j hj => ?_⟩
    obtain ⟨z, z0, z1, hz⟩ := hc j hj
    have hblk : w'.heap[hh]? = w.heap[hh]? := hg.block hh (by have := h.lt; have := h.2.1; omega) (fun e => by
      have := (hrow.lt hh e.symm).1
      omega)
    exact ⟨z, z0, z1, (World.cell?_of_block (a := ⟨hh, off + j, none⟩) hblk).trans hz⟩


end Go.Proofs.YtabignplhkbcpaaGreatDoor

namespace Go.Proofs.YtabignplhkbcpaaGreatDoor
open Go.RowKit

mutual
/-- No text in it has more than four bytes. -/
def Ex.short : Ex → Prop
  | .mk _ _ s ks => s.size ≤ 4 ∧ Ex.shorts ks
def Ex.shorts : List Ex → Prop
  | [] => True
  | e :: es => e.short ∧ Ex.shorts es
end
theorem short_of {l : List ByteArray} (h : ∀ s ∈ l, s.size ≤ 4) {s : ByteArray} (hs : s ∈ l) : s.size ≤ 4 := h s hs
def bndE : Nat → Nat
  | 0 => 10
  | d + 1 => 2 * bndE d + 10
def rdE : Nat → Nat
  | 0 => 3
  | d + 1 => 2 * rdE d + 5
theorem bndE_succ (d : Nat) : bndE (d + 1) = 2 * bndE d + 10 := rfl
theorem rdE_succ (d : Nat) : rdE (d + 1) = 2 * rdE d + 5 := rfl

theorem of_lit (ss : List ByteArray) (B g : Nat) (A : Option Addr) (len cap p : Nat) (w : World) (hr : Rd w B g A len cap p) (hp : p ≤ 2 ^ 30) (hn : 0 < ss.length) (hn2 : ss.length ≤ 2 ^ 20) :
    Calls Tryz.prog 46 #[.pointer (some ⟨g, 0, none⟩), .slice (some ⟨w.heap.size, 0, none⟩) ss.length ss.length] (w.alloc (.cells (ss.map strV).toArray 9)) fun r w' => ∃ s, s ∈ ss ∧ r = .returned (.string s) ∧ ∃ q, p ≤ q ∧ q ≤ p + 1 ∧ Rd w' B g A len cap q ∧ w.grownBy w' (some g) := by
  refine (of_any B g A len cap p w.heap.size ss.length ss.length ss _ (hr.alloc _) hp rfl hn hn2 (by simp) (by have := hr.lt; omega) (fun j hj => by rw [cell_made]; simp [hj, strV])).mono ?_
  rintro r w' ⟨u, hu, rfl, q, h1, h2, h3, h4⟩
  obtain ⟨s, hs, rfl⟩ := List.mem_map.1 hu
  exact ⟨s, hs, rfl, q, h1, h2, h3, grown_trans (grown_alloc (grown_refl w (some g)) _) h4⟩
theorem num_lit (zs : List Int) (B g : Nat) (A : Option Addr) (len cap p : Nat) (w : World) (hr : Rd w B g A len cap p) (hp : p ≤ 2 ^ 30) (hn : 0 < zs.length) (hn2 : zs.length ≤ 2 ^ 20) :
    Calls Tryz.prog 45 #[.pointer (some ⟨g, 0, none⟩), .slice (some ⟨w.heap.size, 0, none⟩) zs.length zs.length] (w.alloc (.cells (zs.map (Value.int .i64)).toArray 3)) fun r w' => ∃ z, z ∈ zs ∧ r = .returned (.int .i64 z) ∧ ∃ q, p ≤ q ∧ q ≤ p + 1 ∧ Rd w' B g A len cap q ∧ w.grownBy w' (some g) := by
  refine (num_any B g A len cap p w.heap.size zs.length zs.length zs _ (hr.alloc _) hp rfl hn hn2 (by simp) (by have := hr.lt; omega) (fun j hj => by rw [cell_made]; simp [hj])).mono ?_
  rintro r w' ⟨u, hu, rfl, q, h1, h2, h3, h4⟩
  obtain ⟨s, hs, rfl⟩ := List.mem_map.1 hu
  exact ⟨s, hs, rfl, q, h1, h2, h3, grown_trans (grown_alloc (grown_refl w (some g)) _) h4⟩

theorem blk_grown {w w' : World} {g b : Nat} {cur : Array Value} (h : Blk w b cur) (hg : w.grownBy w' (some g)) (hne : b ≠ g) : Blk w' b cur := (hg.block b h.lt (fun e => hne (by injection e))).trans h
theorem rd_keep {w w' : World} {B g : Nat} {A : Option Addr} {len cap p : Nat} (h : Rd w B g A len cap p) (h1 : w'.heap[g]? = w.heap[g]?) (h2 : ∀ k, k < B → w'.heap[k]? = w.heap[k]?) : Rd w' B g A len cap p := by
  refine ⟨h1.trans h.1, h.2.1, ?_, h.2.2.2⟩
  rcases h.2.2.1 with h0 | ⟨hh, off, e, hlt, hc⟩
  · exact .inl h0
  · refine .inr ⟨hh, off, e, hlt, fun j hj => ?_⟩
    obtain ⟨z, z0, z1, hz⟩ := hc j hj
    exact ⟨z, z0, z1, (World.cell?_of_block (a := ⟨hh, off + j, none⟩) (h2 hh hlt)).trans hz⟩
/-- A store of a whole result into its box. -/
theorem end_draw {w w2 : World} {B g : Nat} {A : Option Addr} {len cap p q k : Nat} {v0 v1 v2 v3 : Value} (hrd : Rd w2 B g A len cap q) (hq : p ≤ q) (hq2 : q ≤ p + k) (hgr : w.grownBy w2 (some g)) (hgw : g < w.heap.size) (hB : Blk w2 w.heap.size #[.int .i64 0, .int .i64 0, .string { data := #[] }, .slice none 0 0]) :
    ∀ wn, wn = (((w2.setCell ⟨w.heap.size, 0, none⟩ v0).setCell ⟨w.heap.size, 1, none⟩ v1).setCell ⟨w.heap.size, 2, none⟩ v2).setCell ⟨w.heap.size, 3, none⟩ v3 →
    Blk wn w.heap.size #[v0, v1, v2, v3] ∧ Read w B g A len cap p k wn ∧ (∀ j, j ≠ w.heap.size → wn.heap[j]? = w2.heap[j]?) ∧ wn.heap.size = w2.heap.size := by
  intro wn hwn
  have hsame : ∀ j, j ≠ w.heap.size → wn.heap[j]? = w2.heap[j]? := by
    intro j hj
    rw [hwn, Below.heap_setCell _ _ _ j hj, Below.heap_setCell _ _ _ j hj, Below.heap_setCell _ _ _ j hj, Below.heap_setCell _ _ _ j hj]
  have hsz : wn.heap.size = w2.heap.size := by rw [hwn]; simp
  refine ⟨?_, ⟨q, hq, hq2, rd_keep hrd (hsame g (by omega)) (fun k hk => hsame k (by have := hrd.2.1; omega)), ?_⟩, hsame, hsz⟩
  · rw [hwn]; exact (((hB.set 0 v0).set 1 v1).set 2 v2).set 3 v3
  · refine ⟨by rw [hwn]; exact hgr.os, by rw [hwn]; exact hgr.tape, by rw [hwn]; exact hgr.output, by rw [hsz]; exact hgr.size, fun i hi hne => (hsame i (by omega)).trans (hgr.block i hi hne)⟩

/-- Something to be reckoned was drawn by a reader, in memory of its own. -/
def DrewE (k m : Nat) (w : World) (B g : Nat) (A0 : Option Addr) (len cap p : Nat) (r : Ending) (w' : World) : Prop :=
  ∃ (e : Ex) (A : Option Addr) (c : Nat), r = .returned (.agg #[.int .i64 e.kind, .int .i64 e.n, .string e.s, .slice A e.kids.length c]) ∧ e.kids.length ≤ c ∧ OwnE w' e w.heap.size w'.heap.size A ∧ e.short ∧ e.wt ≤ m ∧ Read w B g A0 len cap p k w'
/-- The same, and it has the shape of one. -/
def DrewP (k m : Nat) (w : World) (B g : Nat) (A0 : Option Addr) (len cap p : Nat) (r : Ending) (w' : World) : Prop :=
  ∃ (e : Ex) (A : Option Addr) (c : Nat), r = .returned (.agg #[.int .i64 e.kind, .int .i64 e.n, .string e.s, .slice A e.kids.length c]) ∧ e.kids.length ≤ c ∧ OwnE w' e w.heap.size w'.heap.size A ∧ (e.short ∧ ∃ q : Pt, q.ex = e) ∧ e.wt ≤ m ∧ Read w B g A0 len cap p k w'
theorem DrewP.drop {k m : Nat} {w : World} {B g : Nat} {A0 : Option Addr} {len cap p : Nat} {r : Ending} {w' : World} (h : DrewP k m w B g A0 len cap p r w') : DrewE k m w B g A0 len cap p r w' := by
  obtain ⟨e, A, c, h1, h2, h3, h4, h5, h6⟩ := h
  exact ⟨e, A, c, h1, h2, h3, h4.1, h5, h6⟩

set_option maxRecDepth 100000 in
set_option maxHeartbeats 4000000 in
theorem l4Expr_shp (B g : Nat) (A0 : Option Addr) (len cap : Nat) : ∀ (d deep p : Nat) (w : World), d ≤ 10 → deep ≤ d + 1 → Rd w B g A0 len cap p → p + rdE d ≤ 2 ^ 20 →
    Calls Tryz.prog 65 #[.pointer (some ⟨g, 0, none⟩), .int .i64 (deep : Int)] w (DrewP (rdE d) (bndE d) w B g A0 len cap p) := by
  intro d
  induction d with
  | zero =>
    intro deep p w hd10 hd hr hp
    have q : decide ((deep : Int) ≤ 1) = true := by simp; omega
    have hgw := hr.lt
    have hgr0 : w.grownBy (w.alloc (.cells #[.int .i64 0, .int .i64 0, .string { data := #[] }, .slice none 0 0] 34)) (some g) := grown_alloc (grown_refl w (some g)) _
    have hB0 : Blk (w.alloc (.cells #[.int .i64 0, .int .i64 0, .string { data := #[] }, .slice none 0 0] 34)) w.heap.size #[.int .i64 0, .int .i64 0, .string { data := #[] }, .slice none 0 0] := World.alloc_heap_new w _
    have hr0 := hr.alloc (.cells #[.int .i64 0, .int .i64 0, .string { data := #[] }, .slice none 0 0] 34)
    have erd : rdE 0 = 3 := rfl
    have ebn : bndE 0 = 10 := rfl
    rw [erd] at hp ⊢
    rw [ebn]
    clear hr erd ebn
    go_enter Tryz.func65, Tryz.ntmps65
    go_wp2_with fail
    refine (pick_any B g A0 len cap p 2 _ hr0 (by omega) (by omega) (by omega)).mono ?_
    rintro r w1 ⟨v, hv, rfl, q1, hq1, hq2, hrd1, hgr1⟩
    have hgr1' := grown_trans hgr0 hgr1
    have hB1 := blk_grown hB0 hgr1 (by omega)
    by_cases hv0 : v = 0
    · subst hv0
      go_wp2_with fail
      refine (num_lit [0, 1, 2, 7, 30, 1000000] B g A0 len cap q1 w1 hrd1 (by omega) (by simp) (by simp)).mono ?_
      rintro r w2 ⟨z, hz, rfl, q2, hq3, hq4, hrd, hgr2⟩
      have hgr := grown_trans hgr1' hgr2
      have hB := blk_grown hB1 hgr2 (by omega)
      have hqa : p ≤ q2 := by omega
      have hqb : q2 ≤ p + 3 := by omega
      clear hrd1 hgr1 hgr1' hB1 hgr2 hz
      have x0 := hB.cell 0
      have x1 := hB.cell 1
      have x2 := hB.cell 2
      have x3 := hB.cell 3
      have f0 := hB.frozen 0
      have f1 := hB.frozen 1
      have f2 := hB.frozen 2
      have f3 := hB.frozen 3
      simp only [List.getElem?_toArray, List.getElem?_cons_zero, List.getElem?_cons_succ] at x0 x1 x2 x3
      have HEND := Lib.hid (end_draw (v0 := .int .i64 1) (v1 := .int .i64 z) (v2 := .string { data := #[] }) (v3 := .slice none 0 0) hrd hqa hqb hgr hgw hB)
      go_wp2_with fail
      obtain ⟨wn, hwn⟩ : ∃ wn, wn = (((w2.setCell ⟨w.heap.size, 0, none⟩ (.int .i64 1)).setCell ⟨w.heap.size, 1, none⟩ (.int .i64 z)).setCell ⟨w.heap.size, 2, none⟩ (.string { data := #[] })).setCell ⟨w.heap.size, 3, none⟩ (.slice none 0 0) := ⟨_, rfl⟩
      rw [← hwn]
      obtain ⟨hBn, hRn, hSn, hZn⟩ := HEND.out wn hwn
      have r0 := hBn.cell 0
      have r1 := hBn.cell 1
      have r2 := hBn.cell 2
      have r3 := hBn.cell 3
      simp only [List.getElem?_toArray, List.getElem?_cons_zero, List.getElem?_cons_succ] at r0 r1 r2 r3
      refine bodyPost_ret (v := .agg #[.int .i64 1, .int .i64 z, .string { data := #[] }, .slice none 0 0]) (by simp [results, Tryz.results65, go_sem, r0, r1, r2, r3]) rfl ?_
      refine ⟨.mk 1 (z) { data := #[] } [], none, _, rfl, Nat.le_refl _, own_nil _ _ _ _ _ _ _ (by rw [hZn]; exact hgr.size), ⟨by rw [Ex.short, Ex.shorts]; exact ⟨by decide, trivial⟩, .num z, rfl⟩, by rw [Ex.wt, Ex.wts, show (ByteArray.mk #[]).size = 0 from rfl]; omega, hRn⟩
    · have p0 : ((v : Int) == 0) = false := by rw [beq_eq_false_iff_ne]; omega
      go_wp2_with fail
      refine (of_lit [⟨#[120]⟩, ⟨#[121]⟩, ⟨#[122]⟩, ⟨#[120]⟩] B g A0 len cap q1 w1 hrd1 (by omega) (by simp) (by simp)).mono ?_
      rintro r w2 ⟨s, hs, rfl, q2, hq3, hq4, hrd, hgr2⟩
      have hgr := grown_trans hgr1' hgr2
      have hB := blk_grown hB1 hgr2 (by omega)
      have hqa : p ≤ q2 := by omega
      have hqb : q2 ≤ p + 3 := by omega
      have hsz : s.size ≤ 4 := short_of (by decide) hs
      clear hrd1 hgr1 hgr1' hB1 hgr2 hs
      have x0 := hB.cell 0
      have x1 := hB.cell 1
      have x2 := hB.cell 2
      have x3 := hB.cell 3
      have f0 := hB.frozen 0
      have f1 := hB.frozen 1
      have f2 := hB.frozen 2
      have f3 := hB.frozen 3
      simp only [List.getElem?_toArray, List.getElem?_cons_zero, List.getElem?_cons_succ] at x0 x1 x2 x3
      have HEND := Lib.hid (end_draw (v0 := .int .i64 2) (v1 := .int .i64 0) (v2 := .string s) (v3 := .slice none 0 0) hrd hqa hqb hgr hgw hB)
      go_wp2_with fail
      obtain ⟨wn, hwn⟩ : ∃ wn, wn = (((w2.setCell ⟨w.heap.size, 0, none⟩ (.int .i64 2)).setCell ⟨w.heap.size, 1, none⟩ (.int .i64 0)).setCell ⟨w.heap.size, 2, none⟩ (.string s)).setCell ⟨w.heap.size, 3, none⟩ (.slice none 0 0) := ⟨_, rfl⟩
      rw [← hwn]
      obtain ⟨hBn, hRn, hSn, hZn⟩ := HEND.out wn hwn
      have r0 := hBn.cell 0
      have r1 := hBn.cell 1
      have r2 := hBn.cell 2
      have r3 := hBn.cell 3
      simp only [List.getElem?_toArray, List.getElem?_cons_zero, List.getElem?_cons_succ] at r0 r1 r2 r3
      refine bodyPost_ret (v := .agg #[.int .i64 2, .int .i64 0, .string s, .slice none 0 0]) (by simp [results, Tryz.results65, go_sem, r0, r1, r2, r3]) rfl ?_
      refine ⟨.mk 2 (0) s [], none, _, rfl, Nat.le_refl _, own_nil _ _ _ _ _ _ _ (by rw [hZn]; exact hgr.size), ⟨by rw [Ex.short, Ex.shorts]; exact ⟨hsz, trivial⟩, .name s, rfl⟩, by rw [Ex.wt, Ex.wts]; omega, hRn⟩
  | succ d ih =>
    intro deep p w hd10 hd hr hp
    have hgw := hr.lt
    have hBg := hr.2.1
    have hgr0 : w.grownBy (w.alloc (.cells #[.int .i64 0, .int .i64 0, .string { data := #[] }, .slice none 0 0] 34)) (some g) := grown_alloc (grown_refl w (some g)) _
    have hB0 : Blk (w.alloc (.cells #[.int .i64 0, .int .i64 0, .string { data := #[] }, .slice none 0 0] 34)) w.heap.size #[.int .i64 0, .int .i64 0, .string { data := #[] }, .slice none 0 0] := World.alloc_heap_new w _
    have hr0 := hr.alloc (.cells #[.int .i64 0, .int .i64 0, .string { data := #[] }, .slice none 0 0] 34)
    rw [rdE_succ] at hp ⊢
    rw [bndE_succ]
    clear hr
    by_cases hdeep : deep ≤ 1
    · have q : decide ((deep : Int) ≤ 1) = true := by simp; omega
      clear ih
      go_enter Tryz.func65, Tryz.ntmps65
      go_wp2_with fail
      refine (pick_any B g A0 len cap p 2 _ hr0 (by omega) (by omega) (by omega)).mono ?_
      rintro r w1 ⟨v, hv, rfl, q1, hq1, hq2, hrd1, hgr1⟩
      have hgr1' := grown_trans hgr0 hgr1
      have hB1 := blk_grown hB0 hgr1 (by omega)
      by_cases hv0 : v = 0
      · subst hv0
        go_wp2_with fail
        refine (num_lit [0, 1, 2, 7, 30, 1000000] B g A0 len cap q1 w1 hrd1 (by omega) (by simp) (by simp)).mono ?_
        rintro r w2 ⟨z, hz, rfl, q2, hq3, hq4, hrd, hgr2⟩
        have hgr := grown_trans hgr1' hgr2
        have hB := blk_grown hB1 hgr2 (by omega)
        have hqa : p ≤ q2 := by omega
        have hqb : q2 ≤ p + (2 * rdE d + 5) := by omega
        clear hrd1 hgr1 hgr1' hB1 hgr2 hz
        have x0 := hB.cell 0
        have x1 := hB.cell 1
        have x2 := hB.cell 2
        have x3 := hB.cell 3
        have f0 := hB.frozen 0
        have f1 := hB.frozen 1
        have f2 := hB.frozen 2
        have f3 := hB.frozen 3
        simp only [List.getElem?_toArray, List.getElem?_cons_zero, List.getElem?_cons_succ] at x0 x1 x2 x3
        have HEND := Lib.hid (end_draw (v0 := .int .i64 1) (v1 := .int .i64 z) (v2 := .string { data := #[] }) (v3 := .slice none 0 0) hrd hqa hqb hgr hgw hB)
        go_wp2_with fail
        obtain ⟨wn, hwn⟩ : ∃ wn, wn = (((w2.setCell ⟨w.heap.size, 0, none⟩ (.int .i64 1)).setCell ⟨w.heap.size, 1, none⟩ (.int .i64 z)).setCell ⟨w.heap.size, 2, none⟩ (.string { data := #[] })).setCell ⟨w.heap.size, 3, none⟩ (.slice none 0 0) := ⟨_, rfl⟩
        rw [← hwn]
        obtain ⟨hBn, hRn, hSn, hZn⟩ := HEND.out wn hwn
        have r0 := hBn.cell 0
        have r1 := hBn.cell 1
        have r2 := hBn.cell 2
        have r3 := hBn.cell 3
        simp only [List.getElem?_toArray, List.getElem?_cons_zero, List.getElem?_cons_succ] at r0 r1 r2 r3
        refine bodyPost_ret (v := .agg #[.int .i64 1, .int .i64 z, .string { data := #[] }, .slice none 0 0]) (by simp [results, Tryz.results65, go_sem, r0, r1, r2, r3]) rfl ?_
        refine ⟨.mk 1 (z) { data := #[] } [], none, _, rfl, Nat.le_refl _, own_nil _ _ _ _ _ _ _ (by rw [hZn]; exact hgr.size), ⟨by rw [Ex.short, Ex.shorts]; exact ⟨by decide, trivial⟩, .num z, rfl⟩, by rw [Ex.wt, Ex.wts, show (ByteArray.mk #[]).size = 0 from rfl]; omega, hRn⟩
      · have p0 : ((v : Int) == 0) = false := by rw [beq_eq_false_iff_ne]; omega
        go_wp2_with fail
        refine (of_lit [⟨#[120]⟩, ⟨#[121]⟩, ⟨#[122]⟩, ⟨#[120]⟩] B g A0 len cap q1 w1 hrd1 (by omega) (by simp) (by simp)).mono ?_
        rintro r w2 ⟨s, hs, rfl, q2, hq3, hq4, hrd, hgr2⟩
        have hgr := grown_trans hgr1' hgr2
        have hB := blk_grown hB1 hgr2 (by omega)
        have hqa : p ≤ q2 := by omega
        have hqb : q2 ≤ p + (2 * rdE d + 5) := by omega
        have hsz : s.size ≤ 4 := short_of (by decide) hs
        clear hrd1 hgr1 hgr1' hB1 hgr2 hs
        have x0 := hB.cell 0
        have x1 := hB.cell 1
        have x2 := hB.cell 2
        have x3 := hB.cell 3
        have f0 := hB.frozen 0
        have f1 := hB.frozen 1
        have f2 := hB.frozen 2
        have f3 := hB.frozen 3
        simp only [List.getElem?_toArray, List.getElem?_cons_zero, List.getElem?_cons_succ] at x0 x1 x2 x3
        have HEND := Lib.hid (end_draw (v0 := .int .i64 2) (v1 := .int .i64 0) (v2 := .string s) (v3 := .slice none 0 0) hrd hqa hqb hgr hgw hB)
        go_wp2_with fail
        obtain ⟨wn, hwn⟩ : ∃ wn, wn = (((w2.setCell ⟨w.heap.size, 0, none⟩ (.int .i64 2)).setCell ⟨w.heap.size, 1, none⟩ (.int .i64 0)).setCell ⟨w.heap.size, 2, none⟩ (.string s)).setCell ⟨w.heap.size, 3, none⟩ (.slice none 0 0) := ⟨_, rfl⟩
        rw [← hwn]
        obtain ⟨hBn, hRn, hSn, hZn⟩ := HEND.out wn hwn
        have r0 := hBn.cell 0
        have r1 := hBn.cell 1
        have r2 := hBn.cell 2
        have r3 := hBn.cell 3
        simp only [List.getElem?_toArray, List.getElem?_cons_zero, List.getElem?_cons_succ] at r0 r1 r2 r3
        refine bodyPost_ret (v := .agg #[.int .i64 2, .int .i64 0, .string s, .slice none 0 0]) (by simp [results, Tryz.results65, go_sem, r0, r1, r2, r3]) rfl ?_
        refine ⟨.mk 2 (0) s [], none, _, rfl, Nat.le_refl _, own_nil _ _ _ _ _ _ _ (by rw [hZn]; exact hgr.size), ⟨by rw [Ex.short, Ex.shorts]; exact ⟨hsz, trivial⟩, .name s, rfl⟩, by rw [Ex.wt, Ex.wts]; omega, hRn⟩
    have q : decide ((deep : Int) ≤ 1) = false := by simp; omega
    have HI := Lib.hid (fun (p : Nat) (W : World) (h1 : Rd W B g A0 len cap p) (h2 : p + rdE d ≤ 2 ^ 20) => ih (deep - 1) p W (by omega) (by omega) h1 h2)
    rw [show ((deep - 1 : Nat) : Int) = (deep : Int) - 1 by omega] at HI
    clear ih
    go_enter Tryz.func65, Tryz.ntmps65
    go_wp2_with fail
    refine (pick_any B g A0 len cap p 4 _ hr0 (by omega) (by omega) (by omega)).mono ?_
    rintro r wa ⟨va, hva, rfl, qa, hqa1, hqa2, hrda, hgra'⟩
    have hgra := grown_trans hgr0 hgra'
    have hBa := blk_grown hB0 hgra' (by omega)
    clear hgra' hr0 hgr0 hB0
    by_cases hva0 : va = 0
    · subst hva0
      clear HI
      go_wp2_with fail
      refine (pick_any B g A0 len cap qa 2 _ hrda (by omega) (by omega) (by omega)).mono ?_
      rintro r w1 ⟨v, hv, rfl, q1, hq1, hq2, hrd1, hgr1⟩
      have hgr1' := grown_trans hgra hgr1
      have hB1 := blk_grown hBa hgr1 (by omega)
      by_cases hv0 : v = 0
      · subst hv0
        go_wp2_with fail
        refine (num_lit [0, 1, 2, 7, 30, 1000000] B g A0 len cap q1 w1 hrd1 (by omega) (by simp) (by simp)).mono ?_
        rintro r w2 ⟨z, hz, rfl, q2, hq3, hq4, hrd, hgr2⟩
        have hgr := grown_trans hgr1' hgr2
        have hB := blk_grown hB1 hgr2 (by omega)
        have hqa : p ≤ q2 := by omega
        have hqb : q2 ≤ p + (2 * rdE d + 5) := by omega
        clear hrd1 hgr1 hgr1' hB1 hgr2 hz
        have x0 := hB.cell 0
        have x1 := hB.cell 1
        have x2 := hB.cell 2
        have x3 := hB.cell 3
        have f0 := hB.frozen 0
        have f1 := hB.frozen 1
        have f2 := hB.frozen 2
        have f3 := hB.frozen 3
        simp only [List.getElem?_toArray, List.getElem?_cons_zero, List.getElem?_cons_succ] at x0 x1 x2 x3
        have HEND := Lib.hid (end_draw (v0 := .int .i64 1) (v1 := .int .i64 z) (v2 := .string { data := #[] }) (v3 := .slice none 0 0) hrd hqa hqb hgr hgw hB)
        go_wp2_with fail
        obtain ⟨wn, hwn⟩ : ∃ wn, wn = (((w2.setCell ⟨w.heap.size, 0, none⟩ (.int .i64 1)).setCell ⟨w.heap.size, 1, none⟩ (.int .i64 z)).setCell ⟨w.heap.size, 2, none⟩ (.string { data := #[] })).setCell ⟨w.heap.size, 3, none⟩ (.slice none 0 0) := ⟨_, rfl⟩
        rw [← hwn]
        obtain ⟨hBn, hRn, hSn, hZn⟩ := HEND.out wn hwn
        have r0 := hBn.cell 0
        have r1 := hBn.cell 1
        have r2 := hBn.cell 2
        have r3 := hBn.cell 3
        simp only [List.getElem?_toArray, List.getElem?_cons_zero, List.getElem?_cons_succ] at r0 r1 r2 r3
        refine bodyPost_ret (v := .agg #[.int .i64 1, .int .i64 z, .string { data := #[] }, .slice none 0 0]) (by simp [results, Tryz.results65, go_sem, r0, r1, r2, r3]) rfl ?_
        refine ⟨.mk 1 (z) { data := #[] } [], none, _, rfl, Nat.le_refl _, own_nil _ _ _ _ _ _ _ (by rw [hZn]; exact hgr.size), ⟨by rw [Ex.short, Ex.shorts]; exact ⟨by decide, trivial⟩, .num z, rfl⟩, by rw [Ex.wt, Ex.wts, show (ByteArray.mk #[]).size = 0 from rfl]; omega, hRn⟩
      · have p0 : ((v : Int) == 0) = false := by rw [beq_eq_false_iff_ne]; omega
        go_wp2_with fail
        refine (of_lit [⟨#[120]⟩, ⟨#[121]⟩, ⟨#[122]⟩, ⟨#[120]⟩] B g A0 len cap q1 w1 hrd1 (by omega) (by simp) (by simp)).mono ?_
        rintro r w2 ⟨s, hs, rfl, q2, hq3, hq4, hrd, hgr2⟩
        have hgr := grown_trans hgr1' hgr2
        have hB := blk_grown hB1 hgr2 (by omega)
        have hqa : p ≤ q2 := by omega
        have hqb : q2 ≤ p + (2 * rdE d + 5) := by omega
        have hsz : s.size ≤ 4 := short_of (by decide) hs
        clear hrd1 hgr1 hgr1' hB1 hgr2 hs
        have x0 := hB.cell 0
        have x1 := hB.cell 1
        have x2 := hB.cell 2
        have x3 := hB.cell 3
        have f0 := hB.frozen 0
        have f1 := hB.frozen 1
        have f2 := hB.frozen 2
        have f3 := hB.frozen 3
        simp only [List.getElem?_toArray, List.getElem?_cons_zero, List.getElem?_cons_succ] at x0 x1 x2 x3
        have HEND := Lib.hid (end_draw (v0 := .int .i64 2) (v1 := .int .i64 0) (v2 := .string s) (v3 := .slice none 0 0) hrd hqa hqb hgr hgw hB)
        go_wp2_with fail
        obtain ⟨wn, hwn⟩ : ∃ wn, wn = (((w2.setCell ⟨w.heap.size, 0, none⟩ (.int .i64 2)).setCell ⟨w.heap.size, 1, none⟩ (.int .i64 0)).setCell ⟨w.heap.size, 2, none⟩ (.string s)).setCell ⟨w.heap.size, 3, none⟩ (.slice none 0 0) := ⟨_, rfl⟩
        rw [← hwn]
        obtain ⟨hBn, hRn, hSn, hZn⟩ := HEND.out wn hwn
        have r0 := hBn.cell 0
        have r1 := hBn.cell 1
        have r2 := hBn.cell 2
        have r3 := hBn.cell 3
        simp only [List.getElem?_toArray, List.getElem?_cons_zero, List.getElem?_cons_succ] at r0 r1 r2 r3
        refine bodyPost_ret (v := .agg #[.int .i64 2, .int .i64 0, .string s, .slice none 0 0]) (by simp [results, Tryz.results65, go_sem, r0, r1, r2, r3]) rfl ?_
        refine ⟨.mk 2 (0) s [], none, _, rfl, Nat.le_refl _, own_nil _ _ _ _ _ _ _ (by rw [hZn]; exact hgr.size), ⟨by rw [Ex.short, Ex.shorts]; exact ⟨hsz, trivial⟩, .name s, rfl⟩, by rw [Ex.wt, Ex.wts]; omega, hRn⟩
    have pa : ((va : Int) == 0) = false := by rw [beq_eq_false_iff_ne]; omega
    go_wp2_with fail
    refine (pick_any B g A0 len cap qa 4 _ hrda (by omega) (by omega) (by omega)).mono ?_
    rintro r wb ⟨vb, hvb, rfl, qb, hqb1, hqb2, hrdb, hgrb'⟩
    have hgrb := grown_trans hgra hgrb'
    have hBb := blk_grown hBa hgrb' (by omega)
    clear hgrb' hrda hgra hBa
    by_cases hvb0 : vb = 0
    · subst hvb0
      go_wp2_with fail
      refine (of_lit [⟨#[105, 110, 116]⟩, ⟨#[98, 111, 111, 108]⟩, ⟨#[105, 110, 116]⟩] B g A0 len cap qb wb hrdb (by omega) (by simp) (by simp)).mono ?_
      rintro r wc ⟨s, hs, rfl, qc, hqc1, hqc2, hrdc, hgrc'⟩
      have hgrc := grown_trans hgrb hgrc'
      have hBc := blk_grown hBb hgrc' (by omega)
      have hsz : s.size ≤ 4 := short_of (by decide) hs
      clear hgrc' hrdb hgrb hBb hs
      go_wp2_with fail
      refine (HI.out qc wc hrdc (by omega)).mono ?_
      rintro r wd ⟨x, Ax, cx, rfl, hcx, hOx, hsx, hwx, qd, hqd1, hqd2, hrdd, hgrd'⟩
      have hgrd := grown_trans hgrc hgrd'
      have hBd := blk_grown hBc hgrd' (by omega)
      have hwc := hBc.lt
      have hwd := hgrd'.size
      obtain ⟨xk, xn, xs, xks⟩ := x
      simp only [Ex.kind, Ex.n, Ex.s, Ex.kids] at hcx ⊢
      have hrd := hrdd.alloc (.cells #[.int .i64 xk, .int .i64 xn, .string xs, .slice Ax xks.length cx] 34)
      have hgr := grown_alloc hgrd (.cells #[.int .i64 xk, .int .i64 xn, .string xs, .slice Ax xks.length cx] 34)
      have hB : Blk (wd.alloc (.cells #[.int .i64 xk, .int .i64 xn, .string xs, .slice Ax xks.length cx] 34)) w.heap.size #[.int .i64 0, .int .i64 0, .string { data := #[] }, .slice none 0 0] := (Below.heap_alloc _ _ _ hBd.lt).trans hBd
      have hBk : Blk (wd.alloc (.cells #[.int .i64 xk, .int .i64 xn, .string xs, .slice Ax xks.length cx] 34)) wd.heap.size #[.int .i64 xk, .int .i64 xn, .string xs, .slice Ax xks.length cx] := World.alloc_heap_new wd _
      have HOX := Lib.hid (own_keep (w' := wd.alloc (.cells #[.int .i64 xk, .int .i64 xn, .string xs, .slice Ax xks.length cx] 34)) (.mk xk xn xs xks) _ _ _ (fun k _ h => Below.heap_alloc _ _ _ h) hOx)
      have HBK := Lib.hid hBk
      have hqa : p ≤ qd := by omega
      have hqb : qd ≤ p + (2 * rdE d + 5) := by omega
      have HSX := Lib.hid hsx
      have hzs : (wd.alloc (.cells #[.int .i64 xk, .int .i64 xn, .string xs, .slice Ax xks.length cx] 34)).heap.size = wd.heap.size + 1 := by simp
      clear hgrd' hrdc hgrc hBc hrdd hgrd hBd hOx hBk hsx HI
      have x0 := hB.cell 0
      have x1 := hB.cell 1
      have x2 := hB.cell 2
      have x3 := hB.cell 3
      have f0 := hB.frozen 0
      have f1 := hB.frozen 1
      have f2 := hB.frozen 2
      have f3 := hB.frozen 3
      simp only [List.getElem?_toArray, List.getElem?_cons_zero, List.getElem?_cons_succ] at x0 x1 x2 x3
      have HEND := Lib.hid (end_draw (v0 := .int .i64 4) (v1 := .int .i64 0) (v2 := .string s) (v3 := .slice (some ⟨wd.heap.size, 0, none⟩) 1 1) hrd hqa hqb hgr hgw hB)
      go_wp2_with fail
      obtain ⟨wn, hwn⟩ : ∃ wn, wn = ((((wd.alloc (.cells #[.int .i64 xk, .int .i64 xn, .string xs, .slice Ax xks.length cx] 34)).setCell ⟨w.heap.size, 0, none⟩ (.int .i64 4)).setCell ⟨w.heap.size, 1, none⟩ (.int .i64 0)).setCell ⟨w.heap.size, 2, none⟩ (.string s)).setCell ⟨w.heap.size, 3, none⟩ (.slice (some ⟨wd.heap.size, 0, none⟩) 1 1) := ⟨_, rfl⟩
      rw [← hwn]
      obtain ⟨hBn, hRn, hSn, hZn⟩ := HEND.out wn hwn
      have r0 := hBn.cell 0
      have r1 := hBn.cell 1
      have r2 := hBn.cell 2
      have r3 := hBn.cell 3
      simp only [List.getElem?_toArray, List.getElem?_cons_zero, List.getElem?_cons_succ] at r0 r1 r2 r3
      refine bodyPost_ret (v := .agg #[.int .i64 4, .int .i64 0, .string s, .slice (some ⟨wd.heap.size, 0, none⟩) 1 1]) (by simp [results, Tryz.results65, go_sem, r0, r1, r2, r3]) rfl ?_
      refine ⟨.mk 4 (0) s [.mk xk xn xs xks], some ⟨wd.heap.size, 0, none⟩, _, rfl, Nat.le_refl _, own_wide (own_one (D := Ax) (c := cx) ((hSn wd.heap.size (by omega)).trans HBK.out) hcx (own_keep _ _ _ _ (fun k _ h => hSn k (by omega)) HOX.out) (Nat.le_refl _) (show wd.heap.size < wn.heap.size by omega)) (by omega) (Nat.le_refl _), ⟨by rw [Ex.short, Ex.shorts, Ex.shorts]; exact ⟨hsz, HSX.out.1, trivial⟩, (by obtain ⟨px, hpx⟩ := HSX.out.2; exact ⟨.as s px, by rw [Pt.ex, hpx]⟩)⟩, by rw [Ex.wt, Ex.wts, Ex.wts]; omega, hRn⟩
    · have pb : ((vb : Int) == 0) = false := by rw [beq_eq_false_iff_ne]; omega
      go_wp2_with fail
      refine (of_lit [⟨#[43]⟩, ⟨#[45]⟩, ⟨#[42]⟩, ⟨#[60]⟩, ⟨#[43]⟩, ⟨#[42]⟩] B g A0 len cap qb wb hrdb (by omega) (by simp) (by simp)).mono ?_
      rintro r wc ⟨s, hs, rfl, qc, hqc1, hqc2, hrdc, hgrc'⟩
      have hgrc := grown_trans hgrb hgrc'
      have hBc := blk_grown hBb hgrc' (by omega)
      have hsz : s.size ≤ 1 := (show ∀ x ∈ ([⟨#[43]⟩, ⟨#[45]⟩, ⟨#[42]⟩, ⟨#[60]⟩, ⟨#[43]⟩, ⟨#[42]⟩] : List ByteArray), x.size ≤ 1 by decide) s hs
      clear hgrc' hrdb hgrb hBb hs
      go_wp2_with fail
      refine (HI.out qc wc hrdc (by omega)).mono ?_
      rintro r wd ⟨x, Ax, cx, rfl, hcx, hOx, hsx, hwx, qd, hqd1, hqd2, hrdd, hgrd'⟩
      have hgrd := grown_trans hgrc hgrd'
      have hBd := blk_grown hBc hgrd' (by omega)
      have hwc := hBc.lt
      have hwd := hgrd'.size
      clear hgrd' hrdc hgrc hBc
      go_wp2_with fail
      refine (HI.out qd wd hrdd (by omega)).mono ?_
      rintro r wf ⟨y, Ay, cy, rfl, hcy, hOy, hsy, hwy, qf, hqf1, hqf2, hrdf, hgrf'⟩
      have hgrf := grown_trans hgrd hgrf'
      have hBf := blk_grown hBd hgrf' (by omega)
      have hwf := hgrf'.size
      have hOx2 := own_keep _ _ _ _ (fun k h1 h2 => hgrf'.block k h2 (fun e => by injection e with e; omega)) hOx
      obtain ⟨xk, xn, xs, xks⟩ := x
      obtain ⟨yk, yn, ys, yks⟩ := y
      simp only [Ex.kind, Ex.n, Ex.s, Ex.kids] at hcx hcy ⊢
      have hrd := hrdf.alloc (.cells #[.int .i64 xk, .int .i64 xn, .string xs, .slice Ax xks.length cx, .int .i64 yk, .int .i64 yn, .string ys, .slice Ay yks.length cy] 34)
      have hgr := grown_alloc hgrf (.cells #[.int .i64 xk, .int .i64 xn, .string xs, .slice Ax xks.length cx, .int .i64 yk, .int .i64 yn, .string ys, .slice Ay yks.length cy] 34)
      have hB : Blk (wf.alloc (.cells #[.int .i64 xk, .int .i64 xn, .string xs, .slice Ax xks.length cx, .int .i64 yk, .int .i64 yn, .string ys, .slice Ay yks.length cy] 34)) w.heap.size #[.int .i64 0, .int .i64 0, .string { data := #[] }, .slice none 0 0] := (Below.heap_alloc _ _ _ hBf.lt).trans hBf
      have HBK := Lib.hid (show Blk (wf.alloc (.cells #[.int .i64 xk, .int .i64 xn, .string xs, .slice Ax xks.length cx, .int .i64 yk, .int .i64 yn, .string ys, .slice Ay yks.length cy] 34)) wf.heap.size #[.int .i64 xk, .int .i64 xn, .string xs, .slice Ax xks.length cx, .int .i64 yk, .int .i64 yn, .string ys, .slice Ay yks.length cy] from World.alloc_heap_new wf _)
      have HOX := Lib.hid (own_keep (w' := wf.alloc (.cells #[.int .i64 xk, .int .i64 xn, .string xs, .slice Ax xks.length cx, .int .i64 yk, .int .i64 yn, .string ys, .slice Ay yks.length cy] 34)) (.mk xk xn xs xks) _ _ _ (fun k _ h => Below.heap_alloc _ _ _ (by omega)) hOx2)
      have HOY := Lib.hid (own_keep (w' := wf.alloc (.cells #[.int .i64 xk, .int .i64 xn, .string xs, .slice Ax xks.length cx, .int .i64 yk, .int .i64 yn, .string ys, .slice Ay yks.length cy] 34)) (.mk yk yn ys yks) _ _ _ (fun k _ h => Below.heap_alloc _ _ _ h) hOy)
      have hqa : p ≤ qf := by omega
      have hqb : qf ≤ p + (2 * rdE d + 5) := by omega
      have HSX := Lib.hid hsx
      have HSY := Lib.hid hsy
      have hzs : (wf.alloc (.cells #[.int .i64 xk, .int .i64 xn, .string xs, .slice Ax xks.length cx, .int .i64 yk, .int .i64 yn, .string ys, .slice Ay yks.length cy] 34)).heap.size = wf.heap.size + 1 := by simp
      clear hgrf' hrdd hgrd hBd hrdf hgrf hBf hOx hOx2 hOy hsx hsy HI
      have x0 := hB.cell 0
      have x1 := hB.cell 1
      have x2 := hB.cell 2
      have x3 := hB.cell 3
      have f0 := hB.frozen 0
      have f1 := hB.frozen 1
      have f2 := hB.frozen 2
      have f3 := hB.frozen 3
      simp only [List.getElem?_toArray, List.getElem?_cons_zero, List.getElem?_cons_succ] at x0 x1 x2 x3
      have HEND := Lib.hid (end_draw (v0 := .int .i64 3) (v1 := .int .i64 0) (v2 := .string s) (v3 := .slice (some ⟨wf.heap.size, 0, none⟩) 2 2) hrd hqa hqb hgr hgw hB)
      go_wp2_with fail
      obtain ⟨wn, hwn⟩ : ∃ wn, wn = ((((wf.alloc (.cells #[.int .i64 xk, .int .i64 xn, .string xs, .slice Ax xks.length cx, .int .i64 yk, .int .i64 yn, .string ys, .slice Ay yks.length cy] 34)).setCell ⟨w.heap.size, 0, none⟩ (.int .i64 3)).setCell ⟨w.heap.size, 1, none⟩ (.int .i64 0)).setCell ⟨w.heap.size, 2, none⟩ (.string s)).setCell ⟨w.heap.size, 3, none⟩ (.slice (some ⟨wf.heap.size, 0, none⟩) 2 2) := ⟨_, rfl⟩
      rw [← hwn]
      obtain ⟨hBn, hRn, hSn, hZn⟩ := HEND.out wn hwn
      have r0 := hBn.cell 0
      have r1 := hBn.cell 1
      have r2 := hBn.cell 2
      have r3 := hBn.cell 3
      simp only [List.getElem?_toArray, List.getElem?_cons_zero, List.getElem?_cons_succ] at r0 r1 r2 r3
      refine bodyPost_ret (v := .agg #[.int .i64 3, .int .i64 0, .string s, .slice (some ⟨wf.heap.size, 0, none⟩) 2 2]) (by simp [results, Tryz.results65, go_sem, r0, r1, r2, r3]) rfl ?_
      refine ⟨.mk 3 (0) s [.mk xk xn xs xks, .mk yk yn ys yks], some ⟨wf.heap.size, 0, none⟩, _, rfl, Nat.le_refl _, own_wide (own_two (D := Ax) (c := cx) (E := Ay) (d := cy) ((hSn wf.heap.size (by omega)).trans HBK.out) hcx hcy (own_keep _ _ _ _ (fun k _ h => hSn k (by omega)) HOX.out) (own_keep _ _ _ _ (fun k _ h => hSn k (by omega)) HOY.out) (Nat.le_refl _) (show wf.heap.size < wn.heap.size by omega)) (by omega) (Nat.le_refl _), ⟨by rw [Ex.short, Ex.shorts, Ex.shorts, Ex.shorts]; exact ⟨by omega, HSX.out.1, HSY.out.1, trivial⟩, (by obtain ⟨px, hpx⟩ := HSX.out.2; obtain ⟨py, hpy⟩ := HSY.out.2; exact ⟨.two s px py, by rw [Pt.ex, hpx, hpy]⟩)⟩, by rw [Ex.wt, Ex.wts, Ex.wts, Ex.wts]; omega, hRn⟩
theorem l4Expr_any (B g : Nat) (A0 : Option Addr) (len cap : Nat) (d deep p : Nat) (w : World) (h1 : d ≤ 10) (h2 : deep ≤ d + 1) (h3 : Rd w B g A0 len cap p) (h4 : p + rdE d ≤ 2 ^ 20) :
    Calls Tryz.prog 65 #[.pointer (some ⟨g, 0, none⟩), .int .i64 (deep : Int)] w (DrewE (rdE d) (bndE d) w B g A0 len cap p) :=
  (l4Expr_shp B g A0 len cap d deep p w h1 h2 h3 h4).mono (fun _ _ h => h.drop)
end Go.Proofs.YtabignplhkbcpaaGreatDoor

namespace Go.Proofs.YtabignplhkbcpaaGreatDoor
open Go.RowKit

theorem below_rd {w w' : World} {B g : Nat} {A : Option Addr} {len cap p : Nat} (h : Rd w B g A len cap p) (hb : Below w.heap.size w w') : Rd w' B g A len cap p :=
  rd_keep h (hb.block g h.lt) (fun k hk => hb.block k (by have := h.lt; have := h.2.1; omega))
theorem grown_below' {w w1 w2 : World} {g : Nat} (h : w.grownBy w1 (some g)) (hb : Below w1.heap.size w1 w2) : w.grownBy w2 (some g) :=
  ⟨hb.os.trans h.os, hb.tape.trans h.tape, hb.output.trans h.output, Nat.le_trans h.size hb.size, fun i hi hne => (hb.block i (Nat.lt_of_lt_of_le hi h.size)).trans (h.block i hi hne)⟩
theorem own_head {w : World} {e : Ex} {k n : Int} {s : ByteArray} {lo hi : Nat} {A : Option Addr} (h : OwnE w e lo hi A) : OwnE w (.mk k n s e.kids) lo hi A := by
  obtain ⟨k', n', s', ks⟩ := e
  rw [OwnE] at h
  rw [OwnE]
  exact h
theorem Ex.short_s {e : Ex} (h : e.short) : e.s.size ≤ 4 := by obtain ⟨k, n, s, ks⟩ := e; rw [Ex.short] at h; exact h.1
theorem short_head {e : Ex} {k n : Int} {s : ByteArray} (h : e.short) (hs : s.size ≤ 4) : (Ex.mk k n s e.kids).short := by
  obtain ⟨k', n', s', ks⟩ := e
  rw [Ex.short] at h
  rw [Ex.short]
  exact ⟨hs, h.2⟩
theorem wt_head {e : Ex} {k n : Int} {s : ByteArray} (h : e.wt ≤ 1000) (hs : s.size ≤ 4) : (Ex.mk k n s e.kids).wt ≤ 2000 := by
  obtain ⟨k', n', s', ks⟩ := e
  rw [Ex.wt] at h
  rw [Ex.wt]
  simp only [Ex.kids]
  omega

set_option maxRecDepth 100000 in
set_option maxHeartbeats 4000000 in
theorem l4Some_shp (B g : Nat) (A0 : Option Addr) (len cap p : Nat) (w : World) (hr : Rd w B g A0 len cap p) (hp : p ≤ 2 ^ 18) :
    Calls Tryz.prog 64 #[.pointer (some ⟨g, 0, none⟩)] w (DrewP 100 1000 w B g A0 len cap p) := by
  have hgw := hr.lt
  have hgr0 : w.grownBy (w.alloc (.cells #[.int .i64 0, .int .i64 0, .string { data := #[] }, .slice none 0 0] 34)) (some g) := grown_alloc (grown_refl w (some g)) _
  have hB0 : Blk (w.alloc (.cells #[.int .i64 0, .int .i64 0, .string { data := #[] }, .slice none 0 0] 34)) w.heap.size #[.int .i64 0, .int .i64 0, .string { data := #[] }, .slice none 0 0] := World.alloc_heap_new w _
  have hr0 := hr.alloc (.cells #[.int .i64 0, .int .i64 0, .string { data := #[] }, .slice none 0 0] 34)
  have r3 : rdE 3 = 59 := rfl
  have r1 : rdE 1 = 11 := rfl
  have b3 : bndE 3 = 150 := rfl
  have b1 : bndE 1 = 30 := rfl
  clear hr
  go_enter Tryz.func64, Tryz.ntmps64
  go_wp2_with fail
  refine (pick_any B g A0 len cap p 4 _ hr0 (by omega) (by omega) (by omega)).mono ?_
  rintro r w1 ⟨v, hv, rfl, q1, hq1, hq2, hrd1, hgr1'⟩
  have hgr1 := grown_trans hgr0 hgr1'
  have hB1 := blk_grown hB0 hgr1' (by omega)
  have HI := Lib.hid (l4Expr_shp B g A0 len cap 3 (1 + v) q1 w1 (by omega) (by omega) hrd1 (by rw [r3]; omega))
  rw [show ((1 + v : Nat) : Int) = 1 + (v : Int) by omega] at HI
  clear hgr1' hr0 hgr0 hB0
  go_wp2_with fail
  refine HI.out.mono ?_
  rintro r w2 ⟨e, A, c, rfl, hc, hO2, hS2, hwt, q2, hq3, hq4, hrd2, hgr2'⟩
  have hgr2 := grown_trans hgr1 hgr2'
  have hB2 := blk_grown hB1 hgr2' (by omega)
  have hlo := hB1.lt
  have hw2 := hgr2'.size
  have hkl : e.kids.length ≤ 2 ^ 40 := by
    obtain ⟨k, n, s, ks⟩ := e
    have := Ex.wts_length ks
    simp only [Ex.wt, Ex.kids] at hwt ⊢
    omega
  rw [r3] at hq4
  rw [b3] at hwt
  have HS := Lib.hid hS2
  obtain ⟨W3, hW3⟩ : ∃ W3, W3 = w2.alloc (.cells #[.int .i64 e.kind, .int .i64 e.n, .string e.s, .slice A e.kids.length c] 34) := ⟨_, rfl⟩
  have hb3 : Below w2.heap.size w2 W3 := by rw [hW3]; exact (Below.refl _ w2).alloc (Nat.le_refl _) _
  have hs3 : w2.heap.size < W3.heap.size := by rw [hW3]; simp
  have hE3 : Blk W3 w2.heap.size #[.int .i64 e.kind, .int .i64 e.n, .string e.s, .slice A e.kids.length c] := by rw [hW3]; exact World.alloc_heap_new w2 _
  have hrd3 := below_rd hrd2 hb3
  have hgr3 := grown_below' hgr2 hb3
  have hB3 : Blk W3 w.heap.size #[.int .i64 0, .int .i64 0, .string { data := #[] }, .slice none 0 0] := (hb3.block _ hB2.lt).trans hB2
  have hO3 := own_keep _ _ _ _ (fun k h1 h2 => hb3.block k h2) hO2
  have HC := Lib.hid (specExprOk_any e A c w2.heap.size W3 (own_kids e _ _ _ _ hO3 (Nat.le_refl _)) hc (Nat.le_of_lt hs3) (by omega))
  generalize okE e = ok at *
  clear hrd1 hgr1 hB1 hgr2' hrd2 hgr2 hB2 hO2 hS2 HI
  go_wp2_with fail
  rw [← hW3]
  clear hW3
  refine HC.out.mono ?_
  rintro r w4 ⟨rfl, hb4⟩
  have hrd4 := below_rd hrd3 hb4
  have hgr4 := grown_below' hgr3 hb4
  have hB4 : Blk w4 w.heap.size #[.int .i64 0, .int .i64 0, .string { data := #[] }, .slice none 0 0] := (hb4.block _ hB3.lt).trans hB3
  have hE4 : Blk w4 w2.heap.size #[.int .i64 e.kind, .int .i64 e.n, .string e.s, .slice A e.kids.length c] := (hb4.block _ hE3.lt).trans hE3
  have hO4 := own_keep _ _ _ _ (fun k h1 h2 => hb4.block k (by omega)) hO3
  have hs4 := hb4.size
  clear hrd3 hgr3 hB3 hE3 hO3 HC
  cases ok
  · have HJ := Lib.hid (l4Expr_shp B g A0 len cap 1 2 q2 w4 (by omega) (by omega) hrd4 (by rw [r1]; omega))
    clear hE4 hO4 HS
    go_wp2_with fail
    refine HJ.out.mono ?_
    rintro r w5 ⟨e', A', c', rfl, hc', hO5, hS5, hwt5, q5, hq5, hq6, hrd, hgr5'⟩
    have hgr := grown_trans hgr4 hgr5'
    have hB := blk_grown hB4 hgr5' (by omega)
    have HO := Lib.hid hO5
    have HS := Lib.hid hS5
    rw [r1] at hq6
    rw [b1] at hwt5
    have hqa : p ≤ q5 := by omega
    have hqb : q5 ≤ p + 100 := by omega
    have hw5 := hgr5'.size
    have hl4 := hB4.lt
    clear hrd4 hgr4 hB4 hgr5' hO5 hS5 HJ
    have x0 := hB.cell 0
    have x1 := hB.cell 1
    have x2 := hB.cell 2
    have x3 := hB.cell 3
    have f0 := hB.frozen 0
    have f1 := hB.frozen 1
    have f2 := hB.frozen 2
    have f3 := hB.frozen 3
    simp only [List.getElem?_toArray, List.getElem?_cons_zero, List.getElem?_cons_succ] at x0 x1 x2 x3
    have HEND := Lib.hid (end_draw (v0 := .int .i64 e'.kind) (v1 := .int .i64 e'.n) (v2 := .string e'.s) (v3 := .slice A' e'.kids.length c') hrd hqa hqb hgr hgw hB)
    have hlo := hB.lt
    clear hrd hgr hB
    go_wp2_with fail
    obtain ⟨wn, hwn⟩ : ∃ wn, wn = (((w5.setCell ⟨w.heap.size, 0, none⟩ (.int .i64 e'.kind)).setCell ⟨w.heap.size, 1, none⟩ (.int .i64 e'.n)).setCell ⟨w.heap.size, 2, none⟩ (.string e'.s)).setCell ⟨w.heap.size, 3, none⟩ (.slice A' e'.kids.length c') := ⟨_, rfl⟩
    rw [← hwn]
    obtain ⟨hBn, hRn, hSn, hZn⟩ := HEND.out wn hwn
    have r0 := hBn.cell 0
    have r1 := hBn.cell 1
    have r2 := hBn.cell 2
    have r3 := hBn.cell 3
    simp only [List.getElem?_toArray, List.getElem?_cons_zero, List.getElem?_cons_succ] at r0 r1 r2 r3
    refine bodyPost_ret (v := .agg #[.int .i64 e'.kind, .int .i64 e'.n, .string e'.s, .slice A' e'.kids.length c']) (by simp [results, Tryz.results64, go_sem, r0, r1, r2, r3]) rfl ?_
    exact ⟨e', A', c', rfl, hc', own_wide (own_keep _ _ _ _ (fun k h1 h2 => hSn k (by omega)) HO.out) (by omega) (by omega), HS.out, by omega, hRn⟩
  · have y0 := hE4.cell 0
    have y1 := hE4.cell 1
    have y2 := hE4.cell 2
    have y3 := hE4.cell 3
    simp only [List.getElem?_toArray, List.getElem?_cons_zero, List.getElem?_cons_succ] at y0 y1 y2 y3
    have hrd := hrd4
    have hgr := hgr4
    have hB := hB4
    have HO := Lib.hid hO4
    have hqa : p ≤ q2 := by omega
    have hqb : q2 ≤ p + 100 := by omega
    clear hrd4 hgr4 hB4 hE4 hO4
    have x0 := hB.cell 0
    have x1 := hB.cell 1
    have x2 := hB.cell 2
    have x3 := hB.cell 3
    have f0 := hB.frozen 0
    have f1 := hB.frozen 1
    have f2 := hB.frozen 2
    have f3 := hB.frozen 3
    simp only [List.getElem?_toArray, List.getElem?_cons_zero, List.getElem?_cons_succ] at x0 x1 x2 x3
    have HEND := Lib.hid (end_draw (v0 := .int .i64 e.kind) (v1 := .int .i64 e.n) (v2 := .string e.s) (v3 := .slice A e.kids.length c) hrd hqa hqb hgr hgw hB)
    have hlo := hB.lt
    clear hrd hgr hB
    go_wp2_with fail
    obtain ⟨wn, hwn⟩ : ∃ wn, wn = (((w4.setCell ⟨w.heap.size, 0, none⟩ (.int .i64 e.kind)).setCell ⟨w.heap.size, 1, none⟩ (.int .i64 e.n)).setCell ⟨w.heap.size, 2, none⟩ (.string e.s)).setCell ⟨w.heap.size, 3, none⟩ (.slice A e.kids.length c) := ⟨_, rfl⟩
    rw [← hwn]
    obtain ⟨hBn, hRn, hSn, hZn⟩ := HEND.out wn hwn
    have r0 := hBn.cell 0
    have r1 := hBn.cell 1
    have r2 := hBn.cell 2
    have r3 := hBn.cell 3
    simp only [List.getElem?_toArray, List.getElem?_cons_zero, List.getElem?_cons_succ] at r0 r1 r2 r3
    refine bodyPost_ret (v := .agg #[.int .i64 e.kind, .int .i64 e.n, .string e.s, .slice A e.kids.length c]) (by simp [results, Tryz.results64, go_sem, r0, r1, r2, r3]) rfl ?_
    exact ⟨e, A, c, rfl, hc, own_wide (own_keep _ _ _ _ (fun k h1 h2 => hSn k (by omega)) HO.out) (by omega) (by omega), HS.out, by omega, hRn⟩

theorem l4Some_any (B g : Nat) (A0 : Option Addr) (len cap p : Nat) (w : World) (hr : Rd w B g A0 len cap p) (hp : p ≤ 2 ^ 18) :
    Calls Tryz.prog 64 #[.pointer (some ⟨g, 0, none⟩)] w (DrewE 100 1000 w B g A0 len cap p) := (l4Some_shp B g A0 len cap p w hr hp).mono (fun _ _ h => h.drop)

set_option maxRecDepth 100000 in
set_option maxHeartbeats 4000000 in
theorem l4Bent_any (B g : Nat) (A0 : Option Addr) (len cap p : Nat) (w : World) (hr : Rd w B g A0 len cap p) (hp : p ≤ 2 ^ 17) :
    Calls Tryz.prog 47 #[.pointer (some ⟨g, 0, none⟩)] w (DrewE 200 2000 w B g A0 len cap p) := by
  have hgw := hr.lt
  have hgr0 : w.grownBy (w.alloc (.cells #[.int .i64 0, .int .i64 0, .string { data := #[] }, .slice none 0 0] 34)) (some g) := grown_alloc (grown_refl w (some g)) _
  have hB0 : Blk (w.alloc (.cells #[.int .i64 0, .int .i64 0, .string { data := #[] }, .slice none 0 0] 34)) w.heap.size #[.int .i64 0, .int .i64 0, .string { data := #[] }, .slice none 0 0] := World.alloc_heap_new w _
  have hr0 := hr.alloc (.cells #[.int .i64 0, .int .i64 0, .string { data := #[] }, .slice none 0 0] 34)
  have HI := Lib.hid (l4Some_any B g A0 len cap p _ hr0 (by omega))
  clear hr
  go_enter Tryz.func47, Tryz.ntmps47
  go_wp2_with fail
  refine HI.out.mono ?_
  rintro r w2 ⟨e, A, c, rfl, hc, hO2, hS2, hwt, q2, hq3, hq4, hrd2, hgr2'⟩
  have hgr2 := grown_trans hgr0 hgr2'
  have hB2 := blk_grown hB0 hgr2' (by omega)
  have hlo : (w.alloc (.cells #[.int .i64 0, .int .i64 0, .string { data := #[] }, .slice none 0 0] 34)).heap.size = w.heap.size + 1 := by simp
  rw [hlo] at hO2
  have hw2 := own_le _ _ _ _ _ hO2
  have HS := Lib.hid hS2
  obtain ⟨W3, hW3⟩ : ∃ W3, W3 = w2.alloc (.cells #[.int .i64 e.kind, .int .i64 e.n, .string e.s, .slice A e.kids.length c] 34) := ⟨_, rfl⟩
  have hb3 : Below w2.heap.size w2 W3 := by rw [hW3]; exact (Below.refl _ w2).alloc (Nat.le_refl _) _
  have hs3 : w2.heap.size < W3.heap.size := by rw [hW3]; simp
  have hE3' : Blk W3 w2.heap.size #[.int .i64 e.kind, .int .i64 e.n, .string e.s, .slice A e.kids.length c] := by rw [hW3]; exact World.alloc_heap_new w2 _
  have hrd3' := below_rd hrd2 hb3
  have hgr3' := grown_below' hgr2 hb3
  have hB3' : Blk W3 w.heap.size #[.int .i64 0, .int .i64 0, .string { data := #[] }, .slice none 0 0] := (hb3.block _ hB2.lt).trans hB2
  have hO3' := own_keep _ _ _ _ (fun k h1 h2 => hb3.block k h2) hO2
  clear hgr2' hr0 hgr0 hB0 hrd2 hgr2 hB2 hO2 hS2 HI hlo
  go_wp2_with fail
  rw [← hW3]
  refine (pick_any B g A0 len cap q2 48 _ hrd3' (by omega) (by omega) (by omega)).mono ?_
  rintro r w3 ⟨v, hv, rfl, q3, hq1, hq2, hrd3, hgr3x⟩
  have hgr3 := grown_trans hgr3' hgr3x
  have hB3 := blk_grown hB3' hgr3x (by omega)
  have hE3 := blk_grown hE3' hgr3x (by omega)
  have hO3 := own_keep _ _ _ _ (fun k h1 h2 => hgr3x.block k (by omega) (fun e => by injection e with e; omega)) hO3'
  have hz3 := hgr3x.size
  clear hrd3' hgr3' hB3' hE3' hO3' hgr3x hW3 hb3
  by_cases hv0 : v = 0
  · subst hv0
    go_wp2_with fail
    refine (num_lit [0, 5, 3, 4] B g A0 len cap q3 w3 hrd3 (by omega) (by simp) (by simp)).mono ?_
    rintro r w4 ⟨z, hz, rfl, q4, hq5, hq6, hrd4, hgr4'⟩
    have hgr4 := grown_trans hgr3 hgr4'
    have hB4 := blk_grown hB3 hgr4' (by omega)
    have hE4 := blk_grown hE3 hgr4' (by omega)
    have hO4 := own_keep _ _ _ _ (fun k h1 h2 => hgr4'.block k (by omega) (fun e => by injection e with e; omega)) hO3
    have hz4 := hgr4'.size

    have y0 := hE4.cell 0
    have y1 := hE4.cell 1
    have y2 := hE4.cell 2
    have y3 := hE4.cell 3
    have yf := hE4.frozen 0
    simp only [List.getElem?_toArray, List.getElem?_cons_zero, List.getElem?_cons_succ] at y0 y1 y2 y3
    have hsame : ∀ j, j ≠ w2.heap.size → ((w4.setCell ⟨w2.heap.size, 0, none⟩ (.int .i64 z))).heap[j]? = w4.heap[j]? := fun j hj => Below.heap_setCell _ _ _ j hj
    have hrd := rd_keep hrd4 (hsame g (by omega)) (fun k hk => hsame k (by have := hrd4.2.1; omega))
    have hgr : w.grownBy (w4.setCell ⟨w2.heap.size, 0, none⟩ (.int .i64 z)) (some g) := ⟨hgr4.os, hgr4.tape, hgr4.output, by simp [World.setCell]; exact hgr4.size, fun j hj hne => (hsame j (by omega)).trans (hgr4.block j hj hne)⟩
    have hB : Blk (w4.setCell ⟨w2.heap.size, 0, none⟩ (.int .i64 z)) w.heap.size #[.int .i64 0, .int .i64 0, .string { data := #[] }, .slice none 0 0] := (hsame w.heap.size (by omega)).trans hB4
    have hEn : Blk (w4.setCell ⟨w2.heap.size, 0, none⟩ (.int .i64 z)) w2.heap.size #[.int .i64 z, .int .i64 e.n, .string e.s, .slice A e.kids.length c] := hE4.set 0 (.int .i64 z)
    have HO := Lib.hid (own_head (k := z) (n := e.n) (s := e.s) (own_keep _ _ _ _ (fun k h1 h2 => hsame k (by omega)) hO4))
    have u0 := hEn.cell 0
    have u1 := hEn.cell 1
    have u2 := hEn.cell 2
    have u3 := hEn.cell 3
    simp only [List.getElem?_toArray, List.getElem?_cons_zero, List.getElem?_cons_succ] at u0 u1 u2 u3
    have hzc : ((w4.setCell ⟨w2.heap.size, 0, none⟩ (.int .i64 z))).heap.size = w4.heap.size := by simp
    have hqa : p ≤ q4 := by omega
    have hqb : q4 ≤ p + 200 := by omega
    clear hrd3 hgr3 hB3 hE3 hO3 hgr4' hrd4 hgr4 hB4 hE4 hO4 hEn
    have x0 := hB.cell 0
    have x1 := hB.cell 1
    have x2 := hB.cell 2
    have x3 := hB.cell 3
    have f0 := hB.frozen 0
    have f1 := hB.frozen 1
    have f2 := hB.frozen 2
    have f3 := hB.frozen 3
    simp only [List.getElem?_toArray, List.getElem?_cons_zero, List.getElem?_cons_succ] at x0 x1 x2 x3
    have HEND := Lib.hid (end_draw (v0 := .int .i64 z) (v1 := .int .i64 e.n) (v2 := .string e.s) (v3 := .slice A e.kids.length c) hrd hqa hqb hgr hgw hB)
    have hlo := hB.lt
    clear hrd hgr hB
    go_wp2_with fail
    obtain ⟨wn, hwn⟩ : ∃ wn, wn = ((((w4.setCell ⟨w2.heap.size, 0, none⟩ (.int .i64 z)).setCell ⟨w.heap.size, 0, none⟩ (.int .i64 z)).setCell ⟨w.heap.size, 1, none⟩ (.int .i64 e.n)).setCell ⟨w.heap.size, 2, none⟩ (.string e.s)).setCell ⟨w.heap.size, 3, none⟩ (.slice A e.kids.length c) := ⟨_, rfl⟩
    rw [← hwn]
    obtain ⟨hBn, hRn, hSn, hZn⟩ := HEND.out wn hwn
    have r0 := hBn.cell 0
    have r1 := hBn.cell 1
    have r2 := hBn.cell 2
    have r3 := hBn.cell 3
    simp only [List.getElem?_toArray, List.getElem?_cons_zero, List.getElem?_cons_succ] at r0 r1 r2 r3
    refine bodyPost_ret (v := .agg #[.int .i64 z, .int .i64 e.n, .string e.s, .slice A e.kids.length c]) (by simp [results, Tryz.results47, go_sem, r0, r1, r2, r3]) rfl ?_
    exact ⟨(.mk z e.n e.s e.kids), A, c, rfl, hc, own_wide (own_keep _ _ _ _ (fun k h1 h2 => hSn k (by omega)) HO.out) (by omega) (by omega), short_head HS.out (Ex.short_s HS.out), wt_head hwt (Ex.short_s HS.out), hRn⟩
  have pv0 : ((v : Int) == 0) = false := by rw [beq_eq_false_iff_ne]; omega
  by_cases hv1 : v = 1
  · subst hv1
    go_wp2_with fail
    refine (num_lit [1, -1, 1000001] B g A0 len cap q3 w3 hrd3 (by omega) (by simp) (by simp)).mono ?_
    rintro r w4 ⟨z, hz, rfl, q4, hq5, hq6, hrd4, hgr4'⟩
    have hgr4 := grown_trans hgr3 hgr4'
    have hB4 := blk_grown hB3 hgr4' (by omega)
    have hE4 := blk_grown hE3 hgr4' (by omega)
    have hO4 := own_keep _ _ _ _ (fun k h1 h2 => hgr4'.block k (by omega) (fun e => by injection e with e; omega)) hO3
    have hz4 := hgr4'.size

    have y0 := hE4.cell 0
    have y1 := hE4.cell 1
    have y2 := hE4.cell 2
    have y3 := hE4.cell 3
    have yf := hE4.frozen 1
    simp only [List.getElem?_toArray, List.getElem?_cons_zero, List.getElem?_cons_succ] at y0 y1 y2 y3
    have hsame : ∀ j, j ≠ w2.heap.size → ((w4.setCell ⟨w2.heap.size, 1, none⟩ (.int .i64 z))).heap[j]? = w4.heap[j]? := fun j hj => Below.heap_setCell _ _ _ j hj
    have hrd := rd_keep hrd4 (hsame g (by omega)) (fun k hk => hsame k (by have := hrd4.2.1; omega))
    have hgr : w.grownBy (w4.setCell ⟨w2.heap.size, 1, none⟩ (.int .i64 z)) (some g) := ⟨hgr4.os, hgr4.tape, hgr4.output, by simp [World.setCell]; exact hgr4.size, fun j hj hne => (hsame j (by omega)).trans (hgr4.block j hj hne)⟩
    have hB : Blk (w4.setCell ⟨w2.heap.size, 1, none⟩ (.int .i64 z)) w.heap.size #[.int .i64 0, .int .i64 0, .string { data := #[] }, .slice none 0 0] := (hsame w.heap.size (by omega)).trans hB4
    have hEn : Blk (w4.setCell ⟨w2.heap.size, 1, none⟩ (.int .i64 z)) w2.heap.size #[.int .i64 e.kind, .int .i64 z, .string e.s, .slice A e.kids.length c] := hE4.set 1 (.int .i64 z)
    have HO := Lib.hid (own_head (k := e.kind) (n := z) (s := e.s) (own_keep _ _ _ _ (fun k h1 h2 => hsame k (by omega)) hO4))
    have u0 := hEn.cell 0
    have u1 := hEn.cell 1
    have u2 := hEn.cell 2
    have u3 := hEn.cell 3
    simp only [List.getElem?_toArray, List.getElem?_cons_zero, List.getElem?_cons_succ] at u0 u1 u2 u3
    have hzc : ((w4.setCell ⟨w2.heap.size, 1, none⟩ (.int .i64 z))).heap.size = w4.heap.size := by simp
    have hqa : p ≤ q4 := by omega
    have hqb : q4 ≤ p + 200 := by omega
    clear hrd3 hgr3 hB3 hE3 hO3 hgr4' hrd4 hgr4 hB4 hE4 hO4 hEn
    have x0 := hB.cell 0
    have x1 := hB.cell 1
    have x2 := hB.cell 2
    have x3 := hB.cell 3
    have f0 := hB.frozen 0
    have f1 := hB.frozen 1
    have f2 := hB.frozen 2
    have f3 := hB.frozen 3
    simp only [List.getElem?_toArray, List.getElem?_cons_zero, List.getElem?_cons_succ] at x0 x1 x2 x3
    have HEND := Lib.hid (end_draw (v0 := .int .i64 e.kind) (v1 := .int .i64 z) (v2 := .string e.s) (v3 := .slice A e.kids.length c) hrd hqa hqb hgr hgw hB)
    have hlo := hB.lt
    clear hrd hgr hB
    go_wp2_with fail
    obtain ⟨wn, hwn⟩ : ∃ wn, wn = ((((w4.setCell ⟨w2.heap.size, 1, none⟩ (.int .i64 z)).setCell ⟨w.heap.size, 0, none⟩ (.int .i64 e.kind)).setCell ⟨w.heap.size, 1, none⟩ (.int .i64 z)).setCell ⟨w.heap.size, 2, none⟩ (.string e.s)).setCell ⟨w.heap.size, 3, none⟩ (.slice A e.kids.length c) := ⟨_, rfl⟩
    rw [← hwn]
    obtain ⟨hBn, hRn, hSn, hZn⟩ := HEND.out wn hwn
    have r0 := hBn.cell 0
    have r1 := hBn.cell 1
    have r2 := hBn.cell 2
    have r3 := hBn.cell 3
    simp only [List.getElem?_toArray, List.getElem?_cons_zero, List.getElem?_cons_succ] at r0 r1 r2 r3
    refine bodyPost_ret (v := .agg #[.int .i64 e.kind, .int .i64 z, .string e.s, .slice A e.kids.length c]) (by simp [results, Tryz.results47, go_sem, r0, r1, r2, r3]) rfl ?_
    exact ⟨(.mk e.kind z e.s e.kids), A, c, rfl, hc, own_wide (own_keep _ _ _ _ (fun k h1 h2 => hSn k (by omega)) HO.out) (by omega) (by omega), short_head HS.out (Ex.short_s HS.out), wt_head hwt (Ex.short_s HS.out), hRn⟩
  have pv1 : ((v : Int) == 1) = false := by rw [beq_eq_false_iff_ne]; omega
  by_cases hv2 : v = 2
  · subst hv2
    go_wp2_with fail
    refine (of_lit [⟨#[108, 101, 116]⟩, ⟨#[88]⟩, ⟨#[60]⟩, ⟨#[105, 110, 116]⟩, ⟨#[120]⟩] B g A0 len cap q3 w3 hrd3 (by omega) (by simp) (by simp)).mono ?_
    rintro r w4 ⟨s, hs, rfl, q4, hq5, hq6, hrd4, hgr4'⟩
    have hgr4 := grown_trans hgr3 hgr4'
    have hB4 := blk_grown hB3 hgr4' (by omega)
    have hE4 := blk_grown hE3 hgr4' (by omega)
    have hO4 := own_keep _ _ _ _ (fun k h1 h2 => hgr4'.block k (by omega) (fun e => by injection e with e; omega)) hO3
    have hz4 := hgr4'.size
    have hsz : s.size ≤ 4 := short_of (by decide) hs
    have y0 := hE4.cell 0
    have y1 := hE4.cell 1
    have y2 := hE4.cell 2
    have y3 := hE4.cell 3
    have yf := hE4.frozen 2
    simp only [List.getElem?_toArray, List.getElem?_cons_zero, List.getElem?_cons_succ] at y0 y1 y2 y3
    have hsame : ∀ j, j ≠ w2.heap.size → ((w4.setCell ⟨w2.heap.size, 2, none⟩ (.string s))).heap[j]? = w4.heap[j]? := fun j hj => Below.heap_setCell _ _ _ j hj
    have hrd := rd_keep hrd4 (hsame g (by omega)) (fun k hk => hsame k (by have := hrd4.2.1; omega))
    have hgr : w.grownBy (w4.setCell ⟨w2.heap.size, 2, none⟩ (.string s)) (some g) := ⟨hgr4.os, hgr4.tape, hgr4.output, by simp [World.setCell]; exact hgr4.size, fun j hj hne => (hsame j (by omega)).trans (hgr4.block j hj hne)⟩
    have hB : Blk (w4.setCell ⟨w2.heap.size, 2, none⟩ (.string s)) w.heap.size #[.int .i64 0, .int .i64 0, .string { data := #[] }, .slice none 0 0] := (hsame w.heap.size (by omega)).trans hB4
    have hEn : Blk (w4.setCell ⟨w2.heap.size, 2, none⟩ (.string s)) w2.heap.size #[.int .i64 e.kind, .int .i64 e.n, .string s, .slice A e.kids.length c] := hE4.set 2 (.string s)
    have HO := Lib.hid (own_head (k := e.kind) (n := e.n) (s := s) (own_keep _ _ _ _ (fun k h1 h2 => hsame k (by omega)) hO4))
    have u0 := hEn.cell 0
    have u1 := hEn.cell 1
    have u2 := hEn.cell 2
    have u3 := hEn.cell 3
    simp only [List.getElem?_toArray, List.getElem?_cons_zero, List.getElem?_cons_succ] at u0 u1 u2 u3
    have hzc : ((w4.setCell ⟨w2.heap.size, 2, none⟩ (.string s))).heap.size = w4.heap.size := by simp
    have hqa : p ≤ q4 := by omega
    have hqb : q4 ≤ p + 200 := by omega
    clear hrd3 hgr3 hB3 hE3 hO3 hgr4' hrd4 hgr4 hB4 hE4 hO4 hEn
    have x0 := hB.cell 0
    have x1 := hB.cell 1
    have x2 := hB.cell 2
    have x3 := hB.cell 3
    have f0 := hB.frozen 0
    have f1 := hB.frozen 1
    have f2 := hB.frozen 2
    have f3 := hB.frozen 3
    simp only [List.getElem?_toArray, List.getElem?_cons_zero, List.getElem?_cons_succ] at x0 x1 x2 x3
    have HEND := Lib.hid (end_draw (v0 := .int .i64 e.kind) (v1 := .int .i64 e.n) (v2 := .string s) (v3 := .slice A e.kids.length c) hrd hqa hqb hgr hgw hB)
    have hlo := hB.lt
    clear hrd hgr hB
    go_wp2_with fail
    obtain ⟨wn, hwn⟩ : ∃ wn, wn = ((((w4.setCell ⟨w2.heap.size, 2, none⟩ (.string s)).setCell ⟨w.heap.size, 0, none⟩ (.int .i64 e.kind)).setCell ⟨w.heap.size, 1, none⟩ (.int .i64 e.n)).setCell ⟨w.heap.size, 2, none⟩ (.string s)).setCell ⟨w.heap.size, 3, none⟩ (.slice A e.kids.length c) := ⟨_, rfl⟩
    rw [← hwn]
    obtain ⟨hBn, hRn, hSn, hZn⟩ := HEND.out wn hwn
    have r0 := hBn.cell 0
    have r1 := hBn.cell 1
    have r2 := hBn.cell 2
    have r3 := hBn.cell 3
    simp only [List.getElem?_toArray, List.getElem?_cons_zero, List.getElem?_cons_succ] at r0 r1 r2 r3
    refine bodyPost_ret (v := .agg #[.int .i64 e.kind, .int .i64 e.n, .string s, .slice A e.kids.length c]) (by simp [results, Tryz.results47, go_sem, r0, r1, r2, r3]) rfl ?_
    exact ⟨(.mk e.kind e.n s e.kids), A, c, rfl, hc, own_wide (own_keep _ _ _ _ (fun k h1 h2 => hSn k (by omega)) HO.out) (by omega) (by omega), short_head HS.out hsz, wt_head hwt hsz, hRn⟩
  have pv2 : ((v : Int) == 2) = false := by rw [beq_eq_false_iff_ne]; omega
  by_cases hv3 : v = 3
  · subst hv3
    have HKB := Lib.hid (show ∀ W' : World, (∀ k, k < w3.heap.size → k ≠ w2.heap.size → W'.heap[k]? = w3.heap[k]?) → OwnE W' e (w.heap.size + 1) w3.heap.size A from fun W' h => own_wide (own_keep _ _ _ _ (fun k h1 h2 => h k (by omega) (by omega)) hO3) (Nat.le_refl _) (by omega))
    have hl3 := hE3.lt
    clear hO3
    go_wp2_with fail
    go_loopw [4] (fun i wr => ∃ (j : Nat) (x : Ex) (Ax : Option Addr) (cx : Nat), j ≤ 5 ∧ i = .int .i64 (j : Int) ∧ Blk wr w2.heap.size #[.int .i64 x.kind, .int .i64 x.n, .string x.s, .slice Ax x.kids.length cx] ∧ x.kids.length ≤ cx ∧ Hid (∀ W' : World, (∀ k, k < wr.heap.size → k ≠ w2.heap.size → W'.heap[k]? = wr.heap[k]?) → OwnE W' x (w.heap.size + 1) wr.heap.size Ax) ∧ Hid x.short ∧ x.wt ≤ 1000 + 10 * j ∧ Rd wr B g A0 len cap q3 ∧ w.grownBy wr (some g) ∧ Blk wr w.heap.size #[.int .i64 0, .int .i64 0, .string { data := #[] }, .slice none 0 0])
      (fun i _ => 5 - (intOf i).toNat)
    case atStart => exact ⟨0, e, A, c, by omega, rfl, hE3, hc, HKB, HS, by omega, hrd3, hgr3, hB3⟩
    case round =>
      clear HKB HS hrd3 hgr3 hB3 hE3 hwt hc
      obtain ⟨j, x, Ax, cx, hj, rfl, hE, hcx, HKB, HSx, hwx, hrd, hgr, hB⟩ := hrel
      have hlr := hE.lt
      have y0 := hE.cell 0
      have y1 := hE.cell 1
      have y2 := hE.cell 2
      have y3 := hE.cell 3
      have z0 := hE.frozen 0
      have z1 := hE.frozen 1
      have z2 := hE.frozen 2
      have z3 := hE.frozen 3
      simp only [List.getElem?_toArray, List.getElem?_cons_zero, List.getElem?_cons_succ] at y0 y1 y2 y3
      by_cases hlt : j < 5
      · have hx : (j : Int) < 5 := by omega
        have HB := Lib.hid hB
        have HRD := Lib.hid hrd
        have HGR := Lib.hid hgr
        have HE := Lib.hid hE
        clear hB hrd hgr hE
        go_wp2_with fail
        go_roundw
        case rel =>
          obtain ⟨wa, hwa⟩ : ∃ wa, wa = (((wr.setCell ⟨w2.heap.size, 0, none⟩ (.int .i64 4)).setCell ⟨w2.heap.size, 1, none⟩ (.int .i64 0)).setCell ⟨w2.heap.size, 2, none⟩ (.string ⟨#[105, 110, 116]⟩)).setCell ⟨w2.heap.size, 3, none⟩ (.slice (some ⟨wr.heap.size, 0, none⟩) 1 1) := ⟨_, rfl⟩
          rw [← hwa]
          have hsame : ∀ k, k ≠ w2.heap.size → wa.heap[k]? = wr.heap[k]? := by
            intro k hk
            rw [hwa, Below.heap_setCell _ _ _ k hk, Below.heap_setCell _ _ _ k hk, Below.heap_setCell _ _ _ k hk, Below.heap_setCell _ _ _ k hk]
          have hza : wa.heap.size = wr.heap.size := by rw [hwa]; simp
          have hEa : Blk wa w2.heap.size #[.int .i64 4, .int .i64 0, .string ⟨#[105, 110, 116]⟩, .slice (some ⟨wr.heap.size, 0, none⟩) 1 1] := by rw [hwa]; exact (((HE.out.set 0 _).set 1 _).set 2 _).set 3 _
          obtain ⟨wn, hwn⟩ : ∃ wn, wn = wa.alloc (.cells #[.int .i64 x.kind, .int .i64 x.n, .string x.s, .slice Ax x.kids.length cx] 34) := ⟨_, rfl⟩
          rw [← hwn]
          have hbn : Below wa.heap.size wa wn := by rw [hwn]; exact (Below.refl _ wa).alloc (Nat.le_refl _) _
          have hzn : wn.heap.size = wr.heap.size + 1 := by rw [hwn]; simp [hza]
          have hK : Blk wn wr.heap.size #[.int .i64 x.kind, .int .i64 x.n, .string x.s, .slice Ax x.kids.length cx] := by rw [hwn, ← hza]; exact World.alloc_heap_new wa _
          have hEn : Blk wn w2.heap.size #[.int .i64 4, .int .i64 0, .string ⟨#[105, 110, 116]⟩, .slice (some ⟨wr.heap.size, 0, none⟩) 1 1] := (hbn.block _ hEa.lt).trans hEa
          have hga : w.grownBy wa (some g) := ⟨by rw [hwa]; exact HGR.out.os, by rw [hwa]; exact HGR.out.tape, by rw [hwa]; exact HGR.out.output, by rw [hza]; exact HGR.out.size, fun i hi hne => (hsame i (by omega)).trans (HGR.out.block i hi hne)⟩
          have hrda := rd_keep HRD.out (hsame g (by omega)) (fun k hk => hsame k (by have := HRD.out.2.1; omega))
          refine ⟨j + 1, .mk 4 0 ⟨#[105, 110, 116]⟩ [x], some ⟨wr.heap.size, 0, none⟩, 1, by omega, by go_num, hEn, Nat.le_refl _, ?_, ?_, ?_, ?_, ?_, ?_⟩
          · refine Lib.hid fun W' hW' => ?_
            refine own_wide (own_one (D := Ax) (c := cx) ((hW' wr.heap.size (by omega) (by omega)).trans hK) hcx (HKB.out W' (fun k h1 h2 => (hW' k (by omega) h2).trans ((hbn.block k (by omega)).trans (hsame k h2)))) (Nat.le_refl _) (Nat.lt_succ_self _)) (Nat.le_refl _) (by omega)
          · refine Lib.hid ?_
            rw [Ex.short, Ex.shorts, Ex.shorts]
            exact ⟨by decide, HSx.out, trivial⟩
          · rw [Ex.wt, Ex.wts, Ex.wts, show (ByteArray.mk #[105, 110, 116]).size = 3 from rfl]; omega
          · exact below_rd hrda hbn
          · exact grown_below' hga hbn
          · exact (hbn.block _ (by have := HB.out.lt; omega)).trans ((hsame _ (by omega)).trans HB.out)
        case measure => simp [intOf]; omega
      · have hx : ¬ (j : Int) < 5 := by omega
        have HO := Lib.hid (HKB.out wr (fun _ _ _ => rfl))
        have HS := Lib.hid HSx.out
        have hqa : p ≤ q3 := by omega
        have hqb : q3 ≤ p + 200 := by omega
        clear HKB HSx hE
        have x0 := hB.cell 0
        have x1 := hB.cell 1
        have x2 := hB.cell 2
        have x3 := hB.cell 3
        have f0 := hB.frozen 0
        have f1 := hB.frozen 1
        have f2 := hB.frozen 2
        have f3 := hB.frozen 3
        simp only [List.getElem?_toArray, List.getElem?_cons_zero, List.getElem?_cons_succ] at x0 x1 x2 x3
        have HEND := Lib.hid (end_draw (v0 := .int .i64 x.kind) (v1 := .int .i64 x.n) (v2 := .string x.s) (v3 := .slice Ax x.kids.length cx) hrd hqa hqb hgr hgw hB)
        have hlo := hB.lt
        clear hrd hgr hB
        go_wp2_with fail
        obtain ⟨wn, hwn⟩ : ∃ wn, wn = (((wr.setCell ⟨w.heap.size, 0, none⟩ (.int .i64 x.kind)).setCell ⟨w.heap.size, 1, none⟩ (.int .i64 x.n)).setCell ⟨w.heap.size, 2, none⟩ (.string x.s)).setCell ⟨w.heap.size, 3, none⟩ (.slice Ax x.kids.length cx) := ⟨_, rfl⟩
        rw [← hwn]
        obtain ⟨hBn, hRn, hSn, hZn⟩ := HEND.out wn hwn
        have r0 := hBn.cell 0
        have r1 := hBn.cell 1
        have r2 := hBn.cell 2
        have r3 := hBn.cell 3
        simp only [List.getElem?_toArray, List.getElem?_cons_zero, List.getElem?_cons_succ] at r0 r1 r2 r3
        refine bodyPost_ret (v := .agg #[.int .i64 x.kind, .int .i64 x.n, .string x.s, .slice Ax x.kids.length cx]) (by simp [results, Tryz.results47, go_sem, r0, r1, r2, r3]) rfl ?_
        exact ⟨x, Ax, cx, rfl, hcx, own_wide (own_keep _ _ _ _ (fun k h1 h2 => hSn k (by omega)) HO.out) (by omega) (by omega), HS.out, by omega, hRn⟩
  · have pv3 : ((v : Int) == 3) = false := by rw [beq_eq_false_iff_ne]; omega
    have y0 := hE3.cell 0
    have y1 := hE3.cell 1
    have y2 := hE3.cell 2
    have y3 := hE3.cell 3
    simp only [List.getElem?_toArray, List.getElem?_cons_zero, List.getElem?_cons_succ] at y0 y1 y2 y3
    have hrd := hrd3
    have hgr := hgr3
    have hB := hB3
    have HO := Lib.hid hO3
    have hqa : p ≤ q3 := by omega
    have hqb : q3 ≤ p + 200 := by omega
    clear hrd3 hgr3 hB3 hE3 hO3
    have x0 := hB.cell 0
    have x1 := hB.cell 1
    have x2 := hB.cell 2
    have x3 := hB.cell 3
    have f0 := hB.frozen 0
    have f1 := hB.frozen 1
    have f2 := hB.frozen 2
    have f3 := hB.frozen 3
    simp only [List.getElem?_toArray, List.getElem?_cons_zero, List.getElem?_cons_succ] at x0 x1 x2 x3
    have HEND := Lib.hid (end_draw (v0 := .int .i64 e.kind) (v1 := .int .i64 e.n) (v2 := .string e.s) (v3 := .slice A e.kids.length c) hrd hqa hqb hgr hgw hB)
    have hlo := hB.lt
    clear hrd hgr hB
    go_wp2_with fail
    obtain ⟨wn, hwn⟩ : ∃ wn, wn = (((w3.setCell ⟨w.heap.size, 0, none⟩ (.int .i64 e.kind)).setCell ⟨w.heap.size, 1, none⟩ (.int .i64 e.n)).setCell ⟨w.heap.size, 2, none⟩ (.string e.s)).setCell ⟨w.heap.size, 3, none⟩ (.slice A e.kids.length c) := ⟨_, rfl⟩
    rw [← hwn]
    obtain ⟨hBn, hRn, hSn, hZn⟩ := HEND.out wn hwn
    have r0 := hBn.cell 0
    have r1 := hBn.cell 1
    have r2 := hBn.cell 2
    have r3 := hBn.cell 3
    simp only [List.getElem?_toArray, List.getElem?_cons_zero, List.getElem?_cons_succ] at r0 r1 r2 r3
    refine bodyPost_ret (v := .agg #[.int .i64 e.kind, .int .i64 e.n, .string e.s, .slice A e.kids.length c]) (by simp [results, Tryz.results47, go_sem, r0, r1, r2, r3]) rfl ?_
    exact ⟨e, A, c, rfl, hc, own_wide (own_keep _ _ _ _ (fun k h1 h2 => hSn k (by omega)) HO.out) (by omega) (by omega), HS.out, by omega, hRn⟩

end Go.Proofs.YtabignplhkbcpaaGreatDoor

namespace Go.Proofs.YtabignplhkbcpaaGreatDoor
open Go.RowKit

/-- Something to be reckoned was drawn, in memory of its own. -/
def DrawnE (w : World) (r : Ending) (w' : World) : Prop :=
  ∃ (e : Ex) (A : Option Addr) (c : Nat), r = .returned (.agg #[.int .i64 e.kind, .int .i64 e.n, .string e.s, .slice A e.kids.length c]) ∧ e.kids.length ≤ c ∧ OwnE w' e w.heap.size w'.heap.size A ∧ e.short ∧ e.wt ≤ 2000 ∧ Below w.heap.size w w'
end Go.Proofs.YtabignplhkbcpaaGreatDoor
