/-
  DeedAs, ImplOf: these texts one behind the other, as a claim holds at most 60 files.
-/
import Derived.Test.YtfknelkbdoiokaaGreatDoorProg
import Derived.WalkKit
import Derived.WalkSpells
import Derived.WalkLawsBesides
import Derived.Stop.Asserts
import Derived.Test.YtfknelkbdoiokaaGreatDoorGP
import Derived.Test.YtfknelkbdoiokaaGreatDoorBareLn
import Derived.Test.YtfknelkbdoiokaaGreatDoorDeedOf
import Derived.Test.YtfknelkbdoiokaaGreatDoorMethBare
namespace Go.Proofs.YtfknelkbdoiokaaGreatDoor

theorem assert_same {P : Program} {T : TypeId} {fs : Array Field} (hu : P.underlying T = some (.struct fs)) (v : Value) (xT : TypeId) (w : World) : (Instr.typeAssert (.iface T v) xT T true).run P w = .ok (.tuple #[v, .bool true]) w := by
  simp [Instr.typeAssert, run_underlying hu]
theorem assert_other {P : Program} {t T : TypeId} {fs : Array Field} {z : Value} (hu : P.underlying T = some (.struct fs)) (hz : (P.info? T).map (·.zero) = some (some z)) (hne : t ≠ T) (v : Value) (xT : TypeId) (w : World) : (Instr.typeAssert (.iface t v) xT T true).run P w = .ok (.tuple #[z, .bool false]) w := by
  obtain ⟨j, hj, hz'⟩ := Option.map_eq_some_iff.1 hz
  unfold Instr.typeAssert
  simp only [Sem.run_bind, run_underlying hu, Result.andThen_ok]
  simp [hne, zeroValue, typeInfo, hj, hz']
theorem as_let_let (v : Value) (xT : TypeId) (w : World) : (Instr.typeAssert (.iface 143 v) xT 143 true).run Tryz.prog w = .ok (.tuple #[v, .bool true]) w := assert_same Tryz.underlying143 v xT w
theorem as_say_say (v : Value) (xT : TypeId) (w : World) : (Instr.typeAssert (.iface 170 v) xT 170 true).run Tryz.prog w = .ok (.tuple #[v, .bool true]) w := assert_same Tryz.underlying170 v xT w
theorem as_when_when (v : Value) (xT : TypeId) (w : World) : (Instr.typeAssert (.iface 172 v) xT 172 true).run Tryz.prog w = .ok (.tuple #[v, .bool true]) w := assert_same Tryz.underlying172 v xT w
theorem as_no_let (v : Value) (xT : TypeId) (w : World) : (Instr.typeAssert (.iface 168 v) xT 143 true).run Tryz.prog w = .ok (.tuple #[.agg #[.string { data := #[] }, .string { data := #[] }, .nilIface], .bool false]) w := assert_other Tryz.underlying143 (by kernel_rfl) (by decide) v xT w
theorem as_say_let (v : Value) (xT : TypeId) (w : World) : (Instr.typeAssert (.iface 170 v) xT 143 true).run Tryz.prog w = .ok (.tuple #[.agg #[.string { data := #[] }, .string { data := #[] }, .nilIface], .bool false]) w := assert_other Tryz.underlying143 (by kernel_rfl) (by decide) v xT w
theorem as_when_let (v : Value) (xT : TypeId) (w : World) : (Instr.typeAssert (.iface 172 v) xT 143 true).run Tryz.prog w = .ok (.tuple #[.agg #[.string { data := #[] }, .string { data := #[] }, .nilIface], .bool false]) w := assert_other Tryz.underlying143 (by kernel_rfl) (by decide) v xT w
theorem as_no_say (v : Value) (xT : TypeId) (w : World) : (Instr.typeAssert (.iface 168 v) xT 170 true).run Tryz.prog w = .ok (.tuple #[.agg #[.nilIface], .bool false]) w := assert_other Tryz.underlying170 (by kernel_rfl) (by decide) v xT w
theorem as_when_say (v : Value) (xT : TypeId) (w : World) : (Instr.typeAssert (.iface 172 v) xT 170 true).run Tryz.prog w = .ok (.tuple #[.agg #[.nilIface], .bool false]) w := assert_other Tryz.underlying170 (by kernel_rfl) (by decide) v xT w
theorem as_no_when (v : Value) (xT : TypeId) (w : World) : (Instr.typeAssert (.iface 168 v) xT 172 true).run Tryz.prog w = .ok (.tuple #[.agg #[.nilIface, .nilIface], .bool false]) w := assert_other Tryz.underlying172 (by kernel_rfl) (by decide) v xT w
end Go.Proofs.YtfknelkbdoiokaaGreatDoor

namespace Go.Proofs.YtfknelkbdoiokaaGreatDoor
open Go.RowKit Go.Shelf

set_option linter.unusedVariables false in
set_option linter.unusedSimpArgs false in
set_option maxRecDepth 100000 in
set_option maxHeartbeats 8000000 in
theorem turnedLine_any (d : De) (w : World) : Calls Tryz.prog 81 #[deV d] w fun r w' => r = .returned (baV d.turned) ∧ Below w.heap.size w w' := by
  cases d with
  | noD =>
    show Calls Tryz.prog 81 #[.iface 168 (.agg #[])] w _
    have qas_no_let := as_no_let
    have qas_no_say := as_no_say
    have qas_no_when := as_no_when
    go_enter Tryz.func81, Tryz.ntmps81
    go_wp2_with fail
    go_ret
    exact ⟨rfl, Below.refl _ _⟩
  | letD n t p =>
    show Calls Tryz.prog 81 #[.iface 143 (.agg #[.string n, .string t, partV p])] w fun r w' => r = .returned (.iface 189 (.agg #[.string n, partV p.bare])) ∧ Below w.heap.size w w'
    obtain ⟨m1, n1, k1⟩ := meth_bare p
    have HA := Lib.hid (fun W => bare_any p W)
    obtain ⟨tb, ub, hpb⟩ := partV_if' p.bare
    rw [hpb] at HA ⊢
    rw [partV_at p]
    generalize ptT p = t1 at *
    generalize ptU p = u1 at *
    generalize fBare p = f1 at *
    clear hpb
    obtain ⟨W0, hW0⟩ : ∃ W0, W0 = w.alloc (.cells #[.string n, .string t, .iface t1 u1] 143) := ⟨_, rfl⟩
    have hb0 : Below w.heap.size w W0 := by rw [hW0]; exact (Below.refl _ w).alloc (Nat.le_refl _) _
    have hs0 : w.heap.size < W0.heap.size := by rw [hW0]; simp
    have c0 : W0.cell? ⟨w.heap.size, 0, none⟩ = some (.string n) := by rw [hW0]; exact cell_made4 w _ _ 0 _ rfl
    have c2 : W0.cell? ⟨w.heap.size, 2, none⟩ = some (.iface t1 u1) := by rw [hW0]; exact cell_made4 w _ _ 2 _ rfl
    have qas_let_let := as_let_let
    go_enter Tryz.func81, Tryz.ntmps81
    go_wp2_with fail
    rw [← hW0]
    clear hW0
    go_region_held3 (fun w' => w'.cell? ⟨w.heap.size, 0, none⟩ = some (.string n) ∧ w'.cell? ⟨w.heap.size, 2, none⟩ = some (.iface t1 u1))
      (first | with_reducible exact ⟨z0, z2⟩ | with_reducible exact ⟨(cell_drew0 _ _).trans c0, (cell_drew0 _ _).trans c2⟩)
      (first | (refine (HA.out _).mono ?_; rintro r w1 ⟨rfl, hb1'⟩; have hb1 : Below W0.heap.size W0 w1 := (Below.refl _ W0).drew.trans hb1'; have z0 := (hb1.cell (p := ⟨w.heap.size, 0, none⟩) hs0).trans c0; have z2 := (hb1.cell (p := ⟨w.heap.size, 2, none⟩) hs0).trans c2))
    all_goals (try go_wp2_with fail)
    go_ret
    exact ⟨rfl, hb0.trans (hb1.mono hb0.size)⟩
  | sayD p =>
    show Calls Tryz.prog 81 #[.iface 170 (.agg #[partV p])] w fun r w' => r = .returned (.iface 191 (.agg #[partV p.bare])) ∧ Below w.heap.size w w'
    obtain ⟨m1, n1, k1⟩ := meth_bare p
    have HA := Lib.hid (fun W => bare_any p W)
    obtain ⟨tb, ub, hpb⟩ := partV_if' p.bare
    rw [hpb] at HA ⊢
    rw [partV_at p]
    generalize ptT p = t1 at *
    generalize ptU p = u1 at *
    generalize fBare p = f1 at *
    clear hpb
    have hb0 : Below w.heap.size w (w.alloc (.cells #[.iface t1 u1] 170)) := (Below.refl _ w).alloc (Nat.le_refl _) _
    have qas_say_let := as_say_let
    have qas_say_say := as_say_say
    go_enter Tryz.func81, Tryz.ntmps81
    go_wp2_with fail
    refine (HA.out _).mono ?_
    rintro r w1 ⟨rfl, hb1⟩
    go_wp2_with fail
    go_ret
    exact ⟨rfl, hb0.trans (hb1.mono hb0.size)⟩
  | whenD p q =>
    show Calls Tryz.prog 81 #[.iface 172 (.agg #[partV p, partV q])] w fun r w' => r = .returned (.iface 193 (.agg #[partV p.bare, partV q.bare])) ∧ Below w.heap.size w w'
    obtain ⟨m1, n1, k1⟩ := meth_bare p
    obtain ⟨m2, n2, k2⟩ := meth_bare q
    have HA := Lib.hid (fun W => bare_any p W)
    have HB := Lib.hid (fun W => bare_any q W)
    obtain ⟨tb, ub, hpb⟩ := partV_if' p.bare
    obtain ⟨tq, uq, hqb⟩ := partV_if' q.bare
    rw [hpb] at HA ⊢
    rw [hqb] at HB ⊢
    rw [partV_at p, partV_at q]
    generalize ptT p = t1 at *
    generalize ptU p = u1 at *
    generalize fBare p = f1 at *
    generalize ptT q = t2 at *
    generalize ptU q = u2 at *
    generalize fBare q = f2 at *
    clear hpb hqb
    obtain ⟨W0, hW0⟩ : ∃ W0, W0 = w.alloc (.cells #[.iface t1 u1, .iface t2 u2] 172) := ⟨_, rfl⟩
    have hb0 : Below w.heap.size w W0 := by rw [hW0]; exact (Below.refl _ w).alloc (Nat.le_refl _) _
    have hs0 : w.heap.size < W0.heap.size := by rw [hW0]; simp
    have c0 : W0.cell? ⟨w.heap.size, 0, none⟩ = some (.iface t1 u1) := by rw [hW0]; exact cell_made4 w _ _ 0 _ rfl
    have c1 : W0.cell? ⟨w.heap.size, 1, none⟩ = some (.iface t2 u2) := by rw [hW0]; exact cell_made4 w _ _ 1 _ rfl
    have qas_when_let := as_when_let
    have qas_when_say := as_when_say
    have qas_when_when := as_when_when
    go_enter Tryz.func81, Tryz.ntmps81
    go_wp2_with fail
    rw [← hW0]
    clear hW0
    go_region_held3 (fun w' => w'.cell? ⟨w.heap.size, 0, none⟩ = some (.iface t1 u1) ∧ w'.cell? ⟨w.heap.size, 1, none⟩ = some (.iface t2 u2))
      (first | with_reducible exact ⟨y0, y1⟩ | with_reducible exact ⟨z0, z1⟩ | with_reducible exact ⟨(cell_drew0 _ _).trans c0, (cell_drew0 _ _).trans c1⟩)
      (first | (refine (HA.out _).mono ?_; rintro r w1 ⟨rfl, hb1'⟩; have hb1 : Below W0.heap.size W0 w1 := (Below.refl _ W0).drew.trans hb1'; have z0 := (hb1.cell (p := ⟨w.heap.size, 0, none⟩) hs0).trans c0; have z1 := (hb1.cell (p := ⟨w.heap.size, 1, none⟩) hs0).trans c1) | (refine (HB.out _).mono ?_; rintro r w2 ⟨rfl, hb2'⟩; have hb2 : Below W0.heap.size W0 w2 := hb1.trans (hb2'.mono hb1.size); have y0 := (hb2.cell (p := ⟨w.heap.size, 0, none⟩) hs0).trans c0; have y1 := (hb2.cell (p := ⟨w.heap.size, 1, none⟩) hs0).trans c1))
    all_goals (try go_wp2_with fail)
    go_ret
    exact ⟨rfl, hb0.trans (hb2.mono hb0.size)⟩
set_option linter.unusedVariables false in
set_option linter.unusedSimpArgs false in
set_option maxRecDepth 100000 in
set_option maxHeartbeats 8000000 in
theorem bareOf_any (s : St) (A1 A2 : Option Addr) (c1 c2 B : Nat) (a : Addr) (w : World) (hA1 : KidsU w B A1 s.e.kids) (hA2 : KidsU w B A2 s.t.kids) (hc1 : s.e.kids.length ≤ c1) (hc2 : s.t.kids.length ≤ c2) (hB : B ≤ w.heap.size) (hwt : s.wt ≤ 2 ^ 29) (hL : LaidW w) (hN : LaidN w a) :
    Calls Tryz.prog 29 #[stV s A1 A2 c1 c2] w (GivesBr (turnS s) w) := by
  obtain ⟨W0, hW0⟩ : ∃ W0, W0 = (w.alloc (.cells #[.int .i64 s.kind, .string s.name, .string s.typ, .int .i64 s.e.kind, .int .i64 s.e.n, .string s.e.s, .slice A1 s.e.kids.length c1, .int .i64 s.t.kind, .int .i64 s.t.n, .string s.t.s, .slice A2 s.t.kids.length c2] 35)).alloc (.cells #[.int .i64 0, .string { data := #[] }, .int .i64 0, .int .i64 0, .string { data := #[] }, .slice none 0 0, .int .i64 0, .int .i64 0, .string { data := #[] }, .slice none 0 0] 52) := ⟨_, rfl⟩
  have hb0 : Below w.heap.size w W0 := by rw [hW0]; exact ((Below.refl _ w).alloc (Nat.le_refl _) _).alloc (by simp) _
  have hR0 : BlkB W0 (w.heap.size + 1) #[.int .i64 0, .string { data := #[] }, .int .i64 0, .int .i64 0, .string { data := #[] }, .slice none 0 0, .int .i64 0, .int .i64 0, .string { data := #[] }, .slice none 0 0] := by
    have := World.alloc_heap_new (w.alloc (.cells #[.int .i64 s.kind, .string s.name, .string s.typ, .int .i64 s.e.kind, .int .i64 s.e.n, .string s.e.s, .slice A1 s.e.kids.length c1, .int .i64 s.t.kind, .int .i64 s.t.n, .string s.t.s, .slice A2 s.t.kids.length c2] 35)) (.cells #[.int .i64 0, .string { data := #[] }, .int .i64 0, .int .i64 0, .string { data := #[] }, .slice none 0 0, .int .i64 0, .int .i64 0, .string { data := #[] }, .slice none 0 0] 52)
    rw [World.size_alloc] at this
    rw [hW0]; exact this
  have hs0 : w.heap.size + 1 < W0.heap.size := by rw [hW0]; simp
  have HD := Lib.hid (deedOf_any s A1 A2 c1 c2 B a W0 (hA1.keep (hb0.mono hB)) (hA2.keep (hb0.mono hB)) hc1 hc2 (Nat.le_trans hB hb0.size) hwt (hL.below hb0) (hN.below hb0))
  have HLN := Lib.hid hN
  have HR0 := Lib.hid hR0
  clear hA1 hA2 hL hN hR0
  unfold stV
  go_enter Tryz.func29, Tryz.ntmps29
  go_wp2_with fail
  rw [← hW0]
  clear hW0
  refine HD.out.mono ?_
  rintro r w1 ⟨hb1, (⟨d, hd, rfl⟩ | ⟨hd, rfl⟩)⟩
  · have hb01 := hb0.trans (hb1.mono hb0.size)
    have hz1 := hb1.size
    have g0 := (HLN.out.below hb01).cell
    have HT := Lib.hid (turnS_some hd)
    have HI := Lib.hid (is_nil a w1)
    have HR1 := Lib.hid (HR0.out.stay (hb1.block _ HR0.out.lt))
    have HTL := Lib.hid (fun V => turnedLine_any d V)
    obtain ⟨m1, n1, q1⟩ := meth_bareln d.turned
    have HG := Lib.hid (fun V => bareln_any d.turned V)
    rw [← HT.out] at HG
    unfold deV at HTL ⊢
    unfold baV at HTL
    unfold GivesBr brV at HG ⊢
    generalize turnS s = b at *
    generalize baT d.turned = t2 at *
    generalize baU d.turned = u2 at *
    generalize fBareLn d.turned = f2 at *
    generalize deT d = t1 at *
    generalize deU d = u1 at *
    clear hd HD HT
    go_wp2_with fail
    refine HI.out.mono ?_
    rintro r w2 ⟨rfl, rfl⟩
    go_wp2_with fail
    refine (HTL.out _).mono ?_
    rintro r w3 ⟨rfl, hb3⟩
    have hz3 := hb3.size
    have HR3 := Lib.hid (HR1.out.stay (hb3.block _ HR1.out.lt))
    have HB3 := Lib.hid (hb01.trans (hb3.mono hb01.size))
    go_wp2_with fail
    refine (HG.out _).mono ?_
    rintro r w4 ⟨X1, k1, X2, k2, mid, rfl, hk1, hk2, hO1, hO2, hmid, hb4⟩
    have hz4 := hb4.size
    have HR2 := Lib.hid (HR3.out.stay (hb4.block _ HR3.out.lt))
    have hR2 := HR2.out
    have HO1 := Lib.hid hO1
    have HO2 := Lib.hid hO2
    have hlo := own_le _ _ _ _ _ hO1
    clear hO1 hO2
    have e0 := hR2.cell 0
    have f0 := hR2.frozen 0
    have e1 := hR2.cell 1
    have f1 := hR2.frozen 1
    have e2 := hR2.cell 2
    have f2 := hR2.frozen 2
    have e3 := hR2.cell 3
    have f3 := hR2.frozen 3
    have e4 := hR2.cell 4
    have f4 := hR2.frozen 4
    have e5 := hR2.cell 5
    have f5 := hR2.frozen 5
    have e6 := hR2.cell 6
    have f6 := hR2.frozen 6
    have e7 := hR2.cell 7
    have f7 := hR2.frozen 7
    have e8 := hR2.cell 8
    have f8 := hR2.frozen 8
    have e9 := hR2.cell 9
    have f9 := hR2.frozen 9
    simp only [List.getElem?_toArray, List.getElem?_cons_zero, List.getElem?_cons_succ] at e0 e1 e2 e3 e4 e5 e6 e7 e8 e9
    clear hR2
    go_wp2_with fail
    obtain ⟨wn, hwn⟩ : ∃ wn, wn = ((((((((((w4.setCell ⟨w.heap.size + 1, 0, none⟩ (.int .i64 b.kind)).setCell ⟨w.heap.size + 1, 1, none⟩ (.string b.name)).setCell ⟨w.heap.size + 1, 2, none⟩ (.int .i64 b.e.kind)).setCell ⟨w.heap.size + 1, 3, none⟩ (.int .i64 b.e.n)).setCell ⟨w.heap.size + 1, 4, none⟩ (.string b.e.s)).setCell ⟨w.heap.size + 1, 5, none⟩ (.slice X1 b.e.kids.length k1)).setCell ⟨w.heap.size + 1, 6, none⟩ (.int .i64 b.t.kind)).setCell ⟨w.heap.size + 1, 7, none⟩ (.int .i64 b.t.n)).setCell ⟨w.heap.size + 1, 8, none⟩ (.string b.t.s)).setCell ⟨w.heap.size + 1, 9, none⟩ (.slice X2 b.t.kids.length k2)) := ⟨_, rfl⟩
    have hwa : wn = setAllB w4 (w.heap.size + 1) 0 [.int .i64 b.kind, .string b.name, .int .i64 b.e.kind, .int .i64 b.e.n, .string b.e.s, .slice X1 b.e.kids.length k1, .int .i64 b.t.kind, .int .i64 b.t.n, .string b.t.s, .slice X2 b.t.kids.length k2] := by rw [hwn]; rfl
    have hRn : BlkB wn (w.heap.size + 1) #[.int .i64 b.kind, .string b.name, .int .i64 b.e.kind, .int .i64 b.e.n, .string b.e.s, .slice X1 b.e.kids.length k1, .int .i64 b.t.kind, .int .i64 b.t.n, .string b.t.s, .slice X2 b.t.kids.length k2] := by rw [hwa]; exact setAllB_blk [.int .i64 b.kind, .string b.name, .int .i64 b.e.kind, .int .i64 b.e.n, .string b.e.s, .slice X1 b.e.kids.length k1, .int .i64 b.t.kind, .int .i64 b.t.n, .string b.t.s, .slice X2 b.t.kids.length k2] 0 _ w4 HR2.out rfl
    have hsn : ∀ k, k ≠ w.heap.size + 1 → wn.heap[k]? = w4.heap[k]? := fun k hk => by rw [hwa]; exact setAllB_other _ _ _ _ hk
    have hzn : wn.heap.size = w4.heap.size := by rw [hwa]; exact setAllB_size _ _ _ _
    have hosn : wn.os = w4.os ∧ wn.tape = w4.tape ∧ wn.output = w4.output := by rw [hwa]; exact setAllB_os _ _ _ _
    rw [← hwn]
    clear hwn hwa
    have r0 := hRn.cell 0
    have r1 := hRn.cell 1
    have r2 := hRn.cell 2
    have r3 := hRn.cell 3
    have r4 := hRn.cell 4
    have r5 := hRn.cell 5
    have r6 := hRn.cell 6
    have r7 := hRn.cell 7
    have r8 := hRn.cell 8
    have r9 := hRn.cell 9
    simp only [List.getElem?_toArray, List.getElem?_cons_zero, List.getElem?_cons_succ] at r0 r1 r2 r3 r4 r5 r6 r7 r8 r9
    refine bodyPost_ret (v := .agg #[.int .i64 b.kind, .string b.name, .int .i64 b.e.kind, .int .i64 b.e.n, .string b.e.s, .slice X1 b.e.kids.length k1, .int .i64 b.t.kind, .int .i64 b.t.n, .string b.t.s, .slice X2 b.t.kids.length k2]) (by simp [results, Tryz.results29, go_sem, r0, r1, r2, r3, r4, r5, r6, r7, r8, r9]) rfl ?_
    have hB4 := HB3.out.trans (hb4.mono HB3.out.size)
    have hw3 : w.heap.size + 1 < w3.heap.size := by omega
    exact ⟨X1, k1, X2, k2, mid, rfl, hk1, hk2, own_wide (own_keep _ _ _ _ (fun k q1 q2 => hsn k (by omega)) HO1.out) HB3.out.size (Nat.le_refl _), by rw [hzn]; exact own_keep _ _ _ _ (fun k q1 q2 => hsn k (by omega)) HO2.out, by omega, hB4.trans ⟨hosn.1, hosn.2.1, hosn.2.2, by omega, fun k hk => hsn k (by omega)⟩⟩
  · have hb01 := hb0.trans (hb1.mono hb0.size)
    have hz1 := hb1.size
    have g0 := (HLN.out.below hb01).cell
    have HT := Lib.hid (turnS_none hd)
    have HI := Lib.hid (is_same a w1)
    have HR2 := Lib.hid (HR0.out.stay (hb1.block _ HR0.out.lt))
    have hR2 := HR2.out
    have e0 := hR2.cell 0
    have f0 := hR2.frozen 0
    have e1 := hR2.cell 1
    have f1 := hR2.frozen 1
    have e2 := hR2.cell 2
    have f2 := hR2.frozen 2
    have e3 := hR2.cell 3
    have f3 := hR2.frozen 3
    have e4 := hR2.cell 4
    have f4 := hR2.frozen 4
    have e5 := hR2.cell 5
    have f5 := hR2.frozen 5
    have e6 := hR2.cell 6
    have f6 := hR2.frozen 6
    have e7 := hR2.cell 7
    have f7 := hR2.frozen 7
    have e8 := hR2.cell 8
    have f8 := hR2.frozen 8
    have e9 := hR2.cell 9
    have f9 := hR2.frozen 9
    simp only [List.getElem?_toArray, List.getElem?_cons_zero, List.getElem?_cons_succ] at e0 e1 e2 e3 e4 e5 e6 e7 e8 e9
    unfold errV
    unfold GivesBr brV
    clear hd HD hR2
    go_wp2_with fail
    refine HI.out.mono ?_
    rintro r w2 ⟨rfl, rfl⟩
    go_wp2_with fail
    obtain ⟨wn, hwn⟩ : ∃ wn, wn = ((((((((((w2.setCell ⟨w.heap.size + 1, 0, none⟩ (.int .i64 0)).setCell ⟨w.heap.size + 1, 1, none⟩ (.string { data := #[] })).setCell ⟨w.heap.size + 1, 2, none⟩ (.int .i64 0)).setCell ⟨w.heap.size + 1, 3, none⟩ (.int .i64 0)).setCell ⟨w.heap.size + 1, 4, none⟩ (.string { data := #[] })).setCell ⟨w.heap.size + 1, 5, none⟩ (.slice none 0 0)).setCell ⟨w.heap.size + 1, 6, none⟩ (.int .i64 0)).setCell ⟨w.heap.size + 1, 7, none⟩ (.int .i64 0)).setCell ⟨w.heap.size + 1, 8, none⟩ (.string { data := #[] })).setCell ⟨w.heap.size + 1, 9, none⟩ (.slice none 0 0)) := ⟨_, rfl⟩
    have hwa : wn = setAllB w2 (w.heap.size + 1) 0 [.int .i64 0, .string { data := #[] }, .int .i64 0, .int .i64 0, .string { data := #[] }, .slice none 0 0, .int .i64 0, .int .i64 0, .string { data := #[] }, .slice none 0 0] := by rw [hwn]; rfl
    have hRn : BlkB wn (w.heap.size + 1) #[.int .i64 0, .string { data := #[] }, .int .i64 0, .int .i64 0, .string { data := #[] }, .slice none 0 0, .int .i64 0, .int .i64 0, .string { data := #[] }, .slice none 0 0] := by rw [hwa]; exact setAllB_blk [.int .i64 0, .string { data := #[] }, .int .i64 0, .int .i64 0, .string { data := #[] }, .slice none 0 0, .int .i64 0, .int .i64 0, .string { data := #[] }, .slice none 0 0] 0 _ w2 HR2.out rfl
    have hsn : ∀ k, k ≠ w.heap.size + 1 → wn.heap[k]? = w2.heap[k]? := fun k hk => by rw [hwa]; exact setAllB_other _ _ _ _ hk
    have hzn : wn.heap.size = w2.heap.size := by rw [hwa]; exact setAllB_size _ _ _ _
    have hosn : wn.os = w2.os ∧ wn.tape = w2.tape ∧ wn.output = w2.output := by rw [hwa]; exact setAllB_os _ _ _ _
    rw [← hwn]
    clear hwn hwa
    have r0 := hRn.cell 0
    have r1 := hRn.cell 1
    have r2 := hRn.cell 2
    have r3 := hRn.cell 3
    have r4 := hRn.cell 4
    have r5 := hRn.cell 5
    have r6 := hRn.cell 6
    have r7 := hRn.cell 7
    have r8 := hRn.cell 8
    have r9 := hRn.cell 9
    simp only [List.getElem?_toArray, List.getElem?_cons_zero, List.getElem?_cons_succ] at r0 r1 r2 r3 r4 r5 r6 r7 r8 r9
    refine bodyPost_ret (v := .agg #[.int .i64 0, .string { data := #[] }, .int .i64 0, .int .i64 0, .string { data := #[] }, .slice none 0 0, .int .i64 0, .int .i64 0, .string { data := #[] }, .slice none 0 0]) (by simp [results, Tryz.results29, go_sem, r0, r1, r2, r3, r4, r5, r6, r7, r8, r9]) rfl ?_
    rw [HT.out]
    exact ⟨none, 0, none, 0, wn.heap.size, rfl, Nat.le_refl _, Nat.le_refl _, own_nil _ _ _ _ _ _ _ (by have := hb01.size; omega), own_nil _ _ _ _ _ _ _ (Nat.le_refl _), Nat.le_refl _, hb01.trans ⟨hosn.1, hosn.2.1, hosn.2.2, by omega, fun k hk => hsn k (by omega)⟩⟩
end Go.Proofs.YtfknelkbdoiokaaGreatDoor
