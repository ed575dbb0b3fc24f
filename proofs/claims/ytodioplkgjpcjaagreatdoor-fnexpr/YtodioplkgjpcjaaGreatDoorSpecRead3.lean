/-
  The contracts of the model's l4Loop and l4Level1, and of all its reader of parts.
-/
import Derived.Test.YtodioplkgjpcjaaGreatDoorSpecRead2
namespace Go.Proofs.YtodioplkgjpcjaaGreatDoor
open Go.RowKit

set_option linter.unusedVariables false in
set_option linter.unusedSimpArgs false in
set_option maxRecDepth 100000 in
set_option maxHeartbeats 4000000 in
theorem l4Loop_four (ws : List ByteArray) (A : Option Addr) (c d : Nat) (hd : d ≤ 100) (ih : AtomOk ws A c d) : LoopOk ws A c 4 d := by
  intro k w hk C
  have hfw : ws.length ≤ 2 ^ 30 := C.few
  obtain ⟨W0, hW0⟩ : ∃ W0, W0 = w.alloc (.cells #[.int .i64 0, .int .i64 0, .string { data := #[] }, .slice none 0 0] 25) := ⟨_, rfl⟩
  have hb0 : Below w.heap.size w W0 := by rw [hW0]; exact (Below.refl _ w).alloc (Nat.le_refl _) _
  have hs0 : w.heap.size < W0.heap.size := by rw [hW0]; simp
  have HB8 := Lib.hid (show Blk W0 w.heap.size #[.int .i64 0, .int .i64 0, .string { data := #[] }, .slice none 0 0] by rw [hW0]; exact World.alloc_heap_new w _)
  have HA := Lib.hid (ih k W0 hk (C.below hb0))
  clear ih C
  go_enter Tryz.func88, Tryz.ntmps88
  go_wp2_with fail
  rw [← hW0]
  clear hW0
  refine HA.out.mono ?_
  rintro e w1 (⟨p, k1, A1, c1, hr, rfl, hc1, hK1, hb1, hk1, hk2, hwt⟩ | ⟨a, b, s', A', n', c', hr, rfl, hb1⟩)
  · have HR := Lib.hid hr
    have HK1 := Lib.hid hK1
    have HB81 := Lib.hid (show Blk w1 w.heap.size #[.int .i64 0, .int .i64 0, .string { data := #[] }, .slice none 0 0] from (hb1.block _ hs0).trans HB8.out)
    have HBN := Lib.hid (blk_set4 (.int .i64 p.ex.kind) (.int .i64 p.ex.n) (.string p.ex.s) (.slice A1 p.ex.kids.length c1) HB81.out)
    have hz1 := hb1.size
    clear hr hK1 HA
    have z0 := HB81.out.cell 0
    have z1 := HB81.out.cell 1
    have z2 := HB81.out.cell 2
    have z3 := HB81.out.cell 3
    have zf0 := HB81.out.frozen 0
    have zf1 := HB81.out.frozen 1
    have zf2 := HB81.out.frozen 2
    have zf3 := HB81.out.frozen 3
    simp only [List.getElem?_toArray, List.getElem?_cons_zero, List.getElem?_cons_succ] at z0 z1 z2 z3
    go_wp2_with fail
    obtain ⟨wn, hwn⟩ : ∃ wn, wn = (((w1.setCell ⟨w.heap.size, 0, none⟩ (.int .i64 p.ex.kind)).setCell ⟨w.heap.size, 1, none⟩ (.int .i64 p.ex.n)).setCell ⟨w.heap.size, 2, none⟩ (.string p.ex.s)).setCell ⟨w.heap.size, 3, none⟩ (.slice A1 p.ex.kids.length c1) := ⟨_, rfl⟩
    have hBn := HBN.out
    have hsame : ∀ k, k ≠ w.heap.size → wn.heap[k]? = w1.heap[k]? := fun k hk => by rw [hwn]; exact heap_set4 _ _ _ _ _ _ _ hk
    have hzn : wn.heap.size = w1.heap.size := by rw [hwn]; exact size_set4 _ _ _ _ _ _
    have hBl : Below w.heap.size w1 wn := ⟨by rw [hwn]; rfl, by rw [hwn]; rfl, by rw [hwn]; rfl, by omega, fun k hk => hsame k (by omega)⟩
    rw [← hwn] at hBn ⊢
    have r0 := hBn.cell 0
    have r1 := hBn.cell 1
    have r2 := hBn.cell 2
    have r3 := hBn.cell 3
    simp only [List.getElem?_toArray, List.getElem?_cons_zero, List.getElem?_cons_succ] at r0 r1 r2 r3
    refine bodyPost_ret (v := .tuple #[.agg #[.int .i64 p.ex.kind, .int .i64 p.ex.n, .string p.ex.s, .slice A1 p.ex.kids.length c1], .int .i64 (k1 : Int)]) (by simp [results, Tryz.results88, go_sem, r0, r1, r2, r3]) rfl ?_
    exact .inl ⟨p, k1, A1, c1, .atom HR.out, rfl, hc1, HK1.out.keep (fun b h => ⟨by omega, by omega⟩) (fun b h => hsame b (by omega)), hb0.trans ((hb1.mono hb0.size).trans hBl), hk1, hk2, hwt⟩
  · have HR := Lib.hid hr
    have HB81 := Lib.hid (show Blk w1 w.heap.size #[.int .i64 0, .int .i64 0, .string { data := #[] }, .slice none 0 0] from (hb1.block _ hs0).trans HB8.out)
    have HBN := Lib.hid (blk_set4 (.int .i64 a) (.int .i64 b) (.string s') (.slice A' n' c') HB81.out)
    have hz1 := hb1.size
    clear hr HA
    have z0 := HB81.out.cell 0
    have z1 := HB81.out.cell 1
    have z2 := HB81.out.cell 2
    have z3 := HB81.out.cell 3
    have zf0 := HB81.out.frozen 0
    have zf1 := HB81.out.frozen 1
    have zf2 := HB81.out.frozen 2
    have zf3 := HB81.out.frozen 3
    simp only [List.getElem?_toArray, List.getElem?_cons_zero, List.getElem?_cons_succ] at z0 z1 z2 z3
    go_wp2_with fail
    obtain ⟨wn, hwn⟩ : ∃ wn, wn = (((w1.setCell ⟨w.heap.size, 0, none⟩ (.int .i64 a)).setCell ⟨w.heap.size, 1, none⟩ (.int .i64 b)).setCell ⟨w.heap.size, 2, none⟩ (.string s')).setCell ⟨w.heap.size, 3, none⟩ (.slice A' n' c') := ⟨_, rfl⟩
    have hBn := HBN.out
    have hsame : ∀ k, k ≠ w.heap.size → wn.heap[k]? = w1.heap[k]? := fun k hk => by rw [hwn]; exact heap_set4 _ _ _ _ _ _ _ hk
    have hzn : wn.heap.size = w1.heap.size := by rw [hwn]; exact size_set4 _ _ _ _ _ _
    have hBl : Below w.heap.size w1 wn := ⟨by rw [hwn]; rfl, by rw [hwn]; rfl, by rw [hwn]; rfl, by omega, fun k hk => hsame k (by omega)⟩
    rw [← hwn] at hBn ⊢
    have r0 := hBn.cell 0
    have r1 := hBn.cell 1
    have r2 := hBn.cell 2
    have r3 := hBn.cell 3
    simp only [List.getElem?_toArray, List.getElem?_cons_zero, List.getElem?_cons_succ] at r0 r1 r2 r3
    refine bodyPost_ret (v := .tuple #[.agg #[.int .i64 a, .int .i64 b, .string s', .slice A' n' c'], .int .i64 (-1)]) (by simp [results, Tryz.results88, go_sem, r0, r1, r2, r3]) rfl ?_
    exact .inr ⟨_, _, _, _, _, _, .atom HR.out, rfl, hb0.trans ((hb1.mono hb0.size).trans hBl)⟩

set_option linter.unusedVariables false in
set_option linter.unusedSimpArgs false in
set_option maxRecDepth 100000 in
set_option maxHeartbeats 8000000 in
theorem l4Loop_low (ws : List ByteArray) (A : Option Addr) (c l d : Nat) (hd : d ≤ 100) (hl : l = 2 ∨ l = 3) (ih : LoopOk ws A c (l + 1) d) : LoopOk ws A c l d := by
  intro k w hk C
  have hfw : ws.length ≤ 2 ^ 30 := C.few
  have hl3 : l ≤ 3 := by omega
  have qL : decide ((3 : Int) < (l : Int)) = false := decide_eq_false (by omega)
  have HL23 := Lib.hid hl
  obtain ⟨W0, hW0⟩ : ∃ W0, W0 = w.alloc (.cells #[.int .i64 0, .int .i64 0, .string { data := #[] }, .slice none 0 0] 25) := ⟨_, rfl⟩
  have hb0 : Below w.heap.size w W0 := by rw [hW0]; exact (Below.refl _ w).alloc (Nat.le_refl _) _
  have hs0 : w.heap.size < W0.heap.size := by rw [hW0]; simp
  have HB80 := Lib.hid (show Blk W0 w.heap.size #[.int .i64 0, .int .i64 0, .string { data := #[] }, .slice none 0 0] by rw [hW0]; exact World.alloc_heap_new w _)
  have HA := Lib.hid (ih k W0 hk (C.below hb0))
  rw [show ((l + 1 : Nat) : Int) = (l : Int) + 1 by omega] at HA
  have HC := Lib.hid C
  have HI := Lib.hid (fun (k' : Nat) (V : World) (h1 : k' + 1 ≤ ws.length) (h2 : SpC V A ws) => (show Calls Tryz.prog 88 #[.slice A ws.length c, .int .i64 ((k' : Int) + 1), .int .i64 ((l : Int) + 1), .int .i64 (d : Int)] V (SGot ws (SLoop ws (l + 1) d (k' + 1)) (k' + 1) V) from ih (k' + 1) V h1 h2))
  clear ih C hl
  go_enter Tryz.func88, Tryz.ntmps88
  go_wp2_with fail
  rw [← hW0]
  clear hW0
  refine HA.out.mono ?_
  intro e w1 hans
  clear HA
  obtain ⟨a0, b0, s0, A0, n0, c0, nx, gk0, rfl, hb1, HST⟩ : ∃ (a0 b0 : Int) (s0 : ByteArray) (A0 : Option Addr) (n0 c0 : Nat) (nx : Int) (gk0 : Nat), e = .returned (.tuple #[.agg #[.int .i64 a0, .int .i64 b0, .string s0, .slice A0 n0 c0], .int .i64 nx]) ∧ Below W0.heap.size W0 w1 ∧ (∀ wr E i gk, E = w1.heap.size → i = Value.int .i64 nx → gk = gk0 → wr = w1.alloc (.cells #[.int .i64 a0, .int .i64 b0, .string s0, .slice A0 n0 c0] 25) → ((∃ p k2 A2 c2, i = .int .i64 ((k2 : Nat) : Int) ∧ k2 + gk = ws.length + 2 ∧ k < k2 ∧ k2 ≤ ws.length ∧ p.ex.wt + 9 * k ≤ 9 * k2 ∧ p.ex.kids.length ≤ c2 ∧ Hid (Blk wr E #[.int .i64 p.ex.kind, .int .i64 p.ex.n, .string p.ex.s, .slice A2 p.ex.kids.length c2]) ∧ Hid (KidsS wr (fun b => w.heap.size + 1 ≤ b ∧ b < wr.heap.size ∧ b ≠ E) A2 p.ex.kids) ∧ Hid (Blk wr w.heap.size #[.int .i64 0, .int .i64 0, .string { data := #[] }, .slice none 0 0]) ∧ Below w.heap.size w wr ∧ Hid (∀ r, SRest ws l d p k2 r → SLoop ws l d k r)) ∨ (∃ (a b : Int) (s' : ByteArray) (A' : Option Addr) (n' c' : Nat), i = .int .i64 (-1) ∧ Hid (Blk wr E #[.int .i64 a, .int .i64 b, .string s', .slice A' n' c']) ∧ Hid (Blk wr w.heap.size #[.int .i64 0, .int .i64 0, .string { data := #[] }, .slice none 0 0]) ∧ Below w.heap.size w wr ∧ Hid (SLoop ws l d k none)))) := by
    rcases hans with ⟨p, k1, A1, c1, hr, rfl, hc1, hK1, hb1, hk1, hk2, hwt⟩ | ⟨a, b, s', A', n', c', hr, rfl, hb1⟩
    · refine ⟨_, _, _, _, _, _, _, ws.length + 2 - k1, rfl, hb1, ?_⟩
      rintro wr E i gk rfl rfl rfl rfl
      have hz1 := hb1.size
      have hbA : Below w1.heap.size w1 (w1.alloc (.cells #[.int .i64 p.ex.kind, .int .i64 p.ex.n, .string p.ex.s, .slice A1 p.ex.kids.length c1] 25)) := (Below.refl _ _).alloc (Nat.le_refl _) _
      exact .inl ⟨p, k1, A1, c1, rfl, by omega, hk1, hk2, hwt, hc1, World.alloc_heap_new w1 _, hK1.keep (fun b h => ⟨by omega, by rw [World.size_alloc]; omega, by omega⟩) (fun b h => hbA.block b h.2), (hbA.block _ (by omega)).trans ((hb1.block _ hs0).trans HB80.out), hb0.trans ((hb1.trans (hbA.mono hz1)).mono hb0.size), fun r h => .go hl3 hr h⟩
    · refine ⟨_, _, _, _, _, _, _, 0, rfl, hb1, ?_⟩
      rintro wr E i gk rfl rfl rfl rfl
      have hz1 := hb1.size
      have hbA : Below w1.heap.size w1 (w1.alloc (.cells #[.int .i64 a, .int .i64 b, .string s', .slice A' n' c'] 25)) := (Below.refl _ _).alloc (Nat.le_refl _) _
      exact .inr ⟨_, _, _, _, _, _, rfl, World.alloc_heap_new w1 _, (hbA.block _ (by omega)).trans ((hb1.block _ hs0).trans HB80.out), hb0.trans ((hb1.trans (hbA.mono hz1)).mono hb0.size), .no hl3 hr⟩
  have HS := Lib.hid HST
  clear HST hans
  obtain ⟨E, hE⟩ : ∃ E, E = w1.heap.size := ⟨_, rfl⟩
  have HEq := Lib.hid hE
  have hE1 : w.heap.size < E := by have := hb1.size; omega
  have HB1 := Lib.hid hb1
  clear hb1
  go_wp2_with fail
  rw [← hE]
  clear hE
  go_loopg [11, 12, 13] gk0 (fun gk i xb bh wr => ((∃ p k2 A2 c2, i = .int .i64 ((k2 : Nat) : Int) ∧ k2 + gk = ws.length + 2 ∧ k < k2 ∧ k2 ≤ ws.length ∧ p.ex.wt + 9 * k ≤ 9 * k2 ∧ p.ex.kids.length ≤ c2 ∧ Hid (Blk wr E #[.int .i64 p.ex.kind, .int .i64 p.ex.n, .string p.ex.s, .slice A2 p.ex.kids.length c2]) ∧ Hid (KidsS wr (fun b => w.heap.size + 1 ≤ b ∧ b < wr.heap.size ∧ b ≠ E) A2 p.ex.kids) ∧ Hid (Blk wr w.heap.size #[.int .i64 0, .int .i64 0, .string { data := #[] }, .slice none 0 0]) ∧ Below w.heap.size w wr ∧ Hid (∀ r, SRest ws l d p k2 r → SLoop ws l d k r)) ∨ (∃ (a b : Int) (s' : ByteArray) (A' : Option Addr) (n' c' : Nat), i = .int .i64 (-1) ∧ Hid (Blk wr E #[.int .i64 a, .int .i64 b, .string s', .slice A' n' c']) ∧ Hid (Blk wr w.heap.size #[.int .i64 0, .int .i64 0, .string { data := #[] }, .slice none 0 0]) ∧ Below w.heap.size w wr ∧ Hid (SLoop ws l d k none))))
  case atStart => exact HS.out _ _ _ _ HEq.out rfl rfl rfl
  case round =>
    clear HS
    rcases hrel with ⟨p, k2, A2, c2, rfl, hg, hk1, hk2, hwt, hc2, HBE, HKd, HB8, hBw, HAL⟩ | ⟨a, b, s', A', n', c', rfl, HBE, HB8, hBw, HNO⟩
    · have hszw := hBw.size
      have o0 := HBE.out.cell 0
      have o1 := HBE.out.cell 1
      have o2 := HBE.out.cell 2
      have o3 := HBE.out.cell 3
      have of0 := HBE.out.frozen 0
      have of1 := HBE.out.frozen 1
      have of2 := HBE.out.frozen 2
      have of3 := HBE.out.frozen 3
      simp only [List.getElem?_toArray, List.getElem?_cons_zero, List.getElem?_cons_succ] at o0 o1 o2 o3
      have z0 := HB8.out.cell 0
      have z1 := HB8.out.cell 1
      have z2 := HB8.out.cell 2
      have z3 := HB8.out.cell 3
      have zf0 := HB8.out.frozen 0
      have zf1 := HB8.out.frozen 1
      have zf2 := HB8.out.frozen 2
      have zf3 := HB8.out.frozen 3
      simp only [List.getElem?_toArray, List.getElem?_cons_zero, List.getElem?_cons_succ] at z0 z1 z2 z3
      have HCw := Lib.hid (HC.out.below hBw)
      obtain ⟨t, ht⟩ : ∃ t, t = peekL ws k2 := ⟨_, rfl⟩
      have HT := Lib.hid ht
      have HAt := Lib.hid (l4At_any HCw.out (c := c) k2 (by omega))
      rw [← ht] at HAt
      have HLV := Lib.hid (l4LevelW_any t wr)
      have HPI := Lib.hid (speek_in (ws := ws) (k := k2))
      rw [← ht] at HPI
      clear ht
      by_cases hv : lvlW t = l
      case neg =>
        have qv : (((lvlW t : Nat) : Int) == (l : Int)) = false := by rw [beq_eq_false_iff_ne]; omega
        have HV := Lib.hid hv
        have hlw : lvlW t ≤ 3 := by unfold lvlW; (repeat' split) <;> omega
        have HNH := Lib.hid (show hold t ≠ l from fun h => hv ((lvlW_hold HL23.out).1 h).1)
        generalize lvlW t = lv at *
        clear hv
        go_wp2_with fail
        refine HAt.out.mono ?_
        rintro e w1 ⟨rfl, rfl⟩
        go_wp2_with fail
        refine HLV.out.mono ?_
        rintro e w2 ⟨rfl, hb2⟩
        have hz2 := hb2.size
        have hBw2 := hBw.trans (hb2.mono hszw)
        have HBE2 := Lib.hid ((hb2.block E HBE.out.lt).trans HBE.out)
        have HB82 := Lib.hid (show Blk w2 w.heap.size #[.int .i64 0, .int .i64 0, .string { data := #[] }, .slice none 0 0] from (hb2.block _ HB8.out.lt).trans HB8.out)
        have HBE2' := Lib.hid (show Blk w2 E #[.int .i64 p.ex.kind, .int .i64 p.ex.n, .string p.ex.s, .slice A2 p.ex.kids.length c2] from HBE2.out)
        clear o0 o1 o2 o3 of0 of1 of2 of3 z0 z1 z2 z3 zf0 zf1 zf2 zf3
        have o0 := HBE2'.out.cell 0
        have o1 := HBE2'.out.cell 1
        have o2 := HBE2'.out.cell 2
        have o3 := HBE2'.out.cell 3
        have of0 := HBE2'.out.frozen 0
        have of1 := HBE2'.out.frozen 1
        have of2 := HBE2'.out.frozen 2
        have of3 := HBE2'.out.frozen 3
        simp only [List.getElem?_toArray, List.getElem?_cons_zero, List.getElem?_cons_succ] at o0 o1 o2 o3
        have z0 := HB82.out.cell 0
        have z1 := HB82.out.cell 1
        have z2 := HB82.out.cell 2
        have z3 := HB82.out.cell 3
        have zf0 := HB82.out.frozen 0
        have zf1 := HB82.out.frozen 1
        have zf2 := HB82.out.frozen 2
        have zf3 := HB82.out.frozen 3
        simp only [List.getElem?_toArray, List.getElem?_cons_zero, List.getElem?_cons_succ] at z0 z1 z2 z3
        have HBN := Lib.hid (blk_set4 (.int .i64 p.ex.kind) (.int .i64 p.ex.n) (.string p.ex.s) (.slice A2 p.ex.kids.length c2) HB82.out)
        go_wp2_with fail
        obtain ⟨wn, hwn⟩ : ∃ wn, wn = (((w2.setCell ⟨w.heap.size, 0, none⟩ (.int .i64 p.ex.kind)).setCell ⟨w.heap.size, 1, none⟩ (.int .i64 p.ex.n)).setCell ⟨w.heap.size, 2, none⟩ (.string p.ex.s)).setCell ⟨w.heap.size, 3, none⟩ (.slice A2 p.ex.kids.length c2) := ⟨_, rfl⟩
        have hBn := HBN.out
        have hsame : ∀ k, k ≠ w.heap.size → wn.heap[k]? = w2.heap[k]? := fun k hk => by rw [hwn]; exact heap_set4 _ _ _ _ _ _ _ hk
        have hzn : wn.heap.size = w2.heap.size := by rw [hwn]; exact size_set4 _ _ _ _ _ _
        have hBl : Below w.heap.size w2 wn := ⟨by rw [hwn]; rfl, by rw [hwn]; rfl, by rw [hwn]; rfl, by omega, fun k hk => hsame k (by omega)⟩
        rw [← hwn] at hBn ⊢
        have r0 := hBn.cell 0
        have r1 := hBn.cell 1
        have r2 := hBn.cell 2
        have r3 := hBn.cell 3
        simp only [List.getElem?_toArray, List.getElem?_cons_zero, List.getElem?_cons_succ] at r0 r1 r2 r3
        refine bodyPost_ret (v := .tuple #[.agg #[.int .i64 p.ex.kind, .int .i64 p.ex.n, .string p.ex.s, .slice A2 p.ex.kids.length c2], .int .i64 (k2 : Int)]) (by simp [results, Tryz.results88, go_sem, r0, r1, r2, r3]) rfl ?_
        exact .inl ⟨p, k2, A2, c2, HAL.out _ (.stop (by rw [← HT.out]; exact HNH.out)), rfl, hc2, HKd.out.keep (fun b h => ⟨by omega, by omega⟩) (fun b h => (hsame b (by omega)).trans (hb2.block b h.2.1)), hBw2.trans hBl, hk1, hk2, hwt⟩
      have qv : (((lvlW t : Nat) : Int) == (l : Int)) = true := by rw [beq_iff_eq]; omega
      have HV := Lib.hid hv
      have HOP := Lib.hid (fun W => l4Op_any t W)
      by_cases ho : hold t = 0
      · have qo : decide (hold t ≠ 0) = false := by simp [ho]
        have HNH := Lib.hid (show hold t ≠ l from by have := HL23.out; omega)
        simp only [qo] at HOP
        generalize lvlW t = lv at *
        clear hv ho qo
        go_wp2_with fail
        refine HAt.out.mono ?_
        rintro e w1 ⟨rfl, rfl⟩
        go_wp2_with fail
        refine HLV.out.mono ?_
        rintro e w2 ⟨rfl, hb2⟩
        have hz2 := hb2.size
        have hBw2 := hBw.trans (hb2.mono hszw)
        have HBE2 := Lib.hid ((hb2.block E HBE.out.lt).trans HBE.out)
        have HB82 := Lib.hid (show Blk w2 w.heap.size #[.int .i64 0, .int .i64 0, .string { data := #[] }, .slice none 0 0] from (hb2.block _ HB8.out.lt).trans HB8.out)
        have HBE2' := Lib.hid (show Blk w2 E #[.int .i64 p.ex.kind, .int .i64 p.ex.n, .string p.ex.s, .slice A2 p.ex.kids.length c2] from HBE2.out)
        clear o0 o1 o2 o3 of0 of1 of2 of3 z0 z1 z2 z3 zf0 zf1 zf2 zf3
        have o0 := HBE2'.out.cell 0
        have o1 := HBE2'.out.cell 1
        have o2 := HBE2'.out.cell 2
        have o3 := HBE2'.out.cell 3
        have of0 := HBE2'.out.frozen 0
        have of1 := HBE2'.out.frozen 1
        have of2 := HBE2'.out.frozen 2
        have of3 := HBE2'.out.frozen 3
        simp only [List.getElem?_toArray, List.getElem?_cons_zero, List.getElem?_cons_succ] at o0 o1 o2 o3
        have z0 := HB82.out.cell 0
        have z1 := HB82.out.cell 1
        have z2 := HB82.out.cell 2
        have z3 := HB82.out.cell 3
        have zf0 := HB82.out.frozen 0
        have zf1 := HB82.out.frozen 1
        have zf2 := HB82.out.frozen 2
        have zf3 := HB82.out.frozen 3
        simp only [List.getElem?_toArray, List.getElem?_cons_zero, List.getElem?_cons_succ] at z0 z1 z2 z3
        have HBN := Lib.hid (blk_set4 (.int .i64 p.ex.kind) (.int .i64 p.ex.n) (.string p.ex.s) (.slice A2 p.ex.kids.length c2) HB82.out)
        have HAt2 := Lib.hid (l4At_any (HCw.out.below hb2) (c := c) k2 (by omega))
        rw [← HT.out] at HAt2
        go_wp2_with fail
        refine HAt2.out.mono ?_
        rintro e w3 ⟨rfl, rfl⟩
        go_wp2_with fail
        refine (HOP.out _).mono ?_
        rintro e w3 ⟨rfl, rfl⟩
        go_wp2_with fail
        obtain ⟨wn, hwn⟩ : ∃ wn, wn = (((w2.setCell ⟨w.heap.size, 0, none⟩ (.int .i64 p.ex.kind)).setCell ⟨w.heap.size, 1, none⟩ (.int .i64 p.ex.n)).setCell ⟨w.heap.size, 2, none⟩ (.string p.ex.s)).setCell ⟨w.heap.size, 3, none⟩ (.slice A2 p.ex.kids.length c2) := ⟨_, rfl⟩
        have hBn := HBN.out
        have hsame : ∀ k, k ≠ w.heap.size → wn.heap[k]? = w2.heap[k]? := fun k hk => by rw [hwn]; exact heap_set4 _ _ _ _ _ _ _ hk
        have hzn : wn.heap.size = w2.heap.size := by rw [hwn]; exact size_set4 _ _ _ _ _ _
        have hBl : Below w.heap.size w2 wn := ⟨by rw [hwn]; rfl, by rw [hwn]; rfl, by rw [hwn]; rfl, by omega, fun k hk => hsame k (by omega)⟩
        rw [← hwn] at hBn ⊢
        have r0 := hBn.cell 0
        have r1 := hBn.cell 1
        have r2 := hBn.cell 2
        have r3 := hBn.cell 3
        simp only [List.getElem?_toArray, List.getElem?_cons_zero, List.getElem?_cons_succ] at r0 r1 r2 r3
        refine bodyPost_ret (v := .tuple #[.agg #[.int .i64 p.ex.kind, .int .i64 p.ex.n, .string p.ex.s, .slice A2 p.ex.kids.length c2], .int .i64 (k2 : Int)]) (by simp [results, Tryz.results88, go_sem, r0, r1, r2, r3]) rfl ?_
        exact .inl ⟨p, k2, A2, c2, HAL.out _ (.stop (by rw [← HT.out]; exact HNH.out)), rfl, hc2, HKd.out.keep (fun b h => ⟨by omega, by omega⟩) (fun b h => (hsame b (by omega)).trans (hb2.block b h.2.1)), hBw2.trans hBl, hk1, hk2, hwt⟩
      have qo : decide (hold t ≠ 0) = true := by simp [ho]
      have HHo := Lib.hid ((lvlW_hold HL23.out).2 ⟨hv, ho⟩)
      have hlt : k2 < ws.length := HPI.out (by intro e; rw [e] at ho; exact ho (by decide))
      have hts := Lib.hid (show t.size ≤ 1 by
        have h := ho
        unfold hold at h
        by_cases h1 : t = sLess
        · subst h1; decide
        by_cases h2 : t = sPlus
        · subst h2; decide
        by_cases h3 : t = sMinus
        · subst h3; decide
        by_cases h4 : t = sTimes
        · subst h4; decide
        simp [h1, h2, h3, h4] at h)
      simp only [qo] at HOP
      generalize lvlW t = lv at *
      clear hv ho qo
      go_wp2_with fail
      refine HAt.out.mono ?_
      rintro e w1 ⟨rfl, rfl⟩
      go_wp2_with fail
      refine HLV.out.mono ?_
      rintro e w2 ⟨rfl, hb2⟩
      have hz2 := hb2.size
      have hBw2 := hBw.trans (hb2.mono hszw)
      have HAt2 := Lib.hid (l4At_any (HCw.out.below hb2) (c := c) k2 (by omega))
      rw [← HT.out] at HAt2
      have HNX := Lib.hid (HI.out k2 w2 (by omega) (HC.out.below hBw2))
      go_wp2_with fail
      refine HAt2.out.mono ?_
      rintro e w3 ⟨rfl, rfl⟩
      go_wp2_with fail
      refine (HOP.out _).mono ?_
      rintro e w3 ⟨rfl, rfl⟩
      go_wp2_with fail
      refine HNX.out.mono ?_
      rintro e w3 (⟨q, k3, A3, c3, hr3, rfl, hc3, hK3, hb3, hk3, hk4, hwt3⟩ | ⟨a, b, s', A', n', c', hr3, rfl, hb3⟩)
      · have HR3 := Lib.hid hr3
        have HK3 := Lib.hid hK3
        clear hr3 hK3 HNX
        obtain ⟨X, hX⟩ : ∃ X, X = w3.alloc (.cells #[.int .i64 q.ex.kind, .int .i64 q.ex.n, .string q.ex.s, .slice A3 q.ex.kids.length c3] 25) := ⟨_, rfl⟩
        have hbX1 : Below w3.heap.size w3 X := by rw [hX]; exact (Below.refl _ _).alloc (Nat.le_refl _) _
        have hbX0 : Below wr.heap.size wr X := hb2.trans ((hb3.trans (hbX1.mono hb3.size)).mono hz2)
        have hzX : X.heap.size = w3.heap.size + 1 := by rw [hX]; simp
        have HX12 := Lib.hid (show Blk X w3.heap.size #[.int .i64 q.ex.kind, .int .i64 q.ex.n, .string q.ex.s, .slice A3 q.ex.kids.length c3] by rw [hX]; exact World.alloc_heap_new w3 _)
        have HXE := Lib.hid (show Blk X E #[.int .i64 p.ex.kind, .int .i64 p.ex.n, .string p.ex.s, .slice A2 p.ex.kids.length c2] from (hbX0.block E HBE.out.lt).trans HBE.out)
        have HX8 := Lib.hid (show Blk X w.heap.size #[.int .i64 0, .int .i64 0, .string { data := #[] }, .slice none 0 0] from (hbX0.block _ HB8.out.lt).trans HB8.out)
        have HZX := Lib.hid hzX
        have HBX0 := Lib.hid hbX0
        have HBX1 := Lib.hid hbX1
        have hz3 := hb3.size
        have HSX := Lib.hid (HC.out.below (hBw.trans (hbX0.mono hszw))).sl
        obtain ⟨g, off, eA, hgA, hcA⟩ := HSX.out.at_ (k := k2) (by simpa using hlt)
        rw [List.getElem_map, show ws[k2] = t from (speek_lt hlt).symm.trans HT.out.symm] at hcA
        subst eA
        unfold strV at hcA
        have q2 : (0 : Int) ≤ (k2 : Int) := by omega
        have q3 : (k2 : Int) < (ws.length : Int) := by omega
        clear hzX hbX0 hbX1 o0 o1 o2 o3 of0 of1 of2 of3 z0 z1 z2 z3 zf0 zf1 zf2 zf3
        have y0 := HX12.out.cell 0
        have y1 := HX12.out.cell 1
        have y2 := HX12.out.cell 2
        have y3 := HX12.out.cell 3
        have yf0 := HX12.out.frozen 0
        have yf1 := HX12.out.frozen 1
        have yf2 := HX12.out.frozen 2
        have yf3 := HX12.out.frozen 3
        simp only [List.getElem?_toArray, List.getElem?_cons_zero, List.getElem?_cons_succ] at y0 y1 y2 y3
        have o0 := HXE.out.cell 0
        have o1 := HXE.out.cell 1
        have o2 := HXE.out.cell 2
        have o3 := HXE.out.cell 3
        have of0 := HXE.out.frozen 0
        have of1 := HXE.out.frozen 1
        have of2 := HXE.out.frozen 2
        have of3 := HXE.out.frozen 3
        simp only [List.getElem?_toArray, List.getElem?_cons_zero, List.getElem?_cons_succ] at o0 o1 o2 o3
        have HBH := Lib.hid (behind_drew (behind1 X E (.int .i64 3) (.int .i64 0) (.string t) (.slice (some ⟨X.heap.size, 0, none⟩) 2 2) (.cells #[.int .i64 p.ex.kind, .int .i64 p.ex.n, .string p.ex.s, .slice A2 p.ex.kids.length c2, .int .i64 q.ex.kind, .int .i64 q.ex.n, .string q.ex.s, .slice A3 q.ex.kids.length c3] 25)))
        have HNE := Lib.hid (blk1 (.int .i64 3) (.int .i64 0) (.string t) (.slice (some ⟨X.heap.size, 0, none⟩) 2 2) (.cells #[.int .i64 p.ex.kind, .int .i64 p.ex.n, .string p.ex.s, .slice A2 p.ex.kids.length c2, .int .i64 q.ex.kind, .int .i64 q.ex.n, .string q.ex.s, .slice A3 q.ex.kids.length c3] 25) HXE.out)
        have HNK := Lib.hid (at1 X E (.int .i64 3) (.int .i64 0) (.string t) (.slice (some ⟨X.heap.size, 0, none⟩) 2 2) (.cells #[.int .i64 p.ex.kind, .int .i64 p.ex.n, .string p.ex.s, .slice A2 p.ex.kids.length c2, .int .i64 q.ex.kind, .int .i64 q.ex.n, .string q.ex.s, .slice A3 q.ex.kids.length c3] 25))
        have HZN := Lib.hid (show X.heap.size < (((((X.setCell ⟨E, 0, none⟩ (.int .i64 3)).setCell ⟨E, 1, none⟩ (.int .i64 0)).setCell ⟨E, 2, none⟩ (.string t)).setCell ⟨E, 3, none⟩ (.slice (some ⟨X.heap.size, 0, none⟩) 2 2)).alloc (.cells #[.int .i64 p.ex.kind, .int .i64 p.ex.n, .string p.ex.s, .slice A2 p.ex.kids.length c2, .int .i64 q.ex.kind, .int .i64 q.ex.n, .string q.ex.s, .slice A3 q.ex.kids.length c3] 25)).drew.heap.size by simp)
        have HELT := Lib.hid HXE.out.lt
        have hEX0 : E < X.heap.size := HXE.out.lt
        go_wp2_with fail
        rw [← hX]
        clear hX
        go_region
        go_wp2_with fail
        go_roundg (ws.length + 2 - k3)
        case measure => omega
        case rel =>
          obtain ⟨wn, hwn⟩ : ∃ wn, wn = (((((X.setCell ⟨E, 0, none⟩ (.int .i64 3)).setCell ⟨E, 1, none⟩ (.int .i64 0)).setCell ⟨E, 2, none⟩ (.string t)).setCell ⟨E, 3, none⟩ (.slice (some ⟨X.heap.size, 0, none⟩) 2 2)).alloc (.cells #[.int .i64 p.ex.kind, .int .i64 p.ex.n, .string p.ex.s, .slice A2 p.ex.kids.length c2, .int .i64 q.ex.kind, .int .i64 q.ex.n, .string q.ex.s, .slice A3 q.ex.kids.length c3] 25)).drew := ⟨_, rfl⟩
          have hNE : Blk wn E #[.int .i64 3, .int .i64 0, .string t, .slice (some ⟨X.heap.size, 0, none⟩) 2 2] := by rw [hwn]; exact HNE.out
          have hNK : Blk wn X.heap.size #[.int .i64 p.ex.kind, .int .i64 p.ex.n, .string p.ex.s, .slice A2 p.ex.kids.length c2, .int .i64 q.ex.kind, .int .i64 q.ex.n, .string q.ex.s, .slice A3 q.ex.kids.length c3] := by rw [hwn]; exact HNK.out
          have hBH : Behind5 E X wn := by rw [hwn]; exact HBH.out
          have hzn : X.heap.size < wn.heap.size := by rw [hwn]; exact HZN.out
          rw [← hwn]
          have hzX := HZX.out
          have hEX := HELT.out
          have hts2 := hts.out
          have hb8 := HX8.out.lt
          have hEwr := HBE.out.lt
          have hb8r := HB8.out.lt
          exact .inl ⟨.two t p q, k3, some ⟨X.heap.size, 0, none⟩, 2, rfl, by omega, by omega, by omega, by simp only [Pt.ex, Ex.wt, Ex.wts]; omega, Nat.le_refl _, hNE,
            kidsS_two ⟨by omega, hzn, by omega⟩ hNK hc2 hc3 (HKd.out.keep (fun b h => ⟨h.1, by omega, h.2.2⟩) (fun b h => (hBH.1 b (by omega) h.2.2).trans (HBX0.out.block b h.2.1))) (HK3.out.keep (fun b h => ⟨by omega, by omega, by omega⟩) (fun b h => (hBH.1 b (by omega) (by omega)).trans (HBX1.out.block b h.2))),
            (hBH.1 _ (by omega) (by omega)).trans HX8.out, hBw.trans ((HBX0.out.mono hszw).trans (below_behind hBH _ (by omega) (by omega))), fun r h => HAL.out r (.more (by rw [← HT.out]; exact HHo.out) HR3.out (by rw [← HT.out]; exact h))⟩
      · have HR3 := Lib.hid hr3
        clear hr3 HNX
        obtain ⟨X, hX⟩ : ∃ X, X = w3.alloc (.cells #[.int .i64 a, .int .i64 b, .string s', .slice A' n' c'] 25) := ⟨_, rfl⟩
        have hbX1 : Below w3.heap.size w3 X := by rw [hX]; exact (Below.refl _ _).alloc (Nat.le_refl _) _
        have hbX0 : Below wr.heap.size wr X := hb2.trans ((hb3.trans (hbX1.mono hb3.size)).mono hz2)
        have hzX : X.heap.size = w3.heap.size + 1 := by rw [hX]; simp
        have HX12 := Lib.hid (show Blk X w3.heap.size #[.int .i64 a, .int .i64 b, .string s', .slice A' n' c'] by rw [hX]; exact World.alloc_heap_new w3 _)
        have HXE := Lib.hid (show Blk X E #[.int .i64 p.ex.kind, .int .i64 p.ex.n, .string p.ex.s, .slice A2 p.ex.kids.length c2] from (hbX0.block E HBE.out.lt).trans HBE.out)
        have HX8 := Lib.hid (show Blk X w.heap.size #[.int .i64 0, .int .i64 0, .string { data := #[] }, .slice none 0 0] from (hbX0.block _ HB8.out.lt).trans HB8.out)
        have HZX := Lib.hid hzX
        have HBX0 := Lib.hid hbX0
        have HBX1 := Lib.hid hbX1
        have hz3 := hb3.size
        have HSX := Lib.hid (HC.out.below (hBw.trans (hbX0.mono hszw))).sl
        obtain ⟨g, off, eA, hgA, hcA⟩ := HSX.out.at_ (k := k2) (by simpa using hlt)
        rw [List.getElem_map, show ws[k2] = t from (speek_lt hlt).symm.trans HT.out.symm] at hcA
        subst eA
        unfold strV at hcA
        have q2 : (0 : Int) ≤ (k2 : Int) := by omega
        have q3 : (k2 : Int) < (ws.length : Int) := by omega
        clear hzX hbX0 hbX1 o0 o1 o2 o3 of0 of1 of2 of3 z0 z1 z2 z3 zf0 zf1 zf2 zf3
        have y0 := HX12.out.cell 0
        have y1 := HX12.out.cell 1
        have y2 := HX12.out.cell 2
        have y3 := HX12.out.cell 3
        have yf0 := HX12.out.frozen 0
        have yf1 := HX12.out.frozen 1
        have yf2 := HX12.out.frozen 2
        have yf3 := HX12.out.frozen 3
        simp only [List.getElem?_toArray, List.getElem?_cons_zero, List.getElem?_cons_succ] at y0 y1 y2 y3
        have o0 := HXE.out.cell 0
        have o1 := HXE.out.cell 1
        have o2 := HXE.out.cell 2
        have o3 := HXE.out.cell 3
        have of0 := HXE.out.frozen 0
        have of1 := HXE.out.frozen 1
        have of2 := HXE.out.frozen 2
        have of3 := HXE.out.frozen 3
        simp only [List.getElem?_toArray, List.getElem?_cons_zero, List.getElem?_cons_succ] at o0 o1 o2 o3
        have HBH := Lib.hid (behind_drew (behind1 X E (.int .i64 3) (.int .i64 0) (.string t) (.slice (some ⟨X.heap.size, 0, none⟩) 2 2) (.cells #[.int .i64 p.ex.kind, .int .i64 p.ex.n, .string p.ex.s, .slice A2 p.ex.kids.length c2, .int .i64 a, .int .i64 b, .string s', .slice A' n' c'] 25)))
        have HNE := Lib.hid (blk1 (.int .i64 3) (.int .i64 0) (.string t) (.slice (some ⟨X.heap.size, 0, none⟩) 2 2) (.cells #[.int .i64 p.ex.kind, .int .i64 p.ex.n, .string p.ex.s, .slice A2 p.ex.kids.length c2, .int .i64 a, .int .i64 b, .string s', .slice A' n' c'] 25) HXE.out)
        have HNK := Lib.hid (at1 X E (.int .i64 3) (.int .i64 0) (.string t) (.slice (some ⟨X.heap.size, 0, none⟩) 2 2) (.cells #[.int .i64 p.ex.kind, .int .i64 p.ex.n, .string p.ex.s, .slice A2 p.ex.kids.length c2, .int .i64 a, .int .i64 b, .string s', .slice A' n' c'] 25))
        have HZN := Lib.hid (show X.heap.size < (((((X.setCell ⟨E, 0, none⟩ (.int .i64 3)).setCell ⟨E, 1, none⟩ (.int .i64 0)).setCell ⟨E, 2, none⟩ (.string t)).setCell ⟨E, 3, none⟩ (.slice (some ⟨X.heap.size, 0, none⟩) 2 2)).alloc (.cells #[.int .i64 p.ex.kind, .int .i64 p.ex.n, .string p.ex.s, .slice A2 p.ex.kids.length c2, .int .i64 a, .int .i64 b, .string s', .slice A' n' c'] 25)).drew.heap.size by simp)
        have HELT := Lib.hid HXE.out.lt
        have hEX0 : E < X.heap.size := HXE.out.lt
        go_wp2_with fail
        rw [← hX]
        clear hX
        go_region
        go_wp2_with fail
        go_roundg 0
        case measure => omega
        case rel =>
          obtain ⟨wn, hwn⟩ : ∃ wn, wn = (((((X.setCell ⟨E, 0, none⟩ (.int .i64 3)).setCell ⟨E, 1, none⟩ (.int .i64 0)).setCell ⟨E, 2, none⟩ (.string t)).setCell ⟨E, 3, none⟩ (.slice (some ⟨X.heap.size, 0, none⟩) 2 2)).alloc (.cells #[.int .i64 p.ex.kind, .int .i64 p.ex.n, .string p.ex.s, .slice A2 p.ex.kids.length c2, .int .i64 a, .int .i64 b, .string s', .slice A' n' c'] 25)).drew := ⟨_, rfl⟩
          have hNE : Blk wn E #[.int .i64 3, .int .i64 0, .string t, .slice (some ⟨X.heap.size, 0, none⟩) 2 2] := by rw [hwn]; exact HNE.out
          have hNK : Blk wn X.heap.size #[.int .i64 p.ex.kind, .int .i64 p.ex.n, .string p.ex.s, .slice A2 p.ex.kids.length c2, .int .i64 a, .int .i64 b, .string s', .slice A' n' c'] := by rw [hwn]; exact HNK.out
          have hBH : Behind5 E X wn := by rw [hwn]; exact HBH.out
          have hzn : X.heap.size < wn.heap.size := by rw [hwn]; exact HZN.out
          rw [← hwn]
          have hzX := HZX.out
          have hEX := HELT.out
          have hts2 := hts.out
          have hb8 := HX8.out.lt
          have hEwr := HBE.out.lt
          have hb8r := HB8.out.lt
          exact .inr ⟨3, 0, t, some ⟨X.heap.size, 0, none⟩, 2, 2, rfl, hNE, (hBH.1 _ (by omega) (by omega)).trans HX8.out, hBw.trans ((HBX0.out.mono hszw).trans (below_behind hBH _ (by omega) (by omega))), HAL.out none (.no (by rw [← HT.out]; exact HHo.out) HR3.out)⟩
    · have hszw := hBw.size
      have o0 := HBE.out.cell 0
      have o1 := HBE.out.cell 1
      have o2 := HBE.out.cell 2
      have o3 := HBE.out.cell 3
      have of0 := HBE.out.frozen 0
      have of1 := HBE.out.frozen 1
      have of2 := HBE.out.frozen 2
      have of3 := HBE.out.frozen 3
      simp only [List.getElem?_toArray, List.getElem?_cons_zero, List.getElem?_cons_succ] at o0 o1 o2 o3
      have z0 := HB8.out.cell 0
      have z1 := HB8.out.cell 1
      have z2 := HB8.out.cell 2
      have z3 := HB8.out.cell 3
      have zf0 := HB8.out.frozen 0
      have zf1 := HB8.out.frozen 1
      have zf2 := HB8.out.frozen 2
      have zf3 := HB8.out.frozen 3
      simp only [List.getElem?_toArray, List.getElem?_cons_zero, List.getElem?_cons_succ] at z0 z1 z2 z3
      have HBN := Lib.hid (blk_set4 (.int .i64 a) (.int .i64 b) (.string s') (.slice A' n' c') HB8.out)
      go_wp2_with fail
      obtain ⟨wn, hwn⟩ : ∃ wn, wn = (((wr.setCell ⟨w.heap.size, 0, none⟩ (.int .i64 a)).setCell ⟨w.heap.size, 1, none⟩ (.int .i64 b)).setCell ⟨w.heap.size, 2, none⟩ (.string s')).setCell ⟨w.heap.size, 3, none⟩ (.slice A' n' c') := ⟨_, rfl⟩
      have hBn := HBN.out
      have hsame : ∀ k, k ≠ w.heap.size → wn.heap[k]? = wr.heap[k]? := fun k hk => by rw [hwn]; exact heap_set4 _ _ _ _ _ _ _ hk
      have hzn : wn.heap.size = wr.heap.size := by rw [hwn]; exact size_set4 _ _ _ _ _ _
      have hBl : Below w.heap.size wr wn := ⟨by rw [hwn]; rfl, by rw [hwn]; rfl, by rw [hwn]; rfl, by omega, fun k hk => hsame k (by omega)⟩
      rw [← hwn] at hBn ⊢
      have r0 := hBn.cell 0
      have r1 := hBn.cell 1
      have r2 := hBn.cell 2
      have r3 := hBn.cell 3
      simp only [List.getElem?_toArray, List.getElem?_cons_zero, List.getElem?_cons_succ] at r0 r1 r2 r3
      refine bodyPost_ret (v := .tuple #[.agg #[.int .i64 a, .int .i64 b, .string s', .slice A' n' c'], .int .i64 (-1)]) (by simp [results, Tryz.results88, go_sem, r0, r1, r2, r3]) rfl ?_
      exact .inr ⟨_, _, _, _, _, _, HNO.out, rfl, hBw.trans hBl⟩
end Go.Proofs.YtodioplkgjpcjaaGreatDoor
