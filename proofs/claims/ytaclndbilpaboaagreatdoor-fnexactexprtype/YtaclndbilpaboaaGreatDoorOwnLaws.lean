/-
  The contracts of laws.toExpr (a copy of one's own), laws.eqExpr.
-/
import Derived.Test.YtaclndbilpaboaaGreatDoorOwn
import Derived.Laws.MakeOwn
namespace Go.Proofs.YtaclndbilpaboaaGreatDoor
open Go.RowKit

def zeroC : Array Value := #[.int .i64 0, .int .i64 0, .string ByteArray.empty, .slice none 0 0]
theorem infoEx : (Tryz.prog.info? 31).map (fun i => (i.zero, i.size, i.bytes)) = some (some (.agg zeroC), 4, 56) := by kernel_rfl
theorem run_makeE (n : Nat) (hn : n ≤ 2 ^ 40) (w : World) : (Instr.makeSlice 29 (.int .i64 (n : Int)) (.int .i64 (n : Int))).run Tryz.prog w = .ok (.slice (some ⟨w.heap.size, 0, none⟩) n n) (w.alloc (.cells (madeCells zeroC (n * 4)) 31)) := by
  obtain ⟨i, hi, hzz⟩ := Option.map_eq_some_iff.1 infoEx
  simp only [Prod.mk.injEq] at hzz
  obtain ⟨hz, hs, hb⟩ := hzz
  have hr := run_make (P := Tryz.prog) w 29 31 i _ Tryz.underlying29 hi hz .i64 .i64 n n (by omega) (Int.le_refl _) (by rw [hb]; omega) (by omega)
  rw [hs] at hr
  simp only [Int.toNat_natCast] at hr
  exact hr

/-- A copy of e is handed back, in memory of its own. -/
def Copies (e : Ex) (w : World) (r : Ending) (w' : World) : Prop :=
  ∃ A c, r = .returned (.agg #[.int .i64 e.kind, .int .i64 e.n, .string e.s, .slice A e.kids.length c]) ∧ e.kids.length ≤ c ∧ OwnE w' e w.heap.size w'.heap.size A ∧ Below w.heap.size w w'

set_option maxRecDepth 100000 in
set_option maxHeartbeats 4000000 in
theorem toExpr_any (e : Ex) : ∀ (A : Option Addr) (c B : Nat) (w : World), KidsAt w B A e.kids → e.kids.length ≤ c → B ≤ w.heap.size → e.wt ≤ 2 ^ 40 →
    Calls Tryz.prog 10 #[.agg #[.int .i64 e.kind, .int .i64 e.n, .string e.s, .slice A e.kids.length c]] w (Copies e w) := by
  induction e using Ex.ind with
  | h k n s ks ih =>
    intro A c B w hA hc hB hw
    simp only [Ex.kind, Ex.n, Ex.s, Ex.kids, Ex.wt] at hA hc hw ⊢
    have hlw := Ex.wts_length ks
    have hl : ks.length ≤ 2 ^ 40 := by omega
    have HA := Lib.hid hA
    have HI := Lib.hid ih
    have HWT := Lib.hid (show Ex.wts ks ≤ 2 ^ 40 by omega)
    clear hA ih hw hlw
    have HS := Lib.hid (show ∀ W : World, Below w.heap.size w W → Calls Tryz.prog 25 #[.slice A ks.length c] W fun r W' => ∃ A' c', r = .returned (.slice A' ks.length c') ∧ ks.length ≤ c' ∧ OwnE W' (.mk k n s ks) W.heap.size W'.heap.size A' ∧ Below W.heap.size W W' by
      intro W hW
      have hmk := run_makeE ks.length hl
      go_enter Tryz.func25, Tryz.ntmps25
      go_wp2_with fail
      go_loopw [4] (fun i wr => ∃ j : Nat, j ≤ ks.length ∧ i = .int .i64 j ∧ (∃ cur, Blk wr W.heap.size cur ∧ cur.size = ks.length * 4) ∧ OwnL wr (ks.take j) W.heap.size 0 (W.heap.size + 1) wr.heap.size ∧ Below W.heap.size W wr)
        (fun i _ => ks.length - (intOf i).toNat)
      case atStart => exact ⟨0, Nat.zero_le _, rfl, ⟨_, World.alloc_heap_new W _, by rw [size_madeCells]⟩, by rw [List.take_zero, OwnL]; simp, (Below.refl _ W).alloc (Nat.le_refl _) _⟩
      case round =>
        obtain ⟨j, hj, rfl, ⟨cur, hcur, hcs⟩, hown, hBw⟩ := hrel
        clear hmk
        have hBB := hW.trans (hBw.mono hW.size)
        by_cases hlt : j < ks.length
        · obtain ⟨g, off, D, c', eA, hg, kid⟩ := (HA.out.keep (hBB.mono hB)).at_ hlt
          subst eA
          have hkb : ks[j].wt + 1 ≤ Ex.wts ks := Ex.wt_mem (List.getElem_mem _)
          have HC := Lib.hid (HI.out ks[j] (List.getElem_mem hlt) D c' B wr kid.hk kid.hc (Nat.le_trans hB hBB.size) (by have := HWT.out; omega))
          have HT := Lib.hid (List.take_succ_eq_append_getElem hlt)
          have HO := Lib.hid hown
          have HCU := Lib.hid hcur
          have hlen : (ks.take j).length = j := by simp; omega
          generalize ks[j] = x at *
          obtain ⟨k', n', s', ks'⟩ := x
          obtain ⟨c0, c1, c2, c3, hcc, hkk⟩ := kid
          simp only [Ex.kind, Ex.n, Ex.s, Ex.kids] at c0 c1 c2 c3 hcc
          have hx : (j : Int) < (ks.length : Int) := by omega
          have hx2 : j * 4 + 4 ≤ cur.size := by omega
          clear hkk hown hkb
          go_wp2_with fail
          refine HC.out.mono ?_
          rintro e w1 ⟨A1, cc, rfl, hcc1, hO1, hb1⟩
          have hcur1 : Blk w1 W.heap.size cur := (hb1.block _ hcur.lt).trans hcur
          have e0 : ∃ v, w1.cell? ⟨W.heap.size, j * 4, none⟩ = some v := ⟨cur[j * 4]'(by omega), by rw [hcur1.cell, Array.getElem?_eq_getElem]⟩
          have e1 : ∃ v, w1.cell? ⟨W.heap.size, j * 4 + 1, none⟩ = some v := ⟨cur[j * 4 + 1]'(by omega), by rw [hcur1.cell, Array.getElem?_eq_getElem]⟩
          have e2 : ∃ v, w1.cell? ⟨W.heap.size, j * 4 + 2, none⟩ = some v := ⟨cur[j * 4 + 2]'(by omega), by rw [hcur1.cell, Array.getElem?_eq_getElem]⟩
          have e3 : ∃ v, w1.cell? ⟨W.heap.size, j * 4 + 3, none⟩ = some v := ⟨cur[j * 4 + 3]'(by omega), by rw [hcur1.cell, Array.getElem?_eq_getElem]⟩
          obtain ⟨v0, e0⟩ := e0
          obtain ⟨v1, e1⟩ := e1
          obtain ⟨v2, e2⟩ := e2
          obtain ⟨v3, e3⟩ := e3
          have f0 := hcur1.frozen (j * 4)
          have f1 := hcur1.frozen (j * 4 + 1)
          have f2 := hcur1.frozen (j * 4 + 2)
          have f3 := hcur1.frozen (j * 4 + 3)
          have HC1 := Lib.hid hcur1
          have HO1 := Lib.hid hO1
          clear hcur hcur1 c0 c1 c2 c3 HC hO1
          simp only [Ex.kind, Ex.n, Ex.s, Ex.kids] at hcc1 ⊢
          go_wp2_with fail
          go_roundw
          case rel =>
            obtain ⟨wn, hwn⟩ : ∃ wn, wn = (((w1.setCell ⟨W.heap.size, j * 4, none⟩ (.int .i64 k')).setCell ⟨W.heap.size, j * 4 + 1, none⟩ (.int .i64 n')).setCell ⟨W.heap.size, j * 4 + 2, none⟩ (.string s')).setCell ⟨W.heap.size, j * 4 + 3, none⟩ (.slice A1 ks'.length cc) := ⟨_, rfl⟩
            rw [← hwn]
            have hbl : Blk wn W.heap.size ((((cur.setIfInBounds (j * 4) (.int .i64 k')).setIfInBounds (j * 4 + 1) (.int .i64 n')).setIfInBounds (j * 4 + 2) (.string s')).setIfInBounds (j * 4 + 3) (.slice A1 ks'.length cc)) := by
              rw [hwn]; exact (((HC1.out.set _ _).set _ _).set _ _).set _ _
            have hsame : ∀ b, b ≠ W.heap.size → wn.heap[b]? = w1.heap[b]? := by
              intro b hb
              rw [hwn]
              rw [Below.heap_setCell _ _ _ b hb, Below.heap_setCell _ _ _ b hb, Below.heap_setCell _ _ _ b hb, Below.heap_setCell _ _ _ b hb]
            have hsz : wn.heap.size = w1.heap.size := by rw [hwn]; simp
            have hcell : ∀ i, i < j * 4 → wn.cell? ⟨W.heap.size, i, none⟩ = w1.cell? ⟨W.heap.size, i, none⟩ := by
              intro i hi
              rw [hbl.cell, HC1.out.cell]
              simp only [Array.getElem?_setIfInBounds]
              rw [if_neg (by omega), if_neg (by omega), if_neg (by omega), if_neg (by omega)]
            refine ⟨j + 1, by omega, by go_num, ⟨_, hbl, by simp [hcs]⟩, ?_, ?_⟩
            · rw [HT.out]
              have hprev : OwnL wn (ks.take j) W.heap.size 0 (W.heap.size + 1) wr.heap.size := by
                refine ownL_keep (w := wr) (fun i _ hi => ?_) (fun b h1 h2 => ?_) HO.out
                · rw [hlen] at hi
                  rw [hcell i (by omega)]
                  exact World.cell?_of_block (a := ⟨W.heap.size, i, none⟩) (hb1.block _ HCU.out.lt)
                · rw [hsame b (by omega)]
                  exact hb1.block b h2
              rw [hsz]
              refine ownL_snoc hprev (D := A1) (c := cc) ?_ (own_keep _ _ _ _ (fun b h1 h2 => hsame b (by have := HCU.out.lt; omega)) HO1.out)
              rw [hlen, Nat.zero_add, Nat.mul_comm 4 j]
              refine ⟨?_, ?_, ?_, ?_, hcc1⟩
              all_goals (rw [hbl.cell]; simp [Array.getElem?_setIfInBounds, Ex.kind, Ex.n, Ex.s, Ex.kids]; omega)
            · refine (hBw.trans (hb1.mono hBw.size)).trans ⟨by rw [hwn]; rfl, by rw [hwn]; rfl, by rw [hwn]; rfl, by omega, fun b hb => hsame b (by omega)⟩
          case measure => simp [intOf]; omega
        · have HO := Lib.hid hown
          have HCU := Lib.hid hcur
          clear hown hcur
          go_wp2_with fail
          go_ret
          refine ⟨_, _, rfl, Nat.le_refl _, ?_, hBw⟩
          have h2 := HO.out
          rw [List.take_of_length_le (by omega)] at h2
          rw [OwnE]
          exact .inr ⟨W.heap.size, W.heap.size + 1, wr.heap.size, rfl, Nat.le_refl _, HCU.out.lt, by omega, Nat.le_refl _, .inl (by omega), ⟨cur, HCU.out⟩, h2⟩)
    obtain ⟨Wx, hWx⟩ : ∃ Wx, Wx = ((w.alloc (.cells #[.int .i64 k, .int .i64 n, .string s, .slice A ks.length c] 24)).alloc (.cells #[.int .i64 0, .int .i64 0, .string { data := #[] }, .slice none 0 0] 31)).alloc (.cells #[.int .i64 k, .int .i64 n, .string s, .slice none 0 0] 31) := ⟨_, rfl⟩
    have hbx : Below w.heap.size w Wx := by rw [hWx]; exact (((Below.refl _ w).alloc (Nat.le_refl _) _).alloc (by simp) _).alloc (by simp; omega) _
    have hsx : Wx.heap.size = w.heap.size + 3 := by rw [hWx]; simp
    have hX2 : Blk Wx (w.heap.size + 1 + 1) #[.int .i64 k, .int .i64 n, .string s, .slice none 0 0] := by
      have := World.alloc_heap_new ((w.alloc (.cells #[.int .i64 k, .int .i64 n, .string s, .slice A ks.length c] 24)).alloc (.cells #[.int .i64 0, .int .i64 0, .string { data := #[] }, .slice none 0 0] 31)) (.cells #[.int .i64 k, .int .i64 n, .string s, .slice none 0 0] 31)
      rw [World.size_alloc, World.size_alloc, ← hWx] at this
      exact this
    have hX1 : Blk Wx (w.heap.size + 1) #[.int .i64 0, .int .i64 0, .string { data := #[] }, .slice none 0 0] := by
      have := World.alloc_heap_new (w.alloc (.cells #[.int .i64 k, .int .i64 n, .string s, .slice A ks.length c] 24)) (.cells #[.int .i64 0, .int .i64 0, .string { data := #[] }, .slice none 0 0] 31)
      rw [World.size_alloc] at this
      unfold Blk
      rw [hWx, Below.heap_alloc _ _ _ (by simp)]
      exact this
    have HC := Lib.hid (HS.out Wx hbx)
    clear HS HI HA
    go_enter Tryz.func10, Tryz.ntmps10
    go_wp2_with fail
    rw [← hWx]
    refine HC.out.mono ?_
    rintro r w1 ⟨A1, cc, rfl, hcc1, hO1, hb1⟩
    have h2 : Blk w1 (w.heap.size + 1 + 1) _ := (hb1.block _ hX2.lt).trans hX2
    have h1 : Blk w1 (w.heap.size + 1) _ := (hb1.block _ hX1.lt).trans hX1
    have f3 := h2.frozen 3
    have x3 := h2.cell 3
    have h3 := h2.set 3 (.slice A1 ks.length cc)
    have g0 := h3.cell 0
    have g1 := h3.cell 1
    have g2 := h3.cell 2
    have g3 := h3.cell 3
    have y0 := h1.cell 0
    have y1 := h1.cell 1
    have y2 := h1.cell 2
    have y3 := h1.cell 3
    have z0 := h1.frozen 0
    have z1 := h1.frozen 1
    have z2 := h1.frozen 2
    have z3 := h1.frozen 3
    simp only [List.setIfInBounds_toArray, List.set_cons_succ, List.set_cons_zero, List.getElem?_toArray, List.getElem?_cons_zero, List.getElem?_cons_succ] at g0 g1 g2 g3 x3 y0 y1 y2 y3
    have H1 := Lib.hid h1
    have HO1 := Lib.hid hO1
    have hlt1 := h1.lt
    have hlt2 := h2.lt
    clear h1 h2 h3 hX1 hX2 HC hO1 hWx
    go_wp2_with fail
    obtain ⟨wn, hwn⟩ : ∃ wn, wn = ((((w1.setCell ⟨w.heap.size + 1 + 1, 3, none⟩ (.slice A1 ks.length cc)).setCell ⟨w.heap.size + 1, 0, none⟩ (.int .i64 k)).setCell ⟨w.heap.size + 1, 1, none⟩ (.int .i64 n)).setCell ⟨w.heap.size + 1, 2, none⟩ (.string s)).setCell ⟨w.heap.size + 1, 3, none⟩ (.slice A1 ks.length cc) := ⟨_, rfl⟩
    rw [← hwn]
    have hn1 : Blk wn (w.heap.size + 1) #[.int .i64 k, .int .i64 n, .string s, .slice A1 ks.length cc] := by
      have h0 : Blk (w1.setCell ⟨w.heap.size + 1 + 1, 3, none⟩ (.slice A1 ks.length cc)) (w.heap.size + 1) _ := (Below.heap_setCell _ _ _ _ (by show w.heap.size + 1 ≠ w.heap.size + 1 + 1; omega)).trans H1.out
      rw [hwn]
      exact (((h0.set 0 (.int .i64 k)).set 1 (.int .i64 n)).set 2 (.string s)).set 3 (.slice A1 ks.length cc)
    have hsame : ∀ b, b ≠ w.heap.size + 1 → b ≠ w.heap.size + 1 + 1 → wn.heap[b]? = w1.heap[b]? := by
      intro b hb hb2
      rw [hwn]
      rw [Below.heap_setCell _ _ _ b hb, Below.heap_setCell _ _ _ b hb, Below.heap_setCell _ _ _ b hb, Below.heap_setCell _ _ _ b hb, Below.heap_setCell _ _ _ b hb2]
    have hsz : wn.heap.size = w1.heap.size := by rw [hwn]; simp
    have r0 := hn1.cell 0
    have r1 := hn1.cell 1
    have r2 := hn1.cell 2
    have r3 := hn1.cell 3
    simp only [List.getElem?_toArray, List.getElem?_cons_zero, List.getElem?_cons_succ] at r0 r1 r2 r3
    refine bodyPost_ret (v := .agg #[.int .i64 k, .int .i64 n, .string s, .slice A1 ks.length cc]) (by simp [results, Tryz.results10, go_sem, r0, r1, r2, r3]) rfl ?_
    refine ⟨A1, cc, rfl, hcc1, ?_, ?_⟩
    · rw [hsz]
      have h4 := HO1.out
      rw [hsx] at h4
      exact own_wide (own_keep _ _ _ _ (fun b h1 h2 => hsame b (by omega) (by omega)) h4) (by omega) (Nat.le_refl _)
    · refine (hbx.trans (hb1.mono hbx.size)).trans ⟨by rw [hwn]; rfl, by rw [hwn]; rfl, by rw [hwn]; rfl, by omega, fun b hb => hsame b (by omega) (by omega)⟩
end Go.Proofs.YtaclndbilpaboaaGreatDoor
