/-
  LawsEx, OwnLaws, EqEx, OpenEx: these texts one behind the other, as a claim holds at most 60 files.
-/
import Derived.Test.YtfknelkbdoiokaaGreatDoorGB
import Derived.Test.YtfknelkbdoiokaaGreatDoorGC
import Derived.Test.YtfknelkbdoiokaaGreatDoorGD
import Derived.Laws.MakeOwn
import Derived.OpenShut
import Derived.Deep.Slices
import Derived.Deep.Strs
import Derived.Lib.SmallJoins
namespace Go.Proofs.YtfknelkbdoiokaaGreatDoor
open Go.RowKit

mutual
/-- No text and no list is longer than can be. -/
def Ex.fits : Ex → Prop
  | .mk _ _ s ks => s.size ≤ maxLen ∧ ks.length ≤ maxLen ∧ Ex.fitss ks
def Ex.fitss : List Ex → Prop
  | [] => True
  | e :: es => e.fits ∧ Ex.fitss es
end
theorem Ex.fits_mem {x : Ex} {xs : List Ex} (h : Ex.fitss xs) (hx : x ∈ xs) : x.fits := by
  induction xs with
  | nil => cases hx
  | cons y ys ih =>
    simp only [Ex.fitss] at h
    rcases List.mem_cons.1 hx with rfl | hx
    · exact h.1
    · exact ih h.2 hx
theorem Ex.wts_take (ks : List Ex) (j : Nat) (h : j < ks.length) : Ex.wts (ks.take (j + 1)) = Ex.wts (ks.take j) + (1 + ks[j].wt) := by
  rw [List.take_succ_eq_append_getElem h, Ex.wts_append]; simp [Ex.wts]

/-- What is left is told, and it tells that there is not too much. -/
def LeftE (n : Nat) (left : Int) (w : World) (e : Ending) (w' : World) : Prop :=
  ∃ r : Int, e = .returned (.int .i64 r) ∧ (0 ≤ r → r + (n : Int) = left) ∧ r ≤ left ∧ Below w.heap.size w w'

set_option maxRecDepth 100000 in
set_option maxHeartbeats 4000000 in
theorem szExpr_any (e : Ex) : ∀ (A : Option Addr) (c B : Nat) (left : Int) (w : World), e.fits → KidsAt w B A e.kids → e.kids.length ≤ c → B ≤ w.heap.size → 0 ≤ left → left ≤ 2 ^ 40 →
    Calls Tryz.prog 98 #[.agg #[.int .i64 e.kind, .int .i64 e.n, .string e.s, .slice A e.kids.length c], .int .i64 left] w (LeftE e.wt left w) := by
  induction e using Ex.ind with
  | h k n s ks ih =>
    intro A c B left w hfit hA hc hB h0 h1
    simp only [Ex.kind, Ex.n, Ex.s, Ex.kids, Ex.wt] at hA hc ⊢
    simp only [Ex.fits] at hfit
    obtain ⟨hs, hm, hfs⟩ := hfit
    unfold maxLen at hs hm
    have hb0 : Below w.heap.size w (w.alloc (.cells #[.int .i64 k, .int .i64 n, .string s, .slice A ks.length c] 75)) := (Below.refl _ w).alloc (Nat.le_refl _) _
    have HA := Lib.hid hA
    have HI := Lib.hid ih
    have HFS := Lib.hid hfs
    clear hA ih hfs
    -- the list of kids
    have HS := Lib.hid (show ∀ (left : Int) (W : World), Below w.heap.size w W → 0 ≤ left → left ≤ 2 ^ 40 → Calls Tryz.prog 135 #[.slice A ks.length c, .int .i64 left] W (LeftE (Ex.wts ks) left W) by
      intro left W hW h0 h1
      by_cases hbig : left < ks.length
      · have q1 : left - (ks.length : Int) < 0 := by omega
        go_enter Tryz.func135, Tryz.ntmps135
        go_wp2_with fail
        go_ret
        exact ⟨_, rfl, fun h => absurd h (by decide), by omega, Below.refl _ _⟩
      · have q1 : ¬ (left - (ks.length : Int) < 0) := by omega
        go_enter Tryz.func135, Tryz.ntmps135
        go_wp2_with fail
        go_loopw [1, 5] (fun d i wr => ∃ (j : Nat) (r : Int), j ≤ ks.length ∧ 0 ≤ r ∧ i = .int .i64 j ∧ d = .int .i64 r ∧ r + (Ex.wts (ks.take j) : Int) + ((ks.length - j : Nat) : Int) = left ∧ Below W.heap.size W wr) (fun _ i _ => ks.length - (intOf i).toNat)
        case atStart => exact ⟨0, left - ks.length, Nat.zero_le _, by omega, rfl, rfl, by simp [Ex.wts], Below.refl _ _⟩
        case round =>
          obtain ⟨j, r, hj, hr0, rfl, rfl, heq, hBw⟩ := hrel
          have hBB := hW.trans (hBw.mono hW.size)
          by_cases hlt : j < ks.length
          · obtain ⟨g, off, D, c', eA, hg, kid⟩ := (HA.out.keep (hBB.mono hB)).at_ hlt
            subst eA
            have hts := Ex.wts_take ks j hlt
            have hft := Ex.fits_mem HFS.out (List.getElem_mem hlt)
            have hrl : r ≤ left := by omega
            have HC := Lib.hid (HI.out ks[j] (List.getElem_mem hlt) D c' B r wr hft kid.hk kid.hc (Nat.le_trans hB hBB.size) hr0 (by omega))
            generalize ks[j] = x at *
            obtain ⟨k', n', s', ks'⟩ := x
            obtain ⟨c0, c1, c2, c3, hcc, hkk⟩ := kid
            simp only [Ex.kind, Ex.n, Ex.s, Ex.kids] at c0 c1 c2 c3 hcc HC
            have HQ := Lib.hid heq
            have HTS := Lib.hid hts
            have hx : (j : Int) < (ks.length : Int) := by omega
            clear heq hts hkk hft
            go_wp2_with fail
            refine HC.out.mono ?_
            rintro e w1 ⟨r1, rfl, hr1, hr1l, hb1⟩
            by_cases hneg : r1 < 0
            · go_wp2_with fail
              go_ret
              exact ⟨_, rfl, fun h => absurd h (by decide), by omega, hBw.trans (hb1.mono hBw.size)⟩
            · have hr1e := hr1 (by omega)
              have HR := Lib.hid hr1e
              clear hr1 hr1e HC
              go_wp2_with fail
              go_roundw
              case rel => exact ⟨j + 1, r1, by omega, by omega, by go_num, rfl, by have := HQ.out; have := HTS.out; have := HR.out; omega, hBw.trans (hb1.mono hBw.size)⟩
              case measure => simp [intOf]; omega
          · have HQ := Lib.hid heq
            clear heq
            go_wp2_with fail
            go_ret
            refine ⟨r, rfl, fun _ => ?_, ?_, hBw⟩
            · have := HQ.out
              rw [List.take_of_length_le (by omega)] at this
              omega
            · have := HQ.out
              omega)
    by_cases hneg : left - (s.size : Int) < 0
    · go_enter Tryz.func98, Tryz.ntmps98
      go_wp2_with fail
      go_ret
      exact ⟨_, rfl, fun h => absurd h (by decide), by omega, hb0⟩
    · have HC := Lib.hid (HS.out (left - s.size) _ hb0 (by omega) (by omega))
      go_enter Tryz.func98, Tryz.ntmps98
      go_wp2_with fail
      refine HC.out.mono ?_
      rintro e w1 ⟨r1, rfl, hr1, hr1l, hb1⟩
      by_cases hneg1 : r1 < 0
      · go_wp2_with fail
        go_ret
        exact ⟨_, rfl, fun h => absurd h (by decide), by omega, hb0.trans (hb1.mono hb0.size)⟩
      · have HR := Lib.hid (hr1 (by omega))
        clear hr1
        go_wp2_with fail
        go_ret
        exact ⟨r1, rfl, fun _ => by have := HR.out; omega, by omega, hb0.trans (hb1.mono hb0.size)⟩
end Go.Proofs.YtfknelkbdoiokaaGreatDoor

namespace Go.Proofs.YtfknelkbdoiokaaGreatDoor
open Go.RowKit

def zeroC : Array Value := #[.int .i64 0, .int .i64 0, .string ByteArray.empty, .slice none 0 0]
theorem infoEx : (Tryz.prog.info? 25).map (fun i => (i.zero, i.size, i.bytes)) = some (some (.agg zeroC), 4, 56) := by kernel_rfl
theorem run_makeE (n : Nat) (hn : n ≤ 2 ^ 40) (w : World) : (Instr.makeSlice 23 (.int .i64 (n : Int)) (.int .i64 (n : Int))).run Tryz.prog w = .ok (.slice (some ⟨w.heap.size, 0, none⟩) n n) (w.alloc (.cells (madeCells zeroC (n * 4)) 25)) := by
  obtain ⟨i, hi, hzz⟩ := Option.map_eq_some_iff.1 infoEx
  simp only [Prod.mk.injEq] at hzz
  obtain ⟨hz, hs, hb⟩ := hzz
  have hr := run_make (P := Tryz.prog) w 23 25 i _ Tryz.underlying23 hi hz .i64 .i64 n n (by omega) (Int.le_refl _) (by rw [hb]; omega) (by omega)
  rw [hs] at hr
  simp only [Int.toNat_natCast] at hr
  exact hr

/-- A copy of e is handed back, in memory of its own. -/
def Copies (e : Ex) (w : World) (r : Ending) (w' : World) : Prop :=
  ∃ A c, r = .returned (.agg #[.int .i64 e.kind, .int .i64 e.n, .string e.s, .slice A e.kids.length c]) ∧ e.kids.length ≤ c ∧ OwnE w' e w.heap.size w'.heap.size A ∧ Below w.heap.size w w'

set_option maxRecDepth 100000 in
set_option maxHeartbeats 4000000 in
theorem toExpr_any (e : Ex) : ∀ (A : Option Addr) (c B : Nat) (w : World), KidsAt w B A e.kids → e.kids.length ≤ c → B ≤ w.heap.size → e.wt ≤ 2 ^ 40 →
    Calls Tryz.prog 99 #[.agg #[.int .i64 e.kind, .int .i64 e.n, .string e.s, .slice A e.kids.length c]] w (Copies e w) := by
  induction e using Ex.ind with
  | h k n s ks ih =>
    intro A c B w hA hc hB hw
    simp only [Ex.kind, Ex.n, Ex.s, Ex.kids, Ex.wt] at hA hc hw ⊢
    have hlw := Ex.wts_length ks
    have hl : ks.length ≤ 2 ^ 40 := by omega
    have HA := Lib.hid hA
    have HI := Lib.hid ih
    have HWT := Lib.hid (show Ex.wts ks ≤ 2 ^ 40 by omega)
    clear hA ih hw hlw
    have HS := Lib.hid (show ∀ W : World, Below w.heap.size w W → Calls Tryz.prog 136 #[.slice A ks.length c] W fun r W' => ∃ A' c', r = .returned (.slice A' ks.length c') ∧ ks.length ≤ c' ∧ OwnE W' (.mk k n s ks) W.heap.size W'.heap.size A' ∧ Below W.heap.size W W' by
      intro W hW
      have hmk := run_makeE ks.length hl
      go_enter Tryz.func136, Tryz.ntmps136
      go_wp2_with fail
      go_loopw [4] (fun i wr => ∃ j : Nat, j ≤ ks.length ∧ i = .int .i64 j ∧ (∃ cur, Blk wr W.heap.size cur ∧ cur.size = ks.length * 4) ∧ OwnL wr (ks.take j) W.heap.size 0 (W.heap.size + 1) wr.heap.size ∧ Below W.heap.size W wr)
        (fun i _ => ks.length - (intOf i).toNat)
      case atStart => exact ⟨0, Nat.zero_le _, rfl, ⟨_, World.alloc_heap_new W _, by rw [size_madeCells]⟩, by rw [List.take_zero, OwnL]; simp, (Below.refl _ W).alloc (Nat.le_refl _) _⟩
      case round =>
        obtain ⟨j, hj, rfl, ⟨cur, hcur, hcs⟩, hown, hBw⟩ := hrel
        clear hmk
        have hBB := hW.trans (hBw.mono hW.size)
        by_cases hlt : j < ks.length
        · obtain ⟨g, off, D, c', eA, hg, kid⟩ := (HA.out.keep (hBB.mono hB)).at_ hlt
          subst eA
          have hkb : ks[j].wt + 1 ≤ Ex.wts ks := Ex.wt_mem (List.getElem_mem _)
          have HC := Lib.hid (HI.out ks[j] (List.getElem_mem hlt) D c' B wr kid.hk kid.hc (Nat.le_trans hB hBB.size) (by have := HWT.out; omega))
          have HT := Lib.hid (List.take_succ_eq_append_getElem hlt)
          have HO := Lib.hid hown
          have HCU := Lib.hid hcur
          have hlen : (ks.take j).length = j := by simp; omega
          generalize ks[j] = x at *
          obtain ⟨k', n', s', ks'⟩ := x
          obtain ⟨c0, c1, c2, c3, hcc, hkk⟩ := kid
          simp only [Ex.kind, Ex.n, Ex.s, Ex.kids] at c0 c1 c2 c3 hcc
          have hx : (j : Int) < (ks.length : Int) := by omega
          have hx2 : j * 4 + 4 ≤ cur.size := by omega
          clear hkk hown hkb
          go_wp2_with fail
          refine HC.out.mono ?_
          rintro e w1 ⟨A1, cc, rfl, hcc1, hO1, hb1⟩
          have hcur1 : Blk w1 W.heap.size cur := (hb1.block _ hcur.lt).trans hcur
          have e0 : ∃ v, w1.cell? ⟨W.heap.size, j * 4, none⟩ = some v := ⟨cur[j * 4]'(by omega), by rw [hcur1.cell, Array.getElem?_eq_getElem]⟩
          have e1 : ∃ v, w1.cell? ⟨W.heap.size, j * 4 + 1, none⟩ = some v := ⟨cur[j * 4 + 1]'(by omega), by rw [hcur1.cell, Array.getElem?_eq_getElem]⟩
          have e2 : ∃ v, w1.cell? ⟨W.heap.size, j * 4 + 2, none⟩ = some v := ⟨cur[j * 4 + 2]'(by omega), by rw [hcur1.cell, Array.getElem?_eq_getElem]⟩
          have e3 : ∃ v, w1.cell? ⟨W.heap.size, j * 4 + 3, none⟩ = some v := ⟨cur[j * 4 + 3]'(by omega), by rw [hcur1.cell, Array.getElem?_eq_getElem]⟩
          obtain ⟨v0, e0⟩ := e0
          obtain ⟨v1, e1⟩ := e1
          obtain ⟨v2, e2⟩ := e2
          obtain ⟨v3, e3⟩ := e3
          have f0 := hcur1.frozen (j * 4)
          have f1 := hcur1.frozen (j * 4 + 1)
          have f2 := hcur1.frozen (j * 4 + 2)
          have f3 := hcur1.frozen (j * 4 + 3)
          have HC1 := Lib.hid hcur1
          have HO1 := Lib.hid hO1
          clear hcur hcur1 c0 c1 c2 c3 HC hO1
          simp only [Ex.kind, Ex.n, Ex.s, Ex.kids] at hcc1 ⊢
          go_wp2_with fail
          go_roundw
          case rel =>
            obtain ⟨wn, hwn⟩ : ∃ wn, wn = (((w1.setCell ⟨W.heap.size, j * 4, none⟩ (.int .i64 k')).setCell ⟨W.heap.size, j * 4 + 1, none⟩ (.int .i64 n')).setCell ⟨W.heap.size, j * 4 + 2, none⟩ (.string s')).setCell ⟨W.heap.size, j * 4 + 3, none⟩ (.slice A1 ks'.length cc) := ⟨_, rfl⟩
            rw [← hwn]
            have hbl : Blk wn W.heap.size ((((cur.setIfInBounds (j * 4) (.int .i64 k')).setIfInBounds (j * 4 + 1) (.int .i64 n')).setIfInBounds (j * 4 + 2) (.string s')).setIfInBounds (j * 4 + 3) (.slice A1 ks'.length cc)) := by
              rw [hwn]; exact (((HC1.out.set _ _).set _ _).set _ _).set _ _
            have hsame : ∀ b, b ≠ W.heap.size → wn.heap[b]? = w1.heap[b]? := by
              intro b hb
              rw [hwn]
              rw [Below.heap_setCell _ _ _ b hb, Below.heap_setCell _ _ _ b hb, Below.heap_setCell _ _ _ b hb, Below.heap_setCell _ _ _ b hb]
            have hsz : wn.heap.size = w1.heap.size := by rw [hwn]; simp
            have hcell : ∀ i, i < j * 4 → wn.cell? ⟨W.heap.size, i, none⟩ = w1.cell? ⟨W.heap.size, i, none⟩ := by
              intro i hi
              rw [hbl.cell, HC1.out.cell]
              simp only [Array.getElem?_setIfInBounds]
              rw [if_neg (by omega), if_neg (by omega), if_neg (by omega), if_neg (by omega)]
            refine ⟨j + 1, by omega, by go_num, ⟨_, hbl, by simp [hcs]⟩, ?_, ?_⟩
            · rw [HT.out]
              have hprev : OwnL wn (ks.take j) W.heap.size 0 (W.heap.size + 1) wr.heap.size := by
                refine ownL_keep (w := wr) (fun i _ hi => ?_) (fun b h1 h2 => ?_) HO.out
                · rw [hlen] at hi
                  rw [hcell i (by omega)]
                  exact World.cell?_of_block (a := ⟨W.heap.size, i, none⟩) (hb1.block _ HCU.out.lt)
                · rw [hsame b (by omega)]
                  exact hb1.block b h2
              rw [hsz]
              refine ownL_snoc hprev (D := A1) (c := cc) ?_ (own_keep _ _ _ _ (fun b h1 h2 => hsame b (by have := HCU.out.lt; omega)) HO1.out)
              rw [hlen, Nat.zero_add, Nat.mul_comm 4 j]
              refine ⟨?_, ?_, ?_, ?_, hcc1⟩
              all_goals (rw [hbl.cell]; simp [Array.getElem?_setIfInBounds, Ex.kind, Ex.n, Ex.s, Ex.kids]; omega)
            · refine (hBw.trans (hb1.mono hBw.size)).trans ⟨by rw [hwn]; rfl, by rw [hwn]; rfl, by rw [hwn]; rfl, by omega, fun b hb => hsame b (by omega)⟩
          case measure => simp [intOf]; omega
        · have HO := Lib.hid hown
          have HCU := Lib.hid hcur
          clear hown hcur
          go_wp2_with fail
          go_ret
          refine ⟨_, _, rfl, Nat.le_refl _, ?_, hBw⟩
          have h2 := HO.out
          rw [List.take_of_length_le (by omega)] at h2
          rw [OwnE]
          exact .inr ⟨W.heap.size, W.heap.size + 1, wr.heap.size, rfl, Nat.le_refl _, HCU.out.lt, by omega, Nat.le_refl _, .inl (by omega), ⟨cur, HCU.out⟩, h2⟩)
    obtain ⟨Wx, hWx⟩ : ∃ Wx, Wx = ((w.alloc (.cells #[.int .i64 k, .int .i64 n, .string s, .slice A ks.length c] 75)).alloc (.cells #[.int .i64 0, .int .i64 0, .string { data := #[] }, .slice none 0 0] 25)).alloc (.cells #[.int .i64 k, .int .i64 n, .string s, .slice none 0 0] 25) := ⟨_, rfl⟩
    have hbx : Below w.heap.size w Wx := by rw [hWx]; exact (((Below.refl _ w).alloc (Nat.le_refl _) _).alloc (by simp) _).alloc (by simp; omega) _
    have hsx : Wx.heap.size = w.heap.size + 3 := by rw [hWx]; simp
    have hX2 : Blk Wx (w.heap.size + 1 + 1) #[.int .i64 k, .int .i64 n, .string s, .slice none 0 0] := by
      have := World.alloc_heap_new ((w.alloc (.cells #[.int .i64 k, .int .i64 n, .string s, .slice A ks.length c] 75)).alloc (.cells #[.int .i64 0, .int .i64 0, .string { data := #[] }, .slice none 0 0] 25)) (.cells #[.int .i64 k, .int .i64 n, .string s, .slice none 0 0] 25)
      rw [World.size_alloc, World.size_alloc, ← hWx] at this
      exact this
    have hX1 : Blk Wx (w.heap.size + 1) #[.int .i64 0, .int .i64 0, .string { data := #[] }, .slice none 0 0] := by
      have := World.alloc_heap_new (w.alloc (.cells #[.int .i64 k, .int .i64 n, .string s, .slice A ks.length c] 75)) (.cells #[.int .i64 0, .int .i64 0, .string { data := #[] }, .slice none 0 0] 25)
      rw [World.size_alloc] at this
      unfold Blk
      rw [hWx, Below.heap_alloc _ _ _ (by simp)]
      exact this
    have HC := Lib.hid (HS.out Wx hbx)
    clear HS HI HA
    go_enter Tryz.func99, Tryz.ntmps99
    go_wp2_with fail
    rw [← hWx]
    refine HC.out.mono ?_
    rintro r w1 ⟨A1, cc, rfl, hcc1, hO1, hb1⟩
    have h2 : Blk w1 (w.heap.size + 1 + 1) _ := (hb1.block _ hX2.lt).trans hX2
    have h1 : Blk w1 (w.heap.size + 1) _ := (hb1.block _ hX1.lt).trans hX1
    have f3 := h2.frozen 3
    have x3 := h2.cell 3
    have h3 := h2.set 3 (.slice A1 ks.length cc)
    have g0 := h3.cell 0
    have g1 := h3.cell 1
    have g2 := h3.cell 2
    have g3 := h3.cell 3
    have y0 := h1.cell 0
    have y1 := h1.cell 1
    have y2 := h1.cell 2
    have y3 := h1.cell 3
    have z0 := h1.frozen 0
    have z1 := h1.frozen 1
    have z2 := h1.frozen 2
    have z3 := h1.frozen 3
    simp only [List.setIfInBounds_toArray, List.set_cons_succ, List.set_cons_zero, List.getElem?_toArray, List.getElem?_cons_zero, List.getElem?_cons_succ] at g0 g1 g2 g3 x3 y0 y1 y2 y3
    have H1 := Lib.hid h1
    have HO1 := Lib.hid hO1
    have hlt1 := h1.lt
    have hlt2 := h2.lt
    clear h1 h2 h3 hX1 hX2 HC hO1 hWx
    go_wp2_with fail
    obtain ⟨wn, hwn⟩ : ∃ wn, wn = ((((w1.setCell ⟨w.heap.size + 1 + 1, 3, none⟩ (.slice A1 ks.length cc)).setCell ⟨w.heap.size + 1, 0, none⟩ (.int .i64 k)).setCell ⟨w.heap.size + 1, 1, none⟩ (.int .i64 n)).setCell ⟨w.heap.size + 1, 2, none⟩ (.string s)).setCell ⟨w.heap.size + 1, 3, none⟩ (.slice A1 ks.length cc) := ⟨_, rfl⟩
    rw [← hwn]
    have hn1 : Blk wn (w.heap.size + 1) #[.int .i64 k, .int .i64 n, .string s, .slice A1 ks.length cc] := by
      have h0 : Blk (w1.setCell ⟨w.heap.size + 1 + 1, 3, none⟩ (.slice A1 ks.length cc)) (w.heap.size + 1) _ := (Below.heap_setCell _ _ _ _ (by show w.heap.size + 1 ≠ w.heap.size + 1 + 1; omega)).trans H1.out
      rw [hwn]
      exact (((h0.set 0 (.int .i64 k)).set 1 (.int .i64 n)).set 2 (.string s)).set 3 (.slice A1 ks.length cc)
    have hsame : ∀ b, b ≠ w.heap.size + 1 → b ≠ w.heap.size + 1 + 1 → wn.heap[b]? = w1.heap[b]? := by
      intro b hb hb2
      rw [hwn]
      rw [Below.heap_setCell _ _ _ b hb, Below.heap_setCell _ _ _ b hb, Below.heap_setCell _ _ _ b hb, Below.heap_setCell _ _ _ b hb, Below.heap_setCell _ _ _ b hb2]
    have hsz : wn.heap.size = w1.heap.size := by rw [hwn]; simp
    have r0 := hn1.cell 0
    have r1 := hn1.cell 1
    have r2 := hn1.cell 2
    have r3 := hn1.cell 3
    simp only [List.getElem?_toArray, List.getElem?_cons_zero, List.getElem?_cons_succ] at r0 r1 r2 r3
    refine bodyPost_ret (v := .agg #[.int .i64 k, .int .i64 n, .string s, .slice A1 ks.length cc]) (by simp [results, Tryz.results99, go_sem, r0, r1, r2, r3]) rfl ?_
    refine ⟨A1, cc, rfl, hcc1, ?_, ?_⟩
    · rw [hsz]
      have h4 := HO1.out
      rw [hsx] at h4
      exact own_wide (own_keep _ _ _ _ (fun b h1 h2 => hsame b (by omega) (by omega)) h4) (by omega) (Nat.le_refl _)
    · refine (hbx.trans (hb1.mono hbx.size)).trans ⟨by rw [hwn]; rfl, by rw [hwn]; rfl, by rw [hwn]; rfl, by omega, fun b hb => hsame b (by omega) (by omega)⟩
end Go.Proofs.YtfknelkbdoiokaaGreatDoor

namespace Go.Proofs.YtfknelkbdoiokaaGreatDoor
open Go.RowKit

set_option maxRecDepth 100000 in
set_option maxHeartbeats 4000000 in
theorem eqExpr_same (e : Ex) : ∀ (A A' : Option Addr) (c c' B : Nat) (w : World), KidsAt w B A e.kids → KidsAt w B A' e.kids → e.kids.length ≤ c → e.kids.length ≤ c' → B ≤ w.heap.size → e.wt ≤ 2 ^ 40 →
    Calls Tryz.prog 85 #[.agg #[.int .i64 e.kind, .int .i64 e.n, .string e.s, .slice A e.kids.length c], .agg #[.int .i64 e.kind, .int .i64 e.n, .string e.s, .slice A' e.kids.length c']] w fun r w' => r = .returned (.bool true) ∧ Below w.heap.size w w' := by
  induction e using Ex.ind with
  | h k n s ks ih =>
    intro A A' c c' B w hA hA' hc hc' hB hw
    simp only [Ex.kind, Ex.n, Ex.s, Ex.kids, Ex.wt] at hA hA' hc hc' hw ⊢
    have hlw := Ex.wts_length ks
    have hl : ks.length ≤ 2 ^ 40 := by omega
    have HA := Lib.hid hA
    have HA' := Lib.hid hA'
    have HI := Lib.hid ih
    have HWT := Lib.hid (show Ex.wts ks ≤ 2 ^ 40 by omega)
    clear hA hA' ih hw hlw
    have HS := Lib.hid (show ∀ W : World, Below w.heap.size w W → Calls Tryz.prog 130 #[.slice A ks.length c, .slice A' ks.length c'] W fun r W' => r = .returned (.bool true) ∧ Below W.heap.size W W' by
      intro W hW
      have q0 : ((ks.length : Int) != (ks.length : Int)) = false := by simp
      go_enter Tryz.func130, Tryz.ntmps130
      go_wp2_with fail
      go_loopw [5] (fun i wr => ∃ j : Nat, j ≤ ks.length ∧ i = .int .i64 j ∧ Below W.heap.size W wr) (fun i _ => ks.length - (intOf i).toNat)
      case atStart => exact ⟨0, Nat.zero_le _, rfl, Below.refl _ _⟩
      case round =>
        obtain ⟨j, hj, rfl, hBw⟩ := hrel
        have hBB := hW.trans (hBw.mono hW.size)
        by_cases hlt : j < ks.length
        · obtain ⟨g, off, D, m1, eA, hg, kid⟩ := (HA.out.keep (hBB.mono hB)).at_ hlt
          obtain ⟨g', off', D', m1', eA', hg', kid'⟩ := (HA'.out.keep (hBB.mono hB)).at_ hlt
          subst eA eA'
          have hkb : ks[j].wt + 1 ≤ Ex.wts ks := Ex.wt_mem (List.getElem_mem _)
          have HC := Lib.hid (fun (V : World) (hV : Below wr.heap.size wr V) => HI.out ks[j] (List.getElem_mem hlt) D D' m1 m1' B V (kid.hk.keep (hV.mono (Nat.le_trans hB hBB.size))) (kid'.hk.keep (hV.mono (Nat.le_trans hB hBB.size))) kid.hc kid'.hc (Nat.le_trans (Nat.le_trans hB hBB.size) hV.size) (by have := HWT.out; omega))
          generalize ks[j] = x at *
          obtain ⟨k', n', s', ks'⟩ := x
          obtain ⟨c0, c1, c2, c3, hcc, hkk⟩ := kid
          obtain ⟨b0, b1, b2, b3, hbb, hkk'⟩ := kid'
          simp only [Ex.kind, Ex.n, Ex.s, Ex.kids] at c0 c1 c2 c3 hcc b0 b1 b2 b3 hbb HC
          have hgl : g < wr.heap.size := Nat.lt_of_lt_of_le hg (Nat.le_trans hB hBB.size)
          have hgl' : g' < wr.heap.size := Nat.lt_of_lt_of_le hg' (Nat.le_trans hB hBB.size)
          have hx : (j : Int) < (ks.length : Int) := by omega
          clear hkk hkk' hkb
          go_wp2_with fail
          go_region_held3 (fun w' => w'.cell? ⟨g, off + j * 4, none⟩ = some (.int .i64 k') ∧ w'.cell? ⟨g, off + j * 4 + 1, none⟩ = some (.int .i64 n') ∧ w'.cell? ⟨g, off + j * 4 + 2, none⟩ = some (.string s') ∧ w'.cell? ⟨g, off + j * 4 + 3, none⟩ = some (.slice D ks'.length m1) ∧ w'.cell? ⟨g', off' + j * 4, none⟩ = some (.int .i64 k') ∧ w'.cell? ⟨g', off' + j * 4 + 1, none⟩ = some (.int .i64 n') ∧ w'.cell? ⟨g', off' + j * 4 + 2, none⟩ = some (.string s') ∧ w'.cell? ⟨g', off' + j * 4 + 3, none⟩ = some (.slice D' ks'.length m1') ∧ Below wr.heap.size wr w')
            (first | exact ⟨c0, c1, c2, c3, b0, b1, b2, b3, (Below.refl _ wr).drew⟩ | exact ⟨(hb2.cell (p := ⟨g, off + j * 4, none⟩) hgl).trans c0, (hb2.cell (p := ⟨g, off + j * 4 + 1, none⟩) hgl).trans c1, (hb2.cell (p := ⟨g, off + j * 4 + 2, none⟩) hgl).trans c2, (hb2.cell (p := ⟨g, off + j * 4 + 3, none⟩) hgl).trans c3, (hb2.cell (p := ⟨g', off' + j * 4, none⟩) hgl').trans b0, (hb2.cell (p := ⟨g', off' + j * 4 + 1, none⟩) hgl').trans b1, (hb2.cell (p := ⟨g', off' + j * 4 + 2, none⟩) hgl').trans b2, (hb2.cell (p := ⟨g', off' + j * 4 + 3, none⟩) hgl').trans b3, hb2⟩)
            (first | (go_at_call 85; refine (HC.out _ (Below.refl _ wr).drew).mono ?_; rintro e w2 ⟨rfl, hb2'⟩; have hb2 : Below wr.heap.size wr w2 := (Below.refl _ wr).drew.trans hb2'))
          rename_i hh
          go_wp2_with fail
          go_roundw
          case rel => exact ⟨j + 1, by omega, by go_num, hBw.trans (hb2.mono hBw.size)⟩
          case measure => simp [intOf]; omega
        · go_wp2_with fail
          go_ret
          exact ⟨rfl, hBw⟩)
    have q1 : (k != k) = false := by simp
    have q2 : (n != n) = false := by simp
    have q3 : (!s.toList == s.toList) = false := by simp
    have hb0 : Below w.heap.size w ((w.alloc (.cells #[.int .i64 k, .int .i64 n, .string s, .slice A ks.length c] 25)).alloc (.cells #[.int .i64 k, .int .i64 n, .string s, .slice A' ks.length c'] 25)) := ((Below.refl _ w).alloc (Nat.le_refl _) _).alloc (by simp) _
    have HC := Lib.hid (HS.out _ hb0)
    go_enter Tryz.func85, Tryz.ntmps85
    go_wp2_with fail
    refine HC.out.mono ?_
    rintro r w1 ⟨rfl, hb1⟩
    go_wp2_with fail
    go_ret
    exact ⟨rfl, hb0.trans (hb1.mono hb0.size)⟩
end Go.Proofs.YtfknelkbdoiokaaGreatDoor

namespace Go.Proofs.YtfknelkbdoiokaaGreatDoor
open Go.RowKit Go.Deep Go.WideShapes

theorem cellsEx : Tryz.prog.cellsOf 75 = 4 := by kernel_rfl
theorem cellsExI : Tryz.prog.cellsOf 3 = 1 := by kernel_rfl
theorem cellsExS : Tryz.prog.cellsOf 9 = 1 := by kernel_rfl
theorem cellsExK : Tryz.prog.cellsOf 73 = 1 := by kernel_rfl
instance : Inhabited Ex := ⟨Ex.zero⟩

theorem fitss_of {ks : List Ex} (h : ∀ e ∈ ks, e.fits) : Ex.fitss ks := by
  induction ks with
  | nil => trivial
  | cons x xs ih => exact ⟨h x (by simp), ih (fun e he => h e (by simp [he]))⟩
/-- What came in is this one. -/
def InEx (w : World) (A : Option Addr) (c : Nat) (e : Ex) : Prop := e.fits ∧ KidsAt w w.heap.size A e.kids ∧ e.kids.length ≤ c

set_option maxRecDepth 100000 in
theorem open_kids {H : Type} {enc : TypeId × Value → H} {w : World} {base : Nat} {spare : Nat → Bool} {held : Bool} : ∀ (fuel : Nat) (A : Option Addr) (len cap : Nat) (x : DataW H × List MemPlace),
    DataW.trod enc Tryz.prog w base spare held fuel 73 [.slice A len cap] = some x → ∃ ks : List Ex, ks.length = len ∧ KidsAt w w.heap.size A ks ∧ Ex.fitss ks ∧ len ≤ maxLen ∧ len ≤ cap := by
  intro fuel
  induction fuel using Nat.strongRecOn with
  | _ fuel ih =>
    intro A len cap x h
    rcases DataW.trod_slice Tryz.underlying73 h with ⟨h0, _⟩ | ⟨a, l, c, elems, rest, n, hn, h0, _, hb, hl, hm, hlen, hel, _, _⟩
    · simp at h0
      obtain ⟨rfl, rfl, rfl⟩ := h0
      exact ⟨[], rfl, .nil, trivial, by simp [maxLen], Nat.le_refl _⟩
    · simp at h0
      obtain ⟨rfl, rfl, rfl⟩ := h0
      have each : ∀ i, i < len → ∃ q : Ex × Option Addr × Nat, w.cell? (a.add (i * 4)) = some (.int .i64 q.1.kind) ∧ w.cell? (a.add (i * 4 + 1)) = some (.int .i64 q.1.n) ∧ w.cell? (a.add (i * 4 + 2)) = some (.string q.1.s) ∧ w.cell? (a.add (i * 4 + 3)) = some (.slice q.2.1 q.1.kids.length q.2.2) ∧ q.1.kids.length ≤ q.2.2 ∧ KidsAt w w.heap.size q.2.1 q.1.kids ∧ q.1.fits := by
        intro i hi
        have hq := hel i hi
        rw [List.getElem?_eq_getElem (by omega)] at hq
        obtain ⟨cs', h1, h2⟩ := Option.bind_eq_some_iff.1 hq
        rw [cellsEx] at h1
        obtain ⟨_, hcl, hcell⟩ := World.cells?_some h1
        obtain ⟨xs, n', hn', _, _, hxl, hf⟩ := DataW.trod_struct Tryz.underlying75 h2
        match cs', hcl with
        | [v0, v1, v2, v3], _ =>
          have e0 := hcell 0 (by omega)
          have e1 := hcell 1 (by omega)
          have e2 := hcell 2 (by omega)
          have e3 := hcell 3 (by omega)
          rw [add_add] at e0 e1 e2 e3
          have f0 := hf 0 _ rfl
          have f1 := hf 1 _ rfl
          have f2 := hf 2 _ rfl
          have f3 := hf 3 _ rfl
          simp only [List.size_toArray, List.length_cons, List.length_nil] at hxl
          rw [List.getElem?_eq_getElem (by omega)] at f0 f1 f2 f3
          simp [cellsExI, cellsExS, cellsExK] at f0 f1 f2 f3
          obtain ⟨k0, r0, _, _⟩ := DataW.trod_int Tryz.underlying3 f0
          obtain ⟨k1, r1, _, _⟩ := DataW.trod_int Tryz.underlying3 f1
          obtain ⟨k2, r2, _, hs⟩ := DataW.trod_string Tryz.underlying9 f2
          simp at r0 r1 r2
          subst r0 r1 r2
          obtain ⟨A', len', cap', rfl⟩ : ∃ A' len' cap', v3 = .slice A' len' cap' := by
            rcases DataW.trod_slice Tryz.underlying73 f3 with ⟨h0, _⟩ | ⟨a', l', c', _, _, _, _, h0, _⟩
            · simp at h0; exact ⟨_, _, _, h0⟩
            · simp at h0; exact ⟨_, _, _, h0⟩
          obtain ⟨ks', l1, l2, l3, l4, l5⟩ := ih n' (by omega) A' len' cap' _ f3
          subst l1
          exact ⟨(.mk k0 k1 k2 ks', A', cap'), by simpa [Ex.kind] using e0, by simpa [Ex.n] using e1, by simpa [Ex.s] using e2, by simpa [Ex.kids] using e3, l5, l2, by rw [Ex.fits]; exact ⟨hs, l4, l3⟩⟩
      obtain ⟨q, hq⟩ := choose_lt each
      refine ⟨(List.range len).map (fun i => (q i).1), by simp, ?_, fitss_of (fun e he => ?_), by omega, hl⟩
      · by_cases h0 : len = 0
        · subst h0; exact .nil
        · obtain ⟨b, off, spot⟩ := a
          have hspot : spot = none := by simpa [Addr.add] using World.cell?_spot (hq 0 (by omega)).1
          subst hspot
          have hb : b < w.heap.size := by
            have h1 := (hq 0 (by omega)).1
            rcases Nat.lt_or_ge b w.heap.size with h | h
            · exact h
            · simp [World.cell?, Addr.add, Array.getElem?_eq_none h] at h1
          refine KidsAt.of hb fun j hj => ?_
          have hj' : j < len := by simpa using hj
          obtain ⟨c0, c1, c2, c3, c4, c5, _⟩ := hq j hj'
          rw [add_plain] at c0 c1 c2 c3
          refine ⟨(q j).2.1, (q j).2.2, ?_, ?_, ?_, ?_, ?_, ?_⟩ <;> simp only [List.getElem_map, List.getElem_range]
          · exact c0
          · exact c1
          · exact c2
          · exact c3
          · exact c4
          · exact c5
      · obtain ⟨i, hi, rfl⟩ := List.mem_map.1 he
        exact (hq i (List.mem_range.1 hi)).2.2.2.2.2.2

set_option maxRecDepth 100000 in
theorem open_ex {H : Type} {enc : TypeId × Value → H} {w : World} {base b0 : Nat} {r : Reach} {spare : Nat → Bool} {held : Bool} {v : Value} {d : DataW H} {p : List MemPlace} (hv : Value.okWide Tryz.prog w r b0 75 v) (h : DataW.Trod enc Tryz.prog w base spare held 75 v d p) :
    ∃ (e : Ex) (A : Option Addr) (c : Nat), v = .agg #[.int .i64 e.kind, .int .i64 e.n, .string e.s, .slice A e.kids.length c] ∧ InEx w A c e := by
  obtain ⟨v0, v1, v2, v3, y0, y1, y2, y3, n, rfl, _, _, f0, f1, f2, f3⟩ := Joins.open_agg4 Tryz.underlying75 (by kernel_rfl) cellsEx hv h
  obtain ⟨k0, r0, _, _⟩ := DataW.trod_int Tryz.underlying3 f0
  obtain ⟨k1, r1, _, _⟩ := DataW.trod_int Tryz.underlying3 f1
  obtain ⟨k2, r2, _, hs⟩ := DataW.trod_string Tryz.underlying9 f2
  simp at r0 r1 r2
  subst r0 r1 r2
  obtain ⟨A', len', cap', rfl⟩ : ∃ A' len' cap', v3 = .slice A' len' cap' := by
    rcases DataW.trod_slice Tryz.underlying73 f3 with ⟨h0, _⟩ | ⟨a', l', c', _, _, _, _, h0, _⟩
    · simp at h0; exact ⟨_, _, _, h0⟩
    · simp at h0; exact ⟨_, _, _, h0⟩
  obtain ⟨ks', l1, l2, l3, l4, l5⟩ := open_kids n A' len' cap' _ f3
  subst l1
  exact ⟨.mk k0 k1 k2 ks', A', cap', rfl, by rw [Ex.fits]; exact ⟨hs, l4, l3⟩, l2, l5⟩
end Go.Proofs.YtfknelkbdoiokaaGreatDoor
