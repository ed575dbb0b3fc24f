/-
  The contracts of the model's l5Some and l5Bent: a line that is drawn, one in ten bent, for all codes.
-/
import Derived.Test.YtabignplhkbcpaaGreatDoorGT
import Derived.Test.YtabignplhkbcpaaGreatDoorDeed
namespace Go.Proofs.YtabignplhkbcpaaGreatDoor
open Go.RowKit

/-- Kids in blocks of one's own, from this block on. -/
def OwnIn (lo0 : Nat) (W : World) (e : Ex) (A : Option Addr) : Prop := ∃ lo hi, lo0 ≤ lo ∧ hi ≤ W.heap.size ∧ OwnE W e lo hi A
/-- The same, and a block lies beside them. -/
def OwnOut (lo0 b : Nat) (W : World) (e : Ex) (A : Option Addr) : Prop := ∃ lo hi, lo0 ≤ lo ∧ hi ≤ W.heap.size ∧ (hi ≤ b ∨ b < lo) ∧ OwnE W e lo hi A
theorem OwnOut.keep {lo0 b : Nat} {W W' : World} {e : Ex} {A : Option Addr} (h : OwnOut lo0 b W e A) (hs : W.heap.size ≤ W'.heap.size) (hk : ∀ k, lo0 ≤ k → k < W.heap.size → k ≠ b → W'.heap[k]? = W.heap[k]?) : OwnOut lo0 b W' e A := by
  obtain ⟨lo, hi, h1, h2, h3, h4⟩ := h
  exact ⟨lo, hi, h1, by omega, h3, own_keep _ _ _ _ (fun k q1 q2 => hk k (by omega) (by omega) (by omega)) h4⟩
theorem own_empty (W : World) (k n : Int) (s : ByteArray) (lo0 b : Nat) (hb : lo0 ≤ b) (hb2 : b ≤ W.heap.size) (A : Option Addr) : OwnOut lo0 b W (.mk k n s []) A := ⟨b, b, hb, hb2, .inl (Nat.le_refl _), own_nil _ _ _ _ _ _ _ (Nat.le_refl _)⟩
/-- A line that was drawn, in memory of its own. -/
def DrewS (k m : Nat) (w : World) (B g : Nat) (A0 : Option Addr) (len cap p : Nat) (r : Ending) (w' : World) : Prop :=
  ∃ (s : St) (A1 A2 : Option Addr) (c1 c2 : Nat), r = .returned (stV s A1 A2 c1 c2) ∧ s.e.kids.length ≤ c1 ∧ s.t.kids.length ≤ c2 ∧ OwnIn w.heap.size w' s.e A1 ∧ OwnIn w.heap.size w' s.t A2 ∧ s.wt ≤ m ∧ Read w B g A0 len cap p k w'
/-- The same; what is reckoned in it has the shape of one. -/
def DrewSP (k m : Nat) (w : World) (B g : Nat) (A0 : Option Addr) (len cap p : Nat) (r : Ending) (w' : World) : Prop :=
  ∃ (s : St) (A1 A2 : Option Addr) (c1 c2 : Nat), r = .returned (stV s A1 A2 c1 c2) ∧ s.e.kids.length ≤ c1 ∧ s.t.kids.length ≤ c2 ∧ OwnIn w.heap.size w' s.e A1 ∧ OwnIn w.heap.size w' s.t A2 ∧ s.wt ≤ m ∧ (((0 ≤ s.kind ∧ s.kind ≤ 3) ∧ (s.kind = 0 ∨ ∃ q : Pt, q.ex = s.e)) ∧ (s.kind = 3 → ∃ q : Pt, q.ex = s.t)) ∧ Read w B g A0 len cap p k w'
theorem DrewSP.drop {k m : Nat} {w : World} {B g : Nat} {A0 : Option Addr} {len cap p : Nat} {r : Ending} {w' : World} (h : DrewSP k m w B g A0 len cap p r w') : DrewS k m w B g A0 len cap p r w' := by
  obtain ⟨s, A1, A2, c1, c2, h1, h2, h3, h4, h5, h6, _, h7⟩ := h
  exact ⟨s, A1, A2, c1, c2, h1, h2, h3, h4, h5, h6, h7⟩
theorem own_none {w w' : World} {B g : Nat} {A0 : Option Addr} {len cap p k : Nat} (h : Read w B g A0 len cap p k w') : OwnIn w.heap.size w' Ex.zero none := by
  obtain ⟨_, _, _, _, hg⟩ := h
  exact ⟨w.heap.size, w.heap.size, Nat.le_refl _, hg.size, own_nil _ _ _ _ _ _ _ (Nat.le_refl _)⟩
def zeros : Array Value := #[.int .i64 0, .string { data := #[] }, .string { data := #[] }, .int .i64 0, .int .i64 0, .string { data := #[] }, .slice none 0 0, .int .i64 0, .int .i64 0, .string { data := #[] }, .slice none 0 0]
/-- How things stand while a line is drawn: the result's box is laid, and the line lies in a box of its own. -/
structure SW (w : World) (B g : Nat) (A0 : Option Addr) (len cap q b3 : Nat) (cur : Array Value) (e t : Ex) (A1 A2 : Option Addr) (W : World) : Prop where
  rd : Rd W B g A0 len cap q
  gr : w.grownBy W (some g)
  ret : BlkS W w.heap.size #[.int .i64 0, .string { data := #[] }, .string { data := #[] }, .int .i64 0, .int .i64 0, .string { data := #[] }, .slice none 0 0, .int .i64 0, .int .i64 0, .string { data := #[] }, .slice none 0 0]
  box : BlkS W b3 cur
  hb : w.heap.size < b3
  o1 : OwnOut (w.heap.size + 1) b3 W e A1
  o2 : OwnOut (w.heap.size + 1) b3 W t A2
theorem blkS_grown {w w' : World} {g b : Nat} {cur : Array Value} (h : BlkS w b cur) (hg : w.grownBy w' (some g)) (hne : b ≠ g) : BlkS w' b cur := (hg.block b h.lt (fun e => hne (by injection e))).trans h
theorem SW.grow {w W W' : World} {B g : Nat} {A0 : Option Addr} {len cap q q' b3 : Nat} {cur : Array Value} {e t : Ex} {A1 A2 : Option Addr} (h : SW w B g A0 len cap q b3 cur e t A1 A2 W) (hgw : g < w.heap.size) (hr : Rd W' B g A0 len cap q') (hg : W.grownBy W' (some g)) : SW w B g A0 len cap q' b3 cur e t A1 A2 W' :=
  ⟨hr, grown_trans h.gr hg, blkS_grown h.ret hg (by omega), blkS_grown h.box hg (by have := h.hb; omega), h.hb, h.o1.keep hg.size (fun k q1 q2 _ => hg.block k q2 (fun e => by injection e with e; omega)), h.o2.keep hg.size (fun k q1 q2 _ => hg.block k q2 (fun e => by injection e with e; omega))⟩
theorem SW.set {w W : World} {B g : Nat} {A0 : Option Addr} {len cap q b3 : Nat} {cur : Array Value} {e t : Ex} {A1 A2 : Option Addr} (h : SW w B g A0 len cap q b3 cur e t A1 A2 W) (hgw : g < w.heap.size) (i : Nat) (v : Value) : SW w B g A0 len cap q b3 (cur.setIfInBounds i v) e t A1 A2 (W.setCell ⟨b3, i, none⟩ v) := by
  have hb := h.hb
  have hsame : ∀ j, j ≠ b3 → (W.setCell ⟨b3, i, none⟩ v).heap[j]? = W.heap[j]? := fun j hj => Below.heap_setCell _ _ _ j hj
  have hz : (W.setCell ⟨b3, i, none⟩ v).heap.size = W.heap.size := by simp
  have hB := h.rd.2.1
  exact ⟨rd_keep h.rd (hsame g (by omega)) (fun k hk => hsame k (by omega)), ⟨h.gr.os, h.gr.tape, h.gr.output, by rw [hz]; exact h.gr.size, fun j hj hne => (hsame j (by omega)).trans (h.gr.block j hj hne)⟩, (hsame _ (by omega)).trans h.ret, h.box.set i v, hb, h.o1.keep (by rw [hz]; exact Nat.le_refl _) (fun k _ _ hk => hsame k hk), h.o2.keep (by rw [hz]; exact Nat.le_refl _) (fun k _ _ hk => hsame k hk)⟩
/-- What was drawn behind all takes the place of what is reckoned second. -/
theorem SW.second {w W W' : World} {B g : Nat} {A0 : Option Addr} {len cap q b3 : Nat} {cur : Array Value} {e t x : Ex} {A1 A2 A3 : Option Addr} (h : SW w B g A0 len cap q b3 cur e t A1 A2 W') (hb3 : b3 < W.heap.size) (ho : OwnE W' x W.heap.size W'.heap.size A3) : SW w B g A0 len cap q b3 cur e x A1 A3 W' :=
  ⟨h.rd, h.gr, h.ret, h.box, h.hb, h.o1, ⟨W.heap.size, W'.heap.size, by have := h.hb; omega, Nat.le_refl _, .inr hb3, ho⟩⟩
theorem SW.finish {w W wn : World} {B g : Nat} {A0 : Option Addr} {len cap p q b3 K : Nat} {cur : Array Value} {e t : Ex} {A1 A2 : Option Addr} {vs : List Value} (h : SW w B g A0 len cap q b3 cur e t A1 A2 W) (hl : vs.length = 11) (hwn : wn = setAll W w.heap.size 0 vs) (hgw : g < w.heap.size) (hq1 : p ≤ q) (hq2 : q ≤ p + K) :
    BlkS wn w.heap.size vs.toArray ∧ Read w B g A0 len cap p K wn ∧ OwnIn w.heap.size wn e A1 ∧ OwnIn w.heap.size wn t A2 := by
  have hb := h.hb
  have hsame : ∀ j, j ≠ w.heap.size → wn.heap[j]? = W.heap[j]? := fun j hj => by rw [hwn]; exact setAll_other _ _ _ _ hj
  have hz : wn.heap.size = W.heap.size := by rw [hwn]; exact setAll_size _ _ _ _
  have ho := setAll_os w.heap.size vs 0 W
  rw [← hwn] at ho
  have hB := h.rd.2.1
  refine ⟨?_, ⟨q, hq1, hq2, rd_keep h.rd (hsame g (by omega)) (fun k hk => hsame k (by omega)), ⟨ho.1.trans h.gr.os, ho.2.1.trans h.gr.tape, ho.2.2.trans h.gr.output, by rw [hz]; exact h.gr.size, fun j hj hne => (hsame j (by omega)).trans (h.gr.block j hj hne)⟩⟩, ?_, ?_⟩
  · have := setAll_blk vs 0 _ W h.ret (by rw [hl]; rfl)
    rw [hwn]
    simpa using this
  · obtain ⟨lo, hi, h1, h2, h3, h4⟩ := h.o1
    exact ⟨lo, hi, by omega, by omega, own_keep _ _ _ _ (fun k q1 q2 => hsame k (by omega)) h4⟩
  · obtain ⟨lo, hi, h1, h2, h3, h4⟩ := h.o2
    exact ⟨lo, hi, by omega, by omega, own_keep _ _ _ _ (fun k q1 q2 => hsame k (by omega)) h4⟩

theorem size_setCell' (W : World) (a : Addr) (v : Value) : (W.setCell a v).heap.size = W.heap.size := by simp
set_option linter.unusedVariables false in
set_option linter.unusedSimpArgs false in
set_option maxRecDepth 100000 in
set_option maxHeartbeats 8000000 in
theorem l5Some_shp (B g : Nat) (A0 : Option Addr) (len cap p : Nat) (w : World) (hr : Rd w B g A0 len cap p) (hp : p ≤ 2 ^ 17) :
    Calls Tryz.prog 44 #[.pointer (some ⟨g, 0, none⟩)] w (DrewSP 300 2000 w B g A0 len cap p) := by
  have hgw := hr.lt
  obtain ⟨KK, hKK⟩ : ∃ k, k = 300 := ⟨_, rfl⟩
  rw [← hKK]
  obtain ⟨W0, hW0⟩ : ∃ W0, W0 = w.alloc (.cells #[.int .i64 0, .string { data := #[] }, .string { data := #[] }, .int .i64 0, .int .i64 0, .string { data := #[] }, .slice none 0 0, .int .i64 0, .int .i64 0, .string { data := #[] }, .slice none 0 0] 36) := ⟨_, rfl⟩
  have hgr0 : w.grownBy W0 (some g) := by rw [hW0]; exact grown_alloc (grown_refl w (some g)) _
  have hB0 : BlkS W0 w.heap.size #[.int .i64 0, .string { data := #[] }, .string { data := #[] }, .int .i64 0, .int .i64 0, .string { data := #[] }, .slice none 0 0, .int .i64 0, .int .i64 0, .string { data := #[] }, .slice none 0 0] := by rw [hW0]; exact World.alloc_heap_new w _
  have hr0 : Rd W0 B g A0 len cap p := by rw [hW0]; exact hr.alloc _
  have hz0 : W0.heap.size = w.heap.size + 1 := by rw [hW0]; simp
  have HNUM := Lib.hid (num_lit [1, 1, 2, 2, 3, 3, 0] B g A0 len cap p W0 hr0 (by omega) (by simp) (by simp))
  rw [hz0] at HNUM
  clear hr
  go_enter Tryz.func44, Tryz.ntmps44
  go_wp2_with fail
  rw [← hW0]
  clear hW0
  refine HNUM.out.mono ?_
  rintro r w1 ⟨kd, hkd, rfl, q1, hq1, hq1', hrd1, hgr1⟩
  have hB1 := blkS_grown hB0 hgr1 (by omega)
  have hg1 := grown_trans hgr0 hgr1
  have hz1 := hgr1.size
  clear HNUM hr0 hgr0
  go_wp2_with fail
  refine (l4Some_shp B g A0 len cap q1 w1 hrd1 (by omega)).mono ?_
  rintro r w2 ⟨e, A, c, rfl, hc, hO2, hSh, hwt, q2, hq2, hq2', hrd2, hgr2⟩
  have HSP := Lib.hid hSh.2
  clear hSh
  have hB2 := blkS_grown hB1 hgr2 (by omega)
  have hg2 := grown_trans hg1 hgr2
  have hz2 := hgr2.size
  obtain ⟨W3, hW3⟩ : ∃ W3, W3 = w2.alloc (.cells #[.int .i64 kd, .string { data := #[] }, .string { data := #[] }, .int .i64 e.kind, .int .i64 e.n, .string e.s, .slice A e.kids.length c, .int .i64 0, .int .i64 0, .string { data := #[] }, .slice none 0 0] 36) := ⟨_, rfl⟩
  have hb3 : Below w2.heap.size w2 W3 := by rw [hW3]; exact (Below.refl _ w2).alloc (Nat.le_refl _) _
  have hs3 : W3.heap.size = w2.heap.size + 1 := by rw [hW3]; simp
  have hE3 : BlkS W3 w2.heap.size #[.int .i64 kd, .string { data := #[] }, .string { data := #[] }, .int .i64 e.kind, .int .i64 e.n, .string e.s, .slice A e.kids.length c, .int .i64 0, .int .i64 0, .string { data := #[] }, .slice none 0 0] := by rw [hW3]; exact World.alloc_heap_new w2 _
  have hS3 : SW w B g A0 len cap q2 w2.heap.size #[.int .i64 kd, .string { data := #[] }, .string { data := #[] }, .int .i64 e.kind, .int .i64 e.n, .string e.s, .slice A e.kids.length c, .int .i64 0, .int .i64 0, .string { data := #[] }, .slice none 0 0] e Ex.zero A none W3 :=
    ⟨below_rd hrd2 hb3, grown_below' hg2 hb3, (hb3.block _ hB2.lt).trans hB2, hE3, by omega, ⟨w1.heap.size, w2.heap.size, by omega, by omega, .inl (Nat.le_refl _), own_keep _ _ _ _ (fun k h1 h2 => hb3.block k h2) hO2⟩, own_empty _ _ _ _ _ _ (by omega) (by omega) _⟩
  have hk : kd = 0 ∨ kd = 1 ∨ kd = 2 ∨ kd = 3 := by simp at hkd; omega
  have HK := Lib.hid hk
  clear hk hkd hB0 hB1 hB2 hg1 hg2 hgr1 hgr2 hrd1 hrd2 hO2 hE3 hb3
  have hby : (⟨#[]⟩ : ByteArray).size = 0 := rfl
  have hez : Ex.zero.wt = 0 := rfl
  rcases HK.out with rfl | rfl | rfl | rfl
  · have hzz0 := hS3.box.cell 0
    simp only [List.getElem?_toArray, List.getElem?_cons_zero, List.getElem?_cons_succ] at hzz0
    rw [hW3] at hzz0
    have HWW := Lib.hid hW3
    have x0 := hS3.ret.cell 0
    have x1 := hS3.ret.cell 1
    have x2 := hS3.ret.cell 2
    have x3 := hS3.ret.cell 3
    have x4 := hS3.ret.cell 4
    have x5 := hS3.ret.cell 5
    have x6 := hS3.ret.cell 6
    have x7 := hS3.ret.cell 7
    have x8 := hS3.ret.cell 8
    have x9 := hS3.ret.cell 9
    have x10 := hS3.ret.cell 10
    simp only [List.getElem?_toArray, List.getElem?_cons_zero, List.getElem?_cons_succ] at x0 x1 x2 x3 x4 x5 x6 x7 x8 x9 x10
    have f0 := hS3.ret.frozen 0
    have f1 := hS3.ret.frozen 1
    have f2 := hS3.ret.frozen 2
    have f3 := hS3.ret.frozen 3
    have f4 := hS3.ret.frozen 4
    have f5 := hS3.ret.frozen 5
    have f6 := hS3.ret.frozen 6
    have f7 := hS3.ret.frozen 7
    have f8 := hS3.ret.frozen 8
    have f9 := hS3.ret.frozen 9
    have f10 := hS3.ret.frozen 10
    have HS := Lib.hid hS3
    have hlB := hS3.ret.lt
    clear hS3
    rw [hW3] at x0 f0 x1 f1 x2 f2 x3 f3 x4 f4 x5 f5 x6 f6 x7 f7 x8 f8 x9 f9 x10 f10 hlB
    go_wp2_with fail
    rw [← HWW.out]
    obtain ⟨wn, hwn⟩ : ∃ wn, wn = (((((((((((W3.setCell ⟨w.heap.size, 0, none⟩ (.int .i64 0)).setCell ⟨w.heap.size, 1, none⟩ (.string { data := #[] })).setCell ⟨w.heap.size, 2, none⟩ (.string { data := #[] })).setCell ⟨w.heap.size, 3, none⟩ (.int .i64 0)).setCell ⟨w.heap.size, 4, none⟩ (.int .i64 0)).setCell ⟨w.heap.size, 5, none⟩ (.string { data := #[] })).setCell ⟨w.heap.size, 6, none⟩ (.slice none 0 0)).setCell ⟨w.heap.size, 7, none⟩ (.int .i64 0)).setCell ⟨w.heap.size, 8, none⟩ (.int .i64 0)).setCell ⟨w.heap.size, 9, none⟩ (.string { data := #[] })).setCell ⟨w.heap.size, 10, none⟩ (.slice none 0 0)) := ⟨_, rfl⟩
    have hwa : wn = setAll W3 w.heap.size 0 [.int .i64 0, .string { data := #[] }, .string { data := #[] }, .int .i64 0, .int .i64 0, .string { data := #[] }, .slice none 0 0, .int .i64 0, .int .i64 0, .string { data := #[] }, .slice none 0 0] := by rw [hwn]; rfl
    rw [← hwn]
    clear hwn
    obtain ⟨hBn, hRn, hO1n, hO2n⟩ := HS.out.finish (K := KK) (p := p) rfl hwa hgw (by omega) (by omega)
    have r0 := hBn.cell 0
    have r1 := hBn.cell 1
    have r2 := hBn.cell 2
    have r3 := hBn.cell 3
    have r4 := hBn.cell 4
    have r5 := hBn.cell 5
    have r6 := hBn.cell 6
    have r7 := hBn.cell 7
    have r8 := hBn.cell 8
    have r9 := hBn.cell 9
    have r10 := hBn.cell 10
    simp only [List.getElem?_toArray, List.getElem?_cons_zero, List.getElem?_cons_succ] at r0 r1 r2 r3 r4 r5 r6 r7 r8 r9 r10
    refine bodyPost_ret (v := .agg #[.int .i64 0, .string { data := #[] }, .string { data := #[] }, .int .i64 0, .int .i64 0, .string { data := #[] }, .slice none 0 0, .int .i64 0, .int .i64 0, .string { data := #[] }, .slice none 0 0]) (by simp [results, Tryz.results44, go_sem, r0, r1, r2, r3, r4, r5, r6, r7, r8, r9, r10]) rfl ?_
    exact ⟨⟨0, ⟨#[]⟩, ⟨#[]⟩, Ex.zero, Ex.zero⟩, none, none, 0, 0, rfl, Nat.le_refl _, Nat.le_refl _, own_none hRn, own_none hRn, by simp only [St.wt]; omega, ⟨⟨⟨by show (0 : Int) ≤ 0; omega, by show (0 : Int) ≤ 3; omega⟩, .inl rfl⟩, (fun h => absurd (show (0 : Int) = 3 from h) (by decide))⟩, hRn⟩
  · have b0 := hS3.box.cell 0
    simp only [List.getElem?_toArray, List.getElem?_cons_zero, List.getElem?_cons_succ] at b0
    have HOF := Lib.hid (of_lit [⟨#[120]⟩, ⟨#[121]⟩, ⟨#[122]⟩] B g A0 len cap q2 W3 hS3.rd (by omega) (by simp) (by simp))
    rw [hs3] at HOF
    have HS3 := Lib.hid hS3
    have HW3 := Lib.hid hW3
    rw [hW3] at b0
    clear hS3
    go_wp2_with fail
    rw [← HW3.out]
    clear b0
    refine HOF.out.mono ?_
    rintro r w4 ⟨n, hn, rfl, q4, hq4, hq4', hrd4, hgr4⟩
    have hS4 := HS3.out.grow hgw hrd4 (grown_trans (grown_refl _ _) hgr4)
    have hsn : n.size ≤ 4 := short_of (by decide) hn
    have hz4 := hgr4.size
    clear HOF HS3 hn HW3 hW3
    have b0 := hS4.box.cell 0
    have bf0 := hS4.box.frozen 0
    simp only [List.getElem?_toArray, List.getElem?_cons_zero, List.getElem?_cons_succ] at b0
    have b1 := hS4.box.cell 1
    have bf1 := hS4.box.frozen 1
    simp only [List.getElem?_toArray, List.getElem?_cons_zero, List.getElem?_cons_succ] at b1
    have hS5 := hS4.set hgw 1 (.string n)
    have HOF := Lib.hid (of_lit [⟨#[105, 110, 116]⟩, ⟨#[105, 110, 116]⟩, ⟨#[98, 111, 111, 108]⟩] B g A0 len cap q4 _ hS5.rd (by omega) (by simp) (by simp))
    rw [size_setCell'] at HOF
    have HS5 := Lib.hid hS5
    clear hS5 hS4
    go_wp2_with fail
    refine HOF.out.mono ?_
    rintro r w6 ⟨t, ht, rfl, q6, hq6, hq6', hrd6, hgr6⟩
    have hS6 := HS5.out.grow hgw hrd6 hgr6
    have hst : t.size ≤ 4 := short_of (by decide) ht
    have hz6 := hgr6.size
    rw [size_setCell'] at hz6
    clear HOF HS5 ht b0 bf0 b1 bf1
    simp only [List.setIfInBounds_toArray, List.set_cons_zero, List.set_cons_succ] at hS6
    have b0 := hS6.box.cell 0
    have bf0 := hS6.box.frozen 0
    simp only [List.getElem?_toArray, List.getElem?_cons_zero, List.getElem?_cons_succ] at b0
    have b2 := hS6.box.cell 2
    have bf2 := hS6.box.frozen 2
    simp only [List.getElem?_toArray, List.getElem?_cons_zero, List.getElem?_cons_succ] at b2
    have hS7 := hS6.set hgw 2 (.string t)
    simp only [List.setIfInBounds_toArray, List.set_cons_zero, List.set_cons_succ] at hS7
    clear hS6
    have y0 := hS7.box.cell 0
    have y1 := hS7.box.cell 1
    have y2 := hS7.box.cell 2
    have y3 := hS7.box.cell 3
    have y4 := hS7.box.cell 4
    have y5 := hS7.box.cell 5
    have y6 := hS7.box.cell 6
    have y7 := hS7.box.cell 7
    have y8 := hS7.box.cell 8
    have y9 := hS7.box.cell 9
    have y10 := hS7.box.cell 10
    simp only [List.getElem?_toArray, List.getElem?_cons_zero, List.getElem?_cons_succ] at y0 y1 y2 y3 y4 y5 y6 y7 y8 y9 y10
    have x0 := hS7.ret.cell 0
    have x1 := hS7.ret.cell 1
    have x2 := hS7.ret.cell 2
    have x3 := hS7.ret.cell 3
    have x4 := hS7.ret.cell 4
    have x5 := hS7.ret.cell 5
    have x6 := hS7.ret.cell 6
    have x7 := hS7.ret.cell 7
    have x8 := hS7.ret.cell 8
    have x9 := hS7.ret.cell 9
    have x10 := hS7.ret.cell 10
    simp only [List.getElem?_toArray, List.getElem?_cons_zero, List.getElem?_cons_succ] at x0 x1 x2 x3 x4 x5 x6 x7 x8 x9 x10
    have f0 := hS7.ret.frozen 0
    have f1 := hS7.ret.frozen 1
    have f2 := hS7.ret.frozen 2
    have f3 := hS7.ret.frozen 3
    have f4 := hS7.ret.frozen 4
    have f5 := hS7.ret.frozen 5
    have f6 := hS7.ret.frozen 6
    have f7 := hS7.ret.frozen 7
    have f8 := hS7.ret.frozen 8
    have f9 := hS7.ret.frozen 9
    have f10 := hS7.ret.frozen 10
    have HS := Lib.hid hS7
    have hlB := hS7.ret.lt
    clear hS7
    go_wp2_with fail
    obtain ⟨wn, hwn⟩ : ∃ wn, wn = ((((((((((((w6.setCell ⟨w2.heap.size, 2, none⟩ (.string t)).setCell ⟨w.heap.size, 0, none⟩ (.int .i64 1)).setCell ⟨w.heap.size, 1, none⟩ (.string n)).setCell ⟨w.heap.size, 2, none⟩ (.string t)).setCell ⟨w.heap.size, 3, none⟩ (.int .i64 e.kind)).setCell ⟨w.heap.size, 4, none⟩ (.int .i64 e.n)).setCell ⟨w.heap.size, 5, none⟩ (.string e.s)).setCell ⟨w.heap.size, 6, none⟩ (.slice A e.kids.length c)).setCell ⟨w.heap.size, 7, none⟩ (.int .i64 0)).setCell ⟨w.heap.size, 8, none⟩ (.int .i64 0)).setCell ⟨w.heap.size, 9, none⟩ (.string { data := #[] })).setCell ⟨w.heap.size, 10, none⟩ (.slice none 0 0)) := ⟨_, rfl⟩
    have hwa : wn = setAll (w6.setCell ⟨w2.heap.size, 2, none⟩ (.string t)) w.heap.size 0 [.int .i64 1, .string n, .string t, .int .i64 e.kind, .int .i64 e.n, .string e.s, .slice A e.kids.length c, .int .i64 0, .int .i64 0, .string { data := #[] }, .slice none 0 0] := by rw [hwn]; rfl
    rw [← hwn]
    clear hwn
    obtain ⟨hBn, hRn, hO1n, hO2n⟩ := HS.out.finish (K := KK) (p := p) rfl hwa hgw (by omega) (by omega)
    have r0 := hBn.cell 0
    have r1 := hBn.cell 1
    have r2 := hBn.cell 2
    have r3 := hBn.cell 3
    have r4 := hBn.cell 4
    have r5 := hBn.cell 5
    have r6 := hBn.cell 6
    have r7 := hBn.cell 7
    have r8 := hBn.cell 8
    have r9 := hBn.cell 9
    have r10 := hBn.cell 10
    simp only [List.getElem?_toArray, List.getElem?_cons_zero, List.getElem?_cons_succ] at r0 r1 r2 r3 r4 r5 r6 r7 r8 r9 r10
    refine bodyPost_ret (v := .agg #[.int .i64 1, .string n, .string t, .int .i64 e.kind, .int .i64 e.n, .string e.s, .slice A e.kids.length c, .int .i64 0, .int .i64 0, .string { data := #[] }, .slice none 0 0]) (by simp [results, Tryz.results44, go_sem, r0, r1, r2, r3, r4, r5, r6, r7, r8, r9, r10]) rfl ?_
    exact ⟨⟨1, n, t, e, Ex.zero⟩, A, none, c, 0, rfl, hc, Nat.le_refl _, hO1n, hO2n, by simp only [St.wt]; omega, ⟨⟨⟨by show (0 : Int) ≤ 1; omega, by show (1 : Int) ≤ 3; omega⟩, .inr HSP.out⟩, (fun h => absurd (show (1 : Int) = 3 from h) (by decide))⟩, hRn⟩
  · have HW3 := Lib.hid hW3
    have y0 := hS3.box.cell 0
    have y1 := hS3.box.cell 1
    have y2 := hS3.box.cell 2
    have y3 := hS3.box.cell 3
    have y4 := hS3.box.cell 4
    have y5 := hS3.box.cell 5
    have y6 := hS3.box.cell 6
    have y7 := hS3.box.cell 7
    have y8 := hS3.box.cell 8
    have y9 := hS3.box.cell 9
    have y10 := hS3.box.cell 10
    simp only [List.getElem?_toArray, List.getElem?_cons_zero, List.getElem?_cons_succ] at y0 y1 y2 y3 y4 y5 y6 y7 y8 y9 y10
    have x0 := hS3.ret.cell 0
    have x1 := hS3.ret.cell 1
    have x2 := hS3.ret.cell 2
    have x3 := hS3.ret.cell 3
    have x4 := hS3.ret.cell 4
    have x5 := hS3.ret.cell 5
    have x6 := hS3.ret.cell 6
    have x7 := hS3.ret.cell 7
    have x8 := hS3.ret.cell 8
    have x9 := hS3.ret.cell 9
    have x10 := hS3.ret.cell 10
    simp only [List.getElem?_toArray, List.getElem?_cons_zero, List.getElem?_cons_succ] at x0 x1 x2 x3 x4 x5 x6 x7 x8 x9 x10
    have f0 := hS3.ret.frozen 0
    have f1 := hS3.ret.frozen 1
    have f2 := hS3.ret.frozen 2
    have f3 := hS3.ret.frozen 3
    have f4 := hS3.ret.frozen 4
    have f5 := hS3.ret.frozen 5
    have f6 := hS3.ret.frozen 6
    have f7 := hS3.ret.frozen 7
    have f8 := hS3.ret.frozen 8
    have f9 := hS3.ret.frozen 9
    have f10 := hS3.ret.frozen 10
    have HS := Lib.hid hS3
    have hlB := hS3.ret.lt
    clear hS3
    rw [hW3] at x0 f0 y0 x1 f1 y1 x2 f2 y2 x3 f3 y3 x4 f4 y4 x5 f5 y5 x6 f6 y6 x7 f7 y7 x8 f8 y8 x9 f9 y9 x10 f10 y10 hlB
    go_wp2_with fail
    rw [← HW3.out]
    obtain ⟨wn, hwn⟩ : ∃ wn, wn = (((((((((((W3.setCell ⟨w.heap.size, 0, none⟩ (.int .i64 2)).setCell ⟨w.heap.size, 1, none⟩ (.string { data := #[] })).setCell ⟨w.heap.size, 2, none⟩ (.string { data := #[] })).setCell ⟨w.heap.size, 3, none⟩ (.int .i64 e.kind)).setCell ⟨w.heap.size, 4, none⟩ (.int .i64 e.n)).setCell ⟨w.heap.size, 5, none⟩ (.string e.s)).setCell ⟨w.heap.size, 6, none⟩ (.slice A e.kids.length c)).setCell ⟨w.heap.size, 7, none⟩ (.int .i64 0)).setCell ⟨w.heap.size, 8, none⟩ (.int .i64 0)).setCell ⟨w.heap.size, 9, none⟩ (.string { data := #[] })).setCell ⟨w.heap.size, 10, none⟩ (.slice none 0 0)) := ⟨_, rfl⟩
    have hwa : wn = setAll W3 w.heap.size 0 [.int .i64 2, .string { data := #[] }, .string { data := #[] }, .int .i64 e.kind, .int .i64 e.n, .string e.s, .slice A e.kids.length c, .int .i64 0, .int .i64 0, .string { data := #[] }, .slice none 0 0] := by rw [hwn]; rfl
    rw [← hwn]
    clear hwn
    obtain ⟨hBn, hRn, hO1n, hO2n⟩ := HS.out.finish (K := KK) (p := p) rfl hwa hgw (by omega) (by omega)
    have r0 := hBn.cell 0
    have r1 := hBn.cell 1
    have r2 := hBn.cell 2
    have r3 := hBn.cell 3
    have r4 := hBn.cell 4
    have r5 := hBn.cell 5
    have r6 := hBn.cell 6
    have r7 := hBn.cell 7
    have r8 := hBn.cell 8
    have r9 := hBn.cell 9
    have r10 := hBn.cell 10
    simp only [List.getElem?_toArray, List.getElem?_cons_zero, List.getElem?_cons_succ] at r0 r1 r2 r3 r4 r5 r6 r7 r8 r9 r10
    refine bodyPost_ret (v := .agg #[.int .i64 2, .string { data := #[] }, .string { data := #[] }, .int .i64 e.kind, .int .i64 e.n, .string e.s, .slice A e.kids.length c, .int .i64 0, .int .i64 0, .string { data := #[] }, .slice none 0 0]) (by simp [results, Tryz.results44, go_sem, r0, r1, r2, r3, r4, r5, r6, r7, r8, r9, r10]) rfl ?_
    exact ⟨⟨2, ⟨#[]⟩, ⟨#[]⟩, e, Ex.zero⟩, A, none, c, 0, rfl, hc, Nat.le_refl _, hO1n, hO2n, by simp only [St.wt]; omega, ⟨⟨⟨by show (0 : Int) ≤ 2; omega, by show (2 : Int) ≤ 3; omega⟩, .inr HSP.out⟩, (fun h => absurd (show (2 : Int) = 3 from h) (by decide))⟩, hRn⟩
  · have b0 := hS3.box.cell 0
    simp only [List.getElem?_toArray, List.getElem?_cons_zero, List.getElem?_cons_succ] at b0
    have HXP := Lib.hid (l4Expr_shp B g A0 len cap 1 2 q2 W3 (by omega) (by omega) hS3.rd (by simp only [rdE]; omega))
    have HS3 := Lib.hid hS3
    have HW3 := Lib.hid hW3
    rw [hW3] at b0
    clear hS3
    go_wp2_with fail
    rw [← HW3.out]
    clear b0
    refine HXP.out.mono ?_
    rintro r w4 ⟨x, A2, c2, rfl, hc2, hO4, hSh4, hwt4, q4, hq4, hq4', hrd4, hgr4⟩
    have HSP4 := Lib.hid hSh4.2
    clear hSh4
    have hS4 := (HS3.out.grow hgw hrd4 hgr4).second (by omega) hO4
    have hz4 := hgr4.size
    have hq5 : q4 ≤ q2 + 11 := hq4'
    have hw5 : x.wt ≤ 30 := hwt4
    clear HXP HS3 HW3 hW3 hO4 hq4' hwt4
    have b0 := hS4.box.cell 0
    have bf0 := hS4.box.frozen 0
    simp only [List.getElem?_toArray, List.getElem?_cons_zero, List.getElem?_cons_succ] at b0
    have b7 := hS4.box.cell 7
    have bf7 := hS4.box.frozen 7
    simp only [List.getElem?_toArray, List.getElem?_cons_zero, List.getElem?_cons_succ] at b7
    have b8 := hS4.box.cell 8
    have bf8 := hS4.box.frozen 8
    simp only [List.getElem?_toArray, List.getElem?_cons_zero, List.getElem?_cons_succ] at b8
    have b9 := hS4.box.cell 9
    have bf9 := hS4.box.frozen 9
    simp only [List.getElem?_toArray, List.getElem?_cons_zero, List.getElem?_cons_succ] at b9
    have b10 := hS4.box.cell 10
    have bf10 := hS4.box.frozen 10
    simp only [List.getElem?_toArray, List.getElem?_cons_zero, List.getElem?_cons_succ] at b10
    have hS5 := (((hS4.set hgw 7 (.int .i64 x.kind)).set hgw 8 (.int .i64 x.n)).set hgw 9 (.string x.s)).set hgw 10 (.slice A2 x.kids.length c2)
    simp only [List.setIfInBounds_toArray, List.set_cons_zero, List.set_cons_succ] at hS5
    clear hS4
    have y0 := hS5.box.cell 0
    have y1 := hS5.box.cell 1
    have y2 := hS5.box.cell 2
    have y3 := hS5.box.cell 3
    have y4 := hS5.box.cell 4
    have y5 := hS5.box.cell 5
    have y6 := hS5.box.cell 6
    have y7 := hS5.box.cell 7
    have y8 := hS5.box.cell 8
    have y9 := hS5.box.cell 9
    have y10 := hS5.box.cell 10
    simp only [List.getElem?_toArray, List.getElem?_cons_zero, List.getElem?_cons_succ] at y0 y1 y2 y3 y4 y5 y6 y7 y8 y9 y10
    have x0 := hS5.ret.cell 0
    have x1 := hS5.ret.cell 1
    have x2 := hS5.ret.cell 2
    have x3 := hS5.ret.cell 3
    have x4 := hS5.ret.cell 4
    have x5 := hS5.ret.cell 5
    have x6 := hS5.ret.cell 6
    have x7 := hS5.ret.cell 7
    have x8 := hS5.ret.cell 8
    have x9 := hS5.ret.cell 9
    have x10 := hS5.ret.cell 10
    simp only [List.getElem?_toArray, List.getElem?_cons_zero, List.getElem?_cons_succ] at x0 x1 x2 x3 x4 x5 x6 x7 x8 x9 x10
    have f0 := hS5.ret.frozen 0
    have f1 := hS5.ret.frozen 1
    have f2 := hS5.ret.frozen 2
    have f3 := hS5.ret.frozen 3
    have f4 := hS5.ret.frozen 4
    have f5 := hS5.ret.frozen 5
    have f6 := hS5.ret.frozen 6
    have f7 := hS5.ret.frozen 7
    have f8 := hS5.ret.frozen 8
    have f9 := hS5.ret.frozen 9
    have f10 := hS5.ret.frozen 10
    have HS := Lib.hid hS5
    have hlB := hS5.ret.lt
    clear hS5
    go_wp2_with fail
    obtain ⟨wn, hwn⟩ : ∃ wn, wn = (((((((((((((((w4.setCell ⟨w2.heap.size, 7, none⟩ (.int .i64 x.kind)).setCell ⟨w2.heap.size, 8, none⟩ (.int .i64 x.n)).setCell ⟨w2.heap.size, 9, none⟩ (.string x.s)).setCell ⟨w2.heap.size, 10, none⟩ (.slice A2 x.kids.length c2)).setCell ⟨w.heap.size, 0, none⟩ (.int .i64 3)).setCell ⟨w.heap.size, 1, none⟩ (.string { data := #[] })).setCell ⟨w.heap.size, 2, none⟩ (.string { data := #[] })).setCell ⟨w.heap.size, 3, none⟩ (.int .i64 e.kind)).setCell ⟨w.heap.size, 4, none⟩ (.int .i64 e.n)).setCell ⟨w.heap.size, 5, none⟩ (.string e.s)).setCell ⟨w.heap.size, 6, none⟩ (.slice A e.kids.length c)).setCell ⟨w.heap.size, 7, none⟩ (.int .i64 x.kind)).setCell ⟨w.heap.size, 8, none⟩ (.int .i64 x.n)).setCell ⟨w.heap.size, 9, none⟩ (.string x.s)).setCell ⟨w.heap.size, 10, none⟩ (.slice A2 x.kids.length c2)) := ⟨_, rfl⟩
    have hwa : wn = setAll ((((w4.setCell ⟨w2.heap.size, 7, none⟩ (.int .i64 x.kind)).setCell ⟨w2.heap.size, 8, none⟩ (.int .i64 x.n)).setCell ⟨w2.heap.size, 9, none⟩ (.string x.s)).setCell ⟨w2.heap.size, 10, none⟩ (.slice A2 x.kids.length c2)) w.heap.size 0 [.int .i64 3, .string { data := #[] }, .string { data := #[] }, .int .i64 e.kind, .int .i64 e.n, .string e.s, .slice A e.kids.length c, .int .i64 x.kind, .int .i64 x.n, .string x.s, .slice A2 x.kids.length c2] := by rw [hwn]; rfl
    rw [← hwn]
    clear hwn
    obtain ⟨hBn, hRn, hO1n, hO2n⟩ := HS.out.finish (K := KK) (p := p) rfl hwa hgw (by omega) (by omega)
    have r0 := hBn.cell 0
    have r1 := hBn.cell 1
    have r2 := hBn.cell 2
    have r3 := hBn.cell 3
    have r4 := hBn.cell 4
    have r5 := hBn.cell 5
    have r6 := hBn.cell 6
    have r7 := hBn.cell 7
    have r8 := hBn.cell 8
    have r9 := hBn.cell 9
    have r10 := hBn.cell 10
    simp only [List.getElem?_toArray, List.getElem?_cons_zero, List.getElem?_cons_succ] at r0 r1 r2 r3 r4 r5 r6 r7 r8 r9 r10
    refine bodyPost_ret (v := .agg #[.int .i64 3, .string { data := #[] }, .string { data := #[] }, .int .i64 e.kind, .int .i64 e.n, .string e.s, .slice A e.kids.length c, .int .i64 x.kind, .int .i64 x.n, .string x.s, .slice A2 x.kids.length c2]) (by simp [results, Tryz.results44, go_sem, r0, r1, r2, r3, r4, r5, r6, r7, r8, r9, r10]) rfl ?_
    exact ⟨⟨3, ⟨#[]⟩, ⟨#[]⟩, e, x⟩, A, A2, c, c2, rfl, hc, hc2, hO1n, hO2n, by simp only [St.wt]; omega, ⟨⟨⟨by show (0 : Int) ≤ 3; omega, by show (3 : Int) ≤ 3; omega⟩, .inr HSP.out⟩, (fun _ => HSP4.out)⟩, hRn⟩
theorem l5Some_any (B g : Nat) (A0 : Option Addr) (len cap p : Nat) (w : World) (hr : Rd w B g A0 len cap p) (hp : p ≤ 2 ^ 17) :
    Calls Tryz.prog 44 #[.pointer (some ⟨g, 0, none⟩)] w (DrewS 300 2000 w B g A0 len cap p) := (l5Some_shp B g A0 len cap p w hr hp).mono (fun _ _ h => h.drop)
theorem St.parts_wt (s : St) : s.name.size + s.typ.size + s.e.wt + s.t.wt = s.wt := rfl
set_option linter.unusedVariables false in
set_option linter.unusedSimpArgs false in
set_option maxRecDepth 100000 in
set_option maxHeartbeats 8000000 in
theorem l5Bent_any (B g : Nat) (A0 : Option Addr) (len cap p : Nat) (w : World) (hr : Rd w B g A0 len cap p) (hp : p ≤ 2 ^ 16) :
    Calls Tryz.prog 31 #[.pointer (some ⟨g, 0, none⟩)] w (DrewS 600 5000 w B g A0 len cap p) := by
  have hgw := hr.lt
  obtain ⟨KK, hKK⟩ : ∃ k, k = 600 := ⟨_, rfl⟩
  rw [← hKK]
  obtain ⟨W0, hW0⟩ : ∃ W0, W0 = w.alloc (.cells #[.int .i64 0, .string { data := #[] }, .string { data := #[] }, .int .i64 0, .int .i64 0, .string { data := #[] }, .slice none 0 0, .int .i64 0, .int .i64 0, .string { data := #[] }, .slice none 0 0] 36) := ⟨_, rfl⟩
  have hgr0 : w.grownBy W0 (some g) := by rw [hW0]; exact grown_alloc (grown_refl w (some g)) _
  have hB0 : BlkS W0 w.heap.size #[.int .i64 0, .string { data := #[] }, .string { data := #[] }, .int .i64 0, .int .i64 0, .string { data := #[] }, .slice none 0 0, .int .i64 0, .int .i64 0, .string { data := #[] }, .slice none 0 0] := by rw [hW0]; exact World.alloc_heap_new w _
  have hr0 : Rd W0 B g A0 len cap p := by rw [hW0]; exact hr.alloc _
  have hz0 : W0.heap.size = w.heap.size + 1 := by rw [hW0]; simp
  have HSO := Lib.hid (l5Some_any B g A0 len cap p W0 hr0 (by omega))
  clear hr
  go_enter Tryz.func31, Tryz.ntmps31
  go_wp2_with fail
  rw [← hW0]
  clear hW0
  refine HSO.out.mono ?_
  rintro r w2 ⟨s, A1, A2, c1, c2, rfl, hc1, hc2, ⟨lo1, hi1, l1, l2, hO1⟩, ⟨lo2, hi2, l3, l4, hO2⟩, hwt, q2, hq2, hq2', hrd2, hgr2⟩
  have hB2 := blkS_grown hB0 hgr2 (by omega)
  have hg2 := grown_trans hgr0 hgr2
  have hz2 := hgr2.size
  unfold stV
  obtain ⟨W3, hW3⟩ : ∃ W3, W3 = w2.alloc (.cells #[.int .i64 s.kind, .string s.name, .string s.typ, .int .i64 s.e.kind, .int .i64 s.e.n, .string s.e.s, .slice A1 s.e.kids.length c1, .int .i64 s.t.kind, .int .i64 s.t.n, .string s.t.s, .slice A2 s.t.kids.length c2] 36) := ⟨_, rfl⟩
  have hb3 : Below w2.heap.size w2 W3 := by rw [hW3]; exact (Below.refl _ w2).alloc (Nat.le_refl _) _
  have hs3 : W3.heap.size = w2.heap.size + 1 := by rw [hW3]; simp
  have hE3 : BlkS W3 w2.heap.size #[.int .i64 s.kind, .string s.name, .string s.typ, .int .i64 s.e.kind, .int .i64 s.e.n, .string s.e.s, .slice A1 s.e.kids.length c1, .int .i64 s.t.kind, .int .i64 s.t.n, .string s.t.s, .slice A2 s.t.kids.length c2] := by rw [hW3]; exact World.alloc_heap_new w2 _
  have hS3 : SW w B g A0 len cap q2 w2.heap.size #[.int .i64 s.kind, .string s.name, .string s.typ, .int .i64 s.e.kind, .int .i64 s.e.n, .string s.e.s, .slice A1 s.e.kids.length c1, .int .i64 s.t.kind, .int .i64 s.t.n, .string s.t.s, .slice A2 s.t.kids.length c2] s.e s.t A1 A2 W3 :=
    ⟨below_rd hrd2 hb3, grown_below' hg2 hb3, (hb3.block _ hB2.lt).trans hB2, hE3, by omega, ⟨lo1, hi1, by omega, by omega, .inl l2, own_keep _ _ _ _ (fun k h1 h2 => hb3.block k (by omega)) hO1⟩, ⟨lo2, hi2, by omega, by omega, .inl l4, own_keep _ _ _ _ (fun k h1 h2 => hb3.block k (by omega)) hO2⟩⟩
  have HP := Lib.hid (pick_any B g A0 len cap q2 40 W3 hS3.rd (by omega) (by omega) (by omega))
  have HW := Lib.hid s.parts_wt
  have HS3 := Lib.hid hS3
  clear hB0 hB2 hg2 hgr2 hrd2 hO1 hO2 hE3 hb3 hgr0 hr0 HSO hS3
  have hby : (⟨#[]⟩ : ByteArray).size = 0 := rfl
  go_wp2_with fail
  rw [← hW3]
  clear hW3
  refine HP.out.mono ?_
  rintro r w3 ⟨v, hv, rfl, q3, hq3, hq3', hrd3, hgr3⟩
  have hS := HS3.out.grow hgw hrd3 hgr3
  have hz3 := hgr3.size
  clear HP HS3 hrd3 hgr3
  by_cases hv0 : v = 0
  · subst hv0
    have HC := Lib.hid (num_lit [0, 4, 1, 2, 3] B g A0 len cap q3 w3 hS.rd (by omega) (by simp) (by simp))
    have HS := Lib.hid hS
    clear hS
    go_wp2_with fail
    refine HC.out.mono ?_
    rintro r w4 ⟨z, hz, rfl, q4, hq4, hq4', hrd4, hgr4⟩
    have hS4 := HS.out.grow hgw hrd4 hgr4
    have hz4 := hgr4.size

    clear HC HS hz hrd4 hgr4
    have b0 := hS4.box.cell 0
    have bf0 := hS4.box.frozen 0
    simp only [List.getElem?_toArray, List.getElem?_cons_zero, List.getElem?_cons_succ] at b0
    have hS5 := hS4.set hgw 0 (.int .i64 z)
    simp only [List.setIfInBounds_toArray, List.set_cons_zero, List.set_cons_succ] at hS5
    clear hS4
    have y0 := hS5.box.cell 0
    have y1 := hS5.box.cell 1
    have y2 := hS5.box.cell 2
    have y3 := hS5.box.cell 3
    have y4 := hS5.box.cell 4
    have y5 := hS5.box.cell 5
    have y6 := hS5.box.cell 6
    have y7 := hS5.box.cell 7
    have y8 := hS5.box.cell 8
    have y9 := hS5.box.cell 9
    have y10 := hS5.box.cell 10
    simp only [List.getElem?_toArray, List.getElem?_cons_zero, List.getElem?_cons_succ] at y0 y1 y2 y3 y4 y5 y6 y7 y8 y9 y10
    have x0 := hS5.ret.cell 0
    have x1 := hS5.ret.cell 1
    have x2 := hS5.ret.cell 2
    have x3 := hS5.ret.cell 3
    have x4 := hS5.ret.cell 4
    have x5 := hS5.ret.cell 5
    have x6 := hS5.ret.cell 6
    have x7 := hS5.ret.cell 7
    have x8 := hS5.ret.cell 8
    have x9 := hS5.ret.cell 9
    have x10 := hS5.ret.cell 10
    simp only [List.getElem?_toArray, List.getElem?_cons_zero, List.getElem?_cons_succ] at x0 x1 x2 x3 x4 x5 x6 x7 x8 x9 x10
    have f0 := hS5.ret.frozen 0
    have f1 := hS5.ret.frozen 1
    have f2 := hS5.ret.frozen 2
    have f3 := hS5.ret.frozen 3
    have f4 := hS5.ret.frozen 4
    have f5 := hS5.ret.frozen 5
    have f6 := hS5.ret.frozen 6
    have f7 := hS5.ret.frozen 7
    have f8 := hS5.ret.frozen 8
    have f9 := hS5.ret.frozen 9
    have f10 := hS5.ret.frozen 10
    have HS := Lib.hid hS5
    have hlB := hS5.ret.lt
    clear hS5
    go_wp2_with fail
    obtain ⟨wn, hwn⟩ : ∃ wn, wn = ((((((((((((w4.setCell ⟨w2.heap.size, 0, none⟩ (.int .i64 z)).setCell ⟨w.heap.size, 0, none⟩ (.int .i64 z)).setCell ⟨w.heap.size, 1, none⟩ (.string s.name)).setCell ⟨w.heap.size, 2, none⟩ (.string s.typ)).setCell ⟨w.heap.size, 3, none⟩ (.int .i64 s.e.kind)).setCell ⟨w.heap.size, 4, none⟩ (.int .i64 s.e.n)).setCell ⟨w.heap.size, 5, none⟩ (.string s.e.s)).setCell ⟨w.heap.size, 6, none⟩ (.slice A1 s.e.kids.length c1)).setCell ⟨w.heap.size, 7, none⟩ (.int .i64 s.t.kind)).setCell ⟨w.heap.size, 8, none⟩ (.int .i64 s.t.n)).setCell ⟨w.heap.size, 9, none⟩ (.string s.t.s)).setCell ⟨w.heap.size, 10, none⟩ (.slice A2 s.t.kids.length c2)) := ⟨_, rfl⟩
    have hwa : wn = setAll (w4.setCell ⟨w2.heap.size, 0, none⟩ (.int .i64 z)) w.heap.size 0 [.int .i64 z, .string s.name, .string s.typ, .int .i64 s.e.kind, .int .i64 s.e.n, .string s.e.s, .slice A1 s.e.kids.length c1, .int .i64 s.t.kind, .int .i64 s.t.n, .string s.t.s, .slice A2 s.t.kids.length c2] := by rw [hwn]; rfl
    rw [← hwn]
    clear hwn
    obtain ⟨hBn, hRn, hO1n, hO2n⟩ := HS.out.finish (K := KK) (p := p) rfl hwa hgw (by omega) (by omega)
    have r0 := hBn.cell 0
    have r1 := hBn.cell 1
    have r2 := hBn.cell 2
    have r3 := hBn.cell 3
    have r4 := hBn.cell 4
    have r5 := hBn.cell 5
    have r6 := hBn.cell 6
    have r7 := hBn.cell 7
    have r8 := hBn.cell 8
    have r9 := hBn.cell 9
    have r10 := hBn.cell 10
    simp only [List.getElem?_toArray, List.getElem?_cons_zero, List.getElem?_cons_succ] at r0 r1 r2 r3 r4 r5 r6 r7 r8 r9 r10
    refine bodyPost_ret (v := .agg #[.int .i64 z, .string s.name, .string s.typ, .int .i64 s.e.kind, .int .i64 s.e.n, .string s.e.s, .slice A1 s.e.kids.length c1, .int .i64 s.t.kind, .int .i64 s.t.n, .string s.t.s, .slice A2 s.t.kids.length c2]) (by simp [results, Tryz.results31, go_sem, r0, r1, r2, r3, r4, r5, r6, r7, r8, r9, r10]) rfl ?_
    exact ⟨⟨z, s.name, s.typ, s.e, s.t⟩, A1, A2, c1, c2, rfl, hc1, hc2, hO1n, hO2n, by have := HW.out; simp only [St.wt]; omega, hRn⟩
  have pv0 : ((v : Int) == 0) = false := by rw [beq_eq_false_iff_ne]; omega
  by_cases hv1 : v = 1
  · subst hv1
    have HC := Lib.hid (of_lit [⟨#[120]⟩, ⟨#[108, 101, 116]⟩, ⟨#[88]⟩, ⟨#[]⟩] B g A0 len cap q3 w3 hS.rd (by omega) (by simp) (by simp))
    have HS := Lib.hid hS
    clear hS
    go_wp2_with fail
    refine HC.out.mono ?_
    rintro r w4 ⟨n, hn, rfl, q4, hq4, hq4', hrd4, hgr4⟩
    have hS4 := HS.out.grow hgw hrd4 hgr4
    have hz4 := hgr4.size
    have hsn : n.size ≤ 4 := short_of (by decide) hn
    clear HC HS hn hrd4 hgr4
    have b1 := hS4.box.cell 1
    have bf1 := hS4.box.frozen 1
    simp only [List.getElem?_toArray, List.getElem?_cons_zero, List.getElem?_cons_succ] at b1
    have hS5 := hS4.set hgw 1 (.string n)
    simp only [List.setIfInBounds_toArray, List.set_cons_zero, List.set_cons_succ] at hS5
    clear hS4
    have y0 := hS5.box.cell 0
    have y1 := hS5.box.cell 1
    have y2 := hS5.box.cell 2
    have y3 := hS5.box.cell 3
    have y4 := hS5.box.cell 4
    have y5 := hS5.box.cell 5
    have y6 := hS5.box.cell 6
    have y7 := hS5.box.cell 7
    have y8 := hS5.box.cell 8
    have y9 := hS5.box.cell 9
    have y10 := hS5.box.cell 10
    simp only [List.getElem?_toArray, List.getElem?_cons_zero, List.getElem?_cons_succ] at y0 y1 y2 y3 y4 y5 y6 y7 y8 y9 y10
    have x0 := hS5.ret.cell 0
    have x1 := hS5.ret.cell 1
    have x2 := hS5.ret.cell 2
    have x3 := hS5.ret.cell 3
    have x4 := hS5.ret.cell 4
    have x5 := hS5.ret.cell 5
    have x6 := hS5.ret.cell 6
    have x7 := hS5.ret.cell 7
    have x8 := hS5.ret.cell 8
    have x9 := hS5.ret.cell 9
    have x10 := hS5.ret.cell 10
    simp only [List.getElem?_toArray, List.getElem?_cons_zero, List.getElem?_cons_succ] at x0 x1 x2 x3 x4 x5 x6 x7 x8 x9 x10
    have f0 := hS5.ret.frozen 0
    have f1 := hS5.ret.frozen 1
    have f2 := hS5.ret.frozen 2
    have f3 := hS5.ret.frozen 3
    have f4 := hS5.ret.frozen 4
    have f5 := hS5.ret.frozen 5
    have f6 := hS5.ret.frozen 6
    have f7 := hS5.ret.frozen 7
    have f8 := hS5.ret.frozen 8
    have f9 := hS5.ret.frozen 9
    have f10 := hS5.ret.frozen 10
    have HS := Lib.hid hS5
    have hlB := hS5.ret.lt
    clear hS5
    go_wp2_with fail
    obtain ⟨wn, hwn⟩ : ∃ wn, wn = ((((((((((((w4.setCell ⟨w2.heap.size, 1, none⟩ (.string n)).setCell ⟨w.heap.size, 0, none⟩ (.int .i64 s.kind)).setCell ⟨w.heap.size, 1, none⟩ (.string n)).setCell ⟨w.heap.size, 2, none⟩ (.string s.typ)).setCell ⟨w.heap.size, 3, none⟩ (.int .i64 s.e.kind)).setCell ⟨w.heap.size, 4, none⟩ (.int .i64 s.e.n)).setCell ⟨w.heap.size, 5, none⟩ (.string s.e.s)).setCell ⟨w.heap.size, 6, none⟩ (.slice A1 s.e.kids.length c1)).setCell ⟨w.heap.size, 7, none⟩ (.int .i64 s.t.kind)).setCell ⟨w.heap.size, 8, none⟩ (.int .i64 s.t.n)).setCell ⟨w.heap.size, 9, none⟩ (.string s.t.s)).setCell ⟨w.heap.size, 10, none⟩ (.slice A2 s.t.kids.length c2)) := ⟨_, rfl⟩
    have hwa : wn = setAll (w4.setCell ⟨w2.heap.size, 1, none⟩ (.string n)) w.heap.size 0 [.int .i64 s.kind, .string n, .string s.typ, .int .i64 s.e.kind, .int .i64 s.e.n, .string s.e.s, .slice A1 s.e.kids.length c1, .int .i64 s.t.kind, .int .i64 s.t.n, .string s.t.s, .slice A2 s.t.kids.length c2] := by rw [hwn]; rfl
    rw [← hwn]
    clear hwn
    obtain ⟨hBn, hRn, hO1n, hO2n⟩ := HS.out.finish (K := KK) (p := p) rfl hwa hgw (by omega) (by omega)
    have r0 := hBn.cell 0
    have r1 := hBn.cell 1
    have r2 := hBn.cell 2
    have r3 := hBn.cell 3
    have r4 := hBn.cell 4
    have r5 := hBn.cell 5
    have r6 := hBn.cell 6
    have r7 := hBn.cell 7
    have r8 := hBn.cell 8
    have r9 := hBn.cell 9
    have r10 := hBn.cell 10
    simp only [List.getElem?_toArray, List.getElem?_cons_zero, List.getElem?_cons_succ] at r0 r1 r2 r3 r4 r5 r6 r7 r8 r9 r10
    refine bodyPost_ret (v := .agg #[.int .i64 s.kind, .string n, .string s.typ, .int .i64 s.e.kind, .int .i64 s.e.n, .string s.e.s, .slice A1 s.e.kids.length c1, .int .i64 s.t.kind, .int .i64 s.t.n, .string s.t.s, .slice A2 s.t.kids.length c2]) (by simp [results, Tryz.results31, go_sem, r0, r1, r2, r3, r4, r5, r6, r7, r8, r9, r10]) rfl ?_
    exact ⟨⟨s.kind, n, s.typ, s.e, s.t⟩, A1, A2, c1, c2, rfl, hc1, hc2, hO1n, hO2n, by have := HW.out; simp only [St.wt]; omega, hRn⟩
  have pv1 : ((v : Int) == 1) = false := by rw [beq_eq_false_iff_ne]; omega
  by_cases hv2 : v = 2
  · subst hv2
    have HC := Lib.hid (of_lit [⟨#[105, 110, 116]⟩, ⟨#[116, 101, 120, 116]⟩, ⟨#[]⟩] B g A0 len cap q3 w3 hS.rd (by omega) (by simp) (by simp))
    have HS := Lib.hid hS
    clear hS
    go_wp2_with fail
    refine HC.out.mono ?_
    rintro r w4 ⟨n, hn, rfl, q4, hq4, hq4', hrd4, hgr4⟩
    have hS4 := HS.out.grow hgw hrd4 hgr4
    have hz4 := hgr4.size
    have hsn : n.size ≤ 4 := short_of (by decide) hn
    clear HC HS hn hrd4 hgr4
    have b2 := hS4.box.cell 2
    have bf2 := hS4.box.frozen 2
    simp only [List.getElem?_toArray, List.getElem?_cons_zero, List.getElem?_cons_succ] at b2
    have hS5 := hS4.set hgw 2 (.string n)
    simp only [List.setIfInBounds_toArray, List.set_cons_zero, List.set_cons_succ] at hS5
    clear hS4
    have y0 := hS5.box.cell 0
    have y1 := hS5.box.cell 1
    have y2 := hS5.box.cell 2
    have y3 := hS5.box.cell 3
    have y4 := hS5.box.cell 4
    have y5 := hS5.box.cell 5
    have y6 := hS5.box.cell 6
    have y7 := hS5.box.cell 7
    have y8 := hS5.box.cell 8
    have y9 := hS5.box.cell 9
    have y10 := hS5.box.cell 10
    simp only [List.getElem?_toArray, List.getElem?_cons_zero, List.getElem?_cons_succ] at y0 y1 y2 y3 y4 y5 y6 y7 y8 y9 y10
    have x0 := hS5.ret.cell 0
    have x1 := hS5.ret.cell 1
    have x2 := hS5.ret.cell 2
    have x3 := hS5.ret.cell 3
    have x4 := hS5.ret.cell 4
    have x5 := hS5.ret.cell 5
    have x6 := hS5.ret.cell 6
    have x7 := hS5.ret.cell 7
    have x8 := hS5.ret.cell 8
    have x9 := hS5.ret.cell 9
    have x10 := hS5.ret.cell 10
    simp only [List.getElem?_toArray, List.getElem?_cons_zero, List.getElem?_cons_succ] at x0 x1 x2 x3 x4 x5 x6 x7 x8 x9 x10
    have f0 := hS5.ret.frozen 0
    have f1 := hS5.ret.frozen 1
    have f2 := hS5.ret.frozen 2
    have f3 := hS5.ret.frozen 3
    have f4 := hS5.ret.frozen 4
    have f5 := hS5.ret.frozen 5
    have f6 := hS5.ret.frozen 6
    have f7 := hS5.ret.frozen 7
    have f8 := hS5.ret.frozen 8
    have f9 := hS5.ret.frozen 9
    have f10 := hS5.ret.frozen 10
    have HS := Lib.hid hS5
    have hlB := hS5.ret.lt
    clear hS5
    go_wp2_with fail
    obtain ⟨wn, hwn⟩ : ∃ wn, wn = ((((((((((((w4.setCell ⟨w2.heap.size, 2, none⟩ (.string n)).setCell ⟨w.heap.size, 0, none⟩ (.int .i64 s.kind)).setCell ⟨w.heap.size, 1, none⟩ (.string s.name)).setCell ⟨w.heap.size, 2, none⟩ (.string n)).setCell ⟨w.heap.size, 3, none⟩ (.int .i64 s.e.kind)).setCell ⟨w.heap.size, 4, none⟩ (.int .i64 s.e.n)).setCell ⟨w.heap.size, 5, none⟩ (.string s.e.s)).setCell ⟨w.heap.size, 6, none⟩ (.slice A1 s.e.kids.length c1)).setCell ⟨w.heap.size, 7, none⟩ (.int .i64 s.t.kind)).setCell ⟨w.heap.size, 8, none⟩ (.int .i64 s.t.n)).setCell ⟨w.heap.size, 9, none⟩ (.string s.t.s)).setCell ⟨w.heap.size, 10, none⟩ (.slice A2 s.t.kids.length c2)) := ⟨_, rfl⟩
    have hwa : wn = setAll (w4.setCell ⟨w2.heap.size, 2, none⟩ (.string n)) w.heap.size 0 [.int .i64 s.kind, .string s.name, .string n, .int .i64 s.e.kind, .int .i64 s.e.n, .string s.e.s, .slice A1 s.e.kids.length c1, .int .i64 s.t.kind, .int .i64 s.t.n, .string s.t.s, .slice A2 s.t.kids.length c2] := by rw [hwn]; rfl
    rw [← hwn]
    clear hwn
    obtain ⟨hBn, hRn, hO1n, hO2n⟩ := HS.out.finish (K := KK) (p := p) rfl hwa hgw (by omega) (by omega)
    have r0 := hBn.cell 0
    have r1 := hBn.cell 1
    have r2 := hBn.cell 2
    have r3 := hBn.cell 3
    have r4 := hBn.cell 4
    have r5 := hBn.cell 5
    have r6 := hBn.cell 6
    have r7 := hBn.cell 7
    have r8 := hBn.cell 8
    have r9 := hBn.cell 9
    have r10 := hBn.cell 10
    simp only [List.getElem?_toArray, List.getElem?_cons_zero, List.getElem?_cons_succ] at r0 r1 r2 r3 r4 r5 r6 r7 r8 r9 r10
    refine bodyPost_ret (v := .agg #[.int .i64 s.kind, .string s.name, .string n, .int .i64 s.e.kind, .int .i64 s.e.n, .string s.e.s, .slice A1 s.e.kids.length c1, .int .i64 s.t.kind, .int .i64 s.t.n, .string s.t.s, .slice A2 s.t.kids.length c2]) (by simp [results, Tryz.results31, go_sem, r0, r1, r2, r3, r4, r5, r6, r7, r8, r9, r10]) rfl ?_
    exact ⟨⟨s.kind, s.name, n, s.e, s.t⟩, A1, A2, c1, c2, rfl, hc1, hc2, hO1n, hO2n, by have := HW.out; simp only [St.wt]; omega, hRn⟩
  have pv2 : ((v : Int) == 2) = false := by rw [beq_eq_false_iff_ne]; omega
  by_cases hv3 : v = 3
  · subst hv3
    have HC := Lib.hid (l4Bent_any B g A0 len cap q3 w3 hS.rd (by omega))
    have HS := Lib.hid hS
    clear hS
    go_wp2_with fail
    refine HC.out.mono ?_
    rintro r w4 ⟨x, A3, c3, rfl, hc3, hO4, hSh4, hwt4, q4, hq4, hq4', hrd4, hgr4⟩
    have hz4 := hgr4.size
    have hS4 := (HS.out.grow hgw hrd4 hgr4).second (by omega) hO4
    clear HC HS hO4 hrd4 hgr4
    have b7 := hS4.box.cell 7
    have bf7 := hS4.box.frozen 7
    simp only [List.getElem?_toArray, List.getElem?_cons_zero, List.getElem?_cons_succ] at b7
    have b8 := hS4.box.cell 8
    have bf8 := hS4.box.frozen 8
    simp only [List.getElem?_toArray, List.getElem?_cons_zero, List.getElem?_cons_succ] at b8
    have b9 := hS4.box.cell 9
    have bf9 := hS4.box.frozen 9
    simp only [List.getElem?_toArray, List.getElem?_cons_zero, List.getElem?_cons_succ] at b9
    have b10 := hS4.box.cell 10
    have bf10 := hS4.box.frozen 10
    simp only [List.getElem?_toArray, List.getElem?_cons_zero, List.getElem?_cons_succ] at b10
    have hS5 := (((hS4.set hgw 7 (.int .i64 x.kind)).set hgw 8 (.int .i64 x.n)).set hgw 9 (.string x.s)).set hgw 10 (.slice A3 x.kids.length c3)
    simp only [List.setIfInBounds_toArray, List.set_cons_zero, List.set_cons_succ] at hS5
    clear hS4
    have y0 := hS5.box.cell 0
    have y1 := hS5.box.cell 1
    have y2 := hS5.box.cell 2
    have y3 := hS5.box.cell 3
    have y4 := hS5.box.cell 4
    have y5 := hS5.box.cell 5
    have y6 := hS5.box.cell 6
    have y7 := hS5.box.cell 7
    have y8 := hS5.box.cell 8
    have y9 := hS5.box.cell 9
    have y10 := hS5.box.cell 10
    simp only [List.getElem?_toArray, List.getElem?_cons_zero, List.getElem?_cons_succ] at y0 y1 y2 y3 y4 y5 y6 y7 y8 y9 y10
    have x0 := hS5.ret.cell 0
    have x1 := hS5.ret.cell 1
    have x2 := hS5.ret.cell 2
    have x3 := hS5.ret.cell 3
    have x4 := hS5.ret.cell 4
    have x5 := hS5.ret.cell 5
    have x6 := hS5.ret.cell 6
    have x7 := hS5.ret.cell 7
    have x8 := hS5.ret.cell 8
    have x9 := hS5.ret.cell 9
    have x10 := hS5.ret.cell 10
    simp only [List.getElem?_toArray, List.getElem?_cons_zero, List.getElem?_cons_succ] at x0 x1 x2 x3 x4 x5 x6 x7 x8 x9 x10
    have f0 := hS5.ret.frozen 0
    have f1 := hS5.ret.frozen 1
    have f2 := hS5.ret.frozen 2
    have f3 := hS5.ret.frozen 3
    have f4 := hS5.ret.frozen 4
    have f5 := hS5.ret.frozen 5
    have f6 := hS5.ret.frozen 6
    have f7 := hS5.ret.frozen 7
    have f8 := hS5.ret.frozen 8
    have f9 := hS5.ret.frozen 9
    have f10 := hS5.ret.frozen 10
    have HS := Lib.hid hS5
    have hlB := hS5.ret.lt
    clear hS5
    go_wp2_with fail
    obtain ⟨wn, hwn⟩ : ∃ wn, wn = (((((((((((((((w4.setCell ⟨w2.heap.size, 7, none⟩ (.int .i64 x.kind)).setCell ⟨w2.heap.size, 8, none⟩ (.int .i64 x.n)).setCell ⟨w2.heap.size, 9, none⟩ (.string x.s)).setCell ⟨w2.heap.size, 10, none⟩ (.slice A3 x.kids.length c3)).setCell ⟨w.heap.size, 0, none⟩ (.int .i64 s.kind)).setCell ⟨w.heap.size, 1, none⟩ (.string s.name)).setCell ⟨w.heap.size, 2, none⟩ (.string s.typ)).setCell ⟨w.heap.size, 3, none⟩ (.int .i64 s.e.kind)).setCell ⟨w.heap.size, 4, none⟩ (.int .i64 s.e.n)).setCell ⟨w.heap.size, 5, none⟩ (.string s.e.s)).setCell ⟨w.heap.size, 6, none⟩ (.slice A1 s.e.kids.length c1)).setCell ⟨w.heap.size, 7, none⟩ (.int .i64 x.kind)).setCell ⟨w.heap.size, 8, none⟩ (.int .i64 x.n)).setCell ⟨w.heap.size, 9, none⟩ (.string x.s)).setCell ⟨w.heap.size, 10, none⟩ (.slice A3 x.kids.length c3)) := ⟨_, rfl⟩
    have hwa : wn = setAll ((((w4.setCell ⟨w2.heap.size, 7, none⟩ (.int .i64 x.kind)).setCell ⟨w2.heap.size, 8, none⟩ (.int .i64 x.n)).setCell ⟨w2.heap.size, 9, none⟩ (.string x.s)).setCell ⟨w2.heap.size, 10, none⟩ (.slice A3 x.kids.length c3)) w.heap.size 0 [.int .i64 s.kind, .string s.name, .string s.typ, .int .i64 s.e.kind, .int .i64 s.e.n, .string s.e.s, .slice A1 s.e.kids.length c1, .int .i64 x.kind, .int .i64 x.n, .string x.s, .slice A3 x.kids.length c3] := by rw [hwn]; rfl
    rw [← hwn]
    clear hwn
    obtain ⟨hBn, hRn, hO1n, hO2n⟩ := HS.out.finish (K := KK) (p := p) rfl hwa hgw (by omega) (by omega)
    have r0 := hBn.cell 0
    have r1 := hBn.cell 1
    have r2 := hBn.cell 2
    have r3 := hBn.cell 3
    have r4 := hBn.cell 4
    have r5 := hBn.cell 5
    have r6 := hBn.cell 6
    have r7 := hBn.cell 7
    have r8 := hBn.cell 8
    have r9 := hBn.cell 9
    have r10 := hBn.cell 10
    simp only [List.getElem?_toArray, List.getElem?_cons_zero, List.getElem?_cons_succ] at r0 r1 r2 r3 r4 r5 r6 r7 r8 r9 r10
    refine bodyPost_ret (v := .agg #[.int .i64 s.kind, .string s.name, .string s.typ, .int .i64 s.e.kind, .int .i64 s.e.n, .string s.e.s, .slice A1 s.e.kids.length c1, .int .i64 x.kind, .int .i64 x.n, .string x.s, .slice A3 x.kids.length c3]) (by simp [results, Tryz.results31, go_sem, r0, r1, r2, r3, r4, r5, r6, r7, r8, r9, r10]) rfl ?_
    exact ⟨⟨s.kind, s.name, s.typ, s.e, x⟩, A1, A3, c1, c3, rfl, hc1, hc3, hO1n, hO2n, by have := HW.out; simp only [St.wt]; omega, hRn⟩
  have pv3 : ((v : Int) == 3) = false := by rw [beq_eq_false_iff_ne]; omega
  have y0 := hS.box.cell 0
  have y1 := hS.box.cell 1
  have y2 := hS.box.cell 2
  have y3 := hS.box.cell 3
  have y4 := hS.box.cell 4
  have y5 := hS.box.cell 5
  have y6 := hS.box.cell 6
  have y7 := hS.box.cell 7
  have y8 := hS.box.cell 8
  have y9 := hS.box.cell 9
  have y10 := hS.box.cell 10
  simp only [List.getElem?_toArray, List.getElem?_cons_zero, List.getElem?_cons_succ] at y0 y1 y2 y3 y4 y5 y6 y7 y8 y9 y10
  have x0 := hS.ret.cell 0
  have x1 := hS.ret.cell 1
  have x2 := hS.ret.cell 2
  have x3 := hS.ret.cell 3
  have x4 := hS.ret.cell 4
  have x5 := hS.ret.cell 5
  have x6 := hS.ret.cell 6
  have x7 := hS.ret.cell 7
  have x8 := hS.ret.cell 8
  have x9 := hS.ret.cell 9
  have x10 := hS.ret.cell 10
  simp only [List.getElem?_toArray, List.getElem?_cons_zero, List.getElem?_cons_succ] at x0 x1 x2 x3 x4 x5 x6 x7 x8 x9 x10
  have f0 := hS.ret.frozen 0
  have f1 := hS.ret.frozen 1
  have f2 := hS.ret.frozen 2
  have f3 := hS.ret.frozen 3
  have f4 := hS.ret.frozen 4
  have f5 := hS.ret.frozen 5
  have f6 := hS.ret.frozen 6
  have f7 := hS.ret.frozen 7
  have f8 := hS.ret.frozen 8
  have f9 := hS.ret.frozen 9
  have f10 := hS.ret.frozen 10
  have HS := Lib.hid hS
  have hlB := hS.ret.lt
  clear hS
  go_wp2_with fail
  obtain ⟨wn, hwn⟩ : ∃ wn, wn = (((((((((((w3.setCell ⟨w.heap.size, 0, none⟩ (.int .i64 s.kind)).setCell ⟨w.heap.size, 1, none⟩ (.string s.name)).setCell ⟨w.heap.size, 2, none⟩ (.string s.typ)).setCell ⟨w.heap.size, 3, none⟩ (.int .i64 s.e.kind)).setCell ⟨w.heap.size, 4, none⟩ (.int .i64 s.e.n)).setCell ⟨w.heap.size, 5, none⟩ (.string s.e.s)).setCell ⟨w.heap.size, 6, none⟩ (.slice A1 s.e.kids.length c1)).setCell ⟨w.heap.size, 7, none⟩ (.int .i64 s.t.kind)).setCell ⟨w.heap.size, 8, none⟩ (.int .i64 s.t.n)).setCell ⟨w.heap.size, 9, none⟩ (.string s.t.s)).setCell ⟨w.heap.size, 10, none⟩ (.slice A2 s.t.kids.length c2)) := ⟨_, rfl⟩
  have hwa : wn = setAll (w3) w.heap.size 0 [.int .i64 s.kind, .string s.name, .string s.typ, .int .i64 s.e.kind, .int .i64 s.e.n, .string s.e.s, .slice A1 s.e.kids.length c1, .int .i64 s.t.kind, .int .i64 s.t.n, .string s.t.s, .slice A2 s.t.kids.length c2] := by rw [hwn]; rfl
  rw [← hwn]
  clear hwn
  obtain ⟨hBn, hRn, hO1n, hO2n⟩ := HS.out.finish (K := KK) (p := p) rfl hwa hgw (by omega) (by omega)
  have r0 := hBn.cell 0
  have r1 := hBn.cell 1
  have r2 := hBn.cell 2
  have r3 := hBn.cell 3
  have r4 := hBn.cell 4
  have r5 := hBn.cell 5
  have r6 := hBn.cell 6
  have r7 := hBn.cell 7
  have r8 := hBn.cell 8
  have r9 := hBn.cell 9
  have r10 := hBn.cell 10
  simp only [List.getElem?_toArray, List.getElem?_cons_zero, List.getElem?_cons_succ] at r0 r1 r2 r3 r4 r5 r6 r7 r8 r9 r10
  refine bodyPost_ret (v := .agg #[.int .i64 s.kind, .string s.name, .string s.typ, .int .i64 s.e.kind, .int .i64 s.e.n, .string s.e.s, .slice A1 s.e.kids.length c1, .int .i64 s.t.kind, .int .i64 s.t.n, .string s.t.s, .slice A2 s.t.kids.length c2]) (by simp [results, Tryz.results31, go_sem, r0, r1, r2, r3, r4, r5, r6, r7, r8, r9, r10]) rfl ?_
  exact ⟨s, A1, A2, c1, c2, rfl, hc1, hc2, hO1n, hO2n, by omega, hRn⟩
/-- A line was drawn, in memory of its own. -/
def DrawnS (w : World) (r : Ending) (w' : World) : Prop :=
  ∃ (s : St) (A1 A2 : Option Addr) (c1 c2 : Nat), r = .returned (stV s A1 A2 c1 c2) ∧ s.e.kids.length ≤ c1 ∧ s.t.kids.length ≤ c2 ∧ OwnIn w.heap.size w' s.e A1 ∧ OwnIn w.heap.size w' s.t A2 ∧ s.wt ≤ 5000 ∧ Below w.heap.size w w'
theorem OwnIn.kids {lo0 : Nat} {W : World} {e : Ex} {A : Option Addr} (h : OwnIn lo0 W e A) : KidsU W W.heap.size A e.kids := by
  obtain ⟨lo, hi, _, h2, h3⟩ := h
  exact own_kidsU e lo hi A _ h3 h2
end Go.Proofs.YtabignplhkbcpaaGreatDoor
