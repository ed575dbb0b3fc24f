/-
  The contracts of the model's l4Expr: what is drawn to be reckoned, for all codes.
-/
import Derived.Test.YtaclndbilpaboaaGreatDoorOwnMk
import Derived.Test.YtaclndbilpaboaaGreatDoorRd
namespace Go.Proofs.YtaclndbilpaboaaGreatDoor
open Go.RowKit

mutual
/-- No text in it has more than four bytes. -/
def Ex.short : Ex → Prop
  | .mk _ _ s ks => s.size ≤ 4 ∧ Ex.shorts ks
def Ex.shorts : List Ex → Prop
  | [] => True
  | e :: es => e.short ∧ Ex.shorts es
end
theorem short_of {l : List ByteArray} (h : ∀ s ∈ l, s.size ≤ 4) {s : ByteArray} (hs : s ∈ l) : s.size ≤ 4 := h s hs
def bndE : Nat → Nat
  | 0 => 10
  | d + 1 => 2 * bndE d + 10
def rdE : Nat → Nat
  | 0 => 3
  | d + 1 => 2 * rdE d + 5
theorem bndE_succ (d : Nat) : bndE (d + 1) = 2 * bndE d + 10 := rfl
theorem rdE_succ (d : Nat) : rdE (d + 1) = 2 * rdE d + 5 := rfl

theorem of_lit (ss : List ByteArray) (B g : Nat) (A : Option Addr) (len cap p : Nat) (w : World) (hr : Rd w B g A len cap p) (hp : p ≤ 2 ^ 30) (hn : 0 < ss.length) (hn2 : ss.length ≤ 2 ^ 20) :
    Calls Tryz.prog 35 #[.pointer (some ⟨g, 0, none⟩), .slice (some ⟨w.heap.size, 0, none⟩) ss.length ss.length] (w.alloc (.cells (ss.map strV).toArray 9)) fun r w' => ∃ s, s ∈ ss ∧ r = .returned (.string s) ∧ ∃ q, p ≤ q ∧ q ≤ p + 1 ∧ Rd w' B g A len cap q ∧ w.grownBy w' (some g) := by
  refine (of_any B g A len cap p w.heap.size ss.length ss.length ss _ (hr.alloc _) hp rfl hn hn2 (by simp) (by have := hr.lt; omega) (fun j hj => by rw [cell_made]; simp [hj, strV])).mono ?_
  rintro r w' ⟨u, hu, rfl, q, h1, h2, h3, h4⟩
  obtain ⟨s, hs, rfl⟩ := List.mem_map.1 hu
  exact ⟨s, hs, rfl, q, h1, h2, h3, grown_trans (grown_alloc (grown_refl w (some g)) _) h4⟩
theorem num_lit (zs : List Int) (B g : Nat) (A : Option Addr) (len cap p : Nat) (w : World) (hr : Rd w B g A len cap p) (hp : p ≤ 2 ^ 30) (hn : 0 < zs.length) (hn2 : zs.length ≤ 2 ^ 20) :
    Calls Tryz.prog 36 #[.pointer (some ⟨g, 0, none⟩), .slice (some ⟨w.heap.size, 0, none⟩) zs.length zs.length] (w.alloc (.cells (zs.map (Value.int .i64)).toArray 3)) fun r w' => ∃ z, z ∈ zs ∧ r = .returned (.int .i64 z) ∧ ∃ q, p ≤ q ∧ q ≤ p + 1 ∧ Rd w' B g A len cap q ∧ w.grownBy w' (some g) := by
  refine (num_any B g A len cap p w.heap.size zs.length zs.length zs _ (hr.alloc _) hp rfl hn hn2 (by simp) (by have := hr.lt; omega) (fun j hj => by rw [cell_made]; simp [hj])).mono ?_
  rintro r w' ⟨u, hu, rfl, q, h1, h2, h3, h4⟩
  obtain ⟨s, hs, rfl⟩ := List.mem_map.1 hu
  exact ⟨s, hs, rfl, q, h1, h2, h3, grown_trans (grown_alloc (grown_refl w (some g)) _) h4⟩

theorem blk_grown {w w' : World} {g b : Nat} {cur : Array Value} (h : Blk w b cur) (hg : w.grownBy w' (some g)) (hne : b ≠ g) : Blk w' b cur := (hg.block b h.lt (fun e => hne (by injection e))).trans h
theorem rd_keep {w w' : World} {B g : Nat} {A : Option Addr} {len cap p : Nat} (h : Rd w B g A len cap p) (h1 : w'.heap[g]? = w.heap[g]?) (h2 : ∀ k, k < B → w'.heap[k]? = w.heap[k]?) : Rd w' B g A len cap p := by
  refine ⟨h1.trans h.1, h.2.1, ?_, h.2.2.2⟩
  rcases h.2.2.1 with h0 | ⟨hh, off, e, hlt, hc⟩
  · exact .inl h0
  · refine .inr ⟨hh, off, e, hlt, fun j hj => ?_⟩
    obtain ⟨z, z0, z1, hz⟩ := hc j hj
    exact ⟨z, z0, z1, (World.cell?_of_block (a := ⟨hh, off + j, none⟩) (h2 hh hlt)).trans hz⟩
/-- A store of a whole result into its box. -/
theorem end_draw {w w2 : World} {B g : Nat} {A : Option Addr} {len cap p q k : Nat} {v0 v1 v2 v3 : Value} (hrd : Rd w2 B g A len cap q) (hq : p ≤ q) (hq2 : q ≤ p + k) (hgr : w.grownBy w2 (some g)) (hgw : g < w.heap.size) (hB : Blk w2 w.heap.size #[.int .i64 0, .int .i64 0, .string { data := #[] }, .slice none 0 0]) :
    ∀ wn, wn = (((w2.setCell ⟨w.heap.size, 0, none⟩ v0).setCell ⟨w.heap.size, 1, none⟩ v1).setCell ⟨w.heap.size, 2, none⟩ v2).setCell ⟨w.heap.size, 3, none⟩ v3 →
    Blk wn w.heap.size #[v0, v1, v2, v3] ∧ Read w B g A len cap p k wn ∧ (∀ j, j ≠ w.heap.size → wn.heap[j]? = w2.heap[j]?) ∧ wn.heap.size = w2.heap.size := by
  intro wn hwn
  have hsame : ∀ j, j ≠ w.heap.size → wn.heap[j]? = w2.heap[j]? := by
    intro j hj
    rw [hwn, Below.heap_setCell _ _ _ j hj, Below.heap_setCell _ _ _ j hj, Below.heap_setCell _ _ _ j hj, Below.heap_setCell _ _ _ j hj]
  have hsz : wn.heap.size = w2.heap.size := by rw [hwn]; simp
  refine ⟨?_, ⟨q, hq, hq2, rd_keep hrd (hsame g (by omega)) (fun k hk => hsame k (by have := hrd.2.1; omega)), ?_⟩, hsame, hsz⟩
  · rw [hwn]; exact (((hB.set 0 v0).set 1 v1).set 2 v2).set 3 v3
  · refine ⟨by rw [hwn]; exact hgr.os, by rw [hwn]; exact hgr.tape, by rw [hwn]; exact hgr.output, by rw [hsz]; exact hgr.size, fun i hi hne => (hsame i (by omega)).trans (hgr.block i hi hne)⟩

/-- Something to be reckoned was drawn by a reader, in memory of its own. -/
def DrewE (k m : Nat) (w : World) (B g : Nat) (A0 : Option Addr) (len cap p : Nat) (r : Ending) (w' : World) : Prop :=
  ∃ (e : Ex) (A : Option Addr) (c : Nat), r = .returned (.agg #[.int .i64 e.kind, .int .i64 e.n, .string e.s, .slice A e.kids.length c]) ∧ e.kids.length ≤ c ∧ OwnE w' e w.heap.size w'.heap.size A ∧ e.short ∧ e.wt ≤ m ∧ Read w B g A0 len cap p k w'
/-- The same, and it has the shape of one. -/
def DrewP (k m : Nat) (w : World) (B g : Nat) (A0 : Option Addr) (len cap p : Nat) (r : Ending) (w' : World) : Prop :=
  ∃ (e : Ex) (A : Option Addr) (c : Nat), r = .returned (.agg #[.int .i64 e.kind, .int .i64 e.n, .string e.s, .slice A e.kids.length c]) ∧ e.kids.length ≤ c ∧ OwnE w' e w.heap.size w'.heap.size A ∧ (e.short ∧ ∃ q : Pt, q.ex = e) ∧ e.wt ≤ m ∧ Read w B g A0 len cap p k w'
theorem DrewP.drop {k m : Nat} {w : World} {B g : Nat} {A0 : Option Addr} {len cap p : Nat} {r : Ending} {w' : World} (h : DrewP k m w B g A0 len cap p r w') : DrewE k m w B g A0 len cap p r w' := by
  obtain ⟨e, A, c, h1, h2, h3, h4, h5, h6⟩ := h
  exact ⟨e, A, c, h1, h2, h3, h4.1, h5, h6⟩

set_option maxRecDepth 100000 in
set_option maxHeartbeats 4000000 in
theorem l4Expr_shp (B g : Nat) (A0 : Option Addr) (len cap : Nat) : ∀ (d deep p : Nat) (w : World), d ≤ 10 → deep ≤ d + 1 → Rd w B g A0 len cap p → p + rdE d ≤ 2 ^ 20 →
    Calls Tryz.prog 58 #[.pointer (some ⟨g, 0, none⟩), .int .i64 (deep : Int)] w (DrewP (rdE d) (bndE d) w B g A0 len cap p) := by
  intro d
  induction d with
  | zero =>
    intro deep p w hd10 hd hr hp
    have q : decide ((deep : Int) ≤ 1) = true := by simp; omega
    have hgw := hr.lt
    have hgr0 : w.grownBy (w.alloc (.cells #[.int .i64 0, .int .i64 0, .string { data := #[] }, .slice none 0 0] 31)) (some g) := grown_alloc (grown_refl w (some g)) _
    have hB0 : Blk (w.alloc (.cells #[.int .i64 0, .int .i64 0, .string { data := #[] }, .slice none 0 0] 31)) w.heap.size #[.int .i64 0, .int .i64 0, .string { data := #[] }, .slice none 0 0] := World.alloc_heap_new w _
    have hr0 := hr.alloc (.cells #[.int .i64 0, .int .i64 0, .string { data := #[] }, .slice none 0 0] 31)
    have erd : rdE 0 = 3 := rfl
    have ebn : bndE 0 = 10 := rfl
    rw [erd] at hp ⊢
    rw [ebn]
    clear hr erd ebn
    go_enter Tryz.func58, Tryz.ntmps58
    go_wp2_with fail
    refine (pick_any B g A0 len cap p 2 _ hr0 (by omega) (by omega) (by omega)).mono ?_
    rintro r w1 ⟨v, hv, rfl, q1, hq1, hq2, hrd1, hgr1⟩
    have hgr1' := grown_trans hgr0 hgr1
    have hB1 := blk_grown hB0 hgr1 (by omega)
    by_cases hv0 : v = 0
    · subst hv0
      go_wp2_with fail
      refine (num_lit [0, 1, 2, 7, 30, 1000000] B g A0 len cap q1 w1 hrd1 (by omega) (by simp) (by simp)).mono ?_
      rintro r w2 ⟨z, hz, rfl, q2, hq3, hq4, hrd, hgr2⟩
      have hgr := grown_trans hgr1' hgr2
      have hB := blk_grown hB1 hgr2 (by omega)
      have hqa : p ≤ q2 := by omega
      have hqb : q2 ≤ p + 3 := by omega
      clear hrd1 hgr1 hgr1' hB1 hgr2 hz
      have x0 := hB.cell 0
      have x1 := hB.cell 1
      have x2 := hB.cell 2
      have x3 := hB.cell 3
      have f0 := hB.frozen 0
      have f1 := hB.frozen 1
      have f2 := hB.frozen 2
      have f3 := hB.frozen 3
      simp only [List.getElem?_toArray, List.getElem?_cons_zero, List.getElem?_cons_succ] at x0 x1 x2 x3
      have HEND := Lib.hid (end_draw (v0 := .int .i64 1) (v1 := .int .i64 z) (v2 := .string { data := #[] }) (v3 := .slice none 0 0) hrd hqa hqb hgr hgw hB)
      go_wp2_with fail
      obtain ⟨wn, hwn⟩ : ∃ wn, wn = (((w2.setCell ⟨w.heap.size, 0, none⟩ (.int .i64 1)).setCell ⟨w.heap.size, 1, none⟩ (.int .i64 z)).setCell ⟨w.heap.size, 2, none⟩ (.string { data := #[] })).setCell ⟨w.heap.size, 3, none⟩ (.slice none 0 0) := ⟨_, rfl⟩
      rw [← hwn]
      obtain ⟨hBn, hRn, hSn, hZn⟩ := HEND.out wn hwn
      have r0 := hBn.cell 0
      have r1 := hBn.cell 1
      have r2 := hBn.cell 2
      have r3 := hBn.cell 3
      simp only [List.getElem?_toArray, List.getElem?_cons_zero, List.getElem?_cons_succ] at r0 r1 r2 r3
      refine bodyPost_ret (v := .agg #[.int .i64 1, .int .i64 z, .string { data := #[] }, .slice none 0 0]) (by simp [results, Tryz.results58, go_sem, r0, r1, r2, r3]) rfl ?_
      refine ⟨.mk 1 (z) { data := #[] } [], none, _, rfl, Nat.le_refl _, own_nil _ _ _ _ _ _ _ (by rw [hZn]; exact hgr.size), ⟨by rw [Ex.short, Ex.shorts]; exact ⟨by decide, trivial⟩, .num z, rfl⟩, by rw [Ex.wt, Ex.wts, show (ByteArray.mk #[]).size = 0 from rfl]; omega, hRn⟩
    · have p0 : ((v : Int) == 0) = false := by rw [beq_eq_false_iff_ne]; omega
      go_wp2_with fail
      refine (of_lit [⟨#[120]⟩, ⟨#[121]⟩, ⟨#[122]⟩, ⟨#[120]⟩] B g A0 len cap q1 w1 hrd1 (by omega) (by simp) (by simp)).mono ?_
      rintro r w2 ⟨s, hs, rfl, q2, hq3, hq4, hrd, hgr2⟩
      have hgr := grown_trans hgr1' hgr2
      have hB := blk_grown hB1 hgr2 (by omega)
      have hqa : p ≤ q2 := by omega
      have hqb : q2 ≤ p + 3 := by omega
      have hsz : s.size ≤ 4 := short_of (by decide) hs
      clear hrd1 hgr1 hgr1' hB1 hgr2 hs
      have x0 := hB.cell 0
      have x1 := hB.cell 1
      have x2 := hB.cell 2
      have x3 := hB.cell 3
      have f0 := hB.frozen 0
      have f1 := hB.frozen 1
      have f2 := hB.frozen 2
      have f3 := hB.frozen 3
      simp only [List.getElem?_toArray, List.getElem?_cons_zero, List.getElem?_cons_succ] at x0 x1 x2 x3
      have HEND := Lib.hid (end_draw (v0 := .int .i64 2) (v1 := .int .i64 0) (v2 := .string s) (v3 := .slice none 0 0) hrd hqa hqb hgr hgw hB)
      go_wp2_with fail
      obtain ⟨wn, hwn⟩ : ∃ wn, wn = (((w2.setCell ⟨w.heap.size, 0, none⟩ (.int .i64 2)).setCell ⟨w.heap.size, 1, none⟩ (.int .i64 0)).setCell ⟨w.heap.size, 2, none⟩ (.string s)).setCell ⟨w.heap.size, 3, none⟩ (.slice none 0 0) := ⟨_, rfl⟩
      rw [← hwn]
      obtain ⟨hBn, hRn, hSn, hZn⟩ := HEND.out wn hwn
      have r0 := hBn.cell 0
      have r1 := hBn.cell 1
      have r2 := hBn.cell 2
      have r3 := hBn.cell 3
      simp only [List.getElem?_toArray, List.getElem?_cons_zero, List.getElem?_cons_succ] at r0 r1 r2 r3
      refine bodyPost_ret (v := .agg #[.int .i64 2, .int .i64 0, .string s, .slice none 0 0]) (by simp [results, Tryz.results58, go_sem, r0, r1, r2, r3]) rfl ?_
      refine ⟨.mk 2 (0) s [], none, _, rfl, Nat.le_refl _, own_nil _ _ _ _ _ _ _ (by rw [hZn]; exact hgr.size), ⟨by rw [Ex.short, Ex.shorts]; exact ⟨hsz, trivial⟩, .name s, rfl⟩, by rw [Ex.wt, Ex.wts]; omega, hRn⟩
  | succ d ih =>
    intro deep p w hd10 hd hr hp
    have hgw := hr.lt
    have hBg := hr.2.1
    have hgr0 : w.grownBy (w.alloc (.cells #[.int .i64 0, .int .i64 0, .string { data := #[] }, .slice none 0 0] 31)) (some g) := grown_alloc (grown_refl w (some g)) _
    have hB0 : Blk (w.alloc (.cells #[.int .i64 0, .int .i64 0, .string { data := #[] }, .slice none 0 0] 31)) w.heap.size #[.int .i64 0, .int .i64 0, .string { data := #[] }, .slice none 0 0] := World.alloc_heap_new w _
    have hr0 := hr.alloc (.cells #[.int .i64 0, .int .i64 0, .string { data := #[] }, .slice none 0 0] 31)
    rw [rdE_succ] at hp ⊢
    rw [bndE_succ]
    clear hr
    by_cases hdeep : deep ≤ 1
    · have q : decide ((deep : Int) ≤ 1) = true := by simp; omega
      clear ih
      go_enter Tryz.func58, Tryz.ntmps58
      go_wp2_with fail
      refine (pick_any B g A0 len cap p 2 _ hr0 (by omega) (by omega) (by omega)).mono ?_
      rintro r w1 ⟨v, hv, rfl, q1, hq1, hq2, hrd1, hgr1⟩
      have hgr1' := grown_trans hgr0 hgr1
      have hB1 := blk_grown hB0 hgr1 (by omega)
      by_cases hv0 : v = 0
      · subst hv0
        go_wp2_with fail
        refine (num_lit [0, 1, 2, 7, 30, 1000000] B g A0 len cap q1 w1 hrd1 (by omega) (by simp) (by simp)).mono ?_
        rintro r w2 ⟨z, hz, rfl, q2, hq3, hq4, hrd, hgr2⟩
        have hgr := grown_trans hgr1' hgr2
        have hB := blk_grown hB1 hgr2 (by omega)
        have hqa : p ≤ q2 := by omega
        have hqb : q2 ≤ p + (2 * rdE d + 5) := by omega
        clear hrd1 hgr1 hgr1' hB1 hgr2 hz
        have x0 := hB.cell 0
        have x1 := hB.cell 1
        have x2 := hB.cell 2
        have x3 := hB.cell 3
        have f0 := hB.frozen 0
        have f1 := hB.frozen 1
        have f2 := hB.frozen 2
        have f3 := hB.frozen 3
        simp only [List.getElem?_toArray, List.getElem?_cons_zero, List.getElem?_cons_succ] at x0 x1 x2 x3
        have HEND := Lib.hid (end_draw (v0 := .int .i64 1) (v1 := .int .i64 z) (v2 := .string { data := #[] }) (v3 := .slice none 0 0) hrd hqa hqb hgr hgw hB)
        go_wp2_with fail
        obtain ⟨wn, hwn⟩ : ∃ wn, wn = (((w2.setCell ⟨w.heap.size, 0, none⟩ (.int .i64 1)).setCell ⟨w.heap.size, 1, none⟩ (.int .i64 z)).setCell ⟨w.heap.size, 2, none⟩ (.string { data := #[] })).setCell ⟨w.heap.size, 3, none⟩ (.slice none 0 0) := ⟨_, rfl⟩
        rw [← hwn]
        obtain ⟨hBn, hRn, hSn, hZn⟩ := HEND.out wn hwn
        have r0 := hBn.cell 0
        have r1 := hBn.cell 1
        have r2 := hBn.cell 2
        have r3 := hBn.cell 3
        simp only [List.getElem?_toArray, List.getElem?_cons_zero, List.getElem?_cons_succ] at r0 r1 r2 r3
        refine bodyPost_ret (v := .agg #[.int .i64 1, .int .i64 z, .string { data := #[] }, .slice none 0 0]) (by simp [results, Tryz.results58, go_sem, r0, r1, r2, r3]) rfl ?_
        refine ⟨.mk 1 (z) { data := #[] } [], none, _, rfl, Nat.le_refl _, own_nil _ _ _ _ _ _ _ (by rw [hZn]; exact hgr.size), ⟨by rw [Ex.short, Ex.shorts]; exact ⟨by decide, trivial⟩, .num z, rfl⟩, by rw [Ex.wt, Ex.wts, show (ByteArray.mk #[]).size = 0 from rfl]; omega, hRn⟩
      · have p0 : ((v : Int) == 0) = false := by rw [beq_eq_false_iff_ne]; omega
        go_wp2_with fail
        refine (of_lit [⟨#[120]⟩, ⟨#[121]⟩, ⟨#[122]⟩, ⟨#[120]⟩] B g A0 len cap q1 w1 hrd1 (by omega) (by simp) (by simp)).mono ?_
        rintro r w2 ⟨s, hs, rfl, q2, hq3, hq4, hrd, hgr2⟩
        have hgr := grown_trans hgr1' hgr2
        have hB := blk_grown hB1 hgr2 (by omega)
        have hqa : p ≤ q2 := by omega
        have hqb : q2 ≤ p + (2 * rdE d + 5) := by omega
        have hsz : s.size ≤ 4 := short_of (by decide) hs
        clear hrd1 hgr1 hgr1' hB1 hgr2 hs
        have x0 := hB.cell 0
        have x1 := hB.cell 1
        have x2 := hB.cell 2
        have x3 := hB.cell 3
        have f0 := hB.frozen 0
        have f1 := hB.frozen 1
        have f2 := hB.frozen 2
        have f3 := hB.frozen 3
        simp only [List.getElem?_toArray, List.getElem?_cons_zero, List.getElem?_cons_succ] at x0 x1 x2 x3
        have HEND := Lib.hid (end_draw (v0 := .int .i64 2) (v1 := .int .i64 0) (v2 := .string s) (v3 := .slice none 0 0) hrd hqa hqb hgr hgw hB)
        go_wp2_with fail
        obtain ⟨wn, hwn⟩ : ∃ wn, wn = (((w2.setCell ⟨w.heap.size, 0, none⟩ (.int .i64 2)).setCell ⟨w.heap.size, 1, none⟩ (.int .i64 0)).setCell ⟨w.heap.size, 2, none⟩ (.string s)).setCell ⟨w.heap.size, 3, none⟩ (.slice none 0 0) := ⟨_, rfl⟩
        rw [← hwn]
        obtain ⟨hBn, hRn, hSn, hZn⟩ := HEND.out wn hwn
        have r0 := hBn.cell 0
        have r1 := hBn.cell 1
        have r2 := hBn.cell 2
        have r3 := hBn.cell 3
        simp only [List.getElem?_toArray, List.getElem?_cons_zero, List.getElem?_cons_succ] at r0 r1 r2 r3
        refine bodyPost_ret (v := .agg #[.int .i64 2, .int .i64 0, .string s, .slice none 0 0]) (by simp [results, Tryz.results58, go_sem, r0, r1, r2, r3]) rfl ?_
        refine ⟨.mk 2 (0) s [], none, _, rfl, Nat.le_refl _, own_nil _ _ _ _ _ _ _ (by rw [hZn]; exact hgr.size), ⟨by rw [Ex.short, Ex.shorts]; exact ⟨hsz, trivial⟩, .name s, rfl⟩, by rw [Ex.wt, Ex.wts]; omega, hRn⟩
    have q : decide ((deep : Int) ≤ 1) = false := by simp; omega
    have HI := Lib.hid (fun (p : Nat) (W : World) (h1 : Rd W B g A0 len cap p) (h2 : p + rdE d ≤ 2 ^ 20) => ih (deep - 1) p W (by omega) (by omega) h1 h2)
    rw [show ((deep - 1 : Nat) : Int) = (deep : Int) - 1 by omega] at HI
    clear ih
    go_enter Tryz.func58, Tryz.ntmps58
    go_wp2_with fail
    refine (pick_any B g A0 len cap p 4 _ hr0 (by omega) (by omega) (by omega)).mono ?_
    rintro r wa ⟨va, hva, rfl, qa, hqa1, hqa2, hrda, hgra'⟩
    have hgra := grown_trans hgr0 hgra'
    have hBa := blk_grown hB0 hgra' (by omega)
    clear hgra' hr0 hgr0 hB0
    by_cases hva0 : va = 0
    · subst hva0
      clear HI
      go_wp2_with fail
      refine (pick_any B g A0 len cap qa 2 _ hrda (by omega) (by omega) (by omega)).mono ?_
      rintro r w1 ⟨v, hv, rfl, q1, hq1, hq2, hrd1, hgr1⟩
      have hgr1' := grown_trans hgra hgr1
      have hB1 := blk_grown hBa hgr1 (by omega)
      by_cases hv0 : v = 0
      · subst hv0
        go_wp2_with fail
        refine (num_lit [0, 1, 2, 7, 30, 1000000] B g A0 len cap q1 w1 hrd1 (by omega) (by simp) (by simp)).mono ?_
        rintro r w2 ⟨z, hz, rfl, q2, hq3, hq4, hrd, hgr2⟩
        have hgr := grown_trans hgr1' hgr2
        have hB := blk_grown hB1 hgr2 (by omega)
        have hqa : p ≤ q2 := by omega
        have hqb : q2 ≤ p + (2 * rdE d + 5) := by omega
        clear hrd1 hgr1 hgr1' hB1 hgr2 hz
        have x0 := hB.cell 0
        have x1 := hB.cell 1
        have x2 := hB.cell 2
        have x3 := hB.cell 3
        have f0 := hB.frozen 0
        have f1 := hB.frozen 1
        have f2 := hB.frozen 2
        have f3 := hB.frozen 3
        simp only [List.getElem?_toArray, List.getElem?_cons_zero, List.getElem?_cons_succ] at x0 x1 x2 x3
        have HEND := Lib.hid (end_draw (v0 := .int .i64 1) (v1 := .int .i64 z) (v2 := .string { data := #[] }) (v3 := .slice none 0 0) hrd hqa hqb hgr hgw hB)
        go_wp2_with fail
        obtain ⟨wn, hwn⟩ : ∃ wn, wn = (((w2.setCell ⟨w.heap.size, 0, none⟩ (.int .i64 1)).setCell ⟨w.heap.size, 1, none⟩ (.int .i64 z)).setCell ⟨w.heap.size, 2, none⟩ (.string { data := #[] })).setCell ⟨w.heap.size, 3, none⟩ (.slice none 0 0) := ⟨_, rfl⟩
        rw [← hwn]
        obtain ⟨hBn, hRn, hSn, hZn⟩ := HEND.out wn hwn
        have r0 := hBn.cell 0
        have r1 := hBn.cell 1
        have r2 := hBn.cell 2
        have r3 := hBn.cell 3
        simp only [List.getElem?_toArray, List.getElem?_cons_zero, List.getElem?_cons_succ] at r0 r1 r2 r3
        refine bodyPost_ret (v := .agg #[.int .i64 1, .int .i64 z, .string { data := #[] }, .slice none 0 0]) (by simp [results, Tryz.results58, go_sem, r0, r1, r2, r3]) rfl ?_
        refine ⟨.mk 1 (z) { data := #[] } [], none, _, rfl, Nat.le_refl _, own_nil _ _ _ _ _ _ _ (by rw [hZn]; exact hgr.size), ⟨by rw [Ex.short, Ex.shorts]; exact ⟨by decide, trivial⟩, .num z, rfl⟩, by rw [Ex.wt, Ex.wts, show (ByteArray.mk #[]).size = 0 from rfl]; omega, hRn⟩
      · have p0 : ((v : Int) == 0) = false := by rw [beq_eq_false_iff_ne]; omega
        go_wp2_with fail
        refine (of_lit [⟨#[120]⟩, ⟨#[121]⟩, ⟨#[122]⟩, ⟨#[120]⟩] B g A0 len cap q1 w1 hrd1 (by omega) (by simp) (by simp)).mono ?_
        rintro r w2 ⟨s, hs, rfl, q2, hq3, hq4, hrd, hgr2⟩
        have hgr := grown_trans hgr1' hgr2
        have hB := blk_grown hB1 hgr2 (by omega)
        have hqa : p ≤ q2 := by omega
        have hqb : q2 ≤ p + (2 * rdE d + 5) := by omega
        have hsz : s.size ≤ 4 := short_of (by decide) hs
        clear hrd1 hgr1 hgr1' hB1 hgr2 hs
        have x0 := hB.cell 0
        have x1 := hB.cell 1
        have x2 := hB.cell 2
        have x3 := hB.cell 3
        have f0 := hB.frozen 0
        have f1 := hB.frozen 1
        have f2 := hB.frozen 2
        have f3 := hB.frozen 3
        simp only [List.getElem?_toArray, List.getElem?_cons_zero, List.getElem?_cons_succ] at x0 x1 x2 x3
        have HEND := Lib.hid (end_draw (v0 := .int .i64 2) (v1 := .int .i64 0) (v2 := .string s) (v3 := .slice none 0 0) hrd hqa hqb hgr hgw hB)
        go_wp2_with fail
        obtain ⟨wn, hwn⟩ : ∃ wn, wn = (((w2.setCell ⟨w.heap.size, 0, none⟩ (.int .i64 2)).setCell ⟨w.heap.size, 1, none⟩ (.int .i64 0)).setCell ⟨w.heap.size, 2, none⟩ (.string s)).setCell ⟨w.heap.size, 3, none⟩ (.slice none 0 0) := ⟨_, rfl⟩
        rw [← hwn]
        obtain ⟨hBn, hRn, hSn, hZn⟩ := HEND.out wn hwn
        have r0 := hBn.cell 0
        have r1 := hBn.cell 1
        have r2 := hBn.cell 2
        have r3 := hBn.cell 3
        simp only [List.getElem?_toArray, List.getElem?_cons_zero, List.getElem?_cons_succ] at r0 r1 r2 r3
        refine bodyPost_ret (v := .agg #[.int .i64 2, .int .i64 0, .string s, .slice none 0 0]) (by simp [results, Tryz.results58, go_sem, r0, r1, r2, r3]) rfl ?_
        refine ⟨.mk 2 (0) s [], none, _, rfl, Nat.le_refl _, own_nil _ _ _ _ _ _ _ (by rw [hZn]; exact hgr.size), ⟨by rw [Ex.short, Ex.shorts]; exact ⟨hsz, trivial⟩, .name s, rfl⟩, by rw [Ex.wt, Ex.wts]; omega, hRn⟩
    have pa : ((va : Int) == 0) = false := by rw [beq_eq_false_iff_ne]; omega
    go_wp2_with fail
    refine (pick_any B g A0 len cap qa 4 _ hrda (by omega) (by omega) (by omega)).mono ?_
    rintro r wb ⟨vb, hvb, rfl, qb, hqb1, hqb2, hrdb, hgrb'⟩
    have hgrb := grown_trans hgra hgrb'
    have hBb := blk_grown hBa hgrb' (by omega)
    clear hgrb' hrda hgra hBa
    by_cases hvb0 : vb = 0
    · subst hvb0
      go_wp2_with fail
      refine (of_lit [⟨#[105, 110, 116]⟩, ⟨#[98, 111, 111, 108]⟩, ⟨#[105, 110, 116]⟩] B g A0 len cap qb wb hrdb (by omega) (by simp) (by simp)).mono ?_
      rintro r wc ⟨s, hs, rfl, qc, hqc1, hqc2, hrdc, hgrc'⟩
      have hgrc := grown_trans hgrb hgrc'
      have hBc := blk_grown hBb hgrc' (by omega)
      have hsz : s.size ≤ 4 := short_of (by decide) hs
      clear hgrc' hrdb hgrb hBb hs
      go_wp2_with fail
      refine (HI.out qc wc hrdc (by omega)).mono ?_
      rintro r wd ⟨x, Ax, cx, rfl, hcx, hOx, hsx, hwx, qd, hqd1, hqd2, hrdd, hgrd'⟩
      have hgrd := grown_trans hgrc hgrd'
      have hBd := blk_grown hBc hgrd' (by omega)
      have hwc := hBc.lt
      have hwd := hgrd'.size
      obtain ⟨xk, xn, xs, xks⟩ := x
      simp only [Ex.kind, Ex.n, Ex.s, Ex.kids] at hcx ⊢
      have hrd := hrdd.alloc (.cells #[.int .i64 xk, .int .i64 xn, .string xs, .slice Ax xks.length cx] 31)
      have hgr := grown_alloc hgrd (.cells #[.int .i64 xk, .int .i64 xn, .string xs, .slice Ax xks.length cx] 31)
      have hB : Blk (wd.alloc (.cells #[.int .i64 xk, .int .i64 xn, .string xs, .slice Ax xks.length cx] 31)) w.heap.size #[.int .i64 0, .int .i64 0, .string { data := #[] }, .slice none 0 0] := (Below.heap_alloc _ _ _ hBd.lt).trans hBd
      have hBk : Blk (wd.alloc (.cells #[.int .i64 xk, .int .i64 xn, .string xs, .slice Ax xks.length cx] 31)) wd.heap.size #[.int .i64 xk, .int .i64 xn, .string xs, .slice Ax xks.length cx] := World.alloc_heap_new wd _
      have HOX := Lib.hid (own_keep (w' := wd.alloc (.cells #[.int .i64 xk, .int .i64 xn, .string xs, .slice Ax xks.length cx] 31)) (.mk xk xn xs xks) _ _ _ (fun k _ h => Below.heap_alloc _ _ _ h) hOx)
      have HBK := Lib.hid hBk
      have hqa : p ≤ qd := by omega
      have hqb : qd ≤ p + (2 * rdE d + 5) := by omega
      have HSX := Lib.hid hsx
      have hzs : (wd.alloc (.cells #[.int .i64 xk, .int .i64 xn, .string xs, .slice Ax xks.length cx] 31)).heap.size = wd.heap.size + 1 := by simp
      clear hgrd' hrdc hgrc hBc hrdd hgrd hBd hOx hBk hsx HI
      have x0 := hB.cell 0
      have x1 := hB.cell 1
      have x2 := hB.cell 2
      have x3 := hB.cell 3
      have f0 := hB.frozen 0
      have f1 := hB.frozen 1
      have f2 := hB.frozen 2
      have f3 := hB.frozen 3
      simp only [List.getElem?_toArray, List.getElem?_cons_zero, List.getElem?_cons_succ] at x0 x1 x2 x3
      have HEND := Lib.hid (end_draw (v0 := .int .i64 4) (v1 := .int .i64 0) (v2 := .string s) (v3 := .slice (some ⟨wd.heap.size, 0, none⟩) 1 1) hrd hqa hqb hgr hgw hB)
      go_wp2_with fail
      obtain ⟨wn, hwn⟩ : ∃ wn, wn = ((((wd.alloc (.cells #[.int .i64 xk, .int .i64 xn, .string xs, .slice Ax xks.length cx] 31)).setCell ⟨w.heap.size, 0, none⟩ (.int .i64 4)).setCell ⟨w.heap.size, 1, none⟩ (.int .i64 0)).setCell ⟨w.heap.size, 2, none⟩ (.string s)).setCell ⟨w.heap.size, 3, none⟩ (.slice (some ⟨wd.heap.size, 0, none⟩) 1 1) := ⟨_, rfl⟩
      rw [← hwn]
      obtain ⟨hBn, hRn, hSn, hZn⟩ := HEND.out wn hwn
      have r0 := hBn.cell 0
      have r1 := hBn.cell 1
      have r2 := hBn.cell 2
      have r3 := hBn.cell 3
      simp only [List.getElem?_toArray, List.getElem?_cons_zero, List.getElem?_cons_succ] at r0 r1 r2 r3
      refine bodyPost_ret (v := .agg #[.int .i64 4, .int .i64 0, .string s, .slice (some ⟨wd.heap.size, 0, none⟩) 1 1]) (by simp [results, Tryz.results58, go_sem, r0, r1, r2, r3]) rfl ?_
      refine ⟨.mk 4 (0) s [.mk xk xn xs xks], some ⟨wd.heap.size, 0, none⟩, _, rfl, Nat.le_refl _, own_wide (own_one (D := Ax) (c := cx) ((hSn wd.heap.size (by omega)).trans HBK.out) hcx (own_keep _ _ _ _ (fun k _ h => hSn k (by omega)) HOX.out) (Nat.le_refl _) (show wd.heap.size < wn.heap.size by omega)) (by omega) (Nat.le_refl _), ⟨by rw [Ex.short, Ex.shorts, Ex.shorts]; exact ⟨hsz, HSX.out.1, trivial⟩, (by obtain ⟨px, hpx⟩ := HSX.out.2; exact ⟨.as s px, by rw [Pt.ex, hpx]⟩)⟩, by rw [Ex.wt, Ex.wts, Ex.wts]; omega, hRn⟩
    · have pb : ((vb : Int) == 0) = false := by rw [beq_eq_false_iff_ne]; omega
      go_wp2_with fail
      refine (of_lit [⟨#[43]⟩, ⟨#[45]⟩, ⟨#[42]⟩, ⟨#[60]⟩, ⟨#[43]⟩, ⟨#[42]⟩] B g A0 len cap qb wb hrdb (by omega) (by simp) (by simp)).mono ?_
      rintro r wc ⟨s, hs, rfl, qc, hqc1, hqc2, hrdc, hgrc'⟩
      have hgrc := grown_trans hgrb hgrc'
      have hBc := blk_grown hBb hgrc' (by omega)
      have hsz : s.size ≤ 1 := (show ∀ x ∈ ([⟨#[43]⟩, ⟨#[45]⟩, ⟨#[42]⟩, ⟨#[60]⟩, ⟨#[43]⟩, ⟨#[42]⟩] : List ByteArray), x.size ≤ 1 by decide) s hs
      clear hgrc' hrdb hgrb hBb hs
      go_wp2_with fail
      refine (HI.out qc wc hrdc (by omega)).mono ?_
      rintro r wd ⟨x, Ax, cx, rfl, hcx, hOx, hsx, hwx, qd, hqd1, hqd2, hrdd, hgrd'⟩
      have hgrd := grown_trans hgrc hgrd'
      have hBd := blk_grown hBc hgrd' (by omega)
      have hwc := hBc.lt
      have hwd := hgrd'.size
      clear hgrd' hrdc hgrc hBc
      go_wp2_with fail
      refine (HI.out qd wd hrdd (by omega)).mono ?_
      rintro r wf ⟨y, Ay, cy, rfl, hcy, hOy, hsy, hwy, qf, hqf1, hqf2, hrdf, hgrf'⟩
      have hgrf := grown_trans hgrd hgrf'
      have hBf := blk_grown hBd hgrf' (by omega)
      have hwf := hgrf'.size
      have hOx2 := own_keep _ _ _ _ (fun k h1 h2 => hgrf'.block k h2 (fun e => by injection e with e; omega)) hOx
      obtain ⟨xk, xn, xs, xks⟩ := x
      obtain ⟨yk, yn, ys, yks⟩ := y
      simp only [Ex.kind, Ex.n, Ex.s, Ex.kids] at hcx hcy ⊢
      have hrd := hrdf.alloc (.cells #[.int .i64 xk, .int .i64 xn, .string xs, .slice Ax xks.length cx, .int .i64 yk, .int .i64 yn, .string ys, .slice Ay yks.length cy] 31)
      have hgr := grown_alloc hgrf (.cells #[.int .i64 xk, .int .i64 xn, .string xs, .slice Ax xks.length cx, .int .i64 yk, .int .i64 yn, .string ys, .slice Ay yks.length cy] 31)
      have hB : Blk (wf.alloc (.cells #[.int .i64 xk, .int .i64 xn, .string xs, .slice Ax xks.length cx, .int .i64 yk, .int .i64 yn, .string ys, .slice Ay yks.length cy] 31)) w.heap.size #[.int .i64 0, .int .i64 0, .string { data := #[] }, .slice none 0 0] := (Below.heap_alloc _ _ _ hBf.lt).trans hBf
      have HBK := Lib.hid (show Blk (wf.alloc (.cells #[.int .i64 xk, .int .i64 xn, .string xs, .slice Ax xks.length cx, .int .i64 yk, .int .i64 yn, .string ys, .slice Ay yks.length cy] 31)) wf.heap.size #[.int .i64 xk, .int .i64 xn, .string xs, .slice Ax xks.length cx, .int .i64 yk, .int .i64 yn, .string ys, .slice Ay yks.length cy] from World.alloc_heap_new wf _)
      have HOX := Lib.hid (own_keep (w' := wf.alloc (.cells #[.int .i64 xk, .int .i64 xn, .string xs, .slice Ax xks.length cx, .int .i64 yk, .int .i64 yn, .string ys, .slice Ay yks.length cy] 31)) (.mk xk xn xs xks) _ _ _ (fun k _ h => Below.heap_alloc _ _ _ (by omega)) hOx2)
      have HOY := Lib.hid (own_keep (w' := wf.alloc (.cells #[.int .i64 xk, .int .i64 xn, .string xs, .slice Ax xks.length cx, .int .i64 yk, .int .i64 yn, .string ys, .slice Ay yks.length cy] 31)) (.mk yk yn ys yks) _ _ _ (fun k _ h => Below.heap_alloc _ _ _ h) hOy)
      have hqa : p ≤ qf := by omega
      have hqb : qf ≤ p + (2 * rdE d + 5) := by omega
      have HSX := Lib.hid hsx
      have HSY := Lib.hid hsy
      have hzs : (wf.alloc (.cells #[.int .i64 xk, .int .i64 xn, .string xs, .slice Ax xks.length cx, .int .i64 yk, .int .i64 yn, .string ys, .slice Ay yks.length cy] 31)).heap.size = wf.heap.size + 1 := by simp
      clear hgrf' hrdd hgrd hBd hrdf hgrf hBf hOx hOx2 hOy hsx hsy HI
      have x0 := hB.cell 0
      have x1 := hB.cell 1
      have x2 := hB.cell 2
      have x3 := hB.cell 3
      have f0 := hB.frozen 0
      have f1 := hB.frozen 1
      have f2 := hB.frozen 2
      have f3 := hB.frozen 3
      simp only [List.getElem?_toArray, List.getElem?_cons_zero, List.getElem?_cons_succ] at x0 x1 x2 x3
      have HEND := Lib.hid (end_draw (v0 := .int .i64 3) (v1 := .int .i64 0) (v2 := .string s) (v3 := .slice (some ⟨wf.heap.size, 0, none⟩) 2 2) hrd hqa hqb hgr hgw hB)
      go_wp2_with fail
      obtain ⟨wn, hwn⟩ : ∃ wn, wn = ((((wf.alloc (.cells #[.int .i64 xk, .int .i64 xn, .string xs, .slice Ax xks.length cx, .int .i64 yk, .int .i64 yn, .string ys, .slice Ay yks.length cy] 31)).setCell ⟨w.heap.size, 0, none⟩ (.int .i64 3)).setCell ⟨w.heap.size, 1, none⟩ (.int .i64 0)).setCell ⟨w.heap.size, 2, none⟩ (.string s)).setCell ⟨w.heap.size, 3, none⟩ (.slice (some ⟨wf.heap.size, 0, none⟩) 2 2) := ⟨_, rfl⟩
      rw [← hwn]
      obtain ⟨hBn, hRn, hSn, hZn⟩ := HEND.out wn hwn
      have r0 := hBn.cell 0
      have r1 := hBn.cell 1
      have r2 := hBn.cell 2
      have r3 := hBn.cell 3
      simp only [List.getElem?_toArray, List.getElem?_cons_zero, List.getElem?_cons_succ] at r0 r1 r2 r3
      refine bodyPost_ret (v := .agg #[.int .i64 3, .int .i64 0, .string s, .slice (some ⟨wf.heap.size, 0, none⟩) 2 2]) (by simp [results, Tryz.results58, go_sem, r0, r1, r2, r3]) rfl ?_
      refine ⟨.mk 3 (0) s [.mk xk xn xs xks, .mk yk yn ys yks], some ⟨wf.heap.size, 0, none⟩, _, rfl, Nat.le_refl _, own_wide (own_two (D := Ax) (c := cx) (E := Ay) (d := cy) ((hSn wf.heap.size (by omega)).trans HBK.out) hcx hcy (own_keep _ _ _ _ (fun k _ h => hSn k (by omega)) HOX.out) (own_keep _ _ _ _ (fun k _ h => hSn k (by omega)) HOY.out) (Nat.le_refl _) (show wf.heap.size < wn.heap.size by omega)) (by omega) (Nat.le_refl _), ⟨by rw [Ex.short, Ex.shorts, Ex.shorts, Ex.shorts]; exact ⟨by omega, HSX.out.1, HSY.out.1, trivial⟩, (by obtain ⟨px, hpx⟩ := HSX.out.2; obtain ⟨py, hpy⟩ := HSY.out.2; exact ⟨.two s px py, by rw [Pt.ex, hpx, hpy]⟩)⟩, by rw [Ex.wt, Ex.wts, Ex.wts, Ex.wts]; omega, hRn⟩
theorem l4Expr_any (B g : Nat) (A0 : Option Addr) (len cap : Nat) (d deep p : Nat) (w : World) (h1 : d ≤ 10) (h2 : deep ≤ d + 1) (h3 : Rd w B g A0 len cap p) (h4 : p + rdE d ≤ 2 ^ 20) :
    Calls Tryz.prog 58 #[.pointer (some ⟨g, 0, none⟩), .int .i64 (deep : Int)] w (DrewE (rdE d) (bndE d) w B g A0 len cap p) :=
  (l4Expr_shp B g A0 len cap d deep p w h1 h2 h3 h4).mono (fun _ _ h => h.drop)
end Go.Proofs.YtaclndbilpaboaaGreatDoor
