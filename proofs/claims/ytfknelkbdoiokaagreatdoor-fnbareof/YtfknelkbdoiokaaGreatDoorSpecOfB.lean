/-
  The contract of the model's BareOf.
-/
import Derived.Test.YtfknelkbdoiokaaGreatDoorGP
import Derived.Test.YtfknelkbdoiokaaGreatDoorDrawBr
import Derived.Test.YtfknelkbdoiokaaGreatDoorSpecOk2
namespace Go.Proofs.YtfknelkbdoiokaaGreatDoor
open Go.RowKit

theorem l7Of_turn {s : St} {d : De} (h : doS s = some d) (A1 A2 : Option Addr) (c1 c2 B : Nat) (w : World) (hA1 : KidsAt w B A1 s.e.kids) (hA2 : KidsAt w B A2 s.t.kids) (hc1 : s.e.kids.length ≤ c1) (hc2 : s.t.kids.length ≤ c2) (hB : B ≤ w.heap.size) :
    Calls Tryz.prog 82 #[stV s A1 A2 c1 c2] w (GivesBare (turnS s) w) := by
  rw [turnS_some h]
  obtain ⟨_, hs, _⟩ := doS_some h
  subst hs
  cases d with
  | noD => exact l7Of_zero _ _ _ _ A1 A2 c1 c2 w
  | letD n t p => exact l7Of_one 1 (by decide) (by decide) n t p _ A1 A2 c1 c2 B w hA1 hc1 hB
  | sayD p => exact l7Of_one 2 (by decide) (by decide) _ _ p _ A1 A2 c1 c2 B w hA1 hc1 hB
  | whenD p q => exact l7Of_two _ _ p q A1 A2 c1 c2 B w hA1 hA2 hc1 hc2 hB
theorem KidsIn.keep {lo lo' : Nat} {W W' : World} {A : Option Addr} {ks : List Ex} (h : KidsIn lo W A ks) (hl : lo' ≤ lo) (hs : W.heap.size ≤ W'.heap.size) (hk : ∀ k, lo ≤ k → k < W.heap.size → W'.heap[k]? = W.heap[k]?) : KidsIn lo' W' A ks :=
  KidsS.keep h (fun _ q => ⟨Nat.le_trans hl q.1, Nat.lt_of_lt_of_le q.2 hs⟩) (fun k q => hk k q.1 q.2)
set_option linter.unusedVariables false in
set_option linter.unusedSimpArgs false in
set_option maxRecDepth 100000 in
set_option maxHeartbeats 8000000 in
theorem specBareOf_any (s : St) (A1 A2 : Option Addr) (c1 c2 B : Nat) (w : World) (hA1 : KidsAt w B A1 s.e.kids) (hA2 : KidsAt w B A2 s.t.kids) (hc1 : s.e.kids.length ≤ c1) (hc2 : s.t.kids.length ≤ c2) (hB : B ≤ w.heap.size) (hwt : s.wt ≤ 2 ^ 29) :
    Calls Tryz.prog 31 #[stV s A1 A2 c1 c2] w (GivesBare (turnS s) w) := by
  obtain ⟨W0, hW0⟩ : ∃ W0, W0 = (w.alloc (.cells #[.int .i64 s.kind, .string s.name, .string s.typ, .int .i64 s.e.kind, .int .i64 s.e.n, .string s.e.s, .slice A1 s.e.kids.length c1, .int .i64 s.t.kind, .int .i64 s.t.n, .string s.t.s, .slice A2 s.t.kids.length c2] 35)).alloc (.cells #[.int .i64 0, .string { data := #[] }, .int .i64 0, .int .i64 0, .string { data := #[] }, .slice none 0 0, .int .i64 0, .int .i64 0, .string { data := #[] }, .slice none 0 0] 52) := ⟨_, rfl⟩
  have hb0 : Below w.heap.size w W0 := by rw [hW0]; exact ((Below.refl _ w).alloc (Nat.le_refl _) _).alloc (by simp) _
  have hs0 : W0.heap.size = w.heap.size + 1 + 1 := by rw [hW0]; simp
  have hS0 : BlkS W0 w.heap.size #[.int .i64 s.kind, .string s.name, .string s.typ, .int .i64 s.e.kind, .int .i64 s.e.n, .string s.e.s, .slice A1 s.e.kids.length c1, .int .i64 s.t.kind, .int .i64 s.t.n, .string s.t.s, .slice A2 s.t.kids.length c2] := by
    rw [hW0]; unfold BlkS
    rw [Below.heap_alloc _ _ _ (by simp)]
    exact World.alloc_heap_new w _
  have hR0 : BlkQ W0 (w.heap.size + 1) #[.int .i64 0, .string { data := #[] }, .int .i64 0, .int .i64 0, .string { data := #[] }, .slice none 0 0, .int .i64 0, .int .i64 0, .string { data := #[] }, .slice none 0 0] := by
    have := World.alloc_heap_new (w.alloc (.cells #[.int .i64 s.kind, .string s.name, .string s.typ, .int .i64 s.e.kind, .int .i64 s.e.n, .string s.e.s, .slice A1 s.e.kids.length c1, .int .i64 s.t.kind, .int .i64 s.t.n, .string s.t.s, .slice A2 s.t.kids.length c2] 35)) (.cells #[.int .i64 0, .string { data := #[] }, .int .i64 0, .int .i64 0, .string { data := #[] }, .slice none 0 0, .int .i64 0, .int .i64 0, .string { data := #[] }, .slice none 0 0] 52)
    rw [World.size_alloc] at this
    rw [hW0]; exact this
  have HOK := Lib.hid (specStmtOk_any s A1 A2 c1 c2 B W0 (hA1.keep (hb0.mono hB)) (hA2.keep (hb0.mono hB)) hc1 hc2 (Nat.le_trans hB hb0.size) hwt)
  have HLO := Lib.hid (fun (V : World) (hV : Below w.heap.size w V) (d : De) (hd : doS s = some d) => l7Of_turn hd A1 A2 c1 c2 B V (hA1.keep (hV.mono hB)) (hA2.keep (hV.mono hB)) hc1 hc2 (Nat.le_trans hB hV.size))
  have HS0 := Lib.hid hS0
  have HR0 := Lib.hid hR0
  clear hA1 hA2 hS0 hR0
  unfold stV at HOK HLO ⊢
  go_enter Tryz.func31, Tryz.ntmps31
  go_wp2_with fail
  rw [← hW0]
  clear hW0
  refine HOK.out.mono ?_
  rintro r w1 ⟨rfl, hb1⟩
  have hz1 := hb1.size
  have HB1 := Lib.hid (hb0.trans (hb1.mono hb0.size))
  have HR1 := Lib.hid (HR0.out.stay (hb1.block _ HR0.out.lt))
  cases hd : doS s with
  | none =>
    have HT := Lib.hid (turnS_none hd)
    have hR1 := HR1.out
    have e0 := hR1.cell 0
    have f0 := hR1.frozen 0
    have e1 := hR1.cell 1
    have f1 := hR1.frozen 1
    have e2 := hR1.cell 2
    have f2 := hR1.frozen 2
    have e3 := hR1.cell 3
    have f3 := hR1.frozen 3
    have e4 := hR1.cell 4
    have f4 := hR1.frozen 4
    have e5 := hR1.cell 5
    have f5 := hR1.frozen 5
    have e6 := hR1.cell 6
    have f6 := hR1.frozen 6
    have e7 := hR1.cell 7
    have f7 := hR1.frozen 7
    have e8 := hR1.cell 8
    have f8 := hR1.frozen 8
    have e9 := hR1.cell 9
    have f9 := hR1.frozen 9
    simp only [List.getElem?_toArray, List.getElem?_cons_zero, List.getElem?_cons_succ] at e0 e1 e2 e3 e4 e5 e6 e7 e8 e9
    have HR2 := HR1
    simp only [Option.isSome_none]
    clear hd hR1 HLO
    go_wp2_with fail
    obtain ⟨wn, hwn⟩ : ∃ wn, wn = ((((((((((w1.setCell ⟨w.heap.size + 1, 0, none⟩ (.int .i64 0)).setCell ⟨w.heap.size + 1, 1, none⟩ (.string { data := #[] })).setCell ⟨w.heap.size + 1, 2, none⟩ (.int .i64 0)).setCell ⟨w.heap.size + 1, 3, none⟩ (.int .i64 0)).setCell ⟨w.heap.size + 1, 4, none⟩ (.string { data := #[] })).setCell ⟨w.heap.size + 1, 5, none⟩ (.slice none 0 0)).setCell ⟨w.heap.size + 1, 6, none⟩ (.int .i64 0)).setCell ⟨w.heap.size + 1, 7, none⟩ (.int .i64 0)).setCell ⟨w.heap.size + 1, 8, none⟩ (.string { data := #[] })).setCell ⟨w.heap.size + 1, 9, none⟩ (.slice none 0 0)) := ⟨_, rfl⟩
    have hwa : wn = setAllQ w1 (w.heap.size + 1) 0 [.int .i64 0, .string { data := #[] }, .int .i64 0, .int .i64 0, .string { data := #[] }, .slice none 0 0, .int .i64 0, .int .i64 0, .string { data := #[] }, .slice none 0 0] := by rw [hwn]; rfl
    have hRn : BlkQ wn (w.heap.size + 1) #[.int .i64 0, .string { data := #[] }, .int .i64 0, .int .i64 0, .string { data := #[] }, .slice none 0 0, .int .i64 0, .int .i64 0, .string { data := #[] }, .slice none 0 0] := by rw [hwa]; exact setAllQ_blk [.int .i64 0, .string { data := #[] }, .int .i64 0, .int .i64 0, .string { data := #[] }, .slice none 0 0, .int .i64 0, .int .i64 0, .string { data := #[] }, .slice none 0 0] 0 _ w1 HR2.out rfl
    have hsn : ∀ k, k ≠ w.heap.size + 1 → wn.heap[k]? = w1.heap[k]? := fun k hk => by rw [hwa]; exact setAllQ_other _ _ _ _ hk
    have hzn : wn.heap.size = w1.heap.size := by rw [hwa]; exact setAllQ_size _ _ _ _
    have hosn : wn.os = w1.os ∧ wn.tape = w1.tape ∧ wn.output = w1.output := by rw [hwa]; exact setAllQ_os _ _ _ _
    rw [← hwn]
    clear hwn hwa
    have r0 := hRn.cell 0
    have r1 := hRn.cell 1
    have r2 := hRn.cell 2
    have r3 := hRn.cell 3
    have r4 := hRn.cell 4
    have r5 := hRn.cell 5
    have r6 := hRn.cell 6
    have r7 := hRn.cell 7
    have r8 := hRn.cell 8
    have r9 := hRn.cell 9
    simp only [List.getElem?_toArray, List.getElem?_cons_zero, List.getElem?_cons_succ] at r0 r1 r2 r3 r4 r5 r6 r7 r8 r9
    refine bodyPost_ret (v := .agg #[.int .i64 0, .string { data := #[] }, .int .i64 0, .int .i64 0, .string { data := #[] }, .slice none 0 0, .int .i64 0, .int .i64 0, .string { data := #[] }, .slice none 0 0]) (by simp [results, Tryz.results31, go_sem, r0, r1, r2, r3, r4, r5, r6, r7, r8, r9]) rfl ?_
    rw [HT.out]
    exact ⟨none, none, 0, 0, rfl, Nat.le_refl _, Nat.le_refl _, .nil, .nil, HB1.out.trans ⟨hosn.1, hosn.2.1, hosn.2.2, by omega, fun k hk => hsn k (by omega)⟩⟩
  | some d =>
    have HC := Lib.hid (HLO.out w1 HB1.out d hd)
    have hS1 := HS0.out.stay (hb1.block _ HS0.out.lt)
    have e0 := hS1.cell 0
    have e1 := hS1.cell 1
    have e2 := hS1.cell 2
    have e3 := hS1.cell 3
    have e4 := hS1.cell 4
    have e5 := hS1.cell 5
    have e6 := hS1.cell 6
    have e7 := hS1.cell 7
    have e8 := hS1.cell 8
    have e9 := hS1.cell 9
    have e10 := hS1.cell 10
    simp only [List.getElem?_toArray, List.getElem?_cons_zero, List.getElem?_cons_succ] at e0 e1 e2 e3 e4 e5 e6 e7 e8 e9 e10
    simp only [Option.isSome_some]
    generalize turnS s = b at *
    clear hd hS1 HLO
    go_wp2_with fail
    refine HC.out.mono ?_
    rintro r w2 ⟨X1, X2, k1, k2, rfl, hk1, hk2, hK1, hK2, hb2⟩
    have hz2 := hb2.size
    have HR2 := Lib.hid (HR1.out.stay (hb2.block _ HR1.out.lt))
    have hR2 := HR2.out
    clear e0 e1 e2 e3 e4 e5 e6 e7 e8 e9 e10
    have e0 := hR2.cell 0
    have f0 := hR2.frozen 0
    have e1 := hR2.cell 1
    have f1 := hR2.frozen 1
    have e2 := hR2.cell 2
    have f2 := hR2.frozen 2
    have e3 := hR2.cell 3
    have f3 := hR2.frozen 3
    have e4 := hR2.cell 4
    have f4 := hR2.frozen 4
    have e5 := hR2.cell 5
    have f5 := hR2.frozen 5
    have e6 := hR2.cell 6
    have f6 := hR2.frozen 6
    have e7 := hR2.cell 7
    have f7 := hR2.frozen 7
    have e8 := hR2.cell 8
    have f8 := hR2.frozen 8
    have e9 := hR2.cell 9
    have f9 := hR2.frozen 9
    simp only [List.getElem?_toArray, List.getElem?_cons_zero, List.getElem?_cons_succ] at e0 e1 e2 e3 e4 e5 e6 e7 e8 e9
    have HK1 := Lib.hid hK1
    have HK2 := Lib.hid hK2
    clear hR2 hK1 hK2
    go_wp2_with fail
    obtain ⟨wn, hwn⟩ : ∃ wn, wn = ((((((((((w2.setCell ⟨w.heap.size + 1, 0, none⟩ (.int .i64 b.kind)).setCell ⟨w.heap.size + 1, 1, none⟩ (.string b.name)).setCell ⟨w.heap.size + 1, 2, none⟩ (.int .i64 b.e.kind)).setCell ⟨w.heap.size + 1, 3, none⟩ (.int .i64 b.e.n)).setCell ⟨w.heap.size + 1, 4, none⟩ (.string b.e.s)).setCell ⟨w.heap.size + 1, 5, none⟩ (.slice X1 b.e.kids.length k1)).setCell ⟨w.heap.size + 1, 6, none⟩ (.int .i64 b.t.kind)).setCell ⟨w.heap.size + 1, 7, none⟩ (.int .i64 b.t.n)).setCell ⟨w.heap.size + 1, 8, none⟩ (.string b.t.s)).setCell ⟨w.heap.size + 1, 9, none⟩ (.slice X2 b.t.kids.length k2)) := ⟨_, rfl⟩
    have hwa : wn = setAllQ w2 (w.heap.size + 1) 0 [.int .i64 b.kind, .string b.name, .int .i64 b.e.kind, .int .i64 b.e.n, .string b.e.s, .slice X1 b.e.kids.length k1, .int .i64 b.t.kind, .int .i64 b.t.n, .string b.t.s, .slice X2 b.t.kids.length k2] := by rw [hwn]; rfl
    have hRn : BlkQ wn (w.heap.size + 1) #[.int .i64 b.kind, .string b.name, .int .i64 b.e.kind, .int .i64 b.e.n, .string b.e.s, .slice X1 b.e.kids.length k1, .int .i64 b.t.kind, .int .i64 b.t.n, .string b.t.s, .slice X2 b.t.kids.length k2] := by rw [hwa]; exact setAllQ_blk [.int .i64 b.kind, .string b.name, .int .i64 b.e.kind, .int .i64 b.e.n, .string b.e.s, .slice X1 b.e.kids.length k1, .int .i64 b.t.kind, .int .i64 b.t.n, .string b.t.s, .slice X2 b.t.kids.length k2] 0 _ w2 HR2.out rfl
    have hsn : ∀ k, k ≠ w.heap.size + 1 → wn.heap[k]? = w2.heap[k]? := fun k hk => by rw [hwa]; exact setAllQ_other _ _ _ _ hk
    have hzn : wn.heap.size = w2.heap.size := by rw [hwa]; exact setAllQ_size _ _ _ _
    have hosn : wn.os = w2.os ∧ wn.tape = w2.tape ∧ wn.output = w2.output := by rw [hwa]; exact setAllQ_os _ _ _ _
    rw [← hwn]
    clear hwn hwa
    have r0 := hRn.cell 0
    have r1 := hRn.cell 1
    have r2 := hRn.cell 2
    have r3 := hRn.cell 3
    have r4 := hRn.cell 4
    have r5 := hRn.cell 5
    have r6 := hRn.cell 6
    have r7 := hRn.cell 7
    have r8 := hRn.cell 8
    have r9 := hRn.cell 9
    simp only [List.getElem?_toArray, List.getElem?_cons_zero, List.getElem?_cons_succ] at r0 r1 r2 r3 r4 r5 r6 r7 r8 r9
    refine bodyPost_ret (v := .agg #[.int .i64 b.kind, .string b.name, .int .i64 b.e.kind, .int .i64 b.e.n, .string b.e.s, .slice X1 b.e.kids.length k1, .int .i64 b.t.kind, .int .i64 b.t.n, .string b.t.s, .slice X2 b.t.kids.length k2]) (by simp [results, Tryz.results31, go_sem, r0, r1, r2, r3, r4, r5, r6, r7, r8, r9]) rfl ?_
    have hB2 := HB1.out.trans (hb2.mono HB1.out.size)
    exact ⟨X1, X2, k1, k2, rfl, hk1, hk2, HK1.out.keep HB1.out.size (by omega) (fun k q1 q2 => hsn k (by omega)), HK2.out.keep HB1.out.size (by omega) (fun k q1 q2 => hsn k (by omega)), hB2.trans ⟨hosn.1, hosn.2.1, hosn.2.2, by omega, fun k hk => hsn k (by omega)⟩⟩
end Go.Proofs.YtfknelkbdoiokaaGreatDoor
