/-
  The contract of what the program's lastTold hands back: what was told last of a name.
-/
import Derived.Test.YtaclndbilpaboaaGreatDoorBack
import Derived.Test.YtaclndbilpaboaaGreatDoorInts
namespace Go.Proofs.YtaclndbilpaboaaGreatDoor
open Go.RowKit Go.Shelf
attribute [local go_sem] Oper.semAt_some

def lastI (ss : List ByteArray) (vs : List Int) (s : ByteArray) : Int := match lastOf ss s with
  | some i => vs.getD i 0
  | none => 0
set_option maxRecDepth 100000 in
set_option maxHeartbeats 2000000 in
theorem told_int (Bn Bv : Nat) (A : Option Addr) (c : Nat) (ss : List ByteArray) (A' : Option Addr) (c' : Nat) (vs : List Int) (s : ByteArray) (w : World) (hl : ss.length ≤ 2 ^ 40) (hlen : ss.length = vs.length) (hN : NamesAt Bn A c ss w) (hV : w.cell? ⟨Bv, 0, none⟩ = some (.slice A' vs.length c')) (hVs : SlIs w A' (vs.map intV)) :
    Calls Tryz.prog 48 #[.string s, .pointer (some ⟨Bn, 0, none⟩), .pointer (some ⟨Bv, 0, none⟩)] w fun e w' => e = .returned (.tuple #[.int .i64 (lastI ss vs s), .bool (lastOf ss s).isSome]) ∧ Below w.heap.size w w' := by
  refine (callsIn_wide (n := 4)).1 ?_
  have hro : Fence.wide.round = none := rfl
  obtain ⟨W0, hW0⟩ : ∃ W0, W0 = (((w.alloc (.cells #[.string s] 9)).alloc (.cells #[.int .i64 0] 3)).alloc (.cells #[.bool false] 4)).alloc (.cells #[.slice A ss.length c] 25) := ⟨_, rfl⟩
  have hb0 : Below w.heap.size w W0 := by rw [hW0]; exact ((((Below.refl _ w).alloc (Nat.le_refl _) _).alloc (by simp) _).alloc (by simp; omega) _).alloc (by simp; omega) _
  have hs0 : W0.heap.size = w.heap.size + 4 := by rw [hW0]; simp
  have bS : Boxed W0 w.heap.size 9 (.string s) := by rw [hW0]; exact (((Boxed.new w 9 (.string s)).alloc _).alloc _).alloc _
  have bR : Boxed W0 (w.heap.size + 1) 3 (.int .i64 0) := by
    have := Boxed.new (w.alloc (.cells #[.string s] 9)) 3 (.int .i64 0)
    rw [World.size_alloc] at this
    rw [hW0]; exact (this.alloc _).alloc _
  have bO : Boxed W0 (w.heap.size + 1 + 1) 4 (.bool false) := by
    have := Boxed.new ((w.alloc (.cells #[.string s] 9)).alloc (.cells #[.int .i64 0] 3)) 4 (.bool false)
    rw [World.size_alloc, World.size_alloc] at this
    rw [hW0]; exact this.alloc _
  have bN : Boxed W0 (w.heap.size + 1 + 1 + 1) 25 (.slice A ss.length c) := by
    have := Boxed.new (((w.alloc (.cells #[.string s] 9)).alloc (.cells #[.int .i64 0] 3)).alloc (.cells #[.bool false] 4)) 25 (.slice A ss.length c)
    rw [World.size_alloc, World.size_alloc, World.size_alloc] at this
    rw [hW0]; exact this
  have hNB : NamesAt (w.heap.size + 1 + 1 + 1) A c ss W0 := ⟨bN.cell, hN.2.below hb0⟩
  have hcn : (((w.alloc (.cells #[.string s] 9)).alloc (.cells #[.int .i64 0] 3)).alloc (.cells #[.bool false] 4)).cell? ⟨Bn, 0, none⟩ = some (.slice A ss.length c) :=
    ((((Below.refl _ w).alloc (Nat.le_refl _) _).alloc (by simp) _).alloc (by simp; omega) _ : Below w.heap.size w _).cell (p := ⟨Bn, 0, none⟩) hN.lt |>.trans hN.1
  have hBv : Bv < w.heap.size := by
    rcases Nat.lt_or_ge Bv w.heap.size with h | h
    · exact h
    · simp [World.cell?, Array.getElem?_eq_none h] at hV
  have HVs := Lib.hid hVs
  have HNA := Lib.hid hNB
  have HL := Lib.hid hlen
  clear hVs hN hNB hlen
  refine callsIn_of_wp_marks Tryz.func48 rfl trivial ?_ hro
  simp only [Tryz.ntmps48, List.size_toArray, List.length_cons, List.length_nil, Nat.reduceAdd, Nat.reduceSub, Array.replicate_succ, Array.replicate_zero, List.push_toArray, List.append_toArray, List.nil_append, List.cons_append]
  gi_wp2_with (refine ⟨trivial, ?_⟩; gi_at_call 45; refine (back_in Fence.wide _ trivial hro _ _ _ _).mono ?_; rintro e w' ⟨rfl, rfl⟩)
  rw [← hW0]
  refine wpIn_rangeFunc_ownG hro (by omega) (gf := 55) (lb := #[.pointer (some ⟨w.heap.size + 1 + 1 + 1, 0, none⟩)]) rfl trivial (enters_of Tryz.func55 (by kernel_rfl) rfl)
    (back_stops Fence.wide (4 - 1) trivial hro (by omega) (w.heap.size + 1 + 1 + 1) A c ss hl W0 HNA.out) KeepsN.t KeepsN.b (Below.refl _ _) (fun _ => rfl)
    (fun pre W => (noneIs ss s pre ∧ Boxed W w.heap.size 9 (.string s) ∧ Boxed W (w.heap.size + 1) 3 (.int .i64 0) ∧ Boxed W (w.heap.size + 1 + 1) 4 (.bool false)) ∧ Below w.heap.size w W)
    (fun cc pre W => (cc = .ret ∧ (∃ (p' : List (Fin ss.length)) (i : Fin ss.length), pre = p' ++ [i] ∧ noneIs ss s p' ∧ ss[i.1] = s ∧ Boxed W (w.heap.size + 1) 3 (.int .i64 (vs.getD i.1 0))) ∧ Boxed W (w.heap.size + 1 + 1) 4 (.bool true)) ∧ Below w.heap.size w W)
    (OwnFrom.and (Own.from (fun s0 X Y row hs hg hr => ⟨hs.1, boxed_own w.heap.size 9 (fun _ => .string s) s0 X Y row hs.2.1 hg hr, boxed_own (w.heap.size + 1) 3 (fun _ => .int .i64 0) s0 X Y row hs.2.2.1 hg hr, boxed_own (w.heap.size + 1 + 1) 4 (fun _ => .bool false) s0 X Y row hs.2.2.2 hg hr⟩) _) (ownFrom_below (Nat.le_refl _) (by omega)))
    (fun cc => OwnFrom.and (Own.from (fun s0 X Y row hs hg hr => ⟨hs.1, (by obtain ⟨p', i, q1, q2, q3, q4⟩ := hs.2.1; exact ⟨p', i, q1, q2, q3, boxed_own (w.heap.size + 1) 3 (fun _ => .int .i64 (vs.getD i.1 0)) s0 X Y row q4 hg hr⟩), boxed_own (w.heap.size + 1 + 1) 4 (fun _ => .bool true) s0 X Y row hs.2.2 hg hr⟩) _) (ownFrom_below (Nat.le_refl _) (by omega)))
    ⟨⟨(fun i hi => by cases hi), bS, bR, bO⟩, hb0⟩
    (fun x => { tmps := #[.string s, .pointer (some ⟨Bn, 0, none⟩), .pointer (some ⟨Bv, 0, none⟩), .pointer (some ⟨w.heap.size, 0, none⟩), .pointer (some ⟨w.heap.size + 1, 0, none⟩), .pointer (some ⟨w.heap.size + 1 + 1, 0, none⟩), .int .i64 (x.1 : Int), .string ss[x.1], undef, .slice A ss.length c, .func (.func 55) #[] #[.pointer (some ⟨w.heap.size + 1 + 1 + 1, 0, none⟩)], .int .i64 (x.1 : Int), .string ss[x.1], undef, undef, undef, undef, undef, undef, undef, undef], defers := [] }) ?assign ?body ?done ?stop
  case assign =>
    intro l x W K hK
    gi_wp2
    exact hK
  case body =>
    rintro l pre x W ⟨⟨hp, hS, hR, hO⟩, hB⟩ _
    have HP := Lib.hid hp; clear hp
    have cS := hS.cell
    have cV := (hB.cell (p := ⟨Bv, 0, none⟩) hBv).trans hV
    have cR := hR.cell
    have fR := hR.frozen
    have cO := hO.cell
    have fO := hO.frozen
    have hxl : x.1 < vs.length := by have := x.2; have := HL.out; omega
    obtain ⟨g, off, rfl, hg, hc⟩ := HVs.out.at_ (k := x.1) (by simpa using hxl)
    simp only [List.getElem_map, intV] at hc
    have cG := (hB.cell (p := ⟨g, off + x.1, none⟩) hg).trans hc
    have HG := Lib.hid (show vs.getD x.1 0 = vs[x.1] by simp [List.getD, hxl])
    by_cases he : ss[x.1] = s
    · have HE := Lib.hid he
      have q : (ss[x.1].toList == s.toList) = true := by rw [he]; simp
      clear hc he
      generalize vs[x.1] = v at *
      generalize hT : ss[x.1] = t at *
      have HT := Lib.hid hT
      clear hT
      gi_wp2
      refine ⟨((KeepsOthers.setCell _ _ _).trans (KeepsOthers.setCell _ _ _)).from _, ⟨rfl, ⟨pre, x, rfl, HP.out, ?_, ?_⟩, ?_⟩, ?_⟩
      · exact HT.out.trans HE.out
      · rw [HG.out]; exact (hR.set _).other (by omega) _
      · exact (hO.other (by omega) _).set _
      · exact (hB.setCell (p := ⟨w.heap.size + 1, 0, none⟩) (by show w.heap.size ≤ w.heap.size + 1; omega) _).setCell (p := ⟨w.heap.size + 1 + 1, 0, none⟩) (by show w.heap.size ≤ w.heap.size + 1 + 1; omega) _
    · have q : (ss[x.1].toList == s.toList) = false := by
        rw [beq_eq_false_iff_ne]; intro h; rw [ByteArray.toList_eq, ByteArray.toList_eq] at h; exact he (ByteArray.ext (Array.toList_inj.1 h))
      have HE := Lib.hid (show noneIs ss s (pre ++ [x]) from fun i hi => by
        rcases List.mem_append.1 hi with h | h
        · exact HP.out i h
        · rw [List.mem_singleton.1 h]; exact he)
      clear hc he
      generalize vs[x.1] = v at *
      generalize ss[x.1] = t at *
      gi_wp2
      exact ⟨KeepsFrom.refl _ _, fun h => h, ⟨HE.out, hS, hR, hO⟩, hB⟩
  case done =>
    rintro D ys W hD rfl ⟨⟨hn, hS, hR, hO⟩, hB⟩ hK
    have hno : lastOf ss s = none := downs_none _ _ hn
    have HF := Lib.hid (show lastI ss vs s = 0 by unfold lastI; rw [hno])
    have HF2 := Lib.hid (show (lastOf ss s).isSome = false by rw [hno]; rfl)
    clear hno hn
    have cR := hR.cell
    have fR := hR.frozen
    have cO := hO.cell
    have fO := hO.frozen
    gi_wp2
    have hK' := ((KeepsOthers.setCell W ⟨w.heap.size + 1, 0, none⟩ (.int .i64 0)).trans (KeepsOthers.setCell _ ⟨w.heap.size + 1 + 1, 0, none⟩ (.bool false))).same D _ hK rfl
    refine ⟨by simp, .inl ⟨_, _, rfl, run_takeDeferred hK', ?_⟩⟩
    have hc5 := cell_kept ((hR.set (.int .i64 0)).other (show w.heap.size + 1 ≠ w.heap.size + 1 + 1 by omega) (.bool false)).cell (grownBy_putObj' _ D (.deferred none)) (fun r e => by cases e; exact ⟨_, hK', rfl⟩)
    have hc6 := cell_kept ((hO.other (show w.heap.size + 1 + 1 ≠ w.heap.size + 1 by omega) (.int .i64 0)).set (.bool false)).cell (grownBy_putObj' _ D (.deferred none)) (fun r e => by cases e; exact ⟨_, hK', rfl⟩)
    refine ⟨.tuple #[.int .i64 0, .bool false], ?_, by rw [HF.out, HF2.out] <;> rfl, ((hB.setCell (p := ⟨w.heap.size + 1, 0, none⟩) (by show w.heap.size ≤ w.heap.size + 1; omega) _).setCell (p := ⟨w.heap.size + 1 + 1, 0, none⟩) (by show w.heap.size ≤ w.heap.size + 1 + 1; omega) _).trans (belowK_b (w := w) (Nat.le_refl _) _ D _ _ (by omega) hK' rfl rfl)⟩
    simp [results, Tryz.results48, go_sem, hc5, hc6]
  case stop =>
    rintro D cc pre W hD hpre ⟨⟨rfl, ⟨p', i, rfl, q2, q3, hR⟩, hO⟩, hB⟩ hK
    have hso : lastOf ss s = some i.1 := downs_some q3 _ _ p' hpre q2
    have HF := Lib.hid (show lastI ss vs s = vs.getD i.1 0 by unfold lastI; rw [hso])
    have HF2 := Lib.hid (show (lastOf ss s).isSome = true by rw [hso]; rfl)
    clear hso q2 q3 hpre
    gi_wp2
    refine ⟨by simp, .inl ⟨_, _, rfl, run_takeDeferred hK, ?_⟩⟩
    have hc5 := cell_kept hR.cell (grownBy_putObj' _ D (.deferred none)) (fun r e => by cases e; exact ⟨_, hK, rfl⟩)
    have hc6 := cell_kept hO.cell (grownBy_putObj' _ D (.deferred none)) (fun r e => by cases e; exact ⟨_, hK, rfl⟩)
    refine ⟨.tuple #[.int .i64 (vs.getD i.1 0), .bool true], ?_, by rw [HF.out, HF2.out], hB.trans (belowK_b (w := w) (Nat.le_refl _) W D _ _ (by omega) hK rfl rfl)⟩
    simp [results, Tryz.results48, go_sem, hc5, hc6]

def lastS (ss : List ByteArray) (vs : List ByteArray) (s : ByteArray) : ByteArray := match lastOf ss s with
  | some i => vs.getD i ByteArray.empty
  | none => ByteArray.empty
set_option maxRecDepth 100000 in
set_option maxHeartbeats 2000000 in
theorem told_string (Bn Bv : Nat) (A : Option Addr) (c : Nat) (ss : List ByteArray) (A' : Option Addr) (c' : Nat) (vs : List ByteArray) (s : ByteArray) (w : World) (hl : ss.length ≤ 2 ^ 40) (hlen : ss.length = vs.length) (hN : NamesAt Bn A c ss w) (hV : w.cell? ⟨Bv, 0, none⟩ = some (.slice A' vs.length c')) (hVs : SlIs w A' (vs.map strV)) :
    Calls Tryz.prog 44 #[.string s, .pointer (some ⟨Bn, 0, none⟩), .pointer (some ⟨Bv, 0, none⟩)] w fun e w' => e = .returned (.tuple #[.string (lastS ss vs s), .bool (lastOf ss s).isSome]) ∧ Below w.heap.size w w' := by
  refine (callsIn_wide (n := 4)).1 ?_
  have hro : Fence.wide.round = none := rfl
  obtain ⟨W0, hW0⟩ : ∃ W0, W0 = (((w.alloc (.cells #[.string s] 9)).alloc (.cells #[.string ⟨#[]⟩] 9)).alloc (.cells #[.bool false] 4)).alloc (.cells #[.slice A ss.length c] 25) := ⟨_, rfl⟩
  have hb0 : Below w.heap.size w W0 := by rw [hW0]; exact ((((Below.refl _ w).alloc (Nat.le_refl _) _).alloc (by simp) _).alloc (by simp; omega) _).alloc (by simp; omega) _
  have hs0 : W0.heap.size = w.heap.size + 4 := by rw [hW0]; simp
  have bS : Boxed W0 w.heap.size 9 (.string s) := by rw [hW0]; exact (((Boxed.new w 9 (.string s)).alloc _).alloc _).alloc _
  have bR : Boxed W0 (w.heap.size + 1) 9 (.string ⟨#[]⟩) := by
    have := Boxed.new (w.alloc (.cells #[.string s] 9)) 9 (.string ⟨#[]⟩)
    rw [World.size_alloc] at this
    rw [hW0]; exact (this.alloc _).alloc _
  have bO : Boxed W0 (w.heap.size + 1 + 1) 4 (.bool false) := by
    have := Boxed.new ((w.alloc (.cells #[.string s] 9)).alloc (.cells #[.string ⟨#[]⟩] 9)) 4 (.bool false)
    rw [World.size_alloc, World.size_alloc] at this
    rw [hW0]; exact this.alloc _
  have bN : Boxed W0 (w.heap.size + 1 + 1 + 1) 25 (.slice A ss.length c) := by
    have := Boxed.new (((w.alloc (.cells #[.string s] 9)).alloc (.cells #[.string ⟨#[]⟩] 9)).alloc (.cells #[.bool false] 4)) 25 (.slice A ss.length c)
    rw [World.size_alloc, World.size_alloc, World.size_alloc] at this
    rw [hW0]; exact this
  have hNB : NamesAt (w.heap.size + 1 + 1 + 1) A c ss W0 := ⟨bN.cell, hN.2.below hb0⟩
  have hcn : (((w.alloc (.cells #[.string s] 9)).alloc (.cells #[.string ⟨#[]⟩] 9)).alloc (.cells #[.bool false] 4)).cell? ⟨Bn, 0, none⟩ = some (.slice A ss.length c) :=
    ((((Below.refl _ w).alloc (Nat.le_refl _) _).alloc (by simp) _).alloc (by simp; omega) _ : Below w.heap.size w _).cell (p := ⟨Bn, 0, none⟩) hN.lt |>.trans hN.1
  have hBv : Bv < w.heap.size := by
    rcases Nat.lt_or_ge Bv w.heap.size with h | h
    · exact h
    · simp [World.cell?, Array.getElem?_eq_none h] at hV
  have HVs := Lib.hid hVs
  have HNA := Lib.hid hNB
  have HL := Lib.hid hlen
  clear hVs hN hNB hlen
  refine callsIn_of_wp_marks Tryz.func44 rfl trivial ?_ hro
  simp only [Tryz.ntmps44, List.size_toArray, List.length_cons, List.length_nil, Nat.reduceAdd, Nat.reduceSub, Array.replicate_succ, Array.replicate_zero, List.push_toArray, List.append_toArray, List.nil_append, List.cons_append]
  gi_wp2_with (refine ⟨trivial, ?_⟩; gi_at_call 45; refine (back_in Fence.wide _ trivial hro _ _ _ _).mono ?_; rintro e w' ⟨rfl, rfl⟩)
  rw [← hW0]
  refine wpIn_rangeFunc_ownG hro (by omega) (gf := 55) (lb := #[.pointer (some ⟨w.heap.size + 1 + 1 + 1, 0, none⟩)]) rfl trivial (enters_of Tryz.func55 (by kernel_rfl) rfl)
    (back_stops Fence.wide (4 - 1) trivial hro (by omega) (w.heap.size + 1 + 1 + 1) A c ss hl W0 HNA.out) KeepsN.t KeepsN.b (Below.refl _ _) (fun _ => rfl)
    (fun pre W => (noneIs ss s pre ∧ Boxed W w.heap.size 9 (.string s) ∧ Boxed W (w.heap.size + 1) 9 (.string ⟨#[]⟩) ∧ Boxed W (w.heap.size + 1 + 1) 4 (.bool false)) ∧ Below w.heap.size w W)
    (fun cc pre W => (cc = .ret ∧ (∃ (p' : List (Fin ss.length)) (i : Fin ss.length), pre = p' ++ [i] ∧ noneIs ss s p' ∧ ss[i.1] = s ∧ Boxed W (w.heap.size + 1) 9 (.string (vs.getD i.1 ByteArray.empty))) ∧ Boxed W (w.heap.size + 1 + 1) 4 (.bool true)) ∧ Below w.heap.size w W)
    (OwnFrom.and (Own.from (fun s0 X Y row hs hg hr => ⟨hs.1, boxed_own w.heap.size 9 (fun _ => .string s) s0 X Y row hs.2.1 hg hr, boxed_own (w.heap.size + 1) 9 (fun _ => .string ⟨#[]⟩) s0 X Y row hs.2.2.1 hg hr, boxed_own (w.heap.size + 1 + 1) 4 (fun _ => .bool false) s0 X Y row hs.2.2.2 hg hr⟩) _) (ownFrom_below (Nat.le_refl _) (by omega)))
    (fun cc => OwnFrom.and (Own.from (fun s0 X Y row hs hg hr => ⟨hs.1, (by obtain ⟨p', i, q1, q2, q3, q4⟩ := hs.2.1; exact ⟨p', i, q1, q2, q3, boxed_own (w.heap.size + 1) 9 (fun _ => .string (vs.getD i.1 ByteArray.empty)) s0 X Y row q4 hg hr⟩), boxed_own (w.heap.size + 1 + 1) 4 (fun _ => .bool true) s0 X Y row hs.2.2 hg hr⟩) _) (ownFrom_below (Nat.le_refl _) (by omega)))
    ⟨⟨(fun i hi => by cases hi), bS, bR, bO⟩, hb0⟩
    (fun x => { tmps := #[.string s, .pointer (some ⟨Bn, 0, none⟩), .pointer (some ⟨Bv, 0, none⟩), .pointer (some ⟨w.heap.size, 0, none⟩), .pointer (some ⟨w.heap.size + 1, 0, none⟩), .pointer (some ⟨w.heap.size + 1 + 1, 0, none⟩), .int .i64 (x.1 : Int), .string ss[x.1], undef, .slice A ss.length c, .func (.func 55) #[] #[.pointer (some ⟨w.heap.size + 1 + 1 + 1, 0, none⟩)], .int .i64 (x.1 : Int), .string ss[x.1], undef, undef, undef, undef, undef, undef, undef, undef], defers := [] }) ?assign ?body ?done ?stop
  case assign =>
    intro l x W K hK
    gi_wp2
    exact hK
  case body =>
    rintro l pre x W ⟨⟨hp, hS, hR, hO⟩, hB⟩ _
    have HP := Lib.hid hp; clear hp
    have cS := hS.cell
    have cV := (hB.cell (p := ⟨Bv, 0, none⟩) hBv).trans hV
    have cR := hR.cell
    have fR := hR.frozen
    have cO := hO.cell
    have fO := hO.frozen
    have hxl : x.1 < vs.length := by have := x.2; have := HL.out; omega
    obtain ⟨g, off, rfl, hg, hc⟩ := HVs.out.at_ (k := x.1) (by simpa using hxl)
    simp only [List.getElem_map, strV] at hc
    have cG := (hB.cell (p := ⟨g, off + x.1, none⟩) hg).trans hc
    have HG := Lib.hid (show vs.getD x.1 ByteArray.empty = vs[x.1] by simp [List.getD, hxl])
    by_cases he : ss[x.1] = s
    · have HE := Lib.hid he
      have q : (ss[x.1].toList == s.toList) = true := by rw [he]; simp
      clear hc he
      generalize vs[x.1] = v at *
      generalize hT : ss[x.1] = t at *
      have HT := Lib.hid hT
      clear hT
      gi_wp2
      refine ⟨((KeepsOthers.setCell _ _ _).trans (KeepsOthers.setCell _ _ _)).from _, ⟨rfl, ⟨pre, x, rfl, HP.out, ?_, ?_⟩, ?_⟩, ?_⟩
      · exact HT.out.trans HE.out
      · rw [HG.out]; exact (hR.set _).other (by omega) _
      · exact (hO.other (by omega) _).set _
      · exact (hB.setCell (p := ⟨w.heap.size + 1, 0, none⟩) (by show w.heap.size ≤ w.heap.size + 1; omega) _).setCell (p := ⟨w.heap.size + 1 + 1, 0, none⟩) (by show w.heap.size ≤ w.heap.size + 1 + 1; omega) _
    · have q : (ss[x.1].toList == s.toList) = false := by
        rw [beq_eq_false_iff_ne]; intro h; rw [ByteArray.toList_eq, ByteArray.toList_eq] at h; exact he (ByteArray.ext (Array.toList_inj.1 h))
      have HE := Lib.hid (show noneIs ss s (pre ++ [x]) from fun i hi => by
        rcases List.mem_append.1 hi with h | h
        · exact HP.out i h
        · rw [List.mem_singleton.1 h]; exact he)
      clear hc he
      generalize vs[x.1] = v at *
      generalize ss[x.1] = t at *
      gi_wp2
      exact ⟨KeepsFrom.refl _ _, fun h => h, ⟨HE.out, hS, hR, hO⟩, hB⟩
  case done =>
    rintro D ys W hD rfl ⟨⟨hn, hS, hR, hO⟩, hB⟩ hK
    have hno : lastOf ss s = none := downs_none _ _ hn
    have HF := Lib.hid (show lastS ss vs s = ByteArray.empty by unfold lastS; rw [hno])
    have HF2 := Lib.hid (show (lastOf ss s).isSome = false by rw [hno]; rfl)
    clear hno hn
    have cR := hR.cell
    have fR := hR.frozen
    have cO := hO.cell
    have fO := hO.frozen
    gi_wp2
    have hK' := ((KeepsOthers.setCell W ⟨w.heap.size + 1, 0, none⟩ (.string ⟨#[]⟩)).trans (KeepsOthers.setCell _ ⟨w.heap.size + 1 + 1, 0, none⟩ (.bool false))).same D _ hK rfl
    refine ⟨by simp, .inl ⟨_, _, rfl, run_takeDeferred hK', ?_⟩⟩
    have hc5 := cell_kept ((hR.set (.string ⟨#[]⟩)).other (show w.heap.size + 1 ≠ w.heap.size + 1 + 1 by omega) (.bool false)).cell (grownBy_putObj' _ D (.deferred none)) (fun r e => by cases e; exact ⟨_, hK', rfl⟩)
    have hc6 := cell_kept ((hO.other (show w.heap.size + 1 + 1 ≠ w.heap.size + 1 by omega) (.string ⟨#[]⟩)).set (.bool false)).cell (grownBy_putObj' _ D (.deferred none)) (fun r e => by cases e; exact ⟨_, hK', rfl⟩)
    refine ⟨.tuple #[.string ⟨#[]⟩, .bool false], ?_, by rw [HF.out, HF2.out] <;> rfl, ((hB.setCell (p := ⟨w.heap.size + 1, 0, none⟩) (by show w.heap.size ≤ w.heap.size + 1; omega) _).setCell (p := ⟨w.heap.size + 1 + 1, 0, none⟩) (by show w.heap.size ≤ w.heap.size + 1 + 1; omega) _).trans (belowK_b (w := w) (Nat.le_refl _) _ D _ _ (by omega) hK' rfl rfl)⟩
    simp [results, Tryz.results44, go_sem, hc5, hc6]
  case stop =>
    rintro D cc pre W hD hpre ⟨⟨rfl, ⟨p', i, rfl, q2, q3, hR⟩, hO⟩, hB⟩ hK
    have hso : lastOf ss s = some i.1 := downs_some q3 _ _ p' hpre q2
    have HF := Lib.hid (show lastS ss vs s = vs.getD i.1 ByteArray.empty by unfold lastS; rw [hso])
    have HF2 := Lib.hid (show (lastOf ss s).isSome = true by rw [hso]; rfl)
    clear hso q2 q3 hpre
    gi_wp2
    refine ⟨by simp, .inl ⟨_, _, rfl, run_takeDeferred hK, ?_⟩⟩
    have hc5 := cell_kept hR.cell (grownBy_putObj' _ D (.deferred none)) (fun r e => by cases e; exact ⟨_, hK, rfl⟩)
    have hc6 := cell_kept hO.cell (grownBy_putObj' _ D (.deferred none)) (fun r e => by cases e; exact ⟨_, hK, rfl⟩)
    refine ⟨.tuple #[.string (vs.getD i.1 ByteArray.empty), .bool true], ?_, by rw [HF.out, HF2.out], hB.trans (belowK_b (w := w) (Nat.le_refl _) W D _ _ (by omega) hK rfl rfl)⟩
    simp [results, Tryz.results44, go_sem, hc5, hc6]
end Go.Proofs.YtaclndbilpaboaaGreatDoor
