/-
  'laws.FnExprCast' returns true at every code.
  Conditions: the library's variables hold what their initialisers lay (tied to the program's text); every slice of bytes.
-/
import Derived.Test.YtggdlldagaggiaaGreatDoorMethType
import Derived.Test.YtggdlldagaggiaaGreatDoorDrawType
import Derived.Test.YtggdlldagaggiaaGreatDoorMethOf
import Derived.Test.YtggdlldagaggiaaGreatDoorExprBare
import Derived.Test.YtggdlldagaggiaaGreatDoorExprOk
import Derived.Test.YtggdlldagaggiaaGreatDoorExprSame
import Derived.Test.YtggdlldagaggiaaGreatDoorExLaws
import Derived.Test.YtggdlldagaggiaaGreatDoorLaid
import Derived.Test.YtggdlldagaggiaaGreatDoorCards
import Derived.Test.YtggdlldagaggiaaGreatDoorTie
import Derived.Test.YtggdlldagaggiaaGreatDoorRows
import Derived.WalkKit
import Derived.BigGuardPart
import Derived.ProofKit
import Derived.OpenShut
import Derived.ShutString
import Derived.ChangeOld
import Derived.Below
import Derived.Lib.SmallJoins
import Derived.SliceStrings
namespace Go.Proofs.YtggdlldagaggiaaGreatDoor.fnExprCast
open Go.ChangeShapes Go.WideShapes Go.ChangeAt Go.RowKit Go.Joins
open Go.ChangeMaps (open_string shut_string)


theorem cast_in {e : Ex} {s : ByteArray} (h : okE (.mk 4 0 s [e]) = true) : ∃ p : Pt, e = p.ex ∧ p.ok = true ∧ typeB s = true ∧ (Pt.as s p).ok = true := by
  obtain ⟨p, e1, hok⟩ := (okE_iff _).1 h
  cases p with
  | num m => simp [Pt.ex] at e1
  | name s => simp [Pt.ex] at e1
  | two s q r => simp [Pt.ex] at e1
  | «as» s q =>
    simp only [Pt.ex, Ex.mk.injEq, true_and, List.cons.injEq, and_true] at e1
    obtain ⟨rfl, rfl⟩ := e1
    exact ⟨q, rfl, (ok_as hok).2, (ok_as hok).1, hok⟩
theorem cast_ok {e : Ex} {s : ByteArray} (h : okE (.mk 4 0 s [e]) = true) : okE e = true := by
  obtain ⟨p, rfl, hp, _, _⟩ := cast_in h
  exact (okE_iff _).2 ⟨p, rfl, hp⟩
theorem cast_typ {e : Ex} {s : ByteArray} {ss vs : List ByteArray} (h : okE (.mk 4 0 s [e]) = true) : typE (.mk 4 0 s [e]) ss vs = if typE e ss vs = ByteArray.empty then ByteArray.empty else s := by
  obtain ⟨p, rfl, hp, hs, hok⟩ := cast_in h
  unfold typE
  rw [show Ex.mk 4 0 s [p.ex] = (Pt.as s p).ex from rfl, okP_ex hok, okP_ex hp]
  simp only
  by_cases hl : ss.length = vs.length ∧ vs.all typeB = true
  · simp only [if_pos hl]; rw [Pt.typ]
  · simp only [if_neg hl]; rfl
theorem cast_of {e : Ex} {s : ByteArray} {ss : List ByteArray} {zs : List Int} (h : okE (.mk 4 0 s [e]) = true) : ofE (.mk 4 0 s [e]) ss zs = ofE e ss zs := by
  obtain ⟨p, rfl, hp, hs, hok⟩ := cast_in h
  unfold ofE
  rw [show Ex.mk 4 0 s [p.ex] = (Pt.as s p).ex from rfl, okP_ex hok, okP_ex hp]
  rfl
theorem cast_bare {e : Ex} {s : ByteArray} (h : okE (.mk 4 0 s [e]) = true) : bareE (.mk 4 0 s [e]) = bareE e := by
  obtain ⟨p, rfl, hp, hs, hok⟩ := cast_in h
  unfold bareE
  rw [show Ex.mk 4 0 s [p.ex] = (Pt.as s p).ex from rfl, okP_ex hok, okP_ex hp]
  rfl
theorem bare_few (e : Ex) : (bareE e).nodes ≤ 2 ^ 30 := by
  unfold bareE
  split
  · rename_i p hp
    have h := ok_bare (okP_some hp).2
    simp only [Pt.ok, Bool.and_eq_true] at h
    have := of_decide_eq_true h.2.2
    rw [Pt.nodes_ex]; omega
  · simp [Ex.zero, Ex.nodes, Ex.nodess]
theorem typ_three (e : Ex) (ss vs : List ByteArray) : typE e ss vs = { data := #[] } ∨ typE e ss vs = { data := #[105, 110, 116] } ∨ typE e ss vs = { data := #[98, 111, 111, 108] } := by
  unfold typE
  split
  · rename_i p hp
    split
    · rename_i hh
      rcases typ_kind (names := ss) hh.2 p (ok_fine (okP_some hp).2) with h | h
      · exact .inl h
      · exact .inr (type_cases h)
    · exact .inl rfl
  · exact .inl rfl
/-- A kid that lies in a block of one. -/
theorem kids_one {W : World} {B k : Nat} {a : Ex} {A : Option Addr} {c : Nat} (hB : Blk W k (kidCells a A c).toArray) (hk : k < B) (hc : a.kids.length ≤ c) (ha : KidsAt W B A a.kids) : KidsAt W B (some ⟨k, 0, none⟩) [a] := by
  refine KidsAt.of hk (fun j hj => ?_)
  obtain rfl : j = 0 := by simp at hj; omega
  exact ⟨A, c, hB.cell 0, hB.cell 1, hB.cell 2, hB.cell 3, hc, ha⟩
/-- The boxes, and the lists that they lead to. -/
structure Ct (e : Ex) (Ae : Option Addr) (c n1 n4 : Nat) (w4 W : World) : Prop where
  bel : Below n4 w4 W
  sz : n4 + 1 + 1 + 1 < W.heap.size
  be : Blk W n1 #[.int .i64 e.kind, .int .i64 e.n, .string e.s, .slice Ae e.kids.length c]
  ka : Blk W (n4) (kidCells e Ae c).toArray
  ba : Blk W (n4 + 1) #[.int .i64 4, .int .i64 0, .string { data := #[98, 111, 111, 108] }, .slice (some ⟨n4, 0, none⟩) 1 1]
  kb : Blk W (n4 + 1 + 1) #[.int .i64 4, .int .i64 0, .string { data := #[98, 111, 111, 108] }, .slice (some ⟨n4, 0, none⟩) 1 1]
  bb : Blk W (n4 + 1 + 1 + 1) #[.int .i64 4, .int .i64 0, .string { data := #[105, 110, 116] }, .slice (some ⟨n4 + 1 + 1, 0, none⟩) 1 1]
section
variable {e : Ex} {Ae : Option Addr} {c n1 n4 : Nat} {w4 W W' : World}
theorem _root_.Go.Proofs.YtggdlldagaggiaaGreatDoor.Blk.stay0 {w w' : World} {g : Nat} {cur : Array Value} (h : Blk w g cur) (hb : w'.heap[g]? = w.heap[g]?) : Blk w' g cur := hb.trans h
theorem Ct.below (h : Ct e Ae c n1 n4 w4 W) (hb : Below W.heap.size W W') : Ct e Ae c n1 n4 w4 W' :=
  ⟨h.bel.trans (hb.mono (by have := h.sz; omega)), Nat.lt_of_lt_of_le h.sz hb.size, h.be.stay0 (hb.block _ h.be.lt), h.ka.stay0 (hb.block _ h.ka.lt), h.ba.stay0 (hb.block _ h.ba.lt), h.kb.stay0 (hb.block _ h.kb.lt), h.bb.stay0 (hb.block _ h.bb.lt)⟩
end
theorem at_new (V : World) (o : Obj) {k : Nat} (h : k = V.heap.size) : (V.alloc o).heap[k]? = some o := by rw [h]; exact World.alloc_heap_new V o

set_option linter.unusedSimpArgs false in
set_option linter.unusedVariables false in
set_option maxRecDepth 100000 in
set_option maxHeartbeats 16000000 in
theorem walk (A : Option Addr) (len cap : Nat) (w : World) (h : InCode w A len cap) (_ : LaidW w) :
    Calls Tryz.prog 12 #[.slice A len cap] w fun r w' => r = .returned (.bool true) ∧ Below w.heap.size w w' := by
  have hm := h.2.1
  have hl := h.1
  unfold maxLen at hm
  by_cases hbig : 1048576 < len
  · have q : decide ((1048576 : Int) < (len : Int)) = true := by simp; omega
    go_enter Tryz.func12, Tryz.ntmps12
    go_wp2_with fail
    go_ret
    exact ⟨rfl, Below.refl _ _⟩
  have q : decide ((1048576 : Int) < (len : Int)) = false := by simp; omega
  have HD := Lib.hid (drawExprType_any A len cap w h)
  clear h
  go_enter Tryz.func12, Tryz.ntmps12
  go_wp2_with fail
  refine HD.out.mono ?_
  rintro r w1 ⟨e, Ae, c, An, Av, cn, cv, ss, vs, rfl, hc, hO, _, hwt, hN, hV, hls, hlv, hb1⟩
  obtain ⟨W2, hW2⟩ : ∃ W2, W2 = w1.alloc (.cells #[.int .i64 e.kind, .int .i64 e.n, .string e.s, .slice Ae e.kids.length c] 25) := ⟨_, rfl⟩
  have hb2 : Below w1.heap.size w1 W2 := by rw [hW2]; exact (Below.refl _ w1).alloc (Nat.le_refl _) _
  have hs2 : w1.heap.size < W2.heap.size := by rw [hW2]; simp
  have hE2 : Blk W2 w1.heap.size #[.int .i64 e.kind, .int .i64 e.n, .string e.s, .slice Ae e.kids.length c] := by rw [hW2]; exact World.alloc_heap_new w1 _
  have hK2 := (own_kids e _ _ _ _ hO (Nat.le_refl _)).keep hb2
  have SN2 := hN.below hb2
  have SV2 := hV.below hb2
  have HB2 := Lib.hid (hb1.trans (hb2.mono hb1.size))
  have HT := Lib.hid (exprType_any e Ae c w1.heap.size An Av cn cv ss vs W2 hK2 hc (Nat.le_of_lt hs2) (by omega) (by omega) (by omega) SN2 SV2)
  have HS := Lib.hid (fun (W : World) (hW : Below W2.heap.size W2 W) => specExprType_any e Ae c w1.heap.size An Av cn cv ss vs W (hK2.keep (hW.mono (Nat.le_of_lt hs2))) hc (Nat.le_trans (Nat.le_of_lt hs2) hW.size) (by omega) (by omega) (by omega) (SN2.below hW) (SV2.below hW))
  have HK2 := Lib.hid hK2
  have HSN2 := Lib.hid SN2
  have HSV2 := Lib.hid SV2
  have HE2 := Lib.hid hE2
  have HT3 := Lib.hid (typ_three e ss vs)
  have HCT := Lib.hid (fun (h : okE (.mk 4 0 { data := #[98, 111, 111, 108] } [e]) = true) => cast_typ (ss := ss) (vs := vs) h)
  have HCT2 := Lib.hid (fun (h : okE (.mk 4 0 { data := #[105, 110, 116] } [.mk 4 0 { data := #[98, 111, 111, 108] } [e]]) = true) => cast_typ (ss := ss) (vs := vs) h)
  have HOK := Lib.hid (fun (h : okE (.mk 4 0 { data := #[105, 110, 116] } [.mk 4 0 { data := #[98, 111, 111, 108] } [e]]) = true) => cast_ok h)
  have HAB := Lib.hid (fun (h : okE (.mk 4 0 { data := #[105, 110, 116] } [.mk 4 0 { data := #[98, 111, 111, 108] } [e]]) = true) => (cast_bare h).trans (cast_bare (cast_ok h)))
  have HAO := Lib.hid (fun (zs : List Int) (h : okE (.mk 4 0 { data := #[105, 110, 116] } [.mk 4 0 { data := #[98, 111, 111, 108] } [e]]) = true) => (cast_of (ss := ss) (zs := zs) h).trans (cast_of (cast_ok h)))
  clear hO hN hV hK2 SN2 SV2 HD hb2 hE2
  obtain ⟨T, hT⟩ : ∃ T, T = typE e ss vs := ⟨_, rfl⟩
  unfold Types at HT HS
  rw [← hT] at HT HS HT3 HCT
  have HTT := Lib.hid hT
  clear hT
  go_wp2_with fail
  rw [← hW2]
  clear hW2
  refine HT.out.mono ?_
  rintro r w3 ⟨rfl, hb3⟩
  have hE3 := HE2.out.stay0 (hb3.block _ HE2.out.lt)
  have d0 := hE3.cell 0
  have d1 := hE3.cell 1
  have d2 := hE3.cell 2
  have d3 := hE3.cell 3
  simp only [List.getElem?_toArray, List.getElem?_cons_zero, List.getElem?_cons_succ] at d0 d1 d2 d3
  clear hE3
  go_wp2_with fail
  refine (HS.out w3 hb3).mono ?_
  rintro r w4 ⟨rfl, hb4'⟩
  have hb4 := hb3.trans (hb4'.mono hb3.size)
  clear d0 d1 d2 d3
  have HE4 := Lib.hid (HE2.out.stay0 (hb4.block _ HE2.out.lt))
  have d0 := HE4.out.cell 0
  have d1 := HE4.out.cell 1
  have d2 := HE4.out.cell 2
  have d3 := HE4.out.cell 3
  simp only [List.getElem?_toArray, List.getElem?_cons_zero, List.getElem?_cons_succ] at d0 d1 d2 d3
  have HB4 := Lib.hid (HB2.out.trans (hb4.mono HB2.out.size))
  have HKe := Lib.hid (HK2.out.keep (hb4.mono (Nat.le_of_lt hs2)))
  have HSN := Lib.hid (HSN2.out.below hb4)
  have HSV := Lib.hid (HSV2.out.below hb4)
  have hz4 : w1.heap.size < w4.heap.size := Nat.lt_of_lt_of_le hs2 hb4.size
  clear HT HS HK2 HSN2 HSV2 hb3 hb4' hb4 HE2
  have qq : (!T.toList == T.toList) = false := by simp
  have HOA := Lib.hid (fun (W : World) (S : Ct e Ae c w1.heap.size w4.heap.size w4 W) => show Calls Tryz.prog 19 #[.agg #[.int .i64 4, .int .i64 0, .string { data := #[98, 111, 111, 108] }, .slice (some ⟨w4.heap.size, 0, none⟩) 1 1]] W (fun r w' => r = .returned (.bool (okE (.mk 4 0 { data := #[98, 111, 111, 108] } [e]))) ∧ Below W.heap.size W w') from exprOk_any (.mk 4 0 { data := #[98, 111, 111, 108] } [e]) (some ⟨w4.heap.size, 0, none⟩) 1 (w4.heap.size + 1 + 1 + 1) W (kids_one S.ka (by omega) hc ((HKe.out.keep (S.bel.mono (by omega))).wide (by omega))) (by simp [Ex.kids]) (by have := S.sz; omega) (by simp only [Ex.wt, Ex.wts]; have h1 : ByteArray.size { data := #[98, 111, 111, 108] } ≤ 10 := (by decide); omega))
  have HOB := Lib.hid (fun (W : World) (S : Ct e Ae c w1.heap.size w4.heap.size w4 W) => show Calls Tryz.prog 19 #[.agg #[.int .i64 4, .int .i64 0, .string { data := #[105, 110, 116] }, .slice (some ⟨w4.heap.size + 1 + 1, 0, none⟩) 1 1]] W (fun r w' => r = .returned (.bool (okE (.mk 4 0 { data := #[105, 110, 116] } [.mk 4 0 { data := #[98, 111, 111, 108] } [e]]))) ∧ Below W.heap.size W w') from exprOk_any (.mk 4 0 { data := #[105, 110, 116] } [.mk 4 0 { data := #[98, 111, 111, 108] } [e]]) (some ⟨w4.heap.size + 1 + 1, 0, none⟩) 1 (w4.heap.size + 1 + 1 + 1) W (kids_one (a := .mk 4 0 { data := #[98, 111, 111, 108] } [e]) S.kb (by omega) (by simp [Ex.kids]) (kids_one S.ka (by omega) hc ((HKe.out.keep (S.bel.mono (by omega))).wide (by omega)))) (by simp [Ex.kids]) (by have := S.sz; omega) (by simp only [Ex.wt, Ex.wts]; have h1 : ByteArray.size { data := #[98, 111, 111, 108] } ≤ 10 := (by decide); have h2 : ByteArray.size { data := #[105, 110, 116] } ≤ 10 := (by decide); omega))
  have HTA := Lib.hid (fun (W : World) (S : Ct e Ae c w1.heap.size w4.heap.size w4 W) => show Calls Tryz.prog 33 #[.agg #[.int .i64 4, .int .i64 0, .string { data := #[98, 111, 111, 108] }, .slice (some ⟨w4.heap.size, 0, none⟩) 1 1], .slice An ss.length cn, .slice Av vs.length cv] W (Types (typE (.mk 4 0 { data := #[98, 111, 111, 108] } [e]) ss vs) W) from exprType_any (.mk 4 0 { data := #[98, 111, 111, 108] } [e]) (some ⟨w4.heap.size, 0, none⟩) 1 (w4.heap.size + 1 + 1 + 1) An Av cn cv ss vs W (kids_one S.ka (by omega) hc ((HKe.out.keep (S.bel.mono (by omega))).wide (by omega))) (by simp [Ex.kids]) (by have := S.sz; omega) (by simp only [Ex.wt, Ex.wts]; have h1 : ByteArray.size { data := #[98, 111, 111, 108] } ≤ 10 := (by decide); omega) (by omega) (by omega) (HSN.out.below S.bel) (HSV.out.below S.bel))
  have HTB := Lib.hid (fun (W : World) (S : Ct e Ae c w1.heap.size w4.heap.size w4 W) => show Calls Tryz.prog 33 #[.agg #[.int .i64 4, .int .i64 0, .string { data := #[105, 110, 116] }, .slice (some ⟨w4.heap.size + 1 + 1, 0, none⟩) 1 1], .slice An ss.length cn, .slice Av vs.length cv] W (Types (typE (.mk 4 0 { data := #[105, 110, 116] } [.mk 4 0 { data := #[98, 111, 111, 108] } [e]]) ss vs) W) from exprType_any (.mk 4 0 { data := #[105, 110, 116] } [.mk 4 0 { data := #[98, 111, 111, 108] } [e]]) (some ⟨w4.heap.size + 1 + 1, 0, none⟩) 1 (w4.heap.size + 1 + 1 + 1) An Av cn cv ss vs W (kids_one (a := .mk 4 0 { data := #[98, 111, 111, 108] } [e]) S.kb (by omega) (by simp [Ex.kids]) (kids_one S.ka (by omega) hc ((HKe.out.keep (S.bel.mono (by omega))).wide (by omega)))) (by simp [Ex.kids]) (by have := S.sz; omega) (by simp only [Ex.wt, Ex.wts]; have h1 : ByteArray.size { data := #[98, 111, 111, 108] } ≤ 10 := (by decide); have h2 : ByteArray.size { data := #[105, 110, 116] } ≤ 10 := (by decide); omega) (by omega) (by omega) (HSN.out.below S.bel) (HSV.out.below S.bel))
  have HZB := Lib.hid (fun (W : World) (S : Ct e Ae c w1.heap.size w4.heap.size w4 W) (g : Nat) (hZ : SlIs W (some ⟨g, 0, none⟩) ((List.replicate ss.length (0 : Int)).map intV)) => show Calls Tryz.prog 26 #[.agg #[.int .i64 4, .int .i64 0, .string { data := #[105, 110, 116] }, .slice (some ⟨w4.heap.size + 1 + 1, 0, none⟩) 1 1], .slice An ss.length cn, .slice (some ⟨g, 0, none⟩) ss.length ss.length] W (Comes (ofE (.mk 4 0 { data := #[105, 110, 116] } [.mk 4 0 { data := #[98, 111, 111, 108] } [e]]) ss (List.replicate ss.length 0)) W) from (by have h := exprOf_any (.mk 4 0 { data := #[105, 110, 116] } [.mk 4 0 { data := #[98, 111, 111, 108] } [e]]) (some ⟨w4.heap.size + 1 + 1, 0, none⟩) 1 (w4.heap.size + 1 + 1 + 1) An (some ⟨g, 0, none⟩) cn ss.length ss (List.replicate ss.length 0) W (kids_one (a := .mk 4 0 { data := #[98, 111, 111, 108] } [e]) S.kb (by omega) (by simp [Ex.kids]) (kids_one S.ka (by omega) hc ((HKe.out.keep (S.bel.mono (by omega))).wide (by omega)))) (by simp [Ex.kids]) (by have := S.sz; omega) (by simp only [Ex.wt, Ex.wts]; have h1 : ByteArray.size { data := #[98, 111, 111, 108] } ≤ 10 := (by decide); have h2 : ByteArray.size { data := #[105, 110, 116] } ≤ 10 := (by decide); omega) (by omega) (by simp; omega) (HSN.out.below S.bel) hZ; rw [List.length_replicate] at h; exact h))
  have HBB := Lib.hid (fun (W : World) (S : Ct e Ae c w1.heap.size w4.heap.size w4 W) => show Calls Tryz.prog 28 #[.agg #[.int .i64 4, .int .i64 0, .string { data := #[105, 110, 116] }, .slice (some ⟨w4.heap.size + 1 + 1, 0, none⟩) 1 1]] W (Gives (bareE (.mk 4 0 { data := #[105, 110, 116] } [.mk 4 0 { data := #[98, 111, 111, 108] } [e]])) W) from exprBare_any (.mk 4 0 { data := #[105, 110, 116] } [.mk 4 0 { data := #[98, 111, 111, 108] } [e]]) (some ⟨w4.heap.size + 1 + 1, 0, none⟩) 1 (w4.heap.size + 1 + 1 + 1) W (kids_one (a := .mk 4 0 { data := #[98, 111, 111, 108] } [e]) S.kb (by omega) (by simp [Ex.kids]) (kids_one S.ka (by omega) hc ((HKe.out.keep (S.bel.mono (by omega))).wide (by omega)))) (by simp [Ex.kids]) (by have := S.sz; omega) (by simp only [Ex.wt, Ex.wts]; have h1 : ByteArray.size { data := #[98, 111, 111, 108] } ≤ 10 := (by decide); have h2 : ByteArray.size { data := #[105, 110, 116] } ≤ 10 := (by decide); omega))

  have HZE := Lib.hid (fun (W : World) (S : Ct e Ae c w1.heap.size w4.heap.size w4 W) (g : Nat) (hZ : SlIs W (some ⟨g, 0, none⟩) ((List.replicate ss.length (0 : Int)).map intV)) => show Calls Tryz.prog 26 #[.agg #[.int .i64 e.kind, .int .i64 e.n, .string e.s, .slice Ae e.kids.length c], .slice An ss.length cn, .slice (some ⟨g, 0, none⟩) ss.length ss.length] W (Comes (ofE e ss (List.replicate ss.length 0)) W) from (by have h := exprOf_any e Ae c w1.heap.size An (some ⟨g, 0, none⟩) cn ss.length ss (List.replicate ss.length 0) W (HKe.out.keep (S.bel.mono (by omega))) hc (by have := S.sz; omega) (by omega) (by omega) (by simp; omega) (HSN.out.below S.bel) hZ; rw [List.length_replicate] at h; exact h))
  have HBE := Lib.hid (fun (W : World) (S : Ct e Ae c w1.heap.size w4.heap.size w4 W) => exprBare_any e Ae c w1.heap.size W (HKe.out.keep (S.bel.mono (by omega))) hc (by have := S.sz; omega) (by omega))
  have HBN := Lib.hid (bare_few e)
  obtain ⟨V4, hV4⟩ : ∃ V4, V4 = ((((w4.alloc (.cells #[.int .i64 e.kind, .int .i64 e.n, .string e.s, .slice Ae e.kids.length c] 25)).alloc (.cells #[.int .i64 4, .int .i64 0, .string { data := #[98, 111, 111, 108] }, .slice (some ⟨w4.heap.size, 0, none⟩) 1 1] 25)).alloc (.cells #[.int .i64 4, .int .i64 0, .string { data := #[98, 111, 111, 108] }, .slice (some ⟨w4.heap.size, 0, none⟩) 1 1] 25)).alloc (.cells #[.int .i64 4, .int .i64 0, .string { data := #[105, 110, 116] }, .slice (some ⟨w4.heap.size + 1 + 1, 0, none⟩) 1 1] 25)) := ⟨_, rfl⟩
  have hs4 : V4.heap.size = w4.heap.size + 1 + 1 + 1 + 1 := by rw [hV4]; simp
  have S : Ct e Ae c w1.heap.size w4.heap.size w4 V4 := by
    have hb : Below w4.heap.size w4 V4 := by rw [hV4]; exact ((((Below.refl _ w4).alloc (Nat.le_refl _) _).alloc (by simp) _).alloc (by simp; omega) _).alloc (by simp; omega) _
    have up : ∀ (V : World) (o : Obj) (k : Nat), k < V.heap.size → (V.alloc o).heap[k]? = V.heap[k]? := fun V o k hk => Below.heap_alloc V o k hk
    refine ⟨hb, by omega, HE4.out.stay0 (hb.block _ hz4), ?_, ?_, ?_, ?_⟩
    · unfold Blk; rw [hV4, up _ _ _ (by simp only [World.size_alloc]; omega), up _ _ _ (by simp only [World.size_alloc]; omega), up _ _ _ (by simp only [World.size_alloc]; omega)]; exact World.alloc_heap_new w4 _
    · unfold Blk; rw [hV4, up _ _ _ (by simp only [World.size_alloc]; omega), up _ _ _ (by simp only [World.size_alloc]; omega)]; exact at_new (w4.alloc (.cells #[.int .i64 e.kind, .int .i64 e.n, .string e.s, .slice Ae e.kids.length c] 25)) _ (by simp only [World.size_alloc])
    · unfold Blk; rw [hV4, up _ _ _ (by simp only [World.size_alloc]; omega)]; exact at_new ((w4.alloc (.cells #[.int .i64 e.kind, .int .i64 e.n, .string e.s, .slice Ae e.kids.length c] 25)).alloc (.cells #[.int .i64 4, .int .i64 0, .string { data := #[98, 111, 111, 108] }, .slice (some ⟨w4.heap.size, 0, none⟩) 1 1] 25)) _ (by simp only [World.size_alloc])
    · unfold Blk; rw [hV4]; exact at_new (((w4.alloc (.cells #[.int .i64 e.kind, .int .i64 e.n, .string e.s, .slice Ae e.kids.length c] 25)).alloc (.cells #[.int .i64 4, .int .i64 0, .string { data := #[98, 111, 111, 108] }, .slice (some ⟨w4.heap.size, 0, none⟩) 1 1] 25)).alloc (.cells #[.int .i64 4, .int .i64 0, .string { data := #[98, 111, 111, 108] }, .slice (some ⟨w4.heap.size, 0, none⟩) 1 1] 25)) _ (by simp only [World.size_alloc])
  have HS := Lib.hid S
  clear S HE4 hs4
  obtain ⟨oa, hoa⟩ : ∃ oa, oa = okE (.mk 4 0 { data := #[98, 111, 111, 108] } [e]) := ⟨_, rfl⟩
  obtain ⟨ob, hob⟩ : ∃ ob, ob = okE (.mk 4 0 { data := #[105, 110, 116] } [.mk 4 0 { data := #[98, 111, 111, 108] } [e]]) := ⟨_, rfl⟩
  rw [← hoa] at HOA
  rw [← hob] at HOB
  have HOAE := Lib.hid hoa
  have HOBE := Lib.hid hob
  clear hoa hob
  go_wp2_with fail
  rw [← hV4]
  clear hV4 d0 d1 d2 d3
  refine (HOA.out V4 HS.out).mono ?_
  rintro r W5 ⟨rfl, hb⟩
  have S := HS.out.below hb
  clear HS hb
  have HTV := Lib.hid (show oa = true → typE (.mk 4 0 { data := #[98, 111, 111, 108] } [e]) ss vs = if T = ByteArray.empty then ByteArray.empty else { data := #[98, 111, 111, 108] } from fun h => HCT.out (by rw [← HOAE.out]; exact h))
  have HTW := Lib.hid (show ob = true → oa = true ∧ typE (.mk 4 0 { data := #[105, 110, 116] } [.mk 4 0 { data := #[98, 111, 111, 108] } [e]]) ss vs = if typE (.mk 4 0 { data := #[98, 111, 111, 108] } [e]) ss vs = ByteArray.empty then ByteArray.empty else { data := #[105, 110, 116] } from fun h => ⟨by rw [HOAE.out]; exact HOK.out (by rw [← HOBE.out]; exact h), HCT2.out (by rw [← HOBE.out]; exact h)⟩)
  rcases HT3.out with hT | hT | hT
  · subst hT
    clear HT3 HCT
    cases oa with
    | false =>
      cases ob with
      | true => have := (HTW.out (by first | rfl | trivial)).1; cases this
      | false =>
        have y0 := S.bb.cell 0
        have y1 := S.bb.cell 1
        have y2 := S.bb.cell 2
        have y3 := S.bb.cell 3
        simp only [List.getElem?_toArray, List.getElem?_cons_zero, List.getElem?_cons_succ] at y0 y1 y2 y3
        have HC := Lib.hid (HOB.out W5 S)
        have HS := Lib.hid S
        clear S
        go_wp2_with fail
        refine HC.out.mono ?_
        rintro r W7 ⟨rfl, hb⟩
        have S := HS.out.below hb
        clear HC HS hb y0 y1 y2 y3
        have hmk := fun W => run_make_row' (P := Tryz.prog) 36 3 (.int .i64 0) 8 Tryz.underlying36 infoInt rfl .i64 .i64 ss.length (by omega) (by omega) W
        obtain ⟨W9, hW9⟩ : ∃ W9, W9 = W7.alloc (.cells (madeCells #[.int .i64 0] ss.length) 3) := ⟨_, rfl⟩
        have hb9 : Below W7.heap.size W7 W9 := by rw [hW9]; exact (Below.refl _ _).alloc (Nat.le_refl _) _
        have hZ9 : SlIs W9 (some ⟨W7.heap.size, 0, none⟩) ((List.replicate ss.length (0 : Int)).map intV) := by
          have := SlIs.own (own_made W7 (.int .i64 0) ss.length (by unfold maxLen; omega) 3)
          rw [hW9]
          simpa [intV] using this
        replace S := S.below hb9
        have z0 := S.be.cell 0
        have z1 := S.be.cell 1
        have z2 := S.be.cell 2
        have z3 := S.be.cell 3
        simp only [List.getElem?_toArray, List.getElem?_cons_zero, List.getElem?_cons_succ] at z0 z1 z2 z3
        have HC := Lib.hid (HZE.out W9 S W7.heap.size hZ9)
        obtain ⟨R, hR⟩ : ∃ R, R = ofE e ss (List.replicate ss.length 0) := ⟨_, rfl⟩
        rw [← hR] at HC
        unfold Comes at HC
        have HR := Lib.hid hR
        have HS := Lib.hid S
        have HZ9 := Lib.hid hZ9
        clear S hR hZ9 hb9
        rw [hW9] at z0 z1 z2 z3
        go_wp2_with fail
        rw [← hW9]
        clear hW9 hmk z0 z1 z2 z3
        refine HC.out.mono ?_
        rintro r W10 ⟨rfl, hb10⟩
        have S := HS.out.below hb10
        have HC := Lib.hid (HZB.out W10 S W7.heap.size (HZ9.out.below hb10))
        obtain ⟨R2, hR2⟩ : ∃ R2, R2 = ofE (.mk 4 0 { data := #[105, 110, 116] } [.mk 4 0 { data := #[98, 111, 111, 108] } [e]]) ss (List.replicate ss.length 0) := ⟨_, rfl⟩
        rw [← hR2] at HC
        have HR2 := Lib.hid hR2
        unfold Comes at HC
        have y0 := S.bb.cell 0
        have y1 := S.bb.cell 1
        have y2 := S.bb.cell 2
        have y3 := S.bb.cell 3
        simp only [List.getElem?_toArray, List.getElem?_cons_zero, List.getElem?_cons_succ] at y0 y1 y2 y3
        have HS := Lib.hid S
        clear S hR2 hb10
        go_wp2_with fail
        refine HC.out.mono ?_
        rintro r W11 ⟨rfl, hb⟩
        have S := HS.out.below hb
        clear HC HS hb y0 y1 y2 y3
        have y0 := S.bb.cell 0
        have y1 := S.bb.cell 1
        have y2 := S.bb.cell 2
        have y3 := S.bb.cell 3
        simp only [List.getElem?_toArray, List.getElem?_cons_zero, List.getElem?_cons_succ] at y0 y1 y2 y3
        have z0 := S.be.cell 0
        have z1 := S.be.cell 1
        have z2 := S.be.cell 2
        have z3 := S.be.cell 3
        simp only [List.getElem?_toArray, List.getElem?_cons_zero, List.getElem?_cons_succ] at z0 z1 z2 z3
        have HS := Lib.hid S
        have HCO := Lib.hid (HOB.out W11 S)
        have hyl := S.bb.lt
        clear S
        obtain ⟨n1, hn1⟩ : ∃ n1, n1 = R.getD 0 := ⟨_, rfl⟩
        obtain ⟨n2, hn2⟩ : ∃ n2, n2 = R2.getD 0 := ⟨_, rfl⟩
        obtain ⟨b1, hb1'⟩ : ∃ b1, b1 = R.isSome := ⟨_, rfl⟩
        obtain ⟨b2, hb2'⟩ : ∃ b2, b2 = R2.isSome := ⟨_, rfl⟩
        rw [← hn1, ← hn2, ← hb1', ← hb2']
        clear hn1 hn2 hb1' hb2' HR HR2
        go_wp2_with fail
        refine wp_region_noPanic ?_
        refine wp_region_held_drew (S := (fun w' => w'.cell? ⟨w4.heap.size + 1 + 1 + 1, 0, none⟩ = some (.int .i64 4) ∧ w'.cell? ⟨w4.heap.size + 1 + 1 + 1, 1, none⟩ = some (.int .i64 0) ∧ w'.cell? ⟨w4.heap.size + 1 + 1 + 1, 2, none⟩ = some (.string { data := #[105, 110, 116] }) ∧ w'.cell? ⟨w4.heap.size + 1 + 1 + 1, 3, none⟩ = some (.slice (some ⟨w4.heap.size + 1 + 1, 0, none⟩) 1 1) ∧ Below W11.heap.size W11 w')) (by kernel_rfl) (by exact ⟨y0, y1, y2, y3, (Below.refl _ W11).drew⟩) (fun hHeld => ?_)
        refine wpAnyH_take (i := 0) (v := ?valF0x1) rfl (by kernel_rfl) (by kernel_rfl) (by kernel_rfl) (fun _ _ _ h => h) (Or.inl ⟨by rfl, ?yieF0x1⟩) (by assumption) ?resF0x1
        case yieF0x1 =>
          intro w hSw
          try dsimp only at hSw
          try obtain ⟨s0, s1, s2, s3, _⟩ := hSw
          go_simp
          try with_reducible rfl
        try simp only [Act.put, List.setIfInBounds_toArray, List.set_cons_zero, List.set_cons_succ, List.getElem_toArray, List.getElem_cons_zero, List.getElem_cons_succ]
        refine wpAnyH_ready (rs := [1]) (by kernel_rfl) (by simp) ?_
        refine AllReadyH.cons rfl (fun K hK => ?_) AllReadyH.nil
        go_simp
        refine (HOB.out _ (HS.out.below (Below.refl _ W11).drew)).mono ?_
        rintro r W12 ⟨rfl, hb12'⟩
        have hb12 : Below W11.heap.size W11 W12 := (Below.refl _ W11).drew.trans hb12'
        go_wp2_with fail
        refine hK.out _ _ (by exact ⟨(hb12.cell (p := ⟨w4.heap.size + 1 + 1 + 1, 0, none⟩) hyl).trans y0, (hb12.cell (p := ⟨w4.heap.size + 1 + 1 + 1, 1, none⟩) hyl).trans y1, (hb12.cell (p := ⟨w4.heap.size + 1 + 1 + 1, 2, none⟩) hyl).trans y2, (hb12.cell (p := ⟨w4.heap.size + 1 + 1 + 1, 3, none⟩) hyl).trans y3, hb12⟩) (fun hHeld => ?_)
        clear hK K
        try simp only [Act.put, List.setIfInBounds_toArray, List.set_cons_zero, List.set_cons_succ, List.getElem_toArray, List.getElem_cons_zero, List.getElem_cons_succ]
        refine wpAnyH_take (i := 2) (v := ?valF2x1) rfl (by kernel_rfl) (by kernel_rfl) (by kernel_rfl) (fun _ _ _ h => h) (Or.inl ⟨by rfl, ?yieF2x1⟩) (by assumption) ?resF2x1
        case yieF2x1 =>
          intro w hSw
          try dsimp only at hSw
          try obtain ⟨s0, s1, s2, s3, _⟩ := hSw
          go_simp
          try with_reducible rfl
        try simp only [Act.put, List.setIfInBounds_toArray, List.set_cons_zero, List.set_cons_succ, List.getElem_toArray, List.getElem_cons_zero, List.getElem_cons_succ]
        refine wpAnyH_take (i := 3) (v := ?valF3x1) rfl (by kernel_rfl) (by kernel_rfl) (by kernel_rfl) (fun _ _ _ h => h) (Or.inl ⟨by rfl, ?yieF3x1⟩) (by assumption) ?resF3x1
        case yieF3x1 =>
          intro w hSw
          try dsimp only at hSw
          try obtain ⟨s0, s1, s2, s3, _⟩ := hSw
          go_simp
          try with_reducible rfl
        try simp only [Act.put, List.setIfInBounds_toArray, List.set_cons_zero, List.set_cons_succ, List.getElem_toArray, List.getElem_cons_zero, List.getElem_cons_succ]
        refine wpAnyH_take (i := 4) (v := undef) rfl (by kernel_rfl) (by kernel_rfl) (by kernel_rfl) (fun _ _ _ h => h) (Or.inr ⟨by rfl, rfl⟩) (by assumption) ?_
        try simp only [Act.put, List.setIfInBounds_toArray, List.set_cons_zero, List.set_cons_succ, List.getElem_toArray, List.getElem_cons_zero, List.getElem_cons_succ]
        refine wpAnyH_take (i := 5) (v := undef) rfl (by kernel_rfl) (by kernel_rfl) (by kernel_rfl) (fun _ _ _ h => h) (Or.inr ⟨by rfl, rfl⟩) (by assumption) ?_
        try simp only [Act.put, List.setIfInBounds_toArray, List.set_cons_zero, List.set_cons_succ, List.getElem_toArray, List.getElem_cons_zero, List.getElem_cons_succ]
        refine wpAnyH_take (i := 6) (v := undef) rfl (by kernel_rfl) (by kernel_rfl) (by kernel_rfl) (fun _ _ _ h => h) (Or.inr ⟨by rfl, rfl⟩) (by assumption) ?_
        try simp only [Act.put, List.setIfInBounds_toArray, List.set_cons_zero, List.set_cons_succ, List.getElem_toArray, List.getElem_cons_zero, List.getElem_cons_succ]
        refine wpAnyH_take (i := 7) (v := undef) rfl (by kernel_rfl) (by kernel_rfl) (by kernel_rfl) (fun _ _ _ h => h) (Or.inr ⟨by rfl, rfl⟩) (by assumption) ?_
        try simp only [Act.put, List.setIfInBounds_toArray, List.set_cons_zero, List.set_cons_succ, List.getElem_toArray, List.getElem_cons_zero, List.getElem_cons_succ]
        refine wpAnyH_take (i := 8) (v := undef) rfl (by kernel_rfl) (by kernel_rfl) (by kernel_rfl) (fun _ _ _ h => h) (Or.inr ⟨by rfl, rfl⟩) (by assumption) ?_
        try simp only [Act.put, List.setIfInBounds_toArray, List.set_cons_zero, List.set_cons_succ, List.getElem_toArray, List.getElem_cons_zero, List.getElem_cons_succ]
        refine wpAnyH_take (i := 9) (v := undef) rfl (by kernel_rfl) (by kernel_rfl) (by kernel_rfl) (fun _ _ _ h => h) (Or.inr ⟨by rfl, rfl⟩) (by assumption) ?_
        try simp only [Act.put, List.setIfInBounds_toArray, List.set_cons_zero, List.set_cons_succ, List.getElem_toArray, List.getElem_cons_zero, List.getElem_cons_succ]
        refine wpAnyH_take (i := 10) (v := undef) rfl (by kernel_rfl) (by kernel_rfl) (by kernel_rfl) (fun _ _ _ h => h) (Or.inr ⟨by rfl, rfl⟩) (by assumption) ?_
        try simp only [Act.put, List.setIfInBounds_toArray, List.set_cons_zero, List.set_cons_succ, List.getElem_toArray, List.getElem_cons_zero, List.getElem_cons_succ]
        refine wpAnyH_take (i := 11) (v := undef) rfl (by kernel_rfl) (by kernel_rfl) (by kernel_rfl) (fun _ _ _ h => h) (Or.inr ⟨by rfl, rfl⟩) (by assumption) ?_
        try simp only [Act.put, List.setIfInBounds_toArray, List.set_cons_zero, List.set_cons_succ, List.getElem_toArray, List.getElem_cons_zero, List.getElem_cons_succ]
        refine wpAnyH_take (i := 12) (v := undef) rfl (by kernel_rfl) (by kernel_rfl) (by kernel_rfl) (fun _ _ _ h => h) (Or.inr ⟨by rfl, rfl⟩) (by assumption) ?_
        try simp only [Act.put, List.setIfInBounds_toArray, List.set_cons_zero, List.set_cons_succ, List.getElem_toArray, List.getElem_cons_zero, List.getElem_cons_succ]
        refine wpAnyH_take (i := 13) (v := undef) rfl (by kernel_rfl) (by kernel_rfl) (by kernel_rfl) (fun _ _ _ h => h) (Or.inr ⟨by rfl, rfl⟩) (by assumption) ?_
        try simp only [Act.put, List.setIfInBounds_toArray, List.set_cons_zero, List.set_cons_succ, List.getElem_toArray, List.getElem_cons_zero, List.getElem_cons_succ]
        refine wpAnyH_take (i := 14) (v := undef) rfl (by kernel_rfl) (by kernel_rfl) (by kernel_rfl) (fun _ _ _ h => h) (Or.inr ⟨by rfl, rfl⟩) (by assumption) ?_
        try simp only [Act.put, List.setIfInBounds_toArray, List.set_cons_zero, List.set_cons_succ, List.getElem_toArray, List.getElem_cons_zero, List.getElem_cons_succ]
        refine wpAnyH_take (i := 15) (v := undef) rfl (by kernel_rfl) (by kernel_rfl) (by kernel_rfl) (fun _ _ _ h => h) (Or.inr ⟨by rfl, rfl⟩) (by assumption) ?_
        try simp only [Act.put, List.setIfInBounds_toArray, List.set_cons_zero, List.set_cons_succ, List.getElem_toArray, List.getElem_cons_zero, List.getElem_cons_succ]
        refine wpAnyH_take (i := 16) (v := undef) rfl (by kernel_rfl) (by kernel_rfl) (by kernel_rfl) (fun _ _ _ h => h) (Or.inr ⟨by rfl, rfl⟩) (by assumption) ?_
        try simp only [Act.put, List.setIfInBounds_toArray, List.set_cons_zero, List.set_cons_succ, List.getElem_toArray, List.getElem_cons_zero, List.getElem_cons_succ]
        refine wpAnyH_take (i := 17) (v := undef) rfl (by kernel_rfl) (by kernel_rfl) (by kernel_rfl) (fun _ _ _ h => h) (Or.inr ⟨by rfl, rfl⟩) (by assumption) ?_
        try simp only [Act.put, List.setIfInBounds_toArray, List.set_cons_zero, List.set_cons_succ, List.getElem_toArray, List.getElem_cons_zero, List.getElem_cons_succ]
        refine wpAnyH_take (i := 18) (v := undef) rfl (by kernel_rfl) (by kernel_rfl) (by kernel_rfl) (fun _ _ _ h => h) (Or.inr ⟨by rfl, rfl⟩) (by assumption) ?_
        try simp only [Act.put, List.setIfInBounds_toArray, List.set_cons_zero, List.set_cons_succ, List.getElem_toArray, List.getElem_cons_zero, List.getElem_cons_succ]
        refine wpAnyH_take (i := 19) (v := ?valF19x1) rfl (by kernel_rfl) (by kernel_rfl) (by kernel_rfl) (fun _ _ _ h => h) (Or.inl ⟨by rfl, ?yieF19x1⟩) (by assumption) ?resF19x1
        case yieF19x1 =>
          intro w hSw
          try dsimp only at hSw
          try obtain ⟨s0, s1, s2, s3, _⟩ := hSw
          go_simp
          try with_reducible rfl
        try simp only [Act.put, List.setIfInBounds_toArray, List.set_cons_zero, List.set_cons_succ, List.getElem_toArray, List.getElem_cons_zero, List.getElem_cons_succ]
        refine wpAnyH_take (i := 20) (v := ?valF20x1) rfl (by kernel_rfl) (by kernel_rfl) (by kernel_rfl) (fun _ _ _ h => h) (Or.inl ⟨by rfl, ?yieF20x1⟩) (by assumption) ?resF20x1
        case yieF20x1 =>
          intro w hSw
          try dsimp only at hSw
          try obtain ⟨s0, s1, s2, s3, _⟩ := hSw
          go_simp
          try with_reducible rfl
        try simp only [Act.put, List.setIfInBounds_toArray, List.set_cons_zero, List.set_cons_succ, List.getElem_toArray, List.getElem_cons_zero, List.getElem_cons_succ]
        refine wpAnyH_done (by kernel_rfl) ?_ _
        refine NoPanic.normal ?_
        go_wp2_with fail
        go_ret
        exact ⟨rfl, HB4.out.trans ((HS.out.below hb12).bel.mono HB4.out.size)⟩
    | true =>
      cases ob with
      | false =>
        have x0 := S.ba.cell 0
        have x1 := S.ba.cell 1
        have x2 := S.ba.cell 2
        have x3 := S.ba.cell 3
        simp only [List.getElem?_toArray, List.getElem?_cons_zero, List.getElem?_cons_succ] at x0 x1 x2 x3
        have hta : typE (.mk 4 0 { data := #[98, 111, 111, 108] } [e]) ss vs = { data := #[] } := (HTV.out (by first | rfl | trivial)).trans (if_pos rfl)
        have HC := Lib.hid (HTA.out W5 S)
        rw [hta] at HC
        unfold Types at HC
        have HS := Lib.hid S
        clear S
        go_wp2_with fail
        refine HC.out.mono ?_
        rintro r W6 ⟨rfl, hb⟩
        have S := HS.out.below hb
        clear HC HS hb x0 x1 x2 x3
        have y0 := S.bb.cell 0
        have y1 := S.bb.cell 1
        have y2 := S.bb.cell 2
        have y3 := S.bb.cell 3
        simp only [List.getElem?_toArray, List.getElem?_cons_zero, List.getElem?_cons_succ] at y0 y1 y2 y3
        have HC := Lib.hid (HOB.out W6 S)
        have HS := Lib.hid S
        clear S
        go_wp2_with fail
        refine HC.out.mono ?_
        rintro r W7 ⟨rfl, hb⟩
        have S := HS.out.below hb
        clear HC HS hb y0 y1 y2 y3
        have hmk := fun W => run_make_row' (P := Tryz.prog) 36 3 (.int .i64 0) 8 Tryz.underlying36 infoInt rfl .i64 .i64 ss.length (by omega) (by omega) W
        obtain ⟨W9, hW9⟩ : ∃ W9, W9 = W7.alloc (.cells (madeCells #[.int .i64 0] ss.length) 3) := ⟨_, rfl⟩
        have hb9 : Below W7.heap.size W7 W9 := by rw [hW9]; exact (Below.refl _ _).alloc (Nat.le_refl _) _
        have hZ9 : SlIs W9 (some ⟨W7.heap.size, 0, none⟩) ((List.replicate ss.length (0 : Int)).map intV) := by
          have := SlIs.own (own_made W7 (.int .i64 0) ss.length (by unfold maxLen; omega) 3)
          rw [hW9]
          simpa [intV] using this
        replace S := S.below hb9
        have z0 := S.be.cell 0
        have z1 := S.be.cell 1
        have z2 := S.be.cell 2
        have z3 := S.be.cell 3
        simp only [List.getElem?_toArray, List.getElem?_cons_zero, List.getElem?_cons_succ] at z0 z1 z2 z3
        have HC := Lib.hid (HZE.out W9 S W7.heap.size hZ9)
        obtain ⟨R, hR⟩ : ∃ R, R = ofE e ss (List.replicate ss.length 0) := ⟨_, rfl⟩
        rw [← hR] at HC
        unfold Comes at HC
        have HR := Lib.hid hR
        have HS := Lib.hid S
        have HZ9 := Lib.hid hZ9
        clear S hR hZ9 hb9
        rw [hW9] at z0 z1 z2 z3
        go_wp2_with fail
        rw [← hW9]
        clear hW9 hmk z0 z1 z2 z3
        refine HC.out.mono ?_
        rintro r W10 ⟨rfl, hb10⟩
        have S := HS.out.below hb10
        have HC := Lib.hid (HZB.out W10 S W7.heap.size (HZ9.out.below hb10))
        obtain ⟨R2, hR2⟩ : ∃ R2, R2 = ofE (.mk 4 0 { data := #[105, 110, 116] } [.mk 4 0 { data := #[98, 111, 111, 108] } [e]]) ss (List.replicate ss.length 0) := ⟨_, rfl⟩
        rw [← hR2] at HC
        have HR2 := Lib.hid hR2
        unfold Comes at HC
        have y0 := S.bb.cell 0
        have y1 := S.bb.cell 1
        have y2 := S.bb.cell 2
        have y3 := S.bb.cell 3
        simp only [List.getElem?_toArray, List.getElem?_cons_zero, List.getElem?_cons_succ] at y0 y1 y2 y3
        have HS := Lib.hid S
        clear S hR2 hb10
        go_wp2_with fail
        refine HC.out.mono ?_
        rintro r W11 ⟨rfl, hb⟩
        have S := HS.out.below hb
        clear HC HS hb y0 y1 y2 y3
        have y0 := S.bb.cell 0
        have y1 := S.bb.cell 1
        have y2 := S.bb.cell 2
        have y3 := S.bb.cell 3
        simp only [List.getElem?_toArray, List.getElem?_cons_zero, List.getElem?_cons_succ] at y0 y1 y2 y3
        have z0 := S.be.cell 0
        have z1 := S.be.cell 1
        have z2 := S.be.cell 2
        have z3 := S.be.cell 3
        simp only [List.getElem?_toArray, List.getElem?_cons_zero, List.getElem?_cons_succ] at z0 z1 z2 z3
        have HS := Lib.hid S
        have HCO := Lib.hid (HOB.out W11 S)
        have hyl := S.bb.lt
        clear S
        obtain ⟨n1, hn1⟩ : ∃ n1, n1 = R.getD 0 := ⟨_, rfl⟩
        obtain ⟨n2, hn2⟩ : ∃ n2, n2 = R2.getD 0 := ⟨_, rfl⟩
        obtain ⟨b1, hb1'⟩ : ∃ b1, b1 = R.isSome := ⟨_, rfl⟩
        obtain ⟨b2, hb2'⟩ : ∃ b2, b2 = R2.isSome := ⟨_, rfl⟩
        rw [← hn1, ← hn2, ← hb1', ← hb2']
        clear hn1 hn2 hb1' hb2' HR HR2
        go_wp2_with fail
        refine wp_region_noPanic ?_
        refine wp_region_held_drew (S := (fun w' => w'.cell? ⟨w4.heap.size + 1 + 1 + 1, 0, none⟩ = some (.int .i64 4) ∧ w'.cell? ⟨w4.heap.size + 1 + 1 + 1, 1, none⟩ = some (.int .i64 0) ∧ w'.cell? ⟨w4.heap.size + 1 + 1 + 1, 2, none⟩ = some (.string { data := #[105, 110, 116] }) ∧ w'.cell? ⟨w4.heap.size + 1 + 1 + 1, 3, none⟩ = some (.slice (some ⟨w4.heap.size + 1 + 1, 0, none⟩) 1 1) ∧ Below W11.heap.size W11 w')) (by kernel_rfl) (by exact ⟨y0, y1, y2, y3, (Below.refl _ W11).drew⟩) (fun hHeld => ?_)
        refine wpAnyH_take (i := 0) (v := ?valF0x2) rfl (by kernel_rfl) (by kernel_rfl) (by kernel_rfl) (fun _ _ _ h => h) (Or.inl ⟨by rfl, ?yieF0x2⟩) (by assumption) ?resF0x2
        case yieF0x2 =>
          intro w hSw
          try dsimp only at hSw
          try obtain ⟨s0, s1, s2, s3, _⟩ := hSw
          go_simp
          try with_reducible rfl
        try simp only [Act.put, List.setIfInBounds_toArray, List.set_cons_zero, List.set_cons_succ, List.getElem_toArray, List.getElem_cons_zero, List.getElem_cons_succ]
        refine wpAnyH_ready (rs := [1]) (by kernel_rfl) (by simp) ?_
        refine AllReadyH.cons rfl (fun K hK => ?_) AllReadyH.nil
        go_simp
        refine (HOB.out _ (HS.out.below (Below.refl _ W11).drew)).mono ?_
        rintro r W12 ⟨rfl, hb12'⟩
        have hb12 : Below W11.heap.size W11 W12 := (Below.refl _ W11).drew.trans hb12'
        go_wp2_with fail
        refine hK.out _ _ (by exact ⟨(hb12.cell (p := ⟨w4.heap.size + 1 + 1 + 1, 0, none⟩) hyl).trans y0, (hb12.cell (p := ⟨w4.heap.size + 1 + 1 + 1, 1, none⟩) hyl).trans y1, (hb12.cell (p := ⟨w4.heap.size + 1 + 1 + 1, 2, none⟩) hyl).trans y2, (hb12.cell (p := ⟨w4.heap.size + 1 + 1 + 1, 3, none⟩) hyl).trans y3, hb12⟩) (fun hHeld => ?_)
        clear hK K
        try simp only [Act.put, List.setIfInBounds_toArray, List.set_cons_zero, List.set_cons_succ, List.getElem_toArray, List.getElem_cons_zero, List.getElem_cons_succ]
        refine wpAnyH_take (i := 2) (v := ?valF2x2) rfl (by kernel_rfl) (by kernel_rfl) (by kernel_rfl) (fun _ _ _ h => h) (Or.inl ⟨by rfl, ?yieF2x2⟩) (by assumption) ?resF2x2
        case yieF2x2 =>
          intro w hSw
          try dsimp only at hSw
          try obtain ⟨s0, s1, s2, s3, _⟩ := hSw
          go_simp
          try with_reducible rfl
        try simp only [Act.put, List.setIfInBounds_toArray, List.set_cons_zero, List.set_cons_succ, List.getElem_toArray, List.getElem_cons_zero, List.getElem_cons_succ]
        refine wpAnyH_take (i := 3) (v := ?valF3x2) rfl (by kernel_rfl) (by kernel_rfl) (by kernel_rfl) (fun _ _ _ h => h) (Or.inl ⟨by rfl, ?yieF3x2⟩) (by assumption) ?resF3x2
        case yieF3x2 =>
          intro w hSw
          try dsimp only at hSw
          try obtain ⟨s0, s1, s2, s3, _⟩ := hSw
          go_simp
          try with_reducible rfl
        try simp only [Act.put, List.setIfInBounds_toArray, List.set_cons_zero, List.set_cons_succ, List.getElem_toArray, List.getElem_cons_zero, List.getElem_cons_succ]
        refine wpAnyH_take (i := 4) (v := undef) rfl (by kernel_rfl) (by kernel_rfl) (by kernel_rfl) (fun _ _ _ h => h) (Or.inr ⟨by rfl, rfl⟩) (by assumption) ?_
        try simp only [Act.put, List.setIfInBounds_toArray, List.set_cons_zero, List.set_cons_succ, List.getElem_toArray, List.getElem_cons_zero, List.getElem_cons_succ]
        refine wpAnyH_take (i := 5) (v := undef) rfl (by kernel_rfl) (by kernel_rfl) (by kernel_rfl) (fun _ _ _ h => h) (Or.inr ⟨by rfl, rfl⟩) (by assumption) ?_
        try simp only [Act.put, List.setIfInBounds_toArray, List.set_cons_zero, List.set_cons_succ, List.getElem_toArray, List.getElem_cons_zero, List.getElem_cons_succ]
        refine wpAnyH_take (i := 6) (v := undef) rfl (by kernel_rfl) (by kernel_rfl) (by kernel_rfl) (fun _ _ _ h => h) (Or.inr ⟨by rfl, rfl⟩) (by assumption) ?_
        try simp only [Act.put, List.setIfInBounds_toArray, List.set_cons_zero, List.set_cons_succ, List.getElem_toArray, List.getElem_cons_zero, List.getElem_cons_succ]
        refine wpAnyH_take (i := 7) (v := undef) rfl (by kernel_rfl) (by kernel_rfl) (by kernel_rfl) (fun _ _ _ h => h) (Or.inr ⟨by rfl, rfl⟩) (by assumption) ?_
        try simp only [Act.put, List.setIfInBounds_toArray, List.set_cons_zero, List.set_cons_succ, List.getElem_toArray, List.getElem_cons_zero, List.getElem_cons_succ]
        refine wpAnyH_take (i := 8) (v := undef) rfl (by kernel_rfl) (by kernel_rfl) (by kernel_rfl) (fun _ _ _ h => h) (Or.inr ⟨by rfl, rfl⟩) (by assumption) ?_
        try simp only [Act.put, List.setIfInBounds_toArray, List.set_cons_zero, List.set_cons_succ, List.getElem_toArray, List.getElem_cons_zero, List.getElem_cons_succ]
        refine wpAnyH_take (i := 9) (v := undef) rfl (by kernel_rfl) (by kernel_rfl) (by kernel_rfl) (fun _ _ _ h => h) (Or.inr ⟨by rfl, rfl⟩) (by assumption) ?_
        try simp only [Act.put, List.setIfInBounds_toArray, List.set_cons_zero, List.set_cons_succ, List.getElem_toArray, List.getElem_cons_zero, List.getElem_cons_succ]
        refine wpAnyH_take (i := 10) (v := undef) rfl (by kernel_rfl) (by kernel_rfl) (by kernel_rfl) (fun _ _ _ h => h) (Or.inr ⟨by rfl, rfl⟩) (by assumption) ?_
        try simp only [Act.put, List.setIfInBounds_toArray, List.set_cons_zero, List.set_cons_succ, List.getElem_toArray, List.getElem_cons_zero, List.getElem_cons_succ]
        refine wpAnyH_take (i := 11) (v := undef) rfl (by kernel_rfl) (by kernel_rfl) (by kernel_rfl) (fun _ _ _ h => h) (Or.inr ⟨by rfl, rfl⟩) (by assumption) ?_
        try simp only [Act.put, List.setIfInBounds_toArray, List.set_cons_zero, List.set_cons_succ, List.getElem_toArray, List.getElem_cons_zero, List.getElem_cons_succ]
        refine wpAnyH_take (i := 12) (v := undef) rfl (by kernel_rfl) (by kernel_rfl) (by kernel_rfl) (fun _ _ _ h => h) (Or.inr ⟨by rfl, rfl⟩) (by assumption) ?_
        try simp only [Act.put, List.setIfInBounds_toArray, List.set_cons_zero, List.set_cons_succ, List.getElem_toArray, List.getElem_cons_zero, List.getElem_cons_succ]
        refine wpAnyH_take (i := 13) (v := undef) rfl (by kernel_rfl) (by kernel_rfl) (by kernel_rfl) (fun _ _ _ h => h) (Or.inr ⟨by rfl, rfl⟩) (by assumption) ?_
        try simp only [Act.put, List.setIfInBounds_toArray, List.set_cons_zero, List.set_cons_succ, List.getElem_toArray, List.getElem_cons_zero, List.getElem_cons_succ]
        refine wpAnyH_take (i := 14) (v := undef) rfl (by kernel_rfl) (by kernel_rfl) (by kernel_rfl) (fun _ _ _ h => h) (Or.inr ⟨by rfl, rfl⟩) (by assumption) ?_
        try simp only [Act.put, List.setIfInBounds_toArray, List.set_cons_zero, List.set_cons_succ, List.getElem_toArray, List.getElem_cons_zero, List.getElem_cons_succ]
        refine wpAnyH_take (i := 15) (v := undef) rfl (by kernel_rfl) (by kernel_rfl) (by kernel_rfl) (fun _ _ _ h => h) (Or.inr ⟨by rfl, rfl⟩) (by assumption) ?_
        try simp only [Act.put, List.setIfInBounds_toArray, List.set_cons_zero, List.set_cons_succ, List.getElem_toArray, List.getElem_cons_zero, List.getElem_cons_succ]
        refine wpAnyH_take (i := 16) (v := undef) rfl (by kernel_rfl) (by kernel_rfl) (by kernel_rfl) (fun _ _ _ h => h) (Or.inr ⟨by rfl, rfl⟩) (by assumption) ?_
        try simp only [Act.put, List.setIfInBounds_toArray, List.set_cons_zero, List.set_cons_succ, List.getElem_toArray, List.getElem_cons_zero, List.getElem_cons_succ]
        refine wpAnyH_take (i := 17) (v := undef) rfl (by kernel_rfl) (by kernel_rfl) (by kernel_rfl) (fun _ _ _ h => h) (Or.inr ⟨by rfl, rfl⟩) (by assumption) ?_
        try simp only [Act.put, List.setIfInBounds_toArray, List.set_cons_zero, List.set_cons_succ, List.getElem_toArray, List.getElem_cons_zero, List.getElem_cons_succ]
        refine wpAnyH_take (i := 18) (v := undef) rfl (by kernel_rfl) (by kernel_rfl) (by kernel_rfl) (fun _ _ _ h => h) (Or.inr ⟨by rfl, rfl⟩) (by assumption) ?_
        try simp only [Act.put, List.setIfInBounds_toArray, List.set_cons_zero, List.set_cons_succ, List.getElem_toArray, List.getElem_cons_zero, List.getElem_cons_succ]
        refine wpAnyH_take (i := 19) (v := ?valF19x2) rfl (by kernel_rfl) (by kernel_rfl) (by kernel_rfl) (fun _ _ _ h => h) (Or.inl ⟨by rfl, ?yieF19x2⟩) (by assumption) ?resF19x2
        case yieF19x2 =>
          intro w hSw
          try dsimp only at hSw
          try obtain ⟨s0, s1, s2, s3, _⟩ := hSw
          go_simp
          try with_reducible rfl
        try simp only [Act.put, List.setIfInBounds_toArray, List.set_cons_zero, List.set_cons_succ, List.getElem_toArray, List.getElem_cons_zero, List.getElem_cons_succ]
        refine wpAnyH_take (i := 20) (v := ?valF20x2) rfl (by kernel_rfl) (by kernel_rfl) (by kernel_rfl) (fun _ _ _ h => h) (Or.inl ⟨by rfl, ?yieF20x2⟩) (by assumption) ?resF20x2
        case yieF20x2 =>
          intro w hSw
          try dsimp only at hSw
          try obtain ⟨s0, s1, s2, s3, _⟩ := hSw
          go_simp
          try with_reducible rfl
        try simp only [Act.put, List.setIfInBounds_toArray, List.set_cons_zero, List.set_cons_succ, List.getElem_toArray, List.getElem_cons_zero, List.getElem_cons_succ]
        refine wpAnyH_done (by kernel_rfl) ?_ _
        refine NoPanic.normal ?_
        go_wp2_with fail
        go_ret
        exact ⟨rfl, HB4.out.trans ((HS.out.below hb12).bel.mono HB4.out.size)⟩
      | true =>
        have x0 := S.ba.cell 0
        have x1 := S.ba.cell 1
        have x2 := S.ba.cell 2
        have x3 := S.ba.cell 3
        simp only [List.getElem?_toArray, List.getElem?_cons_zero, List.getElem?_cons_succ] at x0 x1 x2 x3
        have hta : typE (.mk 4 0 { data := #[98, 111, 111, 108] } [e]) ss vs = { data := #[] } := (HTV.out (by first | rfl | trivial)).trans (if_pos rfl)
        have HC := Lib.hid (HTA.out W5 S)
        rw [hta] at HC
        unfold Types at HC
        have HS := Lib.hid S
        clear S
        go_wp2_with fail
        refine HC.out.mono ?_
        rintro r W6 ⟨rfl, hb⟩
        have S := HS.out.below hb
        clear HC HS hb x0 x1 x2 x3
        have y0 := S.bb.cell 0
        have y1 := S.bb.cell 1
        have y2 := S.bb.cell 2
        have y3 := S.bb.cell 3
        simp only [List.getElem?_toArray, List.getElem?_cons_zero, List.getElem?_cons_succ] at y0 y1 y2 y3
        have HC := Lib.hid (HOB.out W6 S)
        have HS := Lib.hid S
        clear S
        go_wp2_with fail
        refine HC.out.mono ?_
        rintro r W7 ⟨rfl, hb⟩
        have S := HS.out.below hb
        clear HC HS hb y0 y1 y2 y3
        have y0 := S.bb.cell 0
        have y1 := S.bb.cell 1
        have y2 := S.bb.cell 2
        have y3 := S.bb.cell 3
        simp only [List.getElem?_toArray, List.getElem?_cons_zero, List.getElem?_cons_succ] at y0 y1 y2 y3
        have htb : typE (.mk 4 0 { data := #[105, 110, 116] } [.mk 4 0 { data := #[98, 111, 111, 108] } [e]]) ss vs = { data := #[] } := ((HTW.out (by first | rfl | trivial)).2).trans (if_pos hta)
        have HC := Lib.hid (HTB.out W7 S)
        rw [htb] at HC
        unfold Types at HC
        have HS := Lib.hid S
        clear S
        go_wp2_with fail
        refine HC.out.mono ?_
        rintro r W8 ⟨rfl, hb⟩
        have S := HS.out.below hb
        clear HC HS hb y0 y1 y2 y3
        have hmk := fun W => run_make_row' (P := Tryz.prog) 36 3 (.int .i64 0) 8 Tryz.underlying36 infoInt rfl .i64 .i64 ss.length (by omega) (by omega) W
        obtain ⟨W9, hW9⟩ : ∃ W9, W9 = W8.alloc (.cells (madeCells #[.int .i64 0] ss.length) 3) := ⟨_, rfl⟩
        have hb9 : Below W8.heap.size W8 W9 := by rw [hW9]; exact (Below.refl _ _).alloc (Nat.le_refl _) _
        have hZ9 : SlIs W9 (some ⟨W8.heap.size, 0, none⟩) ((List.replicate ss.length (0 : Int)).map intV) := by
          have := SlIs.own (own_made W8 (.int .i64 0) ss.length (by unfold maxLen; omega) 3)
          rw [hW9]
          simpa [intV] using this
        replace S := S.below hb9
        have z0 := S.be.cell 0
        have z1 := S.be.cell 1
        have z2 := S.be.cell 2
        have z3 := S.be.cell 3
        simp only [List.getElem?_toArray, List.getElem?_cons_zero, List.getElem?_cons_succ] at z0 z1 z2 z3
        have HC := Lib.hid (HZE.out W9 S W8.heap.size hZ9)
        obtain ⟨R, hR⟩ : ∃ R, R = ofE e ss (List.replicate ss.length 0) := ⟨_, rfl⟩
        rw [← hR] at HC
        unfold Comes at HC
        have HR := Lib.hid hR
        have HS := Lib.hid S
        have HZ9 := Lib.hid hZ9
        clear S hR hZ9 hb9
        rw [hW9] at z0 z1 z2 z3
        go_wp2_with fail
        rw [← hW9]
        clear hW9 hmk z0 z1 z2 z3
        refine HC.out.mono ?_
        rintro r W10 ⟨rfl, hb10⟩
        have S := HS.out.below hb10
        have HC := Lib.hid (HZB.out W10 S W8.heap.size (HZ9.out.below hb10))
        obtain ⟨R2, hR2⟩ : ∃ R2, R2 = ofE (.mk 4 0 { data := #[105, 110, 116] } [.mk 4 0 { data := #[98, 111, 111, 108] } [e]]) ss (List.replicate ss.length 0) := ⟨_, rfl⟩
        rw [← hR2] at HC
        have HR2 := Lib.hid hR2
        unfold Comes at HC
        have y0 := S.bb.cell 0
        have y1 := S.bb.cell 1
        have y2 := S.bb.cell 2
        have y3 := S.bb.cell 3
        simp only [List.getElem?_toArray, List.getElem?_cons_zero, List.getElem?_cons_succ] at y0 y1 y2 y3
        have HS := Lib.hid S
        clear S hR2 hb10
        go_wp2_with fail
        refine HC.out.mono ?_
        rintro r W11 ⟨rfl, hb⟩
        have S := HS.out.below hb
        clear HC HS hb y0 y1 y2 y3
        have y0 := S.bb.cell 0
        have y1 := S.bb.cell 1
        have y2 := S.bb.cell 2
        have y3 := S.bb.cell 3
        simp only [List.getElem?_toArray, List.getElem?_cons_zero, List.getElem?_cons_succ] at y0 y1 y2 y3
        have z0 := S.be.cell 0
        have z1 := S.be.cell 1
        have z2 := S.be.cell 2
        have z3 := S.be.cell 3
        simp only [List.getElem?_toArray, List.getElem?_cons_zero, List.getElem?_cons_succ] at z0 z1 z2 z3
        have hRR : R2 = R := by rw [HR.out, HR2.out]; exact HAO.out _ HOBE.out.symm
        subst hRR
        have hbare : bareE (.mk 4 0 { data := #[105, 110, 116] } [.mk 4 0 { data := #[98, 111, 111, 108] } [e]]) = bareE e := HAB.out HOBE.out.symm
        have HS := Lib.hid S
        have HCO := Lib.hid (HOB.out W11 S)
        have HCB := Lib.hid (fun (W : World) (hW : Below W11.heap.size W11 W) => HBB.out W (S.below hW))
        have HCE := Lib.hid (fun (W : World) (hW : Below W11.heap.size W11 W) => HBE.out W (S.below hW))
        rw [hbare] at HCB
        have hyl := S.bb.lt
        have hel := S.be.lt
        clear S hbare
        obtain ⟨n1, hn1⟩ : ∃ n1, n1 = R2.getD 0 := ⟨_, rfl⟩
        obtain ⟨b1, hb1'⟩ : ∃ b1, b1 = R2.isSome := ⟨_, rfl⟩
        rw [← hn1, ← hb1']
        have qb : (b1 == b1) = true := by simp
        have qn : (n1 == n1) = true := by simp
        generalize bareE e = bq at *
        have HSB := Lib.hid (fun (A1 A2 : Option Addr) (c1 c2 B : Nat) (W : World) (h1 : KidsU W B A1 bq.kids) (h2 : KidsU W B A2 bq.kids) (h3 : bq.kids.length ≤ c1) (h4 : bq.kids.length ≤ c2) (h5 : B ≤ W.heap.size) => exprSame_any bq bq A1 A2 c1 c2 B W h1 h2 h3 h4 h5 HBN.out)
        rw [sameE_self] at HSB
        clear hn1 hb1' HR HR2
        go_wp2_with fail
        go_region_held3 (fun w' => w'.cell? ⟨w4.heap.size + 1 + 1 + 1, 0, none⟩ = some (.int .i64 4) ∧ w'.cell? ⟨w4.heap.size + 1 + 1 + 1, 1, none⟩ = some (.int .i64 0) ∧ w'.cell? ⟨w4.heap.size + 1 + 1 + 1, 2, none⟩ = some (.string { data := #[105, 110, 116] }) ∧ w'.cell? ⟨w4.heap.size + 1 + 1 + 1, 3, none⟩ = some (.slice (some ⟨w4.heap.size + 1 + 1, 0, none⟩) 1 1) ∧ w'.cell? ⟨w1.heap.size, 0, none⟩ = some (.int .i64 e.kind) ∧ w'.cell? ⟨w1.heap.size, 1, none⟩ = some (.int .i64 e.n) ∧ w'.cell? ⟨w1.heap.size, 2, none⟩ = some (.string e.s) ∧ w'.cell? ⟨w1.heap.size, 3, none⟩ = some (.slice Ae e.kids.length c) ∧ Below W11.heap.size W11 w')
          (first | exact ⟨y0, y1, y2, y3, z0, z1, z2, z3, (Below.refl _ W11).drew⟩ | exact ⟨(hb15.cell (p := ⟨w4.heap.size + 1 + 1 + 1, 0, none⟩) hyl).trans y0, (hb15.cell (p := ⟨w4.heap.size + 1 + 1 + 1, 1, none⟩) hyl).trans y1, (hb15.cell (p := ⟨w4.heap.size + 1 + 1 + 1, 2, none⟩) hyl).trans y2, (hb15.cell (p := ⟨w4.heap.size + 1 + 1 + 1, 3, none⟩) hyl).trans y3, (hb15.cell (p := ⟨w1.heap.size, 0, none⟩) hel).trans z0, (hb15.cell (p := ⟨w1.heap.size, 1, none⟩) hel).trans z1, (hb15.cell (p := ⟨w1.heap.size, 2, none⟩) hel).trans z2, (hb15.cell (p := ⟨w1.heap.size, 3, none⟩) hel).trans z3, hb15⟩ | exact ⟨(hb14.cell (p := ⟨w4.heap.size + 1 + 1 + 1, 0, none⟩) hyl).trans y0, (hb14.cell (p := ⟨w4.heap.size + 1 + 1 + 1, 1, none⟩) hyl).trans y1, (hb14.cell (p := ⟨w4.heap.size + 1 + 1 + 1, 2, none⟩) hyl).trans y2, (hb14.cell (p := ⟨w4.heap.size + 1 + 1 + 1, 3, none⟩) hyl).trans y3, (hb14.cell (p := ⟨w1.heap.size, 0, none⟩) hel).trans z0, (hb14.cell (p := ⟨w1.heap.size, 1, none⟩) hel).trans z1, (hb14.cell (p := ⟨w1.heap.size, 2, none⟩) hel).trans z2, (hb14.cell (p := ⟨w1.heap.size, 3, none⟩) hel).trans z3, hb14⟩ | exact ⟨(hb13.cell (p := ⟨w4.heap.size + 1 + 1 + 1, 0, none⟩) hyl).trans y0, (hb13.cell (p := ⟨w4.heap.size + 1 + 1 + 1, 1, none⟩) hyl).trans y1, (hb13.cell (p := ⟨w4.heap.size + 1 + 1 + 1, 2, none⟩) hyl).trans y2, (hb13.cell (p := ⟨w4.heap.size + 1 + 1 + 1, 3, none⟩) hyl).trans y3, (hb13.cell (p := ⟨w1.heap.size, 0, none⟩) hel).trans z0, (hb13.cell (p := ⟨w1.heap.size, 1, none⟩) hel).trans z1, (hb13.cell (p := ⟨w1.heap.size, 2, none⟩) hel).trans z2, (hb13.cell (p := ⟨w1.heap.size, 3, none⟩) hel).trans z3, hb13⟩ | exact ⟨(hb12.cell (p := ⟨w4.heap.size + 1 + 1 + 1, 0, none⟩) hyl).trans y0, (hb12.cell (p := ⟨w4.heap.size + 1 + 1 + 1, 1, none⟩) hyl).trans y1, (hb12.cell (p := ⟨w4.heap.size + 1 + 1 + 1, 2, none⟩) hyl).trans y2, (hb12.cell (p := ⟨w4.heap.size + 1 + 1 + 1, 3, none⟩) hyl).trans y3, (hb12.cell (p := ⟨w1.heap.size, 0, none⟩) hel).trans z0, (hb12.cell (p := ⟨w1.heap.size, 1, none⟩) hel).trans z1, (hb12.cell (p := ⟨w1.heap.size, 2, none⟩) hel).trans z2, (hb12.cell (p := ⟨w1.heap.size, 3, none⟩) hel).trans z3, hb12⟩)
          (first | (go_at_call 19; refine (HOB.out _ (HS.out.below (Below.refl _ W11).drew)).mono ?_; rintro r W12 ⟨rfl, hb12'⟩; have hb12 : Below W11.heap.size W11 W12 := (Below.refl _ W11).drew.trans hb12') | (go_at_call 28; ((with_reducible refine (HCB.out W12 hb12).mono ?_); rintro r W13 ⟨A13, c13, rfl, hc13, hO13, hb13'⟩; have hb13 : Below W11.heap.size W11 W13 := hb12.trans (hb13'.mono hb12.size); have HO13 := Lib.hid hO13; clear hO13)) | (go_at_call 28; ((with_reducible refine (HCE.out W13 hb13).mono ?_); rintro r W14 ⟨A14, c14, rfl, hc14, hO14, hb14'⟩; have hb14 : Below W11.heap.size W11 W14 := hb13.trans (hb14'.mono hb13.size); have HU1 := Lib.hid ((own_kidsU bq _ _ A13 W13.heap.size HO13.out (Nat.le_refl _)).keep hb14' |>.wide hb14'.size); have HU2 := Lib.hid (own_kidsU bq _ _ A14 W14.heap.size hO14 (Nat.le_refl _)); clear hO14)) | (go_at_call 22; refine (HSB.out A13 A14 c13 c14 W14.heap.size W14 HU1.out HU2.out hc13 hc14 (Nat.le_refl _)).mono ?_; rintro r W15 ⟨rfl, hb15'⟩; have hb15 : Below W11.heap.size W11 W15 := hb14.trans (hb15'.mono hb14.size)))
        rename_i hh
        go_wp2_with fail
        go_ret
        exact ⟨rfl, HB4.out.trans ((HS.out.below hb15).bel.mono HB4.out.size)⟩
  · subst hT
    clear HT3 HCT
    cases oa with
    | false =>
      cases ob with
      | true => have := (HTW.out (by first | rfl | trivial)).1; cases this
      | false =>
        have y0 := S.bb.cell 0
        have y1 := S.bb.cell 1
        have y2 := S.bb.cell 2
        have y3 := S.bb.cell 3
        simp only [List.getElem?_toArray, List.getElem?_cons_zero, List.getElem?_cons_succ] at y0 y1 y2 y3
        have HC := Lib.hid (HOB.out W5 S)
        have HS := Lib.hid S
        clear S
        go_wp2_with fail
        refine HC.out.mono ?_
        rintro r W7 ⟨rfl, hb⟩
        have S := HS.out.below hb
        clear HC HS hb y0 y1 y2 y3
        have hmk := fun W => run_make_row' (P := Tryz.prog) 36 3 (.int .i64 0) 8 Tryz.underlying36 infoInt rfl .i64 .i64 ss.length (by omega) (by omega) W
        obtain ⟨W9, hW9⟩ : ∃ W9, W9 = W7.alloc (.cells (madeCells #[.int .i64 0] ss.length) 3) := ⟨_, rfl⟩
        have hb9 : Below W7.heap.size W7 W9 := by rw [hW9]; exact (Below.refl _ _).alloc (Nat.le_refl _) _
        have hZ9 : SlIs W9 (some ⟨W7.heap.size, 0, none⟩) ((List.replicate ss.length (0 : Int)).map intV) := by
          have := SlIs.own (own_made W7 (.int .i64 0) ss.length (by unfold maxLen; omega) 3)
          rw [hW9]
          simpa [intV] using this
        replace S := S.below hb9
        have z0 := S.be.cell 0
        have z1 := S.be.cell 1
        have z2 := S.be.cell 2
        have z3 := S.be.cell 3
        simp only [List.getElem?_toArray, List.getElem?_cons_zero, List.getElem?_cons_succ] at z0 z1 z2 z3
        have HC := Lib.hid (HZE.out W9 S W7.heap.size hZ9)
        obtain ⟨R, hR⟩ : ∃ R, R = ofE e ss (List.replicate ss.length 0) := ⟨_, rfl⟩
        rw [← hR] at HC
        unfold Comes at HC
        have HR := Lib.hid hR
        have HS := Lib.hid S
        have HZ9 := Lib.hid hZ9
        clear S hR hZ9 hb9
        rw [hW9] at z0 z1 z2 z3
        go_wp2_with fail
        rw [← hW9]
        clear hW9 hmk z0 z1 z2 z3
        refine HC.out.mono ?_
        rintro r W10 ⟨rfl, hb10⟩
        have S := HS.out.below hb10
        have HC := Lib.hid (HZB.out W10 S W7.heap.size (HZ9.out.below hb10))
        obtain ⟨R2, hR2⟩ : ∃ R2, R2 = ofE (.mk 4 0 { data := #[105, 110, 116] } [.mk 4 0 { data := #[98, 111, 111, 108] } [e]]) ss (List.replicate ss.length 0) := ⟨_, rfl⟩
        rw [← hR2] at HC
        have HR2 := Lib.hid hR2
        unfold Comes at HC
        have y0 := S.bb.cell 0
        have y1 := S.bb.cell 1
        have y2 := S.bb.cell 2
        have y3 := S.bb.cell 3
        simp only [List.getElem?_toArray, List.getElem?_cons_zero, List.getElem?_cons_succ] at y0 y1 y2 y3
        have HS := Lib.hid S
        clear S hR2 hb10
        go_wp2_with fail
        refine HC.out.mono ?_
        rintro r W11 ⟨rfl, hb⟩
        have S := HS.out.below hb
        clear HC HS hb y0 y1 y2 y3
        have y0 := S.bb.cell 0
        have y1 := S.bb.cell 1
        have y2 := S.bb.cell 2
        have y3 := S.bb.cell 3
        simp only [List.getElem?_toArray, List.getElem?_cons_zero, List.getElem?_cons_succ] at y0 y1 y2 y3
        have z0 := S.be.cell 0
        have z1 := S.be.cell 1
        have z2 := S.be.cell 2
        have z3 := S.be.cell 3
        simp only [List.getElem?_toArray, List.getElem?_cons_zero, List.getElem?_cons_succ] at z0 z1 z2 z3
        have HS := Lib.hid S
        have HCO := Lib.hid (HOB.out W11 S)
        have hyl := S.bb.lt
        clear S
        obtain ⟨n1, hn1⟩ : ∃ n1, n1 = R.getD 0 := ⟨_, rfl⟩
        obtain ⟨n2, hn2⟩ : ∃ n2, n2 = R2.getD 0 := ⟨_, rfl⟩
        obtain ⟨b1, hb1'⟩ : ∃ b1, b1 = R.isSome := ⟨_, rfl⟩
        obtain ⟨b2, hb2'⟩ : ∃ b2, b2 = R2.isSome := ⟨_, rfl⟩
        rw [← hn1, ← hn2, ← hb1', ← hb2']
        clear hn1 hn2 hb1' hb2' HR HR2
        go_wp2_with fail
        refine wp_region_noPanic ?_
        refine wp_region_held_drew (S := (fun w' => w'.cell? ⟨w4.heap.size + 1 + 1 + 1, 0, none⟩ = some (.int .i64 4) ∧ w'.cell? ⟨w4.heap.size + 1 + 1 + 1, 1, none⟩ = some (.int .i64 0) ∧ w'.cell? ⟨w4.heap.size + 1 + 1 + 1, 2, none⟩ = some (.string { data := #[105, 110, 116] }) ∧ w'.cell? ⟨w4.heap.size + 1 + 1 + 1, 3, none⟩ = some (.slice (some ⟨w4.heap.size + 1 + 1, 0, none⟩) 1 1) ∧ Below W11.heap.size W11 w')) (by kernel_rfl) (by exact ⟨y0, y1, y2, y3, (Below.refl _ W11).drew⟩) (fun hHeld => ?_)
        refine wpAnyH_take (i := 0) (v := ?valF0x3) rfl (by kernel_rfl) (by kernel_rfl) (by kernel_rfl) (fun _ _ _ h => h) (Or.inl ⟨by rfl, ?yieF0x3⟩) (by assumption) ?resF0x3
        case yieF0x3 =>
          intro w hSw
          try dsimp only at hSw
          try obtain ⟨s0, s1, s2, s3, _⟩ := hSw
          go_simp
          try with_reducible rfl
        try simp only [Act.put, List.setIfInBounds_toArray, List.set_cons_zero, List.set_cons_succ, List.getElem_toArray, List.getElem_cons_zero, List.getElem_cons_succ]
        refine wpAnyH_ready (rs := [1]) (by kernel_rfl) (by simp) ?_
        refine AllReadyH.cons rfl (fun K hK => ?_) AllReadyH.nil
        go_simp
        refine (HOB.out _ (HS.out.below (Below.refl _ W11).drew)).mono ?_
        rintro r W12 ⟨rfl, hb12'⟩
        have hb12 : Below W11.heap.size W11 W12 := (Below.refl _ W11).drew.trans hb12'
        go_wp2_with fail
        refine hK.out _ _ (by exact ⟨(hb12.cell (p := ⟨w4.heap.size + 1 + 1 + 1, 0, none⟩) hyl).trans y0, (hb12.cell (p := ⟨w4.heap.size + 1 + 1 + 1, 1, none⟩) hyl).trans y1, (hb12.cell (p := ⟨w4.heap.size + 1 + 1 + 1, 2, none⟩) hyl).trans y2, (hb12.cell (p := ⟨w4.heap.size + 1 + 1 + 1, 3, none⟩) hyl).trans y3, hb12⟩) (fun hHeld => ?_)
        clear hK K
        try simp only [Act.put, List.setIfInBounds_toArray, List.set_cons_zero, List.set_cons_succ, List.getElem_toArray, List.getElem_cons_zero, List.getElem_cons_succ]
        refine wpAnyH_take (i := 2) (v := ?valF2x3) rfl (by kernel_rfl) (by kernel_rfl) (by kernel_rfl) (fun _ _ _ h => h) (Or.inl ⟨by rfl, ?yieF2x3⟩) (by assumption) ?resF2x3
        case yieF2x3 =>
          intro w hSw
          try dsimp only at hSw
          try obtain ⟨s0, s1, s2, s3, _⟩ := hSw
          go_simp
          try with_reducible rfl
        try simp only [Act.put, List.setIfInBounds_toArray, List.set_cons_zero, List.set_cons_succ, List.getElem_toArray, List.getElem_cons_zero, List.getElem_cons_succ]
        refine wpAnyH_take (i := 3) (v := ?valF3x3) rfl (by kernel_rfl) (by kernel_rfl) (by kernel_rfl) (fun _ _ _ h => h) (Or.inl ⟨by rfl, ?yieF3x3⟩) (by assumption) ?resF3x3
        case yieF3x3 =>
          intro w hSw
          try dsimp only at hSw
          try obtain ⟨s0, s1, s2, s3, _⟩ := hSw
          go_simp
          try with_reducible rfl
        try simp only [Act.put, List.setIfInBounds_toArray, List.set_cons_zero, List.set_cons_succ, List.getElem_toArray, List.getElem_cons_zero, List.getElem_cons_succ]
        refine wpAnyH_take (i := 4) (v := undef) rfl (by kernel_rfl) (by kernel_rfl) (by kernel_rfl) (fun _ _ _ h => h) (Or.inr ⟨by rfl, rfl⟩) (by assumption) ?_
        try simp only [Act.put, List.setIfInBounds_toArray, List.set_cons_zero, List.set_cons_succ, List.getElem_toArray, List.getElem_cons_zero, List.getElem_cons_succ]
        refine wpAnyH_take (i := 5) (v := undef) rfl (by kernel_rfl) (by kernel_rfl) (by kernel_rfl) (fun _ _ _ h => h) (Or.inr ⟨by rfl, rfl⟩) (by assumption) ?_
        try simp only [Act.put, List.setIfInBounds_toArray, List.set_cons_zero, List.set_cons_succ, List.getElem_toArray, List.getElem_cons_zero, List.getElem_cons_succ]
        refine wpAnyH_take (i := 6) (v := undef) rfl (by kernel_rfl) (by kernel_rfl) (by kernel_rfl) (fun _ _ _ h => h) (Or.inr ⟨by rfl, rfl⟩) (by assumption) ?_
        try simp only [Act.put, List.setIfInBounds_toArray, List.set_cons_zero, List.set_cons_succ, List.getElem_toArray, List.getElem_cons_zero, List.getElem_cons_succ]
        refine wpAnyH_take (i := 7) (v := undef) rfl (by kernel_rfl) (by kernel_rfl) (by kernel_rfl) (fun _ _ _ h => h) (Or.inr ⟨by rfl, rfl⟩) (by assumption) ?_
        try simp only [Act.put, List.setIfInBounds_toArray, List.set_cons_zero, List.set_cons_succ, List.getElem_toArray, List.getElem_cons_zero, List.getElem_cons_succ]
        refine wpAnyH_take (i := 8) (v := undef) rfl (by kernel_rfl) (by kernel_rfl) (by kernel_rfl) (fun _ _ _ h => h) (Or.inr ⟨by rfl, rfl⟩) (by assumption) ?_
        try simp only [Act.put, List.setIfInBounds_toArray, List.set_cons_zero, List.set_cons_succ, List.getElem_toArray, List.getElem_cons_zero, List.getElem_cons_succ]
        refine wpAnyH_take (i := 9) (v := undef) rfl (by kernel_rfl) (by kernel_rfl) (by kernel_rfl) (fun _ _ _ h => h) (Or.inr ⟨by rfl, rfl⟩) (by assumption) ?_
        try simp only [Act.put, List.setIfInBounds_toArray, List.set_cons_zero, List.set_cons_succ, List.getElem_toArray, List.getElem_cons_zero, List.getElem_cons_succ]
        refine wpAnyH_take (i := 10) (v := undef) rfl (by kernel_rfl) (by kernel_rfl) (by kernel_rfl) (fun _ _ _ h => h) (Or.inr ⟨by rfl, rfl⟩) (by assumption) ?_
        try simp only [Act.put, List.setIfInBounds_toArray, List.set_cons_zero, List.set_cons_succ, List.getElem_toArray, List.getElem_cons_zero, List.getElem_cons_succ]
        refine wpAnyH_take (i := 11) (v := undef) rfl (by kernel_rfl) (by kernel_rfl) (by kernel_rfl) (fun _ _ _ h => h) (Or.inr ⟨by rfl, rfl⟩) (by assumption) ?_
        try simp only [Act.put, List.setIfInBounds_toArray, List.set_cons_zero, List.set_cons_succ, List.getElem_toArray, List.getElem_cons_zero, List.getElem_cons_succ]
        refine wpAnyH_take (i := 12) (v := undef) rfl (by kernel_rfl) (by kernel_rfl) (by kernel_rfl) (fun _ _ _ h => h) (Or.inr ⟨by rfl, rfl⟩) (by assumption) ?_
        try simp only [Act.put, List.setIfInBounds_toArray, List.set_cons_zero, List.set_cons_succ, List.getElem_toArray, List.getElem_cons_zero, List.getElem_cons_succ]
        refine wpAnyH_take (i := 13) (v := undef) rfl (by kernel_rfl) (by kernel_rfl) (by kernel_rfl) (fun _ _ _ h => h) (Or.inr ⟨by rfl, rfl⟩) (by assumption) ?_
        try simp only [Act.put, List.setIfInBounds_toArray, List.set_cons_zero, List.set_cons_succ, List.getElem_toArray, List.getElem_cons_zero, List.getElem_cons_succ]
        refine wpAnyH_take (i := 14) (v := undef) rfl (by kernel_rfl) (by kernel_rfl) (by kernel_rfl) (fun _ _ _ h => h) (Or.inr ⟨by rfl, rfl⟩) (by assumption) ?_
        try simp only [Act.put, List.setIfInBounds_toArray, List.set_cons_zero, List.set_cons_succ, List.getElem_toArray, List.getElem_cons_zero, List.getElem_cons_succ]
        refine wpAnyH_take (i := 15) (v := undef) rfl (by kernel_rfl) (by kernel_rfl) (by kernel_rfl) (fun _ _ _ h => h) (Or.inr ⟨by rfl, rfl⟩) (by assumption) ?_
        try simp only [Act.put, List.setIfInBounds_toArray, List.set_cons_zero, List.set_cons_succ, List.getElem_toArray, List.getElem_cons_zero, List.getElem_cons_succ]
        refine wpAnyH_take (i := 16) (v := undef) rfl (by kernel_rfl) (by kernel_rfl) (by kernel_rfl) (fun _ _ _ h => h) (Or.inr ⟨by rfl, rfl⟩) (by assumption) ?_
        try simp only [Act.put, List.setIfInBounds_toArray, List.set_cons_zero, List.set_cons_succ, List.getElem_toArray, List.getElem_cons_zero, List.getElem_cons_succ]
        refine wpAnyH_take (i := 17) (v := undef) rfl (by kernel_rfl) (by kernel_rfl) (by kernel_rfl) (fun _ _ _ h => h) (Or.inr ⟨by rfl, rfl⟩) (by assumption) ?_
        try simp only [Act.put, List.setIfInBounds_toArray, List.set_cons_zero, List.set_cons_succ, List.getElem_toArray, List.getElem_cons_zero, List.getElem_cons_succ]
        refine wpAnyH_take (i := 18) (v := undef) rfl (by kernel_rfl) (by kernel_rfl) (by kernel_rfl) (fun _ _ _ h => h) (Or.inr ⟨by rfl, rfl⟩) (by assumption) ?_
        try simp only [Act.put, List.setIfInBounds_toArray, List.set_cons_zero, List.set_cons_succ, List.getElem_toArray, List.getElem_cons_zero, List.getElem_cons_succ]
        refine wpAnyH_take (i := 19) (v := ?valF19x3) rfl (by kernel_rfl) (by kernel_rfl) (by kernel_rfl) (fun _ _ _ h => h) (Or.inl ⟨by rfl, ?yieF19x3⟩) (by assumption) ?resF19x3
        case yieF19x3 =>
          intro w hSw
          try dsimp only at hSw
          try obtain ⟨s0, s1, s2, s3, _⟩ := hSw
          go_simp
          try with_reducible rfl
        try simp only [Act.put, List.setIfInBounds_toArray, List.set_cons_zero, List.set_cons_succ, List.getElem_toArray, List.getElem_cons_zero, List.getElem_cons_succ]
        refine wpAnyH_take (i := 20) (v := ?valF20x3) rfl (by kernel_rfl) (by kernel_rfl) (by kernel_rfl) (fun _ _ _ h => h) (Or.inl ⟨by rfl, ?yieF20x3⟩) (by assumption) ?resF20x3
        case yieF20x3 =>
          intro w hSw
          try dsimp only at hSw
          try obtain ⟨s0, s1, s2, s3, _⟩ := hSw
          go_simp
          try with_reducible rfl
        try simp only [Act.put, List.setIfInBounds_toArray, List.set_cons_zero, List.set_cons_succ, List.getElem_toArray, List.getElem_cons_zero, List.getElem_cons_succ]
        refine wpAnyH_done (by kernel_rfl) ?_ _
        refine NoPanic.normal ?_
        go_wp2_with fail
        go_ret
        exact ⟨rfl, HB4.out.trans ((HS.out.below hb12).bel.mono HB4.out.size)⟩
    | true =>
      cases ob with
      | false =>
        have x0 := S.ba.cell 0
        have x1 := S.ba.cell 1
        have x2 := S.ba.cell 2
        have x3 := S.ba.cell 3
        simp only [List.getElem?_toArray, List.getElem?_cons_zero, List.getElem?_cons_succ] at x0 x1 x2 x3
        have hta : typE (.mk 4 0 { data := #[98, 111, 111, 108] } [e]) ss vs = { data := #[98, 111, 111, 108] } := (HTV.out (by first | rfl | trivial)).trans (if_neg (by decide))
        have HC := Lib.hid (HTA.out W5 S)
        rw [hta] at HC
        unfold Types at HC
        have HS := Lib.hid S
        clear S
        go_wp2_with fail
        refine HC.out.mono ?_
        rintro r W6 ⟨rfl, hb⟩
        have S := HS.out.below hb
        clear HC HS hb x0 x1 x2 x3
        have y0 := S.bb.cell 0
        have y1 := S.bb.cell 1
        have y2 := S.bb.cell 2
        have y3 := S.bb.cell 3
        simp only [List.getElem?_toArray, List.getElem?_cons_zero, List.getElem?_cons_succ] at y0 y1 y2 y3
        have HC := Lib.hid (HOB.out W6 S)
        have HS := Lib.hid S
        clear S
        go_wp2_with fail
        refine HC.out.mono ?_
        rintro r W7 ⟨rfl, hb⟩
        have S := HS.out.below hb
        clear HC HS hb y0 y1 y2 y3
        have hmk := fun W => run_make_row' (P := Tryz.prog) 36 3 (.int .i64 0) 8 Tryz.underlying36 infoInt rfl .i64 .i64 ss.length (by omega) (by omega) W
        obtain ⟨W9, hW9⟩ : ∃ W9, W9 = W7.alloc (.cells (madeCells #[.int .i64 0] ss.length) 3) := ⟨_, rfl⟩
        have hb9 : Below W7.heap.size W7 W9 := by rw [hW9]; exact (Below.refl _ _).alloc (Nat.le_refl _) _
        have hZ9 : SlIs W9 (some ⟨W7.heap.size, 0, none⟩) ((List.replicate ss.length (0 : Int)).map intV) := by
          have := SlIs.own (own_made W7 (.int .i64 0) ss.length (by unfold maxLen; omega) 3)
          rw [hW9]
          simpa [intV] using this
        replace S := S.below hb9
        have z0 := S.be.cell 0
        have z1 := S.be.cell 1
        have z2 := S.be.cell 2
        have z3 := S.be.cell 3
        simp only [List.getElem?_toArray, List.getElem?_cons_zero, List.getElem?_cons_succ] at z0 z1 z2 z3
        have HC := Lib.hid (HZE.out W9 S W7.heap.size hZ9)
        obtain ⟨R, hR⟩ : ∃ R, R = ofE e ss (List.replicate ss.length 0) := ⟨_, rfl⟩
        rw [← hR] at HC
        unfold Comes at HC
        have HR := Lib.hid hR
        have HS := Lib.hid S
        have HZ9 := Lib.hid hZ9
        clear S hR hZ9 hb9
        rw [hW9] at z0 z1 z2 z3
        go_wp2_with fail
        rw [← hW9]
        clear hW9 hmk z0 z1 z2 z3
        refine HC.out.mono ?_
        rintro r W10 ⟨rfl, hb10⟩
        have S := HS.out.below hb10
        have HC := Lib.hid (HZB.out W10 S W7.heap.size (HZ9.out.below hb10))
        obtain ⟨R2, hR2⟩ : ∃ R2, R2 = ofE (.mk 4 0 { data := #[105, 110, 116] } [.mk 4 0 { data := #[98, 111, 111, 108] } [e]]) ss (List.replicate ss.length 0) := ⟨_, rfl⟩
        rw [← hR2] at HC
        have HR2 := Lib.hid hR2
        unfold Comes at HC
        have y0 := S.bb.cell 0
        have y1 := S.bb.cell 1
        have y2 := S.bb.cell 2
        have y3 := S.bb.cell 3
        simp only [List.getElem?_toArray, List.getElem?_cons_zero, List.getElem?_cons_succ] at y0 y1 y2 y3
        have HS := Lib.hid S
        clear S hR2 hb10
        go_wp2_with fail
        refine HC.out.mono ?_
        rintro r W11 ⟨rfl, hb⟩
        have S := HS.out.below hb
        clear HC HS hb y0 y1 y2 y3
        have y0 := S.bb.cell 0
        have y1 := S.bb.cell 1
        have y2 := S.bb.cell 2
        have y3 := S.bb.cell 3
        simp only [List.getElem?_toArray, List.getElem?_cons_zero, List.getElem?_cons_succ] at y0 y1 y2 y3
        have z0 := S.be.cell 0
        have z1 := S.be.cell 1
        have z2 := S.be.cell 2
        have z3 := S.be.cell 3
        simp only [List.getElem?_toArray, List.getElem?_cons_zero, List.getElem?_cons_succ] at z0 z1 z2 z3
        have HS := Lib.hid S
        have HCO := Lib.hid (HOB.out W11 S)
        have hyl := S.bb.lt
        clear S
        obtain ⟨n1, hn1⟩ : ∃ n1, n1 = R.getD 0 := ⟨_, rfl⟩
        obtain ⟨n2, hn2⟩ : ∃ n2, n2 = R2.getD 0 := ⟨_, rfl⟩
        obtain ⟨b1, hb1'⟩ : ∃ b1, b1 = R.isSome := ⟨_, rfl⟩
        obtain ⟨b2, hb2'⟩ : ∃ b2, b2 = R2.isSome := ⟨_, rfl⟩
        rw [← hn1, ← hn2, ← hb1', ← hb2']
        clear hn1 hn2 hb1' hb2' HR HR2
        go_wp2_with fail
        refine wp_region_noPanic ?_
        refine wp_region_held_drew (S := (fun w' => w'.cell? ⟨w4.heap.size + 1 + 1 + 1, 0, none⟩ = some (.int .i64 4) ∧ w'.cell? ⟨w4.heap.size + 1 + 1 + 1, 1, none⟩ = some (.int .i64 0) ∧ w'.cell? ⟨w4.heap.size + 1 + 1 + 1, 2, none⟩ = some (.string { data := #[105, 110, 116] }) ∧ w'.cell? ⟨w4.heap.size + 1 + 1 + 1, 3, none⟩ = some (.slice (some ⟨w4.heap.size + 1 + 1, 0, none⟩) 1 1) ∧ Below W11.heap.size W11 w')) (by kernel_rfl) (by exact ⟨y0, y1, y2, y3, (Below.refl _ W11).drew⟩) (fun hHeld => ?_)
        refine wpAnyH_take (i := 0) (v := ?valF0x4) rfl (by kernel_rfl) (by kernel_rfl) (by kernel_rfl) (fun _ _ _ h => h) (Or.inl ⟨by rfl, ?yieF0x4⟩) (by assumption) ?resF0x4
        case yieF0x4 =>
          intro w hSw
          try dsimp only at hSw
          try obtain ⟨s0, s1, s2, s3, _⟩ := hSw
          go_simp
          try with_reducible rfl
        try simp only [Act.put, List.setIfInBounds_toArray, List.set_cons_zero, List.set_cons_succ, List.getElem_toArray, List.getElem_cons_zero, List.getElem_cons_succ]
        refine wpAnyH_ready (rs := [1]) (by kernel_rfl) (by simp) ?_
        refine AllReadyH.cons rfl (fun K hK => ?_) AllReadyH.nil
        go_simp
        refine (HOB.out _ (HS.out.below (Below.refl _ W11).drew)).mono ?_
        rintro r W12 ⟨rfl, hb12'⟩
        have hb12 : Below W11.heap.size W11 W12 := (Below.refl _ W11).drew.trans hb12'
        go_wp2_with fail
        refine hK.out _ _ (by exact ⟨(hb12.cell (p := ⟨w4.heap.size + 1 + 1 + 1, 0, none⟩) hyl).trans y0, (hb12.cell (p := ⟨w4.heap.size + 1 + 1 + 1, 1, none⟩) hyl).trans y1, (hb12.cell (p := ⟨w4.heap.size + 1 + 1 + 1, 2, none⟩) hyl).trans y2, (hb12.cell (p := ⟨w4.heap.size + 1 + 1 + 1, 3, none⟩) hyl).trans y3, hb12⟩) (fun hHeld => ?_)
        clear hK K
        try simp only [Act.put, List.setIfInBounds_toArray, List.set_cons_zero, List.set_cons_succ, List.getElem_toArray, List.getElem_cons_zero, List.getElem_cons_succ]
        refine wpAnyH_take (i := 2) (v := ?valF2x4) rfl (by kernel_rfl) (by kernel_rfl) (by kernel_rfl) (fun _ _ _ h => h) (Or.inl ⟨by rfl, ?yieF2x4⟩) (by assumption) ?resF2x4
        case yieF2x4 =>
          intro w hSw
          try dsimp only at hSw
          try obtain ⟨s0, s1, s2, s3, _⟩ := hSw
          go_simp
          try with_reducible rfl
        try simp only [Act.put, List.setIfInBounds_toArray, List.set_cons_zero, List.set_cons_succ, List.getElem_toArray, List.getElem_cons_zero, List.getElem_cons_succ]
        refine wpAnyH_take (i := 3) (v := ?valF3x4) rfl (by kernel_rfl) (by kernel_rfl) (by kernel_rfl) (fun _ _ _ h => h) (Or.inl ⟨by rfl, ?yieF3x4⟩) (by assumption) ?resF3x4
        case yieF3x4 =>
          intro w hSw
          try dsimp only at hSw
          try obtain ⟨s0, s1, s2, s3, _⟩ := hSw
          go_simp
          try with_reducible rfl
        try simp only [Act.put, List.setIfInBounds_toArray, List.set_cons_zero, List.set_cons_succ, List.getElem_toArray, List.getElem_cons_zero, List.getElem_cons_succ]
        refine wpAnyH_take (i := 4) (v := undef) rfl (by kernel_rfl) (by kernel_rfl) (by kernel_rfl) (fun _ _ _ h => h) (Or.inr ⟨by rfl, rfl⟩) (by assumption) ?_
        try simp only [Act.put, List.setIfInBounds_toArray, List.set_cons_zero, List.set_cons_succ, List.getElem_toArray, List.getElem_cons_zero, List.getElem_cons_succ]
        refine wpAnyH_take (i := 5) (v := undef) rfl (by kernel_rfl) (by kernel_rfl) (by kernel_rfl) (fun _ _ _ h => h) (Or.inr ⟨by rfl, rfl⟩) (by assumption) ?_
        try simp only [Act.put, List.setIfInBounds_toArray, List.set_cons_zero, List.set_cons_succ, List.getElem_toArray, List.getElem_cons_zero, List.getElem_cons_succ]
        refine wpAnyH_take (i := 6) (v := undef) rfl (by kernel_rfl) (by kernel_rfl) (by kernel_rfl) (fun _ _ _ h => h) (Or.inr ⟨by rfl, rfl⟩) (by assumption) ?_
        try simp only [Act.put, List.setIfInBounds_toArray, List.set_cons_zero, List.set_cons_succ, List.getElem_toArray, List.getElem_cons_zero, List.getElem_cons_succ]
        refine wpAnyH_take (i := 7) (v := undef) rfl (by kernel_rfl) (by kernel_rfl) (by kernel_rfl) (fun _ _ _ h => h) (Or.inr ⟨by rfl, rfl⟩) (by assumption) ?_
        try simp only [Act.put, List.setIfInBounds_toArray, List.set_cons_zero, List.set_cons_succ, List.getElem_toArray, List.getElem_cons_zero, List.getElem_cons_succ]
        refine wpAnyH_take (i := 8) (v := undef) rfl (by kernel_rfl) (by kernel_rfl) (by kernel_rfl) (fun _ _ _ h => h) (Or.inr ⟨by rfl, rfl⟩) (by assumption) ?_
        try simp only [Act.put, List.setIfInBounds_toArray, List.set_cons_zero, List.set_cons_succ, List.getElem_toArray, List.getElem_cons_zero, List.getElem_cons_succ]
        refine wpAnyH_take (i := 9) (v := undef) rfl (by kernel_rfl) (by kernel_rfl) (by kernel_rfl) (fun _ _ _ h => h) (Or.inr ⟨by rfl, rfl⟩) (by assumption) ?_
        try simp only [Act.put, List.setIfInBounds_toArray, List.set_cons_zero, List.set_cons_succ, List.getElem_toArray, List.getElem_cons_zero, List.getElem_cons_succ]
        refine wpAnyH_take (i := 10) (v := undef) rfl (by kernel_rfl) (by kernel_rfl) (by kernel_rfl) (fun _ _ _ h => h) (Or.inr ⟨by rfl, rfl⟩) (by assumption) ?_
        try simp only [Act.put, List.setIfInBounds_toArray, List.set_cons_zero, List.set_cons_succ, List.getElem_toArray, List.getElem_cons_zero, List.getElem_cons_succ]
        refine wpAnyH_take (i := 11) (v := undef) rfl (by kernel_rfl) (by kernel_rfl) (by kernel_rfl) (fun _ _ _ h => h) (Or.inr ⟨by rfl, rfl⟩) (by assumption) ?_
        try simp only [Act.put, List.setIfInBounds_toArray, List.set_cons_zero, List.set_cons_succ, List.getElem_toArray, List.getElem_cons_zero, List.getElem_cons_succ]
        refine wpAnyH_take (i := 12) (v := undef) rfl (by kernel_rfl) (by kernel_rfl) (by kernel_rfl) (fun _ _ _ h => h) (Or.inr ⟨by rfl, rfl⟩) (by assumption) ?_
        try simp only [Act.put, List.setIfInBounds_toArray, List.set_cons_zero, List.set_cons_succ, List.getElem_toArray, List.getElem_cons_zero, List.getElem_cons_succ]
        refine wpAnyH_take (i := 13) (v := undef) rfl (by kernel_rfl) (by kernel_rfl) (by kernel_rfl) (fun _ _ _ h => h) (Or.inr ⟨by rfl, rfl⟩) (by assumption) ?_
        try simp only [Act.put, List.setIfInBounds_toArray, List.set_cons_zero, List.set_cons_succ, List.getElem_toArray, List.getElem_cons_zero, List.getElem_cons_succ]
        refine wpAnyH_take (i := 14) (v := undef) rfl (by kernel_rfl) (by kernel_rfl) (by kernel_rfl) (fun _ _ _ h => h) (Or.inr ⟨by rfl, rfl⟩) (by assumption) ?_
        try simp only [Act.put, List.setIfInBounds_toArray, List.set_cons_zero, List.set_cons_succ, List.getElem_toArray, List.getElem_cons_zero, List.getElem_cons_succ]
        refine wpAnyH_take (i := 15) (v := undef) rfl (by kernel_rfl) (by kernel_rfl) (by kernel_rfl) (fun _ _ _ h => h) (Or.inr ⟨by rfl, rfl⟩) (by assumption) ?_
        try simp only [Act.put, List.setIfInBounds_toArray, List.set_cons_zero, List.set_cons_succ, List.getElem_toArray, List.getElem_cons_zero, List.getElem_cons_succ]
        refine wpAnyH_take (i := 16) (v := undef) rfl (by kernel_rfl) (by kernel_rfl) (by kernel_rfl) (fun _ _ _ h => h) (Or.inr ⟨by rfl, rfl⟩) (by assumption) ?_
        try simp only [Act.put, List.setIfInBounds_toArray, List.set_cons_zero, List.set_cons_succ, List.getElem_toArray, List.getElem_cons_zero, List.getElem_cons_succ]
        refine wpAnyH_take (i := 17) (v := undef) rfl (by kernel_rfl) (by kernel_rfl) (by kernel_rfl) (fun _ _ _ h => h) (Or.inr ⟨by rfl, rfl⟩) (by assumption) ?_
        try simp only [Act.put, List.setIfInBounds_toArray, List.set_cons_zero, List.set_cons_succ, List.getElem_toArray, List.getElem_cons_zero, List.getElem_cons_succ]
        refine wpAnyH_take (i := 18) (v := undef) rfl (by kernel_rfl) (by kernel_rfl) (by kernel_rfl) (fun _ _ _ h => h) (Or.inr ⟨by rfl, rfl⟩) (by assumption) ?_
        try simp only [Act.put, List.setIfInBounds_toArray, List.set_cons_zero, List.set_cons_succ, List.getElem_toArray, List.getElem_cons_zero, List.getElem_cons_succ]
        refine wpAnyH_take (i := 19) (v := ?valF19x4) rfl (by kernel_rfl) (by kernel_rfl) (by kernel_rfl) (fun _ _ _ h => h) (Or.inl ⟨by rfl, ?yieF19x4⟩) (by assumption) ?resF19x4
        case yieF19x4 =>
          intro w hSw
          try dsimp only at hSw
          try obtain ⟨s0, s1, s2, s3, _⟩ := hSw
          go_simp
          try with_reducible rfl
        try simp only [Act.put, List.setIfInBounds_toArray, List.set_cons_zero, List.set_cons_succ, List.getElem_toArray, List.getElem_cons_zero, List.getElem_cons_succ]
        refine wpAnyH_take (i := 20) (v := ?valF20x4) rfl (by kernel_rfl) (by kernel_rfl) (by kernel_rfl) (fun _ _ _ h => h) (Or.inl ⟨by rfl, ?yieF20x4⟩) (by assumption) ?resF20x4
        case yieF20x4 =>
          intro w hSw
          try dsimp only at hSw
          try obtain ⟨s0, s1, s2, s3, _⟩ := hSw
          go_simp
          try with_reducible rfl
        try simp only [Act.put, List.setIfInBounds_toArray, List.set_cons_zero, List.set_cons_succ, List.getElem_toArray, List.getElem_cons_zero, List.getElem_cons_succ]
        refine wpAnyH_done (by kernel_rfl) ?_ _
        refine NoPanic.normal ?_
        go_wp2_with fail
        go_ret
        exact ⟨rfl, HB4.out.trans ((HS.out.below hb12).bel.mono HB4.out.size)⟩
      | true =>
        have x0 := S.ba.cell 0
        have x1 := S.ba.cell 1
        have x2 := S.ba.cell 2
        have x3 := S.ba.cell 3
        simp only [List.getElem?_toArray, List.getElem?_cons_zero, List.getElem?_cons_succ] at x0 x1 x2 x3
        have hta : typE (.mk 4 0 { data := #[98, 111, 111, 108] } [e]) ss vs = { data := #[98, 111, 111, 108] } := (HTV.out (by first | rfl | trivial)).trans (if_neg (by decide))
        have HC := Lib.hid (HTA.out W5 S)
        rw [hta] at HC
        unfold Types at HC
        have HS := Lib.hid S
        clear S
        go_wp2_with fail
        refine HC.out.mono ?_
        rintro r W6 ⟨rfl, hb⟩
        have S := HS.out.below hb
        clear HC HS hb x0 x1 x2 x3
        have y0 := S.bb.cell 0
        have y1 := S.bb.cell 1
        have y2 := S.bb.cell 2
        have y3 := S.bb.cell 3
        simp only [List.getElem?_toArray, List.getElem?_cons_zero, List.getElem?_cons_succ] at y0 y1 y2 y3
        have HC := Lib.hid (HOB.out W6 S)
        have HS := Lib.hid S
        clear S
        go_wp2_with fail
        refine HC.out.mono ?_
        rintro r W7 ⟨rfl, hb⟩
        have S := HS.out.below hb
        clear HC HS hb y0 y1 y2 y3
        have y0 := S.bb.cell 0
        have y1 := S.bb.cell 1
        have y2 := S.bb.cell 2
        have y3 := S.bb.cell 3
        simp only [List.getElem?_toArray, List.getElem?_cons_zero, List.getElem?_cons_succ] at y0 y1 y2 y3
        have htb : typE (.mk 4 0 { data := #[105, 110, 116] } [.mk 4 0 { data := #[98, 111, 111, 108] } [e]]) ss vs = { data := #[105, 110, 116] } := ((HTW.out (by first | rfl | trivial)).2).trans (if_neg (by rw [hta]; decide))
        have HC := Lib.hid (HTB.out W7 S)
        rw [htb] at HC
        unfold Types at HC
        have HS := Lib.hid S
        clear S
        go_wp2_with fail
        refine HC.out.mono ?_
        rintro r W8 ⟨rfl, hb⟩
        have S := HS.out.below hb
        clear HC HS hb y0 y1 y2 y3
        have hmk := fun W => run_make_row' (P := Tryz.prog) 36 3 (.int .i64 0) 8 Tryz.underlying36 infoInt rfl .i64 .i64 ss.length (by omega) (by omega) W
        obtain ⟨W9, hW9⟩ : ∃ W9, W9 = W8.alloc (.cells (madeCells #[.int .i64 0] ss.length) 3) := ⟨_, rfl⟩
        have hb9 : Below W8.heap.size W8 W9 := by rw [hW9]; exact (Below.refl _ _).alloc (Nat.le_refl _) _
        have hZ9 : SlIs W9 (some ⟨W8.heap.size, 0, none⟩) ((List.replicate ss.length (0 : Int)).map intV) := by
          have := SlIs.own (own_made W8 (.int .i64 0) ss.length (by unfold maxLen; omega) 3)
          rw [hW9]
          simpa [intV] using this
        replace S := S.below hb9
        have z0 := S.be.cell 0
        have z1 := S.be.cell 1
        have z2 := S.be.cell 2
        have z3 := S.be.cell 3
        simp only [List.getElem?_toArray, List.getElem?_cons_zero, List.getElem?_cons_succ] at z0 z1 z2 z3
        have HC := Lib.hid (HZE.out W9 S W8.heap.size hZ9)
        obtain ⟨R, hR⟩ : ∃ R, R = ofE e ss (List.replicate ss.length 0) := ⟨_, rfl⟩
        rw [← hR] at HC
        unfold Comes at HC
        have HR := Lib.hid hR
        have HS := Lib.hid S
        have HZ9 := Lib.hid hZ9
        clear S hR hZ9 hb9
        rw [hW9] at z0 z1 z2 z3
        go_wp2_with fail
        rw [← hW9]
        clear hW9 hmk z0 z1 z2 z3
        refine HC.out.mono ?_
        rintro r W10 ⟨rfl, hb10⟩
        have S := HS.out.below hb10
        have HC := Lib.hid (HZB.out W10 S W8.heap.size (HZ9.out.below hb10))
        obtain ⟨R2, hR2⟩ : ∃ R2, R2 = ofE (.mk 4 0 { data := #[105, 110, 116] } [.mk 4 0 { data := #[98, 111, 111, 108] } [e]]) ss (List.replicate ss.length 0) := ⟨_, rfl⟩
        rw [← hR2] at HC
        have HR2 := Lib.hid hR2
        unfold Comes at HC
        have y0 := S.bb.cell 0
        have y1 := S.bb.cell 1
        have y2 := S.bb.cell 2
        have y3 := S.bb.cell 3
        simp only [List.getElem?_toArray, List.getElem?_cons_zero, List.getElem?_cons_succ] at y0 y1 y2 y3
        have HS := Lib.hid S
        clear S hR2 hb10
        go_wp2_with fail
        refine HC.out.mono ?_
        rintro r W11 ⟨rfl, hb⟩
        have S := HS.out.below hb
        clear HC HS hb y0 y1 y2 y3
        have y0 := S.bb.cell 0
        have y1 := S.bb.cell 1
        have y2 := S.bb.cell 2
        have y3 := S.bb.cell 3
        simp only [List.getElem?_toArray, List.getElem?_cons_zero, List.getElem?_cons_succ] at y0 y1 y2 y3
        have z0 := S.be.cell 0
        have z1 := S.be.cell 1
        have z2 := S.be.cell 2
        have z3 := S.be.cell 3
        simp only [List.getElem?_toArray, List.getElem?_cons_zero, List.getElem?_cons_succ] at z0 z1 z2 z3
        have hRR : R2 = R := by rw [HR.out, HR2.out]; exact HAO.out _ HOBE.out.symm
        subst hRR
        have hbare : bareE (.mk 4 0 { data := #[105, 110, 116] } [.mk 4 0 { data := #[98, 111, 111, 108] } [e]]) = bareE e := HAB.out HOBE.out.symm
        have HS := Lib.hid S
        have HCO := Lib.hid (HOB.out W11 S)
        have HCB := Lib.hid (fun (W : World) (hW : Below W11.heap.size W11 W) => HBB.out W (S.below hW))
        have HCE := Lib.hid (fun (W : World) (hW : Below W11.heap.size W11 W) => HBE.out W (S.below hW))
        rw [hbare] at HCB
        have hyl := S.bb.lt
        have hel := S.be.lt
        clear S hbare
        obtain ⟨n1, hn1⟩ : ∃ n1, n1 = R2.getD 0 := ⟨_, rfl⟩
        obtain ⟨b1, hb1'⟩ : ∃ b1, b1 = R2.isSome := ⟨_, rfl⟩
        rw [← hn1, ← hb1']
        have qb : (b1 == b1) = true := by simp
        have qn : (n1 == n1) = true := by simp
        generalize bareE e = bq at *
        have HSB := Lib.hid (fun (A1 A2 : Option Addr) (c1 c2 B : Nat) (W : World) (h1 : KidsU W B A1 bq.kids) (h2 : KidsU W B A2 bq.kids) (h3 : bq.kids.length ≤ c1) (h4 : bq.kids.length ≤ c2) (h5 : B ≤ W.heap.size) => exprSame_any bq bq A1 A2 c1 c2 B W h1 h2 h3 h4 h5 HBN.out)
        rw [sameE_self] at HSB
        clear hn1 hb1' HR HR2
        go_wp2_with fail
        go_region_held3 (fun w' => w'.cell? ⟨w4.heap.size + 1 + 1 + 1, 0, none⟩ = some (.int .i64 4) ∧ w'.cell? ⟨w4.heap.size + 1 + 1 + 1, 1, none⟩ = some (.int .i64 0) ∧ w'.cell? ⟨w4.heap.size + 1 + 1 + 1, 2, none⟩ = some (.string { data := #[105, 110, 116] }) ∧ w'.cell? ⟨w4.heap.size + 1 + 1 + 1, 3, none⟩ = some (.slice (some ⟨w4.heap.size + 1 + 1, 0, none⟩) 1 1) ∧ w'.cell? ⟨w1.heap.size, 0, none⟩ = some (.int .i64 e.kind) ∧ w'.cell? ⟨w1.heap.size, 1, none⟩ = some (.int .i64 e.n) ∧ w'.cell? ⟨w1.heap.size, 2, none⟩ = some (.string e.s) ∧ w'.cell? ⟨w1.heap.size, 3, none⟩ = some (.slice Ae e.kids.length c) ∧ Below W11.heap.size W11 w')
          (first | exact ⟨y0, y1, y2, y3, z0, z1, z2, z3, (Below.refl _ W11).drew⟩ | exact ⟨(hb15.cell (p := ⟨w4.heap.size + 1 + 1 + 1, 0, none⟩) hyl).trans y0, (hb15.cell (p := ⟨w4.heap.size + 1 + 1 + 1, 1, none⟩) hyl).trans y1, (hb15.cell (p := ⟨w4.heap.size + 1 + 1 + 1, 2, none⟩) hyl).trans y2, (hb15.cell (p := ⟨w4.heap.size + 1 + 1 + 1, 3, none⟩) hyl).trans y3, (hb15.cell (p := ⟨w1.heap.size, 0, none⟩) hel).trans z0, (hb15.cell (p := ⟨w1.heap.size, 1, none⟩) hel).trans z1, (hb15.cell (p := ⟨w1.heap.size, 2, none⟩) hel).trans z2, (hb15.cell (p := ⟨w1.heap.size, 3, none⟩) hel).trans z3, hb15⟩ | exact ⟨(hb14.cell (p := ⟨w4.heap.size + 1 + 1 + 1, 0, none⟩) hyl).trans y0, (hb14.cell (p := ⟨w4.heap.size + 1 + 1 + 1, 1, none⟩) hyl).trans y1, (hb14.cell (p := ⟨w4.heap.size + 1 + 1 + 1, 2, none⟩) hyl).trans y2, (hb14.cell (p := ⟨w4.heap.size + 1 + 1 + 1, 3, none⟩) hyl).trans y3, (hb14.cell (p := ⟨w1.heap.size, 0, none⟩) hel).trans z0, (hb14.cell (p := ⟨w1.heap.size, 1, none⟩) hel).trans z1, (hb14.cell (p := ⟨w1.heap.size, 2, none⟩) hel).trans z2, (hb14.cell (p := ⟨w1.heap.size, 3, none⟩) hel).trans z3, hb14⟩ | exact ⟨(hb13.cell (p := ⟨w4.heap.size + 1 + 1 + 1, 0, none⟩) hyl).trans y0, (hb13.cell (p := ⟨w4.heap.size + 1 + 1 + 1, 1, none⟩) hyl).trans y1, (hb13.cell (p := ⟨w4.heap.size + 1 + 1 + 1, 2, none⟩) hyl).trans y2, (hb13.cell (p := ⟨w4.heap.size + 1 + 1 + 1, 3, none⟩) hyl).trans y3, (hb13.cell (p := ⟨w1.heap.size, 0, none⟩) hel).trans z0, (hb13.cell (p := ⟨w1.heap.size, 1, none⟩) hel).trans z1, (hb13.cell (p := ⟨w1.heap.size, 2, none⟩) hel).trans z2, (hb13.cell (p := ⟨w1.heap.size, 3, none⟩) hel).trans z3, hb13⟩ | exact ⟨(hb12.cell (p := ⟨w4.heap.size + 1 + 1 + 1, 0, none⟩) hyl).trans y0, (hb12.cell (p := ⟨w4.heap.size + 1 + 1 + 1, 1, none⟩) hyl).trans y1, (hb12.cell (p := ⟨w4.heap.size + 1 + 1 + 1, 2, none⟩) hyl).trans y2, (hb12.cell (p := ⟨w4.heap.size + 1 + 1 + 1, 3, none⟩) hyl).trans y3, (hb12.cell (p := ⟨w1.heap.size, 0, none⟩) hel).trans z0, (hb12.cell (p := ⟨w1.heap.size, 1, none⟩) hel).trans z1, (hb12.cell (p := ⟨w1.heap.size, 2, none⟩) hel).trans z2, (hb12.cell (p := ⟨w1.heap.size, 3, none⟩) hel).trans z3, hb12⟩)
          (first | (go_at_call 19; refine (HOB.out _ (HS.out.below (Below.refl _ W11).drew)).mono ?_; rintro r W12 ⟨rfl, hb12'⟩; have hb12 : Below W11.heap.size W11 W12 := (Below.refl _ W11).drew.trans hb12') | (go_at_call 28; ((with_reducible refine (HCB.out W12 hb12).mono ?_); rintro r W13 ⟨A13, c13, rfl, hc13, hO13, hb13'⟩; have hb13 : Below W11.heap.size W11 W13 := hb12.trans (hb13'.mono hb12.size); have HO13 := Lib.hid hO13; clear hO13)) | (go_at_call 28; ((with_reducible refine (HCE.out W13 hb13).mono ?_); rintro r W14 ⟨A14, c14, rfl, hc14, hO14, hb14'⟩; have hb14 : Below W11.heap.size W11 W14 := hb13.trans (hb14'.mono hb13.size); have HU1 := Lib.hid ((own_kidsU bq _ _ A13 W13.heap.size HO13.out (Nat.le_refl _)).keep hb14' |>.wide hb14'.size); have HU2 := Lib.hid (own_kidsU bq _ _ A14 W14.heap.size hO14 (Nat.le_refl _)); clear hO14)) | (go_at_call 22; refine (HSB.out A13 A14 c13 c14 W14.heap.size W14 HU1.out HU2.out hc13 hc14 (Nat.le_refl _)).mono ?_; rintro r W15 ⟨rfl, hb15'⟩; have hb15 : Below W11.heap.size W11 W15 := hb14.trans (hb15'.mono hb14.size)))
        rename_i hh
        go_wp2_with fail
        go_ret
        exact ⟨rfl, HB4.out.trans ((HS.out.below hb15).bel.mono HB4.out.size)⟩
  · subst hT
    clear HT3 HCT
    cases oa with
    | false =>
      cases ob with
      | true => have := (HTW.out (by first | rfl | trivial)).1; cases this
      | false =>
        have y0 := S.bb.cell 0
        have y1 := S.bb.cell 1
        have y2 := S.bb.cell 2
        have y3 := S.bb.cell 3
        simp only [List.getElem?_toArray, List.getElem?_cons_zero, List.getElem?_cons_succ] at y0 y1 y2 y3
        have HC := Lib.hid (HOB.out W5 S)
        have HS := Lib.hid S
        clear S
        go_wp2_with fail
        refine HC.out.mono ?_
        rintro r W7 ⟨rfl, hb⟩
        have S := HS.out.below hb
        clear HC HS hb y0 y1 y2 y3
        have hmk := fun W => run_make_row' (P := Tryz.prog) 36 3 (.int .i64 0) 8 Tryz.underlying36 infoInt rfl .i64 .i64 ss.length (by omega) (by omega) W
        obtain ⟨W9, hW9⟩ : ∃ W9, W9 = W7.alloc (.cells (madeCells #[.int .i64 0] ss.length) 3) := ⟨_, rfl⟩
        have hb9 : Below W7.heap.size W7 W9 := by rw [hW9]; exact (Below.refl _ _).alloc (Nat.le_refl _) _
        have hZ9 : SlIs W9 (some ⟨W7.heap.size, 0, none⟩) ((List.replicate ss.length (0 : Int)).map intV) := by
          have := SlIs.own (own_made W7 (.int .i64 0) ss.length (by unfold maxLen; omega) 3)
          rw [hW9]
          simpa [intV] using this
        replace S := S.below hb9
        have z0 := S.be.cell 0
        have z1 := S.be.cell 1
        have z2 := S.be.cell 2
        have z3 := S.be.cell 3
        simp only [List.getElem?_toArray, List.getElem?_cons_zero, List.getElem?_cons_succ] at z0 z1 z2 z3
        have HC := Lib.hid (HZE.out W9 S W7.heap.size hZ9)
        obtain ⟨R, hR⟩ : ∃ R, R = ofE e ss (List.replicate ss.length 0) := ⟨_, rfl⟩
        rw [← hR] at HC
        unfold Comes at HC
        have HR := Lib.hid hR
        have HS := Lib.hid S
        have HZ9 := Lib.hid hZ9
        clear S hR hZ9 hb9
        rw [hW9] at z0 z1 z2 z3
        go_wp2_with fail
        rw [← hW9]
        clear hW9 hmk z0 z1 z2 z3
        refine HC.out.mono ?_
        rintro r W10 ⟨rfl, hb10⟩
        have S := HS.out.below hb10
        have HC := Lib.hid (HZB.out W10 S W7.heap.size (HZ9.out.below hb10))
        obtain ⟨R2, hR2⟩ : ∃ R2, R2 = ofE (.mk 4 0 { data := #[105, 110, 116] } [.mk 4 0 { data := #[98, 111, 111, 108] } [e]]) ss (List.replicate ss.length 0) := ⟨_, rfl⟩
        rw [← hR2] at HC
        have HR2 := Lib.hid hR2
        unfold Comes at HC
        have y0 := S.bb.cell 0
        have y1 := S.bb.cell 1
        have y2 := S.bb.cell 2
        have y3 := S.bb.cell 3
        simp only [List.getElem?_toArray, List.getElem?_cons_zero, List.getElem?_cons_succ] at y0 y1 y2 y3
        have HS := Lib.hid S
        clear S hR2 hb10
        go_wp2_with fail
        refine HC.out.mono ?_
        rintro r W11 ⟨rfl, hb⟩
        have S := HS.out.below hb
        clear HC HS hb y0 y1 y2 y3
        have y0 := S.bb.cell 0
        have y1 := S.bb.cell 1
        have y2 := S.bb.cell 2
        have y3 := S.bb.cell 3
        simp only [List.getElem?_toArray, List.getElem?_cons_zero, List.getElem?_cons_succ] at y0 y1 y2 y3
        have z0 := S.be.cell 0
        have z1 := S.be.cell 1
        have z2 := S.be.cell 2
        have z3 := S.be.cell 3
        simp only [List.getElem?_toArray, List.getElem?_cons_zero, List.getElem?_cons_succ] at z0 z1 z2 z3
        have HS := Lib.hid S
        have HCO := Lib.hid (HOB.out W11 S)
        have hyl := S.bb.lt
        clear S
        obtain ⟨n1, hn1⟩ : ∃ n1, n1 = R.getD 0 := ⟨_, rfl⟩
        obtain ⟨n2, hn2⟩ : ∃ n2, n2 = R2.getD 0 := ⟨_, rfl⟩
        obtain ⟨b1, hb1'⟩ : ∃ b1, b1 = R.isSome := ⟨_, rfl⟩
        obtain ⟨b2, hb2'⟩ : ∃ b2, b2 = R2.isSome := ⟨_, rfl⟩
        rw [← hn1, ← hn2, ← hb1', ← hb2']
        clear hn1 hn2 hb1' hb2' HR HR2
        go_wp2_with fail
        refine wp_region_noPanic ?_
        refine wp_region_held_drew (S := (fun w' => w'.cell? ⟨w4.heap.size + 1 + 1 + 1, 0, none⟩ = some (.int .i64 4) ∧ w'.cell? ⟨w4.heap.size + 1 + 1 + 1, 1, none⟩ = some (.int .i64 0) ∧ w'.cell? ⟨w4.heap.size + 1 + 1 + 1, 2, none⟩ = some (.string { data := #[105, 110, 116] }) ∧ w'.cell? ⟨w4.heap.size + 1 + 1 + 1, 3, none⟩ = some (.slice (some ⟨w4.heap.size + 1 + 1, 0, none⟩) 1 1) ∧ Below W11.heap.size W11 w')) (by kernel_rfl) (by exact ⟨y0, y1, y2, y3, (Below.refl _ W11).drew⟩) (fun hHeld => ?_)
        refine wpAnyH_take (i := 0) (v := ?valF0x5) rfl (by kernel_rfl) (by kernel_rfl) (by kernel_rfl) (fun _ _ _ h => h) (Or.inl ⟨by rfl, ?yieF0x5⟩) (by assumption) ?resF0x5
        case yieF0x5 =>
          intro w hSw
          try dsimp only at hSw
          try obtain ⟨s0, s1, s2, s3, _⟩ := hSw
          go_simp
          try with_reducible rfl
        try simp only [Act.put, List.setIfInBounds_toArray, List.set_cons_zero, List.set_cons_succ, List.getElem_toArray, List.getElem_cons_zero, List.getElem_cons_succ]
        refine wpAnyH_ready (rs := [1]) (by kernel_rfl) (by simp) ?_
        refine AllReadyH.cons rfl (fun K hK => ?_) AllReadyH.nil
        go_simp
        refine (HOB.out _ (HS.out.below (Below.refl _ W11).drew)).mono ?_
        rintro r W12 ⟨rfl, hb12'⟩
        have hb12 : Below W11.heap.size W11 W12 := (Below.refl _ W11).drew.trans hb12'
        go_wp2_with fail
        refine hK.out _ _ (by exact ⟨(hb12.cell (p := ⟨w4.heap.size + 1 + 1 + 1, 0, none⟩) hyl).trans y0, (hb12.cell (p := ⟨w4.heap.size + 1 + 1 + 1, 1, none⟩) hyl).trans y1, (hb12.cell (p := ⟨w4.heap.size + 1 + 1 + 1, 2, none⟩) hyl).trans y2, (hb12.cell (p := ⟨w4.heap.size + 1 + 1 + 1, 3, none⟩) hyl).trans y3, hb12⟩) (fun hHeld => ?_)
        clear hK K
        try simp only [Act.put, List.setIfInBounds_toArray, List.set_cons_zero, List.set_cons_succ, List.getElem_toArray, List.getElem_cons_zero, List.getElem_cons_succ]
        refine wpAnyH_take (i := 2) (v := ?valF2x5) rfl (by kernel_rfl) (by kernel_rfl) (by kernel_rfl) (fun _ _ _ h => h) (Or.inl ⟨by rfl, ?yieF2x5⟩) (by assumption) ?resF2x5
        case yieF2x5 =>
          intro w hSw
          try dsimp only at hSw
          try obtain ⟨s0, s1, s2, s3, _⟩ := hSw
          go_simp
          try with_reducible rfl
        try simp only [Act.put, List.setIfInBounds_toArray, List.set_cons_zero, List.set_cons_succ, List.getElem_toArray, List.getElem_cons_zero, List.getElem_cons_succ]
        refine wpAnyH_take (i := 3) (v := ?valF3x5) rfl (by kernel_rfl) (by kernel_rfl) (by kernel_rfl) (fun _ _ _ h => h) (Or.inl ⟨by rfl, ?yieF3x5⟩) (by assumption) ?resF3x5
        case yieF3x5 =>
          intro w hSw
          try dsimp only at hSw
          try obtain ⟨s0, s1, s2, s3, _⟩ := hSw
          go_simp
          try with_reducible rfl
        try simp only [Act.put, List.setIfInBounds_toArray, List.set_cons_zero, List.set_cons_succ, List.getElem_toArray, List.getElem_cons_zero, List.getElem_cons_succ]
        refine wpAnyH_take (i := 4) (v := undef) rfl (by kernel_rfl) (by kernel_rfl) (by kernel_rfl) (fun _ _ _ h => h) (Or.inr ⟨by rfl, rfl⟩) (by assumption) ?_
        try simp only [Act.put, List.setIfInBounds_toArray, List.set_cons_zero, List.set_cons_succ, List.getElem_toArray, List.getElem_cons_zero, List.getElem_cons_succ]
        refine wpAnyH_take (i := 5) (v := undef) rfl (by kernel_rfl) (by kernel_rfl) (by kernel_rfl) (fun _ _ _ h => h) (Or.inr ⟨by rfl, rfl⟩) (by assumption) ?_
        try simp only [Act.put, List.setIfInBounds_toArray, List.set_cons_zero, List.set_cons_succ, List.getElem_toArray, List.getElem_cons_zero, List.getElem_cons_succ]
        refine wpAnyH_take (i := 6) (v := undef) rfl (by kernel_rfl) (by kernel_rfl) (by kernel_rfl) (fun _ _ _ h => h) (Or.inr ⟨by rfl, rfl⟩) (by assumption) ?_
        try simp only [Act.put, List.setIfInBounds_toArray, List.set_cons_zero, List.set_cons_succ, List.getElem_toArray, List.getElem_cons_zero, List.getElem_cons_succ]
        refine wpAnyH_take (i := 7) (v := undef) rfl (by kernel_rfl) (by kernel_rfl) (by kernel_rfl) (fun _ _ _ h => h) (Or.inr ⟨by rfl, rfl⟩) (by assumption) ?_
        try simp only [Act.put, List.setIfInBounds_toArray, List.set_cons_zero, List.set_cons_succ, List.getElem_toArray, List.getElem_cons_zero, List.getElem_cons_succ]
        refine wpAnyH_take (i := 8) (v := undef) rfl (by kernel_rfl) (by kernel_rfl) (by kernel_rfl) (fun _ _ _ h => h) (Or.inr ⟨by rfl, rfl⟩) (by assumption) ?_
        try simp only [Act.put, List.setIfInBounds_toArray, List.set_cons_zero, List.set_cons_succ, List.getElem_toArray, List.getElem_cons_zero, List.getElem_cons_succ]
        refine wpAnyH_take (i := 9) (v := undef) rfl (by kernel_rfl) (by kernel_rfl) (by kernel_rfl) (fun _ _ _ h => h) (Or.inr ⟨by rfl, rfl⟩) (by assumption) ?_
        try simp only [Act.put, List.setIfInBounds_toArray, List.set_cons_zero, List.set_cons_succ, List.getElem_toArray, List.getElem_cons_zero, List.getElem_cons_succ]
        refine wpAnyH_take (i := 10) (v := undef) rfl (by kernel_rfl) (by kernel_rfl) (by kernel_rfl) (fun _ _ _ h => h) (Or.inr ⟨by rfl, rfl⟩) (by assumption) ?_
        try simp only [Act.put, List.setIfInBounds_toArray, List.set_cons_zero, List.set_cons_succ, List.getElem_toArray, List.getElem_cons_zero, List.getElem_cons_succ]
        refine wpAnyH_take (i := 11) (v := undef) rfl (by kernel_rfl) (by kernel_rfl) (by kernel_rfl) (fun _ _ _ h => h) (Or.inr ⟨by rfl, rfl⟩) (by assumption) ?_
        try simp only [Act.put, List.setIfInBounds_toArray, List.set_cons_zero, List.set_cons_succ, List.getElem_toArray, List.getElem_cons_zero, List.getElem_cons_succ]
        refine wpAnyH_take (i := 12) (v := undef) rfl (by kernel_rfl) (by kernel_rfl) (by kernel_rfl) (fun _ _ _ h => h) (Or.inr ⟨by rfl, rfl⟩) (by assumption) ?_
        try simp only [Act.put, List.setIfInBounds_toArray, List.set_cons_zero, List.set_cons_succ, List.getElem_toArray, List.getElem_cons_zero, List.getElem_cons_succ]
        refine wpAnyH_take (i := 13) (v := undef) rfl (by kernel_rfl) (by kernel_rfl) (by kernel_rfl) (fun _ _ _ h => h) (Or.inr ⟨by rfl, rfl⟩) (by assumption) ?_
        try simp only [Act.put, List.setIfInBounds_toArray, List.set_cons_zero, List.set_cons_succ, List.getElem_toArray, List.getElem_cons_zero, List.getElem_cons_succ]
        refine wpAnyH_take (i := 14) (v := undef) rfl (by kernel_rfl) (by kernel_rfl) (by kernel_rfl) (fun _ _ _ h => h) (Or.inr ⟨by rfl, rfl⟩) (by assumption) ?_
        try simp only [Act.put, List.setIfInBounds_toArray, List.set_cons_zero, List.set_cons_succ, List.getElem_toArray, List.getElem_cons_zero, List.getElem_cons_succ]
        refine wpAnyH_take (i := 15) (v := undef) rfl (by kernel_rfl) (by kernel_rfl) (by kernel_rfl) (fun _ _ _ h => h) (Or.inr ⟨by rfl, rfl⟩) (by assumption) ?_
        try simp only [Act.put, List.setIfInBounds_toArray, List.set_cons_zero, List.set_cons_succ, List.getElem_toArray, List.getElem_cons_zero, List.getElem_cons_succ]
        refine wpAnyH_take (i := 16) (v := undef) rfl (by kernel_rfl) (by kernel_rfl) (by kernel_rfl) (fun _ _ _ h => h) (Or.inr ⟨by rfl, rfl⟩) (by assumption) ?_
        try simp only [Act.put, List.setIfInBounds_toArray, List.set_cons_zero, List.set_cons_succ, List.getElem_toArray, List.getElem_cons_zero, List.getElem_cons_succ]
        refine wpAnyH_take (i := 17) (v := undef) rfl (by kernel_rfl) (by kernel_rfl) (by kernel_rfl) (fun _ _ _ h => h) (Or.inr ⟨by rfl, rfl⟩) (by assumption) ?_
        try simp only [Act.put, List.setIfInBounds_toArray, List.set_cons_zero, List.set_cons_succ, List.getElem_toArray, List.getElem_cons_zero, List.getElem_cons_succ]
        refine wpAnyH_take (i := 18) (v := undef) rfl (by kernel_rfl) (by kernel_rfl) (by kernel_rfl) (fun _ _ _ h => h) (Or.inr ⟨by rfl, rfl⟩) (by assumption) ?_
        try simp only [Act.put, List.setIfInBounds_toArray, List.set_cons_zero, List.set_cons_succ, List.getElem_toArray, List.getElem_cons_zero, List.getElem_cons_succ]
        refine wpAnyH_take (i := 19) (v := ?valF19x5) rfl (by kernel_rfl) (by kernel_rfl) (by kernel_rfl) (fun _ _ _ h => h) (Or.inl ⟨by rfl, ?yieF19x5⟩) (by assumption) ?resF19x5
        case yieF19x5 =>
          intro w hSw
          try dsimp only at hSw
          try obtain ⟨s0, s1, s2, s3, _⟩ := hSw
          go_simp
          try with_reducible rfl
        try simp only [Act.put, List.setIfInBounds_toArray, List.set_cons_zero, List.set_cons_succ, List.getElem_toArray, List.getElem_cons_zero, List.getElem_cons_succ]
        refine wpAnyH_take (i := 20) (v := ?valF20x5) rfl (by kernel_rfl) (by kernel_rfl) (by kernel_rfl) (fun _ _ _ h => h) (Or.inl ⟨by rfl, ?yieF20x5⟩) (by assumption) ?resF20x5
        case yieF20x5 =>
          intro w hSw
          try dsimp only at hSw
          try obtain ⟨s0, s1, s2, s3, _⟩ := hSw
          go_simp
          try with_reducible rfl
        try simp only [Act.put, List.setIfInBounds_toArray, List.set_cons_zero, List.set_cons_succ, List.getElem_toArray, List.getElem_cons_zero, List.getElem_cons_succ]
        refine wpAnyH_done (by kernel_rfl) ?_ _
        refine NoPanic.normal ?_
        go_wp2_with fail
        go_ret
        exact ⟨rfl, HB4.out.trans ((HS.out.below hb12).bel.mono HB4.out.size)⟩
    | true =>
      cases ob with
      | false =>
        have x0 := S.ba.cell 0
        have x1 := S.ba.cell 1
        have x2 := S.ba.cell 2
        have x3 := S.ba.cell 3
        simp only [List.getElem?_toArray, List.getElem?_cons_zero, List.getElem?_cons_succ] at x0 x1 x2 x3
        have hta : typE (.mk 4 0 { data := #[98, 111, 111, 108] } [e]) ss vs = { data := #[98, 111, 111, 108] } := (HTV.out (by first | rfl | trivial)).trans (if_neg (by decide))
        have HC := Lib.hid (HTA.out W5 S)
        rw [hta] at HC
        unfold Types at HC
        have HS := Lib.hid S
        clear S
        go_wp2_with fail
        refine HC.out.mono ?_
        rintro r W6 ⟨rfl, hb⟩
        have S := HS.out.below hb
        clear HC HS hb x0 x1 x2 x3
        have y0 := S.bb.cell 0
        have y1 := S.bb.cell 1
        have y2 := S.bb.cell 2
        have y3 := S.bb.cell 3
        simp only [List.getElem?_toArray, List.getElem?_cons_zero, List.getElem?_cons_succ] at y0 y1 y2 y3
        have HC := Lib.hid (HOB.out W6 S)
        have HS := Lib.hid S
        clear S
        go_wp2_with fail
        refine HC.out.mono ?_
        rintro r W7 ⟨rfl, hb⟩
        have S := HS.out.below hb
        clear HC HS hb y0 y1 y2 y3
        have hmk := fun W => run_make_row' (P := Tryz.prog) 36 3 (.int .i64 0) 8 Tryz.underlying36 infoInt rfl .i64 .i64 ss.length (by omega) (by omega) W
        obtain ⟨W9, hW9⟩ : ∃ W9, W9 = W7.alloc (.cells (madeCells #[.int .i64 0] ss.length) 3) := ⟨_, rfl⟩
        have hb9 : Below W7.heap.size W7 W9 := by rw [hW9]; exact (Below.refl _ _).alloc (Nat.le_refl _) _
        have hZ9 : SlIs W9 (some ⟨W7.heap.size, 0, none⟩) ((List.replicate ss.length (0 : Int)).map intV) := by
          have := SlIs.own (own_made W7 (.int .i64 0) ss.length (by unfold maxLen; omega) 3)
          rw [hW9]
          simpa [intV] using this
        replace S := S.below hb9
        have z0 := S.be.cell 0
        have z1 := S.be.cell 1
        have z2 := S.be.cell 2
        have z3 := S.be.cell 3
        simp only [List.getElem?_toArray, List.getElem?_cons_zero, List.getElem?_cons_succ] at z0 z1 z2 z3
        have HC := Lib.hid (HZE.out W9 S W7.heap.size hZ9)
        obtain ⟨R, hR⟩ : ∃ R, R = ofE e ss (List.replicate ss.length 0) := ⟨_, rfl⟩
        rw [← hR] at HC
        unfold Comes at HC
        have HR := Lib.hid hR
        have HS := Lib.hid S
        have HZ9 := Lib.hid hZ9
        clear S hR hZ9 hb9
        rw [hW9] at z0 z1 z2 z3
        go_wp2_with fail
        rw [← hW9]
        clear hW9 hmk z0 z1 z2 z3
        refine HC.out.mono ?_
        rintro r W10 ⟨rfl, hb10⟩
        have S := HS.out.below hb10
        have HC := Lib.hid (HZB.out W10 S W7.heap.size (HZ9.out.below hb10))
        obtain ⟨R2, hR2⟩ : ∃ R2, R2 = ofE (.mk 4 0 { data := #[105, 110, 116] } [.mk 4 0 { data := #[98, 111, 111, 108] } [e]]) ss (List.replicate ss.length 0) := ⟨_, rfl⟩
        rw [← hR2] at HC
        have HR2 := Lib.hid hR2
        unfold Comes at HC
        have y0 := S.bb.cell 0
        have y1 := S.bb.cell 1
        have y2 := S.bb.cell 2
        have y3 := S.bb.cell 3
        simp only [List.getElem?_toArray, List.getElem?_cons_zero, List.getElem?_cons_succ] at y0 y1 y2 y3
        have HS := Lib.hid S
        clear S hR2 hb10
        go_wp2_with fail
        refine HC.out.mono ?_
        rintro r W11 ⟨rfl, hb⟩
        have S := HS.out.below hb
        clear HC HS hb y0 y1 y2 y3
        have y0 := S.bb.cell 0
        have y1 := S.bb.cell 1
        have y2 := S.bb.cell 2
        have y3 := S.bb.cell 3
        simp only [List.getElem?_toArray, List.getElem?_cons_zero, List.getElem?_cons_succ] at y0 y1 y2 y3
        have z0 := S.be.cell 0
        have z1 := S.be.cell 1
        have z2 := S.be.cell 2
        have z3 := S.be.cell 3
        simp only [List.getElem?_toArray, List.getElem?_cons_zero, List.getElem?_cons_succ] at z0 z1 z2 z3
        have HS := Lib.hid S
        have HCO := Lib.hid (HOB.out W11 S)
        have hyl := S.bb.lt
        clear S
        obtain ⟨n1, hn1⟩ : ∃ n1, n1 = R.getD 0 := ⟨_, rfl⟩
        obtain ⟨n2, hn2⟩ : ∃ n2, n2 = R2.getD 0 := ⟨_, rfl⟩
        obtain ⟨b1, hb1'⟩ : ∃ b1, b1 = R.isSome := ⟨_, rfl⟩
        obtain ⟨b2, hb2'⟩ : ∃ b2, b2 = R2.isSome := ⟨_, rfl⟩
        rw [← hn1, ← hn2, ← hb1', ← hb2']
        clear hn1 hn2 hb1' hb2' HR HR2
        go_wp2_with fail
        refine wp_region_noPanic ?_
        refine wp_region_held_drew (S := (fun w' => w'.cell? ⟨w4.heap.size + 1 + 1 + 1, 0, none⟩ = some (.int .i64 4) ∧ w'.cell? ⟨w4.heap.size + 1 + 1 + 1, 1, none⟩ = some (.int .i64 0) ∧ w'.cell? ⟨w4.heap.size + 1 + 1 + 1, 2, none⟩ = some (.string { data := #[105, 110, 116] }) ∧ w'.cell? ⟨w4.heap.size + 1 + 1 + 1, 3, none⟩ = some (.slice (some ⟨w4.heap.size + 1 + 1, 0, none⟩) 1 1) ∧ Below W11.heap.size W11 w')) (by kernel_rfl) (by exact ⟨y0, y1, y2, y3, (Below.refl _ W11).drew⟩) (fun hHeld => ?_)
        refine wpAnyH_take (i := 0) (v := ?valF0x6) rfl (by kernel_rfl) (by kernel_rfl) (by kernel_rfl) (fun _ _ _ h => h) (Or.inl ⟨by rfl, ?yieF0x6⟩) (by assumption) ?resF0x6
        case yieF0x6 =>
          intro w hSw
          try dsimp only at hSw
          try obtain ⟨s0, s1, s2, s3, _⟩ := hSw
          go_simp
          try with_reducible rfl
        try simp only [Act.put, List.setIfInBounds_toArray, List.set_cons_zero, List.set_cons_succ, List.getElem_toArray, List.getElem_cons_zero, List.getElem_cons_succ]
        refine wpAnyH_ready (rs := [1]) (by kernel_rfl) (by simp) ?_
        refine AllReadyH.cons rfl (fun K hK => ?_) AllReadyH.nil
        go_simp
        refine (HOB.out _ (HS.out.below (Below.refl _ W11).drew)).mono ?_
        rintro r W12 ⟨rfl, hb12'⟩
        have hb12 : Below W11.heap.size W11 W12 := (Below.refl _ W11).drew.trans hb12'
        go_wp2_with fail
        refine hK.out _ _ (by exact ⟨(hb12.cell (p := ⟨w4.heap.size + 1 + 1 + 1, 0, none⟩) hyl).trans y0, (hb12.cell (p := ⟨w4.heap.size + 1 + 1 + 1, 1, none⟩) hyl).trans y1, (hb12.cell (p := ⟨w4.heap.size + 1 + 1 + 1, 2, none⟩) hyl).trans y2, (hb12.cell (p := ⟨w4.heap.size + 1 + 1 + 1, 3, none⟩) hyl).trans y3, hb12⟩) (fun hHeld => ?_)
        clear hK K
        try simp only [Act.put, List.setIfInBounds_toArray, List.set_cons_zero, List.set_cons_succ, List.getElem_toArray, List.getElem_cons_zero, List.getElem_cons_succ]
        refine wpAnyH_take (i := 2) (v := ?valF2x6) rfl (by kernel_rfl) (by kernel_rfl) (by kernel_rfl) (fun _ _ _ h => h) (Or.inl ⟨by rfl, ?yieF2x6⟩) (by assumption) ?resF2x6
        case yieF2x6 =>
          intro w hSw
          try dsimp only at hSw
          try obtain ⟨s0, s1, s2, s3, _⟩ := hSw
          go_simp
          try with_reducible rfl
        try simp only [Act.put, List.setIfInBounds_toArray, List.set_cons_zero, List.set_cons_succ, List.getElem_toArray, List.getElem_cons_zero, List.getElem_cons_succ]
        refine wpAnyH_take (i := 3) (v := ?valF3x6) rfl (by kernel_rfl) (by kernel_rfl) (by kernel_rfl) (fun _ _ _ h => h) (Or.inl ⟨by rfl, ?yieF3x6⟩) (by assumption) ?resF3x6
        case yieF3x6 =>
          intro w hSw
          try dsimp only at hSw
          try obtain ⟨s0, s1, s2, s3, _⟩ := hSw
          go_simp
          try with_reducible rfl
        try simp only [Act.put, List.setIfInBounds_toArray, List.set_cons_zero, List.set_cons_succ, List.getElem_toArray, List.getElem_cons_zero, List.getElem_cons_succ]
        refine wpAnyH_take (i := 4) (v := undef) rfl (by kernel_rfl) (by kernel_rfl) (by kernel_rfl) (fun _ _ _ h => h) (Or.inr ⟨by rfl, rfl⟩) (by assumption) ?_
        try simp only [Act.put, List.setIfInBounds_toArray, List.set_cons_zero, List.set_cons_succ, List.getElem_toArray, List.getElem_cons_zero, List.getElem_cons_succ]
        refine wpAnyH_take (i := 5) (v := undef) rfl (by kernel_rfl) (by kernel_rfl) (by kernel_rfl) (fun _ _ _ h => h) (Or.inr ⟨by rfl, rfl⟩) (by assumption) ?_
        try simp only [Act.put, List.setIfInBounds_toArray, List.set_cons_zero, List.set_cons_succ, List.getElem_toArray, List.getElem_cons_zero, List.getElem_cons_succ]
        refine wpAnyH_take (i := 6) (v := undef) rfl (by kernel_rfl) (by kernel_rfl) (by kernel_rfl) (fun _ _ _ h => h) (Or.inr ⟨by rfl, rfl⟩) (by assumption) ?_
        try simp only [Act.put, List.setIfInBounds_toArray, List.set_cons_zero, List.set_cons_succ, List.getElem_toArray, List.getElem_cons_zero, List.getElem_cons_succ]
        refine wpAnyH_take (i := 7) (v := undef) rfl (by kernel_rfl) (by kernel_rfl) (by kernel_rfl) (fun _ _ _ h => h) (Or.inr ⟨by rfl, rfl⟩) (by assumption) ?_
        try simp only [Act.put, List.setIfInBounds_toArray, List.set_cons_zero, List.set_cons_succ, List.getElem_toArray, List.getElem_cons_zero, List.getElem_cons_succ]
        refine wpAnyH_take (i := 8) (v := undef) rfl (by kernel_rfl) (by kernel_rfl) (by kernel_rfl) (fun _ _ _ h => h) (Or.inr ⟨by rfl, rfl⟩) (by assumption) ?_
        try simp only [Act.put, List.setIfInBounds_toArray, List.set_cons_zero, List.set_cons_succ, List.getElem_toArray, List.getElem_cons_zero, List.getElem_cons_succ]
        refine wpAnyH_take (i := 9) (v := undef) rfl (by kernel_rfl) (by kernel_rfl) (by kernel_rfl) (fun _ _ _ h => h) (Or.inr ⟨by rfl, rfl⟩) (by assumption) ?_
        try simp only [Act.put, List.setIfInBounds_toArray, List.set_cons_zero, List.set_cons_succ, List.getElem_toArray, List.getElem_cons_zero, List.getElem_cons_succ]
        refine wpAnyH_take (i := 10) (v := undef) rfl (by kernel_rfl) (by kernel_rfl) (by kernel_rfl) (fun _ _ _ h => h) (Or.inr ⟨by rfl, rfl⟩) (by assumption) ?_
        try simp only [Act.put, List.setIfInBounds_toArray, List.set_cons_zero, List.set_cons_succ, List.getElem_toArray, List.getElem_cons_zero, List.getElem_cons_succ]
        refine wpAnyH_take (i := 11) (v := undef) rfl (by kernel_rfl) (by kernel_rfl) (by kernel_rfl) (fun _ _ _ h => h) (Or.inr ⟨by rfl, rfl⟩) (by assumption) ?_
        try simp only [Act.put, List.setIfInBounds_toArray, List.set_cons_zero, List.set_cons_succ, List.getElem_toArray, List.getElem_cons_zero, List.getElem_cons_succ]
        refine wpAnyH_take (i := 12) (v := undef) rfl (by kernel_rfl) (by kernel_rfl) (by kernel_rfl) (fun _ _ _ h => h) (Or.inr ⟨by rfl, rfl⟩) (by assumption) ?_
        try simp only [Act.put, List.setIfInBounds_toArray, List.set_cons_zero, List.set_cons_succ, List.getElem_toArray, List.getElem_cons_zero, List.getElem_cons_succ]
        refine wpAnyH_take (i := 13) (v := undef) rfl (by kernel_rfl) (by kernel_rfl) (by kernel_rfl) (fun _ _ _ h => h) (Or.inr ⟨by rfl, rfl⟩) (by assumption) ?_
        try simp only [Act.put, List.setIfInBounds_toArray, List.set_cons_zero, List.set_cons_succ, List.getElem_toArray, List.getElem_cons_zero, List.getElem_cons_succ]
        refine wpAnyH_take (i := 14) (v := undef) rfl (by kernel_rfl) (by kernel_rfl) (by kernel_rfl) (fun _ _ _ h => h) (Or.inr ⟨by rfl, rfl⟩) (by assumption) ?_
        try simp only [Act.put, List.setIfInBounds_toArray, List.set_cons_zero, List.set_cons_succ, List.getElem_toArray, List.getElem_cons_zero, List.getElem_cons_succ]
        refine wpAnyH_take (i := 15) (v := undef) rfl (by kernel_rfl) (by kernel_rfl) (by kernel_rfl) (fun _ _ _ h => h) (Or.inr ⟨by rfl, rfl⟩) (by assumption) ?_
        try simp only [Act.put, List.setIfInBounds_toArray, List.set_cons_zero, List.set_cons_succ, List.getElem_toArray, List.getElem_cons_zero, List.getElem_cons_succ]
        refine wpAnyH_take (i := 16) (v := undef) rfl (by kernel_rfl) (by kernel_rfl) (by kernel_rfl) (fun _ _ _ h => h) (Or.inr ⟨by rfl, rfl⟩) (by assumption) ?_
        try simp only [Act.put, List.setIfInBounds_toArray, List.set_cons_zero, List.set_cons_succ, List.getElem_toArray, List.getElem_cons_zero, List.getElem_cons_succ]
        refine wpAnyH_take (i := 17) (v := undef) rfl (by kernel_rfl) (by kernel_rfl) (by kernel_rfl) (fun _ _ _ h => h) (Or.inr ⟨by rfl, rfl⟩) (by assumption) ?_
        try simp only [Act.put, List.setIfInBounds_toArray, List.set_cons_zero, List.set_cons_succ, List.getElem_toArray, List.getElem_cons_zero, List.getElem_cons_succ]
        refine wpAnyH_take (i := 18) (v := undef) rfl (by kernel_rfl) (by kernel_rfl) (by kernel_rfl) (fun _ _ _ h => h) (Or.inr ⟨by rfl, rfl⟩) (by assumption) ?_
        try simp only [Act.put, List.setIfInBounds_toArray, List.set_cons_zero, List.set_cons_succ, List.getElem_toArray, List.getElem_cons_zero, List.getElem_cons_succ]
        refine wpAnyH_take (i := 19) (v := ?valF19x6) rfl (by kernel_rfl) (by kernel_rfl) (by kernel_rfl) (fun _ _ _ h => h) (Or.inl ⟨by rfl, ?yieF19x6⟩) (by assumption) ?resF19x6
        case yieF19x6 =>
          intro w hSw
          try dsimp only at hSw
          try obtain ⟨s0, s1, s2, s3, _⟩ := hSw
          go_simp
          try with_reducible rfl
        try simp only [Act.put, List.setIfInBounds_toArray, List.set_cons_zero, List.set_cons_succ, List.getElem_toArray, List.getElem_cons_zero, List.getElem_cons_succ]
        refine wpAnyH_take (i := 20) (v := ?valF20x6) rfl (by kernel_rfl) (by kernel_rfl) (by kernel_rfl) (fun _ _ _ h => h) (Or.inl ⟨by rfl, ?yieF20x6⟩) (by assumption) ?resF20x6
        case yieF20x6 =>
          intro w hSw
          try dsimp only at hSw
          try obtain ⟨s0, s1, s2, s3, _⟩ := hSw
          go_simp
          try with_reducible rfl
        try simp only [Act.put, List.setIfInBounds_toArray, List.set_cons_zero, List.set_cons_succ, List.getElem_toArray, List.getElem_cons_zero, List.getElem_cons_succ]
        refine wpAnyH_done (by kernel_rfl) ?_ _
        refine NoPanic.normal ?_
        go_wp2_with fail
        go_ret
        exact ⟨rfl, HB4.out.trans ((HS.out.below hb12).bel.mono HB4.out.size)⟩
      | true =>
        have x0 := S.ba.cell 0
        have x1 := S.ba.cell 1
        have x2 := S.ba.cell 2
        have x3 := S.ba.cell 3
        simp only [List.getElem?_toArray, List.getElem?_cons_zero, List.getElem?_cons_succ] at x0 x1 x2 x3
        have hta : typE (.mk 4 0 { data := #[98, 111, 111, 108] } [e]) ss vs = { data := #[98, 111, 111, 108] } := (HTV.out (by first | rfl | trivial)).trans (if_neg (by decide))
        have HC := Lib.hid (HTA.out W5 S)
        rw [hta] at HC
        unfold Types at HC
        have HS := Lib.hid S
        clear S
        go_wp2_with fail
        refine HC.out.mono ?_
        rintro r W6 ⟨rfl, hb⟩
        have S := HS.out.below hb
        clear HC HS hb x0 x1 x2 x3
        have y0 := S.bb.cell 0
        have y1 := S.bb.cell 1
        have y2 := S.bb.cell 2
        have y3 := S.bb.cell 3
        simp only [List.getElem?_toArray, List.getElem?_cons_zero, List.getElem?_cons_succ] at y0 y1 y2 y3
        have HC := Lib.hid (HOB.out W6 S)
        have HS := Lib.hid S
        clear S
        go_wp2_with fail
        refine HC.out.mono ?_
        rintro r W7 ⟨rfl, hb⟩
        have S := HS.out.below hb
        clear HC HS hb y0 y1 y2 y3
        have y0 := S.bb.cell 0
        have y1 := S.bb.cell 1
        have y2 := S.bb.cell 2
        have y3 := S.bb.cell 3
        simp only [List.getElem?_toArray, List.getElem?_cons_zero, List.getElem?_cons_succ] at y0 y1 y2 y3
        have htb : typE (.mk 4 0 { data := #[105, 110, 116] } [.mk 4 0 { data := #[98, 111, 111, 108] } [e]]) ss vs = { data := #[105, 110, 116] } := ((HTW.out (by first | rfl | trivial)).2).trans (if_neg (by rw [hta]; decide))
        have HC := Lib.hid (HTB.out W7 S)
        rw [htb] at HC
        unfold Types at HC
        have HS := Lib.hid S
        clear S
        go_wp2_with fail
        refine HC.out.mono ?_
        rintro r W8 ⟨rfl, hb⟩
        have S := HS.out.below hb
        clear HC HS hb y0 y1 y2 y3
        have hmk := fun W => run_make_row' (P := Tryz.prog) 36 3 (.int .i64 0) 8 Tryz.underlying36 infoInt rfl .i64 .i64 ss.length (by omega) (by omega) W
        obtain ⟨W9, hW9⟩ : ∃ W9, W9 = W8.alloc (.cells (madeCells #[.int .i64 0] ss.length) 3) := ⟨_, rfl⟩
        have hb9 : Below W8.heap.size W8 W9 := by rw [hW9]; exact (Below.refl _ _).alloc (Nat.le_refl _) _
        have hZ9 : SlIs W9 (some ⟨W8.heap.size, 0, none⟩) ((List.replicate ss.length (0 : Int)).map intV) := by
          have := SlIs.own (own_made W8 (.int .i64 0) ss.length (by unfold maxLen; omega) 3)
          rw [hW9]
          simpa [intV] using this
        replace S := S.below hb9
        have z0 := S.be.cell 0
        have z1 := S.be.cell 1
        have z2 := S.be.cell 2
        have z3 := S.be.cell 3
        simp only [List.getElem?_toArray, List.getElem?_cons_zero, List.getElem?_cons_succ] at z0 z1 z2 z3
        have HC := Lib.hid (HZE.out W9 S W8.heap.size hZ9)
        obtain ⟨R, hR⟩ : ∃ R, R = ofE e ss (List.replicate ss.length 0) := ⟨_, rfl⟩
        rw [← hR] at HC
        unfold Comes at HC
        have HR := Lib.hid hR
        have HS := Lib.hid S
        have HZ9 := Lib.hid hZ9
        clear S hR hZ9 hb9
        rw [hW9] at z0 z1 z2 z3
        go_wp2_with fail
        rw [← hW9]
        clear hW9 hmk z0 z1 z2 z3
        refine HC.out.mono ?_
        rintro r W10 ⟨rfl, hb10⟩
        have S := HS.out.below hb10
        have HC := Lib.hid (HZB.out W10 S W8.heap.size (HZ9.out.below hb10))
        obtain ⟨R2, hR2⟩ : ∃ R2, R2 = ofE (.mk 4 0 { data := #[105, 110, 116] } [.mk 4 0 { data := #[98, 111, 111, 108] } [e]]) ss (List.replicate ss.length 0) := ⟨_, rfl⟩
        rw [← hR2] at HC
        have HR2 := Lib.hid hR2
        unfold Comes at HC
        have y0 := S.bb.cell 0
        have y1 := S.bb.cell 1
        have y2 := S.bb.cell 2
        have y3 := S.bb.cell 3
        simp only [List.getElem?_toArray, List.getElem?_cons_zero, List.getElem?_cons_succ] at y0 y1 y2 y3
        have HS := Lib.hid S
        clear S hR2 hb10
        go_wp2_with fail
        refine HC.out.mono ?_
        rintro r W11 ⟨rfl, hb⟩
        have S := HS.out.below hb
        clear HC HS hb y0 y1 y2 y3
        have y0 := S.bb.cell 0
        have y1 := S.bb.cell 1
        have y2 := S.bb.cell 2
        have y3 := S.bb.cell 3
        simp only [List.getElem?_toArray, List.getElem?_cons_zero, List.getElem?_cons_succ] at y0 y1 y2 y3
        have z0 := S.be.cell 0
        have z1 := S.be.cell 1
        have z2 := S.be.cell 2
        have z3 := S.be.cell 3
        simp only [List.getElem?_toArray, List.getElem?_cons_zero, List.getElem?_cons_succ] at z0 z1 z2 z3
        have hRR : R2 = R := by rw [HR.out, HR2.out]; exact HAO.out _ HOBE.out.symm
        subst hRR
        have hbare : bareE (.mk 4 0 { data := #[105, 110, 116] } [.mk 4 0 { data := #[98, 111, 111, 108] } [e]]) = bareE e := HAB.out HOBE.out.symm
        have HS := Lib.hid S
        have HCO := Lib.hid (HOB.out W11 S)
        have HCB := Lib.hid (fun (W : World) (hW : Below W11.heap.size W11 W) => HBB.out W (S.below hW))
        have HCE := Lib.hid (fun (W : World) (hW : Below W11.heap.size W11 W) => HBE.out W (S.below hW))
        rw [hbare] at HCB
        have hyl := S.bb.lt
        have hel := S.be.lt
        clear S hbare
        obtain ⟨n1, hn1⟩ : ∃ n1, n1 = R2.getD 0 := ⟨_, rfl⟩
        obtain ⟨b1, hb1'⟩ : ∃ b1, b1 = R2.isSome := ⟨_, rfl⟩
        rw [← hn1, ← hb1']
        have qb : (b1 == b1) = true := by simp
        have qn : (n1 == n1) = true := by simp
        generalize bareE e = bq at *
        have HSB := Lib.hid (fun (A1 A2 : Option Addr) (c1 c2 B : Nat) (W : World) (h1 : KidsU W B A1 bq.kids) (h2 : KidsU W B A2 bq.kids) (h3 : bq.kids.length ≤ c1) (h4 : bq.kids.length ≤ c2) (h5 : B ≤ W.heap.size) => exprSame_any bq bq A1 A2 c1 c2 B W h1 h2 h3 h4 h5 HBN.out)
        rw [sameE_self] at HSB
        clear hn1 hb1' HR HR2
        go_wp2_with fail
        go_region_held3 (fun w' => w'.cell? ⟨w4.heap.size + 1 + 1 + 1, 0, none⟩ = some (.int .i64 4) ∧ w'.cell? ⟨w4.heap.size + 1 + 1 + 1, 1, none⟩ = some (.int .i64 0) ∧ w'.cell? ⟨w4.heap.size + 1 + 1 + 1, 2, none⟩ = some (.string { data := #[105, 110, 116] }) ∧ w'.cell? ⟨w4.heap.size + 1 + 1 + 1, 3, none⟩ = some (.slice (some ⟨w4.heap.size + 1 + 1, 0, none⟩) 1 1) ∧ w'.cell? ⟨w1.heap.size, 0, none⟩ = some (.int .i64 e.kind) ∧ w'.cell? ⟨w1.heap.size, 1, none⟩ = some (.int .i64 e.n) ∧ w'.cell? ⟨w1.heap.size, 2, none⟩ = some (.string e.s) ∧ w'.cell? ⟨w1.heap.size, 3, none⟩ = some (.slice Ae e.kids.length c) ∧ Below W11.heap.size W11 w')
          (first | exact ⟨y0, y1, y2, y3, z0, z1, z2, z3, (Below.refl _ W11).drew⟩ | exact ⟨(hb15.cell (p := ⟨w4.heap.size + 1 + 1 + 1, 0, none⟩) hyl).trans y0, (hb15.cell (p := ⟨w4.heap.size + 1 + 1 + 1, 1, none⟩) hyl).trans y1, (hb15.cell (p := ⟨w4.heap.size + 1 + 1 + 1, 2, none⟩) hyl).trans y2, (hb15.cell (p := ⟨w4.heap.size + 1 + 1 + 1, 3, none⟩) hyl).trans y3, (hb15.cell (p := ⟨w1.heap.size, 0, none⟩) hel).trans z0, (hb15.cell (p := ⟨w1.heap.size, 1, none⟩) hel).trans z1, (hb15.cell (p := ⟨w1.heap.size, 2, none⟩) hel).trans z2, (hb15.cell (p := ⟨w1.heap.size, 3, none⟩) hel).trans z3, hb15⟩ | exact ⟨(hb14.cell (p := ⟨w4.heap.size + 1 + 1 + 1, 0, none⟩) hyl).trans y0, (hb14.cell (p := ⟨w4.heap.size + 1 + 1 + 1, 1, none⟩) hyl).trans y1, (hb14.cell (p := ⟨w4.heap.size + 1 + 1 + 1, 2, none⟩) hyl).trans y2, (hb14.cell (p := ⟨w4.heap.size + 1 + 1 + 1, 3, none⟩) hyl).trans y3, (hb14.cell (p := ⟨w1.heap.size, 0, none⟩) hel).trans z0, (hb14.cell (p := ⟨w1.heap.size, 1, none⟩) hel).trans z1, (hb14.cell (p := ⟨w1.heap.size, 2, none⟩) hel).trans z2, (hb14.cell (p := ⟨w1.heap.size, 3, none⟩) hel).trans z3, hb14⟩ | exact ⟨(hb13.cell (p := ⟨w4.heap.size + 1 + 1 + 1, 0, none⟩) hyl).trans y0, (hb13.cell (p := ⟨w4.heap.size + 1 + 1 + 1, 1, none⟩) hyl).trans y1, (hb13.cell (p := ⟨w4.heap.size + 1 + 1 + 1, 2, none⟩) hyl).trans y2, (hb13.cell (p := ⟨w4.heap.size + 1 + 1 + 1, 3, none⟩) hyl).trans y3, (hb13.cell (p := ⟨w1.heap.size, 0, none⟩) hel).trans z0, (hb13.cell (p := ⟨w1.heap.size, 1, none⟩) hel).trans z1, (hb13.cell (p := ⟨w1.heap.size, 2, none⟩) hel).trans z2, (hb13.cell (p := ⟨w1.heap.size, 3, none⟩) hel).trans z3, hb13⟩ | exact ⟨(hb12.cell (p := ⟨w4.heap.size + 1 + 1 + 1, 0, none⟩) hyl).trans y0, (hb12.cell (p := ⟨w4.heap.size + 1 + 1 + 1, 1, none⟩) hyl).trans y1, (hb12.cell (p := ⟨w4.heap.size + 1 + 1 + 1, 2, none⟩) hyl).trans y2, (hb12.cell (p := ⟨w4.heap.size + 1 + 1 + 1, 3, none⟩) hyl).trans y3, (hb12.cell (p := ⟨w1.heap.size, 0, none⟩) hel).trans z0, (hb12.cell (p := ⟨w1.heap.size, 1, none⟩) hel).trans z1, (hb12.cell (p := ⟨w1.heap.size, 2, none⟩) hel).trans z2, (hb12.cell (p := ⟨w1.heap.size, 3, none⟩) hel).trans z3, hb12⟩)
          (first | (go_at_call 19; refine (HOB.out _ (HS.out.below (Below.refl _ W11).drew)).mono ?_; rintro r W12 ⟨rfl, hb12'⟩; have hb12 : Below W11.heap.size W11 W12 := (Below.refl _ W11).drew.trans hb12') | (go_at_call 28; ((with_reducible refine (HCB.out W12 hb12).mono ?_); rintro r W13 ⟨A13, c13, rfl, hc13, hO13, hb13'⟩; have hb13 : Below W11.heap.size W11 W13 := hb12.trans (hb13'.mono hb12.size); have HO13 := Lib.hid hO13; clear hO13)) | (go_at_call 28; ((with_reducible refine (HCE.out W13 hb13).mono ?_); rintro r W14 ⟨A14, c14, rfl, hc14, hO14, hb14'⟩; have hb14 : Below W11.heap.size W11 W14 := hb13.trans (hb14'.mono hb13.size); have HU1 := Lib.hid ((own_kidsU bq _ _ A13 W13.heap.size HO13.out (Nat.le_refl _)).keep hb14' |>.wide hb14'.size); have HU2 := Lib.hid (own_kidsU bq _ _ A14 W14.heap.size hO14 (Nat.le_refl _)); clear hO14)) | (go_at_call 22; refine (HSB.out A13 A14 c13 c14 W14.heap.size W14 HU1.out HU2.out hc13 hc14 (Nat.le_refl _)).mono ?_; rintro r W15 ⟨rfl, hb15'⟩; have hb15 : Below W11.heap.size W11 W15 := hb14.trans (hb15'.mono hb14.size)))
        rename_i hh
        go_wp2_with fail
        go_ret
        exact ⟨rfl, HB4.out.trans ((HS.out.below hb15).bel.mono HB4.out.size)⟩

set_option linter.unusedVariables false in
set_option maxRecDepth 100000 in
theorem lifted (os : Os) (started : os.Started) (H : Type) (enc : TypeId × Value → H) :
    ReturnsInHanded {} Tryz.checked os 12 .any (fun w args => (Rows.fnExprCastSpec.pre enc Tryz.prog Tryz.f12 [] false w args ∧ laidMetH Tryz.prog laidL w) ∧ sizedMet enc Tryz.prog Tryz.f12 (OpenSpec.ofChange Rows.fnExprCastSpec) false w args)
      (Rows.fnExprCastSpec.post enc Tryz.prog Tryz.f12 false true false false) := by
  refine returnsInHanded_of_change_and (C := Tryz.checked) (X := fun w _ => laidMetH Tryz.prog laidL w) (fun _ _ _ hh h => h.of_heap hh) own started (by kernel_rfl) Tryz.func12
    (ChangeSpec.witness_shaped (enc := enc) (C := Tryz.checked) (os := os) (X := fun w _ => laidMetH Tryz.prog laidL w) false (World.doorLaid Tryz.prog 62 os) #[.slice none 0 0] 8 rfl (World.shaped_of_RefB (by kernel_rfl) (by kernel_rfl)) (by kernel_rfl) (by kernel_rfl) (by kernel_rfl) (door_met os _)) ?_
  intro W base args ds gs before hval0 hW _ _ hL _
  have hval : ∀ (j : Nat) t v, Tryz.f12.params[j]? = some t → args[j]? = some v → Value.okWide Tryz.prog W .any base t v := hval0
  have hW' := hW
  obtain ⟨p, q, hA0, hV, rfl, hfz, hnd⟩ := hW
  have hA : DataW.TrodAll enc Tryz.prog W 0 (fun _ => true) true Tryz.f12.params.toList args.toList ds p := hA0
  rw [Tryz.params12] at hA hval
  obtain ⟨v0, vs0, d0, ds0, p0, q0, hargs, rfl, rfl, h0, r0⟩ := trodAll_cons hA
  obtain ⟨rfl, rfl, rfl⟩ := trodAll_nil r0
  obtain rfl : args = #[v0] := by cases args; simp_all
  obtain ⟨rfl, rfl⟩ := trodVars_none hV
  have k0 := h0
  have lt0 : ∀ x ∈ p0, x.block < W.heap.size := by obtain ⟨m, hm⟩ := k0; exact DataW.trod_lt m _ _ _ hm
  obtain ⟨a0, len0, cap0, e0⟩ := okWide_slice Tryz.underlying22 (hval 0 22 v0 rfl rfl)
  subst e0
  have w0 : InCode W a0 len0 cap0 := by
    obtain ⟨fuel, hf⟩ := h0
    rcases open_ints Tryz.underlying22 Tryz.underlying5 (by kernel_rfl) hf with ⟨hcs, _⟩ | ⟨x, l, c, zs, hcs, _, hl, hm, hz, _, hcell, hwz⟩
    · simp [Value.cells] at hcs
      obtain ⟨rfl, rfl, rfl⟩ := hcs
      exact inCode_nil W
    · simp [Value.cells] at hcs
      obtain ⟨rfl, rfl, rfl⟩ := hcs
      exact inCode_of hl hm (by simpa using hz) hcell hwz
  clear hA0 hval0
  refine (walk a0 len0 cap0 W w0 (of_laid hL)).mono fun e W' ⟨he, bel⟩ => ?_
  subst he
  exact ⟨_, rfl, _, _, _, [], _, [], hW', trodAll_mk1 (shut_bool Tryz.underlying4 _), (trodAll_cons_mk (Below.trod laidOut (by kernel_rfl) (of_decide_eq_true (by kernel_rfl)) k0 bel lt0) trodAll_mk0), rfl, bel.frame _, fun h => by cases h⟩

theorem over : Rows.fnExprCastRow.holds Tryz.pinned (OpenSpec.ofChange Rows.fnExprCastSpec) :=
  OpenClaim.holds_of_wide 12 Tryz.f12 rfl rfl rfl rfl rfl rfl rfl ⟨rfl, rfl, rfl, rfl, rfl⟩ rfl rfl rfl rfl rfl (by kernel_rfl) Tryz.func12 (by kernel_rfl)
    (of_decide_eq_true (by kernel_rfl)) (by unfold Func.isWrapper; first | (rw [if_pos (by decide +kernel)]; kernel_rfl) | (rw [if_neg (by decide +kernel)]; exact ⟨rfl, rfl⟩))
    (fun os started H enc _ => lifted os started H enc)
end Go.Proofs.YtggdlldagaggiaaGreatDoor.fnExprCast
namespace Go.Proofs.YtggdlldagaggiaaGreatDoor

/-- The given statement. -/
theorem fnExprCast_proved : Rows.FnExprCastCardSaid :=
  Claim7.holds_tied_plain_at .later [] [.data, .data, .data, .sentinel, .sentinel] true (true, "1ba372455362d8308537e50782232f5108dfa5218fd8276efa2f30edc5358766") true
    fnExprCast.over (fun _ h => by cases h) (by kernel_rfl) (fun _ h => by cases h) fnExprCast_row_tie rfl ⟨rfl, rfl⟩ (by kernel_rfl) rfl
    (fun f fn hf hfn => by
      obtain rfl : f = 12 := Option.some.inj ((show Tryz.prog.funcNamed "loop.example/interlinear/laws.FnExprCast" = some 12 by kernel_rfl).symm.trans hf) |>.symm
      obtain rfl : fn = Tryz.f12 := (Option.some.inj (Tryz.func12.symm.trans hfn)).symm
      exact ⟨by kernel_rfl, fun j t ht => by
        rw [Tryz.params12] at ht
        have hm : t ∈ [22] := by simpa using Array.mem_of_getElem? ht
        have hall : ([22].all fun u => !Tryz.prog.wantsStandIn u) = true := by kernel_rfl
        exact (show Tryz.prog.wantsStandIn t = false by simpa using List.all_eq_true.1 hall t hm)⟩)
    (by kernel_rfl)
#print axioms fnExprCast_proved
end Go.Proofs.YtggdlldagaggiaaGreatDoor
