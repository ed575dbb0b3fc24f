/-
  'laws.FnExprBare' returns true at every code.
  Conditions: the library's variables hold what their initialisers lay (tied to the program's text); every slice of bytes.
-/
import Derived.Test.YtggdlldagaggiaaGreatDoorMethOf
import Derived.Test.YtggdlldagaggiaaGreatDoorSpecOf2
import Derived.Test.YtggdlldagaggiaaGreatDoorDrawOf
import Derived.Test.YtggdlldagaggiaaGreatDoorExprBare
import Derived.Test.YtggdlldagaggiaaGreatDoorSpecBare3
import Derived.Test.YtggdlldagaggiaaGreatDoorExprSame
import Derived.Test.YtggdlldagaggiaaGreatDoorExprWords
import Derived.Test.YtggdlldagaggiaaGreatDoorExprOk
import Derived.Test.YtggdlldagaggiaaGreatDoorBareMath
import Derived.Test.YtggdlldagaggiaaGreatDoorExLaws
import Derived.Test.YtggdlldagaggiaaGreatDoorDecimal
import Derived.LaidMore
import Derived.Stop.Joined
import Derived.Stop.LaidErr
import Derived.Lib.LaidTab
import Derived.Test.YtggdlldagaggiaaGreatDoorCards
import Derived.Test.YtggdlldagaggiaaGreatDoorTie
import Derived.Test.YtggdlldagaggiaaGreatDoorRows
import Derived.WalkKit
import Derived.BigGuardPart
import Derived.ProofKit
import Derived.OpenShut
import Derived.ShutString
import Derived.ChangeOld
import Derived.Below
import Derived.Lib.SmallJoins
import Derived.SliceStrings
namespace Go.Proofs.YtggdlldagaggiaaGreatDoor
open Go.ChangeShapes Go.WideShapes Go.ChangeAt Go.WideMaps Go.WideElems Go.RowKit

def laidL : List (String × DataW Unit) := [("math/bits.deBruijn32tab", Rows.laid_math_bits_deBruijn32tab), ("math/bits.deBruijn64tab", Rows.laid_math_bits_deBruijn64tab), ("internal/strconv.uint64pow10", Rows.laid_internal_strconv_uint64pow10), ("strconv.ErrRange", Rows.laid_strconv_ErrRange), ("strconv.ErrSyntax", Rows.laid_strconv_ErrSyntax)]
theorem door_met (os : Os) (args : Array Value) : laidMetH Tryz.prog laidL ((World.doorLaid Tryz.prog 62 os).forCall (fun _ _ => 0) ⟨#[], args, []⟩).memory :=
  laidMetH_of_parts3 (fuel := 8) (laidMet_of_run' 8 (by kernel_rfl) (by kernel_rfl)) (by kernel_rfl) (by kernel_rfl)

theorem gTab : Tryz.prog.globalNamed "internal/strconv.uint64pow10" = some 3 := by kernel_rfl
theorem gTabType : (Tryz.prog.globals[3]?).map (·.type) = some 169 := by kernel_rfl
theorem gRng : Tryz.prog.globalNamed "strconv.ErrRange" = some 2 := by kernel_rfl
theorem gRngType : (Tryz.prog.globals[2]?).map (·.type) = some 105 := by kernel_rfl
theorem gSyn : Tryz.prog.globalNamed "strconv.ErrSyntax" = some 1 := by kernel_rfl
theorem gSynType : (Tryz.prog.globals[1]?).map (·.type) = some 105 := by kernel_rfl
theorem cellsU64 : Tryz.prog.cellsOf 149 = 1 := by kernel_rfl
theorem cellsTab : Tryz.prog.cellsOf 169 = 20 := by kernel_rfl
theorem cellsErr : Tryz.prog.cellsOf 167 = 1 := by kernel_rfl
theorem cellsStr : Tryz.prog.cellsOf 9 = 1 := by kernel_rfl
theorem star : "*" ++ "errors.errorString" = "*errors.errorString" := by decide
theorem rowErr (u : TypeId) (h : Tryz.prog.typeName? 3 u = some "*errors.errorString") : u = 165 :=
  typeName_ptr_named (nm := "errors.errorString") (by rw [star]; kernel_rfl) (by kernel_rfl) (by decide) u (by rw [star]; exact h)

/-- What the condition gives the walks. -/
theorem of_laid {W : World} (h : laidMetH Tryz.prog laidL W) : LaidW W := by
  rw [MakeChecks.laidMetH_plain _ _ _ (by kernel_rfl)] at h
  have h3 := h.tail.tail
  have h4 := h3.tail
  have h5 := h4.tail
  obtain ⟨a, _, ha, _⟩ := laid_sentinel h4 gRng gRngType Tryz.underlying105 rowErr Tryz.underlying165 Tryz.underlying167 rfl rfl Tryz.underlying9 cellsErr cellsStr
  obtain ⟨b, _, hb, _⟩ := laid_sentinel h5 gSyn gSynType Tryz.underlying105 rowErr Tryz.underlying165 Tryz.underlying167 rfl rfl Tryz.underlying9 cellsErr cellsStr
  exact ⟨Lib.tabIs_of_head (zs := Lib.pow10Tab) gTab gTabType Tryz.underlying169 Tryz.underlying149 cellsU64 cellsTab h3, ⟨_, _, ha⟩, ⟨_, _, hb⟩⟩

theorem own : ownKnob Tryz.prog.godebug = none := by kernel_rfl
theorem laidOut : laidOutB Tryz.prog = true := by kernel_rfl
end Go.Proofs.YtggdlldagaggiaaGreatDoor

namespace Go.Proofs.YtggdlldagaggiaaGreatDoor.fnExprBare
open Go.ChangeShapes Go.WideShapes Go.ChangeAt Go.RowKit Go.Joins
open Go.ChangeMaps (open_string shut_string)


theorem _root_.Go.Proofs.YtggdlldagaggiaaGreatDoor.Blk.stay0 {w w' : World} {g : Nat} {cur : Array Value} (h : Blk w g cur) (hb : w'.heap[g]? = w.heap[g]?) : Blk w' g cur := hb.trans h
theorem _root_.Go.Proofs.YtggdlldagaggiaaGreatDoor.KidsS.u {w : World} {S : Nat → Prop} {B : Nat} {A : Option Addr} {ks : List Ex} (h : KidsS w S A ks) (hS : ∀ b, S b → b < B) : KidsU w B A ks := by
  induction h with
  | nil => exact .nil
  | mk D c hg hb h0 h1 h2 h3 hc _ ih => exact .mk D c (hS _ hg) hb (fun j h => ⟨h0 j h, h1 j h, h2 j h, h3 j h, hc j h⟩) ih
theorem bare_few (e : Ex) : (bareE e).nodes ≤ 2 ^ 30 := by
  unfold bareE
  split
  · rename_i p hp
    have h := ok_bare (okP_some hp).2
    simp only [Pt.ok, Bool.and_eq_true] at h
    have := of_decide_eq_true h.2.2
    rw [Pt.nodes_ex]; omega
  · simp [Ex.zero, Ex.nodes, Ex.nodess]
theorem bare_wt (p : Pt) : p.bare.ex.wt ≤ p.ex.wt := by
  induction p with
  | num n => exact Nat.le_refl _
  | name s => exact Nat.le_refl _
  | two s a b ia ib => simp only [Pt.bare, Pt.ex, Ex.wt, Ex.wts]; omega
  | «as» s a ia => simp only [Pt.bare, Pt.ex, Ex.wt, Ex.wts]; omega
theorem not_ok {e : Ex} (h : okE e = false) : bareE e = Ex.zero ∧ ∀ ss zs, ofE e ss zs = none := by
  have hp : okP e = none := by cases hh : okP e with | none => rfl | some p => rw [← okP_isSome, hh] at h; cases h
  unfold bareE ofE
  rw [hp]
  exact ⟨rfl, fun ss zs => by split <;> rfl⟩
theorem bare_all {e : Ex} (h : okE e = true) : (bareE e).wt ≤ e.wt ∧ okE (bareE e) = true ∧ bareE (bareE e) = bareE e ∧ (∀ ss zs, ofE (bareE e) ss zs = ofE e ss zs) ∧ (∀ s ∈ wordsE (bareE e), plainW s = true) ∧ (wordsE (bareE e)).length ≤ (wordsE e).length ∧ (wordsE e).length ≤ 100 ∧ 1 ≤ (wordsE (bareE e)).length := by
  obtain ⟨p, rfl, hok⟩ := (okE_iff _).1 h
  have hb := ok_bare hok
  have e1 : bareE p.ex = p.bare.ex := by unfold bareE; rw [okP_ex hok]
  have e2 : bareE p.bare.ex = p.bare.ex := by unfold bareE; rw [okP_ex hb]; exact congrArg Pt.ex (bare_bare p)
  have e3 : wordsE p.ex = p.words := by unfold wordsE; rw [okP_ex hok]
  have e4 : wordsE p.bare.ex = p.bare.words := by unfold wordsE; rw [okP_ex hb]
  rw [e1, e2, e3, e4]
  have hn : p.nodes ≤ 12 := by simp only [Pt.ok, Bool.and_eq_true, decide_eq_true_eq] at hok; exact hok.2.2
  have hl := Pt.words_length p
  refine ⟨bare_wt p, (okE_iff _).2 ⟨_, rfl, hb⟩, rfl, fun ss zs => ?_, bare_plain p (ok_fine hok), bare_words p, by omega, Pt.words_pos _⟩
  unfold ofE
  rw [okP_ex hok, okP_ex hb]
  simp only [Option.bind_some, bare_of]
theorem plain_as {s : ByteArray} (h : plainW s = true) : (s.toList == [97, 115]) = false ∧ (s.toList == [105, 110, 116]) = false ∧ (s.toList == [98, 111, 111, 108]) = false := by
  obtain ⟨h1, h2, h3⟩ := plainW_iff.1 h
  rw [isS, isS, isS]
  exact ⟨decide_eq_false h1, decide_eq_false h2, decide_eq_false h3⟩
/-- What is drawn lies in its box, so does it without types. -/
structure Bt (e b : Ex) (Ae Ab : Option Addr) (c cb n1 n5 : Nat) (An Av : Option Addr) (ss : List ByteArray) (zs : List Int) (w6 W : World) : Prop where
  bel : Below w6.heap.size w6 W
  be : Blk W n1 #[.int .i64 e.kind, .int .i64 e.n, .string e.s, .slice Ae e.kids.length c]
  bb : Blk W n5 #[.int .i64 b.kind, .int .i64 b.n, .string b.s, .slice Ab b.kids.length cb]
  ke : KidsAt W n1 Ae e.kids
  kb : KidsU W n5 Ab b.kids
  sn : SlIs W An (ss.map .string)
  sv : SlIs W Av (zs.map intV)
  n1l : n1 < n5
  n5l : n5 < w6.heap.size
section
variable {e b : Ex} {Ae Ab : Option Addr} {c cb n1 n5 : Nat} {An Av : Option Addr} {ss : List ByteArray} {zs : List Int} {w6 W W' : World}
theorem Bt.below (h : Bt e b Ae Ab c cb n1 n5 An Av ss zs w6 W) (hb : Below W.heap.size W W') : Bt e b Ae Ab c cb n1 n5 An Av ss zs w6 W' := by
  have hz := h.bel.size
  have h1 := h.n1l
  have h2 := h.n5l
  exact ⟨h.bel.trans (hb.mono hz), h.be.stay0 (hb.block _ h.be.lt), h.bb.stay0 (hb.block _ h.bb.lt), h.ke.keep (hb.mono (by omega)), h.kb.keep (hb.mono (by omega)), h.sn.below hb, h.sv.below hb, h1, h2⟩
end

set_option linter.unusedSimpArgs false in
set_option linter.unusedVariables false in
set_option maxRecDepth 100000 in
set_option maxHeartbeats 16000000 in
theorem walk (A : Option Addr) (len cap : Nat) (w : World) (h : InCode w A len cap) (hlaid : LaidW w) :
    Calls Tryz.prog 4 #[.slice A len cap] w fun r w' => r = .returned (.bool true) ∧ Below w.heap.size w w' := by
  by_cases hbig : 1048576 < len
  · have q : decide ((1048576 : Int) < (len : Int)) = true := by simp; omega
    go_enter Tryz.func4, Tryz.ntmps4
    go_wp2_with fail
    go_ret
    exact ⟨rfl, Below.refl _ _⟩
  have q : decide ((1048576 : Int) < (len : Int)) = false := by simp; omega
  have HD := Lib.hid (drawExprOf_any A len cap w h)
  have HL := Lib.hid hlaid
  clear h hlaid
  go_enter Tryz.func4, Tryz.ntmps4
  go_wp2_with fail
  refine HD.out.mono ?_
  rintro r w1 ⟨e, Ae, c, An, Av, cn, cv, ss, zs, rfl, hc, hO, _, hwt, hSN, hSV, hls, hlz, _, hb1⟩
  obtain ⟨W2, hW2⟩ : ∃ W2, W2 = w1.alloc (.cells #[.int .i64 e.kind, .int .i64 e.n, .string e.s, .slice Ae e.kids.length c] 25) := ⟨_, rfl⟩
  have hb2 : Below w1.heap.size w1 W2 := by rw [hW2]; exact (Below.refl _ w1).alloc (Nat.le_refl _) _
  have hs2 : w1.heap.size < W2.heap.size := by rw [hW2]; simp
  have hE2 : Blk W2 w1.heap.size #[.int .i64 e.kind, .int .i64 e.n, .string e.s, .slice Ae e.kids.length c] := by rw [hW2]; exact World.alloc_heap_new w1 _
  have K2 : KidsAt W2 w1.heap.size Ae e.kids := (own_kids e _ _ Ae w1.heap.size hO (Nat.le_refl _)).keep hb2
  have SN2 := hSN.below hb2
  have SV2 := hSV.below hb2
  have HI := Lib.hid (fun (W : World) (hW : Below W2.heap.size W2 W) => exprOf_any e Ae c w1.heap.size An Av cn cv ss zs W (K2.keep (hW.mono (Nat.le_of_lt hs2))) hc (Nat.le_trans (Nat.le_of_lt hs2) hW.size) (by omega) (by omega) (by omega) (SN2.below hW) (SV2.below hW))
  have HM := Lib.hid (fun (W : World) (hW : Below W2.heap.size W2 W) => specExprOf_any e Ae c w1.heap.size An Av cn cv ss zs W (K2.keep (hW.mono (Nat.le_of_lt hs2))) hc (Nat.le_trans (Nat.le_of_lt hs2) hW.size) (by omega) (by omega) (by omega) (SN2.below hW) (SV2.below hW))
  have HBI := Lib.hid (fun (W : World) (hW : Below W2.heap.size W2 W) => exprBare_any e Ae c w1.heap.size W (K2.keep (hW.mono (Nat.le_of_lt hs2))) hc (Nat.le_trans (Nat.le_of_lt hs2) hW.size) (by omega))
  have HB2 := Lib.hid (hb1.trans (hb2.mono hb1.size))
  have HK2 := Lib.hid K2
  have HE2 := Lib.hid hE2
  have HSN2 := Lib.hid SN2
  have HSV2 := Lib.hid SV2
  unfold Comes at HI HM
  obtain ⟨R, hR⟩ : ∃ R, R = ofE e ss zs := ⟨_, rfl⟩
  rw [← hR] at HI HM
  have HR := Lib.hid hR
  clear hR hO hb1 hb2 K2 SN2 SV2 hSN hSV hE2 HD
  go_wp2_with fail
  rw [← hW2]
  clear hW2
  refine (HI.out W2 (Below.refl _ W2)).mono ?_
  rintro r w3 ⟨rfl, hb3⟩
  have hE3 := HE2.out.stay0 (hb3.block _ HE2.out.lt)
  have d0 := hE3.cell 0
  have d1 := hE3.cell 1
  have d2 := hE3.cell 2
  have d3 := hE3.cell 3
  simp only [List.getElem?_toArray, List.getElem?_cons_zero, List.getElem?_cons_succ] at d0 d1 d2 d3
  clear hE3
  go_wp2_with fail
  refine (HM.out w3 hb3).mono ?_
  rintro r w4 ⟨rfl, hb4'⟩
  have hb4 := hb3.trans (hb4'.mono hb3.size)
  clear hb4' hb3 d0 d1 d2 d3
  have hE3 := HE2.out.stay0 (hb4.block _ HE2.out.lt)
  have d0 := hE3.cell 0
  have d1 := hE3.cell 1
  have d2 := hE3.cell 2
  have d3 := hE3.cell 3
  simp only [List.getElem?_toArray, List.getElem?_cons_zero, List.getElem?_cons_succ] at d0 d1 d2 d3
  clear hE3
  go_wp2_with fail
  refine (HBI.out w4 hb4).mono ?_
  rintro r w5 ⟨A5, c5, rfl, hc5, hO5, hb5'⟩
  have hb5 := hb4.trans (hb5'.mono hb4.size)
  obtain ⟨b, hbb⟩ : ∃ b, b = bareE e := ⟨_, rfl⟩
  rw [← hbb] at hO5 hc5 ⊢
  have HBB := Lib.hid hbb
  obtain ⟨W6, hW6⟩ : ∃ W6, W6 = w5.alloc (.cells #[.int .i64 b.kind, .int .i64 b.n, .string b.s, .slice A5 b.kids.length c5] 25) := ⟨_, rfl⟩
  have hb6 : Below w5.heap.size w5 W6 := by rw [hW6]; exact (Below.refl _ w5).alloc (Nat.le_refl _) _
  have hs6 : w5.heap.size < W6.heap.size := by rw [hW6]; simp
  have hb26 := hb5.trans (hb6.mono hb5.size)
  have hz5 : w1.heap.size < w5.heap.size := Nat.lt_of_lt_of_le hs2 hb5.size
  have S : Bt e b Ae A5 c c5 w1.heap.size w5.heap.size An Av ss zs W6 W6 := ⟨Below.refl _ _, HE2.out.stay0 (hb26.block _ HE2.out.lt), by rw [hW6]; exact World.alloc_heap_new w5 _, HK2.out.keep (hb26.mono (Nat.le_of_lt hs2)), (own_kidsU b _ _ _ w5.heap.size hO5 (Nat.le_refl _)).keep hb6, HSN2.out.below hb26, HSV2.out.below hb26, hz5, hs6⟩
  have HB6 := Lib.hid (HB2.out.trans (hb26.mono HB2.out.size))
  have HS := Lib.hid S
  have HS0 := Lib.hid S
  have HBN := Lib.hid (bare_few e)
  rw [← hbb] at HBN
  have HSA := Lib.hid (fun (A1 A2 : Option Addr) (c1 c2 B : Nat) (W : World) (h1 : KidsU W B A1 b.kids) (h2 : KidsU W B A2 b.kids) (h3 : b.kids.length ≤ c1) (h4 : b.kids.length ≤ c2) (h5 : B ≤ W.heap.size) => exprSame_any b b A1 A2 c1 c2 B W h1 h2 h3 h4 h5 HBN.out)
  rw [sameE_self] at HSA
  have HSB := Lib.hid (fun (W : World) (hW : Below W6.heap.size W6 W) => specExprBare_any e Ae c w1.heap.size W ((HS.out.below hW).ke) hc (by have := hW.size; omega) (by omega))
  rw [← hbb] at HSB
  have d0 := S.be.cell 0
  have d1 := S.be.cell 1
  have d2 := S.be.cell 2
  have d3 := S.be.cell 3
  have f0 := S.bb.cell 0
  have f1 := S.bb.cell 1
  have f2 := S.bb.cell 2
  have f3 := S.bb.cell 3
  simp only [List.getElem?_toArray, List.getElem?_cons_zero, List.getElem?_cons_succ] at d0 d1 d2 d3 f0 f1 f2 f3
  have hel := S.be.lt
  have hbl := S.bb.lt
  clear S hO5 hb6 hb26 hb5 hb5' HI HM HBI HE2 HK2 HSN2 HSV2 HB2 hbb
  obtain ⟨n1, hn1⟩ : ∃ n1, n1 = R.getD 0 := ⟨_, rfl⟩
  obtain ⟨b1, hb1'⟩ : ∃ b1, b1 = R.isSome := ⟨_, rfl⟩
  rw [← hn1, ← hb1']
  have HN1 := Lib.hid hn1
  have HB1 := Lib.hid hb1'
  have qb : (b1 != b1) = false := by simp
  have qn : (n1 != n1) = false := by simp
  clear hn1 hb1'
  rw [hW6] at d0 d1 d2 d3 f0 f1 f2 f3
  go_wp2_with fail
  rw [← hW6] at d0 d1 d2 d3 f0 f1 f2 f3 ⊢
  clear hW6
  go_region_held3 (fun w' => w'.cell? ⟨w5.heap.size, 0, none⟩ = some (.int .i64 b.kind) ∧ w'.cell? ⟨w5.heap.size, 1, none⟩ = some (.int .i64 b.n) ∧ w'.cell? ⟨w5.heap.size, 2, none⟩ = some (.string b.s) ∧ w'.cell? ⟨w5.heap.size, 3, none⟩ = some (.slice A5 b.kids.length c5) ∧ w'.cell? ⟨w1.heap.size, 0, none⟩ = some (.int .i64 e.kind) ∧ w'.cell? ⟨w1.heap.size, 1, none⟩ = some (.int .i64 e.n) ∧ w'.cell? ⟨w1.heap.size, 2, none⟩ = some (.string e.s) ∧ w'.cell? ⟨w1.heap.size, 3, none⟩ = some (.slice Ae e.kids.length c) ∧ Below W6.heap.size W6 w')
    (first | exact ⟨f0, f1, f2, f3, d0, d1, d2, d3, (Below.refl _ W6).drew⟩ | exact ⟨(hb8.cell (p := ⟨w5.heap.size, 0, none⟩) hbl).trans f0, (hb8.cell (p := ⟨w5.heap.size, 1, none⟩) hbl).trans f1, (hb8.cell (p := ⟨w5.heap.size, 2, none⟩) hbl).trans f2, (hb8.cell (p := ⟨w5.heap.size, 3, none⟩) hbl).trans f3, (hb8.cell (p := ⟨w1.heap.size, 0, none⟩) hel).trans d0, (hb8.cell (p := ⟨w1.heap.size, 1, none⟩) hel).trans d1, (hb8.cell (p := ⟨w1.heap.size, 2, none⟩) hel).trans d2, (hb8.cell (p := ⟨w1.heap.size, 3, none⟩) hel).trans d3, hb8⟩ | exact ⟨(hb7.cell (p := ⟨w5.heap.size, 0, none⟩) hbl).trans f0, (hb7.cell (p := ⟨w5.heap.size, 1, none⟩) hbl).trans f1, (hb7.cell (p := ⟨w5.heap.size, 2, none⟩) hbl).trans f2, (hb7.cell (p := ⟨w5.heap.size, 3, none⟩) hbl).trans f3, (hb7.cell (p := ⟨w1.heap.size, 0, none⟩) hel).trans d0, (hb7.cell (p := ⟨w1.heap.size, 1, none⟩) hel).trans d1, (hb7.cell (p := ⟨w1.heap.size, 2, none⟩) hel).trans d2, (hb7.cell (p := ⟨w1.heap.size, 3, none⟩) hel).trans d3, hb7⟩)
    (first | (go_at_call 29; refine (HSB.out _ (Below.refl _ W6).drew).mono ?_; rintro r W7 ⟨A7, c7, rfl, hc7, hK7, hb7'⟩; have hb7 : Below W6.heap.size W6 W7 := (Below.refl _ W6).drew.trans hb7'; have HU7 := Lib.hid (hK7.u (B := W7.heap.size) (fun _ h => h.2)); have HV7 := Lib.hid (((HS.out.below hb7).kb).wide (B' := W7.heap.size) (by have := hb7.size; omega)); clear hK7) | (go_at_call 22; refine (HSA.out A5 A7 c5 c7 W7.heap.size W7 HV7.out HU7.out hc5 hc7 (Nat.le_refl _)).mono ?_; rintro r W8 ⟨rfl, hb8'⟩; have hb8 : Below W6.heap.size W6 W8 := hb7.trans (hb8'.mono hb7.size)))
  rename_i hh
  have S := HS.out.below hb8
  clear HSB HV7 HU7 hb7' hb8' d0 d1 d2 d3 f0 f1 f2 f3
  have d0 := S.be.cell 0
  have d1 := S.be.cell 1
  have d2 := S.be.cell 2
  have d3 := S.be.cell 3
  have f0 := S.bb.cell 0
  have f1 := S.bb.cell 1
  have f2 := S.bb.cell 2
  have f3 := S.bb.cell 3
  simp only [List.getElem?_toArray, List.getElem?_cons_zero, List.getElem?_cons_succ] at d0 d1 d2 d3 f0 f1 f2 f3
  have HSO := Lib.hid (specExprOk_any e Ae c w1.heap.size W8 S.ke hc (by have := S.be.lt; omega) (by omega))
  clear S HS
  have HS := Lib.hid (HS0.out.below hb8)
  go_wp2_with fail
  refine HSO.out.mono ?_
  rintro r W9 ⟨rfl, hb9⟩
  have HS9 := Lib.hid (HS.out.below hb9)
  clear HSO hb9 hb8 hb7 d0 d1 d2 d3 f0 f1 f2 f3 HS HS0
  have f0 := HS9.out.bb.cell 0
  have f1 := HS9.out.bb.cell 1
  have f2 := HS9.out.bb.cell 2
  have f3 := HS9.out.bb.cell 3
  simp only [List.getElem?_toArray, List.getElem?_cons_zero, List.getElem?_cons_succ] at f0 f1 f2 f3
  cases hok : okE e
  · obtain ⟨hz, hn⟩ := not_ok hok
    have hR0 : R = none := HR.out.trans (hn ss zs)
    have hn1 : n1 = 0 := by rw [HN1.out, hR0]; rfl
    have hb1 : b1 = false := by rw [HB1.out, hR0]; rfl
    have hbk : b.kind = 0 := by rw [HBB.out, hz]; rfl
    rw [hbk] at f0
    clear HN1 HB1 qn qb HSA HR hok hz hn hR0
    subst hn1
    subst hb1
    go_wp2_with fail
    go_ret
    first | exact ⟨rfl, HB6.out.trans (HS9.out.bel.mono HB6.out.size)⟩ | exact ⟨rfl, (HB6.out.trans (HS9.out.bel.mono HB6.out.size)).drew⟩
  obtain ⟨hbw, hbok, hbbare, hbof, hplain, hlen, hl100, hl1⟩ := bare_all hok
  rw [← HBB.out] at hbw hbok hbbare hbof hplain hlen hl1
  have HOB := Lib.hid (show Calls Tryz.prog 26 #[.agg #[.int .i64 b.kind, .int .i64 b.n, .string b.s, .slice A5 b.kids.length c5], .slice An ss.length cn, .slice Av zs.length cv] W9 (Comes R W9) from (by
    have h := exprOf_any b A5 c5 w5.heap.size An Av cn cv ss zs W9 HS9.out.kb.kids hc5 (by have := HS9.out.bb.lt; omega) (by omega) (by omega) (by omega) HS9.out.sn HS9.out.sv
    rw [hbof, ← HR.out] at h
    exact h))
  unfold Comes at HOB
  rw [← HN1.out, ← HB1.out] at HOB
  have HPL := Lib.hid hplain
  have HWL := Lib.hid hlen
  have HW1 := Lib.hid hl1
  have HW2 := Lib.hid hl100
  clear hbof hplain hlen hl1 hl100
  go_wp2_with fail
  refine HOB.out.mono ?_
  rintro r W10 ⟨rfl, hb10⟩
  have HS10 := Lib.hid (HS9.out.below hb10)
  clear f0 f1 f2 f3
  have f0 := HS10.out.bb.cell 0
  have f1 := HS10.out.bb.cell 1
  have f2 := HS10.out.bb.cell 2
  have f3 := HS10.out.bb.cell 3
  simp only [List.getElem?_toArray, List.getElem?_cons_zero, List.getElem?_cons_succ] at f0 f1 f2 f3
  have HWB := Lib.hid (exprWords_any b A5 c5 w5.heap.size W10 HS10.out.kb.kids hc5 (by have := HS10.out.bb.lt; omega) (by omega) (HL.out.below (HB6.out.trans (HS10.out.bel.mono HB6.out.size))))
  obtain ⟨ws, hws⟩ : ∃ ws, ws = wordsE b := ⟨_, rfl⟩
  rw [← hws] at HWB HPL HWL HW1
  clear hws HOB HS9 hb10
  go_wp2_with fail
  refine HWB.out.mono ?_
  rintro r W11 ⟨v, rfl, hO11, hb11⟩
  have hw1 := HW1.out
  have hw2 : ws.length ≤ 100 := Nat.le_trans HWL.out HW2.out
  obtain ⟨g, wc, rfl, hwc, hg⟩ := hO11.form (by omega)
  have HS11 := Lib.hid (HS10.out.below hb11)
  have HO := Lib.hid hO11
  clear hO11 HWB HS10 f0 f1 f2 f3 hb11
  go_wp2_with fail
  go_loopw [14] (fun i wr => ∃ k : Nat, i = .int .i64 (k : Int) ∧ k ≤ ws.length ∧ Below W11.heap.size W11 wr) (fun i _ => ws.length - (intOf i).toNat)
  case atStart => exact ⟨0, rfl, Nat.zero_le _, Below.refl _ _⟩
  case round =>
    obtain ⟨k, rfl, hk, hbk⟩ := hrel
    by_cases hlt : k < ws.length
    · have cc : wr.cell? ⟨g, k, none⟩ = some (.string ws[k]) := (hbk.cell (p := ⟨g, k, none⟩) hg).trans (by rw [HO.out.cellAt k (by omega)]; simp [strV, hlt])
      have hx : (k : Int) < (ws.length : Int) := by omega
      obtain ⟨y1, y2, y3⟩ := plain_as (HPL.out ws[k] (List.getElem_mem hlt))
      generalize ws[k] = x at *
      go_wp2_with fail
      go_roundw
      case rel => first | exact ⟨k + 1, by go_num, by omega, hbk⟩ | exact ⟨k + 1, by go_num, by omega, hbk.drew⟩
      case measure => simp [intOf]; omega
    · obtain rfl : k = ws.length := by omega
      have S := HS11.out.below hbk
      have HSS := Lib.hid S
      have f0 := S.bb.cell 0
      have f1 := S.bb.cell 1
      have f2 := S.bb.cell 2
      have f3 := S.bb.cell 3
      have d0 := S.be.cell 0
      have d1 := S.be.cell 1
      have d2 := S.be.cell 2
      have d3 := S.be.cell 3
      simp only [List.getElem?_toArray, List.getElem?_cons_zero, List.getElem?_cons_succ] at d0 d1 d2 d3 f0 f1 f2 f3
      have hel := S.be.lt
      have hbl := S.bb.lt
      have qb : (b1 == b1) = true := by simp
      have qn : (n1 == n1) = true := by simp
      obtain ⟨we, hwe⟩ : ∃ we, we = wordsE e := ⟨_, rfl⟩
      have hle : ws.length ≤ we.length := by rw [hwe]; exact HWL.out
      have hle2 : we.length ≤ 100 := by rw [hwe]; exact HW2.out
      have ql : decide ((ws.length : Int) ≤ (we.length : Int)) = true := decide_eq_true (by omega)
      have HOK := Lib.hid (fun (W : World) (hW : Below wr.heap.size wr W) => exprOk_any b A5 c5 w5.heap.size W (HSS.out.below hW).kb.kids hc5 (by have := hW.size; omega) (by omega))
      have HBR := Lib.hid (fun (W : World) (hW : Below wr.heap.size wr W) => exprBare_any b A5 c5 w5.heap.size W (HSS.out.below hW).kb.kids hc5 (by have := hW.size; omega) (by omega))
      have HWE := Lib.hid (fun (W : World) (hW : Below wr.heap.size wr W) => exprWords_any e Ae c w1.heap.size W (HSS.out.below hW).ke hc (by have := hW.size; omega) (by omega) (HL.out.below (HB6.out.trans ((HSS.out.below hW).bel.mono HB6.out.size))))
      rw [← hwe] at HWE
      rw [hbok] at HOK
      rw [hbbare] at HBR
      have HBX := Lib.hid (fun (W : World) (hW : Below wr.heap.size wr W) => HB6.out.trans ((HSS.out.below hW).bel.mono HB6.out.size))
      have HKB := Lib.hid (fun (W : World) (hW : Below wr.heap.size wr W) => ((HSS.out.below hW).kb).wide (B' := W.heap.size) (by have := hW.size; omega))
      clear S HSS hwe HS11 HWL HW2 HPL hbok hbbare
      go_wp2_with fail
      go_region_held3 (fun w' => w'.cell? ⟨w5.heap.size, 0, none⟩ = some (.int .i64 b.kind) ∧ w'.cell? ⟨w5.heap.size, 1, none⟩ = some (.int .i64 b.n) ∧ w'.cell? ⟨w5.heap.size, 2, none⟩ = some (.string b.s) ∧ w'.cell? ⟨w5.heap.size, 3, none⟩ = some (.slice A5 b.kids.length c5) ∧ w'.cell? ⟨w1.heap.size, 0, none⟩ = some (.int .i64 e.kind) ∧ w'.cell? ⟨w1.heap.size, 1, none⟩ = some (.int .i64 e.n) ∧ w'.cell? ⟨w1.heap.size, 2, none⟩ = some (.string e.s) ∧ w'.cell? ⟨w1.heap.size, 3, none⟩ = some (.slice Ae e.kids.length c) ∧ Below wr.heap.size wr w')
        (first | exact ⟨f0, f1, f2, f3, d0, d1, d2, d3, (Below.refl _ wr).drew⟩ | exact ⟨(hb15.cell (p := ⟨w5.heap.size, 0, none⟩) hbl).trans f0, (hb15.cell (p := ⟨w5.heap.size, 1, none⟩) hbl).trans f1, (hb15.cell (p := ⟨w5.heap.size, 2, none⟩) hbl).trans f2, (hb15.cell (p := ⟨w5.heap.size, 3, none⟩) hbl).trans f3, (hb15.cell (p := ⟨w1.heap.size, 0, none⟩) hel).trans d0, (hb15.cell (p := ⟨w1.heap.size, 1, none⟩) hel).trans d1, (hb15.cell (p := ⟨w1.heap.size, 2, none⟩) hel).trans d2, (hb15.cell (p := ⟨w1.heap.size, 3, none⟩) hel).trans d3, hb15⟩ | exact ⟨(hb14.cell (p := ⟨w5.heap.size, 0, none⟩) hbl).trans f0, (hb14.cell (p := ⟨w5.heap.size, 1, none⟩) hbl).trans f1, (hb14.cell (p := ⟨w5.heap.size, 2, none⟩) hbl).trans f2, (hb14.cell (p := ⟨w5.heap.size, 3, none⟩) hbl).trans f3, (hb14.cell (p := ⟨w1.heap.size, 0, none⟩) hel).trans d0, (hb14.cell (p := ⟨w1.heap.size, 1, none⟩) hel).trans d1, (hb14.cell (p := ⟨w1.heap.size, 2, none⟩) hel).trans d2, (hb14.cell (p := ⟨w1.heap.size, 3, none⟩) hel).trans d3, hb14⟩ | exact ⟨(hb13.cell (p := ⟨w5.heap.size, 0, none⟩) hbl).trans f0, (hb13.cell (p := ⟨w5.heap.size, 1, none⟩) hbl).trans f1, (hb13.cell (p := ⟨w5.heap.size, 2, none⟩) hbl).trans f2, (hb13.cell (p := ⟨w5.heap.size, 3, none⟩) hbl).trans f3, (hb13.cell (p := ⟨w1.heap.size, 0, none⟩) hel).trans d0, (hb13.cell (p := ⟨w1.heap.size, 1, none⟩) hel).trans d1, (hb13.cell (p := ⟨w1.heap.size, 2, none⟩) hel).trans d2, (hb13.cell (p := ⟨w1.heap.size, 3, none⟩) hel).trans d3, hb13⟩ | exact ⟨(hb12.cell (p := ⟨w5.heap.size, 0, none⟩) hbl).trans f0, (hb12.cell (p := ⟨w5.heap.size, 1, none⟩) hbl).trans f1, (hb12.cell (p := ⟨w5.heap.size, 2, none⟩) hbl).trans f2, (hb12.cell (p := ⟨w5.heap.size, 3, none⟩) hbl).trans f3, (hb12.cell (p := ⟨w1.heap.size, 0, none⟩) hel).trans d0, (hb12.cell (p := ⟨w1.heap.size, 1, none⟩) hel).trans d1, (hb12.cell (p := ⟨w1.heap.size, 2, none⟩) hel).trans d2, (hb12.cell (p := ⟨w1.heap.size, 3, none⟩) hel).trans d3, hb12⟩)
        (first | (go_at_call 19; refine (HOK.out _ (Below.refl _ wr).drew).mono ?_; rintro r W12 ⟨rfl, hb12'⟩; have hb12 : Below wr.heap.size wr W12 := (Below.refl _ wr).drew.trans hb12') | (go_at_call 28; ((with_reducible refine (HBR.out W12 hb12).mono ?_); rintro r W13 ⟨A13, c13, rfl, hc13, hO13, hb13'⟩; have hb13 : Below wr.heap.size wr W13 := hb12.trans (hb13'.mono hb12.size); have HU1 := Lib.hid (own_kidsU b _ _ A13 W13.heap.size hO13 (Nat.le_refl _)); clear hO13)) | (go_at_call 22; refine (HSA.out A13 A5 c13 c5 W13.heap.size W13 HU1.out (HKB.out W13 hb13) hc13 hc5 (Nat.le_refl _)).mono ?_; rintro r W14 ⟨rfl, hb14'⟩; have hb14 : Below wr.heap.size wr W14 := hb13.trans (hb14'.mono hb13.size)) | (go_at_call 15; ((with_reducible refine (HWE.out W14 hb14).mono ?_); rintro r W15 ⟨v15, rfl, hO15, hb15'⟩; have hb15 : Below wr.heap.size wr W15 := hb14.trans (hb15'.mono hb14.size); obtain ⟨g15, wc15, rfl, hwc15, hg15⟩ := hO15.form (by omega); clear hO15)))
      rename_i hh
      go_wp2_with fail
      go_ret
      exact ⟨rfl, HBX.out _ hb15⟩

set_option linter.unusedVariables false in
set_option maxRecDepth 100000 in
theorem lifted (os : Os) (started : os.Started) (H : Type) (enc : TypeId × Value → H) :
    ReturnsInHanded {} Tryz.checked os 4 .any (fun w args => (Rows.fnExprBareSpec.pre enc Tryz.prog Tryz.f4 [] false w args ∧ laidMetH Tryz.prog laidL w) ∧ sizedMet enc Tryz.prog Tryz.f4 (OpenSpec.ofChange Rows.fnExprBareSpec) false w args)
      (Rows.fnExprBareSpec.post enc Tryz.prog Tryz.f4 false true false false) := by
  refine returnsInHanded_of_change_and (C := Tryz.checked) (X := fun w _ => laidMetH Tryz.prog laidL w) (fun _ _ _ hh h => h.of_heap hh) own started (by kernel_rfl) Tryz.func4
    (ChangeSpec.witness_shaped (enc := enc) (C := Tryz.checked) (os := os) (X := fun w _ => laidMetH Tryz.prog laidL w) false (World.doorLaid Tryz.prog 62 os) #[.slice none 0 0] 8 rfl (World.shaped_of_RefB (by kernel_rfl) (by kernel_rfl)) (by kernel_rfl) (by kernel_rfl) (by kernel_rfl) (door_met os _)) ?_
  intro W base args ds gs before hval0 hW _ _ hL _
  have hval : ∀ (j : Nat) t v, Tryz.f4.params[j]? = some t → args[j]? = some v → Value.okWide Tryz.prog W .any base t v := hval0
  have hW' := hW
  obtain ⟨p, q, hA0, hV, rfl, hfz, hnd⟩ := hW
  have hA : DataW.TrodAll enc Tryz.prog W 0 (fun _ => true) true Tryz.f4.params.toList args.toList ds p := hA0
  rw [Tryz.params4] at hA hval
  obtain ⟨v0, vs0, d0, ds0, p0, q0, hargs, rfl, rfl, h0, r0⟩ := trodAll_cons hA
  obtain ⟨rfl, rfl, rfl⟩ := trodAll_nil r0
  obtain rfl : args = #[v0] := by cases args; simp_all
  obtain ⟨rfl, rfl⟩ := trodVars_none hV
  have k0 := h0
  have lt0 : ∀ x ∈ p0, x.block < W.heap.size := by obtain ⟨m, hm⟩ := k0; exact DataW.trod_lt m _ _ _ hm
  obtain ⟨a0, len0, cap0, e0⟩ := okWide_slice Tryz.underlying22 (hval 0 22 v0 rfl rfl)
  subst e0
  have w0 : InCode W a0 len0 cap0 := by
    obtain ⟨fuel, hf⟩ := h0
    rcases open_ints Tryz.underlying22 Tryz.underlying5 (by kernel_rfl) hf with ⟨hcs, _⟩ | ⟨x, l, c, zs, hcs, _, hl, hm, hz, _, hcell, hwz⟩
    · simp [Value.cells] at hcs
      obtain ⟨rfl, rfl, rfl⟩ := hcs
      exact inCode_nil W
    · simp [Value.cells] at hcs
      obtain ⟨rfl, rfl, rfl⟩ := hcs
      exact inCode_of hl hm (by simpa using hz) hcell hwz
  clear hA0 hval0
  refine (walk a0 len0 cap0 W w0 (of_laid hL)).mono fun e W' ⟨he, bel⟩ => ?_
  subst he
  exact ⟨_, rfl, _, _, _, [], _, [], hW', trodAll_mk1 (shut_bool Tryz.underlying4 _), (trodAll_cons_mk (Below.trod laidOut (by kernel_rfl) (of_decide_eq_true (by kernel_rfl)) k0 bel lt0) trodAll_mk0), rfl, bel.frame _, fun h => by cases h⟩

theorem over : Rows.fnExprBareRow.holds Tryz.pinned (OpenSpec.ofChange Rows.fnExprBareSpec) :=
  OpenClaim.holds_of_wide 4 Tryz.f4 rfl rfl rfl rfl rfl rfl rfl ⟨rfl, rfl, rfl, rfl, rfl⟩ rfl rfl rfl rfl rfl (by kernel_rfl) Tryz.func4 (by kernel_rfl)
    (of_decide_eq_true (by kernel_rfl)) (by unfold Func.isWrapper; first | (rw [if_pos (by decide +kernel)]; kernel_rfl) | (rw [if_neg (by decide +kernel)]; exact ⟨rfl, rfl⟩))
    (fun os started H enc _ => lifted os started H enc)
end Go.Proofs.YtggdlldagaggiaaGreatDoor.fnExprBare
namespace Go.Proofs.YtggdlldagaggiaaGreatDoor

/-- The given statement. -/
theorem fnExprBare_proved : Rows.FnExprBareCardSaid :=
  Claim7.holds_tied_plain_at .later [] [.data, .data, .data, .sentinel, .sentinel] true (true, "1ba372455362d8308537e50782232f5108dfa5218fd8276efa2f30edc5358766") true
    fnExprBare.over (fun _ h => by cases h) (by kernel_rfl) (fun _ h => by cases h) fnExprBare_row_tie rfl ⟨rfl, rfl⟩ (by kernel_rfl) rfl
    (fun f fn hf hfn => by
      obtain rfl : f = 4 := Option.some.inj ((show Tryz.prog.funcNamed "loop.example/interlinear/laws.FnExprBare" = some 4 by kernel_rfl).symm.trans hf) |>.symm
      obtain rfl : fn = Tryz.f4 := (Option.some.inj (Tryz.func4.symm.trans hfn)).symm
      exact ⟨by kernel_rfl, fun j t ht => by
        rw [Tryz.params4] at ht
        have hm : t ∈ [22] := by simpa using Array.mem_of_getElem? ht
        have hall : ([22].all fun u => !Tryz.prog.wantsStandIn u) = true := by kernel_rfl
        exact (show Tryz.prog.wantsStandIn t = false by simpa using List.all_eq_true.1 hall t hm)⟩)
    (by kernel_rfl)
#print axioms fnExprBare_proved
end Go.Proofs.YtggdlldagaggiaaGreatDoor
