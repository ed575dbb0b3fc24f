/-
  'laws.FnExprLeft' returns true at every two codes.
  Conditions: the library's variables hold what their initialisers lay (tied to the program's text); every two slices of bytes.
-/
import Derived.Test.YtggdlldagaggiaaGreatDoorMethOf
import Derived.Test.YtggdlldagaggiaaGreatDoorDrawOf
import Derived.Test.YtggdlldagaggiaaGreatDoorExprRead
import Derived.Test.YtggdlldagaggiaaGreatDoorExprWords
import Derived.Test.YtggdlldagaggiaaGreatDoorSpecWords5
import Derived.Test.YtggdlldagaggiaaGreatDoorJoinTok
import Derived.Test.YtggdlldagaggiaaGreatDoorExprSame
import Derived.Test.YtggdlldagaggiaaGreatDoorExLaws
import Derived.Test.YtggdlldagaggiaaGreatDoorDecimal
import Derived.LaidMore
import Derived.Stop.Joined
import Derived.Stop.LaidErr
import Derived.Lib.LaidTab
import Derived.Test.YtggdlldagaggiaaGreatDoorCards
import Derived.Test.YtggdlldagaggiaaGreatDoorTie
import Derived.Test.YtggdlldagaggiaaGreatDoorRows
import Derived.WalkKit
import Derived.BigGuardPart
import Derived.ProofKit
import Derived.OpenShut
import Derived.ShutString
import Derived.ChangeOld
import Derived.Below
import Derived.Lib.SmallJoins
import Derived.SliceStrings
namespace Go.Proofs.YtggdlldagaggiaaGreatDoor
open Go.ChangeShapes Go.WideShapes Go.ChangeAt Go.WideMaps Go.WideElems Go.RowKit

def laidL : List (String × DataW Unit) := [("math/bits.deBruijn32tab", Rows.laid_math_bits_deBruijn32tab), ("math/bits.deBruijn64tab", Rows.laid_math_bits_deBruijn64tab), ("internal/strconv.uint64pow10", Rows.laid_internal_strconv_uint64pow10), ("strconv.ErrRange", Rows.laid_strconv_ErrRange), ("strconv.ErrSyntax", Rows.laid_strconv_ErrSyntax)]
theorem door_met (os : Os) (args : Array Value) : laidMetH Tryz.prog laidL ((World.doorLaid Tryz.prog 62 os).forCall (fun _ _ => 0) ⟨#[], args, []⟩).memory :=
  laidMetH_of_parts3 (fuel := 8) (laidMet_of_run' 8 (by kernel_rfl) (by kernel_rfl)) (by kernel_rfl) (by kernel_rfl)

theorem gTab : Tryz.prog.globalNamed "internal/strconv.uint64pow10" = some 3 := by kernel_rfl
theorem gTabType : (Tryz.prog.globals[3]?).map (·.type) = some 169 := by kernel_rfl
theorem gRng : Tryz.prog.globalNamed "strconv.ErrRange" = some 2 := by kernel_rfl
theorem gRngType : (Tryz.prog.globals[2]?).map (·.type) = some 105 := by kernel_rfl
theorem gSyn : Tryz.prog.globalNamed "strconv.ErrSyntax" = some 1 := by kernel_rfl
theorem gSynType : (Tryz.prog.globals[1]?).map (·.type) = some 105 := by kernel_rfl
theorem cellsU64 : Tryz.prog.cellsOf 149 = 1 := by kernel_rfl
theorem cellsTab : Tryz.prog.cellsOf 169 = 20 := by kernel_rfl
theorem cellsErr : Tryz.prog.cellsOf 167 = 1 := by kernel_rfl
theorem cellsStr : Tryz.prog.cellsOf 9 = 1 := by kernel_rfl
theorem star : "*" ++ "errors.errorString" = "*errors.errorString" := by decide
theorem rowErr (u : TypeId) (h : Tryz.prog.typeName? 3 u = some "*errors.errorString") : u = 165 :=
  typeName_ptr_named (nm := "errors.errorString") (by rw [star]; kernel_rfl) (by kernel_rfl) (by decide) u (by rw [star]; exact h)

/-- What the condition gives the walks. -/
theorem of_laid {W : World} (h : laidMetH Tryz.prog laidL W) : LaidW W := by
  rw [MakeChecks.laidMetH_plain _ _ _ (by kernel_rfl)] at h
  have h3 := h.tail.tail
  have h4 := h3.tail
  have h5 := h4.tail
  obtain ⟨a, _, ha, _⟩ := laid_sentinel h4 gRng gRngType Tryz.underlying105 rowErr Tryz.underlying165 Tryz.underlying167 rfl rfl Tryz.underlying9 cellsErr cellsStr
  obtain ⟨b, _, hb, _⟩ := laid_sentinel h5 gSyn gSynType Tryz.underlying105 rowErr Tryz.underlying165 Tryz.underlying167 rfl rfl Tryz.underlying9 cellsErr cellsStr
  exact ⟨Lib.tabIs_of_head (zs := Lib.pow10Tab) gTab gTabType Tryz.underlying169 Tryz.underlying149 cellsU64 cellsTab h3, ⟨_, _, ha⟩, ⟨_, _, hb⟩⟩

theorem own : ownKnob Tryz.prog.godebug = none := by kernel_rfl
theorem laidOut : laidOutB Tryz.prog = true := by kernel_rfl
end Go.Proofs.YtggdlldagaggiaaGreatDoor

namespace Go.Proofs.YtggdlldagaggiaaGreatDoor.fnExprLeft
open Go.ChangeShapes Go.WideShapes Go.ChangeAt Go.RowKit Go.Joins
open Go.ChangeMaps (open_string shut_string)


theorem left_read {ws : List ByteArray} {w w' : World} {r : Ending} (h : Reads ws w r w') {s : ByteArray} {p q : Pt} (hl : ws.length ≤ 40) (hok : (Pt.two s p q).ok = true) (hw : (Pt.two s p q).words = ws) :
    ∃ A c, r = .returned (.tuple #[.agg #[.int .i64 3, .int .i64 0, .string s, .slice A 2 c], .bool true]) ∧ 2 ≤ c ∧ OwnE w' (Pt.two s p q).ex w.heap.size w'.heap.size A ∧ Below w.heap.size w w' := by
  rcases h with ⟨p', A, c, ⟨_, _, _, hu⟩, h1, h2, h3, h4⟩ | ⟨hn, _⟩
  · have e := hu _ hok hw
    subst e
    exact ⟨A, c, h1, h2, h3, h4⟩
  · exact absurd hw (hn hl _ hok)
def leftP (x y : Int) : Pt := .two ⟨#[45]⟩ (.two ⟨#[45]⟩ (.num x) (.num y)) (.num 3)
def leftQ (x y : Int) : Pt := .two ⟨#[45]⟩ (.num x) (.two ⟨#[42]⟩ (.num y) (.num 3))
def leftR (x y : Int) : Pt := .two ⟨#[45]⟩ (.num x) (.two ⟨#[45]⟩ (.num y) (.num 3))
theorem hold45 : hold ⟨#[45]⟩ = 2 := by decide
theorem hold42 : hold ⟨#[42]⟩ = 3 := by decide
theorem dec3 : decS 3 = ⟨#[51]⟩ := by
  have h : Lib.decDigits 3 = [51] := by rw [Lib.decDigits]; rfl
  show ByteArray.mk (Lib.decDigits 3).toArray = _
  rw [h]
theorem left_ok {x y : Int} (hx : 0 ≤ x ∧ x ≤ 9) (hy : 0 ≤ y ∧ y ≤ 9) : (leftP x y).ok = true ∧ (leftQ x y).ok = true ∧ (leftR x y).ok = true := by
  refine ⟨?_, ?_, ?_⟩ <;> simp [leftP, leftQ, leftR, Pt.ok, Pt.fine, Pt.depth, Pt.nodes, hold45, hold42] <;> omega
theorem left_words (x y : Int) : (leftP x y).words = [decS x, ⟨#[45]⟩, decS y, ⟨#[45]⟩, ⟨#[51]⟩] ∧ (leftQ x y).words = [decS x, ⟨#[45]⟩, decS y, ⟨#[42]⟩, ⟨#[51]⟩] ∧ (leftR x y).words = [decS x, ⟨#[45]⟩, ⟨#[40]⟩, decS y, ⟨#[45]⟩, ⟨#[51]⟩, ⟨#[41]⟩] := by
  refine ⟨?_, ?_, ?_⟩ <;> simp [leftP, leftQ, leftR, Pt.words, Pt.lvl, wrapW, hold45, hold42, dec3, sLp, sRp]
theorem left_of {x y : Int} (hx : 0 ≤ x ∧ x ≤ 9) (hy : 0 ≤ y ∧ y ≤ 9) {ss : List ByteArray} {zs : List Int} (hl : ss.length = zs.length) : ofE (leftP x y).ex ss zs = some (x - y - 3) ∧ ofE (leftQ x y).ex ss zs = some (x - y * 3) ∧ ofE (leftR x y).ex ss zs = some (x - y + 3) := by
  obtain ⟨h1, h2, h3⟩ := left_ok hx hy
  have m1 : ∀ a b : Int, twoN ⟨#[45]⟩ a b = cutN (a - b) := fun a b => rfl
  have m2 : ∀ a b : Int, twoN ⟨#[42]⟩ a b = cutN (a * b) := fun a b => rfl
  refine ⟨?_, ?_, ?_⟩ <;> unfold ofE <;> rw [if_pos hl]
  · rw [okP_ex h1]; simp [leftP, Pt.of, m1]; unfold cutN; omega
  · rw [okP_ex h2]; simp [leftQ, Pt.of, m1, m2]; unfold cutN; omega
  · rw [okP_ex h3]; simp [leftR, Pt.of, m1]; unfold cutN; omega
theorem left_wt (x y : Int) : (leftP x y).ex.wt ≤ 100 ∧ (leftQ x y).ex.wt ≤ 100 ∧ (leftR x y).ex.wt ≤ 100 := by
  refine ⟨?_, ?_, ?_⟩ <;> simp only [leftP, leftQ, leftR, Pt.ex, Ex.wt, Ex.wts] <;> decide
theorem num_words {x : Int} (hx : 0 ≤ x ∧ x ≤ 9) : wordsE (.mk 1 x ByteArray.empty []) = [decS x] := by
  have h : (Pt.num x).ok = true := by simp [Pt.ok, Pt.fine, Pt.depth, Pt.nodes]; omega
  unfold wordsE
  rw [show Ex.mk 1 x ByteArray.empty [] = (Pt.num x).ex from rfl, okP_ex h]
  rfl
theorem at_new (V : World) (o : Obj) {k : Nat} (h : k = V.heap.size) : (V.alloc o).heap[k]? = some o := by rw [h]; exact World.alloc_heap_new V o
theorem _root_.Go.Proofs.YtggdlldagaggiaaGreatDoor.Blk.stay0 {w w' : World} {g : Nat} {cur : Array Value} (h : Blk w g cur) (hb : w'.heap[g]? = w.heap[g]?) : Blk w' g cur := hb.trans h
theorem join_one (s : ByteArray) : joinK [s] 1 = s := by
  have e : joinK [s] 1 = joinK [s] 0 ++ s := by simp [joinK]
  rw [e]
  show ByteArray.empty ++ s = s
  simp

set_option linter.unusedSimpArgs false in
set_option linter.unusedVariables false in
set_option maxRecDepth 100000 in
set_option maxHeartbeats 16000000 in
theorem walk (A : Option Addr) (len cap : Nat) (A' : Option Addr) (len' cap' : Nat) (w : World) (h1 : InCode w A len cap) (h2 : InCode w A' len' cap') (hlaid : LaidW w) :
    Calls Tryz.prog 10 #[.slice A len cap, .slice A' len' cap'] w fun r w' => r = .returned (.bool true) ∧ Below w.heap.size w w' := by
  by_cases hl1 : 1048576 < len
  · have q1 : decide ((1048576 : Int) < (len : Int)) = true := by simp; omega
    clear h1 h2
    go_enter Tryz.func10, Tryz.ntmps10
    go_wp2_with fail
    go_ret
    exact ⟨rfl, Below.refl _ _⟩
  have q1 : decide ((1048576 : Int) < (len : Int)) = false := by simp; omega
  by_cases hl2 : 1048576 < len'
  · have q2 : decide ((1048576 : Int) < (len' : Int)) = true := by simp; omega
    clear h1 h2
    go_enter Tryz.func10, Tryz.ntmps10
    go_wp2_with fail
    go_ret
    exact ⟨rfl, Below.refl _ _⟩
  have q2 : decide ((1048576 : Int) < (len' : Int)) = false := by simp; omega
  have H1 := Lib.hid h1
  have HL := Lib.hid hlaid
  clear h1 h2 hlaid
  go_enter Tryz.func10, Tryz.ntmps10
  go_wp2_with fail
  refine (drawExprOf_any A len cap w H1.out).mono ?_
  rintro r w1 ⟨e, Ae, c, An, Av, cn, cv, ss, zs, rfl, hc, hO, _, hwt, hSN, hSV, hls, hlz, _, hb1⟩
  have HSN := Lib.hid hSN
  have HSV := Lib.hid hSV
  have HB1 := Lib.hid hb1
  clear hO hSN hSV hb1 hwt H1
  go_wp2_with fail
  have hx0 : 0 ≤ (len : Int) % 10 := by omega
  have hx1 : (len : Int) % 10 ≤ 9 := by omega
  have hy0 : 0 ≤ (len' : Int) % 10 := by omega
  have hy1 : (len' : Int) % 10 ≤ 9 := by omega
  generalize (len : Int) % 10 = x at *
  generalize (len' : Int) % 10 = y at *
  have hx := And.intro hx0 hx1
  have hy := And.intro hy0 hy1
  obtain ⟨Z, hZ⟩ : ∃ Z, Z = (((w1.alloc (.cells #[.int .i64 e.kind, .int .i64 e.n, .string e.s, .slice Ae e.kids.length c] 25)).alloc (.cells #[.int .i64 1, .int .i64 x, .string { data := #[] }, .slice none 0 0] 25)).alloc (.cells #[.int .i64 1, .int .i64 y, .string { data := #[] }, .slice none 0 0] 25)).alloc (.cells #[.int .i64 1, .int .i64 3, .string { data := #[] }, .slice none 0 0] 25) := ⟨_, rfl⟩
  rw [← hZ]
  have hs4 : Z.heap.size = w1.heap.size + 1 + 1 + 1 + 1 := by rw [hZ]; simp
  have hbZ : Below w1.heap.size w1 Z := by rw [hZ]; exact ((((Below.refl _ w1).alloc (Nat.le_refl _) _).alloc (by simp) _).alloc (by simp; omega) _).alloc (by simp; omega) _
  have up : ∀ (V : World) (o : Obj) (k : Nat), k < V.heap.size → (V.alloc o).heap[k]? = V.heap[k]? := fun V o k hk => Below.heap_alloc V o k hk
  have HA := Lib.hid (show Blk Z (w1.heap.size + 1) #[.int .i64 1, .int .i64 x, .string { data := #[] }, .slice none 0 0] by unfold Blk; rw [hZ, up _ _ _ (by simp only [World.size_alloc]; omega), up _ _ _ (by simp only [World.size_alloc]; omega)]; exact at_new _ _ (by simp only [World.size_alloc]))
  have HBb := Lib.hid (show Blk Z (w1.heap.size + 1 + 1) #[.int .i64 1, .int .i64 y, .string { data := #[] }, .slice none 0 0] by unfold Blk; rw [hZ, up _ _ _ (by simp only [World.size_alloc]; omega)]; exact at_new _ _ (by simp only [World.size_alloc]))
  have HCc := Lib.hid (show Blk Z (w1.heap.size + 1 + 1 + 1) #[.int .i64 1, .int .i64 3, .string { data := #[] }, .slice none 0 0] by unfold Blk; rw [hZ]; exact at_new _ _ (by simp only [World.size_alloc]))
  have HBZ := Lib.hid (HB1.out.trans (hbZ.mono HB1.out.size))
  have HSNZ := Lib.hid (HSN.out.below hbZ)
  have HSVZ := Lib.hid (HSV.out.below hbZ)
  have HWA := Lib.hid (fun (V : World) (hV : Below Z.heap.size Z V) => show Calls Tryz.prog 15 #[.agg #[.int .i64 1, .int .i64 x, .string { data := #[] }, .slice none 0 0]] V (Wordy [decS x] V) from (by have h := exprWords_any (.mk 1 x ByteArray.empty []) none 0 0 V .nil (Nat.le_refl _) (Nat.zero_le _) (by simp [Ex.wt, Ex.wts]) (HL.out.below (HBZ.out.trans (hV.mono HBZ.out.size))); rw [num_words hx] at h; exact h))
  have HWB := Lib.hid (fun (V : World) (hV : Below Z.heap.size Z V) => show Calls Tryz.prog 15 #[.agg #[.int .i64 1, .int .i64 y, .string { data := #[] }, .slice none 0 0]] V (Wordy [decS y] V) from (by have h := exprWords_any (.mk 1 y ByteArray.empty []) none 0 0 V .nil (Nat.le_refl _) (Nat.zero_le _) (by simp [Ex.wt, Ex.wts]) (HL.out.below (HBZ.out.trans (hV.mono HBZ.out.size))); rw [num_words hy] at h; exact h))
  have HWS := Lib.hid (fun (V : World) (hV : Below Z.heap.size Z V) => show Calls Tryz.prog 16 #[.agg #[.int .i64 1, .int .i64 x, .string { data := #[] }, .slice none 0 0]] V (Wordy [decS x] V) from (by have h := specExprWords_any (.mk 1 x ByteArray.empty []) none 0 0 V .nil (Nat.le_refl _) (Nat.zero_le _) (by simp [Ex.wt, Ex.wts]); rw [num_words hx] at h; exact h))
  have hdx : (decS x).size ≤ 7 := by have := decL_length (decS_dec (n := x) (by omega)); rwa [L_length] at this
  have hdy : (decS y).size ≤ 7 := by have := decL_length (decS_dec (n := y) (by omega)); rwa [L_length] at this
  have HTX := Lib.hid (fun (A0 : Option Addr) (c0 : Nat) (V : World) (hc0 : 1 ≤ c0) (hV : SlIs V A0 ([decS x].map strV)) => show Calls Tryz.prog 17 #[.slice A0 1 c0] V (fun r w' => r = .returned (.string (decS x)) ∧ Below V.heap.size V w') from (by have h := tokText_any A0 c0 [decS x] V (by simp [tot]; omega) hc0 hV; rw [show joinK [decS x] [decS x].length = decS x from join_one _] at h; exact h))
  have HTY := Lib.hid (fun (A0 : Option Addr) (c0 : Nat) (V : World) (hc0 : 1 ≤ c0) (hV : SlIs V A0 ([decS y].map strV)) => show Calls Tryz.prog 17 #[.slice A0 1 c0] V (fun r w' => r = .returned (.string (decS y)) ∧ Below V.heap.size V w') from (by have h := tokText_any A0 c0 [decS y] V (by simp [tot]; omega) hc0 hV; rw [show joinK [decS y] [decS y].length = decS y from join_one _] at h; exact h))
  have HTS := Lib.hid (fun (A0 : Option Addr) (c0 : Nat) (V : World) (hV : SlIs V A0 ([decS x].map strV)) => show Calls Tryz.prog 18 #[.slice A0 1 c0] V (fun r w' => r = .returned (.string (decS x)) ∧ V = w') from (by have h := specTokText_any A0 c0 [decS x] V (by simp [tot]; omega) hV; rw [show joinK [decS x] [decS x].length = decS x from join_one _] at h; exact h))
  have HLO := Lib.hid (left_ok hx hy)
  have HLW := Lib.hid (left_words x y)
  have HLF := Lib.hid (fun (hl : ss.length = zs.length) => left_of hx hy (ss := ss) (zs := zs) hl)
  have HLT := Lib.hid (left_wt x y)
  have HRD := Lib.hid (fun (A0 : Option Addr) (c0 : Nat) (ws : List ByteArray) (V : World) (hV : Below Z.heap.size Z V) (hS : SlIs V A0 (ws.map strV)) (hsm : ∀ s ∈ ws, s.size ≤ 2 ^ 40) (hf : ws.length ≤ 2 ^ 30) => exprRead_any A0 c0 ws V hS (HL.out.below (HBZ.out.trans (hV.mono HBZ.out.size))) hsm hf)
  obtain ⟨dx, hdxe⟩ : ∃ dx, dx = decS x := ⟨_, rfl⟩
  obtain ⟨dy, hdye⟩ : ∃ dy, dy = decS y := ⟨_, rfl⟩
  rw [← hdxe] at HWA HWS HTX HTS HLW hdx
  rw [← hdye] at HWB HTY HLW hdy
  have qd : (!dx.toList == dx.toList) = false := by simp
  clear hZ hbZ hdxe hdye up HSN HSV HB1
  refine (HWA.out Z (Below.refl _ Z)).mono ?_
  rintro r w2 ⟨v2, rfl, hO2, hb2⟩
  obtain ⟨A2, c2, rfl, hc2⟩ := own_slice hO2
  have HT2 := Lib.hid (HTX.out A2 c2 w2 hc2 (SlIs.own hO2))
  clear hO2
  simp only [List.length_singleton] at hc2 ⊢
  go_wp2_with fail
  refine HT2.out.mono ?_
  rintro r w3 ⟨rfl, hb3'⟩
  have hb3 := hb2.trans (hb3'.mono hb2.size)
  have hBb3 := HBb.out.stay0 (hb3.block _ HBb.out.lt)
  have y0 := hBb3.cell 0
  have y1 := hBb3.cell 1
  have y2 := hBb3.cell 2
  have y3 := hBb3.cell 3
  simp only [List.getElem?_toArray, List.getElem?_cons_zero, List.getElem?_cons_succ] at y0 y1 y2 y3
  clear hb3' hb2 HT2 hBb3
  go_wp2_with fail
  refine (HWB.out w3 hb3).mono ?_
  rintro r w4 ⟨v4, rfl, hO4, hb4'⟩
  have hb4 := hb3.trans (hb4'.mono hb3.size)
  obtain ⟨A4, c4, rfl, hc4⟩ := own_slice hO4
  have HT4 := Lib.hid (HTY.out A4 c4 w4 hc4 (SlIs.own hO4))
  clear hO4 hb4' hb3 y0 y1 y2 y3
  simp only [List.length_singleton] at hc4 ⊢
  go_wp2_with fail
  refine HT4.out.mono ?_
  rintro r w5 ⟨rfl, hb5'⟩
  have hb5 := hb4.trans (hb5'.mono hb4.size)
  have hA5 := HA.out.stay0 (hb5.block _ HA.out.lt)
  have x0 := hA5.cell 0
  have x1 := hA5.cell 1
  have x2 := hA5.cell 2
  have x3 := hA5.cell 3
  simp only [List.getElem?_toArray, List.getElem?_cons_zero, List.getElem?_cons_succ] at x0 x1 x2 x3
  clear hb5' hb4 HT4 hA5
  go_wp2_with fail
  refine (HWS.out w5 hb5).mono ?_
  rintro r w6 ⟨v6, rfl, hO6, hb6'⟩
  have hb6 := hb5.trans (hb6'.mono hb5.size)
  obtain ⟨A6, c6, rfl, hc6⟩ := own_slice hO6
  have HT6 := Lib.hid (HTS.out A6 c6 w6 (SlIs.own hO6))
  clear hO6 hb6' hb5 x0 x1 x2 x3
  simp only [List.length_singleton] at hc6 ⊢
  go_wp2_with fail
  refine HT6.out.mono ?_
  rintro r wz ⟨rfl, rfl⟩
  clear HT6 HWA HWB HWS HTX HTY HTS
  have HB6 := Lib.hid hb6
  clear hb6
  obtain ⟨U1, hU1⟩ : ∃ U, U = w6.alloc (.cells #[.string dx, .string { data := #[45] }, .string dy, .string { data := #[45] }, .string { data := #[51] }] 9) := ⟨_, rfl⟩
  have hbU1 : Below w6.heap.size w6 U1 := by rw [hU1]; exact (Below.refl _ _).alloc (Nat.le_refl _) _
  have hSU1 : SlIs U1 (some ⟨w6.heap.size, 0, none⟩) ([dx, ⟨#[45]⟩, dy, ⟨#[45]⟩, ⟨#[51]⟩].map strV) := by
    refine sl_of_blk (ss := [dx, ⟨#[45]⟩, dy, ⟨#[45]⟩, ⟨#[51]⟩]) ?_
    rw [hU1]
    exact at_new _ _ rfl
  have HR1 := Lib.hid (show Calls Tryz.prog 21 #[.slice (some ⟨w6.heap.size, 0, none⟩) 5 5] U1 (Reads [dx, ⟨#[45]⟩, dy, ⟨#[45]⟩, ⟨#[51]⟩] U1) from HRD.out _ _ [dx, ⟨#[45]⟩, dy, ⟨#[45]⟩, ⟨#[51]⟩] U1 (HB6.out.trans (hbU1.mono HB6.out.size)) hSU1 (fun s hs => by simp only [List.mem_cons, List.not_mem_nil, or_false] at hs; rcases hs with h | h | h | h | h <;> rw [h] <;> first | omega | decide) (by simp))
  go_wp2_with fail
  rw [← hU1]
  clear hU1 hSU1
  refine HR1.out.mono ?_
  intro r w7 hrd
  obtain ⟨A7, c7, er, hc7, hO7, hb7'⟩ := left_read hrd (by simp) HLO.out.1 HLW.out.1
  subst er
  have hb7 : Below w6.heap.size w6 w7 := hbU1.trans (hb7'.mono hbU1.size)
  have HO7 := Lib.hid (own_wide hO7 hbU1.size (Nat.le_refl _))
  have HB7 := Lib.hid (HB6.out.trans (hb7.mono HB6.out.size))
  have HX7 := Lib.hid hb7
  clear hrd hO7 hb7' hbU1 hb7 HR1
  obtain ⟨U2, hU2⟩ : ∃ U, U = (w7.alloc (.cells #[.int .i64 3, .int .i64 0, .string { data := #[45] }, .slice A7 2 c7] 25)).alloc (.cells #[.string dx, .string { data := #[45] }, .string dy, .string { data := #[42] }, .string { data := #[51] }] 9) := ⟨_, rfl⟩
  have hbU2 : Below w7.heap.size w7 U2 := by rw [hU2]; exact ((Below.refl _ _).alloc (Nat.le_refl _) _).alloc (by simp) _
  have hSU2 : SlIs U2 (some ⟨w7.heap.size + 1, 0, none⟩) ([dx, ⟨#[45]⟩, dy, ⟨#[42]⟩, ⟨#[51]⟩].map strV) := by
    refine sl_of_blk (ss := [dx, ⟨#[45]⟩, dy, ⟨#[42]⟩, ⟨#[51]⟩]) ?_
    rw [hU2]
    exact at_new _ _ (by simp only [World.size_alloc])
  have HR2 := Lib.hid (show Calls Tryz.prog 21 #[.slice (some ⟨w7.heap.size + 1, 0, none⟩) 5 5] U2 (Reads [dx, ⟨#[45]⟩, dy, ⟨#[42]⟩, ⟨#[51]⟩] U2) from HRD.out _ _ [dx, ⟨#[45]⟩, dy, ⟨#[42]⟩, ⟨#[51]⟩] U2 (HB7.out.trans (hbU2.mono HB7.out.size)) hSU2 (fun s hs => by simp only [List.mem_cons, List.not_mem_nil, or_false] at hs; rcases hs with h | h | h | h | h <;> rw [h] <;> first | omega | decide) (by simp))
  have HBU2 := Lib.hid (show Blk U2 w7.heap.size #[.int .i64 3, .int .i64 0, .string { data := #[45] }, .slice A7 2 c7] by unfold Blk; rw [hU2, Below.heap_alloc _ _ _ (by simp)]; exact World.alloc_heap_new _ _)
  go_wp2_with fail
  rw [← hU2]
  clear hU2 hSU2
  refine HR2.out.mono ?_
  intro r w8 hrd
  obtain ⟨A8, c8, er, hc8, hO8, hb8'⟩ := left_read hrd (by simp) HLO.out.2.1 HLW.out.2.1
  subst er
  have hb8 : Below w7.heap.size w7 w8 := hbU2.trans (hb8'.mono hbU2.size)
  have HO8 := Lib.hid (own_wide hO8 hbU2.size (Nat.le_refl _))
  have HB8 := Lib.hid (HB7.out.trans (hb8.mono HB7.out.size))
  have HX8 := Lib.hid hb8
  have HBX7 := Lib.hid (HBU2.out.stay0 (hb8'.block _ HBU2.out.lt))
  clear hrd hO8 hb8' hbU2 hb8 HR2
  obtain ⟨U3, hU3⟩ : ∃ U, U = (w8.alloc (.cells #[.int .i64 3, .int .i64 0, .string { data := #[45] }, .slice A8 2 c8] 25)).alloc (.cells #[.string dx, .string { data := #[45] }, .string { data := #[40] }, .string dy, .string { data := #[45] }, .string { data := #[51] }, .string { data := #[41] }] 9) := ⟨_, rfl⟩
  have hbU3 : Below w8.heap.size w8 U3 := by rw [hU3]; exact ((Below.refl _ _).alloc (Nat.le_refl _) _).alloc (by simp) _
  have hSU3 : SlIs U3 (some ⟨w8.heap.size + 1, 0, none⟩) ([dx, ⟨#[45]⟩, ⟨#[40]⟩, dy, ⟨#[45]⟩, ⟨#[51]⟩, ⟨#[41]⟩].map strV) := by
    refine sl_of_blk (ss := [dx, ⟨#[45]⟩, ⟨#[40]⟩, dy, ⟨#[45]⟩, ⟨#[51]⟩, ⟨#[41]⟩]) ?_
    rw [hU3]
    exact at_new _ _ (by simp only [World.size_alloc])
  have HR3 := Lib.hid (show Calls Tryz.prog 21 #[.slice (some ⟨w8.heap.size + 1, 0, none⟩) 7 7] U3 (Reads [dx, ⟨#[45]⟩, ⟨#[40]⟩, dy, ⟨#[45]⟩, ⟨#[51]⟩, ⟨#[41]⟩] U3) from HRD.out _ _ [dx, ⟨#[45]⟩, ⟨#[40]⟩, dy, ⟨#[45]⟩, ⟨#[51]⟩, ⟨#[41]⟩] U3 (HB8.out.trans (hbU3.mono HB8.out.size)) hSU3 (fun s hs => by simp only [List.mem_cons, List.not_mem_nil, or_false] at hs; rcases hs with h | h | h | h | h | h | h <;> rw [h] <;> first | omega | decide) (by simp))
  have HBU3 := Lib.hid (show Blk U3 w8.heap.size #[.int .i64 3, .int .i64 0, .string { data := #[45] }, .slice A8 2 c8] by unfold Blk; rw [hU3, Below.heap_alloc _ _ _ (by simp)]; exact World.alloc_heap_new _ _)
  go_wp2_with fail
  rw [← hU3]
  clear hU3 hSU3
  refine HR3.out.mono ?_
  intro r w9 hrd
  obtain ⟨A9, c9, er, hc9, hO9, hb9'⟩ := left_read hrd (by simp) HLO.out.2.2 HLW.out.2.2
  subst er
  have hb9 : Below w8.heap.size w8 w9 := hbU3.trans (hb9'.mono hbU3.size)
  have HO9 := Lib.hid (own_wide hO9 hbU3.size (Nat.le_refl _))
  have HB9 := Lib.hid (HB8.out.trans (hb9.mono HB8.out.size))
  have HX9 := Lib.hid hb9
  have HBX8 := Lib.hid (HBU3.out.stay0 (hb9'.block _ HBU3.out.lt))
  clear hrd hO9 hb9' hbU3 hb9 HR3
  obtain ⟨Y, hY⟩ : ∃ Y, Y = w9.alloc (.cells #[.int .i64 3, .int .i64 0, .string { data := #[45] }, .slice A9 2 c9] 25) := ⟨_, rfl⟩
  have hbY : Below w9.heap.size w9 Y := by rw [hY]; exact (Below.refl _ _).alloc (Nat.le_refl _) _
  have hsY : Y.heap.size = w9.heap.size + 1 := by rw [hY]; simp
  have h69 := HX8.out.size
  have h79 := HX9.out.size
  have BR := Lib.hid (show Blk Y w9.heap.size #[.int .i64 3, .int .i64 0, .string { data := #[45] }, .slice A9 2 c9] by rw [hY]; exact World.alloc_heap_new _ _)
  have BQ := Lib.hid (HBX8.out.stay0 (hbY.block _ HBX8.out.lt))
  have BP := Lib.hid ((HBX7.out.stay0 (HX9.out.block _ HBX7.out.lt)).stay0 (hbY.block _ (Nat.lt_of_lt_of_le HBX7.out.lt h79)))
  have HBY := Lib.hid (HB9.out.trans (hbY.mono HB9.out.size))
  have BA := Lib.hid (HA.out.stay0 (HBY.out.block _ HA.out.lt))
  have BC := Lib.hid (HCc.out.stay0 (HBY.out.block _ HCc.out.lt))
  have KP := Lib.hid (((own_kidsU _ _ _ A7 w7.heap.size HO7.out (Nat.le_refl _)).keep HX8.out |>.keep (HX9.out.mono h69)).keep (hbY.mono (Nat.le_trans h69 h79)))
  have KQ := Lib.hid (((own_kidsU _ _ _ A8 w8.heap.size HO8.out (Nat.le_refl _)).keep HX9.out).keep (hbY.mono h79))
  have KR := Lib.hid ((own_kidsU _ _ _ A9 w9.heap.size HO9.out (Nat.le_refl _)).keep hbY)
  obtain ⟨gp, op, Dp, cp, eAp, hgp, _, kp, _⟩ := KP.out.at_ (j := 1) (by show 1 < 2; omega)
  obtain ⟨gq, oq, Dq, cq, eAq, hgq, _, kq, _⟩ := KQ.out.at_ (j := 0) (by show 0 < 2; omega)
  obtain ⟨gr, ox, Dr, cr, eAr, hgr, _, kr, _⟩ := KR.out.at_ (j := 0) (by show 0 < 2; omega)
  obtain ⟨p0, p1, p2, p3, hcp⟩ := kp
  obtain ⟨s0, s1, s2, s3, hcq⟩ := kq
  obtain ⟨r0, r1, r2, r3, hcr⟩ := kr
  replace p0 : Y.cell? ⟨gp, op + 4, none⟩ = some (.int .i64 1) := p0
  replace p1 : Y.cell? ⟨gp, op + 4 + 1, none⟩ = some (.int .i64 3) := p1
  replace p2 : Y.cell? ⟨gp, op + 4 + 2, none⟩ = some (.string { data := #[] }) := p2
  replace p3 : Y.cell? ⟨gp, op + 4 + 3, none⟩ = some (.slice Dp 0 cp) := p3
  replace s0 : Y.cell? ⟨gq, oq, none⟩ = some (.int .i64 1) := s0
  replace s1 : Y.cell? ⟨gq, oq + 1, none⟩ = some (.int .i64 x) := s1
  replace s2 : Y.cell? ⟨gq, oq + 2, none⟩ = some (.string { data := #[] }) := s2
  replace s3 : Y.cell? ⟨gq, oq + 3, none⟩ = some (.slice Dq 0 cq) := s3
  replace r0 : Y.cell? ⟨gr, ox, none⟩ = some (.int .i64 1) := r0
  replace r1 : Y.cell? ⟨gr, ox + 1, none⟩ = some (.int .i64 x) := r1
  replace r2 : Y.cell? ⟨gr, ox + 2, none⟩ = some (.string { data := #[] }) := r2
  replace r3 : Y.cell? ⟨gr, ox + 3, none⟩ = some (.slice Dr 0 cr) := r3
  subst eAp eAq eAr
  have b0 : Y.cell? ⟨w7.heap.size, 3, none⟩ = some (.slice (some ⟨gp, op, none⟩) 2 c7) := BP.out.cell 3
  have b1 : Y.cell? ⟨w8.heap.size, 3, none⟩ = some (.slice (some ⟨gq, oq, none⟩) 2 c8) := BQ.out.cell 3
  have b2 : Y.cell? ⟨w9.heap.size, 3, none⟩ = some (.slice (some ⟨gr, ox, none⟩) 2 c9) := BR.out.cell 3
  have a0 : Y.cell? ⟨w1.heap.size + 1, 0, none⟩ = some (.int .i64 1) := BA.out.cell 0
  have a1 : Y.cell? ⟨w1.heap.size + 1, 1, none⟩ = some (.int .i64 x) := BA.out.cell 1
  have a2 : Y.cell? ⟨w1.heap.size + 1, 2, none⟩ = some (.string { data := #[] }) := BA.out.cell 2
  have a3 : Y.cell? ⟨w1.heap.size + 1, 3, none⟩ = some (.slice none 0 0) := BA.out.cell 3
  have t0 : Y.cell? ⟨w1.heap.size + 1 + 1 + 1, 0, none⟩ = some (.int .i64 1) := BC.out.cell 0
  have t1 : Y.cell? ⟨w1.heap.size + 1 + 1 + 1, 1, none⟩ = some (.int .i64 3) := BC.out.cell 1
  have t2 : Y.cell? ⟨w1.heap.size + 1 + 1 + 1, 2, none⟩ = some (.string { data := #[] }) := BC.out.cell 2
  have t3 : Y.cell? ⟨w1.heap.size + 1 + 1 + 1, 3, none⟩ = some (.slice none 0 0) := BC.out.cell 3
  have lp : gp < Y.heap.size := by omega
  have lq : gq < Y.heap.size := by omega
  have lr : gr < Y.heap.size := by omega
  have l7 : w7.heap.size < Y.heap.size := BP.out.lt
  have l8 : w8.heap.size < Y.heap.size := BQ.out.lt
  have l9 : w9.heap.size < Y.heap.size := BR.out.lt
  have la : w1.heap.size + 1 < Y.heap.size := BA.out.lt
  have lc : w1.heap.size + 1 + 1 + 1 < Y.heap.size := BC.out.lt
  have HSM := Lib.hid (fun (z : Int) (D : Option Addr) (cd : Nat) (V : World) => show Calls Tryz.prog 22 #[.agg #[.int .i64 1, .int .i64 z, .string { data := #[] }, .slice D 0 cd], .agg #[.int .i64 1, .int .i64 z, .string { data := #[] }, .slice none 0 0]] V (fun r w' => r = .returned (.bool true) ∧ Below V.heap.size V w') from (by have h := exprSame_any (.mk 1 z ByteArray.empty []) (.mk 1 z ByteArray.empty []) D none cd 0 0 V .nil .nil (Nat.zero_le _) (Nat.le_refl _) (Nat.zero_le _) (by simp [Ex.nodes, Ex.nodess]); rw [sameE_self] at h; exact h))
  have HPO := Lib.hid (fun (V : World) (hV : Below Y.heap.size Y V) => show Calls Tryz.prog 26 #[.agg #[.int .i64 3, .int .i64 0, .string { data := #[45] }, .slice (some ⟨gp, op, none⟩) 2 c7], .slice An ss.length cn, .slice Av zs.length cv] V (Comes (ofE (leftP x y).ex ss zs) V) from exprOf_any (leftP x y).ex (some ⟨gp, op, none⟩) c7 w7.heap.size An Av cn cv ss zs V (KP.out.kids.keep (hV.mono (by omega))) hc7 (Nat.le_trans (by omega) hV.size) (by have := HLT.out.1; omega) (by omega) (by omega) (HSNZ.out.below (HBY.out.trans (hV.mono HBY.out.size))) (HSVZ.out.below (HBY.out.trans (hV.mono HBY.out.size))))
  have HQO := Lib.hid (fun (V : World) (hV : Below Y.heap.size Y V) => show Calls Tryz.prog 26 #[.agg #[.int .i64 3, .int .i64 0, .string { data := #[45] }, .slice (some ⟨gq, oq, none⟩) 2 c8], .slice An ss.length cn, .slice Av zs.length cv] V (Comes (ofE (leftQ x y).ex ss zs) V) from exprOf_any (leftQ x y).ex (some ⟨gq, oq, none⟩) c8 w8.heap.size An Av cn cv ss zs V (KQ.out.kids.keep (hV.mono (by omega))) hc8 (Nat.le_trans (by omega) hV.size) (by have := HLT.out.2.1; omega) (by omega) (by omega) (HSNZ.out.below (HBY.out.trans (hV.mono HBY.out.size))) (HSVZ.out.below (HBY.out.trans (hV.mono HBY.out.size))))
  have HRO := Lib.hid (fun (V : World) (hV : Below Y.heap.size Y V) => show Calls Tryz.prog 26 #[.agg #[.int .i64 3, .int .i64 0, .string { data := #[45] }, .slice (some ⟨gr, ox, none⟩) 2 c9], .slice An ss.length cn, .slice Av zs.length cv] V (Comes (ofE (leftR x y).ex ss zs) V) from exprOf_any (leftR x y).ex (some ⟨gr, ox, none⟩) c9 w9.heap.size An Av cn cv ss zs V (KR.out.kids.keep (hV.mono (by omega))) hc9 (Nat.le_trans (by omega) hV.size) (by have := HLT.out.2.2; omega) (by omega) (by omega) (HSNZ.out.below (HBY.out.trans (hV.mono HBY.out.size))) (HSVZ.out.below (HBY.out.trans (hV.mono HBY.out.size))))
  have HFY := Lib.hid (HBZ.out.trans (HBY.out.mono HBZ.out.size))
  clear hbY hsY h69 h79 hgp hgq hgr hcp hcq hcr KP KQ KR HO7 HO8 HO9 HX7 HX8 HX9 HBX7 HBX8 HB6 HB7 HB8 HB9 HA HBb HCc HRD HLW HLO HBZ BA BC
  go_wp2_with fail
  rw [← hY]
  clear hY
  go_region_held3 (fun w' => w'.cell? ⟨w7.heap.size, 3, none⟩ = some (.slice (some ⟨gp, op, none⟩) 2 c7) ∧ w'.cell? ⟨w8.heap.size, 3, none⟩ = some (.slice (some ⟨gq, oq, none⟩) 2 c8) ∧ w'.cell? ⟨w9.heap.size, 3, none⟩ = some (.slice (some ⟨gr, ox, none⟩) 2 c9) ∧ w'.cell? ⟨gp, op + 4, none⟩ = some (.int .i64 1) ∧ w'.cell? ⟨gp, op + 4 + 1, none⟩ = some (.int .i64 3) ∧ w'.cell? ⟨gp, op + 4 + 2, none⟩ = some (.string { data := #[] }) ∧ w'.cell? ⟨gp, op + 4 + 3, none⟩ = some (.slice Dp 0 cp) ∧ w'.cell? ⟨gq, oq, none⟩ = some (.int .i64 1) ∧ w'.cell? ⟨gq, oq + 1, none⟩ = some (.int .i64 x) ∧ w'.cell? ⟨gq, oq + 2, none⟩ = some (.string { data := #[] }) ∧ w'.cell? ⟨gq, oq + 3, none⟩ = some (.slice Dq 0 cq) ∧ w'.cell? ⟨gr, ox, none⟩ = some (.int .i64 1) ∧ w'.cell? ⟨gr, ox + 1, none⟩ = some (.int .i64 x) ∧ w'.cell? ⟨gr, ox + 2, none⟩ = some (.string { data := #[] }) ∧ w'.cell? ⟨gr, ox + 3, none⟩ = some (.slice Dr 0 cr) ∧ w'.cell? ⟨w1.heap.size + 1, 0, none⟩ = some (.int .i64 1) ∧ w'.cell? ⟨w1.heap.size + 1, 1, none⟩ = some (.int .i64 x) ∧ w'.cell? ⟨w1.heap.size + 1, 2, none⟩ = some (.string { data := #[] }) ∧ w'.cell? ⟨w1.heap.size + 1, 3, none⟩ = some (.slice none 0 0) ∧ w'.cell? ⟨w1.heap.size + 1 + 1 + 1, 0, none⟩ = some (.int .i64 1) ∧ w'.cell? ⟨w1.heap.size + 1 + 1 + 1, 1, none⟩ = some (.int .i64 3) ∧ w'.cell? ⟨w1.heap.size + 1 + 1 + 1, 2, none⟩ = some (.string { data := #[] }) ∧ w'.cell? ⟨w1.heap.size + 1 + 1 + 1, 3, none⟩ = some (.slice none 0 0) ∧ Below Y.heap.size Y w')
    (first | exact ⟨b0, b1, b2, p0, p1, p2, p3, s0, s1, s2, s3, r0, r1, r2, r3, a0, a1, a2, a3, t0, t1, t2, t3, (Below.refl _ Y).drew⟩ | exact ⟨(hb12.cell (p := ⟨w7.heap.size, 3, none⟩) l7).trans b0, (hb12.cell (p := ⟨w8.heap.size, 3, none⟩) l8).trans b1, (hb12.cell (p := ⟨w9.heap.size, 3, none⟩) l9).trans b2, (hb12.cell (p := ⟨gp, op + 4, none⟩) lp).trans p0, (hb12.cell (p := ⟨gp, op + 4 + 1, none⟩) lp).trans p1, (hb12.cell (p := ⟨gp, op + 4 + 2, none⟩) lp).trans p2, (hb12.cell (p := ⟨gp, op + 4 + 3, none⟩) lp).trans p3, (hb12.cell (p := ⟨gq, oq, none⟩) lq).trans s0, (hb12.cell (p := ⟨gq, oq + 1, none⟩) lq).trans s1, (hb12.cell (p := ⟨gq, oq + 2, none⟩) lq).trans s2, (hb12.cell (p := ⟨gq, oq + 3, none⟩) lq).trans s3, (hb12.cell (p := ⟨gr, ox, none⟩) lr).trans r0, (hb12.cell (p := ⟨gr, ox + 1, none⟩) lr).trans r1, (hb12.cell (p := ⟨gr, ox + 2, none⟩) lr).trans r2, (hb12.cell (p := ⟨gr, ox + 3, none⟩) lr).trans r3, (hb12.cell (p := ⟨w1.heap.size + 1, 0, none⟩) la).trans a0, (hb12.cell (p := ⟨w1.heap.size + 1, 1, none⟩) la).trans a1, (hb12.cell (p := ⟨w1.heap.size + 1, 2, none⟩) la).trans a2, (hb12.cell (p := ⟨w1.heap.size + 1, 3, none⟩) la).trans a3, (hb12.cell (p := ⟨w1.heap.size + 1 + 1 + 1, 0, none⟩) lc).trans t0, (hb12.cell (p := ⟨w1.heap.size + 1 + 1 + 1, 1, none⟩) lc).trans t1, (hb12.cell (p := ⟨w1.heap.size + 1 + 1 + 1, 2, none⟩) lc).trans t2, (hb12.cell (p := ⟨w1.heap.size + 1 + 1 + 1, 3, none⟩) lc).trans t3, hb12⟩ | exact ⟨(hb11.cell (p := ⟨w7.heap.size, 3, none⟩) l7).trans b0, (hb11.cell (p := ⟨w8.heap.size, 3, none⟩) l8).trans b1, (hb11.cell (p := ⟨w9.heap.size, 3, none⟩) l9).trans b2, (hb11.cell (p := ⟨gp, op + 4, none⟩) lp).trans p0, (hb11.cell (p := ⟨gp, op + 4 + 1, none⟩) lp).trans p1, (hb11.cell (p := ⟨gp, op + 4 + 2, none⟩) lp).trans p2, (hb11.cell (p := ⟨gp, op + 4 + 3, none⟩) lp).trans p3, (hb11.cell (p := ⟨gq, oq, none⟩) lq).trans s0, (hb11.cell (p := ⟨gq, oq + 1, none⟩) lq).trans s1, (hb11.cell (p := ⟨gq, oq + 2, none⟩) lq).trans s2, (hb11.cell (p := ⟨gq, oq + 3, none⟩) lq).trans s3, (hb11.cell (p := ⟨gr, ox, none⟩) lr).trans r0, (hb11.cell (p := ⟨gr, ox + 1, none⟩) lr).trans r1, (hb11.cell (p := ⟨gr, ox + 2, none⟩) lr).trans r2, (hb11.cell (p := ⟨gr, ox + 3, none⟩) lr).trans r3, (hb11.cell (p := ⟨w1.heap.size + 1, 0, none⟩) la).trans a0, (hb11.cell (p := ⟨w1.heap.size + 1, 1, none⟩) la).trans a1, (hb11.cell (p := ⟨w1.heap.size + 1, 2, none⟩) la).trans a2, (hb11.cell (p := ⟨w1.heap.size + 1, 3, none⟩) la).trans a3, (hb11.cell (p := ⟨w1.heap.size + 1 + 1 + 1, 0, none⟩) lc).trans t0, (hb11.cell (p := ⟨w1.heap.size + 1 + 1 + 1, 1, none⟩) lc).trans t1, (hb11.cell (p := ⟨w1.heap.size + 1 + 1 + 1, 2, none⟩) lc).trans t2, (hb11.cell (p := ⟨w1.heap.size + 1 + 1 + 1, 3, none⟩) lc).trans t3, hb11⟩ | exact ⟨(hb10.cell (p := ⟨w7.heap.size, 3, none⟩) l7).trans b0, (hb10.cell (p := ⟨w8.heap.size, 3, none⟩) l8).trans b1, (hb10.cell (p := ⟨w9.heap.size, 3, none⟩) l9).trans b2, (hb10.cell (p := ⟨gp, op + 4, none⟩) lp).trans p0, (hb10.cell (p := ⟨gp, op + 4 + 1, none⟩) lp).trans p1, (hb10.cell (p := ⟨gp, op + 4 + 2, none⟩) lp).trans p2, (hb10.cell (p := ⟨gp, op + 4 + 3, none⟩) lp).trans p3, (hb10.cell (p := ⟨gq, oq, none⟩) lq).trans s0, (hb10.cell (p := ⟨gq, oq + 1, none⟩) lq).trans s1, (hb10.cell (p := ⟨gq, oq + 2, none⟩) lq).trans s2, (hb10.cell (p := ⟨gq, oq + 3, none⟩) lq).trans s3, (hb10.cell (p := ⟨gr, ox, none⟩) lr).trans r0, (hb10.cell (p := ⟨gr, ox + 1, none⟩) lr).trans r1, (hb10.cell (p := ⟨gr, ox + 2, none⟩) lr).trans r2, (hb10.cell (p := ⟨gr, ox + 3, none⟩) lr).trans r3, (hb10.cell (p := ⟨w1.heap.size + 1, 0, none⟩) la).trans a0, (hb10.cell (p := ⟨w1.heap.size + 1, 1, none⟩) la).trans a1, (hb10.cell (p := ⟨w1.heap.size + 1, 2, none⟩) la).trans a2, (hb10.cell (p := ⟨w1.heap.size + 1, 3, none⟩) la).trans a3, (hb10.cell (p := ⟨w1.heap.size + 1 + 1 + 1, 0, none⟩) lc).trans t0, (hb10.cell (p := ⟨w1.heap.size + 1 + 1 + 1, 1, none⟩) lc).trans t1, (hb10.cell (p := ⟨w1.heap.size + 1 + 1 + 1, 2, none⟩) lc).trans t2, (hb10.cell (p := ⟨w1.heap.size + 1 + 1 + 1, 3, none⟩) lc).trans t3, hb10⟩)
    (first | (go_at_call 22; ((with_reducible refine (HSM.out 3 Dp cp Y.drew).mono ?_); rintro r w10 ⟨rfl, hb10'⟩; have hb10 : Below Y.heap.size Y w10 := (Below.refl _ Y).drew.trans hb10'; clear hb10')) | (go_at_call 22; ((with_reducible refine (HSM.out x Dq cq w10).mono ?_); rintro r w11 ⟨rfl, hb11'⟩; have hb11 : Below Y.heap.size Y w11 := hb10.trans (hb11'.mono hb10.size); clear hb11')) | (go_at_call 22; ((with_reducible refine (HSM.out x Dr cr w11).mono ?_); rintro r w12 ⟨rfl, hb12'⟩; have hb12 : Below Y.heap.size Y w12 := hb11.trans (hb12'.mono hb11.size); clear hb12')))
  rename_i hh
  clear b0 b1 b2 p0 p1 p2 p3 s0 s1 s2 s3 r0 r1 r2 r3 a0 a1 a2 a3 t0 t1 t2 t3 hb10 hb11 hh HSM
  by_cases hlen : ss.length = zs.length
  · have h3 := HLF.out hlen
    rw [h3.1] at HPO
    rw [h3.2.1] at HQO
    rw [h3.2.2] at HRO
    unfold Comes at HPO HQO HRO
    have ql : ((ss.length : Int) != (zs.length : Int)) = false := by rw [bne_eq_false_iff_eq]; omega
    clear h3 hlen HLF
    have HBH := Lib.hid hb12
    have P0 := (HBH.out.cell (p := ⟨w7.heap.size, 0, none⟩) l7).trans (BP.out.cell 0)
    have P1 := (HBH.out.cell (p := ⟨w7.heap.size, 1, none⟩) l7).trans (BP.out.cell 1)
    have P2 := (HBH.out.cell (p := ⟨w7.heap.size, 2, none⟩) l7).trans (BP.out.cell 2)
    have P3 := (HBH.out.cell (p := ⟨w7.heap.size, 3, none⟩) l7).trans (BP.out.cell 3)
    simp only [List.getElem?_toArray, List.getElem?_cons_zero, List.getElem?_cons_succ] at P0 P1 P2 P3
    go_wp2_with fail
    refine (HPO.out w12 hb12).mono ?_
    rintro r w13 ⟨rfl, hb13'⟩
    have hb13 := hb12.trans (hb13'.mono hb12.size)
    clear hb13' P0 P1 P2 P3
    have HBH := Lib.hid hb13
    simp only [Option.getD_some, Option.isSome_some]
    have Q0 := (HBH.out.cell (p := ⟨w8.heap.size, 0, none⟩) l8).trans (BQ.out.cell 0)
    have Q1 := (HBH.out.cell (p := ⟨w8.heap.size, 1, none⟩) l8).trans (BQ.out.cell 1)
    have Q2 := (HBH.out.cell (p := ⟨w8.heap.size, 2, none⟩) l8).trans (BQ.out.cell 2)
    have Q3 := (HBH.out.cell (p := ⟨w8.heap.size, 3, none⟩) l8).trans (BQ.out.cell 3)
    simp only [List.getElem?_toArray, List.getElem?_cons_zero, List.getElem?_cons_succ] at Q0 Q1 Q2 Q3
    go_wp2_with fail
    refine (HQO.out w13 hb13).mono ?_
    rintro r w14 ⟨rfl, hb14'⟩
    have hb14 := hb13.trans (hb14'.mono hb13.size)
    clear hb14' Q0 Q1 Q2 Q3
    have HBH := Lib.hid hb14
    simp only [Option.getD_some, Option.isSome_some]
    have R0 := (HBH.out.cell (p := ⟨w9.heap.size, 0, none⟩) l9).trans (BR.out.cell 0)
    have R1 := (HBH.out.cell (p := ⟨w9.heap.size, 1, none⟩) l9).trans (BR.out.cell 1)
    have R2 := (HBH.out.cell (p := ⟨w9.heap.size, 2, none⟩) l9).trans (BR.out.cell 2)
    have R3 := (HBH.out.cell (p := ⟨w9.heap.size, 3, none⟩) l9).trans (BR.out.cell 3)
    simp only [List.getElem?_toArray, List.getElem?_cons_zero, List.getElem?_cons_succ] at R0 R1 R2 R3
    go_wp2_with fail
    refine (HRO.out w14 hb14).mono ?_
    rintro r w15 ⟨rfl, hb15'⟩
    have hb15 := hb14.trans (hb15'.mono hb14.size)
    clear hb15' R0 R1 R2 R3
    have HBH := Lib.hid hb15
    simp only [Option.getD_some, Option.isSome_some]
    go_wp2_with fail
    go_ret
    exact ⟨rfl, HFY.out.trans (hb15.mono HFY.out.size)⟩
  · have ql : ((ss.length : Int) != (zs.length : Int)) = true := by rw [bne_iff_ne]; omega
    unfold Comes at HPO HQO HRO
    generalize ofE (leftP x y).ex ss zs = R1 at *
    generalize ofE (leftQ x y).ex ss zs = R2 at *
    generalize ofE (leftR x y).ex ss zs = R3 at *
    clear hlen HLF
    have HBH := Lib.hid hb12
    have P0 := (HBH.out.cell (p := ⟨w7.heap.size, 0, none⟩) l7).trans (BP.out.cell 0)
    have P1 := (HBH.out.cell (p := ⟨w7.heap.size, 1, none⟩) l7).trans (BP.out.cell 1)
    have P2 := (HBH.out.cell (p := ⟨w7.heap.size, 2, none⟩) l7).trans (BP.out.cell 2)
    have P3 := (HBH.out.cell (p := ⟨w7.heap.size, 3, none⟩) l7).trans (BP.out.cell 3)
    simp only [List.getElem?_toArray, List.getElem?_cons_zero, List.getElem?_cons_succ] at P0 P1 P2 P3
    go_wp2_with fail
    refine (HPO.out w12 hb12).mono ?_
    rintro r w13 ⟨rfl, hb13'⟩
    have hb13 := hb12.trans (hb13'.mono hb12.size)
    clear hb13' P0 P1 P2 P3
    have HBH := Lib.hid hb13
    have Q0 := (HBH.out.cell (p := ⟨w8.heap.size, 0, none⟩) l8).trans (BQ.out.cell 0)
    have Q1 := (HBH.out.cell (p := ⟨w8.heap.size, 1, none⟩) l8).trans (BQ.out.cell 1)
    have Q2 := (HBH.out.cell (p := ⟨w8.heap.size, 2, none⟩) l8).trans (BQ.out.cell 2)
    have Q3 := (HBH.out.cell (p := ⟨w8.heap.size, 3, none⟩) l8).trans (BQ.out.cell 3)
    simp only [List.getElem?_toArray, List.getElem?_cons_zero, List.getElem?_cons_succ] at Q0 Q1 Q2 Q3
    go_wp2_with fail
    refine (HQO.out w13 hb13).mono ?_
    rintro r w14 ⟨rfl, hb14'⟩
    have hb14 := hb13.trans (hb14'.mono hb13.size)
    clear hb14' Q0 Q1 Q2 Q3
    have HBH := Lib.hid hb14
    have R0 := (HBH.out.cell (p := ⟨w9.heap.size, 0, none⟩) l9).trans (BR.out.cell 0)
    have R1 := (HBH.out.cell (p := ⟨w9.heap.size, 1, none⟩) l9).trans (BR.out.cell 1)
    have R2 := (HBH.out.cell (p := ⟨w9.heap.size, 2, none⟩) l9).trans (BR.out.cell 2)
    have R3 := (HBH.out.cell (p := ⟨w9.heap.size, 3, none⟩) l9).trans (BR.out.cell 3)
    simp only [List.getElem?_toArray, List.getElem?_cons_zero, List.getElem?_cons_succ] at R0 R1 R2 R3
    go_wp2_with fail
    refine (HRO.out w14 hb14).mono ?_
    rintro r w15 ⟨rfl, hb15'⟩
    have hb15 := hb14.trans (hb15'.mono hb14.size)
    clear hb15' R0 R1 R2 R3
    have HBH := Lib.hid hb15
    go_wp2_with fail
    go_ret
    exact ⟨rfl, HFY.out.trans (hb15.mono HFY.out.size)⟩

set_option linter.unusedVariables false in
set_option maxRecDepth 100000 in
theorem lifted (os : Os) (started : os.Started) (H : Type) (enc : TypeId × Value → H) :
    ReturnsInHanded {} Tryz.checked os 10 .any (fun w args => (Rows.fnExprLeftSpec.pre enc Tryz.prog Tryz.f10 [] false w args ∧ laidMetH Tryz.prog laidL w) ∧ sizedMet enc Tryz.prog Tryz.f10 (OpenSpec.ofChange Rows.fnExprLeftSpec) false w args)
      (Rows.fnExprLeftSpec.post enc Tryz.prog Tryz.f10 false true false false) := by
  refine returnsInHanded_of_change_and (C := Tryz.checked) (X := fun w _ => laidMetH Tryz.prog laidL w) (fun _ _ _ hh h => h.of_heap hh) own started (by kernel_rfl) Tryz.func10
    (ChangeSpec.witness_shaped (enc := enc) (C := Tryz.checked) (os := os) (X := fun w _ => laidMetH Tryz.prog laidL w) false (World.doorLaid Tryz.prog 62 os) #[.slice none 0 0, .slice none 0 0] 8 rfl (World.shaped_of_RefB (by kernel_rfl) (by kernel_rfl)) (by kernel_rfl) (by kernel_rfl) (by kernel_rfl) (door_met os _)) ?_
  intro W base args ds gs before hval0 hW _ _ hL _
  have hval : ∀ (j : Nat) t v, Tryz.f10.params[j]? = some t → args[j]? = some v → Value.okWide Tryz.prog W .any base t v := hval0
  have hW' := hW
  obtain ⟨p, q, hA0, hV, rfl, hfz, hnd⟩ := hW
  have hA : DataW.TrodAll enc Tryz.prog W 0 (fun _ => true) true Tryz.f10.params.toList args.toList ds p := hA0
  rw [Tryz.params10] at hA hval
  obtain ⟨v0, vs0, d0, ds0, p0, q0, hargs, rfl, rfl, h0, r0⟩ := trodAll_cons hA
  obtain ⟨v1, vs1, d1, ds1, p1, q1, rfl, rfl, rfl, h1, r1⟩ := trodAll_cons r0
  obtain ⟨rfl, rfl, rfl⟩ := trodAll_nil r1
  obtain rfl : args = #[v0, v1] := by cases args; simp_all
  obtain ⟨rfl, rfl⟩ := trodVars_none hV
  have k0 := h0
  have lt0 : ∀ x ∈ p0, x.block < W.heap.size := by obtain ⟨m, hm⟩ := k0; exact DataW.trod_lt m _ _ _ hm
  have k1 := h1
  have lt1 : ∀ x ∈ p1, x.block < W.heap.size := by obtain ⟨m, hm⟩ := k1; exact DataW.trod_lt m _ _ _ hm
  obtain ⟨a0, len0, cap0, e0⟩ := okWide_slice Tryz.underlying22 (hval 0 22 v0 rfl rfl)
  subst e0
  have w0 : InCode W a0 len0 cap0 := by
    obtain ⟨fuel, hf⟩ := h0
    rcases open_ints Tryz.underlying22 Tryz.underlying5 (by kernel_rfl) hf with ⟨hcs, _⟩ | ⟨x, l, c, zs, hcs, _, hl, hm, hz, _, hcell, hwz⟩
    · simp [Value.cells] at hcs
      obtain ⟨rfl, rfl, rfl⟩ := hcs
      exact inCode_nil W
    · simp [Value.cells] at hcs
      obtain ⟨rfl, rfl, rfl⟩ := hcs
      exact inCode_of hl hm (by simpa using hz) hcell hwz
  obtain ⟨a1, len1, cap1, e1⟩ := okWide_slice Tryz.underlying22 (hval 1 22 v1 rfl rfl)
  subst e1
  have w1 : InCode W a1 len1 cap1 := by
    obtain ⟨fuel, hf⟩ := h1
    rcases open_ints Tryz.underlying22 Tryz.underlying5 (by kernel_rfl) hf with ⟨hcs, _⟩ | ⟨x, l, c, zs, hcs, _, hl, hm, hz, _, hcell, hwz⟩
    · simp [Value.cells] at hcs
      obtain ⟨rfl, rfl, rfl⟩ := hcs
      exact inCode_nil W
    · simp [Value.cells] at hcs
      obtain ⟨rfl, rfl, rfl⟩ := hcs
      exact inCode_of hl hm (by simpa using hz) hcell hwz
  clear hA0 hval0
  refine (walk a0 len0 cap0 a1 len1 cap1 W w0 w1 (of_laid hL)).mono fun e W' ⟨he, bel⟩ => ?_
  subst he
  exact ⟨_, rfl, _, _, _, [], _, [], hW', trodAll_mk1 (shut_bool Tryz.underlying4 _), (trodAll_cons_mk (Below.trod laidOut (by kernel_rfl) (of_decide_eq_true (by kernel_rfl)) k0 bel lt0) (trodAll_cons_mk (Below.trod laidOut (by kernel_rfl) (of_decide_eq_true (by kernel_rfl)) k1 bel lt1) trodAll_mk0)), rfl, bel.frame _, fun h => by cases h⟩

theorem over : Rows.fnExprLeftRow.holds Tryz.pinned (OpenSpec.ofChange Rows.fnExprLeftSpec) :=
  OpenClaim.holds_of_wide 10 Tryz.f10 rfl rfl rfl rfl rfl rfl rfl ⟨rfl, rfl, rfl, rfl, rfl⟩ rfl rfl rfl rfl rfl (by kernel_rfl) Tryz.func10 (by kernel_rfl)
    (of_decide_eq_true (by kernel_rfl)) (by unfold Func.isWrapper; first | (rw [if_pos (by decide +kernel)]; kernel_rfl) | (rw [if_neg (by decide +kernel)]; exact ⟨rfl, rfl⟩))
    (fun os started H enc _ => lifted os started H enc)
end Go.Proofs.YtggdlldagaggiaaGreatDoor.fnExprLeft
namespace Go.Proofs.YtggdlldagaggiaaGreatDoor

/-- The given statement. -/
theorem fnExprLeft_proved : Rows.FnExprLeftCardSaid :=
  Claim7.holds_tied_plain_at .later [] [.data, .data, .data, .sentinel, .sentinel] true (true, "1ba372455362d8308537e50782232f5108dfa5218fd8276efa2f30edc5358766") true
    fnExprLeft.over (fun _ h => by cases h) (by kernel_rfl) (fun _ h => by cases h) fnExprLeft_row_tie rfl ⟨rfl, rfl⟩ (by kernel_rfl) rfl
    (fun f fn hf hfn => by
      obtain rfl : f = 10 := Option.some.inj ((show Tryz.prog.funcNamed "loop.example/interlinear/laws.FnExprLeft" = some 10 by kernel_rfl).symm.trans hf) |>.symm
      obtain rfl : fn = Tryz.f10 := (Option.some.inj (Tryz.func10.symm.trans hfn)).symm
      exact ⟨by kernel_rfl, fun j t ht => by
        rw [Tryz.params10] at ht
        have hm : t ∈ [22, 22] := by simpa using Array.mem_of_getElem? ht
        have hall : ([22, 22].all fun u => !Tryz.prog.wantsStandIn u) = true := by kernel_rfl
        exact (show Tryz.prog.wantsStandIn t = false by simpa using List.all_eq_true.1 hall t hm)⟩)
    (by kernel_rfl)
#print axioms fnExprLeft_proved
end Go.Proofs.YtggdlldagaggiaaGreatDoor
