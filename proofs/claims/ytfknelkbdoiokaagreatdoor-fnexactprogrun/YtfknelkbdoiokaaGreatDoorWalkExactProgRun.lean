/-
  'laws.FnExactProgRun' returns true at whatever lines: impl.ProgRun and the model's ProgRun answer the same, nothing is written into an argument, and each answer is memory of its own.
  Conditions: the library's variables and the program's own error hold what their initialisers lay (tied to the program's text); every value of []laws.Stmt.
-/
import Derived.Test.YtfknelkbdoiokaaGreatDoorImplRun
import Derived.Test.YtfknelkbdoiokaaGreatDoorSpecRun
import Derived.Test.YtfknelkbdoiokaaGreatDoorStOwn
import Derived.Test.YtfknelkbdoiokaaGreatDoorInts
import Derived.Test.YtfknelkbdoiokaaGreatDoorOpenSts
import Derived.Test.YtfknelkbdoiokaaGreatDoorIsErr
import Derived.WalkKit
import Derived.ProofKit
import Derived.OpenShut
import Derived.ShutString
import Derived.ChangeOld
import Derived.Below
import Derived.Lib.SmallJoins
import Derived.SliceStrings
namespace Go.Proofs.YtfknelkbdoiokaaGreatDoor.fnExactProgRun
open Go.ChangeShapes Go.WideShapes Go.ChangeAt Go.RowKit Go.Joins
open Go.ChangeMaps (open_string shut_string)


theorem markIntS_one (base : Nat) (A : Option Addr) (c n : Nat) (xs : List Value) (w : World) (hl : 1 + n ≤ 2 ^ 40) (hown : w.ownsRow base 3 1 (.slice A n c) n xs) (hint : ∀ u ∈ xs, ∃ z, u = Value.int .i64 z) :
    Calls Tryz.prog 48 #[.slice A n c, .int .i64 1] w fun e w' => e = .returned (.int .i64 ((1 + n : Nat) : Int)) ∧ w'.ownsRow base 3 1 (.slice A n c) n (marksI 1 n) ∧ Below base w w' :=
  markIntS_any base A c 1 n xs w (by omega) hl hown hint
theorem heldIntS_one (A : Option Addr) (c n : Nat) (w : World) (hl : 1 + n ≤ 2 ^ 40) (hA : SlIs w A (marksI 1 n)) :
    Calls Tryz.prog 49 #[.slice A n c, .int .i64 1] w fun e w' => e = .returned (.int .i64 ((1 + n : Nat) : Int)) ∧ w = w' :=
  heldIntS_ok A c 1 n w (by omega) hl hA
theorem ownsRow_turned {w w' : World} {B lo hi : Nat} {t : TypeId} {v : Value} {n : Nat} {xs : List Value} (h : w.ownsRow B t 1 v n xs) (hT : Turned lo hi w w') (hB : hi ≤ B) : w'.ownsRow B t 1 v n xs := by
  refine ⟨h.1, ?_⟩
  rcases h.2 with h0 | ⟨g, cap, cur, h1, h2, h3, h4⟩
  · exact .inl h0
  · exact .inr ⟨g, cap, cur, h1, h2, (hT.block g (Array.getElem?_eq_some_iff.1 h3).1 (.inr (Nat.le_trans hB h2))).trans h3, h4⟩
theorem says_len {ss : List ByteArray} {vs : List Int} {d : De} {ns : List Int} (h : saysD ss vs d = some ns) : ns.length ≤ 1 := by
  cases d with
  | noD => simp only [saysD, Option.some.injEq] at h; subst h; simp
  | letD n t p =>
    simp only [saysD, Option.map_eq_some_iff] at h
    obtain ⟨_, _, rfl⟩ := h
    simp
  | sayD p =>
    simp only [saysD, Option.map_eq_some_iff] at h
    obtain ⟨_, _, rfl⟩ := h
    simp
  | whenD p q =>
    simp only [saysD, Option.bind_eq_some_iff, Option.map_eq_some_iff] at h
    obtain ⟨_, _, _, _, rfl⟩ := h
    split <;> simp
theorem runFrom_len (ds : List De) : ∀ (ss : List ByteArray) (vs out : List Int), (runFrom ds ss vs out).1.length ≤ out.length + ds.length := by
  induction ds with
  | nil => intro ss vs out; rw [runFrom]; simp
  | cons d ds ih =>
    intro ss vs out
    rw [runFrom]
    cases h : saysD ss vs d with
    | none => simp
    | some ns =>
      have h1 := ih (toldS ss d) (toldI ss vs d) (out ++ ns)
      have h2 := says_len h
      rw [List.length_append] at h1
      rw [List.length_cons]
      show (runFrom ds (toldS ss d) (toldI ss vs d) (out ++ ns)).1.length ≤ _
      omega
theorem runP_len (xs : List St) : (runP xs).1.length ≤ 16 := by
  unfold runP
  cases h : doP xs with
  | none => simp
  | some ds =>
    have h1 := doP_some h
    have h2 := (doP_fine h).1
    have h3 := runFrom_len ds [] [] []
    simp only [List.length_nil, Nat.zero_add] at h3
    show (runFrom ds [] [] []).1.length ≤ 16
    omega
set_option linter.unusedVariables false in
set_option maxRecDepth 100000 in
set_option maxHeartbeats 8000000 in
theorem walk (A : Option Addr) (c : Nat) (xs : List St) (w : World) (hE : InSts w A c xs) (hL : LaidW w ∧ ∃ a, LaidN w a) :
    Calls Tryz.prog 10 #[.slice A xs.length c] w fun r w' => r = .returned (.bool true) ∧ Below w.heap.size w w' := by
  obtain ⟨hfit, hm, hA, hc⟩ := hE
  obtain ⟨hL, ad, hN⟩ := hL
  have HSz := Lib.hid (szStmtS_any xs A c w.heap.size 1048576 w hfit hm hA (Nat.le_refl _) (by omega) (by omega))
  have HTo := Lib.hid (fun (W : World) (hW : Below w.heap.size w W) (hw : stWts xs ≤ 2 ^ 29) => toStmtS_own xs A c w.heap.size W (hA.keep hW) hW.size hw)
  have HL := Lib.hid (fun (W : World) (hW : Below w.heap.size w W) => hL.below hW)
  have HLN := Lib.hid (fun (W : World) (hW : Below w.heap.size w W) => hN.below hW)
  unfold maxLen at hm
  clear hfit hA hL hN
  go_enter Tryz.func10, Tryz.ntmps10
  go_wp2_with fail
  refine HSz.out.mono ?_
  rintro r w1 ⟨z, rfl, hz, hzl, hb1⟩
  by_cases hneg : z < 0
  · have q : decide (z < 0) = true := by simpa using hneg
    go_wp2_with fail
    go_ret
    exact ⟨rfl, hb1⟩
  have q : decide (z < 0) = false := by simpa using hneg
  have hwa : stWts xs ≤ 1048576 := by have := hz (by omega); omega
  have HT := Lib.hid (fun (W : World) (hW : Below w.heap.size w W) => HTo.out W hW (by omega))
  have HS := Lib.hid (fun (X : Option Addr) (k B : Nat) (W : World) (h1 : LinesAt W B X xs) (h2 : B ≤ W.heap.size) => specProgRun_any xs X k B W h1 h2 (by omega))
  have HI := Lib.hid (fun (X : Option Addr) (k B : Nat) (W : World) (hW : Below w.heap.size w W) (h1 : LinesU W B X xs) (h2 : B ≤ W.heap.size) => progRun_any xs X k B ad W h1 h2 (by omega) (HL.out W hW) (HLN.out W hW))
  unfold GivesI at HI
  have HQ := Lib.hid (fun (X Y : Option Addr) (k l B : Nat) (W : World) (h1 : LinesAt W B X xs) (h2 : LinesAt W B Y xs) (h3 : B ≤ W.heap.size) => eqStmtS_same xs X Y k l B W h1 h2 h3 (by omega))
  have HMX := Lib.hid (fun (g k lo hi : Nat) (W : World) (hB : ∃ cur, BlkS W g cur) (hO : OwnS W g xs 0 lo hi) (hg : g < lo) (hhi : hi ≤ W.heap.size) => markStmtS_any xs g k lo hi W hB hO hg hhi (by omega))
  have hlen := runP_len xs
  generalize (runP xs).2 = ok at *
  generalize (runP xs).1 = zs at *
  have qR : (ok != ok) = false := by simp
  have HSt := Lib.hid (show ∀ u ∈ zs.map intV, ∃ z, u = Value.int .i64 z by
    intro u hu
    obtain ⟨z, _, rfl⟩ := List.mem_map.1 hu
    exact ⟨z, rfl⟩)
  clear HTo HSz hz HL HLN hwa hzl
  go_wp2_with fail
  refine (HT.out w1 hb1).mono ?_
  rintro r w2 ⟨k, rfl, hk, hB2, hO2, hb2'⟩
  have hb2 := hb1.trans (hb2'.mono hb1.size)
  have hle2 := ownS_le _ _ _ _ hO2
  have HU2 := Lib.hid (ownS_lines hO2 (Nat.le_refl _) (by omega)).lines
  clear hB2 hO2 hb2'
  go_wp2_with fail
  refine (HS.out _ k w2.heap.size w2 HU2.out (Nat.le_refl _)).mono ?_
  rintro r w3 ⟨v3, b3, rfl, hrow, hb3'⟩
  have hb3 := hb2.trans (hb3'.mono hb2.size)
  obtain ⟨As, cs, e3, _, SV3⟩ := hrow.slice
  rw [List.length_map] at e3
  subst e3
  have SV := Lib.hid SV3
  clear HU2 hb3' hrow SV3
  go_wp2_with fail
  refine (HT.out w3 hb3).mono ?_
  rintro r w4 ⟨l, rfl, hl, hB4, hO4, hb4'⟩
  have hb4 := hb3.trans (hb4'.mono hb3.size)
  have hle4 := ownS_le _ _ _ _ hO4
  have HO4 := Lib.hid (And.intro hB4 hO4)
  have HU4 := Lib.hid (ownS_lines hO4 (Nat.le_refl _) (by omega))
  have hg4 : w3.heap.size < w4.heap.size := by omega
  clear hB4 hO4
  go_wp2_with fail
  refine (HI.out _ l w4.heap.size w4 hb4 HU4.out (Nat.le_refl _)).mono ?_
  rintro r w5 ⟨v5, rfl, hv5, hb5'⟩
  obtain ⟨Ag, cg, rfl, _⟩ := own_slice hv5
  have HG5 := Lib.hid hv5
  have S5 : Below w3.heap.size w3 w5 := hb4'.trans (hb5'.mono hb4'.size)
  have hb5 := hb4.trans (hb5'.mono hb4.size)
  have T5 := hb5'
  clear hv5 hb5' hb4'
  go_wp2_with fail
  refine (eqIntS_same Ag As cg cs zs w5 (by omega) (SlIs.own HG5.out) (SV.out.below S5)).mono ?_
  rintro r w6 ⟨rfl, hb6'⟩
  have S6 := S5.trans (hb6'.mono S5.size)
  have hb6 := hb5.trans (hb6'.mono hb5.size)
  have T6 := T5.trans (hb6'.mono T5.size)
  have HG6 := Lib.hid (own_below HG5.out hb6')
  clear HG5 hb6' S5 T5
  go_wp2_with fail
  refine (HT.out w6 hb6).mono ?_
  rintro r w7 ⟨m7, rfl, hm7, hB7, hO7, hb7'⟩
  have S7 := S6.trans (hb7'.mono S6.size)
  have hb7 := hb6.trans (hb7'.mono hb6.size)
  have T7 := T6.trans (hb7'.mono T6.size)
  have HG7 := Lib.hid (own_below HG6.out hb7')
  have hle7 := ownS_le _ _ _ _ hO7
  have hU7 := ownS_lines hO7 (Nat.le_refl _) (by omega)
  have HC := Lib.hid (HQ.out _ _ l m7 w7.heap.size w7 ((HU4.out.keep T7).wide T7.size).lines hU7.lines (Nat.le_refl _))
  clear hB7 hO7 hU7 hb7' HG6 S6 T6
  go_wp2_with fail
  refine HC.out.mono ?_
  rintro r w8 ⟨rfl, hb8'⟩
  have S8 := S7.trans (hb8'.mono S7.size)
  have hb8 := hb7.trans (hb8'.mono hb7.size)
  have T8 := T7.trans (hb8'.mono T7.size)
  have HG8 := Lib.hid (own_below HG7.out hb8')
  have hB8 : ∃ cur, BlkS w8 w3.heap.size cur := by
    obtain ⟨cur, h⟩ := HO4.out.1
    exact ⟨cur, h.stay (T8.block _ hg4)⟩
  have hO8 : OwnS w8 w3.heap.size xs 0 (w3.heap.size + 1) w4.heap.size := ownS_keep (fun i _ _ => T8.cell (p := ⟨w3.heap.size, i, none⟩) hg4) (fun b _ h2 => T8.block b h2) HO4.out.2
  have HM8 := Lib.hid (HMX.out w3.heap.size l (w3.heap.size + 1) w4.heap.size w8 hB8 hO8 (by omega) T8.size)
  clear HC hb8' HG7 S7 T7 hB8 hO8 HU4 HO4
  go_wp2_with fail
  refine HM8.out.mono ?_
  rintro r w9 ⟨kk, rfl, hT9⟩
  have T9 := hT9.below S8.size
  have S9 := S8.trans T9
  have hb9 := hb8.trans (T9.mono hb3.size)
  have HG9 := Lib.hid (ownsRow_turned HG8.out hT9 (Nat.le_refl _))
  have hz9 := hT9.size
  have hz8 := T8.size
  have qk : decide ((kk : Int) < 0) = false := decide_eq_false (by omega)
  clear HM8 hT9 T9 HG8 S8 T8
  go_wp2_with fail
  refine (eqIntS_same Ag As cg cs zs w9 (by omega) (SlIs.own HG9.out) (SV.out.below S9)).mono ?_
  rintro r w10 ⟨rfl, hb10'⟩
  have S10 := S9.trans (hb10'.mono S9.size)
  have hb10 := hb9.trans (hb10'.mono hb9.size)
  have HG10 := Lib.hid (own_below HG9.out hb10')
  have hz10 := hb10'.size
  clear HG9 hb10' S9
  go_wp2_with fail
  refine (markIntS_one w4.heap.size Ag cg zs.length (zs.map intV) w10 (by omega) HG10.out HSt.out).mono ?_
  rintro r w11 ⟨rfl, ho11, hb11'⟩
  have hz34 : w3.heap.size ≤ w4.heap.size := by omega
  have S11 := S10.trans (hb11'.mono hz34)
  have hb11 := hb10.trans (hb11'.mono (Nat.le_trans hb3.size hz34))
  have HG11 := Lib.hid ho11
  clear HG10 ho11 hb11' S10
  go_wp2_with fail
  refine (heldIntS_one Ag cg zs.length w11 (by omega) (SlIs.own HG11.out)).mono ?_
  rintro r w' ⟨rfl, rfl⟩
  have q3 : decide ((1 : Int) + (zs.length : Int) < 0) = false := by simp; omega
  go_wp2_with fail
  refine (HT.out w11 hb11).mono ?_
  rintro r w12 ⟨m12, rfl, hm12, hB12, hO12, hb12'⟩
  have S12 := S11.trans (hb12'.mono S11.size)
  have hb12 := hb11.trans (hb12'.mono hb11.size)
  have HG12 := Lib.hid (own_below HG11.out hb12')
  have hle12 := ownS_le _ _ _ _ hO12
  have HU12 := Lib.hid (ownS_lines hO12 (Nat.le_refl _) (by omega))
  clear hB12 hO12 hb12' HG11 S11
  go_wp2_with fail
  refine (HI.out _ m12 w12.heap.size w12 hb12 HU12.out (Nat.le_refl _)).mono ?_
  rintro r w13 ⟨v13, rfl, hv13, hb13'⟩
  obtain ⟨Ah, ch, rfl, _⟩ := own_slice hv13
  have S13 := S12.trans (hb13'.mono S12.size)
  have hb13 := hb12.trans (hb13'.mono hb12.size)
  have HG13 := Lib.hid (own_below HG12.out hb13')
  have HH := Lib.hid (SlIs.own hv13)
  clear HU12 HG12 hv13 hb13' S12
  go_wp2_with fail
  refine (eqIntS_same Ah As ch cs zs w13 (by omega) HH.out (SV.out.below S13)).mono ?_
  rintro r w14 ⟨rfl, hb14'⟩
  have hb14 := hb13.trans (hb14'.mono hb13.size)
  have HG14 := Lib.hid (own_below HG13.out hb14')
  clear HG13 hb14' HH S13
  go_wp2_with fail
  refine (heldIntS_one Ag cg zs.length w14 (by omega) (SlIs.own HG14.out)).mono ?_
  rintro r w' ⟨rfl, rfl⟩
  go_wp2_with fail
  go_ret
  exact ⟨rfl, hb14⟩
end Go.Proofs.YtfknelkbdoiokaaGreatDoor.fnExactProgRun
