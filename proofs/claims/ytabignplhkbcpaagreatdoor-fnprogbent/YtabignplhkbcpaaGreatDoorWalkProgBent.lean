/-
  'laws.FnProgBent' returns true at every code: a drawn program with a line that is none is none, so is one of more than sixteen lines and one of none; an empty line ahead turns nothing but where lines are.
  Conditions: the library's variables and the program's own error hold what their initialisers lay (tied to the program's text); every list of bytes.
-/
import Derived.Test.YtabignplhkbcpaaGreatDoorGW
import Derived.Test.YtabignplhkbcpaaGreatDoorGY
import Derived.Test.YtabignplhkbcpaaGreatDoorSpecRun
import Derived.Test.YtabignplhkbcpaaGreatDoorIsErr
import Derived.WalkKit
import Derived.ProofKit
import Derived.OpenShut
import Derived.ShutString
import Derived.ChangeOld
import Derived.Below
import Derived.Lib.SmallJoins
import Derived.SliceStrings
namespace Go.Proofs.YtabignplhkbcpaaGreatDoor.fnProgBent
open Go.ChangeShapes Go.WideShapes Go.ChangeAt Go.RowKit Go.Joins
open Go.ChangeMaps (open_string shut_string)


theorem says_len {ss : List ByteArray} {vs : List Int} {d : De} {ns : List Int} (h : saysD ss vs d = some ns) : ns.length ≤ 1 := by
  cases d with
  | noD => simp only [saysD, Option.some.injEq] at h; subst h; simp
  | letD n t p =>
    simp only [saysD, Option.map_eq_some_iff] at h
    obtain ⟨_, _, rfl⟩ := h
    simp
  | sayD p =>
    simp only [saysD, Option.map_eq_some_iff] at h
    obtain ⟨_, _, rfl⟩ := h
    simp
  | whenD p q =>
    simp only [saysD, Option.bind_eq_some_iff, Option.map_eq_some_iff] at h
    obtain ⟨_, _, _, _, rfl⟩ := h
    split <;> simp
theorem runFrom_len (ds : List De) : ∀ (ss : List ByteArray) (vs out : List Int), (runFrom ds ss vs out).1.length ≤ out.length + ds.length := by
  induction ds with
  | nil => intro ss vs out; rw [runFrom]; simp
  | cons d ds ih =>
    intro ss vs out
    rw [runFrom]
    cases h : saysD ss vs d with
    | none => simp
    | some ns =>
      have h1 := ih (toldS ss d) (toldI ss vs d) (out ++ ns)
      have h2 := says_len h
      rw [List.length_append] at h1
      rw [List.length_cons]
      show (runFrom ds (toldS ss d) (toldI ss vs d) (out ++ ns)).1.length ≤ _
      omega
theorem runP_len (xs : List St) : (runP xs).1.length ≤ 16 := by
  unfold runP
  cases h : doP xs with
  | none => simp
  | some ds =>
    have h1 := doP_some h
    have h2 := (doP_fine h).1
    have h3 := runFrom_len ds [] [] []
    simp only [List.length_nil, Nat.zero_add] at h3
    show (runFrom ds [] [] []).1.length ≤ 16
    omega
theorem stWts_app (xs ys : List St) : stWts (xs ++ ys) = stWts xs + stWts ys := by unfold stWts; rw [List.map_append, List.sum_append]
theorem stWts_empties (m : Nat) : stWts (List.replicate m emptyS) = m := by
  induction m with
  | zero => rfl
  | succ m ih =>
    have e : stWts (List.replicate (m + 1) emptyS) = (emptyS.wt + 1) + stWts (List.replicate m emptyS) := by unfold stWts; simp [List.replicate_succ]
    rw [e, ih, show emptyS.wt = 0 from rfl]; omega
def sayLd : Ld := ⟨sayNone, none, none, 0, 0⟩
def emptyLd : Ld := ⟨emptyS, none, none, 0, 0⟩
def lenOfW : Value → Nat
  | .slice _ n _ => n
  | _ => 0

theorem own_form {w : World} {base size n : Nat} {e : TypeId} {v : Value} {xs : List Value} (h : w.ownsRow base e size v n xs) (hn : 0 < n) : ∃ g cap, v = .slice (some ⟨g, 0, none⟩) n cap := by
  rcases h.2 with ⟨rfl, e⟩ | ⟨g, cap, cur, rfl, _⟩
  · omega
  · exact ⟨g, cap, rfl⟩
theorem parts_ahead {W : World} {B : Nat} {ds : List Ld} (h : ∀ d ∈ ds, (d.s.e.kids.length ≤ d.c1 ∧ d.s.t.kids.length ≤ d.c2) ∧ KidsU W B d.A1 d.s.e.kids ∧ KidsU W B d.A2 d.s.t.kids) :
    ∀ d ∈ emptyLd :: ds, (d.s.e.kids.length ≤ d.c1 ∧ d.s.t.kids.length ≤ d.c2) ∧ KidsU W B d.A1 d.s.e.kids ∧ KidsU W B d.A2 d.s.t.kids := by
  intro d hd
  rcases List.mem_cons.1 hd with rfl | hd
  · exact ⟨⟨Nat.le_refl _, Nat.le_refl _⟩, .nil, .nil⟩
  · exact h d hd

set_option maxRecDepth 100000 in
set_option maxHeartbeats 8000000 in
theorem walk (A : Option Addr) (len cap : Nat) (w : World) (h1 : InCode w A len cap) (hlaid : LaidW w ∧ ∃ a, LaidN w a) :
    Calls Tryz.prog 5 #[.slice A len cap] w fun r w' => r = .returned (.bool true) ∧ Below w.heap.size w w' := by
  obtain ⟨hL, ad, hN⟩ := hlaid
  by_cases hl1 : 1048576 < len
  · have q1 : decide ((1048576 : Int) < (len : Int)) = true := by simp; omega
    clear h1
    go_enter Tryz.func5, Tryz.ntmps5
    go_wp2_with fail
    go_ret
    exact ⟨rfl, Below.refl _ _⟩
  have q1 : decide ((1048576 : Int) < (len : Int)) = false := by simp; omega
  have HD := Lib.hid (drawProgOk_any A len cap w h1)
  have HL := Lib.hid hL
  have HLN := Lib.hid hN
  clear h1 hL hN
  go_enter Tryz.func5, Tryz.ntmps5
  go_wp2_with fail
  refine HD.out.mono ?_
  rintro r w1 ⟨A2, c2, xs, rfl, hc2, hX, hn17, hwt, hb1⟩
  have HPO := Lib.hid (fun (W : World) (hW : Below w1.heap.size w1 W) (ys : List St) (A' : Option Addr) (c' : Nat) (hY : LinesU W W.heap.size A' ys) (hwy : stWts ys ≤ 2 ^ 29) => progOk_any ys A' c' W.heap.size ad W hY (Nat.le_refl _) hwy (HL.out.below (hb1.trans (hW.mono hb1.size))) (LaidN.below HLN.out (hb1.trans (hW.mono hb1.size))))
  have HPR := Lib.hid (fun (W : World) (hW : Below w1.heap.size w1 W) (ys : List St) (A' : Option Addr) (c' : Nat) (hY : LinesU W W.heap.size A' ys) (hwy : stWts ys ≤ 2 ^ 29) => progRun_any ys A' c' W.heap.size ad W hY (Nat.le_refl _) hwy (HL.out.below (hb1.trans (hW.mono hb1.size))) (LaidN.below HLN.out (hb1.trans (hW.mono hb1.size))))
  have HPT := Lib.hid (fun (W : World) (hW : Below w1.heap.size w1 W) (ys : List St) (A' : Option Addr) (c' : Nat) (hY : LinesU W W.heap.size A' ys) (hwy : stWts ys ≤ 2 ^ 29) => progType_any ys A' c' W.heap.size ad W hY (Nat.le_refl _) hwy (HL.out.below (hb1.trans (hW.mono hb1.size))) (LaidN.below HLN.out (hb1.trans (hW.mono hb1.size))))
  have HXS := Lib.hid (fun (W : World) (hW : Below w1.heap.size w1 W) => (hX.keep hW).wide hW.size)
  have HSO := Lib.hid (fun (W : World) (hW : Below w1.heap.size w1 W) => specProgOk_any xs A2 c2 w1.heap.size W (hX.keep hW).lines hW.size (by omega))
  unfold GivesI at HPR
  obtain ⟨ds, hds, hsl, hkids⟩ := hX.ld (Nat.le_refl _)
  have HDS := Lib.hid hds
  have HSL := Lib.hid hsl
  have HKD := Lib.hid hkids
  have hdl : ds.length = xs.length := by rw [← hds, List.length_map]
  have HWT := Lib.hid (show stWts xs ≤ 2 ^ 29 by omega)
  have HWT2 := Lib.hid (show stWts xs + 2000 ≤ 2 ^ 29 by omega)
  have HTR := Lib.hid (fun (h : (doP xs).isSome = true) => show -1 ≤ typeP xs ∧ typeP xs < (xs.length : Int) by obtain ⟨d, hd⟩ := Option.isSome_iff_exists.1 h; exact typeP_range hd)
  have HA := Lib.hid (ok_ahead (xs := xs))
  have HB := Lib.hid (bent_case (xs := xs))
  have HLE := Lib.hid (ok_len (xs := xs))
  have hrl := runP_len xs
  have HO2 := Lib.hid (fun (W : World) (hW : Below w1.heap.size w1 W) => HPO.out W hW xs A2 c2 (HXS.out W hW) HWT.out)
  have HR2 := Lib.hid (fun (W : World) (hW : Below w1.heap.size w1 W) => HPR.out W hW xs A2 c2 (HXS.out W hW) HWT.out)
  have HT2 := Lib.hid (fun (W : World) (hW : Below w1.heap.size w1 W) => HPT.out W hW xs A2 c2 (HXS.out W hW) HWT.out)
  generalize hdo : (doP xs).isSome = dd at *
  clear hX HD hds hsl hkids hdo hwt
  go_wp2_with fail
  refine (HO2.out w1 (Below.refl _ _)).mono ?_
  rintro r w2 ⟨rfl, hb2⟩
  go_wp2_with fail
  refine (HSO.out w2 hb2).mono ?_
  rintro r w3 ⟨rfl, hb3'⟩
  have hb3 := hb2.trans (hb3'.mono hb2.size)
  have q3 : (dd != dd) = false := by simp
  have q4 : (dd == dd) = true := by simp
  go_wp2_with fail
  refine (HSO.out w3 hb3).mono ?_
  rintro r w4 ⟨rfl, hb4'⟩
  have hb4 := hb3.trans (hb4'.mono hb3.size)
  cases dd
  · go_wp2_with fail
    refine (HO2.out w4 hb4).mono ?_
    rintro r w5 ⟨rfl, hb5'⟩
    have hb5 := hb4.trans (hb5'.mono hb4.size)
    go_wp2_with fail
    refine (HSO.out w5 hb5).mono ?_
    rintro r w6 ⟨rfl, hb6'⟩
    go_wp2_with fail
    go_ret
    exact ⟨rfl, hb1.trans ((hb5.trans (hb6'.mono hb5.size)).mono hb1.size)⟩
  obtain ⟨hp1, hp16⟩ := HLE.out rfl
  have hA1 := HA.out rfl
  have HB1 := Lib.hid (HB.out rfl)
  have HA1 := Lib.hid hA1
  clear HA HB HLE hA1
  obtain ⟨g, off, rfl, hgw, hce⟩ : ∃ g off, A2 = some ⟨g, off, none⟩ ∧ g < w1.heap.size ∧ ∀ j u, (rowL ds)[j]? = some u → w1.cell? ⟨g, off + j, none⟩ = some u := by
    rcases HSL.out with h | h
    · have := rowL_length ds; rw [h] at this; simp at this; omega
    · exact h
  have HCE := Lib.hid (fun (W : World) (h : Below w1.heap.size w1 W) => show ∀ j u, (rowL ds)[j]? = some u → W.cell? ⟨g, off + j, none⟩ = some u from fun j u hu => (h.cell (p := ⟨g, off + j, none⟩) hgw).trans (hce j u hu))
  clear hce HSL
  -- a
  obtain ⟨V0, hV0⟩ : ∃ V0, V0 = w4.alloc (.cells #[] 36) := ⟨_, rfl⟩
  have hv0 : Below w4.heap.size w4 V0 := by rw [hV0]; exact (Below.refl _ w4).alloc (Nat.le_refl _) _
  have HE0 := Lib.hid (show V0.ownsRow w4.heap.size 36 11 (.slice (some ⟨w4.heap.size, 0, none⟩) 0 0) 0 (rowL []) from owns_at (by rw [hV0]; exact World.alloc_heap_new w4 _) (Nat.le_refl _))
  have hb5 := hb4.trans (hv0.mono hb4.size)
  have hz0 : V0.heap.size = w4.heap.size + 1 := by rw [hV0]; simp
  go_wp2_with (at_builtin; first
    | (rw [← hV0]; refine wpList_appR rfl _ _ rfl w4.heap.size _ 0 [] rfl HE0.out g off xs.length c2 ds hdl rfl (HCE.out V0 hb5) (by omega) hv0.size ?_; intro va1 W5 ra1 ga1; have HRA1 := Lib.hid (show W5.ownsRow w4.heap.size 36 11 va1 xs.length (rowL ds) by simpa using ra1); have hbA1 := hv0.trans ga1; clear ra1 ga1)
    | (refine wpList_appR rfl _ _ rfl w4.heap.size va1 xs.length ds rfl (own_below HRA1.out ((Below.refl _ W5).alloc (Nat.le_refl _) _)) W5.heap.size 0 1 1 [sayLd] rfl rfl (cells_blk' (World.alloc_heap_new W5 _)) (by omega) (hbA1.alloc hbA1.size _).size ?_; intro va2 W6 ra2 ga2; have HRA2 := Lib.hid ra2; have hbA := (hbA1.alloc hbA1.size _).trans ga2; have hb6 := hb4.trans (hbA.mono hb4.size); clear ra2 ga2)
    | (refine wpList_appR rfl _ _ rfl W6.heap.size _ 0 [] rfl (owns_at (World.alloc_heap_new W6 _) (Nat.le_refl _)) g off xs.length c2 ds hdl rfl (HCE.out _ (hb6.alloc hb6.size _)) (by omega) (by simp) ?_; intro va3 W7 ra3 ga3; have HRA3 := Lib.hid (show W7.ownsRow W6.heap.size 36 11 va3 xs.length (rowL ds) by simpa using ra3); have hbB := ((Below.refl _ W6).alloc (Nat.le_refl _) _).trans ga3; clear ra3 ga3))
  have hla := lines_row HRA2.out (by rw [List.length_append, hdl]; rfl) (parts_app (fun d hd => ⟨(HKD.out d hd).1, (HKD.out d hd).2.1.keep hb6, (HKD.out d hd).2.2.keep hb6⟩) (fun d hd => by simp at hd; subst hd; exact ⟨rfl, rfl⟩)) hb6.size
  obtain ⟨Aa, ca, hva, hca, hLa⟩ := hla
  rw [List.map_append, HDS.out] at hLa
  subst hva
  have HLa := Lib.hid (show LinesU W6 W6.heap.size Aa (xs ++ [sayNone]) from hLa)
  clear hLa HRA2 HRA1 HE0 hV0 hv0 hz0 hb5
  go_loopw [5] (fun s wr => ∃ (v : Value) (k m cc : Nat) (A : Option Addr), s = v ∧ v = .slice A k cc ∧ Hid (k = xs.length + m) ∧ k ≤ 17 ∧ Hid (wr.ownsRow W6.heap.size 36 11 v k (rowL (ds ++ List.replicate m emptyLd))) ∧ Hid (Below W6.heap.size W6 wr)) (fun s _ => 17 - lenOfW s)
  case atStart =>
    obtain ⟨g3, c3, hv3⟩ := own_form HRA3.out (by omega)
    exact ⟨va3, xs.length, 0, c3, _, rfl, hv3, Lib.hid rfl, by omega, Lib.hid (by simpa using HRA3.out), Lib.hid hbB⟩
  case round =>
    obtain ⟨v', k, m, cc, A', rfl, rfl, HKM, hn, HO, HBw⟩ := hrel
    by_cases hle : k ≤ 16
    · have e2 : decide ((k : Int) ≤ 16) = true := decide_eq_true (by omega)
      go_wp2_with (at_builtin; refine wpList_appR rfl _ _ rfl W6.heap.size _ k (ds ++ List.replicate m emptyLd) rfl (own_below HO.out ((Below.refl _ wr).alloc (Nat.le_refl _) _)) wr.heap.size 0 1 1 [emptyLd] rfl rfl (cells_blk' (World.alloc_heap_new wr _)) (by omega) (HBw.out.alloc HBw.out.size _).size ?_; intro v4 w4' r4 g4; have HR4 := Lib.hid r4; have HG4 := Lib.hid ((HBw.out.alloc HBw.out.size _).trans g4); clear r4 g4)
      obtain ⟨g5, c5, hv5⟩ := own_form HR4.out (by omega)
      go_roundw
      case rel => exact ⟨v4, k + 1, m + 1, c5, _, rfl, hv5, Lib.hid (by have := HKM.out; omega), by omega, Lib.hid (by rw [List.replicate_succ', ← List.append_assoc]; exact HR4.out), HG4⟩
      case measure => rw [hv5]; simp [lenOfW]; omega
    · have e2 : decide ((k : Int) ≤ 16) = false := decide_eq_false (by omega)
      have hb9 := hb6.trans (HBw.out.mono hb6.size)
      have hlb := lines_row HO.out (by have := HKM.out; simp [hdl]; omega) (parts_app (fun d hd => ⟨(HKD.out d hd).1, (HKD.out d hd).2.1.keep hb9, (HKD.out d hd).2.2.keep hb9⟩) (fun d hd => by rw [(List.mem_replicate.1 hd).2]; exact ⟨rfl, rfl⟩)) hb9.size
      obtain ⟨Ab, cb, hvb, hcb, hLb⟩ := hlb
      rw [List.map_append, HDS.out, List.map_replicate] at hLb
      cases hvb
      have HLb := Lib.hid (show LinesU wr wr.heap.size A' (xs ++ List.replicate m emptyS) from hLb)
      clear hLb hcb HRA3 HO
      go_wp2_with (at_builtin; refine wpList_appR rfl _ _ rfl wr.heap.size _ 1 [emptyLd] rfl (owns_one wr emptyLd) g off xs.length c2 ds hdl rfl (HCE.out _ (hb9.alloc hb9.size _)) (by omega) (by simp) ?_; intro vc Wc rc gc; have HRC := Lib.hid (show Wc.ownsRow wr.heap.size 36 11 vc (xs.length + 1) (rowL (emptyLd :: ds)) by rw [Nat.add_comm 1 xs.length] at rc; exact rc); have hbC := ((Below.refl _ wr).alloc (Nat.le_refl _) _).trans gc; clear rc gc)
      have hbc := hb9.trans (hbC.mono hb9.size)
      have hlc := lines_row HRC.out (by rw [List.length_cons, hdl]) (parts_ahead (fun d hd => ⟨(HKD.out d hd).1, (HKD.out d hd).2.1.keep hbc, (HKD.out d hd).2.2.keep hbc⟩)) hbc.size
      obtain ⟨Ac, c6, hvc, hcc, hLc⟩ := hlc
      rw [List.map_cons, HDS.out] at hLc
      subst hvc
      have HLc := Lib.hid (show LinesU Wc Wc.heap.size Ac (emptyS :: xs) from hLc)
      clear hLc hcc HRC
      have hbAC : Below W6.heap.size W6 Wc := HBw.out.trans (hbC.mono HBw.out.size)
      have hwa : stWts (xs ++ [sayNone]) ≤ 2 ^ 29 := by rw [stWts_app]; have : stWts [sayNone] ≤ 1000 := (by decide +kernel); have := HWT2.out; omega
      have hwb : stWts (xs ++ List.replicate m emptyS) ≤ 2 ^ 29 := by have := HKM.out; rw [stWts_app, stWts_empties]; have := HWT2.out; omega
      have hwc : stWts (emptyS :: xs) ≤ 2 ^ 29 := by rw [show emptyS :: xs = List.replicate 1 emptyS ++ xs from rfl, stWts_app, stWts_empties]; have := HWT2.out; omega
      have HPA := HPO.out Wc hbc (xs ++ [sayNone]) Aa ca ((HLa.out.keep hbAC).wide hbAC.size) hwa
      rw [List.length_append, show (doP (xs ++ [sayNone])).isSome = false by rw [doP_bad]; rfl] at HPA
      have HPA := Lib.hid HPA
      go_wp2_with fail
      refine HPA.out.mono ?_
      rintro r x1 ⟨rfl, hx1⟩
      have hy1 := hbc.trans (hx1.mono hbc.size)
      have hyB := hbC.trans (hx1.mono hbC.size)
      have HPB := HPO.out x1 hy1 (xs ++ List.replicate m emptyS) A' cc ((HLb.out.keep hyB).wide hyB.size) hwb
      rw [show (xs ++ List.replicate m emptyS).length = k by have := HKM.out; simp; omega, show (doP (xs ++ List.replicate m emptyS)).isSome = false by rw [doP_long (by have := HKM.out; simp; omega)]; rfl] at HPB
      have HPB := Lib.hid HPB
      go_wp2_with fail
      refine HPB.out.mono ?_
      rintro r x2 ⟨rfl, hx2'⟩
      have hx2 := hx1.trans (hx2'.mono hx1.size)
      have hy2 := hbc.trans (hx2.mono hbc.size)
      have hw0 : stWts [] ≤ 2 ^ 29 := by unfold stWts; simp
      have HPN := HPO.out x2 hy2 [] none 0 (.inl rfl) hw0
      rw [show (doP []).isSome = false from rfl] at HPN
      have HPN := Lib.hid HPN
      go_wp2_with fail
      refine HPN.out.mono ?_
      rintro r x3 ⟨rfl, hx3'⟩
      have hx3 := hx2.trans (hx3'.mono hx2.size)
      have hy3 := hbc.trans (hx3.mono hbc.size)
      have HCW := Lib.hid (fun (W : World) (h : Below Wc.heap.size Wc W) => (HLc.out.keep h).wide h.size)
      have HPC := HPO.out x3 hy3 (emptyS :: xs) Ac c6 (HCW.out x3 hx3) hwc
      rw [HA1.out, List.length_cons] at HPC
      have HPC := Lib.hid HPC
      go_wp2_with fail
      refine HPC.out.mono ?_
      rintro r x4 ⟨rfl, hx4'⟩
      have hx4 := hx3.trans (hx4'.mono hx3.size)
      have hy4 := hbc.trans (hx4.mono hbc.size)
      by_cases h16 : xs.length < 16
      · have e3 : decide (xs.length < 16) = true := decide_eq_true h16
        rw [e3]
        obtain ⟨hrun, htyp⟩ := HB1.out h16
        have HP1 := HR2.out x4 hy4
        go_wp2_with fail
        refine HP1.mono ?_
        rintro r x5 ⟨v, rfl, hv, hx5'⟩
        have hx5 := hx4.trans (hx5'.mono hx4.size)
        have hy5 := hbc.trans (hx5.mono hbc.size)
        obtain ⟨Ao, co, rfl, _⟩ := own_slice hv
        clear hv HP1
        have HP2 := HPR.out x5 hy5 (emptyS :: xs) Ac c6 (HCW.out x5 hx5) hwc
        rw [hrun, List.length_cons] at HP2
        have HP2 := Lib.hid HP2
        go_wp2_with fail
        refine HP2.out.mono ?_
        rintro r x6 ⟨v, rfl, hv, hx6'⟩
        have hx6 := hx5.trans (hx6'.mono hx5.size)
        have hy6 := hbc.trans (hx6.mono hbc.size)
        obtain ⟨Ap, cp, rfl, _⟩ := own_slice hv
        clear hv HP2
        have HP3 := Lib.hid (HT2.out x6 hy6)
        go_wp2_with fail
        refine HP3.out.mono ?_
        rintro r x7 ⟨rfl, hx7'⟩
        have hx7 := hx6.trans (hx7'.mono hx6.size)
        have hy7 := hbc.trans (hx7.mono hbc.size)
        have HP4 := HPT.out x7 hy7 (emptyS :: xs) Ac c6 (HCW.out x7 hx7) hwc
        rw [List.length_cons] at HP4
        have HP4 := Lib.hid HP4
        clear hrun
        go_wp2_with fail
        refine HP4.out.mono ?_
        rintro r x8 ⟨rfl, hx8'⟩
        have hx8 := hx7.trans (hx8'.mono hx7.size)
        have hy8 := hbc.trans (hx8.mono hbc.size)
        have htr := HTR.out (by trivial)
        generalize typeP (emptyS :: xs) = tc at *
        generalize typeP xs = t at *
        generalize (runP xs).2 = ok at *
        generalize (runP xs).1.length = rl at *
        have f1 : (ok == ok) = true := by simp
        have f2 : ((rl : Int) == (rl : Int)) = true := by simp
        clear HP3 HP4 HT2 HPT HPR HR2 HPO HO2 HB1 HA1 HTR
        rcases htyp with ⟨rfl, rfl⟩ | ⟨h0, rfl⟩
        · go_wp2_with fail
          go_ret
          exact ⟨rfl, hb1.trans (hy8.mono hb1.size)⟩
        · have f3 : decide (t < 0) = false := decide_eq_false (by omega)
          have f4 : decide (t ≥ 0) = true := decide_eq_true (by omega)
          have f5 : (t + 1 == t + 1) = true := by simp
          go_wp2_with fail
          go_ret
          exact ⟨rfl, hb1.trans (hy8.mono hb1.size)⟩
      · have e3 : decide (xs.length < 16) = false := decide_eq_false h16
        have e4 : decide ((xs.length : Int) ≥ 16) = true := decide_eq_true (by omega)
        rw [e3]
        go_wp2_with fail
        go_ret
        exact ⟨rfl, hb1.trans (hy4.mono hb1.size)⟩
end Go.Proofs.YtabignplhkbcpaaGreatDoor.fnProgBent
