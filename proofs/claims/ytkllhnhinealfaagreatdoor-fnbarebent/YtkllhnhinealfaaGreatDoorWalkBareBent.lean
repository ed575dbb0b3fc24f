/-
  'laws.FnBareBent' returns true at every code: a drawn line without types that is ok is none with a type in it, with a name that is held, or of a kind that is none; program and model agree on it.
  Conditions: the library's variables hold what their initialisers lay (tied to the program's text); every list of bytes.
-/
import Derived.Test.YtkllhnhinealfaaGreatDoorSpecBOk2
import Derived.Test.YtkllhnhinealfaaGreatDoorImplBare
import Derived.Test.YtkllhnhinealfaaGreatDoorGI
import Derived.WalkKit
import Derived.ProofKit
import Derived.OpenShut
import Derived.ShutString
import Derived.ChangeOld
import Derived.Below
import Derived.Lib.SmallJoins
import Derived.SliceStrings
namespace Go.Proofs.YtkllhnhinealfaaGreatDoor.fnBareBent
open Go.ChangeShapes Go.WideShapes Go.ChangeAt Go.RowKit Go.Joins
open Go.ChangeMaps (open_string shut_string)


theorem calls_named {f : Nat} {args : Array Value} {Y : World} {R : Ending → World → Prop} (h : ∀ Z, Z = Y → Calls Tryz.prog f args Z R) : Calls Tryz.prog f args Y R := h Y rfl
theorem kidsS_u {w : World} {S : Nat → Prop} {B : Nat} {A : Option Addr} {ks : List Ex} (h : KidsS w S A ks) (hS : ∀ b, S b → b < B) : KidsU w B A ks := by
  induction h with
  | nil => exact .nil
  | mk D c hg hb h0 h1 h2 h3 hc _ ih => exact .mk D c (hS _ hg) hb (fun j h => ⟨h0 j h, h1 j h, h2 j h, h3 j h, hc j h⟩) ih
theorem cell_alloc {w : World} {k j : Nat} {o : Obj} (h : k < w.heap.size) : (w.alloc o).cell? ⟨k, j, none⟩ = w.cell? ⟨k, j, none⟩ := World.cell?_alloc_lt w o ⟨k, j, none⟩ h
theorem not_line {s : Br} (h : ∀ d : Ba, d.fine = true → d.br ≠ s) : (boS s).isSome = false := by
  rw [Bool.eq_false_iff]
  intro h2
  obtain ⟨d, hd⟩ := Option.isSome_iff_exists.1 h2
  obtain ⟨h3, h4, _⟩ := boS_some hd
  exact h d h3 h4
theorem bent_as (k : Int) (n : ByteArray) (x t : Ex) (i : Int) (s : ByteArray) : (boS ⟨k, n, .mk 4 i s [x], t⟩).isSome = false := by
  refine not_line fun d hf hd => ?_
  have h1 := congrArg Br.e hd
  have no : ∀ p : Pt, p.okq = true → p.ex ≠ .mk 4 i s [x] := by
    intro p hp he
    have h2 := congrArg Ex.kind he
    cases p with
    | num n => exact absurd (show (1 : Int) = 4 from h2) (by decide)
    | name n => exact absurd (show (2 : Int) = 4 from h2) (by decide)
    | two s a b => exact absurd (show (3 : Int) = 4 from h2) (by decide)
    | «as» s a => simp [Pt.okq, Pt.plain] at hp
  cases d with
  | noB => exact absurd (show (0 : Int) = 4 from congrArg Ex.kind h1) (by decide)
  | prB p => exact no p hf h1
  | ifB p q => simp only [Ba.fine, Bool.and_eq_true] at hf; exact no p hf.1 h1
  | setB n p => simp only [Ba.fine, Bool.and_eq_true] at hf; exact no p hf.2 h1
theorem bent_name (k : Int) (x y : Ex) : (boS ⟨k, ⟨#[112, 114, 105, 110, 116]⟩, x, y⟩).isSome = false := by
  refine not_line fun d hf hd => ?_
  have h1 := congrArg Br.name hd
  cases d with
  | noB => exact absurd h1 (by show ByteArray.empty ≠ (⟨#[112, 114, 105, 110, 116]⟩ : ByteArray); decide)
  | prB p => exact absurd h1 (by show ByteArray.empty ≠ (⟨#[112, 114, 105, 110, 116]⟩ : ByteArray); decide)
  | ifB p q => exact absurd h1 (by show ByteArray.empty ≠ (⟨#[112, 114, 105, 110, 116]⟩ : ByteArray); decide)
  | setB n p =>
    obtain rfl : n = ⟨#[112, 114, 105, 110, 116]⟩ := h1
    simp only [Ba.fine, Bool.and_eq_true] at hf
    exact absurd hf.1 (by decide)
theorem bent_kind (n : ByteArray) (x y : Ex) : (boS ⟨4, n, x, y⟩).isSome = false := by
  refine not_line fun d hf hd => ?_
  have h1 := congrArg Br.kind hd
  cases d <;> simp [Ba.br] at h1
theorem four_boxes (X V4 : World) (A K C D : Array Value) (h : V4 = (((X.alloc (.cells A 33)).alloc (.cells K 25)).alloc (.cells C 33)).alloc (.cells D 33)) :
    V4.heap.size = X.heap.size + 4 ∧ BlkQ V4 (X.heap.size + 0) A ∧ Blk V4 (X.heap.size + 1) K ∧ BlkQ V4 (X.heap.size + 2) C ∧ BlkQ V4 (X.heap.size + 3) D ∧ Below X.heap.size X V4 := by
  subst h
  refine ⟨by simp, ?_, ?_, ?_, ?_, ((((Below.refl _ X).alloc (Nat.le_refl _) _).alloc (by simp) _).alloc (by simp <;> omega) _).alloc (by simp <;> omega) _⟩
  · unfold BlkQ
    rw [Below.heap_alloc _ _ _ (by simp <;> omega), Below.heap_alloc _ _ _ (by simp <;> omega), Below.heap_alloc _ _ _ (by simp)]
    exact World.alloc_heap_new X _
  · have h := World.alloc_heap_new (X.alloc (.cells A 33)) (.cells K 25)
    rw [World.size_alloc] at h
    unfold Blk
    rw [Below.heap_alloc _ _ _ (by simp <;> omega), Below.heap_alloc _ _ _ (by simp)]
    exact h
  · have h := World.alloc_heap_new ((X.alloc (.cells A 33)).alloc (.cells K 25)) (.cells C 33)
    rw [World.size_alloc, World.size_alloc] at h
    unfold BlkQ
    rw [Below.heap_alloc _ _ _ (by simp)]
    exact h
  · have h := World.alloc_heap_new (((X.alloc (.cells A 33)).alloc (.cells K 25)).alloc (.cells C 33)) (.cells D 33)
    rw [World.size_alloc, World.size_alloc, World.size_alloc] at h
    exact h

set_option linter.unusedVariables false in
set_option linter.unusedSimpArgs false in
set_option maxRecDepth 100000 in
set_option maxHeartbeats 16000000 in
theorem walk (A : Option Addr) (len cap : Nat) (w : World) (h1 : InCode w A len cap) (hL : LaidW w) :
    Calls Tryz.prog 4 #[.slice A len cap] w fun r w' => r = .returned (.bool true) ∧ Below w.heap.size w w' := by
  by_cases hl1 : 1048576 < len
  · have q1 : decide ((1048576 : Int) < (len : Int)) = true := by simp; omega
    clear h1
    go_enter Tryz.func4, Tryz.ntmps4
    go_wp2_with fail
    go_ret
    exact ⟨rfl, Below.refl _ _⟩
  have q1 : decide ((1048576 : Int) < (len : Int)) = false := by simp; omega
  have HD := Lib.hid (drawBareOk_any A len cap w h1)
  have HL := Lib.hid hL
  clear h1 hL
  go_enter Tryz.func4, Tryz.ntmps4
  go_wp2_with fail
  refine HD.out.mono ?_
  rintro r w1 ⟨s, A1, A2, c1, c2, rfl, hc1, hc2, hO1, hO2, hwt, hb1⟩
  have HK1 := Lib.hid (kidsS_u (B := w1.heap.size) hO1 (fun b h => h.2))
  have HK2 := Lib.hid (kidsS_u (B := w1.heap.size) hO2 (fun b h => h.2))
  obtain ⟨W2, hW2⟩ : ∃ W2, W2 = w1.alloc (.cells #[.int .i64 s.kind, .string s.name, .int .i64 s.e.kind, .int .i64 s.e.n, .string s.e.s, .slice A1 s.e.kids.length c1, .int .i64 s.t.kind, .int .i64 s.t.n, .string s.t.s, .slice A2 s.t.kids.length c2] 33) := ⟨_, rfl⟩
  have hb2' : Below w1.heap.size w1 W2 := by rw [hW2]; exact (Below.refl _ w1).alloc (Nat.le_refl _) _
  have hs2 : w1.heap.size < W2.heap.size := by rw [hW2]; simp
  have hE2 : BlkQ W2 w1.heap.size #[.int .i64 s.kind, .string s.name, .int .i64 s.e.kind, .int .i64 s.e.n, .string s.e.s, .slice A1 s.e.kids.length c1, .int .i64 s.t.kind, .int .i64 s.t.n, .string s.t.s, .slice A2 s.t.kids.length c2] := by rw [hW2]; exact World.alloc_heap_new w1 _
  have hb2 := hb1.trans (hb2'.mono hb1.size)
  have HKK := Lib.hid (fun (W : World) (hW : Below W2.heap.size W2 W) => show KidsU W w1.heap.size A1 s.e.kids ∧ KidsU W w1.heap.size A2 s.t.kids from ⟨HK1.out.keep (hb2'.trans (hW.mono hb2'.size)), HK2.out.keep (hb2'.trans (hW.mono hb2'.size))⟩)
  have HLL := Lib.hid (fun (W : World) (hW : Below W2.heap.size W2 W) => show LaidW W from HL.out.below (hb2.trans (hW.mono hb2.size)))
  have hle := fun (W : World) (hW : Below W2.heap.size W2 W) => Nat.le_trans (Nat.le_of_lt hs2) hW.size
  have HI := Lib.hid (fun (W : World) (hW : Below W2.heap.size W2 W) => bareOk_any s A1 A2 c1 c2 w1.heap.size W (HKK.out W hW).1 (HKK.out W hW).2 hc1 hc2 (hle W hW) (by omega) (HLL.out W hW))
  have HM := Lib.hid (fun (W : World) (hW : Below W2.heap.size W2 W) => specBareOk_any s A1 A2 c1 c2 w1.heap.size W (HKK.out W hW).1.kids (HKK.out W hW).2.kids hc1 hc2 (hle W hW) (by omega))
  have HT := Lib.hid (fun (W : World) (hW : Below W2.heap.size W2 W) => bareText_all s A1 A2 c1 c2 w1.heap.size W (HKK.out W hW).1 (HKK.out W hW).2 hc1 hc2 (hle W hW) (by omega) (HLL.out W hW))
  unfold brV at HM
  have HVA := Lib.hid (fun (g : Nat) (W : World) (hW : Below W2.heap.size W2 W) (hB1 : Blk W g #[.int .i64 1, .int .i64 1, .string { data := #[] }, .slice none 0 0]) => show Calls Tryz.prog 16 #[.agg #[.int .i64 s.kind, .string s.name, .int .i64 4, .int .i64 0, .string ⟨#[105, 110, 116]⟩, .slice (some ⟨g, 0, none⟩) 1 1, .int .i64 s.t.kind, .int .i64 s.t.n, .string s.t.s, .slice A2 s.t.kids.length c2]] W (fun r w' => r = .returned (.bool false) ∧ Below W.heap.size W w') from by
    have hk : KidsU W W.heap.size (some ⟨g, 0, none⟩) [Ex.mk 1 1 ⟨#[]⟩ []] := .mk (fun _ => none) (fun _ => 0) hB1.lt ⟨_, hB1⟩ (fun j h => by
      obtain rfl : j = 0 := by simpa using h
      exact ⟨hB1.cell 0, hB1.cell 1, hB1.cell 2, hB1.cell 3, Nat.le_refl _⟩) (fun j h => by
      obtain rfl : j = 0 := by simpa using h
      exact .nil)
    have h := bareOk_any ⟨s.kind, s.name, .mk 4 0 ⟨#[105, 110, 116]⟩ [.mk 1 1 ⟨#[]⟩ []], s.t⟩ (some ⟨g, 0, none⟩) A2 1 c2 W.heap.size W hk ((HKK.out W hW).2.wide (hle W hW)) (Nat.le_refl _) hc2 (Nat.le_refl _) (by have := s.parts_wt; have h3 : (Ex.mk 4 0 ⟨#[105, 110, 116]⟩ [.mk 1 1 ⟨#[]⟩ []]).wt = 4 := rfl; simp only [Br.wt]; omega) (HLL.out W hW)
    rw [bent_as] at h
    exact h)
  have HVC := Lib.hid (fun (W : World) (hW : Below W2.heap.size W2 W) => show Calls Tryz.prog 16 #[.agg #[.int .i64 s.kind, .string ⟨#[112, 114, 105, 110, 116]⟩, .int .i64 s.e.kind, .int .i64 s.e.n, .string s.e.s, .slice A1 s.e.kids.length c1, .int .i64 s.t.kind, .int .i64 s.t.n, .string s.t.s, .slice A2 s.t.kids.length c2]] W (fun r w' => r = .returned (.bool false) ∧ Below W.heap.size W w') from by
    have h := bareOk_any ⟨s.kind, ⟨#[112, 114, 105, 110, 116]⟩, s.e, s.t⟩ A1 A2 c1 c2 w1.heap.size W (HKK.out W hW).1 (HKK.out W hW).2 hc1 hc2 (hle W hW) (by have := s.parts_wt; have h3 : (⟨#[112, 114, 105, 110, 116]⟩ : ByteArray).size = 5 := rfl; simp only [Br.wt]; omega) (HLL.out W hW)
    rw [bent_name] at h
    exact h)
  have HVD := Lib.hid (fun (W : World) (hW : Below W2.heap.size W2 W) => show Calls Tryz.prog 16 #[.agg #[.int .i64 4, .string s.name, .int .i64 s.e.kind, .int .i64 s.e.n, .string s.e.s, .slice A1 s.e.kids.length c1, .int .i64 s.t.kind, .int .i64 s.t.n, .string s.t.s, .slice A2 s.t.kids.length c2]] W (fun r w' => r = .returned (.bool false) ∧ Below W.heap.size W w') from by
    have h := bareOk_any ⟨4, s.name, s.e, s.t⟩ A1 A2 c1 c2 w1.heap.size W (HKK.out W hW).1 (HKK.out W hW).2 hc1 hc2 (hle W hW) (by have := s.parts_wt; simp only [Br.wt]; omega) (HLL.out W hW)
    rw [bent_kind] at h
    exact h)
  have HS := Lib.hid (show ∀ W, Below W2.heap.size W2 W → W.cell? ⟨w1.heap.size, 0, none⟩ = some (.int .i64 s.kind) ∧ W.cell? ⟨w1.heap.size, 1, none⟩ = some (.string s.name) ∧ W.cell? ⟨w1.heap.size, 2, none⟩ = some (.int .i64 s.e.kind) ∧ W.cell? ⟨w1.heap.size, 3, none⟩ = some (.int .i64 s.e.n) ∧ W.cell? ⟨w1.heap.size, 4, none⟩ = some (.string s.e.s) ∧ W.cell? ⟨w1.heap.size, 5, none⟩ = some (.slice A1 s.e.kids.length c1) ∧ W.cell? ⟨w1.heap.size, 6, none⟩ = some (.int .i64 s.t.kind) ∧ W.cell? ⟨w1.heap.size, 7, none⟩ = some (.int .i64 s.t.n) ∧ W.cell? ⟨w1.heap.size, 8, none⟩ = some (.string s.t.s) ∧ W.cell? ⟨w1.heap.size, 9, none⟩ = some (.slice A2 s.t.kids.length c2) ∧ Below W2.heap.size W2 W from fun W hW => ⟨(hW.cell (p := ⟨w1.heap.size, 0, none⟩) hs2).trans (hE2.cell 0), (hW.cell (p := ⟨w1.heap.size, 1, none⟩) hs2).trans (hE2.cell 1), (hW.cell (p := ⟨w1.heap.size, 2, none⟩) hs2).trans (hE2.cell 2), (hW.cell (p := ⟨w1.heap.size, 3, none⟩) hs2).trans (hE2.cell 3), (hW.cell (p := ⟨w1.heap.size, 4, none⟩) hs2).trans (hE2.cell 4), (hW.cell (p := ⟨w1.heap.size, 5, none⟩) hs2).trans (hE2.cell 5), (hW.cell (p := ⟨w1.heap.size, 6, none⟩) hs2).trans (hE2.cell 6), (hW.cell (p := ⟨w1.heap.size, 7, none⟩) hs2).trans (hE2.cell 7), (hW.cell (p := ⟨w1.heap.size, 8, none⟩) hs2).trans (hE2.cell 8), (hW.cell (p := ⟨w1.heap.size, 9, none⟩) hs2).trans (hE2.cell 9), hW⟩)
  have HTN := Lib.hid (show (boS s).isSome = false → textB s = ⟨#[]⟩ from fun h => by
    unfold textB
    cases hd : boS s with
    | none => rfl
    | some d => rw [hd] at h; cases h)
  generalize (boS s).isSome = b at *
  generalize textB s = tx at *
  have BX := Below.refl W2.heap.size W2
  have HB2 := Lib.hid hb2
  have qb : (b != b) = false := by simp
  have qe : (b == b) = true := by simp
  clear HK1 HK2 hO1 hO2 hE2 hb2' hb1 hb2 hle HKK HLL HL HD hwt hc1 hc2
  obtain ⟨X, hX⟩ : ∃ X, X = W2 := ⟨_, rfl⟩
  go_wp2_with fail
  rw [← hW2]
  clear hW2
  obtain ⟨y0, y1, y2, y3, y4, y5, y6, y7, y8, y9, _⟩ := HS.out W2 BX
  rw [← hX] at y0 y1 y2 y3 y4 y5 y6 y7 y8 y9
  replace BX : Below W2.heap.size W2 X := by rw [hX]; exact BX
  rw [← hX]
  clear hX
  cases b with
  | false =>
    obtain rfl := HTN.out rfl
    go_region_held3 (fun W => W.cell? ⟨w1.heap.size, 0, none⟩ = some (.int .i64 s.kind) ∧ W.cell? ⟨w1.heap.size, 1, none⟩ = some (.string s.name) ∧ W.cell? ⟨w1.heap.size, 2, none⟩ = some (.int .i64 s.e.kind) ∧ W.cell? ⟨w1.heap.size, 3, none⟩ = some (.int .i64 s.e.n) ∧ W.cell? ⟨w1.heap.size, 4, none⟩ = some (.string s.e.s) ∧ W.cell? ⟨w1.heap.size, 5, none⟩ = some (.slice A1 s.e.kids.length c1) ∧ W.cell? ⟨w1.heap.size, 6, none⟩ = some (.int .i64 s.t.kind) ∧ W.cell? ⟨w1.heap.size, 7, none⟩ = some (.int .i64 s.t.n) ∧ W.cell? ⟨w1.heap.size, 8, none⟩ = some (.string s.t.s) ∧ W.cell? ⟨w1.heap.size, 9, none⟩ = some (.slice A2 s.t.kids.length c2) ∧ Below W2.heap.size W2 W)
      (first | with_reducible exact HS.out _ BX | with_reducible exact HS.out _ BX.drew)
      (first | (go_at_call 16; refine calls_named ?_; intro Y hY; have hXY : Below X.heap.size X Y := (by rw [hY]; first | exact Below.refl _ _ | exact (Below.refl _ _).drew); replace BX := BX.trans (hXY.mono BX.size); refine (HI.out Y BX).mono ?_; rintro r X ⟨rfl, hYX⟩; replace BX := BX.trans (hYX.mono BX.size); clear hY hXY hYX) | (go_at_call 17; refine calls_named ?_; intro Y hY; have hXY : Below X.heap.size X Y := (by rw [hY]; first | exact Below.refl _ _ | exact (Below.refl _ _).drew); replace BX := BX.trans (hXY.mono BX.size); refine (HM.out Y BX).mono ?_; rintro r X ⟨rfl, hYX⟩; replace BX := BX.trans (hYX.mono BX.size); clear hY hXY hYX))
    all_goals
      obtain ⟨y0, y1, y2, y3, y4, y5, y6, y7, y8, y9, _⟩ := HS.out X BX
      go_wp2_with fail
      go_region_held3 (fun W => W.cell? ⟨w1.heap.size, 0, none⟩ = some (.int .i64 s.kind) ∧ W.cell? ⟨w1.heap.size, 1, none⟩ = some (.string s.name) ∧ W.cell? ⟨w1.heap.size, 2, none⟩ = some (.int .i64 s.e.kind) ∧ W.cell? ⟨w1.heap.size, 3, none⟩ = some (.int .i64 s.e.n) ∧ W.cell? ⟨w1.heap.size, 4, none⟩ = some (.string s.e.s) ∧ W.cell? ⟨w1.heap.size, 5, none⟩ = some (.slice A1 s.e.kids.length c1) ∧ W.cell? ⟨w1.heap.size, 6, none⟩ = some (.int .i64 s.t.kind) ∧ W.cell? ⟨w1.heap.size, 7, none⟩ = some (.int .i64 s.t.n) ∧ W.cell? ⟨w1.heap.size, 8, none⟩ = some (.string s.t.s) ∧ W.cell? ⟨w1.heap.size, 9, none⟩ = some (.slice A2 s.t.kids.length c2) ∧ Below W2.heap.size W2 W)
        (first | with_reducible exact HS.out _ BX | with_reducible exact HS.out _ BX.drew)
        (first | (go_at_call 16; refine calls_named ?_; intro Y hY; have hXY : Below X.heap.size X Y := (by rw [hY]; first | exact Below.refl _ _ | exact (Below.refl _ _).drew); replace BX := BX.trans (hXY.mono BX.size); refine (HI.out Y BX).mono ?_; rintro r X ⟨rfl, hYX⟩; replace BX := BX.trans (hYX.mono BX.size); clear hY hXY hYX) | (go_at_call 17; refine calls_named ?_; intro Y hY; have hXY : Below X.heap.size X Y := (by rw [hY]; first | exact Below.refl _ _ | exact (Below.refl _ _).drew); replace BX := BX.trans (hXY.mono BX.size); refine (HM.out Y BX).mono ?_; rintro r X ⟨rfl, hYX⟩; replace BX := BX.trans (hYX.mono BX.size); clear hY hXY hYX) | (go_at_call 18; refine calls_named ?_; intro Y hY; have hXY : Below X.heap.size X Y := (by rw [hY]; first | exact Below.refl _ _ | exact (Below.refl _ _).drew); replace BX := BX.trans (hXY.mono BX.size); refine (HT.out Y BX).mono ?_; rintro r X ⟨rfl, hYX⟩; replace BX := BX.trans (hYX.mono BX.size); clear hY hXY hYX))
      all_goals
        go_wp2_with fail
        go_ret
        exact ⟨rfl, HB2.out.trans (BX.mono HB2.out.size)⟩
  | true =>
    go_region_held3 (fun W => W.cell? ⟨w1.heap.size, 0, none⟩ = some (.int .i64 s.kind) ∧ W.cell? ⟨w1.heap.size, 1, none⟩ = some (.string s.name) ∧ W.cell? ⟨w1.heap.size, 2, none⟩ = some (.int .i64 s.e.kind) ∧ W.cell? ⟨w1.heap.size, 3, none⟩ = some (.int .i64 s.e.n) ∧ W.cell? ⟨w1.heap.size, 4, none⟩ = some (.string s.e.s) ∧ W.cell? ⟨w1.heap.size, 5, none⟩ = some (.slice A1 s.e.kids.length c1) ∧ W.cell? ⟨w1.heap.size, 6, none⟩ = some (.int .i64 s.t.kind) ∧ W.cell? ⟨w1.heap.size, 7, none⟩ = some (.int .i64 s.t.n) ∧ W.cell? ⟨w1.heap.size, 8, none⟩ = some (.string s.t.s) ∧ W.cell? ⟨w1.heap.size, 9, none⟩ = some (.slice A2 s.t.kids.length c2) ∧ Below W2.heap.size W2 W)
      (first | with_reducible exact HS.out _ BX | with_reducible exact HS.out _ BX.drew)
      (first | (go_at_call 16; refine calls_named ?_; intro Y hY; have hXY : Below X.heap.size X Y := (by rw [hY]; first | exact Below.refl _ _ | exact (Below.refl _ _).drew); replace BX := BX.trans (hXY.mono BX.size); refine (HI.out Y BX).mono ?_; rintro r X ⟨rfl, hYX⟩; replace BX := BX.trans (hYX.mono BX.size); clear hY hXY hYX) | (go_at_call 17; refine calls_named ?_; intro Y hY; have hXY : Below X.heap.size X Y := (by rw [hY]; first | exact Below.refl _ _ | exact (Below.refl _ _).drew); replace BX := BX.trans (hXY.mono BX.size); refine (HM.out Y BX).mono ?_; rintro r X ⟨rfl, hYX⟩; replace BX := BX.trans (hYX.mono BX.size); clear hY hXY hYX))
    all_goals
      obtain ⟨y0, y1, y2, y3, y4, y5, y6, y7, y8, y9, _⟩ := HS.out X BX
      obtain ⟨V4, hV4⟩ : ∃ V4, V4 = (((X.alloc (.cells #[.int .i64 s.kind, .string s.name, .int .i64 4, .int .i64 0, .string ⟨#[105, 110, 116]⟩, .slice (some ⟨X.heap.size + 1, 0, none⟩) 1 1, .int .i64 s.t.kind, .int .i64 s.t.n, .string s.t.s, .slice A2 s.t.kids.length c2] 33)).alloc (.cells #[.int .i64 1, .int .i64 1, .string { data := #[] }, .slice none 0 0] 25)).alloc (.cells #[.int .i64 s.kind, .string ⟨#[112, 114, 105, 110, 116]⟩, .int .i64 s.e.kind, .int .i64 s.e.n, .string s.e.s, .slice A1 s.e.kids.length c1, .int .i64 s.t.kind, .int .i64 s.t.n, .string s.t.s, .slice A2 s.t.kids.length c2] 33)).alloc (.cells #[.int .i64 4, .string s.name, .int .i64 s.e.kind, .int .i64 s.e.n, .string s.e.s, .slice A1 s.e.kids.length c1, .int .i64 s.t.kind, .int .i64 s.t.n, .string s.t.s, .slice A2 s.t.kids.length c2] 33) := ⟨_, rfl⟩
      obtain ⟨hz4, hB0, hB1, hB2, hB3, hXV⟩ := four_boxes X V4 _ _ _ _ hV4
      have BV : Below W2.heap.size W2 V4 := BX.trans (hXV.mono BX.size)
      have ka0 : V4.cell? ⟨X.heap.size + 0, 0, none⟩ = some (.int .i64 s.kind) := hB0.cell 0
      have ka1 : V4.cell? ⟨X.heap.size + 0, 1, none⟩ = some (.string s.name) := hB0.cell 1
      have ka2 : V4.cell? ⟨X.heap.size + 0, 2, none⟩ = some (.int .i64 4) := hB0.cell 2
      have ka3 : V4.cell? ⟨X.heap.size + 0, 3, none⟩ = some (.int .i64 0) := hB0.cell 3
      have ka4 : V4.cell? ⟨X.heap.size + 0, 4, none⟩ = some (.string ⟨#[105, 110, 116]⟩) := hB0.cell 4
      have ka5 : V4.cell? ⟨X.heap.size + 0, 5, none⟩ = some (.slice (some ⟨X.heap.size + 1, 0, none⟩) 1 1) := hB0.cell 5
      have ka6 : V4.cell? ⟨X.heap.size + 0, 6, none⟩ = some (.int .i64 s.t.kind) := hB0.cell 6
      have ka7 : V4.cell? ⟨X.heap.size + 0, 7, none⟩ = some (.int .i64 s.t.n) := hB0.cell 7
      have ka8 : V4.cell? ⟨X.heap.size + 0, 8, none⟩ = some (.string s.t.s) := hB0.cell 8
      have ka9 : V4.cell? ⟨X.heap.size + 0, 9, none⟩ = some (.slice A2 s.t.kids.length c2) := hB0.cell 9
      have kc0 : V4.cell? ⟨X.heap.size + 2, 0, none⟩ = some (.int .i64 s.kind) := hB2.cell 0
      have kc1 : V4.cell? ⟨X.heap.size + 2, 1, none⟩ = some (.string ⟨#[112, 114, 105, 110, 116]⟩) := hB2.cell 1
      have kc2 : V4.cell? ⟨X.heap.size + 2, 2, none⟩ = some (.int .i64 s.e.kind) := hB2.cell 2
      have kc3 : V4.cell? ⟨X.heap.size + 2, 3, none⟩ = some (.int .i64 s.e.n) := hB2.cell 3
      have kc4 : V4.cell? ⟨X.heap.size + 2, 4, none⟩ = some (.string s.e.s) := hB2.cell 4
      have kc5 : V4.cell? ⟨X.heap.size + 2, 5, none⟩ = some (.slice A1 s.e.kids.length c1) := hB2.cell 5
      have kc6 : V4.cell? ⟨X.heap.size + 2, 6, none⟩ = some (.int .i64 s.t.kind) := hB2.cell 6
      have kc7 : V4.cell? ⟨X.heap.size + 2, 7, none⟩ = some (.int .i64 s.t.n) := hB2.cell 7
      have kc8 : V4.cell? ⟨X.heap.size + 2, 8, none⟩ = some (.string s.t.s) := hB2.cell 8
      have kc9 : V4.cell? ⟨X.heap.size + 2, 9, none⟩ = some (.slice A2 s.t.kids.length c2) := hB2.cell 9
      have kd0 : V4.cell? ⟨X.heap.size + 3, 0, none⟩ = some (.int .i64 4) := hB3.cell 0
      have kd1 : V4.cell? ⟨X.heap.size + 3, 1, none⟩ = some (.string s.name) := hB3.cell 1
      have kd2 : V4.cell? ⟨X.heap.size + 3, 2, none⟩ = some (.int .i64 s.e.kind) := hB3.cell 2
      have kd3 : V4.cell? ⟨X.heap.size + 3, 3, none⟩ = some (.int .i64 s.e.n) := hB3.cell 3
      have kd4 : V4.cell? ⟨X.heap.size + 3, 4, none⟩ = some (.string s.e.s) := hB3.cell 4
      have kd5 : V4.cell? ⟨X.heap.size + 3, 5, none⟩ = some (.slice A1 s.e.kids.length c1) := hB3.cell 5
      have kd6 : V4.cell? ⟨X.heap.size + 3, 6, none⟩ = some (.int .i64 s.t.kind) := hB3.cell 6
      have kd7 : V4.cell? ⟨X.heap.size + 3, 7, none⟩ = some (.int .i64 s.t.n) := hB3.cell 7
      have kd8 : V4.cell? ⟨X.heap.size + 3, 8, none⟩ = some (.string s.t.s) := hB3.cell 8
      have kd9 : V4.cell? ⟨X.heap.size + 3, 9, none⟩ = some (.slice A2 s.t.kids.length c2) := hB3.cell 9
      have HZ4 := Lib.hid hz4
      have HVA4 := Lib.hid (HVA.out (X.heap.size + 1) V4 BV hB1)
      clear hB0 hB1 hB2 hB3 hXV hz4 HVA
      have HS0 := Lib.hid (show X.heap.size + 3 < V4.heap.size from by have := HZ4.out; omega)
      have hlx : w1.heap.size < X.heap.size := Nat.lt_of_lt_of_le hs2 BX.size
      have m0 := fun o => (cell_alloc (j := 0) (o := o) hlx).trans y0
      have n0 := fun o o' => (cell_alloc (w := X.alloc o) (j := 0) (o := o') (by rw [World.size_alloc]; omega)).trans (m0 o)
      have u0 := fun o o' o2 => (cell_alloc (w := (X.alloc o).alloc o') (j := 0) (o := o2) (by rw [World.size_alloc, World.size_alloc]; omega)).trans (n0 o o')
      have m1 := fun o => (cell_alloc (j := 1) (o := o) hlx).trans y1
      have n1 := fun o o' => (cell_alloc (w := X.alloc o) (j := 1) (o := o') (by rw [World.size_alloc]; omega)).trans (m1 o)
      have u1 := fun o o' o2 => (cell_alloc (w := (X.alloc o).alloc o') (j := 1) (o := o2) (by rw [World.size_alloc, World.size_alloc]; omega)).trans (n1 o o')
      have m2 := fun o => (cell_alloc (j := 2) (o := o) hlx).trans y2
      have n2 := fun o o' => (cell_alloc (w := X.alloc o) (j := 2) (o := o') (by rw [World.size_alloc]; omega)).trans (m2 o)
      have u2 := fun o o' o2 => (cell_alloc (w := (X.alloc o).alloc o') (j := 2) (o := o2) (by rw [World.size_alloc, World.size_alloc]; omega)).trans (n2 o o')
      have m3 := fun o => (cell_alloc (j := 3) (o := o) hlx).trans y3
      have n3 := fun o o' => (cell_alloc (w := X.alloc o) (j := 3) (o := o') (by rw [World.size_alloc]; omega)).trans (m3 o)
      have u3 := fun o o' o2 => (cell_alloc (w := (X.alloc o).alloc o') (j := 3) (o := o2) (by rw [World.size_alloc, World.size_alloc]; omega)).trans (n3 o o')
      have m4 := fun o => (cell_alloc (j := 4) (o := o) hlx).trans y4
      have n4 := fun o o' => (cell_alloc (w := X.alloc o) (j := 4) (o := o') (by rw [World.size_alloc]; omega)).trans (m4 o)
      have u4 := fun o o' o2 => (cell_alloc (w := (X.alloc o).alloc o') (j := 4) (o := o2) (by rw [World.size_alloc, World.size_alloc]; omega)).trans (n4 o o')
      have m5 := fun o => (cell_alloc (j := 5) (o := o) hlx).trans y5
      have n5 := fun o o' => (cell_alloc (w := X.alloc o) (j := 5) (o := o') (by rw [World.size_alloc]; omega)).trans (m5 o)
      have u5 := fun o o' o2 => (cell_alloc (w := (X.alloc o).alloc o') (j := 5) (o := o2) (by rw [World.size_alloc, World.size_alloc]; omega)).trans (n5 o o')
      have m6 := fun o => (cell_alloc (j := 6) (o := o) hlx).trans y6
      have n6 := fun o o' => (cell_alloc (w := X.alloc o) (j := 6) (o := o') (by rw [World.size_alloc]; omega)).trans (m6 o)
      have u6 := fun o o' o2 => (cell_alloc (w := (X.alloc o).alloc o') (j := 6) (o := o2) (by rw [World.size_alloc, World.size_alloc]; omega)).trans (n6 o o')
      have m7 := fun o => (cell_alloc (j := 7) (o := o) hlx).trans y7
      have n7 := fun o o' => (cell_alloc (w := X.alloc o) (j := 7) (o := o') (by rw [World.size_alloc]; omega)).trans (m7 o)
      have u7 := fun o o' o2 => (cell_alloc (w := (X.alloc o).alloc o') (j := 7) (o := o2) (by rw [World.size_alloc, World.size_alloc]; omega)).trans (n7 o o')
      have m8 := fun o => (cell_alloc (j := 8) (o := o) hlx).trans y8
      have n8 := fun o o' => (cell_alloc (w := X.alloc o) (j := 8) (o := o') (by rw [World.size_alloc]; omega)).trans (m8 o)
      have u8 := fun o o' o2 => (cell_alloc (w := (X.alloc o).alloc o') (j := 8) (o := o2) (by rw [World.size_alloc, World.size_alloc]; omega)).trans (n8 o o')
      have m9 := fun o => (cell_alloc (j := 9) (o := o) hlx).trans y9
      have n9 := fun o o' => (cell_alloc (w := X.alloc o) (j := 9) (o := o') (by rw [World.size_alloc]; omega)).trans (m9 o)
      have u9 := fun o o' o2 => (cell_alloc (w := (X.alloc o).alloc o') (j := 9) (o := o2) (by rw [World.size_alloc, World.size_alloc]; omega)).trans (n9 o o')
      rw [hV4] at ka0 ka1 ka2 ka3 ka4 ka5 ka6 ka7 ka8 ka9
      go_wp2_with fail
      rw [← hV4]
      clear hV4 ka0 ka1 ka2 ka3 ka4 ka5 ka6 ka7 ka8 ka9
      refine HVA4.out.mono ?_
      rintro r X1 ⟨rfl, hb1⟩
      have BV1 := BV.trans (hb1.mono BV.size)
      replace kc0 := (hb1.cell (p := ⟨X.heap.size + 2, 0, none⟩) (by have := HS0.out; show X.heap.size + 2 < _; omega)).trans kc0
      replace kc1 := (hb1.cell (p := ⟨X.heap.size + 2, 1, none⟩) (by have := HS0.out; show X.heap.size + 2 < _; omega)).trans kc1
      replace kc2 := (hb1.cell (p := ⟨X.heap.size + 2, 2, none⟩) (by have := HS0.out; show X.heap.size + 2 < _; omega)).trans kc2
      replace kc3 := (hb1.cell (p := ⟨X.heap.size + 2, 3, none⟩) (by have := HS0.out; show X.heap.size + 2 < _; omega)).trans kc3
      replace kc4 := (hb1.cell (p := ⟨X.heap.size + 2, 4, none⟩) (by have := HS0.out; show X.heap.size + 2 < _; omega)).trans kc4
      replace kc5 := (hb1.cell (p := ⟨X.heap.size + 2, 5, none⟩) (by have := HS0.out; show X.heap.size + 2 < _; omega)).trans kc5
      replace kc6 := (hb1.cell (p := ⟨X.heap.size + 2, 6, none⟩) (by have := HS0.out; show X.heap.size + 2 < _; omega)).trans kc6
      replace kc7 := (hb1.cell (p := ⟨X.heap.size + 2, 7, none⟩) (by have := HS0.out; show X.heap.size + 2 < _; omega)).trans kc7
      replace kc8 := (hb1.cell (p := ⟨X.heap.size + 2, 8, none⟩) (by have := HS0.out; show X.heap.size + 2 < _; omega)).trans kc8
      replace kc9 := (hb1.cell (p := ⟨X.heap.size + 2, 9, none⟩) (by have := HS0.out; show X.heap.size + 2 < _; omega)).trans kc9
      replace kd0 := (hb1.cell (p := ⟨X.heap.size + 3, 0, none⟩) (by have := HS0.out; show X.heap.size + 3 < _; omega)).trans kd0
      replace kd1 := (hb1.cell (p := ⟨X.heap.size + 3, 1, none⟩) (by have := HS0.out; show X.heap.size + 3 < _; omega)).trans kd1
      replace kd2 := (hb1.cell (p := ⟨X.heap.size + 3, 2, none⟩) (by have := HS0.out; show X.heap.size + 3 < _; omega)).trans kd2
      replace kd3 := (hb1.cell (p := ⟨X.heap.size + 3, 3, none⟩) (by have := HS0.out; show X.heap.size + 3 < _; omega)).trans kd3
      replace kd4 := (hb1.cell (p := ⟨X.heap.size + 3, 4, none⟩) (by have := HS0.out; show X.heap.size + 3 < _; omega)).trans kd4
      replace kd5 := (hb1.cell (p := ⟨X.heap.size + 3, 5, none⟩) (by have := HS0.out; show X.heap.size + 3 < _; omega)).trans kd5
      replace kd6 := (hb1.cell (p := ⟨X.heap.size + 3, 6, none⟩) (by have := HS0.out; show X.heap.size + 3 < _; omega)).trans kd6
      replace kd7 := (hb1.cell (p := ⟨X.heap.size + 3, 7, none⟩) (by have := HS0.out; show X.heap.size + 3 < _; omega)).trans kd7
      replace kd8 := (hb1.cell (p := ⟨X.heap.size + 3, 8, none⟩) (by have := HS0.out; show X.heap.size + 3 < _; omega)).trans kd8
      replace kd9 := (hb1.cell (p := ⟨X.heap.size + 3, 9, none⟩) (by have := HS0.out; show X.heap.size + 3 < _; omega)).trans kd9
      have HZ1 := Lib.hid hb1.size
      clear hb1
      go_wp2_with fail
      refine (HVC.out X1 BV1).mono ?_
      rintro r X2 ⟨rfl, hb2⟩
      have BV2 := BV1.trans (hb2.mono BV1.size)
      replace kd0 := (hb2.cell (p := ⟨X.heap.size + 3, 0, none⟩) (by have := HS0.out; have := HZ1.out; show X.heap.size + 3 < _; omega)).trans kd0
      replace kd1 := (hb2.cell (p := ⟨X.heap.size + 3, 1, none⟩) (by have := HS0.out; have := HZ1.out; show X.heap.size + 3 < _; omega)).trans kd1
      replace kd2 := (hb2.cell (p := ⟨X.heap.size + 3, 2, none⟩) (by have := HS0.out; have := HZ1.out; show X.heap.size + 3 < _; omega)).trans kd2
      replace kd3 := (hb2.cell (p := ⟨X.heap.size + 3, 3, none⟩) (by have := HS0.out; have := HZ1.out; show X.heap.size + 3 < _; omega)).trans kd3
      replace kd4 := (hb2.cell (p := ⟨X.heap.size + 3, 4, none⟩) (by have := HS0.out; have := HZ1.out; show X.heap.size + 3 < _; omega)).trans kd4
      replace kd5 := (hb2.cell (p := ⟨X.heap.size + 3, 5, none⟩) (by have := HS0.out; have := HZ1.out; show X.heap.size + 3 < _; omega)).trans kd5
      replace kd6 := (hb2.cell (p := ⟨X.heap.size + 3, 6, none⟩) (by have := HS0.out; have := HZ1.out; show X.heap.size + 3 < _; omega)).trans kd6
      replace kd7 := (hb2.cell (p := ⟨X.heap.size + 3, 7, none⟩) (by have := HS0.out; have := HZ1.out; show X.heap.size + 3 < _; omega)).trans kd7
      replace kd8 := (hb2.cell (p := ⟨X.heap.size + 3, 8, none⟩) (by have := HS0.out; have := HZ1.out; show X.heap.size + 3 < _; omega)).trans kd8
      replace kd9 := (hb2.cell (p := ⟨X.heap.size + 3, 9, none⟩) (by have := HS0.out; have := HZ1.out; show X.heap.size + 3 < _; omega)).trans kd9
      clear hb2 kc0 kc1 kc2 kc3 kc4 kc5 kc6 kc7 kc8 kc9
      go_wp2_with fail
      refine (HVD.out X2 BV2).mono ?_
      rintro r X3 ⟨rfl, hb3⟩
      have BV3 := BV2.trans (hb3.mono BV2.size)
      go_wp2_with fail
      go_ret
      exact ⟨rfl, HB2.out.trans (BV3.mono HB2.out.size)⟩
end Go.Proofs.YtkllhnhinealfaaGreatDoor.fnBareBent
