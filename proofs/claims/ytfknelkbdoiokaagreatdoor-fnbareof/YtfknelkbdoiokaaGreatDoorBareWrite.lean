/-
  The contracts of the method write of lines without types, whatever sends the words on.
-/
import Derived.Test.YtfknelkbdoiokaaGreatDoorBareLn
import Derived.Test.YtfknelkbdoiokaaGreatDoorDeedText
namespace Go.Proofs.YtfknelkbdoiokaaGreatDoor
open Go.RowKit

/-- The line writes its words behind those that are there. -/
def BWrites (FN : Nat) (f : List ByteArray → ByteArray → List ByteArray) (W0 : World) (g : Nat) (d : Ba) : Prop := ∀ (w : World) (xs : List ByteArray), Below W0.heap.size W0 w → Lst W0.heap.size g xs w → xs.length ≤ 1000 → Calls Tryz.prog (fBWrite d) #[baU d, sendW FN g] w (PutsG f W0.heap.size g xs d.words w)
set_option linter.unusedVariables false in
set_option maxRecDepth 100000 in
set_option maxHeartbeats 8000000 in
theorem bwrite_gen {FN : Nat} {f : List ByteArray → ByteArray → List ByteArray} {W0 : World} (hL0 : LaidW W0) {g : Nat} (hSD : Sends FN f W0 g) (d : Ba) : d.fine = true → BWrites FN f W0 g d := by
  have HWR := Lib.hid (fun (p : Pt) (hp : p.fine = true) => write_gen hL0 hSD p hp)
  unfold WritesG at HWR
  obtain ⟨nF, hl, hS⟩ := hSD
  have HS := Lib.hid hS
  have HFL := Lib.hid (fl hl)
  clear hS hl hL0
  intro hf w xs hb hL hx
  have hnod : ∀ {p : Pt}, p.okq = true → p.nodes ≤ 12 ∧ p.words.length ≤ 72 := by
    intro p hq
    have hp := Pt.okq_ok hq
    have h1 := p.words_length
    simp only [Pt.ok, Bool.and_eq_true, decide_eq_true_eq] at hp
    have h2 := hp.2.2
    exact ⟨h2, by omega⟩
  cases d with
  | noB =>
    show Calls Tryz.prog 254 #[.agg #[], sendW FN g] w (PutsG f W0.heap.size g xs [] w)
    have hb0 : Below w.heap.size w (w.alloc (.cells #[] 194)) := (Below.refl _ w).alloc (Nat.le_refl _) _
    have HL := Lib.hid hL
    clear hL hnod
    unfold sendW
    go_enter Tryz.func254, Tryz.ntmps254
    go_wp2_with fail
    go_end0
    exact ⟨⟨_, rfl⟩, HL.out.below hb0, hb0.mono hb.size, Rest.below hb0⟩
  | prB p =>
    have hpo : p.okq = true := hf
    obtain ⟨hn, hwl⟩ := hnod hpo
    show Calls Tryz.prog 248 #[.agg #[partV p], sendW FN g] w (PutsG f W0.heap.size g xs (sPrint :: p.words) w)
    obtain ⟨m1, n1, k1⟩ := meth_write p
    have HP := Lib.hid (HWR.out p (ok_fine (Pt.okq_ok hpo)))
    clear HWR
    rw [partV_at p]
    generalize p.words = ws at *
    generalize ptT p = t1 at *
    generalize ptU p = u1 at *
    generalize fWrite p = f1 at *
    have hb0 : Below w.heap.size w (w.alloc (.cells #[.iface t1 u1] 191)) := (Below.refl _ w).alloc (Nat.le_refl _) _
    have hnew := heap_new w #[.iface t1 u1] 191
    have hgw := hL.ltB
    have HL := Lib.hid (hL.below hb0)
    unfold sendW at *
    clear hL hnod hf hpo
    go_enter Tryz.func248, Tryz.ntmps248
    go_wp2_with fail
    refine (HS.out sPrint _ xs (hb.trans (hb0.mono hb.size)) HL.out (by omega) (by decide)).mono ?_
    rintro r w1 ⟨⟨v1, rfl⟩, L1, b1, R1⟩
    have B1 := (hb.trans (hb0.mono hb.size)).trans b1
    have c1 : w1.cell? ⟨w.heap.size, 0, none⟩ = some (.iface t1 u1) := R1.cell (j := 0) hnew (by decide) (by omega) rfl
    have hl1 := HFL.out [sPrint] xs
    rw [List.length_singleton] at hl1
    go_wp2_with fail
    refine (HP.out w1 _ B1 L1 (by omega)).mono ?_
    rintro r w2 ⟨⟨v2, rfl⟩, L2, b2, R2⟩
    go_wp2_with fail
    go_end0
    exact ⟨⟨_, rfl⟩, by simpa using L2, (hb0.mono hb.size).trans (b1.trans b2), (Rest.below hb0).trans (R1.trans R2)⟩
  | ifB p q =>
    simp only [Ba.fine, Bool.and_eq_true] at hf
    obtain ⟨hn, hwl⟩ := hnod hf.1
    obtain ⟨hn2, hwl2⟩ := hnod hf.2
    show Calls Tryz.prog 251 #[.agg #[partV p, partV q], sendW FN g] w (PutsG f W0.heap.size g xs (sIf :: p.words ++ (sColon :: sPrint :: q.words)) w)
    obtain ⟨m1, n1, k1⟩ := meth_write p
    obtain ⟨m2, n2, k2⟩ := meth_write q
    have HP := Lib.hid (HWR.out p (ok_fine (Pt.okq_ok hf.1)))
    have HQ := Lib.hid (HWR.out q (ok_fine (Pt.okq_ok hf.2)))
    clear HWR
    rw [partV_at p, partV_at q]
    generalize p.words = ws at *
    generalize ptT p = t1 at *
    generalize ptU p = u1 at *
    generalize fWrite p = f1 at *
    generalize q.words = vs at *
    generalize ptT q = t2 at *
    generalize ptU q = u2 at *
    generalize fWrite q = f2 at *
    have hb0 : Below w.heap.size w (w.alloc (.cells #[.iface t1 u1, .iface t2 u2] 193)) := (Below.refl _ w).alloc (Nat.le_refl _) _
    have hnew := heap_new w #[.iface t1 u1, .iface t2 u2] 193
    have hgw := hL.ltB
    have HL := Lib.hid (hL.below hb0)
    unfold sendW at *
    clear hL hnod hf
    go_enter Tryz.func251, Tryz.ntmps251
    go_wp2_with fail
    refine (HS.out sIf _ xs (hb.trans (hb0.mono hb.size)) HL.out (by omega) (by decide)).mono ?_
    rintro r w1 ⟨⟨v1, rfl⟩, L1, b1, R1⟩
    have B1 := (hb.trans (hb0.mono hb.size)).trans b1
    have c1 : w1.cell? ⟨w.heap.size, 0, none⟩ = some (.iface t1 u1) := R1.cell (j := 0) hnew (by decide) (by omega) rfl
    have h1n := R1.old _ _ _ _ hnew (by decide) (by omega)
    have hl1 := HFL.out [sIf] xs
    rw [List.length_singleton] at hl1
    go_wp2_with fail
    refine (HP.out w1 _ B1 L1 (by omega)).mono ?_
    rintro r w2 ⟨⟨v2, rfl⟩, L2, b2, R2⟩
    have B2 := B1.trans b2
    have h2n := R2.old _ _ _ _ h1n (by decide) (by omega)
    have hl2 := HFL.out ws ([sIf].foldl f xs)
    go_wp2_with fail
    refine (HS.out sColon w2 _ B2 L2 (by omega) (by decide)).mono ?_
    rintro r w3 ⟨⟨v3, rfl⟩, L3, b3, R3⟩
    have B3 := B2.trans b3
    have h3n := R3.old _ _ _ _ h2n (by decide) (by omega)
    have hl3 := HFL.out [sColon] (ws.foldl f ([sIf].foldl f xs))
    rw [List.length_singleton] at hl3
    go_wp2_with fail
    refine (HS.out sPrint w3 _ B3 L3 (by omega) (by decide)).mono ?_
    rintro r w4 ⟨⟨v4, rfl⟩, L4, b4, R4⟩
    have B4 := B3.trans b4
    have c4 : w4.cell? ⟨w.heap.size, 1, none⟩ = some (.iface t2 u2) := R4.cell (j := 1) h3n (by decide) (by omega) rfl
    have hl4 := HFL.out [sPrint] ([sColon].foldl f (ws.foldl f ([sIf].foldl f xs)))
    rw [List.length_singleton] at hl4
    go_wp2_with fail
    refine (HQ.out w4 _ B4 L4 (by omega)).mono ?_
    rintro r w5 ⟨⟨v5, rfl⟩, L5, b5, R5⟩
    go_wp2_with fail
    go_end0
    exact ⟨⟨_, rfl⟩, by simpa using L5, (hb0.mono hb.size).trans (b1.trans (b2.trans (b3.trans (b4.trans b5)))), (Rest.below hb0).trans (R1.trans (R2.trans (R3.trans (R4.trans R5))))⟩
  | setB n p =>
    simp only [Ba.fine, Bool.and_eq_true] at hf
    obtain ⟨hn, hwl⟩ := hnod hf.2
    have hsn : n.size ≤ 2 ^ 40 := by have := name_size8 hf.1; omega
    show Calls Tryz.prog 245 #[.agg #[.string n, partV p], sendW FN g] w (PutsG f W0.heap.size g xs ([n, sEq] ++ p.words) w)
    obtain ⟨m1, n1, k1⟩ := meth_write p
    have HP := Lib.hid (HWR.out p (ok_fine (Pt.okq_ok hf.2)))
    clear HWR
    rw [partV_at p]
    generalize p.words = ws at *
    generalize ptT p = t1 at *
    generalize ptU p = u1 at *
    generalize fWrite p = f1 at *
    have hb0 : Below w.heap.size w (w.alloc (.cells #[.string n, .iface t1 u1] 189)) := (Below.refl _ w).alloc (Nat.le_refl _) _
    have hnew := heap_new w #[.string n, .iface t1 u1] 189
    have hgw := hL.ltB
    have HL := Lib.hid (hL.below hb0)
    unfold sendW at *
    clear hL hnod hf
    go_enter Tryz.func245, Tryz.ntmps245
    go_wp2_with fail
    refine (HS.out n _ xs (hb.trans (hb0.mono hb.size)) HL.out (by omega) hsn).mono ?_
    rintro r w1 ⟨⟨v1, rfl⟩, L1, b1, R1⟩
    have B1 := (hb.trans (hb0.mono hb.size)).trans b1
    have h1n := R1.old _ _ _ _ hnew (by decide) (by omega)
    have hl1 := HFL.out [n] xs
    rw [List.length_singleton] at hl1
    go_wp2_with fail
    refine (HS.out sEq w1 _ B1 L1 (by omega) (by decide)).mono ?_
    rintro r w2 ⟨⟨v2, rfl⟩, L2, b2, R2⟩
    have B2 := B1.trans b2
    have c2 : w2.cell? ⟨w.heap.size, 1, none⟩ = some (.iface t1 u1) := R2.cell (j := 1) h1n (by decide) (by omega) rfl
    have hl2 := HFL.out [sEq] ([n].foldl f xs)
    rw [List.length_singleton] at hl2
    go_wp2_with fail
    refine (HP.out w2 _ B2 L2 (by omega)).mono ?_
    rintro r w3 ⟨⟨v3, rfl⟩, L3, b3, R3⟩
    go_wp2_with fail
    go_end0
    exact ⟨⟨_, rfl⟩, by simpa using L3, (hb0.mono hb.size).trans (b1.trans (b2.trans b3)), (Rest.below hb0).trans (R1.trans (R2.trans R3))⟩
theorem Ba.words_small {d : Ba} (h : d.fine = true) : ∀ s ∈ d.words, s.size ≤ 8 := by
  cases d with
  | noB => intro s hs; simp [Ba.words] at hs
  | setB n p =>
    simp only [Ba.fine, Bool.and_eq_true] at h
    intro s hs
    simp only [Ba.words, List.mem_append, List.mem_cons, List.not_mem_nil, or_false] at hs
    rcases hs with (rfl | rfl) | hs
    · exact name_size8 h.1
    · decide
    · exact Go.Proofs.YtfknelkbdoiokaaGreatDoor.words_small p (ok_fine (Pt.okq_ok h.2)) s hs
  | prB p =>
    intro s hs
    simp only [Ba.words, List.mem_cons] at hs
    rcases hs with rfl | hs
    · decide
    · exact Go.Proofs.YtfknelkbdoiokaaGreatDoor.words_small p (ok_fine (Pt.okq_ok h)) s hs
  | ifB p q =>
    simp only [Ba.fine, Bool.and_eq_true] at h
    intro s hs
    simp only [Ba.words, List.cons_append, List.mem_append, List.mem_cons] at hs
    rcases hs with rfl | hs | rfl | rfl | hs
    · decide
    · exact Go.Proofs.YtfknelkbdoiokaaGreatDoor.words_small p (ok_fine (Pt.okq_ok h.1)) s hs
    · decide
    · decide
    · exact Go.Proofs.YtfknelkbdoiokaaGreatDoor.words_small q (ok_fine (Pt.okq_ok h.2)) s hs

theorem bareText_any (d : Ba) (hf : d.fine = true) (w : World) (hL : LaidW w) :
    Calls Tryz.prog 68 #[baV d] w fun r w' => r = .returned (.string d.text) ∧ Below w.heap.size w w' :=
  wordedText_gen (baT d) (baU d) (fBWrite d) d.words (meth_bwrite d) (Ba.words_length hf) (Ba.words_small hf) w (bwrite_gen hL (sends_deed w w.heap.size) d hf _ [] ((Below.refl _ w).alloc (Nat.le_refl _) _) ⟨Nat.le_refl _, _, Boxed.new w _ _, ⟨rfl, .inl ⟨rfl, rfl⟩⟩⟩ (by simp))
end Go.Proofs.YtfknelkbdoiokaaGreatDoor
