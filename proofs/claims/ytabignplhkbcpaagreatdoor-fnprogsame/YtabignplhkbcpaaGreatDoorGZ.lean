/-
  DeedWrite, DeedText: these texts one behind the other, as a claim holds at most 60 files.
-/
import Derived.Test.YtabignplhkbcpaaGreatDoorDeed
import Derived.Deep.LoopGhost
namespace Go.Proofs.YtabignplhkbcpaaGreatDoor
open Go.RowKit

/-- A block behind those that were there when the list lay as it lies is free of it. -/
theorem free_new {w W : World} {B g k : Nat} {xs : List ByteArray} (h : Lst B g xs w) (hb : Below w.heap.size w W) (hk : w.heap.size ≤ k) (hk2 : k < W.heap.size) : Free g k W := by
  obtain ⟨_, v, hv, hrow⟩ := h
  refine ⟨Nat.lt_of_lt_of_le hv.lt hb.size, hk2, by have := hv.lt; omega, fun u hu e => ?_⟩
  have h1 : Boxed w g 50 u := (hb.block g hv.lt).symm.trans hu
  have e1 := h1.symm.trans hv
  injection e1 with e1
  injection e1 with e1 _ _
  obtain rfl : u = v := by simpa using e1
  rcases hrow.2 with ⟨h0, _⟩ | ⟨g2, cap, cur, h2, _, h3, _⟩
  · rw [h0] at e; cases e
  · rw [h2] at e
    obtain rfl : g2 = k := by simpa [Value.ownBlock] using e
    have := (Array.getElem?_eq_some_iff.1 h3).1
    omega
theorem Lst.ltB {B g : Nat} {xs : List ByteArray} {w : World} (h : Lst B g xs w) : g < w.heap.size := h.2.choose_spec.1.lt
/-- The deed writes its words behind those that are there. -/
def DWrites (FN : Nat) (f : List ByteArray → ByteArray → List ByteArray) (W0 : World) (g : Nat) (d : De) : Prop := ∀ (w : World) (xs : List ByteArray), Below W0.heap.size W0 w → Lst W0.heap.size g xs w → xs.length ≤ 1000 → Calls Tryz.prog (fDWrite d) #[deU d, sendW FN g] w (PutsG f W0.heap.size g xs d.words w)

set_option linter.unusedVariables false in
set_option maxRecDepth 100000 in
set_option maxHeartbeats 8000000 in
theorem dwrite_gen {FN : Nat} {f : List ByteArray → ByteArray → List ByteArray} {W0 : World} (hL0 : LaidW W0) {g : Nat} (hSD : Sends FN f W0 g) (d : De) : d.fine = true → DWrites FN f W0 g d := by
  have HWR := Lib.hid (fun (p : Pt) (hp : p.fine = true) => write_gen hL0 hSD p hp)
  unfold WritesG at HWR
  obtain ⟨nF, hl, hS⟩ := hSD
  have HS := Lib.hid hS
  have HFL := Lib.hid (fl hl)
  clear hS hl hL0
  intro hf w xs hb hL hx
  have hnod : ∀ {p : Pt}, p.ok = true → p.nodes ≤ 12 ∧ p.words.length ≤ 72 := by
    intro p hp
    have h1 := p.words_length
    simp only [Pt.ok, Bool.and_eq_true, decide_eq_true_eq] at hp
    have h2 := hp.2.2
    exact ⟨h2, by omega⟩
  cases d with
  | noD =>
    show Calls Tryz.prog 152 #[.agg #[], sendW FN g] w (PutsG f W0.heap.size g xs [] w)
    have hb0 : Below w.heap.size w (w.alloc (.cells #[] 93)) := (Below.refl _ w).alloc (Nat.le_refl _) _
    have HL := Lib.hid hL
    clear hL hnod
    unfold sendW
    go_enter Tryz.func152, Tryz.ntmps152
    go_wp2_with fail
    go_end0
    exact ⟨⟨_, rfl⟩, HL.out.below hb0, hb0.mono hb.size, Rest.below hb0⟩
  | sayD p =>
    have hpo : p.ok = true := hf
    obtain ⟨hn, hwl⟩ := hnod hpo
    show Calls Tryz.prog 146 #[.agg #[partV p], sendW FN g] w (PutsG f W0.heap.size g xs (sSay :: p.words) w)
    obtain ⟨m1, n1, k1⟩ := meth_write p
    have HP := Lib.hid (HWR.out p (ok_fine hpo))
    clear HWR
    rw [partV_at p]
    generalize p.words = ws at *
    generalize ptT p = t1 at *
    generalize ptU p = u1 at *
    generalize fWrite p = f1 at *
    have hb0 : Below w.heap.size w (w.alloc (.cells #[.iface t1 u1] 78)) := (Below.refl _ w).alloc (Nat.le_refl _) _
    have hnew := heap_new w #[.iface t1 u1] 78
    have hgw := hL.ltB
    have HL := Lib.hid (hL.below hb0)
    unfold sendW at *
    clear hL hnod hf hpo
    go_enter Tryz.func146, Tryz.ntmps146
    go_wp2_with fail
    refine (HS.out sSay _ xs (hb.trans (hb0.mono hb.size)) HL.out (by omega) (by decide)).mono ?_
    rintro r w1 ⟨⟨v1, rfl⟩, L1, b1, R1⟩
    have B1 := (hb.trans (hb0.mono hb.size)).trans b1
    have c1 : w1.cell? ⟨w.heap.size, 0, none⟩ = some (.iface t1 u1) := R1.cell (j := 0) hnew (by decide) (by omega) rfl
    have hl1 := HFL.out [sSay] xs
    rw [List.length_singleton] at hl1
    go_wp2_with fail
    refine (HP.out w1 _ B1 L1 (by omega)).mono ?_
    rintro r w2 ⟨⟨v2, rfl⟩, L2, b2, R2⟩
    go_wp2_with fail
    go_end0
    exact ⟨⟨_, rfl⟩, by simpa using L2, (hb0.mono hb.size).trans (b1.trans b2), (Rest.below hb0).trans (R1.trans R2)⟩
  | whenD p q =>
    simp only [De.fine, Bool.and_eq_true] at hf
    obtain ⟨hn, hwl⟩ := hnod hf.1
    obtain ⟨hn2, hwl2⟩ := hnod hf.2
    show Calls Tryz.prog 149 #[.agg #[partV p, partV q], sendW FN g] w (PutsG f W0.heap.size g xs (sWhen :: p.words ++ sSay :: q.words) w)
    obtain ⟨m1, n1, k1⟩ := meth_write p
    obtain ⟨m2, n2, k2⟩ := meth_write q
    have HP := Lib.hid (HWR.out p (ok_fine hf.1))
    have HQ := Lib.hid (HWR.out q (ok_fine hf.2))
    clear HWR
    rw [partV_at p, partV_at q]
    generalize p.words = ws at *
    generalize ptT p = t1 at *
    generalize ptU p = u1 at *
    generalize fWrite p = f1 at *
    generalize q.words = vs at *
    generalize ptT q = t2 at *
    generalize ptU q = u2 at *
    generalize fWrite q = f2 at *
    have hb0 : Below w.heap.size w (w.alloc (.cells #[.iface t1 u1, .iface t2 u2] 80)) := (Below.refl _ w).alloc (Nat.le_refl _) _
    have hnew := heap_new w #[.iface t1 u1, .iface t2 u2] 80
    have hgw := hL.ltB
    have HL := Lib.hid (hL.below hb0)
    unfold sendW at *
    clear hL hnod hf
    go_enter Tryz.func149, Tryz.ntmps149
    go_wp2_with fail
    refine (HS.out sWhen _ xs (hb.trans (hb0.mono hb.size)) HL.out (by omega) (by decide)).mono ?_
    rintro r w1 ⟨⟨v1, rfl⟩, L1, b1, R1⟩
    have B1 := (hb.trans (hb0.mono hb.size)).trans b1
    have c1 : w1.cell? ⟨w.heap.size, 0, none⟩ = some (.iface t1 u1) := R1.cell (j := 0) hnew (by decide) (by omega) rfl
    have h1n := R1.old _ _ _ _ hnew (by decide) (by omega)
    have hl1 := HFL.out [sWhen] xs
    rw [List.length_singleton] at hl1
    go_wp2_with fail
    refine (HP.out w1 _ B1 L1 (by omega)).mono ?_
    rintro r w2 ⟨⟨v2, rfl⟩, L2, b2, R2⟩
    have B2 := B1.trans b2
    have h2n := R2.old _ _ _ _ h1n (by decide) (by omega)
    have hl2 := HFL.out ws ([sWhen].foldl f xs)
    go_wp2_with fail
    refine (HS.out sSay w2 _ B2 L2 (by omega) (by decide)).mono ?_
    rintro r w3 ⟨⟨v3, rfl⟩, L3, b3, R3⟩
    have B3 := B2.trans b3
    have c3 : w3.cell? ⟨w.heap.size, 1, none⟩ = some (.iface t2 u2) := R3.cell (j := 1) h2n (by decide) (by omega) rfl
    have hl3 := HFL.out [sSay] (ws.foldl f ([sWhen].foldl f xs))
    rw [List.length_singleton] at hl3
    go_wp2_with fail
    refine (HQ.out w3 _ B3 L3 (by omega)).mono ?_
    rintro r w4 ⟨⟨v4, rfl⟩, L4, b4, R4⟩
    go_wp2_with fail
    go_end0
    exact ⟨⟨_, rfl⟩, by simpa using L4, (hb0.mono hb.size).trans (b1.trans (b2.trans (b3.trans b4))), (Rest.below hb0).trans (R1.trans (R2.trans (R3.trans R4)))⟩
  | letD n t p =>
    simp only [De.fine, Bool.and_eq_true] at hf
    obtain ⟨hn, hwl⟩ := hnod hf.2.2
    have hs5 : ∀ s ∈ [sLet, n, sColon, t, sEq], s.size ≤ 2 ^ 40 := by
      have h1 := name_size8 hf.1
      have h2 := type_size4 hf.2.1
      intro s hs
      simp only [List.mem_cons, List.not_mem_nil, or_false] at hs
      rcases hs with rfl | rfl | rfl | rfl | rfl
      · decide
      · omega
      · decide
      · omega
      · decide
    show Calls Tryz.prog 143 #[.agg #[.string n, .string t, partV p], sendW FN g] w (PutsG f W0.heap.size g xs ([sLet, n, sColon, t, sEq] ++ p.words) w)
    obtain ⟨m1, n1, k1⟩ := meth_write p
    have HP := Lib.hid (HWR.out p (ok_fine hf.2.2))
    clear HWR
    rw [partV_at p]
    generalize p.words = ws at *
    generalize ptT p = t1 at *
    generalize ptU p = u1 at *
    generalize fWrite p = f1 at *
    obtain ⟨V, hV⟩ : ∃ V, V = (w.alloc (.cells #[.string n, .string t, .iface t1 u1] 61)).alloc (.cells #[.string ⟨#[108, 101, 116]⟩, .string n, .string ⟨#[58]⟩, .string t, .string ⟨#[61]⟩] 9) := ⟨_, rfl⟩
    have hb0 : Below w.heap.size w V := by rw [hV]; exact ((Below.refl _ w).alloc (Nat.le_refl _) _).alloc (by simp) _
    have hz0 : V.heap.size = w.heap.size + 2 := by rw [hV]; simp
    have HN1 := Lib.hid (show V.heap[w.heap.size]? = some (.cells #[.string n, .string t, .iface t1 u1] 61 (0, 0)) by rw [hV]; exact (Below.heap_alloc _ _ _ (by simp)).trans (World.alloc_heap_new w _))
    have HN2 := Lib.hid (show V.heap[w.heap.size + 1]? = some (.cells (([sLet, n, sColon, t, sEq].map strV).toArray) 9 (0, 0)) by
      rw [hV]
      have h := World.alloc_heap_new (w.alloc (.cells #[.string n, .string t, .iface t1 u1] 61)) (.cells #[.string ⟨#[108, 101, 116]⟩, .string n, .string ⟨#[58]⟩, .string t, .string ⟨#[61]⟩] 9)
      rw [World.size_alloc] at h
      exact h)
    have hgw := hL.ltB
    have HL := Lib.hid (hL.below hb0)
    have HFR := Lib.hid (free_new hL hb0 (show w.heap.size ≤ w.heap.size + 1 by omega) (by omega))
    have BV := hb.trans (hb0.mono hb.size)
    unfold sendW at *
    have HS5 := Lib.hid hs5
    clear hL hnod hf hs5
    go_enter Tryz.func143, Tryz.ntmps143
    go_wp2_with fail
    rw [← hV]
    clear hV
    go_loopg [5, 12] 5 (fun gk sv i wr => ∃ j : Nat, j + gk = 5 ∧ i = .int .i64 (j : Int) ∧ Hid (Lst W0.heap.size g (([sLet, n, sColon, t, sEq].take j).foldl f xs) wr) ∧ Below W0.heap.size w wr ∧ Hid (Rest g V wr))
    case atStart => exact ⟨0, rfl, rfl, HL.out, hb0.mono hb.size, Rest.below (Below.refl _ _)⟩
    case round =>
      obtain ⟨j, hj, rfl, HLj, hwj, HRj⟩ := hrel
      have hBj := hb.trans hwj
      by_cases hlt : j < 5
      · have hlt5 : j < [sLet, n, sColon, t, sEq].length := hlt
        have HTJ := Lib.hid (List.take_succ_eq_append_getElem hlt5)
        have hcj : wr.cell? ⟨w.heap.size + 1, 0 + j, none⟩ = some (.string ([sLet, n, sColon, t, sEq][j])) := by
          have h1 := (HRj.out.keep _ HFR.out).1.trans HN2.out
          simp only [World.cell?, h1]
          rw [Nat.zero_add, List.getElem?_toArray, List.getElem?_map, List.getElem?_eq_getElem hlt5]
          rfl
        have hsz := HS5.out _ (List.getElem_mem hlt5)
        have q1 : (0 : Int) ≤ (j : Int) := by omega
        have q2 : (j : Int) < 5 := by omega
        have hlj := HFL.out ([sLet, n, sColon, t, sEq].take j) xs
        have htk : ([sLet, n, sColon, t, sEq].take j).length ≤ 5 := by rw [List.length_take]; exact Nat.min_le_right _ _
        generalize [sLet, n, sColon, t, sEq][j] = sj at *
        rw [Nat.zero_add] at hcj
        go_wp2_with fail
        refine (HS.out sj wr _ hBj HLj.out (by omega) hsz).mono ?_
        rintro r w1 ⟨⟨v1, rfl⟩, L1, b1, R1⟩
        go_wp2_with fail
        go_roundg (gk - 1)
        case measure => omega
        case rel => exact ⟨j + 1, by omega, by go_num, by show Lst _ _ _ _; rw [HTJ.out, List.foldl_append]; exact L1, hwj.trans b1, HRj.out.trans R1⟩
      · obtain rfl : j = 5 := by omega
        have c1 : wr.cell? ⟨w.heap.size, 2, none⟩ = some (.iface t1 u1) := HRj.out.cell (j := 2) HN1.out (by decide) (by omega) rfl
        have hl5 := HFL.out [sLet, n, sColon, t, sEq] xs
        have hl5' : ([sLet, n, sColon, t, sEq].foldl f xs).length ≤ xs.length + 5 := hl5
        have L5 : Lst W0.heap.size g ([sLet, n, sColon, t, sEq].foldl f xs) wr := HLj.out
        go_wp2_with fail
        refine (HP.out wr _ hBj L5 (by omega)).mono ?_
        rintro r w2 ⟨⟨v2, rfl⟩, L2, b2, R2⟩
        have hBw : Below W0.heap.size w w2 := hwj.trans b2
        go_wp2_with fail
        go_end0
        exact ⟨⟨_, rfl⟩, L2, hBw, (Rest.below hb0).trans (HRj.out.trans R2)⟩
end Go.Proofs.YtabignplhkbcpaaGreatDoor

namespace Go.Proofs.YtabignplhkbcpaaGreatDoor
open Go.RowKit

theorem mem_wrap {b : Bool} {ws : List ByteArray} {s : ByteArray} (h : s ∈ wrapW b ws) (hw : ∀ t ∈ ws, t.size ≤ 8) : s.size ≤ 8 := by
  unfold wrapW at h
  split at h
  · simp only [List.mem_append, List.mem_cons, List.not_mem_nil, or_false] at h
    rcases h with (rfl | h) | rfl
    · decide
    · exact hw s h
    · decide
  · exact hw s h
theorem words_small (p : Pt) : p.fine = true → ∀ s ∈ p.words, s.size ≤ 8 := by
  induction p with
  | num n =>
    intro h s hs
    simp only [Pt.fine, Bool.and_eq_true, decide_eq_true_eq] at h
    obtain rfl : s = decS n := by simpa [Pt.words] using hs
    have := decS_size7 h.2
    omega
  | name t =>
    intro h s hs
    obtain rfl : s = t := by simpa [Pt.words] using hs
    exact name_size8 h
  | two t a b ia ib =>
    intro h s hs
    simp only [Pt.fine, Bool.and_eq_true, decide_eq_true_eq] at h
    simp only [Pt.words, List.mem_append, List.mem_cons, List.not_mem_nil, or_false] at hs
    rcases hs with (hs | rfl) | hs
    · exact mem_wrap hs (ia h.2.1)
    · have := hold_size1 h.1; omega
    · exact mem_wrap hs (ib h.2.2)
  | «as» t a ia =>
    intro h s hs
    simp only [Pt.fine, Bool.and_eq_true] at h
    simp only [Pt.words, List.mem_append, List.mem_cons, List.not_mem_nil, or_false] at hs
    rcases hs with hs | rfl | rfl
    · exact mem_wrap hs (ia h.2)
    · decide
    · have := type_size4 h.1; omega
theorem De.words_small {d : De} (h : d.fine = true) : ∀ s ∈ d.words, s.size ≤ 8 := by
  cases d with
  | noD => intro s hs; simp [De.words] at hs
  | letD n t p =>
    simp only [De.fine, Bool.and_eq_true] at h
    intro s hs
    simp only [De.words, List.mem_append, List.mem_cons, List.not_mem_nil, or_false] at hs
    rcases hs with (rfl | rfl | rfl | rfl | rfl) | hs
    · decide
    · exact name_size8 h.1
    · decide
    · have := type_size4 h.2.1; omega
    · decide
    · exact Go.Proofs.YtabignplhkbcpaaGreatDoor.words_small p (ok_fine h.2.2) s hs
  | sayD p =>
    intro s hs
    simp only [De.words, List.mem_cons] at hs
    rcases hs with rfl | hs
    · decide
    · exact Go.Proofs.YtabignplhkbcpaaGreatDoor.words_small p (ok_fine h) s hs
  | whenD p q =>
    simp only [De.fine, Bool.and_eq_true] at h
    intro s hs
    simp only [De.words, List.cons_append, List.mem_append, List.mem_cons] at hs
    rcases hs with rfl | hs | rfl | hs
    · decide
    · exact Go.Proofs.YtabignplhkbcpaaGreatDoor.words_small p (ok_fine h.1) s hs
    · decide
    · exact Go.Proofs.YtabignplhkbcpaaGreatDoor.words_small q (ok_fine h.2) s hs
theorem tot_small (ws : List ByteArray) : (∀ s ∈ ws, s.size ≤ 8) → tot ws ≤ 9 * ws.length := by
  intro h
  have aux : ∀ k, k ≤ ws.length → tot (ws.take k) ≤ 9 * k := by
    intro k
    induction k with
    | zero => intro _; simp [tot]
    | succ k ih =>
      intro hk
      have h1 := ih (by omega)
      have h2 := h ws[k] (List.getElem_mem (by omega))
      rw [tot_take_succ ws k (by omega)]
      omega
  have := aux ws.length (Nat.le_refl _)
  rwa [List.take_length] at this

set_option maxRecDepth 100000 in
set_option maxHeartbeats 4000000 in
/-- Whatever writes its words. -/
theorem wordedText_gen (t1 : TypeId) (u1 : Value) (f1 : Nat) (ws : List ByteArray) (hm : Meth "loop.example/interlinear/impl.write" t1 u1 f1) (hwl : ws.length ≤ 200) (hsm : ∀ s ∈ ws, s.size ≤ 8) (w : World)
    (hW : Calls Tryz.prog f1 #[u1, sendW 69 w.heap.size] (w.alloc (.cells #[.slice none 0 0] 50)) (PutsG (fun l s => l ++ [s]) w.heap.size w.heap.size [] ws (w.alloc (.cells #[.slice none 0 0] 50)))) :
    Calls Tryz.prog 52 #[.iface t1 u1] w fun r w' => r = .returned (.string (joinK ws ws.length)) ∧ Below w.heap.size w w' := by
  obtain ⟨m1, n1, k1⟩ := hm
  have hwt : tot ws ≤ 2 ^ 40 := by have := tot_small _ hsm; omega
  have HWR := Lib.hid hW
  unfold sendW at HWR
  clear hsm hW
  go_enter Tryz.func52, Tryz.ntmps52
  go_wp2_with fail
  refine HWR.out.mono ?_
  rintro r w3 ⟨⟨v3, rfl⟩, ⟨_, v, hv, hrow⟩, hb3, _⟩
  rw [foldl_more, List.nil_append] at hrow
  have x0 := hv.cell
  obtain ⟨A3, c3, hvs, hc3⟩ := own_slice hrow
  subst hvs
  have HT := Lib.hid (tokText_any A3 c3 ws w3 hwt hc3 (SlIs.own hrow))
  clear hrow hv
  go_wp2_with fail
  refine HT.out.mono ?_
  rintro r w4 ⟨rfl, hb4⟩
  go_wp2_with fail
  go_ret
  exact ⟨rfl, ((Below.refl _ w).alloc (Nat.le_refl _) _).trans (hb3.trans (hb4.mono (Nat.le_trans (by simp) hb3.size)))⟩
theorem deedText_any (d : De) (hf : d.fine = true) (w : World) (hL : LaidW w) :
    Calls Tryz.prog 52 #[deV d] w fun r w' => r = .returned (.string d.text) ∧ Below w.heap.size w w' :=
  wordedText_gen (deT d) (deU d) (fDWrite d) d.words (meth_dwrite d) (De.words_length hf) (De.words_small hf) w (dwrite_gen hL (sends_deed w w.heap.size) d hf _ [] ((Below.refl _ w).alloc (Nat.le_refl _) _) ⟨Nat.le_refl _, _, Boxed.new w _ _, ⟨rfl, .inl ⟨rfl, rfl⟩⟩⟩ (by simp))
end Go.Proofs.YtabignplhkbcpaaGreatDoor
