/-
  The contracts of laws.markExpr (marks are put into every kid) and laws.heldExpr (the marks are told to be there).
-/
import Derived.Test.YtaclndbilpaboaaDoorOwn
import Derived.Test.YtaclndbilpaboaaDoorMarkText
namespace Go.Proofs.YtaclndbilpaboaaDoor
open Go.RowKit

mutual
/-- A kid with marks from k on, and its kids behind it. -/
def markK : Ex → Nat → Ex
  | .mk _ _ _ ks, k => .mk (k : Int) ((k : Int) + 1) (markS (k + 2)) (marksE ks (k + 3))
def marksE : List Ex → Nat → List Ex
  | [], _ => []
  | e :: es, k => markK e k :: marksE es (k + 3 * e.nodes)
end
theorem marksE_length (ks : List Ex) : ∀ k, (marksE ks k).length = ks.length := by
  induction ks with
  | nil => intro k; simp [marksE]
  | cons e es ih => intro k; simp [marksE, ih]
theorem marksE_append (xs ys : List Ex) : ∀ k, marksE (xs ++ ys) k = marksE xs k ++ marksE ys (k + 3 * Ex.nodess xs) := by
  induction xs with
  | nil => intro k; simp [marksE, Ex.nodess]
  | cons e es ih =>
    intro k
    rw [List.cons_append, marksE, ih, marksE, Ex.nodess, List.cons_append, show k + 3 * e.nodes + 3 * Ex.nodess es = k + 3 * (e.nodes + Ex.nodess es) by omega]
theorem marksE_one (x : Ex) (k : Nat) : marksE [x] k = [markK x k] := by simp [marksE]
theorem marksE_get (ks : List Ex) : ∀ (k j : Nat) (h : j < ks.length), (marksE ks k)[j]'(by rw [marksE_length]; exact h) = markK ks[j] (k + 3 * Ex.nodess (ks.take j)) := by
  induction ks with
  | nil => intro k j h; simp at h
  | cons e es ih =>
    intro k j h
    cases j with
    | zero => simp [marksE, Ex.nodess]
    | succ j =>
      simp only [marksE, List.getElem_cons_succ, List.take_succ_cons, Ex.nodess]
      rw [ih _ j (by simpa using h), show k + 3 * e.nodes + 3 * Ex.nodess (List.take j es) = k + 3 * (e.nodes + Ex.nodess (List.take j es)) by omega]
theorem nodess_take_succ (ks : List Ex) (j : Nat) (h : j < ks.length) : Ex.nodess (ks.take (j + 1)) = Ex.nodess (ks.take j) + ks[j].nodes := by
  rw [List.take_succ_eq_append_getElem h, Ex.nodess_append]; simp [Ex.nodess]
theorem nodess_take_le (ks : List Ex) (j : Nat) : Ex.nodess (ks.take j) ≤ Ex.nodess ks := by
  have : Ex.nodess ks = Ex.nodess (ks.take j) + Ex.nodess (ks.drop j) := by rw [← Ex.nodess_append, List.take_append_drop]
  omega

/-- Only the blocks from lo to hi, and new ones, have turned. -/
structure Turned (lo hi : Nat) (w w' : World) : Prop where
  os : w'.os = w.os
  tape : w'.tape = w.tape
  output : w'.output = w.output
  size : w.heap.size ≤ w'.heap.size
  block : ∀ b, b < w.heap.size → (b < lo ∨ hi ≤ b) → w'.heap[b]? = w.heap[b]?
theorem Turned.refl (lo hi : Nat) (w : World) : Turned lo hi w w := ⟨rfl, rfl, rfl, Nat.le_refl _, fun _ _ _ => rfl⟩
theorem Turned.trans {lo hi : Nat} {a b c : World} (h : Turned lo hi a b) (k : Turned lo hi b c) : Turned lo hi a c :=
  ⟨k.os.trans h.os, k.tape.trans h.tape, k.output.trans h.output, Nat.le_trans h.size k.size, fun i hi ho => (k.block i (Nat.lt_of_lt_of_le hi h.size) ho).trans (h.block i hi ho)⟩
theorem Turned.wide {lo hi lo2 hi2 : Nat} {a b : World} (h : Turned lo hi a b) (h1 : lo2 ≤ lo) (h2 : hi ≤ hi2) : Turned lo2 hi2 a b :=
  ⟨h.os, h.tape, h.output, h.size, fun i hi ho => h.block i hi (by omega)⟩
theorem Turned.below {lo hi : Nat} {a b : World} (h : Turned lo hi a b) (hl : lo ≤ a.heap.size) : Below lo a b :=
  ⟨h.os, h.tape, h.output, h.size, fun i hi => h.block i (by omega) (.inl hi)⟩
theorem turned_of_below {lo hi : Nat} {a b : World} (h : Below a.heap.size a b) : Turned lo hi a b := ⟨h.os, h.tape, h.output, h.size, fun i hi _ => h.block i hi⟩
theorem turned_set {lo hi : Nat} (w : World) (g i : Nat) (v : Value) (h1 : lo ≤ g) (h2 : g < hi) : Turned lo hi w (w.setCell ⟨g, i, none⟩ v) :=
  ⟨rfl, rfl, rfl, by simp, fun b _ ho => Below.heap_setCell _ _ _ b (by show b ≠ g; omega)⟩

theorem Ex.nodess_length (xs : List Ex) : xs.length ≤ Ex.nodess xs := by
  induction xs with
  | nil => simp
  | cons x xs ih => cases x; simp only [List.length_cons, Ex.nodess, Ex.nodes]; omega
theorem mark_round {wr w4 : World} {ms rest : List Ex} {y : Ex} {g lo hi m1 mid j : Nat} {D : Option Addr} {c : Nat} (hj : ms.length = j)
    (h1 : OwnL wr ms g 0 lo m1) (h3 : OwnL wr rest g (4 * j + 4) mid hi) (hy : KidC w4 g (4 * j) y D c) (oy : OwnE w4 y m1 mid D)
    (hc : ∀ i, i < 4 * j ∨ 4 * j + 4 ≤ i → w4.cell? ⟨g, i, none⟩ = wr.cell? ⟨g, i, none⟩)
    (hb : ∀ b, (lo ≤ b ∧ b < m1) ∨ (mid ≤ b ∧ b < hi) → w4.heap[b]? = wr.heap[b]?) : OwnL w4 (ms ++ y :: rest) g 0 lo hi := by
  subst hj
  refine ownL_append (ownL_keep (fun i _ hi => hc i (.inl (by omega))) (fun b q1 q2 => hb b (.inl ⟨q1, q2⟩)) h1) ?_
  rw [Nat.zero_add, OwnL]
  exact ⟨D, c, mid, hy, oy, ownL_keep (fun i h1 _ => hc i (.inr h1)) (fun b q1 q2 => hb b (.inr ⟨q1, q2⟩)) h3⟩

set_option maxRecDepth 100000 in
set_option maxHeartbeats 4000000 in
/-- Marks are put into every kid of one's own. -/
theorem markExprS_any (e : Ex) : ∀ (A : Option Addr) (c k lo hi : Nat) (w : World), OwnE w e lo hi A → hi ≤ w.heap.size → 0 < k → k + 3 * Ex.nodess e.kids ≤ 2 ^ 39 → e.kids.length ≤ 2 ^ 40 →
    Calls Tryd.prog 30 #[.slice A e.kids.length c, .int .i64 (k : Int)] w fun r w' => r = .returned (.int .i64 ((k + 3 * Ex.nodess e.kids : Nat) : Int)) ∧ OwnE w' (.mk e.kind e.n e.s (marksE e.kids k)) lo hi A ∧ Turned lo hi w w' := by
  induction e using Ex.ind with
  | h kk nn ss ks ih =>
    intro A c k lo hi w hO hhi h0 hl hkl
    simp only [Ex.kind, Ex.n, Ex.s, Ex.kids] at hl hkl ⊢
    have HI := Lib.hid ih
    have HL := Lib.hid hl
    have hst : OwnE w (.mk kk nn ss (marksE (ks.take 0) k ++ ks.drop 0)) lo hi A := by simpa [marksE] using hO
    have HO := Lib.hid hst
    clear ih hO hst hl
    go_enter Tryd.func30, Tryd.ntmps30
    go_wp2_with fail
    go_loopw [1, 5] (fun d i wr => ∃ j m : Nat, j ≤ ks.length ∧ i = .int .i64 j ∧ d = .int .i64 (m : Int) ∧ Hid (m = k + 3 * Ex.nodess (ks.take j)) ∧ Hid (OwnE wr (.mk kk nn ss (marksE (ks.take j) k ++ ks.drop j)) lo hi A) ∧ Turned lo hi w wr)
      (fun _ i _ => ks.length - (intOf i).toNat)
    case atStart => exact ⟨0, k, Nat.zero_le _, rfl, rfl, by simp [Ex.nodess, Hid], HO, Turned.refl _ _ _⟩
    case round =>
      obtain ⟨j, m, hj, rfl, rfl, HM, HW, hT⟩ := hrel
      by_cases hlt : j < ks.length
      · have hnd := nodess_take_succ ks j hlt
        have hnl := nodess_take_le ks (j + 1)
        have hmb : m + 3 * ks[j].nodes ≤ 2 ^ 39 := by have := HM.out; have := HL.out; omega
        have hno : ks[j].nodes = 1 + Ex.nodess ks[j].kids := by cases ks[j]; rfl
        have hm0 : 0 < m := by have := HM.out; omega
        have hml : (marksE (ks.take j) k).length = j := by rw [marksE_length]; simp; omega
        obtain ⟨g, lo', hi', rfl, hlo, hghi, hll, hhh, hout, ⟨cur, hcur⟩, hOL⟩ : ∃ g lo' hi', A = some ⟨g, 0, none⟩ ∧ lo ≤ g ∧ g < hi ∧ lo ≤ lo' ∧ hi' ≤ hi ∧ (g < lo' ∨ hi' ≤ g) ∧ (∃ cur, Blk wr g cur) ∧ OwnL wr (marksE (ks.take j) k ++ ks.drop j) g 0 lo' hi' := by
          have h1 := HW.out
          rw [OwnE] at h1
          rcases h1 with ⟨h1, _⟩ | h1
          · exfalso
            have := congrArg List.length h1
            rw [List.length_append, hml, List.length_drop, List.length_nil] at this
            omega
          · exact h1
        rw [List.drop_eq_getElem_cons hlt] at hOL
        obtain ⟨m1, hP, hR⟩ := ownL_split hOL
        rw [OwnL] at hR
        obtain ⟨D, c', mid, hK, hE, hRest⟩ := hR
        rw [Nat.zero_add] at hK hRest
        have hle1 := ownL_le _ _ _ _ _ _ hP
        have hle2 := own_le _ _ _ _ _ hE
        have hle3 := ownL_le _ _ _ _ _ _ hRest
        have hxl : ks[j].kids.length ≤ 2 ^ 40 := by
          have h2 := Ex.nodess_length ks[j].kids
          omega
        have HC := Lib.hid (fun (W : World) (h1 : OwnE W ks[j] m1 mid D) (h2 : mid ≤ W.heap.size) => HI.out ks[j] (List.getElem_mem hlt) D c' (m + 3) m1 mid W h1 h2 (by omega) (by omega) hxl)
        have HMR := Lib.hid (show marksE (ks.take (j + 1)) k = marksE (ks.take j) k ++ [markK ks[j] m] by
          rw [List.take_succ_eq_append_getElem hlt, marksE_append, marksE_one, HM.out])
        have HND := Lib.hid (show m + 3 * ks[j].nodes = k + 3 * Ex.nodess (ks.take (j + 1)) by rw [hnd]; have := HM.out; omega)
        have HNO := Lib.hid hno
        clear hnd hnl hno hOL HW
        rw [hml] at hK hRest
        generalize ks[j] = x at *
        obtain ⟨k', n', s', ks'⟩ := x
        obtain ⟨c0, c1, c2, c3, hcc⟩ := hK
        simp only [Ex.kind, Ex.n, Ex.s, Ex.kids] at c0 c1 c2 c3 hcc HC HNO hmb hxl
        have hmb2 : m + 3 ≤ 2 ^ 39 := by have := HNO.out; omega
        rw [show 4 * j = j * 4 by omega] at c0 c1 c2 c3
        have f0 := hcur.frozen (j * 4)
        have f1 := hcur.frozen (j * 4 + 1)
        have f2 := hcur.frozen (j * 4 + 2)
        have f3 := hcur.frozen (j * 4 + 3)
        have HMT := Lib.hid (fun W => markText_any (m + 2) W (by omega) (by omega))
        rw [show ((m + 2 : Nat) : Int) = (m : Int) + 2 by omega] at HMT
        have HMK := Lib.hid (show markK (.mk k' n' s' ks') m = .mk (m : Int) ((m : Int) + 1) (markS (m + 2)) (marksE ks' (m + 3)) by rw [markK])
        generalize markS (m + 2) = t at *
        have HCU := Lib.hid hcur
        have HP := Lib.hid hP
        have HE := Lib.hid hE
        have HRE := Lib.hid hRest
        have hx : (j : Int) < (ks.length : Int) := by omega
        have hgl := hcur.lt
        clear hcur hP hE hRest
        go_wp2_with fail
        obtain ⟨W2, hW2⟩ : ∃ W2, W2 = (wr.setCell ⟨g, j * 4, none⟩ (.int .i64 (m : Int))).setCell ⟨g, j * 4 + 1, none⟩ (.int .i64 ((m : Int) + 1)) := ⟨_, rfl⟩
        rw [← hW2]
        have hB2 : Blk W2 g ((cur.setIfInBounds (j * 4) (.int .i64 (m : Int))).setIfInBounds (j * 4 + 1) (.int .i64 ((m : Int) + 1))) := by rw [hW2]; exact (HCU.out.set _ _).set _ _
        have hs2 : ∀ b, b ≠ g → W2.heap[b]? = wr.heap[b]? := fun b hb => by rw [hW2, Below.heap_setCell _ _ _ b hb, Below.heap_setCell _ _ _ b hb]
        have hz2 : W2.heap.size = wr.heap.size := by rw [hW2]; simp
        have T2 : Turned lo hi wr W2 := by rw [hW2]; exact (turned_set _ _ _ _ hlo hghi).trans (turned_set _ _ _ _ hlo hghi)
        clear hW2
        refine (HMT.out _).mono ?_
        rintro r w2 ⟨rfl, hb2⟩
        have hB3 : Blk w2 g _ := (hb2.block _ hB2.lt).trans hB2
        have d2 : w2.cell? ⟨g, j * 4 + 2, none⟩ = some (.string s') := by
          rw [hB3.cell, Array.getElem?_setIfInBounds_ne (by omega), Array.getElem?_setIfInBounds_ne (by omega), ← HCU.out.cell, c2]
        have d3 : w2.cell? ⟨g, j * 4 + 3, none⟩ = some (.slice D ks'.length c') := by
          rw [hB3.cell, Array.getElem?_setIfInBounds_ne (by omega), Array.getElem?_setIfInBounds_ne (by omega), ← HCU.out.cell, c3]
        have e2 := hB3.frozen (j * 4 + 2)
        have HB3 := Lib.hid hB3
        have hc0 := HCU.out.cell (j * 4)
        have hc1 := HCU.out.cell (j * 4 + 1)
        have hc2 := HCU.out.cell (j * 4 + 2)
        have hc3 := HCU.out.cell (j * 4 + 3)
        rw [c0] at hc0
        rw [c1] at hc1
        rw [c2] at hc2
        rw [c3] at hc3
        have HSZ := Lib.hid (show j * 4 + 3 < cur.size from (Array.getElem?_eq_some_iff.1 hc3.symm).1)
        have HC3 := Lib.hid hc3
        clear hB2 hB3 c0 c1 c2 c3 f0 f1 f2 f3 hc0 hc1 hc2 hc3 HMT
        go_wp2_with fail
        obtain ⟨W3, hW3⟩ : ∃ W3, W3 = w2.setCell ⟨g, j * 4 + 2, none⟩ (.string t) := ⟨_, rfl⟩
        rw [← hW3]
        have hB4 := HB3.out.set (j * 4 + 2) (.string t)
        rw [← hW3] at hB4
        have hz3 : wr.heap.size ≤ W3.heap.size := by rw [hW3]; simp; have := hb2.size; omega
        have hs3 : ∀ b, b ≠ g → b < wr.heap.size → W3.heap[b]? = wr.heap[b]? := fun b hb hl => by rw [hW3, Below.heap_setCell _ _ _ b hb]; exact (hb2.block b (by omega)).trans (hs2 b hb)
        have T3 : Turned lo hi wr W3 := by rw [hW3]; exact (T2.trans (turned_of_below hb2)).trans (turned_set _ _ _ _ hlo hghi)
        have hzw := hT.size
        clear hW3
        refine (HC.out W3 (own_keep _ _ _ _ (fun b q1 q2 => hs3 b (by omega) (by omega)) HE.out) (by omega)).mono ?_
        rintro r w4 ⟨rfl, hE4, hT4⟩
        have hB5 : Blk w4 g _ := (hT4.block g (by omega) (by omega)).trans hB4
        have HB5 := Lib.hid hB5
        have HE4 := Lib.hid hE4
        clear hB4 hB5 hE4 d2 d3 e2 HB3
        go_wp2_with fail
        go_roundw
        case rel =>
          refine ⟨j + 1, m + 3 + 3 * Ex.nodess ks', by omega, by go_num, by go_num, ?_, ?_, (hT.trans T3).trans (hT4.wide (by omega) (by omega))⟩
          · have h1 := HND.out
            have h2 := HNO.out
            show _ = _
            omega
          · show OwnE w4 _ lo hi _
            rw [HMR.out, List.append_assoc, List.singleton_append, HMK.out, OwnE]
            refine .inr ⟨g, lo', hi', rfl, hlo, hghi, hll, hhh, hout, ⟨_, HB5.out⟩, mark_round (c := c') hml HP.out HRE.out ?_ (by have h5 := HE4.out; rw [OwnE] at h5 ⊢; exact h5) ?_ ?_⟩
            · have hsz := HSZ.out
              have h3 := HC3.out
              rw [Nat.mul_comm 4 j]
              refine ⟨?_, ?_, ?_, ?_, by simp only [Ex.kids, marksE_length]; exact hcc⟩
              · rw [HB5.out.cell]; simp only [Array.getElem?_setIfInBounds, Array.size_setIfInBounds, Ex.kind]; rw [if_neg (by omega), if_neg (by omega), if_pos trivial, if_pos (by omega)]
              · rw [HB5.out.cell]; simp only [Array.getElem?_setIfInBounds, Array.size_setIfInBounds, Ex.n]; rw [if_neg (by omega), if_pos trivial, if_pos (by omega)]
              · rw [HB5.out.cell]; simp only [Array.getElem?_setIfInBounds, Array.size_setIfInBounds, Ex.s]; rw [if_pos trivial, if_pos (by omega)]
              · rw [HB5.out.cell]; simp only [Array.getElem?_setIfInBounds, Array.size_setIfInBounds, Ex.kids, marksE_length]; rw [if_neg (by omega), if_neg (by omega), if_neg (by omega)]; exact h3.symm
            · intro i hi
              rw [HB5.out.cell, HCU.out.cell]
              simp only [Array.getElem?_setIfInBounds]
              rw [if_neg (by omega), if_neg (by omega), if_neg (by omega)]
            · intro b hb
              rw [hT4.block b (by omega) (by omega)]
              exact hs3 b (by omega) (by omega)
        case measure => simp [intOf]; omega
      · obtain rfl : ks.length = j := by omega
        go_wp2_with fail
        go_ret
        refine ⟨ret_int (by rw [HM.out, List.take_length]), ?_, hT⟩
        have h1 := HW.out
        rw [List.take_length, List.drop_length, List.append_nil] at h1
        exact h1

set_option maxRecDepth 100000 in
set_option maxHeartbeats 4000000 in
/-- Kids that hold the marks are told to hold them. -/
theorem heldExprS_ok (e : Ex) : ∀ (A : Option Addr) (c k B : Nat) (w : World), KidsAt w B A (marksE e.kids k) → B ≤ w.heap.size → 0 < k → k + 3 * Ex.nodess e.kids ≤ 2 ^ 39 → e.kids.length ≤ 2 ^ 40 →
    Calls Tryd.prog 33 #[.slice A e.kids.length c, .int .i64 (k : Int)] w fun r w' => r = .returned (.int .i64 ((k + 3 * Ex.nodess e.kids : Nat) : Int)) ∧ Below w.heap.size w w' := by
  induction e using Ex.ind with
  | h kk nn ss ks ih =>
    intro A c k B w hA hB h0 hl hkl
    simp only [Ex.kids] at hA hl hkl ⊢
    have HI := Lib.hid ih
    have HL := Lib.hid hl
    have HA := Lib.hid hA
    clear ih hl hA
    go_enter Tryd.func33, Tryd.ntmps33
    go_wp2_with fail
    go_loopw [1, 5] (fun d i wr => ∃ j m : Nat, j ≤ ks.length ∧ i = .int .i64 j ∧ d = .int .i64 (m : Int) ∧ Hid (m = k + 3 * Ex.nodess (ks.take j)) ∧ Below w.heap.size w wr)
      (fun _ i _ => ks.length - (intOf i).toNat)
    case atStart => exact ⟨0, k, Nat.zero_le _, rfl, rfl, by simp [Ex.nodess, Hid], Below.refl _ _⟩
    case round =>
      obtain ⟨j, m, hj, rfl, rfl, HM, hnx⟩ := hrel
      by_cases hlt : j < ks.length
      · have hnd := nodess_take_succ ks j hlt
        have hnl := nodess_take_le ks (j + 1)
        have hmb : m + 3 * ks[j].nodes ≤ 2 ^ 39 := by have := HM.out; have := HL.out; omega
        have hno : ks[j].nodes = 1 + Ex.nodess ks[j].kids := by cases ks[j]; rfl
        have hm0 : 0 < m := by have := HM.out; omega
        obtain ⟨g, off, D, c', rfl, hg, kid⟩ := (HA.out.keep (hnx.mono hB)).at_ (j := j) (by rw [marksE_length]; exact hlt)
        rw [marksE_get ks k j hlt, ← HM.out] at kid
        have hxl : ks[j].kids.length ≤ 2 ^ 40 := by
          have h2 := Ex.nodess_length ks[j].kids
          omega
        have HC := Lib.hid (fun (W : World) (h1 : KidsAt W B D (marksE ks[j].kids (m + 3))) (h2 : B ≤ W.heap.size) => HI.out ks[j] (List.getElem_mem hlt) D c' (m + 3) B W h1 h2 (by omega) (by omega) hxl)
        have HND := Lib.hid (show m + 3 * ks[j].nodes = k + 3 * Ex.nodess (ks.take (j + 1)) by rw [hnd]; have := HM.out; omega)
        have HNO := Lib.hid hno
        clear hnd hnl hno
        generalize ks[j] = x at *
        obtain ⟨k', n', s', ks'⟩ := x
        rw [markK] at kid
        obtain ⟨c0, c1, c2, c3, hcc, hkk⟩ := kid
        simp only [Ex.kind, Ex.n, Ex.s, Ex.kids, marksE_length] at c0 c1 c2 c3 hcc hkk HC HNO hmb hxl
        have hmb2 : m + 3 ≤ 2 ^ 39 := by have := HNO.out; omega
        have HK := Lib.hid hkk
        have hzw := hnx.size
        have hgl : g < wr.heap.size := by omega
        have HMT := Lib.hid (fun W => markText_any (m + 2) W (by omega) (by omega))
        rw [show ((m + 2 : Nat) : Int) = (m : Int) + 2 by omega] at HMT
        generalize markS (m + 2) = t at *
        have hx : (j : Int) < (ks.length : Int) := by omega
        have q1 : ((m : Int) != (m : Int)) = false := by simp
        have q2 : (((m : Int) + 1) != ((m : Int) + 1)) = false := by simp
        have q3 : (!t.toList == t.toList) = false := by simp
        clear hkk
        go_wp2_with fail
        go_region_held3 (fun w' => w'.cell? ⟨g, off + j * 4 + 2, none⟩ = some (.string t) ∧ Below wr.heap.size wr w')
          (first | exact ⟨c2, (Below.refl _ wr).drew⟩ | exact ⟨(hb.cell (p := ⟨g, off + j * 4 + 2, none⟩) hgl).trans (by exact c2), (Below.refl _ wr).drew.trans hb⟩)
          (first | (go_at_call 31; refine (HMT.out _).mono ?_; rintro e w' ⟨rfl, hb⟩))
        rename_i hh
        have d3 := (hh.2.cell (p := ⟨g, off + j * 4 + 3, none⟩) hgl).trans c3
        have HK2 := Lib.hid (HK.out.keep (hh.2.mono (Nat.le_trans hB hzw)))
        have hz3 := hh.2.size
        clear c0 c1 c2 c3
        go_wp2_with fail
        refine (HC.out _ HK2.out (by omega)).mono ?_
        rintro r w4 ⟨rfl, hb4⟩
        have q4 : decide (((m + 3 + 3 * Ex.nodess ks' : Nat) : Int) < 0) = false := decide_eq_false (by omega)
        go_wp2_with fail
        go_roundw
        case rel =>
          refine ⟨j + 1, m + 3 + 3 * Ex.nodess ks', by omega, by go_num, by go_num, ?_, hnx.trans ((hh.2.trans (hb4.mono hh.2.size)).mono hnx.size)⟩
          have h1 := HND.out
          have h2 := HNO.out
          show _ = _
          omega
        case measure => simp [intOf]; omega
      · obtain rfl : ks.length = j := by omega
        go_wp2_with fail
        go_ret
        exact ⟨ret_int (by rw [HM.out, List.take_length]), hnx⟩

set_option maxRecDepth 100000 in
set_option maxHeartbeats 4000000 in
theorem markExpr_any (e : Ex) (A : Option Addr) (c k lo hi : Nat) (w : World) (hO : OwnE w e lo hi A) (hhi : hi ≤ w.heap.size) (h0 : 0 < k) (hl : k + 3 * Ex.nodess e.kids ≤ 2 ^ 39) :
    Calls Tryd.prog 15 #[.agg #[.int .i64 e.kind, .int .i64 e.n, .string e.s, .slice A e.kids.length c], .int .i64 (k : Int)] w fun r w' => r = .returned (.int .i64 ((k + 3 * Ex.nodess e.kids : Nat) : Int)) ∧ OwnE w' (.mk e.kind e.n e.s (marksE e.kids k)) lo hi A ∧ Turned lo hi w w' := by
  obtain ⟨W0, hW0⟩ : ∃ W0, W0 = w.alloc (.cells #[.int .i64 e.kind, .int .i64 e.n, .string e.s, .slice A e.kids.length c] 29) := ⟨_, rfl⟩
  have hb0 : Below w.heap.size w W0 := by rw [hW0]; exact (Below.refl _ w).alloc (Nat.le_refl _) _
  have hkl := Ex.nodess_length e.kids
  have HC := Lib.hid (markExprS_any e A c k lo hi W0 (own_keep _ _ _ _ (fun b _ q2 => hb0.block b (by omega)) hO) (Nat.le_trans hhi hb0.size) h0 hl (by omega))
  clear hO
  generalize Ex.nodess e.kids = nd at *
  go_enter Tryd.func15, Tryd.ntmps15
  go_wp2_with fail
  rw [← hW0]
  refine HC.out.mono ?_
  rintro r w1 ⟨rfl, h1, h2⟩
  clear hW0
  go_wp2_with fail
  go_ret
  exact ⟨rfl, h1, (turned_of_below hb0).trans h2⟩

set_option maxRecDepth 100000 in
set_option maxHeartbeats 4000000 in
theorem heldExpr_ok (e : Ex) (kk nn : Int) (ss : ByteArray) (A : Option Addr) (c k B : Nat) (w : World) (hA : KidsAt w B A (marksE e.kids k)) (hB : B ≤ w.heap.size) (h0 : 0 < k) (hl : k + 3 * Ex.nodess e.kids ≤ 2 ^ 39) :
    Calls Tryd.prog 20 #[.agg #[.int .i64 kk, .int .i64 nn, .string ss, .slice A e.kids.length c], .int .i64 (k : Int)] w fun r w' => r = .returned (.int .i64 ((k + 3 * Ex.nodess e.kids : Nat) : Int)) ∧ Below w.heap.size w w' := by
  obtain ⟨W0, hW0⟩ : ∃ W0, W0 = w.alloc (.cells #[.int .i64 kk, .int .i64 nn, .string ss, .slice A e.kids.length c] 29) := ⟨_, rfl⟩
  have hb0 : Below w.heap.size w W0 := by rw [hW0]; exact (Below.refl _ w).alloc (Nat.le_refl _) _
  have hkl := Ex.nodess_length e.kids
  have HC := Lib.hid (heldExprS_ok e A c k B W0 (hA.keep (hb0.mono hB)) (Nat.le_trans hB hb0.size) h0 hl (by omega))
  clear hA
  generalize Ex.nodess e.kids = nd at *
  go_enter Tryd.func20, Tryd.ntmps20
  go_wp2_with fail
  rw [← hW0]
  refine HC.out.mono ?_
  rintro r w1 ⟨rfl, h1⟩
  have q4 : decide (((k + 3 * nd : Nat) : Int) < 0) = false := decide_eq_false (by omega)
  clear hW0
  go_wp2_with fail
  go_ret
  exact ⟨rfl, hb0.trans (h1.mono hb0.size)⟩
end Go.Proofs.YtaclndbilpaboaaDoor
