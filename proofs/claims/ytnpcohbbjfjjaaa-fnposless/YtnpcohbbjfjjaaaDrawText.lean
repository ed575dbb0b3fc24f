/-
  The contracts of the model's draws of texts: l12Open, of, num, l1Line, l12Many, l1Text, for all codes.
-/
import Derived.Test.YtnpcohbbjfjjaaaDraw
import Derived.Test.YtnpcohbbjfjjaaaMarks
import Derived.OpenShut
namespace Go.Proofs.Ytnpcohbbjfjjaaa
open Go.RowKit

/-- A slice of bytes that came in. -/
def InCode (w : World) (a : Option Addr) (len cap : Nat) : Prop := len ≤ cap ∧ cap ≤ maxLen ∧ Code w w.heap.size a len
theorem inCode_nil (w : World) : InCode w none 0 0 := ⟨Nat.le_refl _, Nat.zero_le _, .inl rfl⟩
theorem inCode_of {w : World} {x : Addr} {len cap : Nat} {zs : List Int} (hl : len ≤ cap) (hm : cap ≤ maxLen) (hz : zs.length = cap) (hc : ∀ i, i < zs.length → w.cell? (x.add i) = some (.int .u8 (zs.getD i 0))) (hw : ∀ n ∈ zs, (Lit.int .u8 n).wf = true) :
    InCode w (some x) len cap := by
  refine ⟨hl, hm, ?_⟩
  by_cases h0 : len = 0
  · exact .inl h0
  · obtain ⟨b, off, rfl, hcell⟩ := ints_at hc (by omega)
    have hb : b < w.heap.size := by
      have h1 := hcell 0 (by omega)
      rcases Nat.lt_or_ge b w.heap.size with h | h
      · exact h
      · simp [World.cell?, Array.getElem?_eq_none h] at h1
    refine .inr ⟨b, off, rfl, hb, fun j hj => ?_⟩
    have hjz : j < zs.length := by omega
    have hwf := bounds_u8 (hw (zs.getD j 0) (by simp [List.getD, hjz]))
    exact ⟨zs.getD j 0, hwf.1, hwf.2, hcell j hjz⟩

theorem InCode.below {w w' : World} {a : Option Addr} {len cap : Nat} (h : InCode w a len cap) (hb : Below w.heap.size w w') : InCode w' a len cap := by
  refine ⟨h.1, h.2.1, ?_⟩
  rcases h.2.2 with h0 | ⟨hh, off, e, hlt, hc⟩
  · exact .inl h0
  · refine .inr ⟨hh, off, e, Nat.lt_of_lt_of_le hlt hb.size, fun j hj => ?_⟩
    obtain ⟨z, z0, z1, hz⟩ := hc j hj
    exact ⟨z, z0, z1, (hb.cell (p := ⟨hh, off + j, none⟩) hlt).trans hz⟩

/-- A reader was made. -/
def Opened (w : World) (e : Ending) (w' : World) : Prop := ∃ A len cap, e = .returned (.pointer (some ⟨w.heap.size, 0, none⟩)) ∧ Rd w' w.heap.size w.heap.size A len cap 0 ∧ Below w.heap.size w w'

theorem Code.cut {w : World} {B : Nat} {A : Option Addr} {n k : Nat} (h : Code w B A n) (hk : k ≤ n) : Code w B A k := by
  rcases h with h0 | ⟨hh, off, e, hb, hc⟩
  · exact .inl (by omega)
  · exact .inr ⟨hh, off, e, hb, fun j hj => hc j (by omega)⟩
theorem Rd.new {w : World} {A : Option Addr} {len cap : Nat} (h : Code w w.heap.size A len) (hl : len ≤ 2000) : Rd (w.alloc (.cells #[.slice A len cap, .int .i64 0] 68)) w.heap.size w.heap.size A len cap 0 := by
  refine ⟨Box2.new w _ _ _, Nat.le_refl _, ?_, hl⟩
  rcases h with h0 | ⟨hh, off, e, hb, hc⟩
  · exact .inl h0
  · refine .inr ⟨hh, off, e, hb, fun j hj => ?_⟩
    obtain ⟨z, z0, z1, hz⟩ := hc j hj
    exact ⟨z, z0, z1, (World.cell?_alloc_lt w _ ⟨hh, off + j, none⟩ hb).trans hz⟩

set_option maxHeartbeats 1000000 in
theorem open_any (A : Option Addr) (len cap : Nat) (w : World) (h : InCode w A len cap) :
    Calls Try.prog 42 #[.slice A len cap] w (Opened w) := by
  obtain ⟨hl, hm, hc⟩ := h
  unfold maxLen at hm
  have HC := Lib.hid hc
  by_cases hbig : 2000 < len
  · have q1 : (2000 : Int) < (len : Int) := by omega
    have hcap : (2000 : Int) ≤ (cap : Int) := by omega
    obtain ⟨h, off, rfl, _⟩ : ∃ h off, A = some ⟨h, off, none⟩ ∧ True := by
      rcases hc with h0 | ⟨h, off, e, _⟩
      · omega
      · exact ⟨h, off, e, trivial⟩
    clear hc
    go_enter Try.func42, Try.ntmps42
    go_wp2
    go_ret
    exact ⟨_, 2000, cap, rfl, Rd.new (HC.out.cut (by omega)) (Nat.le_refl _), (Below.refl _ w).alloc (Nat.le_refl _) _⟩
  · have q1 : ¬ (2000 : Int) < (len : Int) := by omega
    clear hc
    go_enter Try.func42, Try.ntmps42
    go_wp2
    go_ret
    exact ⟨A, len, cap, rfl, Rd.new HC.out (by omega), (Below.refl _ w).alloc (Nat.le_refl _) _⟩

/-- One of a list was picked. -/
def OneOf (w : World) (B g : Nat) (A : Option Addr) (len cap p : Nat) (xs : List Value) (e : Ending) (w' : World) : Prop :=
  ∃ u, u ∈ xs ∧ e = .returned u ∧ Read w B g A len cap p 1 w'

theorem Read.cell {w w' : World} {B g : Nat} {A : Option Addr} {len cap p k : Nat} (h : Read w B g A len cap p k w') {x : Addr} (hx : x.block < w.heap.size) (hne : x.block ≠ g) : w'.cell? x = w.cell? x := by
  obtain ⟨_, _, _, _, hg⟩ := h
  exact grown_cell hg hx hne

set_option maxHeartbeats 1000000 in
theorem of_any (B g : Nat) (A : Option Addr) (len cap p b n c : Nat) (ss : List ByteArray) (w : World) (hr : Rd w B g A len cap p) (hp : p ≤ 2 ^ 30) (hss : ss.length = n) (hn : 0 < n) (hn2 : n ≤ 2 ^ 20) (hb : b < w.heap.size) (hbg : b ≠ g)
    (hc : ∀ j (hj : j < ss.length), w.cell? ⟨b, j, none⟩ = some (.string ss[j])) :
    Calls Try.prog 60 #[.pointer (some ⟨g, 0, none⟩), .slice (some ⟨b, 0, none⟩) n c] w (OneOf w B g A len cap p (ss.map strV)) := by
  have HP := Lib.hid (pick_any B g A len cap p n w hr hp hn (by omega))
  have HC := Lib.hid hc
  have HS := Lib.hid hss
  clear hc hr hss
  go_enter Try.func60, Try.ntmps60
  go_wp2_with fail
  refine HP.out.mono ?_
  rintro e w1 ⟨v, hv, rfl, hrd⟩
  have hcell := (hrd.cell (x := ⟨b, v, none⟩) hb hbg).trans (HC.out v (by rw [HS.out]; exact hv))
  have hmem : ss[v]'(by rw [HS.out]; exact hv) ∈ ss := List.getElem_mem _
  generalize ss[v]'(by rw [HS.out]; exact hv) = t at *
  have hv0 : (v : Int) < (n : Int) := by omega
  go_wp2
  go_ret
  exact ⟨.string t, List.mem_map.2 ⟨t, hmem, rfl⟩, rfl, hrd⟩

theorem L_append (a b : ByteArray) : L (a ++ b) = L a ++ L b := by simp [L]
theorem plain_append {a b : ByteArray} (ha : plainL (L a) = true) (hb : plainL (L b) = true) : plainL (L (a ++ b)) = true := by rw [L_append, plainL_append, ha, hb]; rfl
theorem Read.refl {w : World} {B g : Nat} {A : Option Addr} {len cap p : Nat} (h : Rd w B g A len cap p) : Read w B g A len cap p 0 w := ⟨p, Nat.le_refl _, Nat.le_refl _, h, grown_refl _ _⟩
theorem Box2.allocD {W : World} {g : Nat} {t : TypeId} {x y : Value} (h : Box2 W g t x y) (o : Obj) : Box2 (W.alloc o) g t x y := (Below.heap_alloc W o g (Array.getElem?_eq_some_iff.1 h).1).trans h
theorem Rd.alloc {w : World} {B g : Nat} {A : Option Addr} {len cap p : Nat} (h : Rd w B g A len cap p) (o : Obj) : Rd (w.alloc o) B g A len cap p :=
  ⟨h.1.allocD o, h.2.1, h.2.2.1.grown (grown_alloc (grown_refl w (some g)) o) (by have := h.lt; have := h.2.1; omega) h.2.1, h.2.2.2⟩

def pieces : List ByteArray := [⟨#[97]⟩, ⟨#[115, 97, 121]⟩, ⟨#[49]⟩, ⟨#[32]⟩, ⟨#[120, 32, 121]⟩, ⟨#[40]⟩, ⟨#[43]⟩, ⟨#[126]⟩]
theorem pieces_ok : ∀ s ∈ pieces, s.size ≤ 3 ∧ plainL (L s) = true := by decide
theorem cell_made (w : World) (cs : Array Value) (t : TypeId) (j : Nat) : (w.alloc (.cells cs t)).cell? ⟨w.heap.size, j, none⟩ = cs[j]? := by
  have h := World.alloc_heap_new w (.cells cs t)
  simp only [World.cell?]
  rw [h]
  rfl

/-- A line was drawn: few bytes, all of which can be seen. -/
def LineDrawn (w : World) (B g : Nat) (A : Option Addr) (len cap p : Nat) (e : Ending) (w' : World) : Prop :=
  ∃ s : ByteArray, s.size ≤ 12 ∧ plainL (L s) = true ∧ e = .returned (.string s) ∧ Read w B g A len cap p 5 w'

set_option maxRecDepth 100000 in
set_option maxHeartbeats 1000000 in
theorem l1Line_any (B g : Nat) (A : Option Addr) (len cap p : Nat) (w : World) (hr : Rd w B g A len cap p) (hp : p ≤ 2 ^ 20) :
    Calls Try.prog 52 #[.pointer (some ⟨g, 0, none⟩)] w (LineDrawn w B g A len cap p) := by
  have HP := Lib.hid (pick_any B g A len cap p 5 w hr (by omega) (by omega) (by omega))
  go_enter Try.func52, Try.ntmps52
  go_wp2_with fail
  refine HP.out.mono ?_
  rintro e w1 ⟨v, hv, rfl, q, hq1, hq2, hrd, hgr⟩
  go_wp2
  go_loopw [3, 4] (fun o i wr => ∃ (k q : Nat) (out : ByteArray), i = .int .i64 k ∧ o = .string out ∧ k ≤ 4 ∧ out.size + 3 * k ≤ 12 ∧ plainL (L out) = true ∧ p ≤ q ∧ q + k ≤ p + 5 ∧ Rd wr B g A len cap q ∧ w.grownBy wr (some g))
    (fun _ i _ => (intOf i).toNat)
  case atStart => exact ⟨v, q, _, rfl, rfl, by omega, by show 0 + 3 * v ≤ 12; omega, rfl, hq1, by omega, hrd, hgr⟩
  case round =>
    obtain ⟨k, q, out, rfl, rfl, hk, hsz, hpl, hq1, hq2, hrd, hgr⟩ := hrel
    have HPL := Lib.hid hpl
    clear hpl
    by_cases hk0 : k = 0
    · subst hk0
      go_wp2
      go_ret
      exact ⟨out, by omega, HPL.out, rfl, q, hq1, by omega, hrd, hgr⟩
    · have hkp : 0 < (k : Int) := by omega
      go_wp2_with fail
      refine (of_any B g A len cap q wr.heap.size 8 8 pieces _ (hrd.alloc _) (by omega) rfl (by omega) (by omega) (by simp) (by have := hrd.lt; omega) ?_).mono ?_
      · intro j hj
        rw [cell_made]
        match j, hj with
        | 0, _ => rfl
        | 1, _ => rfl
        | 2, _ => rfl
        | 3, _ => rfl
        | 4, _ => rfl
        | 5, _ => rfl
        | 6, _ => rfl
        | 7, _ => rfl
      · rintro e w2 ⟨u, hu, rfl, q2, hq3, hq4, hrd2, hgr2⟩
        obtain ⟨t, ht, rfl⟩ := List.mem_map.1 hu
        obtain ⟨ht3, htp⟩ := pieces_ok t ht
        have HTP := Lib.hid htp
        clear htp ht hu
        simp only [strV]
        go_wp2
        go_roundw
        case rel => exact ⟨k - 1, q2, out ++ t, by go_num, rfl, by omega, by rw [ByteArray.size_append]; omega, plain_append HPL.out HTP.out, by omega, by omega, hrd2, grown_trans (grown_alloc hgr _) hgr2⟩
        case measure => simp [intOf]; omega

set_option maxHeartbeats 1000000 in
theorem num_any (B g : Nat) (A : Option Addr) (len cap p b n c : Nat) (zs : List Int) (w : World) (hr : Rd w B g A len cap p) (hp : p ≤ 2 ^ 30) (hss : zs.length = n) (hn : 0 < n) (hn2 : n ≤ 2 ^ 20) (hb : b < w.heap.size) (hbg : b ≠ g)
    (hc : ∀ j (hj : j < zs.length), w.cell? ⟨b, j, none⟩ = some (.int .i64 zs[j])) :
    Calls Try.prog 56 #[.pointer (some ⟨g, 0, none⟩), .slice (some ⟨b, 0, none⟩) n c] w (OneOf w B g A len cap p (zs.map (Value.int .i64))) := by
  have HP := Lib.hid (pick_any B g A len cap p n w hr hp hn (by omega))
  have HC := Lib.hid hc
  have HS := Lib.hid hss
  clear hc hr hss
  go_enter Try.func56, Try.ntmps56
  go_wp2_with fail
  refine HP.out.mono ?_
  rintro e w1 ⟨v, hv, rfl, hrd⟩
  have hcell := (hrd.cell (x := ⟨b, v, none⟩) hb hbg).trans (HC.out v (by rw [HS.out]; exact hv))
  have hmem : zs[v]'(by rw [HS.out]; exact hv) ∈ zs := List.getElem_mem _
  generalize zs[v]'(by rw [HS.out]; exact hv) = t at *
  have hv0 : (v : Int) < (n : Int) := by omega
  go_wp2
  go_ret
  exact ⟨.int .i64 t, List.mem_map.2 ⟨t, hmem, rfl⟩, rfl, hrd⟩

/-- A text of few bytes is handed back, and nothing is written. -/
def Small (k : Nat) (w : World) (e : Ending) (w' : World) : Prop := ∃ s : ByteArray, s.size ≤ k ∧ e = .returned (.string s) ∧ w = w'

theorem half_even (s m : Nat) : (s + s) * m = s * (2 * m) := by rw [← Nat.two_mul, Nat.mul_comm 2 s, Nat.mul_assoc]
theorem half_odd (s m : Nat) : s * (2 * m + 1) = (s + s) * m + s := by rw [Nat.mul_add, Nat.mul_one, half_even]

set_option maxHeartbeats 1000000 in
theorem l12Many_any (s : ByteArray) (n : Nat) (w : World) (hs : s.size ≤ 3) (hn : n ≤ 2000) :
    Calls Try.prog 55 #[.string s, .int .i64 (n : Int)] w (Small 6000 w) := by
  go_enter Try.func55, Try.ntmps55
  go_wp2
  go_loop [0, 1, 5] (fun a i o => ∃ (t out : ByteArray) (k : Nat), a = .string t ∧ i = .int .i64 k ∧ o = .string out ∧ k ≤ 2000 ∧ t.size ≤ 12000 ∧ out.size + t.size * k ≤ 6000) (fun _ i _ => (intOf i).toNat)
  case atStart => exact ⟨s, _, n, rfl, rfl, rfl, hn, by omega, by have : s.size * n ≤ 3 * 2000 := Nat.mul_le_mul hs hn; show 0 + s.size * n ≤ 6000; omega⟩
  case round =>
    obtain ⟨t, out, k, rfl, rfl, rfl, hk, ht, hsz⟩ := hrel
    by_cases hk0 : k = 0
    · subst hk0
      go_wp2
      go_ret
      exact ⟨out, by omega, rfl, rfl⟩
    · have hkp : 0 < (k : Int) := by omega
      have htk : t.size ≤ t.size * k := Nat.le_mul_of_pos_right _ (by omega)
      obtain ⟨m, hm⟩ : ∃ m, k = 2 * m ∨ k = 2 * m + 1 := ⟨k / 2, by omega⟩
      rcases hm with rfl | rfl
      · have h2 := half_even t.size m
        have hs2 : out.size + (t ++ t).size * m ≤ 6000 := by rw [ByteArray.size_append, h2]; exact hsz
        have q1 : ((((2 * m : Nat) : Int) % 2) == 1) = false := by simp
        have hto : t.size ≤ 6000 := by omega
        have hoo : out.size ≤ 6000 := by omega
        have HS2 := Lib.hid hs2
        clear h2 hs2 hsz htk
        go_wp2
        go_round
        case rel => exact ⟨t ++ t, out, m, rfl, by go_num, rfl, by omega, by rw [ByteArray.size_append]; omega, HS2.out⟩
        case measure => simp [intOf]; omega
      · have h2 := half_odd t.size m
        have hs2 : (out ++ t).size + (t ++ t).size * m ≤ 6000 := by rw [ByteArray.size_append, ByteArray.size_append]; omega
        have q1 : ((((2 * m + 1 : Nat) : Int) % 2) == 1) = true := by simp
        have hto : t.size ≤ 6000 := by omega
        have hoo : out.size ≤ 6000 := by omega
        have HS2 := Lib.hid hs2
        clear h2 hs2 hsz htk
        have hdm : ((2 * (m : Int) + 1) / 2) = (m : Int) := by omega
        go_wp2
        go_round
        case rel => exact ⟨t ++ t, out ++ t, m, rfl, by go_num, rfl, by omega, by rw [ByteArray.size_append]; omega, HS2.out⟩
        case measure => simp [intOf]; omega

/-- A text was drawn: not too many bytes. -/
def TextDrawn (w : World) (B g : Nat) (A : Option Addr) (len cap p : Nat) (e : Ending) (w' : World) : Prop :=
  ∃ s : ByteArray, s.size ≤ 8000 ∧ e = .returned (.string s) ∧ Read w B g A len cap p 30 w'

set_option maxRecDepth 100000 in
set_option maxHeartbeats 2000000 in
theorem l1Text_any (B g : Nat) (A : Option Addr) (len cap p : Nat) (w : World) (hr : Rd w B g A len cap p) (hp : p ≤ 2 ^ 18) :
    Calls Try.prog 43 #[.pointer (some ⟨g, 0, none⟩)] w (TextDrawn w B g A len cap p) := by
  have hcv := conv_one
  have HP := Lib.hid (l1Line_any B g A len cap p w hr (by omega))
  go_enter Try.func43, Try.ntmps43
  go_wp2_with fail
  refine HP.out.mono ?_
  rintro e w1 ⟨s0, hs0, _, rfl, q0, hq1, hq2, hrd0, hgr0⟩
  go_wp2_with fail
  refine (pick_any B g A len cap q0 4 w1 hrd0 (by omega) (by omega) (by omega)).mono ?_
  rintro e w2 ⟨v0, hv0, rfl, q1, hq3, hq4, hrd1, hgr1⟩
  have hgr2 := grown_trans hgr0 hgr1
  clear hgr0 hgr1 hrd0 HP hr
  go_wp2
  go_loopw [3, 4] (fun o i wr => ∃ (k q : Nat) (out : ByteArray), i = .int .i64 k ∧ o = .string out ∧ k ≤ 3 ∧ out.size + 13 * k ≤ 51 ∧ p ≤ q ∧ q + 5 * k ≤ p + 21 ∧ Rd wr B g A len cap q ∧ w.grownBy wr (some g))
    (fun _ i _ => (intOf i).toNat)
  case atStart => exact ⟨v0, q1, s0, rfl, rfl, by omega, by omega, by omega, by omega, hrd1, hgr2⟩
  case round =>
    clear hrd1 hgr2 hq1 hq2 hq3 hq4
    obtain ⟨k, q, out, rfl, rfl, hk, hsz, hq1, hq2, hrd, hgr⟩ := hrel
    by_cases hk0 : k = 0
    · subst hk0
      go_wp2_with fail
      refine (pick_any B g A len cap q 40 wr hrd (by omega) (by omega) (by omega)).mono ?_
      rintro e w3 ⟨v, hv, rfl, q3, hq5, hq6, hrd3, hgr3⟩
      have hgr4 := grown_trans hgr hgr3
      clear hgr hgr3 hrd
      have hos : out.size ≤ 51 := by omega
      by_cases h0 : v = 0
      · have t0 : ((v : Int) == 0) = true := by simp; omega
        go_wp2
        go_ret
        exact ⟨out ++ ⟨#[9]⟩, by rw [ByteArray.size_append]; show out.size + 1 ≤ 8000; omega, rfl, q3, by omega, by omega, hrd3, hgr4⟩
      · have t0 : ((v : Int) == 0) = false := by simp; omega
        by_cases h1 : v = 1
        · have t1 : ((v : Int) == 1) = true := by simp; omega
          go_wp2_with fail
          refine (num_any B g A len cap q3 w3.heap.size 2 2 [120, 121] _ (hrd3.alloc _) (by omega) rfl (by omega) (by omega) (by simp) (by have := hrd3.lt; omega) ?_).mono ?_
          · intro j hj
            rw [cell_made]
            match j, hj with
            | 0, _ => rfl
            | 1, _ => rfl
          · rintro e w4 ⟨u, hu, rfl, q4, hq7, hq8, hrd4, hgr5⟩
            obtain ⟨zz, hzz, rfl⟩ := List.mem_map.1 hu
            have hz2 : zz = 120 ∨ zz = 121 := by simpa using hzz
            obtain ⟨z, rfl⟩ : ∃ z : Nat, zz = (z : Int) := Int.eq_ofNat_of_zero_le (by omega)
            have hz3 : z ≤ 2000 := by omega
            clear hu hzz hz2
            go_wp2_with fail
            refine (l12Many_any ⟨#[97]⟩ z w4 (by show 1 ≤ 3; omega) hz3).mono ?_
            rintro e w5 ⟨t, ht, rfl, rfl⟩
            have h10 : (ByteArray.mk #[10]).size = 1 := rfl
            go_wp2
            go_ret
            exact ⟨out ++ ⟨#[10]⟩ ++ t, by rw [ByteArray.size_append, ByteArray.size_append]; omega, rfl, q4, by omega, by omega, hrd4, grown_trans (grown_alloc hgr4 _) hgr5⟩
        · have t1 : ((v : Int) == 1) = false := by simp; omega
          by_cases h2 : v = 2
          · have t2 : ((v : Int) == 2) = true := by simp; omega
            go_wp2_with fail
            refine (pick_any B g A len cap q3 2 w3 hrd3 (by omega) (by omega) (by omega)).mono ?_
            rintro e w4 ⟨z, hz, rfl, q4, hq7, hq8, hrd4, hgr5⟩
            go_wp2_with fail
            have hmany := l12Many_any ⟨#[97, 98, 10]⟩ (1333 + z) w4 (by show 3 ≤ 3; omega) (by omega)
            rw [show ((1333 + z : Nat) : Int) = 1333 + (z : Int) from by omega] at hmany
            refine hmany.mono ?_
            rintro e w5 ⟨t, ht, rfl, rfl⟩
            go_wp2
            go_ret
            exact ⟨t, by omega, rfl, q4, by omega, by omega, hrd4, grown_trans hgr4 hgr5⟩
          · have t2 : ((v : Int) == 2) = false := by simp; omega
            by_cases h3 : v = 3
            · have t3 : ((v : Int) == 3) = true := by simp; omega
              have hbs := byteS_size
              go_wp2
              go_ret
              exact ⟨out ++ byteS 200, by rw [ByteArray.size_append, byteS_size]; omega, rfl, q3, by omega, by omega, hrd3.alloc _, grown_alloc hgr4 _⟩
            · have t3 : ((v : Int) == 3) = false := by simp; omega
              go_wp2
              go_ret
              exact ⟨out, by omega, rfl, q3, by omega, by omega, hrd3, hgr4⟩
    · have hkp : 0 < (k : Int) := by omega
      have h10 : (ByteArray.mk #[10]).size = 1 := rfl
      go_wp2_with fail
      refine (l1Line_any B g A len cap q wr hrd (by omega)).mono ?_
      rintro e w3 ⟨t, ht, _, rfl, q3, hq5, hq6, hrd3, hgr3⟩
      go_wp2
      go_roundw
      case rel => exact ⟨k - 1, q3, out ++ ⟨#[10]⟩ ++ t, by go_num, rfl, by omega, by rw [ByteArray.size_append, ByteArray.size_append]; omega, by omega, by omega, hrd3, grown_trans hgr hgr3⟩
      case measure => simp [intOf]; omega

end Go.Proofs.Ytnpcohbbjfjjaaa
