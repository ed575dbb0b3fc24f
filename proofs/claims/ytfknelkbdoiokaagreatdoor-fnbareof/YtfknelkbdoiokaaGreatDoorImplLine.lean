/-
  The contract of impl.TokLine, for all lines.
-/
import Derived.Test.YtfknelkbdoiokaaGreatDoorGS
import Derived.Test.YtfknelkbdoiokaaGreatDoorDecimal
namespace Go.Proofs.YtfknelkbdoiokaaGreatDoor
open Go.RowKit

def contB (s : ByteArray) (p k : Nat) : Bool := decide (p + k < s.size) && ((s.get! (p + k)).toNat / 64 == 2)
theorem contB_high {s : ByteArray} {p k : Nat} (h : contB s p k = true) : ∃ hq : p + k < s.size, 128 ≤ s[p + k].toNat := by
  unfold contB at h
  rw [Bool.and_eq_true, decide_eq_true_eq, beq_iff_eq] at h
  refine ⟨h.1, ?_⟩
  have e : s.get! (p + k) = s[p + k]'h.1 := get_at s (p + k) h.1
  rw [e] at h
  omega
theorem decode_width (s : ByteArray) (p : Nat) : (Utf8.decode s p).2 = 1 ∨ ((Utf8.decode s p).2 = 2 ∧ contB s p 1 = true) ∨ ((Utf8.decode s p).2 = 3 ∧ contB s p 1 = true ∧ contB s p 2 = true) ∨ ((Utf8.decode s p).2 = 4 ∧ contB s p 1 = true ∧ contB s p 2 = true ∧ contB s p 3 = true) := by
  unfold Utf8.decode
  simp only []
  split
  · exact .inl rfl
  · split
    · rename_i h
      rw [Bool.and_eq_true] at h
      split
      · exact .inr (.inl ⟨rfl, h.2⟩)
      · exact .inl rfl
    · split
      · rename_i h
        rw [Bool.and_eq_true, Bool.and_eq_true] at h
        split
        · exact .inr (.inr (.inl ⟨rfl, h.1.2, h.2⟩))
        · exact .inl rfl
      · split
        · rename_i h
          rw [Bool.and_eq_true, Bool.and_eq_true, Bool.and_eq_true] at h
          split
          · exact .inr (.inr (.inr ⟨rfl, h.1.1.2, h.1.2, h.2⟩))
          · exact .inl rfl
        · exact .inl rfl
/-- A rune does not go on over a byte below 128. -/
theorem decode_stop {s : ByteArray} {p n : Nat} (hp : p < n) (hn : n < s.size) (h : s[n].toNat < 128) : p + (Utf8.decode s p).2 ≤ n := by
  have key : ∀ k, contB s p k = true → p + k ≠ n := by
    rintro k hk rfl
    obtain ⟨_, h2⟩ := contB_high hk
    omega
  rcases decode_width s p with h1 | ⟨h1, h2⟩ | ⟨h1, h2, h3⟩ | ⟨h1, h2, h3, h4⟩
  · omega
  · have := key 1 h2; omega
  · have := key 1 h2; have := key 2 h3; omega
  · have := key 1 h2; have := key 2 h3; have := key 3 h4; omega

def spS : ByteArray := ⟨#[32]⟩
theorem app_size (s : ByteArray) : (s ++ spS).size = s.size + 1 := by rw [ByteArray.size_append]; rfl
theorem app_at (s : ByteArray) (p : Nat) (h : p < s.size) : (s ++ spS)[p]'(by rw [app_size]; omega) = s[p] := ByteArray.getElem_append_left h
theorem app_end (s : ByteArray) : (s ++ spS)[s.size]'(by rw [app_size]; omega) = 32 := by
  rw [ByteArray.getElem_append_right (by omega)]
  simp [spS]
  rfl

/-- What the rune at place p of a line is, and how many bytes it has. -/
def Rune (s : ByteArray) (p r wd : Nat) : Prop := ∃ hp : p < s.size, (s[p].toNat < 128 ∧ r = s[p].toNat ∧ wd = 1) ∨ (128 ≤ s[p].toNat ∧ 128 ≤ r ∧ p + wd ≤ s.size ∧ 1 ≤ wd)
/-- Where the scan of a line is, ahead of the rune at p: what was found so far, and what it is within since place a. -/
structure Scan (s : ByteArray) (p a st : Nat) (acc : List Tk) : Prop where
  far : FarT s a acc
  ap : a ≤ p
  ps : p ≤ s.size
  is : (st = 0 ∧ (∀ x ∈ cutL s a p, x = 32)) ∨ (st = 1 ∧ a < p ∧ (∀ x ∈ cutL s a p, isLet x = true)) ∨ (st = 2 ∧ a < p ∧ (∀ x ∈ cutL s a p, isDig x = true)) ∨
   (st = 3 ∧ a < p ∧ ∃ h : a < s.size, s[a] ≠ 32 ∧ isLet s[a] = false ∧ isDig s[a] = false ∧ (s[a].toNat < 128 → p = a + 1))
theorem Scan.zero (s : ByteArray) : Scan s 0 0 0 [] := ⟨FarT.zero s, Nat.le_refl _, Nat.zero_le _, .inl ⟨rfl, by rw [cutL_nil]; simp⟩⟩
theorem all_succ {s : ByteArray} {P : UInt8 → Prop} {a p : Nat} (ha : a ≤ p) (hp : p < s.size) (h : ∀ x ∈ cutL s a p, P x) (hx : P s[p]) : ∀ x ∈ cutL s a (p + 1), P x := by
  intro x hm
  rw [cutL_succ s a p ha hp, List.mem_append] at hm
  rcases hm with hm | hm
  · exact h x hm
  · rw [List.mem_singleton] at hm; rw [hm]; exact hx
theorem FarT.spaces {s : ByteArray} {a : Nat} {acc : List Tk} (h : FarT s a acc) : ∀ d, a + d ≤ s.size → (∀ x ∈ cutL s a (a + d), x = 32) → FarT s (a + d) acc := by
  intro d
  induction d with
  | zero => intro _ _; exact h
  | succ d ih =>
    intro hd hx
    have hlt : a + d < s.size := by omega
    rw [← Nat.add_assoc, cutL_succ s a (a + d) (by omega) hlt] at hx
    have h1 := ih (by omega) (fun x hm => hx x (List.mem_append_left _ hm))
    exact h1.space hlt (hx _ (List.mem_append_right _ (by simp)))
theorem Scan.sp {s : ByteArray} {p a : Nat} {acc : List Tk} (h : Scan s p a 0 acc) : FarT s p acc := by
  rcases h.is with ⟨_, hx⟩ | ⟨h0, _⟩ | ⟨h0, _⟩ | ⟨h0, _⟩
  · have := h.far.spaces (p - a) (by have := h.ap; have := h.ps; omega) (by rw [show a + (p - a) = p by have := h.ap; omega]; exact hx)
    rwa [show a + (p - a) = p by have := h.ap; omega] at this
  · cases h0
  · cases h0
  · cases h0
theorem Scan.go {s : ByteArray} {p a st r wd : Nat} {acc : List Tk} (h : Scan s p a st acc) (hr : Rune s p r wd) (hst : stR r = st) (h3 : st ≠ 3) : Scan s (p + wd) a st acc ∧ wd = 1 := by
  obtain ⟨hp, hr⟩ := hr
  rcases hr with ⟨h1, rfl, rfl⟩ | ⟨h1, h2, _⟩
  · refine ⟨⟨h.far, by have := h.ap; omega, hp, ?_⟩, rfl⟩
    rcases h.is with ⟨e, hx⟩ | ⟨e, ha, hx⟩ | ⟨e, ha, hx⟩ | ⟨e, _⟩
    · subst e
      exact .inl ⟨rfl, all_succ h.ap hp hx (stR_space.1 hst)⟩
    · subst e
      exact .inr (.inl ⟨rfl, by omega, all_succ h.ap hp hx (stR_let.1 hst)⟩)
    · subst e
      exact .inr (.inr (.inl ⟨rfl, by omega, all_succ h.ap hp hx (stR_dig.1 hst)⟩))
    · exact absurd e h3
  · rw [stR_high h2] at hst
    exact absurd hst.symm h3
theorem cutL_one (s : ByteArray) (p : Nat) (hp : p < s.size) : cutL s p (p + 1) = [s[p]] := by
  rw [cutL_cons s p (p + 1) (by omega) hp, cutL_nil]
theorem Scan.new {s : ByteArray} {p r wd : Nat} {acc : List Tk} (h : FarT s p acc) (hr : Rune s p r wd) : Scan s (p + wd) p (stR r) acc := by
  obtain ⟨hp, hr⟩ := hr
  rcases hr with ⟨h1, rfl, rfl⟩ | ⟨h1, h2, h3, h4⟩
  · have one : ∀ P : UInt8 → Prop, P s[p] → ∀ x ∈ cutL s p (p + 1), P x := by
      intro P hP x hx
      rw [cutL_one s p hp, List.mem_singleton] at hx
      rw [hx]; exact hP
    refine ⟨h, by omega, hp, ?_⟩
    have hle := stR_le s[p].toNat
    have hc : stR s[p].toNat = 0 ∨ stR s[p].toNat = 1 ∨ stR s[p].toNat = 2 ∨ stR s[p].toNat = 3 := by omega
    rcases hc with e | e | e | e
    · exact .inl ⟨e, one (· = 32) (stR_space.1 e)⟩
    · exact .inr (.inl ⟨e, by omega, one (isLet · = true) (stR_let.1 e)⟩)
    · exact .inr (.inr (.inl ⟨e, by omega, one (isDig · = true) (stR_dig.1 e)⟩))
    · refine .inr (.inr (.inr ⟨e, by omega, hp, fun hx => ?_, ?_, ?_, fun _ => rfl⟩))
      · rw [stR_space.2 hx] at e; cases e
      · cases hl : isLet s[p]
        · rfl
        · rw [stR_let.2 hl] at e; cases e
      · cases hl : isDig s[p]
        · rfl
        · rw [stR_dig.2 hl] at e; cases e
  · rw [stR_high h2]
    refine ⟨h, by omega, h3, .inr (.inr (.inr ⟨rfl, by omega, hp, fun hx => ?_, ?_, ?_, fun hlt => by omega⟩))⟩
    · rw [hx] at h1; exact absurd h1 (by decide)
    · cases hl : isLet s[p]
      · rfl
      · rw [isLet_iff] at hl; omega
    · cases hl : isDig s[p]
      · rfl
      · rw [isDig_iff] at hl; omega
theorem Scan.word {s : ByteArray} {p a st : Nat} {acc : List Tk} (h : Scan s p a st acc) (h0 : st ≠ 0) (hx : p < s.size → ∃ r wd, Rune s p r wd ∧ ¬ (stR r = st ∧ st ≠ 3)) : a < p ∧ WordAt s a p := by
  have notLet : ∀ x, st = 1 → ((L s).drop p).head? = some x → isLet x = false := by
    intro x e hh
    obtain ⟨hp, rfl⟩ := drop_head s p x hh
    obtain ⟨r, wd, ⟨_, hr⟩, hn⟩ := hx hp
    cases hl : isLet s[p]
    · rfl
    · exfalso
      rcases hr with ⟨_, rfl, _⟩ | ⟨h1, _⟩
      · exact hn ⟨by rw [stR_let.2 hl, e], by omega⟩
      · rw [isLet_iff] at hl; omega
  have notDig : ∀ x, st = 2 → ((L s).drop p).head? = some x → isDig x = false := by
    intro x e hh
    obtain ⟨hp, rfl⟩ := drop_head s p x hh
    obtain ⟨r, wd, ⟨_, hr⟩, hn⟩ := hx hp
    cases hl : isDig s[p]
    · rfl
    · exfalso
      rcases hr with ⟨_, rfl, _⟩ | ⟨h1, _⟩
      · exact hn ⟨by rw [stR_dig.2 hl, e], by omega⟩
      · rw [isDig_iff] at hl; omega
  have hps := h.ps
  rcases h.is with ⟨e, _⟩ | ⟨e, ha, hc⟩ | ⟨e, ha, hc⟩ | ⟨e, ha, has, h32, hl, hd, hone⟩
  · exact absurd e h0
  · refine ⟨ha, WordAt.of ha hps ?_⟩
    rw [cutL_cons s a p ha hps] at hc ⊢
    exact starts_let (hc _ (by simp)) (List.all_eq_true.2 fun x hm => hc x (by simp [hm])) (fun x hh => notLet x e hh)
  · refine ⟨ha, WordAt.of ha hps ?_⟩
    rw [cutL_cons s a p ha hps] at hc ⊢
    exact starts_dig (hc _ (by simp)) (List.all_eq_true.2 fun x hm => hc x (by simp [hm])) (fun x hh => notDig x e hh)
  · refine ⟨ha, ?_⟩
    by_cases h1 : s[a].toNat < 128
    · obtain rfl := hone h1
      refine WordAt.of ha hps ?_
      rw [cutL_one s a has]
      exact starts_one h32 hl hd
    · refine WordAt.none ha hps h32 hl hd ?_
      cases hm : isMark s[a]
      · rfl
      · have := (mark_toNat hm).2.2.2; omega
theorem rune_of {s : ByteArray} {p : Nat} (hp : p < s.size) : Rune s p (Utf8.decode (s ++ spS) p).1 (Utf8.decode (s ++ spS) p).2 := by
  have hp' : p < (s ++ spS).size := by rw [app_size]; omega
  have e := app_at s p hp
  refine ⟨hp, ?_⟩
  by_cases h : s[p].toNat < 128
  · left
    rw [decode_ascii (s ++ spS) p hp' (by rw [e]; exact h), e]
    exact ⟨h, rfl, rfl⟩
  · right
    have h1 := decode_high (s ++ spS) p hp' (by rw [e]; omega)
    exact ⟨by omega, h1.1, decode_stop hp (by rw [app_size]; omega) (by rw [app_end]; decide), h1.2⟩
theorem own_base {w : World} {base base' : Nat} {e : TypeId} {sz : Nat} {v : Value} {n : Nat} {xs : List Value} (h : w.ownsRow base e sz v n xs) (hb : base' ≤ base) : w.ownsRow base' e sz v n xs := by
  refine ⟨h.1, ?_⟩
  rcases h.2 with h | ⟨g, cap, cur, hv, hg, r⟩
  · exact .inl h
  · exact .inr ⟨g, cap, cur, hv, by omega, r⟩

theorem own_iter {w W : World} (t : ByteArray) (p' : Nat) {e : TypeId} {sz : Nat} {v : Value} {n : Nat} {xs : List Value} (h : W.ownsRow (w.heap.size + 1) e sz v n xs) : (W.iterAt w.heap.size t p').ownsRow (w.heap.size + 1) e sz v n xs := by
  refine h.kept (row := some w.heap.size) ⟨rfl, rfl, rfl, by rw [Lib.iterAt_size]; exact Nat.le_refl _, fun k _ hk => Lib.iterAt_other W w.heap.size k t p' (fun e => hk (by rw [e]))⟩ ?_
  cases hv : v.ownBlock with
  | none => exact .inl rfl
  | some g =>
    right
    have := (h.lt g hv).1
    intro e
    injection e with e
    omega
theorem iter_kept {w W W' : World} {tmp : Obj} {t : ByteArray} {p : Nat} {e : TypeId} {sz : Nat} {v : Value} {n : Nat} {xs : List Value} (hit : W.heap[w.heap.size]? = some (.stringIter t p)) (hrow : W.ownsRow (w.heap.size + 1) e sz v n xs) (hg : (W.alloc tmp).grownBy W' v.ownBlock) : W'.heap[w.heap.size]? = some (.stringIter t p) := by
  have hlt : w.heap.size < W.heap.size := (Array.getElem?_eq_some_iff.1 hit).1
  rw [hg.block w.heap.size (by simp; omega) (fun e => by have := (hrow.lt _ e.symm).1; omega), Below.heap_alloc W tmp w.heap.size hlt]
  exact hit

set_option maxRecDepth 100000 in
set_option maxHeartbeats 4000000 in
theorem tokLine_any (s : ByteArray) (w : World) (hs : s.size ≤ 2 ^ 40) (hw : LaidW w) :
    Calls Tryz.prog 27 #[.string s] w (ReadsT w s) := by
  obtain ⟨i0, hi, hz0, hz1, hz2⟩ := info_parts infoTok
  have HW := Lib.hid hw
  clear hw
  by_cases hbig : s.size ≤ 120
  · have q0 : decide ((120 : Int) < (s.size : Int)) = false := by simp; omega
    have HR := Lib.hid (toksR_ok hbig)
    go_enter Tryz.func27, Tryz.ntmps27
    go_wp2_with fail
    go_step3
    go_wp2_with fail
    go_step3
    go_wp2_with fail
    go_loopw [4, 5, 6] (fun v b st wr => ∃ (p a q : Nat) (acc : List Tk), b = .int .i64 a ∧ st = .int .i64 q ∧ wr.heap[w.heap.size]? = some (.stringIter (s ++ ⟨#[32]⟩) p) ∧ ((p ≤ s.size ∧ Hid (Scan s p a q acc)) ∨ (p = s.size + 1 ∧ Hid (toks 0 (L s) = some acc))) ∧ wr.ownsRow (w.heap.size + 1) 50 3 v acc.length (rowT (acc.map tkV)) ∧ Below w.heap.size w wr)
      (fun _ _ _ wr => s.size + 1 - wr.iterPos w.heap.size)
    case atStart => exact ⟨0, 0, 0, [], rfl, rfl, World.iter_heap w _ 0, .inl ⟨Nat.zero_le _, Scan.zero s⟩, World.ownsRow_nil _ _ _ _, (Below.refl _ w).alloc (Nat.le_refl _) _⟩
    case round =>
      clear q0
      obtain ⟨p, a, q, acc, rfl, rfl, hit, hcase, hown, hbw⟩ := hrel
      have hlt : w.heap.size < wr.heap.size := (Array.getElem?_eq_some_iff.1 hit).1
      have HIT0 := Lib.hid hit
      have hts := app_size s
      have hsp : spS = ⟨#[32]⟩ := rfl
      rcases hcase with ⟨hps, HSC⟩ | ⟨rfl, HT⟩
      · have hal : acc.length ≤ 120 := by have := HSC.out.far.len; have := HSC.out.ap; omega
        have haz : a ≤ 120 := by have := HSC.out.ap; omega
        have hqz : q ≤ 3 := by rcases HSC.out.is with ⟨e, _⟩ | ⟨e, _⟩ | ⟨e, _⟩ | ⟨e, _⟩ <;> omega
        by_cases hp : p < s.size
        · have hnx : ∀ ty, (Instr.next (.pointer (some ⟨w.heap.size, 0, none⟩)) true ty).run Tryz.prog wr = _ := fun ty => Lib.run_next_any_at wr w.heap.size (s ++ ⟨#[32]⟩) p ty hit (by rw [← hsp, hts]; omega)
          have HRU := Lib.hid (rune_of hp)
          rw [hsp] at HRU
          have hdl := decode_le (s ++ ⟨#[32]⟩) p
          have hit2 := Lib.iterAt_heap wr w.heap.size (s ++ ⟨#[32]⟩) p (p + (Utf8.decode (s ++ ⟨#[32]⟩) p).2) hit
          have hbw2 := Lib.below_iterAt hbw (k := w.heap.size) (Nat.le_refl _) (s ++ ⟨#[32]⟩) (p + (Utf8.decode (s ++ ⟨#[32]⟩) p).2)
          have hown2 := own_iter (w := w) (s ++ ⟨#[32]⟩) (p + (Utf8.decode (s ++ ⟨#[32]⟩) p).2) hown
          have hlt2 : w.heap.size < (wr.iterAt w.heap.size (s ++ ⟨#[32]⟩) (p + (Utf8.decode (s ++ ⟨#[32]⟩) p).2)).heap.size := by rw [Lib.iterAt_size]; exact hlt
          generalize (Utf8.decode (s ++ ⟨#[32]⟩) p).1 = r at *
          generalize (Utf8.decode (s ++ ⟨#[32]⟩) p).2 = wd at *
          generalize wr.iterAt w.heap.size (s ++ ⟨#[32]⟩) (p + wd) = W1 at *
          have hwd : 1 ≤ wd ∧ p + wd ≤ s.size := by
            obtain ⟨hp', hr⟩ := HRU.out
            rcases hr with ⟨_, _, rfl⟩ | ⟨_, _, h3, h4⟩ <;> omega
          have HST := Lib.hid (fun W => stateOf_any r W hdl)
          have hnz := stR_le r
          have HNEW := Lib.hid (fun acc' (hf : FarT s p acc') => Scan.new hf HRU.out)
          have HGO := Lib.hid (fun (h1 : stR r = q) (h3 : q ≠ 3) => (HSC.out.go HRU.out h1 h3).1)
          have HWORD := Lib.hid (fun (h0 : q ≠ 0) (hn : ¬ (stR r = q ∧ q ≠ 3)) => HSC.out.word h0 (fun _ => ⟨r, wd, HRU.out, hn⟩))
          generalize stR r = now at *
          clear hts hsp hown hit hlt HRU
          by_cases hsame : now = q
          · by_cases h3 : q = 3
            · have HWA := Lib.hid (HWORD.out (by omega) (fun hh => hh.2 h3))
              have q1 : ((now : Int) == (q : Int)) = true := by rw [beq_iff_eq]; omega
              have q2 : ((now : Int) != 3) = false := by rw [bne_eq_false_iff_eq]; omega
              have q3 : ((q : Int) != 0) = true := by rw [bne_iff_ne]; omega
              clear hsame h3 HWORD HGO
              have hap := HWA.out.1
              have HWd := Lib.hid HWA.out.2
              have HTK := Lib.hid (fun W hW => tokKind_any (s.extract a p) W (by rw [← L_length, L_cut, cutL_length s a p hps]; omega) hW)
              simp only [L_cut] at HTK
              have i1 : (a : Int) ≤ (p : Int) := by omega
              have i2 : (p : Int) ≤ (s.size : Int) := by omega
              have HCB := Lib.hid (cut_bytes s a p)
              by_cases hk : kindL (cutL s a p) = 0
              · have HN := Lib.hid (HSC.out.far.bad HWd.out hk)
                simp only [hk] at HTK
                clear hk
                go_wp2_with fail
                refine (HST.out _).mono ?_
                rintro e w' ⟨rfl, rfl⟩
                go_wp2_with fail
                refine (HTK.out _ (HW.out.below hbw2)).mono ?_
                rintro e W3 ⟨rfl, hb3⟩
                go_wp2_with fail
                (try rw [Exit.noGoto_ret])
                go_ret2
                exact ⟨_, ret_list (by rw [HR.out, HN.out]; rfl), by rw [HR.out, HN.out]; exact World.ownsRow_nil _ _ _ _, hbw2.trans (hb3.mono hbw2.size)⟩
              · have HF := Lib.hid (HSC.out.far.word hap hps HWd.out hk)
                generalize hkk : kindL (cutL s a p) = kd at *
                have q9 : ((kd : Int) == 0) = false := by rw [beq_eq_false_iff_ne]; omega
                clear hkk hk
                go_wp2_with fail
                refine (HST.out _).mono ?_
                rintro e w' ⟨rfl, rfl⟩
                go_wp2_with fail
                refine (HTK.out _ (HW.out.below hbw2)).mono ?_
                rintro e W3 ⟨rfl, hb3⟩
                have hown3 := own_below hown2 hb3
                have hB3 := hbw2.trans (hb3.mono hbw2.size)
                have hs3 := hb3.size
                have hit3 := (hb3.block w.heap.size hlt2).trans hit2
                have HIT3 := Lib.hid hit3
                clear hown2 HTK HST hit2 hit3
                go_wp2_with (at_builtin; refine wpList_append_own _ rfl _ _ 46 rfl (w.heap.size + 1) 50 i0 (.agg #[.int .i64 0, .string ByteArray.empty, .int .i64 0]) 3 32 Tryz.underlying46 hi hz0 hz1 hz2 rfl (by decide) _ _ _ rfl (hown3.alloc _) ⟨W3.heap.size, 0, none⟩ 1 1 [.int .i64 (kd : Int), .string (s.extract a p), .int .i64 (a : Int)] rfl rfl (cell_three_new _ _ _ _ _) (by simp [Value.oneCell']) (by unfold maxLen; omega) (by omega) (by simp; omega) ?_; intro v' W4 hown' hgrow _)
                have hit4 := iter_kept HIT3.out hown3 hgrow
                go_roundw
                case rel => exact ⟨p + wd, p, now, _, rfl, rfl, hit4, .inl ⟨by omega, HNEW.out _ HF.out⟩, by rw [List.map_append, List.length_append, rowT_append]; rw [HCB.out] at hown'; exact hown', below_appendK hB3 hB3.size (own_base hown3 (by omega)) hgrow⟩
                case measure =>
                  simp only [World.iterPos, hit4, HIT0.out]
                  omega

            · have HG := Lib.hid (HGO.out hsame h3)
              subst hsame
              have q1 : ((now : Int) == (now : Int)) = true := by simp
              have q2 : ((now : Int) != 3) = true := by rw [bne_iff_ne]; omega
              clear h3 HWORD HGO HNEW
              go_wp2_with fail
              refine (HST.out _).mono ?_
              rintro e w' ⟨rfl, rfl⟩
              go_wp2_with fail
              go_roundw
              case rel => exact ⟨p + wd, a, now, acc, rfl, rfl, hit2, .inl ⟨by omega, HG.out⟩, hown2, hbw2⟩
              case measure =>
                simp only [World.iterPos, hit2, HIT0.out]
                omega
          · have q1 : ((now : Int) == (q : Int)) = false := by rw [beq_eq_false_iff_ne]; omega
            by_cases h0 : q = 0
            · subst h0
              have HSP := Lib.hid (HNEW.out _ HSC.out.sp)
              clear q1
              have q1 : ((now : Int) == 0) = false := by rw [beq_eq_false_iff_ne]; omega
              clear hsame HWORD HGO HNEW
              go_wp2_with fail
              refine (HST.out _).mono ?_
              rintro e w' ⟨rfl, rfl⟩
              go_wp2_with fail
              go_roundw
              case rel => exact ⟨p + wd, p, now, acc, rfl, rfl, hit2, .inl ⟨by omega, HSP.out⟩, hown2, hbw2⟩
              case measure =>
                simp only [World.iterPos, hit2, HIT0.out]
                omega
            · have HWA := Lib.hid (HWORD.out h0 (fun hh => hsame hh.1))
              have q3 : ((q : Int) != 0) = true := by rw [bne_iff_ne]; omega
              clear hsame h0 HWORD HGO
              have hap := HWA.out.1
              have HWd := Lib.hid HWA.out.2
              have HTK := Lib.hid (fun W hW => tokKind_any (s.extract a p) W (by rw [← L_length, L_cut, cutL_length s a p hps]; omega) hW)
              simp only [L_cut] at HTK
              have i1 : (a : Int) ≤ (p : Int) := by omega
              have i2 : (p : Int) ≤ (s.size : Int) := by omega
              have HCB := Lib.hid (cut_bytes s a p)
              by_cases hk : kindL (cutL s a p) = 0
              · have HN := Lib.hid (HSC.out.far.bad HWd.out hk)
                simp only [hk] at HTK
                clear hk
                go_wp2_with fail
                refine (HST.out _).mono ?_
                rintro e w' ⟨rfl, rfl⟩
                go_wp2_with fail
                refine (HTK.out _ (HW.out.below hbw2)).mono ?_
                rintro e W3 ⟨rfl, hb3⟩
                go_wp2_with fail
                (try rw [Exit.noGoto_ret])
                go_ret2
                exact ⟨_, ret_list (by rw [HR.out, HN.out]; rfl), by rw [HR.out, HN.out]; exact World.ownsRow_nil _ _ _ _, hbw2.trans (hb3.mono hbw2.size)⟩
              · have HF := Lib.hid (HSC.out.far.word hap hps HWd.out hk)
                generalize hkk : kindL (cutL s a p) = kd at *
                have q9 : ((kd : Int) == 0) = false := by rw [beq_eq_false_iff_ne]; omega
                clear hkk hk
                go_wp2_with fail
                refine (HST.out _).mono ?_
                rintro e w' ⟨rfl, rfl⟩
                go_wp2_with fail
                refine (HTK.out _ (HW.out.below hbw2)).mono ?_
                rintro e W3 ⟨rfl, hb3⟩
                have hown3 := own_below hown2 hb3
                have hB3 := hbw2.trans (hb3.mono hbw2.size)
                have hs3 := hb3.size
                have hit3 := (hb3.block w.heap.size hlt2).trans hit2
                have HIT3 := Lib.hid hit3
                clear hown2 HTK HST hit2 hit3
                go_wp2_with (at_builtin; refine wpList_append_own _ rfl _ _ 46 rfl (w.heap.size + 1) 50 i0 (.agg #[.int .i64 0, .string ByteArray.empty, .int .i64 0]) 3 32 Tryz.underlying46 hi hz0 hz1 hz2 rfl (by decide) _ _ _ rfl (hown3.alloc _) ⟨W3.heap.size, 0, none⟩ 1 1 [.int .i64 (kd : Int), .string (s.extract a p), .int .i64 (a : Int)] rfl rfl (cell_three_new _ _ _ _ _) (by simp [Value.oneCell']) (by unfold maxLen; omega) (by omega) (by simp; omega) ?_; intro v' W4 hown' hgrow _)
                have hit4 := iter_kept HIT3.out hown3 hgrow
                go_roundw
                case rel => exact ⟨p + wd, p, now, _, rfl, rfl, hit4, .inl ⟨by omega, HNEW.out _ HF.out⟩, by rw [List.map_append, List.length_append, rowT_append]; rw [HCB.out] at hown'; exact hown', below_appendK hB3 hB3.size (own_base hown3 (by omega)) hgrow⟩
                case measure =>
                  simp only [World.iterPos, hit4, HIT0.out]
                  omega

        · obtain rfl : s.size = p := by omega
          have hae := app_end s
          have hnx : ∀ ty, (Instr.next (.pointer (some ⟨w.heap.size, 0, none⟩)) true ty).run Tryz.prog wr = .ok (.tuple #[.bool true, .int .i64 (s.size : Int), .int .i32 32]) (wr.iterAt w.heap.size (s ++ ⟨#[32]⟩) (s.size + 1)) := by
            intro ty
            have h1 := Lib.run_next_ascii_at (P := Tryz.prog) wr w.heap.size (s ++ spS) s.size ty hit (by rw [hts]; omega) (by rw [hae]; decide)
            rw [hae] at h1
            exact h1
          have hit2 := Lib.iterAt_heap wr w.heap.size (s ++ ⟨#[32]⟩) s.size (s.size + 1) hit
          have hbw2 := Lib.below_iterAt hbw (k := w.heap.size) (Nat.le_refl _) (s ++ ⟨#[32]⟩) (s.size + 1)
          have hown2 := own_iter (w := w) (s ++ ⟨#[32]⟩) (s.size + 1) hown
          have hlt2 : w.heap.size < (wr.iterAt w.heap.size (s ++ ⟨#[32]⟩) (s.size + 1)).heap.size := by rw [Lib.iterAt_size]; exact hlt
          generalize wr.iterAt w.heap.size (s ++ ⟨#[32]⟩) (s.size + 1) = W1 at *
          have HST := Lib.hid (fun W => stateOf_any 32 W (by omega))
          rw [show stR 32 = 0 from rfl] at HST
          clear hts hsp hown hit hlt hae
          by_cases h0 : q = 0
          · subst h0
            have HD := Lib.hid (HSC.out.sp.done (by omega))
            go_wp2_with fail
            refine (HST.out _).mono ?_
            rintro e w' ⟨rfl, rfl⟩
            go_wp2_with fail
            go_roundw
            case rel => exact ⟨s.size + 1, _, 0, acc, rfl, rfl, hit2, .inr ⟨rfl, HD.out⟩, hown2, hbw2⟩
            case measure =>
              simp only [World.iterPos, hit2, HIT0.out]
              omega
          · have HWA := Lib.hid (HSC.out.word h0 (fun h => absurd h (by omega)))
            have q1 : (((0 : Nat) : Int) == (q : Int)) = false := by rw [beq_eq_false_iff_ne]; omega
            have q3 : ((q : Int) != 0) = true := by rw [bne_iff_ne]; omega
            clear h0
            have hap := HWA.out.1
            have HWd := Lib.hid HWA.out.2
            have HTK := Lib.hid (fun W hW => tokKind_any (s.extract a s.size) W (by rw [← L_length, L_cut, cutL_length s a s.size hps]; omega) hW)
            simp only [L_cut] at HTK
            have i1 : (a : Int) ≤ (s.size : Int) := by omega
            have i2 : (s.size : Int) ≤ (s.size : Int) := by omega
            have HCB := Lib.hid (cut_bytes s a s.size)
            by_cases hk : kindL (cutL s a s.size) = 0
            · have HN := Lib.hid (HSC.out.far.bad HWd.out hk)
              simp only [hk] at HTK
              clear hk
              go_wp2_with fail
              refine (HST.out _).mono ?_
              rintro e w' ⟨rfl, rfl⟩
              go_wp2_with fail
              refine (HTK.out _ (HW.out.below hbw2)).mono ?_
              rintro e W3 ⟨rfl, hb3⟩
              go_wp2_with fail
              (try rw [Exit.noGoto_ret])
              go_ret2
              exact ⟨_, ret_list (by rw [HR.out, HN.out]; rfl), by rw [HR.out, HN.out]; exact World.ownsRow_nil _ _ _ _, hbw2.trans (hb3.mono hbw2.size)⟩
            · have HF := Lib.hid (HSC.out.far.word hap hps HWd.out hk)
              generalize hkk : kindL (cutL s a s.size) = kd at *
              have q9 : ((kd : Int) == 0) = false := by rw [beq_eq_false_iff_ne]; omega
              clear hkk hk
              go_wp2_with fail
              refine (HST.out _).mono ?_
              rintro e w' ⟨rfl, rfl⟩
              go_wp2_with fail
              refine (HTK.out _ (HW.out.below hbw2)).mono ?_
              rintro e W3 ⟨rfl, hb3⟩
              have hown3 := own_below hown2 hb3
              have hB3 := hbw2.trans (hb3.mono hbw2.size)
              have hs3 := hb3.size
              have hit3 := (hb3.block w.heap.size hlt2).trans hit2
              have HIT3 := Lib.hid hit3
              clear hown2 HTK HST hit2 hit3
              go_wp2_with (at_builtin; refine wpList_append_own _ rfl _ _ 46 rfl (w.heap.size + 1) 50 i0 (.agg #[.int .i64 0, .string ByteArray.empty, .int .i64 0]) 3 32 Tryz.underlying46 hi hz0 hz1 hz2 rfl (by decide) _ _ _ rfl (hown3.alloc _) ⟨W3.heap.size, 0, none⟩ 1 1 [.int .i64 (kd : Int), .string (s.extract a s.size), .int .i64 (a : Int)] rfl rfl (cell_three_new _ _ _ _ _) (by simp [Value.oneCell']) (by unfold maxLen; omega) (by omega) (by simp; omega) ?_; intro v' W4 hown' hgrow _)
              have hit4 := iter_kept HIT3.out hown3 hgrow
              go_roundw
              case rel => exact ⟨s.size + 1, _, 0, _, rfl, rfl, hit4, .inr ⟨rfl, HF.out.done (by omega)⟩, by rw [List.map_append, List.length_append, rowT_append]; rw [HCB.out] at hown'; exact hown', below_appendK hB3 hB3.size (own_base hown3 (by omega)) hgrow⟩
              case measure =>
                simp only [World.iterPos, hit4, HIT0.out]
                omega

      · have hnx : ∀ ty, (Instr.next (.pointer (some ⟨w.heap.size, 0, none⟩)) true ty).run Tryz.prog wr = _ := fun ty => Lib.run_next_end_at wr w.heap.size (s ++ ⟨#[32]⟩) (s.size + 1) ty hit (by rw [← hsp, hts]; omega)
        clear hts hsp
        go_wp2_with fail
        (try rw [Exit.noGoto_ret])
        go_ret2
        exact ⟨_, ret_list (by rw [HR.out, HT.out]; rfl), by rw [HR.out, HT.out]; exact own_base hown (by omega), hbw⟩
  · have q0 : decide ((120 : Int) < (s.size : Int)) = true := by simp; omega
    have HR := Lib.hid (toksR_big hbig)
    clear hbig
    go_enter Tryz.func27, Tryz.ntmps27
    go_wp2_with fail
    go_step3
    go_wp2_with fail
    (try rw [Exit.noGoto_ret])
    go_ret2
    exact ⟨_, ret_list (by rw [HR.out]; rfl), by rw [HR.out]; exact World.ownsRow_nil _ _ _ _, Below.refl _ _⟩
end Go.Proofs.YtfknelkbdoiokaaGreatDoor
