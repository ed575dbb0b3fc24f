/-
  SpecWords, SpecWords2, SpecWords3, SpecWords4: these texts one behind the other, as a claim holds at most 60 files.
-/
import Derived.Test.YtabignplhkbcpaaGreatDoorGC
import Derived.Test.YtabignplhkbcpaaGreatDoorGA
import Derived.Laws.BytesArg
import Derived.Test.YtabignplhkbcpaaGreatDoorExprWords
import Derived.Deep.RegionHeld3
import Derived.Deep.RegionLawGrows
namespace Go.Proofs.YtabignplhkbcpaaGreatDoor
open Go.RowKit

set_option maxRecDepth 100000 in
set_option maxHeartbeats 1000000 in
theorem l4Level_any (p : Pt) (hf : p.fine = true) (A : Option Addr) (m c : Nat) (w : World) :
    Calls Tryz.prog 74 #[.agg #[.int .i64 p.ex.kind, .int .i64 p.ex.n, .string p.ex.s, .slice A m c]] w fun e w' => e = .returned (.int .i64 (p.lvl : Int)) ∧ Below w.heap.size w w' := by
  cases p with
  | num n =>
    simp only [Pt.ex, Ex.kind, Ex.n, Ex.s]
    go_enter Tryz.func74, Tryz.ntmps74
    go_wp2_with fail
    go_ret
    exact ⟨rfl, (Below.refl _ w).alloc (Nat.le_refl _) _⟩
  | name s =>
    simp only [Pt.ex, Ex.kind, Ex.n, Ex.s]
    go_enter Tryz.func74, Tryz.ntmps74
    go_wp2_with fail
    go_ret
    exact ⟨rfl, (Below.refl _ w).alloc (Nat.le_refl _) _⟩
  | «as» s a =>
    simp only [Pt.ex, Ex.kind, Ex.n, Ex.s]
    go_enter Tryz.func74, Tryz.ntmps74
    go_wp2_with fail
    go_ret
    exact ⟨rfl, (Below.refl _ w).alloc (Nat.le_refl _) _⟩
  | two s a b =>
    simp only [Pt.fine, Bool.and_eq_true, decide_eq_true_eq] at hf
    simp only [Pt.ex, Ex.kind, Ex.n, Ex.s]
    have h0 := hf.1
    clear hf
    have HF := Lib.hid (show (Pt.two s a b).lvl = if (s.toList == [60]) = true then 1 else if (s.toList == [42]) = true then 3 else 2 by
      rw [isS, isS]
      show hold s = _
      unfold hold at h0 ⊢
      by_cases h1 : s = sLess
      · subst h1; rfl
      · by_cases h2 : s = sPlus
        · subst h2; rfl
        · by_cases h3 : s = sMinus
          · subst h3; rfl
          · by_cases h4 : s = sTimes
            · subst h4; rfl
            · rw [if_neg h1, if_neg h2, if_neg h3, if_neg h4] at h0; exact absurd rfl h0)
    clear h0
    generalize (Pt.two s a b).lvl = lv at *
    cases h1 : (s.toList == [60])
    · cases h2 : (s.toList == [42])
      · rw [h1, h2] at HF
        go_enter Tryz.func74, Tryz.ntmps74
        go_wp2_with fail
        go_ret
        exact ⟨by rw [HF.out]; rfl, (Below.refl _ w).alloc (Nat.le_refl _) _⟩
      · rw [h1, h2] at HF
        go_enter Tryz.func74, Tryz.ntmps74
        go_wp2_with fail
        go_ret
        exact ⟨by rw [HF.out]; rfl, (Below.refl _ w).alloc (Nat.le_refl _) _⟩
    · rw [h1] at HF
      go_enter Tryz.func74, Tryz.ntmps74
      go_wp2_with fail
      go_ret
      exact ⟨by rw [HF.out]; rfl, (Below.refl _ w).alloc (Nat.le_refl _) _⟩

theorem decDigits_step {m : Nat} (h : ¬ m < 10) : Lib.decDigits m = Lib.decDigits (m / 10) ++ [UInt8.ofNat (48 + m % 10)] := by
  rw [Lib.decDigits, dif_neg h]

theorem conv_oneN (W : World) (x : Int) : (convert 22 9 (.slice (some ⟨W.heap.size, 0, none⟩) 1 1)).run Tryz.prog (W.alloc (.cells #[.int .u8 x] 5)) = .ok (.string (strOfNums [x])) (W.alloc (.cells #[.int .u8 x] 5)) :=
  run_convert_bytes_arg _ 22 5 Tryz.underlying22 Tryz.underlying5 W.heap.size 0 1 1 [x] rfl (fun i hi => (by obtain rfl : i = 0 := (by omega); exact cell_made4 W #[.int .u8 x] 5 0 _ rfl)) _ Tryz.underlying9
theorem L_nums (x : Nat) (out : ByteArray) : L (strOfNums [(x : Int)] ++ out) = UInt8.ofNat x :: L out := by
  simp [L, strOfNums]

set_option maxRecDepth 100000 in
set_option maxHeartbeats 1000000 in
theorem l12Dec_any (n : Int) (w : World) (h0 : 0 ≤ n) (h1 : n ≤ 1000000) :
    Calls Tryz.prog 75 #[.int .i64 n] w fun e w' => e = .returned (.string (decS n)) ∧ Below w.heap.size w w' := by
  obtain ⟨N, rfl⟩ := Int.eq_ofNat_of_zero_le h0
  have q1 : decide ((N : Int) < -9223372036854775807) = false := decide_eq_false (by omega)
  have q2 : decide ((N : Int) < 0) = false := by simp
  have hlen : (Lib.decDigits N).length ≤ 7 := decL_length ((decL_iff _).2 ⟨N, by omega, rfl⟩)
  have kc := conv_oneN
  go_enter Tryz.func75, Tryz.ntmps75
  go_wp2_with fail
  go_loopw [0, 3] (fun i o wr => ∃ (m : Nat) (out : ByteArray), m ≤ 1000000 ∧ i = .int .i64 (m : Int) ∧ o = .string out ∧ Hid (Lib.decDigits N = Lib.decDigits m ++ L out) ∧ out.size ≤ 7 ∧ Below w.heap.size w wr) (fun i _ _ => (intOf i).toNat)
  case atStart => exact ⟨N, _, by omega, rfl, rfl, Lib.hid (List.append_nil _).symm, by decide, Below.refl _ _⟩
  case round =>
    obtain ⟨m, out, hm, rfl, rfl, HD, hsz, hb⟩ := hrel
    by_cases hlt : m < 10
    · have q3 : decide ((9 : Int) < (m : Int)) = false := by simp; omega
      have kz : (strOfNums [48 + (m : Int)]).size = 1 := strOfNums_size _
      have HR := Lib.hid (show strOfNums [48 + (m : Int)] ++ out = decS (N : Int) by
        unfold decS
        rw [Int.toNat_natCast, HD.out, Lib.decDigits_one hlt]
        exact ByteArray.ext (Array.toList_inj.1 (L_nums (48 + m) out)))
      go_wp2_with fail
      · go_ret
        exact ⟨ret_str HR.out, hb.alloc hb.size _⟩
    · have q3 : decide ((9 : Int) < (m : Int)) = true := by simp; omega
      have q4 : (m : Int).tmod 10 = ((m % 10 : Nat) : Int) := by rw [Int.tmod_eq_emod_of_nonneg (by omega)]; omega
      have q5 : (m : Int).tdiv 10 = ((m / 10 : Nat) : Int) := by rw [Int.tdiv_eq_ediv_of_nonneg (by omega)]; omega
      have kz : (strOfNums [48 + (m : Int) % 10]).size = 1 := strOfNums_size _
      have HR := Lib.hid (show Lib.decDigits N = Lib.decDigits (m / 10) ++ L (strOfNums [48 + (m : Int) % 10] ++ out) by
        rw [HD.out, decDigits_step hlt, show (48 + (m : Int) % 10) = ((48 + m % 10 : Nat) : Int) by omega, L_nums, List.append_assoc]; rfl)
      have hsz2 : (strOfNums [48 + (m : Int) % 10] ++ out).size ≤ 7 := by
        have := congrArg List.length HR.out
        rw [List.length_append] at this
        have e : (L (strOfNums [48 + (m : Int) % 10] ++ out)).length = (strOfNums [48 + (m : Int) % 10] ++ out).size := Array.length_toList
        omega
      go_wp2_with fail
      · exact ⟨⟨m / 10, _, by omega, rfl, rfl, HR, hsz2, hb.alloc hb.size _⟩, by simp [intOf]; omega⟩
end Go.Proofs.YtabignplhkbcpaaGreatDoor

namespace Go.Proofs.YtabignplhkbcpaaGreatDoor
open Go.RowKit

/-- The model writes the words of the part, where it must hold so tight. -/
def SWords (p : Pt) : Prop := ∀ (A : Option Addr) (c B : Nat) (w : World) (tight : Nat), KidsAt w B A p.ex.kids → p.ex.kids.length ≤ c → B ≤ w.heap.size → tight ≤ 4 →
    Calls Tryz.prog 63 #[.agg #[.int .i64 p.ex.kind, .int .i64 p.ex.n, .string p.ex.s, .slice A p.ex.kids.length c], .int .i64 (tight : Int)] w (Wordy (p.at tight) w)

theorem two_new (w : World) (cs : Array Value) : ∃ W2, W2 = (w.alloc (.cells cs 34)).alloc (.cells #[] 9) ∧ Below w.heap.size w W2 ∧ w.heap.size + 1 < W2.heap.size ∧ (∀ j v, cs[j]? = some v → W2.cell? ⟨w.heap.size, j, none⟩ = some v) ∧ W2.ownsRow w.heap.size 9 1 (.slice (some ⟨w.heap.size + 1, 0, none⟩) 0 0) 0 [] := by
  refine ⟨_, rfl, ((Below.refl _ w).alloc (Nat.le_refl _) _).alloc (by simp) _, by simp, fun j v h => ?_, ?_⟩
  · exact (World.cell?_alloc_lt _ _ ⟨w.heap.size, j, none⟩ (by simp)).trans (cell_made4 w _ _ j _ h)
  · have := ownsRow_empty (w.alloc (.cells cs 34)) 9
    rw [World.size_alloc] at this
    exact ownsRow_lower this (by omega)

set_option maxRecDepth 100000 in
set_option maxHeartbeats 1000000 in
theorem l4Words_num (n : Int) (hf : (Pt.num n).fine = true) : SWords (.num n) := by
  intro A c B w tight _ hc _ ht
  have HP := Lib.hid (show (Pt.num n).at tight = [decS n] by
    unfold Pt.at wrapW
    rw [show decide ((Pt.num n).lvl < tight) = false from decide_eq_false (by show ¬ 4 < tight; omega)]
    rfl)
  have HL := Lib.hid (fun W => show Calls Tryz.prog 74 #[.agg #[.int .i64 1, .int .i64 n, .string { data := #[] }, .slice A 0 c]] W (fun e w' => e = .returned (.int .i64 4) ∧ Below W.heap.size W w') from l4Level_any (.num n) hf A 0 c W)
  simp only [Pt.fine, Bool.and_eq_true, decide_eq_true_eq] at hf
  have HD := Lib.hid (fun W => l12Dec_any n W hf.1 hf.2)
  show Calls Tryz.prog 63 #[.agg #[.int .i64 1, .int .i64 n, .string { data := #[] }, .slice A 0 c], .int .i64 (tight : Int)] w (Wordy ((Pt.num n).at tight) w)
  generalize (Pt.num n).at tight = R at *
  generalize decS n = D at *
  have q : decide ((4 : Int) < (tight : Int)) = false := decide_eq_false (by omega)
  obtain ⟨i0, hi, hz0, hz1, hz2⟩ := info_parts infoStr
  obtain ⟨W2, hW2, hb2, hs2, hcs, HO⟩ := two_new w #[.int .i64 1, .int .i64 n, .string { data := #[] }, .slice A 0 c]
  have HO := Lib.hid HO
  have HCS := Lib.hid hcs
  have hlt : w.heap.size < W2.heap.size := by omega
  clear hcs
  go_enter Tryz.func63, Tryz.ntmps63
  go_wp2_with fail
  rw [← hW2]
  refine (HL.out _).mono ?_
  rintro r w1 ⟨rfl, hb1⟩
  have d0 := (hb1.cell (p := ⟨w.heap.size, 0, none⟩) hlt).trans (HCS.out 0 _ rfl)
  have d1 := (hb1.cell (p := ⟨w.heap.size, 1, none⟩) hlt).trans (HCS.out 1 _ rfl)
  have B1 := hb2.trans (hb1.mono hb2.size)
  have O1 := Lib.hid (own_below HO.out hb1)
  clear hW2
  go_wp2_with fail
  refine (HD.out _).mono ?_
  rintro r w2 ⟨rfl, hb3⟩
  have B2 := B1.trans (hb3.mono B1.size)
  have hrow := own_below O1.out hb3
  have hz := B2.size
  go_wp2_with (at_builtin; refine wpList_append_own _ rfl _ _ 50 rfl w.heap.size 9 i0 (.string ByteArray.empty) 1 16 Tryz.underlying50 hi hz0 hz1 hz2 rfl (by decide) _ _ _ rfl (hrow.alloc _) ⟨w2.heap.size, 0, none⟩ 1 1 [.string D] rfl rfl (cell_one_new _ _ _) (by simp [Value.oneCell']) (by unfold maxLen; omega) (by omega) (by simp; omega) ?_; intro v' w3 hown' hgrow _; obtain ⟨g', cap', rfl⟩ := ownsRow_succ hown')
  refine bodyPost_ret (v := .slice (some ⟨g', 0, none⟩) (0 + 1) cap') (by simp [results, Tryz.results63, go_sem]) rfl ?_
  rw [HP.out]
  exact ⟨_, rfl, hown', below_append B2 B2.size hrow hgrow⟩
set_option maxRecDepth 100000 in
set_option maxHeartbeats 1000000 in
theorem l4Words_name (s : ByteArray) (hf : (Pt.name s).fine = true) : SWords (.name s) := by
  intro A c B w tight _ hc _ ht
  have HP := Lib.hid (show (Pt.name s).at tight = [s] by
    unfold Pt.at wrapW
    rw [show decide ((Pt.name s).lvl < tight) = false from decide_eq_false (by show ¬ 4 < tight; omega)]
    rfl)
  have HL := Lib.hid (fun W => show Calls Tryz.prog 74 #[.agg #[.int .i64 2, .int .i64 0, .string s, .slice A 0 c]] W (fun e w' => e = .returned (.int .i64 4) ∧ Below W.heap.size W w') from l4Level_any (.name s) hf A 0 c W)
  show Calls Tryz.prog 63 #[.agg #[.int .i64 2, .int .i64 0, .string s, .slice A 0 c], .int .i64 (tight : Int)] w (Wordy ((Pt.name s).at tight) w)
  generalize (Pt.name s).at tight = R at *
  have q : decide ((4 : Int) < (tight : Int)) = false := decide_eq_false (by omega)
  obtain ⟨i0, hi, hz0, hz1, hz2⟩ := info_parts infoStr
  obtain ⟨W2, hW2, hb2, hs2, hcs, HO⟩ := two_new w #[.int .i64 2, .int .i64 0, .string s, .slice A 0 c]
  have HO := Lib.hid HO
  have HCS := Lib.hid hcs
  have hlt : w.heap.size < W2.heap.size := by omega
  clear hcs
  go_enter Tryz.func63, Tryz.ntmps63
  go_wp2_with fail
  rw [← hW2]
  refine (HL.out _).mono ?_
  rintro r w1 ⟨rfl, hb1⟩
  have d0 := (hb1.cell (p := ⟨w.heap.size, 0, none⟩) hlt).trans (HCS.out 0 _ rfl)
  have d1 := (hb1.cell (p := ⟨w.heap.size, 1, none⟩) hlt).trans (HCS.out 1 _ rfl)
  have d2 := (hb1.cell (p := ⟨w.heap.size, 2, none⟩) hlt).trans (HCS.out 2 _ rfl)
  have B1 := hb2.trans (hb1.mono hb2.size)
  have O1 := Lib.hid (own_below HO.out hb1)
  clear hW2
  have hrow := O1.out
  have hz := B1.size
  go_wp2_with (at_builtin; refine wpList_append_own _ rfl _ _ 50 rfl w.heap.size 9 i0 (.string ByteArray.empty) 1 16 Tryz.underlying50 hi hz0 hz1 hz2 rfl (by decide) _ _ _ rfl (hrow.alloc _) ⟨w1.heap.size, 0, none⟩ 1 1 [.string s] rfl rfl (cell_one_new _ _ _) (by simp [Value.oneCell']) (by unfold maxLen; omega) (by omega) (by simp; omega) ?_; intro v' w3 hown' hgrow _; obtain ⟨g', cap', rfl⟩ := ownsRow_succ hown')
  refine bodyPost_ret (v := .slice (some ⟨g', 0, none⟩) (0 + 1) cap') (by simp [results, Tryz.results63, go_sem]) rfl ?_
  rw [HP.out]
  exact ⟨_, rfl, hown', below_append B1 B1.size hrow hgrow⟩
/-- append onto a row of texts of one's own, as a step of a region that draws. -/
theorem step_own {ops : Array Oper} {o : Oper} {a : Act} {w : World} {K : Act → World → Prop} {Q : Exit → Act → World → Prop} {E : Prop}
    (hg : o.guard = none) (s x : Operand) (hop : o.op = Op.call { callee := Callee.builtin Builtin.append, args := #[s, x], argTypes := #[50, 50] })
    (base : Nat) (v : Value) (n : Nat) (xs : List Value) (hs : a.eval s = v) (hown : w.ownsRow base 9 1 v n xs)
    (ad : Addr) (m c : Nat) (news : List Value) (hx : a.eval x = .slice (some ad) m c) (hn : news.length = m) (hc : ∀ j u, news[j]? = some u → w.cell? (ad.add j) = some u) (h1c : ∀ u ∈ news, u.oneCell' = true)
    (b1 : n + m ≤ 100000) (hbase : base ≤ w.heap.size)
    (hK : ∀ v' w', w'.ownsRow base 9 1 v' (n + m) (xs ++ news) → w.grownBy w' v.ownBlock → K (a.put o.dst v') w') :
    if Region.wanted o (yielded ops a.tmps) = true then Oper.wp Tryz.prog o a w K Q else E := by
  obtain ⟨i0, hi, hz0, hz1, hz2⟩ := info_parts infoStr
  have hw : Region.wanted o (yielded ops a.tmps) = true := by simp [Region.wanted, hg]
  rw [if_pos hw]
  obtain ⟨v', w', hrun, r1, r2, _, _⟩ := run_append_own_at (P := Tryz.prog) w base 50 o.type 9 i0 (.string ByteArray.empty) 1 16 Tryz.underlying50 hi hz0 hz1 hz2 rfl (by decide) v n xs hown ad m c news (by omega) hc h1c (by unfold maxLen; omega) (by omega) hbase
  unfold Oper.wp
  simp [execOp, hop, resolve, invoke, builtin, hs, hx, hrun, Result.andThen]
  exact hK v' w' r1 r2
end Go.Proofs.YtabignplhkbcpaaGreatDoor

namespace Go.Proofs.YtabignplhkbcpaaGreatDoor
open Go.RowKit

theorem Pt.at_pos (p : Pt) (t : Nat) : 1 ≤ (p.at t).length := by
  have := p.words_pos
  unfold Pt.at wrapW
  split <;> simp <;> omega
/-- A row that is not empty lies somewhere. -/
theorem wordy_some {xs : List ByteArray} {w w' : World} {r : Ending} (hx : 1 ≤ xs.length) (h : Wordy xs w r w') : ∃ g cap, r = .returned (.slice (some ⟨g, 0, none⟩) xs.length cap) ∧ w.heap.size ≤ g ∧ g < w'.heap.size ∧ (∀ j u, (xs.map strV)[j]? = some u → w'.cell? ((⟨g, 0, none⟩ : Addr).add j) = some u) ∧ Below w.heap.size w w' := by
  obtain ⟨v, rfl, ho, hb⟩ := h
  have ho' := ho
  rcases ho.2 with ⟨_, h0⟩ | ⟨g, cap, cur, hv, hg, hgb, _⟩
  · omega
  · subst hv
    refine ⟨g, cap, rfl, hg, (Array.getElem?_eq_some_iff.1 hgb).1, fun j u hj => ?_, hb⟩
    have hs := SlIs.own ho'
    have hplain : (⟨g, 0, none⟩ : Addr).add j = ⟨g, 0 + j, none⟩ := by unfold Addr.add; split <;> simp_all
    rw [hplain]
    have hjl : j < (xs.map strV).length := (List.getElem?_eq_some_iff.1 hj).1
    obtain ⟨g', off', e, _, hc⟩ := hs.at_ (k := j) hjl
    injection e with e
    injection e with e1 e2 e3
    subst e1
    subst e2
    rw [List.getElem?_eq_getElem hjl] at hj
    injection hj with hj
    rw [← hj]; exact hc

theorem own_some {w : World} {base : Nat} {e : TypeId} {v : Value} {n : Nat} {xs : List Value} (h : w.ownsRow base e 1 v n xs) (hn : 1 ≤ n) : ∃ g cap, v = .slice (some ⟨g, 0, none⟩) n cap ∧ base ≤ g := by
  rcases h.2 with ⟨_, h0⟩ | ⟨g, cap, cur, hv, hg, _⟩
  · omega
  · exact ⟨g, cap, hv, hg⟩
theorem strs_one (xs : List ByteArray) : ∀ u ∈ xs.map strV, u.oneCell' = true := by
  intro u hu
  obtain ⟨s, _, rfl⟩ := List.mem_map.1 hu
  rfl

theorem addr_block (g j : Nat) : ((⟨g, 0, none⟩ : Addr).add j).block = g := by unfold Addr.add; split <;> simp_all
theorem cell_two_new (w : World) (x y : Value) (t : TypeId) : ∀ j u, [x, y][j]? = some u → (w.alloc (.cells #[x, y] t)).cell? ((⟨w.heap.size, 0, none⟩ : Addr).add j) = some u := by
  intro j u hj
  have hplain : (⟨w.heap.size, 0, none⟩ : Addr).add j = ⟨w.heap.size, 0 + j, none⟩ := by unfold Addr.add; split <;> simp_all
  rw [hplain, Nat.zero_add]
  exact cell_made4 w #[x, y] t j u (by simpa using hj)

set_option linter.unusedSimpArgs false in
set_option maxRecDepth 100000 in
set_option maxHeartbeats 4000000 in
theorem l4Words_as (s : ByteArray) (a : Pt) (hf : (Pt.as s a).fine = true) (hnod : a.nodes ≤ 900) (ia : SWords a) : SWords (.as s a) := by
  intro A c B w tight hA hc hB ht
  have HP := Lib.hid (show (Pt.as s a).at tight = a.at 4 ++ [sAs, s] by
    unfold Pt.at wrapW
    rw [show decide ((Pt.as s a).lvl < tight) = false from decide_eq_false (by show ¬ 4 < tight; omega)]
    rfl)
  have HL := Lib.hid (fun W => show Calls Tryz.prog 74 #[.agg #[.int .i64 4, .int .i64 0, .string s, .slice A 1 c]] W (fun e w' => e = .returned (.int .i64 4) ∧ Below W.heap.size W w') from l4Level_any (.as s a) hf A 1 c W)
  simp only [Pt.ex, Ex.kind, Ex.n, Ex.s, Ex.kids, List.length_cons, List.length_nil, Nat.zero_add] at hA hc ⊢
  obtain ⟨g0, off, D0, cc0, e0, hg0, kid0⟩ := hA.at_ (j := 0) (by simp)
  subst e0
  obtain ⟨a0, a1, a2, a3, a4, a5⟩ := kid0
  simp only [List.getElem_cons_zero, Nat.zero_mul, Nat.add_zero] at a0 a1 a2 a3 a4 a5
  have hlen := a.at_pos 4
  have hbound : (a.at 4).length ≤ 6000 := by
    have h1 := a.words_length
    have h2 := wrapW_length (decide (a.lvl < 4)) a.words
    unfold Pt.at
    omega
  obtain ⟨i0, hi, hz0, hz1', hz2⟩ := info_parts infoStr
  have HI := Lib.hid (fun (W : World) (hW : Below w.heap.size w W) => ia D0 cc0 B W 4 (a5.keep (hW.mono hB)) a4 (Nat.le_trans hB hW.size) (Nat.le_refl _))
  generalize (Pt.as s a).at tight = R at *
  generalize a.at 4 = ws at *
  have q : decide ((4 : Int) < (tight : Int)) = false := decide_eq_false (by omega)
  obtain ⟨W2, hW2, hb2, hs2, hcs, HO⟩ := two_new w #[.int .i64 4, .int .i64 0, .string s, .slice (some ⟨g0, off, none⟩) 1 c]
  have HO := Lib.hid HO
  have HCS := Lib.hid hcs
  have hlt : w.heap.size < W2.heap.size := by omega
  have hltg : g0 < w.heap.size := by omega
  clear hcs ia hA a5
  generalize a.ex = x at *
  go_enter Tryz.func63, Tryz.ntmps63
  go_wp2_with fail
  rw [← hW2]
  refine (HL.out _).mono ?_
  rintro r w1 ⟨rfl, hb1⟩
  have B1 := hb2.trans (hb1.mono hb2.size)
  have hz1 := hb1.size
  have HS := Lib.hid (show ∀ W, Below w1.heap.size w1 W → W.cell? ⟨w.heap.size, 0, none⟩ = some (.int .i64 4) ∧ W.cell? ⟨w.heap.size, 2, none⟩ = some (.string s) ∧ W.cell? ⟨w.heap.size, 3, none⟩ = some (.slice (some ⟨g0, off, none⟩) 1 c) ∧ W.cell? ⟨g0, off, none⟩ = some (.int .i64 x.kind) ∧ W.cell? ⟨g0, off + 1, none⟩ = some (.int .i64 x.n) ∧ W.cell? ⟨g0, off + 2, none⟩ = some (.string x.s) ∧ W.cell? ⟨g0, off + 3, none⟩ = some (.slice D0 x.kids.length cc0) ∧ Below w1.heap.size w1 W from fun W hW =>
    ⟨(hW.cell (p := ⟨w.heap.size, 0, none⟩) (by show w.heap.size < _; omega)).trans ((hb1.cell (p := ⟨w.heap.size, 0, none⟩) hlt).trans (HCS.out 0 _ rfl)),
     (hW.cell (p := ⟨w.heap.size, 2, none⟩) (by show w.heap.size < _; omega)).trans ((hb1.cell (p := ⟨w.heap.size, 2, none⟩) hlt).trans (HCS.out 2 _ rfl)),
     (hW.cell (p := ⟨w.heap.size, 3, none⟩) (by show w.heap.size < _; omega)).trans ((hb1.cell (p := ⟨w.heap.size, 3, none⟩) hlt).trans (HCS.out 3 _ rfl)),
     (hW.cell (p := ⟨g0, off, none⟩) (by show g0 < _; omega)).trans ((B1.cell (p := ⟨g0, off, none⟩) hltg).trans a0),
     (hW.cell (p := ⟨g0, off + 1, none⟩) (by show g0 < _; omega)).trans ((B1.cell (p := ⟨g0, off + 1, none⟩) hltg).trans a1),
     (hW.cell (p := ⟨g0, off + 2, none⟩) (by show g0 < _; omega)).trans ((B1.cell (p := ⟨g0, off + 2, none⟩) hltg).trans a2),
     (hW.cell (p := ⟨g0, off + 3, none⟩) (by show g0 < _; omega)).trans ((B1.cell (p := ⟨g0, off + 3, none⟩) hltg).trans a3), hW⟩)
  obtain ⟨d0, d2, d3, y0, y1, y2, y3, hR⟩ := HS.out w1 (Below.refl _ w1)
  clear hW2 a0 a1 a2 a3
  go_wp2_with fail
  go_region_held3 (fun W => W.cell? ⟨w.heap.size, 0, none⟩ = some (.int .i64 4) ∧ W.cell? ⟨w.heap.size, 2, none⟩ = some (.string s) ∧ W.cell? ⟨w.heap.size, 3, none⟩ = some (.slice (some ⟨g0, off, none⟩) 1 c) ∧ W.cell? ⟨g0, off, none⟩ = some (.int .i64 x.kind) ∧ W.cell? ⟨g0, off + 1, none⟩ = some (.int .i64 x.n) ∧ W.cell? ⟨g0, off + 2, none⟩ = some (.string x.s) ∧ W.cell? ⟨g0, off + 3, none⟩ = some (.slice D0 x.kids.length cc0) ∧ Below w1.heap.size w1 W)
    (first | with_reducible exact HS.out _ (hR.drew) | with_reducible exact HS.out _ b5 | with_reducible exact HS.out _ b4 | with_reducible exact HS.out _ b3 | exact HS.out _ (hR.drew.alloc (Nat.le_refl _) _) | exact HS.out _ (b3.alloc b3.size _) | exact HS.out _ (b4.alloc b4.size _))
    (first | (go_at_call 63; refine (HI.out _ ?below).mono ?_; (case below => (first | exact B1.trans (hR.drew.mono B1.size) | exact (B1.trans (hR.drew.mono B1.size)).alloc B1.size _)); intro r w2 hwd; obtain ⟨gg, cap, rfl, hgg, hgl, hcells, hb3⟩ := wordy_some hlen hwd; have b3 : Below w1.heap.size w1 w2 := (by first | exact hR.drew.trans hb3 | exact (hR.drew.alloc (Nat.le_refl _) _).trans (hb3.mono (by simp)))) | (refine step_append_grows rfl (.tmp 13) (.tmp 18) 50 rfl 9 i0 (.string ByteArray.empty) 1 16 Tryz.underlying50 hi hz0 hz1' hz2 rfl (by decide) (some ⟨w.heap.size + 1, 0, none⟩) 0 0 [] (by simp [Act.eval, Act.put]) (by simp) rfl (by simp) ⟨gg, 0, none⟩ ws.length cap (ws.map strV) (by simp [Act.eval, Act.put]) (by simp) (by first | exact hcells | exact fun j u hj => (World.cell?_alloc_lt _ _ _ (by rw [addr_block]; exact hgl)).trans (hcells j u hj)) (strs_one ws) (by omega) (by unfold maxLen; omega) (by omega) ?_; intro v3 w3 hO3 hg3; obtain ⟨g3, cap3, rfl, hg3b⟩ := own_some hO3 (by omega); have b4 : Below w1.heap.size w1 w3 := (by first | exact b3.grown hg3 b3.size (by simp) | exact (b3.alloc b3.size _).grown hg3 (Nat.le_trans b3.size (by simp)) (by simp))) | (refine step_own rfl (.tmp 19) (.tmp 22) rfl w1.heap.size (.slice (some ⟨g3, 0, none⟩) (0 + ws.length) cap3) (0 + ws.length) ([] ++ ws.map strV) (by simp [Act.eval, Act.put]) (by first | exact ownsRow_lower hO3 b3.size | exact ownsRow_lower hO3 (Nat.le_trans b3.size (by simp)) | exact ownsRow_lower (hO3.alloc _) b3.size) _ 2 2 [strV sAs, strV s] (by simp [Act.eval, Act.put]; first | rfl | done) rfl (by first | exact cell_two_new w3 _ _ _ | exact fun j u hj => (hg3.cell_far _ (by rw [addr_block]; simp) (by simp)).trans (cell_two_new w2 _ _ _ j u hj) | exact fun j u hj => (hg3.cell_far _ (by rw [addr_block]; exact Nat.lt_of_lt_of_le (by simp) hb3.size) (by simp)).trans ((hb3.cell (by rw [addr_block]; simp)).trans (cell_two_new w1 _ _ _ j u hj))) (by intro u hu; simp at hu; rcases hu with rfl | rfl <;> rfl) (by omega) (by first | exact b4.size | exact Nat.le_trans b4.size (by simp)) ?_; intro v5 w5 hO5 hg5; obtain ⟨g5, cap5, rfl, hg5b⟩ := own_some hO5 (by omega); have hk5 : ∀ k, (Value.slice (some ⟨g3, 0, none⟩) (0 + ws.length) cap3).ownBlock = some k → w1.heap.size ≤ k := (fun k e => by obtain rfl : g3 = k := (by simpa [Value.ownBlock] using e); exact Nat.le_trans b3.size (Nat.le_trans (by first | exact Nat.le_refl _ | simp) hg3b)); have b5 : Below w1.heap.size w1 w5 := (by first | exact b4.grown hg5 b4.size hk5 | exact (b4.alloc b4.size _).grown hg5 (Nat.le_trans b4.size (by simp)) hk5)))
  all_goals go_wp2_with fail
  all_goals (refine bodyPost_ret (v := .slice (some ⟨g5, 0, none⟩) (0 + ws.length + 2) cap5) (by simp [results, Tryz.results63, go_sem]) rfl ?_)
  all_goals (rw [HP.out]; exact ⟨_, rfl, by have := ownsRow_lower hO5 B1.size; simpa using this, B1.trans (b5.mono B1.size)⟩)
end Go.Proofs.YtabignplhkbcpaaGreatDoor

namespace Go.Proofs.YtabignplhkbcpaaGreatDoor
open Go.RowKit

/-- A row of texts, in another block than gr. -/
def RowD (X : World) (gr g : Nat) (xs : List ByteArray) : Prop := g < X.heap.size ∧ gr ≠ g ∧ ∀ j u, (xs.map strV)[j]? = some u → X.cell? ((⟨g, 0, none⟩ : Addr).add j) = some u
theorem RowD.below {X Y : World} {gr g : Nat} {xs : List ByteArray} (h : RowD X gr g xs) (hb : Below X.heap.size X Y) : RowD Y gr g xs :=
  ⟨Nat.lt_of_lt_of_le h.1 hb.size, h.2.1, fun j u hj => (hb.cell (by rw [addr_block]; exact h.1)).trans (h.2.2 j u hj)⟩
theorem RowD.grown {Y Z : World} {gr gr' g : Nat} {xs : List ByteArray} (h : RowD Y gr g xs) (hg : Y.grownBy Z (some gr)) (hor : gr' = gr ∨ gr' = Y.heap.size) : RowD Z gr' g xs := by
  refine ⟨Nat.lt_of_lt_of_le h.1 hg.size, ?_, fun j u hj => (hg.cell_far _ (by rw [addr_block]; exact h.1) (by rw [addr_block]; exact fun e => h.2.1 (Option.some.inj e).symm)).trans (h.2.2 j u hj)⟩
  rcases hor with rfl | rfl
  · exact h.2.1
  · have := h.1; omega
theorem rowD_new (X : World) (gr : Nat) (s : ByteArray) (t : TypeId) (h : gr < X.heap.size) : RowD (X.alloc (.cells #[.string s] t)) gr X.heap.size [s] :=
  ⟨by simp, by omega, fun j u hj => cell_one_new X (.string s) t j u (by simpa [strV] using hj)⟩
/-- A row of one's own in block gr. -/
def OwnR (X : World) (B gr n cap : Nat) (xs : List ByteArray) : Prop := B ≤ gr ∧ gr < X.heap.size ∧ X.ownsRow B 9 1 (.slice (some ⟨gr, 0, none⟩) n cap) n (xs.map strV)
theorem OwnR.below {X Y : World} {B gr n cap : Nat} {xs : List ByteArray} (h : OwnR X B gr n cap xs) (hb : Below X.heap.size X Y) : OwnR Y B gr n cap xs :=
  ⟨h.1, Nat.lt_of_lt_of_le h.2.1 hb.size, own_below h.2.2 hb⟩
theorem rowD_at {X Y : World} {s : ByteArray} {t : TypeId} {B gr n cap : Nat} {xs : List ByteArray} (hY : Y = X.alloc (.cells #[.string s] t)) (ho : OwnR X B gr n cap xs) : RowD Y gr X.heap.size [s] := by rw [hY]; exact rowD_new X gr s t ho.2.1
theorem rowD_at_drew {X Y : World} {s : ByteArray} {t : TypeId} {B gr n cap : Nat} {xs : List ByteArray} (hY : Y = (X.alloc (.cells #[.string s] t)).drew) (ho : OwnR X B gr n cap xs) : RowD Y gr X.heap.size [s] := by rw [hY]; exact rowD_new X gr s t ho.2.1
theorem rowD_at_drew' {X Y : World} {s : ByteArray} {t : TypeId} {B gr n cap : Nat} {xs : List ByteArray} (hY : Y = X.drew.alloc (.cells #[.string s] t)) (ho : OwnR X B gr n cap xs) : RowD Y gr X.heap.size [s] := by rw [hY]; exact rowD_new X gr s t ho.2.1
theorem own_lit (X : World) (v : Value) (t : TypeId) : (X.alloc (.cells #[v] t)).ownsRow X.heap.size t 1 (.slice (some ⟨X.heap.size, 0, none⟩) 1 1) 1 [v] :=
  ⟨rfl, .inr ⟨X.heap.size, 1, #[v], rfl, Nat.le_refl _, World.alloc_heap_new X _, Nat.le_refl _, by simp [maxLen], rfl, rfl⟩⟩
theorem below_lit {X w3 : World} {o : Obj} (hg : (X.alloc o).grownBy w3 (Value.slice (some ⟨X.heap.size, 0, none⟩) 1 1).ownBlock) : Below X.heap.size X w3 :=
  ((Below.refl _ X).alloc (Nat.le_refl _) o).grown hg (by simp) (fun j e => by obtain rfl : X.heap.size = j := (by simpa [Value.ownBlock] using e); exact Nat.le_refl _)
theorem ownsRow_raise {w : World} {B C g n c : Nat} {t : TypeId} {xs : List Value} (h : w.ownsRow B t 1 (.slice (some ⟨g, 0, none⟩) n c) n xs) (hC : C ≤ g) : w.ownsRow C t 1 (.slice (some ⟨g, 0, none⟩) n c) n xs := by
  refine ⟨h.1, ?_⟩
  rcases h.2 with h0 | ⟨g', cap, cur, h1, h2, h3⟩
  · exact .inl h0
  · injection h1 with e1 e2 e3
    injection e1 with e1
    injection e1 with e1
    subst e1 e3
    exact .inr ⟨_, _, cur, rfl, hC, h3⟩
/-- append onto such a row, as a step of a region that draws. -/
theorem step_ownR {ops : Array Oper} {o : Oper} {a : Act} {Y : World} {K : Act → World → Prop} {Q : Exit → Act → World → Prop} {E : Prop}
    (hg : o.guard = none) (s x : Operand) (hop : o.op = Op.call { callee := Callee.builtin Builtin.append, args := #[s, x], argTypes := #[50, 50] })
    (B gr n cap : Nat) (xs : List ByteArray) (hown : OwnR Y B gr n cap xs) (hs : a.eval s = .slice (some ⟨gr, 0, none⟩) n cap)
    (g m c : Nat) (ys : List ByteArray) (hrow : RowD Y gr g ys) (hx : a.eval x = .slice (some ⟨g, 0, none⟩) m c) (hm : ys.length = m) (b1 : n + m ≤ 100000) (hpos : 1 ≤ n + m) (hB : B ≤ Y.heap.size)
    (hK : ∀ gr' cap' Z, OwnR Z B gr' (n + m) cap' (xs ++ ys) → Y.grownBy Z (some gr) → (gr' = gr ∨ gr' = Y.heap.size) → K (a.put o.dst (.slice (some ⟨gr', 0, none⟩) (n + m) cap')) Z) :
    if Region.wanted o (yielded ops a.tmps) = true then Oper.wp Tryz.prog o a Y K Q else E := by
  obtain ⟨i0, hi, hz0, hz1, hz2⟩ := info_parts infoStr
  have hw : Region.wanted o (yielded ops a.tmps) = true := by simp [Region.wanted, hg]
  rw [if_pos hw]
  obtain ⟨v', w', hrun, r1, r2, _, r4⟩ := run_append_own_at (P := Tryz.prog) Y B 50 o.type 9 i0 (.string ByteArray.empty) 1 16 Tryz.underlying50 hi hz0 hz1 hz2 rfl (by decide) _ n (xs.map strV) hown.2.2 ⟨g, 0, none⟩ m c (ys.map strV) (by rw [List.length_map]; omega) hrow.2.2 (strs_one ys) (by unfold maxLen; omega) (by omega) hB
  obtain ⟨g', cap', rfl, _⟩ := own_some r1 hpos
  have r5 : g' < w'.heap.size := by
    rcases r1.2 with ⟨_, h0⟩ | ⟨g2, _, _, hv, _, hgb, _⟩
    · omega
    · injection hv with h1
      injection h1 with h1
      injection h1 with h1
      subst h1
      exact (Array.getElem?_eq_some_iff.1 hgb).1
  unfold Oper.wp
  simp [execOp, hop, resolve, invoke, builtin, hs, hx, hrun, Result.andThen]
  have r6 : g' = gr ∨ g' = Y.heap.size := by
    rcases r4 with h | h <;> simp [Value.ownBlock] at h
    · exact .inl h
    · exact .inr h
  exact hK g' cap' w' ⟨by have := hown.1; rcases r6 with h | h <;> omega, r5, by rw [List.map_append]; exact r1⟩ r2 r6
theorem calls_named {f : Nat} {args : Array Value} {Y : World} {R : Ending → World → Prop} (h : ∀ Z, Z = Y → Calls Tryz.prog f args Z R) : Calls Tryz.prog f args Y R := h Y rfl
theorem cut_node {G R : Prop} (main : G → R) (pf : G) : R := main pf
/-- The world at hand, under a name. -/
theorem wp_named {ops : Array Oper} {o : Oper} {a : Act} {Y : World} {K : Act → World → Prop} {Q : Exit → Act → World → Prop} {E : Prop}
    (h : ∀ Z, Z = Y → if Region.wanted o (yielded ops a.tmps) = true then Oper.wp Tryz.prog o a Z K Q else E) : if Region.wanted o (yielded ops a.tmps) = true then Oper.wp Tryz.prog o a Y K Q else E := h Y rfl
theorem Pt.at_bound (p : Pt) (t : Nat) (h : p.nodes ≤ 900) : (p.at t).length ≤ 6000 := by
  have h1 := p.words_length
  have h2 := wrapW_length (decide (p.lvl < t)) p.words
  unfold Pt.at
  omega
/-- What a call that writes words hands back. -/
theorem wordy_row {xs ys : List ByteArray} {Y Z : World} {r : Ending} {B gr n c : Nat} (hx : 1 ≤ xs.length) (h : Wordy xs Y r Z) (ho : OwnR Y B gr n c ys) : ∃ g cap, r = .returned (.slice (some ⟨g, 0, none⟩) xs.length cap) ∧ RowD Z gr g xs ∧ Below Y.heap.size Y Z := by
  obtain ⟨g, cap, e, h1, h2, h3, h4⟩ := wordy_some hx h
  have := ho.2.1
  exact ⟨g, cap, e, ⟨h2, by omega, h3⟩, h4⟩

set_option linter.unusedSimpArgs false in
set_option maxRecDepth 100000 in
set_option maxHeartbeats 16000000 in
theorem l4Words_two (s : ByteArray) (a b : Pt) (hf : (Pt.two s a b).fine = true) (hna : a.nodes ≤ 900) (hnb : b.nodes ≤ 900) (ia : SWords a) (ib : SWords b) : SWords (.two s a b) := by
  intro A c B w tight hA hc hB ht
  have hh : hold s ≠ 0 := by
    simp only [Pt.fine, Bool.and_eq_true, decide_eq_true_eq] at hf
    exact hf.1
  have hh3 := hold_le s
  have HP := Lib.hid (show (Pt.two s a b).at tight = wrapW (decide (hold s < tight)) (a.at (max (hold s) 2) ++ [s] ++ b.at (hold s + 1)) from rfl)
  have HL := Lib.hid (fun W => show Calls Tryz.prog 74 #[.agg #[.int .i64 3, .int .i64 0, .string s, .slice A 2 c]] W (fun e w' => e = .returned (.int .i64 (hold s : Int)) ∧ Below W.heap.size W w') from l4Level_any (.two s a b) hf A 2 c W)
  simp only [Pt.ex, Ex.kind, Ex.n, Ex.s, Ex.kids, List.length_cons, List.length_nil, Nat.zero_add] at hA hc ⊢
  obtain ⟨g0, off, D0, cc0, e0, hg0, kid0⟩ := hA.at_ (j := 0) (by simp)
  obtain ⟨g1, off1, D1, cc1, e1, hg1, kid1⟩ := hA.at_ (j := 1) (by simp)
  subst e0
  injection e1 with e1
  injection e1 with e1 e2
  subst e1 e2
  obtain ⟨a0, a1, a2, a3, a4, a5⟩ := kid0
  obtain ⟨b0, b1, b2, b3, b4, b5⟩ := kid1
  simp only [List.getElem_cons_zero, List.getElem_cons_succ, Nat.zero_mul, Nat.one_mul, Nat.add_zero, Nat.add_assoc, Nat.reduceAdd] at a0 a1 a2 a3 a4 a5 b0 b1 b2 b3 b4 b5
  obtain ⟨k, hk⟩ : ∃ k, k = hold s := ⟨_, rfl⟩
  obtain ⟨lf, hlf⟩ : ∃ lf, lf = max k 2 := ⟨_, rfl⟩
  have hla := a.at_pos lf
  have hlb := b.at_pos (k + 1)
  have hba := a.at_bound lf hna
  have hbb := b.at_bound (k + 1) hnb
  have HI := Lib.hid (fun (W : World) (hW : Below w.heap.size w W) => ia D0 cc0 B W lf (a5.keep (hW.mono hB)) a4 (Nat.le_trans hB hW.size) (by omega))
  have HJ := Lib.hid (fun (W : World) (hW : Below w.heap.size w W) => ib D1 cc1 B W (k + 1) (b5.keep (hW.mono hB)) b4 (Nat.le_trans hB hW.size) (by omega))
  rw [← hk, ← hlf] at HP
  rw [← hk] at HL
  generalize (Pt.two s a b).at tight = R at *
  generalize a.at lf = ws at *
  generalize b.at (k + 1) = vs at *
  rw [show ((k + 1 : Nat) : Int) = (k : Int) + 1 by omega] at HJ
  obtain ⟨W2, hW2, hb2, hs2, hcs, HO⟩ := two_new w #[.int .i64 3, .int .i64 0, .string s, .slice (some ⟨g0, off, none⟩) 2 c]
  have HO := Lib.hid HO
  have HCS := Lib.hid hcs
  have hlt : w.heap.size < W2.heap.size := by omega
  have hltg : g0 < w.heap.size := by omega
  have hk1 : 1 ≤ k := by omega
  have hk3 : k ≤ 3 := by omega
  clear hcs ia ib hA a5 b5 hk hh hh3 hf hna hnb
  generalize a.ex = x at *
  generalize b.ex = y at *
  go_enter Tryz.func63, Tryz.ntmps63
  go_wp2_with fail
  rw [← hW2]
  refine (HL.out _).mono ?_
  rintro r w1 ⟨rfl, hb1⟩
  have B1 := hb2.trans (hb1.mono hb2.size)
  have hz1 := hb1.size
  have HS := Lib.hid (show ∀ W, Below (w.heap.size + 1) w1 W → W.cell? ⟨w.heap.size, 0, none⟩ = some (.int .i64 3) ∧ W.cell? ⟨w.heap.size, 2, none⟩ = some (.string s) ∧ W.cell? ⟨w.heap.size, 3, none⟩ = some (.slice (some ⟨g0, off, none⟩) 2 c) ∧ W.cell? ⟨g0, off, none⟩ = some (.int .i64 x.kind) ∧ W.cell? ⟨g0, off + 1, none⟩ = some (.int .i64 x.n) ∧ W.cell? ⟨g0, off + 2, none⟩ = some (.string x.s) ∧ W.cell? ⟨g0, off + 3, none⟩ = some (.slice D0 x.kids.length cc0) ∧ W.cell? ⟨g0, off + 4, none⟩ = some (.int .i64 y.kind) ∧ W.cell? ⟨g0, off + 5, none⟩ = some (.int .i64 y.n) ∧ W.cell? ⟨g0, off + 6, none⟩ = some (.string y.s) ∧ W.cell? ⟨g0, off + 7, none⟩ = some (.slice D1 y.kids.length cc1) ∧ Below (w.heap.size + 1) w1 W from fun W hW =>
    ⟨(hW.cell (p := ⟨w.heap.size, 0, none⟩) (Nat.lt_succ_self _)).trans ((hb1.cell (p := ⟨w.heap.size, 0, none⟩) hlt).trans (HCS.out 0 _ rfl)),
     (hW.cell (p := ⟨w.heap.size, 2, none⟩) (Nat.lt_succ_self _)).trans ((hb1.cell (p := ⟨w.heap.size, 2, none⟩) hlt).trans (HCS.out 2 _ rfl)),
     (hW.cell (p := ⟨w.heap.size, 3, none⟩) (Nat.lt_succ_self _)).trans ((hb1.cell (p := ⟨w.heap.size, 3, none⟩) hlt).trans (HCS.out 3 _ rfl)),
     (hW.cell (p := ⟨g0, off, none⟩) (Nat.lt_succ_of_lt hltg)).trans ((B1.cell (p := ⟨g0, off, none⟩) hltg).trans a0),
     (hW.cell (p := ⟨g0, off + 1, none⟩) (Nat.lt_succ_of_lt hltg)).trans ((B1.cell (p := ⟨g0, off + 1, none⟩) hltg).trans a1),
     (hW.cell (p := ⟨g0, off + 2, none⟩) (Nat.lt_succ_of_lt hltg)).trans ((B1.cell (p := ⟨g0, off + 2, none⟩) hltg).trans a2),
     (hW.cell (p := ⟨g0, off + 3, none⟩) (Nat.lt_succ_of_lt hltg)).trans ((B1.cell (p := ⟨g0, off + 3, none⟩) hltg).trans a3),
     (hW.cell (p := ⟨g0, off + 4, none⟩) (Nat.lt_succ_of_lt hltg)).trans ((B1.cell (p := ⟨g0, off + 4, none⟩) hltg).trans b0),
     (hW.cell (p := ⟨g0, off + 5, none⟩) (Nat.lt_succ_of_lt hltg)).trans ((B1.cell (p := ⟨g0, off + 5, none⟩) hltg).trans b1),
     (hW.cell (p := ⟨g0, off + 6, none⟩) (Nat.lt_succ_of_lt hltg)).trans ((B1.cell (p := ⟨g0, off + 6, none⟩) hltg).trans b2),
     (hW.cell (p := ⟨g0, off + 7, none⟩) (Nat.lt_succ_of_lt hltg)).trans ((B1.cell (p := ⟨g0, off + 7, none⟩) hltg).trans b3), hW⟩)
  obtain ⟨d0, d2, d3, y0, y1, y2, y3, y4, y5, y6, y7, _⟩ := HS.out w1 (Below.refl _ w1)
  have HOX := Lib.hid (show OwnR w1 (w.heap.size + 1) (w.heap.size + 1) 0 0 [] from ⟨Nat.le_refl _, by omega, own_below (ownsRow_raise HO.out (Nat.le_refl _)) hb1⟩)
  have hw1 : w.heap.size + 1 ≤ w1.heap.size := by omega
  obtain ⟨X, hX⟩ : ∃ X, X = w1 := ⟨_, rfl⟩
  rw [← hX] at HOX d0 d2 d3 y0 y1 y2 y3 y4 y5 y6 y7
  have BX : Below (w.heap.size + 1) w1 X := by rw [hX]; exact Below.refl _ _
  clear hW2 a0 a1 a2 a3 b0 b1 b2 b3 HO
  have hq : ((k : Int) == 1) = decide (k = 1) := by
    by_cases h : k = 1
    · subst h; rfl
    · rw [decide_eq_false h, beq_eq_false_iff_ne]; omega
  have hwr : IntKind.i64.wrap ((k : Int) + 1) = (k : Int) + 1 := by have h1 : k = 1 ∨ k = 2 ∨ k = 3 := (by omega); rcases h1 with rfl | rfl | rfl <;> rfl
  by_cases hk1' : k = 1
  · have hlk : lf = 2 := by omega
    rw [hlk, show ((2 : Nat) : Int) = 2 from rfl] at HI
    clear hq hlf hlk hwr
    subst hk1'
    rw [show ((1 : Nat) : Int) + 1 = 2 from rfl] at HJ
    rw [show ((1 : Nat) : Int) = 1 from rfl]
    have hwr : IntKind.i64.wrap 2 = 2 := rfl
    rw [← hX]
    clear hX
    go_wp2_with fail
    go_region_held3 (fun W => W.cell? ⟨w.heap.size, 0, none⟩ = some (.int .i64 3) ∧ W.cell? ⟨w.heap.size, 2, none⟩ = some (.string s) ∧ W.cell? ⟨w.heap.size, 3, none⟩ = some (.slice (some ⟨g0, off, none⟩) 2 c) ∧ W.cell? ⟨g0, off, none⟩ = some (.int .i64 x.kind) ∧ W.cell? ⟨g0, off + 1, none⟩ = some (.int .i64 x.n) ∧ W.cell? ⟨g0, off + 2, none⟩ = some (.string x.s) ∧ W.cell? ⟨g0, off + 3, none⟩ = some (.slice D0 x.kids.length cc0) ∧ W.cell? ⟨g0, off + 4, none⟩ = some (.int .i64 y.kind) ∧ W.cell? ⟨g0, off + 5, none⟩ = some (.int .i64 y.n) ∧ W.cell? ⟨g0, off + 6, none⟩ = some (.string y.s) ∧ W.cell? ⟨g0, off + 7, none⟩ = some (.slice D1 y.kids.length cc1) ∧ Below (w.heap.size + 1) w1 W)
      (first | with_reducible exact HS.out _ BX | with_reducible exact HS.out _ (BX.drew) | exact HS.out _ (BX.alloc (Nat.le_trans hw1 BX.size) _) | exact HS.out _ (BX.drew.alloc (Nat.le_trans hw1 BX.size) _) | exact HS.out _ (BX.alloc (Nat.le_trans hw1 BX.size) _).drew)
      (first | (go_at_call 63; refine calls_named ?_; intro Y hY; have hXY : Below X.heap.size X Y := (by rw [hY]; first | exact Below.refl _ _ | exact (Below.refl _ _).drew | exact (Below.refl _ _).alloc (Nat.le_refl _) _ | exact (Below.refl _ _).drew.alloc (Nat.le_refl _) _ | exact ((Below.refl _ _).alloc (Nat.le_refl _) _).drew); (try (first | have RB := rowD_at hY HOX.out | have RB := rowD_at_drew hY HOX.out | have RB := rowD_at_drew' hY HOX.out)); (try replace RA := RA.below hXY); (try replace RB := RB.below hXY); (try replace RC := RC.below hXY); replace HOX := Lib.hid (HOX.out.below hXY); replace BX := BX.trans (hXY.mono (Nat.le_trans hw1 BX.size)); clear hY hXY; have hBY := B1.trans (BX.mono (Nat.le_add_right _ 1)); with_reducible refine (HI.out Y hBY).mono ?_; clear hBY; intro r X hwd; obtain ⟨gA, capA, rfl, RA, hYZ⟩ := wordy_row hla hwd HOX.out; (try replace RB := RB.below hYZ); (try replace RC := RC.below hYZ); replace HOX := Lib.hid (HOX.out.below hYZ); replace BX := BX.trans (hYZ.mono (Nat.le_trans hw1 BX.size)); clear hwd hYZ) | (go_at_call 63; refine calls_named ?_; intro Y hY; have hXY : Below X.heap.size X Y := (by rw [hY]; first | exact Below.refl _ _ | exact (Below.refl _ _).drew | exact (Below.refl _ _).alloc (Nat.le_refl _) _ | exact (Below.refl _ _).drew.alloc (Nat.le_refl _) _ | exact ((Below.refl _ _).alloc (Nat.le_refl _) _).drew); (try (first | have RB := rowD_at hY HOX.out | have RB := rowD_at_drew hY HOX.out | have RB := rowD_at_drew' hY HOX.out)); (try replace RA := RA.below hXY); (try replace RB := RB.below hXY); (try replace RC := RC.below hXY); replace HOX := Lib.hid (HOX.out.below hXY); replace BX := BX.trans (hXY.mono (Nat.le_trans hw1 BX.size)); clear hY hXY; have hBY := B1.trans (BX.mono (Nat.le_add_right _ 1)); with_reducible refine (HJ.out Y hBY).mono ?_; clear hBY; intro r X hwd; obtain ⟨gC, capC, rfl, RC, hYZ⟩ := wordy_row hlb hwd HOX.out; (try replace RA := RA.below hYZ); (try replace RB := RB.below hYZ); replace HOX := Lib.hid (HOX.out.below hYZ); replace BX := BX.trans (hYZ.mono (Nat.le_trans hw1 BX.size)); clear hwd hYZ) | (refine wp_named ?_; intro Y hY; have hXY : Below X.heap.size X Y := (by rw [hY]; first | exact Below.refl _ _ | exact (Below.refl _ _).drew | exact (Below.refl _ _).alloc (Nat.le_refl _) _ | exact (Below.refl _ _).drew.alloc (Nat.le_refl _) _ | exact ((Below.refl _ _).alloc (Nat.le_refl _) _).drew); (try (first | have RB := rowD_at hY HOX.out | have RB := rowD_at_drew hY HOX.out | have RB := rowD_at_drew' hY HOX.out)); (try replace RA := RA.below hXY); (try replace RB := RB.below hXY); (try replace RC := RC.below hXY); replace HOX := Lib.hid (HOX.out.below hXY); replace BX := BX.trans (hXY.mono (Nat.le_trans hw1 BX.size)); clear hY hXY; refine step_ownR rfl (.tmp 44) (.tmp 50) rfl _ _ _ _ _ HOX.out (by simp [Act.eval, Act.put]) _ _ capA _ RA (by simp [Act.eval, Act.put]) rfl (by first | omega | (simp; omega)) (by first | omega | (simp; omega)) (Nat.le_trans hw1 BX.size) ?_; intro gr' cap' X hO hG hor; replace BX := BX.grown hG (Nat.le_trans hw1 BX.size) (fun j e => by obtain rfl := Option.some.inj e; exact HOX.out.1); (try replace RB := RB.grown hG hor); (try replace RC := RC.grown hG hor); clear RA; replace HOX := Lib.hid hO; clear hO hG hor) | (refine wp_named ?_; intro Y hY; have hXY : Below X.heap.size X Y := (by rw [hY]; first | exact Below.refl _ _ | exact (Below.refl _ _).drew | exact (Below.refl _ _).alloc (Nat.le_refl _) _ | exact (Below.refl _ _).drew.alloc (Nat.le_refl _) _ | exact ((Below.refl _ _).alloc (Nat.le_refl _) _).drew); (try (first | have RB := rowD_at hY HOX.out | have RB := rowD_at_drew hY HOX.out | have RB := rowD_at_drew' hY HOX.out)); (try replace RA := RA.below hXY); (try replace RB := RB.below hXY); (try replace RC := RC.below hXY); replace HOX := Lib.hid (HOX.out.below hXY); replace BX := BX.trans (hXY.mono (Nat.le_trans hw1 BX.size)); clear hY hXY; refine step_ownR rfl (.tmp 51) (.tmp 54) rfl _ _ _ _ _ HOX.out (by simp [Act.eval, Act.put]) _ _ 1 _ RB (by simp [Act.eval, Act.put]) rfl (by first | omega | (simp; omega)) (by first | omega | (simp; omega)) (Nat.le_trans hw1 BX.size) ?_; intro gr' cap' X hO hG hor; replace BX := BX.grown hG (Nat.le_trans hw1 BX.size) (fun j e => by obtain rfl := Option.some.inj e; exact HOX.out.1); (try replace RA := RA.grown hG hor); (try replace RC := RC.grown hG hor); clear RB; replace HOX := Lib.hid hO; clear hO hG hor) | (refine wp_named ?_; intro Y hY; have hXY : Below X.heap.size X Y := (by rw [hY]; first | exact Below.refl _ _ | exact (Below.refl _ _).drew | exact (Below.refl _ _).alloc (Nat.le_refl _) _ | exact (Below.refl _ _).drew.alloc (Nat.le_refl _) _ | exact ((Below.refl _ _).alloc (Nat.le_refl _) _).drew); (try (first | have RB := rowD_at hY HOX.out | have RB := rowD_at_drew hY HOX.out | have RB := rowD_at_drew' hY HOX.out)); (try replace RA := RA.below hXY); (try replace RB := RB.below hXY); (try replace RC := RC.below hXY); replace HOX := Lib.hid (HOX.out.below hXY); replace BX := BX.trans (hXY.mono (Nat.le_trans hw1 BX.size)); clear hY hXY; refine step_ownR rfl (.tmp 55) (.tmp 62) rfl _ _ _ _ _ HOX.out (by simp [Act.eval, Act.put]) _ _ capC _ RC (by simp [Act.eval, Act.put]) rfl (by first | omega | (simp; omega)) (by first | omega | (simp; omega)) (Nat.le_trans hw1 BX.size) ?_; intro gr' cap' X hO hG hor; replace BX := BX.grown hG (Nat.le_trans hw1 BX.size) (fun j e => by obtain rfl := Option.some.inj e; exact HOX.out.1); (try replace RA := RA.grown hG hor); (try replace RB := RB.grown hG hor); clear RC; replace HOX := Lib.hid hO; clear hO hG hor))
    all_goals
      have hBX := B1.trans (BX.mono (Nat.le_add_right _ 1))
      have hZX := Nat.le_trans hw1 BX.size
      have hlen : 0 + ws.length + [s].length + vs.length = ws.length + 1 + vs.length := by simp
      clear HS HI HJ HL y0 y1 y2 y3 y4 y5 y6 y7 d0 d2 d3 hwr
      have HX := Lib.hid (show OwnR X (w.heap.size + 1) gr' (ws.length + 1 + vs.length) cap' (ws ++ [s] ++ vs) by have h := HOX.out; rw [hlen, List.nil_append] at h; exact h)
      clear HOX
      by_cases hkt : 1 < tight
      · have q : decide ((1 : Int) < (tight : Int)) = true := decide_eq_true (by omega)
        have HR := Lib.hid (show R = [sLp] ++ (ws ++ [s] ++ vs) ++ [sRp] by rw [HP.out, decide_eq_true hkt]; rfl)
        have hrow := own_lit X (.string sLp) 9
        obtain ⟨i0, hi, hz0, hz1', hz2⟩ := info_parts infoStr
        go_wp2_with (first | (at_builtin; refine wpList_append_own _ rfl _ _ 50 rfl X.heap.size 9 i0 (.string ByteArray.empty) 1 16 Tryz.underlying50 hi hz0 hz1' hz2 rfl (by decide) _ _ _ rfl hrow ⟨gr', 0, none⟩ (ws.length + 1 + vs.length) cap' ((ws ++ [s] ++ vs).map strV) rfl (by simp; omega) (fun j u hj => (World.cell?_alloc_lt _ _ _ (by rw [addr_block]; exact HX.out.2.1)).trans (HX.out.2.2.cells (g := gr') rfl j u hj)) (strs_one _) (by unfold maxLen; omega) (by omega) (by simp) ?_; intro v' w3 hown' hgrow _; obtain ⟨g3, cap3, rfl, hg3⟩ := own_some hown' (by omega); have hb3 : Below X.heap.size X w3 := below_lit hgrow) | (at_builtin; refine wpList_append_own _ rfl _ _ 50 rfl X.heap.size 9 i0 (.string ByteArray.empty) 1 16 Tryz.underlying50 hi hz0 hz1' hz2 rfl (by decide) _ _ _ rfl (hown'.alloc _) ⟨w3.heap.size, 0, none⟩ 1 1 [.string sRp] rfl rfl (cell_one_new _ _ _) (by simp [Value.oneCell']) (by unfold maxLen; omega) (by omega) (by have := hb3.size; simp; omega) ?_; intro v5 w5 hown5 hgrow5 _; obtain ⟨g5, cap5, rfl, hg5⟩ := own_some hown5 (by omega)))
        have hb5 := below_append hb3 hb3.size hown' hgrow5
        refine bodyPost_ret (v := .slice (some ⟨g5, 0, none⟩) (1 + (ws.length + 1 + vs.length) + 1) cap5) (by simp [results, Tryz.results63, go_sem]) rfl ?_
        rw [HR.out]
        refine ⟨_, rfl, ?_, hBX.trans (hb5.mono (by omega))⟩
        have h9 := ownsRow_lower hown5 (show w.heap.size ≤ X.heap.size by omega)
        have e9 : ([sLp] ++ (ws ++ [s] ++ vs) ++ [sRp]).length = 1 + (ws.length + 1 + vs.length) + 1 := by simp; omega
        rw [e9]
        simpa [strV] using h9
      · have q : decide ((1 : Int) < (tight : Int)) = false := decide_eq_false (by omega)
        have HR := Lib.hid (show R = ws ++ [s] ++ vs by rw [HP.out, decide_eq_false hkt]; rfl)
        go_wp2_with fail
        refine bodyPost_ret (v := .slice (some ⟨gr', 0, none⟩) (ws.length + 1 + vs.length) cap') (by simp [results, Tryz.results63, go_sem]) rfl ?_
        rw [HR.out]
        refine ⟨_, rfl, ?_, hBX⟩
        have h9 := ownsRow_lower HX.out.2.2 (Nat.le_add_right w.heap.size 1)
        have e9 : (ws ++ [s] ++ vs).length = ws.length + 1 + vs.length := by simp; omega
        rw [e9]
        simpa using h9
  · have hq' : ((k : Int) == 1) = false := by rw [hq, decide_eq_false hk1']
    have hlk : lf = k := by omega
    rw [hlk] at HI
    clear hq hlf hlk
    rw [← hX]
    clear hX
    go_wp2_with fail
    go_region_held3 (fun W => W.cell? ⟨w.heap.size, 0, none⟩ = some (.int .i64 3) ∧ W.cell? ⟨w.heap.size, 2, none⟩ = some (.string s) ∧ W.cell? ⟨w.heap.size, 3, none⟩ = some (.slice (some ⟨g0, off, none⟩) 2 c) ∧ W.cell? ⟨g0, off, none⟩ = some (.int .i64 x.kind) ∧ W.cell? ⟨g0, off + 1, none⟩ = some (.int .i64 x.n) ∧ W.cell? ⟨g0, off + 2, none⟩ = some (.string x.s) ∧ W.cell? ⟨g0, off + 3, none⟩ = some (.slice D0 x.kids.length cc0) ∧ W.cell? ⟨g0, off + 4, none⟩ = some (.int .i64 y.kind) ∧ W.cell? ⟨g0, off + 5, none⟩ = some (.int .i64 y.n) ∧ W.cell? ⟨g0, off + 6, none⟩ = some (.string y.s) ∧ W.cell? ⟨g0, off + 7, none⟩ = some (.slice D1 y.kids.length cc1) ∧ Below (w.heap.size + 1) w1 W)
      (first | with_reducible exact HS.out _ BX | with_reducible exact HS.out _ (BX.drew) | exact HS.out _ (BX.alloc (Nat.le_trans hw1 BX.size) _) | exact HS.out _ (BX.drew.alloc (Nat.le_trans hw1 BX.size) _) | exact HS.out _ (BX.alloc (Nat.le_trans hw1 BX.size) _).drew)
      (first | (go_at_call 63; refine calls_named ?_; intro Y hY; have hXY : Below X.heap.size X Y := (by rw [hY]; first | exact Below.refl _ _ | exact (Below.refl _ _).drew | exact (Below.refl _ _).alloc (Nat.le_refl _) _ | exact (Below.refl _ _).drew.alloc (Nat.le_refl _) _ | exact ((Below.refl _ _).alloc (Nat.le_refl _) _).drew); (try (first | have RB := rowD_at hY HOX.out | have RB := rowD_at_drew hY HOX.out | have RB := rowD_at_drew' hY HOX.out)); (try replace RA := RA.below hXY); (try replace RB := RB.below hXY); (try replace RC := RC.below hXY); replace HOX := Lib.hid (HOX.out.below hXY); replace BX := BX.trans (hXY.mono (Nat.le_trans hw1 BX.size)); clear hY hXY; have hBY := B1.trans (BX.mono (Nat.le_add_right _ 1)); with_reducible refine (HI.out Y hBY).mono ?_; clear hBY; intro r X hwd; obtain ⟨gA, capA, rfl, RA, hYZ⟩ := wordy_row hla hwd HOX.out; (try replace RB := RB.below hYZ); (try replace RC := RC.below hYZ); replace HOX := Lib.hid (HOX.out.below hYZ); replace BX := BX.trans (hYZ.mono (Nat.le_trans hw1 BX.size)); clear hwd hYZ) | (go_at_call 63; refine calls_named ?_; intro Y hY; have hXY : Below X.heap.size X Y := (by rw [hY]; first | exact Below.refl _ _ | exact (Below.refl _ _).drew | exact (Below.refl _ _).alloc (Nat.le_refl _) _ | exact (Below.refl _ _).drew.alloc (Nat.le_refl _) _ | exact ((Below.refl _ _).alloc (Nat.le_refl _) _).drew); (try (first | have RB := rowD_at hY HOX.out | have RB := rowD_at_drew hY HOX.out | have RB := rowD_at_drew' hY HOX.out)); (try replace RA := RA.below hXY); (try replace RB := RB.below hXY); (try replace RC := RC.below hXY); replace HOX := Lib.hid (HOX.out.below hXY); replace BX := BX.trans (hXY.mono (Nat.le_trans hw1 BX.size)); clear hY hXY; have hBY := B1.trans (BX.mono (Nat.le_add_right _ 1)); with_reducible refine (HJ.out Y hBY).mono ?_; clear hBY; intro r X hwd; obtain ⟨gC, capC, rfl, RC, hYZ⟩ := wordy_row hlb hwd HOX.out; (try replace RA := RA.below hYZ); (try replace RB := RB.below hYZ); replace HOX := Lib.hid (HOX.out.below hYZ); replace BX := BX.trans (hYZ.mono (Nat.le_trans hw1 BX.size)); clear hwd hYZ) | (refine wp_named ?_; intro Y hY; have hXY : Below X.heap.size X Y := (by rw [hY]; first | exact Below.refl _ _ | exact (Below.refl _ _).drew | exact (Below.refl _ _).alloc (Nat.le_refl _) _ | exact (Below.refl _ _).drew.alloc (Nat.le_refl _) _ | exact ((Below.refl _ _).alloc (Nat.le_refl _) _).drew); (try (first | have RB := rowD_at hY HOX.out | have RB := rowD_at_drew hY HOX.out | have RB := rowD_at_drew' hY HOX.out)); (try replace RA := RA.below hXY); (try replace RB := RB.below hXY); (try replace RC := RC.below hXY); replace HOX := Lib.hid (HOX.out.below hXY); replace BX := BX.trans (hXY.mono (Nat.le_trans hw1 BX.size)); clear hY hXY; refine step_ownR rfl (.tmp 44) (.tmp 50) rfl _ _ _ _ _ HOX.out (by simp [Act.eval, Act.put]) _ _ capA _ RA (by simp [Act.eval, Act.put]) rfl (by first | omega | (simp; omega)) (by first | omega | (simp; omega)) (Nat.le_trans hw1 BX.size) ?_; intro gr' cap' X hO hG hor; replace BX := BX.grown hG (Nat.le_trans hw1 BX.size) (fun j e => by obtain rfl := Option.some.inj e; exact HOX.out.1); (try replace RB := RB.grown hG hor); (try replace RC := RC.grown hG hor); clear RA; replace HOX := Lib.hid hO; clear hO hG hor) | (refine wp_named ?_; intro Y hY; have hXY : Below X.heap.size X Y := (by rw [hY]; first | exact Below.refl _ _ | exact (Below.refl _ _).drew | exact (Below.refl _ _).alloc (Nat.le_refl _) _ | exact (Below.refl _ _).drew.alloc (Nat.le_refl _) _ | exact ((Below.refl _ _).alloc (Nat.le_refl _) _).drew); (try (first | have RB := rowD_at hY HOX.out | have RB := rowD_at_drew hY HOX.out | have RB := rowD_at_drew' hY HOX.out)); (try replace RA := RA.below hXY); (try replace RB := RB.below hXY); (try replace RC := RC.below hXY); replace HOX := Lib.hid (HOX.out.below hXY); replace BX := BX.trans (hXY.mono (Nat.le_trans hw1 BX.size)); clear hY hXY; refine step_ownR rfl (.tmp 51) (.tmp 54) rfl _ _ _ _ _ HOX.out (by simp [Act.eval, Act.put]) _ _ 1 _ RB (by simp [Act.eval, Act.put]) rfl (by first | omega | (simp; omega)) (by first | omega | (simp; omega)) (Nat.le_trans hw1 BX.size) ?_; intro gr' cap' X hO hG hor; replace BX := BX.grown hG (Nat.le_trans hw1 BX.size) (fun j e => by obtain rfl := Option.some.inj e; exact HOX.out.1); (try replace RA := RA.grown hG hor); (try replace RC := RC.grown hG hor); clear RB; replace HOX := Lib.hid hO; clear hO hG hor) | (refine wp_named ?_; intro Y hY; have hXY : Below X.heap.size X Y := (by rw [hY]; first | exact Below.refl _ _ | exact (Below.refl _ _).drew | exact (Below.refl _ _).alloc (Nat.le_refl _) _ | exact (Below.refl _ _).drew.alloc (Nat.le_refl _) _ | exact ((Below.refl _ _).alloc (Nat.le_refl _) _).drew); (try (first | have RB := rowD_at hY HOX.out | have RB := rowD_at_drew hY HOX.out | have RB := rowD_at_drew' hY HOX.out)); (try replace RA := RA.below hXY); (try replace RB := RB.below hXY); (try replace RC := RC.below hXY); replace HOX := Lib.hid (HOX.out.below hXY); replace BX := BX.trans (hXY.mono (Nat.le_trans hw1 BX.size)); clear hY hXY; refine step_ownR rfl (.tmp 55) (.tmp 62) rfl _ _ _ _ _ HOX.out (by simp [Act.eval, Act.put]) _ _ capC _ RC (by simp [Act.eval, Act.put]) rfl (by first | omega | (simp; omega)) (by first | omega | (simp; omega)) (Nat.le_trans hw1 BX.size) ?_; intro gr' cap' X hO hG hor; replace BX := BX.grown hG (Nat.le_trans hw1 BX.size) (fun j e => by obtain rfl := Option.some.inj e; exact HOX.out.1); (try replace RA := RA.grown hG hor); (try replace RB := RB.grown hG hor); clear RC; replace HOX := Lib.hid hO; clear hO hG hor))
    all_goals
      have hBX := B1.trans (BX.mono (Nat.le_add_right _ 1))
      have hZX := Nat.le_trans hw1 BX.size
      have hlen : 0 + ws.length + [s].length + vs.length = ws.length + 1 + vs.length := by simp
      clear HS HI HJ HL y0 y1 y2 y3 y4 y5 y6 y7 d0 d2 d3 hwr
      have HX := Lib.hid (show OwnR X (w.heap.size + 1) gr' (ws.length + 1 + vs.length) cap' (ws ++ [s] ++ vs) by have h := HOX.out; rw [hlen, List.nil_append] at h; exact h)
      clear HOX
      by_cases hkt : k < tight
      · have q : decide ((k : Int) < (tight : Int)) = true := decide_eq_true (by omega)
        have HR := Lib.hid (show R = [sLp] ++ (ws ++ [s] ++ vs) ++ [sRp] by rw [HP.out, decide_eq_true hkt]; rfl)
        have hrow := own_lit X (.string sLp) 9
        obtain ⟨i0, hi, hz0, hz1', hz2⟩ := info_parts infoStr
        go_wp2_with (first | (at_builtin; refine wpList_append_own _ rfl _ _ 50 rfl X.heap.size 9 i0 (.string ByteArray.empty) 1 16 Tryz.underlying50 hi hz0 hz1' hz2 rfl (by decide) _ _ _ rfl hrow ⟨gr', 0, none⟩ (ws.length + 1 + vs.length) cap' ((ws ++ [s] ++ vs).map strV) rfl (by simp; omega) (fun j u hj => (World.cell?_alloc_lt _ _ _ (by rw [addr_block]; exact HX.out.2.1)).trans (HX.out.2.2.cells (g := gr') rfl j u hj)) (strs_one _) (by unfold maxLen; omega) (by omega) (by simp) ?_; intro v' w3 hown' hgrow _; obtain ⟨g3, cap3, rfl, hg3⟩ := own_some hown' (by omega); have hb3 : Below X.heap.size X w3 := below_lit hgrow) | (at_builtin; refine wpList_append_own _ rfl _ _ 50 rfl X.heap.size 9 i0 (.string ByteArray.empty) 1 16 Tryz.underlying50 hi hz0 hz1' hz2 rfl (by decide) _ _ _ rfl (hown'.alloc _) ⟨w3.heap.size, 0, none⟩ 1 1 [.string sRp] rfl rfl (cell_one_new _ _ _) (by simp [Value.oneCell']) (by unfold maxLen; omega) (by omega) (by have := hb3.size; simp; omega) ?_; intro v5 w5 hown5 hgrow5 _; obtain ⟨g5, cap5, rfl, hg5⟩ := own_some hown5 (by omega)))
        have hb5 := below_append hb3 hb3.size hown' hgrow5
        refine bodyPost_ret (v := .slice (some ⟨g5, 0, none⟩) (1 + (ws.length + 1 + vs.length) + 1) cap5) (by simp [results, Tryz.results63, go_sem]) rfl ?_
        rw [HR.out]
        refine ⟨_, rfl, ?_, hBX.trans (hb5.mono (by omega))⟩
        have h9 := ownsRow_lower hown5 (show w.heap.size ≤ X.heap.size by omega)
        have e9 : ([sLp] ++ (ws ++ [s] ++ vs) ++ [sRp]).length = 1 + (ws.length + 1 + vs.length) + 1 := by simp; omega
        rw [e9]
        simpa [strV] using h9
      · have q : decide ((k : Int) < (tight : Int)) = false := decide_eq_false (by omega)
        have HR := Lib.hid (show R = ws ++ [s] ++ vs by rw [HP.out, decide_eq_false hkt]; rfl)
        go_wp2_with fail
        refine bodyPost_ret (v := .slice (some ⟨gr', 0, none⟩) (ws.length + 1 + vs.length) cap') (by simp [results, Tryz.results63, go_sem]) rfl ?_
        rw [HR.out]
        refine ⟨_, rfl, ?_, hBX⟩
        have h9 := ownsRow_lower HX.out.2.2 (Nat.le_add_right w.heap.size 1)
        have e9 : (ws ++ [s] ++ vs).length = ws.length + 1 + vs.length := by simp; omega
        rw [e9]
        simpa using h9

/-- The model's words of every part that is fine. -/
theorem l4Words_any (p : Pt) : p.fine = true → p.nodes ≤ 900 → SWords p := by
  induction p with
  | num n => intro hf _; exact l4Words_num n hf
  | name s => intro hf _; exact l4Words_name s hf
  | two s a b ia ib =>
    intro hf hn
    have hf' := hf
    simp only [Pt.fine, Bool.and_eq_true] at hf'
    simp only [Pt.nodes] at hn
    exact l4Words_two s a b hf (by omega) (by omega) (ia hf'.2.1 (by omega)) (ib hf'.2.2 (by omega))
  | «as» s a ia =>
    intro hf hn
    have hf' := hf
    simp only [Pt.fine, Bool.and_eq_true] at hf'
    simp only [Pt.nodes] at hn
    exact l4Words_as s a hf (by omega) (ia hf'.2 (by omega))
end Go.Proofs.YtabignplhkbcpaaGreatDoor
