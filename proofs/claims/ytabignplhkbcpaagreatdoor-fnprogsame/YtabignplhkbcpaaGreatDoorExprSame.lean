/-
  The contract of impl.ExprSame: it tells whether two are the same, whatever their kids share.
-/
import Derived.Test.YtabignplhkbcpaaGreatDoorGD
import Derived.Deep.DeepCutAuto
import Derived.IntWalk
namespace Go.Proofs.YtabignplhkbcpaaGreatDoor
open Go.RowKit

/-- The entries of the map are lists of kids that were taken. -/
def Ents (w : World) (B : Nat) (S : List (List Ex × List Ex)) (es : Array MapEntry) : Prop :=
  ∀ e ∈ es.toList, ∃ p q ks1 ks2, e.key = kv p q ks1.length ∧ e.val = .bool true ∧ (ks1, ks2) ∈ S ∧ 0 < ks1.length ∧ ks1.length = ks2.length ∧ KidsU w B (some p) ks1 ∧ KidsU w B (some q) ks2
/-- What lies on the stack. -/
def Stk (w : World) (B : Nat) (ps : List (K4 × K4)) : Prop := ∀ p ∈ ps, (p.1.1.kids.length ≤ p.1.2.2 ∧ KidsU w B p.1.2.1 p.1.1.kids) ∧ (p.2.1.kids.length ≤ p.2.2.2 ∧ KidsU w B p.2.2.1 p.2.1.kids)
structure StkR (a b : Ex) (w : World) (B bm base N gk : Nat) (wr : World) (g c : Nat) (ps : List (K4 × K4)) (S : List (List Ex × List Ex)) (es : Array MapEntry) (clock : Nat) : Prop where
  row : RowAt wr base g ps.length c ps
  inv : SInv a b S (ps.map prE)
  few : stackN (ps.map prE) ≤ gk
  most : gk ≤ N
  stk : Stk w B ps
  map : wr.heap[bm]? = some (.map es clock)
  ents : Ents w B S es
  bel : Below w.heap.size w wr

theorem kv_inj {p q p' q' : Addr} {n n' : Nat} (h : kv p q n = kv p' q' n') : p = p' ∧ q = q' ∧ n = n' := by
  simp [kv] at h
  exact ⟨h.1, h.2.1, by omega⟩
theorem cell_blk {w : World} {g : Nat} {cs : Array Value} {t : TypeId} (h : w.heap[g]? = some (.cells cs t)) (i : Nat) : w.cell? ⟨g, i, none⟩ = cs[i]? := by simp [World.cell?, h]
theorem KidsU.pb {w : World} {B : Nat} {p : Addr} {ks : List Ex} (h : KidsU w B (some p) ks) (hk : 0 < ks.length) : PB w p := by
  obtain ⟨g, off, e, _, cur, hc⟩ := h.lt hk
  injection e with e
  subst e
  exact ⟨cur, _, hc⟩
/-- All but this block is as it was. -/
def ButFor (g : Nat) (w w' : World) : Prop := (∀ k, k < w.heap.size → k ≠ g → w'.heap[k]? = w.heap[k]?) ∧ w'.os = w.os ∧ w'.tape = w.tape ∧ w'.output = w.output ∧ w.heap.size ≤ w'.heap.size
theorem ButFor.refl (g : Nat) (w : World) : ButFor g w w := ⟨fun _ _ _ => rfl, rfl, rfl, rfl, Nat.le_refl _⟩
theorem ButFor.cell {g : Nat} {w w' : World} (h : ButFor g w w') {k i : Nat} (hk : k < w.heap.size) (hg : k ≠ g) : w'.cell? ⟨k, i, none⟩ = w.cell? ⟨k, i, none⟩ := World.cell?_of_block (a := ⟨k, i, none⟩) (h.1 k hk hg)
theorem ButFor.trans {g : Nat} {w w' w'' : World} (h : ButFor g w w') (h' : ButFor g w' w'') : ButFor g w w'' :=
  ⟨fun k hk hg => (h'.1 k (Nat.lt_of_lt_of_le hk h.2.2.2.2) hg).trans (h.1 k hk hg), h'.2.1.trans h.2.1, h'.2.2.1.trans h.2.2.1, h'.2.2.2.1.trans h.2.2.2.1, Nat.le_trans h.2.2.2.2 h'.2.2.2.2⟩
theorem ButFor.below {g n : Nat} {w w' : World} (h : ButFor g w w') (hn : n ≤ w.heap.size) (hg : n ≤ g) : Below n w w' :=
  ⟨h.2.1, h.2.2.1, h.2.2.2.1, h.2.2.2.2, fun k hk => h.1 k (by omega) (by omega)⟩
theorem Below.but {g : Nat} {w w' : World} (h : Below w.heap.size w w') : ButFor g w w' := ⟨fun k hk _ => h.block k hk, h.os, h.tape, h.output, h.size⟩
theorem Blk.stay {w w' : World} {g : Nat} {cur : Array Value} (h : Blk w g cur) (hb : w'.heap[g]? = w.heap[g]?) : Blk w' g cur := hb.trans h
theorem blk_first (w : World) (cs ds : Array Value) : Blk ((w.alloc (.cells cs 34)).alloc (.cells ds 34)).drew w.heap.size cs := (Below.heap_alloc (w.alloc _) _ _ (by simp)).trans (World.alloc_heap_new w _)
theorem blk_second (w : World) (cs ds : Array Value) : Blk ((w.alloc (.cells cs 34)).alloc (.cells ds 34)).drew (w.heap.size + 1) ds := by
  have := World.alloc_heap_new (w.alloc (.cells cs 34)) (.cells ds 34)
  rwa [World.size_alloc] at this
theorem bel_two (w : World) (o p : Obj) : Below w.heap.size w ((w.alloc o).alloc p).drew := (((Below.refl _ w).alloc (Nat.le_refl _) _).alloc (by simp) _).drew
theorem run_mk (w : World) : (Instr.makeMap 141 none).run Tryz.prog w = .ok (.map (some w.heap.size)) (w.alloc (.map #[] 0)) := by
  simp [Instr.makeMap]

set_option maxRecDepth 100000 in
set_option maxHeartbeats 8000000 in
theorem exprSame_any (a b : Ex) (A A' : Option Addr) (c c' B : Nat) (w : World) (hA : KidsU w B A a.kids) (hA' : KidsU w B A' b.kids) (hc : a.kids.length ≤ c) (hc' : b.kids.length ≤ c') (hB : B ≤ w.heap.size) (hn : a.nodes ≤ 2 ^ 30) :
    Calls Tryz.prog 68 #[.agg #[.int .i64 a.kind, .int .i64 a.n, .string a.s, .slice A a.kids.length c], .agg #[.int .i64 b.kind, .int .i64 b.n, .string b.s, .slice A' b.kids.length c']] w fun r w' => r = .returned (.bool (sameE a b)) ∧ Below w.heap.size w w' := by
  have HA := Lib.hid hA
  have HA' := Lib.hid hA'
  clear hA hA'
  obtain ⟨W1, hW1⟩ : ∃ W1, W1 = ((w.alloc (.cells #[.int .i64 a.kind, .int .i64 a.n, .string a.s, .slice A a.kids.length c] 34)).alloc (.cells #[.int .i64 b.kind, .int .i64 b.n, .string b.s, .slice A' b.kids.length c'] 34)).alloc (.map #[] 0) := ⟨_, rfl⟩
  have hb1 : Below w.heap.size w W1 := by rw [hW1]; exact (((Below.refl _ w).alloc (Nat.le_refl _) _).alloc (by simp) _).alloc (by simp; omega) _
  have hs1 : W1.heap.size = w.heap.size + 1 + 1 + 1 := by rw [hW1]; simp
  have hm1 : W1.heap[w.heap.size + 1 + 1]? = some (.map #[] 0) := by
    have := World.alloc_heap_new ((w.alloc (.cells #[.int .i64 a.kind, .int .i64 a.n, .string a.s, .slice A a.kids.length c] 34)).alloc (.cells #[.int .i64 b.kind, .int .i64 b.n, .string b.s, .slice A' b.kids.length c'] 34)) (.map #[] 0)
    rwa [World.size_alloc, World.size_alloc, ← hW1] at this
  have HSTART := Lib.hid (show StkR a b w B (w.heap.size + 1 + 1) (w.heap.size + 1 + 1 + 1) a.nodes a.nodes (W1.alloc (.cells (prC ((a, A, c), (b, A', c'))).toArray 142)) (w.heap.size + 1 + 1 + 1) 1 [((a, A, c), (b, A', c'))] [] #[] 0 from {
    row := by have := RowAt.made (w := W1) (base := w.heap.size + 1 + 1 + 1) ((a, A, c), (b, A', c')) (by omega); rwa [hs1] at this
    inv := SInv.start a b
    few := by rw [List.map_singleton, stackN_one]; exact Nat.le_refl _
    most := Nat.le_refl _
    stk := fun p hp => by simp at hp; subst hp; exact ⟨⟨hc, HA.out⟩, ⟨hc', HA'.out⟩⟩
    map := (Below.heap_alloc _ _ _ (by omega)).trans hm1
    ents := fun e he => by simp at he
    bel := hb1.alloc (by omega) _ })
  have HW1 := Lib.hid hW1
  have HN := Lib.hid hn
  have hmk := run_mk
  clear hW1 hs1 hm1 hb1 hn
  go_enter Tryz.func68, Tryz.ntmps68
  go_wp2_with fail
  rw [← HW1.out]
  clear hmk HW1
  go_loopg [6] a.nodes (fun gk wk wr => ∃ g cc ps S es clock, wk = .slice (some ⟨g, 0, none⟩) ps.length cc ∧ StkR a b w B (w.heap.size + 1 + 1) (w.heap.size + 1 + 1 + 1) a.nodes gk wr g cc ps S es clock)
  case atStart => exact ⟨_, _, _, _, _, _, rfl, HSTART.out⟩
  case round =>
    clear HSTART
    obtain ⟨g, cc, ps, S, es, clock, rfl, R⟩ := hrel
    rcases List.eq_nil_or_concat ps with rfl | ⟨qs, p, rfl⟩
    · have HR := Lib.hid R
      clear R
      go_wp2_with fail
      go_ret
      exact ⟨ret_bool (by rw [sameE_eq _ _ HR.out.inv.done]), HR.out.bel⟩
    · obtain ⟨⟨x, D, m⟩, ⟨y, D', m'⟩⟩ := p
      rw [List.concat_eq_append] at R ⊢
      have hlen : (qs ++ [((x, D, m), (y, D', m'))]).length = qs.length + 1 := by simp
      have row := R.row
      have few := R.few
      rw [hlen] at row ⊢
      rw [List.map_append, List.map_singleton, stackN_append, stackN_one] at few
      have hx1 := nodes_pos x
      have hql := stackN_length (qs.map prE)
      rw [List.length_map] at hql
      have hgk : gk ≤ 2 ^ 30 := Nat.le_trans R.most HN.out
      have few1 : x.nodes + stackN (qs.map prE) ≤ gk := by simp only [prE] at few; omega
      obtain ⟨nq, hnq⟩ : ∃ nq, nq = qs.length := ⟨_, rfl⟩
      have c0 := row.last rfl (i := 0) (by omega)
      have c1 := row.last rfl (i := 1) (by omega)
      have c2 := row.last rfl (i := 2) (by omega)
      have c3 := row.last rfl (i := 3) (by omega)
      have c4 := row.last rfl (i := 4) (by omega)
      have c5 := row.last rfl (i := 5) (by omega)
      have c6 := row.last rfl (i := 6) (by omega)
      have c7 := row.last rfl (i := 7) (by omega)
      simp only [prC, k4C, kidCells, List.cons_append, List.nil_append, List.getElem?_cons_zero, List.getElem?_cons_succ, Nat.add_zero] at c0 c1 c2 c3 c4 c5 c6 c7
      have HP := Lib.hid (row.pop rfl)
      have hrl := row.lt
      rw [← hnq] at c0 c1 c2 c3 c4 c5 c6 c7 hql HP hrl ⊢
      have HRR := Lib.hid R
      have HNQ := Lib.hid hnq
      obtain ⟨hbg, hgl, hcl⟩ := hrl
      have hnb : nq ≤ 2 ^ 30 := by omega
      have qi : (0 : Int) ≤ (nq : Int) := by omega
      obtain ⟨n1, hn1⟩ : ∃ n1, n1 = nq + 1 := ⟨_, rfl⟩
      rw [← hn1] at hcl ⊢
      have q0 : IntKind.i64.wrap ((n1 : Int) - 1) = (nq : Int) := by rw [IntWalk.i64_in _ (by omega)]; omega
      have q1 : (nq : Int) < (n1 : Int) := by omega
      have q2 : (0 : Int) < (n1 : Int) := by omega
      have q3 : (nq : Int) ≤ (cc : Int) := by omega
      have hnl : nq < n1 := by omega
      clear hn1
      clear R row hlen hnq few
      obtain ⟨lx, hlx⟩ : ∃ lx, lx = x.kids.length := ⟨_, rfl⟩
      obtain ⟨ly, hly⟩ : ∃ ly, ly = y.kids.length := ⟨_, rfl⟩
      rw [← hlx] at c3
      rw [← hly] at c7
      have HLX := Lib.hid hlx
      have HLY := Lib.hid hly
      clear hlx hly
      go_upto_region 4 with fail
      go_cut [7, 8] (fun s7 s8 wx => ∃ b7 b8, s7 = .pointer (some ⟨b7, 0, none⟩) ∧ s8 = .pointer (some ⟨b8, 0, none⟩) ∧ b7 ≠ b8 ∧ wr.heap.size ≤ b7 ∧ wr.heap.size ≤ b8 ∧ Blk wx b7 #[.int .i64 x.kind, .int .i64 x.n, .string x.s, .slice D lx m] ∧ Blk wx b8 #[.int .i64 y.kind, .int .i64 y.n, .string y.s, .slice D' ly m'] ∧ Below wr.heap.size wr wx)
      case first =>
        go_region_held3 (fun w' => w'.cell? ⟨g, nq * 8, none⟩ = some (.int .i64 x.kind) ∧ w'.cell? ⟨g, nq * 8 + 1, none⟩ = some (.int .i64 x.n) ∧ w'.cell? ⟨g, nq * 8 + 2, none⟩ = some (.string x.s) ∧ w'.cell? ⟨g, nq * 8 + 3, none⟩ = some (.slice D lx m) ∧ w'.cell? ⟨g, nq * 8 + 4, none⟩ = some (.int .i64 y.kind) ∧ w'.cell? ⟨g, nq * 8 + 4 + 1, none⟩ = some (.int .i64 y.n) ∧ w'.cell? ⟨g, nq * 8 + 4 + 2, none⟩ = some (.string y.s) ∧ w'.cell? ⟨g, nq * 8 + 4 + 3, none⟩ = some (.slice D' ly m'))
          (go_keep) (fail)
        all_goals (go_wp2_with fail; go_meet)
        case rel => exact ⟨_, _, rfl, rfl, by omega, Nat.le_refl _, by omega, blk_first _ _ _, blk_second _ _ _, bel_two _ _ _⟩
        case rel => exact ⟨_, _, rfl, rfl, by omega, by omega, Nat.le_refl _, blk_second _ _ _, blk_first _ _ _, bel_two _ _ _⟩
      case rest =>
        obtain ⟨b7, b8, rfl, rfl, hne, hb7, hb8, blk7, blk8, hbc⟩ := hcut
        have d0 := blk7.cell 0
        have d1 := blk7.cell 1
        have d2 := blk7.cell 2
        have d3 := blk7.cell 3
        have e0 := blk8.cell 0
        have e1 := blk8.cell 1
        have e2 := blk8.cell 2
        have e3 := blk8.cell 3
        simp only [List.getElem?_toArray, List.getElem?_cons_zero, List.getElem?_cons_succ] at d0 d1 d2 d3 e0 e1 e2 e3
        clear c0 c1 c2 c3 c4 c5 c6 c7
        have HB7 := Lib.hid blk7
        have HB8 := Lib.hid blk8
        have h7l := blk7.lt
        have h8l := blk8.lt
        clear blk7 blk8
        have q5 : ¬ ((nq : Int) < 0) := by omega
        have hql2 := hbc.size
        have HBC := Lib.hid hbc
        have hSp := HRR.out.stk ((x, D, m), (y, D', m')) (by simp)
        have HSP := Lib.hid hSp
        clear hbc hSp
        go_wp2_with fail
        refine (sameAlone_any x.kind x.n x.s D lx m y.kind y.n y.s D' ly m' wc).mono ?_
        rintro e w2 ⟨rfl, hb2⟩
        have hs2 := hb2.size
        have HB27 := Lib.hid (HB7.out.stay (hb2.block _ h7l))
        have HB28 := Lib.hid (HB8.out.stay (hb2.block _ h8l))
        have d3 := HB27.out.cell 3
        have e3 := HB28.out.cell 3
        simp only [List.getElem?_toArray, List.getElem?_cons_zero, List.getElem?_cons_succ] at d3 e3
        have HBW := Lib.hid (HBC.out.trans (hb2.mono HBC.out.size))
        have HP2 := Lib.hid (HP.out.keep (HBW.out.block g hgl))
        clear d0 d1 d2 e0 e1 e2 HB7 HB8 HBC HP hb2
        obtain ⟨R0, hR0⟩ : ∃ R0, R0 = aloneB x.kind x.n x.s lx y.kind y.n y.s ly := ⟨_, rfl⟩
        rw [← hR0]
        have HR0 := Lib.hid hR0
        clear hR0
        have HAL := Lib.hid (show R0 = true ↔ Alone2 x y by rw [HR0.out, HLX.out, HLY.out]; exact aloneB_iff x y)
        have HINV := Lib.hid (show SInv a b S (qs.map prE ++ [(x, y)]) by have := HRR.out.inv; rwa [List.map_append, List.map_singleton] at this)
        cases R0 with
        | false =>
          go_wp2_with fail
          go_ret
          exact ⟨ret_bool (by rw [sameE_ne _ _ (HINV.out.fail (fun h => by have := HAL.out.2 h; cases this))]), HRR.out.bel.trans (HBW.out.mono HRR.out.bel.size)⟩
        | true =>
          have hAl := HAL.out.1 rfl
          have hll : lx ≤ ly := by rw [HLX.out, HLY.out, hAl.2.2.2]; exact Nat.le_refl _
          have hll2 : ly ≤ lx := by rw [HLX.out, HLY.out, hAl.2.2.2]; exact Nat.le_refl _
          have HALO := Lib.hid hAl
          clear hAl
          have HNEXT := Lib.hid (show ∀ (S' : List (List Ex × List Ex)) (W : World), Below wr.heap.size wr W → RowAt W (w.heap.size + 1 + 1 + 1) g nq cc qs → (x.kids = [] ∨ (x.kids, y.kids) ∈ S) → StkR a b w B (w.heap.size + 1 + 1) (w.heap.size + 1 + 1 + 1) a.nodes (gk - 1) W g cc qs S es clock from fun _ W hW hrow hk => {
            row := by rw [← HNQ.out]; exact hrow
            inv := HINV.out.skip HALO.out hk
            few := by omega
            most := Nat.le_trans (Nat.sub_le _ _) HRR.out.most
            stk := fun p hp => HRR.out.stk p (by simp [hp])
            map := (hW.block _ (by have := HRR.out.map; exact (Array.getElem?_eq_some_iff.1 this).1)).trans HRR.out.map
            ents := HRR.out.ents
            bel := HRR.out.bel.trans (hW.mono HRR.out.bel.size) })
          by_cases hl0 : lx = 0
          · have q6 : ((lx : Int) == 0) = true := by rw [beq_iff_eq]; omega
            have hk0 : x.kids = [] := List.eq_nil_of_length_eq_zero (by rw [← HLX.out]; exact hl0)
            clear hl0
            go_wp2_with fail
            go_roundg (gk - 1)
            case measure => omega
            case rel => exact ⟨_, _, qs, _, _, _, by rw [← HNQ.out], HNEXT.out S w2 HBW.out HP2.out (.inl hk0)⟩
          · have q6 : ((lx : Int) == 0) = false := by rw [beq_eq_false_iff_ne]; omega
            have hlp : 0 < lx := by omega
            clear hl0
            obtain ⟨gx, ox, eD, hgx, _, _⟩ := HSP.out.1.2.lt (by show 0 < x.kids.length; rw [← HLX.out]; exact hlp)
            obtain ⟨gy, oy, eD', hgy, _, _⟩ := HSP.out.2.2.lt (by show 0 < y.kids.length; rw [← HLY.out]; omega)
            subst eD eD'
            have q7 : (0 : Int) < (lx : Int) := by omega
            have q8 : (0 : Int) < (ly : Int) := by omega
            have hlp2 : 0 < ly := by omega
            go_upto_region 9 with fail
            go_cut [9] (fun s9 wx => ∃ b9, s9 = .pointer (some ⟨b9, 0, none⟩) ∧ w2.heap.size ≤ b9 ∧ wx.heap[b9]? = some (.cells #[.pointer (some ⟨gx, ox, none⟩), .pointer (some ⟨gy, oy, none⟩), .int .i64 (lx : Int)] 146) ∧ Below w2.heap.size w2 wx)
            case first =>
              go_region_held3 (fun w' => w'.cell? ⟨b7, 3, none⟩ = some (.slice (some ⟨gx, ox, none⟩) lx m) ∧ w'.cell? ⟨b8, 3, none⟩ = some (.slice (some ⟨gy, oy, none⟩) ly m')) (go_keep) (fail)
              all_goals (go_wp2_with fail; go_meet; exact ⟨_, rfl, Nat.le_refl _, World.alloc_heap_new w2 _, ((Below.refl _ w2).alloc (Nat.le_refl _) _).drew⟩)
            case rest =>
              obtain ⟨b9, rfl, hb9, blk9, hbc9⟩ := hcut
              have hs9 := hbc9.size
              have hl9 : b9 < wc.heap.size := (Array.getElem?_eq_some_iff.1 blk9).1
              have z0 := cell_blk blk9 0
              have z1 := cell_blk blk9 1
              have z2 := cell_blk blk9 2
              simp only [List.getElem?_toArray, List.getElem?_cons_zero, List.getElem?_cons_succ] at z0 z1 z2
              have d3c := (hbc9.cell (p := ⟨b7, 3, none⟩) HB27.out.lt).trans d3
              have e3c := (hbc9.cell (p := ⟨b8, 3, none⟩) HB28.out.lt).trans e3
              have h7l := HB27.out.lt
              have h8l := HB28.out.lt
              have HBW9 := Lib.hid (HBW.out.trans (hbc9.mono HBW.out.size))
              have HBL9 := Lib.hid (HRR.out.bel.trans (HBW9.out.mono HRR.out.bel.size))
              have hmp : wc.heap[w.heap.size + 1 + 1]? = some (.map es clock) := (HBW9.out.block _ (Array.getElem?_eq_some_iff.1 HRR.out.map).1).trans HRR.out.map
              have hml : w.heap.size + 1 + 1 < wr.heap.size := (Array.getElem?_eq_some_iff.1 HRR.out.map).1
              have HKX := Lib.hid (HSP.out.1.2.keep (HBL9.out.mono hB))
              have HKY := Lib.hid (HSP.out.2.2.keep (HBL9.out.mono hB))
              have hpx : PB wc ⟨gx, ox, none⟩ := HKX.out.pb (by show 0 < x.kids.length; rw [← HLX.out]; exact hlp)
              have hpy : PB wc ⟨gy, oy, none⟩ := HKY.out.pb (by show 0 < y.kids.length; rw [← HLY.out]; omega)
              have HP9 := Lib.hid (HP2.out.keep (hbc9.block g (by have := HBW.out.size; omega)))
              have hmk := map_kv (n := lx) hmp (fun e he => by
                obtain ⟨p, q, ks1, ks2, f1, f2, f3, f4, f5, f6, f7⟩ := HRR.out.ents e he
                exact ⟨p, q, ks1.length, f1, f2, (f6.keep (HBL9.out.mono hB)).pb f4, (f7.keep (HBL9.out.mono hB)).pb (by omega)⟩) hpx hpy
              clear d3 e3 blk9 HB27 HB28 HP2 hpx hpy hbc9
              rcases hmk with ⟨hlk, en, hen, hek⟩ | ⟨hlk, hmu⟩
              · have hmem : (x.kids, y.kids) ∈ S := by
                  obtain ⟨p, q, ks1, ks2, f1, f2, f3, f4, f5, f6, f7⟩ := HRR.out.ents en hen
                  obtain ⟨rfl, rfl, f8⟩ := kv_inj (f1.symm.trans hek)
                  have g1 := f6.one HSP.out.1.2 (f8.trans HLX.out)
                  have g2 := f7.one HSP.out.2.2 (by show ks2.length = y.kids.length; rw [← HLY.out]; omega)
                  rw [← show ks1 = x.kids from g1, ← show ks2 = y.kids from g2]
                  exact f3
                have HMEM := Lib.hid hmem
                unfold kv at hlk
                clear hmem hek hen hmp
                go_wp2_with fail
                go_roundg (gk - 1)
                case measure => omega
                case rel => exact ⟨_, _, qs, _, _, _, by rw [← HNQ.out], HNEXT.out S wc HBW9.out HP9.out (.inr HMEM.out)⟩
              · obtain ⟨W3, hW3⟩ : ∃ W3 : World, W3 = { wc with heap := wc.heap.setIfInBounds (w.heap.size + 1 + 1) (.map (es.push ⟨kv ⟨gx, ox, none⟩ ⟨gy, oy, none⟩ lx, .bool true, clock⟩) (clock + 1)) } := ⟨_, rfl⟩
                rw [← hW3] at hmu
                have hsz3 : W3.heap.size = wc.heap.size := by rw [hW3]; simp
                have hoth : ∀ k, k ≠ w.heap.size + 1 + 1 → W3.heap[k]? = wc.heap[k]? := fun k hk => by rw [hW3]; exact (MapKept.heap_set hmp).2 k hk
                have hm3 : W3.heap[w.heap.size + 1 + 1]? = some (.map (es.push ⟨kv ⟨gx, ox, none⟩ ⟨gy, oy, none⟩ lx, .bool true, clock⟩) (clock + 1)) := by rw [hW3]; exact (MapKept.heap_set hmp).1
                have hos3 : W3.os = wc.os ∧ W3.tape = wc.tape ∧ W3.output = wc.output := by rw [hW3]; exact ⟨rfl, rfl, rfl⟩
                have d3W : W3.cell? ⟨b7, 3, none⟩ = some (.slice (some ⟨gx, ox, none⟩) lx m) := (World.cell?_of_block (a := ⟨b7, 3, none⟩) (hoth b7 (by omega))).trans d3c
                have e3W : W3.cell? ⟨b8, 3, none⟩ = some (.slice (some ⟨gy, oy, none⟩) ly m') := (World.cell?_of_block (a := ⟨b8, 3, none⟩) (hoth b8 (by omega))).trans e3c
                have hsb3 : wc.heap.size ≤ W3.heap.size := by omega
                have HBL3 := Lib.hid (HBL9.out.trans ⟨hos3.1, hos3.2.1, hos3.2.2, by omega, fun k hk => hoth k (by omega)⟩)
                have HP3 := Lib.hid (HP9.out.keep (hoth g (by omega)))
                have HM3 := Lib.hid hm3
                unfold kv at hlk hmu
                clear hW3 hsz3 hoth hm3 hos3 hmp HBW9 HBL9 HP9
                go_wp2_with fail
                clear hlk hmu z0 z1 z2 d3c e3c
                generalize gk = G at *
                generalize wr = W0 at *
                go_loopg [6, 64] lx (fun gj wk2 i2 wr2 => ∃ (j g2 c2 : Nat) (ds : List (K4 × K4)), i2 = .int .i64 (j : Int) ∧ j + gj = lx ∧ wk2 = .slice (some ⟨g2, 0, none⟩) (nq + j) c2 ∧ Hid (RowAt wr2 (w.heap.size + 1 + 1 + 1) g2 (nq + j) c2 (qs ++ ds) ∧ ds.map prE = (x.kids.zip y.kids).take j ∧ Stk w B ds ∧ ButFor g W3 wr2) ∧ (g2 = g ∨ W3.heap.size ≤ g2))
                case atStart => exact ⟨0, _, _, [], rfl, by omega, rfl, ⟨by simpa using HP3.out, by simp, (fun p hp => by cases hp), ButFor.refl _ _⟩, .inl rfl⟩
                case round =>
                  obtain ⟨j, g2, c2, ds, rfl, hjg, rfl, HR2, hg2⟩ := hrel
                  have hBF := HR2.out.2.2.2
                  have hszr := hBF.2.2.2.2
                  have hbw2 := HBL3.out.trans (hBF.below (n := w.heap.size) HBL3.out.size (by omega))
                  obtain ⟨nj, hnj⟩ : ∃ nj, nj = nq + j := ⟨_, rfl⟩
                  rw [← hnj]
                  have HNJ := Lib.hid hnj
                  have hnjb : nj ≤ 2 ^ 31 := by
                    have h1 := stackN_zip x.kids y.kids HALO.out.2.2.2
                    have h2 := stackN_length (x.kids.zip y.kids)
                    rw [List.length_zip, ← HLX.out, ← HLY.out] at h2
                    have h3 := nodes_kids x
                    omega
                  have hjb : j ≤ 2 ^ 31 := by omega
                  clear hnj
                  by_cases hlt : j < lx
                  · have hx' : j < x.kids.length := by rw [← HLX.out]; exact hlt
                    have hy' : j < y.kids.length := by rw [← HLY.out]; omega
                    obtain ⟨gx', ox', D1, m1, eX, _, _, kx, ux⟩ := HSP.out.1.2.at_ hx'
                    obtain ⟨gy', oy', D2, m2, eY, _, _, ky, uy⟩ := HSP.out.2.2.at_ hy'
                    injection eX with eX
                    injection eX with eX1 eX2
                    injection eY with eY
                    injection eY with eY1 eY2
                    subst eX1 eX2 eY1 eY2
                    have HZ := Lib.hid (show (x.kids.zip y.kids).take (j + 1) = (x.kids.zip y.kids).take j ++ [(x.kids[j], y.kids[j])] by
                      rw [List.take_succ_eq_append_getElem (by rw [List.length_zip]; omega)]; simp)
                    have kx2 := kx.keep (w' := wr) (fun i _ _ => hbw2.cell (p := ⟨gx, i, none⟩) (by show gx < _; omega))
                    have ky2 := ky.keep (w' := wr) (fun i _ _ => hbw2.cell (p := ⟨gy, i, none⟩) (by show gy < _; omega))
                    have HUX := Lib.hid ux
                    have HUY := Lib.hid uy
                    generalize x.kids[j] = xx at *
                    generalize y.kids[j] = yy at *
                    obtain ⟨k0, k1, k2, k3, hcx⟩ := kx2
                    obtain ⟨l0, l1, l2, l3, hcy⟩ := ky2
                    have d3r := (hBF.cell (k := b7) (i := 3) (by omega) (by omega)).trans d3W
                    have e3r := (hBF.cell (k := b8) (i := 3) (by omega) (by omega)).trans e3W
                    have hb7r : b7 < wr.heap.size := by omega
                    have hb8r : b8 < wr.heap.size := by omega
                    have hgxr : gx < wr.heap.size := by have := hbw2.size; omega
                    have hgyr : gy < wr.heap.size := by have := hbw2.size; omega
                    have hb7g : b7 ≠ g2 := by omega
                    have hb8g : b8 ≠ g2 := by omega
                    have hgxg : gx ≠ g2 := by omega
                    have hgyg : gy ≠ g2 := by omega
                    have hbsr : w.heap.size + 1 + 1 + 1 ≤ wr.heap.size := by omega
                    have HBF := Lib.hid hBF
                    have qj : (j : Int) < (lx : Int) := by omega
                    have qj2 : (j : Int) < (ly : Int) := by omega
                    have qj3 : (0 : Int) ≤ (j : Int) := by omega
                    clear hBF kx ky ux uy hbw2
                    go_wp2_with fail
                    go_region_held3 (fun w' => w'.cell? ⟨b7, 3, none⟩ = some (.slice (some ⟨gx, ox, none⟩) lx m) ∧ w'.cell? ⟨b8, 3, none⟩ = some (.slice (some ⟨gy, oy, none⟩) ly m') ∧ w'.cell? ⟨gx, ox + j * 4, none⟩ = some (.int .i64 xx.kind) ∧ w'.cell? ⟨gx, ox + j * 4 + 1, none⟩ = some (.int .i64 xx.n) ∧ w'.cell? ⟨gx, ox + j * 4 + 2, none⟩ = some (.string xx.s) ∧ w'.cell? ⟨gx, ox + j * 4 + 3, none⟩ = some (.slice D1 xx.kids.length m1) ∧ w'.cell? ⟨gy, oy + j * 4, none⟩ = some (.int .i64 yy.kind) ∧ w'.cell? ⟨gy, oy + j * 4 + 1, none⟩ = some (.int .i64 yy.n) ∧ w'.cell? ⟨gy, oy + j * 4 + 2, none⟩ = some (.string yy.s) ∧ w'.cell? ⟨gy, oy + j * 4 + 3, none⟩ = some (.slice D2 yy.kids.length m2))
                      (first | exact ⟨d3r, e3r, k0, k1, k2, k3, l0, l1, l2, l3⟩ | exact ⟨(World.cell?_alloc_lt _ _ _ hb7r).trans d3r, (World.cell?_alloc_lt _ _ _ hb8r).trans e3r, (World.cell?_alloc_lt _ _ _ hgxr).trans k0, (World.cell?_alloc_lt _ _ _ hgxr).trans k1, (World.cell?_alloc_lt _ _ _ hgxr).trans k2, (World.cell?_alloc_lt _ _ _ hgxr).trans k3, (World.cell?_alloc_lt _ _ _ hgyr).trans l0, (World.cell?_alloc_lt _ _ _ hgyr).trans l1, (World.cell?_alloc_lt _ _ _ hgyr).trans l2, (World.cell?_alloc_lt _ _ _ hgyr).trans l3⟩ | exact ⟨(hkV b7 hb7r hb7g _).trans d3r, (hkV b8 hb8r hb8g _).trans e3r, (hkV gx hgxr hgxg _).trans k0, (hkV gx hgxr hgxg _).trans k1, (hkV gx hgxr hgxg _).trans k2, (hkV gx hgxr hgxg _).trans k3, (hkV gy hgyr hgyg _).trans l0, (hkV gy hgyr hgyg _).trans l1, (hkV gy hgyr hgyg _).trans l2, (hkV gy hgyr hgyg _).trans l3⟩)
                      ((refine wp_namedP ?_; intro Z hZ; have hZb : Below wr.heap.size wr Z := (by rw [hZ]; first | exact ((Below.refl _ wr).drew).alloc (Nat.le_refl _) _ | exact ((Below.refl _ wr).alloc (Nat.le_refl _) _).drew); have hblk : Z.heap[wr.heap.size]? = some (.cells (prC ((xx, D1, m1), (yy, D2, m2))).toArray 142) := (by rw [hZ]; exact World.alloc_heap_new wr _); have hZs := hZb.size; refine step_ownP rfl (.tmp 67) (.tmp 79) rfl (w.heap.size + 1 + 1 + 1) g2 nj c2 (qs ++ ds) ((show RowAt wr (w.heap.size + 1 + 1 + 1) g2 nj c2 (qs ++ ds) from (by rw [HNJ.out]; exact HR2.out.1)).keep (hZb.block _ (by have := HR2.out.1.lt; omega))) (by simp [Act.eval]) wr.heap.size 1 ((xx, D1, m1), (yy, D2, m2)) hblk (by simp [Act.eval]) hnjb (by omega) ?_; intro g' cap' V hOV hGV horV; have hkV : ∀ k, k < wr.heap.size → k ≠ g2 → ∀ i, V.cell? ⟨k, i, none⟩ = wr.cell? ⟨k, i, none⟩ := (fun k h1 h2 i => (World.cell?_of_block (a := ⟨k, i, none⟩) (hGV.block k (by omega) (fun e => h2 (by injection e)))).trans (hZb.cell (p := ⟨k, i, none⟩) h1)); have HKV := Lib.hid hkV; have HOV := Lib.hid hOV; have HGV := Lib.hid hGV; have HZB := Lib.hid hZb; clear hOV hblk hZ))
                    go_wp2_with fail
                    go_roundg (gk - 1)
                    case measure => omega
                    case rel =>
                      refine ⟨j + 1, g', cap', ds ++ [((xx, D1, m1), (yy, D2, m2))], by go_num, by omega, by rw [← Nat.add_assoc, ← HNJ.out], ?_, by omega⟩
                      refine ⟨?_, ?_, ?_, ?_⟩
                      · rw [← Nat.add_assoc, ← HNJ.out, ← List.append_assoc]; exact HOV.out
                      · rw [List.map_append, HR2.out.2.1, HZ.out]; rfl
                      · intro p hp
                        rcases List.mem_append.1 hp with hp | hp
                        · exact HR2.out.2.2.1 p hp
                        · simp at hp
                          subst hp
                          exact ⟨⟨hcx, HUX.out⟩, ⟨hcy, HUY.out⟩⟩
                      · exact ⟨fun k hk hkg => (HGV.out.block k (by omega) (fun e => by cases e; omega)).trans ((HZB.out.block k (by omega)).trans (HBF.out.1 k hk hkg)), HGV.out.os.trans (HZB.out.os.trans HBF.out.2.1), HGV.out.tape.trans (HZB.out.tape.trans HBF.out.2.2.1), HGV.out.output.trans (HZB.out.output.trans HBF.out.2.2.2.1), Nat.le_trans (Nat.le_trans HBF.out.2.2.2.2 HZB.out.size) HGV.out.size⟩
                  · obtain rfl : j = lx := by omega
                    go_wp2_with fail
                    go_roundg (G - 1)
                    case measure => omega
                    case rel =>
                      have hz : (x.kids.zip y.kids).take j = x.kids.zip y.kids := List.take_of_length_le (by rw [List.length_zip, ← HLX.out]; exact Nat.min_le_left _ _)
                      have hdl : ds.length = j := by
                        have h1 := congrArg List.length HR2.out.2.1
                        rw [hz, List.length_map, List.length_zip, ← HLX.out, ← HLY.out] at h1
                        omega
                      have hql3 : (qs ++ ds).length = nj := by rw [List.length_append, hdl, ← HNQ.out, HNJ.out]
                      have hmap : (qs ++ ds).map prE = qs.map prE ++ x.kids.zip y.kids := by rw [List.map_append, HR2.out.2.1, hz]
                      refine ⟨g2, c2, qs ++ ds, (x.kids, y.kids) :: S, es.push ⟨kv ⟨gx, ox, none⟩ ⟨gy, oy, none⟩ j, .bool true, clock⟩, clock + 1, by rw [hql3], ?_⟩
                      exact {
                        row := by rw [hql3, HNJ.out]; exact HR2.out.1
                        inv := by rw [hmap]; exact HINV.out.push HALO.out
                        few := by
                          rw [hmap, stackN_append, stackN_zip _ _ HALO.out.2.2.2]
                          have := nodes_kids x
                          omega
                        most := Nat.le_trans (Nat.sub_le _ _) HRR.out.most
                        stk := fun p hp => by
                          rcases List.mem_append.1 hp with hp | hp
                          · exact HRR.out.stk p (by simp [hp])
                          · exact HR2.out.2.2.1 p hp
                        map := (HR2.out.2.2.2.1 _ (by omega) (by omega)).trans HM3.out
                        ents := fun e he => by
                          simp only [Array.toList_push, List.mem_append, List.mem_singleton] at he
                          rcases he with he | rfl
                          · obtain ⟨p, q, ks1, ks2, f1, f2, f3, f4⟩ := HRR.out.ents e he
                            exact ⟨p, q, ks1, ks2, f1, f2, by simp [f3], f4⟩
                          · exact ⟨_, _, x.kids, y.kids, by rw [← HLX.out], rfl, by simp, by rw [← HLX.out]; exact hlp, HALO.out.2.2.2, HSP.out.1.2, HSP.out.2.2⟩
                        bel := hbw2 }
end Go.Proofs.YtabignplhkbcpaaGreatDoor
