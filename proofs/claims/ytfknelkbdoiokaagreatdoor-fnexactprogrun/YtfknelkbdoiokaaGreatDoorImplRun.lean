/-
  The contracts of the program's runner and ProgRun.
-/
import Derived.Test.YtfknelkbdoiokaaGreatDoorImplType
import Derived.Test.YtfknelkbdoiokaaGreatDoorGQ
import Derived.Test.YtfknelkbdoiokaaGreatDoorGB
import Derived.Laws.EntriesVeiled
namespace Go.Proofs.YtfknelkbdoiokaaGreatDoor
open Go.RowKit Go.Shelf

theorem zeroIntV (w : World) : (zeroValue 3).run Tryz.prog w = .ok (.int .i64 0) w := by kernel_rfl
/-- The map at block bm tells of names what was told. -/
def NumMap (bm : Nat) (ss : List ByteArray) (vs : List Int) (w : World) : Prop := MapS w bm (tellF (fun v => .int .i64 v) 0 ss vs)
theorem tell_nums (bm : Nat) (F : Value) (ss : List ByteArray) (vs : List Int) : TellM 134 (.agg #[.map (some bm), F]) (NumMap bm ss vs) (outN ss vs) where
  n := enters_of Tryz.func134 (by kernel_rfl) rfl
  keep := by
    intro w w' h2 hb
    exact MapS.stay h2 (hb.block _ (MapS.lt h2))
  call := by
    intro s w h2
    have hb0 : Below w.heap.size w (w.alloc (.cells #[.map (some bm), F] 150)) := (Below.refl _ w).alloc (Nat.le_refl _) _
    have hlk := mapS_lookup (MapS.stay h2 (hb0.block _ (MapS.lt h2))) Tryz.underlying147 Tryz.underlying9 zeroIntV s
    have HO := Lib.hid (show outN ss vs s = .tuple #[((tellF (fun v => Value.int .i64 v) 0 ss vs s).getD (.int .i64 0)), .bool (tellF (fun v => Value.int .i64 v) 0 ss vs s).isSome] by
      unfold outN tellN tellF
      cases lastOf ss s <;> rfl)
    generalize tellF (fun v => Value.int .i64 v) 0 ss vs s = F at *
    clear h2
    go_enter Tryz.func134, Tryz.ntmps134
    go_wp2_with fail
    go_ret2
    exact ⟨by rw [HO.out]; rfl, hb0⟩
/-- The box at g holds a list of numbers of its own, from block B on. -/
def LstI (B g : Nat) (zs : List Int) (w : World) : Prop := ∃ v, Boxed w g 27 v ∧ w.ownsRow B 3 1 v zs.length (zs.map intV)
set_option maxRecDepth 100000 in
set_option maxHeartbeats 1000000 in
theorem say_any (B g : Nat) (zs : List Int) (z : Int) (w : World) (h : LstI B g zs w) (hB : B ≤ w.heap.size) (hl : zs.length ≤ 10000) :
    Calls Tryz.prog 94 #[.int .i64 z, .pointer (some ⟨g, 0, none⟩)] w fun r w' => (∃ v, r = .returned v) ∧ LstI B g (zs ++ [z]) w' ∧ w.heap.size ≤ w'.heap.size ∧ w'.os = w.os ∧ w'.tape = w.tape ∧ w'.output = w.output ∧ ∀ k, k < B → k ≠ g → w'.heap[k]? = w.heap[k]? := by
  obtain ⟨v, hv, hrow⟩ := h
  obtain ⟨i0, hi, hz0, hz1, hz2⟩ := info_partsA infoInt
  obtain ⟨A, c, hvs, hc⟩ := own_slice hrow
  subst hvs
  have hcell := hv.cell
  have hfro := hv.frozen
  have hgw := hv.lt
  go_enter Tryz.func94, Tryz.ntmps94
  go_wp2_with (at_builtin; refine wpList_append_own_at _ rfl _ _ 27 rfl B 3 i0 (.int .i64 0) 1 8 Tryz.underlying27 hi hz0 hz1 hz2 rfl (by decide) _ _ _ rfl (hrow.alloc _) ⟨w.heap.size, 0, none⟩ 1 1 [.int .i64 z] rfl rfl (fun j u hj => (by match j, hj with | 0, hj => (simp at hj; subst hj; exact cell_made4 w _ _ 0 _ rfl) | j + 1, hj => simp at hj)) (by simp [Value.oneCell']) (by unfold maxLen; omega) (by omega) (by simp; omega) ?_; intro v' w1 hown' hgrow _ hat; obtain ⟨g', cap', rfl⟩ := ownsRow_succ hown'; have hv1 := (hv.alloc (.cells #[.int .i64 z] 3)).kept hgrow (hv.not_row (by decide) hrow); have hc1 := hv1.cell; have hf1 := hv1.frozen)
  go_end0
  have hgrow2 : (w.alloc (.cells #[.int .i64 z] 3)).grownBy w1 (Value.slice A zs.length c).ownBlock := hgrow
  have hz1' := hgrow2.size
  rw [World.size_alloc] at hz1'
  have hlow : ∀ k, k < B → (Value.slice A zs.length c).ownBlock ≠ some k := by
    intro k hk e
    rcases hrow.2 with ⟨hn, _⟩ | ⟨g2, cap, cur, hv2, hb2, _⟩
    · rw [hn] at e; simp [Value.ownBlock] at e
    · rw [hv2] at e; simp [Value.ownBlock] at e; omega
  refine ⟨⟨_, rfl⟩, ⟨_, hv1.set _, ?_⟩, by simp; omega, hgrow2.os, hgrow2.tape, hgrow2.output, fun k hk hne => ?_⟩
  · rw [List.map_append, List.length_append]
    exact hown'.kept (grownBy_setCell' w1 g _) (.inr (hv1.not_row (by decide) hown').symm)
  · exact (Below.heap_setCell _ _ _ k hne).trans ((hgrow2.block k (by simp; omega) (fun e => hlow k hk e.symm)).trans (Below.heap_alloc _ _ _ (by omega)))
/-- How things stand while a program runs: the names that were told, and what was said. -/
structure RunS (X : World) (Bs bm base : Nat) (ss : List ByteArray) (vs out : List Int) (W : World) : Prop where
  m : NumMap bm ss vs W
  s : LstI base Bs out W
  z : base ≤ W.heap.size
  b : ∀ k, k < base → k ≠ Bs → k ≠ bm → W.heap[k]? = X.heap[k]?
  os : W.os = X.os
  tape : W.tape = X.tape
  output : W.output = X.output
theorem LstI.below {B g : Nat} {zs : List Int} {w w' : World} (h : LstI B g zs w) (hb : Below w.heap.size w w') : LstI B g zs w' := by
  obtain ⟨v, h1, h2⟩ := h
  exact ⟨v, (hb.block g h1.lt).trans h1, own_below h2 hb⟩
theorem RunS.below {X : World} {Bs bm base : Nat} {ss : List ByteArray} {vs out : List Int} {W W' : World} (h : RunS X Bs bm base ss vs out W) (hb : Below W.heap.size W W') : RunS X Bs bm base ss vs out W' :=
  ⟨MapS.stay h.m (hb.block _ (MapS.lt h.m)), h.s.below hb, Nat.le_trans h.z hb.size, fun k h1 h2 h3 => (hb.block k (by have := h.z; omega)).trans (h.b k h1 h2 h3), hb.os.trans h.os, hb.tape.trans h.tape, hb.output.trans h.output⟩
theorem RunS.tell {X : World} {Bs bm base : Nat} {ss : List ByteArray} {vs out : List Int} {W : World} (h : RunS X Bs bm base ss vs out W) (hne : Bs ≠ bm) (hbm : bm < base) (hsv : ss.length = vs.length) (n : ByteArray) (v : Int) (o : Obj) (hM : MapS { W with heap := W.heap.setIfInBounds bm o } bm (fun t => if t = n then some (.int .i64 v) else tellF (fun v => .int .i64 v) 0 ss vs t)) :
    RunS X Bs bm base (ss ++ [n]) (vs ++ [v]) out { W with heap := W.heap.setIfInBounds bm o } := by
  have hk : ∀ k, k ≠ bm → (W.heap.setIfInBounds bm o)[k]? = W.heap[k]? := fun k hk => by rw [Array.getElem?_setIfInBounds_ne (by omega)]
  have hg : W.grownBy { W with heap := W.heap.setIfInBounds bm o } (some bm) := ⟨rfl, rfl, rfl, by simp, fun k _ h2 => hk k (fun e => h2 (by rw [e]))⟩
  refine ⟨?_, ?_, by simpa using h.z, fun k h1 h2 h3 => (hk k h3).trans (h.b k h1 h2 h3), h.os, h.tape, h.output⟩
  · unfold NumMap
    rw [tellF_snoc _ _ _ _ hsv]
    exact hM
  · obtain ⟨u, h1, h2⟩ := h.s
    refine ⟨u, (hk Bs hne).trans h1, h2.kept hg ?_⟩
    rcases h2.2 with ⟨hn, _⟩ | ⟨g2, cap, cur, hv2, hb2, _⟩
    · exact .inl (by rw [hn]; rfl)
    · exact .inr (by rw [hv2]; simp [Value.ownBlock]; omega)
theorem RunS.said {X : World} {Bs bm base : Nat} {ss : List ByteArray} {vs out out' : List Int} {W W' : World} (h : RunS X Bs bm base ss vs out W) (hne : Bs ≠ bm) (hbm : bm < base) (hL : LstI base Bs out' W') (hz : W.heap.size ≤ W'.heap.size) (ho : W'.os = W.os) (ht : W'.tape = W.tape) (hp : W'.output = W.output) (hk : ∀ k, k < base → k ≠ Bs → W'.heap[k]? = W.heap[k]?) : RunS X Bs bm base ss vs out' W' :=
  ⟨MapS.stay h.m (hk bm hbm (fun e => hne e.symm)), hL, Nat.le_trans h.z hz, fun k h1 h2 h3 => (hk k h1 h2).trans (h.b k h1 h2 h3), ho.trans h.os, ht.trans h.tape, hp.trans h.output⟩
def RunAns (X : World) (Bs bm base : Nat) (ss : List ByteArray) (vs out : List Int) (d : De) (r : Ending) (w' : World) : Prop :=
  (saysD ss vs d = none ∧ r = .returned (.bool false) ∧ RunS X Bs bm base ss vs out w') ∨ ∃ ns, saysD ss vs d = some ns ∧ r = .returned (.bool true) ∧ RunS X Bs bm base (toldS ss d) (toldI ss vs d) (out ++ ns) w'
set_option linter.unusedVariables false in
set_option linter.unusedSimpArgs false in
set_option maxRecDepth 100000 in
set_option maxHeartbeats 8000000 in
theorem do_any (X : World) (Bs bm base : Nat) (ss : List ByteArray) (vs out : List Int) (d : De) (w : World) (hS : RunS X Bs bm base ss vs out w) (hne : Bs ≠ bm) (hbm : bm < base) (hbs : Bs < base) (hsv : ss.length = vs.length) (hd : d.fine = true) (hout : out.length ≤ 9000) :
    Calls Tryz.prog 95 #[.agg #[.map (some bm), .func (.func 94) #[] #[.pointer (some ⟨Bs, 0, none⟩)]], deV d] w (RunAns X Bs bm base ss vs out d) := by
  have HTM := Lib.hid (tell_nums bm (.func (.func 94) #[] #[.pointer (some ⟨Bs, 0, none⟩)]) ss vs)
  have HSAY := Lib.hid (fun (z : Int) (W : World) (h : RunS X Bs bm base ss vs out W) => say_any base Bs out z W h.s h.z (by omega))
  unfold RunAns
  cases d with
  | noD =>
    rw [show deV .noD = .iface 168 (.agg #[]) from rfl]
    have q1 := as_no_let
    have q2 := as_no_say
    have q3 := as_no_when
    have hb0 : Below w.heap.size w (w.alloc (.cells #[.map (some bm), .func (.func 94) #[] #[.pointer (some ⟨Bs, 0, none⟩)]] 150)) := (Below.refl _ w).alloc (Nat.le_refl _) _
    have HR := Lib.hid (hS.below hb0)
    clear hS
    go_enter Tryz.func95, Tryz.ntmps95
    go_wp2_with fail
    go_ret
    exact .inr ⟨[], rfl, rfl, by simpa [toldS, toldI] using HR.out⟩
  | letD n t p =>
    rw [show deV (.letD n t p) = .iface 143 (.agg #[.string n, .string t, partV p]) from rfl]
    have q1 := as_let_let
    simp only [De.fine, Bool.and_eq_true] at hd
    obtain ⟨m1, n1, k1⟩ := meth_comesTo p
    obtain ⟨W0, hW0⟩ : ∃ W0, W0 = (w.alloc (.cells #[.map (some bm), .func (.func 94) #[] #[.pointer (some ⟨Bs, 0, none⟩)]] 150)).alloc (.cells #[.string n, .string t, partV p] 143) := ⟨_, rfl⟩
    have hb0 : Below w.heap.size w W0 := by rw [hW0]; exact ((Below.refl _ w).alloc (Nat.le_refl _) _).alloc (by simp) _
    have hs0 : w.heap.size + 1 < W0.heap.size := by rw [hW0]; simp
    have BR := Lib.hid (show BlkT W0 w.heap.size #[.map (some bm), .func (.func 94) #[] #[.pointer (some ⟨Bs, 0, none⟩)]] 150 by rw [hW0]; exact (blkT_new w _ _).stay (Below.heap_alloc _ _ _ (by simp)))
    have BL := Lib.hid (show BlkT W0 (w.heap.size + 1) #[.string n, .string t, partV p] 143 by
      rw [hW0]
      have := blkT_new (w.alloc (.cells #[.map (some bm), .func (.func 94) #[] #[.pointer (some ⟨Bs, 0, none⟩)]] 150)) #[.string n, .string t, partV p] 143
      rwa [World.size_alloc] at this)
    have HR := Lib.hid (hS.below hb0)
    have HA := Lib.hid (comesToG_any HTM.out p (ok_fine hd.2.2) W0 HR.out.m)
    have HSD := Lib.hid (show saysD ss vs (.letD n t p) = (p.of ss vs).map fun _ => [] from rfl)
    have HTI := Lib.hid (show toldI ss vs (.letD n t p) = vs ++ [(p.of ss vs).getD 0] from rfl)
    rw [partV_at p] at hW0 BL ⊢
    generalize ptT p = t1 at *
    generalize ptU p = u1 at *
    generalize fComesTo p = f1 at *
    unfold Comes at HA
    generalize p.of ss vs = R at *
    clear hS hb0 HSAY
    go_enter Tryz.func95, Tryz.ntmps95
    go_wp2_with fail
    rw [← hW0]
    clear hW0
    refine HA.out.mono ?_
    rintro r w1 ⟨rfl, hb1⟩
    have HR1 := Lib.hid (HR.out.below hb1)
    cases R with
    | none =>
      simp only [Option.getD_none, Option.isSome_none]
      go_wp2_with fail
      go_ret
      exact .inl ⟨HSD.out, rfl, HR1.out⟩
    | some v =>
      simp only [Option.getD_some, Option.isSome_some]
      have e0 := (BR.out.below hb1).cell 0
      have e1 := (BL.out.below hb1).cell 0
      simp only [List.getElem?_toArray, List.getElem?_cons_zero, List.getElem?_cons_succ] at e0 e1
      obtain ⟨o, hrun, hMS⟩ := mapS_update HR1.out.m Tryz.underlying147 Tryz.underlying9 n (.int .i64 v)
      have HMS := Lib.hid hMS
      clear hMS
      go_wp2_with fail
      go_ret
      exact .inr ⟨[], HSD.out, rfl, by
        have h := HR1.out.tell hne hbm hsv n v o HMS.out
        rw [List.append_nil, HTI.out]
        exact h⟩
  | sayD p =>
    rw [show deV (.sayD p) = .iface 170 (.agg #[partV p]) from rfl]
    have q1 := as_say_let
    have q2 := as_say_say
    obtain ⟨m1, n1, k1⟩ := meth_comesTo p
    obtain ⟨W0, hW0⟩ : ∃ W0, W0 = (w.alloc (.cells #[.map (some bm), .func (.func 94) #[] #[.pointer (some ⟨Bs, 0, none⟩)]] 150)).alloc (.cells #[partV p] 170) := ⟨_, rfl⟩
    have hb0 : Below w.heap.size w W0 := by rw [hW0]; exact ((Below.refl _ w).alloc (Nat.le_refl _) _).alloc (by simp) _
    have BR := Lib.hid (show BlkT W0 w.heap.size #[.map (some bm), .func (.func 94) #[] #[.pointer (some ⟨Bs, 0, none⟩)]] 150 by rw [hW0]; exact (blkT_new w _ _).stay (Below.heap_alloc _ _ _ (by simp)))
    have HR := Lib.hid (hS.below hb0)
    have HA := Lib.hid (comesToG_any HTM.out p (ok_fine hd) W0 HR.out.m)
    have HSD := Lib.hid (show saysD ss vs (.sayD p) = (p.of ss vs).map fun n => [n] from rfl)
    rw [partV_at p] at hW0 ⊢
    generalize ptT p = t1 at *
    generalize ptU p = u1 at *
    generalize fComesTo p = f1 at *
    unfold Comes at HA
    generalize p.of ss vs = R at *
    clear hS hb0
    go_enter Tryz.func95, Tryz.ntmps95
    go_wp2_with fail
    rw [← hW0]
    clear hW0
    refine HA.out.mono ?_
    rintro r w1 ⟨rfl, hb1⟩
    have HR1 := Lib.hid (HR.out.below hb1)
    cases R with
    | none =>
      simp only [Option.getD_none, Option.isSome_none]
      go_wp2_with fail
      go_ret
      exact .inl ⟨HSD.out, rfl, HR1.out⟩
    | some v =>
      simp only [Option.getD_some, Option.isSome_some]
      have e0 := (BR.out.below hb1).cell 1
      simp only [List.getElem?_toArray, List.getElem?_cons_zero, List.getElem?_cons_succ] at e0
      have HC := Lib.hid (HSAY.out v w1 HR1.out)
      go_wp2_with fail
      refine HC.out.mono ?_
      rintro r w2 ⟨⟨u, rfl⟩, hL, hz, h1, h2, h3, h4⟩
      have HR2 := Lib.hid (HR1.out.said hne hbm hL hz h1 h2 h3 h4)
      clear hL h4
      go_wp2_with fail
      go_ret
      exact .inr ⟨[v], HSD.out, rfl, HR2.out⟩
  | whenD p q =>
    rw [show deV (.whenD p q) = .iface 172 (.agg #[partV p, partV q]) from rfl]
    have q1 := as_when_let
    have q2 := as_when_say
    have q3 := as_when_when
    simp only [De.fine, Bool.and_eq_true] at hd
    obtain ⟨m1, n1, k1⟩ := meth_comesTo p
    obtain ⟨m2, n2, k2⟩ := meth_comesTo q
    obtain ⟨W0, hW0⟩ : ∃ W0, W0 = (w.alloc (.cells #[.map (some bm), .func (.func 94) #[] #[.pointer (some ⟨Bs, 0, none⟩)]] 150)).alloc (.cells #[partV p, partV q] 172) := ⟨_, rfl⟩
    have hb0 : Below w.heap.size w W0 := by rw [hW0]; exact ((Below.refl _ w).alloc (Nat.le_refl _) _).alloc (by simp) _
    have BR := Lib.hid (show BlkT W0 w.heap.size #[.map (some bm), .func (.func 94) #[] #[.pointer (some ⟨Bs, 0, none⟩)]] 150 by rw [hW0]; exact (blkT_new w _ _).stay (Below.heap_alloc _ _ _ (by simp)))
    have BL := Lib.hid (show BlkT W0 (w.heap.size + 1) #[partV p, partV q] 172 by
      rw [hW0]
      have := blkT_new (w.alloc (.cells #[.map (some bm), .func (.func 94) #[] #[.pointer (some ⟨Bs, 0, none⟩)]] 150)) #[partV p, partV q] 172
      rwa [World.size_alloc] at this)
    have HR := Lib.hid (hS.below hb0)
    have HA := Lib.hid (comesToG_any HTM.out p (ok_fine hd.1) W0 HR.out.m)
    have HB := Lib.hid (fun (W : World) (h : RunS X Bs bm base ss vs out W) => comesToG_any HTM.out q (ok_fine hd.2) W h.m)
    have HSD := Lib.hid (show saysD ss vs (.whenD p q) = (p.of ss vs).bind fun a => (q.of ss vs).map fun n => if a = 0 then [] else [n] from rfl)
    rw [partV_at p, partV_at q] at hW0 BL ⊢
    generalize ptT p = t1 at *
    generalize ptU p = u1 at *
    generalize fComesTo p = f1 at *
    generalize ptT q = t2 at *
    generalize ptU q = u2 at *
    generalize fComesTo q = f2 at *
    unfold Comes at HA HB
    generalize p.of ss vs = R1 at *
    generalize q.of ss vs = R2 at *
    clear hS hb0
    go_enter Tryz.func95, Tryz.ntmps95
    go_wp2_with fail
    rw [← hW0]
    clear hW0
    refine HA.out.mono ?_
    rintro r w1 ⟨rfl, hb1⟩
    have HR1 := Lib.hid (HR.out.below hb1)
    have e0 := (BR.out.below hb1).cell 0
    have e1 := (BR.out.below hb1).cell 1
    have l1 := (BL.out.below hb1).cell 1
    simp only [List.getElem?_toArray, List.getElem?_cons_zero, List.getElem?_cons_succ] at e0 e1 l1
    have HBR1 := Lib.hid (BR.out.below hb1)
    go_wp2_with fail
    refine (HB.out w1 HR1.out).mono ?_
    rintro r w2 ⟨rfl, hb2⟩
    have HR2 := Lib.hid (HR1.out.below hb2)
    have y1 := (HBR1.out.below hb2).cell 1
    simp only [List.getElem?_toArray, List.getElem?_cons_zero, List.getElem?_cons_succ] at y1
    clear e0 e1 l1 hb1 hb2
    cases R1 with
    | none =>
      simp only [Option.getD_none, Option.isSome_none]
      go_wp2_with fail
      go_ret
      exact .inl ⟨HSD.out, rfl, HR2.out⟩
    | some a =>
      simp only [Option.getD_some, Option.isSome_some]
      cases R2 with
      | none =>
        simp only [Option.getD_none, Option.isSome_none]
        go_wp2_with fail
        go_ret
        exact .inl ⟨HSD.out, rfl, HR2.out⟩
      | some v =>
        simp only [Option.getD_some, Option.isSome_some]
        by_cases ha : a = 0
        · have q4 : (a != 0) = false := by rw [ha]; rfl
          have HAZ := Lib.hid ha
          clear ha
          go_wp2_with fail
          go_ret
          exact .inr ⟨[], by rw [HSD.out]; show some (if a = 0 then [] else [v]) = _; rw [if_pos HAZ.out], rfl, by rw [List.append_nil]; exact HR2.out⟩
        · have q4 : (a != 0) = true := by simpa using ha
          have HAZ := Lib.hid ha
          have HC := Lib.hid (HSAY.out v w2 HR2.out)
          clear ha
          go_wp2_with fail
          refine HC.out.mono ?_
          rintro r w3 ⟨⟨u, rfl⟩, hL, hz, h1, h2, h3, h4⟩
          have HR3 := Lib.hid (HR2.out.said hne hbm hL hz h1 h2 h3 h4)
          clear hL h4
          go_wp2_with fail
          go_ret
          exact .inr ⟨[v], by rw [HSD.out]; show some (if a = 0 then [] else [v]) = _; rw [if_neg HAZ.out], rfl, HR3.out⟩
theorem saysD_le {ss : List ByteArray} {vs : List Int} {d : De} {ns : List Int} (h : saysD ss vs d = some ns) : ns.length ≤ 1 := by
  cases d with
  | noD => cases h; simp
  | letD n t p => obtain ⟨a, _, rfl⟩ := Option.map_eq_some_iff.1 h; simp
  | sayD p => obtain ⟨a, _, rfl⟩ := Option.map_eq_some_iff.1 h; simp
  | whenD p q =>
    obtain ⟨a, _, h2⟩ := Option.bind_eq_some_iff.1 h
    obtain ⟨b, _, rfl⟩ := Option.map_eq_some_iff.1 h2
    split <;> simp
/-- A list of numbers of its own is handed back, from block B on; none is nil. -/
def GivesI (zs : List Int) (ok : Bool) (w : World) (r : Ending) (w' : World) : Prop := ∃ v, r = .returned (.tuple #[v, .bool ok]) ∧ w'.ownsRow w.heap.size 3 1 v zs.length (zs.map intV) ∧ Below w.heap.size w w'
set_option linter.unusedVariables false in
set_option linter.unusedSimpArgs false in
set_option maxRecDepth 100000 in
set_option maxHeartbeats 8000000 in
theorem progRun_any (xs : List St) (A : Option Addr) (c B : Nat) (a : Addr) (w : World) (hA : LinesU w B A xs) (hB : B ≤ w.heap.size) (hwt : stWts xs ≤ 2 ^ 29) (hL : LaidW w) (hN : LaidN w a) :
    Calls Tryz.prog 45 #[.slice A xs.length c] w (GivesI (runP xs).1 (runP xs).2 w) := by
  have HD := Lib.hid (deedsOf_any xs A c B a w hA hB hwt hL hN)
  have HP := Lib.hid (show (∀ ds, doP xs = some ds → ds.length ≤ 16 ∧ ∀ d ∈ ds, d.fine = true) from fun ds h => by
    have h1 := doP_some h
    have h2 := doP_fine h
    exact ⟨by omega, fun d hd => (h2.2 d hd).1⟩)
  have hmm := @run_makeMap Tryz.prog
  clear hA hL hN
  go_enter Tryz.func45, Tryz.ntmps45
  go_wp2_with fail
  refine HD.out.mono ?_
  rintro r w1 ⟨hb1, (⟨ds, g, hds, rfl, hg, hc⟩ | ⟨hds, rfl⟩)⟩
  case inr =>
    have HT := Lib.hid (show runP xs = ([], false) by unfold runP; rw [hds])
    clear hds HP
    go_wp2_with fail
    go_ret2
    rw [HT.out]
    exact ⟨.slice none 0 0, rfl, ⟨rfl, .inl ⟨rfl, rfl⟩⟩, hb1⟩
  have HT := Lib.hid (show runP xs = runFrom ds [] [] [] by unfold runP; rw [hds])
  obtain ⟨hlen, hfin⟩ := HP.out ds hds
  have HFI := Lib.hid hfin
  have HCE := Lib.hid hc
  have HB1 := Lib.hid hb1
  clear hds HP hc hb1 hfin
  obtain ⟨X, hX⟩ : ∃ X, X = ((w1.alloc (.cells #[.slice none 0 0] 27)).alloc (.map #[] 0)).alloc (.cells #[.map (some (w1.heap.size + 1)), .func (.func 94) #[] #[.pointer (some ⟨w1.heap.size, 0, none⟩)]] 150) := ⟨_, rfl⟩
  have hzX : X.heap.size = w1.heap.size + 3 := by rw [hX]; simp
  have hbX : Below w1.heap.size w1 X := by rw [hX]; exact (((Below.refl _ w1).alloc (Nat.le_refl _) _).alloc (by simp) _).alloc (by simp <;> omega) _
  have HBX := Lib.hid (show BlkT X (w1.heap.size + 2) #[.map (some (w1.heap.size + 1)), .func (.func 94) #[] #[.pointer (some ⟨w1.heap.size, 0, none⟩)]] 150 by
    rw [hX]
    have := blkT_new ((w1.alloc (.cells #[.slice none 0 0] 27)).alloc (.map #[] 0)) #[.map (some (w1.heap.size + 1)), .func (.func 94) #[] #[.pointer (some ⟨w1.heap.size, 0, none⟩)]] 150
    rwa [World.size_alloc, World.size_alloc] at this)
  have HRX := Lib.hid (show RunS X w1.heap.size (w1.heap.size + 1) (w1.heap.size + 3) [] [] [] X from by
    refine ⟨?_, ⟨.slice none 0 0, ?_, ⟨rfl, .inl ⟨rfl, rfl⟩⟩⟩, by omega, fun _ _ _ _ => rfl, rfl, rfl, rfl⟩
    · have h := mapS_new (w1.alloc (.cells #[.slice none 0 0] 27))
      rw [World.size_alloc] at h
      rw [hX]
      exact MapS.stay h (Below.heap_alloc _ _ _ (by simp))
    · rw [hX]
      have h := Boxed.new w1 27 (.slice none 0 0)
      exact (h.alloc _).alloc _)
  clear hzX
  go_wp2_with fail
  rw [← hX]
  clear hX
  have HCX := Lib.hid hbX
  clear hbX
  go_loopw [22] (fun i wr => ∃ (j : Nat) (ss : List ByteArray) (vs out : List Int), j ≤ ds.length ∧ i = .int .i64 j ∧ Hid (ss.length = vs.length ∧ out.length ≤ j) ∧ Hid (runFrom (ds.drop j) ss vs out = runFrom ds [] [] []) ∧ Hid (RunS X w1.heap.size (w1.heap.size + 1) (w1.heap.size + 3) ss vs out wr))
    (fun i _ => ds.length - (intOf i).toNat)
  case atStart => exact ⟨0, [], [], [], Nat.zero_le _, rfl, Lib.hid ⟨rfl, Nat.le_refl _⟩, Lib.hid rfl, HRX⟩
  case round =>
    obtain ⟨j, ss, vs, out, hj, rfl, HLL, HR, HS⟩ := hrel
    obtain ⟨v, hv, hrow⟩ := HS.out.s
    have hcv := hv.cell
    have HFIN := Lib.hid (show Below w.heap.size w wr ∧ wr.ownsRow w.heap.size 3 1 v out.length (out.map intV) from by
      have hz := HS.out.z
      have h1 := HB1.out.size
      constructor
      · exact ⟨HS.out.os.trans (HCX.out.os.trans HB1.out.os), HS.out.tape.trans (HCX.out.tape.trans HB1.out.tape), HS.out.output.trans (HCX.out.output.trans HB1.out.output), by omega, fun k hk => (HS.out.b k (by omega) (by omega) (by omega)).trans ((HCX.out.block k (by omega)).trans (HB1.out.block k hk))⟩
      · refine ⟨hrow.1, ?_⟩
        rcases hrow.2 with h2 | ⟨g2, cap, cur, h2, h3, h4⟩
        · exact .inl h2
        · exact .inr ⟨g2, cap, cur, h2, by omega, h4⟩)
    clear hv hrow
    by_cases hlt : j < ds.length
    · have hx : (j : Int) < (ds.length : Int) := by omega
      have hcj := (World.cell?_of_block (a := ⟨g, j, none⟩) ((HS.out.b g (by omega) (by omega) (by omega)).trans (HCX.out.block g hg))).trans (HCE.out j hlt)
      have hBR := BlkT.stay HBX.out (HS.out.b (w1.heap.size + 2) (by omega) (by omega) (by omega))
      have e0 := hBR.cell 0
      have e1 := hBR.cell 1
      simp only [List.getElem?_toArray, List.getElem?_cons_zero, List.getElem?_cons_succ] at e0 e1
      have hstep := runFrom_at hlt ss vs out
      have hfd := HFI.out _ (List.getElem_mem hlt)
      have hle := fun ns (h : saysD ss vs ds[j] = some ns) => saysD_le h
      have HN2 := Lib.hid (toldI_len HLL.out.1 ds[j])
      generalize ds[j] = d at *
      have HDO := Lib.hid (do_any X w1.heap.size (w1.heap.size + 1) (w1.heap.size + 3) ss vs out d wr HS.out (by omega) (by omega) (by omega) HLL.out.1 hfd (by have := HLL.out.2; omega))
      have HST := Lib.hid hstep
      have HLE := Lib.hid hle
      rw [show deV d = .iface (deT d) (deU d) from rfl] at hcj
      unfold deV at HDO
      unfold RunAns at HDO
      generalize deT d = t1 at *
      generalize deU d = u1 at *
      clear hBR hstep hfd hle hcv
      go_wp2_with fail
      refine HDO.out.mono ?_
      rintro r w2 (⟨hn, rfl, hR2⟩ | ⟨ns, hn, rfl, hR2⟩)
      · have HE := Lib.hid (show runP xs = (out, false) by rw [HT.out, ← HR.out, HST.out, hn])
        have HR2 := Lib.hid hR2
        obtain ⟨v2, hv2, hrow2⟩ := hR2.s
        have hc2 := hv2.cell
        have HF2 := Lib.hid (show Below w.heap.size w w2 ∧ w2.ownsRow w.heap.size 3 1 v2 out.length (out.map intV) from by
          have hz := HR2.out.z
          have h1 := HB1.out.size
          constructor
          · exact ⟨HR2.out.os.trans (HCX.out.os.trans HB1.out.os), HR2.out.tape.trans (HCX.out.tape.trans HB1.out.tape), HR2.out.output.trans (HCX.out.output.trans HB1.out.output), by omega, fun k hk => (HR2.out.b k (by omega) (by omega) (by omega)).trans ((HCX.out.block k (by omega)).trans (HB1.out.block k hk))⟩
          · refine ⟨hrow2.1, ?_⟩
            rcases hrow2.2 with h2 | ⟨g2, cap, cur, h2, h3, h4⟩
            · exact .inl h2
            · exact .inr ⟨g2, cap, cur, h2, by omega, h4⟩)
        clear hn hR2 hv2 hrow2
        go_wp2_with fail
        go_ret2
        rw [HE.out]
        exact ⟨v2, rfl, HF2.out.2, HF2.out.1⟩
      · have HR2 := Lib.hid hR2
        have hl1 := HLE.out ns hn
        have HE := Lib.hid (show runFrom (ds.drop (j + 1)) (toldS ss d) (toldI ss vs d) (out ++ ns) = runFrom ds [] [] [] by rw [← HR.out, HST.out, hn])
        have HL1 := Lib.hid (show (out ++ ns).length ≤ j + 1 by have := HLL.out.2; simp; omega)
        clear hn hR2 hl1
        go_wp2_with fail
        go_roundw
        case rel => exact ⟨j + 1, toldS ss d, toldI ss vs d, out ++ ns, by omega, by go_num, Lib.hid ⟨HN2.out, HL1.out⟩, HE, HR2⟩
        case measure => simp [intOf]; omega
    · have HE := Lib.hid (show runP xs = (out, true) by rw [HT.out, ← HR.out, runFrom_end (by omega)])
      go_wp2_with fail
      go_ret2
      rw [HE.out]
      exact ⟨v, rfl, HFIN.out.2, HFIN.out.1⟩
end Go.Proofs.YtfknelkbdoiokaaGreatDoor
