/-
  SameMath, KidsU, SameAlone, MapKey, RowP, ExprSame: these texts one behind the other, as a claim holds at most 60 files.
-/
import Derived.Test.YtkfnbakhbbcfcaaGreatDoorExMath
import Derived.Test.YtkfnbakhbbcfcaaGreatDoorOwn
import Derived.LaidEql
import Derived.MapKept
import Derived.WideKeyRuns
import Derived.Test.YtkfnbakhbbcfcaaGreatDoorOwnMk
import Derived.Laws.AppendOwn
import Derived.Deep.DeepCutAuto
import Derived.IntWalk
namespace Go.Proofs.YtkfnbakhbbcfcaaGreatDoor

mutual
/-- Whether two are the same. -/
def sameE : Ex → Ex → Bool
  | .mk k n s ks, .mk k' n' s' ks' => decide (k = k') && (decide (n = n') && (decide (s = s') && sameL ks ks'))
def sameL : List Ex → List Ex → Bool
  | [], [] => true
  | x :: xs, y :: ys => sameE x y && sameL xs ys
  | [], _ :: _ => false
  | _ :: _, [] => false
end
theorem sameL_iff_of {xs : List Ex} (h : ∀ x ∈ xs, ∀ y, sameE x y = true ↔ x = y) : ∀ ys, sameL xs ys = true ↔ xs = ys := by
  induction xs with
  | nil => intro ys; cases ys <;> simp [sameL]
  | cons x xs ih =>
    intro ys
    cases ys with
    | nil => simp [sameL]
    | cons y ys => simp [sameL, h x (by simp) y, ih (fun z hz => h z (by simp [hz])) ys]
theorem sameE_iff (a : Ex) : ∀ b, sameE a b = true ↔ a = b := by
  induction a using Ex.ind with
  | h k n s ks ih =>
    intro b
    obtain ⟨k', n', s', ks'⟩ := b
    simp [sameE, sameL_iff_of ih ks']
theorem sameE_eq (a b : Ex) (h : a = b) : sameE a b = true := (sameE_iff a b).2 h
theorem sameE_ne (a b : Ex) (h : a ≠ b) : sameE a b = false := by
  cases hs : sameE a b
  · rfl
  · exact absurd ((sameE_iff a b).1 hs) h
theorem sameE_self (a : Ex) : sameE a a = true := sameE_eq a a rfl
theorem sameE_comm (a b : Ex) : sameE a b = sameE b a := by
  by_cases h : a = b
  · subst h; rfl
  · rw [sameE_ne a b h, sameE_ne b a (fun e => h e.symm)]

/-- The two are the same, but for what their kids are. -/
def Alone2 (x y : Ex) : Prop := x.kind = y.kind ∧ x.n = y.n ∧ x.s = y.s ∧ x.kids.length = y.kids.length
theorem Alone2.kids {x y : Ex} (h : Alone2 x y) (hk : x.kids = y.kids) : x = y := by
  obtain ⟨k, n, s, ks⟩ := x
  obtain ⟨k', n', s', ks'⟩ := y
  obtain ⟨h1, h2, h3, _⟩ := h
  simp only [Ex.kind, Ex.n, Ex.s, Ex.kids] at h1 h2 h3 hk
  rw [h1, h2, h3, hk]
theorem alone_self (x : Ex) : Alone2 x x := ⟨rfl, rfl, rfl, rfl⟩
/-- A pair that is on the stack, or was held and found the same alone, with its lists of kids among those that were taken. -/
def Cov (S : List (List Ex × List Ex)) (wk : List (Ex × Ex)) (x y : Ex) : Prop := (x, y) ∈ wk ∨ (Alone2 x y ∧ (x.kids = [] ∨ (x.kids, y.kids) ∈ S))
structure SInv (a b : Ex) (S : List (List Ex × List Ex)) (wk : List (Ex × Ex)) : Prop where
  top : Cov S wk a b
  kids : ∀ p ∈ S, p.1.length = p.2.length ∧ ∀ j (h : j < p.1.length) (h' : j < p.2.length), Cov S wk p.1[j] p.2[j]
  down : a = b → ∀ p ∈ wk, p.1 = p.2
theorem SInv.start (a b : Ex) : SInv a b [] [(a, b)] :=
  ⟨.inl (by simp), (fun p hp => by cases hp), fun h p hp => by simp at hp; rw [hp]; exact h⟩
theorem SInv.done {a b : Ex} {S : List (List Ex × List Ex)} (h : SInv a b S []) : a = b := by
  have all : ∀ x : Ex, ∀ y, Cov S [] x y → x = y := by
    intro x
    induction x using Ex.ind with
    | h k n s ks ih =>
      intro y hc
      rcases hc with hc | ⟨ha, hc⟩
      · cases hc
      · refine ha.kids ?_
        simp only [Ex.kids] at hc ⊢
        rcases hc with hc | hc
        · have h4 := ha.2.2.2
          simp only [Ex.kids] at h4
          rw [hc] at h4 ⊢
          exact (List.eq_nil_of_length_eq_zero (by simpa [Ex.kids] using h4.symm)).symm
        · obtain ⟨hl, hj⟩ := h.kids _ hc
          refine List.ext_getElem hl (fun j h1 h2 => ?_)
          exact ih _ (List.getElem_mem h1) _ (hj j h1 h2)
  exact all a b h.top
theorem SInv.fail {a b x y : Ex} {S : List (List Ex × List Ex)} {wk : List (Ex × Ex)} (h : SInv a b S (wk ++ [(x, y)])) (hn : ¬ Alone2 x y) : a ≠ b := by
  intro e
  have := h.down e (x, y) (by simp)
  simp only at this
  subst this
  exact hn (alone_self x)
theorem Cov.pop {x y u v : Ex} {S S' : List (List Ex × List Ex)} {wk : List (Ex × Ex)} (h : Cov S (wk ++ [(x, y)]) u v) (hS : ∀ p ∈ S, p ∈ S') (ha : Alone2 x y) (hk : x.kids = [] ∨ (x.kids, y.kids) ∈ S') : Cov S' wk u v := by
  rcases h with h | ⟨h1, h2⟩
  · rcases List.mem_append.1 h with h | h
    · exact .inl h
    · simp at h
      obtain ⟨rfl, rfl⟩ := h
      exact .inr ⟨ha, hk⟩
  · exact .inr ⟨h1, h2.imp id (hS _)⟩
theorem Cov.more {x y : Ex} {S : List (List Ex × List Ex)} {wk more : List (Ex × Ex)} (h : Cov S wk x y) : Cov S (wk ++ more) x y := by
  rcases h with h | h
  · exact .inl (by simp [h])
  · exact .inr h
theorem SInv.skip {a b x y : Ex} {S : List (List Ex × List Ex)} {wk : List (Ex × Ex)} (h : SInv a b S (wk ++ [(x, y)])) (ha : Alone2 x y) (hk : x.kids = [] ∨ (x.kids, y.kids) ∈ S) : SInv a b S wk :=
  ⟨h.top.pop (fun _ h => h) ha hk, fun p hp => ⟨(h.kids p hp).1, fun j h1 h2 => ((h.kids p hp).2 j h1 h2).pop (fun _ h => h) ha hk⟩, fun e p hp => h.down e p (by simp [hp])⟩
theorem SInv.push {a b x y : Ex} {S : List (List Ex × List Ex)} {wk : List (Ex × Ex)} (h : SInv a b S (wk ++ [(x, y)])) (ha : Alone2 x y) : SInv a b ((x.kids, y.kids) :: S) (wk ++ x.kids.zip y.kids) := by
  have hk : x.kids = [] ∨ (x.kids, y.kids) ∈ (x.kids, y.kids) :: S := .inr (by simp)
  have hS : ∀ p ∈ S, p ∈ (x.kids, y.kids) :: S := fun p hp => by simp [hp]
  refine ⟨(h.top.pop hS ha hk).more, fun p hp => ?_, fun e p hp => ?_⟩
  · rcases List.mem_cons.1 hp with rfl | hp
    · refine ⟨ha.2.2.2, fun j h1 h2 => .inl (List.mem_append_right _ ?_)⟩
      simp only at h1 h2 ⊢
      exact List.mem_iff_getElem.2 ⟨j, by simp [List.length_zip]; omega, by simp⟩
    · exact ⟨(h.kids p hp).1, fun j h1 h2 => (((h.kids p hp).2 j h1 h2).pop hS ha hk).more⟩
  · rcases List.mem_append.1 hp with hp | hp
    · exact h.down e p (by simp [hp])
    · have hxy := h.down e (x, y) (by simp)
      simp only at hxy
      subst hxy
      obtain ⟨j, hj, rfl⟩ := List.mem_iff_getElem.1 hp
      simp
/-- How many parts are on the stack. -/
def stackN (wk : List (Ex × Ex)) : Nat := (wk.map (fun p => p.1.nodes)).sum
theorem stackN_append (xs ys : List (Ex × Ex)) : stackN (xs ++ ys) = stackN xs + stackN ys := by simp [stackN]
theorem stackN_one (p : Ex × Ex) : stackN [p] = p.1.nodes := by simp [stackN]
theorem nodes_pos (e : Ex) : 1 ≤ e.nodes := by obtain ⟨k, n, s, ks⟩ := e; simp only [Ex.nodes]; omega
theorem nodes_kids (e : Ex) : e.nodes = 1 + Ex.nodess e.kids := by obtain ⟨k, n, s, ks⟩ := e; rfl
theorem stackN_zip (xs : List Ex) : ∀ ys : List Ex, xs.length = ys.length → stackN (xs.zip ys) = Ex.nodess xs := by
  induction xs with
  | nil => intro ys _; rfl
  | cons x xs ih =>
    intro ys h
    cases ys with
    | nil => simp at h
    | cons y ys =>
      have h1 := ih ys (by simpa using h)
      simp only [stackN, List.zip_cons_cons, List.map_cons, List.sum_cons, Ex.nodess] at h1 ⊢
      rw [h1]
theorem stackN_length (wk : List (Ex × Ex)) : wk.length ≤ stackN wk := by
  induction wk with
  | nil => simp
  | cons p wk ih =>
    have := nodes_pos p.1
    simp only [stackN, List.map_cons, List.sum_cons, List.length_cons] at ih ⊢
    omega
end Go.Proofs.YtkfnbakhbbcfcaaGreatDoor

namespace Go.Proofs.YtkfnbakhbbcfcaaGreatDoor
open Go.RowKit

/-- The slice at this address holds these kids, each with its own kids, all in plain blocks below B. -/
inductive KidsU (w : World) (B : Nat) : Option Addr → List Ex → Prop
  | nil {A : Option Addr} : KidsU w B A []
  | mk {g off : Nat} {ks : List Ex} (D : Nat → Option Addr) (c : Nat → Nat) (hg : g < B) (hb : ∃ cur, Blk w g cur)
      (h0 : ∀ j (h : j < ks.length), KidC w g (off + j * 4) ks[j] (D j) (c j))
      (hk : ∀ j (h : j < ks.length), KidsU w B (D j) ks[j].kids) : KidsU w B (some ⟨g, off, none⟩) ks
theorem KidsU.at_ {w : World} {B : Nat} {A : Option Addr} {ks : List Ex} (h : KidsU w B A ks) {j : Nat} (hj : j < ks.length) :
    ∃ g off D c, A = some ⟨g, off, none⟩ ∧ g < B ∧ (∃ cur, Blk w g cur) ∧ KidC w g (off + j * 4) ks[j] D c ∧ KidsU w B D ks[j].kids := by
  cases h with
  | nil => simp at hj
  | @mk g off _ D c hg hb h0 hk => exact ⟨g, off, D j, c j, rfl, hg, hb, h0 j hj, hk j hj⟩
theorem KidsU.of {w : World} {B : Nat} {g off : Nat} {ks : List Ex} (hg : g < B) (hb : ∃ cur, Blk w g cur) (h : ∀ j (hj : j < ks.length), ∃ D c, KidC w g (off + j * 4) ks[j] D c ∧ KidsU w B D ks[j].kids) : KidsU w B (some ⟨g, off, none⟩) ks := by
  have h' : ∀ j, ∃ x : Option Addr × Nat, ∀ hj : j < ks.length, KidC w g (off + j * 4) ks[j] x.1 x.2 ∧ KidsU w B x.1 ks[j].kids := by
    intro j
    by_cases hj : j < ks.length
    · obtain ⟨D, c, hx⟩ := h j hj
      exact ⟨(D, c), fun _ => hx⟩
    · exact ⟨(none, 0), fun h => absurd h hj⟩
  exact .mk (fun j => (Classical.choose (h' j)).1) (fun j => (Classical.choose (h' j)).2) hg hb (fun j hj => (Classical.choose_spec (h' j) hj).1) (fun j hj => (Classical.choose_spec (h' j) hj).2)
theorem KidsU.kids {w : World} {B : Nat} {A : Option Addr} {ks : List Ex} (h : KidsU w B A ks) : KidsAt w B A ks := by
  induction h with
  | nil => exact .nil
  | mk D c hg _ h0 _ ih => exact .mk D c hg (fun j h => (h0 j h).c0) (fun j h => (h0 j h).c1) (fun j h => (h0 j h).c2) (fun j h => (h0 j h).c3) (fun j h => (h0 j h).hc) ih
theorem KidsU.keep {w w' : World} {B : Nat} {A : Option Addr} {ks : List Ex} (h : KidsU w B A ks) (hb : Below B w w') : KidsU w' B A ks := by
  induction h with
  | nil => exact .nil
  | @mk g off ks D c hg hB h0 _ ih =>
    obtain ⟨cur, hcur⟩ := hB
    exact .mk D c hg ⟨cur, (hb.block g hg).trans hcur⟩ (fun j h => (h0 j h).keep (fun i _ _ => hb.cell (p := ⟨g, i, none⟩) hg)) ih
theorem KidsU.wide {w : World} {B B' : Nat} {A : Option Addr} {ks : List Ex} (h : KidsU w B A ks) (hb : B ≤ B') : KidsU w B' A ks := by
  induction h with
  | nil => exact .nil
  | mk D c hg hB h0 _ ih => exact .mk D c (Nat.lt_of_lt_of_le hg hb) hB h0 ih
theorem KidsU.lt {w : World} {B : Nat} {A : Option Addr} {ks : List Ex} (h : KidsU w B A ks) (hk : 0 < ks.length) : ∃ g off, A = some ⟨g, off, none⟩ ∧ g < B ∧ ∃ cur, Blk w g cur := by
  obtain ⟨g, off, D, c, e, hg, hb, _⟩ := h.at_ hk
  exact ⟨g, off, e, hg, hb⟩
/-- What lies there is one. -/
theorem KidsU.one {w : World} {B : Nat} {A : Option Addr} {ks : List Ex} (h : KidsU w B A ks) : ∀ {ks' : List Ex}, KidsU w B A ks' → ks.length = ks'.length → ks = ks' := by
  induction h with
  | nil => intro ks' _ hl; exact (List.eq_nil_of_length_eq_zero (by simpa using hl.symm)).symm
  | @mk g off ks D c hg hB h0 hk ih =>
    intro ks' h' hl
    refine List.ext_getElem hl (fun j h1 h2 => ?_)
    obtain ⟨g', off', D', c', e, _, _, q, r⟩ := h'.at_ h2
    injection e with e
    injection e with e1 e2
    subst e1 e2
    have q0 := h0 j h1
    have e0 := q0.c0.symm.trans q.c0
    have e1 := q0.c1.symm.trans q.c1
    have e2 := q0.c2.symm.trans q.c2
    have e3 := q0.c3.symm.trans q.c3
    simp only [Option.some.injEq, Value.int.injEq, true_and, Value.string.injEq, Value.slice.injEq] at e0 e1 e2 e3
    obtain ⟨e3, e4, _⟩ := e3
    rw [← e3] at r
    have e5 := ih j h1 r e4
    exact Alone2.kids ⟨e0, e1, e2, e4⟩ e5
theorem own_kidsU {w : World} (e : Ex) : ∀ lo hi A B, OwnE w e lo hi A → hi ≤ B → KidsU w B A e.kids := by
  induction e using Ex.ind with
  | h k n s ks ih =>
    intro lo hi A B h hB
    rw [OwnE] at h
    show KidsU w B A ks
    rcases h with h | ⟨g, lo', hi', e, h1, h2, h3, h4, h5, h6, h7⟩
    · rw [h.1]; exact .nil
    · subst e
      have each : ∀ (es : List Ex) (off lo : Nat), (∀ e ∈ es, e ∈ ks) → OwnL w es g off lo hi' → ∀ j (hj : j < es.length), ∃ D c, KidC w g (off + j * 4) es[j] D c ∧ KidsU w B D es[j].kids := by
        intro es
        induction es with
        | nil => intro off lo _ _ j hj; simp at hj
        | cons x xs ih2 =>
          intro off lo hm hl j hj
          rw [OwnL] at hl
          obtain ⟨D, c, mid, q1, q2, q3⟩ := hl
          have l3 := ownL_le w xs _ _ _ _ q3
          cases j with
          | zero => exact ⟨D, c, by simpa using q1, ih x (hm x (by simp)) lo mid D B q2 (by omega)⟩
          | succ j =>
            obtain ⟨D', c', hx⟩ := ih2 (off + 4) mid (fun e he => hm e (by simp [he])) q3 j (by simpa using hj)
            rw [show off + 4 + j * 4 = off + (j + 1) * 4 by omega] at hx
            exact ⟨D', c', hx⟩
      have := each ks 0 lo' (fun _ h => h) h7
      exact KidsU.of (by omega) h6 this
end Go.Proofs.YtkfnbakhbbcfcaaGreatDoor

namespace Go.Proofs.YtkfnbakhbbcfcaaGreatDoor
open Go.RowKit

def aloneB (k n : Int) (s : ByteArray) (l : Nat) (k' n' : Int) (s' : ByteArray) (l' : Nat) : Bool := decide (k = k') && (decide (n = n') && (decide (s = s') && decide (l = l')))
theorem aloneB_iff (x y : Ex) : aloneB x.kind x.n x.s x.kids.length y.kind y.n y.s y.kids.length = true ↔ Alone2 x y := by
  simp only [aloneB, Alone2, Bool.and_eq_true, decide_eq_true_eq]
theorem lst_eq {s t : ByteArray} (h : s = t) : (s.toList == t.toList) = true := by rw [h]; simp
theorem lst_ne {s t : ByteArray} (h : ¬ s = t) : (s.toList == t.toList) = false := by
  cases hb : s.toList == t.toList
  · rfl
  · exfalso
    apply h
    have h1 : s.toList = t.toList := by simpa using hb
    rw [ByteArray.toList_eq, ByteArray.toList_eq] at h1
    exact ByteArray.ext (Array.toList_inj.1 h1)

set_option maxRecDepth 100000 in
set_option maxHeartbeats 2000000 in
theorem sameAlone_any (k n : Int) (s : ByteArray) (A : Option Addr) (l c : Nat) (k' n' : Int) (s' : ByteArray) (A' : Option Addr) (l' c' : Nat) (w : World) :
    Calls Tryz.prog 79 #[.agg #[.int .i64 k, .int .i64 n, .string s, .slice A l c], .agg #[.int .i64 k', .int .i64 n', .string s', .slice A' l' c']] w fun e w' => e = .returned (.bool (aloneB k n s l k' n' s' l')) ∧ Below w.heap.size w w' := by
  have hb0 : Below w.heap.size w ((w.alloc (.cells #[.int .i64 k, .int .i64 n, .string s, .slice A l c] 25)).alloc (.cells #[.int .i64 k', .int .i64 n', .string s', .slice A' l' c'] 25)) := ((Below.refl _ w).alloc (Nat.le_refl _) _).alloc (by simp) _
  by_cases h1 : k = k'
  · subst h1
    have q1 : (k == k) = true := by simp
    by_cases h2 : n = n'
    · subst h2
      have q2 : (n == n) = true := by simp
      by_cases h3 : s = s'
      · subst h3
        have q3 : (s.toList == s.toList) = true := by simp
        by_cases h4 : l = l'
        · subst h4
          have q4 : ((l : Int) == (l : Int)) = true := by simp
          go_enter Tryz.func79, Tryz.ntmps79
          go_wp2_with fail
          go_ret
          exact ⟨ret_bool (by simp [aloneB]), hb0⟩
        · have q4 : ((l : Int) == (l' : Int)) = false := by rw [beq_eq_false_iff_ne]; omega
          have H4 := Lib.hid h4
          clear h4
          go_enter Tryz.func79, Tryz.ntmps79
          go_wp2_with fail
          go_ret
          exact ⟨ret_bool (by simp [aloneB, H4.out]), hb0⟩
      · have q3 := lst_ne h3
        have H3 := Lib.hid h3
        clear h3
        go_enter Tryz.func79, Tryz.ntmps79
        go_wp2_with fail
        go_ret
        exact ⟨ret_bool (by simp [aloneB, H3.out]), hb0⟩
    · have q2 : (n == n') = false := by rw [beq_eq_false_iff_ne]; exact h2
      have H2 := Lib.hid h2
      clear h2
      go_enter Tryz.func79, Tryz.ntmps79
      go_wp2_with fail
      go_ret
      exact ⟨ret_bool (by simp [aloneB, H2.out]), hb0⟩
  · have q1 : (k == k') = false := by rw [beq_eq_false_iff_ne]; exact h1
    have H1 := Lib.hid h1
    clear h1
    go_enter Tryz.func79, Tryz.ntmps79
    go_wp2_with fail
    go_ret
    exact ⟨ret_bool (by simp [aloneB, H1.out]), hb0⟩
theorem cell_new1 (w : World) (cs : Array Value) (t : TypeId) (j : Nat) (v : Value) (h : cs[j]? = some v) : (w.alloc (.cells cs t)).cell? ⟨w.heap.size, j, none⟩ = some v := by
  have h0 : (w.alloc (.cells cs t)).heap[w.heap.size]? = some (.cells cs t) := World.alloc_heap_new w _
  simp only [World.cell?, h0]
  exact h
theorem cell_new2a (w : World) (cs ds : Array Value) (t u : TypeId) (j : Nat) (v : Value) (h : cs[j]? = some v) : ((w.alloc (.cells cs t)).alloc (.cells ds u)).cell? ⟨w.heap.size, j, none⟩ = some v :=
  (World.cell?_of_block (a := ⟨w.heap.size, j, none⟩) (Below.heap_alloc _ _ _ (by simp))).trans (cell_new1 w cs t j v h)
theorem cell_new2b (w : World) (cs ds : Array Value) (t u : TypeId) (j : Nat) (v : Value) (h : ds[j]? = some v) : ((w.alloc (.cells cs t)).alloc (.cells ds u)).cell? ⟨w.heap.size + 1, j, none⟩ = some v := by
  have := cell_new1 (w.alloc (.cells cs t)) ds u j v h
  rwa [World.size_alloc] at this
theorem len_ne {xs ys : List Ex} (h : ¬ xs.length = ys.length) : xs ≠ ys := fun e => h (by rw [e])
set_option maxRecDepth 100000 in
set_option maxHeartbeats 4000000 in
theorem specSame_any (e : Ex) : ∀ (e' : Ex) (A A' : Option Addr) (c c' B : Nat) (w : World), KidsAt w B A e.kids → KidsAt w B A' e'.kids → e.kids.length ≤ c → e'.kids.length ≤ c' → B ≤ w.heap.size → e.wt ≤ 2 ^ 40 →
    Calls Tryz.prog 31 #[.agg #[.int .i64 e.kind, .int .i64 e.n, .string e.s, .slice A e.kids.length c], .agg #[.int .i64 e'.kind, .int .i64 e'.n, .string e'.s, .slice A' e'.kids.length c']] w fun r w' => r = .returned (.bool (sameE e e')) ∧ Below w.heap.size w w' := by
  induction e using Ex.ind with
  | h k n s ks ih =>
    intro e' A A' c c' B w hA hA' hc hc' hB hw
    obtain ⟨k', n', s', ks'⟩ := e'
    simp only [Ex.kind, Ex.n, Ex.s, Ex.kids, Ex.wt] at hA hA' hc hc' hw ⊢
    have hlw := Ex.wts_length ks
    have hl : ks.length ≤ 2 ^ 40 := by omega
    have HA := Lib.hid hA
    have HA' := Lib.hid hA'
    have HI := Lib.hid ih
    have HWT := Lib.hid (show Ex.wts ks ≤ 2 ^ 40 by omega)
    clear hA hA' ih hw hlw
    have hb0 : Below w.heap.size w ((w.alloc (.cells #[.int .i64 k, .int .i64 n, .string s, .slice A ks.length c] 25)).alloc (.cells #[.int .i64 k', .int .i64 n', .string s', .slice A' ks'.length c'] 25)) := ((Below.refl _ w).alloc (Nat.le_refl _) _).alloc (by simp) _
    by_cases h1 : k = k'
    case neg =>
      have q1 : (k != k') = true := by simp [h1]
      have h1N := Lib.hid h1
      clear h1
      go_enter Tryz.func31, Tryz.ntmps31
      go_wp2_with fail
      go_ret
      exact ⟨ret_bool (by rw [sameE_ne _ _ (fun e => by injection e with e1 e2 e3 e4; exact h1N.out e1)]), hb0⟩

    subst h1
    have q1 : (k != k) = false := by simp
    by_cases h2 : n = n'
    case neg =>
      have q2 : (n != n') = true := by simp [h2]
      have h2N := Lib.hid h2
      clear h2
      go_enter Tryz.func31, Tryz.ntmps31
      go_wp2_with fail
      go_ret
      exact ⟨ret_bool (by rw [sameE_ne _ _ (fun e => by injection e with e1 e2 e3 e4; exact h2N.out e2)]), hb0⟩

    subst h2
    have q2 : (n != n) = false := by simp
    by_cases h3 : s = s'
    case neg =>
      have q3 : (!s.toList == s'.toList) = true := by rw [lst_ne h3]; rfl
      have h3N := Lib.hid h3
      clear h3
      go_enter Tryz.func31, Tryz.ntmps31
      go_wp2_with fail
      go_ret
      exact ⟨ret_bool (by rw [sameE_ne _ _ (fun e => by injection e with e1 e2 e3 e4; exact h3N.out e3)]), hb0⟩

    subst h3
    have q3 : (!s.toList == s.toList) = false := by simp
    by_cases h4 : ks.length = ks'.length
    case neg =>
      have q4 : ((ks.length : Int) != (ks'.length : Int)) = true := by rw [bne_iff_ne]; omega
      have h4N := Lib.hid h4
      clear h4
      go_enter Tryz.func31, Tryz.ntmps31
      go_wp2_with fail
      go_ret
      exact ⟨ret_bool (by rw [sameE_ne _ _ (fun e => by injection e with e1 e2 e3 e4; exact len_ne h4N.out e4)]), hb0⟩

    have q4 : ((ks.length : Int) != (ks'.length : Int)) = false := by rw [bne_eq_false_iff_eq]; omega
    have HL := Lib.hid h4
    have hl1 : ks.length ≤ ks'.length := by omega
    have hl2 : ks'.length ≤ ks.length := by omega
    clear h4
    obtain ⟨W0, hW0⟩ : ∃ W0, W0 = ((w.alloc (.cells #[.int .i64 k, .int .i64 n, .string s, .slice A ks.length c] 25)).alloc (.cells #[.int .i64 k, .int .i64 n, .string s, .slice A' ks'.length c'] 25)) := ⟨_, rfl⟩
    rw [← hW0] at hb0
    have hs0 : w.heap.size + 1 < W0.heap.size := by rw [hW0]; simp
    have a3 : W0.cell? ⟨w.heap.size, 3, none⟩ = some (.slice A ks.length c) := by rw [hW0]; exact cell_new2a w _ _ _ _ 3 _ rfl
    have b3 : W0.cell? ⟨w.heap.size + 1, 3, none⟩ = some (.slice A' ks'.length c') := by rw [hW0]; exact cell_new2b w _ _ _ _ 3 _ rfl
    go_enter Tryz.func31, Tryz.ntmps31
    go_wp2_with fail
    rw [← hW0]
    clear hW0
    go_loopw [5] (fun i wr => ∃ j : Nat, j ≤ ks.length ∧ i = .int .i64 j ∧ ks.take j = ks'.take j ∧ Below W0.heap.size W0 wr) (fun i _ => ks.length - (intOf i).toNat)
    case atStart => exact ⟨0, Nat.zero_le _, rfl, by simp, Below.refl _ _⟩
    case round =>
      obtain ⟨j, hj, rfl, htk, hBw⟩ := hrel
      have HTK := Lib.hid htk
      clear htk
      have hBB := hb0.trans (hBw.mono hb0.size)
      have a3r := (hBw.cell (p := ⟨w.heap.size, 3, none⟩) (by show w.heap.size < _; omega)).trans a3
      have b3r := (hBw.cell (p := ⟨w.heap.size + 1, 3, none⟩) (by show w.heap.size + 1 < _; omega)).trans b3
      clear a3 b3
      by_cases hlt : j < ks.length
      · have hlt' : j < ks'.length := by omega
        obtain ⟨g, off, D, m1, eA, hg, kid⟩ := (HA.out.keep (hBB.mono hB)).at_ hlt
        obtain ⟨g', off', D', m1', eA', hg', kid'⟩ := (HA'.out.keep (hBB.mono hB)).at_ hlt'
        subst eA eA'
        have hkb : ks[j].wt + 1 ≤ Ex.wts ks := Ex.wt_mem (List.getElem_mem _)
        have HC := Lib.hid (fun (V : World) (hV : Below wr.heap.size wr V) => HI.out ks[j] (List.getElem_mem hlt) ks'[j] D D' m1 m1' B V (kid.hk.keep (hV.mono (Nat.le_trans hB hBB.size))) (kid'.hk.keep (hV.mono (Nat.le_trans hB hBB.size))) kid.hc kid'.hc (Nat.le_trans (Nat.le_trans hB hBB.size) hV.size) (by have := HWT.out; omega))
        have HT1 := Lib.hid (List.take_succ_eq_append_getElem hlt)
        have HT2 := Lib.hid (List.take_succ_eq_append_getElem hlt')
        have HG := Lib.hid (show ks = ks' → ks[j] = ks'[j] from fun e => by subst e; rfl)
        generalize ks[j] = x at *
        generalize ks'[j] = y at *
        obtain ⟨xk, xn, xs, xks⟩ := x
        obtain ⟨yk, yn, ys, yks⟩ := y
        obtain ⟨c0, c1, c2, c3, hcc, hkk⟩ := kid
        obtain ⟨b0, b1, b2, b3, hbb, hkk'⟩ := kid'
        simp only [Ex.kind, Ex.n, Ex.s, Ex.kids] at c0 c1 c2 c3 hcc b0 b1 b2 b3 hbb HC
        have hgl : g < wr.heap.size := Nat.lt_of_lt_of_le hg (Nat.le_trans hB hBB.size)
        have hgl' : g' < wr.heap.size := Nat.lt_of_lt_of_le hg' (Nat.le_trans hB hBB.size)
        have hwl : w.heap.size < wr.heap.size := by have := hBw.size; omega
        have hwl' : w.heap.size + 1 < wr.heap.size := by have := hBw.size; omega
        have hx : (j : Int) < (ks.length : Int) := by omega
        have hx' : (j : Int) < (ks'.length : Int) := by omega
        clear hkk hkk' hkb
        obtain ⟨R, hR⟩ : ∃ R, R = sameE (.mk xk xn xs xks) (.mk yk yn ys yks) := ⟨_, rfl⟩
        rw [← hR] at HC
        have HR := Lib.hid hR
        clear hR
        go_wp2_with fail
        go_region_held3 (fun w' => w'.cell? ⟨w.heap.size, 3, none⟩ = some (.slice (some ⟨g, off, none⟩) ks.length c) ∧ w'.cell? ⟨w.heap.size + 1, 3, none⟩ = some (.slice (some ⟨g', off', none⟩) ks'.length c') ∧ w'.cell? ⟨g, off + j * 4, none⟩ = some (.int .i64 xk) ∧ w'.cell? ⟨g, off + j * 4 + 1, none⟩ = some (.int .i64 xn) ∧ w'.cell? ⟨g, off + j * 4 + 2, none⟩ = some (.string xs) ∧ w'.cell? ⟨g, off + j * 4 + 3, none⟩ = some (.slice D xks.length m1) ∧ w'.cell? ⟨g', off' + j * 4, none⟩ = some (.int .i64 yk) ∧ w'.cell? ⟨g', off' + j * 4 + 1, none⟩ = some (.int .i64 yn) ∧ w'.cell? ⟨g', off' + j * 4 + 2, none⟩ = some (.string ys) ∧ w'.cell? ⟨g', off' + j * 4 + 3, none⟩ = some (.slice D' yks.length m1') ∧ Below wr.heap.size wr w')
          (first | exact ⟨a3r, b3r, c0, c1, c2, c3, b0, b1, b2, b3, (Below.refl _ wr).drew⟩ | exact ⟨(hb2.cell (p := ⟨w.heap.size, 3, none⟩) hwl).trans a3r, (hb2.cell (p := ⟨w.heap.size + 1, 3, none⟩) hwl').trans b3r, (hb2.cell (p := ⟨g, off + j * 4, none⟩) hgl).trans c0, (hb2.cell (p := ⟨g, off + j * 4 + 1, none⟩) hgl).trans c1, (hb2.cell (p := ⟨g, off + j * 4 + 2, none⟩) hgl).trans c2, (hb2.cell (p := ⟨g, off + j * 4 + 3, none⟩) hgl).trans c3, (hb2.cell (p := ⟨g', off' + j * 4, none⟩) hgl').trans b0, (hb2.cell (p := ⟨g', off' + j * 4 + 1, none⟩) hgl').trans b1, (hb2.cell (p := ⟨g', off' + j * 4 + 2, none⟩) hgl').trans b2, (hb2.cell (p := ⟨g', off' + j * 4 + 3, none⟩) hgl').trans b3, hb2⟩)
          (first | (go_at_call 31; refine (HC.out _ (Below.refl _ wr).drew).mono ?_; rintro e w2 ⟨rfl, hb2'⟩; have hb2 : Below wr.heap.size wr w2 := (Below.refl _ wr).drew.trans hb2'))
        rename_i hh
        cases R with
        | true =>
          go_wp2_with fail
          go_roundw
          case rel => exact ⟨j + 1, by omega, by go_num, by rw [HT1.out, HT2.out, HTK.out, (sameE_iff _ _).1 HR.out.symm], hBw.trans (hb2.mono hBw.size)⟩
          case measure => simp [intOf]; omega
        | false =>
          go_wp2_with fail
          go_ret
          exact ⟨ret_bool (by rw [sameE_ne _ _ (fun e => by injection e with e1 e2 e3 e4; have h5 := HG.out e4; rw [← sameE_iff, ← HR.out] at h5; cases h5)]), hBB.trans (hb2.mono hBB.size)⟩
      · go_wp2_with fail
        go_ret
        exact ⟨ret_bool (by rw [sameE_eq _ _ (by have h5 := HTK.out; rw [List.take_of_length_le (by omega), List.take_of_length_le (by omega)] at h5; rw [h5])]), hBB⟩
end Go.Proofs.YtkfnbakhbbcfcaaGreatDoor

namespace Go.Proofs.YtkfnbakhbbcfcaaGreatDoor
open Go.RowKit

def kv (p q : Addr) (n : Nat) : Value := .agg #[.pointer (some p), .pointer (some q), .int .i64 (n : Int)]
/-- It lies in a plain block. -/
def PB (w : World) (p : Addr) : Prop := ∃ cur t, w.heap[p.block]? = some (.cells cur t (0, 0))
theorem kvInfo : (Tryz.prog.info? 25).map (·.size) = some 4 := by kernel_rfl
theorem run_sameB {w : World} {p q : Addr} (hp : PB w p) (hq : PB w q) : (sameAddr p q).run Tryz.prog w = .ok (decide (p = q)) w := by
  by_cases h : p = q
  · subst h; rw [run_sameAddr_same]; simp
  · obtain ⟨c1, t1, h1⟩ := hp
    obtain ⟨c2, t2, h2⟩ := hq
    rw [run_sameAddr_other w h h1 h2]; simp [h]
theorem run_ptrEq {w : World} {p q : Addr} (hp : PB w p) (hq : PB w q) (d : Nat) : (Op.equalIn (d + 1) 99 (.pointer (some p)) (.pointer (some q))).run Tryz.prog w = .ok (decide (p = q)) w := by
  obtain ⟨i, hi, hs⟩ := Option.map_eq_some_iff.1 kvInfo
  simp [Op.equalIn, run_underlying Tryz.underlying99, sizeOf, typeInfo, hi, hs, run_sameB hp hq]
theorem run_intEq {w : World} {a b : Int} (d : Nat) : (Op.equalIn (d + 1) 3 (.int .i64 a) (.int .i64 b)).run Tryz.prog w = .ok (decide (a = b)) w := by
  simp [Op.equalIn, run_underlying Tryz.underlying3]
  rw [Bool.eq_iff_iff]; simp
theorem run_part0 (w : World) (p q : Addr) (n : Nat) : (part 99 #[.pointer (some p), .pointer (some q), .int .i64 (n : Int)] 0).run Tryz.prog w = .ok (.pointer (some p)) w := by kernel_rfl
theorem run_part1 (w : World) (p q : Addr) (n : Nat) : (part 99 #[.pointer (some p), .pointer (some q), .int .i64 (n : Int)] 1).run Tryz.prog w = .ok (.pointer (some q)) w := by kernel_rfl
theorem run_part2 (w : World) (p q : Addr) (n : Nat) : (part 3 #[.pointer (some p), .pointer (some q), .int .i64 (n : Int)] 2).run Tryz.prog w = .ok (.int .i64 (n : Int)) w := by kernel_rfl
theorem run_kvEqIn {w : World} {p q p' q' : Addr} {n n' : Nat} (hp : PB w p) (hq : PB w q) (hp' : PB w p') (hq' : PB w q') (d : Nat) :
    (Op.equalIn (d + 2) 101 (kv p q n) (kv p' q' n')).run Tryz.prog w = .ok (decide (p = p') && (decide (q = q') && decide (n = n'))) w := by
  have e1 := run_ptrEq hp hp' d
  have e2 := run_ptrEq hq hq' d
  have e3 := run_intEq (w := w) (a := n) (b := n') d
  unfold kv
  rw [Op.equalIn]
  simp [run_underlying Tryz.underlying101, run_part0, run_part1, run_part2, e1, e2, e3]
  by_cases h1 : p = p'
  · by_cases h2 : q = q'
    · by_cases h3 : n = n'
      · simp [h1, h2, h3]
      · simp [h1, h2, h3, show ¬ ((n : Int) = (n' : Int)) by omega]
    · simp [h1, h2]
  · simp [h1]
theorem run_kvEq {w : World} {p q p' q' : Addr} {n n' : Nat} (hp : PB w p) (hq : PB w q) (hp' : PB w p') (hq' : PB w q') :
    (Op.equal 101 (kv p q n) (kv p' q' n')).run Tryz.prog w = .ok (decide (p = p') && (decide (q = q') && decide (n = n'))) w := by
  unfold Op.equal Op.maxDepth
  exact run_kvEqIn hp hq hp' hq' 9998
/-- An entry as we lay them. -/
def KE (w : World) (e : MapEntry) : Prop := ∃ p q n, e.key = kv p q n ∧ e.val = .bool true ∧ PB w p ∧ PB w q
theorem find_kv {w : World} {p q : Addr} {n : Nat} (hp : PB w p) (hq : PB w q) : ∀ (es : List MapEntry) (i : Nat), (∀ e ∈ es, KE w e) →
    (Instr.findAsking 101 (kv p q n) es i).run Tryz.prog w = .ok none w ∨ ∃ j e, (Instr.findAsking 101 (kv p q n) es i).run Tryz.prog w = .ok (some (j, .bool true)) w ∧ e ∈ es ∧ e.key = kv p q n
  | [], i, _ => .inl (by simp [Instr.findAsking])
  | e :: es, i, hall => by
    obtain ⟨p', q', n', h1, h2, h3, h4⟩ := hall e (by simp)
    have hr := run_kvEq (n := n) (n' := n') hp hq h3 h4
    rw [← h1] at hr
    by_cases hk : p = p' ∧ q = q' ∧ n = n'
    · obtain ⟨rfl, rfl, rfl⟩ := hk
      simp at hr
      exact .inr ⟨i, e, by simp [Instr.findAsking, hr, h2], by simp, h1⟩
    · have hf : (decide (p = p') && (decide (q = q') && decide (n = n'))) = false := by
        cases hb : (decide (p = p') && (decide (q = q') && decide (n = n')))
        · rfl
        · simp only [Bool.and_eq_true, decide_eq_true_eq] at hb; exact absurd hb hk
      rw [hf] at hr
      rcases find_kv (n := n) hp hq es (i + 1) (fun x hx => hall x (by simp [hx])) with h | ⟨j, e', h5, h6, h7⟩
      · exact .inl (by simp [Instr.findAsking, hr, h])
      · exact .inr ⟨j, e', by simp [Instr.findAsking, hr, h5], by simp [h6], h7⟩
theorem check_kv (w : World) (em : Bool) (p q : Addr) (n : Nat) : (Instr.checkKey em 10000 101 (kv p q n)).run Tryz.prog w = .ok () w := by
  cases em <;> kernel_rfl
theorem map_kv {w : World} {b : Nat} {es : Array MapEntry} {clock : Nat} {p q : Addr} {n : Nat} (hb : w.heap[b]? = some (.map es clock)) (hes : ∀ e ∈ es.toList, KE w e) (hp : PB w p) (hq : PB w q) :
    ((Instr.lookup 96 (.map (some b)) (kv p q n) false).run Tryz.prog w = .ok (.bool true) w ∧ ∃ e ∈ es.toList, e.key = kv p q n) ∨
    ((Instr.lookup 96 (.map (some b)) (kv p q n) false).run Tryz.prog w = .ok (.bool false) w ∧
      (Instr.mapUpdate 96 (.map (some b)) (kv p q n) (.bool true)).run Tryz.prog w = .ok () { w with heap := w.heap.setIfInBounds b (.map (es.push ⟨kv p q n, .bool true, clock⟩) (clock + 1)) }) := by
  have hf : (Instr.findKey 101 (kv p q n) es.toList).run Tryz.prog w = (Instr.findAsking 101 (kv p q n) es.toList).run Tryz.prog w := run_findKey_eq w (by rw [Tryz.underlying101]) _ _
  rcases find_kv (n := n) hp hq es.toList 0 hes with h | ⟨j, e, h1, h2, h3⟩
  · rw [h] at hf
    refine .inr ⟨?_, ?_⟩
    · simp [Instr.lookup, run_underlying Tryz.underlying96, MapKept.run_getObj_map hb, check_kv, hf, Result.andThen]
    · simp [Instr.mapUpdate, run_underlying Tryz.underlying96, MapKept.run_getObj_map hb, check_kv, hf, MapKept.run_setObj_map _ hb, Result.andThen]
  · rw [h1] at hf
    refine .inl ⟨?_, e, h2, h3⟩
    simp [Instr.lookup, run_underlying Tryz.underlying96, MapKept.run_getObj_map hb, check_kv, hf, Result.andThen]
end Go.Proofs.YtkfnbakhbbcfcaaGreatDoor

namespace Go.Proofs.YtkfnbakhbbcfcaaGreatDoor
open Go.RowKit

/-- One of a pair: what it is, and where its kids lie. -/
abbrev K4 := Ex × Option Addr × Nat
def k4C (d : K4) : List Value := kidCells d.1 d.2.1 d.2.2
def prC (p : K4 × K4) : List Value := k4C p.1 ++ k4C p.2
def prE (p : K4 × K4) : Ex × Ex := (p.1.1, p.2.1)
def rowP (ps : List (K4 × K4)) : List Value := ps.flatMap prC
theorem rowP_append (xs ys : List (K4 × K4)) : rowP (xs ++ ys) = rowP xs ++ rowP ys := by simp [rowP]
theorem rowP_one1 (x : K4 × K4) : rowP [x] = prC x := by simp [rowP]
theorem rowP_cons (x : K4 × K4) (xs : List (K4 × K4)) : rowP (x :: xs) = prC x ++ rowP xs := by simp [rowP]
theorem prC_length (x : K4 × K4) : (prC x).length = 8 := rfl
theorem rowP_length (xs : List (K4 × K4)) : (rowP xs).length = xs.length * 8 := by
  induction xs with
  | nil => rfl
  | cons x xs ih => rw [rowP_cons, List.length_append, prC_length, ih, List.length_cons]; omega
theorem prC_one (d : K4 × K4) : ∀ u ∈ prC d, u.oneCell' = true := by
  intro u hu
  simp [prC, k4C, kidCells] at hu
  rcases hu with rfl | rfl | rfl | rfl | rfl | rfl | rfl | rfl <;> rfl
theorem infoP : (Tryz.prog.info? 97).map (fun i => (i.zero, i.size, i.bytes)) = some (some (.agg #[.int .i64 0, .int .i64 0, .string ByteArray.empty, .slice none 0 0, .int .i64 0, .int .i64 0, .string ByteArray.empty, .slice none 0 0]), 8, 112) := by kernel_rfl
/-- The row is there, at this block. -/
def RowAt (w : World) (base g n c : Nat) (ps : List (K4 × K4)) : Prop := w.ownsRow base 97 8 (.slice (some ⟨g, 0, none⟩) n c) n (rowP ps)
theorem RowAt.lt {w : World} {base g n c : Nat} {ps : List (K4 × K4)} (h : RowAt w base g n c ps) : base ≤ g ∧ g < w.heap.size ∧ n ≤ c := by
  rcases h.2 with ⟨h0, _⟩ | ⟨g2, _, _, hv, hb, hgb, hc, _⟩
  · cases h0
  · injection hv with h1 h2 h3
    injection h1 with h1
    injection h1 with h1
    subst h1 h3
    exact ⟨hb, (Array.getElem?_eq_some_iff.1 hgb).1, hc⟩
theorem RowAt.keep {w w' : World} {base g n c : Nat} {ps : List (K4 × K4)} (h : RowAt w base g n c ps) (hb : w'.heap[g]? = w.heap[g]?) : RowAt w' base g n c ps := by
  refine ⟨h.1, ?_⟩
  rcases h.2 with ⟨h0, _⟩ | ⟨g2, c2, cur, hv, hb2, hgb, hr⟩
  · cases h0
  · injection hv with h1 h2 h3
    injection h1 with h1
    injection h1 with h1
    subst h1 h3
    exact .inr ⟨g, c, cur, rfl, hb2, hb.trans hgb, hr⟩
/-- The last one is cut off. -/
theorem RowAt.pop {w : World} {base g n c : Nat} {ps : List (K4 × K4)} {p : K4 × K4} (h : RowAt w base g (n + 1) c (ps ++ [p])) (hn : ps.length = n) : RowAt w base g n c ps := by
  refine ⟨by rw [rowP_length, hn], ?_⟩
  rcases h.2 with ⟨h0, _⟩ | ⟨g2, c2, cur, hv, hb2, hgb, hnc, hcm, hcs, ht⟩
  · cases h0
  · injection hv with h1 h2 h3
    injection h1 with h1
    injection h1 with h1
    subst h1 h3
    refine .inr ⟨g, c, cur, rfl, hb2, hgb, by omega, hcm, hcs, ?_⟩
    have h4 := congrArg (List.take (n * 8)) ht
    rw [List.take_take, rowP_append, List.take_append_of_le_length (by rw [rowP_length]; omega), show min (n * 8) ((n + 1) * 8) = n * 8 by omega] at h4
    rw [h4, List.take_of_length_le (by rw [rowP_length]; omega)]
/-- The cells of the last one. -/
theorem RowAt.last {w : World} {base g n c : Nat} {ps : List (K4 × K4)} {p : K4 × K4} (h : RowAt w base g (n + 1) c (ps ++ [p])) (hn : ps.length = n) {i : Nat} (hi : i < 8) : w.cell? ⟨g, n * 8 + i, none⟩ = (prC p)[i]? := by
  have h1 : (rowP (ps ++ [p]))[n * 8 + i]? = (prC p)[i]? := by
    rw [rowP_append, rowP_one1, List.getElem?_append_right (by rw [rowP_length]; omega), rowP_length, hn, show n * 8 + i - n * 8 = i by omega]
  have hl : i < (prC p).length := by rw [prC_length]; exact hi
  rw [List.getElem?_eq_getElem hl] at h1 ⊢
  have := World.ownsRow.cells h (g := g) rfl (n * 8 + i) _ h1
  rwa [show ((⟨g, 0, none⟩ : Addr).add (n * 8 + i)) = ⟨g, n * 8 + i, none⟩ from by unfold Addr.add; split <;> simp_all] at this
theorem RowAt.made {w : World} {base : Nat} (p : K4 × K4) (hb : base ≤ w.heap.size) : RowAt (w.alloc (.cells (prC p).toArray 97)) base w.heap.size 1 1 [p] :=
  ⟨by rw [rowP_length]; rfl, .inr ⟨w.heap.size, 1, (prC p).toArray, rfl, hb, World.alloc_heap_new w _, Nat.le_refl _, by simp [maxLen], rfl, by rw [rowP_one1]; rfl⟩⟩

theorem wp_namedP {ops : Array Oper} {o : Oper} {a : Act} {Y : World} {K : Act → World → Prop} {Q : Exit → Act → World → Prop} {E : Prop}
    (h : ∀ Z, Z = Y → if Region.wanted o (yielded ops a.tmps) = true then Oper.wp Tryz.prog o a Z K Q else E) : if Region.wanted o (yielded ops a.tmps) = true then Oper.wp Tryz.prog o a Y K Q else E := h Y rfl
/-- append of a pair onto a row of one's own, as a step of a region that draws. -/
theorem step_ownP {ops : Array Oper} {o : Oper} {a : Act} {Y : World} {K : Act → World → Prop} {Q : Exit → Act → World → Prop} {E : Prop}
    (hg : o.guard = none) (s x : Operand) (hop : o.op = Op.call { callee := Callee.builtin Builtin.append, args := #[s, x], argTypes := #[98, 98] })
    (B g n c : Nat) (ds : List (K4 × K4)) (hown : RowAt Y B g n c ds) (hs : a.eval s = .slice (some ⟨g, 0, none⟩) n c)
    (g2 c2 : Nat) (d : K4 × K4) (hblk : Y.heap[g2]? = some (.cells (prC d).toArray 97)) (hx : a.eval x = .slice (some ⟨g2, 0, none⟩) 1 c2) (b1 : n ≤ 2 ^ 31) (hB : B ≤ Y.heap.size)
    (hK : ∀ g' cap' Z, RowAt Z B g' (n + 1) cap' (ds ++ [d]) → Y.grownBy Z (some g) → (g' = g ∨ g' = Y.heap.size) → K (a.put o.dst (.slice (some ⟨g', 0, none⟩) (n + 1) cap')) Z) :
    if Region.wanted o (yielded ops a.tmps) = true then Oper.wp Tryz.prog o a Y K Q else E := by
  obtain ⟨i0, hi, hzz⟩ := Option.map_eq_some_iff.1 infoP
  simp only [Prod.mk.injEq] at hzz
  obtain ⟨hz0, hz1, hz2⟩ := hzz
  have hw : Region.wanted o (yielded ops a.tmps) = true := by simp [Region.wanted, hg]
  rw [if_pos hw]
  obtain ⟨v', w', hrun, r1, r2, _, r4⟩ := run_append_own_at (P := Tryz.prog) Y B 98 o.type 97 i0 _ 8 112 Tryz.underlying98 hi hz0 hz1 hz2 rfl (by decide) _ n (rowP ds) hown ⟨g2, 0, none⟩ 1 c2 (prC d) rfl
    (fun j u hj => by
      have hp : (⟨g2, 0, none⟩ : Addr).add j = ⟨g2, 0 + j, none⟩ := by unfold Addr.add; split <;> simp_all
      have hcell : Y.cell? ⟨g2, j, none⟩ = (prC d).toArray[j]? := by simp [World.cell?, hblk]
      rw [hp, Nat.zero_add, hcell, List.getElem?_toArray]; exact hj)
    (prC_one d) (by unfold maxLen; omega) (by omega) hB
  obtain ⟨g', cap', rfl, _, r5⟩ := r1.form (by omega)
  unfold Oper.wp
  simp [execOp, hop, resolve, invoke, builtin, hs, hx, hrun, Result.andThen]
  have r6 : g' = g ∨ g' = Y.heap.size := by
    rcases r4 with h | h
    · simp [Value.ownBlock] at h; exact .inl h
    · simp [Value.ownBlock] at h; exact .inr h
  exact hK g' cap' w' (by unfold RowAt; rw [rowP_append, rowP_one1]; exact r1) r2 r6
end Go.Proofs.YtkfnbakhbbcfcaaGreatDoor

namespace Go.Proofs.YtkfnbakhbbcfcaaGreatDoor
open Go.RowKit

/-- The entries of the map are lists of kids that were taken. -/
def Ents (w : World) (B : Nat) (S : List (List Ex × List Ex)) (es : Array MapEntry) : Prop :=
  ∀ e ∈ es.toList, ∃ p q ks1 ks2, e.key = kv p q ks1.length ∧ e.val = .bool true ∧ (ks1, ks2) ∈ S ∧ 0 < ks1.length ∧ ks1.length = ks2.length ∧ KidsU w B (some p) ks1 ∧ KidsU w B (some q) ks2
/-- What lies on the stack. -/
def Stk (w : World) (B : Nat) (ps : List (K4 × K4)) : Prop := ∀ p ∈ ps, (p.1.1.kids.length ≤ p.1.2.2 ∧ KidsU w B p.1.2.1 p.1.1.kids) ∧ (p.2.1.kids.length ≤ p.2.2.2 ∧ KidsU w B p.2.2.1 p.2.1.kids)
structure StkR (a b : Ex) (w : World) (B bm base N gk : Nat) (wr : World) (g c : Nat) (ps : List (K4 × K4)) (S : List (List Ex × List Ex)) (es : Array MapEntry) (clock : Nat) : Prop where
  row : RowAt wr base g ps.length c ps
  inv : SInv a b S (ps.map prE)
  few : stackN (ps.map prE) ≤ gk
  most : gk ≤ N
  stk : Stk w B ps
  map : wr.heap[bm]? = some (.map es clock)
  ents : Ents w B S es
  bel : Below w.heap.size w wr

theorem kv_inj {p q p' q' : Addr} {n n' : Nat} (h : kv p q n = kv p' q' n') : p = p' ∧ q = q' ∧ n = n' := by
  simp [kv] at h
  exact ⟨h.1, h.2.1, by omega⟩
theorem cell_blk {w : World} {g : Nat} {cs : Array Value} {t : TypeId} (h : w.heap[g]? = some (.cells cs t)) (i : Nat) : w.cell? ⟨g, i, none⟩ = cs[i]? := by simp [World.cell?, h]
theorem KidsU.pb {w : World} {B : Nat} {p : Addr} {ks : List Ex} (h : KidsU w B (some p) ks) (hk : 0 < ks.length) : PB w p := by
  obtain ⟨g, off, e, _, cur, hc⟩ := h.lt hk
  injection e with e
  subst e
  exact ⟨cur, _, hc⟩
/-- All but this block is as it was. -/
def ButFor (g : Nat) (w w' : World) : Prop := (∀ k, k < w.heap.size → k ≠ g → w'.heap[k]? = w.heap[k]?) ∧ w'.os = w.os ∧ w'.tape = w.tape ∧ w'.output = w.output ∧ w.heap.size ≤ w'.heap.size
theorem ButFor.refl (g : Nat) (w : World) : ButFor g w w := ⟨fun _ _ _ => rfl, rfl, rfl, rfl, Nat.le_refl _⟩
theorem ButFor.cell {g : Nat} {w w' : World} (h : ButFor g w w') {k i : Nat} (hk : k < w.heap.size) (hg : k ≠ g) : w'.cell? ⟨k, i, none⟩ = w.cell? ⟨k, i, none⟩ := World.cell?_of_block (a := ⟨k, i, none⟩) (h.1 k hk hg)
theorem ButFor.trans {g : Nat} {w w' w'' : World} (h : ButFor g w w') (h' : ButFor g w' w'') : ButFor g w w'' :=
  ⟨fun k hk hg => (h'.1 k (Nat.lt_of_lt_of_le hk h.2.2.2.2) hg).trans (h.1 k hk hg), h'.2.1.trans h.2.1, h'.2.2.1.trans h.2.2.1, h'.2.2.2.1.trans h.2.2.2.1, Nat.le_trans h.2.2.2.2 h'.2.2.2.2⟩
theorem ButFor.below {g n : Nat} {w w' : World} (h : ButFor g w w') (hn : n ≤ w.heap.size) (hg : n ≤ g) : Below n w w' :=
  ⟨h.2.1, h.2.2.1, h.2.2.2.1, h.2.2.2.2, fun k hk => h.1 k (by omega) (by omega)⟩
theorem Below.but {g : Nat} {w w' : World} (h : Below w.heap.size w w') : ButFor g w w' := ⟨fun k hk _ => h.block k hk, h.os, h.tape, h.output, h.size⟩
theorem Blk.stay {w w' : World} {g : Nat} {cur : Array Value} (h : Blk w g cur) (hb : w'.heap[g]? = w.heap[g]?) : Blk w' g cur := hb.trans h
theorem blk_first (w : World) (cs ds : Array Value) : Blk ((w.alloc (.cells cs 25)).alloc (.cells ds 25)).drew w.heap.size cs := (Below.heap_alloc (w.alloc _) _ _ (by simp)).trans (World.alloc_heap_new w _)
theorem blk_second (w : World) (cs ds : Array Value) : Blk ((w.alloc (.cells cs 25)).alloc (.cells ds 25)).drew (w.heap.size + 1) ds := by
  have := World.alloc_heap_new (w.alloc (.cells cs 25)) (.cells ds 25)
  rwa [World.size_alloc] at this
theorem bel_two (w : World) (o p : Obj) : Below w.heap.size w ((w.alloc o).alloc p).drew := (((Below.refl _ w).alloc (Nat.le_refl _) _).alloc (by simp) _).drew
theorem run_mk (w : World) : (Instr.makeMap 96 none).run Tryz.prog w = .ok (.map (some w.heap.size)) (w.alloc (.map #[] 0)) := by
  simp [Instr.makeMap]

set_option maxRecDepth 100000 in
set_option maxHeartbeats 8000000 in
theorem exprSame_any (a b : Ex) (A A' : Option Addr) (c c' B : Nat) (w : World) (hA : KidsU w B A a.kids) (hA' : KidsU w B A' b.kids) (hc : a.kids.length ≤ c) (hc' : b.kids.length ≤ c') (hB : B ≤ w.heap.size) (hn : a.nodes ≤ 2 ^ 30) :
    Calls Tryz.prog 27 #[.agg #[.int .i64 a.kind, .int .i64 a.n, .string a.s, .slice A a.kids.length c], .agg #[.int .i64 b.kind, .int .i64 b.n, .string b.s, .slice A' b.kids.length c']] w fun r w' => r = .returned (.bool (sameE a b)) ∧ Below w.heap.size w w' := by
  have HA := Lib.hid hA
  have HA' := Lib.hid hA'
  clear hA hA'
  obtain ⟨W1, hW1⟩ : ∃ W1, W1 = ((w.alloc (.cells #[.int .i64 a.kind, .int .i64 a.n, .string a.s, .slice A a.kids.length c] 25)).alloc (.cells #[.int .i64 b.kind, .int .i64 b.n, .string b.s, .slice A' b.kids.length c'] 25)).alloc (.map #[] 0) := ⟨_, rfl⟩
  have hb1 : Below w.heap.size w W1 := by rw [hW1]; exact (((Below.refl _ w).alloc (Nat.le_refl _) _).alloc (by simp) _).alloc (by simp; omega) _
  have hs1 : W1.heap.size = w.heap.size + 1 + 1 + 1 := by rw [hW1]; simp
  have hm1 : W1.heap[w.heap.size + 1 + 1]? = some (.map #[] 0) := by
    have := World.alloc_heap_new ((w.alloc (.cells #[.int .i64 a.kind, .int .i64 a.n, .string a.s, .slice A a.kids.length c] 25)).alloc (.cells #[.int .i64 b.kind, .int .i64 b.n, .string b.s, .slice A' b.kids.length c'] 25)) (.map #[] 0)
    rwa [World.size_alloc, World.size_alloc, ← hW1] at this
  have HSTART := Lib.hid (show StkR a b w B (w.heap.size + 1 + 1) (w.heap.size + 1 + 1 + 1) a.nodes a.nodes (W1.alloc (.cells (prC ((a, A, c), (b, A', c'))).toArray 97)) (w.heap.size + 1 + 1 + 1) 1 [((a, A, c), (b, A', c'))] [] #[] 0 from {
    row := by have := RowAt.made (w := W1) (base := w.heap.size + 1 + 1 + 1) ((a, A, c), (b, A', c')) (by omega); rwa [hs1] at this
    inv := SInv.start a b
    few := by rw [List.map_singleton, stackN_one]; exact Nat.le_refl _
    most := Nat.le_refl _
    stk := fun p hp => by simp at hp; subst hp; exact ⟨⟨hc, HA.out⟩, ⟨hc', HA'.out⟩⟩
    map := (Below.heap_alloc _ _ _ (by omega)).trans hm1
    ents := fun e he => by simp at he
    bel := hb1.alloc (by omega) _ })
  have HW1 := Lib.hid hW1
  have HN := Lib.hid hn
  have hmk := run_mk
  clear hW1 hs1 hm1 hb1 hn
  go_enter Tryz.func27, Tryz.ntmps27
  go_wp2_with fail
  rw [← HW1.out]
  clear hmk HW1
  go_loopg [6] a.nodes (fun gk wk wr => ∃ g cc ps S es clock, wk = .slice (some ⟨g, 0, none⟩) ps.length cc ∧ StkR a b w B (w.heap.size + 1 + 1) (w.heap.size + 1 + 1 + 1) a.nodes gk wr g cc ps S es clock)
  case atStart => exact ⟨_, _, _, _, _, _, rfl, HSTART.out⟩
  case round =>
    clear HSTART
    obtain ⟨g, cc, ps, S, es, clock, rfl, R⟩ := hrel
    rcases List.eq_nil_or_concat ps with rfl | ⟨qs, p, rfl⟩
    · have HR := Lib.hid R
      clear R
      go_wp2_with fail
      go_ret
      exact ⟨ret_bool (by rw [sameE_eq _ _ HR.out.inv.done]), HR.out.bel⟩
    · obtain ⟨⟨x, D, m⟩, ⟨y, D', m'⟩⟩ := p
      rw [List.concat_eq_append] at R ⊢
      have hlen : (qs ++ [((x, D, m), (y, D', m'))]).length = qs.length + 1 := by simp
      have row := R.row
      have few := R.few
      rw [hlen] at row ⊢
      rw [List.map_append, List.map_singleton, stackN_append, stackN_one] at few
      have hx1 := nodes_pos x
      have hql := stackN_length (qs.map prE)
      rw [List.length_map] at hql
      have hgk : gk ≤ 2 ^ 30 := Nat.le_trans R.most HN.out
      have few1 : x.nodes + stackN (qs.map prE) ≤ gk := by simp only [prE] at few; omega
      obtain ⟨nq, hnq⟩ : ∃ nq, nq = qs.length := ⟨_, rfl⟩
      have c0 := row.last rfl (i := 0) (by omega)
      have c1 := row.last rfl (i := 1) (by omega)
      have c2 := row.last rfl (i := 2) (by omega)
      have c3 := row.last rfl (i := 3) (by omega)
      have c4 := row.last rfl (i := 4) (by omega)
      have c5 := row.last rfl (i := 5) (by omega)
      have c6 := row.last rfl (i := 6) (by omega)
      have c7 := row.last rfl (i := 7) (by omega)
      simp only [prC, k4C, kidCells, List.cons_append, List.nil_append, List.getElem?_cons_zero, List.getElem?_cons_succ, Nat.add_zero] at c0 c1 c2 c3 c4 c5 c6 c7
      have HP := Lib.hid (row.pop rfl)
      have hrl := row.lt
      rw [← hnq] at c0 c1 c2 c3 c4 c5 c6 c7 hql HP hrl ⊢
      have HRR := Lib.hid R
      have HNQ := Lib.hid hnq
      obtain ⟨hbg, hgl, hcl⟩ := hrl
      have hnb : nq ≤ 2 ^ 30 := by omega
      have qi : (0 : Int) ≤ (nq : Int) := by omega
      obtain ⟨n1, hn1⟩ : ∃ n1, n1 = nq + 1 := ⟨_, rfl⟩
      rw [← hn1] at hcl ⊢
      have q0 : IntKind.i64.wrap ((n1 : Int) - 1) = (nq : Int) := by rw [IntWalk.i64_in _ (by omega)]; omega
      have q1 : (nq : Int) < (n1 : Int) := by omega
      have q2 : (0 : Int) < (n1 : Int) := by omega
      have q3 : (nq : Int) ≤ (cc : Int) := by omega
      have hnl : nq < n1 := by omega
      clear hn1
      clear R row hlen hnq few
      obtain ⟨lx, hlx⟩ : ∃ lx, lx = x.kids.length := ⟨_, rfl⟩
      obtain ⟨ly, hly⟩ : ∃ ly, ly = y.kids.length := ⟨_, rfl⟩
      rw [← hlx] at c3
      rw [← hly] at c7
      have HLX := Lib.hid hlx
      have HLY := Lib.hid hly
      clear hlx hly
      go_upto_region 4 with fail
      go_cut [7, 8] (fun s7 s8 wx => ∃ b7 b8, s7 = .pointer (some ⟨b7, 0, none⟩) ∧ s8 = .pointer (some ⟨b8, 0, none⟩) ∧ b7 ≠ b8 ∧ wr.heap.size ≤ b7 ∧ wr.heap.size ≤ b8 ∧ Blk wx b7 #[.int .i64 x.kind, .int .i64 x.n, .string x.s, .slice D lx m] ∧ Blk wx b8 #[.int .i64 y.kind, .int .i64 y.n, .string y.s, .slice D' ly m'] ∧ Below wr.heap.size wr wx)
      case first =>
        go_region_held3 (fun w' => w'.cell? ⟨g, nq * 8, none⟩ = some (.int .i64 x.kind) ∧ w'.cell? ⟨g, nq * 8 + 1, none⟩ = some (.int .i64 x.n) ∧ w'.cell? ⟨g, nq * 8 + 2, none⟩ = some (.string x.s) ∧ w'.cell? ⟨g, nq * 8 + 3, none⟩ = some (.slice D lx m) ∧ w'.cell? ⟨g, nq * 8 + 4, none⟩ = some (.int .i64 y.kind) ∧ w'.cell? ⟨g, nq * 8 + 4 + 1, none⟩ = some (.int .i64 y.n) ∧ w'.cell? ⟨g, nq * 8 + 4 + 2, none⟩ = some (.string y.s) ∧ w'.cell? ⟨g, nq * 8 + 4 + 3, none⟩ = some (.slice D' ly m'))
          (go_keep) (fail)
        all_goals (go_wp2_with fail; go_meet)
        case rel => exact ⟨_, _, rfl, rfl, by omega, Nat.le_refl _, by omega, blk_first _ _ _, blk_second _ _ _, bel_two _ _ _⟩
        case rel => exact ⟨_, _, rfl, rfl, by omega, by omega, Nat.le_refl _, blk_second _ _ _, blk_first _ _ _, bel_two _ _ _⟩
      case rest =>
        obtain ⟨b7, b8, rfl, rfl, hne, hb7, hb8, blk7, blk8, hbc⟩ := hcut
        have d0 := blk7.cell 0
        have d1 := blk7.cell 1
        have d2 := blk7.cell 2
        have d3 := blk7.cell 3
        have e0 := blk8.cell 0
        have e1 := blk8.cell 1
        have e2 := blk8.cell 2
        have e3 := blk8.cell 3
        simp only [List.getElem?_toArray, List.getElem?_cons_zero, List.getElem?_cons_succ] at d0 d1 d2 d3 e0 e1 e2 e3
        clear c0 c1 c2 c3 c4 c5 c6 c7
        have HB7 := Lib.hid blk7
        have HB8 := Lib.hid blk8
        have h7l := blk7.lt
        have h8l := blk8.lt
        clear blk7 blk8
        have q5 : ¬ ((nq : Int) < 0) := by omega
        have hql2 := hbc.size
        have HBC := Lib.hid hbc
        have hSp := HRR.out.stk ((x, D, m), (y, D', m')) (by simp)
        have HSP := Lib.hid hSp
        clear hbc hSp
        go_wp2_with fail
        refine (sameAlone_any x.kind x.n x.s D lx m y.kind y.n y.s D' ly m' wc).mono ?_
        rintro e w2 ⟨rfl, hb2⟩
        have hs2 := hb2.size
        have HB27 := Lib.hid (HB7.out.stay (hb2.block _ h7l))
        have HB28 := Lib.hid (HB8.out.stay (hb2.block _ h8l))
        have d3 := HB27.out.cell 3
        have e3 := HB28.out.cell 3
        simp only [List.getElem?_toArray, List.getElem?_cons_zero, List.getElem?_cons_succ] at d3 e3
        have HBW := Lib.hid (HBC.out.trans (hb2.mono HBC.out.size))
        have HP2 := Lib.hid (HP.out.keep (HBW.out.block g hgl))
        clear d0 d1 d2 e0 e1 e2 HB7 HB8 HBC HP hb2
        obtain ⟨R0, hR0⟩ : ∃ R0, R0 = aloneB x.kind x.n x.s lx y.kind y.n y.s ly := ⟨_, rfl⟩
        rw [← hR0]
        have HR0 := Lib.hid hR0
        clear hR0
        have HAL := Lib.hid (show R0 = true ↔ Alone2 x y by rw [HR0.out, HLX.out, HLY.out]; exact aloneB_iff x y)
        have HINV := Lib.hid (show SInv a b S (qs.map prE ++ [(x, y)]) by have := HRR.out.inv; rwa [List.map_append, List.map_singleton] at this)
        cases R0 with
        | false =>
          go_wp2_with fail
          go_ret
          exact ⟨ret_bool (by rw [sameE_ne _ _ (HINV.out.fail (fun h => by have := HAL.out.2 h; cases this))]), HRR.out.bel.trans (HBW.out.mono HRR.out.bel.size)⟩
        | true =>
          have hAl := HAL.out.1 rfl
          have hll : lx ≤ ly := by rw [HLX.out, HLY.out, hAl.2.2.2]; exact Nat.le_refl _
          have hll2 : ly ≤ lx := by rw [HLX.out, HLY.out, hAl.2.2.2]; exact Nat.le_refl _
          have HALO := Lib.hid hAl
          clear hAl
          have HNEXT := Lib.hid (show ∀ (S' : List (List Ex × List Ex)) (W : World), Below wr.heap.size wr W → RowAt W (w.heap.size + 1 + 1 + 1) g nq cc qs → (x.kids = [] ∨ (x.kids, y.kids) ∈ S) → StkR a b w B (w.heap.size + 1 + 1) (w.heap.size + 1 + 1 + 1) a.nodes (gk - 1) W g cc qs S es clock from fun _ W hW hrow hk => {
            row := by rw [← HNQ.out]; exact hrow
            inv := HINV.out.skip HALO.out hk
            few := by omega
            most := Nat.le_trans (Nat.sub_le _ _) HRR.out.most
            stk := fun p hp => HRR.out.stk p (by simp [hp])
            map := (hW.block _ (by have := HRR.out.map; exact (Array.getElem?_eq_some_iff.1 this).1)).trans HRR.out.map
            ents := HRR.out.ents
            bel := HRR.out.bel.trans (hW.mono HRR.out.bel.size) })
          by_cases hl0 : lx = 0
          · have q6 : ((lx : Int) == 0) = true := by rw [beq_iff_eq]; omega
            have hk0 : x.kids = [] := List.eq_nil_of_length_eq_zero (by rw [← HLX.out]; exact hl0)
            clear hl0
            go_wp2_with fail
            go_roundg (gk - 1)
            case measure => omega
            case rel => exact ⟨_, _, qs, _, _, _, by rw [← HNQ.out], HNEXT.out S w2 HBW.out HP2.out (.inl hk0)⟩
          · have q6 : ((lx : Int) == 0) = false := by rw [beq_eq_false_iff_ne]; omega
            have hlp : 0 < lx := by omega
            clear hl0
            obtain ⟨gx, ox, eD, hgx, _, _⟩ := HSP.out.1.2.lt (by show 0 < x.kids.length; rw [← HLX.out]; exact hlp)
            obtain ⟨gy, oy, eD', hgy, _, _⟩ := HSP.out.2.2.lt (by show 0 < y.kids.length; rw [← HLY.out]; omega)
            subst eD eD'
            have q7 : (0 : Int) < (lx : Int) := by omega
            have q8 : (0 : Int) < (ly : Int) := by omega
            have hlp2 : 0 < ly := by omega
            go_upto_region 9 with fail
            go_cut [9] (fun s9 wx => ∃ b9, s9 = .pointer (some ⟨b9, 0, none⟩) ∧ w2.heap.size ≤ b9 ∧ wx.heap[b9]? = some (.cells #[.pointer (some ⟨gx, ox, none⟩), .pointer (some ⟨gy, oy, none⟩), .int .i64 (lx : Int)] 101) ∧ Below w2.heap.size w2 wx)
            case first =>
              go_region_held3 (fun w' => w'.cell? ⟨b7, 3, none⟩ = some (.slice (some ⟨gx, ox, none⟩) lx m) ∧ w'.cell? ⟨b8, 3, none⟩ = some (.slice (some ⟨gy, oy, none⟩) ly m')) (go_keep) (fail)
              all_goals (go_wp2_with fail; go_meet; exact ⟨_, rfl, Nat.le_refl _, World.alloc_heap_new w2 _, ((Below.refl _ w2).alloc (Nat.le_refl _) _).drew⟩)
            case rest =>
              obtain ⟨b9, rfl, hb9, blk9, hbc9⟩ := hcut
              have hs9 := hbc9.size
              have hl9 : b9 < wc.heap.size := (Array.getElem?_eq_some_iff.1 blk9).1
              have z0 := cell_blk blk9 0
              have z1 := cell_blk blk9 1
              have z2 := cell_blk blk9 2
              simp only [List.getElem?_toArray, List.getElem?_cons_zero, List.getElem?_cons_succ] at z0 z1 z2
              have d3c := (hbc9.cell (p := ⟨b7, 3, none⟩) HB27.out.lt).trans d3
              have e3c := (hbc9.cell (p := ⟨b8, 3, none⟩) HB28.out.lt).trans e3
              have h7l := HB27.out.lt
              have h8l := HB28.out.lt
              have HBW9 := Lib.hid (HBW.out.trans (hbc9.mono HBW.out.size))
              have HBL9 := Lib.hid (HRR.out.bel.trans (HBW9.out.mono HRR.out.bel.size))
              have hmp : wc.heap[w.heap.size + 1 + 1]? = some (.map es clock) := (HBW9.out.block _ (Array.getElem?_eq_some_iff.1 HRR.out.map).1).trans HRR.out.map
              have hml : w.heap.size + 1 + 1 < wr.heap.size := (Array.getElem?_eq_some_iff.1 HRR.out.map).1
              have HKX := Lib.hid (HSP.out.1.2.keep (HBL9.out.mono hB))
              have HKY := Lib.hid (HSP.out.2.2.keep (HBL9.out.mono hB))
              have hpx : PB wc ⟨gx, ox, none⟩ := HKX.out.pb (by show 0 < x.kids.length; rw [← HLX.out]; exact hlp)
              have hpy : PB wc ⟨gy, oy, none⟩ := HKY.out.pb (by show 0 < y.kids.length; rw [← HLY.out]; omega)
              have HP9 := Lib.hid (HP2.out.keep (hbc9.block g (by have := HBW.out.size; omega)))
              have hmk := map_kv (n := lx) hmp (fun e he => by
                obtain ⟨p, q, ks1, ks2, f1, f2, f3, f4, f5, f6, f7⟩ := HRR.out.ents e he
                exact ⟨p, q, ks1.length, f1, f2, (f6.keep (HBL9.out.mono hB)).pb f4, (f7.keep (HBL9.out.mono hB)).pb (by omega)⟩) hpx hpy
              clear d3 e3 blk9 HB27 HB28 HP2 hpx hpy hbc9
              rcases hmk with ⟨hlk, en, hen, hek⟩ | ⟨hlk, hmu⟩
              · have hmem : (x.kids, y.kids) ∈ S := by
                  obtain ⟨p, q, ks1, ks2, f1, f2, f3, f4, f5, f6, f7⟩ := HRR.out.ents en hen
                  obtain ⟨rfl, rfl, f8⟩ := kv_inj (f1.symm.trans hek)
                  have g1 := f6.one HSP.out.1.2 (f8.trans HLX.out)
                  have g2 := f7.one HSP.out.2.2 (by show ks2.length = y.kids.length; rw [← HLY.out]; omega)
                  rw [← show ks1 = x.kids from g1, ← show ks2 = y.kids from g2]
                  exact f3
                have HMEM := Lib.hid hmem
                unfold kv at hlk
                clear hmem hek hen hmp
                go_wp2_with fail
                go_roundg (gk - 1)
                case measure => omega
                case rel => exact ⟨_, _, qs, _, _, _, by rw [← HNQ.out], HNEXT.out S wc HBW9.out HP9.out (.inr HMEM.out)⟩
              · obtain ⟨W3, hW3⟩ : ∃ W3 : World, W3 = { wc with heap := wc.heap.setIfInBounds (w.heap.size + 1 + 1) (.map (es.push ⟨kv ⟨gx, ox, none⟩ ⟨gy, oy, none⟩ lx, .bool true, clock⟩) (clock + 1)) } := ⟨_, rfl⟩
                rw [← hW3] at hmu
                have hsz3 : W3.heap.size = wc.heap.size := by rw [hW3]; simp
                have hoth : ∀ k, k ≠ w.heap.size + 1 + 1 → W3.heap[k]? = wc.heap[k]? := fun k hk => by rw [hW3]; exact (MapKept.heap_set hmp).2 k hk
                have hm3 : W3.heap[w.heap.size + 1 + 1]? = some (.map (es.push ⟨kv ⟨gx, ox, none⟩ ⟨gy, oy, none⟩ lx, .bool true, clock⟩) (clock + 1)) := by rw [hW3]; exact (MapKept.heap_set hmp).1
                have hos3 : W3.os = wc.os ∧ W3.tape = wc.tape ∧ W3.output = wc.output := by rw [hW3]; exact ⟨rfl, rfl, rfl⟩
                have d3W : W3.cell? ⟨b7, 3, none⟩ = some (.slice (some ⟨gx, ox, none⟩) lx m) := (World.cell?_of_block (a := ⟨b7, 3, none⟩) (hoth b7 (by omega))).trans d3c
                have e3W : W3.cell? ⟨b8, 3, none⟩ = some (.slice (some ⟨gy, oy, none⟩) ly m') := (World.cell?_of_block (a := ⟨b8, 3, none⟩) (hoth b8 (by omega))).trans e3c
                have hsb3 : wc.heap.size ≤ W3.heap.size := by omega
                have HBL3 := Lib.hid (HBL9.out.trans ⟨hos3.1, hos3.2.1, hos3.2.2, by omega, fun k hk => hoth k (by omega)⟩)
                have HP3 := Lib.hid (HP9.out.keep (hoth g (by omega)))
                have HM3 := Lib.hid hm3
                unfold kv at hlk hmu
                clear hW3 hsz3 hoth hm3 hos3 hmp HBW9 HBL9 HP9
                go_wp2_with fail
                clear hlk hmu z0 z1 z2 d3c e3c
                generalize gk = G at *
                generalize wr = W0 at *
                go_loopg [6, 64] lx (fun gj wk2 i2 wr2 => ∃ (j g2 c2 : Nat) (ds : List (K4 × K4)), i2 = .int .i64 (j : Int) ∧ j + gj = lx ∧ wk2 = .slice (some ⟨g2, 0, none⟩) (nq + j) c2 ∧ Hid (RowAt wr2 (w.heap.size + 1 + 1 + 1) g2 (nq + j) c2 (qs ++ ds) ∧ ds.map prE = (x.kids.zip y.kids).take j ∧ Stk w B ds ∧ ButFor g W3 wr2) ∧ (g2 = g ∨ W3.heap.size ≤ g2))
                case atStart => exact ⟨0, _, _, [], rfl, by omega, rfl, ⟨by simpa using HP3.out, by simp, (fun p hp => by cases hp), ButFor.refl _ _⟩, .inl rfl⟩
                case round =>
                  obtain ⟨j, g2, c2, ds, rfl, hjg, rfl, HR2, hg2⟩ := hrel
                  have hBF := HR2.out.2.2.2
                  have hszr := hBF.2.2.2.2
                  have hbw2 := HBL3.out.trans (hBF.below (n := w.heap.size) HBL3.out.size (by omega))
                  obtain ⟨nj, hnj⟩ : ∃ nj, nj = nq + j := ⟨_, rfl⟩
                  rw [← hnj]
                  have HNJ := Lib.hid hnj
                  have hnjb : nj ≤ 2 ^ 31 := by
                    have h1 := stackN_zip x.kids y.kids HALO.out.2.2.2
                    have h2 := stackN_length (x.kids.zip y.kids)
                    rw [List.length_zip, ← HLX.out, ← HLY.out] at h2
                    have h3 := nodes_kids x
                    omega
                  have hjb : j ≤ 2 ^ 31 := by omega
                  clear hnj
                  by_cases hlt : j < lx
                  · have hx' : j < x.kids.length := by rw [← HLX.out]; exact hlt
                    have hy' : j < y.kids.length := by rw [← HLY.out]; omega
                    obtain ⟨gx', ox', D1, m1, eX, _, _, kx, ux⟩ := HSP.out.1.2.at_ hx'
                    obtain ⟨gy', oy', D2, m2, eY, _, _, ky, uy⟩ := HSP.out.2.2.at_ hy'
                    injection eX with eX
                    injection eX with eX1 eX2
                    injection eY with eY
                    injection eY with eY1 eY2
                    subst eX1 eX2 eY1 eY2
                    have HZ := Lib.hid (show (x.kids.zip y.kids).take (j + 1) = (x.kids.zip y.kids).take j ++ [(x.kids[j], y.kids[j])] by
                      rw [List.take_succ_eq_append_getElem (by rw [List.length_zip]; omega)]; simp)
                    have kx2 := kx.keep (w' := wr) (fun i _ _ => hbw2.cell (p := ⟨gx, i, none⟩) (by show gx < _; omega))
                    have ky2 := ky.keep (w' := wr) (fun i _ _ => hbw2.cell (p := ⟨gy, i, none⟩) (by show gy < _; omega))
                    have HUX := Lib.hid ux
                    have HUY := Lib.hid uy
                    generalize x.kids[j] = xx at *
                    generalize y.kids[j] = yy at *
                    obtain ⟨k0, k1, k2, k3, hcx⟩ := kx2
                    obtain ⟨l0, l1, l2, l3, hcy⟩ := ky2
                    have d3r := (hBF.cell (k := b7) (i := 3) (by omega) (by omega)).trans d3W
                    have e3r := (hBF.cell (k := b8) (i := 3) (by omega) (by omega)).trans e3W
                    have hb7r : b7 < wr.heap.size := by omega
                    have hb8r : b8 < wr.heap.size := by omega
                    have hgxr : gx < wr.heap.size := by have := hbw2.size; omega
                    have hgyr : gy < wr.heap.size := by have := hbw2.size; omega
                    have hb7g : b7 ≠ g2 := by omega
                    have hb8g : b8 ≠ g2 := by omega
                    have hgxg : gx ≠ g2 := by omega
                    have hgyg : gy ≠ g2 := by omega
                    have hbsr : w.heap.size + 1 + 1 + 1 ≤ wr.heap.size := by omega
                    have HBF := Lib.hid hBF
                    have qj : (j : Int) < (lx : Int) := by omega
                    have qj2 : (j : Int) < (ly : Int) := by omega
                    have qj3 : (0 : Int) ≤ (j : Int) := by omega
                    clear hBF kx ky ux uy hbw2
                    go_wp2_with fail
                    go_region_held3 (fun w' => w'.cell? ⟨b7, 3, none⟩ = some (.slice (some ⟨gx, ox, none⟩) lx m) ∧ w'.cell? ⟨b8, 3, none⟩ = some (.slice (some ⟨gy, oy, none⟩) ly m') ∧ w'.cell? ⟨gx, ox + j * 4, none⟩ = some (.int .i64 xx.kind) ∧ w'.cell? ⟨gx, ox + j * 4 + 1, none⟩ = some (.int .i64 xx.n) ∧ w'.cell? ⟨gx, ox + j * 4 + 2, none⟩ = some (.string xx.s) ∧ w'.cell? ⟨gx, ox + j * 4 + 3, none⟩ = some (.slice D1 xx.kids.length m1) ∧ w'.cell? ⟨gy, oy + j * 4, none⟩ = some (.int .i64 yy.kind) ∧ w'.cell? ⟨gy, oy + j * 4 + 1, none⟩ = some (.int .i64 yy.n) ∧ w'.cell? ⟨gy, oy + j * 4 + 2, none⟩ = some (.string yy.s) ∧ w'.cell? ⟨gy, oy + j * 4 + 3, none⟩ = some (.slice D2 yy.kids.length m2))
                      (first | exact ⟨d3r, e3r, k0, k1, k2, k3, l0, l1, l2, l3⟩ | exact ⟨(World.cell?_alloc_lt _ _ _ hb7r).trans d3r, (World.cell?_alloc_lt _ _ _ hb8r).trans e3r, (World.cell?_alloc_lt _ _ _ hgxr).trans k0, (World.cell?_alloc_lt _ _ _ hgxr).trans k1, (World.cell?_alloc_lt _ _ _ hgxr).trans k2, (World.cell?_alloc_lt _ _ _ hgxr).trans k3, (World.cell?_alloc_lt _ _ _ hgyr).trans l0, (World.cell?_alloc_lt _ _ _ hgyr).trans l1, (World.cell?_alloc_lt _ _ _ hgyr).trans l2, (World.cell?_alloc_lt _ _ _ hgyr).trans l3⟩ | exact ⟨(hkV b7 hb7r hb7g _).trans d3r, (hkV b8 hb8r hb8g _).trans e3r, (hkV gx hgxr hgxg _).trans k0, (hkV gx hgxr hgxg _).trans k1, (hkV gx hgxr hgxg _).trans k2, (hkV gx hgxr hgxg _).trans k3, (hkV gy hgyr hgyg _).trans l0, (hkV gy hgyr hgyg _).trans l1, (hkV gy hgyr hgyg _).trans l2, (hkV gy hgyr hgyg _).trans l3⟩)
                      ((refine wp_namedP ?_; intro Z hZ; have hZb : Below wr.heap.size wr Z := (by rw [hZ]; first | exact ((Below.refl _ wr).drew).alloc (Nat.le_refl _) _ | exact ((Below.refl _ wr).alloc (Nat.le_refl _) _).drew); have hblk : Z.heap[wr.heap.size]? = some (.cells (prC ((xx, D1, m1), (yy, D2, m2))).toArray 97) := (by rw [hZ]; exact World.alloc_heap_new wr _); have hZs := hZb.size; refine step_ownP rfl (.tmp 67) (.tmp 79) rfl (w.heap.size + 1 + 1 + 1) g2 nj c2 (qs ++ ds) ((show RowAt wr (w.heap.size + 1 + 1 + 1) g2 nj c2 (qs ++ ds) from (by rw [HNJ.out]; exact HR2.out.1)).keep (hZb.block _ (by have := HR2.out.1.lt; omega))) (by simp [Act.eval]) wr.heap.size 1 ((xx, D1, m1), (yy, D2, m2)) hblk (by simp [Act.eval]) hnjb (by omega) ?_; intro g' cap' V hOV hGV horV; have hkV : ∀ k, k < wr.heap.size → k ≠ g2 → ∀ i, V.cell? ⟨k, i, none⟩ = wr.cell? ⟨k, i, none⟩ := (fun k h1 h2 i => (World.cell?_of_block (a := ⟨k, i, none⟩) (hGV.block k (by omega) (fun e => h2 (by injection e)))).trans (hZb.cell (p := ⟨k, i, none⟩) h1)); have HKV := Lib.hid hkV; have HOV := Lib.hid hOV; have HGV := Lib.hid hGV; have HZB := Lib.hid hZb; clear hOV hblk hZ))
                    go_wp2_with fail
                    go_roundg (gk - 1)
                    case measure => omega
                    case rel =>
                      refine ⟨j + 1, g', cap', ds ++ [((xx, D1, m1), (yy, D2, m2))], by go_num, by omega, by rw [← Nat.add_assoc, ← HNJ.out], ?_, by omega⟩
                      refine ⟨?_, ?_, ?_, ?_⟩
                      · rw [← Nat.add_assoc, ← HNJ.out, ← List.append_assoc]; exact HOV.out
                      · rw [List.map_append, HR2.out.2.1, HZ.out]; rfl
                      · intro p hp
                        rcases List.mem_append.1 hp with hp | hp
                        · exact HR2.out.2.2.1 p hp
                        · simp at hp
                          subst hp
                          exact ⟨⟨hcx, HUX.out⟩, ⟨hcy, HUY.out⟩⟩
                      · exact ⟨fun k hk hkg => (HGV.out.block k (by omega) (fun e => by cases e; omega)).trans ((HZB.out.block k (by omega)).trans (HBF.out.1 k hk hkg)), HGV.out.os.trans (HZB.out.os.trans HBF.out.2.1), HGV.out.tape.trans (HZB.out.tape.trans HBF.out.2.2.1), HGV.out.output.trans (HZB.out.output.trans HBF.out.2.2.2.1), Nat.le_trans (Nat.le_trans HBF.out.2.2.2.2 HZB.out.size) HGV.out.size⟩
                  · obtain rfl : j = lx := by omega
                    go_wp2_with fail
                    go_roundg (G - 1)
                    case measure => omega
                    case rel =>
                      have hz : (x.kids.zip y.kids).take j = x.kids.zip y.kids := List.take_of_length_le (by rw [List.length_zip, ← HLX.out]; exact Nat.min_le_left _ _)
                      have hdl : ds.length = j := by
                        have h1 := congrArg List.length HR2.out.2.1
                        rw [hz, List.length_map, List.length_zip, ← HLX.out, ← HLY.out] at h1
                        omega
                      have hql3 : (qs ++ ds).length = nj := by rw [List.length_append, hdl, ← HNQ.out, HNJ.out]
                      have hmap : (qs ++ ds).map prE = qs.map prE ++ x.kids.zip y.kids := by rw [List.map_append, HR2.out.2.1, hz]
                      refine ⟨g2, c2, qs ++ ds, (x.kids, y.kids) :: S, es.push ⟨kv ⟨gx, ox, none⟩ ⟨gy, oy, none⟩ j, .bool true, clock⟩, clock + 1, by rw [hql3], ?_⟩
                      exact {
                        row := by rw [hql3, HNJ.out]; exact HR2.out.1
                        inv := by rw [hmap]; exact HINV.out.push HALO.out
                        few := by
                          rw [hmap, stackN_append, stackN_zip _ _ HALO.out.2.2.2]
                          have := nodes_kids x
                          omega
                        most := Nat.le_trans (Nat.sub_le _ _) HRR.out.most
                        stk := fun p hp => by
                          rcases List.mem_append.1 hp with hp | hp
                          · exact HRR.out.stk p (by simp [hp])
                          · exact HR2.out.2.2.1 p hp
                        map := (HR2.out.2.2.2.1 _ (by omega) (by omega)).trans HM3.out
                        ents := fun e he => by
                          simp only [Array.toList_push, List.mem_append, List.mem_singleton] at he
                          rcases he with he | rfl
                          · obtain ⟨p, q, ks1, ks2, f1, f2, f3, f4⟩ := HRR.out.ents e he
                            exact ⟨p, q, ks1, ks2, f1, f2, by simp [f3], f4⟩
                          · exact ⟨_, _, x.kids, y.kids, by rw [← HLX.out], rfl, by simp, by rw [← HLX.out]; exact hlp, HALO.out.2.2.2, HSP.out.1.2, HSP.out.2.2⟩
                        bel := hbw2 }
end Go.Proofs.YtkfnbakhbbcfcaaGreatDoor
