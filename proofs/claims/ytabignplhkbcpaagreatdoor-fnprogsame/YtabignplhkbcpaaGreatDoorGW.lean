/-
  BentMath, AppR, TwiceMath: these texts one behind the other, as a claim holds at most 60 files.
-/
import Derived.Test.YtabignplhkbcpaaGreatDoorGU
import Derived.Test.YtabignplhkbcpaaGreatDoorGX
import Derived.Test.YtabignplhkbcpaaGreatDoorGQ
namespace Go.Proofs.YtabignplhkbcpaaGreatDoor

def sayNone : St := ⟨2, ⟨#[]⟩, ⟨#[]⟩, .mk 0 0 ⟨#[]⟩ [], .mk 0 0 ⟨#[]⟩ []⟩
def emptyS : St := ⟨0, ⟨#[]⟩, ⟨#[]⟩, .mk 0 0 ⟨#[]⟩ [], .mk 0 0 ⟨#[]⟩ []⟩
theorem do_sayNone : doS sayNone = none := by kernel_rfl
theorem do_empty : doS emptyS = some .noD := by kernel_rfl
theorem deedsL_bad : ∀ (xs : List St) (s : St), doS s = none → deedsL (xs ++ [s]) = none := by
  intro xs s h
  refine deedsL_none (j := xs.length) (by simp) ?_
  simpa using h
theorem doP_bad (xs : List St) : doP (xs ++ [sayNone]) = none := by
  unfold doP
  split
  · exact deedsL_bad xs _ do_sayNone
  · rfl
theorem doP_long {xs : List St} (h : 16 < xs.length) : doP xs = none := by
  unfold doP
  rw [if_neg (by omega)]
theorem doP_nil : doP [] = none := rfl
theorem doP_ahead {xs : List St} {ds : List De} (h : doP xs = some ds) (hl : xs.length < 16) : doP (emptyS :: xs) = some (.noD :: ds) := by
  obtain ⟨h1, _, _⟩ := doP_some h
  unfold doP
  rw [if_pos ⟨by simp, by simp; omega⟩]
  have := deedsL_append [emptyS] xs [.noD] ds (by simp [deedsL, do_empty]) h1
  simpa using this
theorem bent_case {xs : List St} (h : (doP xs).isSome = true) (hl : xs.length < 16) : runP (emptyS :: xs) = runP xs ∧ ((typeP xs = -1 ∧ typeP (emptyS :: xs) = -1) ∨ (0 ≤ typeP xs ∧ typeP (emptyS :: xs) = typeP xs + 1)) := by
  cases hd : doP xs with
  | none => rw [hd] at h; cases h
  | some ds =>
    unfold runP typeP
    rw [hd, doP_ahead hd hl]
    refine ⟨run_empty ds, ?_⟩
    show (typeFrom ds [] [] 0 = -1 ∧ typeFrom (.noD :: ds) [] [] 0 = -1) ∨ (0 ≤ typeFrom ds [] [] 0 ∧ typeFrom (.noD :: ds) [] [] 0 = typeFrom ds [] [] 0 + 1)
    rw [type_empty]
    exact typeFrom_later ds [] [] 0
theorem ok_ahead {xs : List St} (h : (doP xs).isSome = true) : (doP (emptyS :: xs)).isSome = decide (xs.length < 16) := by
  cases hd : doP xs with
  | none => rw [hd] at h; cases h
  | some ds =>
    by_cases hl : xs.length < 16
    · rw [doP_ahead hd hl, decide_eq_true hl]; rfl
    · rw [doP_long (by simp; omega), decide_eq_false hl]; rfl
theorem ok_len {xs : List St} (h : (doP xs).isSome = true) : 1 ≤ xs.length ∧ xs.length ≤ 16 := by
  cases hd : doP xs with
  | none => rw [hd] at h; cases h
  | some ds => exact (doP_some hd).2
end Go.Proofs.YtabignplhkbcpaaGreatDoor

namespace Go.Proofs.YtabignplhkbcpaaGreatDoor
open Go.RowKit

theorem wpList_appR {ops : Array Oper} {rest : List Oper} {o : Oper} {a : Act} {W : World} {Q : Exit → Act → World → Prop} (hgd : o.guard = none) (s x : Operand)
    (ho : o.op = .call { callee := .builtin .append, args := #[s, x], argTypes := #[23, 23] })
    (lo0 : Nat) (v : Value) (n : Nat) (ds : List Ld) (hs : a.eval s = v) (hown : W.ownsRow lo0 36 11 v n (rowL ds))
    (g off m c : Nat) (es : List Ld) (hm : es.length = m) (hx : a.eval x = .slice (some ⟨g, off, none⟩) m c) (hcell : ∀ j u, (rowL es)[j]? = some u → W.cell? ⟨g, off + j, none⟩ = some u)
    (b1 : n + m ≤ 100000) (hbase : lo0 ≤ W.heap.size)
    (h : ∀ v' w', w'.ownsRow lo0 36 11 v' (n + m) (rowL (ds ++ es)) → Below lo0 W w' → wpList Tryz.prog ops Q rest (a.put o.dst v') w') : wpList Tryz.prog ops Q (o :: rest) a W := by
  obtain ⟨i0, hi, hz0, hz1, hz2⟩ := info_lines
  refine wpList_append_own_at W hgd s x 23 ho lo0 36 i0 (.agg zeroSt) 11 i0.bytes Tryz.underlying23 hi hz0 hz1 rfl rfl (by decide) v n (rowL ds) hs hown ⟨g, off, none⟩ m c (rowL es) hx (by rw [rowL_length, hm])
    (fun j u hj => by
      have hp : (⟨g, off, none⟩ : Addr).add j = ⟨g, off + j, none⟩ := by unfold Addr.add; split <;> simp_all
      rw [hp]; exact hcell j u hj)
    (rowL_one' es) (by unfold maxLen; omega) (Nat.le_trans (Nat.mul_le_mul b1 hz2) (by decide)) hbase ?_
  intro v' w' r1 r2 _ _
  refine h v' w' (by rw [rowL_app]; exact r1) ?_
  refine (Below.refl lo0 W).grown r2 hbase fun j ej => ?_
  rcases hown.2 with ⟨rfl, _⟩ | ⟨g, cap, cur, rfl, hb, _, _⟩
  · simp [Value.ownBlock] at ej
  · obtain rfl : g = j := by simpa [Value.ownBlock] using ej
    exact hb
theorem cells_blk' {Y : World} {n : Nat} {d : Ld} (h : Y.heap[n]? = some (.cells (ldC d).toArray 36 (0, 0))) : ∀ j u, (rowL [d])[j]? = some u → Y.cell? ⟨n, 0 + j, none⟩ = some u := by
  intro j u hj
  have hcell : Y.cell? ⟨n, j, none⟩ = (ldC d).toArray[j]? := by simp [World.cell?, h]
  rw [Nat.zero_add, hcell, List.getElem?_toArray]
  simpa [rowL] using hj
/-- A row of one line, just made. -/
theorem owns_one (w : World) (d : Ld) : (w.alloc (.cells (ldC d).toArray 36)).ownsRow w.heap.size 36 11 (.slice (some ⟨w.heap.size, 0, none⟩) 1 1) 1 (rowL [d]) :=
  ⟨rfl, .inr ⟨w.heap.size, 1, (ldC d).toArray, rfl, Nat.le_refl _, World.alloc_heap_new w _, Nat.le_refl _, by simp [maxLen], rfl, by simp [rowL, ldC]⟩⟩
theorem parts_app {W : World} {B : Nat} {ds es : List Ld} (h : ∀ d ∈ ds, (d.s.e.kids.length ≤ d.c1 ∧ d.s.t.kids.length ≤ d.c2) ∧ KidsU W B d.A1 d.s.e.kids ∧ KidsU W B d.A2 d.s.t.kids) (h2 : ∀ d ∈ es, d.s.e.kids = [] ∧ d.s.t.kids = []) :
    ∀ d ∈ ds ++ es, (d.s.e.kids.length ≤ d.c1 ∧ d.s.t.kids.length ≤ d.c2) ∧ KidsU W B d.A1 d.s.e.kids ∧ KidsU W B d.A2 d.s.t.kids := by
  intro d hd
  rcases List.mem_append.1 hd with hd | hd
  · exact h d hd
  · rw [(h2 d hd).1, (h2 d hd).2]
    exact ⟨⟨Nat.zero_le _, Nat.zero_le _⟩, .nil, .nil⟩
end Go.Proofs.YtabignplhkbcpaaGreatDoor

namespace Go.Proofs.YtabignplhkbcpaaGreatDoor

def look {α : Type} (z : α) (ss : List ByteArray) (vs : List α) (s : ByteArray) : Option α := (lastOf ss s).map (fun i => vs.getD i z)
theorem look_more {α : Type} (z : α) {ss : List ByteArray} {vs : List α} (h : ss.length = vs.length) (n : ByteArray) (v : α) (s : ByteArray) : look z (ss ++ [n]) (vs ++ [v]) s = if s = n then some v else look z ss vs s := by
  unfold look
  rw [lastOf_snoc']
  by_cases e : s = n
  · rw [if_pos e, if_pos e, h]
    simp
  · rw [if_neg e, if_neg e]
    cases hl : lastOf ss s with
    | none => rfl
    | some i =>
      have hi : i < ss.length := findL_lt hl
      simp only [Option.map_some]
      rw [List.getD_eq_getElem?_getD, List.getD_eq_getElem?_getD, List.getElem?_append_left (by omega)]
theorem typ_look {ss ss' vs vs' : List ByteArray} (h : ∀ s, look ByteArray.empty ss vs s = look ByteArray.empty ss' vs' s) (p : Pt) : p.typ ss vs = p.typ ss' vs' := by
  induction p with
  | num n => rfl
  | name s =>
    have e : ∀ (a b : List ByteArray), Pt.typ a b (.name s) = (look ByteArray.empty a b s).getD ByteArray.empty := fun a b => by
      rw [Pt.typ]
      unfold look
      cases lastOf a s <;> rfl
    rw [e, e, h s]
  | «as» s a ih => rw [Pt.typ, Pt.typ, ih]
  | two s a b ia ib => rw [Pt.typ, Pt.typ, ia, ib]
theorem of_look {ss ss' : List ByteArray} {vs vs' : List Int} (h : ∀ s, look 0 ss vs s = look 0 ss' vs' s) (p : Pt) : p.of ss vs = p.of ss' vs' := by
  induction p with
  | num n => rfl
  | name s =>
    have e : ∀ (a : List ByteArray) (b : List Int), Pt.of a b (.name s) = (look 0 a b s).map cutN := fun a b => by
      rw [Pt.of]
      unfold look
      cases lastOf a s <;> rfl
    rw [e, e, h s]
  | «as» s a ih => rw [Pt.of, Pt.of, ih]
  | two s a b ia ib => rw [Pt.of, Pt.of, ia, ib]
theorem typeFrom_look (ds : List De) : ∀ (ss vs ss' vs' : List ByteArray) (i : Nat), ss.length = vs.length → ss'.length = vs'.length → (∀ s, look ByteArray.empty ss vs s = look ByteArray.empty ss' vs' s) → typeFrom ds ss vs i = typeFrom ds ss' vs' i := by
  induction ds with
  | nil => intro ss vs ss' vs' i _ _ _; rfl
  | cons d ds ih =>
    intro ss vs ss' vs' i h1 h2 h
    have hf : fitsD ss vs d = fitsD ss' vs' d := by cases d <;> simp only [fitsD, typ_look h]
    rw [typeFrom, typeFrom, hf]
    split
    · refine ih _ _ _ _ _ (told_len h1 d) (told_len h2 d) fun s => ?_
      cases d with
      | letD n t p => show look ByteArray.empty (ss ++ [n]) (vs ++ [t]) s = look ByteArray.empty (ss' ++ [n]) (vs' ++ [t]) s; rw [look_more _ h1, look_more _ h2, h s]
      | noD => exact h s
      | sayD p => exact h s
      | whenD p q => exact h s
    · rfl
theorem runFrom_look (ds : List De) : ∀ (ss ss' : List ByteArray) (vs vs' out : List Int), ss.length = vs.length → ss'.length = vs'.length → (∀ s, look 0 ss vs s = look 0 ss' vs' s) → runFrom ds ss vs out = runFrom ds ss' vs' out := by
  induction ds with
  | nil => intro ss ss' vs vs' out _ _ _; rfl
  | cons d ds ih =>
    intro ss ss' vs vs' out h1 h2 h
    have hf : saysD ss vs d = saysD ss' vs' d := by cases d <;> simp only [saysD, of_look h]
    rw [runFrom, runFrom, hf]
    split
    · rfl
    · refine ih _ _ _ _ _ (toldI_len h1 d) (toldI_len h2 d) fun s => ?_
      cases d with
      | letD n t p => show look 0 (ss ++ [n]) (vs ++ [(p.of ss vs).getD 0]) s = look 0 (ss' ++ [n]) (vs' ++ [(p.of ss' vs').getD 0]) s; rw [look_more _ h1, look_more _ h2, h s, of_look h]
      | noD => exact h s
      | sayD p => exact h s
      | whenD p q => exact h s
theorem typeFrom_stuck (ds es : List De) : ∀ (ss vs : List ByteArray) (i : Nat), typeFrom ds ss vs i ≠ -1 → typeFrom (ds ++ es) ss vs i = typeFrom ds ss vs i := by
  induction ds with
  | nil => intro ss vs i h; exact absurd rfl h
  | cons d ds ih =>
    intro ss vs i h
    rw [typeFrom] at h
    rw [List.cons_append, typeFrom, typeFrom]
    split
    · rename_i hf
      rw [if_pos hf] at h
      exact ih _ _ _ h
    · rfl
theorem look_twice {α : Type} (z : α) {ss : List ByteArray} {vs : List α} (h : ss.length = vs.length) (n : ByteArray) (v : α) (s : ByteArray) : look z (ss ++ [n] ++ [n]) (vs ++ [v] ++ [v]) s = look z (ss ++ [n]) (vs ++ [v]) s := by
  rw [look_more _ (by simp [h]), look_more _ h]
  split <;> rfl
theorem allV_len (ds : List De) : ∀ {ss vs : List ByteArray}, ss.length = vs.length → (allS ss ds).length = (allV vs ds).length := by
  induction ds with
  | nil => intro ss vs h; exact h
  | cons d ds ih => intro ss vs h; exact ih (told_len h d)
theorem run_twice (A B : List De) (n t : ByteArray) (z : Int) : runFrom (A ++ .letD n t (.num z) :: .letD n t (.num z) :: B) [] [] [] = runFrom (A ++ .letD n t (.num z) :: B) [] [] [] := by
  cases h : (runFrom A [] [] []).2
  · rw [runFrom_stuck _ _ _ _ _ h, runFrom_stuck _ _ _ _ _ h]
  · rw [runFrom_append _ _ _ _ _ h, runFrom_append _ _ _ _ _ h]
    have hl := allS_len A (ss := []) (vs := []) rfl
    generalize (runFrom A [] [] []).1 = out
    generalize allS [] A = ss at *
    generalize allI [] [] A = vs at *
    show runFrom B (ss ++ [n] ++ [n]) (vs ++ [z] ++ [z]) (out ++ [] ++ []) = runFrom B (ss ++ [n]) (vs ++ [z]) (out ++ [])
    rw [List.append_nil, List.append_nil]
    exact runFrom_look B _ _ _ _ _ (by simp [hl]) (by simp [hl]) (look_twice 0 hl n z)
theorem type_twice (A B : List De) (n t : ByteArray) (z : Int) :
    (typeFrom (A ++ .letD n t (.num z) :: B) [] [] 0 = -1 ∧ typeFrom (A ++ .letD n t (.num z) :: .letD n t (.num z) :: B) [] [] 0 = -1) ∨
    (0 ≤ typeFrom (A ++ .letD n t (.num z) :: B) [] [] 0 ∧ typeFrom (A ++ .letD n t (.num z) :: B) [] [] 0 ≤ A.length ∧ typeFrom (A ++ .letD n t (.num z) :: .letD n t (.num z) :: B) [] [] 0 = typeFrom (A ++ .letD n t (.num z) :: B) [] [] 0) ∨
    ((A.length : Int) < typeFrom (A ++ .letD n t (.num z) :: B) [] [] 0 ∧ typeFrom (A ++ .letD n t (.num z) :: .letD n t (.num z) :: B) [] [] 0 = typeFrom (A ++ .letD n t (.num z) :: B) [] [] 0 + 1) := by
  by_cases h : typeFrom A [] [] 0 = -1
  · rw [typeFrom_append _ _ _ _ _ h, typeFrom_append _ _ _ _ _ h]
    have hl := allV_len A (ss := []) (vs := []) rfl
    generalize allS [] A = ss at *
    generalize allV [] A = vs at *
    rw [Nat.zero_add, typeFrom, typeFrom]
    by_cases hf : fitsD ss vs (.letD n t (.num z)) = true
    · rw [if_pos hf, if_pos hf]
      have hf2 : fitsD (toldS ss (.letD n t (.num z))) (toldV vs (.letD n t (.num z))) (.letD n t (.num z)) = true := hf
      rw [typeFrom, if_pos hf2]
      have e : typeFrom B (toldS (toldS ss (.letD n t (.num z))) (.letD n t (.num z))) (toldV (toldV vs (.letD n t (.num z))) (.letD n t (.num z))) (A.length + 1 + 1) = typeFrom B (toldS ss (.letD n t (.num z))) (toldV vs (.letD n t (.num z))) (A.length + 1 + 1) :=
        typeFrom_look B _ _ _ _ _ (by simp [toldS, toldV, hl]) (by simp [toldS, toldV, hl]) (look_twice _ hl n t)
      rw [e]
      rcases typeFrom_later B (toldS ss (.letD n t (.num z))) (toldV vs (.letD n t (.num z))) (A.length + 1) with h1 | h1
      · exact .inl h1
      · exact .inr (.inr ⟨by omega, h1.2⟩)
    · rw [if_neg hf, if_neg hf]
      exact .inr (.inl ⟨by omega, by omega, rfl⟩)
  · rw [typeFrom_stuck _ _ _ _ _ h, typeFrom_stuck _ _ _ _ _ h]
    rcases typeFrom_range A [] [] 0 with h1 | h1
    · exact absurd h1 h
    · exact .inr (.inl ⟨by omega, by omega, rfl⟩)
theorem deedsL_drop {xs : List St} {ds : List De} (k : Nat) (h : deedsL xs = some ds) : deedsL (xs.drop k) = some (ds.drop k) := by
  rw [deedsL_some] at h ⊢
  obtain ⟨h1, h2⟩ := h
  refine ⟨by simp [h1], fun j hj hd => ?_⟩
  rw [List.getElem_drop, List.getElem_drop]
  exact h2 _ _ _
/-- A line that tells a number, put in twice. -/
theorem twice_case {xs : List St} {m : Nat} (hm : m < xs.length) (hl : xs.length < 16) (h : (doP xs).isSome = true) (hk : xs[m].kind = 1) (he : xs[m].e.kind = 1) :
    runP (xs.take (m + 1) ++ [xs[m]] ++ xs.drop (m + 1)) = runP xs ∧ ((typeP xs = -1 ∧ typeP (xs.take (m + 1) ++ [xs[m]] ++ xs.drop (m + 1)) = -1) ∨ (0 ≤ typeP xs ∧ typeP xs ≤ m ∧ typeP (xs.take (m + 1) ++ [xs[m]] ++ xs.drop (m + 1)) = typeP xs) ∨ ((m : Int) < typeP xs ∧ typeP (xs.take (m + 1) ++ [xs[m]] ++ xs.drop (m + 1)) = typeP xs + 1)) := by
  cases hd : doP xs with
  | none => rw [hd] at h; cases h
  | some ds =>
    obtain ⟨hds, h1, h2⟩ := doP_some hd
    obtain ⟨hlen, hall⟩ := (deedsL_some xs ds).1 hds
    have hm' : m < ds.length := by omega
    have hx := hall m hm hm'
    obtain ⟨_, hst, _⟩ := doS_some hx
    have hdd : ∃ n t z, ds[m] = .letD n t (.num z) := by
      generalize ds[m] = d at hst
      rw [← hst] at hk he
      cases d with
      | letD n t p =>
        cases p with
        | num z => exact ⟨n, t, z, rfl⟩
        | name s => simp [De.st, Pt.ex, Ex.kind] at he
        | two s a b => simp [De.st, Pt.ex, Ex.kind] at he
        | «as» s a => simp [De.st, Pt.ex, Ex.kind] at he
      | noD => simp [De.st] at hk
      | sayD p => simp [De.st] at hk
      | whenD p q => simp [De.st] at hk
    obtain ⟨n, t, z, hdz⟩ := hdd
    have e1 : ds = ds.take m ++ ds[m] :: ds.drop (m + 1) := by rw [List.getElem_cons_drop, List.take_append_drop]
    have e2 : ds.take (m + 1) ++ [ds[m]] ++ ds.drop (m + 1) = ds.take m ++ ds[m] :: ds[m] :: ds.drop (m + 1) := by rw [List.take_succ_eq_append_getElem hm', List.append_assoc, List.append_assoc]; rfl
    have hy : doP (xs.take (m + 1) ++ [xs[m]] ++ xs.drop (m + 1)) = some (ds.take m ++ ds[m] :: ds[m] :: ds.drop (m + 1)) := by
      unfold doP
      rw [if_pos ⟨by simp; omega, by simp; omega⟩, ← e2]
      exact deedsL_append _ _ _ _ (deedsL_append _ _ _ _ (deedsL_take _ _ _ hds) (by simp [deedsL, hx])) (deedsL_drop _ hds)
    have r1 : runP xs = runFrom (ds.take m ++ ds[m] :: ds.drop (m + 1)) [] [] [] := by unfold runP; rw [hd, ← e1]
    have r2 : typeP xs = typeFrom (ds.take m ++ ds[m] :: ds.drop (m + 1)) [] [] 0 := by unfold typeP; rw [hd, ← e1]
    have r3 : runP (xs.take (m + 1) ++ [xs[m]] ++ xs.drop (m + 1)) = runFrom (ds.take m ++ ds[m] :: ds[m] :: ds.drop (m + 1)) [] [] [] := by unfold runP; rw [hy]
    have r4 : typeP (xs.take (m + 1) ++ [xs[m]] ++ xs.drop (m + 1)) = typeFrom (ds.take m ++ ds[m] :: ds[m] :: ds.drop (m + 1)) [] [] 0 := by unfold typeP; rw [hy]
    rw [r1, r2, r3, r4, hdz]
    refine ⟨run_twice _ _ n t z, ?_⟩
    have hq := type_twice (ds.take m) (ds.drop (m + 1)) n t z
    rw [List.length_take, Nat.min_eq_left (by omega)] at hq
    exact hq
end Go.Proofs.YtabignplhkbcpaaGreatDoor
