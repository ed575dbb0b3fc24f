/-
  'laws.FnProgWhen' returns true at every code: with one line more, that says something when it is to, a drawn program says one number more or none.
  Conditions: the library's variables and the program's own error hold what their initialisers lay (tied to the program's text); every list of bytes.
-/
import Derived.Test.YtabignplhkbcpaaGreatDoorGU
import Derived.Test.YtabignplhkbcpaaGreatDoorGY
import Derived.Test.YtabignplhkbcpaaGreatDoorSpecRun
import Derived.Test.YtabignplhkbcpaaGreatDoorGX
import Derived.Test.YtabignplhkbcpaaGreatDoorIsErr
import Derived.WalkKit
import Derived.ProofKit
import Derived.OpenShut
import Derived.ShutString
import Derived.ChangeOld
import Derived.Below
import Derived.Lib.SmallJoins
import Derived.SliceStrings
namespace Go.Proofs.YtabignplhkbcpaaGreatDoor.fnProgWhen
open Go.ChangeShapes Go.WideShapes Go.ChangeAt Go.RowKit Go.Joins
open Go.ChangeMaps (open_string shut_string)


theorem says_len {ss : List ByteArray} {vs : List Int} {d : De} {ns : List Int} (h : saysD ss vs d = some ns) : ns.length ≤ 1 := by
  cases d with
  | noD => simp only [saysD, Option.some.injEq] at h; subst h; simp
  | letD n t p =>
    simp only [saysD, Option.map_eq_some_iff] at h
    obtain ⟨_, _, rfl⟩ := h
    simp
  | sayD p =>
    simp only [saysD, Option.map_eq_some_iff] at h
    obtain ⟨_, _, rfl⟩ := h
    simp
  | whenD p q =>
    simp only [saysD, Option.bind_eq_some_iff, Option.map_eq_some_iff] at h
    obtain ⟨_, _, _, _, rfl⟩ := h
    split <;> simp
theorem runFrom_len (ds : List De) : ∀ (ss : List ByteArray) (vs out : List Int), (runFrom ds ss vs out).1.length ≤ out.length + ds.length := by
  induction ds with
  | nil => intro ss vs out; rw [runFrom]; simp
  | cons d ds ih =>
    intro ss vs out
    rw [runFrom]
    cases h : saysD ss vs d with
    | none => simp
    | some ns =>
      have h1 := ih (toldS ss d) (toldI ss vs d) (out ++ ns)
      have h2 := says_len h
      rw [List.length_append] at h1
      rw [List.length_cons]
      show (runFrom ds (toldS ss d) (toldI ss vs d) (out ++ ns)).1.length ≤ _
      omega
theorem runP_len (xs : List St) : (runP xs).1.length ≤ 16 := by
  unfold runP
  cases h : doP xs with
  | none => simp
  | some ds =>
    have h1 := doP_some h
    have h2 := (doP_fine h).1
    have h3 := runFrom_len ds [] [] []
    simp only [List.length_nil, Nat.zero_add] at h3
    show (runFrom ds [] [] []).1.length ≤ 16
    omega
theorem bel_allocW {w1 W : World} (h : Below w1.heap.size w1 W) (o : Obj) : Below w1.heap.size w1 (W.alloc o) := h.alloc h.size o
theorem bel_thenW {w1 W W' : World} (h : Below w1.heap.size w1 W) (h2 : Below W.heap.size W W') : Below w1.heap.size w1 W' := h.trans (h2.mono h.size)
theorem wp_namedW {ops : Array Oper} {o : Oper} {a : Act} {Y : World} {K : Act → World → Prop} {Q : Exit → Act → World → Prop} {E : Prop}
    (h : ∀ Z, Z = Y → if Region.wanted o (yielded ops a.tmps) = true then Oper.wp Tryz.prog o a Z K Q else E) : if Region.wanted o (yielded ops a.tmps) = true then Oper.wp Tryz.prog o a Y K Q else E := h Y rfl
theorem cell_made4a (w : World) (cs ds : Array Value) (t u : TypeId) (j : Nat) (v : Value) (h : cs[j]? = some v) : ((w.alloc (.cells cs t)).alloc (.cells ds u)).cell? ⟨w.heap.size, j, none⟩ = some v :=
  (World.cell?_of_block (a := ⟨w.heap.size, j, none⟩) (Below.heap_alloc _ _ _ (by simp))).trans (cell_made4 w _ _ j _ h)
theorem cell_made4b (w : World) (cs ds : Array Value) (t u : TypeId) (j : Nat) (v : Value) (h : ds[j]? = some v) : ((w.alloc (.cells cs t)).alloc (.cells ds u)).cell? ⟨w.heap.size + 1, j, none⟩ = some v := by
  have := cell_made4 (w.alloc (.cells cs t)) ds u j _ h
  rwa [World.size_alloc] at this
theorem keep8 {V W : World} {a : Nat} {u0 u1 u2 u3 v0 v1 v2 v3 : Value} (h : Below V.heap.size V W) (ha : a < V.heap.size) (hb : a + 1 < V.heap.size)
    (x : V.cell? ⟨a, 0, none⟩ = some u0 ∧ V.cell? ⟨a, 1, none⟩ = some u1 ∧ V.cell? ⟨a, 2, none⟩ = some u2 ∧ V.cell? ⟨a, 3, none⟩ = some u3 ∧ V.cell? ⟨a + 1, 0, none⟩ = some v0 ∧ V.cell? ⟨a + 1, 1, none⟩ = some v1 ∧ V.cell? ⟨a + 1, 2, none⟩ = some v2 ∧ V.cell? ⟨a + 1, 3, none⟩ = some v3) :
    W.cell? ⟨a, 0, none⟩ = some u0 ∧ W.cell? ⟨a, 1, none⟩ = some u1 ∧ W.cell? ⟨a, 2, none⟩ = some u2 ∧ W.cell? ⟨a, 3, none⟩ = some u3 ∧ W.cell? ⟨a + 1, 0, none⟩ = some v0 ∧ W.cell? ⟨a + 1, 1, none⟩ = some v1 ∧ W.cell? ⟨a + 1, 2, none⟩ = some v2 ∧ W.cell? ⟨a + 1, 3, none⟩ = some v3 := by
  obtain ⟨x0, x1, x2, x3, x4, x5, x6, x7⟩ := x
  exact ⟨(h.cell (p := ⟨a, 0, none⟩) ha).trans x0, (h.cell (p := ⟨a, 1, none⟩) ha).trans x1, (h.cell (p := ⟨a, 2, none⟩) ha).trans x2, (h.cell (p := ⟨a, 3, none⟩) ha).trans x3, (h.cell (p := ⟨a + 1, 0, none⟩) hb).trans x4, (h.cell (p := ⟨a + 1, 1, none⟩) hb).trans x5, (h.cell (p := ⟨a + 1, 2, none⟩) hb).trans x6, (h.cell (p := ⟨a + 1, 3, none⟩) hb).trans x7⟩
theorem stWts_more (xs : List St) (s : St) : stWts (xs ++ [s]) = stWts xs + (s.wt + 1) := by unfold stWts; rw [List.map_append, List.sum_append]; simp
theorem made_one2 (w : World) (a b : Obj) : ((w.alloc a).alloc b).heap[w.heap.size]? = some a := (Below.heap_alloc _ _ _ (by simp)).trans (World.alloc_heap_new w a)
theorem grow_belowW {w W w1 : World} {B sz n : Nat} {t : TypeId} {v : Value} {xs : List Value} (hB : Below B w W) (hn : B ≤ W.heap.size) (hrow : W.ownsRow B t sz v n xs) (hg : W.grownBy w1 v.ownBlock) : Below B w w1 := by
  refine hB.grown hg hn fun j ej => ?_
  rcases hrow.2 with ⟨rfl, _⟩ | ⟨g, cap, cur, rfl, hb, _, _⟩
  · simp [Value.ownBlock] at ej
  · obtain rfl : g = j := by simpa [Value.ownBlock] using ej
    exact hb
theorem keepB {Y Z : World} {n m k c : Nat} {o : Obj} (h : Y.heap[n]? = some o) (hne : n ≠ m) (hg : Y.grownBy Z (Value.slice (some ⟨m, 0, none⟩) k c).ownBlock) : Z.heap[n]? = some o :=
  (hg.block n (Array.getElem?_eq_some_iff.1 h).1 (fun e => hne (by simpa [Value.ownBlock] using e))).trans h
theorem cells_blk {Y : World} {n : Nat} {d : Ld} (h : Y.heap[n]? = some (.cells (ldC d).toArray 36 (0, 0))) : ∀ j u, (rowL [d])[j]? = some u → Y.cell? ⟨n, 0 + j, none⟩ = some u := by
  intro j u hj
  have hcell : Y.cell? ⟨n, j, none⟩ = (ldC d).toArray[j]? := by simp [World.cell?, h]
  rw [Nat.zero_add, hcell, List.getElem?_toArray]
  simpa [rowL] using hj
theorem new_parts {W : World} {B : Nat} {ds : List Ld} {s : St} (hs : s.e.kids = [] ∧ s.t.kids = []) (h : ∀ d ∈ ds, (d.s.e.kids.length ≤ d.c1 ∧ d.s.t.kids.length ≤ d.c2) ∧ KidsU W B d.A1 d.s.e.kids ∧ KidsU W B d.A2 d.s.t.kids) :
    ∀ d ∈ ds ++ [(⟨s, none, none, 0, 0⟩ : Ld)], (d.s.e.kids.length ≤ d.c1 ∧ d.s.t.kids.length ≤ d.c2) ∧ KidsU W B d.A1 d.s.e.kids ∧ KidsU W B d.A2 d.s.t.kids := by
  intro d hd
  rcases List.mem_append.1 hd with hd | hd
  · exact h d hd
  · simp at hd
    subst hd
    rw [hs.1, hs.2]
    exact ⟨⟨Nat.le_refl _, Nat.le_refl _⟩, .nil, .nil⟩

set_option maxRecDepth 100000 in
set_option maxHeartbeats 8000000 in
theorem walk (A : Option Addr) (len cap : Nat) (w : World) (h1 : InCode w A len cap) (hlaid : LaidW w ∧ ∃ a, LaidN w a) :
    Calls Tryz.prog 8 #[.slice A len cap] w fun r w' => r = .returned (.bool true) ∧ Below w.heap.size w w' := by
  obtain ⟨hL, ad, hN⟩ := hlaid
  by_cases hl1 : 1048576 < len
  · have q1 : decide ((1048576 : Int) < (len : Int)) = true := by simp; omega
    clear h1
    go_enter Tryz.func8, Tryz.ntmps8
    go_wp2_with fail
    go_ret
    exact ⟨rfl, Below.refl _ _⟩
  have q1 : decide ((1048576 : Int) < (len : Int)) = false := by simp; omega
  have HD := Lib.hid (drawProgRun_any A len cap w h1)
  have HL := Lib.hid hL
  have HLN := Lib.hid hN
  clear h1 hL hN
  go_enter Tryz.func8, Tryz.ntmps8
  go_wp2_with fail
  refine HD.out.mono ?_
  rintro r w1 ⟨A2, c2, xs, rfl, hc2, hX, hn17, hwt, hb1⟩
  have HPR := Lib.hid (fun (W : World) (hW : Below w1.heap.size w1 W) (ys : List St) (A' : Option Addr) (c' : Nat) (hY : LinesU W W.heap.size A' ys) (hwy : stWts ys ≤ 2 ^ 29) => progRun_any ys A' c' W.heap.size ad W hY (Nat.le_refl _) hwy (HL.out.below (hb1.trans (hW.mono hb1.size))) (LaidN.below HLN.out (hb1.trans (hW.mono hb1.size))))
  have HP0 := Lib.hid (HPR.out w1 (Below.refl _ _) xs A2 c2 hX (by omega))
  have HSR := Lib.hid (fun (W : World) (hW : Below w1.heap.size w1 W) => specProgRun_any xs A2 c2 w1.heap.size W (hX.keep hW).lines hW.size (by omega))
  unfold GivesI at HPR HP0
  obtain ⟨ds, hds, hsl, hkids⟩ := hX.ld (Nat.le_refl _)
  have HDS := Lib.hid hds
  have HSL := Lib.hid hsl
  have HKD := Lib.hid hkids
  have hdl : ds.length = xs.length := by rw [← hds, List.length_map]
  have hpos0 : (runP xs).2 = true → 1 ≤ xs.length := fun h => by obtain ⟨_, hd, _⟩ := runP_ok h; exact (doP_some hd).2.1
  have H0 := Lib.hid (run_when0 (xs := xs))
  have H1 := Lib.hid (run_when1 (xs := xs))
  have hrl := runP_len xs
  generalize hRR : runP xs = RR at *
  obtain ⟨R, ok⟩ := RR
  simp only at HP0 HSR H0 H1 hrl hpos0
  clear hX hRR HD hds hsl hkids
  go_wp2_with fail
  refine HP0.out.mono ?_
  rintro r w2 ⟨v, rfl, hv, hb2⟩
  obtain ⟨Ao, co, rfl, _⟩ := own_slice hv
  clear hv HP0
  go_wp2_with fail
  refine (HSR.out w2 hb2).mono ?_
  rintro r w4 ⟨v, bb, rfl, hrow, hb4'⟩
  have hb4 := hb2.trans (hb4'.mono hb2.size)
  obtain ⟨Aw, cw, rfl, _, _⟩ := hrow.slice
  rw [List.length_map]
  have q3 : (ok != ok) = false := by simp
  have q4 : (ok == ok) = true := by simp
  clear hrow HSR
  cases ok
  · go_wp2_with fail
    go_ret
    exact ⟨rfl, hb1.trans (hb4.mono hb1.size)⟩
  by_cases h16 : 16 ≤ xs.length
  · have g1 : decide ((xs.length : Int) ≥ 16) = true := decide_eq_true (by omega)
    go_wp2_with fail
    go_ret
    exact ⟨rfl, hb1.trans (hb4.mono hb1.size)⟩
  have g1 : decide ((xs.length : Int) ≥ 16) = false := decide_eq_false (by omega)
  have HR0 := Lib.hid (H0.out rfl (by omega))
  have HR1 := Lib.hid (H1.out rfl (by omega))
  clear H0 H1
  obtain ⟨V, hV⟩ : ∃ V, V = (w4.alloc (.cells #[.int .i64 1, .int .i64 1, .string { data := #[] }, .slice none 0 0] 34)).alloc (.cells #[.int .i64 1, .int .i64 0, .string { data := #[] }, .slice none 0 0] 34) := ⟨_, rfl⟩
  have hbV' : Below w4.heap.size w4 V := by rw [hV]; exact ((Below.refl _ w4).alloc (Nat.le_refl _) _).alloc (by simp) _
  have hbV := hb4.trans (hbV'.mono hb4.size)
  have x0 : V.cell? ⟨w4.heap.size, 0, none⟩ = some (.int .i64 1) ∧ V.cell? ⟨w4.heap.size, 1, none⟩ = some (.int .i64 1) ∧ V.cell? ⟨w4.heap.size, 2, none⟩ = some (.string { data := #[] }) ∧ V.cell? ⟨w4.heap.size, 3, none⟩ = some (.slice none 0 0) ∧ V.cell? ⟨w4.heap.size + 1, 0, none⟩ = some (.int .i64 1) ∧ V.cell? ⟨w4.heap.size + 1, 1, none⟩ = some (.int .i64 0) ∧ V.cell? ⟨w4.heap.size + 1, 2, none⟩ = some (.string { data := #[] }) ∧ V.cell? ⟨w4.heap.size + 1, 3, none⟩ = some (.slice none 0 0) := by
    rw [hV]
    exact ⟨cell_made4a w4 _ _ _ _ 0 _ rfl, cell_made4a w4 _ _ _ _ 1 _ rfl, cell_made4a w4 _ _ _ _ 2 _ rfl, cell_made4a w4 _ _ _ _ 3 _ rfl, cell_made4b w4 _ _ _ _ 0 _ rfl, cell_made4b w4 _ _ _ _ 1 _ rfl, cell_made4b w4 _ _ _ _ 2 _ rfl, cell_made4b w4 _ _ _ _ 3 _ rfl⟩
  have hgV : w4.heap.size + 1 < V.heap.size := by rw [hV]; simp
  have K1 := Lib.hid (fun (W : World) (h : Below V.heap.size V W) => keep8 (a := w4.heap.size) h (by omega) hgV x0)
  clear x0
  have hpos : 1 ≤ xs.length := hpos0 rfl
  obtain ⟨g, off, rfl, hgw, hce⟩ : ∃ g off, A2 = some ⟨g, off, none⟩ ∧ g < w1.heap.size ∧ ∀ j u, (rowL ds)[j]? = some u → w1.cell? ⟨g, off + j, none⟩ = some u := by
    rcases HSL.out with h | h
    · have := rowL_length ds; rw [h] at this; simp at this; omega
    · exact h
  have HC0 := Lib.hid hce
  clear hce HSL
  have HCE := Lib.hid (fun (W : World) (h : Below V.heap.size V W) => show ∀ j u, (rowL ds)[j]? = some u → W.cell? ⟨g, off + j, none⟩ = some u from fun j u hu => ((hbV.trans (h.mono hbV.size)).cell (p := ⟨g, off + j, none⟩) hgw).trans (HC0.out j u hu))
  go_wp2_with fail
  rw [← hV]
  clear hV
  go_region_held3 (fun W => W.cell? ⟨w4.heap.size, 0, none⟩ = some (.int .i64 1) ∧ W.cell? ⟨w4.heap.size, 1, none⟩ = some (.int .i64 1) ∧ W.cell? ⟨w4.heap.size, 2, none⟩ = some (.string { data := #[] }) ∧ W.cell? ⟨w4.heap.size, 3, none⟩ = some (.slice none 0 0) ∧ W.cell? ⟨w4.heap.size + 1, 0, none⟩ = some (.int .i64 1) ∧ W.cell? ⟨w4.heap.size + 1, 1, none⟩ = some (.int .i64 0) ∧ W.cell? ⟨w4.heap.size + 1, 2, none⟩ = some (.string { data := #[] }) ∧ W.cell? ⟨w4.heap.size + 1, 3, none⟩ = some (.slice none 0 0))
    (exact K1.out _ (by (with_reducible (first | assumption | exact (Below.refl _ V).drew | exact (bel_allocW (Below.refl _ V) _).drew | exact (bel_allocW (bel_allocW (Below.refl _ V) _) _).drew | exact bel_allocW (by assumption) _ | exact bel_allocW (Below.refl _ V).drew _ | exact bel_allocW (bel_allocW (Below.refl _ V).drew _) _ | exact bel_allocW ((bel_allocW (Below.refl _ V) _).drew) _ | exact (Below.drew (by assumption)) | exact (bel_allocW (by assumption) _).drew))))
    (first | (refine wp_namedW ?_; intro Y hY; have hXY : Below V.heap.size V Y := (by rw [hY]; (with_reducible (first | assumption | exact (Below.refl _ V).drew | exact (bel_allocW (Below.refl _ V) _).drew | exact (bel_allocW (bel_allocW (Below.refl _ V) _) _).drew | exact bel_allocW (by assumption) _ | exact bel_allocW (Below.refl _ V).drew _ | exact bel_allocW (bel_allocW (Below.refl _ V).drew _) _ | exact bel_allocW ((bel_allocW (Below.refl _ V) _).drew) _ | exact (Below.drew (by assumption)) | exact (bel_allocW (by assumption) _).drew))); have hE : Y.heap[V.heap.size]? = some (.cells #[] 36 (0, 0)) := (by rw [hY]; exact World.alloc_heap_new V _); have hB : True := trivial; have hNB : True := trivial; have hyz := hXY.size; clear hY; refine step_appR rfl (.tmp 48) (.tmp 49) rfl V.heap.size _ 0 [] rfl (by simp [Act.eval]) (owns_at hE (Nat.le_refl _)) g off xs.length c2 ds hdl (HCE.out _ hXY) (by simp [Act.eval]) (by omega) hyz ?_; intro v5 Z5 r5 g5 o5; have HR5 := Lib.hid (show Z5.ownsRow V.heap.size 36 11 v5 xs.length (rowL ds) by simpa using r5); have hbZ : Below V.heap.size V Z5 := grow_belowW hXY hyz (owns_at hE (Nat.le_refl _)) g5; have HB5 := hB; clear r5 g5 o5 hB hNB hE) | (refine wp_namedW ?_; intro Y hY; have hXY : Below V.heap.size V Y := (by rw [hY]; (with_reducible (first | assumption | exact (Below.refl _ V).drew | exact (bel_allocW (Below.refl _ V) _).drew | exact (bel_allocW (bel_allocW (Below.refl _ V) _) _).drew | exact bel_allocW (by assumption) _ | exact bel_allocW (Below.refl _ V).drew _ | exact bel_allocW (bel_allocW (Below.refl _ V).drew _) _ | exact bel_allocW ((bel_allocW (Below.refl _ V) _).drew) _ | exact (Below.drew (by assumption)) | exact (bel_allocW (by assumption) _).drew))); have hE : Y.heap[V.heap.size]? = some (.cells #[] 36 (0, 0)) := (by rw [hY]; exact made_one2 V _ _); have hB : Y.heap[V.heap.size + 1]? = some (.cells (ldC (⟨whenS 0, none, none, 0, 0⟩ : Ld)).toArray 36 (0, 0)) := (by rw [hY]; exact made_two V _ _); have hNB : V.heap.size + 1 ≠ V.heap.size := (by omega); have hyz := hXY.size; clear hY; refine step_appR rfl (.tmp 48) (.tmp 49) rfl V.heap.size _ 0 [] rfl (by simp [Act.eval]) (owns_at hE (Nat.le_refl _)) g off xs.length c2 ds hdl (HCE.out _ hXY) (by simp [Act.eval]) (by omega) hyz ?_; intro v5 Z5 r5 g5 o5; have HR5 := Lib.hid (show Z5.ownsRow V.heap.size 36 11 v5 xs.length (rowL ds) by simpa using r5); have hbZ : Below V.heap.size V Z5 := grow_belowW hXY hyz (owns_at hE (Nat.le_refl _)) g5; have HB5 := Lib.hid (keepB (k := 0) (c := 0) hB hNB g5); clear r5 g5 o5 hB hNB hE) | (refine wp_namedW ?_; intro Y hY; have hXY : Below V.heap.size V Y := (by rw [hY]; (with_reducible (first | assumption | exact (Below.refl _ V).drew | exact (bel_allocW (Below.refl _ V) _).drew | exact (bel_allocW (bel_allocW (Below.refl _ V) _) _).drew | exact bel_allocW (by assumption) _ | exact bel_allocW (Below.refl _ V).drew _ | exact bel_allocW (bel_allocW (Below.refl _ V).drew _) _ | exact bel_allocW ((bel_allocW (Below.refl _ V) _).drew) _ | exact (Below.drew (by assumption)) | exact (bel_allocW (by assumption) _).drew))); have hE : Y.heap[V.heap.size + 1]? = some (.cells #[] 36 (0, 0)) := (by rw [hY]; exact made_two V _ _); have hB : Y.heap[V.heap.size]? = some (.cells (ldC (⟨whenS 0, none, none, 0, 0⟩ : Ld)).toArray 36 (0, 0)) := (by rw [hY]; exact made_one2 V _ _); have hNB : V.heap.size ≠ V.heap.size + 1 := (by omega); have hyz := hXY.size; clear hY; refine step_appR rfl (.tmp 48) (.tmp 49) rfl V.heap.size _ 0 [] rfl (by simp [Act.eval]) (owns_at hE (Nat.le_succ _)) g off xs.length c2 ds hdl (HCE.out _ hXY) (by simp [Act.eval]) (by omega) hyz ?_; intro v5 Z5 r5 g5 o5; have HR5 := Lib.hid (show Z5.ownsRow V.heap.size 36 11 v5 xs.length (rowL ds) by simpa using r5); have hbZ : Below V.heap.size V Z5 := grow_belowW hXY hyz (owns_at hE (Nat.le_succ _)) g5; have HB5 := Lib.hid (keepB (k := 0) (c := 0) hB hNB g5); clear r5 g5 o5 hB hNB hE) | (refine wp_namedW ?_; intro Y2 hY2; have hW2 : Below Z5.heap.size Z5 Y2 := (by rw [hY2]; first | exact (Below.refl _ Z5).alloc (Nat.le_refl _) _ | exact Below.refl _ _); have hC : Y2.heap[Z5.heap.size]? = some (.cells (ldC (⟨whenS 0, none, none, 0, 0⟩ : Ld)).toArray 36 (0, 0)) := (by rw [hY2]; exact World.alloc_heap_new Z5 _); have hX2 := bel_thenW hbZ hW2; have hz2 := hX2.size; clear hY2; refine step_appR rfl (.tmp 50) (.tmp 54) rfl V.heap.size v5 xs.length ds hdl (by simp [Act.eval]) (own_below HR5.out hW2) Z5.heap.size 0 1 1 [(⟨whenS 0, none, none, 0, 0⟩ : Ld)] rfl (cells_blk hC) (by simp [Act.eval]) (by omega) hz2 ?_; intro v6 Z6 r6 g6 o6; have HR6 := Lib.hid r6; have hbY : Below V.heap.size V Z6 := grow_belowW hX2 hz2 (own_below HR5.out hW2) g6; clear r6 g6 o6 hC) | (refine wp_namedW ?_; intro Y2 hY2; have hW2 : Below Z5.heap.size Z5 Y2 := (by rw [hY2]; first | exact (Below.refl _ Z5).alloc (Nat.le_refl _) _ | exact Below.refl _ _); have hC : Y2.heap[V.heap.size + 1]? = some (.cells (ldC (⟨whenS 0, none, none, 0, 0⟩ : Ld)).toArray 36 (0, 0)) := (by rw [hY2]; exact HB5.out); have hX2 := bel_thenW hbZ hW2; have hz2 := hX2.size; clear hY2; refine step_appR rfl (.tmp 50) (.tmp 54) rfl V.heap.size v5 xs.length ds hdl (by simp [Act.eval]) (own_below HR5.out hW2) (V.heap.size + 1) 0 1 1 [(⟨whenS 0, none, none, 0, 0⟩ : Ld)] rfl (cells_blk hC) (by simp [Act.eval]) (by omega) hz2 ?_; intro v6 Z6 r6 g6 o6; have HR6 := Lib.hid r6; have hbY : Below V.heap.size V Z6 := grow_belowW hX2 hz2 (own_below HR5.out hW2) g6; clear r6 g6 o6 hC) | (refine wp_namedW ?_; intro Y2 hY2; have hW2 : Below Z5.heap.size Z5 Y2 := (by rw [hY2]; first | exact (Below.refl _ Z5).alloc (Nat.le_refl _) _ | exact Below.refl _ _); have hC : Y2.heap[V.heap.size]? = some (.cells (ldC (⟨whenS 0, none, none, 0, 0⟩ : Ld)).toArray 36 (0, 0)) := (by rw [hY2]; exact HB5.out); have hX2 := bel_thenW hbZ hW2; have hz2 := hX2.size; clear hY2; refine step_appR rfl (.tmp 50) (.tmp 54) rfl V.heap.size v5 xs.length ds hdl (by simp [Act.eval]) (own_below HR5.out hW2) V.heap.size 0 1 1 [(⟨whenS 0, none, none, 0, 0⟩ : Ld)] rfl (cells_blk hC) (by simp [Act.eval]) (by omega) hz2 ?_; intro v6 Z6 r6 g6 o6; have HR6 := Lib.hid r6; have hbY : Below V.heap.size V Z6 := grow_belowW hX2 hz2 (own_below HR5.out hW2) g6; clear r6 g6 o6 hC))
  all_goals
    have K1b := Lib.hid (fun (W : World) (h : Below Z6.heap.size Z6 W) => K1.out W (bel_thenW hbY h))
    have HCEb := Lib.hid (fun (W : World) (h : Below Z6.heap.size Z6 W) => HCE.out W (bel_thenW hbY h))
    go_wp2_with fail
    go_region_held3 (fun W => W.cell? ⟨w4.heap.size, 0, none⟩ = some (.int .i64 1) ∧ W.cell? ⟨w4.heap.size, 1, none⟩ = some (.int .i64 1) ∧ W.cell? ⟨w4.heap.size, 2, none⟩ = some (.string { data := #[] }) ∧ W.cell? ⟨w4.heap.size, 3, none⟩ = some (.slice none 0 0) ∧ W.cell? ⟨w4.heap.size + 1, 0, none⟩ = some (.int .i64 1) ∧ W.cell? ⟨w4.heap.size + 1, 1, none⟩ = some (.int .i64 0) ∧ W.cell? ⟨w4.heap.size + 1, 2, none⟩ = some (.string { data := #[] }) ∧ W.cell? ⟨w4.heap.size + 1, 3, none⟩ = some (.slice none 0 0))
      (exact K1b.out _ (by (with_reducible (first | assumption | exact (Below.refl _ Z6).drew | exact (bel_allocW (Below.refl _ Z6) _).drew | exact (bel_allocW (bel_allocW (Below.refl _ Z6) _) _).drew | exact bel_allocW (by assumption) _ | exact bel_allocW (Below.refl _ Z6).drew _ | exact bel_allocW (bel_allocW (Below.refl _ Z6).drew _) _ | exact bel_allocW ((bel_allocW (Below.refl _ Z6) _).drew) _ | exact (Below.drew (by assumption)) | exact (bel_allocW (by assumption) _).drew))))
      (first | (refine wp_namedW ?_; intro Yb hYb; have hXYb : Below Z6.heap.size Z6 Yb := (by rw [hYb]; (with_reducible (first | assumption | exact (Below.refl _ Z6).drew | exact (bel_allocW (Below.refl _ Z6) _).drew | exact (bel_allocW (bel_allocW (Below.refl _ Z6) _) _).drew | exact bel_allocW (by assumption) _ | exact bel_allocW (Below.refl _ Z6).drew _ | exact bel_allocW (bel_allocW (Below.refl _ Z6).drew _) _ | exact bel_allocW ((bel_allocW (Below.refl _ Z6) _).drew) _ | exact (Below.drew (by assumption)) | exact (bel_allocW (by assumption) _).drew))); have hEb : Yb.heap[Z6.heap.size]? = some (.cells #[] 36 (0, 0)) := (by rw [hYb]; exact World.alloc_heap_new Z6 _); have hBb : True := trivial; have hNBb : True := trivial; have hyzb := hXYb.size; clear hYb; refine step_appR rfl (.tmp 56) (.tmp 57) rfl Z6.heap.size _ 0 [] rfl (by simp [Act.eval]) (owns_at hEb (Nat.le_refl _)) g off xs.length c2 ds hdl (HCEb.out _ hXYb) (by simp [Act.eval]) (by omega) hyzb ?_; intro v5b Z5b r5b g5b o5b; have HR5b := Lib.hid (show Z5b.ownsRow Z6.heap.size 36 11 v5b xs.length (rowL ds) by simpa using r5b); have hbZb : Below Z6.heap.size Z6 Z5b := grow_belowW hXYb hyzb (owns_at hEb (Nat.le_refl _)) g5b; have HB5b := hBb; clear r5b g5b o5b hBb hNBb hEb) | (refine wp_namedW ?_; intro Yb hYb; have hXYb : Below Z6.heap.size Z6 Yb := (by rw [hYb]; (with_reducible (first | assumption | exact (Below.refl _ Z6).drew | exact (bel_allocW (Below.refl _ Z6) _).drew | exact (bel_allocW (bel_allocW (Below.refl _ Z6) _) _).drew | exact bel_allocW (by assumption) _ | exact bel_allocW (Below.refl _ Z6).drew _ | exact bel_allocW (bel_allocW (Below.refl _ Z6).drew _) _ | exact bel_allocW ((bel_allocW (Below.refl _ Z6) _).drew) _ | exact (Below.drew (by assumption)) | exact (bel_allocW (by assumption) _).drew))); have hEb : Yb.heap[Z6.heap.size]? = some (.cells #[] 36 (0, 0)) := (by rw [hYb]; exact made_one2 Z6 _ _); have hBb : Yb.heap[Z6.heap.size + 1]? = some (.cells (ldC (⟨whenS 1, none, none, 0, 0⟩ : Ld)).toArray 36 (0, 0)) := (by rw [hYb]; exact made_two Z6 _ _); have hNBb : Z6.heap.size + 1 ≠ Z6.heap.size := (by omega); have hyzb := hXYb.size; clear hYb; refine step_appR rfl (.tmp 56) (.tmp 57) rfl Z6.heap.size _ 0 [] rfl (by simp [Act.eval]) (owns_at hEb (Nat.le_refl _)) g off xs.length c2 ds hdl (HCEb.out _ hXYb) (by simp [Act.eval]) (by omega) hyzb ?_; intro v5b Z5b r5b g5b o5b; have HR5b := Lib.hid (show Z5b.ownsRow Z6.heap.size 36 11 v5b xs.length (rowL ds) by simpa using r5b); have hbZb : Below Z6.heap.size Z6 Z5b := grow_belowW hXYb hyzb (owns_at hEb (Nat.le_refl _)) g5b; have HB5b := Lib.hid (keepB (k := 0) (c := 0) hBb hNBb g5b); clear r5b g5b o5b hBb hNBb hEb) | (refine wp_namedW ?_; intro Yb hYb; have hXYb : Below Z6.heap.size Z6 Yb := (by rw [hYb]; (with_reducible (first | assumption | exact (Below.refl _ Z6).drew | exact (bel_allocW (Below.refl _ Z6) _).drew | exact (bel_allocW (bel_allocW (Below.refl _ Z6) _) _).drew | exact bel_allocW (by assumption) _ | exact bel_allocW (Below.refl _ Z6).drew _ | exact bel_allocW (bel_allocW (Below.refl _ Z6).drew _) _ | exact bel_allocW ((bel_allocW (Below.refl _ Z6) _).drew) _ | exact (Below.drew (by assumption)) | exact (bel_allocW (by assumption) _).drew))); have hEb : Yb.heap[Z6.heap.size + 1]? = some (.cells #[] 36 (0, 0)) := (by rw [hYb]; exact made_two Z6 _ _); have hBb : Yb.heap[Z6.heap.size]? = some (.cells (ldC (⟨whenS 1, none, none, 0, 0⟩ : Ld)).toArray 36 (0, 0)) := (by rw [hYb]; exact made_one2 Z6 _ _); have hNBb : Z6.heap.size ≠ Z6.heap.size + 1 := (by omega); have hyzb := hXYb.size; clear hYb; refine step_appR rfl (.tmp 56) (.tmp 57) rfl Z6.heap.size _ 0 [] rfl (by simp [Act.eval]) (owns_at hEb (Nat.le_succ _)) g off xs.length c2 ds hdl (HCEb.out _ hXYb) (by simp [Act.eval]) (by omega) hyzb ?_; intro v5b Z5b r5b g5b o5b; have HR5b := Lib.hid (show Z5b.ownsRow Z6.heap.size 36 11 v5b xs.length (rowL ds) by simpa using r5b); have hbZb : Below Z6.heap.size Z6 Z5b := grow_belowW hXYb hyzb (owns_at hEb (Nat.le_succ _)) g5b; have HB5b := Lib.hid (keepB (k := 0) (c := 0) hBb hNBb g5b); clear r5b g5b o5b hBb hNBb hEb) | (refine wp_namedW ?_; intro Y2b hY2b; have hW2b : Below Z5b.heap.size Z5b Y2b := (by rw [hY2b]; first | exact (Below.refl _ Z5b).alloc (Nat.le_refl _) _ | exact Below.refl _ _); have hCb : Y2b.heap[Z5b.heap.size]? = some (.cells (ldC (⟨whenS 1, none, none, 0, 0⟩ : Ld)).toArray 36 (0, 0)) := (by rw [hY2b]; exact World.alloc_heap_new Z5b _); have hX2b := bel_thenW hbZb hW2b; have hz2b := hX2b.size; clear hY2b; refine step_appR rfl (.tmp 58) (.tmp 62) rfl Z6.heap.size v5b xs.length ds hdl (by simp [Act.eval]) (own_below HR5b.out hW2b) Z5b.heap.size 0 1 1 [(⟨whenS 1, none, none, 0, 0⟩ : Ld)] rfl (cells_blk hCb) (by simp [Act.eval]) (by omega) hz2b ?_; intro v6b Z6b r6b g6b o6b; have HR6b := Lib.hid r6b; have hbYb : Below Z6.heap.size Z6 Z6b := grow_belowW hX2b hz2b (own_below HR5b.out hW2b) g6b; clear r6b g6b o6b hCb) | (refine wp_namedW ?_; intro Y2b hY2b; have hW2b : Below Z5b.heap.size Z5b Y2b := (by rw [hY2b]; first | exact (Below.refl _ Z5b).alloc (Nat.le_refl _) _ | exact Below.refl _ _); have hCb : Y2b.heap[Z6.heap.size + 1]? = some (.cells (ldC (⟨whenS 1, none, none, 0, 0⟩ : Ld)).toArray 36 (0, 0)) := (by rw [hY2b]; exact HB5b.out); have hX2b := bel_thenW hbZb hW2b; have hz2b := hX2b.size; clear hY2b; refine step_appR rfl (.tmp 58) (.tmp 62) rfl Z6.heap.size v5b xs.length ds hdl (by simp [Act.eval]) (own_below HR5b.out hW2b) (Z6.heap.size + 1) 0 1 1 [(⟨whenS 1, none, none, 0, 0⟩ : Ld)] rfl (cells_blk hCb) (by simp [Act.eval]) (by omega) hz2b ?_; intro v6b Z6b r6b g6b o6b; have HR6b := Lib.hid r6b; have hbYb : Below Z6.heap.size Z6 Z6b := grow_belowW hX2b hz2b (own_below HR5b.out hW2b) g6b; clear r6b g6b o6b hCb) | (refine wp_namedW ?_; intro Y2b hY2b; have hW2b : Below Z5b.heap.size Z5b Y2b := (by rw [hY2b]; first | exact (Below.refl _ Z5b).alloc (Nat.le_refl _) _ | exact Below.refl _ _); have hCb : Y2b.heap[Z6.heap.size]? = some (.cells (ldC (⟨whenS 1, none, none, 0, 0⟩ : Ld)).toArray 36 (0, 0)) := (by rw [hY2b]; exact HB5b.out); have hX2b := bel_thenW hbZb hW2b; have hz2b := hX2b.size; clear hY2b; refine step_appR rfl (.tmp 58) (.tmp 62) rfl Z6.heap.size v5b xs.length ds hdl (by simp [Act.eval]) (own_below HR5b.out hW2b) Z6.heap.size 0 1 1 [(⟨whenS 1, none, none, 0, 0⟩ : Ld)] rfl (cells_blk hCb) (by simp [Act.eval]) (by omega) hz2b ?_; intro v6b Z6b r6b g6b o6b; have HR6b := Lib.hid r6b; have hbYb : Below Z6.heap.size Z6 Z6b := grow_belowW hX2b hz2b (own_below HR5b.out hW2b) g6b; clear r6b g6b o6b hCb))
  all_goals
    have hb6 := hbV.trans (hbY.mono hbV.size)
    have hb6b := hb6.trans (hbYb.mono hb6.size)
    have hla := lines_row HR6.out (by rw [List.length_append, hdl]; rfl) (new_parts (s := whenS 0) ⟨rfl, rfl⟩ (fun d hd => ⟨(HKD.out d hd).1, (HKD.out d hd).2.1.keep hb6, (HKD.out d hd).2.2.keep hb6⟩)) hb6.size
    obtain ⟨Aa, ca, hva, hca, hLa⟩ := hla
    have hlb := lines_row HR6b.out (by rw [List.length_append, hdl]; rfl) (new_parts (s := whenS 1) ⟨rfl, rfl⟩ (fun d hd => ⟨(HKD.out d hd).1, (HKD.out d hd).2.1.keep hb6b, (HKD.out d hd).2.2.keep hb6b⟩)) hb6b.size
    obtain ⟨Ab, cb, hvb, hcb, hLb⟩ := hlb
    rw [List.map_append, HDS.out] at hLa hLb
    subst hva hvb
    have hwa : stWts (xs ++ [whenS 0]) ≤ 2 ^ 29 := by rw [stWts_more]; have : (whenS 0).wt ≤ 1000 := (by decide +kernel); omega
    have hwb : stWts (xs ++ [whenS 1]) ≤ 2 ^ 29 := by rw [stWts_more]; have : (whenS 1).wt ≤ 1000 := (by decide +kernel); omega
    have HPA := Lib.hid (HPR.out Z6b hb6b (xs ++ [whenS 0]) Aa ca ((hLa.keep hbYb).wide hbYb.size) hwa)
    have HPB := Lib.hid (fun (W : World) (hW : Below Z6b.heap.size Z6b W) => HPR.out W (hb6b.trans (hW.mono hb6b.size)) (xs ++ [whenS 1]) Ab cb ((hLb.keep hW).wide hW.size) hwb)
    rw [HR0.out, List.length_append] at HPA
    rw [HR1.out, List.length_append] at HPB
    clear hLa hLb hca hcb hwa hwb
    go_wp2_with fail
    refine HPA.out.mono ?_
    rintro r w8 ⟨v8, rfl, hv8, hb8⟩
    obtain ⟨Ax, cx, rfl, _⟩ := own_slice hv8
    clear hv8 HPA
    go_wp2_with fail
    refine (HPB.out w8 hb8).mono ?_
    rintro r w9 ⟨v9, rfl, hv9, hb9'⟩
    have hb9 := hb8.trans (hb9'.mono hb8.size)
    obtain ⟨Ay, cy, rfl, _⟩ := own_slice hv9
    have hsy := SlIs.own hv9
    obtain ⟨gy, offy, rfl, hgy, hcy⟩ := hsy.at_ (k := R.length) (by simp)
    simp only [List.getElem_map, List.getElem_append_right (Nat.le_refl R.length), Nat.sub_self, List.getElem_cons_zero, intV] at hcy
    clear hv9 hsy HPB
    rw [show (R ++ [(1 : Int)]).length = R.length + 1 by simp]
    have y0 : ((R.length : Int) == (R.length : Int)) = true := by simp
    have y1 : ((R.length : Int) + 1 == (R.length : Int) + 1) = true := by simp
    have y2 : (R.length : Int) < (R.length : Int) + 1 := by omega
    have y3 : ((1 : Int) == 1) = true := by decide
    go_wp2_with fail
    go_ret
    exact ⟨rfl, hb1.trans ((hb6b.trans (hb9.mono hb6b.size)).mono hb1.size)⟩
end Go.Proofs.YtabignplhkbcpaaGreatDoor.fnProgWhen
