/-
  'laws.FnExprSwap' returns true at every two codes.
  Conditions: the library's variables hold what their initialisers lay (tied to the program's text); every two slices of bytes.
-/
import Derived.Test.YtggdlldagaggiaaGreatDoorMethOf
import Derived.Test.YtggdlldagaggiaaGreatDoorSpecOf2
import Derived.Test.YtggdlldagaggiaaGreatDoorDrawOf
import Derived.Test.YtggdlldagaggiaaGreatDoorExLaws
import Derived.Test.YtggdlldagaggiaaGreatDoorOwnMk
import Derived.Test.YtggdlldagaggiaaGreatDoorLaid
import Derived.Test.YtggdlldagaggiaaGreatDoorCards
import Derived.Test.YtggdlldagaggiaaGreatDoorTie
import Derived.Test.YtggdlldagaggiaaGreatDoorRows
import Derived.WalkKit
import Derived.BigGuardPart
import Derived.ProofKit
import Derived.OpenShut
import Derived.ShutString
import Derived.ChangeOld
import Derived.Below
import Derived.Lib.SmallJoins
import Derived.SliceStrings
namespace Go.Proofs.YtggdlldagaggiaaGreatDoor.fnExprSwap
open Go.ChangeShapes Go.WideShapes Go.ChangeAt Go.RowKit Go.Joins
open Go.ChangeMaps (open_string shut_string)


theorem swap_ok {a b : Ex} {ss : List ByteArray} {zs : List Int} {n : Int} (h : ofE (.mk 3 0 sPlus [a, b]) ss zs = some n) :
    ∃ x y, (-1000000 ≤ x ∧ x ≤ 1000000) ∧ (-1000000 ≤ y ∧ y ≤ 1000000) ∧ ofE a ss zs = some x ∧ ofE b ss zs = some y ∧ n = twoN sPlus x y ∧ ∀ s, hold s ≠ 0 → ofE (.mk 3 0 s [a, b]) ss zs = some (twoN s x y) ∧ ofE (.mk 3 0 s [b, a]) ss zs = some (twoN s y x) := by
  have h0 := h
  unfold ofE at h
  split at h
  case isFalse => cases h
  rename_i hlen
  obtain ⟨p, hp, hv⟩ := Option.bind_eq_some_iff.1 h
  obtain ⟨e, hok⟩ := okP_some hp
  cases p with
  | num m => simp [Pt.ex] at e
  | name s => simp [Pt.ex] at e
  | «as» s q => simp [Pt.ex] at e
  | two s p q =>
    simp only [Pt.ex, Ex.mk.injEq, true_and, List.cons.injEq, and_true] at e
    obtain ⟨rfl, rfl, rfl⟩ := e
    obtain ⟨hh, hpo, hqo⟩ := ok_two hok
    rw [Pt.of] at hv
    cases hx : p.of ss zs with
    | none => rw [hx] at hv; simp at hv
    | some x =>
      cases hy : q.of ss zs with
      | none => rw [hx, hy] at hv; simp at hv
      | some y =>
        rw [hx, hy] at hv
        refine ⟨x, y, Pt.of_bounds ss zs p (ok_fine hpo) x hx, Pt.of_bounds ss zs q (ok_fine hqo) y hy, ?_, ?_, (Option.some.inj hv).symm, fun s hs => ⟨?_, ?_⟩⟩
        · unfold ofE; rw [if_pos hlen, okP_ex hpo]; exact hx
        · unfold ofE; rw [if_pos hlen, okP_ex hqo]; exact hy
        · have hok2 : (Pt.two s p q).ok = true := by
            simp only [Pt.ok, Pt.fine, Pt.depth, Pt.nodes, Bool.and_eq_true, decide_eq_true_eq] at hok ⊢
            exact ⟨⟨hs, hok.1.2⟩, hok.2⟩
          unfold ofE; rw [if_pos hlen, show Ex.mk 3 0 s [p.ex, q.ex] = (Pt.two s p q).ex from rfl, okP_ex hok2]
          show (Pt.two s p q).of ss zs = _
          rw [Pt.of, hx, hy]
        · have hok2 : (Pt.two s q p).ok = true := by
            simp only [Pt.ok, Pt.fine, Pt.depth, Pt.nodes, Bool.and_eq_true, decide_eq_true_eq] at hok ⊢
            obtain ⟨⟨_, h1, h2⟩, h3, h4⟩ := hok
            replace h3 := of_decide_eq_true h3
            replace h4 := of_decide_eq_true h4
            exact ⟨⟨hs, h2, h1⟩, decide_eq_true (by omega), decide_eq_true (by omega)⟩
          unfold ofE; rw [if_pos hlen, show Ex.mk 3 0 s [q.ex, p.ex] = (Pt.two s q p).ex from rfl, okP_ex hok2]
          show (Pt.two s q p).of ss zs = _
          rw [Pt.of, hy, hx]
/-- Kids that lie in a block of two. -/
theorem kids_two {W : World} {B k : Nat} {a b : Ex} {A A' : Option Addr} {c c' : Nat} (hB : Blk W k (kidCells a A c ++ kidCells b A' c').toArray) (hk : k < B) (hc : a.kids.length ≤ c) (hc' : b.kids.length ≤ c') (ha : KidsAt W B A a.kids) (hb : KidsAt W B A' b.kids) : KidsAt W B (some ⟨k, 0, none⟩) [a, b] := by
  refine KidsAt.of hk (fun j hj => ?_)
  have hj2 : j = 0 ∨ j = 1 := by simp at hj; omega
  rcases hj2 with rfl | rfl
  · exact ⟨A, c, hB.cell 0, hB.cell 1, hB.cell 2, hB.cell 3, hc, ha⟩
  · exact ⟨A', c', hB.cell 4, hB.cell 5, hB.cell 6, hB.cell 7, hc', hb⟩
/-- The two boxes, and the lists that they lead to. -/
structure Sw (a b : Ex) (Aa Ab : Option Addr) (ca cb n3 : Nat) (w3 W : World) (sx sy : ByteArray) : Prop where
  bel : Below n3 w3 W
  sz : n3 + 1 + 1 + 1 + 1 < W.heap.size
  bb : Blk W n3 #[.int .i64 b.kind, .int .i64 b.n, .string b.s, .slice Ab b.kids.length cb]
  k1 : Blk W (n3 + 1) (kidCells a Aa ca ++ kidCells b Ab cb).toArray
  bx : Blk W (n3 + 1 + 1) #[.int .i64 3, .int .i64 0, .string sx, .slice (some ⟨n3 + 1, 0, none⟩) 2 2]
  k2 : Blk W (n3 + 1 + 1 + 1) (kidCells b Ab cb ++ kidCells a Aa ca).toArray
  by_ : Blk W (n3 + 1 + 1 + 1 + 1) #[.int .i64 3, .int .i64 0, .string sy, .slice (some ⟨n3 + 1 + 1 + 1, 0, none⟩) 2 2]
section
variable {a b : Ex} {Aa Ab : Option Addr} {ca cb n3 : Nat} {w3 W W' : World} {sx sy : ByteArray}
theorem _root_.Go.Proofs.YtggdlldagaggiaaGreatDoor.Blk.stay0 {w w' : World} {g : Nat} {cur : Array Value} (h : Blk w g cur) (hb : w'.heap[g]? = w.heap[g]?) : Blk w' g cur := hb.trans h
theorem Sw.below (h : Sw a b Aa Ab ca cb n3 w3 W sx sy) (hb : Below W.heap.size W W') : Sw a b Aa Ab ca cb n3 w3 W' sx sy :=
  ⟨h.bel.trans (hb.mono (by have := h.sz; omega)), Nat.lt_of_lt_of_le h.sz hb.size, h.bb.stay0 (hb.block _ h.bb.lt), h.k1.stay0 (hb.block _ h.k1.lt), h.bx.stay0 (hb.block _ h.bx.lt), h.k2.stay0 (hb.block _ h.k2.lt), h.by_.stay0 (hb.block _ h.by_.lt)⟩
theorem Sw.set (h : Sw a b Aa Ab ca cb n3 w3 W sx sy) (t : ByteArray) : Sw a b Aa Ab ca cb n3 w3 ((W.setCell ⟨n3 + 1 + 1, 2, none⟩ (.string t)).setCell ⟨n3 + 1 + 1 + 1 + 1, 2, none⟩ (.string t)) t t := by
  have e : ∀ k, k ≠ n3 + 1 + 1 → k ≠ n3 + 1 + 1 + 1 + 1 → ((W.setCell ⟨n3 + 1 + 1, 2, none⟩ (.string t)).setCell ⟨n3 + 1 + 1 + 1 + 1, 2, none⟩ (.string t)).heap[k]? = W.heap[k]? := fun k h1 h2 => by rw [Below.heap_setCell _ _ _ k h2, Below.heap_setCell _ _ _ k h1]
  refine ⟨h.bel.trans ⟨rfl, rfl, rfl, by simp, fun k hk => e k (by omega) (by omega)⟩, by simpa using h.sz, h.bb.stay0 (e _ (by omega) (by omega)), h.k1.stay0 (e _ (by omega) (by omega)), ?_, h.k2.stay0 (e _ (by omega) (by omega)), ?_⟩
  · exact (h.bx.set 2 (.string t)).stay0 (Below.heap_setCell _ _ _ _ (by show (n3 + 1 + 1 : Nat) ≠ n3 + 1 + 1 + 1 + 1; omega))
  · exact (h.by_.stay0 (Below.heap_setCell _ _ _ _ (by show (n3 + 1 + 1 + 1 + 1 : Nat) ≠ n3 + 1 + 1; omega))).set 2 (.string t)
end
theorem at_new (V : World) (o : Obj) {k : Nat} (h : k = V.heap.size) : (V.alloc o).heap[k]? = some o := by rw [h]; exact World.alloc_heap_new V o
theorem sw_math {x y : Int} : twoN sPlus y x = twoN sPlus x y ∧ twoN sTimes y x = twoN sTimes x y ∧ twoN sMinus x y = -(twoN sMinus y x) ∧ (twoN sMinus x y < 0 ↔ x < y) := by
  refine ⟨?_, ?_, ?_, ?_⟩
  · show cutN (y + x) = cutN (x + y); rw [Int.add_comm]
  · show cutN (y * x) = cutN (x * y); rw [Int.mul_comm]
  · show cutN (x - y) = -(cutN (y - x)); unfold cutN; omega
  · show cutN (x - y) < 0 ↔ _; unfold cutN; omega
theorem sw_less (x y : Int) : twoN sLess x y = if x < y then 1 else 0 := rfl

set_option linter.unusedSimpArgs false in
set_option linter.unusedVariables false in
set_option maxRecDepth 100000 in
set_option maxHeartbeats 16000000 in
theorem walk (A : Option Addr) (len cap : Nat) (A' : Option Addr) (len' cap' : Nat) (w : World) (h1 : InCode w A len cap) (h2 : InCode w A' len' cap') (_ : LaidW w) :
    Calls Tryz.prog 9 #[.slice A len cap, .slice A' len' cap'] w fun r w' => r = .returned (.bool true) ∧ Below w.heap.size w w' := by
  by_cases hl1 : 1048576 < len
  · have q1 : decide ((1048576 : Int) < (len : Int)) = true := by simp; omega
    clear h1 h2
    go_enter Tryz.func9, Tryz.ntmps9
    go_wp2_with fail
    go_ret
    exact ⟨rfl, Below.refl _ _⟩
  have q1 : decide ((1048576 : Int) < (len : Int)) = false := by simp; omega
  by_cases hl2 : 1048576 < len'
  · have q2 : decide ((1048576 : Int) < (len' : Int)) = true := by simp; omega
    clear h1 h2
    go_enter Tryz.func9, Tryz.ntmps9
    go_wp2_with fail
    go_ret
    exact ⟨rfl, Below.refl _ _⟩
  have q2 : decide ((1048576 : Int) < (len' : Int)) = false := by simp; omega
  have H1 := Lib.hid h1
  have H2 := Lib.hid h2
  clear h1 h2
  go_enter Tryz.func9, Tryz.ntmps9
  go_wp2_with fail
  refine (drawExprOf_any A len cap w H1.out).mono ?_
  rintro r w1 ⟨a, Aa, ca, An, Av, cn, cv, ss, zs, rfl, hca, hOa, _, hwa, hSN, hSV, hls, hlz, _, hb1⟩
  obtain ⟨W2, hW2⟩ : ∃ W2, W2 = w1.alloc (.cells #[.int .i64 a.kind, .int .i64 a.n, .string a.s, .slice Aa a.kids.length ca] 25) := ⟨_, rfl⟩
  have hb2 : Below w1.heap.size w1 W2 := by rw [hW2]; exact (Below.refl _ w1).alloc (Nat.le_refl _) _
  have hs2 : w1.heap.size < W2.heap.size := by rw [hW2]; simp
  have a0 : W2.cell? ⟨w1.heap.size, 0, none⟩ = some (.int .i64 a.kind) := by rw [hW2]; exact cell_made4 w1 _ _ 0 _ rfl
  have a1 : W2.cell? ⟨w1.heap.size, 1, none⟩ = some (.int .i64 a.n) := by rw [hW2]; exact cell_made4 w1 _ _ 1 _ rfl
  have a2 : W2.cell? ⟨w1.heap.size, 2, none⟩ = some (.string a.s) := by rw [hW2]; exact cell_made4 w1 _ _ 2 _ rfl
  have a3 : W2.cell? ⟨w1.heap.size, 3, none⟩ = some (.slice Aa a.kids.length ca) := by rw [hW2]; exact cell_made4 w1 _ _ 3 _ rfl

  have Ka2 : KidsAt W2 w1.heap.size Aa a.kids := (own_kids a _ _ Aa w1.heap.size hOa (Nat.le_refl _)).keep hb2
  have HKa2 := Lib.hid Ka2
  have HSN2 := Lib.hid (hSN.below hb2)
  have HSV2 := Lib.hid (hSV.below hb2)
  have HB2 := Lib.hid (hb1.trans (hb2.mono hb1.size))
  have HD2 := Lib.hid (drawExprOf_any A' len' cap' W2 (H2.out.below HB2.out))
  clear hOa hb1 hb2 Ka2 hSN hSV H1 H2
  go_wp2_with fail
  rw [← hW2]
  clear hW2
  refine HD2.out.mono ?_
  rintro r w3 ⟨b, Ab, cb, _, _, _, _, _, _, rfl, hcb, hOb, _, hwb, _, _, _, _, _, hb3⟩
  have hs3 := hb3.size
  have b0 := (hb3.cell (p := ⟨w1.heap.size, 0, none⟩) hs2).trans a0
  have b1 := (hb3.cell (p := ⟨w1.heap.size, 1, none⟩) hs2).trans a1
  have b2 := (hb3.cell (p := ⟨w1.heap.size, 2, none⟩) hs2).trans a2
  have b3 := (hb3.cell (p := ⟨w1.heap.size, 3, none⟩) hs2).trans a3

  clear a0 a1 a2 a3 HD2
  have HKb := Lib.hid (own_kids b _ _ Ab w3.heap.size hOb (Nat.le_refl _))
  have HKa := Lib.hid (HKa2.out.keep (hb3.mono (Nat.le_of_lt hs2)))
  have HSN := Lib.hid (HSN2.out.below hb3)
  have HSV := Lib.hid (HSV2.out.below hb3)
  have HB3 := Lib.hid (HB2.out.trans (hb3.mono HB2.out.size))
  clear hOb hb3 HKa2 HSN2 HSV2 HB2
  have HX := Lib.hid (fun (W : World) (sx sy : ByteArray) (S : Sw a b Aa Ab ca cb w3.heap.size w3 W sx sy) (hsx : sx.size ≤ 10) => show Calls Tryz.prog 26 #[.agg #[.int .i64 3, .int .i64 0, .string sx, .slice (some ⟨w3.heap.size + 1, 0, none⟩) 2 2], .slice An ss.length cn, .slice Av zs.length cv] W (Comes (ofE (.mk 3 0 sx [a, b]) ss zs) W) from exprOf_any (.mk 3 0 sx [a, b]) (some ⟨w3.heap.size + 1, 0, none⟩) 2 (w3.heap.size + 1 + 1 + 1 + 1) An Av cn cv ss zs W (kids_two S.k1 (by omega) hca hcb ((HKa.out.keep (S.bel.mono (by omega))).wide (by omega)) ((HKb.out.keep S.bel).wide (by omega))) (by simp [Ex.kids]) (by have := S.sz; omega) (by simp only [Ex.wt, Ex.wts]; omega) (by omega) (by omega) (HSN.out.below S.bel) (HSV.out.below S.bel))
  have HM := Lib.hid (fun (W : World) (sx sy : ByteArray) (S : Sw a b Aa Ab ca cb w3.heap.size w3 W sx sy) (hsx : sx.size ≤ 10) => show Calls Tryz.prog 27 #[.agg #[.int .i64 3, .int .i64 0, .string sx, .slice (some ⟨w3.heap.size + 1, 0, none⟩) 2 2], .slice An ss.length cn, .slice Av zs.length cv] W (Comes (ofE (.mk 3 0 sx [a, b]) ss zs) W) from specExprOf_any (.mk 3 0 sx [a, b]) (some ⟨w3.heap.size + 1, 0, none⟩) 2 (w3.heap.size + 1 + 1 + 1 + 1) An Av cn cv ss zs W (kids_two S.k1 (by omega) hca hcb ((HKa.out.keep (S.bel.mono (by omega))).wide (by omega)) ((HKb.out.keep S.bel).wide (by omega))) (by simp [Ex.kids]) (by have := S.sz; omega) (by simp only [Ex.wt, Ex.wts]; omega) (by omega) (by omega) (HSN.out.below S.bel) (HSV.out.below S.bel))
  have HY := Lib.hid (fun (W : World) (sx sy : ByteArray) (S : Sw a b Aa Ab ca cb w3.heap.size w3 W sx sy) (hsx : sy.size ≤ 10) => show Calls Tryz.prog 26 #[.agg #[.int .i64 3, .int .i64 0, .string sy, .slice (some ⟨w3.heap.size + 1 + 1 + 1, 0, none⟩) 2 2], .slice An ss.length cn, .slice Av zs.length cv] W (Comes (ofE (.mk 3 0 sy [b, a]) ss zs) W) from exprOf_any (.mk 3 0 sy [b, a]) (some ⟨w3.heap.size + 1 + 1 + 1, 0, none⟩) 2 (w3.heap.size + 1 + 1 + 1 + 1) An Av cn cv ss zs W (kids_two S.k2 (by omega) hcb hca ((HKb.out.keep S.bel).wide (by omega)) ((HKa.out.keep (S.bel.mono (by omega))).wide (by omega))) (by simp [Ex.kids]) (by have := S.sz; omega) (by simp only [Ex.wt, Ex.wts]; omega) (by omega) (by omega) (HSN.out.below S.bel) (HSV.out.below S.bel))
  obtain ⟨W4, hW4⟩ : ∃ W4, W4 = (((((w3.alloc (.cells #[.int .i64 b.kind, .int .i64 b.n, .string b.s, .slice Ab b.kids.length cb] 25)).alloc (.cells #[.int .i64 a.kind, .int .i64 a.n, .string a.s, .slice Aa a.kids.length ca, .int .i64 b.kind, .int .i64 b.n, .string b.s, .slice Ab b.kids.length cb] 25)).alloc (.cells #[.int .i64 3, .int .i64 0, .string { data := #[43] }, .slice (some ⟨w3.heap.size + 1, 0, none⟩) 2 2] 25)).alloc (.cells #[.int .i64 b.kind, .int .i64 b.n, .string b.s, .slice Ab b.kids.length cb, .int .i64 a.kind, .int .i64 a.n, .string a.s, .slice Aa a.kids.length ca] 25)).alloc (.cells #[.int .i64 3, .int .i64 0, .string { data := #[43] }, .slice (some ⟨w3.heap.size + 1 + 1 + 1, 0, none⟩) 2 2] 25)) := ⟨_, rfl⟩
  have hs4 : W4.heap.size = w3.heap.size + 1 + 1 + 1 + 1 + 1 := by rw [hW4]; simp
  have S : Sw a b Aa Ab ca cb w3.heap.size w3 W4 { data := #[43] } { data := #[43] } := by
    have hb : Below w3.heap.size w3 W4 := by rw [hW4]; exact (((((Below.refl _ w3).alloc (Nat.le_refl _) _).alloc (by simp) _).alloc (by simp; omega) _).alloc (by simp; omega) _).alloc (by simp; omega) _
    have up : ∀ (V : World) (o : Obj) (k : Nat), k < V.heap.size → (V.alloc o).heap[k]? = V.heap[k]? := fun V o k hk => Below.heap_alloc V o k hk
    refine ⟨hb, by omega, ?_, ?_, ?_, ?_, ?_⟩
    · unfold Blk; rw [hW4, up _ _ _ (by simp only [World.size_alloc]; omega), up _ _ _ (by simp only [World.size_alloc]; omega), up _ _ _ (by simp only [World.size_alloc]; omega), up _ _ _ (by simp only [World.size_alloc]; omega)]; exact World.alloc_heap_new w3 _
    · unfold Blk; rw [hW4, up _ _ _ (by simp only [World.size_alloc]; omega), up _ _ _ (by simp only [World.size_alloc]; omega), up _ _ _ (by simp only [World.size_alloc]; omega)]; exact at_new (w3.alloc (.cells #[.int .i64 b.kind, .int .i64 b.n, .string b.s, .slice Ab b.kids.length cb] 25)) _ (by simp only [World.size_alloc])
    · unfold Blk; rw [hW4, up _ _ _ (by simp only [World.size_alloc]; omega), up _ _ _ (by simp only [World.size_alloc]; omega)]; exact at_new ((w3.alloc (.cells #[.int .i64 b.kind, .int .i64 b.n, .string b.s, .slice Ab b.kids.length cb] 25)).alloc (.cells #[.int .i64 a.kind, .int .i64 a.n, .string a.s, .slice Aa a.kids.length ca, .int .i64 b.kind, .int .i64 b.n, .string b.s, .slice Ab b.kids.length cb] 25)) _ (by simp only [World.size_alloc])
    · unfold Blk; rw [hW4, up _ _ _ (by simp only [World.size_alloc]; omega)]; exact at_new (((w3.alloc (.cells #[.int .i64 b.kind, .int .i64 b.n, .string b.s, .slice Ab b.kids.length cb] 25)).alloc (.cells #[.int .i64 a.kind, .int .i64 a.n, .string a.s, .slice Aa a.kids.length ca, .int .i64 b.kind, .int .i64 b.n, .string b.s, .slice Ab b.kids.length cb] 25)).alloc (.cells #[.int .i64 3, .int .i64 0, .string { data := #[43] }, .slice (some ⟨w3.heap.size + 1, 0, none⟩) 2 2] 25)) _ (by simp only [World.size_alloc])
    · unfold Blk; rw [hW4]; exact at_new ((((w3.alloc (.cells #[.int .i64 b.kind, .int .i64 b.n, .string b.s, .slice Ab b.kids.length cb] 25)).alloc (.cells #[.int .i64 a.kind, .int .i64 a.n, .string a.s, .slice Aa a.kids.length ca, .int .i64 b.kind, .int .i64 b.n, .string b.s, .slice Ab b.kids.length cb] 25)).alloc (.cells #[.int .i64 3, .int .i64 0, .string { data := #[43] }, .slice (some ⟨w3.heap.size + 1, 0, none⟩) 2 2] 25)).alloc (.cells #[.int .i64 b.kind, .int .i64 b.n, .string b.s, .slice Ab b.kids.length cb, .int .i64 a.kind, .int .i64 a.n, .string a.s, .slice Aa a.kids.length ca] 25)) _ (by simp only [World.size_alloc])
  obtain ⟨R, hR⟩ : ∃ R, R = ofE (.mk 3 0 sPlus [a, b]) ss zs := ⟨_, rfl⟩
  have HR := Lib.hid hR
  have HC := Lib.hid (HX.out W4 { data := #[43] } { data := #[43] } S (by decide))
  have HCM := Lib.hid (fun (W : World) (S : Sw a b Aa Ab ca cb w3.heap.size w3 W { data := #[43] } { data := #[43] }) => HM.out W { data := #[43] } { data := #[43] } S (by decide))
  rw [show ofE (.mk 3 0 { data := #[43] } [a, b]) ss zs = R from hR.symm] at HC HCM
  unfold Comes at HC HCM
  clear hR HM
  have HS := Lib.hid S
  have hlt : w1.heap.size < w3.heap.size := by omega
  have u0 : (w3.alloc (.cells #[.int .i64 b.kind, .int .i64 b.n, .string b.s, .slice Ab b.kids.length cb] 25)).cell? ⟨w1.heap.size, 0, none⟩ = some (.int .i64 a.kind) := (World.cell?_alloc_lt _ _ _ hlt).trans b0
  have v0 : (((w3.alloc (.cells #[.int .i64 b.kind, .int .i64 b.n, .string b.s, .slice Ab b.kids.length cb] 25)).alloc (.cells #[.int .i64 a.kind, .int .i64 a.n, .string a.s, .slice Aa a.kids.length ca, .int .i64 b.kind, .int .i64 b.n, .string b.s, .slice Ab b.kids.length cb] 25)).alloc (.cells #[.int .i64 3, .int .i64 0, .string { data := #[43] }, .slice (some ⟨w3.heap.size + 1, 0, none⟩) 2 2] 25)).cell? ⟨w1.heap.size, 0, none⟩ = some (.int .i64 a.kind) := (World.cell?_alloc_lt _ _ _ (by show w1.heap.size < _; simp only [World.size_alloc]; omega)).trans ((World.cell?_alloc_lt _ _ _ (by show w1.heap.size < _; simp only [World.size_alloc]; omega)).trans u0)
  have u1 : (w3.alloc (.cells #[.int .i64 b.kind, .int .i64 b.n, .string b.s, .slice Ab b.kids.length cb] 25)).cell? ⟨w1.heap.size, 1, none⟩ = some (.int .i64 a.n) := (World.cell?_alloc_lt _ _ _ hlt).trans b1
  have v1 : (((w3.alloc (.cells #[.int .i64 b.kind, .int .i64 b.n, .string b.s, .slice Ab b.kids.length cb] 25)).alloc (.cells #[.int .i64 a.kind, .int .i64 a.n, .string a.s, .slice Aa a.kids.length ca, .int .i64 b.kind, .int .i64 b.n, .string b.s, .slice Ab b.kids.length cb] 25)).alloc (.cells #[.int .i64 3, .int .i64 0, .string { data := #[43] }, .slice (some ⟨w3.heap.size + 1, 0, none⟩) 2 2] 25)).cell? ⟨w1.heap.size, 1, none⟩ = some (.int .i64 a.n) := (World.cell?_alloc_lt _ _ _ (by show w1.heap.size < _; simp only [World.size_alloc]; omega)).trans ((World.cell?_alloc_lt _ _ _ (by show w1.heap.size < _; simp only [World.size_alloc]; omega)).trans u1)
  have u2 : (w3.alloc (.cells #[.int .i64 b.kind, .int .i64 b.n, .string b.s, .slice Ab b.kids.length cb] 25)).cell? ⟨w1.heap.size, 2, none⟩ = some (.string a.s) := (World.cell?_alloc_lt _ _ _ hlt).trans b2
  have v2 : (((w3.alloc (.cells #[.int .i64 b.kind, .int .i64 b.n, .string b.s, .slice Ab b.kids.length cb] 25)).alloc (.cells #[.int .i64 a.kind, .int .i64 a.n, .string a.s, .slice Aa a.kids.length ca, .int .i64 b.kind, .int .i64 b.n, .string b.s, .slice Ab b.kids.length cb] 25)).alloc (.cells #[.int .i64 3, .int .i64 0, .string { data := #[43] }, .slice (some ⟨w3.heap.size + 1, 0, none⟩) 2 2] 25)).cell? ⟨w1.heap.size, 2, none⟩ = some (.string a.s) := (World.cell?_alloc_lt _ _ _ (by show w1.heap.size < _; simp only [World.size_alloc]; omega)).trans ((World.cell?_alloc_lt _ _ _ (by show w1.heap.size < _; simp only [World.size_alloc]; omega)).trans u2)
  have u3 : (w3.alloc (.cells #[.int .i64 b.kind, .int .i64 b.n, .string b.s, .slice Ab b.kids.length cb] 25)).cell? ⟨w1.heap.size, 3, none⟩ = some (.slice Aa a.kids.length ca) := (World.cell?_alloc_lt _ _ _ hlt).trans b3
  have v3 : (((w3.alloc (.cells #[.int .i64 b.kind, .int .i64 b.n, .string b.s, .slice Ab b.kids.length cb] 25)).alloc (.cells #[.int .i64 a.kind, .int .i64 a.n, .string a.s, .slice Aa a.kids.length ca, .int .i64 b.kind, .int .i64 b.n, .string b.s, .slice Ab b.kids.length cb] 25)).alloc (.cells #[.int .i64 3, .int .i64 0, .string { data := #[43] }, .slice (some ⟨w3.heap.size + 1, 0, none⟩) 2 2] 25)).cell? ⟨w1.heap.size, 3, none⟩ = some (.slice Aa a.kids.length ca) := (World.cell?_alloc_lt _ _ _ (by show w1.heap.size < _; simp only [World.size_alloc]; omega)).trans ((World.cell?_alloc_lt _ _ _ (by show w1.heap.size < _; simp only [World.size_alloc]; omega)).trans u3)
  clear S
  go_wp2_with fail
  rw [← hW4]
  clear hW4 u0 u1 u2 u3 v0 v1 v2 v3
  refine HC.out.mono ?_
  rintro r W5 ⟨rfl, hb⟩
  have S := HS.out.below hb
  clear HC HS hb
  have x0 := S.bx.cell 0
  have x1 := S.bx.cell 1
  have x2 := S.bx.cell 2
  have x3 := S.bx.cell 3
  simp only [List.getElem?_toArray, List.getElem?_cons_zero, List.getElem?_cons_succ] at x0 x1 x2 x3
  go_wp2_with fail
  refine (HCM.out W5 S).mono ?_
  rintro r W6 ⟨rfl, hb⟩
  replace S := S.below hb
  clear HCM hb x0 x1 x2 x3
  cases R with
  | none =>
    simp only [Option.getD_none, Option.isSome_none]
    have HS := Lib.hid S
    clear S
    go_wp2_with fail
    go_ret
    exact ⟨rfl, HB3.out.trans (HS.out.bel.mono HB3.out.size)⟩
  | some n =>
    simp only [Option.getD_some, Option.isSome_some]
    obtain ⟨x, y, hx, hy, hax, hby, hn, hall⟩ := swap_ok HR.out.symm
    have HALL := Lib.hid hall
    have HN := Lib.hid hn
    have HAX := Lib.hid hax
    have HBY := Lib.hid hby
    obtain ⟨hx0, hx1⟩ := hx
    obtain ⟨hy0, hy1⟩ := hy
    clear hall hn HR hax hby
    have qn : (n != n) = false := by simp
    have y0 := S.by_.cell 0
    have y1 := S.by_.cell 1
    have y2 := S.by_.cell 2
    have y3 := S.by_.cell 3
    simp only [List.getElem?_toArray, List.getElem?_cons_zero, List.getElem?_cons_succ] at y0 y1 y2 y3
    have HS := Lib.hid S
    have HC := Lib.hid (HY.out W6 { data := #[43] } { data := #[43] } S (by decide))
    rw [(HALL.out { data := #[43] } (by decide)).2] at HC
    unfold Comes at HC
    obtain ⟨p, hp⟩ : ∃ p, p = twoN { data := #[43] } y x := ⟨_, rfl⟩
    rw [← hp] at HC
    have Hp := Lib.hid hp
    clear S hp
    go_wp2_with fail
    refine HC.out.mono ?_
    rintro r W7 ⟨rfl, hb⟩
    have S := HS.out.below hb
    simp only [Option.getD_some, Option.isSome_some]
    clear HC HS hb y0 y1 y2 y3
    have fx := S.bx.frozen 2
    have fy := S.by_.frozen 2
    have o2 := S.bx.cell 2
    have o4 := S.by_.cell 2
    simp only [List.getElem?_toArray, List.getElem?_cons_zero, List.getElem?_cons_succ] at o2 o4
    obtain ⟨V8, hV8⟩ : ∃ V8, V8 = (W7.setCell ⟨w3.heap.size + 1 + 1, 2, none⟩ (.string { data := #[42] })).setCell ⟨w3.heap.size + 1 + 1 + 1 + 1, 2, none⟩ (.string { data := #[42] }) := ⟨_, rfl⟩
    replace S : Sw a b Aa Ab ca cb w3.heap.size w3 V8 { data := #[42] } { data := #[42] } := by rw [hV8]; exact S.set _
    have x0 := S.bx.cell 0
    have x1 := S.bx.cell 1
    have x2 := S.bx.cell 2
    have x3 := S.bx.cell 3
    simp only [List.getElem?_toArray, List.getElem?_cons_zero, List.getElem?_cons_succ] at x0 x1 x2 x3
    have HS := Lib.hid S
    have HC := Lib.hid (HX.out V8 { data := #[42] } { data := #[42] } S (by decide))
    rw [(HALL.out { data := #[42] } (by decide)).1] at HC
    unfold Comes at HC
    obtain ⟨q, hq⟩ : ∃ q, q = twoN { data := #[42] } x y := ⟨_, rfl⟩
    rw [← hq] at HC
    have Hq := Lib.hid hq
    clear S hq
    rw [hV8] at x0 x1 x2 x3
    go_wp2_with fail
    rw [← hV8]
    clear hV8
    refine HC.out.mono ?_
    rintro r W9 ⟨rfl, hb⟩
    have S := HS.out.below hb
    simp only [Option.getD_some, Option.isSome_some]
    clear HC HS hb x0 x1 x2 x3
    clear fx fy o2 o4
    have y0 := S.by_.cell 0
    have y1 := S.by_.cell 1
    have y2 := S.by_.cell 2
    have y3 := S.by_.cell 3
    simp only [List.getElem?_toArray, List.getElem?_cons_zero, List.getElem?_cons_succ] at y0 y1 y2 y3
    have HS := Lib.hid S
    have HC := Lib.hid (HY.out W9 { data := #[42] } { data := #[42] } S (by decide))
    rw [(HALL.out { data := #[42] } (by decide)).2] at HC
    unfold Comes at HC
    obtain ⟨r0, hr0⟩ : ∃ r0, r0 = twoN { data := #[42] } y x := ⟨_, rfl⟩
    rw [← hr0] at HC
    have Hr0 := Lib.hid hr0
    clear S hr0
    go_wp2_with fail
    refine HC.out.mono ?_
    rintro r W10 ⟨rfl, hb⟩
    have S := HS.out.below hb
    simp only [Option.getD_some, Option.isSome_some]
    clear HC HS hb y0 y1 y2 y3
    have fx := S.bx.frozen 2
    have fy := S.by_.frozen 2
    have o2 := S.bx.cell 2
    have o4 := S.by_.cell 2
    simp only [List.getElem?_toArray, List.getElem?_cons_zero, List.getElem?_cons_succ] at o2 o4
    obtain ⟨V11, hV11⟩ : ∃ V11, V11 = (W10.setCell ⟨w3.heap.size + 1 + 1, 2, none⟩ (.string { data := #[45] })).setCell ⟨w3.heap.size + 1 + 1 + 1 + 1, 2, none⟩ (.string { data := #[45] }) := ⟨_, rfl⟩
    replace S : Sw a b Aa Ab ca cb w3.heap.size w3 V11 { data := #[45] } { data := #[45] } := by rw [hV11]; exact S.set _
    have x0 := S.bx.cell 0
    have x1 := S.bx.cell 1
    have x2 := S.bx.cell 2
    have x3 := S.bx.cell 3
    simp only [List.getElem?_toArray, List.getElem?_cons_zero, List.getElem?_cons_succ] at x0 x1 x2 x3
    have HS := Lib.hid S
    have HC := Lib.hid (HX.out V11 { data := #[45] } { data := #[45] } S (by decide))
    rw [(HALL.out { data := #[45] } (by decide)).1] at HC
    unfold Comes at HC
    obtain ⟨s, hs⟩ : ∃ s, s = twoN { data := #[45] } x y := ⟨_, rfl⟩
    rw [← hs] at HC
    have Hs := Lib.hid hs
    clear S hs
    rw [hV11] at x0 x1 x2 x3
    go_wp2_with fail
    rw [← hV11]
    clear hV11
    refine HC.out.mono ?_
    rintro r W12 ⟨rfl, hb⟩
    have S := HS.out.below hb
    simp only [Option.getD_some, Option.isSome_some]
    clear HC HS hb x0 x1 x2 x3
    clear fx fy o2 o4
    have y0 := S.by_.cell 0
    have y1 := S.by_.cell 1
    have y2 := S.by_.cell 2
    have y3 := S.by_.cell 3
    simp only [List.getElem?_toArray, List.getElem?_cons_zero, List.getElem?_cons_succ] at y0 y1 y2 y3
    have HS := Lib.hid S
    have HC := Lib.hid (HY.out W12 { data := #[45] } { data := #[45] } S (by decide))
    rw [(HALL.out { data := #[45] } (by decide)).2] at HC
    unfold Comes at HC
    obtain ⟨t, ht⟩ : ∃ t, t = twoN { data := #[45] } y x := ⟨_, rfl⟩
    rw [← ht] at HC
    have Ht := Lib.hid ht
    clear S ht
    go_wp2_with fail
    refine HC.out.mono ?_
    rintro r W13 ⟨rfl, hb⟩
    have S := HS.out.below hb
    simp only [Option.getD_some, Option.isSome_some]
    clear HC HS hb y0 y1 y2 y3
    have fx := S.bx.frozen 2
    have fy := S.by_.frozen 2
    have o2 := S.bx.cell 2
    have o4 := S.by_.cell 2
    simp only [List.getElem?_toArray, List.getElem?_cons_zero, List.getElem?_cons_succ] at o2 o4
    obtain ⟨V14, hV14⟩ : ∃ V14, V14 = (W13.setCell ⟨w3.heap.size + 1 + 1, 2, none⟩ (.string { data := #[60] })).setCell ⟨w3.heap.size + 1 + 1 + 1 + 1, 2, none⟩ (.string { data := #[60] }) := ⟨_, rfl⟩
    replace S : Sw a b Aa Ab ca cb w3.heap.size w3 V14 { data := #[60] } { data := #[60] } := by rw [hV14]; exact S.set _
    have x0 := S.bx.cell 0
    have x1 := S.bx.cell 1
    have x2 := S.bx.cell 2
    have x3 := S.bx.cell 3
    simp only [List.getElem?_toArray, List.getElem?_cons_zero, List.getElem?_cons_succ] at x0 x1 x2 x3
    have HS := Lib.hid S
    have HC := Lib.hid (HX.out V14 { data := #[60] } { data := #[60] } S (by decide))
    rw [(HALL.out { data := #[60] } (by decide)).1] at HC
    unfold Comes at HC
    obtain ⟨u, hu⟩ : ∃ u, u = twoN { data := #[60] } x y := ⟨_, rfl⟩
    rw [← hu] at HC
    have Hu := Lib.hid hu
    clear S hu
    rw [hV14] at x0 x1 x2 x3
    go_wp2_with fail
    rw [← hV14]
    clear hV14
    refine HC.out.mono ?_
    rintro r W15 ⟨rfl, hb⟩
    have S := HS.out.below hb
    simp only [Option.getD_some, Option.isSome_some]
    clear HC HS hb x0 x1 x2 x3
    clear fx fy o2 o4
    have y0 := S.by_.cell 0
    have y1 := S.by_.cell 1
    have y2 := S.by_.cell 2
    have y3 := S.by_.cell 3
    simp only [List.getElem?_toArray, List.getElem?_cons_zero, List.getElem?_cons_succ] at y0 y1 y2 y3
    have HS := Lib.hid S
    have HC := Lib.hid (HY.out W15 { data := #[60] } { data := #[60] } S (by decide))
    rw [(HALL.out { data := #[60] } (by decide)).2] at HC
    unfold Comes at HC
    obtain ⟨v, hv⟩ : ∃ v, v = twoN { data := #[60] } y x := ⟨_, rfl⟩
    rw [← hv] at HC
    have Hv := Lib.hid hv
    clear S hv
    go_wp2_with fail
    refine HC.out.mono ?_
    rintro r W16 ⟨rfl, hb⟩
    have S := HS.out.below hb
    simp only [Option.getD_some, Option.isSome_some]
    clear HC HS hb y0 y1 y2 y3

    have g0 := (S.bel.cell (p := ⟨w1.heap.size, 0, none⟩) (by show w1.heap.size < _; omega)).trans b0
    have g1 := (S.bel.cell (p := ⟨w1.heap.size, 1, none⟩) (by show w1.heap.size < _; omega)).trans b1
    have g2 := (S.bel.cell (p := ⟨w1.heap.size, 2, none⟩) (by show w1.heap.size < _; omega)).trans b2
    have g3 := (S.bel.cell (p := ⟨w1.heap.size, 3, none⟩) (by show w1.heap.size < _; omega)).trans b3
    have HC := Lib.hid (exprOf_any a Aa ca w1.heap.size An Av cn cv ss zs W16 (HKa.out.keep (S.bel.mono (by omega))) hca (by have := S.bel.size; omega) (by omega) (by omega) (by omega) (HSN.out.below S.bel) (HSV.out.below S.bel))
    rw [HAX.out] at HC
    unfold Comes at HC
    have HS := Lib.hid S
    clear S
    go_wp2_with fail
    refine HC.out.mono ?_
    rintro r W17 ⟨rfl, hb⟩
    have S := HS.out.below hb
    clear HC HS hb g0 g1 g2 g3
    simp only [Option.getD_some, Option.isSome_some]
    have g0 := S.bb.cell 0
    have g1 := S.bb.cell 1
    have g2 := S.bb.cell 2
    have g3 := S.bb.cell 3
    simp only [List.getElem?_toArray, List.getElem?_cons_zero, List.getElem?_cons_succ] at g0 g1 g2 g3
    have HC := Lib.hid (exprOf_any b Ab cb w3.heap.size An Av cn cv ss zs W17 (HKb.out.keep S.bel) hcb S.bel.size (by omega) (by omega) (by omega) (HSN.out.below S.bel) (HSV.out.below S.bel))
    rw [HBY.out] at HC
    unfold Comes at HC
    have HS := Lib.hid S
    clear S
    go_wp2_with fail
    refine HC.out.mono ?_
    rintro r W18 ⟨rfl, hb⟩
    have HBF := Lib.hid (HB3.out.trans ((HS.out.below hb).bel.mono HB3.out.size))
    clear HC HS hb g0 g1 g2 g3
    simp only [Option.getD_some, Option.isSome_some]
    obtain ⟨m1, m2, m3, m4⟩ := sw_math (x := x) (y := y)
    have e1 : p = n := by rw [Hp.out, HN.out]; exact m1
    have e2 : r0 = q := by rw [Hr0.out, Hq.out]; exact m2
    have e3 : s = -t := by rw [Hs.out, Ht.out]; exact m3
    have e4 : s < 0 ↔ x < y := by rw [Hs.out]; exact m4
    have bt := twoN_bounds { data := #[45] } y x
    rw [← Ht.out] at bt
    obtain ⟨bt0, bt1⟩ := bt
    have e5 : u = if x < y then 1 else 0 := Hu.out
    have e6 : v = if y < x then 1 else 0 := Hv.out
    have qp : (p == n) = true := by rw [e1]; simp
    have qr : (q == r0) = true := by rw [e2]; simp
    have qs : (s == -t) = true := by rw [e3]; simp
    clear m1 m2 m3 m4 Hp Hq Hr0 Hs Ht Hu Hv HN e1 e2 e3 HALL
    rcases Int.lt_trichotomy x y with hc | hc | hc
    · have u1 : u = 1 := by rw [e5, if_pos hc]
      have v1 : v = 0 := by rw [e6, if_neg (by omega)]
      have w1' : decide (s < 0) = true := decide_eq_true (e4.2 hc)
      have w2' : (x != y) = true := by rw [bne_iff_ne]; omega
      subst u1 v1
      clear e4 e5 e6
      go_wp2_with fail
      go_ret
      exact ⟨rfl, HBF.out⟩
    · have u1 : u = 0 := by rw [e5, if_neg (by omega)]
      have v1 : v = 0 := by rw [e6, if_neg (by omega)]
      have w1' : decide (s < 0) = false := decide_eq_false (fun h => by have := e4.1 h; omega)
      have w2' : (x == y) = true := by rw [beq_iff_eq]; exact hc
      subst u1 v1
      clear e4 e5 e6 hc
      go_wp2_with fail
      go_ret
      exact ⟨rfl, HBF.out⟩
    · have u1 : u = 0 := by rw [e5, if_neg (by omega)]
      have v1 : v = 1 := by rw [e6, if_pos hc]
      have w1' : decide (s < 0) = false := decide_eq_false (fun h => by have := e4.1 h; omega)
      have w2' : (x != y) = true := by rw [bne_iff_ne]; omega
      subst u1 v1
      clear e4 e5 e6
      go_wp2_with fail
      go_ret
      exact ⟨rfl, HBF.out⟩

set_option linter.unusedVariables false in
set_option maxRecDepth 100000 in
theorem lifted (os : Os) (started : os.Started) (H : Type) (enc : TypeId × Value → H) :
    ReturnsInHanded {} Tryz.checked os 9 .any (fun w args => (Rows.fnExprSwapSpec.pre enc Tryz.prog Tryz.f9 [] false w args ∧ laidMetH Tryz.prog laidL w) ∧ sizedMet enc Tryz.prog Tryz.f9 (OpenSpec.ofChange Rows.fnExprSwapSpec) false w args)
      (Rows.fnExprSwapSpec.post enc Tryz.prog Tryz.f9 false true false false) := by
  refine returnsInHanded_of_change_and (C := Tryz.checked) (X := fun w _ => laidMetH Tryz.prog laidL w) (fun _ _ _ hh h => h.of_heap hh) own started (by kernel_rfl) Tryz.func9
    (ChangeSpec.witness_shaped (enc := enc) (C := Tryz.checked) (os := os) (X := fun w _ => laidMetH Tryz.prog laidL w) false (World.doorLaid Tryz.prog 62 os) #[.slice none 0 0, .slice none 0 0] 8 rfl (World.shaped_of_RefB (by kernel_rfl) (by kernel_rfl)) (by kernel_rfl) (by kernel_rfl) (by kernel_rfl) (door_met os _)) ?_
  intro W base args ds gs before hval0 hW _ _ hL _
  have hval : ∀ (j : Nat) t v, Tryz.f9.params[j]? = some t → args[j]? = some v → Value.okWide Tryz.prog W .any base t v := hval0
  have hW' := hW
  obtain ⟨p, q, hA0, hV, rfl, hfz, hnd⟩ := hW
  have hA : DataW.TrodAll enc Tryz.prog W 0 (fun _ => true) true Tryz.f9.params.toList args.toList ds p := hA0
  rw [Tryz.params9] at hA hval
  obtain ⟨v0, vs0, d0, ds0, p0, q0, hargs, rfl, rfl, h0, r0⟩ := trodAll_cons hA
  obtain ⟨v1, vs1, d1, ds1, p1, q1, rfl, rfl, rfl, h1, r1⟩ := trodAll_cons r0
  obtain ⟨rfl, rfl, rfl⟩ := trodAll_nil r1
  obtain rfl : args = #[v0, v1] := by cases args; simp_all
  obtain ⟨rfl, rfl⟩ := trodVars_none hV
  have k0 := h0
  have lt0 : ∀ x ∈ p0, x.block < W.heap.size := by obtain ⟨m, hm⟩ := k0; exact DataW.trod_lt m _ _ _ hm
  have k1 := h1
  have lt1 : ∀ x ∈ p1, x.block < W.heap.size := by obtain ⟨m, hm⟩ := k1; exact DataW.trod_lt m _ _ _ hm
  obtain ⟨a0, len0, cap0, e0⟩ := okWide_slice Tryz.underlying22 (hval 0 22 v0 rfl rfl)
  subst e0
  have w0 : InCode W a0 len0 cap0 := by
    obtain ⟨fuel, hf⟩ := h0
    rcases open_ints Tryz.underlying22 Tryz.underlying5 (by kernel_rfl) hf with ⟨hcs, _⟩ | ⟨x, l, c, zs, hcs, _, hl, hm, hz, _, hcell, hwz⟩
    · simp [Value.cells] at hcs
      obtain ⟨rfl, rfl, rfl⟩ := hcs
      exact inCode_nil W
    · simp [Value.cells] at hcs
      obtain ⟨rfl, rfl, rfl⟩ := hcs
      exact inCode_of hl hm (by simpa using hz) hcell hwz
  obtain ⟨a1, len1, cap1, e1⟩ := okWide_slice Tryz.underlying22 (hval 1 22 v1 rfl rfl)
  subst e1
  have w1 : InCode W a1 len1 cap1 := by
    obtain ⟨fuel, hf⟩ := h1
    rcases open_ints Tryz.underlying22 Tryz.underlying5 (by kernel_rfl) hf with ⟨hcs, _⟩ | ⟨x, l, c, zs, hcs, _, hl, hm, hz, _, hcell, hwz⟩
    · simp [Value.cells] at hcs
      obtain ⟨rfl, rfl, rfl⟩ := hcs
      exact inCode_nil W
    · simp [Value.cells] at hcs
      obtain ⟨rfl, rfl, rfl⟩ := hcs
      exact inCode_of hl hm (by simpa using hz) hcell hwz
  clear hA0 hval0
  refine (walk a0 len0 cap0 a1 len1 cap1 W w0 w1 (of_laid hL)).mono fun e W' ⟨he, bel⟩ => ?_
  subst he
  exact ⟨_, rfl, _, _, _, [], _, [], hW', trodAll_mk1 (shut_bool Tryz.underlying4 _), (trodAll_cons_mk (Below.trod laidOut (by kernel_rfl) (of_decide_eq_true (by kernel_rfl)) k0 bel lt0) (trodAll_cons_mk (Below.trod laidOut (by kernel_rfl) (of_decide_eq_true (by kernel_rfl)) k1 bel lt1) trodAll_mk0)), rfl, bel.frame _, fun h => by cases h⟩

theorem over : Rows.fnExprSwapRow.holds Tryz.pinned (OpenSpec.ofChange Rows.fnExprSwapSpec) :=
  OpenClaim.holds_of_wide 9 Tryz.f9 rfl rfl rfl rfl rfl rfl rfl ⟨rfl, rfl, rfl, rfl, rfl⟩ rfl rfl rfl rfl rfl (by kernel_rfl) Tryz.func9 (by kernel_rfl)
    (of_decide_eq_true (by kernel_rfl)) (by unfold Func.isWrapper; first | (rw [if_pos (by decide +kernel)]; kernel_rfl) | (rw [if_neg (by decide +kernel)]; exact ⟨rfl, rfl⟩))
    (fun os started H enc _ => lifted os started H enc)
end Go.Proofs.YtggdlldagaggiaaGreatDoor.fnExprSwap
namespace Go.Proofs.YtggdlldagaggiaaGreatDoor

/-- The given statement. -/
theorem fnExprSwap_proved : Rows.FnExprSwapCardSaid :=
  Claim7.holds_tied_plain_at .later [] [.data, .data, .data, .sentinel, .sentinel] true (true, "1ba372455362d8308537e50782232f5108dfa5218fd8276efa2f30edc5358766") true
    fnExprSwap.over (fun _ h => by cases h) (by kernel_rfl) (fun _ h => by cases h) fnExprSwap_row_tie rfl ⟨rfl, rfl⟩ (by kernel_rfl) rfl
    (fun f fn hf hfn => by
      obtain rfl : f = 9 := Option.some.inj ((show Tryz.prog.funcNamed "loop.example/interlinear/laws.FnExprSwap" = some 9 by kernel_rfl).symm.trans hf) |>.symm
      obtain rfl : fn = Tryz.f9 := (Option.some.inj (Tryz.func9.symm.trans hfn)).symm
      exact ⟨by kernel_rfl, fun j t ht => by
        rw [Tryz.params9] at ht
        have hm : t ∈ [22, 22] := by simpa using Array.mem_of_getElem? ht
        have hall : ([22, 22].all fun u => !Tryz.prog.wantsStandIn u) = true := by kernel_rfl
        exact (show Tryz.prog.wantsStandIn t = false by simpa using List.all_eq_true.1 hall t hm)⟩)
    (by kernel_rfl)
#print axioms fnExprSwap_proved
end Go.Proofs.YtggdlldagaggiaaGreatDoor
