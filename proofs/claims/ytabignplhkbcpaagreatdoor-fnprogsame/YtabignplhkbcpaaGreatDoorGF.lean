/-
  SpecNo, SpecSay, SpecLet, SpecWhen, SpecStmt, SpecOk: these texts one behind the other, as a claim holds at most 60 files.
-/
import Derived.Test.YtabignplhkbcpaaGreatDoorDeed
import Derived.Test.YtabignplhkbcpaaGreatDoorSpecWords5
import Derived.Test.YtabignplhkbcpaaGreatDoorAppS
import Derived.Test.YtabignplhkbcpaaGreatDoorGP
import Derived.Test.YtabignplhkbcpaaGreatDoorGD
import Derived.Test.YtabignplhkbcpaaGreatDoorGL
namespace Go.Proofs.YtabignplhkbcpaaGreatDoor
open Go.RowKit

set_option maxRecDepth 100000 in
set_option maxHeartbeats 4000000 in
theorem l5Words_no (A1 A2 : Option Addr) (c1 c2 : Nat) (w : World) :
    Calls Tryz.prog 42 #[stV (De.noD).st A1 A2 c1 c2] w (Wordy (De.noD).words w) := by
  show Calls Tryz.prog 42 #[.agg #[.int .i64 0, .string ByteArray.empty, .string ByteArray.empty, .int .i64 0, .int .i64 0, .string ByteArray.empty, .slice A1 0 c1, .int .i64 0, .int .i64 0, .string ByteArray.empty, .slice A2 0 c2]] w (Wordy [] w)
  obtain ⟨W0, hW0⟩ : ∃ W0, W0 = w.alloc (.cells #[.int .i64 0, .string ByteArray.empty, .string ByteArray.empty, .int .i64 0, .int .i64 0, .string ByteArray.empty, .slice A1 0 c1, .int .i64 0, .int .i64 0, .string ByteArray.empty, .slice A2 0 c2] 36) := ⟨_, rfl⟩
  have hb0 : Below w.heap.size w W0 := by rw [hW0]; exact (Below.refl _ w).alloc (Nat.le_refl _) _
  have hz : W0.heap.size = w.heap.size + 1 := by rw [hW0]; simp
  have HE := Lib.hid (show (W0.alloc (.cells #[] 9)).ownsRow (w.heap.size + 1) 9 1 (.slice (some ⟨w.heap.size + 1, 0, none⟩) 0 0) 0 ([].map strV) from by have h := ownsRow_empty W0 9; rwa [hz] at h)
  have HB := Lib.hid (show Below w.heap.size w (W0.alloc (.cells #[] 9)) from hb0.alloc hb0.size _)
  clear hb0 hz
  go_enter Tryz.func42, Tryz.ntmps42
  go_wp2_with fail
  rw [← hW0]
  go_ret
  exact ⟨_, rfl, ownsRow_lower HE.out (by omega), HB.out⟩
end Go.Proofs.YtabignplhkbcpaaGreatDoor

namespace Go.Proofs.YtabignplhkbcpaaGreatDoor
open Go.RowKit

set_option linter.unusedVariables false in
set_option maxRecDepth 100000 in
set_option maxHeartbeats 4000000 in
theorem l5Words_say (p : Pt) (hp : p.ok = true) (A1 A2 : Option Addr) (c1 c2 B : Nat) (w : World) (hA1 : KidsAt w B A1 p.ex.kids) (hc1 : p.ex.kids.length ≤ c1) (hB : B ≤ w.heap.size) :
    Calls Tryz.prog 42 #[stV (De.sayD p).st A1 A2 c1 c2] w (Wordy (De.sayD p).words w) := by
  show Calls Tryz.prog 42 #[.agg #[.int .i64 2, .string ByteArray.empty, .string ByteArray.empty, .int .i64 p.ex.kind, .int .i64 p.ex.n, .string p.ex.s, .slice A1 p.ex.kids.length c1, .int .i64 0, .int .i64 0, .string ByteArray.empty, .slice A2 0 c2]] w (Wordy ([sSay] ++ p.words) w)
  have hfine := ok_fine hp
  have hnod : p.nodes ≤ 12 := by
    simp only [Pt.ok, Bool.and_eq_true, decide_eq_true_eq] at hp
    exact hp.2.2
  obtain ⟨W0, hW0⟩ : ∃ W0, W0 = w.alloc (.cells #[.int .i64 2, .string ByteArray.empty, .string ByteArray.empty, .int .i64 p.ex.kind, .int .i64 p.ex.n, .string p.ex.s, .slice A1 p.ex.kids.length c1, .int .i64 0, .int .i64 0, .string ByteArray.empty, .slice A2 0 c2] 36) := ⟨_, rfl⟩
  have hb0 : Below w.heap.size w W0 := by rw [hW0]; exact (Below.refl _ w).alloc (Nat.le_refl _) _
  obtain ⟨W1, hW1⟩ : ∃ W1, W1 = W0.alloc (.cells #[.string ⟨#[115, 97, 121]⟩] 9) := ⟨_, rfl⟩
  have hb1 : Below W0.heap.size W0 W1 := by rw [hW1]; exact (Below.refl _ _).alloc (Nat.le_refl _) _
  have hb01 := hb0.trans (hb1.mono hb0.size)
  have HOW := Lib.hid (show W1.ownsRow W0.heap.size 9 1 (.slice (some ⟨W0.heap.size, 0, none⟩) 1 1) 1 ([sSay].map strV) by rw [hW1]; exact own_oneS W0 sSay)
  have HW := Lib.hid (show Calls Tryz.prog 63 #[.agg #[.int .i64 p.ex.kind, .int .i64 p.ex.n, .string p.ex.s, .slice A1 p.ex.kids.length c1], .int .i64 1] W1 (Wordy p.words W1) from by
    have h := l4Words_any p hfine (by omega) A1 c1 B W1 1 (hA1.keep (hb01.mono hB)) hc1 (Nat.le_trans hB hb01.size) (by omega)
    rwa [Pt.at_one hfine] at h)
  have hpos := p.words_pos
  have hlen : p.words.length ≤ 72 := by have := p.words_length; omega
  have hzW : W0.heap.size = w.heap.size + 1 := by rw [hW0]; simp
  generalize p.words = ws at *
  generalize p.ex = x at *
  rw [hzW] at HOW
  rw [hW0] at hW1
  clear hA1 hp hfine hnod
  have HZ := Lib.hid hzW
  clear hzW
  go_enter Tryz.func42, Tryz.ntmps42
  go_wp2_with fail
  rw [← hW1]
  clear hW1 hW0
  refine HW.out.mono ?_
  rintro r w2 ⟨v, rfl, hv, hb2⟩
  obtain ⟨g, cap, rfl, _, _⟩ := hv.form (by omega)
  have HSRC := Lib.hid (src_of (SlIs.own hv))
  have HO2 := Lib.hid (own_below HOW.out hb2)
  have hz2 := hb2.size
  have hz1 := hb1.size
  have hbase : w.heap.size + 1 ≤ w2.heap.size := by have := HZ.out; omega
  clear hv HW
  go_wp2_with (at_builtin; refine wpList_appS rfl _ _ rfl (w.heap.size + 1) (.slice (some ⟨w.heap.size + 1, 0, none⟩) 1 1) [sSay] (by rfl) HO2.out g 0 ws.length cap ws (by rfl) rfl HSRC.out (by simp; omega) hbase ?_; intro v1 Y hO hG)
  have hY : Below (w.heap.size + 1) w2 Y := below_appS (Below.refl _ _) hbase HO2.out hG
  have hw12 : Below w.heap.size w w2 := hb01.trans (hb2.mono hb01.size)
  obtain ⟨A5, c5, rfl, _⟩ := own_slice hO
  go_ret
  exact ⟨_, rfl, ownsRow_lower hO (by omega), hw12.trans (hY.mono (by omega))⟩
end Go.Proofs.YtabignplhkbcpaaGreatDoor

namespace Go.Proofs.YtabignplhkbcpaaGreatDoor
open Go.RowKit

theorem own_fiveS (w : World) (a b c d e : ByteArray) : (w.alloc (.cells #[.string a, .string b, .string c, .string d, .string e] 9)).ownsRow w.heap.size 9 1 (.slice (some ⟨w.heap.size, 0, none⟩) 5 5) 5 ([a, b, c, d, e].map strV) :=
  ⟨rfl, .inr ⟨w.heap.size, 5, #[.string a, .string b, .string c, .string d, .string e], rfl, Nat.le_refl _, World.alloc_heap_new w _, Nat.le_refl _, by simp [maxLen], rfl, rfl⟩⟩
theorem ownR_five {X Y : World} {B : Nat} {a b c d e : ByteArray} (hY : Y = X.alloc (.cells #[.string a, .string b, .string c, .string d, .string e] 9)) (hB : B ≤ X.heap.size) : OwnR Y B X.heap.size 5 5 [a, b, c, d, e] := by
  rw [hY]; exact ⟨hB, by simp, ownsRow_lower (own_fiveS X a b c d e) hB⟩
theorem ownR_five' {X Y : World} {B : Nat} {a b c d e : ByteArray} (hY : Y = X.drew.alloc (.cells #[.string a, .string b, .string c, .string d, .string e] 9)) (hB : B ≤ X.heap.size) : OwnR Y B X.heap.size 5 5 [a, b, c, d, e] := by
  rw [hY]; exact ⟨hB, by simp, ownsRow_lower (own_fiveS X.drew a b c d e) hB⟩
theorem ownR_five'' {X Y : World} {B : Nat} {a b c d e : ByteArray} (hY : Y = (X.alloc (.cells #[.string a, .string b, .string c, .string d, .string e] 9)).drew) (hB : B ≤ X.heap.size) : OwnR Y B X.heap.size 5 5 [a, b, c, d, e] := by
  rw [hY]; exact ⟨hB, by simp, ownsRow_lower (own_fiveS X a b c d e) hB⟩

set_option linter.unusedVariables false in
set_option linter.unusedSimpArgs false in
set_option maxRecDepth 100000 in
set_option maxHeartbeats 8000000 in
theorem l5Words_let (n t : ByteArray) (p : Pt) (hp : p.ok = true) (A1 A2 : Option Addr) (c1 c2 B : Nat) (w : World) (hA1 : KidsAt w B A1 p.ex.kids) (hc1 : p.ex.kids.length ≤ c1) (hB : B ≤ w.heap.size) :
    Calls Tryz.prog 42 #[stV (De.letD n t p).st A1 A2 c1 c2] w (Wordy (De.letD n t p).words w) := by
  show Calls Tryz.prog 42 #[.agg #[.int .i64 1, .string n, .string t, .int .i64 p.ex.kind, .int .i64 p.ex.n, .string p.ex.s, .slice A1 p.ex.kids.length c1, .int .i64 0, .int .i64 0, .string ByteArray.empty, .slice A2 0 c2]] w (Wordy ([sLet, n, sColon, t, sEq] ++ p.words) w)
  have hfine := ok_fine hp
  have hnod : p.nodes ≤ 12 := by
    simp only [Pt.ok, Bool.and_eq_true, decide_eq_true_eq] at hp
    exact hp.2.2
  obtain ⟨W0, hW0⟩ : ∃ W0, W0 = w.alloc (.cells #[.int .i64 1, .string n, .string t, .int .i64 p.ex.kind, .int .i64 p.ex.n, .string p.ex.s, .slice A1 p.ex.kids.length c1, .int .i64 0, .int .i64 0, .string ByteArray.empty, .slice A2 0 c2] 36) := ⟨_, rfl⟩
  have hb0 : Below w.heap.size w W0 := by rw [hW0]; exact (Below.refl _ w).alloc (Nat.le_refl _) _
  have hz0 : W0.heap.size = w.heap.size + 1 := by rw [hW0]; simp
  have HI := Lib.hid (fun (W : World) (hW : Below w.heap.size w W) => show Calls Tryz.prog 63 #[.agg #[.int .i64 p.ex.kind, .int .i64 p.ex.n, .string p.ex.s, .slice A1 p.ex.kids.length c1], .int .i64 1] W (Wordy p.words W) from by
    have h := l4Words_any p hfine (by omega) A1 c1 B W 1 (hA1.keep (hW.mono hB)) hc1 (Nat.le_trans hB hW.size) (by omega)
    rwa [Pt.at_one hfine] at h)
  have hla := p.words_pos
  have hlen : p.words.length ≤ 72 := by have := p.words_length; omega
  generalize p.words = ws at *
  generalize p.ex = x at *
  have hcell : ∀ (j : Nat) (u : Value), (#[.int .i64 1, .string n, .string t, .int .i64 x.kind, .int .i64 x.n, .string x.s, .slice A1 x.kids.length c1, .int .i64 0, .int .i64 0, .string ByteArray.empty, .slice A2 0 c2] : Array Value)[j]? = some u → W0.cell? ⟨w.heap.size, j, none⟩ = some u := by
    intro j u hu
    have h0 : W0.heap[w.heap.size]? = some (.cells #[.int .i64 1, .string n, .string t, .int .i64 x.kind, .int .i64 x.n, .string x.s, .slice A1 x.kids.length c1, .int .i64 0, .int .i64 0, .string ByteArray.empty, .slice A2 0 c2] 36) := by rw [hW0]; exact World.alloc_heap_new w _
    simp only [World.cell?, h0]
    exact hu
  have HS := Lib.hid (show ∀ W, Below (w.heap.size + 1) W0 W → W.cell? ⟨w.heap.size, 1, none⟩ = some (.string n) ∧ W.cell? ⟨w.heap.size, 2, none⟩ = some (.string t) ∧ W.cell? ⟨w.heap.size, 3, none⟩ = some (.int .i64 x.kind) ∧ W.cell? ⟨w.heap.size, 4, none⟩ = some (.int .i64 x.n) ∧ W.cell? ⟨w.heap.size, 5, none⟩ = some (.string x.s) ∧ W.cell? ⟨w.heap.size, 6, none⟩ = some (.slice A1 x.kids.length c1) ∧ Below (w.heap.size + 1) W0 W from fun W hW =>
    ⟨(hW.cell (p := ⟨w.heap.size, 1, none⟩) (Nat.lt_succ_self _)).trans (hcell 1 _ rfl),
     (hW.cell (p := ⟨w.heap.size, 2, none⟩) (Nat.lt_succ_self _)).trans (hcell 2 _ rfl),
     (hW.cell (p := ⟨w.heap.size, 3, none⟩) (Nat.lt_succ_self _)).trans (hcell 3 _ rfl),
     (hW.cell (p := ⟨w.heap.size, 4, none⟩) (Nat.lt_succ_self _)).trans (hcell 4 _ rfl),
     (hW.cell (p := ⟨w.heap.size, 5, none⟩) (Nat.lt_succ_self _)).trans (hcell 5 _ rfl),
     (hW.cell (p := ⟨w.heap.size, 6, none⟩) (Nat.lt_succ_self _)).trans (hcell 6 _ rfl), hW⟩)
  obtain ⟨y1, y2, y3, y4, y5, y6, _⟩ := HS.out W0 (Below.refl _ W0)
  have hw1 : w.heap.size + 1 ≤ W0.heap.size := by omega
  clear hA1 hp hfine hnod hcell
  go_enter Tryz.func42, Tryz.ntmps42
  go_wp2_with fail
  rw [← hW0]
  obtain ⟨X, hX⟩ : ∃ X, X = W0 := ⟨_, rfl⟩
  have BX : Below (w.heap.size + 1) W0 X := by rw [hX]; exact Below.refl _ _
  rw [← hX] at y1 y2 y3 y4 y5 y6
  rw [← hX]
  clear hX hW0
  go_region_held3 (fun W => W.cell? ⟨w.heap.size, 1, none⟩ = some (.string n) ∧ W.cell? ⟨w.heap.size, 2, none⟩ = some (.string t) ∧ W.cell? ⟨w.heap.size, 3, none⟩ = some (.int .i64 x.kind) ∧ W.cell? ⟨w.heap.size, 4, none⟩ = some (.int .i64 x.n) ∧ W.cell? ⟨w.heap.size, 5, none⟩ = some (.string x.s) ∧ W.cell? ⟨w.heap.size, 6, none⟩ = some (.slice A1 x.kids.length c1) ∧ Below (w.heap.size + 1) W0 W)
      (first | with_reducible exact HS.out _ BX | with_reducible exact HS.out _ (BX.drew) | exact HS.out _ (BX.alloc (Nat.le_trans hw1 BX.size) _) | exact HS.out _ (BX.drew.alloc (Nat.le_trans hw1 BX.size) _) | exact HS.out _ (BX.alloc (Nat.le_trans hw1 BX.size) _).drew)
      (first | (go_at_call 63; refine calls_named ?_; intro Y hY; have hXY : Below X.heap.size X Y := (by rw [hY]; first | exact Below.refl _ _ | exact (Below.refl _ _).drew | exact (Below.refl _ _).alloc (Nat.le_refl _) _ | exact (Below.refl _ _).drew.alloc (Nat.le_refl _) _ | exact ((Below.refl _ _).alloc (Nat.le_refl _) _).drew); have hwX := Nat.le_trans hw1 BX.size; (try replace HOX := Lib.hid (HOX.out.below hXY)); (try (first | have HOX := Lib.hid (ownR_five hY hwX) | have HOX := Lib.hid (ownR_five' hY hwX) | have HOX := Lib.hid (ownR_five'' hY hwX))); replace BX := BX.trans (hXY.mono hwX); clear hY hXY hwX; (try have hgo := HOX.out.2.1); have hBY := hb0.trans (BX.mono (Nat.le_add_right _ 1)); with_reducible refine (HI.out Y hBY).mono ?_; clear hBY; intro r X hwd; obtain ⟨gA, capA, rfl, hg1, hg2, RA, hYZ⟩ := wordy_some hla hwd; (try replace HOX := Lib.hid (HOX.out.below hYZ)); have hwY := Nat.le_trans hw1 BX.size; replace BX := BX.trans (hYZ.mono hwY); clear hwd hYZ) | (refine wp_named ?_; intro Y hY; have hXY : Below X.heap.size X Y := (by rw [hY]; first | exact Below.refl _ _ | exact (Below.refl _ _).drew | exact (Below.refl _ _).alloc (Nat.le_refl _) _ | exact (Below.refl _ _).drew.alloc (Nat.le_refl _) _ | exact ((Below.refl _ _).alloc (Nat.le_refl _) _).drew); have hwX := Nat.le_trans hw1 BX.size; (try replace HOX := Lib.hid (HOX.out.below hXY)); (try (first | have HOX := Lib.hid (ownR_five hY hwX) | have HOX := Lib.hid (ownR_five' hY hwX) | have HOX := Lib.hid (ownR_five'' hY hwX))); have hg3 := Nat.lt_of_lt_of_le hg2 hXY.size; have hgY := fun j u hj => (hXY.cell (p := (⟨gA, 0, none⟩ : Addr).add j) (by rw [addr_block]; exact hg2)).trans (RA j u hj); replace BX := BX.trans (hXY.mono hwX); clear hY hXY hwX; refine step_ownR rfl (.tmp 12) (.tmp 15) rfl _ _ _ _ _ HOX.out (by simp [Act.eval, Act.put]) gA _ capA _ ⟨hg3, by omega, hgY⟩ (by simp [Act.eval, Act.put]) rfl (by first | omega | (simp; omega)) (by first | omega | (simp; omega)) (Nat.le_trans hw1 BX.size) ?_; intro gr' cap' X hO hG hor; replace BX := BX.grown hG (Nat.le_trans hw1 BX.size) (fun j e => by obtain rfl := Option.some.inj e; exact HOX.out.1); replace HOX := Lib.hid hO; clear hO hG hor))
  all_goals
    have hBX := hb0.trans (BX.mono (Nat.le_add_right _ 1))
    go_wp2_with fail
    go_ret
    have h9 := ownsRow_lower HOX.out.2.2 (Nat.le_add_right w.heap.size 1)
    have e9 : (sLet :: n :: sColon :: t :: sEq :: ws).length = 5 + ws.length := by simp; omega
    refine ⟨_, rfl, ?_, hBX⟩
    rw [e9]
    exact h9
end Go.Proofs.YtabignplhkbcpaaGreatDoor

namespace Go.Proofs.YtabignplhkbcpaaGreatDoor
open Go.RowKit

set_option linter.unusedVariables false in
set_option linter.unusedSimpArgs false in
set_option maxRecDepth 100000 in
set_option maxHeartbeats 8000000 in
theorem l5Words_when (p q : Pt) (hp : p.ok = true) (hq : q.ok = true) (A1 A2 : Option Addr) (c1 c2 B : Nat) (w : World) (hA1 : KidsAt w B A1 p.ex.kids) (hA2 : KidsAt w B A2 q.ex.kids) (hc1 : p.ex.kids.length ≤ c1) (hc2 : q.ex.kids.length ≤ c2) (hB : B ≤ w.heap.size) :
    Calls Tryz.prog 42 #[stV (De.whenD p q).st A1 A2 c1 c2] w (Wordy (De.whenD p q).words w) := by
  rw [show (De.whenD p q).words = [sWhen] ++ p.words ++ [sSay] ++ q.words by simp [De.words]]
  show Calls Tryz.prog 42 #[.agg #[.int .i64 3, .string ByteArray.empty, .string ByteArray.empty, .int .i64 p.ex.kind, .int .i64 p.ex.n, .string p.ex.s, .slice A1 p.ex.kids.length c1, .int .i64 q.ex.kind, .int .i64 q.ex.n, .string q.ex.s, .slice A2 q.ex.kids.length c2]] w (Wordy ([sWhen] ++ p.words ++ [sSay] ++ q.words) w)
  have hfine := ok_fine hp
  have hfine2 := ok_fine hq
  have hnod : p.nodes ≤ 12 := by
    simp only [Pt.ok, Bool.and_eq_true, decide_eq_true_eq] at hp
    exact hp.2.2
  have hnod2 : q.nodes ≤ 12 := by
    simp only [Pt.ok, Bool.and_eq_true, decide_eq_true_eq] at hq
    exact hq.2.2
  obtain ⟨W0, hW0⟩ : ∃ W0, W0 = w.alloc (.cells #[.int .i64 3, .string ByteArray.empty, .string ByteArray.empty, .int .i64 p.ex.kind, .int .i64 p.ex.n, .string p.ex.s, .slice A1 p.ex.kids.length c1, .int .i64 q.ex.kind, .int .i64 q.ex.n, .string q.ex.s, .slice A2 q.ex.kids.length c2] 36) := ⟨_, rfl⟩
  have hb0 : Below w.heap.size w W0 := by rw [hW0]; exact (Below.refl _ w).alloc (Nat.le_refl _) _
  have hz0 : W0.heap.size = w.heap.size + 1 := by rw [hW0]; simp
  have HI := Lib.hid (fun (W : World) (hW : Below w.heap.size w W) => show Calls Tryz.prog 63 #[.agg #[.int .i64 p.ex.kind, .int .i64 p.ex.n, .string p.ex.s, .slice A1 p.ex.kids.length c1], .int .i64 1] W (Wordy p.words W) from by
    have h := l4Words_any p hfine (by omega) A1 c1 B W 1 (hA1.keep (hW.mono hB)) hc1 (Nat.le_trans hB hW.size) (by omega)
    rwa [Pt.at_one hfine] at h)
  have HJ := Lib.hid (fun (W : World) (hW : Below w.heap.size w W) => show Calls Tryz.prog 63 #[.agg #[.int .i64 q.ex.kind, .int .i64 q.ex.n, .string q.ex.s, .slice A2 q.ex.kids.length c2], .int .i64 1] W (Wordy q.words W) from by
    have h := l4Words_any q hfine2 (by omega) A2 c2 B W 1 (hA2.keep (hW.mono hB)) hc2 (Nat.le_trans hB hW.size) (by omega)
    rwa [Pt.at_one hfine2] at h)
  have hla := p.words_pos
  have hlb := q.words_pos
  have hlen : p.words.length ≤ 72 := by have := p.words_length; omega
  have hlen2 : q.words.length ≤ 72 := by have := q.words_length; omega
  generalize p.words = ws at *
  generalize q.words = vs at *
  generalize p.ex = x at *
  generalize q.ex = y at *
  obtain ⟨W1, hW1⟩ : ∃ W1, W1 = W0.alloc (.cells #[.string ⟨#[119, 104, 101, 110]⟩] 9) := ⟨_, rfl⟩
  have hb1 : Below W0.heap.size W0 W1 := by rw [hW1]; exact (Below.refl _ _).alloc (Nat.le_refl _) _
  have HOW := Lib.hid (show W1.ownsRow (w.heap.size + 1) 9 1 (.slice (some ⟨w.heap.size + 1, 0, none⟩) 1 1) 1 ([sWhen].map strV) by have h := own_oneS W0 sWhen; rw [← hz0, hW1]; exact h)
  have hcell : ∀ (j : Nat) (u : Value), (#[.int .i64 3, .string ByteArray.empty, .string ByteArray.empty, .int .i64 x.kind, .int .i64 x.n, .string x.s, .slice A1 x.kids.length c1, .int .i64 y.kind, .int .i64 y.n, .string y.s, .slice A2 y.kids.length c2] : Array Value)[j]? = some u → W0.cell? ⟨w.heap.size, j, none⟩ = some u := by
    intro j u hu
    have h0 : W0.heap[w.heap.size]? = some (.cells #[.int .i64 3, .string ByteArray.empty, .string ByteArray.empty, .int .i64 x.kind, .int .i64 x.n, .string x.s, .slice A1 x.kids.length c1, .int .i64 y.kind, .int .i64 y.n, .string y.s, .slice A2 y.kids.length c2] 36) := by rw [hW0]; exact World.alloc_heap_new w _
    simp only [World.cell?, h0]
    exact hu
  have HS := Lib.hid (show ∀ W, Below (w.heap.size + 1) W0 W → W.cell? ⟨w.heap.size, 7, none⟩ = some (.int .i64 y.kind) ∧ W.cell? ⟨w.heap.size, 8, none⟩ = some (.int .i64 y.n) ∧ W.cell? ⟨w.heap.size, 9, none⟩ = some (.string y.s) ∧ W.cell? ⟨w.heap.size, 10, none⟩ = some (.slice A2 y.kids.length c2) ∧ Below (w.heap.size + 1) W0 W from fun W hW =>
    ⟨(hW.cell (p := ⟨w.heap.size, 7, none⟩) (Nat.lt_succ_self _)).trans (hcell 7 _ rfl),
     (hW.cell (p := ⟨w.heap.size, 8, none⟩) (Nat.lt_succ_self _)).trans (hcell 8 _ rfl),
     (hW.cell (p := ⟨w.heap.size, 9, none⟩) (Nat.lt_succ_self _)).trans (hcell 9 _ rfl),
     (hW.cell (p := ⟨w.heap.size, 10, none⟩) (Nat.lt_succ_self _)).trans (hcell 10 _ rfl), hW⟩)
  have hw1 : w.heap.size + 1 ≤ W0.heap.size := by omega
  have hb01 := hb0.trans (hb1.mono hb0.size)
  have HW := Lib.hid (HI.out W1 hb01)
  rw [hW0] at hW1
  have HZ := Lib.hid hz0
  clear hA1 hA2 hp hq hfine hfine2 hnod hnod2 hcell hz0 HI
  go_enter Tryz.func42, Tryz.ntmps42
  go_wp2_with fail
  rw [← hW1]
  clear hW1 hW0
  refine HW.out.mono ?_
  rintro r w2 ⟨v, rfl, hv, hb2⟩
  obtain ⟨g, cap, rfl, _, _⟩ := hv.form (by omega)
  have HSRC := Lib.hid (src_of (SlIs.own hv))
  have HO2 := Lib.hid (own_below HOW.out hb2)
  have hz2 := hb2.size
  have hz1 := hb1.size
  have hbase : w.heap.size + 1 ≤ w2.heap.size := by omega
  clear hv HW
  go_wp2_with (at_builtin; refine wpList_appS rfl _ _ rfl (w.heap.size + 1) (.slice (some ⟨w.heap.size + 1, 0, none⟩) 1 1) [sWhen] (by rfl) HO2.out g 0 ws.length cap ws (by rfl) rfl HSRC.out (by simp; omega) hbase ?_; intro v1 X hO hG)
  have hYX : Below (w.heap.size + 1) w2 X := below_appS (Below.refl _ _) hbase HO2.out hG
  have BX : Below (w.heap.size + 1) W0 X := (hb1.mono hw1).trans ((hb2.mono (Nat.le_trans hw1 hz1)).trans hYX)
  obtain ⟨gr, cr, rfl, hgr⟩ := own_some hO (by simp)
  have HOX := Lib.hid (show OwnR X (w.heap.size + 1) gr ([sWhen] ++ ws).length cr ([sWhen] ++ ws) from ⟨hgr, (hO.lt gr rfl).2, hO⟩)
  have hl1 : ([sWhen] ++ ws).length = 1 + ws.length := by simp; omega
  rw [hl1] at HOX
  rw [hl1]
  obtain ⟨us, hus⟩ : ∃ us, us = [sWhen] ++ ws := ⟨_, rfl⟩
  rw [← hus] at HOX
  clear hO hG HSRC HO2 HOW hYX hbase hl1
  obtain ⟨y7, y8, y9, y10, _⟩ := HS.out X BX
  go_wp2_with fail
  go_region_held3 (fun W => W.cell? ⟨w.heap.size, 7, none⟩ = some (.int .i64 y.kind) ∧ W.cell? ⟨w.heap.size, 8, none⟩ = some (.int .i64 y.n) ∧ W.cell? ⟨w.heap.size, 9, none⟩ = some (.string y.s) ∧ W.cell? ⟨w.heap.size, 10, none⟩ = some (.slice A2 y.kids.length c2) ∧ Below (w.heap.size + 1) W0 W)
      (first | with_reducible exact HS.out _ BX | with_reducible exact HS.out _ (BX.drew) | exact HS.out _ (BX.alloc (Nat.le_trans hw1 BX.size) _) | exact HS.out _ (BX.drew.alloc (Nat.le_trans hw1 BX.size) _) | exact HS.out _ (BX.alloc (Nat.le_trans hw1 BX.size) _).drew)
      (first | (go_at_call 63; refine calls_named ?_; intro Y hY; have hXY : Below X.heap.size X Y := (by rw [hY]; first | exact Below.refl _ _ | exact (Below.refl _ _).drew | exact (Below.refl _ _).alloc (Nat.le_refl _) _ | exact (Below.refl _ _).drew.alloc (Nat.le_refl _) _ | exact ((Below.refl _ _).alloc (Nat.le_refl _) _).drew); (try (first | have RB := rowD_at hY HOX.out | have RB := rowD_at_drew hY HOX.out | have RB := rowD_at_drew' hY HOX.out)); (try replace RB := RB.below hXY); (try replace RC := RC.below hXY); replace HOX := Lib.hid (HOX.out.below hXY); replace BX := BX.trans (hXY.mono (Nat.le_trans hw1 BX.size)); clear hY hXY; have hBY := hb0.trans (BX.mono (Nat.le_add_right _ 1)); with_reducible refine (HJ.out Y hBY).mono ?_; clear hBY; intro r X hwd; obtain ⟨gC, capC, rfl, RC, hYZ⟩ := wordy_row hlb hwd HOX.out; (try replace RB := RB.below hYZ); replace HOX := Lib.hid (HOX.out.below hYZ); replace BX := BX.trans (hYZ.mono (Nat.le_trans hw1 BX.size)); clear hwd hYZ) | (refine wp_named ?_; intro Y hY; have hXY : Below X.heap.size X Y := (by rw [hY]; first | exact Below.refl _ _ | exact (Below.refl _ _).drew | exact (Below.refl _ _).alloc (Nat.le_refl _) _ | exact (Below.refl _ _).drew.alloc (Nat.le_refl _) _ | exact ((Below.refl _ _).alloc (Nat.le_refl _) _).drew); (try (first | have RB := rowD_at hY HOX.out | have RB := rowD_at_drew hY HOX.out | have RB := rowD_at_drew' hY HOX.out)); (try replace RB := RB.below hXY); (try replace RC := RC.below hXY); replace HOX := Lib.hid (HOX.out.below hXY); replace BX := BX.trans (hXY.mono (Nat.le_trans hw1 BX.size)); clear hY hXY; refine step_ownR rfl (.tmp 31) (.tmp 32) rfl _ _ _ _ _ HOX.out (by simp [Act.eval, Act.put]) _ _ 1 _ RB (by simp [Act.eval, Act.put]) rfl (by first | omega | (simp; omega)) (by first | omega | (simp; omega)) (Nat.le_trans hw1 BX.size) ?_; intro gr' cap' X hO hG hor; replace BX := BX.grown hG (Nat.le_trans hw1 BX.size) (fun j e => by obtain rfl := Option.some.inj e; exact HOX.out.1); (try replace RC := RC.grown hG hor); clear RB; replace HOX := Lib.hid hO; clear hO hG hor) | (refine wp_named ?_; intro Y hY; have hXY : Below X.heap.size X Y := (by rw [hY]; first | exact Below.refl _ _ | exact (Below.refl _ _).drew | exact (Below.refl _ _).alloc (Nat.le_refl _) _ | exact (Below.refl _ _).drew.alloc (Nat.le_refl _) _ | exact ((Below.refl _ _).alloc (Nat.le_refl _) _).drew); (try (first | have RB := rowD_at hY HOX.out | have RB := rowD_at_drew hY HOX.out | have RB := rowD_at_drew' hY HOX.out)); (try replace RB := RB.below hXY); (try replace RC := RC.below hXY); replace HOX := Lib.hid (HOX.out.below hXY); replace BX := BX.trans (hXY.mono (Nat.le_trans hw1 BX.size)); clear hY hXY; refine step_ownR rfl (.tmp 33) (.tmp 36) rfl _ _ _ _ _ HOX.out (by simp [Act.eval, Act.put]) _ _ capC _ RC (by simp [Act.eval, Act.put]) rfl (by first | omega | (simp; omega)) (by first | omega | (simp; omega)) (Nat.le_trans hw1 BX.size) ?_; intro gr' cap' X hO hG hor; replace BX := BX.grown hG (Nat.le_trans hw1 BX.size) (fun j e => by obtain rfl := Option.some.inj e; exact HOX.out.1); (try replace RB := RB.grown hG hor); clear RC; replace HOX := Lib.hid hO; clear hO hG hor))
  all_goals
    have hBX := hb0.trans (BX.mono (Nat.le_add_right _ 1))
    go_wp2_with fail
    go_ret
    have h9 := ownsRow_lower HOX.out.2.2 (Nat.le_add_right w.heap.size 1)
    refine ⟨_, rfl, ?_, hBX⟩
    have e9 : (sWhen :: (ws ++ [sSay] ++ vs)).length = 1 + ws.length + 1 + vs.length := by simp; omega
    rw [hus] at h9
    rw [e9]
    exact h9
end Go.Proofs.YtabignplhkbcpaaGreatDoor

namespace Go.Proofs.YtabignplhkbcpaaGreatDoor
open Go.RowKit

set_option maxRecDepth 100000 in
set_option maxHeartbeats 1000000 in
theorem l5None_any (e : Ex) (A : Option Addr) (c B : Nat) (w : World) (hA : KidsAt w B A e.kids) (hc : e.kids.length ≤ c) (hB : B ≤ w.heap.size) (hw : e.wt ≤ 2 ^ 40) :
    Calls Tryz.prog 37 #[.agg #[.int .i64 e.kind, .int .i64 e.n, .string e.s, .slice A e.kids.length c]] w fun r w' => r = .returned (.bool (sameE e Ex.zero)) ∧ Below w.heap.size w w' := by
  obtain ⟨W0, hW0⟩ : ∃ W0, W0 = w.alloc (.cells #[.int .i64 e.kind, .int .i64 e.n, .string e.s, .slice A e.kids.length c] 34) := ⟨_, rfl⟩
  have hb0 : Below w.heap.size w W0 := by rw [hW0]; exact (Below.refl _ w).alloc (Nat.le_refl _) _
  have HS := Lib.hid (show Calls Tryz.prog 58 #[.agg #[.int .i64 e.kind, .int .i64 e.n, .string e.s, .slice A e.kids.length c], .agg #[.int .i64 0, .int .i64 0, .string { data := #[] }, .slice none 0 0]] W0 (fun r w' => r = .returned (.bool (sameE e Ex.zero)) ∧ Below W0.heap.size W0 w') from
    specSame_any e Ex.zero A none c 0 B W0 (hA.keep (hb0.mono hB)) .nil hc (Nat.le_refl _) (Nat.le_trans hB hb0.size) hw)
  clear hA
  go_enter Tryz.func37, Tryz.ntmps37
  go_wp2_with fail
  rw [← hW0]
  refine HS.out.mono ?_
  rintro r w1 ⟨rfl, hb1⟩
  go_wp2_with fail
  go_ret
  exact ⟨rfl, hb0.trans (hb1.mono hb0.size)⟩
end Go.Proofs.YtabignplhkbcpaaGreatDoor

namespace Go.Proofs.YtabignplhkbcpaaGreatDoor
open Go.RowKit

theorem l5Words_any (d : De) (hd : d.fine = true) (A1 A2 : Option Addr) (c1 c2 B : Nat) (w : World) (hA1 : KidsAt w B A1 d.st.e.kids) (hA2 : KidsAt w B A2 d.st.t.kids) (hc1 : d.st.e.kids.length ≤ c1) (hc2 : d.st.t.kids.length ≤ c2) (hB : B ≤ w.heap.size) :
    Calls Tryz.prog 42 #[stV d.st A1 A2 c1 c2] w (Wordy d.words w) := by
  cases d with
  | noD => exact l5Words_no A1 A2 c1 c2 w
  | letD n t p =>
    simp only [De.fine, Bool.and_eq_true] at hd
    exact l5Words_let n t p hd.2.2 A1 A2 c1 c2 B w hA1 hc1 hB
  | sayD p => exact l5Words_say p hd A1 A2 c1 c2 B w hA1 hc1 hB
  | whenD p q =>
    simp only [De.fine, Bool.and_eq_true] at hd
    exact l5Words_when p q hd.1 hd.2 A1 A2 c1 c2 B w hA1 hA2 hc1 hc2 hB
/-- What the model asks ahead of the width. -/
def preS (s : St) : Bool :=
  if s.kind = 0 then decide (s.name = ByteArray.empty) && (decide (s.typ = ByteArray.empty) && (sameE s.e Ex.zero && sameE s.t Ex.zero))
  else if s.kind = 1 then nameB s.name && (typeB s.typ && (okE s.e && sameE s.t Ex.zero))
  else if s.kind = 2 then decide (s.name = ByteArray.empty) && (decide (s.typ = ByteArray.empty) && (okE s.e && sameE s.t Ex.zero))
  else if s.kind = 3 then decide (s.name = ByteArray.empty) && (decide (s.typ = ByteArray.empty) && (okE s.e && okE s.t))
  else false
theorem preS_some {s : St} (h : preS s = true) : ∃ d : De, d.fine = true ∧ d.st = s := by
  obtain ⟨k, n, t, x, y⟩ := s
  unfold preS at h
  simp only at h
  split at h
  · rename_i hk
    simp only [Bool.and_eq_true, decide_eq_true_eq, sameE_iff] at h
    obtain ⟨rfl, rfl, rfl, rfl⟩ := h
    exact ⟨.noD, rfl, by rw [hk]; rfl⟩
  · split at h
    · rename_i hk
      simp only [Bool.and_eq_true, sameE_iff] at h
      obtain ⟨h1, h2, h3, rfl⟩ := h
      obtain ⟨p, hp⟩ := Option.isSome_iff_exists.1 ((okP_isSome _).trans h3)
      obtain ⟨e1, e2⟩ := okP_some hp
      subst e1
      exact ⟨.letD n t p, by simp [De.fine, h1, h2, e2], by rw [hk]; rfl⟩
    · split at h
      · rename_i hk
        simp only [Bool.and_eq_true, decide_eq_true_eq, sameE_iff] at h
        obtain ⟨rfl, rfl, h3, rfl⟩ := h
        obtain ⟨p, hp⟩ := Option.isSome_iff_exists.1 ((okP_isSome _).trans h3)
        obtain ⟨e1, e2⟩ := okP_some hp
        subst e1
        exact ⟨.sayD p, e2, by rw [hk]; rfl⟩
      · split at h
        · rename_i hk
          simp only [Bool.and_eq_true, decide_eq_true_eq] at h
          obtain ⟨rfl, rfl, h3, h4⟩ := h
          obtain ⟨p, hp⟩ := Option.isSome_iff_exists.1 ((okP_isSome _).trans h3)
          obtain ⟨e1, e2⟩ := okP_some hp
          obtain ⟨q, hq⟩ := Option.isSome_iff_exists.1 ((okP_isSome _).trans h4)
          obtain ⟨e3, e4⟩ := okP_some hq
          subst e1 e3
          exact ⟨.whenD p q, by simp [De.fine, e2, e4], by rw [hk]; rfl⟩
        · cases h
theorem preS_st {d : De} (h : d.fine = true) : preS d.st = true := by
  cases d with
  | noD => simp [preS, De.st, sameE_iff]
  | letD n t p =>
    simp only [De.fine, Bool.and_eq_true] at h
    simp [preS, De.st, h.1, h.2.1, ← okP_isSome, okP_ex h.2.2, sameE_iff]
  | sayD p => simp [preS, De.st, ← okP_isSome, okP_ex (show p.ok = true from h), sameE_iff]
  | whenD p q =>
    simp only [De.fine, Bool.and_eq_true] at h
    simp [preS, De.st, ← okP_isSome, okP_ex h.1, okP_ex h.2]
theorem doS_pre {s : St} (h : preS s = false) : (doS s).isSome = false := by
  rw [Bool.eq_false_iff]
  intro h2
  obtain ⟨d, hd⟩ := Option.isSome_iff_exists.1 h2
  obtain ⟨h3, h4, _⟩ := doS_some hd
  rw [← h4, preS_st h3] at h
  cases h
theorem doS_isSome {d : De} (h : d.fine = true) : (doS d.st).isSome = decide (d.text.size ≤ 116) := by
  by_cases hw : d.text.size ≤ 116
  · rw [doS_st h hw, decide_eq_true hw]; rfl
  · rw [decide_eq_false hw, Bool.eq_false_iff]
    intro h2
    obtain ⟨x, hx⟩ := Option.isSome_iff_exists.1 h2
    obtain ⟨h3, h4, h5⟩ := doS_some hx
    have h6 := deS_st h3
    rw [h4, deS_st h] at h6
    cases h6
    exact hw h5
end Go.Proofs.YtabignplhkbcpaaGreatDoor
