/-
  A map keyed by two addresses and a number: what is looked up, what is laid.
-/
import Derived.Test.YtkllhnhinealfaaSameAlone
import Derived.LaidEql
import Derived.MapKept
import Derived.WideKeyRuns
namespace Go.Proofs.Ytkllhnhinealfaa
open Go.RowKit

def kv (p q : Addr) (n : Nat) : Value := .agg #[.pointer (some p), .pointer (some q), .int .i64 (n : Int)]
/-- It lies in a plain block. -/
def PB (w : World) (p : Addr) : Prop := ∃ cur t, w.heap[p.block]? = some (.cells cur t (0, 0))
theorem kvInfo : (Try.prog.info? 31).map (·.size) = some 4 := by kernel_rfl
theorem run_sameB {w : World} {p q : Addr} (hp : PB w p) (hq : PB w q) : (sameAddr p q).run Try.prog w = .ok (decide (p = q)) w := by
  by_cases h : p = q
  · subst h; rw [run_sameAddr_same]; simp
  · obtain ⟨c1, t1, h1⟩ := hp
    obtain ⟨c2, t2, h2⟩ := hq
    rw [run_sameAddr_other w h h1 h2]; simp [h]
theorem run_ptrEq {w : World} {p q : Addr} (hp : PB w p) (hq : PB w q) (d : Nat) : (Op.equalIn (d + 1) 44 (.pointer (some p)) (.pointer (some q))).run Try.prog w = .ok (decide (p = q)) w := by
  obtain ⟨i, hi, hs⟩ := Option.map_eq_some_iff.1 kvInfo
  simp [Op.equalIn, run_underlying Try.underlying44, sizeOf, typeInfo, hi, hs, run_sameB hp hq]
theorem run_intEq {w : World} {a b : Int} (d : Nat) : (Op.equalIn (d + 1) 3 (.int .i64 a) (.int .i64 b)).run Try.prog w = .ok (decide (a = b)) w := by
  simp [Op.equalIn, run_underlying Try.underlying3]
  rw [Bool.eq_iff_iff]; simp
theorem run_part0 (w : World) (p q : Addr) (n : Nat) : (part 44 #[.pointer (some p), .pointer (some q), .int .i64 (n : Int)] 0).run Try.prog w = .ok (.pointer (some p)) w := by kernel_rfl
theorem run_part1 (w : World) (p q : Addr) (n : Nat) : (part 44 #[.pointer (some p), .pointer (some q), .int .i64 (n : Int)] 1).run Try.prog w = .ok (.pointer (some q)) w := by kernel_rfl
theorem run_part2 (w : World) (p q : Addr) (n : Nat) : (part 3 #[.pointer (some p), .pointer (some q), .int .i64 (n : Int)] 2).run Try.prog w = .ok (.int .i64 (n : Int)) w := by kernel_rfl
theorem run_kvEqIn {w : World} {p q p' q' : Addr} {n n' : Nat} (hp : PB w p) (hq : PB w q) (hp' : PB w p') (hq' : PB w q') (d : Nat) :
    (Op.equalIn (d + 2) 46 (kv p q n) (kv p' q' n')).run Try.prog w = .ok (decide (p = p') && (decide (q = q') && decide (n = n'))) w := by
  have e1 := run_ptrEq hp hp' d
  have e2 := run_ptrEq hq hq' d
  have e3 := run_intEq (w := w) (a := n) (b := n') d
  unfold kv
  rw [Op.equalIn]
  simp [run_underlying Try.underlying46, run_part0, run_part1, run_part2, e1, e2, e3]
  by_cases h1 : p = p'
  · by_cases h2 : q = q'
    · by_cases h3 : n = n'
      · simp [h1, h2, h3]
      · simp [h1, h2, h3, show ¬ ((n : Int) = (n' : Int)) by omega]
    · simp [h1, h2]
  · simp [h1]
theorem run_kvEq {w : World} {p q p' q' : Addr} {n n' : Nat} (hp : PB w p) (hq : PB w q) (hp' : PB w p') (hq' : PB w q') :
    (Op.equal 46 (kv p q n) (kv p' q' n')).run Try.prog w = .ok (decide (p = p') && (decide (q = q') && decide (n = n'))) w := by
  unfold Op.equal Op.maxDepth
  exact run_kvEqIn hp hq hp' hq' 9998
/-- An entry as we lay them. -/
def KE (w : World) (e : MapEntry) : Prop := ∃ p q n, e.key = kv p q n ∧ e.val = .bool true ∧ PB w p ∧ PB w q
theorem find_kv {w : World} {p q : Addr} {n : Nat} (hp : PB w p) (hq : PB w q) : ∀ (es : List MapEntry) (i : Nat), (∀ e ∈ es, KE w e) →
    (Instr.findAsking 46 (kv p q n) es i).run Try.prog w = .ok none w ∨ ∃ j e, (Instr.findAsking 46 (kv p q n) es i).run Try.prog w = .ok (some (j, .bool true)) w ∧ e ∈ es ∧ e.key = kv p q n
  | [], i, _ => .inl (by simp [Instr.findAsking])
  | e :: es, i, hall => by
    obtain ⟨p', q', n', h1, h2, h3, h4⟩ := hall e (by simp)
    have hr := run_kvEq (n := n) (n' := n') hp hq h3 h4
    rw [← h1] at hr
    by_cases hk : p = p' ∧ q = q' ∧ n = n'
    · obtain ⟨rfl, rfl, rfl⟩ := hk
      simp at hr
      exact .inr ⟨i, e, by simp [Instr.findAsking, hr, h2], by simp, h1⟩
    · have hf : (decide (p = p') && (decide (q = q') && decide (n = n'))) = false := by
        cases hb : (decide (p = p') && (decide (q = q') && decide (n = n')))
        · rfl
        · simp only [Bool.and_eq_true, decide_eq_true_eq] at hb; exact absurd hb hk
      rw [hf] at hr
      rcases find_kv (n := n) hp hq es (i + 1) (fun x hx => hall x (by simp [hx])) with h | ⟨j, e', h5, h6, h7⟩
      · exact .inl (by simp [Instr.findAsking, hr, h])
      · exact .inr ⟨j, e', by simp [Instr.findAsking, hr, h5], by simp [h6], h7⟩
theorem check_kv (w : World) (em : Bool) (p q : Addr) (n : Nat) : (Instr.checkKey em 10000 46 (kv p q n)).run Try.prog w = .ok () w := by
  cases em <;> kernel_rfl
theorem map_kv {w : World} {b : Nat} {es : Array MapEntry} {clock : Nat} {p q : Addr} {n : Nat} (hb : w.heap[b]? = some (.map es clock)) (hes : ∀ e ∈ es.toList, KE w e) (hp : PB w p) (hq : PB w q) :
    ((Instr.lookup 41 (.map (some b)) (kv p q n) false).run Try.prog w = .ok (.bool true) w ∧ ∃ e ∈ es.toList, e.key = kv p q n) ∨
    ((Instr.lookup 41 (.map (some b)) (kv p q n) false).run Try.prog w = .ok (.bool false) w ∧
      (Instr.mapUpdate 41 (.map (some b)) (kv p q n) (.bool true)).run Try.prog w = .ok () { w with heap := w.heap.setIfInBounds b (.map (es.push ⟨kv p q n, .bool true, clock⟩) (clock + 1)) }) := by
  have hf : (Instr.findKey 46 (kv p q n) es.toList).run Try.prog w = (Instr.findAsking 46 (kv p q n) es.toList).run Try.prog w := run_findKey_eq w (by rw [Try.underlying46]) _ _
  rcases find_kv (n := n) hp hq es.toList 0 hes with h | ⟨j, e, h1, h2, h3⟩
  · rw [h] at hf
    refine .inr ⟨?_, ?_⟩
    · simp [Instr.lookup, run_underlying Try.underlying41, MapKept.run_getObj_map hb, check_kv, hf, Result.andThen]
    · simp [Instr.mapUpdate, run_underlying Try.underlying41, MapKept.run_getObj_map hb, check_kv, hf, MapKept.run_setObj_map _ hb, Result.andThen]
  · rw [h1] at hf
    refine .inl ⟨?_, e, h2, h3⟩
    simp [Instr.lookup, run_underlying Try.underlying41, MapKept.run_getObj_map hb, check_kv, hf, Result.andThen]
end Go.Proofs.Ytkllhnhinealfaa
