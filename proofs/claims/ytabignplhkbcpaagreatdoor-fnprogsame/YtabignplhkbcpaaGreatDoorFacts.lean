/-
  The closed facts of the seat's program that read the words of its head: reckoned word by word, as the whole of it at once passes the memory that Lean may have.
-/
import Derived.Test.YtabignplhkbcpaaGreatDoorRows
import Derived.JoinedOf
import Derived.KernelRfl
namespace Go.Proofs.YtabignplhkbcpaaGreatDoor
open Go

/-- Words with a space between. -/
def joinC : List (List Char) → List Char
  | [] => []
  | [w] => w
  | w :: v :: vs => w ++ Char.ofNat 32 :: joinC (v :: vs)
theorem ws_step (c : Char) (r : List Char) (h : c ≠ Char.ofNat 32) : wordsSigns (c :: r) = match wordsSigns r with | w :: ws => (c :: w) :: ws | [] => [[c]] := by
  rw [wordsSigns]
  · rfl
  · exact h
theorem ws_none : ∀ (l : List Char), (∀ c ∈ l, c ≠ Char.ofNat 32) → wordsSigns l = [l] := by
  intro l
  induction l with
  | nil => intro _; rfl
  | cons c l ih =>
    intro h
    rw [ws_step c l (h c (by simp)), ih (fun x hx => h x (by simp [hx]))]
theorem ws_cons (r : List Char) : ∀ (l : List Char), (∀ c ∈ l, c ≠ Char.ofNat 32) → wordsSigns (l ++ Char.ofNat 32 :: r) = l :: wordsSigns r := by
  intro l
  induction l with
  | nil => intro _; rfl
  | cons c l ih =>
    intro h
    rw [List.cons_append, ws_step c _ (h c (by simp)), ih (fun x hx => h x (by simp [hx]))]
theorem ws_join : ∀ (ws : List (List Char)), ws ≠ [] → (ws.all fun w => w.all fun c => c != Char.ofNat 32) = true → wordsSigns (joinC ws) = ws := by
  intro ws
  induction ws with
  | nil => intro h; exact absurd rfl h
  | cons w ws ih =>
    intro _ h
    simp only [List.all_cons, Bool.and_eq_true] at h
    have hw : ∀ c ∈ w, c ≠ Char.ofNat 32 := fun c hc => by
      have := List.all_eq_true.1 h.1 c hc
      simpa using this
    cases ws with
    | nil => exact ws_none w hw
    | cons v vs =>
      show wordsSigns (w ++ Char.ofNat 32 :: joinC (v :: vs)) = _
      rw [ws_cons _ w hw, ih (by simp) h.2]
def headWords : List (List Char) := [[Char.ofNat 104, Char.ofNat 97, Char.ofNat 114, Char.ofNat 110, Char.ofNat 101, Char.ofNat 115, Char.ofNat 115], [Char.ofNat 100, Char.ofNat 51, Char.ofNat 49, Char.ofNat 100, Char.ofNat 49, Char.ofNat 98, Char.ofNat 54, Char.ofNat 100, Char.ofNat 49, Char.ofNat 101, Char.ofNat 98, Char.ofNat 50, Char.ofNat 48, Char.ofNat 51, Char.ofNat 55, Char.ofNat 102, Char.ofNat 101, Char.ofNat 57, Char.ofNat 102, Char.ofNat 97, Char.ofNat 102, Char.ofNat 55, Char.ofNat 50, Char.ofNat 54, Char.ofNat 100, Char.ofNat 50, Char.ofNat 55, Char.ofNat 54, Char.ofNat 102, Char.ofNat 102, Char.ofNat 50, Char.ofNat 52, Char.ofNat 97, Char.ofNat 98, Char.ofNat 54, Char.ofNat 56, Char.ofNat 49, Char.ofNat 100, Char.ofNat 100, Char.ofNat 99, Char.ofNat 50, Char.ofNat 49, Char.ofNat 99, Char.ofNat 98, Char.ofNat 98, Char.ofNat 100, Char.ofNat 55, Char.ofNat 98, Char.ofNat 55, Char.ofNat 101, Char.ofNat 56, Char.ofNat 98, Char.ofNat 100, Char.ofNat 102, Char.ofNat 101, Char.ofNat 48, Char.ofNat 57, Char.ofNat 98, Char.ofNat 98, Char.ofNat 51, Char.ofNat 55, Char.ofNat 49, Char.ofNat 102, Char.ofNat 100], [Char.ofNat 99, Char.ofNat 117, Char.ofNat 116], [Char.ofNat 97, Char.ofNat 116], [Char.ofNat 108, Char.ofNat 111, Char.ofNat 111, Char.ofNat 112, Char.ofNat 46, Char.ofNat 101, Char.ofNat 120, Char.ofNat 97, Char.ofNat 109, Char.ofNat 112, Char.ofNat 108, Char.ofNat 101, Char.ofNat 47, Char.ofNat 105, Char.ofNat 110, Char.ofNat 116, Char.ofNat 101, Char.ofNat 114, Char.ofNat 108, Char.ofNat 105, Char.ofNat 110, Char.ofNat 101, Char.ofNat 97, Char.ofNat 114, Char.ofNat 47, Char.ofNat 108, Char.ofNat 97, Char.ofNat 119, Char.ofNat 115, Char.ofNat 46, Char.ofNat 70, Char.ofNat 110, Char.ofNat 80, Char.ofNat 114, Char.ofNat 111, Char.ofNat 103, Char.ofNat 82, Char.ofNat 117, Char.ofNat 110], [Char.ofNat 108, Char.ofNat 111, Char.ofNat 111, Char.ofNat 112, Char.ofNat 46, Char.ofNat 101, Char.ofNat 120, Char.ofNat 97, Char.ofNat 109, Char.ofNat 112, Char.ofNat 108, Char.ofNat 101, Char.ofNat 47, Char.ofNat 105, Char.ofNat 110, Char.ofNat 116, Char.ofNat 101, Char.ofNat 114, Char.ofNat 108, Char.ofNat 105, Char.ofNat 110, Char.ofNat 101, Char.ofNat 97, Char.ofNat 114, Char.ofNat 47, Char.ofNat 108, Char.ofNat 97, Char.ofNat 119, Char.ofNat 115, Char.ofNat 46, Char.ofNat 70, Char.ofNat 110, Char.ofNat 80, Char.ofNat 114, Char.ofNat 111, Char.ofNat 103, Char.ofNat 84, Char.ofNat 121, Char.ofNat 112, Char.ofNat 101], [Char.ofNat 108, Char.ofNat 111, Char.ofNat 111, Char.ofNat 112, Char.ofNat 46, Char.ofNat 101, Char.ofNat 120, Char.ofNat 97, Char.ofNat 109, Char.ofNat 112, Char.ofNat 108, Char.ofNat 101, Char.ofNat 47, Char.ofNat 105, Char.ofNat 110, Char.ofNat 116, Char.ofNat 101, Char.ofNat 114, Char.ofNat 108, Char.ofNat 105, Char.ofNat 110, Char.ofNat 101, Char.ofNat 97, Char.ofNat 114, Char.ofNat 47, Char.ofNat 108, Char.ofNat 97, Char.ofNat 119, Char.ofNat 115, Char.ofNat 46, Char.ofNat 70, Char.ofNat 110, Char.ofNat 80, Char.ofNat 114, Char.ofNat 111, Char.ofNat 103, Char.ofNat 66, Char.ofNat 101, Char.ofNat 110, Char.ofNat 116], [Char.ofNat 108, Char.ofNat 111, Char.ofNat 111, Char.ofNat 112, Char.ofNat 46, Char.ofNat 101, Char.ofNat 120, Char.ofNat 97, Char.ofNat 109, Char.ofNat 112, Char.ofNat 108, Char.ofNat 101, Char.ofNat 47, Char.ofNat 105, Char.ofNat 110, Char.ofNat 116, Char.ofNat 101, Char.ofNat 114, Char.ofNat 108, Char.ofNat 105, Char.ofNat 110, Char.ofNat 101, Char.ofNat 97, Char.ofNat 114, Char.ofNat 47, Char.ofNat 108, Char.ofNat 97, Char.ofNat 119, Char.ofNat 115, Char.ofNat 46, Char.ofNat 70, Char.ofNat 110, Char.ofNat 80, Char.ofNat 114, Char.ofNat 111, Char.ofNat 103, Char.ofNat 67, Char.ofNat 97, Char.ofNat 115, Char.ofNat 116], [Char.ofNat 108, Char.ofNat 111, Char.ofNat 111, Char.ofNat 112, Char.ofNat 46, Char.ofNat 101, Char.ofNat 120, Char.ofNat 97, Char.ofNat 109, Char.ofNat 112, Char.ofNat 108, Char.ofNat 101, Char.ofNat 47, Char.ofNat 105, Char.ofNat 110, Char.ofNat 116, Char.ofNat 101, Char.ofNat 114, Char.ofNat 108, Char.ofNat 105, Char.ofNat 110, Char.ofNat 101, Char.ofNat 97, Char.ofNat 114, Char.ofNat 47, Char.ofNat 108, Char.ofNat 97, Char.ofNat 119, Char.ofNat 115, Char.ofNat 46, Char.ofNat 70, Char.ofNat 110, Char.ofNat 80, Char.ofNat 114, Char.ofNat 111, Char.ofNat 103, Char.ofNat 76, Char.ofNat 101, Char.ofNat 116], [Char.ofNat 108, Char.ofNat 111, Char.ofNat 111, Char.ofNat 112, Char.ofNat 46, Char.ofNat 101, Char.ofNat 120, Char.ofNat 97, Char.ofNat 109, Char.ofNat 112, Char.ofNat 108, Char.ofNat 101, Char.ofNat 47, Char.ofNat 105, Char.ofNat 110, Char.ofNat 116, Char.ofNat 101, Char.ofNat 114, Char.ofNat 108, Char.ofNat 105, Char.ofNat 110, Char.ofNat 101, Char.ofNat 97, Char.ofNat 114, Char.ofNat 47, Char.ofNat 108, Char.ofNat 97, Char.ofNat 119, Char.ofNat 115, Char.ofNat 46, Char.ofNat 70, Char.ofNat 110, Char.ofNat 80, Char.ofNat 114, Char.ofNat 111, Char.ofNat 103, Char.ofNat 87, Char.ofNat 104, Char.ofNat 101, Char.ofNat 110], [Char.ofNat 108, Char.ofNat 111, Char.ofNat 111, Char.ofNat 112, Char.ofNat 46, Char.ofNat 101, Char.ofNat 120, Char.ofNat 97, Char.ofNat 109, Char.ofNat 112, Char.ofNat 108, Char.ofNat 101, Char.ofNat 47, Char.ofNat 105, Char.ofNat 110, Char.ofNat 116, Char.ofNat 101, Char.ofNat 114, Char.ofNat 108, Char.ofNat 105, Char.ofNat 110, Char.ofNat 101, Char.ofNat 97, Char.ofNat 114, Char.ofNat 47, Char.ofNat 108, Char.ofNat 97, Char.ofNat 119, Char.ofNat 115, Char.ofNat 46, Char.ofNat 70, Char.ofNat 110, Char.ofNat 80, Char.ofNat 114, Char.ofNat 111, Char.ofNat 103, Char.ofNat 83, Char.ofNat 97, Char.ofNat 109, Char.ofNat 101]]
theorem fact_init : Tryz.pinned.checked.prog.initOrder = String.ofList (joinC headWords) := by kernel_rfl
theorem fact_words : wordsSigns Tryz.pinned.checked.prog.initOrder.toList = headWords := by
  rw [fact_init, String.toList_ofList]
  exact ws_join _ (by unfold headWords; exact List.cons_ne_nil _ _) (by kernel_rfl)
def sumCodes : List Nat := [100, 51, 49, 100, 49, 98, 54, 100, 49, 101, 98, 50, 48, 51, 55, 102, 101, 57, 102, 97, 102, 55, 50, 54, 100, 50, 55, 54, 102, 102, 50, 52, 97, 98, 54, 56, 49, 100, 100, 99, 50, 49, 99, 98, 98, 100, 55, 98, 55, 101, 56, 98, 100, 102, 101, 48, 57, 98, 98, 51, 55, 49, 102, 100]
theorem sum_of (codes : List Nat) (hl : codes.length = 64) (h : (codes.all fun n => (Nat.ble 48 n && Nat.ble n 57) || (Nat.ble 97 n && Nat.ble n 102)) = true) : isSumSigns (codes.map Char.ofNat) = true := by
  unfold isSumSigns
  rw [Bool.and_eq_true]
  refine ⟨by simp [hl], ?_⟩
  rw [List.all_map, List.all_eq_true]
  intro n hn
  have h1 := List.all_eq_true.1 h n hn
  simp only [Bool.or_eq_true, Bool.and_eq_true, Nat.ble_eq] at h1
  have h2 : n = 48 ∨ n = 49 ∨ n = 50 ∨ n = 51 ∨ n = 52 ∨ n = 53 ∨ n = 54 ∨ n = 55 ∨ n = 56 ∨ n = 57 ∨ n = 97 ∨ n = 98 ∨ n = 99 ∨ n = 100 ∨ n = 101 ∨ n = 102 := by omega
  clear h1 hn h hl
  rcases h2 with rfl | rfl | rfl | rfl | rfl | rfl | rfl | rfl | rfl | rfl | rfl | rfl | rfl | rfl | rfl | rfl <;> decide
theorem fact_sum : isSumSigns (sumCodes.map Char.ofNat) = true := sum_of sumCodes (by rfl) (by rfl)
theorem strip_cut (r : List (List Char)) : stripLifts liftWords ("cut".toList :: r) = ([], "cut".toList :: r) := by
  have aux : ∀ os : List String, (os.all fun o => !("cut".toList == o.toList)) = true → stripLifts os ("cut".toList :: r) = ([], "cut".toList :: r) := by
    intro os
    induction os with
    | nil => intro _; rfl
    | cons o os ih =>
      intro h
      simp only [List.all_cons, Bool.and_eq_true, Bool.not_eq_true'] at h
      rw [stripLifts, h.1]
      simpa using ih h.2
  exact aux _ (by kernel_rfl)
theorem lifts_of {P : Program} {r : List (List Char)} (h : behindMainWord (wordsSigns P.initOrder.toList) = "cut".toList :: r) : P.headLifts = [] := by
  unfold Program.headLifts
  rw [h, strip_cut]
  simp
theorem mayEnter_of {P : Program} {r : List (List Char)} (h : behindMainWord (wordsSigns P.initOrder.toList) = "cut".toList :: r) (h1 : P.laysLater = false) (h2 : P.bearsReflect = false) (h3 : P.doorFits [] = true) : P.mayEnter = true := by
  unfold Program.mayEnter
  rw [h]
  simp only [strip_cut, h1, h2, h3]
  simp
theorem make_of {P : Program} {r : List (List Char)} (h : behindMainWord (wordsSigns P.initOrder.toList) = "cut".toList :: r) : P.make = some .cut := by
  unfold Program.make
  rw [h]
  have e1 : ("cut".toList == "gc".toList) = false := by decide
  have e2 : ("cut".toList == "spec".toList) = false := by decide
  have e3 : ("cut".toList == "cut".toList) = true := by decide
  simp only [e1, e2, e3]
  simp
theorem final_of {P : Program} {r : List (List Char)} (h : behindMainWord (wordsSigns P.initOrder.toList) = "cut".toList :: r) : P.liftsFinal = false := by
  unfold Program.liftsFinal
  rw [lifts_of h, h]
  simp
theorem mainIs_of {P : Program} {s : List Char} {r : List (List Char)} (h : wordsSigns P.initOrder.toList = "harness".toList :: s :: r) (hs : isSumSigns s = true) : P.mainIs = some (true, s) := by
  unfold Program.mainIs
  rw [h]
  simp [hs]
theorem behind_of {P : Program} {s : List Char} {r : List (List Char)} (h : wordsSigns P.initOrder.toList = "harness".toList :: s :: r) (hs : isSumSigns s = true) : behindMainWord (wordsSigns P.initOrder.toList) = r := by
  rw [h]
  unfold behindMainWord
  simp [hs]
/-- The words behind the sum and the word cut. -/
def restWords : List (List Char) := headWords.drop 3
theorem head_is : headWords = "harness".toList :: sumCodes.map Char.ofNat :: "cut".toList :: restWords := by kernel_rfl
theorem fact_behind : behindMainWord (wordsSigns Tryz.pinned.checked.prog.initOrder.toList) = "cut".toList :: restWords := behind_of (fact_words.trans head_is) fact_sum
theorem fact_later : Tryz.pinned.checked.prog.laysLater = false := by kernel_rfl
theorem fact_reflect : Tryz.pinned.checked.prog.bearsReflect = false := by kernel_rfl
theorem fact_door : Tryz.pinned.checked.prog.doorFits [] = true := by kernel_rfl
theorem fact_mayEnter : Tryz.pinned.checked.prog.mayEnter = true := mayEnter_of fact_behind fact_later fact_reflect fact_door
theorem fact_liftsFinal : Tryz.pinned.checked.prog.liftsFinal = false := final_of fact_behind
theorem fact_make : Tryz.pinned.checked.prog.make = some .cut := make_of fact_behind
theorem sum_lit : "d31d1b6d1eb2037fe9faf726d276ff24ab681ddc21cbbd7b7e8bdfe09bb371fd".toList = sumCodes.map Char.ofNat := (congrArg String.toList (show "d31d1b6d1eb2037fe9faf726d276ff24ab681ddc21cbbd7b7e8bdfe09bb371fd" = String.ofList (sumCodes.map Char.ofNat) by kernel_rfl)).trans String.toList_ofList
theorem fact_mainIs : Tryz.pinned.checked.prog.mainIs = some (true, "d31d1b6d1eb2037fe9faf726d276ff24ab681ddc21cbbd7b7e8bdfe09bb371fd".toList) := (mainIs_of (fact_words.trans head_is) fact_sum).trans (congrArg (fun s => some (true, s)) sum_lit.symm)
end Go.Proofs.YtabignplhkbcpaaGreatDoor
