/- The words of the program's head, read once; and what the frames ask of them. -/
import Derived.Test.YtnoccmghclmpnaaDoorRows
import Derived.ProofKit
import Derived.OpenShut
import Derived.OpenVars
import Derived.Deep.DeepHandedRow
namespace Go.Proofs.YtnoccmghclmpnaaDoor
open Go

set_option maxRecDepth 100000
theorem headInit : Tryd.pinned.checked.prog.initOrder = String.ofList (List.map Char.ofNat [104,97,114,110,101,115,115,32,50,55,102,98,101,54,98,50,100,49,49,48,55,49,97,50,49,57,101,57,55,97,48,55,52,100,98,100,98,54,48,50,54,102,55,49,101,57,54,102,54,53,52,56,57,100,98,54,54,98,51,49,99,102,100,101,57,97,101,97,50,57,99,48,32,99,117,116,32,97,116,32,108,111,111,112,46,101,120,97,109,112,108,101,47,99,111,105,110,109,97,99,104,105,110,101,47,108,97,119,115,46,70,110,84,97,112,101,84,101,120,116,32,108,111,111,112,46,101,120,97,109,112,108,101,47,99,111,105,110,109,97,99,104,105,110,101,47,108,97,119,115,46,70,110,82,101,97,100,84,97,112,101,32,108,111,111,112,46,101,120,97,109,112,108,101,47,99,111,105,110,109,97,99,104,105,110,101,47,108,97,119,115,46,70,110,87,114,111,110,103,69,110,116,114,121,32,108,111,111,112,46,101,120,97,109,112,108,101,47,99,111,105,110,109,97,99,104,105,110,101,47,108,97,119,115,46,70,110,84,97,107,105,110,103,115,79,102,32,108,111,111,112,46,101,120,97,109,112,108,101,47,99,111,105,110,109,97,99,104,105,110,101,47,108,97,119,115,46,70,110,87,114,105,116,116,101,110,70,111,114]) := by kernel_rfl
theorem headWords : wordsSigns Tryd.pinned.checked.prog.initOrder.toList = [(List.map Char.ofNat [104,97,114,110,101,115,115]), (List.map Char.ofNat [50,55,102,98,101,54,98,50,100,49,49,48,55,49,97,50,49,57,101,57,55,97,48,55,52,100,98,100,98,54,48,50,54,102,55,49,101,57,54,102,54,53,52,56,57,100,98,54,54,98,51,49,99,102,100,101,57,97,101,97,50,57,99,48]), (List.map Char.ofNat [99,117,116]), (List.map Char.ofNat [97,116]), (List.map Char.ofNat [108,111,111,112,46,101,120,97,109,112,108,101,47,99,111,105,110,109,97,99,104,105,110,101,47,108,97,119,115,46,70,110,84,97,112,101,84,101,120,116]), (List.map Char.ofNat [108,111,111,112,46,101,120,97,109,112,108,101,47,99,111,105,110,109,97,99,104,105,110,101,47,108,97,119,115,46,70,110,82,101,97,100,84,97,112,101]), (List.map Char.ofNat [108,111,111,112,46,101,120,97,109,112,108,101,47,99,111,105,110,109,97,99,104,105,110,101,47,108,97,119,115,46,70,110,87,114,111,110,103,69,110,116,114,121]), (List.map Char.ofNat [108,111,111,112,46,101,120,97,109,112,108,101,47,99,111,105,110,109,97,99,104,105,110,101,47,108,97,119,115,46,70,110,84,97,107,105,110,103,115,79,102]), (List.map Char.ofNat [108,111,111,112,46,101,120,97,109,112,108,101,47,99,111,105,110,109,97,99,104,105,110,101,47,108,97,119,115,46,70,110,87,114,105,116,116,101,110,70,111,114])] := by
  rw [headInit, String.toList_ofList]
  kernel_rfl
theorem mainIs_of {P : Program} {h s : List Char} {r : List (List Char)} (hw : wordsSigns P.initOrder.toList = h :: s :: r) (h1 : isSumSigns s = true) (h2 : (h == "harness".toList) = true) : P.mainIs = some (true, s) := by
  unfold Program.mainIs
  rw [hw]
  simp only [h1, h2, Bool.not_true, Bool.false_eq_true, if_false, if_true]
theorem make_of {P : Program} {c : List Char} {r : List (List Char)} (hw : behindMainWord (wordsSigns P.initOrder.toList) = c :: r) (h1 : (c == "gc".toList || c == "spec".toList) = false) (h2 : (c == "cut".toList) = true) : P.make = some .cut := by
  unfold Program.make
  rw [hw]
  simp only [h1, h2, Bool.true_or, Bool.false_eq_true, if_false, if_true]
theorem enter_of {P : Program} {c : List Char} {r : List (List Char)} (hw : behindMainWord (wordsSigns P.initOrder.toList) = c :: r) (hs : stripLifts liftWords (c :: r) = ([], c :: r)) (hc : (some c == some "cut".toList) = true) (h3 : P.laysLater = false) (h4 : P.bearsReflect = false) (h5 : P.doorFits [] = true) : P.mayEnter = true := by
  unfold Program.mayEnter
  rw [hw]
  simp only [hs, h3, h4, h5, List.head?_cons, hc, Bool.not_false, Bool.and_true, Bool.or_true, List.contains_nil]
theorem doors_of {P : Program} (h : (P.doorRows.any fun n => ["(look 8)", "(look 8, test files too)", "(list 7)", "(look 7)"].any (endsIn · n)) = false) : P.doorFits [] = true := by
  unfold Program.doorFits
  simp only [h, List.contains_nil, Bool.false_and, Bool.not_false, Bool.or_self, Bool.or_true, Bool.and_self, Bool.or_false]
theorem headBehind : behindMainWord (wordsSigns Tryd.pinned.checked.prog.initOrder.toList) = [(List.map Char.ofNat [99,117,116]), (List.map Char.ofNat [97,116]), (List.map Char.ofNat [108,111,111,112,46,101,120,97,109,112,108,101,47,99,111,105,110,109,97,99,104,105,110,101,47,108,97,119,115,46,70,110,84,97,112,101,84,101,120,116]), (List.map Char.ofNat [108,111,111,112,46,101,120,97,109,112,108,101,47,99,111,105,110,109,97,99,104,105,110,101,47,108,97,119,115,46,70,110,82,101,97,100,84,97,112,101]), (List.map Char.ofNat [108,111,111,112,46,101,120,97,109,112,108,101,47,99,111,105,110,109,97,99,104,105,110,101,47,108,97,119,115,46,70,110,87,114,111,110,103,69,110,116,114,121]), (List.map Char.ofNat [108,111,111,112,46,101,120,97,109,112,108,101,47,99,111,105,110,109,97,99,104,105,110,101,47,108,97,119,115,46,70,110,84,97,107,105,110,103,115,79,102]), (List.map Char.ofNat [108,111,111,112,46,101,120,97,109,112,108,101,47,99,111,105,110,109,97,99,104,105,110,101,47,108,97,119,115,46,70,110,87,114,105,116,116,101,110,70,111,114])] := by
  rw [headWords]
  kernel_rfl
theorem headEnter : Tryd.pinned.checked.prog.mayEnter = true :=
  enter_of headBehind (by kernel_rfl) (by kernel_rfl) (by kernel_rfl) (by kernel_rfl) (doors_of (by kernel_rfl))
theorem headLiftsN : Tryd.pinned.checked.prog.headLifts = [] := by
  unfold Program.headLifts
  rw [headWords]
  kernel_rfl
theorem headFinal : Tryd.pinned.checked.prog.liftsFinal = false := by
  unfold Program.liftsFinal
  rw [headLiftsN, headWords]
  kernel_rfl
theorem headMake : Tryd.pinned.checked.prog.make = some .cut :=
  make_of headBehind (by kernel_rfl) (by kernel_rfl)
theorem headMain : Tryd.pinned.checked.prog.mainIs = some (true, (List.map Char.ofNat [50,55,102,98,101,54,98,50,100,49,49,48,55,49,97,50,49,57,101,57,55,97,48,55,52,100,98,100,98,54,48,50,54,102,55,49,101,57,54,102,54,53,52,56,57,100,98,54,54,98,51,49,99,102,100,101,57,97,101,97,50,57,99,48])) :=
  mainIs_of headWords (by kernel_rfl) (by kernel_rfl)

end Go.Proofs.YtnoccmghclmpnaaDoor
