/- The words of the program's head, read once; and what the frames ask of them. -/
import Derived.Test.YteedokdgjjflkaaRows
import Derived.ProofKit
import Derived.OpenShut
import Derived.OpenVars
import Derived.Deep.DeepHandedRow
namespace Go.Proofs.Yteedokdgjjflkaa
open Go

set_option maxRecDepth 100000
theorem headInit : Try.pinned.checked.prog.initOrder = String.ofList ['h', 'a', 'r', 'n', 'e', 's', 's', ' ', 'b', 'e', '9', '1', 'e', '7', '0', 'e', '6', '5', '5', '0', '4', 'f', '9', '4', 'f', '9', '6', '8', 'e', 'c', '9', '8', '4', 'e', '1', 'c', '7', '0', '0', 'c', 'b', '6', '0', 'a', '7', '8', '8', 'a', '0', 'b', '9', '7', '3', '3', '7', '0', '1', '6', '1', '5', 'e', 'b', 'b', '1', '1', '4', 'c', '6', 'e', '7', 'c', '8', ' ', 'c', 'u', 't', ' ', 'a', 't', ' ', 'l', 'o', 'o', 'p', '.', 'e', 'x', 'a', 'm', 'p', 'l', 'e', '/', 'c', 'o', 'i', 'n', 'm', 'a', 'c', 'h', 'i', 'n', 'e', '/', 'l', 'a', 'w', 's', '.', 'F', 'n', 'E', 'x', 'a', 'c', 't', 'C', 'h', 'o', 'i', 'c', 'e', 'O', 'k', ' ', 'l', 'o', 'o', 'p', '.', 'e', 'x', 'a', 'm', 'p', 'l', 'e', '/', 'c', 'o', 'i', 'n', 'm', 'a', 'c', 'h', 'i', 'n', 'e', '/', 'l', 'a', 'w', 's', '.', 'F', 'n', 'E', 'x', 'a', 'c', 't', 'R', 'u', 'n', 'A', 't'] := by kernel_rfl
theorem headWords : wordsSigns Try.pinned.checked.prog.initOrder.toList = [['h', 'a', 'r', 'n', 'e', 's', 's'], ['b', 'e', '9', '1', 'e', '7', '0', 'e', '6', '5', '5', '0', '4', 'f', '9', '4', 'f', '9', '6', '8', 'e', 'c', '9', '8', '4', 'e', '1', 'c', '7', '0', '0', 'c', 'b', '6', '0', 'a', '7', '8', '8', 'a', '0', 'b', '9', '7', '3', '3', '7', '0', '1', '6', '1', '5', 'e', 'b', 'b', '1', '1', '4', 'c', '6', 'e', '7', 'c', '8'], ['c', 'u', 't'], ['a', 't'], ['l', 'o', 'o', 'p', '.', 'e', 'x', 'a', 'm', 'p', 'l', 'e', '/', 'c', 'o', 'i', 'n', 'm', 'a', 'c', 'h', 'i', 'n', 'e', '/', 'l', 'a', 'w', 's', '.', 'F', 'n', 'E', 'x', 'a', 'c', 't', 'C', 'h', 'o', 'i', 'c', 'e', 'O', 'k'], ['l', 'o', 'o', 'p', '.', 'e', 'x', 'a', 'm', 'p', 'l', 'e', '/', 'c', 'o', 'i', 'n', 'm', 'a', 'c', 'h', 'i', 'n', 'e', '/', 'l', 'a', 'w', 's', '.', 'F', 'n', 'E', 'x', 'a', 'c', 't', 'R', 'u', 'n', 'A', 't']] := by
  rw [headInit, String.toList_ofList]
  kernel_rfl
theorem mainIs_of {P : Program} {h s : List Char} {r : List (List Char)} (hw : wordsSigns P.initOrder.toList = h :: s :: r) (h1 : isSumSigns s = true) (h2 : (h == "harness".toList) = true) : P.mainIs = some (true, s) := by
  unfold Program.mainIs
  rw [hw]
  simp only [h1, h2, Bool.not_true, Bool.false_eq_true, if_false, if_true]
theorem make_of {P : Program} {c : List Char} {r : List (List Char)} (hw : behindMainWord (wordsSigns P.initOrder.toList) = c :: r) (h1 : (c == "gc".toList || c == "spec".toList) = false) (h2 : (c == "cut".toList) = true) : P.make = some .cut := by
  unfold Program.make
  rw [hw]
  simp only [h1, h2, Bool.true_or, Bool.false_eq_true, if_false, if_true]
theorem enter_of {P : Program} {c : List Char} {r : List (List Char)} (hw : behindMainWord (wordsSigns P.initOrder.toList) = c :: r) (hs : stripLifts liftWords (c :: r) = ([], c :: r)) (hc : (some c == some "cut".toList) = true) (h3 : P.laysLater = false) (h4 : P.bearsReflect = false) (h5 : P.doorFits [] = true) : P.mayEnter = true := by
  unfold Program.mayEnter
  rw [hw]
  simp only [hs, h3, h4, h5, List.head?_cons, hc, Bool.not_false, Bool.and_true, Bool.or_true, List.contains_nil]
theorem doors_of {P : Program} (h : (P.doorRows.any fun n => ["(look 8)", "(look 8, test files too)", "(list 7)", "(look 7)"].any (endsIn · n)) = false) : P.doorFits [] = true := by
  unfold Program.doorFits
  simp only [h, List.contains_nil, Bool.false_and, Bool.not_false, Bool.or_self, Bool.or_true, Bool.and_self, Bool.or_false]
theorem headBehind : behindMainWord (wordsSigns Try.pinned.checked.prog.initOrder.toList) = [['c', 'u', 't'], ['a', 't'], ['l', 'o', 'o', 'p', '.', 'e', 'x', 'a', 'm', 'p', 'l', 'e', '/', 'c', 'o', 'i', 'n', 'm', 'a', 'c', 'h', 'i', 'n', 'e', '/', 'l', 'a', 'w', 's', '.', 'F', 'n', 'E', 'x', 'a', 'c', 't', 'C', 'h', 'o', 'i', 'c', 'e', 'O', 'k'], ['l', 'o', 'o', 'p', '.', 'e', 'x', 'a', 'm', 'p', 'l', 'e', '/', 'c', 'o', 'i', 'n', 'm', 'a', 'c', 'h', 'i', 'n', 'e', '/', 'l', 'a', 'w', 's', '.', 'F', 'n', 'E', 'x', 'a', 'c', 't', 'R', 'u', 'n', 'A', 't']] := by
  rw [headWords]
  kernel_rfl
theorem headEnter : Try.pinned.checked.prog.mayEnter = true :=
  enter_of headBehind (by kernel_rfl) (by kernel_rfl) (by kernel_rfl) (by kernel_rfl) (doors_of (by kernel_rfl))
theorem headLiftsN : Try.pinned.checked.prog.headLifts = [] := by
  unfold Program.headLifts
  rw [headWords]
  kernel_rfl
theorem headFinal : Try.pinned.checked.prog.liftsFinal = false := by
  unfold Program.liftsFinal
  rw [headLiftsN, headWords]
  kernel_rfl
theorem headMake : Try.pinned.checked.prog.make = some .cut :=
  make_of headBehind (by kernel_rfl) (by kernel_rfl)
theorem headMain : Try.pinned.checked.prog.mainIs = some (true, ['b', 'e', '9', '1', 'e', '7', '0', 'e', '6', '5', '5', '0', '4', 'f', '9', '4', 'f', '9', '6', '8', 'e', 'c', '9', '8', '4', 'e', '1', 'c', '7', '0', '0', 'c', 'b', '6', '0', 'a', '7', '8', '8', 'a', '0', 'b', '9', '7', '3', '3', '7', '0', '1', '6', '1', '5', 'e', 'b', 'b', '1', '1', '4', 'c', '6', 'e', '7', 'c', '8']) :=
  mainIs_of headWords (by kernel_rfl) (by kernel_rfl)

end Go.Proofs.Yteedokdgjjflkaa
