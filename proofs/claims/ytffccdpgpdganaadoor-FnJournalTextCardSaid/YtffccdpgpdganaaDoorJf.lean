/- The words of the program's head, read once; and what the frames ask of them. -/
import Derived.Test.YtffccdpgpdganaaDoorRows
import Derived.ProofKit
import Derived.OpenShut
import Derived.OpenVars
import Derived.Deep.DeepHandedRow
namespace Go.Proofs.YtffccdpgpdganaaDoor
open Go

set_option maxRecDepth 100000
theorem headInit : Tryd.pinned.checked.prog.initOrder = String.ofList (List.map Char.ofNat [104,97,114,110,101,115,115,32,52,51,56,54,102,99,101,56,57,54,100,50,99,56,54,56,51,55,54,101,49,51,53,54,99,48,50,53,56,97,55,101,98,101,54,55,101,99,55,102,55,98,49,56,52,97,102,51,50,100,54,51,54,52,51,54,55,56,48,56,97,57,48,53,32,99,117,116,32,97,116,32,108,111,111,112,46,101,120,97,109,112,108,101,47,99,111,105,110,109,97,99,104,105,110,101,47,108,97,119,115,46,70,110,69,120,97,99,116,68,101,101,100,84,101,120,116,32,108,111,111,112,46,101,120,97,109,112,108,101,47,99,111,105,110,109,97,99,104,105,110,101,47,108,97,119,115,46,70,110,69,120,97,99,116,82,101,97,100,68,101,101,100,32,108,111,111,112,46,101,120,97,109,112,108,101,47,99,111,105,110,109,97,99,104,105,110,101,47,108,97,119,115,46,70,110,69,120,97,99,116,74,111,117,114,110,97,108,84,101,120,116,32,108,111,111,112,46,101,120,97,109,112,108,101,47,99,111,105,110,109,97,99,104,105,110,101,47,108,97,119,115,46,70,110,69,120,97,99,116,82,101,97,100,74,111,117,114,110,97,108,32,108,111,111,112,46,101,120,97,109,112,108,101,47,99,111,105,110,109,97,99,104,105,110,101,47,108,97,119,115,46,70,110,68,101,101,100,84,101,120,116,32,108,111,111,112,46,101,120,97,109,112,108,101,47,99,111,105,110,109,97,99,104,105,110,101,47,108,97,119,115,46,70,110,82,101,97,100,68,101,101,100,32,108,111,111,112,46,101,120,97,109,112,108,101,47,99,111,105,110,109,97,99,104,105,110,101,47,108,97,119,115,46,70,110,74,111,117,114,110,97,108,84,101,120,116,32,108,111,111,112,46,101,120,97,109,112,108,101,47,99,111,105,110,109,97,99,104,105,110,101,47,108,97,119,115,46,70,110,69,120,97,99,116,87,114,105,116,116,101,110,70,111,114]) := by kernel_rfl
theorem headWords : wordsSigns Tryd.pinned.checked.prog.initOrder.toList = [(List.map Char.ofNat [104,97,114,110,101,115,115]), (List.map Char.ofNat [52,51,56,54,102,99,101,56,57,54,100,50,99,56,54,56,51,55,54,101,49,51,53,54,99,48,50,53,56,97,55,101,98,101,54,55,101,99,55,102,55,98,49,56,52,97,102,51,50,100,54,51,54,52,51,54,55,56,48,56,97,57,48,53]), (List.map Char.ofNat [99,117,116]), (List.map Char.ofNat [97,116]), (List.map Char.ofNat [108,111,111,112,46,101,120,97,109,112,108,101,47,99,111,105,110,109,97,99,104,105,110,101,47,108,97,119,115,46,70,110,69,120,97,99,116,68,101,101,100,84,101,120,116]), (List.map Char.ofNat [108,111,111,112,46,101,120,97,109,112,108,101,47,99,111,105,110,109,97,99,104,105,110,101,47,108,97,119,115,46,70,110,69,120,97,99,116,82,101,97,100,68,101,101,100]), (List.map Char.ofNat [108,111,111,112,46,101,120,97,109,112,108,101,47,99,111,105,110,109,97,99,104,105,110,101,47,108,97,119,115,46,70,110,69,120,97,99,116,74,111,117,114,110,97,108,84,101,120,116]), (List.map Char.ofNat [108,111,111,112,46,101,120,97,109,112,108,101,47,99,111,105,110,109,97,99,104,105,110,101,47,108,97,119,115,46,70,110,69,120,97,99,116,82,101,97,100,74,111,117,114,110,97,108]), (List.map Char.ofNat [108,111,111,112,46,101,120,97,109,112,108,101,47,99,111,105,110,109,97,99,104,105,110,101,47,108,97,119,115,46,70,110,68,101,101,100,84,101,120,116]), (List.map Char.ofNat [108,111,111,112,46,101,120,97,109,112,108,101,47,99,111,105,110,109,97,99,104,105,110,101,47,108,97,119,115,46,70,110,82,101,97,100,68,101,101,100]), (List.map Char.ofNat [108,111,111,112,46,101,120,97,109,112,108,101,47,99,111,105,110,109,97,99,104,105,110,101,47,108,97,119,115,46,70,110,74,111,117,114,110,97,108,84,101,120,116]), (List.map Char.ofNat [108,111,111,112,46,101,120,97,109,112,108,101,47,99,111,105,110,109,97,99,104,105,110,101,47,108,97,119,115,46,70,110,69,120,97,99,116,87,114,105,116,116,101,110,70,111,114])] := by
  rw [headInit, String.toList_ofList]
  kernel_rfl
theorem mainIs_of {P : Program} {h s : List Char} {r : List (List Char)} (hw : wordsSigns P.initOrder.toList = h :: s :: r) (h1 : isSumSigns s = true) (h2 : (h == "harness".toList) = true) : P.mainIs = some (true, s) := by
  unfold Program.mainIs
  rw [hw]
  simp only [h1, h2, Bool.not_true, Bool.false_eq_true, if_false, if_true]
theorem make_of {P : Program} {c : List Char} {r : List (List Char)} (hw : behindMainWord (wordsSigns P.initOrder.toList) = c :: r) (h1 : (c == "gc".toList || c == "spec".toList) = false) (h2 : (c == "cut".toList) = true) : P.make = some .cut := by
  unfold Program.make
  rw [hw]
  simp only [h1, h2, Bool.true_or, Bool.false_eq_true, if_false, if_true]
theorem enter_of {P : Program} {c : List Char} {r : List (List Char)} (hw : behindMainWord (wordsSigns P.initOrder.toList) = c :: r) (hs : stripLifts liftWords (c :: r) = ([], c :: r)) (hc : (some c == some "cut".toList) = true) (h3 : P.laysLater = false) (h4 : P.bearsReflect = false) (h5 : P.doorFits [] = true) : P.mayEnter = true := by
  unfold Program.mayEnter
  rw [hw]
  simp only [hs, h3, h4, h5, List.head?_cons, hc, Bool.not_false, Bool.and_true, Bool.or_true, List.contains_nil]
theorem doors_of {P : Program} (h : (P.doorRows.any fun n => ["(look 8)", "(look 8, test files too)", "(list 7)", "(look 7)"].any (endsIn · n)) = false) : P.doorFits [] = true := by
  unfold Program.doorFits
  simp only [h, List.contains_nil, Bool.false_and, Bool.not_false, Bool.or_self, Bool.or_true, Bool.and_self, Bool.or_false]
theorem headBehind : behindMainWord (wordsSigns Tryd.pinned.checked.prog.initOrder.toList) = [(List.map Char.ofNat [99,117,116]), (List.map Char.ofNat [97,116]), (List.map Char.ofNat [108,111,111,112,46,101,120,97,109,112,108,101,47,99,111,105,110,109,97,99,104,105,110,101,47,108,97,119,115,46,70,110,69,120,97,99,116,68,101,101,100,84,101,120,116]), (List.map Char.ofNat [108,111,111,112,46,101,120,97,109,112,108,101,47,99,111,105,110,109,97,99,104,105,110,101,47,108,97,119,115,46,70,110,69,120,97,99,116,82,101,97,100,68,101,101,100]), (List.map Char.ofNat [108,111,111,112,46,101,120,97,109,112,108,101,47,99,111,105,110,109,97,99,104,105,110,101,47,108,97,119,115,46,70,110,69,120,97,99,116,74,111,117,114,110,97,108,84,101,120,116]), (List.map Char.ofNat [108,111,111,112,46,101,120,97,109,112,108,101,47,99,111,105,110,109,97,99,104,105,110,101,47,108,97,119,115,46,70,110,69,120,97,99,116,82,101,97,100,74,111,117,114,110,97,108]), (List.map Char.ofNat [108,111,111,112,46,101,120,97,109,112,108,101,47,99,111,105,110,109,97,99,104,105,110,101,47,108,97,119,115,46,70,110,68,101,101,100,84,101,120,116]), (List.map Char.ofNat [108,111,111,112,46,101,120,97,109,112,108,101,47,99,111,105,110,109,97,99,104,105,110,101,47,108,97,119,115,46,70,110,82,101,97,100,68,101,101,100]), (List.map Char.ofNat [108,111,111,112,46,101,120,97,109,112,108,101,47,99,111,105,110,109,97,99,104,105,110,101,47,108,97,119,115,46,70,110,74,111,117,114,110,97,108,84,101,120,116]), (List.map Char.ofNat [108,111,111,112,46,101,120,97,109,112,108,101,47,99,111,105,110,109,97,99,104,105,110,101,47,108,97,119,115,46,70,110,69,120,97,99,116,87,114,105,116,116,101,110,70,111,114])] := by
  rw [headWords]
  kernel_rfl
theorem headEnter : Tryd.pinned.checked.prog.mayEnter = true :=
  enter_of headBehind (by kernel_rfl) (by kernel_rfl) (by kernel_rfl) (by kernel_rfl) (doors_of (by kernel_rfl))
theorem headLiftsN : Tryd.pinned.checked.prog.headLifts = [] := by
  unfold Program.headLifts
  rw [headWords]
  kernel_rfl
theorem headFinal : Tryd.pinned.checked.prog.liftsFinal = false := by
  unfold Program.liftsFinal
  rw [headLiftsN, headWords]
  kernel_rfl
theorem headMake : Tryd.pinned.checked.prog.make = some .cut :=
  make_of headBehind (by kernel_rfl) (by kernel_rfl)
theorem headMain : Tryd.pinned.checked.prog.mainIs = some (true, (List.map Char.ofNat [52,51,56,54,102,99,101,56,57,54,100,50,99,56,54,56,51,55,54,101,49,51,53,54,99,48,50,53,56,97,55,101,98,101,54,55,101,99,55,102,55,98,49,56,52,97,102,51,50,100,54,51,54,52,51,54,55,56,48,56,97,57,48,53])) :=
  mainIs_of headWords (by kernel_rfl) (by kernel_rfl)

end Go.Proofs.YtffccdpgpdganaaDoor
