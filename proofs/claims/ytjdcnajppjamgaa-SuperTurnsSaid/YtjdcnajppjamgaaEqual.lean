/-
  What bytes.Equal answers.
-/
import Derived.Test.YtjdcnajppjamgaaLabelOwn
namespace Go.Proofs.Ytjdcnajppjamgaa.PW
open Go.RowKit
set_option linter.unusedVariables false
set_option maxRecDepth 100000

theorem bytesEqual_any (a : Option Addr) (n c : Nat) (l : List Nat) (b : Option Addr) (n' c' : Nat) (m : List Nat) (w : World) (hr : Rd w.heap.size w a n c l) (hq : Rd w.heap.size w b n' c' m) :
    Calls Try.prog 22 #[.slice a n c, .slice b n' c'] w fun e w' => e = .returned (.bool (decide (l = m))) ∧ Below w.heap.size w w' := by
  have t1 := text_is w a n c l hr
  have t2 := text_is w b n' c' m hq
  have t3 := str_two hr.byt hq.byt
  generalize str l = x at *
  generalize str m = y at *
  generalize decide (l = m) = d at *
  clear hr hq
  go_enter Try.func22, Try.ntmps22
  go_wp2_with fail
  go_ret
  exact ⟨rfl, Below.refl _ _⟩
end Go.Proofs.Ytjdcnajppjamgaa.PW
