/-
  Contracts of layer 4: the errors of a place, of a read, of a write; the program's and the document's own.
-/
import Derived.Test.YtnhfkfihlkbkfaaDiskCheck
import Derived.Test.YtnhfkfihlkbkfaaDiskMay
namespace Go.Proofs.Ytnhfkfihlkbkfaa.PW
open Go.RowKit
open DK (Dv)
set_option linter.unusedVariables false
set_option maxRecDepth 100000

/-- A device as a value. -/
abbrev dval (a : Option Addr) (n c : Nat) (a' : Option Addr) (n' c' : Nat) (dd : Bool) : Value := .agg #[.slice a n c, .slice a' n' c', .bool dd]

theorem kcode_may {D : Dv} (h : DK.may D = true) : DK.kcode D = 0 := by simp [DK.kcode, h]
theorem kcode_no {D : Dv} (h : DK.may D = false) : DK.kcode D = 8 := by simp [DK.kcode, h]

set_option maxRecDepth 100000 in
theorem place_any (a : Option Addr) (n c : Nat) (a' : Option Addr) (n' c' : Nat) (D : Dv) (at_ : Int) (w : World) (hr : DevAt w.heap.size w a n c a' n' c' D) :
    Calls Try.prog 78 #[.agg #[.slice a n c, .slice a' n' c', .bool D.dead], .int .i64 at_] w fun e w' => e = .returned (.int .i64 (DK.pcode D at_ : Nat)) ∧ Below w.heap.size w w' := by
  have hn := hr.long.1
  have hs := hr.small.1
  have hb0 : Below w.heap.size w (w.alloc (.cells #[.slice a n c, .slice a' n' c', .bool D.dead] 37)) := (Below.refl _ _).alloc (Nat.le_refl _) _
  have hx := Bx.new w [.slice a n c, .slice a' n' c', .bool D.dead] 37
  have CK := Lib.hid (check_any a n c a' n' c' D _ (hr.here hb0))
  have CH : Hid (∀ w1, Calls Try.prog 69 #[.agg #[.slice a n c, .slice a' n' c', .bool D.dead], .int .i64 at_] w1 fun e w' => e = .returned (.bool (DK.has D at_)) ∧ Below w1.heap.size w1 w') := fun w1 => has_any a n c a' n' c' D at_ w1 hn hs
  have HB := Lib.hid hb0
  have HX := Lib.hid hx
  clear hb0 hx hr hn
  rcases Bool.eq_false_or_eq_true (DK.may D) with hm | hm
  · have hk : DK.kcode D = 0 := kcode_may hm
    rw [hk] at CK
    rcases Bool.eq_false_or_eq_true (DK.has D at_) with hh | hh
    · have hp : DK.pcode D at_ = 0 := by simp [DK.pcode, hm, hh]
      rw [hp]
      rw [hh] at CH
      clear hp hk hm hh
      generalize D.dead = dd at *
      go_enter Try.func78, Try.ntmps78
      go_wp2_with fail
      refine CK.out.mono ?_
      rintro e w1 ⟨rfl, b1⟩
      obtain ⟨c0, c1, c2⟩ := (HX.out.here b1).three
      have B1 := Lib.hid (thence HB.out b1 (Nat.le_refl _))
      clear b1
      go_wp2_with fail
      refine (CH.out _).mono ?_
      rintro e w2 ⟨rfl, b2⟩
      have B2 := Lib.hid (thence B1.out b2 (Nat.le_refl _))
      clear b2
      go_wp2_with fail
      go_ret
      exact ⟨rfl, B2.out⟩
    · have hp : DK.pcode D at_ = 2 := by simp [DK.pcode, hm, hh]
      rw [hp]
      rw [hh] at CH
      clear hp hk hm hh
      generalize D.dead = dd at *
      go_enter Try.func78, Try.ntmps78
      go_wp2_with fail
      refine CK.out.mono ?_
      rintro e w1 ⟨rfl, b1⟩
      obtain ⟨c0, c1, c2⟩ := (HX.out.here b1).three
      have B1 := Lib.hid (thence HB.out b1 (Nat.le_refl _))
      clear b1
      go_wp2_with fail
      refine (CH.out _).mono ?_
      rintro e w2 ⟨rfl, b2⟩
      have B2 := Lib.hid (thence B1.out b2 (Nat.le_refl _))
      clear b2
      go_wp2_with fail
      go_ret
      exact ⟨rfl, B2.out⟩
  · have hp : DK.pcode D at_ = 8 := by simp [DK.pcode, hm]
    have hk : DK.kcode D = 8 := kcode_no hm
    rw [hp]
    rw [hk] at CK
    clear hp hk hm CH
    generalize D.dead = dd at *
    go_enter Try.func78, Try.ntmps78
    go_wp2_with fail
    refine CK.out.mono ?_
    rintro e w1 ⟨rfl, b1⟩
    have B1 := Lib.hid (thence HB.out b1 (Nat.le_refl _))
    clear b1
    go_wp2_with fail
    go_ret
    exact ⟨rfl, B1.out⟩

set_option maxRecDepth 100000 in
theorem readable_any (a : Option Addr) (n c : Nat) (a' : Option Addr) (n' c' : Nat) (D : Dv) (at_ : Int) (w : World) (hr : DevAt w.heap.size w a n c a' n' c' D) :
    Calls Try.prog 60 #[.agg #[.slice a n c, .slice a' n' c', .bool D.dead], .int .i64 at_] w fun e w' => e = .returned (.int .i64 (DK.rcode D at_ : Nat)) ∧ Below w.heap.size w w' := by
  have hb0 : Below w.heap.size w (w.alloc (.cells #[.slice a n c, .slice a' n' c', .bool D.dead] 37)) := (Below.refl _ _).alloc (Nat.le_refl _) _
  have hx := Bx.new w [.slice a n c, .slice a' n' c', .bool D.dead] 37
  have CP := Lib.hid (place_any a n c a' n' c' D at_ _ (hr.here hb0))
  have HB := Lib.hid hb0
  have HX := Lib.hid hx
  clear hb0 hx hr
  by_cases hp : DK.pcode D at_ = 0
  · have hm : DK.may D = true := by
      rcases Bool.eq_false_or_eq_true (DK.may D) with h | h
      · exact h
      · simp [DK.pcode, h] at hp
    have hh : DK.has D at_ = true := by
      rcases Bool.eq_false_or_eq_true (DK.has D at_) with h | h
      · exact h
      · simp [DK.pcode, h, hm] at hp
    rw [hp] at CP
    rcases Bool.eq_false_or_eq_true D.dead with hd | hd
    · have hq : DK.rcode D at_ = 40 := by simp [DK.rcode, hm, hh, hd]
      rw [hq]
      rw [hd] at CP HB HX ⊢
      clear hp hm hh hd hq
      go_enter Try.func60, Try.ntmps60
      go_wp2_with fail
      refine CP.out.mono ?_
      rintro e w1 ⟨rfl, b1⟩
      obtain ⟨c0, c1, c2⟩ := (HX.out.here b1).three
      have B1 := Lib.hid (thence HB.out b1 (Nat.le_refl _))
      clear b1
      go_wp2_with fail
      go_ret
      exact ⟨rfl, B1.out⟩
    · have hq : DK.rcode D at_ = 0 := by simp [DK.rcode, hm, hh, hd]
      rw [hq]
      rw [hd] at CP HB HX ⊢
      clear hp hm hh hd hq
      go_enter Try.func60, Try.ntmps60
      go_wp2_with fail
      refine CP.out.mono ?_
      rintro e w1 ⟨rfl, b1⟩
      obtain ⟨c0, c1, c2⟩ := (HX.out.here b1).three
      have B1 := Lib.hid (thence HB.out b1 (Nat.le_refl _))
      clear b1
      go_wp2_with fail
      go_ret
      exact ⟨rfl, B1.out⟩
  · have hq : DK.rcode D at_ = DK.pcode D at_ := by
      unfold DK.rcode DK.pcode at *
      split <;> simp_all
    rw [hq]
    have e0 : ((DK.pcode D at_ : Int) == 0) = false := by rw [beq_eq_false_iff_ne]; omega
    clear hp hq
    generalize DK.pcode D at_ = p at *
    generalize D.dead = dd at *
    go_enter Try.func60, Try.ntmps60
    go_wp2_with fail
    refine CP.out.mono ?_
    rintro e w1 ⟨rfl, b1⟩
    have B1 := Lib.hid (thence HB.out b1 (Nat.le_refl _))
    clear b1
    go_wp2_with fail
    go_ret
    exact ⟨rfl, B1.out⟩

set_option maxRecDepth 100000 in
theorem writable_any (a : Option Addr) (n c : Nat) (a' : Option Addr) (n' c' : Nat) (D : Dv) (at_ : Int) (b : Option Addr) (len cap : Nat) (l : List Nat) (w : World) (hr : DevAt w.heap.size w a n c a' n' c' D) (hl : len = l.length) (hs : len ≤ maxLen) :
    Calls Try.prog 63 #[.agg #[.slice a n c, .slice a' n' c', .bool D.dead], .int .i64 at_, .slice b len cap] w fun e w' => e = .returned (.int .i64 (DK.wcode D at_ l : Nat)) ∧ Below w.heap.size w w' := by
  have hb0 : Below w.heap.size w (w.alloc (.cells #[.slice a n c, .slice a' n' c', .bool D.dead] 37)) := (Below.refl _ _).alloc (Nat.le_refl _) _
  have hx := Bx.new w [.slice a n c, .slice a' n' c', .bool D.dead] 37
  have CP := Lib.hid (place_any a n c a' n' c' D at_ _ (hr.here hb0))
  have CB : Hid (∀ w1, Calls Try.prog 68 #[.slice b len cap] w1 fun e w' => e = .returned (.bool (DK.sized l)) ∧ w1 = w') := fun w1 => isBlock_any b len cap l w1 hl hs
  have HB := Lib.hid hb0
  have HX := Lib.hid hx
  clear hb0 hx hr hl
  by_cases hp : DK.pcode D at_ = 0
  · have hm : DK.may D = true := by
      rcases Bool.eq_false_or_eq_true (DK.may D) with h | h
      · exact h
      · simp [DK.pcode, h] at hp
    have hh : DK.has D at_ = true := by
      rcases Bool.eq_false_or_eq_true (DK.has D at_) with h | h
      · exact h
      · simp [DK.pcode, h, hm] at hp
    rw [hp] at CP
    rcases Bool.eq_false_or_eq_true (DK.sized l) with hz | hz
    · rw [hz] at CB
      rcases Bool.eq_false_or_eq_true D.dead with hd | hd
      · have hq : DK.wcode D at_ l = 40 := by simp [DK.wcode, hm, hh, hd, hz]
        rw [hq]
        rw [hd] at CP HB HX ⊢
        clear hp hm hh hd hq hz
        go_enter Try.func63, Try.ntmps63
        go_wp2_with fail
        refine CP.out.mono ?_
        rintro e w1 ⟨rfl, b1⟩
        obtain ⟨c0, c1, c2⟩ := (HX.out.here b1).three
        have B1 := Lib.hid (thence HB.out b1 (Nat.le_refl _))
        clear b1
        go_wp2_with fail
        refine (CB.out _).mono ?_
        rintro e w2 ⟨rfl, rfl⟩
        go_wp2_with fail
        go_ret
        exact ⟨rfl, B1.out⟩
      · have hq : DK.wcode D at_ l = 0 := by simp [DK.wcode, hm, hh, hd, hz]
        rw [hq]
        rw [hd] at CP HB HX ⊢
        clear hp hm hh hd hq hz
        go_enter Try.func63, Try.ntmps63
        go_wp2_with fail
        refine CP.out.mono ?_
        rintro e w1 ⟨rfl, b1⟩
        obtain ⟨c0, c1, c2⟩ := (HX.out.here b1).three
        have B1 := Lib.hid (thence HB.out b1 (Nat.le_refl _))
        clear b1
        go_wp2_with fail
        refine (CB.out _).mono ?_
        rintro e w2 ⟨rfl, rfl⟩
        go_wp2_with fail
        go_ret
        exact ⟨rfl, B1.out⟩
    · rw [hz] at CB
      have hq : DK.wcode D at_ l = 3 := by simp [DK.wcode, hm, hh, hz]
      rw [hq]
      clear hp hm hh hq hz
      generalize D.dead = dd at *
      go_enter Try.func63, Try.ntmps63
      go_wp2_with fail
      refine CP.out.mono ?_
      rintro e w1 ⟨rfl, b1⟩
      have B1 := Lib.hid (thence HB.out b1 (Nat.le_refl _))
      clear b1
      go_wp2_with fail
      refine (CB.out _).mono ?_
      rintro e w2 ⟨rfl, rfl⟩
      go_wp2_with fail
      go_ret
      exact ⟨rfl, B1.out⟩
  · have hq : DK.wcode D at_ l = DK.pcode D at_ := by
      unfold DK.wcode DK.pcode at *
      split <;> simp_all
    rw [hq]
    have e0 : ((DK.pcode D at_ : Int) == 0) = false := by rw [beq_eq_false_iff_ne]; omega
    clear hp hq CB
    generalize DK.pcode D at_ = p at *
    generalize D.dead = dd at *
    go_enter Try.func63, Try.ntmps63
    go_wp2_with fail
    refine CP.out.mono ?_
    rintro e w1 ⟨rfl, b1⟩
    have B1 := Lib.hid (thence HB.out b1 (Nat.le_refl _))
    clear b1
    go_wp2_with fail
    go_ret
    exact ⟨rfl, B1.out⟩

/-! The document's own. -/
end Go.Proofs.Ytnhfkfihlkbkfaa.PW
