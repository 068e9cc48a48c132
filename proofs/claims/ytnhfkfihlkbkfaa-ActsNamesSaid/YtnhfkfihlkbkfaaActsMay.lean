/-
  Contracts of layer 5: whether an act may be, the program's answer and the document's own.
-/
import Derived.Test.YtnhfkfihlkbkfaaActsCheck
namespace Go.Proofs.Ytnhfkfihlkbkfaa.PW
open Go.RowKit
open DK (Dv)
set_option linter.unusedVariables false
set_option linter.unusedSimpArgs false
set_option maxRecDepth 100000

def Ax.ac (x : Ax) : AK.Ac := ⟨x.d, x.k, x.p, x.h.l⟩
def acs (L : List Ax) : List AK.Ac := L.map Ax.ac
theorem acs_length (L : List Ax) : (acs L).length = L.length := by simp [acs]
theorem acs_getD (L : List Ax) (k : Nat) : (acs L).getD k AK.Ac.nil = (L.getD k Ax.nil).ac := by
  unfold acs
  simp only [List.getD, List.getElem?_map]
  cases L[k]? <;> rfl
theorem acs_take (L : List Ax) (k : Nat) : acs (L.take k) = (acs L).take k := by simp [acs, List.map_take]
theorem acs_drop (L : List Ax) (k : Nat) : acs (L.drop k) = (acs L).drop k := by simp [acs, List.map_drop]

theorem okA_out {Ds : List Dv} {d p : Int} {k : Nat} {l : List Nat} (h : d < 0 ∨ (Ds.length : Int) ≤ d) : AK.okA Ds ⟨d, k, p, l⟩ = false := by
  unfold AK.okA
  have : AK.isOf Ds d = false := by rw [← Bool.not_eq_true, AK.isOf_iff]; omega
  rw [this]; rfl
theorem okA_in {Ds : List Dv} {p : Int} {m k : Nat} {l : List Nat} (h : m < Ds.length) : AK.okA Ds ⟨(m : Int), k, p, l⟩ = AK.okK (Ds.getD m Dv.nil) ⟨(m : Int), k, p, l⟩ := by
  unfold AK.okA
  have : AK.isOf Ds (m : Int) = true := by rw [AK.isOf_iff]; omega
  rw [this]; simp

/-- What 'okK' is, spelt out for the walks. -/
theorem okK_w {D : Dv} {d p : Int} {k : Nat} {l : List Nat} (hk : k = 1 ∨ k = 2) : AK.okK D ⟨d, k, p, l⟩ = (decide (0 ≤ p) && decide (p < (D.bs.length : Int)) && (decide (l.length = 0) || decide (l.length = 128))) := by
  rcases hk with rfl | rfl <;> simp [AK.okK, DK.has, DK.sized]
theorem okK_f {D : Dv} {d p : Int} {l : List Nat} : AK.okK D ⟨d, 3, p, l⟩ = (decide (p = 0) && decide (l.length = 0)) := by simp [AK.okK]
theorem okK_o {D : Dv} {d p : Int} {k : Nat} {l : List Nat} (h1 : k ≠ 1) (h2 : k ≠ 2) (h3 : k ≠ 3) : AK.okK D ⟨d, k, p, l⟩ = false := by simp [AK.okK, h1, h2, h3]

set_option maxHeartbeats 1000000 in
theorem mayBe_any (d p : Int) (kd : Nat) (xa : Option Addr) (xlen xcap : Nat) (xl : List Nat) (a : Option Addr) (len cap : Nat) (L : List Dn) (w : World) (hr : Rg kDn 0 w.heap.size w a len cap L) (hx : xlen = xl.length) (hs : xlen ≤ maxLen) (hk : kd < 256) :
    Calls Try.prog 49 #[.agg #[.int .i64 d, .int .u8 (kd : Int), .int .i64 p, .slice xa xlen xcap], .slice a len cap] w fun e w' => e = .returned (.bool (AK.okA (devs L) ⟨d, kd, p, xl⟩)) ∧ Below w.heap.size w w' := by
  have hlen := hr.long
  have hsm := hr.small'
  unfold maxLen at hs
  have HX := Lib.hid hx
  have hb0 : Below w.heap.size w (w.alloc (.cells #[.int .i64 d, .int .u8 (kd : Int), .int .i64 p, .slice xa xlen xcap] 33)) := (Below.refl _ _).alloc (Nat.le_refl _) _
  have HB := Lib.hid hb0
  have BX := Lib.hid (Bx.new w [.int .i64 d, .int .u8 (kd : Int), .int .i64 p, .slice xa xlen xcap] 33)
  have Hlen := Lib.hid hlen
  have Hr := Lib.hid hr
  clear hr hlen hb0 hx
  by_cases h1 : d < 0
  · rw [okA_out (.inl h1)]
    go_enter Try.func49, Try.ntmps49
    go_wp2_with fail
    go_ret
    exact ⟨rfl, HB.out⟩
  by_cases h2 : d < (len : Int)
  · obtain ⟨m, rfl⟩ := Int.eq_ofNat_of_zero_le (show 0 ≤ d by omega)
    have hm : m < L.length := by rw [← Hlen.out]; omega
    rw [okA_in (by rw [devs_length]; exact hm)]
    obtain ⟨b, off, ya, yn, yc, ya', yn', yc', D, e1, hbB, e2, dv⟩ := Hr.out.dev m hm
    subst e1
    have C := Lib.hid ((Hr.out.here HB.out).dcell hm e2)
    rw [show (devs L).getD m Dv.nil = D by rw [devs_getD, e2]]
    have HD : Hid (yn = D.bs.length) := dv.at.long.1
    have hyn := dv.at.small.1
    unfold maxLen at hyn
    clear e2 dv Hr
    by_cases k12 : kd = 1 ∨ kd = 2
    · rw [okK_w k12, ← HD.out, ← HX.out]
      by_cases p0 : 0 ≤ p
      · by_cases p1 : p < (yn : Int)
        · by_cases x0 : xlen = 0
          · subst x0
            rw [show (decide (0 ≤ p) && decide (p < (yn : Int)) && (decide ((0 : Nat) = 0) || decide ((0 : Nat) = 128))) = true by simp [p0, p1]]
            rcases k12 with rfl | rfl
            · go_enter Try.func49, Try.ntmps49
              go_wp2_with fail
              generalize w.alloc (.cells #[.int .i64 (m : Int), .int .u8 ((1 : Nat) : Int), .int .i64 p, .slice xa 0 xcap] 33) = w1 at *
              obtain ⟨c0, c1, c2⟩ := C.out
              have b0 := BX.out.cell 0
              have b2 := BX.out.cell 2
              have b3 := BX.out.cell 3
              simp only [List.getElem?_cons_zero, List.getElem?_cons_succ] at b0 b2 b3
              go_quiet (fail)
              go_wp2_with fail
              go_ret
              exact ⟨rfl, below_drewN HB.out _⟩
            · go_enter Try.func49, Try.ntmps49
              go_wp2_with fail
              generalize w.alloc (.cells #[.int .i64 (m : Int), .int .u8 ((2 : Nat) : Int), .int .i64 p, .slice xa 0 xcap] 33) = w1 at *
              obtain ⟨c0, c1, c2⟩ := C.out
              have b0 := BX.out.cell 0
              have b2 := BX.out.cell 2
              have b3 := BX.out.cell 3
              simp only [List.getElem?_cons_zero, List.getElem?_cons_succ] at b0 b2 b3
              go_quiet (fail)
              go_wp2_with fail
              go_ret
              exact ⟨rfl, below_drewN HB.out _⟩
          · by_cases x1 : xlen = 128
            · subst x1
              rw [show (decide (0 ≤ p) && decide (p < (yn : Int)) && (decide ((128 : Nat) = 0) || decide ((128 : Nat) = 128))) = true by simp [p0, p1]]
              rcases k12 with rfl | rfl
              · go_enter Try.func49, Try.ntmps49
                go_wp2_with fail
                generalize w.alloc (.cells #[.int .i64 (m : Int), .int .u8 ((1 : Nat) : Int), .int .i64 p, .slice xa 128 xcap] 33) = w1 at *
                obtain ⟨c0, c1, c2⟩ := C.out
                have b0 := BX.out.cell 0
                have b2 := BX.out.cell 2
                have b3 := BX.out.cell 3
                simp only [List.getElem?_cons_zero, List.getElem?_cons_succ] at b0 b2 b3
                go_quiet (fail)
                go_wp2_with fail
                go_ret
                exact ⟨rfl, below_drewN HB.out _⟩
              · go_enter Try.func49, Try.ntmps49
                go_wp2_with fail
                generalize w.alloc (.cells #[.int .i64 (m : Int), .int .u8 ((2 : Nat) : Int), .int .i64 p, .slice xa 128 xcap] 33) = w1 at *
                obtain ⟨c0, c1, c2⟩ := C.out
                have b0 := BX.out.cell 0
                have b2 := BX.out.cell 2
                have b3 := BX.out.cell 3
                simp only [List.getElem?_cons_zero, List.getElem?_cons_succ] at b0 b2 b3
                go_quiet (fail)
                go_wp2_with fail
                go_ret
                exact ⟨rfl, below_drewN HB.out _⟩
            · rw [show (decide (0 ≤ p) && decide (p < (yn : Int)) && (decide (xlen = 0) || decide (xlen = 128))) = false by simp [x0, x1]]
              have y0 : ((xlen : Int) == 0) = false := by rw [beq_eq_false_iff_ne]; omega
              have y1 : ((xlen : Int) == 128) = false := by rw [beq_eq_false_iff_ne]; omega
              rcases k12 with rfl | rfl
              · go_enter Try.func49, Try.ntmps49
                go_wp2_with fail
                generalize w.alloc (.cells #[.int .i64 (m : Int), .int .u8 ((1 : Nat) : Int), .int .i64 p, .slice xa xlen xcap] 33) = w1 at *
                obtain ⟨c0, c1, c2⟩ := C.out
                have b0 := BX.out.cell 0
                have b2 := BX.out.cell 2
                have b3 := BX.out.cell 3
                simp only [List.getElem?_cons_zero, List.getElem?_cons_succ] at b0 b2 b3
                go_quiet (fail)
                go_wp2_with fail
                go_ret
                exact ⟨rfl, below_drewN HB.out _⟩
              · go_enter Try.func49, Try.ntmps49
                go_wp2_with fail
                generalize w.alloc (.cells #[.int .i64 (m : Int), .int .u8 ((2 : Nat) : Int), .int .i64 p, .slice xa xlen xcap] 33) = w1 at *
                obtain ⟨c0, c1, c2⟩ := C.out
                have b0 := BX.out.cell 0
                have b2 := BX.out.cell 2
                have b3 := BX.out.cell 3
                simp only [List.getElem?_cons_zero, List.getElem?_cons_succ] at b0 b2 b3
                go_quiet (fail)
                go_wp2_with fail
                go_ret
                exact ⟨rfl, below_drewN HB.out _⟩
        · rw [show (decide (0 ≤ p) && decide (p < (yn : Int)) && (decide (xlen = 0) || decide (xlen = 128))) = false by simp [p1]]
          have y1 : decide (p < (yn : Int)) = false := by simpa using p1
          rcases k12 with rfl | rfl
          · go_enter Try.func49, Try.ntmps49
            go_wp2_with fail
            generalize w.alloc (.cells #[.int .i64 (m : Int), .int .u8 ((1 : Nat) : Int), .int .i64 p, .slice xa xlen xcap] 33) = w1 at *
            obtain ⟨c0, c1, c2⟩ := C.out
            have b0 := BX.out.cell 0
            have b2 := BX.out.cell 2
            have b3 := BX.out.cell 3
            simp only [List.getElem?_cons_zero, List.getElem?_cons_succ] at b0 b2 b3
            go_quiet (fail)
            go_wp2_with fail
            go_ret
            exact ⟨rfl, below_drewN HB.out _⟩
          · go_enter Try.func49, Try.ntmps49
            go_wp2_with fail
            generalize w.alloc (.cells #[.int .i64 (m : Int), .int .u8 ((2 : Nat) : Int), .int .i64 p, .slice xa xlen xcap] 33) = w1 at *
            obtain ⟨c0, c1, c2⟩ := C.out
            have b0 := BX.out.cell 0
            have b2 := BX.out.cell 2
            have b3 := BX.out.cell 3
            simp only [List.getElem?_cons_zero, List.getElem?_cons_succ] at b0 b2 b3
            go_quiet (fail)
            go_wp2_with fail
            go_ret
            exact ⟨rfl, below_drewN HB.out _⟩
      · rw [show (decide (0 ≤ p) && decide (p < (yn : Int)) && (decide (xlen = 0) || decide (xlen = 128))) = false by simp [p0]]
        have y1 : decide (0 ≤ p) = false := by simpa using p0
        rcases k12 with rfl | rfl
        · go_enter Try.func49, Try.ntmps49
          go_wp2_with fail
          generalize w.alloc (.cells #[.int .i64 (m : Int), .int .u8 ((1 : Nat) : Int), .int .i64 p, .slice xa xlen xcap] 33) = w1 at *
          obtain ⟨c0, c1, c2⟩ := C.out
          have b0 := BX.out.cell 0
          have b2 := BX.out.cell 2
          have b3 := BX.out.cell 3
          simp only [List.getElem?_cons_zero, List.getElem?_cons_succ] at b0 b2 b3
          go_quiet (fail)
          go_wp2_with fail
          go_ret
          exact ⟨rfl, below_drewN HB.out _⟩
        · go_enter Try.func49, Try.ntmps49
          go_wp2_with fail
          generalize w.alloc (.cells #[.int .i64 (m : Int), .int .u8 ((2 : Nat) : Int), .int .i64 p, .slice xa xlen xcap] 33) = w1 at *
          obtain ⟨c0, c1, c2⟩ := C.out
          have b0 := BX.out.cell 0
          have b2 := BX.out.cell 2
          have b3 := BX.out.cell 3
          simp only [List.getElem?_cons_zero, List.getElem?_cons_succ] at b0 b2 b3
          go_quiet (fail)
          go_wp2_with fail
          go_ret
          exact ⟨rfl, below_drewN HB.out _⟩
    by_cases k3 : kd = 3
    · subst k3
      rw [okK_f, ← HX.out]
      clear k12
      by_cases p0 : p = 0
      · subst p0
        by_cases x0 : xlen = 0
        · subst x0
          go_enter Try.func49, Try.ntmps49
          go_wp2_with fail
          go_ret
          exact ⟨rfl, HB.out⟩
        · rw [show (decide ((0 : Int) = 0) && decide (xlen = 0)) = false by simp [x0]]
          have y0 : ((xlen : Int) == 0) = false := by rw [beq_eq_false_iff_ne]; omega
          go_enter Try.func49, Try.ntmps49
          go_wp2_with fail
          go_ret
          exact ⟨rfl, HB.out⟩
      · rw [show (decide (p = 0) && decide (xlen = 0)) = false by simp [p0]]
        have y0 : (p == 0) = false := by rw [beq_eq_false_iff_ne]; exact p0
        go_enter Try.func49, Try.ntmps49
        go_wp2_with fail
        go_ret
        exact ⟨rfl, HB.out⟩
    · have n1 : kd ≠ 1 := fun h => k12 (.inl h)
      have n2 : kd ≠ 2 := fun h => k12 (.inr h)
      rw [okK_o n1 n2 k3]
      have e1 : ((kd : Int) == 1) = false := by rw [beq_eq_false_iff_ne]; omega
      have e2 : ((kd : Int) == 2) = false := by rw [beq_eq_false_iff_ne]; omega
      have e3 : ((kd : Int) == 3) = false := by rw [beq_eq_false_iff_ne]; omega
      clear k12 n1 n2 k3
      go_enter Try.func49, Try.ntmps49
      go_wp2_with fail
      go_ret
      exact ⟨rfl, HB.out⟩
  · rw [okA_out (.inr (by rw [devs_length, ← Hlen.out]; omega))]
    have y0 : (len : Int) ≤ d := by omega
    go_enter Try.func49, Try.ntmps49
    go_wp2_with fail
    go_ret
    exact ⟨rfl, HB.out⟩
end Go.Proofs.Ytnhfkfihlkbkfaa.PW
