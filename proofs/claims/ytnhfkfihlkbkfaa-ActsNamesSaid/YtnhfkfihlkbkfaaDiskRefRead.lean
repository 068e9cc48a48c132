/-
  Contracts of layer 4: what is read of a device, what lasts; the document's own.
-/
import Derived.Test.YtnhfkfihlkbkfaaDiskCodes
import Derived.Test.YtnhfkfihlkbkfaaDiskTwin
namespace Go.Proofs.Ytnhfkfihlkbkfaa.PW
open Go.RowKit
open DK (Dv)
set_option linter.unusedVariables false
set_option maxRecDepth 100000

/-- What a call answers that hands back a new slice of bytes. -/
def NewSl (w : World) (l : List Nat) (e : Ending) (w' : World) : Prop := ∃ a n c, e = .returned (.slice a n c) ∧ Item w.heap.size w' ⟨a, n, c, l⟩ ∧ Below w.heap.size w w'
theorem refFull_new (a : Option Addr) (len cap : Nat) (l : List Nat) (w : World) (hr : Rd w.heap.size w a len cap l) (hl : l.length ≤ 100000) :
    Calls Try.prog 59 #[.slice a len cap] w (NewSl w (DK.fl l)) :=
  (refFull_any a len cap l w hr hl).mono fun e w' ⟨a', n', c', he, hn, ho, hrd, hb⟩ => ⟨a', n', c', he, Item.own ho hrd, hb⟩

set_option maxRecDepth 100000 in
theorem refLies_any (a : Option Addr) (n c : Nat) (a' : Option Addr) (n' c' : Nat) (D : Dv) (m : Nat) (w : World) (hr : DevAt w.heap.size w a n c a' n' c' D) (hf : Fit D) (hm : m < n) :
    Calls Try.prog 90 #[.agg #[.slice a n c, .slice a' n' c', .bool D.dead], .int .i64 (m : Int)] w (NewSl w (DK.lies D (m : Int))) := by
  have hb0 : Below w.heap.size w (w.alloc (.cells #[.slice a n c, .slice a' n' c', .bool D.dead] 37)) := (Below.refl _ _).alloc (Nat.le_refl _) _
  obtain ⟨b, off, xa, xlen, xcap, xl, rfl, hbB, hx, hcell, hxr⟩ := (hr.below hb0).at m hm
  have hle : xl.length ≤ 100000 := by rw [← hx]; exact hf.2.2.1 _ (mem_getD (by rw [← hr.long.1]; exact hm))
  have CF := Lib.hid (refFull_new xa xlen xcap xl _ (hxr.mono hb0.size) hle)
  have HLI : Hid (DK.lies D (m : Int) = DK.fl xl) := by show _ = _; unfold DK.lies; rw [Int.toNat_natCast, hx]
  have HB := Lib.hid hb0
  have hlt : b < w.heap.size := hbB
  rw [hb0.cell (p := ⟨b, off + m, none⟩) hbB] at hcell
  have i0 : (0 : Int) ≤ (m : Int) := Int.natCast_nonneg _
  have i1 : (m : Int) < (n : Int) := by omega
  clear hb0 hx hxr hle hr hf
  generalize D.dead = dd at *
  go_enter Try.func90, Try.ntmps90
  go_wp2_with fail
  refine CF.out.mono ?_
  rintro e w1 ⟨p, q, r, rfl, it, b1⟩
  have IT := Lib.hid it
  have B1 := Lib.hid (thence HB.out b1 (Nat.le_refl _))
  have HS := Lib.hid HB.out.size
  clear it b1
  go_wp2_with fail
  go_ret
  exact ⟨p, q, r, rfl, by rw [HLI.out]; exact IT.out.mono HS.out, B1.out⟩

set_option maxRecDepth 100000 in
set_option maxHeartbeats 1000000 in
theorem refSeen_any (a : Option Addr) (n c : Nat) (a' : Option Addr) (n' c' : Nat) (D : Dv) (m : Nat) (w : World) (hr : DevAt w.heap.size w a n c a' n' c' D) (hf : Fit D) (hm : m < n) :
    Calls Try.prog 89 #[.agg #[.slice a n c, .slice a' n' c', .bool D.dead], .int .i64 (m : Int)] w (NewSl w (DK.seen D (m : Int))) := by
  have hb0 : Below w.heap.size w (w.alloc (.cells #[.slice a n c, .slice a' n' c', .bool D.dead] 37)) := (Below.refl _ _).alloc (Nat.le_refl _) _
  have bD := Bx.new w [.slice a n c, .slice a' n' c', .bool D.dead] 37
  have CL := Lib.hid (refLies_any a n c a' n' c' D m _ (hr.here hb0) hf hm)
  have CF : Hid (∀ a n c l w, Rd w.heap.size w a n c l → l.length ≤ 100000 → Calls Try.prog 59 #[.slice a n c] w (NewSl w (DK.fl l))) := fun a n c l w h1 h2 => refFull_new a n c l w h1 h2
  have hs' := hr.small.2
  unfold maxLen at hs'
  have HB := Lib.hid hb0
  have BD := Lib.hid bD
  have Hr := Lib.hid hr
  have HF := Lib.hid hf
  have HS0 := Lib.hid hb0.size
  have SN : Hid (∀ k z l, k < n' → D.ws.getD k (0, []) = (z, l) → DK.look (m : Int) (DK.lies D (m : Int)) (D.ws.take (k + 1)) = if z = (m : Int) then DK.fl l else DK.look (m : Int) (DK.lies D (m : Int)) (D.ws.take k)) := fun k z l hk hx => (by
    have hk' : k < D.ws.length := by rw [← Hr.out.long.2]; exact hk
    rw [List.take_succ_eq_append_getElem hk', DK.look_snoc]
    have : D.ws[k] = (z, l) := by rw [← hx]; simp [List.getD, hk']
    rw [this])
  have SA : Hid (DK.seen D (m : Int) = DK.look (m : Int) (DK.lies D (m : Int)) (D.ws.take n')) := by
    show _ = _
    rw [List.take_of_length_le (by rw [Hr.out.long.2]; exact Nat.le_refl _)]; rfl
  have S0 : Hid (DK.lies D (m : Int) = DK.look (m : Int) (DK.lies D (m : Int)) (D.ws.take 0)) := rfl
  clear hb0 bD hr hf
  generalize D.dead = dd at *
  go_enter Try.func89, Try.ntmps89
  go_wp2_with fail
  refine CL.out.mono ?_
  rintro e w1 ⟨p, q, r, rfl, it, b1⟩
  have IT : Hid (Item w.heap.size w1 ⟨p, q, r, DK.lies D (m : Int)⟩) := it.mono HS0.out
  have B1 := Lib.hid (thence HB.out b1 (Nat.le_refl _))
  have bD := BD.out.here b1
  have BD1 := Lib.hid bD
  clear it b1 BD CL bD HB
  go_wp2_with fail
  go_loopw [5, 6] (fun v i wr => ∃ (k : Nat) (p : Option Addr) (q r : Nat), k ≤ n' ∧ i = .int .i64 k ∧ v = .slice p q r ∧ Hid (Item w.heap.size wr ⟨p, q, r, DK.look (m : Int) (DK.lies D (m : Int)) (D.ws.take k)⟩) ∧ Hid (Below w1.heap.size w1 wr)) (fun _ i _ => n' - (intOf i).toNat)
  case atStart => exact ⟨0, p, q, r, by omega, rfl, rfl, IT.out, Below.refl _ _⟩
  case round =>
    obtain ⟨k, p, q, r, hk, rfl, rfl, IT2, KB⟩ := hrel
    have hbd := BD1.out.here KB.out
    obtain ⟨d0, d1, d2⟩ := hbd.three
    have BD2 := Lib.hid hbd
    clear hbd
    have kbw : Hid (Below w.heap.size w wr) := thence B1.out KB.out (Nat.le_refl _)
    by_cases hlt : k < n'
    · obtain ⟨b, off, z, xa, xlen, xcap, xl, rfl, hbB, hx, hcell, hcell2, hxr⟩ := (Hr.out.below kbw.out).wat k hlt
      have hle : xl.length ≤ 100000 := (by
        have h7 := HF.out.2.2.2 _ (mem_getD (d := (0, [])) (k := k) (by rw [← Hr.out.long.2]; exact hlt))
        rw [hx] at h7; exact h7)
      have CF1 := Lib.hid (CF.out xa xlen xcap xl wr (hxr.mono kbw.out.size) hle)
      have SN1 := Lib.hid (SN.out k z xl hlt hx)
      have Hlt := Lib.hid hlt
      have i0 : (0 : Int) ≤ (k : Int) := Int.natCast_nonneg _
      have i1 : (k : Int) < (n' : Int) := by omega
      clear hxr hx hle
      by_cases he : z = (m : Int)
      · subst he
        rw [if_pos rfl] at SN1
        go_wp2_with fail
        refine CF1.out.mono ?_
        rintro e w2 ⟨p2, q2, r2, rfl, it, b2⟩
        have IT3 : Hid (Item w.heap.size w2 ⟨p2, q2, r2, DK.look (m : Int) (DK.lies D (m : Int)) (D.ws.take (k + 1))⟩) := by rw [SN1.out]; exact it.mono kbw.out.size
        have B2 : Hid (Below w1.heap.size w1 w2) := thence KB.out b2 (Nat.le_refl _)
        clear it b2
        go_wp2_with fail
        go_roundw
        case rel => exact ⟨k + 1, p2, q2, r2, by have := Hlt.out; omega, by go_num, rfl, IT3.out, B2.out⟩
        case measure => have := Hlt.out; simp [intOf]; omega
      · rw [if_neg he] at SN1
        have e0 : (z == (m : Int)) = false := by rw [beq_eq_false_iff_ne]; exact he
        have IT3 : Hid (Item w.heap.size wr ⟨p, q, r, DK.look (m : Int) (DK.lies D (m : Int)) (D.ws.take (k + 1))⟩) := by rw [SN1.out]; exact IT2.out
        clear he
        go_wp2_with fail
        go_roundw
        case rel => exact ⟨k + 1, p, q, r, by have := Hlt.out; omega, by go_num, rfl, IT3.out, KB.out⟩
        case measure => have := Hlt.out; simp [intOf]; omega
    · obtain rfl : k = n' := by omega
      go_wp2_with fail
      go_ret
      exact ⟨p, q, r, rfl, by rw [SA.out]; exact IT2.out, kbw.out⟩

/-- What the document's own answers: a slice of bytes, and an error's number. -/
def TheSl (w : World) (l : List Nat) (c : Nat) (e : Ending) (w' : World) : Prop :=
  (c = 0 ∧ ∃ a n c', e = .returned (.tuple #[.slice a n c', .int .i64 0]) ∧ Rd w'.heap.size w' a n c' l ∧ Below w.heap.size w w') ∨ (c ≠ 0 ∧ e = .returned (.tuple #[.slice none 0 0, .int .i64 (c : Int)]) ∧ Below w.heap.size w w')

end Go.Proofs.Ytnhfkfihlkbkfaa.PW
