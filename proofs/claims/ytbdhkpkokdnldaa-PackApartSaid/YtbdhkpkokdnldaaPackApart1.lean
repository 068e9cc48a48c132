/-
  The walk of PackApart: two numbers at places that share no byte, in either order; of two at one place, of one size, the later one stands.
-/
import Derived.Test.YtbdhkpkokdnldaaPackLaws
import Derived.Lib.SmallJoins
import Derived.ProofKit
import Derived.ChangeKeysEq
namespace Go.Proofs.Ytbdhkpkokdnldaa.PW
open Go.RowKit
set_option linter.unusedVariables false

/-- An array of three ints that came in. -/
theorem open_arr3 {H : Type} {enc : TypeId × Value → H} {W : World} {r : Reach} {b0 base : Nat} {spare : Nat → Bool} {held : Bool} {v : Value} {d : DataW H} {p : List MemPlace}
    (hv : Value.okWide Try.prog W r b0 35 v) (h : DataW.Trod enc Try.prog W base spare held 35 v d p) :
    ∃ x y z : Int, (-9223372036854775808 ≤ x ∧ x ≤ 9223372036854775807) ∧ (-9223372036854775808 ≤ y ∧ y ≤ 9223372036854775807) ∧ (-9223372036854775808 ≤ z ∧ z ≤ 9223372036854775807) ∧ v = .agg #[.int .i64 x, .int .i64 y, .int .i64 z] := by
  simp only [Value.okWide, Try.underlying35] at hv
  obtain ⟨cs, rfl, hsz, _⟩ := hv
  have hC : Try.prog.cellsOf 35 = 3 := by kernel_rfl
  have hE : Try.prog.cellsOf 3 = 1 := by kernel_rfl
  obtain ⟨c0, c1, c2, rfl⟩ := Joins.array3 (hsz.trans hC)
  obtain ⟨fuel, hf⟩ := h
  obtain ⟨xs, m, _, _, _, hl, hi⟩ := DataW.trod_array Try.underlying35 hf
  rw [hE] at hi
  have one : ∀ (i : Nat) (c : Value), i < 3 → (([c0, c1, c2] : List Value).drop (i * 1)).take 1 = [c] → ∃ n : Int, (-9223372036854775808 ≤ n ∧ n ≤ 9223372036854775807) ∧ c = .int .i64 n := by
    intro i c hi4 hc
    have := hi i hi4
    have hcells : (Value.agg #[c0, c1, c2]).cells.toList = [c0, c1, c2] := rfl
    rw [hcells, hc, List.getElem?_eq_getElem (show i < xs.length by omega)] at this
    obtain ⟨n, e, _, hw⟩ := DataW.trod_int Try.underlying3 this
    have hb := bounds_i64 hw
    injection e with e
    exact ⟨n, hb, e⟩
  obtain ⟨x, hx, rfl⟩ := one 0 c0 (by decide) rfl
  obtain ⟨y, hy, rfl⟩ := one 1 c1 (by decide) rfl
  obtain ⟨z, hz, rfl⟩ := one 2 c2 (by decide) rfl
  exact ⟨x, y, z, hx, hy, hz, rfl⟩

/-- The cells of the two arrays, in any later world. -/
def Six (w : World) (B : Nat) (p s n q t m : Nat) : Prop :=
  w.cell? ⟨B, 0, none⟩ = some (.int .i64 p) ∧ w.cell? ⟨B, 1, none⟩ = some (.int .i64 s) ∧ w.cell? ⟨B, 2, none⟩ = some (.int .i64 n) ∧
  w.cell? ⟨B + 1, 0, none⟩ = some (.int .i64 q) ∧ w.cell? ⟨B + 1, 1, none⟩ = some (.int .i64 t) ∧ w.cell? ⟨B + 1, 2, none⟩ = some (.int .i64 m)
theorem Six.below {w w' : World} {A B : Nat} {p s n q t m : Nat} (h : Six w B p s n q t m) (hb : Below A w w') (hA : B + 1 < A) : Six w' B p s n q t m := by
  obtain ⟨h0, h1, h2, h3, h4, h5⟩ := h
  refine ⟨?_, ?_, ?_, ?_, ?_, ?_⟩
  · rw [hb.cell (p := ⟨B, 0, none⟩) (by simp; omega)]; exact h0
  · rw [hb.cell (p := ⟨B, 1, none⟩) (by simp; omega)]; exact h1
  · rw [hb.cell (p := ⟨B, 2, none⟩) (by simp; omega)]; exact h2
  · rw [hb.cell (p := ⟨B + 1, 0, none⟩) (by simp; omega)]; exact h3
  · rw [hb.cell (p := ⟨B + 1, 1, none⟩) (by simp; omega)]; exact h4
  · rw [hb.cell (p := ⟨B + 1, 2, none⟩) (by simp; omega)]; exact h5

set_option maxHeartbeats 2000000 in
set_option maxRecDepth 100000 in
theorem apart_good (a : Option Addr) (cap : Nat) (l : List Nat) (p s n q t m : Nat) (w : World) (hr : Rd w.heap.size w a l.length cap l) (hm : cap ≤ 2 ^ 63 - 1) (hf : l.length ≤ cap) (hb : ¬1000 < l.length) (h : May l p s) (h1 : n < 256 ^ s) (k : May l q t) (k1 : m < 256 ^ t) :
    Calls Try.prog 6 #[.slice a l.length cap, .agg #[.int .i64 p, .int .i64 s, .int .i64 n], .agg #[.int .i64 q, .int .i64 t, .int .i64 m]] w fun e w' => e = .returned (.bool true) ∧ Below w.heap.size w w' := by
  have q1 := h.s1
  have q2 := h.s4
  have q3 := h.p0
  have q4 := h.p1
  have r1 := k.s1
  have r2 := k.s4
  have r3 := k.p0
  have r4 := k.p1
  have hwl : (PK.wh l).length = 128 := PK.wh_length (by have := h.blk; omega)
  have hwb : Bytes (PK.wh l) := PK.wh_bytes hr.byt
  have hxl := pk_128 (PK.wh l) p n s hwl
  have hxb : Bytes (PK.pk (PK.wh l) p n s) := PK.pk_bytes hwb _ _ _
  have hyl := pk_128 (PK.wh l) q m t hwl
  have hyb : Bytes (PK.pk (PK.wh l) q m t) := PK.pk_bytes hwb _ _ _
  have hxyl := pk_128 (PK.pk (PK.wh l) p n s) q m t hxl
  have hxyb : Bytes (PK.pk (PK.pk (PK.wh l) p n s) q m t) := PK.pk_bytes hxb _ _ _
  have hyxl := pk_128 (PK.pk (PK.wh l) q m t) p n s hyl
  have hyxb : Bytes (PK.pk (PK.pk (PK.wh l) q m t) p n s) := PK.pk_bytes hyb _ _ _
  have c1 := fun (w' : World) (hr : Rd w'.heap.size w' a l.length cap l) => put_ok a l.length cap l p s n w' hr h h1
  have c2 := fun (w' : World) (hr : Rd w'.heap.size w' a l.length cap l) => put_ok a l.length cap l q t m w' hr k k1
  have c3 : ∀ (w' : World) (g : Nat), Rd w'.heap.size w' (some ⟨g, 0, none⟩) 128 128 (PK.pk (PK.wh l) p n s) → Calls Try.prog 9 #[.slice (some ⟨g, 0, none⟩) 128 128, .int .i64 q, .int .i64 t, .int .i64 m] w' (NewBlk w' (PK.pk (PK.pk (PK.wh l) p n s) q m t)) := by
    intro w' g hr
    have := put_ok _ _ _ _ q t m w' hr ⟨.inr hxl, r1, r2, r3, r4⟩ k1
    rwa [PK.wh_full hxl] at this
  have c4 : ∀ (w' : World) (g : Nat), Rd w'.heap.size w' (some ⟨g, 0, none⟩) 128 128 (PK.pk (PK.wh l) q m t) → Calls Try.prog 9 #[.slice (some ⟨g, 0, none⟩) 128 128, .int .i64 p, .int .i64 s, .int .i64 n] w' (NewBlk w' (PK.pk (PK.pk (PK.wh l) q m t) p n s)) := by
    intro w' g hr
    have := put_ok _ _ _ _ p s n w' hr ⟨.inr hyl, q1, q2, q3, q4⟩ h1
    rwa [PK.wh_full hyl] at this
  have c5 : ∀ (w' : World) (g : Nat), Rd w'.heap.size w' (some ⟨g, 0, none⟩) 128 128 (PK.pk (PK.pk (PK.wh l) p n s) q m t) → Calls Try.prog 10 #[.slice (some ⟨g, 0, none⟩) 128 128, .int .i64 p, .int .i64 s] w' fun e w'' => e = .returned (.tuple #[.int .i64 (PK.tv (PK.pk (PK.pk (PK.wh l) p n s) q m t) p s : Nat), .int .i64 0]) ∧ Below w'.heap.size w' w'' := by
    intro w' g hr
    have := take_ok _ _ _ _ p s w' hr ⟨.inr hxyl, q1, q2, q3, q4⟩
    rwa [PK.wh_full hxyl] at this
  have hcomm : p + s ≤ q ∨ q + t ≤ p → PK.pk (PK.pk (PK.wh l) p n s) q m t = PK.pk (PK.pk (PK.wh l) q m t) p n s := fun hap => PK.pk_comm _ _ _ _ _ _ _ hap
  have htv : p + s ≤ q ∨ q + t ≤ p → PK.tv (PK.pk (PK.pk (PK.wh l) p n s) q m t) p s = n := fun hap => by
    rw [PK.tv_pk_out _ _ _ _ _ _ hap, PK.tv_pk _ _ _ _ (by omega), Nat.mod_eq_of_lt h1]
  have hover1 : p = q ∧ s = t → PK.pk (PK.pk (PK.wh l) p n s) q m t = PK.pk (PK.wh l) q m t := by rintro ⟨rfl, rfl⟩; exact PK.pk_over _ _ _ _ _
  have hover2 : p = q ∧ s = t → PK.pk (PK.pk (PK.wh l) q m t) p n s = PK.pk (PK.wh l) p n s := by rintro ⟨rfl, rfl⟩; exact PK.pk_over _ _ _ _ _
  have C1 := Lib.hid c1
  have C2 := Lib.hid c2
  have C3 := Lib.hid c3
  have C4 := Lib.hid c4
  have C5 := Lib.hid c5
  have Hxl := Lib.hid hxl
  have Hxb := Lib.hid hxb
  have Hyl := Lib.hid hyl
  have Hyb := Lib.hid hyb
  have Hxyl := Lib.hid hxyl
  have Hxyb := Lib.hid hxyb
  have Hyxl := Lib.hid hyxl
  have Hyxb := Lib.hid hyxb
  have Hcomm := Lib.hid hcomm
  have Htv := Lib.hid htv
  have Hover1 := Lib.hid hover1
  have Hover2 := Lib.hid hover2
  clear h h1 k k1 hwl hwb hxl hxb hyl hyb hxyl hxyb hyxl hyxb c1 c2 c3 c4 c5 hcomm htv hover1 hover2
  generalize PK.tv (PK.pk (PK.pk (PK.wh l) p n s) q m t) p s = v at *
  generalize PK.pk (PK.pk (PK.wh l) p n s) q m t = mxy at *
  generalize PK.pk (PK.pk (PK.wh l) q m t) p n s = myx at *
  generalize PK.pk (PK.wh l) p n s = mx at *
  generalize PK.pk (PK.wh l) q m t = my at *
  go_enter Try.func6, Try.ntmps6
  go_wp2_with fail
  refine (alive_any _).mono ?_
  rintro e w1 ⟨rfl, hb1⟩
  have six1 : Six w1 w.heap.size p s n q t m := by
    refine Six.below (w := (w.alloc (.cells #[.int .i64 p, .int .i64 s, .int .i64 n] 35)).alloc (.cells #[.int .i64 q, .int .i64 t, .int .i64 m] 35)) ?_ hb1 (by simp)
    refine ⟨?_, ?_, ?_, ?_, ?_, ?_⟩ <;> simp
  have b1 : Below w.heap.size w w1 := (((Below.refl _ w).alloc (Nat.le_refl _) _).alloc (by simp) _).trans (hb1.mono (by simp; omega))
  have hsz : w.heap.size + 1 < w1.heap.size := by have := hb1.size; simp at this; omega
  have hr1 := (hr.below b1).mono b1.size
  obtain ⟨d0, d1, d2, d3, d4, d5⟩ := six1
  clear hb1
  go_wp2_with fail
  refine (C1.out _ hr1).mono ?_
  rintro e w2 ⟨gx, rfl, hgx, hbx, hb2⟩
  have six1 : Six w1 w.heap.size p s n q t m := ⟨d0, d1, d2, d3, d4, d5⟩
  have six2 := six1.below hb2 hsz
  have b2 := thence b1 hb2 (Nat.le_refl _)
  have hr2 := (hr.below b2).mono b2.size
  clear d0 d1 d2 d3 d4 d5 six1 hr1
  obtain ⟨d0, d1, d2, d3, d4, d5⟩ := six2
  go_wp2_with fail
  refine (C2.out _ hr2).mono ?_
  rintro e w3 ⟨gy, rfl, hgy, hby, hb3⟩
  have six2 : Six w2 w.heap.size p s n q t m := ⟨d0, d1, d2, d3, d4, d5⟩
  have hsz2 : w.heap.size + 1 < w2.heap.size := by have := hb2.size; omega
  have six3 := six2.below hb3 hsz2
  have hbx3 := hbx.below hb3 hbx.lt
  have b3 := thence b2 hb3 (Nat.le_refl _)
  clear d0 d1 d2 d3 d4 d5 six2 hr2 hbx
  obtain ⟨d0, d1, d2, d3, d4, d5⟩ := six3
  go_wp2_with fail
  refine (C3.out _ _ (hbx3.rd Hxl.out Hxb.out)).mono ?_
  rintro e w4 ⟨gxy, rfl, hgxy, hbxy, hb4⟩
  have six3 : Six w3 w.heap.size p s n q t m := ⟨d0, d1, d2, d3, d4, d5⟩
  have hsz3 : w.heap.size + 1 < w3.heap.size := by have := hb3.size; omega
  have six4 := six3.below hb4 hsz3
  have hbx4 := hbx3.below hb4 hbx3.lt
  have hby4 := hby.below hb4 hby.lt
  have b4 := thence b3 hb4 (Nat.le_refl _)
  clear d0 d1 d2 d3 d4 d5 six3 hbx3 hby
  obtain ⟨d0, d1, d2, d3, d4, d5⟩ := six4
  go_wp2_with fail
  refine (C4.out _ _ (hby4.rd Hyl.out Hyb.out)).mono ?_
  rintro e w5 ⟨gyx, rfl, hgyx, hbyx, hb5⟩
  have six4 : Six w4 w.heap.size p s n q t m := ⟨d0, d1, d2, d3, d4, d5⟩
  have hsz4 : w.heap.size + 1 < w4.heap.size := by have := hb4.size; omega
  have six5 := six4.below hb5 hsz4
  have hbx5 := hbx4.below hb5 hbx4.lt
  have hby5 := hby4.below hb5 hby4.lt
  have hbxy5 := hbxy.below hb5 hbxy.lt
  have b5 := thence b4 hb5 (Nat.le_refl _)
  clear d0 d1 d2 d3 d4 d5 six4 hbx4 hby4 hbxy b1 b2 b3 b4 hb2 hb3 hb4
  obtain ⟨d0, d1, d2, d3, d4, d5⟩ := six5
  by_cases hap : p + s ≤ q ∨ q + t ≤ p
  · have e1 := Hcomm.out hap
    have e2 := Htv.out hap
    subst e1 e2
    have hap' : (p : Int) + s ≤ q ∨ ((q : Int) < p + s ∧ (q : Int) + t ≤ p) := by omega
    clear hap
    rcases hap' with hap | ⟨hap1, hap2⟩
    all_goals
      go_wp2_with fail
      refine (C5.out _ _ (hbxy5.rd Hxyl.out Hxyb.out)).mono ?_
      rintro e w6 ⟨rfl, hb6⟩
      have six5 : Six w5 w.heap.size p s _ q t m := ⟨d0, d1, d2, d3, d4, d5⟩
      have hsz5 : w.heap.size + 1 < w5.heap.size := by have := hb5.size; omega
      have six6 := six5.below hb6 hsz5
      clear d0 d1 d2 d3 d4 d5
      obtain ⟨d0, d1, d2, d3, d4, d5⟩ := six6
      have hbxy6 := hbxy5.below hb6 hbxy5.lt
      have hbyx6 := hbyx.below hb6 hbyx.lt
      have s1 := text_is w6 _ _ _ _ (hbxy6.rd Hxyl.out Hxyb.out)
      have s2 := text_is w6 _ _ _ _ (hbyx6.rd Hyxl.out Hyxb.out)
      go_wp2
      go_ret
      exact ⟨rfl, thence b5 hb6 (Nat.le_refl _)⟩
  · have hap1 : (q : Int) < p + s := by omega
    have hap2 : (p : Int) < q + t := by omega
    clear hap
    have s1 := text_is w5 _ _ _ _ (hbxy5.rd Hxyl.out Hxyb.out)
    have s2 := text_is w5 _ _ _ _ (hbyx.rd Hyxl.out Hyxb.out)
    have s3 := text_is w5 _ _ _ _ (hbx5.rd Hxl.out Hxb.out)
    have s4 := text_is w5 _ _ _ _ (hby5.rd Hyl.out Hyb.out)
    by_cases hpq : p = q
    · have f1 : ((p : Int) != (q : Int)) = false := by simp [hpq]
      by_cases hst : s = t
      · have f2 : ((s : Int) != (t : Int)) = false := by simp [hst]
        have e1 := Hover1.out ⟨hpq, hst⟩
        have e2 := Hover2.out ⟨hpq, hst⟩
        rw [e1] at s1
        rw [e2] at s2
        clear e1 e2 hpq hst
        go_wp2
        go_ret
        exact ⟨rfl, b5⟩
      · have f2 : ((s : Int) != (t : Int)) = true := by simp; omega
        clear hpq hst
        go_wp2
        go_ret
        exact ⟨rfl, b5⟩
    · have f1 : ((p : Int) != (q : Int)) = true := by simp; omega
      clear hpq
      go_wp2
      go_ret
      exact ⟨rfl, b5⟩

set_option maxHeartbeats 2000000 in
set_option maxRecDepth 100000 in
theorem apart_walk (a : Option Addr) (len cap : Nat) (l : List Nat) (p s n q t m : Int) (w : World) (hr : Rd w.heap.size w a len cap l) :
    Calls Try.prog 6 #[.slice a len cap, .agg #[.int .i64 p, .int .i64 s, .int .i64 n], .agg #[.int .i64 q, .int .i64 t, .int .i64 m]] w fun e w' => e = .returned (.bool true) ∧ Below w.heap.size w w' := by
  obtain rfl := hr.long
  have hm := hr.small
  have hf := hr.fits
  unfold maxLen at hm
  by_cases hb : 1000 < l.length
  · go_enter Try.func6, Try.ntmps6
    go_wp2_with fail
    refine (alive_any _).mono ?_
    rintro e w1 ⟨rfl, hb1⟩
    have b1 : Below w.heap.size w w1 := (((Below.refl _ w).alloc (Nat.le_refl _) _).alloc (by simp) _).trans (hb1.mono (by simp; omega))
    go_wp2
    go_ret
    exact ⟨rfl, b1⟩
  · by_cases h : ∃ p' s' n' : Nat, p = p' ∧ s = s' ∧ n = n' ∧ May l p s ∧ n' < 256 ^ s'
    · by_cases k : ∃ p' s' n' : Nat, q = p' ∧ t = s' ∧ m = n' ∧ May l q t ∧ n' < 256 ^ s'
      · obtain ⟨p', s', n', rfl, rfl, rfl, h, h1⟩ := h
        obtain ⟨q', t', m', rfl, rfl, rfl, k, k1⟩ := k
        exact apart_good a cap l p' s' n' q' t' m' w hr hm hf hb h h1 k k1
      · obtain ⟨c, hc, hp⟩ := put_no a l.length cap l q t m k
        obtain ⟨p', s', n', rfl, rfl, rfl, h, h1⟩ := h
        have HP := Lib.hid hp
        have HG := Lib.hid (fun (w' : World) (hr : Rd w'.heap.size w' a l.length cap l) => put_ok a l.length cap l p' s' n' w' hr h h1)
        clear hp k h h1
        rcases hc with rfl | rfl
        all_goals
          go_enter Try.func6, Try.ntmps6
          go_wp2_with fail
          refine (alive_any _).mono ?_
          rintro e w1 ⟨rfl, hb1⟩
          have d0 : w1.cell? ⟨w.heap.size, 0, none⟩ = some (.int .i64 p') := by rw [hb1.cell (p := ⟨w.heap.size, 0, none⟩) (by simp; omega)]; simp
          have d1 : w1.cell? ⟨w.heap.size, 1, none⟩ = some (.int .i64 s') := by rw [hb1.cell (p := ⟨w.heap.size, 1, none⟩) (by simp; omega)]; simp
          have d2 : w1.cell? ⟨w.heap.size, 2, none⟩ = some (.int .i64 n') := by rw [hb1.cell (p := ⟨w.heap.size, 2, none⟩) (by simp; omega)]; simp
          have d3 : w1.cell? ⟨w.heap.size + 1, 0, none⟩ = some (.int .i64 q) := by rw [hb1.cell (p := ⟨w.heap.size + 1, 0, none⟩) (by simp)]; simp
          have d4 : w1.cell? ⟨w.heap.size + 1, 1, none⟩ = some (.int .i64 t) := by rw [hb1.cell (p := ⟨w.heap.size + 1, 1, none⟩) (by simp)]; simp
          have d5 : w1.cell? ⟨w.heap.size + 1, 2, none⟩ = some (.int .i64 m) := by rw [hb1.cell (p := ⟨w.heap.size + 1, 2, none⟩) (by simp)]; simp
          have b1 : Below w.heap.size w w1 := (((Below.refl _ w).alloc (Nat.le_refl _) _).alloc (by simp) _).trans (hb1.mono (by simp; omega))
          have hsz : w.heap.size + 1 < w1.heap.size := by have := hb1.size; simp at this; omega
          clear hb1
          go_wp2_with fail
          refine (HG.out _ ((hr.below b1).mono b1.size)).mono ?_
          rintro e w2 ⟨gx, rfl, hgx, hbx, hb2⟩
          have b2 := thence b1 hb2 (Nat.le_refl _)
          rw [← hb2.cell (p := ⟨w.heap.size + 1, 0, none⟩) (by simp; omega)] at d3
          rw [← hb2.cell (p := ⟨w.heap.size + 1, 1, none⟩) (by simp; omega)] at d4
          rw [← hb2.cell (p := ⟨w.heap.size + 1, 2, none⟩) (by simp; omega)] at d5
          go_wp2_with fail
          refine (HP.out _ ((hr.below b2).mono b2.size)).mono ?_
          rintro e w3 ⟨rfl, rfl⟩
          go_wp2
          go_ret
          exact ⟨rfl, b2⟩
    · obtain ⟨c, hc, hp⟩ := put_no a l.length cap l p s n h
      have HP := Lib.hid hp
      have hq : ∃ v : Value, ∃ c : Int, ∀ w : World, Rd w.heap.size w a l.length cap l → Calls Try.prog 9 #[.slice a l.length cap, .int .i64 q, .int .i64 t, .int .i64 m] w fun e w' => (∃ v, e = .returned (.tuple #[v, .int .i64 c])) ∧ Below w.heap.size w w' := by
        by_cases k : ∃ p' s' n' : Nat, q = p' ∧ t = s' ∧ m = n' ∧ May l q t ∧ n' < 256 ^ s'
        · obtain ⟨q', t', m', rfl, rfl, rfl, k, k1⟩ := k
          exact ⟨undef, 0, fun w hr => (put_ok a l.length cap l q' t' m' w hr k k1).mono fun e w' ⟨g, he, _, _, hb⟩ => ⟨⟨_, he⟩, hb⟩⟩
        · obtain ⟨c, _, hp⟩ := put_no a l.length cap l q t m k
          exact ⟨undef, c, fun w hr => (hp w hr).mono fun e w' ⟨he, hw⟩ => ⟨⟨_, he⟩, hw ▸ Below.refl _ _⟩⟩
      obtain ⟨_, c2, hq⟩ := hq
      have HQ := Lib.hid hq
      clear hp h hq
      rcases hc with rfl | rfl
      all_goals
        go_enter Try.func6, Try.ntmps6
        go_wp2_with fail
        refine (alive_any _).mono ?_
        rintro e w1 ⟨rfl, hb1⟩
        have d0 : w1.cell? ⟨w.heap.size, 0, none⟩ = some (.int .i64 p) := by rw [hb1.cell (p := ⟨w.heap.size, 0, none⟩) (by simp; omega)]; simp
        have d1 : w1.cell? ⟨w.heap.size, 1, none⟩ = some (.int .i64 s) := by rw [hb1.cell (p := ⟨w.heap.size, 1, none⟩) (by simp; omega)]; simp
        have d2 : w1.cell? ⟨w.heap.size, 2, none⟩ = some (.int .i64 n) := by rw [hb1.cell (p := ⟨w.heap.size, 2, none⟩) (by simp; omega)]; simp
        have d3 : w1.cell? ⟨w.heap.size + 1, 0, none⟩ = some (.int .i64 q) := by rw [hb1.cell (p := ⟨w.heap.size + 1, 0, none⟩) (by simp)]; simp
        have d4 : w1.cell? ⟨w.heap.size + 1, 1, none⟩ = some (.int .i64 t) := by rw [hb1.cell (p := ⟨w.heap.size + 1, 1, none⟩) (by simp)]; simp
        have d5 : w1.cell? ⟨w.heap.size + 1, 2, none⟩ = some (.int .i64 m) := by rw [hb1.cell (p := ⟨w.heap.size + 1, 2, none⟩) (by simp)]; simp
        have b1 : Below w.heap.size w w1 := (((Below.refl _ w).alloc (Nat.le_refl _) _).alloc (by simp) _).trans (hb1.mono (by simp; omega))
        clear hb1
        go_wp2_with fail
        refine (HP.out _ ((hr.below b1).mono b1.size)).mono ?_
        rintro e w2 ⟨rfl, rfl⟩
        go_wp2_with fail
        refine (HQ.out _ ((hr.below b1).mono b1.size)).mono ?_
        rintro e w3 ⟨⟨v, rfl⟩, hb3⟩
        have b3 := thence b1 hb3 (Nat.le_refl _)
        go_wp2
        go_ret
        exact ⟨rfl, b3⟩
end Go.Proofs.Ytbdhkpkokdnldaa.PW
