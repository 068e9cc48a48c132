/-
  The walk of a law of layer 8 (SplitBytes), given what the program's calls answer.
-/
import Derived.Test.YtbhehicfenkbcaaSplitLaws
namespace Go.Proofs.Ytbhehicfenkbcaa.PW
open Go.RowKit
open SK (Cfg)
set_option linter.unusedVariables false
set_option linter.unusedSimpArgs false
set_option maxRecDepth 100000

set_option maxHeartbeats 4000000 in
theorem splitBytes_walk (I : SplitIs) (id : Nat) (mem chunk rows log heads : Int) (k : Nat) (at_ many : Int) (da : Option Addr) (dn dc : Nat) (l : List Nat) (w : World) (hr : Rd w.heap.size w da dn dc l) :
    Calls Try.prog 8 #[.agg #[.int .u32 (id : Int), .int .i64 mem, .int .i64 chunk, .int .i64 rows, .int .i64 log, .int .i64 heads], .agg #[.int .u8 (k : Int), .int .i64 at_, .int .i64 many, .slice da dn dc]] w fun e w' => e = .returned (.bool true) ∧ Below w.heap.size w w' := by
  have HR := Lib.hid hr
  have hs : dn ≤ 9223372036854775807 := by have h1 := hr.long; have h2 := hr.fits; have h3 := hr.small; unfold maxLen at h3; omega
  have hdc : dn ≤ dc := by have h1 := hr.long; have h2 := hr.fits; omega
  have hdm : dc ≤ 9223372036854775807 := by have h3 := hr.small; unfold maxLen at h3; omega
  have HL := Lib.hid hr.long
  clear hr
  have ha1 : Below w.heap.size w (w.alloc (.cells #[.int .u32 (id : Int), .int .i64 mem, .int .i64 chunk, .int .i64 rows, .int .i64 log, .int .i64 heads] 24)) := (Below.refl _ _).alloc (Nat.le_refl _) _
  have ha2 : Below (w.alloc (.cells #[.int .u32 (id : Int), .int .i64 mem, .int .i64 chunk, .int .i64 rows, .int .i64 log, .int .i64 heads] 24)).heap.size (w.alloc (.cells #[.int .u32 (id : Int), .int .i64 mem, .int .i64 chunk, .int .i64 rows, .int .i64 log, .int .i64 heads] 24)) ((w.alloc (.cells #[.int .u32 (id : Int), .int .i64 mem, .int .i64 chunk, .int .i64 rows, .int .i64 log, .int .i64 heads] 24)).alloc (.cells #[.int .u8 (k : Int), .int .i64 at_, .int .i64 many, .slice da dn dc] 32)) := (Below.refl _ _).alloc (Nat.le_refl _) _
  have B0 : Hid (Below w.heap.size w ((w.alloc (.cells #[.int .u32 (id : Int), .int .i64 mem, .int .i64 chunk, .int .i64 rows, .int .i64 log, .int .i64 heads] 24)).alloc (.cells #[.int .u8 (k : Int), .int .i64 at_, .int .i64 many, .slice da dn dc] 32))) := thence ha1 ha2 (Nat.le_refl _)
  have BX : Hid (Bx ((w.alloc (.cells #[.int .u32 (id : Int), .int .i64 mem, .int .i64 chunk, .int .i64 rows, .int .i64 log, .int .i64 heads] 24)).alloc (.cells #[.int .u8 (k : Int), .int .i64 at_, .int .i64 many, .slice da dn dc] 32)) w.heap.size [.int .u32 (id : Int), .int .i64 mem, .int .i64 chunk, .int .i64 rows, .int .i64 log, .int .i64 heads]) := (Bx.new w [.int .u32 (id : Int), .int .i64 mem, .int .i64 chunk, .int .i64 rows, .int .i64 log, .int .i64 heads] 24).here ha2
  have BY : Hid (Bx ((w.alloc (.cells #[.int .u32 (id : Int), .int .i64 mem, .int .i64 chunk, .int .i64 rows, .int .i64 log, .int .i64 heads] 24)).alloc (.cells #[.int .u8 (k : Int), .int .i64 at_, .int .i64 many, .slice da dn dc] 32)) (w.heap.size + 1) [.int .u8 (k : Int), .int .i64 at_, .int .i64 many, .slice da dn dc]) := by
    have h := Bx.new (w.alloc (.cells #[.int .u32 (id : Int), .int .i64 mem, .int .i64 chunk, .int .i64 rows, .int .i64 log, .int .i64 heads] 24)) [.int .u8 (k : Int), .int .i64 at_, .int .i64 many, .slice da dn dc] 32
    have e : (w.alloc (.cells #[.int .u32 (id : Int), .int .i64 mem, .int .i64 chunk, .int .i64 rows, .int .i64 log, .int .i64 heads] 24)).heap.size = w.heap.size + 1 := by simp
    rw [e] at h
    exact h
  clear ha1 ha2
  have CA := Lib.hid (alive8_any I)
  have C1 := Lib.hid (I.check id mem chunk rows log heads k at_ many da dn dc)
  have CK := Lib.hid (fun da dn dc => I.check id mem chunk rows log heads k at_ many da dn dc)
  obtain ⟨q1, hq1⟩ : ∃ q, QK.code ⟨id, mem, chunk, rows, log, heads⟩ k at_ many dn = q := ⟨_, rfl⟩
  rw [hq1] at C1
  by_cases g1 : 5000 < dn
  · have i1 : (5000 : Int) < (dn : Int) := by omega
    clear g1 hq1
    go_enter Try.func8, Try.ntmps8
    go_wp2_with fail
    (with_reducible refine (CA.out _).mono ?_)
    rintro e w1 ⟨rfl, b1⟩
    replace BX := Lib.hid (BX.out.here b1)
    replace BY := Lib.hid (BY.out.here b1)
    have B1 := Lib.hid (thence B0.out b1 (Nat.le_refl _))
    clear b1 B0
    obtain ⟨c0, c1, c2, c3, c4, c5⟩ := BX.out.six
    have ltBX := BX.out.lt
    obtain ⟨y0, y1, y2, y3⟩ := BY.out.four
    have ltBY := BY.out.lt
    go_wp2_with fail
    go_ret
    exact ⟨rfl, B1.out⟩
  have i1 : ¬ (5000 : Int) < (dn : Int) := by omega
  by_cases g3 : q1 = 0
  case neg =>
    have t0 : ((q1 : Int) == 0) = false := beq_eq_false_iff_ne.2 (by omega)
    have t1 : ((q1 : Int) != 0) = true := by rw [bne, t0]; rfl
    clear g1 g3 hq1
    go_enter Try.func8, Try.ntmps8
    go_wp2_with fail
    (with_reducible refine (CA.out _).mono ?_)
    rintro e w1 ⟨rfl, b1⟩
    replace BX := Lib.hid (BX.out.here b1)
    replace BY := Lib.hid (BY.out.here b1)
    have B1 := Lib.hid (thence B0.out b1 (Nat.le_refl _))
    clear b1 B0
    obtain ⟨c0, c1, c2, c3, c4, c5⟩ := BX.out.six
    have ltBX := BX.out.lt
    obtain ⟨y0, y1, y2, y3⟩ := BY.out.four
    have ltBY := BY.out.lt
    go_wp2_with fail
    (with_reducible refine (C1.out _).mono ?_)
    rintro e w2 ⟨rfl, b2⟩
    clear c0 c1 c2 c3 c4 c5 y0 y1 y2 y3 ltBX ltBY
    replace BX := Lib.hid (BX.out.here b2)
    replace BY := Lib.hid (BY.out.here b2)
    have B2 := Lib.hid (thence B1.out b2 (Nat.le_refl _))
    clear b2 B1
    obtain ⟨c0, c1, c2, c3, c4, c5⟩ := BX.out.six
    have ltBX := BX.out.lt
    obtain ⟨y0, y1, y2, y3⟩ := BY.out.four
    have ltBY := BY.out.lt
    go_wp2_with fail
    go_ret
    exact ⟨rfl, B2.out⟩
  subst g3
  have p1 := QK.code_iff.1 hq1
  have CM : Hid (∀ (da : Option Addr) (n dc : Nat) (w1 : World), n ≠ dn → Calls Try.prog 13 #[.agg #[.int .u32 (id : Int), .int .i64 mem, .int .i64 chunk, .int .i64 rows, .int .i64 log, .int .i64 heads], .agg #[.int .u8 (k : Int), .int .i64 at_, .int .i64 many, .slice da n dc]] w1 fun e w' => e = .returned (.int .i64 3) ∧ Below w1.heap.size w1 w') := fun da n dc w1 hn => by
    have := CK.out da n dc w1
    rw [QK.code_other p1 hn] at this
    exact this
  clear p1 hq1 CK
  go_enter Try.func8, Try.ntmps8
  go_wp2_with fail
  (with_reducible refine (CA.out _).mono ?_)
  rintro e w1 ⟨rfl, b1⟩
  replace BX := Lib.hid (BX.out.here b1)
  replace BY := Lib.hid (BY.out.here b1)
  have B1 := Lib.hid (thence B0.out b1 (Nat.le_refl _))
  clear b1 B0
  obtain ⟨c0, c1, c2, c3, c4, c5⟩ := BX.out.six
  have ltBX := BX.out.lt
  obtain ⟨y0, y1, y2, y3⟩ := BY.out.four
  have ltBY := BY.out.lt
  go_wp2_with fail
  (with_reducible refine (C1.out _).mono ?_)
  rintro e w2 ⟨rfl, b2⟩
  clear c0 c1 c2 c3 c4 c5 y0 y1 y2 y3 ltBX ltBY
  replace BX := Lib.hid (BX.out.here b2)
  replace BY := Lib.hid (BY.out.here b2)
  have B2 := Lib.hid (thence B1.out b2 (Nat.le_refl _))
  clear b2 B1
  obtain ⟨c0, c1, c2, c3, c4, c5⟩ := BX.out.six
  have ltBX := BX.out.lt
  obtain ⟨y0, y1, y2, y3⟩ := BY.out.four
  have ltBY := BY.out.lt
  go_wp2_with fail
  refine wp_region_noPanic ?_
  refine PX.wp_region_y (fun w' => Below w2.heap.size w2 w') [] (by kernel_rfl) (Below.refl _ _).drew (fun hHeld => ?_)
  refine PX.wpAnyY_take (i := 0) (oi := ?_) (v := ?_) ?_ (by kernel_rfl) (by kernel_rfl) (by kernel_rfl) (by kernel_rfl) (by kernel_rfl) (fun _ _ _ h => h) (Or.inl ⟨?_, ?_⟩) (by assumption) ?_
  rotate_left 2
  · simp only [List.getElem?_toArray, List.getElem?_cons_succ, List.getElem?_cons_zero]; rfl
  · rfl
  · intro w hSw; (try dsimp only at hSw); have hC := fun (b o : Nat) (h : b < w2.heap.size) => Below.cell hSw (p := ⟨b, o, none⟩) h; go_simp <;> with_reducible rfl
  (try simp only [Act.put, List.setIfInBounds_toArray, List.set_cons_zero, List.set_cons_succ])
  refine PX.wpAnyY_take (i := 1) (oi := ?_) (v := ?_) ?_ (by kernel_rfl) (by kernel_rfl) (by kernel_rfl) (by kernel_rfl) (by kernel_rfl) (fun _ _ _ h => h) (Or.inl ⟨?_, ?_⟩) (by assumption) ?_
  rotate_left 2
  · simp only [List.getElem?_toArray, List.getElem?_cons_succ, List.getElem?_cons_zero]; rfl
  · rfl
  · intro w hSw; (try dsimp only at hSw); have hC := fun (b o : Nat) (h : b < w2.heap.size) => Below.cell hSw (p := ⟨b, o, none⟩) h; go_simp <;> with_reducible rfl
  (try simp only [Act.put, List.setIfInBounds_toArray, List.set_cons_zero, List.set_cons_succ])
  refine PX.wpAnyY_two (i := 2) (j := 3) (o := ?_) (o' := ?_) (by kernel_rfl) ?_ ?_ (fun Kq hKq => ?_) (fun Kq hKq => ?_)
  rotate_left 2
  · simp only [List.getElem?_toArray, List.getElem?_cons_succ, List.getElem?_cons_zero]; rfl
  · simp only [List.getElem?_toArray, List.getElem?_cons_succ, List.getElem?_cons_zero]; rfl
  · go_simp
    refine hKq.out _ _ (by repeat (first | exact hHeld | exact Below.refl _ _ | refine Below.setCell ?_ (by simp) _ | refine Below.alloc ?_ (by simp) _ | refine Below.drew ?_)) (fun hHeld => ?_)
    clear hKq Kq
    (try simp only [Act.put, List.setIfInBounds_toArray, List.set_cons_zero, List.set_cons_succ])
    refine PX.wpAnyY_one (i := 3) (o := ?_) (by kernel_rfl) ?_ (fun Kq hKq => ?_)
    rotate_left
    · simp only [List.getElem?_toArray, List.getElem?_cons_succ, List.getElem?_cons_zero]; rfl
    go_simp
    refine hKq.out _ _ (by repeat (first | exact hHeld | exact Below.refl _ _ | refine Below.setCell ?_ (by simp) _ | refine Below.alloc ?_ (by simp) _ | refine Below.drew ?_)) (fun hHeld => ?_)
    clear hKq Kq
    (try simp only [Act.put, List.setIfInBounds_toArray, List.set_cons_zero, List.set_cons_succ])
    refine PX.wpAnyY_one (i := 4) (o := ?_) (by kernel_rfl) ?_ (fun Kq hKq => ?_)
    rotate_left
    · simp only [List.getElem?_toArray, List.getElem?_cons_succ, List.getElem?_cons_zero]; rfl
    go_simp
    refine hKq.out _ _ (by repeat (first | exact hHeld | exact Below.refl _ _ | refine Below.setCell ?_ (by simp) _ | refine Below.alloc ?_ (by simp) _ | refine Below.drew ?_)) (fun hHeld => ?_)
    clear hKq Kq
    (try simp only [Act.put, List.setIfInBounds_toArray, List.set_cons_zero, List.set_cons_succ])
    refine PX.wpAnyY_one (i := 5) (o := ?_) (by kernel_rfl) ?_ (fun Kq hKq => ?_)
    rotate_left
    · simp only [List.getElem?_toArray, List.getElem?_cons_succ, List.getElem?_cons_zero]; rfl
    go_simp
    refine hKq.out _ _ (by repeat (first | exact hHeld | exact Below.refl _ _ | refine Below.setCell ?_ (by simp) _ | refine Below.alloc ?_ (by simp) _ | refine Below.drew ?_)) (fun hHeld => ?_)
    clear hKq Kq
    (try simp only [Act.put, List.setIfInBounds_toArray, List.set_cons_zero, List.set_cons_succ])
    refine PX.wpAnyY_done (by kernel_rfl) ?_ _
    refine NoPanic.normal ?_
    clear hHeld
    have hb1 : Below w2.heap.size w2 (w2.alloc (.cells #[.int .u8 (k : Int), .int .i64 at_, .int .i64 many, .slice da dn dc] 32)) := (Below.refl _ _).alloc (Nat.le_refl _) _
    have hb2 : Below (w2.alloc (.cells #[.int .u8 (k : Int), .int .i64 at_, .int .i64 many, .slice da dn dc] 32)).heap.size (w2.alloc (.cells #[.int .u8 (k : Int), .int .i64 at_, .int .i64 many, .slice da dn dc] 32)) ((w2.alloc (.cells #[.int .u8 (k : Int), .int .i64 at_, .int .i64 many, .slice da dn dc] 32)).alloc (.cells #[.int .u8 (k : Int), .int .i64 at_, .int .i64 many, .slice da dn dc] 32)).drew := ((Below.refl _ _).alloc (Nat.le_refl _) _).drew
    have HB3 : Hid (Below w2.heap.size w2 ((w2.alloc (.cells #[.int .u8 (k : Int), .int .i64 at_, .int .i64 many, .slice da dn dc] 32)).alloc (.cells #[.int .u8 (k : Int), .int .i64 at_, .int .i64 many, .slice da dn dc] 32)).drew) := thence hb1 hb2 (Nat.le_refl _)
    have BP : Hid (Bx ((w2.alloc (.cells #[.int .u8 (k : Int), .int .i64 at_, .int .i64 many, .slice da dn dc] 32)).alloc (.cells #[.int .u8 (k : Int), .int .i64 at_, .int .i64 many, .slice da dn dc] 32)).drew w2.heap.size [.int .u8 (k : Int), .int .i64 at_, .int .i64 many, .slice da dn dc]) := (Bx.new w2 [.int .u8 (k : Int), .int .i64 at_, .int .i64 many, .slice da dn dc] 32).here hb2
    have BQ : Hid (Bx ((w2.alloc (.cells #[.int .u8 (k : Int), .int .i64 at_, .int .i64 many, .slice da dn dc] 32)).alloc (.cells #[.int .u8 (k : Int), .int .i64 at_, .int .i64 many, .slice da dn dc] 32)).drew (w2.heap.size + 1) [.int .u8 (k : Int), .int .i64 at_, .int .i64 many, .slice da dn dc]) := by
      have h := (Bx.new (w2.alloc (.cells #[.int .u8 (k : Int), .int .i64 at_, .int .i64 many, .slice da dn dc] 32)) [.int .u8 (k : Int), .int .i64 at_, .int .i64 many, .slice da dn dc] 32).drew
      have e : (w2.alloc (.cells #[.int .u8 (k : Int), .int .i64 at_, .int .i64 many, .slice da dn dc] 32)).heap.size = w2.heap.size + 1 := by simp
      rw [e] at h
      exact h
    have HS2 : Hid (w.heap.size + 1 < w2.heap.size) := BY.out.lt
    clear hb1 hb2 c0 c1 c2 c3 c4 c5 y0 y1 y2 y3 ltBX ltBY
    have BX3 := Lib.hid (BX.out.here HB3.out)
    have BY3 := Lib.hid (BY.out.here HB3.out)
    have RL := Lib.hid (((HR.out.below (B2.out)).mono B2.out.size).here HB3.out)
    clear BX BY
    have HB3' := Lib.hid (thence B2.out HB3.out (Nat.le_refl _))
    generalize ((w2.alloc (.cells #[.int .u8 (k : Int), .int .i64 at_, .int .i64 many, .slice da dn dc] 32)).alloc (.cells #[.int .u8 (k : Int), .int .i64 at_, .int .i64 many, .slice da dn dc] 32)).drew = W3 at *
    generalize w2.heap.size = ga at *
    have hl : l.length ≤ 5000 := by rw [← HL.out]; omega
    obtain ⟨v4, W4, r4, o4, g4, q4⟩ := append_bytes W3 W3.heap.size _ [] (own_nil _ _) _ da dn dc l RL.out (by simp; omega) (Nat.le_refl _)
    rw [List.nil_append] at o4
    have b4 : Below W3.heap.size W3 W4 := (Below.refl _ _).grown g4 (Nat.le_refl _) (by simp [Value.ownBlock])
    have b5 : Below W4.heap.size W4 (W4.alloc (.cells #[.int .u8 0] 5)) := (Below.refl _ _).alloc (Nat.le_refl _) _
    have rz : Rd (W4.alloc (.cells #[.int .u8 0] 5)).heap.size (W4.alloc (.cells #[.int .u8 0] 5)) (some ⟨W4.heap.size, 0, none⟩) 1 1 [0] := rd_lit W4 [0] #[.int .u8 0] 1 1 (0, 0) rfl rfl rfl (by intro x hx; simp at hx; omega) (by unfold maxLen; decide)
    obtain ⟨v6, W6, r6, o6, g6, q6⟩ := append_bytes (W4.alloc (.cells #[.int .u8 0] 5)) W3.heap.size v4 l (ownsRow_grown o4 b5) _ _ 1 1 [0] rz (by simp; omega) (Nat.le_trans b4.size b5.size)
    have hv4 := o4.rd RL.out.byt
    obtain ⟨a4, cp4, rfl, -⟩ := hv4
    have hv6 := o6.rd (by intro x hx; rcases List.mem_append.1 hx with hx | hx; exact RL.out.byt x hx; simp at hx; omega)
    obtain ⟨a6, cp6, rfl, -⟩ := hv6
    have b6 : Below W3.heap.size W3 W6 := (thence b4 b5 (Nat.le_refl _)).grown g6 (Nat.le_trans b4.size b5.size) (fun k hk => by
      have := World.ownsRow.lt o4 k hk
      exact this.1)
    have e6 : (l ++ [0]).length = dn + 1 := by rw [List.length_append, ← HL.out]; rfl
    rw [e6] at r6
    rw [← HL.out] at r4 r6
    have R4 := Lib.hid r4
    have R6 := Lib.hid r6
    have B6 := Lib.hid b6
    clear r4 r6 o4 o6 g4 g6 q4 q6 b4 b5 b6 rz e6 hl
    obtain ⟨c0, c1, c2, c3, c4, c5⟩ := BX3.out.six
    obtain ⟨y0, y1, y2, y3⟩ := BY3.out.four
    have BX6 := Lib.hid (BX3.out.here B6.out)
    have BY6 := Lib.hid (BY3.out.here B6.out)
    have BM := Lib.hid (BP.out.here B6.out)
    have BN := Lib.hid (BQ.out.here B6.out)
    have hg1 : w.heap.size + 1 < ga := HS2.out
    have ne1 : ¬ w.heap.size = ga := by omega
    have ne2 : ¬ w.heap.size + 1 = ga := by omega
    have ne3 : ¬ ga = w.heap.size := by omega
    have ne4 : ¬ ga = w.heap.size + 1 := by omega
    obtain ⟨d0, d1, d2, d3, d4, d5⟩ := BX6.out.six
    obtain ⟨x0, x1, x2, x3⟩ := BY6.out.four
    obtain ⟨m0, m1, m2, m3⟩ := BM.out.four
    obtain ⟨n0, n1, n2, n3⟩ := BN.out.four
    have fm := BM.out.frozen 3
    have fn := BN.out.frozen 3
    have HF0 := Lib.hid (thence HB3'.out B6.out (Nat.le_refl _))
    have hgm : w.heap.size ≤ ga := by omega
    have hgl : w.heap.size ≤ (ga + 1) := by omega
    have HF1 : Hid (∀ v, Below w.heap.size w (W6.setCell ⟨ga, 3, none⟩ v)) := fun v => HF0.out.setCell (p := ⟨ga, 3, none⟩) hgm _
    have HF2 : Hid (∀ v u, Below w.heap.size w ((W6.setCell ⟨ga, 3, none⟩ v).setCell ⟨(ga + 1), 3, none⟩ u)) := fun v u => (HF1.out v).setCell (p := ⟨(ga + 1), 3, none⟩) hgl _
    have CMM := Lib.hid (fun w1 => CM.out a6 (dn + 1) cp6 w1 (by omega))
    by_cases hz : dn = 0
    · have z1 : ¬ (0 : Int) < (dn : Int) := by omega
      have z2 : ((dn : Int) == 0) = true := beq_iff_eq.2 (by omega)
      clear hz
      go_wp2_with (first | (at_builtin; refine wpList_append_run rfl _ _ _ _ rfl R4.out ?_) | (at_builtin; refine wpList_append_run rfl _ _ _ _ rfl R6.out ?_))
      have BY7 := Lib.hid (BY6.out.other ⟨ga, 3, none⟩ (by show ga ≠ w.heap.size + 1; omega) (.slice a6 (dn + 1) cp6))
      refine (CMM.out _).mono ?_
      rintro e w8 ⟨rfl, b8⟩
      have B8 := Lib.hid (thence (HF1.out _) b8 (Nat.le_refl _))
      have BY8 := Lib.hid (BY7.out.here b8)
      clear b8 x0 x1 x2 x3
      obtain ⟨x0, x1, x2, x3⟩ := BY8.out.four
      go_wp2_with fail
      go_ret
      exact ⟨rfl, B8.out⟩
    · have z1 : (0 : Int) < (dn : Int) := by omega
      have z2 : ((dn : Int) == 0) = false := beq_eq_false_iff_ne.2 (by omega)
      have z3 : (1 : Int) ≤ (dn : Int) := by omega
      have z4 : (1 : Int) ≤ (dc : Int) := by omega
      have z5 : (dn : Int) ≤ (dc : Int) := by omega
      obtain ⟨b, off, rfl, -, -⟩ := RL.out.cells (by intro e; subst e; have := HL.out; simp at this; omega)
      clear hz
      by_cases hc1 : dc = 1
      · subst hc1
        go_wp2_with (first | (at_builtin; refine wpList_append_run rfl _ _ _ _ rfl R4.out ?_) | (at_builtin; refine wpList_append_run rfl _ _ _ _ rfl R6.out ?_))
        have BY7 := Lib.hid ((BY6.out.other ⟨ga, 3, none⟩ (by show ga ≠ w.heap.size + 1; omega) (.slice a6 (dn + 1) cp6)).other ⟨(ga + 1), 3, none⟩ (by show (ga + 1) ≠ w.heap.size + 1; omega) (.slice (some ⟨b, off, none⟩) 0 0))
        have BX7 := Lib.hid ((BX6.out.other ⟨ga, 3, none⟩ (by show ga ≠ w.heap.size; omega) (.slice a6 (dn + 1) cp6)).other ⟨(ga + 1), 3, none⟩ (by show (ga + 1) ≠ w.heap.size; omega) (.slice (some ⟨b, off, none⟩) 0 0))
        have BL7 : Hid (Bx ((W6.setCell ⟨ga, 3, none⟩ (.slice a6 (dn + 1) cp6)).setCell ⟨(ga + 1), 3, none⟩ (.slice (some ⟨b, off, none⟩) 0 0)) (ga + 1) [.int .u8 (k : Int), .int .i64 at_, .int .i64 many, .slice (some ⟨b, off, none⟩) 0 0]) := (BN.out.other ⟨ga, 3, none⟩ (by show ga ≠ (ga + 1); omega) (.slice a6 (dn + 1) cp6)).set 3 _
        refine (CMM.out _).mono ?_
        rintro e w8 ⟨rfl, b8⟩
        have B8 := Lib.hid (thence (HF2.out _ _) b8 (Nat.le_refl _))
        have BY8 := Lib.hid (BY7.out.here b8)
        have BX8 := Lib.hid (BX7.out.here b8)
        have BL8 := Lib.hid (BL7.out.here b8)
        clear b8 x0 x1 x2 x3 d0 d1 d2 d3 d4 d5 n0 n1 n2 n3 m0 m1 m2 m3 c0 c1 c2 c3 c4 c5 y0 y1 y2 y3
        obtain ⟨x0, x1, x2, x3⟩ := BY8.out.four
        obtain ⟨d0, d1, d2, d3, d4, d5⟩ := BX8.out.six
        obtain ⟨n0, n1, n2, n3⟩ := BL8.out.four
        go_wp2_with fail
        refine (CM.out _ _ _ _ (by omega)).mono ?_
        rintro e w9 ⟨rfl, b9⟩
        have B9 := Lib.hid (thence B8.out b9 (Nat.le_refl _))
        clear b9
        go_wp2_with fail
        go_ret
        exact ⟨rfl, B9.out⟩
      · go_wp2_with (first | (at_builtin; refine wpList_append_run rfl _ _ _ _ rfl R4.out ?_) | (at_builtin; refine wpList_append_run rfl _ _ _ _ rfl R6.out ?_))
        have BY7 := Lib.hid ((BY6.out.other ⟨ga, 3, none⟩ (by show ga ≠ w.heap.size + 1; omega) (.slice a6 (dn + 1) cp6)).other ⟨(ga + 1), 3, none⟩ (by show (ga + 1) ≠ w.heap.size + 1; omega) (.slice (some ⟨b, off + 1, none⟩) (dn - 1) (dc - 1)))
        have BX7 := Lib.hid ((BX6.out.other ⟨ga, 3, none⟩ (by show ga ≠ w.heap.size; omega) (.slice a6 (dn + 1) cp6)).other ⟨(ga + 1), 3, none⟩ (by show (ga + 1) ≠ w.heap.size; omega) (.slice (some ⟨b, off + 1, none⟩) (dn - 1) (dc - 1)))
        have BL7 : Hid (Bx ((W6.setCell ⟨ga, 3, none⟩ (.slice a6 (dn + 1) cp6)).setCell ⟨(ga + 1), 3, none⟩ (.slice (some ⟨b, off + 1, none⟩) (dn - 1) (dc - 1))) (ga + 1) [.int .u8 (k : Int), .int .i64 at_, .int .i64 many, .slice (some ⟨b, off + 1, none⟩) (dn - 1) (dc - 1)]) := (BN.out.other ⟨ga, 3, none⟩ (by show ga ≠ (ga + 1); omega) (.slice a6 (dn + 1) cp6)).set 3 _
        refine (CMM.out _).mono ?_
        rintro e w8 ⟨rfl, b8⟩
        have B8 := Lib.hid (thence (HF2.out _ _) b8 (Nat.le_refl _))
        have BY8 := Lib.hid (BY7.out.here b8)
        have BX8 := Lib.hid (BX7.out.here b8)
        have BL8 := Lib.hid (BL7.out.here b8)
        clear b8 x0 x1 x2 x3 d0 d1 d2 d3 d4 d5 n0 n1 n2 n3 m0 m1 m2 m3 c0 c1 c2 c3 c4 c5 y0 y1 y2 y3
        obtain ⟨x0, x1, x2, x3⟩ := BY8.out.four
        obtain ⟨d0, d1, d2, d3, d4, d5⟩ := BX8.out.six
        obtain ⟨n0, n1, n2, n3⟩ := BL8.out.four
        go_wp2_with fail
        refine (CM.out _ _ _ _ (by omega)).mono ?_
        rintro e w9 ⟨rfl, b9⟩
        have B9 := Lib.hid (thence B8.out b9 (Nat.le_refl _))
        clear b9
        go_wp2_with fail
        go_ret
        exact ⟨rfl, B9.out⟩
  · go_simp
    refine hKq.out _ _ (by repeat (first | exact hHeld | exact Below.refl _ _ | refine Below.setCell ?_ (by simp) _ | refine Below.alloc ?_ (by simp) _ | refine Below.drew ?_)) (fun hHeld => ?_)
    clear hKq Kq
    (try simp only [Act.put, List.setIfInBounds_toArray, List.set_cons_zero, List.set_cons_succ])
    refine PX.wpAnyY_one (i := 2) (o := ?_) (by kernel_rfl) ?_ (fun Kq hKq => ?_)
    rotate_left
    · simp only [List.getElem?_toArray, List.getElem?_cons_succ, List.getElem?_cons_zero]; rfl
    go_simp
    refine hKq.out _ _ (by repeat (first | exact hHeld | exact Below.refl _ _ | refine Below.setCell ?_ (by simp) _ | refine Below.alloc ?_ (by simp) _ | refine Below.drew ?_)) (fun hHeld => ?_)
    clear hKq Kq
    (try simp only [Act.put, List.setIfInBounds_toArray, List.set_cons_zero, List.set_cons_succ])
    refine PX.wpAnyY_one (i := 4) (o := ?_) (by kernel_rfl) ?_ (fun Kq hKq => ?_)
    rotate_left
    · simp only [List.getElem?_toArray, List.getElem?_cons_succ, List.getElem?_cons_zero]; rfl
    go_simp
    refine hKq.out _ _ (by repeat (first | exact hHeld | exact Below.refl _ _ | refine Below.setCell ?_ (by simp) _ | refine Below.alloc ?_ (by simp) _ | refine Below.drew ?_)) (fun hHeld => ?_)
    clear hKq Kq
    (try simp only [Act.put, List.setIfInBounds_toArray, List.set_cons_zero, List.set_cons_succ])
    refine PX.wpAnyY_one (i := 5) (o := ?_) (by kernel_rfl) ?_ (fun Kq hKq => ?_)
    rotate_left
    · simp only [List.getElem?_toArray, List.getElem?_cons_succ, List.getElem?_cons_zero]; rfl
    go_simp
    refine hKq.out _ _ (by repeat (first | exact hHeld | exact Below.refl _ _ | refine Below.setCell ?_ (by simp) _ | refine Below.alloc ?_ (by simp) _ | refine Below.drew ?_)) (fun hHeld => ?_)
    clear hKq Kq
    (try simp only [Act.put, List.setIfInBounds_toArray, List.set_cons_zero, List.set_cons_succ])
    refine PX.wpAnyY_done (by kernel_rfl) ?_ _
    refine NoPanic.normal ?_
    clear hHeld
    have hb1 : Below w2.heap.size w2 (w2.alloc (.cells #[.int .u8 (k : Int), .int .i64 at_, .int .i64 many, .slice da dn dc] 32)) := (Below.refl _ _).alloc (Nat.le_refl _) _
    have hb2 : Below (w2.alloc (.cells #[.int .u8 (k : Int), .int .i64 at_, .int .i64 many, .slice da dn dc] 32)).heap.size (w2.alloc (.cells #[.int .u8 (k : Int), .int .i64 at_, .int .i64 many, .slice da dn dc] 32)) ((w2.alloc (.cells #[.int .u8 (k : Int), .int .i64 at_, .int .i64 many, .slice da dn dc] 32)).alloc (.cells #[.int .u8 (k : Int), .int .i64 at_, .int .i64 many, .slice da dn dc] 32)).drew := ((Below.refl _ _).alloc (Nat.le_refl _) _).drew
    have HB3 : Hid (Below w2.heap.size w2 ((w2.alloc (.cells #[.int .u8 (k : Int), .int .i64 at_, .int .i64 many, .slice da dn dc] 32)).alloc (.cells #[.int .u8 (k : Int), .int .i64 at_, .int .i64 many, .slice da dn dc] 32)).drew) := thence hb1 hb2 (Nat.le_refl _)
    have BP : Hid (Bx ((w2.alloc (.cells #[.int .u8 (k : Int), .int .i64 at_, .int .i64 many, .slice da dn dc] 32)).alloc (.cells #[.int .u8 (k : Int), .int .i64 at_, .int .i64 many, .slice da dn dc] 32)).drew w2.heap.size [.int .u8 (k : Int), .int .i64 at_, .int .i64 many, .slice da dn dc]) := (Bx.new w2 [.int .u8 (k : Int), .int .i64 at_, .int .i64 many, .slice da dn dc] 32).here hb2
    have BQ : Hid (Bx ((w2.alloc (.cells #[.int .u8 (k : Int), .int .i64 at_, .int .i64 many, .slice da dn dc] 32)).alloc (.cells #[.int .u8 (k : Int), .int .i64 at_, .int .i64 many, .slice da dn dc] 32)).drew (w2.heap.size + 1) [.int .u8 (k : Int), .int .i64 at_, .int .i64 many, .slice da dn dc]) := by
      have h := (Bx.new (w2.alloc (.cells #[.int .u8 (k : Int), .int .i64 at_, .int .i64 many, .slice da dn dc] 32)) [.int .u8 (k : Int), .int .i64 at_, .int .i64 many, .slice da dn dc] 32).drew
      have e : (w2.alloc (.cells #[.int .u8 (k : Int), .int .i64 at_, .int .i64 many, .slice da dn dc] 32)).heap.size = w2.heap.size + 1 := by simp
      rw [e] at h
      exact h
    have HS2 : Hid (w.heap.size + 1 < w2.heap.size) := BY.out.lt
    clear hb1 hb2 c0 c1 c2 c3 c4 c5 y0 y1 y2 y3 ltBX ltBY
    have BX3 := Lib.hid (BX.out.here HB3.out)
    have BY3 := Lib.hid (BY.out.here HB3.out)
    have RL := Lib.hid (((HR.out.below (B2.out)).mono B2.out.size).here HB3.out)
    clear BX BY
    have HB3' := Lib.hid (thence B2.out HB3.out (Nat.le_refl _))
    generalize ((w2.alloc (.cells #[.int .u8 (k : Int), .int .i64 at_, .int .i64 many, .slice da dn dc] 32)).alloc (.cells #[.int .u8 (k : Int), .int .i64 at_, .int .i64 many, .slice da dn dc] 32)).drew = W3 at *
    generalize w2.heap.size = ga at *
    have hl : l.length ≤ 5000 := by rw [← HL.out]; omega
    obtain ⟨v4, W4, r4, o4, g4, q4⟩ := append_bytes W3 W3.heap.size _ [] (own_nil _ _) _ da dn dc l RL.out (by simp; omega) (Nat.le_refl _)
    rw [List.nil_append] at o4
    have b4 : Below W3.heap.size W3 W4 := (Below.refl _ _).grown g4 (Nat.le_refl _) (by simp [Value.ownBlock])
    have b5 : Below W4.heap.size W4 (W4.alloc (.cells #[.int .u8 0] 5)) := (Below.refl _ _).alloc (Nat.le_refl _) _
    have rz : Rd (W4.alloc (.cells #[.int .u8 0] 5)).heap.size (W4.alloc (.cells #[.int .u8 0] 5)) (some ⟨W4.heap.size, 0, none⟩) 1 1 [0] := rd_lit W4 [0] #[.int .u8 0] 1 1 (0, 0) rfl rfl rfl (by intro x hx; simp at hx; omega) (by unfold maxLen; decide)
    obtain ⟨v6, W6, r6, o6, g6, q6⟩ := append_bytes (W4.alloc (.cells #[.int .u8 0] 5)) W3.heap.size v4 l (ownsRow_grown o4 b5) _ _ 1 1 [0] rz (by simp; omega) (Nat.le_trans b4.size b5.size)
    have hv4 := o4.rd RL.out.byt
    obtain ⟨a4, cp4, rfl, -⟩ := hv4
    have hv6 := o6.rd (by intro x hx; rcases List.mem_append.1 hx with hx | hx; exact RL.out.byt x hx; simp at hx; omega)
    obtain ⟨a6, cp6, rfl, -⟩ := hv6
    have b6 : Below W3.heap.size W3 W6 := (thence b4 b5 (Nat.le_refl _)).grown g6 (Nat.le_trans b4.size b5.size) (fun k hk => by
      have := World.ownsRow.lt o4 k hk
      exact this.1)
    have e6 : (l ++ [0]).length = dn + 1 := by rw [List.length_append, ← HL.out]; rfl
    rw [e6] at r6
    rw [← HL.out] at r4 r6
    have R4 := Lib.hid r4
    have R6 := Lib.hid r6
    have B6 := Lib.hid b6
    clear r4 r6 o4 o6 g4 g6 q4 q6 b4 b5 b6 rz e6 hl
    obtain ⟨c0, c1, c2, c3, c4, c5⟩ := BX3.out.six
    obtain ⟨y0, y1, y2, y3⟩ := BY3.out.four
    have BX6 := Lib.hid (BX3.out.here B6.out)
    have BY6 := Lib.hid (BY3.out.here B6.out)
    have BM := Lib.hid (BQ.out.here B6.out)
    have BN := Lib.hid (BP.out.here B6.out)
    have hg1 : w.heap.size + 1 < ga := HS2.out
    have ne1 : ¬ w.heap.size = ga := by omega
    have ne2 : ¬ w.heap.size + 1 = ga := by omega
    have ne3 : ¬ ga = w.heap.size := by omega
    have ne4 : ¬ ga = w.heap.size + 1 := by omega
    obtain ⟨d0, d1, d2, d3, d4, d5⟩ := BX6.out.six
    obtain ⟨x0, x1, x2, x3⟩ := BY6.out.four
    obtain ⟨m0, m1, m2, m3⟩ := BM.out.four
    obtain ⟨n0, n1, n2, n3⟩ := BN.out.four
    have fm := BM.out.frozen 3
    have fn := BN.out.frozen 3
    have HF0 := Lib.hid (thence HB3'.out B6.out (Nat.le_refl _))
    have hgm : w.heap.size ≤ (ga + 1) := by omega
    have hgl : w.heap.size ≤ ga := by omega
    have HF1 : Hid (∀ v, Below w.heap.size w (W6.setCell ⟨(ga + 1), 3, none⟩ v)) := fun v => HF0.out.setCell (p := ⟨(ga + 1), 3, none⟩) hgm _
    have HF2 : Hid (∀ v u, Below w.heap.size w ((W6.setCell ⟨(ga + 1), 3, none⟩ v).setCell ⟨ga, 3, none⟩ u)) := fun v u => (HF1.out v).setCell (p := ⟨ga, 3, none⟩) hgl _
    have CMM := Lib.hid (fun w1 => CM.out a6 (dn + 1) cp6 w1 (by omega))
    by_cases hz : dn = 0
    · have z1 : ¬ (0 : Int) < (dn : Int) := by omega
      have z2 : ((dn : Int) == 0) = true := beq_iff_eq.2 (by omega)
      clear hz
      go_wp2_with (first | (at_builtin; refine wpList_append_run rfl _ _ _ _ rfl R4.out ?_) | (at_builtin; refine wpList_append_run rfl _ _ _ _ rfl R6.out ?_))
      have BY7 := Lib.hid (BY6.out.other ⟨(ga + 1), 3, none⟩ (by show (ga + 1) ≠ w.heap.size + 1; omega) (.slice a6 (dn + 1) cp6))
      refine (CMM.out _).mono ?_
      rintro e w8 ⟨rfl, b8⟩
      have B8 := Lib.hid (thence (HF1.out _) b8 (Nat.le_refl _))
      have BY8 := Lib.hid (BY7.out.here b8)
      clear b8 x0 x1 x2 x3
      obtain ⟨x0, x1, x2, x3⟩ := BY8.out.four
      go_wp2_with fail
      go_ret
      exact ⟨rfl, B8.out⟩
    · have z1 : (0 : Int) < (dn : Int) := by omega
      have z2 : ((dn : Int) == 0) = false := beq_eq_false_iff_ne.2 (by omega)
      have z3 : (1 : Int) ≤ (dn : Int) := by omega
      have z4 : (1 : Int) ≤ (dc : Int) := by omega
      have z5 : (dn : Int) ≤ (dc : Int) := by omega
      obtain ⟨b, off, rfl, -, -⟩ := RL.out.cells (by intro e; subst e; have := HL.out; simp at this; omega)
      clear hz
      by_cases hc1 : dc = 1
      · subst hc1
        go_wp2_with (first | (at_builtin; refine wpList_append_run rfl _ _ _ _ rfl R4.out ?_) | (at_builtin; refine wpList_append_run rfl _ _ _ _ rfl R6.out ?_))
        have BY7 := Lib.hid ((BY6.out.other ⟨(ga + 1), 3, none⟩ (by show (ga + 1) ≠ w.heap.size + 1; omega) (.slice a6 (dn + 1) cp6)).other ⟨ga, 3, none⟩ (by show ga ≠ w.heap.size + 1; omega) (.slice (some ⟨b, off, none⟩) 0 0))
        have BX7 := Lib.hid ((BX6.out.other ⟨(ga + 1), 3, none⟩ (by show (ga + 1) ≠ w.heap.size; omega) (.slice a6 (dn + 1) cp6)).other ⟨ga, 3, none⟩ (by show ga ≠ w.heap.size; omega) (.slice (some ⟨b, off, none⟩) 0 0))
        have BL7 : Hid (Bx ((W6.setCell ⟨(ga + 1), 3, none⟩ (.slice a6 (dn + 1) cp6)).setCell ⟨ga, 3, none⟩ (.slice (some ⟨b, off, none⟩) 0 0)) ga [.int .u8 (k : Int), .int .i64 at_, .int .i64 many, .slice (some ⟨b, off, none⟩) 0 0]) := (BN.out.other ⟨(ga + 1), 3, none⟩ (by show (ga + 1) ≠ ga; omega) (.slice a6 (dn + 1) cp6)).set 3 _
        refine (CMM.out _).mono ?_
        rintro e w8 ⟨rfl, b8⟩
        have B8 := Lib.hid (thence (HF2.out _ _) b8 (Nat.le_refl _))
        have BY8 := Lib.hid (BY7.out.here b8)
        have BX8 := Lib.hid (BX7.out.here b8)
        have BL8 := Lib.hid (BL7.out.here b8)
        clear b8 x0 x1 x2 x3 d0 d1 d2 d3 d4 d5 n0 n1 n2 n3 m0 m1 m2 m3 c0 c1 c2 c3 c4 c5 y0 y1 y2 y3
        obtain ⟨x0, x1, x2, x3⟩ := BY8.out.four
        obtain ⟨d0, d1, d2, d3, d4, d5⟩ := BX8.out.six
        obtain ⟨n0, n1, n2, n3⟩ := BL8.out.four
        go_wp2_with fail
        refine (CM.out _ _ _ _ (by omega)).mono ?_
        rintro e w9 ⟨rfl, b9⟩
        have B9 := Lib.hid (thence B8.out b9 (Nat.le_refl _))
        clear b9
        go_wp2_with fail
        go_ret
        exact ⟨rfl, B9.out⟩
      · go_wp2_with (first | (at_builtin; refine wpList_append_run rfl _ _ _ _ rfl R4.out ?_) | (at_builtin; refine wpList_append_run rfl _ _ _ _ rfl R6.out ?_))
        have BY7 := Lib.hid ((BY6.out.other ⟨(ga + 1), 3, none⟩ (by show (ga + 1) ≠ w.heap.size + 1; omega) (.slice a6 (dn + 1) cp6)).other ⟨ga, 3, none⟩ (by show ga ≠ w.heap.size + 1; omega) (.slice (some ⟨b, off + 1, none⟩) (dn - 1) (dc - 1)))
        have BX7 := Lib.hid ((BX6.out.other ⟨(ga + 1), 3, none⟩ (by show (ga + 1) ≠ w.heap.size; omega) (.slice a6 (dn + 1) cp6)).other ⟨ga, 3, none⟩ (by show ga ≠ w.heap.size; omega) (.slice (some ⟨b, off + 1, none⟩) (dn - 1) (dc - 1)))
        have BL7 : Hid (Bx ((W6.setCell ⟨(ga + 1), 3, none⟩ (.slice a6 (dn + 1) cp6)).setCell ⟨ga, 3, none⟩ (.slice (some ⟨b, off + 1, none⟩) (dn - 1) (dc - 1))) ga [.int .u8 (k : Int), .int .i64 at_, .int .i64 many, .slice (some ⟨b, off + 1, none⟩) (dn - 1) (dc - 1)]) := (BN.out.other ⟨(ga + 1), 3, none⟩ (by show (ga + 1) ≠ ga; omega) (.slice a6 (dn + 1) cp6)).set 3 _
        refine (CMM.out _).mono ?_
        rintro e w8 ⟨rfl, b8⟩
        have B8 := Lib.hid (thence (HF2.out _ _) b8 (Nat.le_refl _))
        have BY8 := Lib.hid (BY7.out.here b8)
        have BX8 := Lib.hid (BX7.out.here b8)
        have BL8 := Lib.hid (BL7.out.here b8)
        clear b8 x0 x1 x2 x3 d0 d1 d2 d3 d4 d5 n0 n1 n2 n3 m0 m1 m2 m3 c0 c1 c2 c3 c4 c5 y0 y1 y2 y3
        obtain ⟨x0, x1, x2, x3⟩ := BY8.out.four
        obtain ⟨d0, d1, d2, d3, d4, d5⟩ := BX8.out.six
        obtain ⟨n0, n1, n2, n3⟩ := BL8.out.four
        go_wp2_with fail
        refine (CM.out _ _ _ _ (by omega)).mono ?_
        rintro e w9 ⟨rfl, b9⟩
        have B9 := Lib.hid (thence B8.out b9 (Nat.le_refl _))
        clear b9
        go_wp2_with fail
        go_ret
        exact ⟨rfl, B9.out⟩
end Go.Proofs.Ytbhehicfenkbcaa.PW
