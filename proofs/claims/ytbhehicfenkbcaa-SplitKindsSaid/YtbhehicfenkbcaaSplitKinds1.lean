/-
  The walk of a law of layer 8 (SplitKinds), given what the program's calls answer.
-/
import Derived.Test.YtbhehicfenkbcaaSplitLaws
namespace Go.Proofs.Ytbhehicfenkbcaa.PW
open Go.RowKit
open SK (Cfg)
set_option linter.unusedVariables false
set_option linter.unusedSimpArgs false
set_option maxRecDepth 100000

set_option maxHeartbeats 4000000 in
theorem splitKinds_walk (I : SplitIs) (J : ShapeNum 20 (fun c => c.chunk * c.rows * (c.mem - 1))) (id : Nat) (mem chunk rows log heads : Int) (k : Nat) (at_ many : Int) (w : World) :
    Calls Try.prog 7 #[.agg #[.int .u32 (id : Int), .int .i64 mem, .int .i64 chunk, .int .i64 rows, .int .i64 log, .int .i64 heads], .int .u8 (k : Int), .int .i64 at_, .int .i64 many] w fun e w' => e = .returned (.bool true) ∧ Below w.heap.size w w' := by
  have B0 : Hid (Below w.heap.size w (w.alloc (.cells #[.int .u32 (id : Int), .int .i64 mem, .int .i64 chunk, .int .i64 rows, .int .i64 log, .int .i64 heads] 24))) := (Below.refl _ _).alloc (Nat.le_refl _) _
  have BX : Hid (Bx (w.alloc (.cells #[.int .u32 (id : Int), .int .i64 mem, .int .i64 chunk, .int .i64 rows, .int .i64 log, .int .i64 heads] 24)) w.heap.size [.int .u32 (id : Int), .int .i64 mem, .int .i64 chunk, .int .i64 rows, .int .i64 log, .int .i64 heads]) := Bx.new w [.int .u32 (id : Int), .int .i64 mem, .int .i64 chunk, .int .i64 rows, .int .i64 log, .int .i64 heads] 24
  have CA := Lib.hid (alive8_any I)
  have CB := Lib.hid (J id mem chunk rows log heads)
  have CK := Lib.hid (fun da dn dc => I.check id mem chunk rows log heads k at_ many da dn dc)
  by_cases o1 : many < 0
  · skip
    obtain ⟨q, hq⟩ : ∃ q, QK.code ⟨id, mem, chunk, rows, log, heads⟩ k at_ many 0 = q := ⟨_, rfl⟩
    have nq : ¬ q = 0 := fun e => by rw [e] at hq; have p := (QK.code_iff.1 hq).2.1; have := QK.placed_bd (QK.code_iff.1 hq).1 p; omega
    have CKO : Hid (∀ w1 : World, Calls Try.prog 13 #[.agg #[.int .u32 (id : Int), .int .i64 mem, .int .i64 chunk, .int .i64 rows, .int .i64 log, .int .i64 heads], .agg #[.int .u8 (k : Int), .int .i64 at_, .int .i64 many, .slice none 0 0]] w1 fun e w' => e = .returned (.int .i64 (q : Int)) ∧ Below w1.heap.size w1 w') := fun w1 => by have := CK.out none 0 0 w1; rw [hq] at this; exact this
    have t0 : ((q : Int) == 0) = false := beq_eq_false_iff_ne.2 (by omega)
    have t1 : ((q : Int) != 0) = true := by rw [bne, t0]; rfl
    obtain ⟨e8, he8⟩ : ∃ e, Cfg.code ⟨id, mem, chunk, rows, log, heads⟩ = e := ⟨_, rfl⟩
    obtain ⟨nb, hnb⟩ : ∃ n, (if Cfg.may ⟨id, mem, chunk, rows, log, heads⟩ = true then chunk * rows * (mem - 1) else 0) = n := ⟨_, rfl⟩
    dsimp only at CB
    rw [he8, hnb] at CB
    clear nq hq hnb he8
    go_enter Try.func7, Try.ntmps7
    go_wp2_with fail
    (with_reducible refine (CA.out _).mono ?_)
    rintro e w1 ⟨rfl, b1⟩
    replace BX := Lib.hid (BX.out.here b1)
    have B1 := Lib.hid (thence B0.out b1 (Nat.le_refl _))
    clear b1 B0
    obtain ⟨c0, c1, c2, c3, c4, c5⟩ := BX.out.six
    have ltBX := BX.out.lt
    go_wp2_with fail
    (with_reducible refine (CB.out _).mono ?_)
    rintro e w2 ⟨rfl, b2⟩
    clear c0 c1 c2 c3 c4 c5 ltBX
    replace BX := Lib.hid (BX.out.here b2)
    have B2 := Lib.hid (thence B1.out b2 (Nat.le_refl _))
    clear b2 B1
    obtain ⟨c0, c1, c2, c3, c4, c5⟩ := BX.out.six
    have ltBX := BX.out.lt
    go_wp2_with fail
    (with_reducible refine (CKO.out _).mono ?_)
    rintro e w3 ⟨rfl, b3⟩
    clear c0 c1 c2 c3 c4 c5 ltBX
    replace BX := Lib.hid (BX.out.here b3)
    have B3 := Lib.hid (thence B2.out b3 (Nat.le_refl _))
    clear b3 B2
    obtain ⟨c0, c1, c2, c3, c4, c5⟩ := BX.out.six
    have ltBX := BX.out.lt
    go_wp2_with fail
    go_ret
    exact ⟨rfl, B3.out⟩
  by_cases o2 : 8 < many
  · skip
    obtain ⟨q, hq⟩ : ∃ q, QK.code ⟨id, mem, chunk, rows, log, heads⟩ k at_ many 0 = q := ⟨_, rfl⟩
    have nq : ¬ q = 0 := fun e => by rw [e] at hq; have p := (QK.code_iff.1 hq).2.1; have := QK.placed_bd (QK.code_iff.1 hq).1 p; omega
    have CKO : Hid (∀ w1 : World, Calls Try.prog 13 #[.agg #[.int .u32 (id : Int), .int .i64 mem, .int .i64 chunk, .int .i64 rows, .int .i64 log, .int .i64 heads], .agg #[.int .u8 (k : Int), .int .i64 at_, .int .i64 many, .slice none 0 0]] w1 fun e w' => e = .returned (.int .i64 (q : Int)) ∧ Below w1.heap.size w1 w') := fun w1 => by have := CK.out none 0 0 w1; rw [hq] at this; exact this
    have t0 : ((q : Int) == 0) = false := beq_eq_false_iff_ne.2 (by omega)
    have t1 : ((q : Int) != 0) = true := by rw [bne, t0]; rfl
    obtain ⟨e8, he8⟩ : ∃ e, Cfg.code ⟨id, mem, chunk, rows, log, heads⟩ = e := ⟨_, rfl⟩
    obtain ⟨nb, hnb⟩ : ∃ n, (if Cfg.may ⟨id, mem, chunk, rows, log, heads⟩ = true then chunk * rows * (mem - 1) else 0) = n := ⟨_, rfl⟩
    dsimp only at CB
    rw [he8, hnb] at CB
    clear nq hq hnb he8
    go_enter Try.func7, Try.ntmps7
    go_wp2_with fail
    (with_reducible refine (CA.out _).mono ?_)
    rintro e w1 ⟨rfl, b1⟩
    replace BX := Lib.hid (BX.out.here b1)
    have B1 := Lib.hid (thence B0.out b1 (Nat.le_refl _))
    clear b1 B0
    obtain ⟨c0, c1, c2, c3, c4, c5⟩ := BX.out.six
    have ltBX := BX.out.lt
    go_wp2_with fail
    (with_reducible refine (CB.out _).mono ?_)
    rintro e w2 ⟨rfl, b2⟩
    clear c0 c1 c2 c3 c4 c5 ltBX
    replace BX := Lib.hid (BX.out.here b2)
    have B2 := Lib.hid (thence B1.out b2 (Nat.le_refl _))
    clear b2 B1
    obtain ⟨c0, c1, c2, c3, c4, c5⟩ := BX.out.six
    have ltBX := BX.out.lt
    go_wp2_with fail
    (with_reducible refine (CKO.out _).mono ?_)
    rintro e w3 ⟨rfl, b3⟩
    clear c0 c1 c2 c3 c4 c5 ltBX
    replace BX := Lib.hid (BX.out.here b3)
    have B3 := Lib.hid (thence B2.out b3 (Nat.le_refl _))
    clear b3 B2
    obtain ⟨c0, c1, c2, c3, c4, c5⟩ := BX.out.six
    have ltBX := BX.out.lt
    go_wp2_with fail
    go_ret
    exact ⟨rfl, B3.out⟩
  have CAS : Hid (∀ w1 : World, Calls Try.prog 11 #[.int .u8 (k : Int), .int .i64 at_, .int .i64 many] w1 (NewAsk w1 k at_ many)) := fun w1 => ask8_any k at_ many w1 (.inr (by omega))
  by_cases hm : Cfg.may ⟨id, mem, chunk, rows, log, heads⟩ = true
  case neg =>
    have hf : Cfg.may ⟨id, mem, chunk, rows, log, heads⟩ = false := by simpa using hm
    have CKV : Hid (∀ (da : Option Addr) (dn dc : Nat) (w1 : World), (dn : Int) = QK.need k many → Calls Try.prog 13 #[.agg #[.int .u32 (id : Int), .int .i64 mem, .int .i64 chunk, .int .i64 rows, .int .i64 log, .int .i64 heads], .agg #[.int .u8 (k : Int), .int .i64 at_, .int .i64 many, .slice da dn dc]] w1 fun e w' => e = .returned (.int .i64 8) ∧ Below w1.heap.size w1 w') := fun da dn dc w1 hn => by have := CK.out da dn dc w1; rw [QK.code_of hn, if_neg hm] at this; exact this
    have hc : Cfg.code ⟨id, mem, chunk, rows, log, heads⟩ = 8 := SK.code_no hf
    dsimp only at CB
    rw [hc, if_neg hm] at CB
    clear hm hf hc CK
    go_enter Try.func7, Try.ntmps7
    go_wp2_with fail
    (with_reducible refine (CA.out _).mono ?_)
    rintro e w1 ⟨rfl, b1⟩
    replace BX := Lib.hid (BX.out.here b1)
    have B1 := Lib.hid (thence B0.out b1 (Nat.le_refl _))
    clear b1 B0
    obtain ⟨c0, c1, c2, c3, c4, c5⟩ := BX.out.six
    have ltBX := BX.out.lt
    go_wp2_with fail
    (with_reducible refine (CB.out _).mono ?_)
    rintro e w2 ⟨rfl, b2⟩
    clear c0 c1 c2 c3 c4 c5 ltBX
    replace BX := Lib.hid (BX.out.here b2)
    have B2 := Lib.hid (thence B1.out b2 (Nat.le_refl _))
    clear b2 B1
    obtain ⟨c0, c1, c2, c3, c4, c5⟩ := BX.out.six
    have ltBX := BX.out.lt
    have W3 := ltBX
    go_wp2_with fail
    refine wp_region_noPanic ?_
    refine PX.wp_region_y (fun w' => Below w2.heap.size w2 w') [6] (by kernel_rfl) (Below.refl _ _).drew (fun hHeld => ?_)
    refine PX.wpAnyY_take (i := 0) (oi := ?_) (v := ?_) ?_ (by kernel_rfl) (by kernel_rfl) (by kernel_rfl) (by kernel_rfl) (by kernel_rfl) (fun _ _ _ h => h) (Or.inl ⟨?_, ?_⟩) (by assumption) ?_
    rotate_left 2
    · simp only [List.getElem?_toArray, List.getElem?_cons_succ, List.getElem?_cons_zero]; rfl
    · rfl
    · intro w hSw; (try dsimp only at hSw); have hC := fun (b o : Nat) (h : b < w2.heap.size) => Below.cell hSw (p := ⟨b, o, none⟩) h; go_simp <;> with_reducible rfl
    (try simp only [Act.put, List.setIfInBounds_toArray, List.set_cons_zero, List.set_cons_succ])
    refine PX.wpAnyY_take (i := 1) (oi := ?_) (v := ?_) ?_ (by kernel_rfl) (by kernel_rfl) (by kernel_rfl) (by kernel_rfl) (by kernel_rfl) (fun _ _ _ h => h) (Or.inl ⟨?_, ?_⟩) (by assumption) ?_
    rotate_left 2
    · simp only [List.getElem?_toArray, List.getElem?_cons_succ, List.getElem?_cons_zero]; rfl
    · rfl
    · intro w hSw; (try dsimp only at hSw); go_simp <;> with_reducible rfl
    (try simp only [Act.put, List.setIfInBounds_toArray, List.set_cons_zero, List.set_cons_succ])
    refine PX.wpAnyY_take (i := 2) (oi := ?_) (v := ?_) ?_ (by kernel_rfl) (by kernel_rfl) (by kernel_rfl) (by kernel_rfl) (by kernel_rfl) (fun _ _ _ h => h) (Or.inl ⟨?_, ?_⟩) (by assumption) ?_
    rotate_left 2
    · simp only [List.getElem?_toArray, List.getElem?_cons_succ, List.getElem?_cons_zero]; rfl
    · rfl
    · intro w hSw; (try dsimp only at hSw); go_simp <;> with_reducible rfl
    (try simp only [Act.put, List.setIfInBounds_toArray, List.set_cons_zero, List.set_cons_succ])
    refine PX.wpAnyY_one (i := 3) (o := ?_) (by kernel_rfl) ?_ (fun Kq hKq => ?_)
    rotate_left
    · simp only [List.getElem?_toArray, List.getElem?_cons_succ, List.getElem?_cons_zero]; rfl
    go_simp
    refine hKq.out _ _ (hHeld) (fun hHeld => ?_)
    clear hKq Kq
    (try simp only [Act.put, List.setIfInBounds_toArray, List.set_cons_zero, List.set_cons_succ])
    refine PX.wpAnyY_one (i := 4) (o := ?_) (by kernel_rfl) ?_ (fun Kq hKq => ?_)
    rotate_left
    · simp only [List.getElem?_toArray, List.getElem?_cons_succ, List.getElem?_cons_zero]; rfl
    go_simp
    (with_reducible refine (CAS.out _).mono ?_)
    rintro e w3 ⟨da, dn, dc, rfl, hn, bqw3⟩
    have Hw3 := Lib.hid (thence hHeld bqw3 (Nat.le_refl _))
    have HN := Lib.hid hn
    clear bqw3
    go_wp2_with fail
    refine hKq.out _ _ (Hw3.out) (fun hHeld => ?_)
    clear hKq Kq
    (try simp only [Act.put, List.setIfInBounds_toArray, List.set_cons_zero, List.set_cons_succ])
    refine PX.wpAnyY_one (i := 5) (o := ?_) (by kernel_rfl) ?_ (fun Kq hKq => ?_)
    rotate_left
    · simp only [List.getElem?_toArray, List.getElem?_cons_succ, List.getElem?_cons_zero]; rfl
    go_simp
    (with_reducible refine (CKV.out _ _ _ _ HN.out).mono ?_)
    rintro e w4 ⟨rfl, bq4⟩
    have Hw4 := Lib.hid (thence Hw3.out bq4 (Nat.le_refl _))
    clear bq4
    go_wp2_with fail
    refine hKq.out _ _ (Hw4.out) (fun hHeld => ?_)
    clear hKq Kq
    (try simp only [Act.put, List.setIfInBounds_toArray, List.set_cons_zero, List.set_cons_succ])
    refine PX.wpAnyY_free (i := 6) (o := ?_) (by kernel_rfl) (by kernel_rfl) ?_ (fun Kq hKq => ?_)
    rotate_left
    · simp only [List.getElem?_toArray, List.getElem?_cons_succ, List.getElem?_cons_zero]; rfl
    go_simp
    refine hKq.out _ _ ?_
    clear hKq Kq
    (try simp only [Act.put, List.setIfInBounds_toArray, List.set_cons_zero, List.set_cons_succ])
    refine PX.wpAnyY_done (by kernel_rfl) ?_ _
    refine NoPanic.normal ?_
    have HE := Lib.hid (thence B2.out Hw4.out (Nat.le_refl _))
    clear hHeld hn
    go_wp2_with fail
    all_goals
      go_ret
      exact ⟨rfl, HE.out⟩
  have hc : Cfg.code ⟨id, mem, chunk, rows, log, heads⟩ = 0 := SK.code_yes hm
  have hb := SK.blocks_bd (SK.may_iff.1 hm)
  unfold Cfg.blocks Cfg.stripes at hb
  dsimp only at hb
  obtain ⟨hb0, hb1⟩ := hb
  dsimp only at CB
  rw [hc, if_pos hm] at CB
  have HCM := Lib.hid hm
  clear hm hc
  generalize hnb : chunk * rows * (mem - 1) = nb at *
  have HNB : Hid (Cfg.blocks ⟨id, mem, chunk, rows, log, heads⟩ = nb) := hnb
  clear hnb
  by_cases k0 : k < 1
  · skip
    have hp : QK.placed ⟨id, mem, chunk, rows, log, heads⟩ k at_ many = false := QK.placed_no_k (by omega)
    have CKV : Hid (∀ (da : Option Addr) (dn dc : Nat) (w1 : World), (dn : Int) = QK.need k many → Calls Try.prog 13 #[.agg #[.int .u32 (id : Int), .int .i64 mem, .int .i64 chunk, .int .i64 rows, .int .i64 log, .int .i64 heads], .agg #[.int .u8 (k : Int), .int .i64 at_, .int .i64 many, .slice da dn dc]] w1 fun e w' => e = .returned (.int .i64 2) ∧ Below w1.heap.size w1 w') := fun da dn dc w1 hn => by have := CK.out da dn dc w1; rw [QK.code_of hn, if_pos HCM.out, if_neg (by rw [hp]; simp)] at this; exact this
    clear hp CK
    have i0 : ¬ (1 : Int) ≤ k := by omega
    have e4 : ((k : Int) == 4) = false := beq_eq_false_iff_ne.2 (by omega)
    have e6 : ((k : Int) == 6) = false := beq_eq_false_iff_ne.2 (by omega)
    clear k0
    go_enter Try.func7, Try.ntmps7
    go_wp2_with fail
    (with_reducible refine (CA.out _).mono ?_)
    rintro e w1 ⟨rfl, b1⟩
    replace BX := Lib.hid (BX.out.here b1)
    have B1 := Lib.hid (thence B0.out b1 (Nat.le_refl _))
    clear b1 B0
    obtain ⟨c0, c1, c2, c3, c4, c5⟩ := BX.out.six
    have ltBX := BX.out.lt
    go_wp2_with fail
    (with_reducible refine (CB.out _).mono ?_)
    rintro e w2 ⟨rfl, b2⟩
    clear c0 c1 c2 c3 c4 c5 ltBX
    replace BX := Lib.hid (BX.out.here b2)
    have B2 := Lib.hid (thence B1.out b2 (Nat.le_refl _))
    clear b2 B1
    obtain ⟨c0, c1, c2, c3, c4, c5⟩ := BX.out.six
    have ltBX := BX.out.lt
    have W3 := ltBX
    go_wp2_with fail
    refine wp_region_noPanic ?_
    refine PX.wp_region_y (fun w' => Below w2.heap.size w2 w') [6] (by kernel_rfl) (Below.refl _ _).drew (fun hHeld => ?_)
    refine PX.wpAnyY_take (i := 0) (oi := ?_) (v := ?_) ?_ (by kernel_rfl) (by kernel_rfl) (by kernel_rfl) (by kernel_rfl) (by kernel_rfl) (fun _ _ _ h => h) (Or.inl ⟨?_, ?_⟩) (by assumption) ?_
    rotate_left 2
    · simp only [List.getElem?_toArray, List.getElem?_cons_succ, List.getElem?_cons_zero]; rfl
    · rfl
    · intro w hSw; (try dsimp only at hSw); have hC := fun (b o : Nat) (h : b < w2.heap.size) => Below.cell hSw (p := ⟨b, o, none⟩) h; go_simp <;> with_reducible rfl
    (try simp only [Act.put, List.setIfInBounds_toArray, List.set_cons_zero, List.set_cons_succ])
    refine PX.wpAnyY_take (i := 1) (oi := ?_) (v := ?_) ?_ (by kernel_rfl) (by kernel_rfl) (by kernel_rfl) (by kernel_rfl) (by kernel_rfl) (fun _ _ _ h => h) (Or.inl ⟨?_, ?_⟩) (by assumption) ?_
    rotate_left 2
    · simp only [List.getElem?_toArray, List.getElem?_cons_succ, List.getElem?_cons_zero]; rfl
    · rfl
    · intro w hSw; (try dsimp only at hSw); go_simp <;> with_reducible rfl
    (try simp only [Act.put, List.setIfInBounds_toArray, List.set_cons_zero, List.set_cons_succ])
    refine PX.wpAnyY_take (i := 2) (oi := ?_) (v := ?_) ?_ (by kernel_rfl) (by kernel_rfl) (by kernel_rfl) (by kernel_rfl) (by kernel_rfl) (fun _ _ _ h => h) (Or.inl ⟨?_, ?_⟩) (by assumption) ?_
    rotate_left 2
    · simp only [List.getElem?_toArray, List.getElem?_cons_succ, List.getElem?_cons_zero]; rfl
    · rfl
    · intro w hSw; (try dsimp only at hSw); go_simp <;> with_reducible rfl
    (try simp only [Act.put, List.setIfInBounds_toArray, List.set_cons_zero, List.set_cons_succ])
    refine PX.wpAnyY_one (i := 3) (o := ?_) (by kernel_rfl) ?_ (fun Kq hKq => ?_)
    rotate_left
    · simp only [List.getElem?_toArray, List.getElem?_cons_succ, List.getElem?_cons_zero]; rfl
    go_simp
    refine hKq.out _ _ (hHeld) (fun hHeld => ?_)
    clear hKq Kq
    (try simp only [Act.put, List.setIfInBounds_toArray, List.set_cons_zero, List.set_cons_succ])
    refine PX.wpAnyY_one (i := 4) (o := ?_) (by kernel_rfl) ?_ (fun Kq hKq => ?_)
    rotate_left
    · simp only [List.getElem?_toArray, List.getElem?_cons_succ, List.getElem?_cons_zero]; rfl
    go_simp
    (with_reducible refine (CAS.out _).mono ?_)
    rintro e w3 ⟨da, dn, dc, rfl, hn, bqw3⟩
    have Hw3 := Lib.hid (thence hHeld bqw3 (Nat.le_refl _))
    have HN := Lib.hid hn
    clear bqw3
    go_wp2_with fail
    refine hKq.out _ _ (Hw3.out) (fun hHeld => ?_)
    clear hKq Kq
    (try simp only [Act.put, List.setIfInBounds_toArray, List.set_cons_zero, List.set_cons_succ])
    refine PX.wpAnyY_one (i := 5) (o := ?_) (by kernel_rfl) ?_ (fun Kq hKq => ?_)
    rotate_left
    · simp only [List.getElem?_toArray, List.getElem?_cons_succ, List.getElem?_cons_zero]; rfl
    go_simp
    (with_reducible refine (CKV.out _ _ _ _ HN.out).mono ?_)
    rintro e w4 ⟨rfl, bq4⟩
    have Hw4 := Lib.hid (thence Hw3.out bq4 (Nat.le_refl _))
    clear bq4
    go_wp2_with fail
    refine hKq.out _ _ (Hw4.out) (fun hHeld => ?_)
    clear hKq Kq
    (try simp only [Act.put, List.setIfInBounds_toArray, List.set_cons_zero, List.set_cons_succ])
    refine PX.wpAnyY_free (i := 6) (o := ?_) (by kernel_rfl) (by kernel_rfl) ?_ (fun Kq hKq => ?_)
    rotate_left
    · simp only [List.getElem?_toArray, List.getElem?_cons_succ, List.getElem?_cons_zero]; rfl
    go_simp
    refine hKq.out _ _ ?_
    clear hKq Kq
    (try simp only [Act.put, List.setIfInBounds_toArray, List.set_cons_zero, List.set_cons_succ])
    refine PX.wpAnyY_done (by kernel_rfl) ?_ _
    refine NoPanic.normal ?_
    have HE := Lib.hid (thence B2.out Hw4.out (Nat.le_refl _))
    clear hHeld hn
    go_wp2_with fail
    all_goals
      go_ret
      exact ⟨rfl, HE.out⟩
  by_cases k6 : 6 < k
  · skip
    have hp : QK.placed ⟨id, mem, chunk, rows, log, heads⟩ k at_ many = false := QK.placed_no_k (by omega)
    have CKV : Hid (∀ (da : Option Addr) (dn dc : Nat) (w1 : World), (dn : Int) = QK.need k many → Calls Try.prog 13 #[.agg #[.int .u32 (id : Int), .int .i64 mem, .int .i64 chunk, .int .i64 rows, .int .i64 log, .int .i64 heads], .agg #[.int .u8 (k : Int), .int .i64 at_, .int .i64 many, .slice da dn dc]] w1 fun e w' => e = .returned (.int .i64 2) ∧ Below w1.heap.size w1 w') := fun da dn dc w1 hn => by have := CK.out da dn dc w1; rw [QK.code_of hn, if_pos HCM.out, if_neg (by rw [hp]; simp)] at this; exact this
    clear hp CK
    have i0 : (1 : Int) ≤ k := by omega
    have i1 : ¬ (k : Int) ≤ 6 := by omega
    have e4 : ((k : Int) == 4) = false := beq_eq_false_iff_ne.2 (by omega)
    have e6 : ((k : Int) == 6) = false := beq_eq_false_iff_ne.2 (by omega)
    clear k0 k6
    go_enter Try.func7, Try.ntmps7
    go_wp2_with fail
    (with_reducible refine (CA.out _).mono ?_)
    rintro e w1 ⟨rfl, b1⟩
    replace BX := Lib.hid (BX.out.here b1)
    have B1 := Lib.hid (thence B0.out b1 (Nat.le_refl _))
    clear b1 B0
    obtain ⟨c0, c1, c2, c3, c4, c5⟩ := BX.out.six
    have ltBX := BX.out.lt
    go_wp2_with fail
    (with_reducible refine (CB.out _).mono ?_)
    rintro e w2 ⟨rfl, b2⟩
    clear c0 c1 c2 c3 c4 c5 ltBX
    replace BX := Lib.hid (BX.out.here b2)
    have B2 := Lib.hid (thence B1.out b2 (Nat.le_refl _))
    clear b2 B1
    obtain ⟨c0, c1, c2, c3, c4, c5⟩ := BX.out.six
    have ltBX := BX.out.lt
    have W3 := ltBX
    go_wp2_with fail
    refine wp_region_noPanic ?_
    refine PX.wp_region_y (fun w' => Below w2.heap.size w2 w') [6] (by kernel_rfl) (Below.refl _ _).drew (fun hHeld => ?_)
    refine PX.wpAnyY_take (i := 0) (oi := ?_) (v := ?_) ?_ (by kernel_rfl) (by kernel_rfl) (by kernel_rfl) (by kernel_rfl) (by kernel_rfl) (fun _ _ _ h => h) (Or.inl ⟨?_, ?_⟩) (by assumption) ?_
    rotate_left 2
    · simp only [List.getElem?_toArray, List.getElem?_cons_succ, List.getElem?_cons_zero]; rfl
    · rfl
    · intro w hSw; (try dsimp only at hSw); have hC := fun (b o : Nat) (h : b < w2.heap.size) => Below.cell hSw (p := ⟨b, o, none⟩) h; go_simp <;> with_reducible rfl
    (try simp only [Act.put, List.setIfInBounds_toArray, List.set_cons_zero, List.set_cons_succ])
    refine PX.wpAnyY_take (i := 1) (oi := ?_) (v := ?_) ?_ (by kernel_rfl) (by kernel_rfl) (by kernel_rfl) (by kernel_rfl) (by kernel_rfl) (fun _ _ _ h => h) (Or.inl ⟨?_, ?_⟩) (by assumption) ?_
    rotate_left 2
    · simp only [List.getElem?_toArray, List.getElem?_cons_succ, List.getElem?_cons_zero]; rfl
    · rfl
    · intro w hSw; (try dsimp only at hSw); go_simp <;> with_reducible rfl
    (try simp only [Act.put, List.setIfInBounds_toArray, List.set_cons_zero, List.set_cons_succ])
    refine PX.wpAnyY_take (i := 2) (oi := ?_) (v := ?_) ?_ (by kernel_rfl) (by kernel_rfl) (by kernel_rfl) (by kernel_rfl) (by kernel_rfl) (fun _ _ _ h => h) (Or.inl ⟨?_, ?_⟩) (by assumption) ?_
    rotate_left 2
    · simp only [List.getElem?_toArray, List.getElem?_cons_succ, List.getElem?_cons_zero]; rfl
    · rfl
    · intro w hSw; (try dsimp only at hSw); go_simp <;> with_reducible rfl
    (try simp only [Act.put, List.setIfInBounds_toArray, List.set_cons_zero, List.set_cons_succ])
    refine PX.wpAnyY_one (i := 3) (o := ?_) (by kernel_rfl) ?_ (fun Kq hKq => ?_)
    rotate_left
    · simp only [List.getElem?_toArray, List.getElem?_cons_succ, List.getElem?_cons_zero]; rfl
    go_simp
    refine hKq.out _ _ (hHeld) (fun hHeld => ?_)
    clear hKq Kq
    (try simp only [Act.put, List.setIfInBounds_toArray, List.set_cons_zero, List.set_cons_succ])
    refine PX.wpAnyY_one (i := 4) (o := ?_) (by kernel_rfl) ?_ (fun Kq hKq => ?_)
    rotate_left
    · simp only [List.getElem?_toArray, List.getElem?_cons_succ, List.getElem?_cons_zero]; rfl
    go_simp
    (with_reducible refine (CAS.out _).mono ?_)
    rintro e w3 ⟨da, dn, dc, rfl, hn, bqw3⟩
    have Hw3 := Lib.hid (thence hHeld bqw3 (Nat.le_refl _))
    have HN := Lib.hid hn
    clear bqw3
    go_wp2_with fail
    refine hKq.out _ _ (Hw3.out) (fun hHeld => ?_)
    clear hKq Kq
    (try simp only [Act.put, List.setIfInBounds_toArray, List.set_cons_zero, List.set_cons_succ])
    refine PX.wpAnyY_one (i := 5) (o := ?_) (by kernel_rfl) ?_ (fun Kq hKq => ?_)
    rotate_left
    · simp only [List.getElem?_toArray, List.getElem?_cons_succ, List.getElem?_cons_zero]; rfl
    go_simp
    (with_reducible refine (CKV.out _ _ _ _ HN.out).mono ?_)
    rintro e w4 ⟨rfl, bq4⟩
    have Hw4 := Lib.hid (thence Hw3.out bq4 (Nat.le_refl _))
    clear bq4
    go_wp2_with fail
    refine hKq.out _ _ (Hw4.out) (fun hHeld => ?_)
    clear hKq Kq
    (try simp only [Act.put, List.setIfInBounds_toArray, List.set_cons_zero, List.set_cons_succ])
    refine PX.wpAnyY_free (i := 6) (o := ?_) (by kernel_rfl) (by kernel_rfl) ?_ (fun Kq hKq => ?_)
    rotate_left
    · simp only [List.getElem?_toArray, List.getElem?_cons_succ, List.getElem?_cons_zero]; rfl
    go_simp
    refine hKq.out _ _ ?_
    clear hKq Kq
    (try simp only [Act.put, List.setIfInBounds_toArray, List.set_cons_zero, List.set_cons_succ])
    refine PX.wpAnyY_done (by kernel_rfl) ?_ _
    refine NoPanic.normal ?_
    have HE := Lib.hid (thence B2.out Hw4.out (Nat.le_refl _))
    clear hHeld hn
    go_wp2_with fail
    all_goals
      go_ret
      exact ⟨rfl, HE.out⟩
  have i0 : (1 : Int) ≤ k := by omega
  have i1 : (k : Int) ≤ 6 := by omega
  have hk : k = 4 ∨ k = 6 ∨ QK.wh k = false := by
    by_cases a : k = 4
    · exact .inl a
    · by_cases b : k = 6
      · exact .inr (.inl b)
      · exact .inr (.inr (by simp [QK.wh, a, b]))
  rcases hk with hk4 | hk4 | hw
  · skip
    have HW : Hid (QK.wh k = true) := by show _ = _; rw [hk4]; rfl
    have e4 : ((k : Int) == 4) = true := beq_iff_eq.2 (by omega)
    by_cases a0 : at_ = 0
    · by_cases m0 : many = 0
      · skip
        have hp : QK.placed ⟨id, mem, chunk, rows, log, heads⟩ k at_ many = true := QK.placed_iff.2 ⟨by omega, .inl ⟨HW.out, a0, m0⟩⟩
        have CKV : Hid (∀ (da : Option Addr) (dn dc : Nat) (w1 : World), (dn : Int) = QK.need k many → Calls Try.prog 13 #[.agg #[.int .u32 (id : Int), .int .i64 mem, .int .i64 chunk, .int .i64 rows, .int .i64 log, .int .i64 heads], .agg #[.int .u8 (k : Int), .int .i64 at_, .int .i64 many, .slice da dn dc]] w1 fun e w' => e = .returned (.int .i64 0) ∧ Below w1.heap.size w1 w') := fun da dn dc w1 hn => by have := CK.out da dn dc w1; rw [QK.code_of hn, if_pos HCM.out, if_pos hp] at this; exact this
        clear hp CK
        subst a0 m0
        clear k0 k6 o1 o2 hk4
        go_enter Try.func7, Try.ntmps7
        go_wp2_with fail
        (with_reducible refine (CA.out _).mono ?_)
        rintro e w1 ⟨rfl, b1⟩
        replace BX := Lib.hid (BX.out.here b1)
        have B1 := Lib.hid (thence B0.out b1 (Nat.le_refl _))
        clear b1 B0
        obtain ⟨c0, c1, c2, c3, c4, c5⟩ := BX.out.six
        have ltBX := BX.out.lt
        go_wp2_with fail
        (with_reducible refine (CB.out _).mono ?_)
        rintro e w2 ⟨rfl, b2⟩
        clear c0 c1 c2 c3 c4 c5 ltBX
        replace BX := Lib.hid (BX.out.here b2)
        have B2 := Lib.hid (thence B1.out b2 (Nat.le_refl _))
        clear b2 B1
        obtain ⟨c0, c1, c2, c3, c4, c5⟩ := BX.out.six
        have ltBX := BX.out.lt
        have W3 := ltBX
        go_wp2_with fail
        refine wp_region_noPanic ?_
        refine PX.wp_region_y (fun w' => Below w2.heap.size w2 w') [6] (by kernel_rfl) (Below.refl _ _).drew (fun hHeld => ?_)
        refine PX.wpAnyY_take (i := 0) (oi := ?_) (v := ?_) ?_ (by kernel_rfl) (by kernel_rfl) (by kernel_rfl) (by kernel_rfl) (by kernel_rfl) (fun _ _ _ h => h) (Or.inl ⟨?_, ?_⟩) (by assumption) ?_
        rotate_left 2
        · simp only [List.getElem?_toArray, List.getElem?_cons_succ, List.getElem?_cons_zero]; rfl
        · rfl
        · intro w hSw; (try dsimp only at hSw); have hC := fun (b o : Nat) (h : b < w2.heap.size) => Below.cell hSw (p := ⟨b, o, none⟩) h; go_simp <;> with_reducible rfl
        (try simp only [Act.put, List.setIfInBounds_toArray, List.set_cons_zero, List.set_cons_succ])
        refine PX.wpAnyY_take (i := 1) (oi := ?_) (v := ?_) ?_ (by kernel_rfl) (by kernel_rfl) (by kernel_rfl) (by kernel_rfl) (by kernel_rfl) (fun _ _ _ h => h) (Or.inl ⟨?_, ?_⟩) (by assumption) ?_
        rotate_left 2
        · simp only [List.getElem?_toArray, List.getElem?_cons_succ, List.getElem?_cons_zero]; rfl
        · rfl
        · intro w hSw; (try dsimp only at hSw); go_simp <;> with_reducible rfl
        (try simp only [Act.put, List.setIfInBounds_toArray, List.set_cons_zero, List.set_cons_succ])
        refine PX.wpAnyY_take (i := 2) (oi := ?_) (v := ?_) ?_ (by kernel_rfl) (by kernel_rfl) (by kernel_rfl) (by kernel_rfl) (by kernel_rfl) (fun _ _ _ h => h) (Or.inl ⟨?_, ?_⟩) (by assumption) ?_
        rotate_left 2
        · simp only [List.getElem?_toArray, List.getElem?_cons_succ, List.getElem?_cons_zero]; rfl
        · rfl
        · intro w hSw; (try dsimp only at hSw); go_simp <;> with_reducible rfl
        (try simp only [Act.put, List.setIfInBounds_toArray, List.set_cons_zero, List.set_cons_succ])
        refine PX.wpAnyY_one (i := 3) (o := ?_) (by kernel_rfl) ?_ (fun Kq hKq => ?_)
        rotate_left
        · simp only [List.getElem?_toArray, List.getElem?_cons_succ, List.getElem?_cons_zero]; rfl
        go_simp
        refine hKq.out _ _ (hHeld) (fun hHeld => ?_)
        clear hKq Kq
        (try simp only [Act.put, List.setIfInBounds_toArray, List.set_cons_zero, List.set_cons_succ])
        refine PX.wpAnyY_one (i := 4) (o := ?_) (by kernel_rfl) ?_ (fun Kq hKq => ?_)
        rotate_left
        · simp only [List.getElem?_toArray, List.getElem?_cons_succ, List.getElem?_cons_zero]; rfl
        go_simp
        (with_reducible refine (CAS.out _).mono ?_)
        rintro e w3 ⟨da, dn, dc, rfl, hn, bqw3⟩
        have Hw3 := Lib.hid (thence hHeld bqw3 (Nat.le_refl _))
        have HN := Lib.hid hn
        clear bqw3
        go_wp2_with fail
        refine hKq.out _ _ (Hw3.out) (fun hHeld => ?_)
        clear hKq Kq
        (try simp only [Act.put, List.setIfInBounds_toArray, List.set_cons_zero, List.set_cons_succ])
        refine PX.wpAnyY_one (i := 5) (o := ?_) (by kernel_rfl) ?_ (fun Kq hKq => ?_)
        rotate_left
        · simp only [List.getElem?_toArray, List.getElem?_cons_succ, List.getElem?_cons_zero]; rfl
        go_simp
        (with_reducible refine (CKV.out _ _ _ _ HN.out).mono ?_)
        rintro e w4 ⟨rfl, bq4⟩
        have Hw4 := Lib.hid (thence Hw3.out bq4 (Nat.le_refl _))
        clear bq4
        go_wp2_with fail
        refine hKq.out _ _ (Hw4.out) (fun hHeld => ?_)
        clear hKq Kq
        (try simp only [Act.put, List.setIfInBounds_toArray, List.set_cons_zero, List.set_cons_succ])
        refine PX.wpAnyY_free (i := 6) (o := ?_) (by kernel_rfl) (by kernel_rfl) ?_ (fun Kq hKq => ?_)
        rotate_left
        · simp only [List.getElem?_toArray, List.getElem?_cons_succ, List.getElem?_cons_zero]; rfl
        go_simp
        refine hKq.out _ _ ?_
        clear hKq Kq
        (try simp only [Act.put, List.setIfInBounds_toArray, List.set_cons_zero, List.set_cons_succ])
        refine PX.wpAnyY_done (by kernel_rfl) ?_ _
        refine NoPanic.normal ?_
        have HE := Lib.hid (thence B2.out Hw4.out (Nat.le_refl _))
        clear hHeld hn
        go_wp2_with fail
        all_goals
          go_ret
          exact ⟨rfl, HE.out⟩
      · skip
        have hp : QK.placed ⟨id, mem, chunk, rows, log, heads⟩ k at_ many = false := QK.placed_no_wh HW.out (fun q => m0 q.2)
        have CKV : Hid (∀ (da : Option Addr) (dn dc : Nat) (w1 : World), (dn : Int) = QK.need k many → Calls Try.prog 13 #[.agg #[.int .u32 (id : Int), .int .i64 mem, .int .i64 chunk, .int .i64 rows, .int .i64 log, .int .i64 heads], .agg #[.int .u8 (k : Int), .int .i64 at_, .int .i64 many, .slice da dn dc]] w1 fun e w' => e = .returned (.int .i64 2) ∧ Below w1.heap.size w1 w') := fun da dn dc w1 hn => by have := CK.out da dn dc w1; rw [QK.code_of hn, if_pos HCM.out, if_neg (by rw [hp]; simp)] at this; exact this
        clear hp CK
        have f1 : ((many : Int) == 0) = false := beq_eq_false_iff_ne.2 m0
        subst a0
        clear k0 k6 m0 hk4
        go_enter Try.func7, Try.ntmps7
        go_wp2_with fail
        (with_reducible refine (CA.out _).mono ?_)
        rintro e w1 ⟨rfl, b1⟩
        replace BX := Lib.hid (BX.out.here b1)
        have B1 := Lib.hid (thence B0.out b1 (Nat.le_refl _))
        clear b1 B0
        obtain ⟨c0, c1, c2, c3, c4, c5⟩ := BX.out.six
        have ltBX := BX.out.lt
        go_wp2_with fail
        (with_reducible refine (CB.out _).mono ?_)
        rintro e w2 ⟨rfl, b2⟩
        clear c0 c1 c2 c3 c4 c5 ltBX
        replace BX := Lib.hid (BX.out.here b2)
        have B2 := Lib.hid (thence B1.out b2 (Nat.le_refl _))
        clear b2 B1
        obtain ⟨c0, c1, c2, c3, c4, c5⟩ := BX.out.six
        have ltBX := BX.out.lt
        have W3 := ltBX
        go_wp2_with fail
        refine wp_region_noPanic ?_
        refine PX.wp_region_y (fun w' => Below w2.heap.size w2 w') [6] (by kernel_rfl) (Below.refl _ _).drew (fun hHeld => ?_)
        refine PX.wpAnyY_take (i := 0) (oi := ?_) (v := ?_) ?_ (by kernel_rfl) (by kernel_rfl) (by kernel_rfl) (by kernel_rfl) (by kernel_rfl) (fun _ _ _ h => h) (Or.inl ⟨?_, ?_⟩) (by assumption) ?_
        rotate_left 2
        · simp only [List.getElem?_toArray, List.getElem?_cons_succ, List.getElem?_cons_zero]; rfl
        · rfl
        · intro w hSw; (try dsimp only at hSw); have hC := fun (b o : Nat) (h : b < w2.heap.size) => Below.cell hSw (p := ⟨b, o, none⟩) h; go_simp <;> with_reducible rfl
        (try simp only [Act.put, List.setIfInBounds_toArray, List.set_cons_zero, List.set_cons_succ])
        refine PX.wpAnyY_take (i := 1) (oi := ?_) (v := ?_) ?_ (by kernel_rfl) (by kernel_rfl) (by kernel_rfl) (by kernel_rfl) (by kernel_rfl) (fun _ _ _ h => h) (Or.inl ⟨?_, ?_⟩) (by assumption) ?_
        rotate_left 2
        · simp only [List.getElem?_toArray, List.getElem?_cons_succ, List.getElem?_cons_zero]; rfl
        · rfl
        · intro w hSw; (try dsimp only at hSw); go_simp <;> with_reducible rfl
        (try simp only [Act.put, List.setIfInBounds_toArray, List.set_cons_zero, List.set_cons_succ])
        refine PX.wpAnyY_take (i := 2) (oi := ?_) (v := ?_) ?_ (by kernel_rfl) (by kernel_rfl) (by kernel_rfl) (by kernel_rfl) (by kernel_rfl) (fun _ _ _ h => h) (Or.inl ⟨?_, ?_⟩) (by assumption) ?_
        rotate_left 2
        · simp only [List.getElem?_toArray, List.getElem?_cons_succ, List.getElem?_cons_zero]; rfl
        · rfl
        · intro w hSw; (try dsimp only at hSw); go_simp <;> with_reducible rfl
        (try simp only [Act.put, List.setIfInBounds_toArray, List.set_cons_zero, List.set_cons_succ])
        refine PX.wpAnyY_one (i := 3) (o := ?_) (by kernel_rfl) ?_ (fun Kq hKq => ?_)
        rotate_left
        · simp only [List.getElem?_toArray, List.getElem?_cons_succ, List.getElem?_cons_zero]; rfl
        go_simp
        refine hKq.out _ _ (hHeld) (fun hHeld => ?_)
        clear hKq Kq
        (try simp only [Act.put, List.setIfInBounds_toArray, List.set_cons_zero, List.set_cons_succ])
        refine PX.wpAnyY_one (i := 4) (o := ?_) (by kernel_rfl) ?_ (fun Kq hKq => ?_)
        rotate_left
        · simp only [List.getElem?_toArray, List.getElem?_cons_succ, List.getElem?_cons_zero]; rfl
        go_simp
        (with_reducible refine (CAS.out _).mono ?_)
        rintro e w3 ⟨da, dn, dc, rfl, hn, bqw3⟩
        have Hw3 := Lib.hid (thence hHeld bqw3 (Nat.le_refl _))
        have HN := Lib.hid hn
        clear bqw3
        go_wp2_with fail
        refine hKq.out _ _ (Hw3.out) (fun hHeld => ?_)
        clear hKq Kq
        (try simp only [Act.put, List.setIfInBounds_toArray, List.set_cons_zero, List.set_cons_succ])
        refine PX.wpAnyY_one (i := 5) (o := ?_) (by kernel_rfl) ?_ (fun Kq hKq => ?_)
        rotate_left
        · simp only [List.getElem?_toArray, List.getElem?_cons_succ, List.getElem?_cons_zero]; rfl
        go_simp
        (with_reducible refine (CKV.out _ _ _ _ HN.out).mono ?_)
        rintro e w4 ⟨rfl, bq4⟩
        have Hw4 := Lib.hid (thence Hw3.out bq4 (Nat.le_refl _))
        clear bq4
        go_wp2_with fail
        refine hKq.out _ _ (Hw4.out) (fun hHeld => ?_)
        clear hKq Kq
        (try simp only [Act.put, List.setIfInBounds_toArray, List.set_cons_zero, List.set_cons_succ])
        refine PX.wpAnyY_free (i := 6) (o := ?_) (by kernel_rfl) (by kernel_rfl) ?_ (fun Kq hKq => ?_)
        rotate_left
        · simp only [List.getElem?_toArray, List.getElem?_cons_succ, List.getElem?_cons_zero]; rfl
        go_simp
        refine hKq.out _ _ ?_
        clear hKq Kq
        (try simp only [Act.put, List.setIfInBounds_toArray, List.set_cons_zero, List.set_cons_succ])
        refine PX.wpAnyY_done (by kernel_rfl) ?_ _
        refine NoPanic.normal ?_
        have HE := Lib.hid (thence B2.out Hw4.out (Nat.le_refl _))
        clear hHeld hn
        go_wp2_with fail
        all_goals
          go_ret
          exact ⟨rfl, HE.out⟩
    · skip
      have hp : QK.placed ⟨id, mem, chunk, rows, log, heads⟩ k at_ many = false := QK.placed_no_wh HW.out (fun q => a0 q.1)
      have CKV : Hid (∀ (da : Option Addr) (dn dc : Nat) (w1 : World), (dn : Int) = QK.need k many → Calls Try.prog 13 #[.agg #[.int .u32 (id : Int), .int .i64 mem, .int .i64 chunk, .int .i64 rows, .int .i64 log, .int .i64 heads], .agg #[.int .u8 (k : Int), .int .i64 at_, .int .i64 many, .slice da dn dc]] w1 fun e w' => e = .returned (.int .i64 2) ∧ Below w1.heap.size w1 w') := fun da dn dc w1 hn => by have := CK.out da dn dc w1; rw [QK.code_of hn, if_pos HCM.out, if_neg (by rw [hp]; simp)] at this; exact this
      clear hp CK
      have f1 : ((at_ : Int) == 0) = false := beq_eq_false_iff_ne.2 a0
      clear k0 k6 a0 hk4
      go_enter Try.func7, Try.ntmps7
      go_wp2_with fail
      (with_reducible refine (CA.out _).mono ?_)
      rintro e w1 ⟨rfl, b1⟩
      replace BX := Lib.hid (BX.out.here b1)
      have B1 := Lib.hid (thence B0.out b1 (Nat.le_refl _))
      clear b1 B0
      obtain ⟨c0, c1, c2, c3, c4, c5⟩ := BX.out.six
      have ltBX := BX.out.lt
      go_wp2_with fail
      (with_reducible refine (CB.out _).mono ?_)
      rintro e w2 ⟨rfl, b2⟩
      clear c0 c1 c2 c3 c4 c5 ltBX
      replace BX := Lib.hid (BX.out.here b2)
      have B2 := Lib.hid (thence B1.out b2 (Nat.le_refl _))
      clear b2 B1
      obtain ⟨c0, c1, c2, c3, c4, c5⟩ := BX.out.six
      have ltBX := BX.out.lt
      have W3 := ltBX
      go_wp2_with fail
      refine wp_region_noPanic ?_
      refine PX.wp_region_y (fun w' => Below w2.heap.size w2 w') [6] (by kernel_rfl) (Below.refl _ _).drew (fun hHeld => ?_)
      refine PX.wpAnyY_take (i := 0) (oi := ?_) (v := ?_) ?_ (by kernel_rfl) (by kernel_rfl) (by kernel_rfl) (by kernel_rfl) (by kernel_rfl) (fun _ _ _ h => h) (Or.inl ⟨?_, ?_⟩) (by assumption) ?_
      rotate_left 2
      · simp only [List.getElem?_toArray, List.getElem?_cons_succ, List.getElem?_cons_zero]; rfl
      · rfl
      · intro w hSw; (try dsimp only at hSw); have hC := fun (b o : Nat) (h : b < w2.heap.size) => Below.cell hSw (p := ⟨b, o, none⟩) h; go_simp <;> with_reducible rfl
      (try simp only [Act.put, List.setIfInBounds_toArray, List.set_cons_zero, List.set_cons_succ])
      refine PX.wpAnyY_take (i := 1) (oi := ?_) (v := ?_) ?_ (by kernel_rfl) (by kernel_rfl) (by kernel_rfl) (by kernel_rfl) (by kernel_rfl) (fun _ _ _ h => h) (Or.inl ⟨?_, ?_⟩) (by assumption) ?_
      rotate_left 2
      · simp only [List.getElem?_toArray, List.getElem?_cons_succ, List.getElem?_cons_zero]; rfl
      · rfl
      · intro w hSw; (try dsimp only at hSw); go_simp <;> with_reducible rfl
      (try simp only [Act.put, List.setIfInBounds_toArray, List.set_cons_zero, List.set_cons_succ])
      refine PX.wpAnyY_take (i := 2) (oi := ?_) (v := ?_) ?_ (by kernel_rfl) (by kernel_rfl) (by kernel_rfl) (by kernel_rfl) (by kernel_rfl) (fun _ _ _ h => h) (Or.inl ⟨?_, ?_⟩) (by assumption) ?_
      rotate_left 2
      · simp only [List.getElem?_toArray, List.getElem?_cons_succ, List.getElem?_cons_zero]; rfl
      · rfl
      · intro w hSw; (try dsimp only at hSw); go_simp <;> with_reducible rfl
      (try simp only [Act.put, List.setIfInBounds_toArray, List.set_cons_zero, List.set_cons_succ])
      refine PX.wpAnyY_one (i := 3) (o := ?_) (by kernel_rfl) ?_ (fun Kq hKq => ?_)
      rotate_left
      · simp only [List.getElem?_toArray, List.getElem?_cons_succ, List.getElem?_cons_zero]; rfl
      go_simp
      refine hKq.out _ _ (hHeld) (fun hHeld => ?_)
      clear hKq Kq
      (try simp only [Act.put, List.setIfInBounds_toArray, List.set_cons_zero, List.set_cons_succ])
      refine PX.wpAnyY_one (i := 4) (o := ?_) (by kernel_rfl) ?_ (fun Kq hKq => ?_)
      rotate_left
      · simp only [List.getElem?_toArray, List.getElem?_cons_succ, List.getElem?_cons_zero]; rfl
      go_simp
      (with_reducible refine (CAS.out _).mono ?_)
      rintro e w3 ⟨da, dn, dc, rfl, hn, bqw3⟩
      have Hw3 := Lib.hid (thence hHeld bqw3 (Nat.le_refl _))
      have HN := Lib.hid hn
      clear bqw3
      go_wp2_with fail
      refine hKq.out _ _ (Hw3.out) (fun hHeld => ?_)
      clear hKq Kq
      (try simp only [Act.put, List.setIfInBounds_toArray, List.set_cons_zero, List.set_cons_succ])
      refine PX.wpAnyY_one (i := 5) (o := ?_) (by kernel_rfl) ?_ (fun Kq hKq => ?_)
      rotate_left
      · simp only [List.getElem?_toArray, List.getElem?_cons_succ, List.getElem?_cons_zero]; rfl
      go_simp
      (with_reducible refine (CKV.out _ _ _ _ HN.out).mono ?_)
      rintro e w4 ⟨rfl, bq4⟩
      have Hw4 := Lib.hid (thence Hw3.out bq4 (Nat.le_refl _))
      clear bq4
      go_wp2_with fail
      refine hKq.out _ _ (Hw4.out) (fun hHeld => ?_)
      clear hKq Kq
      (try simp only [Act.put, List.setIfInBounds_toArray, List.set_cons_zero, List.set_cons_succ])
      refine PX.wpAnyY_free (i := 6) (o := ?_) (by kernel_rfl) (by kernel_rfl) ?_ (fun Kq hKq => ?_)
      rotate_left
      · simp only [List.getElem?_toArray, List.getElem?_cons_succ, List.getElem?_cons_zero]; rfl
      go_simp
      refine hKq.out _ _ ?_
      clear hKq Kq
      (try simp only [Act.put, List.setIfInBounds_toArray, List.set_cons_zero, List.set_cons_succ])
      refine PX.wpAnyY_done (by kernel_rfl) ?_ _
      refine NoPanic.normal ?_
      have HE := Lib.hid (thence B2.out Hw4.out (Nat.le_refl _))
      clear hHeld hn
      go_wp2_with fail
      all_goals
        go_ret
        exact ⟨rfl, HE.out⟩
  · skip
    have HW : Hid (QK.wh k = true) := by show _ = _; rw [hk4]; rfl
    have e4 : ((k : Int) == 4) = false := beq_eq_false_iff_ne.2 (by omega)
    have e6 : ((k : Int) == 6) = true := beq_iff_eq.2 (by omega)
    by_cases a0 : at_ = 0
    · by_cases m0 : many = 0
      · skip
        have hp : QK.placed ⟨id, mem, chunk, rows, log, heads⟩ k at_ many = true := QK.placed_iff.2 ⟨by omega, .inl ⟨HW.out, a0, m0⟩⟩
        have CKV : Hid (∀ (da : Option Addr) (dn dc : Nat) (w1 : World), (dn : Int) = QK.need k many → Calls Try.prog 13 #[.agg #[.int .u32 (id : Int), .int .i64 mem, .int .i64 chunk, .int .i64 rows, .int .i64 log, .int .i64 heads], .agg #[.int .u8 (k : Int), .int .i64 at_, .int .i64 many, .slice da dn dc]] w1 fun e w' => e = .returned (.int .i64 0) ∧ Below w1.heap.size w1 w') := fun da dn dc w1 hn => by have := CK.out da dn dc w1; rw [QK.code_of hn, if_pos HCM.out, if_pos hp] at this; exact this
        clear hp CK
        subst a0 m0
        clear k0 k6 o1 o2 hk4
        go_enter Try.func7, Try.ntmps7
        go_wp2_with fail
        (with_reducible refine (CA.out _).mono ?_)
        rintro e w1 ⟨rfl, b1⟩
        replace BX := Lib.hid (BX.out.here b1)
        have B1 := Lib.hid (thence B0.out b1 (Nat.le_refl _))
        clear b1 B0
        obtain ⟨c0, c1, c2, c3, c4, c5⟩ := BX.out.six
        have ltBX := BX.out.lt
        go_wp2_with fail
        (with_reducible refine (CB.out _).mono ?_)
        rintro e w2 ⟨rfl, b2⟩
        clear c0 c1 c2 c3 c4 c5 ltBX
        replace BX := Lib.hid (BX.out.here b2)
        have B2 := Lib.hid (thence B1.out b2 (Nat.le_refl _))
        clear b2 B1
        obtain ⟨c0, c1, c2, c3, c4, c5⟩ := BX.out.six
        have ltBX := BX.out.lt
        have W3 := ltBX
        go_wp2_with fail
        refine wp_region_noPanic ?_
        refine PX.wp_region_y (fun w' => Below w2.heap.size w2 w') [6] (by kernel_rfl) (Below.refl _ _).drew (fun hHeld => ?_)
        refine PX.wpAnyY_take (i := 0) (oi := ?_) (v := ?_) ?_ (by kernel_rfl) (by kernel_rfl) (by kernel_rfl) (by kernel_rfl) (by kernel_rfl) (fun _ _ _ h => h) (Or.inl ⟨?_, ?_⟩) (by assumption) ?_
        rotate_left 2
        · simp only [List.getElem?_toArray, List.getElem?_cons_succ, List.getElem?_cons_zero]; rfl
        · rfl
        · intro w hSw; (try dsimp only at hSw); have hC := fun (b o : Nat) (h : b < w2.heap.size) => Below.cell hSw (p := ⟨b, o, none⟩) h; go_simp <;> with_reducible rfl
        (try simp only [Act.put, List.setIfInBounds_toArray, List.set_cons_zero, List.set_cons_succ])
        refine PX.wpAnyY_take (i := 1) (oi := ?_) (v := ?_) ?_ (by kernel_rfl) (by kernel_rfl) (by kernel_rfl) (by kernel_rfl) (by kernel_rfl) (fun _ _ _ h => h) (Or.inl ⟨?_, ?_⟩) (by assumption) ?_
        rotate_left 2
        · simp only [List.getElem?_toArray, List.getElem?_cons_succ, List.getElem?_cons_zero]; rfl
        · rfl
        · intro w hSw; (try dsimp only at hSw); go_simp <;> with_reducible rfl
        (try simp only [Act.put, List.setIfInBounds_toArray, List.set_cons_zero, List.set_cons_succ])
        refine PX.wpAnyY_take (i := 2) (oi := ?_) (v := ?_) ?_ (by kernel_rfl) (by kernel_rfl) (by kernel_rfl) (by kernel_rfl) (by kernel_rfl) (fun _ _ _ h => h) (Or.inl ⟨?_, ?_⟩) (by assumption) ?_
        rotate_left 2
        · simp only [List.getElem?_toArray, List.getElem?_cons_succ, List.getElem?_cons_zero]; rfl
        · rfl
        · intro w hSw; (try dsimp only at hSw); go_simp <;> with_reducible rfl
        (try simp only [Act.put, List.setIfInBounds_toArray, List.set_cons_zero, List.set_cons_succ])
        refine PX.wpAnyY_one (i := 3) (o := ?_) (by kernel_rfl) ?_ (fun Kq hKq => ?_)
        rotate_left
        · simp only [List.getElem?_toArray, List.getElem?_cons_succ, List.getElem?_cons_zero]; rfl
        go_simp
        refine hKq.out _ _ (hHeld) (fun hHeld => ?_)
        clear hKq Kq
        (try simp only [Act.put, List.setIfInBounds_toArray, List.set_cons_zero, List.set_cons_succ])
        refine PX.wpAnyY_one (i := 4) (o := ?_) (by kernel_rfl) ?_ (fun Kq hKq => ?_)
        rotate_left
        · simp only [List.getElem?_toArray, List.getElem?_cons_succ, List.getElem?_cons_zero]; rfl
        go_simp
        (with_reducible refine (CAS.out _).mono ?_)
        rintro e w3 ⟨da, dn, dc, rfl, hn, bqw3⟩
        have Hw3 := Lib.hid (thence hHeld bqw3 (Nat.le_refl _))
        have HN := Lib.hid hn
        clear bqw3
        go_wp2_with fail
        refine hKq.out _ _ (Hw3.out) (fun hHeld => ?_)
        clear hKq Kq
        (try simp only [Act.put, List.setIfInBounds_toArray, List.set_cons_zero, List.set_cons_succ])
        refine PX.wpAnyY_one (i := 5) (o := ?_) (by kernel_rfl) ?_ (fun Kq hKq => ?_)
        rotate_left
        · simp only [List.getElem?_toArray, List.getElem?_cons_succ, List.getElem?_cons_zero]; rfl
        go_simp
        (with_reducible refine (CKV.out _ _ _ _ HN.out).mono ?_)
        rintro e w4 ⟨rfl, bq4⟩
        have Hw4 := Lib.hid (thence Hw3.out bq4 (Nat.le_refl _))
        clear bq4
        go_wp2_with fail
        refine hKq.out _ _ (Hw4.out) (fun hHeld => ?_)
        clear hKq Kq
        (try simp only [Act.put, List.setIfInBounds_toArray, List.set_cons_zero, List.set_cons_succ])
        refine PX.wpAnyY_free (i := 6) (o := ?_) (by kernel_rfl) (by kernel_rfl) ?_ (fun Kq hKq => ?_)
        rotate_left
        · simp only [List.getElem?_toArray, List.getElem?_cons_succ, List.getElem?_cons_zero]; rfl
        go_simp
        refine hKq.out _ _ ?_
        clear hKq Kq
        (try simp only [Act.put, List.setIfInBounds_toArray, List.set_cons_zero, List.set_cons_succ])
        refine PX.wpAnyY_done (by kernel_rfl) ?_ _
        refine NoPanic.normal ?_
        have HE := Lib.hid (thence B2.out Hw4.out (Nat.le_refl _))
        clear hHeld hn
        go_wp2_with fail
        all_goals
          go_ret
          exact ⟨rfl, HE.out⟩
      · skip
        have hp : QK.placed ⟨id, mem, chunk, rows, log, heads⟩ k at_ many = false := QK.placed_no_wh HW.out (fun q => m0 q.2)
        have CKV : Hid (∀ (da : Option Addr) (dn dc : Nat) (w1 : World), (dn : Int) = QK.need k many → Calls Try.prog 13 #[.agg #[.int .u32 (id : Int), .int .i64 mem, .int .i64 chunk, .int .i64 rows, .int .i64 log, .int .i64 heads], .agg #[.int .u8 (k : Int), .int .i64 at_, .int .i64 many, .slice da dn dc]] w1 fun e w' => e = .returned (.int .i64 2) ∧ Below w1.heap.size w1 w') := fun da dn dc w1 hn => by have := CK.out da dn dc w1; rw [QK.code_of hn, if_pos HCM.out, if_neg (by rw [hp]; simp)] at this; exact this
        clear hp CK
        have f1 : ((many : Int) == 0) = false := beq_eq_false_iff_ne.2 m0
        subst a0
        clear k0 k6 m0 hk4
        go_enter Try.func7, Try.ntmps7
        go_wp2_with fail
        (with_reducible refine (CA.out _).mono ?_)
        rintro e w1 ⟨rfl, b1⟩
        replace BX := Lib.hid (BX.out.here b1)
        have B1 := Lib.hid (thence B0.out b1 (Nat.le_refl _))
        clear b1 B0
        obtain ⟨c0, c1, c2, c3, c4, c5⟩ := BX.out.six
        have ltBX := BX.out.lt
        go_wp2_with fail
        (with_reducible refine (CB.out _).mono ?_)
        rintro e w2 ⟨rfl, b2⟩
        clear c0 c1 c2 c3 c4 c5 ltBX
        replace BX := Lib.hid (BX.out.here b2)
        have B2 := Lib.hid (thence B1.out b2 (Nat.le_refl _))
        clear b2 B1
        obtain ⟨c0, c1, c2, c3, c4, c5⟩ := BX.out.six
        have ltBX := BX.out.lt
        have W3 := ltBX
        go_wp2_with fail
        refine wp_region_noPanic ?_
        refine PX.wp_region_y (fun w' => Below w2.heap.size w2 w') [6] (by kernel_rfl) (Below.refl _ _).drew (fun hHeld => ?_)
        refine PX.wpAnyY_take (i := 0) (oi := ?_) (v := ?_) ?_ (by kernel_rfl) (by kernel_rfl) (by kernel_rfl) (by kernel_rfl) (by kernel_rfl) (fun _ _ _ h => h) (Or.inl ⟨?_, ?_⟩) (by assumption) ?_
        rotate_left 2
        · simp only [List.getElem?_toArray, List.getElem?_cons_succ, List.getElem?_cons_zero]; rfl
        · rfl
        · intro w hSw; (try dsimp only at hSw); have hC := fun (b o : Nat) (h : b < w2.heap.size) => Below.cell hSw (p := ⟨b, o, none⟩) h; go_simp <;> with_reducible rfl
        (try simp only [Act.put, List.setIfInBounds_toArray, List.set_cons_zero, List.set_cons_succ])
        refine PX.wpAnyY_take (i := 1) (oi := ?_) (v := ?_) ?_ (by kernel_rfl) (by kernel_rfl) (by kernel_rfl) (by kernel_rfl) (by kernel_rfl) (fun _ _ _ h => h) (Or.inl ⟨?_, ?_⟩) (by assumption) ?_
        rotate_left 2
        · simp only [List.getElem?_toArray, List.getElem?_cons_succ, List.getElem?_cons_zero]; rfl
        · rfl
        · intro w hSw; (try dsimp only at hSw); go_simp <;> with_reducible rfl
        (try simp only [Act.put, List.setIfInBounds_toArray, List.set_cons_zero, List.set_cons_succ])
        refine PX.wpAnyY_take (i := 2) (oi := ?_) (v := ?_) ?_ (by kernel_rfl) (by kernel_rfl) (by kernel_rfl) (by kernel_rfl) (by kernel_rfl) (fun _ _ _ h => h) (Or.inl ⟨?_, ?_⟩) (by assumption) ?_
        rotate_left 2
        · simp only [List.getElem?_toArray, List.getElem?_cons_succ, List.getElem?_cons_zero]; rfl
        · rfl
        · intro w hSw; (try dsimp only at hSw); go_simp <;> with_reducible rfl
        (try simp only [Act.put, List.setIfInBounds_toArray, List.set_cons_zero, List.set_cons_succ])
        refine PX.wpAnyY_one (i := 3) (o := ?_) (by kernel_rfl) ?_ (fun Kq hKq => ?_)
        rotate_left
        · simp only [List.getElem?_toArray, List.getElem?_cons_succ, List.getElem?_cons_zero]; rfl
        go_simp
        refine hKq.out _ _ (hHeld) (fun hHeld => ?_)
        clear hKq Kq
        (try simp only [Act.put, List.setIfInBounds_toArray, List.set_cons_zero, List.set_cons_succ])
        refine PX.wpAnyY_one (i := 4) (o := ?_) (by kernel_rfl) ?_ (fun Kq hKq => ?_)
        rotate_left
        · simp only [List.getElem?_toArray, List.getElem?_cons_succ, List.getElem?_cons_zero]; rfl
        go_simp
        (with_reducible refine (CAS.out _).mono ?_)
        rintro e w3 ⟨da, dn, dc, rfl, hn, bqw3⟩
        have Hw3 := Lib.hid (thence hHeld bqw3 (Nat.le_refl _))
        have HN := Lib.hid hn
        clear bqw3
        go_wp2_with fail
        refine hKq.out _ _ (Hw3.out) (fun hHeld => ?_)
        clear hKq Kq
        (try simp only [Act.put, List.setIfInBounds_toArray, List.set_cons_zero, List.set_cons_succ])
        refine PX.wpAnyY_one (i := 5) (o := ?_) (by kernel_rfl) ?_ (fun Kq hKq => ?_)
        rotate_left
        · simp only [List.getElem?_toArray, List.getElem?_cons_succ, List.getElem?_cons_zero]; rfl
        go_simp
        (with_reducible refine (CKV.out _ _ _ _ HN.out).mono ?_)
        rintro e w4 ⟨rfl, bq4⟩
        have Hw4 := Lib.hid (thence Hw3.out bq4 (Nat.le_refl _))
        clear bq4
        go_wp2_with fail
        refine hKq.out _ _ (Hw4.out) (fun hHeld => ?_)
        clear hKq Kq
        (try simp only [Act.put, List.setIfInBounds_toArray, List.set_cons_zero, List.set_cons_succ])
        refine PX.wpAnyY_free (i := 6) (o := ?_) (by kernel_rfl) (by kernel_rfl) ?_ (fun Kq hKq => ?_)
        rotate_left
        · simp only [List.getElem?_toArray, List.getElem?_cons_succ, List.getElem?_cons_zero]; rfl
        go_simp
        refine hKq.out _ _ ?_
        clear hKq Kq
        (try simp only [Act.put, List.setIfInBounds_toArray, List.set_cons_zero, List.set_cons_succ])
        refine PX.wpAnyY_done (by kernel_rfl) ?_ _
        refine NoPanic.normal ?_
        have HE := Lib.hid (thence B2.out Hw4.out (Nat.le_refl _))
        clear hHeld hn
        go_wp2_with fail
        all_goals
          go_ret
          exact ⟨rfl, HE.out⟩
    · skip
      have hp : QK.placed ⟨id, mem, chunk, rows, log, heads⟩ k at_ many = false := QK.placed_no_wh HW.out (fun q => a0 q.1)
      have CKV : Hid (∀ (da : Option Addr) (dn dc : Nat) (w1 : World), (dn : Int) = QK.need k many → Calls Try.prog 13 #[.agg #[.int .u32 (id : Int), .int .i64 mem, .int .i64 chunk, .int .i64 rows, .int .i64 log, .int .i64 heads], .agg #[.int .u8 (k : Int), .int .i64 at_, .int .i64 many, .slice da dn dc]] w1 fun e w' => e = .returned (.int .i64 2) ∧ Below w1.heap.size w1 w') := fun da dn dc w1 hn => by have := CK.out da dn dc w1; rw [QK.code_of hn, if_pos HCM.out, if_neg (by rw [hp]; simp)] at this; exact this
      clear hp CK
      have f1 : ((at_ : Int) == 0) = false := beq_eq_false_iff_ne.2 a0
      clear k0 k6 a0 hk4
      go_enter Try.func7, Try.ntmps7
      go_wp2_with fail
      (with_reducible refine (CA.out _).mono ?_)
      rintro e w1 ⟨rfl, b1⟩
      replace BX := Lib.hid (BX.out.here b1)
      have B1 := Lib.hid (thence B0.out b1 (Nat.le_refl _))
      clear b1 B0
      obtain ⟨c0, c1, c2, c3, c4, c5⟩ := BX.out.six
      have ltBX := BX.out.lt
      go_wp2_with fail
      (with_reducible refine (CB.out _).mono ?_)
      rintro e w2 ⟨rfl, b2⟩
      clear c0 c1 c2 c3 c4 c5 ltBX
      replace BX := Lib.hid (BX.out.here b2)
      have B2 := Lib.hid (thence B1.out b2 (Nat.le_refl _))
      clear b2 B1
      obtain ⟨c0, c1, c2, c3, c4, c5⟩ := BX.out.six
      have ltBX := BX.out.lt
      have W3 := ltBX
      go_wp2_with fail
      refine wp_region_noPanic ?_
      refine PX.wp_region_y (fun w' => Below w2.heap.size w2 w') [6] (by kernel_rfl) (Below.refl _ _).drew (fun hHeld => ?_)
      refine PX.wpAnyY_take (i := 0) (oi := ?_) (v := ?_) ?_ (by kernel_rfl) (by kernel_rfl) (by kernel_rfl) (by kernel_rfl) (by kernel_rfl) (fun _ _ _ h => h) (Or.inl ⟨?_, ?_⟩) (by assumption) ?_
      rotate_left 2
      · simp only [List.getElem?_toArray, List.getElem?_cons_succ, List.getElem?_cons_zero]; rfl
      · rfl
      · intro w hSw; (try dsimp only at hSw); have hC := fun (b o : Nat) (h : b < w2.heap.size) => Below.cell hSw (p := ⟨b, o, none⟩) h; go_simp <;> with_reducible rfl
      (try simp only [Act.put, List.setIfInBounds_toArray, List.set_cons_zero, List.set_cons_succ])
      refine PX.wpAnyY_take (i := 1) (oi := ?_) (v := ?_) ?_ (by kernel_rfl) (by kernel_rfl) (by kernel_rfl) (by kernel_rfl) (by kernel_rfl) (fun _ _ _ h => h) (Or.inl ⟨?_, ?_⟩) (by assumption) ?_
      rotate_left 2
      · simp only [List.getElem?_toArray, List.getElem?_cons_succ, List.getElem?_cons_zero]; rfl
      · rfl
      · intro w hSw; (try dsimp only at hSw); go_simp <;> with_reducible rfl
      (try simp only [Act.put, List.setIfInBounds_toArray, List.set_cons_zero, List.set_cons_succ])
      refine PX.wpAnyY_take (i := 2) (oi := ?_) (v := ?_) ?_ (by kernel_rfl) (by kernel_rfl) (by kernel_rfl) (by kernel_rfl) (by kernel_rfl) (fun _ _ _ h => h) (Or.inl ⟨?_, ?_⟩) (by assumption) ?_
      rotate_left 2
      · simp only [List.getElem?_toArray, List.getElem?_cons_succ, List.getElem?_cons_zero]; rfl
      · rfl
      · intro w hSw; (try dsimp only at hSw); go_simp <;> with_reducible rfl
      (try simp only [Act.put, List.setIfInBounds_toArray, List.set_cons_zero, List.set_cons_succ])
      refine PX.wpAnyY_one (i := 3) (o := ?_) (by kernel_rfl) ?_ (fun Kq hKq => ?_)
      rotate_left
      · simp only [List.getElem?_toArray, List.getElem?_cons_succ, List.getElem?_cons_zero]; rfl
      go_simp
      refine hKq.out _ _ (hHeld) (fun hHeld => ?_)
      clear hKq Kq
      (try simp only [Act.put, List.setIfInBounds_toArray, List.set_cons_zero, List.set_cons_succ])
      refine PX.wpAnyY_one (i := 4) (o := ?_) (by kernel_rfl) ?_ (fun Kq hKq => ?_)
      rotate_left
      · simp only [List.getElem?_toArray, List.getElem?_cons_succ, List.getElem?_cons_zero]; rfl
      go_simp
      (with_reducible refine (CAS.out _).mono ?_)
      rintro e w3 ⟨da, dn, dc, rfl, hn, bqw3⟩
      have Hw3 := Lib.hid (thence hHeld bqw3 (Nat.le_refl _))
      have HN := Lib.hid hn
      clear bqw3
      go_wp2_with fail
      refine hKq.out _ _ (Hw3.out) (fun hHeld => ?_)
      clear hKq Kq
      (try simp only [Act.put, List.setIfInBounds_toArray, List.set_cons_zero, List.set_cons_succ])
      refine PX.wpAnyY_one (i := 5) (o := ?_) (by kernel_rfl) ?_ (fun Kq hKq => ?_)
      rotate_left
      · simp only [List.getElem?_toArray, List.getElem?_cons_succ, List.getElem?_cons_zero]; rfl
      go_simp
      (with_reducible refine (CKV.out _ _ _ _ HN.out).mono ?_)
      rintro e w4 ⟨rfl, bq4⟩
      have Hw4 := Lib.hid (thence Hw3.out bq4 (Nat.le_refl _))
      clear bq4
      go_wp2_with fail
      refine hKq.out _ _ (Hw4.out) (fun hHeld => ?_)
      clear hKq Kq
      (try simp only [Act.put, List.setIfInBounds_toArray, List.set_cons_zero, List.set_cons_succ])
      refine PX.wpAnyY_free (i := 6) (o := ?_) (by kernel_rfl) (by kernel_rfl) ?_ (fun Kq hKq => ?_)
      rotate_left
      · simp only [List.getElem?_toArray, List.getElem?_cons_succ, List.getElem?_cons_zero]; rfl
      go_simp
      refine hKq.out _ _ ?_
      clear hKq Kq
      (try simp only [Act.put, List.setIfInBounds_toArray, List.set_cons_zero, List.set_cons_succ])
      refine PX.wpAnyY_done (by kernel_rfl) ?_ _
      refine NoPanic.normal ?_
      have HE := Lib.hid (thence B2.out Hw4.out (Nat.le_refl _))
      clear hHeld hn
      go_wp2_with fail
      all_goals
        go_ret
        exact ⟨rfl, HE.out⟩
  · have hk46 : k ≠ 4 ∧ k ≠ 6 := by simpa [QK.wh] using hw
    have HW := Lib.hid hw
    have e4 : ((k : Int) == 4) = false := beq_eq_false_iff_ne.2 (by omega)
    have e6 : ((k : Int) == 6) = false := beq_eq_false_iff_ne.2 (by omega)
    clear hw hk46
    by_cases a0 : 0 ≤ at_
    case neg =>
      have hp : QK.placed ⟨id, mem, chunk, rows, log, heads⟩ k at_ many = false := QK.placed_no HW.out (by rw [HNB.out]; omega)
      have CKV : Hid (∀ (da : Option Addr) (dn dc : Nat) (w1 : World), (dn : Int) = QK.need k many → Calls Try.prog 13 #[.agg #[.int .u32 (id : Int), .int .i64 mem, .int .i64 chunk, .int .i64 rows, .int .i64 log, .int .i64 heads], .agg #[.int .u8 (k : Int), .int .i64 at_, .int .i64 many, .slice da dn dc]] w1 fun e w' => e = .returned (.int .i64 2) ∧ Below w1.heap.size w1 w') := fun da dn dc w1 hn => by have := CK.out da dn dc w1; rw [QK.code_of hn, if_pos HCM.out, if_neg (by rw [hp]; simp)] at this; exact this
      clear hp CK
      clear k0 k6
      go_enter Try.func7, Try.ntmps7
      go_wp2_with fail
      (with_reducible refine (CA.out _).mono ?_)
      rintro e w1 ⟨rfl, b1⟩
      replace BX := Lib.hid (BX.out.here b1)
      have B1 := Lib.hid (thence B0.out b1 (Nat.le_refl _))
      clear b1 B0
      obtain ⟨c0, c1, c2, c3, c4, c5⟩ := BX.out.six
      have ltBX := BX.out.lt
      go_wp2_with fail
      (with_reducible refine (CB.out _).mono ?_)
      rintro e w2 ⟨rfl, b2⟩
      clear c0 c1 c2 c3 c4 c5 ltBX
      replace BX := Lib.hid (BX.out.here b2)
      have B2 := Lib.hid (thence B1.out b2 (Nat.le_refl _))
      clear b2 B1
      obtain ⟨c0, c1, c2, c3, c4, c5⟩ := BX.out.six
      have ltBX := BX.out.lt
      have W3 := ltBX
      go_wp2_with fail
      refine wp_region_noPanic ?_
      refine PX.wp_region_y (fun w' => Below w2.heap.size w2 w') [6] (by kernel_rfl) (Below.refl _ _).drew (fun hHeld => ?_)
      refine PX.wpAnyY_take (i := 0) (oi := ?_) (v := ?_) ?_ (by kernel_rfl) (by kernel_rfl) (by kernel_rfl) (by kernel_rfl) (by kernel_rfl) (fun _ _ _ h => h) (Or.inl ⟨?_, ?_⟩) (by assumption) ?_
      rotate_left 2
      · simp only [List.getElem?_toArray, List.getElem?_cons_succ, List.getElem?_cons_zero]; rfl
      · rfl
      · intro w hSw; (try dsimp only at hSw); have hC := fun (b o : Nat) (h : b < w2.heap.size) => Below.cell hSw (p := ⟨b, o, none⟩) h; go_simp <;> with_reducible rfl
      (try simp only [Act.put, List.setIfInBounds_toArray, List.set_cons_zero, List.set_cons_succ])
      refine PX.wpAnyY_take (i := 1) (oi := ?_) (v := ?_) ?_ (by kernel_rfl) (by kernel_rfl) (by kernel_rfl) (by kernel_rfl) (by kernel_rfl) (fun _ _ _ h => h) (Or.inl ⟨?_, ?_⟩) (by assumption) ?_
      rotate_left 2
      · simp only [List.getElem?_toArray, List.getElem?_cons_succ, List.getElem?_cons_zero]; rfl
      · rfl
      · intro w hSw; (try dsimp only at hSw); go_simp <;> with_reducible rfl
      (try simp only [Act.put, List.setIfInBounds_toArray, List.set_cons_zero, List.set_cons_succ])
      refine PX.wpAnyY_take (i := 2) (oi := ?_) (v := ?_) ?_ (by kernel_rfl) (by kernel_rfl) (by kernel_rfl) (by kernel_rfl) (by kernel_rfl) (fun _ _ _ h => h) (Or.inl ⟨?_, ?_⟩) (by assumption) ?_
      rotate_left 2
      · simp only [List.getElem?_toArray, List.getElem?_cons_succ, List.getElem?_cons_zero]; rfl
      · rfl
      · intro w hSw; (try dsimp only at hSw); go_simp <;> with_reducible rfl
      (try simp only [Act.put, List.setIfInBounds_toArray, List.set_cons_zero, List.set_cons_succ])
      refine PX.wpAnyY_one (i := 3) (o := ?_) (by kernel_rfl) ?_ (fun Kq hKq => ?_)
      rotate_left
      · simp only [List.getElem?_toArray, List.getElem?_cons_succ, List.getElem?_cons_zero]; rfl
      go_simp
      refine hKq.out _ _ (hHeld) (fun hHeld => ?_)
      clear hKq Kq
      (try simp only [Act.put, List.setIfInBounds_toArray, List.set_cons_zero, List.set_cons_succ])
      refine PX.wpAnyY_one (i := 4) (o := ?_) (by kernel_rfl) ?_ (fun Kq hKq => ?_)
      rotate_left
      · simp only [List.getElem?_toArray, List.getElem?_cons_succ, List.getElem?_cons_zero]; rfl
      go_simp
      (with_reducible refine (CAS.out _).mono ?_)
      rintro e w3 ⟨da, dn, dc, rfl, hn, bqw3⟩
      have Hw3 := Lib.hid (thence hHeld bqw3 (Nat.le_refl _))
      have HN := Lib.hid hn
      clear bqw3
      go_wp2_with fail
      refine hKq.out _ _ (Hw3.out) (fun hHeld => ?_)
      clear hKq Kq
      (try simp only [Act.put, List.setIfInBounds_toArray, List.set_cons_zero, List.set_cons_succ])
      refine PX.wpAnyY_one (i := 5) (o := ?_) (by kernel_rfl) ?_ (fun Kq hKq => ?_)
      rotate_left
      · simp only [List.getElem?_toArray, List.getElem?_cons_succ, List.getElem?_cons_zero]; rfl
      go_simp
      (with_reducible refine (CKV.out _ _ _ _ HN.out).mono ?_)
      rintro e w4 ⟨rfl, bq4⟩
      have Hw4 := Lib.hid (thence Hw3.out bq4 (Nat.le_refl _))
      clear bq4
      go_wp2_with fail
      refine hKq.out _ _ (Hw4.out) (fun hHeld => ?_)
      clear hKq Kq
      (try simp only [Act.put, List.setIfInBounds_toArray, List.set_cons_zero, List.set_cons_succ])
      refine PX.wpAnyY_free (i := 6) (o := ?_) (by kernel_rfl) (by kernel_rfl) ?_ (fun Kq hKq => ?_)
      rotate_left
      · simp only [List.getElem?_toArray, List.getElem?_cons_succ, List.getElem?_cons_zero]; rfl
      go_simp
      refine hKq.out _ _ ?_
      clear hKq Kq
      (try simp only [Act.put, List.setIfInBounds_toArray, List.set_cons_zero, List.set_cons_succ])
      refine PX.wpAnyY_done (by kernel_rfl) ?_ _
      refine NoPanic.normal ?_
      have HE := Lib.hid (thence B2.out Hw4.out (Nat.le_refl _))
      clear hHeld hn
      go_wp2_with fail
      all_goals
        go_ret
        exact ⟨rfl, HE.out⟩
    by_cases m1 : 1 ≤ many
    case neg =>
      have hp : QK.placed ⟨id, mem, chunk, rows, log, heads⟩ k at_ many = false := QK.placed_no HW.out (by rw [HNB.out]; omega)
      have CKV : Hid (∀ (da : Option Addr) (dn dc : Nat) (w1 : World), (dn : Int) = QK.need k many → Calls Try.prog 13 #[.agg #[.int .u32 (id : Int), .int .i64 mem, .int .i64 chunk, .int .i64 rows, .int .i64 log, .int .i64 heads], .agg #[.int .u8 (k : Int), .int .i64 at_, .int .i64 many, .slice da dn dc]] w1 fun e w' => e = .returned (.int .i64 2) ∧ Below w1.heap.size w1 w') := fun da dn dc w1 hn => by have := CK.out da dn dc w1; rw [QK.code_of hn, if_pos HCM.out, if_neg (by rw [hp]; simp)] at this; exact this
      clear hp CK
      clear k0 k6
      go_enter Try.func7, Try.ntmps7
      go_wp2_with fail
      (with_reducible refine (CA.out _).mono ?_)
      rintro e w1 ⟨rfl, b1⟩
      replace BX := Lib.hid (BX.out.here b1)
      have B1 := Lib.hid (thence B0.out b1 (Nat.le_refl _))
      clear b1 B0
      obtain ⟨c0, c1, c2, c3, c4, c5⟩ := BX.out.six
      have ltBX := BX.out.lt
      go_wp2_with fail
      (with_reducible refine (CB.out _).mono ?_)
      rintro e w2 ⟨rfl, b2⟩
      clear c0 c1 c2 c3 c4 c5 ltBX
      replace BX := Lib.hid (BX.out.here b2)
      have B2 := Lib.hid (thence B1.out b2 (Nat.le_refl _))
      clear b2 B1
      obtain ⟨c0, c1, c2, c3, c4, c5⟩ := BX.out.six
      have ltBX := BX.out.lt
      have W3 := ltBX
      go_wp2_with fail
      refine wp_region_noPanic ?_
      refine PX.wp_region_y (fun w' => Below w2.heap.size w2 w') [6] (by kernel_rfl) (Below.refl _ _).drew (fun hHeld => ?_)
      refine PX.wpAnyY_take (i := 0) (oi := ?_) (v := ?_) ?_ (by kernel_rfl) (by kernel_rfl) (by kernel_rfl) (by kernel_rfl) (by kernel_rfl) (fun _ _ _ h => h) (Or.inl ⟨?_, ?_⟩) (by assumption) ?_
      rotate_left 2
      · simp only [List.getElem?_toArray, List.getElem?_cons_succ, List.getElem?_cons_zero]; rfl
      · rfl
      · intro w hSw; (try dsimp only at hSw); have hC := fun (b o : Nat) (h : b < w2.heap.size) => Below.cell hSw (p := ⟨b, o, none⟩) h; go_simp <;> with_reducible rfl
      (try simp only [Act.put, List.setIfInBounds_toArray, List.set_cons_zero, List.set_cons_succ])
      refine PX.wpAnyY_take (i := 1) (oi := ?_) (v := ?_) ?_ (by kernel_rfl) (by kernel_rfl) (by kernel_rfl) (by kernel_rfl) (by kernel_rfl) (fun _ _ _ h => h) (Or.inl ⟨?_, ?_⟩) (by assumption) ?_
      rotate_left 2
      · simp only [List.getElem?_toArray, List.getElem?_cons_succ, List.getElem?_cons_zero]; rfl
      · rfl
      · intro w hSw; (try dsimp only at hSw); go_simp <;> with_reducible rfl
      (try simp only [Act.put, List.setIfInBounds_toArray, List.set_cons_zero, List.set_cons_succ])
      refine PX.wpAnyY_take (i := 2) (oi := ?_) (v := ?_) ?_ (by kernel_rfl) (by kernel_rfl) (by kernel_rfl) (by kernel_rfl) (by kernel_rfl) (fun _ _ _ h => h) (Or.inl ⟨?_, ?_⟩) (by assumption) ?_
      rotate_left 2
      · simp only [List.getElem?_toArray, List.getElem?_cons_succ, List.getElem?_cons_zero]; rfl
      · rfl
      · intro w hSw; (try dsimp only at hSw); go_simp <;> with_reducible rfl
      (try simp only [Act.put, List.setIfInBounds_toArray, List.set_cons_zero, List.set_cons_succ])
      refine PX.wpAnyY_one (i := 3) (o := ?_) (by kernel_rfl) ?_ (fun Kq hKq => ?_)
      rotate_left
      · simp only [List.getElem?_toArray, List.getElem?_cons_succ, List.getElem?_cons_zero]; rfl
      go_simp
      refine hKq.out _ _ (hHeld) (fun hHeld => ?_)
      clear hKq Kq
      (try simp only [Act.put, List.setIfInBounds_toArray, List.set_cons_zero, List.set_cons_succ])
      refine PX.wpAnyY_one (i := 4) (o := ?_) (by kernel_rfl) ?_ (fun Kq hKq => ?_)
      rotate_left
      · simp only [List.getElem?_toArray, List.getElem?_cons_succ, List.getElem?_cons_zero]; rfl
      go_simp
      (with_reducible refine (CAS.out _).mono ?_)
      rintro e w3 ⟨da, dn, dc, rfl, hn, bqw3⟩
      have Hw3 := Lib.hid (thence hHeld bqw3 (Nat.le_refl _))
      have HN := Lib.hid hn
      clear bqw3
      go_wp2_with fail
      refine hKq.out _ _ (Hw3.out) (fun hHeld => ?_)
      clear hKq Kq
      (try simp only [Act.put, List.setIfInBounds_toArray, List.set_cons_zero, List.set_cons_succ])
      refine PX.wpAnyY_one (i := 5) (o := ?_) (by kernel_rfl) ?_ (fun Kq hKq => ?_)
      rotate_left
      · simp only [List.getElem?_toArray, List.getElem?_cons_succ, List.getElem?_cons_zero]; rfl
      go_simp
      (with_reducible refine (CKV.out _ _ _ _ HN.out).mono ?_)
      rintro e w4 ⟨rfl, bq4⟩
      have Hw4 := Lib.hid (thence Hw3.out bq4 (Nat.le_refl _))
      clear bq4
      go_wp2_with fail
      refine hKq.out _ _ (Hw4.out) (fun hHeld => ?_)
      clear hKq Kq
      (try simp only [Act.put, List.setIfInBounds_toArray, List.set_cons_zero, List.set_cons_succ])
      refine PX.wpAnyY_free (i := 6) (o := ?_) (by kernel_rfl) (by kernel_rfl) ?_ (fun Kq hKq => ?_)
      rotate_left
      · simp only [List.getElem?_toArray, List.getElem?_cons_succ, List.getElem?_cons_zero]; rfl
      go_simp
      refine hKq.out _ _ ?_
      clear hKq Kq
      (try simp only [Act.put, List.setIfInBounds_toArray, List.set_cons_zero, List.set_cons_succ])
      refine PX.wpAnyY_done (by kernel_rfl) ?_ _
      refine NoPanic.normal ?_
      have HE := Lib.hid (thence B2.out Hw4.out (Nat.le_refl _))
      clear hHeld hn
      go_wp2_with fail
      all_goals
        go_ret
        exact ⟨rfl, HE.out⟩
    by_cases l1 : at_ ≤ nb - many
    case neg =>
      have hp : QK.placed ⟨id, mem, chunk, rows, log, heads⟩ k at_ many = false := QK.placed_no HW.out (by rw [HNB.out]; omega)
      have CKV : Hid (∀ (da : Option Addr) (dn dc : Nat) (w1 : World), (dn : Int) = QK.need k many → Calls Try.prog 13 #[.agg #[.int .u32 (id : Int), .int .i64 mem, .int .i64 chunk, .int .i64 rows, .int .i64 log, .int .i64 heads], .agg #[.int .u8 (k : Int), .int .i64 at_, .int .i64 many, .slice da dn dc]] w1 fun e w' => e = .returned (.int .i64 2) ∧ Below w1.heap.size w1 w') := fun da dn dc w1 hn => by have := CK.out da dn dc w1; rw [QK.code_of hn, if_pos HCM.out, if_neg (by rw [hp]; simp)] at this; exact this
      clear hp CK
      have f1 : decide (at_ ≤ nb - many) = false := by simp; omega
      clear k0 k6
      go_enter Try.func7, Try.ntmps7
      go_wp2_with fail
      (with_reducible refine (CA.out _).mono ?_)
      rintro e w1 ⟨rfl, b1⟩
      replace BX := Lib.hid (BX.out.here b1)
      have B1 := Lib.hid (thence B0.out b1 (Nat.le_refl _))
      clear b1 B0
      obtain ⟨c0, c1, c2, c3, c4, c5⟩ := BX.out.six
      have ltBX := BX.out.lt
      go_wp2_with fail
      (with_reducible refine (CB.out _).mono ?_)
      rintro e w2 ⟨rfl, b2⟩
      clear c0 c1 c2 c3 c4 c5 ltBX
      replace BX := Lib.hid (BX.out.here b2)
      have B2 := Lib.hid (thence B1.out b2 (Nat.le_refl _))
      clear b2 B1
      obtain ⟨c0, c1, c2, c3, c4, c5⟩ := BX.out.six
      have ltBX := BX.out.lt
      have W3 := ltBX
      go_wp2_with fail
      refine wp_region_noPanic ?_
      refine PX.wp_region_y (fun w' => Below w2.heap.size w2 w') [6] (by kernel_rfl) (Below.refl _ _).drew (fun hHeld => ?_)
      refine PX.wpAnyY_take (i := 0) (oi := ?_) (v := ?_) ?_ (by kernel_rfl) (by kernel_rfl) (by kernel_rfl) (by kernel_rfl) (by kernel_rfl) (fun _ _ _ h => h) (Or.inl ⟨?_, ?_⟩) (by assumption) ?_
      rotate_left 2
      · simp only [List.getElem?_toArray, List.getElem?_cons_succ, List.getElem?_cons_zero]; rfl
      · rfl
      · intro w hSw; (try dsimp only at hSw); have hC := fun (b o : Nat) (h : b < w2.heap.size) => Below.cell hSw (p := ⟨b, o, none⟩) h; go_simp <;> with_reducible rfl
      (try simp only [Act.put, List.setIfInBounds_toArray, List.set_cons_zero, List.set_cons_succ])
      refine PX.wpAnyY_take (i := 1) (oi := ?_) (v := ?_) ?_ (by kernel_rfl) (by kernel_rfl) (by kernel_rfl) (by kernel_rfl) (by kernel_rfl) (fun _ _ _ h => h) (Or.inl ⟨?_, ?_⟩) (by assumption) ?_
      rotate_left 2
      · simp only [List.getElem?_toArray, List.getElem?_cons_succ, List.getElem?_cons_zero]; rfl
      · rfl
      · intro w hSw; (try dsimp only at hSw); go_simp <;> with_reducible rfl
      (try simp only [Act.put, List.setIfInBounds_toArray, List.set_cons_zero, List.set_cons_succ])
      refine PX.wpAnyY_take (i := 2) (oi := ?_) (v := ?_) ?_ (by kernel_rfl) (by kernel_rfl) (by kernel_rfl) (by kernel_rfl) (by kernel_rfl) (fun _ _ _ h => h) (Or.inl ⟨?_, ?_⟩) (by assumption) ?_
      rotate_left 2
      · simp only [List.getElem?_toArray, List.getElem?_cons_succ, List.getElem?_cons_zero]; rfl
      · rfl
      · intro w hSw; (try dsimp only at hSw); go_simp <;> with_reducible rfl
      (try simp only [Act.put, List.setIfInBounds_toArray, List.set_cons_zero, List.set_cons_succ])
      refine PX.wpAnyY_one (i := 3) (o := ?_) (by kernel_rfl) ?_ (fun Kq hKq => ?_)
      rotate_left
      · simp only [List.getElem?_toArray, List.getElem?_cons_succ, List.getElem?_cons_zero]; rfl
      go_simp
      refine hKq.out _ _ (hHeld) (fun hHeld => ?_)
      clear hKq Kq
      (try simp only [Act.put, List.setIfInBounds_toArray, List.set_cons_zero, List.set_cons_succ])
      refine PX.wpAnyY_one (i := 4) (o := ?_) (by kernel_rfl) ?_ (fun Kq hKq => ?_)
      rotate_left
      · simp only [List.getElem?_toArray, List.getElem?_cons_succ, List.getElem?_cons_zero]; rfl
      go_simp
      (with_reducible refine (CAS.out _).mono ?_)
      rintro e w3 ⟨da, dn, dc, rfl, hn, bqw3⟩
      have Hw3 := Lib.hid (thence hHeld bqw3 (Nat.le_refl _))
      have HN := Lib.hid hn
      clear bqw3
      go_wp2_with fail
      refine hKq.out _ _ (Hw3.out) (fun hHeld => ?_)
      clear hKq Kq
      (try simp only [Act.put, List.setIfInBounds_toArray, List.set_cons_zero, List.set_cons_succ])
      refine PX.wpAnyY_one (i := 5) (o := ?_) (by kernel_rfl) ?_ (fun Kq hKq => ?_)
      rotate_left
      · simp only [List.getElem?_toArray, List.getElem?_cons_succ, List.getElem?_cons_zero]; rfl
      go_simp
      (with_reducible refine (CKV.out _ _ _ _ HN.out).mono ?_)
      rintro e w4 ⟨rfl, bq4⟩
      have Hw4 := Lib.hid (thence Hw3.out bq4 (Nat.le_refl _))
      clear bq4
      go_wp2_with fail
      refine hKq.out _ _ (Hw4.out) (fun hHeld => ?_)
      clear hKq Kq
      (try simp only [Act.put, List.setIfInBounds_toArray, List.set_cons_zero, List.set_cons_succ])
      refine PX.wpAnyY_free (i := 6) (o := ?_) (by kernel_rfl) (by kernel_rfl) ?_ (fun Kq hKq => ?_)
      rotate_left
      · simp only [List.getElem?_toArray, List.getElem?_cons_succ, List.getElem?_cons_zero]; rfl
      go_simp
      refine hKq.out _ _ ?_
      clear hKq Kq
      (try simp only [Act.put, List.setIfInBounds_toArray, List.set_cons_zero, List.set_cons_succ])
      refine PX.wpAnyY_done (by kernel_rfl) ?_ _
      refine NoPanic.normal ?_
      have HE := Lib.hid (thence B2.out Hw4.out (Nat.le_refl _))
      clear hHeld hn
      go_wp2_with fail
      all_goals
        go_ret
        exact ⟨rfl, HE.out⟩
    have hp : QK.placed ⟨id, mem, chunk, rows, log, heads⟩ k at_ many = true := QK.placed_iff.2 ⟨by omega, .inr ⟨HW.out, m1, by omega, a0, by rw [HNB.out]; exact l1⟩⟩
    have CKV : Hid (∀ (da : Option Addr) (dn dc : Nat) (w1 : World), (dn : Int) = QK.need k many → Calls Try.prog 13 #[.agg #[.int .u32 (id : Int), .int .i64 mem, .int .i64 chunk, .int .i64 rows, .int .i64 log, .int .i64 heads], .agg #[.int .u8 (k : Int), .int .i64 at_, .int .i64 many, .slice da dn dc]] w1 fun e w' => e = .returned (.int .i64 0) ∧ Below w1.heap.size w1 w') := fun da dn dc w1 hn => by have := CK.out da dn dc w1; rw [QK.code_of hn, if_pos HCM.out, if_pos hp] at this; exact this
    clear hp CK
    have f1 : decide (at_ ≤ nb - many) = true := by simp; omega
    clear k0 k6
    go_enter Try.func7, Try.ntmps7
    go_wp2_with fail
    (with_reducible refine (CA.out _).mono ?_)
    rintro e w1 ⟨rfl, b1⟩
    replace BX := Lib.hid (BX.out.here b1)
    have B1 := Lib.hid (thence B0.out b1 (Nat.le_refl _))
    clear b1 B0
    obtain ⟨c0, c1, c2, c3, c4, c5⟩ := BX.out.six
    have ltBX := BX.out.lt
    go_wp2_with fail
    (with_reducible refine (CB.out _).mono ?_)
    rintro e w2 ⟨rfl, b2⟩
    clear c0 c1 c2 c3 c4 c5 ltBX
    replace BX := Lib.hid (BX.out.here b2)
    have B2 := Lib.hid (thence B1.out b2 (Nat.le_refl _))
    clear b2 B1
    obtain ⟨c0, c1, c2, c3, c4, c5⟩ := BX.out.six
    have ltBX := BX.out.lt
    have W3 := ltBX
    go_wp2_with fail
    refine wp_region_noPanic ?_
    refine PX.wp_region_y (fun w' => Below w2.heap.size w2 w') [6] (by kernel_rfl) (Below.refl _ _).drew (fun hHeld => ?_)
    refine PX.wpAnyY_take (i := 0) (oi := ?_) (v := ?_) ?_ (by kernel_rfl) (by kernel_rfl) (by kernel_rfl) (by kernel_rfl) (by kernel_rfl) (fun _ _ _ h => h) (Or.inl ⟨?_, ?_⟩) (by assumption) ?_
    rotate_left 2
    · simp only [List.getElem?_toArray, List.getElem?_cons_succ, List.getElem?_cons_zero]; rfl
    · rfl
    · intro w hSw; (try dsimp only at hSw); have hC := fun (b o : Nat) (h : b < w2.heap.size) => Below.cell hSw (p := ⟨b, o, none⟩) h; go_simp <;> with_reducible rfl
    (try simp only [Act.put, List.setIfInBounds_toArray, List.set_cons_zero, List.set_cons_succ])
    refine PX.wpAnyY_take (i := 1) (oi := ?_) (v := ?_) ?_ (by kernel_rfl) (by kernel_rfl) (by kernel_rfl) (by kernel_rfl) (by kernel_rfl) (fun _ _ _ h => h) (Or.inl ⟨?_, ?_⟩) (by assumption) ?_
    rotate_left 2
    · simp only [List.getElem?_toArray, List.getElem?_cons_succ, List.getElem?_cons_zero]; rfl
    · rfl
    · intro w hSw; (try dsimp only at hSw); go_simp <;> with_reducible rfl
    (try simp only [Act.put, List.setIfInBounds_toArray, List.set_cons_zero, List.set_cons_succ])
    refine PX.wpAnyY_take (i := 2) (oi := ?_) (v := ?_) ?_ (by kernel_rfl) (by kernel_rfl) (by kernel_rfl) (by kernel_rfl) (by kernel_rfl) (fun _ _ _ h => h) (Or.inl ⟨?_, ?_⟩) (by assumption) ?_
    rotate_left 2
    · simp only [List.getElem?_toArray, List.getElem?_cons_succ, List.getElem?_cons_zero]; rfl
    · rfl
    · intro w hSw; (try dsimp only at hSw); go_simp <;> with_reducible rfl
    (try simp only [Act.put, List.setIfInBounds_toArray, List.set_cons_zero, List.set_cons_succ])
    refine PX.wpAnyY_one (i := 3) (o := ?_) (by kernel_rfl) ?_ (fun Kq hKq => ?_)
    rotate_left
    · simp only [List.getElem?_toArray, List.getElem?_cons_succ, List.getElem?_cons_zero]; rfl
    go_simp
    refine hKq.out _ _ (hHeld) (fun hHeld => ?_)
    clear hKq Kq
    (try simp only [Act.put, List.setIfInBounds_toArray, List.set_cons_zero, List.set_cons_succ])
    refine PX.wpAnyY_one (i := 4) (o := ?_) (by kernel_rfl) ?_ (fun Kq hKq => ?_)
    rotate_left
    · simp only [List.getElem?_toArray, List.getElem?_cons_succ, List.getElem?_cons_zero]; rfl
    go_simp
    (with_reducible refine (CAS.out _).mono ?_)
    rintro e w3 ⟨da, dn, dc, rfl, hn, bqw3⟩
    have Hw3 := Lib.hid (thence hHeld bqw3 (Nat.le_refl _))
    have HN := Lib.hid hn
    clear bqw3
    go_wp2_with fail
    refine hKq.out _ _ (Hw3.out) (fun hHeld => ?_)
    clear hKq Kq
    (try simp only [Act.put, List.setIfInBounds_toArray, List.set_cons_zero, List.set_cons_succ])
    refine PX.wpAnyY_one (i := 5) (o := ?_) (by kernel_rfl) ?_ (fun Kq hKq => ?_)
    rotate_left
    · simp only [List.getElem?_toArray, List.getElem?_cons_succ, List.getElem?_cons_zero]; rfl
    go_simp
    (with_reducible refine (CKV.out _ _ _ _ HN.out).mono ?_)
    rintro e w4 ⟨rfl, bq4⟩
    have Hw4 := Lib.hid (thence Hw3.out bq4 (Nat.le_refl _))
    clear bq4
    go_wp2_with fail
    refine hKq.out _ _ (Hw4.out) (fun hHeld => ?_)
    clear hKq Kq
    (try simp only [Act.put, List.setIfInBounds_toArray, List.set_cons_zero, List.set_cons_succ])
    refine PX.wpAnyY_free (i := 6) (o := ?_) (by kernel_rfl) (by kernel_rfl) ?_ (fun Kq hKq => ?_)
    rotate_left
    · simp only [List.getElem?_toArray, List.getElem?_cons_succ, List.getElem?_cons_zero]; rfl
    go_simp
    refine hKq.out _ _ ?_
    clear hKq Kq
    (try simp only [Act.put, List.setIfInBounds_toArray, List.set_cons_zero, List.set_cons_succ])
    refine PX.wpAnyY_done (by kernel_rfl) ?_ _
    refine NoPanic.normal ?_
    have HE := Lib.hid (thence B2.out Hw4.out (Nat.le_refl _))
    clear hHeld hn
    go_wp2_with fail
    all_goals
      go_ret
      exact ⟨rfl, HE.out⟩
end Go.Proofs.Ytbhehicfenkbcaa.PW
