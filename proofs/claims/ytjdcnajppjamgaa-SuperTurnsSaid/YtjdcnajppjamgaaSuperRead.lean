/-
  Contracts of the document's own answers of layer 10: Read.
-/
import Derived.Test.YtjdcnajppjamgaaSuperRefs
namespace Go.Proofs.Ytjdcnajppjamgaa.PW
open Go.RowKit
open SB (Sup)
set_option linter.unusedVariables false
set_option linter.unusedSimpArgs false
set_option maxRecDepth 100000

set_option maxHeartbeats 1000000 in
theorem refSRead_text (a : Option Addr) (len cap : Nat) (l : List Nat) (w : World) (hr : Rd w.heap.size w a len cap l) (h : l.length ≠ 0) (k : l.length ≠ 128) :
    Calls Try.prog 15 #[.slice a len cap] w fun e w' => e = .returned (.tuple #[supV (SB.rd l).1, .int .i64 (((SB.rd l).2 : Nat) : Int)]) ∧ Below w.heap.size w w' := by
  rw [SB.rd_text h k]
  have C := Lib.hid (fun w1 (hr1 : Rd w1.heap.size w1 a len cap l) => refblock_no a len cap l w1 hr1 h k)
  have B0 : Hid (Below w.heap.size w (w.alloc (.cells #[.int .u32 0, .int .u32 0, .int .u32 0, .int .i64 0] 28))) := (Below.refl _ _).alloc (Nat.le_refl _) _
  have HR := Lib.hid hr
  clear hr h k
  go_enter Try.func15, Try.ntmps15
  go_wp2_with fail
  refine (C.out _ ((HR.out.below B0.out).mono B0.out.size)).mono ?_
  rintro e w1 ⟨rfl, rfl⟩
  go_wp2_with fail
  exact bodyPost_ret (v := .tuple #[supV Sup.zero, .int .i64 3]) (by simp [results, Try.results15, go_sem]; rfl) rfl ⟨rfl, B0.out⟩

set_option maxHeartbeats 4000000 in
theorem refSRead_block (a : Option Addr) (len cap : Nat) (l : List Nat) (w : World) (hr : Rd w.heap.size w a len cap l) (h : l.length = 0 ∨ l.length = 128) :
    Calls Try.prog 15 #[.slice a len cap] w fun e w' => e = .returned (.tuple #[supV (SB.rd l).1, .int .i64 (((SB.rd l).2 : Nat) : Int)]) ∧ Below w.heap.size w w' := by
  have CK := Lib.hid (fun w1 (hr1 : Rd w1.heap.size w1 a len cap l) => refblock_yes a len cap l w1 hr1 h)
  have CW := Lib.hid (fun w1 (hr1 : Rd w1.heap.size w1 a len cap l) => refwhole_any a len cap l w1 (by omega) hr1)
  obtain ⟨X, cd, hX⟩ : ∃ X cd, SB.rd l = (X, cd) := ⟨_, _, rfl⟩
  rw [hX]
  have HX : Hid ((if SB.good (PK.wh l) = true then (SB.parse (PK.wh l), 0) else (Sup.zero, 90)) = (X, cd)) := by show _ = _; rw [← hX]; unfold SB.rd; rw [if_neg (show ¬ (l.length ≠ 0 ∧ l.length ≠ 128) by omega)]
  clear hX
  show Calls _ _ _ _ fun e w' => e = .returned (.tuple #[supV X, .int .i64 ((cd : Nat) : Int)]) ∧ Below w.heap.size w w'
  have HL : Hid ((PK.wh l).length = 128) := PK.wh_length (by omega)
  have HB : Hid (Bytes (PK.wh l)) := PK.wh_bytes hr.byt
  generalize PK.wh l = m at *
  have B0 : Hid (Below w.heap.size w (w.alloc (.cells #[.int .u32 0, .int .u32 0, .int .u32 0, .int .i64 0] 28))) := (Below.refl _ _).alloc (Nat.le_refl _) _
  have BR := Lib.hid (Bx.new w [.int .u32 0, .int .u32 0, .int .u32 0, .int .i64 0] 28)
  have HR := Lib.hid hr
  clear hr h
  go_enter Try.func15, Try.ntmps15
  go_wp2_with fail
  replace BR : Hid (Bx (w.alloc (.cells #[.int .u32 0, .int .u32 0, .int .u32 0, .int .i64 0] 28)) w.heap.size [.int .u32 0, .int .u32 0, .int .u32 0, .int .i64 0]) := BR
  have HR0 := Lib.hid ((HR.out.below B0.out).mono B0.out.size)
  generalize w.alloc (.cells #[.int .u32 0, .int .u32 0, .int .u32 0, .int .i64 0] 28) = W0 at *
  refine (CK.out _ HR0.out).mono ?_
  rintro e w1 ⟨rfl, rfl⟩
  go_wp2_with fail
  refine (CW.out _ HR0.out).mono ?_
  rintro e W1 ⟨g, rfl, hg, hblk, b1⟩
  have HK := Lib.hid hblk
  have B1 := Lib.hid b1
  replace BR := Lib.hid (BR.out.here b1)
  have R1 := Lib.hid (hblk.rd HL.out HB.out)
  have hgl := hblk.lt
  clear b1 hblk CK CW HR HR0
  go_wp2_with fail
  have f13 := HK.out.cell 13 (by rw [HL.out]; decide)
  have CN1 : Hid (∀ w1, Below W1.heap.size W1 w1 → Calls Try.prog 28 #[.slice (some ⟨g, 0, none⟩) 128 128, .int .i64 1] w1 fun e w' => e = .returned (.int .u32 ((PK.tv m 1 4 : Nat) : Int)) ∧ Below w1.heap.size w1 w') := fun w1 hb => refNumber_any _ 128 128 m 1 _ w1 ((R1.out.below hb).mono hb.size) ⟨.inr HL.out, by decide, by decide, by decide, by decide⟩ (by rw [PK.wh_full HL.out])
  have CN5 : Hid (∀ w1, Below W1.heap.size W1 w1 → Calls Try.prog 28 #[.slice (some ⟨g, 0, none⟩) 128 128, .int .i64 5] w1 fun e w' => e = .returned (.int .u32 ((PK.tv m 5 4 : Nat) : Int)) ∧ Below w1.heap.size w1 w') := fun w1 hb => refNumber_any _ 128 128 m 5 _ w1 ((R1.out.below hb).mono hb.size) ⟨.inr HL.out, by decide, by decide, by decide, by decide⟩ (by rw [PK.wh_full HL.out])
  have CN9 : Hid (∀ w1, Below W1.heap.size W1 w1 → Calls Try.prog 28 #[.slice (some ⟨g, 0, none⟩) 128 128, .int .i64 9] w1 fun e w' => e = .returned (.int .u32 ((PK.tv m 9 4 : Nat) : Int)) ∧ Below w1.heap.size w1 w') := fun w1 hb => refNumber_any _ 128 128 m 9 _ w1 ((R1.out.below hb).mono hb.size) ⟨.inr HL.out, by decide, by decide, by decide, by decide⟩ (by rw [PK.wh_full HL.out])
  have HP : Hid (SB.parse m = ⟨PK.tv m 1 4, PK.tv m 5 4, PK.tv m 9 4, m.getD 13 0⟩) := rfl
  have HI : Hid (PK.tv m 1 4 < 4294967296) := SB.tv_lt4 HB.out 1
  have w13 : IntKind.i64.wrap ((m.getD 13 0 : Nat) : Int) = ((m.getD 13 0 : Nat) : Int) := by have := PK.getD_lt HB.out 13; exact IntWalk.i64_in _ (by omega)
  generalize PK.tv m 1 4 = ni at *
  generalize PK.tv m 5 4 = na at *
  generalize PK.tv m 9 4 = ns at *
  generalize m.getD 13 0 = nt at *
  refine wp_region_noPanic ?_
  refine PX.wp_region_y (fun w' => Below W1.heap.size W1 w') [] (by kernel_rfl) (Below.refl _ _).drew (fun hHeld => ?_)
  refine PX.wpAnyY_take (i := 0) (oi := ?_) (v := ?_) ?_ (by kernel_rfl) (by kernel_rfl) (by kernel_rfl) (by kernel_rfl) (by kernel_rfl) (fun _ _ _ h => h) (Or.inl ⟨?_, ?_⟩) (by assumption) ?_
  rotate_left 2
  · simp only [List.getElem?_toArray, List.getElem?_cons_succ, List.getElem?_cons_zero]; rfl
  · rfl
  · intro w hSw; (try dsimp only at hSw); go_simp <;> with_reducible rfl
  (try simp only [Act.put, List.setIfInBounds_toArray, List.set_cons_zero, List.set_cons_succ])
  refine PX.wpAnyY_take (i := 2) (oi := ?_) (v := ?_) ?_ (by kernel_rfl) (by kernel_rfl) (by kernel_rfl) (by kernel_rfl) (by kernel_rfl) (fun _ _ _ h => h) (Or.inl ⟨?_, ?_⟩) (by assumption) ?_
  rotate_left 2
  · simp only [List.getElem?_toArray, List.getElem?_cons_succ, List.getElem?_cons_zero]; rfl
  · rfl
  · intro w hSw; (try dsimp only at hSw); go_simp <;> with_reducible rfl
  (try simp only [Act.put, List.setIfInBounds_toArray, List.set_cons_zero, List.set_cons_succ])
  refine PX.wpAnyY_take (i := 4) (oi := ?_) (v := ?_) ?_ (by kernel_rfl) (by kernel_rfl) (by kernel_rfl) (by kernel_rfl) (by kernel_rfl) (fun _ _ _ h => h) (Or.inl ⟨?_, ?_⟩) (by assumption) ?_
  rotate_left 2
  · simp only [List.getElem?_toArray, List.getElem?_cons_succ, List.getElem?_cons_zero]; rfl
  · rfl
  · intro w hSw; (try dsimp only at hSw); go_simp <;> with_reducible rfl
  (try simp only [Act.put, List.setIfInBounds_toArray, List.set_cons_zero, List.set_cons_succ])
  refine PX.wpAnyY_take (i := 6) (oi := ?_) (v := ?_) ?_ (by kernel_rfl) (by kernel_rfl) (by kernel_rfl) (by kernel_rfl) (by kernel_rfl) (fun _ _ _ h => h) (Or.inl ⟨?_, ?_⟩) (by assumption) ?_
  rotate_left 2
  · simp only [List.getElem?_toArray, List.getElem?_cons_succ, List.getElem?_cons_zero]; rfl
  · rfl
  · intro w hSw; (try dsimp only at hSw); go_simp <;> with_reducible rfl
  (try simp only [Act.put, List.setIfInBounds_toArray, List.set_cons_zero, List.set_cons_succ])
  refine PX.wpAnyY_take (i := 7) (oi := ?_) (v := ?_) ?_ (by kernel_rfl) (by kernel_rfl) (by kernel_rfl) (by kernel_rfl) (by kernel_rfl) (fun _ _ _ h => h) (Or.inl ⟨?_, ?_⟩) (by assumption) ?_
  rotate_left 2
  · simp only [List.getElem?_toArray, List.getElem?_cons_succ, List.getElem?_cons_zero]; rfl
  · rfl
  · intro w hSw; (try dsimp only at hSw); go_simp <;> with_reducible rfl
  (try simp only [Act.put, List.setIfInBounds_toArray, List.set_cons_zero, List.set_cons_succ])
  refine PX.wpAnyY_take (i := 8) (oi := ?_) (v := ?_) ?_ (by kernel_rfl) (by kernel_rfl) (by kernel_rfl) (by kernel_rfl) (by kernel_rfl) (fun _ _ _ h => h) (Or.inl ⟨?_, ?_⟩) (by assumption) ?_
  rotate_left 2
  · simp only [List.getElem?_toArray, List.getElem?_cons_succ, List.getElem?_cons_zero]; rfl
  · rfl
  · intro w hSw; (try dsimp only at hSw); have hC := fun (b o : Nat) (h : b < W1.heap.size) => Below.cell hSw (p := ⟨b, o, none⟩) h; go_simp <;> with_reducible rfl
  (try simp only [Act.put, List.setIfInBounds_toArray, List.set_cons_zero, List.set_cons_succ])
  refine PX.wpAnyY_take (i := 9) (oi := ?_) (v := ?_) ?_ (by kernel_rfl) (by kernel_rfl) (by kernel_rfl) (by kernel_rfl) (by kernel_rfl) (fun _ _ _ h => h) (Or.inl ⟨?_, ?_⟩) (by assumption) ?_
  rotate_left 2
  · simp only [List.getElem?_toArray, List.getElem?_cons_succ, List.getElem?_cons_zero]; rfl
  · rfl
  · intro w hSw; (try dsimp only at hSw); go_simp <;> with_reducible rfl
  (try simp only [Act.put, List.setIfInBounds_toArray, List.set_cons_zero, List.set_cons_succ])
  refine PX.wpAnyY_two (i := 1) (j := 11) (o := ?_) (o' := ?_) (by kernel_rfl) ?_ ?_ (fun Kq hKq => ?_) (fun Kq hKq => ?_)
  rotate_left 2
  · simp only [List.getElem?_toArray, List.getElem?_cons_succ, List.getElem?_cons_zero]; rfl
  · simp only [List.getElem?_toArray, List.getElem?_cons_succ, List.getElem?_cons_zero]; rfl
  · go_simp
    refine (CN1.out _ hHeld).mono ?_
    rintro e u1 ⟨rfl, bq⟩
    have H1 := Lib.hid (thence hHeld bq (Nat.le_refl _))
    clear bq
    go_wp2_with fail
    refine hKq.out _ _ (H1.out) (fun hHeld => ?_)
    clear hKq Kq
    (try simp only [Act.put, List.setIfInBounds_toArray, List.set_cons_zero, List.set_cons_succ])
    refine PX.wpAnyY_two (i := 3) (j := 11) (o := ?_) (o' := ?_) (by kernel_rfl) ?_ ?_ (fun Kq hKq => ?_) (fun Kq hKq => ?_)
    rotate_left 2
    · simp only [List.getElem?_toArray, List.getElem?_cons_succ, List.getElem?_cons_zero]; rfl
    · simp only [List.getElem?_toArray, List.getElem?_cons_succ, List.getElem?_cons_zero]; rfl
    · go_simp
      refine (CN5.out _ hHeld).mono ?_
      rintro e u3 ⟨rfl, bq⟩
      have H3 := Lib.hid (thence hHeld bq (Nat.le_refl _))
      clear bq
      go_wp2_with fail
      refine hKq.out _ _ (H3.out) (fun hHeld => ?_)
      clear hKq Kq
      (try simp only [Act.put, List.setIfInBounds_toArray, List.set_cons_zero, List.set_cons_succ])
      refine PX.wpAnyY_two (i := 5) (j := 11) (o := ?_) (o' := ?_) (by kernel_rfl) ?_ ?_ (fun Kq hKq => ?_) (fun Kq hKq => ?_)
      rotate_left 2
      · simp only [List.getElem?_toArray, List.getElem?_cons_succ, List.getElem?_cons_zero]; rfl
      · simp only [List.getElem?_toArray, List.getElem?_cons_succ, List.getElem?_cons_zero]; rfl
      · go_simp
        refine (CN9.out _ hHeld).mono ?_
        rintro e u5 ⟨rfl, bq⟩
        have H5 := Lib.hid (thence hHeld bq (Nat.le_refl _))
        clear bq
        go_wp2_with fail
        refine hKq.out _ _ (H5.out) (fun hHeld => ?_)
        clear hKq Kq
        (try simp only [Act.put, List.setIfInBounds_toArray, List.set_cons_zero, List.set_cons_succ])
        refine PX.wpAnyY_take (i := 10) (oi := ?_) (v := ?_) ?_ (by kernel_rfl) (by kernel_rfl) (by kernel_rfl) (by kernel_rfl) (by kernel_rfl) (fun _ _ _ h => h) (Or.inl ⟨?_, ?_⟩) (by assumption) ?_
        rotate_left 2
        · simp only [List.getElem?_toArray, List.getElem?_cons_succ, List.getElem?_cons_zero]; rfl
        · rfl
        · intro w hSw; (try dsimp only at hSw); go_simp <;> with_reducible rfl
        (try simp only [Act.put, List.setIfInBounds_toArray, List.set_cons_zero, List.set_cons_succ])
        refine PX.wpAnyY_one (i := 11) (o := ?_) (by kernel_rfl) ?_ (fun Kq hKq => ?_)
        rotate_left
        · simp only [List.getElem?_toArray, List.getElem?_cons_succ, List.getElem?_cons_zero]; rfl
        go_simp
        have hl : Below u5.heap.size u5 (u5.alloc (.cells #[.int .u32 0, .int .u32 0, .int .u32 0, .int .i64 0] 28)) := (Below.refl _ _).alloc (Nat.le_refl _) _
        have HA : Hid (Below W1.heap.size W1 (u5.alloc (.cells #[.int .u32 0, .int .u32 0, .int .u32 0, .int .i64 0] 28))) := (thence hHeld hl (Nat.le_refl _))
        have BN : Hid (Bx (u5.alloc (.cells #[.int .u32 0, .int .u32 0, .int .u32 0, .int .i64 0] 28)) u5.heap.size [.int .u32 0, .int .u32 0, .int .u32 0, .int .i64 0]) := Bx.new u5 [.int .u32 0, .int .u32 0, .int .u32 0, .int .i64 0] 28
        have hgb : Hid (W1.heap.size ≤ u5.heap.size) := hHeld.size
        clear hl
        generalize (u5.alloc (.cells #[.int .u32 0, .int .u32 0, .int .u32 0, .int .i64 0] 28)) = wa at *
        obtain ⟨gb, hG⟩ : ∃ gb, u5.heap.size = gb := ⟨_, rfl⟩
        rw [hG] at BN ⊢
        replace hgb : Hid (W1.heap.size ≤ gb) := hG ▸ hgb.out
        clear hG
        obtain ⟨z0, z1, z2, z3⟩ := BN.out.four'
        obtain ⟨y0, y1, y2, y3⟩ := BN.out.froz4
        have ltN := BN.out.lt
        refine hKq.out _ _ (HA.out) (fun hHeld => ?_)
        clear hKq Kq
        (try simp only [Act.put, List.setIfInBounds_toArray, List.set_cons_zero, List.set_cons_succ])
        refine PX.wpAnyY_one (i := 12) (o := ?_) (by kernel_rfl) ?_ (fun Kq hKq => ?_)
        rotate_left
        · simp only [List.getElem?_toArray, List.getElem?_cons_succ, List.getElem?_cons_zero]; rfl
        go_simp
        have BM : Hid (Bx ((((wa.setCell ⟨gb, 0, none⟩ (.int .u32 (ni : Int))).setCell ⟨gb, 1, none⟩ (.int .u32 (na : Int))).setCell ⟨gb, 2, none⟩ (.int .u32 (ns : Int))).setCell ⟨gb, 3, none⟩ (.int .i64 (nt : Int))) gb [.int .u32 (ni : Int), .int .u32 (na : Int), .int .u32 (ns : Int), .int .i64 (nt : Int)]) := ((((BN.out.set 0 (.int .u32 (ni : Int))).set 1 (.int .u32 (na : Int))).set 2 (.int .u32 (ns : Int))).set 3 (.int .i64 (nt : Int)))
        have HM : Hid (Below W1.heap.size W1 ((((wa.setCell ⟨gb, 0, none⟩ (.int .u32 (ni : Int))).setCell ⟨gb, 1, none⟩ (.int .u32 (na : Int))).setCell ⟨gb, 2, none⟩ (.int .u32 (ns : Int))).setCell ⟨gb, 3, none⟩ (.int .i64 (nt : Int)))) := ((((hHeld.setCell hgb.out (.int .u32 (ni : Int))).setCell hgb.out (.int .u32 (na : Int))).setCell hgb.out (.int .u32 (ns : Int))).setCell hgb.out (.int .i64 (nt : Int)))
        clear BN z0 z1 z2 z3 y0 y1 y2 y3 ltN
        generalize ((((wa.setCell ⟨gb, 0, none⟩ (.int .u32 (ni : Int))).setCell ⟨gb, 1, none⟩ (.int .u32 (na : Int))).setCell ⟨gb, 2, none⟩ (.int .u32 (ns : Int))).setCell ⟨gb, 3, none⟩ (.int .i64 (nt : Int))) = wn at *
        refine hKq.out _ _ (HM.out) (fun hHeld => ?_)
        clear hKq Kq
        (try simp only [Act.put, List.setIfInBounds_toArray, List.set_cons_zero, List.set_cons_succ])
        refine PX.wpAnyY_done (by kernel_rfl) ?_ _
        refine NoPanic.normal ?_
        clear hHeld
        clear f13
        have BN := BM
        have HN := HM
        clear BM HM
        go_wp2_with fail
        have BL := Lib.hid (BR.out.here HN.out)
        have RN := Lib.hid (R1.out.below HN.out)
        have hgn : Hid (Below w.heap.size w wn) := B0.out.trans ((thence B1.out HN.out (Nat.le_refl _)).mono B0.out.size)
        have CM := Lib.hid (refSMay_any ni na ns (nt : Int))
        have ltL := BL.out.lt
        have ltN := BN.out.lt
        obtain ⟨z0, z1, z2, z3⟩ := BN.out.four'
        cases hm : Sup.may ⟨ni, na, ns, (nt : Int)⟩ with
        | false =>
          rw [hm] at CM
          have hgd : SB.good m = false := by unfold SB.good; rw [HP.out, hm]; rfl
          have hx := HX.out
          rw [hgd, if_neg (by decide)] at hx
          injection hx with hx1 hx2
          subst hx1 hx2
          clear hm hgd HX
          refine wp_region_noPanic ?_
          refine PX.wp_region_y (fun w' => Below wn.heap.size wn w') [] (by kernel_rfl) (Below.refl _ _).drew (fun hHeld => ?_)
          refine PX.wpAnyY_take (i := 0) (oi := ?_) (v := ?_) ?_ (by kernel_rfl) (by kernel_rfl) (by kernel_rfl) (by kernel_rfl) (by kernel_rfl) (fun _ _ _ h => h) (Or.inl ⟨?_, ?_⟩) (by assumption) ?_
          rotate_left 2
          · simp only [List.getElem?_toArray, List.getElem?_cons_succ, List.getElem?_cons_zero]; rfl
          · rfl
          · intro w hSw; (try dsimp only at hSw); have hC := fun (b o : Nat) (h : b < wn.heap.size) => Below.cell hSw (p := ⟨b, o, none⟩) h; go_simp <;> with_reducible rfl
          (try simp only [Act.put, List.setIfInBounds_toArray, List.set_cons_zero, List.set_cons_succ])
          refine PX.wpAnyY_one (i := 1) (o := ?_) (by kernel_rfl) ?_ (fun Kq hKq => ?_)
          rotate_left
          · simp only [List.getElem?_toArray, List.getElem?_cons_succ, List.getElem?_cons_zero]; rfl
          go_simp
          (with_reducible refine (CM.out _).mono ?_)
          rintro e u1 ⟨rfl, bq⟩
          have H1 := Lib.hid (thence hHeld bq (Nat.le_refl _))
          clear bq
          go_wp2_with fail
          refine hKq.out _ _ (H1.out) (fun hHeld => ?_)
          clear hKq Kq
          (try simp only [Act.put, List.setIfInBounds_toArray, List.set_cons_zero, List.set_cons_succ])
          refine PX.wpAnyY_one (i := 2) (o := ?_) (by kernel_rfl) ?_ (fun Kq hKq => ?_)
          rotate_left
          · simp only [List.getElem?_toArray, List.getElem?_cons_succ, List.getElem?_cons_zero]; rfl
          go_simp
          refine hKq.out _ _ (hHeld) (fun hHeld => ?_)
          clear hKq Kq
          (try simp only [Act.put, List.setIfInBounds_toArray, List.set_cons_zero, List.set_cons_succ])
          refine PX.wpAnyY_one (i := 3) (o := ?_) (by kernel_rfl) ?_ (fun Kq hKq => ?_)
          rotate_left
          · simp only [List.getElem?_toArray, List.getElem?_cons_succ, List.getElem?_cons_zero]; rfl
          go_simp
          refine hKq.out _ _ (hHeld) (fun hHeld => ?_)
          clear hKq Kq
          (try simp only [Act.put, List.setIfInBounds_toArray, List.set_cons_zero, List.set_cons_succ])
          refine PX.wpAnyY_take (i := 4) (oi := ?_) (v := undef) ?_ (by kernel_rfl) (by kernel_rfl) (by kernel_rfl) (by kernel_rfl) (by kernel_rfl) (fun _ _ _ h => h) (Or.inr ⟨?_, rfl⟩) (by assumption) ?_
          rotate_left
          · simp only [List.getElem?_toArray, List.getElem?_cons_succ, List.getElem?_cons_zero]; rfl
          · rfl
          (try simp only [Act.put, List.setIfInBounds_toArray, List.set_cons_zero, List.set_cons_succ])
          refine PX.wpAnyY_take (i := 5) (oi := ?_) (v := undef) ?_ (by kernel_rfl) (by kernel_rfl) (by kernel_rfl) (by kernel_rfl) (by kernel_rfl) (fun _ _ _ h => h) (Or.inr ⟨?_, rfl⟩) (by assumption) ?_
          rotate_left
          · simp only [List.getElem?_toArray, List.getElem?_cons_succ, List.getElem?_cons_zero]; rfl
          · rfl
          (try simp only [Act.put, List.setIfInBounds_toArray, List.set_cons_zero, List.set_cons_succ])
          refine PX.wpAnyY_take (i := 6) (oi := ?_) (v := undef) ?_ (by kernel_rfl) (by kernel_rfl) (by kernel_rfl) (by kernel_rfl) (by kernel_rfl) (fun _ _ _ h => h) (Or.inr ⟨?_, rfl⟩) (by assumption) ?_
          rotate_left
          · simp only [List.getElem?_toArray, List.getElem?_cons_succ, List.getElem?_cons_zero]; rfl
          · rfl
          (try simp only [Act.put, List.setIfInBounds_toArray, List.set_cons_zero, List.set_cons_succ])
          refine PX.wpAnyY_one (i := 7) (o := ?_) (by kernel_rfl) ?_ (fun Kq hKq => ?_)
          rotate_left
          · simp only [List.getElem?_toArray, List.getElem?_cons_succ, List.getElem?_cons_zero]; rfl
          go_simp
          refine hKq.out _ _ (hHeld) (fun hHeld => ?_)
          clear hKq Kq
          (try simp only [Act.put, List.setIfInBounds_toArray, List.set_cons_zero, List.set_cons_succ])
          refine PX.wpAnyY_one (i := 8) (o := ?_) (by kernel_rfl) ?_ (fun Kq hKq => ?_)
          rotate_left
          · simp only [List.getElem?_toArray, List.getElem?_cons_succ, List.getElem?_cons_zero]; rfl
          go_simp
          refine hKq.out _ _ (hHeld) (fun hHeld => ?_)
          clear hKq Kq
          (try simp only [Act.put, List.setIfInBounds_toArray, List.set_cons_zero, List.set_cons_succ])
          refine PX.wpAnyY_one (i := 9) (o := ?_) (by kernel_rfl) ?_ (fun Kq hKq => ?_)
          rotate_left
          · simp only [List.getElem?_toArray, List.getElem?_cons_succ, List.getElem?_cons_zero]; rfl
          go_simp
          refine hKq.out _ _ (hHeld) (fun hHeld => ?_)
          clear hKq Kq
          (try simp only [Act.put, List.setIfInBounds_toArray, List.set_cons_zero, List.set_cons_succ])
          refine PX.wpAnyY_one (i := 10) (o := ?_) (by kernel_rfl) ?_ (fun Kq hKq => ?_)
          rotate_left
          · simp only [List.getElem?_toArray, List.getElem?_cons_succ, List.getElem?_cons_zero]; rfl
          go_simp
          refine hKq.out _ _ (hHeld) (fun hHeld => ?_)
          clear hKq Kq
          (try simp only [Act.put, List.setIfInBounds_toArray, List.set_cons_zero, List.set_cons_succ])
          refine PX.wpAnyY_done (by kernel_rfl) ?_ _
          refine NoPanic.normal ?_
          replace BL := Lib.hid (BL.out.here H1.out)
          replace BN := Lib.hid (BN.out.here H1.out)
          have HU := Lib.hid (hgn.out.trans (H1.out.mono hgn.out.size))
          clear ltL ltN
          have BF : Hid (Bx ((((u1.setCell ⟨w.heap.size, 0, none⟩ (.int .u32 0)).setCell ⟨w.heap.size, 1, none⟩ (.int .u32 0)).setCell ⟨w.heap.size, 2, none⟩ (.int .u32 0)).setCell ⟨w.heap.size, 3, none⟩ (.int .i64 0)) w.heap.size [.int .u32 0, .int .u32 0, .int .u32 0, .int .i64 0]) := ((((BL.out.set 0 (.int .u32 0)).set 1 (.int .u32 0)).set 2 (.int .u32 0)).set 3 (.int .i64 0))
          have HF : Hid (Below w.heap.size w ((((u1.setCell ⟨w.heap.size, 0, none⟩ (.int .u32 0)).setCell ⟨w.heap.size, 1, none⟩ (.int .u32 0)).setCell ⟨w.heap.size, 2, none⟩ (.int .u32 0)).setCell ⟨w.heap.size, 3, none⟩ (.int .i64 0))) := ((((HU.out.setCell (Nat.le_refl _) (.int .u32 0)).setCell (Nat.le_refl _) (.int .u32 0)).setCell (Nat.le_refl _) (.int .u32 0)).setCell (Nat.le_refl _) (.int .i64 0))
          clear hHeld
          obtain ⟨z0, z1, z2, z3⟩ := BN.out.four'
          obtain ⟨r0, r1, r2, r3⟩ := BL.out.four'
          obtain ⟨s0, s1, s2, s3⟩ := BL.out.froz4
          have ltL := BL.out.lt
          have ltN := BN.out.lt
          go_wp2_with fail
          clear z0 z1 z2 z3 r0 r1 r2 r3 s0 s1 s2 s3
          obtain ⟨q0, q1, q2, q3⟩ := BF.out.four'
          exact bodyPost_ret (v := .tuple #[supV Sup.zero, .int .i64 90]) (by simp [results, Try.results15, go_sem, q0, q1, q2, q3]; rfl) rfl ⟨rfl, HF.out⟩
        | true =>
          have hmay := SB.may_iff.1 hm
          have CB := Lib.hid (fun w1 => refSBlock_any ni na ns (nt : Int) w1 HI.out hmay)
          have HBB : Hid (Bytes (Sup.block ⟨ni, na, ns, (nt : Int)⟩)) := SB.block_bytes hmay HI.out
          have HBL : Hid ((Sup.block ⟨ni, na, ns, (nt : Int)⟩).length = 128) := SB.block_length _
          rw [hm] at CM
          have hgd : SB.good m = decide (Sup.block ⟨ni, na, ns, (nt : Int)⟩ = m) := by unfold SB.good; rw [HP.out, hm]; rfl
          have hx := HX.out
          rw [hgd, HP.out] at hx
          clear hm hgd hmay HX
          generalize hBK : Sup.block ⟨ni, na, ns, (nt : Int)⟩ = K at *
          clear hBK
          by_cases hk : K = m
          · have hn : ((str K).toList == (str m).toList) = true := by rw [str_two HBB.out HB.out]; exact decide_eq_true hk
            rw [decide_eq_true hk, if_pos rfl] at hx
            injection hx with hx1 hx2
            subst hx1 hx2
            clear hk
            refine wp_region_noPanic ?_
            refine PX.wp_region_y (fun w' => Below wn.heap.size wn w') [] (by kernel_rfl) (Below.refl _ _).drew (fun hHeld => ?_)
            refine PX.wpAnyY_take (i := 0) (oi := ?_) (v := ?_) ?_ (by kernel_rfl) (by kernel_rfl) (by kernel_rfl) (by kernel_rfl) (by kernel_rfl) (fun _ _ _ h => h) (Or.inl ⟨?_, ?_⟩) (by assumption) ?_
            rotate_left 2
            · simp only [List.getElem?_toArray, List.getElem?_cons_succ, List.getElem?_cons_zero]; rfl
            · rfl
            · intro w hSw; (try dsimp only at hSw); have hC := fun (b o : Nat) (h : b < wn.heap.size) => Below.cell hSw (p := ⟨b, o, none⟩) h; go_simp <;> with_reducible rfl
            (try simp only [Act.put, List.setIfInBounds_toArray, List.set_cons_zero, List.set_cons_succ])
            refine PX.wpAnyY_one (i := 1) (o := ?_) (by kernel_rfl) ?_ (fun Kq hKq => ?_)
            rotate_left
            · simp only [List.getElem?_toArray, List.getElem?_cons_succ, List.getElem?_cons_zero]; rfl
            go_simp
            (with_reducible refine (CM.out _).mono ?_)
            rintro e u1 ⟨rfl, bq⟩
            have H1 := Lib.hid (thence hHeld bq (Nat.le_refl _))
            clear bq
            go_wp2_with fail
            refine hKq.out _ _ (H1.out) (fun hHeld => ?_)
            clear hKq Kq
            (try simp only [Act.put, List.setIfInBounds_toArray, List.set_cons_zero, List.set_cons_succ])
            refine PX.wpAnyY_one (i := 2) (o := ?_) (by kernel_rfl) ?_ (fun Kq hKq => ?_)
            rotate_left
            · simp only [List.getElem?_toArray, List.getElem?_cons_succ, List.getElem?_cons_zero]; rfl
            go_simp
            refine hKq.out _ _ (hHeld) (fun hHeld => ?_)
            clear hKq Kq
            (try simp only [Act.put, List.setIfInBounds_toArray, List.set_cons_zero, List.set_cons_succ])
            refine PX.wpAnyY_one (i := 3) (o := ?_) (by kernel_rfl) ?_ (fun Kq hKq => ?_)
            rotate_left
            · simp only [List.getElem?_toArray, List.getElem?_cons_succ, List.getElem?_cons_zero]; rfl
            go_simp
            refine hKq.out _ _ (hHeld) (fun hHeld => ?_)
            clear hKq Kq
            (try simp only [Act.put, List.setIfInBounds_toArray, List.set_cons_zero, List.set_cons_succ])
            refine PX.wpAnyY_take (i := 4) (oi := ?_) (v := ?_) ?_ (by kernel_rfl) (by kernel_rfl) (by kernel_rfl) (by kernel_rfl) (by kernel_rfl) (fun _ _ _ h => h) (Or.inl ⟨?_, ?_⟩) (by assumption) ?_
            rotate_left 2
            · simp only [List.getElem?_toArray, List.getElem?_cons_succ, List.getElem?_cons_zero]; rfl
            · rfl
            · intro w hSw; (try dsimp only at hSw); have hC := fun (b o : Nat) (h : b < wn.heap.size) => Below.cell hSw (p := ⟨b, o, none⟩) h; go_simp <;> with_reducible rfl
            (try simp only [Act.put, List.setIfInBounds_toArray, List.set_cons_zero, List.set_cons_succ])
            refine PX.wpAnyY_take (i := 7) (oi := ?_) (v := ?_) ?_ (by kernel_rfl) (by kernel_rfl) (by kernel_rfl) (by kernel_rfl) (by kernel_rfl) (fun _ _ _ h => h) (Or.inl ⟨?_, ?_⟩) (by assumption) ?_
            rotate_left 2
            · simp only [List.getElem?_toArray, List.getElem?_cons_succ, List.getElem?_cons_zero]; rfl
            · rfl
            · intro w hSw; (try dsimp only at hSw); go_simp <;> with_reducible rfl
            (try simp only [Act.put, List.setIfInBounds_toArray, List.set_cons_zero, List.set_cons_succ])
            refine PX.wpAnyY_take (i := 8) (oi := ?_) (v := ?_) ?_ (by kernel_rfl) (by kernel_rfl) (by kernel_rfl) (by kernel_rfl) (by kernel_rfl) (fun _ _ _ h => h) (Or.inl ⟨?_, ?_⟩) (by assumption) ?_
            rotate_left 2
            · simp only [List.getElem?_toArray, List.getElem?_cons_succ, List.getElem?_cons_zero]; rfl
            · rfl
            · intro w hSw; (try dsimp only at hSw); have T8 := text_is w _ _ _ _ (RN.out.below (hSw.mono (HN.out.size))); go_simp <;> with_reducible rfl
            (try simp only [Act.put, List.setIfInBounds_toArray, List.set_cons_zero, List.set_cons_succ])
            refine PX.wpAnyY_one (i := 5) (o := ?_) (by kernel_rfl) ?_ (fun Kq hKq => ?_)
            rotate_left
            · simp only [List.getElem?_toArray, List.getElem?_cons_succ, List.getElem?_cons_zero]; rfl
            go_simp
            (with_reducible refine (CB.out _).mono ?_)
            rintro e u5 ⟨g5, rfl, hg5, hb5, bq⟩
            have H5 := Lib.hid (thence hHeld bq (Nat.le_refl _))
            have T5 := text_is u5 _ _ _ _ (hb5.rd HBL.out HBB.out)
            clear bq
            go_wp2_with fail
            refine hKq.out _ _ (H5.out) (fun hHeld => ?_)
            clear hKq Kq
            (try simp only [Act.put, List.setIfInBounds_toArray, List.set_cons_zero, List.set_cons_succ])
            refine PX.wpAnyY_one (i := 6) (o := ?_) (by kernel_rfl) ?_ (fun Kq hKq => ?_)
            rotate_left
            · simp only [List.getElem?_toArray, List.getElem?_cons_succ, List.getElem?_cons_zero]; rfl
            go_simp
            refine hKq.out _ _ (hHeld) (fun hHeld => ?_)
            clear hKq Kq
            (try simp only [Act.put, List.setIfInBounds_toArray, List.set_cons_zero, List.set_cons_succ])
            refine PX.wpAnyY_one (i := 9) (o := ?_) (by kernel_rfl) ?_ (fun Kq hKq => ?_)
            rotate_left
            · simp only [List.getElem?_toArray, List.getElem?_cons_succ, List.getElem?_cons_zero]; rfl
            go_simp
            refine hKq.out _ _ (hHeld) (fun hHeld => ?_)
            clear hKq Kq
            (try simp only [Act.put, List.setIfInBounds_toArray, List.set_cons_zero, List.set_cons_succ])
            refine PX.wpAnyY_one (i := 10) (o := ?_) (by kernel_rfl) ?_ (fun Kq hKq => ?_)
            rotate_left
            · simp only [List.getElem?_toArray, List.getElem?_cons_succ, List.getElem?_cons_zero]; rfl
            go_simp
            refine hKq.out _ _ (hHeld) (fun hHeld => ?_)
            clear hKq Kq
            (try simp only [Act.put, List.setIfInBounds_toArray, List.set_cons_zero, List.set_cons_succ])
            refine PX.wpAnyY_done (by kernel_rfl) ?_ _
            refine NoPanic.normal ?_
            replace BL := Lib.hid (BL.out.here H5.out)
            replace BN := Lib.hid (BN.out.here H5.out)
            have HU := Lib.hid (hgn.out.trans (H5.out.mono hgn.out.size))
            clear ltL ltN
            have BF : Hid (Bx ((((u5.setCell ⟨w.heap.size, 0, none⟩ (.int .u32 (ni : Int))).setCell ⟨w.heap.size, 1, none⟩ (.int .u32 (na : Int))).setCell ⟨w.heap.size, 2, none⟩ (.int .u32 (ns : Int))).setCell ⟨w.heap.size, 3, none⟩ (.int .i64 (nt : Int))) w.heap.size [.int .u32 (ni : Int), .int .u32 (na : Int), .int .u32 (ns : Int), .int .i64 (nt : Int)]) := ((((BL.out.set 0 (.int .u32 (ni : Int))).set 1 (.int .u32 (na : Int))).set 2 (.int .u32 (ns : Int))).set 3 (.int .i64 (nt : Int)))
            have HF : Hid (Below w.heap.size w ((((u5.setCell ⟨w.heap.size, 0, none⟩ (.int .u32 (ni : Int))).setCell ⟨w.heap.size, 1, none⟩ (.int .u32 (na : Int))).setCell ⟨w.heap.size, 2, none⟩ (.int .u32 (ns : Int))).setCell ⟨w.heap.size, 3, none⟩ (.int .i64 (nt : Int)))) := ((((HU.out.setCell (Nat.le_refl _) (.int .u32 (ni : Int))).setCell (Nat.le_refl _) (.int .u32 (na : Int))).setCell (Nat.le_refl _) (.int .u32 (ns : Int))).setCell (Nat.le_refl _) (.int .i64 (nt : Int)))
            clear hHeld
            obtain ⟨z0, z1, z2, z3⟩ := BN.out.four'
            obtain ⟨r0, r1, r2, r3⟩ := BL.out.four'
            obtain ⟨s0, s1, s2, s3⟩ := BL.out.froz4
            have ltL := BL.out.lt
            have ltN := BN.out.lt
            go_wp2_with fail
            clear z0 z1 z2 z3 r0 r1 r2 r3 s0 s1 s2 s3
            obtain ⟨q0, q1, q2, q3⟩ := BF.out.four'
            exact bodyPost_ret (v := .tuple #[supV ⟨ni, na, ns, (nt : Int)⟩, .int .i64 0]) (by simp [results, Try.results15, go_sem, q0, q1, q2, q3]; rfl) rfl ⟨rfl, HF.out⟩
          · have hn : ((str K).toList == (str m).toList) = false := by rw [str_two HBB.out HB.out]; exact decide_eq_false hk
            rw [decide_eq_false hk, if_neg (by decide)] at hx
            injection hx with hx1 hx2
            subst hx1 hx2
            clear hk
            refine wp_region_noPanic ?_
            refine PX.wp_region_y (fun w' => Below wn.heap.size wn w') [] (by kernel_rfl) (Below.refl _ _).drew (fun hHeld => ?_)
            refine PX.wpAnyY_take (i := 0) (oi := ?_) (v := ?_) ?_ (by kernel_rfl) (by kernel_rfl) (by kernel_rfl) (by kernel_rfl) (by kernel_rfl) (fun _ _ _ h => h) (Or.inl ⟨?_, ?_⟩) (by assumption) ?_
            rotate_left 2
            · simp only [List.getElem?_toArray, List.getElem?_cons_succ, List.getElem?_cons_zero]; rfl
            · rfl
            · intro w hSw; (try dsimp only at hSw); have hC := fun (b o : Nat) (h : b < wn.heap.size) => Below.cell hSw (p := ⟨b, o, none⟩) h; go_simp <;> with_reducible rfl
            (try simp only [Act.put, List.setIfInBounds_toArray, List.set_cons_zero, List.set_cons_succ])
            refine PX.wpAnyY_one (i := 1) (o := ?_) (by kernel_rfl) ?_ (fun Kq hKq => ?_)
            rotate_left
            · simp only [List.getElem?_toArray, List.getElem?_cons_succ, List.getElem?_cons_zero]; rfl
            go_simp
            (with_reducible refine (CM.out _).mono ?_)
            rintro e u1 ⟨rfl, bq⟩
            have H1 := Lib.hid (thence hHeld bq (Nat.le_refl _))
            clear bq
            go_wp2_with fail
            refine hKq.out _ _ (H1.out) (fun hHeld => ?_)
            clear hKq Kq
            (try simp only [Act.put, List.setIfInBounds_toArray, List.set_cons_zero, List.set_cons_succ])
            refine PX.wpAnyY_one (i := 2) (o := ?_) (by kernel_rfl) ?_ (fun Kq hKq => ?_)
            rotate_left
            · simp only [List.getElem?_toArray, List.getElem?_cons_succ, List.getElem?_cons_zero]; rfl
            go_simp
            refine hKq.out _ _ (hHeld) (fun hHeld => ?_)
            clear hKq Kq
            (try simp only [Act.put, List.setIfInBounds_toArray, List.set_cons_zero, List.set_cons_succ])
            refine PX.wpAnyY_one (i := 3) (o := ?_) (by kernel_rfl) ?_ (fun Kq hKq => ?_)
            rotate_left
            · simp only [List.getElem?_toArray, List.getElem?_cons_succ, List.getElem?_cons_zero]; rfl
            go_simp
            refine hKq.out _ _ (hHeld) (fun hHeld => ?_)
            clear hKq Kq
            (try simp only [Act.put, List.setIfInBounds_toArray, List.set_cons_zero, List.set_cons_succ])
            refine PX.wpAnyY_take (i := 4) (oi := ?_) (v := ?_) ?_ (by kernel_rfl) (by kernel_rfl) (by kernel_rfl) (by kernel_rfl) (by kernel_rfl) (fun _ _ _ h => h) (Or.inl ⟨?_, ?_⟩) (by assumption) ?_
            rotate_left 2
            · simp only [List.getElem?_toArray, List.getElem?_cons_succ, List.getElem?_cons_zero]; rfl
            · rfl
            · intro w hSw; (try dsimp only at hSw); have hC := fun (b o : Nat) (h : b < wn.heap.size) => Below.cell hSw (p := ⟨b, o, none⟩) h; go_simp <;> with_reducible rfl
            (try simp only [Act.put, List.setIfInBounds_toArray, List.set_cons_zero, List.set_cons_succ])
            refine PX.wpAnyY_take (i := 7) (oi := ?_) (v := ?_) ?_ (by kernel_rfl) (by kernel_rfl) (by kernel_rfl) (by kernel_rfl) (by kernel_rfl) (fun _ _ _ h => h) (Or.inl ⟨?_, ?_⟩) (by assumption) ?_
            rotate_left 2
            · simp only [List.getElem?_toArray, List.getElem?_cons_succ, List.getElem?_cons_zero]; rfl
            · rfl
            · intro w hSw; (try dsimp only at hSw); go_simp <;> with_reducible rfl
            (try simp only [Act.put, List.setIfInBounds_toArray, List.set_cons_zero, List.set_cons_succ])
            refine PX.wpAnyY_take (i := 8) (oi := ?_) (v := ?_) ?_ (by kernel_rfl) (by kernel_rfl) (by kernel_rfl) (by kernel_rfl) (by kernel_rfl) (fun _ _ _ h => h) (Or.inl ⟨?_, ?_⟩) (by assumption) ?_
            rotate_left 2
            · simp only [List.getElem?_toArray, List.getElem?_cons_succ, List.getElem?_cons_zero]; rfl
            · rfl
            · intro w hSw; (try dsimp only at hSw); have T8 := text_is w _ _ _ _ (RN.out.below (hSw.mono (HN.out.size))); go_simp <;> with_reducible rfl
            (try simp only [Act.put, List.setIfInBounds_toArray, List.set_cons_zero, List.set_cons_succ])
            refine PX.wpAnyY_one (i := 5) (o := ?_) (by kernel_rfl) ?_ (fun Kq hKq => ?_)
            rotate_left
            · simp only [List.getElem?_toArray, List.getElem?_cons_succ, List.getElem?_cons_zero]; rfl
            go_simp
            (with_reducible refine (CB.out _).mono ?_)
            rintro e u5 ⟨g5, rfl, hg5, hb5, bq⟩
            have H5 := Lib.hid (thence hHeld bq (Nat.le_refl _))
            have T5 := text_is u5 _ _ _ _ (hb5.rd HBL.out HBB.out)
            clear bq
            go_wp2_with fail
            refine hKq.out _ _ (H5.out) (fun hHeld => ?_)
            clear hKq Kq
            (try simp only [Act.put, List.setIfInBounds_toArray, List.set_cons_zero, List.set_cons_succ])
            refine PX.wpAnyY_one (i := 6) (o := ?_) (by kernel_rfl) ?_ (fun Kq hKq => ?_)
            rotate_left
            · simp only [List.getElem?_toArray, List.getElem?_cons_succ, List.getElem?_cons_zero]; rfl
            go_simp
            refine hKq.out _ _ (hHeld) (fun hHeld => ?_)
            clear hKq Kq
            (try simp only [Act.put, List.setIfInBounds_toArray, List.set_cons_zero, List.set_cons_succ])
            refine PX.wpAnyY_one (i := 9) (o := ?_) (by kernel_rfl) ?_ (fun Kq hKq => ?_)
            rotate_left
            · simp only [List.getElem?_toArray, List.getElem?_cons_succ, List.getElem?_cons_zero]; rfl
            go_simp
            refine hKq.out _ _ (hHeld) (fun hHeld => ?_)
            clear hKq Kq
            (try simp only [Act.put, List.setIfInBounds_toArray, List.set_cons_zero, List.set_cons_succ])
            refine PX.wpAnyY_one (i := 10) (o := ?_) (by kernel_rfl) ?_ (fun Kq hKq => ?_)
            rotate_left
            · simp only [List.getElem?_toArray, List.getElem?_cons_succ, List.getElem?_cons_zero]; rfl
            go_simp
            refine hKq.out _ _ (hHeld) (fun hHeld => ?_)
            clear hKq Kq
            (try simp only [Act.put, List.setIfInBounds_toArray, List.set_cons_zero, List.set_cons_succ])
            refine PX.wpAnyY_done (by kernel_rfl) ?_ _
            refine NoPanic.normal ?_
            replace BL := Lib.hid (BL.out.here H5.out)
            replace BN := Lib.hid (BN.out.here H5.out)
            have HU := Lib.hid (hgn.out.trans (H5.out.mono hgn.out.size))
            clear ltL ltN
            have BF : Hid (Bx ((((u5.setCell ⟨w.heap.size, 0, none⟩ (.int .u32 0)).setCell ⟨w.heap.size, 1, none⟩ (.int .u32 0)).setCell ⟨w.heap.size, 2, none⟩ (.int .u32 0)).setCell ⟨w.heap.size, 3, none⟩ (.int .i64 0)) w.heap.size [.int .u32 0, .int .u32 0, .int .u32 0, .int .i64 0]) := ((((BL.out.set 0 (.int .u32 0)).set 1 (.int .u32 0)).set 2 (.int .u32 0)).set 3 (.int .i64 0))
            have HF : Hid (Below w.heap.size w ((((u5.setCell ⟨w.heap.size, 0, none⟩ (.int .u32 0)).setCell ⟨w.heap.size, 1, none⟩ (.int .u32 0)).setCell ⟨w.heap.size, 2, none⟩ (.int .u32 0)).setCell ⟨w.heap.size, 3, none⟩ (.int .i64 0))) := ((((HU.out.setCell (Nat.le_refl _) (.int .u32 0)).setCell (Nat.le_refl _) (.int .u32 0)).setCell (Nat.le_refl _) (.int .u32 0)).setCell (Nat.le_refl _) (.int .i64 0))
            clear hHeld
            obtain ⟨z0, z1, z2, z3⟩ := BN.out.four'
            obtain ⟨r0, r1, r2, r3⟩ := BL.out.four'
            obtain ⟨s0, s1, s2, s3⟩ := BL.out.froz4
            have ltL := BL.out.lt
            have ltN := BN.out.lt
            go_wp2_with fail
            clear z0 z1 z2 z3 r0 r1 r2 r3 s0 s1 s2 s3
            obtain ⟨q0, q1, q2, q3⟩ := BF.out.four'
            exact bodyPost_ret (v := .tuple #[supV Sup.zero, .int .i64 90]) (by simp [results, Try.results15, go_sem, q0, q1, q2, q3]; rfl) rfl ⟨rfl, HF.out⟩
      · go_simp
        have hl : Below u3.heap.size u3 (u3.alloc (.cells #[.int .u32 0, .int .u32 0, .int .u32 0, .int .i64 0] 28)) := (Below.refl _ _).alloc (Nat.le_refl _) _
        have HA : Hid (Below W1.heap.size W1 (u3.alloc (.cells #[.int .u32 0, .int .u32 0, .int .u32 0, .int .i64 0] 28))) := (thence hHeld hl (Nat.le_refl _))
        have BN : Hid (Bx (u3.alloc (.cells #[.int .u32 0, .int .u32 0, .int .u32 0, .int .i64 0] 28)) u3.heap.size [.int .u32 0, .int .u32 0, .int .u32 0, .int .i64 0]) := Bx.new u3 [.int .u32 0, .int .u32 0, .int .u32 0, .int .i64 0] 28
        have hgb : Hid (W1.heap.size ≤ u3.heap.size) := hHeld.size
        clear hl
        generalize (u3.alloc (.cells #[.int .u32 0, .int .u32 0, .int .u32 0, .int .i64 0] 28)) = wa at *
        obtain ⟨gb, hG⟩ : ∃ gb, u3.heap.size = gb := ⟨_, rfl⟩
        rw [hG] at BN ⊢
        replace hgb : Hid (W1.heap.size ≤ gb) := hG ▸ hgb.out
        clear hG
        obtain ⟨z0, z1, z2, z3⟩ := BN.out.four'
        obtain ⟨y0, y1, y2, y3⟩ := BN.out.froz4
        have ltN := BN.out.lt
        refine hKq.out _ _ (HA.out) (fun hHeld => ?_)
        clear hKq Kq
        (try simp only [Act.put, List.setIfInBounds_toArray, List.set_cons_zero, List.set_cons_succ])
        refine PX.wpAnyY_one (i := 5) (o := ?_) (by kernel_rfl) ?_ (fun Kq hKq => ?_)
        rotate_left
        · simp only [List.getElem?_toArray, List.getElem?_cons_succ, List.getElem?_cons_zero]; rfl
        go_simp
        refine (CN9.out _ hHeld).mono ?_
        rintro e u5 ⟨rfl, bq⟩
        have H5 := Lib.hid (thence hHeld bq (Nat.le_refl _))
        replace BN := Lib.hid (BN.out.here bq)
        clear z0 z1 z2 z3 y0 y1 y2 y3 ltN
        obtain ⟨z0, z1, z2, z3⟩ := BN.out.four'
        obtain ⟨y0, y1, y2, y3⟩ := BN.out.froz4
        have ltN := BN.out.lt
        clear bq
        go_wp2_with fail
        refine hKq.out _ _ (H5.out) (fun hHeld => ?_)
        clear hKq Kq
        (try simp only [Act.put, List.setIfInBounds_toArray, List.set_cons_zero, List.set_cons_succ])
        refine PX.wpAnyY_one (i := 10) (o := ?_) (by kernel_rfl) ?_ (fun Kq hKq => ?_)
        rotate_left
        · simp only [List.getElem?_toArray, List.getElem?_cons_succ, List.getElem?_cons_zero]; rfl
        go_simp
        refine hKq.out _ _ (hHeld) (fun hHeld => ?_)
        clear hKq Kq
        (try simp only [Act.put, List.setIfInBounds_toArray, List.set_cons_zero, List.set_cons_succ])
        refine PX.wpAnyY_one (i := 12) (o := ?_) (by kernel_rfl) ?_ (fun Kq hKq => ?_)
        rotate_left
        · simp only [List.getElem?_toArray, List.getElem?_cons_succ, List.getElem?_cons_zero]; rfl
        go_simp
        have BM : Hid (Bx ((((u5.setCell ⟨gb, 0, none⟩ (.int .u32 (ni : Int))).setCell ⟨gb, 1, none⟩ (.int .u32 (na : Int))).setCell ⟨gb, 2, none⟩ (.int .u32 (ns : Int))).setCell ⟨gb, 3, none⟩ (.int .i64 (nt : Int))) gb [.int .u32 (ni : Int), .int .u32 (na : Int), .int .u32 (ns : Int), .int .i64 (nt : Int)]) := ((((BN.out.set 0 (.int .u32 (ni : Int))).set 1 (.int .u32 (na : Int))).set 2 (.int .u32 (ns : Int))).set 3 (.int .i64 (nt : Int)))
        have HM : Hid (Below W1.heap.size W1 ((((u5.setCell ⟨gb, 0, none⟩ (.int .u32 (ni : Int))).setCell ⟨gb, 1, none⟩ (.int .u32 (na : Int))).setCell ⟨gb, 2, none⟩ (.int .u32 (ns : Int))).setCell ⟨gb, 3, none⟩ (.int .i64 (nt : Int)))) := ((((hHeld.setCell hgb.out (.int .u32 (ni : Int))).setCell hgb.out (.int .u32 (na : Int))).setCell hgb.out (.int .u32 (ns : Int))).setCell hgb.out (.int .i64 (nt : Int)))
        clear BN z0 z1 z2 z3 y0 y1 y2 y3 ltN
        generalize ((((u5.setCell ⟨gb, 0, none⟩ (.int .u32 (ni : Int))).setCell ⟨gb, 1, none⟩ (.int .u32 (na : Int))).setCell ⟨gb, 2, none⟩ (.int .u32 (ns : Int))).setCell ⟨gb, 3, none⟩ (.int .i64 (nt : Int))) = wn at *
        refine hKq.out _ _ (HM.out) (fun hHeld => ?_)
        clear hKq Kq
        (try simp only [Act.put, List.setIfInBounds_toArray, List.set_cons_zero, List.set_cons_succ])
        refine PX.wpAnyY_done (by kernel_rfl) ?_ _
        refine NoPanic.normal ?_
        clear hHeld
        clear f13
        have BN := BM
        have HN := HM
        clear BM HM
        go_wp2_with fail
        have BL := Lib.hid (BR.out.here HN.out)
        have RN := Lib.hid (R1.out.below HN.out)
        have hgn : Hid (Below w.heap.size w wn) := B0.out.trans ((thence B1.out HN.out (Nat.le_refl _)).mono B0.out.size)
        have CM := Lib.hid (refSMay_any ni na ns (nt : Int))
        have ltL := BL.out.lt
        have ltN := BN.out.lt
        obtain ⟨z0, z1, z2, z3⟩ := BN.out.four'
        cases hm : Sup.may ⟨ni, na, ns, (nt : Int)⟩ with
        | false =>
          rw [hm] at CM
          have hgd : SB.good m = false := by unfold SB.good; rw [HP.out, hm]; rfl
          have hx := HX.out
          rw [hgd, if_neg (by decide)] at hx
          injection hx with hx1 hx2
          subst hx1 hx2
          clear hm hgd HX
          refine wp_region_noPanic ?_
          refine PX.wp_region_y (fun w' => Below wn.heap.size wn w') [] (by kernel_rfl) (Below.refl _ _).drew (fun hHeld => ?_)
          refine PX.wpAnyY_take (i := 0) (oi := ?_) (v := ?_) ?_ (by kernel_rfl) (by kernel_rfl) (by kernel_rfl) (by kernel_rfl) (by kernel_rfl) (fun _ _ _ h => h) (Or.inl ⟨?_, ?_⟩) (by assumption) ?_
          rotate_left 2
          · simp only [List.getElem?_toArray, List.getElem?_cons_succ, List.getElem?_cons_zero]; rfl
          · rfl
          · intro w hSw; (try dsimp only at hSw); have hC := fun (b o : Nat) (h : b < wn.heap.size) => Below.cell hSw (p := ⟨b, o, none⟩) h; go_simp <;> with_reducible rfl
          (try simp only [Act.put, List.setIfInBounds_toArray, List.set_cons_zero, List.set_cons_succ])
          refine PX.wpAnyY_one (i := 1) (o := ?_) (by kernel_rfl) ?_ (fun Kq hKq => ?_)
          rotate_left
          · simp only [List.getElem?_toArray, List.getElem?_cons_succ, List.getElem?_cons_zero]; rfl
          go_simp
          (with_reducible refine (CM.out _).mono ?_)
          rintro e u1 ⟨rfl, bq⟩
          have H1 := Lib.hid (thence hHeld bq (Nat.le_refl _))
          clear bq
          go_wp2_with fail
          refine hKq.out _ _ (H1.out) (fun hHeld => ?_)
          clear hKq Kq
          (try simp only [Act.put, List.setIfInBounds_toArray, List.set_cons_zero, List.set_cons_succ])
          refine PX.wpAnyY_one (i := 2) (o := ?_) (by kernel_rfl) ?_ (fun Kq hKq => ?_)
          rotate_left
          · simp only [List.getElem?_toArray, List.getElem?_cons_succ, List.getElem?_cons_zero]; rfl
          go_simp
          refine hKq.out _ _ (hHeld) (fun hHeld => ?_)
          clear hKq Kq
          (try simp only [Act.put, List.setIfInBounds_toArray, List.set_cons_zero, List.set_cons_succ])
          refine PX.wpAnyY_one (i := 3) (o := ?_) (by kernel_rfl) ?_ (fun Kq hKq => ?_)
          rotate_left
          · simp only [List.getElem?_toArray, List.getElem?_cons_succ, List.getElem?_cons_zero]; rfl
          go_simp
          refine hKq.out _ _ (hHeld) (fun hHeld => ?_)
          clear hKq Kq
          (try simp only [Act.put, List.setIfInBounds_toArray, List.set_cons_zero, List.set_cons_succ])
          refine PX.wpAnyY_take (i := 4) (oi := ?_) (v := undef) ?_ (by kernel_rfl) (by kernel_rfl) (by kernel_rfl) (by kernel_rfl) (by kernel_rfl) (fun _ _ _ h => h) (Or.inr ⟨?_, rfl⟩) (by assumption) ?_
          rotate_left
          · simp only [List.getElem?_toArray, List.getElem?_cons_succ, List.getElem?_cons_zero]; rfl
          · rfl
          (try simp only [Act.put, List.setIfInBounds_toArray, List.set_cons_zero, List.set_cons_succ])
          refine PX.wpAnyY_take (i := 5) (oi := ?_) (v := undef) ?_ (by kernel_rfl) (by kernel_rfl) (by kernel_rfl) (by kernel_rfl) (by kernel_rfl) (fun _ _ _ h => h) (Or.inr ⟨?_, rfl⟩) (by assumption) ?_
          rotate_left
          · simp only [List.getElem?_toArray, List.getElem?_cons_succ, List.getElem?_cons_zero]; rfl
          · rfl
          (try simp only [Act.put, List.setIfInBounds_toArray, List.set_cons_zero, List.set_cons_succ])
          refine PX.wpAnyY_take (i := 6) (oi := ?_) (v := undef) ?_ (by kernel_rfl) (by kernel_rfl) (by kernel_rfl) (by kernel_rfl) (by kernel_rfl) (fun _ _ _ h => h) (Or.inr ⟨?_, rfl⟩) (by assumption) ?_
          rotate_left
          · simp only [List.getElem?_toArray, List.getElem?_cons_succ, List.getElem?_cons_zero]; rfl
          · rfl
          (try simp only [Act.put, List.setIfInBounds_toArray, List.set_cons_zero, List.set_cons_succ])
          refine PX.wpAnyY_one (i := 7) (o := ?_) (by kernel_rfl) ?_ (fun Kq hKq => ?_)
          rotate_left
          · simp only [List.getElem?_toArray, List.getElem?_cons_succ, List.getElem?_cons_zero]; rfl
          go_simp
          refine hKq.out _ _ (hHeld) (fun hHeld => ?_)
          clear hKq Kq
          (try simp only [Act.put, List.setIfInBounds_toArray, List.set_cons_zero, List.set_cons_succ])
          refine PX.wpAnyY_one (i := 8) (o := ?_) (by kernel_rfl) ?_ (fun Kq hKq => ?_)
          rotate_left
          · simp only [List.getElem?_toArray, List.getElem?_cons_succ, List.getElem?_cons_zero]; rfl
          go_simp
          refine hKq.out _ _ (hHeld) (fun hHeld => ?_)
          clear hKq Kq
          (try simp only [Act.put, List.setIfInBounds_toArray, List.set_cons_zero, List.set_cons_succ])
          refine PX.wpAnyY_one (i := 9) (o := ?_) (by kernel_rfl) ?_ (fun Kq hKq => ?_)
          rotate_left
          · simp only [List.getElem?_toArray, List.getElem?_cons_succ, List.getElem?_cons_zero]; rfl
          go_simp
          refine hKq.out _ _ (hHeld) (fun hHeld => ?_)
          clear hKq Kq
          (try simp only [Act.put, List.setIfInBounds_toArray, List.set_cons_zero, List.set_cons_succ])
          refine PX.wpAnyY_one (i := 10) (o := ?_) (by kernel_rfl) ?_ (fun Kq hKq => ?_)
          rotate_left
          · simp only [List.getElem?_toArray, List.getElem?_cons_succ, List.getElem?_cons_zero]; rfl
          go_simp
          refine hKq.out _ _ (hHeld) (fun hHeld => ?_)
          clear hKq Kq
          (try simp only [Act.put, List.setIfInBounds_toArray, List.set_cons_zero, List.set_cons_succ])
          refine PX.wpAnyY_done (by kernel_rfl) ?_ _
          refine NoPanic.normal ?_
          replace BL := Lib.hid (BL.out.here H1.out)
          replace BN := Lib.hid (BN.out.here H1.out)
          have HU := Lib.hid (hgn.out.trans (H1.out.mono hgn.out.size))
          clear ltL ltN
          have BF : Hid (Bx ((((u1.setCell ⟨w.heap.size, 0, none⟩ (.int .u32 0)).setCell ⟨w.heap.size, 1, none⟩ (.int .u32 0)).setCell ⟨w.heap.size, 2, none⟩ (.int .u32 0)).setCell ⟨w.heap.size, 3, none⟩ (.int .i64 0)) w.heap.size [.int .u32 0, .int .u32 0, .int .u32 0, .int .i64 0]) := ((((BL.out.set 0 (.int .u32 0)).set 1 (.int .u32 0)).set 2 (.int .u32 0)).set 3 (.int .i64 0))
          have HF : Hid (Below w.heap.size w ((((u1.setCell ⟨w.heap.size, 0, none⟩ (.int .u32 0)).setCell ⟨w.heap.size, 1, none⟩ (.int .u32 0)).setCell ⟨w.heap.size, 2, none⟩ (.int .u32 0)).setCell ⟨w.heap.size, 3, none⟩ (.int .i64 0))) := ((((HU.out.setCell (Nat.le_refl _) (.int .u32 0)).setCell (Nat.le_refl _) (.int .u32 0)).setCell (Nat.le_refl _) (.int .u32 0)).setCell (Nat.le_refl _) (.int .i64 0))
          clear hHeld
          obtain ⟨z0, z1, z2, z3⟩ := BN.out.four'
          obtain ⟨r0, r1, r2, r3⟩ := BL.out.four'
          obtain ⟨s0, s1, s2, s3⟩ := BL.out.froz4
          have ltL := BL.out.lt
          have ltN := BN.out.lt
          go_wp2_with fail
          clear z0 z1 z2 z3 r0 r1 r2 r3 s0 s1 s2 s3
          obtain ⟨q0, q1, q2, q3⟩ := BF.out.four'
          exact bodyPost_ret (v := .tuple #[supV Sup.zero, .int .i64 90]) (by simp [results, Try.results15, go_sem, q0, q1, q2, q3]; rfl) rfl ⟨rfl, HF.out⟩
        | true =>
          have hmay := SB.may_iff.1 hm
          have CB := Lib.hid (fun w1 => refSBlock_any ni na ns (nt : Int) w1 HI.out hmay)
          have HBB : Hid (Bytes (Sup.block ⟨ni, na, ns, (nt : Int)⟩)) := SB.block_bytes hmay HI.out
          have HBL : Hid ((Sup.block ⟨ni, na, ns, (nt : Int)⟩).length = 128) := SB.block_length _
          rw [hm] at CM
          have hgd : SB.good m = decide (Sup.block ⟨ni, na, ns, (nt : Int)⟩ = m) := by unfold SB.good; rw [HP.out, hm]; rfl
          have hx := HX.out
          rw [hgd, HP.out] at hx
          clear hm hgd hmay HX
          generalize hBK : Sup.block ⟨ni, na, ns, (nt : Int)⟩ = K at *
          clear hBK
          by_cases hk : K = m
          · have hn : ((str K).toList == (str m).toList) = true := by rw [str_two HBB.out HB.out]; exact decide_eq_true hk
            rw [decide_eq_true hk, if_pos rfl] at hx
            injection hx with hx1 hx2
            subst hx1 hx2
            clear hk
            refine wp_region_noPanic ?_
            refine PX.wp_region_y (fun w' => Below wn.heap.size wn w') [] (by kernel_rfl) (Below.refl _ _).drew (fun hHeld => ?_)
            refine PX.wpAnyY_take (i := 0) (oi := ?_) (v := ?_) ?_ (by kernel_rfl) (by kernel_rfl) (by kernel_rfl) (by kernel_rfl) (by kernel_rfl) (fun _ _ _ h => h) (Or.inl ⟨?_, ?_⟩) (by assumption) ?_
            rotate_left 2
            · simp only [List.getElem?_toArray, List.getElem?_cons_succ, List.getElem?_cons_zero]; rfl
            · rfl
            · intro w hSw; (try dsimp only at hSw); have hC := fun (b o : Nat) (h : b < wn.heap.size) => Below.cell hSw (p := ⟨b, o, none⟩) h; go_simp <;> with_reducible rfl
            (try simp only [Act.put, List.setIfInBounds_toArray, List.set_cons_zero, List.set_cons_succ])
            refine PX.wpAnyY_one (i := 1) (o := ?_) (by kernel_rfl) ?_ (fun Kq hKq => ?_)
            rotate_left
            · simp only [List.getElem?_toArray, List.getElem?_cons_succ, List.getElem?_cons_zero]; rfl
            go_simp
            (with_reducible refine (CM.out _).mono ?_)
            rintro e u1 ⟨rfl, bq⟩
            have H1 := Lib.hid (thence hHeld bq (Nat.le_refl _))
            clear bq
            go_wp2_with fail
            refine hKq.out _ _ (H1.out) (fun hHeld => ?_)
            clear hKq Kq
            (try simp only [Act.put, List.setIfInBounds_toArray, List.set_cons_zero, List.set_cons_succ])
            refine PX.wpAnyY_one (i := 2) (o := ?_) (by kernel_rfl) ?_ (fun Kq hKq => ?_)
            rotate_left
            · simp only [List.getElem?_toArray, List.getElem?_cons_succ, List.getElem?_cons_zero]; rfl
            go_simp
            refine hKq.out _ _ (hHeld) (fun hHeld => ?_)
            clear hKq Kq
            (try simp only [Act.put, List.setIfInBounds_toArray, List.set_cons_zero, List.set_cons_succ])
            refine PX.wpAnyY_one (i := 3) (o := ?_) (by kernel_rfl) ?_ (fun Kq hKq => ?_)
            rotate_left
            · simp only [List.getElem?_toArray, List.getElem?_cons_succ, List.getElem?_cons_zero]; rfl
            go_simp
            refine hKq.out _ _ (hHeld) (fun hHeld => ?_)
            clear hKq Kq
            (try simp only [Act.put, List.setIfInBounds_toArray, List.set_cons_zero, List.set_cons_succ])
            refine PX.wpAnyY_take (i := 4) (oi := ?_) (v := ?_) ?_ (by kernel_rfl) (by kernel_rfl) (by kernel_rfl) (by kernel_rfl) (by kernel_rfl) (fun _ _ _ h => h) (Or.inl ⟨?_, ?_⟩) (by assumption) ?_
            rotate_left 2
            · simp only [List.getElem?_toArray, List.getElem?_cons_succ, List.getElem?_cons_zero]; rfl
            · rfl
            · intro w hSw; (try dsimp only at hSw); have hC := fun (b o : Nat) (h : b < wn.heap.size) => Below.cell hSw (p := ⟨b, o, none⟩) h; go_simp <;> with_reducible rfl
            (try simp only [Act.put, List.setIfInBounds_toArray, List.set_cons_zero, List.set_cons_succ])
            refine PX.wpAnyY_take (i := 7) (oi := ?_) (v := ?_) ?_ (by kernel_rfl) (by kernel_rfl) (by kernel_rfl) (by kernel_rfl) (by kernel_rfl) (fun _ _ _ h => h) (Or.inl ⟨?_, ?_⟩) (by assumption) ?_
            rotate_left 2
            · simp only [List.getElem?_toArray, List.getElem?_cons_succ, List.getElem?_cons_zero]; rfl
            · rfl
            · intro w hSw; (try dsimp only at hSw); go_simp <;> with_reducible rfl
            (try simp only [Act.put, List.setIfInBounds_toArray, List.set_cons_zero, List.set_cons_succ])
            refine PX.wpAnyY_take (i := 8) (oi := ?_) (v := ?_) ?_ (by kernel_rfl) (by kernel_rfl) (by kernel_rfl) (by kernel_rfl) (by kernel_rfl) (fun _ _ _ h => h) (Or.inl ⟨?_, ?_⟩) (by assumption) ?_
            rotate_left 2
            · simp only [List.getElem?_toArray, List.getElem?_cons_succ, List.getElem?_cons_zero]; rfl
            · rfl
            · intro w hSw; (try dsimp only at hSw); have T8 := text_is w _ _ _ _ (RN.out.below (hSw.mono (HN.out.size))); go_simp <;> with_reducible rfl
            (try simp only [Act.put, List.setIfInBounds_toArray, List.set_cons_zero, List.set_cons_succ])
            refine PX.wpAnyY_one (i := 5) (o := ?_) (by kernel_rfl) ?_ (fun Kq hKq => ?_)
            rotate_left
            · simp only [List.getElem?_toArray, List.getElem?_cons_succ, List.getElem?_cons_zero]; rfl
            go_simp
            (with_reducible refine (CB.out _).mono ?_)
            rintro e u5 ⟨g5, rfl, hg5, hb5, bq⟩
            have H5 := Lib.hid (thence hHeld bq (Nat.le_refl _))
            have T5 := text_is u5 _ _ _ _ (hb5.rd HBL.out HBB.out)
            clear bq
            go_wp2_with fail
            refine hKq.out _ _ (H5.out) (fun hHeld => ?_)
            clear hKq Kq
            (try simp only [Act.put, List.setIfInBounds_toArray, List.set_cons_zero, List.set_cons_succ])
            refine PX.wpAnyY_one (i := 6) (o := ?_) (by kernel_rfl) ?_ (fun Kq hKq => ?_)
            rotate_left
            · simp only [List.getElem?_toArray, List.getElem?_cons_succ, List.getElem?_cons_zero]; rfl
            go_simp
            refine hKq.out _ _ (hHeld) (fun hHeld => ?_)
            clear hKq Kq
            (try simp only [Act.put, List.setIfInBounds_toArray, List.set_cons_zero, List.set_cons_succ])
            refine PX.wpAnyY_one (i := 9) (o := ?_) (by kernel_rfl) ?_ (fun Kq hKq => ?_)
            rotate_left
            · simp only [List.getElem?_toArray, List.getElem?_cons_succ, List.getElem?_cons_zero]; rfl
            go_simp
            refine hKq.out _ _ (hHeld) (fun hHeld => ?_)
            clear hKq Kq
            (try simp only [Act.put, List.setIfInBounds_toArray, List.set_cons_zero, List.set_cons_succ])
            refine PX.wpAnyY_one (i := 10) (o := ?_) (by kernel_rfl) ?_ (fun Kq hKq => ?_)
            rotate_left
            · simp only [List.getElem?_toArray, List.getElem?_cons_succ, List.getElem?_cons_zero]; rfl
            go_simp
            refine hKq.out _ _ (hHeld) (fun hHeld => ?_)
            clear hKq Kq
            (try simp only [Act.put, List.setIfInBounds_toArray, List.set_cons_zero, List.set_cons_succ])
            refine PX.wpAnyY_done (by kernel_rfl) ?_ _
            refine NoPanic.normal ?_
            replace BL := Lib.hid (BL.out.here H5.out)
            replace BN := Lib.hid (BN.out.here H5.out)
            have HU := Lib.hid (hgn.out.trans (H5.out.mono hgn.out.size))
            clear ltL ltN
            have BF : Hid (Bx ((((u5.setCell ⟨w.heap.size, 0, none⟩ (.int .u32 (ni : Int))).setCell ⟨w.heap.size, 1, none⟩ (.int .u32 (na : Int))).setCell ⟨w.heap.size, 2, none⟩ (.int .u32 (ns : Int))).setCell ⟨w.heap.size, 3, none⟩ (.int .i64 (nt : Int))) w.heap.size [.int .u32 (ni : Int), .int .u32 (na : Int), .int .u32 (ns : Int), .int .i64 (nt : Int)]) := ((((BL.out.set 0 (.int .u32 (ni : Int))).set 1 (.int .u32 (na : Int))).set 2 (.int .u32 (ns : Int))).set 3 (.int .i64 (nt : Int)))
            have HF : Hid (Below w.heap.size w ((((u5.setCell ⟨w.heap.size, 0, none⟩ (.int .u32 (ni : Int))).setCell ⟨w.heap.size, 1, none⟩ (.int .u32 (na : Int))).setCell ⟨w.heap.size, 2, none⟩ (.int .u32 (ns : Int))).setCell ⟨w.heap.size, 3, none⟩ (.int .i64 (nt : Int)))) := ((((HU.out.setCell (Nat.le_refl _) (.int .u32 (ni : Int))).setCell (Nat.le_refl _) (.int .u32 (na : Int))).setCell (Nat.le_refl _) (.int .u32 (ns : Int))).setCell (Nat.le_refl _) (.int .i64 (nt : Int)))
            clear hHeld
            obtain ⟨z0, z1, z2, z3⟩ := BN.out.four'
            obtain ⟨r0, r1, r2, r3⟩ := BL.out.four'
            obtain ⟨s0, s1, s2, s3⟩ := BL.out.froz4
            have ltL := BL.out.lt
            have ltN := BN.out.lt
            go_wp2_with fail
            clear z0 z1 z2 z3 r0 r1 r2 r3 s0 s1 s2 s3
            obtain ⟨q0, q1, q2, q3⟩ := BF.out.four'
            exact bodyPost_ret (v := .tuple #[supV ⟨ni, na, ns, (nt : Int)⟩, .int .i64 0]) (by simp [results, Try.results15, go_sem, q0, q1, q2, q3]; rfl) rfl ⟨rfl, HF.out⟩
          · have hn : ((str K).toList == (str m).toList) = false := by rw [str_two HBB.out HB.out]; exact decide_eq_false hk
            rw [decide_eq_false hk, if_neg (by decide)] at hx
            injection hx with hx1 hx2
            subst hx1 hx2
            clear hk
            refine wp_region_noPanic ?_
            refine PX.wp_region_y (fun w' => Below wn.heap.size wn w') [] (by kernel_rfl) (Below.refl _ _).drew (fun hHeld => ?_)
            refine PX.wpAnyY_take (i := 0) (oi := ?_) (v := ?_) ?_ (by kernel_rfl) (by kernel_rfl) (by kernel_rfl) (by kernel_rfl) (by kernel_rfl) (fun _ _ _ h => h) (Or.inl ⟨?_, ?_⟩) (by assumption) ?_
            rotate_left 2
            · simp only [List.getElem?_toArray, List.getElem?_cons_succ, List.getElem?_cons_zero]; rfl
            · rfl
            · intro w hSw; (try dsimp only at hSw); have hC := fun (b o : Nat) (h : b < wn.heap.size) => Below.cell hSw (p := ⟨b, o, none⟩) h; go_simp <;> with_reducible rfl
            (try simp only [Act.put, List.setIfInBounds_toArray, List.set_cons_zero, List.set_cons_succ])
            refine PX.wpAnyY_one (i := 1) (o := ?_) (by kernel_rfl) ?_ (fun Kq hKq => ?_)
            rotate_left
            · simp only [List.getElem?_toArray, List.getElem?_cons_succ, List.getElem?_cons_zero]; rfl
            go_simp
            (with_reducible refine (CM.out _).mono ?_)
            rintro e u1 ⟨rfl, bq⟩
            have H1 := Lib.hid (thence hHeld bq (Nat.le_refl _))
            clear bq
            go_wp2_with fail
            refine hKq.out _ _ (H1.out) (fun hHeld => ?_)
            clear hKq Kq
            (try simp only [Act.put, List.setIfInBounds_toArray, List.set_cons_zero, List.set_cons_succ])
            refine PX.wpAnyY_one (i := 2) (o := ?_) (by kernel_rfl) ?_ (fun Kq hKq => ?_)
            rotate_left
            · simp only [List.getElem?_toArray, List.getElem?_cons_succ, List.getElem?_cons_zero]; rfl
            go_simp
            refine hKq.out _ _ (hHeld) (fun hHeld => ?_)
            clear hKq Kq
            (try simp only [Act.put, List.setIfInBounds_toArray, List.set_cons_zero, List.set_cons_succ])
            refine PX.wpAnyY_one (i := 3) (o := ?_) (by kernel_rfl) ?_ (fun Kq hKq => ?_)
            rotate_left
            · simp only [List.getElem?_toArray, List.getElem?_cons_succ, List.getElem?_cons_zero]; rfl
            go_simp
            refine hKq.out _ _ (hHeld) (fun hHeld => ?_)
            clear hKq Kq
            (try simp only [Act.put, List.setIfInBounds_toArray, List.set_cons_zero, List.set_cons_succ])
            refine PX.wpAnyY_take (i := 4) (oi := ?_) (v := ?_) ?_ (by kernel_rfl) (by kernel_rfl) (by kernel_rfl) (by kernel_rfl) (by kernel_rfl) (fun _ _ _ h => h) (Or.inl ⟨?_, ?_⟩) (by assumption) ?_
            rotate_left 2
            · simp only [List.getElem?_toArray, List.getElem?_cons_succ, List.getElem?_cons_zero]; rfl
            · rfl
            · intro w hSw; (try dsimp only at hSw); have hC := fun (b o : Nat) (h : b < wn.heap.size) => Below.cell hSw (p := ⟨b, o, none⟩) h; go_simp <;> with_reducible rfl
            (try simp only [Act.put, List.setIfInBounds_toArray, List.set_cons_zero, List.set_cons_succ])
            refine PX.wpAnyY_take (i := 7) (oi := ?_) (v := ?_) ?_ (by kernel_rfl) (by kernel_rfl) (by kernel_rfl) (by kernel_rfl) (by kernel_rfl) (fun _ _ _ h => h) (Or.inl ⟨?_, ?_⟩) (by assumption) ?_
            rotate_left 2
            · simp only [List.getElem?_toArray, List.getElem?_cons_succ, List.getElem?_cons_zero]; rfl
            · rfl
            · intro w hSw; (try dsimp only at hSw); go_simp <;> with_reducible rfl
            (try simp only [Act.put, List.setIfInBounds_toArray, List.set_cons_zero, List.set_cons_succ])
            refine PX.wpAnyY_take (i := 8) (oi := ?_) (v := ?_) ?_ (by kernel_rfl) (by kernel_rfl) (by kernel_rfl) (by kernel_rfl) (by kernel_rfl) (fun _ _ _ h => h) (Or.inl ⟨?_, ?_⟩) (by assumption) ?_
            rotate_left 2
            · simp only [List.getElem?_toArray, List.getElem?_cons_succ, List.getElem?_cons_zero]; rfl
            · rfl
            · intro w hSw; (try dsimp only at hSw); have T8 := text_is w _ _ _ _ (RN.out.below (hSw.mono (HN.out.size))); go_simp <;> with_reducible rfl
            (try simp only [Act.put, List.setIfInBounds_toArray, List.set_cons_zero, List.set_cons_succ])
            refine PX.wpAnyY_one (i := 5) (o := ?_) (by kernel_rfl) ?_ (fun Kq hKq => ?_)
            rotate_left
            · simp only [List.getElem?_toArray, List.getElem?_cons_succ, List.getElem?_cons_zero]; rfl
            go_simp
            (with_reducible refine (CB.out _).mono ?_)
            rintro e u5 ⟨g5, rfl, hg5, hb5, bq⟩
            have H5 := Lib.hid (thence hHeld bq (Nat.le_refl _))
            have T5 := text_is u5 _ _ _ _ (hb5.rd HBL.out HBB.out)
            clear bq
            go_wp2_with fail
            refine hKq.out _ _ (H5.out) (fun hHeld => ?_)
            clear hKq Kq
            (try simp only [Act.put, List.setIfInBounds_toArray, List.set_cons_zero, List.set_cons_succ])
            refine PX.wpAnyY_one (i := 6) (o := ?_) (by kernel_rfl) ?_ (fun Kq hKq => ?_)
            rotate_left
            · simp only [List.getElem?_toArray, List.getElem?_cons_succ, List.getElem?_cons_zero]; rfl
            go_simp
            refine hKq.out _ _ (hHeld) (fun hHeld => ?_)
            clear hKq Kq
            (try simp only [Act.put, List.setIfInBounds_toArray, List.set_cons_zero, List.set_cons_succ])
            refine PX.wpAnyY_one (i := 9) (o := ?_) (by kernel_rfl) ?_ (fun Kq hKq => ?_)
            rotate_left
            · simp only [List.getElem?_toArray, List.getElem?_cons_succ, List.getElem?_cons_zero]; rfl
            go_simp
            refine hKq.out _ _ (hHeld) (fun hHeld => ?_)
            clear hKq Kq
            (try simp only [Act.put, List.setIfInBounds_toArray, List.set_cons_zero, List.set_cons_succ])
            refine PX.wpAnyY_one (i := 10) (o := ?_) (by kernel_rfl) ?_ (fun Kq hKq => ?_)
            rotate_left
            · simp only [List.getElem?_toArray, List.getElem?_cons_succ, List.getElem?_cons_zero]; rfl
            go_simp
            refine hKq.out _ _ (hHeld) (fun hHeld => ?_)
            clear hKq Kq
            (try simp only [Act.put, List.setIfInBounds_toArray, List.set_cons_zero, List.set_cons_succ])
            refine PX.wpAnyY_done (by kernel_rfl) ?_ _
            refine NoPanic.normal ?_
            replace BL := Lib.hid (BL.out.here H5.out)
            replace BN := Lib.hid (BN.out.here H5.out)
            have HU := Lib.hid (hgn.out.trans (H5.out.mono hgn.out.size))
            clear ltL ltN
            have BF : Hid (Bx ((((u5.setCell ⟨w.heap.size, 0, none⟩ (.int .u32 0)).setCell ⟨w.heap.size, 1, none⟩ (.int .u32 0)).setCell ⟨w.heap.size, 2, none⟩ (.int .u32 0)).setCell ⟨w.heap.size, 3, none⟩ (.int .i64 0)) w.heap.size [.int .u32 0, .int .u32 0, .int .u32 0, .int .i64 0]) := ((((BL.out.set 0 (.int .u32 0)).set 1 (.int .u32 0)).set 2 (.int .u32 0)).set 3 (.int .i64 0))
            have HF : Hid (Below w.heap.size w ((((u5.setCell ⟨w.heap.size, 0, none⟩ (.int .u32 0)).setCell ⟨w.heap.size, 1, none⟩ (.int .u32 0)).setCell ⟨w.heap.size, 2, none⟩ (.int .u32 0)).setCell ⟨w.heap.size, 3, none⟩ (.int .i64 0))) := ((((HU.out.setCell (Nat.le_refl _) (.int .u32 0)).setCell (Nat.le_refl _) (.int .u32 0)).setCell (Nat.le_refl _) (.int .u32 0)).setCell (Nat.le_refl _) (.int .i64 0))
            clear hHeld
            obtain ⟨z0, z1, z2, z3⟩ := BN.out.four'
            obtain ⟨r0, r1, r2, r3⟩ := BL.out.four'
            obtain ⟨s0, s1, s2, s3⟩ := BL.out.froz4
            have ltL := BL.out.lt
            have ltN := BN.out.lt
            go_wp2_with fail
            clear z0 z1 z2 z3 r0 r1 r2 r3 s0 s1 s2 s3
            obtain ⟨q0, q1, q2, q3⟩ := BF.out.four'
            exact bodyPost_ret (v := .tuple #[supV Sup.zero, .int .i64 90]) (by simp [results, Try.results15, go_sem, q0, q1, q2, q3]; rfl) rfl ⟨rfl, HF.out⟩
    · go_simp
      have hl : Below u1.heap.size u1 (u1.alloc (.cells #[.int .u32 0, .int .u32 0, .int .u32 0, .int .i64 0] 28)) := (Below.refl _ _).alloc (Nat.le_refl _) _
      have HA : Hid (Below W1.heap.size W1 (u1.alloc (.cells #[.int .u32 0, .int .u32 0, .int .u32 0, .int .i64 0] 28))) := (thence hHeld hl (Nat.le_refl _))
      have BN : Hid (Bx (u1.alloc (.cells #[.int .u32 0, .int .u32 0, .int .u32 0, .int .i64 0] 28)) u1.heap.size [.int .u32 0, .int .u32 0, .int .u32 0, .int .i64 0]) := Bx.new u1 [.int .u32 0, .int .u32 0, .int .u32 0, .int .i64 0] 28
      have hgb : Hid (W1.heap.size ≤ u1.heap.size) := hHeld.size
      clear hl
      generalize (u1.alloc (.cells #[.int .u32 0, .int .u32 0, .int .u32 0, .int .i64 0] 28)) = wa at *
      obtain ⟨gb, hG⟩ : ∃ gb, u1.heap.size = gb := ⟨_, rfl⟩
      rw [hG] at BN ⊢
      replace hgb : Hid (W1.heap.size ≤ gb) := hG ▸ hgb.out
      clear hG
      obtain ⟨z0, z1, z2, z3⟩ := BN.out.four'
      obtain ⟨y0, y1, y2, y3⟩ := BN.out.froz4
      have ltN := BN.out.lt
      refine hKq.out _ _ (HA.out) (fun hHeld => ?_)
      clear hKq Kq
      (try simp only [Act.put, List.setIfInBounds_toArray, List.set_cons_zero, List.set_cons_succ])
      refine PX.wpAnyY_one (i := 3) (o := ?_) (by kernel_rfl) ?_ (fun Kq hKq => ?_)
      rotate_left
      · simp only [List.getElem?_toArray, List.getElem?_cons_succ, List.getElem?_cons_zero]; rfl
      go_simp
      refine (CN5.out _ hHeld).mono ?_
      rintro e u3 ⟨rfl, bq⟩
      have H3 := Lib.hid (thence hHeld bq (Nat.le_refl _))
      replace BN := Lib.hid (BN.out.here bq)
      clear z0 z1 z2 z3 y0 y1 y2 y3 ltN
      obtain ⟨z0, z1, z2, z3⟩ := BN.out.four'
      obtain ⟨y0, y1, y2, y3⟩ := BN.out.froz4
      have ltN := BN.out.lt
      clear bq
      go_wp2_with fail
      refine hKq.out _ _ (H3.out) (fun hHeld => ?_)
      clear hKq Kq
      (try simp only [Act.put, List.setIfInBounds_toArray, List.set_cons_zero, List.set_cons_succ])
      refine PX.wpAnyY_one (i := 5) (o := ?_) (by kernel_rfl) ?_ (fun Kq hKq => ?_)
      rotate_left
      · simp only [List.getElem?_toArray, List.getElem?_cons_succ, List.getElem?_cons_zero]; rfl
      go_simp
      refine (CN9.out _ hHeld).mono ?_
      rintro e u5 ⟨rfl, bq⟩
      have H5 := Lib.hid (thence hHeld bq (Nat.le_refl _))
      replace BN := Lib.hid (BN.out.here bq)
      clear z0 z1 z2 z3 y0 y1 y2 y3 ltN
      obtain ⟨z0, z1, z2, z3⟩ := BN.out.four'
      obtain ⟨y0, y1, y2, y3⟩ := BN.out.froz4
      have ltN := BN.out.lt
      clear bq
      go_wp2_with fail
      refine hKq.out _ _ (H5.out) (fun hHeld => ?_)
      clear hKq Kq
      (try simp only [Act.put, List.setIfInBounds_toArray, List.set_cons_zero, List.set_cons_succ])
      refine PX.wpAnyY_one (i := 10) (o := ?_) (by kernel_rfl) ?_ (fun Kq hKq => ?_)
      rotate_left
      · simp only [List.getElem?_toArray, List.getElem?_cons_succ, List.getElem?_cons_zero]; rfl
      go_simp
      refine hKq.out _ _ (hHeld) (fun hHeld => ?_)
      clear hKq Kq
      (try simp only [Act.put, List.setIfInBounds_toArray, List.set_cons_zero, List.set_cons_succ])
      refine PX.wpAnyY_one (i := 12) (o := ?_) (by kernel_rfl) ?_ (fun Kq hKq => ?_)
      rotate_left
      · simp only [List.getElem?_toArray, List.getElem?_cons_succ, List.getElem?_cons_zero]; rfl
      go_simp
      have BM : Hid (Bx ((((u5.setCell ⟨gb, 0, none⟩ (.int .u32 (ni : Int))).setCell ⟨gb, 1, none⟩ (.int .u32 (na : Int))).setCell ⟨gb, 2, none⟩ (.int .u32 (ns : Int))).setCell ⟨gb, 3, none⟩ (.int .i64 (nt : Int))) gb [.int .u32 (ni : Int), .int .u32 (na : Int), .int .u32 (ns : Int), .int .i64 (nt : Int)]) := ((((BN.out.set 0 (.int .u32 (ni : Int))).set 1 (.int .u32 (na : Int))).set 2 (.int .u32 (ns : Int))).set 3 (.int .i64 (nt : Int)))
      have HM : Hid (Below W1.heap.size W1 ((((u5.setCell ⟨gb, 0, none⟩ (.int .u32 (ni : Int))).setCell ⟨gb, 1, none⟩ (.int .u32 (na : Int))).setCell ⟨gb, 2, none⟩ (.int .u32 (ns : Int))).setCell ⟨gb, 3, none⟩ (.int .i64 (nt : Int)))) := ((((hHeld.setCell hgb.out (.int .u32 (ni : Int))).setCell hgb.out (.int .u32 (na : Int))).setCell hgb.out (.int .u32 (ns : Int))).setCell hgb.out (.int .i64 (nt : Int)))
      clear BN z0 z1 z2 z3 y0 y1 y2 y3 ltN
      generalize ((((u5.setCell ⟨gb, 0, none⟩ (.int .u32 (ni : Int))).setCell ⟨gb, 1, none⟩ (.int .u32 (na : Int))).setCell ⟨gb, 2, none⟩ (.int .u32 (ns : Int))).setCell ⟨gb, 3, none⟩ (.int .i64 (nt : Int))) = wn at *
      refine hKq.out _ _ (HM.out) (fun hHeld => ?_)
      clear hKq Kq
      (try simp only [Act.put, List.setIfInBounds_toArray, List.set_cons_zero, List.set_cons_succ])
      refine PX.wpAnyY_done (by kernel_rfl) ?_ _
      refine NoPanic.normal ?_
      clear hHeld
      clear f13
      have BN := BM
      have HN := HM
      clear BM HM
      go_wp2_with fail
      have BL := Lib.hid (BR.out.here HN.out)
      have RN := Lib.hid (R1.out.below HN.out)
      have hgn : Hid (Below w.heap.size w wn) := B0.out.trans ((thence B1.out HN.out (Nat.le_refl _)).mono B0.out.size)
      have CM := Lib.hid (refSMay_any ni na ns (nt : Int))
      have ltL := BL.out.lt
      have ltN := BN.out.lt
      obtain ⟨z0, z1, z2, z3⟩ := BN.out.four'
      cases hm : Sup.may ⟨ni, na, ns, (nt : Int)⟩ with
      | false =>
        rw [hm] at CM
        have hgd : SB.good m = false := by unfold SB.good; rw [HP.out, hm]; rfl
        have hx := HX.out
        rw [hgd, if_neg (by decide)] at hx
        injection hx with hx1 hx2
        subst hx1 hx2
        clear hm hgd HX
        refine wp_region_noPanic ?_
        refine PX.wp_region_y (fun w' => Below wn.heap.size wn w') [] (by kernel_rfl) (Below.refl _ _).drew (fun hHeld => ?_)
        refine PX.wpAnyY_take (i := 0) (oi := ?_) (v := ?_) ?_ (by kernel_rfl) (by kernel_rfl) (by kernel_rfl) (by kernel_rfl) (by kernel_rfl) (fun _ _ _ h => h) (Or.inl ⟨?_, ?_⟩) (by assumption) ?_
        rotate_left 2
        · simp only [List.getElem?_toArray, List.getElem?_cons_succ, List.getElem?_cons_zero]; rfl
        · rfl
        · intro w hSw; (try dsimp only at hSw); have hC := fun (b o : Nat) (h : b < wn.heap.size) => Below.cell hSw (p := ⟨b, o, none⟩) h; go_simp <;> with_reducible rfl
        (try simp only [Act.put, List.setIfInBounds_toArray, List.set_cons_zero, List.set_cons_succ])
        refine PX.wpAnyY_one (i := 1) (o := ?_) (by kernel_rfl) ?_ (fun Kq hKq => ?_)
        rotate_left
        · simp only [List.getElem?_toArray, List.getElem?_cons_succ, List.getElem?_cons_zero]; rfl
        go_simp
        (with_reducible refine (CM.out _).mono ?_)
        rintro e u1 ⟨rfl, bq⟩
        have H1 := Lib.hid (thence hHeld bq (Nat.le_refl _))
        clear bq
        go_wp2_with fail
        refine hKq.out _ _ (H1.out) (fun hHeld => ?_)
        clear hKq Kq
        (try simp only [Act.put, List.setIfInBounds_toArray, List.set_cons_zero, List.set_cons_succ])
        refine PX.wpAnyY_one (i := 2) (o := ?_) (by kernel_rfl) ?_ (fun Kq hKq => ?_)
        rotate_left
        · simp only [List.getElem?_toArray, List.getElem?_cons_succ, List.getElem?_cons_zero]; rfl
        go_simp
        refine hKq.out _ _ (hHeld) (fun hHeld => ?_)
        clear hKq Kq
        (try simp only [Act.put, List.setIfInBounds_toArray, List.set_cons_zero, List.set_cons_succ])
        refine PX.wpAnyY_one (i := 3) (o := ?_) (by kernel_rfl) ?_ (fun Kq hKq => ?_)
        rotate_left
        · simp only [List.getElem?_toArray, List.getElem?_cons_succ, List.getElem?_cons_zero]; rfl
        go_simp
        refine hKq.out _ _ (hHeld) (fun hHeld => ?_)
        clear hKq Kq
        (try simp only [Act.put, List.setIfInBounds_toArray, List.set_cons_zero, List.set_cons_succ])
        refine PX.wpAnyY_take (i := 4) (oi := ?_) (v := undef) ?_ (by kernel_rfl) (by kernel_rfl) (by kernel_rfl) (by kernel_rfl) (by kernel_rfl) (fun _ _ _ h => h) (Or.inr ⟨?_, rfl⟩) (by assumption) ?_
        rotate_left
        · simp only [List.getElem?_toArray, List.getElem?_cons_succ, List.getElem?_cons_zero]; rfl
        · rfl
        (try simp only [Act.put, List.setIfInBounds_toArray, List.set_cons_zero, List.set_cons_succ])
        refine PX.wpAnyY_take (i := 5) (oi := ?_) (v := undef) ?_ (by kernel_rfl) (by kernel_rfl) (by kernel_rfl) (by kernel_rfl) (by kernel_rfl) (fun _ _ _ h => h) (Or.inr ⟨?_, rfl⟩) (by assumption) ?_
        rotate_left
        · simp only [List.getElem?_toArray, List.getElem?_cons_succ, List.getElem?_cons_zero]; rfl
        · rfl
        (try simp only [Act.put, List.setIfInBounds_toArray, List.set_cons_zero, List.set_cons_succ])
        refine PX.wpAnyY_take (i := 6) (oi := ?_) (v := undef) ?_ (by kernel_rfl) (by kernel_rfl) (by kernel_rfl) (by kernel_rfl) (by kernel_rfl) (fun _ _ _ h => h) (Or.inr ⟨?_, rfl⟩) (by assumption) ?_
        rotate_left
        · simp only [List.getElem?_toArray, List.getElem?_cons_succ, List.getElem?_cons_zero]; rfl
        · rfl
        (try simp only [Act.put, List.setIfInBounds_toArray, List.set_cons_zero, List.set_cons_succ])
        refine PX.wpAnyY_one (i := 7) (o := ?_) (by kernel_rfl) ?_ (fun Kq hKq => ?_)
        rotate_left
        · simp only [List.getElem?_toArray, List.getElem?_cons_succ, List.getElem?_cons_zero]; rfl
        go_simp
        refine hKq.out _ _ (hHeld) (fun hHeld => ?_)
        clear hKq Kq
        (try simp only [Act.put, List.setIfInBounds_toArray, List.set_cons_zero, List.set_cons_succ])
        refine PX.wpAnyY_one (i := 8) (o := ?_) (by kernel_rfl) ?_ (fun Kq hKq => ?_)
        rotate_left
        · simp only [List.getElem?_toArray, List.getElem?_cons_succ, List.getElem?_cons_zero]; rfl
        go_simp
        refine hKq.out _ _ (hHeld) (fun hHeld => ?_)
        clear hKq Kq
        (try simp only [Act.put, List.setIfInBounds_toArray, List.set_cons_zero, List.set_cons_succ])
        refine PX.wpAnyY_one (i := 9) (o := ?_) (by kernel_rfl) ?_ (fun Kq hKq => ?_)
        rotate_left
        · simp only [List.getElem?_toArray, List.getElem?_cons_succ, List.getElem?_cons_zero]; rfl
        go_simp
        refine hKq.out _ _ (hHeld) (fun hHeld => ?_)
        clear hKq Kq
        (try simp only [Act.put, List.setIfInBounds_toArray, List.set_cons_zero, List.set_cons_succ])
        refine PX.wpAnyY_one (i := 10) (o := ?_) (by kernel_rfl) ?_ (fun Kq hKq => ?_)
        rotate_left
        · simp only [List.getElem?_toArray, List.getElem?_cons_succ, List.getElem?_cons_zero]; rfl
        go_simp
        refine hKq.out _ _ (hHeld) (fun hHeld => ?_)
        clear hKq Kq
        (try simp only [Act.put, List.setIfInBounds_toArray, List.set_cons_zero, List.set_cons_succ])
        refine PX.wpAnyY_done (by kernel_rfl) ?_ _
        refine NoPanic.normal ?_
        replace BL := Lib.hid (BL.out.here H1.out)
        replace BN := Lib.hid (BN.out.here H1.out)
        have HU := Lib.hid (hgn.out.trans (H1.out.mono hgn.out.size))
        clear ltL ltN
        have BF : Hid (Bx ((((u1.setCell ⟨w.heap.size, 0, none⟩ (.int .u32 0)).setCell ⟨w.heap.size, 1, none⟩ (.int .u32 0)).setCell ⟨w.heap.size, 2, none⟩ (.int .u32 0)).setCell ⟨w.heap.size, 3, none⟩ (.int .i64 0)) w.heap.size [.int .u32 0, .int .u32 0, .int .u32 0, .int .i64 0]) := ((((BL.out.set 0 (.int .u32 0)).set 1 (.int .u32 0)).set 2 (.int .u32 0)).set 3 (.int .i64 0))
        have HF : Hid (Below w.heap.size w ((((u1.setCell ⟨w.heap.size, 0, none⟩ (.int .u32 0)).setCell ⟨w.heap.size, 1, none⟩ (.int .u32 0)).setCell ⟨w.heap.size, 2, none⟩ (.int .u32 0)).setCell ⟨w.heap.size, 3, none⟩ (.int .i64 0))) := ((((HU.out.setCell (Nat.le_refl _) (.int .u32 0)).setCell (Nat.le_refl _) (.int .u32 0)).setCell (Nat.le_refl _) (.int .u32 0)).setCell (Nat.le_refl _) (.int .i64 0))
        clear hHeld
        obtain ⟨z0, z1, z2, z3⟩ := BN.out.four'
        obtain ⟨r0, r1, r2, r3⟩ := BL.out.four'
        obtain ⟨s0, s1, s2, s3⟩ := BL.out.froz4
        have ltL := BL.out.lt
        have ltN := BN.out.lt
        go_wp2_with fail
        clear z0 z1 z2 z3 r0 r1 r2 r3 s0 s1 s2 s3
        obtain ⟨q0, q1, q2, q3⟩ := BF.out.four'
        exact bodyPost_ret (v := .tuple #[supV Sup.zero, .int .i64 90]) (by simp [results, Try.results15, go_sem, q0, q1, q2, q3]; rfl) rfl ⟨rfl, HF.out⟩
      | true =>
        have hmay := SB.may_iff.1 hm
        have CB := Lib.hid (fun w1 => refSBlock_any ni na ns (nt : Int) w1 HI.out hmay)
        have HBB : Hid (Bytes (Sup.block ⟨ni, na, ns, (nt : Int)⟩)) := SB.block_bytes hmay HI.out
        have HBL : Hid ((Sup.block ⟨ni, na, ns, (nt : Int)⟩).length = 128) := SB.block_length _
        rw [hm] at CM
        have hgd : SB.good m = decide (Sup.block ⟨ni, na, ns, (nt : Int)⟩ = m) := by unfold SB.good; rw [HP.out, hm]; rfl
        have hx := HX.out
        rw [hgd, HP.out] at hx
        clear hm hgd hmay HX
        generalize hBK : Sup.block ⟨ni, na, ns, (nt : Int)⟩ = K at *
        clear hBK
        by_cases hk : K = m
        · have hn : ((str K).toList == (str m).toList) = true := by rw [str_two HBB.out HB.out]; exact decide_eq_true hk
          rw [decide_eq_true hk, if_pos rfl] at hx
          injection hx with hx1 hx2
          subst hx1 hx2
          clear hk
          refine wp_region_noPanic ?_
          refine PX.wp_region_y (fun w' => Below wn.heap.size wn w') [] (by kernel_rfl) (Below.refl _ _).drew (fun hHeld => ?_)
          refine PX.wpAnyY_take (i := 0) (oi := ?_) (v := ?_) ?_ (by kernel_rfl) (by kernel_rfl) (by kernel_rfl) (by kernel_rfl) (by kernel_rfl) (fun _ _ _ h => h) (Or.inl ⟨?_, ?_⟩) (by assumption) ?_
          rotate_left 2
          · simp only [List.getElem?_toArray, List.getElem?_cons_succ, List.getElem?_cons_zero]; rfl
          · rfl
          · intro w hSw; (try dsimp only at hSw); have hC := fun (b o : Nat) (h : b < wn.heap.size) => Below.cell hSw (p := ⟨b, o, none⟩) h; go_simp <;> with_reducible rfl
          (try simp only [Act.put, List.setIfInBounds_toArray, List.set_cons_zero, List.set_cons_succ])
          refine PX.wpAnyY_one (i := 1) (o := ?_) (by kernel_rfl) ?_ (fun Kq hKq => ?_)
          rotate_left
          · simp only [List.getElem?_toArray, List.getElem?_cons_succ, List.getElem?_cons_zero]; rfl
          go_simp
          (with_reducible refine (CM.out _).mono ?_)
          rintro e u1 ⟨rfl, bq⟩
          have H1 := Lib.hid (thence hHeld bq (Nat.le_refl _))
          clear bq
          go_wp2_with fail
          refine hKq.out _ _ (H1.out) (fun hHeld => ?_)
          clear hKq Kq
          (try simp only [Act.put, List.setIfInBounds_toArray, List.set_cons_zero, List.set_cons_succ])
          refine PX.wpAnyY_one (i := 2) (o := ?_) (by kernel_rfl) ?_ (fun Kq hKq => ?_)
          rotate_left
          · simp only [List.getElem?_toArray, List.getElem?_cons_succ, List.getElem?_cons_zero]; rfl
          go_simp
          refine hKq.out _ _ (hHeld) (fun hHeld => ?_)
          clear hKq Kq
          (try simp only [Act.put, List.setIfInBounds_toArray, List.set_cons_zero, List.set_cons_succ])
          refine PX.wpAnyY_one (i := 3) (o := ?_) (by kernel_rfl) ?_ (fun Kq hKq => ?_)
          rotate_left
          · simp only [List.getElem?_toArray, List.getElem?_cons_succ, List.getElem?_cons_zero]; rfl
          go_simp
          refine hKq.out _ _ (hHeld) (fun hHeld => ?_)
          clear hKq Kq
          (try simp only [Act.put, List.setIfInBounds_toArray, List.set_cons_zero, List.set_cons_succ])
          refine PX.wpAnyY_take (i := 4) (oi := ?_) (v := ?_) ?_ (by kernel_rfl) (by kernel_rfl) (by kernel_rfl) (by kernel_rfl) (by kernel_rfl) (fun _ _ _ h => h) (Or.inl ⟨?_, ?_⟩) (by assumption) ?_
          rotate_left 2
          · simp only [List.getElem?_toArray, List.getElem?_cons_succ, List.getElem?_cons_zero]; rfl
          · rfl
          · intro w hSw; (try dsimp only at hSw); have hC := fun (b o : Nat) (h : b < wn.heap.size) => Below.cell hSw (p := ⟨b, o, none⟩) h; go_simp <;> with_reducible rfl
          (try simp only [Act.put, List.setIfInBounds_toArray, List.set_cons_zero, List.set_cons_succ])
          refine PX.wpAnyY_take (i := 7) (oi := ?_) (v := ?_) ?_ (by kernel_rfl) (by kernel_rfl) (by kernel_rfl) (by kernel_rfl) (by kernel_rfl) (fun _ _ _ h => h) (Or.inl ⟨?_, ?_⟩) (by assumption) ?_
          rotate_left 2
          · simp only [List.getElem?_toArray, List.getElem?_cons_succ, List.getElem?_cons_zero]; rfl
          · rfl
          · intro w hSw; (try dsimp only at hSw); go_simp <;> with_reducible rfl
          (try simp only [Act.put, List.setIfInBounds_toArray, List.set_cons_zero, List.set_cons_succ])
          refine PX.wpAnyY_take (i := 8) (oi := ?_) (v := ?_) ?_ (by kernel_rfl) (by kernel_rfl) (by kernel_rfl) (by kernel_rfl) (by kernel_rfl) (fun _ _ _ h => h) (Or.inl ⟨?_, ?_⟩) (by assumption) ?_
          rotate_left 2
          · simp only [List.getElem?_toArray, List.getElem?_cons_succ, List.getElem?_cons_zero]; rfl
          · rfl
          · intro w hSw; (try dsimp only at hSw); have T8 := text_is w _ _ _ _ (RN.out.below (hSw.mono (HN.out.size))); go_simp <;> with_reducible rfl
          (try simp only [Act.put, List.setIfInBounds_toArray, List.set_cons_zero, List.set_cons_succ])
          refine PX.wpAnyY_one (i := 5) (o := ?_) (by kernel_rfl) ?_ (fun Kq hKq => ?_)
          rotate_left
          · simp only [List.getElem?_toArray, List.getElem?_cons_succ, List.getElem?_cons_zero]; rfl
          go_simp
          (with_reducible refine (CB.out _).mono ?_)
          rintro e u5 ⟨g5, rfl, hg5, hb5, bq⟩
          have H5 := Lib.hid (thence hHeld bq (Nat.le_refl _))
          have T5 := text_is u5 _ _ _ _ (hb5.rd HBL.out HBB.out)
          clear bq
          go_wp2_with fail
          refine hKq.out _ _ (H5.out) (fun hHeld => ?_)
          clear hKq Kq
          (try simp only [Act.put, List.setIfInBounds_toArray, List.set_cons_zero, List.set_cons_succ])
          refine PX.wpAnyY_one (i := 6) (o := ?_) (by kernel_rfl) ?_ (fun Kq hKq => ?_)
          rotate_left
          · simp only [List.getElem?_toArray, List.getElem?_cons_succ, List.getElem?_cons_zero]; rfl
          go_simp
          refine hKq.out _ _ (hHeld) (fun hHeld => ?_)
          clear hKq Kq
          (try simp only [Act.put, List.setIfInBounds_toArray, List.set_cons_zero, List.set_cons_succ])
          refine PX.wpAnyY_one (i := 9) (o := ?_) (by kernel_rfl) ?_ (fun Kq hKq => ?_)
          rotate_left
          · simp only [List.getElem?_toArray, List.getElem?_cons_succ, List.getElem?_cons_zero]; rfl
          go_simp
          refine hKq.out _ _ (hHeld) (fun hHeld => ?_)
          clear hKq Kq
          (try simp only [Act.put, List.setIfInBounds_toArray, List.set_cons_zero, List.set_cons_succ])
          refine PX.wpAnyY_one (i := 10) (o := ?_) (by kernel_rfl) ?_ (fun Kq hKq => ?_)
          rotate_left
          · simp only [List.getElem?_toArray, List.getElem?_cons_succ, List.getElem?_cons_zero]; rfl
          go_simp
          refine hKq.out _ _ (hHeld) (fun hHeld => ?_)
          clear hKq Kq
          (try simp only [Act.put, List.setIfInBounds_toArray, List.set_cons_zero, List.set_cons_succ])
          refine PX.wpAnyY_done (by kernel_rfl) ?_ _
          refine NoPanic.normal ?_
          replace BL := Lib.hid (BL.out.here H5.out)
          replace BN := Lib.hid (BN.out.here H5.out)
          have HU := Lib.hid (hgn.out.trans (H5.out.mono hgn.out.size))
          clear ltL ltN
          have BF : Hid (Bx ((((u5.setCell ⟨w.heap.size, 0, none⟩ (.int .u32 (ni : Int))).setCell ⟨w.heap.size, 1, none⟩ (.int .u32 (na : Int))).setCell ⟨w.heap.size, 2, none⟩ (.int .u32 (ns : Int))).setCell ⟨w.heap.size, 3, none⟩ (.int .i64 (nt : Int))) w.heap.size [.int .u32 (ni : Int), .int .u32 (na : Int), .int .u32 (ns : Int), .int .i64 (nt : Int)]) := ((((BL.out.set 0 (.int .u32 (ni : Int))).set 1 (.int .u32 (na : Int))).set 2 (.int .u32 (ns : Int))).set 3 (.int .i64 (nt : Int)))
          have HF : Hid (Below w.heap.size w ((((u5.setCell ⟨w.heap.size, 0, none⟩ (.int .u32 (ni : Int))).setCell ⟨w.heap.size, 1, none⟩ (.int .u32 (na : Int))).setCell ⟨w.heap.size, 2, none⟩ (.int .u32 (ns : Int))).setCell ⟨w.heap.size, 3, none⟩ (.int .i64 (nt : Int)))) := ((((HU.out.setCell (Nat.le_refl _) (.int .u32 (ni : Int))).setCell (Nat.le_refl _) (.int .u32 (na : Int))).setCell (Nat.le_refl _) (.int .u32 (ns : Int))).setCell (Nat.le_refl _) (.int .i64 (nt : Int)))
          clear hHeld
          obtain ⟨z0, z1, z2, z3⟩ := BN.out.four'
          obtain ⟨r0, r1, r2, r3⟩ := BL.out.four'
          obtain ⟨s0, s1, s2, s3⟩ := BL.out.froz4
          have ltL := BL.out.lt
          have ltN := BN.out.lt
          go_wp2_with fail
          clear z0 z1 z2 z3 r0 r1 r2 r3 s0 s1 s2 s3
          obtain ⟨q0, q1, q2, q3⟩ := BF.out.four'
          exact bodyPost_ret (v := .tuple #[supV ⟨ni, na, ns, (nt : Int)⟩, .int .i64 0]) (by simp [results, Try.results15, go_sem, q0, q1, q2, q3]; rfl) rfl ⟨rfl, HF.out⟩
        · have hn : ((str K).toList == (str m).toList) = false := by rw [str_two HBB.out HB.out]; exact decide_eq_false hk
          rw [decide_eq_false hk, if_neg (by decide)] at hx
          injection hx with hx1 hx2
          subst hx1 hx2
          clear hk
          refine wp_region_noPanic ?_
          refine PX.wp_region_y (fun w' => Below wn.heap.size wn w') [] (by kernel_rfl) (Below.refl _ _).drew (fun hHeld => ?_)
          refine PX.wpAnyY_take (i := 0) (oi := ?_) (v := ?_) ?_ (by kernel_rfl) (by kernel_rfl) (by kernel_rfl) (by kernel_rfl) (by kernel_rfl) (fun _ _ _ h => h) (Or.inl ⟨?_, ?_⟩) (by assumption) ?_
          rotate_left 2
          · simp only [List.getElem?_toArray, List.getElem?_cons_succ, List.getElem?_cons_zero]; rfl
          · rfl
          · intro w hSw; (try dsimp only at hSw); have hC := fun (b o : Nat) (h : b < wn.heap.size) => Below.cell hSw (p := ⟨b, o, none⟩) h; go_simp <;> with_reducible rfl
          (try simp only [Act.put, List.setIfInBounds_toArray, List.set_cons_zero, List.set_cons_succ])
          refine PX.wpAnyY_one (i := 1) (o := ?_) (by kernel_rfl) ?_ (fun Kq hKq => ?_)
          rotate_left
          · simp only [List.getElem?_toArray, List.getElem?_cons_succ, List.getElem?_cons_zero]; rfl
          go_simp
          (with_reducible refine (CM.out _).mono ?_)
          rintro e u1 ⟨rfl, bq⟩
          have H1 := Lib.hid (thence hHeld bq (Nat.le_refl _))
          clear bq
          go_wp2_with fail
          refine hKq.out _ _ (H1.out) (fun hHeld => ?_)
          clear hKq Kq
          (try simp only [Act.put, List.setIfInBounds_toArray, List.set_cons_zero, List.set_cons_succ])
          refine PX.wpAnyY_one (i := 2) (o := ?_) (by kernel_rfl) ?_ (fun Kq hKq => ?_)
          rotate_left
          · simp only [List.getElem?_toArray, List.getElem?_cons_succ, List.getElem?_cons_zero]; rfl
          go_simp
          refine hKq.out _ _ (hHeld) (fun hHeld => ?_)
          clear hKq Kq
          (try simp only [Act.put, List.setIfInBounds_toArray, List.set_cons_zero, List.set_cons_succ])
          refine PX.wpAnyY_one (i := 3) (o := ?_) (by kernel_rfl) ?_ (fun Kq hKq => ?_)
          rotate_left
          · simp only [List.getElem?_toArray, List.getElem?_cons_succ, List.getElem?_cons_zero]; rfl
          go_simp
          refine hKq.out _ _ (hHeld) (fun hHeld => ?_)
          clear hKq Kq
          (try simp only [Act.put, List.setIfInBounds_toArray, List.set_cons_zero, List.set_cons_succ])
          refine PX.wpAnyY_take (i := 4) (oi := ?_) (v := ?_) ?_ (by kernel_rfl) (by kernel_rfl) (by kernel_rfl) (by kernel_rfl) (by kernel_rfl) (fun _ _ _ h => h) (Or.inl ⟨?_, ?_⟩) (by assumption) ?_
          rotate_left 2
          · simp only [List.getElem?_toArray, List.getElem?_cons_succ, List.getElem?_cons_zero]; rfl
          · rfl
          · intro w hSw; (try dsimp only at hSw); have hC := fun (b o : Nat) (h : b < wn.heap.size) => Below.cell hSw (p := ⟨b, o, none⟩) h; go_simp <;> with_reducible rfl
          (try simp only [Act.put, List.setIfInBounds_toArray, List.set_cons_zero, List.set_cons_succ])
          refine PX.wpAnyY_take (i := 7) (oi := ?_) (v := ?_) ?_ (by kernel_rfl) (by kernel_rfl) (by kernel_rfl) (by kernel_rfl) (by kernel_rfl) (fun _ _ _ h => h) (Or.inl ⟨?_, ?_⟩) (by assumption) ?_
          rotate_left 2
          · simp only [List.getElem?_toArray, List.getElem?_cons_succ, List.getElem?_cons_zero]; rfl
          · rfl
          · intro w hSw; (try dsimp only at hSw); go_simp <;> with_reducible rfl
          (try simp only [Act.put, List.setIfInBounds_toArray, List.set_cons_zero, List.set_cons_succ])
          refine PX.wpAnyY_take (i := 8) (oi := ?_) (v := ?_) ?_ (by kernel_rfl) (by kernel_rfl) (by kernel_rfl) (by kernel_rfl) (by kernel_rfl) (fun _ _ _ h => h) (Or.inl ⟨?_, ?_⟩) (by assumption) ?_
          rotate_left 2
          · simp only [List.getElem?_toArray, List.getElem?_cons_succ, List.getElem?_cons_zero]; rfl
          · rfl
          · intro w hSw; (try dsimp only at hSw); have T8 := text_is w _ _ _ _ (RN.out.below (hSw.mono (HN.out.size))); go_simp <;> with_reducible rfl
          (try simp only [Act.put, List.setIfInBounds_toArray, List.set_cons_zero, List.set_cons_succ])
          refine PX.wpAnyY_one (i := 5) (o := ?_) (by kernel_rfl) ?_ (fun Kq hKq => ?_)
          rotate_left
          · simp only [List.getElem?_toArray, List.getElem?_cons_succ, List.getElem?_cons_zero]; rfl
          go_simp
          (with_reducible refine (CB.out _).mono ?_)
          rintro e u5 ⟨g5, rfl, hg5, hb5, bq⟩
          have H5 := Lib.hid (thence hHeld bq (Nat.le_refl _))
          have T5 := text_is u5 _ _ _ _ (hb5.rd HBL.out HBB.out)
          clear bq
          go_wp2_with fail
          refine hKq.out _ _ (H5.out) (fun hHeld => ?_)
          clear hKq Kq
          (try simp only [Act.put, List.setIfInBounds_toArray, List.set_cons_zero, List.set_cons_succ])
          refine PX.wpAnyY_one (i := 6) (o := ?_) (by kernel_rfl) ?_ (fun Kq hKq => ?_)
          rotate_left
          · simp only [List.getElem?_toArray, List.getElem?_cons_succ, List.getElem?_cons_zero]; rfl
          go_simp
          refine hKq.out _ _ (hHeld) (fun hHeld => ?_)
          clear hKq Kq
          (try simp only [Act.put, List.setIfInBounds_toArray, List.set_cons_zero, List.set_cons_succ])
          refine PX.wpAnyY_one (i := 9) (o := ?_) (by kernel_rfl) ?_ (fun Kq hKq => ?_)
          rotate_left
          · simp only [List.getElem?_toArray, List.getElem?_cons_succ, List.getElem?_cons_zero]; rfl
          go_simp
          refine hKq.out _ _ (hHeld) (fun hHeld => ?_)
          clear hKq Kq
          (try simp only [Act.put, List.setIfInBounds_toArray, List.set_cons_zero, List.set_cons_succ])
          refine PX.wpAnyY_one (i := 10) (o := ?_) (by kernel_rfl) ?_ (fun Kq hKq => ?_)
          rotate_left
          · simp only [List.getElem?_toArray, List.getElem?_cons_succ, List.getElem?_cons_zero]; rfl
          go_simp
          refine hKq.out _ _ (hHeld) (fun hHeld => ?_)
          clear hKq Kq
          (try simp only [Act.put, List.setIfInBounds_toArray, List.set_cons_zero, List.set_cons_succ])
          refine PX.wpAnyY_done (by kernel_rfl) ?_ _
          refine NoPanic.normal ?_
          replace BL := Lib.hid (BL.out.here H5.out)
          replace BN := Lib.hid (BN.out.here H5.out)
          have HU := Lib.hid (hgn.out.trans (H5.out.mono hgn.out.size))
          clear ltL ltN
          have BF : Hid (Bx ((((u5.setCell ⟨w.heap.size, 0, none⟩ (.int .u32 0)).setCell ⟨w.heap.size, 1, none⟩ (.int .u32 0)).setCell ⟨w.heap.size, 2, none⟩ (.int .u32 0)).setCell ⟨w.heap.size, 3, none⟩ (.int .i64 0)) w.heap.size [.int .u32 0, .int .u32 0, .int .u32 0, .int .i64 0]) := ((((BL.out.set 0 (.int .u32 0)).set 1 (.int .u32 0)).set 2 (.int .u32 0)).set 3 (.int .i64 0))
          have HF : Hid (Below w.heap.size w ((((u5.setCell ⟨w.heap.size, 0, none⟩ (.int .u32 0)).setCell ⟨w.heap.size, 1, none⟩ (.int .u32 0)).setCell ⟨w.heap.size, 2, none⟩ (.int .u32 0)).setCell ⟨w.heap.size, 3, none⟩ (.int .i64 0))) := ((((HU.out.setCell (Nat.le_refl _) (.int .u32 0)).setCell (Nat.le_refl _) (.int .u32 0)).setCell (Nat.le_refl _) (.int .u32 0)).setCell (Nat.le_refl _) (.int .i64 0))
          clear hHeld
          obtain ⟨z0, z1, z2, z3⟩ := BN.out.four'
          obtain ⟨r0, r1, r2, r3⟩ := BL.out.four'
          obtain ⟨s0, s1, s2, s3⟩ := BL.out.froz4
          have ltL := BL.out.lt
          have ltN := BN.out.lt
          go_wp2_with fail
          clear z0 z1 z2 z3 r0 r1 r2 r3 s0 s1 s2 s3
          obtain ⟨q0, q1, q2, q3⟩ := BF.out.four'
          exact bodyPost_ret (v := .tuple #[supV Sup.zero, .int .i64 90]) (by simp [results, Try.results15, go_sem, q0, q1, q2, q3]; rfl) rfl ⟨rfl, HF.out⟩
  · go_simp
    have hl : Below W1.heap.size W1 (W1.alloc (.cells #[.int .u32 0, .int .u32 0, .int .u32 0, .int .i64 0] 28)) := (Below.refl _ _).alloc (Nat.le_refl _) _
    have HA : Hid (Below W1.heap.size W1 (W1.alloc (.cells #[.int .u32 0, .int .u32 0, .int .u32 0, .int .i64 0] 28)).drew) := (thence (Below.refl _ _) hl (Nat.le_refl _)).drew
    have BN : Hid (Bx (W1.alloc (.cells #[.int .u32 0, .int .u32 0, .int .u32 0, .int .i64 0] 28)).drew W1.heap.size [.int .u32 0, .int .u32 0, .int .u32 0, .int .i64 0]) := Bx.new W1 [.int .u32 0, .int .u32 0, .int .u32 0, .int .i64 0] 28
    have hgb : Hid (W1.heap.size ≤ W1.heap.size) := Nat.le_refl _
    clear hl
    generalize (W1.alloc (.cells #[.int .u32 0, .int .u32 0, .int .u32 0, .int .i64 0] 28)).drew = wa at *
    obtain ⟨gb, hG⟩ : ∃ gb, W1.heap.size = gb := ⟨_, rfl⟩
    rw [hG] at BN ⊢
    replace hgb : Hid (W1.heap.size ≤ gb) := hG ▸ hgb.out
    clear hG
    obtain ⟨z0, z1, z2, z3⟩ := BN.out.four'
    obtain ⟨y0, y1, y2, y3⟩ := BN.out.froz4
    have ltN := BN.out.lt
    refine hKq.out _ _ (HA.out) (fun hHeld => ?_)
    clear hKq Kq
    (try simp only [Act.put, List.setIfInBounds_toArray, List.set_cons_zero, List.set_cons_succ])
    refine PX.wpAnyY_one (i := 1) (o := ?_) (by kernel_rfl) ?_ (fun Kq hKq => ?_)
    rotate_left
    · simp only [List.getElem?_toArray, List.getElem?_cons_succ, List.getElem?_cons_zero]; rfl
    go_simp
    refine (CN1.out _ hHeld).mono ?_
    rintro e u1 ⟨rfl, bq⟩
    have H1 := Lib.hid (thence hHeld bq (Nat.le_refl _))
    replace BN := Lib.hid (BN.out.here bq)
    clear z0 z1 z2 z3 y0 y1 y2 y3 ltN
    obtain ⟨z0, z1, z2, z3⟩ := BN.out.four'
    obtain ⟨y0, y1, y2, y3⟩ := BN.out.froz4
    have ltN := BN.out.lt
    clear bq
    go_wp2_with fail
    refine hKq.out _ _ (H1.out) (fun hHeld => ?_)
    clear hKq Kq
    (try simp only [Act.put, List.setIfInBounds_toArray, List.set_cons_zero, List.set_cons_succ])
    refine PX.wpAnyY_one (i := 3) (o := ?_) (by kernel_rfl) ?_ (fun Kq hKq => ?_)
    rotate_left
    · simp only [List.getElem?_toArray, List.getElem?_cons_succ, List.getElem?_cons_zero]; rfl
    go_simp
    refine (CN5.out _ hHeld).mono ?_
    rintro e u3 ⟨rfl, bq⟩
    have H3 := Lib.hid (thence hHeld bq (Nat.le_refl _))
    replace BN := Lib.hid (BN.out.here bq)
    clear z0 z1 z2 z3 y0 y1 y2 y3 ltN
    obtain ⟨z0, z1, z2, z3⟩ := BN.out.four'
    obtain ⟨y0, y1, y2, y3⟩ := BN.out.froz4
    have ltN := BN.out.lt
    clear bq
    go_wp2_with fail
    refine hKq.out _ _ (H3.out) (fun hHeld => ?_)
    clear hKq Kq
    (try simp only [Act.put, List.setIfInBounds_toArray, List.set_cons_zero, List.set_cons_succ])
    refine PX.wpAnyY_one (i := 5) (o := ?_) (by kernel_rfl) ?_ (fun Kq hKq => ?_)
    rotate_left
    · simp only [List.getElem?_toArray, List.getElem?_cons_succ, List.getElem?_cons_zero]; rfl
    go_simp
    refine (CN9.out _ hHeld).mono ?_
    rintro e u5 ⟨rfl, bq⟩
    have H5 := Lib.hid (thence hHeld bq (Nat.le_refl _))
    replace BN := Lib.hid (BN.out.here bq)
    clear z0 z1 z2 z3 y0 y1 y2 y3 ltN
    obtain ⟨z0, z1, z2, z3⟩ := BN.out.four'
    obtain ⟨y0, y1, y2, y3⟩ := BN.out.froz4
    have ltN := BN.out.lt
    clear bq
    go_wp2_with fail
    refine hKq.out _ _ (H5.out) (fun hHeld => ?_)
    clear hKq Kq
    (try simp only [Act.put, List.setIfInBounds_toArray, List.set_cons_zero, List.set_cons_succ])
    refine PX.wpAnyY_one (i := 10) (o := ?_) (by kernel_rfl) ?_ (fun Kq hKq => ?_)
    rotate_left
    · simp only [List.getElem?_toArray, List.getElem?_cons_succ, List.getElem?_cons_zero]; rfl
    go_simp
    refine hKq.out _ _ (hHeld) (fun hHeld => ?_)
    clear hKq Kq
    (try simp only [Act.put, List.setIfInBounds_toArray, List.set_cons_zero, List.set_cons_succ])
    refine PX.wpAnyY_one (i := 12) (o := ?_) (by kernel_rfl) ?_ (fun Kq hKq => ?_)
    rotate_left
    · simp only [List.getElem?_toArray, List.getElem?_cons_succ, List.getElem?_cons_zero]; rfl
    go_simp
    have BM : Hid (Bx ((((u5.setCell ⟨gb, 0, none⟩ (.int .u32 (ni : Int))).setCell ⟨gb, 1, none⟩ (.int .u32 (na : Int))).setCell ⟨gb, 2, none⟩ (.int .u32 (ns : Int))).setCell ⟨gb, 3, none⟩ (.int .i64 (nt : Int))) gb [.int .u32 (ni : Int), .int .u32 (na : Int), .int .u32 (ns : Int), .int .i64 (nt : Int)]) := ((((BN.out.set 0 (.int .u32 (ni : Int))).set 1 (.int .u32 (na : Int))).set 2 (.int .u32 (ns : Int))).set 3 (.int .i64 (nt : Int)))
    have HM : Hid (Below W1.heap.size W1 ((((u5.setCell ⟨gb, 0, none⟩ (.int .u32 (ni : Int))).setCell ⟨gb, 1, none⟩ (.int .u32 (na : Int))).setCell ⟨gb, 2, none⟩ (.int .u32 (ns : Int))).setCell ⟨gb, 3, none⟩ (.int .i64 (nt : Int)))) := ((((hHeld.setCell hgb.out (.int .u32 (ni : Int))).setCell hgb.out (.int .u32 (na : Int))).setCell hgb.out (.int .u32 (ns : Int))).setCell hgb.out (.int .i64 (nt : Int)))
    clear BN z0 z1 z2 z3 y0 y1 y2 y3 ltN
    generalize ((((u5.setCell ⟨gb, 0, none⟩ (.int .u32 (ni : Int))).setCell ⟨gb, 1, none⟩ (.int .u32 (na : Int))).setCell ⟨gb, 2, none⟩ (.int .u32 (ns : Int))).setCell ⟨gb, 3, none⟩ (.int .i64 (nt : Int))) = wn at *
    refine hKq.out _ _ (HM.out) (fun hHeld => ?_)
    clear hKq Kq
    (try simp only [Act.put, List.setIfInBounds_toArray, List.set_cons_zero, List.set_cons_succ])
    refine PX.wpAnyY_done (by kernel_rfl) ?_ _
    refine NoPanic.normal ?_
    clear hHeld
    clear f13
    have BN := BM
    have HN := HM
    clear BM HM
    go_wp2_with fail
    have BL := Lib.hid (BR.out.here HN.out)
    have RN := Lib.hid (R1.out.below HN.out)
    have hgn : Hid (Below w.heap.size w wn) := B0.out.trans ((thence B1.out HN.out (Nat.le_refl _)).mono B0.out.size)
    have CM := Lib.hid (refSMay_any ni na ns (nt : Int))
    have ltL := BL.out.lt
    have ltN := BN.out.lt
    obtain ⟨z0, z1, z2, z3⟩ := BN.out.four'
    cases hm : Sup.may ⟨ni, na, ns, (nt : Int)⟩ with
    | false =>
      rw [hm] at CM
      have hgd : SB.good m = false := by unfold SB.good; rw [HP.out, hm]; rfl
      have hx := HX.out
      rw [hgd, if_neg (by decide)] at hx
      injection hx with hx1 hx2
      subst hx1 hx2
      clear hm hgd HX
      refine wp_region_noPanic ?_
      refine PX.wp_region_y (fun w' => Below wn.heap.size wn w') [] (by kernel_rfl) (Below.refl _ _).drew (fun hHeld => ?_)
      refine PX.wpAnyY_take (i := 0) (oi := ?_) (v := ?_) ?_ (by kernel_rfl) (by kernel_rfl) (by kernel_rfl) (by kernel_rfl) (by kernel_rfl) (fun _ _ _ h => h) (Or.inl ⟨?_, ?_⟩) (by assumption) ?_
      rotate_left 2
      · simp only [List.getElem?_toArray, List.getElem?_cons_succ, List.getElem?_cons_zero]; rfl
      · rfl
      · intro w hSw; (try dsimp only at hSw); have hC := fun (b o : Nat) (h : b < wn.heap.size) => Below.cell hSw (p := ⟨b, o, none⟩) h; go_simp <;> with_reducible rfl
      (try simp only [Act.put, List.setIfInBounds_toArray, List.set_cons_zero, List.set_cons_succ])
      refine PX.wpAnyY_one (i := 1) (o := ?_) (by kernel_rfl) ?_ (fun Kq hKq => ?_)
      rotate_left
      · simp only [List.getElem?_toArray, List.getElem?_cons_succ, List.getElem?_cons_zero]; rfl
      go_simp
      (with_reducible refine (CM.out _).mono ?_)
      rintro e u1 ⟨rfl, bq⟩
      have H1 := Lib.hid (thence hHeld bq (Nat.le_refl _))
      clear bq
      go_wp2_with fail
      refine hKq.out _ _ (H1.out) (fun hHeld => ?_)
      clear hKq Kq
      (try simp only [Act.put, List.setIfInBounds_toArray, List.set_cons_zero, List.set_cons_succ])
      refine PX.wpAnyY_one (i := 2) (o := ?_) (by kernel_rfl) ?_ (fun Kq hKq => ?_)
      rotate_left
      · simp only [List.getElem?_toArray, List.getElem?_cons_succ, List.getElem?_cons_zero]; rfl
      go_simp
      refine hKq.out _ _ (hHeld) (fun hHeld => ?_)
      clear hKq Kq
      (try simp only [Act.put, List.setIfInBounds_toArray, List.set_cons_zero, List.set_cons_succ])
      refine PX.wpAnyY_one (i := 3) (o := ?_) (by kernel_rfl) ?_ (fun Kq hKq => ?_)
      rotate_left
      · simp only [List.getElem?_toArray, List.getElem?_cons_succ, List.getElem?_cons_zero]; rfl
      go_simp
      refine hKq.out _ _ (hHeld) (fun hHeld => ?_)
      clear hKq Kq
      (try simp only [Act.put, List.setIfInBounds_toArray, List.set_cons_zero, List.set_cons_succ])
      refine PX.wpAnyY_take (i := 4) (oi := ?_) (v := undef) ?_ (by kernel_rfl) (by kernel_rfl) (by kernel_rfl) (by kernel_rfl) (by kernel_rfl) (fun _ _ _ h => h) (Or.inr ⟨?_, rfl⟩) (by assumption) ?_
      rotate_left
      · simp only [List.getElem?_toArray, List.getElem?_cons_succ, List.getElem?_cons_zero]; rfl
      · rfl
      (try simp only [Act.put, List.setIfInBounds_toArray, List.set_cons_zero, List.set_cons_succ])
      refine PX.wpAnyY_take (i := 5) (oi := ?_) (v := undef) ?_ (by kernel_rfl) (by kernel_rfl) (by kernel_rfl) (by kernel_rfl) (by kernel_rfl) (fun _ _ _ h => h) (Or.inr ⟨?_, rfl⟩) (by assumption) ?_
      rotate_left
      · simp only [List.getElem?_toArray, List.getElem?_cons_succ, List.getElem?_cons_zero]; rfl
      · rfl
      (try simp only [Act.put, List.setIfInBounds_toArray, List.set_cons_zero, List.set_cons_succ])
      refine PX.wpAnyY_take (i := 6) (oi := ?_) (v := undef) ?_ (by kernel_rfl) (by kernel_rfl) (by kernel_rfl) (by kernel_rfl) (by kernel_rfl) (fun _ _ _ h => h) (Or.inr ⟨?_, rfl⟩) (by assumption) ?_
      rotate_left
      · simp only [List.getElem?_toArray, List.getElem?_cons_succ, List.getElem?_cons_zero]; rfl
      · rfl
      (try simp only [Act.put, List.setIfInBounds_toArray, List.set_cons_zero, List.set_cons_succ])
      refine PX.wpAnyY_one (i := 7) (o := ?_) (by kernel_rfl) ?_ (fun Kq hKq => ?_)
      rotate_left
      · simp only [List.getElem?_toArray, List.getElem?_cons_succ, List.getElem?_cons_zero]; rfl
      go_simp
      refine hKq.out _ _ (hHeld) (fun hHeld => ?_)
      clear hKq Kq
      (try simp only [Act.put, List.setIfInBounds_toArray, List.set_cons_zero, List.set_cons_succ])
      refine PX.wpAnyY_one (i := 8) (o := ?_) (by kernel_rfl) ?_ (fun Kq hKq => ?_)
      rotate_left
      · simp only [List.getElem?_toArray, List.getElem?_cons_succ, List.getElem?_cons_zero]; rfl
      go_simp
      refine hKq.out _ _ (hHeld) (fun hHeld => ?_)
      clear hKq Kq
      (try simp only [Act.put, List.setIfInBounds_toArray, List.set_cons_zero, List.set_cons_succ])
      refine PX.wpAnyY_one (i := 9) (o := ?_) (by kernel_rfl) ?_ (fun Kq hKq => ?_)
      rotate_left
      · simp only [List.getElem?_toArray, List.getElem?_cons_succ, List.getElem?_cons_zero]; rfl
      go_simp
      refine hKq.out _ _ (hHeld) (fun hHeld => ?_)
      clear hKq Kq
      (try simp only [Act.put, List.setIfInBounds_toArray, List.set_cons_zero, List.set_cons_succ])
      refine PX.wpAnyY_one (i := 10) (o := ?_) (by kernel_rfl) ?_ (fun Kq hKq => ?_)
      rotate_left
      · simp only [List.getElem?_toArray, List.getElem?_cons_succ, List.getElem?_cons_zero]; rfl
      go_simp
      refine hKq.out _ _ (hHeld) (fun hHeld => ?_)
      clear hKq Kq
      (try simp only [Act.put, List.setIfInBounds_toArray, List.set_cons_zero, List.set_cons_succ])
      refine PX.wpAnyY_done (by kernel_rfl) ?_ _
      refine NoPanic.normal ?_
      replace BL := Lib.hid (BL.out.here H1.out)
      replace BN := Lib.hid (BN.out.here H1.out)
      have HU := Lib.hid (hgn.out.trans (H1.out.mono hgn.out.size))
      clear ltL ltN
      have BF : Hid (Bx ((((u1.setCell ⟨w.heap.size, 0, none⟩ (.int .u32 0)).setCell ⟨w.heap.size, 1, none⟩ (.int .u32 0)).setCell ⟨w.heap.size, 2, none⟩ (.int .u32 0)).setCell ⟨w.heap.size, 3, none⟩ (.int .i64 0)) w.heap.size [.int .u32 0, .int .u32 0, .int .u32 0, .int .i64 0]) := ((((BL.out.set 0 (.int .u32 0)).set 1 (.int .u32 0)).set 2 (.int .u32 0)).set 3 (.int .i64 0))
      have HF : Hid (Below w.heap.size w ((((u1.setCell ⟨w.heap.size, 0, none⟩ (.int .u32 0)).setCell ⟨w.heap.size, 1, none⟩ (.int .u32 0)).setCell ⟨w.heap.size, 2, none⟩ (.int .u32 0)).setCell ⟨w.heap.size, 3, none⟩ (.int .i64 0))) := ((((HU.out.setCell (Nat.le_refl _) (.int .u32 0)).setCell (Nat.le_refl _) (.int .u32 0)).setCell (Nat.le_refl _) (.int .u32 0)).setCell (Nat.le_refl _) (.int .i64 0))
      clear hHeld
      obtain ⟨z0, z1, z2, z3⟩ := BN.out.four'
      obtain ⟨r0, r1, r2, r3⟩ := BL.out.four'
      obtain ⟨s0, s1, s2, s3⟩ := BL.out.froz4
      have ltL := BL.out.lt
      have ltN := BN.out.lt
      go_wp2_with fail
      clear z0 z1 z2 z3 r0 r1 r2 r3 s0 s1 s2 s3
      obtain ⟨q0, q1, q2, q3⟩ := BF.out.four'
      exact bodyPost_ret (v := .tuple #[supV Sup.zero, .int .i64 90]) (by simp [results, Try.results15, go_sem, q0, q1, q2, q3]; rfl) rfl ⟨rfl, HF.out⟩
    | true =>
      have hmay := SB.may_iff.1 hm
      have CB := Lib.hid (fun w1 => refSBlock_any ni na ns (nt : Int) w1 HI.out hmay)
      have HBB : Hid (Bytes (Sup.block ⟨ni, na, ns, (nt : Int)⟩)) := SB.block_bytes hmay HI.out
      have HBL : Hid ((Sup.block ⟨ni, na, ns, (nt : Int)⟩).length = 128) := SB.block_length _
      rw [hm] at CM
      have hgd : SB.good m = decide (Sup.block ⟨ni, na, ns, (nt : Int)⟩ = m) := by unfold SB.good; rw [HP.out, hm]; rfl
      have hx := HX.out
      rw [hgd, HP.out] at hx
      clear hm hgd hmay HX
      generalize hBK : Sup.block ⟨ni, na, ns, (nt : Int)⟩ = K at *
      clear hBK
      by_cases hk : K = m
      · have hn : ((str K).toList == (str m).toList) = true := by rw [str_two HBB.out HB.out]; exact decide_eq_true hk
        rw [decide_eq_true hk, if_pos rfl] at hx
        injection hx with hx1 hx2
        subst hx1 hx2
        clear hk
        refine wp_region_noPanic ?_
        refine PX.wp_region_y (fun w' => Below wn.heap.size wn w') [] (by kernel_rfl) (Below.refl _ _).drew (fun hHeld => ?_)
        refine PX.wpAnyY_take (i := 0) (oi := ?_) (v := ?_) ?_ (by kernel_rfl) (by kernel_rfl) (by kernel_rfl) (by kernel_rfl) (by kernel_rfl) (fun _ _ _ h => h) (Or.inl ⟨?_, ?_⟩) (by assumption) ?_
        rotate_left 2
        · simp only [List.getElem?_toArray, List.getElem?_cons_succ, List.getElem?_cons_zero]; rfl
        · rfl
        · intro w hSw; (try dsimp only at hSw); have hC := fun (b o : Nat) (h : b < wn.heap.size) => Below.cell hSw (p := ⟨b, o, none⟩) h; go_simp <;> with_reducible rfl
        (try simp only [Act.put, List.setIfInBounds_toArray, List.set_cons_zero, List.set_cons_succ])
        refine PX.wpAnyY_one (i := 1) (o := ?_) (by kernel_rfl) ?_ (fun Kq hKq => ?_)
        rotate_left
        · simp only [List.getElem?_toArray, List.getElem?_cons_succ, List.getElem?_cons_zero]; rfl
        go_simp
        (with_reducible refine (CM.out _).mono ?_)
        rintro e u1 ⟨rfl, bq⟩
        have H1 := Lib.hid (thence hHeld bq (Nat.le_refl _))
        clear bq
        go_wp2_with fail
        refine hKq.out _ _ (H1.out) (fun hHeld => ?_)
        clear hKq Kq
        (try simp only [Act.put, List.setIfInBounds_toArray, List.set_cons_zero, List.set_cons_succ])
        refine PX.wpAnyY_one (i := 2) (o := ?_) (by kernel_rfl) ?_ (fun Kq hKq => ?_)
        rotate_left
        · simp only [List.getElem?_toArray, List.getElem?_cons_succ, List.getElem?_cons_zero]; rfl
        go_simp
        refine hKq.out _ _ (hHeld) (fun hHeld => ?_)
        clear hKq Kq
        (try simp only [Act.put, List.setIfInBounds_toArray, List.set_cons_zero, List.set_cons_succ])
        refine PX.wpAnyY_one (i := 3) (o := ?_) (by kernel_rfl) ?_ (fun Kq hKq => ?_)
        rotate_left
        · simp only [List.getElem?_toArray, List.getElem?_cons_succ, List.getElem?_cons_zero]; rfl
        go_simp
        refine hKq.out _ _ (hHeld) (fun hHeld => ?_)
        clear hKq Kq
        (try simp only [Act.put, List.setIfInBounds_toArray, List.set_cons_zero, List.set_cons_succ])
        refine PX.wpAnyY_take (i := 4) (oi := ?_) (v := ?_) ?_ (by kernel_rfl) (by kernel_rfl) (by kernel_rfl) (by kernel_rfl) (by kernel_rfl) (fun _ _ _ h => h) (Or.inl ⟨?_, ?_⟩) (by assumption) ?_
        rotate_left 2
        · simp only [List.getElem?_toArray, List.getElem?_cons_succ, List.getElem?_cons_zero]; rfl
        · rfl
        · intro w hSw; (try dsimp only at hSw); have hC := fun (b o : Nat) (h : b < wn.heap.size) => Below.cell hSw (p := ⟨b, o, none⟩) h; go_simp <;> with_reducible rfl
        (try simp only [Act.put, List.setIfInBounds_toArray, List.set_cons_zero, List.set_cons_succ])
        refine PX.wpAnyY_take (i := 7) (oi := ?_) (v := ?_) ?_ (by kernel_rfl) (by kernel_rfl) (by kernel_rfl) (by kernel_rfl) (by kernel_rfl) (fun _ _ _ h => h) (Or.inl ⟨?_, ?_⟩) (by assumption) ?_
        rotate_left 2
        · simp only [List.getElem?_toArray, List.getElem?_cons_succ, List.getElem?_cons_zero]; rfl
        · rfl
        · intro w hSw; (try dsimp only at hSw); go_simp <;> with_reducible rfl
        (try simp only [Act.put, List.setIfInBounds_toArray, List.set_cons_zero, List.set_cons_succ])
        refine PX.wpAnyY_take (i := 8) (oi := ?_) (v := ?_) ?_ (by kernel_rfl) (by kernel_rfl) (by kernel_rfl) (by kernel_rfl) (by kernel_rfl) (fun _ _ _ h => h) (Or.inl ⟨?_, ?_⟩) (by assumption) ?_
        rotate_left 2
        · simp only [List.getElem?_toArray, List.getElem?_cons_succ, List.getElem?_cons_zero]; rfl
        · rfl
        · intro w hSw; (try dsimp only at hSw); have T8 := text_is w _ _ _ _ (RN.out.below (hSw.mono (HN.out.size))); go_simp <;> with_reducible rfl
        (try simp only [Act.put, List.setIfInBounds_toArray, List.set_cons_zero, List.set_cons_succ])
        refine PX.wpAnyY_one (i := 5) (o := ?_) (by kernel_rfl) ?_ (fun Kq hKq => ?_)
        rotate_left
        · simp only [List.getElem?_toArray, List.getElem?_cons_succ, List.getElem?_cons_zero]; rfl
        go_simp
        (with_reducible refine (CB.out _).mono ?_)
        rintro e u5 ⟨g5, rfl, hg5, hb5, bq⟩
        have H5 := Lib.hid (thence hHeld bq (Nat.le_refl _))
        have T5 := text_is u5 _ _ _ _ (hb5.rd HBL.out HBB.out)
        clear bq
        go_wp2_with fail
        refine hKq.out _ _ (H5.out) (fun hHeld => ?_)
        clear hKq Kq
        (try simp only [Act.put, List.setIfInBounds_toArray, List.set_cons_zero, List.set_cons_succ])
        refine PX.wpAnyY_one (i := 6) (o := ?_) (by kernel_rfl) ?_ (fun Kq hKq => ?_)
        rotate_left
        · simp only [List.getElem?_toArray, List.getElem?_cons_succ, List.getElem?_cons_zero]; rfl
        go_simp
        refine hKq.out _ _ (hHeld) (fun hHeld => ?_)
        clear hKq Kq
        (try simp only [Act.put, List.setIfInBounds_toArray, List.set_cons_zero, List.set_cons_succ])
        refine PX.wpAnyY_one (i := 9) (o := ?_) (by kernel_rfl) ?_ (fun Kq hKq => ?_)
        rotate_left
        · simp only [List.getElem?_toArray, List.getElem?_cons_succ, List.getElem?_cons_zero]; rfl
        go_simp
        refine hKq.out _ _ (hHeld) (fun hHeld => ?_)
        clear hKq Kq
        (try simp only [Act.put, List.setIfInBounds_toArray, List.set_cons_zero, List.set_cons_succ])
        refine PX.wpAnyY_one (i := 10) (o := ?_) (by kernel_rfl) ?_ (fun Kq hKq => ?_)
        rotate_left
        · simp only [List.getElem?_toArray, List.getElem?_cons_succ, List.getElem?_cons_zero]; rfl
        go_simp
        refine hKq.out _ _ (hHeld) (fun hHeld => ?_)
        clear hKq Kq
        (try simp only [Act.put, List.setIfInBounds_toArray, List.set_cons_zero, List.set_cons_succ])
        refine PX.wpAnyY_done (by kernel_rfl) ?_ _
        refine NoPanic.normal ?_
        replace BL := Lib.hid (BL.out.here H5.out)
        replace BN := Lib.hid (BN.out.here H5.out)
        have HU := Lib.hid (hgn.out.trans (H5.out.mono hgn.out.size))
        clear ltL ltN
        have BF : Hid (Bx ((((u5.setCell ⟨w.heap.size, 0, none⟩ (.int .u32 (ni : Int))).setCell ⟨w.heap.size, 1, none⟩ (.int .u32 (na : Int))).setCell ⟨w.heap.size, 2, none⟩ (.int .u32 (ns : Int))).setCell ⟨w.heap.size, 3, none⟩ (.int .i64 (nt : Int))) w.heap.size [.int .u32 (ni : Int), .int .u32 (na : Int), .int .u32 (ns : Int), .int .i64 (nt : Int)]) := ((((BL.out.set 0 (.int .u32 (ni : Int))).set 1 (.int .u32 (na : Int))).set 2 (.int .u32 (ns : Int))).set 3 (.int .i64 (nt : Int)))
        have HF : Hid (Below w.heap.size w ((((u5.setCell ⟨w.heap.size, 0, none⟩ (.int .u32 (ni : Int))).setCell ⟨w.heap.size, 1, none⟩ (.int .u32 (na : Int))).setCell ⟨w.heap.size, 2, none⟩ (.int .u32 (ns : Int))).setCell ⟨w.heap.size, 3, none⟩ (.int .i64 (nt : Int)))) := ((((HU.out.setCell (Nat.le_refl _) (.int .u32 (ni : Int))).setCell (Nat.le_refl _) (.int .u32 (na : Int))).setCell (Nat.le_refl _) (.int .u32 (ns : Int))).setCell (Nat.le_refl _) (.int .i64 (nt : Int)))
        clear hHeld
        obtain ⟨z0, z1, z2, z3⟩ := BN.out.four'
        obtain ⟨r0, r1, r2, r3⟩ := BL.out.four'
        obtain ⟨s0, s1, s2, s3⟩ := BL.out.froz4
        have ltL := BL.out.lt
        have ltN := BN.out.lt
        go_wp2_with fail
        clear z0 z1 z2 z3 r0 r1 r2 r3 s0 s1 s2 s3
        obtain ⟨q0, q1, q2, q3⟩ := BF.out.four'
        exact bodyPost_ret (v := .tuple #[supV ⟨ni, na, ns, (nt : Int)⟩, .int .i64 0]) (by simp [results, Try.results15, go_sem, q0, q1, q2, q3]; rfl) rfl ⟨rfl, HF.out⟩
      · have hn : ((str K).toList == (str m).toList) = false := by rw [str_two HBB.out HB.out]; exact decide_eq_false hk
        rw [decide_eq_false hk, if_neg (by decide)] at hx
        injection hx with hx1 hx2
        subst hx1 hx2
        clear hk
        refine wp_region_noPanic ?_
        refine PX.wp_region_y (fun w' => Below wn.heap.size wn w') [] (by kernel_rfl) (Below.refl _ _).drew (fun hHeld => ?_)
        refine PX.wpAnyY_take (i := 0) (oi := ?_) (v := ?_) ?_ (by kernel_rfl) (by kernel_rfl) (by kernel_rfl) (by kernel_rfl) (by kernel_rfl) (fun _ _ _ h => h) (Or.inl ⟨?_, ?_⟩) (by assumption) ?_
        rotate_left 2
        · simp only [List.getElem?_toArray, List.getElem?_cons_succ, List.getElem?_cons_zero]; rfl
        · rfl
        · intro w hSw; (try dsimp only at hSw); have hC := fun (b o : Nat) (h : b < wn.heap.size) => Below.cell hSw (p := ⟨b, o, none⟩) h; go_simp <;> with_reducible rfl
        (try simp only [Act.put, List.setIfInBounds_toArray, List.set_cons_zero, List.set_cons_succ])
        refine PX.wpAnyY_one (i := 1) (o := ?_) (by kernel_rfl) ?_ (fun Kq hKq => ?_)
        rotate_left
        · simp only [List.getElem?_toArray, List.getElem?_cons_succ, List.getElem?_cons_zero]; rfl
        go_simp
        (with_reducible refine (CM.out _).mono ?_)
        rintro e u1 ⟨rfl, bq⟩
        have H1 := Lib.hid (thence hHeld bq (Nat.le_refl _))
        clear bq
        go_wp2_with fail
        refine hKq.out _ _ (H1.out) (fun hHeld => ?_)
        clear hKq Kq
        (try simp only [Act.put, List.setIfInBounds_toArray, List.set_cons_zero, List.set_cons_succ])
        refine PX.wpAnyY_one (i := 2) (o := ?_) (by kernel_rfl) ?_ (fun Kq hKq => ?_)
        rotate_left
        · simp only [List.getElem?_toArray, List.getElem?_cons_succ, List.getElem?_cons_zero]; rfl
        go_simp
        refine hKq.out _ _ (hHeld) (fun hHeld => ?_)
        clear hKq Kq
        (try simp only [Act.put, List.setIfInBounds_toArray, List.set_cons_zero, List.set_cons_succ])
        refine PX.wpAnyY_one (i := 3) (o := ?_) (by kernel_rfl) ?_ (fun Kq hKq => ?_)
        rotate_left
        · simp only [List.getElem?_toArray, List.getElem?_cons_succ, List.getElem?_cons_zero]; rfl
        go_simp
        refine hKq.out _ _ (hHeld) (fun hHeld => ?_)
        clear hKq Kq
        (try simp only [Act.put, List.setIfInBounds_toArray, List.set_cons_zero, List.set_cons_succ])
        refine PX.wpAnyY_take (i := 4) (oi := ?_) (v := ?_) ?_ (by kernel_rfl) (by kernel_rfl) (by kernel_rfl) (by kernel_rfl) (by kernel_rfl) (fun _ _ _ h => h) (Or.inl ⟨?_, ?_⟩) (by assumption) ?_
        rotate_left 2
        · simp only [List.getElem?_toArray, List.getElem?_cons_succ, List.getElem?_cons_zero]; rfl
        · rfl
        · intro w hSw; (try dsimp only at hSw); have hC := fun (b o : Nat) (h : b < wn.heap.size) => Below.cell hSw (p := ⟨b, o, none⟩) h; go_simp <;> with_reducible rfl
        (try simp only [Act.put, List.setIfInBounds_toArray, List.set_cons_zero, List.set_cons_succ])
        refine PX.wpAnyY_take (i := 7) (oi := ?_) (v := ?_) ?_ (by kernel_rfl) (by kernel_rfl) (by kernel_rfl) (by kernel_rfl) (by kernel_rfl) (fun _ _ _ h => h) (Or.inl ⟨?_, ?_⟩) (by assumption) ?_
        rotate_left 2
        · simp only [List.getElem?_toArray, List.getElem?_cons_succ, List.getElem?_cons_zero]; rfl
        · rfl
        · intro w hSw; (try dsimp only at hSw); go_simp <;> with_reducible rfl
        (try simp only [Act.put, List.setIfInBounds_toArray, List.set_cons_zero, List.set_cons_succ])
        refine PX.wpAnyY_take (i := 8) (oi := ?_) (v := ?_) ?_ (by kernel_rfl) (by kernel_rfl) (by kernel_rfl) (by kernel_rfl) (by kernel_rfl) (fun _ _ _ h => h) (Or.inl ⟨?_, ?_⟩) (by assumption) ?_
        rotate_left 2
        · simp only [List.getElem?_toArray, List.getElem?_cons_succ, List.getElem?_cons_zero]; rfl
        · rfl
        · intro w hSw; (try dsimp only at hSw); have T8 := text_is w _ _ _ _ (RN.out.below (hSw.mono (HN.out.size))); go_simp <;> with_reducible rfl
        (try simp only [Act.put, List.setIfInBounds_toArray, List.set_cons_zero, List.set_cons_succ])
        refine PX.wpAnyY_one (i := 5) (o := ?_) (by kernel_rfl) ?_ (fun Kq hKq => ?_)
        rotate_left
        · simp only [List.getElem?_toArray, List.getElem?_cons_succ, List.getElem?_cons_zero]; rfl
        go_simp
        (with_reducible refine (CB.out _).mono ?_)
        rintro e u5 ⟨g5, rfl, hg5, hb5, bq⟩
        have H5 := Lib.hid (thence hHeld bq (Nat.le_refl _))
        have T5 := text_is u5 _ _ _ _ (hb5.rd HBL.out HBB.out)
        clear bq
        go_wp2_with fail
        refine hKq.out _ _ (H5.out) (fun hHeld => ?_)
        clear hKq Kq
        (try simp only [Act.put, List.setIfInBounds_toArray, List.set_cons_zero, List.set_cons_succ])
        refine PX.wpAnyY_one (i := 6) (o := ?_) (by kernel_rfl) ?_ (fun Kq hKq => ?_)
        rotate_left
        · simp only [List.getElem?_toArray, List.getElem?_cons_succ, List.getElem?_cons_zero]; rfl
        go_simp
        refine hKq.out _ _ (hHeld) (fun hHeld => ?_)
        clear hKq Kq
        (try simp only [Act.put, List.setIfInBounds_toArray, List.set_cons_zero, List.set_cons_succ])
        refine PX.wpAnyY_one (i := 9) (o := ?_) (by kernel_rfl) ?_ (fun Kq hKq => ?_)
        rotate_left
        · simp only [List.getElem?_toArray, List.getElem?_cons_succ, List.getElem?_cons_zero]; rfl
        go_simp
        refine hKq.out _ _ (hHeld) (fun hHeld => ?_)
        clear hKq Kq
        (try simp only [Act.put, List.setIfInBounds_toArray, List.set_cons_zero, List.set_cons_succ])
        refine PX.wpAnyY_one (i := 10) (o := ?_) (by kernel_rfl) ?_ (fun Kq hKq => ?_)
        rotate_left
        · simp only [List.getElem?_toArray, List.getElem?_cons_succ, List.getElem?_cons_zero]; rfl
        go_simp
        refine hKq.out _ _ (hHeld) (fun hHeld => ?_)
        clear hKq Kq
        (try simp only [Act.put, List.setIfInBounds_toArray, List.set_cons_zero, List.set_cons_succ])
        refine PX.wpAnyY_done (by kernel_rfl) ?_ _
        refine NoPanic.normal ?_
        replace BL := Lib.hid (BL.out.here H5.out)
        replace BN := Lib.hid (BN.out.here H5.out)
        have HU := Lib.hid (hgn.out.trans (H5.out.mono hgn.out.size))
        clear ltL ltN
        have BF : Hid (Bx ((((u5.setCell ⟨w.heap.size, 0, none⟩ (.int .u32 0)).setCell ⟨w.heap.size, 1, none⟩ (.int .u32 0)).setCell ⟨w.heap.size, 2, none⟩ (.int .u32 0)).setCell ⟨w.heap.size, 3, none⟩ (.int .i64 0)) w.heap.size [.int .u32 0, .int .u32 0, .int .u32 0, .int .i64 0]) := ((((BL.out.set 0 (.int .u32 0)).set 1 (.int .u32 0)).set 2 (.int .u32 0)).set 3 (.int .i64 0))
        have HF : Hid (Below w.heap.size w ((((u5.setCell ⟨w.heap.size, 0, none⟩ (.int .u32 0)).setCell ⟨w.heap.size, 1, none⟩ (.int .u32 0)).setCell ⟨w.heap.size, 2, none⟩ (.int .u32 0)).setCell ⟨w.heap.size, 3, none⟩ (.int .i64 0))) := ((((HU.out.setCell (Nat.le_refl _) (.int .u32 0)).setCell (Nat.le_refl _) (.int .u32 0)).setCell (Nat.le_refl _) (.int .u32 0)).setCell (Nat.le_refl _) (.int .i64 0))
        clear hHeld
        obtain ⟨z0, z1, z2, z3⟩ := BN.out.four'
        obtain ⟨r0, r1, r2, r3⟩ := BL.out.four'
        obtain ⟨s0, s1, s2, s3⟩ := BL.out.froz4
        have ltL := BL.out.lt
        have ltN := BN.out.lt
        go_wp2_with fail
        clear z0 z1 z2 z3 r0 r1 r2 r3 s0 s1 s2 s3
        obtain ⟨q0, q1, q2, q3⟩ := BF.out.four'
        exact bodyPost_ret (v := .tuple #[supV Sup.zero, .int .i64 90]) (by simp [results, Try.results15, go_sem, q0, q1, q2, q3]; rfl) rfl ⟨rfl, HF.out⟩

theorem refSRead_any (a : Option Addr) (len cap : Nat) (l : List Nat) (w : World) (hr : Rd w.heap.size w a len cap l) :
    Calls Try.prog 15 #[.slice a len cap] w fun e w' => e = .returned (.tuple #[supV (SB.rd l).1, .int .i64 (((SB.rd l).2 : Nat) : Int)]) ∧ Below w.heap.size w w' := by
  by_cases h : l.length = 0 ∨ l.length = 128
  · exact refSRead_block a len cap l w hr h
  · exact refSRead_text a len cap l w hr (by omega) (by omega)
end Go.Proofs.Ytjdcnajppjamgaa.PW
