/-
  Layer 4's DiskReads, walked.
-/
import Derived.Test.YtnhfkfihlkbkfaaDiskSteps
namespace Go.Proofs.Ytnhfkfihlkbkfaa.PW
open Go.RowKit
open DK (Dv)
set_option linter.unusedVariables false
set_option linter.unusedSimpArgs false
set_option maxRecDepth 100000

/-- What holds at the head of the loop. -/
def StepRel (w : World) (g len : Nat) (e i : Value) (wr : World) : Prop :=
  ∃ (k : Nat) (a : Option Addr) (n c : Nat) (a' : Option Addr) (n' c' : Nat) (D : Dv) (N S : List Nat), e = .int .i64 0 ∧ i = .int .i64 k ∧ k ≤ len ∧ St w g wr a n c a' n' c' D N S ∧ Goes D N S k

set_option maxHeartbeats 1000000 in
theorem dreads_walk (a : Option Addr) (len cap : Nat) (L : List (Nat × Nat × Nat)) (dies : Bool) (w : World) (hr : OpsAt w.heap.size w a len L) :
    Calls Try.prog 9 #[.slice a len cap, .bool dies] w fun e w' => e = .returned (.bool true) ∧ Below w.heap.size w w' := by
  have hb0 : Below w.heap.size w w := Below.refl _ _
  have AL := Lib.hid alive_any
  have Hr := Lib.hid hr
  clear hr
  by_cases hl : 100 < len
  · have hl1 : (100 : Int) < (len : Int) := by omega
    clear hl
    go_enter Try.func9, Try.ntmps9
    go_wp2_with fail
    refine (AL.out _).mono ?_
    rintro e w1 ⟨rfl, b1⟩
    go_wp2_with fail
    go_ret
    exact ⟨rfl, b1⟩
  · have hl1 : ¬ (100 : Int) < (len : Int) := by omega
    have Hl := Lib.hid hl
    clear hl hb0
    have CN : Hid (∀ w1, Calls Try.prog 35 #[.int .i64 4] w1 (NewDev w1 (DK.fresh 4) 0)) := fun w1 => by
      have := new_any 4 w1
      rw [show newDev 4 = DK.fresh 4 from rfl, show newCode 4 = 0 from rfl] at this; exact this
    have e4 : (DK.fresh 4).dead = false := rfl
    have G0 := Lib.hid goes_new
    generalize DK.fresh 4 = D0 at *
    go_enter Try.func9, Try.ntmps9
    go_wp2_with fail
    refine (AL.out _).mono ?_
    rintro e w1 ⟨rfl, b1⟩
    have HB1 := Lib.hid b1
    clear b1
    go_wp2_with fail
    refine (CN.out _).mono ?_
    intro e w2 hn
    obtain ⟨a1, n1, c1, a1', n1', c1', rfl, od, -, b2⟩ := hn.open
    rw [e4] at od ⊢
    have OD := Lib.hid od
    have HB2 := Lib.hid (thence HB1.out b2 (Nat.le_refl _))
    clear hn b2 e4 od
    go_wp2_with fail
    go_loopw [7, 10] (fun e i wr => StepRel w w2.heap.size len e i wr) (fun _ i _ => len - (intOf i).toNat)
    case atStart =>
      have bx0 := ((Bx.new w2 [.slice a1 n1 c1, .slice a1' n1' c1', .bool false] 37).alloc (.cells #[.int .u8 0, .int .u8 0, .int .u8 0, .int .u8 0] 70)).alloc (.cells #[.int .u8 0, .int .u8 0, .int .u8 0, .int .u8 0] 70)
      have bx1 := (Bx.new (w2.alloc (.cells #[.slice a1 n1 c1, .slice a1' n1' c1', .bool false] 37)) ([0, 0, 0, 0].map bv) 70).alloc (.cells #[.int .u8 0, .int .u8 0, .int .u8 0, .int .u8 0] 70)
      have bx2 := Bx.new ((w2.alloc (.cells #[.slice a1 n1 c1, .slice a1' n1' c1', .bool false] 37)).alloc (.cells #[.int .u8 0, .int .u8 0, .int .u8 0, .int .u8 0] 70)) ([0, 0, 0, 0].map bv) 70
      have al : Below w2.heap.size w2 (((w2.alloc (.cells #[.slice a1 n1 c1, .slice a1' n1' c1', .bool false] 37)).alloc (.cells #[.int .u8 0, .int .u8 0, .int .u8 0, .int .u8 0] 70)).alloc (.cells #[.int .u8 0, .int .u8 0, .int .u8 0, .int .u8 0] 70)) := (((Below.refl _ _).alloc (Nat.le_refl _) _).alloc (by simp) _).alloc (by simp; omega) _
      simp at bx1 bx2
      exact ⟨0, a1, n1, c1, a1', n1', c1', D0, [0, 0, 0, 0], [0, 0, 0, 0], rfl, rfl, Nat.zero_le _, ⟨HB2.out.size, thence HB2.out al (Nat.le_refl _), bx0, bx1, bx2, Held.of OD.out al (.inr (Nat.le_refl _))⟩, G0.out⟩
    case round =>
      obtain ⟨k, a2, n2, c2, a2', n2', c2', D, N, S, rfl, rfl, hk, hst, hg⟩ := hrel
      have ST := Lib.hid hst
      have WB := Lib.hid hst.bel
      have BX0 := Lib.hid hst.dev
      have BX1 := Lib.hid hst.now
      have BX2 := Lib.hid hst.sur
      have HH := Lib.hid hst.hel
      have HG := Lib.hid hg
      have HK := Lib.hid hk
      clear hst hg hk
      by_cases hlt : k < len
      · obtain ⟨b, off, ea, hB, hc⟩ := Hr.out.cells (show 0 < len by omega)
        subst ea
        obtain ⟨x, y, z, -, hx, hy, hz, c1, c2, c3⟩ := hc k hlt
        have C1 : Hid (∀ w1, Below w.heap.size w w1 → w1.cell? ⟨b, off + k * 3, none⟩ = some (.int .u8 (x : Int)) ∧ w1.cell? ⟨b, off + k * 3 + 1, none⟩ = some (.int .u8 (y : Int)) ∧ w1.cell? ⟨b, off + k * 3 + 2, none⟩ = some (.int .u8 (z : Int))) := fun w1 hb =>
          ⟨by rw [hb.cell (p := ⟨b, off + k * 3, none⟩) hB]; exact c1, by rw [hb.cell (p := ⟨b, off + k * 3 + 1, none⟩) hB]; exact c2, by rw [hb.cell (p := ⟨b, off + k * 3 + 2, none⟩) hB]; exact c3⟩
        clear hc c1 c2 c3 hB
        obtain ⟨m, hm4, hm⟩ : ∃ m : Nat, (y : Int) % 4 = (m : Int) ∧ m < 4 := ⟨y % 4, by omega, by omega⟩
        have hlt1 : (k : Int) < (len : Int) := by omega
        have hk100 : k < 1024 := by have := Hl.out; omega
        have hlen : (len : Int) ≤ 100 := by have := Hl.out; omega
        have hlenb : (k : Int) < 100 := by omega
        obtain ⟨q1, q2, q3⟩ := C1.out _ WB.out
        have hkind : (x : Int) % 3 = 0 ∨ (x : Int) % 3 = 1 ∨ (x : Int) % 3 = 2 := by omega
        have CF : Hid (∀ w1, Calls Try.prog 37 #[.int .u8 (z : Int)] w1 fun e w' => ∃ g, e = .returned (.slice (some ⟨g, 0, none⟩) 128 128) ∧ w1.heap.size ≤ g ∧ Rd w'.heap.size w' (some ⟨g, 0, none⟩) 128 128 (cst z) ∧ Below w1.heap.size w1 w') := fun w1 => full_rd z hz w1
        have LV : Hid (D.dead = false) := HG.out.live
        have hm0 : 0 ≤ (y : Int) % 4 := by omega
        have hm1 : (y : Int) % 4 < 4 := by omega
        have HM4 := Lib.hid hm4
        have CW : Hid (∀ w1 d l p, DevAt w1.heap.size w1 a2 n2 c2 a2' n2' c2' D → Rd w1.heap.size w1 d l p (cst z) → Calls Try.prog 36 #[.agg #[.slice a2 n2 c2, .slice a2' n2' c2', .bool false], .int .i64 ((y : Int) % 4), .slice d l p] w1 (NewDev w1 (DK.put D (m : Int) (cst z)) 0)) := fun w1 d l p hd hq => by
          have := write_any a2 n2 c2 a2' n2' c2' D (m : Int) d l p (cst z) w1 hd (fit_may HG.out.may) hq (by simp [cst])
          rw [LV.out, HG.out.wcode' hk100 hm, show writeDev D (m : Int) (cst z) = DK.put D (m : Int) (cst z) by simp [writeDev, HG.out.wcode' hk100 hm]] at this
          rw [HM4.out]; exact this
        have CU : Hid (∀ w1 d l p, DevAt w1.heap.size w1 a2 n2 c2 a2' n2' c2' D → Rd w1.heap.size w1 d l p (cst z) → Calls Try.prog 38 #[.agg #[.slice a2 n2 c2, .slice a2' n2' c2', .bool false], .int .i64 ((y : Int) % 4), .slice d l p] w1 (NewDev w1 (DK.sure D (m : Int) (cst z)) 0)) := fun w1 d l p hd hq => by
          have := fua_any a2 n2 c2 a2' n2' c2' D (m : Int) d l p (cst z) w1 hd (fit_may HG.out.may) hq (by simp [cst])
          rw [LV.out, HG.out.wcode hm, show fuaDev D (m : Int) (cst z) = DK.sure D (m : Int) (cst z) by simp [fuaDev, HG.out.wcode hm]] at this
          rw [HM4.out]; exact this
        have CB : Hid (Calls Try.prog 39 #[.agg #[.slice a2 n2 c2, .slice a2' n2' c2', .bool false]] wr (NewDev wr (DK.flushed D) 0)) := by
          have := flush_any a2 n2 c2 a2' n2' c2' D wr HH.out.dev (fit_may HG.out.may)
          rw [LV.out, HG.out.fcode, show flushDev D = DK.flushed D by simp [flushDev, HG.out.fcode]] at this
          exact this
        clear hm4
        rcases hkind with hq | hq | hq
        · go_wp2_with fail
          refine wp_region_noPanic ?_
          refine PX.wp_region_y (fun w' => Below wr.heap.size wr w') [10, 11, 12, 13] (by kernel_rfl) (Below.refl _ _).drew (fun hHeld => ?_)
          refine PX.wpAnyY_take (i := 0) (oi := ?_) (v := ?_) ?_ (by kernel_rfl) (by kernel_rfl) (by kernel_rfl) (by kernel_rfl) (by kernel_rfl) (fun _ _ _ h => h) (Or.inl ⟨?_, ?_⟩) (by assumption) ?_
          rotate_left 2
          · simp only [List.getElem?_toArray, List.getElem?_cons_succ, List.getElem?_cons_zero]; rfl
          · rfl
          · intro w hSw; (try dsimp only at hSw); obtain ⟨p0, p1, p2⟩ := (BX0.out.here hSw).three; go_simp <;> with_reducible rfl
          (try simp only [Act.put, List.setIfInBounds_toArray, List.set_cons_zero, List.set_cons_succ])
          refine PX.wpAnyY_take (i := 1) (oi := ?_) (v := ?_) ?_ (by kernel_rfl) (by kernel_rfl) (by kernel_rfl) (by kernel_rfl) (by kernel_rfl) (fun _ _ _ h => h) (Or.inl ⟨?_, ?_⟩) (by assumption) ?_
          rotate_left 2
          · simp only [List.getElem?_toArray, List.getElem?_cons_succ, List.getElem?_cons_zero]; rfl
          · rfl
          · intro w hSw; (try dsimp only at hSw); go_simp <;> with_reducible rfl
          (try simp only [Act.put, List.setIfInBounds_toArray, List.set_cons_zero, List.set_cons_succ])
          refine PX.wpAnyY_take (i := 2) (oi := ?_) (v := ?_) ?_ (by kernel_rfl) (by kernel_rfl) (by kernel_rfl) (by kernel_rfl) (by kernel_rfl) (fun _ _ _ h => h) (Or.inl ⟨?_, ?_⟩) (by assumption) ?_
          rotate_left 2
          · simp only [List.getElem?_toArray, List.getElem?_cons_succ, List.getElem?_cons_zero]; rfl
          · rfl
          · intro w hSw; (try dsimp only at hSw); go_simp <;> with_reducible rfl
          (try simp only [Act.put, List.setIfInBounds_toArray, List.set_cons_zero, List.set_cons_succ])
          refine PX.wpAnyY_take (i := 3) (oi := ?_) (v := ?_) ?_ (by kernel_rfl) (by kernel_rfl) (by kernel_rfl) (by kernel_rfl) (by kernel_rfl) (fun _ _ _ h => h) (Or.inl ⟨?_, ?_⟩) (by assumption) ?_
          rotate_left 2
          · simp only [List.getElem?_toArray, List.getElem?_cons_succ, List.getElem?_cons_zero]; rfl
          · rfl
          · intro w hSw; (try dsimp only at hSw); go_simp <;> with_reducible rfl
          (try simp only [Act.put, List.setIfInBounds_toArray, List.set_cons_zero, List.set_cons_succ])
          refine PX.wpAnyY_take (i := 4) (oi := ?_) (v := ?_) ?_ (by kernel_rfl) (by kernel_rfl) (by kernel_rfl) (by kernel_rfl) (by kernel_rfl) (fun _ _ _ h => h) (Or.inl ⟨?_, ?_⟩) (by assumption) ?_
          rotate_left 2
          · simp only [List.getElem?_toArray, List.getElem?_cons_succ, List.getElem?_cons_zero]; rfl
          · rfl
          · intro w hSw; (try dsimp only at hSw); go_simp <;> with_reducible rfl
          (try simp only [Act.put, List.setIfInBounds_toArray, List.set_cons_zero, List.set_cons_succ])
          refine PX.wpAnyY_take (i := 5) (oi := ?_) (v := ?_) ?_ (by kernel_rfl) (by kernel_rfl) (by kernel_rfl) (by kernel_rfl) (by kernel_rfl) (fun _ _ _ h => h) (Or.inl ⟨?_, ?_⟩) (by assumption) ?_
          rotate_left 2
          · simp only [List.getElem?_toArray, List.getElem?_cons_succ, List.getElem?_cons_zero]; rfl
          · rfl
          · intro w hSw; (try dsimp only at hSw); go_simp <;> with_reducible rfl
          (try simp only [Act.put, List.setIfInBounds_toArray, List.set_cons_zero, List.set_cons_succ])
          refine PX.wpAnyY_take (i := 6) (oi := ?_) (v := ?_) ?_ (by kernel_rfl) (by kernel_rfl) (by kernel_rfl) (by kernel_rfl) (by kernel_rfl) (fun _ _ _ h => h) (Or.inl ⟨?_, ?_⟩) (by assumption) ?_
          rotate_left 2
          · simp only [List.getElem?_toArray, List.getElem?_cons_succ, List.getElem?_cons_zero]; rfl
          · rfl
          · intro w hSw; (try dsimp only at hSw); have pn := (C1.out _ (thence WB.out hSw (Nat.le_refl _))).2.2; go_simp <;> with_reducible rfl
          (try simp only [Act.put, List.setIfInBounds_toArray, List.set_cons_zero, List.set_cons_succ])
          refine PX.wpAnyY_one (i := 7) (o := ?_) (by kernel_rfl) ?_ (fun Kq hKq => ?_)
          rotate_left
          · simp only [List.getElem?_toArray, List.getElem?_cons_succ, List.getElem?_cons_zero]; rfl
          go_simp
          refine (CF.out _).mono ?_
          rintro e w5 ⟨g5, rfl, -, r5, b5⟩
          have B5 : Hid (Below wr.heap.size wr w5) := thence hHeld b5 (Nat.le_refl _)
          have R5 := Lib.hid r5
          clear b5 r5
          go_wp2_with fail
          refine hKq.out _ _ (B5.out) (fun hHeld => ?_)
          clear hKq Kq
          (try simp only [Act.put, List.setIfInBounds_toArray, List.set_cons_zero, List.set_cons_succ])
          refine PX.wpAnyY_one (i := 8) (o := ?_) (by kernel_rfl) ?_ (fun Kq hKq => ?_)
          rotate_left
          · simp only [List.getElem?_toArray, List.getElem?_cons_succ, List.getElem?_cons_zero]; rfl
          go_simp
          refine (CW.out _ _ _ _ (HH.out.dev.here B5.out) R5.out).mono ?_
          intro e w6 hn
          obtain ⟨a6, n6, c6, a6', n6', c6', rfl, od, -, b6⟩ := hn.open
          rw [show (DK.put D (m : Int) (cst z)).dead = false from LV.out] at od ⊢
          have OD6 := Lib.hid (od.mono B5.out.size)
          have B6 : Hid (Below wr.heap.size wr w6) := thence B5.out b6 (Nat.le_refl _)
          clear b6 od hn
          go_wp2_with fail
          refine hKq.out _ _ (B6.out) (fun hHeld => ?_)
          clear hKq Kq
          (try simp only [Act.put, List.setIfInBounds_toArray, List.set_cons_zero, List.set_cons_succ])
          refine PX.wpAnyY_take (i := 9) (oi := ?_) (v := ?_) ?_ (by kernel_rfl) (by kernel_rfl) (by kernel_rfl) (by kernel_rfl) (by kernel_rfl) (fun _ _ _ h => h) (Or.inl ⟨?_, ?_⟩) (by assumption) ?_
          rotate_left 2
          · simp only [List.getElem?_toArray, List.getElem?_cons_succ, List.getElem?_cons_zero]; rfl
          · rfl
          · intro w hSw; (try dsimp only at hSw); go_simp <;> with_reducible rfl
          (try simp only [Act.put, List.setIfInBounds_toArray, List.set_cons_zero, List.set_cons_succ])
          refine PX.wpAnyY_pure (i := 10) (oi := ?_) (v := ?_) ?_ (by kernel_rfl) (by kernel_rfl) (by kernel_rfl) (by kernel_rfl) (fun _ _ _ h => h) (Or.inl ⟨?_, ?_⟩) ?_
          rotate_left 2
          · simp only [List.getElem?_toArray, List.getElem?_cons_succ, List.getElem?_cons_zero]; rfl
          · rfl
          · intro w hSw; clear hSw; go_simp <;> with_reducible rfl
          (try simp only [Act.put, List.setIfInBounds_toArray, List.set_cons_zero, List.set_cons_succ])
          refine PX.wpAnyY_pure (i := 11) (oi := ?_) (v := ?_) ?_ (by kernel_rfl) (by kernel_rfl) (by kernel_rfl) (by kernel_rfl) (fun _ _ _ h => h) (Or.inl ⟨?_, ?_⟩) ?_
          rotate_left 2
          · simp only [List.getElem?_toArray, List.getElem?_cons_succ, List.getElem?_cons_zero]; rfl
          · rfl
          · intro w hSw; clear hSw; go_simp <;> with_reducible rfl
          (try simp only [Act.put, List.setIfInBounds_toArray, List.set_cons_zero, List.set_cons_succ])
          refine PX.wpAnyY_free (i := 12) (o := ?_) (by kernel_rfl) (by kernel_rfl) ?_ (fun Kq hKq => ?_)
          rotate_left
          · simp only [List.getElem?_toArray, List.getElem?_cons_succ, List.getElem?_cons_zero]; rfl
          obtain ⟨p0, p1, p2⟩ := (BX0.out.here B6.out).three
          have f0 := (BX0.out.here B6.out).frozen 0
          have f1 := (BX0.out.here B6.out).frozen 1
          have f2 := (BX0.out.here B6.out).frozen 2
          go_simp
          refine hKq.out _ _ ?_
          clear hKq Kq
          (try simp only [Act.put, List.setIfInBounds_toArray, List.set_cons_zero, List.set_cons_succ])
          refine PX.wpAnyY_free (i := 13) (o := ?_) (by kernel_rfl) (by kernel_rfl) ?_ (fun Kq hKq => ?_)
          rotate_left
          · simp only [List.getElem?_toArray, List.getElem?_cons_succ, List.getElem?_cons_zero]; rfl
          go_simp
          refine hKq.out _ _ ?_
          clear hKq Kq
          (try simp only [Act.put, List.setIfInBounds_toArray, List.set_cons_zero, List.set_cons_succ])
          refine PX.wpAnyY_done (by kernel_rfl) ?_ _
          refine NoPanic.normal ?_
          have st7 := ST.out.turn B6.out OD6.out
          obtain ⟨q1, q2, q3⟩ := C1.out _ st7.bel
          have ST7 := Lib.hid st7
          clear st7 p0 p1 p2 f0 f1 f2
          generalize (((w6.setCell ⟨w2.heap.size, 0, none⟩ (Value.slice a6 n6 c6)).setCell ⟨w2.heap.size, 1, none⟩ (Value.slice a6' n6' c6')).setCell ⟨w2.heap.size, 2, none⟩ (Value.bool false)) = W7 at *
          have hmn : ((y : Int) % 4).toNat = m := by rw [HM4.out]; simp
          have g1 : W7.cell? ⟨w2.heap.size + 1, m, none⟩ = some (.int .u8 ((N.getD m 0 : Nat) : Int)) := by rw [ST7.out.now.cell m]; simp [bv, List.getD, HG.out.nl, hm]
          have f1 := ST7.out.now.frozen m
          go_wp2_with fail
          go_roundw
          case rel => exact ⟨k + 1, a6, n6, c6, a6', n6', c6', DK.put D (m : Int) (cst z), N.set m z, S, rfl, by go_num, by omega, ST7.out.noted m z, HG.out.put hk100 hm hz⟩
          case measure => simp [intOf]; omega
        · go_wp2_with fail
          refine wp_region_noPanic ?_
          refine PX.wp_region_y (fun w' => Below wr.heap.size wr w') [10, 11, 12, 13] (by kernel_rfl) (Below.refl _ _).drew (fun hHeld => ?_)
          refine PX.wpAnyY_take (i := 0) (oi := ?_) (v := ?_) ?_ (by kernel_rfl) (by kernel_rfl) (by kernel_rfl) (by kernel_rfl) (by kernel_rfl) (fun _ _ _ h => h) (Or.inl ⟨?_, ?_⟩) (by assumption) ?_
          rotate_left 2
          · simp only [List.getElem?_toArray, List.getElem?_cons_succ, List.getElem?_cons_zero]; rfl
          · rfl
          · intro w hSw; (try dsimp only at hSw); obtain ⟨p0, p1, p2⟩ := (BX0.out.here hSw).three; go_simp <;> with_reducible rfl
          (try simp only [Act.put, List.setIfInBounds_toArray, List.set_cons_zero, List.set_cons_succ])
          refine PX.wpAnyY_take (i := 1) (oi := ?_) (v := ?_) ?_ (by kernel_rfl) (by kernel_rfl) (by kernel_rfl) (by kernel_rfl) (by kernel_rfl) (fun _ _ _ h => h) (Or.inl ⟨?_, ?_⟩) (by assumption) ?_
          rotate_left 2
          · simp only [List.getElem?_toArray, List.getElem?_cons_succ, List.getElem?_cons_zero]; rfl
          · rfl
          · intro w hSw; (try dsimp only at hSw); go_simp <;> with_reducible rfl
          (try simp only [Act.put, List.setIfInBounds_toArray, List.set_cons_zero, List.set_cons_succ])
          refine PX.wpAnyY_take (i := 2) (oi := ?_) (v := ?_) ?_ (by kernel_rfl) (by kernel_rfl) (by kernel_rfl) (by kernel_rfl) (by kernel_rfl) (fun _ _ _ h => h) (Or.inl ⟨?_, ?_⟩) (by assumption) ?_
          rotate_left 2
          · simp only [List.getElem?_toArray, List.getElem?_cons_succ, List.getElem?_cons_zero]; rfl
          · rfl
          · intro w hSw; (try dsimp only at hSw); go_simp <;> with_reducible rfl
          (try simp only [Act.put, List.setIfInBounds_toArray, List.set_cons_zero, List.set_cons_succ])
          refine PX.wpAnyY_take (i := 3) (oi := ?_) (v := ?_) ?_ (by kernel_rfl) (by kernel_rfl) (by kernel_rfl) (by kernel_rfl) (by kernel_rfl) (fun _ _ _ h => h) (Or.inl ⟨?_, ?_⟩) (by assumption) ?_
          rotate_left 2
          · simp only [List.getElem?_toArray, List.getElem?_cons_succ, List.getElem?_cons_zero]; rfl
          · rfl
          · intro w hSw; (try dsimp only at hSw); go_simp <;> with_reducible rfl
          (try simp only [Act.put, List.setIfInBounds_toArray, List.set_cons_zero, List.set_cons_succ])
          refine PX.wpAnyY_take (i := 4) (oi := ?_) (v := ?_) ?_ (by kernel_rfl) (by kernel_rfl) (by kernel_rfl) (by kernel_rfl) (by kernel_rfl) (fun _ _ _ h => h) (Or.inl ⟨?_, ?_⟩) (by assumption) ?_
          rotate_left 2
          · simp only [List.getElem?_toArray, List.getElem?_cons_succ, List.getElem?_cons_zero]; rfl
          · rfl
          · intro w hSw; (try dsimp only at hSw); go_simp <;> with_reducible rfl
          (try simp only [Act.put, List.setIfInBounds_toArray, List.set_cons_zero, List.set_cons_succ])
          refine PX.wpAnyY_take (i := 5) (oi := ?_) (v := ?_) ?_ (by kernel_rfl) (by kernel_rfl) (by kernel_rfl) (by kernel_rfl) (by kernel_rfl) (fun _ _ _ h => h) (Or.inl ⟨?_, ?_⟩) (by assumption) ?_
          rotate_left 2
          · simp only [List.getElem?_toArray, List.getElem?_cons_succ, List.getElem?_cons_zero]; rfl
          · rfl
          · intro w hSw; (try dsimp only at hSw); go_simp <;> with_reducible rfl
          (try simp only [Act.put, List.setIfInBounds_toArray, List.set_cons_zero, List.set_cons_succ])
          refine PX.wpAnyY_take (i := 6) (oi := ?_) (v := ?_) ?_ (by kernel_rfl) (by kernel_rfl) (by kernel_rfl) (by kernel_rfl) (by kernel_rfl) (fun _ _ _ h => h) (Or.inl ⟨?_, ?_⟩) (by assumption) ?_
          rotate_left 2
          · simp only [List.getElem?_toArray, List.getElem?_cons_succ, List.getElem?_cons_zero]; rfl
          · rfl
          · intro w hSw; (try dsimp only at hSw); have pn := (C1.out _ (thence WB.out hSw (Nat.le_refl _))).2.2; go_simp <;> with_reducible rfl
          (try simp only [Act.put, List.setIfInBounds_toArray, List.set_cons_zero, List.set_cons_succ])
          refine PX.wpAnyY_one (i := 7) (o := ?_) (by kernel_rfl) ?_ (fun Kq hKq => ?_)
          rotate_left
          · simp only [List.getElem?_toArray, List.getElem?_cons_succ, List.getElem?_cons_zero]; rfl
          go_simp
          refine (CF.out _).mono ?_
          rintro e w5 ⟨g5, rfl, -, r5, b5⟩
          have B5 : Hid (Below wr.heap.size wr w5) := thence hHeld b5 (Nat.le_refl _)
          have R5 := Lib.hid r5
          clear b5 r5
          go_wp2_with fail
          refine hKq.out _ _ (B5.out) (fun hHeld => ?_)
          clear hKq Kq
          (try simp only [Act.put, List.setIfInBounds_toArray, List.set_cons_zero, List.set_cons_succ])
          refine PX.wpAnyY_one (i := 8) (o := ?_) (by kernel_rfl) ?_ (fun Kq hKq => ?_)
          rotate_left
          · simp only [List.getElem?_toArray, List.getElem?_cons_succ, List.getElem?_cons_zero]; rfl
          go_simp
          refine (CU.out _ _ _ _ (HH.out.dev.here B5.out) R5.out).mono ?_
          intro e w6 hn
          obtain ⟨a6, n6, c6, a6', n6', c6', rfl, od, -, b6⟩ := hn.open
          rw [show (DK.sure D (m : Int) (cst z)).dead = false from LV.out] at od ⊢
          have OD6 := Lib.hid (od.mono B5.out.size)
          have B6 : Hid (Below wr.heap.size wr w6) := thence B5.out b6 (Nat.le_refl _)
          clear b6 od hn
          go_wp2_with fail
          refine hKq.out _ _ (B6.out) (fun hHeld => ?_)
          clear hKq Kq
          (try simp only [Act.put, List.setIfInBounds_toArray, List.set_cons_zero, List.set_cons_succ])
          refine PX.wpAnyY_take (i := 9) (oi := ?_) (v := ?_) ?_ (by kernel_rfl) (by kernel_rfl) (by kernel_rfl) (by kernel_rfl) (by kernel_rfl) (fun _ _ _ h => h) (Or.inl ⟨?_, ?_⟩) (by assumption) ?_
          rotate_left 2
          · simp only [List.getElem?_toArray, List.getElem?_cons_succ, List.getElem?_cons_zero]; rfl
          · rfl
          · intro w hSw; (try dsimp only at hSw); go_simp <;> with_reducible rfl
          (try simp only [Act.put, List.setIfInBounds_toArray, List.set_cons_zero, List.set_cons_succ])
          refine PX.wpAnyY_pure (i := 10) (oi := ?_) (v := ?_) ?_ (by kernel_rfl) (by kernel_rfl) (by kernel_rfl) (by kernel_rfl) (fun _ _ _ h => h) (Or.inl ⟨?_, ?_⟩) ?_
          rotate_left 2
          · simp only [List.getElem?_toArray, List.getElem?_cons_succ, List.getElem?_cons_zero]; rfl
          · rfl
          · intro w hSw; clear hSw; go_simp <;> with_reducible rfl
          (try simp only [Act.put, List.setIfInBounds_toArray, List.set_cons_zero, List.set_cons_succ])
          refine PX.wpAnyY_pure (i := 11) (oi := ?_) (v := ?_) ?_ (by kernel_rfl) (by kernel_rfl) (by kernel_rfl) (by kernel_rfl) (fun _ _ _ h => h) (Or.inl ⟨?_, ?_⟩) ?_
          rotate_left 2
          · simp only [List.getElem?_toArray, List.getElem?_cons_succ, List.getElem?_cons_zero]; rfl
          · rfl
          · intro w hSw; clear hSw; go_simp <;> with_reducible rfl
          (try simp only [Act.put, List.setIfInBounds_toArray, List.set_cons_zero, List.set_cons_succ])
          refine PX.wpAnyY_free (i := 12) (o := ?_) (by kernel_rfl) (by kernel_rfl) ?_ (fun Kq hKq => ?_)
          rotate_left
          · simp only [List.getElem?_toArray, List.getElem?_cons_succ, List.getElem?_cons_zero]; rfl
          obtain ⟨p0, p1, p2⟩ := (BX0.out.here B6.out).three
          have f0 := (BX0.out.here B6.out).frozen 0
          have f1 := (BX0.out.here B6.out).frozen 1
          have f2 := (BX0.out.here B6.out).frozen 2
          go_simp
          refine hKq.out _ _ ?_
          clear hKq Kq
          (try simp only [Act.put, List.setIfInBounds_toArray, List.set_cons_zero, List.set_cons_succ])
          refine PX.wpAnyY_free (i := 13) (o := ?_) (by kernel_rfl) (by kernel_rfl) ?_ (fun Kq hKq => ?_)
          rotate_left
          · simp only [List.getElem?_toArray, List.getElem?_cons_succ, List.getElem?_cons_zero]; rfl
          go_simp
          refine hKq.out _ _ ?_
          clear hKq Kq
          (try simp only [Act.put, List.setIfInBounds_toArray, List.set_cons_zero, List.set_cons_succ])
          refine PX.wpAnyY_done (by kernel_rfl) ?_ _
          refine NoPanic.normal ?_
          have st7 := ST.out.turn B6.out OD6.out
          obtain ⟨q1, q2, q3⟩ := C1.out _ st7.bel
          have ST7 := Lib.hid st7
          clear st7 p0 p1 p2 f0 f1 f2
          generalize (((w6.setCell ⟨w2.heap.size, 0, none⟩ (Value.slice a6 n6 c6)).setCell ⟨w2.heap.size, 1, none⟩ (Value.slice a6' n6' c6')).setCell ⟨w2.heap.size, 2, none⟩ (Value.bool false)) = W7 at *
          have hmn : ((y : Int) % 4).toNat = m := by rw [HM4.out]; simp
          have g1 : W7.cell? ⟨w2.heap.size + 1, m, none⟩ = some (.int .u8 ((N.getD m 0 : Nat) : Int)) := by rw [ST7.out.now.cell m]; simp [bv, List.getD, HG.out.nl, hm]
          have f1 := ST7.out.now.frozen m
          have g2 : W7.cell? ⟨w2.heap.size + 1 + 1, m, none⟩ = some (.int .u8 ((S.getD m 0 : Nat) : Int)) := by rw [ST7.out.sur.cell m]; simp [bv, List.getD, HG.out.sl, hm]
          have f2 := ST7.out.sur.frozen m
          have c5 := (C1.out _ (ST7.out.noted m z).bel).2.2
          go_wp2_with fail
          go_roundw
          case rel => exact ⟨k + 1, a6, n6, c6, a6', n6', c6', DK.sure D (m : Int) (cst z), N.set m z, S.set m z, rfl, by go_num, by omega, (ST7.out.noted m z).lasted m z, HG.out.sure hm hz⟩
          case measure => simp [intOf]; omega
        · obtain ⟨p0, p1, p2⟩ := BX0.out.three
          go_wp2_with fail
          refine CB.out.mono ?_
          intro e w6 hn
          obtain ⟨a6, n6, c6, a6', n6', c6', rfl, od, -, b6⟩ := hn.open
          rw [show (DK.flushed D).dead = false from LV.out] at od ⊢
          have st6 := ST.out.here b6
          have st7 := ST.out.turn b6 od
          obtain ⟨u0, u1, u2, u3, hN⟩ : ∃ u0 u1 u2 u3, N = [u0, u1, u2, u3] := by
            have := HG.out.nl
            match N, this with
            | [u0, u1, u2, u3], _ => exact ⟨u0, u1, u2, u3, rfl⟩
          subst hN
          obtain ⟨v0, v1, v2, v3, hS⟩ : ∃ v0 v1 v2 v3, S = [v0, v1, v2, v3] := by
            have := HG.out.sl
            match S, this with
            | [u0, u1, u2, u3], _ => exact ⟨u0, u1, u2, u3, rfl⟩
          subst hS
          obtain ⟨p0, p1, p2⟩ := st6.dev.three
          have f0 := st6.dev.frozen 0
          have f1 := st6.dev.frozen 1
          have f2 := st6.dev.frozen 2
          have x0 : (((w6.setCell ⟨w2.heap.size, 0, none⟩ (.slice a6 n6 c6)).setCell ⟨w2.heap.size, 1, none⟩ (.slice a6' n6' c6')).setCell ⟨w2.heap.size, 2, none⟩ (.bool false)).cell? ⟨w2.heap.size + 1, 0, none⟩ = some (.int .u8 (u0 : Int)) := st7.now.cell 0
          have x1 : (((w6.setCell ⟨w2.heap.size, 0, none⟩ (.slice a6 n6 c6)).setCell ⟨w2.heap.size, 1, none⟩ (.slice a6' n6' c6')).setCell ⟨w2.heap.size, 2, none⟩ (.bool false)).cell? ⟨w2.heap.size + 1, 1, none⟩ = some (.int .u8 (u1 : Int)) := st7.now.cell 1
          have x2 : (((w6.setCell ⟨w2.heap.size, 0, none⟩ (.slice a6 n6 c6)).setCell ⟨w2.heap.size, 1, none⟩ (.slice a6' n6' c6')).setCell ⟨w2.heap.size, 2, none⟩ (.bool false)).cell? ⟨w2.heap.size + 1, 2, none⟩ = some (.int .u8 (u2 : Int)) := st7.now.cell 2
          have x3 : (((w6.setCell ⟨w2.heap.size, 0, none⟩ (.slice a6 n6 c6)).setCell ⟨w2.heap.size, 1, none⟩ (.slice a6' n6' c6')).setCell ⟨w2.heap.size, 2, none⟩ (.bool false)).cell? ⟨w2.heap.size + 1, 3, none⟩ = some (.int .u8 (u3 : Int)) := st7.now.cell 3
          have y0 : (((w6.setCell ⟨w2.heap.size, 0, none⟩ (.slice a6 n6 c6)).setCell ⟨w2.heap.size, 1, none⟩ (.slice a6' n6' c6')).setCell ⟨w2.heap.size, 2, none⟩ (.bool false)).cell? ⟨w2.heap.size + 1 + 1, 0, none⟩ = some (.int .u8 (v0 : Int)) := st7.sur.cell 0
          have y1 : (((w6.setCell ⟨w2.heap.size, 0, none⟩ (.slice a6 n6 c6)).setCell ⟨w2.heap.size, 1, none⟩ (.slice a6' n6' c6')).setCell ⟨w2.heap.size, 2, none⟩ (.bool false)).cell? ⟨w2.heap.size + 1 + 1, 1, none⟩ = some (.int .u8 (v1 : Int)) := st7.sur.cell 1
          have y2 : (((w6.setCell ⟨w2.heap.size, 0, none⟩ (.slice a6 n6 c6)).setCell ⟨w2.heap.size, 1, none⟩ (.slice a6' n6' c6')).setCell ⟨w2.heap.size, 2, none⟩ (.bool false)).cell? ⟨w2.heap.size + 1 + 1, 2, none⟩ = some (.int .u8 (v2 : Int)) := st7.sur.cell 2
          have y3 : (((w6.setCell ⟨w2.heap.size, 0, none⟩ (.slice a6 n6 c6)).setCell ⟨w2.heap.size, 1, none⟩ (.slice a6' n6' c6')).setCell ⟨w2.heap.size, 2, none⟩ (.bool false)).cell? ⟨w2.heap.size + 1 + 1, 3, none⟩ = some (.int .u8 (v3 : Int)) := st7.sur.cell 3
          have z0 := st7.sur.frozen 0
          have z1 := st7.sur.frozen 1
          have z2 := st7.sur.frozen 2
          have z3 := st7.sur.frozen 3
          have ST7 := Lib.hid st7
          clear st6 st7 hn od b6
          go_wp2_with fail
          go_roundw
          case rel => exact ⟨k + 1, a6, n6, c6, a6', n6', c6', DK.flushed D, [u0, u1, u2, u3], [u0, u1, u2, u3], rfl, by go_num, by omega, ST7.out.copied HG.out.sl, HG.out.flush⟩
          case measure => simp [intOf]; omega
      · have hlt1 : ¬ (k : Int) < (len : Int) := by omega
        obtain ⟨wa, rfl⟩ : ∃ wo : World, wo = wr := ⟨_, rfl⟩
        obtain ⟨p0, p1, p2⟩ := BX0.out.three
        have CC : Hid (Calls Try.prog 40 #[.agg #[.slice a2 n2 c2, .slice a2' n2' c2', .bool false]] wa fun e w' => e = .returned (.int .i64 0) ∧ Below wa.heap.size wa w') := by
          have := check_any a2 n2 c2 a2' n2' c2' D wa HH.out.dev
          rw [kcode_may HG.out.may, HG.out.live] at this
          exact this
        have LV : Hid (D.dead = false) := HG.out.live
        go_wp2_with fail
        refine CC.out.mono ?_
        rintro e w3 ⟨rfl, b3⟩
        have B3 := Lib.hid b3
        clear b3 p0 p1 p2
        go_wp2_with fail
        go_loopw [12] (fun at_ wr2 => ∃ o : Nat, at_ = .int .i64 o ∧ o ≤ 4 ∧ Below wa.heap.size wa wr2) (fun at_ _ => 4 - (intOf at_).toNat)
        case atStart => exact ⟨0, rfl, by omega, B3.out⟩
        case round =>
          obtain ⟨o, rfl, ho, hb2⟩ := hrel
          have HB2' := Lib.hid hb2
          clear hb2
          by_cases ho4 : o < 4
          · have CR : Hid (∀ w1, Below wa.heap.size wa w1 → Calls Try.prog 41 #[.agg #[.slice a2 n2 c2, .slice a2' n2' c2', .bool false], .int .i64 (o : Int), .int .u8 ((N.getD o 0 : Nat) : Int)] w1 fun e w' => e = .returned (.bool true) ∧ Below w1.heap.size w1 w') := fun w1 hb => by
              have := reads_any a2 n2 c2 a2' n2' c2' D (o : Int) (N.getD o 0) (HG.out.lt ho4).1 w1 (HH.out.dev.here hb)
              rw [HG.out.reads ho4, LV.out] at this; exact this
            have CL : Hid (∀ w1, Below wa.heap.size wa w1 → Calls Try.prog 42 #[.agg #[.slice a2 n2 c2, .slice a2' n2' c2', .bool false], .int .i64 (o : Int), .int .u8 ((S.getD o 0 : Nat) : Int)] w1 fun e w' => e = .returned (.bool true) ∧ Below w1.heap.size w1 w') := fun w1 hb => by
              have := lasts_any a2 n2 c2 a2' n2' c2' D (o : Int) (S.getD o 0) (HG.out.lt ho4).2 w1 (HH.out.dev.here hb)
              rw [HG.out.lasts ho4, LV.out] at this; exact this
            have CELLN : Hid (∀ w1, Below wa.heap.size wa w1 → w1.cell? ⟨w2.heap.size + 1, o, none⟩ = some (.int .u8 ((N.getD o 0 : Nat) : Int))) := fun w1 hb => by
              rw [(BX1.out.here hb).cell o]; simp [bv, List.getD, HG.out.nl, ho4]
            have CELLS : Hid (∀ w1, Below wa.heap.size wa w1 → w1.cell? ⟨w2.heap.size + 1 + 1, o, none⟩ = some (.int .u8 ((S.getD o 0 : Nat) : Int))) := fun w1 hb => by
              rw [(BX2.out.here hb).cell o]; simp [bv, List.getD, HG.out.sl, ho4]
            have ho1 : (o : Int) < 4 := by omega
            generalize N.getD o 0 = xn at *
            generalize S.getD o 0 = xs at *
            go_wp2_with fail
            refine wp_region_noPanic ?_
            refine PX.wp_region_y (fun w' => Below wa.heap.size wa w') [] (by kernel_rfl) HB2'.out.drew (fun hHeld => ?_)
            refine PX.wpAnyY_take (i := 0) (oi := ?_) (v := ?_) ?_ (by kernel_rfl) (by kernel_rfl) (by kernel_rfl) (by kernel_rfl) (by kernel_rfl) (fun _ _ _ h => h) (Or.inl ⟨?_, ?_⟩) (by assumption) ?_
            rotate_left 2
            · simp only [List.getElem?_toArray, List.getElem?_cons_succ, List.getElem?_cons_zero]; rfl
            · rfl
            · intro w hSw; (try dsimp only at hSw); obtain ⟨p0, p1, p2⟩ := (BX0.out.here hSw).three; go_simp <;> with_reducible rfl
            (try simp only [Act.put, List.setIfInBounds_toArray, List.set_cons_zero, List.set_cons_succ])
            refine PX.wpAnyY_take (i := 1) (oi := ?_) (v := ?_) ?_ (by kernel_rfl) (by kernel_rfl) (by kernel_rfl) (by kernel_rfl) (by kernel_rfl) (fun _ _ _ h => h) (Or.inl ⟨?_, ?_⟩) (by assumption) ?_
            rotate_left 2
            · simp only [List.getElem?_toArray, List.getElem?_cons_succ, List.getElem?_cons_zero]; rfl
            · rfl
            · intro w hSw; (try dsimp only at hSw); go_simp <;> with_reducible rfl
            (try simp only [Act.put, List.setIfInBounds_toArray, List.set_cons_zero, List.set_cons_succ])
            refine PX.wpAnyY_take (i := 2) (oi := ?_) (v := ?_) ?_ (by kernel_rfl) (by kernel_rfl) (by kernel_rfl) (by kernel_rfl) (by kernel_rfl) (fun _ _ _ h => h) (Or.inl ⟨?_, ?_⟩) (by assumption) ?_
            rotate_left 2
            · simp only [List.getElem?_toArray, List.getElem?_cons_succ, List.getElem?_cons_zero]; rfl
            · rfl
            · intro w hSw; (try dsimp only at hSw); go_simp <;> with_reducible rfl
            (try simp only [Act.put, List.setIfInBounds_toArray, List.set_cons_zero, List.set_cons_succ])
            refine PX.wpAnyY_take (i := 3) (oi := ?_) (v := ?_) ?_ (by kernel_rfl) (by kernel_rfl) (by kernel_rfl) (by kernel_rfl) (by kernel_rfl) (fun _ _ _ h => h) (Or.inl ⟨?_, ?_⟩) (by assumption) ?_
            rotate_left 2
            · simp only [List.getElem?_toArray, List.getElem?_cons_succ, List.getElem?_cons_zero]; rfl
            · rfl
            · intro w hSw; (try dsimp only at hSw); go_simp <;> with_reducible rfl
            (try simp only [Act.put, List.setIfInBounds_toArray, List.set_cons_zero, List.set_cons_succ])
            refine PX.wpAnyY_take (i := 4) (oi := ?_) (v := ?_) ?_ (by kernel_rfl) (by kernel_rfl) (by kernel_rfl) (by kernel_rfl) (by kernel_rfl) (fun _ _ _ h => h) (Or.inl ⟨?_, ?_⟩) (by assumption) ?_
            rotate_left 2
            · simp only [List.getElem?_toArray, List.getElem?_cons_succ, List.getElem?_cons_zero]; rfl
            · rfl
            · intro w hSw; (try dsimp only at hSw); have pn := CELLN.out _ hSw; go_simp <;> with_reducible rfl
            (try simp only [Act.put, List.setIfInBounds_toArray, List.set_cons_zero, List.set_cons_succ])
            refine PX.wpAnyY_one (i := 5) (o := ?_) (by kernel_rfl) ?_ (fun Kq hKq => ?_)
            rotate_left
            · simp only [List.getElem?_toArray, List.getElem?_cons_succ, List.getElem?_cons_zero]; rfl
            go_simp
            refine (CR.out _ hHeld).mono ?_
            rintro e w5 ⟨rfl, b5⟩
            have B5 : Hid (Below wa.heap.size wa w5) := thence hHeld b5 (Nat.le_refl _)
            clear b5
            go_wp2_with fail
            refine hKq.out _ _ (B5.out) (fun hHeld => ?_)
            clear hKq Kq
            (try simp only [Act.put, List.setIfInBounds_toArray, List.set_cons_zero, List.set_cons_succ])
            refine PX.wpAnyY_take (i := 6) (oi := ?_) (v := ?_) ?_ (by kernel_rfl) (by kernel_rfl) (by kernel_rfl) (by kernel_rfl) (by kernel_rfl) (fun _ _ _ h => h) (Or.inl ⟨?_, ?_⟩) (by assumption) ?_
            rotate_left 2
            · simp only [List.getElem?_toArray, List.getElem?_cons_succ, List.getElem?_cons_zero]; rfl
            · rfl
            · intro w hSw; (try dsimp only at hSw); go_simp <;> with_reducible rfl
            (try simp only [Act.put, List.setIfInBounds_toArray, List.set_cons_zero, List.set_cons_succ])
            refine PX.wpAnyY_take (i := 7) (oi := ?_) (v := ?_) ?_ (by kernel_rfl) (by kernel_rfl) (by kernel_rfl) (by kernel_rfl) (by kernel_rfl) (fun _ _ _ h => h) (Or.inl ⟨?_, ?_⟩) (by assumption) ?_
            rotate_left 2
            · simp only [List.getElem?_toArray, List.getElem?_cons_succ, List.getElem?_cons_zero]; rfl
            · rfl
            · intro w hSw; (try dsimp only at hSw); go_simp <;> with_reducible rfl
            (try simp only [Act.put, List.setIfInBounds_toArray, List.set_cons_zero, List.set_cons_succ])
            refine PX.wpAnyY_take (i := 8) (oi := ?_) (v := ?_) ?_ (by kernel_rfl) (by kernel_rfl) (by kernel_rfl) (by kernel_rfl) (by kernel_rfl) (fun _ _ _ h => h) (Or.inl ⟨?_, ?_⟩) (by assumption) ?_
            rotate_left 2
            · simp only [List.getElem?_toArray, List.getElem?_cons_succ, List.getElem?_cons_zero]; rfl
            · rfl
            · intro w hSw; (try dsimp only at hSw); obtain ⟨p0, p1, p2⟩ := (BX0.out.here hSw).three; go_simp <;> with_reducible rfl
            (try simp only [Act.put, List.setIfInBounds_toArray, List.set_cons_zero, List.set_cons_succ])
            refine PX.wpAnyY_take (i := 9) (oi := ?_) (v := ?_) ?_ (by kernel_rfl) (by kernel_rfl) (by kernel_rfl) (by kernel_rfl) (by kernel_rfl) (fun _ _ _ h => h) (Or.inl ⟨?_, ?_⟩) (by assumption) ?_
            rotate_left 2
            · simp only [List.getElem?_toArray, List.getElem?_cons_succ, List.getElem?_cons_zero]; rfl
            · rfl
            · intro w hSw; (try dsimp only at hSw); go_simp <;> with_reducible rfl
            (try simp only [Act.put, List.setIfInBounds_toArray, List.set_cons_zero, List.set_cons_succ])
            refine PX.wpAnyY_take (i := 10) (oi := ?_) (v := ?_) ?_ (by kernel_rfl) (by kernel_rfl) (by kernel_rfl) (by kernel_rfl) (by kernel_rfl) (fun _ _ _ h => h) (Or.inl ⟨?_, ?_⟩) (by assumption) ?_
            rotate_left 2
            · simp only [List.getElem?_toArray, List.getElem?_cons_succ, List.getElem?_cons_zero]; rfl
            · rfl
            · intro w hSw; (try dsimp only at hSw); go_simp <;> with_reducible rfl
            (try simp only [Act.put, List.setIfInBounds_toArray, List.set_cons_zero, List.set_cons_succ])
            refine PX.wpAnyY_take (i := 11) (oi := ?_) (v := ?_) ?_ (by kernel_rfl) (by kernel_rfl) (by kernel_rfl) (by kernel_rfl) (by kernel_rfl) (fun _ _ _ h => h) (Or.inl ⟨?_, ?_⟩) (by assumption) ?_
            rotate_left 2
            · simp only [List.getElem?_toArray, List.getElem?_cons_succ, List.getElem?_cons_zero]; rfl
            · rfl
            · intro w hSw; (try dsimp only at hSw); go_simp <;> with_reducible rfl
            (try simp only [Act.put, List.setIfInBounds_toArray, List.set_cons_zero, List.set_cons_succ])
            refine PX.wpAnyY_take (i := 12) (oi := ?_) (v := ?_) ?_ (by kernel_rfl) (by kernel_rfl) (by kernel_rfl) (by kernel_rfl) (by kernel_rfl) (fun _ _ _ h => h) (Or.inl ⟨?_, ?_⟩) (by assumption) ?_
            rotate_left 2
            · simp only [List.getElem?_toArray, List.getElem?_cons_succ, List.getElem?_cons_zero]; rfl
            · rfl
            · intro w hSw; (try dsimp only at hSw); have ps := CELLS.out _ hSw; go_simp <;> with_reducible rfl
            (try simp only [Act.put, List.setIfInBounds_toArray, List.set_cons_zero, List.set_cons_succ])
            refine PX.wpAnyY_one (i := 13) (o := ?_) (by kernel_rfl) ?_ (fun Kq hKq => ?_)
            rotate_left
            · simp only [List.getElem?_toArray, List.getElem?_cons_succ, List.getElem?_cons_zero]; rfl
            go_simp
            refine (CL.out _ hHeld).mono ?_
            rintro e w6 ⟨rfl, b6⟩
            have B6 : Hid (Below wa.heap.size wa w6) := thence hHeld b6 (Nat.le_refl _)
            clear b6
            go_wp2_with fail
            refine hKq.out _ _ (B6.out) (fun hHeld => ?_)
            clear hKq Kq
            (try simp only [Act.put, List.setIfInBounds_toArray, List.set_cons_zero, List.set_cons_succ])
            refine PX.wpAnyY_take (i := 14) (oi := ?_) (v := ?_) ?_ (by kernel_rfl) (by kernel_rfl) (by kernel_rfl) (by kernel_rfl) (by kernel_rfl) (fun _ _ _ h => h) (Or.inl ⟨?_, ?_⟩) (by assumption) ?_
            rotate_left 2
            · simp only [List.getElem?_toArray, List.getElem?_cons_succ, List.getElem?_cons_zero]; rfl
            · rfl
            · intro w hSw; (try dsimp only at hSw); go_simp <;> with_reducible rfl
            (try simp only [Act.put, List.setIfInBounds_toArray, List.set_cons_zero, List.set_cons_succ])
            refine PX.wpAnyY_take (i := 15) (oi := ?_) (v := ?_) ?_ (by kernel_rfl) (by kernel_rfl) (by kernel_rfl) (by kernel_rfl) (by kernel_rfl) (fun _ _ _ h => h) (Or.inl ⟨?_, ?_⟩) (by assumption) ?_
            rotate_left 2
            · simp only [List.getElem?_toArray, List.getElem?_cons_succ, List.getElem?_cons_zero]; rfl
            · rfl
            · intro w hSw; (try dsimp only at hSw); go_simp <;> with_reducible rfl
            (try simp only [Act.put, List.setIfInBounds_toArray, List.set_cons_zero, List.set_cons_succ])
            refine PX.wpAnyY_done (by kernel_rfl) ?_ _
            refine NoPanic.normal ?_
            go_wp2_with fail
            go_roundw
            case rel => exact ⟨o + 1, by go_num, by omega, B6.out⟩
            case measure => simp [intOf]; omega
          · obtain rfl : o = 4 := by omega
            obtain ⟨p0, p1, p2⟩ := (BX0.out.here HB2'.out).three
            cases dies with
            | false =>
              go_wp2_with fail
              go_ret
              exact ⟨rfl, thence WB.out HB2'.out (Nat.le_refl _)⟩
            | true =>
              have CG := gone_any a2 n2 c2 a2' n2' c2' D wr (HH.out.dev.here HB2'.out) HG.out.may
              rw [LV.out] at CG
              have CG := Lib.hid CG
              go_wp2_with fail
              refine CG.out.mono ?_
              rintro e w6 ⟨rfl, b6⟩
              go_wp2_with fail
              go_ret
              exact ⟨rfl, thence (thence WB.out HB2'.out (Nat.le_refl _)) b6 (Nat.le_refl _)⟩
end Go.Proofs.Ytnhfkfihlkbkfaa.PW
