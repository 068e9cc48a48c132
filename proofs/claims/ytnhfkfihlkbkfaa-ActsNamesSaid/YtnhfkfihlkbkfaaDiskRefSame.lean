/-
  Contracts of layer 4: whether two devices are the same, the document's own.
-/
import Derived.Test.YtnhfkfihlkbkfaaDiskRefRead
import Derived.Test.YtnhfkfihlkbkfaaDiskSame
import Derived.Test.YtnhfkfihlkbkfaaHoist
import Derived.Deep.QuietTactic
import Derived.BigQuiet
namespace Go.Proofs.Ytnhfkfihlkbkfaa.PW
open Go.RowKit
open DK (Dv)
set_option linter.unusedVariables false
set_option maxRecDepth 100000
set_option linter.unusedSimpArgs false

theorem str_ne {l m : List Nat} (hl : Bytes l) (hm : Bytes m) (h : l ≠ m) : ((str l).toList == (str m).toList) = false := by
  rw [beq_eq_false_iff_ne]
  intro h2
  apply h
  refine str_inj hl hm ?_
  rw [ByteArray.toList_eq, ByteArray.toList_eq] at h2
  have : (str l).data = (str m).data := Array.toList_inj.1 h2
  cases hx : str l; cases hy : str m; simp_all

set_option maxRecDepth 100000 in
set_option maxHeartbeats 4000000 in
theorem refSame_any (a : Option Addr) (n c : Nat) (a' : Option Addr) (n' c' : Nat) (D : Dv) (b : Option Addr) (m d : Nat) (b' : Option Addr) (m' d' : Nat) (E : Dv) (w : World) (hr : DevAt w.heap.size w a n c a' n' c' D) (hq : DevAt w.heap.size w b m d b' m' d' E) (hf : Fit D) (hg : Fit E) :
    Calls Try.prog 30 #[.agg #[.slice a n c, .slice a' n' c', .bool D.dead], .agg #[.slice b m d, .slice b' m' d', .bool E.dead]] w fun e w' => e = .returned (.bool (DK.same D E)) ∧ Below w.heap.size w w' := by
  have hb1 : Below w.heap.size w (w.alloc (.cells #[.slice a n c, .slice a' n' c', .bool D.dead] 37)) := (Below.refl _ _).alloc (Nat.le_refl _) _
  have hb2 : Below w.heap.size w ((w.alloc (.cells #[.slice a n c, .slice a' n' c', .bool D.dead] 37)).alloc (.cells #[.slice b m d, .slice b' m' d', .bool E.dead] 37)) := hb1.alloc hb1.size _
  have hx1 := (Bx.new w [.slice a n c, .slice a' n' c', .bool D.dead] 37).alloc (.cells #[.slice b m d, .slice b' m' d', .bool E.dead] 37)
  have hx2 := Bx.new (w.alloc (.cells #[.slice a n c, .slice a' n' c', .bool D.dead] 37)) [.slice b m d, .slice b' m' d', .bool E.dead] 37
  simp only [World.size_alloc] at hx2
  have HS : Hid (DK.same D E = true ↔ D.dead = E.dead ∧ D.bs.map DK.fl = E.bs.map DK.fl ∧ D.ws.map DK.fw = E.ws.map DK.fw) := by
    show _ ↔ _
    rw [DK.same_iff, DK.norm_eq]
  have hs1 := hr.small.1
  have hs2 := hr.small.2
  have hs3 := hq.small.1
  have hs4 := hq.small.2
  unfold maxLen at hs1 hs2 hs3 hs4
  have CF : Hid (∀ a n c l w, Rd w.heap.size w a n c l → l.length ≤ 100000 → Calls Try.prog 59 #[.slice a n c] w (NewSl w (DK.fl l))) := fun a n c l w h1 h2 => refFull_new a n c l w h1 h2
  have HB := Lib.hid hb2
  have HX1 := Lib.hid hx1
  have HX2 := Lib.hid hx2
  have Hr := Lib.hid hr
  have Hq := Lib.hid hq
  have HF := Lib.hid hf
  have HG := Lib.hid hg
  have no : Hid (DK.same D E ≠ true → DK.same D E = false) := fun h => by simpa using h
  clear hb1 hb2 hx1 hx2 hr hq hf hg
  by_cases hn : n = m
  case neg =>
    have HN : Hid (DK.same D E = false) := no.out (fun h => hn (by
      have h2 := congrArg List.length (HS.out.1 h).2.1
      simp only [List.length_map] at h2
      rw [Hr.out.long.1, Hq.out.long.1]; exact h2))
    rw [HN.out]
    have e0 : ((n : Int) == (m : Int)) = false := by rw [beq_eq_false_iff_ne]; omega
    have e1 : ((n : Int) != (m : Int)) = true := by rw [bne, e0]; rfl
    have e2 : ¬ (n : Int) = (m : Int) := by omega
    clear HS HN no hn CF
    generalize D.dead = dd at *
    generalize E.dead = ee at *
    go_enter Try.func30, Try.ntmps30
    go_wp2_with fail
    go_ret
    exact ⟨rfl, HB.out⟩
  by_cases hn' : n' = m'
  case neg =>
    have HN : Hid (DK.same D E = false) := no.out (fun h => hn' (by
      have h2 := congrArg List.length (HS.out.1 h).2.2
      simp only [List.length_map] at h2
      rw [Hr.out.long.2, Hq.out.long.2]; exact h2))
    rw [HN.out]
    have e0 : ((n' : Int) == (m' : Int)) = false := by rw [beq_eq_false_iff_ne]; omega
    have e1 : ((n' : Int) != (m' : Int)) = true := by rw [bne, e0]; rfl
    have e2 : ¬ (n' : Int) = (m' : Int) := by omega
    clear HS HN no hn' CF
    subst hn
    generalize D.dead = dd at *
    generalize E.dead = ee at *
    go_enter Try.func30, Try.ntmps30
    go_wp2_with fail
    go_ret
    exact ⟨rfl, HB.out⟩
  by_cases hd : D.dead = E.dead
  case neg =>
    have HN : Hid (DK.same D E = false) := no.out (fun h => hd (HS.out.1 h).1)
    rw [HN.out]
    have e0 : (D.dead == E.dead) = false := by rw [beq_eq_false_iff_ne]; exact hd
    clear HS HN no hd CF
    subst hn hn'
    generalize D.dead = dd at *
    generalize E.dead = ee at *
    go_enter Try.func30, Try.ntmps30
    go_wp2_with fail
    go_ret
    exact ⟨rfl, HB.out⟩
  subst hn hn'
  have HD := Lib.hid hd
  obtain ⟨dd, hdd⟩ : ∃ dd, dd = D.dead := ⟨_, rfl⟩
  rw [← hd, ← hdd]
  rw [← hd, ← hdd] at HX1 HX2 HB
  clear hd hdd
  go_enter Try.func30, Try.ntmps30
  go_wp2_with fail
  generalize (w.alloc (.cells #[.slice a n c, .slice a' n' c', .bool dd] 37)).alloc (.cells #[.slice b n d, .slice b' n' d', .bool dd] 37) = w1 at *
  go_loopw [5] (fun i wr => ∃ k : Nat, k ≤ n ∧ i = .int .i64 k ∧ Hid (∀ j, j < k → DK.fl (D.bs.getD j []) = DK.fl (E.bs.getD j [])) ∧ Hid (Below w1.heap.size w1 wr)) (fun i _ => n - (intOf i).toNat)
  case atStart => exact ⟨0, by omega, rfl, (fun j hj => absurd hj (Nat.not_lt_zero _) : ∀ j, j < 0 → _), Below.refl _ _⟩
  case round =>
    obtain ⟨k, hk, rfl, HGd, KB⟩ := hrel
    have hxA := HX1.out.here KB.out
    have hxB := HX2.out.here KB.out
    obtain ⟨A0, A1, A2⟩ := hxA.three
    obtain ⟨C0, C1, C2⟩ := hxB.three
    have gA := hxA.lt
    have gB := hxB.lt
    have HXA := Lib.hid hxA
    have HXB := Lib.hid hxB
    have KW : Hid (Below w.heap.size w wr) := thence HB.out KB.out (Nat.le_refl _)
    clear hxA hxB
    by_cases hlt : k < n
    · obtain ⟨b1, off1, xa, xlen, xcap, xl, rfl, hb1, hx, c1, rx⟩ := (Hr.out.below KW.out).at k hlt
      obtain ⟨b2, off2, ya, ylen, ycap, yl, rfl, hb2, hy, c2, ry⟩ := (Hq.out.below KW.out).at k hlt
      have lx : xl.length ≤ 100000 := by rw [← hx]; exact HF.out.2.2.1 _ (mem_getD (by rw [← Hr.out.long.1]; exact hlt))
      have ly : yl.length ≤ 100000 := by rw [← hy]; exact HG.out.2.2.1 _ (mem_getD (by rw [← Hq.out.long.1]; exact hlt))
      have bx : Bytes (DK.fl xl) := DK.fl_bytes rx.byt
      have byy : Bytes (DK.fl yl) := DK.fl_bytes ry.byt
      have rx' : Rd wr.drew.heap.size wr.drew xa xlen xcap xl := (rx.drewN 1).mono KW.out.size
      have ry' : Rd wr.drew.heap.size wr.drew ya ylen ycap yl := (ry.drewN 1).mono KW.out.size
      have CL1 := Lib.hid (CF.out xa xlen xcap xl wr.drew rx' lx)
      have CL2 : Hid (∀ w5, Below wr.drew.heap.size wr.drew w5 → Calls Try.prog 59 #[.slice ya ylen ycap] w5 (NewSl w5 (DK.fl yl))) := fun w5 h5 => CF.out ya ylen ycap yl w5 (ry'.here h5) ly
      have hq1 : b1 < wr.heap.size := Nat.lt_of_lt_of_le hb1 KW.out.size
      have hq2 : b2 < wr.heap.size := Nat.lt_of_lt_of_le hb2 KW.out.size
      have EX := Lib.hid hx
      have EY := Lib.hid hy
      have Hk := Lib.hid hlt
      have i0 : (0 : Int) ≤ (k : Int) := Int.natCast_nonneg _
      have i1 : (k : Int) < (n : Int) := by omega
      have KC1 : Hid (∀ w5, Below wr.drew.heap.size wr.drew w5 → w5.cell? ⟨b1, off1 + k, none⟩ = some (.slice xa xlen xcap)) := fun w5 h5 => (h5.cell (p := ⟨b1, off1 + k, none⟩) hq1).trans c1
      have KC2 : Hid (∀ w5, Below wr.drew.heap.size wr.drew w5 → w5.cell? ⟨b2, off2 + k, none⟩ = some (.slice ya ylen ycap)) := fun w5 h5 => (h5.cell (p := ⟨b2, off2 + k, none⟩) hq2).trans c2
      clear rx ry rx' ry' hx hy lx ly
      by_cases he : DK.fl xl = DK.fl yl
      · rw [← he] at CL2
        have HE := Lib.hid he
        clear he byy
        generalize hsx : DK.fl xl = fx at *
        have HSX := Lib.hid hsx
        clear hsx
        go_wp2_with fail
        refine wp_region_noPanic ?_
        refine PX.wp_region_x (fun w' => w'.cell? ⟨w.heap.size, 0, none⟩ = some (.slice (some ⟨b1, off1, none⟩) n c) ∧ w'.cell? ⟨w.heap.size + 1, 0, none⟩ = some (.slice (some ⟨b2, off2, none⟩) n d) ∧ w'.cell? ⟨b1, off1 + k, none⟩ = some (.slice xa xlen xcap) ∧ w'.cell? ⟨b2, off2 + k, none⟩ = some (.slice ya ylen ycap)) 14 (by kernel_rfl) ⟨A0, C0, c1, c2⟩ (fun hHeld => ?_)
        refine PX.wpAnyX_take (i := 0) (oi := ?_) (v := ?_) ?_ (by kernel_rfl) (by kernel_rfl) (by kernel_rfl) (by kernel_rfl) (by kernel_rfl) (fun _ _ _ h => h) (Or.inl ⟨?_, ?_⟩) (by assumption) ?_
        rotate_left 2
        · simp only [List.getElem?_toArray, List.getElem?_cons_succ, List.getElem?_cons_zero]; rfl
        · rfl
        · intro w hSw; (try dsimp only at hSw); go_simp <;> with_reducible rfl
        (try simp only [Act.put, List.setIfInBounds_toArray, List.set_cons_zero, List.set_cons_succ])
        refine PX.wpAnyX_take (i := 1) (oi := ?_) (v := ?_) ?_ (by kernel_rfl) (by kernel_rfl) (by kernel_rfl) (by kernel_rfl) (by kernel_rfl) (fun _ _ _ h => h) (Or.inl ⟨?_, ?_⟩) (by assumption) ?_
        rotate_left 2
        · simp only [List.getElem?_toArray, List.getElem?_cons_succ, List.getElem?_cons_zero]; rfl
        · rfl
        · intro w hSw; (try dsimp only at hSw); go_simp <;> with_reducible rfl
        (try simp only [Act.put, List.setIfInBounds_toArray, List.set_cons_zero, List.set_cons_succ])
        refine PX.wpAnyX_take (i := 2) (oi := ?_) (v := ?_) ?_ (by kernel_rfl) (by kernel_rfl) (by kernel_rfl) (by kernel_rfl) (by kernel_rfl) (fun _ _ _ h => h) (Or.inl ⟨?_, ?_⟩) (by assumption) ?_
        rotate_left 2
        · simp only [List.getElem?_toArray, List.getElem?_cons_succ, List.getElem?_cons_zero]; rfl
        · rfl
        · intro w hSw; (try dsimp only at hSw); go_simp <;> with_reducible rfl
        (try simp only [Act.put, List.setIfInBounds_toArray, List.set_cons_zero, List.set_cons_succ])
        refine PX.wpAnyX_take (i := 3) (oi := ?_) (v := ?_) ?_ (by kernel_rfl) (by kernel_rfl) (by kernel_rfl) (by kernel_rfl) (by kernel_rfl) (fun _ _ _ h => h) (Or.inl ⟨?_, ?_⟩) (by assumption) ?_
        rotate_left 2
        · simp only [List.getElem?_toArray, List.getElem?_cons_succ, List.getElem?_cons_zero]; rfl
        · rfl
        · intro w hSw; (try dsimp only at hSw); go_simp <;> with_reducible rfl
        (try simp only [Act.put, List.setIfInBounds_toArray, List.set_cons_zero, List.set_cons_succ])
        refine PX.wpAnyX_take (i := 4) (oi := ?_) (v := ?_) ?_ (by kernel_rfl) (by kernel_rfl) (by kernel_rfl) (by kernel_rfl) (by kernel_rfl) (fun _ _ _ h => h) (Or.inl ⟨?_, ?_⟩) (by assumption) ?_
        rotate_left 2
        · simp only [List.getElem?_toArray, List.getElem?_cons_succ, List.getElem?_cons_zero]; rfl
        · rfl
        · intro w hSw; (try dsimp only at hSw); go_simp <;> with_reducible rfl
        (try simp only [Act.put, List.setIfInBounds_toArray, List.set_cons_zero, List.set_cons_succ])
        refine PX.wpAnyX_take (i := 7) (oi := ?_) (v := ?_) ?_ (by kernel_rfl) (by kernel_rfl) (by kernel_rfl) (by kernel_rfl) (by kernel_rfl) (fun _ _ _ h => h) (Or.inl ⟨?_, ?_⟩) (by assumption) ?_
        rotate_left 2
        · simp only [List.getElem?_toArray, List.getElem?_cons_succ, List.getElem?_cons_zero]; rfl
        · rfl
        · intro w hSw; (try dsimp only at hSw); go_simp <;> with_reducible rfl
        (try simp only [Act.put, List.setIfInBounds_toArray, List.set_cons_zero, List.set_cons_succ])
        refine PX.wpAnyX_take (i := 8) (oi := ?_) (v := ?_) ?_ (by kernel_rfl) (by kernel_rfl) (by kernel_rfl) (by kernel_rfl) (by kernel_rfl) (fun _ _ _ h => h) (Or.inl ⟨?_, ?_⟩) (by assumption) ?_
        rotate_left 2
        · simp only [List.getElem?_toArray, List.getElem?_cons_succ, List.getElem?_cons_zero]; rfl
        · rfl
        · intro w hSw; (try dsimp only at hSw); go_simp <;> with_reducible rfl
        (try simp only [Act.put, List.setIfInBounds_toArray, List.set_cons_zero, List.set_cons_succ])
        refine PX.wpAnyX_take (i := 9) (oi := ?_) (v := ?_) ?_ (by kernel_rfl) (by kernel_rfl) (by kernel_rfl) (by kernel_rfl) (by kernel_rfl) (fun _ _ _ h => h) (Or.inl ⟨?_, ?_⟩) (by assumption) ?_
        rotate_left 2
        · simp only [List.getElem?_toArray, List.getElem?_cons_succ, List.getElem?_cons_zero]; rfl
        · rfl
        · intro w hSw; (try dsimp only at hSw); go_simp <;> with_reducible rfl
        (try simp only [Act.put, List.setIfInBounds_toArray, List.set_cons_zero, List.set_cons_succ])
        refine PX.wpAnyX_take (i := 10) (oi := ?_) (v := ?_) ?_ (by kernel_rfl) (by kernel_rfl) (by kernel_rfl) (by kernel_rfl) (by kernel_rfl) (fun _ _ _ h => h) (Or.inl ⟨?_, ?_⟩) (by assumption) ?_
        rotate_left 2
        · simp only [List.getElem?_toArray, List.getElem?_cons_succ, List.getElem?_cons_zero]; rfl
        · rfl
        · intro w hSw; (try dsimp only at hSw); go_simp <;> with_reducible rfl
        (try simp only [Act.put, List.setIfInBounds_toArray, List.set_cons_zero, List.set_cons_succ])
        refine PX.wpAnyX_take (i := 11) (oi := ?_) (v := ?_) ?_ (by kernel_rfl) (by kernel_rfl) (by kernel_rfl) (by kernel_rfl) (by kernel_rfl) (fun _ _ _ h => h) (Or.inl ⟨?_, ?_⟩) (by assumption) ?_
        rotate_left 2
        · simp only [List.getElem?_toArray, List.getElem?_cons_succ, List.getElem?_cons_zero]; rfl
        · rfl
        · intro w hSw; (try dsimp only at hSw); go_simp <;> with_reducible rfl
        (try simp only [Act.put, List.setIfInBounds_toArray, List.set_cons_zero, List.set_cons_succ])
        refine PX.wpAnyX_one (i := 5) (o := ?_) (by kernel_rfl) ?_ (fun Kq hKq => ?_)
        rotate_left
        · simp only [List.getElem?_toArray, List.getElem?_cons_succ, List.getElem?_cons_zero]; rfl
        go_simp
        refine CL1.out.mono ?_
        rintro e w5 ⟨p1, q1, r1, rfl, it1, b5⟩
        have T5 := text_is w5 _ _ _ _ it1.rd
        have B5 := Lib.hid b5
        have I1 := Lib.hid it1
        have HS5 : Hid (w5.cell? ⟨w.heap.size, 0, none⟩ = some (.slice (some ⟨b1, off1, none⟩) n c) ∧ w5.cell? ⟨w.heap.size + 1, 0, none⟩ = some (.slice (some ⟨b2, off2, none⟩) n d) ∧ w5.cell? ⟨b1, off1 + k, none⟩ = some (.slice xa xlen xcap) ∧ w5.cell? ⟨b2, off2 + k, none⟩ = some (.slice ya ylen ycap)) := ⟨(HXA.out.drew.here B5.out).three.1, (HXB.out.drew.here B5.out).three.1, KC1.out _ B5.out, KC2.out _ B5.out⟩
        clear b5 it1
        go_wp2_with fail
        refine hKq.out _ _ (HS5.out) (fun hHeld => ?_)
        clear hKq Kq
        (try simp only [Act.put, List.setIfInBounds_toArray, List.set_cons_zero, List.set_cons_succ])
        refine PX.wpAnyX_two (i := 6) (j := 12) (o := ?_) (o' := ?_) (by kernel_rfl) ?_ ?_ (fun Kq hKq => ?_) (fun Kq hKq => ?_)
        rotate_left 2
        · simp only [List.getElem?_toArray, List.getElem?_cons_succ, List.getElem?_cons_zero]; rfl
        · simp only [List.getElem?_toArray, List.getElem?_cons_succ, List.getElem?_cons_zero]; rfl
        · go_simp
          refine hKq.out _ _ (HS5.out) (fun hHeld => ?_)
          clear hKq Kq
          (try simp only [Act.put, List.setIfInBounds_toArray, List.set_cons_zero, List.set_cons_succ])
          refine PX.wpAnyX_one (i := 12) (o := ?_) (by kernel_rfl) ?_ (fun Kq hKq => ?_)
          rotate_left
          · simp only [List.getElem?_toArray, List.getElem?_cons_succ, List.getElem?_cons_zero]; rfl
          go_simp
          refine (CL2.out _ (by exact B5.out)).mono ?_
          rintro e w7 ⟨p2, q2, r2, rfl, it2, b7⟩
          have T7 := text_is w7 _ _ _ _ (I1.out.here b7).rd
          have T8 := text_is w7 _ _ _ _ it2.rd
          have B7 := Lib.hid (thence B5.out b7 (Nat.le_refl _))
          have HS7 : Hid (w7.cell? ⟨w.heap.size, 0, none⟩ = some (.slice (some ⟨b1, off1, none⟩) n c) ∧ w7.cell? ⟨w.heap.size + 1, 0, none⟩ = some (.slice (some ⟨b2, off2, none⟩) n d) ∧ w7.cell? ⟨b1, off1 + k, none⟩ = some (.slice xa xlen xcap) ∧ w7.cell? ⟨b2, off2 + k, none⟩ = some (.slice ya ylen ycap)) := ⟨(HXA.out.drew.here B7.out).three.1, (HXB.out.drew.here B7.out).three.1, KC1.out _ B7.out, KC2.out _ B7.out⟩
          clear b7 it2
          go_wp2_with fail
          refine hKq.out _ _ (HS7.out) (fun hHeld => ?_)
          clear hKq Kq
          (try simp only [Act.put, List.setIfInBounds_toArray, List.set_cons_zero, List.set_cons_succ])
          refine PX.wpAnyX_one (i := 13) (o := ?_) (by kernel_rfl) ?_ (fun Kq hKq => ?_)
          rotate_left
          · simp only [List.getElem?_toArray, List.getElem?_cons_succ, List.getElem?_cons_zero]; rfl
          go_simp
          refine hKq.out _ _ (HS7.out) (fun hHeld => ?_)
          clear hKq Kq
          (try simp only [Act.put, List.setIfInBounds_toArray, List.set_cons_zero, List.set_cons_succ])
          refine PX.wpAnyX_last (o := ?_) (by kernel_rfl) ?_ (fun Kq hKq => ?_)
          rotate_left
          · simp only [List.getElem?_toArray, List.getElem?_cons_succ, List.getElem?_cons_zero]; rfl
          go_simp
          refine hKq.out _ _ ?_
          clear hKq Kq
          (try simp only [Act.put, List.setIfInBounds_toArray, List.set_cons_zero, List.set_cons_succ])
          refine PX.wpAnyX_done (by kernel_rfl) ?_ _
          refine NoPanic.normal ?_
          go_wp2_with fail
          go_roundw
          case rel =>
            refine ⟨k + 1, by have := Hk.out; omega, by go_num, fun j hj => ?_, thence KB.out.drew B7.out (Nat.le_refl _)⟩
            rcases Nat.lt_or_ge j k with h | h
            · exact HGd.out j h
            · obtain rfl : j = k := by omega
              rw [EX.out, EY.out, HSX.out]; exact HE.out
          case measure => have := Hk.out; simp [intOf]; omega
        · go_simp
          refine (CL2.out _ (by exact B5.out)).mono ?_
          rintro e w7 ⟨p2, q2, r2, rfl, it2, b7⟩
          have T7 := text_is w7 _ _ _ _ (I1.out.here b7).rd
          have T8 := text_is w7 _ _ _ _ it2.rd
          have B7 := Lib.hid (thence B5.out b7 (Nat.le_refl _))
          have HS7 : Hid (w7.cell? ⟨w.heap.size, 0, none⟩ = some (.slice (some ⟨b1, off1, none⟩) n c) ∧ w7.cell? ⟨w.heap.size + 1, 0, none⟩ = some (.slice (some ⟨b2, off2, none⟩) n d) ∧ w7.cell? ⟨b1, off1 + k, none⟩ = some (.slice xa xlen xcap) ∧ w7.cell? ⟨b2, off2 + k, none⟩ = some (.slice ya ylen ycap)) := ⟨(HXA.out.drew.here B7.out).three.1, (HXB.out.drew.here B7.out).three.1, KC1.out _ B7.out, KC2.out _ B7.out⟩
          clear b7 it2
          go_wp2_with fail
          refine hKq.out _ _ (HS7.out) (fun hHeld => ?_)
          clear hKq Kq
          (try simp only [Act.put, List.setIfInBounds_toArray, List.set_cons_zero, List.set_cons_succ])
          refine PX.wpAnyX_two (i := 6) (j := 13) (o := ?_) (o' := ?_) (by kernel_rfl) ?_ ?_ (fun Kq hKq => ?_) (fun Kq hKq => ?_)
          rotate_left 2
          · simp only [List.getElem?_toArray, List.getElem?_cons_succ, List.getElem?_cons_zero]; rfl
          · simp only [List.getElem?_toArray, List.getElem?_cons_succ, List.getElem?_cons_zero]; rfl
          · go_simp
            refine hKq.out _ _ (HS7.out) (fun hHeld => ?_)
            clear hKq Kq
            (try simp only [Act.put, List.setIfInBounds_toArray, List.set_cons_zero, List.set_cons_succ])
            refine PX.wpAnyX_one (i := 13) (o := ?_) (by kernel_rfl) ?_ (fun Kq hKq => ?_)
            rotate_left
            · simp only [List.getElem?_toArray, List.getElem?_cons_succ, List.getElem?_cons_zero]; rfl
            go_simp
            refine hKq.out _ _ (HS7.out) (fun hHeld => ?_)
            clear hKq Kq
            (try simp only [Act.put, List.setIfInBounds_toArray, List.set_cons_zero, List.set_cons_succ])
            refine PX.wpAnyX_last (o := ?_) (by kernel_rfl) ?_ (fun Kq hKq => ?_)
            rotate_left
            · simp only [List.getElem?_toArray, List.getElem?_cons_succ, List.getElem?_cons_zero]; rfl
            go_simp
            refine hKq.out _ _ ?_
            clear hKq Kq
            (try simp only [Act.put, List.setIfInBounds_toArray, List.set_cons_zero, List.set_cons_succ])
            refine PX.wpAnyX_done (by kernel_rfl) ?_ _
            refine NoPanic.normal ?_
            go_wp2_with fail
            go_roundw
            case rel =>
              refine ⟨k + 1, by have := Hk.out; omega, by go_num, fun j hj => ?_, thence KB.out.drew B7.out (Nat.le_refl _)⟩
              rcases Nat.lt_or_ge j k with h | h
              · exact HGd.out j h
              · obtain rfl : j = k := by omega
                rw [EX.out, EY.out, HSX.out]; exact HE.out
            case measure => have := Hk.out; simp [intOf]; omega
          · go_simp
            refine hKq.out _ _ (HS7.out) (fun hHeld => ?_)
            clear hKq Kq
            (try simp only [Act.put, List.setIfInBounds_toArray, List.set_cons_zero, List.set_cons_succ])
            refine PX.wpAnyX_one (i := 6) (o := ?_) (by kernel_rfl) ?_ (fun Kq hKq => ?_)
            rotate_left
            · simp only [List.getElem?_toArray, List.getElem?_cons_succ, List.getElem?_cons_zero]; rfl
            go_simp
            refine hKq.out _ _ (HS7.out) (fun hHeld => ?_)
            clear hKq Kq
            (try simp only [Act.put, List.setIfInBounds_toArray, List.set_cons_zero, List.set_cons_succ])
            refine PX.wpAnyX_last (o := ?_) (by kernel_rfl) ?_ (fun Kq hKq => ?_)
            rotate_left
            · simp only [List.getElem?_toArray, List.getElem?_cons_succ, List.getElem?_cons_zero]; rfl
            go_simp
            refine hKq.out _ _ ?_
            clear hKq Kq
            (try simp only [Act.put, List.setIfInBounds_toArray, List.set_cons_zero, List.set_cons_succ])
            refine PX.wpAnyX_done (by kernel_rfl) ?_ _
            refine NoPanic.normal ?_
            go_wp2_with fail
            go_roundw
            case rel =>
              refine ⟨k + 1, by have := Hk.out; omega, by go_num, fun j hj => ?_, thence KB.out.drew B7.out (Nat.le_refl _)⟩
              rcases Nat.lt_or_ge j k with h | h
              · exact HGd.out j h
              · obtain rfl : j = k := by omega
                rw [EX.out, EY.out, HSX.out]; exact HE.out
            case measure => have := Hk.out; simp [intOf]; omega
      · have hss := str_ne bx byy he
        have hss' : ((str (DK.fl xl)).toList != (str (DK.fl yl)).toList) = true := by rw [bne, hss]; rfl
        have HE := Lib.hid he
        clear he bx byy
        generalize hsx : DK.fl xl = fx at *
        generalize hsy : DK.fl yl = fy at *
        have HSX := Lib.hid hsx
        have HSY := Lib.hid hsy
        clear hsx hsy
        go_wp2_with fail
        refine wp_region_noPanic ?_
        refine PX.wp_region_x (fun w' => w'.cell? ⟨w.heap.size, 0, none⟩ = some (.slice (some ⟨b1, off1, none⟩) n c) ∧ w'.cell? ⟨w.heap.size + 1, 0, none⟩ = some (.slice (some ⟨b2, off2, none⟩) n d) ∧ w'.cell? ⟨b1, off1 + k, none⟩ = some (.slice xa xlen xcap) ∧ w'.cell? ⟨b2, off2 + k, none⟩ = some (.slice ya ylen ycap)) 14 (by kernel_rfl) ⟨A0, C0, c1, c2⟩ (fun hHeld => ?_)
        refine PX.wpAnyX_take (i := 0) (oi := ?_) (v := ?_) ?_ (by kernel_rfl) (by kernel_rfl) (by kernel_rfl) (by kernel_rfl) (by kernel_rfl) (fun _ _ _ h => h) (Or.inl ⟨?_, ?_⟩) (by assumption) ?_
        rotate_left 2
        · simp only [List.getElem?_toArray, List.getElem?_cons_succ, List.getElem?_cons_zero]; rfl
        · rfl
        · intro w hSw; (try dsimp only at hSw); go_simp <;> with_reducible rfl
        (try simp only [Act.put, List.setIfInBounds_toArray, List.set_cons_zero, List.set_cons_succ])
        refine PX.wpAnyX_take (i := 1) (oi := ?_) (v := ?_) ?_ (by kernel_rfl) (by kernel_rfl) (by kernel_rfl) (by kernel_rfl) (by kernel_rfl) (fun _ _ _ h => h) (Or.inl ⟨?_, ?_⟩) (by assumption) ?_
        rotate_left 2
        · simp only [List.getElem?_toArray, List.getElem?_cons_succ, List.getElem?_cons_zero]; rfl
        · rfl
        · intro w hSw; (try dsimp only at hSw); go_simp <;> with_reducible rfl
        (try simp only [Act.put, List.setIfInBounds_toArray, List.set_cons_zero, List.set_cons_succ])
        refine PX.wpAnyX_take (i := 2) (oi := ?_) (v := ?_) ?_ (by kernel_rfl) (by kernel_rfl) (by kernel_rfl) (by kernel_rfl) (by kernel_rfl) (fun _ _ _ h => h) (Or.inl ⟨?_, ?_⟩) (by assumption) ?_
        rotate_left 2
        · simp only [List.getElem?_toArray, List.getElem?_cons_succ, List.getElem?_cons_zero]; rfl
        · rfl
        · intro w hSw; (try dsimp only at hSw); go_simp <;> with_reducible rfl
        (try simp only [Act.put, List.setIfInBounds_toArray, List.set_cons_zero, List.set_cons_succ])
        refine PX.wpAnyX_take (i := 3) (oi := ?_) (v := ?_) ?_ (by kernel_rfl) (by kernel_rfl) (by kernel_rfl) (by kernel_rfl) (by kernel_rfl) (fun _ _ _ h => h) (Or.inl ⟨?_, ?_⟩) (by assumption) ?_
        rotate_left 2
        · simp only [List.getElem?_toArray, List.getElem?_cons_succ, List.getElem?_cons_zero]; rfl
        · rfl
        · intro w hSw; (try dsimp only at hSw); go_simp <;> with_reducible rfl
        (try simp only [Act.put, List.setIfInBounds_toArray, List.set_cons_zero, List.set_cons_succ])
        refine PX.wpAnyX_take (i := 4) (oi := ?_) (v := ?_) ?_ (by kernel_rfl) (by kernel_rfl) (by kernel_rfl) (by kernel_rfl) (by kernel_rfl) (fun _ _ _ h => h) (Or.inl ⟨?_, ?_⟩) (by assumption) ?_
        rotate_left 2
        · simp only [List.getElem?_toArray, List.getElem?_cons_succ, List.getElem?_cons_zero]; rfl
        · rfl
        · intro w hSw; (try dsimp only at hSw); go_simp <;> with_reducible rfl
        (try simp only [Act.put, List.setIfInBounds_toArray, List.set_cons_zero, List.set_cons_succ])
        refine PX.wpAnyX_take (i := 7) (oi := ?_) (v := ?_) ?_ (by kernel_rfl) (by kernel_rfl) (by kernel_rfl) (by kernel_rfl) (by kernel_rfl) (fun _ _ _ h => h) (Or.inl ⟨?_, ?_⟩) (by assumption) ?_
        rotate_left 2
        · simp only [List.getElem?_toArray, List.getElem?_cons_succ, List.getElem?_cons_zero]; rfl
        · rfl
        · intro w hSw; (try dsimp only at hSw); go_simp <;> with_reducible rfl
        (try simp only [Act.put, List.setIfInBounds_toArray, List.set_cons_zero, List.set_cons_succ])
        refine PX.wpAnyX_take (i := 8) (oi := ?_) (v := ?_) ?_ (by kernel_rfl) (by kernel_rfl) (by kernel_rfl) (by kernel_rfl) (by kernel_rfl) (fun _ _ _ h => h) (Or.inl ⟨?_, ?_⟩) (by assumption) ?_
        rotate_left 2
        · simp only [List.getElem?_toArray, List.getElem?_cons_succ, List.getElem?_cons_zero]; rfl
        · rfl
        · intro w hSw; (try dsimp only at hSw); go_simp <;> with_reducible rfl
        (try simp only [Act.put, List.setIfInBounds_toArray, List.set_cons_zero, List.set_cons_succ])
        refine PX.wpAnyX_take (i := 9) (oi := ?_) (v := ?_) ?_ (by kernel_rfl) (by kernel_rfl) (by kernel_rfl) (by kernel_rfl) (by kernel_rfl) (fun _ _ _ h => h) (Or.inl ⟨?_, ?_⟩) (by assumption) ?_
        rotate_left 2
        · simp only [List.getElem?_toArray, List.getElem?_cons_succ, List.getElem?_cons_zero]; rfl
        · rfl
        · intro w hSw; (try dsimp only at hSw); go_simp <;> with_reducible rfl
        (try simp only [Act.put, List.setIfInBounds_toArray, List.set_cons_zero, List.set_cons_succ])
        refine PX.wpAnyX_take (i := 10) (oi := ?_) (v := ?_) ?_ (by kernel_rfl) (by kernel_rfl) (by kernel_rfl) (by kernel_rfl) (by kernel_rfl) (fun _ _ _ h => h) (Or.inl ⟨?_, ?_⟩) (by assumption) ?_
        rotate_left 2
        · simp only [List.getElem?_toArray, List.getElem?_cons_succ, List.getElem?_cons_zero]; rfl
        · rfl
        · intro w hSw; (try dsimp only at hSw); go_simp <;> with_reducible rfl
        (try simp only [Act.put, List.setIfInBounds_toArray, List.set_cons_zero, List.set_cons_succ])
        refine PX.wpAnyX_take (i := 11) (oi := ?_) (v := ?_) ?_ (by kernel_rfl) (by kernel_rfl) (by kernel_rfl) (by kernel_rfl) (by kernel_rfl) (fun _ _ _ h => h) (Or.inl ⟨?_, ?_⟩) (by assumption) ?_
        rotate_left 2
        · simp only [List.getElem?_toArray, List.getElem?_cons_succ, List.getElem?_cons_zero]; rfl
        · rfl
        · intro w hSw; (try dsimp only at hSw); go_simp <;> with_reducible rfl
        (try simp only [Act.put, List.setIfInBounds_toArray, List.set_cons_zero, List.set_cons_succ])
        refine PX.wpAnyX_one (i := 5) (o := ?_) (by kernel_rfl) ?_ (fun Kq hKq => ?_)
        rotate_left
        · simp only [List.getElem?_toArray, List.getElem?_cons_succ, List.getElem?_cons_zero]; rfl
        go_simp
        refine CL1.out.mono ?_
        rintro e w5 ⟨p1, q1, r1, rfl, it1, b5⟩
        have T5 := text_is w5 _ _ _ _ it1.rd
        have B5 := Lib.hid b5
        have I1 := Lib.hid it1
        have HS5 : Hid (w5.cell? ⟨w.heap.size, 0, none⟩ = some (.slice (some ⟨b1, off1, none⟩) n c) ∧ w5.cell? ⟨w.heap.size + 1, 0, none⟩ = some (.slice (some ⟨b2, off2, none⟩) n d) ∧ w5.cell? ⟨b1, off1 + k, none⟩ = some (.slice xa xlen xcap) ∧ w5.cell? ⟨b2, off2 + k, none⟩ = some (.slice ya ylen ycap)) := ⟨(HXA.out.drew.here B5.out).three.1, (HXB.out.drew.here B5.out).three.1, KC1.out _ B5.out, KC2.out _ B5.out⟩
        clear b5 it1
        go_wp2_with fail
        refine hKq.out _ _ (HS5.out) (fun hHeld => ?_)
        clear hKq Kq
        (try simp only [Act.put, List.setIfInBounds_toArray, List.set_cons_zero, List.set_cons_succ])
        refine PX.wpAnyX_two (i := 6) (j := 12) (o := ?_) (o' := ?_) (by kernel_rfl) ?_ ?_ (fun Kq hKq => ?_) (fun Kq hKq => ?_)
        rotate_left 2
        · simp only [List.getElem?_toArray, List.getElem?_cons_succ, List.getElem?_cons_zero]; rfl
        · simp only [List.getElem?_toArray, List.getElem?_cons_succ, List.getElem?_cons_zero]; rfl
        · go_simp
          refine hKq.out _ _ (HS5.out) (fun hHeld => ?_)
          clear hKq Kq
          (try simp only [Act.put, List.setIfInBounds_toArray, List.set_cons_zero, List.set_cons_succ])
          refine PX.wpAnyX_one (i := 12) (o := ?_) (by kernel_rfl) ?_ (fun Kq hKq => ?_)
          rotate_left
          · simp only [List.getElem?_toArray, List.getElem?_cons_succ, List.getElem?_cons_zero]; rfl
          go_simp
          refine (CL2.out _ (by exact B5.out)).mono ?_
          rintro e w7 ⟨p2, q2, r2, rfl, it2, b7⟩
          have T7 := text_is w7 _ _ _ _ (I1.out.here b7).rd
          have T8 := text_is w7 _ _ _ _ it2.rd
          have B7 := Lib.hid (thence B5.out b7 (Nat.le_refl _))
          have HS7 : Hid (w7.cell? ⟨w.heap.size, 0, none⟩ = some (.slice (some ⟨b1, off1, none⟩) n c) ∧ w7.cell? ⟨w.heap.size + 1, 0, none⟩ = some (.slice (some ⟨b2, off2, none⟩) n d) ∧ w7.cell? ⟨b1, off1 + k, none⟩ = some (.slice xa xlen xcap) ∧ w7.cell? ⟨b2, off2 + k, none⟩ = some (.slice ya ylen ycap)) := ⟨(HXA.out.drew.here B7.out).three.1, (HXB.out.drew.here B7.out).three.1, KC1.out _ B7.out, KC2.out _ B7.out⟩
          clear b7 it2
          go_wp2_with fail
          refine hKq.out _ _ (HS7.out) (fun hHeld => ?_)
          clear hKq Kq
          (try simp only [Act.put, List.setIfInBounds_toArray, List.set_cons_zero, List.set_cons_succ])
          refine PX.wpAnyX_one (i := 13) (o := ?_) (by kernel_rfl) ?_ (fun Kq hKq => ?_)
          rotate_left
          · simp only [List.getElem?_toArray, List.getElem?_cons_succ, List.getElem?_cons_zero]; rfl
          go_simp
          refine hKq.out _ _ (HS7.out) (fun hHeld => ?_)
          clear hKq Kq
          (try simp only [Act.put, List.setIfInBounds_toArray, List.set_cons_zero, List.set_cons_succ])
          refine PX.wpAnyX_last (o := ?_) (by kernel_rfl) ?_ (fun Kq hKq => ?_)
          rotate_left
          · simp only [List.getElem?_toArray, List.getElem?_cons_succ, List.getElem?_cons_zero]; rfl
          go_simp
          refine hKq.out _ _ ?_
          clear hKq Kq
          (try simp only [Act.put, List.setIfInBounds_toArray, List.set_cons_zero, List.set_cons_succ])
          refine PX.wpAnyX_done (by kernel_rfl) ?_ _
          refine NoPanic.normal ?_
          go_wp2_with fail
          try rw [Exit.noGoto_ret]
          go_ret
          refine ⟨?_, thence HB.out (thence KB.out.drew B7.out (Nat.le_refl _)) (Nat.le_refl _)⟩
          rw [no.out (fun h => HE.out (by rw [← HSX.out, ← HSY.out, ← EX.out, ← EY.out]; exact DK.map_getD_eq (HS.out.1 h).2.1 k))]
          rfl
        · go_simp
          refine (CL2.out _ (by exact B5.out)).mono ?_
          rintro e w7 ⟨p2, q2, r2, rfl, it2, b7⟩
          have T7 := text_is w7 _ _ _ _ (I1.out.here b7).rd
          have T8 := text_is w7 _ _ _ _ it2.rd
          have B7 := Lib.hid (thence B5.out b7 (Nat.le_refl _))
          have HS7 : Hid (w7.cell? ⟨w.heap.size, 0, none⟩ = some (.slice (some ⟨b1, off1, none⟩) n c) ∧ w7.cell? ⟨w.heap.size + 1, 0, none⟩ = some (.slice (some ⟨b2, off2, none⟩) n d) ∧ w7.cell? ⟨b1, off1 + k, none⟩ = some (.slice xa xlen xcap) ∧ w7.cell? ⟨b2, off2 + k, none⟩ = some (.slice ya ylen ycap)) := ⟨(HXA.out.drew.here B7.out).three.1, (HXB.out.drew.here B7.out).three.1, KC1.out _ B7.out, KC2.out _ B7.out⟩
          clear b7 it2
          go_wp2_with fail
          refine hKq.out _ _ (HS7.out) (fun hHeld => ?_)
          clear hKq Kq
          (try simp only [Act.put, List.setIfInBounds_toArray, List.set_cons_zero, List.set_cons_succ])
          refine PX.wpAnyX_two (i := 6) (j := 13) (o := ?_) (o' := ?_) (by kernel_rfl) ?_ ?_ (fun Kq hKq => ?_) (fun Kq hKq => ?_)
          rotate_left 2
          · simp only [List.getElem?_toArray, List.getElem?_cons_succ, List.getElem?_cons_zero]; rfl
          · simp only [List.getElem?_toArray, List.getElem?_cons_succ, List.getElem?_cons_zero]; rfl
          · go_simp
            refine hKq.out _ _ (HS7.out) (fun hHeld => ?_)
            clear hKq Kq
            (try simp only [Act.put, List.setIfInBounds_toArray, List.set_cons_zero, List.set_cons_succ])
            refine PX.wpAnyX_one (i := 13) (o := ?_) (by kernel_rfl) ?_ (fun Kq hKq => ?_)
            rotate_left
            · simp only [List.getElem?_toArray, List.getElem?_cons_succ, List.getElem?_cons_zero]; rfl
            go_simp
            refine hKq.out _ _ (HS7.out) (fun hHeld => ?_)
            clear hKq Kq
            (try simp only [Act.put, List.setIfInBounds_toArray, List.set_cons_zero, List.set_cons_succ])
            refine PX.wpAnyX_last (o := ?_) (by kernel_rfl) ?_ (fun Kq hKq => ?_)
            rotate_left
            · simp only [List.getElem?_toArray, List.getElem?_cons_succ, List.getElem?_cons_zero]; rfl
            go_simp
            refine hKq.out _ _ ?_
            clear hKq Kq
            (try simp only [Act.put, List.setIfInBounds_toArray, List.set_cons_zero, List.set_cons_succ])
            refine PX.wpAnyX_done (by kernel_rfl) ?_ _
            refine NoPanic.normal ?_
            go_wp2_with fail
            try rw [Exit.noGoto_ret]
            go_ret
            refine ⟨?_, thence HB.out (thence KB.out.drew B7.out (Nat.le_refl _)) (Nat.le_refl _)⟩
            rw [no.out (fun h => HE.out (by rw [← HSX.out, ← HSY.out, ← EX.out, ← EY.out]; exact DK.map_getD_eq (HS.out.1 h).2.1 k))]
            rfl
          · go_simp
            refine hKq.out _ _ (HS7.out) (fun hHeld => ?_)
            clear hKq Kq
            (try simp only [Act.put, List.setIfInBounds_toArray, List.set_cons_zero, List.set_cons_succ])
            refine PX.wpAnyX_one (i := 6) (o := ?_) (by kernel_rfl) ?_ (fun Kq hKq => ?_)
            rotate_left
            · simp only [List.getElem?_toArray, List.getElem?_cons_succ, List.getElem?_cons_zero]; rfl
            go_simp
            refine hKq.out _ _ (HS7.out) (fun hHeld => ?_)
            clear hKq Kq
            (try simp only [Act.put, List.setIfInBounds_toArray, List.set_cons_zero, List.set_cons_succ])
            refine PX.wpAnyX_last (o := ?_) (by kernel_rfl) ?_ (fun Kq hKq => ?_)
            rotate_left
            · simp only [List.getElem?_toArray, List.getElem?_cons_succ, List.getElem?_cons_zero]; rfl
            go_simp
            refine hKq.out _ _ ?_
            clear hKq Kq
            (try simp only [Act.put, List.setIfInBounds_toArray, List.set_cons_zero, List.set_cons_succ])
            refine PX.wpAnyX_done (by kernel_rfl) ?_ _
            refine NoPanic.normal ?_
            go_wp2_with fail
            try rw [Exit.noGoto_ret]
            go_ret
            refine ⟨?_, thence HB.out (thence KB.out.drew B7.out (Nat.le_refl _)) (Nat.le_refl _)⟩
            rw [no.out (fun h => HE.out (by rw [← HSX.out, ← HSY.out, ← EX.out, ← EY.out]; exact DK.map_getD_eq (HS.out.1 h).2.1 k))]
            rfl
    · obtain rfl : k = n := by omega
      go_wp2_with fail
      go_loopw [6] (fun i w2 => ∃ k : Nat, k ≤ n' ∧ i = .int .i64 k ∧ Hid (∀ j, j < k → DK.fw (D.ws.getD j (0, [])) = DK.fw (E.ws.getD j (0, []))) ∧ Hid (Below w1.heap.size w1 w2)) (fun i _ => n' - (intOf i).toNat)
      case atStart => exact ⟨0, by omega, rfl, (fun j hj => absurd hj (Nat.not_lt_zero _) : ∀ j, j < 0 → _), KB.out⟩
      case round =>
        obtain ⟨k, hk, rfl, HG2, KB2⟩ := hrel
        have hxA := HX1.out.here KB2.out
        have hxB := HX2.out.here KB2.out
        obtain ⟨A0, A1, A2⟩ := hxA.three
        obtain ⟨C0, C1, C2⟩ := hxB.three
        have gA := hxA.lt
        have gB := hxB.lt
        have HXA := Lib.hid hxA
        have HXB := Lib.hid hxB
        have KW : Hid (Below w.heap.size w wr) := thence HB.out KB2.out (Nat.le_refl _)
        clear hxA hxB
        by_cases hlt : k < n'
        · obtain ⟨b1, off1, z1, xa, xlen, xcap, xl, rfl, hb1, hx, c1, c1', rx⟩ := (Hr.out.below KW.out).wat k hlt
          obtain ⟨b2, off2, z2, ya, ylen, ycap, yl, rfl, hb2, hy, c2, c2', ry⟩ := (Hq.out.below KW.out).wat k hlt
          have EX := Lib.hid hx
          have EY := Lib.hid hy
          have Hk := Lib.hid hlt
          have i0 : (0 : Int) ≤ (k : Int) := Int.natCast_nonneg _
          have i1 : (k : Int) < (n' : Int) := by omega
          by_cases hz : z1 = z2
          case neg =>
            have ez : (z1 == z2) = false := by rw [beq_eq_false_iff_ne]; exact hz
            have ez2 : (z1 != z2) = true := by rw [bne, ez]; rfl
            have HZ := Lib.hid hz
            clear hz rx ry hx hy
            go_wp2_with fail
            go_quiet (fail)
            go_wp2_with fail
            try rw [Exit.noGoto_ret]
            go_ret
            refine ⟨?_, below_drewN KW.out _⟩
            rw [no.out (fun h => HZ.out (by
              have h2 := DK.map_getD_eq (d := (0, [])) (HS.out.1 h).2.2 k
              rw [EX.out, EY.out, fw_eq] at h2
              exact h2.1))]
            rfl
          subst hz
          have lx : xl.length ≤ 100000 := (by
            have h7 := HF.out.2.2.2 _ (mem_getD (d := (0, [])) (k := k) (by rw [← Hr.out.long.2]; exact hlt))
            rw [hx] at h7; exact h7)
          have ly : yl.length ≤ 100000 := (by
            have h7 := HG.out.2.2.2 _ (mem_getD (d := (0, [])) (k := k) (by rw [← Hq.out.long.2]; exact hlt))
            rw [hy] at h7; exact h7)
          have bx : Bytes (DK.fl xl) := DK.fl_bytes rx.byt
          have byy : Bytes (DK.fl yl) := DK.fl_bytes ry.byt
          have rx' : Rd wr.drew.heap.size wr.drew xa xlen xcap xl := (rx.drewN 1).mono KW.out.size
          have ry' : Rd wr.drew.heap.size wr.drew ya ylen ycap yl := (ry.drewN 1).mono KW.out.size
          have CL1 := Lib.hid (CF.out xa xlen xcap xl wr.drew rx' lx)
          have CL2 : Hid (∀ w5, Below wr.drew.heap.size wr.drew w5 → Calls Try.prog 59 #[.slice ya ylen ycap] w5 (NewSl w5 (DK.fl yl))) := fun w5 h5 => CF.out ya ylen ycap yl w5 (ry'.here h5) ly
          have hq1 : b1 < wr.heap.size := Nat.lt_of_lt_of_le hb1 KW.out.size
          have hq2 : b2 < wr.heap.size := Nat.lt_of_lt_of_le hb2 KW.out.size
          have KC1 : Hid (∀ w5, Below wr.drew.heap.size wr.drew w5 → w5.cell? ⟨b1, off1 + k * 2, none⟩ = some (.int .i64 z1) ∧ w5.cell? ⟨b1, off1 + k * 2 + 1, none⟩ = some (.slice xa xlen xcap)) := fun w5 h5 => ⟨(h5.cell (p := ⟨b1, off1 + k * 2, none⟩) hq1).trans c1, (h5.cell (p := ⟨b1, off1 + k * 2 + 1, none⟩) hq1).trans c1'⟩
          have KC2 : Hid (∀ w5, Below wr.drew.heap.size wr.drew w5 → w5.cell? ⟨b2, off2 + k * 2, none⟩ = some (.int .i64 z1) ∧ w5.cell? ⟨b2, off2 + k * 2 + 1, none⟩ = some (.slice ya ylen ycap)) := fun w5 h5 => ⟨(h5.cell (p := ⟨b2, off2 + k * 2, none⟩) hq2).trans c2, (h5.cell (p := ⟨b2, off2 + k * 2 + 1, none⟩) hq2).trans c2'⟩
          clear rx ry rx' ry' hx hy lx ly
          by_cases he : DK.fl xl = DK.fl yl
          · rw [← he] at CL2
            have HE := Lib.hid he
            clear he byy
            generalize hsx : DK.fl xl = fx at *
            have HSX := Lib.hid hsx
            clear hsx
            go_wp2_with fail
            refine wp_region_noPanic ?_
            refine PX.wp_region_x (fun w' => w'.cell? ⟨w.heap.size, 1, none⟩ = some (.slice (some ⟨b1, off1, none⟩) n' c') ∧ w'.cell? ⟨w.heap.size + 1, 1, none⟩ = some (.slice (some ⟨b2, off2, none⟩) n' d') ∧ (w'.cell? ⟨b1, off1 + k * 2, none⟩ = some (.int .i64 z1) ∧ w'.cell? ⟨b1, off1 + k * 2 + 1, none⟩ = some (.slice xa xlen xcap)) ∧ (w'.cell? ⟨b2, off2 + k * 2, none⟩ = some (.int .i64 z1) ∧ w'.cell? ⟨b2, off2 + k * 2 + 1, none⟩ = some (.slice ya ylen ycap))) 31 (by kernel_rfl) ⟨A1, C1, ⟨c1, c1'⟩, c2, c2'⟩ (fun hHeld => ?_)
            refine PX.wpAnyX_take (i := 0) (oi := ?_) (v := ?_) ?_ (by kernel_rfl) (by kernel_rfl) (by kernel_rfl) (by kernel_rfl) (by kernel_rfl) (fun _ _ _ h => h) (Or.inl ⟨?_, ?_⟩) (by assumption) ?_
            rotate_left 2
            · simp only [List.getElem?_toArray, List.getElem?_cons_succ, List.getElem?_cons_zero]; rfl
            · rfl
            · intro w hSw; (try dsimp only at hSw); go_simp <;> with_reducible rfl
            (try simp only [Act.put, List.setIfInBounds_toArray, List.set_cons_zero, List.set_cons_succ])
            refine PX.wpAnyX_take (i := 1) (oi := ?_) (v := ?_) ?_ (by kernel_rfl) (by kernel_rfl) (by kernel_rfl) (by kernel_rfl) (by kernel_rfl) (fun _ _ _ h => h) (Or.inl ⟨?_, ?_⟩) (by assumption) ?_
            rotate_left 2
            · simp only [List.getElem?_toArray, List.getElem?_cons_succ, List.getElem?_cons_zero]; rfl
            · rfl
            · intro w hSw; (try dsimp only at hSw); go_simp <;> with_reducible rfl
            (try simp only [Act.put, List.setIfInBounds_toArray, List.set_cons_zero, List.set_cons_succ])
            refine PX.wpAnyX_take (i := 2) (oi := ?_) (v := ?_) ?_ (by kernel_rfl) (by kernel_rfl) (by kernel_rfl) (by kernel_rfl) (by kernel_rfl) (fun _ _ _ h => h) (Or.inl ⟨?_, ?_⟩) (by assumption) ?_
            rotate_left 2
            · simp only [List.getElem?_toArray, List.getElem?_cons_succ, List.getElem?_cons_zero]; rfl
            · rfl
            · intro w hSw; (try dsimp only at hSw); go_simp <;> with_reducible rfl
            (try simp only [Act.put, List.setIfInBounds_toArray, List.set_cons_zero, List.set_cons_succ])
            refine PX.wpAnyX_take (i := 3) (oi := ?_) (v := ?_) ?_ (by kernel_rfl) (by kernel_rfl) (by kernel_rfl) (by kernel_rfl) (by kernel_rfl) (fun _ _ _ h => h) (Or.inl ⟨?_, ?_⟩) (by assumption) ?_
            rotate_left 2
            · simp only [List.getElem?_toArray, List.getElem?_cons_succ, List.getElem?_cons_zero]; rfl
            · rfl
            · intro w hSw; (try dsimp only at hSw); go_simp <;> with_reducible rfl
            (try simp only [Act.put, List.setIfInBounds_toArray, List.set_cons_zero, List.set_cons_succ])
            refine PX.wpAnyX_take (i := 4) (oi := ?_) (v := ?_) ?_ (by kernel_rfl) (by kernel_rfl) (by kernel_rfl) (by kernel_rfl) (by kernel_rfl) (fun _ _ _ h => h) (Or.inl ⟨?_, ?_⟩) (by assumption) ?_
            rotate_left 2
            · simp only [List.getElem?_toArray, List.getElem?_cons_succ, List.getElem?_cons_zero]; rfl
            · rfl
            · intro w hSw; (try dsimp only at hSw); go_simp <;> with_reducible rfl
            (try simp only [Act.put, List.setIfInBounds_toArray, List.set_cons_zero, List.set_cons_succ])
            refine PX.wpAnyX_take (i := 5) (oi := ?_) (v := ?_) ?_ (by kernel_rfl) (by kernel_rfl) (by kernel_rfl) (by kernel_rfl) (by kernel_rfl) (fun _ _ _ h => h) (Or.inl ⟨?_, ?_⟩) (by assumption) ?_
            rotate_left 2
            · simp only [List.getElem?_toArray, List.getElem?_cons_succ, List.getElem?_cons_zero]; rfl
            · rfl
            · intro w hSw; (try dsimp only at hSw); go_simp <;> with_reducible rfl
            (try simp only [Act.put, List.setIfInBounds_toArray, List.set_cons_zero, List.set_cons_succ])
            refine PX.wpAnyX_take (i := 6) (oi := ?_) (v := ?_) ?_ (by kernel_rfl) (by kernel_rfl) (by kernel_rfl) (by kernel_rfl) (by kernel_rfl) (fun _ _ _ h => h) (Or.inl ⟨?_, ?_⟩) (by assumption) ?_
            rotate_left 2
            · simp only [List.getElem?_toArray, List.getElem?_cons_succ, List.getElem?_cons_zero]; rfl
            · rfl
            · intro w hSw; (try dsimp only at hSw); go_simp <;> with_reducible rfl
            (try simp only [Act.put, List.setIfInBounds_toArray, List.set_cons_zero, List.set_cons_succ])
            refine PX.wpAnyX_take (i := 7) (oi := ?_) (v := ?_) ?_ (by kernel_rfl) (by kernel_rfl) (by kernel_rfl) (by kernel_rfl) (by kernel_rfl) (fun _ _ _ h => h) (Or.inl ⟨?_, ?_⟩) (by assumption) ?_
            rotate_left 2
            · simp only [List.getElem?_toArray, List.getElem?_cons_succ, List.getElem?_cons_zero]; rfl
            · rfl
            · intro w hSw; (try dsimp only at hSw); go_simp <;> with_reducible rfl
            (try simp only [Act.put, List.setIfInBounds_toArray, List.set_cons_zero, List.set_cons_succ])
            refine PX.wpAnyX_take (i := 8) (oi := ?_) (v := ?_) ?_ (by kernel_rfl) (by kernel_rfl) (by kernel_rfl) (by kernel_rfl) (by kernel_rfl) (fun _ _ _ h => h) (Or.inl ⟨?_, ?_⟩) (by assumption) ?_
            rotate_left 2
            · simp only [List.getElem?_toArray, List.getElem?_cons_succ, List.getElem?_cons_zero]; rfl
            · rfl
            · intro w hSw; (try dsimp only at hSw); go_simp <;> with_reducible rfl
            (try simp only [Act.put, List.setIfInBounds_toArray, List.set_cons_zero, List.set_cons_succ])
            refine PX.wpAnyX_take (i := 9) (oi := ?_) (v := ?_) ?_ (by kernel_rfl) (by kernel_rfl) (by kernel_rfl) (by kernel_rfl) (by kernel_rfl) (fun _ _ _ h => h) (Or.inl ⟨?_, ?_⟩) (by assumption) ?_
            rotate_left 2
            · simp only [List.getElem?_toArray, List.getElem?_cons_succ, List.getElem?_cons_zero]; rfl
            · rfl
            · intro w hSw; (try dsimp only at hSw); go_simp <;> with_reducible rfl
            (try simp only [Act.put, List.setIfInBounds_toArray, List.set_cons_zero, List.set_cons_succ])
            refine PX.wpAnyX_take (i := 10) (oi := ?_) (v := ?_) ?_ (by kernel_rfl) (by kernel_rfl) (by kernel_rfl) (by kernel_rfl) (by kernel_rfl) (fun _ _ _ h => h) (Or.inl ⟨?_, ?_⟩) (by assumption) ?_
            rotate_left 2
            · simp only [List.getElem?_toArray, List.getElem?_cons_succ, List.getElem?_cons_zero]; rfl
            · rfl
            · intro w hSw; (try dsimp only at hSw); go_simp <;> with_reducible rfl
            (try simp only [Act.put, List.setIfInBounds_toArray, List.set_cons_zero, List.set_cons_succ])
            refine PX.wpAnyX_take (i := 11) (oi := ?_) (v := ?_) ?_ (by kernel_rfl) (by kernel_rfl) (by kernel_rfl) (by kernel_rfl) (by kernel_rfl) (fun _ _ _ h => h) (Or.inl ⟨?_, ?_⟩) (by assumption) ?_
            rotate_left 2
            · simp only [List.getElem?_toArray, List.getElem?_cons_succ, List.getElem?_cons_zero]; rfl
            · rfl
            · intro w hSw; (try dsimp only at hSw); go_simp <;> with_reducible rfl
            (try simp only [Act.put, List.setIfInBounds_toArray, List.set_cons_zero, List.set_cons_succ])
            refine PX.wpAnyX_take (i := 12) (oi := ?_) (v := ?_) ?_ (by kernel_rfl) (by kernel_rfl) (by kernel_rfl) (by kernel_rfl) (by kernel_rfl) (fun _ _ _ h => h) (Or.inl ⟨?_, ?_⟩) (by assumption) ?_
            rotate_left 2
            · simp only [List.getElem?_toArray, List.getElem?_cons_succ, List.getElem?_cons_zero]; rfl
            · rfl
            · intro w hSw; (try dsimp only at hSw); go_simp <;> with_reducible rfl
            (try simp only [Act.put, List.setIfInBounds_toArray, List.set_cons_zero, List.set_cons_succ])
            refine PX.wpAnyX_take (i := 13) (oi := ?_) (v := ?_) ?_ (by kernel_rfl) (by kernel_rfl) (by kernel_rfl) (by kernel_rfl) (by kernel_rfl) (fun _ _ _ h => h) (Or.inl ⟨?_, ?_⟩) (by assumption) ?_
            rotate_left 2
            · simp only [List.getElem?_toArray, List.getElem?_cons_succ, List.getElem?_cons_zero]; rfl
            · rfl
            · intro w hSw; (try dsimp only at hSw); go_simp <;> with_reducible rfl
            (try simp only [Act.put, List.setIfInBounds_toArray, List.set_cons_zero, List.set_cons_succ])
            refine PX.wpAnyX_take (i := 14) (oi := ?_) (v := ?_) ?_ (by kernel_rfl) (by kernel_rfl) (by kernel_rfl) (by kernel_rfl) (by kernel_rfl) (fun _ _ _ h => h) (Or.inl ⟨?_, ?_⟩) (by assumption) ?_
            rotate_left 2
            · simp only [List.getElem?_toArray, List.getElem?_cons_succ, List.getElem?_cons_zero]; rfl
            · rfl
            · intro w hSw; (try dsimp only at hSw); go_simp <;> with_reducible rfl
            (try simp only [Act.put, List.setIfInBounds_toArray, List.set_cons_zero, List.set_cons_succ])
            refine PX.wpAnyX_take (i := 15) (oi := ?_) (v := ?_) ?_ (by kernel_rfl) (by kernel_rfl) (by kernel_rfl) (by kernel_rfl) (by kernel_rfl) (fun _ _ _ h => h) (Or.inl ⟨?_, ?_⟩) (by assumption) ?_
            rotate_left 2
            · simp only [List.getElem?_toArray, List.getElem?_cons_succ, List.getElem?_cons_zero]; rfl
            · rfl
            · intro w hSw; (try dsimp only at hSw); go_simp <;> with_reducible rfl
            (try simp only [Act.put, List.setIfInBounds_toArray, List.set_cons_zero, List.set_cons_succ])
            refine PX.wpAnyX_take (i := 16) (oi := ?_) (v := ?_) ?_ (by kernel_rfl) (by kernel_rfl) (by kernel_rfl) (by kernel_rfl) (by kernel_rfl) (fun _ _ _ h => h) (Or.inl ⟨?_, ?_⟩) (by assumption) ?_
            rotate_left 2
            · simp only [List.getElem?_toArray, List.getElem?_cons_succ, List.getElem?_cons_zero]; rfl
            · rfl
            · intro w hSw; (try dsimp only at hSw); go_simp <;> with_reducible rfl
            (try simp only [Act.put, List.setIfInBounds_toArray, List.set_cons_zero, List.set_cons_succ])
            refine PX.wpAnyX_take (i := 17) (oi := ?_) (v := ?_) ?_ (by kernel_rfl) (by kernel_rfl) (by kernel_rfl) (by kernel_rfl) (by kernel_rfl) (fun _ _ _ h => h) (Or.inl ⟨?_, ?_⟩) (by assumption) ?_
            rotate_left 2
            · simp only [List.getElem?_toArray, List.getElem?_cons_succ, List.getElem?_cons_zero]; rfl
            · rfl
            · intro w hSw; (try dsimp only at hSw); go_simp <;> with_reducible rfl
            (try simp only [Act.put, List.setIfInBounds_toArray, List.set_cons_zero, List.set_cons_succ])
            refine PX.wpAnyX_take (i := 18) (oi := ?_) (v := ?_) ?_ (by kernel_rfl) (by kernel_rfl) (by kernel_rfl) (by kernel_rfl) (by kernel_rfl) (fun _ _ _ h => h) (Or.inl ⟨?_, ?_⟩) (by assumption) ?_
            rotate_left 2
            · simp only [List.getElem?_toArray, List.getElem?_cons_succ, List.getElem?_cons_zero]; rfl
            · rfl
            · intro w hSw; (try dsimp only at hSw); go_simp <;> with_reducible rfl
            (try simp only [Act.put, List.setIfInBounds_toArray, List.set_cons_zero, List.set_cons_succ])
            refine PX.wpAnyX_take (i := 19) (oi := ?_) (v := ?_) ?_ (by kernel_rfl) (by kernel_rfl) (by kernel_rfl) (by kernel_rfl) (by kernel_rfl) (fun _ _ _ h => h) (Or.inl ⟨?_, ?_⟩) (by assumption) ?_
            rotate_left 2
            · simp only [List.getElem?_toArray, List.getElem?_cons_succ, List.getElem?_cons_zero]; rfl
            · rfl
            · intro w hSw; (try dsimp only at hSw); go_simp <;> with_reducible rfl
            (try simp only [Act.put, List.setIfInBounds_toArray, List.set_cons_zero, List.set_cons_succ])
            refine PX.wpAnyX_take (i := 22) (oi := ?_) (v := ?_) ?_ (by kernel_rfl) (by kernel_rfl) (by kernel_rfl) (by kernel_rfl) (by kernel_rfl) (fun _ _ _ h => h) (Or.inl ⟨?_, ?_⟩) (by assumption) ?_
            rotate_left 2
            · simp only [List.getElem?_toArray, List.getElem?_cons_succ, List.getElem?_cons_zero]; rfl
            · rfl
            · intro w hSw; (try dsimp only at hSw); go_simp <;> with_reducible rfl
            (try simp only [Act.put, List.setIfInBounds_toArray, List.set_cons_zero, List.set_cons_succ])
            refine PX.wpAnyX_take (i := 23) (oi := ?_) (v := ?_) ?_ (by kernel_rfl) (by kernel_rfl) (by kernel_rfl) (by kernel_rfl) (by kernel_rfl) (fun _ _ _ h => h) (Or.inl ⟨?_, ?_⟩) (by assumption) ?_
            rotate_left 2
            · simp only [List.getElem?_toArray, List.getElem?_cons_succ, List.getElem?_cons_zero]; rfl
            · rfl
            · intro w hSw; (try dsimp only at hSw); go_simp <;> with_reducible rfl
            (try simp only [Act.put, List.setIfInBounds_toArray, List.set_cons_zero, List.set_cons_succ])
            refine PX.wpAnyX_take (i := 24) (oi := ?_) (v := ?_) ?_ (by kernel_rfl) (by kernel_rfl) (by kernel_rfl) (by kernel_rfl) (by kernel_rfl) (fun _ _ _ h => h) (Or.inl ⟨?_, ?_⟩) (by assumption) ?_
            rotate_left 2
            · simp only [List.getElem?_toArray, List.getElem?_cons_succ, List.getElem?_cons_zero]; rfl
            · rfl
            · intro w hSw; (try dsimp only at hSw); go_simp <;> with_reducible rfl
            (try simp only [Act.put, List.setIfInBounds_toArray, List.set_cons_zero, List.set_cons_succ])
            refine PX.wpAnyX_take (i := 25) (oi := ?_) (v := ?_) ?_ (by kernel_rfl) (by kernel_rfl) (by kernel_rfl) (by kernel_rfl) (by kernel_rfl) (fun _ _ _ h => h) (Or.inl ⟨?_, ?_⟩) (by assumption) ?_
            rotate_left 2
            · simp only [List.getElem?_toArray, List.getElem?_cons_succ, List.getElem?_cons_zero]; rfl
            · rfl
            · intro w hSw; (try dsimp only at hSw); go_simp <;> with_reducible rfl
            (try simp only [Act.put, List.setIfInBounds_toArray, List.set_cons_zero, List.set_cons_succ])
            refine PX.wpAnyX_take (i := 26) (oi := ?_) (v := ?_) ?_ (by kernel_rfl) (by kernel_rfl) (by kernel_rfl) (by kernel_rfl) (by kernel_rfl) (fun _ _ _ h => h) (Or.inl ⟨?_, ?_⟩) (by assumption) ?_
            rotate_left 2
            · simp only [List.getElem?_toArray, List.getElem?_cons_succ, List.getElem?_cons_zero]; rfl
            · rfl
            · intro w hSw; (try dsimp only at hSw); go_simp <;> with_reducible rfl
            (try simp only [Act.put, List.setIfInBounds_toArray, List.set_cons_zero, List.set_cons_succ])
            refine PX.wpAnyX_take (i := 27) (oi := ?_) (v := ?_) ?_ (by kernel_rfl) (by kernel_rfl) (by kernel_rfl) (by kernel_rfl) (by kernel_rfl) (fun _ _ _ h => h) (Or.inl ⟨?_, ?_⟩) (by assumption) ?_
            rotate_left 2
            · simp only [List.getElem?_toArray, List.getElem?_cons_succ, List.getElem?_cons_zero]; rfl
            · rfl
            · intro w hSw; (try dsimp only at hSw); go_simp <;> with_reducible rfl
            (try simp only [Act.put, List.setIfInBounds_toArray, List.set_cons_zero, List.set_cons_succ])
            refine PX.wpAnyX_one (i := 20) (o := ?_) (by kernel_rfl) ?_ (fun Kq hKq => ?_)
            rotate_left
            · simp only [List.getElem?_toArray, List.getElem?_cons_succ, List.getElem?_cons_zero]; rfl
            go_simp
            refine CL1.out.mono ?_
            rintro e w5 ⟨p1, q1, r1, rfl, it1, b5⟩
            have T5 := text_is w5 _ _ _ _ it1.rd
            have B5 := Lib.hid b5
            have I1 := Lib.hid it1
            have HS5 : Hid (w5.cell? ⟨w.heap.size, 1, none⟩ = some (.slice (some ⟨b1, off1, none⟩) n' c') ∧ w5.cell? ⟨w.heap.size + 1, 1, none⟩ = some (.slice (some ⟨b2, off2, none⟩) n' d') ∧ (w5.cell? ⟨b1, off1 + k * 2, none⟩ = some (.int .i64 z1) ∧ w5.cell? ⟨b1, off1 + k * 2 + 1, none⟩ = some (.slice xa xlen xcap)) ∧ (w5.cell? ⟨b2, off2 + k * 2, none⟩ = some (.int .i64 z1) ∧ w5.cell? ⟨b2, off2 + k * 2 + 1, none⟩ = some (.slice ya ylen ycap))) := ⟨(HXA.out.drew.here B5.out).three.2.1, (HXB.out.drew.here B5.out).three.2.1, KC1.out _ B5.out, KC2.out _ B5.out⟩
            clear b5 it1
            go_wp2_with fail
            refine hKq.out _ _ (HS5.out) (fun hHeld => ?_)
            clear hKq Kq
            (try simp only [Act.put, List.setIfInBounds_toArray, List.set_cons_zero, List.set_cons_succ])
            refine PX.wpAnyX_two (i := 21) (j := 28) (o := ?_) (o' := ?_) (by kernel_rfl) ?_ ?_ (fun Kq hKq => ?_) (fun Kq hKq => ?_)
            rotate_left 2
            · simp only [List.getElem?_toArray, List.getElem?_cons_succ, List.getElem?_cons_zero]; rfl
            · simp only [List.getElem?_toArray, List.getElem?_cons_succ, List.getElem?_cons_zero]; rfl
            · go_simp
              refine hKq.out _ _ (HS5.out) (fun hHeld => ?_)
              clear hKq Kq
              (try simp only [Act.put, List.setIfInBounds_toArray, List.set_cons_zero, List.set_cons_succ])
              refine PX.wpAnyX_one (i := 28) (o := ?_) (by kernel_rfl) ?_ (fun Kq hKq => ?_)
              rotate_left
              · simp only [List.getElem?_toArray, List.getElem?_cons_succ, List.getElem?_cons_zero]; rfl
              go_simp
              refine (CL2.out _ (by exact B5.out)).mono ?_
              rintro e w7 ⟨p2, q2, r2, rfl, it2, b7⟩
              have T7 := text_is w7 _ _ _ _ (I1.out.here b7).rd
              have T8 := text_is w7 _ _ _ _ it2.rd
              have B7 := Lib.hid (thence B5.out b7 (Nat.le_refl _))
              have HS7 : Hid (w7.cell? ⟨w.heap.size, 1, none⟩ = some (.slice (some ⟨b1, off1, none⟩) n' c') ∧ w7.cell? ⟨w.heap.size + 1, 1, none⟩ = some (.slice (some ⟨b2, off2, none⟩) n' d') ∧ (w7.cell? ⟨b1, off1 + k * 2, none⟩ = some (.int .i64 z1) ∧ w7.cell? ⟨b1, off1 + k * 2 + 1, none⟩ = some (.slice xa xlen xcap)) ∧ (w7.cell? ⟨b2, off2 + k * 2, none⟩ = some (.int .i64 z1) ∧ w7.cell? ⟨b2, off2 + k * 2 + 1, none⟩ = some (.slice ya ylen ycap))) := ⟨(HXA.out.drew.here B7.out).three.2.1, (HXB.out.drew.here B7.out).three.2.1, KC1.out _ B7.out, KC2.out _ B7.out⟩
              clear b7 it2
              go_wp2_with fail
              refine hKq.out _ _ (HS7.out) (fun hHeld => ?_)
              clear hKq Kq
              (try simp only [Act.put, List.setIfInBounds_toArray, List.set_cons_zero, List.set_cons_succ])
              refine PX.wpAnyX_one (i := 29) (o := ?_) (by kernel_rfl) ?_ (fun Kq hKq => ?_)
              rotate_left
              · simp only [List.getElem?_toArray, List.getElem?_cons_succ, List.getElem?_cons_zero]; rfl
              go_simp
              refine hKq.out _ _ (HS7.out) (fun hHeld => ?_)
              clear hKq Kq
              (try simp only [Act.put, List.setIfInBounds_toArray, List.set_cons_zero, List.set_cons_succ])
              refine PX.wpAnyX_one (i := 30) (o := ?_) (by kernel_rfl) ?_ (fun Kq hKq => ?_)
              rotate_left
              · simp only [List.getElem?_toArray, List.getElem?_cons_succ, List.getElem?_cons_zero]; rfl
              go_simp
              refine hKq.out _ _ (HS7.out) (fun hHeld => ?_)
              clear hKq Kq
              (try simp only [Act.put, List.setIfInBounds_toArray, List.set_cons_zero, List.set_cons_succ])
              refine PX.wpAnyX_last (o := ?_) (by kernel_rfl) ?_ (fun Kq hKq => ?_)
              rotate_left
              · simp only [List.getElem?_toArray, List.getElem?_cons_succ, List.getElem?_cons_zero]; rfl
              go_simp
              refine hKq.out _ _ ?_
              clear hKq Kq
              (try simp only [Act.put, List.setIfInBounds_toArray, List.set_cons_zero, List.set_cons_succ])
              refine PX.wpAnyX_done (by kernel_rfl) ?_ _
              refine NoPanic.normal ?_
              go_wp2_with fail
              go_roundw
              case rel =>
                refine ⟨k + 1, by have := Hk.out; omega, by go_num, fun j hj => ?_, thence KB2.out.drew B7.out (Nat.le_refl _)⟩
                rcases Nat.lt_or_ge j k with h | h
                · exact HG2.out j h
                · obtain rfl : j = k := by omega
                  rw [EX.out, EY.out, fw_eq]; exact ⟨rfl, by rw [HSX.out]; exact HE.out⟩
              case measure => have := Hk.out; simp [intOf]; omega
            · go_simp
              refine (CL2.out _ (by exact B5.out)).mono ?_
              rintro e w7 ⟨p2, q2, r2, rfl, it2, b7⟩
              have T7 := text_is w7 _ _ _ _ (I1.out.here b7).rd
              have T8 := text_is w7 _ _ _ _ it2.rd
              have B7 := Lib.hid (thence B5.out b7 (Nat.le_refl _))
              have HS7 : Hid (w7.cell? ⟨w.heap.size, 1, none⟩ = some (.slice (some ⟨b1, off1, none⟩) n' c') ∧ w7.cell? ⟨w.heap.size + 1, 1, none⟩ = some (.slice (some ⟨b2, off2, none⟩) n' d') ∧ (w7.cell? ⟨b1, off1 + k * 2, none⟩ = some (.int .i64 z1) ∧ w7.cell? ⟨b1, off1 + k * 2 + 1, none⟩ = some (.slice xa xlen xcap)) ∧ (w7.cell? ⟨b2, off2 + k * 2, none⟩ = some (.int .i64 z1) ∧ w7.cell? ⟨b2, off2 + k * 2 + 1, none⟩ = some (.slice ya ylen ycap))) := ⟨(HXA.out.drew.here B7.out).three.2.1, (HXB.out.drew.here B7.out).three.2.1, KC1.out _ B7.out, KC2.out _ B7.out⟩
              clear b7 it2
              go_wp2_with fail
              refine hKq.out _ _ (HS7.out) (fun hHeld => ?_)
              clear hKq Kq
              (try simp only [Act.put, List.setIfInBounds_toArray, List.set_cons_zero, List.set_cons_succ])
              refine PX.wpAnyX_two (i := 21) (j := 29) (o := ?_) (o' := ?_) (by kernel_rfl) ?_ ?_ (fun Kq hKq => ?_) (fun Kq hKq => ?_)
              rotate_left 2
              · simp only [List.getElem?_toArray, List.getElem?_cons_succ, List.getElem?_cons_zero]; rfl
              · simp only [List.getElem?_toArray, List.getElem?_cons_succ, List.getElem?_cons_zero]; rfl
              · go_simp
                refine hKq.out _ _ (HS7.out) (fun hHeld => ?_)
                clear hKq Kq
                (try simp only [Act.put, List.setIfInBounds_toArray, List.set_cons_zero, List.set_cons_succ])
                refine PX.wpAnyX_one (i := 29) (o := ?_) (by kernel_rfl) ?_ (fun Kq hKq => ?_)
                rotate_left
                · simp only [List.getElem?_toArray, List.getElem?_cons_succ, List.getElem?_cons_zero]; rfl
                go_simp
                refine hKq.out _ _ (HS7.out) (fun hHeld => ?_)
                clear hKq Kq
                (try simp only [Act.put, List.setIfInBounds_toArray, List.set_cons_zero, List.set_cons_succ])
                refine PX.wpAnyX_one (i := 30) (o := ?_) (by kernel_rfl) ?_ (fun Kq hKq => ?_)
                rotate_left
                · simp only [List.getElem?_toArray, List.getElem?_cons_succ, List.getElem?_cons_zero]; rfl
                go_simp
                refine hKq.out _ _ (HS7.out) (fun hHeld => ?_)
                clear hKq Kq
                (try simp only [Act.put, List.setIfInBounds_toArray, List.set_cons_zero, List.set_cons_succ])
                refine PX.wpAnyX_last (o := ?_) (by kernel_rfl) ?_ (fun Kq hKq => ?_)
                rotate_left
                · simp only [List.getElem?_toArray, List.getElem?_cons_succ, List.getElem?_cons_zero]; rfl
                go_simp
                refine hKq.out _ _ ?_
                clear hKq Kq
                (try simp only [Act.put, List.setIfInBounds_toArray, List.set_cons_zero, List.set_cons_succ])
                refine PX.wpAnyX_done (by kernel_rfl) ?_ _
                refine NoPanic.normal ?_
                go_wp2_with fail
                go_roundw
                case rel =>
                  refine ⟨k + 1, by have := Hk.out; omega, by go_num, fun j hj => ?_, thence KB2.out.drew B7.out (Nat.le_refl _)⟩
                  rcases Nat.lt_or_ge j k with h | h
                  · exact HG2.out j h
                  · obtain rfl : j = k := by omega
                    rw [EX.out, EY.out, fw_eq]; exact ⟨rfl, by rw [HSX.out]; exact HE.out⟩
                case measure => have := Hk.out; simp [intOf]; omega
              · go_simp
                refine hKq.out _ _ (HS7.out) (fun hHeld => ?_)
                clear hKq Kq
                (try simp only [Act.put, List.setIfInBounds_toArray, List.set_cons_zero, List.set_cons_succ])
                refine PX.wpAnyX_one (i := 21) (o := ?_) (by kernel_rfl) ?_ (fun Kq hKq => ?_)
                rotate_left
                · simp only [List.getElem?_toArray, List.getElem?_cons_succ, List.getElem?_cons_zero]; rfl
                go_simp
                refine hKq.out _ _ (HS7.out) (fun hHeld => ?_)
                clear hKq Kq
                (try simp only [Act.put, List.setIfInBounds_toArray, List.set_cons_zero, List.set_cons_succ])
                refine PX.wpAnyX_one (i := 30) (o := ?_) (by kernel_rfl) ?_ (fun Kq hKq => ?_)
                rotate_left
                · simp only [List.getElem?_toArray, List.getElem?_cons_succ, List.getElem?_cons_zero]; rfl
                go_simp
                refine hKq.out _ _ (HS7.out) (fun hHeld => ?_)
                clear hKq Kq
                (try simp only [Act.put, List.setIfInBounds_toArray, List.set_cons_zero, List.set_cons_succ])
                refine PX.wpAnyX_last (o := ?_) (by kernel_rfl) ?_ (fun Kq hKq => ?_)
                rotate_left
                · simp only [List.getElem?_toArray, List.getElem?_cons_succ, List.getElem?_cons_zero]; rfl
                go_simp
                refine hKq.out _ _ ?_
                clear hKq Kq
                (try simp only [Act.put, List.setIfInBounds_toArray, List.set_cons_zero, List.set_cons_succ])
                refine PX.wpAnyX_done (by kernel_rfl) ?_ _
                refine NoPanic.normal ?_
                go_wp2_with fail
                go_roundw
                case rel =>
                  refine ⟨k + 1, by have := Hk.out; omega, by go_num, fun j hj => ?_, thence KB2.out.drew B7.out (Nat.le_refl _)⟩
                  rcases Nat.lt_or_ge j k with h | h
                  · exact HG2.out j h
                  · obtain rfl : j = k := by omega
                    rw [EX.out, EY.out, fw_eq]; exact ⟨rfl, by rw [HSX.out]; exact HE.out⟩
                case measure => have := Hk.out; simp [intOf]; omega
          · have hss := str_ne bx byy he
            have hss' : ((str (DK.fl xl)).toList != (str (DK.fl yl)).toList) = true := by rw [bne, hss]; rfl
            have HE := Lib.hid he
            clear he bx byy
            generalize hsx : DK.fl xl = fx at *
            generalize hsy : DK.fl yl = fy at *
            have HSX := Lib.hid hsx
            have HSY := Lib.hid hsy
            clear hsx hsy
            go_wp2_with fail
            refine wp_region_noPanic ?_
            refine PX.wp_region_x (fun w' => w'.cell? ⟨w.heap.size, 1, none⟩ = some (.slice (some ⟨b1, off1, none⟩) n' c') ∧ w'.cell? ⟨w.heap.size + 1, 1, none⟩ = some (.slice (some ⟨b2, off2, none⟩) n' d') ∧ (w'.cell? ⟨b1, off1 + k * 2, none⟩ = some (.int .i64 z1) ∧ w'.cell? ⟨b1, off1 + k * 2 + 1, none⟩ = some (.slice xa xlen xcap)) ∧ (w'.cell? ⟨b2, off2 + k * 2, none⟩ = some (.int .i64 z1) ∧ w'.cell? ⟨b2, off2 + k * 2 + 1, none⟩ = some (.slice ya ylen ycap))) 31 (by kernel_rfl) ⟨A1, C1, ⟨c1, c1'⟩, c2, c2'⟩ (fun hHeld => ?_)
            refine PX.wpAnyX_take (i := 0) (oi := ?_) (v := ?_) ?_ (by kernel_rfl) (by kernel_rfl) (by kernel_rfl) (by kernel_rfl) (by kernel_rfl) (fun _ _ _ h => h) (Or.inl ⟨?_, ?_⟩) (by assumption) ?_
            rotate_left 2
            · simp only [List.getElem?_toArray, List.getElem?_cons_succ, List.getElem?_cons_zero]; rfl
            · rfl
            · intro w hSw; (try dsimp only at hSw); go_simp <;> with_reducible rfl
            (try simp only [Act.put, List.setIfInBounds_toArray, List.set_cons_zero, List.set_cons_succ])
            refine PX.wpAnyX_take (i := 1) (oi := ?_) (v := ?_) ?_ (by kernel_rfl) (by kernel_rfl) (by kernel_rfl) (by kernel_rfl) (by kernel_rfl) (fun _ _ _ h => h) (Or.inl ⟨?_, ?_⟩) (by assumption) ?_
            rotate_left 2
            · simp only [List.getElem?_toArray, List.getElem?_cons_succ, List.getElem?_cons_zero]; rfl
            · rfl
            · intro w hSw; (try dsimp only at hSw); go_simp <;> with_reducible rfl
            (try simp only [Act.put, List.setIfInBounds_toArray, List.set_cons_zero, List.set_cons_succ])
            refine PX.wpAnyX_take (i := 2) (oi := ?_) (v := ?_) ?_ (by kernel_rfl) (by kernel_rfl) (by kernel_rfl) (by kernel_rfl) (by kernel_rfl) (fun _ _ _ h => h) (Or.inl ⟨?_, ?_⟩) (by assumption) ?_
            rotate_left 2
            · simp only [List.getElem?_toArray, List.getElem?_cons_succ, List.getElem?_cons_zero]; rfl
            · rfl
            · intro w hSw; (try dsimp only at hSw); go_simp <;> with_reducible rfl
            (try simp only [Act.put, List.setIfInBounds_toArray, List.set_cons_zero, List.set_cons_succ])
            refine PX.wpAnyX_take (i := 3) (oi := ?_) (v := ?_) ?_ (by kernel_rfl) (by kernel_rfl) (by kernel_rfl) (by kernel_rfl) (by kernel_rfl) (fun _ _ _ h => h) (Or.inl ⟨?_, ?_⟩) (by assumption) ?_
            rotate_left 2
            · simp only [List.getElem?_toArray, List.getElem?_cons_succ, List.getElem?_cons_zero]; rfl
            · rfl
            · intro w hSw; (try dsimp only at hSw); go_simp <;> with_reducible rfl
            (try simp only [Act.put, List.setIfInBounds_toArray, List.set_cons_zero, List.set_cons_succ])
            refine PX.wpAnyX_take (i := 4) (oi := ?_) (v := ?_) ?_ (by kernel_rfl) (by kernel_rfl) (by kernel_rfl) (by kernel_rfl) (by kernel_rfl) (fun _ _ _ h => h) (Or.inl ⟨?_, ?_⟩) (by assumption) ?_
            rotate_left 2
            · simp only [List.getElem?_toArray, List.getElem?_cons_succ, List.getElem?_cons_zero]; rfl
            · rfl
            · intro w hSw; (try dsimp only at hSw); go_simp <;> with_reducible rfl
            (try simp only [Act.put, List.setIfInBounds_toArray, List.set_cons_zero, List.set_cons_succ])
            refine PX.wpAnyX_take (i := 5) (oi := ?_) (v := ?_) ?_ (by kernel_rfl) (by kernel_rfl) (by kernel_rfl) (by kernel_rfl) (by kernel_rfl) (fun _ _ _ h => h) (Or.inl ⟨?_, ?_⟩) (by assumption) ?_
            rotate_left 2
            · simp only [List.getElem?_toArray, List.getElem?_cons_succ, List.getElem?_cons_zero]; rfl
            · rfl
            · intro w hSw; (try dsimp only at hSw); go_simp <;> with_reducible rfl
            (try simp only [Act.put, List.setIfInBounds_toArray, List.set_cons_zero, List.set_cons_succ])
            refine PX.wpAnyX_take (i := 6) (oi := ?_) (v := ?_) ?_ (by kernel_rfl) (by kernel_rfl) (by kernel_rfl) (by kernel_rfl) (by kernel_rfl) (fun _ _ _ h => h) (Or.inl ⟨?_, ?_⟩) (by assumption) ?_
            rotate_left 2
            · simp only [List.getElem?_toArray, List.getElem?_cons_succ, List.getElem?_cons_zero]; rfl
            · rfl
            · intro w hSw; (try dsimp only at hSw); go_simp <;> with_reducible rfl
            (try simp only [Act.put, List.setIfInBounds_toArray, List.set_cons_zero, List.set_cons_succ])
            refine PX.wpAnyX_take (i := 7) (oi := ?_) (v := ?_) ?_ (by kernel_rfl) (by kernel_rfl) (by kernel_rfl) (by kernel_rfl) (by kernel_rfl) (fun _ _ _ h => h) (Or.inl ⟨?_, ?_⟩) (by assumption) ?_
            rotate_left 2
            · simp only [List.getElem?_toArray, List.getElem?_cons_succ, List.getElem?_cons_zero]; rfl
            · rfl
            · intro w hSw; (try dsimp only at hSw); go_simp <;> with_reducible rfl
            (try simp only [Act.put, List.setIfInBounds_toArray, List.set_cons_zero, List.set_cons_succ])
            refine PX.wpAnyX_take (i := 8) (oi := ?_) (v := ?_) ?_ (by kernel_rfl) (by kernel_rfl) (by kernel_rfl) (by kernel_rfl) (by kernel_rfl) (fun _ _ _ h => h) (Or.inl ⟨?_, ?_⟩) (by assumption) ?_
            rotate_left 2
            · simp only [List.getElem?_toArray, List.getElem?_cons_succ, List.getElem?_cons_zero]; rfl
            · rfl
            · intro w hSw; (try dsimp only at hSw); go_simp <;> with_reducible rfl
            (try simp only [Act.put, List.setIfInBounds_toArray, List.set_cons_zero, List.set_cons_succ])
            refine PX.wpAnyX_take (i := 9) (oi := ?_) (v := ?_) ?_ (by kernel_rfl) (by kernel_rfl) (by kernel_rfl) (by kernel_rfl) (by kernel_rfl) (fun _ _ _ h => h) (Or.inl ⟨?_, ?_⟩) (by assumption) ?_
            rotate_left 2
            · simp only [List.getElem?_toArray, List.getElem?_cons_succ, List.getElem?_cons_zero]; rfl
            · rfl
            · intro w hSw; (try dsimp only at hSw); go_simp <;> with_reducible rfl
            (try simp only [Act.put, List.setIfInBounds_toArray, List.set_cons_zero, List.set_cons_succ])
            refine PX.wpAnyX_take (i := 10) (oi := ?_) (v := ?_) ?_ (by kernel_rfl) (by kernel_rfl) (by kernel_rfl) (by kernel_rfl) (by kernel_rfl) (fun _ _ _ h => h) (Or.inl ⟨?_, ?_⟩) (by assumption) ?_
            rotate_left 2
            · simp only [List.getElem?_toArray, List.getElem?_cons_succ, List.getElem?_cons_zero]; rfl
            · rfl
            · intro w hSw; (try dsimp only at hSw); go_simp <;> with_reducible rfl
            (try simp only [Act.put, List.setIfInBounds_toArray, List.set_cons_zero, List.set_cons_succ])
            refine PX.wpAnyX_take (i := 11) (oi := ?_) (v := ?_) ?_ (by kernel_rfl) (by kernel_rfl) (by kernel_rfl) (by kernel_rfl) (by kernel_rfl) (fun _ _ _ h => h) (Or.inl ⟨?_, ?_⟩) (by assumption) ?_
            rotate_left 2
            · simp only [List.getElem?_toArray, List.getElem?_cons_succ, List.getElem?_cons_zero]; rfl
            · rfl
            · intro w hSw; (try dsimp only at hSw); go_simp <;> with_reducible rfl
            (try simp only [Act.put, List.setIfInBounds_toArray, List.set_cons_zero, List.set_cons_succ])
            refine PX.wpAnyX_take (i := 12) (oi := ?_) (v := ?_) ?_ (by kernel_rfl) (by kernel_rfl) (by kernel_rfl) (by kernel_rfl) (by kernel_rfl) (fun _ _ _ h => h) (Or.inl ⟨?_, ?_⟩) (by assumption) ?_
            rotate_left 2
            · simp only [List.getElem?_toArray, List.getElem?_cons_succ, List.getElem?_cons_zero]; rfl
            · rfl
            · intro w hSw; (try dsimp only at hSw); go_simp <;> with_reducible rfl
            (try simp only [Act.put, List.setIfInBounds_toArray, List.set_cons_zero, List.set_cons_succ])
            refine PX.wpAnyX_take (i := 13) (oi := ?_) (v := ?_) ?_ (by kernel_rfl) (by kernel_rfl) (by kernel_rfl) (by kernel_rfl) (by kernel_rfl) (fun _ _ _ h => h) (Or.inl ⟨?_, ?_⟩) (by assumption) ?_
            rotate_left 2
            · simp only [List.getElem?_toArray, List.getElem?_cons_succ, List.getElem?_cons_zero]; rfl
            · rfl
            · intro w hSw; (try dsimp only at hSw); go_simp <;> with_reducible rfl
            (try simp only [Act.put, List.setIfInBounds_toArray, List.set_cons_zero, List.set_cons_succ])
            refine PX.wpAnyX_take (i := 14) (oi := ?_) (v := ?_) ?_ (by kernel_rfl) (by kernel_rfl) (by kernel_rfl) (by kernel_rfl) (by kernel_rfl) (fun _ _ _ h => h) (Or.inl ⟨?_, ?_⟩) (by assumption) ?_
            rotate_left 2
            · simp only [List.getElem?_toArray, List.getElem?_cons_succ, List.getElem?_cons_zero]; rfl
            · rfl
            · intro w hSw; (try dsimp only at hSw); go_simp <;> with_reducible rfl
            (try simp only [Act.put, List.setIfInBounds_toArray, List.set_cons_zero, List.set_cons_succ])
            refine PX.wpAnyX_take (i := 15) (oi := ?_) (v := ?_) ?_ (by kernel_rfl) (by kernel_rfl) (by kernel_rfl) (by kernel_rfl) (by kernel_rfl) (fun _ _ _ h => h) (Or.inl ⟨?_, ?_⟩) (by assumption) ?_
            rotate_left 2
            · simp only [List.getElem?_toArray, List.getElem?_cons_succ, List.getElem?_cons_zero]; rfl
            · rfl
            · intro w hSw; (try dsimp only at hSw); go_simp <;> with_reducible rfl
            (try simp only [Act.put, List.setIfInBounds_toArray, List.set_cons_zero, List.set_cons_succ])
            refine PX.wpAnyX_take (i := 16) (oi := ?_) (v := ?_) ?_ (by kernel_rfl) (by kernel_rfl) (by kernel_rfl) (by kernel_rfl) (by kernel_rfl) (fun _ _ _ h => h) (Or.inl ⟨?_, ?_⟩) (by assumption) ?_
            rotate_left 2
            · simp only [List.getElem?_toArray, List.getElem?_cons_succ, List.getElem?_cons_zero]; rfl
            · rfl
            · intro w hSw; (try dsimp only at hSw); go_simp <;> with_reducible rfl
            (try simp only [Act.put, List.setIfInBounds_toArray, List.set_cons_zero, List.set_cons_succ])
            refine PX.wpAnyX_take (i := 17) (oi := ?_) (v := ?_) ?_ (by kernel_rfl) (by kernel_rfl) (by kernel_rfl) (by kernel_rfl) (by kernel_rfl) (fun _ _ _ h => h) (Or.inl ⟨?_, ?_⟩) (by assumption) ?_
            rotate_left 2
            · simp only [List.getElem?_toArray, List.getElem?_cons_succ, List.getElem?_cons_zero]; rfl
            · rfl
            · intro w hSw; (try dsimp only at hSw); go_simp <;> with_reducible rfl
            (try simp only [Act.put, List.setIfInBounds_toArray, List.set_cons_zero, List.set_cons_succ])
            refine PX.wpAnyX_take (i := 18) (oi := ?_) (v := ?_) ?_ (by kernel_rfl) (by kernel_rfl) (by kernel_rfl) (by kernel_rfl) (by kernel_rfl) (fun _ _ _ h => h) (Or.inl ⟨?_, ?_⟩) (by assumption) ?_
            rotate_left 2
            · simp only [List.getElem?_toArray, List.getElem?_cons_succ, List.getElem?_cons_zero]; rfl
            · rfl
            · intro w hSw; (try dsimp only at hSw); go_simp <;> with_reducible rfl
            (try simp only [Act.put, List.setIfInBounds_toArray, List.set_cons_zero, List.set_cons_succ])
            refine PX.wpAnyX_take (i := 19) (oi := ?_) (v := ?_) ?_ (by kernel_rfl) (by kernel_rfl) (by kernel_rfl) (by kernel_rfl) (by kernel_rfl) (fun _ _ _ h => h) (Or.inl ⟨?_, ?_⟩) (by assumption) ?_
            rotate_left 2
            · simp only [List.getElem?_toArray, List.getElem?_cons_succ, List.getElem?_cons_zero]; rfl
            · rfl
            · intro w hSw; (try dsimp only at hSw); go_simp <;> with_reducible rfl
            (try simp only [Act.put, List.setIfInBounds_toArray, List.set_cons_zero, List.set_cons_succ])
            refine PX.wpAnyX_take (i := 22) (oi := ?_) (v := ?_) ?_ (by kernel_rfl) (by kernel_rfl) (by kernel_rfl) (by kernel_rfl) (by kernel_rfl) (fun _ _ _ h => h) (Or.inl ⟨?_, ?_⟩) (by assumption) ?_
            rotate_left 2
            · simp only [List.getElem?_toArray, List.getElem?_cons_succ, List.getElem?_cons_zero]; rfl
            · rfl
            · intro w hSw; (try dsimp only at hSw); go_simp <;> with_reducible rfl
            (try simp only [Act.put, List.setIfInBounds_toArray, List.set_cons_zero, List.set_cons_succ])
            refine PX.wpAnyX_take (i := 23) (oi := ?_) (v := ?_) ?_ (by kernel_rfl) (by kernel_rfl) (by kernel_rfl) (by kernel_rfl) (by kernel_rfl) (fun _ _ _ h => h) (Or.inl ⟨?_, ?_⟩) (by assumption) ?_
            rotate_left 2
            · simp only [List.getElem?_toArray, List.getElem?_cons_succ, List.getElem?_cons_zero]; rfl
            · rfl
            · intro w hSw; (try dsimp only at hSw); go_simp <;> with_reducible rfl
            (try simp only [Act.put, List.setIfInBounds_toArray, List.set_cons_zero, List.set_cons_succ])
            refine PX.wpAnyX_take (i := 24) (oi := ?_) (v := ?_) ?_ (by kernel_rfl) (by kernel_rfl) (by kernel_rfl) (by kernel_rfl) (by kernel_rfl) (fun _ _ _ h => h) (Or.inl ⟨?_, ?_⟩) (by assumption) ?_
            rotate_left 2
            · simp only [List.getElem?_toArray, List.getElem?_cons_succ, List.getElem?_cons_zero]; rfl
            · rfl
            · intro w hSw; (try dsimp only at hSw); go_simp <;> with_reducible rfl
            (try simp only [Act.put, List.setIfInBounds_toArray, List.set_cons_zero, List.set_cons_succ])
            refine PX.wpAnyX_take (i := 25) (oi := ?_) (v := ?_) ?_ (by kernel_rfl) (by kernel_rfl) (by kernel_rfl) (by kernel_rfl) (by kernel_rfl) (fun _ _ _ h => h) (Or.inl ⟨?_, ?_⟩) (by assumption) ?_
            rotate_left 2
            · simp only [List.getElem?_toArray, List.getElem?_cons_succ, List.getElem?_cons_zero]; rfl
            · rfl
            · intro w hSw; (try dsimp only at hSw); go_simp <;> with_reducible rfl
            (try simp only [Act.put, List.setIfInBounds_toArray, List.set_cons_zero, List.set_cons_succ])
            refine PX.wpAnyX_take (i := 26) (oi := ?_) (v := ?_) ?_ (by kernel_rfl) (by kernel_rfl) (by kernel_rfl) (by kernel_rfl) (by kernel_rfl) (fun _ _ _ h => h) (Or.inl ⟨?_, ?_⟩) (by assumption) ?_
            rotate_left 2
            · simp only [List.getElem?_toArray, List.getElem?_cons_succ, List.getElem?_cons_zero]; rfl
            · rfl
            · intro w hSw; (try dsimp only at hSw); go_simp <;> with_reducible rfl
            (try simp only [Act.put, List.setIfInBounds_toArray, List.set_cons_zero, List.set_cons_succ])
            refine PX.wpAnyX_take (i := 27) (oi := ?_) (v := ?_) ?_ (by kernel_rfl) (by kernel_rfl) (by kernel_rfl) (by kernel_rfl) (by kernel_rfl) (fun _ _ _ h => h) (Or.inl ⟨?_, ?_⟩) (by assumption) ?_
            rotate_left 2
            · simp only [List.getElem?_toArray, List.getElem?_cons_succ, List.getElem?_cons_zero]; rfl
            · rfl
            · intro w hSw; (try dsimp only at hSw); go_simp <;> with_reducible rfl
            (try simp only [Act.put, List.setIfInBounds_toArray, List.set_cons_zero, List.set_cons_succ])
            refine PX.wpAnyX_one (i := 20) (o := ?_) (by kernel_rfl) ?_ (fun Kq hKq => ?_)
            rotate_left
            · simp only [List.getElem?_toArray, List.getElem?_cons_succ, List.getElem?_cons_zero]; rfl
            go_simp
            refine CL1.out.mono ?_
            rintro e w5 ⟨p1, q1, r1, rfl, it1, b5⟩
            have T5 := text_is w5 _ _ _ _ it1.rd
            have B5 := Lib.hid b5
            have I1 := Lib.hid it1
            have HS5 : Hid (w5.cell? ⟨w.heap.size, 1, none⟩ = some (.slice (some ⟨b1, off1, none⟩) n' c') ∧ w5.cell? ⟨w.heap.size + 1, 1, none⟩ = some (.slice (some ⟨b2, off2, none⟩) n' d') ∧ (w5.cell? ⟨b1, off1 + k * 2, none⟩ = some (.int .i64 z1) ∧ w5.cell? ⟨b1, off1 + k * 2 + 1, none⟩ = some (.slice xa xlen xcap)) ∧ (w5.cell? ⟨b2, off2 + k * 2, none⟩ = some (.int .i64 z1) ∧ w5.cell? ⟨b2, off2 + k * 2 + 1, none⟩ = some (.slice ya ylen ycap))) := ⟨(HXA.out.drew.here B5.out).three.2.1, (HXB.out.drew.here B5.out).three.2.1, KC1.out _ B5.out, KC2.out _ B5.out⟩
            clear b5 it1
            go_wp2_with fail
            refine hKq.out _ _ (HS5.out) (fun hHeld => ?_)
            clear hKq Kq
            (try simp only [Act.put, List.setIfInBounds_toArray, List.set_cons_zero, List.set_cons_succ])
            refine PX.wpAnyX_two (i := 21) (j := 28) (o := ?_) (o' := ?_) (by kernel_rfl) ?_ ?_ (fun Kq hKq => ?_) (fun Kq hKq => ?_)
            rotate_left 2
            · simp only [List.getElem?_toArray, List.getElem?_cons_succ, List.getElem?_cons_zero]; rfl
            · simp only [List.getElem?_toArray, List.getElem?_cons_succ, List.getElem?_cons_zero]; rfl
            · go_simp
              refine hKq.out _ _ (HS5.out) (fun hHeld => ?_)
              clear hKq Kq
              (try simp only [Act.put, List.setIfInBounds_toArray, List.set_cons_zero, List.set_cons_succ])
              refine PX.wpAnyX_one (i := 28) (o := ?_) (by kernel_rfl) ?_ (fun Kq hKq => ?_)
              rotate_left
              · simp only [List.getElem?_toArray, List.getElem?_cons_succ, List.getElem?_cons_zero]; rfl
              go_simp
              refine (CL2.out _ (by exact B5.out)).mono ?_
              rintro e w7 ⟨p2, q2, r2, rfl, it2, b7⟩
              have T7 := text_is w7 _ _ _ _ (I1.out.here b7).rd
              have T8 := text_is w7 _ _ _ _ it2.rd
              have B7 := Lib.hid (thence B5.out b7 (Nat.le_refl _))
              have HS7 : Hid (w7.cell? ⟨w.heap.size, 1, none⟩ = some (.slice (some ⟨b1, off1, none⟩) n' c') ∧ w7.cell? ⟨w.heap.size + 1, 1, none⟩ = some (.slice (some ⟨b2, off2, none⟩) n' d') ∧ (w7.cell? ⟨b1, off1 + k * 2, none⟩ = some (.int .i64 z1) ∧ w7.cell? ⟨b1, off1 + k * 2 + 1, none⟩ = some (.slice xa xlen xcap)) ∧ (w7.cell? ⟨b2, off2 + k * 2, none⟩ = some (.int .i64 z1) ∧ w7.cell? ⟨b2, off2 + k * 2 + 1, none⟩ = some (.slice ya ylen ycap))) := ⟨(HXA.out.drew.here B7.out).three.2.1, (HXB.out.drew.here B7.out).three.2.1, KC1.out _ B7.out, KC2.out _ B7.out⟩
              clear b7 it2
              go_wp2_with fail
              refine hKq.out _ _ (HS7.out) (fun hHeld => ?_)
              clear hKq Kq
              (try simp only [Act.put, List.setIfInBounds_toArray, List.set_cons_zero, List.set_cons_succ])
              refine PX.wpAnyX_one (i := 29) (o := ?_) (by kernel_rfl) ?_ (fun Kq hKq => ?_)
              rotate_left
              · simp only [List.getElem?_toArray, List.getElem?_cons_succ, List.getElem?_cons_zero]; rfl
              go_simp
              refine hKq.out _ _ (HS7.out) (fun hHeld => ?_)
              clear hKq Kq
              (try simp only [Act.put, List.setIfInBounds_toArray, List.set_cons_zero, List.set_cons_succ])
              refine PX.wpAnyX_one (i := 30) (o := ?_) (by kernel_rfl) ?_ (fun Kq hKq => ?_)
              rotate_left
              · simp only [List.getElem?_toArray, List.getElem?_cons_succ, List.getElem?_cons_zero]; rfl
              go_simp
              refine hKq.out _ _ (HS7.out) (fun hHeld => ?_)
              clear hKq Kq
              (try simp only [Act.put, List.setIfInBounds_toArray, List.set_cons_zero, List.set_cons_succ])
              refine PX.wpAnyX_last (o := ?_) (by kernel_rfl) ?_ (fun Kq hKq => ?_)
              rotate_left
              · simp only [List.getElem?_toArray, List.getElem?_cons_succ, List.getElem?_cons_zero]; rfl
              go_simp
              refine hKq.out _ _ ?_
              clear hKq Kq
              (try simp only [Act.put, List.setIfInBounds_toArray, List.set_cons_zero, List.set_cons_succ])
              refine PX.wpAnyX_done (by kernel_rfl) ?_ _
              refine NoPanic.normal ?_
              go_wp2_with fail
              try rw [Exit.noGoto_ret]
              go_ret
              refine ⟨?_, thence HB.out (thence KB2.out.drew B7.out (Nat.le_refl _)) (Nat.le_refl _)⟩
              rw [no.out (fun h => HE.out (by
                have h2 := DK.map_getD_eq (d := (0, [])) (HS.out.1 h).2.2 k
                rw [EX.out, EY.out, fw_eq] at h2
                rw [← HSX.out, ← HSY.out]
                exact h2.2))]
              rfl
            · go_simp
              refine (CL2.out _ (by exact B5.out)).mono ?_
              rintro e w7 ⟨p2, q2, r2, rfl, it2, b7⟩
              have T7 := text_is w7 _ _ _ _ (I1.out.here b7).rd
              have T8 := text_is w7 _ _ _ _ it2.rd
              have B7 := Lib.hid (thence B5.out b7 (Nat.le_refl _))
              have HS7 : Hid (w7.cell? ⟨w.heap.size, 1, none⟩ = some (.slice (some ⟨b1, off1, none⟩) n' c') ∧ w7.cell? ⟨w.heap.size + 1, 1, none⟩ = some (.slice (some ⟨b2, off2, none⟩) n' d') ∧ (w7.cell? ⟨b1, off1 + k * 2, none⟩ = some (.int .i64 z1) ∧ w7.cell? ⟨b1, off1 + k * 2 + 1, none⟩ = some (.slice xa xlen xcap)) ∧ (w7.cell? ⟨b2, off2 + k * 2, none⟩ = some (.int .i64 z1) ∧ w7.cell? ⟨b2, off2 + k * 2 + 1, none⟩ = some (.slice ya ylen ycap))) := ⟨(HXA.out.drew.here B7.out).three.2.1, (HXB.out.drew.here B7.out).three.2.1, KC1.out _ B7.out, KC2.out _ B7.out⟩
              clear b7 it2
              go_wp2_with fail
              refine hKq.out _ _ (HS7.out) (fun hHeld => ?_)
              clear hKq Kq
              (try simp only [Act.put, List.setIfInBounds_toArray, List.set_cons_zero, List.set_cons_succ])
              refine PX.wpAnyX_two (i := 21) (j := 29) (o := ?_) (o' := ?_) (by kernel_rfl) ?_ ?_ (fun Kq hKq => ?_) (fun Kq hKq => ?_)
              rotate_left 2
              · simp only [List.getElem?_toArray, List.getElem?_cons_succ, List.getElem?_cons_zero]; rfl
              · simp only [List.getElem?_toArray, List.getElem?_cons_succ, List.getElem?_cons_zero]; rfl
              · go_simp
                refine hKq.out _ _ (HS7.out) (fun hHeld => ?_)
                clear hKq Kq
                (try simp only [Act.put, List.setIfInBounds_toArray, List.set_cons_zero, List.set_cons_succ])
                refine PX.wpAnyX_one (i := 29) (o := ?_) (by kernel_rfl) ?_ (fun Kq hKq => ?_)
                rotate_left
                · simp only [List.getElem?_toArray, List.getElem?_cons_succ, List.getElem?_cons_zero]; rfl
                go_simp
                refine hKq.out _ _ (HS7.out) (fun hHeld => ?_)
                clear hKq Kq
                (try simp only [Act.put, List.setIfInBounds_toArray, List.set_cons_zero, List.set_cons_succ])
                refine PX.wpAnyX_one (i := 30) (o := ?_) (by kernel_rfl) ?_ (fun Kq hKq => ?_)
                rotate_left
                · simp only [List.getElem?_toArray, List.getElem?_cons_succ, List.getElem?_cons_zero]; rfl
                go_simp
                refine hKq.out _ _ (HS7.out) (fun hHeld => ?_)
                clear hKq Kq
                (try simp only [Act.put, List.setIfInBounds_toArray, List.set_cons_zero, List.set_cons_succ])
                refine PX.wpAnyX_last (o := ?_) (by kernel_rfl) ?_ (fun Kq hKq => ?_)
                rotate_left
                · simp only [List.getElem?_toArray, List.getElem?_cons_succ, List.getElem?_cons_zero]; rfl
                go_simp
                refine hKq.out _ _ ?_
                clear hKq Kq
                (try simp only [Act.put, List.setIfInBounds_toArray, List.set_cons_zero, List.set_cons_succ])
                refine PX.wpAnyX_done (by kernel_rfl) ?_ _
                refine NoPanic.normal ?_
                go_wp2_with fail
                try rw [Exit.noGoto_ret]
                go_ret
                refine ⟨?_, thence HB.out (thence KB2.out.drew B7.out (Nat.le_refl _)) (Nat.le_refl _)⟩
                rw [no.out (fun h => HE.out (by
                  have h2 := DK.map_getD_eq (d := (0, [])) (HS.out.1 h).2.2 k
                  rw [EX.out, EY.out, fw_eq] at h2
                  rw [← HSX.out, ← HSY.out]
                  exact h2.2))]
                rfl
              · go_simp
                refine hKq.out _ _ (HS7.out) (fun hHeld => ?_)
                clear hKq Kq
                (try simp only [Act.put, List.setIfInBounds_toArray, List.set_cons_zero, List.set_cons_succ])
                refine PX.wpAnyX_one (i := 21) (o := ?_) (by kernel_rfl) ?_ (fun Kq hKq => ?_)
                rotate_left
                · simp only [List.getElem?_toArray, List.getElem?_cons_succ, List.getElem?_cons_zero]; rfl
                go_simp
                refine hKq.out _ _ (HS7.out) (fun hHeld => ?_)
                clear hKq Kq
                (try simp only [Act.put, List.setIfInBounds_toArray, List.set_cons_zero, List.set_cons_succ])
                refine PX.wpAnyX_one (i := 30) (o := ?_) (by kernel_rfl) ?_ (fun Kq hKq => ?_)
                rotate_left
                · simp only [List.getElem?_toArray, List.getElem?_cons_succ, List.getElem?_cons_zero]; rfl
                go_simp
                refine hKq.out _ _ (HS7.out) (fun hHeld => ?_)
                clear hKq Kq
                (try simp only [Act.put, List.setIfInBounds_toArray, List.set_cons_zero, List.set_cons_succ])
                refine PX.wpAnyX_last (o := ?_) (by kernel_rfl) ?_ (fun Kq hKq => ?_)
                rotate_left
                · simp only [List.getElem?_toArray, List.getElem?_cons_succ, List.getElem?_cons_zero]; rfl
                go_simp
                refine hKq.out _ _ ?_
                clear hKq Kq
                (try simp only [Act.put, List.setIfInBounds_toArray, List.set_cons_zero, List.set_cons_succ])
                refine PX.wpAnyX_done (by kernel_rfl) ?_ _
                refine NoPanic.normal ?_
                go_wp2_with fail
                try rw [Exit.noGoto_ret]
                go_ret
                refine ⟨?_, thence HB.out (thence KB2.out.drew B7.out (Nat.le_refl _)) (Nat.le_refl _)⟩
                rw [no.out (fun h => HE.out (by
                  have h2 := DK.map_getD_eq (d := (0, [])) (HS.out.1 h).2.2 k
                  rw [EX.out, EY.out, fw_eq] at h2
                  rw [← HSX.out, ← HSY.out]
                  exact h2.2))]
                rfl
        · obtain rfl : k = n' := by omega
          go_wp2_with fail
          try rw [Exit.noGoto_ret]
          go_ret
          refine ⟨?_, KW.out⟩
          have HT : DK.same D E = true := HS.out.2 ⟨HD.out, DK.map_ext_getD (by rw [← Hr.out.long.1, ← Hq.out.long.1]) (fun j hj => HGd.out j (by rw [Hr.out.long.1]; exact hj)), DK.map_ext_getD (by rw [← Hr.out.long.2, ← Hq.out.long.2]) (fun j hj => HG2.out j (by rw [Hr.out.long.2]; exact hj))⟩
          rw [HT]; rfl
end Go.Proofs.Ytnhfkfihlkbkfaa.PW
