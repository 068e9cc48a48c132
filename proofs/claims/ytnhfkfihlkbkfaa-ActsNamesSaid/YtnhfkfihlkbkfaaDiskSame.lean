/-
  Contracts of layer 4: whether two devices are the same, the program's.
-/
import Derived.Test.YtnhfkfihlkbkfaaDiskSmall
namespace Go.Proofs.Ytnhfkfihlkbkfaa.DK
/-- Two devices with the same bytes. -/
theorem norm_eq {D E : Dv} : norm D = norm E ↔ D.dead = E.dead ∧ D.bs.map fl = E.bs.map fl ∧ D.ws.map fw = E.ws.map fw := by
  unfold norm
  constructor
  · intro h; injection h with h1 h2 h3; exact ⟨h3, h1, h2⟩
  · rintro ⟨h1, h2, h3⟩; rw [h1, h2, h3]
instance : DecidableEq Dv := fun D E => decidable_of_iff (D.bs = E.bs ∧ D.ws = E.ws ∧ D.dead = E.dead) (by
  constructor
  · rintro ⟨h1, h2, h3⟩; cases D; cases E; simp_all
  · rintro rfl; exact ⟨rfl, rfl, rfl⟩)
def same (D E : Dv) : Bool := decide (norm D = norm E)
theorem same_self (D : Dv) : same D D = true := by simp [same]
theorem same_iff {D E : Dv} : same D E = true ↔ norm D = norm E := by simp [same]
theorem map_ext_getD {α β : Type} {f : α → β} {d : α} {A B : List α} (hl : A.length = B.length) (h : ∀ k, k < A.length → f (A.getD k d) = f (B.getD k d)) : A.map f = B.map f := by
  apply List.ext_getElem
  · simp [hl]
  · intro i h1 h2
    have hi : i < A.length := by simpa using h1
    have hj : i < B.length := by simpa using h2
    have := h i hi
    simpa [List.getD, hi, hj] using this
theorem map_getD_eq {α β : Type} {f : α → β} {d : α} {A B : List α} (h : A.map f = B.map f) : ∀ k, f (A.getD k d) = f (B.getD k d) := by
  intro k
  have := congrArg (fun L : List β => L.getD k (f d)) h
  simp only [List.getD, List.getElem?_map] at this
  simp only [List.getD]
  cases hA : A[k]? <;> cases hB : B[k]? <;> simp [hA, hB] at this ⊢ <;> assumption
end Go.Proofs.Ytnhfkfihlkbkfaa.DK
namespace Go.Proofs.Ytnhfkfihlkbkfaa.PW
open Go.RowKit
open DK (Dv)
set_option linter.unusedVariables false
set_option maxRecDepth 100000

set_option maxRecDepth 100000 in
set_option maxHeartbeats 1000000 in
/-- 'slices.EqualFunc' over blocks. -/
theorem eqBlocks_any (a : Option Addr) (n c : Nat) (L : List (List Nat)) (b : Option Addr) (m d : Nat) (M : List (List Nat)) (w : World)
    (hr : ∃ H, Rds w.heap.size w a n c H ∧ lists H = L) (hq : ∃ K, Rds w.heap.size w b m d K ∧ lists K = M) :
    Calls Try.prog 81 #[.slice a n c, .slice b m d, .func (.func 82) #[] #[]] w fun e w' => e = .returned (.bool (decide (L.map DK.fl = M.map DK.fl))) ∧ Below w.heap.size w w' := by
  obtain ⟨H, hr, rfl⟩ := hr
  obtain ⟨K, hq, rfl⟩ := hq
  have hn : n = (lists H).length := by rw [lists_length]; exact hr.long
  have hm : m = (lists K).length := by rw [lists_length]; exact hq.long
  have hs := hr.small
  have hsf := hr.fits
  have hs' := hq.small
  have hsf' := hq.fits
  have hl := hr.long
  have hl' := hq.long
  unfold maxLen at hs hs'
  have Hn := Lib.hid hn
  have Hm := Lib.hid hm
  have HL := Lib.hid (lists_getD H)
  have KL := Lib.hid (lists_getD K)
  have Hr := Lib.hid hr
  have Hq := Lib.hid hq
  have HHl := Lib.hid hl
  have HKl := Lib.hid hl'
  have hn1 : n ≤ c := by omega
  have hm1 : m ≤ d := by omega
  have CA : Hid (∀ a n c l b n' c' m w, Rd w.heap.size w a n c l → Rd w.heap.size w b n' c' m → Calls Try.prog 82 #[.slice a n c, .slice b n' c'] w fun e w' => e = .returned (.bool (decide (DK.fl l = DK.fl m))) ∧ Below w.heap.size w w') := fun a n c l b n' c' m w h1 h2 => alike_any a n c l b n' c' m w h1 h2
  clear hn hm hr hq hl hl' hsf hsf'
  generalize lists H = L at *
  generalize lists K = M at *
  by_cases hnm : n = m
  · subst hnm
    go_enter Try.func81, Try.ntmps81
    go_wp2_with fail
    go_loopw [17] (fun i wr => ∃ k : Nat, k ≤ n ∧ i = .int .i64 k ∧ Hid (∀ j, j < k → DK.fl (L.getD j []) = DK.fl (M.getD j [])) ∧ Below w.heap.size w wr) (fun i _ => n - (intOf i).toNat)
    case atStart => exact ⟨0, by omega, rfl, (fun j hj => absurd hj (Nat.not_lt_zero _) : ∀ j, j < 0 → _), Below.refl _ _⟩
    case round =>
      obtain ⟨k, hk, rfl, HG, kb⟩ := hrel
      by_cases hlt : k < n
      · obtain ⟨b1, off1, xa, xlen, xcap, xl, rfl, hb1, hx, c1, rx⟩ := (Hr.out.below kb).at k (by rw [← HHl.out]; exact hlt)
        obtain ⟨b2, off2, ya, ylen, ycap, yl, rfl, hb2, hy, c2, ry⟩ := (Hq.out.below kb).at k (by rw [← HKl.out]; exact hlt)
        have C := Lib.hid (CA.out xa xlen xcap xl ya ylen ycap yl wr (rx.mono kb.size) (ry.mono kb.size))
        have EX : Hid (L.getD k [] = xl) := by show _ = _; rw [HL.out, hx]
        have EY : Hid (M.getD k [] = yl) := by show _ = _; rw [KL.out, hy]
        have Hk := Lib.hid hlt
        have KB := Lib.hid kb
        clear rx ry hx hy kb
        by_cases he : DK.fl xl = DK.fl yl
        · rw [decide_eq_true he] at C
          have HE := Lib.hid he
          clear he
          go_wp2_with fail
          refine C.out.mono ?_
          rintro e w2 ⟨rfl, b3⟩
          have B3 := Lib.hid b3
          clear b3
          go_wp2_with fail
          go_roundw
          case rel =>
            refine ⟨k + 1, by have := Hk.out; omega, by go_num, fun j hj => ?_, thence KB.out B3.out (Nat.le_refl _)⟩
            rcases Nat.lt_or_ge j k with h | h
            · exact HG.out j h
            · obtain rfl : j = k := by omega
              rw [EX.out, EY.out]; exact HE.out
          case measure => have := Hk.out; simp [intOf]; omega
        · rw [decide_eq_false he] at C
          have HE := Lib.hid he
          clear he
          go_wp2_with fail
          refine C.out.mono ?_
          rintro e w2 ⟨rfl, b3⟩
          have B3 := Lib.hid b3
          clear b3
          go_wp2_with fail
          try rw [Exit.noGoto_ret]
          go_ret
          refine ⟨?_, thence KB.out B3.out (Nat.le_refl _)⟩
          have : ¬ L.map DK.fl = M.map DK.fl := fun h => HE.out (by rw [← EX.out, ← EY.out]; exact DK.map_getD_eq h k)
          rw [decide_eq_false this]; rfl
      · obtain rfl : k = n := by omega
        have KB := Lib.hid kb
        clear kb
        go_wp2_with fail
        try rw [Exit.noGoto_ret]
        go_ret
        refine ⟨?_, KB.out⟩
        have : L.map DK.fl = M.map DK.fl := DK.map_ext_getD (by rw [← Hn.out, ← Hm.out]) (fun j hj => HG.out j (by rw [Hn.out]; exact hj))
        rw [decide_eq_true this]; rfl
  · have e0 : ((n : Int) == (m : Int)) = false := by rw [beq_eq_false_iff_ne]; omega
    have HE : Hid (¬ L.map DK.fl = M.map DK.fl) := fun h => hnm (by have := congrArg List.length h; simp at this; rw [Hn.out, Hm.out]; exact this)
    go_enter Try.func81, Try.ntmps81
    go_wp2_with fail
    go_ret
    exact ⟨by rw [decide_eq_false HE.out]; rfl, Below.refl _ _⟩

theorem fw_eq {m z : Int} {l k : List Nat} : DK.fw (m, l) = DK.fw (z, k) ↔ m = z ∧ DK.fl l = DK.fl k := by simp [DK.fw]

set_option maxRecDepth 100000 in
theorem sameWrite_any (m : Int) (a : Option Addr) (n c : Nat) (l : List Nat) (z : Int) (b : Option Addr) (n' c' : Nat) (k : List Nat) (w : World) (hr : Rd w.heap.size w a n c l) (hq : Rd w.heap.size w b n' c' k) :
    Calls Try.prog 84 #[.agg #[.int .i64 m, .slice a n c], .agg #[.int .i64 z, .slice b n' c']] w fun e w' => e = .returned (.bool (decide (DK.fw (m, l) = DK.fw (z, k)))) ∧ Below w.heap.size w w' := by
  have hb1 : Below w.heap.size w (w.alloc (.cells #[.int .i64 m, .slice a n c] 64)) := (Below.refl _ _).alloc (Nat.le_refl _) _
  have hb2 : Below w.heap.size w ((w.alloc (.cells #[.int .i64 m, .slice a n c] 64)).alloc (.cells #[.int .i64 z, .slice b n' c'] 64)) := hb1.alloc hb1.size _
  have C := Lib.hid (alike_any a n c l b n' c' k _ (hr.here hb2) (hq.here hb2))
  have HB := Lib.hid hb2
  clear hb1 hb2 hr hq
  have HF := Lib.hid (@fw_eq m z l k)
  by_cases h : m = z
  · subst h
    by_cases he : DK.fl l = DK.fl k
    · rw [decide_eq_true he] at C
      rw [decide_eq_true (HF.out.2 ⟨rfl, he⟩)]
      clear he HF
      go_enter Try.func84, Try.ntmps84
      go_wp2_with fail
      refine C.out.mono ?_
      rintro e w2 ⟨rfl, b3⟩
      have B3 := Lib.hid (thence HB.out b3 (Nat.le_refl _))
      clear b3
      go_wp2_with fail
      go_ret
      exact ⟨rfl, B3.out⟩
    · rw [decide_eq_false he] at C
      rw [decide_eq_false (fun h2 => he (HF.out.1 h2).2)]
      clear he HF
      go_enter Try.func84, Try.ntmps84
      go_wp2_with fail
      refine C.out.mono ?_
      rintro e w2 ⟨rfl, b3⟩
      have B3 := Lib.hid (thence HB.out b3 (Nat.le_refl _))
      clear b3
      go_wp2_with fail
      go_ret
      exact ⟨rfl, B3.out⟩
  · rw [decide_eq_false (fun h2 => h (HF.out.1 h2).1)]
    have e0 : (m == z) = false := by rw [beq_eq_false_iff_ne]; exact h
    clear h HF C
    go_enter Try.func84, Try.ntmps84
    go_wp2_with fail
    go_ret
    exact ⟨rfl, HB.out⟩

set_option maxRecDepth 100000 in
set_option maxHeartbeats 1000000 in
/-- 'slices.EqualFunc' over writes. -/
theorem eqWrites_any (a : Option Addr) (n c : Nat) (L : List (Int × List Nat)) (b : Option Addr) (m d : Nat) (M : List (Int × List Nat)) (w : World)
    (hr : ∃ H, Rws w.heap.size w a n c H ∧ wlist H = L) (hq : ∃ K, Rws w.heap.size w b m d K ∧ wlist K = M) :
    Calls Try.prog 83 #[.slice a n c, .slice b m d, .func (.func 84) #[] #[]] w fun e w' => e = .returned (.bool (decide (L.map DK.fw = M.map DK.fw))) ∧ Below w.heap.size w w' := by
  obtain ⟨H, hr, rfl⟩ := hr
  obtain ⟨K, hq, rfl⟩ := hq
  have hn : n = (wlist H).length := by rw [wlist_length]; exact hr.long
  have hm : m = (wlist K).length := by rw [wlist_length]; exact hq.long
  have hs := hr.small
  have hsf := hr.fits
  have hs' := hq.small
  have hsf' := hq.fits
  have hl := hr.long
  have hl' := hq.long
  unfold maxLen at hs hs'
  have Hn := Lib.hid hn
  have Hm := Lib.hid hm
  have HL := Lib.hid (wlist_getD H)
  have KL := Lib.hid (wlist_getD K)
  have Hr := Lib.hid hr
  have Hq := Lib.hid hq
  have HHl := Lib.hid hl
  have HKl := Lib.hid hl'
  have hn1 : n ≤ c := by omega
  have hm1 : m ≤ d := by omega
  have CA : Hid (∀ m a n c l z b n' c' k w, Rd w.heap.size w a n c l → Rd w.heap.size w b n' c' k → Calls Try.prog 84 #[.agg #[.int .i64 m, .slice a n c], .agg #[.int .i64 z, .slice b n' c']] w fun e w' => e = .returned (.bool (decide (DK.fw (m, l) = DK.fw (z, k)))) ∧ Below w.heap.size w w') := fun m a n c l z b n' c' k w h1 h2 => sameWrite_any m a n c l z b n' c' k w h1 h2
  clear hn hm hr hq hl hl' hsf hsf'
  generalize wlist H = L at *
  generalize wlist K = M at *
  by_cases hnm : n = m
  · subst hnm
    go_enter Try.func83, Try.ntmps83
    go_wp2_with fail
    go_loopw [17] (fun i wr => ∃ k : Nat, k ≤ n ∧ i = .int .i64 k ∧ Hid (∀ j, j < k → DK.fw (L.getD j (0, [])) = DK.fw (M.getD j (0, []))) ∧ Below w.heap.size w wr) (fun i _ => n - (intOf i).toNat)
    case atStart => exact ⟨0, by omega, rfl, (fun j hj => absurd hj (Nat.not_lt_zero _) : ∀ j, j < 0 → _), Below.refl _ _⟩
    case round =>
      obtain ⟨k, hk, rfl, HG, kb⟩ := hrel
      by_cases hlt : k < n
      · obtain ⟨b1, off1, z1, xa, xlen, xcap, xl, rfl, hb1, hx, c1, d1, rx⟩ := (Hr.out.below kb).at k (by rw [← HHl.out]; exact hlt)
        obtain ⟨b2, off2, z2, ya, ylen, ycap, yl, rfl, hb2, hy, c2, d2, ry⟩ := (Hq.out.below kb).at k (by rw [← HKl.out]; exact hlt)
        have hbb1 : Below wr.heap.size wr (wr.alloc (.cells #[.int .i64 z1, .slice xa xlen xcap] 64)) := (Below.refl _ _).alloc (Nat.le_refl _) _
        have hbb2 : Below wr.heap.size wr ((wr.alloc (.cells #[.int .i64 z1, .slice xa xlen xcap] 64)).alloc (.cells #[.int .i64 z2, .slice ya ylen ycap] 64)) := hbb1.alloc hbb1.size _
        have C := Lib.hid (CA.out z1 xa xlen xcap xl z2 ya ylen ycap yl _ ((rx.mono kb.size).here hbb2) ((ry.mono kb.size).here hbb2))
        have EX : Hid (L.getD k (0, []) = (z1, xl)) := by show _ = _; rw [HL.out, hx]
        have EY : Hid (M.getD k (0, []) = (z2, yl)) := by show _ = _; rw [KL.out, hy]
        have Hk := Lib.hid hlt
        have KB := Lib.hid (thence kb hbb2 (Nat.le_refl _))
        have hq1 : b2 < wr.heap.size := Nat.lt_of_lt_of_le hb2 kb.size
        clear rx ry hx hy kb hbb1 hbb2
        by_cases he : DK.fw (z1, xl) = DK.fw (z2, yl)
        · rw [decide_eq_true he] at C
          have HE := Lib.hid he
          clear he
          go_wp2_with fail
          refine C.out.mono ?_
          rintro e w2 ⟨rfl, b3⟩
          have B3 := Lib.hid b3
          clear b3
          go_wp2_with fail
          go_roundw
          case rel =>
            refine ⟨k + 1, by have := Hk.out; omega, by go_num, fun j hj => ?_, thence KB.out B3.out (Nat.le_refl _)⟩
            rcases Nat.lt_or_ge j k with h | h
            · exact HG.out j h
            · obtain rfl : j = k := by omega
              rw [EX.out, EY.out]; exact HE.out
          case measure => have := Hk.out; simp [intOf]; omega
        · rw [decide_eq_false he] at C
          have HE := Lib.hid he
          clear he
          go_wp2_with fail
          refine C.out.mono ?_
          rintro e w2 ⟨rfl, b3⟩
          have B3 := Lib.hid b3
          clear b3
          go_wp2_with fail
          try rw [Exit.noGoto_ret]
          go_ret
          refine ⟨?_, thence KB.out B3.out (Nat.le_refl _)⟩
          have : ¬ L.map DK.fw = M.map DK.fw := fun h => HE.out (by rw [← EX.out, ← EY.out]; exact DK.map_getD_eq h k)
          rw [decide_eq_false this]; rfl
      · obtain rfl : k = n := by omega
        have KB := Lib.hid kb
        clear kb
        go_wp2_with fail
        try rw [Exit.noGoto_ret]
        go_ret
        refine ⟨?_, KB.out⟩
        have : L.map DK.fw = M.map DK.fw := DK.map_ext_getD (by rw [← Hn.out, ← Hm.out]) (fun j hj => HG.out j (by rw [Hn.out]; exact hj))
        rw [decide_eq_true this]; rfl
  · have e0 : ((n : Int) == (m : Int)) = false := by rw [beq_eq_false_iff_ne]; omega
    have HE : Hid (¬ L.map DK.fw = M.map DK.fw) := fun h => hnm (by have := congrArg List.length h; simp at this; rw [Hn.out, Hm.out]; exact this)
    go_enter Try.func83, Try.ntmps83
    go_wp2_with fail
    go_ret
    exact ⟨by rw [decide_eq_false HE.out]; rfl, Below.refl _ _⟩

theorem DevAt.rds {B : Nat} {w : World} {a a' : Option Addr} {n c n' c' : Nat} {D : Dv} (h : DevAt B w a n c a' n' c' D) : ∃ H, Rds B w a n c H ∧ lists H = D.bs := by
  obtain ⟨H, K, h1, h2, h3, h4⟩ := h.ex; exact ⟨H, h1, h3⟩
theorem DevAt.rws {B : Nat} {w : World} {a a' : Option Addr} {n c n' c' : Nat} {D : Dv} (h : DevAt B w a n c a' n' c' D) : ∃ K, Rws B w a' n' c' K ∧ wlist K = D.ws := by
  obtain ⟨H, K, h1, h2, h3, h4⟩ := h.ex; exact ⟨K, h2, h4⟩

set_option maxRecDepth 100000 in
/-- The program's 'Same'. -/
theorem same_any (a : Option Addr) (n c : Nat) (a' : Option Addr) (n' c' : Nat) (D : Dv) (b : Option Addr) (m d : Nat) (b' : Option Addr) (m' d' : Nat) (E : Dv) (w : World) (hr : DevAt w.heap.size w a n c a' n' c' D) (hq : DevAt w.heap.size w b m d b' m' d' E) :
    Calls Try.prog 70 #[.agg #[.slice a n c, .slice a' n' c', .bool D.dead], .agg #[.slice b m d, .slice b' m' d', .bool E.dead]] w fun e w' => e = .returned (.bool (DK.same D E)) ∧ Below w.heap.size w w' := by
  have hb1 : Below w.heap.size w (w.alloc (.cells #[.slice a n c, .slice a' n' c', .bool D.dead] 37)) := (Below.refl _ _).alloc (Nat.le_refl _) _
  have hb2 : Below w.heap.size w ((w.alloc (.cells #[.slice a n c, .slice a' n' c', .bool D.dead] 37)).alloc (.cells #[.slice b m d, .slice b' m' d', .bool E.dead] 37)) := hb1.alloc hb1.size _
  have C1 := Lib.hid (eqBlocks_any a n c D.bs b m d E.bs _ ((hr.here hb2).rds) ((hq.here hb2).rds))
  have hx1 := (Bx.new w [.slice a n c, .slice a' n' c', .bool D.dead] 37).alloc (.cells #[.slice b m d, .slice b' m' d', .bool E.dead] 37)
  have hx2 := Bx.new (w.alloc (.cells #[.slice a n c, .slice a' n' c', .bool D.dead] 37)) [.slice b m d, .slice b' m' d', .bool E.dead] 37
  simp only [World.size_alloc] at hx2
  have C2 : Hid (∀ w1, Below w.heap.size w w1 → Calls Try.prog 83 #[.slice a' n' c', .slice b' m' d', .func (.func 84) #[] #[]] w1 fun e w' => e = .returned (.bool (decide (D.ws.map DK.fw = E.ws.map DK.fw))) ∧ Below w1.heap.size w1 w') := fun w1 h1 => eqWrites_any a' n' c' D.ws b' m' d' E.ws w1 ((hr.here h1).rws) ((hq.here h1).rws)
  have HB := Lib.hid hb2
  have HX1 := Lib.hid hx1
  have HX2 := Lib.hid hx2
  have HS : Hid (DK.same D E = (decide (D.dead = E.dead) && (decide (D.bs.map DK.fl = E.bs.map DK.fl) && decide (D.ws.map DK.fw = E.ws.map DK.fw)))) := by
    show _ = _
    rw [Bool.eq_iff_iff, DK.same_iff, DK.norm_eq]
    simp
  clear hb1 hb2 hx1 hx2 hr hq
  by_cases h1 : D.dead = E.dead
  · have e1 : (D.dead == E.dead) = true := by rw [beq_iff_eq]; exact h1
    have HS1 : Hid (DK.same D E = (decide (D.bs.map DK.fl = E.bs.map DK.fl) && decide (D.ws.map DK.fw = E.ws.map DK.fw))) := by show _ = _; rw [HS.out, decide_eq_true h1]; rfl
    clear HS h1
    generalize D.dead = dd at *
    generalize E.dead = ee at *
    by_cases h2 : D.bs.map DK.fl = E.bs.map DK.fl
    · rw [decide_eq_true h2] at C1 HS1
      have HS2 : Hid (DK.same D E = decide (D.ws.map DK.fw = E.ws.map DK.fw)) := by show _ = _; rw [HS1.out]; rfl
      rw [HS2.out]
      clear h2 HS1 HS2
      generalize decide (D.ws.map DK.fw = E.ws.map DK.fw) = q at *
      go_enter Try.func70, Try.ntmps70
      go_wp2_with fail
      refine C1.out.mono ?_
      rintro e w2 ⟨rfl, b3⟩
      obtain ⟨c0, c1, c2⟩ := (HX1.out.here b3).three
      obtain ⟨d0, d1, d2⟩ := (HX2.out.here b3).three
      have B3 := Lib.hid (thence HB.out b3 (Nat.le_refl _))
      clear b3
      go_wp2_with fail
      refine (C2.out _ B3.out).mono ?_
      rintro e w3 ⟨rfl, b4⟩
      have B4 := Lib.hid (thence B3.out b4 (Nat.le_refl _))
      clear b4
      go_wp2_with fail
      go_ret
      exact ⟨rfl, B4.out⟩
    · rw [decide_eq_false h2] at C1 HS1
      rw [HS1.out]
      clear h2 HS1 C2
      go_enter Try.func70, Try.ntmps70
      go_wp2_with fail
      refine C1.out.mono ?_
      rintro e w2 ⟨rfl, b3⟩
      have B3 := Lib.hid (thence HB.out b3 (Nat.le_refl _))
      clear b3
      go_wp2_with fail
      go_ret
      exact ⟨rfl, B3.out⟩
  · have e1 : (D.dead == E.dead) = false := by rw [beq_eq_false_iff_ne]; exact h1
    have HS1 : Hid (DK.same D E = false) := by show _ = _; rw [HS.out, decide_eq_false h1]; rfl
    rw [HS1.out]
    clear HS HS1 h1 C1 C2
    generalize D.dead = dd at *
    generalize E.dead = ee at *
    go_enter Try.func70, Try.ntmps70
    go_wp2_with fail
    go_ret
    exact ⟨rfl, HB.out⟩
end Go.Proofs.Ytnhfkfihlkbkfaa.PW
