/-
  Contracts of layer 4: whether a device may be, and the errors of a place, of a read, of a write; the program's and the document's own.
  Contracts of layer 4: whether a device may be, by the document's own answer.
  Contracts of layer 4: the errors of a place, of a read, of a write; the program's and the document's own.
-/
import Derived.Test.YtnhfkfihlkbkfaaDiskSmall
import Derived.Outline
import Derived.Deep.QuietTactic
import Derived.BigQuiet
namespace Go.Proofs.Ytnhfkfihlkbkfaa.PW
open Go.RowKit
open DK (Dv)
set_option linter.unusedVariables false
set_option maxRecDepth 100000

set_option maxRecDepth 100000 in
set_option maxHeartbeats 1000000 in
theorem check_early (a : Option Addr) (n c : Nat) (a' : Option Addr) (n' c' : Nat) (D : Dv) (w : World) (hr : DevAt w.heap.size w a n c a' n' c' D) (hbad : n < 1 ∨ n > 256 ∨ n' > 1024 ∨ (D.dead = true ∧ n' ≠ 0)) :
    Calls Try.prog 40 #[.agg #[.slice a n c, .slice a' n' c', .bool D.dead]] w fun e w' => e = .returned (.int .i64 (DK.kcode D : Nat)) ∧ Below w.heap.size w w' := by
  obtain ⟨hn, hn'⟩ := hr.long
  obtain ⟨hs, hs'⟩ := hr.small
  unfold maxLen at hs hs'
  have hb0 : Below w.heap.size w (w.alloc (.cells #[.slice a n c, .slice a' n' c', .bool D.dead] 37)) := (Below.refl _ _).alloc (Nat.le_refl _) _
  have HB0 := Lib.hid hb0
  have Hr := Lib.hid hr
  have Hn := Lib.hid hn
  have Hn' := Lib.hid hn'
  have HI := Lib.hid (@DK.may_iff D)
  have HC : Hid (DK.may D = false → DK.kcode D = 8) := fun h => by simp [DK.kcode, h]
  have HC0 : Hid (DK.may D = true → DK.kcode D = 0) := fun h => by simp [DK.kcode, h]
  have no : Hid (¬ (1 ≤ n ∧ n ≤ 256 ∧ n' ≤ 1024 ∧ (D.dead = true → n' = 0)) → DK.kcode D = 8) := fun h => HC.out (by
    rw [← Bool.not_eq_true, DK.may_iff, ← hn, ← hn']
    intro hh
    exact h ⟨hh.1, hh.2.1, hh.2.2.1, hh.2.2.2.1⟩)
  clear hn hn' hr hb0
  by_cases h1 : n < 1
  · rw [no.out (by omega)]
    have n0 : n = 0 := by omega
    clear HB0 Hr Hn Hn' HI HC HC0 no
    subst n0
    generalize D.dead = dd
    go_enter Try.func40, Try.ntmps40
    go_wp2
    go_ret
    exact ⟨rfl, (Below.refl _ _).alloc (Nat.le_refl _) _⟩
  by_cases h2 : n > 256
  · rw [no.out (by omega)]
    clear HB0 Hr Hn Hn' HI HC HC0 no
    generalize D.dead = dd
    go_enter Try.func40, Try.ntmps40
    go_wp2
    go_ret
    exact ⟨rfl, (Below.refl _ _).alloc (Nat.le_refl _) _⟩
  by_cases h3 : n' > 1024
  · rw [no.out (by omega)]
    clear HB0 Hr Hn Hn' HI HC HC0 no
    generalize D.dead = dd
    go_enter Try.func40, Try.ntmps40
    go_wp2
    go_ret
    exact ⟨rfl, (Below.refl _ _).alloc (Nat.le_refl _) _⟩
  by_cases h4 : D.dead = true ∧ n' ≠ 0
  · obtain ⟨hd, h4⟩ := h4
    rw [no.out (by intro h; exact h4 (h.2.2.2 hd)), hd]
    have e0 : ((n' : Int) == 0) = false := by rw [beq_eq_false_iff_ne]; omega
    clear HB0 Hr Hn Hn' HI HC HC0 no hd
    go_enter Try.func40, Try.ntmps40
    go_wp2
    go_ret
    exact ⟨rfl, (Below.refl _ _).alloc (Nat.le_refl _) _⟩
  · exact absurd hbad (by intro h; rcases h with h | h | h | h <;> first | omega | exact h4 h)
set_option maxRecDepth 100000 in
set_option maxHeartbeats 1000000 in
theorem check_dead (a : Option Addr) (n c : Nat) (a' : Option Addr) (n' c' : Nat) (D : Dv) (w : World) (hr : DevAt w.heap.size w a n c a' n' c' D) (h1 : ¬ n < 1) (h2 : ¬ n > 256) (h3 : ¬ n' > 1024) (h4 : ¬ (D.dead = true ∧ n' ≠ 0)) (hd : D.dead = true) :
    Calls Try.prog 40 #[.agg #[.slice a n c, .slice a' n' c', .bool D.dead]] w fun e w' => e = .returned (.int .i64 (DK.kcode D : Nat)) ∧ Below w.heap.size w w' := by
  obtain ⟨hn, hn'⟩ := hr.long
  obtain ⟨hs, hs'⟩ := hr.small
  unfold maxLen at hs hs'
  have hb0 : Below w.heap.size w (w.alloc (.cells #[.slice a n c, .slice a' n' c', .bool D.dead] 37)) := (Below.refl _ _).alloc (Nat.le_refl _) _
  have HB0 := Lib.hid hb0
  have Hr := Lib.hid hr
  have Hn := Lib.hid hn
  have Hn' := Lib.hid hn'
  have HI := Lib.hid (@DK.may_iff D)
  have HC : Hid (DK.may D = false → DK.kcode D = 8) := fun h => by simp [DK.kcode, h]
  have HC0 : Hid (DK.may D = true → DK.kcode D = 0) := fun h => by simp [DK.kcode, h]
  have no : Hid (¬ (1 ≤ n ∧ n ≤ 256 ∧ n' ≤ 1024 ∧ (D.dead = true → n' = 0)) → DK.kcode D = 8) := fun h => HC.out (by
    rw [← Bool.not_eq_true, DK.may_iff, ← hn, ← hn']
    intro hh
    exact h ⟨hh.1, hh.2.1, hh.2.2.1, hh.2.2.2.1⟩)
  clear hn hn' hr hb0
  -- the blocks
  have bad1 : Hid (∀ k, k < n → DK.okB D (D.bs.getD k []) = false → DK.kcode D = 8) := fun k hk h => HC.out (by
    rw [← Bool.not_eq_true, DK.may_iff]
    intro hh
    have := hh.2.2.2.2.1 (D.bs.getD k []) (mem_getD (by rw [← Hn.out]; exact hk))
    rw [h] at this; cases this)
  have bad2 : Hid (∀ k, k < n' → DK.okW D (D.ws.getD k (0, [])) = false → DK.kcode D = 8) := fun k hk h => HC.out (by
    rw [← Bool.not_eq_true, DK.may_iff]
    intro hh
    have := hh.2.2.2.2.2 (D.ws.getD k (0, [])) (mem_getD (by rw [← Hn'.out]; exact hk))
    rw [h] at this; cases this)
  have good : Hid ((∀ k, k < n → DK.okB D (D.bs.getD k []) = true) → (∀ k, k < n' → DK.okW D (D.ws.getD k (0, [])) = true) → (D.dead = true → n' = 0) → DK.kcode D = 0) := fun g1 g2 g3 => HC0.out (by
    rw [DK.may_iff]
    refine ⟨by rw [← Hn.out]; omega, by rw [← Hn.out]; omega, by rw [← Hn'.out]; omega, by rw [← Hn'.out]; exact g3, ?_, ?_⟩
    · intro l hl
      obtain ⟨j, hj, rfl⟩ := List.mem_iff_getElem.1 hl
      have := g1 j (by rw [Hn.out]; exact hj)
      simpa [List.getD, hj] using this
    · intro l hl
      obtain ⟨j, hj, rfl⟩ := List.mem_iff_getElem.1 hl
      have := g2 j (by rw [Hn'.out]; exact hj)
      simpa [List.getD, hj] using this)
  have CH : Hid (∀ (at_ : Int) w1, Calls Try.prog 69 #[.agg #[.slice a n c, .slice a' n' c', .bool D.dead], .int .i64 at_] w1 fun e w' => e = .returned (.bool (DK.has D at_)) ∧ Below w1.heap.size w1 w') := fun at_ w1 => has_any a n c a' n' c' D at_ w1 Hn.out (by unfold maxLen; omega)
  have CB : Hid (∀ (x : Option Addr) (len cap : Nat) (l : List Nat) (w1 : World), len = l.length → len ≤ maxLen → Calls Try.prog 68 #[.slice x len cap] w1 fun e w' => e = .returned (.bool (DK.sized l)) ∧ w1 = w') := isBlock_any
  have H4 := Lib.hid h4
  clear HI HC HC0 no h4
  have n0 : n' = 0 := Decidable.byContradiction fun h => H4.out ⟨hd, h⟩
  have HD := Lib.hid hd
  rw [hd] at HB0 CH ⊢
  clear hd h3 hs' H4
  subst n0
  go_enter Try.func40, Try.ntmps40
  go_wp2
  have hb := HB0.out
  have hx := Bx.new w [.slice a n c, .slice a' 0 c', .bool true] 37
  generalize w.alloc (.cells #[.slice a n c, .slice a' 0 c', .bool true] 37) = w1 at *
  have HX := Lib.hid hx
  clear hx HB0
  go_loopw [34] (fun i wr => ∃ k : Nat, k ≤ n ∧ i = .int .i64 k ∧ Hid (∀ j, j < k → DK.okB D (D.bs.getD j []) = true) ∧ wr = w1) (fun i _ => n - (intOf i).toNat)
  case atStart => exact ⟨0, by omega, rfl, fun j hj => by omega, rfl⟩
  case round =>
    obtain ⟨k, hk, rfl, HG, rfl⟩ := hrel
    obtain ⟨c0, c1, c2⟩ := HX.out.three
    by_cases hlt : k < n
    · obtain ⟨b, off, xa, xlen, xcap, xl, rfl, hbB, hx, hcell, hxr⟩ := (Hr.out.below hb).at k hlt
      have hsm := hxr.small
      have hft := hxr.fits
      unfold maxLen at hsm
      obtain rfl := hxr.long
      have cb := Lib.hid (CB.out xa xl.length xcap xl wr rfl (by unfold maxLen; omega))
      have NX : Hid (DK.okB D (D.bs.getD k []) = (DK.sized xl && decide (xl.length = 0))) := by show _ = _; rw [hx]; simp [DK.okB, HD.out]
      have SZ : Hid (xl.length = 0 → DK.sized xl = true) := fun h => by rw [DK.sized_iff]; exact .inl h
      have Hk := Lib.hid hlt
      clear hxr hx
      by_cases h0 : xl.length = 0
      · rw [SZ.out h0] at cb
        rw [SZ.out h0, h0] at NX
        rw [h0] at cb hcell
        clear h0 hsm hft SZ
        go_wp2_with fail
        refine cb.out.mono ?_
        rintro e w2 ⟨rfl, rfl⟩
        go_wp2_with fail
        go_roundw
        case rel =>
          refine ⟨k + 1, by have := Hk.out; omega, by go_num, fun j hj => ?_, by first | rfl | trivial⟩
          rcases Nat.lt_or_ge j k with h | h
          · exact HG.out j h
          · obtain rfl : j = k := by omega
            exact NX.out
        case measure => have := Hk.out; simp [intOf]; omega
      · have e0 : ((xl.length : Int) == 0) = false := by rw [beq_eq_false_iff_ne]; omega
        have K8 : Hid (DK.kcode D = 8) := bad1.out k hlt (by rw [NX.out]; simp [h0])
        clear NX SZ
        generalize xl.length = q at *
        rcases Bool.eq_false_or_eq_true (DK.sized xl) with hz | hz
        · rw [hz] at cb
          clear hz
          go_wp2_with fail
          refine cb.out.mono ?_
          rintro e w2 ⟨rfl, rfl⟩
          go_wp2_with fail
          try rw [Exit.noGoto_ret]
          go_ret
          exact ⟨by rw [K8.out]; rfl, hb⟩
        · rw [hz] at cb
          clear hz
          go_wp2_with fail
          refine cb.out.mono ?_
          rintro e w2 ⟨rfl, rfl⟩
          go_wp2_with fail
          try rw [Exit.noGoto_ret]
          go_ret
          exact ⟨by rw [K8.out]; rfl, hb⟩
    · obtain rfl : k = n := by omega
      go_wp2_with fail
      go_loopw [54] (fun i w2 => i = .int .i64 0 ∧ w2 = wr) (fun _ _ => 0)
      case atStart => exact ⟨rfl, rfl⟩
      case round =>
        obtain ⟨rfl, rfl⟩ := hrel
        go_wp2_with fail
        try rw [Exit.noGoto_ret]
        go_ret
        refine ⟨?_, hb⟩
        rw [good.out HG.out (fun j hj => absurd hj (Nat.not_lt_zero _)) (fun _ => by first | rfl | trivial)]
        rfl
set_option maxRecDepth 100000 in
set_option maxHeartbeats 1000000 in
theorem check_live (a : Option Addr) (n c : Nat) (a' : Option Addr) (n' c' : Nat) (D : Dv) (w : World) (hr : DevAt w.heap.size w a n c a' n' c' D) (h1 : ¬ n < 1) (h2 : ¬ n > 256) (h3 : ¬ n' > 1024) (h4 : ¬ (D.dead = true ∧ n' ≠ 0)) (hd : D.dead = false) :
    Calls Try.prog 40 #[.agg #[.slice a n c, .slice a' n' c', .bool D.dead]] w fun e w' => e = .returned (.int .i64 (DK.kcode D : Nat)) ∧ Below w.heap.size w w' := by
  obtain ⟨hn, hn'⟩ := hr.long
  obtain ⟨hs, hs'⟩ := hr.small
  unfold maxLen at hs hs'
  have hb0 : Below w.heap.size w (w.alloc (.cells #[.slice a n c, .slice a' n' c', .bool D.dead] 37)) := (Below.refl _ _).alloc (Nat.le_refl _) _
  have HB0 := Lib.hid hb0
  have Hr := Lib.hid hr
  have Hn := Lib.hid hn
  have Hn' := Lib.hid hn'
  have HI := Lib.hid (@DK.may_iff D)
  have HC : Hid (DK.may D = false → DK.kcode D = 8) := fun h => by simp [DK.kcode, h]
  have HC0 : Hid (DK.may D = true → DK.kcode D = 0) := fun h => by simp [DK.kcode, h]
  have no : Hid (¬ (1 ≤ n ∧ n ≤ 256 ∧ n' ≤ 1024 ∧ (D.dead = true → n' = 0)) → DK.kcode D = 8) := fun h => HC.out (by
    rw [← Bool.not_eq_true, DK.may_iff, ← hn, ← hn']
    intro hh
    exact h ⟨hh.1, hh.2.1, hh.2.2.1, hh.2.2.2.1⟩)
  clear hn hn' hr hb0
  -- the blocks
  have bad1 : Hid (∀ k, k < n → DK.okB D (D.bs.getD k []) = false → DK.kcode D = 8) := fun k hk h => HC.out (by
    rw [← Bool.not_eq_true, DK.may_iff]
    intro hh
    have := hh.2.2.2.2.1 (D.bs.getD k []) (mem_getD (by rw [← Hn.out]; exact hk))
    rw [h] at this; cases this)
  have bad2 : Hid (∀ k, k < n' → DK.okW D (D.ws.getD k (0, [])) = false → DK.kcode D = 8) := fun k hk h => HC.out (by
    rw [← Bool.not_eq_true, DK.may_iff]
    intro hh
    have := hh.2.2.2.2.2 (D.ws.getD k (0, [])) (mem_getD (by rw [← Hn'.out]; exact hk))
    rw [h] at this; cases this)
  have good : Hid ((∀ k, k < n → DK.okB D (D.bs.getD k []) = true) → (∀ k, k < n' → DK.okW D (D.ws.getD k (0, [])) = true) → (D.dead = true → n' = 0) → DK.kcode D = 0) := fun g1 g2 g3 => HC0.out (by
    rw [DK.may_iff]
    refine ⟨by rw [← Hn.out]; omega, by rw [← Hn.out]; omega, by rw [← Hn'.out]; omega, by rw [← Hn'.out]; exact g3, ?_, ?_⟩
    · intro l hl
      obtain ⟨j, hj, rfl⟩ := List.mem_iff_getElem.1 hl
      have := g1 j (by rw [Hn.out]; exact hj)
      simpa [List.getD, hj] using this
    · intro l hl
      obtain ⟨j, hj, rfl⟩ := List.mem_iff_getElem.1 hl
      have := g2 j (by rw [Hn'.out]; exact hj)
      simpa [List.getD, hj] using this)
  have CH : Hid (∀ (at_ : Int) w1, Calls Try.prog 69 #[.agg #[.slice a n c, .slice a' n' c', .bool D.dead], .int .i64 at_] w1 fun e w' => e = .returned (.bool (DK.has D at_)) ∧ Below w1.heap.size w1 w') := fun at_ w1 => has_any a n c a' n' c' D at_ w1 Hn.out (by unfold maxLen; omega)
  have CB : Hid (∀ (x : Option Addr) (len cap : Nat) (l : List Nat) (w1 : World), len = l.length → len ≤ maxLen → Calls Try.prog 68 #[.slice x len cap] w1 fun e w' => e = .returned (.bool (DK.sized l)) ∧ w1 = w') := isBlock_any
  have H4 := Lib.hid h4
  clear HI HC HC0 no h4
  have HD := Lib.hid hd
  rw [hd] at HB0 CH ⊢
  clear hd H4
  go_enter Try.func40, Try.ntmps40
  go_wp2
  have hb := HB0.out
  have hx := Bx.new w [.slice a n c, .slice a' n' c', .bool false] 37
  generalize w.alloc (.cells #[.slice a n c, .slice a' n' c', .bool false] 37) = w1 at *
  have HX := Lib.hid hx
  clear hx HB0
  go_loopw [34] (fun i wr => ∃ k : Nat, k ≤ n ∧ i = .int .i64 k ∧ Hid (∀ j, j < k → DK.okB D (D.bs.getD j []) = true) ∧ wr = w1) (fun i _ => n - (intOf i).toNat)
  case atStart => exact ⟨0, by omega, rfl, fun j hj => by omega, rfl⟩
  case round =>
    obtain ⟨k, hk, rfl, HG, rfl⟩ := hrel
    obtain ⟨c0, c1, c2⟩ := HX.out.three
    by_cases hlt : k < n
    · obtain ⟨b, off, xa, xlen, xcap, xl, rfl, hbB, hx, hcell, hxr⟩ := (Hr.out.below hb).at k hlt
      have hsm := hxr.small
      have hft := hxr.fits
      unfold maxLen at hsm
      obtain rfl := hxr.long
      have cb := Lib.hid (CB.out xa xl.length xcap xl wr rfl (by unfold maxLen; omega))
      have NX : Hid (DK.okB D (D.bs.getD k []) = DK.sized xl) := by show _ = _; rw [hx]; simp [DK.okB, HD.out]
      have Hk := Lib.hid hlt
      clear hxr hx
      generalize xl.length = q at *
      rcases Bool.eq_false_or_eq_true (DK.sized xl) with hz | hz
      · rw [hz] at cb NX
        clear hz
        go_wp2_with fail
        refine cb.out.mono ?_
        rintro e w2 ⟨rfl, rfl⟩
        go_wp2_with fail
        go_roundw
        case rel =>
          refine ⟨k + 1, by have := Hk.out; omega, by go_num, fun j hj => ?_, by first | rfl | trivial⟩
          rcases Nat.lt_or_ge j k with h | h
          · exact HG.out j h
          · obtain rfl : j = k := by omega
            exact NX.out
        case measure => have := Hk.out; simp [intOf]; omega
      · rw [hz] at cb NX
        clear hz
        have K8 : Hid (DK.kcode D = 8) := bad1.out k Hk.out NX.out
        go_wp2_with fail
        refine cb.out.mono ?_
        rintro e w2 ⟨rfl, rfl⟩
        go_wp2_with fail
        try rw [Exit.noGoto_ret]
        go_ret
        exact ⟨by rw [K8.out]; rfl, hb⟩
    · obtain rfl : k = n := by omega
      go_wp2_with fail
      go_loopw [54] (fun i w2 => ∃ k : Nat, k ≤ n' ∧ i = .int .i64 k ∧ Hid (∀ j, j < k → DK.okW D (D.ws.getD j (0, [])) = true) ∧ Below wr.heap.size wr w2) (fun i _ => n' - (intOf i).toNat)
      case atStart => exact ⟨0, by omega, rfl, (fun j hj => absurd hj (Nat.not_lt_zero _) : ∀ j, j < 0 → _), Below.refl _ _⟩
      case round =>
        obtain ⟨m, hm, rfl, HG2, kb⟩ := hrel
        obtain ⟨d0, d1, d2⟩ := (HX.out.here kb).three
        by_cases hlt : m < n'
        · obtain ⟨b, off, z, xa, xlen, xcap, xl, rfl, hbB, hx, hcell, hcell2, hxr⟩ := ((Hr.out.here hb).below kb).wat m hlt
          have hsm := hxr.small
          have hft := hxr.fits
          unfold maxLen at hsm
          obtain rfl := hxr.long
          have cb := Lib.hid (fun w1 => CB.out xa xl.length xcap xl w1 rfl (by unfold maxLen; omega))
          have NX : Hid (DK.okW D (D.ws.getD m (0, [])) = (DK.has D z && DK.sized xl)) := by show _ = _; rw [hx]; rfl
          have Hm := Lib.hid hlt
          have hgl : w.heap.size < wr.heap.size := (HX.out.here kb).lt
          clear hxr hx
          generalize xl.length = q at *
          have bx6 := Bx.new wr [.int .i64 z, .slice xa q xcap] 64
          have wb := kb.alloc kb.size (.cells [.int .i64 z, .slice xa q xcap].toArray 64)
          have BX6 := Lib.hid bx6
          have WB := Lib.hid wb
          clear bx6 wb
          have step : Hid (DK.okW D (D.ws.getD m (0, [])) = true → ∀ j, j < m + 1 → DK.okW D (D.ws.getD j (0, [])) = true) := fun h j hj => (by
            rcases Nat.lt_or_ge j m with h1 | h1
            · exact HG2.out j h1
            · obtain rfl : j = m := by omega
              exact h)
          have K8 : Hid (DK.okW D (D.ws.getD m (0, [])) = false → DK.kcode D = 8) := bad2.out m Hm.out
          have CH' := Lib.hid (CH.out z (wr.alloc (.cells #[.int .i64 z, .slice xa q xcap] 64)))
          rcases Bool.eq_false_or_eq_true (DK.has D z) with hz | hz
          · rw [hz] at CH' NX
            clear hz
            rcases Bool.eq_false_or_eq_true (DK.sized xl) with hy | hy
            · rw [hy] at cb NX
              clear hy
              go_wp2_with fail
              refine CH'.out.mono ?_
              rintro e w3 ⟨rfl, b3⟩
              obtain ⟨e0, e1⟩ := (BX6.out.here b3).two
              have W3 := Lib.hid (thence WB.out b3 (Nat.le_refl _))
              clear b3
              go_wp2_with fail
              refine (cb.out _).mono ?_
              rintro e w4 ⟨rfl, rfl⟩
              go_wp2_with fail
              go_roundw
              case rel => exact ⟨m + 1, by have := Hm.out; omega, by go_num, step.out NX.out, W3.out⟩
              case measure => have := Hm.out; simp [intOf]; omega
            · rw [hy] at cb NX
              clear hy
              go_wp2_with fail
              refine CH'.out.mono ?_
              rintro e w3 ⟨rfl, b3⟩
              obtain ⟨e0, e1⟩ := (BX6.out.here b3).two
              have W3 := Lib.hid (thence WB.out b3 (Nat.le_refl _))
              clear b3
              go_wp2_with fail
              refine (cb.out _).mono ?_
              rintro e w4 ⟨rfl, rfl⟩
              go_wp2_with fail
              try rw [Exit.noGoto_ret]
              go_ret
              exact ⟨by rw [K8.out NX.out]; rfl, thence hb W3.out (Nat.le_refl _)⟩
          · rw [hz] at CH' NX
            clear hz
            go_wp2_with fail
            refine CH'.out.mono ?_
            rintro e w3 ⟨rfl, b3⟩
            have W3 := Lib.hid (thence WB.out b3 (Nat.le_refl _))
            clear b3
            go_wp2_with fail
            try rw [Exit.noGoto_ret]
            go_ret
            exact ⟨by rw [K8.out NX.out]; rfl, thence hb W3.out (Nat.le_refl _)⟩
        · obtain rfl : m = n' := by omega
          go_wp2_with fail
          try rw [Exit.noGoto_ret]
          go_ret
          refine ⟨?_, thence hb kb (Nat.le_refl _)⟩
          rw [good.out HG.out HG2.out (fun h => by rw [HD.out] at h; cases h)]
          rfl

theorem check_any (a : Option Addr) (n c : Nat) (a' : Option Addr) (n' c' : Nat) (D : Dv) (w : World) (hr : DevAt w.heap.size w a n c a' n' c' D) :
    Calls Try.prog 40 #[.agg #[.slice a n c, .slice a' n' c', .bool D.dead]] w fun e w' => e = .returned (.int .i64 (DK.kcode D : Nat)) ∧ Below w.heap.size w w' := by
  by_cases h : n < 1 ∨ n > 256 ∨ n' > 1024 ∨ (D.dead = true ∧ n' ≠ 0)
  · exact check_early a n c a' n' c' D w hr h
  · have h1 : ¬ n < 1 := fun x => h (.inl x)
    have h2 : ¬ n > 256 := fun x => h (.inr (.inl x))
    have h3 : ¬ n' > 1024 := fun x => h (.inr (.inr (.inl x)))
    have h4 : ¬ (D.dead = true ∧ n' ≠ 0) := fun x => h (.inr (.inr (.inr x)))
    rcases Bool.eq_false_or_eq_true D.dead with hd | hd
    · exact check_dead a n c a' n' c' D w hr h1 h2 h3 h4 hd
    · exact check_live a n c a' n' c' D w hr h1 h2 h3 h4 hd
end Go.Proofs.Ytnhfkfihlkbkfaa.PW

namespace Go.Proofs.Ytnhfkfihlkbkfaa.PW
open Go.RowKit
open DK (Dv)
set_option linter.unusedVariables false
set_option maxRecDepth 100000

set_option maxRecDepth 100000 in
set_option maxHeartbeats 1000000 in
theorem may_early (a : Option Addr) (n c : Nat) (a' : Option Addr) (n' c' : Nat) (D : Dv) (w : World) (hr : DevAt w.heap.size w a n c a' n' c' D) (hbad : n < 1 ∨ n > 256 ∨ n' > 1024 ∨ (D.dead = true ∧ n' ≠ 0)) :
    Calls Try.prog 75 #[.agg #[.slice a n c, .slice a' n' c', .bool D.dead]] w fun e w' => e = .returned (.bool (DK.may D)) ∧ Below w.heap.size w w' := by
  obtain ⟨hn, hn'⟩ := hr.long
  obtain ⟨hs, hs'⟩ := hr.small
  unfold maxLen at hs hs'
  have hb0 : Below w.heap.size w (w.alloc (.cells #[.slice a n c, .slice a' n' c', .bool D.dead] 37)) := (Below.refl _ _).alloc (Nat.le_refl _) _
  have HB0 := Lib.hid hb0
  have Hr := Lib.hid hr
  have Hn := Lib.hid hn
  have Hn' := Lib.hid hn'
  have HI := Lib.hid (@DK.may_iff D)
  have HC : Hid (DK.may D = false → DK.may D = false) := fun h => h
  have HC0 : Hid (DK.may D = true → DK.may D = true) := fun h => h
  have no : Hid (¬ (1 ≤ n ∧ n ≤ 256 ∧ n' ≤ 1024 ∧ (D.dead = true → n' = 0)) → DK.may D = false) := fun h => HC.out (by
    rw [← Bool.not_eq_true, DK.may_iff, ← hn, ← hn']
    intro hh
    exact h ⟨hh.1, hh.2.1, hh.2.2.1, hh.2.2.2.1⟩)
  clear hn hn' hr hb0
  by_cases h1 : n < 1
  · rw [no.out (by omega)]
    have n0 : n = 0 := by omega
    clear HB0 Hr Hn Hn' HI HC HC0 no
    subst n0
    generalize D.dead = dd
    go_enter Try.func75, Try.ntmps75
    go_wp2
    go_ret
    exact ⟨rfl, (Below.refl _ _).alloc (Nat.le_refl _) _⟩
  by_cases h2 : n > 256
  · rw [no.out (by omega)]
    clear HB0 Hr Hn Hn' HI HC HC0 no
    generalize D.dead = dd
    go_enter Try.func75, Try.ntmps75
    go_wp2
    go_ret
    exact ⟨rfl, (Below.refl _ _).alloc (Nat.le_refl _) _⟩
  by_cases h3 : n' > 1024
  · rw [no.out (by omega)]
    clear HB0 Hr Hn Hn' HI HC HC0 no
    generalize D.dead = dd
    go_enter Try.func75, Try.ntmps75
    go_wp2
    go_ret
    exact ⟨rfl, (Below.refl _ _).alloc (Nat.le_refl _) _⟩
  by_cases h4 : D.dead = true ∧ n' ≠ 0
  · obtain ⟨hd, h4⟩ := h4
    rw [no.out (by intro h; exact h4 (h.2.2.2 hd)), hd]
    have e0 : ((n' : Int) == 0) = false := by rw [beq_eq_false_iff_ne]; omega
    clear HB0 Hr Hn Hn' HI HC HC0 no hd
    go_enter Try.func75, Try.ntmps75
    go_wp2
    go_ret
    exact ⟨rfl, (Below.refl _ _).alloc (Nat.le_refl _) _⟩
  · exact absurd hbad (by intro h; rcases h with h | h | h | h <;> first | omega | exact h4 h)
set_option maxRecDepth 100000 in
set_option maxHeartbeats 1000000 in
theorem may_dead (a : Option Addr) (n c : Nat) (a' : Option Addr) (n' c' : Nat) (D : Dv) (w : World) (hr : DevAt w.heap.size w a n c a' n' c' D) (h1 : ¬ n < 1) (h2 : ¬ n > 256) (h3 : ¬ n' > 1024) (h4 : ¬ (D.dead = true ∧ n' ≠ 0)) (hd : D.dead = true) :
    Calls Try.prog 75 #[.agg #[.slice a n c, .slice a' n' c', .bool D.dead]] w fun e w' => e = .returned (.bool (DK.may D)) ∧ Below w.heap.size w w' := by
  obtain ⟨hn, hn'⟩ := hr.long
  obtain ⟨hs, hs'⟩ := hr.small
  unfold maxLen at hs hs'
  have hb0 : Below w.heap.size w (w.alloc (.cells #[.slice a n c, .slice a' n' c', .bool D.dead] 37)) := (Below.refl _ _).alloc (Nat.le_refl _) _
  have HB0 := Lib.hid hb0
  have Hr := Lib.hid hr
  have Hn := Lib.hid hn
  have Hn' := Lib.hid hn'
  have HI := Lib.hid (@DK.may_iff D)
  have HC : Hid (DK.may D = false → DK.may D = false) := fun h => h
  have HC0 : Hid (DK.may D = true → DK.may D = true) := fun h => h
  have no : Hid (¬ (1 ≤ n ∧ n ≤ 256 ∧ n' ≤ 1024 ∧ (D.dead = true → n' = 0)) → DK.may D = false) := fun h => HC.out (by
    rw [← Bool.not_eq_true, DK.may_iff, ← hn, ← hn']
    intro hh
    exact h ⟨hh.1, hh.2.1, hh.2.2.1, hh.2.2.2.1⟩)
  clear hn hn' hr hb0
  -- the blocks
  have bad1 : Hid (∀ k, k < n → DK.okB D (D.bs.getD k []) = false → DK.may D = false) := fun k hk h => HC.out (by
    rw [← Bool.not_eq_true, DK.may_iff]
    intro hh
    have := hh.2.2.2.2.1 (D.bs.getD k []) (mem_getD (by rw [← Hn.out]; exact hk))
    rw [h] at this; cases this)
  have bad2 : Hid (∀ k, k < n' → DK.okW D (D.ws.getD k (0, [])) = false → DK.may D = false) := fun k hk h => HC.out (by
    rw [← Bool.not_eq_true, DK.may_iff]
    intro hh
    have := hh.2.2.2.2.2 (D.ws.getD k (0, [])) (mem_getD (by rw [← Hn'.out]; exact hk))
    rw [h] at this; cases this)
  have good : Hid ((∀ k, k < n → DK.okB D (D.bs.getD k []) = true) → (∀ k, k < n' → DK.okW D (D.ws.getD k (0, [])) = true) → (D.dead = true → n' = 0) → DK.may D = true) := fun g1 g2 g3 => HC0.out (by
    rw [DK.may_iff]
    refine ⟨by rw [← Hn.out]; omega, by rw [← Hn.out]; omega, by rw [← Hn'.out]; omega, by rw [← Hn'.out]; exact g3, ?_, ?_⟩
    · intro l hl
      obtain ⟨j, hj, rfl⟩ := List.mem_iff_getElem.1 hl
      have := g1 j (by rw [Hn.out]; exact hj)
      simpa [List.getD, hj] using this
    · intro l hl
      obtain ⟨j, hj, rfl⟩ := List.mem_iff_getElem.1 hl
      have := g2 j (by rw [Hn'.out]; exact hj)
      simpa [List.getD, hj] using this)
  have CB : Hid (∀ (x : Option Addr) (len cap : Nat) (l : List Nat) (w1 : World), len = l.length → len ≤ maxLen → Calls Try.prog 76 #[.slice x len cap] w1 fun e w' => e = .returned (.bool (DK.sized l)) ∧ w1 = w') := refSized_any
  have H4 := Lib.hid h4
  clear HI HC HC0 no h4
  have n0 : n' = 0 := Decidable.byContradiction fun h => H4.out ⟨hd, h⟩
  have HD := Lib.hid hd
  rw [hd] at HB0 ⊢
  clear hd h3 hs' H4
  subst n0
  go_enter Try.func75, Try.ntmps75
  go_wp2
  have hb := HB0.out
  have hx := Bx.new w [.slice a n c, .slice a' 0 c', .bool true] 37
  generalize w.alloc (.cells #[.slice a n c, .slice a' 0 c', .bool true] 37) = w1 at *
  have HX := Lib.hid hx
  clear hx HB0
  go_loopw [3] (fun i wr => ∃ k : Nat, k ≤ n ∧ i = .int .i64 k ∧ Hid (∀ j, j < k → DK.okB D (D.bs.getD j []) = true) ∧ wr = w1) (fun i _ => n - (intOf i).toNat)
  case atStart => exact ⟨0, by omega, rfl, fun j hj => by omega, rfl⟩
  case round =>
    obtain ⟨k, hk, rfl, HG, rfl⟩ := hrel
    obtain ⟨c0, c1, c2⟩ := HX.out.three
    by_cases hlt : k < n
    · obtain ⟨b, off, xa, xlen, xcap, xl, rfl, hbB, hx, hcell, hxr⟩ := (Hr.out.below hb).at k hlt
      have hsm := hxr.small
      have hft := hxr.fits
      unfold maxLen at hsm
      obtain rfl := hxr.long
      have cb := Lib.hid (CB.out xa xl.length xcap xl wr rfl (by unfold maxLen; omega))
      have NX : Hid (DK.okB D (D.bs.getD k []) = (DK.sized xl && decide (xl.length = 0))) := by show _ = _; rw [hx]; simp [DK.okB, HD.out]
      have SZ : Hid (xl.length = 0 → DK.sized xl = true) := fun h => by rw [DK.sized_iff]; exact .inl h
      have Hk := Lib.hid hlt
      clear hxr hx
      by_cases h0 : xl.length = 0
      · rw [SZ.out h0] at cb
        rw [SZ.out h0, h0] at NX
        rw [h0] at cb hcell
        clear h0 hsm hft SZ
        go_wp2_with fail
        refine cb.out.mono ?_
        rintro e w2 ⟨rfl, rfl⟩
        go_wp2_with fail
        go_roundw
        case rel =>
          refine ⟨k + 1, by have := Hk.out; omega, by go_num, fun j hj => ?_, by first | rfl | trivial⟩
          rcases Nat.lt_or_ge j k with h | h
          · exact HG.out j h
          · obtain rfl : j = k := by omega
            exact NX.out
        case measure => have := Hk.out; simp [intOf]; omega
      · have e0 : ((xl.length : Int) == 0) = false := by rw [beq_eq_false_iff_ne]; omega
        have K8 : Hid (DK.may D = false) := bad1.out k hlt (by rw [NX.out]; simp [h0])
        clear NX SZ
        generalize xl.length = q at *
        rcases Bool.eq_false_or_eq_true (DK.sized xl) with hz | hz
        · rw [hz] at cb
          clear hz
          go_wp2_with fail
          refine cb.out.mono ?_
          rintro e w2 ⟨rfl, rfl⟩
          go_wp2_with fail
          try rw [Exit.noGoto_ret]
          go_ret
          exact ⟨by rw [K8.out]; rfl, hb⟩
        · rw [hz] at cb
          clear hz
          go_wp2_with fail
          refine cb.out.mono ?_
          rintro e w2 ⟨rfl, rfl⟩
          go_wp2_with fail
          try rw [Exit.noGoto_ret]
          go_ret
          exact ⟨by rw [K8.out]; rfl, hb⟩
    · obtain rfl : k = n := by omega
      go_wp2_with fail
      go_loopw [4] (fun i w2 => i = .int .i64 0 ∧ w2 = wr) (fun _ _ => 0)
      case atStart => exact ⟨rfl, rfl⟩
      case round =>
        obtain ⟨rfl, rfl⟩ := hrel
        go_wp2_with fail
        try rw [Exit.noGoto_ret]
        go_ret
        refine ⟨?_, hb⟩
        rw [good.out HG.out (fun j hj => absurd hj (Nat.not_lt_zero _)) (fun _ => by first | rfl | trivial)]
        rfl
set_option maxRecDepth 100000 in
set_option maxHeartbeats 1000000 in
theorem may_live (a : Option Addr) (n c : Nat) (a' : Option Addr) (n' c' : Nat) (D : Dv) (w : World) (hr : DevAt w.heap.size w a n c a' n' c' D) (h1 : ¬ n < 1) (h2 : ¬ n > 256) (h3 : ¬ n' > 1024) (h4 : ¬ (D.dead = true ∧ n' ≠ 0)) (hd : D.dead = false) :
    Calls Try.prog 75 #[.agg #[.slice a n c, .slice a' n' c', .bool D.dead]] w fun e w' => e = .returned (.bool (DK.may D)) ∧ Below w.heap.size w w' := by
  obtain ⟨hn, hn'⟩ := hr.long
  obtain ⟨hs, hs'⟩ := hr.small
  unfold maxLen at hs hs'
  have hb0 : Below w.heap.size w (w.alloc (.cells #[.slice a n c, .slice a' n' c', .bool D.dead] 37)) := (Below.refl _ _).alloc (Nat.le_refl _) _
  have HB0 := Lib.hid hb0
  have Hr := Lib.hid hr
  have Hn := Lib.hid hn
  have Hn' := Lib.hid hn'
  have HI := Lib.hid (@DK.may_iff D)
  have HC : Hid (DK.may D = false → DK.may D = false) := fun h => h
  have HC0 : Hid (DK.may D = true → DK.may D = true) := fun h => h
  have no : Hid (¬ (1 ≤ n ∧ n ≤ 256 ∧ n' ≤ 1024 ∧ (D.dead = true → n' = 0)) → DK.may D = false) := fun h => HC.out (by
    rw [← Bool.not_eq_true, DK.may_iff, ← hn, ← hn']
    intro hh
    exact h ⟨hh.1, hh.2.1, hh.2.2.1, hh.2.2.2.1⟩)
  clear hn hn' hr hb0
  -- the blocks
  have bad1 : Hid (∀ k, k < n → DK.okB D (D.bs.getD k []) = false → DK.may D = false) := fun k hk h => HC.out (by
    rw [← Bool.not_eq_true, DK.may_iff]
    intro hh
    have := hh.2.2.2.2.1 (D.bs.getD k []) (mem_getD (by rw [← Hn.out]; exact hk))
    rw [h] at this; cases this)
  have bad2 : Hid (∀ k, k < n' → DK.okW D (D.ws.getD k (0, [])) = false → DK.may D = false) := fun k hk h => HC.out (by
    rw [← Bool.not_eq_true, DK.may_iff]
    intro hh
    have := hh.2.2.2.2.2 (D.ws.getD k (0, [])) (mem_getD (by rw [← Hn'.out]; exact hk))
    rw [h] at this; cases this)
  have good : Hid ((∀ k, k < n → DK.okB D (D.bs.getD k []) = true) → (∀ k, k < n' → DK.okW D (D.ws.getD k (0, [])) = true) → (D.dead = true → n' = 0) → DK.may D = true) := fun g1 g2 g3 => HC0.out (by
    rw [DK.may_iff]
    refine ⟨by rw [← Hn.out]; omega, by rw [← Hn.out]; omega, by rw [← Hn'.out]; omega, by rw [← Hn'.out]; exact g3, ?_, ?_⟩
    · intro l hl
      obtain ⟨j, hj, rfl⟩ := List.mem_iff_getElem.1 hl
      have := g1 j (by rw [Hn.out]; exact hj)
      simpa [List.getD, hj] using this
    · intro l hl
      obtain ⟨j, hj, rfl⟩ := List.mem_iff_getElem.1 hl
      have := g2 j (by rw [Hn'.out]; exact hj)
      simpa [List.getD, hj] using this)
  have CB : Hid (∀ (x : Option Addr) (len cap : Nat) (l : List Nat) (w1 : World), len = l.length → len ≤ maxLen → Calls Try.prog 76 #[.slice x len cap] w1 fun e w' => e = .returned (.bool (DK.sized l)) ∧ w1 = w') := refSized_any
  have H4 := Lib.hid h4
  clear HI HC HC0 no h4
  have HD := Lib.hid hd
  rw [hd] at HB0 ⊢
  clear hd H4
  go_enter Try.func75, Try.ntmps75
  go_wp2
  have hb := HB0.out
  have hx := Bx.new w [.slice a n c, .slice a' n' c', .bool false] 37
  generalize w.alloc (.cells #[.slice a n c, .slice a' n' c', .bool false] 37) = w1 at *
  have HX := Lib.hid hx
  clear hx HB0
  go_loopw [3] (fun i wr => ∃ k : Nat, k ≤ n ∧ i = .int .i64 k ∧ Hid (∀ j, j < k → DK.okB D (D.bs.getD j []) = true) ∧ wr = w1) (fun i _ => n - (intOf i).toNat)
  case atStart => exact ⟨0, by omega, rfl, fun j hj => by omega, rfl⟩
  case round =>
    obtain ⟨k, hk, rfl, HG, rfl⟩ := hrel
    obtain ⟨c0, c1, c2⟩ := HX.out.three
    by_cases hlt : k < n
    · obtain ⟨b, off, xa, xlen, xcap, xl, rfl, hbB, hx, hcell, hxr⟩ := (Hr.out.below hb).at k hlt
      have hsm := hxr.small
      have hft := hxr.fits
      unfold maxLen at hsm
      obtain rfl := hxr.long
      have cb := Lib.hid (CB.out xa xl.length xcap xl wr rfl (by unfold maxLen; omega))
      have NX : Hid (DK.okB D (D.bs.getD k []) = DK.sized xl) := by show _ = _; rw [hx]; simp [DK.okB, HD.out]
      have Hk := Lib.hid hlt
      clear hxr hx
      generalize xl.length = q at *
      rcases Bool.eq_false_or_eq_true (DK.sized xl) with hz | hz
      · rw [hz] at cb NX
        clear hz
        go_wp2_with fail
        refine cb.out.mono ?_
        rintro e w2 ⟨rfl, rfl⟩
        go_wp2_with fail
        go_roundw
        case rel =>
          refine ⟨k + 1, by have := Hk.out; omega, by go_num, fun j hj => ?_, by first | rfl | trivial⟩
          rcases Nat.lt_or_ge j k with h | h
          · exact HG.out j h
          · obtain rfl : j = k := by omega
            exact NX.out
        case measure => have := Hk.out; simp [intOf]; omega
      · rw [hz] at cb NX
        clear hz
        have K8 : Hid (DK.may D = false) := bad1.out k Hk.out NX.out
        go_wp2_with fail
        refine cb.out.mono ?_
        rintro e w2 ⟨rfl, rfl⟩
        go_wp2_with fail
        try rw [Exit.noGoto_ret]
        go_ret
        exact ⟨by rw [K8.out]; rfl, hb⟩
    · obtain rfl : k = n := by omega
      go_wp2_with fail
      go_loopw [4] (fun i w2 => ∃ k : Nat, k ≤ n' ∧ i = .int .i64 k ∧ Hid (∀ j, j < k → DK.okW D (D.ws.getD j (0, [])) = true) ∧ Below wr.heap.size wr w2) (fun i _ => n' - (intOf i).toNat)
      case atStart => exact ⟨0, by omega, rfl, (fun j hj => absurd hj (Nat.not_lt_zero _) : ∀ j, j < 0 → _), Below.refl _ _⟩
      case round =>
        obtain ⟨m, hm, rfl, HG2, kb⟩ := hrel
        obtain ⟨d0, d1, d2⟩ := (HX.out.here kb).three
        by_cases hlt : m < n'
        · obtain ⟨b, off, z, xa, xlen, xcap, xl, rfl, hbB, hx, hcell, hcell2, hxr⟩ := ((Hr.out.here hb).below kb).wat m hlt
          have hsm := hxr.small
          have hft := hxr.fits
          unfold maxLen at hsm
          obtain rfl := hxr.long
          have cb := Lib.hid (fun w1 => CB.out xa xl.length xcap xl w1 rfl (by unfold maxLen; omega))
          have NX : Hid (DK.okW D (D.ws.getD m (0, [])) = (DK.has D z && DK.sized xl)) := by show _ = _; rw [hx]; rfl
          have Hm := Lib.hid hlt
          have hgl : w.heap.size < wr.heap.size := (HX.out.here kb).lt
          clear hxr hx
          generalize xl.length = q at *
          have step : Hid (DK.okW D (D.ws.getD m (0, [])) = true → ∀ j, j < m + 1 → DK.okW D (D.ws.getD j (0, [])) = true) := fun h j hj => (by
            rcases Nat.lt_or_ge j m with h1 | h1
            · exact HG2.out j h1
            · obtain rfl : j = m := by omega
              exact h)
          have K8 : Hid (DK.okW D (D.ws.getD m (0, [])) = false → DK.may D = false) := bad2.out m Hm.out
          have i0 : (0 : Int) ≤ (m : Int) := Int.natCast_nonneg _
          have i1 : (m : Int) < (n' : Int) := by have := Hm.out; omega
          have KB := Lib.hid kb
          have sq := fun nq => Calls.quiet_of_same (n := nq) ((cb.out (wr.drewN nq)).mono (fun _ _ h => ⟨h.1, h.2.symm⟩))
          clear cb
          by_cases z0 : z < 0
          · have hz : DK.has D z = false := by rw [DK.has_no]; exact .inl z0
            rw [hz] at NX
            clear hz sq
            go_wp2_with fail
            go_quiet (fail)
            go_wp2_with fail
            try rw [Exit.noGoto_ret]
            go_ret
            exact ⟨by rw [K8.out NX.out]; rfl, thence hb (below_drewN KB.out _) (Nat.le_refl _)⟩
          · have z0' : decide (z < 0) = false := by simpa using z0
            by_cases z1 : z < (k : Int)
            · have hz : DK.has D z = true := by rw [DK.has_iff, ← Hn.out]; exact ⟨by omega, z1⟩
              rw [hz] at NX
              have z1' : decide ((k : Int) ≤ z) = false := by simpa using z1
              clear hz
              rcases Bool.eq_false_or_eq_true (DK.sized xl) with hy | hy
              · rw [hy] at sq NX
                clear hy
                go_wp2_with fail
                go_quiet ((go_at_call 76; exact sq _))
                go_wp2_with fail
                go_roundw
                case rel => exact ⟨m + 1, by have := Hm.out; omega, by go_num, step.out NX.out, below_drewN KB.out _⟩
                case measure => have := Hm.out; simp [intOf]; omega
              · rw [hy] at sq NX
                clear hy
                go_wp2_with fail
                go_quiet ((go_at_call 76; exact sq _))
                go_wp2_with fail
                try rw [Exit.noGoto_ret]
                go_ret
                exact ⟨by rw [K8.out NX.out]; rfl, thence hb (below_drewN KB.out _) (Nat.le_refl _)⟩
            · have hz : DK.has D z = false := by rw [DK.has_no, ← Hn.out]; right; omega
              rw [hz] at NX
              have z1' : decide ((k : Int) ≤ z) = true := by simp; omega
              clear hz sq
              go_wp2_with fail
              go_quiet (fail)
              go_wp2_with fail
              try rw [Exit.noGoto_ret]
              go_ret
              exact ⟨by rw [K8.out NX.out]; rfl, thence hb (below_drewN KB.out _) (Nat.le_refl _)⟩
        · obtain rfl : m = n' := by omega
          go_wp2_with fail
          try rw [Exit.noGoto_ret]
          go_ret
          refine ⟨?_, thence hb kb (Nat.le_refl _)⟩
          rw [good.out HG.out HG2.out (fun h => by rw [HD.out] at h; cases h)]
          rfl

theorem may_any (a : Option Addr) (n c : Nat) (a' : Option Addr) (n' c' : Nat) (D : Dv) (w : World) (hr : DevAt w.heap.size w a n c a' n' c' D) :
    Calls Try.prog 75 #[.agg #[.slice a n c, .slice a' n' c', .bool D.dead]] w fun e w' => e = .returned (.bool (DK.may D)) ∧ Below w.heap.size w w' := by
  by_cases h : n < 1 ∨ n > 256 ∨ n' > 1024 ∨ (D.dead = true ∧ n' ≠ 0)
  · exact may_early a n c a' n' c' D w hr h
  · have h1 : ¬ n < 1 := fun x => h (.inl x)
    have h2 : ¬ n > 256 := fun x => h (.inr (.inl x))
    have h3 : ¬ n' > 1024 := fun x => h (.inr (.inr (.inl x)))
    have h4 : ¬ (D.dead = true ∧ n' ≠ 0) := fun x => h (.inr (.inr (.inr x)))
    rcases Bool.eq_false_or_eq_true D.dead with hd | hd
    · exact may_dead a n c a' n' c' D w hr h1 h2 h3 h4 hd
    · exact may_live a n c a' n' c' D w hr h1 h2 h3 h4 hd
end Go.Proofs.Ytnhfkfihlkbkfaa.PW

namespace Go.Proofs.Ytnhfkfihlkbkfaa.PW
open Go.RowKit
open DK (Dv)
set_option linter.unusedVariables false
set_option maxRecDepth 100000

/-- A device as a value. -/
abbrev dval (a : Option Addr) (n c : Nat) (a' : Option Addr) (n' c' : Nat) (dd : Bool) : Value := .agg #[.slice a n c, .slice a' n' c', .bool dd]

theorem kcode_may {D : Dv} (h : DK.may D = true) : DK.kcode D = 0 := by simp [DK.kcode, h]
theorem kcode_no {D : Dv} (h : DK.may D = false) : DK.kcode D = 8 := by simp [DK.kcode, h]

set_option maxRecDepth 100000 in
theorem place_any (a : Option Addr) (n c : Nat) (a' : Option Addr) (n' c' : Nat) (D : Dv) (at_ : Int) (w : World) (hr : DevAt w.heap.size w a n c a' n' c' D) :
    Calls Try.prog 78 #[.agg #[.slice a n c, .slice a' n' c', .bool D.dead], .int .i64 at_] w fun e w' => e = .returned (.int .i64 (DK.pcode D at_ : Nat)) ∧ Below w.heap.size w w' := by
  have hn := hr.long.1
  have hs := hr.small.1
  have hb0 : Below w.heap.size w (w.alloc (.cells #[.slice a n c, .slice a' n' c', .bool D.dead] 37)) := (Below.refl _ _).alloc (Nat.le_refl _) _
  have hx := Bx.new w [.slice a n c, .slice a' n' c', .bool D.dead] 37
  have CK := Lib.hid (check_any a n c a' n' c' D _ (hr.here hb0))
  have CH : Hid (∀ w1, Calls Try.prog 69 #[.agg #[.slice a n c, .slice a' n' c', .bool D.dead], .int .i64 at_] w1 fun e w' => e = .returned (.bool (DK.has D at_)) ∧ Below w1.heap.size w1 w') := fun w1 => has_any a n c a' n' c' D at_ w1 hn hs
  have HB := Lib.hid hb0
  have HX := Lib.hid hx
  clear hb0 hx hr hn
  rcases Bool.eq_false_or_eq_true (DK.may D) with hm | hm
  · have hk : DK.kcode D = 0 := kcode_may hm
    rw [hk] at CK
    rcases Bool.eq_false_or_eq_true (DK.has D at_) with hh | hh
    · have hp : DK.pcode D at_ = 0 := by simp [DK.pcode, hm, hh]
      rw [hp]
      rw [hh] at CH
      clear hp hk hm hh
      generalize D.dead = dd at *
      go_enter Try.func78, Try.ntmps78
      go_wp2_with fail
      refine CK.out.mono ?_
      rintro e w1 ⟨rfl, b1⟩
      obtain ⟨c0, c1, c2⟩ := (HX.out.here b1).three
      have B1 := Lib.hid (thence HB.out b1 (Nat.le_refl _))
      clear b1
      go_wp2_with fail
      refine (CH.out _).mono ?_
      rintro e w2 ⟨rfl, b2⟩
      have B2 := Lib.hid (thence B1.out b2 (Nat.le_refl _))
      clear b2
      go_wp2_with fail
      go_ret
      exact ⟨rfl, B2.out⟩
    · have hp : DK.pcode D at_ = 2 := by simp [DK.pcode, hm, hh]
      rw [hp]
      rw [hh] at CH
      clear hp hk hm hh
      generalize D.dead = dd at *
      go_enter Try.func78, Try.ntmps78
      go_wp2_with fail
      refine CK.out.mono ?_
      rintro e w1 ⟨rfl, b1⟩
      obtain ⟨c0, c1, c2⟩ := (HX.out.here b1).three
      have B1 := Lib.hid (thence HB.out b1 (Nat.le_refl _))
      clear b1
      go_wp2_with fail
      refine (CH.out _).mono ?_
      rintro e w2 ⟨rfl, b2⟩
      have B2 := Lib.hid (thence B1.out b2 (Nat.le_refl _))
      clear b2
      go_wp2_with fail
      go_ret
      exact ⟨rfl, B2.out⟩
  · have hp : DK.pcode D at_ = 8 := by simp [DK.pcode, hm]
    have hk : DK.kcode D = 8 := kcode_no hm
    rw [hp]
    rw [hk] at CK
    clear hp hk hm CH
    generalize D.dead = dd at *
    go_enter Try.func78, Try.ntmps78
    go_wp2_with fail
    refine CK.out.mono ?_
    rintro e w1 ⟨rfl, b1⟩
    have B1 := Lib.hid (thence HB.out b1 (Nat.le_refl _))
    clear b1
    go_wp2_with fail
    go_ret
    exact ⟨rfl, B1.out⟩

set_option maxRecDepth 100000 in
theorem readable_any (a : Option Addr) (n c : Nat) (a' : Option Addr) (n' c' : Nat) (D : Dv) (at_ : Int) (w : World) (hr : DevAt w.heap.size w a n c a' n' c' D) :
    Calls Try.prog 60 #[.agg #[.slice a n c, .slice a' n' c', .bool D.dead], .int .i64 at_] w fun e w' => e = .returned (.int .i64 (DK.rcode D at_ : Nat)) ∧ Below w.heap.size w w' := by
  have hb0 : Below w.heap.size w (w.alloc (.cells #[.slice a n c, .slice a' n' c', .bool D.dead] 37)) := (Below.refl _ _).alloc (Nat.le_refl _) _
  have hx := Bx.new w [.slice a n c, .slice a' n' c', .bool D.dead] 37
  have CP := Lib.hid (place_any a n c a' n' c' D at_ _ (hr.here hb0))
  have HB := Lib.hid hb0
  have HX := Lib.hid hx
  clear hb0 hx hr
  by_cases hp : DK.pcode D at_ = 0
  · have hm : DK.may D = true := by
      rcases Bool.eq_false_or_eq_true (DK.may D) with h | h
      · exact h
      · simp [DK.pcode, h] at hp
    have hh : DK.has D at_ = true := by
      rcases Bool.eq_false_or_eq_true (DK.has D at_) with h | h
      · exact h
      · simp [DK.pcode, h, hm] at hp
    rw [hp] at CP
    rcases Bool.eq_false_or_eq_true D.dead with hd | hd
    · have hq : DK.rcode D at_ = 40 := by simp [DK.rcode, hm, hh, hd]
      rw [hq]
      rw [hd] at CP HB HX ⊢
      clear hp hm hh hd hq
      go_enter Try.func60, Try.ntmps60
      go_wp2_with fail
      refine CP.out.mono ?_
      rintro e w1 ⟨rfl, b1⟩
      obtain ⟨c0, c1, c2⟩ := (HX.out.here b1).three
      have B1 := Lib.hid (thence HB.out b1 (Nat.le_refl _))
      clear b1
      go_wp2_with fail
      go_ret
      exact ⟨rfl, B1.out⟩
    · have hq : DK.rcode D at_ = 0 := by simp [DK.rcode, hm, hh, hd]
      rw [hq]
      rw [hd] at CP HB HX ⊢
      clear hp hm hh hd hq
      go_enter Try.func60, Try.ntmps60
      go_wp2_with fail
      refine CP.out.mono ?_
      rintro e w1 ⟨rfl, b1⟩
      obtain ⟨c0, c1, c2⟩ := (HX.out.here b1).three
      have B1 := Lib.hid (thence HB.out b1 (Nat.le_refl _))
      clear b1
      go_wp2_with fail
      go_ret
      exact ⟨rfl, B1.out⟩
  · have hq : DK.rcode D at_ = DK.pcode D at_ := by
      unfold DK.rcode DK.pcode at *
      split <;> simp_all
    rw [hq]
    have e0 : ((DK.pcode D at_ : Int) == 0) = false := by rw [beq_eq_false_iff_ne]; omega
    clear hp hq
    generalize DK.pcode D at_ = p at *
    generalize D.dead = dd at *
    go_enter Try.func60, Try.ntmps60
    go_wp2_with fail
    refine CP.out.mono ?_
    rintro e w1 ⟨rfl, b1⟩
    have B1 := Lib.hid (thence HB.out b1 (Nat.le_refl _))
    clear b1
    go_wp2_with fail
    go_ret
    exact ⟨rfl, B1.out⟩

set_option maxRecDepth 100000 in
theorem writable_any (a : Option Addr) (n c : Nat) (a' : Option Addr) (n' c' : Nat) (D : Dv) (at_ : Int) (b : Option Addr) (len cap : Nat) (l : List Nat) (w : World) (hr : DevAt w.heap.size w a n c a' n' c' D) (hl : len = l.length) (hs : len ≤ maxLen) :
    Calls Try.prog 63 #[.agg #[.slice a n c, .slice a' n' c', .bool D.dead], .int .i64 at_, .slice b len cap] w fun e w' => e = .returned (.int .i64 (DK.wcode D at_ l : Nat)) ∧ Below w.heap.size w w' := by
  have hb0 : Below w.heap.size w (w.alloc (.cells #[.slice a n c, .slice a' n' c', .bool D.dead] 37)) := (Below.refl _ _).alloc (Nat.le_refl _) _
  have hx := Bx.new w [.slice a n c, .slice a' n' c', .bool D.dead] 37
  have CP := Lib.hid (place_any a n c a' n' c' D at_ _ (hr.here hb0))
  have CB : Hid (∀ w1, Calls Try.prog 68 #[.slice b len cap] w1 fun e w' => e = .returned (.bool (DK.sized l)) ∧ w1 = w') := fun w1 => isBlock_any b len cap l w1 hl hs
  have HB := Lib.hid hb0
  have HX := Lib.hid hx
  clear hb0 hx hr hl
  by_cases hp : DK.pcode D at_ = 0
  · have hm : DK.may D = true := by
      rcases Bool.eq_false_or_eq_true (DK.may D) with h | h
      · exact h
      · simp [DK.pcode, h] at hp
    have hh : DK.has D at_ = true := by
      rcases Bool.eq_false_or_eq_true (DK.has D at_) with h | h
      · exact h
      · simp [DK.pcode, h, hm] at hp
    rw [hp] at CP
    rcases Bool.eq_false_or_eq_true (DK.sized l) with hz | hz
    · rw [hz] at CB
      rcases Bool.eq_false_or_eq_true D.dead with hd | hd
      · have hq : DK.wcode D at_ l = 40 := by simp [DK.wcode, hm, hh, hd, hz]
        rw [hq]
        rw [hd] at CP HB HX ⊢
        clear hp hm hh hd hq hz
        go_enter Try.func63, Try.ntmps63
        go_wp2_with fail
        refine CP.out.mono ?_
        rintro e w1 ⟨rfl, b1⟩
        obtain ⟨c0, c1, c2⟩ := (HX.out.here b1).three
        have B1 := Lib.hid (thence HB.out b1 (Nat.le_refl _))
        clear b1
        go_wp2_with fail
        refine (CB.out _).mono ?_
        rintro e w2 ⟨rfl, rfl⟩
        go_wp2_with fail
        go_ret
        exact ⟨rfl, B1.out⟩
      · have hq : DK.wcode D at_ l = 0 := by simp [DK.wcode, hm, hh, hd, hz]
        rw [hq]
        rw [hd] at CP HB HX ⊢
        clear hp hm hh hd hq hz
        go_enter Try.func63, Try.ntmps63
        go_wp2_with fail
        refine CP.out.mono ?_
        rintro e w1 ⟨rfl, b1⟩
        obtain ⟨c0, c1, c2⟩ := (HX.out.here b1).three
        have B1 := Lib.hid (thence HB.out b1 (Nat.le_refl _))
        clear b1
        go_wp2_with fail
        refine (CB.out _).mono ?_
        rintro e w2 ⟨rfl, rfl⟩
        go_wp2_with fail
        go_ret
        exact ⟨rfl, B1.out⟩
    · rw [hz] at CB
      have hq : DK.wcode D at_ l = 3 := by simp [DK.wcode, hm, hh, hz]
      rw [hq]
      clear hp hm hh hq hz
      generalize D.dead = dd at *
      go_enter Try.func63, Try.ntmps63
      go_wp2_with fail
      refine CP.out.mono ?_
      rintro e w1 ⟨rfl, b1⟩
      have B1 := Lib.hid (thence HB.out b1 (Nat.le_refl _))
      clear b1
      go_wp2_with fail
      refine (CB.out _).mono ?_
      rintro e w2 ⟨rfl, rfl⟩
      go_wp2_with fail
      go_ret
      exact ⟨rfl, B1.out⟩
  · have hq : DK.wcode D at_ l = DK.pcode D at_ := by
      unfold DK.wcode DK.pcode at *
      split <;> simp_all
    rw [hq]
    have e0 : ((DK.pcode D at_ : Int) == 0) = false := by rw [beq_eq_false_iff_ne]; omega
    clear hp hq CB
    generalize DK.pcode D at_ = p at *
    generalize D.dead = dd at *
    go_enter Try.func63, Try.ntmps63
    go_wp2_with fail
    refine CP.out.mono ?_
    rintro e w1 ⟨rfl, b1⟩
    have B1 := Lib.hid (thence HB.out b1 (Nat.le_refl _))
    clear b1
    go_wp2_with fail
    go_ret
    exact ⟨rfl, B1.out⟩

/-! The document's own. -/
end Go.Proofs.Ytnhfkfihlkbkfaa.PW
