/-
  Contract of layer 5's 'spoil': devices of the call's own are written over, and nothing below is.
-/
import Derived.Test.YtnhfkfihlkbkfaaActsOwn
import Derived.Test.YtnhfkfihlkbkfaaDiskSpoil
namespace Go.Proofs.Ytnhfkfihlkbkfaa.PW
open Go.RowKit
open DK (Dv)
set_option linter.unusedVariables false
set_option linter.unusedSimpArgs false
set_option maxRecDepth 100000

/-- Memory where bytes from block lo on may have turned into other bytes, and nothing else. -/
structure Bump (lo : Nat) (w w' : World) : Prop where
  below : Below lo w w'
  size : w.heap.size ≤ w'.heap.size
  cell : ∀ (p : Addr) (v : Value), w.cell? p = some v → (∀ x : Int, v ≠ .int .u8 x) → w'.cell? p = some v
  byte : ∀ (p : Addr) (x : Int), w.cell? p = some (.int .u8 x) → ∃ y : Int, w'.cell? p = some (.int .u8 y)
  frozen : ∀ p : Addr, p.block < w.heap.size → w.frozen? p = false → w'.frozen? p = false
theorem Bump.refl (lo : Nat) (w : World) : Bump lo w w := ⟨Below.refl _ _, Nat.le_refl _, fun _ _ h _ => h, fun _ x h => ⟨x, h⟩, fun _ _ h => h⟩
theorem Bump.put {lo : Nat} {w w' : World} (h : Bump lo w w') {p : Addr} {x : Int} (hp : w'.cell? p = some (.int .u8 x)) (hlo : lo ≤ p.block) (y : Int) : Bump lo w (w'.setCell p (.int .u8 y)) := by
  refine ⟨⟨h.below.os, h.below.tape, h.below.output, by simp [World.setCell]; exact h.below.size, fun i hi => by rw [Below.heap_setCell _ _ _ _ (by omega)]; exact h.below.block i hi⟩, by simp [World.setCell]; exact h.size, fun q v hq hv => ?_, fun q z hq => ?_, fun q hq hf => by rw [World.frozen?_setCell]; exact h.frozen q hq hf⟩
  · have h1 := h.cell q v hq hv
    have hne : p ≠ q := by
      rintro rfl
      rw [hp] at h1
      injection h1 with h1
      exact hv x h1.symm
    rw [World.cell?_setCell_other (h := hne)]; exact h1
  · obtain ⟨z', hz⟩ := h.byte q z hq
    by_cases e : p = q
    · subst e
      exact ⟨y, World.cell?_setCell_same _ _ _ hz⟩
    · rw [World.cell?_setCell_other (h := e)]; exact ⟨z', hz⟩

set_option maxHeartbeats 2000000 in
theorem spoilDs_any (lo : Nat) (a : Option Addr) (len cap : Nat) (L : List Dn) (w : World) (hr : Rg kDn 0 w.heap.size w a len cap L) (ho : ∀ x ∈ L, OwnI lo w.heap.size w x) :
    Calls Try.prog 26 #[.slice a len cap] w fun e w' => (∃ v, e = .returned v) ∧ Below lo w w' := by
  have Hlen := Lib.hid hr.long
  have hs := hr.small'
  have Hr := Lib.hid hr
  have HO := Lib.hid ho
  clear hr ho
  go_enter Try.func26, Try.ntmps26
  go_wp2_with fail
  go_loopw [2] (fun i wr => ∃ k : Nat, k ≤ len ∧ i = .int .i64 k ∧ Hid (Bump lo w wr)) (fun i _ => len - (intOf i).toNat)
  case atStart => exact ⟨0, by omega, rfl, Bump.refl _ _⟩
  case round =>
    obtain ⟨k, hk, rfl, SP⟩ := hrel
    by_cases hlt : k < len
    · have hkL : k < L.length := by rw [← Hlen.out]; exact hlt
      obtain ⟨ab, off, xa, xn, xc, xa', xn', xc', D, e1, hbB, e2, dv⟩ := Hr.out.dev k hkL
      subst e1
      have CX : Hid (∀ w', Bump lo w w' → ab < w'.heap.size ∧ w'.cell? ⟨ab, off + k * 3, none⟩ = some (.slice xa xn xc) ∧ w'.cell? ⟨ab, off + k * 3 + 1, none⟩ = some (.slice xa' xn' xc')) := fun w' h => by
        obtain ⟨c0, c1, c2⟩ := Hr.out.dcell hkL e2
        exact ⟨Nat.lt_of_lt_of_le hbB h.size, h.cell _ _ c0 (fun _ h => by cases h), h.cell _ _ c1 (fun _ h => by cases h)⟩
      have hm : L.getD k Dn.nil ∈ L := mem_getD hkL
      have hO := HO.out _ hm
      rw [e2] at hO
      obtain ⟨gv, gw, H, K, hS, hs1, hs2, hs3⟩ := MaySpoil.of (c := xc) (c' := xc') hO.dev
      have HS := Lib.hid hS
      have HZ := Lib.hid hs3
      have Hlt := Lib.hid hlt
      have i0 : (k : Int) < (len : Int) := by omega
      obtain ⟨hb, c0, c1⟩ := CX.out wr SP.out
      clear dv hS hs3 hO hm e2 hkL hlt
      go_wp2_with fail
      clear hb c0 c1
      go_loopw [3] (fun i wr => ∃ j : Nat, j ≤ xn ∧ i = .int .i64 j ∧ Hid (Bump lo w wr)) (fun i _ => xn - (intOf i).toNat)
      case atStart => exact ⟨0, by omega, rfl, SP.out⟩
      case round =>
        obtain ⟨j, hj, rfl, SP2⟩ := hrel
        obtain ⟨hb, c0, c1⟩ := CX.out _ SP2.out
        by_cases hjl : j < xn
        · obtain ⟨ha, hl1, hl2⟩ := HS.out.hv (by omega)
          subst ha
          have cv0 := HS.out.hvc j hjl
          have lv0 := HS.out.hvl (by omega)
          have zs := HZ.out _ (.inl ⟨j, hjl, rfl⟩)
          have IT0 := HS.out.it _ (.inl ⟨j, hjl, rfl⟩)
          have HJX := Lib.hid hjl
          have i1 : (j : Int) < (xn : Int) := by omega
          generalize H.getD j Hd.nil = y at *
          obtain ⟨ya, yn, yc, yl⟩ := y
          have IT := Lib.hid IT0
          have CV : Hid (∀ w', Bump lo w w' → gv < w'.heap.size ∧ w'.cell? ⟨gv, j, none⟩ = some (.slice ya yn yc)) := fun w' h =>
            ⟨Nat.lt_of_lt_of_le lv0 h.size, h.cell _ _ cv0 (fun _ h => by cases h)⟩
          have zs' : yn ≤ 9223372036854775807 := zs
          obtain ⟨lv, cv⟩ := CV.out _ SP2.out
          clear cv0 lv0 zs IT0 hjl hl1 hl2
          go_wp2_with fail
          clear hb c0 c1 lv cv
          go_loopw [4] (fun i wr => ∃ m : Nat, m ≤ yn ∧ i = .int .i64 m ∧ Hid (Bump lo w wr)) (fun i _ => yn - (intOf i).toNat)
          case atStart => exact ⟨0, by omega, rfl, SP2.out⟩
          case round =>
            obtain ⟨m, hm, rfl, SP3⟩ := hrel
            obtain ⟨hb, c0, c1⟩ := CX.out _ SP3.out
            obtain ⟨lv, cv⟩ := CV.out _ SP3.out
            by_cases hml : m < yn
            · obtain ⟨g, e1, e2, e3, e4, e5, e6, e7, e8⟩ := IT.out (by show 0 < yn; omega)
              have e1' : ya = some ⟨g, 0, none⟩ := e1
              subst e1'
              obtain ⟨x0, hx0⟩ := e7 m hml
              obtain ⟨x, hx⟩ := SP3.out.byte _ _ hx0
              have hfz := SP3.out.frozen ⟨g, m, none⟩ e6 (e8 m)
              have SN := Lib.hid (fun y => SP3.out.put hx e2 y)
              have HML := Lib.hid hml
              have i2 : (m : Int) < (yn : Int) := by omega
              clear e1 e7 e8 IT hml hx0 e2 e3 e4 e5 e6
              go_wp2_with fail
              go_roundw
              case rel => exact ⟨m + 1, HML.out, by go_num, SN.out _⟩
              case measure => have h1 : m < yn := HML.out; show _ < _; simp [intOf]; omega
            · have i2 : ¬ (m : Int) < (yn : Int) := by omega
              go_wp2_with fail
              go_roundw
              case rel => exact ⟨j + 1, HJX.out, by go_num, SP3.out⟩
              case measure => have := HJX.out; simp [intOf]; omega
        · have i1 : ¬ (j : Int) < (xn : Int) := by omega
          clear hjl
          go_wp2_with fail
          clear hb c0 c1
          go_loopw [5] (fun i wr => ∃ j : Nat, j ≤ xn' ∧ i = .int .i64 j ∧ Hid (Bump lo w wr)) (fun i _ => xn' - (intOf i).toNat)
          case atStart => exact ⟨0, by omega, rfl, SP2.out⟩
          case round =>
            obtain ⟨q, hq, rfl, SP4⟩ := hrel
            obtain ⟨hb, c0, c1⟩ := CX.out _ SP4.out
            by_cases hql : q < xn'
            · obtain ⟨ha, hl1, hl2⟩ := HS.out.hw (by omega)
              subst ha
              have cv0 := (HS.out.hwc q hql).2
              have lv0 := HS.out.hwl (by omega)
              have zs := HZ.out _ (.inr ⟨q, hql, rfl⟩)
              have IT0 := HS.out.it _ (.inr ⟨q, hql, rfl⟩)
              have HQX := Lib.hid hql
              have i2 : (q : Int) < (xn' : Int) := by omega
              generalize K.getD q Hd.nil = y at *
              obtain ⟨ya, yn, yc, yl⟩ := y
              have IT := Lib.hid IT0
              have CV : Hid (∀ w', Bump lo w w' → gw < w'.heap.size ∧ w'.cell? ⟨gw, q * 2 + 1, none⟩ = some (.slice ya yn yc)) := fun w' h =>
                ⟨Nat.lt_of_lt_of_le lv0 h.size, h.cell _ _ cv0 (fun _ h => by cases h)⟩
              have zs' : yn ≤ 9223372036854775807 := zs
              obtain ⟨lv, cv⟩ := CV.out _ SP4.out
              clear cv0 lv0 zs IT0 hql hl1 hl2
              go_wp2_with fail
              clear hb c0 c1 lv cv
              go_loopw [6] (fun i wr => ∃ m : Nat, m ≤ yn ∧ i = .int .i64 m ∧ Hid (Bump lo w wr)) (fun i _ => yn - (intOf i).toNat)
              case atStart => exact ⟨0, by omega, rfl, SP4.out⟩
              case round =>
                obtain ⟨m, hm, rfl, SP3⟩ := hrel
                obtain ⟨hb, c0, c1⟩ := CX.out _ SP3.out
                obtain ⟨lv, cv⟩ := CV.out _ SP3.out
                by_cases hml : m < yn
                · obtain ⟨g, e1, e2, e3, e4, e5, e6, e7, e8⟩ := IT.out (by show 0 < yn; omega)
                  have e1' : ya = some ⟨g, 0, none⟩ := e1
                  subst e1'
                  obtain ⟨x0, hx0⟩ := e7 m hml
                  obtain ⟨x, hx⟩ := SP3.out.byte _ _ hx0
                  have hfz := SP3.out.frozen ⟨g, m, none⟩ e6 (e8 m)
                  have SN := Lib.hid (fun y => SP3.out.put hx e2 y)
                  have HML := Lib.hid hml
                  have i3 : (m : Int) < (yn : Int) := by omega
                  clear e1 e7 e8 IT hml hx0 e2 e3 e4 e5 e6
                  go_wp2_with fail
                  go_roundw
                  case rel => exact ⟨m + 1, HML.out, by go_num, SN.out _⟩
                  case measure => have h1 : m < yn := HML.out; show _ < _; simp [intOf]; omega
                · have i3 : ¬ (m : Int) < (yn : Int) := by omega
                  go_wp2_with fail
                  go_roundw
                  case rel => exact ⟨q + 1, HQX.out, by go_num, SP3.out⟩
                  case measure => have := HQX.out; simp [intOf]; omega
            · have i2 : ¬ (q : Int) < (xn' : Int) := by omega
              go_wp2_with fail
              go_roundw
              case rel => exact ⟨k + 1, Hlt.out, by go_num, SP4.out⟩
              case measure => have := Hlt.out; simp [intOf]; omega
    · have i0 : ¬ (k : Int) < (len : Int) := by omega
      clear hlt
      go_wp2_with fail
      go_end0
      exact ⟨⟨_, rfl⟩, SP.out.below⟩
end Go.Proofs.Ytnhfkfihlkbkfaa.PW
