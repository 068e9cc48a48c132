/-
  Contract of the laws' 'spoil': a device of the call's own is written over, and nothing else is.
-/
import Derived.Test.YtnhfkfihlkbkfaaDiskAlive
namespace Go.Proofs.Ytnhfkfihlkbkfaa.PW
open Go.RowKit
open DK (Dv)
set_option linter.unusedVariables false
set_option maxRecDepth 100000
set_option linter.unusedSimpArgs false

/-- What turns blocks from lo up to hi alone. -/
structure Touch (lo hi : Nat) (w w' : World) : Prop where
  os : w'.os = w.os
  tape : w'.tape = w.tape
  output : w'.output = w.output
  size : w.heap.size ≤ w'.heap.size
  block : ∀ i, i < w.heap.size → i < lo ∨ hi ≤ i → w'.heap[i]? = w.heap[i]?
theorem Touch.refl (lo hi : Nat) (w : World) : Touch lo hi w w := ⟨rfl, rfl, rfl, Nat.le_refl _, fun _ _ _ => rfl⟩
theorem Touch.setCell {lo hi : Nat} {w w' : World} (h : Touch lo hi w w') (p : Addr) (h1 : lo ≤ p.block) (h2 : p.block < hi) (v : Value) : Touch lo hi w (w'.setCell p v) :=
  ⟨h.os, h.tape, h.output, by simp [World.setCell]; exact h.size, fun i hi' hne => by
    rw [Below.heap_setCell _ _ _ _ (by omega)]; exact h.block i hi' hne⟩
theorem Touch.after {lo hi : Nat} {w w1 w2 : World} (h : Below w.heap.size w w1) (k : Touch lo hi w1 w2) (hh : hi ≤ w.heap.size) : Touch lo hi w w2 :=
  ⟨k.os.trans h.os, k.tape.trans h.tape, k.output.trans h.output, Nat.le_trans h.size k.size, fun i hi' hne => (k.block i (Nat.lt_of_lt_of_le hi' h.size) hne).trans (h.block i hi')⟩
theorem Touch.below {B lo hi : Nat} {w w1 w2 : World} (h : Below B w w1) (k : Touch lo hi w1 w2) (hB : B ≤ lo) (hs : B ≤ w.heap.size) : Below B w w2 := by
  have h1 := h.size
  exact ⟨k.os.trans h.os, k.tape.trans h.tape, k.output.trans h.output, Nat.le_trans h1 k.size, fun i hi' => (k.block i (by omega) (.inl (by omega))).trans (h.block i hi')⟩
theorem Touch.bx {lo hi : Nat} {w w' : World} {g : Nat} {cs : List Value} (h : Bx w g cs) (k : Touch lo hi w w') (hg : g < lo ∨ hi ≤ g) : Bx w' g cs := by
  have hlt := h.lt
  obtain ⟨t, h⟩ := h
  exact ⟨t, by rw [k.block g hlt hg, h]⟩

/-- A device that may be written over: what lies where. -/
structure Spo (lo hi : Nat) (w : World) (a : Option Addr) (n : Nat) (a' : Option Addr) (n' : Nat) (gv gw : Nat) (H K : List Hd) : Prop where
  hv : 0 < n → a = some ⟨gv, 0, none⟩ ∧ lo ≤ gv ∧ gv < hi
  hvl : 0 < n → gv < w.heap.size
  hvc : ∀ i, i < n → w.cell? ⟨gv, i, none⟩ = some (H.getD i Hd.nil).val
  hw : 0 < n' → a' = some ⟨gw, 0, none⟩ ∧ lo ≤ gw ∧ gw < hi
  hwl : 0 < n' → gw < w.heap.size
  hwc : ∀ i, i < n' → (∃ z : Int, w.cell? ⟨gw, i * 2, none⟩ = some (.int .i64 z)) ∧ w.cell? ⟨gw, i * 2 + 1, none⟩ = some (K.getD i Hd.nil).val
  hwf : 0 < n' → ∀ j, w.frozen? ⟨gw, j, none⟩ = false
  gne : gv ≠ gw
  it : ∀ z, (∃ i, i < n ∧ z = H.getD i Hd.nil) ∨ (∃ i, i < n' ∧ z = K.getD i Hd.nil) → 0 < z.len → ∃ g, z.a = some ⟨g, 0, none⟩ ∧ lo ≤ g ∧ g < hi ∧ g ≠ gv ∧ g ≠ gw ∧ g < w.heap.size ∧ (∀ j, j < z.len → ∃ x : Int, w.cell? ⟨g, j, none⟩ = some (.int .u8 x)) ∧ ∀ j, w.frozen? ⟨g, j, none⟩ = false
theorem Spo.byte {lo hi : Nat} {w : World} {a a' : Option Addr} {n n' gv gw : Nat} {H K : List Hd} (h : Spo lo hi w a n a' n' gv gw H K) (g j : Nat) (y : Int) (h1 : g ≠ gv) (h2 : g ≠ gw) : Spo lo hi (w.setCell ⟨g, j, none⟩ (.int .u8 y)) a n a' n' gv gw H K := by
  have hsz : (w.setCell ⟨g, j, none⟩ (.int .u8 y)).heap.size = w.heap.size := by simp [World.setCell]
  refine ⟨h.hv, by rw [hsz]; exact h.hvl, fun i hi => ?_, h.hw, by rw [hsz]; exact h.hwl, fun i hi => ?_, fun hn j' => by rw [World.frozen?_setCell]; exact h.hwf hn j', h.gne, fun z hz hl => ?_⟩
  · rw [World.cell?_setCell_far _ _ _ _ h1]; exact h.hvc i hi
  · rw [World.cell?_setCell_far _ _ _ _ h2, World.cell?_setCell_far _ _ _ _ h2]; exact h.hwc i hi
  · obtain ⟨g', e1, e2, e3, e4, e5, e6, e7, e8⟩ := h.it z hz hl
    refine ⟨g', e1, e2, e3, e4, e5, by rw [hsz]; exact e6, fun j' hj' => ?_, fun j' => by rw [World.frozen?_setCell]; exact e8 j'⟩
    obtain ⟨x, hx⟩ := e7 j' hj'
    by_cases e : (⟨g, j, none⟩ : Addr) = ⟨g', j', none⟩
    · rw [← e] at hx ⊢
      exact ⟨y, World.cell?_setCell_same _ _ _ hx⟩
    · rw [World.cell?_setCell_other (h := e)]; exact ⟨x, hx⟩
theorem Spo.num {lo hi : Nat} {w : World} {a a' : Option Addr} {n n' gv gw : Nat} {H K : List Hd} (h : Spo lo hi w a n a' n' gv gw H K) (k : Nat) (y : Int) : Spo lo hi (w.setCell ⟨gw, k * 2, none⟩ (.int .i64 y)) a n a' n' gv gw H K := by
  have hsz : (w.setCell ⟨gw, k * 2, none⟩ (.int .i64 y)).heap.size = w.heap.size := by simp [World.setCell]
  refine ⟨h.hv, by rw [hsz]; exact h.hvl, fun i hi => ?_, h.hw, by rw [hsz]; exact h.hwl, fun i hi => ?_, fun hn j' => by rw [World.frozen?_setCell]; exact h.hwf hn j', h.gne, fun z hz hl => ?_⟩
  · rw [World.cell?_setCell_far _ _ _ _ (fun e => h.gne e.symm)]; exact h.hvc i hi
  · obtain ⟨⟨z, hz⟩, h2⟩ := h.hwc i hi
    refine ⟨?_, ?_⟩
    · by_cases e : (⟨gw, k * 2, none⟩ : Addr) = ⟨gw, i * 2, none⟩
      · rw [← e] at hz ⊢
        exact ⟨y, World.cell?_setCell_same _ _ _ hz⟩
      · rw [World.cell?_setCell_other (h := e)]; exact ⟨z, hz⟩
    · rw [World.cell?_setCell_other (h := (by intro e; injection e with e1 e2; omega : (⟨gw, k * 2, none⟩ : Addr) ≠ ⟨gw, i * 2 + 1, none⟩))]; exact h2
  · obtain ⟨g', e1, e2, e3, e4, e5, e6, e7, e8⟩ := h.it z hz hl
    refine ⟨g', e1, e2, e3, e4, e5, by rw [hsz]; exact e6, fun j' hj' => ?_, fun j' => by rw [World.frozen?_setCell]; exact e8 j'⟩
    rw [World.cell?_setCell_far _ _ _ _ (fun e => e5 e.symm)]
    exact e7 j' hj'
theorem cell_block {w w' : World} {p : Addr} (e : w'.heap[p.block]? = w.heap[p.block]?) : w'.cell? p = w.cell? p := by simp [World.cell?, e]
theorem frozen_block {w w' : World} {p : Addr} (e : w'.heap[p.block]? = w.heap[p.block]?) : w'.frozen? p = w.frozen? p := by simp [World.frozen?, e]
theorem Spo.keep {lo hi : Nat} {w w' : World} {a a' : Option Addr} {n n' gv gw : Nat} {H K : List Hd} (h : Spo lo hi w a n a' n' gv gw H K) (hs : w.heap.size ≤ w'.heap.size) (hb : ∀ i, i < w.heap.size → lo ≤ i → i < hi → w'.heap[i]? = w.heap[i]?) : Spo lo hi w' a n a' n' gv gw H K := by
  refine ⟨h.hv, fun hn => Nat.lt_of_lt_of_le (h.hvl hn) hs, fun i hi => ?_, h.hw, fun hn => Nat.lt_of_lt_of_le (h.hwl hn) hs, fun i hi => ?_, fun hn j => ?_, h.gne, fun z hz hl => ?_⟩
  · have h1 := h.hv (by omega)
    rw [cell_block (p := ⟨gv, i, none⟩) (hb _ (h.hvl (by omega)) h1.2.1 h1.2.2)]; exact h.hvc i hi
  · have h1 := h.hw (by omega)
    have e := hb _ (h.hwl (by omega)) h1.2.1 h1.2.2
    rw [cell_block (p := ⟨gw, i * 2, none⟩) e, cell_block (p := ⟨gw, i * 2 + 1, none⟩) e]; exact h.hwc i hi
  · have h1 := h.hw hn
    rw [frozen_block (p := ⟨gw, j, none⟩) (hb _ (h.hwl hn) h1.2.1 h1.2.2)]; exact h.hwf hn j
  · obtain ⟨g', e1, e2, e3, e4, e5, e6, e7, e8⟩ := h.it z hz hl
    have e := hb _ e6 e2 e3
    refine ⟨g', e1, e2, e3, e4, e5, Nat.lt_of_lt_of_le e6 hs, fun j' hj' => ?_, fun j' => ?_⟩
    · rw [cell_block (p := ⟨g', j', none⟩) e]; exact e7 j' hj'
    · rw [frozen_block (p := ⟨g', j', none⟩) e]; exact e8 j'
theorem Spo.grow {lo hi : Nat} {w w' : World} {a a' : Option Addr} {n n' gv gw : Nat} {H K : List Hd} (h : Spo lo hi w a n a' n' gv gw H K) (hb : Below w.heap.size w w') : Spo lo hi w' a n a' n' gv gw H K :=
  h.keep hb.size (fun i hi _ _ => hb.block i hi)
theorem Spo.touch {lo hi lo' hi' : Nat} {w w' : World} {a a' : Option Addr} {n n' gv gw : Nat} {H K : List Hd} (h : Spo lo hi w a n a' n' gv gw H K) (k : Touch lo' hi' w w') (hd : hi ≤ lo' ∨ hi' ≤ lo) : Spo lo hi w' a n a' n' gv gw H K :=
  h.keep k.size (fun i hi h1 h2 => k.block i hi (by omega))
/-- All that 'spoil' asks of a device. -/
def MaySpoil (lo hi : Nat) (w : World) (a : Option Addr) (n : Nat) (a' : Option Addr) (n' : Nat) : Prop :=
  ∃ gv gw H K, Spo lo hi w a n a' n' gv gw H K ∧ n ≤ 9223372036854775807 ∧ n' ≤ 9223372036854775807 ∧ ∀ z, (∃ i, i < n ∧ z = H.getD i Hd.nil) ∨ (∃ i, i < n' ∧ z = K.getD i Hd.nil) → z.len ≤ 9223372036854775807
theorem MaySpoil.grow {lo hi : Nat} {w w' : World} {a a' : Option Addr} {n n' : Nat} (h : MaySpoil lo hi w a n a' n') (hb : Below w.heap.size w w') : MaySpoil lo hi w' a n a' n' := by
  obtain ⟨gv, gw, H, K, hS, h1, h2, h3⟩ := h
  exact ⟨gv, gw, H, K, hS.grow hb, h1, h2, h3⟩
theorem MaySpoil.touch {lo hi lo' hi' : Nat} {w w' : World} {a a' : Option Addr} {n n' : Nat} (h : MaySpoil lo hi w a n a' n') (k : Touch lo' hi' w w') (hd : hi ≤ lo' ∨ hi' ≤ lo) : MaySpoil lo hi w' a n a' n' := by
  obtain ⟨gv, gw, H, K, hS, h1, h2, h3⟩ := h
  exact ⟨gv, gw, H, K, hS.touch k hd, h1, h2, h3⟩
theorem item_spo {lo : Nat} {w : World} {z : Hd} (h : Item lo w z) (hl : 0 < z.len) : ∃ g, z.a = some ⟨g, 0, none⟩ ∧ lo ≤ g ∧ g < w.heap.size ∧ z.l ≠ [] ∧ (∀ j, j < z.len → ∃ x : Int, w.cell? ⟨g, j, none⟩ = some (.int .u8 x)) ∧ ∀ j, w.frozen? ⟨g, j, none⟩ = false := by
  have hlen : z.len = z.l.length := h.rd.long
  have hne : z.l ≠ [] := by intro e; rw [e] at hlen; simp at hlen; omega
  rcases h.free with h0 | ⟨g, ha, hg, hlt, hf⟩
  · exact absurd h0 hne
  · obtain ⟨b, off, ha2, hb, hc⟩ := h.rd.cells hne
    rw [ha] at ha2
    injection ha2 with ha2
    injection ha2 with e1 e2
    subst e1 e2
    exact ⟨g, ha, hg, hlt, hne, fun j hj => ⟨_, by have := hc j (by omega); rwa [Nat.zero_add] at this⟩, hf⟩
theorem MaySpoil.of {lo : Nat} {w : World} {a : Option Addr} {n c : Nat} {a' : Option Addr} {n' c' : Nat} {D : Dv} (h : OwnDev lo w (.agg #[.slice a n c, .slice a' n' c', .bool D.dead]) D) : MaySpoil lo w.heap.size w a n a' n' := by
  obtain ⟨a1, n1, c1, a2, n2, c2, H, K, e0, P, _, _, hn, hn'⟩ := h.parts
  injection e0 with e0
  have ee := congrArg Array.toList e0
  clear e0
  simp only [List.cons.injEq, Value.slice.injEq, and_true] at ee
  obtain ⟨⟨rfl, rfl, rfl⟩, rfl, rfl, rfl⟩ := ee
  have FV : ∃ gv, (0 < n → a = some ⟨gv, 0, none⟩ ∧ lo ≤ gv ∧ gv < w.heap.size) ∧ (n = 0 → gv = w.heap.size) := by
    by_cases h0 : 0 < n
    · obtain ⟨g, cp, hv, h1, h2, _, _⟩ := P.bl.own.form (by omega)
      injection hv with hv _ _
      exact ⟨g, fun _ => ⟨hv, h1, h2⟩, fun e => by omega⟩
    · exact ⟨w.heap.size, fun h => absurd h h0, fun _ => rfl⟩
  have FW : ∃ gw, (0 < n' → a' = some ⟨gw, 0, none⟩ ∧ lo ≤ gw ∧ gw < w.heap.size) ∧ (n' = 0 → gw = w.heap.size + 1) := by
    by_cases h0 : 0 < n'
    · obtain ⟨g, cp, hv, h1, h2, _, _⟩ := P.wa.own.form (by omega)
      injection hv with hv _ _
      exact ⟨g, fun _ => ⟨hv, h1, h2⟩, fun e => by omega⟩
    · exact ⟨w.heap.size + 1, fun h => absurd h h0, fun _ => rfl⟩
  obtain ⟨gv, hv, hv0⟩ := FV
  obtain ⟨gw, hw, hw0⟩ := FW
  have hbig : ∀ {B : Nat} {x : Hd}, x.Rd B w → x.len ≤ 9223372036854775807 := fun {B x} hx => by
    have h1 : x.len = x.l.length := hx.long
    have h2 : x.l.length ≤ x.cap := hx.fits
    have h3 : x.cap ≤ maxLen := hx.small
    unfold maxLen at h3; omega
  have hgK : ∀ i, (K.map (·.h)).getD i Hd.nil = (K.getD i Wr.nil).h := fun i => by
    simp only [List.getD, List.getElem?_map]
    cases K[i]? <;> rfl
  have big1 : n ≤ 9223372036854775807 := by
    obtain ⟨_, _, hv, hrw⟩ := P.bl.rds
    have h1 := hrw.small; have h2 := hrw.fits
    unfold maxLen at h1; omega
  have big2 : n' ≤ 9223372036854775807 := by
    obtain ⟨_, _, hv, hrw⟩ := P.wa.rws
    have h1 := hrw.small; have h2 := hrw.fits
    unfold maxLen at h1; omega
  refine ⟨gv, gw, H, K.map (·.h), ⟨hv, fun h0 => (hv h0).2.2, fun i hi => ?_, hw, fun h0 => (hw h0).2.2, fun i hi => ?_, fun h0 j => ?_, ?_, fun z hz hl => ?_⟩, big1, big2, fun z hz => ?_⟩
  · obtain ⟨rfl, _, _⟩ := hv (by omega)
    exact P.bl.own.cell hn i (by omega)
  · obtain ⟨rfl, _, _⟩ := hw (by omega)
    rw [hgK]
    exact ⟨⟨_, (P.wa.own.cells hn' i (by omega)).1⟩, (P.wa.own.cells hn' i (by omega)).2⟩
  · obtain ⟨rfl, _, _⟩ := hw h0
    exact P.wa.own.frozen hn' j
  · intro e
    by_cases h0 : 0 < n
    · by_cases h1 : 0 < n'
      · obtain ⟨rfl, _, _⟩ := hv h0
        obtain ⟨rfl, _, _⟩ := hw h1
        exact P.cr.rows gv rfl (by rw [e]; rfl)
      · have := hw0 (by omega); have := (hv h0).2.2; omega
    · have h2 := hv0 (by omega)
      by_cases h1 : 0 < n'
      · have := (hw h1).2.2; omega
      · have := hw0 (by omega); omega
  · rcases hz with ⟨i, hi, rfl⟩ | ⟨i, hi, rfl⟩
    · have hm : H.getD i Hd.nil ∈ H := mem_getD (by omega)
      obtain ⟨g, e1, e2, e3, e4, e5, e6⟩ := item_spo (P.bl.each _ hm) hl
      refine ⟨g, e1, e2, e3, fun e => ?_, fun e => ?_, e3, e5, e6⟩
      · obtain ⟨rfl, _, _⟩ := hv (by omega)
        exact P.bl.apart _ hm _ e1 e4 (by rw [e]; rfl)
      · by_cases h1 : 0 < n'
        · obtain ⟨rfl, _, _⟩ := hw h1
          exact P.cr.left _ hm _ e1 e4 (by rw [e]; rfl)
        · have := hw0 (by omega); omega
    · rw [hgK] at hl ⊢
      have hm : K.getD i Wr.nil ∈ K := mem_getD (by omega)
      have hm' : (K.getD i Wr.nil).h ∈ K.map (·.h) := List.mem_map.2 ⟨_, hm, rfl⟩
      obtain ⟨g, e1, e2, e3, e4, e5, e6⟩ := item_spo (P.wa.each _ hm) hl
      refine ⟨g, e1, e2, e3, fun e => ?_, fun e => ?_, e3, e5, e6⟩
      · by_cases h1 : 0 < n
        · obtain ⟨rfl, _, _⟩ := hv h1
          exact P.cr.right _ hm' _ e1 e4 (by rw [e]; rfl)
        · have := hv0 (by omega); omega
      · obtain ⟨rfl, _, _⟩ := hw (by omega)
        exact P.wa.apart _ hm' _ e1 e4 (by rw [e]; rfl)
  · rcases hz with ⟨i, hi, rfl⟩ | ⟨i, hi, rfl⟩
    · exact hbig (P.bl.each _ (mem_getD (by omega))).rd
    · rw [hgK]
      exact hbig (P.wa.each _ (mem_getD (by omega))).rd

end Go.Proofs.Ytnhfkfihlkbkfaa.PW
