/-
  What every layer's walks share of lists of blocks ([][]byte): lists that came in, lists that the call made. Nothing here names a function of the program.
-/
import Derived.Test.YtnhfkfihlkbkfaaBase
import Derived.Deep.Matrix
import Derived.Deep.AppendLies
import Derived.Deep.Onto
import Derived.Laws.OwnMore
namespace Go.Proofs.Ytnhfkfihlkbkfaa.PW
open Go.RowKit
set_option linter.unusedVariables false
set_option maxRecDepth 100000

/-- One slice of bytes: where it lies, and what it reads as. -/
structure Hd where
  a : Option Addr
  len : Nat
  cap : Nat
  l : List Nat
def Hd.nil : Hd := ⟨none, 0, 0, []⟩
instance : Inhabited Hd := ⟨Hd.nil⟩
def Hd.val (h : Hd) : Value := .slice h.a h.len h.cap
def Hd.Rd (h : Hd) (B : Nat) (w : World) : Prop := PW.Rd B w h.a h.len h.cap h.l
def lists (H : List Hd) : List (List Nat) := H.map (·.l)

/-- A slice of slices of bytes that reads as the list H in the world w, in blocks below B. -/
structure Rds (B : Nat) (w : World) (a : Option Addr) (len cap : Nat) (H : List Hd) : Prop where
  long : len = H.length
  fits : H.length ≤ cap
  small : cap ≤ maxLen
  nil : a = none → len = 0 ∧ cap = 0
  cells : H ≠ [] → ∃ b off, a = some ⟨b, off, none⟩ ∧ b < B ∧ ∀ i, i < H.length → w.cell? ⟨b, off + i, none⟩ = some (H.getD i Hd.nil).val
  each : ∀ h ∈ H, h.Rd B w

theorem Rds.below {B : Nat} {w w' : World} {a : Option Addr} {len cap : Nat} {H : List Hd} (h : Rds B w a len cap H) (hb : Below B w w') : Rds B w' a len cap H :=
  ⟨h.long, h.fits, h.small, h.nil, fun hl => (by
    obtain ⟨b, off, ha, hB, hc⟩ := h.cells hl
    exact ⟨b, off, ha, hB, fun i hi => by rw [hb.cell (p := ⟨b, off + i, none⟩) hB]; exact hc i hi⟩), fun x hx => (h.each x hx).below hb⟩
theorem Rds.mono {B B' : Nat} {w : World} {a : Option Addr} {len cap : Nat} {H : List Hd} (h : Rds B w a len cap H) (hB : B ≤ B') : Rds B' w a len cap H :=
  ⟨h.long, h.fits, h.small, h.nil, fun hl => (by
    obtain ⟨b, off, ha, hb, hc⟩ := h.cells hl
    exact ⟨b, off, ha, by omega, hc⟩), fun x hx => (h.each x hx).mono hB⟩
theorem Rds.drewN {B : Nat} {w : World} {a : Option Addr} {len cap : Nat} {H : List Hd} (h : Rds B w a len cap H) (n : Nat) : Rds B (w.drewN n) a len cap H :=
  h.below (below_drewN (Below.refl _ _) n)
theorem Rds.here {w w' : World} {a : Option Addr} {len cap : Nat} {H : List Hd} (h : Rds w.heap.size w a len cap H) (hb : Below w.heap.size w w') : Rds w'.heap.size w' a len cap H :=
  (h.below hb).mono hb.size
theorem Rd.here {w w' : World} {a : Option Addr} {len cap : Nat} {l : List Nat} (h : Rd w.heap.size w a len cap l) (hb : Below w.heap.size w w') : Rd w'.heap.size w' a len cap l :=
  (h.below hb).mono hb.size
theorem rds_nil (B : Nat) (w : World) : Rds B w none 0 0 [] :=
  ⟨rfl, Nat.le_refl _, (by unfold maxLen; decide), fun _ => ⟨rfl, rfl⟩, fun h => absurd rfl h, fun _ h => nomatch h⟩

theorem mem_getD {α : Type} {L : List α} {d : α} {k : Nat} (h : k < L.length) : L.getD k d ∈ L := by
  simp only [List.getD, List.getElem?_eq_getElem h, Option.getD_some]; exact List.getElem_mem _
theorem lists_getD (H : List Hd) (k : Nat) : (lists H).getD k [] = (H.getD k Hd.nil).l := by
  unfold lists
  simp only [List.getD, List.getElem?_map]
  cases H[k]? <;> rfl
theorem lists_length (H : List Hd) : (lists H).length = H.length := by simp [lists]
theorem lists_append (H K : List Hd) : lists (H ++ K) = lists H ++ lists K := by simp [lists]
theorem lists_take (H : List Hd) (k : Nat) : lists (H.take k) = (lists H).take k := by simp [lists, List.map_take]
theorem lists_drop (H : List Hd) (k : Nat) : lists (H.drop k) = (lists H).drop k := by simp [lists, List.map_drop]
theorem lists_set (H : List Hd) (k : Nat) (x : Hd) : lists (H.set k x) = (lists H).set k x.l := by simp [lists, List.map_set]
theorem Rds.bytes {B : Nat} {w : World} {a : Option Addr} {len cap : Nat} {H : List Hd} (h : Rds B w a len cap H) : ∀ l ∈ lists H, ∀ x ∈ l, x < 256 := by
  intro l hl
  obtain ⟨x, hx, rfl⟩ := List.mem_map.1 hl
  exact (h.each x hx).byt

/-- One of a list. -/
theorem Rds.at {B : Nat} {w : World} {a : Option Addr} {len cap : Nat} {H : List Hd} (h : Rds B w a len cap H) (k : Nat) (hk : k < H.length) :
    ∃ b off xa xlen xcap xl, a = some ⟨b, off, none⟩ ∧ b < B ∧ H.getD k Hd.nil = ⟨xa, xlen, xcap, xl⟩ ∧ w.cell? ⟨b, off + k, none⟩ = some (.slice xa xlen xcap) ∧ Rd B w xa xlen xcap xl := by
  obtain ⟨b, off, ha, hB, hc⟩ := h.cells (by intro e; subst e; simp at hk)
  exact ⟨b, off, _, _, _, _, ha, hB, rfl, hc k hk, h.each _ (mem_getD hk)⟩

/-- What a datum of a slice of slices of bytes tells. -/
theorem rds_open {H : Type} {enc : TypeId × Value → H} {w : World} {base : Nat} {held : Bool} {fuel : Nat} {cs : List Value} {x : DataW H × List MemPlace}
    (h : DataW.trod enc Try.prog w base (fun _ => true) held fuel 34 cs = some x) : ∃ a len cap L, cs = [.slice a len cap] ∧ Rds w.heap.size w a len cap L := by
  have ce : Try.prog.cellsOf 31 = 1 := by kernel_rfl
  have cq : Try.prog.cellsOf 5 = 1 := by kernel_rfl
  rcases Deep.open_int_rows Try.underlying34 Try.underlying31 Try.underlying5 ce cq h with ⟨hcs, _⟩ | ⟨a, len, cap, A, L, C, Z, hcs, _, hl, hm, _, hx⟩
  · exact ⟨none, 0, 0, [], hcs, rds_nil _ _⟩
  · have each : ∀ r, r < len → ∃ y : Hd, y.val = .slice (A r) (L r) (C r) ∧ y.Rd w.heap.size w := by
      intro r hr
      obtain ⟨hc, h1, h2, h3, h4, h5, h6⟩ := hx r (by omega)
      obtain ⟨l, hl⟩ := rd_of_row (w := w) (a := A r) (len := L r) (cap := C r) (zs := Z r) (by
        cases hA : A r with
        | none =>
          have h0 := h5 hA
          have hz : Z r = [] := List.eq_nil_of_length_eq_zero (by omega)
          exact .inl ⟨rfl, by omega, h0, hz⟩
        | some y => exact .inr ⟨y, rfl, h1, h2, h3, fun i hi => (h6 y hA).2 i (by omega), h4⟩)
      exact ⟨⟨A r, L r, C r, l⟩, rfl, hl⟩
    obtain ⟨y, hy⟩ := Deep.choose_lt each
    refine ⟨some a, len, cap, (List.range len).map y, hcs, ⟨by simp, by simpa using hl, hm, (fun h => nomatch h), fun hne => ?_, fun z hz => ?_⟩⟩
    · have hlen : 0 < len := by
        rcases Nat.eq_zero_or_pos len with h0 | h0
        · subst h0; simp at hne
        · exact h0
      obtain ⟨b, off, spot⟩ := a
      have hc0 := (hx 0 (by omega)).1
      have hspot : spot = none := by simpa [Addr.add] using World.cell?_spot hc0
      subst hspot
      refine ⟨b, off, rfl, World.block_lt_of_cell? _ _ hc0, fun i hi => ?_⟩
      have hi' : i < len := by simpa using hi
      have hc := (hx i (by omega)).1
      have ea : (⟨b, off, none⟩ : Addr).add i = ⟨b, off + i, none⟩ := by unfold Addr.add; split <;> simp_all
      rw [ea] at hc
      rw [hc, ← (hy i hi').1]
      simp [List.getD, hi']
    · obtain ⟨i, hi, rfl⟩ := List.mem_map.1 hz
      exact (hy i (List.mem_range.1 hi)).2

/-- Slices that are laid in a new block. -/
theorem rds_lit (w w' : World) (H : List Hd) (A : Array Value) (len cap : Nat) (fr : Nat × Nat) (hw : w' = w.alloc (.cells A 31 fr)) (h1 : len = H.length) (h2 : cap = H.length) (hA : A = (H.map Hd.val).toArray) (hm : H.length ≤ maxLen) (each : ∀ h ∈ H, h.Rd w.heap.size w) :
    Rds w'.heap.size w' (some ⟨w.heap.size, 0, none⟩) len cap H := by
  subst hw h1 h2 hA
  refine ⟨rfl, Nat.le_refl _, hm, (fun h => nomatch h), fun _ => ⟨w.heap.size, 0, rfl, by simp, fun i hi => ?_⟩, fun x hx => ?_⟩
  · rw [World.cell?_alloc_mark]
    simp [hi, List.getD]
  · exact ((each x hx).below ((Below.refl _ _).alloc (Nat.le_refl _) _)).mono (by simp)

/-- A slice of the call's own that owns just the slices H. -/
def OwnS (w : World) (base : Nat) (v : Value) (H : List Hd) : Prop := w.ownsRow base 31 1 v H.length (H.map Hd.val)

theorem slice_info : (Try.prog.info? 31).map (fun i => (i.zero, i.size, i.bytes)) = some (some (.slice none 0 0), 1, 24) := by kernel_rfl
theorem owns_nil (w : World) (base : Nat) : OwnS w base (.slice none 0 0) [] := World.ownsRow_nil _ _ _ _

/-- append of slices onto a slice of the call's own, wherever they come from. -/
theorem append_rows (w : World) (base : Nat) (v : Value) (H : List Hd) (hown : OwnS w base v H) (B : Nat) (a : Option Addr) (len cap : Nat) (K : List Hd) (hr : Rds B w a len cap K)
    (hsum : H.length + K.length ≤ 1000000) (hbase : base ≤ w.heap.size) :
    ∃ v' w', (Builtin.append_ #[34, 34] 34 #[v, .slice a len cap]).run Try.prog w = .ok v' w' ∧ OwnS w' base v' (H ++ K) ∧ w.grownBy w' v.ownBlock ∧ (v'.ownBlock = v.ownBlock ∨ v'.ownBlock = some w.heap.size) := by
  obtain ⟨i, hi, hz0, hz1, hz2⟩ := info_parts slice_info
  obtain ⟨rfl, hf, hm, hn, hc, he⟩ := hr
  unfold OwnS at hown ⊢
  cases a with
  | none =>
    obtain ⟨h0, rfl⟩ := hn rfl
    have hl : K = [] := List.eq_nil_of_length_eq_zero h0
    subst hl
    refine ⟨v, w, ?_, by simpa using hown, World.grownBy.refl w _, .inl rfl⟩
    rcases hown.2 with ⟨rfl, h0⟩ | ⟨g, cp, cur, rfl, _, _, hnc, _⟩
    · simp [Builtin.append_, run_underlying Try.underlying34, sizeOf, typeInfo, hi, Builtin.lenOf, Builtin.firstCells]
    · simp [Builtin.append_, run_underlying Try.underlying34, sizeOf, typeInfo, hi, Builtin.lenOf, Builtin.firstCells, hnc, storeCells]
  | some x =>
    obtain ⟨v', w', h1, h2, h3, _, h5⟩ := run_append_own_at (P := Try.prog) w base 34 34 31 i (.slice none 0 0) 1 24 Try.underlying34 hi hz0 hz1 hz2 rfl (by decide) v H.length _ hown x K.length cap (K.map Hd.val) (by simp)
      (by
        intro j u hj
        have hjl : j < K.length := by
          rcases Nat.lt_or_ge j K.length with h | h
          · exact h
          · rw [List.getElem?_eq_none (by simpa using h)] at hj; cases hj
        obtain ⟨b, off, hx, hB, hcc⟩ := hc (by intro e; subst e; simp at hjl)
        obtain rfl := Option.some.inj hx
        have ea : (⟨b, off, none⟩ : Addr).add j = ⟨b, off + j, none⟩ := by unfold Addr.add; split <;> simp_all
        rw [ea, hcc j hjl]
        simp [hjl] at hj
        rw [← hj]
        simp [List.getD, hjl])
      (by
        intro u hu
        obtain ⟨n, _, rfl⟩ := List.mem_map.1 hu
        rfl)
      (by unfold maxLen; omega) (by omega) hbase
    refine ⟨v', w', h1, ?_, h3, h5⟩
    simpa using h2

theorem OwnS.rds {w : World} {base : Nat} {v : Value} {H : List Hd} (h : OwnS w base v H) (each : ∀ x ∈ H, x.Rd w.heap.size w) : ∃ a cap, v = .slice a H.length cap ∧ Rds w.heap.size w a H.length cap H := by
  rcases h.2 with ⟨rfl, h0⟩ | ⟨g, cap, cur, rfl, hg, hh, hnc, hcm, hcs, htk⟩
  · have hl : H = [] := List.eq_nil_of_length_eq_zero h0
    subst hl
    exact ⟨none, 0, rfl, rds_nil _ _⟩
  · refine ⟨_, cap, rfl, ⟨rfl, hnc, hcm, (fun h => nomatch h), fun hne => ⟨g, 0, rfl, ?_, fun i hi => ?_⟩, each⟩⟩
    · rcases Nat.lt_or_ge g w.heap.size with hlt | hge
      · exact hlt
      · rw [Array.getElem?_eq_none hge] at hh; cases hh
    · have hcell : w.cell? ⟨g, 0 + i, none⟩ = cur[0 + i]? := by simp [World.cell?, hh]
      rw [hcell, ← Array.getElem?_toList, Nat.zero_add]
      have : cur.toList[i]? = (cur.toList.take (H.length * 1))[i]? := by rw [List.getElem?_take, if_pos (by omega)]
      rw [this, htk]
      simp [List.getD, hi]

/-- The form of a slice of the call's own that is not empty. -/
theorem OwnS.form {w : World} {base : Nat} {v : Value} {H : List Hd} (h : OwnS w base v H) (hne : 0 < H.length) : ∃ g cap, v = .slice (some ⟨g, 0, none⟩) H.length cap ∧ base ≤ g ∧ g < w.heap.size ∧ H.length ≤ cap ∧ cap ≤ maxLen := by
  rcases h.2 with ⟨rfl, h0⟩ | ⟨g, cap, cur, rfl, hg, hh, hnc, hcm, hcs, htk⟩
  · omega
  · refine ⟨g, cap, rfl, hg, ?_, hnc, hcm⟩
    rcases Nat.lt_or_ge g w.heap.size with hlt | hge
    · exact hlt
    · rw [Array.getElem?_eq_none hge] at hh; cases hh
theorem Own.form {w : World} {base : Nat} {v : Value} {l : List Nat} (h : Own w base v l) (hne : 0 < l.length) : ∃ g cap, v = .slice (some ⟨g, 0, none⟩) l.length cap ∧ base ≤ g ∧ g < w.heap.size ∧ l.length ≤ cap ∧ cap ≤ maxLen := by
  rcases h.2 with ⟨rfl, h0⟩ | ⟨g, cap, cur, rfl, hg, hh, hnc, hcm, hcs, htk⟩
  · omega
  · refine ⟨g, cap, rfl, hg, ?_, hnc, hcm⟩
    rcases Nat.lt_or_ge g w.heap.size with hlt | hge
    · exact hlt
    · rw [Array.getElem?_eq_none hge] at hh; cases hh

theorem OwnS.stored {w : World} {base g cap n : Nat} {H : List Hd} (hn : n = H.length) (h : OwnS w base (.slice (some ⟨g, 0, none⟩) n cap) H) (i : Nat) (x : Hd) :
    OwnS (w.setCell ⟨g, i, none⟩ x.val) base (.slice (some ⟨g, 0, none⟩) n cap) (H.set i x) := by
  subst hn
  unfold OwnS at h ⊢
  rw [List.map_set, List.length_set]
  exact (World.ownsRow.stored h i x.val).1
theorem Own.stored {w : World} {base g cap n : Nat} {l : List Nat} (hn : n = l.length) (h : Own w base (.slice (some ⟨g, 0, none⟩) n cap) l) (i x : Nat) :
    Own (w.setCell ⟨g, i, none⟩ (.int .u8 (x : Int))) base (.slice (some ⟨g, 0, none⟩) n cap) (l.set i x) := by
  subst hn
  unfold Own at h ⊢
  rw [List.map_set, List.length_set]
  exact (World.ownsRow.stored h i (.int .u8 (x : Int))).1

/-- append onto nothing, of slices that came in; append onto a slice of the call's own. -/
theorem append_first (w : World) (a : Option Addr) (len cap : Nat) (H : List Hd) (hr : Rds w.heap.size w a len cap H) (h : H.length ≤ 1000) :
    ∃ v w', (Builtin.append_ #[34, 34] 34 #[.slice none 0 0, .slice a len cap]).run Try.prog w = .ok v w' ∧ OwnS w' w.heap.size v H ∧ Below w.heap.size w w' := by
  obtain ⟨v, w', h1, h2, h3, h4⟩ := append_rows w w.heap.size _ [] (owns_nil _ _) w.heap.size a len cap H hr (by simp; omega) (Nat.le_refl _)
  exact ⟨v, w', h1, by simpa using h2, (Below.refl _ _).grown h3 (Nat.le_refl _) (by simp [Value.ownBlock])⟩
theorem append_next (w w1 : World) (v : Value) (H : List Hd) (o : OwnS w1 w.heap.size v H) (hb : Below w.heap.size w w1) {B : Nat} (b : Option Addr) (len cap : Nat) (K : List Hd) (hr : Rds B w1 b len cap K) (h : H.length + K.length ≤ 10000) :
    ∃ v' w', (Builtin.append_ #[34, 34] 34 #[v, .slice b len cap]).run Try.prog w1 = .ok v' w' ∧ OwnS w' w.heap.size v' (H ++ K) ∧ Below w.heap.size w w' := by
  obtain ⟨v', w', h1, h2, h3, h4⟩ := append_rows w1 w.heap.size v H o B b len cap K hr (by omega) hb.size
  exact ⟨v', w', h1, h2, hb.grown h3 hb.size (fun k hk => (World.ownsRow.lt o k hk).1)⟩
theorem OwnS.alloc {w : World} {base : Nat} {v : Value} {H : List Hd} (h : OwnS w base v H) (o : Obj) : OwnS (w.alloc o) base v H := World.ownsRow.alloc h o
theorem OwnS.grown {w w' : World} {base : Nat} {v : Value} {H : List Hd} (h : OwnS w base v H) (hg : Below w.heap.size w w') : OwnS w' base v H := by
  rcases h.2 with ⟨rfl, h0⟩ | ⟨g, cap, cur, rfl, hgb, hh, rest⟩
  · exact ⟨h.1, .inl ⟨rfl, h0⟩⟩
  · refine ⟨h.1, .inr ⟨g, cap, cur, rfl, hgb, ?_, rest⟩⟩
    have hlt : g < w.heap.size := by
      rcases Nat.lt_or_ge g w.heap.size with hlt | hge
      · exact hlt
      · rw [Array.getElem?_eq_none hge] at hh; cases hh
    rw [hg.block g hlt, hh]
theorem OwnS.cell {w : World} {base g cap n : Nat} {H : List Hd} (hn : n = H.length) (h : OwnS w base (.slice (some ⟨g, 0, none⟩) n cap) H) (i : Nat) (hi : i < H.length) : w.cell? ⟨g, i, none⟩ = some (H.getD i Hd.nil).val := by
  subst hn
  rw [World.ownsRow.cellAt h i (by omega), List.getElem?_map, List.getElem?_eq_getElem hi]
  simp [List.getD, hi]
theorem OwnS.frozen {w : World} {base g cap n : Nat} {H : List Hd} (hn : n = H.length) (h : OwnS w base (.slice (some ⟨g, 0, none⟩) n cap) H) (i : Nat) : w.frozen? ⟨g, i, none⟩ = false := by
  subst hn
  exact World.ownsRow.frozenAt h i
theorem Own.cell {w : World} {base g cap n : Nat} {l : List Nat} (hn : n = l.length) (h : Own w base (.slice (some ⟨g, 0, none⟩) n cap) l) (i : Nat) (hi : i < l.length) : w.cell? ⟨g, i, none⟩ = some (.int .u8 ((l.getD i 0 : Nat) : Int)) := by
  subst hn
  rw [World.ownsRow.cellAt h i (by omega), List.getElem?_map, List.getElem?_eq_getElem hi]
  simp [List.getD, hi]
theorem Own.frozen {w : World} {base g cap n : Nat} {l : List Nat} (hn : n = l.length) (h : Own w base (.slice (some ⟨g, 0, none⟩) n cap) l) (i : Nat) : w.frozen? ⟨g, i, none⟩ = false := by
  subst hn
  exact World.ownsRow.frozenAt h i
theorem OwnS.drew {w : World} {base : Nat} {v : Value} {H : List Hd} (h : OwnS w base v H) : OwnS w.drew base v H := World.ownsRow.drew h
theorem Own.drew {w : World} {base : Nat} {v : Value} {l : List Nat} (h : Own w base v l) : Own w.drew base v l := World.ownsRow.drew h
end Go.Proofs.Ytnhfkfihlkbkfaa.PW
