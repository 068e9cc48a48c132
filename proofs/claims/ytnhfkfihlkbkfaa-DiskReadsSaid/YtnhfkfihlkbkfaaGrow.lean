/-
  Lists of a call's own that grow by new slices, and by writes over new slices; what a step turns, and what it leaves. Nothing here names a function of the program.
-/
import Derived.Test.YtnhfkfihlkbkfaaDisks
namespace Go.Proofs.Ytnhfkfihlkbkfaa.PW
open Go.RowKit
open DK (Dv)
set_option linter.unusedVariables false
set_option maxRecDepth 100000

theorem grownBy_trans {w w1 w2 : World} {row : Option Nat} (h : w.grownBy w1 row) (k : w1.grownBy w2 row) : w.grownBy w2 row :=
  ⟨k.os.trans h.os, k.tape.trans h.tape, k.output.trans h.output, Nat.le_trans h.size k.size, fun i hi hne => (k.block i (Nat.lt_of_lt_of_le hi h.size) hne).trans (h.block i hi hne)⟩
theorem grownBy_below {w w1 w2 : World} {row : Option Nat} (h : w.grownBy w1 row) (k : Below w1.heap.size w1 w2) : w.grownBy w2 row :=
  ⟨k.os.trans h.os, k.tape.trans h.tape, k.output.trans h.output, Nat.le_trans h.size k.size, fun i hi hne => (k.block i (Nat.lt_of_lt_of_le hi h.size)).trans (h.block i hi hne)⟩
theorem grownBy_of_below {w w1 : World} (row : Option Nat) (k : Below w.heap.size w w1) : w.grownBy w1 row := grownBy_below (World.grownBy.refl w row) k
theorem grownBy_alloc {w w1 : World} {row : Option Nat} (h : w.grownBy w1 row) (o : Obj) : w.grownBy (w1.alloc o) row := grownBy_below h ((Below.refl _ _).alloc (Nat.le_refl _) _)
theorem grownBy_drew {w w1 : World} {row : Option Nat} (h : w.grownBy w1 row) : w.grownBy w1.drew row := grownBy_below h (Below.refl _ _).drew
theorem grownBy_setCell {w w1 : World} {g : Nat} (h : w.grownBy w1 (some g)) (i : Nat) (v : Value) : w.grownBy (w1.setCell ⟨g, i, none⟩ v) (some g) :=
  ⟨h.os, h.tape, h.output, by simp [World.setCell]; exact h.size, fun k hk hne => by
    rw [Below.heap_setCell _ _ _ _ (fun e => hne (by rw [e]))]; exact h.block k hk hne⟩
/-- A step that turned one other row, of later memory. -/
theorem grownBy_other {w w1 w2 : World} {row row' : Option Nat} (h : w.grownBy w1 row) (k : w1.grownBy w2 row') (hr : ∀ b, row' = some b → w.heap.size ≤ b) : w.grownBy w2 row :=
  ⟨k.os.trans h.os, k.tape.trans h.tape, k.output.trans h.output, Nat.le_trans h.size k.size, fun i hi hne => (k.block i (Nat.lt_of_lt_of_le hi h.size) (fun e => by have := hr i e.symm; omega)).trans (h.block i hi hne)⟩
theorem Below.ofGrown {B : Nat} {w w' : World} {row : Option Nat} (h : w.grownBy w' row) (hB : B ≤ w.heap.size) (hr : ∀ b, row = some b → B ≤ b) : Below B w w' :=
  (Below.refl _ _).grown h hB hr

theorem Rd.grown {B : Nat} {w w' : World} {row : Option Nat} {a : Option Addr} {len cap : Nat} {l : List Nat} (h : Rd B w a len cap l) (hg : w.grownBy w' row) (hB : B ≤ w.heap.size) (hne : ∀ x, a = some x → l ≠ [] → row ≠ some x.block) : Rd B w' a len cap l :=
  ⟨h.long, h.fits, h.small, h.byt, h.nil, fun hl => (by
    obtain ⟨b, off, ha, hb, hc⟩ := h.cells hl
    refine ⟨b, off, ha, hb, fun i hi => ?_⟩
    have hn : some b ≠ row := fun e => hne _ ha hl e.symm
    have := World.grownBy.cell_far hg ⟨b, off + i, none⟩ (by show b < _; omega) hn
    rw [this]
    exact hc i hi)⟩
theorem Free.grown {lo : Nat} {w w' : World} {row : Option Nat} {x : Hd} (h : Free lo w x) (hg : w.grownBy w' row) (hne : ∀ b, x.a = some b → x.l ≠ [] → row ≠ some b.block) : Free lo w' x := by
  rcases h with h | ⟨g, ha, hlo, hlt, hf⟩
  · exact .inl h
  · by_cases hl : x.l = []
    · exact .inl hl
    · exact .inr ⟨g, ha, hlo, Nat.lt_of_lt_of_le hlt hg.size, fun i => by
        rw [World.grownBy.frozen_far hg ⟨g, i, none⟩ hlt (fun e => hne _ ha hl e.symm)]; exact hf i⟩

/-- A slice in memory of the call's own: it reads as it does, from block lo on, and may be written. -/
structure Item (lo : Nat) (w : World) (x : Hd) : Prop where
  rd : x.Rd w.heap.size w
  free : Free lo w x
theorem Item.block {lo : Nat} {w : World} {x : Hd} (h : Item lo w x) {b : Addr} (ha : x.a = some b) (hl : x.l ≠ []) : lo ≤ b.block ∧ b.block < w.heap.size := by
  rcases h.free with h | ⟨g, hg, h1, h2, _⟩
  · exact absurd h hl
  · rw [ha] at hg; injection hg with hg; subst hg; exact ⟨h1, h2⟩
theorem Item.grown {lo : Nat} {w w' : World} {row : Option Nat} {x : Hd} (h : Item lo w x) (hg : w.grownBy w' row) (hne : ∀ b, x.a = some b → x.l ≠ [] → row ≠ some b.block) : Item lo w' x :=
  ⟨Rd.mono (Rd.grown h.rd hg (Nat.le_refl _) hne) hg.size, h.free.grown hg hne⟩
theorem Item.here {lo : Nat} {w w' : World} {x : Hd} (h : Item lo w x) (hb : Below w.heap.size w w') : Item lo w' x := ⟨Rd.here h.rd hb, h.free.here hb⟩
theorem Item.mono {lo lo' : Nat} {w : World} {x : Hd} (h : Item lo w x) (hl : lo' ≤ lo) : Item lo' w x := ⟨h.rd, h.free.mono hl⟩
theorem Item.own {lo : Nat} {w : World} {a : Option Addr} {n c : Nat} {l : List Nat} (o : Own w lo (.slice a n c) l) (r : Rd w.heap.size w a n c l) : Item lo w ⟨a, n, c, l⟩ := ⟨r, o.free r.long⟩
/-- A store elsewhere. -/
theorem Item.setCell {lo : Nat} {w : World} {x : Hd} (h : Item lo w x) (p : Addr) (hp : p.block < lo) (v : Value) : Item lo (w.setCell p v) x :=
  h.grown (row := some p.block) ⟨rfl, rfl, rfl, by simp [World.setCell], fun k hk hne => Below.heap_setCell _ _ _ _ (fun e => hne (by rw [e]))⟩ (fun b ha hl e => by
    injection e with e
    have := (h.block ha hl).1
    omega)

/-- Slices in blocks other than that of the list that holds them. -/
def Apart (v : Value) (K : List Hd) : Prop := ∀ z ∈ K, ∀ x, z.a = some x → z.l ≠ [] → v.ownBlock ≠ some x.block
/-- A list of new slices that grows. -/
structure Grow (lo : Nat) (w : World) (v : Value) (K : List Hd) : Prop where
  own : OwnS w lo v K
  each : ∀ z ∈ K, Item lo w z
  apart : Apart v K
theorem Grow.nil (lo : Nat) (w : World) : Grow lo w (.slice none 0 0) [] := ⟨owns_nil _ _, (fun _ h => nomatch h), fun _ h => nomatch h⟩
theorem Grow.lt {lo : Nat} {w : World} {v : Value} {K : List Hd} (h : Grow lo w v K) : ∀ k, v.ownBlock = some k → lo ≤ k ∧ k < w.heap.size := fun k hk => World.ownsRow.lt h.own k hk
theorem Grow.here {lo : Nat} {w w' : World} {v : Value} {K : List Hd} (h : Grow lo w v K) (hb : Below w.heap.size w w') : Grow lo w' v K :=
  ⟨ownsRow_grown h.own hb, fun z hz => (h.each z hz).here hb, h.apart⟩
theorem Grow.drew {lo : Nat} {w : World} {v : Value} {K : List Hd} (h : Grow lo w v K) : Grow lo w.drew v K := h.here (Below.refl _ _).drew
theorem Grow.mono {lo lo' : Nat} {w : World} {v : Value} {K : List Hd} (h : Grow lo w v K) (hl : lo' ≤ lo) : Grow lo' w v K := ⟨World.ownsRow.mono h.own hl, fun z hz => (h.each z hz).mono hl, h.apart⟩
/-- What turns one other block leaves the list as it is. -/
theorem Grow.grown {lo g : Nat} {w w' : World} {v : Value} {K : List Hd} (h : Grow lo w v K) (hg : w.grownBy w' (some g)) (hlo : g < lo ∨ w.heap.size ≤ g) : Grow lo w' v K := by
  refine ⟨World.ownsRow.kept h.own hg ?_, fun z hz => (h.each z hz).grown hg (fun b ha hl e => ?_), h.apart⟩
  · right
    intro e
    have := h.lt g e
    omega
  · injection e with e
    have := (h.each z hz).block ha hl
    omega
theorem Grow.setCell {lo : Nat} {w : World} {v : Value} {K : List Hd} (h : Grow lo w v K) (p : Addr) (hp : p.block < lo) (u : Value) : Grow lo (w.setCell p u) v K :=
  h.grown (g := p.block) ⟨rfl, rfl, rfl, by simp [World.setCell], fun k hk hne => Below.heap_setCell _ _ _ _ (fun e => hne (by rw [e]))⟩ (.inl hp)

/-- One more new slice. -/
theorem Grow.step {lo : Nat} {w w5 : World} {v : Value} {K : List Hd} (G : Grow lo w v K) (hlo : lo ≤ w.heap.size) (hK : K.length ≤ 10000) (b5 : Below w.heap.size w w5)
    {a5 : Option Addr} {n5 c5 : Nat} {l5 : List Nat} (it : Item w.heap.size w5 ⟨a5, n5, c5, l5⟩) :
    ∃ v6 w6, (Builtin.append_ #[34, 34] 34 #[v, .slice (some ⟨w5.heap.size, 0, none⟩) 1 1]).run Try.prog (w5.alloc (.cells #[.slice a5 n5 c5] 31)) = .ok v6 w6 ∧
      Grow lo w6 v6 (K ++ [⟨a5, n5, c5, l5⟩]) ∧ (w5.alloc (.cells #[.slice a5 n5 c5] 31)).grownBy w6 v.ownBlock := by
  have ha5 : Below w.heap.size w (w5.alloc (.cells #[.slice a5 n5 c5] 31)) := b5.alloc b5.size _
  have hlit := rds_lit w5 (w5.alloc (.cells #[.slice a5 n5 c5] 31)) [⟨a5, n5, c5, l5⟩] #[.slice a5 n5 c5] 1 1 (0, 0) rfl rfl rfl rfl (by unfold maxLen; simp) (by
    intro h hh
    obtain rfl := List.mem_singleton.1 hh
    exact it.rd)
  have G' := G.here ha5
  have hsz : lo ≤ (w5.alloc (.cells #[.slice a5 n5 c5] 31)).heap.size := Nat.le_trans hlo ha5.size
  obtain ⟨v6, w6, r6, o6, g6, q6⟩ := append_rows _ lo v K G'.own _ _ 1 1 _ hlit (by simp; omega) hsz
  have it' : Item w.heap.size (w5.alloc (.cells #[.slice a5 n5 c5] 31)) ⟨a5, n5, c5, l5⟩ := it.here ((Below.refl _ _).alloc (Nat.le_refl _) _)
  have newne : ∀ b, a5 = some b → l5 ≠ [] → v.ownBlock ≠ some b.block := fun b ha hl e => (by
    have h1 := (it.block (b := b) ha hl).1
    have h2 := (G.lt _ e).2
    omega)
  refine ⟨v6, w6, r6, ⟨o6, ?_, ?_⟩, g6⟩
  · intro z hz
    rcases List.mem_append.1 hz with h | h
    · exact (G'.each z h).grown g6 (fun b ha hl => G.apart z h b ha hl)
    · obtain rfl := List.mem_singleton.1 h
      exact (it'.grown g6 newne).mono hlo
  · intro z hz x hx hl
    have low : x.block < (w5.alloc (.cells #[.slice a5 n5 c5] 31)).heap.size := by
      rcases List.mem_append.1 hz with h | h
      · exact ((G'.each z h).block hx hl).2
      · obtain rfl := List.mem_singleton.1 h
        exact (it'.block hx hl).2
    rcases q6 with e | e
    · rw [e]
      rcases List.mem_append.1 hz with h | h
      · exact G.apart z h x hx hl
      · obtain rfl := List.mem_singleton.1 h
        exact newne x hx hl
    · rw [e]
      intro e2
      injection e2 with e2
      omega

/-- A list of writes over new slices that grows. -/
structure GrowW (lo : Nat) (w : World) (v : Value) (K : List Wr) : Prop where
  own : OwnW w lo v K
  each : ∀ z ∈ K, Item lo w z.h
  apart : Apart v (K.map (·.h))
theorem GrowW.nil (lo : Nat) (w : World) : GrowW lo w (.slice none 0 0) [] := ⟨ownw_nil _ _, (fun _ h => nomatch h), fun _ h => nomatch h⟩
theorem GrowW.lt {lo : Nat} {w : World} {v : Value} {K : List Wr} (h : GrowW lo w v K) : ∀ k, v.ownBlock = some k → lo ≤ k ∧ k < w.heap.size := fun k hk => World.ownsRow.lt h.own k hk
theorem GrowW.here {lo : Nat} {w w' : World} {v : Value} {K : List Wr} (h : GrowW lo w v K) (hb : Below w.heap.size w w') : GrowW lo w' v K :=
  ⟨ownsRow_grown h.own hb, fun z hz => (h.each z hz).here hb, h.apart⟩
theorem GrowW.drew {lo : Nat} {w : World} {v : Value} {K : List Wr} (h : GrowW lo w v K) : GrowW lo w.drew v K := h.here (Below.refl _ _).drew
theorem GrowW.mono {lo lo' : Nat} {w : World} {v : Value} {K : List Wr} (h : GrowW lo w v K) (hl : lo' ≤ lo) : GrowW lo' w v K := ⟨World.ownsRow.mono h.own hl, fun z hz => (h.each z hz).mono hl, h.apart⟩
theorem GrowW.grown {lo g : Nat} {w w' : World} {v : Value} {K : List Wr} (h : GrowW lo w v K) (hg : w.grownBy w' (some g)) (hlo : g < lo ∨ w.heap.size ≤ g) : GrowW lo w' v K := by
  refine ⟨World.ownsRow.kept h.own hg ?_, fun z hz => (h.each z hz).grown hg (fun b ha hl e => ?_), h.apart⟩
  · right
    intro e
    have := h.lt g e
    omega
  · injection e with e
    have := (h.each z hz).block ha hl
    omega
theorem GrowW.setCell {lo : Nat} {w : World} {v : Value} {K : List Wr} (h : GrowW lo w v K) (p : Addr) (hp : p.block < lo) (u : Value) : GrowW lo (w.setCell p u) v K :=
  h.grown (g := p.block) ⟨rfl, rfl, rfl, by simp [World.setCell], fun k hk hne => Below.heap_setCell _ _ _ _ (fun e => hne (by rw [e]))⟩ (.inl hp)

/-- append of writes onto a slice of the call's own. -/
theorem append_write (w : World) (base : Nat) (v : Value) (K : List Wr) (hown : OwnW w base v K) (g : Nat) (x : Wr) (hx : w.heap[g]? = some (.cells #[.int .i64 x.n, x.h.val] 64 (0, 0)))
    (hsum : K.length + 1 ≤ 1000000) (hbase : base ≤ w.heap.size) :
    ∃ v' w', (Builtin.append_ #[35, 35] 35 #[v, .slice (some ⟨g, 0, none⟩) 1 1]).run Try.prog w = .ok v' w' ∧ OwnW w' base v' (K ++ [x]) ∧ w.grownBy w' v.ownBlock ∧ (v'.ownBlock = v.ownBlock ∨ v'.ownBlock = some w.heap.size) := by
  obtain ⟨i, hi, hz0, hz1, hz2⟩ := info_parts write_info
  unfold OwnW at hown ⊢
  obtain ⟨v', w', h1, h2, h3, _, h5⟩ := run_append_own_at (P := Try.prog) w base 35 35 64 i _ 2 32 Try.underlying35 hi hz0 hz1 hz2 rfl (by decide) v K.length _ hown ⟨g, 0, none⟩ 1 1 [.int .i64 x.n, x.h.val] rfl
    (World.news_of_block hx)
    (by
      intro u hu
      rcases List.mem_cons.1 hu with rfl | hu
      · rfl
      · obtain rfl := List.mem_singleton.1 hu
        rfl)
    (by unfold maxLen; omega) (by omega) hbase
  refine ⟨v', w', h1, ?_, h3, h5⟩
  have e : wcells K ++ [.int .i64 x.n, x.h.val] = wcells (K ++ [x]) := by rw [wcells_append]; rfl
  rw [e] at h2
  simpa using h2

theorem GrowW.step {lo : Nat} {w w5 : World} {v : Value} {K : List Wr} (G : GrowW lo w v K) (hlo : lo ≤ w.heap.size) (hK : K.length ≤ 10000) (b5 : Below w.heap.size w w5)
    (m : Int) {a5 : Option Addr} {n5 c5 : Nat} {l5 : List Nat} (it : Item w.heap.size w5 ⟨a5, n5, c5, l5⟩) :
    ∃ v6 w6, (Builtin.append_ #[35, 35] 35 #[v, .slice (some ⟨w5.heap.size, 0, none⟩) 1 1]).run Try.prog (w5.alloc (.cells #[.int .i64 m, .slice a5 n5 c5] 64)) = .ok v6 w6 ∧
      GrowW lo w6 v6 (K ++ [⟨m, ⟨a5, n5, c5, l5⟩⟩]) ∧ (w5.alloc (.cells #[.int .i64 m, .slice a5 n5 c5] 64)).grownBy w6 v.ownBlock := by
  have ha5 : Below w.heap.size w (w5.alloc (.cells #[.int .i64 m, .slice a5 n5 c5] 64)) := b5.alloc b5.size _
  have G' := G.here ha5
  have hsz : lo ≤ (w5.alloc (.cells #[.int .i64 m, .slice a5 n5 c5] 64)).heap.size := Nat.le_trans hlo ha5.size
  obtain ⟨v6, w6, r6, o6, g6, q6⟩ := append_write _ lo v K G'.own w5.heap.size ⟨m, ⟨a5, n5, c5, l5⟩⟩ (heap_alloc_new _ _) (by omega) hsz
  have it' : Item w.heap.size (w5.alloc (.cells #[.int .i64 m, .slice a5 n5 c5] 64)) ⟨a5, n5, c5, l5⟩ := it.here ((Below.refl _ _).alloc (Nat.le_refl _) _)
  have newne : ∀ b, a5 = some b → l5 ≠ [] → v.ownBlock ≠ some b.block := fun b ha hl e => (by
    have h1 := (it.block (b := b) ha hl).1
    have h2 := (G.lt _ e).2
    omega)
  refine ⟨v6, w6, r6, ⟨o6, ?_, ?_⟩, g6⟩
  · intro z hz
    rcases List.mem_append.1 hz with h | h
    · exact (G'.each z h).grown g6 (fun b ha hl => G.apart z.h (List.mem_map.2 ⟨z, h, rfl⟩) b ha hl)
    · obtain rfl := List.mem_singleton.1 h
      exact (it'.grown g6 newne).mono hlo
  · intro z hz x hx hl
    rw [List.map_append] at hz
    have low : x.block < (w5.alloc (.cells #[.int .i64 m, .slice a5 n5 c5] 64)).heap.size := by
      rcases List.mem_append.1 hz with h | h
      · obtain ⟨y, hy, rfl⟩ := List.mem_map.1 h
        exact ((G'.each y hy).block hx hl).2
      · obtain rfl := List.mem_singleton.1 h
        exact (it'.block hx hl).2
    rcases q6 with e | e
    · rw [e]
      rcases List.mem_append.1 hz with h | h
      · exact G.apart z h x hx hl
      · obtain rfl := List.mem_singleton.1 h
        exact newne x hx hl
    · rw [e]
      intro e2
      injection e2 with e2
      omega

/-- Two lists of the call's own in different memory. -/
structure Cross (vb vw : Value) (H : List Hd) (K : List Wr) : Prop where
  rows : ∀ k, vb.ownBlock = some k → vw.ownBlock ≠ some k
  left : Apart vw H
  right : Apart vb (K.map (·.h))
/-- A device of the call's own, from block lo on. -/
structure OwnDev (lo : Nat) (w : World) (v : Value) (D : Dv) : Prop where
  ex : ∃ vb vw H K, v = .agg #[vb, vw, .bool D.dead] ∧ Grow lo w vb H ∧ GrowW lo w vw K ∧ lists H = D.bs ∧ wlist K = D.ws ∧ Cross vb vw H K
theorem Grow.rds {lo : Nat} {w : World} {v : Value} {K : List Hd} (h : Grow lo w v K) : ∃ a c, v = .slice a K.length c ∧ Rds w.heap.size w a K.length c K := h.own.rds fun x hx => (h.each x hx).rd
theorem GrowW.rws {lo : Nat} {w : World} {v : Value} {K : List Wr} (h : GrowW lo w v K) : ∃ a c, v = .slice a K.length c ∧ Rws w.heap.size w a K.length c K := h.own.rws fun x hx => (h.each x hx).rd
/-- What a device of the call's own reads as. -/
theorem OwnDev.at {lo : Nat} {w : World} {v : Value} {D : Dv} (h : OwnDev lo w v D) : ∃ a n c a' n' c', v = .agg #[.slice a n c, .slice a' n' c', .bool D.dead] ∧ DevAt w.heap.size w a n c a' n' c' D := by
  obtain ⟨vb, vw, H, K, rfl, g1, g2, h3, h4, _⟩ := h.ex
  obtain ⟨a, c, rfl, r1⟩ := g1.rds
  obtain ⟨a', c', rfl, r2⟩ := g2.rws
  exact ⟨a, _, c, a', _, c', rfl, ⟨H, K, r1, r2, h3, h4⟩⟩
theorem OwnDev.here {lo : Nat} {w w' : World} {v : Value} {D : Dv} (h : OwnDev lo w v D) (hb : Below w.heap.size w w') : OwnDev lo w' v D := by
  obtain ⟨vb, vw, H, K, rfl, g1, g2, h3, h4, hc⟩ := h.ex
  exact ⟨vb, vw, H, K, rfl, g1.here hb, g2.here hb, h3, h4, hc⟩
theorem OwnDev.mono {lo lo' : Nat} {w : World} {v : Value} {D : Dv} (h : OwnDev lo w v D) (hl : lo' ≤ lo) : OwnDev lo' w v D := by
  obtain ⟨vb, vw, H, K, rfl, g1, g2, h3, h4, hc⟩ := h.ex
  exact ⟨vb, vw, H, K, rfl, g1.mono hl, g2.mono hl, h3, h4, hc⟩
/-- No device: the zero value. -/
def noDev : Value := .agg #[.slice none 0 0, .slice none 0 0, .bool false]
theorem OwnDev.nil (lo : Nat) (w : World) : OwnDev lo w noDev Dv.nil :=
  ⟨_, _, [], [], rfl, Grow.nil _ _, GrowW.nil _ _, rfl, rfl, ⟨(fun _ h => by cases h), (fun _ h => nomatch h), (fun _ h => nomatch h)⟩⟩

/-- What a call answers that hands back a device and an error's number. -/
def NewDev (w : World) (D : Dv) (c : Nat) (e : Ending) (w' : World) : Prop :=
  ∃ v, e = .returned (.tuple #[v, .int .i64 (c : Int)]) ∧ OwnDev w.heap.size w' v D ∧ Below w.heap.size w w'
/-- What a call answers that hands back a device. -/
def TheDev (w : World) (D : Dv) (e : Ending) (w' : World) : Prop :=
  ∃ v, e = .returned v ∧ OwnDev w.heap.size w' v D ∧ Below w.heap.size w w'
/-- Lists that were made one behind the other. -/
theorem Cross.later {lo : Nat} {w w' : World} {v v' : Value} {H : List Hd} {K : List Wr} (g1 : Grow lo w v H) (g2 : GrowW w.heap.size w' v' K) : Cross v v' H K := by
  refine ⟨fun k h1 h2 => ?_, fun z hz x hx hl e => ?_, fun z hz x hx hl e => ?_⟩
  · have := (g1.lt k h1).2
    have := (g2.lt k h2).1
    omega
  · have := ((g1.each z hz).block hx hl).2
    have := (g2.lt _ e).1
    omega
  · obtain ⟨y, hy, rfl⟩ := List.mem_map.1 hz
    have := ((g2.each y hy).block hx hl).1
    have := (g1.lt _ e).2
    omega
end Go.Proofs.Ytnhfkfihlkbkfaa.PW
