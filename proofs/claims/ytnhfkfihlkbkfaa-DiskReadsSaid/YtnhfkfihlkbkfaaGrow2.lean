/-
  More on lists of a call's own that grow: what a step in one of two lists leaves of the other. Nothing here names a function of the program.
-/
import Derived.Test.YtnhfkfihlkbkfaaGrow
namespace Go.Proofs.Ytnhfkfihlkbkfaa.PW
open Go.RowKit
open DK (Dv)
set_option linter.unusedVariables false
set_option maxRecDepth 100000

theorem GrowW.step' {lo : Nat} {w w5 : World} {v : Value} {K : List Wr} (G : GrowW lo w v K) (hlo : lo ≤ w.heap.size) (hK : K.length ≤ 10000) (b5 : Below w.heap.size w w5)
    (m : Int) {a5 : Option Addr} {n5 c5 : Nat} {l5 : List Nat} (it : Item w.heap.size w5 ⟨a5, n5, c5, l5⟩) :
    ∃ v6 w6, (Builtin.append_ #[35, 35] 35 #[v, .slice (some ⟨w5.heap.size, 0, none⟩) 1 1]).run Try.prog (w5.alloc (.cells #[.int .i64 m, .slice a5 n5 c5] 64)) = .ok v6 w6 ∧
      GrowW lo w6 v6 (K ++ [⟨m, ⟨a5, n5, c5, l5⟩⟩]) ∧ (w5.alloc (.cells #[.int .i64 m, .slice a5 n5 c5] 64)).grownBy w6 v.ownBlock ∧ (v6.ownBlock = v.ownBlock ∨ v6.ownBlock = some (w5.alloc (.cells #[.int .i64 m, .slice a5 n5 c5] 64)).heap.size) := by
  have ha5 : Below w.heap.size w (w5.alloc (.cells #[.int .i64 m, .slice a5 n5 c5] 64)) := b5.alloc b5.size _
  have G' := G.here ha5
  have hsz : lo ≤ (w5.alloc (.cells #[.int .i64 m, .slice a5 n5 c5] 64)).heap.size := Nat.le_trans hlo ha5.size
  obtain ⟨v6, w6, r6, o6, g6, q6⟩ := append_write _ lo v K G'.own w5.heap.size ⟨m, ⟨a5, n5, c5, l5⟩⟩ (heap_alloc_new _ _) (by omega) hsz
  have it' : Item w.heap.size (w5.alloc (.cells #[.int .i64 m, .slice a5 n5 c5] 64)) ⟨a5, n5, c5, l5⟩ := it.here ((Below.refl _ _).alloc (Nat.le_refl _) _)
  have newne : ∀ b, a5 = some b → l5 ≠ [] → v.ownBlock ≠ some b.block := fun b ha hl e => (by
    have h1 := (it.block (b := b) ha hl).1
    have h2 := (G.lt _ e).2
    omega)
  refine ⟨v6, w6, r6, ⟨o6, ?_, ?_⟩, g6, q6⟩
  · intro z hz
    rcases List.mem_append.1 hz with h | h
    · exact (G'.each z h).grown g6 (fun b ha hl => G.apart z.h (List.mem_map.2 ⟨z, h, rfl⟩) b ha hl)
    · obtain rfl := List.mem_singleton.1 h
      exact (it'.grown g6 newne).mono hlo
  · intro z hz x hx hl
    rw [List.map_append] at hz
    have low : x.block < (w5.alloc (.cells #[.int .i64 m, .slice a5 n5 c5] 64)).heap.size := by
      rcases List.mem_append.1 hz with h | h
      · obtain ⟨y, hy, rfl⟩ := List.mem_map.1 h
        exact ((G'.each y hy).block hx hl).2
      · obtain rfl := List.mem_singleton.1 h
        exact (it'.block hx hl).2
    rcases q6 with e | e
    · rw [e]
      rcases List.mem_append.1 hz with h | h
      · exact G.apart z h x hx hl
      · obtain rfl := List.mem_singleton.1 h
        exact newne x hx hl
    · rw [e]
      intro e2
      injection e2 with e2
      omega


/-- What turns a row that is not the list's, nor any of its slices', leaves it as it is. -/
theorem Grow.other {lo : Nat} {w w' : World} {v : Value} {K : List Hd} {row : Option Nat} (h : Grow lo w v K) (hg : w.grownBy w' row) (h1 : ∀ k, v.ownBlock = some k → row ≠ some k) (h2 : ∀ z ∈ K, ∀ x, z.a = some x → z.l ≠ [] → row ≠ some x.block) : Grow lo w' v K := by
  refine ⟨World.ownsRow.kept h.own hg ?_, fun z hz => (h.each z hz).grown hg (fun b ha hl => h2 z hz b ha hl), h.apart⟩
  cases hv : v.ownBlock with
  | none => exact .inl rfl
  | some k => exact .inr (fun e => h1 k hv e.symm)
theorem GrowW.other {lo : Nat} {w w' : World} {v : Value} {K : List Wr} {row : Option Nat} (h : GrowW lo w v K) (hg : w.grownBy w' row) (h1 : ∀ k, v.ownBlock = some k → row ≠ some k) (h2 : ∀ z ∈ K, ∀ x, z.h.a = some x → z.h.l ≠ [] → row ≠ some x.block) : GrowW lo w' v K := by
  refine ⟨World.ownsRow.kept h.own hg ?_, fun z hz => (h.each z hz).grown hg (fun b ha hl => h2 z hz b ha hl), h.apart⟩
  cases hv : v.ownBlock with
  | none => exact .inl rfl
  | some k => exact .inr (fun e => h1 k hv e.symm)
theorem Cross.grow {lo : Nat} {w w5 : World} {vb vw v6 : Value} {H : List Hd} {K : List Wr} (c : Cross vb vw H K) (g1 : Grow lo w vb H) {m : Int} {x : Hd} (it : Item w.heap.size w5 x) {n : Nat} (hn : w.heap.size ≤ n) (q6 : v6.ownBlock = vw.ownBlock ∨ v6.ownBlock = some n) :
    Cross vb v6 H (K ++ [⟨m, x⟩]) := by
  refine ⟨fun k h1 h2 => ?_, fun z hz y hy hl e => ?_, fun z hz y hy hl e => ?_⟩
  · rcases q6 with q | q
    · rw [q] at h2; exact c.rows k h1 h2
    · rw [q] at h2
      injection h2 with h2
      have := (g1.lt k h1).2
      omega
  · rcases q6 with q | q
    · rw [q] at e; exact c.left z hz y hy hl e
    · rw [q] at e
      injection e with e
      have := ((g1.each z hz).block hy hl).2
      omega
  · rw [List.map_append] at hz
    rcases List.mem_append.1 hz with h | h
    · exact c.right z h y hy hl e
    · obtain rfl := List.mem_singleton.1 h
      have h1 := (it.block (b := y) hy hl).1
      have h2 := (g1.lt _ e).2
      omega
theorem Grow.form' {lo : Nat} {w : World} {v : Value} {K : List Hd} (h : Grow lo w v K) : ∃ a c, v = .slice a K.length c := by
  obtain ⟨a, c, e, _⟩ := h.rds; exact ⟨a, c, e⟩
theorem GrowW.form' {lo : Nat} {w : World} {v : Value} {K : List Wr} (h : GrowW lo w v K) : ∃ a c, v = .slice a K.length c := by
  obtain ⟨a, c, e, _⟩ := h.rws; exact ⟨a, c, e⟩
/-- A device of the call's own, parted. -/
structure Parts (lo : Nat) (w : World) (vb vw : Value) (H : List Hd) (K : List Wr) : Prop where
  bl : Grow lo w vb H
  wa : GrowW lo w vw K
  cr : Cross vb vw H K
theorem Parts.here {lo : Nat} {w w' : World} {vb vw : Value} {H : List Hd} {K : List Wr} (h : Parts lo w vb vw H K) (hb : Below w.heap.size w w') : Parts lo w' vb vw H K := ⟨h.bl.here hb, h.wa.here hb, h.cr⟩
theorem Parts.mono {lo lo' : Nat} {w : World} {vb vw : Value} {H : List Hd} {K : List Wr} (h : Parts lo w vb vw H K) (hl : lo' ≤ lo) : Parts lo' w vb vw H K := ⟨h.bl.mono hl, h.wa.mono hl, h.cr⟩
theorem Parts.setCell {lo : Nat} {w : World} {vb vw : Value} {H : List Hd} {K : List Wr} (h : Parts lo w vb vw H K) (p : Addr) (hp : p.block < lo) (u : Value) : Parts lo (w.setCell p u) vb vw H K := ⟨h.bl.setCell p hp u, h.wa.setCell p hp u, h.cr⟩
/-- A store into a block that lies beyond what the device has. -/
theorem Parts.far {lo g : Nat} {w w0 : World} {vb vw : Value} {H : List Hd} {K : List Wr} (h : Parts lo w vb vw H K) (hg : w.grownBy w0 (some g)) (hb : (g < lo ∨ w.heap.size ≤ g)) : Parts lo w0 vb vw H K := ⟨h.bl.grown hg hb, h.wa.grown hg hb, h.cr⟩
theorem Parts.dev {lo : Nat} {w : World} {vb vw : Value} {H : List Hd} {K : List Wr} {D : Dv} (h : Parts lo w vb vw H K) (h1 : lists H = D.bs) (h2 : wlist K = D.ws) (dd : Bool) (hd : dd = D.dead) : OwnDev lo w (.agg #[vb, vw, .bool dd]) D := by
  subst hd; exact ⟨vb, vw, H, K, rfl, h.bl, h.wa, h1, h2, h.cr⟩
theorem OwnDev.parts {lo : Nat} {w : World} {v : Value} {D : Dv} (h : OwnDev lo w v D) : ∃ a n c a' n' c' H K, v = .agg #[.slice a n c, .slice a' n' c', .bool D.dead] ∧ Parts lo w (.slice a n c) (.slice a' n' c') H K ∧ lists H = D.bs ∧ wlist K = D.ws ∧ n = H.length ∧ n' = K.length := by
  obtain ⟨vb, vw, H, K, rfl, g1, g2, h3, h4, hc⟩ := h.ex
  obtain ⟨a, c, rfl⟩ := g1.form'
  obtain ⟨a', c', rfl⟩ := g2.form'
  exact ⟨a, _, c, a', _, c', H, K, rfl, ⟨g1, g2, hc⟩, h3, h4, rfl, rfl⟩
/-- A block that is none of a device's. -/
structure Avoid (g : Nat) (vb vw : Value) (H : List Hd) (K : List Wr) : Prop where
  b : vb.ownBlock ≠ some g
  w : vw.ownBlock ≠ some g
  h : ∀ z ∈ H, ∀ x, z.a = some x → z.l ≠ [] → x.block ≠ g
  k : ∀ z ∈ K, ∀ x, z.h.a = some x → z.h.l ≠ [] → x.block ≠ g
theorem Parts.avoid {lo g : Nat} {w : World} {vb vw : Value} {H : List Hd} {K : List Wr} (h : Parts lo w vb vw H K) (hg : g < lo ∨ w.heap.size ≤ g) : Avoid g vb vw H K :=
  ⟨fun e => by have := h.bl.lt g e; omega, fun e => by have := h.wa.lt g e; omega,
    fun z hz x hx hl e => by have := (h.bl.each z hz).block hx hl; omega, fun z hz x hx hl e => by have := (h.wa.each z hz).block hx hl; omega⟩
/-- A store into a block that is none of the device's. -/
theorem Parts.store {lo : Nat} {w : World} {vb vw : Value} {H : List Hd} {K : List Wr} (h : Parts lo w vb vw H K) (p : Addr) (hp : Avoid p.block vb vw H K) (u : Value) : Parts lo (w.setCell p u) vb vw H K := by
  have hg : w.grownBy (w.setCell p u) (some p.block) := ⟨rfl, rfl, rfl, by simp [World.setCell], fun k hk hne => Below.heap_setCell _ _ _ _ (fun e => hne (by rw [e]))⟩
  exact ⟨h.bl.other hg (fun k e e2 => hp.b (by rw [e, e2])) (fun z hz x hx hl e => hp.h z hz x hx hl (by injection e with e; exact e.symm)),
    h.wa.other hg (fun k e e2 => hp.w (by rw [e, e2])) (fun z hz x hx hl e => hp.k z hz x hx hl (by injection e with e; exact e.symm)), h.cr⟩
/-- One more write that waits. -/
theorem Parts.wait {lo : Nat} {w w5 : World} {vb vw : Value} {H : List Hd} {K : List Wr} (G : Parts lo w vb vw H K) (hlo : lo ≤ w.heap.size) (hK : K.length ≤ 10000) (b5 : Below w.heap.size w w5)
    (m : Int) {a5 : Option Addr} {n5 c5 : Nat} {l5 : List Nat} (it : Item w.heap.size w5 ⟨a5, n5, c5, l5⟩) :
    ∃ v6 w6, (Builtin.append_ #[35, 35] 35 #[vw, .slice (some ⟨w5.heap.size, 0, none⟩) 1 1]).run Try.prog (w5.alloc (.cells #[.int .i64 m, .slice a5 n5 c5] 64)) = .ok v6 w6 ∧
      Parts lo w6 vb v6 H (K ++ [⟨m, ⟨a5, n5, c5, l5⟩⟩]) ∧ (w5.alloc (.cells #[.int .i64 m, .slice a5 n5 c5] 64)).grownBy w6 vw.ownBlock ∧
      (∀ g, g < w.heap.size → Avoid g vb vw H K → Avoid g vb v6 H (K ++ [⟨m, ⟨a5, n5, c5, l5⟩⟩])) := by
  obtain ⟨v6, w6, r6, G6, g6, q6⟩ := G.wa.step' hlo hK b5 m it
  have ha5 : Below w.heap.size w (w5.alloc (.cells #[.int .i64 m, .slice a5 n5 c5] 64)) := b5.alloc b5.size _
  refine ⟨v6, w6, r6, ⟨(G.bl.here ha5).other g6 G.cr.rows G.cr.left, G6, G.cr.grow G.bl it ha5.size q6⟩, g6, fun g hg av => ⟨av.b, fun e => ?_, av.h, fun z hz x hx hl e => ?_⟩⟩
  · rcases q6 with q | q
    · rw [q] at e; exact av.w e
    · rw [q] at e
      injection e with e
      have := ha5.size
      omega
  · rcases List.mem_append.1 hz with h | h
    · exact av.k z h x hx hl e
    · obtain rfl := List.mem_singleton.1 h
      have := (it.block (b := x) hx hl).1
      omega
end Go.Proofs.Ytnhfkfihlkbkfaa.PW
