/-
  What every later layer's walks share of devices (api.Disk): lists of writes that wait, devices that came in, devices that the call made. Nothing here names a function of the program.
-/
import Derived.Test.YtnhfkfihlkbkfaaBlocks
import Derived.Test.YtnhfkfihlkbkfaaNewBlk
import Derived.Test.YtnhfkfihlkbkfaaBox
import Derived.Test.YtnhfkfihlkbkfaaDiskMath
namespace Go.Proofs.Ytnhfkfihlkbkfaa.PW
open Go.RowKit
open DK (Dv)
set_option linter.unusedVariables false
set_option maxRecDepth 100000

/-- One write that waits, as it lies in memory: a number and a slice of bytes. -/
structure Wr where
  n : Int
  h : Hd
def Wr.nil : Wr := ⟨0, Hd.nil⟩
instance : Inhabited Wr := ⟨Wr.nil⟩
def Wr.two (x : Wr) : List Value := [.int .i64 x.n, x.h.val]
def wcells (K : List Wr) : List Value := K.flatMap Wr.two
def wlist (K : List Wr) : List (Int × List Nat) := K.map fun x => (x.n, x.h.l)
theorem wcells_length (K : List Wr) : (wcells K).length = K.length * 2 := by
  induction K with
  | nil => rfl
  | cons x r ih => show (Wr.two x ++ wcells r).length = _; simp [ih, Wr.two]; omega
theorem wcells_append (K L : List Wr) : wcells (K ++ L) = wcells K ++ wcells L := by simp [wcells]
theorem wcells_get (K : List Wr) (k : Nat) (hk : k < K.length) : (wcells K)[k * 2]? = some (.int .i64 (K.getD k Wr.nil).n) ∧ (wcells K)[k * 2 + 1]? = some (K.getD k Wr.nil).h.val := by
  induction K generalizing k with
  | nil => simp at hk
  | cons x r ih =>
    have e : wcells (x :: r) = .int .i64 x.n :: x.h.val :: wcells r := rfl
    rw [e]
    cases k with
    | zero => exact ⟨rfl, rfl⟩
    | succ k =>
      have := ih k (by simpa using hk)
      have e1 : (k + 1) * 2 = k * 2 + 1 + 1 := by omega
      rw [e1]
      exact this
theorem wlist_length (K : List Wr) : (wlist K).length = K.length := by simp [wlist]
theorem wlist_append (K L : List Wr) : wlist (K ++ L) = wlist K ++ wlist L := by simp [wlist]
theorem wlist_take (K : List Wr) (k : Nat) : wlist (K.take k) = (wlist K).take k := by simp [wlist, List.map_take]
theorem wlist_getD (K : List Wr) (k : Nat) : (wlist K).getD k (0, []) = ((K.getD k Wr.nil).n, (K.getD k Wr.nil).h.l) := by
  unfold wlist
  simp only [List.getD, List.getElem?_map]
  cases K[k]? <;> rfl

/-- A slice of writes that reads as the list K in the world w, in blocks below B. -/
structure Rws (B : Nat) (w : World) (a : Option Addr) (len cap : Nat) (K : List Wr) : Prop where
  long : len = K.length
  fits : K.length ≤ cap
  small : cap ≤ maxLen
  nil : a = none → len = 0 ∧ cap = 0
  cells : K ≠ [] → ∃ b off, a = some ⟨b, off, none⟩ ∧ b < B ∧ ∀ i, i < K.length → w.cell? ⟨b, off + i * 2, none⟩ = some (.int .i64 (K.getD i Wr.nil).n) ∧ w.cell? ⟨b, off + i * 2 + 1, none⟩ = some (K.getD i Wr.nil).h.val
  each : ∀ x ∈ K, x.h.Rd B w
theorem Rws.below {B : Nat} {w w' : World} {a : Option Addr} {len cap : Nat} {K : List Wr} (h : Rws B w a len cap K) (hb : Below B w w') : Rws B w' a len cap K :=
  ⟨h.long, h.fits, h.small, h.nil, fun hl => (by
    obtain ⟨b, off, ha, hB, hc⟩ := h.cells hl
    exact ⟨b, off, ha, hB, fun i hi => by
      rw [hb.cell (p := ⟨b, off + i * 2, none⟩) hB, hb.cell (p := ⟨b, off + i * 2 + 1, none⟩) hB]; exact hc i hi⟩), fun x hx => (h.each x hx).below hb⟩
theorem Rws.mono {B B' : Nat} {w : World} {a : Option Addr} {len cap : Nat} {K : List Wr} (h : Rws B w a len cap K) (hB : B ≤ B') : Rws B' w a len cap K :=
  ⟨h.long, h.fits, h.small, h.nil, fun hl => (by
    obtain ⟨b, off, ha, hb, hc⟩ := h.cells hl
    exact ⟨b, off, ha, by omega, hc⟩), fun x hx => (h.each x hx).mono hB⟩
theorem Rws.here {w w' : World} {a : Option Addr} {len cap : Nat} {K : List Wr} (h : Rws w.heap.size w a len cap K) (hb : Below w.heap.size w w') : Rws w'.heap.size w' a len cap K :=
  (h.below hb).mono hb.size
theorem Rws.drewN {B : Nat} {w : World} {a : Option Addr} {len cap : Nat} {K : List Wr} (h : Rws B w a len cap K) (n : Nat) : Rws B (w.drewN n) a len cap K :=
  h.below (below_drewN (Below.refl _ _) n)
theorem rws_nil (B : Nat) (w : World) : Rws B w none 0 0 [] :=
  ⟨rfl, Nat.le_refl _, (by unfold maxLen; decide), fun _ => ⟨rfl, rfl⟩, fun h => absurd rfl h, fun _ h => nomatch h⟩
/-- One of a list. -/
theorem Rws.at {B : Nat} {w : World} {a : Option Addr} {len cap : Nat} {K : List Wr} (h : Rws B w a len cap K) (k : Nat) (hk : k < K.length) :
    ∃ b off n xa xlen xcap xl, a = some ⟨b, off, none⟩ ∧ b < B ∧ K.getD k Wr.nil = ⟨n, ⟨xa, xlen, xcap, xl⟩⟩ ∧ w.cell? ⟨b, off + k * 2, none⟩ = some (.int .i64 n) ∧ w.cell? ⟨b, off + k * 2 + 1, none⟩ = some (.slice xa xlen xcap) ∧ Rd B w xa xlen xcap xl := by
  obtain ⟨b, off, ha, hB, hc⟩ := h.cells (by intro e; subst e; simp at hk)
  exact ⟨b, off, _, _, _, _, _, ha, hB, rfl, (hc k hk).1, (hc k hk).2, h.each _ (mem_getD hk)⟩

/-- A slice of the call's own that owns just the writes K. -/
def OwnW (w : World) (base : Nat) (v : Value) (K : List Wr) : Prop := w.ownsRow base 64 2 v K.length (wcells K)
theorem write_info : (Try.prog.info? 64).map (fun i => (i.zero, i.size, i.bytes)) = some (some (.agg #[.int .i64 0, .slice none 0 0]), 2, 32) := by kernel_rfl
theorem ownw_nil (w : World) (base : Nat) : OwnW w base (.slice none 0 0) [] := World.ownsRow_nil _ _ _ _

theorem OwnW.rws {w : World} {base : Nat} {v : Value} {K : List Wr} (h : OwnW w base v K) (each : ∀ x ∈ K, x.h.Rd w.heap.size w) : ∃ a cap, v = .slice a K.length cap ∧ Rws w.heap.size w a K.length cap K := by
  rcases h.2 with ⟨rfl, h0⟩ | ⟨g, cap, cur, rfl, hg, hh, hnc, hcm, hcs, htk⟩
  · have hl : K = [] := List.eq_nil_of_length_eq_zero h0
    subst hl
    exact ⟨none, 0, rfl, rws_nil _ _⟩
  · refine ⟨_, cap, rfl, ⟨rfl, hnc, hcm, (fun h => nomatch h), fun hne => ⟨g, 0, rfl, ?_, fun i hi => ?_⟩, each⟩⟩
    · rcases Nat.lt_or_ge g w.heap.size with hlt | hge
      · exact hlt
      · rw [Array.getElem?_eq_none hge] at hh; cases hh
    · have hcell : ∀ j, j < K.length * 2 → w.cell? ⟨g, j, none⟩ = (wcells K)[j]? := by
        intro j hj
        have : w.cell? ⟨g, j, none⟩ = cur[j]? := by simp [World.cell?, hh]
        rw [this, ← htk, List.getElem?_take, if_pos hj, Array.getElem?_toList]
      have := wcells_get K i hi
      rw [Nat.zero_add, hcell _ (by omega), hcell _ (by omega)]
      exact this
theorem OwnW.form {w : World} {base : Nat} {v : Value} {K : List Wr} (h : OwnW w base v K) (hne : 0 < K.length) : ∃ g cap, v = .slice (some ⟨g, 0, none⟩) K.length cap ∧ base ≤ g ∧ g < w.heap.size ∧ K.length ≤ cap ∧ cap ≤ maxLen := by
  rcases h.2 with ⟨rfl, h0⟩ | ⟨g, cap, cur, rfl, hg, hh, hnc, hcm, hcs, htk⟩
  · omega
  · refine ⟨g, cap, rfl, hg, ?_, hnc, hcm⟩
    rcases Nat.lt_or_ge g w.heap.size with hlt | hge
    · exact hlt
    · rw [Array.getElem?_eq_none hge] at hh; cases hh
theorem OwnW.alloc {w : World} {base : Nat} {v : Value} {K : List Wr} (h : OwnW w base v K) (o : Obj) : OwnW (w.alloc o) base v K := World.ownsRow.alloc h o
theorem OwnW.drew {w : World} {base : Nat} {v : Value} {K : List Wr} (h : OwnW w base v K) : OwnW w.drew base v K := World.ownsRow.drew h

/-- Memory that a call owns: a row that lies in a block below w's end stays as it is while all below it does. -/
theorem ownsRow_below {w w' : World} {base B : Nat} {e : TypeId} {size : Nat} {v : Value} {n : Nat} {xs : List Value} (h : w.ownsRow base e size v n xs) (hb : Below B w w') (hB : ∀ k, v.ownBlock = some k → k < B) : w'.ownsRow base e size v n xs := by
  rcases h.2 with ⟨rfl, h0⟩ | ⟨g, cap, cur, rfl, hgb, hh, rest⟩
  · exact ⟨h.1, .inl ⟨rfl, h0⟩⟩
  · exact ⟨h.1, .inr ⟨g, cap, cur, rfl, hgb, by rw [hb.block g (hB g rfl), hh], rest⟩⟩
theorem ownsRow_grown {w w' : World} {base : Nat} {e : TypeId} {size : Nat} {v : Value} {n : Nat} {xs : List Value} (h : w.ownsRow base e size v n xs) (hb : Below w.heap.size w w') : w'.ownsRow base e size v n xs :=
  ownsRow_below h hb fun k hk => (World.ownsRow.lt h k hk).2

/-- A slice of bytes in memory of the call's own, from block lo on, that may be written. -/
def Free (lo : Nat) (w : World) (x : Hd) : Prop := x.l = [] ∨ ∃ g, x.a = some ⟨g, 0, none⟩ ∧ lo ≤ g ∧ g < w.heap.size ∧ ∀ i, w.frozen? ⟨g, i, none⟩ = false
theorem Free.below {lo B : Nat} {w w' : World} {x : Hd} (h : Free lo w x) (hb : Below B w w') (hB : w.heap.size ≤ B) : Free lo w' x := by
  rcases h with h | ⟨g, ha, hg, hlt, hf⟩
  · exact .inl h
  · exact .inr ⟨g, ha, hg, Nat.lt_of_lt_of_le hlt hb.size, fun i => by rw [hb.frozen (p := ⟨g, i, none⟩) (by show g < B; omega)]; exact hf i⟩
theorem Free.here {lo : Nat} {w w' : World} {x : Hd} (h : Free lo w x) (hb : Below w.heap.size w w') : Free lo w' x := h.below hb (Nat.le_refl _)
theorem Free.mono {lo lo' : Nat} {w : World} {x : Hd} (h : Free lo w x) (hl : lo' ≤ lo) : Free lo' w x := by
  rcases h with h | ⟨g, ha, hg, hlt, hf⟩
  · exact .inl h
  · exact .inr ⟨g, ha, by omega, hlt, hf⟩
theorem Own.free {w : World} {lo : Nat} {a : Option Addr} {n cap : Nat} {l : List Nat} (hn : n = l.length) (h : Own w lo (.slice a n cap) l) : Free lo w ⟨a, n, cap, l⟩ := by
  subst hn
  rcases Nat.eq_zero_or_pos l.length with h0 | h0
  · exact .inl (List.eq_nil_of_length_eq_zero h0)
  · obtain ⟨g, cp, hv, hg, hlt, _⟩ := h.form h0
    injection hv with hv1 _ hv2
    subst hv1 hv2
    exact .inr ⟨g, rfl, hg, hlt, fun i => Own.frozen rfl h i⟩
theorem Blk.free {w : World} {lo g : Nat} {n cap : Nat} {l : List Nat} (h : Blk w g l) (hg : lo ≤ g) : Free lo w ⟨some ⟨g, 0, none⟩, n, cap, l⟩ :=
  .inr ⟨g, rfl, hg, h.lt, fun i => h.frozen i⟩

/-- A device that reads as D in the world w, in blocks below B: its two lists. -/
structure DevAt (B : Nat) (w : World) (a : Option Addr) (n c : Nat) (a' : Option Addr) (n' c' : Nat) (D : Dv) : Prop where
  ex : ∃ H K, Rds B w a n c H ∧ Rws B w a' n' c' K ∧ lists H = D.bs ∧ wlist K = D.ws
theorem DevAt.below {B : Nat} {w w' : World} {a a' : Option Addr} {n c n' c' : Nat} {D : Dv} (h : DevAt B w a n c a' n' c' D) (hb : Below B w w') : DevAt B w' a n c a' n' c' D := by
  obtain ⟨H, K, h1, h2, h3, h4⟩ := h.ex
  exact ⟨H, K, h1.below hb, h2.below hb, h3, h4⟩
theorem DevAt.mono {B B' : Nat} {w : World} {a a' : Option Addr} {n c n' c' : Nat} {D : Dv} (h : DevAt B w a n c a' n' c' D) (hB : B ≤ B') : DevAt B' w a n c a' n' c' D := by
  obtain ⟨H, K, h1, h2, h3, h4⟩ := h.ex
  exact ⟨H, K, h1.mono hB, h2.mono hB, h3, h4⟩
theorem DevAt.here {w w' : World} {a a' : Option Addr} {n c n' c' : Nat} {D : Dv} (h : DevAt w.heap.size w a n c a' n' c' D) (hb : Below w.heap.size w w') : DevAt w'.heap.size w' a n c a' n' c' D :=
  (h.below hb).mono hb.size
theorem DevAt.long {B : Nat} {w : World} {a a' : Option Addr} {n c n' c' : Nat} {D : Dv} (h : DevAt B w a n c a' n' c' D) : n = D.bs.length ∧ n' = D.ws.length := by
  obtain ⟨H, K, h1, h2, h3, h4⟩ := h.ex
  exact ⟨by rw [← h3, lists_length]; exact h1.long, by rw [← h4, wlist_length]; exact h2.long⟩
theorem DevAt.small {B : Nat} {w : World} {a a' : Option Addr} {n c n' c' : Nat} {D : Dv} (h : DevAt B w a n c a' n' c' D) : n ≤ maxLen ∧ n' ≤ maxLen := by
  obtain ⟨H, K, h1, h2, h3, h4⟩ := h.ex
  have := h1.long; have := h1.fits; have := h1.small; have := h2.long; have := h2.fits; have := h2.small
  omega
/-- One block. -/
theorem DevAt.at {B : Nat} {w : World} {a a' : Option Addr} {n c n' c' : Nat} {D : Dv} (h : DevAt B w a n c a' n' c' D) (k : Nat) (hk : k < n) :
    ∃ b off xa xlen xcap xl, a = some ⟨b, off, none⟩ ∧ b < B ∧ D.bs.getD k [] = xl ∧ w.cell? ⟨b, off + k, none⟩ = some (.slice xa xlen xcap) ∧ Rd B w xa xlen xcap xl := by
  obtain ⟨H, K, h1, h2, h3, h4⟩ := h.ex
  obtain ⟨b, off, xa, xlen, xcap, xl, e1, e2, e3, e4, e5⟩ := h1.at k (by rw [← h1.long]; exact hk)
  exact ⟨b, off, xa, xlen, xcap, xl, e1, e2, by rw [← h3, lists_getD, e3], e4, e5⟩
/-- One write that waits. -/
theorem DevAt.wat {B : Nat} {w : World} {a a' : Option Addr} {n c n' c' : Nat} {D : Dv} (h : DevAt B w a n c a' n' c' D) (k : Nat) (hk : k < n') :
    ∃ b off m xa xlen xcap xl, a' = some ⟨b, off, none⟩ ∧ b < B ∧ D.ws.getD k (0, []) = (m, xl) ∧ w.cell? ⟨b, off + k * 2, none⟩ = some (.int .i64 m) ∧ w.cell? ⟨b, off + k * 2 + 1, none⟩ = some (.slice xa xlen xcap) ∧ Rd B w xa xlen xcap xl := by
  obtain ⟨H, K, h1, h2, h3, h4⟩ := h.ex
  obtain ⟨b, off, m, xa, xlen, xcap, xl, e1, e2, e3, e4, e5, e6⟩ := h2.at k (by rw [← h2.long]; exact hk)
  exact ⟨b, off, m, xa, xlen, xcap, xl, e1, e2, by rw [← h4, wlist_getD, e3], e4, e5, e6⟩
theorem DevAt.bytes {B : Nat} {w : World} {a a' : Option Addr} {n c n' c' : Nat} {D : Dv} (h : DevAt B w a n c a' n' c' D) : (∀ l ∈ D.bs, Bytes l) ∧ (∀ p ∈ D.ws, Bytes p.2) := by
  obtain ⟨H, K, h1, h2, h3, h4⟩ := h.ex
  refine ⟨fun l hl => ?_, fun p hp => ?_⟩
  · rw [← h3] at hl; exact h1.bytes l hl
  · rw [← h4] at hp
    obtain ⟨x, hx, rfl⟩ := List.mem_map.1 hp
    exact (h2.each x hx).byt

end Go.Proofs.Ytnhfkfihlkbkfaa.PW
