/-
  Layer 4's steps: a device of the call's own beside the boxes that hold it; what a write, one that lasts, a flush leave of 'what was written last'.
-/
import Derived.Test.YtnhfkfihlkbkfaaDiskGone
import Derived.Test.YtnhfkfihlkbkfaaDiskOps
import Derived.Test.YtnhfkfihlkbkfaaHoist2
namespace Go.Proofs.Ytnhfkfihlkbkfaa.PW
open Go.RowKit
open DK (Dv)
set_option linter.unusedVariables false
set_option maxRecDepth 100000

/-- A device of the call's own that lies outside three blocks, from block g on. -/
def Held (g : Nat) (w : World) (a : Option Addr) (n c : Nat) (a' : Option Addr) (n' c' : Nat) (D : Dv) : Prop :=
  ∃ lo H K, Parts lo w (.slice a n c) (.slice a' n' c') H K ∧ lists H = D.bs ∧ wlist K = D.ws ∧
    Avoid g (.slice a n c) (.slice a' n' c') H K ∧ Avoid (g + 1) (.slice a n c) (.slice a' n' c') H K ∧ Avoid (g + 2) (.slice a n c) (.slice a' n' c') H K
theorem OwnDev.parts3 {lo : Nat} {w : World} {a : Option Addr} {n c : Nat} {a' : Option Addr} {n' c' : Nat} {dd : Bool} {D : Dv} (h : OwnDev lo w (.agg #[.slice a n c, .slice a' n' c', .bool dd]) D) :
    ∃ H K, Parts lo w (.slice a n c) (.slice a' n' c') H K ∧ lists H = D.bs ∧ wlist K = D.ws := by
  obtain ⟨vb, vw, H, K, e, g1, g2, h3, h4, hc⟩ := h.ex
  injection e with e
  have e2 := congrArg Array.toList e
  simp only [List.cons.injEq, and_true] at e2
  obtain ⟨rfl, rfl, _⟩ := e2
  exact ⟨H, K, ⟨g1, g2, hc⟩, h3, h4⟩
theorem Held.of {lo g : Nat} {w w' : World} {a : Option Addr} {n c : Nat} {a' : Option Addr} {n' c' : Nat} {dd : Bool} {D : Dv} (h : OwnDev lo w (.agg #[.slice a n c, .slice a' n' c', .bool dd]) D)
    (hb : Below w.heap.size w w') (hg : g + 2 < lo ∨ w.heap.size ≤ g) : Held g w' a n c a' n' c' D := by
  obtain ⟨H, K, p, h1, h2⟩ := h.parts3
  exact ⟨lo, H, K, p.here hb, h1, h2, p.avoid (by omega), p.avoid (by omega), p.avoid (by omega)⟩
theorem Held.here {g : Nat} {w w' : World} {a : Option Addr} {n c : Nat} {a' : Option Addr} {n' c' : Nat} {D : Dv} (h : Held g w a n c a' n' c' D) (hb : Below w.heap.size w w') : Held g w' a n c a' n' c' D := by
  obtain ⟨lo, H, K, p, rest⟩ := h
  exact ⟨lo, H, K, p.here hb, rest⟩
theorem Held.store {g : Nat} {w : World} {a : Option Addr} {n c : Nat} {a' : Option Addr} {n' c' : Nat} {D : Dv} (h : Held g w a n c a' n' c' D) (p : Addr) (hp : p.block = g ∨ p.block = g + 1 ∨ p.block = g + 2) (u : Value) : Held g (w.setCell p u) a n c a' n' c' D := by
  obtain ⟨lo, H, K, q, h1, h2, v0, v1, v2⟩ := h
  refine ⟨lo, H, K, q.store p ?_ u, h1, h2, v0, v1, v2⟩
  rcases hp with e | e | e <;> rw [e] <;> assumption
theorem Held.dev {g : Nat} {w : World} {a : Option Addr} {n c : Nat} {a' : Option Addr} {n' c' : Nat} {D : Dv} (h : Held g w a n c a' n' c' D) : DevAt w.heap.size w a n c a' n' c' D := by
  obtain ⟨lo, H, K, q, h1, h2, _⟩ := h
  have := (q.dev h1 h2 D.dead rfl).at
  obtain ⟨b, m, d, b', m', d', e, hd⟩ := this
  injection e with e
  have e2 := congrArg Array.toList e
  simp only [List.cons.injEq, Value.slice.injEq, and_true] at e2
  obtain ⟨⟨rfl, rfl, rfl⟩, rfl, rfl, rfl⟩ := e2
  exact hd

/-- What the steps keep: three boxes (a device, what was written last, what lasts), and the device apart from them. -/
structure St (w : World) (g : Nat) (wr : World) (a : Option Addr) (n c : Nat) (a' : Option Addr) (n' c' : Nat) (D : Dv) (N S : List Nat) : Prop where
  old : w.heap.size ≤ g
  bel : Below w.heap.size w wr
  dev : Bx wr g [.slice a n c, .slice a' n' c', .bool false]
  now : Bx wr (g + 1) (N.map bv)
  sur : Bx wr (g + 1 + 1) (S.map bv)
  hel : Held g wr a n c a' n' c' D
theorem St.here {w wr w6 : World} {g : Nat} {a : Option Addr} {n c : Nat} {a' : Option Addr} {n' c' : Nat} {D : Dv} {N S : List Nat} (h : St w g wr a n c a' n' c' D N S) (hb : Below wr.heap.size wr w6) : St w g w6 a n c a' n' c' D N S :=
  ⟨h.old, thence h.bel hb (Nat.le_refl _), h.dev.here hb, h.now.here hb, h.sur.here hb, h.hel.here hb⟩
theorem St.turn {w wr w6 : World} {g : Nat} {a : Option Addr} {n c : Nat} {a' : Option Addr} {n' c' : Nat} {D : Dv} {N S : List Nat} (h : St w g wr a n c a' n' c' D N S) (hb : Below wr.heap.size wr w6)
    {b : Option Addr} {m d : Nat} {b' : Option Addr} {m' d' : Nat} {E : Dv} (od : OwnDev wr.heap.size w6 (.agg #[.slice b m d, .slice b' m' d', .bool false]) E) :
    St w g (((w6.setCell ⟨g, 0, none⟩ (.slice b m d)).setCell ⟨g, 1, none⟩ (.slice b' m' d')).setCell ⟨g, 2, none⟩ (.bool false)) b m d b' m' d' E N S := by
  have k := h.here hb
  have l2 := h.sur.lt
  have ho := h.old
  refine ⟨ho, ((k.bel.setCell (by simpa using ho) _).setCell (by simpa using ho) _).setCell (by simpa using ho) _, ?_, ?_, ?_, ?_⟩
  · exact ((k.dev.set 0 (.slice b m d)).set 1 (.slice b' m' d')).set 2 (.bool false)
  · exact ((k.now.other _ (by simp) _).other _ (by simp) _).other _ (by simp) _
  · exact ((k.sur.other _ (by simp; omega) _).other _ (by simp; omega) _).other _ (by simp; omega) _
  · have s0 : Held g w6 b m d b' m' d' E := Held.of od (Below.refl _ _) (.inl (by omega))
    have s1 := s0.store ⟨g, 0, none⟩ (.inl rfl) (.slice b m d)
    have s2 := s1.store ⟨g, 1, none⟩ (.inl rfl) (.slice b' m' d')
    exact s2.store ⟨g, 2, none⟩ (.inl rfl) (.bool false)
theorem St.noted {w wr : World} {g : Nat} {a : Option Addr} {n c : Nat} {a' : Option Addr} {n' c' : Nat} {D : Dv} {N S : List Nat} (h : St w g wr a n c a' n' c' D N S) (m z : Nat) :
    St w g (wr.setCell ⟨g + 1, m, none⟩ (.int .u8 (z : Int))) a n c a' n' c' D (N.set m z) S := by
  have ho := h.old
  refine ⟨ho, h.bel.setCell (by show _ ≤ g + 1; omega) _, h.dev.other _ (by simp) _, ?_, h.sur.other _ (by simp) _, h.hel.store ⟨g + 1, m, none⟩ (.inr (.inl rfl)) _⟩
  rw [List.map_set]
  exact h.now.set m (bv z)
theorem St.lasted {w wr : World} {g : Nat} {a : Option Addr} {n c : Nat} {a' : Option Addr} {n' c' : Nat} {D : Dv} {N S : List Nat} (h : St w g wr a n c a' n' c' D N S) (m z : Nat) :
    St w g (wr.setCell ⟨g + 1 + 1, m, none⟩ (.int .u8 (z : Int))) a n c a' n' c' D N (S.set m z) := by
  have ho := h.old
  refine ⟨ho, h.bel.setCell (by show _ ≤ g + 1 + 1; omega) _, h.dev.other _ (by simp; omega) _, h.now.other _ (by simp) _, ?_, h.hel.store ⟨g + 1 + 1, m, none⟩ (.inr (.inr rfl)) _⟩
  rw [List.map_set]
  exact h.sur.set m (bv z)
theorem St.copied {w wr : World} {g : Nat} {a : Option Addr} {n c : Nat} {a' : Option Addr} {n' c' : Nat} {D : Dv} {p q r s : Nat} {S : List Nat} (h : St w g wr a n c a' n' c' D [p, q, r, s] S) (hS : S.length = 4) :
    St w g ((((wr.setCell ⟨g + 1 + 1, 0, none⟩ (.int .u8 (p : Int))).setCell ⟨g + 1 + 1, 1, none⟩ (.int .u8 (q : Int))).setCell ⟨g + 1 + 1, 2, none⟩ (.int .u8 (r : Int))).setCell ⟨g + 1 + 1, 3, none⟩ (.int .u8 (s : Int))) a n c a' n' c' D [p, q, r, s] [p, q, r, s] := by
  have k := (((h.lasted 0 p).lasted 1 q).lasted 2 r).lasted 3 s
  match S, hS with
  | [_, _, _, _], _ => exact k

/-! What was written last. -/
def cst (x : Nat) : List Nat := List.replicate 128 x
structure Goes (D : Dv) (N S : List Nat) (k : Nat) : Prop where
  may : DK.may D = true
  live : D.dead = false
  four : D.bs.length = 4
  few : D.ws.length ≤ k
  nl : N.length = 4
  sl : S.length = 4
  nb : Bytes N
  sb : Bytes S
  seen : ∀ o : Nat, o < 4 → DK.seen D (o : Int) = cst (N.getD o 0)
  lies : ∀ o : Nat, o < 4 → DK.lies D (o : Int) = cst (S.getD o 0)
theorem goes_new : Goes (DK.fresh 4) [0, 0, 0, 0] [0, 0, 0, 0] 0 := by
  refine ⟨may_fresh (by omega) (by omega), rfl, rfl, Nat.le_refl _, rfl, rfl, ?_, ?_, fun o ho => ?_, fun o ho => ?_⟩
  · intro x hx; simp at hx; omega
  · intro x hx; simp at hx; omega
  · have : o = 0 ∨ o = 1 ∨ o = 2 ∨ o = 3 := by omega
    rcases this with rfl | rfl | rfl | rfl <;> rfl
  · have : o = 0 ∨ o = 1 ∨ o = 2 ∨ o = 3 := by omega
    rcases this with rfl | rfl | rfl | rfl <;> rfl
theorem Goes.has {D : Dv} {N S : List Nat} {k : Nat} (h : Goes D N S k) {o : Nat} (ho : o < 4) : DK.has D (o : Int) = true := by rw [DK.has_iff, h.four]; omega
theorem Goes.wcode {D : Dv} {N S : List Nat} {k : Nat} (h : Goes D N S k) {o : Nat} (ho : o < 4) (x : Nat) : DK.wcode D (o : Int) (cst x) = 0 := wcode_of h.may (h.has ho) (full_sized x) h.live
theorem Goes.wcode' {D : Dv} {N S : List Nat} {k : Nat} (h : Goes D N S k) (hk : k < 1024) {o : Nat} (ho : o < 4) (x : Nat) : DK.wcode' D (o : Int) (cst x) = 0 := wcode'_of (h.wcode ho x) (by have := h.few; omega)
theorem Goes.fcode {D : Dv} {N S : List Nat} {k : Nat} (h : Goes D N S k) : DK.fcode D = 0 := fcode_of h.may h.live
theorem Goes.rcode {D : Dv} {N S : List Nat} {k : Nat} (h : Goes D N S k) {o : Nat} (ho : o < 4) : DK.rcode D (o : Int) = 0 := rcode_of h.may (h.has ho) h.live
theorem bytes_set {N : List Nat} (h : Bytes N) (o : Nat) {x : Nat} (hx : x < 256) : Bytes (N.set o x) := by
  intro y hy
  rcases List.mem_or_eq_of_mem_set hy with hy | rfl
  · exact h y hy
  · exact hx
theorem getD_set4 {N : List Nat} (h : N.length = 4) {o p : Nat} (x : Nat) (ho : o < 4) : (N.set o x).getD p 0 = if o = p then x else N.getD p 0 := by
  split
  · next e => subst e; simp [List.getD, h, ho]
  · next e => simp [List.getD, List.getElem?_set_ne e]
theorem Goes.put {D : Dv} {N S : List Nat} {k : Nat} (h : Goes D N S k) (hk : k < 1024) {o x : Nat} (ho : o < 4) (hx : x < 256) : Goes (DK.put D (o : Int) (cst x)) (N.set o x) S (k + 1) := by
  refine ⟨may_put (h.wcode' hk ho x), h.live, h.four, ?_, by simp [h.nl], h.sl, bytes_set h.nb o hx, h.sb, fun p hp => ?_, fun p hp => ?_⟩
  · have := h.few; simp [DK.put]; exact this
  · rw [seen_put, getD_set4 h.nl x ho]
    by_cases e : o = p
    · subst e; rw [if_pos rfl, if_pos rfl]; exact fl_full x
    · rw [if_neg (by omega), if_neg e]; exact h.seen p hp
  · rw [lies_put]; exact h.lies p hp
theorem Goes.sure {D : Dv} {N S : List Nat} {k : Nat} (h : Goes D N S k) {o x : Nat} (ho : o < 4) (hx : x < 256) : Goes (DK.sure D (o : Int) (cst x)) (N.set o x) (S.set o x) (k + 1) := by
  refine ⟨may_sure (h.wcode ho x), h.live, ?_, ?_, by simp [h.nl], by simp [h.sl], bytes_set h.nb o hx, bytes_set h.sb o hx, fun p hp => ?_, fun p hp => ?_⟩
  · simp [DK.sure, h.four]
  · have := h.few
    have h2 : (DK.sure D (o : Int) (cst x)).ws.length ≤ D.ws.length := List.length_filter_le _ _
    omega
  · rw [seen_sure (h.has ho) (by omega), getD_set4 h.nl x ho]
    by_cases e : o = p
    · subst e; rw [if_pos rfl, if_pos rfl]; exact fl_full x
    · rw [if_neg (by omega), if_neg e]; exact h.seen p hp
  · rw [lies_sure (h.has ho) (by omega), getD_set4 h.sl x ho]
    by_cases e : o = p
    · subst e; rw [if_pos rfl, if_pos rfl]; exact fl_full x
    · rw [if_neg (by omega), if_neg e]; exact h.lies p hp
theorem Goes.flush {D : Dv} {N S : List Nat} {k : Nat} (h : Goes D N S k) : Goes (DK.flushed D) N N (k + 1) := by
  refine ⟨may_flushed h.fcode, h.live, ?_, Nat.zero_le _, h.nl, h.nl, h.nb, h.nb, fun p hp => ?_, fun p hp => ?_⟩
  · exact (lay_length _ _).trans h.four
  · rw [seen_flushed h.may (by omega)]; exact h.seen p hp
  · rw [lies_flushed h.may (by omega)]; exact h.seen p hp
theorem Goes.reads {D : Dv} {N S : List Nat} {k : Nat} (h : Goes D N S k) {o : Nat} (ho : o < 4) : told (rtext D (o : Int)) (DK.rcode D (o : Int)) (N.getD o 0) = true := by
  rw [rtext, h.rcode ho, if_pos rfl]; exact told_true (R := N) (h.seen o ho)
theorem Goes.lasts {D : Dv} {N S : List Nat} {k : Nat} (h : Goes D N S k) {o : Nat} (ho : o < 4) : told (ltext D (o : Int)) (DK.rcode D (o : Int)) (S.getD o 0) = true := by
  rw [ltext, h.rcode ho, if_pos rfl]; exact told_true (R := N) (h.lies o ho)
theorem Goes.lt {D : Dv} {N S : List Nat} {k : Nat} (h : Goes D N S k) {o : Nat} (ho : o < 4) : N.getD o 0 < 256 ∧ S.getD o 0 < 256 :=
  ⟨h.nb _ (mem_getD (by rw [h.nl]; exact ho)), h.sb _ (mem_getD (by rw [h.sl]; exact ho))⟩
end Go.Proofs.Ytnhfkfihlkbkfaa.PW
