/-
  Devices of the call's own, each in its own part of memory; lists of them. Nothing here names a function of the program.
-/
import Derived.Test.YtnhfkfihlkbkfaaKinds
namespace Go.Proofs.Ytnhfkfihlkbkfaa.PW
open Go.RowKit
open DK (Dv)
set_option linter.unusedVariables false
set_option maxRecDepth 100000

theorem Rd.keepI {lo hi : Nat} {w w' : World} {x : Hd} (h : x.Rd w.heap.size w) (hs : Stays lo hi w w') (hz : w.heap.size ≤ w'.heap.size) (h1 : ∀ y, x.a = some y → x.l ≠ [] → lo ≤ y.block ∧ y.block < hi) : x.Rd w'.heap.size w' :=
  ⟨h.long, h.fits, h.small, h.byt, h.nil, fun hl => (by
    obtain ⟨b, off, ha, hb, hc⟩ := h.cells hl
    have := h1 _ ha hl
    exact ⟨b, off, ha, by omega, fun i hi => by rw [hs.cell (p := ⟨b, off + i, none⟩) this.1 this.2]; exact hc i hi⟩)⟩
theorem Item.keepI {lo hi : Nat} {w w' : World} {x : Hd} (h : Item lo w x) (hs : Stays lo hi w w') (hz : w.heap.size ≤ w'.heap.size) (h1 : ∀ y, x.a = some y → x.l ≠ [] → y.block < hi) : Item lo w' x := by
  refine ⟨Rd.keepI h.rd hs hz (fun y hy hl => ⟨(h.block hy hl).1, h1 y hy hl⟩), ?_⟩
  rcases h.free with e | ⟨g, ha, hg, hlt, hf⟩
  · exact .inl e
  · by_cases hl : x.l = []
    · exact .inl hl
    · have := h1 _ ha hl
      exact .inr ⟨g, ha, hg, Nat.lt_of_lt_of_le hlt hz, fun i => by rw [hs.frozen (p := ⟨g, i, none⟩) hg this]; exact hf i⟩
theorem ownsRow_keepI {lo hi : Nat} {w w' : World} {e : TypeId} {size n : Nat} {v : Value} {xs : List Value} (h : w.ownsRow lo e size v n xs) (hs : Stays lo hi w w') (h1 : ∀ k, v.ownBlock = some k → k < hi) : w'.ownsRow lo e size v n xs := by
  rcases h.2 with ⟨rfl, h0⟩ | ⟨g, cap, cur, rfl, hgb, hh, rest⟩
  · exact ⟨h.1, .inl ⟨rfl, h0⟩⟩
  · exact ⟨h.1, .inr ⟨g, cap, cur, rfl, hgb, by rw [hs g hgb (h1 g rfl), hh], rest⟩⟩
theorem Parts.keepI {lo hi : Nat} {w w' : World} {vb vw : Value} {H : List Hd} {K : List Wr} (h : Parts lo w vb vw H K) (hs : Stays lo hi w w') (hz : w.heap.size ≤ w'.heap.size) (av : ∀ g, hi ≤ g → Avoid g vb vw H K) : Parts lo w' vb vw H K := by
  have up : ∀ {p : Nat → Prop}, (∀ g, hi ≤ g → ¬ p g) → ∀ k, p k → k < hi := fun hp k hk => by
    rcases Nat.lt_or_ge k hi with h | h
    · exact h
    · exact absurd hk (hp k h)
  refine ⟨⟨ownsRow_keepI h.bl.own hs (up fun g hg => (av g hg).b), fun z hz' => (h.bl.each z hz').keepI hs hz (fun y hy hl => ?_), h.bl.apart⟩, ⟨ownsRow_keepI h.wa.own hs (up fun g hg => (av g hg).w), fun z hz' => (h.wa.each z hz').keepI hs hz (fun y hy hl => ?_), h.wa.apart⟩, h.cr⟩
  · rcases Nat.lt_or_ge y.block hi with e | e
    · exact e
    · exact absurd rfl ((av _ e).h z hz' y hy hl)
  · rcases Nat.lt_or_ge y.block hi with e | e
    · exact e
    · exact absurd rfl ((av _ e).k z hz' y hy hl)

/-- A device of the call's own, all of it in blocks from lo to below hi. -/
def OwnI (lo hi : Nat) (w : World) (x : Dn) : Prop :=
  ∃ H K, Parts lo w (.slice x.a x.n x.c) (.slice x.a' x.n' x.c') H K ∧ lists H = x.D.bs ∧ wlist K = x.D.ws ∧ ∀ g, hi ≤ g → Avoid g (.slice x.a x.n x.c) (.slice x.a' x.n' x.c') H K
theorem OwnI.keep {lo hi : Nat} {w w' : World} {x : Dn} (h : OwnI lo hi w x) (hs : Stays lo hi w w') (hz : w.heap.size ≤ w'.heap.size) : OwnI lo hi w' x := by
  obtain ⟨H, K, p, h1, h2, av⟩ := h
  exact ⟨H, K, p.keepI hs hz av, h1, h2, av⟩
theorem OwnI.mono {lo hi lo' hi' : Nat} {w : World} {x : Dn} (h : OwnI lo hi w x) (h1 : lo' ≤ lo) (h2 : hi ≤ hi') : OwnI lo' hi' w x := by
  obtain ⟨H, K, p, e1, e2, av⟩ := h
  exact ⟨H, K, p.mono h1, e1, e2, fun g hg => av g (by omega)⟩
theorem OwnI.here {lo : Nat} {w w' : World} {x : Dn} (h : OwnI lo w.heap.size w x) (hb : Below w.heap.size w w') : OwnI lo w'.heap.size w' x := (h.keep (.ofBelow hb (Nat.le_refl _)) hb.size).mono (Nat.le_refl _) hb.size
theorem OwnI.dev {lo hi : Nat} {w : World} {x : Dn} (h : OwnI lo hi w x) : OwnDev lo w x.val x.D := by
  obtain ⟨H, K, p, h1, h2, _⟩ := h
  exact p.dev h1 h2 _ rfl
theorem OwnDev.ofI {lo : Nat} {w : World} {a : Option Addr} {n c : Nat} {a' : Option Addr} {n' c' : Nat} {dd : Bool} {D : Dv} (h : OwnDev lo w (.agg #[.slice a n c, .slice a' n' c', .bool dd]) D) : OwnI lo w.heap.size w ⟨a, n, c, a', n', c', D⟩ ∧ dd = D.dead := by
  obtain ⟨vb, vw, H, K, e, g1, g2, h3, h4, hc⟩ := h.ex
  injection e with e
  have e2 := congrArg Array.toList e
  simp only [List.cons.injEq, and_true, Value.bool.injEq] at e2
  obtain ⟨rfl, rfl, rfl⟩ := e2
  have p : Parts lo w (.slice a n c) (.slice a' n' c') H K := ⟨g1, g2, hc⟩
  exact ⟨⟨H, K, p, h3, h4, fun g hg => p.avoid (.inr hg)⟩, rfl⟩
theorem OwnI.inn {lo hi : Nat} {w : World} {x : Dn} (h : OwnI lo hi w x) (hh : hi ≤ w.heap.size) : Dn.inn lo w.heap.size w x := (h.dev.inn).1
theorem OwnI.at {lo hi : Nat} {w : World} {x : Dn} (h : OwnI lo hi w x) : DevAt w.heap.size w x.a x.n x.c x.a' x.n' x.c' x.D := (h.dev.inn).1.at
theorem OwnI.nil (lo hi : Nat) (w : World) : OwnI lo hi w Dn.nil := by
  refine ⟨[], [], ⟨Grow.nil _ _, GrowW.nil _ _, ⟨(fun _ h => by cases h), (fun _ h => nomatch h), (fun _ h => nomatch h)⟩⟩, rfl, rfl, fun g _ => ⟨(fun h => by cases h), (fun h => by cases h), (fun _ h => nomatch h), (fun _ h => nomatch h)⟩⟩

/-- A list of devices of the call's own: block g holds just them; each lies behind it. -/
structure OwnDs (g : Nat) (w : World) (M : List Dn) : Prop where
  bx : Bx w g (kDn.row M)
  each : ∀ x ∈ M, OwnI (g + 1) w.heap.size w x
theorem OwnDs.here {g : Nat} {w w' : World} {M : List Dn} (h : OwnDs g w M) (hb : Below w.heap.size w w') : OwnDs g w' M := ⟨h.bx.here hb, fun x hx => (h.each x hx).here hb⟩
theorem OwnDs.rg {g : Nat} {w : World} {M : List Dn} (h : OwnDs g w M) (hm : M.length ≤ 1000000) : Rg kDn g w.heap.size w (some ⟨g, 0, none⟩) M.length M.length M :=
  Rg.ofBx h.bx (Nat.le_refl _) h.bx.lt (by unfold maxLen; omega) (fun x hx => DevI.mono ((h.each x hx).inn (Nat.le_refl _)) (Nat.le_succ _) (Nat.le_refl _))
/-- One device put in. -/
theorem OwnDs.put {g : Nat} {w : World} {M : List Dn} (h : OwnDs g w M) {k : Nat} (hk : k < M.length) {x : Dn} (hx : OwnI (g + 1) w.heap.size w x) :
    OwnDs g (((w.setCell ⟨g, k * 3, none⟩ (.slice x.a x.n x.c)).setCell ⟨g, k * 3 + 1, none⟩ (.slice x.a' x.n' x.c')).setCell ⟨g, k * 3 + 2, none⟩ (.bool x.D.dead)) (M.set k x) := by
  have hst : Stays (g + 1) w.heap.size w (((w.setCell ⟨g, k * 3, none⟩ (.slice x.a x.n x.c)).setCell ⟨g, k * 3 + 1, none⟩ (.slice x.a' x.n' x.c')).setCell ⟨g, k * 3 + 2, none⟩ (.bool x.D.dead)) :=
    ((Stays.setCell (w := w) ⟨g, k * 3, none⟩ _ (.inl (Nat.lt_succ_self g))).trans (Stays.setCell ⟨g, k * 3 + 1, none⟩ _ (.inl (Nat.lt_succ_self g)))).trans (Stays.setCell ⟨g, k * 3 + 2, none⟩ _ (.inl (Nat.lt_succ_self g)))
  have hsz : (((w.setCell ⟨g, k * 3, none⟩ (.slice x.a x.n x.c)).setCell ⟨g, k * 3 + 1, none⟩ (.slice x.a' x.n' x.c')).setCell ⟨g, k * 3 + 2, none⟩ (.bool x.D.dead)).heap.size = w.heap.size := by simp [World.setCell]
  refine ⟨h.bx.set3 rfl k hk x rfl, fun y hy => ?_⟩
  rw [hsz]
  rcases List.mem_or_eq_of_mem_set hy with hy | rfl
  · exact (h.each y hy).keep hst (by rw [hsz]; exact Nat.le_refl _)
  · exact hx.keep hst (by rw [hsz]; exact Nat.le_refl _)

/-- Devices made one behind the other, each in a part of memory of its own; block g lies below all. -/
structure Made (g : Nat) (w : World) (M : List Dn) (c : Nat → Nat) : Prop where
  lo : g + 1 ≤ c 0
  up : ∀ i, i < M.length → c i ≤ c (i + 1)
  top : c M.length ≤ w.heap.size
  each : ∀ i, i < M.length → OwnI (c i) (c (i + 1)) w (M.getD i Dn.nil)
theorem Made.mono {g : Nat} {w : World} {M : List Dn} {c : Nat → Nat} (h : Made g w M c) : ∀ {i j : Nat}, i ≤ j → j ≤ M.length → c i ≤ c j := by
  intro i j hij
  induction j with
  | zero => intro _; obtain rfl : i = 0 := (by omega); exact Nat.le_refl _
  | succ j ih =>
    intro hj
    by_cases e : i = j + 1
    · subst e; exact Nat.le_refl _
    · exact Nat.le_trans (ih (by omega) (by omega)) (h.up j (by omega))
theorem Made.keep {g : Nat} {w w' : World} {M : List Dn} {c : Nat → Nat} (h : Made g w M c) (hs : Stays (g + 1) w.heap.size w w') (hz : w.heap.size ≤ w'.heap.size) : Made g w' M c :=
  ⟨h.lo, h.up, Nat.le_trans h.top hz, fun i hi => (h.each i hi).keep (hs.part (Nat.le_trans h.lo (h.mono (Nat.zero_le i) (by omega))) (Nat.le_trans (h.mono (show i + 1 ≤ M.length from hi) (Nat.le_refl _)) h.top)) hz⟩
theorem Made.nil (g : Nat) (w : World) (hg : g < w.heap.size) : Made g w [] (fun _ => w.heap.size) :=
  ⟨hg, fun _ h => by simp at h, Nat.le_refl _, fun _ h => by simp at h⟩
theorem Made.snoc {g : Nat} {w : World} {M : List Dn} {c : Nat → Nat} (h : Made g w M c) {w' : World} (hb : Below w.heap.size w w') {lo : Nat} (hlo : w.heap.size ≤ lo) {x : Dn} (hx : OwnI lo w'.heap.size w' x) :
    ∃ c', Made g w' (M ++ [x]) c' := by
  have hk := h.keep (.ofBelow hb (Nat.le_refl _)) hb.size
  refine ⟨fun i => if i ≤ M.length then c i else w'.heap.size, ?_, ?_, ?_, ?_⟩
  · show g + 1 ≤ if 0 ≤ M.length then c 0 else _
    rw [if_pos (Nat.zero_le _)]; exact h.lo
  · intro i hi
    rw [List.length_append, List.length_singleton] at hi
    show (if i ≤ M.length then c i else _) ≤ if i + 1 ≤ M.length then c (i + 1) else _
    rw [if_pos (by omega)]
    split
    · next e => exact h.up i (by omega)
    · next e =>
      obtain rfl : i = M.length := by omega
      exact hk.top
  · rw [List.length_append, List.length_singleton]
    show (if M.length + 1 ≤ M.length then c (M.length + 1) else w'.heap.size) ≤ _
    rw [if_neg (by omega)]
    exact Nat.le_refl _
  · intro i hi
    rw [List.length_append, List.length_singleton] at hi
    show OwnI (if i ≤ M.length then c i else _) (if i + 1 ≤ M.length then c (i + 1) else _) w' _
    rw [if_pos (by omega)]
    by_cases e : i < M.length
    · rw [if_pos (by omega)]
      have : (M ++ [x]).getD i Dn.nil = M.getD i Dn.nil := by simp [List.getD, List.getElem?_append_left e]
      rw [this]; exact hk.each i e
    · obtain rfl : i = M.length := by omega
      rw [if_neg (by omega)]
      have : (M ++ [x]).getD M.length Dn.nil = x := by simp [List.getD]
      rw [this]; exact hx.mono (Nat.le_trans h.top hlo) (Nat.le_refl _)
theorem Made.all {g : Nat} {w : World} {M : List Dn} {c : Nat → Nat} (h : Made g w M c) : ∀ x ∈ M, OwnI (g + 1) w.heap.size w x := by
  intro x hx
  obtain ⟨j, hj, rfl⟩ := List.mem_iff_getElem.1 hx
  have := h.each j hj
  have e : M.getD j Dn.nil = M[j] := by simp [List.getD, hj]
  rw [e] at this
  exact this.mono (Nat.le_trans h.lo (h.mono (Nat.zero_le j) (by omega))) (Nat.le_trans (h.mono (show j + 1 ≤ M.length from hj) (Nat.le_refl _)) h.top)
end Go.Proofs.Ytnhfkfihlkbkfaa.PW
