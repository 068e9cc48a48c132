/-
  Layer 4's plain mathematics: a device as lists of numbers; what may be, what lasts, what is read, what a write, a flush, a death make of it.
  What every later layer's walks share of devices (api.Disk): lists of writes that wait, devices that came in, devices that the call made. Nothing here names a function of the program.
  Lists of a call's own that grow by new slices, and by writes over new slices; what a step turns, and what it leaves. Nothing here names a function of the program.
  More on lists of a call's own that grow: what a step in one of two lists leaves of the other. Nothing here names a function of the program.
  Lists of structs of any kind: what came in, what the call made. A kind tells its cells, and what it is for one to read as it does within some blocks. Nothing here names a function of the program.
  A device that came in, and steps that came in: what a datum tells. No function of the program is named.
  The kinds: slices of bytes, writes that wait, devices, acts, marks; what came in of them. Nothing here names a function of the program.
  Lists of structs that a call makes by append: what each append leaves. Nothing here names a function of the program.
-/
import Derived.Below
import Derived.Test.YtbhehicfenkbcaaBase
import Derived.Deep.SlicePairs
import Derived.Lib.SmallJoins
import Derived.WalkKit
import Derived.ProofKit
import Derived.OpenShut
namespace Go.Proofs.Ytbhehicfenkbcaa.DK
set_option linter.unusedVariables false
set_option maxRecDepth 100000

/-- A device: its blocks, the writes that wait, whether it is dead. -/
structure Dv where
  bs : List (List Nat)
  ws : List (Int × List Nat)
  dead : Bool
def Dv.nil : Dv := ⟨[], [], false⟩

/-- A block's bytes: none are noughts. -/
def fl (l : List Nat) : List Nat := if l.length = 0 then List.replicate 128 0 else l
theorem fl_fl (l : List Nat) : fl (fl l) = fl l := by
  unfold fl; split
  · simp
  · rfl
theorem fl_nil : fl [] = List.replicate 128 0 := by simp [fl]
theorem fl_ne {l : List Nat} (h : l.length ≠ 0) : fl l = l := by simp [fl, h]
def sized (l : List Nat) : Bool := decide (l.length = 0) || decide (l.length = 128)
theorem sized_iff {l : List Nat} : sized l = true ↔ l.length = 0 ∨ l.length = 128 := by simp [sized]
theorem sized_no {l : List Nat} : sized l = false ↔ l.length ≠ 0 ∧ l.length ≠ 128 := by simp [sized]
theorem fl_length {l : List Nat} (h : sized l = true) : (fl l).length = 128 := by
  rw [sized_iff] at h
  unfold fl; split
  · simp
  · omega
theorem fl_sized {l : List Nat} (h : sized l = true) : sized (fl l) = true := by rw [sized_iff]; right; exact fl_length h
theorem fl_bytes {l : List Nat} (h : ∀ x ∈ l, x < 256) : ∀ x ∈ fl l, x < 256 := by
  unfold fl; split
  · intro x hx; have := (List.mem_replicate.1 hx).2; omega
  · exact h
def fw (p : Int × List Nat) : Int × List Nat := (p.1, fl p.2)
/-- A device with each block written out. -/
def norm (D : Dv) : Dv := ⟨D.bs.map fl, D.ws.map fw, D.dead⟩

/-- Has it a block there? -/
def has (D : Dv) (at_ : Int) : Bool := decide (0 ≤ at_) && decide (at_ < (D.bs.length : Int))
theorem has_iff {D : Dv} {at_ : Int} : has D at_ = true ↔ 0 ≤ at_ ∧ at_ < (D.bs.length : Int) := by simp [has]
theorem has_no {D : Dv} {at_ : Int} : has D at_ = false ↔ at_ < 0 ∨ (D.bs.length : Int) ≤ at_ := by
  rw [← Bool.not_eq_true, has_iff]; omega
def okB (D : Dv) (l : List Nat) : Bool := sized l && (!D.dead || decide (l.length = 0))
def okW (D : Dv) (p : Int × List Nat) : Bool := has D p.1 && sized p.2
def may (D : Dv) : Bool :=
  decide (1 ≤ D.bs.length) && decide (D.bs.length ≤ 256) && decide (D.ws.length ≤ 1024) && (!D.dead || decide (D.ws.length = 0)) && D.bs.all (okB D) && D.ws.all (okW D)
theorem may_iff {D : Dv} : may D = true ↔ 1 ≤ D.bs.length ∧ D.bs.length ≤ 256 ∧ D.ws.length ≤ 1024 ∧ (D.dead = true → D.ws.length = 0) ∧ (∀ l ∈ D.bs, okB D l = true) ∧ (∀ p ∈ D.ws, okW D p = true) := by
  unfold may
  simp only [Bool.and_eq_true, decide_eq_true_eq, List.all_eq_true, Bool.or_eq_true, Bool.not_eq_true']
  constructor
  · rintro ⟨⟨⟨⟨⟨h1, h2⟩, h3⟩, h4⟩, h5⟩, h6⟩
    exact ⟨h1, h2, h3, fun hd => h4.resolve_left (by simp [hd]), h5, h6⟩
  · rintro ⟨h1, h2, h3, h4, h5, h6⟩
    exact ⟨⟨⟨⟨⟨h1, h2⟩, h3⟩, by cases hd : D.dead <;> simp_all⟩, h5⟩, h6⟩

/-- What lasts there, what is read there. -/
def lies (D : Dv) (at_ : Int) : List Nat := fl (D.bs.getD at_.toNat [])
def look (at_ : Int) (init : List Nat) (ws : List (Int × List Nat)) : List Nat := ws.foldl (fun acc p => if p.1 = at_ then fl p.2 else acc) init
def seen (D : Dv) (at_ : Int) : List Nat := look at_ (lies D at_) D.ws
theorem look_nil (at_ : Int) (i : List Nat) : look at_ i [] = i := rfl
theorem look_snoc (at_ : Int) (i : List Nat) (ws : List (Int × List Nat)) (p : Int × List Nat) : look at_ i (ws ++ [p]) = if p.1 = at_ then fl p.2 else look at_ i ws := by simp [look]
theorem look_none (at_ : Int) (i : List Nat) {ws : List (Int × List Nat)} (h : ∀ p ∈ ws, p.1 ≠ at_) : look at_ i ws = i := by
  induction ws with
  | nil => rfl
  | cons p r ih =>
    have := h p (List.mem_cons_self ..)
    show look at_ (if p.1 = at_ then fl p.2 else i) r = i
    rw [if_neg this]
    exact ih (fun q hq => h q (List.mem_cons_of_mem _ hq))
theorem look_append (at_ : Int) (i : List Nat) (u v : List (Int × List Nat)) : look at_ i (u ++ v) = look at_ (look at_ i u) v := by simp [look]
/-- The last write of that place. -/
theorem look_last (at_ : Int) (i : List Nat) (u v : List (Int × List Nat)) (p : Int × List Nat) (h : p.1 = at_) (hv : ∀ q ∈ v, q.1 ≠ at_) : look at_ i (u ++ p :: v) = fl p.2 := by
  have : u ++ p :: v = (u ++ [p]) ++ v := by simp
  rw [this, look_append, look_none _ _ hv, look_snoc, if_pos h]

/-! Errors. -/
def rcode (D : Dv) (at_ : Int) : Nat := if may D = false then 8 else if has D at_ = false then 2 else if D.dead = true then 40 else 0
def pcode (D : Dv) (at_ : Int) : Nat := if may D = false then 8 else if has D at_ = false then 2 else 0
def wcode (D : Dv) (at_ : Int) (l : List Nat) : Nat := if may D = false then 8 else if has D at_ = false then 2 else if sized l = false then 3 else if D.dead = true then 40 else 0
def wcode' (D : Dv) (at_ : Int) (l : List Nat) : Nat := if wcode D at_ l ≠ 0 then wcode D at_ l else if 1024 ≤ D.ws.length then 9 else 0
def fcode (D : Dv) : Nat := if may D = false then 8 else if D.dead = true then 40 else 0
def kcode (D : Dv) : Nat := if may D = false then 8 else 0
/-! What is made of a device. -/
def put (D : Dv) (at_ : Int) (l : List Nat) : Dv := ⟨D.bs, D.ws ++ [(at_, l)], D.dead⟩
def sure (D : Dv) (at_ : Int) (l : List Nat) : Dv := ⟨D.bs.set at_.toNat l, D.ws.filter (fun p => decide (p.1 ≠ at_)), D.dead⟩
def lay (bs : List (List Nat)) (ws : List (Int × List Nat)) : List (List Nat) := ws.foldl (fun acc p => acc.set p.1.toNat p.2) bs
def flushed (D : Dv) : Dv := ⟨lay D.bs D.ws, [], D.dead⟩
def rflushed (D : Dv) : Dv := ⟨(List.range D.bs.length).map (fun (k : Nat) => seen D (k : Int)), [], D.dead⟩
def killed (D : Dv) : Dv := ⟨List.replicate D.bs.length [], [], true⟩
def fresh (n : Nat) : Dv := ⟨List.replicate n [], [], false⟩
end Go.Proofs.Ytbhehicfenkbcaa.DK

namespace Go.Proofs.Ytbhehicfenkbcaa.PW
open Go.RowKit
open DK (Dv)
set_option linter.unusedVariables false
set_option maxRecDepth 100000

/-- One write that waits, as it lies in memory: a number and a slice of bytes. -/
structure Wr where
  n : Int
  h : Hd
def Wr.nil : Wr := ⟨0, Hd.nil⟩
instance : Inhabited Wr := ⟨Wr.nil⟩
def Wr.two (x : Wr) : List Value := [.int .i64 x.n, x.h.val]
def wcells (K : List Wr) : List Value := K.flatMap Wr.two
def wlist (K : List Wr) : List (Int × List Nat) := K.map fun x => (x.n, x.h.l)
theorem wcells_length (K : List Wr) : (wcells K).length = K.length * 2 := by
  induction K with
  | nil => rfl
  | cons x r ih => show (Wr.two x ++ wcells r).length = _; simp [ih, Wr.two]; omega
theorem wcells_append (K L : List Wr) : wcells (K ++ L) = wcells K ++ wcells L := by simp [wcells]
theorem wcells_get (K : List Wr) (k : Nat) (hk : k < K.length) : (wcells K)[k * 2]? = some (.int .i64 (K.getD k Wr.nil).n) ∧ (wcells K)[k * 2 + 1]? = some (K.getD k Wr.nil).h.val := by
  induction K generalizing k with
  | nil => simp at hk
  | cons x r ih =>
    have e : wcells (x :: r) = .int .i64 x.n :: x.h.val :: wcells r := rfl
    rw [e]
    cases k with
    | zero => exact ⟨rfl, rfl⟩
    | succ k =>
      have := ih k (by simpa using hk)
      have e1 : (k + 1) * 2 = k * 2 + 1 + 1 := by omega
      rw [e1]
      exact this
theorem wlist_length (K : List Wr) : (wlist K).length = K.length := by simp [wlist]
theorem wlist_append (K L : List Wr) : wlist (K ++ L) = wlist K ++ wlist L := by simp [wlist]
theorem wlist_take (K : List Wr) (k : Nat) : wlist (K.take k) = (wlist K).take k := by simp [wlist, List.map_take]
theorem wlist_getD (K : List Wr) (k : Nat) : (wlist K).getD k (0, []) = ((K.getD k Wr.nil).n, (K.getD k Wr.nil).h.l) := by
  unfold wlist
  simp only [List.getD, List.getElem?_map]
  cases K[k]? <;> rfl

/-- A slice of writes that reads as the list K in the world w, in blocks below B. -/
structure Rws (B : Nat) (w : World) (a : Option Addr) (len cap : Nat) (K : List Wr) : Prop where
  long : len = K.length
  fits : K.length ≤ cap
  small : cap ≤ maxLen
  nil : a = none → len = 0 ∧ cap = 0
  cells : K ≠ [] → ∃ b off, a = some ⟨b, off, none⟩ ∧ b < B ∧ ∀ i, i < K.length → w.cell? ⟨b, off + i * 2, none⟩ = some (.int .i64 (K.getD i Wr.nil).n) ∧ w.cell? ⟨b, off + i * 2 + 1, none⟩ = some (K.getD i Wr.nil).h.val
  each : ∀ x ∈ K, x.h.Rd B w
theorem Rws.below {B : Nat} {w w' : World} {a : Option Addr} {len cap : Nat} {K : List Wr} (h : Rws B w a len cap K) (hb : Below B w w') : Rws B w' a len cap K :=
  ⟨h.long, h.fits, h.small, h.nil, fun hl => (by
    obtain ⟨b, off, ha, hB, hc⟩ := h.cells hl
    exact ⟨b, off, ha, hB, fun i hi => by
      rw [hb.cell (p := ⟨b, off + i * 2, none⟩) hB, hb.cell (p := ⟨b, off + i * 2 + 1, none⟩) hB]; exact hc i hi⟩), fun x hx => (h.each x hx).below hb⟩
theorem Rws.mono {B B' : Nat} {w : World} {a : Option Addr} {len cap : Nat} {K : List Wr} (h : Rws B w a len cap K) (hB : B ≤ B') : Rws B' w a len cap K :=
  ⟨h.long, h.fits, h.small, h.nil, fun hl => (by
    obtain ⟨b, off, ha, hb, hc⟩ := h.cells hl
    exact ⟨b, off, ha, by omega, hc⟩), fun x hx => (h.each x hx).mono hB⟩
theorem Rws.here {w w' : World} {a : Option Addr} {len cap : Nat} {K : List Wr} (h : Rws w.heap.size w a len cap K) (hb : Below w.heap.size w w') : Rws w'.heap.size w' a len cap K :=
  (h.below hb).mono hb.size
theorem Rws.drewN {B : Nat} {w : World} {a : Option Addr} {len cap : Nat} {K : List Wr} (h : Rws B w a len cap K) (n : Nat) : Rws B (w.drewN n) a len cap K :=
  h.below (below_drewN (Below.refl _ _) n)
theorem rws_nil (B : Nat) (w : World) : Rws B w none 0 0 [] :=
  ⟨rfl, Nat.le_refl _, (by unfold maxLen; decide), fun _ => ⟨rfl, rfl⟩, fun h => absurd rfl h, fun _ h => nomatch h⟩
/-- One of a list. -/
theorem Rws.at {B : Nat} {w : World} {a : Option Addr} {len cap : Nat} {K : List Wr} (h : Rws B w a len cap K) (k : Nat) (hk : k < K.length) :
    ∃ b off n xa xlen xcap xl, a = some ⟨b, off, none⟩ ∧ b < B ∧ K.getD k Wr.nil = ⟨n, ⟨xa, xlen, xcap, xl⟩⟩ ∧ w.cell? ⟨b, off + k * 2, none⟩ = some (.int .i64 n) ∧ w.cell? ⟨b, off + k * 2 + 1, none⟩ = some (.slice xa xlen xcap) ∧ Rd B w xa xlen xcap xl := by
  obtain ⟨b, off, ha, hB, hc⟩ := h.cells (by intro e; subst e; simp at hk)
  exact ⟨b, off, _, _, _, _, _, ha, hB, rfl, (hc k hk).1, (hc k hk).2, h.each _ (mem_getD hk)⟩

/-- Memory that a call owns: a row that lies in a block below w's end stays as it is while all below it does. -/
theorem ownsRow_below {w w' : World} {base B : Nat} {e : TypeId} {size : Nat} {v : Value} {n : Nat} {xs : List Value} (h : w.ownsRow base e size v n xs) (hb : Below B w w') (hB : ∀ k, v.ownBlock = some k → k < B) : w'.ownsRow base e size v n xs := by
  rcases h.2 with ⟨rfl, h0⟩ | ⟨g, cap, cur, rfl, hgb, hh, rest⟩
  · exact ⟨h.1, .inl ⟨rfl, h0⟩⟩
  · exact ⟨h.1, .inr ⟨g, cap, cur, rfl, hgb, by rw [hb.block g (hB g rfl), hh], rest⟩⟩
theorem ownsRow_grown {w w' : World} {base : Nat} {e : TypeId} {size : Nat} {v : Value} {n : Nat} {xs : List Value} (h : w.ownsRow base e size v n xs) (hb : Below w.heap.size w w') : w'.ownsRow base e size v n xs :=
  ownsRow_below h hb fun k hk => (World.ownsRow.lt h k hk).2

/-- A slice of bytes in memory of the call's own, from block lo on, that may be written. -/
def Free (lo : Nat) (w : World) (x : Hd) : Prop := x.l = [] ∨ ∃ g, x.a = some ⟨g, 0, none⟩ ∧ lo ≤ g ∧ g < w.heap.size ∧ ∀ i, w.frozen? ⟨g, i, none⟩ = false
theorem Free.below {lo B : Nat} {w w' : World} {x : Hd} (h : Free lo w x) (hb : Below B w w') (hB : w.heap.size ≤ B) : Free lo w' x := by
  rcases h with h | ⟨g, ha, hg, hlt, hf⟩
  · exact .inl h
  · exact .inr ⟨g, ha, hg, Nat.lt_of_lt_of_le hlt hb.size, fun i => by rw [hb.frozen (p := ⟨g, i, none⟩) (by show g < B; omega)]; exact hf i⟩
theorem Free.here {lo : Nat} {w w' : World} {x : Hd} (h : Free lo w x) (hb : Below w.heap.size w w') : Free lo w' x := h.below hb (Nat.le_refl _)
theorem Free.mono {lo lo' : Nat} {w : World} {x : Hd} (h : Free lo w x) (hl : lo' ≤ lo) : Free lo' w x := by
  rcases h with h | ⟨g, ha, hg, hlt, hf⟩
  · exact .inl h
  · exact .inr ⟨g, ha, by omega, hlt, hf⟩
theorem Own.free {w : World} {lo : Nat} {a : Option Addr} {n cap : Nat} {l : List Nat} (hn : n = l.length) (h : Own w lo (.slice a n cap) l) : Free lo w ⟨a, n, cap, l⟩ := by
  subst hn
  rcases Nat.eq_zero_or_pos l.length with h0 | h0
  · exact .inl (List.eq_nil_of_length_eq_zero h0)
  · obtain ⟨g, cp, hv, hg, hlt, _⟩ := h.form h0
    injection hv with hv1 _ hv2
    subst hv1 hv2
    exact .inr ⟨g, rfl, hg, hlt, fun i => Own.frozen rfl h i⟩
theorem Blk.free {w : World} {lo g : Nat} {n cap : Nat} {l : List Nat} (h : Blk w g l) (hg : lo ≤ g) : Free lo w ⟨some ⟨g, 0, none⟩, n, cap, l⟩ :=
  .inr ⟨g, rfl, hg, h.lt, fun i => h.frozen i⟩

/-- A device that reads as D in the world w, in blocks below B: its two lists. -/
structure DevAt (B : Nat) (w : World) (a : Option Addr) (n c : Nat) (a' : Option Addr) (n' c' : Nat) (D : Dv) : Prop where
  ex : ∃ H K, Rds B w a n c H ∧ Rws B w a' n' c' K ∧ lists H = D.bs ∧ wlist K = D.ws
theorem DevAt.below {B : Nat} {w w' : World} {a a' : Option Addr} {n c n' c' : Nat} {D : Dv} (h : DevAt B w a n c a' n' c' D) (hb : Below B w w') : DevAt B w' a n c a' n' c' D := by
  obtain ⟨H, K, h1, h2, h3, h4⟩ := h.ex
  exact ⟨H, K, h1.below hb, h2.below hb, h3, h4⟩
theorem DevAt.mono {B B' : Nat} {w : World} {a a' : Option Addr} {n c n' c' : Nat} {D : Dv} (h : DevAt B w a n c a' n' c' D) (hB : B ≤ B') : DevAt B' w a n c a' n' c' D := by
  obtain ⟨H, K, h1, h2, h3, h4⟩ := h.ex
  exact ⟨H, K, h1.mono hB, h2.mono hB, h3, h4⟩
theorem DevAt.here {w w' : World} {a a' : Option Addr} {n c n' c' : Nat} {D : Dv} (h : DevAt w.heap.size w a n c a' n' c' D) (hb : Below w.heap.size w w') : DevAt w'.heap.size w' a n c a' n' c' D :=
  (h.below hb).mono hb.size
theorem DevAt.long {B : Nat} {w : World} {a a' : Option Addr} {n c n' c' : Nat} {D : Dv} (h : DevAt B w a n c a' n' c' D) : n = D.bs.length ∧ n' = D.ws.length := by
  obtain ⟨H, K, h1, h2, h3, h4⟩ := h.ex
  exact ⟨by rw [← h3, lists_length]; exact h1.long, by rw [← h4, wlist_length]; exact h2.long⟩
theorem DevAt.small {B : Nat} {w : World} {a a' : Option Addr} {n c n' c' : Nat} {D : Dv} (h : DevAt B w a n c a' n' c' D) : n ≤ maxLen ∧ n' ≤ maxLen := by
  obtain ⟨H, K, h1, h2, h3, h4⟩ := h.ex
  have := h1.long; have := h1.fits; have := h1.small; have := h2.long; have := h2.fits; have := h2.small
  omega
/-- One block. -/
theorem DevAt.at {B : Nat} {w : World} {a a' : Option Addr} {n c n' c' : Nat} {D : Dv} (h : DevAt B w a n c a' n' c' D) (k : Nat) (hk : k < n) :
    ∃ b off xa xlen xcap xl, a = some ⟨b, off, none⟩ ∧ b < B ∧ D.bs.getD k [] = xl ∧ w.cell? ⟨b, off + k, none⟩ = some (.slice xa xlen xcap) ∧ Rd B w xa xlen xcap xl := by
  obtain ⟨H, K, h1, h2, h3, h4⟩ := h.ex
  obtain ⟨b, off, xa, xlen, xcap, xl, e1, e2, e3, e4, e5⟩ := h1.at k (by rw [← h1.long]; exact hk)
  exact ⟨b, off, xa, xlen, xcap, xl, e1, e2, by rw [← h3, lists_getD, e3], e4, e5⟩
/-- One write that waits. -/
theorem DevAt.wat {B : Nat} {w : World} {a a' : Option Addr} {n c n' c' : Nat} {D : Dv} (h : DevAt B w a n c a' n' c' D) (k : Nat) (hk : k < n') :
    ∃ b off m xa xlen xcap xl, a' = some ⟨b, off, none⟩ ∧ b < B ∧ D.ws.getD k (0, []) = (m, xl) ∧ w.cell? ⟨b, off + k * 2, none⟩ = some (.int .i64 m) ∧ w.cell? ⟨b, off + k * 2 + 1, none⟩ = some (.slice xa xlen xcap) ∧ Rd B w xa xlen xcap xl := by
  obtain ⟨H, K, h1, h2, h3, h4⟩ := h.ex
  obtain ⟨b, off, m, xa, xlen, xcap, xl, e1, e2, e3, e4, e5, e6⟩ := h2.at k (by rw [← h2.long]; exact hk)
  exact ⟨b, off, m, xa, xlen, xcap, xl, e1, e2, by rw [← h4, wlist_getD, e3], e4, e5, e6⟩
theorem DevAt.bytes {B : Nat} {w : World} {a a' : Option Addr} {n c n' c' : Nat} {D : Dv} (h : DevAt B w a n c a' n' c' D) : (∀ l ∈ D.bs, Bytes l) ∧ (∀ p ∈ D.ws, Bytes p.2) := by
  obtain ⟨H, K, h1, h2, h3, h4⟩ := h.ex
  refine ⟨fun l hl => ?_, fun p hp => ?_⟩
  · rw [← h3] at hl; exact h1.bytes l hl
  · rw [← h4] at hp
    obtain ⟨x, hx, rfl⟩ := List.mem_map.1 hp
    exact (h2.each x hx).byt

end Go.Proofs.Ytbhehicfenkbcaa.PW

namespace Go.Proofs.Ytbhehicfenkbcaa.PW
open Go.RowKit
open DK (Dv)
set_option linter.unusedVariables false
set_option maxRecDepth 100000

theorem grownBy_trans {w w1 w2 : World} {row : Option Nat} (h : w.grownBy w1 row) (k : w1.grownBy w2 row) : w.grownBy w2 row :=
  ⟨k.os.trans h.os, k.tape.trans h.tape, k.output.trans h.output, Nat.le_trans h.size k.size, fun i hi hne => (k.block i (Nat.lt_of_lt_of_le hi h.size) hne).trans (h.block i hi hne)⟩
theorem grownBy_below {w w1 w2 : World} {row : Option Nat} (h : w.grownBy w1 row) (k : Below w1.heap.size w1 w2) : w.grownBy w2 row :=
  ⟨k.os.trans h.os, k.tape.trans h.tape, k.output.trans h.output, Nat.le_trans h.size k.size, fun i hi hne => (k.block i (Nat.lt_of_lt_of_le hi h.size)).trans (h.block i hi hne)⟩
theorem grownBy_of_below {w w1 : World} (row : Option Nat) (k : Below w.heap.size w w1) : w.grownBy w1 row := grownBy_below (World.grownBy.refl w row) k
theorem grownBy_alloc {w w1 : World} {row : Option Nat} (h : w.grownBy w1 row) (o : Obj) : w.grownBy (w1.alloc o) row := grownBy_below h ((Below.refl _ _).alloc (Nat.le_refl _) _)
theorem grownBy_drew {w w1 : World} {row : Option Nat} (h : w.grownBy w1 row) : w.grownBy w1.drew row := grownBy_below h (Below.refl _ _).drew
theorem grownBy_setCell {w w1 : World} {g : Nat} (h : w.grownBy w1 (some g)) (i : Nat) (v : Value) : w.grownBy (w1.setCell ⟨g, i, none⟩ v) (some g) :=
  ⟨h.os, h.tape, h.output, by simp [World.setCell]; exact h.size, fun k hk hne => by
    rw [Below.heap_setCell _ _ _ _ (fun e => hne (by rw [e]))]; exact h.block k hk hne⟩
/-- A step that turned one other row, of later memory. -/
theorem grownBy_other {w w1 w2 : World} {row row' : Option Nat} (h : w.grownBy w1 row) (k : w1.grownBy w2 row') (hr : ∀ b, row' = some b → w.heap.size ≤ b) : w.grownBy w2 row :=
  ⟨k.os.trans h.os, k.tape.trans h.tape, k.output.trans h.output, Nat.le_trans h.size k.size, fun i hi hne => (k.block i (Nat.lt_of_lt_of_le hi h.size) (fun e => by have := hr i e.symm; omega)).trans (h.block i hi hne)⟩
theorem Below.ofGrown {B : Nat} {w w' : World} {row : Option Nat} (h : w.grownBy w' row) (hB : B ≤ w.heap.size) (hr : ∀ b, row = some b → B ≤ b) : Below B w w' :=
  (Below.refl _ _).grown h hB hr

theorem Rd.grown {B : Nat} {w w' : World} {row : Option Nat} {a : Option Addr} {len cap : Nat} {l : List Nat} (h : Rd B w a len cap l) (hg : w.grownBy w' row) (hB : B ≤ w.heap.size) (hne : ∀ x, a = some x → l ≠ [] → row ≠ some x.block) : Rd B w' a len cap l :=
  ⟨h.long, h.fits, h.small, h.byt, h.nil, fun hl => (by
    obtain ⟨b, off, ha, hb, hc⟩ := h.cells hl
    refine ⟨b, off, ha, hb, fun i hi => ?_⟩
    have hn : some b ≠ row := fun e => hne _ ha hl e.symm
    have := World.grownBy.cell_far hg ⟨b, off + i, none⟩ (by show b < _; omega) hn
    rw [this]
    exact hc i hi)⟩
theorem Free.grown {lo : Nat} {w w' : World} {row : Option Nat} {x : Hd} (h : Free lo w x) (hg : w.grownBy w' row) (hne : ∀ b, x.a = some b → x.l ≠ [] → row ≠ some b.block) : Free lo w' x := by
  rcases h with h | ⟨g, ha, hlo, hlt, hf⟩
  · exact .inl h
  · by_cases hl : x.l = []
    · exact .inl hl
    · exact .inr ⟨g, ha, hlo, Nat.lt_of_lt_of_le hlt hg.size, fun i => by
        rw [World.grownBy.frozen_far hg ⟨g, i, none⟩ hlt (fun e => hne _ ha hl e.symm)]; exact hf i⟩

/-- A slice in memory of the call's own: it reads as it does, from block lo on, and may be written. -/
structure Item (lo : Nat) (w : World) (x : Hd) : Prop where
  rd : x.Rd w.heap.size w
  free : Free lo w x
theorem Item.block {lo : Nat} {w : World} {x : Hd} (h : Item lo w x) {b : Addr} (ha : x.a = some b) (hl : x.l ≠ []) : lo ≤ b.block ∧ b.block < w.heap.size := by
  rcases h.free with h | ⟨g, hg, h1, h2, _⟩
  · exact absurd h hl
  · rw [ha] at hg; injection hg with hg; subst hg; exact ⟨h1, h2⟩
theorem Item.grown {lo : Nat} {w w' : World} {row : Option Nat} {x : Hd} (h : Item lo w x) (hg : w.grownBy w' row) (hne : ∀ b, x.a = some b → x.l ≠ [] → row ≠ some b.block) : Item lo w' x :=
  ⟨Rd.mono (Rd.grown h.rd hg (Nat.le_refl _) hne) hg.size, h.free.grown hg hne⟩
theorem Item.here {lo : Nat} {w w' : World} {x : Hd} (h : Item lo w x) (hb : Below w.heap.size w w') : Item lo w' x := ⟨Rd.here h.rd hb, h.free.here hb⟩
theorem Item.mono {lo lo' : Nat} {w : World} {x : Hd} (h : Item lo w x) (hl : lo' ≤ lo) : Item lo' w x := ⟨h.rd, h.free.mono hl⟩
theorem Item.own {lo : Nat} {w : World} {a : Option Addr} {n c : Nat} {l : List Nat} (o : Own w lo (.slice a n c) l) (r : Rd w.heap.size w a n c l) : Item lo w ⟨a, n, c, l⟩ := ⟨r, o.free r.long⟩
/-- A store elsewhere. -/
theorem Item.setCell {lo : Nat} {w : World} {x : Hd} (h : Item lo w x) (p : Addr) (hp : p.block < lo) (v : Value) : Item lo (w.setCell p v) x :=
  h.grown (row := some p.block) ⟨rfl, rfl, rfl, by simp [World.setCell], fun k hk hne => Below.heap_setCell _ _ _ _ (fun e => hne (by rw [e]))⟩ (fun b ha hl e => by
    injection e with e
    have := (h.block ha hl).1
    omega)

/-- Slices in blocks other than that of the list that holds them. -/
def Apart (v : Value) (K : List Hd) : Prop := ∀ z ∈ K, ∀ x, z.a = some x → z.l ≠ [] → v.ownBlock ≠ some x.block
/-- A list of new slices that grows. -/
structure Grow (lo : Nat) (w : World) (v : Value) (K : List Hd) : Prop where
  own : OwnS w lo v K
  each : ∀ z ∈ K, Item lo w z
  apart : Apart v K
theorem Grow.nil (lo : Nat) (w : World) : Grow lo w (.slice none 0 0) [] := ⟨owns_nil _ _, (fun _ h => nomatch h), fun _ h => nomatch h⟩
theorem Grow.lt {lo : Nat} {w : World} {v : Value} {K : List Hd} (h : Grow lo w v K) : ∀ k, v.ownBlock = some k → lo ≤ k ∧ k < w.heap.size := fun k hk => World.ownsRow.lt h.own k hk
theorem Grow.here {lo : Nat} {w w' : World} {v : Value} {K : List Hd} (h : Grow lo w v K) (hb : Below w.heap.size w w') : Grow lo w' v K :=
  ⟨ownsRow_grown h.own hb, fun z hz => (h.each z hz).here hb, h.apart⟩
theorem Grow.drew {lo : Nat} {w : World} {v : Value} {K : List Hd} (h : Grow lo w v K) : Grow lo w.drew v K := h.here (Below.refl _ _).drew
theorem Grow.mono {lo lo' : Nat} {w : World} {v : Value} {K : List Hd} (h : Grow lo w v K) (hl : lo' ≤ lo) : Grow lo' w v K := ⟨World.ownsRow.mono h.own hl, fun z hz => (h.each z hz).mono hl, h.apart⟩
/-- What turns one other block leaves the list as it is. -/
theorem Grow.grown {lo g : Nat} {w w' : World} {v : Value} {K : List Hd} (h : Grow lo w v K) (hg : w.grownBy w' (some g)) (hlo : g < lo ∨ w.heap.size ≤ g) : Grow lo w' v K := by
  refine ⟨World.ownsRow.kept h.own hg ?_, fun z hz => (h.each z hz).grown hg (fun b ha hl e => ?_), h.apart⟩
  · right
    intro e
    have := h.lt g e
    omega
  · injection e with e
    have := (h.each z hz).block ha hl
    omega
theorem Grow.setCell {lo : Nat} {w : World} {v : Value} {K : List Hd} (h : Grow lo w v K) (p : Addr) (hp : p.block < lo) (u : Value) : Grow lo (w.setCell p u) v K :=
  h.grown (g := p.block) ⟨rfl, rfl, rfl, by simp [World.setCell], fun k hk hne => Below.heap_setCell _ _ _ _ (fun e => hne (by rw [e]))⟩ (.inl hp)

/-- Two lists of the call's own in different memory. -/
structure Cross (vb vw : Value) (H : List Hd) (K : List Wr) : Prop where
  rows : ∀ k, vb.ownBlock = some k → vw.ownBlock ≠ some k
  left : Apart vw H
  right : Apart vb (K.map (·.h))
theorem Grow.rds {lo : Nat} {w : World} {v : Value} {K : List Hd} (h : Grow lo w v K) : ∃ a c, v = .slice a K.length c ∧ Rds w.heap.size w a K.length c K := h.own.rds fun x hx => (h.each x hx).rd
/-- No device: the zero value. -/
def noDev : Value := .agg #[.slice none 0 0, .slice none 0 0, .bool false]
end Go.Proofs.Ytbhehicfenkbcaa.PW

namespace Go.Proofs.Ytbhehicfenkbcaa.PW
open Go.RowKit
open DK (Dv)
set_option linter.unusedVariables false
set_option maxRecDepth 100000

/-- What turns a row that is not the list's, nor any of its slices', leaves it as it is. -/
theorem Grow.other {lo : Nat} {w w' : World} {v : Value} {K : List Hd} {row : Option Nat} (h : Grow lo w v K) (hg : w.grownBy w' row) (h1 : ∀ k, v.ownBlock = some k → row ≠ some k) (h2 : ∀ z ∈ K, ∀ x, z.a = some x → z.l ≠ [] → row ≠ some x.block) : Grow lo w' v K := by
  refine ⟨World.ownsRow.kept h.own hg ?_, fun z hz => (h.each z hz).grown hg (fun b ha hl => h2 z hz b ha hl), h.apart⟩
  cases hv : v.ownBlock with
  | none => exact .inl rfl
  | some k => exact .inr (fun e => h1 k hv e.symm)
theorem Cross.grow {lo : Nat} {w w5 : World} {vb vw v6 : Value} {H : List Hd} {K : List Wr} (c : Cross vb vw H K) (g1 : Grow lo w vb H) {m : Int} {x : Hd} (it : Item w.heap.size w5 x) {n : Nat} (hn : w.heap.size ≤ n) (q6 : v6.ownBlock = vw.ownBlock ∨ v6.ownBlock = some n) :
    Cross vb v6 H (K ++ [⟨m, x⟩]) := by
  refine ⟨fun k h1 h2 => ?_, fun z hz y hy hl e => ?_, fun z hz y hy hl e => ?_⟩
  · rcases q6 with q | q
    · rw [q] at h2; exact c.rows k h1 h2
    · rw [q] at h2
      injection h2 with h2
      have := (g1.lt k h1).2
      omega
  · rcases q6 with q | q
    · rw [q] at e; exact c.left z hz y hy hl e
    · rw [q] at e
      injection e with e
      have := ((g1.each z hz).block hy hl).2
      omega
  · rw [List.map_append] at hz
    rcases List.mem_append.1 hz with h | h
    · exact c.right z h y hy hl e
    · obtain rfl := List.mem_singleton.1 h
      have h1 := (it.block (b := y) hy hl).1
      have h2 := (g1.lt _ e).2
      omega
theorem Grow.form' {lo : Nat} {w : World} {v : Value} {K : List Hd} (h : Grow lo w v K) : ∃ a c, v = .slice a K.length c := by
  obtain ⟨a, c, e, _⟩ := h.rds; exact ⟨a, c, e⟩
/-- A block that is none of a device's. -/
structure Avoid (g : Nat) (vb vw : Value) (H : List Hd) (K : List Wr) : Prop where
  b : vb.ownBlock ≠ some g
  w : vw.ownBlock ≠ some g
  h : ∀ z ∈ H, ∀ x, z.a = some x → z.l ≠ [] → x.block ≠ g
  k : ∀ z ∈ K, ∀ x, z.h.a = some x → z.h.l ≠ [] → x.block ≠ g
end Go.Proofs.Ytbhehicfenkbcaa.PW

namespace Go.Proofs.Ytbhehicfenkbcaa.PW
open Go.RowKit
open DK (Dv)
set_option linter.unusedVariables false
set_option maxRecDepth 100000

/-- Blocks from lo to below hi stay. -/
def Stays (lo hi : Nat) (w w' : World) : Prop := ∀ g, lo ≤ g → g < hi → w'.heap[g]? = w.heap[g]?
theorem Stays.ofBelow {lo hi B : Nat} {w w' : World} (h : Below B w w') (hB : hi ≤ B) : Stays lo hi w w' := fun g _ h2 => h.block g (by omega)
theorem Stays.trans {lo hi : Nat} {w w1 w2 : World} (h : Stays lo hi w w1) (k : Stays lo hi w1 w2) : Stays lo hi w w2 := fun g h1 h2 => (k g h1 h2).trans (h g h1 h2)
theorem Stays.part {lo hi lo' hi' : Nat} {w w' : World} (h : Stays lo hi w w') (h1 : lo ≤ lo') (h2 : hi' ≤ hi) : Stays lo' hi' w w' := fun g a b => h g (by omega) (by omega)
theorem Stays.cell {lo hi : Nat} {w w' : World} (h : Stays lo hi w w') {p : Addr} (h1 : lo ≤ p.block) (h2 : p.block < hi) : w'.cell? p = w.cell? p := by
  have := h p.block h1 h2
  simp [World.cell?, this]
theorem Stays.frozen {lo hi : Nat} {w w' : World} (h : Stays lo hi w w') {p : Addr} (h1 : lo ≤ p.block) (h2 : p.block < hi) : w'.frozen? p = w.frozen? p := by
  have := h p.block h1 h2
  simp [World.frozen?, this]
theorem Stays.setCell {lo hi : Nat} {w : World} (p : Addr) (v : Value) (hp : p.block < lo ∨ hi ≤ p.block) : Stays lo hi w (w.setCell p v) := fun g h1 h2 => Below.heap_setCell _ _ _ _ (fun e => by rw [e] at h1 h2; omega)
theorem Stays.grown {lo hi : Nat} {w w' : World} {row : Option Nat} (h : w.grownBy w' row) (hh : hi ≤ w.heap.size) (hr : ∀ g, row = some g → g < lo ∨ hi ≤ g) : Stays lo hi w w' := fun g h1 h2 => h.block g (by omega) (fun e => by have := hr g e.symm; omega)

/-- One kind of structs. -/
structure Kind (α : Type) where
  m : Nat
  cells : α → List Value
  size : ∀ x, (cells x).length = m
  nil : α
  inn : Nat → Nat → World → α → Prop
  keep : ∀ {lo hi : Nat} {w w' : World} {x : α}, inn lo hi w x → Stays lo hi w w' → inn lo hi w' x
  mono : ∀ {lo hi lo' hi' : Nat} {w : World} {x : α}, inn lo hi w x → lo' ≤ lo → hi ≤ hi' → inn lo' hi' w x

/-- A slice of structs that reads as the list L in the world w, all in blocks from lo to below hi. -/
structure Rg {α : Type} (K : Kind α) (lo hi : Nat) (w : World) (a : Option Addr) (len cap : Nat) (L : List α) : Prop where
  long : len = L.length
  fits : L.length ≤ cap
  small : cap ≤ maxLen
  nil : a = none → len = 0 ∧ cap = 0
  cells : L ≠ [] → ∃ b off, a = some ⟨b, off, none⟩ ∧ lo ≤ b ∧ b < hi ∧ ∀ i, i < L.length → ∀ j, j < K.m → w.cell? ⟨b, off + i * K.m + j, none⟩ = (K.cells (L.getD i K.nil))[j]?
  each : ∀ x ∈ L, K.inn lo hi w x

section
variable {α : Type} {K : Kind α} {lo hi len cap : Nat} {w w' : World} {a : Option Addr} {L : List α}
theorem Rg.keep (h : Rg K lo hi w a len cap L) (hs : Stays lo hi w w') : Rg K lo hi w' a len cap L :=
  ⟨h.long, h.fits, h.small, h.nil, fun hl => (by
    obtain ⟨b, off, ha, h1, h2, hc⟩ := h.cells hl
    exact ⟨b, off, ha, h1, h2, fun i hi j hj => by rw [hs.cell (p := ⟨b, off + i * K.m + j, none⟩) h1 h2]; exact hc i hi j hj⟩), fun x hx => K.keep (h.each x hx) hs⟩
theorem Rg.mono (h : Rg K lo hi w a len cap L) {lo' hi' : Nat} (h1 : lo' ≤ lo) (h2 : hi ≤ hi') : Rg K lo' hi' w a len cap L :=
  ⟨h.long, h.fits, h.small, h.nil, fun hl => (by
    obtain ⟨b, off, ha, k1, k2, hc⟩ := h.cells hl
    exact ⟨b, off, ha, by omega, by omega, hc⟩), fun x hx => K.mono (h.each x hx) h1 h2⟩
theorem Rg.below {B : Nat} (h : Rg K lo hi w a len cap L) (hb : Below B w w') (hB : hi ≤ B) : Rg K lo hi w' a len cap L := h.keep (.ofBelow hb hB)
theorem Rg.here (h : Rg K lo w.heap.size w a len cap L) (hb : Below w.heap.size w w') : Rg K lo w'.heap.size w' a len cap L := (h.below hb (Nat.le_refl _)).mono (Nat.le_refl _) hb.size
theorem rg_nil (K : Kind α) (lo hi : Nat) (w : World) : Rg K lo hi w none 0 0 [] :=
  ⟨rfl, Nat.le_refl _, (by unfold maxLen; decide), fun _ => ⟨rfl, rfl⟩, fun h => absurd rfl h, fun _ h => nomatch h⟩
theorem Rg.small' (h : Rg K lo hi w a len cap L) : len ≤ 9223372036854775807 := by
  have := h.long; have := h.fits; have := h.small; unfold maxLen at this; omega
theorem Rg.at (h : Rg K lo hi w a len cap L) (k : Nat) (hk : k < L.length) :
    ∃ b off, a = some ⟨b, off, none⟩ ∧ lo ≤ b ∧ b < hi ∧ (∀ j, j < K.m → w.cell? ⟨b, off + k * K.m + j, none⟩ = (K.cells (L.getD k K.nil))[j]?) ∧ K.inn lo hi w (L.getD k K.nil) := by
  obtain ⟨b, off, ha, h1, h2, hc⟩ := h.cells (by intro e; subst e; simp at hk)
  exact ⟨b, off, ha, h1, h2, hc k hk, h.each _ (mem_getD hk)⟩
theorem Rg.cellAt {b off : Nat} (h : Rg K lo hi w (some ⟨b, off, none⟩) len cap L) {k : Nat} (hk : k < L.length) {j : Nat} (hj : j < K.m) : w.cell? ⟨b, off + k * K.m + j, none⟩ = (K.cells (L.getD k K.nil))[j]? := by
  obtain ⟨b', off', e, _, _, hc, _⟩ := h.at k hk
  cases e
  exact hc j hj
theorem Rg.take (h : Rg K lo hi w a len cap L) (n : Nat) (hn : n ≤ len) : Rg K lo hi w a n cap (L.take n) := by
  have hl := h.long
  have hf := h.fits
  refine ⟨by rw [List.length_take]; omega, by rw [List.length_take]; omega, h.small, fun ha => ?_, fun hne => ?_, fun x hx => h.each x (List.mem_of_mem_take hx)⟩
  · have := h.nil ha; omega
  · obtain ⟨b, off, ha, h1, h2, hc⟩ := h.cells (by intro e; subst e; simp at hne)
    refine ⟨b, off, ha, h1, h2, fun i hi j hj => ?_⟩
    rw [List.length_take] at hi
    rw [hc i (by omega) j hj]
    simp [List.getD, show i < n by omega]
/-- The same with a capacity cut off. -/
theorem Rg.cut (h : Rg K lo hi w a len cap L) {c : Nat} (h1 : len ≤ c) (h2 : c ≤ cap) : Rg K lo hi w a len c L :=
  ⟨h.long, by rw [← h.long]; exact h1, Nat.le_trans h2 h.small, fun ha => (by have := h.nil ha; omega), h.cells, h.each⟩
/-- What is behind the first n: at the address that many cells on. -/
theorem Rg.drop {b off : Nat} (h : Rg K lo hi w (some ⟨b, off, none⟩) len cap L) (n : Nat) (hn : n ≤ len) : Rg K lo hi w (some ⟨b, off + n * K.m, none⟩) (len - n) (cap - n) (L.drop n) := by
  have hl := h.long
  have hf := h.fits
  refine ⟨by rw [List.length_drop, hl], by rw [List.length_drop]; omega, Nat.le_trans (Nat.sub_le _ _) h.small, (fun h => nomatch h), fun hne => ?_, fun x hx => h.each x (List.mem_of_mem_drop hx)⟩
  have hlt : n < L.length := by
    rcases Nat.lt_or_ge n L.length with h' | h'
    · exact h'
    · exact absurd (List.drop_eq_nil_of_le h') hne
  obtain ⟨b', off', e, h1, h2, hc⟩ := h.cells (by intro e; subst e; simp at hlt)
  cases e
  refine ⟨b, off + n * K.m, rfl, h1, h2, fun i hi j hj => ?_⟩
  rw [List.length_drop] at hi
  have e1 : off + n * K.m + i * K.m + j = off + (n + i) * K.m + j := by rw [Nat.add_mul]; omega
  rw [e1, hc (n + i) (by omega) j hj]
  simp [List.getD, List.getElem?_drop]
/-- Nothing of it, wherever it begins. -/
theorem Rg.none' {x : Option Addr} (hc : cap ≤ maxLen) (hx : x = none → cap = 0) : Rg K lo hi w x 0 cap [] :=
  ⟨rfl, Nat.zero_le _, hc, fun h => ⟨rfl, hx h⟩, fun h => absurd rfl h, fun _ h => nomatch h⟩

/-- The cells of a list. -/
def Kind.row (K : Kind α) (L : List α) : List Value := L.flatMap K.cells
theorem Kind.row_length (K : Kind α) (L : List α) : (K.row L).length = L.length * K.m := by
  induction L with
  | nil => simp [Kind.row]
  | cons x r ih => show (K.cells x ++ K.row r).length = _; rw [List.length_append, ih, K.size, List.length_cons, Nat.add_mul]; omega
theorem Kind.row_append (K : Kind α) (L M : List α) : K.row (L ++ M) = K.row L ++ K.row M := by simp [Kind.row]
theorem Kind.row_get (K : Kind α) (L : List α) (k j : Nat) (hk : k < L.length) (hj : j < K.m) : (K.row L)[k * K.m + j]? = (K.cells (L.getD k K.nil))[j]? := by
  induction L generalizing k with
  | nil => simp at hk
  | cons x r ih =>
    show (K.cells x ++ K.row r)[k * K.m + j]? = _
    cases k with
    | zero => rw [Nat.zero_mul, Nat.zero_add, List.getElem?_append_left (by rw [K.size]; exact hj)]; rfl
    | succ k =>
      rw [List.getElem?_append_right (by rw [K.size, Nat.add_mul]; omega), K.size]
      have e : (k + 1) * K.m + j - K.m = k * K.m + j := by rw [Nat.add_mul]; omega
      rw [e, ih k (by simpa using hk)]
      rfl
theorem Kind.row_set (K : Kind α) (L : List α) (k : Nat) (hk : k < L.length) (x : α) (i : Nat) : (K.row (L.set k x))[i]? = if k * K.m ≤ i ∧ i < k * K.m + K.m then (K.cells x)[i - k * K.m]? else (K.row L)[i]? := by
  induction L generalizing k i with
  | nil => simp at hk
  | cons y r ih =>
    cases k with
    | zero =>
      show (K.cells x ++ K.row r)[i]? = if _ then _ else (K.cells y ++ K.row r)[i]?
      rw [Nat.zero_mul]
      by_cases h : i < K.m
      · rw [if_pos ⟨by omega, by omega⟩, List.getElem?_append_left (by rw [K.size]; exact h)]; simp
      · rw [if_neg (by omega), List.getElem?_append_right (by rw [K.size]; omega), List.getElem?_append_right (by rw [K.size]; omega), K.size, K.size]
    | succ k =>
      show (K.cells y ++ K.row (r.set k x))[i]? = if _ then _ else (K.cells y ++ K.row r)[i]?
      by_cases h : i < K.m
      · rw [if_neg (by rw [Nat.add_mul]; omega), List.getElem?_append_left (by rw [K.size]; exact h), List.getElem?_append_left (by rw [K.size]; exact h)]
      · rw [List.getElem?_append_right (by rw [K.size]; omega), List.getElem?_append_right (by rw [K.size]; omega), K.size, ih k (by simpa using hk)]
        have e1 : (k + 1) * K.m = k * K.m + K.m := by rw [Nat.add_mul]; omega
        by_cases h2 : k * K.m ≤ i - K.m ∧ i - K.m < k * K.m + K.m
        · rw [if_pos h2, if_pos (by omega), e1]; congr 1; omega
        · rw [if_neg h2, if_neg (by omega)]

/-- Structs that are laid in a block that holds nothing else. -/
theorem Rg.ofBx {g : Nat} (h : Bx w g (K.row L)) (hg : lo ≤ g) (hh : g < hi) (hm : L.length ≤ maxLen) (each : ∀ x ∈ L, K.inn lo hi w x) : Rg K lo hi w (some ⟨g, 0, none⟩) L.length L.length L :=
  ⟨rfl, Nat.le_refl _, hm, (fun h => nomatch h), fun _ => ⟨g, 0, rfl, hg, hh, fun i hi j hj => by rw [Nat.zero_add, h.cell, K.row_get L i j hi hj]⟩, each⟩
theorem Kind.row_set3 (K : Kind α) (hm : K.m = 3) (L : List α) (k : Nat) (hk : k < L.length) (x : α) {u v z : Value} (hx : K.cells x = [u, v, z]) :
    (((K.row L).set (k * 3) u).set (k * 3 + 1) v).set (k * 3 + 2) z = K.row (L.set k x) := by
  have hl : (K.row L).length = L.length * 3 := by rw [K.row_length, hm]
  have h3 : k * 3 + 3 ≤ L.length * 3 := by omega
  apply List.ext_getElem?
  intro i
  rw [K.row_set L k hk x i, hm, hx]
  simp only [List.getElem?_set, List.length_set, hl]
  by_cases h : k * 3 ≤ i ∧ i < k * 3 + 3
  · rw [if_pos h]
    have : i = k * 3 ∨ i = k * 3 + 1 ∨ i = k * 3 + 2 := by omega
    rcases this with rfl | rfl | rfl
    · rw [if_neg (by omega), if_neg (by omega), if_pos rfl, if_pos (by omega)]; simp
    · rw [if_neg (by omega), if_pos rfl, if_pos (by omega)]
      have : k * 3 + 1 - k * 3 = 1 := by omega
      rw [this]; rfl
    · rw [if_pos rfl, if_pos (by omega)]
      have : k * 3 + 2 - k * 3 = 2 := by omega
      rw [this]; rfl
  · rw [if_neg h, if_neg (by omega), if_neg (by omega), if_neg (by omega)]
/-- A store of one struct of three cells over another in such a block. -/
theorem Bx.set3 {g : Nat} (h : Bx w g (K.row L)) (hm : K.m = 3) (k : Nat) (hk : k < L.length) (x : α) {u v z : Value} (hx : K.cells x = [u, v, z]) :
    Bx (((w.setCell ⟨g, k * 3, none⟩ u).setCell ⟨g, k * 3 + 1, none⟩ v).setCell ⟨g, k * 3 + 2, none⟩ z) g (K.row (L.set k x)) := by
  have h3 := ((h.set (k * 3) u).set (k * 3 + 1) v).set (k * 3 + 2) z
  rw [K.row_set3 hm L k hk x hx] at h3
  exact h3

/-- A slice of the call's own that owns just the structs L (of type T). -/
def OwnG (K : Kind α) (T : TypeId) (w : World) (base : Nat) (v : Value) (L : List α) : Prop := w.ownsRow base T K.m v L.length (K.row L)
theorem OwnG.nil (K : Kind α) (T : TypeId) (w : World) (base : Nat) : OwnG K T w base (.slice none 0 0) [] := World.ownsRow_nil _ _ _ _
theorem OwnG.lt {T : TypeId} {base : Nat} {v : Value} (h : OwnG K T w base v L) : ∀ k, v.ownBlock = some k → base ≤ k ∧ k < w.heap.size := fun k hk => World.ownsRow.lt h k hk
theorem OwnG.rg {T : TypeId} {base : Nat} {v : Value} (h : OwnG K T w base v L) (each : ∀ x ∈ L, K.inn base w.heap.size w x) : ∃ a cap, v = .slice a L.length cap ∧ Rg K base w.heap.size w a L.length cap L := by
  rcases h.2 with ⟨rfl, h0⟩ | ⟨g, cap, cur, rfl, hg, hh, hnc, hcm, hcs, htk⟩
  · have hl : L = [] := List.eq_nil_of_length_eq_zero h0
    subst hl
    exact ⟨none, 0, rfl, rg_nil _ _ _ _⟩
  · have hlt : g < w.heap.size := by
      rcases Nat.lt_or_ge g w.heap.size with hlt | hge
      · exact hlt
      · rw [Array.getElem?_eq_none hge] at hh; cases hh
    refine ⟨_, cap, rfl, ⟨rfl, hnc, hcm, (fun h => nomatch h), fun hne => ⟨g, 0, rfl, hg, hlt, fun i hi j hj => ?_⟩, each⟩⟩
    have hcell : w.cell? ⟨g, 0 + i * K.m + j, none⟩ = cur[0 + i * K.m + j]? := by simp [World.cell?, hh]
    rw [hcell, Nat.zero_add]
    have hlt2 : i * K.m + j < L.length * K.m := by
      have h1 : (i + 1) * K.m ≤ L.length * K.m := Nat.mul_le_mul_right _ hi
      rw [Nat.add_mul] at h1; omega
    have : cur[i * K.m + j]? = (K.row L)[i * K.m + j]? := by rw [← htk, List.getElem?_take, if_pos hlt2, Array.getElem?_toList]
    rw [this, K.row_get L i j hi hj]
theorem OwnG.grown {T : TypeId} {base : Nat} {v : Value} (h : OwnG K T w base v L) (hb : Below w.heap.size w w') : OwnG K T w' base v L := ownsRow_grown h hb

theorem OwnG.long {T : TypeId} {base n : Nat} (h : OwnG K T w base (.slice a n cap) L) : n = L.length := by
  rcases h.2 with ⟨e, h0⟩ | ⟨g, cp, cur, e, _⟩
  · injection e with _ e _; omega
  · injection e
theorem OwnG.set3 {T : TypeId} {base g n : Nat} (h : OwnG K T w base (.slice (some ⟨g, 0, none⟩) n cap) L) (hm : K.m = 3) (k : Nat) (hk : k < L.length) (x : α) {u v z : Value} (hx : K.cells x = [u, v, z]) :
    OwnG K T (((w.setCell ⟨g, k * 3, none⟩ u).setCell ⟨g, k * 3 + 1, none⟩ v).setCell ⟨g, k * 3 + 2, none⟩ z) base (.slice (some ⟨g, 0, none⟩) n cap) (L.set k x) := by
  obtain rfl := h.long
  unfold OwnG at h ⊢
  rw [List.length_set, ← K.row_set3 hm L k hk x hx]
  have h1 := (World.ownsRow.stored h (k * 3) u).1
  have h2 := (World.ownsRow.stored h1 (k * 3 + 1) v).1
  exact (World.ownsRow.stored h2 (k * 3 + 2) z).1
/-- What the type T's row of the table must say for a kind. -/
structure Typed (K : Kind α) (T S : TypeId) : Prop where
  ex : ∃ z e, (Try.prog.info? T).map (fun i => (i.zero, i.size, i.bytes)) = some (some z, K.m, e) ∧ e ≤ 1000 ∧ z.cells.size = K.m
  pos : 0 < K.m
  und : Try.prog.underlying S = some (.slice T)
  one : ∀ x, ∀ u ∈ K.cells x, u.oneCell' = true
theorem Kind.row_one {T S : TypeId} (t : Typed K T S) : ∀ u ∈ K.row L, u.oneCell' = true := by
  intro u hu
  obtain ⟨x, _, hx⟩ := List.mem_flatMap.1 hu
  exact t.one x u hx
/-- append of structs, wherever they come from, onto a slice of the call's own. -/
theorem OwnG.append {T S : TypeId} (t : Typed K T S) {base : Nat} {v : Value} (h : OwnG K T w base v L) {M : List α} (hr : Rg K lo hi w a len cap M) (hsum : L.length + M.length ≤ 1000000) (hbase : base ≤ w.heap.size) :
    ∃ v' w', (Builtin.append_ #[S, S] S #[v, .slice a len cap]).run Try.prog w = .ok v' w' ∧ OwnG K T w' base v' (L ++ M) ∧ w.grownBy w' v.ownBlock ∧ (v'.ownBlock = v.ownBlock ∨ v'.ownBlock = some w.heap.size) := by
  obtain ⟨z, e, info, he, hz⟩ := t.ex
  obtain ⟨i, hi, hz0, hz1, hz2⟩ := info_parts info
  obtain ⟨rfl, hf, hm, hn, hc, hea⟩ := hr
  unfold OwnG at h ⊢
  cases a with
  | none =>
    obtain ⟨h0, rfl⟩ := hn rfl
    have hl : M = [] := List.eq_nil_of_length_eq_zero h0
    subst hl
    refine ⟨v, w, ?_, by simpa using h, World.grownBy.refl w _, .inl rfl⟩
    rcases h.2 with ⟨rfl, h0⟩ | ⟨g, cp, cur, rfl, _, _, hnc, _⟩
    · simp [Builtin.append_, run_underlying t.und, sizeOf, typeInfo, hi, Builtin.lenOf, Builtin.firstCells]
    · simp [Builtin.append_, run_underlying t.und, sizeOf, typeInfo, hi, Builtin.lenOf, Builtin.firstCells, hnc, storeCells]
  | some x =>
    obtain ⟨v', w', h1, h2, h3, _, h5⟩ := run_append_own_at (P := Try.prog) w base S S T i z K.m e t.und hi hz0 hz1 hz2 hz t.pos v L.length _ h x M.length cap (K.row M) (K.row_length M)
      (by
        intro j u hj
        have hjl : j < M.length * K.m := by
          rw [← K.row_length]
          rcases Nat.lt_or_ge j (K.row M).length with h | h
          · exact h
          · rw [List.getElem?_eq_none h] at hj; cases hj
        obtain ⟨b, off, hx, _, _, hcc⟩ := hc (by intro e; subst e; simp at hjl)
        obtain rfl := Option.some.inj hx
        have ea : (⟨b, off, none⟩ : Addr).add j = ⟨b, off + j, none⟩ := by unfold Addr.add; split <;> simp_all
        have hq : j / K.m < M.length := Nat.div_lt_of_lt_mul (by rw [Nat.mul_comm]; exact hjl)
        have hr : j % K.m < K.m := Nat.mod_lt _ t.pos
        have e1 : off + j = off + j / K.m * K.m + j % K.m := by have := Nat.div_add_mod j K.m; rw [Nat.mul_comm] at this; omega
        have e2 : j = j / K.m * K.m + j % K.m := by have := Nat.div_add_mod j K.m; rw [Nat.mul_comm] at this; omega
        rw [ea, e1, hcc _ hq _ hr, ← K.row_get M _ _ hq hr, ← e2]
        exact hj)
      (Kind.row_one t) (by unfold maxLen; omega) (by
        have : (L.length + M.length) * e ≤ 1000000 * 1000 := Nat.mul_le_mul hsum he
        omega) hbase
    refine ⟨v', w', h1, ?_, h3, h5⟩
    rw [List.length_append, K.row_append]
    exact h2
/-- append of one struct that was just laid. -/
theorem OwnG.append1 {T S : TypeId} (t : Typed K T S) {base : Nat} {v : Value} (h : OwnG K T w base v L) (x : α) {g : Nat} (hx : w.heap[g]? = some (.cells (K.cells x).toArray T (0, 0)))
    (hsum : L.length + 1 ≤ 1000000) (hbase : base ≤ w.heap.size) :
    ∃ v' w', (Builtin.append_ #[S, S] S #[v, .slice (some ⟨g, 0, none⟩) 1 1]).run Try.prog w = .ok v' w' ∧ OwnG K T w' base v' (L ++ [x]) ∧ w.grownBy w' v.ownBlock ∧ (v'.ownBlock = v.ownBlock ∨ v'.ownBlock = some w.heap.size) := by
  obtain ⟨z, e, info, he, hz⟩ := t.ex
  obtain ⟨i, hi, hz0, hz1, hz2⟩ := info_parts info
  unfold OwnG at h ⊢
  obtain ⟨v', w', h1, h2, h3, _, h5⟩ := run_append_own_at (P := Try.prog) w base S S T i z K.m e t.und hi hz0 hz1 hz2 hz t.pos v L.length _ h ⟨g, 0, none⟩ 1 1 (K.cells x) (by rw [K.size]; omega)
      (World.news_of_block hx) (t.one x) (by unfold maxLen; omega) (by
        have : (L.length + 1) * e ≤ 1000000 * 1000 := Nat.mul_le_mul hsum he
        omega) hbase
  refine ⟨v', w', h1, ?_, h3, h5⟩
  rw [List.length_append, K.row_append]
  have : K.row [x] = K.cells x := by simp [Kind.row]
  rw [this]
  exact h2
end
end Go.Proofs.Ytbhehicfenkbcaa.PW

namespace Go.Proofs.Ytbhehicfenkbcaa.PW
open Go.ChangeShapes Go.WideShapes Go.ChangeAt Go.RowKit
open DK (Dv)
set_option linter.unusedVariables false
set_option maxRecDepth 100000

theorem rd_open {H : Type} {enc : TypeId × Value → H} {w : World} {base : Nat} {held : Bool} {fuel : Nat} {v : Value} {x : DataW H × List MemPlace}
    (h : DataW.trod enc Try.prog w base (fun _ => true) held fuel 30 [v] = some x) : ∃ a len cap l, v = .slice a len cap ∧ Rd w.heap.size w a len cap l := by
  rcases open_ints Try.underlying30 Try.underlying5 (by kernel_rfl) h with ⟨hcs, _⟩ | ⟨x, l, c, zs, hcs, _, hl, hm, hz, _, hcell, hwz⟩
  · simp at hcs
    subst hcs
    obtain ⟨l, hl⟩ := rd_of_row (w := w) (zs := []) (.inl ⟨rfl, rfl, rfl, rfl⟩)
    exact ⟨none, 0, 0, l, rfl, hl⟩
  · simp at hcs
    subst hcs
    obtain ⟨l', hl'⟩ := rd_of_row (w := w) (zs := zs) (.inr ⟨_, rfl, hl, hm, by simpa using hz, hcell, hwz⟩)
    exact ⟨_, _, _, l', rfl, hl'⟩

end Go.Proofs.Ytbhehicfenkbcaa.PW

namespace Go.Proofs.Ytbhehicfenkbcaa.PW
open Go.ChangeShapes Go.WideShapes Go.ChangeAt Go.RowKit
open DK (Dv)
set_option linter.unusedVariables false
set_option maxRecDepth 100000

/-- A slice of bytes that reads as l, in a block from lo to below hi. -/
def RdI (lo hi : Nat) (w : World) (a : Option Addr) (len cap : Nat) (l : List Nat) : Prop := Rd hi w a len cap l ∧ ∀ x, a = some x → l ≠ [] → lo ≤ x.block
theorem RdI.keep {lo hi : Nat} {w w' : World} {a : Option Addr} {len cap : Nat} {l : List Nat} (h : RdI lo hi w a len cap l) (hs : Stays lo hi w w') : RdI lo hi w' a len cap l :=
  ⟨⟨h.1.long, h.1.fits, h.1.small, h.1.byt, h.1.nil, fun hl => (by
    obtain ⟨b, off, ha, hb, hc⟩ := h.1.cells hl
    have h1 := h.2 _ ha hl
    exact ⟨b, off, ha, hb, fun i hi => by rw [hs.cell (p := ⟨b, off + i, none⟩) h1 hb]; exact hc i hi⟩)⟩, h.2⟩
theorem RdI.mono {lo hi lo' hi' : Nat} {w : World} {a : Option Addr} {len cap : Nat} {l : List Nat} (h : RdI lo hi w a len cap l) (h1 : lo' ≤ lo) (h2 : hi ≤ hi') : RdI lo' hi' w a len cap l :=
  ⟨h.1.mono h2, fun x hx hl => by have := h.2 x hx hl; omega⟩
theorem Rd.inn {B : Nat} {w : World} {a : Option Addr} {len cap : Nat} {l : List Nat} (h : Rd B w a len cap l) : RdI 0 B w a len cap l := ⟨h, fun _ _ _ => Nat.zero_le _⟩
theorem rdI_nil (lo hi : Nat) (w : World) : RdI lo hi w none 0 0 [] := ⟨rd_nil _ _, fun _ h => by cases h⟩
theorem Item.inn {lo : Nat} {w : World} {x : Hd} (h : Item lo w x) : RdI lo w.heap.size w x.a x.len x.cap x.l := ⟨h.rd, fun y hy hl => (h.block hy hl).1⟩

def kHd : Kind Hd := ⟨1, fun h => [h.val], fun _ => rfl, Hd.nil, fun lo hi w h => RdI lo hi w h.a h.len h.cap h.l, RdI.keep, RdI.mono⟩
def kWr : Kind Wr := ⟨2, fun x => [.int .i64 x.n, x.h.val], fun _ => rfl, Wr.nil, fun lo hi w x => RdI lo hi w x.h.a x.h.len x.h.cap x.h.l, RdI.keep, RdI.mono⟩
def kBool : Kind Bool := ⟨1, fun b => [.bool b], fun _ => rfl, false, fun _ _ _ _ => True, fun _ _ => trivial, fun _ _ _ => trivial⟩

/-- A device that reads as D, all of it in blocks from lo to below hi. -/
def DevI (lo hi : Nat) (w : World) (a : Option Addr) (n c : Nat) (a' : Option Addr) (n' c' : Nat) (D : Dv) : Prop :=
  ∃ H K, Rg kHd lo hi w a n c H ∧ Rg kWr lo hi w a' n' c' K ∧ lists H = D.bs ∧ wlist K = D.ws
theorem DevI.keep {lo hi : Nat} {w w' : World} {a : Option Addr} {n c : Nat} {a' : Option Addr} {n' c' : Nat} {D : Dv} (h : DevI lo hi w a n c a' n' c' D) (hs : Stays lo hi w w') : DevI lo hi w' a n c a' n' c' D := by
  obtain ⟨H, K, h1, h2, h3, h4⟩ := h
  exact ⟨H, K, h1.keep hs, h2.keep hs, h3, h4⟩
theorem DevI.mono {lo hi lo' hi' : Nat} {w : World} {a : Option Addr} {n c : Nat} {a' : Option Addr} {n' c' : Nat} {D : Dv} (h : DevI lo hi w a n c a' n' c' D) (k1 : lo' ≤ lo) (k2 : hi ≤ hi') : DevI lo' hi' w a n c a' n' c' D := by
  obtain ⟨H, K, h1, h2, h3, h4⟩ := h
  exact ⟨H, K, h1.mono k1 k2, h2.mono k1 k2, h3, h4⟩
theorem rds_rg {B : Nat} {w : World} {a : Option Addr} {n c : Nat} {H : List Hd} (h : Rds B w a n c H) : Rg kHd 0 B w a n c H :=
  ⟨h.long, h.fits, h.small, h.nil, fun hl => (by
    obtain ⟨b, off, ha, hb, hc⟩ := h.cells hl
    refine ⟨b, off, ha, Nat.zero_le _, hb, fun i hi j hj => ?_⟩
    obtain rfl : j = 0 := by have : j < 1 := hj; omega
    have := hc i hi
    show w.cell? ⟨b, off + i * 1 + 0, none⟩ = _
    rw [Nat.mul_one]; exact this), fun x hx => Rd.inn (h.each x hx)⟩
theorem Rg.rds {lo B : Nat} {w : World} {a : Option Addr} {n c : Nat} {H : List Hd} (h : Rg kHd lo B w a n c H) : Rds B w a n c H :=
  ⟨h.long, h.fits, h.small, h.nil, fun hl => (by
    obtain ⟨b, off, ha, _, hb, hc⟩ := h.cells hl
    refine ⟨b, off, ha, hb, fun i hi => ?_⟩
    have : w.cell? ⟨b, off + i * 1 + 0, none⟩ = _ := hc i hi 0 Nat.one_pos
    rw [Nat.mul_one] at this; exact this), fun x hx => (h.each x hx).1⟩
theorem rws_rg {B : Nat} {w : World} {a : Option Addr} {n c : Nat} {K : List Wr} (h : Rws B w a n c K) : Rg kWr 0 B w a n c K :=
  ⟨h.long, h.fits, h.small, h.nil, fun hl => (by
    obtain ⟨b, off, ha, hb, hc⟩ := h.cells hl
    refine ⟨b, off, ha, Nat.zero_le _, hb, fun i hi j hj => ?_⟩
    have : j = 0 ∨ j = 1 := by have : j < 2 := hj; omega
    rcases this with rfl | rfl
    · exact (hc i hi).1
    · exact (hc i hi).2), fun x hx => Rd.inn (h.each x hx)⟩
theorem Rg.rws {lo B : Nat} {w : World} {a : Option Addr} {n c : Nat} {K : List Wr} (h : Rg kWr lo B w a n c K) : Rws B w a n c K :=
  ⟨h.long, h.fits, h.small, h.nil, fun hl => (by
    obtain ⟨b, off, ha, _, hb, hc⟩ := h.cells hl
    exact ⟨b, off, ha, hb, fun i hi => ⟨hc i hi 0 (by show 0 < 2; omega), hc i hi 1 (by show 1 < 2; omega)⟩⟩), fun x hx => (h.each x hx).1⟩
theorem DevAt.inn {B : Nat} {w : World} {a : Option Addr} {n c : Nat} {a' : Option Addr} {n' c' : Nat} {D : Dv} (h : DevAt B w a n c a' n' c' D) : DevI 0 B w a n c a' n' c' D := by
  obtain ⟨H, K, h1, h2, h3, h4⟩ := h.ex
  exact ⟨H, K, rds_rg h1, rws_rg h2, h3, h4⟩
theorem DevI.at {lo B : Nat} {w : World} {a : Option Addr} {n c : Nat} {a' : Option Addr} {n' c' : Nat} {D : Dv} (h : DevI lo B w a n c a' n' c' D) : DevAt B w a n c a' n' c' D := by
  obtain ⟨H, K, h1, h2, h3, h4⟩ := h
  exact ⟨H, K, h1.rds, h2.rws, h3, h4⟩
theorem Grow.rg {lo : Nat} {w : World} {a : Option Addr} {n c : Nat} {K : List Hd} (h : Grow lo w (.slice a n c) K) : Rg kHd lo w.heap.size w a n c K := by
  have ho : OwnG kHd 30 w lo (.slice a n c) K := by
    have := h.own
    unfold OwnS at this
    unfold OwnG
    have e : kHd.row K = K.map Hd.val := by
      show K.flatMap (fun h => [h.val]) = _
      rw [List.map_eq_flatMap]
    rw [e]; exact this
  obtain ⟨a2, c2, e, hr⟩ := ho.rg (fun x hx => (h.each x hx).inn)
  cases e
  exact hr
/-- One device, as it lies in memory. -/
structure Dn where
  a : Option Addr
  n : Nat
  c : Nat
  a' : Option Addr
  n' : Nat
  c' : Nat
  D : Dv
def Dn.nil : Dn := ⟨none, 0, 0, none, 0, 0, Dv.nil⟩
instance : Inhabited Dn := ⟨Dn.nil⟩
def Dn.cells (x : Dn) : List Value := [.slice x.a x.n x.c, .slice x.a' x.n' x.c', .bool x.D.dead]
def Dn.val (x : Dn) : Value := .agg #[.slice x.a x.n x.c, .slice x.a' x.n' x.c', .bool x.D.dead]
def Dn.inn (lo hi : Nat) (w : World) (x : Dn) : Prop := DevI lo hi w x.a x.n x.c x.a' x.n' x.c' x.D
def kDn : Kind Dn := ⟨3, Dn.cells, fun _ => rfl, Dn.nil, Dn.inn, DevI.keep, DevI.mono⟩
def devs (L : List Dn) : List Dv := L.map (·.D)
theorem devs_length (L : List Dn) : (devs L).length = L.length := by simp [devs]
theorem devs_getD (L : List Dn) (k : Nat) : (devs L).getD k Dv.nil = (L.getD k Dn.nil).D := by
  unfold devs
  simp only [List.getD, List.getElem?_map]
  cases L[k]? <;> rfl
theorem devs_take (L : List Dn) (k : Nat) : devs (L.take k) = (devs L).take k := by simp [devs, List.map_take]
theorem devs_set (L : List Dn) (k : Nat) (x : Dn) : devs (L.set k x) = (devs L).set k x.D := by simp [devs, List.map_set]
theorem devs_append (L M : List Dn) : devs (L ++ M) = devs L ++ devs M := by simp [devs]
/-- One of a list of devices. -/
theorem Rg.dev {lo hi : Nat} {w : World} {a : Option Addr} {len cap : Nat} {L : List Dn} (h : Rg kDn lo hi w a len cap L) (k : Nat) (hk : k < L.length) :
    ∃ b off xa xn xc xa' xn' xc' D, a = some ⟨b, off, none⟩ ∧ b < hi ∧ L.getD k Dn.nil = ⟨xa, xn, xc, xa', xn', xc', D⟩ ∧ DevI lo hi w xa xn xc xa' xn' xc' D := by
  obtain ⟨b, off, ha, h1, h2, hc, hi⟩ := h.at k hk
  exact ⟨b, off, _, _, _, _, _, _, _, ha, h2, rfl, hi⟩
/-- Its cells, in any later world. -/
theorem Rg.dcell {lo hi : Nat} {w : World} {b off : Nat} {len cap : Nat} {L : List Dn} (h : Rg kDn lo hi w (some ⟨b, off, none⟩) len cap L) {k : Nat} (hk : k < L.length) {xa xa' : Option Addr} {xn xc xn' xc' : Nat} {D : Dv} (e : L.getD k Dn.nil = ⟨xa, xn, xc, xa', xn', xc', D⟩) :
    w.cell? ⟨b, off + k * 3, none⟩ = some (.slice xa xn xc) ∧ w.cell? ⟨b, off + k * 3 + 1, none⟩ = some (.slice xa' xn' xc') ∧ w.cell? ⟨b, off + k * 3 + 2, none⟩ = some (.bool D.dead) := by
  have hc := fun j (hj : j < 3) => h.cellAt hk (j := j) hj
  have hx : kDn.cells (L.getD k kDn.nil) = [.slice xa xn xc, .slice xa' xn' xc', .bool D.dead] := by
    show Dn.cells (L.getD k Dn.nil) = _
    rw [e]; rfl
  rw [hx] at hc
  exact ⟨hc 0 (by omega), hc 1 (by omega), hc 2 (by omega)⟩

/-- One act, as it lies in memory. -/
structure Ax where
  d : Int
  k : Nat
  p : Int
  h : Hd
def Ax.nil : Ax := ⟨0, 0, 0, Hd.nil⟩
instance : Inhabited Ax := ⟨Ax.nil⟩
def Ax.cells (x : Ax) : List Value := [.int .i64 x.d, .int .u8 (x.k : Int), .int .i64 x.p, x.h.val]
def Ax.inn (lo hi : Nat) (w : World) (x : Ax) : Prop := RdI lo hi w x.h.a x.h.len x.h.cap x.h.l ∧ x.k < 256
def kAx : Kind Ax := ⟨4, Ax.cells, fun _ => rfl, Ax.nil, Ax.inn, fun h hs => ⟨h.1.keep hs, h.2⟩, fun h h1 h2 => ⟨h.1.mono h1 h2, h.2⟩⟩
theorem Rg.act {lo hi : Nat} {w : World} {a : Option Addr} {len cap : Nat} {L : List Ax} (h : Rg kAx lo hi w a len cap L) (k : Nat) (hk : k < L.length) :
    ∃ b off d kd p xa xlen xcap xl, a = some ⟨b, off, none⟩ ∧ b < hi ∧ L.getD k Ax.nil = ⟨d, kd, p, ⟨xa, xlen, xcap, xl⟩⟩ ∧ RdI lo hi w xa xlen xcap xl ∧ kd < 256 := by
  obtain ⟨b, off, ha, h1, h2, hc, hi⟩ := h.at k hk
  exact ⟨b, off, _, _, _, _, _, _, _, ha, h2, rfl, hi.1, hi.2⟩
theorem Rg.acell {lo hi : Nat} {w : World} {b off : Nat} {len cap : Nat} {L : List Ax} (h : Rg kAx lo hi w (some ⟨b, off, none⟩) len cap L) {k : Nat} (hk : k < L.length) {d p : Int} {kd : Nat} {xa : Option Addr} {xlen xcap : Nat} {xl : List Nat} (e : L.getD k Ax.nil = ⟨d, kd, p, ⟨xa, xlen, xcap, xl⟩⟩) :
    w.cell? ⟨b, off + k * 4, none⟩ = some (.int .i64 d) ∧ w.cell? ⟨b, off + k * 4 + 1, none⟩ = some (.int .u8 (kd : Int)) ∧ w.cell? ⟨b, off + k * 4 + 2, none⟩ = some (.int .i64 p) ∧ w.cell? ⟨b, off + k * 4 + 3, none⟩ = some (.slice xa xlen xcap) := by
  have hc := fun j (hj : j < 4) => h.cellAt hk (j := j) hj
  have hx : kAx.cells (L.getD k kAx.nil) = [.int .i64 d, .int .u8 (kd : Int), .int .i64 p, .slice xa xlen xcap] := by
    show Ax.cells (L.getD k Ax.nil) = _
    rw [e]; rfl
  rw [hx] at hc
  exact ⟨hc 0 (by omega), hc 1 (by omega), hc 2 (by omega), hc 3 (by omega)⟩
/-- One mark. -/
theorem Rg.mark {lo hi : Nat} {w : World} {b off : Nat} {len cap : Nat} {L : List Bool} (h : Rg kBool lo hi w (some ⟨b, off, none⟩) len cap L) {k : Nat} (hk : k < L.length) : w.cell? ⟨b, off + k, none⟩ = some (.bool (L.getD k false)) := by
  have : w.cell? ⟨b, off + k * 1 + 0, none⟩ = _ := h.cellAt hk (j := 0) Nat.one_pos
  rw [Nat.mul_one] at this
  exact this
theorem Rg.addr {α : Type} {K : Kind α} {lo hi : Nat} {w : World} {a : Option Addr} {len cap : Nat} {L : List α} (h : Rg K lo hi w a len cap L) (hk : 0 < L.length) : ∃ b off, a = some ⟨b, off, none⟩ ∧ lo ≤ b ∧ b < hi := by
  obtain ⟨b, off, ha, h1, h2, _⟩ := h.at 0 hk
  exact ⟨b, off, ha, h1, h2⟩

end Go.Proofs.Ytbhehicfenkbcaa.PW

namespace Go.Proofs.Ytbhehicfenkbcaa.PW
open Go.RowKit
open DK (Dv)
set_option linter.unusedVariables false
set_option maxRecDepth 100000

/-- A list of the call's own that grows by append; each struct lies, by itself, in blocks that are not the list's. -/
structure GrowK {α : Type} (K : Kind α) (T : TypeId) (base : Nat) (w : World) (v : Value) (M : List α) : Prop where
  own : OwnG K T w base v M
  each : ∀ x ∈ M, ∃ lo hi, hi ≤ w.heap.size ∧ K.inn lo hi w x ∧ ∀ k, v.ownBlock = some k → k < lo ∨ hi ≤ k
section
variable {α : Type} {K : Kind α} {T S : TypeId} {base : Nat} {w w' : World} {v : Value} {M : List α}
theorem GrowK.nil (K : Kind α) (T : TypeId) (base : Nat) (w : World) : GrowK K T base w (.slice none 0 0) [] := ⟨OwnG.nil _ _ _ _, fun _ h => nomatch h⟩
theorem GrowK.here (h : GrowK K T base w v M) (hb : Below w.heap.size w w') : GrowK K T base w' v M :=
  ⟨ownsRow_grown h.own hb, fun x hx => by
    obtain ⟨lo, hi, h1, h2, h3⟩ := h.each x hx
    exact ⟨lo, hi, Nat.le_trans h1 hb.size, K.keep h2 (.ofBelow hb h1), h3⟩⟩
/-- What stays while the list's own row alone is written. -/
theorem GrowK.rowed (h : GrowK K T base w v M) {v' : Value} {M' : List α} (own : OwnG K T w' base v' M') (hg : w.grownBy w' v.ownBlock) (hq : v'.ownBlock = v.ownBlock ∨ v'.ownBlock = some w.heap.size) :
    ∀ x ∈ M, ∃ lo hi, hi ≤ w'.heap.size ∧ K.inn lo hi w' x ∧ ∀ k, v'.ownBlock = some k → k < lo ∨ hi ≤ k := fun x hx => by
  obtain ⟨lo, hi, h1, h2, h3⟩ := h.each x hx
  refine ⟨lo, hi, Nat.le_trans h1 hg.size, K.keep h2 (.grown hg h1 h3), fun k hk => ?_⟩
  rcases hq with e | e
  · exact h3 k (by rw [← e]; exact hk)
  · rw [e] at hk; injection hk with hk; right; omega
/-- append of one struct that was just laid, and that lies in later memory. -/
theorem GrowK.step (t : Typed K T S) (h : GrowK K T base w v M) (hbase : base ≤ w.heap.size) (hl : M.length ≤ 10000) {w5 : World} (hb : Below w.heap.size w w5) {x : α} {lo hi : Nat} (hx : K.inn lo hi w5 x) (h1 : w.heap.size ≤ lo) (h2 : hi ≤ w5.heap.size) :
    ∃ v6 w6, (Builtin.append_ #[S, S] S #[v, .slice (some ⟨w5.heap.size, 0, none⟩) 1 1]).run Try.prog (w5.alloc (.cells (K.cells x).toArray T)) = .ok v6 w6 ∧ GrowK K T base w6 v6 (M ++ [x]) ∧ Below base w5 w6 := by
  have al : Below w5.heap.size w5 (w5.alloc (.cells (K.cells x).toArray T)) := (Below.refl _ _).alloc (Nat.le_refl _) _
  have h' := (h.here hb).here al
  obtain ⟨v6, w6, r6, o6, g6, q6⟩ := h'.own.append1 t x (heap_alloc_new _ _) (by omega) (by have := hb.size; have := al.size; omega)
  refine ⟨v6, w6, r6, ⟨o6, fun y hy => ?_⟩, ?_⟩
  · rcases List.mem_append.1 hy with hy | hy
    · exact h'.rowed o6 g6 q6 y hy
    · obtain rfl := List.mem_singleton.1 hy
      refine ⟨lo, hi, Nat.le_trans (Nat.le_trans h2 al.size) g6.size, K.keep (K.keep hx (.ofBelow al h2)) (.grown g6 (Nat.le_trans h2 al.size) (fun k hk => ?_)), fun k hk => ?_⟩
      · have := (h.own.lt k hk).2; left; omega
      · rcases q6 with e | e
        · rw [e] at hk; have := (h.own.lt k hk).2; left; omega
        · rw [e] at hk; injection hk with hk; right; have := al.size; omega
  · exact (al.mono (by have := hb.size; omega)).grown g6 (by have := hb.size; have := al.size; omega) (fun k hk => (h.own.lt k hk).1)
theorem GrowK.rg (h : GrowK K T base w v M) : ∃ a cap, v = .slice a M.length cap ∧ Rg K 0 w.heap.size w a M.length cap M := by
  rcases h.own.2 with ⟨rfl, h0⟩ | ⟨g, cap, cur, rfl, hg, hh, hnc, hcm, hcs, htk⟩
  · have hl : M = [] := List.eq_nil_of_length_eq_zero h0
    subst hl
    exact ⟨none, 0, rfl, rg_nil _ _ _ _⟩
  · have hlt : g < w.heap.size := by
      rcases Nat.lt_or_ge g w.heap.size with hlt | hge
      · exact hlt
      · rw [Array.getElem?_eq_none hge] at hh; cases hh
    refine ⟨_, cap, rfl, ⟨rfl, hnc, hcm, (fun h => nomatch h), fun hne => ⟨g, 0, rfl, Nat.zero_le _, hlt, fun i hi j hj => ?_⟩, fun x hx => ?_⟩⟩
    · have hcell : w.cell? ⟨g, 0 + i * K.m + j, none⟩ = cur[0 + i * K.m + j]? := by simp [World.cell?, hh]
      rw [hcell, Nat.zero_add]
      have hlt2 : i * K.m + j < M.length * K.m := by
        have h1 : (i + 1) * K.m ≤ M.length * K.m := Nat.mul_le_mul_right _ hi
        rw [Nat.add_mul] at h1; omega
      have : cur[i * K.m + j]? = (K.row M)[i * K.m + j]? := by rw [← htk, List.getElem?_take, if_pos hlt2, Array.getElem?_toList]
      rw [this, K.row_get M i j hi hj]
    · obtain ⟨lo, hi, h1, h2, _⟩ := h.each x hx
      exact K.mono h2 (Nat.zero_le _) h1
/-- append of structs that came in onto nothing. -/
theorem GrowK.first (t : Typed K T S) {a : Option Addr} {len cap : Nat} {L : List α} (hr : Rg K 0 w.heap.size w a len cap L) (hl : L.length ≤ 10000) :
    ∃ v w', (Builtin.append_ #[S, S] S #[.slice none 0 0, .slice a len cap]).run Try.prog w = .ok v w' ∧ GrowK K T w.heap.size w' v L ∧ Below w.heap.size w w' := by
  obtain ⟨v, w', h1, h2, h3, h4⟩ := (OwnG.nil K T w w.heap.size).append t hr (by simp; omega) (Nat.le_refl _)
  rw [List.nil_append] at h2
  have hb : Below w.heap.size w w' := (Below.refl _ _).grown h3 (Nat.le_refl _) (by simp [Value.ownBlock])
  exact ⟨v, w', h1, ⟨h2, fun x hx => ⟨0, w.heap.size, hb.size, K.keep (hr.each x hx) (.ofBelow hb (Nat.le_refl _)), fun k hk => .inr (h2.lt k hk).1⟩⟩, hb⟩
/-- A store of one struct of three cells over another, where it lies in blocks that are not the list's. -/
theorem GrowK.put3 {g n cap : Nat} (h : GrowK K T base w (.slice (some ⟨g, 0, none⟩) n cap) M) (hm : K.m = 3) {k : Nat} (hk : k < M.length) {x : α} {u v z : Value} (hx : K.cells x = [u, v, z]) {lo hi : Nat} (hi1 : hi ≤ w.heap.size) (hi2 : K.inn lo hi w x) (hi3 : g < lo ∨ hi ≤ g) :
    GrowK K T base (((w.setCell ⟨g, k * 3, none⟩ u).setCell ⟨g, k * 3 + 1, none⟩ v).setCell ⟨g, k * 3 + 2, none⟩ z) (.slice (some ⟨g, 0, none⟩) n cap) (M.set k x) := by
  have hst : ∀ {lo hi : Nat}, (g < lo ∨ hi ≤ g) → Stays lo hi w (((w.setCell ⟨g, k * 3, none⟩ u).setCell ⟨g, k * 3 + 1, none⟩ v).setCell ⟨g, k * 3 + 2, none⟩ z) := fun h => ((Stays.setCell (w := w) ⟨g, k * 3, none⟩ _ h).trans (Stays.setCell ⟨g, k * 3 + 1, none⟩ _ h)).trans (Stays.setCell ⟨g, k * 3 + 2, none⟩ _ h)
  have hsz : (((w.setCell ⟨g, k * 3, none⟩ u).setCell ⟨g, k * 3 + 1, none⟩ v).setCell ⟨g, k * 3 + 2, none⟩ z).heap.size = w.heap.size := by simp [World.setCell]
  refine ⟨h.own.set3 hm k hk x hx, fun y hy => ?_⟩
  rw [hsz]
  rcases List.mem_or_eq_of_mem_set hy with hy | rfl
  · obtain ⟨l, r, h1, h2, h3⟩ := h.each y hy
    exact ⟨l, r, h1, K.keep h2 (hst (h3 g rfl)), h3⟩
  · exact ⟨lo, hi, hi1, K.keep hi2 (hst hi3), fun k hk => by cases hk; exact hi3⟩
theorem GrowK.dcells {g n cap : Nat} (h : GrowK K T base w (.slice (some ⟨g, 0, none⟩) n cap) M) {i j : Nat} (hi : i < M.length) (hj : j < K.m) : w.cell? ⟨g, i * K.m + j, none⟩ = (K.cells (M.getD i K.nil))[j]? ∧ w.frozen? ⟨g, i * K.m + j, none⟩ = false := by
  obtain ⟨a, c, e, hr⟩ := h.rg
  cases e
  have := hr.cellAt hi hj
  rw [Nat.zero_add] at this
  exact ⟨this, World.ownsRow.frozenAt h.own _⟩
theorem GrowK.form (h : GrowK K T base w v M) (hl : 0 < M.length) : ∃ g cap, v = .slice (some ⟨g, 0, none⟩) M.length cap ∧ base ≤ g ∧ g < w.heap.size ∧ M.length ≤ cap ∧ cap ≤ maxLen := by
  rcases h.own.2 with ⟨rfl, h0⟩ | ⟨g, cap, cur, rfl, hg, hh, hnc, hcm, hcs, htk⟩
  · omega
  · refine ⟨g, cap, rfl, hg, ?_, hnc, hcm⟩
    rcases Nat.lt_or_ge g w.heap.size with hlt | hge
    · exact hlt
    · rw [Array.getElem?_eq_none hge] at hh; cases hh
theorem GrowK.alloc (h : GrowK K T base w v M) (o : Obj) : GrowK K T base (w.alloc o) v M := h.here ((Below.refl _ _).alloc (Nat.le_refl _) _)
/-- A store elsewhere, in no block that the list or its structs lie in. -/
theorem GrowK.store (h : GrowK K T base w v M) (p : Addr) (u : Value) (hp : v.ownBlock ≠ some p.block) (he : ∀ x ∈ M, ∃ lo hi, hi ≤ w.heap.size ∧ K.inn lo hi w x ∧ (∀ k, v.ownBlock = some k → k < lo ∨ hi ≤ k) ∧ (p.block < lo ∨ hi ≤ p.block)) : GrowK K T base (w.setCell p u) v M := by
  have hg : w.grownBy (w.setCell p u) (some p.block) := ⟨rfl, rfl, rfl, by simp [World.setCell], fun k hk hne => Below.heap_setCell _ _ _ _ (fun e => hne (by rw [e]))⟩
  refine ⟨World.ownsRow.kept h.own hg ?_, fun x hx => ?_⟩
  · cases hv : v.ownBlock with
    | none => exact .inl rfl
    | some k => exact .inr (fun e => hp (by rw [hv]; exact e))
  · obtain ⟨lo, hi, h1, h2, h3, h4⟩ := he x hx
    exact ⟨lo, hi, by simp [World.setCell]; exact h1, K.keep h2 (.setCell p u h4), h3⟩
end
/-- What a call hands back that makes a list of structs: they read so. -/
def NewRg {α : Type} (K : Kind α) (w : World) (M : List α) (e : Ending) (w' : World) : Prop :=
  ∃ a cap, e = .returned (.slice a M.length cap) ∧ Rg K 0 w'.heap.size w' a M.length cap M ∧ Below w.heap.size w w'
end Go.Proofs.Ytbhehicfenkbcaa.PW
