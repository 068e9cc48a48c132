/-
  Layer 4's plain mathematics: a device as lists of numbers; what may be, what lasts, what is read, what a write, a flush, a death make of it.
-/
import Derived.Below
namespace Go.Proofs.Ytnhfkfihlkbkfaa.DK
set_option linter.unusedVariables false
set_option maxRecDepth 100000

/-- A device: its blocks, the writes that wait, whether it is dead. -/
structure Dv where
  bs : List (List Nat)
  ws : List (Int × List Nat)
  dead : Bool
def Dv.nil : Dv := ⟨[], [], false⟩

/-- A block's bytes: none are noughts. -/
def fl (l : List Nat) : List Nat := if l.length = 0 then List.replicate 128 0 else l
theorem fl_fl (l : List Nat) : fl (fl l) = fl l := by
  unfold fl; split
  · simp
  · rfl
theorem fl_nil : fl [] = List.replicate 128 0 := by simp [fl]
theorem fl_ne {l : List Nat} (h : l.length ≠ 0) : fl l = l := by simp [fl, h]
def sized (l : List Nat) : Bool := decide (l.length = 0) || decide (l.length = 128)
theorem sized_iff {l : List Nat} : sized l = true ↔ l.length = 0 ∨ l.length = 128 := by simp [sized]
theorem sized_no {l : List Nat} : sized l = false ↔ l.length ≠ 0 ∧ l.length ≠ 128 := by simp [sized]
theorem fl_length {l : List Nat} (h : sized l = true) : (fl l).length = 128 := by
  rw [sized_iff] at h
  unfold fl; split
  · simp
  · omega
theorem fl_sized {l : List Nat} (h : sized l = true) : sized (fl l) = true := by rw [sized_iff]; right; exact fl_length h
theorem fl_bytes {l : List Nat} (h : ∀ x ∈ l, x < 256) : ∀ x ∈ fl l, x < 256 := by
  unfold fl; split
  · intro x hx; have := (List.mem_replicate.1 hx).2; omega
  · exact h
def fw (p : Int × List Nat) : Int × List Nat := (p.1, fl p.2)
/-- A device with each block written out. -/
def norm (D : Dv) : Dv := ⟨D.bs.map fl, D.ws.map fw, D.dead⟩

/-- Has it a block there? -/
def has (D : Dv) (at_ : Int) : Bool := decide (0 ≤ at_) && decide (at_ < (D.bs.length : Int))
theorem has_iff {D : Dv} {at_ : Int} : has D at_ = true ↔ 0 ≤ at_ ∧ at_ < (D.bs.length : Int) := by simp [has]
theorem has_no {D : Dv} {at_ : Int} : has D at_ = false ↔ at_ < 0 ∨ (D.bs.length : Int) ≤ at_ := by
  rw [← Bool.not_eq_true, has_iff]; omega
def okB (D : Dv) (l : List Nat) : Bool := sized l && (!D.dead || decide (l.length = 0))
def okW (D : Dv) (p : Int × List Nat) : Bool := has D p.1 && sized p.2
def may (D : Dv) : Bool :=
  decide (1 ≤ D.bs.length) && decide (D.bs.length ≤ 256) && decide (D.ws.length ≤ 1024) && (!D.dead || decide (D.ws.length = 0)) && D.bs.all (okB D) && D.ws.all (okW D)
theorem may_iff {D : Dv} : may D = true ↔ 1 ≤ D.bs.length ∧ D.bs.length ≤ 256 ∧ D.ws.length ≤ 1024 ∧ (D.dead = true → D.ws.length = 0) ∧ (∀ l ∈ D.bs, okB D l = true) ∧ (∀ p ∈ D.ws, okW D p = true) := by
  unfold may
  simp only [Bool.and_eq_true, decide_eq_true_eq, List.all_eq_true, Bool.or_eq_true, Bool.not_eq_true']
  constructor
  · rintro ⟨⟨⟨⟨⟨h1, h2⟩, h3⟩, h4⟩, h5⟩, h6⟩
    exact ⟨h1, h2, h3, fun hd => h4.resolve_left (by simp [hd]), h5, h6⟩
  · rintro ⟨h1, h2, h3, h4, h5, h6⟩
    exact ⟨⟨⟨⟨⟨h1, h2⟩, h3⟩, by cases hd : D.dead <;> simp_all⟩, h5⟩, h6⟩

/-- What lasts there, what is read there. -/
def lies (D : Dv) (at_ : Int) : List Nat := fl (D.bs.getD at_.toNat [])
def look (at_ : Int) (init : List Nat) (ws : List (Int × List Nat)) : List Nat := ws.foldl (fun acc p => if p.1 = at_ then fl p.2 else acc) init
def seen (D : Dv) (at_ : Int) : List Nat := look at_ (lies D at_) D.ws
theorem look_nil (at_ : Int) (i : List Nat) : look at_ i [] = i := rfl
theorem look_snoc (at_ : Int) (i : List Nat) (ws : List (Int × List Nat)) (p : Int × List Nat) : look at_ i (ws ++ [p]) = if p.1 = at_ then fl p.2 else look at_ i ws := by simp [look]
theorem look_none (at_ : Int) (i : List Nat) {ws : List (Int × List Nat)} (h : ∀ p ∈ ws, p.1 ≠ at_) : look at_ i ws = i := by
  induction ws with
  | nil => rfl
  | cons p r ih =>
    have := h p (List.mem_cons_self ..)
    show look at_ (if p.1 = at_ then fl p.2 else i) r = i
    rw [if_neg this]
    exact ih (fun q hq => h q (List.mem_cons_of_mem _ hq))
theorem look_append (at_ : Int) (i : List Nat) (u v : List (Int × List Nat)) : look at_ i (u ++ v) = look at_ (look at_ i u) v := by simp [look]
/-- The last write of that place. -/
theorem look_last (at_ : Int) (i : List Nat) (u v : List (Int × List Nat)) (p : Int × List Nat) (h : p.1 = at_) (hv : ∀ q ∈ v, q.1 ≠ at_) : look at_ i (u ++ p :: v) = fl p.2 := by
  have : u ++ p :: v = (u ++ [p]) ++ v := by simp
  rw [this, look_append, look_none _ _ hv, look_snoc, if_pos h]

/-! Errors. -/
def rcode (D : Dv) (at_ : Int) : Nat := if may D = false then 8 else if has D at_ = false then 2 else if D.dead = true then 40 else 0
def pcode (D : Dv) (at_ : Int) : Nat := if may D = false then 8 else if has D at_ = false then 2 else 0
def wcode (D : Dv) (at_ : Int) (l : List Nat) : Nat := if may D = false then 8 else if has D at_ = false then 2 else if sized l = false then 3 else if D.dead = true then 40 else 0
def wcode' (D : Dv) (at_ : Int) (l : List Nat) : Nat := if wcode D at_ l ≠ 0 then wcode D at_ l else if 1024 ≤ D.ws.length then 9 else 0
def fcode (D : Dv) : Nat := if may D = false then 8 else if D.dead = true then 40 else 0
def kcode (D : Dv) : Nat := if may D = false then 8 else 0
/-! What is made of a device. -/
def put (D : Dv) (at_ : Int) (l : List Nat) : Dv := ⟨D.bs, D.ws ++ [(at_, l)], D.dead⟩
def sure (D : Dv) (at_ : Int) (l : List Nat) : Dv := ⟨D.bs.set at_.toNat l, D.ws.filter (fun p => decide (p.1 ≠ at_)), D.dead⟩
def lay (bs : List (List Nat)) (ws : List (Int × List Nat)) : List (List Nat) := ws.foldl (fun acc p => acc.set p.1.toNat p.2) bs
def flushed (D : Dv) : Dv := ⟨lay D.bs D.ws, [], D.dead⟩
def rflushed (D : Dv) : Dv := ⟨(List.range D.bs.length).map (fun (k : Nat) => seen D (k : Int)), [], D.dead⟩
def killed (D : Dv) : Dv := ⟨List.replicate D.bs.length [], [], true⟩
def fresh (n : Nat) : Dv := ⟨List.replicate n [], [], false⟩
end Go.Proofs.Ytnhfkfihlkbkfaa.DK
