/-
  Layer 5's plain mathematics: acts on several devices; what may be, what acts make, what a crash leaves.
-/
import Derived.Test.YtnhfkfihlkbkfaaDiskLawMath
namespace Go.Proofs.Ytnhfkfihlkbkfaa.AK
open DK (Dv)
set_option linter.unusedVariables false

/-- An act. -/
structure Ac where
  disk : Int
  kind : Nat
  at_ : Int
  data : List Nat
instance : DecidableEq Ac := fun A B => decidable_of_iff (A.disk = B.disk ∧ A.kind = B.kind ∧ A.at_ = B.at_ ∧ A.data = B.data) (by
  cases A; cases B; simp)
def Ac.nil : Ac := ⟨0, 0, 0, []⟩
def mays (Ds : List Dv) : Bool := decide (1 ≤ Ds.length) && decide (Ds.length ≤ 17) && Ds.all DK.may
theorem mays_iff {Ds : List Dv} : mays Ds = true ↔ 1 ≤ Ds.length ∧ Ds.length ≤ 17 ∧ ∀ D ∈ Ds, DK.may D = true := by
  unfold mays
  simp only [Bool.and_eq_true, decide_eq_true_eq, List.all_eq_true]
  constructor
  · rintro ⟨⟨h1, h2⟩, h3⟩; exact ⟨h1, h2, h3⟩
  · rintro ⟨h1, h2, h3⟩; exact ⟨⟨h1, h2⟩, h3⟩
theorem mem_get {α : Type} {L : List α} {d : α} {k : Nat} (h : k < L.length) : L.getD k d ∈ L := by
  simp only [List.getD, List.getElem?_eq_getElem h, Option.getD_some]; exact List.getElem_mem _
theorem all_getD {α : Type} {L : List α} {d : α} {p : α → Prop} (h : ∀ k, k < L.length → p (L.getD k d)) : ∀ x ∈ L, p x := by
  intro x hx
  obtain ⟨j, hj, rfl⟩ := List.mem_iff_getElem.1 hx
  have := h j hj
  simpa [List.getD, hj] using this
/-- Is there such a device? -/
def isOf (Ds : List Dv) (d : Int) : Bool := decide (0 ≤ d) && decide (d < (Ds.length : Int))
theorem isOf_iff {Ds : List Dv} {d : Int} : isOf Ds d = true ↔ 0 ≤ d ∧ d < (Ds.length : Int) := by simp [isOf]
def okK (D : Dv) (A : Ac) : Bool := if A.kind = 3 then decide (A.at_ = 0) && decide (A.data.length = 0) else (decide (A.kind = 1) || decide (A.kind = 2)) && DK.has D A.at_ && DK.sized A.data
def okA (Ds : List Dv) (A : Ac) : Bool := isOf Ds A.disk && okK (Ds.getD A.disk.toNat Dv.nil) A
def dcode (Ds : List Dv) : Nat := if mays Ds then 0 else 8
def acode (Ds : List Dv) (As : List Ac) : Nat := if mays Ds = false then 8 else if 1024 < As.length then 4 else if As.all (okA Ds) then 0 else 2
theorem acode_zero {Ds : List Dv} {As : List Ac} (h : acode Ds As = 0) : mays Ds = true ∧ As.length ≤ 1024 ∧ ∀ A ∈ As, okA Ds A = true := by
  unfold acode at h
  split at h
  · cases h
  · next h1 =>
    split at h
    · cases h
    · next h2 =>
      split at h
      · next h3 => exact ⟨by simpa using h1, by omega, List.all_eq_true.1 h3⟩
      · cases h

/-! What acts make: the program's, and the document's own, of one device. -/
def errs (D : Dv) (A : Ac) : Bool := !D.dead && decide (A.kind = 1) && decide (1024 ≤ D.ws.length)
def did (D : Dv) (A : Ac) : Dv := if D.dead then D else if A.kind = 1 then DK.put D A.at_ A.data else if A.kind = 2 then DK.sure D A.at_ A.data else DK.flushed D
def rdid (D : Dv) (A : Ac) : Dv := if D.dead then D else if A.kind = 1 then PW.rput D A.at_ A.data else if A.kind = 2 then PW.rsure D A.at_ A.data else DK.rflushed D
/-- All of them: none, where too many writes wait. -/
def go (f : Dv → Ac → Dv) : List Dv → List Ac → Option (List Dv)
  | Ds, [] => some Ds
  | Ds, A :: r => if errs (Ds.getD A.disk.toNat Dv.nil) A then none else go f (Ds.set A.disk.toNat (f (Ds.getD A.disk.toNat Dv.nil) A)) r
theorem go_append (f : Dv → Ac → Dv) (Ds : List Dv) (As Bs : List Ac) : go f Ds (As ++ Bs) = (go f Ds As).bind fun Es => go f Es Bs := by
  induction As generalizing Ds with
  | nil => rfl
  | cons A r ih =>
    show go f Ds (A :: (r ++ Bs)) = (go f Ds (A :: r)).bind fun Es => go f Es Bs
    rw [go, go]
    split
    · rfl
    · exact ih _
theorem go_snoc (f : Dv → Ac → Dv) (Ds : List Dv) (As : List Ac) (A : Ac) : go f Ds (As ++ [A]) = (go f Ds As).bind fun Es => if errs (Es.getD A.disk.toNat Dv.nil) A then none else some (Es.set A.disk.toNat (f (Es.getD A.disk.toNat Dv.nil) A)) := by
  rw [go_append]
  congr 1
theorem go_length {f : Dv → Ac → Dv} {Ds Es : List Dv} {As : List Ac} (h : go f Ds As = some Es) : Es.length = Ds.length := by
  induction As generalizing Ds with
  | nil => injection h with h; rw [h]
  | cons A r ih =>
    unfold go at h
    split at h
    · cases h
    · have := ih h; rw [List.length_set] at this; exact this
def ncode (Ds : List Dv) (As : List Ac) (n : Int) (f : Dv → Ac → Dv) : Nat :=
  if acode Ds As ≠ 0 then acode Ds As else if n < 0 ∨ (As.length : Int) < n then 2 else if (go f Ds (As.take n.toNat)).isNone then 9 else 0
def ran (Ds : List Dv) (As : List Ac) (n : Int) (f : Dv → Ac → Dv) : List Dv := if ncode Ds As n f = 0 then (go f Ds (As.take n.toNat)).getD [] else []

/-! A crash. -/
def kept (ws : List (Int × List Nat)) (ks : List Bool) : List (Int × List Nat) := ((ws.zip ks).filter (·.2)).map (·.1)
def cut (D : Dv) (ks : List Bool) : Dv := ⟨DK.lay D.bs (kept D.ws ks), [], D.dead⟩
def rcut (D : Dv) (ks : List Bool) : Dv := ⟨DK.lay D.bs ((kept D.ws ks).map DK.fw), [], D.dead⟩
def many (Ds : List Dv) : Nat := (Ds.map fun D => D.ws.length).sum
def cuts (f : Dv → List Bool → Dv) : List Dv → List Bool → List Dv
  | [], _ => []
  | D :: r, ks => f D (ks.take D.ws.length) :: cuts f r (ks.drop D.ws.length)
def ccode (Ds : List Dv) (ks : List Bool) : Nat := if mays Ds = false then 8 else if many Ds < ks.length then 2 else 0
def crashed (Ds : List Dv) (ks : List Bool) (f : Dv → List Bool → Dv) : List Dv := if ccode Ds ks = 0 then cuts f Ds ks else []

/-! The same. -/
def sameD (Ds Es : List Dv) : Bool := decide (Ds.map DK.norm = Es.map DK.norm)
def sameA (As Bs : List Ac) : Bool := decide (As = Bs)
end Go.Proofs.Ytnhfkfihlkbkfaa.AK
