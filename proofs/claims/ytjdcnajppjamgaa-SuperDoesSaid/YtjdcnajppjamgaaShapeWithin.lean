/-
  The program's own test of bounds: rows of three numbers each.
-/
import Derived.Test.YtjdcnajppjamgaaBase
import Derived.Test.YtjdcnajppjamgaaShapeMath
namespace Go.Proofs.Ytjdcnajppjamgaa.PW
open Go.RowKit
set_option linter.unusedVariables false
set_option linter.unusedSimpArgs false
set_option maxRecDepth 100000

abbrev Row3 := Int × Int × Int
def Row3.three (x : Row3) : List Value := [.int .i64 x.1, .int .i64 x.2.1, .int .i64 x.2.2]
def rcells (K : List Row3) : List Value := K.flatMap Row3.three
theorem rcells_length (K : List Row3) : (rcells K).length = K.length * 3 := by
  induction K with
  | nil => rfl
  | cons x K ih => simp [rcells, Row3.three] at ih ⊢; omega
theorem rcells_get (K : List Row3) (k : Nat) (hk : k < K.length) (x : Row3) (e : K[k]? = some x) : (rcells K)[k * 3]? = some (.int .i64 x.1) ∧ (rcells K)[k * 3 + 1]? = some (.int .i64 x.2.1) ∧ (rcells K)[k * 3 + 2]? = some (.int .i64 x.2.2) := by
  induction K generalizing k with
  | nil => simp at hk
  | cons y K ih =>
    cases k with
    | zero => simp at e; subst e; simp [rcells, Row3.three]
    | succ k =>
      have h := ih k (by simpa using hk) (by simpa using e)
      have e0 : (k + 1) * 3 = k * 3 + 1 + 1 + 1 := by omega
      refine ⟨?_, ?_, ?_⟩
      · rw [e0]; simpa [rcells, Row3.three] using h.1
      · rw [e0]; simpa [rcells, Row3.three] using h.2.1
      · rw [e0]; simpa [rcells, Row3.three] using h.2.2
def inR (x : Row3) : Bool := SK.inB x.2.1 x.1 x.2.2
theorem all_no {K : List Row3} {k : Nat} {x : Row3} (e : K[k]? = some x) (h : inR x = false) : K.all inR = false := by
  rw [List.all_eq_false]
  exact ⟨x, List.mem_of_getElem? e, by simp [h]⟩
theorem all_yes {K : List Row3} (h : ∀ j, j < K.length → (K[j]?).map inR = some true) : K.all inR = true := by
  rw [List.all_eq_true]
  intro x hx
  obtain ⟨j, hj, e⟩ := List.getElem_of_mem hx
  have := h j hj
  rw [List.getElem?_eq_getElem hj, e] at this
  simpa using this

set_option maxHeartbeats 1000000 in
theorem within_any (K : List Row3) (w : World) (g n : Nat) (hn : n = K.length) (hm : n ≤ 100) (BX : Hid (Bx w g (rcells K))) :
    Calls Try.prog 65 #[.slice (some ⟨g, 0, none⟩) n n] w fun e w' => e = .returned (.bool (K.all inR)) ∧ Below w.heap.size w w' := by
  have hg := BX.out.lt
  have HN := Lib.hid hn
  clear hn
  go_enter Try.func65, Try.ntmps65
  go_wp2_with fail
  go_loopw [7] (fun i wr => ∃ k : Nat, k ≤ n ∧ i = .int .i64 k ∧ (∀ j, j < k → (K[j]?).map inR = some true) ∧ Below w.heap.size w wr) (fun i _ => n - (intOf i).toNat)
  case atStart => exact ⟨0, by omega, rfl, fun j h => by omega, Below.refl _ _⟩
  case round =>
    obtain ⟨k, hk, rfl, hF, hb⟩ := hrel
    have HB := Lib.hid hb
    have HF := Lib.hid hF
    clear hF hb
    have al : Below wr.heap.size wr (wr.drew) := (Below.refl _ _).drew
    by_cases hlt : k < n
    · have BY := Lib.hid (BX.out.below HB.out hg)
      obtain ⟨x, e⟩ : ∃ x, K[k]? = some x := ⟨_, List.getElem?_eq_getElem (HN.out ▸ hlt)⟩
      obtain ⟨x0, x1, x2⟩ := x
      have c := rcells_get K k (HN.out ▸ hlt) _ e
      have c0 := BY.out.cell (k * 3)
      have c1 := BY.out.cell (k * 3 + 1)
      have c2 := BY.out.cell (k * 3 + 2)
      rw [c.1] at c0
      rw [c.2.1] at c1
      rw [c.2.2] at c2
      dsimp only at c0 c1 c2
      have E := Lib.hid e
      clear e c
      have HA : ∀ o, Hid (Below w.heap.size w (wr.alloc o)) := fun o => thence HB.out ((Below.refl _ _).alloc (Nat.le_refl _) o) (Nat.le_refl _)
      have hlt2 : (k : Int) < n := by omega
      by_cases h0 : x1 < x0
      · have NO : Hid (K.all inR = false) := all_no E.out (SK.inB_not.2 (fun h => by have := h.1; dsimp only at this; omega))
        go_wp2_with fail
        go_ret
        exact ⟨by rw [NO.out]; rfl, (HA _).out⟩
      · by_cases h1 : x2 < x1
        · have NO : Hid (K.all inR = false) := all_no E.out (SK.inB_not.2 (fun h => by have := h.2; dsimp only at this; omega))
          go_wp2_with fail
          go_ret
          exact ⟨by rw [NO.out]; rfl, (HA _).out⟩
        · have YES : Hid (inR (x0, x1, x2) = true) := SK.inB_iff.2 ⟨by dsimp only; omega, by dsimp only; omega⟩
          go_wp2_with fail
          go_roundw
          case rel =>
            refine ⟨k + 1, by omega, by go_num, fun j hj => ?_, (HA _).out⟩
            by_cases hj2 : j = k
            · subst hj2; rw [E.out, Option.map_some, YES.out]
            · exact HF.out j (by omega)
          case measure => simp [intOf]; omega
    · have e : k = n := by omega
      subst e
      have YES : Hid (K.all inR = true) := all_yes (fun j hj => HF.out j (by rw [HN.out]; exact hj))
      have hlt2 : ¬ (k : Int) < k := by omega
      go_wp2_with fail
      go_ret
      exact ⟨by rw [YES.out]; rfl, HB.out⟩
end Go.Proofs.Ytjdcnajppjamgaa.PW
