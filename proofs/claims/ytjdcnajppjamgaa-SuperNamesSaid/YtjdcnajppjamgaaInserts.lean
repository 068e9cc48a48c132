/-
  A map literal in a region that draws its order: its entries are laid in whatever order; behind them the map has each of them once. Nothing here names a function of the program.
-/
import Derived.Test.YtjdcnajppjamgaaHoist
import Derived.Test.YtjdcnajppjamgaaPtrMap
namespace Go.Proofs.Ytjdcnajppjamgaa.PX
open Go.ChangeMaps (setBlock)
open Go.RowKit
set_option linter.unusedVariables false

/-- listed, and those of m too. -/
def setM (listed : Array Bool) (m : Nat → Bool) : Array Bool := listed.mapIdx fun i b => b || m i
theorem setM_none (listed : Array Bool) : setM listed (fun _ => false) = listed := by
  apply Array.ext
  · simp [setM]
  · intro i h1 h2; simp [setM]
theorem setM_set (listed : Array Bool) (m : Nat → Bool) (i : Nat) : (setM listed m).setIfInBounds i true = setM listed (fun j => m j || j == i) := by
  apply Array.ext_getElem?
  intro j
  rw [Array.getElem?_setIfInBounds]
  simp only [setM, Array.getElem?_mapIdx, Array.size_mapIdx]
  by_cases e : i = j
  · subst e
    by_cases h : i < listed.size
    · simp [h]
    · simp [h]
  · have : (j == i) = false := beq_eq_false_iff_ne.2 (fun q => e q.symm)
    simp [e, this]
def subs : List Nat → List (List Nat)
  | [] => [[]]
  | x :: l => subs l ++ (subs l).map (x :: ·)
theorem filter_subs (p : Nat → Bool) : ∀ l, l.filter p ∈ subs l
  | [] => by simp [subs]
  | x :: l => by
    have := filter_subs p l
    by_cases h : p x = true
    · rw [List.filter_cons_of_pos h, subs, List.mem_append]; exact .inr (List.mem_map.2 ⟨_, this, rfl⟩)
    · rw [List.filter_cons_of_neg h, subs, List.mem_append]; exact .inl this
/-- Whichever of I have come up, the others of I are just those that may. -/
def freeB (md : Region.Mode) (ops : Array Oper) (listed : Array Bool) (I : List Nat) : Bool :=
  (subs I).all fun D => D == I || Region.ready md ops (setM listed fun j => D.contains j) == I.filter fun j => !D.contains j
theorem freeB_spec {md : Region.Mode} {ops : Array Oper} {listed : Array Bool} {I : List Nat} (h : freeB md ops listed I = true) (m : Nat → Bool) (hm : ∃ i ∈ I, m i = false) (hI : ∀ i, m i = true → i ∈ I) :
    Region.ready md ops (setM listed m) = I.filter fun j => !m j := by
  have h1 := (List.all_eq_true.1 h) (I.filter m) (filter_subs m I)
  obtain ⟨i, hi, hmi⟩ := hm
  have hne : (I.filter m == I) = false := by
    rw [beq_eq_false_iff_ne]
    intro e
    have : i ∈ I.filter m := by rw [e]; exact hi
    rw [List.mem_filter] at this
    rw [hmi] at this; cases this.2
  rw [hne, Bool.false_or, beq_iff_eq] at h1
  have e1 : (fun j => (I.filter m).contains j) = m := by
    funext j
    cases hj : m j with
    | true => simp [List.mem_filter, hj, hI j hj]
    | false => simp [List.mem_filter, hj]
  have e2 : (I.filter fun j => !(I.filter m).contains j) = I.filter fun j => !m j := by
    apply List.filter_congr
    intro j _
    rw [congrFun e1 j]
  rw [e1, e2] at h1
  exact h1

section
variable {P : Program} {ops : Array Oper} {Q : Exit → Act → World → Prop} {md : Region.Mode} {S : World → Prop} {X : List Nat}

/-- Operation x.1 lays the key x.2.1 with the value x.2.2 into map b. -/
def LaysAt (ops : Array Oper) (a : Act) (t : TypeId) (b : Nat) (x : Nat × Addr × Value) : Prop :=
  ∃ o m k v, ops[x.1]? = some o ∧ o.guard = none ∧ o.dst = none ∧ o.op = Op.insert t m k v ∧ a.eval m = .map (some b) ∧ a.eval k = .pointer (some x.2.1) ∧ a.eval v = x.2.2

theorem wpAnyY_inserts {t kt te et : TypeId} {j : TypeInfo} (ht : P.underlying t = some (.map kt et)) (hp : P.underlying kt = some (.pointer te)) (hte : P.info? te = some j) (hsz : j.size ≠ 0)
    (E : List (Nat × Addr × Value)) (b : Nat) {listed : Array Bool} {a : Act} (hops : ∀ x ∈ E, LaysAt ops a t b x) (hnd : (E.map (·.1)).Nodup) (hk : (E.map (·.2.1)).Nodup) (hrd : freeB md ops listed (E.map (·.1)) = true)
    (hSp : ∀ w, S w → ∀ x ∈ E, Plain w x.2.1.block) (hSg : ∀ w w' : World, S w → w.grownBy w' (some b) → S w') {fuel : Nat}
    (K : ∀ w' L, L.Perm (E.map (·.2)) → PtrMap w' b L → S w' → wpAnyY P md ops Q S X fuel (setM listed fun i => (E.map (·.1)).contains i) a w') :
    ∀ (n : Nat) (D R : List (Nat × Addr × Value)), R.length = n → (D ++ R).Perm E → ∀ w, S w → PtrMap w b (D.map (·.2)) → wpAnyY P md ops Q S X (fuel + n) (setM listed fun i => (D.map (·.1)).contains i) a w := by
  intro n
  induction n with
  | zero =>
    intro D R hR hpm w hS hw
    have : R = [] := List.eq_nil_of_length_eq_zero hR
    subst this
    rw [List.append_nil] at hpm
    have e : (fun i => (D.map (·.1)).contains i) = fun i => (E.map (·.1)).contains i := by
      funext i
      rw [Bool.eq_iff_iff, List.contains_iff_mem, List.contains_iff_mem]
      exact (hpm.map (·.1)).mem_iff
    rw [e]
    exact K w _ (hpm.map _) hw hS
  | succ n ih =>
    intro D R hR hpm w hS hw
    have hndDR : ((D ++ R).map (·.1)).Nodup := (hpm.map (·.1)).nodup_iff.2 hnd
    have hkDR : ((D ++ R).map (·.2.1)).Nodup := (hpm.map (·.2.1)).nodup_iff.2 hk
    rw [List.map_append] at hndDR hkDR
    have hready : Region.ready md ops (setM listed fun i => (D.map (·.1)).contains i) = (E.map (·.1)).filter fun i => !(D.map (·.1)).contains i := by
      refine freeB_spec hrd (fun i => (D.map (·.1)).contains i) ?_ (fun i hi => ?_)
      · cases R with
        | nil => cases hR
        | cons x R =>
          refine ⟨x.1, List.mem_map.2 ⟨x, hpm.mem_iff.1 (by simp), rfl⟩, ?_⟩
          rw [← Bool.not_eq_true, List.contains_iff_mem]
          intro hx
          exact (List.nodup_append.1 hndDR).2.2 _ hx _ (by simp) rfl
      · rw [List.contains_iff_mem] at hi
        obtain ⟨x, hx, rfl⟩ := List.mem_map.1 hi
        exact List.mem_map.2 ⟨x, hpm.mem_iff.1 (by simp [hx]), rfl⟩
    refine ⟨fun h0 => ?_, fun i hi => ?_⟩
    · exfalso
      rw [hready] at h0
      cases R with
      | nil => cases hR
      | cons x R =>
        have : x.1 ∈ (E.map (·.1)).filter fun i => !(D.map (·.1)).contains i := by
          rw [List.mem_filter]
          refine ⟨List.mem_map.2 ⟨x, hpm.mem_iff.1 (by simp), rfl⟩, ?_⟩
          rw [Bool.not_eq_true', ← Bool.not_eq_true, List.contains_iff_mem]
          intro hx
          exact (List.nodup_append.1 hndDR).2.2 _ hx _ (by simp) rfl
        rw [h0] at this; cases this
    · rw [hready, List.mem_filter] at hi
      obtain ⟨hi1, hi2⟩ := hi
      obtain ⟨x, hx, rfl⟩ := List.mem_map.1 hi1
      have hxD : x ∉ D := fun hq => by
        have : (D.map (·.1)).contains x.1 = true := List.contains_iff_mem.2 (List.mem_map.2 ⟨x, hq, rfl⟩)
        rw [this] at hi2; cases hi2
      have hxR : x ∈ R := by
        have := hpm.mem_iff.2 hx
        rw [List.mem_append] at this
        exact this.resolve_left hxD
      obtain ⟨R1, R2, rfl⟩ := List.append_of_mem hxR
      have hpm' : ((D ++ [x]) ++ (R1 ++ R2)).Perm E := by
        refine List.Perm.trans ?_ hpm
        rw [List.append_assoc]
        have hq : (x :: (R1 ++ R2)).Perm (R1 ++ x :: R2) := List.perm_middle.symm
        exact List.Perm.append_left D hq
      obtain ⟨o, m, k, v, ho, hg, hd, hop, hm, hkk, hv⟩ := hops x hx
      refine wpOp_step ho (fun K' hK => ?_)
      have hwt : Region.wanted o (yielded ops a.tmps) = true := by simp [Region.wanted, hg]
      rw [if_pos hwt]
      obtain ⟨w', hrun, r1, r2, r3⟩ := hw.lay ht hp hte hsz x.2.1 x.2.2 (hSp w hS x hx) (fun y hy => by
        obtain ⟨z, hz, rfl⟩ := List.mem_map.1 hy
        refine ⟨fun e => ?_, hSp w hS z (hpm.mem_iff.1 (by simp [hz]))⟩
        exact (List.nodup_append.1 hkDR).2.2 z.2.1 (List.mem_map.2 ⟨z, hz, rfl⟩) x.2.1 (List.mem_map.2 ⟨x, by simp, rfl⟩) e.symm)
      unfold Oper.wp
      simp [execOp, hop, hm, hkk, hv, hrun, Result.andThen]
      have hpt : a.put o.dst undef = a := by rw [hd]; rfl
      refine hK _ _ ?_
      rw [hpt]
      refine ⟨fun _ => hSg w w' hS r2, ?_⟩
      rw [setM_set]
      have e : (fun j => (D.map (·.1)).contains j || j == x.1) = fun j => ((D ++ [x]).map (·.1)).contains j := by
        funext j
        rw [Bool.eq_iff_iff, Bool.or_eq_true, List.contains_iff_mem, List.contains_iff_mem, List.map_append, List.mem_append, beq_iff_eq]
        simp
      rw [e]
      refine ih (D ++ [x]) (R1 ++ R2) ?_ hpm' w' (hSg w w' hS r2) ?_
      · simp at hR ⊢; omega
      · rw [List.map_append]; exact r1
/-- All entries of a literal, in whatever order. -/
theorem wpAnyY_literal {t kt te et : TypeId} {j : TypeInfo} (ht : P.underlying t = some (.map kt et)) (hp : P.underlying kt = some (.pointer te)) (hte : P.info? te = some j) (hsz : j.size ≠ 0)
    (E : List (Nat × Addr × Value)) (I : List Nat) (hI : E.map (·.1) = I) (b : Nat) {listed : Array Bool} {a : Act} {w : World} (hops : ∀ x ∈ E, LaysAt ops a t b x) (hnd : I.Nodup) (hk : (E.map (·.2.1)).Nodup) (hrd : freeB md ops listed I = true)
    (hSp : ∀ w, S w → ∀ x ∈ E, Plain w x.2.1.block) (hSg : ∀ w w' : World, S w → w.grownBy w' (some b) → S w') {fuel n : Nat} (hn : n = fuel + E.length) (hS : S w) (hw : PtrMap w b [])
    (K : ∀ w' L, L.Perm (E.map (·.2)) → PtrMap w' b L → S w' → wpAnyY P md ops Q S X fuel (setM listed fun i => I.contains i) a w') :
    wpAnyY P md ops Q S X n listed a w := by
  subst hn hI
  have h := wpAnyY_inserts (Q := Q) (X := X) ht hp hte hsz E b hops hnd hk hrd hSp hSg K E.length [] E rfl (List.Perm.refl _) w hS hw
  have e : (fun i => (([] : List (Nat × Addr × Value)).map (·.1)).contains i) = fun _ => false := by funext i; simp
  rw [e, setM_none] at h
  exact h
end
end Go.Proofs.Ytjdcnajppjamgaa.PX
