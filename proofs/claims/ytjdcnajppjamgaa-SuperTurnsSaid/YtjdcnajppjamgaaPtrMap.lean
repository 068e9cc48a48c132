/-
  A map of the call's own whose keys are pointers to its own variables, each laid once, gone through by range in whatever order. Nothing here names a function of the program.
-/
import Derived.Below
import Derived.Maps.RangeWalk
import Derived.LaidEqlPtr
import Derived.WalkKit
namespace Go.Proofs.Ytjdcnajppjamgaa.PX
open Go.ChangeMaps (setBlock)
open Go.RowKit
set_option linter.unusedVariables false

/-- The entries of a map, in the order in which they were laid. -/
def ents (L : List (Addr × Value)) : List MapEntry := L.zipIdx.map fun x => ⟨.pointer (some x.1.1), x.1.2, x.2⟩
theorem ents_snoc (L : List (Addr × Value)) (a : Addr) (v : Value) : ents (L ++ [(a, v)]) = ents L ++ [⟨.pointer (some a), v, L.length⟩] := by
  simp [ents, List.zipIdx_append]
theorem ents_length (L : List (Addr × Value)) : (ents L).length = L.length := by simp [ents]
theorem ents_get (L : List (Addr × Value)) (i : Nat) : (ents L)[i]? = (L[i]?).map fun x => ⟨.pointer (some x.1), x.2, i⟩ := by
  simp only [ents, List.getElem?_map, List.getElem?_zipIdx]
  cases L[i]? <;> simp
theorem mem_ents {L : List (Addr × Value)} {e : MapEntry} (h : e ∈ ents L) : ∃ x, L[e.born]? = some x ∧ e.key = .pointer (some x.1) ∧ e.val = x.2 := by
  obtain ⟨i, hi⟩ := List.mem_iff_getElem?.1 h
  rw [ents_get] at hi
  cases hx : L[i]? with
  | none => rw [hx] at hi; cases hi
  | some x =>
    rw [hx] at hi
    simp only [Option.map_some, Option.some.injEq] at hi
    subst hi
    exact ⟨x, hx, rfl, rfl⟩
/-- Block b is a map of these entries. -/
def PtrMap (w : World) (b : Nat) (L : List (Addr × Value)) : Prop := w.heap[b]? = some (.map (ents L).toArray L.length)
theorem PtrMap.made (w : World) : PtrMap (w.alloc (.map #[] 0)) w.heap.size [] := (MapKept.heap_alloc w _).1
theorem PtrMap.lt {w : World} {b : Nat} {L : List (Addr × Value)} (h : PtrMap w b L) : b < w.heap.size := (Array.getElem?_eq_some_iff.1 h).1
theorem PtrMap.below {B : Nat} {w w' : World} {b : Nat} {L : List (Addr × Value)} (h : PtrMap w b L) (hb : Below B w w') (hlt : b < B) : PtrMap w' b L := by
  unfold PtrMap at h ⊢
  rw [hb.block b hlt]; exact h
theorem PtrMap.here {w w' : World} {b : Nat} {L : List (Addr × Value)} (h : PtrMap w b L) (hb : Below w.heap.size w w') : PtrMap w' b L := h.below hb h.lt
theorem PtrMap.drew {w : World} {b : Nat} {L : List (Addr × Value)} (h : PtrMap w b L) : PtrMap w.drew b L := h
/-- Block g is one of plain cells that may be written. -/
def Plain (w : World) (g : Nat) : Prop := ∃ ca ta, w.heap[g]? = some (.cells ca ta (0, 0))

theorem run_find_none {P : Program} {w : World} {kt te : TypeId} {j : TypeInfo} (hp : P.underlying kt = some (.pointer te)) (hte : P.info? te = some j) (hsz : j.size ≠ 0) (a : Addr) (ha : Plain w a.block) :
    ∀ (es : List MapEntry) (i : Nat), (∀ e ∈ es, ∃ b : Addr, e.key = .pointer (some b) ∧ a ≠ b ∧ Plain w b.block) → (Instr.findAsking kt (.pointer (some a)) es i).run P w = .ok none w := by
  intro es
  induction es with
  | nil => intro i _; rfl
  | cons e es ih =>
    intro i h
    obtain ⟨b, hk, hne, cb, tb, hb⟩ := h e (List.mem_cons_self ..)
    obtain ⟨ca, ta, ha'⟩ := ha
    have hq : (Op.equal kt (.pointer (some a)) e.key).run P w = .ok false w := by
      rw [hk]
      have h1 : ∀ d : Nat, (Op.equalIn (d + 1) kt (.pointer (some a)) (.pointer (some b))).run P w = .ok false w := fun d => by
        simp [Op.equalIn, run_underlying hp, sizeOf, typeInfo, hte, hsz, run_sameAddr_other w hne ha' hb]
      simp [Op.equal, Op.maxDepth, h1 9999]
    simp [Instr.findAsking, hq, Result.andThen, ih (i + 1) (fun e he => h e (List.mem_cons_of_mem _ he))]
theorem run_findKey_none {P : Program} {w : World} {kt te : TypeId} {j : TypeInfo} (hp : P.underlying kt = some (.pointer te)) (hte : P.info? te = some j) (hsz : j.size ≠ 0) (a : Addr) (ha : Plain w a.block) (es : List MapEntry)
    (h : ∀ e ∈ es, ∃ b : Addr, e.key = .pointer (some b) ∧ a ≠ b ∧ Plain w b.block) : (Instr.findKey kt (.pointer (some a)) es).run P w = .ok none w := by
  unfold Instr.findKey
  cases es with
  | nil => simp [run_underlying hp, Result.andThen, Instr.findNow]
  | cons e es =>
    obtain ⟨b, hk, -, -⟩ := h e (List.mem_cons_self ..)
    have hn : Instr.findNow (.pointer te) (.pointer (some a)) (e :: es) 0 = none := by simp [Instr.findNow, Instr.sameNow]
    simp only [Sem.run_bind, run_underlying hp, Result.andThen, hn]
    exact run_find_none hp hte hsz a ha (e :: es) 0 h
theorem run_checkKey_ptr {P : Program} {w : World} {kt te : TypeId} (hp : P.underlying kt = some (.pointer te)) (em : Bool) (a : Addr) : (Instr.checkKey em 10000 kt (.pointer (some a))).run P w = .ok () w := by
  have : ∀ n, (Instr.checkKey em (n + 1) kt (.pointer (some a))).run P w = .ok () w := fun n => by
    simp [Instr.checkKey, run_underlying hp, Result.andThen]
  exact this 9999
/-- A new key laid: what the map holds behind it, and that nothing else is turned. -/
theorem PtrMap.lay {P : Program} {w : World} {b : Nat} {L : List (Addr × Value)} (h : PtrMap w b L) {t kt te et : TypeId} {j : TypeInfo} (ht : P.underlying t = some (.map kt et)) (hp : P.underlying kt = some (.pointer te)) (hte : P.info? te = some j) (hsz : j.size ≠ 0)
    (a : Addr) (v : Value) (ha : Plain w a.block) (hL : ∀ x ∈ L, a ≠ x.1 ∧ Plain w x.1.block) :
    ∃ w', (Instr.mapUpdate t (.map (some b)) (.pointer (some a)) v).run P w = .ok () w' ∧ PtrMap w' b (L ++ [(a, v)]) ∧ w.grownBy w' (some b) ∧ w'.heap.size = w.heap.size := by
  have hf := run_findKey_none hp hte hsz a ha (ents L) (fun e he => by
    obtain ⟨x, hx, hk, -⟩ := mem_ents he
    exact ⟨x.1, hk, (hL x (List.mem_of_getElem? hx)).1, (hL x (List.mem_of_getElem? hx)).2⟩)
  refine ⟨setBlock w b (.map ((ents L).toArray.push ⟨.pointer (some a), v, L.length⟩) (L.length + 1)), ?_, ?_, ?_, ?_⟩
  · unfold PtrMap at h
    simp [Instr.mapUpdate, run_underlying ht, MapKept.run_getObj_map h, run_checkKey_ptr hp, hf, MapKept.run_setObj_map _ h, Result.andThen, setBlock]
  · unfold PtrMap
    rw [ChangeMaps.heap_setBlock_same h]
    simp [ents_snoc]
  · refine ⟨rfl, rfl, rfl, ?_, fun i hi hne => ?_⟩
    · simp [setBlock]
    · exact ChangeMaps.heap_setBlock_other h _ (fun e => hne (by rw [e]))
  · simp [setBlock]
/-- Block r goes through the map of block b: these have come. -/
def IterAt (w : World) (r b : Nat) (L : List (Addr × Value)) (seen : Array Nat) : Prop := w.heap[r]? = some (.mapIter (some b) L.length seen L.length) ∧ PtrMap w b L
theorem IterAt.here {w w' : World} {r b : Nat} {L : List (Addr × Value)} {seen : Array Nat} (h : IterAt w r b L seen) (hb : Below w.heap.size w w') : IterAt w' r b L seen := by
  refine ⟨?_, h.2.here hb⟩
  rw [hb.block r (Array.getElem?_eq_some_iff.1 h.1).1]; exact h.1
theorem IterAt.lt {w : World} {r b : Nat} {L : List (Addr × Value)} {seen : Array Nat} (h : IterAt w r b L seen) : r < w.heap.size := (Array.getElem?_eq_some_iff.1 h.1).1
theorem IterAt.left {w : World} {r b : Nat} {L : List (Addr × Value)} {seen : Array Nat} (h : IterAt w r b L seen) : w.rangeLeft b r = (leftOf (ents L).toArray seen).size := by
  have h2 : w.heap[b]? = _ := h.2
  simp only [World.rangeLeft, h.1, h2]
theorem IterAt.set {w : World} {r b : Nat} {L : List (Addr × Value)} {seen : Array Nat} (h : IterAt w r b L seen) (p : Addr) (v : Value) (h1 : p.block ≠ r) (h2 : p.block ≠ b) : IterAt (w.setCell p v) r b L seen := by
  refine ⟨?_, ?_⟩
  · rw [Below.heap_setCell _ _ _ _ (fun e => h1 e.symm)]; exact h.1
  · have := h.2
    unfold PtrMap at this ⊢
    rw [Below.heap_setCell _ _ _ _ (fun e => h2 e.symm)]; exact this
theorem run_range_ptr {P : Program} {t kt et : TypeId} (ht : P.underlying t = some (.map kt et)) {w : World} {b : Nat} {L : List (Addr × Value)} (h : PtrMap w b L) :
    (Instr.range t (.map (some b))).run P w = .ok (.pointer (some ⟨w.heap.size, 0, none⟩)) (w.alloc (.mapIter (some b) L.length #[] L.length)) := by
  have h' : w.heap[b]? = _ := h
  simp [Instr.range, run_underlying ht, MapKept.run_getObj_map h', Result.andThen]
theorem IterAt.begin {w : World} {b : Nat} {L : List (Addr × Value)} (h : PtrMap w b L) : IterAt (w.alloc (.mapIter (some b) L.length #[] L.length)) w.heap.size b L #[] :=
  ⟨(MapKept.heap_alloc w _).1, h.here ((Below.refl _ _).alloc (Nat.le_refl _) _)⟩
section
variable {P : Program} (w : World) {ops : Array Oper} {rest : List Oper} {o : Oper} {a : Act} {Q : Exit → Act → World → Prop}
/-- 'm[k] = v' of a literal, at the operation. -/
theorem wpList_lay_ptr (hg : o.guard = none) (m x v : Operand) (t : TypeId) (hop : o.op = Op.mapUpdate t m x v) {kt te et : TypeId} {j : TypeInfo} (ht : P.underlying t = some (.map kt et)) (hp : P.underlying kt = some (.pointer te)) (hte : P.info? te = some j) (hsz : j.size ≠ 0)
    (b : Nat) (L : List (Addr × Value)) (hm : a.eval m = .map (some b)) (h : PtrMap w b L) (k : Addr) (val : Value) (hx : a.eval x = .pointer (some k)) (hv : a.eval v = val) (ha : Plain w k.block) (hL : ∀ x ∈ L, k ≠ x.1 ∧ Plain w x.1.block)
    (hK : ∀ w', PtrMap w' b (L ++ [(k, val)]) → w.grownBy w' (some b) → w'.heap.size = w.heap.size → wpList P ops Q rest (a.put o.dst undef) w') : wpList P ops Q (o :: rest) a w := by
  refine wpList_plain hg fun K' hK' => ?_
  obtain ⟨w', hrun, r1, r2, r3⟩ := h.lay ht hp hte hsz k val ha hL
  unfold Oper.wp
  simp [execOp, hop, hm, hx, hv, hrun, Result.andThen]
  exact hK' _ _ (hK w' r1 r2 r3)
/-- 'range m'. -/
theorem wpList_range_ptr (hg : o.guard = none) (m : Operand) (t : TypeId) (hop : o.op = Op.range t m) {kt et : TypeId} (ht : P.underlying t = some (.map kt et)) (b : Nat) (L : List (Addr × Value)) (hm : a.eval m = .map (some b)) (h : PtrMap w b L)
    (hK : IterAt (w.alloc (.mapIter (some b) L.length #[] L.length)) w.heap.size b L #[] → wpList P ops Q rest (a.put o.dst (.pointer (some ⟨w.heap.size, 0, none⟩))) (w.alloc (.mapIter (some b) L.length #[] L.length))) : wpList P ops Q (o :: rest) a w := by
  refine wpList_plain hg fun K' hK' => ?_
  have h' : w.heap[b]? = _ := h
  have hrun : (Instr.range t (.map (some b))).run P w = .ok (.pointer (some ⟨w.heap.size, 0, none⟩)) (w.alloc (.mapIter (some b) L.length #[] L.length)) := by
    simp [Instr.range, run_underlying ht, MapKept.run_getObj_map h', Result.andThen]
  have hi : IterAt (w.alloc (.mapIter (some b) L.length #[] L.length)) w.heap.size b L #[] := ⟨(MapKept.heap_alloc w _).1, h.here ((Below.refl _ _).alloc (Nat.le_refl _) _)⟩
  unfold Oper.wp
  simp [execOp, hop, hm, hrun, Result.andThen]
  exact hK' _ _ (hK hi)
/-- The step: all have come, or one that has not. -/
theorem wpList_next_ptr (hg : o.guard = none) (it : Operand) (hop : o.op = Op.next it false) (r b : Nat) (L : List (Addr × Value)) (seen : Array Nat) (hit : a.eval it = .pointer (some ⟨r, 0, none⟩)) (h : IterAt w r b L seen)
    (hDone : (∀ i, i < L.length → i ∈ seen) → wpList P ops Q rest (a.put o.dst (.tuple #[.bool false])) w)
    (hMore : ∀ (i : Nat) (x : Addr × Value) (w' : World), L[i]? = some x → i ∉ seen → IterAt w' r b L (seen.push i) → w.grownBy w' (some r) → w'.heap.size = w.heap.size → w'.rangeLeft b r < w.rangeLeft b r →
      (Instr.entry (.pointer (some ⟨r, 0, none⟩))).run P w' = .ok (.tuple #[.pointer (some x.1), x.2]) w' → wpList P ops Q rest (a.put o.dst (.tuple #[.bool true, .pointer (some x.1), x.2])) w') : wpList P ops Q (o :: rest) a w := by
  refine wpList_plain hg fun K' hK' => ?_
  obtain ⟨hr, hb⟩ := h
  have hb' : w.heap[b]? = _ := hb
  have hold : ∀ x ∈ (ents L).toArray.toList, x.born < L.length := fun e he => by
    obtain ⟨x, hx, -, -⟩ := mem_ents (by simpa using he)
    exact (List.getElem?_eq_some_iff.1 hx).1
  have hnd : ((ents L).toArray.toList.map (·.born)).Nodup := by
    have : (ents L).toArray.toList.map (·.born) = List.range L.length := by
      simp [ents, List.map_map, Function.comp_def, List.zipIdx_map_snd, List.range_eq_range']
    rw [this]; exact List.nodup_range
  unfold Oper.wp
  rcases run_next_at (P := P) w o.type r b L.length L.length seen (ents L).toArray L.length hr hb' hold (Nat.le_refl _) with ⟨h0, hrun⟩ | ⟨e, he, w1, hw1, hrun⟩
  · simp [execOp, hop, hit, hrun, Result.andThen]
    refine hK' _ _ (hDone fun i hi => ?_)
    have hx := all_seen _ _ h0 ⟨.pointer (some (L[i]'hi).1), (L[i]'hi).2, i⟩ (by
      have := ents_get L i
      rw [List.getElem?_eq_getElem hi] at this
      simpa using List.mem_of_getElem? this)
    simpa using hx
  · have hml := mem_left he
    obtain ⟨x, hx, hk, hv⟩ := mem_ents (L := L) (e := e) (by simpa using hml.1)
    have hr1 : w1.heap[r]? = some (.mapIter (some b) L.length seen L.length) := by rcases hw1 with rfl | rfl <;> exact hr
    have hb1 : w1.heap[b]? = some (.map (ents L).toArray L.length) := by rcases hw1 with rfl | rfl <;> exact hb
    have hne : b ≠ r := fun q => by rw [q, hr] at hb'; cases hb'
    have hrn : (setBlock w1 r (.mapIter (some b) L.length (seen.push e.born) L.length)).heap[r]? = some (.mapIter (some b) L.length (seen.push e.born) L.length) := by
      have hlt := (Array.getElem?_eq_some_iff.1 hr1).1
      simp [setBlock, hlt]
    have hbn : (setBlock w1 r (.mapIter (some b) L.length (seen.push e.born) L.length)).heap[b]? = some (.map (ents L).toArray L.length) := by
      simp only [setBlock]
      rw [Array.getElem?_setIfInBounds_ne (fun q => hne q.symm)]; exact hb1
    simp [execOp, hop, hit, hrun, Result.andThen]
    rw [hk, hv]
    have hI : IterAt (setBlock w1 r (.mapIter (some b) L.length (seen.push e.born) L.length)) r b L (seen.push e.born) := ⟨hrn, hbn⟩
    have hen := run_entry_at (P := P) _ r b L.length seen (ents L).toArray L.length e hrn hbn hml.1 hnd
    rw [hk, hv] at hen
    refine hK' _ _ (hMore e.born x _ hx ?_ hI ?_ ?_ ?_ hen)
    · have := hml.2
      simpa using this
    · refine ⟨?_, ?_, ?_, ?_, fun i hi hn => ?_⟩
      · rcases hw1 with rfl | rfl <;> rfl
      · rcases hw1 with rfl | rfl <;> rfl
      · rcases hw1 with rfl | rfl <;> rfl
      · rcases hw1 with rfl | rfl <;> simp [setBlock]
      · simp only [setBlock]
        rw [Array.getElem?_setIfInBounds_ne (fun q => hn (by rw [q]))]
        rcases hw1 with rfl | rfl <;> rfl
    · rcases hw1 with rfl | rfl <;> simp [setBlock]
    · rw [hI.left, IterAt.left ⟨hr, hb⟩]
      exact left_shrinks _ _ e he
end
end Go.Proofs.Ytjdcnajppjamgaa.PX
