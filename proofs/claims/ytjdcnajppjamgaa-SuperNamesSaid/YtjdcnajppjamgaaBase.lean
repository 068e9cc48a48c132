/-
  What every layer's walks share: slices of bytes that came in, read as numbers; slices that the call made; one array of 128 bytes by value. Nothing here names a function of the program.
  What a call answers that hands back a new block of 128 bytes. Nothing here names a function of the program.
  A variable that lies in memory (a struct by value, a captured one): a block of its cells. Nothing here names a function of the program.
  What every layer's walks share of lists of blocks ([][]byte): lists that came in, lists that the call made. Nothing here names a function of the program.
-/
import Derived.Test.YtjdcnajppjamgaaRows
import Derived.WalkKit
import Derived.WalkLawsBesides
import Derived.WalkSpells
import Derived.OpenShut
import Derived.Lib.Hide
import Derived.Lib.SlBytesConst
import Derived.OwnWalk
import Derived.Maps.AppendAt
import Derived.Deep.WholeRow
import Derived.Laws.ResultCell
import Derived.Laws.CopyOwn
import Derived.IntWalk
import Derived.WalkSmall
import Derived.Laws.MakeOwn
import Derived.Deep.Matrix
import Derived.Deep.AppendLies
import Derived.Deep.Onto
import Derived.Laws.OwnMore
namespace Go.Proofs.Ytjdcnajppjamgaa.PW
open Go.RowKit
set_option linter.unusedVariables false
set_option maxRecDepth 100000

/-- Numbers that are bytes. -/
def Bytes (l : List Nat) : Prop := ∀ x ∈ l, x < 256
def bv (n : Nat) : Value := .int .u8 (n : Int)

/-- A slice of bytes that reads as l in the world w, in a block below B. -/
structure Rd (B : Nat) (w : World) (a : Option Addr) (len cap : Nat) (l : List Nat) : Prop where
  long : len = l.length
  fits : l.length ≤ cap
  small : cap ≤ maxLen
  byt : Bytes l
  nil : a = none → len = 0 ∧ cap = 0
  cells : l ≠ [] → ∃ b off, a = some ⟨b, off, none⟩ ∧ b < B ∧ ∀ i, i < l.length → w.cell? ⟨b, off + i, none⟩ = some (.int .u8 ((l.getD i 0 : Nat) : Int))

theorem Rd.below {B : Nat} {w w' : World} {a : Option Addr} {len cap : Nat} {l : List Nat} (h : Rd B w a len cap l) (hb : Below B w w') : Rd B w' a len cap l :=
  ⟨h.long, h.fits, h.small, h.byt, h.nil, fun hl => (by
    obtain ⟨b, off, ha, hB, hc⟩ := h.cells hl
    exact ⟨b, off, ha, hB, fun i hi => by rw [hb.cell (p := ⟨b, off + i, none⟩) hB]; exact hc i hi⟩)⟩


/-- Bytes that are laid in a new block read as they are. -/
theorem rd_lit (w : World) (C : List Nat) (A : Array Value) (len cap : Nat) (fr : Nat × Nat) (h1 : len = C.length) (h2 : cap = C.length) (hA : A = (C.map (fun (n : Nat) => Value.int .u8 (n : Int))).toArray) (hb : Bytes C) (hm : C.length ≤ maxLen) :
    Rd (w.alloc (.cells A 5 fr)).heap.size (w.alloc (.cells A 5 fr)) (some ⟨w.heap.size, 0, none⟩) len cap C := by
  subst h1 h2 hA
  refine ⟨rfl, Nat.le_refl _, hm, hb, (fun h => nomatch h), fun _ => ⟨w.heap.size, 0, rfl, by simp, fun i hi => ?_⟩⟩
  rw [World.cell?_alloc_mark]
  simp [hi, List.getD]

theorem Rd.mono {B B' : Nat} {w : World} {a : Option Addr} {len cap : Nat} {l : List Nat} (h : Rd B w a len cap l) (hB : B ≤ B') : Rd B' w a len cap l :=
  ⟨h.long, h.fits, h.small, h.byt, h.nil, fun hl => (by
    obtain ⟨b, off, ha, hb, hc⟩ := h.cells hl
    exact ⟨b, off, ha, by omega, hc⟩)⟩


/-- What the row's frame tells of a slice of integers that came in. -/
def IsRow (k : IntKind) (w : World) (a : Option Addr) (len cap : Nat) (zs : List Int) : Prop :=
  (a = none ∧ len = 0 ∧ cap = 0 ∧ zs = []) ∨
  ∃ x, a = some x ∧ len ≤ cap ∧ cap ≤ maxLen ∧ zs.length = cap ∧ (∀ i, i < zs.length → w.cell? (x.add i) = some (.int k (zs.getD i 0))) ∧ ∀ n ∈ zs, (Lit.int k n).wf = true

theorem rd_of_row {w : World} {a : Option Addr} {len cap : Nat} {zs : List Int} (h : IsRow .u8 w a len cap zs) : ∃ l, Rd w.heap.size w a len cap l := by
  rcases h with ⟨rfl, rfl, rfl, rfl⟩ | ⟨x, rfl, hl, hm, hz, hcell, hwz⟩
  · exact ⟨[], ⟨rfl, Nat.le_refl _, by unfold maxLen; decide, (fun _ h => nomatch h), fun _ => ⟨rfl, rfl⟩, fun h => absurd rfl h⟩⟩
  · refine ⟨(zs.take len).map Int.toNat, ⟨by simp; omega, by simp; omega, hm, ?_, (fun h => nomatch h), fun hne => ?_⟩⟩
    · intro n hn
      rw [List.mem_map] at hn
      obtain ⟨z, hz1, rfl⟩ := hn
      have := bounds_u8 (hwz z (List.mem_of_mem_take hz1))
      omega
    · have hlen : 0 < len := by
        rcases Nat.eq_zero_or_pos len with h0 | h0
        · subst h0; simp at hne
        · exact h0
      obtain ⟨b, off, spot⟩ := x
      have hc0 := hcell 0 (by omega)
      have hspot : spot = none := by simpa [Addr.add] using World.cell?_spot hc0
      subst hspot
      refine ⟨b, off, rfl, ?_, fun i hi => ?_⟩
      · exact World.block_lt_of_cell? _ _ hc0
      · have hi' : i < len := by simp at hi; omega
        have hc := hcell i (by omega)
        have hw := bounds_u8 (hwz (zs.getD i 0) (by simp only [List.getD, List.getElem?_eq_getElem (show i < zs.length by omega), Option.getD_some]; exact List.getElem_mem _))
        have e : (((zs.take len).map Int.toNat).getD i 0 : Nat) = (zs.getD i 0).toNat := by
          simp [List.getD, hi', show i < zs.length by omega]
        rw [e, Int.toNat_of_nonneg hw.1]
        have ea : (⟨b, off, none⟩ : Addr).add i = ⟨b, off + i, none⟩ := by
          unfold Addr.add; split <;> simp_all
        rwa [ea] at hc

theorem thence {B : Nat} {w w1 w2 : World} (h : Below B w w1) (k : Below w1.heap.size w1 w2) (hB : B ≤ w.heap.size) : Below B w w2 :=
  h.trans (k.mono (Nat.le_trans hB h.size))

theorem rd_nil (B : Nat) (w : World) : Rd B w none 0 0 [] :=
  ⟨rfl, Nat.le_refl _, (by unfold maxLen; decide), (fun _ h => nomatch h), fun _ => ⟨rfl, rfl⟩, fun h => absurd rfl h⟩


/-- 'string(b)': the text of bytes, in any world in which they read so. -/
def str (l : List Nat) : ByteArray := strOfNums (l.map (fun (n : Nat) => (n : Int)))
theorem str_back {l : List Nat} (hl : Bytes l) : (str l).data.toList.map (fun u => u.toNat) = l := by
  unfold str
  rw [strOfNums_data, List.map_map, List.map_map]
  conv => rhs; rw [← List.map_id l]
  apply List.map_congr_left
  intro x hx
  have := hl x hx
  simp
  omega
theorem str_inj {l m : List Nat} (hl : Bytes l) (hm : Bytes m) (h : str l = str m) : l = m := by
  rw [← str_back hl, ← str_back hm, h]
theorem str_size (l : List Nat) : (str l).size = l.length := by unfold str; rw [strOfNums_size, List.length_map]
theorem text_is {B : Nat} (w : World) (a : Option Addr) (len cap : Nat) (l : List Nat) (hr : Rd B w a len cap l) :
    (convert 22 9 (.slice a len cap)).run Try.prog w = .ok (.string (str l)) w := by
  obtain ⟨rfl, hf, hm, hby, hn, hc⟩ := hr
  unfold str
  rcases Nat.eq_zero_or_pos l.length with h0 | h0
  · have hl : l = [] := List.eq_nil_of_length_eq_zero h0
    subst hl
    cases a with
    | none => exact run_convert_bytes_nil w 22 5 Try.underlying22 Try.underlying5 0 cap 9 Try.underlying9
    | some x => exact run_convert_bytes_back w 22 9 5 x cap [] Try.underlying22 Try.underlying5 Try.underlying9 (fun j hj => nomatch hj)
  · obtain ⟨b, off, rfl, hB, hcc⟩ := hc (by intro e; subst e; simp at h0)
    refine run_convert_bytes_arg w 22 5 Try.underlying22 Try.underlying5 b off l.length cap _ (by simp) (fun i hi => ?_) 9 Try.underlying9
    rw [hcc i hi]
    simp [List.getD, hi]

theorem Rd.take {B : Nat} {w : World} {a : Option Addr} {len cap : Nat} {l : List Nat} (h : Rd B w a len cap l) (n : Nat) (hn : n ≤ len) : Rd B w a n cap (l.take n) := by
  have hl := h.long
  have hf := h.fits
  refine ⟨by rw [List.length_take]; omega, by rw [List.length_take]; omega, h.small, fun x hx => h.byt x (List.mem_of_mem_take hx), fun ha => ?_, fun hne => ?_⟩
  · have := h.nil ha; omega
  · obtain ⟨b, off, ha, hB, hc⟩ := h.cells (by intro e; subst e; simp at hne)
    refine ⟨b, off, ha, hB, fun i hi => ?_⟩
    rw [List.length_take] at hi
    rw [hc i (by omega)]
    simp [List.getD, show i < n by omega]

/-- A slice of the call's own that owns just the bytes l. -/
def Own (w : World) (base : Nat) (v : Value) (l : List Nat) : Prop := w.ownsRow base 5 1 v l.length (l.map fun (n : Nat) => Value.int .u8 (n : Int))

theorem byte_info : (Try.prog.info? 5).map (fun i => (i.zero, i.size, i.bytes)) = some (some (.int .u8 0), 1, 1) := by kernel_rfl

/-- append of bytes onto a slice of the call's own, wherever they come from. -/
theorem append_bytes (w : World) (base : Nat) (v : Value) (l : List Nat) (hown : Own w base v l) (B : Nat) (a : Option Addr) (len cap : Nat) (m : List Nat) (hr : Rd B w a len cap m)
    (hsum : l.length + m.length ≤ 1000000) (hbase : base ≤ w.heap.size) :
    ∃ v' w', (Builtin.append_ #[22, 22] 22 #[v, .slice a len cap]).run Try.prog w = .ok v' w' ∧ Own w' base v' (l ++ m) ∧ w.grownBy w' v.ownBlock ∧ (v'.ownBlock = v.ownBlock ∨ v'.ownBlock = some w.heap.size) := by
  obtain ⟨i, hi, hz0, hz1, hz2⟩ := info_parts byte_info
  obtain ⟨rfl, hf, hm, hby, hn, hc⟩ := hr
  unfold Own at hown ⊢
  cases a with
  | none =>
    obtain ⟨h0, rfl⟩ := hn rfl
    have hl : m = [] := List.eq_nil_of_length_eq_zero h0
    subst hl
    refine ⟨v, w, ?_, by simpa using hown, World.grownBy.refl w _, .inl rfl⟩
    rcases hown.2 with ⟨rfl, h0⟩ | ⟨g, cp, cur, rfl, _, _, hnc, _⟩
    · simp [Builtin.append_, run_underlying Try.underlying22, sizeOf, typeInfo, hi, Builtin.lenOf, Builtin.firstCells]
    · simp [Builtin.append_, run_underlying Try.underlying22, sizeOf, typeInfo, hi, Builtin.lenOf, Builtin.firstCells, hnc, storeCells]
  | some x =>
    obtain ⟨v', w', h1, h2, h3, _, h5⟩ := run_append_own_at (P := Try.prog) w base 22 22 5 i (.int .u8 0) 1 1 Try.underlying22 hi hz0 hz1 hz2 rfl (by decide) v l.length _ hown x m.length cap (m.map fun (n : Nat) => Value.int .u8 (n : Int)) (by simp)
      (by
        intro j u hj
        have hjl : j < m.length := by
          rcases Nat.lt_or_ge j m.length with h | h
          · exact h
          · rw [List.getElem?_eq_none (by simpa using h)] at hj; cases hj
        obtain ⟨b, off, hx, hB, hcc⟩ := hc (by intro e; subst e; simp at hjl)
        obtain rfl := Option.some.inj hx
        have ea : (⟨b, off, none⟩ : Addr).add j = ⟨b, off + j, none⟩ := by unfold Addr.add; split <;> simp_all
        rw [ea, hcc j hjl]
        simp [hjl] at hj
        rw [← hj]
        simp [List.getD, hjl])
      (by
        intro u hu
        simp at hu
        obtain ⟨n, _, rfl⟩ := hu
        rfl)
      (by unfold maxLen; omega) (by omega) hbase
    refine ⟨v', w', h1, ?_, h3, h5⟩
    simpa using h2

theorem Own.rd {w : World} {base : Nat} {v : Value} {l : List Nat} (h : Own w base v l) (hb : Bytes l) : ∃ a cap, v = .slice a l.length cap ∧ Rd w.heap.size w a l.length cap l := by
  rcases h.2 with ⟨rfl, h0⟩ | ⟨g, cap, cur, rfl, hg, hh, hnc, hcm, hcs, htk⟩
  · have hl : l = [] := List.eq_nil_of_length_eq_zero h0
    subst hl
    exact ⟨none, 0, rfl, rd_nil _ _⟩
  · refine ⟨_, cap, rfl, ⟨rfl, hnc, hcm, hb, (fun h => nomatch h), fun hne => ⟨g, 0, rfl, ?_, fun i hi => ?_⟩⟩⟩
    · rcases Nat.lt_or_ge g w.heap.size with hlt | hge
      · exact hlt
      · rw [Array.getElem?_eq_none hge] at hh; cases hh
    · have hcell : w.cell? ⟨g, 0 + i, none⟩ = cur[0 + i]? := by simp [World.cell?, hh]
      rw [hcell, ← Array.getElem?_toList, Nat.zero_add]
      have : cur.toList[i]? = (cur.toList.take (l.length * 1))[i]? := by rw [List.getElem?_take, if_pos (by omega)]
      rw [this, htk]
      simp [List.getD, hi]

theorem own_nil (w : World) (base : Nat) : Own w base (.slice none 0 0) [] := World.ownsRow_nil _ _ _ _

/-- A walk's step at an append whose run is known. -/
theorem wpList_append_run {P : Program} {ops : Array Oper} {rest : List Oper} {o : Oper} {a : Act} {Q : Exit → Act → World → Prop} {w w' : World} {v' : Value} (hgd : o.guard = none) (s x : Operand) (t1 t2 : TypeId)
    (ho : o.op = .call { callee := .builtin .append, args := #[s, x], argTypes := #[t1, t2] }) (hrun : (Builtin.append_ #[t1, t2] o.type #[a.eval s, a.eval x]).run P w = .ok v' w')
    (h : wpList P ops Q rest (a.put o.dst v') w') : wpList P ops Q (o :: rest) a w := by
  refine wpList_plain hgd fun K hK => ?_
  unfold Oper.wp execOp
  simp only [ho, resolve, invoke, builtin, Sem.run_bind, Sem.run_pure, Result.andThen_ok, List.map_toArray, List.map_cons, List.map_nil, hrun]
  exact hK _ _ h



theorem one_bv (l : List Nat) : ∀ v ∈ l.map bv, v.oneCell' = true := by
  intro v hv
  obtain ⟨n, _, rfl⟩ := List.mem_map.1 hv
  rfl
theorem Rd.cellAt {B : Nat} {w : World} {a : Addr} {len cap : Nat} {l : List Nat} (h : Rd B w (some a) len cap l) (j : Nat) (v : Value) (hj : (l.map bv)[j]? = some v) : w.cell? (a.add j) = some v := by
  have hjl : j < l.length := by
    rcases Nat.lt_or_ge j l.length with h | h
    · exact h
    · rw [List.getElem?_eq_none (by simpa using h)] at hj; cases hj
  obtain ⟨b, off, hx, hB, hcc⟩ := h.cells (by intro e; subst e; simp at hjl)
  obtain rfl := Option.some.inj hx
  have ea : (⟨b, off, none⟩ : Addr).add j = ⟨b, off + j, none⟩ := by unfold Addr.add; split <;> simp_all
  rw [ea, hcc j hjl]
  simp [hjl] at hj
  rw [← hj]
  simp [List.getD, hjl, bv]


/-- A row of bytes that fills a block of memory, from its head on; it may be written. -/
def Blk (w : World) (g : Nat) (l : List Nat) : Prop := ∃ t, w.heap[g]? = some (.cells (l.map bv).toArray t (0, 0))
theorem Blk.lt {w : World} {g : Nat} {l : List Nat} (h : Blk w g l) : g < w.heap.size := by
  obtain ⟨t, h⟩ := h
  rcases Nat.lt_or_ge g w.heap.size with hlt | hge
  · exact hlt
  · rw [Array.getElem?_eq_none hge] at h; cases h
theorem Blk.rd {w : World} {g n : Nat} {l : List Nat} (h : Blk w g l) (hl : l.length = n) (hb : Bytes l) (hn : n ≤ maxLen := by unfold maxLen; decide) : Rd w.heap.size w (some ⟨g, 0, none⟩) n n l := by
  have hlt := h.lt
  obtain ⟨t, h⟩ := h
  refine ⟨hl.symm, by omega, hn, hb, (fun h => nomatch h), fun _ => ⟨g, 0, rfl, hlt, fun i hi => ?_⟩⟩
  rw [cell_of_row w g _ _ _ _ h]
  simp [List.getD, hi, bv]
theorem Blk.alloc (w : World) (l : List Nat) (t : TypeId) : Blk (w.alloc (.cells (l.map bv).toArray t)) w.heap.size l := ⟨t, heap_alloc_new _ _⟩
theorem Blk.set {w : World} {g : Nat} {l : List Nat} (h : Blk w g l) (i n : Nat) : Blk (w.setCell ⟨g, i, none⟩ (.int .u8 (n : Int))) g (l.set i n) := by
  obtain ⟨t, h⟩ := h
  refine ⟨t, ?_⟩
  rw [heap_setCell_same w g i _ _ _ h]
  simp [bv]
theorem Blk.cell {w : World} {g : Nat} {l : List Nat} (h : Blk w g l) (i : Nat) (hi : i < l.length) : w.cell? ⟨g, i, none⟩ = some (.int .u8 ((l.getD i 0 : Nat) : Int)) := by
  obtain ⟨t, h⟩ := h
  rw [cell_of_row w g _ _ _ _ h]
  simp [List.getD, hi, bv]
theorem Blk.frozen {w : World} {g : Nat} {l : List Nat} (h : Blk w g l) (i : Nat) : w.frozen? ⟨g, i, none⟩ = false := by
  obtain ⟨t, h⟩ := h
  exact frozen_of_row w g i _ _ h
theorem Blk.below {B : Nat} {w w' : World} {g : Nat} {l : List Nat} (h : Blk w g l) (hb : Below B w w') (hg : g < B) : Blk w' g l := by
  obtain ⟨t, h⟩ := h
  exact ⟨t, by rw [hb.block g hg, h]⟩
theorem Blk.drew {w : World} {g : Nat} {l : List Nat} (h : Blk w g l) : Blk w.drew g l := h
theorem Blk.drewN {w : World} {g : Nat} {l : List Nat} (h : Blk w g l) (n : Nat) : Blk (w.drewN n) g l := by
  obtain ⟨t, h⟩ := h
  exact ⟨t, by simpa using h⟩
theorem Rd.drewN {B : Nat} {w : World} {a : Option Addr} {len cap : Nat} {l : List Nat} (h : Rd B w a len cap l) (n : Nat) : Rd B (w.drewN n) a len cap l :=
  h.below (below_drewN (Below.refl _ _) n)
theorem byte_of (n : Nat) : IntKind.u8.wrap (n : Int) = ((n % 256 : Nat) : Int) := by
  rw [IntKind.wrap_u8']; omega

/-- 'make([]byte, n)': a new row of noughts. -/
theorem made_bytes (n : Nat) : madeCells (Value.int IntKind.u8 0).cells (n * 1) = ((List.replicate n 0).map bv).toArray := by
  apply Array.toList_inj.1
  have hc : (Value.int IntKind.u8 0).cells = #[Value.int IntKind.u8 0] := rfl
  simp only [madeCells, hc]
  apply List.ext_getElem
  · simp
  · intro i h1 h2
    simp [Nat.mod_one, bv]
theorem run_make_bytes (w : World) (n : Nat) (hn : n ≤ 281474976710656) :
    (Instr.makeSlice 22 (.int .i64 n) (.int .i64 n)).run Try.prog w = .ok (.slice (some ⟨w.heap.size, 0, none⟩) n n) (w.alloc (.cells ((List.replicate n 0).map bv).toArray 5)) := by
  obtain ⟨i, hi, hz0, hz1, hz2⟩ := info_parts byte_info
  have := run_make (P := Try.prog) w 22 5 i (.int .u8 0) Try.underlying22 hi hz0 .i64 .i64 n n (by omega) (Int.le_refl _) (by rw [hz2]; omega) (by omega)
  rw [hz1] at this
  simp only [Int.toNat_natCast] at this
  rw [this, made_bytes]
theorem make128' : ∃ Z : List Nat, Hid (Z = List.replicate 128 0) ∧ Hid (Z.length = 128) ∧ (∀ w : World, (Instr.makeSlice 22 (.int .i64 128) (.int .i64 128)).run Try.prog w = .ok (.slice (some ⟨w.heap.size, 0, none⟩) 128 128) (w.alloc (.cells (Z.map bv).toArray 5))) :=
  ⟨_, rfl, by show _ = _; simp, fun w => run_make_bytes w 128 (by decide)⟩

/-! Bits of two ints that are not below nought. -/
theorem ofInt64 (a : Nat) (ha : a < 18446744073709551616) : (BitVec.ofInt 64 (a : Int)).toNat = a := by
  rw [BitVec.ofInt_natCast, BitVec.toNat_ofNat]; exact Nat.mod_eq_of_lt (by omega)
theorem or64 (a b : Nat) (ha : a < 2 ^ 63) (hb : b < 2 ^ 63) : bits .or .i64 (a : Int) (b : Int) = ((a ||| b : Nat) : Int) := by
  have hx : a ||| b < 2 ^ 63 := Nat.or_lt_two_pow ha hb
  show IntKind.i64.wrap ((BitVec.ofInt 64 (a : Int) ||| BitVec.ofInt 64 (b : Int)).toNat : Int) = _
  rw [BitVec.toNat_or, ofInt64 a (by omega), ofInt64 b (by omega)]; exact IntWalk.i64_in _ (by omega)
theorem and64 (a b : Nat) (ha : a < 2 ^ 63) (hb : b < 2 ^ 63) : bits .and .i64 (a : Int) (b : Int) = ((a &&& b : Nat) : Int) := by
  have hx : a &&& b < 2 ^ 63 := Nat.and_lt_two_pow _ hb
  show IntKind.i64.wrap ((BitVec.ofInt 64 (a : Int) &&& BitVec.ofInt 64 (b : Int)).toNat : Int) = _
  rw [BitVec.toNat_and, ofInt64 a (by omega), ofInt64 b (by omega)]; exact IntWalk.i64_in _ (by omega)
theorem xor64 (a b : Nat) (ha : a < 2 ^ 63) (hb : b < 2 ^ 63) : bits .xor .i64 (a : Int) (b : Int) = ((a ^^^ b : Nat) : Int) := by
  have hx : a ^^^ b < 2 ^ 63 := Nat.xor_lt_two_pow ha hb
  show IntKind.i64.wrap ((BitVec.ofInt 64 (a : Int) ^^^ BitVec.ofInt 64 (b : Int)).toNat : Int) = _
  rw [BitVec.toNat_xor, ofInt64 a (by omega), ofInt64 b (by omega)]; exact IntWalk.i64_in _ (by omega)
end Go.Proofs.Ytjdcnajppjamgaa.PW

namespace Go.Proofs.Ytjdcnajppjamgaa.PW
open Go.RowKit
set_option linter.unusedVariables false
set_option maxRecDepth 100000

/-- What a call answers that hands back a new block. -/
def NewBlk (w : World) (m : List Nat) (e : Ending) (w' : World) : Prop :=
  ∃ g, e = .returned (.tuple #[.slice (some ⟨g, 0, none⟩) 128 128, .int .i64 0]) ∧ w.heap.size ≤ g ∧ Blk w' g m ∧ Below w.heap.size w w'

end Go.Proofs.Ytjdcnajppjamgaa.PW

namespace Go.Proofs.Ytjdcnajppjamgaa.PW
open Go.RowKit
set_option linter.unusedVariables false
set_option maxRecDepth 100000

/-- Block g holds just these cells. -/
def Bx (w : World) (g : Nat) (cs : List Value) : Prop := ∃ t, w.heap[g]? = some (.cells cs.toArray t (0, 0))
theorem Bx.new (w : World) (cs : List Value) (t : TypeId) : Bx (w.alloc (.cells cs.toArray t)) w.heap.size cs := ⟨t, heap_alloc_new _ _⟩
theorem Bx.lt {w : World} {g : Nat} {cs : List Value} (h : Bx w g cs) : g < w.heap.size := by
  obtain ⟨t, h⟩ := h
  rcases Nat.lt_or_ge g w.heap.size with hlt | hge
  · exact hlt
  · rw [Array.getElem?_eq_none hge] at h; cases h
theorem Bx.cell {w : World} {g : Nat} {cs : List Value} (h : Bx w g cs) (i : Nat) : w.cell? ⟨g, i, none⟩ = cs[i]? := by
  obtain ⟨t, h⟩ := h
  rw [cell_of_row w g _ _ _ _ h]
  simp
theorem Bx.frozen {w : World} {g : Nat} {cs : List Value} (h : Bx w g cs) (i : Nat) : w.frozen? ⟨g, i, none⟩ = false := by
  obtain ⟨t, h⟩ := h
  exact frozen_of_row w g i _ _ h
theorem Bx.below {B : Nat} {w w' : World} {g : Nat} {cs : List Value} (h : Bx w g cs) (hb : Below B w w') (hg : g < B) : Bx w' g cs := by
  obtain ⟨t, h⟩ := h
  exact ⟨t, by rw [hb.block g hg, h]⟩
theorem Bx.here {w w' : World} {g : Nat} {cs : List Value} (h : Bx w g cs) (hb : Below w.heap.size w w') : Bx w' g cs := h.below hb h.lt
theorem Bx.alloc {w : World} {g : Nat} {cs : List Value} (h : Bx w g cs) (o : Obj) : Bx (w.alloc o) g cs := h.below ((Below.refl w.heap.size w).alloc (Nat.le_refl _) o) h.lt
theorem Bx.drew {w : World} {g : Nat} {cs : List Value} (h : Bx w g cs) : Bx w.drew g cs := h
theorem Bx.set {w : World} {g : Nat} {cs : List Value} (h : Bx w g cs) (i : Nat) (v : Value) : Bx (w.setCell ⟨g, i, none⟩ v) g (cs.set i v) := by
  obtain ⟨t, h⟩ := h
  refine ⟨t, ?_⟩
  rw [heap_setCell_same w g i _ _ _ h]
  simp
theorem Bx.other {w : World} {g : Nat} {cs : List Value} (h : Bx w g cs) (p : Addr) (hp : p.block ≠ g) (v : Value) : Bx (w.setCell p v) g cs := by
  obtain ⟨t, h⟩ := h
  exact ⟨t, by rw [Below.heap_setCell _ _ _ _ (fun e => hp e.symm)]; exact h⟩
theorem Bx.grown {w w' : World} {g : Nat} {cs : List Value} {row : Option Nat} (h : Bx w g cs) (hg : w.grownBy w' row) (hne : row ≠ some g) : Bx w' g cs := by
  have hlt := h.lt
  obtain ⟨t, h⟩ := h
  exact ⟨t, by rw [hg.block g hlt (fun e => hne e.symm), h]⟩
/-- A struct of three fields: what its cells hold. -/
theorem Bx.three {w : World} {g : Nat} {x y z : Value} (h : Bx w g [x, y, z]) : w.cell? ⟨g, 0, none⟩ = some x ∧ w.cell? ⟨g, 1, none⟩ = some y ∧ w.cell? ⟨g, 2, none⟩ = some z := ⟨h.cell 0, h.cell 1, h.cell 2⟩
theorem Bx.two {w : World} {g : Nat} {x y : Value} (h : Bx w g [x, y]) : w.cell? ⟨g, 0, none⟩ = some x ∧ w.cell? ⟨g, 1, none⟩ = some y := ⟨h.cell 0, h.cell 1⟩
theorem Bx.one {w : World} {g : Nat} {x : Value} (h : Bx w g [x]) : w.cell? ⟨g, 0, none⟩ = some x := h.cell 0
end Go.Proofs.Ytjdcnajppjamgaa.PW

namespace Go.Proofs.Ytjdcnajppjamgaa.PW
open Go.RowKit
set_option linter.unusedVariables false
set_option maxRecDepth 100000

/-- One slice of bytes: where it lies, and what it reads as. -/
structure Hd where
  a : Option Addr
  len : Nat
  cap : Nat
  l : List Nat
def Hd.nil : Hd := ⟨none, 0, 0, []⟩
instance : Inhabited Hd := ⟨Hd.nil⟩
def Hd.val (h : Hd) : Value := .slice h.a h.len h.cap
def Hd.Rd (h : Hd) (B : Nat) (w : World) : Prop := PW.Rd B w h.a h.len h.cap h.l
def lists (H : List Hd) : List (List Nat) := H.map (·.l)

/-- A slice of slices of bytes that reads as the list H in the world w, in blocks below B. -/
structure Rds (B : Nat) (w : World) (a : Option Addr) (len cap : Nat) (H : List Hd) : Prop where
  long : len = H.length
  fits : H.length ≤ cap
  small : cap ≤ maxLen
  nil : a = none → len = 0 ∧ cap = 0
  cells : H ≠ [] → ∃ b off, a = some ⟨b, off, none⟩ ∧ b < B ∧ ∀ i, i < H.length → w.cell? ⟨b, off + i, none⟩ = some (H.getD i Hd.nil).val
  each : ∀ h ∈ H, h.Rd B w

theorem Rds.below {B : Nat} {w w' : World} {a : Option Addr} {len cap : Nat} {H : List Hd} (h : Rds B w a len cap H) (hb : Below B w w') : Rds B w' a len cap H :=
  ⟨h.long, h.fits, h.small, h.nil, fun hl => (by
    obtain ⟨b, off, ha, hB, hc⟩ := h.cells hl
    exact ⟨b, off, ha, hB, fun i hi => by rw [hb.cell (p := ⟨b, off + i, none⟩) hB]; exact hc i hi⟩), fun x hx => (h.each x hx).below hb⟩
theorem Rds.mono {B B' : Nat} {w : World} {a : Option Addr} {len cap : Nat} {H : List Hd} (h : Rds B w a len cap H) (hB : B ≤ B') : Rds B' w a len cap H :=
  ⟨h.long, h.fits, h.small, h.nil, fun hl => (by
    obtain ⟨b, off, ha, hb, hc⟩ := h.cells hl
    exact ⟨b, off, ha, by omega, hc⟩), fun x hx => (h.each x hx).mono hB⟩
theorem Rds.drewN {B : Nat} {w : World} {a : Option Addr} {len cap : Nat} {H : List Hd} (h : Rds B w a len cap H) (n : Nat) : Rds B (w.drewN n) a len cap H :=
  h.below (below_drewN (Below.refl _ _) n)
theorem Rds.here {w w' : World} {a : Option Addr} {len cap : Nat} {H : List Hd} (h : Rds w.heap.size w a len cap H) (hb : Below w.heap.size w w') : Rds w'.heap.size w' a len cap H :=
  (h.below hb).mono hb.size
theorem Rd.here {w w' : World} {a : Option Addr} {len cap : Nat} {l : List Nat} (h : Rd w.heap.size w a len cap l) (hb : Below w.heap.size w w') : Rd w'.heap.size w' a len cap l :=
  (h.below hb).mono hb.size
theorem rds_nil (B : Nat) (w : World) : Rds B w none 0 0 [] :=
  ⟨rfl, Nat.le_refl _, (by unfold maxLen; decide), fun _ => ⟨rfl, rfl⟩, fun h => absurd rfl h, fun _ h => nomatch h⟩

theorem mem_getD {α : Type} {L : List α} {d : α} {k : Nat} (h : k < L.length) : L.getD k d ∈ L := by
  simp only [List.getD, List.getElem?_eq_getElem h, Option.getD_some]; exact List.getElem_mem _
theorem lists_getD (H : List Hd) (k : Nat) : (lists H).getD k [] = (H.getD k Hd.nil).l := by
  unfold lists
  simp only [List.getD, List.getElem?_map]
  cases H[k]? <;> rfl
theorem lists_length (H : List Hd) : (lists H).length = H.length := by simp [lists]
theorem lists_append (H K : List Hd) : lists (H ++ K) = lists H ++ lists K := by simp [lists]
theorem lists_take (H : List Hd) (k : Nat) : lists (H.take k) = (lists H).take k := by simp [lists, List.map_take]
theorem lists_drop (H : List Hd) (k : Nat) : lists (H.drop k) = (lists H).drop k := by simp [lists, List.map_drop]
theorem lists_set (H : List Hd) (k : Nat) (x : Hd) : lists (H.set k x) = (lists H).set k x.l := by simp [lists, List.map_set]
theorem Rds.bytes {B : Nat} {w : World} {a : Option Addr} {len cap : Nat} {H : List Hd} (h : Rds B w a len cap H) : ∀ l ∈ lists H, ∀ x ∈ l, x < 256 := by
  intro l hl
  obtain ⟨x, hx, rfl⟩ := List.mem_map.1 hl
  exact (h.each x hx).byt

/-- One of a list. -/
theorem Rds.at {B : Nat} {w : World} {a : Option Addr} {len cap : Nat} {H : List Hd} (h : Rds B w a len cap H) (k : Nat) (hk : k < H.length) :
    ∃ b off xa xlen xcap xl, a = some ⟨b, off, none⟩ ∧ b < B ∧ H.getD k Hd.nil = ⟨xa, xlen, xcap, xl⟩ ∧ w.cell? ⟨b, off + k, none⟩ = some (.slice xa xlen xcap) ∧ Rd B w xa xlen xcap xl := by
  obtain ⟨b, off, ha, hB, hc⟩ := h.cells (by intro e; subst e; simp at hk)
  exact ⟨b, off, _, _, _, _, ha, hB, rfl, hc k hk, h.each _ (mem_getD hk)⟩

/-- Slices that are laid in a new block. -/
theorem rds_lit (w w' : World) (H : List Hd) (A : Array Value) (len cap : Nat) (fr : Nat × Nat) (hw : w' = w.alloc (.cells A 22 fr)) (h1 : len = H.length) (h2 : cap = H.length) (hA : A = (H.map Hd.val).toArray) (hm : H.length ≤ maxLen) (each : ∀ h ∈ H, h.Rd w.heap.size w) :
    Rds w'.heap.size w' (some ⟨w.heap.size, 0, none⟩) len cap H := by
  subst hw h1 h2 hA
  refine ⟨rfl, Nat.le_refl _, hm, (fun h => nomatch h), fun _ => ⟨w.heap.size, 0, rfl, by simp, fun i hi => ?_⟩, fun x hx => ?_⟩
  · rw [World.cell?_alloc_mark]
    simp [hi, List.getD]
  · exact ((each x hx).below ((Below.refl _ _).alloc (Nat.le_refl _) _)).mono (by simp)

/-- A slice of the call's own that owns just the slices H. -/
def OwnS (w : World) (base : Nat) (v : Value) (H : List Hd) : Prop := w.ownsRow base 22 1 v H.length (H.map Hd.val)

theorem slice_info : (Try.prog.info? 22).map (fun i => (i.zero, i.size, i.bytes)) = some (some (.slice none 0 0), 1, 24) := by kernel_rfl
theorem owns_nil (w : World) (base : Nat) : OwnS w base (.slice none 0 0) [] := World.ownsRow_nil _ _ _ _

theorem OwnS.rds {w : World} {base : Nat} {v : Value} {H : List Hd} (h : OwnS w base v H) (each : ∀ x ∈ H, x.Rd w.heap.size w) : ∃ a cap, v = .slice a H.length cap ∧ Rds w.heap.size w a H.length cap H := by
  rcases h.2 with ⟨rfl, h0⟩ | ⟨g, cap, cur, rfl, hg, hh, hnc, hcm, hcs, htk⟩
  · have hl : H = [] := List.eq_nil_of_length_eq_zero h0
    subst hl
    exact ⟨none, 0, rfl, rds_nil _ _⟩
  · refine ⟨_, cap, rfl, ⟨rfl, hnc, hcm, (fun h => nomatch h), fun hne => ⟨g, 0, rfl, ?_, fun i hi => ?_⟩, each⟩⟩
    · rcases Nat.lt_or_ge g w.heap.size with hlt | hge
      · exact hlt
      · rw [Array.getElem?_eq_none hge] at hh; cases hh
    · have hcell : w.cell? ⟨g, 0 + i, none⟩ = cur[0 + i]? := by simp [World.cell?, hh]
      rw [hcell, ← Array.getElem?_toList, Nat.zero_add]
      have : cur.toList[i]? = (cur.toList.take (H.length * 1))[i]? := by rw [List.getElem?_take, if_pos (by omega)]
      rw [this, htk]
      simp [List.getD, hi]

/-- The form of a slice of the call's own that is not empty. -/
theorem OwnS.form {w : World} {base : Nat} {v : Value} {H : List Hd} (h : OwnS w base v H) (hne : 0 < H.length) : ∃ g cap, v = .slice (some ⟨g, 0, none⟩) H.length cap ∧ base ≤ g ∧ g < w.heap.size ∧ H.length ≤ cap ∧ cap ≤ maxLen := by
  rcases h.2 with ⟨rfl, h0⟩ | ⟨g, cap, cur, rfl, hg, hh, hnc, hcm, hcs, htk⟩
  · omega
  · refine ⟨g, cap, rfl, hg, ?_, hnc, hcm⟩
    rcases Nat.lt_or_ge g w.heap.size with hlt | hge
    · exact hlt
    · rw [Array.getElem?_eq_none hge] at hh; cases hh
theorem Own.form {w : World} {base : Nat} {v : Value} {l : List Nat} (h : Own w base v l) (hne : 0 < l.length) : ∃ g cap, v = .slice (some ⟨g, 0, none⟩) l.length cap ∧ base ≤ g ∧ g < w.heap.size ∧ l.length ≤ cap ∧ cap ≤ maxLen := by
  rcases h.2 with ⟨rfl, h0⟩ | ⟨g, cap, cur, rfl, hg, hh, hnc, hcm, hcs, htk⟩
  · omega
  · refine ⟨g, cap, rfl, hg, ?_, hnc, hcm⟩
    rcases Nat.lt_or_ge g w.heap.size with hlt | hge
    · exact hlt
    · rw [Array.getElem?_eq_none hge] at hh; cases hh

theorem OwnS.stored {w : World} {base g cap n : Nat} {H : List Hd} (hn : n = H.length) (h : OwnS w base (.slice (some ⟨g, 0, none⟩) n cap) H) (i : Nat) (x : Hd) :
    OwnS (w.setCell ⟨g, i, none⟩ x.val) base (.slice (some ⟨g, 0, none⟩) n cap) (H.set i x) := by
  subst hn
  unfold OwnS at h ⊢
  rw [List.map_set, List.length_set]
  exact (World.ownsRow.stored h i x.val).1
theorem Own.stored {w : World} {base g cap n : Nat} {l : List Nat} (hn : n = l.length) (h : Own w base (.slice (some ⟨g, 0, none⟩) n cap) l) (i x : Nat) :
    Own (w.setCell ⟨g, i, none⟩ (.int .u8 (x : Int))) base (.slice (some ⟨g, 0, none⟩) n cap) (l.set i x) := by
  subst hn
  unfold Own at h ⊢
  rw [List.map_set, List.length_set]
  exact (World.ownsRow.stored h i (.int .u8 (x : Int))).1

theorem OwnS.alloc {w : World} {base : Nat} {v : Value} {H : List Hd} (h : OwnS w base v H) (o : Obj) : OwnS (w.alloc o) base v H := World.ownsRow.alloc h o
theorem OwnS.grown {w w' : World} {base : Nat} {v : Value} {H : List Hd} (h : OwnS w base v H) (hg : Below w.heap.size w w') : OwnS w' base v H := by
  rcases h.2 with ⟨rfl, h0⟩ | ⟨g, cap, cur, rfl, hgb, hh, rest⟩
  · exact ⟨h.1, .inl ⟨rfl, h0⟩⟩
  · refine ⟨h.1, .inr ⟨g, cap, cur, rfl, hgb, ?_, rest⟩⟩
    have hlt : g < w.heap.size := by
      rcases Nat.lt_or_ge g w.heap.size with hlt | hge
      · exact hlt
      · rw [Array.getElem?_eq_none hge] at hh; cases hh
    rw [hg.block g hlt, hh]
theorem OwnS.cell {w : World} {base g cap n : Nat} {H : List Hd} (hn : n = H.length) (h : OwnS w base (.slice (some ⟨g, 0, none⟩) n cap) H) (i : Nat) (hi : i < H.length) : w.cell? ⟨g, i, none⟩ = some (H.getD i Hd.nil).val := by
  subst hn
  rw [World.ownsRow.cellAt h i (by omega), List.getElem?_map, List.getElem?_eq_getElem hi]
  simp [List.getD, hi]
theorem OwnS.frozen {w : World} {base g cap n : Nat} {H : List Hd} (hn : n = H.length) (h : OwnS w base (.slice (some ⟨g, 0, none⟩) n cap) H) (i : Nat) : w.frozen? ⟨g, i, none⟩ = false := by
  subst hn
  exact World.ownsRow.frozenAt h i
theorem Own.cell {w : World} {base g cap n : Nat} {l : List Nat} (hn : n = l.length) (h : Own w base (.slice (some ⟨g, 0, none⟩) n cap) l) (i : Nat) (hi : i < l.length) : w.cell? ⟨g, i, none⟩ = some (.int .u8 ((l.getD i 0 : Nat) : Int)) := by
  subst hn
  rw [World.ownsRow.cellAt h i (by omega), List.getElem?_map, List.getElem?_eq_getElem hi]
  simp [List.getD, hi]
theorem Own.frozen {w : World} {base g cap n : Nat} {l : List Nat} (hn : n = l.length) (h : Own w base (.slice (some ⟨g, 0, none⟩) n cap) l) (i : Nat) : w.frozen? ⟨g, i, none⟩ = false := by
  subst hn
  exact World.ownsRow.frozenAt h i
theorem OwnS.drew {w : World} {base : Nat} {v : Value} {H : List Hd} (h : OwnS w base v H) : OwnS w.drew base v H := World.ownsRow.drew h
theorem Own.drew {w : World} {base : Nat} {v : Value} {l : List Nat} (h : Own w base v l) : Own w.drew base v l := World.ownsRow.drew h
end Go.Proofs.Ytjdcnajppjamgaa.PW
