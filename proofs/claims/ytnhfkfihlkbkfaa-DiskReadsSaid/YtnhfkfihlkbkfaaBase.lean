/-
  What every layer's walks share: slices of bytes that came in, read as numbers; slices that the call made; one array of 128 bytes by value. Nothing here names a function of the program.
-/
import Derived.Test.YtnhfkfihlkbkfaaRows
import Derived.WalkKit
import Derived.WalkLawsBesides
import Derived.WalkSpells
import Derived.OpenShut
import Derived.Lib.Hide
import Derived.Lib.SlBytesConst
import Derived.OwnWalk
import Derived.Maps.AppendAt
import Derived.Deep.WholeRow
import Derived.Laws.ResultCell
import Derived.Laws.CopyOwn
import Derived.IntWalk
import Derived.WalkSmall
import Derived.Laws.MakeOwn
namespace Go.Proofs.Ytnhfkfihlkbkfaa.PW
open Go.RowKit
set_option linter.unusedVariables false
set_option maxRecDepth 100000

/-- Numbers that are bytes. -/
def Bytes (l : List Nat) : Prop := ∀ x ∈ l, x < 256
def bv (n : Nat) : Value := .int .u8 (n : Int)

/-- A slice of bytes that reads as l in the world w, in a block below B. -/
structure Rd (B : Nat) (w : World) (a : Option Addr) (len cap : Nat) (l : List Nat) : Prop where
  long : len = l.length
  fits : l.length ≤ cap
  small : cap ≤ maxLen
  byt : Bytes l
  nil : a = none → len = 0 ∧ cap = 0
  cells : l ≠ [] → ∃ b off, a = some ⟨b, off, none⟩ ∧ b < B ∧ ∀ i, i < l.length → w.cell? ⟨b, off + i, none⟩ = some (.int .u8 ((l.getD i 0 : Nat) : Int))

theorem Rd.below {B : Nat} {w w' : World} {a : Option Addr} {len cap : Nat} {l : List Nat} (h : Rd B w a len cap l) (hb : Below B w w') : Rd B w' a len cap l :=
  ⟨h.long, h.fits, h.small, h.byt, h.nil, fun hl => (by
    obtain ⟨b, off, ha, hB, hc⟩ := h.cells hl
    exact ⟨b, off, ha, hB, fun i hi => by rw [hb.cell (p := ⟨b, off + i, none⟩) hB]; exact hc i hi⟩)⟩


/-- Bytes that are laid in a new block read as they are. -/
theorem rd_lit (w : World) (C : List Nat) (A : Array Value) (len cap : Nat) (fr : Nat × Nat) (h1 : len = C.length) (h2 : cap = C.length) (hA : A = (C.map (fun (n : Nat) => Value.int .u8 (n : Int))).toArray) (hb : Bytes C) (hm : C.length ≤ maxLen) :
    Rd (w.alloc (.cells A 5 fr)).heap.size (w.alloc (.cells A 5 fr)) (some ⟨w.heap.size, 0, none⟩) len cap C := by
  subst h1 h2 hA
  refine ⟨rfl, Nat.le_refl _, hm, hb, (fun h => nomatch h), fun _ => ⟨w.heap.size, 0, rfl, by simp, fun i hi => ?_⟩⟩
  rw [World.cell?_alloc_mark]
  simp [hi, List.getD]

theorem Rd.mono {B B' : Nat} {w : World} {a : Option Addr} {len cap : Nat} {l : List Nat} (h : Rd B w a len cap l) (hB : B ≤ B') : Rd B' w a len cap l :=
  ⟨h.long, h.fits, h.small, h.byt, h.nil, fun hl => (by
    obtain ⟨b, off, ha, hb, hc⟩ := h.cells hl
    exact ⟨b, off, ha, by omega, hc⟩)⟩


/-- What the row's frame tells of a slice of integers that came in. -/
def IsRow (k : IntKind) (w : World) (a : Option Addr) (len cap : Nat) (zs : List Int) : Prop :=
  (a = none ∧ len = 0 ∧ cap = 0 ∧ zs = []) ∨
  ∃ x, a = some x ∧ len ≤ cap ∧ cap ≤ maxLen ∧ zs.length = cap ∧ (∀ i, i < zs.length → w.cell? (x.add i) = some (.int k (zs.getD i 0))) ∧ ∀ n ∈ zs, (Lit.int k n).wf = true

theorem rd_of_row {w : World} {a : Option Addr} {len cap : Nat} {zs : List Int} (h : IsRow .u8 w a len cap zs) : ∃ l, Rd w.heap.size w a len cap l := by
  rcases h with ⟨rfl, rfl, rfl, rfl⟩ | ⟨x, rfl, hl, hm, hz, hcell, hwz⟩
  · exact ⟨[], ⟨rfl, Nat.le_refl _, by unfold maxLen; decide, (fun _ h => nomatch h), fun _ => ⟨rfl, rfl⟩, fun h => absurd rfl h⟩⟩
  · refine ⟨(zs.take len).map Int.toNat, ⟨by simp; omega, by simp; omega, hm, ?_, (fun h => nomatch h), fun hne => ?_⟩⟩
    · intro n hn
      rw [List.mem_map] at hn
      obtain ⟨z, hz1, rfl⟩ := hn
      have := bounds_u8 (hwz z (List.mem_of_mem_take hz1))
      omega
    · have hlen : 0 < len := by
        rcases Nat.eq_zero_or_pos len with h0 | h0
        · subst h0; simp at hne
        · exact h0
      obtain ⟨b, off, spot⟩ := x
      have hc0 := hcell 0 (by omega)
      have hspot : spot = none := by simpa [Addr.add] using World.cell?_spot hc0
      subst hspot
      refine ⟨b, off, rfl, ?_, fun i hi => ?_⟩
      · exact World.block_lt_of_cell? _ _ hc0
      · have hi' : i < len := by simp at hi; omega
        have hc := hcell i (by omega)
        have hw := bounds_u8 (hwz (zs.getD i 0) (by simp only [List.getD, List.getElem?_eq_getElem (show i < zs.length by omega), Option.getD_some]; exact List.getElem_mem _))
        have e : (((zs.take len).map Int.toNat).getD i 0 : Nat) = (zs.getD i 0).toNat := by
          simp [List.getD, hi', show i < zs.length by omega]
        rw [e, Int.toNat_of_nonneg hw.1]
        have ea : (⟨b, off, none⟩ : Addr).add i = ⟨b, off + i, none⟩ := by
          unfold Addr.add; split <;> simp_all
        rwa [ea] at hc

theorem thence {B : Nat} {w w1 w2 : World} (h : Below B w w1) (k : Below w1.heap.size w1 w2) (hB : B ≤ w.heap.size) : Below B w w2 :=
  h.trans (k.mono (Nat.le_trans hB h.size))

theorem rd_nil (B : Nat) (w : World) : Rd B w none 0 0 [] :=
  ⟨rfl, Nat.le_refl _, (by unfold maxLen; decide), (fun _ h => nomatch h), fun _ => ⟨rfl, rfl⟩, fun h => absurd rfl h⟩


/-- 'string(b)': the text of bytes, in any world in which they read so. -/
def str (l : List Nat) : ByteArray := strOfNums (l.map (fun (n : Nat) => (n : Int)))
theorem str_back {l : List Nat} (hl : Bytes l) : (str l).data.toList.map (fun u => u.toNat) = l := by
  unfold str
  rw [strOfNums_data, List.map_map, List.map_map]
  conv => rhs; rw [← List.map_id l]
  apply List.map_congr_left
  intro x hx
  have := hl x hx
  simp
  omega
theorem str_inj {l m : List Nat} (hl : Bytes l) (hm : Bytes m) (h : str l = str m) : l = m := by
  rw [← str_back hl, ← str_back hm, h]
theorem str_size (l : List Nat) : (str l).size = l.length := by unfold str; rw [strOfNums_size, List.length_map]
theorem text_is {B : Nat} (w : World) (a : Option Addr) (len cap : Nat) (l : List Nat) (hr : Rd B w a len cap l) :
    (convert 31 9 (.slice a len cap)).run Try.prog w = .ok (.string (str l)) w := by
  obtain ⟨rfl, hf, hm, hby, hn, hc⟩ := hr
  unfold str
  rcases Nat.eq_zero_or_pos l.length with h0 | h0
  · have hl : l = [] := List.eq_nil_of_length_eq_zero h0
    subst hl
    cases a with
    | none => exact run_convert_bytes_nil w 31 5 Try.underlying31 Try.underlying5 0 cap 9 Try.underlying9
    | some x => exact run_convert_bytes_back w 31 9 5 x cap [] Try.underlying31 Try.underlying5 Try.underlying9 (fun j hj => nomatch hj)
  · obtain ⟨b, off, rfl, hB, hcc⟩ := hc (by intro e; subst e; simp at h0)
    refine run_convert_bytes_arg w 31 5 Try.underlying31 Try.underlying5 b off l.length cap _ (by simp) (fun i hi => ?_) 9 Try.underlying9
    rw [hcc i hi]
    simp [List.getD, hi]

theorem Rd.take {B : Nat} {w : World} {a : Option Addr} {len cap : Nat} {l : List Nat} (h : Rd B w a len cap l) (n : Nat) (hn : n ≤ len) : Rd B w a n cap (l.take n) := by
  have hl := h.long
  have hf := h.fits
  refine ⟨by rw [List.length_take]; omega, by rw [List.length_take]; omega, h.small, fun x hx => h.byt x (List.mem_of_mem_take hx), fun ha => ?_, fun hne => ?_⟩
  · have := h.nil ha; omega
  · obtain ⟨b, off, ha, hB, hc⟩ := h.cells (by intro e; subst e; simp at hne)
    refine ⟨b, off, ha, hB, fun i hi => ?_⟩
    rw [List.length_take] at hi
    rw [hc i (by omega)]
    simp [List.getD, show i < n by omega]

/-- A slice of the call's own that owns just the bytes l. -/
def Own (w : World) (base : Nat) (v : Value) (l : List Nat) : Prop := w.ownsRow base 5 1 v l.length (l.map fun (n : Nat) => Value.int .u8 (n : Int))

theorem byte_info : (Try.prog.info? 5).map (fun i => (i.zero, i.size, i.bytes)) = some (some (.int .u8 0), 1, 1) := by kernel_rfl

/-- append of bytes onto a slice of the call's own, wherever they come from. -/
theorem append_bytes (w : World) (base : Nat) (v : Value) (l : List Nat) (hown : Own w base v l) (B : Nat) (a : Option Addr) (len cap : Nat) (m : List Nat) (hr : Rd B w a len cap m)
    (hsum : l.length + m.length ≤ 1000000) (hbase : base ≤ w.heap.size) :
    ∃ v' w', (Builtin.append_ #[31, 31] 31 #[v, .slice a len cap]).run Try.prog w = .ok v' w' ∧ Own w' base v' (l ++ m) ∧ w.grownBy w' v.ownBlock ∧ (v'.ownBlock = v.ownBlock ∨ v'.ownBlock = some w.heap.size) := by
  obtain ⟨i, hi, hz0, hz1, hz2⟩ := info_parts byte_info
  obtain ⟨rfl, hf, hm, hby, hn, hc⟩ := hr
  unfold Own at hown ⊢
  cases a with
  | none =>
    obtain ⟨h0, rfl⟩ := hn rfl
    have hl : m = [] := List.eq_nil_of_length_eq_zero h0
    subst hl
    refine ⟨v, w, ?_, by simpa using hown, World.grownBy.refl w _, .inl rfl⟩
    rcases hown.2 with ⟨rfl, h0⟩ | ⟨g, cp, cur, rfl, _, _, hnc, _⟩
    · simp [Builtin.append_, run_underlying Try.underlying31, sizeOf, typeInfo, hi, Builtin.lenOf, Builtin.firstCells]
    · simp [Builtin.append_, run_underlying Try.underlying31, sizeOf, typeInfo, hi, Builtin.lenOf, Builtin.firstCells, hnc, storeCells]
  | some x =>
    obtain ⟨v', w', h1, h2, h3, _, h5⟩ := run_append_own_at (P := Try.prog) w base 31 31 5 i (.int .u8 0) 1 1 Try.underlying31 hi hz0 hz1 hz2 rfl (by decide) v l.length _ hown x m.length cap (m.map fun (n : Nat) => Value.int .u8 (n : Int)) (by simp)
      (by
        intro j u hj
        have hjl : j < m.length := by
          rcases Nat.lt_or_ge j m.length with h | h
          · exact h
          · rw [List.getElem?_eq_none (by simpa using h)] at hj; cases hj
        obtain ⟨b, off, hx, hB, hcc⟩ := hc (by intro e; subst e; simp at hjl)
        obtain rfl := Option.some.inj hx
        have ea : (⟨b, off, none⟩ : Addr).add j = ⟨b, off + j, none⟩ := by unfold Addr.add; split <;> simp_all
        rw [ea, hcc j hjl]
        simp [hjl] at hj
        rw [← hj]
        simp [List.getD, hjl])
      (by
        intro u hu
        simp at hu
        obtain ⟨n, _, rfl⟩ := hu
        rfl)
      (by unfold maxLen; omega) (by omega) hbase
    refine ⟨v', w', h1, ?_, h3, h5⟩
    simpa using h2

theorem Own.rd {w : World} {base : Nat} {v : Value} {l : List Nat} (h : Own w base v l) (hb : Bytes l) : ∃ a cap, v = .slice a l.length cap ∧ Rd w.heap.size w a l.length cap l := by
  rcases h.2 with ⟨rfl, h0⟩ | ⟨g, cap, cur, rfl, hg, hh, hnc, hcm, hcs, htk⟩
  · have hl : l = [] := List.eq_nil_of_length_eq_zero h0
    subst hl
    exact ⟨none, 0, rfl, rd_nil _ _⟩
  · refine ⟨_, cap, rfl, ⟨rfl, hnc, hcm, hb, (fun h => nomatch h), fun hne => ⟨g, 0, rfl, ?_, fun i hi => ?_⟩⟩⟩
    · rcases Nat.lt_or_ge g w.heap.size with hlt | hge
      · exact hlt
      · rw [Array.getElem?_eq_none hge] at hh; cases hh
    · have hcell : w.cell? ⟨g, 0 + i, none⟩ = cur[0 + i]? := by simp [World.cell?, hh]
      rw [hcell, ← Array.getElem?_toList, Nat.zero_add]
      have : cur.toList[i]? = (cur.toList.take (l.length * 1))[i]? := by rw [List.getElem?_take, if_pos (by omega)]
      rw [this, htk]
      simp [List.getD, hi]

theorem own_nil (w : World) (base : Nat) : Own w base (.slice none 0 0) [] := World.ownsRow_nil _ _ _ _

/-- A walk's step at an append whose run is known. -/
theorem wpList_append_run {P : Program} {ops : Array Oper} {rest : List Oper} {o : Oper} {a : Act} {Q : Exit → Act → World → Prop} {w w' : World} {v' : Value} (hgd : o.guard = none) (s x : Operand) (t1 t2 : TypeId)
    (ho : o.op = .call { callee := .builtin .append, args := #[s, x], argTypes := #[t1, t2] }) (hrun : (Builtin.append_ #[t1, t2] o.type #[a.eval s, a.eval x]).run P w = .ok v' w')
    (h : wpList P ops Q rest (a.put o.dst v') w') : wpList P ops Q (o :: rest) a w := by
  refine wpList_plain hgd fun K hK => ?_
  unfold Oper.wp execOp
  simp only [ho, resolve, invoke, builtin, Sem.run_bind, Sem.run_pure, Result.andThen_ok, List.map_toArray, List.map_cons, List.map_nil, hrun]
  exact hK _ _ h



theorem one_bv (l : List Nat) : ∀ v ∈ l.map bv, v.oneCell' = true := by
  intro v hv
  obtain ⟨n, _, rfl⟩ := List.mem_map.1 hv
  rfl
theorem Rd.cellAt {B : Nat} {w : World} {a : Addr} {len cap : Nat} {l : List Nat} (h : Rd B w (some a) len cap l) (j : Nat) (v : Value) (hj : (l.map bv)[j]? = some v) : w.cell? (a.add j) = some v := by
  have hjl : j < l.length := by
    rcases Nat.lt_or_ge j l.length with h | h
    · exact h
    · rw [List.getElem?_eq_none (by simpa using h)] at hj; cases hj
  obtain ⟨b, off, hx, hB, hcc⟩ := h.cells (by intro e; subst e; simp at hjl)
  obtain rfl := Option.some.inj hx
  have ea : (⟨b, off, none⟩ : Addr).add j = ⟨b, off + j, none⟩ := by unfold Addr.add; split <;> simp_all
  rw [ea, hcc j hjl]
  simp [hjl] at hj
  rw [← hj]
  simp [List.getD, hjl, bv]


/-- A row of bytes that fills a block of memory, from its head on; it may be written. -/
def Blk (w : World) (g : Nat) (l : List Nat) : Prop := ∃ t, w.heap[g]? = some (.cells (l.map bv).toArray t (0, 0))
theorem Blk.lt {w : World} {g : Nat} {l : List Nat} (h : Blk w g l) : g < w.heap.size := by
  obtain ⟨t, h⟩ := h
  rcases Nat.lt_or_ge g w.heap.size with hlt | hge
  · exact hlt
  · rw [Array.getElem?_eq_none hge] at h; cases h
theorem Blk.rd {w : World} {g n : Nat} {l : List Nat} (h : Blk w g l) (hl : l.length = n) (hb : Bytes l) (hn : n ≤ maxLen := by unfold maxLen; decide) : Rd w.heap.size w (some ⟨g, 0, none⟩) n n l := by
  have hlt := h.lt
  obtain ⟨t, h⟩ := h
  refine ⟨hl.symm, by omega, hn, hb, (fun h => nomatch h), fun _ => ⟨g, 0, rfl, hlt, fun i hi => ?_⟩⟩
  rw [cell_of_row w g _ _ _ _ h]
  simp [List.getD, hi, bv]
theorem Blk.alloc (w : World) (l : List Nat) (t : TypeId) : Blk (w.alloc (.cells (l.map bv).toArray t)) w.heap.size l := ⟨t, heap_alloc_new _ _⟩
theorem Blk.set {w : World} {g : Nat} {l : List Nat} (h : Blk w g l) (i n : Nat) : Blk (w.setCell ⟨g, i, none⟩ (.int .u8 (n : Int))) g (l.set i n) := by
  obtain ⟨t, h⟩ := h
  refine ⟨t, ?_⟩
  rw [heap_setCell_same w g i _ _ _ h]
  simp [bv]
theorem Blk.cell {w : World} {g : Nat} {l : List Nat} (h : Blk w g l) (i : Nat) (hi : i < l.length) : w.cell? ⟨g, i, none⟩ = some (.int .u8 ((l.getD i 0 : Nat) : Int)) := by
  obtain ⟨t, h⟩ := h
  rw [cell_of_row w g _ _ _ _ h]
  simp [List.getD, hi, bv]
theorem Blk.frozen {w : World} {g : Nat} {l : List Nat} (h : Blk w g l) (i : Nat) : w.frozen? ⟨g, i, none⟩ = false := by
  obtain ⟨t, h⟩ := h
  exact frozen_of_row w g i _ _ h
theorem Blk.below {B : Nat} {w w' : World} {g : Nat} {l : List Nat} (h : Blk w g l) (hb : Below B w w') (hg : g < B) : Blk w' g l := by
  obtain ⟨t, h⟩ := h
  exact ⟨t, by rw [hb.block g hg, h]⟩
theorem Blk.drew {w : World} {g : Nat} {l : List Nat} (h : Blk w g l) : Blk w.drew g l := h
theorem Blk.drewN {w : World} {g : Nat} {l : List Nat} (h : Blk w g l) (n : Nat) : Blk (w.drewN n) g l := by
  obtain ⟨t, h⟩ := h
  exact ⟨t, by simpa using h⟩
theorem Rd.drewN {B : Nat} {w : World} {a : Option Addr} {len cap : Nat} {l : List Nat} (h : Rd B w a len cap l) (n : Nat) : Rd B (w.drewN n) a len cap l :=
  h.below (below_drewN (Below.refl _ _) n)
theorem byte_of (n : Nat) : IntKind.u8.wrap (n : Int) = ((n % 256 : Nat) : Int) := by
  rw [IntKind.wrap_u8']; omega

/-- 'make([]byte, n)': a new row of noughts. -/
theorem made_bytes (n : Nat) : madeCells (Value.int IntKind.u8 0).cells (n * 1) = ((List.replicate n 0).map bv).toArray := by
  apply Array.toList_inj.1
  have hc : (Value.int IntKind.u8 0).cells = #[Value.int IntKind.u8 0] := rfl
  simp only [madeCells, hc]
  apply List.ext_getElem
  · simp
  · intro i h1 h2
    simp [Nat.mod_one, bv]
theorem run_make_bytes (w : World) (n : Nat) (hn : n ≤ 281474976710656) :
    (Instr.makeSlice 31 (.int .i64 n) (.int .i64 n)).run Try.prog w = .ok (.slice (some ⟨w.heap.size, 0, none⟩) n n) (w.alloc (.cells ((List.replicate n 0).map bv).toArray 5)) := by
  obtain ⟨i, hi, hz0, hz1, hz2⟩ := info_parts byte_info
  have := run_make (P := Try.prog) w 31 5 i (.int .u8 0) Try.underlying31 hi hz0 .i64 .i64 n n (by omega) (Int.le_refl _) (by rw [hz2]; omega) (by omega)
  rw [hz1] at this
  simp only [Int.toNat_natCast] at this
  rw [this, made_bytes]
theorem make128' : ∃ Z : List Nat, Hid (Z = List.replicate 128 0) ∧ Hid (Z.length = 128) ∧ (∀ w : World, (Instr.makeSlice 31 (.int .i64 128) (.int .i64 128)).run Try.prog w = .ok (.slice (some ⟨w.heap.size, 0, none⟩) 128 128) (w.alloc (.cells (Z.map bv).toArray 5))) :=
  ⟨_, rfl, by show _ = _; simp, fun w => run_make_bytes w 128 (by decide)⟩

/-! Bits of two ints that are not below nought. -/
theorem ofInt64 (a : Nat) (ha : a < 18446744073709551616) : (BitVec.ofInt 64 (a : Int)).toNat = a := by
  rw [BitVec.ofInt_natCast, BitVec.toNat_ofNat]; exact Nat.mod_eq_of_lt (by omega)
theorem or64 (a b : Nat) (ha : a < 2 ^ 63) (hb : b < 2 ^ 63) : bits .or .i64 (a : Int) (b : Int) = ((a ||| b : Nat) : Int) := by
  have hx : a ||| b < 2 ^ 63 := Nat.or_lt_two_pow ha hb
  show IntKind.i64.wrap ((BitVec.ofInt 64 (a : Int) ||| BitVec.ofInt 64 (b : Int)).toNat : Int) = _
  rw [BitVec.toNat_or, ofInt64 a (by omega), ofInt64 b (by omega)]; exact IntWalk.i64_in _ (by omega)
theorem and64 (a b : Nat) (ha : a < 2 ^ 63) (hb : b < 2 ^ 63) : bits .and .i64 (a : Int) (b : Int) = ((a &&& b : Nat) : Int) := by
  have hx : a &&& b < 2 ^ 63 := Nat.and_lt_two_pow _ hb
  show IntKind.i64.wrap ((BitVec.ofInt 64 (a : Int) &&& BitVec.ofInt 64 (b : Int)).toNat : Int) = _
  rw [BitVec.toNat_and, ofInt64 a (by omega), ofInt64 b (by omega)]; exact IntWalk.i64_in _ (by omega)
theorem xor64 (a b : Nat) (ha : a < 2 ^ 63) (hb : b < 2 ^ 63) : bits .xor .i64 (a : Int) (b : Int) = ((a ^^^ b : Nat) : Int) := by
  have hx : a ^^^ b < 2 ^ 63 := Nat.xor_lt_two_pow ha hb
  show IntKind.i64.wrap ((BitVec.ofInt 64 (a : Int) ^^^ BitVec.ofInt 64 (b : Int)).toNat : Int) = _
  rw [BitVec.toNat_xor, ofInt64 a (by omega), ofInt64 b (by omega)]; exact IntWalk.i64_in _ (by omega)
end Go.Proofs.Ytnhfkfihlkbkfaa.PW
