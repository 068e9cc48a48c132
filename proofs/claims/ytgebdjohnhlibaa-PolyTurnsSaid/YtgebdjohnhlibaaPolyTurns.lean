/-
  The walk of PolyTurns: up to four bytes side by side turned, another sum; nothing that was there is written.
-/
import Derived.Test.YtgebdjohnhlibaaPolyLaws
import Derived.RegionTactic
import Derived.ChangeKeysEq
import Derived.Lib.SmallJoins
import Derived.ProofKit
namespace Go.Proofs.Ytgebdjohnhlibaa.PW
open Go.RowKit
set_option linter.unusedVariables false

/-- An array of four bytes that came in. -/
theorem open_arr4 {H : Type} {enc : TypeId × Value → H} {W : World} {r : Reach} {b0 base : Nat} {spare : Nat → Bool} {held : Bool} {v : Value} {d : DataW H} {p : List MemPlace}
    (hv : Value.okWide Try.prog W r b0 29 v) (h : DataW.Trod enc Try.prog W base spare held 29 v d p) :
    ∃ x y z u : Nat, x < 256 ∧ y < 256 ∧ z < 256 ∧ u < 256 ∧ v = .agg #[.int .u8 x, .int .u8 y, .int .u8 z, .int .u8 u] := by
  simp only [Value.okWide, Try.underlying29] at hv
  obtain ⟨cs, rfl, hsz, _⟩ := hv
  have hC : Try.prog.cellsOf 29 = 4 := by kernel_rfl
  have hE : Try.prog.cellsOf 5 = 1 := by kernel_rfl
  obtain ⟨c0, c1, c2, c3, rfl⟩ := Joins.array4 (hsz.trans hC)
  obtain ⟨fuel, hf⟩ := h
  obtain ⟨xs, m, _, _, _, hl, hi⟩ := DataW.trod_array Try.underlying29 hf
  rw [hE] at hi
  have one : ∀ (i : Nat) (c : Value), i < 4 → (([c0, c1, c2, c3] : List Value).drop (i * 1)).take 1 = [c] → ∃ n : Nat, n < 256 ∧ c = .int .u8 (n : Int) := by
    intro i c hi4 hc
    have := hi i hi4
    have hcells : (Value.agg #[c0, c1, c2, c3]).cells.toList = [c0, c1, c2, c3] := rfl
    rw [hcells, hc, List.getElem?_eq_getElem (show i < xs.length by omega)] at this
    obtain ⟨n, e, _, hw⟩ := DataW.trod_int Try.underlying5 this
    have hb := bounds_u8 hw
    injection e with e
    exact ⟨n.toNat, by omega, by rw [e, Int.toNat_of_nonneg hb.1]⟩
  obtain ⟨x, hx, rfl⟩ := one 0 c0 (by decide) rfl
  obtain ⟨y, hy, rfl⟩ := one 1 c1 (by decide) rfl
  obtain ⟨z, hz, rfl⟩ := one 2 c2 (by decide) rfl
  obtain ⟨u, hu, rfl⟩ := one 3 c3 (by decide) rfl
  exact ⟨x, y, z, u, hx, hy, hz, hu, rfl⟩

theorem byte_cells : Try.prog.cellsOf 5 = 1 := by kernel_rfl
theorem arr_eq (a b c d : Int) (w : World) : (Op.equalIn 10000 29 (.agg #[.int .u8 a, .int .u8 b, .int .u8 c, .int .u8 d]) (.agg #[.int .u8 0, .int .u8 0, .int .u8 0, .int .u8 0])).run Try.prog w = .ok (a == 0 && (b == 0 && (c == 0 && d == 0))) w := by
  obtain ⟨i, hi, hz0, hz1, hz2⟩ := info_parts byte_info
  rw [run_equalIn_array (d := 9999) (P := Try.prog) w (e := 5) (n := 4) (i := i) _ _ Try.underlying29 hi, byte_cells, show List.range 4 = [0, 1, 2, 3] from rfl]
  have hk : Try.prog.plainKey 5 = true := by kernel_rfl
  have hx : ∀ (X : Array Value) (j : Nat) (v : Value), X[j]? = some v → ∀ w, (part 5 X j).run Try.prog w = .ok v w := fun X j v h w => run_part_plain w hk h
  have a0 := hx #[.int .u8 a, .int .u8 b, .int .u8 c, .int .u8 d] 0 (.int .u8 a) rfl
  have a1 := hx #[.int .u8 a, .int .u8 b, .int .u8 c, .int .u8 d] 1 (.int .u8 b) rfl
  have a2 := hx #[.int .u8 a, .int .u8 b, .int .u8 c, .int .u8 d] 2 (.int .u8 c) rfl
  have a3 := hx #[.int .u8 a, .int .u8 b, .int .u8 c, .int .u8 d] 3 (.int .u8 d) rfl
  have z0 := hx #[.int .u8 0, .int .u8 0, .int .u8 0, .int .u8 0] 0 (.int .u8 0) rfl
  have z1 := hx #[.int .u8 0, .int .u8 0, .int .u8 0, .int .u8 0] 1 (.int .u8 0) rfl
  have z2 := hx #[.int .u8 0, .int .u8 0, .int .u8 0, .int .u8 0] 2 (.int .u8 0) rfl
  have z3 := hx #[.int .u8 0, .int .u8 0, .int .u8 0, .int .u8 0] 3 (.int .u8 0) rfl
  have he : ∀ (x y : Int) (w : World), (Op.equalIn 9999 5 (.int .u8 x) (.int .u8 y)).run Try.prog w = .ok (x == y) w := fun x y w => run_equalIn_int (P := Try.prog) w 9998 5 .u8 .u8 x y Try.underlying5
  simp only [Op.eqItems, Sem.run_bind, Result.andThen_ok, Nat.mul_one, a0, z0, he]
  rcases Bool.eq_false_or_eq_true (a == 0) with ha | ha <;> rcases Bool.eq_false_or_eq_true (b == 0) with hb | hb <;> rcases Bool.eq_false_or_eq_true (c == 0) with hc | hc <;> rcases Bool.eq_false_or_eq_true (d == 0) with hd | hd <;>
    simp only [ha, hb, hc, hd, a1, a2, a3, z1, z2, z3, he, Sem.run_ite, Sem.run_bind, Sem.run_pure, Result.andThen_ok, Bool.not_true, Bool.not_false, if_true, Bool.false_eq_true, if_false, Bool.and_true, Bool.and_false] <;> rfl

/-- The bytes behind k rounds: the first k of four turned. -/
def tk (l : List Nat) (n : Nat) (bs : List Nat) : Nat → List Nat
  | 0 => l
  | k + 1 => (tk l n bs k).set (n + k) (l.getD (n + k) 0 ^^^ bs.getD k 0)
theorem tk_length (l : List Nat) (n : Nat) (bs : List Nat) (k : Nat) : (tk l n bs k).length = l.length := by
  induction k with
  | zero => rfl
  | succ k ih => simp [tk, ih]
theorem tk_get (l : List Nat) (n : Nat) (bs : List Nat) (k i : Nat) : (tk l n bs k)[i]? = if n ≤ i ∧ i < n + k ∧ i < l.length then some (l.getD i 0 ^^^ bs.getD (i - n) 0) else l[i]? := by
  induction k with
  | zero => rw [if_neg (by omega)]; rfl
  | succ k ih =>
    unfold tk
    rw [List.getElem?_set]
    by_cases h : n + k = i
    · subst h
      by_cases h2 : n + k < l.length
      · rw [if_pos rfl, if_pos (by rw [tk_length]; exact h2), if_pos (by omega), Nat.add_sub_cancel_left]
      · rw [if_pos rfl, if_neg (by rw [tk_length]; exact h2), if_neg (by omega), List.getElem?_eq_none (by omega)]
    · rw [if_neg h, ih]
      by_cases h2 : n ≤ i ∧ i < n + k ∧ i < l.length
      · rw [if_pos h2, if_pos (by omega)]
      · rw [if_neg h2, if_neg (by omega)]
theorem tk_four (l : List Nat) (n a b c d : Nat) (h : n + 4 ≤ l.length) : tk l n [a, b, c, d] 4 = l.take n ++ PM.x4 ((l.drop n).take 4) [a, b, c, d] ++ l.drop (n + 4) := by
  apply List.ext_getElem?
  intro i
  rw [tk_get]
  by_cases h1 : i < n
  · rw [if_neg (by omega), List.getElem?_append_left (by simp [PM.x4]; omega), List.getElem?_append_left (by simp; omega), List.getElem?_take, if_pos h1]
  · by_cases h2 : i < n + 4
    · rw [if_pos (by omega), List.getElem?_append_left (by simp [PM.x4]; omega), List.getElem?_append_right (by simp; omega)]
      have hn : (l.take n).length = n := by simp; omega
      rw [hn]
      unfold PM.x4
      rw [List.getElem?_zipWith, List.getElem?_take, if_pos (by omega), List.getElem?_drop, show n + (i - n) = i from by omega]
      rw [List.getElem?_eq_getElem (show i < l.length by omega), List.getElem?_eq_getElem (show i - n < [a, b, c, d].length by simp; omega)]
      simp [List.getD, show i < l.length by omega, show i - n < 4 by omega]
    · rw [if_neg (by omega), List.getElem?_append_right (by simp [PM.x4]; omega), List.getElem?_drop]
      congr 1
      simp [PM.x4]
      omega
theorem tk_bytes {l : List Nat} {n : Nat} {bs : List Nat} (hl : PM.Bytes l) (hb : ∀ j, bs.getD j 0 < 256) (k : Nat) : PM.Bytes (tk l n bs k) := by
  intro x hx
  obtain ⟨i, hi⟩ := List.mem_iff_getElem?.1 hx
  rw [tk_get] at hi
  split at hi
  · rename_i h
    have : l.getD i 0 < 256 := by
      simp only [List.getD, List.getElem?_eq_getElem h.2.2, Option.getD_some]
      exact hl _ (List.getElem_mem _)
    have e : l.getD i 0 ^^^ bs.getD (i - n) 0 = x := by injection hi
    rw [← e]
    exact Nat.xor_lt_two_pow (n := 8) this (hb _)
  · exact hl x (List.mem_iff_getElem?.2 ⟨i, hi⟩)

def bv (n : Nat) : Value := .int .u8 (n : Int)

theorem turn_step {wr : World} {base g N cap : Nat} {l : List Nat} {n : Nat} {bs : List Nat} {k : Nat} (h : wr.ownsRow base 5 1 (.slice (some ⟨g, 0, none⟩) N cap) N ((tk l n bs k).map bv)) :
    (wr.setCell ⟨g, n + k, none⟩ (.int .u8 ((l.getD (n + k) 0 ^^^ bs.getD k 0 : Nat) : Int))).ownsRow base 5 1 (.slice (some ⟨g, 0, none⟩) N cap) N ((tk l n bs (k + 1)).map bv) := by
  have := (h.stored (n + k) (.int .u8 ((l.getD (n + k) 0 ^^^ bs.getD k 0 : Nat) : Int))).1
  unfold tk
  rw [List.map_set]
  exact this

theorem xor8 (a b : Nat) (ha : a < 256) (hb : b < 256) : bits .xor .u8 (a : Int) (b : Int) = ((a ^^^ b : Nat) : Int) := u8_xor_nat a b ha hb

theorem turns_far (a : Option Addr) (len cap : Nat) (l : List Nat) (n : Nat) (b0 b1 b2' b3 : Nat) (w : World) (hr : Rd w.heap.size w a len cap l)
    (h0 : b0 < 256) (h1 : b1 < 256) (h2 : b2' < 256) (h3 : b3 < 256) (hz : ¬ (b0 = 0 ∧ b1 = 0 ∧ b2' = 0 ∧ b3 = 0)) (hc : ¬ 10000 < l.length) (hb : n + 4 ≤ l.length) :
    Calls Try.prog 6 #[.slice a len cap, .int .i64 (n : Int), .agg #[.int .u8 b0, .int .u8 b1, .int .u8 b2', .int .u8 b3]] w fun e w' => e = .returned (.bool true) ∧ Below w.heap.size w w' := by
  have hm := hr.small
  have hf := hr.fits
  have hl := hr.long
  unfold maxLen at hm
  subst hl
  have hae : ∀ w, (Op.equalIn 10000 29 (.agg #[.int .u8 b0, .int .u8 b1, .int .u8 b2', .int .u8 b3]) (.agg #[.int .u8 0, .int .u8 0, .int .u8 0, .int .u8 0])).run Try.prog w = .ok false w := fun w => by
    rw [arr_eq]
    congr 1
    rw [← Bool.not_eq_true]
    simp
    omega
  go_enter Try.func6, Try.ntmps6
  go_wp2_with fail
  refine (alive_any _).mono ?_
  rintro e w1 ⟨rfl, hb1⟩
  have c0 : w1.cell? ⟨w.heap.size, 0, none⟩ = some (.int .u8 (b0 : Int)) := by rw [hb1.cell (p := ⟨w.heap.size, 0, none⟩) (by simp)]; simp
  have c1 : w1.cell? ⟨w.heap.size, 1, none⟩ = some (.int .u8 (b1 : Int)) := by rw [hb1.cell (p := ⟨w.heap.size, 1, none⟩) (by simp)]; simp
  have c2 : w1.cell? ⟨w.heap.size, 2, none⟩ = some (.int .u8 (b2' : Int)) := by rw [hb1.cell (p := ⟨w.heap.size, 2, none⟩) (by simp)]; simp
  have c3 : w1.cell? ⟨w.heap.size, 3, none⟩ = some (.int .u8 (b3 : Int)) := by rw [hb1.cell (p := ⟨w.heap.size, 3, none⟩) (by simp)]; simp
  have hbw : Below w.heap.size w w1 := ((Below.refl _ w).alloc (Nat.le_refl _) _).trans (hb1.mono (by simp))
  have hsz : w.heap.size < w1.heap.size := by have := hb1.size; simp at this; omega
  clear hb1
  generalize hwB : w.heap.size = B at *
  have HB := Lib.hid hwB
  clear hwB
  obtain ⟨v2, w2, r2, o2, g2, k2⟩ := append_bytes w1 w1.heap.size _ [] (own_nil _ _) B a _ cap l (hr.below hbw) (by simp; omega) (Nat.le_refl _)
  have R2 := Lib.hid r2
  clear r2
  go_wp2_with (first | (at_builtin; refine wpList_append_run rfl _ _ _ _ rfl R2.out ?_) | fail)
  clear hae
  have hN : ∃ g cap2, v2 = .slice (some ⟨g, 0, none⟩) l.length cap2 := by
    rcases o2.2 with ⟨_, h⟩ | ⟨g, cap2, cur, hv, _⟩
    · rw [List.nil_append] at h; omega
    · exact ⟨g, cap2, by simpa using hv⟩
  obtain ⟨g, cap2, rfl⟩ := hN
  have hg : w1.heap.size ≤ g := by
    rcases k2 with e | e
    · cases e
    · have e' : some g = some w1.heap.size := e
      injection e' with e'
      exact Nat.le_of_eq e'.symm
  have b2 : Below w1.heap.size w1 w2 := (Below.refl _ _).grown g2 (Nat.le_refl _) (by simp [Value.ownBlock])
  have o2' : w2.ownsRow w1.heap.size 5 1 (.slice (some ⟨g, 0, none⟩) l.length cap2) l.length ((tk l n [b0, b1, b2', b3] 0).map bv) := o2
  have hcap2 : l.length ≤ cap2 ∧ cap2 ≤ maxLen := by
    rcases o2.2 with ⟨h, _⟩ | ⟨g', cap', cur, hv, _, _, h1, h2, _⟩
    · cases h
    · injection hv with _ _ h3
      subst h3
      exact ⟨by simpa using h1, h2⟩
  clear o2 g2 k2
  obtain ⟨hc2, hc3⟩ := hcap2
  unfold maxLen at hc3
  have hbx : ∀ j, j < 4 → w1.cell? ⟨B, j, none⟩ = some (.int .u8 ((([b0, b1, b2', b3] : List Nat).getD j 0 : Nat) : Int)) := by
    intro j hj
    match j, hj with
    | 0, _ => exact c0
    | 1, _ => exact c1
    | 2, _ => exact c2
    | 3, _ => exact c3
  have hbs : ∀ j, ([b0, b1, b2', b3] : List Nat).getD j 0 < 256 := by
    intro j
    match j with
    | 0 => exact h0
    | 1 => exact h1
    | 2 => exact h2
    | 3 => exact h3
    | j + 4 => simp [List.getD]
  clear c0 c1 c2 c3
  have Hbx := Lib.hid hbx
  have Hbs := Lib.hid hbs
  clear hbx hbs
  generalize hA : w1.heap.size = A at *
  have HA := Lib.hid hA
  clear hA
  go_loopw [9] (fun i wr => ∃ k : Nat, k ≤ 4 ∧ i = .int .i64 k ∧ wr.ownsRow A 5 1 (.slice (some ⟨g, 0, none⟩) l.length cap2) l.length ((tk l n [b0, b1, b2', b3] k).map bv) ∧ Below A w1 wr) (fun i _ => 4 - (intOf i).toNat)
  case atStart => exact ⟨0, by omega, rfl, o2', b2⟩
  case round =>
    obtain ⟨k, hk, rfl, hown, hbel⟩ := hrel
    by_cases hlt : k < 4
    · have hl1 : l.getD (n + k) 0 < 256 := by
        simp only [List.getD, List.getElem?_eq_getElem (show n + k < l.length by omega), Option.getD_some]
        exact hr.byt _ (List.getElem_mem _)
      have f1 : wr.cell? ⟨g, n + k, none⟩ = some (.int .u8 ((l.getD (n + k) 0 : Nat) : Int)) := by
        rw [hown.cellAt (n + k) (by omega), List.getElem?_map, tk_get, if_neg (by omega), List.getElem?_eq_getElem (show n + k < l.length by omega)]
        simp [List.getD, show n + k < l.length by omega, bv]
      have f2 : wr.cell? ⟨B, k, none⟩ = some (.int .u8 ((([b0, b1, b2', b3] : List Nat).getD k 0 : Nat) : Int)) := by
        rw [hbel.cell (p := ⟨B, k, none⟩) hsz]; exact Hbx.out k hlt
      have f3 : wr.frozen? ⟨g, n + k, none⟩ = false := hown.frozenAt (n + k)
      have e1 := xor8 _ _ hl1 (Hbs.out k)
      have O' := Lib.hid (turn_step hown)
      have B' : Below A w1 (wr.setCell ⟨g, n + k, none⟩ (.int .u8 ((l.getD (n + k) 0 ^^^ ([b0, b1, b2', b3] : List Nat).getD k 0 : Nat) : Int))) := hbel.setCell hg _
      have B'' := Lib.hid B'
      clear B'
      generalize l.getD (n + k) 0 = x at *
      generalize ([b0, b1, b2', b3] : List Nat).getD k 0 = y at *
      clear hown hbel
      go_wp2
      go_region
      go_wp2
      go_roundw
      case rel => exact ⟨k + 1, by omega, by go_num, O'.out.drew, B''.out.drew⟩
      case measure => simp [intOf]; omega
    · obtain rfl : k = 4 := by omega
      have hby := tk_bytes (n := n) hr.byt Hbs.out 4
      have ho : Own wr A (.slice (some ⟨g, 0, none⟩) l.length cap2) (tk l n [b0, b1, b2', b3] 4) := by
        unfold Own; rw [tk_length]; exact hown
      obtain ⟨a3, cap3, hv3, q3⟩ := ho.rd hby
      rw [tk_length] at q3 hv3
      injection hv3 with hv3 hv4 hv5
      subst hv3 hv5
      have hne : PM.over 0 (tk l n [b0, b1, b2', b3] 4) ≠ PM.over 0 l := by
        rw [tk_four l n _ _ _ _ hb]
        have hl : l = l.take n ++ (l.drop n).take 4 ++ l.drop (n + 4) := by
          rw [List.append_assoc, ← List.drop_drop, List.take_append_drop, List.take_append_drop]
        conv => rhs; rw [hl]
        refine PM.turns (fun x hx => hr.byt x (List.mem_of_mem_take hx)) (fun x hx => hr.byt x (List.mem_of_mem_drop (List.mem_of_mem_take hx))) (fun x hx => hr.byt x (List.mem_of_mem_drop hx)) (by simp; omega) h0 h1 h2 h3 hz
      have e1 : (((PM.over 0 (tk l n [b0, b1, b2', b3] 4) : Nat) : Int) == ((PM.over 0 l : Nat) : Int)) = false := by
        rw [beq_eq_false_iff_ne, Ne, Int.natCast_inj]; exact hne
      have E1 := Lib.hid e1
      have kB : Below B w wr := hbw.trans (hbel.mono (Nat.le_of_lt hsz))
      clear e1 hne hown ho
      generalize tk l n [b0, b1, b2', b3] 4 = tl at *
      go_wp2_with fail
      refine (sum_any _ _ cap2 tl _ q3).mono ?_
      rintro e w5 ⟨rfl, hb5⟩
      have hBw : B ≤ wr.heap.size := by have := kB.size; rw [HB.out] at this; exact this
      have k5 : Below B w w5 := kB.trans (hb5.mono hBw)
      have hBw5 : B ≤ w5.heap.size := by have := k5.size; rw [HB.out] at this; exact this
      go_wp2_with fail
      refine (sum_any a _ cap l _ ((hr.below k5).mono hBw5)).mono ?_
      rintro e w6 ⟨rfl, hb6⟩
      have k6 : Below B w w6 := k5.trans (hb6.mono hBw5)
      go_wp2
      go_ret
      refine ⟨?_, by rw [HB.out]; exact k6⟩
      show Ending.returned (.bool (((PM.over 0 tl : Nat) : Int) != ((PM.over 0 l : Nat) : Int))) = _
      rw [bne, E1.out]
      rfl

theorem turns_walk (a : Option Addr) (len cap : Nat) (l : List Nat) (at' : Int) (b0 b1 b2' b3 : Nat) (w : World) (hr : Rd w.heap.size w a len cap l)
    (h0 : b0 < 256) (h1 : b1 < 256) (h2 : b2' < 256) (h3 : b3 < 256) (hlo : -9223372036854775808 ≤ at') (hhi : at' ≤ 9223372036854775807) :
    Calls Try.prog 6 #[.slice a len cap, .int .i64 at', .agg #[.int .u8 b0, .int .u8 b1, .int .u8 b2', .int .u8 b3]] w fun e w' => e = .returned (.bool true) ∧ Below w.heap.size w w' := by
  have hm := hr.small
  have hf := hr.fits
  have hl := hr.long
  unfold maxLen at hm
  subst hl
  have hend : ∀ (o : Obj) (w1 : World), Below (w.alloc o).heap.size (w.alloc o) w1 → Below w.heap.size w w1 := fun o w1 hb => ((Below.refl _ w).alloc (Nat.le_refl _) _).trans (hb.mono (by simp))
  have Hend := Lib.hid hend
  clear hend
  by_cases hc : 10000 < l.length
  · go_enter Try.func6, Try.ntmps6
    go_wp2_with fail
    refine (alive_any _).mono ?_
    rintro e w1 ⟨rfl, hb1⟩
    have hb2 := Hend.out _ _ hb1
    clear hb1
    go_wp2
    go_ret
    exact ⟨rfl, hb2⟩
  · by_cases hneg : at' < 0
    · go_enter Try.func6, Try.ntmps6
      go_wp2_with fail
      refine (alive_any _).mono ?_
      rintro e w1 ⟨rfl, hb1⟩
      have hb2 := Hend.out _ _ hb1
      clear hb1
      go_wp2
      go_ret
      exact ⟨rfl, hb2⟩
    · by_cases hfar : (l.length : Int) - 4 < at'
      · go_enter Try.func6, Try.ntmps6
        go_wp2_with fail
        refine (alive_any _).mono ?_
        rintro e w1 ⟨rfl, hb1⟩
        have hb2 := Hend.out _ _ hb1
        clear hb1
        go_wp2
        go_ret
        exact ⟨rfl, hb2⟩
      · by_cases hz : b0 = 0 ∧ b1 = 0 ∧ b2' = 0 ∧ b3 = 0
        · obtain ⟨rfl, rfl, rfl, rfl⟩ := hz
          have hae : ∀ w, (Op.equalIn 10000 29 (.agg #[.int .u8 0, .int .u8 0, .int .u8 0, .int .u8 0]) (.agg #[.int .u8 0, .int .u8 0, .int .u8 0, .int .u8 0])).run Try.prog w = .ok true w := fun w => by
            rw [arr_eq]; rfl
          go_enter Try.func6, Try.ntmps6
          go_wp2_with fail
          refine (alive_any _).mono ?_
          rintro e w1 ⟨rfl, hb1⟩
          have hb2 := Hend.out _ _ hb1
          have c0 : w1.cell? ⟨w.heap.size, 0, none⟩ = some (.int .u8 0) := by rw [hb1.cell (p := ⟨w.heap.size, 0, none⟩) (by simp)]; simp
          have c1 : w1.cell? ⟨w.heap.size, 1, none⟩ = some (.int .u8 0) := by rw [hb1.cell (p := ⟨w.heap.size, 1, none⟩) (by simp)]; simp
          have c2 : w1.cell? ⟨w.heap.size, 2, none⟩ = some (.int .u8 0) := by rw [hb1.cell (p := ⟨w.heap.size, 2, none⟩) (by simp)]; simp
          have c3 : w1.cell? ⟨w.heap.size, 3, none⟩ = some (.int .u8 0) := by rw [hb1.cell (p := ⟨w.heap.size, 3, none⟩) (by simp)]; simp
          clear hb1
          go_wp2
          go_ret
          exact ⟨rfl, hb2⟩
        · obtain ⟨n, rfl⟩ := Int.eq_ofNat_of_zero_le (show 0 ≤ at' by omega)
          exact turns_far a _ cap l n b0 b1 b2' b3 w hr h0 h1 h2 h3 hz hc (by omega)
end Go.Proofs.Ytgebdjohnhlibaa.PW
