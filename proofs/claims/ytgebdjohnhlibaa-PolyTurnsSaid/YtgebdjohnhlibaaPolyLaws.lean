/-
  The walks of layer 1's laws: each returns true, and nothing that was there is written.
-/
import Derived.Test.YtgebdjohnhlibaaPolyWalks
import Derived.OwnWalk
import Derived.Maps.AppendAt
namespace Go.Proofs.Ytgebdjohnhlibaa.PW
open Go.RowKit
set_option linter.unusedVariables false

theorem thence {B : Nat} {w w1 w2 : World} (h : Below B w w1) (k : Below w1.heap.size w1 w2) (hB : B ≤ w.heap.size) : Below B w w2 :=
  h.trans (k.mono (Nat.le_trans hB h.size))

theorem rd_nil (B : Nat) (w : World) : Rd B w none 0 0 [] :=
  ⟨rfl, Nat.le_refl _, (by unfold maxLen; decide), (fun _ h => nomatch h), fun _ => ⟨rfl, rfl⟩, fun h => absurd rfl h⟩

theorem apart_walk (s t : Nat) (a : Option Addr) (len cap : Nat) (l : List Nat) (w : World) (hs : s < 4294967296) (ht : t < 4294967296) (hr : Rd w.heap.size w a len cap l) :
    Calls Try.prog 7 #[.int .u32 s, .int .u32 t, .slice a len cap] w fun e w' => e = .returned (.bool true) ∧ Below w.heap.size w w' := by
  have hm := hr.small
  have hf := hr.fits
  have hl := hr.long
  unfold maxLen at hm
  subst hl
  by_cases hb : 10000 < l.length
  · go_enter Try.func7, Try.ntmps7
    go_wp2_with fail
    refine (alive_any _).mono ?_
    rintro e w1 ⟨rfl, hb1⟩
    go_wp2
    go_ret
    exact ⟨rfl, hb1⟩
  · have hinj := PM.over_inj hs ht hr.byt
    go_enter Try.func7, Try.ntmps7
    go_wp2_with fail
    refine (alive_any _).mono ?_
    rintro e w1 ⟨rfl, hb1⟩
    go_wp2_with fail
    refine (over_any s a _ cap l _ hs ((hr.below hb1).mono hb1.size)).mono ?_
    rintro e w2 ⟨rfl, hb2⟩
    go_wp2_with fail
    have hb2' := thence hb1 hb2 (Nat.le_refl _)
    refine (over_any t a _ cap l _ ht ((hr.below hb2').mono hb2'.size)).mono ?_
    rintro e w3 ⟨rfl, hb3⟩
    have hb3' := thence hb2' hb3 (Nat.le_refl _)
    go_wp2_with fail
    go_ret
    refine ⟨?_, hb3'⟩
    have e : (((PM.over s l : Nat) : Int) == ((PM.over t l : Nat) : Int)) = ((s : Int) == (t : Int)) := by
      rw [Bool.eq_iff_iff, beq_iff_eq, beq_iff_eq, Int.natCast_inj, Int.natCast_inj]; exact hinj
    show Ending.returned (.bool ((((PM.over s l : Nat) : Int) == ((PM.over t l : Nat) : Int)) == ((s : Int) == (t : Int)))) = _
    rw [e, beq_self_eq_true]

theorem names_walk (w : World) :
    Calls Try.prog 3 #[] w fun e w' => e = .returned (.bool true) ∧ Below w.heap.size w w' := by
  have kc := fun (w : World) (C : Array Value) (n c : Nat) => Lib.run_convert_bytes_const (P := Try.prog) w 26 5 C n c Try.underlying26 Try.underlying5
  have hn0 : PM.over 0 [] = 0 := PM.over_nil (by decide)
  have hn1 : PM.over 3808858755 [] = 3808858755 := PM.over_nil (by decide)
  have hn2 : PM.over (PM.over 0 [49, 50, 51, 52]) [53, 54, 55, 56, 57] = 3808858755 := by decide +kernel
  have hlt := PM.over_lt 0 [49, 50, 51, 52]
  have Hn0 := Lib.hid hn0
  have Hn1 := Lib.hid hn1
  have Hn2 := Lib.hid hn2
  clear hn0 hn1 hn2
  go_enter Try.func3, Try.ntmps3
  go_wp2_with fail
  refine (alive_any _).mono ?_
  rintro e w1 ⟨rfl, hb1⟩
  go_wp2_with fail
  refine (sum_any none 0 0 [] _ (rd_nil _ _)).mono ?_
  rintro e w2 ⟨rfl, hb2⟩
  rw [Hn0.out]
  go_wp2_with fail
  refine (over_any 3808858755 none 0 0 [] _ (by decide) (rd_nil _ _)).mono ?_
  rintro e w3 ⟨rfl, hb3⟩
  rw [Hn1.out]
  go_wp2_with fail
  refine (sum_any _ 4 4 [49, 50, 51, 52] _ (rd_lit w3 [49, 50, 51, 52] _ 4 4 _ rfl rfl rfl (by unfold PM.Bytes; decide) (by unfold maxLen; decide))).mono ?_
  rintro e w4 ⟨rfl, hb4⟩
  generalize PM.over 0 [49, 50, 51, 52] = s at *
  go_wp2_with fail
  refine (over_any s _ 5 5 [53, 54, 55, 56, 57] _ hlt (rd_lit w4 [53, 54, 55, 56, 57] _ 5 5 _ rfl rfl rfl (by unfold PM.Bytes; decide) (by unfold maxLen; decide))).mono ?_
  rintro e w5 ⟨rfl, hb5⟩
  rw [Hn2.out]
  go_wp2
  go_ret
  refine ⟨rfl, ?_⟩
  have h1 := thence (thence hb1 hb2 (Nat.le_refl _)) hb3 (Nat.le_refl _)
  have h2 := thence (h1.alloc h1.size _) hb4 (Nat.le_refl _)
  exact thence (h2.alloc h2.size _) hb5 (Nat.le_refl _)

/-- 'string(b)': some text, the same in every later world. -/
theorem text_of (w : World) (a : Option Addr) (len cap : Nat) (l : List Nat) (hr : Rd w.heap.size w a len cap l) :
    ∃ S : ByteArray, ∀ w', Below w.heap.size w w' → (convert 26 9 (.slice a len cap)).run Try.prog w' = .ok (.string S) w' := by
  refine ⟨strOfNums (l.map (fun (n : Nat) => (n : Int))), fun w' hb => ?_⟩
  have hr' := hr.below hb
  obtain ⟨rfl, hf, hm, hby, hn, hc⟩ := hr'
  rcases Nat.eq_zero_or_pos l.length with h0 | h0
  · have hl : l = [] := List.eq_nil_of_length_eq_zero h0
    subst hl
    cases a with
    | none => exact run_convert_bytes_nil w' 26 5 Try.underlying26 Try.underlying5 0 cap 9 Try.underlying9
    | some x => exact run_convert_bytes_back w' 26 9 5 x cap [] Try.underlying26 Try.underlying5 Try.underlying9 (fun j hj => nomatch hj)
  · obtain ⟨b, off, rfl, hB, hcc⟩ := hc (by intro e; subst e; simp at h0)
    refine run_convert_bytes_arg w' 26 5 Try.underlying26 Try.underlying5 b off l.length cap _ (by simp) (fun i hi => ?_) 9 Try.underlying9
    rw [hcc i hi]
    simp [List.getD, hi]

theorem tells_walk (s : Nat) (a : Option Addr) (len cap : Nat) (l : List Nat) (w : World) (hs : s < 4294967296) (hr : Rd w.heap.size w a len cap l) :
    Calls Try.prog 4 #[.int .u32 s, .slice a len cap] w fun e w' => e = .returned (.bool true) ∧ Below w.heap.size w w' := by
  obtain ⟨S, hS⟩ := text_of w a len cap l hr
  have hm := hr.small
  have hf := hr.fits
  have hl := hr.long
  unfold maxLen at hm
  subst hl
  by_cases hb : 10000 < l.length
  · go_enter Try.func4, Try.ntmps4
    go_wp2
    go_ret
    exact ⟨rfl, Below.refl _ _⟩
  · have h1 := hS w (Below.refl _ _)
    have HS := Lib.hid hS
    clear hS
    go_enter Try.func4, Try.ntmps4
    go_wp2_with fail
    refine (sum_any a _ cap l _ hr).mono ?_
    rintro e w1 ⟨rfl, hb1⟩
    go_wp2_with fail
    refine (refsum_any a _ cap l _ ((hr.below hb1).mono hb1.size)).mono ?_
    rintro e w1' ⟨rfl, rfl⟩
    go_wp2_with fail
    refine (over_any s a _ cap l _ hs ((hr.below hb1).mono hb1.size)).mono ?_
    rintro e w2 ⟨rfl, hb2⟩
    have hb2' := thence hb1 hb2 (Nat.le_refl _)
    go_wp2_with fail
    refine (refover_any s a _ cap l _ hs ((hr.below hb2').mono hb2'.size)).mono ?_
    rintro e w2' ⟨rfl, rfl⟩
    have h2 := HS.out _ hb2'
    go_wp2
    go_ret
    exact ⟨rfl, hb2'⟩

theorem self_walk (a : Option Addr) (len cap : Nat) (l : List Nat) (b : Option Addr) (lenb capb : Nat) (m : List Nat) (w : World) (hr : Rd w.heap.size w a len cap l) (hq : Rd w.heap.size w b lenb capb m) :
    Calls Try.prog 8 #[.slice a len cap, .slice b lenb capb] w fun e w' => e = .returned (.bool true) ∧ Below w.heap.size w w' := by
  have hm := hr.small
  have hf := hr.fits
  have hl := hr.long
  have hm2 := hq.small
  have hf2 := hq.fits
  have hl2 := hq.long
  unfold maxLen at hm hm2
  subst hl hl2
  by_cases hb : 10000 < l.length
  · go_enter Try.func8, Try.ntmps8
    go_wp2_with fail
    refine (alive_any _).mono ?_
    rintro e w1 ⟨rfl, hb1⟩
    go_wp2
    go_ret
    exact ⟨rfl, hb1⟩
  · by_cases hc : 10000 < m.length
    · go_enter Try.func8, Try.ntmps8
      go_wp2_with fail
      refine (alive_any _).mono ?_
      rintro e w1 ⟨rfl, hb1⟩
      go_wp2
      go_ret
      exact ⟨rfl, hb1⟩
    · have e1 := PM.over_own hr.byt
      have e2 := PM.over_own hq.byt
      have l1 := PM.over_lt 0 l
      have l2 := PM.over_lt 0 m
      have E1 := Lib.hid e1
      have E2 := Lib.hid e2
      clear e1 e2
      go_enter Try.func8, Try.ntmps8
      go_wp2_with fail
      refine (alive_any _).mono ?_
      rintro e w1 ⟨rfl, hb1⟩
      go_wp2_with fail
      refine (sum_any a _ cap l _ ((hr.below hb1).mono hb1.size)).mono ?_
      rintro e w2 ⟨rfl, hb2⟩
      have k2 := thence hb1 hb2 (Nat.le_refl _)
      go_wp2_with fail
      refine (own_any a _ cap l _ ((hr.below k2).mono k2.size)).mono ?_
      rintro e w3 ⟨a3, rfl, r3, hb3⟩
      have k3 := thence k2 hb3 (Nat.le_refl _)
      go_wp2_with fail
      refine (over_any _ a3 4 4 _ _ l1 r3).mono ?_
      rintro e w4 ⟨rfl, hb4⟩
      have k4 := thence k3 hb4 (Nat.le_refl _)
      rw [E1.out]
      go_wp2_with fail
      refine (sum_any b _ capb m _ ((hq.below k4).mono k4.size)).mono ?_
      rintro e w5 ⟨rfl, hb5⟩
      have k5 := thence k4 hb5 (Nat.le_refl _)
      go_wp2_with fail
      refine (own_any b _ capb m _ ((hq.below k5).mono k5.size)).mono ?_
      rintro e w6 ⟨a6, rfl, r6, hb6⟩
      have k6 := thence k5 hb6 (Nat.le_refl _)
      go_wp2_with fail
      refine (over_any _ a6 4 4 _ _ l2 r6).mono ?_
      rintro e w7 ⟨rfl, hb7⟩
      have k7 := thence k6 hb7 (Nat.le_refl _)
      rw [E2.out]
      go_wp2
      go_ret
      exact ⟨rfl, k7⟩

/-- A slice of the call's own that owns just the bytes l. -/
def Own (w : World) (base : Nat) (v : Value) (l : List Nat) : Prop := w.ownsRow base 5 1 v l.length (l.map fun (n : Nat) => Value.int .u8 (n : Int))

theorem byte_info : (Try.prog.info? 5).map (fun i => (i.zero, i.size, i.bytes)) = some (some (.int .u8 0), 1, 1) := by kernel_rfl

/-- append of bytes onto a slice of the call's own, wherever they come from. -/
theorem append_bytes (w : World) (base : Nat) (v : Value) (l : List Nat) (hown : Own w base v l) (B : Nat) (a : Option Addr) (len cap : Nat) (m : List Nat) (hr : Rd B w a len cap m)
    (hsum : l.length + m.length ≤ 1000000) (hbase : base ≤ w.heap.size) :
    ∃ v' w', (Builtin.append_ #[26, 26] 26 #[v, .slice a len cap]).run Try.prog w = .ok v' w' ∧ Own w' base v' (l ++ m) ∧ w.grownBy w' v.ownBlock ∧ (v'.ownBlock = v.ownBlock ∨ v'.ownBlock = some w.heap.size) := by
  obtain ⟨i, hi, hz0, hz1, hz2⟩ := info_parts byte_info
  obtain ⟨rfl, hf, hm, hby, hn, hc⟩ := hr
  unfold Own at hown ⊢
  cases a with
  | none =>
    obtain ⟨h0, rfl⟩ := hn rfl
    have hl : m = [] := List.eq_nil_of_length_eq_zero h0
    subst hl
    refine ⟨v, w, ?_, by simpa using hown, World.grownBy.refl w _, .inl rfl⟩
    rcases hown.2 with ⟨rfl, h0⟩ | ⟨g, cp, cur, rfl, _, _, hnc, _⟩
    · simp [Builtin.append_, run_underlying Try.underlying26, sizeOf, typeInfo, hi, Builtin.lenOf, Builtin.firstCells]
    · simp [Builtin.append_, run_underlying Try.underlying26, sizeOf, typeInfo, hi, Builtin.lenOf, Builtin.firstCells, hnc, storeCells]
  | some x =>
    obtain ⟨v', w', h1, h2, h3, _, h5⟩ := run_append_own_at (P := Try.prog) w base 26 26 5 i (.int .u8 0) 1 1 Try.underlying26 hi hz0 hz1 hz2 rfl (by decide) v l.length _ hown x m.length cap (m.map fun (n : Nat) => Value.int .u8 (n : Int)) (by simp)
      (by
        intro j u hj
        have hjl : j < m.length := by
          rcases Nat.lt_or_ge j m.length with h | h
          · exact h
          · rw [List.getElem?_eq_none (by simpa using h)] at hj; cases hj
        obtain ⟨b, off, hx, hB, hcc⟩ := hc (by intro e; subst e; simp at hjl)
        injection hx with hx
        subst hx
        have ea : (⟨b, off, none⟩ : Addr).add j = ⟨b, off + j, none⟩ := by unfold Addr.add; split <;> simp_all
        rw [ea, hcc j hjl]
        simp [hjl] at hj
        rw [← hj]
        simp [List.getD, hjl])
      (by
        intro u hu
        simp at hu
        obtain ⟨n, _, rfl⟩ := hu
        rfl)
      (by unfold maxLen; omega) (by omega) hbase
    refine ⟨v', w', h1, ?_, h3, h5⟩
    simpa using h2

theorem Own.rd {w : World} {base : Nat} {v : Value} {l : List Nat} (h : Own w base v l) (hb : PM.Bytes l) : ∃ a cap, v = .slice a l.length cap ∧ Rd w.heap.size w a l.length cap l := by
  rcases h.2 with ⟨rfl, h0⟩ | ⟨g, cap, cur, rfl, hg, hh, hnc, hcm, hcs, htk⟩
  · have hl : l = [] := List.eq_nil_of_length_eq_zero h0
    subst hl
    exact ⟨none, 0, rfl, rd_nil _ _⟩
  · refine ⟨_, cap, rfl, ⟨rfl, hnc, hcm, hb, (fun h => nomatch h), fun hne => ⟨g, 0, rfl, ?_, fun i hi => ?_⟩⟩⟩
    · rcases Nat.lt_or_ge g w.heap.size with hlt | hge
      · exact hlt
      · rw [Array.getElem?_eq_none hge] at hh; cases hh
    · have hcell : w.cell? ⟨g, 0 + i, none⟩ = cur[0 + i]? := by simp [World.cell?, hh]
      rw [hcell, ← Array.getElem?_toList, Nat.zero_add]
      have : cur.toList[i]? = (cur.toList.take (l.length * 1))[i]? := by rw [List.getElem?_take, if_pos (by omega)]
      rw [this, htk]
      simp [List.getD, hi]

theorem own_nil (w : World) (base : Nat) : Own w base (.slice none 0 0) [] := World.ownsRow_nil _ _ _ _

/-- A walk's step at an append whose run is known. -/
theorem wpList_append_run {P : Program} {ops : Array Oper} {rest : List Oper} {o : Oper} {a : Act} {Q : Exit → Act → World → Prop} {w w' : World} {v' : Value} (hgd : o.guard = none) (s x : Operand) (t1 t2 : TypeId)
    (ho : o.op = .call { callee := .builtin .append, args := #[s, x], argTypes := #[t1, t2] }) (hrun : (Builtin.append_ #[t1, t2] o.type #[a.eval s, a.eval x]).run P w = .ok v' w')
    (h : wpList P ops Q rest (a.put o.dst v') w') : wpList P ops Q (o :: rest) a w := by
  refine wpList_plain hgd fun K hK => ?_
  unfold Oper.wp execOp
  simp only [ho, resolve, invoke, builtin, Sem.run_bind, Sem.run_pure, Result.andThen_ok, List.map_toArray, List.map_cons, List.map_nil, hrun]
  exact hK _ _ h

theorem on_walk (s : Nat) (a : Option Addr) (len cap : Nat) (l : List Nat) (b : Option Addr) (lenb capb : Nat) (m : List Nat) (w : World) (hs : s < 4294967296) (hr : Rd w.heap.size w a len cap l) (hq : Rd w.heap.size w b lenb capb m) :
    Calls Try.prog 5 #[.int .u32 s, .slice a len cap, .slice b lenb capb] w fun e w' => e = .returned (.bool true) ∧ Below w.heap.size w w' := by
  have hm := hr.small
  have hf := hr.fits
  have hl := hr.long
  have hm2 := hq.small
  have hf2 := hq.fits
  have hl2 := hq.long
  unfold maxLen at hm hm2
  subst hl hl2
  by_cases hb : 10000 < l.length
  · go_enter Try.func5, Try.ntmps5
    go_wp2_with fail
    refine (alive_any _).mono ?_
    rintro e w1 ⟨rfl, hb1⟩
    go_wp2
    go_ret
    exact ⟨rfl, hb1⟩
  · by_cases hc : 10000 < m.length
    · go_enter Try.func5, Try.ntmps5
      go_wp2_with fail
      refine (alive_any _).mono ?_
      rintro e w1 ⟨rfl, hb1⟩
      go_wp2
      go_ret
      exact ⟨rfl, hb1⟩
    · go_enter Try.func5, Try.ntmps5
      go_wp2_with fail
      refine (alive_any _).mono ?_
      rintro e w1 ⟨rfl, hb1⟩
      obtain ⟨v2, w2, r2, o2, g2, k2⟩ := append_bytes w1 w1.heap.size _ [] (own_nil _ _) w.heap.size a _ cap l (hr.below hb1) (by simp; omega) (Nat.le_refl _)
      have b2 : Below w1.heap.size w1 w2 := (Below.refl _ _).grown g2 (Nat.le_refl _) (by simp [Value.ownBlock])
      have k2' := thence hb1 b2 (Nat.le_refl _)
      obtain ⟨v3, w3, r3, o3, g3, k3⟩ := append_bytes w2 w1.heap.size v2 _ o2 w.heap.size b _ capb m (hq.below k2') (by simp; omega) b2.size
      have b3 : Below w1.heap.size w1 w3 := b2.grown g3 b2.size (fun k hk => by rcases k2 with e | e <;> rw [e] at hk <;> simp [Value.ownBlock] at hk; omega)
      have k3' := thence hb1 b3 (Nat.le_refl _)
      rw [List.nil_append] at o3
      have hbm : PM.Bytes (l ++ m) := fun x hx => by
        rcases List.mem_append.1 hx with h | h
        · exact hr.byt x h
        · exact hq.byt x h
      obtain ⟨a3, cap3, rfl, q3⟩ := o3.rd hbm
      rw [List.length_append] at q3
      have e1 : PM.over 0 (l ++ m) = PM.over (PM.over 0 l) m := PM.over_append l m hr.byt
      have e2 : PM.over s (l ++ m) = PM.over (PM.over s l) m := PM.over_append l m hr.byt
      have E1 := Lib.hid e1
      have E2 := Lib.hid e2
      have l1 := PM.over_lt 0 l
      have l2 := PM.over_lt s l
      have R2 := Lib.hid r2
      have R3 := Lib.hid r3
      clear e1 e2 o2 g2 k2 o3 g3 k3 r2 r3
      go_wp2_with (first | (at_builtin; refine wpList_append_run rfl _ _ _ _ rfl R2.out ?_) | (at_builtin; refine wpList_append_run rfl _ _ _ _ rfl R3.out ?_) | fail)
      refine (sum_any a3 _ cap3 (l ++ m) _ q3).mono ?_
      rintro e w4 ⟨rfl, hb4⟩
      have k4 := thence k3' hb4 (Nat.le_refl _)
      rw [E1.out]
      go_wp2_with fail
      refine (sum_any a _ cap l _ ((hr.below k4).mono k4.size)).mono ?_
      rintro e w5 ⟨rfl, hb5⟩
      have k5 := thence k4 hb5 (Nat.le_refl _)
      go_wp2_with fail
      refine (over_any _ b _ capb m _ l1 ((hq.below k5).mono k5.size)).mono ?_
      rintro e w6 ⟨rfl, hb6⟩
      have k6 := thence k5 hb6 (Nat.le_refl _)
      have j6 : Below w3.heap.size w3 w6 := thence (thence hb4 hb5 (Nat.le_refl _)) hb6 (Nat.le_refl _)
      go_wp2_with fail
      refine (over_any s a3 _ cap3 (l ++ m) _ hs ((q3.below j6).mono j6.size)).mono ?_
      rintro e w7 ⟨rfl, hb7⟩
      have k7 := thence k6 hb7 (Nat.le_refl _)
      rw [E2.out]
      go_wp2_with fail
      refine (over_any s a _ cap l _ hs ((hr.below k7).mono k7.size)).mono ?_
      rintro e w8 ⟨rfl, hb8⟩
      have k8 := thence k7 hb8 (Nat.le_refl _)
      go_wp2_with fail
      refine (over_any _ b _ capb m _ l2 ((hq.below k8).mono k8.size)).mono ?_
      rintro e w9 ⟨rfl, hb9⟩
      have k9 := thence k8 hb9 (Nat.le_refl _)
      go_wp2
      go_ret
      exact ⟨rfl, k9⟩
end Go.Proofs.Ytgebdjohnhlibaa.PW
