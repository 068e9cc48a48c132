/-
  The walk of FoldTells: the fold is the document's own answer; what is handed in is only read; what is answered is new memory.
-/
import Derived.Test.YticojepedpionaaFoldRefs
import Derived.Test.YticojepedpionaaFoldLaws
import Derived.Deep.QuietTactic
import Derived.BigQuiet
namespace Go.Proofs.Yticojepedpionaa.PW
open Go.RowKit
set_option linter.unusedVariables false

theorem Rd.grown {B : Nat} {w w' : World} {row : Option Nat} {a : Option Addr} {len cap : Nat} {l : List Nat} (h : Rd B w a len cap l) (hg : w.grownBy w' row) (hB : B ≤ w.heap.size) (hne : ∀ x, a = some x → l ≠ [] → row ≠ some x.block) : Rd B w' a len cap l :=
  ⟨h.long, h.fits, h.small, h.byt, h.nil, fun hl => (by
    obtain ⟨b, off, ha, hb, hc⟩ := h.cells hl
    refine ⟨b, off, ha, hb, fun i hi => ?_⟩
    have hn : some b ≠ row := fun e => hne _ ha hl e.symm
    have := World.grownBy.cell_far hg ⟨b, off + i, none⟩ (by show b < _; omega) hn
    rw [this]
    exact hc i hi)⟩

/-- Slices in blocks other than that of the list that holds them. -/
def Apart (v : Value) (K : List Hd) : Prop := ∀ z ∈ K, ∀ x, z.a = some x → z.l ≠ [] → v.ownBlock ≠ some x.block

/-- One more slice in new memory. -/
theorem twin_step (w wr : World) (v : Value) (K : List Hd) (o : OwnS wr w.heap.size v K) (each : ∀ z ∈ K, z.Rd wr.heap.size wr) (ap : Apart v K) (hb : Below w.heap.size w wr) (hK : K.length ≤ 1000)
    (xa : Option Addr) (xl xc : Nat) (xv : List Nat) {B : Nat} (hx : Rd B wr xa xl xc xv) (hxl : xv.length ≤ 1000) :
    ∃ a5 cap5 w5 v6 w6, (Builtin.append_ #[22, 22] 22 #[.slice none 0 0, .slice xa xl xc]).run Try.prog wr = .ok (.slice a5 xv.length cap5) w5 ∧
      (Builtin.append_ #[27, 27] 27 #[v, .slice (some ⟨w5.heap.size, 0, none⟩) 1 1]).run Try.prog (w5.alloc (.cells #[.slice a5 xv.length cap5] 22)) = .ok v6 w6 ∧
      OwnS w6 w.heap.size v6 (K ++ [⟨a5, xv.length, cap5, xv⟩]) ∧ (∀ z ∈ K ++ [⟨a5, xv.length, cap5, xv⟩], z.Rd w6.heap.size w6) ∧ Apart v6 (K ++ [⟨a5, xv.length, cap5, xv⟩]) ∧ Below w.heap.size w w6 := by
  obtain ⟨v5, w5, r5, o5, g5, q5⟩ := append_bytes wr wr.heap.size _ [] (own_nil _ _) B xa xl xc xv hx (by simp; omega) (Nat.le_refl _)
  have b5 : Below wr.heap.size wr w5 := (Below.refl _ _).grown g5 (Nat.le_refl _) (by simp [Value.ownBlock])
  rw [List.nil_append] at o5
  have hlow := World.ownsRow.lt o5
  obtain ⟨a5, cap5, rfl, rd5⟩ := o5.rd hx.byt
  have hlow5 : ∀ x, a5 = some x → xv ≠ [] → wr.heap.size ≤ x.block := by
    intro x hx1 hne
    obtain ⟨g, cp, hv, hg, _⟩ := o5.form (List.length_pos_iff.2 hne)
    injection hv with hv1
    rw [hx1] at hv1
    injection hv1 with hv1
    rw [hv1]
    exact hg
  have ha5 : Below wr.heap.size wr (w5.alloc (.cells #[.slice a5 xv.length cap5] 22)) := b5.alloc b5.size _
  have hlit := rds_lit w5 (w5.alloc (.cells #[.slice a5 xv.length cap5] 22)) [⟨a5, xv.length, cap5, xv⟩] #[.slice a5 xv.length cap5] 1 1 (0, 0) rfl rfl rfl rfl (by unfold maxLen; simp) (by
    intro h hh
    obtain rfl := List.mem_singleton.1 hh
    exact rd5)
  have o' : OwnS (w5.alloc (.cells #[.slice a5 xv.length cap5] 22)) w.heap.size v K := (o.grown b5).alloc _
  have hsz : w.heap.size ≤ (w5.alloc (.cells #[.slice a5 xv.length cap5] 22)).heap.size := Nat.le_trans hb.size ha5.size
  obtain ⟨v6, w6, r6, o6, g6, q6⟩ := append_rows _ w.heap.size v K o' _ _ 1 1 _ hlit (by simp; omega) hsz
  have own : ∀ k, v.ownBlock = some k → w.heap.size ≤ k ∧ k < wr.heap.size := fun k hk => World.ownsRow.lt o k hk
  have b6 : Below w.heap.size w w6 := (thence hb ha5 (Nat.le_refl _)).grown g6 hsz (fun k hk => (own k hk).1)
  have hs6 := g6.size
  have hs5 := ha5.size
  -- what was there
  have old : ∀ z ∈ K, z.Rd wr.heap.size w6 := by
    intro z hz
    refine Rd.grown ((each z hz).below ha5) g6 hs5 (fun x hx1 hne => ?_)
    exact ap z hz x hx1 hne
  have new : (⟨a5, xv.length, cap5, xv⟩ : Hd).Rd w5.heap.size w6 := by
    have h5 : (⟨a5, xv.length, cap5, xv⟩ : Hd).Rd w5.heap.size (w5.alloc (.cells #[.slice a5 xv.length cap5] 22)) := rd5.below ((Below.refl _ _).alloc (Nat.le_refl _) _)
    refine Rd.grown h5 g6 (by simp) (fun x hx1 hne => ?_)
    intro e
    have h1 := (own _ e).2
    have h2 := hlow5 x hx1 hne
    omega
  refine ⟨a5, cap5, w5, v6, w6, r5, r6, o6, ?_, ?_, b6⟩
  · intro z hz
    rcases List.mem_append.1 hz with h | h
    · exact (old z h).mono (by omega)
    · obtain rfl := List.mem_singleton.1 h
      exact new.mono (by simp at hs6; omega)
  · intro z hz x hx1 hne
    have low : x.block < (w5.alloc (.cells #[.slice a5 xv.length cap5] 22)).heap.size := by
      rcases List.mem_append.1 hz with h | h
      · obtain ⟨b, off, ha, hbb, _⟩ := (each z h).cells hne
        rw [hx1] at ha
        injection ha with ha
        subst ha
        show b < _
        omega
      · obtain rfl := List.mem_singleton.1 h
        obtain ⟨b, off, ha, hbb, _⟩ := rd5.cells hne
        have hx2 : a5 = some x := hx1
        rw [hx2] at ha
        injection ha with ha
        subst ha
        show b < _
        simp
        omega
    rcases q6 with e | e
    · rw [e]
      rcases List.mem_append.1 hz with h | h
      · exact ap z h x hx1 hne
      · obtain rfl := List.mem_singleton.1 h
        intro e2
        have h1 := (own _ e2).2
        have h2 := hlow5 x hx1 hne
        omega
    · rw [e]
      intro e2
      injection e2 with e2
      omega

set_option maxRecDepth 100000 in
set_option maxHeartbeats 1000000 in
theorem twin_any (a : Option Addr) (len cap : Nat) (H : List Hd) (w : World) (hr : Rds w.heap.size w a len cap H) (h1 : big (lists H) = false) :
    Calls Try.prog 14 #[.slice a len cap] w fun e w' => ∃ a' cap' K, e = .returned (.slice a' len cap') ∧ Rds w'.heap.size w' a' len cap' K ∧ lists K = lists H ∧ Below w.heap.size w w' := by
  obtain rfl := hr.long
  obtain ⟨hl1, hl2⟩ := big_no h1
  have HL := Lib.hid (lists_length H)
  have Hgt := Lib.hid (lists_getD H)
  have HL2 := Lib.hid hl2
  rw [lists_length] at hl1
  have Hr := Lib.hid hr
  generalize lists H = L at *
  clear hr h1 hl2
  generalize hn : H.length = n at *
  have Hn := Lib.hid hn
  clear hn
  go_enter Try.func14, Try.ntmps14
  go_wp2
  go_loopw [3, 4] (fun v i wr => ∃ (k : Nat) (K : List Hd), k ≤ n ∧ i = .int .i64 k ∧ OwnS wr w.heap.size v K ∧ Hid (K.length = k) ∧ Hid (lists K = L.take k) ∧ Hid (∀ z ∈ K, z.Rd wr.heap.size wr) ∧ Hid (Apart v K) ∧ Below w.heap.size w wr) (fun _ i _ => n - (intOf i).toNat)
  case atStart =>
    refine ⟨0, [], by omega, rfl, owns_nil _ _, ?_, ?_, ?_, ?_, Below.refl _ _⟩
    · exact (rfl : ([] : List Hd).length = 0)
    · exact (rfl : lists [] = L.take 0)
    · exact (fun z hz => nomatch hz : ∀ z ∈ ([] : List Hd), z.Rd w.heap.size w)
    · exact (fun z hz => nomatch hz : Apart _ [])
  case round =>
    obtain ⟨k, K, hk, rfl, o, hKl, hKL, each, ap, kb⟩ := hrel
    by_cases hlt : k < n
    · obtain ⟨b, off, xa, xlen, xcap, xl, rfl, hbB, hx, hcell, hxr⟩ := (Hr.out.below kb).at k (by rw [Hn.out]; exact hlt)
      have hxl : L.getD k [] = xl := by rw [Hgt.out, hx]
      have hx1000 : xl.length ≤ 1000 := by rw [← hxl]; exact HL2.out _ (mem_getD (by rw [HL.out]; exact hlt))
      obtain ⟨a5, cap5, w5, v6, w6, r5, r6, o6, each6, ap6, b6⟩ := twin_step w wr u3 K o each.out ap.out kb (by rw [hKl.out]; omega) xa xlen xcap xl hxr hx1000
      have hl6 : lists (K ++ [(⟨a5, xl.length, cap5, xl⟩ : Hd)]) = L.take (k + 1) := by
        rw [lists_append, hKL.out, List.take_add_one, List.getElem?_eq_getElem (by rw [HL.out]; exact hlt)]
        have : L[k]'(by rw [HL.out]; exact hlt) = xl := by rw [← hxl]; simp [List.getD, show k < L.length by rw [HL.out]; exact hlt]
        rw [this]
        rfl
      have hln : (K ++ [(⟨a5, xl.length, cap5, xl⟩ : Hd)]).length = k + 1 := by rw [List.length_append, hKl.out]; rfl
      have R5 := Lib.hid r5
      have R6 := Lib.hid r6
      have O6 := Lib.hid o6
      have E6 := Lib.hid each6
      have A6 := Lib.hid ap6
      have B6 := Lib.hid b6
      have L6 := Lib.hid hl6
      have N6 := Lib.hid hln
      generalize K ++ [(⟨a5, xl.length, cap5, xl⟩ : Hd)] = K6 at *
      clear r5 r6 o6 each6 ap6 b6 hl6 hln o each ap kb hKl hKL hxr hxl hx hx1000
      generalize xl.length = q at *
      go_wp2_with (first | (at_builtin; refine wpList_append_run rfl _ _ _ _ rfl R5.out ?_) | (at_builtin; refine wpList_append_run rfl _ _ _ _ rfl R6.out ?_) | fail)
      go_roundw
      case rel => exact ⟨k + 1, K6, by omega, by go_num, O6.out, N6.out, L6.out, E6.out, A6.out, B6.out⟩
      case measure => simp [intOf]; omega
    · obtain rfl : k = n := by omega
      obtain ⟨a', cap', rfl, rd⟩ := o.rds each.out
      have hl := hKL.out
      rw [List.take_of_length_le (by rw [HL.out]; exact Nat.le_refl _)] at hl
      rw [hKl.out] at rd
      have HH := Lib.hid hl
      have RD := Lib.hid rd
      have KN := hKl.out
      clear o each ap hKL hl rd
      generalize K.length = q at KN
      subst KN
      go_wp2
      go_ret
      exact ⟨a', cap', K, rfl, RD.out, HH.out, kb⟩

set_option maxRecDepth 100000 in
set_option maxHeartbeats 1000000 in
theorem same_yes (a : Option Addr) (len cap : Nat) (K : List Hd) (b : Option Addr) (lenb capb : Nat) (H : List Hd) (w : World) {B : Nat} (hr : Rds B w a len cap K) (hq : Rds B w b lenb capb H) (h : lists K = lists H) (hB : B ≤ w.heap.size) (hm : H.length ≤ 300) :
    Calls Try.prog 16 #[.slice a len cap, .slice b lenb capb] w fun e w' => e = .returned (.bool true) ∧ Below w.heap.size w w' := by
  have hl : K.length = H.length := by rw [← lists_length K, h, lists_length]
  obtain rfl := hr.long
  obtain rfl := hq.long
  have Hg := Lib.hid (lists_getD H)
  have Kg := Lib.hid (lists_getD K)
  rw [h] at Kg
  have Hr := Lib.hid hr
  have Hq := Lib.hid hq
  rw [hl] at Hr ⊢
  have Hl := Lib.hid hl
  clear hr hq h hl
  generalize lists H = L at *
  generalize hn : H.length = n at *
  have Hn := Lib.hid hn
  clear hn
  go_enter Try.func16, Try.ntmps16
  go_wp2
  go_loopw [5] (fun j wr => ∃ k : Nat, k ≤ n ∧ j = .int .i64 k ∧ Below w.heap.size w wr) (fun j _ => n - (intOf j).toNat)
  case atStart => exact ⟨0, by omega, rfl, Below.refl _ _⟩
  case round =>
    obtain ⟨k, hk, rfl, kb⟩ := hrel
    by_cases hlt : k < n
    · have kB := kb.mono hB
      obtain ⟨b1, off1, xa, xlen, xcap, xl, rfl, hb1, hx, c1, rx⟩ := (Hr.out.below kB).at k (by rw [Hl.out]; exact hlt)
      obtain ⟨b2, off2, ya, ylen, ycap, yl, rfl, hb2, hy, c2, ry⟩ := (Hq.out.below kB).at k (by rw [Hn.out]; exact hlt)
      have e : xl = yl := by
        have e1 := Kg.out k
        rw [Hg.out k, hx, hy] at e1
        exact e1.symm
      subst e
      have t1 := fun nq => text_is (wr.drewN nq) _ _ _ _ (rx.drewN nq)
      have t2 := fun nq => text_is (wr.drewN nq) _ _ _ _ (ry.drewN nq)
      have t3 := text_is wr _ _ _ _ rx
      have t4 := text_is wr _ _ _ _ ry
      generalize str xl = s at *
      have Hk := Lib.hid hlt
      clear rx ry hx hy kB
      go_wp2
      go_quiet (fail)
      go_wp2
      go_roundw
      case rel => exact ⟨k + 1, by have := Hk.out; omega, by go_num, below_drewN kb _⟩
      case measure => have := Hk.out; simp [intOf]; omega
    · obtain rfl : k = n := by omega
      go_wp2
      go_ret
      exact ⟨rfl, kb⟩

theorem fold_folded (a : Option Addr) (len cap : Nat) (H : List Hd) (L : List (List Nat)) (w : World) (hr : Rds w.heap.size w a len cap H) (h : lists H = L) :
    Calls Try.prog 10 #[.slice a len cap] w (Folded w L) := by
  subst h; exact fold_any a len cap H w hr
theorem reffold_folded (a : Option Addr) (len cap : Nat) (H : List Hd) (L : List (List Nat)) (w : World) (hr : Rds w.heap.size w a len cap H) (h : lists H = L) :
    Calls Try.prog 15 #[.slice a len cap] w (Folded w L) := by
  subst h; exact reffold_any a len cap H w hr

set_option maxRecDepth 100000 in
set_option maxHeartbeats 2000000 in
theorem tells_walk (a : Option Addr) (len cap : Nat) (H : List Hd) (w : World) (hr : Rds w.heap.size w a len cap H) :
    Calls Try.prog 4 #[.slice a len cap] w fun e w' => e = .returned (.bool true) ∧ Below w.heap.size w w' := by
  obtain rfl := hr.long
  have GA := Lib.hid (great_any a H.length cap H w hr)
  rcases Bool.eq_false_or_eq_true (big (lists H)) with h1 | h1
  · rw [h1] at GA
    clear hr h1
    go_enter Try.func4, Try.ntmps4
    go_wp2_with fail
    refine GA.out.mono ?_
    rintro e w1 ⟨rfl, rfl⟩
    go_wp2
    go_ret
    exact ⟨rfl, Below.refl _ _⟩
  · rw [h1] at GA
    have hl1 := (big_no h1).1
    rw [lists_length] at hl1
    have TW := Lib.hid (twin_any a _ cap H w hr h1)
    have FL := Lib.hid (FO.fold_length (lists H))
    have FB : Hid (Bytes (FO.fold (lists H))) := FO.fold_bytes hr.bytes
    have CF := Lib.hid (fun a' cap' K w' hr => fold_folded a' H.length cap' K (lists H) w' hr)
    have CR := Lib.hid (fun w' hr => reffold_folded a H.length cap H (lists H) w' hr rfl)
    have CS := Lib.hid (fun a' cap' K w' B hr hq h hB => same_yes a' H.length cap' K a H.length cap H w' (B := B) hr hq h hB hl1)
    have Hr := Lib.hid hr
    unfold Folded NewBlk at CF CR
    clear hr h1
    generalize lists H = L at *
    generalize FO.fold L = fa at *
    generalize FO.code L = ca at *
    generalize H.length = n at *
    go_enter Try.func4, Try.ntmps4
    go_wp2_with fail
    refine GA.out.mono ?_
    rintro e w1 ⟨rfl, rfl⟩
    go_wp2_with fail
    refine TW.out.mono ?_
    rintro e w1 ⟨a1, cap1, K, rfl, rK, hK, hb1⟩
    have RK := Lib.hid rK
    have HK := Lib.hid hK
    have K1 := Lib.hid hb1
    clear rK hK hb1 GA TW
    go_wp2_with fail
    refine (CF.out _ _ _ _ RK.out HK.out).mono ?_
    rintro e w2 (⟨h0, gx, rfl, hgx, bx, hb2⟩ | ⟨h0, rfl, hb2⟩)
    · subst h0
      have K2 := Lib.hid (thence K1.out hb2 (Nat.le_refl _))
      have D2 := Lib.hid hb2
      have PX := Lib.hid bx
      have HG := Lib.hid hgx
      clear bx hgx hb2
      go_wp2_with fail
      refine (CR.out _ (Hr.out.here K2.out)).mono ?_
      rintro e w3 (⟨h0, gy, rfl, hgy, bY, hb3⟩ | ⟨h0, _⟩)
      · replace D2 := Lib.hid (thence D2.out hb3 (Nat.le_refl _))
        replace K2 := Lib.hid (thence K2.out hb3 (Nat.le_refl _))
        have t1 := text_at (w' := w3) PX.out FL.out FB.out hb3
        have t2 := text_at (w' := w3) bY FL.out FB.out (Below.refl _ _)
        have bx3 := PX.out.below hb3 PX.out.lt
        clear hgy bY hb3 CR CF h0
        go_wp2_with fail
        go_loopw [8] (fun j wr => ∃ (k : Nat) (l : List Nat), k ≤ 128 ∧ j = .int .i64 k ∧ Hid (l.length = 128) ∧ Blk wr gx l ∧ Below w1.heap.size w1 wr) (fun j _ => 128 - (intOf j).toNat)
        case atStart => exact ⟨0, fa, by omega, rfl, FL.out, bx3, D2.out⟩
        case round =>
          obtain ⟨k, l, hk, rfl, hl, hb, kb⟩ := hrel
          by_cases hlt : k < 128
          · have f1 := hb.cell k (by rw [hl.out]; exact hlt)
            have f2 := hb.frozen k
            have e : IntKind.u8.wrap (((l.getD k 0 : Nat) : Int) + 1) = (((l.getD k 0 + 1) % 256 : Nat) : Int) := by
              rw [← byte_of]; rfl
            have hs := hb.set k ((l.getD k 0 + 1) % 256)
            have hb' : Below w1.heap.size w1 (wr.setCell ⟨gx, k, none⟩ (.int .u8 (((l.getD k 0 + 1) % 256 : Nat) : Int))) := kb.setCell HG.out _
            have Hs := Lib.hid hs
            have Hb := Lib.hid hb'
            have Hls : Hid ((l.set k ((l.getD k 0 + 1) % 256)).length = 128) := by show _ = _; rw [List.length_set, hl.out]
            have Hk := Lib.hid hlt
            generalize l.set k ((l.getD k 0 + 1) % 256) = l2 at *
            clear hs hb' hb kb bx3
            generalize (l.getD k 0 + 1) % 256 = z at *
            generalize l.getD k 0 = x at *
            go_wp2
            go_roundw
            case rel => exact ⟨k + 1, l2, by have := Hk.out; omega, by go_num, Hls.out, Hs.out, Hb.out⟩
            case measure => have := Hk.out; simp [intOf]; omega
          · obtain rfl : k = 128 := by omega
            have kw := thence K1.out kb (Nat.le_refl _)
            have C := Lib.hid (CS.out _ _ K wr w1.heap.size (RK.out.below kb) ((Hr.out.below kw).mono K1.out.size) HK.out kb.size)
            have KW := Lib.hid kw
            clear hb kb kw bx3 CS
            go_wp2_with fail
            refine C.out.mono ?_
            rintro e w5 ⟨rfl, hb5⟩
            go_wp2
            go_ret
            exact ⟨rfl, thence KW.out hb5 (Nat.le_refl _)⟩
      · exact absurd rfl h0
    · have K2 := Lib.hid (thence K1.out hb2 (Nat.le_refl _))
      have D2 := Lib.hid hb2
      have H0 := Lib.hid h0
      clear hb2 h0
      go_wp2_with fail
      refine (CR.out _ (Hr.out.here K2.out)).mono ?_
      rintro e w3 (⟨h0, _⟩ | ⟨h0, rfl, hb3⟩)
      · exact absurd h0 H0.out
      · replace D2 := Lib.hid (thence D2.out hb3 (Nat.le_refl _))
        replace K2 := Lib.hid (thence K2.out hb3 (Nat.le_refl _))
        have t1 := text_is w3 none 0 0 [] (rd_nil 0 w3)
        clear hb3 h0 CR CF
        go_wp2_with fail
        go_loop [8] (fun i => i = .int .i64 0) (fun _ => 0)
        case atStart => rfl
        case round =>
          subst hrel
          have C := Lib.hid (CS.out _ _ K w3 w1.heap.size (RK.out.below D2.out) ((Hr.out.below K2.out).mono K1.out.size) HK.out D2.out.size)
          clear CS t1
          go_wp2_with fail
          refine C.out.mono ?_
          rintro e w5 ⟨rfl, hb5⟩
          go_wp2
          go_ret
          exact ⟨rfl, thence K2.out hb5 (Nat.le_refl _)⟩
end Go.Proofs.Yticojepedpionaa.PW
