/-
  Contracts of layer 5: devices, and acts, in new memory; the document's own.
-/
import Derived.Test.YtnhfkfihlkbkfaaActsMay
import Derived.Test.YtnhfkfihlkbkfaaKinds
import Derived.Test.YtnhfkfihlkbkfaaDiskRefTwin
import Derived.Test.YtnhfkfihlkbkfaaHoist
namespace Go.Proofs.Ytnhfkfihlkbkfaa.PW
open Go.RowKit
open DK (Dv)
set_option linter.unusedVariables false
set_option linter.unusedSimpArgs false
set_option maxRecDepth 100000

def TwinDsRel (w : World) (len : Nat) (L : List Dn) (v i : Value) (wr : World) : Prop :=
  ∃ (M : List Dn) (ra : Option Addr) (rc : Nat), M.length ≤ len ∧ i = .int .i64 (M.length : Nat) ∧ v = .slice ra M.length rc ∧ devs M = (devs L).take M.length ∧ GrowK kDn 37 w.heap.size wr (.slice ra M.length rc) M ∧ Below w.heap.size w wr
/-- What a call hands back that makes a list of devices. -/
def NewDv (w : World) (Ds : List Dv) (e : Ending) (w' : World) : Prop :=
  ∃ a len cap M, e = .returned (.slice a len cap) ∧ Rg kDn 0 w'.heap.size w' a len cap M ∧ devs M = Ds ∧ Below w.heap.size w w'

set_option maxHeartbeats 1000000 in
theorem refTwinDs_any (a : Option Addr) (len cap : Nat) (L : List Dn) (w : World) (hr : Rg kDn 0 w.heap.size w a len cap L) (hf : ∀ D ∈ devs L, Fit D) (hm : len ≤ 1000) :
    Calls Try.prog 20 #[.slice a len cap] w (NewDv w (devs L)) := by
  have Hlen := Lib.hid hr.long
  have hs := hr.small'
  have Hr := Lib.hid hr
  have HF := Lib.hid hf
  clear hr hf
  go_enter Try.func20, Try.ntmps20
  go_wp2_with fail
  go_loopw [3, 4] (fun v i wr => TwinDsRel w len L v i wr) (fun _ i _ => len - (intOf i).toNat)
  case atStart => exact ⟨[], none, 0, Nat.zero_le _, rfl, rfl, rfl, GrowK.nil _ _ _ _, Below.refl _ _⟩
  case round =>
    obtain ⟨M, ra, rc, hk, rfl, rfl, hd, hg, hbw⟩ := hrel
    have WB := Lib.hid hbw
    have GM := Lib.hid hg
    have HD := Lib.hid hd
    have hMs : M.length ≤ 1000 := by omega
    clear hbw hg hd
    by_cases hlt : M.length < len
    · have hkL : M.length < L.length := by rw [← Hlen.out]; exact hlt
      obtain ⟨b, off, xa, xn, xc, xa', xn', xc', D, e1, -, e2, dv⟩ := Hr.out.dev M.length hkL
      subst e1
      obtain ⟨c0, c1, c2⟩ := (Hr.out.below WB.out (Nat.le_refl _)).dcell hkL e2
      have E2 : Hid ((devs L).getD M.length Dv.nil = D) := by show _ = _; rw [devs_getD, e2]
      have CT : Hid (Calls Try.prog 51 #[.agg #[.slice xa xn xc, .slice xa' xn' xc', .bool D.dead]] wr (TheDev wr D)) :=
        refTwin_any xa xn xc xa' xn' xc' D wr (((dv.keep (.ofBelow WB.out (Nat.le_refl _))).mono (Nat.le_refl _) WB.out.size).at) (HF.out D (by rw [← E2.out]; exact AK.mem_get (by rw [devs_length]; exact hkL)))
      have HKL := Lib.hid hkL
      clear e2 dv hkL
      obtain ⟨dd, hdd⟩ : ∃ dd, dd = D.dead := ⟨_, rfl⟩
      have HDD := Lib.hid hdd
      rw [← hdd] at CT c2
      clear hdd
      go_wp2_with fail
      refine CT.out.mono ?_
      rintro e w2 ⟨v2, rfl, od, b2⟩
      obtain ⟨ya, yn, yc, ya', yn', yc', rfl, -⟩ := od.at
      rw [← HDD.out] at od ⊢
      obtain ⟨v6, w6, r6, G6, b6⟩ := GM.out.step typed_dn WB.out.size (by omega) b2 (x := ⟨ya, yn, yc, ya', yn', yc', D⟩) od.inn.1 (Nat.le_refl _) (Nat.le_refl _)
      obtain ⟨ra6, rc6, rfl, -⟩ := G6.rg
      have R6 : Hid ((Builtin.append_ #[22, 22] 22 #[.slice ra M.length rc, .slice (some ⟨w2.heap.size, 0, none⟩) 1 1]).run Try.prog (w2.alloc (.cells #[.slice ya yn yc, .slice ya' yn' yc', .bool dd] 37)) = .ok (.slice ra6 (M ++ [(⟨ya, yn, yc, ya', yn', yc', D⟩ : Dn)]).length rc6) w6) := by
        have e : kDn.cells ⟨ya, yn, yc, ya', yn', yc', D⟩ = [.slice ya yn yc, .slice ya' yn' yc', .bool dd] := by rw [HDD.out]; rfl
        rw [e] at r6; exact r6
      have G6' := Lib.hid G6
      have B6 := Lib.hid ((thence WB.out b2 (Nat.le_refl _)).trans (b6.mono (Nat.le_refl _)))
      clear od b2 r6 G6 b6
      go_wp2_with (at_builtin; refine wpList_append_run rfl _ _ _ _ rfl R6.out ?_)
      go_roundw
      case rel =>
        refine ⟨M ++ [⟨ya, yn, yc, ya', yn', yc', D⟩], ra6, rc6, by simp; omega, by simp, by simp, ?_, G6'.out, B6.out⟩
        rw [devs_append, HD.out, List.length_append, List.length_singleton, List.take_succ_eq_append_getElem (by rw [devs_length]; exact HKL.out)]
        congr 1
        have := E2.out
        have hkl := HKL.out
        simp [List.getD, devs_length, hkl] at this
        show [D] = _
        rw [← this]
      case measure => simp [intOf]; omega
    · have hkl : M.length = len := by omega
      obtain ⟨_, _, ee, rg⟩ := GM.out.rg
      cases ee
      have RG := Lib.hid rg
      clear rg
      go_wp2_with fail
      go_ret
      exact ⟨ra, _, rc, M, rfl, RG.out, by rw [HD.out, List.take_of_length_le (by rw [devs_length, ← Hlen.out]; omega)], WB.out⟩

def TwinAsRel (w : World) (len : Nat) (L : List Ax) (v i : Value) (wr : World) : Prop :=
  ∃ (M : List Ax) (ra : Option Addr) (rc : Nat), M.length ≤ len ∧ i = .int .i64 (M.length : Nat) ∧ v = .slice ra M.length rc ∧ acs M = (acs L).take M.length ∧ GrowK kAx 33 w.heap.size wr (.slice ra M.length rc) M ∧ Below w.heap.size w wr
/-- What a call hands back that makes a list of acts. -/
def NewAs (w : World) (As : List AK.Ac) (e : Ending) (w' : World) : Prop :=
  ∃ a len cap M, e = .returned (.slice a len cap) ∧ Rg kAx 0 w'.heap.size w' a len cap M ∧ acs M = As ∧ Below w.heap.size w w'

set_option maxHeartbeats 1000000 in
theorem refTwinAs_any (a : Option Addr) (len cap : Nat) (L : List Ax) (w : World) (hr : Rg kAx 0 w.heap.size w a len cap L) (hf : ∀ A ∈ acs L, A.data.length ≤ 100000) (hm : len ≤ 1200) :
    Calls Try.prog 21 #[.slice a len cap] w (NewAs w (acs L)) := by
  have Hlen := Lib.hid hr.long
  have hs := hr.small'
  have Hr := Lib.hid hr
  have HF := Lib.hid hf
  clear hr hf
  go_enter Try.func21, Try.ntmps21
  go_wp2_with fail
  go_loopw [3, 4] (fun v i wr => TwinAsRel w len L v i wr) (fun _ i _ => len - (intOf i).toNat)
  case atStart => exact ⟨[], none, 0, Nat.zero_le _, rfl, rfl, rfl, GrowK.nil _ _ _ _, Below.refl _ _⟩
  case round =>
    obtain ⟨M, ra, rc, hk, rfl, rfl, hd, hg, hbw⟩ := hrel
    have WB := Lib.hid hbw
    have GM := Lib.hid hg
    have HD := Lib.hid hd
    have hMs : M.length ≤ 1200 := by omega
    clear hbw hg hd
    by_cases hlt : M.length < len
    · have hkL : M.length < L.length := by rw [← Hlen.out]; exact hlt
      obtain ⟨b, off, d1, k1, p1, xa, xn, xc, xl, e1, hbB, e2, rd, hk1⟩ := Hr.out.act M.length hkL
      subst e1
      have CX : Hid (∀ w', Below wr.heap.size wr w' → w'.cell? ⟨b, off + M.length * 4, none⟩ = some (.int .i64 d1) ∧ w'.cell? ⟨b, off + M.length * 4 + 1, none⟩ = some (.int .u8 (k1 : Int)) ∧ w'.cell? ⟨b, off + M.length * 4 + 2, none⟩ = some (.int .i64 p1) ∧ w'.cell? ⟨b, off + M.length * 4 + 3, none⟩ = some (.slice xa xn xc)) := fun w' h =>
        (Hr.out.below (thence WB.out h (Nat.le_refl _)) (Nat.le_refl _)).acell hkL e2
      have E2 : Hid ((acs L).getD M.length AK.Ac.nil = ⟨d1, k1, p1, xl⟩) := by show _ = _; rw [acs_getD, e2]; rfl
      have RD := Lib.hid rd.1
      have hxl : xl.length ≤ 100000 := by
        have := HF.out ⟨d1, k1, p1, xl⟩ (by rw [← E2.out]; exact AK.mem_get (by rw [acs_length]; exact hkL))
        exact this
      obtain ⟨c0, c1, c2, c3⟩ := CX.out wr (Below.refl _ _)
      have HKL := Lib.hid hkL
      have HXL := Lib.hid hxl
      have HK1 := Lib.hid hk1
      have hbw : b < wr.heap.size := Nat.lt_of_lt_of_le hbB WB.out.size
      have bxa := Bx.new wr [.int .i64 d1, .int .u8 (k1 : Int), .int .i64 p1, .slice none 0 0] 33
      have ala : Below wr.heap.size wr (wr.alloc (.cells #[.int .i64 d1, .int .u8 (k1 : Int), .int .i64 p1, .slice none 0 0] 33)) := (Below.refl _ _).alloc (Nat.le_refl _) _
      clear e2 rd hkL hxl hk1
      go_wp2_with fail
      generalize wr.alloc (.cells #[.int .i64 d1, .int .u8 (k1 : Int), .int .i64 p1, .slice none 0 0] 33) = W1 at *
      have BXA := Lib.hid bxa
      have ALA := Lib.hid ala
      clear bxa ala c0 c1 c2 c3
      refine wp_region_noPanic ?_
      refine PX.wp_region_y (fun w' => Below W1.heap.size W1 w') [9] (by kernel_rfl) (Below.refl _ _).drew (fun hHeld => ?_)
      refine PX.wpAnyY_take (i := 0) (oi := ?_) (v := ?_) ?_ (by kernel_rfl) (by kernel_rfl) (by kernel_rfl) (by kernel_rfl) (by kernel_rfl) (fun _ _ _ h => h) (Or.inl ⟨?_, ?_⟩) (by assumption) ?_
      rotate_left 2
      · simp only [List.getElem?_toArray, List.getElem?_cons_succ, List.getElem?_cons_zero]; rfl
      · rfl
      · intro w hSw; (try dsimp only at hSw); go_simp <;> with_reducible rfl
      (try simp only [Act.put, List.setIfInBounds_toArray, List.set_cons_zero, List.set_cons_succ])
      refine PX.wpAnyY_take (i := 1) (oi := ?_) (v := ?_) ?_ (by kernel_rfl) (by kernel_rfl) (by kernel_rfl) (by kernel_rfl) (by kernel_rfl) (fun _ _ _ h => h) (Or.inl ⟨?_, ?_⟩) (by assumption) ?_
      rotate_left 2
      · simp only [List.getElem?_toArray, List.getElem?_cons_succ, List.getElem?_cons_zero]; rfl
      · rfl
      · intro w hSw; (try dsimp only at hSw); have b3 := (BXA.out.here hSw).cell 3; simp only [List.getElem?_cons_zero, List.getElem?_cons_succ] at b3; go_simp <;> with_reducible rfl
      (try simp only [Act.put, List.setIfInBounds_toArray, List.set_cons_zero, List.set_cons_succ])
      refine PX.wpAnyY_take (i := 2) (oi := ?_) (v := ?_) ?_ (by kernel_rfl) (by kernel_rfl) (by kernel_rfl) (by kernel_rfl) (by kernel_rfl) (fun _ _ _ h => h) (Or.inl ⟨?_, ?_⟩) (by assumption) ?_
      rotate_left 2
      · simp only [List.getElem?_toArray, List.getElem?_cons_succ, List.getElem?_cons_zero]; rfl
      · rfl
      · intro w hSw; (try dsimp only at hSw); go_simp <;> with_reducible rfl
      (try simp only [Act.put, List.setIfInBounds_toArray, List.set_cons_zero, List.set_cons_succ])
      refine PX.wpAnyY_take (i := 3) (oi := ?_) (v := ?_) ?_ (by kernel_rfl) (by kernel_rfl) (by kernel_rfl) (by kernel_rfl) (by kernel_rfl) (fun _ _ _ h => h) (Or.inl ⟨?_, ?_⟩) (by assumption) ?_
      rotate_left 2
      · simp only [List.getElem?_toArray, List.getElem?_cons_succ, List.getElem?_cons_zero]; rfl
      · rfl
      · intro w hSw; (try dsimp only at hSw); go_simp <;> with_reducible rfl
      (try simp only [Act.put, List.setIfInBounds_toArray, List.set_cons_zero, List.set_cons_succ])
      refine PX.wpAnyY_take (i := 4) (oi := ?_) (v := ?_) ?_ (by kernel_rfl) (by kernel_rfl) (by kernel_rfl) (by kernel_rfl) (by kernel_rfl) (fun _ _ _ h => h) (Or.inl ⟨?_, ?_⟩) (by assumption) ?_
      rotate_left 2
      · simp only [List.getElem?_toArray, List.getElem?_cons_succ, List.getElem?_cons_zero]; rfl
      · rfl
      · intro w hSw; (try dsimp only at hSw); go_simp <;> with_reducible rfl
      (try simp only [Act.put, List.setIfInBounds_toArray, List.set_cons_zero, List.set_cons_succ])
      refine PX.wpAnyY_take (i := 5) (oi := ?_) (v := ?_) ?_ (by kernel_rfl) (by kernel_rfl) (by kernel_rfl) (by kernel_rfl) (by kernel_rfl) (fun _ _ _ h => h) (Or.inl ⟨?_, ?_⟩) (by assumption) ?_
      rotate_left 2
      · simp only [List.getElem?_toArray, List.getElem?_cons_succ, List.getElem?_cons_zero]; rfl
      · rfl
      · intro w hSw; (try dsimp only at hSw); go_simp <;> with_reducible rfl
      (try simp only [Act.put, List.setIfInBounds_toArray, List.set_cons_zero, List.set_cons_succ])
      refine PX.wpAnyY_take (i := 6) (oi := ?_) (v := ?_) ?_ (by kernel_rfl) (by kernel_rfl) (by kernel_rfl) (by kernel_rfl) (by kernel_rfl) (fun _ _ _ h => h) (Or.inl ⟨?_, ?_⟩) (by assumption) ?_
      rotate_left 2
      · simp only [List.getElem?_toArray, List.getElem?_cons_succ, List.getElem?_cons_zero]; rfl
      · rfl
      · intro w hSw; (try dsimp only at hSw); obtain ⟨k0, k1, k2, k3⟩ := CX.out _ (thence ALA.out hSw (Nat.le_refl _)); go_simp <;> with_reducible rfl
      (try simp only [Act.put, List.setIfInBounds_toArray, List.set_cons_zero, List.set_cons_succ])
      refine PX.wpAnyY_one (i := 7) (o := ?_) (by kernel_rfl) ?_ (fun Kq hKq => ?_)
      rotate_left
      · simp only [List.getElem?_toArray, List.getElem?_cons_succ, List.getElem?_cons_zero]; rfl
      obtain ⟨v6, w6, r6, o6, g6, q6⟩ := append_bytes W1.drew W1.heap.size (.slice none 0 0) [] (own_nil _ _) W1.drew.heap.size xa xn xc xl (((RD.out.below WB.out).mono WB.out.size).here (ALA.out.drew)) (by have := HXL.out; simp; omega) (Nat.le_refl _)
      have R6 := Lib.hid r6
      rw [List.nil_append] at o6
      obtain ⟨ya, yc, rfl, yrd⟩ := o6.rd RD.out.byt
      have IT := Lib.hid (Item.own o6 yrd)
      have B6 : Hid (Below W1.heap.size W1 w6) := ((Below.refl _ _).drew).grown g6 (Nat.le_refl _) (fun k hk => by cases hk)
      clear r6 o6 g6 q6 yrd
      refine PX.step_append_run _ _ _ _ (by rfl) (by rfl) R6.out ?_
      refine hKq.out _ _ (B6.out) (fun hHeld => ?_)
      clear hKq Kq
      (try simp only [Act.put, List.setIfInBounds_toArray, List.set_cons_zero, List.set_cons_succ])
      refine PX.wpAnyY_take (i := 8) (oi := ?_) (v := ?_) ?_ (by kernel_rfl) (by kernel_rfl) (by kernel_rfl) (by kernel_rfl) (by kernel_rfl) (fun _ _ _ h => h) (Or.inl ⟨?_, ?_⟩) (by assumption) ?_
      rotate_left 2
      · simp only [List.getElem?_toArray, List.getElem?_cons_succ, List.getElem?_cons_zero]; rfl
      · rfl
      · intro w hSw; (try dsimp only at hSw); go_simp <;> with_reducible rfl
      (try simp only [Act.put, List.setIfInBounds_toArray, List.set_cons_zero, List.set_cons_succ])
      refine PX.wpAnyY_free (i := 9) (o := ?_) (by kernel_rfl) (by kernel_rfl) ?_ (fun Kq hKq => ?_)
      rotate_left
      · simp only [List.getElem?_toArray, List.getElem?_cons_succ, List.getElem?_cons_zero]; rfl
      have b3 := (BXA.out.here B6.out).cell 3
      simp only [List.getElem?_cons_zero, List.getElem?_cons_succ] at b3
      have f3 := (BXA.out.here B6.out).frozen 3
      go_simp
      refine hKq.out _ _ ?_
      clear hKq Kq
      (try simp only [Act.put, List.setIfInBounds_toArray, List.set_cons_zero, List.set_cons_succ])
      refine PX.wpAnyY_done (by kernel_rfl) ?_ _
      refine NoPanic.normal ?_
      have B6' : Hid (Below wr.heap.size wr (w6.setCell ⟨wr.heap.size, 3, none⟩ (.slice ya xl.length yc))) := (thence ALA.out B6.out (Nat.le_refl _)).setCell (p := ⟨wr.heap.size, 3, none⟩) (Nat.le_refl _) _
      have it2 := IT.out.setCell ⟨wr.heap.size, 3, none⟩ BXA.out.lt (.slice ya xl.length yc)
      have IT2 := Lib.hid it2.inn
      have BX2 : Hid (Bx (w6.setCell ⟨wr.heap.size, 3, none⟩ (.slice ya xl.length yc)) wr.heap.size [.int .i64 d1, .int .u8 (k1 : Int), .int .i64 p1, .slice ya xl.length yc]) := (BXA.out.here B6.out).set 3 _
      have hw1 := ALA.out.size
      clear it2
      generalize w6.setCell ⟨wr.heap.size, 3, none⟩ (.slice ya xl.length yc) = W7 at *
      have q0 := BX2.out.cell 0
      have q1 := BX2.out.cell 1
      have q2 := BX2.out.cell 2
      have q3 := BX2.out.cell 3
      simp only [List.getElem?_cons_zero, List.getElem?_cons_succ] at q0 q1 q2 q3
      obtain ⟨v8, w8, r8, G8, b8⟩ := GM.out.step typed_ax WB.out.size (by omega) B6'.out (x := ⟨d1, k1, p1, ⟨ya, xl.length, yc, xl⟩⟩) (lo := W1.heap.size) (hi := W7.heap.size) ⟨IT2.out, HK1.out⟩ hw1 (Nat.le_refl _)
      obtain ⟨ra8, rc8, rfl, -⟩ := G8.rg
      have R8 : Hid ((Builtin.append_ #[27, 27] 27 #[.slice ra M.length rc, .slice (some ⟨W7.heap.size, 0, none⟩) 1 1]).run Try.prog (W7.alloc (.cells #[.int .i64 d1, .int .u8 (k1 : Int), .int .i64 p1, .slice ya xl.length yc] 33)) = .ok (.slice ra8 (M ++ [(⟨d1, k1, p1, ⟨ya, xl.length, yc, xl⟩⟩ : Ax)]).length rc8) w8) := r8
      have G8' := Lib.hid G8
      have B8 := Lib.hid ((thence WB.out B6'.out (Nat.le_refl _)).trans (b8.mono (Nat.le_refl _)))
      clear r8 G8 b8 hw1
      generalize xl.length = xm at *
      go_wp2_with (at_builtin; refine wpList_append_run rfl _ _ _ _ rfl R8.out ?_)
      go_roundw
      case rel =>
        refine ⟨M ++ [⟨d1, k1, p1, ⟨ya, xm, yc, xl⟩⟩], ra8, rc8, by simp; omega, by simp, by simp, ?_, G8'.out, B8.out⟩
        have ea : acs (M ++ [⟨d1, k1, p1, ⟨ya, xm, yc, xl⟩⟩]) = acs M ++ [⟨d1, k1, p1, xl⟩] := by unfold acs; rw [List.map_append]; rfl
        rw [ea, HD.out, List.length_append, List.length_singleton, List.take_succ_eq_append_getElem (by rw [acs_length]; exact HKL.out)]
        congr 1
        have := E2.out
        have hkl := HKL.out
        simp [List.getD, acs_length, hkl] at this
        show [_] = _
        rw [← this]
      case measure => simp [intOf]; omega
    · have hkl : M.length = len := by omega
      obtain ⟨_, _, ee, rg⟩ := GM.out.rg
      cases ee
      have RG := Lib.hid rg
      clear rg
      go_wp2_with fail
      go_ret
      exact ⟨ra, _, rc, M, rfl, RG.out, by rw [HD.out, List.take_of_length_le (by rw [acs_length, ← Hlen.out]; omega)], WB.out⟩
end Go.Proofs.Ytnhfkfihlkbkfaa.PW
