/-
  Contracts of layer 5: the ways in which an act is done, and 'done'.
-/
import Derived.Test.YtnhfkfihlkbkfaaActsTwins
import Derived.Test.YtnhfkfihlkbkfaaActsMath
import Derived.Test.YtnhfkfihlkbkfaaActsMay
import Derived.Test.YtnhfkfihlkbkfaaHoist
import Derived.Test.YtnhfkfihlkbkfaaDiskAlive
import Derived.Laws.EntriesVeiled
namespace Go.Proofs.Ytnhfkfihlkbkfaa.PW
open Go.RowKit
open DK (Dv)
set_option linter.unusedVariables false
set_option linter.unusedSimpArgs false
set_option maxRecDepth 100000

set_option maxHeartbeats 1000000 in
theorem mwrite_any (x : Dn) (d p : Int) (kd : Nat) (xa : Option Addr) (xlen xcap : Nat) (xl : List Nat) (w : World) (hr : DevAt w.heap.size w x.a x.n x.c x.a' x.n' x.c' x.D) (hf : Fit x.D) (hq : Rd w.heap.size w xa xlen xcap xl) (hl : xl.length ≤ 100000) :
    Calls Try.prog 71 #[x.val, .agg #[.int .i64 d, .int .u8 (kd : Int), .int .i64 p, .slice xa xlen xcap]] w (NewDev w (writeDev x.D p xl) (DK.wcode' x.D p xl)) := by
  obtain ⟨a, n, c, a', n', c', D⟩ := x
  show Calls Try.prog 71 #[.agg #[.slice a n c, .slice a' n' c', .bool D.dead], .agg #[.int .i64 d, .int .u8 (kd : Int), .int .i64 p, .slice xa xlen xcap]] w (NewDev w (writeDev D p xl) (DK.wcode' D p xl))
  have hr : DevAt w.heap.size w a n c a' n' c' D := hr
  have hf : Fit D := hf
  have bA := ((Bx.new w [.slice a n c, .slice a' n' c', .bool D.dead] 102).alloc (.cells #[.int .i64 d, .int .u8 (kd : Int), .int .i64 p, .slice xa xlen xcap] 33)).alloc (.cells #[.slice none 0 0, .slice none 0 0, .bool false] 37)
  have bB := (Bx.new (w.alloc (.cells #[.slice a n c, .slice a' n' c', .bool D.dead] 102)) [.int .i64 d, .int .u8 (kd : Int), .int .i64 p, .slice xa xlen xcap] 33).alloc (.cells #[.slice none 0 0, .slice none 0 0, .bool false] 37)
  have bC := Bx.new ((w.alloc (.cells #[.slice a n c, .slice a' n' c', .bool D.dead] 102)).alloc (.cells #[.int .i64 d, .int .u8 (kd : Int), .int .i64 p, .slice xa xlen xcap] 33)) [.slice none 0 0, .slice none 0 0, .bool false] 37
  simp only [World.size_alloc] at bB bC
  have al : Below w.heap.size w (((w.alloc (.cells #[.slice a n c, .slice a' n' c', .bool D.dead] 102)).alloc (.cells #[.int .i64 d, .int .u8 (kd : Int), .int .i64 p, .slice xa xlen xcap] 33)).alloc (.cells #[.slice none 0 0, .slice none 0 0, .bool false] 37)) := (((Below.refl _ _).alloc (Nat.le_refl _) _).alloc (by simp) _).alloc (by simp; omega) _
  have CC := Lib.hid (write_any a n c a' n' c' D p xa xlen xcap xl _ (hr.here al) hf (hq.here al) hl)
  have AL := Lib.hid al
  have BA := Lib.hid bA
  have BB := Lib.hid bB
  have BC := Lib.hid bC
  clear al bA bB bC hr hf hq hl
  generalize hE : writeDev D p xl = E at *
  generalize hQ : DK.wcode' D p xl = q at *
  clear hE hQ
  obtain ⟨dd, hdd⟩ : ∃ dd, dd = D.dead := ⟨_, rfl⟩
  rw [← hdd] at CC AL BA BB BC ⊢
  clear hdd
  go_enter Try.func71, Try.ntmps71
  go_wp2_with fail
  refine CC.out.mono ?_
  intro e w2 hn
  obtain ⟨ya, yn, yc, ya', yn', yc', rfl, od, -, b2⟩ := hn.open
  have bc := BC.out.here b2
  obtain ⟨q0, q1, q2⟩ := bc.three
  have f0 := bc.frozen 0
  have f1 := bc.frozen 1
  have f2 := bc.frozen 2
  have bs := ((bc.set 0 (.slice ya yn yc)).set 1 (.slice ya' yn' yc')).set 2 (.bool E.dead)
  have FB := Lib.hid bs
  have l2 := AL.out.size
  have sz : w.heap.size + 2 < w2.heap.size := bc.lt
  have l3 : w.heap.size + 1 + 1 < (((w.alloc (.cells #[.slice a n c, .slice a' n' c', .bool dd] 102)).alloc (.cells #[.int .i64 d, .int .u8 (kd : Int), .int .i64 p, .slice xa xlen xcap] 33)).alloc (.cells #[.slice none 0 0, .slice none 0 0, .bool false] 37)).heap.size := BC.out.lt
  have od3 := ((od.setCell ⟨w.heap.size + 1 + 1, 0, none⟩ l3 (.slice ya yn yc)).setCell ⟨w.heap.size + 1 + 1, 1, none⟩ l3 (.slice ya' yn' yc')).setCell ⟨w.heap.size + 1 + 1, 2, none⟩ l3 (.bool E.dead)
  have OD := Lib.hid (od3.mono l2)
  have BL := Lib.hid ((((thence AL.out b2 (Nat.le_refl _)).setCell (p := ⟨w.heap.size + 1 + 1, 0, none⟩) (by show w.heap.size ≤ w.heap.size + 1 + 1; omega) (.slice ya yn yc)).setCell (p := ⟨w.heap.size + 1 + 1, 1, none⟩) (by show w.heap.size ≤ w.heap.size + 1 + 1; omega) (.slice ya' yn' yc')).setCell (p := ⟨w.heap.size + 1 + 1, 2, none⟩) (by show w.heap.size ≤ w.heap.size + 1 + 1; omega) (.bool E.dead))
  clear od od3 bs bc hn b2
  go_wp2_with fail
  obtain ⟨z0, z1, z2⟩ := FB.out.three
  exact bodyPost_ret (v := .tuple #[.agg #[.slice ya yn yc, .slice ya' yn' yc', .bool E.dead], .int .i64 (q : Int)]) (by simp [results, Try.results71, go_sem, z0, z1, z2]) rfl ⟨_, rfl, OD.out, BL.out⟩

set_option maxHeartbeats 1000000 in
theorem mfua_any (x : Dn) (d p : Int) (kd : Nat) (xa : Option Addr) (xlen xcap : Nat) (xl : List Nat) (w : World) (hr : DevAt w.heap.size w x.a x.n x.c x.a' x.n' x.c' x.D) (hf : Fit x.D) (hq : Rd w.heap.size w xa xlen xcap xl) (hl : xl.length ≤ 100000) :
    Calls Try.prog 72 #[x.val, .agg #[.int .i64 d, .int .u8 (kd : Int), .int .i64 p, .slice xa xlen xcap]] w (NewDev w (fuaDev x.D p xl) (DK.wcode x.D p xl)) := by
  obtain ⟨a, n, c, a', n', c', D⟩ := x
  show Calls Try.prog 72 #[.agg #[.slice a n c, .slice a' n' c', .bool D.dead], .agg #[.int .i64 d, .int .u8 (kd : Int), .int .i64 p, .slice xa xlen xcap]] w (NewDev w (fuaDev D p xl) (DK.wcode D p xl))
  have hr : DevAt w.heap.size w a n c a' n' c' D := hr
  have hf : Fit D := hf
  have bA := ((Bx.new w [.slice a n c, .slice a' n' c', .bool D.dead] 102).alloc (.cells #[.int .i64 d, .int .u8 (kd : Int), .int .i64 p, .slice xa xlen xcap] 33)).alloc (.cells #[.slice none 0 0, .slice none 0 0, .bool false] 37)
  have bB := (Bx.new (w.alloc (.cells #[.slice a n c, .slice a' n' c', .bool D.dead] 102)) [.int .i64 d, .int .u8 (kd : Int), .int .i64 p, .slice xa xlen xcap] 33).alloc (.cells #[.slice none 0 0, .slice none 0 0, .bool false] 37)
  have bC := Bx.new ((w.alloc (.cells #[.slice a n c, .slice a' n' c', .bool D.dead] 102)).alloc (.cells #[.int .i64 d, .int .u8 (kd : Int), .int .i64 p, .slice xa xlen xcap] 33)) [.slice none 0 0, .slice none 0 0, .bool false] 37
  simp only [World.size_alloc] at bB bC
  have al : Below w.heap.size w (((w.alloc (.cells #[.slice a n c, .slice a' n' c', .bool D.dead] 102)).alloc (.cells #[.int .i64 d, .int .u8 (kd : Int), .int .i64 p, .slice xa xlen xcap] 33)).alloc (.cells #[.slice none 0 0, .slice none 0 0, .bool false] 37)) := (((Below.refl _ _).alloc (Nat.le_refl _) _).alloc (by simp) _).alloc (by simp; omega) _
  have CC := Lib.hid (fua_any a n c a' n' c' D p xa xlen xcap xl _ (hr.here al) hf (hq.here al) hl)
  have AL := Lib.hid al
  have BA := Lib.hid bA
  have BB := Lib.hid bB
  have BC := Lib.hid bC
  clear al bA bB bC hr hf hq hl
  generalize hE : fuaDev D p xl = E at *
  generalize hQ : DK.wcode D p xl = q at *
  clear hE hQ
  obtain ⟨dd, hdd⟩ : ∃ dd, dd = D.dead := ⟨_, rfl⟩
  rw [← hdd] at CC AL BA BB BC ⊢
  clear hdd
  go_enter Try.func72, Try.ntmps72
  go_wp2_with fail
  refine CC.out.mono ?_
  intro e w2 hn
  obtain ⟨ya, yn, yc, ya', yn', yc', rfl, od, -, b2⟩ := hn.open
  have bc := BC.out.here b2
  obtain ⟨q0, q1, q2⟩ := bc.three
  have f0 := bc.frozen 0
  have f1 := bc.frozen 1
  have f2 := bc.frozen 2
  have bs := ((bc.set 0 (.slice ya yn yc)).set 1 (.slice ya' yn' yc')).set 2 (.bool E.dead)
  have FB := Lib.hid bs
  have l2 := AL.out.size
  have sz : w.heap.size + 2 < w2.heap.size := bc.lt
  have l3 : w.heap.size + 1 + 1 < (((w.alloc (.cells #[.slice a n c, .slice a' n' c', .bool dd] 102)).alloc (.cells #[.int .i64 d, .int .u8 (kd : Int), .int .i64 p, .slice xa xlen xcap] 33)).alloc (.cells #[.slice none 0 0, .slice none 0 0, .bool false] 37)).heap.size := BC.out.lt
  have od3 := ((od.setCell ⟨w.heap.size + 1 + 1, 0, none⟩ l3 (.slice ya yn yc)).setCell ⟨w.heap.size + 1 + 1, 1, none⟩ l3 (.slice ya' yn' yc')).setCell ⟨w.heap.size + 1 + 1, 2, none⟩ l3 (.bool E.dead)
  have OD := Lib.hid (od3.mono l2)
  have BL := Lib.hid ((((thence AL.out b2 (Nat.le_refl _)).setCell (p := ⟨w.heap.size + 1 + 1, 0, none⟩) (by show w.heap.size ≤ w.heap.size + 1 + 1; omega) (.slice ya yn yc)).setCell (p := ⟨w.heap.size + 1 + 1, 1, none⟩) (by show w.heap.size ≤ w.heap.size + 1 + 1; omega) (.slice ya' yn' yc')).setCell (p := ⟨w.heap.size + 1 + 1, 2, none⟩) (by show w.heap.size ≤ w.heap.size + 1 + 1; omega) (.bool E.dead))
  clear od od3 bs bc hn b2
  go_wp2_with fail
  obtain ⟨z0, z1, z2⟩ := FB.out.three
  exact bodyPost_ret (v := .tuple #[.agg #[.slice ya yn yc, .slice ya' yn' yc', .bool E.dead], .int .i64 (q : Int)]) (by simp [results, Try.results72, go_sem, z0, z1, z2]) rfl ⟨_, rfl, OD.out, BL.out⟩

set_option maxHeartbeats 1000000 in
theorem mflush_any (x : Dn) (d p : Int) (kd : Nat) (xa : Option Addr) (xlen xcap : Nat) (xl : List Nat) (w : World) (hr : DevAt w.heap.size w x.a x.n x.c x.a' x.n' x.c' x.D) (hf : Fit x.D) (hq : Rd w.heap.size w xa xlen xcap xl) (hl : xl.length ≤ 100000) :
    Calls Try.prog 73 #[x.val, .agg #[.int .i64 d, .int .u8 (kd : Int), .int .i64 p, .slice xa xlen xcap]] w (NewDev w (flushDev x.D) (DK.fcode x.D)) := by
  obtain ⟨a, n, c, a', n', c', D⟩ := x
  show Calls Try.prog 73 #[.agg #[.slice a n c, .slice a' n' c', .bool D.dead], .agg #[.int .i64 d, .int .u8 (kd : Int), .int .i64 p, .slice xa xlen xcap]] w (NewDev w (flushDev D) (DK.fcode D))
  have hr : DevAt w.heap.size w a n c a' n' c' D := hr
  have hf : Fit D := hf
  have bA := ((Bx.new w [.slice a n c, .slice a' n' c', .bool D.dead] 102).alloc (.cells #[.int .i64 d, .int .u8 (kd : Int), .int .i64 p, .slice xa xlen xcap] 33)).alloc (.cells #[.slice none 0 0, .slice none 0 0, .bool false] 37)
  have bB := (Bx.new (w.alloc (.cells #[.slice a n c, .slice a' n' c', .bool D.dead] 102)) [.int .i64 d, .int .u8 (kd : Int), .int .i64 p, .slice xa xlen xcap] 33).alloc (.cells #[.slice none 0 0, .slice none 0 0, .bool false] 37)
  have bC := Bx.new ((w.alloc (.cells #[.slice a n c, .slice a' n' c', .bool D.dead] 102)).alloc (.cells #[.int .i64 d, .int .u8 (kd : Int), .int .i64 p, .slice xa xlen xcap] 33)) [.slice none 0 0, .slice none 0 0, .bool false] 37
  simp only [World.size_alloc] at bB bC
  have al : Below w.heap.size w (((w.alloc (.cells #[.slice a n c, .slice a' n' c', .bool D.dead] 102)).alloc (.cells #[.int .i64 d, .int .u8 (kd : Int), .int .i64 p, .slice xa xlen xcap] 33)).alloc (.cells #[.slice none 0 0, .slice none 0 0, .bool false] 37)) := (((Below.refl _ _).alloc (Nat.le_refl _) _).alloc (by simp) _).alloc (by simp; omega) _
  have CC := Lib.hid (flush_any a n c a' n' c' D _ (hr.here al) hf)
  have AL := Lib.hid al
  have BA := Lib.hid bA
  have BB := Lib.hid bB
  have BC := Lib.hid bC
  clear al bA bB bC hr hf hq hl
  generalize hE : flushDev D = E at *
  generalize hQ : DK.fcode D = q at *
  clear hE hQ
  obtain ⟨dd, hdd⟩ : ∃ dd, dd = D.dead := ⟨_, rfl⟩
  rw [← hdd] at CC AL BA BB BC ⊢
  clear hdd
  go_enter Try.func73, Try.ntmps73
  go_wp2_with fail
  refine CC.out.mono ?_
  intro e w2 hn
  obtain ⟨ya, yn, yc, ya', yn', yc', rfl, od, -, b2⟩ := hn.open
  have bc := BC.out.here b2
  obtain ⟨q0, q1, q2⟩ := bc.three
  have f0 := bc.frozen 0
  have f1 := bc.frozen 1
  have f2 := bc.frozen 2
  have bs := ((bc.set 0 (.slice ya yn yc)).set 1 (.slice ya' yn' yc')).set 2 (.bool E.dead)
  have FB := Lib.hid bs
  have l2 := AL.out.size
  have sz : w.heap.size + 2 < w2.heap.size := bc.lt
  have l3 : w.heap.size + 1 + 1 < (((w.alloc (.cells #[.slice a n c, .slice a' n' c', .bool dd] 102)).alloc (.cells #[.int .i64 d, .int .u8 (kd : Int), .int .i64 p, .slice xa xlen xcap] 33)).alloc (.cells #[.slice none 0 0, .slice none 0 0, .bool false] 37)).heap.size := BC.out.lt
  have od3 := ((od.setCell ⟨w.heap.size + 1 + 1, 0, none⟩ l3 (.slice ya yn yc)).setCell ⟨w.heap.size + 1 + 1, 1, none⟩ l3 (.slice ya' yn' yc')).setCell ⟨w.heap.size + 1 + 1, 2, none⟩ l3 (.bool E.dead)
  have OD := Lib.hid (od3.mono l2)
  have BL := Lib.hid ((((thence AL.out b2 (Nat.le_refl _)).setCell (p := ⟨w.heap.size + 1 + 1, 0, none⟩) (by show w.heap.size ≤ w.heap.size + 1 + 1; omega) (.slice ya yn yc)).setCell (p := ⟨w.heap.size + 1 + 1, 1, none⟩) (by show w.heap.size ≤ w.heap.size + 1 + 1; omega) (.slice ya' yn' yc')).setCell (p := ⟨w.heap.size + 1 + 1, 2, none⟩) (by show w.heap.size ≤ w.heap.size + 1 + 1; omega) (.bool E.dead))
  clear od od3 bs bc hn b2
  go_wp2_with fail
  obtain ⟨z0, z1, z2⟩ := FB.out.three
  exact bodyPost_ret (v := .tuple #[.agg #[.slice ya yn yc, .slice ya' yn' yc', .bool E.dead], .int .i64 (q : Int)]) (by simp [results, Try.results73, go_sem, z0, z1, z2]) rfl ⟨_, rfl, OD.out, BL.out⟩

/-- Boxes laid one behind the other. -/
theorem boxes4 (w : World) (A B C F : List Value) (tA tB tC tF : TypeId) :
    Bx ((((w.alloc (.cells A.toArray tA)).alloc (.cells B.toArray tB)).alloc (.cells C.toArray tC)).alloc (.cells F.toArray tF)) w.heap.size A ∧
    Bx ((((w.alloc (.cells A.toArray tA)).alloc (.cells B.toArray tB)).alloc (.cells C.toArray tC)).alloc (.cells F.toArray tF)) (w.heap.size + 1) B ∧
    Bx ((((w.alloc (.cells A.toArray tA)).alloc (.cells B.toArray tB)).alloc (.cells C.toArray tC)).alloc (.cells F.toArray tF)) (w.heap.size + 1 + 1) C ∧
    Bx ((((w.alloc (.cells A.toArray tA)).alloc (.cells B.toArray tB)).alloc (.cells C.toArray tC)).alloc (.cells F.toArray tF)) (w.heap.size + 1 + 1 + 1) F ∧
    Below w.heap.size w ((((w.alloc (.cells A.toArray tA)).alloc (.cells B.toArray tB)).alloc (.cells C.toArray tC)).alloc (.cells F.toArray tF)) := by
  have h1 := Bx.new w A tA
  have h2 := Bx.new (w.alloc (.cells A.toArray tA)) B tB
  have h3 := Bx.new ((w.alloc (.cells A.toArray tA)).alloc (.cells B.toArray tB)) C tC
  have h4 := Bx.new (((w.alloc (.cells A.toArray tA)).alloc (.cells B.toArray tB)).alloc (.cells C.toArray tC)) F tF
  simp only [World.size_alloc] at h2 h3 h4
  exact ⟨((h1.alloc _).alloc _).alloc _, (h2.alloc _).alloc _, h3.alloc _, h4, ((((Below.refl _ _).alloc (Nat.le_refl _) _).alloc (by simp) _).alloc (by simp; omega) _).alloc (by simp; omega) _⟩

theorem okK_wcode {D : Dv} {d p : Int} {k : Nat} {l : List Nat} (hk : k = 1 ∨ k = 2) (hm : DK.may D = true) (h : AK.okK D ⟨d, k, p, l⟩ = true) (hd : D.dead = false) : DK.wcode D p l = 0 := by
  rw [okK_w hk] at h
  simp only [Bool.and_eq_true, Bool.or_eq_true, decide_eq_true_eq] at h
  exact wcode_of hm (DK.has_iff.2 ⟨h.1.1, h.1.2⟩) (DK.sized_iff.2 h.2) hd

/-- What 'done' hands back: the device behind the act, the same one or one in new memory; or nothing and an error. -/
def DoneEnd (w : World) (x : Dn) (A : AK.Ac) (e : Ending) (w' : World) : Prop :=
  ∃ y : Dn, e = .returned (.tuple #[y.val, .int .i64 (if AK.errs x.D A then 9 else 0)]) ∧ (AK.errs x.D A = false → y.D = AK.did x.D A ∧ (y = x ∨ OwnI w.heap.size w'.heap.size w' y)) ∧ Below w.heap.size w w'

set_option maxHeartbeats 1000000 in
theorem done_any (x : Dn) (d p : Int) (kd : Nat) (xa : Option Addr) (xlen xcap : Nat) (xl : List Nat) (w : World) (hr : DevAt w.heap.size w x.a x.n x.c x.a' x.n' x.c' x.D) (hm : DK.may x.D = true) (hq : Rd w.heap.size w xa xlen xcap xl) (hl : xl.length ≤ 100000) (hk : AK.okK x.D ⟨d, kd, p, xl⟩ = true) :
    Calls Try.prog 45 #[x.val, .agg #[.int .i64 d, .int .u8 (kd : Int), .int .i64 p, .slice xa xlen xcap]] w (DoneEnd w x ⟨d, kd, p, xl⟩) := by
  obtain ⟨a, n, c, a', n', c', D⟩ := x
  show Calls Try.prog 45 #[.agg #[.slice a n c, .slice a' n' c', .bool D.dead], .agg #[.int .i64 d, .int .u8 (kd : Int), .int .i64 p, .slice xa xlen xcap]] w _
  have hr : DevAt w.heap.size w a n c a' n' c' D := hr
  have hm : DK.may D = true := hm
  have hk : AK.okK D ⟨d, kd, p, xl⟩ = true := hk
  have bA := ((Bx.new w [.slice a n c, .slice a' n' c', .bool D.dead] 37).alloc (.cells #[.int .i64 d, .int .u8 (kd : Int), .int .i64 p, .slice xa xlen xcap] 33)).alloc (.cells #[.slice none 0 0, .slice none 0 0, .bool false] 37)
  have bB := (Bx.new (w.alloc (.cells #[.slice a n c, .slice a' n' c', .bool D.dead] 37)) [.int .i64 d, .int .u8 (kd : Int), .int .i64 p, .slice xa xlen xcap] 33).alloc (.cells #[.slice none 0 0, .slice none 0 0, .bool false] 37)
  have bC := Bx.new ((w.alloc (.cells #[.slice a n c, .slice a' n' c', .bool D.dead] 37)).alloc (.cells #[.int .i64 d, .int .u8 (kd : Int), .int .i64 p, .slice xa xlen xcap] 33)) [.slice none 0 0, .slice none 0 0, .bool false] 37
  simp only [World.size_alloc] at bB bC
  have al : Below w.heap.size w (((w.alloc (.cells #[.slice a n c, .slice a' n' c', .bool D.dead] 37)).alloc (.cells #[.int .i64 d, .int .u8 (kd : Int), .int .i64 p, .slice xa xlen xcap] 33)).alloc (.cells #[.slice none 0 0, .slice none 0 0, .bool false] 37)) := (((Below.refl _ _).alloc (Nat.le_refl _) _).alloc (by simp) _).alloc (by simp; omega) _
  have AL := Lib.hid al
  have BA := Lib.hid bA
  have BB := Lib.hid bB
  have BC := Lib.hid bC
  cases hd : D.dead with
  | true =>
    have hE : AK.errs D ⟨d, kd, p, xl⟩ = false := by simp [AK.errs, hd]
    have hD : AK.did D ⟨d, kd, p, xl⟩ = D := by simp [AK.did, hd]
    rw [hd] at AL BA BB BC
    have HD := Lib.hid hd
    have z := Bx.new ((w.alloc (.cells #[.slice a n c, .slice a' n' c', .bool true] 37)).alloc (.cells #[.int .i64 d, .int .u8 (kd : Int), .int .i64 p, .slice xa xlen xcap] 33)) [.slice a n c, .slice a' n' c', .bool true] 37
    simp only [World.size_alloc] at z
    obtain ⟨z0, z1, z2⟩ := z.three
    have BL : Hid (Below w.heap.size w (((w.alloc (.cells #[.slice a n c, .slice a' n' c', .bool true] 37)).alloc (.cells #[.int .i64 d, .int .u8 (kd : Int), .int .i64 p, .slice xa xlen xcap] 33)).alloc (.cells #[.slice a n c, .slice a' n' c', .bool true] 37))) := (((Below.refl _ _).alloc (Nat.le_refl _) _).alloc (by simp) _).alloc (by simp; omega) _
    clear hr hm hq hl hk hd z bA bB bC al
    go_enter Try.func45, Try.ntmps45
    go_wp2_with fail
    exact bodyPost_ret (v := .tuple #[.agg #[.slice a n c, .slice a' n' c', .bool true], .int .i64 0]) (by simp [results, Try.results45, go_sem, z0, z1, z2]) rfl ⟨⟨a, n, c, a', n', c', D⟩, by rw [hE]; simp [Dn.val, HD.out], fun _ => ⟨hD.symm, .inl rfl⟩, BL.out⟩
  | false =>
    have k123 : kd = 1 ∨ kd = 2 ∨ kd = 3 := by
      by_cases h1 : kd = 1
      · exact .inl h1
      by_cases h2 : kd = 2
      · exact .inr (.inl h2)
      by_cases h3 : kd = 3
      · exact .inr (.inr h3)
      rw [okK_o h1 h2 h3] at hk; cases hk
    clear AL BA BB BC bA bB bC al
    rcases k123 with rfl | rfl | rfl
    · show Calls Try.prog 45 #[.agg #[.slice a n c, .slice a' n' c', .bool false], .agg #[.int .i64 d, .int .u8 1, .int .i64 p, .slice xa xlen xcap]] w _
      have CC : Hid (∀ w1, w.heap.size ≤ w1.heap.size → DevAt w1.heap.size w1 a n c a' n' c' D → Rd w1.heap.size w1 xa xlen xcap xl → Calls Try.prog 71 #[.agg #[.slice a n c, .slice a' n' c', .bool false], .agg #[.int .i64 d, .int .u8 1, .int .i64 p, .slice xa xlen xcap]] w1 (NewDev w1 (writeDev D p xl) (DK.wcode' D p xl))) := fun w1 _ h h2 => by
        have := mwrite_any ⟨a, n, c, a', n', c', D⟩ d p 1 xa xlen xcap xl w1 h (fit_may hm) h2 hl
        rw [show (⟨a, n, c, a', n', c', D⟩ : Dn).val = .agg #[.slice a n c, .slice a' n' c', .bool false] by rw [Dn.val, hd]] at this
        exact this
      obtain ⟨bA, bB, bC, bF, al⟩ := boxes4 w [.slice a n c, .slice a' n' c', .bool false] [.int .i64 d, .int .u8 1, .int .i64 p, .slice xa xlen xcap] [.slice none 0 0, .slice none 0 0, .bool false] [.nilFunc, .func (.func 71) #[] #[], .func (.func 72) #[] #[], .func (.func 73) #[] #[]] 37 33 37 103
      have hw : DK.wcode D p xl = 0 := okK_wcode (.inl rfl) hm hk hd
      have HC : Hid ((.int .i64 (if AK.errs D ⟨d, 1, p, xl⟩ then 9 else 0) = Value.int .i64 ((DK.wcode' D p xl : Nat) : Int)) ∧ (AK.errs D ⟨d, 1, p, xl⟩ = false → writeDev D p xl = AK.did D ⟨d, 1, p, xl⟩)) := by
        refine ⟨?_, fun hh => ?_⟩
        · simp only [DK.wcode', hw, AK.errs, hd]; by_cases h : 1024 ≤ D.ws.length <;> simp [h]
        · have h4 : ¬ 1024 ≤ D.ws.length := by simpa [AK.errs, hd] using hh
          simp [writeDev, DK.wcode', hw, h4, AK.did, hd]
      clear hw
      generalize hQ : DK.wcode' D p xl = q at *
      generalize hE : writeDev D p xl = E at *
      clear hQ hE
      have Hr := Lib.hid hr
      have Hq := Lib.hid hq
      clear hr hm hq hl hk hd
      go_enter Try.func45, Try.ntmps45
      go_wp2_with fail
      generalize ((((w.alloc (.cells #[.slice a n c, .slice a' n' c', .bool false] 37)).alloc (.cells #[.int .i64 d, .int .u8 1, .int .i64 p, .slice xa xlen xcap] 33)).alloc (.cells #[.slice none 0 0, .slice none 0 0, .bool false] 37)).alloc (.cells #[.nilFunc, .func (.func 71) #[] #[], .func (.func 72) #[] #[], .func (.func 73) #[] #[]] 103)) = W1 at *
      replace CC : Hid (∀ w1, Below W1.heap.size W1 w1 → Calls Try.prog 71 #[.agg #[.slice a n c, .slice a' n' c', .bool false], .agg #[.int .i64 d, .int .u8 1, .int .i64 p, .slice xa xlen xcap]] w1 (NewDev w1 E q)) := fun w1 h =>
        CC.out w1 (Nat.le_trans al.size h.size) ((Hr.out.here al).here h) ((Hq.out.here al).here h)
      have BA1 := Lib.hid bA
      have BB1 := Lib.hid bB
      have BC1 := Lib.hid bC
      have BF1 := Lib.hid bF
      have AL1 := Lib.hid al
      clear bA bB bC bF al
      refine wp_region_noPanic ?_
      refine PX.wp_region_y (fun w' => Below W1.heap.size W1 w') [9, 10] (by kernel_rfl) (Below.refl _ _).drew (fun hHeld => ?_)
      refine PX.wpAnyY_take (i := 0) (oi := ?_) (v := ?_) ?_ (by kernel_rfl) (by kernel_rfl) (by kernel_rfl) (by kernel_rfl) (by kernel_rfl) (fun _ _ _ h => h) (Or.inl ⟨?_, ?_⟩) (by assumption) ?_
      rotate_left 2
      · simp only [List.getElem?_toArray, List.getElem?_cons_succ, List.getElem?_cons_zero]; rfl
      · rfl
      · intro w hSw; (try dsimp only at hSw); go_simp <;> with_reducible rfl
      (try simp only [Act.put, List.setIfInBounds_toArray, List.set_cons_zero, List.set_cons_succ])
      refine PX.wpAnyY_take (i := 1) (oi := ?_) (v := ?_) ?_ (by kernel_rfl) (by kernel_rfl) (by kernel_rfl) (by kernel_rfl) (by kernel_rfl) (fun _ _ _ h => h) (Or.inl ⟨?_, ?_⟩) (by assumption) ?_
      rotate_left 2
      · simp only [List.getElem?_toArray, List.getElem?_cons_succ, List.getElem?_cons_zero]; rfl
      · rfl
      · intro w hSw; (try dsimp only at hSw); have q1 := (BB1.out.here hSw).cell 1; simp only [List.getElem?_cons_zero, List.getElem?_cons_succ] at q1; go_simp <;> with_reducible rfl
      (try simp only [Act.put, List.setIfInBounds_toArray, List.set_cons_zero, List.set_cons_succ])
      refine PX.wpAnyY_take (i := 2) (oi := ?_) (v := ?_) ?_ (by kernel_rfl) (by kernel_rfl) (by kernel_rfl) (by kernel_rfl) (by kernel_rfl) (fun _ _ _ h => h) (Or.inl ⟨?_, ?_⟩) (by assumption) ?_
      rotate_left 2
      · simp only [List.getElem?_toArray, List.getElem?_cons_succ, List.getElem?_cons_zero]; rfl
      · rfl
      · intro w hSw; (try dsimp only at hSw); go_simp <;> with_reducible rfl
      (try simp only [Act.put, List.setIfInBounds_toArray, List.set_cons_zero, List.set_cons_succ])
      refine PX.wpAnyY_take (i := 3) (oi := ?_) (v := ?_) ?_ (by kernel_rfl) (by kernel_rfl) (by kernel_rfl) (by kernel_rfl) (by kernel_rfl) (fun _ _ _ h => h) (Or.inl ⟨?_, ?_⟩) (by assumption) ?_
      rotate_left 2
      · simp only [List.getElem?_toArray, List.getElem?_cons_succ, List.getElem?_cons_zero]; rfl
      · rfl
      · intro w hSw; (try dsimp only at hSw); have q3 := (BF1.out.here hSw).cell 1; simp only [List.getElem?_cons_zero, List.getElem?_cons_succ] at q3; go_simp <;> with_reducible rfl
      (try simp only [Act.put, List.setIfInBounds_toArray, List.set_cons_zero, List.set_cons_succ])
      refine PX.wpAnyY_take (i := 4) (oi := ?_) (v := ?_) ?_ (by kernel_rfl) (by kernel_rfl) (by kernel_rfl) (by kernel_rfl) (by kernel_rfl) (fun _ _ _ h => h) (Or.inl ⟨?_, ?_⟩) (by assumption) ?_
      rotate_left 2
      · simp only [List.getElem?_toArray, List.getElem?_cons_succ, List.getElem?_cons_zero]; rfl
      · rfl
      · intro w hSw; (try dsimp only at hSw); obtain ⟨q0, q1, q2⟩ := (BA1.out.here hSw).three; go_simp <;> with_reducible rfl
      (try simp only [Act.put, List.setIfInBounds_toArray, List.set_cons_zero, List.set_cons_succ])
      refine PX.wpAnyY_take (i := 5) (oi := ?_) (v := ?_) ?_ (by kernel_rfl) (by kernel_rfl) (by kernel_rfl) (by kernel_rfl) (by kernel_rfl) (fun _ _ _ h => h) (Or.inl ⟨?_, ?_⟩) (by assumption) ?_
      rotate_left 2
      · simp only [List.getElem?_toArray, List.getElem?_cons_succ, List.getElem?_cons_zero]; rfl
      · rfl
      · intro w hSw; (try dsimp only at hSw); have q0 := (BB1.out.here hSw).cell 0; have q1 := (BB1.out.here hSw).cell 1; have q2 := (BB1.out.here hSw).cell 2; have q3 := (BB1.out.here hSw).cell 3; simp only [List.getElem?_cons_zero, List.getElem?_cons_succ] at q0 q1 q2 q3; go_simp <;> with_reducible rfl
      (try simp only [Act.put, List.setIfInBounds_toArray, List.set_cons_zero, List.set_cons_succ])
      refine PX.wpAnyY_one (i := 6) (o := ?_) (by kernel_rfl) ?_ (fun Kq hKq => ?_)
      rotate_left
      · simp only [List.getElem?_toArray, List.getElem?_cons_succ, List.getElem?_cons_zero]; rfl
      go_simp
      refine (CC.out _ hHeld).mono ?_
      intro e w2 hn
      obtain ⟨ya, yn, yc, ya', yn', yc', rfl, od, -, b2⟩ := hn.open
      have B2 : Hid (Below W1.heap.size W1 w2) := thence hHeld b2 (Nat.le_refl _)
      have OD := Lib.hid (od.mono hHeld.size)
      clear b2 od hn
      go_wp2_with fail
      refine hKq.out _ _ (B2.out) (fun hHeld => ?_)
      clear hKq Kq
      (try simp only [Act.put, List.setIfInBounds_toArray, List.set_cons_zero, List.set_cons_succ])
      refine PX.wpAnyY_take (i := 7) (oi := ?_) (v := ?_) ?_ (by kernel_rfl) (by kernel_rfl) (by kernel_rfl) (by kernel_rfl) (by kernel_rfl) (fun _ _ _ h => h) (Or.inl ⟨?_, ?_⟩) (by assumption) ?_
      rotate_left 2
      · simp only [List.getElem?_toArray, List.getElem?_cons_succ, List.getElem?_cons_zero]; rfl
      · rfl
      · intro w hSw; (try dsimp only at hSw); go_simp <;> with_reducible rfl
      (try simp only [Act.put, List.setIfInBounds_toArray, List.set_cons_zero, List.set_cons_succ])
      refine PX.wpAnyY_take (i := 8) (oi := ?_) (v := ?_) ?_ (by kernel_rfl) (by kernel_rfl) (by kernel_rfl) (by kernel_rfl) (by kernel_rfl) (fun _ _ _ h => h) (Or.inl ⟨?_, ?_⟩) (by assumption) ?_
      rotate_left 2
      · simp only [List.getElem?_toArray, List.getElem?_cons_succ, List.getElem?_cons_zero]; rfl
      · rfl
      · intro w hSw; (try dsimp only at hSw); go_simp <;> with_reducible rfl
      (try simp only [Act.put, List.setIfInBounds_toArray, List.set_cons_zero, List.set_cons_succ])
      refine PX.wpAnyY_free (i := 9) (o := ?_) (by kernel_rfl) (by kernel_rfl) ?_ (fun Kq hKq => ?_)
      rotate_left
      · simp only [List.getElem?_toArray, List.getElem?_cons_succ, List.getElem?_cons_zero]; rfl
      have bc := BC1.out.here B2.out
      obtain ⟨q0, q1, q2⟩ := bc.three
      have f0 := bc.frozen 0
      have f1 := bc.frozen 1
      have f2 := bc.frozen 2
      go_simp
      refine hKq.out _ _ ?_
      clear hKq Kq
      (try simp only [Act.put, List.setIfInBounds_toArray, List.set_cons_zero, List.set_cons_succ])
      refine PX.wpAnyY_free (i := 10) (o := ?_) (by kernel_rfl) (by kernel_rfl) ?_ (fun Kq hKq => ?_)
      rotate_left
      · simp only [List.getElem?_toArray, List.getElem?_cons_succ, List.getElem?_cons_zero]; rfl
      go_simp
      refine hKq.out _ _ ?_
      clear hKq Kq
      (try simp only [Act.put, List.setIfInBounds_toArray, List.set_cons_zero, List.set_cons_succ])
      refine PX.wpAnyY_done (by kernel_rfl) ?_ _
      refine NoPanic.normal ?_
      have bc := BC1.out.here B2.out
      have FB := Lib.hid (((bc.set 0 (.slice ya yn yc)).set 1 (.slice ya' yn' yc')).set 2 (.bool E.dead))
      have sz : w.heap.size + 1 + 1 < W1.heap.size := BC1.out.lt
      have od3 := ((OD.out.setCell ⟨w.heap.size + 1 + 1, 0, none⟩ sz (.slice ya yn yc)).setCell ⟨w.heap.size + 1 + 1, 1, none⟩ sz (.slice ya' yn' yc')).setCell ⟨w.heap.size + 1 + 1, 2, none⟩ sz (.bool E.dead)
      have OI := Lib.hid (od3.mono AL1.out.size).ofI.1
      have BL := Lib.hid ((((thence AL1.out B2.out (Nat.le_refl _)).setCell (p := ⟨w.heap.size + 1 + 1, 0, none⟩) (by show w.heap.size ≤ w.heap.size + 1 + 1; omega) (.slice ya yn yc)).setCell (p := ⟨w.heap.size + 1 + 1, 1, none⟩) (by show w.heap.size ≤ w.heap.size + 1 + 1; omega) (.slice ya' yn' yc')).setCell (p := ⟨w.heap.size + 1 + 1, 2, none⟩) (by show w.heap.size ≤ w.heap.size + 1 + 1; omega) (.bool E.dead))
      obtain ⟨z0, z1, z2⟩ := FB.out.three
      clear od3 bc
      go_wp2_with fail
      exact bodyPost_ret (v := .tuple #[.agg #[.slice ya yn yc, .slice ya' yn' yc', .bool E.dead], .int .i64 (q : Int)]) (by simp [results, Try.results45, go_sem, z0, z1, z2]) rfl ⟨⟨ya, yn, yc, ya', yn', yc', E⟩, by rw [HC.out.1]; rfl, fun hh => ⟨HC.out.2 hh, .inr OI.out⟩, BL.out⟩
    · show Calls Try.prog 45 #[.agg #[.slice a n c, .slice a' n' c', .bool false], .agg #[.int .i64 d, .int .u8 2, .int .i64 p, .slice xa xlen xcap]] w _
      have CC : Hid (∀ w1, w.heap.size ≤ w1.heap.size → DevAt w1.heap.size w1 a n c a' n' c' D → Rd w1.heap.size w1 xa xlen xcap xl → Calls Try.prog 72 #[.agg #[.slice a n c, .slice a' n' c', .bool false], .agg #[.int .i64 d, .int .u8 2, .int .i64 p, .slice xa xlen xcap]] w1 (NewDev w1 (fuaDev D p xl) (DK.wcode D p xl))) := fun w1 _ h h2 => by
        have := mfua_any ⟨a, n, c, a', n', c', D⟩ d p 2 xa xlen xcap xl w1 h (fit_may hm) h2 hl
        rw [show (⟨a, n, c, a', n', c', D⟩ : Dn).val = .agg #[.slice a n c, .slice a' n' c', .bool false] by rw [Dn.val, hd]] at this
        exact this
      obtain ⟨bA, bB, bC, bF, al⟩ := boxes4 w [.slice a n c, .slice a' n' c', .bool false] [.int .i64 d, .int .u8 2, .int .i64 p, .slice xa xlen xcap] [.slice none 0 0, .slice none 0 0, .bool false] [.nilFunc, .func (.func 71) #[] #[], .func (.func 72) #[] #[], .func (.func 73) #[] #[]] 37 33 37 103
      have hw : DK.wcode D p xl = 0 := okK_wcode (.inr rfl) hm hk hd
      have HC : Hid ((.int .i64 (if AK.errs D ⟨d, 2, p, xl⟩ then 9 else 0) = Value.int .i64 ((DK.wcode D p xl : Nat) : Int)) ∧ (AK.errs D ⟨d, 2, p, xl⟩ = false → fuaDev D p xl = AK.did D ⟨d, 2, p, xl⟩)) := by
        refine ⟨?_, fun hh => ?_⟩
        · simp [AK.errs, hw]
        · simp [fuaDev, hw, AK.did, hd]
      clear hw
      generalize hQ : DK.wcode D p xl = q at *
      generalize hE : fuaDev D p xl = E at *
      clear hQ hE
      have Hr := Lib.hid hr
      have Hq := Lib.hid hq
      clear hr hm hq hl hk hd
      go_enter Try.func45, Try.ntmps45
      go_wp2_with fail
      generalize ((((w.alloc (.cells #[.slice a n c, .slice a' n' c', .bool false] 37)).alloc (.cells #[.int .i64 d, .int .u8 2, .int .i64 p, .slice xa xlen xcap] 33)).alloc (.cells #[.slice none 0 0, .slice none 0 0, .bool false] 37)).alloc (.cells #[.nilFunc, .func (.func 71) #[] #[], .func (.func 72) #[] #[], .func (.func 73) #[] #[]] 103)) = W1 at *
      replace CC : Hid (∀ w1, Below W1.heap.size W1 w1 → Calls Try.prog 72 #[.agg #[.slice a n c, .slice a' n' c', .bool false], .agg #[.int .i64 d, .int .u8 2, .int .i64 p, .slice xa xlen xcap]] w1 (NewDev w1 E q)) := fun w1 h =>
        CC.out w1 (Nat.le_trans al.size h.size) ((Hr.out.here al).here h) ((Hq.out.here al).here h)
      have BA1 := Lib.hid bA
      have BB1 := Lib.hid bB
      have BC1 := Lib.hid bC
      have BF1 := Lib.hid bF
      have AL1 := Lib.hid al
      clear bA bB bC bF al
      refine wp_region_noPanic ?_
      refine PX.wp_region_y (fun w' => Below W1.heap.size W1 w') [9, 10] (by kernel_rfl) (Below.refl _ _).drew (fun hHeld => ?_)
      refine PX.wpAnyY_take (i := 0) (oi := ?_) (v := ?_) ?_ (by kernel_rfl) (by kernel_rfl) (by kernel_rfl) (by kernel_rfl) (by kernel_rfl) (fun _ _ _ h => h) (Or.inl ⟨?_, ?_⟩) (by assumption) ?_
      rotate_left 2
      · simp only [List.getElem?_toArray, List.getElem?_cons_succ, List.getElem?_cons_zero]; rfl
      · rfl
      · intro w hSw; (try dsimp only at hSw); go_simp <;> with_reducible rfl
      (try simp only [Act.put, List.setIfInBounds_toArray, List.set_cons_zero, List.set_cons_succ])
      refine PX.wpAnyY_take (i := 1) (oi := ?_) (v := ?_) ?_ (by kernel_rfl) (by kernel_rfl) (by kernel_rfl) (by kernel_rfl) (by kernel_rfl) (fun _ _ _ h => h) (Or.inl ⟨?_, ?_⟩) (by assumption) ?_
      rotate_left 2
      · simp only [List.getElem?_toArray, List.getElem?_cons_succ, List.getElem?_cons_zero]; rfl
      · rfl
      · intro w hSw; (try dsimp only at hSw); have q1 := (BB1.out.here hSw).cell 1; simp only [List.getElem?_cons_zero, List.getElem?_cons_succ] at q1; go_simp <;> with_reducible rfl
      (try simp only [Act.put, List.setIfInBounds_toArray, List.set_cons_zero, List.set_cons_succ])
      refine PX.wpAnyY_take (i := 2) (oi := ?_) (v := ?_) ?_ (by kernel_rfl) (by kernel_rfl) (by kernel_rfl) (by kernel_rfl) (by kernel_rfl) (fun _ _ _ h => h) (Or.inl ⟨?_, ?_⟩) (by assumption) ?_
      rotate_left 2
      · simp only [List.getElem?_toArray, List.getElem?_cons_succ, List.getElem?_cons_zero]; rfl
      · rfl
      · intro w hSw; (try dsimp only at hSw); go_simp <;> with_reducible rfl
      (try simp only [Act.put, List.setIfInBounds_toArray, List.set_cons_zero, List.set_cons_succ])
      refine PX.wpAnyY_take (i := 3) (oi := ?_) (v := ?_) ?_ (by kernel_rfl) (by kernel_rfl) (by kernel_rfl) (by kernel_rfl) (by kernel_rfl) (fun _ _ _ h => h) (Or.inl ⟨?_, ?_⟩) (by assumption) ?_
      rotate_left 2
      · simp only [List.getElem?_toArray, List.getElem?_cons_succ, List.getElem?_cons_zero]; rfl
      · rfl
      · intro w hSw; (try dsimp only at hSw); have q3 := (BF1.out.here hSw).cell 2; simp only [List.getElem?_cons_zero, List.getElem?_cons_succ] at q3; go_simp <;> with_reducible rfl
      (try simp only [Act.put, List.setIfInBounds_toArray, List.set_cons_zero, List.set_cons_succ])
      refine PX.wpAnyY_take (i := 4) (oi := ?_) (v := ?_) ?_ (by kernel_rfl) (by kernel_rfl) (by kernel_rfl) (by kernel_rfl) (by kernel_rfl) (fun _ _ _ h => h) (Or.inl ⟨?_, ?_⟩) (by assumption) ?_
      rotate_left 2
      · simp only [List.getElem?_toArray, List.getElem?_cons_succ, List.getElem?_cons_zero]; rfl
      · rfl
      · intro w hSw; (try dsimp only at hSw); obtain ⟨q0, q1, q2⟩ := (BA1.out.here hSw).three; go_simp <;> with_reducible rfl
      (try simp only [Act.put, List.setIfInBounds_toArray, List.set_cons_zero, List.set_cons_succ])
      refine PX.wpAnyY_take (i := 5) (oi := ?_) (v := ?_) ?_ (by kernel_rfl) (by kernel_rfl) (by kernel_rfl) (by kernel_rfl) (by kernel_rfl) (fun _ _ _ h => h) (Or.inl ⟨?_, ?_⟩) (by assumption) ?_
      rotate_left 2
      · simp only [List.getElem?_toArray, List.getElem?_cons_succ, List.getElem?_cons_zero]; rfl
      · rfl
      · intro w hSw; (try dsimp only at hSw); have q0 := (BB1.out.here hSw).cell 0; have q1 := (BB1.out.here hSw).cell 1; have q2 := (BB1.out.here hSw).cell 2; have q3 := (BB1.out.here hSw).cell 3; simp only [List.getElem?_cons_zero, List.getElem?_cons_succ] at q0 q1 q2 q3; go_simp <;> with_reducible rfl
      (try simp only [Act.put, List.setIfInBounds_toArray, List.set_cons_zero, List.set_cons_succ])
      refine PX.wpAnyY_one (i := 6) (o := ?_) (by kernel_rfl) ?_ (fun Kq hKq => ?_)
      rotate_left
      · simp only [List.getElem?_toArray, List.getElem?_cons_succ, List.getElem?_cons_zero]; rfl
      go_simp
      refine (CC.out _ hHeld).mono ?_
      intro e w2 hn
      obtain ⟨ya, yn, yc, ya', yn', yc', rfl, od, -, b2⟩ := hn.open
      have B2 : Hid (Below W1.heap.size W1 w2) := thence hHeld b2 (Nat.le_refl _)
      have OD := Lib.hid (od.mono hHeld.size)
      clear b2 od hn
      go_wp2_with fail
      refine hKq.out _ _ (B2.out) (fun hHeld => ?_)
      clear hKq Kq
      (try simp only [Act.put, List.setIfInBounds_toArray, List.set_cons_zero, List.set_cons_succ])
      refine PX.wpAnyY_take (i := 7) (oi := ?_) (v := ?_) ?_ (by kernel_rfl) (by kernel_rfl) (by kernel_rfl) (by kernel_rfl) (by kernel_rfl) (fun _ _ _ h => h) (Or.inl ⟨?_, ?_⟩) (by assumption) ?_
      rotate_left 2
      · simp only [List.getElem?_toArray, List.getElem?_cons_succ, List.getElem?_cons_zero]; rfl
      · rfl
      · intro w hSw; (try dsimp only at hSw); go_simp <;> with_reducible rfl
      (try simp only [Act.put, List.setIfInBounds_toArray, List.set_cons_zero, List.set_cons_succ])
      refine PX.wpAnyY_take (i := 8) (oi := ?_) (v := ?_) ?_ (by kernel_rfl) (by kernel_rfl) (by kernel_rfl) (by kernel_rfl) (by kernel_rfl) (fun _ _ _ h => h) (Or.inl ⟨?_, ?_⟩) (by assumption) ?_
      rotate_left 2
      · simp only [List.getElem?_toArray, List.getElem?_cons_succ, List.getElem?_cons_zero]; rfl
      · rfl
      · intro w hSw; (try dsimp only at hSw); go_simp <;> with_reducible rfl
      (try simp only [Act.put, List.setIfInBounds_toArray, List.set_cons_zero, List.set_cons_succ])
      refine PX.wpAnyY_free (i := 9) (o := ?_) (by kernel_rfl) (by kernel_rfl) ?_ (fun Kq hKq => ?_)
      rotate_left
      · simp only [List.getElem?_toArray, List.getElem?_cons_succ, List.getElem?_cons_zero]; rfl
      have bc := BC1.out.here B2.out
      obtain ⟨q0, q1, q2⟩ := bc.three
      have f0 := bc.frozen 0
      have f1 := bc.frozen 1
      have f2 := bc.frozen 2
      go_simp
      refine hKq.out _ _ ?_
      clear hKq Kq
      (try simp only [Act.put, List.setIfInBounds_toArray, List.set_cons_zero, List.set_cons_succ])
      refine PX.wpAnyY_free (i := 10) (o := ?_) (by kernel_rfl) (by kernel_rfl) ?_ (fun Kq hKq => ?_)
      rotate_left
      · simp only [List.getElem?_toArray, List.getElem?_cons_succ, List.getElem?_cons_zero]; rfl
      go_simp
      refine hKq.out _ _ ?_
      clear hKq Kq
      (try simp only [Act.put, List.setIfInBounds_toArray, List.set_cons_zero, List.set_cons_succ])
      refine PX.wpAnyY_done (by kernel_rfl) ?_ _
      refine NoPanic.normal ?_
      have bc := BC1.out.here B2.out
      have FB := Lib.hid (((bc.set 0 (.slice ya yn yc)).set 1 (.slice ya' yn' yc')).set 2 (.bool E.dead))
      have sz : w.heap.size + 1 + 1 < W1.heap.size := BC1.out.lt
      have od3 := ((OD.out.setCell ⟨w.heap.size + 1 + 1, 0, none⟩ sz (.slice ya yn yc)).setCell ⟨w.heap.size + 1 + 1, 1, none⟩ sz (.slice ya' yn' yc')).setCell ⟨w.heap.size + 1 + 1, 2, none⟩ sz (.bool E.dead)
      have OI := Lib.hid (od3.mono AL1.out.size).ofI.1
      have BL := Lib.hid ((((thence AL1.out B2.out (Nat.le_refl _)).setCell (p := ⟨w.heap.size + 1 + 1, 0, none⟩) (by show w.heap.size ≤ w.heap.size + 1 + 1; omega) (.slice ya yn yc)).setCell (p := ⟨w.heap.size + 1 + 1, 1, none⟩) (by show w.heap.size ≤ w.heap.size + 1 + 1; omega) (.slice ya' yn' yc')).setCell (p := ⟨w.heap.size + 1 + 1, 2, none⟩) (by show w.heap.size ≤ w.heap.size + 1 + 1; omega) (.bool E.dead))
      obtain ⟨z0, z1, z2⟩ := FB.out.three
      clear od3 bc
      go_wp2_with fail
      exact bodyPost_ret (v := .tuple #[.agg #[.slice ya yn yc, .slice ya' yn' yc', .bool E.dead], .int .i64 (q : Int)]) (by simp [results, Try.results45, go_sem, z0, z1, z2]) rfl ⟨⟨ya, yn, yc, ya', yn', yc', E⟩, by rw [HC.out.1]; rfl, fun hh => ⟨HC.out.2 hh, .inr OI.out⟩, BL.out⟩
    · show Calls Try.prog 45 #[.agg #[.slice a n c, .slice a' n' c', .bool false], .agg #[.int .i64 d, .int .u8 3, .int .i64 p, .slice xa xlen xcap]] w _
      have CC : Hid (∀ w1, w.heap.size ≤ w1.heap.size → DevAt w1.heap.size w1 a n c a' n' c' D → Rd w1.heap.size w1 xa xlen xcap xl → Calls Try.prog 73 #[.agg #[.slice a n c, .slice a' n' c', .bool false], .agg #[.int .i64 d, .int .u8 3, .int .i64 p, .slice xa xlen xcap]] w1 (NewDev w1 (flushDev D) (DK.fcode D))) := fun w1 _ h h2 => by
        have := mflush_any ⟨a, n, c, a', n', c', D⟩ d p 3 xa xlen xcap xl w1 h (fit_may hm) h2 hl
        rw [show (⟨a, n, c, a', n', c', D⟩ : Dn).val = .agg #[.slice a n c, .slice a' n' c', .bool false] by rw [Dn.val, hd]] at this
        exact this
      obtain ⟨bA, bB, bC, bF, al⟩ := boxes4 w [.slice a n c, .slice a' n' c', .bool false] [.int .i64 d, .int .u8 3, .int .i64 p, .slice xa xlen xcap] [.slice none 0 0, .slice none 0 0, .bool false] [.nilFunc, .func (.func 71) #[] #[], .func (.func 72) #[] #[], .func (.func 73) #[] #[]] 37 33 37 103
      have hw : DK.fcode D = 0 := fcode_of hm hd
      have HC : Hid ((.int .i64 (if AK.errs D ⟨d, 3, p, xl⟩ then 9 else 0) = Value.int .i64 ((DK.fcode D : Nat) : Int)) ∧ (AK.errs D ⟨d, 3, p, xl⟩ = false → flushDev D = AK.did D ⟨d, 3, p, xl⟩)) := by
        refine ⟨?_, fun hh => ?_⟩
        · simp [AK.errs, hw]
        · simp [flushDev, hw, AK.did, hd]
      clear hw
      generalize hQ : DK.fcode D = q at *
      generalize hE : flushDev D = E at *
      clear hQ hE
      have Hr := Lib.hid hr
      have Hq := Lib.hid hq
      clear hr hm hq hl hk hd
      go_enter Try.func45, Try.ntmps45
      go_wp2_with fail
      generalize ((((w.alloc (.cells #[.slice a n c, .slice a' n' c', .bool false] 37)).alloc (.cells #[.int .i64 d, .int .u8 3, .int .i64 p, .slice xa xlen xcap] 33)).alloc (.cells #[.slice none 0 0, .slice none 0 0, .bool false] 37)).alloc (.cells #[.nilFunc, .func (.func 71) #[] #[], .func (.func 72) #[] #[], .func (.func 73) #[] #[]] 103)) = W1 at *
      replace CC : Hid (∀ w1, Below W1.heap.size W1 w1 → Calls Try.prog 73 #[.agg #[.slice a n c, .slice a' n' c', .bool false], .agg #[.int .i64 d, .int .u8 3, .int .i64 p, .slice xa xlen xcap]] w1 (NewDev w1 E q)) := fun w1 h =>
        CC.out w1 (Nat.le_trans al.size h.size) ((Hr.out.here al).here h) ((Hq.out.here al).here h)
      have BA1 := Lib.hid bA
      have BB1 := Lib.hid bB
      have BC1 := Lib.hid bC
      have BF1 := Lib.hid bF
      have AL1 := Lib.hid al
      clear bA bB bC bF al
      refine wp_region_noPanic ?_
      refine PX.wp_region_y (fun w' => Below W1.heap.size W1 w') [9, 10] (by kernel_rfl) (Below.refl _ _).drew (fun hHeld => ?_)
      refine PX.wpAnyY_take (i := 0) (oi := ?_) (v := ?_) ?_ (by kernel_rfl) (by kernel_rfl) (by kernel_rfl) (by kernel_rfl) (by kernel_rfl) (fun _ _ _ h => h) (Or.inl ⟨?_, ?_⟩) (by assumption) ?_
      rotate_left 2
      · simp only [List.getElem?_toArray, List.getElem?_cons_succ, List.getElem?_cons_zero]; rfl
      · rfl
      · intro w hSw; (try dsimp only at hSw); go_simp <;> with_reducible rfl
      (try simp only [Act.put, List.setIfInBounds_toArray, List.set_cons_zero, List.set_cons_succ])
      refine PX.wpAnyY_take (i := 1) (oi := ?_) (v := ?_) ?_ (by kernel_rfl) (by kernel_rfl) (by kernel_rfl) (by kernel_rfl) (by kernel_rfl) (fun _ _ _ h => h) (Or.inl ⟨?_, ?_⟩) (by assumption) ?_
      rotate_left 2
      · simp only [List.getElem?_toArray, List.getElem?_cons_succ, List.getElem?_cons_zero]; rfl
      · rfl
      · intro w hSw; (try dsimp only at hSw); have q1 := (BB1.out.here hSw).cell 1; simp only [List.getElem?_cons_zero, List.getElem?_cons_succ] at q1; go_simp <;> with_reducible rfl
      (try simp only [Act.put, List.setIfInBounds_toArray, List.set_cons_zero, List.set_cons_succ])
      refine PX.wpAnyY_take (i := 2) (oi := ?_) (v := ?_) ?_ (by kernel_rfl) (by kernel_rfl) (by kernel_rfl) (by kernel_rfl) (by kernel_rfl) (fun _ _ _ h => h) (Or.inl ⟨?_, ?_⟩) (by assumption) ?_
      rotate_left 2
      · simp only [List.getElem?_toArray, List.getElem?_cons_succ, List.getElem?_cons_zero]; rfl
      · rfl
      · intro w hSw; (try dsimp only at hSw); go_simp <;> with_reducible rfl
      (try simp only [Act.put, List.setIfInBounds_toArray, List.set_cons_zero, List.set_cons_succ])
      refine PX.wpAnyY_take (i := 3) (oi := ?_) (v := ?_) ?_ (by kernel_rfl) (by kernel_rfl) (by kernel_rfl) (by kernel_rfl) (by kernel_rfl) (fun _ _ _ h => h) (Or.inl ⟨?_, ?_⟩) (by assumption) ?_
      rotate_left 2
      · simp only [List.getElem?_toArray, List.getElem?_cons_succ, List.getElem?_cons_zero]; rfl
      · rfl
      · intro w hSw; (try dsimp only at hSw); have q3 := (BF1.out.here hSw).cell 3; simp only [List.getElem?_cons_zero, List.getElem?_cons_succ] at q3; go_simp <;> with_reducible rfl
      (try simp only [Act.put, List.setIfInBounds_toArray, List.set_cons_zero, List.set_cons_succ])
      refine PX.wpAnyY_take (i := 4) (oi := ?_) (v := ?_) ?_ (by kernel_rfl) (by kernel_rfl) (by kernel_rfl) (by kernel_rfl) (by kernel_rfl) (fun _ _ _ h => h) (Or.inl ⟨?_, ?_⟩) (by assumption) ?_
      rotate_left 2
      · simp only [List.getElem?_toArray, List.getElem?_cons_succ, List.getElem?_cons_zero]; rfl
      · rfl
      · intro w hSw; (try dsimp only at hSw); obtain ⟨q0, q1, q2⟩ := (BA1.out.here hSw).three; go_simp <;> with_reducible rfl
      (try simp only [Act.put, List.setIfInBounds_toArray, List.set_cons_zero, List.set_cons_succ])
      refine PX.wpAnyY_take (i := 5) (oi := ?_) (v := ?_) ?_ (by kernel_rfl) (by kernel_rfl) (by kernel_rfl) (by kernel_rfl) (by kernel_rfl) (fun _ _ _ h => h) (Or.inl ⟨?_, ?_⟩) (by assumption) ?_
      rotate_left 2
      · simp only [List.getElem?_toArray, List.getElem?_cons_succ, List.getElem?_cons_zero]; rfl
      · rfl
      · intro w hSw; (try dsimp only at hSw); have q0 := (BB1.out.here hSw).cell 0; have q1 := (BB1.out.here hSw).cell 1; have q2 := (BB1.out.here hSw).cell 2; have q3 := (BB1.out.here hSw).cell 3; simp only [List.getElem?_cons_zero, List.getElem?_cons_succ] at q0 q1 q2 q3; go_simp <;> with_reducible rfl
      (try simp only [Act.put, List.setIfInBounds_toArray, List.set_cons_zero, List.set_cons_succ])
      refine PX.wpAnyY_one (i := 6) (o := ?_) (by kernel_rfl) ?_ (fun Kq hKq => ?_)
      rotate_left
      · simp only [List.getElem?_toArray, List.getElem?_cons_succ, List.getElem?_cons_zero]; rfl
      go_simp
      refine (CC.out _ hHeld).mono ?_
      intro e w2 hn
      obtain ⟨ya, yn, yc, ya', yn', yc', rfl, od, -, b2⟩ := hn.open
      have B2 : Hid (Below W1.heap.size W1 w2) := thence hHeld b2 (Nat.le_refl _)
      have OD := Lib.hid (od.mono hHeld.size)
      clear b2 od hn
      go_wp2_with fail
      refine hKq.out _ _ (B2.out) (fun hHeld => ?_)
      clear hKq Kq
      (try simp only [Act.put, List.setIfInBounds_toArray, List.set_cons_zero, List.set_cons_succ])
      refine PX.wpAnyY_take (i := 7) (oi := ?_) (v := ?_) ?_ (by kernel_rfl) (by kernel_rfl) (by kernel_rfl) (by kernel_rfl) (by kernel_rfl) (fun _ _ _ h => h) (Or.inl ⟨?_, ?_⟩) (by assumption) ?_
      rotate_left 2
      · simp only [List.getElem?_toArray, List.getElem?_cons_succ, List.getElem?_cons_zero]; rfl
      · rfl
      · intro w hSw; (try dsimp only at hSw); go_simp <;> with_reducible rfl
      (try simp only [Act.put, List.setIfInBounds_toArray, List.set_cons_zero, List.set_cons_succ])
      refine PX.wpAnyY_take (i := 8) (oi := ?_) (v := ?_) ?_ (by kernel_rfl) (by kernel_rfl) (by kernel_rfl) (by kernel_rfl) (by kernel_rfl) (fun _ _ _ h => h) (Or.inl ⟨?_, ?_⟩) (by assumption) ?_
      rotate_left 2
      · simp only [List.getElem?_toArray, List.getElem?_cons_succ, List.getElem?_cons_zero]; rfl
      · rfl
      · intro w hSw; (try dsimp only at hSw); go_simp <;> with_reducible rfl
      (try simp only [Act.put, List.setIfInBounds_toArray, List.set_cons_zero, List.set_cons_succ])
      refine PX.wpAnyY_free (i := 9) (o := ?_) (by kernel_rfl) (by kernel_rfl) ?_ (fun Kq hKq => ?_)
      rotate_left
      · simp only [List.getElem?_toArray, List.getElem?_cons_succ, List.getElem?_cons_zero]; rfl
      have bc := BC1.out.here B2.out
      obtain ⟨q0, q1, q2⟩ := bc.three
      have f0 := bc.frozen 0
      have f1 := bc.frozen 1
      have f2 := bc.frozen 2
      go_simp
      refine hKq.out _ _ ?_
      clear hKq Kq
      (try simp only [Act.put, List.setIfInBounds_toArray, List.set_cons_zero, List.set_cons_succ])
      refine PX.wpAnyY_free (i := 10) (o := ?_) (by kernel_rfl) (by kernel_rfl) ?_ (fun Kq hKq => ?_)
      rotate_left
      · simp only [List.getElem?_toArray, List.getElem?_cons_succ, List.getElem?_cons_zero]; rfl
      go_simp
      refine hKq.out _ _ ?_
      clear hKq Kq
      (try simp only [Act.put, List.setIfInBounds_toArray, List.set_cons_zero, List.set_cons_succ])
      refine PX.wpAnyY_done (by kernel_rfl) ?_ _
      refine NoPanic.normal ?_
      have bc := BC1.out.here B2.out
      have FB := Lib.hid (((bc.set 0 (.slice ya yn yc)).set 1 (.slice ya' yn' yc')).set 2 (.bool E.dead))
      have sz : w.heap.size + 1 + 1 < W1.heap.size := BC1.out.lt
      have od3 := ((OD.out.setCell ⟨w.heap.size + 1 + 1, 0, none⟩ sz (.slice ya yn yc)).setCell ⟨w.heap.size + 1 + 1, 1, none⟩ sz (.slice ya' yn' yc')).setCell ⟨w.heap.size + 1 + 1, 2, none⟩ sz (.bool E.dead)
      have OI := Lib.hid (od3.mono AL1.out.size).ofI.1
      have BL := Lib.hid ((((thence AL1.out B2.out (Nat.le_refl _)).setCell (p := ⟨w.heap.size + 1 + 1, 0, none⟩) (by show w.heap.size ≤ w.heap.size + 1 + 1; omega) (.slice ya yn yc)).setCell (p := ⟨w.heap.size + 1 + 1, 1, none⟩) (by show w.heap.size ≤ w.heap.size + 1 + 1; omega) (.slice ya' yn' yc')).setCell (p := ⟨w.heap.size + 1 + 1, 2, none⟩) (by show w.heap.size ≤ w.heap.size + 1 + 1; omega) (.bool E.dead))
      obtain ⟨z0, z1, z2⟩ := FB.out.three
      clear od3 bc
      go_wp2_with fail
      exact bodyPost_ret (v := .tuple #[.agg #[.slice ya yn yc, .slice ya' yn' yc', .bool E.dead], .int .i64 (q : Int)]) (by simp [results, Try.results45, go_sem, z0, z1, z2]) rfl ⟨⟨ya, yn, yc, ya', yn', yc', E⟩, by rw [HC.out.1]; rfl, fun hh => ⟨HC.out.2 hh, .inr OI.out⟩, BL.out⟩
end Go.Proofs.Ytnhfkfihlkbkfaa.PW
