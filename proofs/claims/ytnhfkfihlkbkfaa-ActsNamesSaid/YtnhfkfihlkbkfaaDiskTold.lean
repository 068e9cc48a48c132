/-
  Contracts of layer 4's laws: what is read, and what lasts, as text.
-/
import Derived.Test.YtnhfkfihlkbkfaaDiskRead
import Derived.Test.YtnhfkfihlkbkfaaDiskGreat
import Derived.Test.YtnhfkfihlkbkfaaDiskSame
import Derived.Test.YtnhfkfihlkbkfaaDiskRefSame
import Derived.Test.YtnhfkfihlkbkfaaHoist
namespace Go.Proofs.Ytnhfkfihlkbkfaa.PW
open Go.RowKit
open DK (Dv)
set_option linter.unusedVariables false
set_option maxRecDepth 100000
set_option linter.unusedSimpArgs false

/-- What a read, or a look at what lasts, hands back: nothing where there is an error. -/
def rtext (D : Dv) (at_ : Int) : List Nat := if DK.rcode D at_ = 0 then DK.seen D at_ else []
def ltext (D : Dv) (at_ : Int) : List Nat := if DK.rcode D at_ = 0 then DK.lies D at_ else []
def Dv.Byt (D : Dv) : Prop := (∀ l ∈ D.bs, Bytes l) ∧ (∀ p ∈ D.ws, Bytes p.2)
theorem lies_ok {D : Dv} {at_ : Int} (hb : Dv.Byt D) (h : DK.rcode D at_ = 0) : (DK.lies D at_).length = 128 ∧ Bytes (DK.lies D at_) := by
  obtain ⟨h1, h2, _⟩ := rcode_has h
  rw [DK.has_iff] at h2
  have hlt : at_.toNat < D.bs.length := by omega
  have hm : D.bs.getD at_.toNat [] ∈ D.bs := mem_getD hlt
  have ho := (DK.may_iff.1 h1).2.2.2.2.1 _ hm
  unfold DK.okB at ho
  rw [Bool.and_eq_true] at ho
  exact ⟨DK.fl_length ho.1, DK.fl_bytes (hb.1 _ hm)⟩
theorem look_ok {at_ : Int} {i : List Nat} {ws : List (Int × List Nat)} (hi : i.length = 128 ∧ Bytes i) (hw : ∀ p ∈ ws, DK.sized p.2 = true ∧ Bytes p.2) : (DK.look at_ i ws).length = 128 ∧ Bytes (DK.look at_ i ws) := by
  induction ws generalizing i with
  | nil => exact hi
  | cons p r ih =>
    show (DK.look at_ (if p.1 = at_ then DK.fl p.2 else i) r).length = 128 ∧ Bytes (DK.look at_ (if p.1 = at_ then DK.fl p.2 else i) r)
    have hp := hw p (List.mem_cons_self ..)
    refine ih ?_ (fun q hq => hw q (List.mem_cons_of_mem _ hq))
    split
    · exact ⟨DK.fl_length hp.1, DK.fl_bytes hp.2⟩
    · exact hi
theorem seen_ok {D : Dv} {at_ : Int} (hb : Dv.Byt D) (h : DK.rcode D at_ = 0) : (DK.seen D at_).length = 128 ∧ Bytes (DK.seen D at_) := by
  obtain ⟨h1, _, _⟩ := rcode_has h
  refine look_ok (lies_ok hb h) (fun p hp => ?_)
  have ho := (DK.may_iff.1 h1).2.2.2.2.2 _ hp
  unfold DK.okW at ho
  rw [Bool.and_eq_true] at ho
  exact ⟨ho.2, hb.2 p hp⟩
/-- What a call answers that hands back bytes and an error's number. -/
def TheTx (w : World) (m : List Nat) (c : Nat) (e : Ending) (w' : World) : Prop :=
  ∃ a n cp, e = .returned (.tuple #[.slice a n cp, .int .i64 (c : Int)]) ∧ Item w.heap.size w' ⟨a, n, cp, m⟩ ∧ Below w.heap.size w w'
theorem TheTx.ofBlk {w w' : World} {m : List Nat} {c : Nat} {e : Ending} (h : TheBlk w m c e w') (hm : c = 0 → m.length = 128 ∧ Bytes m) : TheTx w (if c = 0 then m else []) c e w' := by
  rcases h with ⟨rfl, g, rfl, hg, hb, hB⟩ | ⟨hc, rfl, hB⟩
  · obtain ⟨h1, h2⟩ := hm rfl
    exact ⟨_, 128, 128, rfl, ⟨hb.rd h1 h2 (by show 128 ≤ maxLen; unfold maxLen; decide), hb.free hg⟩, hB⟩
  · rw [if_neg hc]
    exact ⟨none, 0, 0, rfl, ⟨rd_nil _ _, .inl rfl⟩, hB⟩
theorem read_tx (a : Option Addr) (n c : Nat) (a' : Option Addr) (n' c' : Nat) (D : Dv) (at_ : Int) (w : World) (hr : DevAt w.heap.size w a n c a' n' c' D) :
    Calls Try.prog 33 #[.agg #[.slice a n c, .slice a' n' c', .bool D.dead], .int .i64 at_] w (TheTx w (rtext D at_) (DK.rcode D at_)) :=
  (read_any a n c a' n' c' D at_ w hr).mono fun e w' h => TheTx.ofBlk h (seen_ok hr.bytes)
theorem lasting_tx (a : Option Addr) (n c : Nat) (a' : Option Addr) (n' c' : Nat) (D : Dv) (at_ : Int) (w : World) (hr : DevAt w.heap.size w a n c a' n' c' D) :
    Calls Try.prog 31 #[.agg #[.slice a n c, .slice a' n' c', .bool D.dead], .int .i64 at_] w (TheTx w (ltext D at_) (DK.rcode D at_)) :=
  (lasting_any a n c a' n' c' D at_ w hr).mono fun e w' h => TheTx.ofBlk h (lies_ok hr.bytes)
theorem full_rd (x : Nat) (hx : x < 256) (w : World) :
    Calls Try.prog 37 #[.int .u8 (x : Int)] w fun e w' => ∃ g, e = .returned (.slice (some ⟨g, 0, none⟩) 128 128) ∧ w.heap.size ≤ g ∧ Rd w'.heap.size w' (some ⟨g, 0, none⟩) 128 128 (List.replicate 128 x) ∧ Below w.heap.size w w' :=
  (lawFull_any x hx w).mono fun e w' ⟨g, he, hg, hb, hB⟩ => ⟨g, he, hg, hb.rd (by simp) (by intro y hy; rw [List.mem_replicate] at hy; omega), hB⟩
def told (m : List Nat) (c x : Nat) : Bool := decide (c = 0 ∧ m = List.replicate 128 x)
theorem told_str {m : List Nat} {x : Nat} (hx : x < 256) (hm : Bytes m) : ((str m).toList == (str (List.replicate 128 x)).toList) = told m 0 x := by
  have hr : Bytes (List.replicate 128 x) := by intro y hy; rw [List.mem_replicate] at hy; omega
  unfold told
  by_cases h : m = List.replicate 128 x
  · rw [h]; simp
  · rw [str_ne hm hr h]; exact (decide_eq_false (fun hh => h hh.2)).symm

set_option maxRecDepth 100000 in
set_option maxHeartbeats 1000000 in
theorem reads_any (a : Option Addr) (n c : Nat) (a' : Option Addr) (n' c' : Nat) (D : Dv) (at_ : Int) (x : Nat) (hx : x < 256) (w : World) (hr : DevAt w.heap.size w a n c a' n' c' D) :
    Calls Try.prog 41 #[.agg #[.slice a n c, .slice a' n' c', .bool D.dead], .int .i64 at_, .int .u8 (x : Int)] w fun e w' => e = .returned (.bool (told (rtext D at_) (DK.rcode D at_) x)) ∧ Below w.heap.size w w' := by
  have hb0 : Below w.heap.size w (w.alloc (.cells #[.slice a n c, .slice a' n' c', .bool D.dead] 37)) := (Below.refl _ _).alloc (Nat.le_refl _) _
  have CR := Lib.hid (read_tx a n c a' n' c' D at_ _ (hr.here hb0))
  have CF : Hid (∀ w1, Calls Try.prog 37 #[.int .u8 (x : Int)] w1 fun e w' => ∃ g, e = .returned (.slice (some ⟨g, 0, none⟩) 128 128) ∧ w1.heap.size ≤ g ∧ Rd w'.heap.size w' (some ⟨g, 0, none⟩) 128 128 (List.replicate 128 x) ∧ Below w1.heap.size w1 w') := fun w1 => full_rd x hx w1
  have TS : Hid (∀ m, Bytes m → ((str m).toList == (str (List.replicate 128 x)).toList) = told m 0 x) := fun m hm => told_str hx hm
  have HB := Lib.hid hb0
  clear hb0 hr hx
  generalize rtext D at_ = m at *
  generalize List.replicate 128 x = R at *
  generalize D.dead = dd at *
  by_cases h0 : DK.rcode D at_ = 0
  · rw [h0] at CR ⊢
    clear h0
    go_enter Try.func41, Try.ntmps41
    go_wp2_with fail
    refine CR.out.mono ?_
    rintro e w1 ⟨ar, nr, cr, rfl, it, b1⟩
    have IT := Lib.hid it
    have B1 := Lib.hid (thence HB.out b1 (Nat.le_refl _))
    clear it b1
    go_wp2_with fail
    refine wp_region_noPanic ?_
    refine PX.wp_region_x (fun w' => Below w1.heap.size w1 w') 10 (by kernel_rfl) (Below.refl _ _).drew (fun hHeld => ?_)
    refine PX.wpAnyX_take (i := 0) (oi := ?_) (v := ?_) ?_ (by kernel_rfl) (by kernel_rfl) (by kernel_rfl) (by kernel_rfl) (by kernel_rfl) (fun _ _ _ h => h) (Or.inl ⟨?_, ?_⟩) (by assumption) ?_
    rotate_left 2
    · simp only [List.getElem?_toArray, List.getElem?_cons_succ, List.getElem?_cons_zero]; rfl
    · rfl
    · intro w hSw; (try dsimp only at hSw); go_simp <;> with_reducible rfl
    (try simp only [Act.put, List.setIfInBounds_toArray, List.set_cons_zero, List.set_cons_succ])
    refine PX.wpAnyX_take (i := 1) (oi := ?_) (v := ?_) ?_ (by kernel_rfl) (by kernel_rfl) (by kernel_rfl) (by kernel_rfl) (by kernel_rfl) (fun _ _ _ h => h) (Or.inl ⟨?_, ?_⟩) (by assumption) ?_
    rotate_left 2
    · simp only [List.getElem?_toArray, List.getElem?_cons_succ, List.getElem?_cons_zero]; rfl
    · rfl
    · intro w hSw; (try dsimp only at hSw); go_simp <;> with_reducible rfl
    (try simp only [Act.put, List.setIfInBounds_toArray, List.set_cons_zero, List.set_cons_succ])
    refine PX.wpAnyX_take (i := 2) (oi := ?_) (v := ?_) ?_ (by kernel_rfl) (by kernel_rfl) (by kernel_rfl) (by kernel_rfl) (by kernel_rfl) (fun _ _ _ h => h) (Or.inl ⟨?_, ?_⟩) (by assumption) ?_
    rotate_left 2
    · simp only [List.getElem?_toArray, List.getElem?_cons_succ, List.getElem?_cons_zero]; rfl
    · rfl
    · intro w hSw; (try dsimp only at hSw); go_simp <;> with_reducible rfl
    (try simp only [Act.put, List.setIfInBounds_toArray, List.set_cons_zero, List.set_cons_succ])
    refine PX.wpAnyX_take (i := 3) (oi := ?_) (v := ?_) ?_ (by kernel_rfl) (by kernel_rfl) (by kernel_rfl) (by kernel_rfl) (by kernel_rfl) (fun _ _ _ h => h) (Or.inl ⟨?_, ?_⟩) (by assumption) ?_
    rotate_left 2
    · simp only [List.getElem?_toArray, List.getElem?_cons_succ, List.getElem?_cons_zero]; rfl
    · rfl
    · intro w hSw; (try dsimp only at hSw); go_simp <;> with_reducible rfl
    (try simp only [Act.put, List.setIfInBounds_toArray, List.set_cons_zero, List.set_cons_succ])
    refine PX.wpAnyX_take (i := 5) (oi := ?_) (v := ?_) ?_ (by kernel_rfl) (by kernel_rfl) (by kernel_rfl) (by kernel_rfl) (by kernel_rfl) (fun _ _ _ h => h) (Or.inl ⟨?_, ?_⟩) (by assumption) ?_
    rotate_left 2
    · simp only [List.getElem?_toArray, List.getElem?_cons_succ, List.getElem?_cons_zero]; rfl
    · rfl
    · intro w hSw; (try dsimp only at hSw); go_simp <;> with_reducible rfl
    (try simp only [Act.put, List.setIfInBounds_toArray, List.set_cons_zero, List.set_cons_succ])
    refine PX.wpAnyX_take (i := 4) (oi := ?_) (v := ?_) ?_ (by kernel_rfl) (by kernel_rfl) (by kernel_rfl) (by kernel_rfl) (by kernel_rfl) (fun _ _ _ h => h) (Or.inl ⟨?_, ?_⟩) (by assumption) ?_
    rotate_left 2
    · simp only [List.getElem?_toArray, List.getElem?_cons_succ, List.getElem?_cons_zero]; rfl
    · rfl
    · intro w hSw; (try dsimp only at hSw); have T4 := text_is w _ _ _ _ (IT.out.rd.below hSw); go_simp <;> with_reducible rfl
    (try simp only [Act.put, List.setIfInBounds_toArray, List.set_cons_zero, List.set_cons_succ])
    refine PX.wpAnyX_one (i := 6) (o := ?_) (by kernel_rfl) ?_ (fun Kq hKq => ?_)
    rotate_left
    · simp only [List.getElem?_toArray, List.getElem?_cons_succ, List.getElem?_cons_zero]; rfl
    go_simp
    refine (CF.out _).mono ?_
    rintro e w5 ⟨g5, rfl, hg5, r5, b5⟩
    have B5 : Hid (Below w1.heap.size w1 w5) := hHeld.trans (b5.mono hHeld.size)
    have R5 := Lib.hid r5
    clear b5 r5 hg5
    go_wp2_with fail
    refine hKq.out _ _ (B5.out) (fun hHeld => ?_)
    clear hKq Kq
    (try simp only [Act.put, List.setIfInBounds_toArray, List.set_cons_zero, List.set_cons_succ])
    refine PX.wpAnyX_one (i := 7) (o := ?_) (by kernel_rfl) ?_ (fun Kq hKq => ?_)
    rotate_left
    · simp only [List.getElem?_toArray, List.getElem?_cons_succ, List.getElem?_cons_zero]; rfl
    have T7 := text_is _ _ _ _ _ R5.out
    go_simp
    refine hKq.out _ _ (B5.out) (fun hHeld => ?_)
    clear hKq Kq
    (try simp only [Act.put, List.setIfInBounds_toArray, List.set_cons_zero, List.set_cons_succ])
    refine PX.wpAnyX_one (i := 8) (o := ?_) (by kernel_rfl) ?_ (fun Kq hKq => ?_)
    rotate_left
    · simp only [List.getElem?_toArray, List.getElem?_cons_succ, List.getElem?_cons_zero]; rfl
    go_simp
    refine hKq.out _ _ (B5.out) (fun hHeld => ?_)
    clear hKq Kq
    (try simp only [Act.put, List.setIfInBounds_toArray, List.set_cons_zero, List.set_cons_succ])
    refine PX.wpAnyX_one (i := 9) (o := ?_) (by kernel_rfl) ?_ (fun Kq hKq => ?_)
    rotate_left
    · simp only [List.getElem?_toArray, List.getElem?_cons_succ, List.getElem?_cons_zero]; rfl
    go_simp
    refine hKq.out _ _ (B5.out) (fun hHeld => ?_)
    clear hKq Kq
    (try simp only [Act.put, List.setIfInBounds_toArray, List.set_cons_zero, List.set_cons_succ])
    refine PX.wpAnyX_last (o := ?_) (by kernel_rfl) ?_ (fun Kq hKq => ?_)
    rotate_left
    · simp only [List.getElem?_toArray, List.getElem?_cons_succ, List.getElem?_cons_zero]; rfl
    go_simp
    refine hKq.out _ _ ?_
    clear hKq Kq
    (try simp only [Act.put, List.setIfInBounds_toArray, List.set_cons_zero, List.set_cons_succ])
    refine PX.wpAnyX_done (by kernel_rfl) ?_ _
    have B9 := B5
    refine NoPanic.normal ?_
    go_wp2_with fail
    go_ret
    exact ⟨by rw [← TS.out m IT.out.rd.byt]; rfl, (B1.out.trans (B9.out.mono B1.out.size))⟩
  · have hk : told m (DK.rcode D at_) x = false := by simp [told, h0]
    rw [hk]
    have e0 : ((DK.rcode D at_ : Int) == 0) = false := by rw [beq_eq_false_iff_ne]; omega
    clear h0 hk CF TS
    generalize DK.rcode D at_ = q at *
    go_enter Try.func41, Try.ntmps41
    go_wp2_with fail
    refine CR.out.mono ?_
    rintro e w1 ⟨ar, nr, cr, rfl, it, b1⟩
    have B1 := Lib.hid (thence HB.out b1 (Nat.le_refl _))
    clear it b1
    go_wp2_with fail
    refine wp_region_noPanic ?_
    refine PX.wp_region_x (fun w' => Below w1.heap.size w1 w') 10 (by kernel_rfl) (Below.refl _ _).drew (fun hHeld => ?_)
    refine PX.wpAnyX_take (i := 0) (oi := ?_) (v := ?_) ?_ (by kernel_rfl) (by kernel_rfl) (by kernel_rfl) (by kernel_rfl) (by kernel_rfl) (fun _ _ _ h => h) (Or.inl ⟨?_, ?_⟩) (by assumption) ?_
    rotate_left 2
    · simp only [List.getElem?_toArray, List.getElem?_cons_succ, List.getElem?_cons_zero]; rfl
    · rfl
    · intro w hSw; (try dsimp only at hSw); go_simp <;> with_reducible rfl
    (try simp only [Act.put, List.setIfInBounds_toArray, List.set_cons_zero, List.set_cons_succ])
    refine PX.wpAnyX_take (i := 1) (oi := ?_) (v := ?_) ?_ (by kernel_rfl) (by kernel_rfl) (by kernel_rfl) (by kernel_rfl) (by kernel_rfl) (fun _ _ _ h => h) (Or.inl ⟨?_, ?_⟩) (by assumption) ?_
    rotate_left 2
    · simp only [List.getElem?_toArray, List.getElem?_cons_succ, List.getElem?_cons_zero]; rfl
    · rfl
    · intro w hSw; (try dsimp only at hSw); go_simp <;> with_reducible rfl
    (try simp only [Act.put, List.setIfInBounds_toArray, List.set_cons_zero, List.set_cons_succ])
    refine PX.wpAnyX_take (i := 2) (oi := ?_) (v := ?_) ?_ (by kernel_rfl) (by kernel_rfl) (by kernel_rfl) (by kernel_rfl) (by kernel_rfl) (fun _ _ _ h => h) (Or.inl ⟨?_, ?_⟩) (by assumption) ?_
    rotate_left 2
    · simp only [List.getElem?_toArray, List.getElem?_cons_succ, List.getElem?_cons_zero]; rfl
    · rfl
    · intro w hSw; (try dsimp only at hSw); go_simp <;> with_reducible rfl
    (try simp only [Act.put, List.setIfInBounds_toArray, List.set_cons_zero, List.set_cons_succ])
    refine PX.wpAnyX_take (i := 3) (oi := ?_) (v := undef) ?_ (by kernel_rfl) (by kernel_rfl) (by kernel_rfl) (by kernel_rfl) (by kernel_rfl) (fun _ _ _ h => h) (Or.inr ⟨?_, rfl⟩) (by assumption) ?_
    rotate_left
    · simp only [List.getElem?_toArray, List.getElem?_cons_succ, List.getElem?_cons_zero]; rfl
    · rfl
    (try simp only [Act.put, List.setIfInBounds_toArray, List.set_cons_zero, List.set_cons_succ])
    refine PX.wpAnyX_take (i := 4) (oi := ?_) (v := undef) ?_ (by kernel_rfl) (by kernel_rfl) (by kernel_rfl) (by kernel_rfl) (by kernel_rfl) (fun _ _ _ h => h) (Or.inr ⟨?_, rfl⟩) (by assumption) ?_
    rotate_left
    · simp only [List.getElem?_toArray, List.getElem?_cons_succ, List.getElem?_cons_zero]; rfl
    · rfl
    (try simp only [Act.put, List.setIfInBounds_toArray, List.set_cons_zero, List.set_cons_succ])
    refine PX.wpAnyX_take (i := 5) (oi := ?_) (v := undef) ?_ (by kernel_rfl) (by kernel_rfl) (by kernel_rfl) (by kernel_rfl) (by kernel_rfl) (fun _ _ _ h => h) (Or.inr ⟨?_, rfl⟩) (by assumption) ?_
    rotate_left
    · simp only [List.getElem?_toArray, List.getElem?_cons_succ, List.getElem?_cons_zero]; rfl
    · rfl
    (try simp only [Act.put, List.setIfInBounds_toArray, List.set_cons_zero, List.set_cons_succ])
    refine PX.wpAnyX_take (i := 6) (oi := ?_) (v := undef) ?_ (by kernel_rfl) (by kernel_rfl) (by kernel_rfl) (by kernel_rfl) (by kernel_rfl) (fun _ _ _ h => h) (Or.inr ⟨?_, rfl⟩) (by assumption) ?_
    rotate_left
    · simp only [List.getElem?_toArray, List.getElem?_cons_succ, List.getElem?_cons_zero]; rfl
    · rfl
    (try simp only [Act.put, List.setIfInBounds_toArray, List.set_cons_zero, List.set_cons_succ])
    refine PX.wpAnyX_take (i := 7) (oi := ?_) (v := undef) ?_ (by kernel_rfl) (by kernel_rfl) (by kernel_rfl) (by kernel_rfl) (by kernel_rfl) (fun _ _ _ h => h) (Or.inr ⟨?_, rfl⟩) (by assumption) ?_
    rotate_left
    · simp only [List.getElem?_toArray, List.getElem?_cons_succ, List.getElem?_cons_zero]; rfl
    · rfl
    (try simp only [Act.put, List.setIfInBounds_toArray, List.set_cons_zero, List.set_cons_succ])
    refine PX.wpAnyX_take (i := 8) (oi := ?_) (v := undef) ?_ (by kernel_rfl) (by kernel_rfl) (by kernel_rfl) (by kernel_rfl) (by kernel_rfl) (fun _ _ _ h => h) (Or.inr ⟨?_, rfl⟩) (by assumption) ?_
    rotate_left
    · simp only [List.getElem?_toArray, List.getElem?_cons_succ, List.getElem?_cons_zero]; rfl
    · rfl
    (try simp only [Act.put, List.setIfInBounds_toArray, List.set_cons_zero, List.set_cons_succ])
    refine PX.wpAnyX_one (i := 9) (o := ?_) (by kernel_rfl) ?_ (fun Kq hKq => ?_)
    rotate_left
    · simp only [List.getElem?_toArray, List.getElem?_cons_succ, List.getElem?_cons_zero]; rfl
    go_simp
    refine hKq.out _ _ (by assumption) (fun hHeld => ?_)
    clear hKq Kq
    (try simp only [Act.put, List.setIfInBounds_toArray, List.set_cons_zero, List.set_cons_succ])
    refine PX.wpAnyX_last (o := ?_) (by kernel_rfl) ?_ (fun Kq hKq => ?_)
    rotate_left
    · simp only [List.getElem?_toArray, List.getElem?_cons_succ, List.getElem?_cons_zero]; rfl
    go_simp
    refine hKq.out _ _ ?_
    clear hKq Kq
    (try simp only [Act.put, List.setIfInBounds_toArray, List.set_cons_zero, List.set_cons_succ])
    refine PX.wpAnyX_done (by kernel_rfl) ?_ _
    refine NoPanic.normal ?_
    go_wp2_with fail
    go_ret
    exact ⟨rfl, B1.out.drew⟩

set_option maxRecDepth 100000 in
set_option maxHeartbeats 1000000 in
theorem lasts_any (a : Option Addr) (n c : Nat) (a' : Option Addr) (n' c' : Nat) (D : Dv) (at_ : Int) (x : Nat) (hx : x < 256) (w : World) (hr : DevAt w.heap.size w a n c a' n' c' D) :
    Calls Try.prog 42 #[.agg #[.slice a n c, .slice a' n' c', .bool D.dead], .int .i64 at_, .int .u8 (x : Int)] w fun e w' => e = .returned (.bool (told (ltext D at_) (DK.rcode D at_) x)) ∧ Below w.heap.size w w' := by
  have hb0 : Below w.heap.size w (w.alloc (.cells #[.slice a n c, .slice a' n' c', .bool D.dead] 37)) := (Below.refl _ _).alloc (Nat.le_refl _) _
  have CR := Lib.hid (lasting_tx a n c a' n' c' D at_ _ (hr.here hb0))
  have CF : Hid (∀ w1, Calls Try.prog 37 #[.int .u8 (x : Int)] w1 fun e w' => ∃ g, e = .returned (.slice (some ⟨g, 0, none⟩) 128 128) ∧ w1.heap.size ≤ g ∧ Rd w'.heap.size w' (some ⟨g, 0, none⟩) 128 128 (List.replicate 128 x) ∧ Below w1.heap.size w1 w') := fun w1 => full_rd x hx w1
  have TS : Hid (∀ m, Bytes m → ((str m).toList == (str (List.replicate 128 x)).toList) = told m 0 x) := fun m hm => told_str hx hm
  have HB := Lib.hid hb0
  clear hb0 hr hx
  generalize ltext D at_ = m at *
  generalize List.replicate 128 x = R at *
  generalize D.dead = dd at *
  by_cases h0 : DK.rcode D at_ = 0
  · rw [h0] at CR ⊢
    clear h0
    go_enter Try.func42, Try.ntmps42
    go_wp2_with fail
    refine CR.out.mono ?_
    rintro e w1 ⟨ar, nr, cr, rfl, it, b1⟩
    have IT := Lib.hid it
    have B1 := Lib.hid (thence HB.out b1 (Nat.le_refl _))
    clear it b1
    go_wp2_with fail
    refine wp_region_noPanic ?_
    refine PX.wp_region_x (fun w' => Below w1.heap.size w1 w') 10 (by kernel_rfl) (Below.refl _ _).drew (fun hHeld => ?_)
    refine PX.wpAnyX_take (i := 0) (oi := ?_) (v := ?_) ?_ (by kernel_rfl) (by kernel_rfl) (by kernel_rfl) (by kernel_rfl) (by kernel_rfl) (fun _ _ _ h => h) (Or.inl ⟨?_, ?_⟩) (by assumption) ?_
    rotate_left 2
    · simp only [List.getElem?_toArray, List.getElem?_cons_succ, List.getElem?_cons_zero]; rfl
    · rfl
    · intro w hSw; (try dsimp only at hSw); go_simp <;> with_reducible rfl
    (try simp only [Act.put, List.setIfInBounds_toArray, List.set_cons_zero, List.set_cons_succ])
    refine PX.wpAnyX_take (i := 1) (oi := ?_) (v := ?_) ?_ (by kernel_rfl) (by kernel_rfl) (by kernel_rfl) (by kernel_rfl) (by kernel_rfl) (fun _ _ _ h => h) (Or.inl ⟨?_, ?_⟩) (by assumption) ?_
    rotate_left 2
    · simp only [List.getElem?_toArray, List.getElem?_cons_succ, List.getElem?_cons_zero]; rfl
    · rfl
    · intro w hSw; (try dsimp only at hSw); go_simp <;> with_reducible rfl
    (try simp only [Act.put, List.setIfInBounds_toArray, List.set_cons_zero, List.set_cons_succ])
    refine PX.wpAnyX_take (i := 2) (oi := ?_) (v := ?_) ?_ (by kernel_rfl) (by kernel_rfl) (by kernel_rfl) (by kernel_rfl) (by kernel_rfl) (fun _ _ _ h => h) (Or.inl ⟨?_, ?_⟩) (by assumption) ?_
    rotate_left 2
    · simp only [List.getElem?_toArray, List.getElem?_cons_succ, List.getElem?_cons_zero]; rfl
    · rfl
    · intro w hSw; (try dsimp only at hSw); go_simp <;> with_reducible rfl
    (try simp only [Act.put, List.setIfInBounds_toArray, List.set_cons_zero, List.set_cons_succ])
    refine PX.wpAnyX_take (i := 3) (oi := ?_) (v := ?_) ?_ (by kernel_rfl) (by kernel_rfl) (by kernel_rfl) (by kernel_rfl) (by kernel_rfl) (fun _ _ _ h => h) (Or.inl ⟨?_, ?_⟩) (by assumption) ?_
    rotate_left 2
    · simp only [List.getElem?_toArray, List.getElem?_cons_succ, List.getElem?_cons_zero]; rfl
    · rfl
    · intro w hSw; (try dsimp only at hSw); go_simp <;> with_reducible rfl
    (try simp only [Act.put, List.setIfInBounds_toArray, List.set_cons_zero, List.set_cons_succ])
    refine PX.wpAnyX_take (i := 5) (oi := ?_) (v := ?_) ?_ (by kernel_rfl) (by kernel_rfl) (by kernel_rfl) (by kernel_rfl) (by kernel_rfl) (fun _ _ _ h => h) (Or.inl ⟨?_, ?_⟩) (by assumption) ?_
    rotate_left 2
    · simp only [List.getElem?_toArray, List.getElem?_cons_succ, List.getElem?_cons_zero]; rfl
    · rfl
    · intro w hSw; (try dsimp only at hSw); go_simp <;> with_reducible rfl
    (try simp only [Act.put, List.setIfInBounds_toArray, List.set_cons_zero, List.set_cons_succ])
    refine PX.wpAnyX_take (i := 4) (oi := ?_) (v := ?_) ?_ (by kernel_rfl) (by kernel_rfl) (by kernel_rfl) (by kernel_rfl) (by kernel_rfl) (fun _ _ _ h => h) (Or.inl ⟨?_, ?_⟩) (by assumption) ?_
    rotate_left 2
    · simp only [List.getElem?_toArray, List.getElem?_cons_succ, List.getElem?_cons_zero]; rfl
    · rfl
    · intro w hSw; (try dsimp only at hSw); have T4 := text_is w _ _ _ _ (IT.out.rd.below hSw); go_simp <;> with_reducible rfl
    (try simp only [Act.put, List.setIfInBounds_toArray, List.set_cons_zero, List.set_cons_succ])
    refine PX.wpAnyX_one (i := 6) (o := ?_) (by kernel_rfl) ?_ (fun Kq hKq => ?_)
    rotate_left
    · simp only [List.getElem?_toArray, List.getElem?_cons_succ, List.getElem?_cons_zero]; rfl
    go_simp
    refine (CF.out _).mono ?_
    rintro e w5 ⟨g5, rfl, hg5, r5, b5⟩
    have B5 : Hid (Below w1.heap.size w1 w5) := hHeld.trans (b5.mono hHeld.size)
    have R5 := Lib.hid r5
    clear b5 r5 hg5
    go_wp2_with fail
    refine hKq.out _ _ (B5.out) (fun hHeld => ?_)
    clear hKq Kq
    (try simp only [Act.put, List.setIfInBounds_toArray, List.set_cons_zero, List.set_cons_succ])
    refine PX.wpAnyX_one (i := 7) (o := ?_) (by kernel_rfl) ?_ (fun Kq hKq => ?_)
    rotate_left
    · simp only [List.getElem?_toArray, List.getElem?_cons_succ, List.getElem?_cons_zero]; rfl
    have T7 := text_is _ _ _ _ _ R5.out
    go_simp
    refine hKq.out _ _ (B5.out) (fun hHeld => ?_)
    clear hKq Kq
    (try simp only [Act.put, List.setIfInBounds_toArray, List.set_cons_zero, List.set_cons_succ])
    refine PX.wpAnyX_one (i := 8) (o := ?_) (by kernel_rfl) ?_ (fun Kq hKq => ?_)
    rotate_left
    · simp only [List.getElem?_toArray, List.getElem?_cons_succ, List.getElem?_cons_zero]; rfl
    go_simp
    refine hKq.out _ _ (B5.out) (fun hHeld => ?_)
    clear hKq Kq
    (try simp only [Act.put, List.setIfInBounds_toArray, List.set_cons_zero, List.set_cons_succ])
    refine PX.wpAnyX_one (i := 9) (o := ?_) (by kernel_rfl) ?_ (fun Kq hKq => ?_)
    rotate_left
    · simp only [List.getElem?_toArray, List.getElem?_cons_succ, List.getElem?_cons_zero]; rfl
    go_simp
    refine hKq.out _ _ (B5.out) (fun hHeld => ?_)
    clear hKq Kq
    (try simp only [Act.put, List.setIfInBounds_toArray, List.set_cons_zero, List.set_cons_succ])
    refine PX.wpAnyX_last (o := ?_) (by kernel_rfl) ?_ (fun Kq hKq => ?_)
    rotate_left
    · simp only [List.getElem?_toArray, List.getElem?_cons_succ, List.getElem?_cons_zero]; rfl
    go_simp
    refine hKq.out _ _ ?_
    clear hKq Kq
    (try simp only [Act.put, List.setIfInBounds_toArray, List.set_cons_zero, List.set_cons_succ])
    refine PX.wpAnyX_done (by kernel_rfl) ?_ _
    have B9 := B5
    refine NoPanic.normal ?_
    go_wp2_with fail
    go_ret
    exact ⟨by rw [← TS.out m IT.out.rd.byt]; rfl, (B1.out.trans (B9.out.mono B1.out.size))⟩
  · have hk : told m (DK.rcode D at_) x = false := by simp [told, h0]
    rw [hk]
    have e0 : ((DK.rcode D at_ : Int) == 0) = false := by rw [beq_eq_false_iff_ne]; omega
    clear h0 hk CF TS
    generalize DK.rcode D at_ = q at *
    go_enter Try.func42, Try.ntmps42
    go_wp2_with fail
    refine CR.out.mono ?_
    rintro e w1 ⟨ar, nr, cr, rfl, it, b1⟩
    have B1 := Lib.hid (thence HB.out b1 (Nat.le_refl _))
    clear it b1
    go_wp2_with fail
    refine wp_region_noPanic ?_
    refine PX.wp_region_x (fun w' => Below w1.heap.size w1 w') 10 (by kernel_rfl) (Below.refl _ _).drew (fun hHeld => ?_)
    refine PX.wpAnyX_take (i := 0) (oi := ?_) (v := ?_) ?_ (by kernel_rfl) (by kernel_rfl) (by kernel_rfl) (by kernel_rfl) (by kernel_rfl) (fun _ _ _ h => h) (Or.inl ⟨?_, ?_⟩) (by assumption) ?_
    rotate_left 2
    · simp only [List.getElem?_toArray, List.getElem?_cons_succ, List.getElem?_cons_zero]; rfl
    · rfl
    · intro w hSw; (try dsimp only at hSw); go_simp <;> with_reducible rfl
    (try simp only [Act.put, List.setIfInBounds_toArray, List.set_cons_zero, List.set_cons_succ])
    refine PX.wpAnyX_take (i := 1) (oi := ?_) (v := ?_) ?_ (by kernel_rfl) (by kernel_rfl) (by kernel_rfl) (by kernel_rfl) (by kernel_rfl) (fun _ _ _ h => h) (Or.inl ⟨?_, ?_⟩) (by assumption) ?_
    rotate_left 2
    · simp only [List.getElem?_toArray, List.getElem?_cons_succ, List.getElem?_cons_zero]; rfl
    · rfl
    · intro w hSw; (try dsimp only at hSw); go_simp <;> with_reducible rfl
    (try simp only [Act.put, List.setIfInBounds_toArray, List.set_cons_zero, List.set_cons_succ])
    refine PX.wpAnyX_take (i := 2) (oi := ?_) (v := ?_) ?_ (by kernel_rfl) (by kernel_rfl) (by kernel_rfl) (by kernel_rfl) (by kernel_rfl) (fun _ _ _ h => h) (Or.inl ⟨?_, ?_⟩) (by assumption) ?_
    rotate_left 2
    · simp only [List.getElem?_toArray, List.getElem?_cons_succ, List.getElem?_cons_zero]; rfl
    · rfl
    · intro w hSw; (try dsimp only at hSw); go_simp <;> with_reducible rfl
    (try simp only [Act.put, List.setIfInBounds_toArray, List.set_cons_zero, List.set_cons_succ])
    refine PX.wpAnyX_take (i := 3) (oi := ?_) (v := undef) ?_ (by kernel_rfl) (by kernel_rfl) (by kernel_rfl) (by kernel_rfl) (by kernel_rfl) (fun _ _ _ h => h) (Or.inr ⟨?_, rfl⟩) (by assumption) ?_
    rotate_left
    · simp only [List.getElem?_toArray, List.getElem?_cons_succ, List.getElem?_cons_zero]; rfl
    · rfl
    (try simp only [Act.put, List.setIfInBounds_toArray, List.set_cons_zero, List.set_cons_succ])
    refine PX.wpAnyX_take (i := 4) (oi := ?_) (v := undef) ?_ (by kernel_rfl) (by kernel_rfl) (by kernel_rfl) (by kernel_rfl) (by kernel_rfl) (fun _ _ _ h => h) (Or.inr ⟨?_, rfl⟩) (by assumption) ?_
    rotate_left
    · simp only [List.getElem?_toArray, List.getElem?_cons_succ, List.getElem?_cons_zero]; rfl
    · rfl
    (try simp only [Act.put, List.setIfInBounds_toArray, List.set_cons_zero, List.set_cons_succ])
    refine PX.wpAnyX_take (i := 5) (oi := ?_) (v := undef) ?_ (by kernel_rfl) (by kernel_rfl) (by kernel_rfl) (by kernel_rfl) (by kernel_rfl) (fun _ _ _ h => h) (Or.inr ⟨?_, rfl⟩) (by assumption) ?_
    rotate_left
    · simp only [List.getElem?_toArray, List.getElem?_cons_succ, List.getElem?_cons_zero]; rfl
    · rfl
    (try simp only [Act.put, List.setIfInBounds_toArray, List.set_cons_zero, List.set_cons_succ])
    refine PX.wpAnyX_take (i := 6) (oi := ?_) (v := undef) ?_ (by kernel_rfl) (by kernel_rfl) (by kernel_rfl) (by kernel_rfl) (by kernel_rfl) (fun _ _ _ h => h) (Or.inr ⟨?_, rfl⟩) (by assumption) ?_
    rotate_left
    · simp only [List.getElem?_toArray, List.getElem?_cons_succ, List.getElem?_cons_zero]; rfl
    · rfl
    (try simp only [Act.put, List.setIfInBounds_toArray, List.set_cons_zero, List.set_cons_succ])
    refine PX.wpAnyX_take (i := 7) (oi := ?_) (v := undef) ?_ (by kernel_rfl) (by kernel_rfl) (by kernel_rfl) (by kernel_rfl) (by kernel_rfl) (fun _ _ _ h => h) (Or.inr ⟨?_, rfl⟩) (by assumption) ?_
    rotate_left
    · simp only [List.getElem?_toArray, List.getElem?_cons_succ, List.getElem?_cons_zero]; rfl
    · rfl
    (try simp only [Act.put, List.setIfInBounds_toArray, List.set_cons_zero, List.set_cons_succ])
    refine PX.wpAnyX_take (i := 8) (oi := ?_) (v := undef) ?_ (by kernel_rfl) (by kernel_rfl) (by kernel_rfl) (by kernel_rfl) (by kernel_rfl) (fun _ _ _ h => h) (Or.inr ⟨?_, rfl⟩) (by assumption) ?_
    rotate_left
    · simp only [List.getElem?_toArray, List.getElem?_cons_succ, List.getElem?_cons_zero]; rfl
    · rfl
    (try simp only [Act.put, List.setIfInBounds_toArray, List.set_cons_zero, List.set_cons_succ])
    refine PX.wpAnyX_one (i := 9) (o := ?_) (by kernel_rfl) ?_ (fun Kq hKq => ?_)
    rotate_left
    · simp only [List.getElem?_toArray, List.getElem?_cons_succ, List.getElem?_cons_zero]; rfl
    go_simp
    refine hKq.out _ _ (by assumption) (fun hHeld => ?_)
    clear hKq Kq
    (try simp only [Act.put, List.setIfInBounds_toArray, List.set_cons_zero, List.set_cons_succ])
    refine PX.wpAnyX_last (o := ?_) (by kernel_rfl) ?_ (fun Kq hKq => ?_)
    rotate_left
    · simp only [List.getElem?_toArray, List.getElem?_cons_succ, List.getElem?_cons_zero]; rfl
    go_simp
    refine hKq.out _ _ ?_
    clear hKq Kq
    (try simp only [Act.put, List.setIfInBounds_toArray, List.set_cons_zero, List.set_cons_succ])
    refine PX.wpAnyX_done (by kernel_rfl) ?_ _
    refine NoPanic.normal ?_
    go_wp2_with fail
    go_ret
    exact ⟨rfl, B1.out.drew⟩
end Go.Proofs.Ytnhfkfihlkbkfaa.PW
