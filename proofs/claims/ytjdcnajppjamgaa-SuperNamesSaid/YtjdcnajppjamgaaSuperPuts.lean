/-
  Layer 10: what the program's own Write answers.
-/
import Derived.Test.YtjdcnajppjamgaaSuperCheck
import Derived.Test.YtjdcnajppjamgaaLabelParts
import Derived.Test.YtjdcnajppjamgaaPackWalks
import Derived.Test.YtjdcnajppjamgaaProgSum
import Derived.Test.YtjdcnajppjamgaaHoist
import Derived.Deep.QuietTactic
import Derived.BigQuiet
namespace Go.Proofs.Ytjdcnajppjamgaa.PW
open Go.RowKit
open SB (Sup)
set_option linter.unusedVariables false
set_option linter.unusedSimpArgs false
set_option maxRecDepth 100000


theorem Blk.other {w : World} {g : Nat} {l : List Nat} (h : Blk w g l) (p : Addr) (hp : p.block ≠ g) (v : Value) : Blk (w.setCell p v) g l := by
  obtain ⟨t, h⟩ := h
  exact ⟨t, by rw [Below.heap_setCell _ _ _ _ (fun e => hp e.symm)]; exact h⟩
theorem Blk.here {w w' : World} {g : Nat} {l : List Nat} (h : Blk w g l) (hb : Below w.heap.size w w') : Blk w' g l := h.below hb h.lt
/-- A block under way, behind a pointer. -/
def SuUnder (lo g0 : Nat) (w : World) (m : List Nat) (e : Ending) (w' : World) : Prop := ∃ g, e = .returned (.pointer (some ⟨g0, 0, none⟩)) ∧ w.heap.size ≤ g ∧ Bx w' g0 [.slice (some ⟨g, 0, none⟩) 128 128, .int .i64 0] ∧ Blk w' g m ∧ Below lo w w'
set_option maxHeartbeats 1000000 in
theorem suPut_yes (lo g0 : Nat) (a : Option Addr) (n c : Nat) (l : List Nat) (p s x : Nat) (w : World) (hl : lo ≤ g0) (hx : Bx w g0 [.slice a n c, .int .i64 0]) (hr : Rd w.heap.size w a n c l) (h : May l p s) (h1 : x < 256 ^ s) :
    Calls Try.prog 19 #[.pointer (some ⟨g0, 0, none⟩), .int .i64 p, .int .i64 s, .int .i64 x] w (SuUnder lo g0 w (PK.pk (PK.wh l) p x s)) := by
  have CU := Lib.hid (fun w1 hr => put_ok a n c l p s x w1 hr h h1)
  generalize PK.pk (PK.wh l) p x s = m at *
  have B0 : Hid (Below w.heap.size w w) := Below.refl _ _
  have BX := Lib.hid hx
  have RB := Lib.hid hr
  clear hx hr h h1
  obtain ⟨c0, c1⟩ := BX.out.two
  have lx := BX.out.lt
  have hlo : lo ≤ w.heap.size := by omega
  go_enter Try.func19, Try.ntmps19
  go_wp2_with fail
  (with_reducible refine (CU.out _ RB.out).mono ?_)
  rintro e w1 ⟨g1, rfl, hge, hblk, b1⟩
  have ng1 : g0 ≠ g1 := by omega
  replace BX := Lib.hid (BX.out.here b1)
  clear c0 c1 lx RB CU
  obtain ⟨c0, c1⟩ := BX.out.two
  have lx := BX.out.lt
  have f0 := BX.out.frozen 0
  have f1 := BX.out.frozen 1
  go_wp2_with fail
  go_ret
  exact ⟨g1, rfl, hge, (BX.out.set 0 _).set 1 _, (hblk.other ⟨g0, 0, none⟩ ng1 _).other ⟨g0, 1, none⟩ ng1 _, ((b1.mono hlo).setCell (p := ⟨g0, 0, none⟩) hl _).setCell (p := ⟨g0, 1, none⟩) hl _⟩

set_option maxHeartbeats 1000000 in
theorem suPut_no (g0 : Nat) (p s x : Int) (w : World) (hx : Bx w g0 [.slice none 0 0, .int .i64 8]) :
    Calls Try.prog 19 #[.pointer (some ⟨g0, 0, none⟩), .int .i64 p, .int .i64 s, .int .i64 x] w fun e w' => e = .returned (.pointer (some ⟨g0, 0, none⟩)) ∧ Below w.heap.size w w' := by
  have B0 : Hid (Below w.heap.size w w) := Below.refl _ _
  obtain ⟨c0, c1⟩ := hx.two
  have lx := hx.lt
  clear hx
  go_enter Try.func19, Try.ntmps19
  go_wp2_with fail
  go_ret
  exact ⟨rfl, B0.out⟩

set_option maxHeartbeats 1000000 in
theorem suSum_no (g0 : Nat) (w : World) (hx : Bx w g0 [.slice none 0 0, .int .i64 8]) :
    Calls Try.prog 20 #[.pointer (some ⟨g0, 0, none⟩)] w fun e w' => e = .returned (.pointer (some ⟨g0, 0, none⟩)) ∧ Below w.heap.size w w' := by
  have B0 : Hid (Below w.heap.size w w) := Below.refl _ _
  obtain ⟨c0, c1⟩ := hx.two
  have lx := hx.lt
  clear hx
  go_enter Try.func20, Try.ntmps20
  go_wp2_with fail
  go_ret
  exact ⟨rfl, B0.out⟩

set_option maxHeartbeats 2000000 in
theorem suSum_yes (lo g0 g : Nat) (l : List Nat) (w : World) (hl : lo ≤ g0) (hx : Bx w g0 [.slice (some ⟨g, 0, none⟩) 128 128, .int .i64 0]) (hg : Blk w g l) (hn : l.length = 128) (hy : Bytes l) (M : List Nat) (hM : PK.pk (PK.wh l) 124 (PM.over 0 (l.take 124)) 4 = M) :
    Calls Try.prog 20 #[.pointer (some ⟨g0, 0, none⟩)] w (SuUnder lo g0 w M) := by
  have hr : Rd w.heap.size w (some ⟨g, 0, none⟩) 128 128 l := hg.rd hn hy
  have CS := Lib.hid (fun w1 hr => pgSum_any (some ⟨g, 0, none⟩) 124 128 (l.take 124) w1 hr)
  have HO : Hid (PM.over 0 (l.take 124) < 256 ^ 4) := PM.over_lt _ _
  have CU0 := Lib.hid (fun w1 hx hr => suPut_yes lo g0 (some ⟨g, 0, none⟩) 128 128 l 124 4 (PM.over 0 (l.take 124)) w1 hl hx hr ⟨.inr hn, by decide, by decide, by decide, by decide⟩ HO.out)
  rw [hM] at CU0
  generalize PM.over 0 (l.take 124) = sm at *
  have CU : Hid (∀ w1, Bx w1 g0 [.slice (some ⟨g, 0, none⟩) 128 128, .int .i64 0] → Rd w1.heap.size w1 (some ⟨g, 0, none⟩) 128 128 l → Calls Try.prog 19 #[.pointer (some ⟨g0, 0, none⟩), .int .i64 124, .int .i64 4, .int .i64 (sm : Int)] w1 (SuUnder lo g0 w1 M)) := fun w1 h k => CU0.out w1 h k
  have hsm : IntKind.i64.wrap (sm : Int) = (sm : Int) := IntWalk.i64_in _ (by have := HO.out; omega)
  have B0 : Hid (Below w.heap.size w w) := Below.refl _ _
  have BX := Lib.hid hx
  have RB := Lib.hid hr
  have lx := BX.out.lt
  have hlo : Hid (lo ≤ w.heap.size) := by show _ ≤ _; omega
  clear hx hr hg hM CU0 HO
  obtain ⟨c0, c1⟩ := BX.out.two
  have RT := Lib.hid (RB.out.take 124 (by omega))
  go_enter Try.func20, Try.ntmps20
  go_wp2_with fail
  (with_reducible refine (CS.out _ RT.out).mono ?_)
  rintro e w1 ⟨rfl, b1⟩
  clear c0 c1 lx RT
  replace BX := Lib.hid (BX.out.here b1)
  replace RB := Lib.hid (RB.out.here b1)
  have B1 := Lib.hid (thence B0.out b1 (Nat.le_refl _))
  clear b1 B0
  go_wp2_with fail
  (with_reducible refine (CU.out _ BX.out RB.out).mono ?_)
  rintro e w2 ⟨g2, rfl, hge, hbx, hbk, b2⟩
  have HF := Lib.hid ((B1.out.mono hlo.out).trans b2)
  have hge2 : Hid (w.heap.size ≤ g2) := Nat.le_trans B1.out.size hge
  have K2 := Lib.hid hbk
  have X2 := Lib.hid hbx
  clear b2 hge hbk hbx
  go_wp2_with fail
  go_ret
  exact ⟨g2, rfl, hge2.out, X2.out, K2.out, HF.out⟩

/-- A number more, in a block that is laid so far. -/
theorem su_step {l H K : List Nat} {p x s : Nat} (hl : PK.wh l = PK.wh H) (hp : H.length = p) (hk : LB.lows x s = K) (h : p + s ≤ 128) : PK.pk (PK.wh l) p x s = PK.wh (H ++ K) := by
  subst hp hk
  rw [hl]; exact LB.pk_snoc H x s h
set_option maxHeartbeats 4000000 in
theorem suWrite_yes (id age seq : Nat) (tail : Int) (w : World) (hi : id < 4294967296) (h : Sup.mayP ⟨id, age, seq, tail⟩) :
    Calls Try.prog 9 #[.agg #[.int .u32 (id : Int), .int .u32 (age : Int), .int .u32 (seq : Int), .int .i64 tail]] w fun e w' => ∃ a c, e = .returned (.tuple #[.slice a 128 c, .int .i64 0]) ∧ Rd w'.heap.size w' a 128 c (Sup.block ⟨id, age, seq, tail⟩) ∧ Mine w.heap.size w' a ∧ Below w.heap.size w w' := by
  have CK := Lib.hid (fun w1 => suCheck_any id age seq tail w1)
  rw [SB.code_yes (SB.may_iff.2 h)] at CK
  have HY := Lib.hid (SB.block_bytes h hi)
  have HHB := Lib.hid (SB.head_bytes h hi)
  have HML := Lib.hid (SB.block_length ⟨id, age, seq, tail⟩)
  have hq := h
  obtain ⟨q0, q1, q2, q3, q4, q5⟩ := hq
  dsimp only at q0 q1 q2 q3 q4 q5
  obtain ⟨tl, rfl⟩ := Int.eq_ofNat_of_zero_le q4
  have htl : ((tl : Int)).toNat = tl := Int.toNat_natCast tl
  have HBL : Hid (PK.pk (PK.wh (PK.wh ([83] ++ PM.own4 id ++ PM.own4 age ++ PM.own4 seq ++ [tl]))) 124 (PM.over 0 ((PK.wh ([83] ++ PM.own4 id ++ PM.own4 age ++ PM.own4 seq ++ [tl])).take 124)) 4 = Sup.block ⟨id, age, seq, (tl : Int)⟩) := by
    show _ = SL.sld _
    unfold SL.sld
    rw [LB.wh_wh (by simp [PM.own4])]
    rfl
  have CP0 : Hid (∀ gb a n c w1, Bx w1 gb [.slice a n c, .int .i64 0] → Rd w1.heap.size w1 a n c (([] : List Nat)) → Calls Try.prog 19 #[.pointer (some ⟨gb, 0, none⟩), .int .i64 0, .int .i64 1, .int .i64 83] w1 (SuUnder gb gb w1 (PK.wh ([83])))) := fun gb a n c w1 hx hr => by
    have h := suPut_yes gb gb a n c (([] : List Nat)) 0 1 83 w1 (Nat.le_refl _) hx hr ⟨.inl rfl, by decide, by decide, by decide, by decide⟩ (by omega)
    have e := su_step (l := ([] : List Nat)) (H := ([] : List Nat)) (K := [83]) (p := 0) (x := 83) (s := 1) rfl rfl (by first | exact LB.lows_one (by omega) | exact LB.lows_four (by omega)) (by decide)
    rw [e] at h
    exact h
  have HL1 : Hid ((PK.wh ([83])).length = 128) := PK.wh_length (by simp [PM.own4])
  have HB1 : Hid (Bytes (PK.wh ([83]))) := PK.wh_bytes (fun x hx => HHB.out x (List.mem_append_left _ (List.mem_append_left _ (List.mem_append_left _ (List.mem_append_left _ hx)))))
  have CP1 : Hid (∀ gb a n c w1, Bx w1 gb [.slice a n c, .int .i64 0] → Rd w1.heap.size w1 a n c (PK.wh ([83])) → Calls Try.prog 19 #[.pointer (some ⟨gb, 0, none⟩), .int .i64 1, .int .i64 4, .int .i64 (id : Int)] w1 (SuUnder gb gb w1 (PK.wh ([83] ++ PM.own4 id)))) := fun gb a n c w1 hx hr => by
    have h := suPut_yes gb gb a n c (PK.wh ([83])) 1 4 id w1 (Nat.le_refl _) hx hr ⟨.inr (PK.wh_length (by simp [PM.own4])), by decide, by decide, by decide, by decide⟩ (by omega)
    have e := su_step (l := PK.wh ([83])) (H := ([83])) (K := PM.own4 id) (p := 1) (x := id) (s := 4) (LB.wh_wh (by simp [PM.own4])) rfl (by first | exact LB.lows_one (by omega) | exact LB.lows_four (by omega)) (by decide)
    rw [e] at h
    exact h
  have HL2 : Hid ((PK.wh ([83] ++ PM.own4 id)).length = 128) := PK.wh_length (by simp [PM.own4])
  have HB2 : Hid (Bytes (PK.wh ([83] ++ PM.own4 id))) := PK.wh_bytes (fun x hx => HHB.out x (List.mem_append_left _ (List.mem_append_left _ (List.mem_append_left _ hx))))
  have CP2 : Hid (∀ gb a n c w1, Bx w1 gb [.slice a n c, .int .i64 0] → Rd w1.heap.size w1 a n c (PK.wh ([83] ++ PM.own4 id)) → Calls Try.prog 19 #[.pointer (some ⟨gb, 0, none⟩), .int .i64 5, .int .i64 4, .int .i64 (age : Int)] w1 (SuUnder gb gb w1 (PK.wh ([83] ++ PM.own4 id ++ PM.own4 age)))) := fun gb a n c w1 hx hr => by
    have h := suPut_yes gb gb a n c (PK.wh ([83] ++ PM.own4 id)) 5 4 age w1 (Nat.le_refl _) hx hr ⟨.inr (PK.wh_length (by simp [PM.own4])), by decide, by decide, by decide, by decide⟩ (by omega)
    have e := su_step (l := PK.wh ([83] ++ PM.own4 id)) (H := ([83] ++ PM.own4 id)) (K := PM.own4 age) (p := 5) (x := age) (s := 4) (LB.wh_wh (by simp [PM.own4])) rfl (by first | exact LB.lows_one (by omega) | exact LB.lows_four (by omega)) (by decide)
    rw [e] at h
    exact h
  have HL3 : Hid ((PK.wh ([83] ++ PM.own4 id ++ PM.own4 age)).length = 128) := PK.wh_length (by simp [PM.own4])
  have HB3 : Hid (Bytes (PK.wh ([83] ++ PM.own4 id ++ PM.own4 age))) := PK.wh_bytes (fun x hx => HHB.out x (List.mem_append_left _ (List.mem_append_left _ hx)))
  have CP3 : Hid (∀ gb a n c w1, Bx w1 gb [.slice a n c, .int .i64 0] → Rd w1.heap.size w1 a n c (PK.wh ([83] ++ PM.own4 id ++ PM.own4 age)) → Calls Try.prog 19 #[.pointer (some ⟨gb, 0, none⟩), .int .i64 9, .int .i64 4, .int .i64 (seq : Int)] w1 (SuUnder gb gb w1 (PK.wh ([83] ++ PM.own4 id ++ PM.own4 age ++ PM.own4 seq)))) := fun gb a n c w1 hx hr => by
    have h := suPut_yes gb gb a n c (PK.wh ([83] ++ PM.own4 id ++ PM.own4 age)) 9 4 seq w1 (Nat.le_refl _) hx hr ⟨.inr (PK.wh_length (by simp [PM.own4])), by decide, by decide, by decide, by decide⟩ (by omega)
    have e := su_step (l := PK.wh ([83] ++ PM.own4 id ++ PM.own4 age)) (H := ([83] ++ PM.own4 id ++ PM.own4 age)) (K := PM.own4 seq) (p := 9) (x := seq) (s := 4) (LB.wh_wh (by simp [PM.own4])) rfl (by first | exact LB.lows_one (by omega) | exact LB.lows_four (by omega)) (by decide)
    rw [e] at h
    exact h
  have HL4 : Hid ((PK.wh ([83] ++ PM.own4 id ++ PM.own4 age ++ PM.own4 seq)).length = 128) := PK.wh_length (by simp [PM.own4])
  have HB4 : Hid (Bytes (PK.wh ([83] ++ PM.own4 id ++ PM.own4 age ++ PM.own4 seq))) := PK.wh_bytes (fun x hx => HHB.out x (List.mem_append_left _ hx))
  have CP4 : Hid (∀ gb a n c w1, Bx w1 gb [.slice a n c, .int .i64 0] → Rd w1.heap.size w1 a n c (PK.wh ([83] ++ PM.own4 id ++ PM.own4 age ++ PM.own4 seq)) → Calls Try.prog 19 #[.pointer (some ⟨gb, 0, none⟩), .int .i64 13, .int .i64 1, .int .i64 (tl : Int)] w1 (SuUnder gb gb w1 (PK.wh ([83] ++ PM.own4 id ++ PM.own4 age ++ PM.own4 seq ++ [tl])))) := fun gb a n c w1 hx hr => by
    have h := suPut_yes gb gb a n c (PK.wh ([83] ++ PM.own4 id ++ PM.own4 age ++ PM.own4 seq)) 13 1 tl w1 (Nat.le_refl _) hx hr ⟨.inr (PK.wh_length (by simp [PM.own4])), by decide, by decide, by decide, by decide⟩ (by omega)
    have e := su_step (l := PK.wh ([83] ++ PM.own4 id ++ PM.own4 age ++ PM.own4 seq)) (H := ([83] ++ PM.own4 id ++ PM.own4 age ++ PM.own4 seq)) (K := [tl]) (p := 13) (x := tl) (s := 1) (LB.wh_wh (by simp [PM.own4])) rfl (by first | exact LB.lows_one (by omega) | exact LB.lows_four (by omega)) (by decide)
    rw [e] at h
    exact h
  have HL5 : Hid ((PK.wh ([83] ++ PM.own4 id ++ PM.own4 age ++ PM.own4 seq ++ [tl])).length = 128) := PK.wh_length (by simp [PM.own4])
  have HB5 : Hid (Bytes (PK.wh ([83] ++ PM.own4 id ++ PM.own4 age ++ PM.own4 seq ++ [tl]))) := PK.wh_bytes (fun x hx => HHB.out x hx)
  generalize PK.wh ([83] ++ PM.own4 id ++ PM.own4 age ++ PM.own4 seq ++ [tl]) = l5 at *
  generalize PK.wh ([83] ++ PM.own4 id ++ PM.own4 age ++ PM.own4 seq) = l4 at *
  generalize PK.wh ([83] ++ PM.own4 id ++ PM.own4 age) = l3 at *
  generalize PK.wh ([83] ++ PM.own4 id) = l2 at *
  generalize PK.wh ([83]) = l1 at *
  have CS := Lib.hid (fun gb g w1 hx hg => suSum_yes gb gb g l5 w1 (Nat.le_refl _) hx hg HL5.out HB5.out _ HBL.out)
  generalize Sup.block ⟨id, age, seq, (tl : Int)⟩ = M at *
  clear h HHB HBL htl
  have p1 : IntKind.i64.wrap (id : Int) = (id : Int) := IntWalk.i64_in _ (by omega)
  have p2 : IntKind.i64.wrap (age : Int) = (age : Int) := IntWalk.i64_in _ (by omega)
  have p3 : IntKind.i64.wrap (seq : Int) = (seq : Int) := IntWalk.i64_in _ (by omega)
  clear q0 q1 q2 q3 q4 q5
  have B0 : Hid (Below w.heap.size w (w.alloc (.cells #[.int .u32 (id : Int), .int .u32 (age : Int), .int .u32 (seq : Int), .int .i64 (tl : Int)] 28))) := (Below.refl _ _).alloc (Nat.le_refl _) _
  have BX : Hid (Bx (w.alloc (.cells #[.int .u32 (id : Int), .int .u32 (age : Int), .int .u32 (seq : Int), .int .i64 (tl : Int)] 28)) w.heap.size [.int .u32 (id : Int), .int .u32 (age : Int), .int .u32 (seq : Int), .int .i64 (tl : Int)]) := Bx.new w [.int .u32 (id : Int), .int .u32 (age : Int), .int .u32 (seq : Int), .int .i64 (tl : Int)] 28
  obtain ⟨c0, c1, c2, c3⟩ := BX.out.four'
  have ltBX := BX.out.lt
  go_enter Try.func9, Try.ntmps9
  go_wp2_with fail
  (with_reducible refine (CK.out _).mono ?_)
  rintro e w1 ⟨rfl, b1⟩
  clear c0 c1 c2 c3 ltBX
  replace BX := Lib.hid (BX.out.here b1)
  have B1 := Lib.hid (thence B0.out b1 (Nat.le_refl _))
  clear b1 B0
  obtain ⟨c0, c1, c2, c3⟩ := BX.out.four'
  have ltBX := BX.out.lt
  go_wp2_with fail
  clear c0 c1 c2 c3 ltBX
  have hz : Below w1.heap.size w1 (w1.alloc (.cells #[.slice none 0 0, .int .i64 0] 51)) := (Below.refl _ _).alloc (Nat.le_refl _) _
  have BB : Hid (Bx (w1.alloc (.cells #[.slice none 0 0, .int .i64 0] 51)) w1.heap.size [.slice none 0 0, .int .i64 0]) := Bx.new w1 [.slice none 0 0, .int .i64 0] 51
  have lx := BX.out.lt
  replace BX := Lib.hid (BX.out.here hz)
  replace B1 := Lib.hid (thence B1.out hz (Nat.le_refl _))
  clear hz
  generalize w1.alloc (.cells #[.slice none 0 0, .int .i64 0] 51) = W0 at *
  obtain ⟨gb, hgb⟩ : ∃ g, w1.heap.size = g := ⟨_, rfl⟩
  rw [hgb] at BB lx ⊢
  clear hgb
  obtain ⟨c0, c1, c2, c3⟩ := BX.out.four'
  have ltx := BX.out.lt
  have ltb := BB.out.lt
  have HBB : Hid (Bx W0.drew gb [.slice none 0 0, .int .i64 0]) := BB.out.drew
  refine wp_region_noPanic ?_
  refine PX.wp_region_y (fun w' => Below gb W0 w') [] (by kernel_rfl) (Below.refl _ _).drew (fun hHeld => ?_)
  refine PX.wpAnyY_take (i := 0) (oi := ?_) (v := ?_) ?_ (by kernel_rfl) (by kernel_rfl) (by kernel_rfl) (by kernel_rfl) (by kernel_rfl) (fun _ _ _ h => h) (Or.inl ⟨?_, ?_⟩) (by assumption) ?_
  rotate_left 2
  · simp only [List.getElem?_toArray, List.getElem?_cons_succ, List.getElem?_cons_zero]; rfl
  · rfl
  · intro w hSw; (try dsimp only at hSw); go_simp <;> with_reducible rfl
  (try simp only [Act.put, List.setIfInBounds_toArray, List.set_cons_zero, List.set_cons_succ])
  refine PX.wpAnyY_take (i := 2) (oi := ?_) (v := ?_) ?_ (by kernel_rfl) (by kernel_rfl) (by kernel_rfl) (by kernel_rfl) (by kernel_rfl) (fun _ _ _ h => h) (Or.inl ⟨?_, ?_⟩) (by assumption) ?_
  rotate_left 2
  · simp only [List.getElem?_toArray, List.getElem?_cons_succ, List.getElem?_cons_zero]; rfl
  · rfl
  · intro w hSw; (try dsimp only at hSw); go_simp <;> with_reducible rfl
  (try simp only [Act.put, List.setIfInBounds_toArray, List.set_cons_zero, List.set_cons_succ])
  refine PX.wpAnyY_take (i := 3) (oi := ?_) (v := ?_) ?_ (by kernel_rfl) (by kernel_rfl) (by kernel_rfl) (by kernel_rfl) (by kernel_rfl) (fun _ _ _ h => h) (Or.inl ⟨?_, ?_⟩) (by assumption) ?_
  rotate_left 2
  · simp only [List.getElem?_toArray, List.getElem?_cons_succ, List.getElem?_cons_zero]; rfl
  · rfl
  · intro w hSw; (try dsimp only at hSw); have hC := fun (b o : Nat) (h : b < gb) => Below.cell hSw (p := ⟨b, o, none⟩) h; go_simp <;> with_reducible rfl
  (try simp only [Act.put, List.setIfInBounds_toArray, List.set_cons_zero, List.set_cons_succ])
  refine PX.wpAnyY_take (i := 4) (oi := ?_) (v := ?_) ?_ (by kernel_rfl) (by kernel_rfl) (by kernel_rfl) (by kernel_rfl) (by kernel_rfl) (fun _ _ _ h => h) (Or.inl ⟨?_, ?_⟩) (by assumption) ?_
  rotate_left 2
  · simp only [List.getElem?_toArray, List.getElem?_cons_succ, List.getElem?_cons_zero]; rfl
  · rfl
  · intro w hSw; (try dsimp only at hSw); go_simp <;> with_reducible rfl
  (try simp only [Act.put, List.setIfInBounds_toArray, List.set_cons_zero, List.set_cons_succ])
  refine PX.wpAnyY_take (i := 6) (oi := ?_) (v := ?_) ?_ (by kernel_rfl) (by kernel_rfl) (by kernel_rfl) (by kernel_rfl) (by kernel_rfl) (fun _ _ _ h => h) (Or.inl ⟨?_, ?_⟩) (by assumption) ?_
  rotate_left 2
  · simp only [List.getElem?_toArray, List.getElem?_cons_succ, List.getElem?_cons_zero]; rfl
  · rfl
  · intro w hSw; (try dsimp only at hSw); go_simp <;> with_reducible rfl
  (try simp only [Act.put, List.setIfInBounds_toArray, List.set_cons_zero, List.set_cons_succ])
  refine PX.wpAnyY_take (i := 7) (oi := ?_) (v := ?_) ?_ (by kernel_rfl) (by kernel_rfl) (by kernel_rfl) (by kernel_rfl) (by kernel_rfl) (fun _ _ _ h => h) (Or.inl ⟨?_, ?_⟩) (by assumption) ?_
  rotate_left 2
  · simp only [List.getElem?_toArray, List.getElem?_cons_succ, List.getElem?_cons_zero]; rfl
  · rfl
  · intro w hSw; (try dsimp only at hSw); have hC := fun (b o : Nat) (h : b < gb) => Below.cell hSw (p := ⟨b, o, none⟩) h; go_simp <;> with_reducible rfl
  (try simp only [Act.put, List.setIfInBounds_toArray, List.set_cons_zero, List.set_cons_succ])
  refine PX.wpAnyY_take (i := 8) (oi := ?_) (v := ?_) ?_ (by kernel_rfl) (by kernel_rfl) (by kernel_rfl) (by kernel_rfl) (by kernel_rfl) (fun _ _ _ h => h) (Or.inl ⟨?_, ?_⟩) (by assumption) ?_
  rotate_left 2
  · simp only [List.getElem?_toArray, List.getElem?_cons_succ, List.getElem?_cons_zero]; rfl
  · rfl
  · intro w hSw; (try dsimp only at hSw); go_simp <;> with_reducible rfl
  (try simp only [Act.put, List.setIfInBounds_toArray, List.set_cons_zero, List.set_cons_succ])
  refine PX.wpAnyY_take (i := 10) (oi := ?_) (v := ?_) ?_ (by kernel_rfl) (by kernel_rfl) (by kernel_rfl) (by kernel_rfl) (by kernel_rfl) (fun _ _ _ h => h) (Or.inl ⟨?_, ?_⟩) (by assumption) ?_
  rotate_left 2
  · simp only [List.getElem?_toArray, List.getElem?_cons_succ, List.getElem?_cons_zero]; rfl
  · rfl
  · intro w hSw; (try dsimp only at hSw); go_simp <;> with_reducible rfl
  (try simp only [Act.put, List.setIfInBounds_toArray, List.set_cons_zero, List.set_cons_succ])
  refine PX.wpAnyY_take (i := 11) (oi := ?_) (v := ?_) ?_ (by kernel_rfl) (by kernel_rfl) (by kernel_rfl) (by kernel_rfl) (by kernel_rfl) (fun _ _ _ h => h) (Or.inl ⟨?_, ?_⟩) (by assumption) ?_
  rotate_left 2
  · simp only [List.getElem?_toArray, List.getElem?_cons_succ, List.getElem?_cons_zero]; rfl
  · rfl
  · intro w hSw; (try dsimp only at hSw); have hC := fun (b o : Nat) (h : b < gb) => Below.cell hSw (p := ⟨b, o, none⟩) h; go_simp <;> with_reducible rfl
  (try simp only [Act.put, List.setIfInBounds_toArray, List.set_cons_zero, List.set_cons_succ])
  refine PX.wpAnyY_take (i := 12) (oi := ?_) (v := ?_) ?_ (by kernel_rfl) (by kernel_rfl) (by kernel_rfl) (by kernel_rfl) (by kernel_rfl) (fun _ _ _ h => h) (Or.inl ⟨?_, ?_⟩) (by assumption) ?_
  rotate_left 2
  · simp only [List.getElem?_toArray, List.getElem?_cons_succ, List.getElem?_cons_zero]; rfl
  · rfl
  · intro w hSw; (try dsimp only at hSw); go_simp <;> with_reducible rfl
  (try simp only [Act.put, List.setIfInBounds_toArray, List.set_cons_zero, List.set_cons_succ])
  refine PX.wpAnyY_take (i := 14) (oi := ?_) (v := ?_) ?_ (by kernel_rfl) (by kernel_rfl) (by kernel_rfl) (by kernel_rfl) (by kernel_rfl) (fun _ _ _ h => h) (Or.inl ⟨?_, ?_⟩) (by assumption) ?_
  rotate_left 2
  · simp only [List.getElem?_toArray, List.getElem?_cons_succ, List.getElem?_cons_zero]; rfl
  · rfl
  · intro w hSw; (try dsimp only at hSw); go_simp <;> with_reducible rfl
  (try simp only [Act.put, List.setIfInBounds_toArray, List.set_cons_zero, List.set_cons_succ])
  refine PX.wpAnyY_take (i := 15) (oi := ?_) (v := ?_) ?_ (by kernel_rfl) (by kernel_rfl) (by kernel_rfl) (by kernel_rfl) (by kernel_rfl) (fun _ _ _ h => h) (Or.inl ⟨?_, ?_⟩) (by assumption) ?_
  rotate_left 2
  · simp only [List.getElem?_toArray, List.getElem?_cons_succ, List.getElem?_cons_zero]; rfl
  · rfl
  · intro w hSw; (try dsimp only at hSw); have hC := fun (b o : Nat) (h : b < gb) => Below.cell hSw (p := ⟨b, o, none⟩) h; go_simp <;> with_reducible rfl
  (try simp only [Act.put, List.setIfInBounds_toArray, List.set_cons_zero, List.set_cons_succ])
  refine PX.wpAnyY_one (i := 1) (o := ?_) (by kernel_rfl) ?_ (fun Kq hKq => ?_)
  rotate_left
  · simp only [List.getElem?_toArray, List.getElem?_cons_succ, List.getElem?_cons_zero]; rfl
  go_simp
  (with_reducible refine (CP0.out gb none 0 0 _ HBB.out (rd_nil _ _)).mono ?_)
  rintro e y1 ⟨g1, rfl, hge1, hbx1, hbk1, bq⟩
  have Hy1 := Lib.hid (hHeld.trans bq)
  have L1 : Hid (W0.heap.size ≤ g1) := Nat.le_trans hHeld.size hge1
  have X1 := Lib.hid hbx1
  have R1 := Lib.hid (hbk1.rd HL1.out HB1.out)
  have K1 := Lib.hid hbk1
  clear bq hge1 hbx1 hbk1
  go_wp2_with fail
  refine hKq.out _ _ (Hy1.out) (fun hHeld => ?_)
  clear hKq Kq
  (try simp only [Act.put, List.setIfInBounds_toArray, List.set_cons_zero, List.set_cons_succ])
  refine PX.wpAnyY_one (i := 5) (o := ?_) (by kernel_rfl) ?_ (fun Kq hKq => ?_)
  rotate_left
  · simp only [List.getElem?_toArray, List.getElem?_cons_succ, List.getElem?_cons_zero]; rfl
  go_simp
  (with_reducible refine (CP1.out _ _ _ _ _ X1.out R1.out).mono ?_)
  rintro e y2 ⟨g2, rfl, hge2, hbx2, hbk2, bq⟩
  have Hy2 := Lib.hid (hHeld.trans bq)
  have L2 : Hid (W0.heap.size ≤ g2) := Nat.le_trans hHeld.size hge2
  have X2 := Lib.hid hbx2
  have R2 := Lib.hid (hbk2.rd HL2.out HB2.out)
  have K2 := Lib.hid hbk2
  clear bq hge2 hbx2 hbk2
  go_wp2_with fail
  refine hKq.out _ _ (Hy2.out) (fun hHeld => ?_)
  clear hKq Kq
  (try simp only [Act.put, List.setIfInBounds_toArray, List.set_cons_zero, List.set_cons_succ])
  refine PX.wpAnyY_one (i := 9) (o := ?_) (by kernel_rfl) ?_ (fun Kq hKq => ?_)
  rotate_left
  · simp only [List.getElem?_toArray, List.getElem?_cons_succ, List.getElem?_cons_zero]; rfl
  go_simp
  (with_reducible refine (CP2.out _ _ _ _ _ X2.out R2.out).mono ?_)
  rintro e y3 ⟨g3, rfl, hge3, hbx3, hbk3, bq⟩
  have Hy3 := Lib.hid (hHeld.trans bq)
  have L3 : Hid (W0.heap.size ≤ g3) := Nat.le_trans hHeld.size hge3
  have X3 := Lib.hid hbx3
  have R3 := Lib.hid (hbk3.rd HL3.out HB3.out)
  have K3 := Lib.hid hbk3
  clear bq hge3 hbx3 hbk3
  go_wp2_with fail
  refine hKq.out _ _ (Hy3.out) (fun hHeld => ?_)
  clear hKq Kq
  (try simp only [Act.put, List.setIfInBounds_toArray, List.set_cons_zero, List.set_cons_succ])
  refine PX.wpAnyY_one (i := 13) (o := ?_) (by kernel_rfl) ?_ (fun Kq hKq => ?_)
  rotate_left
  · simp only [List.getElem?_toArray, List.getElem?_cons_succ, List.getElem?_cons_zero]; rfl
  go_simp
  (with_reducible refine (CP3.out _ _ _ _ _ X3.out R3.out).mono ?_)
  rintro e y4 ⟨g4, rfl, hge4, hbx4, hbk4, bq⟩
  have Hy4 := Lib.hid (hHeld.trans bq)
  have L4 : Hid (W0.heap.size ≤ g4) := Nat.le_trans hHeld.size hge4
  have X4 := Lib.hid hbx4
  have R4 := Lib.hid (hbk4.rd HL4.out HB4.out)
  have K4 := Lib.hid hbk4
  clear bq hge4 hbx4 hbk4
  go_wp2_with fail
  refine hKq.out _ _ (Hy4.out) (fun hHeld => ?_)
  clear hKq Kq
  (try simp only [Act.put, List.setIfInBounds_toArray, List.set_cons_zero, List.set_cons_succ])
  refine PX.wpAnyY_one (i := 16) (o := ?_) (by kernel_rfl) ?_ (fun Kq hKq => ?_)
  rotate_left
  · simp only [List.getElem?_toArray, List.getElem?_cons_succ, List.getElem?_cons_zero]; rfl
  go_simp
  (with_reducible refine (CP4.out _ _ _ _ _ X4.out R4.out).mono ?_)
  rintro e y5 ⟨g5, rfl, hge5, hbx5, hbk5, bq⟩
  have Hy5 := Lib.hid (hHeld.trans bq)
  have L5 : Hid (W0.heap.size ≤ g5) := Nat.le_trans hHeld.size hge5
  have X5 := Lib.hid hbx5
  have R5 := Lib.hid (hbk5.rd HL5.out HB5.out)
  have K5 := Lib.hid hbk5
  clear bq hge5 hbx5 hbk5
  go_wp2_with fail
  refine hKq.out _ _ (Hy5.out) (fun hHeld => ?_)
  clear hKq Kq
  (try simp only [Act.put, List.setIfInBounds_toArray, List.set_cons_zero, List.set_cons_succ])
  refine PX.wpAnyY_one (i := 17) (o := ?_) (by kernel_rfl) ?_ (fun Kq hKq => ?_)
  rotate_left
  · simp only [List.getElem?_toArray, List.getElem?_cons_succ, List.getElem?_cons_zero]; rfl
  go_simp
  (with_reducible refine (CS.out _ _ _ X5.out K5.out).mono ?_)
  rintro e y6 ⟨g6, rfl, hge6, hbx6, hbk6, bq⟩
  have Hy6 := Lib.hid (hHeld.trans bq)
  have L6 : Hid (W0.heap.size ≤ g6) := Nat.le_trans hHeld.size hge6
  have X6 := Lib.hid hbx6
  have K6 := Lib.hid hbk6
  clear bq hge6 hbx6 hbk6
  go_wp2_with fail
  refine hKq.out _ _ (Hy6.out) (fun hHeld => ?_)
  clear hKq Kq
  (try simp only [Act.put, List.setIfInBounds_toArray, List.set_cons_zero, List.set_cons_succ])
  refine PX.wpAnyY_done (by kernel_rfl) ?_ _
  refine NoPanic.normal ?_
  have hgw : Hid (w.heap.size ≤ gb) := Nat.le_of_lt lx
  have HF := Lib.hid (B1.out.trans (Hy6.out.mono hgw.out))
  have hlow : w.heap.size ≤ g6 := by have := B1.out.size; have := L6.out; omega
  have R6 := Lib.hid (K6.out.rd HML.out HY.out)
  clear hHeld c0 c1 c2 c3
  obtain ⟨d0, d1⟩ := X6.out.two
  have ld := X6.out.lt
  go_wp2_with fail
  go_quiet (fail)
  rename_i nq
  go_wp2_with fail
  go_ret2
  exact ⟨some ⟨g6, 0, none⟩, 128, rfl, R6.out.drewN nq, ⟨g6, rfl, hlow, fun i => (K6.out.drewN nq).frozen i⟩, below_drewN HF.out nq⟩

set_option maxHeartbeats 1000000 in
theorem suWrite_no (id age seq : Nat) (tail : Int) (w : World) (hi : id < 4294967296) (h : Sup.may ⟨id, age, seq, tail⟩ = false) :
    Calls Try.prog 9 #[.agg #[.int .u32 (id : Int), .int .u32 (age : Int), .int .u32 (seq : Int), .int .i64 tail]] w fun e w' => ∃ a c, e = .returned (.tuple #[.slice a 0 c, .int .i64 8]) ∧ Rd w'.heap.size w' a 0 c [] ∧ Below w.heap.size w w' := by
  have CK := Lib.hid (fun w1 => suCheck_any id age seq tail w1)
  rw [SB.code_no h] at CK
  clear h
  have B0 : Hid (Below w.heap.size w (w.alloc (.cells #[.int .u32 (id : Int), .int .u32 (age : Int), .int .u32 (seq : Int), .int .i64 tail] 28))) := (Below.refl _ _).alloc (Nat.le_refl _) _
  have BX : Hid (Bx (w.alloc (.cells #[.int .u32 (id : Int), .int .u32 (age : Int), .int .u32 (seq : Int), .int .i64 tail] 28)) w.heap.size [.int .u32 (id : Int), .int .u32 (age : Int), .int .u32 (seq : Int), .int .i64 tail]) := Bx.new w [.int .u32 (id : Int), .int .u32 (age : Int), .int .u32 (seq : Int), .int .i64 tail] 28
  obtain ⟨c0, c1, c2, c3⟩ := BX.out.four'
  have ltBX := BX.out.lt
  go_enter Try.func9, Try.ntmps9
  go_wp2_with fail
  (with_reducible refine (CK.out _).mono ?_)
  rintro e w1 ⟨rfl, b1⟩
  clear c0 c1 c2 c3 ltBX
  replace BX := Lib.hid (BX.out.here b1)
  have B1 := Lib.hid (thence B0.out b1 (Nat.le_refl _))
  clear b1 B0
  obtain ⟨c0, c1, c2, c3⟩ := BX.out.four'
  have ltBX := BX.out.lt
  go_wp2_with fail
  clear c0 c1 c2 c3 ltBX
  have hz : Below w1.heap.size w1 (w1.alloc (.cells #[.slice none 0 0, .int .i64 8] 51)) := (Below.refl _ _).alloc (Nat.le_refl _) _
  have BB : Hid (Bx (w1.alloc (.cells #[.slice none 0 0, .int .i64 8] 51)) w1.heap.size [.slice none 0 0, .int .i64 8]) := Bx.new w1 [.slice none 0 0, .int .i64 8] 51
  have lx := BX.out.lt
  replace BX := Lib.hid (BX.out.here hz)
  replace B1 := Lib.hid (thence B1.out hz (Nat.le_refl _))
  clear hz
  generalize w1.alloc (.cells #[.slice none 0 0, .int .i64 8] 51) = W0 at *
  obtain ⟨gb, hgb⟩ : ∃ g, w1.heap.size = g := ⟨_, rfl⟩
  rw [hgb] at BB lx ⊢
  clear hgb
  obtain ⟨c0, c1, c2, c3⟩ := BX.out.four'
  have ltx := BX.out.lt
  have ltb := BB.out.lt
  have CN := Lib.hid (fun p s x w1 hx => suPut_no gb p s x w1 hx)
  have CS := Lib.hid (fun w1 hx => suSum_no gb w1 hx)
  refine wp_region_noPanic ?_
  refine PX.wp_region_y (fun w' => Below W0.heap.size W0 w') [] (by kernel_rfl) (Below.refl _ _).drew (fun hHeld => ?_)
  refine PX.wpAnyY_take (i := 0) (oi := ?_) (v := ?_) ?_ (by kernel_rfl) (by kernel_rfl) (by kernel_rfl) (by kernel_rfl) (by kernel_rfl) (fun _ _ _ h => h) (Or.inl ⟨?_, ?_⟩) (by assumption) ?_
  rotate_left 2
  · simp only [List.getElem?_toArray, List.getElem?_cons_succ, List.getElem?_cons_zero]; rfl
  · rfl
  · intro w hSw; (try dsimp only at hSw); go_simp <;> with_reducible rfl
  (try simp only [Act.put, List.setIfInBounds_toArray, List.set_cons_zero, List.set_cons_succ])
  refine PX.wpAnyY_take (i := 2) (oi := ?_) (v := ?_) ?_ (by kernel_rfl) (by kernel_rfl) (by kernel_rfl) (by kernel_rfl) (by kernel_rfl) (fun _ _ _ h => h) (Or.inl ⟨?_, ?_⟩) (by assumption) ?_
  rotate_left 2
  · simp only [List.getElem?_toArray, List.getElem?_cons_succ, List.getElem?_cons_zero]; rfl
  · rfl
  · intro w hSw; (try dsimp only at hSw); go_simp <;> with_reducible rfl
  (try simp only [Act.put, List.setIfInBounds_toArray, List.set_cons_zero, List.set_cons_succ])
  refine PX.wpAnyY_take (i := 3) (oi := ?_) (v := ?_) ?_ (by kernel_rfl) (by kernel_rfl) (by kernel_rfl) (by kernel_rfl) (by kernel_rfl) (fun _ _ _ h => h) (Or.inl ⟨?_, ?_⟩) (by assumption) ?_
  rotate_left 2
  · simp only [List.getElem?_toArray, List.getElem?_cons_succ, List.getElem?_cons_zero]; rfl
  · rfl
  · intro w hSw; (try dsimp only at hSw); have hC := fun (b o : Nat) (h : b < W0.heap.size) => Below.cell hSw (p := ⟨b, o, none⟩) h; go_simp <;> with_reducible rfl
  (try simp only [Act.put, List.setIfInBounds_toArray, List.set_cons_zero, List.set_cons_succ])
  refine PX.wpAnyY_take (i := 4) (oi := ?_) (v := ?_) ?_ (by kernel_rfl) (by kernel_rfl) (by kernel_rfl) (by kernel_rfl) (by kernel_rfl) (fun _ _ _ h => h) (Or.inl ⟨?_, ?_⟩) (by assumption) ?_
  rotate_left 2
  · simp only [List.getElem?_toArray, List.getElem?_cons_succ, List.getElem?_cons_zero]; rfl
  · rfl
  · intro w hSw; (try dsimp only at hSw); go_simp <;> with_reducible rfl
  (try simp only [Act.put, List.setIfInBounds_toArray, List.set_cons_zero, List.set_cons_succ])
  refine PX.wpAnyY_take (i := 6) (oi := ?_) (v := ?_) ?_ (by kernel_rfl) (by kernel_rfl) (by kernel_rfl) (by kernel_rfl) (by kernel_rfl) (fun _ _ _ h => h) (Or.inl ⟨?_, ?_⟩) (by assumption) ?_
  rotate_left 2
  · simp only [List.getElem?_toArray, List.getElem?_cons_succ, List.getElem?_cons_zero]; rfl
  · rfl
  · intro w hSw; (try dsimp only at hSw); go_simp <;> with_reducible rfl
  (try simp only [Act.put, List.setIfInBounds_toArray, List.set_cons_zero, List.set_cons_succ])
  refine PX.wpAnyY_take (i := 7) (oi := ?_) (v := ?_) ?_ (by kernel_rfl) (by kernel_rfl) (by kernel_rfl) (by kernel_rfl) (by kernel_rfl) (fun _ _ _ h => h) (Or.inl ⟨?_, ?_⟩) (by assumption) ?_
  rotate_left 2
  · simp only [List.getElem?_toArray, List.getElem?_cons_succ, List.getElem?_cons_zero]; rfl
  · rfl
  · intro w hSw; (try dsimp only at hSw); have hC := fun (b o : Nat) (h : b < W0.heap.size) => Below.cell hSw (p := ⟨b, o, none⟩) h; go_simp <;> with_reducible rfl
  (try simp only [Act.put, List.setIfInBounds_toArray, List.set_cons_zero, List.set_cons_succ])
  refine PX.wpAnyY_take (i := 8) (oi := ?_) (v := ?_) ?_ (by kernel_rfl) (by kernel_rfl) (by kernel_rfl) (by kernel_rfl) (by kernel_rfl) (fun _ _ _ h => h) (Or.inl ⟨?_, ?_⟩) (by assumption) ?_
  rotate_left 2
  · simp only [List.getElem?_toArray, List.getElem?_cons_succ, List.getElem?_cons_zero]; rfl
  · rfl
  · intro w hSw; (try dsimp only at hSw); go_simp <;> with_reducible rfl
  (try simp only [Act.put, List.setIfInBounds_toArray, List.set_cons_zero, List.set_cons_succ])
  refine PX.wpAnyY_take (i := 10) (oi := ?_) (v := ?_) ?_ (by kernel_rfl) (by kernel_rfl) (by kernel_rfl) (by kernel_rfl) (by kernel_rfl) (fun _ _ _ h => h) (Or.inl ⟨?_, ?_⟩) (by assumption) ?_
  rotate_left 2
  · simp only [List.getElem?_toArray, List.getElem?_cons_succ, List.getElem?_cons_zero]; rfl
  · rfl
  · intro w hSw; (try dsimp only at hSw); go_simp <;> with_reducible rfl
  (try simp only [Act.put, List.setIfInBounds_toArray, List.set_cons_zero, List.set_cons_succ])
  refine PX.wpAnyY_take (i := 11) (oi := ?_) (v := ?_) ?_ (by kernel_rfl) (by kernel_rfl) (by kernel_rfl) (by kernel_rfl) (by kernel_rfl) (fun _ _ _ h => h) (Or.inl ⟨?_, ?_⟩) (by assumption) ?_
  rotate_left 2
  · simp only [List.getElem?_toArray, List.getElem?_cons_succ, List.getElem?_cons_zero]; rfl
  · rfl
  · intro w hSw; (try dsimp only at hSw); have hC := fun (b o : Nat) (h : b < W0.heap.size) => Below.cell hSw (p := ⟨b, o, none⟩) h; go_simp <;> with_reducible rfl
  (try simp only [Act.put, List.setIfInBounds_toArray, List.set_cons_zero, List.set_cons_succ])
  refine PX.wpAnyY_take (i := 12) (oi := ?_) (v := ?_) ?_ (by kernel_rfl) (by kernel_rfl) (by kernel_rfl) (by kernel_rfl) (by kernel_rfl) (fun _ _ _ h => h) (Or.inl ⟨?_, ?_⟩) (by assumption) ?_
  rotate_left 2
  · simp only [List.getElem?_toArray, List.getElem?_cons_succ, List.getElem?_cons_zero]; rfl
  · rfl
  · intro w hSw; (try dsimp only at hSw); go_simp <;> with_reducible rfl
  (try simp only [Act.put, List.setIfInBounds_toArray, List.set_cons_zero, List.set_cons_succ])
  refine PX.wpAnyY_take (i := 14) (oi := ?_) (v := ?_) ?_ (by kernel_rfl) (by kernel_rfl) (by kernel_rfl) (by kernel_rfl) (by kernel_rfl) (fun _ _ _ h => h) (Or.inl ⟨?_, ?_⟩) (by assumption) ?_
  rotate_left 2
  · simp only [List.getElem?_toArray, List.getElem?_cons_succ, List.getElem?_cons_zero]; rfl
  · rfl
  · intro w hSw; (try dsimp only at hSw); go_simp <;> with_reducible rfl
  (try simp only [Act.put, List.setIfInBounds_toArray, List.set_cons_zero, List.set_cons_succ])
  refine PX.wpAnyY_take (i := 15) (oi := ?_) (v := ?_) ?_ (by kernel_rfl) (by kernel_rfl) (by kernel_rfl) (by kernel_rfl) (by kernel_rfl) (fun _ _ _ h => h) (Or.inl ⟨?_, ?_⟩) (by assumption) ?_
  rotate_left 2
  · simp only [List.getElem?_toArray, List.getElem?_cons_succ, List.getElem?_cons_zero]; rfl
  · rfl
  · intro w hSw; (try dsimp only at hSw); have hC := fun (b o : Nat) (h : b < W0.heap.size) => Below.cell hSw (p := ⟨b, o, none⟩) h; go_simp <;> with_reducible rfl
  (try simp only [Act.put, List.setIfInBounds_toArray, List.set_cons_zero, List.set_cons_succ])
  refine PX.wpAnyY_one (i := 1) (o := ?_) (by kernel_rfl) ?_ (fun Kq hKq => ?_)
  rotate_left
  · simp only [List.getElem?_toArray, List.getElem?_cons_succ, List.getElem?_cons_zero]; rfl
  go_simp
  (with_reducible refine (CN.out _ _ _ _ (BB.out.here hHeld)).mono ?_)
  rintro e y1 ⟨rfl, bqy1⟩
  have Hy1 := Lib.hid (thence hHeld bqy1 (Nat.le_refl _))
  clear bqy1
  go_wp2_with fail
  refine hKq.out _ _ (Hy1.out) (fun hHeld => ?_)
  clear hKq Kq
  (try simp only [Act.put, List.setIfInBounds_toArray, List.set_cons_zero, List.set_cons_succ])
  refine PX.wpAnyY_one (i := 5) (o := ?_) (by kernel_rfl) ?_ (fun Kq hKq => ?_)
  rotate_left
  · simp only [List.getElem?_toArray, List.getElem?_cons_succ, List.getElem?_cons_zero]; rfl
  go_simp
  (with_reducible refine (CN.out _ _ _ _ (BB.out.here hHeld)).mono ?_)
  rintro e y2 ⟨rfl, bqy2⟩
  have Hy2 := Lib.hid (thence hHeld bqy2 (Nat.le_refl _))
  clear bqy2
  go_wp2_with fail
  refine hKq.out _ _ (Hy2.out) (fun hHeld => ?_)
  clear hKq Kq
  (try simp only [Act.put, List.setIfInBounds_toArray, List.set_cons_zero, List.set_cons_succ])
  refine PX.wpAnyY_one (i := 9) (o := ?_) (by kernel_rfl) ?_ (fun Kq hKq => ?_)
  rotate_left
  · simp only [List.getElem?_toArray, List.getElem?_cons_succ, List.getElem?_cons_zero]; rfl
  go_simp
  (with_reducible refine (CN.out _ _ _ _ (BB.out.here hHeld)).mono ?_)
  rintro e y3 ⟨rfl, bqy3⟩
  have Hy3 := Lib.hid (thence hHeld bqy3 (Nat.le_refl _))
  clear bqy3
  go_wp2_with fail
  refine hKq.out _ _ (Hy3.out) (fun hHeld => ?_)
  clear hKq Kq
  (try simp only [Act.put, List.setIfInBounds_toArray, List.set_cons_zero, List.set_cons_succ])
  refine PX.wpAnyY_one (i := 13) (o := ?_) (by kernel_rfl) ?_ (fun Kq hKq => ?_)
  rotate_left
  · simp only [List.getElem?_toArray, List.getElem?_cons_succ, List.getElem?_cons_zero]; rfl
  go_simp
  (with_reducible refine (CN.out _ _ _ _ (BB.out.here hHeld)).mono ?_)
  rintro e y4 ⟨rfl, bqy4⟩
  have Hy4 := Lib.hid (thence hHeld bqy4 (Nat.le_refl _))
  clear bqy4
  go_wp2_with fail
  refine hKq.out _ _ (Hy4.out) (fun hHeld => ?_)
  clear hKq Kq
  (try simp only [Act.put, List.setIfInBounds_toArray, List.set_cons_zero, List.set_cons_succ])
  refine PX.wpAnyY_one (i := 16) (o := ?_) (by kernel_rfl) ?_ (fun Kq hKq => ?_)
  rotate_left
  · simp only [List.getElem?_toArray, List.getElem?_cons_succ, List.getElem?_cons_zero]; rfl
  go_simp
  (with_reducible refine (CN.out _ _ _ _ (BB.out.here hHeld)).mono ?_)
  rintro e y5 ⟨rfl, bqy5⟩
  have Hy5 := Lib.hid (thence hHeld bqy5 (Nat.le_refl _))
  clear bqy5
  go_wp2_with fail
  refine hKq.out _ _ (Hy5.out) (fun hHeld => ?_)
  clear hKq Kq
  (try simp only [Act.put, List.setIfInBounds_toArray, List.set_cons_zero, List.set_cons_succ])
  refine PX.wpAnyY_one (i := 17) (o := ?_) (by kernel_rfl) ?_ (fun Kq hKq => ?_)
  rotate_left
  · simp only [List.getElem?_toArray, List.getElem?_cons_succ, List.getElem?_cons_zero]; rfl
  go_simp
  (with_reducible refine (CS.out _ (BB.out.here hHeld)).mono ?_)
  rintro e y6 ⟨rfl, bqy6⟩
  have Hy6 := Lib.hid (thence hHeld bqy6 (Nat.le_refl _))
  clear bqy6
  go_wp2_with fail
  refine hKq.out _ _ (Hy6.out) (fun hHeld => ?_)
  clear hKq Kq
  (try simp only [Act.put, List.setIfInBounds_toArray, List.set_cons_zero, List.set_cons_succ])
  refine PX.wpAnyY_done (by kernel_rfl) ?_ _
  refine NoPanic.normal ?_
  have X6 := Lib.hid (BB.out.here Hy6.out)
  have HF := Lib.hid (thence B1.out Hy6.out (Nat.le_refl _))
  clear hHeld c0 c1 c2 c3
  obtain ⟨d0, d1⟩ := X6.out.two
  have ld := X6.out.lt
  go_wp2_with fail
  go_quiet (fail)
  rename_i nq
  go_wp2_with fail
  go_ret2
  exact ⟨none, 0, rfl, rd_nil _ _, below_drewN HF.out nq⟩
end Go.Proofs.Ytjdcnajppjamgaa.PW
