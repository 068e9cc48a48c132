/-
  Contract of layer 5's 'twins'.
-/
import Derived.Test.YtnhfkfihlkbkfaaActsOwn
import Derived.Test.YtnhfkfihlkbkfaaDiskTwin
import Derived.Test.YtnhfkfihlkbkfaaActsCheck
namespace Go.Proofs.Ytnhfkfihlkbkfaa.PW
open Go.RowKit
open DK (Dv)
set_option linter.unusedVariables false
set_option linter.unusedSimpArgs false
set_option maxRecDepth 100000

theorem made_devs (n : Nat) : madeCells (Value.agg #[.slice none 0 0, .slice none 0 0, .bool false]).cells (n * 3) = (kDn.row (List.replicate n Dn.nil)).toArray := by
  apply Array.toList_inj.1
  have hc : (Value.agg #[.slice none 0 0, .slice none 0 0, .bool false]).cells = #[.slice none 0 0, .slice none 0 0, .bool false] := by kernel_rfl
  simp only [madeCells, hc]
  apply List.ext_getElem?
  intro i
  by_cases hi : i < n * 3
  · have h1 : (kDn.row (List.replicate n Dn.nil))[i]? = (kDn.cells Dn.nil)[i % 3]? := by
      have e : i = i / 3 * kDn.m + i % 3 := by show i = i / 3 * 3 + i % 3; omega
      have hq : i / 3 < (List.replicate n Dn.nil).length := by simp; omega
      have := kDn.row_get (List.replicate n Dn.nil) (i / 3) (i % 3) hq (show i % 3 < 3 by omega)
      rw [← e] at this
      rw [this]
      congr 2
      simp only [List.getD, List.getElem?_replicate]
      have hq2 : i / 3 < n := by simpa using hq
      simp [hq2]
    rw [List.toList_toArray, h1]
    have : i % 3 = 0 ∨ i % 3 = 1 ∨ i % 3 = 2 := by omega
    have e : ((Array.range (n * 3)).map (fun x => (#[Value.slice none 0 0, .slice none 0 0, .bool false] : Array Value)[x % (#[Value.slice none 0 0, .slice none 0 0, .bool false] : Array Value).size]!)).toList[i]? = some ((#[Value.slice none 0 0, .slice none 0 0, .bool false] : Array Value)[i % 3]!) := by
      simp [hi]
    rw [e]
    rcases this with h | h | h <;> rw [h] <;> rfl
  · have hl : (kDn.row (List.replicate n Dn.nil)).length = n * 3 := by rw [kDn.row_length]; simp; rfl
    rw [List.toList_toArray, List.getElem?_eq_none (by simp; omega), List.getElem?_eq_none (by rw [hl]; omega)]
theorem run_make_devs (w : World) (n : Nat) (hn : n ≤ 1000000) :
    (Instr.makeSlice 22 (.int .i64 n) (.int .i64 n)).run Try.prog w = .ok (.slice (some ⟨w.heap.size, 0, none⟩) n n) (w.alloc (.cells (kDn.row (List.replicate n Dn.nil)).toArray 37)) := by
  have info : (Try.prog.info? 37).map (fun i => (i.zero, i.size, i.bytes)) = some (some (.agg #[.slice none 0 0, .slice none 0 0, .bool false]), 3, 56) := by kernel_rfl
  obtain ⟨i, hi, hz0, hz1, hz2⟩ := info_parts info
  have := run_make (P := Try.prog) w 22 37 i (.agg #[.slice none 0 0, .slice none 0 0, .bool false]) Try.underlying22 hi hz0 .i64 .i64 n n (by omega) (Int.le_refl _) (by rw [hz2]; omega) (by omega)
  rw [hz1] at this
  simp only [Int.toNat_natCast] at this
  rw [this, made_devs]

theorem set_fill {α : Type} {M : List α} {n : Nat} (h : M.length < n) (z x : α) : (M ++ List.replicate (n - M.length) z).set M.length x = (M ++ [x]) ++ List.replicate (n - (M.length + 1)) z := by
  have e : n - M.length = (n - (M.length + 1)) + 1 := by omega
  rw [e, List.replicate_succ, List.set_append_right _ _ (Nat.le_refl _)]
  simp
theorem fill_getD {α : Type} {M : List α} {n : Nat} (h : M.length < n) (z : α) : (M ++ List.replicate (n - M.length) z).getD M.length z = z := by
  have e : n - M.length = (n - (M.length + 1)) + 1 := by omega
  rw [e, List.replicate_succ]
  simp [List.getD]
theorem Bx.dcell {w : World} {g : Nat} {M : List Dn} (h : Bx w g (kDn.row M)) {k : Nat} (hk : k < M.length) {x : Dn} (e : M.getD k Dn.nil = x) :
    w.cell? ⟨g, k * 3, none⟩ = some (.slice x.a x.n x.c) ∧ w.cell? ⟨g, k * 3 + 1, none⟩ = some (.slice x.a' x.n' x.c') ∧ w.cell? ⟨g, k * 3 + 2, none⟩ = some (.bool x.D.dead) := by
  have hc : ∀ j, j < 3 → w.cell? ⟨g, k * 3 + j, none⟩ = (Dn.cells x)[j]? := fun j hj => by
    rw [h.cell]
    have := kDn.row_get M k j hk hj
    rw [show kDn.nil = Dn.nil from rfl, e] at this
    exact this
  exact ⟨hc 0 (by omega), hc 1 (by omega), hc 2 (by omega)⟩
/-- A store of a device into block g. -/
theorem stays_put {g k : Nat} {w : World} (u v x : Value) : Stays (g + 1) w.heap.size w (((w.setCell ⟨g, k * 3, none⟩ u).setCell ⟨g, k * 3 + 1, none⟩ v).setCell ⟨g, k * 3 + 2, none⟩ x) ∧ (((w.setCell ⟨g, k * 3, none⟩ u).setCell ⟨g, k * 3 + 1, none⟩ v).setCell ⟨g, k * 3 + 2, none⟩ x).heap.size = w.heap.size :=
  ⟨((Stays.setCell (w := w) ⟨g, k * 3, none⟩ _ (.inl (Nat.lt_succ_self g))).trans (Stays.setCell ⟨g, k * 3 + 1, none⟩ _ (.inl (Nat.lt_succ_self g)))).trans (Stays.setCell ⟨g, k * 3 + 2, none⟩ _ (.inl (Nat.lt_succ_self g))), by simp [World.setCell]⟩
theorem below_put {B g k : Nat} {w w' : World} (h : Below B w w') (hg : B ≤ g) (u v x : Value) : Below B w (((w'.setCell ⟨g, k * 3, none⟩ u).setCell ⟨g, k * 3 + 1, none⟩ v).setCell ⟨g, k * 3 + 2, none⟩ x) :=
  ((h.setCell (p := ⟨g, k * 3, none⟩) hg _).setCell (p := ⟨g, k * 3 + 1, none⟩) hg _).setCell (p := ⟨g, k * 3 + 2, none⟩) hg _

/-- What holds at the head of the loop of 'twins'. -/
def TwinRel (w : World) (len : Nat) (L : List Dn) (i : Value) (wr : World) : Prop :=
  ∃ (M : List Dn) (c : Nat → Nat), M.length ≤ len ∧ i = .int .i64 (M.length : Nat) ∧ devs M = (devs L).take M.length ∧ Bx wr w.heap.size (kDn.row (M ++ List.replicate (len - M.length) Dn.nil)) ∧ Made w.heap.size wr M c ∧ Below w.heap.size w wr
/-- What 'twins' hands back: as many devices, each in new memory of its own. -/
def TwinsEnd (w : World) (Ds : List Dv) (e : Ending) (w' : World) : Prop :=
  ∃ (M : List Dn) (c : Nat → Nat), e = .returned (.slice (some ⟨w.heap.size, 0, none⟩) M.length M.length) ∧ devs M = Ds ∧ Bx w' w.heap.size (kDn.row M) ∧ Made w.heap.size w' M c ∧ Below w.heap.size w w'

set_option maxHeartbeats 1000000 in
theorem twins_any (a : Option Addr) (len cap : Nat) (L : List Dn) (w : World) (hr : Rg kDn 0 w.heap.size w a len cap L) (hf : ∀ D ∈ devs L, Fit D) (hm : len ≤ 1000) :
    Calls Try.prog 44 #[.slice a len cap] w (TwinsEnd w (devs L)) := by
  have hlen := hr.long
  have hs := hr.small'
  have Hlen := Lib.hid hlen
  have Hr := Lib.hid hr
  have HF := Lib.hid hf
  have hmk := run_make_devs w len (by omega)
  have bx := Bx.new w (kDn.row (List.replicate len Dn.nil)) 37
  have al : Below w.heap.size w (w.alloc (.cells (kDn.row (List.replicate len Dn.nil)).toArray 37)) := (Below.refl _ _).alloc (Nat.le_refl _) _
  have BX := Lib.hid bx
  have AL := Lib.hid al
  clear hr hlen hf bx al
  go_enter Try.func44, Try.ntmps44
  go_wp2_with fail
  generalize hW : w.alloc (.cells (kDn.row (List.replicate len Dn.nil)).toArray 37) = W0 at *
  have hsz : w.heap.size < W0.heap.size := BX.out.lt
  clear hmk hW
  go_loopw [11] (fun i wr => TwinRel w len L i wr) (fun i _ => len - (intOf i).toNat)
  case atStart => exact ⟨[], _, Nat.zero_le _, rfl, rfl, BX.out, Made.nil _ _ hsz, AL.out⟩
  case round =>
    obtain ⟨M, c, hk, rfl, hd, hbx, hmd, hbw⟩ := hrel
    have WB := Lib.hid hbw
    have BM := Lib.hid hbx
    have MD := Lib.hid hmd
    have HD := Lib.hid hd
    clear hbw hbx hmd hd
    by_cases hlt : M.length < len
    · obtain ⟨b, off, xa, xn, xc, xa', xn', xc', D, e1, hbB, e2, dv⟩ := Hr.out.dev M.length (by rw [← Hlen.out]; exact hlt)
      subst e1
      obtain ⟨c0, c1, c2⟩ := (Hr.out.below WB.out (Nat.le_refl _)).dcell (by rw [← Hlen.out]; exact hlt) e2
      have DV := Lib.hid (dv.keep (.ofBelow WB.out (Nat.le_refl _)))
      have E2 : Hid ((devs L).getD M.length Dv.nil = D) := by show _ = _; rw [devs_getD, e2]
      clear e2 dv
      have al : Below wr.heap.size wr (wr.alloc (.cells [Value.slice xa xn xc, .slice xa' xn' xc', .bool D.dead].toArray 37)) := (Below.refl _ _).alloc (Nat.le_refl _) _
      have AL := Lib.hid al
      have CT : Hid (Calls Try.prog 64 #[.agg #[.slice xa xn xc, .slice xa' xn' xc', .bool D.dead]] (wr.alloc (.cells [Value.slice xa xn xc, .slice xa' xn' xc', .bool D.dead].toArray 37)) (TheDev (wr.alloc (.cells [Value.slice xa xn xc, .slice xa' xn' xc', .bool D.dead].toArray 37)) D)) :=
        twin_any xa xn xc xa' xn' xc' D _ ((DV.out.mono (Nat.le_refl _) WB.out.size).at.here al) (HF.out D (by rw [← E2.out]; exact AK.mem_get (by rw [devs_length, ← Hlen.out]; exact hlt)))
      clear al
      obtain ⟨dd, hdd⟩ : ∃ dd, dd = D.dead := ⟨_, rfl⟩
      have HDD := Lib.hid hdd
      rw [← hdd] at CT AL c2
      clear hdd
      go_wp2_with fail
      refine CT.out.mono ?_
      rintro e w2 ⟨v, rfl, od, b2⟩
      obtain ⟨ya, yn, yc, ya', yn', yc', rfl, -⟩ := od.at
      rw [← HDD.out] at od ⊢
      have OI := Lib.hid (od.ofI).1
      have B2 : Hid (Below wr.heap.size wr w2) := thence AL.out b2 (Nat.le_refl _)
      have BM2 := Lib.hid (BM.out.here B2.out)
      obtain ⟨p0, p1, p2⟩ := BM2.out.dcell (k := M.length) (by simp; omega) (fill_getD hlt Dn.nil)
      have f0 := BM2.out.frozen (M.length * 3)
      have f1 := BM2.out.frozen (M.length * 3 + 1)
      have f2 := BM2.out.frozen (M.length * 3 + 2)
      have ALs := AL.out.size
      clear od b2
      go_wp2_with fail
      go_roundw
      case rel =>
        obtain ⟨c', mk⟩ := MD.out.snoc B2.out ALs OI.out
        have st := stays_put (g := w.heap.size) (k := M.length) (w := w2) (.slice ya yn yc) (.slice ya' yn' yc') (.bool dd)
        have bs := BM2.out.set3 rfl M.length (by simp; omega) (⟨ya, yn, yc, ya', yn', yc', D⟩ : Dn) (u := .slice ya yn yc) (v := .slice ya' yn' yc') (z := .bool dd) (by rw [HDD.out]; rfl)
        rw [set_fill hlt] at bs
        refine ⟨M ++ [⟨ya, yn, yc, ya', yn', yc', D⟩], c', by simp; omega, by simp, ?_, ?_, mk.keep st.1 (by rw [st.2]; exact Nat.le_refl _), below_put (thence WB.out B2.out (Nat.le_refl _)) (Nat.le_refl _) _ _ _⟩
        · rw [devs_append, HD.out, List.length_append, List.length_singleton, List.take_succ_eq_append_getElem (by rw [devs_length, ← Hlen.out]; exact hlt)]
          congr 1
          have := E2.out
          simp [List.getD, devs_length, ← Hlen.out, hlt] at this
          show [D] = _
          rw [← this]
        · rw [List.length_append, List.length_singleton]
          exact bs
      case measure => simp [intOf]; omega
    · have hkl : M.length = len := by omega
      have h0 : len - M.length = 0 := by omega
      have BM' : Hid (Bx wr w.heap.size (kDn.row M)) := by
        have := BM.out
        rw [h0, List.replicate_zero, List.append_nil] at this
        exact this
      go_wp2_with fail
      go_ret
      refine ⟨M, c, by rw [hkl]; rfl, ?_, BM'.out, MD.out, WB.out⟩
      rw [HD.out, List.take_of_length_le (by rw [devs_length, ← Hlen.out]; omega)]
end Go.Proofs.Ytnhfkfihlkbkfaa.PW
