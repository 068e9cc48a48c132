/-
  Contracts of layer 1's functions: what halves, Over, Sum and the document's own answers return on any sum and any bytes; nothing that was there is written.
-/
import Derived.Test.YtgebdjohnhlibaaRows
import Derived.Test.YtgebdjohnhlibaaPolyMath
import Derived.WalkKit
import Derived.WalkLawsBesides
import Derived.WalkSpells
import Derived.OpenShut
import Derived.Lib.Hide
import Derived.Lib.SlBytesConst
namespace Go.Proofs.Ytgebdjohnhlibaa.PW
open Go.RowKit
set_option linter.unusedVariables false

/-- The sixteen sums, as the walk writes them. -/
def tab : Array Value := #[.int .u32 0, .int .u32 274646895, .int .u32 549293790, .int .u32 820201905, .int .u32 1098587580, .int .u32 1361435347, .int .u32 1640403810, .int .u32 1905808397, .int .u32 2197175160, .int .u32 2460548119, .int .u32 2722870694, .int .u32 2987750089, .int .u32 3280807620, .int .u32 3553878443, .int .u32 3811616794, .int .u32 4084100981]

theorem halves_any (w : World) :
    Calls Try.prog 16 #[] w fun e w' => e = .returned (.agg #[.int .u32 0, .int .u32 274646895, .int .u32 549293790, .int .u32 820201905, .int .u32 1098587580, .int .u32 1361435347, .int .u32 1640403810, .int .u32 1905808397, .int .u32 2197175160, .int .u32 2460548119, .int .u32 2722870694, .int .u32 2987750089, .int .u32 3280807620, .int .u32 3553878443, .int .u32 3811616794, .int .u32 4084100981]) ∧ Below w.heap.size w w' := by
  go_enter Try.func16, Try.ntmps16
  go_wp2
  exact bodyPost_ret (v := .agg #[.int .u32 0, .int .u32 274646895, .int .u32 549293790, .int .u32 820201905, .int .u32 1098587580, .int .u32 1361435347, .int .u32 1640403810, .int .u32 1905808397, .int .u32 2197175160, .int .u32 2460548119, .int .u32 2722870694, .int .u32 2987750089, .int .u32 3280807620, .int .u32 3553878443, .int .u32 3811616794, .int .u32 4084100981]) (by simp [results, Try.results16, go_sem]) rfl ⟨rfl, (Below.refl _ _).alloc (Nat.le_refl _) _⟩

/-- A slice of bytes that reads as l in the world w, in a block below B. -/
structure Rd (B : Nat) (w : World) (a : Option Addr) (len cap : Nat) (l : List Nat) : Prop where
  long : len = l.length
  fits : l.length ≤ cap
  small : cap ≤ maxLen
  byt : PM.Bytes l
  nil : a = none → len = 0 ∧ cap = 0
  cells : l ≠ [] → ∃ b off, a = some ⟨b, off, none⟩ ∧ b < B ∧ ∀ i, i < l.length → w.cell? ⟨b, off + i, none⟩ = some (.int .u8 ((l.getD i 0 : Nat) : Int))

theorem Rd.below {B : Nat} {w w' : World} {a : Option Addr} {len cap : Nat} {l : List Nat} (h : Rd B w a len cap l) (hb : Below B w w') : Rd B w' a len cap l :=
  ⟨h.long, h.fits, h.small, h.byt, h.nil, fun hl => (by
    obtain ⟨b, off, ha, hB, hc⟩ := h.cells hl
    exact ⟨b, off, ha, hB, fun i hi => by rw [hb.cell (p := ⟨b, off + i, none⟩) hB]; exact hc i hi⟩)⟩

theorem tab_get (j : Nat) (h : j < 16) : tab[j]? = some (.int .u32 ((PM.T j : Nat) : Int)) := by
  have ht := PM.T_tab
  have : (tab.toList)[j]? = (((List.range 16).map PM.T).map (fun (n : Nat) => Value.int .u32 (n : Int)))[j]? := by rw [ht]; rfl
  rw [← Array.getElem?_toList, this]
  simp [h]

theorem tab_cell (w : World) (j : Nat) (h : j < 16) : (w.alloc (.cells #[.int .u32 0, .int .u32 274646895, .int .u32 549293790, .int .u32 820201905, .int .u32 1098587580, .int .u32 1361435347, .int .u32 1640403810, .int .u32 1905808397, .int .u32 2197175160, .int .u32 2460548119, .int .u32 2722870694, .int .u32 2987750089, .int .u32 3280807620, .int .u32 3553878443, .int .u32 3811616794, .int .u32 4084100981] 35)).cell? ⟨w.heap.size, j, none⟩ = some (.int .u32 ((PM.T j : Nat) : Int)) := by
  have := tab_get j h
  unfold tab at this
  simpa using this

theorem not32 (s : Nat) (hs : s < 4294967296) : bits .xor .u32 IntKind.u32.max (s : Int) = ((4294967295 - s : Nat) : Int) := by
  rw [show IntKind.u32.max = ((4294967295 : Nat) : Int) from rfl, u32_xor_nat _ _ (by decide) hs, PM.comp_eq hs, Nat.xor_comm]
theorem xor32 (a b : Nat) (ha : a < 4294967296) (hb : b < 4294967296) : bits .xor .u32 (a : Int) (b : Int) = ((a ^^^ b : Nat) : Int) := u32_xor_nat a b ha hb
theorem low4 (a : Nat) (ha : a < 4294967296) : bits .and .u32 (a : Int) 15 = ((a % 16 : Nat) : Int) := by
  have := u32_and_nat a 15 ha (by decide)
  rw [show (15 : Int) = ((15 : Nat) : Int) from rfl, this, show 15 = 2 ^ 4 - 1 from rfl, Nat.and_two_pow_sub_one_eq_mod]

theorem over_any (s : Nat) (a : Option Addr) (len cap : Nat) (l : List Nat) (w : World) (hs : s < 4294967296) (hr : Rd w.heap.size w a len cap l) :
    Calls Try.prog 12 #[.int .u32 s, .slice a len cap] w fun e w' => e = .returned (.int .u32 (PM.over s l : Nat)) ∧ Below w.heap.size w w' := by
  obtain ⟨rfl, hf, hm, hby, hn, hc⟩ := hr
  unfold maxLen at hm
  have hx := not32 s hs
  have hsg : IntKind.u32.signed = false := rfl
  go_enter Try.func12, Try.ntmps12
  go_wp2_with (go_at_call 16; refine (halves_any _).mono ?_; rintro e w1 ⟨rfl, hb⟩)
  have htab := tab_cell w1
  have hbel : Below w.heap.size w (w1.alloc (.cells #[.int .u32 0, .int .u32 274646895, .int .u32 549293790, .int .u32 820201905, .int .u32 1098587580, .int .u32 1361435347, .int .u32 1640403810, .int .u32 1905808397, .int .u32 2197175160, .int .u32 2460548119, .int .u32 2722870694, .int .u32 2987750089, .int .u32 3280807620, .int .u32 3553878443, .int .u32 3811616794, .int .u32 4084100981] 35)) := hb.alloc hb.size _
  generalize w1.alloc (.cells #[.int .u32 0, .int .u32 274646895, .int .u32 549293790, .int .u32 820201905, .int .u32 1098587580, .int .u32 1361435347, .int .u32 1640403810, .int .u32 1905808397, .int .u32 2197175160, .int .u32 2460548119, .int .u32 2722870694, .int .u32 2987750089, .int .u32 3280807620, .int .u32 3553878443, .int .u32 3811616794, .int .u32 4084100981] 35) = wx at *
  have hsz := hb.size
  generalize w1.heap.size = B at *
  clear hx hsg hb
  go_loop [0, 13] (fun v i => ∃ k : Nat, k ≤ l.length ∧ i = .int .i64 k ∧ v = .int .u32 (PM.st (4294967295 - s) (l.take k) : Nat)) (fun _ i => l.length - (intOf i).toNat)
  case atStart => exact ⟨0, Nat.zero_le _, rfl, rfl⟩
  case round =>
    obtain ⟨k, hk, rfl, rfl⟩ := hrel
    by_cases hlt : k < l.length
    · obtain ⟨b, off, rfl, hB, hcc⟩ := hc (by intro e; subst e; simp at hlt)
      have hcell : wx.cell? ⟨b, off + k, none⟩ = some (.int .u8 ((l.getD k 0 : Nat) : Int)) := by
        rw [hbel.cell (p := ⟨b, off + k, none⟩) hB]; exact hcc k hlt
      have hst : PM.st (4294967295 - s) (l.take (k + 1)) = PM.f8 (PM.st (4294967295 - s) (l.take k) ^^^ l.getD k 0) := by
        rw [List.take_succ_eq_append_getElem hlt, PM.st_snoc]; simp [List.getD, hlt]
      have hml : PM.st (4294967295 - s) (l.take k) < 4294967296 := PM.st_lt (by omega) (fun x hx => hby x (List.mem_of_mem_take hx))
      have hxl : l.getD k 0 < 256 := by simp only [List.getD, List.getElem?_eq_getElem hlt, Option.getD_some]; exact hby _ (List.getElem_mem _)
      generalize PM.st (4294967295 - s) (l.take k) = m at *
      generalize l.getD k 0 = x at *
      have hyl : m ^^^ x < 4294967296 := PM.lt_xor hml (by omega)
      have e1 := xor32 m x hml (by omega)
      generalize hy : m ^^^ x = y at *
      have hh : PM.f8 y = PM.f4 (PM.f4 y) := rfl
      have Hst := Lib.hid (hst.trans hh)
      clear hst hh hcc hc hn hy
      have e2 := low4 y hyl
      have t1 := htab (y % 16) (by omega)
      have hTl : PM.T (y % 16) < 4294967296 := PM.f4_lt (by omega)
      have e4 := xor32 (y / 16) (PM.T (y % 16)) (by omega) hTl
      rw [← PM.f4_eq, Int.natCast_ediv] at e4
      replace e4 : bits .xor .u32 ((y : Int) / 16) ((PM.T (y % 16) : Nat) : Int) = ((PM.f4 y : Nat) : Int) := e4
      have hzl : PM.f4 y < 4294967296 := PM.f4_lt hyl
      generalize PM.T (y % 16) = T1 at *
      generalize PM.f4 y = z at *
      have e5 := low4 z hzl
      have t2 := htab (z % 16) (by omega)
      have hTl2 : PM.T (z % 16) < 4294967296 := PM.f4_lt (by omega)
      have e6 := xor32 (z / 16) (PM.T (z % 16)) (by omega) hTl2
      rw [← PM.f4_eq, Int.natCast_ediv] at e6
      replace e6 : bits .xor .u32 ((z : Int) / 16) ((PM.T (z % 16) : Nat) : Int) = ((PM.f4 z : Nat) : Int) := e6
      generalize PM.T (z % 16) = T2 at *
      clear htab
      go_wp2
      go_round
      case rel => exact ⟨k + 1, by omega, by go_num, by rw [Hst.out]⟩
      case measure => simp [intOf]; omega
    · have hfin : PM.st (4294967295 - s) (l.take k) = PM.st (4294967295 - s) l := by rw [List.take_of_length_le (by omega)]
      have hml : PM.st (4294967295 - s) (l.take k) < 4294967296 := PM.st_lt (by omega) (fun x hx => hby x (List.mem_of_mem_take hx))
      have Hfin := Lib.hid hfin
      clear hfin htab hc hn
      generalize PM.st (4294967295 - s) (l.take k) = m at *
      have e1 := not32 m hml
      have hsg : IntKind.u32.signed = false := rfl
      have hd : decide (k < l.length) = false := by simp; omega
      go_wp2
      go_ret
      exact ⟨by unfold PM.over; rw [← Hfin.out]; rfl, hbel⟩

theorem sum_any (a : Option Addr) (len cap : Nat) (l : List Nat) (w : World) (hr : Rd w.heap.size w a len cap l) :
    Calls Try.prog 11 #[.slice a len cap] w fun e w' => e = .returned (.int .u32 (PM.over 0 l : Nat)) ∧ Below w.heap.size w w' := by
  have h0 := over_any 0 a len cap l w (by decide) hr
  have H0 := Lib.hid h0
  clear h0
  go_enter Try.func11, Try.ntmps11
  go_wp2_with (go_at_call 12; refine H0.out.mono ?_; rintro e w1 ⟨rfl, hb⟩)
  go_ret
  exact ⟨rfl, hb⟩

theorem sub32 (a : Nat) (ha : a < 4294967296) : IntKind.u32.wrap (4294967295 - (a : Int)) = ((4294967295 - a : Nat) : Int) := by
  rw [IntKind.wrap_u32']; omega

theorem with_any (s x : Nat) (w : World) (hs : s < 4294967296) (hx : x < 256) :
    Calls Try.prog 17 #[.int .u32 s, .int .u8 x] w fun e w' => e = .returned (.int .u32 (PM.with1 s x : Nat)) ∧ w' = w := by
  have e0 := sub32 s hs
  have e1 := xor32 (4294967295 - s) x (by omega) (by omega)
  have hyl : (4294967295 - s) ^^^ x < 4294967296 := PM.lt_xor (by omega) (by omega)
  have hw : PM.with1 s x = 4294967295 - PM.fk 8 ((4294967295 - s) ^^^ x) := rfl
  have Hw := Lib.hid hw
  clear hw
  generalize (4294967295 - s) ^^^ x = y at *
  go_enter Try.func17, Try.ntmps17
  go_wp2
  clear e0 e1
  go_loop [5, 6, 7] (fun v i _ => ∃ k : Nat, k ≤ 8 ∧ i = .int .i64 k ∧ v = .int .u32 (PM.fk k y : Nat)) (fun _ i _ => 8 - (intOf i).toNat)
  case atStart => exact ⟨0, by omega, rfl, rfl⟩
  case round =>
    obtain ⟨k, hk, rfl, rfl⟩ := hrel
    have hl := PM.fk_lt k hyl
    by_cases hlt : k < 8
    · have hs1 : PM.fk (k + 1) y = PM.f (PM.fk k y) := rfl
      have Hs := Lib.hid hs1
      clear hs1
      generalize PM.fk k y = n at *
      by_cases hp : n % 2 = 1
      · have hp1 : ((n : Int) % 2 == 1) = true := by simp; omega
        have e4 : bits .xor .u32 ((n : Int) / 2) 2197175160 = ((PM.f n : Nat) : Int) := by
          have := xor32 (n / 2) 2197175160 (by omega) (by decide)
          rw [Int.natCast_ediv] at this
          unfold PM.f
          rw [if_pos hp]
          exact this
        clear hp
        go_wp2
        go_round
        case rel => exact ⟨k + 1, by omega, by go_num, by rw [Hs.out]⟩
        case measure => simp [intOf]; omega
      · have hp1 : ((n : Int) % 2 == 1) = false := by simp; omega
        have hf : ((n : Int) / 2) = ((PM.f n : Nat) : Int) := by
          unfold PM.f
          rw [if_neg hp, Int.natCast_ediv]; rfl
        have Hf := Lib.hid hf
        clear hp hf
        go_wp2
        go_round
        case rel => exact ⟨k + 1, by omega, by go_num, by rw [Hs.out, ← Hf.out]⟩
        case measure => simp [intOf]; omega
    · obtain rfl : k = 8 := by omega
      have e0 := sub32 (PM.fk 8 y) hl
      generalize PM.fk 8 y = n at *
      go_wp2
      go_ret
      exact ⟨by rw [Hw.out]; rfl, rfl⟩

theorem refover_any (s : Nat) (a : Option Addr) (len cap : Nat) (l : List Nat) (w : World) (hs : s < 4294967296) (hr : Rd w.heap.size w a len cap l) :
    Calls Try.prog 14 #[.int .u32 s, .slice a len cap] w fun e w' => e = .returned (.int .u32 (PM.over s l : Nat)) ∧ w' = w := by
  obtain ⟨rfl, hf, hm, hby, hn, hc⟩ := hr
  unfold maxLen at hm
  go_enter Try.func14, Try.ntmps14
  go_wp2
  go_loop [0, 5] (fun v i => ∃ k : Nat, k ≤ l.length ∧ i = .int .i64 k ∧ v = .int .u32 (PM.over s (l.take k) : Nat)) (fun _ i => l.length - (intOf i).toNat)
  case atStart => exact ⟨0, Nat.zero_le _, rfl, by rw [List.take_zero, PM.over_nil hs]⟩
  case round =>
    obtain ⟨k, hk, rfl, rfl⟩ := hrel
    by_cases hlt : k < l.length
    · obtain ⟨b, off, rfl, hB, hcc⟩ := hc (by intro e; subst e; simp at hlt)
      have hcell := hcc k hlt
      have hst : PM.over s (l.take (k + 1)) = PM.with1 (PM.over s (l.take k)) (l.getD k 0) := by
        rw [List.take_succ_eq_append_getElem hlt, PM.over_snoc _ _ (fun x hx => hby x (List.mem_of_mem_take hx))]; simp [List.getD, hlt]
      have hml := PM.over_lt s (l.take k)
      have hxl : l.getD k 0 < 256 := by simp only [List.getD, List.getElem?_eq_getElem hlt, Option.getD_some]; exact hby _ (List.getElem_mem _)
      have Hst := Lib.hid hst
      clear hst hcc hc hn
      generalize PM.over s (l.take k) = m at *
      generalize l.getD k 0 = x at *
      go_wp2_with (go_at_call 17; refine (with_any m x _ hml hxl).mono ?_; rintro e w' ⟨rfl, rfl⟩)
      go_round
      case rel => exact ⟨k + 1, by omega, by go_num, by rw [Hst.out]⟩
      case measure => simp [intOf]; omega
    · have hfin : PM.over s (l.take k) = PM.over s l := by rw [List.take_of_length_le (by omega)]
      have Hfin := Lib.hid hfin
      clear hfin hc hn
      generalize PM.over s (l.take k) = m at *
      have hd : decide (k < l.length) = false := by simp; omega
      go_wp2
      go_ret
      exact ⟨by rw [← Hfin.out]; rfl, rfl⟩

theorem refsum_any (a : Option Addr) (len cap : Nat) (l : List Nat) (w : World) (hr : Rd w.heap.size w a len cap l) :
    Calls Try.prog 13 #[.slice a len cap] w fun e w' => e = .returned (.int .u32 (PM.over 0 l : Nat)) ∧ w' = w := by
  have h0 := refover_any 0 a len cap l w (by decide) hr
  have H0 := Lib.hid h0
  clear h0
  go_enter Try.func13, Try.ntmps13
  go_wp2_with (go_at_call 14; refine H0.out.mono ?_; rintro e w1 ⟨rfl, rfl⟩)
  go_ret
  exact ⟨rfl, rfl⟩

/-- Bytes that are laid in a new block read as they are. -/
theorem rd_lit (w : World) (C : List Nat) (A : Array Value) (len cap : Nat) (fr : Nat × Nat) (h1 : len = C.length) (h2 : cap = C.length) (hA : A = (C.map (fun (n : Nat) => Value.int .u8 (n : Int))).toArray) (hb : PM.Bytes C) (hm : C.length ≤ maxLen) :
    Rd (w.alloc (.cells A 5 fr)).heap.size (w.alloc (.cells A 5 fr)) (some ⟨w.heap.size, 0, none⟩) len cap C := by
  subst h1 h2 hA
  refine ⟨rfl, Nat.le_refl _, hm, hb, (fun h => nomatch h), fun _ => ⟨w.heap.size, 0, rfl, by simp, fun i hi => ?_⟩⟩
  rw [World.cell?_alloc_mark]
  simp [hi, List.getD]

theorem Rd.mono {B B' : Nat} {w : World} {a : Option Addr} {len cap : Nat} {l : List Nat} (h : Rd B w a len cap l) (hB : B ≤ B') : Rd B' w a len cap l :=
  ⟨h.long, h.fits, h.small, h.byt, h.nil, fun hl => (by
    obtain ⟨b, off, ha, hb, hc⟩ := h.cells hl
    exact ⟨b, off, ha, by omega, hc⟩)⟩

def digits : List Nat := [49, 50, 51, 52, 53, 54, 55, 56, 57]
theorem over_digits : PM.over 0 digits = 3808858755 := by decide +kernel

theorem alive_any (w : World) :
    Calls Try.prog 10 #[] w fun e w' => e = .returned (.bool true) ∧ Below w.heap.size w w' := by
  have kc := fun (w : World) (C : Array Value) (n c : Nat) => Lib.run_convert_bytes_const (P := Try.prog) w 26 5 C n c Try.underlying26 Try.underlying5
  have h0 : ∀ (fr : Nat × Nat), Calls Try.prog 11 #[.slice (some ⟨w.heap.size, 0, none⟩) 9 9] (w.alloc (.cells #[.int .u8 49, .int .u8 50, .int .u8 51, .int .u8 52, .int .u8 53, .int .u8 54, .int .u8 55, .int .u8 56, .int .u8 57] 5 fr)) fun e w' => e = .returned (.int .u32 3808858755) ∧ Below w.heap.size w w' := fun fr =>
    (sum_any _ 9 9 digits _ (rd_lit w digits _ 9 9 fr rfl rfl rfl (by unfold PM.Bytes digits; decide) (by unfold maxLen; decide))).mono (by
      rintro e w' ⟨rfl, hb⟩
      refine ⟨by rw [over_digits]; rfl, ?_⟩
      exact ((Below.refl _ w).alloc (Nat.le_refl _) _).trans (hb.mono (by simp)))
  have H0 := Lib.hid h0
  clear h0
  go_enter Try.func10, Try.ntmps10
  go_wp2_with (go_at_call 11; refine (H0.out _).mono ?_; rintro e w1 ⟨rfl, hb⟩)
  go_ret
  exact ⟨rfl, hb⟩

theorem byte_of (n : Nat) : IntKind.u8.wrap (n : Int) = ((n % 256 : Nat) : Int) := by
  rw [IntKind.wrap_u8']; omega

/-- The four bytes of a text's sum, in a new block. -/
theorem own_any (a : Option Addr) (len cap : Nat) (l : List Nat) (w : World) (hr : Rd w.heap.size w a len cap l) :
    Calls Try.prog 15 #[.slice a len cap] w fun e w' => ∃ b, e = .returned (.slice b 4 4) ∧ Rd w'.heap.size w' b 4 4 (PM.own4 (PM.over 0 l)) ∧ Below w.heap.size w w' := by
  have h0 := sum_any a len cap l w hr
  have H0 := Lib.hid h0
  clear h0
  have hs := PM.over_lt 0 l
  generalize PM.over 0 l = s at *
  go_enter Try.func15, Try.ntmps15
  go_wp2_with (go_at_call 11; refine H0.out.mono ?_; rintro e w1 ⟨rfl, hb⟩)
  go_ret
  refine ⟨_, rfl, rd_lit w1 (PM.own4 s) _ 4 4 _ rfl rfl ?_ ?_ (by show 4 ≤ maxLen; unfold maxLen; decide), hb.alloc hb.size _⟩
  · simp [PM.own4]
  · intro x hx
    simp [PM.own4] at hx
    omega

/-- What the row's frame tells of a slice of integers that came in. -/
def IsRow (k : IntKind) (w : World) (a : Option Addr) (len cap : Nat) (zs : List Int) : Prop :=
  (a = none ∧ len = 0 ∧ cap = 0 ∧ zs = []) ∨
  ∃ x, a = some x ∧ len ≤ cap ∧ cap ≤ maxLen ∧ zs.length = cap ∧ (∀ i, i < zs.length → w.cell? (x.add i) = some (.int k (zs.getD i 0))) ∧ ∀ n ∈ zs, (Lit.int k n).wf = true

theorem rd_of_row {w : World} {a : Option Addr} {len cap : Nat} {zs : List Int} (h : IsRow .u8 w a len cap zs) : ∃ l, Rd w.heap.size w a len cap l := by
  rcases h with ⟨rfl, rfl, rfl, rfl⟩ | ⟨x, rfl, hl, hm, hz, hcell, hwz⟩
  · exact ⟨[], ⟨rfl, Nat.le_refl _, by unfold maxLen; decide, (fun _ h => nomatch h), fun _ => ⟨rfl, rfl⟩, fun h => absurd rfl h⟩⟩
  · refine ⟨(zs.take len).map Int.toNat, ⟨by simp; omega, by simp; omega, hm, ?_, (fun h => nomatch h), fun hne => ?_⟩⟩
    · intro n hn
      rw [List.mem_map] at hn
      obtain ⟨z, hz1, rfl⟩ := hn
      have := bounds_u8 (hwz z (List.mem_of_mem_take hz1))
      omega
    · have hlen : 0 < len := by
        rcases Nat.eq_zero_or_pos len with h0 | h0
        · subst h0; simp at hne
        · exact h0
      obtain ⟨b, off, spot⟩ := x
      have hc0 := hcell 0 (by omega)
      have hspot : spot = none := by simpa [Addr.add] using World.cell?_spot hc0
      subst hspot
      refine ⟨b, off, rfl, ?_, fun i hi => ?_⟩
      · exact World.block_lt_of_cell? _ _ hc0
      · have hi' : i < len := by simp at hi; omega
        have hc := hcell i (by omega)
        have hw := bounds_u8 (hwz (zs.getD i 0) (by simp only [List.getD, List.getElem?_eq_getElem (show i < zs.length by omega), Option.getD_some]; exact List.getElem_mem _))
        have e : (((zs.take len).map Int.toNat).getD i 0 : Nat) = (zs.getD i 0).toNat := by
          simp [List.getD, hi', show i < zs.length by omega]
        rw [e, Int.toNat_of_nonneg hw.1]
        have ea : (⟨b, off, none⟩ : Addr).add i = ⟨b, off + i, none⟩ := by
          unfold Addr.add; split <;> simp_all
        rwa [ea] at hc
end Go.Proofs.Ytgebdjohnhlibaa.PW
