/-
  The program's own sum (poly.Sum), which later layers' calls stand on.
-/
import Derived.Test.YtjdcnajppjamgaaBase
import Derived.Test.YtjdcnajppjamgaaPolyMath
namespace Go.Proofs.Ytjdcnajppjamgaa.PW
open Go.RowKit
set_option linter.unusedVariables false

/-- The sixteen sums, as the walk writes them. -/
def pgTab : Array Value := #[.int .u32 0, .int .u32 274646895, .int .u32 549293790, .int .u32 820201905, .int .u32 1098587580, .int .u32 1361435347, .int .u32 1640403810, .int .u32 1905808397, .int .u32 2197175160, .int .u32 2460548119, .int .u32 2722870694, .int .u32 2987750089, .int .u32 3280807620, .int .u32 3553878443, .int .u32 3811616794, .int .u32 4084100981]

theorem pgHalves_any (w : World) :
    Calls Try.prog 61 #[] w fun e w' => e = .returned (.agg #[.int .u32 0, .int .u32 274646895, .int .u32 549293790, .int .u32 820201905, .int .u32 1098587580, .int .u32 1361435347, .int .u32 1640403810, .int .u32 1905808397, .int .u32 2197175160, .int .u32 2460548119, .int .u32 2722870694, .int .u32 2987750089, .int .u32 3280807620, .int .u32 3553878443, .int .u32 3811616794, .int .u32 4084100981]) ∧ Below w.heap.size w w' := by
  go_enter Try.func61, Try.ntmps61
  go_wp2
  exact bodyPost_ret (v := .agg #[.int .u32 0, .int .u32 274646895, .int .u32 549293790, .int .u32 820201905, .int .u32 1098587580, .int .u32 1361435347, .int .u32 1640403810, .int .u32 1905808397, .int .u32 2197175160, .int .u32 2460548119, .int .u32 2722870694, .int .u32 2987750089, .int .u32 3280807620, .int .u32 3553878443, .int .u32 3811616794, .int .u32 4084100981]) (by simp [results, Try.results61, go_sem]) rfl ⟨rfl, (Below.refl _ _).alloc (Nat.le_refl _) _⟩

theorem pgTab_get (j : Nat) (h : j < 16) : pgTab[j]? = some (.int .u32 ((PM.T j : Nat) : Int)) := by
  have ht := PM.T_tab
  have : (pgTab.toList)[j]? = (((List.range 16).map PM.T).map (fun (n : Nat) => Value.int .u32 (n : Int)))[j]? := by rw [ht]; rfl
  rw [← Array.getElem?_toList, this]
  simp [h]

theorem pgTab_cell (w : World) (j : Nat) (h : j < 16) : (w.alloc (.cells #[.int .u32 0, .int .u32 274646895, .int .u32 549293790, .int .u32 820201905, .int .u32 1098587580, .int .u32 1361435347, .int .u32 1640403810, .int .u32 1905808397, .int .u32 2197175160, .int .u32 2460548119, .int .u32 2722870694, .int .u32 2987750089, .int .u32 3280807620, .int .u32 3553878443, .int .u32 3811616794, .int .u32 4084100981] 94)).cell? ⟨w.heap.size, j, none⟩ = some (.int .u32 ((PM.T j : Nat) : Int)) := by
  have := pgTab_get j h
  unfold pgTab at this
  simpa using this

theorem pgNot32 (s : Nat) (hs : s < 4294967296) : bits .xor .u32 IntKind.u32.max (s : Int) = ((4294967295 - s : Nat) : Int) := by
  rw [show IntKind.u32.max = ((4294967295 : Nat) : Int) from rfl, u32_xor_nat _ _ (by decide) hs, PM.comp_eq hs, Nat.xor_comm]
theorem pgXor32 (a b : Nat) (ha : a < 4294967296) (hb : b < 4294967296) : bits .xor .u32 (a : Int) (b : Int) = ((a ^^^ b : Nat) : Int) := u32_xor_nat a b ha hb
theorem pgLow4 (a : Nat) (ha : a < 4294967296) : bits .and .u32 (a : Int) 15 = ((a % 16 : Nat) : Int) := by
  have := u32_and_nat a 15 ha (by decide)
  rw [show (15 : Int) = ((15 : Nat) : Int) from rfl, this, show 15 = 2 ^ 4 - 1 from rfl, Nat.and_two_pow_sub_one_eq_mod]

theorem pgOver_any (s : Nat) (a : Option Addr) (len cap : Nat) (l : List Nat) (w : World) (hs : s < 4294967296) (hr : Rd w.heap.size w a len cap l) :
    Calls Try.prog 56 #[.int .u32 s, .slice a len cap] w fun e w' => e = .returned (.int .u32 (PM.over s l : Nat)) ∧ Below w.heap.size w w' := by
  obtain ⟨rfl, hf, hm, hby, hn, hc⟩ := hr
  unfold maxLen at hm
  have hx := pgNot32 s hs
  have hsg : IntKind.u32.signed = false := rfl
  go_enter Try.func56, Try.ntmps56
  go_wp2_with (go_at_call 61; refine (pgHalves_any _).mono ?_; rintro e w1 ⟨rfl, hb⟩)
  have htab := pgTab_cell w1
  have hbel : Below w.heap.size w (w1.alloc (.cells #[.int .u32 0, .int .u32 274646895, .int .u32 549293790, .int .u32 820201905, .int .u32 1098587580, .int .u32 1361435347, .int .u32 1640403810, .int .u32 1905808397, .int .u32 2197175160, .int .u32 2460548119, .int .u32 2722870694, .int .u32 2987750089, .int .u32 3280807620, .int .u32 3553878443, .int .u32 3811616794, .int .u32 4084100981] 94)) := hb.alloc hb.size _
  generalize w1.alloc (.cells #[.int .u32 0, .int .u32 274646895, .int .u32 549293790, .int .u32 820201905, .int .u32 1098587580, .int .u32 1361435347, .int .u32 1640403810, .int .u32 1905808397, .int .u32 2197175160, .int .u32 2460548119, .int .u32 2722870694, .int .u32 2987750089, .int .u32 3280807620, .int .u32 3553878443, .int .u32 3811616794, .int .u32 4084100981] 94) = wx at *
  have hsz := hb.size
  generalize w1.heap.size = B at *
  clear hx hsg hb
  go_loop [0, 13] (fun v i => ∃ k : Nat, k ≤ l.length ∧ i = .int .i64 k ∧ v = .int .u32 (PM.st (4294967295 - s) (l.take k) : Nat)) (fun _ i => l.length - (intOf i).toNat)
  case atStart => exact ⟨0, Nat.zero_le _, rfl, rfl⟩
  case round =>
    obtain ⟨k, hk, rfl, rfl⟩ := hrel
    by_cases hlt : k < l.length
    · obtain ⟨b, off, rfl, hB, hcc⟩ := hc (by intro e; subst e; simp at hlt)
      have hcell : wx.cell? ⟨b, off + k, none⟩ = some (.int .u8 ((l.getD k 0 : Nat) : Int)) := by
        rw [hbel.cell (p := ⟨b, off + k, none⟩) hB]; exact hcc k hlt
      have hst : PM.st (4294967295 - s) (l.take (k + 1)) = PM.f8 (PM.st (4294967295 - s) (l.take k) ^^^ l.getD k 0) := by
        rw [List.take_succ_eq_append_getElem hlt, PM.st_snoc]; simp [List.getD, hlt]
      have hml : PM.st (4294967295 - s) (l.take k) < 4294967296 := PM.st_lt (by omega) (fun x hx => hby x (List.mem_of_mem_take hx))
      have hxl : l.getD k 0 < 256 := by simp only [List.getD, List.getElem?_eq_getElem hlt, Option.getD_some]; exact hby _ (List.getElem_mem _)
      generalize PM.st (4294967295 - s) (l.take k) = m at *
      generalize l.getD k 0 = x at *
      have hyl : m ^^^ x < 4294967296 := PM.lt_xor hml (by omega)
      have e1 := pgXor32 m x hml (by omega)
      generalize hy : m ^^^ x = y at *
      have hh : PM.f8 y = PM.f4 (PM.f4 y) := rfl
      have Hst := Lib.hid (hst.trans hh)
      clear hst hh hcc hc hn hy
      have e2 := pgLow4 y hyl
      have t1 := htab (y % 16) (by omega)
      have hTl : PM.T (y % 16) < 4294967296 := PM.f4_lt (by omega)
      have e4 := pgXor32 (y / 16) (PM.T (y % 16)) (by omega) hTl
      rw [← PM.f4_eq, Int.natCast_ediv] at e4
      replace e4 : bits .xor .u32 ((y : Int) / 16) ((PM.T (y % 16) : Nat) : Int) = ((PM.f4 y : Nat) : Int) := e4
      have hzl : PM.f4 y < 4294967296 := PM.f4_lt hyl
      generalize PM.T (y % 16) = T1 at *
      generalize PM.f4 y = z at *
      have e5 := pgLow4 z hzl
      have t2 := htab (z % 16) (by omega)
      have hTl2 : PM.T (z % 16) < 4294967296 := PM.f4_lt (by omega)
      have e6 := pgXor32 (z / 16) (PM.T (z % 16)) (by omega) hTl2
      rw [← PM.f4_eq, Int.natCast_ediv] at e6
      replace e6 : bits .xor .u32 ((z : Int) / 16) ((PM.T (z % 16) : Nat) : Int) = ((PM.f4 z : Nat) : Int) := e6
      generalize PM.T (z % 16) = T2 at *
      clear htab
      go_wp2
      go_round
      case rel => exact ⟨k + 1, by omega, by go_num, by rw [Hst.out]⟩
      case measure => simp [intOf]; omega
    · have hfin : PM.st (4294967295 - s) (l.take k) = PM.st (4294967295 - s) l := by rw [List.take_of_length_le (by omega)]
      have hml : PM.st (4294967295 - s) (l.take k) < 4294967296 := PM.st_lt (by omega) (fun x hx => hby x (List.mem_of_mem_take hx))
      have Hfin := Lib.hid hfin
      clear hfin htab hc hn
      generalize PM.st (4294967295 - s) (l.take k) = m at *
      have e1 := pgNot32 m hml
      have hsg : IntKind.u32.signed = false := rfl
      have hd : decide (k < l.length) = false := by simp; omega
      go_wp2
      go_ret
      exact ⟨by unfold PM.over; rw [← Hfin.out]; rfl, hbel⟩

theorem pgSum_any (a : Option Addr) (len cap : Nat) (l : List Nat) (w : World) (hr : Rd w.heap.size w a len cap l) :
    Calls Try.prog 34 #[.slice a len cap] w fun e w' => e = .returned (.int .u32 (PM.over 0 l : Nat)) ∧ Below w.heap.size w w' := by
  have h0 := pgOver_any 0 a len cap l w (by decide) hr
  have H0 := Lib.hid h0
  clear h0
  go_enter Try.func34, Try.ntmps34
  go_wp2_with (go_at_call 56; refine H0.out.mono ?_; rintro e w1 ⟨rfl, hb⟩)
  go_ret
  exact ⟨rfl, hb⟩

end Go.Proofs.Ytjdcnajppjamgaa.PW
