/-
  The walk of PolyThree: three texts put together by exclusive or, and their sums; nothing that was there is written.
-/
import Derived.Test.YtgebdjohnhlibaaPolyLaws
import Derived.RegionTactic
import Derived.Deep.RegionHeld3
import Derived.BigRegion
namespace Go.Proofs.Ytgebdjohnhlibaa.PW
open Go.RowKit
set_option linter.unusedVariables false

theorem Rd.take {B : Nat} {w : World} {a : Option Addr} {len cap : Nat} {l : List Nat} (h : Rd B w a len cap l) (n : Nat) (hn : n ≤ l.length) : Rd B w a n cap (l.take n) := by
  refine ⟨by simp; omega, by have := h.fits; simp; omega, h.small, fun x hx => h.byt x (List.mem_of_mem_take hx), fun ha => ?_, fun hne => ?_⟩
  · have := h.nil ha
    have := h.long
    exact ⟨by omega, (h.nil ha).2⟩
  · obtain ⟨b, off, ha, hB, hc⟩ := h.cells (by rintro rfl; simp at hne)
    refine ⟨b, off, ha, hB, fun i hi => ?_⟩
    have hi' : i < n ∧ i < l.length := by simp at hi; omega
    rw [hc i hi'.2]
    simp [List.getD, hi'.1, hi'.2]

def bw (n : Nat) : Value := .int .u8 (n : Int)
/-- The bytes behind k rounds: the first k of z, noughts behind them. -/
def zk (z : List Nat) (n : Nat) : Nat → List Nat
  | 0 => List.replicate n 0
  | k + 1 => (zk z n k).set k (z.getD k 0)
theorem zk_length (z : List Nat) (n k : Nat) : (zk z n k).length = n := by
  induction k with
  | zero => simp [zk]
  | succ k ih => simp [zk, ih]
theorem zk_get (z : List Nat) (n k i : Nat) (hz : z.length = n) (hk : k ≤ n) : (zk z n k)[i]? = if i < k then z[i]? else if i < n then some 0 else none := by
  induction k with
  | zero => simp [zk, List.getElem?_replicate]
  | succ k ih =>
    unfold zk
    rw [List.getElem?_set, zk_length]
    by_cases h : k = i
    · subst h
      rw [if_pos rfl, if_pos (by omega), if_pos (by omega), List.getElem?_eq_getElem (show k < z.length by omega)]
      simp [List.getD, show k < z.length by omega]
    · rw [if_neg h, ih (by omega)]
      by_cases h2 : i < k
      · rw [if_pos h2, if_pos (by omega)]
      · simp [h2, show ¬ i < k + 1 by omega]
theorem zk_all (z : List Nat) (n : Nat) (hz : z.length = n) : zk z n n = z := by
  apply List.ext_getElem?
  intro i
  rw [zk_get z n n i hz (Nat.le_refl _)]
  by_cases h : i < n
  · rw [if_pos h]
  · rw [if_neg h, if_neg h, List.getElem?_eq_none (by omega)]

theorem zk_step {wr : World} {base g N cap : Nat} {z : List Nat} {k : Nat} (h : wr.ownsRow base 5 1 (.slice (some ⟨g, 0, none⟩) N cap) N ((zk z N k).map bw)) :
    (wr.setCell ⟨g, k, none⟩ (.int .u8 ((z.getD k 0 : Nat) : Int))).ownsRow base 5 1 (.slice (some ⟨g, 0, none⟩) N cap) N ((zk z N (k + 1)).map bw) := by
  have := (h.stored k (.int .u8 ((z.getD k 0 : Nat) : Int))).1
  unfold zk
  rw [List.map_set]
  exact this

/-- The byte i of a text, where it stands in a later world. -/
theorem Rd.at_ {B : Nat} {w : World} {a : Option Addr} {len cap : Nat} {l : List Nat} (h : Rd B w a len cap l) (hl : 0 < l.length) : ∃ b off, a = some ⟨b, off, none⟩ ∧ b < B ∧ ∀ w', Below B w w' → ∀ i, i < l.length → w'.cell? ⟨b, off + i, none⟩ = some (.int .u8 ((l.getD i 0 : Nat) : Int)) := by
  obtain ⟨b, off, ha, hB, hc⟩ := h.cells (by rintro rfl; simp at hl)
  exact ⟨b, off, ha, hB, fun w' hb i hi => by rw [hb.cell (p := ⟨b, off + i, none⟩) hB]; exact hc i hi⟩

theorem getD_lt {l : List Nat} (h : PM.Bytes l) (i : Nat) : l.getD i 0 < 256 := by
  rcases Nat.lt_or_ge i l.length with hi | hi
  · simp only [List.getD, List.getElem?_eq_getElem hi, Option.getD_some]
    exact h _ (List.getElem_mem _)
  · simp [List.getD, List.getElem?_eq_none hi]

set_option maxHeartbeats 600000 in
theorem three_walk (a : Option Addr) (len cap : Nat) (l : List Nat) (b : Option Addr) (lenb capb : Nat) (m : List Nat) (c : Option Addr) (lenc capc : Nat) (o : List Nat) (w : World) (hr : Rd w.heap.size w a len cap l) (hq : Rd w.heap.size w b lenb capb m) (hp : Rd w.heap.size w c lenc capc o) :
    Calls Try.prog 9 #[.slice a len cap, .slice b lenb capb, .slice c lenc capc] w fun e w' => e = .returned (.bool true) ∧ Below w.heap.size w w' := by
  have hm1 := hr.small
  have hf1 := hr.fits
  have hl1 := hr.long
  have hm2 := hq.small
  have hf2 := hq.fits
  have hl2 := hq.long
  have hm3 := hp.small
  have hf3 := hp.fits
  have hl3 := hp.long
  unfold maxLen at hm1 hm2 hm3
  subst hl1 hl2 hl3
  obtain ⟨N1, e1, hN1, hN2⟩ : ∃ N1 : Nat, (if m.length < l.length then (m.length : Int) else (l.length : Int)) = (N1 : Int) ∧ N1 ≤ l.length ∧ N1 ≤ m.length := by
    split
    · exact ⟨_, rfl, by omega, by omega⟩
    · exact ⟨_, rfl, by omega, by omega⟩
  obtain ⟨N, e2, hN3, hN4⟩ : ∃ N : Nat, (if o.length < N1 then (o.length : Int) else (N1 : Int)) = (N : Int) ∧ N ≤ N1 ∧ N ≤ o.length := by
    split
    · exact ⟨_, rfl, by omega, by omega⟩
    · exact ⟨_, rfl, by omega, by omega⟩
  by_cases hbig : 10000 < N
  · go_enter Try.func9, Try.ntmps9
    go_wp2_with fail
    refine (alive_any _).mono ?_
    rintro e w1 ⟨rfl, hb1⟩
    go_wp2
    go_ret
    exact ⟨rfl, hb1⟩
  · obtain ⟨i0, hi0, hz0, hz1, hz2⟩ := info_parts byte_info
    go_enter Try.func9, Try.ntmps9
    go_wp2_with fail
    refine (alive_any _).mono ?_
    rintro e w1 ⟨rfl, hb1⟩
    go_wp2_with (first | (at_make; refine wpList_make_full _ rfl _ _ 26 rfl w1.heap.size 5 i0 (.int .u8 0) 1 Try.underlying26 hi0 hz0 hz1 _ _ _ _ N rfl rfl rfl rfl (by rw [hz2]; omega) (by unfold maxLen; omega) (Nat.le_refl _) ?_; intro w2 hown2 hg2) | fail)
    generalize hA : w1.heap.size = A at *
    have HA := Lib.hid hA
    clear hA e1 e2
    let z := List.zipWith (· ^^^ ·) (List.zipWith (· ^^^ ·) (l.take N) (m.take N)) (o.take N)
    have hz : z.length = N := by simp [z]; omega
    have hzk : ∀ k, k < N → z.getD k 0 = l.getD k 0 ^^^ m.getD k 0 ^^^ o.getD k 0 := by
      intro k hk
      simp [z, List.getD, List.getElem?_zipWith, hk, show k < l.length by omega, show k < m.length by omega, show k < o.length by omega]
    have hzt : List.zipWith (· ^^^ ·) (List.zipWith (· ^^^ ·) (l.take N) (m.take N)) (o.take N) = z := rfl
    clear_value z
    have b2 : Below A w1 w2 := (Below.refl _ _).grown hg2 (by rw [HA.out]; exact Nat.le_refl _) (fun k hk => by cases hk)
    have o2 : w2.ownsRow A 5 1 (.slice (some ⟨A, 0, none⟩) N N) N ((zk z N 0).map bw) := by
      have e : (madeCells (Value.int IntKind.u8 0).cells (N * 1)).toList = (zk z N 0).map bw := by
        simp [zk, bw, madeCells]
        have hc : (Value.int IntKind.u8 0).cells = #[Value.int IntKind.u8 0] := rfl
        rw [hc]
        apply List.ext_getElem
        · simp
        · intro i h1 h2
          simp [Nat.mod_one]
      rw [← e]; exact hown2
    have Hzk := Lib.hid hzk
    have Hzt := Lib.hid hzt
    have Hz := Lib.hid hz
    have hsz : w.heap.size ≤ A := by have := hb1.size; rw [HA.out] at this; exact this
    clear hown2 hg2 hz0 hz1 hz2 hzk hzt hz hi0
    go_loopw [10] (fun i wr => ∃ k : Nat, k ≤ N ∧ i = .int .i64 k ∧ wr.ownsRow A 5 1 (.slice (some ⟨A, 0, none⟩) N N) N ((zk z N k).map bw) ∧ Below A w1 wr) (fun i _ => N - (intOf i).toNat)
    case atStart => exact ⟨0, by omega, rfl, o2, b2⟩
    case round =>
      obtain ⟨k, hk, rfl, hown, hbel⟩ := hrel
      by_cases hlt : k < N
      · have hww : Below w.heap.size w wr := hb1.trans (hbel.mono hsz)
        obtain ⟨ba, oa, rfl, hba, hca⟩ := hr.at_ (by omega)
        obtain ⟨bb, ob, rfl, hbb, hcb⟩ := hq.at_ (by omega)
        obtain ⟨bc, oc, rfl, hbc, hcc⟩ := hp.at_ (by omega)
        have f1 := hca wr hww k (by omega)
        have f2 := hcb wr hww k (by omega)
        have f3 := hcc wr hww k (by omega)
        have l1 := getD_lt hr.byt k
        have l2 := getD_lt hq.byt k
        have l3 := getD_lt hp.byt k
        have l12 : l.getD k 0 ^^^ m.getD k 0 < 256 := Nat.xor_lt_two_pow (n := 8) l1 l2
        have e1 : bits .xor .u8 ((l.getD k 0 : Nat) : Int) ((m.getD k 0 : Nat) : Int) = ((l.getD k 0 ^^^ m.getD k 0 : Nat) : Int) := u8_xor_nat _ _ l1 l2
        have e2 : bits .xor .u8 ((l.getD k 0 ^^^ m.getD k 0 : Nat) : Int) ((o.getD k 0 : Nat) : Int) = ((z.getD k 0 : Nat) : Int) := by rw [Hzk.out k hlt]; exact u8_xor_nat _ _ l12 l3
        have f4 : wr.cell? ⟨A, k, none⟩ = some (.int .u8 ((0 : Nat) : Int)) := by
          rw [hown.cellAt k (by omega), List.getElem?_map, zk_get z N k k Hz.out hk, if_neg (by omega), if_pos hlt]; rfl
        have f5 : wr.frozen? ⟨A, k, none⟩ = false := hown.frozenAt k
        have O' := Lib.hid (zk_step hown)
        have B' : Below A w1 (wr.setCell ⟨A, k, none⟩ (.int .u8 ((z.getD k 0 : Nat) : Int))) := hbel.setCell (Nat.le_refl _) _
        have B'' := Lib.hid B'
        clear B' hca hcb hcc hown hbel hww
        generalize l.getD k 0 ^^^ m.getD k 0 = xy at *
        generalize l.getD k 0 = x at *
        generalize m.getD k 0 = y at *
        generalize o.getD k 0 = u at *
        generalize z.getD k 0 = zz at *
        go_wp2
        go_region
        go_wp2
        go_roundw
        case rel => exact ⟨k + 1, by omega, by go_num, O'.out.drew, B''.out.drew⟩
        case measure => simp [intOf]; omega
      · obtain rfl : k = N := by omega
        have ho : Own wr A (.slice (some ⟨A, 0, none⟩) k k) z := by
          have := hown
          rw [zk_all z k Hz.out] at this
          unfold Own; rw [Hz.out]; exact this
        have hzb : PM.Bytes z := by
          intro x hx
          obtain ⟨i, hi, rfl⟩ := List.mem_iff_getElem.1 hx
          have hik : i < k := by rw [← Hz.out]; exact hi
          have hzi := Hzk.out i hik
          simp only [List.getD, List.getElem?_eq_getElem hi, Option.getD_some] at hzi
          rw [hzi]
          exact Nat.xor_lt_two_pow (n := 8) (Nat.xor_lt_two_pow (n := 8) (getD_lt hr.byt i) (getD_lt hq.byt i)) (getD_lt hp.byt i)
        obtain ⟨a3, cap3, hv3, q3⟩ := ho.rd hzb
        rw [Hz.out] at q3 hv3
        injection hv3 with hv3 hv4 hv5
        subst hv3 hv5
        have hww : Below w.heap.size w wr := hb1.trans (hbel.mono hsz)
        have c0 : ∀ w', Below wr.heap.size wr w' → Calls Try.prog 11 #[.slice (some ⟨A, 0, none⟩) k k] w' fun e w'' => e = .returned (.int .u32 (PM.over 0 z : Nat)) ∧ Below wr.heap.size wr w'' := fun w' hb => (sum_any _ _ _ z _ ((q3.below hb).mono hb.size)).mono fun e w'' ⟨he, hb2⟩ => ⟨he, thence hb hb2 (Nat.le_refl _)⟩
        have c1 : ∀ w', Below wr.heap.size wr w' → Calls Try.prog 11 #[.slice a k cap] w' fun e w'' => e = .returned (.int .u32 (PM.over 0 (l.take k) : Nat)) ∧ Below wr.heap.size wr w'' := fun w' hb => (sum_any _ _ _ _ _ ((((hr.take k (by omega)).below hww).mono hww.size).below hb |>.mono hb.size)).mono fun e w'' ⟨he, hb2⟩ => ⟨he, thence hb hb2 (Nat.le_refl _)⟩
        have c2 : ∀ w', Below wr.heap.size wr w' → Calls Try.prog 11 #[.slice b k capb] w' fun e w'' => e = .returned (.int .u32 (PM.over 0 (m.take k) : Nat)) ∧ Below wr.heap.size wr w'' := fun w' hb => (sum_any _ _ _ _ _ ((((hq.take k (by omega)).below hww).mono hww.size).below hb |>.mono hb.size)).mono fun e w'' ⟨he, hb2⟩ => ⟨he, thence hb hb2 (Nat.le_refl _)⟩
        have c3 : ∀ w', Below wr.heap.size wr w' → Calls Try.prog 11 #[.slice c k capc] w' fun e w'' => e = .returned (.int .u32 (PM.over 0 (o.take k) : Nat)) ∧ Below wr.heap.size wr w'' := fun w' hb => (sum_any _ _ _ _ _ ((((hp.take k (by omega)).below hww).mono hww.size).below hb |>.mono hb.size)).mono fun e w'' ⟨he, hb2⟩ => ⟨he, thence hb hb2 (Nat.le_refl _)⟩
        have h0 := PM.over_lt 0 (l.take k)
        have h1 := PM.over_lt 0 (m.take k)
        have h2 := PM.over_lt 0 (o.take k)
        have h3 : PM.over 0 z = PM.over 0 (l.take k) ^^^ PM.over 0 (m.take k) ^^^ PM.over 0 (o.take k) := by
          rw [← Hzt.out]
          exact PM.three (fun x hx => hr.byt x (List.mem_of_mem_take hx)) (fun x hx => hq.byt x (List.mem_of_mem_take hx)) (fun x hx => hp.byt x (List.mem_of_mem_take hx)) (by simp; omega) (by simp; omega)
        have C0 := Lib.hid c0
        have C1 := Lib.hid c1
        have C2 := Lib.hid c2
        have C3 := Lib.hid c3
        have H3 := Lib.hid h3
        clear c0 c1 c2 c3 h3 hown ho q3 b2 o2 hbel hzb
        generalize PM.over 0 (l.take k) = s1 at *
        generalize PM.over 0 (m.take k) = s2 at *
        generalize PM.over 0 (o.take k) = s3 at *
        generalize PM.over 0 z = s0 at *
        have e1 := xor32 s1 s2 h0 h1
        have e2 := xor32 (s1 ^^^ s2) s3 (PM.lt_xor h0 h1) h2
        rw [← H3.out] at e2
        generalize s1 ^^^ s2 = s12 at *
        have hbr := Below.refl wr.heap.size wr
        have i0' : (0 : Int) ≤ (k : Int) := by omega
        have i1 : (k : Int) ≤ (cap : Int) := by omega
        have i2 : (k : Int) ≤ (capb : Int) := by omega
        have i3 : (k : Int) ≤ (capc : Int) := by omega
        have j1 : k ≤ cap := by omega
        have j2 : k ≤ capb := by omega
        have j3 : k ≤ capc := by omega
        go_wp2
        go_region_held3 (fun w' => Below wr.heap.size wr w') (with_reducible first | assumption | exact Below.drew (by assumption)) (first | (go_at_call 11; (with_reducible refine (C0.out _ ?_).mono ?_); (with_reducible first | assumption | exact Below.drew (by assumption)); rintro e w' ⟨rfl, hb'⟩) | (go_at_call 11; (with_reducible refine (C1.out _ ?_).mono ?_); (with_reducible first | assumption | exact Below.drew (by assumption)); rintro e w' ⟨rfl, hb'⟩) | (go_at_call 11; (with_reducible refine (C2.out _ ?_).mono ?_); (with_reducible first | assumption | exact Below.drew (by assumption)); rintro e w' ⟨rfl, hb'⟩) | (go_at_call 11; (with_reducible refine (C3.out _ ?_).mono ?_); (with_reducible first | assumption | exact Below.drew (by assumption)); rintro e w' ⟨rfl, hb'⟩))
        go_wp2
        go_ret
        exact ⟨rfl, hww.trans (hb'.mono hww.size)⟩
end Go.Proofs.Ytgebdjohnhlibaa.PW
