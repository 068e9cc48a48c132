/-
  Contract of layer 4: whether a device is greater than the laws go through.
-/
import Derived.Test.YtnhfkfihlkbkfaaDiskTwin
namespace Go.Proofs.Ytnhfkfihlkbkfaa.DK
/-- The weight of some lengths. -/
def wt (L : List Nat) : Nat := L.foldl (fun s x => s + (8 + min x 100000)) 0
theorem wt_snoc (L : List Nat) (x : Nat) : wt (L ++ [x]) = wt L + (8 + min x 100000) := by simp [wt]
theorem wt_nil : wt [] = 0 := rfl
theorem foldl_ge (L : List Nat) (a : Nat) : a ≤ L.foldl (fun s x => s + (8 + min x 100000)) a ∧ ∀ x ∈ L, min x 100000 ≤ L.foldl (fun s x => s + (8 + min x 100000)) a := by
  induction L generalizing a with
  | nil => exact ⟨Nat.le_refl _, fun _ h => nomatch h⟩
  | cons y r ih =>
    have := ih (a + (8 + min y 100000))
    refine ⟨by show a ≤ List.foldl _ (a + (8 + min y 100000)) r; omega, fun x hx => ?_⟩
    show _ ≤ List.foldl _ (a + (8 + min y 100000)) r
    rcases List.mem_cons.1 hx with rfl | h
    · omega
    · exact this.2 x h
theorem wt_mem (L : List Nat) (x : Nat) (h : x ∈ L) : min x 100000 ≤ wt L := (foldl_ge L 0).2 x h
theorem foldl_le (L : List Nat) (a : Nat) : L.foldl (fun s x => s + (8 + min x 100000)) a ≤ a + L.length * 100008 := by
  induction L generalizing a with
  | nil => simp
  | cons y r ih =>
    have := ih (a + (8 + min y 100000))
    show List.foldl _ (a + (8 + min y 100000)) r ≤ _
    simp only [List.length_cons]
    omega
theorem wt_le (L : List Nat) : wt L ≤ L.length * 100008 := by have := foldl_le L 0; unfold wt; omega
def lens1 (D : Dv) : List Nat := D.bs.map List.length
def lens2 (D : Dv) : List Nat := D.ws.map (fun p => p.2.length)
def weight (D : Dv) : Nat := wt ((lens1 D).take 400) + wt ((lens2 D).take 1200)
def great (D : Dv) : Bool := decide (300 < D.bs.length) || (decide (1100 < D.ws.length) || decide (60000 < weight D))
theorem great_no {D : Dv} (h : great D = false) : D.bs.length ≤ 300 ∧ D.ws.length ≤ 1100 ∧ (∀ l ∈ D.bs, l.length ≤ 60000) ∧ (∀ p ∈ D.ws, p.2.length ≤ 60000) := by
  unfold great at h
  simp only [Bool.or_eq_false_iff, decide_eq_false_iff_not] at h
  obtain ⟨h1, h2, h3⟩ := h
  have hb : D.bs.length ≤ 300 := by omega
  have hw : D.ws.length ≤ 1100 := by omega
  have t1 : (lens1 D).take 400 = lens1 D := List.take_of_length_le (by simp [lens1]; omega)
  have t2 : (lens2 D).take 1200 = lens2 D := List.take_of_length_le (by simp [lens2]; omega)
  unfold weight at h3
  rw [t1, t2] at h3
  refine ⟨hb, hw, fun l hl => ?_, fun p hp => ?_⟩
  · have := wt_mem (lens1 D) l.length (List.mem_map.2 ⟨l, hl, rfl⟩)
    omega
  · have := wt_mem (lens2 D) p.2.length (List.mem_map.2 ⟨p, hp, rfl⟩)
    omega
end Go.Proofs.Ytnhfkfihlkbkfaa.DK
namespace Go.Proofs.Ytnhfkfihlkbkfaa.PW
open Go.RowKit
open DK (Dv)
set_option linter.unusedVariables false
set_option maxRecDepth 100000

theorem fit_of {D : Dv} (h : DK.great D = false) : Fit D := by
  obtain ⟨h1, h2, h3, h4⟩ := DK.great_no h
  exact ⟨by omega, by omega, fun l hl => by have := h3 l hl; omega, fun p hp => by have := h4 p hp; omega⟩

set_option maxRecDepth 100000 in
set_option maxHeartbeats 1000000 in
theorem great_any (a : Option Addr) (n c : Nat) (a' : Option Addr) (n' c' : Nat) (D : Dv) (w : World) (hr : DevAt w.heap.size w a n c a' n' c' D) :
    Calls Try.prog 50 #[.agg #[.slice a n c, .slice a' n' c', .bool D.dead]] w fun e w' => e = .returned (.bool (DK.great D)) ∧ Below w.heap.size w w' := by
  generalize D.dead = dd
  have Hn := Lib.hid hr.long
  have hs := hr.small.1
  have hs' := hr.small.2
  unfold maxLen at hs hs'
  have hb0 : Below w.heap.size w (w.alloc (.cells #[.slice a n c, .slice a' n' c', .bool dd] 37)) := (Below.refl _ _).alloc (Nat.le_refl _) _
  have hx := Bx.new w [.slice a n c, .slice a' n' c', .bool dd] 37
  have H1 : Hid ((DK.lens1 D).length = n) := by show _ = _; simp [DK.lens1, Hn.out.1]
  have H2 : Hid ((DK.lens2 D).length = n') := by show _ = _; simp [DK.lens2, Hn.out.2]
  have S1 : Hid (∀ k xl, k < n → D.bs.getD k [] = xl → DK.wt ((DK.lens1 D).take (k + 1)) = DK.wt ((DK.lens1 D).take k) + (8 + min xl.length 100000)) := fun k xl hk hx => (by
    have hk' : k < (DK.lens1 D).length := by rw [H1.out]; exact hk
    have hkb : k < D.bs.length := by rw [← Hn.out.1]; exact hk
    rw [List.take_succ_eq_append_getElem hk', DK.wt_snoc]
    have : (DK.lens1 D)[k] = xl.length := by rw [← hx]; simp [DK.lens1, List.getD, hkb]
    rw [this])
  have S2 : Hid (∀ k m xl, k < n' → D.ws.getD k (0, []) = (m, xl) → DK.wt ((DK.lens2 D).take (k + 1)) = DK.wt ((DK.lens2 D).take k) + (8 + min xl.length 100000)) := fun k m xl hk hx => (by
    have hk' : k < (DK.lens2 D).length := by rw [H2.out]; exact hk
    have hkb : k < D.ws.length := by rw [← Hn.out.2]; exact hk
    rw [List.take_succ_eq_append_getElem hk', DK.wt_snoc]
    have : (DK.lens2 D)[k] = xl.length := by
      have e : (D.ws.getD k (0, [])).2 = xl := by rw [hx]
      rw [← e]; simp [DK.lens2, List.getD, hkb]
    rw [this])
  have HB := Lib.hid hb0
  have HX := Lib.hid hx
  have Hr := Lib.hid hr
  clear hb0 hx hr
  go_enter Try.func50, Try.ntmps50
  go_wp2_with fail
  generalize w.alloc (.cells #[.slice a n c, .slice a' n' c', .bool dd] 37) = w1 at *
  obtain ⟨c0, c1, c2⟩ := HX.out.three
  go_loopw [3, 4] (fun s i wr => ∃ (k t : Nat), k ≤ n ∧ k ≤ 400 ∧ t ≤ 40003200 ∧ i = .int .i64 k ∧ s = .int .i64 t ∧ Hid (t = DK.wt ((DK.lens1 D).take k)) ∧ wr = w1) (fun _ i _ => n - (intOf i).toNat)
  case atStart => exact ⟨0, 0, by omega, by omega, by omega, rfl, rfl, (rfl : 0 = DK.wt ((DK.lens1 D).take 0)), rfl⟩
  case round =>
    obtain ⟨k, t, hk, hk4, ht, rfl, rfl, HT, rfl⟩ := hrel
    by_cases hlt : k < n ∧ k < 400
    · obtain ⟨h1, h2⟩ := hlt
      obtain ⟨b, off, xa, xlen, xcap, xl, rfl, hbB, hx, hcell, hxr⟩ := (Hr.out.below HB.out).at k h1
      obtain rfl := hxr.long
      have hsm := hxr.small
      have hft := hxr.fits
      unfold maxLen at hsm
      have ST := Lib.hid (S1.out k xl h1 hx)
      have TB : Hid (DK.wt ((DK.lens1 D).take (k + 1)) ≤ 40003200) := by
        have := DK.wt_le ((DK.lens1 D).take (k + 1))
        have h5 : ((DK.lens1 D).take (k + 1)).length ≤ 400 := by rw [List.length_take]; omega
        have h6 : ((DK.lens1 D).take (k + 1)).length * 100008 ≤ 400 * 100008 := Nat.mul_le_mul_right _ h5
        show _ ≤ _
        omega
      have Hk := Lib.hid h1
      have Hk2 := Lib.hid h2
      clear hxr hx
      by_cases hm : xl.length ≤ 100000
      · have ST' : Hid (DK.wt ((DK.lens1 D).take (k + 1)) = t + (8 + xl.length)) := by show _ = _; rw [ST.out, HT.out, Nat.min_eq_left hm]
        clear ST HT
        generalize xl.length = q at *
        go_wp2_with fail
        all_goals
          go_roundw
          case rel => exact ⟨k + 1, t + (8 + q), by have := Hk.out; omega, by have := Hk2.out; omega, by have := ST'.out; have := TB.out; omega, by go_num, by go_num, ST'.out.symm, by first | rfl | trivial⟩
          case measure => have := Hk.out; simp [intOf]; omega
      · have ST' : Hid (DK.wt ((DK.lens1 D).take (k + 1)) = t + (8 + 100000)) := by show _ = _; rw [ST.out, HT.out, Nat.min_eq_right (by omega)]
        clear ST HT
        generalize xl.length = q at *
        go_wp2_with fail
        all_goals
          go_roundw
          case rel => exact ⟨k + 1, t + (8 + 100000), by have := Hk.out; omega, by have := Hk2.out; omega, by have := ST'.out; have := TB.out; omega, by go_num, by go_num, ST'.out.symm, by first | rfl | trivial⟩
          case measure => have := Hk.out; simp [intOf]; omega
    · have HT1 : Hid (t = DK.wt ((DK.lens1 D).take 400)) := by
        show _ = _
        rw [HT.out]
        by_cases h4 : k = 400
        · rw [h4]
        · have : k = n := by omega
          rw [this, List.take_of_length_le (by rw [H1.out]; exact Nat.le_refl _), List.take_of_length_le (by rw [H1.out]; omega)]
      clear HT
      by_cases hkn : k < n
      all_goals
        go_wp2_with fail
        go_loopw [3, 5] (fun s i w2 => ∃ (m T : Nat), m ≤ n' ∧ m ≤ 1200 ∧ T ≤ 160012800 ∧ i = .int .i64 m ∧ s = .int .i64 T ∧ Hid (T = t + DK.wt ((DK.lens2 D).take m)) ∧ w2 = wr) (fun _ i _ => n' - (intOf i).toNat)
        case atStart => exact ⟨0, t, by omega, by omega, by omega, rfl, rfl, (rfl : t = t + DK.wt ((DK.lens2 D).take 0)), rfl⟩
        case round =>
          obtain ⟨m, T, hm, hm4, ht2, rfl, rfl, HT2, rfl⟩ := hrel
          by_cases hlt2 : m < n' ∧ m < 1200
          · obtain ⟨h1, h2⟩ := hlt2
            obtain ⟨b, off, z, xa, xlen, xcap, xl, rfl, hbB, hx, hcell, hcell2, hxr⟩ := (Hr.out.below HB.out).wat m h1
            obtain rfl := hxr.long
            have hsm := hxr.small
            have hft := hxr.fits
            unfold maxLen at hsm
            have ST := Lib.hid (S2.out m z xl h1 hx)
            have TB : Hid (DK.wt ((DK.lens2 D).take (m + 1)) ≤ 120009600) := by
              have := DK.wt_le ((DK.lens2 D).take (m + 1))
              have h5 : ((DK.lens2 D).take (m + 1)).length ≤ 1200 := by rw [List.length_take]; omega
              have h6 : ((DK.lens2 D).take (m + 1)).length * 100008 ≤ 1200 * 100008 := Nat.mul_le_mul_right _ h5
              show _ ≤ _
              omega
            have Hk := Lib.hid h1
            have Hk2 := Lib.hid h2
            clear hxr hx
            by_cases hmn : xl.length ≤ 100000
            · have ST' : Hid (DK.wt ((DK.lens2 D).take (m + 1)) + t = T + (8 + xl.length)) := by show _ = _; rw [ST.out, HT2.out, Nat.min_eq_left hmn]; omega
              clear ST HT2
              generalize xl.length = q at *
              go_wp2_with fail
              all_goals
                go_roundw
                case rel => exact ⟨m + 1, T + (8 + q), by have := Hk.out; omega, by have := Hk2.out; omega, by have := ST'.out; have := TB.out; omega, by go_num, by go_num, (by have := ST'.out; omega : T + (8 + q) = t + DK.wt ((DK.lens2 D).take (m + 1))), by first | rfl | trivial⟩
                case measure => have := Hk.out; simp [intOf]; omega
            · have ST' : Hid (DK.wt ((DK.lens2 D).take (m + 1)) + t = T + (8 + 100000)) := by show _ = _; rw [ST.out, HT2.out, Nat.min_eq_right (by omega)]; omega
              clear ST HT2
              generalize xl.length = q at *
              go_wp2_with fail
              all_goals
                go_roundw
                case rel => exact ⟨m + 1, T + (8 + 100000), by have := Hk.out; omega, by have := Hk2.out; omega, by have := ST'.out; have := TB.out; omega, by go_num, by go_num, (by have := ST'.out; omega : T + (8 + 100000) = t + DK.wt ((DK.lens2 D).take (m + 1))), by first | rfl | trivial⟩
                case measure => have := Hk.out; simp [intOf]; omega
          · have HT3 : Hid (T = t + DK.wt ((DK.lens2 D).take 1200)) := by
              show _ = _
              rw [HT2.out]
              by_cases h4 : m = 1200
              · rw [h4]
              · have : m = n' := by omega
                rw [this, List.take_of_length_le (by rw [H2.out]; exact Nat.le_refl _), List.take_of_length_le (by rw [H2.out]; omega)]
            have HGR : Hid (DK.great D = (decide (300 < n) || (decide (1100 < n') || decide (60000 < T)))) := by
              show _ = _
              unfold DK.great DK.weight
              rw [HT3.out, ← HT1.out, ← Hn.out.1, ← Hn.out.2]
            clear HT2
            by_cases hmn : m < n'
            all_goals
              by_cases g1 : n > 300
              · go_wp2_with fail
                go_ret
                exact ⟨by rw [HGR.out, decide_eq_true g1]; simp [*], HB.out⟩
              · by_cases g2 : n' > 1100
                · first
                  | (exfalso; omega)
                  | (go_wp2_with fail
                     go_ret
                     exact ⟨by rw [HGR.out, decide_eq_false g1, decide_eq_true g2]; simp [*], HB.out⟩)
                · first
                  | (exfalso; omega)
                  | (by_cases g3 : T > 60000
                     · go_wp2_with fail
                       go_ret
                       exact ⟨by rw [HGR.out, decide_eq_false g1, decide_eq_false g2, decide_eq_true g3]; first | (simp [*]; done) | (simp [*]; omega), HB.out⟩
                     · go_wp2_with fail
                       go_ret
                       exact ⟨by rw [HGR.out, decide_eq_false g1, decide_eq_false g2, decide_eq_false g3]; first | (simp [*]; done) | (simp [*]; omega), HB.out⟩)
end Go.Proofs.Ytnhfkfihlkbkfaa.PW
