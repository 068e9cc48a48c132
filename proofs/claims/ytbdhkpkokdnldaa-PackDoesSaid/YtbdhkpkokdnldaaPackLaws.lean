/-
  The walks of layer 2's laws that ask no other answer than the program's own: each returns true, and nothing that was there is written.
-/
import Derived.Test.YtbdhkpkokdnldaaPackWalks
import Derived.Deep.QuietTactic
import Derived.BigQuiet
namespace Go.Proofs.Ytbdhkpkokdnldaa.PW
open Go.RowKit
set_option linter.unusedVariables false

theorem pk_128 (l : List Nat) (a n k : Nat) (h : l.length = 128) : (PK.pk l a n k).length = 128 := by rw [PK.pk_length, h]

/-- The four ways of a call. -/
theorem ways (l : List Nat) (p s n : Int) : (l.length ≠ 0 ∧ l.length ≠ 128) ∨ ((l.length = 0 ∨ l.length = 128) ∧ (s < 1 ∨ 4 < s ∨ p < 0 ∨ 128 - s < p)) ∨
    (∃ s' : Nat, s = s' ∧ May l p s ∧ (n < 0 ∨ (256 : Int) ^ s' ≤ n)) ∨ ∃ p' s' n' : Nat, p = p' ∧ s = s' ∧ n = n' ∧ May l p s ∧ n' < 256 ^ s' := by
  by_cases h0 : l.length = 0 ∨ l.length = 128
  · by_cases h1 : s < 1 ∨ 4 < s ∨ p < 0 ∨ 128 - s < p
    · exact .inr (.inl ⟨h0, h1⟩)
    · have hm : May l p s := ⟨h0, by omega, by omega, by omega, by omega⟩
      obtain ⟨s', rfl⟩ := Int.eq_ofNat_of_zero_le (show 0 ≤ s by omega)
      obtain ⟨p', rfl⟩ := Int.eq_ofNat_of_zero_le (show 0 ≤ p by omega)
      by_cases h2 : n < 0 ∨ (256 : Int) ^ s' ≤ n
      · exact .inr (.inr (.inl ⟨s', rfl, hm, h2⟩))
      · obtain ⟨n', rfl⟩ := Int.eq_ofNat_of_zero_le (show 0 ≤ n by omega)
        refine .inr (.inr (.inr ⟨p', s', n', rfl, rfl, rfl, hm, ?_⟩))
        apply Int.ofNat_lt.1
        rw [Int.natCast_pow]
        have : ¬ (256 : Int) ^ s' ≤ n' := fun h => h2 (.inr h)
        exact Int.lt_of_not_ge this
  · exact .inl ⟨fun h => h0 (.inl h), fun h => h0 (.inr h)⟩

/-- A call of Put that is refused. -/
theorem put_no (a : Option Addr) (len cap : Nat) (l : List Nat) (p s n : Int) (h : ¬ ∃ p' s' n' : Nat, p = p' ∧ s = s' ∧ n = n' ∧ May l p s ∧ n' < 256 ^ s') :
    ∃ c : Int, (c = 2 ∨ c = 3) ∧ ∀ w : World, Rd w.heap.size w a len cap l → Calls Try.prog 9 #[.slice a len cap, .int .i64 p, .int .i64 s, .int .i64 n] w fun e w' => e = .returned (.tuple #[.slice none 0 0, .int .i64 c]) ∧ w = w' := by
  rcases ways l p s n with h1 | h1 | h1 | h1
  · exact ⟨3, .inr rfl, fun w hr => put_text a len cap l p s n w hr h1.1 h1.2⟩
  · exact ⟨2, .inl rfl, fun w hr => put_place a len cap l p s n w hr h1.1 h1.2⟩
  · obtain ⟨s', rfl, hm, hn⟩ := h1
    exact ⟨2, .inl rfl, fun w hr => put_num a len cap l p s' n w hr hm hn⟩
  · exact absurd h1 h

theorem alive_any (w : World) :
    Calls Try.prog 11 #[] w fun e w' => e = .returned (.bool true) ∧ Below w.heap.size w w' := by
  have hp : Calls Try.prog 9 #[.slice none 0 0, .int .i64 1, .int .i64 2, .int .i64 258] w (NewBlk w (PK.pk (PK.wh []) 1 258 2)) := put_ok none 0 0 [] 1 2 258 w (rd_nil _ _) ⟨.inl rfl, by decide, by decide, by decide, by decide⟩ (by decide)
  have hwl : (PK.wh []).length = 128 := PK.wh_length (by decide)
  have hml := pk_128 (PK.wh []) 1 258 2 hwl
  have hmb : Bytes (PK.pk (PK.wh []) 1 258 2) := PK.pk_bytes (PK.wh_bytes (fun x hx => by simp at hx)) _ _ _
  have htv : PK.tv (PK.pk (PK.wh []) 1 258 2) 1 2 = 258 := by rw [PK.tv_pk _ _ _ _ (by omega)]
  have htk : str ((PK.pk (PK.wh []) 1 258 2).take 4) = ⟨#[0, 2, 1, 0]⟩ := by decide +kernel
  have HP := Lib.hid hp
  have Hml := Lib.hid hml
  have Hmb := Lib.hid hmb
  have Htv := Lib.hid htv
  have Htk := Lib.hid htk
  clear hp hwl hml hmb htv htk
  generalize PK.pk (PK.wh []) 1 258 2 = m at *
  go_enter Try.func11, Try.ntmps11
  go_wp2_with fail
  refine HP.out.mono ?_
  rintro e w1 ⟨g, rfl, hg, hblk, hb1⟩
  have hr := hblk.rd Hml.out Hmb.out
  have ht : Calls Try.prog 10 #[.slice (some ⟨g, 0, none⟩) 128 128, .int .i64 1, .int .i64 2] w1 fun e w' => e = .returned (.tuple #[.int .i64 258, .int .i64 0]) ∧ Below w1.heap.size w1 w' := by
    have := take_ok _ _ _ m 1 2 w1 hr ⟨.inr Hml.out, by decide, by decide, by decide, by decide⟩
    rw [PK.wh_full Hml.out, Htv.out] at this
    exact this
  have HT := Lib.hid ht
  clear ht
  go_wp2_with fail
  refine HT.out.mono ?_
  rintro e w2 ⟨rfl, hb2⟩
  have hs := text_is w2 _ _ _ _ ((hr.below hb2).take 4 (by omega))
  rw [Htk.out] at hs
  go_wp2
  go_ret
  exact ⟨rfl, thence hb1 hb2 (Nat.le_refl _)⟩

theorem names_walk (w : World) :
    Calls Try.prog 3 #[] w fun e w' => e = .returned (.bool true) ∧ Below w.heap.size w w' := by
  have h1 : ∀ w, Calls Try.prog 9 #[.slice none 0 0, .int .i64 0, .int .i64 1, .int .i64 256] w fun e w' => e = .returned (.tuple #[.slice none 0 0, .int .i64 2]) ∧ w = w' := fun w =>
    put_num none 0 0 [] 0 1 256 w (rd_nil _ _) ⟨.inl rfl, by decide, by decide, by decide, by decide⟩ (.inr (by decide))
  have h2 : ∀ w, Calls Try.prog 9 #[.slice none 0 0, .int .i64 127, .int .i64 2, .int .i64 0] w fun e w' => e = .returned (.tuple #[.slice none 0 0, .int .i64 2]) ∧ w = w' := fun w =>
    put_place none 0 0 [] 127 2 0 w (rd_nil _ _) (.inl rfl) (by omega)
  have h3 : ∀ w, Calls Try.prog 9 #[.slice none 0 0, .int .i64 0, .int .i64 5, .int .i64 0] w fun e w' => e = .returned (.tuple #[.slice none 0 0, .int .i64 2]) ∧ w = w' := fun w =>
    put_place none 0 0 [] 0 5 0 w (rd_nil _ _) (.inl rfl) (by omega)
  have h4 : ∀ w, Calls Try.prog 9 #[.slice none 0 0, .int .i64 (-1), .int .i64 1, .int .i64 0] w fun e w' => e = .returned (.tuple #[.slice none 0 0, .int .i64 2]) ∧ w = w' := fun w =>
    put_place none 0 0 [] (-1) 1 0 w (rd_nil _ _) (.inl rfl) (by omega)
  have h5 : ∀ (w : World) (fr : Nat × Nat), Calls Try.prog 9 #[.slice (some ⟨w.heap.size, 0, none⟩) 1 1, .int .i64 0, .int .i64 1, .int .i64 0] (w.alloc (.cells #[.int .u8 0] 5 fr)) fun e w' => e = .returned (.tuple #[.slice none 0 0, .int .i64 3]) ∧ (w.alloc (.cells #[.int .u8 0] 5 fr)) = w' := fun w fr =>
    put_text _ 1 1 [0] 0 1 0 _ (rd_lit w [0] _ 1 1 fr rfl rfl rfl (by unfold Bytes; decide) (by unfold maxLen; decide)) (by decide) (by decide)
  have h6 : ∀ w, Calls Try.prog 10 #[.slice none 0 0, .int .i64 5, .int .i64 4] w fun e w' => e = .returned (.tuple #[.int .i64 0, .int .i64 0]) ∧ Below w.heap.size w w' := fun w =>
    take_ok none 0 0 [] 5 4 w (rd_nil _ _) ⟨.inl rfl, by decide, by decide, by decide, by decide⟩
  have H1 := Lib.hid h1
  have H2 := Lib.hid h2
  have H3 := Lib.hid h3
  have H4 := Lib.hid h4
  have H5 := Lib.hid h5
  have H6 := Lib.hid h6
  clear h1 h2 h3 h4 h5 h6
  go_enter Try.func3, Try.ntmps3
  go_wp2_with fail
  refine (H1.out _).mono ?_
  rintro e w1 ⟨rfl, rfl⟩
  go_wp2_with fail
  refine (H2.out _).mono ?_
  rintro e w1 ⟨rfl, rfl⟩
  go_wp2_with fail
  refine (H3.out _).mono ?_
  rintro e w1 ⟨rfl, rfl⟩
  go_wp2_with fail
  refine (H4.out _).mono ?_
  rintro e w1 ⟨rfl, rfl⟩
  go_wp2_with fail
  refine (H5.out _ _).mono ?_
  rintro e w1 ⟨rfl, rfl⟩
  go_wp2_with fail
  refine (H6.out _).mono ?_
  rintro e w2 ⟨rfl, hb2⟩
  go_wp2_with fail
  refine (alive_any _).mono ?_
  rintro e w3 ⟨rfl, hb3⟩
  go_wp2
  go_ret
  exact ⟨rfl, thence (thence ((Below.refl _ w).alloc (Nat.le_refl _) _) hb2 (by simp)) hb3 (Nat.le_refl _)⟩

theorem at_any (a : Option Addr) (len cap : Nat) (l : List Nat) (i : Nat) (w : World) {B : Nat} (hr : Rd B w a len cap l) :
    Calls Try.prog 14 #[.slice a len cap, .int .i64 i] w fun e w' => e = .returned (.int .u8 (l.getD i 0 : Nat)) ∧ w = w' := by
  obtain ⟨rfl, hf, hm, hby, hn, hc⟩ := hr
  unfold maxLen at hm
  by_cases hi : i < l.length
  · obtain ⟨b, off, rfl, hB, hcc⟩ := hc (by intro e; subst e; simp at hi)
    have h1 := hcc i hi
    generalize l.getD i 0 = x at *
    have hd : decide (l.length ≤ i) = false := by simp; omega
    clear hcc hc hn
    go_enter Try.func14, Try.ntmps14
    go_wp2
    go_ret
    exact ⟨rfl, rfl⟩
  · have h1 : l.getD i 0 = 0 := by simp [List.getD, List.getElem?_eq_none (show l.length ≤ i by omega)]
    have H1 := Lib.hid h1
    clear h1 hc hn
    go_enter Try.func14, Try.ntmps14
    go_wp2
    go_ret
    exact ⟨by rw [H1.out]; rfl, rfl⟩

end Go.Proofs.Ytbdhkpkokdnldaa.PW
