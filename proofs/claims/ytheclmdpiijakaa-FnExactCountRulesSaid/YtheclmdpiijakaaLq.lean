/-
  Rows of lines compared, and the lines of a rule counted.
-/
import Derived.Test.YtheclmdpiijakaaLn
namespace Go.Proofs.Ytheclmdpiijakaa
open Go.RowKit

set_option maxHeartbeats 4000000 in
theorem eqInts_any (xs : List Int) (hx : xs.length ≤ 1048576) (h1 h2 : Nat) (w : World) (B1 : Blk w h1 (icells xs xs.length) 3) (B2 : Blk w h2 (icells xs xs.length) 3) :
    Calls Try.prog 70 #[.slice (some ⟨h1, 0, none⟩) xs.length xs.length, .slice (some ⟨h2, 0, none⟩) xs.length xs.length] w fun e w' => e = .returned (.bool true) ∧ Below w.heap.size w w' := by
  have H1 := Lib.hid B1
  have H2 := Lib.hid B2
  clear B1 B2
  go_enter Try.func70, Try.ntmps70
  go_wp2_with fail
  go_loopw [5] (fun v5 wr => ∃ m : Nat, m ≤ xs.length ∧ v5 = .int .i64 m ∧ Hid (Below w.heap.size w wr)) (fun v5 _ => xs.length - (intOf v5).toNat)
  case atStart => exact ⟨0, Nat.zero_le _, rfl, Below.refl _ _⟩
  case round =>
    obtain ⟨m, hm, rfl, HW⟩ := hrel
    by_cases hlt : m < xs.length
    · have hc := (H1.out.kept HW.out).cell m
      have hc2 := (H2.out.kept HW.out).cell m
      rw [icells_all, List.getElem?_eq_getElem hlt, Option.map_some] at hc hc2
      have h0 : (0 : Int) ≤ (m : Int) := by omega
      have h1' : (m : Int) < (xs.length : Int) := by omega
      generalize xs[m] = X at *
      go_wp2_with fail
      go_quiet (fail)
      have HW2 := Lib.hid (bdrewN HW.out nq)
      clear hc hc2
      go_wp2_with fail
      go_roundw
      case rel => exact ⟨m + 1, hlt, by go_num, HW2⟩
      case measure => simp [intOf]; omega
    · have h1' : ¬ (m : Int) < (xs.length : Int) := by omega
      go_wp2_with fail
      go_ret
      exact ⟨rfl, HW.out⟩

set_option maxRecDepth 100000 in
set_option maxHeartbeats 4000000 in
theorem eqLine_any (l : Ln) (hx : l.rf.length ≤ 1048576) (h1 h2 : Nat) (w : World) (B1 : Blk w h1 (icells l.rf l.rf.length) 3) (B2 : Blk w h2 (icells l.rf l.rf.length) 3) :
    Calls Try.prog 44 #[.agg #[.string l.ru, .string l.pr, .string l.pp, .string l.qq, .string l.po, .slice (some ⟨h1, 0, none⟩) l.rf.length l.rf.length], .agg #[.string l.ru, .string l.pr, .string l.pp, .string l.qq, .string l.po, .slice (some ⟨h2, 0, none⟩) l.rf.length l.rf.length]] w fun e w' => e = .returned (.bool true) ∧ Below w.heap.size w w' := by
  obtain ⟨k0, k1, kb, kz⟩ := two_blk w #[.string l.ru, .string l.pr, .string l.pp, .string l.qq, .string l.po, .slice (some ⟨h1, 0, none⟩) l.rf.length l.rf.length] #[.string l.ru, .string l.pr, .string l.pp, .string l.qq, .string l.po, .slice (some ⟨h2, 0, none⟩) l.rf.length l.rf.length] 74 74
  have C := Lib.hid (eqInts_any l.rf hx h1 h2 _ (B1.kept kb) (B2.kept kb))
  have HB := Lib.hid kb
  clear k0 k1 kz B1 B2 kb
  generalize l.rf = xs at *
  generalize l.ru = s0 at *
  generalize l.pr = s1 at *
  generalize l.pp = s2 at *
  generalize l.qq = s3 at *
  generalize l.po = s4 at *
  go_enter Try.func44, Try.ntmps44
  go_wp2_with fail
  refine C.out.mono ?_
  rintro e w1 ⟨rfl, hb⟩
  have HB1 := Lib.hid (bnext HB.out hb)
  clear hb
  go_wp2_with fail
  go_ret
  exact ⟨rfl, HB1.out⟩

theorem lcs_cells {w : World} {g i h : Nat} {l : Ln} (H : w.rangeAt g (i * 6) (lcs l h)) : w.cell? ⟨g, i * 6, none⟩ = some (.string l.ru) ∧ w.cell? ⟨g, i * 6 + 1, none⟩ = some (.string l.pr) ∧ w.cell? ⟨g, i * 6 + 2, none⟩ = some (.string l.pp) ∧ w.cell? ⟨g, i * 6 + 3, none⟩ = some (.string l.qq) ∧ w.cell? ⟨g, i * 6 + 4, none⟩ = some (.string l.po) ∧ w.cell? ⟨g, i * 6 + 5, none⟩ = some (.slice (some ⟨h, 0, none⟩) l.rf.length l.rf.length) :=
  ⟨H 0 _ rfl, H 1 _ rfl, H 2 _ rfl, H 3 _ rfl, H 4 _ rfl, H 5 _ rfl⟩

/-- How many of the first k lines have a rule. -/
def cntL (r : ByteArray) (ls : List Ln) : Nat → Nat
  | 0 => 0
  | k + 1 => cntL r ls k + (match ls[k]? with | some l => if l.ru.toList == r.toList then 1 else 0 | none => 0)
theorem cntL_le (r : ByteArray) (ls : List Ln) (k : Nat) : cntL r ls k ≤ k := by
  induction k with
  | zero => exact Nat.le_refl _
  | succ k ih =>
    unfold cntL
    split
    · split <;> omega
    · omega

set_option maxRecDepth 100000 in
set_option maxHeartbeats 4000000 in
theorem specCount_any (ls : List Ln) (r : ByteArray) (g : Nat) (w : World) (hn : ls.length ≤ 1048576) (h : LnM w g ls ls.length) :
    Calls Try.prog 18 #[.slice (some ⟨g, 0, none⟩) ls.length ls.length, .string r] w fun e w' => e = .returned (.int .i64 (cntL r ls ls.length : Nat)) ∧ w = w' := by
  have H := Lib.hid h
  clear h
  go_enter Try.func18, Try.ntmps18
  go_wp2_with fail
  go_loopw [5, 6] (fun nv iv wr => ∃ k : Nat, k ≤ ls.length ∧ iv = .int .i64 k ∧ nv = .int .i64 (cntL r ls k : Nat) ∧ wr = w) (fun _ iv _ => ls.length - (intOf iv).toNat)
  case atStart => exact ⟨0, by omega, rfl, rfl, rfl⟩
  case round =>
    obtain ⟨k, hk, rfl, rfl, rfl⟩ := hrel
    by_cases hlt : k < ls.length
    · obtain ⟨b, _, hr, _⟩ := H.out k ls[k] hlt (List.getElem?_eq_getElem hlt)
      obtain ⟨c0, _, _, _, _, _⟩ := lcs_cells hr
      have hk0 : (0 : Int) ≤ (k : Int) := by omega
      have hk1 : (k : Int) < (ls.length : Int) := by omega
      have hle := cntL_le r ls k
      have hup : cntL r ls (k + 1) = cntL r ls k + (if ls[k].ru.toList == r.toList then 1 else 0) := by
        rw [cntL, List.getElem?_eq_getElem hlt]
      have hup := Lib.hid hup
      generalize ls[k] = l at *
      generalize cntL r ls k = c at *
      have ew : IntKind.i64.wrap ((c : Int) + 1) = ((c + 1 : Nat) : Int) := (IntWalk.i64_in _ (by omega)).trans (by omega)
      clear hr
      cases hq : (l.ru.toList == r.toList)
      · rw [hq] at hup
        go_wp2_with fail
        exact ⟨⟨k + 1, by omega, by go_num, by rw [hup.out]; rfl, trivial⟩, by simp [intOf]; omega⟩
      · rw [hq] at hup
        go_wp2_with fail
        exact ⟨⟨k + 1, by omega, by go_num, by rw [hup.out]; rfl, trivial⟩, by simp [intOf]; omega⟩
    · have hk2 : k = ls.length := by omega
      subst hk2
      have hk3 : ¬ (ls.length : Int) < (ls.length : Int) := by omega
      go_wp2_with fail
      go_ret
      exact ⟨rfl, rfl⟩

set_option maxRecDepth 100000 in
set_option maxHeartbeats 8000000 in
theorem eqLines_any (ls : List Ln) (g1 g2 : Nat) (w : World) (hn : ls.length ≤ 1048576) (hx : ∀ l ∈ ls, l.rf.length ≤ 1048576) (h1 : LnM w g1 ls ls.length) (h2 : LnM w g2 ls ls.length) :
    Calls Try.prog 21 #[.slice (some ⟨g1, 0, none⟩) ls.length ls.length, .slice (some ⟨g2, 0, none⟩) ls.length ls.length] w fun e w' => e = .returned (.bool true) ∧ Below w.heap.size w w' := by
  have H1 := Lib.hid h1
  have H2 := Lib.hid h2
  have HX := Lib.hid hx
  clear h1 h2 hx
  go_enter Try.func21, Try.ntmps21
  go_wp2_with fail
  go_loopw [5] (fun v5 wr => ∃ k : Nat, k ≤ ls.length ∧ v5 = .int .i64 k ∧ Hid (Below w.heap.size w wr)) (fun v5 _ => ls.length - (intOf v5).toNat)
  case atStart => exact ⟨0, Nat.zero_le _, rfl, Below.refl _ _⟩
  case round =>
    obtain ⟨k, hk, rfl, HW⟩ := hrel
    by_cases hlt : k < ls.length
    · obtain ⟨b1, _, hr1, B1⟩ := (H1.out.kept HW.out) k ls[k] hlt (List.getElem?_eq_getElem hlt)
      obtain ⟨b2, _, hr2, B2⟩ := (H2.out.kept HW.out) k ls[k] hlt (List.getElem?_eq_getElem hlt)
      obtain ⟨c0, c1, c2, c3, c4, c5⟩ := lcs_cells hr1
      obtain ⟨d0, d1, d2, d3, d4, d5⟩ := lcs_cells hr2
      have hk0 : (0 : Int) ≤ (k : Int) := by omega
      have hk1 : (k : Int) < (ls.length : Int) := by omega
      have D := fun w' hb => Lib.hid (eqLine_any ls[k] (HX.out _ (List.getElem_mem hlt)) b1 b2 w' (B1.kept hb) (B2.kept hb))
      clear hr1 hr2 B1 B2
      generalize ls[k] = l at *
      generalize l.rf = xs at *
      generalize l.ru = s0 at *
      generalize l.pr = s1 at *
      generalize l.pp = s2 at *
      generalize l.qq = s3 at *
      generalize l.po = s4 at *
      go_wp2_with fail
      have RG : ∀ w', Below wr.heap.size wr w' → Below wr.heap.size wr w' ∧ w'.cell? ⟨g1, k * 6, none⟩ = some (.string s0) ∧ w'.cell? ⟨g1, k * 6 + 1, none⟩ = some (.string s1) ∧ w'.cell? ⟨g1, k * 6 + 2, none⟩ = some (.string s2) ∧ w'.cell? ⟨g1, k * 6 + 3, none⟩ = some (.string s3) ∧ w'.cell? ⟨g1, k * 6 + 4, none⟩ = some (.string s4) ∧ w'.cell? ⟨g1, k * 6 + 5, none⟩ = some (.slice (some ⟨b1, 0, none⟩) xs.length xs.length) ∧ w'.cell? ⟨g2, k * 6, none⟩ = some (.string s0) ∧ w'.cell? ⟨g2, k * 6 + 1, none⟩ = some (.string s1) ∧ w'.cell? ⟨g2, k * 6 + 2, none⟩ = some (.string s2) ∧ w'.cell? ⟨g2, k * 6 + 3, none⟩ = some (.string s3) ∧ w'.cell? ⟨g2, k * 6 + 4, none⟩ = some (.string s4) ∧ w'.cell? ⟨g2, k * 6 + 5, none⟩ = some (.slice (some ⟨b2, 0, none⟩) xs.length xs.length) := fun w' h => ⟨h, ckeep h c0, ckeep h c1, ckeep h c2, ckeep h c3, ckeep h c4, ckeep h c5, ckeep h d0, ckeep h d1, ckeep h d2, ckeep h d3, ckeep h d4, ckeep h d5⟩
      have RG' := Lib.hid RG
      have hbb := (Below.refl wr.heap.size wr).drew
      clear RG c0 c1 c2 c3 c4 c5 d0 d1 d2 d3 d4 d5
      go_region_held3 (fun w' => Below wr.heap.size wr w' ∧ w'.cell? ⟨g1, k * 6, none⟩ = some (.string s0) ∧ w'.cell? ⟨g1, k * 6 + 1, none⟩ = some (.string s1) ∧ w'.cell? ⟨g1, k * 6 + 2, none⟩ = some (.string s2) ∧ w'.cell? ⟨g1, k * 6 + 3, none⟩ = some (.string s3) ∧ w'.cell? ⟨g1, k * 6 + 4, none⟩ = some (.string s4) ∧ w'.cell? ⟨g1, k * 6 + 5, none⟩ = some (.slice (some ⟨b1, 0, none⟩) xs.length xs.length) ∧ w'.cell? ⟨g2, k * 6, none⟩ = some (.string s0) ∧ w'.cell? ⟨g2, k * 6 + 1, none⟩ = some (.string s1) ∧ w'.cell? ⟨g2, k * 6 + 2, none⟩ = some (.string s2) ∧ w'.cell? ⟨g2, k * 6 + 3, none⟩ = some (.string s3) ∧ w'.cell? ⟨g2, k * 6 + 4, none⟩ = some (.string s4) ∧ w'.cell? ⟨g2, k * 6 + 5, none⟩ = some (.slice (some ⟨b2, 0, none⟩) xs.length xs.length)) ((first | assumption | exact RG'.out _ (by assumption) | (go_split_ands; exact RG'.out _ (by assumption)) | (go_split_ands; exact RG'.out _ (bnext (by assumption) hq)))) (first | ((with_reducible refine (D _ (by first | assumption | (go_split_ands; assumption))).out.mono ?_); rintro e w5 ⟨rfl, hq⟩))
      all_goals
        go_split_ands
        rename_i hbw _ _ _ _ _ _ _ _ _ _ _ _
        have HW2 := Lib.hid (bnext HW.out hbw)
        clear hbb hbw RG'
        go_wp2_with fail
        exact ⟨⟨k + 1, by omega, by go_num, HW2⟩, by simp [intOf]; omega⟩
    · have hk2 : k = ls.length := by omega
      subst hk2
      have hk3 : ¬ (ls.length : Int) < (ls.length : Int) := by omega
      go_wp2_with fail
      go_ret
      exact ⟨rfl, HW.out⟩

set_option maxRecDepth 100000 in
set_option maxHeartbeats 8000000 in
theorem implCount_any (ls : List Ln) (r : ByteArray) (g : Nat) (w : World) (hn : ls.length ≤ 1048576) (h : LnM w g ls ls.length) :
    Calls Try.prog 20 #[.slice (some ⟨g, 0, none⟩) ls.length ls.length, .string r] w fun e w' => e = .returned (.int .i64 (cntL r ls ls.length : Nat)) ∧ Below w.heap.size w w' := by
  have H := Lib.hid h
  clear h
  go_enter Try.func20, Try.ntmps20
  go_wp2_with fail
  go_loopw [5, 7, 10] (fun nv _ iv wr => ∃ k : Nat, k ≤ ls.length ∧ iv = .int .i64 k ∧ nv = .int .i64 (cntL r ls k : Nat) ∧ Hid (Below w.heap.size w wr)) (fun _ _ iv _ => ls.length - (intOf iv).toNat)
  case atStart => exact ⟨0, by omega, rfl, rfl, Below.refl _ _⟩
  case round =>
    obtain ⟨k, hk, rfl, rfl, HW⟩ := hrel
    by_cases hlt : k < ls.length
    · obtain ⟨b, _, hr, _⟩ := (H.out.kept HW.out) k ls[k] hlt (List.getElem?_eq_getElem hlt)
      obtain ⟨c0, c1, c2, c3, c4, c5⟩ := lcs_cells hr
      have hk0 : (0 : Int) ≤ (k : Int) := by omega
      have hk1 : (k : Int) < (ls.length : Int) := by omega
      have hle := cntL_le r ls k
      have hup : cntL r ls (k + 1) = cntL r ls k + (if ls[k].ru.toList == r.toList then 1 else 0) := by
        rw [cntL, List.getElem?_eq_getElem hlt]
      have hup := Lib.hid hup
      generalize ls[k] = l at *
      generalize cntL r ls k = c at *
      have ew : IntKind.i64.wrap ((c : Int) + 1) = ((c + 1 : Nat) : Int) := (IntWalk.i64_in _ (by omega)).trans (by omega)
      clear hr
      generalize l.rf.length = xn at *
      have HB := Lib.hid (HW.out.alloc HW.out.size (.cells #[.string l.ru, .string l.pr, .string l.pp, .string l.qq, .string l.po, .slice (some ⟨b, 0, none⟩) xn xn] 74))
      cases hq : (l.ru.toList == r.toList)
      · rw [hq] at hup
        go_wp2_with fail
        exact ⟨⟨k + 1, by omega, by go_num, by rw [hup.out]; rfl, HB⟩, by simp [intOf]; omega⟩
      · rw [hq] at hup
        go_wp2_with fail
        exact ⟨⟨k + 1, by omega, by go_num, by rw [hup.out]; rfl, HB⟩, by simp [intOf]; omega⟩
    · have hk2 : k = ls.length := by omega
      subst hk2
      have hk3 : ¬ (ls.length : Int) < (ls.length : Int) := by omega
      go_wp2_with fail
      go_ret
      exact ⟨rfl, HW.out⟩
end Go.Proofs.Ytheclmdpiijakaa
