/-
  Lines of derivations in memory: a row of structs, each of five texts and a row of numbers; how their sizes are taken.
-/
import Derived.Test.YtheclmdpiijakaaTopB
import Derived.Test.YtheclmdpiijakaaRow
import Derived.Test.YtheclmdpiijakaaTopG
import Derived.Deep.Slices
import Derived.Laws.MakeOwn
import Derived.Deep.MidRow
import Derived.Deep.Upon
import Derived.Lib.LazyBuf
import Derived.Deep.RegionHeld3
import Derived.BigQuiet
import Derived.Deep.QuietTactic
namespace Go.Proofs.Ytheclmdpiijakaa
open Go.RowKit

structure Ln where
  ru : ByteArray
  pr : ByteArray
  pp : ByteArray
  qq : ByteArray
  po : ByteArray
  rf : List Int

/-- A row of numbers, as it came in or as it was made. -/
def IntR (w : World) (v : Value) (xs : List Int) : Prop := (v = .slice none 0 0 ∧ xs = []) ∨ ∃ (a : Addr) (cap : Nat), v = .slice (some a) xs.length cap ∧ ∀ i x, xs[i]? = some x → w.cell? (a.add i) = some (.int .i64 x)
theorem IntR.form {w : World} {v : Value} {xs : List Int} (h : IntR w v xs) : ∃ a cap, v = .slice a xs.length cap := by
  rcases h with ⟨rfl, rfl⟩ | ⟨a, cap, rfl, _⟩
  · exact ⟨none, 0, rfl⟩
  · exact ⟨_, _, rfl⟩
theorem cell_kept {w w' : World} {p : Addr} {v : Value} (hb : Below w.heap.size w w') (h : w.cell? p = some v) : w'.cell? p = some v := (hb.cell (World.block_lt_of_cell? w _ h)).trans h
theorem IntR.kept {w w' : World} {v : Value} {xs : List Int} (h : IntR w v xs) (hb : Below w.heap.size w w') : IntR w' v xs := by
  rcases h with h | ⟨a, cap, rfl, hc⟩
  · exact .inl h
  · exact .inr ⟨a, cap, rfl, fun i x hx => cell_kept hb (hc i x hx)⟩

/-- The cells of a line, its row of numbers among them. -/
def LnP (w : World) (p : Addr) (l : Ln) (rv : Value) : Prop :=
  w.cell? p = some (.string l.ru) ∧ w.cell? ⟨p.block, p.off + 1, none⟩ = some (.string l.pr) ∧ w.cell? ⟨p.block, p.off + 2, none⟩ = some (.string l.pp) ∧ w.cell? ⟨p.block, p.off + 3, none⟩ = some (.string l.qq) ∧ w.cell? ⟨p.block, p.off + 4, none⟩ = some (.string l.po) ∧ w.cell? ⟨p.block, p.off + 5, none⟩ = some rv
def LnC (w : World) (a : Addr) (i : Nat) (l : Ln) (rv : Value) : Prop := LnP w (a.add (i * 6)) l rv
def LnAg (l : Ln) (rv : Value) : Value := .agg #[.string l.ru, .string l.pr, .string l.pp, .string l.qq, .string l.po, rv]
def LnR (w : World) (v : Value) (ls : List Ln) : Prop := (v = .slice none 0 0 ∧ ls = []) ∨ ∃ (a : Addr) (cap : Nat), v = .slice (some a) ls.length cap ∧ ∀ i l, ls[i]? = some l → ∃ rv, LnC w a i l rv ∧ IntR w rv l.rf
theorem LnC.kept {w w' : World} {a : Addr} {i : Nat} {l : Ln} {rv : Value} (h : LnC w a i l rv) (hb : Below w.heap.size w w') : LnC w' a i l rv := by
  obtain ⟨h0, h1, h2, h3, h4, h5⟩ := h
  exact ⟨cell_kept hb h0, cell_kept hb h1, cell_kept hb h2, cell_kept hb h3, cell_kept hb h4, cell_kept hb h5⟩
theorem LnR.kept {w w' : World} {v : Value} {ls : List Ln} (h : LnR w v ls) (hb : Below w.heap.size w w') : LnR w' v ls := by
  rcases h with h | ⟨a, cap, rfl, hc⟩
  · exact .inl h
  · exact .inr ⟨a, cap, rfl, fun i l hl => by obtain ⟨rv, h1, h2⟩ := hc i l hl; exact ⟨rv, h1.kept hb, h2.kept hb⟩⟩
/-- Texts as they come in. -/
def Fits (l : Ln) : Prop := l.ru.size ≤ maxLen ∧ l.pr.size ≤ maxLen ∧ l.pp.size ≤ maxLen ∧ l.qq.size ≤ maxLen ∧ l.po.size ≤ maxLen ∧ l.rf.length ≤ maxLen

set_option maxHeartbeats 2000000 in
theorem szInt_any (v : Value) (xs : List Int) (n : Int) (w : World) (h : IntR w v xs) (hx : xs.length ≤ maxLen) (h0 : 0 ≤ n) (h1 : n ≤ 1048576) :
    Calls Try.prog 68 #[v, .int .i64 n] w fun e w' => ∃ r : Int, e = .returned (.int .i64 r) ∧ -1 ≤ r ∧ r ≤ n ∧ (0 ≤ r → xs.length ≤ 1048576) ∧ w = w' := by
  obtain ⟨a, cap, rfl⟩ := h.form
  have hm : maxLen ≤ 9223372036854775807 := by unfold maxLen; decide
  have e1 : IntKind.i64.wrap (n - (xs.length : Int)) = n - (xs.length : Int) := IntWalk.i64_in _ (by omega)
  clear h
  go_enter Try.func68, Try.ntmps68
  by_cases hn : n - (xs.length : Int) < 0
  · go_wp2_with fail
    go_ret
    exact ⟨-1, rfl, by omega, by omega, fun h => by omega, rfl⟩
  · go_wp2_with fail
    go_ret
    exact ⟨n - xs.length, rfl, by omega, by omega, fun h => by omega, rfl⟩

set_option maxRecDepth 100000 in
set_option maxHeartbeats 4000000 in
theorem szLine_any (l : Ln) (rv : Value) (n : Int) (w : World) (h : IntR w rv l.rf) (hf : Fits l) (h0 : 0 ≤ n) (h1 : n ≤ 1048576) :
    Calls Try.prog 42 #[LnAg l rv, .int .i64 n] w fun e w' => ∃ r : Int, e = .returned (.int .i64 r) ∧ -1 ≤ r ∧ r ≤ n ∧ (0 ≤ r → l.rf.length ≤ 1048576) ∧ Below w.heap.size w w' := by
  obtain ⟨f0, f1, f2, f3, f4, f5⟩ := hf
  have hm : maxLen ≤ 9223372036854775807 := by unfold maxLen; decide
  have hbx := (Below.refl w.heap.size w).alloc (Nat.le_refl _) (.cells #[.string l.ru, .string l.pr, .string l.pp, .string l.qq, .string l.po, rv] 73)
  have HI := Lib.hid (h.kept hbx)
  have HB := Lib.hid hbx
  have C := fun n h0 h1 => Lib.hid (szInt_any rv l.rf n _ HI.out f5 h0 h1)
  clear h hbx HI
  unfold LnAg
  generalize l.ru = s0 at *
  generalize l.pr = s1 at *
  generalize l.pp = s2 at *
  generalize l.qq = s3 at *
  generalize l.po = s4 at *
  have e0 : IntKind.i64.wrap (n - (s0.size : Int)) = n - (s0.size : Int) := IntWalk.i64_in _ (by omega)
  by_cases g0 : n - (s0.size : Int) < 0
  · clear C
    go_enter Try.func42, Try.ntmps42
    go_wp2_with fail
    go_ret
    exact ⟨-1, rfl, by omega, by omega, fun h => by omega, HB.out⟩
  · have e1 : IntKind.i64.wrap (n - (s0.size : Int) - (s1.size : Int)) = n - (s0.size : Int) - (s1.size : Int) := IntWalk.i64_in _ (by omega)
    by_cases g1 : n - (s0.size : Int) - (s1.size : Int) < 0
    · clear C
      go_enter Try.func42, Try.ntmps42
      go_wp2_with fail
      go_ret
      exact ⟨-1, rfl, by omega, by omega, fun h => by omega, HB.out⟩
    · have e2 : IntKind.i64.wrap (n - (s0.size : Int) - (s1.size : Int) - (s2.size : Int)) = n - (s0.size : Int) - (s1.size : Int) - (s2.size : Int) := IntWalk.i64_in _ (by omega)
      by_cases g2 : n - (s0.size : Int) - (s1.size : Int) - (s2.size : Int) < 0
      · clear C
        go_enter Try.func42, Try.ntmps42
        go_wp2_with fail
        go_ret
        exact ⟨-1, rfl, by omega, by omega, fun h => by omega, HB.out⟩
      · have e3 : IntKind.i64.wrap (n - (s0.size : Int) - (s1.size : Int) - (s2.size : Int) - (s3.size : Int)) = n - (s0.size : Int) - (s1.size : Int) - (s2.size : Int) - (s3.size : Int) := IntWalk.i64_in _ (by omega)
        by_cases g3 : n - (s0.size : Int) - (s1.size : Int) - (s2.size : Int) - (s3.size : Int) < 0
        · clear C
          go_enter Try.func42, Try.ntmps42
          go_wp2_with fail
          go_ret
          exact ⟨-1, rfl, by omega, by omega, fun h => by omega, HB.out⟩
        · have e4 : IntKind.i64.wrap (n - (s0.size : Int) - (s1.size : Int) - (s2.size : Int) - (s3.size : Int) - (s4.size : Int)) = n - (s0.size : Int) - (s1.size : Int) - (s2.size : Int) - (s3.size : Int) - (s4.size : Int) := IntWalk.i64_in _ (by omega)
          by_cases g4 : n - (s0.size : Int) - (s1.size : Int) - (s2.size : Int) - (s3.size : Int) - (s4.size : Int) < 0
          · clear C
            go_enter Try.func42, Try.ntmps42
            go_wp2_with fail
            go_ret
            exact ⟨-1, rfl, by omega, by omega, fun h => by omega, HB.out⟩
          · have D := C (n - (s0.size : Int) - (s1.size : Int) - (s2.size : Int) - (s3.size : Int) - (s4.size : Int)) (by omega) (by omega)
            clear C
            obtain ⟨m, hme⟩ : ∃ m : Int, n - (s0.size : Int) - (s1.size : Int) - (s2.size : Int) - (s3.size : Int) - (s4.size : Int) = m := ⟨_, rfl⟩
            have hm0 : 0 ≤ m := by omega
            have hmn : m ≤ n := by omega
            rw [hme] at D g4 e4
            go_enter Try.func42, Try.ntmps42
            go_wp2_with fail
            refine D.out.mono ?_
            rintro e w1 ⟨r, rfl, hr1, hr2, hr3, rfl⟩
            by_cases gr : r < 0
            · go_wp2_with fail
              go_ret
              exact ⟨-1, rfl, by omega, by omega, fun h => by omega, HB.out⟩
            · go_wp2_with fail
              go_ret
              exact ⟨r, rfl, by omega, by omega, hr3, HB.out⟩

set_option maxRecDepth 100000 in
set_option maxHeartbeats 4000000 in
theorem szLines_any (v : Value) (ls : List Ln) (n : Int) (w : World) (h : LnR w v ls) (hl : ls.length ≤ maxLen) (hf : ∀ l ∈ ls, Fits l) (h0 : 0 ≤ n) (h1 : n ≤ 1048576) :
    Calls Try.prog 17 #[v, .int .i64 n] w fun e w' => ∃ r : Int, e = .returned (.int .i64 r) ∧ (0 ≤ r → ls.length ≤ 1048576 ∧ ∀ l ∈ ls, l.rf.length ≤ 1048576) ∧ Below w.heap.size w w' := by
  have hm : maxLen ≤ 9223372036854775807 := by unfold maxLen; decide
  have e1 : IntKind.i64.wrap (n - (ls.length : Int)) = n - (ls.length : Int) := IntWalk.i64_in _ (by omega)
  have HF := Lib.hid hf
  have HR := Lib.hid h
  obtain ⟨a, cap, hv, HC⟩ : ∃ (a : Option Addr) (cap : Nat), v = .slice a ls.length cap ∧ Hid (∀ i l, ls[i]? = some l → ∃ b rv, a = some b ∧ LnC w b i l rv ∧ IntR w rv l.rf) := by
    rcases h with ⟨rfl, rfl⟩ | ⟨a, cap, rfl, hc⟩
    · exact ⟨none, 0, rfl, Lib.hid (fun i l hl => by simp at hl)⟩
    · exact ⟨some a, cap, rfl, Lib.hid (fun i l hl => by obtain ⟨rv, h1, h2⟩ := hc i l hl; exact ⟨a, rv, rfl, h1, h2⟩)⟩
  subst hv
  clear h hf HR
  go_enter Try.func17, Try.ntmps17
  by_cases hn : n - (ls.length : Int) < 0
  · go_wp2_with fail
    go_ret
    exact ⟨-1, rfl, fun h => by omega, Below.refl _ _⟩
  · go_wp2_with fail
    go_loopw [1, 5] (fun lv iv wr => ∃ (k : Nat) (m : Int), k ≤ ls.length ∧ iv = .int .i64 k ∧ lv = .int .i64 m ∧ 0 ≤ m ∧ m ≤ 1048576 ∧ Hid (∀ i l, i < k → ls[i]? = some l → l.rf.length ≤ 1048576) ∧ Hid (Below w.heap.size w wr)) (fun _ iv _ => ls.length - (intOf iv).toNat)
    case atStart => exact ⟨0, _, by omega, rfl, rfl, by omega, by omega, Lib.hid (fun i l hi => by omega), Lib.hid (Below.refl _ _)⟩
    case round =>
      obtain ⟨k, m, hk, rfl, rfl, hm0, hm1, HP, HB⟩ := hrel
      by_cases hlt : k < ls.length
      · obtain ⟨b, rv, rfl, hc, hr⟩ := HC.out k ls[k] (List.getElem?_eq_getElem hlt)
        obtain ⟨c0, c1, c2, c3, c4, c5⟩ := hc.kept HB.out
        have D := Lib.hid (szLine_any ls[k] rv m _ (hr.kept HB.out) (HF.out _ (List.getElem_mem hlt)) hm0 hm1)
        have HE : Hid (ls[k]? = some ls[k]) := Lib.hid (List.getElem?_eq_getElem hlt)
        have hk0 : (0 : Int) ≤ (k : Int) := by omega
        have hk1 : (k : Int) < (ls.length : Int) := by omega
        unfold LnAg at D
        clear hc hr
        generalize ls[k] = l at *
        go_wp2_with fail
        refine D.out.mono ?_
        rintro e w1 ⟨r, rfl, hr1, hr2, hr3, hb⟩
        have HB1 := Lib.hid (bnext HB.out hb)
        have HP1 : 0 ≤ r → Hid (∀ i l, i < k + 1 → ls[i]? = some l → l.rf.length ≤ 1048576) := fun h0 => Lib.hid (fun i l' hi hl' => by
          by_cases e : i = k
          · subst e
            rw [HE.out] at hl'
            cases hl'
            exact hr3 h0
          · exact HP.out i l' (by omega) hl')
        clear hb c0 c1 c2 c3 c4 c5 D hr3
        by_cases gr : r < 0
        · go_wp2_with fail
          go_ret
          exact ⟨-1, rfl, fun h => by omega, HB1.out⟩
        · have HP2 := HP1 (by omega)
          go_wp2_with fail
          exact ⟨⟨k + 1, r, by omega, by go_num, rfl, by omega, by omega, HP2, HB1⟩, by simp [intOf]; omega⟩
      · have hk2 : ls.length = k := by omega
        have hk3 : ¬ (k : Int) < (ls.length : Int) := by omega
        go_wp2_with fail
        go_ret
        refine ⟨m, rfl, fun _ => ⟨by omega, fun l hl => ?_⟩, HB.out⟩
        obtain ⟨i, hi, rfl⟩ := List.getElem_of_mem hl
        exact HP.out i _ (by omega) (List.getElem?_eq_getElem hi)

/-! ### Copies -/
def icells (xs : List Int) (k : Nat) : Array Value := ((xs.take k).map (fun x => Value.int .i64 x) ++ List.replicate (xs.length - k) (Value.int .i64 0)).toArray
theorem icells_size (xs : List Int) (k : Nat) (hk : k ≤ xs.length) : (icells xs k).size = xs.length := by unfold icells; simp; omega
theorem icells_zero (xs : List Int) : icells xs 0 = madeCells #[Value.int .i64 0] xs.length := by
  unfold icells madeCells
  apply Array.ext'
  simp only [List.take_zero, List.map_nil, List.nil_append, Nat.sub_zero, Array.toList_map, Array.toList_range]
  apply List.ext_getElem?
  intro i
  by_cases h : i < xs.length
  · simp [h, Nat.mod_one]
  · simp [h]
theorem icells_set (xs : List Int) (k : Nat) (hk : k < xs.length) : (icells xs k).setIfInBounds k (.int .i64 xs[k]) = icells xs (k + 1) := by
  unfold icells
  rw [List.setIfInBounds_toArray]
  congr 1
  rw [List.set_append_right _ _ (by simp; omega), show k - ((xs.take k).map (fun x => Value.int .i64 x)).length = 0 by simp; omega]
  rw [show xs.length - k = (xs.length - (k + 1)) + 1 by omega, List.replicate_succ, List.set_cons_zero, List.take_succ_eq_append_getElem hk, List.map_append, List.append_assoc]
  rfl
theorem icells_all (xs : List Int) (i : Nat) : (icells xs xs.length)[i]? = xs[i]?.map (fun x => Value.int .i64 x) := by
  unfold icells
  simp
theorem infoI : (Try.prog.info? 3).map (fun i => (i.zero, i.size, i.bytes)) = some (some (.int .i64 0), 1, 8) := by kernel_rfl
theorem IntR.blk {w : World} {g : Nat} {xs : List Int} (h : Blk w g (icells xs xs.length) 3) : IntR w (.slice (some ⟨g, 0, none⟩) xs.length xs.length) xs := .inr ⟨⟨g, 0, none⟩, xs.length, rfl, fun i x hx => by
  have e : (⟨g, 0, none⟩ : Addr).add i = ⟨g, i, none⟩ := by
    by_cases h0 : i = 0 <;> simp [Addr.add, h0]
  rw [e, h.cell i, icells_all, hx]
  rfl⟩
set_option maxRecDepth 100000 in
set_option maxHeartbeats 4000000 in
theorem toInts_any (v : Value) (xs : List Int) (w : World) (h : IntR w v xs) (hx : xs.length ≤ 1048576) :
    Calls Try.prog 69 #[v] w fun e w' => e = .returned (.slice (some ⟨w.heap.size, 0, none⟩) xs.length xs.length) ∧ Blk w' w.heap.size (icells xs xs.length) 3 ∧ Below w.heap.size w w' := by
  obtain ⟨a, cap, hv, HC⟩ : ∃ (a : Option Addr) (cap : Nat), v = .slice a xs.length cap ∧ Hid (∀ i x, xs[i]? = some x → ∃ b, a = some b ∧ w.cell? (b.add i) = some (.int .i64 x)) := by
    rcases h with ⟨rfl, rfl⟩ | ⟨a, cap, rfl, hc⟩
    · exact ⟨none, 0, rfl, Lib.hid (fun i l hl => by simp at hl)⟩
    · exact ⟨some a, cap, rfl, Lib.hid (fun i l hl => ⟨a, rfl, hc i l hl⟩)⟩
  subst hv
  clear h
  have hmk : (Instr.makeSlice 71 (.int .i64 (xs.length : Int)) (.int .i64 (xs.length : Int))).run Try.prog w = .ok (.slice (some ⟨w.heap.size, 0, none⟩) xs.length xs.length) (w.alloc (.cells (icells xs 0) 3)) := by
    obtain ⟨i0, hi0, hz0, hz1, hz2⟩ := info_parts infoI
    have h := run_make (P := Try.prog) w 71 3 i0 (.int .i64 0) Try.underlying71 hi0 hz0 .i64 .i64 (xs.length : Int) (xs.length : Int) (by omega) (by omega) (by rw [hz2]; omega) (by omega)
    rw [hz1, Int.toNat_natCast, Nat.mul_one] at h
    rw [h, icells_zero]
    rfl
  have K0 := Lib.hid (Blk.new w (icells xs 0) 3)
  have KB := Lib.hid ((Below.refl w.heap.size w).alloc (Nat.le_refl _) (.cells (icells xs 0) 3))
  go_enter Try.func69, Try.ntmps69
  go_wp2_with fail
  clear hmk
  generalize w.alloc (.cells (icells xs 0) 3) = w0 at *
  go_loopw [4] (fun iv wr => ∃ k : Nat, k ≤ xs.length ∧ iv = .int .i64 k ∧ Hid (Blk wr w.heap.size (icells xs k) 3) ∧ Hid (Below w.heap.size w wr)) (fun iv _ => xs.length - (intOf iv).toNat)
  case atStart => exact ⟨0, by omega, rfl, K0, KB⟩
  case round =>
    clear K0 KB
    obtain ⟨k, hk, rfl, K, HB⟩ := hrel
    by_cases hlt : k < xs.length
    · obtain ⟨b, rfl, hc⟩ := HC.out k xs[k] (List.getElem?_eq_getElem hlt)
      have c0 := cell_kept HB.out hc
      have hk0 : (0 : Int) ≤ (k : Int) := by omega
      have hk1 : (k : Int) < (xs.length : Int) := by omega
      obtain ⟨v0, c1⟩ : ∃ v, wr.cell? ⟨w.heap.size, k, none⟩ = some v := by
        rw [K.out.cell k]
        exact ⟨_, Array.getElem?_eq_getElem (by rw [icells_size _ _ hk]; exact hlt)⟩
      have f1 := K.out.free k
      have KS := K.out.set k (.int .i64 xs[k])
      rw [icells_set xs k hlt] at KS
      replace KS := Lib.hid KS
      have HS := Lib.hid (HB.out.setCell (p := ⟨w.heap.size, k, none⟩) (Nat.le_refl _) (.int .i64 xs[k]))
      clear hc
      generalize xs[k] = x at *
      go_wp2_with fail
      exact ⟨⟨k + 1, by omega, by go_num, KS, HS⟩, by simp [intOf]; omega⟩
    · have hk2 : k = xs.length := by omega
      subst hk2
      have hk3 : ¬ (xs.length : Int) < (xs.length : Int) := by omega
      go_wp2_with fail
      go_ret
      exact ⟨rfl, K.out, HB.out⟩

theorem infoLn : (Try.prog.info? 74).map (·.size) = some 6 := by kernel_rfl
set_option maxRecDepth 100000 in
set_option maxHeartbeats 8000000 in
theorem toLine_any (l : Ln) (rv : Value) (w : World) (h : IntR w rv l.rf) (hx : l.rf.length ≤ 1048576) :
    Calls Try.prog 43 #[LnAg l rv] w fun e w' => ∃ h : Nat, w.heap.size ≤ h ∧ e = .returned (LnAg l (.slice (some ⟨h, 0, none⟩) l.rf.length l.rf.length)) ∧ Blk w' h (icells l.rf l.rf.length) 3 ∧ Below w.heap.size w w' := by
  unfold LnAg
  generalize hl : l.rf = xs at *
  clear hl
  generalize l.ru = s0 at *
  generalize l.pr = s1 at *
  generalize l.pp = s2 at *
  generalize l.qq = s3 at *
  generalize l.po = s4 at *
  obtain ⟨k0, k1, k2, kb, kz⟩ := three_blk w #[.string s0, .string s1, .string s2, .string s3, .string s4, rv] #[.string ⟨#[]⟩, .string ⟨#[]⟩, .string ⟨#[]⟩, .string ⟨#[]⟩, .string ⟨#[]⟩, .slice none 0 0] #[.string s0, .string s1, .string s2, .string s3, .string s4, .slice none 0 0] 73 74 74
  have H1 := Lib.hid k1
  have H2 : Hid (Blk _ (w.heap.size + 1 + 1) #[.string s0, .string s1, .string s2, .string s3, .string s4, .slice none 0 0] 74) := Lib.hid k2
  have HB := Lib.hid kb
  have HI := Lib.hid (IntR.kept h kb)
  clear k0 k1 k2 kb kz h
  go_enter Try.func43, Try.ntmps43
  go_wp2_with fail
  generalize ((w.alloc (.cells #[.string s0, .string s1, .string s2, .string s3, .string s4, rv] 73)).alloc (.cells #[.string ⟨#[]⟩, .string ⟨#[]⟩, .string ⟨#[]⟩, .string ⟨#[]⟩, .string ⟨#[]⟩, .slice none 0 0] 74)).alloc (.cells #[.string s0, .string s1, .string s2, .string s3, .string s4, .slice none 0 0] 74) = W at *
  refine (toInts_any rv xs _ HI.out hx).mono ?_
  rintro e w6 ⟨rfl, hr, hb⟩
  have hg2 : w.heap.size + 1 + 1 < W.heap.size := H2.out.lt
  obtain ⟨g, hg⟩ : ∃ g, W.heap.size = g := ⟨_, rfl⟩
  rw [hg] at hr ⊢
  have n1 : g ≠ w.heap.size + 1 + 1 := by omega
  have n2 : g ≠ w.heap.size + 1 := by omega
  have J1 := Lib.hid (H1.out.kept hb)
  have J2 := Lib.hid (H2.out.kept hb)
  have HB6 := Lib.hid (bnext HB.out hb)
  have c5 := J2.out.cell 5
  have g5 := J2.out.free 5
  simp at c5
  have k2 := J2.out.set 5 (.slice (some ⟨g, 0, none⟩) xs.length xs.length)
  simp at k2
  have K2 : Hid (Blk _ (w.heap.size + 1 + 1) #[.string s0, .string s1, .string s2, .string s3, .string s4, (.slice (some ⟨g, 0, none⟩) xs.length xs.length)] 74) := Lib.hid k2
  have K1 := Lib.hid (J1.out.setOther (p := ⟨w.heap.size + 1 + 1, 5, none⟩) (by show w.heap.size + 1 ≠ w.heap.size + 1 + 1; omega) (.slice (some ⟨g, 0, none⟩) xs.length xs.length))
  have HE := Lib.hid (HB6.out.setCell (p := ⟨w.heap.size + 1 + 1, 5, none⟩) (by show w.heap.size ≤ w.heap.size + 1 + 1; omega) (.slice (some ⟨g, 0, none⟩) xs.length xs.length))
  have HR := Lib.hid ((hr.setOther (p := ⟨w.heap.size + 1 + 1, 5, none⟩) n1 (.slice (some ⟨g, 0, none⟩) xs.length xs.length)).rowOther (g := w.heap.size + 1) n2 #[.string s0, .string s1, .string s2, .string s3, .string s4, (.slice (some ⟨g, 0, none⟩) xs.length xs.length)])
  have hgb : w.heap.size ≤ g := by omega
  clear hr hb HI k2 J1 J2 HB6 H1 H2 hg hg2 n1 n2
  go_wp2_with (first
    | (refine wpList_load_row rfl 74 _ rfl (w.heap.size + 1 + 1) (by rfl) 74 #[.string s0, .string s1, .string s2, .string s3, .string s4, (.slice (some ⟨g, 0, none⟩) xs.length xs.length)] (0, 0) _ K2.out Try.underlying74 rfl infoLn ?_)
    | (refine wpList_store_row rfl 74 _ _ rfl (w.heap.size + 1) #[.string s0, .string s1, .string s2, .string s3, .string s4, (.slice (some ⟨g, 0, none⟩) xs.length xs.length)] (by rfl) (by rfl) 74 #[.string ⟨#[]⟩, .string ⟨#[]⟩, .string ⟨#[]⟩, .string ⟨#[]⟩, .string ⟨#[]⟩, .slice none 0 0] K1.out infoLn (by rfl) (by simp [Value.oneCell']) ?_))
  exact bodyPost_ret (v := .agg #[.string s0, .string s1, .string s2, .string s3, .string s4, (.slice (some ⟨g, 0, none⟩) xs.length xs.length)]) (results_cell_row rfl _ _ (w.heap.size + 1) 74 _ (0, 0) _ (by rfl) (K1.out.row _) Try.underlying74 rfl infoLn) rfl ⟨g, hgb, rfl, HR.out, Below.setRow HE.out (by omega) _⟩

/-! ### A row of lines that was made -/
def lcs (l : Ln) (h : Nat) : List Value := [.string l.ru, .string l.pr, .string l.pp, .string l.qq, .string l.po, .slice (some ⟨h, 0, none⟩) l.rf.length l.rf.length]
def LnM (w : World) (g : Nat) (ls : List Ln) (k : Nat) : Prop := ∀ i l, i < k → ls[i]? = some l → ∃ h, g < h ∧ w.rangeAt g (i * 6) (lcs l h) ∧ Blk w h (icells l.rf l.rf.length) 3
theorem LnM.kept {w w' : World} {g k : Nat} {ls : List Ln} (h : LnM w g ls k) (hb : Below w.heap.size w w') : LnM w' g ls k := fun i l hi hl => by
  obtain ⟨b, h0, h1, h2⟩ := h i l hi hl
  exact ⟨b, h0, fun j v hv => cell_kept hb (h1 j v hv), h2.kept hb⟩
theorem there_kept {w w' : World} {g o n : Nat} (h : w.there g o n) (hb : Below w.heap.size w w') : w'.there g o n := fun j hj => by
  obtain ⟨h1, h2⟩ := h j hj
  obtain ⟨v, hv⟩ := Option.isSome_iff_exists.1 h1
  exact ⟨by rw [cell_kept hb hv]; rfl, by rw [hb.frozen (World.block_lt_of_cell? w _ hv)]; exact h2⟩
theorem there_part {w : World} {g n o m : Nat} (h : w.there g 0 n) (hm : o + m ≤ n) : w.there g o m := fun j hj => by
  have := h (o + j) (by omega)
  rwa [Nat.zero_add] at this
theorem Blk.cellsOther {w : World} {b g : Nat} {cs : Array Value} {t : TypeId} (h : Blk w b cs t) (hne : b ≠ g) (o : Nat) (vs : List Value) : Blk (w.setCells g o vs) b cs t := by
  unfold Blk at h ⊢
  rw [World.heap_setCells_other w g o vs (Array.getElem?_eq_some_iff.1 h).1 hne]
  exact h
theorem LnM.put {w : World} {g k : Nat} {ls : List Ln} (h : LnM w g ls k) (l : Ln) (hl : ls[k]? = some l) (b : Nat) (hb : g < b) (hB : Blk w b (icells l.rf l.rf.length) 3) (ht : w.there g (k * 6) 6) : LnM (w.setCells g (k * 6) (lcs l b)) g ls (k + 1) := fun i l' hi hl' => by
  by_cases e : i = k
  · subst e
    rw [hl] at hl'
    cases hl'
    exact ⟨b, hb, World.rangeAt_setCells_same w g _ _ ht, hB.cellsOther (by omega) _ _⟩
  · obtain ⟨c, h0, h1, h2⟩ := h i l' (by omega) hl'
    exact ⟨c, h0, World.rangeAt_setCells_apart h1 g _ _ (.inr (.inl (by show i * 6 + 6 ≤ k * 6; omega))), h2.cellsOther (by omega) _ _⟩
theorem sz_setCells (b : Nat) : ∀ (vs : List Value) (o : Nat) (w : World), (w.setCells b o vs).heap.size = w.heap.size
  | [], _, _ => rfl
  | v :: r, o, w => by
    rw [World.setCells, sz_setCells b r (o + 1)]
    simp
theorem underLn : ∃ fs, Try.prog.underlying 74 = some (.struct fs) := ⟨_, Try.underlying74⟩
theorem infoLnZ : (Try.prog.info? 74).map (fun i => (i.zero, i.size, i.bytes)) = some (some (.agg #[.string ⟨#[]⟩, .string ⟨#[]⟩, .string ⟨#[]⟩, .string ⟨#[]⟩, .string ⟨#[]⟩, .slice none 0 0]), 6, 104) := by kernel_rfl

set_option maxRecDepth 100000 in
set_option maxHeartbeats 8000000 in
theorem toLines_any (v : Value) (ls : List Ln) (w : World) (h : LnR w v ls) (hn : ls.length ≤ 1048576) (hx : ∀ l ∈ ls, l.rf.length ≤ 1048576) :
    Calls Try.prog 19 #[v] w fun e w' => ∃ g : Nat, w.heap.size ≤ g ∧ e = .returned (.slice (some ⟨g, 0, none⟩) ls.length ls.length) ∧ LnM w' g ls ls.length ∧ Below w.heap.size w w' := by
  obtain ⟨a, cap, hv, HC⟩ : ∃ (a : Option Addr) (cap : Nat), v = .slice a ls.length cap ∧ Hid (∀ i l, ls[i]? = some l → ∃ b rv, a = some b ∧ LnC w b i l rv ∧ IntR w rv l.rf) := by
    rcases h with ⟨rfl, rfl⟩ | ⟨a, cap, rfl, hc⟩
    · exact ⟨none, 0, rfl, Lib.hid (fun i l hl => by simp at hl)⟩
    · exact ⟨some a, cap, rfl, Lib.hid (fun i l hl => by obtain ⟨rv, h1, h2⟩ := hc i l hl; exact ⟨a, rv, rfl, h1, h2⟩)⟩
  subst hv
  have HX := Lib.hid hx
  clear h hx
  obtain ⟨cs, hcs, hmk⟩ : ∃ cs : Array Value, cs.size = ls.length * 6 ∧ (Instr.makeSlice 40 (.int .i64 (ls.length : Int)) (.int .i64 (ls.length : Int))).run Try.prog w = .ok (.slice (some ⟨w.heap.size, 0, none⟩) ls.length ls.length) (w.alloc (.cells cs 74)) := by
    obtain ⟨i0, hi0, hz0, hz1, hz2⟩ := info_parts infoLnZ
    have h := run_make (P := Try.prog) w 40 74 i0 _ Try.underlying40 hi0 hz0 .i64 .i64 (ls.length : Int) (ls.length : Int) (by omega) (by omega) (by rw [hz2]; omega) (by omega)
    rw [hz1, Int.toNat_natCast] at h
    exact ⟨_, size_madeCells _ _, h⟩
  have k0 := Blk.new w cs 74
  have KT : Hid ((w.alloc (.cells cs 74)).there w.heap.size 0 (ls.length * 6)) := Lib.hid (fun j hj => by
    rw [Nat.zero_add]
    exact ⟨by rw [k0.cell j, Array.getElem?_eq_getElem (by rw [hcs]; exact hj)]; rfl, k0.free j⟩)
  have KB := Lib.hid ((Below.refl w.heap.size w).alloc (Nat.le_refl _) (.cells cs 74))
  have hlt0 := k0.lt
  clear k0 hcs
  go_enter Try.func19, Try.ntmps19
  go_wp2_with fail
  clear hmk
  generalize w.alloc (.cells cs 74) = w0 at *
  go_loopw [4] (fun iv wr => ∃ k : Nat, k ≤ ls.length ∧ iv = .int .i64 k ∧ Hid (LnM wr w.heap.size ls k) ∧ Hid (wr.there w.heap.size 0 (ls.length * 6)) ∧ Hid (Below w.heap.size w wr) ∧ Hid (w.heap.size < wr.heap.size)) (fun iv _ => ls.length - (intOf iv).toNat)
  case atStart => exact ⟨0, by omega, rfl, Lib.hid (fun i l hi => by omega), KT, KB, Lib.hid hlt0⟩
  case round =>
    clear KT KB hlt0
    obtain ⟨k, hk, rfl, HM, HT, HB, HG⟩ := hrel
    by_cases hlt : k < ls.length
    · obtain ⟨b, rv, rfl, hc, hr⟩ := HC.out k ls[k] (List.getElem?_eq_getElem hlt)
      obtain ⟨c0, c1, c2, c3, c4, c5⟩ := hc.kept HB.out
      have D := Lib.hid (toLine_any ls[k] rv _ (hr.kept HB.out) (HX.out _ (List.getElem_mem hlt)))
      have HE : Hid (ls[k]? = some ls[k]) := Lib.hid (List.getElem?_eq_getElem hlt)
      have hk0 : (0 : Int) ≤ (k : Int) := by omega
      have hk1 : (k : Int) < (ls.length : Int) := by omega
      unfold LnAg at D
      clear hc hr
      generalize ls[k] = l at *
      go_wp2_with fail
      refine D.out.mono ?_
      rintro e w1 ⟨h, hh, rfl, hB, hb⟩
      have HT1 := Lib.hid (there_kept HT.out hb)
      have HP := Lib.hid (there_part HT1.out (show k * 6 + 6 ≤ ls.length * 6 by omega))
      have HM1 := Lib.hid ((HM.out.kept hb).put l HE.out h (by have := HG.out; omega) hB HP.out)
      have HT2 := Lib.hid (World.there_setCells HT1.out w.heap.size (k * 6) (lcs l h))
      have HB1 := Lib.hid (below_setCells (b := w.heap.size) (Nat.le_refl _) (lcs l h) (k * 6) w1 (bnext HB.out hb))
      have HG1 : Hid (w.heap.size < (w1.setCells w.heap.size (k * 6) (lcs l h)).heap.size) := Lib.hid (by
        rw [sz_setCells]
        have h2 := HG.out
        have h3 := hb.size
        omega)
      clear hb hB c0 c1 c2 c3 c4 c5 D HE HM HT HT1
      unfold lcs at *
      obtain ⟨v0, y0⟩ := Option.isSome_iff_exists.1 (HP.out 0 (by omega)).1
      have z0 := (HP.out 0 (by omega)).2
      obtain ⟨v1, y1⟩ := Option.isSome_iff_exists.1 (HP.out 1 (by omega)).1
      have z1 := (HP.out 1 (by omega)).2
      obtain ⟨v2, y2⟩ := Option.isSome_iff_exists.1 (HP.out 2 (by omega)).1
      have z2 := (HP.out 2 (by omega)).2
      obtain ⟨v3, y3⟩ := Option.isSome_iff_exists.1 (HP.out 3 (by omega)).1
      have z3 := (HP.out 3 (by omega)).2
      obtain ⟨v4, y4⟩ := Option.isSome_iff_exists.1 (HP.out 4 (by omega)).1
      have z4 := (HP.out 4 (by omega)).2
      obtain ⟨v5, y5⟩ := Option.isSome_iff_exists.1 (HP.out 5 (by omega)).1
      have z5 := (HP.out 5 (by omega)).2
      simp only [Nat.add_zero] at y0 z0
      go_wp2_with fail
      exact ⟨⟨k + 1, by omega, by go_num, HM1, HT2, HB1, HG1⟩, by simp [intOf]; omega⟩
    · have hk2 : k = ls.length := by omega
      subst hk2
      have hk3 : ¬ (ls.length : Int) < (ls.length : Int) := by omega
      go_wp2_with fail
      go_ret
      exact ⟨w.heap.size, Nat.le_refl _, rfl, HM.out, HB.out⟩
end Go.Proofs.Ytheclmdpiijakaa
