/-
  Several small texts in one: Cas EwP Et8.
-/
import Derived.Test.YtheclmdpiijakaaDoorTopB
import Derived.Test.YtheclmdpiijakaaDoorGPure
import Derived.Lib.ConvBytes
import Derived.Test.YtheclmdpiijakaaDoorTopX
import Derived.Test.YtheclmdpiijakaaDoorTopT
namespace Go.Proofs.YtheclmdpiijakaaDoor
open Go.RowKit Go.Lib

/-- The letter of the same variable of the second state (of the other state). -/
def mir (other : Bool) (c : UInt8) : UInt8 := if 120 ≤ c ∧ c ≤ 122 then c - 32 else if 88 ≤ c ∧ c ≤ 90 ∧ other = true then c + 32 else c
def mix (other : Bool) (l : List UInt8) (k : Nat) : List UInt8 := (l.take k).map (mir other) ++ l.drop k
theorem mix_len (o : Bool) (l : List UInt8) (k : Nat) : (mix o l k).length = l.length := by unfold mix; simp; omega
theorem mix_all (o : Bool) (l : List UInt8) : mix o l l.length = l.map (mir o) := by unfold mix; simp
theorem mix_set (o : Bool) (l : List UInt8) (k : Nat) (hk : k < l.length) : (mix o l k).set k (mir o l[k]) = mix o l (k + 1) := by
  unfold mix
  rw [List.set_append_right _ _ (by simp; omega)]
  rw [show k - ((l.take k).map (mir o)).length = 0 by simp; omega]
  rw [List.drop_eq_getElem_cons hk, List.set_cons_zero, List.take_succ_eq_append_getElem hk, List.map_append, List.append_assoc]
  rfl
theorem mix_same (o : Bool) (l : List UInt8) (k : Nat) (hk : k < l.length) (h : mir o l[k] = l[k]) : mix o l k = mix o l (k + 1) := by
  unfold mix
  rw [List.take_succ_eq_append_getElem hk, List.map_append, List.append_assoc, List.map_cons, h]
  show _ = _ ++ (l[k] :: List.drop (k + 1) l)
  rw [← List.drop_eq_getElem_cons hk]

/-- A block made of a string: its bytes, spare cells, the mark of a conversion behind them. -/
def Cv (w : World) (b : Nat) (l : List UInt8) (sp : Array Value) : Prop := w.heap[b]? = some (.cells (u8s l ++ sp) 5 ((u8s l ++ sp).size, (u8s l ++ sp).size + 1))
theorem u8s_size (l : List UInt8) : (u8s l).size = l.length := by simp [u8s]
theorem Cv.kept {w w' : World} {b : Nat} {l : List UInt8} {sp : Array Value} (h : Cv w b l sp) (hb : Below w.heap.size w w') : Cv w' b l sp := (hb.block b (Array.getElem?_eq_some_iff.1 h).1).trans h
theorem Cv.get {w : World} {b : Nat} {l : List UInt8} {sp : Array Value} (h : Cv w b l sp) (i : Nat) (hi : i < l.length) : w.cell? ⟨b, i, none⟩ = some (.int .u8 (l[i].toNat : Int)) := by
  rw [cell_of_row w b i _ _ _ h, Array.getElem?_append_left (by rw [u8s_size]; exact hi)]
  simp [u8s, bv, hi]
theorem Cv.free {w : World} {b : Nat} {l : List UInt8} {sp : Array Value} (h : Cv w b l sp) (i : Nat) (hi : i < l.length) : w.frozen? ⟨b, i, none⟩ = false := by
  unfold Cv at h
  have := u8s_size l
  simp [World.frozen?, h]
  omega
theorem Cv.set {w : World} {b : Nat} {l : List UInt8} {sp : Array Value} (h : Cv w b l sp) (i : Nat) (hi : i < l.length) (c : UInt8) : Cv (w.setCell ⟨b, i, none⟩ (.int .u8 c.toNat)) b (l.set i c) sp := by
  unfold Cv at h ⊢
  have hlt := (Array.getElem?_eq_some_iff.1 h).1
  have h' := (Array.getElem?_eq_some_iff.1 h).2
  have e : u8s (l.set i c) = (u8s l).setIfInBounds i (.int .u8 c.toNat) := by unfold u8s; simp [bv, List.map_set]
  rw [e]
  have e2 : (u8s l).setIfInBounds i (.int .u8 c.toNat) ++ sp = (u8s l ++ sp).setIfInBounds i (.int .u8 c.toNat) := by
    apply Array.ext_getElem?
    intro j
    simp only [Array.getElem?_setIfInBounds, Array.getElem?_append, Array.size_setIfInBounds, Array.size_append]
    have := u8s_size l
    by_cases e3 : i = j
    · subst e3; simp [this, hi]; omega
    · simp [e3]
  rw [e2]
  show (w.heap.modify b _)[b]? = _
  rw [Array.getElem?_eq_getElem (by simpa using hlt), Array.getElem_modify_self, h']
  simp
theorem Cv.str {w : World} {b : Nat} {l : List UInt8} {sp : Array Value} (h : Cv w b l sp) (n c : Nat) (hn : n = l.length) : (convert 22 9 (.slice (some ⟨b, 0, none⟩) n c)).run Tryd.prog w = .ok (.string (bs l)) w := by
  subst hn
  rw [run_convert_bytes_string _ _ _ 5 _ _ _ Tryd.underlying22 Tryd.underlying5 Tryd.underlying9]
  rw [run_bytesToString _ _ l.length c (l.map (fun c : UInt8 => (c.toNat : Int)))]
  · rw [fold_push]
    congr 2
  · have h2 := run_loadCells_list (w := w) (P := Tryd.prog) ⟨b, 0, none⟩ (l.map bv) (fun j v hj => by
      rw [List.getElem?_map] at hj
      have hlt : j < l.length := by
        rcases Nat.lt_or_ge j l.length with h | h
        · exact h
        · rw [List.getElem?_eq_none h] at hj; cases hj
      rw [List.getElem?_eq_getElem hlt] at hj
      simp at hj
      subst hj
      have e : (⟨b, 0, none⟩ : Addr).add j = ⟨b, j, none⟩ := by
        by_cases h0 : j = 0 <;> simp [Addr.add, h0]
      rw [e]
      exact h.get j hlt)
    simp at h2
    rw [h2]
    simp [bv, List.map_map, Function.comp_def]
theorem Cv.new (w : World) (s : ByteArray) : Cv (bytesWorld w 5 s) w.heap.size s.data.toList (Array.replicate (grownCap w s.size 0 5 - s.size) (.int .u8 0)) := by
  unfold Cv
  have e : u8s s.data.toList = s.data.map fun b => Value.int .u8 b.toNat := by
    unfold u8s
    apply Array.ext'
    simp [bv]
  rw [e]
  exact bytesWorld_at_new w _ s
theorem below_bytes (w : World) (e : TypeId) (s : ByteArray) : Below w.heap.size w (bytesWorld w e s) := ⟨rfl, rfl, rfl, by rw [bytesWorld_size]; omega, fun _ hj => bytesWorld_at_old w e s _ hj⟩

theorem mir_low {o : Bool} {c : UInt8} (h1 : 120 ≤ c.toNat) (h2 : c.toNat ≤ 122) : ((mir o c).toNat : Int) = (c.toNat : Int) - 32 := by
  have e : mir o c = c - 32 := by unfold mir; rw [if_pos ⟨by rw [UInt8.le_iff_toNat_le]; exact h1, by rw [UInt8.le_iff_toNat_le]; exact h2⟩]
  rw [e, UInt8.toNat_sub_of_le _ _ (by rw [UInt8.le_iff_toNat_le]; show 32 ≤ _; omega)]
  show ((c.toNat - 32 : Nat) : Int) = _
  omega
theorem mir_up {c : UInt8} (h1 : 88 ≤ c.toNat) (h2 : c.toNat ≤ 90) : ((mir true c).toNat : Int) = (c.toNat : Int) + 32 := by
  have e : mir true c = c + 32 := by
    unfold mir
    rw [if_neg (fun h => by have := UInt8.le_iff_toNat_le.1 h.1; have e2 : (120 : UInt8).toNat = 120 := rfl; omega), if_pos ⟨by rw [UInt8.le_iff_toNat_le]; exact h1, by rw [UInt8.le_iff_toNat_le]; exact h2, rfl⟩]
  rw [e, UInt8.toNat_add]
  show (((c.toNat + 32) % 256 : Nat) : Int) = _
  omega
theorem mir_else {o : Bool} {c : UInt8} (h1 : ¬ (120 ≤ c.toNat ∧ c.toNat ≤ 122)) (h2 : ¬ (88 ≤ c.toNat ∧ c.toNat ≤ 90 ∧ o = true)) : mir o c = c := by
  unfold mir
  have g1 : ¬ (120 ≤ c ∧ c ≤ 122) := fun h => h1 (by have a := UInt8.le_iff_toNat_le.1 h.1; have b := UInt8.le_iff_toNat_le.1 h.2; exact ⟨a, b⟩)
  have g2 : ¬ (88 ≤ c ∧ c ≤ 90 ∧ o = true) := fun h => h2 (by have a := UInt8.le_iff_toNat_le.1 h.1; have b := UInt8.le_iff_toNat_le.1 h.2.1; exact ⟨a, b, h.2.2⟩)
  rw [if_neg g1, if_neg g2]

set_option maxRecDepth 100000 in
set_option maxHeartbeats 8000000 in
theorem case_any (other : Bool) (s : ByteArray) (hs : s.size ≤ 1000000) (w : World) : Calls Tryd.prog 100 #[.string s, .bool other] w fun e w' => e = .returned (.string (bs (s.data.toList.map (mir other)))) ∧ Below w.heap.size w w' := by
  have kc := Go.Lib.run_convert_string_bytes (P := Tryd.prog) w 9 22 5 s Tryd.underlying9 Tryd.underlying22 Tryd.underlying5
  have K0 := Cv.new w s
  have KB := Lib.hid (below_bytes w 5 s)
  have hsz : s.data.toList.length = s.size := rfl
  generalize grownCap w s.size 0 5 = cap at *
  generalize bytesWorld w 5 s = wb at *
  generalize Array.replicate (cap - s.size) (Value.int IntKind.u8 0) = sp at *
  replace K0 := Lib.hid K0
  go_enter Tryd.func100, Tryd.ntmps100
  go_wp2_with fail
  clear kc
  go_loopw [6, 15, 33] (fun i _ _ wr => ∃ k : Nat, k ≤ s.size ∧ i = .int .i64 k ∧ Hid (Cv wr w.heap.size (mix other s.data.toList k) sp) ∧ Hid (Below w.heap.size w wr)) (fun i _ _ _ => s.size - (intOf i).toNat)
  case atStart => exact ⟨0, by omega, rfl, K0, KB⟩
  case round =>
    clear K0 KB
    obtain ⟨k, hk, rfl, R0, RB⟩ := hrel
    by_cases hlt : k < s.size
    · have h0 : (0 : Int) ≤ (k : Int) := by omega
      have h1 : (k : Int) < (s.size : Int) := by omega
      have hl : k < s.data.toList.length := by omega
      have hc : s.data.toList[k] = s[k] := by rfl
      obtain ⟨v, c0⟩ : ∃ v, wr.cell? ⟨w.heap.size, k, none⟩ = some (.int .u8 v) := ⟨_, R0.out.get k (by rw [mix_len]; omega)⟩
      have f0 := R0.out.free k (by rw [mix_len]; omega)
      have RS := fun c => R0.out.set k (by rw [mix_len]; omega) c
      have MS := mix_set other s.data.toList k hl
      have MN := mix_same other s.data.toList k hl
      rw [hc] at MS MN
      replace RS := Lib.hid RS
      replace MS := Lib.hid MS
      replace MN := Lib.hid MN
      by_cases hA : 120 ≤ s[k].toNat ∧ s[k].toNat ≤ 122
      · have a1 : (120 : Int) ≤ (s[k].toNat : Int) := by omega
        have a2 : (s[k].toNat : Int) ≤ 122 := by omega
        have hw := mir_low (o := other) hA.1 hA.2
        have R1 := RS.out (mir other s[k])
        rw [MS.out, hw] at R1
        replace R1 := Lib.hid R1
        have RB1 := Lib.hid (RB.out.setCell (p := ⟨w.heap.size, k, none⟩) (Nat.le_refl _) (.int .u8 ((s[k].toNat : Int) - 32)))
        clear hA hw hc
        go_wp2_with fail
        exact ⟨⟨k + 1, by omega, by go_num, R1, RB1⟩, by simp [intOf]; omega⟩
      · by_cases hB : 88 ≤ s[k].toNat ∧ s[k].toNat ≤ 90 ∧ other = true
        · have a1 : (88 : Int) ≤ (s[k].toNat : Int) := by omega
          have a2 : (s[k].toNat : Int) ≤ 90 := by omega
          have a3 : ¬ (120 : Int) ≤ (s[k].toNat : Int) := by omega
          obtain ⟨b1, b2, rfl⟩ := hB
          have hw := mir_up b1 b2
          have R1 := RS.out (mir true s[k])
          rw [MS.out, hw] at R1
          replace R1 := Lib.hid R1
          have RB1 := Lib.hid (RB.out.setCell (p := ⟨w.heap.size, k, none⟩) (Nat.le_refl _) (.int .u8 ((s[k].toNat : Int) + 32)))
          clear hA hw hc b1 b2
          go_wp2_with fail
          exact ⟨⟨k + 1, by omega, by go_num, R1, RB1⟩, by simp [intOf]; omega⟩
        · have hm := mir_else hA hB
          replace MN := Lib.hid (MN.out hm)
          have R1 := R0.out
          rw [MN.out] at R1
          replace R1 := Lib.hid R1
          clear hm hc RS MS MN c0 f0
          by_cases h120 : 120 ≤ s[k].toNat
          · have a1 : (120 : Int) ≤ (s[k].toNat : Int) := by omega
            have a2 : ¬ (s[k].toNat : Int) ≤ 122 := by omega
            have a3 : (88 : Int) ≤ (s[k].toNat : Int) := by omega
            have a4 : ¬ (s[k].toNat : Int) ≤ 90 := by omega
            clear hA hB h120
            go_wp2_with fail
            exact ⟨⟨k + 1, by omega, by go_num, R1, RB⟩, by simp [intOf]; omega⟩
          · have a1 : ¬ (120 : Int) ≤ (s[k].toNat : Int) := by omega
            by_cases h88 : 88 ≤ s[k].toNat
            · have a3 : (88 : Int) ≤ (s[k].toNat : Int) := by omega
              by_cases h90 : s[k].toNat ≤ 90
              · have a4 : (s[k].toNat : Int) ≤ 90 := by omega
                have ho : other = false := by
                  cases other
                  · rfl
                  · exact absurd ⟨h88, h90, rfl⟩ hB
                subst ho
                clear hA hB h120 h88 h90
                go_wp2_with fail
                exact ⟨⟨k + 1, by omega, by go_num, R1, RB⟩, by simp [intOf]; omega⟩
              · have a4 : ¬ (s[k].toNat : Int) ≤ 90 := by omega
                clear hA hB h120 h88 h90
                go_wp2_with fail
                exact ⟨⟨k + 1, by omega, by go_num, R1, RB⟩, by simp [intOf]; omega⟩
            · have a3 : ¬ (88 : Int) ≤ (s[k].toNat : Int) := by omega
              clear hA hB h120 h88
              go_wp2_with fail
              exact ⟨⟨k + 1, by omega, by go_num, R1, RB⟩, by simp [intOf]; omega⟩
    · have hk2 : k = s.size := by omega
      subst hk2
      have R := R0.out
      rw [show mix other s.data.toList s.size = s.data.toList.map (mir other) by rw [← hsz, mix_all]] at R
      have hst := R.str s.size cap (by rw [List.length_map]; exact hsz.symm)
      have hnl : ¬ (s.size : Int) < (s.size : Int) := by omega
      clear R R0
      go_wp2_with fail
      go_ret
      exact ⟨rfl, RB.out⟩
end Go.Proofs.YtheclmdpiijakaaDoor

namespace Go.Proofs.YtheclmdpiijakaaDoor
open Tm

/-- The letters of the second state as those of the first one. -/
def lowc (c : UInt8) : UInt8 := if 88 ≤ c ∧ c ≤ 90 then c + 32 else c
/-- A tree with other letters. -/
def reT (f : UInt8 → UInt8) : Tm → Tm
  | .leaf c => .leaf (f c)
  | .un c a => .un (f c) (reT f a)
  | .bin c a b => .bin (f c) (reT f a) (reT f b)
theorem ser_map (f : UInt8 → UInt8) (t : Tm) : (reT f t).ser = t.ser.map f := by
  induction t with
  | leaf c => rfl
  | un c a ih => simp [reT, ser, ih]
  | bin c a b ia ib => simp [reT, ser, ia, ib]
theorem byte_all {P : UInt8 → Prop} (h : ∀ n, n < 256 → P (UInt8.ofNat n)) (c : UInt8) : P c := by
  have := h c.toNat c.toNat_lt
  rwa [UInt8.ofNat_toNat] at this
theorem opk_low (k : Bool) : ∀ c : UInt8, opk true k c ≠ none → opk false k (lowc c) = opk true k c := by
  cases k <;> exact byte_all (by decide +kernel)
theorem opk_mir (k : Bool) : ∀ c : UInt8, opk true k c ≠ none → opk true k (mir true c) = opk true k c := by
  cases k <;> exact byte_all (by decide +kernel)
theorem ok_map {wide wide' : Bool} {f : UInt8 → UInt8} (hf : ∀ k c, opk wide k c ≠ none → opk wide' k (f c) = opk wide k c) : ∀ {t : Tm} {k : Bool}, Ok wide k t → Ok wide' k (reT f t) := by
  intro t
  induction t with
  | leaf c =>
    intro k h
    have h : opk wide k c = some [] := h
    show opk wide' k (f c) = some []
    rw [hf k c (by rw [h]; simp), h]
  | un c a ih =>
    rintro k ⟨k1, h, ha⟩
    exact ⟨k1, by rw [hf k c (by rw [h]; simp), h], ih ha⟩
  | bin c a b ia ib =>
    rintro k ⟨k1, k2, h, ha, hb⟩
    exact ⟨k1, k2, by rw [hf k c (by rw [h]; simp), h], ia ha, ib hb⟩
theorem val_map {f : UInt8 → UInt8} {e e' : Nat → Int} (hl : ∀ c, (isVarB true c || isDigB c) = true → val e (.leaf (f c)) = val e' (.leaf c)) (ho : ∀ c, isOpB c = true → f c = c) : ∀ {t : Tm}, Ok true false t → val e (reT f t) = val e' t := by
  intro t
  induction t with
  | leaf c =>
    intro h
    rcases ok_expr h with ⟨c', h1, h2⟩ | ⟨c', a, b, h1, _⟩
    · cases h1; exact hl c h2
    · cases h1
  | un c a ih =>
    intro h
    rcases ok_expr h with ⟨c', h1, _⟩ | ⟨c', a, b, h1, _⟩ <;> cases h1
  | bin c a b ia ib =>
    intro h
    rcases ok_expr h with ⟨c', h1, _⟩ | ⟨c', a', b', h1, h2, h3, h4⟩
    · cases h1
    · cases h1
      show cmp3 (f c) (val e (reT f a)) (val e (reT f b)) = cmp3 c (val e' a) (val e' b)
      rw [ho c h2, ia h3, ib h4]
theorem tru_map {f : UInt8 → UInt8} {e e' : Nat → Int} (hl : ∀ c, (isVarB true c || isDigB c) = true → val e (.leaf (f c)) = val e' (.leaf c)) (ho : ∀ c, isOpB c = true → f c = c)
    (ht : f 116 = 116 ∧ f 102 = 102 ∧ f 61 = 61 ∧ f 60 = 60 ∧ f 38 = 38 ∧ f 124 = 124) : ∀ {t : Tm}, Ok true true t → tru e (reT f t) = tru e' t := by
  obtain ⟨h1, h2, h3, h4, h5, h6⟩ := ht
  intro t
  induction t with
  | leaf c =>
    intro h
    rcases ok_test h with ⟨c', g, hc⟩ | ⟨a, g, _⟩ | ⟨c', a, b, g, _⟩ | ⟨c', a, b, g, _⟩
    · cases g
      rcases hc with rfl | rfl
      · show (f 116 == 116) = (116 == 116); rw [h1]
      · show (f 102 == 116) = (102 == 116); rw [h2]
    all_goals cases g
  | un c a ih =>
    intro h
    rcases ok_test h with ⟨c', g, _⟩ | ⟨a', g, ha⟩ | ⟨c', a, b, g, _⟩ | ⟨c', a, b, g, _⟩
    · cases g
    · cases g
      show (!tru e (reT f a)) = (!tru e' a)
      rw [ih ha]
    all_goals cases g
  | bin c a b ia ib =>
    intro h
    rcases ok_test h with ⟨c', g, _⟩ | ⟨a', g, _⟩ | ⟨c', a', b', g, hc, ha, hb⟩ | ⟨c', a', b', g, hc, ha, hb⟩
    · cases g
    · cases g
    · cases g
      have ea := val_map (e := e) (e' := e') hl ho ha
      have eb := val_map (e := e) (e' := e') hl ho hb
      rcases hc with rfl | rfl
      · show tru e (.bin (f 61) (reT f a) (reT f b)) = _
        rw [h3]; simp [tru, ea, eb]
      · show tru e (.bin (f 60) (reT f a) (reT f b)) = _
        rw [h4]; simp [tru, ea, eb]
    · cases g
      rcases hc with rfl | rfl
      · show tru e (.bin (f 38) (reT f a) (reT f b)) = _
        rw [h5]; simp [tru, ia ha, ib hb]
      · show tru e (.bin (f 124) (reT f a) (reT f b)) = _
        rw [h6]; simp [tru, ia ha, ib hb]
theorem letters {P : UInt8 → Prop} (h : P 120 ∧ P 121 ∧ P 122 ∧ P 88 ∧ P 89 ∧ P 90 ∧ P 48 ∧ P 49 ∧ P 50) (c : UInt8) (hc : (isVarB true c || isDigB c) = true) : P c := by
  have hb : ∀ c : UInt8, (isVarB true c || isDigB c) = true → c = 120 ∨ c = 121 ∨ c = 122 ∨ c = 88 ∨ c = 89 ∨ c = 90 ∨ c = 48 ∨ c = 49 ∨ c = 50 := byte_all (by decide +kernel)
  have this := hb c hc
  obtain ⟨h1, h2, h3, h4, h5, h6, h7, h8, h9⟩ := h
  rcases this with rfl | rfl | rfl | rfl | rfl | rfl | rfl | rfl | rfl <;> assumption
theorem tru_low (x y z : Int) {t : Tm} (h : Ok true true t) : tru (one x y z) (reT lowc t) = tru (two3 x y z x y z) t :=
  tru_map (letters ⟨rfl, rfl, rfl, rfl, rfl, rfl, rfl, rfl, rfl⟩) (fun c hc => by rcases op_cases hc with rfl | rfl | rfl <;> rfl) ⟨rfl, rfl, rfl, rfl, rfl, rfl⟩ h
theorem tru_mir (x y z X Y Z : Int) {t : Tm} (h : Ok true true t) : tru (two3 X Y Z x y z) (reT (mir true) t) = tru (two3 x y z X Y Z) t :=
  tru_map (letters ⟨rfl, rfl, rfl, rfl, rfl, rfl, rfl, rfl, rfl⟩) (fun c hc => by rcases op_cases hc with rfl | rfl | rfl <;> rfl) ⟨rfl, rfl, rfl, rfl, rfl, rfl⟩ h
end Go.Proofs.YtheclmdpiijakaaDoor

namespace Go.Proofs.YtheclmdpiijakaaDoor
open Go.RowKit Tm

theorem opk_up (k : Bool) : ∀ c : UInt8, opk false k c ≠ none → opk true k c = opk false k c := by
  cases k <;> exact byte_all (by decide +kernel)
theorem map_id (t : Tm) : reT (fun c => c) t = t := by
  induction t with
  | leaf c => rfl
  | un c a ih => simp [reT, ih]
  | bin c a b ia ib => simp [reT, ia, ib]
theorem ok_up {k : Bool} {t : Tm} (h : Ok false k t) : Ok true k t := by
  have := ok_map (wide := false) (wide' := true) (f := fun c => c) opk_up h
  rwa [map_id] at this

set_option maxRecDepth 100000 in
set_option maxHeartbeats 4000000 in
theorem implEvalT_yes (s : ByteArray) (x y z : Int) (w : World) {t : Tm} (ht : Ok false true t) (hs : s.data.toList = t.ser) (hl : s.size ≤ 200) (hst : st3 x y z = true) :
    Calls Tryd.prog 19 #[.string s, .agg #[.int .i64 x, .int .i64 y, .int .i64 z]] w fun e w' => e = .returned (.tuple #[.bool (tru (one x y z) t), .bool true]) ∧ Below w.heap.size w w' := by
  have HC := fun w => Lib.hid (read_yes true s w ht hs hl)
  have HV := Lib.hid (holds_any (one x y z) (one_bd hst) t)
  simp only [one] at HV
  clear hs
  go_enter Tryd.func19, Tryd.ntmps19
  go_wp2_with fail
  have t3 := Box3.new w x y z 32
  have hB := (Below.refl w.heap.size w).alloc (Nat.le_refl _) (.cells #[.int .i64 x, .int .i64 y, .int .i64 z] 32)
  generalize w.alloc (.cells #[.int .i64 x, .int .i64 y, .int .i64 z] 32) = w0 at *
  refine (HC _).out.mono ?_
  rintro e w1 ⟨xc, ya, yn, ym, rfl, hr, hb⟩
  have q0 := cell_keep hb t3.1; have q1 := cell_keep hb t3.2.1; have q2 := cell_keep hb t3.2.2
  have HB := Lib.hid (hB.trans (hb.mono hB.size))
  have HR := Lib.hid hr
  have hz0 := cell_lt q0
  clear t3 hB hb hr
  go_wp2_with fail
  have hB1 := HB.out.alloc HB.out.size (.cells #[.int .u8 xc, .slice ya yn ym] 51)
  have m0 : (w1.alloc (.cells #[.int .u8 xc, .slice ya yn ym] 51)).cell? ⟨w1.heap.size, 0, none⟩ = some (.int .u8 xc) := by simp [go_sem]
  have m1 : (w1.alloc (.cells #[.int .u8 xc, .slice ya yn ym] 51)).cell? ⟨w1.heap.size, 1, none⟩ = some (.slice ya yn ym) := by simp [go_sem]
  have hb1 : Below w1.heap.size w1 (w1.alloc (.cells #[.int .u8 xc, .slice ya yn ym] 51)) := (Below.refl _ _).alloc (Nat.le_refl _) _
  have p0 := cell_keep hb1 q0; have p1 := cell_keep hb1 q1; have p2 := cell_keep hb1 q2
  have HR1 := Lib.hid (HR.out.below hb1)
  clear hb1 q0 q1 q2
  generalize w1.alloc (.cells #[.int .u8 xc, .slice ya yn ym] 51) = w2 at *
  refine (implStateValid _ _ _ _).mono ?_
  rintro e w3 ⟨rfl, hb⟩
  have q0 := cell_keep hb p0; have q1 := cell_keep hb p1; have q2 := cell_keep hb p2
  have n0 := cell_keep hb m0; have n1 := cell_keep hb m1
  have HB3 := Lib.hid (hB1.trans (hb.mono hB1.size))
  have HR3 := Lib.hid (HR1.out.below hb)
  clear hb p0 p1 p2 m0 m1 hB1
  go_wp2_with fail
  refine (HV.out _ _ _ _ (ok_up ht) HR3.out).mono ?_
  rintro e w4 ⟨rfl, hb⟩
  have HB4 := Lib.hid (HB3.out.trans (hb.mono HB3.out.size))
  clear hb
  go_wp2_with fail
  go_ret2
  exact ⟨rfl, HB4.out⟩

end Go.Proofs.YtheclmdpiijakaaDoor
