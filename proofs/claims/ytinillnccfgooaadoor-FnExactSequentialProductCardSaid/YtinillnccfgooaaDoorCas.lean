/-
  spec.l7Case: the letters of the variables changed: a loop over the bytes of the text.
-/
import Derived.Test.YtinillnccfgooaaDoorByt
import Derived.Test.YtinillnccfgooaaDoorGPure
import Derived.Lib.ConvBytes
namespace Go.Proofs.YtinillnccfgooaaDoor
open Go.RowKit Go.Lib

/-- The letter of the same variable of the second state (of the other state). -/
def mir (other : Bool) (c : UInt8) : UInt8 := if 120 ≤ c ∧ c ≤ 122 then c - 32 else if 88 ≤ c ∧ c ≤ 90 ∧ other = true then c + 32 else c
def mix (other : Bool) (l : List UInt8) (k : Nat) : List UInt8 := (l.take k).map (mir other) ++ l.drop k
theorem mix_len (o : Bool) (l : List UInt8) (k : Nat) : (mix o l k).length = l.length := by unfold mix; simp; omega
theorem mix_all (o : Bool) (l : List UInt8) : mix o l l.length = l.map (mir o) := by unfold mix; simp
theorem mix_set (o : Bool) (l : List UInt8) (k : Nat) (hk : k < l.length) : (mix o l k).set k (mir o l[k]) = mix o l (k + 1) := by
  unfold mix
  rw [List.set_append_right _ _ (by simp; omega)]
  rw [show k - ((l.take k).map (mir o)).length = 0 by simp; omega]
  rw [List.drop_eq_getElem_cons hk, List.set_cons_zero, List.take_succ_eq_append_getElem hk, List.map_append, List.append_assoc]
  rfl
theorem mix_same (o : Bool) (l : List UInt8) (k : Nat) (hk : k < l.length) (h : mir o l[k] = l[k]) : mix o l k = mix o l (k + 1) := by
  unfold mix
  rw [List.take_succ_eq_append_getElem hk, List.map_append, List.append_assoc, List.map_cons, h]
  show _ = _ ++ (l[k] :: List.drop (k + 1) l)
  rw [← List.drop_eq_getElem_cons hk]

/-- A block made of a string: its bytes, spare cells, the mark of a conversion behind them. -/
def Cv (w : World) (b : Nat) (l : List UInt8) (sp : Array Value) : Prop := w.heap[b]? = some (.cells (u8s l ++ sp) 5 ((u8s l ++ sp).size, (u8s l ++ sp).size + 1))
theorem u8s_size (l : List UInt8) : (u8s l).size = l.length := by simp [u8s]
theorem Cv.kept {w w' : World} {b : Nat} {l : List UInt8} {sp : Array Value} (h : Cv w b l sp) (hb : Below w.heap.size w w') : Cv w' b l sp := (hb.block b (Array.getElem?_eq_some_iff.1 h).1).trans h
theorem Cv.get {w : World} {b : Nat} {l : List UInt8} {sp : Array Value} (h : Cv w b l sp) (i : Nat) (hi : i < l.length) : w.cell? ⟨b, i, none⟩ = some (.int .u8 (l[i].toNat : Int)) := by
  rw [cell_of_row w b i _ _ _ h, Array.getElem?_append_left (by rw [u8s_size]; exact hi)]
  simp [u8s, bv, hi]
theorem Cv.free {w : World} {b : Nat} {l : List UInt8} {sp : Array Value} (h : Cv w b l sp) (i : Nat) (hi : i < l.length) : w.frozen? ⟨b, i, none⟩ = false := by
  unfold Cv at h
  have := u8s_size l
  simp [World.frozen?, h]
  omega
theorem Cv.set {w : World} {b : Nat} {l : List UInt8} {sp : Array Value} (h : Cv w b l sp) (i : Nat) (hi : i < l.length) (c : UInt8) : Cv (w.setCell ⟨b, i, none⟩ (.int .u8 c.toNat)) b (l.set i c) sp := by
  unfold Cv at h ⊢
  have hlt := (Array.getElem?_eq_some_iff.1 h).1
  have h' := (Array.getElem?_eq_some_iff.1 h).2
  have e : u8s (l.set i c) = (u8s l).setIfInBounds i (.int .u8 c.toNat) := by unfold u8s; simp [bv, List.map_set]
  rw [e]
  have e2 : (u8s l).setIfInBounds i (.int .u8 c.toNat) ++ sp = (u8s l ++ sp).setIfInBounds i (.int .u8 c.toNat) := by
    apply Array.ext_getElem?
    intro j
    simp only [Array.getElem?_setIfInBounds, Array.getElem?_append, Array.size_setIfInBounds, Array.size_append]
    have := u8s_size l
    by_cases e3 : i = j
    · subst e3; simp [this, hi]; omega
    · simp [e3]
  rw [e2]
  show (w.heap.modify b _)[b]? = _
  rw [Array.getElem?_eq_getElem (by simpa using hlt), Array.getElem_modify_self, h']
  simp
theorem Cv.str {w : World} {b : Nat} {l : List UInt8} {sp : Array Value} (h : Cv w b l sp) (n c : Nat) (hn : n = l.length) : (convert 87 9 (.slice (some ⟨b, 0, none⟩) n c)).run Tryd.prog w = .ok (.string (bs l)) w := by
  subst hn
  rw [run_convert_bytes_string _ _ _ 5 _ _ _ Tryd.underlying87 Tryd.underlying5 Tryd.underlying9]
  rw [run_bytesToString _ _ l.length c (l.map (fun c : UInt8 => (c.toNat : Int)))]
  · rw [fold_push]
    congr 2
  · have h2 := run_loadCells_list (w := w) (P := Tryd.prog) ⟨b, 0, none⟩ (l.map bv) (fun j v hj => by
      rw [List.getElem?_map] at hj
      have hlt : j < l.length := by
        rcases Nat.lt_or_ge j l.length with h | h
        · exact h
        · rw [List.getElem?_eq_none h] at hj; cases hj
      rw [List.getElem?_eq_getElem hlt] at hj
      simp at hj
      subst hj
      have e : (⟨b, 0, none⟩ : Addr).add j = ⟨b, j, none⟩ := by
        by_cases h0 : j = 0 <;> simp [Addr.add, h0]
      rw [e]
      exact h.get j hlt)
    simp at h2
    rw [h2]
    simp [bv, List.map_map, Function.comp_def]
theorem Cv.new (w : World) (s : ByteArray) : Cv (bytesWorld w 5 s) w.heap.size s.data.toList (Array.replicate (grownCap w s.size 0 5 - s.size) (.int .u8 0)) := by
  unfold Cv
  have e : u8s s.data.toList = s.data.map fun b => Value.int .u8 b.toNat := by
    unfold u8s
    apply Array.ext'
    simp [bv]
  rw [e]
  exact bytesWorld_at_new w _ s
theorem below_bytes (w : World) (e : TypeId) (s : ByteArray) : Below w.heap.size w (bytesWorld w e s) := ⟨rfl, rfl, rfl, by rw [bytesWorld_size]; omega, fun _ hj => bytesWorld_at_old w e s _ hj⟩

theorem mir_low {o : Bool} {c : UInt8} (h1 : 120 ≤ c.toNat) (h2 : c.toNat ≤ 122) : ((mir o c).toNat : Int) = (c.toNat : Int) - 32 := by
  have e : mir o c = c - 32 := by unfold mir; rw [if_pos ⟨by rw [UInt8.le_iff_toNat_le]; exact h1, by rw [UInt8.le_iff_toNat_le]; exact h2⟩]
  rw [e, UInt8.toNat_sub_of_le _ _ (by rw [UInt8.le_iff_toNat_le]; show 32 ≤ _; omega)]
  show ((c.toNat - 32 : Nat) : Int) = _
  omega
theorem mir_up {c : UInt8} (h1 : 88 ≤ c.toNat) (h2 : c.toNat ≤ 90) : ((mir true c).toNat : Int) = (c.toNat : Int) + 32 := by
  have e : mir true c = c + 32 := by
    unfold mir
    rw [if_neg (fun h => by have := UInt8.le_iff_toNat_le.1 h.1; have e2 : (120 : UInt8).toNat = 120 := rfl; omega), if_pos ⟨by rw [UInt8.le_iff_toNat_le]; exact h1, by rw [UInt8.le_iff_toNat_le]; exact h2, rfl⟩]
  rw [e, UInt8.toNat_add]
  show (((c.toNat + 32) % 256 : Nat) : Int) = _
  omega
theorem mir_else {o : Bool} {c : UInt8} (h1 : ¬ (120 ≤ c.toNat ∧ c.toNat ≤ 122)) (h2 : ¬ (88 ≤ c.toNat ∧ c.toNat ≤ 90 ∧ o = true)) : mir o c = c := by
  unfold mir
  have g1 : ¬ (120 ≤ c ∧ c ≤ 122) := fun h => h1 (by have a := UInt8.le_iff_toNat_le.1 h.1; have b := UInt8.le_iff_toNat_le.1 h.2; exact ⟨a, b⟩)
  have g2 : ¬ (88 ≤ c ∧ c ≤ 90 ∧ o = true) := fun h => h2 (by have a := UInt8.le_iff_toNat_le.1 h.1; have b := UInt8.le_iff_toNat_le.1 h.2.1; exact ⟨a, b, h.2.2⟩)
  rw [if_neg g1, if_neg g2]

set_option maxRecDepth 100000 in
set_option maxHeartbeats 8000000 in
theorem case_any (other : Bool) (s : ByteArray) (hs : s.size ≤ 1000000) (w : World) : Calls Tryd.prog 43 #[.string s, .bool other] w fun e w' => e = .returned (.string (bs (s.data.toList.map (mir other)))) ∧ Below w.heap.size w w' := by
  have kc := Go.Lib.run_convert_string_bytes (P := Tryd.prog) w 9 87 5 s Tryd.underlying9 Tryd.underlying87 Tryd.underlying5
  have K0 := Cv.new w s
  have KB := Lib.hid (below_bytes w 5 s)
  have hsz : s.data.toList.length = s.size := rfl
  generalize grownCap w s.size 0 5 = cap at *
  generalize bytesWorld w 5 s = wb at *
  generalize Array.replicate (cap - s.size) (Value.int IntKind.u8 0) = sp at *
  replace K0 := Lib.hid K0
  go_enter Tryd.func43, Tryd.ntmps43
  go_wp2_with fail
  clear kc
  go_loopw [6, 15, 33] (fun i _ _ wr => ∃ k : Nat, k ≤ s.size ∧ i = .int .i64 k ∧ Hid (Cv wr w.heap.size (mix other s.data.toList k) sp) ∧ Hid (Below w.heap.size w wr)) (fun i _ _ _ => s.size - (intOf i).toNat)
  case atStart => exact ⟨0, by omega, rfl, K0, KB⟩
  case round =>
    clear K0 KB
    obtain ⟨k, hk, rfl, R0, RB⟩ := hrel
    by_cases hlt : k < s.size
    · have h0 : (0 : Int) ≤ (k : Int) := by omega
      have h1 : (k : Int) < (s.size : Int) := by omega
      have hl : k < s.data.toList.length := by omega
      have hc : s.data.toList[k] = s[k] := by rfl
      obtain ⟨v, c0⟩ : ∃ v, wr.cell? ⟨w.heap.size, k, none⟩ = some (.int .u8 v) := ⟨_, R0.out.get k (by rw [mix_len]; omega)⟩
      have f0 := R0.out.free k (by rw [mix_len]; omega)
      have RS := fun c => R0.out.set k (by rw [mix_len]; omega) c
      have MS := mix_set other s.data.toList k hl
      have MN := mix_same other s.data.toList k hl
      rw [hc] at MS MN
      replace RS := Lib.hid RS
      replace MS := Lib.hid MS
      replace MN := Lib.hid MN
      by_cases hA : 120 ≤ s[k].toNat ∧ s[k].toNat ≤ 122
      · have a1 : (120 : Int) ≤ (s[k].toNat : Int) := by omega
        have a2 : (s[k].toNat : Int) ≤ 122 := by omega
        have hw := mir_low (o := other) hA.1 hA.2
        have R1 := RS.out (mir other s[k])
        rw [MS.out, hw] at R1
        replace R1 := Lib.hid R1
        have RB1 := Lib.hid (RB.out.setCell (p := ⟨w.heap.size, k, none⟩) (Nat.le_refl _) (.int .u8 ((s[k].toNat : Int) - 32)))
        clear hA hw hc
        go_wp2_with fail
        exact ⟨⟨k + 1, by omega, by go_num, R1, RB1⟩, by simp [intOf]; omega⟩
      · by_cases hB : 88 ≤ s[k].toNat ∧ s[k].toNat ≤ 90 ∧ other = true
        · have a1 : (88 : Int) ≤ (s[k].toNat : Int) := by omega
          have a2 : (s[k].toNat : Int) ≤ 90 := by omega
          have a3 : ¬ (120 : Int) ≤ (s[k].toNat : Int) := by omega
          obtain ⟨b1, b2, rfl⟩ := hB
          have hw := mir_up b1 b2
          have R1 := RS.out (mir true s[k])
          rw [MS.out, hw] at R1
          replace R1 := Lib.hid R1
          have RB1 := Lib.hid (RB.out.setCell (p := ⟨w.heap.size, k, none⟩) (Nat.le_refl _) (.int .u8 ((s[k].toNat : Int) + 32)))
          clear hA hw hc b1 b2
          go_wp2_with fail
          exact ⟨⟨k + 1, by omega, by go_num, R1, RB1⟩, by simp [intOf]; omega⟩
        · have hm := mir_else hA hB
          replace MN := Lib.hid (MN.out hm)
          have R1 := R0.out
          rw [MN.out] at R1
          replace R1 := Lib.hid R1
          clear hm hc RS MS MN c0 f0
          by_cases h120 : 120 ≤ s[k].toNat
          · have a1 : (120 : Int) ≤ (s[k].toNat : Int) := by omega
            have a2 : ¬ (s[k].toNat : Int) ≤ 122 := by omega
            have a3 : (88 : Int) ≤ (s[k].toNat : Int) := by omega
            have a4 : ¬ (s[k].toNat : Int) ≤ 90 := by omega
            clear hA hB h120
            go_wp2_with fail
            exact ⟨⟨k + 1, by omega, by go_num, R1, RB⟩, by simp [intOf]; omega⟩
          · have a1 : ¬ (120 : Int) ≤ (s[k].toNat : Int) := by omega
            by_cases h88 : 88 ≤ s[k].toNat
            · have a3 : (88 : Int) ≤ (s[k].toNat : Int) := by omega
              by_cases h90 : s[k].toNat ≤ 90
              · have a4 : (s[k].toNat : Int) ≤ 90 := by omega
                have ho : other = false := by
                  cases other
                  · rfl
                  · exact absurd ⟨h88, h90, rfl⟩ hB
                subst ho
                clear hA hB h120 h88 h90
                go_wp2_with fail
                exact ⟨⟨k + 1, by omega, by go_num, R1, RB⟩, by simp [intOf]; omega⟩
              · have a4 : ¬ (s[k].toNat : Int) ≤ 90 := by omega
                clear hA hB h120 h88 h90
                go_wp2_with fail
                exact ⟨⟨k + 1, by omega, by go_num, R1, RB⟩, by simp [intOf]; omega⟩
            · have a3 : ¬ (88 : Int) ≤ (s[k].toNat : Int) := by omega
              clear hA hB h120 h88
              go_wp2_with fail
              exact ⟨⟨k + 1, by omega, by go_num, R1, RB⟩, by simp [intOf]; omega⟩
    · have hk2 : k = s.size := by omega
      subst hk2
      have R := R0.out
      rw [show mix other s.data.toList s.size = s.data.toList.map (mir other) by rw [← hsz, mix_all]] at R
      have hst := R.str s.size cap (by rw [List.length_map]; exact hsz.symm)
      have hnl : ¬ (s.size : Int) < (s.size : Int) := by omega
      clear R R0
      go_wp2_with fail
      go_ret
      exact ⟨rfl, RB.out⟩
end Go.Proofs.YtinillnccfgooaaDoor
