/-
  FormatStates of the program.
-/
import Derived.Test.YtgkoljphndgoeaaFsp
import Derived.Test.YtgkoljphndgoeaaSetW
import Derived.Test.YtgkoljphndgoeaaAt0
import Derived.Test.YtgkoljphndgoeaaRow
import Derived.Test.YtgkoljphndgoeaaShelf
namespace Go.Proofs.Ytgkoljphndgoeaa
open Go.RowKit

theorem infoStateF : (Try.prog.info? 28).map (fun i => (i.zero, i.size, i.bytes)) = some (some (.agg #[.int .i64 0, .int .i64 0, .int .i64 0]), 3, 24) := by kernel_rfl
theorem infoStrF : (Try.prog.info? 9).map (fun i => (i.zero, i.size, i.bytes)) = some (some (.string ⟨#[]⟩), 1, 16) := by kernel_rfl
/-- The cells of states by their numbers. -/
def stL (l : List Nat) : List Value := l.flatMap fun k => [.int .i64 (ax (k : Nat)), .int .i64 (ay (k : Nat)), .int .i64 (az (k : Nat))]
theorem stL_snoc (l : List Nat) (k : Nat) : stL (l ++ [k]) = stL l ++ [.int .i64 (ax (k : Nat)), .int .i64 (ay (k : Nat)), .int .i64 (az (k : Nat))] := by simp [stL]
theorem stL_len (l : List Nat) : (stL l).length = l.length * 3 := by
  induction l with
  | nil => rfl
  | cons a l ih =>
    have : stL (a :: l) = [.int .i64 (ax (a : Nat)), .int .i64 (ay (a : Nat)), .int .i64 (az (a : Nat))] ++ stL l := by simp [stL]
    rw [this, List.length_append, ih]; simp; omega
theorem stL_get : ∀ (l : List Nat) (j k : Nat), l[j]? = some k → (stL l)[j * 3]? = some (.int .i64 (ax (k : Nat))) ∧ (stL l)[j * 3 + 1]? = some (.int .i64 (ay (k : Nat))) ∧ (stL l)[j * 3 + 2]? = some (.int .i64 (az (k : Nat)))
  | [], _, _, h => by simp at h
  | a :: l, 0, k, h => by
    have : a = k := by simpa using h
    subst this
    exact ⟨rfl, rfl, rfl⟩
  | a :: l, j + 1, k, h => by
    have h' : l[j]? = some k := by simpa using h
    obtain ⟨h1, h2, h3⟩ := stL_get l j k h'
    have e : stL (a :: l) = [.int .i64 (ax (a : Nat)), .int .i64 (ay (a : Nat)), .int .i64 (az (a : Nat))] ++ stL l := by simp [stL]
    rw [e, List.getElem?_append_right (by simp; omega), List.getElem?_append_right (by simp; omega), List.getElem?_append_right (by simp; omega)]
    refine ⟨?_, ?_, ?_⟩
    · rw [← h1]; congr 1; simp; omega
    · rw [← h2]; congr 1; simp; omega
    · rw [← h3]; congr 1; simp; omega
/-- States by their numbers in a row of their own. -/
def StR (w : World) (g : Nat) (l : List Nat) : Prop := ∀ j k, l[j]? = some k → w.cell? ⟨g, j * 3, none⟩ = some (.int .i64 (ax (k : Nat))) ∧ w.cell? ⟨g, j * 3 + 1, none⟩ = some (.int .i64 (ay (k : Nat))) ∧ w.cell? ⟨g, j * 3 + 2, none⟩ = some (.int .i64 (az (k : Nat)))
theorem StR.kept {w w' : World} {g : Nat} {l : List Nat} (h : StR w g l) (hb : Below w.heap.size w w') : StR w' g l := fun j k hj => by
  obtain ⟨h1, h2, h3⟩ := h j k hj
  exact ⟨ckeep hb h1, ckeep hb h2, ckeep hb h3⟩
theorem joinJ (g c : Nat) (xs : List ByteArray) (w : World) (hc : ∀ (j : Nat) x, xs[j]? = some x → w.cell? ⟨g, j, none⟩ = some (.string x)) (hg : g < w.heap.size) (hn : xs.length ≤ 27) (hcap : xs.length ≤ c) (hs : (jnS xs).size ≤ 1000) :
    Calls Try.prog 27 #[.slice (some ⟨g, 0, none⟩) xs.length c, .string ⟨#[32]⟩] w fun e w' => e = .returned (.string (jnS xs)) ∧ Below w.heap.size w w' := by
  refine Try.strings_Join g 0 c xs ⟨#[32]⟩ w (fun j x h => by rw [Nat.zero_add]; exact hc j x h) hg (by omega) hcap ?_
  have : (jnS xs).size = (Lib.join (xs.map (·.data.toList)) [32]).length := rfl
  show (Lib.join (xs.map (·.data.toList)) [32]).length ≤ _
  omega
theorem own_belowF {w w' : World} {B : Nat} {T : TypeId} {m n : Nat} {v : Value} {xs : List Value} (h : w.ownsRow B T m v n xs) (hb : Below w.heap.size w w') : w'.ownsRow B T m v n xs := by
  obtain ⟨h1, h2⟩ := h
  refine ⟨h1, ?_⟩
  rcases h2 with h2 | ⟨g, cap, cur, a, b, c, d⟩
  · exact .inl h2
  · exact .inr ⟨g, cap, cur, a, b, (hb.block g (Array.getElem?_eq_some_iff.1 c).1).trans c, d⟩
/-- The cells of texts. -/
def txC (xs : List ByteArray) : List Value := xs.map .string
set_option maxRecDepth 100000 in
set_option maxHeartbeats 4000000 in
theorem showStates_any (l : List Nat) (hne : l ≠ []) (hl : l.length ≤ 27) (hk : ∀ k ∈ l, k < 27) (g n cap : Nat) (hn : n = l.length) (w : World) (hr : StR w g l) :
    Calls Try.prog 19 #[.slice (some ⟨g, 0, none⟩) n cap] w fun e w' => e = .returned (.string (jnS (txL l))) ∧ Below w.heap.size w w' := by
  subst hn
  obtain ⟨i0, hi0, hz0, hz1, hz2⟩ := info_parts infoStrF
  have HR := Lib.hid hr
  have HB := Lib.hid (Below.refl w.heap.size w)
  have HN : Hid (Row w w.heap.size 9 (.slice none 0 0) (txC (txL []))) := Row.nil w w.heap.size 9
  clear hr
  go_enter Try.func19, Try.ntmps19
  go_wp2_with fail
  go_loopw [3, 8] (fun v i wr => ∃ k : Nat, k ≤ l.length ∧ i = .int .i64 k ∧ Hid (Row wr w.heap.size 9 v (txC (txL (l.take k)))) ∧ Hid (Below w.heap.size w wr)) (fun _ i _ => l.length - (intOf i).toNat)
  case atStart => exact ⟨0, by omega, rfl, HN, HB⟩
  case round =>
    clear HN HB
    obtain ⟨k, hkl, rfl, RN, RB⟩ := hrel
    by_cases hlt : k < l.length
    · have hlt2 : (k : Int) < (l.length : Nat) := by omega
      obtain ⟨m, hm⟩ : ∃ m, l[k]? = some m := ⟨_, List.getElem?_eq_getElem hlt⟩
      have hm27 := hk m (List.mem_of_getElem? hm)
      obtain ⟨q0, q1, q2⟩ := (HR.out.kept RB.out) k m hm
      have S := fun w => Lib.hid (implFmt_yes (ax m) (ay m) (az m) w (at_st3 (i := (m : Int)) (by omega) (by omega)))
      rw [show txt3 (ax m) (ay m) (az m) = txtAt (m : Nat) from rfl] at S
      have HT0 : txC (txL (l.take (k + 1))) = txC (txL (l.take k)) ++ [.string (txtAt (m : Nat))] := by
        rw [List.take_add_one, hm]; simp [txL, txC]
      have HT := Lib.hid HT0
      clear HT0
      have hln : (txC (txL (l.take k))).length = k := by simp [txL, txC]; omega
      have hx27 : (txC (txL (l.take k))).length ≤ 27 := by omega
      generalize txC (txL (l.take k)) = X at *
      generalize txtAt (m : Nat) = R at *
      go_wp2_with fail
      refine (S _).out.mono ?_
      rintro e W1 ⟨rfl, hb⟩
      have hb0 := (Below.refl wr.heap.size wr).alloc (Nat.le_refl _) (.cells #[.int .i64 (ax m), .int .i64 (ay m), .int .i64 (az m)] 28)
      have HRK := Lib.hid (Row.kept (Row.kept RN.out hb0) hb)
      have HBK := Lib.hid (bnext (bnext RB.out hb0) hb)
      clear hb hb0 q0 q1 q2 RN RB S
      go_wp2_with (at_builtin; refine wpList_append_lies _ (by rfl) _ _ _ (by rfl) w.heap.size 9 i0 _ 1 16 Try.underlying49 hi0 hz0 hz1 hz2 rfl (by omega) _ _ _ (by rfl) (World.ownsRow.alloc HRK.out _) ⟨W1.heap.size, 0, none⟩ 1 1 [.string R] (by rfl) (by rfl) (World.news_of_block (cs := #[.string R]) (t := 9) (fr := (0, 0)) (heap_alloc_new W1 _)) (by simp [Value.oneCell']) (by omega) (by unfold maxLen; omega) (by omega) (by have := HBK.out.size; simp; omega) (W1.heap.size + 1) (by simp) ?_; intro g3 cap3 w3 hown hgrow hat hlt3)
      obtain ⟨hr3, hb3⟩ := Row.after (HBK.out.alloc HBK.out.size _) (Row.kept HRK.out ((Below.refl _ _).alloc (Nat.le_refl _) _)) hown hgrow
      rw [show ([Value.string R] : List Value).length = 1 from rfl, hln] at hr3
      exact ⟨⟨k + 1, by omega, by go_num, by rw [HT.out]; exact hr3, hb3⟩, by simp [intOf]; omega⟩
    · have hke : k = l.length := by omega
      have hr := RN.out
      rw [hke, List.take_of_length_le (Nat.le_refl _)] at hr
      have h1 : ¬ (k : Int) < (l.length : Nat) := by omega
      have hlen : (txC (txL l)).length = l.length := by simp [txL, txC]
      have hpos : 0 < (txC (txL l)).length := by rw [hlen]; exact List.length_pos_iff.2 hne
      obtain ⟨g2, cap2, hv2, hcap2, hc2⟩ : ∃ g2 cap2, u3 = .slice (some ⟨g2, 0, none⟩) (txC (txL l)).length cap2 ∧ (txC (txL l)).length ≤ cap2 ∧ ∀ (j : Nat) (u : Value), (txC (txL l))[j]? = some u → wr.cell? ⟨g2, j, none⟩ = some u := by
        rcases Row.cases hr with ⟨_, h2⟩ | ⟨g2, cap2, h1, _, h3, h4⟩
        · rw [h2] at hpos; simp at hpos
        · exact ⟨g2, cap2, h1, h3, h4⟩
      have hlt2 := (World.ownsRow.lt hr g2 (by rw [hv2]; rfl)).2
      subst hv2
      have hn2 : (txL l).length = l.length := by simp [txL]
      have hcell : ∀ (j : Nat) x, (txL l)[j]? = some x → wr.cell? ⟨g2, j, none⟩ = some (.string x) := fun j x hx => hc2 j (.string x) (by simp [txC, hx])
      have hz := jnS_size l
      have J := Lib.hid (joinJ g2 cap2 (txL l) wr hcell hlt2 (by omega) (by omega) (by omega))
      rw [hn2] at J
      clear hr hcell hc2 RN
      rw [hlen]
      go_wp2_with fail
      refine J.out.mono ?_
      rintro e w4 ⟨rfl, hb⟩
      have HB := Lib.hid (bnext RB.out hb)
      clear hb
      go_wp2_with fail
      go_ret
      exact ⟨rfl, HB.out⟩
theorem nb0_iff (F : Nat → Bool) : nb 27 F = 0 ↔ fsI F 27 = [] := by
  rw [fsI_nil]
  constructor
  · intro h i hi
    exact nb_inj (k := 27) (F := F) (G := fun _ => false) (by rw [h, nb_zero 27 (fun _ _ => rfl)]) i hi
  · exact fun h => nb_zero 27 h
set_option maxRecDepth 100000 in
set_option maxHeartbeats 4000000 in
theorem implFs_yes (p : ByteArray) (w : World) (hp : Set27 p) : Calls Try.prog 6 #[.string p] w fun e w' => e = .returned (.string (fsT (hs p.data.toList))) ∧ Below w.heap.size w w' := by
  have C := fun w => Lib.hid (implRead_yes p w hp)
  clear hp
  generalize hs p.data.toList = F at *
  by_cases hnil : fsI F 27 = []
  · have h0 : nb 27 F = 0 := (nb0_iff F).2 hnil
    rw [h0] at C
    have HR : Hid (fsT F = ⟨#[45]⟩) := if_pos hnil
    clear h0 hnil
    go_enter Try.func6, Try.ntmps6
    go_wp2_with fail
    refine (C _).out.mono ?_
    rintro e w' ⟨rfl, rfl⟩
    go_wp2_with fail
    go_ret
    exact ⟨by rw [HR.out]; rfl, Below.refl _ _⟩
  · have h0 : ((nb 27 F : Nat) : Int) ≠ 0 := fun h => hnil ((nb0_iff F).1 (by omega))
    have hz : (((nb 27 F : Nat) : Int) == 0) = false := by rw [beq_eq_false_iff_ne]; exact h0
    have HR : Hid (fsT F = jnS (txL (fsI F 27))) := if_neg hnil
    have HNL := Lib.hid hnil
    obtain ⟨i0, hi0, hz0, hz1, hz2⟩ := info_parts infoStateF
    clear h0 hnil
    go_enter Try.func6, Try.ntmps6
    go_wp2_with fail
    refine (C _).out.mono ?_
    rintro e w' ⟨rfl, rfl⟩
    go_wp2_with fail
    go_loopw [5, 6, 8, 18] (fun v _ _ i wr => ∃ k : Nat, k ≤ 27 ∧ i = .int .i64 k ∧ Hid (wr.ownsRow w.heap.size 28 3 v (fsI F k).length (stL (fsI F k))) ∧ Hid (Below w.heap.size w wr)) (fun _ _ _ i _ => 27 - (intOf i).toNat)
    case atStart => exact ⟨0, by omega, rfl, ⟨rfl, .inl ⟨rfl, rfl⟩⟩, Below.refl _ _⟩
    case round =>
      obtain ⟨k, hk, rfl, HV, HB⟩ := hrel
      by_cases hlt : k < 27
      · have hlt2 : (k : Int) < 27 := by omega
        have A := fun w => Lib.hid (implAt_yes k w (by omega) (by omega))
        have B := fun w => Lib.hid (implHasB F k w hlt)
        have hlen := fsI_len F k
        cases hF : F k
        · rw [hF] at B
          have HS : Hid (fsI F (k + 1) = fsI F k) := by show (if F k then _ else _) = _; rw [hF]; rfl
          clear hF
          go_wp2_with fail
          refine (A _).out.mono ?_
          rintro e w1 ⟨rfl, hb⟩
          have HB1 := Lib.hid (bnext HB.out hb)
          have HV1 := Lib.hid (own_belowF HV.out hb)
          clear hb HB HV
          go_wp2_with fail
          refine (B _).out.mono ?_
          rintro e w' ⟨rfl, rfl⟩
          have HB2 := Lib.hid (HB1.out.alloc HB1.out.size (.cells #[.int .i64 (ax k), .int .i64 (ay k), .int .i64 (az k)] 28))
          have HV2 := Lib.hid (World.ownsRow.alloc HV1.out (.cells #[.int .i64 (ax k), .int .i64 (ay k), .int .i64 (az k)] 28))
          go_wp2_with fail
          exact ⟨⟨k + 1, by omega, by go_num, by rw [HS.out]; exact HV2, HB2⟩, by simp [intOf]; omega⟩
        · rw [hF] at B
          have HS : Hid (fsI F (k + 1) = fsI F k ++ [k]) := by show (if F k then _ else _) = _; rw [hF]; rfl
          have HSL := Lib.hid (stL_snoc (fsI F k) k)
          have HSN : Hid ((fsI F k ++ [k]).length = (fsI F k).length + 1) := by show _ = _; simp
          clear hF
          generalize fsI F k = l at *
          go_wp2_with fail
          refine (A _).out.mono ?_
          rintro e w1 ⟨rfl, hb⟩
          have b0 := (Below.refl w1.heap.size w1).alloc (Nat.le_refl _) (.cells #[.int .i64 (ax k), .int .i64 (ay k), .int .i64 (az k)] 28)
          have HB2 := Lib.hid (bnext (bnext HB.out hb) b0)
          have HV2 := Lib.hid (own_belowF (own_belowF HV.out hb) b0)
          have k0 := Blk.new w1 #[.int .i64 (ax k), .int .i64 (ay k), .int .i64 (az k)] 28
          obtain ⟨q0, q1, q2⟩ := k0.c3
          clear hb b0 HB HV k0
          go_wp2_with fail
          generalize w1.alloc (.cells #[.int .i64 (ax k), .int .i64 (ay k), .int .i64 (az k)] 28) = w2 at *
          generalize w1.heap.size = bx at *
          refine (B _).out.mono ?_
          rintro e w' ⟨rfl, rfl⟩
          go_wp2_with (at_builtin; refine wpList_append_lies _ (by rfl) _ _ _ (by rfl) w.heap.size 28 i0 _ 3 24 Try.underlying40 hi0 hz0 hz1 hz2 rfl (by omega) _ _ _ (by rfl) (World.ownsRow.alloc HV2.out _) ⟨w2.heap.size, 0, none⟩ 1 1 [.int .i64 (ax k), .int .i64 (ay k), .int .i64 (az k)] (by rfl) (by rfl) (World.news_of_block (cs := #[.int .i64 (ax k), .int .i64 (ay k), .int .i64 (az k)]) (t := 28) (fr := (0, 0)) (heap_alloc_new w2 _)) (by simp [Value.oneCell']) (by omega) (by unfold maxLen; omega) (by omega) (by have := HB2.out.size; simp; omega) (w2.heap.size + 1) (by simp) ?_; intro g3 cap3 w3 hown hgrow hat hlt3)
          have hb3 := (HB2.out.alloc HB2.out.size (.cells #[.int .i64 (ax k), .int .i64 (ay k), .int .i64 (az k)] 28)).grown hgrow (by have := HB2.out.size; simp; omega) (fun k hk => (World.ownsRow.lt HV2.out k hk).1)
          exact ⟨⟨k + 1, by omega, by go_num, by rw [HS.out, HSL.out, HSN.out]; exact hown, hb3⟩, by simp [intOf]; omega⟩
      · have hk2 : k = 27 := by omega
        subst hk2
        obtain ⟨g2, cap2, rfl, hg2, hglt⟩ := HV.out.form (List.length_pos_iff.2 HNL.out)
        have hst : StR wr g2 (fsI F 27) := fun j k hj => by
          obtain ⟨h1, h2, h3⟩ := stL_get _ j k hj
          have hjl := (List.getElem?_eq_some_iff.1 hj).1
          have hsl := stL_len (fsI F 27)
          refine ⟨?_, ?_, ?_⟩
          · rw [← h1]; exact World.ownsRow.cellAt HV.out _ (by omega)
          · rw [← h2]; exact World.ownsRow.cellAt HV.out _ (by omega)
          · rw [← h3]; exact World.ownsRow.cellAt HV.out _ (by omega)
        have J := Lib.hid (showStates_any (fsI F 27) HNL.out (fsI_len F 27) (fsI_lt F 27) g2 _ cap2 rfl wr hst)
        clear hst HV
        go_wp2_with fail
        refine J.out.mono ?_
        rintro e w4 ⟨rfl, hb⟩
        have HB4 := Lib.hid (bnext HB.out hb)
        clear hb
        go_wp2_with fail
        go_ret
        exact ⟨by rw [HR.out]; rfl, HB4.out⟩
set_option maxHeartbeats 2000000 in
theorem implFs_no (p : ByteArray) (w : World) (hp : ¬ Set27 p) : Calls Try.prog 6 #[.string p] w fun e w' => e = .returned (.string ⟨#[]⟩) ∧ Below w.heap.size w w' := by
  have C := fun w => Lib.hid (implRead_no p w hp)
  clear hp
  go_enter Try.func6, Try.ntmps6
  go_wp2_with fail
  refine (C _).out.mono ?_
  rintro e w' ⟨rfl, rfl⟩
  go_wp2_with fail
  go_ret
  exact ⟨rfl, Below.refl _ _⟩
end Go.Proofs.Ytgkoljphndgoeaa
