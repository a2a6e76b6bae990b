/-
  Reading relations: the program's readRel.
-/
import Derived.Test.YtinillnccfgooaaDoorRk
namespace Go.Proofs.YtinillnccfgooaaDoor
open Go.RowKit Go.Great

theorem one_blk (w : World) (A : Array Value) (t : TypeId) : Blk (w.alloc (.cells A t)) w.heap.size A t ∧ Below w.heap.size w (w.alloc (.cells A t)) ∧ (w.alloc (.cells A t)).heap.size = w.heap.size + 1 :=
  ⟨Blk.new w A t, (Below.refl _ _).alloc (Nat.le_refl _) _, by simp⟩
theorem two_blk (w : World) (A B : Array Value) (t u : TypeId) : Blk ((w.alloc (.cells A t)).alloc (.cells B u)) w.heap.size A t ∧ Blk ((w.alloc (.cells A t)).alloc (.cells B u)) (w.heap.size + 1) B u ∧ Below w.heap.size w ((w.alloc (.cells A t)).alloc (.cells B u)) ∧ ((w.alloc (.cells A t)).alloc (.cells B u)).heap.size = w.heap.size + 2 := by
  have h1 := Blk.new (w.alloc (.cells A t)) B u
  rw [show (w.alloc (.cells A t)).heap.size = w.heap.size + 1 by simp] at h1
  exact ⟨(Blk.new w A t).alloc _, h1, ((Below.refl _ _).alloc (Nat.le_refl _) _).alloc (by simp) _, by simp⟩
theorem three_blk (w : World) (A B C : Array Value) (t u v : TypeId) : Blk (((w.alloc (.cells A t)).alloc (.cells B u)).alloc (.cells C v)) w.heap.size A t ∧ Blk (((w.alloc (.cells A t)).alloc (.cells B u)).alloc (.cells C v)) (w.heap.size + 1) B u ∧ Blk (((w.alloc (.cells A t)).alloc (.cells B u)).alloc (.cells C v)) (w.heap.size + 2) C v ∧ Below w.heap.size w (((w.alloc (.cells A t)).alloc (.cells B u)).alloc (.cells C v)) ∧ (((w.alloc (.cells A t)).alloc (.cells B u)).alloc (.cells C v)).heap.size = w.heap.size + 3 := by
  obtain ⟨h1, h2, h3, h4⟩ := two_blk w A B t u
  have h5 := Blk.new ((w.alloc (.cells A t)).alloc (.cells B u)) C v
  rw [h4] at h5
  exact ⟨h1.alloc _, h2.alloc _, h5, h3.alloc (by omega) _, by simp⟩

def RelPost (T : Nat → Nat → Bool) (w : World) (e : Ending) (w' : World) : Prop := e = .returned (.agg (relC .u32 T)) ∧ Below w.heap.size w w'
def ReadPost (T : Nat → Nat → Bool) (ok : Bool) (w : World) (e : Ending) (w' : World) : Prop := e = .returned (.tuple #[.agg (relC .u32 T), .bool ok]) ∧ Below w.heap.size w w'
theorem row_read {s : ByteArray} (hs : Rel729 s) {k : Nat} (hk : k < 27) (x : ByteArray) (hx : x = s.extract (27 * k) (27 * k + 27)) (w : World) : Calls Tryd.prog 103 #[.string x] w fun e w' => e = .returned (.tuple #[.int .u32 (nb 27 (relS s.data.toList k)), .bool true]) ∧ w = w' := by
  subst hx
  obtain ⟨h1, h2⟩ := row_of hs hk
  have := implRead_yes _ w h1
  rw [nb_congr h2] at this
  exact this
theorem rows_at (k : Nat) (hk : k < 27) : (0 : Int) ≤ 27 * (k : Int) ∧ 27 * (k : Int) ≤ 27 * ((k : Int) + 1) ∧ 27 * ((k : Int) + 1) ≤ 729 := by omega

set_option maxRecDepth 100000 in
set_option maxHeartbeats 4000000 in
theorem readRel_yes (s : ByteArray) (hs : Rel729 s) (w : World) : Calls Tryd.prog 70 #[.string s] w (ReadPost (relS s.data.toList) true w) := by
  have hz := hs.size
  obtain ⟨k0, k1, kb, kz⟩ := two_blk w (relC .u32 noR) (relC .u32 noR) 75 75
  have K0 := Lib.hid k0
  have K1 := Lib.hid k1
  have KB := Lib.hid kb
  have CR := fun k hk x hx w => Lib.hid (row_read hs (k := k) hk x hx w)
  clear k0 k1 kb kz hs
  go_enter Tryd.func70, Tryd.ntmps70
  go_wp2_with (first
    | (refine r_alloc rfl rfl (some 2) rfl w.heap.size rfl ?_)
    | (refine r_alloc rfl rfl (some 4) rfl (w.heap.size + 1) (by simp) ?_))
  generalize (w.alloc (.cells (relC .u32 noR) 75)).alloc (.cells (relC .u32 noR) 75) = w0 at *
  go_loopw [12] (fun i wr => ∃ k : Nat, k ≤ 27 ∧ i = .int .i64 k ∧ Hid (Blk wr (w.heap.size + 1) (relC .u32 (mixR k (relS s.data.toList) noR)) 75) ∧ Hid (Blk wr w.heap.size (relC .u32 noR) 75) ∧ Hid (Below w.heap.size w wr)) (fun i _ => 27 - (intOf i).toNat)
  case atStart => exact ⟨0, by omega, rfl, by rw [mixR_zero]; exact K1, K0, KB⟩
  case round =>
    clear K0 K1 KB
    obtain ⟨k, hk, rfl, R1, R0, RB⟩ := hrel
    by_cases hlt : k < 27
    · obtain ⟨b1, b2, b3⟩ := rows_at k hlt
      have C := CR k hlt
      have c0 : wr.cell? ⟨w.heap.size + 1, k, none⟩ = some (.int .u32 (nb 27 (noR k))) := (R1.out.cell k).trans (mixR_at hlt)
      have c1 := R1.out.free k
      go_wp2_with fail
      refine (C _ (by rw [Nat.mul_succ]) _).out.mono ?_
      rintro e w2 ⟨rfl, rfl⟩
      go_wp2_with fail
      refine ⟨⟨k + 1, by omega, by go_num, ?_, Lib.hid (R0.out.setOther (p := ⟨w.heap.size + 1, k, none⟩) (by show w.heap.size ≠ w.heap.size + 1; omega) _), Lib.hid (RB.out.setCell (p := ⟨w.heap.size + 1, k, none⟩) (by show w.heap.size ≤ w.heap.size + 1; omega) _)⟩, by simp [intOf]; omega⟩
      have := R1.out.set k (.int .u32 (nb 27 (relS s.data.toList k)))
      rw [mixR_step hlt] at this
      exact this
    · have hk2 : k = 27 := by omega
      subst hk2
      have R2 := R1.out
      rw [mixR_all] at R2
      replace R1 := Lib.hid R2
      clear R2
      go_wp2_with (first
        | (refine wpList_load_row rfl 75 _ rfl (w.heap.size + 1) (by rfl) 75 (relC .u32 (relS s.data.toList)) (0, 0) _ R1.out undR rfl (infoR _) ?_)
        | (refine wpList_store_row rfl 75 _ _ rfl w.heap.size (relC .u32 (relS s.data.toList)) (by rfl) (by rfl) 75 (relC .u32 noR) R0.out (infoR _) (by rw [relC_size, relC_size]) (relC_one _ _) ?_))
      exact bodyPost_ret (v := .tuple #[.agg (relC .u32 (relS s.data.toList)), .bool true]) (results_cs rfl _ _ w.heap.size 75 _ (0, 0) _ (by rfl) _ (by rfl) (R0.out.row _) undR rfl (infoR _)) rfl ⟨rfl, Below.setRow RB.out (Nat.le_refl _) _⟩
theorem row_hs {s : ByteArray} (hz : s.size = 729) {k : Nat} (hk : k < 27) : (s.extract (27 * k) (27 * k + 27)).data.toList.length = 27 ∧ ∀ j, j < 27 → (s.extract (27 * k) (27 * k + 27)).data.toList[j]? = s.data.toList[27 * k + j]? := by
  have hl : s.data.toList.length = 729 := by simpa using hz
  have e : (s.extract (27 * k) (27 * k + 27)).data.toList = (s.data.toList.drop (27 * k)).take 27 := by
    rw [ByteArray.data_extract, Array.toList_extract, List.extract_eq_take_drop]
    congr 1
    omega
  refine ⟨by rw [e, List.length_take, List.length_drop]; omega, fun j hj => ?_⟩
  rw [e, List.getElem?_take, if_pos hj, List.getElem?_drop]
theorem rel_of_rows {s : ByteArray} (hz : s.size = 729) (h : ∀ k, k < 27 → Set27 (s.extract (27 * k) (27 * k + 27))) : Rel729 s := by
  have hl : s.data.toList.length = 729 := by simpa using hz
  refine ⟨hl, fun i hi => ?_⟩
  have hk : i / 27 < 27 := by omega
  obtain ⟨h1, h2⟩ := row_hs hz hk
  have h3 := h2 (i % 27) (by omega)
  have e : 27 * (i / 27) + i % 27 = i := by omega
  rw [e, List.getElem?_eq_getElem hi] at h3
  have h4 : i % 27 < (s.extract (27 * (i / 27)) (27 * (i / 27) + 27)).data.toList.length := by omega
  rw [List.getElem?_eq_getElem h4] at h3
  injection h3 with h3
  have := (h _ hk).2 (i % 27) h4
  rw [h3] at this
  exact this
theorem row_read2 {s : ByteArray} (hz : s.size = 729) {k : Nat} (hk : k < 27) (hrow : Set27 (s.extract (27 * k) (27 * k + 27))) (x : ByteArray) (hx : x = s.extract (27 * k) (27 * k + 27)) (w : World) : Calls Tryd.prog 103 #[.string x] w fun e w' => e = .returned (.tuple #[.int .u32 (nb 27 (relS s.data.toList k)), .bool true]) ∧ w = w' := by
  subst hx
  have := implRead_yes _ w hrow
  rw [nb_congr (G := relS s.data.toList k) fun j hj => by unfold relS hs; rw [(row_hs hz hk).2 j hj]] at this
  exact this
theorem row_read3 {s : ByteArray} {k : Nat} (hs : ¬ Set27 (s.extract (27 * k) (27 * k + 27))) (x : ByteArray) (hx : x = s.extract (27 * k) (27 * k + 27)) (w : World) : Calls Tryd.prog 103 #[.string x] w fun e w' => e = .returned (.tuple #[.int .u32 0, .bool false]) ∧ w = w' := by
  subst hx
  exact implRead_no _ w hs

set_option maxRecDepth 100000 in
set_option maxHeartbeats 4000000 in
theorem readRel_no (s : ByteArray) (hs : ¬ Rel729 s) (w : World) : Calls Tryd.prog 70 #[.string s] w (ReadPost noR false w) := by
  by_cases hz : s.size = 729
  · obtain ⟨k0, k1, kb, kz⟩ := two_blk w (relC .u32 noR) (relC .u32 noR) 75 75
    have K0 := Lib.hid k0
    have K1 := Lib.hid k1
    have KB := Lib.hid kb
    have HN := Lib.hid hs
    have HZ := Lib.hid hz
    clear k0 k1 kb kz hs
    go_enter Tryd.func70, Tryd.ntmps70
    go_wp2_with (first
      | (refine r_alloc rfl rfl (some 2) rfl w.heap.size rfl ?_)
      | (refine r_alloc rfl rfl (some 4) rfl (w.heap.size + 1) (by simp) ?_))
    generalize (w.alloc (.cells (relC .u32 noR) 75)).alloc (.cells (relC .u32 noR) 75) = w0 at *
    go_loopw [12] (fun i wr => ∃ k : Nat, k ≤ 27 ∧ i = .int .i64 k ∧ Hid (Blk wr (w.heap.size + 1) (relC .u32 (mixR k (relS s.data.toList) noR)) 75) ∧ Hid (Blk wr w.heap.size (relC .u32 noR) 75) ∧ Hid (Below w.heap.size w wr) ∧ Hid (∀ j, j < k → Set27 (s.extract (27 * j) (27 * j + 27)))) (fun i _ => 27 - (intOf i).toNat)
    case atStart => exact ⟨0, by omega, rfl, by rw [mixR_zero]; exact K1, K0, KB, fun j hj => by omega⟩
    case round =>
      clear K0 K1 KB
      obtain ⟨k, hk, rfl, R1, R0, RB, RS⟩ := hrel
      by_cases hlt : k < 27
      · obtain ⟨b1, b2, b3⟩ := rows_at k hlt
        have c0 : wr.cell? ⟨w.heap.size + 1, k, none⟩ = some (.int .u32 (nb 27 (noR k))) := (R1.out.cell k).trans (mixR_at hlt)
        have c1 := R1.out.free k
        by_cases hrow : Set27 (s.extract (27 * k) (27 * k + 27))
        · have C := fun x hx w => Lib.hid (row_read2 HZ.out hlt hrow x hx w)
          have RS' : Hid (∀ j, j < k + 1 → Set27 (s.extract (27 * j) (27 * j + 27))) := fun j hj => by
            rcases Nat.lt_succ_iff_lt_or_eq.1 hj with hj | hj
            · exact RS.out j hj
            · subst hj; exact hrow
          clear hrow
          go_wp2_with fail
          refine (C _ (by rw [Nat.mul_succ]) _).out.mono ?_
          rintro e w2 ⟨rfl, rfl⟩
          go_wp2_with fail
          refine ⟨⟨k + 1, by omega, by go_num, ?_, Lib.hid (R0.out.setOther (p := ⟨w.heap.size + 1, k, none⟩) (by show w.heap.size ≠ w.heap.size + 1; omega) _), Lib.hid (RB.out.setCell (p := ⟨w.heap.size + 1, k, none⟩) (by show w.heap.size ≤ w.heap.size + 1; omega) _), RS'⟩, by simp [intOf]; omega⟩
          have := R1.out.set k (.int .u32 (nb 27 (relS s.data.toList k)))
          rw [mixR_step hlt] at this
          exact this
        · have C := fun x hx w => Lib.hid (row_read3 hrow x hx w)
          clear hrow
          go_wp2_with fail
          refine (C _ (by rw [Nat.mul_succ]) _).out.mono ?_
          rintro e w2 ⟨rfl, rfl⟩
          go_wp2_with (first
            | (refine wpList_buildTo rfl 75 _ rfl _ rfl (relC .u32 noR) (by kernel_rfl) ?_)
            | (refine wpList_store_row rfl 75 _ _ rfl w.heap.size (relC .u32 noR) (by rfl) (by rfl) 75 (relC .u32 noR) R0.out (infoR _) (by rw [relC_size]) (relC_one _ _) ?_))
          exact bodyPost_ret (v := .tuple #[.agg (relC .u32 noR), .bool false]) (results_cs rfl _ _ w.heap.size 75 _ (0, 0) _ (by rfl) _ (by rfl) (R0.out.row _) undR rfl (infoR _)) rfl ⟨rfl, Below.setRow RB.out (Nat.le_refl _) _⟩
      · exact absurd (rel_of_rows HZ.out fun j hj => RS.out j (by omega)) HN.out
  · have hn : ((s.size : Int) != 729) = true := by rw [bne_iff_ne]; omega
    have hn2 : ((s.size : Int) == 729) = false := by rw [beq_eq_false_iff_ne]; omega
    obtain ⟨k0, kb, kz⟩ := one_blk w (relC .u32 noR) 75
    have K0 := Lib.hid k0
    have KB := Lib.hid kb
    clear k0 kb kz hs hz
    go_enter Tryd.func70, Tryd.ntmps70
    go_wp2_with (first
      | (refine r_alloc rfl rfl (some 2) rfl w.heap.size rfl ?_)
      | (refine wpList_buildTo rfl 75 _ rfl _ rfl (relC .u32 noR) (by kernel_rfl) ?_)
      | (refine wpList_store_row rfl 75 _ _ rfl w.heap.size (relC .u32 noR) (by rfl) (by rfl) 75 (relC .u32 noR) K0.out (infoR _) (by rw [relC_size]) (relC_one _ _) ?_))
    exact bodyPost_ret (v := .tuple #[.agg (relC .u32 noR), .bool false]) (results_cs rfl _ _ w.heap.size 75 _ (0, 0) _ (by rfl) _ (by rfl) (K0.out.row _) undR rfl (infoR _)) rfl ⟨rfl, Below.setRow KB.out (Nat.le_refl _) _⟩
end Go.Proofs.YtinillnccfgooaaDoor
