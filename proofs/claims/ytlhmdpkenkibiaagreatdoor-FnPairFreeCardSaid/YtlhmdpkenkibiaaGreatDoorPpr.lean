import Derived.Test.YtlhmdpkenkibiaaGreatDoorTopB
import Derived.Test.YtlhmdpkenkibiaaGreatDoorTopP
import Derived.Test.YtlhmdpkenkibiaaGreatDoorTopG
namespace Go.Proofs.YtlhmdpkenkibiaaGreatDoor
open Go.RowKit
def prT (A B : Nat → Bool) : Nat → Bool := fun m => A (m / 27) && B (m % 27)
def prC (A B : Nat → Bool) (m : Nat) : List Value := (tbn m (prT A B)).map bv
theorem prC_succ (A B : Nat → Bool) (m : Nat) : prC A B (m + 1) = prC A B m ++ [.int .u8 (bitc (prT A B m)).toNat] := by
 simp [prC, tbn_succ, bv]
theorem prT_at (A B : Nat → Bool) {i k : Nat} (hk : k < 27) : prT A B (27 * i + k) = (A i && B k) := by
 unfold prT
 rw [show (27 * i + k) / 27 = i by omega, show (27 * i + k) % 27 = k by omega]
theorem prT_rel (A B : Nat → Bool) : tbn 729 (prT A B) = relT (fun i j => A i && B j) := by
 rw [relT_eq (fun i j => A i && B j)]
 exact congrArg (tbn 729) rfl
theorem tb_byte (A : Nat → Bool) {i : Nat} (hi : i < 27) (h : i < (bs (tb A)).size) : (bs (tb A))[i]'h = bitc (A i) := by
 have e := tbn_get 27 A i hi
 rw [List.getElem?_eq_some_iff] at e
 obtain ⟨h1, h2⟩ := e
 rw [← h2]
 show (tb A).toArray[i]'_ = _
 simp [tb]
theorem tb_sz (A : Nat → Bool) : (bs (tb A)).size = 27 := by rw [bs_size]; exact tbn_length 27 A
theorem toStrAt {w : World} {g : Nat} {l : List UInt8} (h : ∀ j (hj : j < l.length), w.cell? ⟨g, j, none⟩ = some (.int .u8 (l[j].toNat : Int))) (n c : Nat) (hn : n = l.length) : (convert 32 9 (.slice (some ⟨g, 0, none⟩) n c)).run Tryz.prog w = .ok (.string (bs l)) w := by
 subst hn
 rw [run_convert_bytes_string _ _ _ 5 _ _ _ Tryz.underlying32 Tryz.underlying5 Tryz.underlying9]
 rw [run_bytesToString _ _ l.length c (l.map (fun c : UInt8 => (c.toNat : Int)))]
 ·rw [fold_push]
  congr 2
 ·have h2 := run_loadCells_list (w := w) (P := Tryz.prog) ⟨g, 0, none⟩ (l.map bv) (fun j v hj => by
   rw [List.getElem?_map] at hj
   have hlt : j < l.length := by
    rcases Nat.lt_or_ge j l.length with h | h
    ·exact h
    ·rw [List.getElem?_eq_none h] at hj; cases hj
   rw [List.getElem?_eq_getElem hlt] at hj
   simp at hj
   subst hj
   have e : (⟨g, 0, none⟩ : Addr).add j = ⟨g, j, none⟩ := by
    by_cases h0 : j = 0 <;> simp [Addr.add, h0]
   rw [e]
   exact h j hlt)
  simp at h2
  rw [h2]
  simp [bv, List.map_map, Function.comp_def]
theorem pr_str (A B : Nat → Bool) {wr : World} {b n : Nat} {v : Value} (hn : 0 < n) (h : wr.ownsRow b 5 1 v n (prC A B n)) : ∃ g cap, v = .slice (some ⟨g, 0, none⟩) n cap ∧ (convert 32 9 v).run Tryz.prog wr = .ok (.string (bs (tbn n (prT A B)))) wr := by
 obtain ⟨g, cap, rfl, _, _⟩ := World.ownsRow.form h hn
 refine ⟨g, cap, rfl, toStrAt (l := tbn n (prT A B)) (fun j hj => ?_) n cap (tbn_length n _).symm⟩
 rw [tbn_length] at hj
 rw [World.ownsRow.cellAt h j (by omega)]
 unfold prC
 rw [List.getElem?_map, List.getElem?_eq_getElem (by rw [tbn_length]; exact hj)]
 rfl
set_option maxRecDepth 100000 in
set_option maxHeartbeats 8000000 in
theorem pairs_any (A B : Nat → Bool) (w : World) : Calls Tryz.prog 37 #[.string (bs (tb A)), .string (bs (tb B))] w fun e w' => e = .returned (.string (bs (relT (fun i j => A i && B j)))) ∧ Below w.heap.size w w' := by
 generalize hres : bs (relT fun i j => A i && B j) = res
 have HRES := Lib.hid hres
 clear hres
 obtain ⟨i0, hi0, hz0, hz1, hz2⟩ := info_parts u8info
 have HB : Hid (Below w.heap.size w (w.alloc (.cells #[] 5))) := (Below.refl _ _).alloc (Nat.le_refl _) _
 have HR : Hid ((w.alloc (.cells #[] 5)).ownsRow w.heap.size 5 1 (.slice (some ⟨w.heap.size, 0, none⟩) 0 0) 0 (prC A B 0)) :=
  ⟨rfl, .inr ⟨w.heap.size, 0, #[], rfl, Nat.le_refl _, Blk.new w #[] 5, Nat.le_refl _, by unfold maxLen; omega, rfl, rfl⟩⟩
 have SA := tb_sz A
 have SB := tb_sz B
 have BA := fun i (hi : i < 27) h => Lib.hid (tb_byte A hi h)
 have BB := fun i (hi : i < 27) h => Lib.hid (tb_byte B hi h)
 generalize bs (tb A) = s at *
 generalize bs (tb B) = t at *
 go_enter Tryz.func37, Tryz.ntmps37
 go_wp2_with fail
 generalize w.alloc (.cells #[] 5) = w0 at *
 go_loopw [5, 6, 7] (fun v i _ wr => ∃ k : Nat, k ≤ 27 ∧ i = .int .i64 k ∧ Hid (wr.ownsRow w.heap.size 5 1 v (27 * k) (prC A B (27 * k))) ∧ Hid (Below w.heap.size w wr)) (fun _ i _ _ => 27 - (intOf i).toNat)
 case atStart => exact ⟨0, by omega, rfl, HR, HB⟩
 case round =>
  clear HR HB
  obtain ⟨k, hk, rfl, HR, HB⟩ := hrel
  by_cases hlt : k < 27
  ·have hlt2 : (k : Int) < 27 := by omega
   have hlt3 : (k : Int) < s.size := by omega
   go_wp2_with fail
   obtain ⟨wo, rfl⟩ : ∃ wo : World, wo = wr := ⟨_, rfl⟩
   go_loopw [5, 7] (fun v j wr => ∃ m : Nat, m ≤ 27 ∧ j = .int .i64 m ∧ Hid (wr.ownsRow w.heap.size 5 1 v (27 * k + m) (prC A B (27 * k + m))) ∧ Hid (Below w.heap.size w wr)) (fun _ j _ => 27 - (intOf j).toNat)
   case atStart => exact ⟨0, by omega, rfl, HR, HB⟩
   case round =>
    clear HR HB
    obtain ⟨m, hm, rfl, HR, HB⟩ := hrel
    by_cases hlm : m < 27
    ·have hlm3 : (m : Int) < t.size := by omega
     have ba := (BA k hlt (by omega)).out
     have bb := (BB m hlm (by omega)).out
     have hs1 : k < s.size := by omega
     have hs2 : m < t.size := by omega
     have hp := prT_at A B (i := k) hlm
     have PS := prC_succ A B (27 * k + m)
     cases hA : A k
     ·cases hB : B m
      ·replace ba : s[k]'hs1 = 48 := ba.trans (by rw [hA]; rfl)
       replace bb : t[m]'hs2 = 48 := bb.trans (by rw [hB]; rfl)
       replace PS := Lib.hid (show prC A B (27 * k + m + 1) = prC A B (27 * k + m) ++ [.int .u8 48] from PS.trans (by rw [hp, hA, hB]; rfl))
       clear hA hB hp
       go_wp2_with (at_builtin; refine wpList_append_lies _ (by rfl) _ _ _ (by rfl) w.heap.size 5 i0 _ 1 1 Tryz.underlying32 hi0 hz0 hz1 hz2 rfl (by omega) _ _ _ (by rfl) (World.ownsRow.alloc HR.out _) ⟨wr.heap.size, 0, none⟩ 1 1 [.int .u8 48] (by rfl) (by rfl) (World.news_of_block (cs := #[.int .u8 48]) (t := 5) (fr := (0, 0)) (heap_alloc_new wr _)) (by simp [Value.oneCell']) (by omega) (by unfold maxLen; omega) (by omega) (by have := HB.out.size; simp; omega) (wr.heap.size + 1) (by simp) ?_; intro g3 cap3 w3 hown hgrow hat hlt3)
       have hb3 := (HB.out.alloc HB.out.size _).grown hgrow (by have := HB.out.size; simp; omega) (fun k hk => (World.ownsRow.lt HR.out k hk).1)
       exact ⟨⟨m + 1, by omega, by go_num, Lib.hid (by rw [show 27 * k + (m + 1) = 27 * k + m + 1 by omega, PS.out]; exact hown), hb3⟩, by simp [intOf]; omega⟩
      ·replace ba : s[k]'hs1 = 48 := ba.trans (by rw [hA]; rfl)
       replace bb : t[m]'hs2 = 49 := bb.trans (by rw [hB]; rfl)
       replace PS := Lib.hid (show prC A B (27 * k + m + 1) = prC A B (27 * k + m) ++ [.int .u8 48] from PS.trans (by rw [hp, hA, hB]; rfl))
       clear hA hB hp
       go_wp2_with (at_builtin; refine wpList_append_lies _ (by rfl) _ _ _ (by rfl) w.heap.size 5 i0 _ 1 1 Tryz.underlying32 hi0 hz0 hz1 hz2 rfl (by omega) _ _ _ (by rfl) (World.ownsRow.alloc HR.out _) ⟨wr.heap.size, 0, none⟩ 1 1 [.int .u8 48] (by rfl) (by rfl) (World.news_of_block (cs := #[.int .u8 48]) (t := 5) (fr := (0, 0)) (heap_alloc_new wr _)) (by simp [Value.oneCell']) (by omega) (by unfold maxLen; omega) (by omega) (by have := HB.out.size; simp; omega) (wr.heap.size + 1) (by simp) ?_; intro g3 cap3 w3 hown hgrow hat hlt3)
       have hb3 := (HB.out.alloc HB.out.size _).grown hgrow (by have := HB.out.size; simp; omega) (fun k hk => (World.ownsRow.lt HR.out k hk).1)
       exact ⟨⟨m + 1, by omega, by go_num, Lib.hid (by rw [show 27 * k + (m + 1) = 27 * k + m + 1 by omega, PS.out]; exact hown), hb3⟩, by simp [intOf]; omega⟩
     ·cases hB : B m
      ·replace ba : s[k]'hs1 = 49 := ba.trans (by rw [hA]; rfl)
       replace bb : t[m]'hs2 = 48 := bb.trans (by rw [hB]; rfl)
       replace PS := Lib.hid (show prC A B (27 * k + m + 1) = prC A B (27 * k + m) ++ [.int .u8 48] from PS.trans (by rw [hp, hA, hB]; rfl))
       clear hA hB hp
       go_wp2_with (at_builtin; refine wpList_append_lies _ (by rfl) _ _ _ (by rfl) w.heap.size 5 i0 _ 1 1 Tryz.underlying32 hi0 hz0 hz1 hz2 rfl (by omega) _ _ _ (by rfl) (World.ownsRow.alloc HR.out _) ⟨wr.heap.size, 0, none⟩ 1 1 [.int .u8 48] (by rfl) (by rfl) (World.news_of_block (cs := #[.int .u8 48]) (t := 5) (fr := (0, 0)) (heap_alloc_new wr _)) (by simp [Value.oneCell']) (by omega) (by unfold maxLen; omega) (by omega) (by have := HB.out.size; simp; omega) (wr.heap.size + 1) (by simp) ?_; intro g3 cap3 w3 hown hgrow hat hlt3)
       have hb3 := (HB.out.alloc HB.out.size _).grown hgrow (by have := HB.out.size; simp; omega) (fun k hk => (World.ownsRow.lt HR.out k hk).1)
       exact ⟨⟨m + 1, by omega, by go_num, Lib.hid (by rw [show 27 * k + (m + 1) = 27 * k + m + 1 by omega, PS.out]; exact hown), hb3⟩, by simp [intOf]; omega⟩
      ·replace ba : s[k]'hs1 = 49 := ba.trans (by rw [hA]; rfl)
       replace bb : t[m]'hs2 = 49 := bb.trans (by rw [hB]; rfl)
       replace PS := Lib.hid (show prC A B (27 * k + m + 1) = prC A B (27 * k + m) ++ [.int .u8 49] from PS.trans (by rw [hp, hA, hB]; rfl))
       clear hA hB hp
       go_wp2_with (at_builtin; refine wpList_append_lies _ (by rfl) _ _ _ (by rfl) w.heap.size 5 i0 _ 1 1 Tryz.underlying32 hi0 hz0 hz1 hz2 rfl (by omega) _ _ _ (by rfl) (World.ownsRow.alloc HR.out _) ⟨wr.heap.size, 0, none⟩ 1 1 [.int .u8 49] (by rfl) (by rfl) (World.news_of_block (cs := #[.int .u8 49]) (t := 5) (fr := (0, 0)) (heap_alloc_new wr _)) (by simp [Value.oneCell']) (by omega) (by unfold maxLen; omega) (by omega) (by have := HB.out.size; simp; omega) (wr.heap.size + 1) (by simp) ?_; intro g3 cap3 w3 hown hgrow hat hlt3)
       have hb3 := (HB.out.alloc HB.out.size _).grown hgrow (by have := HB.out.size; simp; omega) (fun k hk => (World.ownsRow.lt HR.out k hk).1)
       exact ⟨⟨m + 1, by omega, by go_num, Lib.hid (by rw [show 27 * k + (m + 1) = 27 * k + m + 1 by omega, PS.out]; exact hown), hb3⟩, by simp [intOf]; omega⟩
    ·have hm2 : m = 27 := by omega
     subst hm2
     have hlm3 : ¬ ((27 : Int) < t.size) := by omega
     go_wp2_with fail
     exact ⟨⟨k + 1, by omega, by go_num, by rw [show 27 * (k + 1) = 27 * k + 27 by omega]; exact HR, HB⟩, by simp [intOf]; omega⟩
  ·have hk2 : k = 27 := by omega
   have hlt3 : ¬ ((k : Int) < s.size) := by omega
   obtain ⟨N, hN⟩ : ∃ N, N = 27 * k := ⟨_, rfl⟩
   rw [← hN] at HR
   obtain ⟨g, cap, rfl, hcv⟩ := pr_str A B (by omega) HR.out
   have e9 : N = 729 := by omega
   rw [show bs (tbn N (prT A B)) = res by rw [e9, prT_rel]; exact HRES.out] at hcv
   clear HR hN hk2 e9
   go_wp2_with fail
   go_ret
   exact ⟨rfl, HB.out⟩
end Go.Proofs.YtlhmdpkenkibiaaGreatDoor
