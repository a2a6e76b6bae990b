import Derived.Test.YtgkoljphndgoeaaGreatDoorTopB
import Derived.Test.YtgkoljphndgoeaaGreatDoorTopP
import Derived.RowKit3
namespace Go.Proofs.YtgkoljphndgoeaaGreatDoor
open Go.RowKit
theorem infoState : (Tryz.prog.info? 43).map (fun i => (i.zero, i.size, i.bytes)) = some (some (.agg #[.int .i64 0, .int .i64 0, .int .i64 0]), 3, 24) := by kernel_rfl
def stC : Nat → List Value
 | 0 => []
 | k + 1 => stC k ++ [.int .i64 (ax k), .int .i64 (ay k), .int .i64 (az k)]
theorem stC_len (k : Nat) : (stC k).length = k * 3 := by
 induction k with
 | zero => rfl
 | succ k ih => unfold stC; rw [List.length_append, ih]; simp; omega
theorem stC_get (n k : Nat) (h : k < n) : (stC n)[k * 3]? = some (.int .i64 (ax k)) ∧ (stC n)[k * 3 + 1]? = some (.int .i64 (ay k)) ∧ (stC n)[k * 3 + 2]? = some (.int .i64 (az k)) := by
 induction n with
 | zero => omega
 | succ n ih =>
  unfold stC
  by_cases e : k = n
  ·subst e
   refine ⟨?_, ?_, ?_⟩ <;> rw [List.getElem?_append_right (by rw [stC_len]; omega), stC_len]
   ·rw [show k * 3 - k * 3 = 0 by omega]; rfl
   ·rw [show k * 3 + 1 - k * 3 = 1 by omega]; rfl
   ·rw [show k * 3 + 2 - k * 3 = 2 by omega]; rfl
  ·obtain ⟨h1, h2, h3⟩ := ih (by omega)
   refine ⟨?_, ?_, ?_⟩ <;> rw [List.getElem?_append_left (by rw [stC_len]; omega)] <;> assumption
def Sts (w : World) (g : Nat) : Prop := ∀ k, k < 27 → w.cell? ⟨g, k * 3, none⟩ = some (.int .i64 (ax k)) ∧ w.cell? ⟨g, k * 3 + 1, none⟩ = some (.int .i64 (ay k)) ∧ w.cell? ⟨g, k * 3 + 2, none⟩ = some (.int .i64 (az k))
theorem Sts.kept {w w' : World} {g : Nat} (h : Sts w g) (hb : Below w.heap.size w w') : Sts w' g := fun k hk => by
 obtain ⟨h1, h2, h3⟩ := h k hk
 exact ⟨ckeep hb h1, ckeep hb h2, ckeep hb h3⟩
set_option maxRecDepth 100000 in
set_option maxHeartbeats 4000000 in
theorem states_any (w : World) : Calls Tryz.prog 44 #[] w fun e w' => ∃ g cap, 27 ≤ cap ∧ g < w'.heap.size ∧ e = .returned (.slice (some ⟨g, 0, none⟩) 27 cap) ∧ Sts w' g ∧ Below w.heap.size w w' := by
 obtain ⟨i0, hi0, hz0, hz1, hz2⟩ := info_parts infoState
 have HB : Hid (Below w.heap.size w (w.alloc (.cells #[] 43))) := (Below.refl _ _).alloc (Nat.le_refl _) _
 have HR : Hid ((w.alloc (.cells #[] 43)).ownsRow w.heap.size 43 3 (.slice (some ⟨w.heap.size, 0, none⟩) 0 0) 0 (stC 0)) :=
  ⟨rfl, .inr ⟨w.heap.size, 0, #[], rfl, Nat.le_refl _, Blk.new w #[] 43, Nat.le_refl _, by unfold maxLen; omega, rfl, rfl⟩⟩
 go_enter Tryz.func44, Tryz.ntmps44
 go_wp2_with fail
 generalize w.alloc (.cells #[] 43) = w0 at *
 go_loopw [1, 2] (fun v i wr => ∃ k : Nat, k ≤ 27 ∧ i = .int .i64 k ∧ Hid (wr.ownsRow w.heap.size 43 3 v k (stC k)) ∧ Hid (Below w.heap.size w wr)) (fun _ i _ => 27 - (intOf i).toNat)
 case atStart => exact ⟨0, by omega, rfl, HR, HB⟩
 case round =>
  clear HR HB
  obtain ⟨k, hk, rfl, HR, HB⟩ := hrel
  by_cases hlt : k < 27
  ·have hlt2 : (k : Int) < 27 := by omega
   go_wp2_with (at_builtin; refine wpList_append_lies _ (by rfl) _ _ _ (by rfl) w.heap.size 43 i0 _ 3 24 Tryz.underlying46 hi0 hz0 hz1 hz2 rfl (by omega) _ _ _ (by rfl) (World.ownsRow.alloc HR.out _) ⟨wr.heap.size, 0, none⟩ 1 1 [.int .i64 ((k : Int) % 3), .int .i64 ((k : Int) / 3 % 3), .int .i64 ((k : Int) / 9)] (by rfl) (by rfl) (World.news_of_block (cs := #[.int .i64 ((k : Int) % 3), .int .i64 ((k : Int) / 3 % 3), .int .i64 ((k : Int) / 9)]) (t := 43) (fr := (0, 0)) (heap_alloc_new wr _)) (by simp [Value.oneCell']) (by omega) (by unfold maxLen; omega) (by omega) (by have := HB.out.size; simp; omega) (wr.heap.size + 1) (by simp) ?_; intro g3 cap3 w3 hown hgrow hat hlt3)
   have hb3 := (HB.out.alloc HB.out.size _).grown hgrow (by have := HB.out.size; simp; omega) (fun k hk => (World.ownsRow.lt HR.out k hk).1)
   exact ⟨⟨k + 1, by omega, by go_num, hown, hb3⟩, by simp [intOf]; omega⟩
  ·have hk2 : k = 27 := by omega
   subst hk2
   obtain ⟨g, cap, rfl, hg, hglt⟩ := HR.out.form (by omega)
   have hcap : 27 ≤ cap := by
    rcases HR.out.2 with ⟨h, _⟩ | ⟨g', cap', cur, h, _, _, hc, _⟩
    ·simp at h
    ·simp at h; omega
   have HS : Hid (Sts wr g) := fun k hk => by
    obtain ⟨h1, h2, h3⟩ := stC_get 27 k hk
    refine ⟨?_, ?_, ?_⟩
    ·rw [← h1]; exact World.ownsRow.cellAt HR.out _ (by omega)
    ·rw [← h2]; exact World.ownsRow.cellAt HR.out _ (by omega)
    ·rw [← h3]; exact World.ownsRow.cellAt HR.out _ (by omega)
   clear HR
   go_wp2_with fail
   go_ret
   exact ⟨g, cap, hcap, hglt, rfl, HS.out, HB.out⟩
end Go.Proofs.YtgkoljphndgoeaaGreatDoor
