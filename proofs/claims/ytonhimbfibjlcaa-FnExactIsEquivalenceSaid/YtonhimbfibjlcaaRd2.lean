/-
  Reading two relations, or a relation and a set.
-/
import Derived.Test.YtonhimbfibjlcaaRd
namespace Go.Proofs.Ytonhimbfibjlcaa
open Go.RowKit Go.Great

def ReadsPost (A B : Nat → Nat → Bool) (ok : Bool) (w : World) (e : Ending) (w' : World) : Prop := e = .returned (.tuple #[.agg (relC .u32 A), .agg (relC .u32 B), .bool ok]) ∧ Below w.heap.size w w'
def RelatedPost (A : Nat → Nat → Bool) (F : Nat → Bool) (ok : Bool) (w : World) (e : Ending) (w' : World) : Prop := e = .returned (.tuple #[.agg (relC .u32 A), .int .u32 (nb 27 F), .bool ok]) ∧ Below w.heap.size w w'
theorem Blk.rowKeep {w : World} {b g : Nat} {cs : Array Value} {t : TypeId} (h : Blk w b cs t) (hg : w.heap.size ≤ g) (cs' : Array Value) : Blk (w.setRow g cs') b cs t := h.rowOther (by have := h.lt; omega) cs'
theorem push_blk (w : World) (A B : Array Value) (t : TypeId) : Blk ((w.alloc (.cells A t)).setRow w.heap.size B) w.heap.size B t ∧ Below w.heap.size w ((w.alloc (.cells A t)).setRow w.heap.size B) := by
  obtain ⟨h1, h2, _⟩ := one_blk w A t
  exact ⟨h1.row B, Below.setRow h2 (Nat.le_refl _) B⟩

theorem put_rel {w : World} {g : Nat} {c : Array Value} {t : TypeId} (h : Blk w g c t) (hs : c.size = 27) (K : IntKind) (A : Nat → Nat → Bool) : (storeCells ⟨g, 0, none⟩ (relC K A).toList).run Try.prog w = .ok () (w.setRow g (relC K A)) := by
  have := run_storeCells_from (P := Try.prog) g t (relC K A).toList 0 c w h (by have := relC_size K A; simp; omega) (fun v hv => (Array.all_eq_true_iff_forall_mem.1 (relC_one K A)) v (by simpa using hv))
  simpa using this
set_option maxRecDepth 100000 in
set_option maxHeartbeats 4000000 in
theorem readRels_of (s q : ByteArray) (A B : Nat → Nat → Bool) (a b : Bool) (c1 : ∀ w, Calls Try.prog 39 #[.string s] w (ReadPost A a w)) (c2 : ∀ w, Calls Try.prog 39 #[.string q] w (ReadPost B b w)) (w : World) :
    Calls Try.prog 32 #[.string s, .string q] w (ReadsPost (if a && b then A else noR) (if a && b then B else noR) (a && b) w) := by
  have C1 := Lib.hid c1
  have C2 := Lib.hid c2
  obtain ⟨k0, k1, kb, kz⟩ := two_blk w (relC .u32 noR) (relC .u32 noR) 41 41
  have K0 := Lib.hid k0
  have K1 := Lib.hid k1
  have KB := Lib.hid kb
  clear k0 k1 kb kz c1 c2
  go_enter Try.func32, Try.ntmps32
  go_wp2_with (first
    | (refine r_alloc rfl rfl (some 4) rfl w.heap.size rfl ?_)
    | (refine r_alloc rfl rfl (some 5) rfl (w.heap.size + 1) (by simp) ?_))
  generalize (w.alloc (.cells (relC .u32 noR) 41)).alloc (.cells (relC .u32 noR) 41) = w0 at *
  refine (C1.out _).mono ?_
  rintro e w1 ⟨rfl, hb⟩
  replace K0 := Lib.hid (K0.out.kept hb)
  replace K1 := Lib.hid (K1.out.kept hb)
  replace KB := Lib.hid (bnext KB.out hb)
  clear hb
  obtain ⟨p0, pb⟩ := push_blk w1 (relC .u32 noR) (relC .u32 A) 41
  have P0 := Lib.hid p0
  have PB := Lib.hid pb
  have L0 := Lib.hid (one_blk w1 (relC .u32 noR) 41).1
  clear p0 pb
  go_wp2_with (first
    | (refine r_alloc rfl rfl (some 7) rfl w1.heap.size rfl ?_)
    | (refine wpList_store_row rfl 41 _ _ rfl w1.heap.size (relC .u32 A) (by rfl) (by rfl) 41 (relC .u32 noR) L0.out (infoR _) (by rw [relC_size, relC_size]) (relC_one _ _) ?_))
  replace K0 := Lib.hid (K0.out.kept PB.out)
  replace K1 := Lib.hid (K1.out.kept PB.out)
  replace KB := Lib.hid (bnext KB.out PB.out)
  clear L0 PB
  generalize (w1.alloc (.cells (relC .u32 noR) 41)).setRow w1.heap.size (relC .u32 A) = w2 at *
  obtain ⟨n1, hn1⟩ : ∃ n1, w1.heap.size = n1 := ⟨_, rfl⟩
  rw [hn1] at P0 ⊢
  refine (C2.out _).mono ?_
  rintro e w3 ⟨rfl, hb⟩
  replace K0 := Lib.hid (K0.out.kept hb)
  replace K1 := Lib.hid (K1.out.kept hb)
  replace P0 := Lib.hid (P0.out.kept hb)
  replace KB := Lib.hid (bnext KB.out hb)
  clear hb hn1
  have HNE0 : Hid (w3.heap.size ≠ w.heap.size) := by have := K0.out.lt; exact fun e => by omega
  obtain ⟨q0, qb⟩ := push_blk w3 (relC .u32 noR) (relC .u32 B) 41
  have Q0 := Lib.hid q0
  have QB := Lib.hid qb
  have L0 := Lib.hid (one_blk w3 (relC .u32 noR) 41).1
  clear q0 qb
  replace K0 := Lib.hid (K0.out.kept QB.out)
  replace K1 := Lib.hid (K1.out.kept QB.out)
  replace P0 := Lib.hid (P0.out.kept QB.out)
  replace KB := Lib.hid (bnext KB.out QB.out)
  cases a <;> cases b
  case true.true =>
    go_wp2_with (first
      | (refine r_alloc rfl rfl (some 9) rfl w3.heap.size rfl ?_)
      | (refine wpList_store_row rfl 41 _ _ rfl w3.heap.size (relC .u32 B) (by rfl) (by rfl) 41 (relC .u32 noR) L0.out (infoR _) (by rw [relC_size, relC_size]) (relC_one _ _) ?_))
    generalize (w3.alloc (.cells (relC .u32 noR) 41)).setRow w3.heap.size (relC .u32 B) = w4 at *
    have HNE : Hid (w3.heap.size ≠ w.heap.size) := by have := HNE0.out; exact this
    obtain ⟨n3, hn3⟩ : ∃ n3, w3.heap.size = n3 := ⟨_, rfl⟩
    rw [hn3] at HNE
    rw [hn3] at Q0 ⊢
    clear L0 QB hn3
    replace K0 := Lib.hid K0.out.drew
    replace K1 := Lib.hid K1.out.drew
    replace P0 := Lib.hid P0.out.drew
    replace Q0 := Lib.hid Q0.out.drew
    replace KB := Lib.hid KB.out.drew
    refine wp_region_any (by kernel_rfl) ?_
    change wpAny _ _ _ _ _ _ _ (World.drew _)
    generalize w4.drew = wd at *
    refine wpAny_ready (rs := [0, 1]) (by kernel_rfl) (by simp) ?_
    refine AllReady.cons rfl (fun K hK => ?_) (AllReady.cons rfl (fun K hK => ?_) AllReady.nil)
    · refine step_load_row rfl 41 _ rfl n1 (by rfl) 41 (relC .u32 A) (0, 0) _ P0.out undR rfl (infoR _) ?_
      refine hK _ _ ?_; clear hK K
      refine wpAny_ready (rs := [1, 2]) (by kernel_rfl) (by simp) ?_
      refine AllReady.cons rfl (fun K hK => ?_) (AllReady.cons rfl (fun K hK => ?_) AllReady.nil)
      · refine step_load_row rfl 41 _ rfl n3 (by rfl) 41 (relC .u32 B) (0, 0) _ Q0.out undR rfl (infoR _) ?_
        refine hK _ _ ?_; clear hK K
        refine wpAny_ready (rs := [2]) (by kernel_rfl) (by simp) ?_
        refine AllReady.cons rfl (fun K hK => ?_) AllReady.nil
        refine step_store_row rfl 41 _ _ rfl w.heap.size (relC .u32 A) (by rfl) (by rfl) 41 (relC .u32 noR) K0.out (infoR _) (by rw [relC_size, relC_size]) (relC_one _ _) ?_
        refine hK _ _ ?_; clear hK K
        refine wpAny_ready (rs := [3]) (by kernel_rfl) (by simp) ?_
        refine AllReady.cons rfl (fun K hK => ?_) AllReady.nil
        refine step_store_row rfl 41 _ _ rfl (w.heap.size + 1) (relC .u32 B) (by rfl) (by rfl) 41 (relC .u32 noR) (K1.out.rowOther (by omega) _) (infoR _) (by rw [relC_size, relC_size]) (relC_one _ _) ?_
        refine hK _ _ ?_; clear hK K
        refine wpAny_ready (rs := [4]) (by kernel_rfl) (by simp) ?_
        refine AllReady.cons rfl (fun K hK => ?_) AllReady.nil
        go_simp
        refine hK _ _ ?_; clear hK K
        refine wpAny_done (by kernel_rfl) ?_ _
        go_wp2_with fail
        exact bodyPost_ret (v := .tuple #[.agg (relC .u32 A), .agg (relC .u32 B), .bool true]) (results_ccs rfl _ _ w.heap.size (w.heap.size + 1) 41 41 _ _ (0, 0) (0, 0) _ (by rfl) (by rfl) _ (by rfl) ((K0.out.row _).rowOther (by omega) _) ((K1.out.rowOther (by omega) _).row _) undR rfl (infoR _) (infoR _)) rfl ⟨rfl, Below.setRow (Below.setRow KB.out (Nat.le_refl _) _) (by omega) _⟩
      · refine step_store_row rfl 41 _ _ rfl w.heap.size (relC .u32 A) (by rfl) (by rfl) 41 (relC .u32 noR) K0.out (infoR _) (by rw [relC_size, relC_size]) (relC_one _ _) ?_
        refine hK _ _ ?_; clear hK K
        refine wpAny_ready (rs := [1]) (by kernel_rfl) (by simp) ?_
        refine AllReady.cons rfl (fun K hK => ?_) AllReady.nil
        refine step_load_row rfl 41 _ rfl n3 (by rfl) 41 (relC .u32 B) (0, 0) _ (Q0.out.rowOther HNE.out _) undR rfl (infoR _) ?_
        refine hK _ _ ?_; clear hK K
        refine wpAny_ready (rs := [3]) (by kernel_rfl) (by simp) ?_
        refine AllReady.cons rfl (fun K hK => ?_) AllReady.nil
        refine step_store_row rfl 41 _ _ rfl (w.heap.size + 1) (relC .u32 B) (by rfl) (by rfl) 41 (relC .u32 noR) (K1.out.rowOther (by omega) _) (infoR _) (by rw [relC_size, relC_size]) (relC_one _ _) ?_
        refine hK _ _ ?_; clear hK K
        refine wpAny_ready (rs := [4]) (by kernel_rfl) (by simp) ?_
        refine AllReady.cons rfl (fun K hK => ?_) AllReady.nil
        go_simp
        refine hK _ _ ?_; clear hK K
        refine wpAny_done (by kernel_rfl) ?_ _
        go_wp2_with fail
        exact bodyPost_ret (v := .tuple #[.agg (relC .u32 A), .agg (relC .u32 B), .bool true]) (results_ccs rfl _ _ w.heap.size (w.heap.size + 1) 41 41 _ _ (0, 0) (0, 0) _ (by rfl) (by rfl) _ (by rfl) ((K0.out.row _).rowOther (by omega) _) ((K1.out.rowOther (by omega) _).row _) undR rfl (infoR _) (infoR _)) rfl ⟨rfl, Below.setRow (Below.setRow KB.out (Nat.le_refl _) _) (by omega) _⟩
    · refine step_load_row rfl 41 _ rfl n3 (by rfl) 41 (relC .u32 B) (0, 0) _ Q0.out undR rfl (infoR _) ?_
      refine hK _ _ ?_; clear hK K
      refine wpAny_ready (rs := [0]) (by kernel_rfl) (by simp) ?_
      refine AllReady.cons rfl (fun K hK => ?_) AllReady.nil
      refine step_load_row rfl 41 _ rfl n1 (by rfl) 41 (relC .u32 A) (0, 0) _ P0.out undR rfl (infoR _) ?_
      refine hK _ _ ?_; clear hK K
      refine wpAny_ready (rs := [2]) (by kernel_rfl) (by simp) ?_
      refine AllReady.cons rfl (fun K hK => ?_) AllReady.nil
      refine step_store_row rfl 41 _ _ rfl w.heap.size (relC .u32 A) (by rfl) (by rfl) 41 (relC .u32 noR) K0.out (infoR _) (by rw [relC_size, relC_size]) (relC_one _ _) ?_
      refine hK _ _ ?_; clear hK K
      refine wpAny_ready (rs := [3]) (by kernel_rfl) (by simp) ?_
      refine AllReady.cons rfl (fun K hK => ?_) AllReady.nil
      refine step_store_row rfl 41 _ _ rfl (w.heap.size + 1) (relC .u32 B) (by rfl) (by rfl) 41 (relC .u32 noR) (K1.out.rowOther (by omega) _) (infoR _) (by rw [relC_size, relC_size]) (relC_one _ _) ?_
      refine hK _ _ ?_; clear hK K
      refine wpAny_ready (rs := [4]) (by kernel_rfl) (by simp) ?_
      refine AllReady.cons rfl (fun K hK => ?_) AllReady.nil
      go_simp
      refine hK _ _ ?_; clear hK K
      refine wpAny_done (by kernel_rfl) ?_ _
      go_wp2_with fail
      exact bodyPost_ret (v := .tuple #[.agg (relC .u32 A), .agg (relC .u32 B), .bool true]) (results_ccs rfl _ _ w.heap.size (w.heap.size + 1) 41 41 _ _ (0, 0) (0, 0) _ (by rfl) (by rfl) _ (by rfl) ((K0.out.row _).rowOther (by omega) _) ((K1.out.rowOther (by omega) _).row _) undR rfl (infoR _) (infoR _)) rfl ⟨rfl, Below.setRow (Below.setRow KB.out (Nat.le_refl _) _) (by omega) _⟩
  all_goals
    go_wp2_with (first
      | (refine r_alloc rfl rfl (some 9) rfl w3.heap.size rfl ?_)
      | (refine wpList_store_row rfl 41 _ _ rfl w3.heap.size (relC .u32 B) (by rfl) (by rfl) 41 (relC .u32 noR) L0.out (infoR _) (by rw [relC_size, relC_size]) (relC_one _ _) ?_)
      | (refine wpList_buildTo rfl 41 _ rfl _ rfl (relC .u32 noR) (by kernel_rfl) ?_)
      | (refine wpList_store_row rfl 41 _ _ rfl w.heap.size (relC .u32 noR) (by rfl) (by rfl) 41 (relC .u32 noR) K0.out (infoR _) (by rw [relC_size]) (relC_one _ _) ?_)
      | (refine wpList_store_row rfl 41 _ _ rfl (w.heap.size + 1) (relC .u32 noR) (by rfl) (by rfl) 41 (relC .u32 noR) (K1.out.rowOther (by omega) _) (infoR _) (by rw [relC_size]) (relC_one _ _) ?_))
    exact bodyPost_ret (v := .tuple #[.agg (relC .u32 noR), .agg (relC .u32 noR), .bool false]) (results_ccs rfl _ _ w.heap.size (w.heap.size + 1) 41 41 _ _ (0, 0) (0, 0) _ (by rfl) (by rfl) _ (by rfl) ((K0.out.row _).rowOther (by omega) _) ((K1.out.rowOther (by omega) _).row _) undR rfl (infoR _) (infoR _)) rfl ⟨rfl, Below.setRow (Below.setRow KB.out (Nat.le_refl _) _) (by omega) _⟩
theorem readRels_yes (s q : ByteArray) (hs : Rel729 s) (hq : Rel729 q) (w : World) : Calls Try.prog 32 #[.string s, .string q] w (ReadsPost (relS s.data.toList) (relS q.data.toList) true w) :=
  readRels_of s q _ _ true true (readRel_yes s hs) (readRel_yes q hq) w
theorem readRels_no (s q : ByteArray) (h : ¬ (Rel729 s ∧ Rel729 q)) (w : World) : Calls Try.prog 32 #[.string s, .string q] w (ReadsPost noR noR false w) := by
  by_cases hs : Rel729 s
  · have hq : ¬ Rel729 q := fun hq => h ⟨hs, hq⟩
    exact readRels_of s q _ _ true false (readRel_yes s hs) (readRel_no q hq) w
  · by_cases hq : Rel729 q
    · exact readRels_of s q _ _ false true (readRel_no s hs) (readRel_yes q hq) w
    · exact readRels_of s q _ _ false false (readRel_no s hs) (readRel_no q hq) w

end Go.Proofs.Ytonhimbfibjlcaa
