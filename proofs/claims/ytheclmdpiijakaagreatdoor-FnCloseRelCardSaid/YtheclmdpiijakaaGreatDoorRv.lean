/-
  RelWithin of the program, ShadowOf of the model.
-/
import Derived.Test.YtheclmdpiijakaaGreatDoorRt
namespace Go.Proofs.YtheclmdpiijakaaGreatDoor
open Go.RowKit Go.Great

/-- A guarded load of a whole row. -/
theorem wpList_load_rowG {P : Program} {ops : Array Oper} {rest : List Oper} {o : Oper} {a : Act} {w : World} {Q : Exit → Act → World → Prop} (hw : Region.wanted o (yielded ops a.tmps) = true) (ty : TypeId) (x : Operand) (ho : o.op = .load ty x)
    (g : Nat) (hx : a.eval x = .pointer (some ⟨g, 0, none⟩)) (t : TypeId) (cs : Array Value) (fr : Nat × Nat) (d : TypeDesc) (hg : w.heap[g]? = some (.cells cs t fr))
    (hu : P.underlying ty = some d) (hd : (match d with | .struct _ | .array _ _ => true | _ => false) = true) (hi : (P.info? ty).map (·.size) = some cs.size)
    (h : wpList P ops Q rest (a.put o.dst (.agg cs)) w) : wpList P ops Q (o :: rest) a w :=
  wpList_step fun K hK => by
    rw [if_pos hw]
    exact wp_load_row ty x ho g hx t cs fr d hg hu hd hi (hK _ _ h)
set_option maxRecDepth 100000 in
set_option maxHeartbeats 4000000 in
theorem rel_within (A B : Nat → Nat → Bool) (w : World) : Calls Tryz.prog 48 #[.agg (relC .u32 A), .agg (relC .u32 B)] w (BoolIs (relEq (fun i j => A i j && B i j) A) w) := by
  obtain ⟨k0, k1, kb, kz⟩ := two_blk w (relC .u32 A) (relC .u32 B) 56 56
  have K0 := Lib.hid k0
  have K1 := Lib.hid k1
  have KB := Lib.hid kb
  have CA := fun w => Lib.hid (rel_and A B w)
  have HG := r_guard
  have HE := fun w => r_eq (fun i j => A i j && B i j) A w
  clear k0 k1 kb kz
  go_enter Tryz.func48, Tryz.ntmps48
  go_wp2_with (first
    | (refine wpList_boxTo rfl 56 _ rfl (some 2) rfl w.heap.size rfl (relC .u32 A) (by rfl) ?_)
    | (refine wpList_boxTo rfl 56 _ rfl (some 3) rfl (w.heap.size + 1) (by simp) (relC .u32 B) (by rfl) ?_))
  generalize (w.alloc (.cells (relC .u32 A) 56)).alloc (.cells (relC .u32 B) 56) = w0 at *
  replace K0 := Lib.hid K0.out.drew
  replace K1 := Lib.hid K1.out.drew
  replace KB := Lib.hid KB.out.drew
  refine wp_region_any (by kernel_rfl) ?_
  change wpAny _ _ _ _ _ _ _ (World.drew _)
  generalize w0.drew = wd at *
  refine wpAny_ready (rs := [0, 1, 3]) (by kernel_rfl) (by simp) ?_
  refine AllReady.cons rfl (fun K hK => ?_) (AllReady.cons rfl (fun K hK => ?_) (AllReady.cons rfl (fun K hK => ?_) AllReady.nil))
  · refine step_load_row rfl 56 _ rfl w.heap.size (by rfl) 56 (relC .u32 A) (0, 0) _ K0.out undR rfl (infoR _) ?_
    refine hK _ _ ?_; clear hK K
    refine wpAny_ready (rs := [1, 3]) (by kernel_rfl) (by simp) ?_
    refine AllReady.cons rfl (fun K hK => ?_) (AllReady.cons rfl (fun K hK => ?_) AllReady.nil)
    · refine step_load_row rfl 56 _ rfl (w.heap.size + 1) (by rfl) 56 (relC .u32 B) (0, 0) _ K1.out undR rfl (infoR _) ?_
      refine hK _ _ ?_; clear hK K
      refine wpAny_ready (rs := [2, 3]) (by kernel_rfl) (by simp) ?_
      refine AllReady.cons rfl (fun K hK => ?_) (AllReady.cons rfl (fun K hK => ?_) AllReady.nil)
      · go_simp
        go_wp2_with (go_at_call 81; (with_reducible refine (CA _).out.mono ?_); rintro e w2 ⟨rfl, hb⟩)
        replace K0 := Lib.hid (K0.out.kept hb)
        replace K1 := Lib.hid (K1.out.kept hb)
        replace KB := Lib.hid (bnext KB.out hb)
        clear hb
        refine wpAny_ready (rs := [3]) (by kernel_rfl) (by simp) ?_
        refine AllReady.cons rfl (fun K hK => ?_) AllReady.nil
        refine step_load_row rfl 56 _ rfl w.heap.size (by rfl) 56 (relC .u32 A) (0, 0) _ K0.out undR rfl (infoR _) ?_
        refine hK _ _ ?_; clear hK K
        refine wpAny_ready (rs := [4]) (by kernel_rfl) (by simp) ?_
        refine AllReady.cons rfl (fun K hK => ?_) AllReady.nil
        go_simp
        refine hK _ _ ?_; clear hK K
        refine wpAny_ready (rs := [5]) (by kernel_rfl) (by simp) ?_
        refine AllReady.cons rfl (fun K hK => ?_) AllReady.nil
        go_simp
        refine hK _ _ ?_; clear hK K
        refine wpAny_done (by kernel_rfl) ?_ _
        go_wp2_with fail
        go_ret
        exact ⟨rfl, KB.out⟩
      · refine step_load_row rfl 56 _ rfl w.heap.size (by rfl) 56 (relC .u32 A) (0, 0) _ K0.out undR rfl (infoR _) ?_
        refine hK _ _ ?_; clear hK K
        refine wpAny_ready (rs := [2]) (by kernel_rfl) (by simp) ?_
        refine AllReady.cons rfl (fun K hK => ?_) AllReady.nil
        go_simp
        go_wp2_with (go_at_call 81; (with_reducible refine (CA _).out.mono ?_); rintro e w2 ⟨rfl, hb⟩)
        replace K0 := Lib.hid (K0.out.kept hb)
        replace K1 := Lib.hid (K1.out.kept hb)
        replace KB := Lib.hid (bnext KB.out hb)
        clear hb
        refine wpAny_ready (rs := [4]) (by kernel_rfl) (by simp) ?_
        refine AllReady.cons rfl (fun K hK => ?_) AllReady.nil
        go_simp
        refine hK _ _ ?_; clear hK K
        refine wpAny_ready (rs := [5]) (by kernel_rfl) (by simp) ?_
        refine AllReady.cons rfl (fun K hK => ?_) AllReady.nil
        go_simp
        refine hK _ _ ?_; clear hK K
        refine wpAny_done (by kernel_rfl) ?_ _
        go_wp2_with fail
        go_ret
        exact ⟨rfl, KB.out⟩
    · refine step_load_row rfl 56 _ rfl w.heap.size (by rfl) 56 (relC .u32 A) (0, 0) _ K0.out undR rfl (infoR _) ?_
      refine hK _ _ ?_; clear hK K
      refine wpAny_ready (rs := [1]) (by kernel_rfl) (by simp) ?_
      refine AllReady.cons rfl (fun K hK => ?_) AllReady.nil
      refine step_load_row rfl 56 _ rfl (w.heap.size + 1) (by rfl) 56 (relC .u32 B) (0, 0) _ K1.out undR rfl (infoR _) ?_
      refine hK _ _ ?_; clear hK K
      refine wpAny_ready (rs := [2]) (by kernel_rfl) (by simp) ?_
      refine AllReady.cons rfl (fun K hK => ?_) AllReady.nil
      go_simp
      go_wp2_with (go_at_call 81; (with_reducible refine (CA _).out.mono ?_); rintro e w2 ⟨rfl, hb⟩)
      replace K0 := Lib.hid (K0.out.kept hb)
      replace K1 := Lib.hid (K1.out.kept hb)
      replace KB := Lib.hid (bnext KB.out hb)
      clear hb
      refine wpAny_ready (rs := [4]) (by kernel_rfl) (by simp) ?_
      refine AllReady.cons rfl (fun K hK => ?_) AllReady.nil
      go_simp
      refine hK _ _ ?_; clear hK K
      refine wpAny_ready (rs := [5]) (by kernel_rfl) (by simp) ?_
      refine AllReady.cons rfl (fun K hK => ?_) AllReady.nil
      go_simp
      refine hK _ _ ?_; clear hK K
      refine wpAny_done (by kernel_rfl) ?_ _
      go_wp2_with fail
      go_ret
      exact ⟨rfl, KB.out⟩
  · refine step_load_row rfl 56 _ rfl (w.heap.size + 1) (by rfl) 56 (relC .u32 B) (0, 0) _ K1.out undR rfl (infoR _) ?_
    refine hK _ _ ?_; clear hK K
    refine wpAny_ready (rs := [0, 3]) (by kernel_rfl) (by simp) ?_
    refine AllReady.cons rfl (fun K hK => ?_) (AllReady.cons rfl (fun K hK => ?_) AllReady.nil)
    · refine step_load_row rfl 56 _ rfl w.heap.size (by rfl) 56 (relC .u32 A) (0, 0) _ K0.out undR rfl (infoR _) ?_
      refine hK _ _ ?_; clear hK K
      refine wpAny_ready (rs := [2, 3]) (by kernel_rfl) (by simp) ?_
      refine AllReady.cons rfl (fun K hK => ?_) (AllReady.cons rfl (fun K hK => ?_) AllReady.nil)
      · go_simp
        go_wp2_with (go_at_call 81; (with_reducible refine (CA _).out.mono ?_); rintro e w2 ⟨rfl, hb⟩)
        replace K0 := Lib.hid (K0.out.kept hb)
        replace K1 := Lib.hid (K1.out.kept hb)
        replace KB := Lib.hid (bnext KB.out hb)
        clear hb
        refine wpAny_ready (rs := [3]) (by kernel_rfl) (by simp) ?_
        refine AllReady.cons rfl (fun K hK => ?_) AllReady.nil
        refine step_load_row rfl 56 _ rfl w.heap.size (by rfl) 56 (relC .u32 A) (0, 0) _ K0.out undR rfl (infoR _) ?_
        refine hK _ _ ?_; clear hK K
        refine wpAny_ready (rs := [4]) (by kernel_rfl) (by simp) ?_
        refine AllReady.cons rfl (fun K hK => ?_) AllReady.nil
        go_simp
        refine hK _ _ ?_; clear hK K
        refine wpAny_ready (rs := [5]) (by kernel_rfl) (by simp) ?_
        refine AllReady.cons rfl (fun K hK => ?_) AllReady.nil
        go_simp
        refine hK _ _ ?_; clear hK K
        refine wpAny_done (by kernel_rfl) ?_ _
        go_wp2_with fail
        go_ret
        exact ⟨rfl, KB.out⟩
      · refine step_load_row rfl 56 _ rfl w.heap.size (by rfl) 56 (relC .u32 A) (0, 0) _ K0.out undR rfl (infoR _) ?_
        refine hK _ _ ?_; clear hK K
        refine wpAny_ready (rs := [2]) (by kernel_rfl) (by simp) ?_
        refine AllReady.cons rfl (fun K hK => ?_) AllReady.nil
        go_simp
        go_wp2_with (go_at_call 81; (with_reducible refine (CA _).out.mono ?_); rintro e w2 ⟨rfl, hb⟩)
        replace K0 := Lib.hid (K0.out.kept hb)
        replace K1 := Lib.hid (K1.out.kept hb)
        replace KB := Lib.hid (bnext KB.out hb)
        clear hb
        refine wpAny_ready (rs := [4]) (by kernel_rfl) (by simp) ?_
        refine AllReady.cons rfl (fun K hK => ?_) AllReady.nil
        go_simp
        refine hK _ _ ?_; clear hK K
        refine wpAny_ready (rs := [5]) (by kernel_rfl) (by simp) ?_
        refine AllReady.cons rfl (fun K hK => ?_) AllReady.nil
        go_simp
        refine hK _ _ ?_; clear hK K
        refine wpAny_done (by kernel_rfl) ?_ _
        go_wp2_with fail
        go_ret
        exact ⟨rfl, KB.out⟩
    · refine step_load_row rfl 56 _ rfl w.heap.size (by rfl) 56 (relC .u32 A) (0, 0) _ K0.out undR rfl (infoR _) ?_
      refine hK _ _ ?_; clear hK K
      refine wpAny_ready (rs := [0]) (by kernel_rfl) (by simp) ?_
      refine AllReady.cons rfl (fun K hK => ?_) AllReady.nil
      refine step_load_row rfl 56 _ rfl w.heap.size (by rfl) 56 (relC .u32 A) (0, 0) _ K0.out undR rfl (infoR _) ?_
      refine hK _ _ ?_; clear hK K
      refine wpAny_ready (rs := [2]) (by kernel_rfl) (by simp) ?_
      refine AllReady.cons rfl (fun K hK => ?_) AllReady.nil
      go_simp
      go_wp2_with (go_at_call 81; (with_reducible refine (CA _).out.mono ?_); rintro e w2 ⟨rfl, hb⟩)
      replace K0 := Lib.hid (K0.out.kept hb)
      replace K1 := Lib.hid (K1.out.kept hb)
      replace KB := Lib.hid (bnext KB.out hb)
      clear hb
      refine wpAny_ready (rs := [4]) (by kernel_rfl) (by simp) ?_
      refine AllReady.cons rfl (fun K hK => ?_) AllReady.nil
      go_simp
      refine hK _ _ ?_; clear hK K
      refine wpAny_ready (rs := [5]) (by kernel_rfl) (by simp) ?_
      refine AllReady.cons rfl (fun K hK => ?_) AllReady.nil
      go_simp
      refine hK _ _ ?_; clear hK K
      refine wpAny_done (by kernel_rfl) ?_ _
      go_wp2_with fail
      go_ret
      exact ⟨rfl, KB.out⟩
  · refine step_load_row rfl 56 _ rfl w.heap.size (by rfl) 56 (relC .u32 A) (0, 0) _ K0.out undR rfl (infoR _) ?_
    refine hK _ _ ?_; clear hK K
    refine wpAny_ready (rs := [0, 1]) (by kernel_rfl) (by simp) ?_
    refine AllReady.cons rfl (fun K hK => ?_) (AllReady.cons rfl (fun K hK => ?_) AllReady.nil)
    · refine step_load_row rfl 56 _ rfl w.heap.size (by rfl) 56 (relC .u32 A) (0, 0) _ K0.out undR rfl (infoR _) ?_
      refine hK _ _ ?_; clear hK K
      refine wpAny_ready (rs := [1]) (by kernel_rfl) (by simp) ?_
      refine AllReady.cons rfl (fun K hK => ?_) AllReady.nil
      refine step_load_row rfl 56 _ rfl (w.heap.size + 1) (by rfl) 56 (relC .u32 B) (0, 0) _ K1.out undR rfl (infoR _) ?_
      refine hK _ _ ?_; clear hK K
      refine wpAny_ready (rs := [2]) (by kernel_rfl) (by simp) ?_
      refine AllReady.cons rfl (fun K hK => ?_) AllReady.nil
      go_simp
      go_wp2_with (go_at_call 81; (with_reducible refine (CA _).out.mono ?_); rintro e w2 ⟨rfl, hb⟩)
      replace K0 := Lib.hid (K0.out.kept hb)
      replace K1 := Lib.hid (K1.out.kept hb)
      replace KB := Lib.hid (bnext KB.out hb)
      clear hb
      refine wpAny_ready (rs := [4]) (by kernel_rfl) (by simp) ?_
      refine AllReady.cons rfl (fun K hK => ?_) AllReady.nil
      go_simp
      refine hK _ _ ?_; clear hK K
      refine wpAny_ready (rs := [5]) (by kernel_rfl) (by simp) ?_
      refine AllReady.cons rfl (fun K hK => ?_) AllReady.nil
      go_simp
      refine hK _ _ ?_; clear hK K
      refine wpAny_done (by kernel_rfl) ?_ _
      go_wp2_with fail
      go_ret
      exact ⟨rfl, KB.out⟩
    · refine step_load_row rfl 56 _ rfl (w.heap.size + 1) (by rfl) 56 (relC .u32 B) (0, 0) _ K1.out undR rfl (infoR _) ?_
      refine hK _ _ ?_; clear hK K
      refine wpAny_ready (rs := [0]) (by kernel_rfl) (by simp) ?_
      refine AllReady.cons rfl (fun K hK => ?_) AllReady.nil
      refine step_load_row rfl 56 _ rfl w.heap.size (by rfl) 56 (relC .u32 A) (0, 0) _ K0.out undR rfl (infoR _) ?_
      refine hK _ _ ?_; clear hK K
      refine wpAny_ready (rs := [2]) (by kernel_rfl) (by simp) ?_
      refine AllReady.cons rfl (fun K hK => ?_) AllReady.nil
      go_simp
      go_wp2_with (go_at_call 81; (with_reducible refine (CA _).out.mono ?_); rintro e w2 ⟨rfl, hb⟩)
      replace K0 := Lib.hid (K0.out.kept hb)
      replace K1 := Lib.hid (K1.out.kept hb)
      replace KB := Lib.hid (bnext KB.out hb)
      clear hb
      refine wpAny_ready (rs := [4]) (by kernel_rfl) (by simp) ?_
      refine AllReady.cons rfl (fun K hK => ?_) AllReady.nil
      go_simp
      refine hK _ _ ?_; clear hK K
      refine wpAny_ready (rs := [5]) (by kernel_rfl) (by simp) ?_
      refine AllReady.cons rfl (fun K hK => ?_) AllReady.nil
      go_simp
      refine hK _ _ ?_; clear hK K
      refine wpAny_done (by kernel_rfl) ?_ _
      go_wp2_with fail
      go_ret
      exact ⟨rfl, KB.out⟩
set_option maxRecDepth 100000 in
set_option maxHeartbeats 4000000 in
theorem implRelWithin_yes (s q : ByteArray) (h : Rel729 s ∧ Rel729 q) (w : World) : Calls Tryz.prog 19 #[.string s, .string q] w (BoolIs (relEq (fun i j => relS s.data.toList i j && relS q.data.toList i j) (relS s.data.toList)) w) := by
  have C1 := Lib.hid (readRels_yes s q h.1 h.2)
  clear h
  go_enter Tryz.func19, Tryz.ntmps19
  go_wp2_with fail
  refine (C1.out _).mono ?_
  rintro e w1 ⟨rfl, hb⟩
  have KB := Lib.hid hb
  clear hb
  obtain ⟨p0, p1, pb⟩ := push2_blk w1 (relC .u32 noR) (relC .u32 noR) (relC .u32 (relS s.data.toList)) (relC .u32 (relS q.data.toList)) 56 56
  have P0 := Lib.hid p0
  have P1 := Lib.hid p1
  replace KB := Lib.hid (bnext KB.out pb)
  obtain ⟨l0, l1, _, _⟩ := two_blk w1 (relC .u32 noR) (relC .u32 noR) 56 56
  have L0 := Lib.hid l0
  have L1 := Lib.hid (l1.rowOther (g := w1.heap.size) (by omega) (relC .u32 (relS s.data.toList)))
  clear p0 p1 pb l0 l1
  go_wp2_with (first
    | (refine r_alloc rfl rfl (some 5) rfl w1.heap.size rfl ?_)
    | (refine r_alloc rfl rfl (some 6) rfl (w1.heap.size + 1) (by simp) ?_)
    | (refine wpList_store_row rfl 56 _ _ rfl w1.heap.size (relC .u32 (relS s.data.toList)) (by rfl) (by rfl) 56 (relC .u32 noR) L0.out (infoR _) (by first | rw [relC_size, relC_size] | rw [relC_size]) (relC_one _ _) ?_)
    | (refine wpList_store_row rfl 56 _ _ rfl (w1.heap.size + 1) (relC .u32 (relS q.data.toList)) (by rfl) (by rfl) 56 (relC .u32 noR) L1.out (infoR _) (by first | rw [relC_size, relC_size] | rw [relC_size]) (relC_one _ _) ?_)
    | (refine wpList_load_rowG (by rfl) 56 _ rfl w1.heap.size (by rfl) 56 (relC .u32 (relS s.data.toList)) (0, 0) _ P0.out undR rfl (infoR _) ?_)
    | (refine wpList_load_rowG (by rfl) 56 _ rfl (w1.heap.size + 1) (by rfl) 56 (relC .u32 (relS q.data.toList)) (0, 0) _ P1.out undR rfl (infoR _) ?_))
  refine (rel_within (relS s.data.toList) (relS q.data.toList) _).mono ?_
  rintro e w2 ⟨rfl, hb⟩
  replace KB := Lib.hid (bnext KB.out hb)
  clear hb
  go_wp2_with fail
  go_ret
  exact ⟨rfl, KB.out⟩
set_option maxRecDepth 100000 in
set_option maxHeartbeats 4000000 in
theorem implRelWithin_no (s q : ByteArray) (h : ¬ (Rel729 s ∧ Rel729 q)) (w : World) : Calls Tryz.prog 19 #[.string s, .string q] w (BoolIs false w) := by
  have C1 := Lib.hid (readRels_no s q h)
  clear h
  go_enter Tryz.func19, Tryz.ntmps19
  go_wp2_with fail
  refine (C1.out _).mono ?_
  rintro e w1 ⟨rfl, hb⟩
  have KB := Lib.hid hb
  clear hb
  obtain ⟨p0, p1, pb⟩ := push2_blk w1 (relC .u32 noR) (relC .u32 noR) (relC .u32 noR) (relC .u32 noR) 56 56
  have P0 := Lib.hid p0
  have P1 := Lib.hid p1
  replace KB := Lib.hid (bnext KB.out pb)
  obtain ⟨l0, l1, _, _⟩ := two_blk w1 (relC .u32 noR) (relC .u32 noR) 56 56
  have L0 := Lib.hid l0
  have L1 := Lib.hid (l1.rowOther (g := w1.heap.size) (by omega) (relC .u32 noR))
  clear p0 p1 pb l0 l1
  go_wp2_with (first
    | (refine r_alloc rfl rfl (some 5) rfl w1.heap.size rfl ?_)
    | (refine r_alloc rfl rfl (some 6) rfl (w1.heap.size + 1) (by simp) ?_)
    | (refine wpList_store_row rfl 56 _ _ rfl w1.heap.size (relC .u32 noR) (by rfl) (by rfl) 56 (relC .u32 noR) L0.out (infoR _) (by first | rw [relC_size, relC_size] | rw [relC_size]) (relC_one _ _) ?_)
    | (refine wpList_store_row rfl 56 _ _ rfl (w1.heap.size + 1) (relC .u32 noR) (by rfl) (by rfl) 56 (relC .u32 noR) L1.out (infoR _) (by first | rw [relC_size, relC_size] | rw [relC_size]) (relC_one _ _) ?_)
    | (refine wpList_load_rowG (by rfl) 56 _ rfl w1.heap.size (by rfl) 56 (relC .u32 noR) (0, 0) _ P0.out undR rfl (infoR _) ?_)
    | (refine wpList_load_rowG (by rfl) 56 _ rfl (w1.heap.size + 1) (by rfl) 56 (relC .u32 noR) (0, 0) _ P1.out undR rfl (infoR _) ?_))
  go_ret
  exact ⟨rfl, KB.out⟩
theorem tb_of_nb {F G : Nat → Bool} (h : nb 27 F = nb 27 G) : tb F = tb G := tb_congr fun i hi => nb_inj h i hi
theorem sha_eq (F G : Nat → Bool) : (bits .andNot .i64 (nb 27 F : Nat) (nb 27 G : Nat) == 0) = wi 27 F G := by
  rw [s_andNot, Bool.eq_iff_iff, beq_iff_eq, wi_iff]
  constructor
  · intro hz i hi hF
    have h0 : nb 27 (fun i => F i && !G i) = nb 27 (fun _ => false) := by rw [nb_zero 27 (F := fun _ => false) (fun _ _ => rfl)]; omega
    have := nb_inj h0 i hi
    simpa [hF] using this
  · intro hall
    have : nb 27 (fun i => F i && !G i) = 0 := nb_zero 27 fun i hi => by
      cases hF : F i
      · rfl
      · simp [hall i hi hF]
    omega
end Go.Proofs.YtheclmdpiijakaaGreatDoor
