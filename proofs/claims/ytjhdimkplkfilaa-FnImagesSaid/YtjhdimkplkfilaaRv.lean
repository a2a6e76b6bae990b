/-
  RelWithin of the program, ShadowOf of the model.
-/
import Derived.Test.YtjhdimkplkfilaaRt
namespace Go.Proofs.Ytjhdimkplkfilaa
open Go.RowKit Go.Great

/-- A guarded load of a whole row. -/
theorem wpList_load_rowG {P : Program} {ops : Array Oper} {rest : List Oper} {o : Oper} {a : Act} {w : World} {Q : Exit → Act → World → Prop} (hw : Region.wanted o (yielded ops a.tmps) = true) (ty : TypeId) (x : Operand) (ho : o.op = .load ty x)
    (g : Nat) (hx : a.eval x = .pointer (some ⟨g, 0, none⟩)) (t : TypeId) (cs : Array Value) (fr : Nat × Nat) (d : TypeDesc) (hg : w.heap[g]? = some (.cells cs t fr))
    (hu : P.underlying ty = some d) (hd : (match d with | .struct _ | .array _ _ => true | _ => false) = true) (hi : (P.info? ty).map (·.size) = some cs.size)
    (h : wpList P ops Q rest (a.put o.dst (.agg cs)) w) : wpList P ops Q (o :: rest) a w :=
  wpList_step fun K hK => by
    rw [if_pos hw]
    exact wp_load_row ty x ho g hx t cs fr d hg hu hd hi (hK _ _ h)
set_option maxRecDepth 100000 in
set_option maxHeartbeats 4000000 in
theorem rel_within (A B : Nat → Nat → Bool) (w : World) : Calls Try.prog 58 #[.agg (relC .u32 A), .agg (relC .u32 B)] w (BoolIs (relEq (fun i j => A i j && B i j) A) w) := by
  obtain ⟨k0, k1, kb, kz⟩ := two_blk w (relC .u32 A) (relC .u32 B) 47 47
  have K0 := Lib.hid k0
  have K1 := Lib.hid k1
  have KB := Lib.hid kb
  have CA := fun w => Lib.hid (rel_and A B w)
  have HG := r_guard
  have HE := fun w => r_eq (fun i j => A i j && B i j) A w
  clear k0 k1 kb kz
  go_enter Try.func58, Try.ntmps58
  go_wp2_with (first
    | (refine wpList_boxTo rfl 47 _ rfl (some 2) rfl w.heap.size rfl (relC .u32 A) (by rfl) ?_)
    | (refine wpList_boxTo rfl 47 _ rfl (some 3) rfl (w.heap.size + 1) (by simp) (relC .u32 B) (by rfl) ?_))
  generalize (w.alloc (.cells (relC .u32 A) 47)).alloc (.cells (relC .u32 B) 47) = w0 at *
  replace K0 := Lib.hid K0.out.drew
  replace K1 := Lib.hid K1.out.drew
  replace KB := Lib.hid KB.out.drew
  refine wp_region_any (by kernel_rfl) ?_
  change wpAny _ _ _ _ _ _ _ (World.drew _)
  generalize w0.drew = wd at *
  refine wpAny_ready (rs := [0, 1, 3]) (by kernel_rfl) (by simp) ?_
  refine AllReady.cons rfl (fun K hK => ?_) (AllReady.cons rfl (fun K hK => ?_) (AllReady.cons rfl (fun K hK => ?_) AllReady.nil))
  · refine step_load_row rfl 47 _ rfl w.heap.size (by rfl) 47 (relC .u32 A) (0, 0) _ K0.out undR rfl (infoR _) ?_
    refine hK _ _ ?_; clear hK K
    refine wpAny_ready (rs := [1, 3]) (by kernel_rfl) (by simp) ?_
    refine AllReady.cons rfl (fun K hK => ?_) (AllReady.cons rfl (fun K hK => ?_) AllReady.nil)
    · refine step_load_row rfl 47 _ rfl (w.heap.size + 1) (by rfl) 47 (relC .u32 B) (0, 0) _ K1.out undR rfl (infoR _) ?_
      refine hK _ _ ?_; clear hK K
      refine wpAny_ready (rs := [2, 3]) (by kernel_rfl) (by simp) ?_
      refine AllReady.cons rfl (fun K hK => ?_) (AllReady.cons rfl (fun K hK => ?_) AllReady.nil)
      · go_simp
        go_wp2_with (go_at_call 50; (with_reducible refine (CA _).out.mono ?_); rintro e w2 ⟨rfl, hb⟩)
        replace K0 := Lib.hid (K0.out.kept hb)
        replace K1 := Lib.hid (K1.out.kept hb)
        replace KB := Lib.hid (bnext KB.out hb)
        clear hb
        refine wpAny_ready (rs := [3]) (by kernel_rfl) (by simp) ?_
        refine AllReady.cons rfl (fun K hK => ?_) AllReady.nil
        refine step_load_row rfl 47 _ rfl w.heap.size (by rfl) 47 (relC .u32 A) (0, 0) _ K0.out undR rfl (infoR _) ?_
        refine hK _ _ ?_; clear hK K
        refine wpAny_ready (rs := [4]) (by kernel_rfl) (by simp) ?_
        refine AllReady.cons rfl (fun K hK => ?_) AllReady.nil
        go_simp
        refine hK _ _ ?_; clear hK K
        refine wpAny_ready (rs := [5]) (by kernel_rfl) (by simp) ?_
        refine AllReady.cons rfl (fun K hK => ?_) AllReady.nil
        go_simp
        refine hK _ _ ?_; clear hK K
        refine wpAny_done (by kernel_rfl) ?_ _
        go_wp2_with fail
        go_ret
        exact ⟨rfl, KB.out⟩
      · refine step_load_row rfl 47 _ rfl w.heap.size (by rfl) 47 (relC .u32 A) (0, 0) _ K0.out undR rfl (infoR _) ?_
        refine hK _ _ ?_; clear hK K
        refine wpAny_ready (rs := [2]) (by kernel_rfl) (by simp) ?_
        refine AllReady.cons rfl (fun K hK => ?_) AllReady.nil
        go_simp
        go_wp2_with (go_at_call 50; (with_reducible refine (CA _).out.mono ?_); rintro e w2 ⟨rfl, hb⟩)
        replace K0 := Lib.hid (K0.out.kept hb)
        replace K1 := Lib.hid (K1.out.kept hb)
        replace KB := Lib.hid (bnext KB.out hb)
        clear hb
        refine wpAny_ready (rs := [4]) (by kernel_rfl) (by simp) ?_
        refine AllReady.cons rfl (fun K hK => ?_) AllReady.nil
        go_simp
        refine hK _ _ ?_; clear hK K
        refine wpAny_ready (rs := [5]) (by kernel_rfl) (by simp) ?_
        refine AllReady.cons rfl (fun K hK => ?_) AllReady.nil
        go_simp
        refine hK _ _ ?_; clear hK K
        refine wpAny_done (by kernel_rfl) ?_ _
        go_wp2_with fail
        go_ret
        exact ⟨rfl, KB.out⟩
    · refine step_load_row rfl 47 _ rfl w.heap.size (by rfl) 47 (relC .u32 A) (0, 0) _ K0.out undR rfl (infoR _) ?_
      refine hK _ _ ?_; clear hK K
      refine wpAny_ready (rs := [1]) (by kernel_rfl) (by simp) ?_
      refine AllReady.cons rfl (fun K hK => ?_) AllReady.nil
      refine step_load_row rfl 47 _ rfl (w.heap.size + 1) (by rfl) 47 (relC .u32 B) (0, 0) _ K1.out undR rfl (infoR _) ?_
      refine hK _ _ ?_; clear hK K
      refine wpAny_ready (rs := [2]) (by kernel_rfl) (by simp) ?_
      refine AllReady.cons rfl (fun K hK => ?_) AllReady.nil
      go_simp
      go_wp2_with (go_at_call 50; (with_reducible refine (CA _).out.mono ?_); rintro e w2 ⟨rfl, hb⟩)
      replace K0 := Lib.hid (K0.out.kept hb)
      replace K1 := Lib.hid (K1.out.kept hb)
      replace KB := Lib.hid (bnext KB.out hb)
      clear hb
      refine wpAny_ready (rs := [4]) (by kernel_rfl) (by simp) ?_
      refine AllReady.cons rfl (fun K hK => ?_) AllReady.nil
      go_simp
      refine hK _ _ ?_; clear hK K
      refine wpAny_ready (rs := [5]) (by kernel_rfl) (by simp) ?_
      refine AllReady.cons rfl (fun K hK => ?_) AllReady.nil
      go_simp
      refine hK _ _ ?_; clear hK K
      refine wpAny_done (by kernel_rfl) ?_ _
      go_wp2_with fail
      go_ret
      exact ⟨rfl, KB.out⟩
  · refine step_load_row rfl 47 _ rfl (w.heap.size + 1) (by rfl) 47 (relC .u32 B) (0, 0) _ K1.out undR rfl (infoR _) ?_
    refine hK _ _ ?_; clear hK K
    refine wpAny_ready (rs := [0, 3]) (by kernel_rfl) (by simp) ?_
    refine AllReady.cons rfl (fun K hK => ?_) (AllReady.cons rfl (fun K hK => ?_) AllReady.nil)
    · refine step_load_row rfl 47 _ rfl w.heap.size (by rfl) 47 (relC .u32 A) (0, 0) _ K0.out undR rfl (infoR _) ?_
      refine hK _ _ ?_; clear hK K
      refine wpAny_ready (rs := [2, 3]) (by kernel_rfl) (by simp) ?_
      refine AllReady.cons rfl (fun K hK => ?_) (AllReady.cons rfl (fun K hK => ?_) AllReady.nil)
      · go_simp
        go_wp2_with (go_at_call 50; (with_reducible refine (CA _).out.mono ?_); rintro e w2 ⟨rfl, hb⟩)
        replace K0 := Lib.hid (K0.out.kept hb)
        replace K1 := Lib.hid (K1.out.kept hb)
        replace KB := Lib.hid (bnext KB.out hb)
        clear hb
        refine wpAny_ready (rs := [3]) (by kernel_rfl) (by simp) ?_
        refine AllReady.cons rfl (fun K hK => ?_) AllReady.nil
        refine step_load_row rfl 47 _ rfl w.heap.size (by rfl) 47 (relC .u32 A) (0, 0) _ K0.out undR rfl (infoR _) ?_
        refine hK _ _ ?_; clear hK K
        refine wpAny_ready (rs := [4]) (by kernel_rfl) (by simp) ?_
        refine AllReady.cons rfl (fun K hK => ?_) AllReady.nil
        go_simp
        refine hK _ _ ?_; clear hK K
        refine wpAny_ready (rs := [5]) (by kernel_rfl) (by simp) ?_
        refine AllReady.cons rfl (fun K hK => ?_) AllReady.nil
        go_simp
        refine hK _ _ ?_; clear hK K
        refine wpAny_done (by kernel_rfl) ?_ _
        go_wp2_with fail
        go_ret
        exact ⟨rfl, KB.out⟩
      · refine step_load_row rfl 47 _ rfl w.heap.size (by rfl) 47 (relC .u32 A) (0, 0) _ K0.out undR rfl (infoR _) ?_
        refine hK _ _ ?_; clear hK K
        refine wpAny_ready (rs := [2]) (by kernel_rfl) (by simp) ?_
        refine AllReady.cons rfl (fun K hK => ?_) AllReady.nil
        go_simp
        go_wp2_with (go_at_call 50; (with_reducible refine (CA _).out.mono ?_); rintro e w2 ⟨rfl, hb⟩)
        replace K0 := Lib.hid (K0.out.kept hb)
        replace K1 := Lib.hid (K1.out.kept hb)
        replace KB := Lib.hid (bnext KB.out hb)
        clear hb
        refine wpAny_ready (rs := [4]) (by kernel_rfl) (by simp) ?_
        refine AllReady.cons rfl (fun K hK => ?_) AllReady.nil
        go_simp
        refine hK _ _ ?_; clear hK K
        refine wpAny_ready (rs := [5]) (by kernel_rfl) (by simp) ?_
        refine AllReady.cons rfl (fun K hK => ?_) AllReady.nil
        go_simp
        refine hK _ _ ?_; clear hK K
        refine wpAny_done (by kernel_rfl) ?_ _
        go_wp2_with fail
        go_ret
        exact ⟨rfl, KB.out⟩
    · refine step_load_row rfl 47 _ rfl w.heap.size (by rfl) 47 (relC .u32 A) (0, 0) _ K0.out undR rfl (infoR _) ?_
      refine hK _ _ ?_; clear hK K
      refine wpAny_ready (rs := [0]) (by kernel_rfl) (by simp) ?_
      refine AllReady.cons rfl (fun K hK => ?_) AllReady.nil
      refine step_load_row rfl 47 _ rfl w.heap.size (by rfl) 47 (relC .u32 A) (0, 0) _ K0.out undR rfl (infoR _) ?_
      refine hK _ _ ?_; clear hK K
      refine wpAny_ready (rs := [2]) (by kernel_rfl) (by simp) ?_
      refine AllReady.cons rfl (fun K hK => ?_) AllReady.nil
      go_simp
      go_wp2_with (go_at_call 50; (with_reducible refine (CA _).out.mono ?_); rintro e w2 ⟨rfl, hb⟩)
      replace K0 := Lib.hid (K0.out.kept hb)
      replace K1 := Lib.hid (K1.out.kept hb)
      replace KB := Lib.hid (bnext KB.out hb)
      clear hb
      refine wpAny_ready (rs := [4]) (by kernel_rfl) (by simp) ?_
      refine AllReady.cons rfl (fun K hK => ?_) AllReady.nil
      go_simp
      refine hK _ _ ?_; clear hK K
      refine wpAny_ready (rs := [5]) (by kernel_rfl) (by simp) ?_
      refine AllReady.cons rfl (fun K hK => ?_) AllReady.nil
      go_simp
      refine hK _ _ ?_; clear hK K
      refine wpAny_done (by kernel_rfl) ?_ _
      go_wp2_with fail
      go_ret
      exact ⟨rfl, KB.out⟩
  · refine step_load_row rfl 47 _ rfl w.heap.size (by rfl) 47 (relC .u32 A) (0, 0) _ K0.out undR rfl (infoR _) ?_
    refine hK _ _ ?_; clear hK K
    refine wpAny_ready (rs := [0, 1]) (by kernel_rfl) (by simp) ?_
    refine AllReady.cons rfl (fun K hK => ?_) (AllReady.cons rfl (fun K hK => ?_) AllReady.nil)
    · refine step_load_row rfl 47 _ rfl w.heap.size (by rfl) 47 (relC .u32 A) (0, 0) _ K0.out undR rfl (infoR _) ?_
      refine hK _ _ ?_; clear hK K
      refine wpAny_ready (rs := [1]) (by kernel_rfl) (by simp) ?_
      refine AllReady.cons rfl (fun K hK => ?_) AllReady.nil
      refine step_load_row rfl 47 _ rfl (w.heap.size + 1) (by rfl) 47 (relC .u32 B) (0, 0) _ K1.out undR rfl (infoR _) ?_
      refine hK _ _ ?_; clear hK K
      refine wpAny_ready (rs := [2]) (by kernel_rfl) (by simp) ?_
      refine AllReady.cons rfl (fun K hK => ?_) AllReady.nil
      go_simp
      go_wp2_with (go_at_call 50; (with_reducible refine (CA _).out.mono ?_); rintro e w2 ⟨rfl, hb⟩)
      replace K0 := Lib.hid (K0.out.kept hb)
      replace K1 := Lib.hid (K1.out.kept hb)
      replace KB := Lib.hid (bnext KB.out hb)
      clear hb
      refine wpAny_ready (rs := [4]) (by kernel_rfl) (by simp) ?_
      refine AllReady.cons rfl (fun K hK => ?_) AllReady.nil
      go_simp
      refine hK _ _ ?_; clear hK K
      refine wpAny_ready (rs := [5]) (by kernel_rfl) (by simp) ?_
      refine AllReady.cons rfl (fun K hK => ?_) AllReady.nil
      go_simp
      refine hK _ _ ?_; clear hK K
      refine wpAny_done (by kernel_rfl) ?_ _
      go_wp2_with fail
      go_ret
      exact ⟨rfl, KB.out⟩
    · refine step_load_row rfl 47 _ rfl (w.heap.size + 1) (by rfl) 47 (relC .u32 B) (0, 0) _ K1.out undR rfl (infoR _) ?_
      refine hK _ _ ?_; clear hK K
      refine wpAny_ready (rs := [0]) (by kernel_rfl) (by simp) ?_
      refine AllReady.cons rfl (fun K hK => ?_) AllReady.nil
      refine step_load_row rfl 47 _ rfl w.heap.size (by rfl) 47 (relC .u32 A) (0, 0) _ K0.out undR rfl (infoR _) ?_
      refine hK _ _ ?_; clear hK K
      refine wpAny_ready (rs := [2]) (by kernel_rfl) (by simp) ?_
      refine AllReady.cons rfl (fun K hK => ?_) AllReady.nil
      go_simp
      go_wp2_with (go_at_call 50; (with_reducible refine (CA _).out.mono ?_); rintro e w2 ⟨rfl, hb⟩)
      replace K0 := Lib.hid (K0.out.kept hb)
      replace K1 := Lib.hid (K1.out.kept hb)
      replace KB := Lib.hid (bnext KB.out hb)
      clear hb
      refine wpAny_ready (rs := [4]) (by kernel_rfl) (by simp) ?_
      refine AllReady.cons rfl (fun K hK => ?_) AllReady.nil
      go_simp
      refine hK _ _ ?_; clear hK K
      refine wpAny_ready (rs := [5]) (by kernel_rfl) (by simp) ?_
      refine AllReady.cons rfl (fun K hK => ?_) AllReady.nil
      go_simp
      refine hK _ _ ?_; clear hK K
      refine wpAny_done (by kernel_rfl) ?_ _
      go_wp2_with fail
      go_ret
      exact ⟨rfl, KB.out⟩
set_option maxRecDepth 100000 in
set_option maxHeartbeats 4000000 in
theorem implRelWithin_yes (s q : ByteArray) (h : Rel729 s ∧ Rel729 q) (w : World) : Calls Try.prog 18 #[.string s, .string q] w (BoolIs (relEq (fun i j => relS s.data.toList i j && relS q.data.toList i j) (relS s.data.toList)) w) := by
  have C1 := Lib.hid (readRels_yes s q h.1 h.2)
  clear h
  go_enter Try.func18, Try.ntmps18
  go_wp2_with fail
  refine (C1.out _).mono ?_
  rintro e w1 ⟨rfl, hb⟩
  have KB := Lib.hid hb
  clear hb
  obtain ⟨p0, p1, pb⟩ := push2_blk w1 (relC .u32 noR) (relC .u32 noR) (relC .u32 (relS s.data.toList)) (relC .u32 (relS q.data.toList)) 47 47
  have P0 := Lib.hid p0
  have P1 := Lib.hid p1
  replace KB := Lib.hid (bnext KB.out pb)
  obtain ⟨l0, l1, _, _⟩ := two_blk w1 (relC .u32 noR) (relC .u32 noR) 47 47
  have L0 := Lib.hid l0
  have L1 := Lib.hid (l1.rowOther (g := w1.heap.size) (by omega) (relC .u32 (relS s.data.toList)))
  clear p0 p1 pb l0 l1
  go_wp2_with (first
    | (refine r_alloc rfl rfl (some 5) rfl w1.heap.size rfl ?_)
    | (refine r_alloc rfl rfl (some 6) rfl (w1.heap.size + 1) (by simp) ?_)
    | (refine wpList_store_row rfl 47 _ _ rfl w1.heap.size (relC .u32 (relS s.data.toList)) (by rfl) (by rfl) 47 (relC .u32 noR) L0.out (infoR _) (by first | rw [relC_size, relC_size] | rw [relC_size]) (relC_one _ _) ?_)
    | (refine wpList_store_row rfl 47 _ _ rfl (w1.heap.size + 1) (relC .u32 (relS q.data.toList)) (by rfl) (by rfl) 47 (relC .u32 noR) L1.out (infoR _) (by first | rw [relC_size, relC_size] | rw [relC_size]) (relC_one _ _) ?_)
    | (refine wpList_load_rowG (by rfl) 47 _ rfl w1.heap.size (by rfl) 47 (relC .u32 (relS s.data.toList)) (0, 0) _ P0.out undR rfl (infoR _) ?_)
    | (refine wpList_load_rowG (by rfl) 47 _ rfl (w1.heap.size + 1) (by rfl) 47 (relC .u32 (relS q.data.toList)) (0, 0) _ P1.out undR rfl (infoR _) ?_))
  refine (rel_within (relS s.data.toList) (relS q.data.toList) _).mono ?_
  rintro e w2 ⟨rfl, hb⟩
  replace KB := Lib.hid (bnext KB.out hb)
  clear hb
  go_wp2_with fail
  go_ret
  exact ⟨rfl, KB.out⟩
set_option maxRecDepth 100000 in
set_option maxHeartbeats 4000000 in
theorem implRelWithin_no (s q : ByteArray) (h : ¬ (Rel729 s ∧ Rel729 q)) (w : World) : Calls Try.prog 18 #[.string s, .string q] w (BoolIs false w) := by
  have C1 := Lib.hid (readRels_no s q h)
  clear h
  go_enter Try.func18, Try.ntmps18
  go_wp2_with fail
  refine (C1.out _).mono ?_
  rintro e w1 ⟨rfl, hb⟩
  have KB := Lib.hid hb
  clear hb
  obtain ⟨p0, p1, pb⟩ := push2_blk w1 (relC .u32 noR) (relC .u32 noR) (relC .u32 noR) (relC .u32 noR) 47 47
  have P0 := Lib.hid p0
  have P1 := Lib.hid p1
  replace KB := Lib.hid (bnext KB.out pb)
  obtain ⟨l0, l1, _, _⟩ := two_blk w1 (relC .u32 noR) (relC .u32 noR) 47 47
  have L0 := Lib.hid l0
  have L1 := Lib.hid (l1.rowOther (g := w1.heap.size) (by omega) (relC .u32 noR))
  clear p0 p1 pb l0 l1
  go_wp2_with (first
    | (refine r_alloc rfl rfl (some 5) rfl w1.heap.size rfl ?_)
    | (refine r_alloc rfl rfl (some 6) rfl (w1.heap.size + 1) (by simp) ?_)
    | (refine wpList_store_row rfl 47 _ _ rfl w1.heap.size (relC .u32 noR) (by rfl) (by rfl) 47 (relC .u32 noR) L0.out (infoR _) (by first | rw [relC_size, relC_size] | rw [relC_size]) (relC_one _ _) ?_)
    | (refine wpList_store_row rfl 47 _ _ rfl (w1.heap.size + 1) (relC .u32 noR) (by rfl) (by rfl) 47 (relC .u32 noR) L1.out (infoR _) (by first | rw [relC_size, relC_size] | rw [relC_size]) (relC_one _ _) ?_)
    | (refine wpList_load_rowG (by rfl) 47 _ rfl w1.heap.size (by rfl) 47 (relC .u32 noR) (0, 0) _ P0.out undR rfl (infoR _) ?_)
    | (refine wpList_load_rowG (by rfl) 47 _ rfl (w1.heap.size + 1) (by rfl) 47 (relC .u32 noR) (0, 0) _ P1.out undR rfl (infoR _) ?_))
  go_ret
  exact ⟨rfl, KB.out⟩
theorem tb_of_nb {F G : Nat → Bool} (h : nb 27 F = nb 27 G) : tb F = tb G := tb_congr fun i hi => nb_inj h i hi
theorem sha_eq (F G : Nat → Bool) : (bits .andNot .i64 (nb 27 F : Nat) (nb 27 G : Nat) == 0) = wi 27 F G := by
  rw [s_andNot, Bool.eq_iff_iff, beq_iff_eq, wi_iff]
  constructor
  · intro hz i hi hF
    have h0 : nb 27 (fun i => F i && !G i) = nb 27 (fun _ => false) := by rw [nb_zero 27 (F := fun _ => false) (fun _ _ => rfl)]; omega
    have := nb_inj h0 i hi
    simpa [hF] using this
  · intro hall
    have : nb 27 (fun i => F i && !G i) = 0 := nb_zero 27 fun i hi => by
      cases hF : F i
      · rfl
      · simp [hall i hi hF]
    omega
set_option maxRecDepth 100000 in
set_option maxHeartbeats 4000000 in
theorem specShadowOf_yes (s q : ByteArray) (h : Rel729 s ∧ Set27 q) (w : World) : Calls Try.prog 32 #[.string s, .string q] w (TextOk (tb (shaR (relS s.data.toList) (hs q.data.toList))) true w) := by
  obtain ⟨h1, h2⟩ := h
  have Hs := Lib.hid h1
  have Hq := Lib.hid h2
  clear h1 h2
  have KB := Lib.hid (Below.refl w.heap.size w)
  go_enter Try.func32, Try.ntmps32
  go_wp2_with fail
  refine (specRelV_yes s Hs.out _).mono ?_
  rintro e w' ⟨rfl, rfl⟩
  go_wp2_with fail
  refine (specPredValid_yes q _ Hq.out).mono ?_
  rintro e w' ⟨rfl, rfl⟩
  go_wp2_with fail
  refine (specRead s Hs.out _).mono ?_
  rintro e w2 ⟨rfl, hb⟩
  replace KB := Lib.hid (bnext KB.out hb)
  clear hb
  obtain ⟨p0, pb⟩ := push_blk w2 (relC .i64 noR) (relC .i64 (relS s.data.toList)) 64
  have P0 := Lib.hid p0
  replace KB := Lib.hid (bnext KB.out pb)
  have L0 := Lib.hid (one_blk w2 (relC .i64 noR) 64).1
  clear p0 pb
  go_wp2_with (first
    | (refine m_alloc rfl rfl (some 7) rfl w2.heap.size rfl ?_)
    | (refine wpList_store_row rfl 64 _ _ rfl w2.heap.size (relC .i64 (relS s.data.toList)) (by rfl) (by rfl) 64 (relC .i64 noR) L0.out (infoM _) (by rw [relC_size, relC_size]) (relC_one _ _) ?_))
  clear L0
  generalize hwx : (w2.alloc (.cells (relC .i64 noR) 64)).setRow w2.heap.size (relC .i64 (relS s.data.toList)) = wx at *
  clear hwx
  obtain ⟨g, hg⟩ : ∃ g, w2.heap.size = g := ⟨_, rfl⟩
  rw [hg] at P0 ⊢
  clear hg
  go_loopw [6, 8] (fun v i wr => ∃ k : Nat, k ≤ 27 ∧ i = .int .i64 k ∧ v = .int .i64 (nb 27 (lowF (shaR (relS s.data.toList) (hs q.data.toList)) k)) ∧ Hid (Blk wr g (relC .i64 (relS s.data.toList)) 64) ∧ Hid (Below w.heap.size w wr)) (fun _ i _ => 27 - (intOf i).toNat)
  case atStart => exact ⟨0, by omega, rfl, by rw [lowF_zero]; rfl, P0, KB⟩
  case round =>
    clear P0 KB
    obtain ⟨k, hk, rfl, rfl, R0, RB⟩ := hrel
    by_cases hlt : k < 27
    · have CM := fun w => Lib.hid (specMask q w Hq.out)
      have hE := sha_eq (relS s.data.toList k) (hs q.data.toList)
      have HO := Lib.hid (s_bit hlt (lowF (shaR (relS s.data.toList) (hs q.data.toList)) k))
      go_wp2_with fail
      have c0 := mrel_cell R0.out hlt
      have hbb := (Below.refl wr.heap.size wr).drew
      have RG : ∀ w', Below wr.heap.size wr w' → Below wr.heap.size wr w' ∧ w'.cell? ⟨g, k, none⟩ = some (.int .i64 (nb 27 (relS s.data.toList k))) := fun w' h => ⟨h, ckeep h c0⟩
      have RG' := Lib.hid RG
      have h0k : (0 : Int) ≤ (k : Int) := by omega
      have hk7 : (k : Int) < 27 := by omega
      clear RG
      cases hF : wi 27 (relS s.data.toList k) (hs q.data.toList) <;> rw [hF] at hE
      · have HE := Lib.hid hE
        clear hE
        go_region_held3 (fun w' => Below wr.heap.size wr w' ∧ w'.cell? ⟨g, k, none⟩ = some (.int .i64 (nb 27 (relS s.data.toList k))))
          ((first
            | exact RG'.out _ (by assumption)
            | (go_split_ands; exact RG'.out _ (bnext (by assumption) hq))))
          (first | (go_at_call 72; (with_reducible refine (CM _).out.mono ?_); rintro e w5 ⟨rfl, hq⟩))
        all_goals
          go_split_ands
          rename_i hbw _
          have HE2 := HE.out
          go_wp2_with fail
          exact ⟨⟨k + 1, by omega, by go_num, by rw [lowF_nil (F := shaR (relS s.data.toList) (hs q.data.toList)) hF], Lib.hid (R0.out.kept hbw), Lib.hid (bnext RB.out hbw)⟩, by simp [intOf]; omega⟩
      · have HE := Lib.hid hE
        clear hE
        go_region_held3 (fun w' => Below wr.heap.size wr w' ∧ w'.cell? ⟨g, k, none⟩ = some (.int .i64 (nb 27 (relS s.data.toList k))))
          ((first
            | exact RG'.out _ (by assumption)
            | (go_split_ands; exact RG'.out _ (bnext (by assumption) hq))))
          (first | (go_at_call 72; (with_reducible refine (CM _).out.mono ?_); rintro e w5 ⟨rfl, hq⟩))
        all_goals
          go_split_ands
          rename_i hbw _
          have HE2 := HE.out
          go_wp2_with fail
          rw [HO.out]
          exact ⟨⟨k + 1, by omega, by go_num, by rw [lowF_one (F := shaR (relS s.data.toList) (hs q.data.toList)) hF], Lib.hid (R0.out.kept hbw), Lib.hid (bnext RB.out hbw)⟩, by simp [intOf]; omega⟩
    · have hk2 : k = 27 := by omega
      subst hk2
      go_wp2_with fail
      refine (specTextS _ _).mono ?_
      rintro e w5 ⟨rfl, hb⟩
      replace RB := Lib.hid (bnext RB.out hb)
      clear hb
      go_wp2_with fail
      go_ret2
      exact ⟨by rw [← tb_of_nb (lowF_all _)]; rfl, RB.out⟩

set_option maxRecDepth 100000 in
set_option maxHeartbeats 4000000 in
theorem specShadowOf_no (s q : ByteArray) (h : ¬ (Rel729 s ∧ Set27 q)) (hm : s.size ≤ maxLen) (hm2 : q.size ≤ maxLen) (w : World) : Calls Try.prog 32 #[.string s, .string q] w (TextOk [] false w) := by
  by_cases h1 : Rel729 s
  · have h2 : ¬ Set27 q := fun h2 => h ⟨h1, h2⟩
    have C := fun w => Lib.hid (specRelV_yes s h1 w)
    have D := fun w => Lib.hid (specPredValid_no q w h2 hm2)
    clear h1 h2 h
    go_enter Try.func32, Try.ntmps32
    go_wp2_with fail
    refine ((C _).out).mono ?_
    rintro e w' ⟨rfl, rfl⟩
    go_wp2_with fail
    refine ((D _).out).mono ?_
    rintro e w' ⟨rfl, rfl⟩
    go_wp2_with fail
    go_ret2
    exact ⟨rfl, Below.refl _ _⟩
  · have C := fun w => Lib.hid (specRelV_no s h1 hm w)
    clear h1 h
    go_enter Try.func32, Try.ntmps32
    go_wp2_with fail
    refine ((C _).out).mono ?_
    rintro e w' ⟨rfl, rfl⟩
    go_wp2_with fail
    go_ret2
    exact ⟨rfl, Below.refl _ _⟩
end Go.Proofs.Ytjhdimkplkfilaa
