/-
  The law of programs that do the same is true at all bytes: no condition. The card.
-/
import Derived.Test.YtopbkkmplgllkaaGreatDoorCards
import Derived.Test.YtopbkkmplgllkaaGreatDoorTie
import Derived.Test.YtopbkkmplgllkaaGreatDoorFd1
import Derived.Test.YtopbkkmplgllkaaGreatDoorRf2
import Derived.Test.YtopbkkmplgllkaaGreatDoorRfn
import Derived.Laws.StructEq
import Derived.Test.YtopbkkmplgllkaaGreatDoorTopD
import Derived.Deep.RegionHeld3
import Derived.ProofKit
import Derived.ChangeOld
import Derived.Deep.DeepHandedRow
import Derived.Lib.SmallJoins
import Derived.ChangeSame
import Derived.JoinedOf
import Derived.JoinedAt
import Derived.RowKit3
import Derived.ShutString
import Derived.OpenShut
import Derived.LaidMore
import Derived.Lay
import Derived.SevenTiedAt
import Derived.Stop.Joined
namespace Go.Proofs.YtopbkkmplgllkaaGreatDoor
open Go.RowKit Tm Go.Great Go.ChangeMaps

theorem same_pureF (p q : Pg) : allEq (rT p) (rL p) (rK p) (rT q) (rL q) (rK q) = allO eqO (oc p) (oc q) := by
  rw [Bool.eq_iff_iff, allO_iff]
  unfold allEq eqO oc
  simp only [Bool.and_eq_true, List.all_eq_true, List.mem_range, beq_iff_eq]
  constructor
  · rintro ⟨h1, h2, h3⟩ j hj
    exact ⟨⟨h1 j hj, nb_inj h2 j hj⟩, nb_inj h3 j hj⟩
  · intro h
    exact ⟨fun j hj => (h j hj).1.1, nb_congr fun j hj => (h j hj).1.2, nb_congr fun j hj => (h j hj).2⟩
theorem same_ref {p q : Pg} (hp : p.ok false) (hq : q.ok false) : allO eqO (oc p) (oc q) = (allO reO (oc p) (oc q) && allO reO (oc q) (oc p)) := by
  rw [Bool.eq_iff_iff, Bool.and_eq_true, sm_iff hp hq, rf_iff hp, rf_iff hq]
/-- The first difference is one exactly if the programs are not the same. -/
theorem fd_none (F G : Nat → Oc) : allO eqO F G = decide (whatD (F (fdK F G)) (G (fdK F G)) = tNone) := by
  have h := Classical.choose_spec (fd_ex F G)
  have hd : Fd F G (fdK F G) := h
  generalize fdK F G = k at *
  rw [Bool.eq_iff_iff, allO_iff, decide_eq_true_eq]
  rcases hd with ⟨h1, h2, _⟩ | ⟨rfl, h2⟩
  · constructor
    · intro ha; rw [ha k h1] at h2; cases h2
    · intro he
      exfalso
      unfold whatD at he
      unfold eqO at h2
      split at he
      · rename_i e1
        split at he
        · rename_i e2
          split at he
          · rename_i e3; simp [e1, e2, e3] at h2
          · exact absurd he (by decide)
        · exact absurd he (by decide)
      · exact absurd he (by decide)
  · exact ⟨fun _ => what_eq (h2 0 (by omega)), fun _ => h2⟩
theorem fdK_lt (F G : Nat → Oc) : fdK F G < 27 := by
  have h : Fd F G (fdK F G) := Classical.choose_spec (fd_ex F G)
  rcases h with ⟨h1, _⟩ | ⟨h1, _⟩
  · exact h1
  · omega
/-- Whether two results are the same. -/
def eqRV (p q : Pg) (k : Nat) : Prop := bs (tb (rT p k)) = bs (tb (rT q k)) ∧ rL p k = rL q k ∧ rK p k = rK q k
theorem tb_inj {A B : Nat → Bool} (h : bs (tb A) = bs (tb B)) : nb 27 A = nb 27 B := by
  have h2 : tb A = tb B := by
    have := congrArg (fun x : ByteArray => x.data.toList) h
    simpa [bs] using this
  refine nb_congr fun i hi => ?_
  have h3 : hs (tb A) i = hs (tb B) i := by rw [h2]
  unfold tb at h3
  rw [hs_tbn, hs_tbn] at h3
  simpa [hi] using h3
theorem eqRV_same {p q : Pg} (h : eqRV p q (fdK (oc p) (oc q))) : allO eqO (oc p) (oc q) = true := by
  have hd : Fd (oc p) (oc q) (fdK (oc p) (oc q)) := Classical.choose_spec (fd_ex (oc p) (oc q))
  rcases hd with ⟨_, h2, _⟩ | ⟨_, h2⟩
  · exfalso
    obtain ⟨e1, e2, e3⟩ := h
    have e1 := tb_inj e1
    generalize fdK (oc p) (oc q) = k at *
    unfold eqO oc at h2
    simp [e1, e2, e3] at h2
  · exact allO_iff.2 h2
theorem ax_back (k : Nat) (hk : k < 27) : (k : Int) = ax k + 3 * ay k + 9 * az k ∧ st3 (ax k) (ay k) (az k) = true := by
  unfold ax ay az
  refine ⟨by omega, ?_⟩
  simp only [st3, val3, Bool.and_eq_true, decide_eq_true_eq]
  omega

/-! ### Two results compared -/
theorem structRes : Tryz.prog.underlying 34 = some (.struct (Tryz.prog.fieldsOf 34)) := by kernel_rfl
theorem stoodRes : Tryz.prog.stoodInHeld 34 = false := by kernel_rfl
theorem fieldsRes : ∃ a b c, (Tryz.prog.fieldsOf 34).toList = [a, b, c] ∧ ((a.name = "_") = False ∧ a.type = 9 ∧ a.offset = 0) ∧ ((b.name = "_") = False ∧ b.type = 4 ∧ b.offset = 1) ∧ (c.name = "_") = False ∧ c.type = 4 ∧ c.offset = 2 :=
  ⟨(Tryz.prog.fieldsOf 34).toList[0]!, (Tryz.prog.fieldsOf 34).toList[1]!, (Tryz.prog.fieldsOf 34).toList[2]!, by kernel_rfl, ⟨by simp; decide +kernel, by kernel_rfl, by kernel_rfl⟩, ⟨by simp; decide +kernel, by kernel_rfl, by kernel_rfl⟩, by simp; decide +kernel, by kernel_rfl, by kernel_rfl⟩
theorem run_eqResD (d : Nat) (x y : ByteArray) (b c b' c' : Bool) (w : World) :
    (Op.equalIn (d + 2 + 1) 34 (.agg #[.string x, .bool b, .bool c]) (.agg #[.string y, .bool b', .bool c'])).run Tryz.prog w = .ok ((x.toList == y.toList) && ((b == b') && (c == c'))) w := by
  obtain ⟨f, g, h, h0, ⟨a1, a2, a3⟩, ⟨b1, b2, b3⟩, c1, c2, c3⟩ := fieldsRes
  have hs : Tryz.prog.underlying 9 = some .string := Tryz.underlying9
  have hb : Tryz.prog.underlying 4 = some .bool := Tryz.underlying4
  rw [run_equalIn_struct w (d + 2) _ _ _ structRes stoodRes, h0]
  have pa : ∀ x b c, (Go.part 9 #[.string x, .bool b, .bool c] 0).run Tryz.prog w = .ok (.string x) w := fun x b c => by simp [Go.part, isAgg, run_underlying hs]
  have pb : ∀ x b c, (Go.part 4 #[.string x, .bool b, .bool c] 1).run Tryz.prog w = .ok (.bool b) w := fun x b c => by simp [Go.part, isAgg, run_underlying hb]
  have pc : ∀ x b c, (Go.part 4 #[.string x, .bool b, .bool c] 2).run Tryz.prog w = .ok (.bool c) w := fun x b c => by simp [Go.part, isAgg, run_underlying hb]
  have es : (Op.equalIn (d + 2) 9 (.string x) (.string y)).run Tryz.prog w = .ok (x.toList == y.toList) w := run_equalIn_string w (d + 1) _ _ _ hs
  refine eqFields3 a1 b1 c1 (by rw [a2, a3]; exact pa x b c) (by rw [a2, a3]; exact pa y b' c') (by rw [a2]; exact es) (by rw [b2, b3]; exact pb x b c) (by rw [b2, b3]; exact pb y b' c') (by rw [b2]; exact run_equalIn_bool w (d + 1) 4 _ _ hb) (by rw [c2, c3]; exact pc x b c) (by rw [c2, c3]; exact pc y b' c') (by rw [c2]; exact run_equalIn_bool w (d + 1) 4 _ _ hb)
theorem run_eqRes (x y : ByteArray) (b c b' c' : Bool) (w : World) :
    (Op.equalIn 10000 34 (.agg #[.string x, .bool b, .bool c]) (.agg #[.string y, .bool b', .bool c'])).run Tryz.prog w = .ok ((x.toList == y.toList) && ((b == b') && (c == c'))) w := run_eqResD 9997 x y b c b' c' w
theorem guardRes : Tryz.prog.eqGuardType Tryz.prog.depth 34 = false := by kernel_rfl
theorem toList_inj {a b : ByteArray} (h : a.toList = b.toList) : a = b := by
  rw [ByteArray.toList_eq, ByteArray.toList_eq] at h
  obtain ⟨⟨l⟩⟩ := a
  obtain ⟨⟨m⟩⟩ := b
  simp at h
  subst h; rfl
/-- All that the law asks of two programs. -/
theorem same_facts (s t : ByteArray) (h : PV s ∧ PV t) : ∃ (R1 R2 : Bool) (txt xa xb : ByteArray) (la ka lb kb : Bool) (x y z : Int),
    (∀ w, Calls Tryz.prog 8 #[.string s, .string t] w fun e w' => e = .returned (.bool (R1 && R2)) ∧ Below w.heap.size w w') ∧
    (∀ w, Calls Tryz.prog 10 #[.string s, .string t] w fun e w' => e = .returned (.bool (R1 && R2)) ∧ Below w.heap.size w w') ∧
    (∀ w, Calls Tryz.prog 8 #[.string t, .string s] w fun e w' => e = .returned (.bool (R1 && R2)) ∧ Below w.heap.size w w') ∧
    (∀ w, Calls Tryz.prog 11 #[.string s] w fun e w' => e = .returned (.bool true) ∧ Below w.heap.size w w') ∧
    (∀ w, Calls Tryz.prog 11 #[.string t] w fun e w' => e = .returned (.bool true) ∧ Below w.heap.size w w') ∧
    (∀ w, Calls Tryz.prog 13 #[.string s, .string t] w fun e w' => e = .returned (.bool R1) ∧ Below w.heap.size w w') ∧
    (∀ w, Calls Tryz.prog 13 #[.string t, .string s] w fun e w' => e = .returned (.bool R2) ∧ Below w.heap.size w w') ∧
    (∀ w, Calls Tryz.prog 15 #[.string s, .string t] w fun e w' => e = .returned (.tuple #[.agg #[.int .i64 x, .int .i64 y, .int .i64 z], .string txt]) ∧ Below w.heap.size w w') ∧
    (∀ w, Calls Tryz.prog 16 #[.string s, .agg #[.int .i64 x, .int .i64 y, .int .i64 z]] w fun e w' => e = .returned (.tuple #[.agg #[.string xa, .bool la, .bool ka], .bool true]) ∧ Below w.heap.size w w') ∧
    (∀ w, Calls Tryz.prog 16 #[.string t, .agg #[.int .i64 x, .int .i64 y, .int .i64 z]] w fun e w' => e = .returned (.tuple #[.agg #[.string xb, .bool lb, .bool kb], .bool true]) ∧ Below w.heap.size w w') ∧
    (R1 && R2) = decide (txt = tNone) ∧ ((R1 && R2) = false → ((xa.toList == xb.toList) && ((la == lb) && (ka == kb))) = false) := by
  obtain ⟨⟨⟨p, hp, hs⟩, hlp⟩, ⟨q, hq, ht⟩, hlq⟩ := h
  have hs' := bs_ofP hs
  have ht' := bs_ofP ht
  obtain ⟨hi, hst⟩ := ax_back _ (fdK_lt (oc p) (oc q))
  have lp : p.ser.length ≤ 200 := by rw [hs', bs_size] at hlp; exact hlp
  have lq : q.ser.length ≤ 200 := by rw [ht', bs_size] at hlq; exact hlq
  refine ⟨allO reO (oc p) (oc q), allO reO (oc q) (oc p), _, _, _, _, _, _, _, _, _, _, ?_, ?_, ?_, (fun w => implPV_yes s w hp hs hlp), (fun w => implPV_yes t w hq ht hlq), (fun w => implRef_yes s t w hp hs hlp hq ht hlq), (fun w => implRef_yes t s w hq ht hlq hp hs hlp), (fun w => implFd_yes s t w hp hs hlp hq ht hlq), (fun w => implRf_yes s _ _ _ _ w hp hs hlp hst hi), (fun w => implRf_yes t _ _ _ _ w hq ht hlq hst hi), ?_, ?_⟩
  · intro w; rw [← same_ref hp hq]; exact implSame_yes s t w hp hs hlp hq ht hlq
  · intro w; rw [← same_ref hp hq, ← same_pureF, hs', ht']; exact specSame_yes p q w hp lp hq lq
  · intro w; rw [← same_ref hp hq, allO_symm]; exact implSame_yes t s w hq ht hlq hp hs hlp
  · rw [← same_ref hp hq]; exact fd_none _ _
  · intro hr
    rw [← same_ref hp hq] at hr
    cases he : ((bs (tb (rT p (fdK (oc p) (oc q))))).toList == (bs (tb (rT q (fdK (oc p) (oc q))))).toList && ((rL p (fdK (oc p) (oc q)) == rL q (fdK (oc p) (oc q))) && (rK p (fdK (oc p) (oc q)) == rK q (fdK (oc p) (oc q))))) with
    | false => rfl
    | true =>
      exfalso
      simp only [Bool.and_eq_true, beq_iff_eq] at he
      have := eqRV_same (p := p) (q := q) ⟨toList_inj he.1, he.2.1, he.2.2⟩
      rw [this] at hr
      cases hr
end Go.Proofs.YtopbkkmplgllkaaGreatDoor

namespace Go.Proofs.YtopbkkmplgllkaaGreatDoor
open Go.ChangeShapes Go.WideShapes Go.ChangeAt Go.RowKit Go.Joins
open Go.WideMaps Go.WideElems Tm
open Go.ChangeMaps (open_string shut_string)


set_option maxRecDepth 100000 in
set_option maxHeartbeats 16000000 in
theorem walkSamePrograms {a0 : Option Addr} {len0 cap0 : Nat} {z0 : List Int} (w : World) (h0 : IsRow w a0 len0 cap0 z0) :
    Calls Tryz.prog 5 #[.slice a0 len0 cap0] w fun e w' => e = .returned (.bool true) ∧ Below w.heap.size w w' := by
  have DD := Lib.hid (drawSame h0)
  clear h0
  by_cases hl : (1048576 : Int) < len0
  · go_enter Tryz.func5, Tryz.ntmps5
    go_wp2_with fail
    go_ret
    exact ⟨rfl, Below.refl _ _⟩
  · go_enter Tryz.func5, Tryz.ntmps5
    go_wp2_with fail
    refine DD.out.mono ?_
    rintro e w1 ⟨s, t, _, _, rfl, hb⟩
    have HB := Lib.hid hb
    clear hb DD
    by_cases h : PV s ∧ PV t
    · obtain ⟨R1, R2, txt, xa, xb, la, ka, lb, kb, x, y, z, c1, c2, c3, v1, v2, r1, r2, f, u1, u2, ht, hd⟩ := same_facts s t h
      have C1 := fun w => Lib.hid (c1 w)
      have C2 := fun w => Lib.hid (c2 w)
      have C3 := fun w => Lib.hid (c3 w)
      have V1 := fun w => Lib.hid (v1 w)
      have V2 := fun w => Lib.hid (v2 w)
      have Q1 := fun w => Lib.hid (r1 w)
      have Q2 := fun w => Lib.hid (r2 w)
      have FD := fun w => Lib.hid (f w)
      have U1 := fun w => Lib.hid (u1 w)
      have U2 := fun w => Lib.hid (u2 w)
      have HR := guardRes
      have HE := run_eqRes xa xb la ka lb kb
      have HD := Lib.hid hd
      have HT := Lib.hid ht
      clear c1 c2 c3 v1 v2 r1 r2 f u1 u2 hd ht h
      go_wp2_with fail
      refine (C1 _).out.mono ?_
      rintro e w2 ⟨rfl, hb⟩
      replace HB := Lib.hid (bnext HB.out hb)
      clear hb
      go_wp2_with fail
      refine (C2 _).out.mono ?_
      rintro e w3 ⟨rfl, hb⟩
      replace HB := Lib.hid (bnext HB.out hb)
      clear hb
      go_wp2_with fail
      refine (V1 _).out.mono ?_
      rintro e w4 ⟨rfl, hb⟩
      replace HB := Lib.hid (bnext HB.out hb)
      clear hb
      go_wp2_with fail
      refine (V2 _).out.mono ?_
      rintro e w5 ⟨rfl, hb⟩
      replace HB := Lib.hid (bnext HB.out hb)
      clear hb
      go_wp2_with fail
      refine (FD _).out.mono ?_
      rintro e w6 ⟨rfl, hb⟩
      replace HB := Lib.hid (bnext HB.out hb)
      have S6 := Lib.hid (Blk.new w6 #[.int .i64 x, .int .i64 y, .int .i64 z] 30)
      have bx := (Below.refl w6.heap.size w6).alloc (Nat.le_refl _) (.cells #[.int .i64 x, .int .i64 y, .int .i64 z] 30)
      replace HB := Lib.hid (bnext HB.out bx)
      clear hb bx
      go_wp2_with fail
      generalize w6.alloc (.cells #[.int .i64 x, .int .i64 y, .int .i64 z] 30) = w6a at *
      refine (U1 _).out.mono ?_
      rintro e w7 ⟨rfl, hb⟩
      replace HB := Lib.hid (bnext HB.out hb)
      replace S6 := Lib.hid (S6.out.kept hb)
      have A7 := Lib.hid (Blk.new w7 #[.string xa, .bool la, .bool ka] 34)
      have bx := (Below.refl w7.heap.size w7).alloc (Nat.le_refl _) (.cells #[.string xa, .bool la, .bool ka] 34)
      replace HB := Lib.hid (bnext HB.out bx)
      replace S6 := Lib.hid (S6.out.kept bx)
      obtain ⟨q0, q1, q2⟩ := S6.out.c3
      clear hb bx
      go_wp2_with fail
      generalize w7.alloc (.cells #[.string xa, .bool la, .bool ka] 34) = w7a at *
      clear q0 q1 q2
      refine (U2 _).out.mono ?_
      rintro e w8 ⟨rfl, hb⟩
      replace HB := Lib.hid (bnext HB.out hb)
      replace A7 := Lib.hid (A7.out.kept hb)
      have B8 := Lib.hid (Blk.new w8 #[.string xb, .bool lb, .bool kb] 34)
      have bx := (Below.refl w8.heap.size w8).alloc (Nat.le_refl _) (.cells #[.string xb, .bool lb, .bool kb] 34)
      replace HB := Lib.hid (bnext HB.out bx)
      replace A7 := Lib.hid (A7.out.kept bx)
      clear hb bx S6
      go_wp2_with fail
      generalize w8.alloc (.cells #[.string xb, .bool lb, .bool kb] 34) = w8a at *
      refine (Q1 _).out.mono ?_
      rintro e w9 ⟨rfl, hb⟩
      replace HB := Lib.hid (bnext HB.out hb)
      replace A7 := Lib.hid (A7.out.kept hb)
      replace B8 := Lib.hid (B8.out.kept hb)
      clear hb
      cases R1 with
      | false =>
        have hdf := HD.out rfl
        have hnt : ¬ txt = tNone := of_decide_eq_false HT.out.symm
        have hne : ¬ txt = ⟨#[110, 111, 110, 101]⟩ := hnt
        have hne2 : ¬ txt.toList = [110, 111, 110, 101] := fun k => hnt (toList_inj (by rw [k, ByteArray.toList_eq]; rfl))
        have hne3 : (txt.toList == [110, 111, 110, 101]) = false := beq_false_of_ne hne2
        clear hnt
        rw [hdf] at HE
        obtain ⟨g0, g1, g2⟩ := A7.out.c3
        obtain ⟨k0, k1, k2⟩ := B8.out.c3
        clear hdf
        go_wp2_with fail
        refine (C3 _).out.mono ?_
        rintro e w11 ⟨rfl, hb⟩
        replace HB := Lib.hid (bnext HB.out hb)
        clear hb
        go_wp2_with fail
        go_ret
        exact ⟨rfl, HB.out⟩
      | true =>
        go_wp2_with fail
        refine (Q2 _).out.mono ?_
        rintro e w10 ⟨rfl, hb⟩
        replace HB := Lib.hid (bnext HB.out hb)
        replace A7 := Lib.hid (A7.out.kept hb)
        replace B8 := Lib.hid (B8.out.kept hb)
        clear hb
        cases R2 with
        | false =>
          have hdf := HD.out rfl
          have hnt : ¬ txt = tNone := of_decide_eq_false HT.out.symm
          have hne : ¬ txt = ⟨#[110, 111, 110, 101]⟩ := hnt
          have hne2 : ¬ txt.toList = [110, 111, 110, 101] := fun k => hnt (toList_inj (by rw [k, ByteArray.toList_eq]; rfl))
          have hne3 : (txt.toList == [110, 111, 110, 101]) = false := beq_false_of_ne hne2
          clear hnt
          rw [hdf] at HE
          obtain ⟨g0, g1, g2⟩ := A7.out.c3
          obtain ⟨k0, k1, k2⟩ := B8.out.c3
          clear hdf
          go_wp2_with fail
          refine (C3 _).out.mono ?_
          rintro e w11 ⟨rfl, hb⟩
          replace HB := Lib.hid (bnext HB.out hb)
          clear hb
          go_wp2_with fail
          go_ret
          exact ⟨rfl, HB.out⟩
        | true =>
          have hnt : txt = tNone := of_decide_eq_true HT.out.symm
          obtain rfl : txt = ⟨#[110, 111, 110, 101]⟩ := hnt
          go_wp2_with fail
          refine (C3 _).out.mono ?_
          rintro e w11 ⟨rfl, hb⟩
          replace HB := Lib.hid (bnext HB.out hb)
          clear hb
          go_wp2_with fail
          go_ret
          exact ⟨rfl, HB.out⟩
    · have C1 := fun w => Lib.hid (implSame_no s t w h)
      have C2 := fun w => Lib.hid (specSame_no s t w h)
      by_cases hs : PV s
      · have ht : ¬ PV t := fun k => h ⟨hs, k⟩
        obtain ⟨⟨p, hp, he⟩, hlp⟩ := hs
        have V1 := fun w => Lib.hid (implPV_yes s w hp he hlp)
        have V2 := fun w => Lib.hid (implPV_no t w ht)
        clear h ht hp he hlp
        go_wp2_with fail
        refine (C1 _).out.mono ?_
        rintro e w2 ⟨rfl, hb⟩
        replace HB := Lib.hid (bnext HB.out hb)
        clear hb
        go_wp2_with fail
        refine (C2 _).out.mono ?_
        rintro e w3 ⟨rfl, hb⟩
        replace HB := Lib.hid (bnext HB.out hb)
        clear hb
        go_wp2_with fail
        refine (V1 _).out.mono ?_
        rintro e w4 ⟨rfl, hb⟩
        replace HB := Lib.hid (bnext HB.out hb)
        clear hb
        go_wp2_with fail
        refine (V2 _).out.mono ?_
        rintro e w5 ⟨rfl, hb⟩
        replace HB := Lib.hid (bnext HB.out hb)
        clear hb
        go_wp2_with fail
        refine (C2 _).out.mono ?_
        rintro e w6 ⟨rfl, hb⟩
        replace HB := Lib.hid (bnext HB.out hb)
        clear hb
        go_wp2_with fail
        refine (V1 _).out.mono ?_
        rintro e w7 ⟨rfl, hb⟩
        replace HB := Lib.hid (bnext HB.out hb)
        clear hb
        go_wp2_with fail
        refine (V2 _).out.mono ?_
        rintro e w8 ⟨rfl, hb⟩
        replace HB := Lib.hid (bnext HB.out hb)
        clear hb
        go_wp2_with fail
        go_ret
        exact ⟨rfl, HB.out⟩
      · have V1 := fun w => Lib.hid (implPV_no s w hs)
        clear h hs
        go_wp2_with fail
        refine (C1 _).out.mono ?_
        rintro e w2 ⟨rfl, hb⟩
        replace HB := Lib.hid (bnext HB.out hb)
        clear hb
        go_wp2_with fail
        refine (C2 _).out.mono ?_
        rintro e w3 ⟨rfl, hb⟩
        replace HB := Lib.hid (bnext HB.out hb)
        clear hb
        go_wp2_with fail
        refine (V1 _).out.mono ?_
        rintro e w4 ⟨rfl, hb⟩
        replace HB := Lib.hid (bnext HB.out hb)
        clear hb
        go_wp2_with fail
        refine (C2 _).out.mono ?_
        rintro e w6 ⟨rfl, hb⟩
        replace HB := Lib.hid (bnext HB.out hb)
        clear hb
        go_wp2_with fail
        refine (V1 _).out.mono ?_
        rintro e w7 ⟨rfl, hb⟩
        replace HB := Lib.hid (bnext HB.out hb)
        clear hb
        go_wp2_with fail
        go_ret
        exact ⟨rfl, HB.out⟩


theorem Tryz.own : ownKnob Tryz.prog.godebug = none := by kernel_rfl
theorem laidOut : laidOutB Tryz.prog = true := by kernel_rfl

set_option linter.unusedVariables false in
set_option maxRecDepth 100000 in
set_option maxHeartbeats 2000000 in
theorem lifted (os : Os) (started : os.Started) (H : Type) (enc : TypeId × Value → H) :
    ReturnsInHanded {} Tryz.checked os 5 .any (fun w args => (Rows.fnSameProgramsSpec.pre enc Tryz.prog Tryz.f5 Rows.fnSameProgramsRow.domain false w args ∧ laidMetH Tryz.prog Rows.fnSameProgramsRow.laid w) ∧ sizedMet enc Tryz.prog Tryz.f5 (OpenSpec.ofChange Rows.fnSameProgramsSpec) false w args)
      (Rows.fnSameProgramsSpec.post enc Tryz.prog Tryz.f5 false true false false) := by
  refine returnsInHanded_of_change_and (C := Tryz.checked) (X := fun w _ => laidMetH Tryz.prog Rows.fnSameProgramsRow.laid w) (fun _ _ _ hh h => h.of_heap hh) Tryz.own started (by kernel_rfl) Tryz.func5
    (ChangeSpec.witness_shaped (enc := enc) (C := Tryz.checked) (os := os) (X := fun w _ => laidMetH Tryz.prog Rows.fnSameProgramsRow.laid w) false (World.laidAll Tryz.prog os Rows.fnSameProgramsRow.laid) #[.slice none 0 0] 8 (World.laidAll_os _ _ _)
      (World.shaped_of_ZipB (by kernel_rfl) (by kernel_rfl)) (by kernel_rfl) (by kernel_rfl) (by kernel_rfl)
      (by rw [MakeChecks.laidMetH_plain _ _ _ (by kernel_rfl)]; exact laidMet_laidAll _ (by kernel_rfl) (by kernel_rfl))) ?_
  intro W base args ds gs before hval0 hW _ _ hL _
  have hval : ∀ (j : Nat) t v, Tryz.f5.params[j]? = some t → args[j]? = some v → Value.okWide Tryz.prog W .any base t v := hval0
  have hW' := hW
  obtain ⟨p, q, hA0, hV, rfl, _, _⟩ := hW
  have hA : DataW.TrodAll enc Tryz.prog W 0 (fun _ => true) true Tryz.f5.params.toList args.toList ds p := hA0
  rw [Tryz.params5] at hA hval
  obtain ⟨v0, vs0, d0, ds0, p0, q0, hargs, rfl, rfl, h0, r0⟩ := trodAll_cons hA
  obtain ⟨rfl, rfl, rfl⟩ := trodAll_nil r0
  obtain rfl : args = #[v0] := by cases args; simp_all
  obtain ⟨rfl, rfl⟩ := trodVars_none hV
  obtain ⟨a0, len0, cap0, rfl⟩ := okWide_slice Tryz.underlying22 (hval 0 22 v0 rfl rfl)
  have k0 := h0
  have lt0 : ∀ x ∈ p0, x.block < W.heap.size := by obtain ⟨m, hm⟩ := k0; exact DataW.trod_lt m _ _ _ hm
  obtain ⟨z0, w0⟩ : ∃ zs, IsRow W a0 len0 cap0 zs := by
    obtain ⟨fuel, hf⟩ := h0
    rcases open_ints Tryz.underlying22 Tryz.underlying5 (by kernel_rfl) hf with ⟨hcs, _⟩ | ⟨x, l, c, zs, hcs, _, hl, hm, hz, _, hcell, hwz⟩
    · simp [Value.cells] at hcs
      obtain ⟨rfl, rfl, rfl⟩ := hcs
      exact ⟨[], .inl ⟨rfl, rfl, rfl, rfl⟩⟩
    · simp [Value.cells] at hcs
      obtain ⟨rfl, rfl, rfl⟩ := hcs
      exact ⟨zs, .inr ⟨_, rfl, hl, hm, by simpa using hz, hcell, hwz⟩⟩
  clear hA0 hval0
  refine (walkSamePrograms W w0).mono fun e W' ⟨he, bel⟩ => ?_
  subst he
  exact ⟨_, rfl, _, _, _, [], _, [], hW', trodAll_mk1 (shut_bool Tryz.underlying4 _), (trodAll_cons_mk (Below.trod laidOut (by kernel_rfl) (of_decide_eq_true (by kernel_rfl)) k0 bel lt0) trodAll_mk0), rfl, bel.frame _, fun h => by cases h⟩

-- each of the three walks over the program by itself: together they are too much for the kernel's memory
theorem jf1 : (Rows.fnSameProgramsRow.inPlace == Tryz.prog.inPlace 5) = true := by kernel_rfl
theorem jf2 : (Rows.fnSameProgramsRow.unfollowed == Tryz.prog.unfollowed 5) = true := by kernel_rfl
theorem jf3 : (Rows.fnSameProgramsRow.recurses == Tryz.prog.recurses 5) = true := by kernel_rfl
theorem jf4 : (Rows.fnSameProgramsRow.named == Tryz.prog.varsNamed 5) = true := by kernel_rfl
theorem jf5 : laidOutB Tryz.prog = true := by kernel_rfl
theorem jf6 : mapsRowed Tryz.prog = true := by kernel_rfl
theorem jf7 : Tryz.prog.stopsHeard = true := by kernel_rfl
theorem jg : false = (Rows.fnSameProgramsRow).goesBy Tryz.pinned.checked.prog := by kernel_rfl
theorem closed : joinedFacts Tryz.prog 5 Tryz.f5 Rows.fnSameProgramsSpec Rows.fnSameProgramsRow = true := by
  unfold joinedFacts
  rw [jf1, jf2, jf3, jf4, jf5, jf6, jf7]
  kernel_rfl

theorem said : Rows.FnSameProgramsSaid :=
  OpenClaim.holds_of_wide 5 Tryz.f5 rfl rfl rfl rfl rfl rfl rfl ⟨rfl, rfl, rfl, rfl, rfl⟩ rfl rfl rfl rfl rfl (by kernel_rfl) Tryz.func5 closed
    (of_decide_eq_true (by kernel_rfl)) (by unfold Func.isWrapper; first | (rw [if_pos (by decide +kernel)]; kernel_rfl) | (rw [if_neg (by decide +kernel)]; exact ⟨rfl, rfl⟩))
    (fun os started H enc _ => by rw [OpenClaim.pre_eq_preRow]; exact lifted os started H enc)

theorem plain (f : FuncId) (fn : Func) (hf : Tryz.pinned.checked.prog.funcNamed Rows.fnSameProgramsRow.func = some f) (hfn : Tryz.pinned.checked.prog.funcs[f]? = some fn) :
    true = Tryz.pinned.checked.prog.looks [] ∧ ∀ (j : Nat) t, fn.params[j]? = some t → Tryz.pinned.checked.prog.wantsStandIn t = false := by
  obtain rfl : f = 5 := Option.some.inj ((show Tryz.prog.funcNamed Rows.fnSameProgramsRow.func = some 5 by kernel_rfl).symm.trans hf) |>.symm
  obtain rfl : fn = Tryz.f5 := (Option.some.inj (Tryz.func5.symm.trans hfn)).symm
  refine ⟨by kernel_rfl, fun j t ht => ?_⟩
  rw [Tryz.params5] at ht
  obtain rfl : t = 22 := by
    have := Array.mem_of_getElem? ht
    simpa using this
  exact (show Tryz.prog.wantsStandIn 22 = false by kernel_rfl)

theorem samePrograms_card : Rows.FnSameProgramsCardSaid :=
  Claim7.holds_tied_plain_at .later [] _ _ _ _ said (fun _ h => by cases h) (by kernel_rfl) (fun _ h => by cases h) fnSamePrograms_row_tie rfl ⟨rfl, rfl⟩ (by kernel_rfl) rfl plain jg

#print axioms samePrograms_card
end Go.Proofs.YtopbkkmplgllkaaGreatDoor
