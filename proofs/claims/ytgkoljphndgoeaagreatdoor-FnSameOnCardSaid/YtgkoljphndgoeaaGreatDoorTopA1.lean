import Derived.Test.YtgkoljphndgoeaaGreatDoorTopB
import Derived.Test.YtgkoljphndgoeaaGreatDoorTopU
import Derived.Test.YtgkoljphndgoeaaGreatDoorTopR1
import Derived.Test.YtgkoljphndgoeaaGreatDoorTopQ1
import Derived.Test.YtgkoljphndgoeaaGreatDoorTopF1
import Derived.Test.YtgkoljphndgoeaaGreatDoorShelf
import Derived.Test.YtgkoljphndgoeaaGreatDoorTopY
import Derived.Lib.OthersKept
import Derived.Test.YtgkoljphndgoeaaGreatDoorTopG
import Derived.Test.YtgkoljphndgoeaaGreatDoorTopP2
namespace Go.Proofs.YtgkoljphndgoeaaGreatDoor
open Go.RowKit Tm
def vlist (names l : List UInt8) : List UInt8 := names.filter fun c => decide (0 ≤ fnd l c)
set_option maxHeartbeats 2000000 in
theorem specVars (wide : Bool) (s : ByteArray) (w : World) (hs : s.size ≤ maxLen) : Calls Tryz.prog 191 #[.string s, .bool wide] w fun e w' => e = .returned (.string (bs (vlist (nm wide).data.toList s.data.toList))) ∧ w' = w := by
 have hnm6 : (nm wide).size ≤ 6 := by cases wide <;> decide
 go_enter Tryz.func191, Tryz.ntmps191
 go_wp2_with fail
 refine (names_any wide _).mono ?_
 rintro e w' ⟨rfl, rfl⟩
 go_wp2_with fail
 go_loop [5, 7] (fun out i => ∃ (k : Nat) (o : ByteArray), k ≤ (nm wide).size ∧ i = .int .i64 k ∧ out = .string o ∧ o.size ≤ k ∧ Hid (o = bs (vlist ((nm wide).data.toList.take k) s.data.toList))) (fun _ i => (nm wide).size - (intOf i).toNat)
 case atStart => exact ⟨0, bs [], Nat.zero_le _, rfl, rfl, by simp [bs, ByteArray.size], rfl⟩
 case round =>
  obtain ⟨k, o, hk, rfl, rfl, ho, HO⟩ := hrel
  by_cases hlt : k < (nm wide).size
  ·have htake : (nm wide).data.toList.take (k + 1) = (nm wide).data.toList.take k ++ [(nm wide)[k]] := by
    rw [List.take_succ_eq_append_getElem (by simpa using hlt)]; rfl
   have hv : vlist ((nm wide).data.toList.take (k + 1)) s.data.toList = vlist ((nm wide).data.toList.take k) s.data.toList ++ (if 0 ≤ fnd s.data.toList (nm wide)[k] then [(nm wide)[k]] else []) := by
    rw [htake]; unfold vlist; rw [List.filter_append]; congr 1
    by_cases h : 0 ≤ fnd s.data.toList (nm wide)[k] <;> simp [h]
   have X := Lib.hid (extract_one (nm wide) k hlt)
   by_cases h : 0 ≤ fnd s.data.toList (nm wide)[k]
   ·obtain ⟨n, hn⟩ := fnd_yes h
    have hn0 : (0 : Int) ≤ (n : Int) := by omega
    have K := fun w => Lib.hid (find_at hn w hs)
    rw [if_pos h] at hv
    have HV := Lib.hid hv
    clear h hn hv htake
    go_wp2_with fail
    refine (K _).out.mono ?_
    rintro e w' ⟨rfl, rfl⟩
    go_wp2_with fail
    go_round
    case rel => exact ⟨k + 1, o ++ (nm wide).extract k (k + 1), by omega, by go_num, rfl, by rw [X.out, ByteArray.size_append, bs_size]; simp; omega, by show _ = _; rw [X.out, HV.out, HO.out, bs_append]⟩
    case measure => simp [intOf]; omega
   ·have K := fun w => Lib.hid (find_at (fnd_no h) w hs)
    rw [if_neg h, List.append_nil] at hv
    have HV := Lib.hid hv
    clear h hv htake
    go_wp2_with fail
    refine (K _).out.mono ?_
    rintro e w' ⟨rfl, rfl⟩
    go_wp2_with fail
    go_round
    case rel => exact ⟨k + 1, o, by omega, by go_num, rfl, by omega, by show _ = _; rw [HV.out, HO.out]⟩
    case measure => simp [intOf]; omega
  ·have hfin : Hid (o = bs (vlist (nm wide).data.toList s.data.toList)) := by
    show _ = _
    rw [HO.out, List.take_of_length_le (by simp; omega)]
   go_wp2_with fail
   go_ret
   exact ⟨by rw [← hfin.out]; rfl, rfl⟩
end Go.Proofs.YtgkoljphndgoeaaGreatDoor
namespace Go.Proofs.YtgkoljphndgoeaaGreatDoor
open Go.RowKit Go.Great Tm
def someF (c : UInt8) (F : Nat → Bool) : Nat → Bool := fun i => (F (setN c 0 i) || F (setN c 1 i)) || F (setN c 2 i)
def dgc (n : Nat) : UInt8 := if n = 0 then 48 else if n = 1 then 49 else 50
theorem orb27 (F G : Nat → Bool) : bits .or .u32 (nb 27 F : Nat) (nb 27 G : Nat) = (nb 27 (fun i => F i || G i) : Nat) := by
 have h := nb_lt27 F; have h' := nb_lt27 G
 rw [u32_or_nat _ _ (by omega) (by omega), nb_or2]
theorem orb0 (G : Nat → Bool) : bits .or .u32 0 (nb 27 G : Nat) = (nb 27 G : Nat) := by
 have h' := nb_lt27 G
 rw [show (0 : Int) = ((0 : Nat) : Int) from rfl, u32_or_nat _ _ (by omega) (by omega), Nat.zero_or]
set_option maxHeartbeats 1000000 in
theorem qDigit (n : Nat) (w : World) (h : n < 3) : Calls Tryz.prog 197 #[.int .i64 n] w fun e w' => e = .returned (.string ⟨#[dgc n]⟩) ∧ w = w' := by
 have hc : n = 0 ∨ n = 1 ∨ n = 2 := by omega
 clear h
 rcases hc with rfl | rfl | rfl
 all_goals
  go_enter Tryz.func197, Tryz.ntmps197
  go_wp2_with fail
  go_ret
  exact ⟨rfl, rfl⟩
theorem at_hasA (n : Nat) (w : World) : (method 449 66 (.int .u32 n) "loop.example/productprograms/impl.has").run Tryz.prog w = .ok (171, .int .u32 n) w := by kernel_rfl
theorem at_withA (n : Nat) (w : World) : (method 449 66 (.int .u32 n) "loop.example/productprograms/impl.with").run Tryz.prog w = .ok (141, .int .u32 n) w := by kernel_rfl
theorem indexByte_fnd (l : List UInt8) (c : UInt8) : decide (0 ≤ Lib.indexByte l c) = decide (0 ≤ fnd l c) := by
 have h : 0 ≤ Lib.indexByte l c ↔ 0 ≤ fnd l c := by
  induction l with
  | nil => simp [Lib.indexByte, fnd]
  | cons b l ih =>
   rw [fnd_cons, ← ih]
   have hge := Lib.indexByte_ge l c
   show 0 ≤ (if b == c then 0 else if Lib.indexByte l c == -1 then -1 else Lib.indexByte l c + 1) ↔ _
   rw [show (c == b) = (b == c) by rw [Bool.eq_iff_iff, beq_iff_eq, beq_iff_eq]; exact eq_comm]
   cases hb : b == c
   ·simp
    by_cases h1 : Lib.indexByte l c = -1
    ·simp [h1]
    ·simp [h1]; omega
   ·simp
 by_cases h1 : 0 ≤ fnd l c
 ·rw [decide_eq_true h1, decide_eq_true (h.2 h1)]
 ·rw [decide_eq_false h1, decide_eq_false (fun h2 => h1 (h.1 h2))]
theorem contains_at (s : ByteArray) (c : UInt8) (hc : c.toNat < 128) (b : Bool) (h : decide (0 ≤ fnd s.data.toList c) = b) (w : World) :
  Calls Tryz.prog 142 #[.string s, .int .i32 c.toNat] w fun e w' => e = .returned (.bool b) ∧ w' = w := by
 refine (Tryz.strings_ContainsRune_ascii s c.toNat w (by omega) (by omega)).mono fun e w' ⟨h1, h2⟩ => ⟨?_, h2⟩
 rw [h1, Int.toNat_natCast]
 have e1 : c.toNat.toUInt8 = c := UInt8.toNat_inj.1 (by simp)
 rw [e1, indexByte_fnd, h]
set_option maxHeartbeats 2000000 in
theorem implPreA (F : Nat → Bool) (recv : Value) (st : Nat → Nat) (w : World) (hst : ∀ i, i < 27 → st i < 27)
  (S : ∀ w', Below w.heap.size w w' → ∀ i, i < 27 → Calls Tryz.prog 199 #[recv, .int .i64 (i : Nat)] w' fun e w2 => e = .returned (.int .i64 (st i : Nat)) ∧ Below w'.heap.size w' w2) :
  Calls Tryz.prog 198 #[.int .u32 (nb 27 F), .int .i64 27, .func (.func 199) #[recv] #[]] w fun e w' => e = .returned (.int .u32 (nb 27 (fun i => F (st i)))) ∧ Below w.heap.size w w' := by
 have HS := Lib.hid S
 have HT := Lib.hid hst
 clear S hst
 go_enter Tryz.func198, Tryz.ntmps198
 go_wp2_with fail
 go_loopw [7, 10] (fun v i wr => ∃ k : Nat, k ≤ 27 ∧ i = .int .i64 k ∧ v = .int .u32 (nb 27 (lowF (fun i => F (st i)) k)) ∧ Below w.heap.size w wr) (fun _ i _ => 27 - (intOf i).toNat)
 case atStart => exact ⟨0, by omega, rfl, by rw [lowF_zero]; rfl, Below.refl _ _⟩
 case round =>
  obtain ⟨k, hk, rfl, rfl, hb⟩ := hrel
  have HB := Lib.hid hb
  clear hb
  by_cases hlt : k < 27
  ·have C := Lib.hid (HS.out wr HB.out k hlt)
   go_wp2_with fail
   refine C.out.mono ?_
   rintro e w1 ⟨rfl, hb⟩
   have HB1 := Lib.hid (bnext HB.out hb)
   clear hb
   have h1 := at_hasA (nb 27 F)
   have h2 := at_withA (nb 27 (lowF (fun i => F (st i)) k))
   have D := fun w => Lib.hid (implHasB F (st k) w (HT.out k hlt))
   have E := fun w => Lib.hid (implWithB (lowF (fun i => F (st i)) k) k w hlt)
   cases hF : F (st k)
   ·rw [hF] at D
    have L := Lib.hid (lowF_nil (F := fun i => F (st i)) (k := k) hF)
    clear hF
    go_wp2_with fail
    refine (D _).out.mono ?_
    rintro e w' ⟨rfl, rfl⟩
    go_wp2_with fail
    exact ⟨⟨k + 1, by omega, by go_num, by rw [L.out], HB1.out⟩, by simp [intOf]; omega⟩
   ·rw [hF] at D
    have L := Lib.hid (lowF_one (F := fun i => F (st i)) (k := k) hF)
    clear hF
    go_wp2_with fail
    refine (D _).out.mono ?_
    rintro e w' ⟨rfl, rfl⟩
    go_wp2_with fail
    refine (E _).out.mono ?_
    rintro e w' ⟨rfl, rfl⟩
    go_wp2_with fail
    exact ⟨⟨k + 1, by omega, by go_num, by rw [L.out], HB1.out⟩, by simp [intOf]; omega⟩
  ·have hk2 : k = 27 := by omega
   subst hk2
   go_wp2_with fail
   go_ret
   exact ⟨by rw [← lowF_all]; rfl, HB.out⟩
theorem ok_dig (n : Nat) (h : n < 3) : Ok true false (.leaf (dgc n)) := by
 have hc : n = 0 ∨ n = 1 ∨ n = 2 := by omega
 rcases hc with rfl | rfl | rfl <;> rfl
theorem wasg_dig (c : UInt8) (hc : c = 120 ∨ c = 121 ∨ c = 122) (n : Nat) (h : n < 3) {i : Nat} (hi : i < 27) : wasg c (.leaf (dgc n)) i = setN c n i := by
 have e1 : i % 27 = i := by omega
 have e2 : i / 27 = 0 := by omega
 have e3 : ¬ (c = 88 ∨ c = 89 ∨ c = 90) := by rcases hc with rfl | rfl | rfl <;> decide
 have ev : val (wenv i) (.leaf (dgc n)) = (n : Int) := by
  have hn : n = 0 ∨ n = 1 ∨ n = 2 := by omega
  rcases hn with rfl | rfl | rfl <;> rfl
 unfold wasg wset
 rw [if_neg e3, e1, e2, ev]
 simp
theorem preDig (c : UInt8) (hc : c = 120 ∨ c = 121 ∨ c = 122) (n : Nat) (h : n < 3) (F : Nat → Bool) (w : World) :
  Calls Tryz.prog 198 #[.int .u32 (nb 27 F), .int .i64 27, .func (.func 199) #[.agg #[.string ⟨#[c]⟩, .int .u8 (dgc n).toNat, .slice none 0 0]] #[]] w
   fun e w' => e = .returned (.int .u32 (nb 27 (fun i => F (setN c n i)))) ∧ Below w.heap.size w w' := by
 have k := implPreA F (.agg #[.string ⟨#[c]⟩, .int .u8 (dgc n).toNat, .slice none 0 0]) (wasg c (.leaf (dgc n))) w
  (fun i hi => by
   rw [wasg_dig c hc n h hi]
   have hv : val3 (n : Int) = true := val3_t (by omega) (by omega)
   exact setN_lt hv hi)
  (fun w' _ i hi => step_any c (by rcases hc with h | h | h <;> simp [h]) i (.leaf (dgc n)) 0 _ none 0 0 w' (by omega) (ok_dig n h) ⟨rfl, none, 0, rfl⟩)
 rw [show nb 27 (fun i => F (wasg c (.leaf (dgc n)) i)) = nb 27 (fun i => F (setN c n i)) from nb_congr fun i hi => by rw [wasg_dig c hc n h hi]] at k
 exact k
set_option maxRecDepth 100000 in
set_option maxHeartbeats 4000000 in
theorem implSomeA (c : UInt8) (hc : c = 120 ∨ c = 121 ∨ c = 122) (F : Nat → Bool) (w : World) :
  Calls Tryz.prog 143 #[.int .u32 (nb 27 F), .string ⟨#[c]⟩] w fun e w' => e = .returned (.int .u32 (nb 27 (someF c F))) ∧ Below w.heap.size w w' := by
 have D0 := fun w => Lib.hid (qDigit 0 w (by omega))
 have D1 := fun w => Lib.hid (qDigit 1 w (by omega))
 have D2 := fun w => Lib.hid (qDigit 2 w (by omega))
 have P0 := fun w => Lib.hid (preDig c hc 0 (by omega) F w)
 have P1 := fun w => Lib.hid (preDig c hc 1 (by omega) F w)
 have P2 := fun w => Lib.hid (preDig c hc 2 (by omega) F w)
 have hmf : ∀ (fn : Fn) (first cap : Array Value) (w : World), (Instr.makeFunc fn first cap).run Tryz.prog w = .ok (.func fn first cap) w := fun _ _ _ _ => rfl
 have O1 := orb0 (fun i => F (setN c 0 i))
 have O2 := orb27 (fun i => F (setN c 0 i)) (fun i => F (setN c 1 i))
 have O3 := orb27 (fun i => F (setN c 0 i) || F (setN c 1 i)) (fun i => F (setN c 2 i))
 have OO := Lib.hid (And.intro O1 (And.intro O2 O3))
 have G0 := Lib.hid (show ((ByteArray.mk #[dgc 0])[0]'(by show 0 < 1; omega)) = dgc 0 from rfl)
 have G1 := Lib.hid (show ((ByteArray.mk #[dgc 1])[0]'(by show 0 < 1; omega)) = dgc 1 from rfl)
 have G2 := Lib.hid (show ((ByteArray.mk #[dgc 2])[0]'(by show 0 < 1; omega)) = dgc 2 from rfl)
 clear hc O1 O2 O3
 go_enter Tryz.func143, Tryz.ntmps143
 go_wp2_with fail
 refine wp_loop_rounds 4 ?_
 rw [rounds_succ]
 go_wp2_with fail
 refine (D0 _).out.mono ?_
 rintro e w' ⟨rfl, rfl⟩
 go_wp2_with fail
 rw [G0.out]
 have HA0 := Lib.hid (bput (Below.refl w.heap.size w) (.cells #[.string ⟨#[c]⟩, .int .u8 (dgc 0).toNat, .slice none 0 0] 112))
 refine (P0 _).out.mono ?_
 rintro e w0 ⟨rfl, hb⟩
 have HB0 := Lib.hid (bnext HA0.out hb)
 clear hb
 go_wp2_with fail
 rw [rounds_succ]
 go_wp2_with fail
 refine (D1 _).out.mono ?_
 rintro e w' ⟨rfl, rfl⟩
 go_wp2_with fail
 rw [G1.out]
 have HA1 := Lib.hid (bput HB0.out (.cells #[.string ⟨#[c]⟩, .int .u8 (dgc 1).toNat, .slice none 0 0] 112))
 refine (P1 _).out.mono ?_
 rintro e w1 ⟨rfl, hb⟩
 have HB1 := Lib.hid (bnext HA1.out hb)
 clear hb
 go_wp2_with fail
 rw [rounds_succ]
 go_wp2_with fail
 refine (D2 _).out.mono ?_
 rintro e w' ⟨rfl, rfl⟩
 go_wp2_with fail
 rw [G2.out]
 have HA2 := Lib.hid (bput HB1.out (.cells #[.string ⟨#[c]⟩, .int .u8 (dgc 2).toNat, .slice none 0 0] 112))
 refine (P2 _).out.mono ?_
 rintro e w2 ⟨rfl, hb⟩
 have HB2 := Lib.hid (bnext HA2.out hb)
 clear hb
 go_wp2_with fail
 rw [rounds_succ]
 go_wp2_with fail
 go_ret
 refine ⟨?_, HB2.out⟩
 refine congrArg (fun z : Int => Ending.returned (.int .u32 z)) ?_
 rw [OO.out.1, OO.out.2.1, OO.out.2.2]
 rfl
def agF (b0 b1 b2 : Bool) : Nat → Nat → Bool := fun i j => ((!b0 || ax (i : Int) == ax (j : Int)) && (!b1 || ay (i : Int) == ay (j : Int))) && (!b2 || az (i : Int) == az (j : Int))
def stR (b : Bool) (c : UInt8) (F : Nat → Bool) : Nat → Bool := if b then F else someF c F
theorem ag_row (b0 b1 b2 : Bool) : ∀ i, i < 27 → ∀ j, j < 27 → stR b2 122 (stR b1 121 (stR b0 120 (idR i))) j = agF b0 b1 b2 i j := by
 cases b0 <;> cases b1 <;> cases b2 <;> decide +kernel
theorem id_rowA (k : Nat) : nb 27 (fun j => noR k j || j == k) = nb 27 (idR k) := nb_congr fun j _ => by
 unfold noR idR
 rw [Bool.false_or, Bool.eq_iff_iff, beq_iff_eq, beq_iff_eq]
 exact eq_comm
structure AgS (w V : World) (M : Nat → Nat → Bool) (k : Nat) (F : Nat → Bool) : Prop where
 r1 : Blk V (w.heap.size + 1) (relC .u32 (setR M k F)) 68
 r0 : Blk V w.heap.size (relC .u32 noR) 68
 rb : Below w.heap.size w V
theorem AgS.iterAt {w V : World} {M : Nat → Nat → Bool} {k : Nat} {F : Nat → Bool} (h : AgS w V M k F) {K : Nat} (hK : w.heap.size + 1 < K) (s : ByteArray) (p : Nat) : AgS w (V.iterAt K s p) M k F :=
 ⟨(Lib.iterAt_other V K _ s p (by omega)).trans h.r1, (Lib.iterAt_other V K _ s p (by omega)).trans h.r0, Lib.below_iterAt h.rb (by omega) s p⟩
theorem AgS.kept {w V V' : World} {M : Nat → Nat → Bool} {k : Nat} {F : Nat → Bool} (h : AgS w V M k F) (hb : Below V.heap.size V V') : AgS w V' M k F :=
 ⟨h.r1.kept hb, h.r0.kept hb, bnext h.rb hb⟩
theorem AgS.put {w V : World} {M : Nat → Nat → Bool} {k : Nat} {F : Nat → Bool} (h : AgS w V M k F) (hk : k < 27) (G : Nat → Bool) : AgS w (V.setCell ⟨w.heap.size + 1, k, none⟩ (.int .u32 (nb 27 G))) M k G := by
 have R := h.r1.set k (.int .u32 (nb 27 G))
 rw [relC_set hk] at R
 refine ⟨?_, h.r0.setOther (by show w.heap.size ≠ w.heap.size + 1; omega) _, h.rb.setCell (by show w.heap.size ≤ w.heap.size + 1; omega) _⟩
 rwa [show relC .u32 (setR (setR M k F) k G) = relC .u32 (setR M k G) from relC_congr fun i _ j _ => by unfold setR; split <;> rfl] at R
theorem AgS.cell {w V : World} {M : Nat → Nat → Bool} {k : Nat} {F : Nat → Bool} (h : AgS w V M k F) (hk : k < 27) : V.cell? ⟨w.heap.size + 1, k, none⟩ = some (.int .u32 (nb 27 F)) := by
 refine (h.r1.cell k).trans ((relC_get _ _ hk).trans ?_)
 congr 3
 simp [setR]
theorem ag_end {A : Nat → Nat → Bool} {k : Nat} {F : Nat → Bool} (h : ∀ j, j < 27 → F j = A k j) : relC .u32 (setR (mixR k A noR) k F) = relC .u32 (mixR (k + 1) A noR) := relC_congr fun i _ j hj => by
 unfold setR mixR
 by_cases e : i = k
 ·subst e; rw [if_pos rfl, if_pos (by omega)]; exact h j hj
 ·rw [if_neg e]
  by_cases h1 : i < k
  ·rw [if_pos h1, if_pos (by omega)]
  ·rw [if_neg h1, if_neg (by omega)]
theorem it_set {V : World} {K g i : Nat} {v : Value} {s : ByteArray} {p : Nat} (h : V.heap[K]? = some (.stringIter s p)) (hK : g ≠ K) : (V.setCell ⟨g, i, none⟩ v).heap[K]? = some (.stringIter s p) :=
 (Below.heap_setCell _ _ _ _ (show K ≠ g by omega)).trans h
set_option maxRecDepth 100000 in
set_option maxHeartbeats 8000000 in
theorem agree_ttt (s : ByteArray) (w : World)
  (x0 : ∀ w, Calls Tryz.prog 142 #[.string s, .int .i32 120] w fun e w' => e = .returned (.bool true) ∧ w' = w)
  (x1 : ∀ w, Calls Tryz.prog 142 #[.string s, .int .i32 121] w fun e w' => e = .returned (.bool true) ∧ w' = w)
  (x2 : ∀ w, Calls Tryz.prog 142 #[.string s, .int .i32 122] w fun e w' => e = .returned (.bool true) ∧ w' = w)
  : Calls Tryz.prog 73 #[.string s] w (RelPost (agF true true true) w) := by
 obtain ⟨k0, k1, kb, kz⟩ := two_blk w (relC .u32 noR) (relC .u32 noR) 68 68
 have K0 := Lib.hid k0
 have K1 := Lib.hid k1
 have KB := Lib.hid kb
 have X0 := Lib.hid x0
 have X1 := Lib.hid x1
 have X2 := Lib.hid x2
 have AR := Lib.hid (ag_row true true true)
 generalize hA : agF true true true = A at *
 clear hA
 clear k0 k1 kb kz x0 x1 x2
 go_enter Tryz.func73, Tryz.ntmps73
 go_wp2_with (first
  | (refine r_alloc rfl rfl (some 2) rfl w.heap.size rfl ?_)
  | (refine r_alloc rfl rfl (some 3) rfl (w.heap.size + 1) (by simp) ?_))
 generalize (w.alloc (.cells (relC .u32 noR) 68)).alloc (.cells (relC .u32 noR) 68) = w0 at *
 go_loopw [7] (fun i wr => ∃ k : Nat, k ≤ 27 ∧ i = .int .i64 k ∧ Hid (Blk wr (w.heap.size + 1) (relC .u32 (mixR k A noR)) 68) ∧ Hid (Blk wr w.heap.size (relC .u32 noR) 68) ∧ Hid (Below w.heap.size w wr)) (fun i _ => 27 - (intOf i).toNat)
 case atStart => exact ⟨0, by omega, rfl, by rw [mixR_zero]; exact K1, K0, KB⟩
 case round =>
  clear K0 K1 KB
  obtain ⟨k, hk, rfl, R1, R0, RB⟩ := hrel
  by_cases hlt : k < 27
  ·have c0 := mixR_cell R1.out hlt
   have c1 := R1.out.free k
   have D := fun w => Lib.hid (implWithB (noR k) k w hlt)
   rw [id_rowA] at D
   have RP := R1.out.set k (.int .u32 (nb 27 (idR k)))
   rw [relC_set hlt] at RP
   have AG := Lib.hid (show AgS w (wr.setCell ⟨w.heap.size + 1, k, none⟩ (.int .u32 (nb 27 (idR k)))) (mixR k A noR) k (idR k) from ⟨RP, R0.out.setOther (by show w.heap.size ≠ w.heap.size + 1; omega) _, RB.out.setCell (by show w.heap.size ≤ w.heap.size + 1; omega) _⟩)
   clear RP
   go_wp2_with fail
   refine (D _).out.mono ?_
   rintro e w2 ⟨rfl, rfl⟩
   have hsz := Lib.hid (show w.heap.size + 1 < (wr.setCell ⟨w.heap.size + 1, k, none⟩ (.int .u32 (nb 27 (idR k)))).heap.size from AG.out.r1.lt)
   go_wp2_with fail
   obtain ⟨W, hW⟩ : ∃ W, wr.setCell ⟨w.heap.size + 1, k, none⟩ (.int .u32 (nb 27 (idR k))) = W := ⟨_, rfl⟩
   have hz : wr.heap.size = W.heap.size := by rw [← hW]; simp
   rw [hW] at AG hsz ⊢
   rw [hz]
   clear hW hz c0 c1 D R1 R0 RB
   have HI0 := Lib.hid (World.iter_heap W ⟨#[120, 121, 122]⟩ 0)
   have AG0 := Lib.hid (AG.out.kept ((Below.refl _ W).alloc (Nat.le_refl _) (.stringIter ⟨#[120, 121, 122]⟩ 0)))
   rw [show W.alloc (.stringIter ⟨#[120, 121, 122]⟩ 0) = W.iter ⟨#[120, 121, 122]⟩ 0 from rfl] at AG0
   have HK := hsz
   clear hsz AG
   generalize W.iter ⟨#[120, 121, 122]⟩ 0 = V0 at *
   generalize W.heap.size = K at *
   refine wp_loop_rounds 4 ?_
   have nx : ∀ ty, (Instr.next (.pointer (some ⟨K, 0, none⟩)) true ty).run Tryz.prog V0 = .ok (.tuple #[.bool true, .int .i64 0, .int .i32 120]) (V0.iterAt K ⟨#[120, 121, 122]⟩ 1) := fun ty => Lib.run_next_ascii_at V0 K ⟨#[120, 121, 122]⟩ 0 ty HI0.out (by decide) (by decide)
   rw [rounds_succ]
   go_wp2_with fail
   clear nx
   have HJ := Lib.hid (Lib.iterAt_heap V0 K ⟨#[120, 121, 122]⟩ 0 1 HI0.out)
   have AJ := Lib.hid (AG0.out.iterAt HK.out ⟨#[120, 121, 122]⟩ 1)
   clear HI0 AG0
   generalize V0.iterAt K ⟨#[120, 121, 122]⟩ 1 = U0 at *
   refine (X0.out _).mono ?_
   rintro e V1x ⟨rfl, rfl⟩
   go_wp2_with fail
   have HI1 := HJ
   have AG1 := AJ
   clear HJ AJ
   generalize V1x = V1 at *
   have nx : ∀ ty, (Instr.next (.pointer (some ⟨K, 0, none⟩)) true ty).run Tryz.prog V1 = .ok (.tuple #[.bool true, .int .i64 1, .int .i32 121]) (V1.iterAt K ⟨#[120, 121, 122]⟩ 2) := fun ty => Lib.run_next_ascii_at V1 K ⟨#[120, 121, 122]⟩ 1 ty HI1.out (by decide) (by decide)
   rw [rounds_succ]
   go_wp2_with fail
   clear nx
   have HJ := Lib.hid (Lib.iterAt_heap V1 K ⟨#[120, 121, 122]⟩ 1 2 HI1.out)
   have AJ := Lib.hid (AG1.out.iterAt HK.out ⟨#[120, 121, 122]⟩ 2)
   clear HI1 AG1
   generalize V1.iterAt K ⟨#[120, 121, 122]⟩ 2 = U1 at *
   refine (X1.out _).mono ?_
   rintro e V2x ⟨rfl, rfl⟩
   go_wp2_with fail
   have HI2 := HJ
   have AG2 := AJ
   clear HJ AJ
   generalize V2x = V2 at *
   have nx : ∀ ty, (Instr.next (.pointer (some ⟨K, 0, none⟩)) true ty).run Tryz.prog V2 = .ok (.tuple #[.bool true, .int .i64 2, .int .i32 122]) (V2.iterAt K ⟨#[120, 121, 122]⟩ 3) := fun ty => Lib.run_next_ascii_at V2 K ⟨#[120, 121, 122]⟩ 2 ty HI2.out (by decide) (by decide)
   rw [rounds_succ]
   go_wp2_with fail
   clear nx
   have HJ := Lib.hid (Lib.iterAt_heap V2 K ⟨#[120, 121, 122]⟩ 2 3 HI2.out)
   have AJ := Lib.hid (AG2.out.iterAt HK.out ⟨#[120, 121, 122]⟩ 3)
   clear HI2 AG2
   generalize V2.iterAt K ⟨#[120, 121, 122]⟩ 3 = U2 at *
   refine (X2.out _).mono ?_
   rintro e V3x ⟨rfl, rfl⟩
   go_wp2_with fail
   have HI3 := HJ
   have AG3 := AJ
   clear HJ AJ
   generalize V3x = V3 at *
   have nx : ∀ ty, (Instr.next (.pointer (some ⟨K, 0, none⟩)) true ty).run Tryz.prog V3 = .ok (.tuple #[.bool false]) V3 := fun ty => Lib.run_next_end_at V3 K ⟨#[120, 121, 122]⟩ 3 ty HI3.out (by decide)
   rw [rounds_succ]
   go_wp2_with fail
   have E := AG3.out.r1
   rw [ag_end (A := A) (fun j hj => by have := AR.out k hlt j hj; simpa [stR] using this)] at E
   exact ⟨⟨k + 1, by omega, by go_num, Lib.hid E, Lib.hid AG3.out.r0, Lib.hid AG3.out.rb⟩, by simp [intOf]; omega⟩
  ·have hk2 : k = 27 := by omega
   subst hk2
   have RP := R1.out
   rw [mixR_all] at RP
   replace RP := Lib.hid RP
   go_wp2_with (first
    | (refine wpList_load_row rfl 68 _ rfl (w.heap.size + 1) (by rfl) 68 (relC .u32 A) (0, 0) _ RP.out undR rfl (infoR _) ?_)
    | (refine wpList_store_row rfl 68 _ _ rfl w.heap.size (relC .u32 A) (by rfl) (by rfl) 68 (relC .u32 noR) R0.out (infoR _) (by rw [relC_size, relC_size]) (relC_one _ _) ?_))
   exact bodyPost_ret (v := .agg (relC .u32 A)) (results_cell_row rfl _ _ w.heap.size 68 _ (0, 0) _ (by rfl) (R0.out.row _) undR rfl (infoR _)) rfl ⟨rfl, Below.setRow RB.out (Nat.le_refl _) _⟩
set_option maxRecDepth 100000 in
set_option maxHeartbeats 8000000 in
theorem agree_ttf (s : ByteArray) (w : World)
  (x0 : ∀ w, Calls Tryz.prog 142 #[.string s, .int .i32 120] w fun e w' => e = .returned (.bool true) ∧ w' = w)
  (x1 : ∀ w, Calls Tryz.prog 142 #[.string s, .int .i32 121] w fun e w' => e = .returned (.bool true) ∧ w' = w)
  (x2 : ∀ w, Calls Tryz.prog 142 #[.string s, .int .i32 122] w fun e w' => e = .returned (.bool false) ∧ w' = w)
  : Calls Tryz.prog 73 #[.string s] w (RelPost (agF true true false) w) := by
 obtain ⟨k0, k1, kb, kz⟩ := two_blk w (relC .u32 noR) (relC .u32 noR) 68 68
 have K0 := Lib.hid k0
 have K1 := Lib.hid k1
 have KB := Lib.hid kb
 have X0 := Lib.hid x0
 have X1 := Lib.hid x1
 have X2 := Lib.hid x2
 have AR := Lib.hid (ag_row true true false)
 generalize hA : agF true true false = A at *
 clear hA
 clear k0 k1 kb kz x0 x1 x2
 go_enter Tryz.func73, Tryz.ntmps73
 go_wp2_with (first
  | (refine r_alloc rfl rfl (some 2) rfl w.heap.size rfl ?_)
  | (refine r_alloc rfl rfl (some 3) rfl (w.heap.size + 1) (by simp) ?_))
 generalize (w.alloc (.cells (relC .u32 noR) 68)).alloc (.cells (relC .u32 noR) 68) = w0 at *
 go_loopw [7] (fun i wr => ∃ k : Nat, k ≤ 27 ∧ i = .int .i64 k ∧ Hid (Blk wr (w.heap.size + 1) (relC .u32 (mixR k A noR)) 68) ∧ Hid (Blk wr w.heap.size (relC .u32 noR) 68) ∧ Hid (Below w.heap.size w wr)) (fun i _ => 27 - (intOf i).toNat)
 case atStart => exact ⟨0, by omega, rfl, by rw [mixR_zero]; exact K1, K0, KB⟩
 case round =>
  clear K0 K1 KB
  obtain ⟨k, hk, rfl, R1, R0, RB⟩ := hrel
  by_cases hlt : k < 27
  ·have c0 := mixR_cell R1.out hlt
   have c1 := R1.out.free k
   have D := fun w => Lib.hid (implWithB (noR k) k w hlt)
   rw [id_rowA] at D
   have RP := R1.out.set k (.int .u32 (nb 27 (idR k)))
   rw [relC_set hlt] at RP
   have AG := Lib.hid (show AgS w (wr.setCell ⟨w.heap.size + 1, k, none⟩ (.int .u32 (nb 27 (idR k)))) (mixR k A noR) k (idR k) from ⟨RP, R0.out.setOther (by show w.heap.size ≠ w.heap.size + 1; omega) _, RB.out.setCell (by show w.heap.size ≤ w.heap.size + 1; omega) _⟩)
   clear RP
   go_wp2_with fail
   refine (D _).out.mono ?_
   rintro e w2 ⟨rfl, rfl⟩
   have hsz := Lib.hid (show w.heap.size + 1 < (wr.setCell ⟨w.heap.size + 1, k, none⟩ (.int .u32 (nb 27 (idR k)))).heap.size from AG.out.r1.lt)
   go_wp2_with fail
   obtain ⟨W, hW⟩ : ∃ W, wr.setCell ⟨w.heap.size + 1, k, none⟩ (.int .u32 (nb 27 (idR k))) = W := ⟨_, rfl⟩
   have hz : wr.heap.size = W.heap.size := by rw [← hW]; simp
   rw [hW] at AG hsz ⊢
   rw [hz]
   clear hW hz c0 c1 D R1 R0 RB
   have HI0 := Lib.hid (World.iter_heap W ⟨#[120, 121, 122]⟩ 0)
   have AG0 := Lib.hid (AG.out.kept ((Below.refl _ W).alloc (Nat.le_refl _) (.stringIter ⟨#[120, 121, 122]⟩ 0)))
   rw [show W.alloc (.stringIter ⟨#[120, 121, 122]⟩ 0) = W.iter ⟨#[120, 121, 122]⟩ 0 from rfl] at AG0
   have HK := hsz
   clear hsz AG
   generalize W.iter ⟨#[120, 121, 122]⟩ 0 = V0 at *
   generalize W.heap.size = K at *
   refine wp_loop_rounds 4 ?_
   have nx : ∀ ty, (Instr.next (.pointer (some ⟨K, 0, none⟩)) true ty).run Tryz.prog V0 = .ok (.tuple #[.bool true, .int .i64 0, .int .i32 120]) (V0.iterAt K ⟨#[120, 121, 122]⟩ 1) := fun ty => Lib.run_next_ascii_at V0 K ⟨#[120, 121, 122]⟩ 0 ty HI0.out (by decide) (by decide)
   rw [rounds_succ]
   go_wp2_with fail
   clear nx
   have HJ := Lib.hid (Lib.iterAt_heap V0 K ⟨#[120, 121, 122]⟩ 0 1 HI0.out)
   have AJ := Lib.hid (AG0.out.iterAt HK.out ⟨#[120, 121, 122]⟩ 1)
   clear HI0 AG0
   generalize V0.iterAt K ⟨#[120, 121, 122]⟩ 1 = U0 at *
   refine (X0.out _).mono ?_
   rintro e V1x ⟨rfl, rfl⟩
   go_wp2_with fail
   have HI1 := HJ
   have AG1 := AJ
   clear HJ AJ
   generalize V1x = V1 at *
   have nx : ∀ ty, (Instr.next (.pointer (some ⟨K, 0, none⟩)) true ty).run Tryz.prog V1 = .ok (.tuple #[.bool true, .int .i64 1, .int .i32 121]) (V1.iterAt K ⟨#[120, 121, 122]⟩ 2) := fun ty => Lib.run_next_ascii_at V1 K ⟨#[120, 121, 122]⟩ 1 ty HI1.out (by decide) (by decide)
   rw [rounds_succ]
   go_wp2_with fail
   clear nx
   have HJ := Lib.hid (Lib.iterAt_heap V1 K ⟨#[120, 121, 122]⟩ 1 2 HI1.out)
   have AJ := Lib.hid (AG1.out.iterAt HK.out ⟨#[120, 121, 122]⟩ 2)
   clear HI1 AG1
   generalize V1.iterAt K ⟨#[120, 121, 122]⟩ 2 = U1 at *
   refine (X1.out _).mono ?_
   rintro e V2x ⟨rfl, rfl⟩
   go_wp2_with fail
   have HI2 := HJ
   have AG2 := AJ
   clear HJ AJ
   generalize V2x = V2 at *
   have nx : ∀ ty, (Instr.next (.pointer (some ⟨K, 0, none⟩)) true ty).run Tryz.prog V2 = .ok (.tuple #[.bool true, .int .i64 2, .int .i32 122]) (V2.iterAt K ⟨#[120, 121, 122]⟩ 3) := fun ty => Lib.run_next_ascii_at V2 K ⟨#[120, 121, 122]⟩ 2 ty HI2.out (by decide) (by decide)
   rw [rounds_succ]
   go_wp2_with fail
   clear nx
   have HJ := Lib.hid (Lib.iterAt_heap V2 K ⟨#[120, 121, 122]⟩ 2 3 HI2.out)
   have AJ := Lib.hid (AG2.out.iterAt HK.out ⟨#[120, 121, 122]⟩ 3)
   clear HI2 AG2
   generalize V2.iterAt K ⟨#[120, 121, 122]⟩ 3 = U2 at *
   refine (X2.out _).mono ?_
   rintro e V2x ⟨rfl, rfl⟩
   have c0 := AJ.out.cell hlt
   have c1 := AJ.out.r1.free k
   have S := fun w => Lib.hid (implSomeA 122 (by simp) (idR k) w)
   go_wp2_with fail
   refine (S _).out.mono ?_
   rintro e w1 ⟨rfl, hb⟩
   clear c0 c1 S
   have HJ2 := Lib.hid ((hb.block K ((Array.getElem?_eq_some_iff.1 HJ.out).1)).trans HJ.out)
   have AJ2 := Lib.hid (AJ.out.kept hb)
   clear hb HJ AJ
   have c0 := AJ2.out.cell hlt
   have c1 := AJ2.out.r1.free k
   go_wp2_with fail
   clear c0 c1
   have HI3 := Lib.hid (it_set (g := w.heap.size + 1) (i := k) (v := .int .u32 (nb 27 (someF 122 (idR k)))) HJ2.out (by have := HK.out; omega))
   have AG3 := Lib.hid (AJ2.out.put hlt (someF 122 (idR k)))
   clear HJ2 AJ2
   obtain ⟨V3, hV⟩ : ∃ V, V = w1.setCell ⟨w.heap.size + 1, k, none⟩ (.int .u32 (nb 27 (someF 122 (idR k)))) := ⟨_, rfl⟩
   rw [← hV] at HI3 AG3 ⊢
   clear hV
   have nx : ∀ ty, (Instr.next (.pointer (some ⟨K, 0, none⟩)) true ty).run Tryz.prog V3 = .ok (.tuple #[.bool false]) V3 := fun ty => Lib.run_next_end_at V3 K ⟨#[120, 121, 122]⟩ 3 ty HI3.out (by decide)
   rw [rounds_succ]
   go_wp2_with fail
   have E := AG3.out.r1
   rw [ag_end (A := A) (fun j hj => by have := AR.out k hlt j hj; simpa [stR] using this)] at E
   exact ⟨⟨k + 1, by omega, by go_num, Lib.hid E, Lib.hid AG3.out.r0, Lib.hid AG3.out.rb⟩, by simp [intOf]; omega⟩
  ·have hk2 : k = 27 := by omega
   subst hk2
   have RP := R1.out
   rw [mixR_all] at RP
   replace RP := Lib.hid RP
   go_wp2_with (first
    | (refine wpList_load_row rfl 68 _ rfl (w.heap.size + 1) (by rfl) 68 (relC .u32 A) (0, 0) _ RP.out undR rfl (infoR _) ?_)
    | (refine wpList_store_row rfl 68 _ _ rfl w.heap.size (relC .u32 A) (by rfl) (by rfl) 68 (relC .u32 noR) R0.out (infoR _) (by rw [relC_size, relC_size]) (relC_one _ _) ?_))
   exact bodyPost_ret (v := .agg (relC .u32 A)) (results_cell_row rfl _ _ w.heap.size 68 _ (0, 0) _ (by rfl) (R0.out.row _) undR rfl (infoR _)) rfl ⟨rfl, Below.setRow RB.out (Nat.le_refl _) _⟩
set_option maxRecDepth 100000 in
set_option maxHeartbeats 8000000 in
theorem agree_tft (s : ByteArray) (w : World)
  (x0 : ∀ w, Calls Tryz.prog 142 #[.string s, .int .i32 120] w fun e w' => e = .returned (.bool true) ∧ w' = w)
  (x1 : ∀ w, Calls Tryz.prog 142 #[.string s, .int .i32 121] w fun e w' => e = .returned (.bool false) ∧ w' = w)
  (x2 : ∀ w, Calls Tryz.prog 142 #[.string s, .int .i32 122] w fun e w' => e = .returned (.bool true) ∧ w' = w)
  : Calls Tryz.prog 73 #[.string s] w (RelPost (agF true false true) w) := by
 obtain ⟨k0, k1, kb, kz⟩ := two_blk w (relC .u32 noR) (relC .u32 noR) 68 68
 have K0 := Lib.hid k0
 have K1 := Lib.hid k1
 have KB := Lib.hid kb
 have X0 := Lib.hid x0
 have X1 := Lib.hid x1
 have X2 := Lib.hid x2
 have AR := Lib.hid (ag_row true false true)
 generalize hA : agF true false true = A at *
 clear hA
 clear k0 k1 kb kz x0 x1 x2
 go_enter Tryz.func73, Tryz.ntmps73
 go_wp2_with (first
  | (refine r_alloc rfl rfl (some 2) rfl w.heap.size rfl ?_)
  | (refine r_alloc rfl rfl (some 3) rfl (w.heap.size + 1) (by simp) ?_))
 generalize (w.alloc (.cells (relC .u32 noR) 68)).alloc (.cells (relC .u32 noR) 68) = w0 at *
 go_loopw [7] (fun i wr => ∃ k : Nat, k ≤ 27 ∧ i = .int .i64 k ∧ Hid (Blk wr (w.heap.size + 1) (relC .u32 (mixR k A noR)) 68) ∧ Hid (Blk wr w.heap.size (relC .u32 noR) 68) ∧ Hid (Below w.heap.size w wr)) (fun i _ => 27 - (intOf i).toNat)
 case atStart => exact ⟨0, by omega, rfl, by rw [mixR_zero]; exact K1, K0, KB⟩
 case round =>
  clear K0 K1 KB
  obtain ⟨k, hk, rfl, R1, R0, RB⟩ := hrel
  by_cases hlt : k < 27
  ·have c0 := mixR_cell R1.out hlt
   have c1 := R1.out.free k
   have D := fun w => Lib.hid (implWithB (noR k) k w hlt)
   rw [id_rowA] at D
   have RP := R1.out.set k (.int .u32 (nb 27 (idR k)))
   rw [relC_set hlt] at RP
   have AG := Lib.hid (show AgS w (wr.setCell ⟨w.heap.size + 1, k, none⟩ (.int .u32 (nb 27 (idR k)))) (mixR k A noR) k (idR k) from ⟨RP, R0.out.setOther (by show w.heap.size ≠ w.heap.size + 1; omega) _, RB.out.setCell (by show w.heap.size ≤ w.heap.size + 1; omega) _⟩)
   clear RP
   go_wp2_with fail
   refine (D _).out.mono ?_
   rintro e w2 ⟨rfl, rfl⟩
   have hsz := Lib.hid (show w.heap.size + 1 < (wr.setCell ⟨w.heap.size + 1, k, none⟩ (.int .u32 (nb 27 (idR k)))).heap.size from AG.out.r1.lt)
   go_wp2_with fail
   obtain ⟨W, hW⟩ : ∃ W, wr.setCell ⟨w.heap.size + 1, k, none⟩ (.int .u32 (nb 27 (idR k))) = W := ⟨_, rfl⟩
   have hz : wr.heap.size = W.heap.size := by rw [← hW]; simp
   rw [hW] at AG hsz ⊢
   rw [hz]
   clear hW hz c0 c1 D R1 R0 RB
   have HI0 := Lib.hid (World.iter_heap W ⟨#[120, 121, 122]⟩ 0)
   have AG0 := Lib.hid (AG.out.kept ((Below.refl _ W).alloc (Nat.le_refl _) (.stringIter ⟨#[120, 121, 122]⟩ 0)))
   rw [show W.alloc (.stringIter ⟨#[120, 121, 122]⟩ 0) = W.iter ⟨#[120, 121, 122]⟩ 0 from rfl] at AG0
   have HK := hsz
   clear hsz AG
   generalize W.iter ⟨#[120, 121, 122]⟩ 0 = V0 at *
   generalize W.heap.size = K at *
   refine wp_loop_rounds 4 ?_
   have nx : ∀ ty, (Instr.next (.pointer (some ⟨K, 0, none⟩)) true ty).run Tryz.prog V0 = .ok (.tuple #[.bool true, .int .i64 0, .int .i32 120]) (V0.iterAt K ⟨#[120, 121, 122]⟩ 1) := fun ty => Lib.run_next_ascii_at V0 K ⟨#[120, 121, 122]⟩ 0 ty HI0.out (by decide) (by decide)
   rw [rounds_succ]
   go_wp2_with fail
   clear nx
   have HJ := Lib.hid (Lib.iterAt_heap V0 K ⟨#[120, 121, 122]⟩ 0 1 HI0.out)
   have AJ := Lib.hid (AG0.out.iterAt HK.out ⟨#[120, 121, 122]⟩ 1)
   clear HI0 AG0
   generalize V0.iterAt K ⟨#[120, 121, 122]⟩ 1 = U0 at *
   refine (X0.out _).mono ?_
   rintro e V1x ⟨rfl, rfl⟩
   go_wp2_with fail
   have HI1 := HJ
   have AG1 := AJ
   clear HJ AJ
   generalize V1x = V1 at *
   have nx : ∀ ty, (Instr.next (.pointer (some ⟨K, 0, none⟩)) true ty).run Tryz.prog V1 = .ok (.tuple #[.bool true, .int .i64 1, .int .i32 121]) (V1.iterAt K ⟨#[120, 121, 122]⟩ 2) := fun ty => Lib.run_next_ascii_at V1 K ⟨#[120, 121, 122]⟩ 1 ty HI1.out (by decide) (by decide)
   rw [rounds_succ]
   go_wp2_with fail
   clear nx
   have HJ := Lib.hid (Lib.iterAt_heap V1 K ⟨#[120, 121, 122]⟩ 1 2 HI1.out)
   have AJ := Lib.hid (AG1.out.iterAt HK.out ⟨#[120, 121, 122]⟩ 2)
   clear HI1 AG1
   generalize V1.iterAt K ⟨#[120, 121, 122]⟩ 2 = U1 at *
   refine (X1.out _).mono ?_
   rintro e V1x ⟨rfl, rfl⟩
   have c0 := AJ.out.cell hlt
   have c1 := AJ.out.r1.free k
   have S := fun w => Lib.hid (implSomeA 121 (by simp) (idR k) w)
   go_wp2_with fail
   refine (S _).out.mono ?_
   rintro e w1 ⟨rfl, hb⟩
   clear c0 c1 S
   have HJ2 := Lib.hid ((hb.block K ((Array.getElem?_eq_some_iff.1 HJ.out).1)).trans HJ.out)
   have AJ2 := Lib.hid (AJ.out.kept hb)
   clear hb HJ AJ
   have c0 := AJ2.out.cell hlt
   have c1 := AJ2.out.r1.free k
   go_wp2_with fail
   clear c0 c1
   have HI2 := Lib.hid (it_set (g := w.heap.size + 1) (i := k) (v := .int .u32 (nb 27 (someF 121 (idR k)))) HJ2.out (by have := HK.out; omega))
   have AG2 := Lib.hid (AJ2.out.put hlt (someF 121 (idR k)))
   clear HJ2 AJ2
   obtain ⟨V2, hV⟩ : ∃ V, V = w1.setCell ⟨w.heap.size + 1, k, none⟩ (.int .u32 (nb 27 (someF 121 (idR k)))) := ⟨_, rfl⟩
   rw [← hV] at HI2 AG2 ⊢
   clear hV
   have nx : ∀ ty, (Instr.next (.pointer (some ⟨K, 0, none⟩)) true ty).run Tryz.prog V2 = .ok (.tuple #[.bool true, .int .i64 2, .int .i32 122]) (V2.iterAt K ⟨#[120, 121, 122]⟩ 3) := fun ty => Lib.run_next_ascii_at V2 K ⟨#[120, 121, 122]⟩ 2 ty HI2.out (by decide) (by decide)
   rw [rounds_succ]
   go_wp2_with fail
   clear nx
   have HJ := Lib.hid (Lib.iterAt_heap V2 K ⟨#[120, 121, 122]⟩ 2 3 HI2.out)
   have AJ := Lib.hid (AG2.out.iterAt HK.out ⟨#[120, 121, 122]⟩ 3)
   clear HI2 AG2
   generalize V2.iterAt K ⟨#[120, 121, 122]⟩ 3 = U2 at *
   refine (X2.out _).mono ?_
   rintro e V3x ⟨rfl, rfl⟩
   go_wp2_with fail
   have HI3 := HJ
   have AG3 := AJ
   clear HJ AJ
   generalize V3x = V3 at *
   have nx : ∀ ty, (Instr.next (.pointer (some ⟨K, 0, none⟩)) true ty).run Tryz.prog V3 = .ok (.tuple #[.bool false]) V3 := fun ty => Lib.run_next_end_at V3 K ⟨#[120, 121, 122]⟩ 3 ty HI3.out (by decide)
   rw [rounds_succ]
   go_wp2_with fail
   have E := AG3.out.r1
   rw [ag_end (A := A) (fun j hj => by have := AR.out k hlt j hj; simpa [stR] using this)] at E
   exact ⟨⟨k + 1, by omega, by go_num, Lib.hid E, Lib.hid AG3.out.r0, Lib.hid AG3.out.rb⟩, by simp [intOf]; omega⟩
  ·have hk2 : k = 27 := by omega
   subst hk2
   have RP := R1.out
   rw [mixR_all] at RP
   replace RP := Lib.hid RP
   go_wp2_with (first
    | (refine wpList_load_row rfl 68 _ rfl (w.heap.size + 1) (by rfl) 68 (relC .u32 A) (0, 0) _ RP.out undR rfl (infoR _) ?_)
    | (refine wpList_store_row rfl 68 _ _ rfl w.heap.size (relC .u32 A) (by rfl) (by rfl) 68 (relC .u32 noR) R0.out (infoR _) (by rw [relC_size, relC_size]) (relC_one _ _) ?_))
   exact bodyPost_ret (v := .agg (relC .u32 A)) (results_cell_row rfl _ _ w.heap.size 68 _ (0, 0) _ (by rfl) (R0.out.row _) undR rfl (infoR _)) rfl ⟨rfl, Below.setRow RB.out (Nat.le_refl _) _⟩
set_option maxRecDepth 100000 in
set_option maxHeartbeats 8000000 in
theorem agree_tff (s : ByteArray) (w : World)
  (x0 : ∀ w, Calls Tryz.prog 142 #[.string s, .int .i32 120] w fun e w' => e = .returned (.bool true) ∧ w' = w)
  (x1 : ∀ w, Calls Tryz.prog 142 #[.string s, .int .i32 121] w fun e w' => e = .returned (.bool false) ∧ w' = w)
  (x2 : ∀ w, Calls Tryz.prog 142 #[.string s, .int .i32 122] w fun e w' => e = .returned (.bool false) ∧ w' = w)
  : Calls Tryz.prog 73 #[.string s] w (RelPost (agF true false false) w) := by
 obtain ⟨k0, k1, kb, kz⟩ := two_blk w (relC .u32 noR) (relC .u32 noR) 68 68
 have K0 := Lib.hid k0
 have K1 := Lib.hid k1
 have KB := Lib.hid kb
 have X0 := Lib.hid x0
 have X1 := Lib.hid x1
 have X2 := Lib.hid x2
 have AR := Lib.hid (ag_row true false false)
 generalize hA : agF true false false = A at *
 clear hA
 clear k0 k1 kb kz x0 x1 x2
 go_enter Tryz.func73, Tryz.ntmps73
 go_wp2_with (first
  | (refine r_alloc rfl rfl (some 2) rfl w.heap.size rfl ?_)
  | (refine r_alloc rfl rfl (some 3) rfl (w.heap.size + 1) (by simp) ?_))
 generalize (w.alloc (.cells (relC .u32 noR) 68)).alloc (.cells (relC .u32 noR) 68) = w0 at *
 go_loopw [7] (fun i wr => ∃ k : Nat, k ≤ 27 ∧ i = .int .i64 k ∧ Hid (Blk wr (w.heap.size + 1) (relC .u32 (mixR k A noR)) 68) ∧ Hid (Blk wr w.heap.size (relC .u32 noR) 68) ∧ Hid (Below w.heap.size w wr)) (fun i _ => 27 - (intOf i).toNat)
 case atStart => exact ⟨0, by omega, rfl, by rw [mixR_zero]; exact K1, K0, KB⟩
 case round =>
  clear K0 K1 KB
  obtain ⟨k, hk, rfl, R1, R0, RB⟩ := hrel
  by_cases hlt : k < 27
  ·have c0 := mixR_cell R1.out hlt
   have c1 := R1.out.free k
   have D := fun w => Lib.hid (implWithB (noR k) k w hlt)
   rw [id_rowA] at D
   have RP := R1.out.set k (.int .u32 (nb 27 (idR k)))
   rw [relC_set hlt] at RP
   have AG := Lib.hid (show AgS w (wr.setCell ⟨w.heap.size + 1, k, none⟩ (.int .u32 (nb 27 (idR k)))) (mixR k A noR) k (idR k) from ⟨RP, R0.out.setOther (by show w.heap.size ≠ w.heap.size + 1; omega) _, RB.out.setCell (by show w.heap.size ≤ w.heap.size + 1; omega) _⟩)
   clear RP
   go_wp2_with fail
   refine (D _).out.mono ?_
   rintro e w2 ⟨rfl, rfl⟩
   have hsz := Lib.hid (show w.heap.size + 1 < (wr.setCell ⟨w.heap.size + 1, k, none⟩ (.int .u32 (nb 27 (idR k)))).heap.size from AG.out.r1.lt)
   go_wp2_with fail
   obtain ⟨W, hW⟩ : ∃ W, wr.setCell ⟨w.heap.size + 1, k, none⟩ (.int .u32 (nb 27 (idR k))) = W := ⟨_, rfl⟩
   have hz : wr.heap.size = W.heap.size := by rw [← hW]; simp
   rw [hW] at AG hsz ⊢
   rw [hz]
   clear hW hz c0 c1 D R1 R0 RB
   have HI0 := Lib.hid (World.iter_heap W ⟨#[120, 121, 122]⟩ 0)
   have AG0 := Lib.hid (AG.out.kept ((Below.refl _ W).alloc (Nat.le_refl _) (.stringIter ⟨#[120, 121, 122]⟩ 0)))
   rw [show W.alloc (.stringIter ⟨#[120, 121, 122]⟩ 0) = W.iter ⟨#[120, 121, 122]⟩ 0 from rfl] at AG0
   have HK := hsz
   clear hsz AG
   generalize W.iter ⟨#[120, 121, 122]⟩ 0 = V0 at *
   generalize W.heap.size = K at *
   refine wp_loop_rounds 4 ?_
   have nx : ∀ ty, (Instr.next (.pointer (some ⟨K, 0, none⟩)) true ty).run Tryz.prog V0 = .ok (.tuple #[.bool true, .int .i64 0, .int .i32 120]) (V0.iterAt K ⟨#[120, 121, 122]⟩ 1) := fun ty => Lib.run_next_ascii_at V0 K ⟨#[120, 121, 122]⟩ 0 ty HI0.out (by decide) (by decide)
   rw [rounds_succ]
   go_wp2_with fail
   clear nx
   have HJ := Lib.hid (Lib.iterAt_heap V0 K ⟨#[120, 121, 122]⟩ 0 1 HI0.out)
   have AJ := Lib.hid (AG0.out.iterAt HK.out ⟨#[120, 121, 122]⟩ 1)
   clear HI0 AG0
   generalize V0.iterAt K ⟨#[120, 121, 122]⟩ 1 = U0 at *
   refine (X0.out _).mono ?_
   rintro e V1x ⟨rfl, rfl⟩
   go_wp2_with fail
   have HI1 := HJ
   have AG1 := AJ
   clear HJ AJ
   generalize V1x = V1 at *
   have nx : ∀ ty, (Instr.next (.pointer (some ⟨K, 0, none⟩)) true ty).run Tryz.prog V1 = .ok (.tuple #[.bool true, .int .i64 1, .int .i32 121]) (V1.iterAt K ⟨#[120, 121, 122]⟩ 2) := fun ty => Lib.run_next_ascii_at V1 K ⟨#[120, 121, 122]⟩ 1 ty HI1.out (by decide) (by decide)
   rw [rounds_succ]
   go_wp2_with fail
   clear nx
   have HJ := Lib.hid (Lib.iterAt_heap V1 K ⟨#[120, 121, 122]⟩ 1 2 HI1.out)
   have AJ := Lib.hid (AG1.out.iterAt HK.out ⟨#[120, 121, 122]⟩ 2)
   clear HI1 AG1
   generalize V1.iterAt K ⟨#[120, 121, 122]⟩ 2 = U1 at *
   refine (X1.out _).mono ?_
   rintro e V1x ⟨rfl, rfl⟩
   have c0 := AJ.out.cell hlt
   have c1 := AJ.out.r1.free k
   have S := fun w => Lib.hid (implSomeA 121 (by simp) (idR k) w)
   go_wp2_with fail
   refine (S _).out.mono ?_
   rintro e w1 ⟨rfl, hb⟩
   clear c0 c1 S
   have HJ2 := Lib.hid ((hb.block K ((Array.getElem?_eq_some_iff.1 HJ.out).1)).trans HJ.out)
   have AJ2 := Lib.hid (AJ.out.kept hb)
   clear hb HJ AJ
   have c0 := AJ2.out.cell hlt
   have c1 := AJ2.out.r1.free k
   go_wp2_with fail
   clear c0 c1
   have HI2 := Lib.hid (it_set (g := w.heap.size + 1) (i := k) (v := .int .u32 (nb 27 (someF 121 (idR k)))) HJ2.out (by have := HK.out; omega))
   have AG2 := Lib.hid (AJ2.out.put hlt (someF 121 (idR k)))
   clear HJ2 AJ2
   obtain ⟨V2, hV⟩ : ∃ V, V = w1.setCell ⟨w.heap.size + 1, k, none⟩ (.int .u32 (nb 27 (someF 121 (idR k)))) := ⟨_, rfl⟩
   rw [← hV] at HI2 AG2 ⊢
   clear hV
   have nx : ∀ ty, (Instr.next (.pointer (some ⟨K, 0, none⟩)) true ty).run Tryz.prog V2 = .ok (.tuple #[.bool true, .int .i64 2, .int .i32 122]) (V2.iterAt K ⟨#[120, 121, 122]⟩ 3) := fun ty => Lib.run_next_ascii_at V2 K ⟨#[120, 121, 122]⟩ 2 ty HI2.out (by decide) (by decide)
   rw [rounds_succ]
   go_wp2_with fail
   clear nx
   have HJ := Lib.hid (Lib.iterAt_heap V2 K ⟨#[120, 121, 122]⟩ 2 3 HI2.out)
   have AJ := Lib.hid (AG2.out.iterAt HK.out ⟨#[120, 121, 122]⟩ 3)
   clear HI2 AG2
   generalize V2.iterAt K ⟨#[120, 121, 122]⟩ 3 = U2 at *
   refine (X2.out _).mono ?_
   rintro e V2x ⟨rfl, rfl⟩
   have c0 := AJ.out.cell hlt
   have c1 := AJ.out.r1.free k
   have S := fun w => Lib.hid (implSomeA 122 (by simp) (someF 121 (idR k)) w)
   go_wp2_with fail
   refine (S _).out.mono ?_
   rintro e w1 ⟨rfl, hb⟩
   clear c0 c1 S
   have HJ2 := Lib.hid ((hb.block K ((Array.getElem?_eq_some_iff.1 HJ.out).1)).trans HJ.out)
   have AJ2 := Lib.hid (AJ.out.kept hb)
   clear hb HJ AJ
   have c0 := AJ2.out.cell hlt
   have c1 := AJ2.out.r1.free k
   go_wp2_with fail
   clear c0 c1
   have HI3 := Lib.hid (it_set (g := w.heap.size + 1) (i := k) (v := .int .u32 (nb 27 (someF 122 (someF 121 (idR k))))) HJ2.out (by have := HK.out; omega))
   have AG3 := Lib.hid (AJ2.out.put hlt (someF 122 (someF 121 (idR k))))
   clear HJ2 AJ2
   obtain ⟨V3, hV⟩ : ∃ V, V = w1.setCell ⟨w.heap.size + 1, k, none⟩ (.int .u32 (nb 27 (someF 122 (someF 121 (idR k))))) := ⟨_, rfl⟩
   rw [← hV] at HI3 AG3 ⊢
   clear hV
   have nx : ∀ ty, (Instr.next (.pointer (some ⟨K, 0, none⟩)) true ty).run Tryz.prog V3 = .ok (.tuple #[.bool false]) V3 := fun ty => Lib.run_next_end_at V3 K ⟨#[120, 121, 122]⟩ 3 ty HI3.out (by decide)
   rw [rounds_succ]
   go_wp2_with fail
   have E := AG3.out.r1
   rw [ag_end (A := A) (fun j hj => by have := AR.out k hlt j hj; simpa [stR] using this)] at E
   exact ⟨⟨k + 1, by omega, by go_num, Lib.hid E, Lib.hid AG3.out.r0, Lib.hid AG3.out.rb⟩, by simp [intOf]; omega⟩
  ·have hk2 : k = 27 := by omega
   subst hk2
   have RP := R1.out
   rw [mixR_all] at RP
   replace RP := Lib.hid RP
   go_wp2_with (first
    | (refine wpList_load_row rfl 68 _ rfl (w.heap.size + 1) (by rfl) 68 (relC .u32 A) (0, 0) _ RP.out undR rfl (infoR _) ?_)
    | (refine wpList_store_row rfl 68 _ _ rfl w.heap.size (relC .u32 A) (by rfl) (by rfl) 68 (relC .u32 noR) R0.out (infoR _) (by rw [relC_size, relC_size]) (relC_one _ _) ?_))
   exact bodyPost_ret (v := .agg (relC .u32 A)) (results_cell_row rfl _ _ w.heap.size 68 _ (0, 0) _ (by rfl) (R0.out.row _) undR rfl (infoR _)) rfl ⟨rfl, Below.setRow RB.out (Nat.le_refl _) _⟩
set_option maxRecDepth 100000 in
set_option maxHeartbeats 8000000 in
theorem agree_ftt (s : ByteArray) (w : World)
  (x0 : ∀ w, Calls Tryz.prog 142 #[.string s, .int .i32 120] w fun e w' => e = .returned (.bool false) ∧ w' = w)
  (x1 : ∀ w, Calls Tryz.prog 142 #[.string s, .int .i32 121] w fun e w' => e = .returned (.bool true) ∧ w' = w)
  (x2 : ∀ w, Calls Tryz.prog 142 #[.string s, .int .i32 122] w fun e w' => e = .returned (.bool true) ∧ w' = w)
  : Calls Tryz.prog 73 #[.string s] w (RelPost (agF false true true) w) := by
 obtain ⟨k0, k1, kb, kz⟩ := two_blk w (relC .u32 noR) (relC .u32 noR) 68 68
 have K0 := Lib.hid k0
 have K1 := Lib.hid k1
 have KB := Lib.hid kb
 have X0 := Lib.hid x0
 have X1 := Lib.hid x1
 have X2 := Lib.hid x2
 have AR := Lib.hid (ag_row false true true)
 generalize hA : agF false true true = A at *
 clear hA
 clear k0 k1 kb kz x0 x1 x2
 go_enter Tryz.func73, Tryz.ntmps73
 go_wp2_with (first
  | (refine r_alloc rfl rfl (some 2) rfl w.heap.size rfl ?_)
  | (refine r_alloc rfl rfl (some 3) rfl (w.heap.size + 1) (by simp) ?_))
 generalize (w.alloc (.cells (relC .u32 noR) 68)).alloc (.cells (relC .u32 noR) 68) = w0 at *
 go_loopw [7] (fun i wr => ∃ k : Nat, k ≤ 27 ∧ i = .int .i64 k ∧ Hid (Blk wr (w.heap.size + 1) (relC .u32 (mixR k A noR)) 68) ∧ Hid (Blk wr w.heap.size (relC .u32 noR) 68) ∧ Hid (Below w.heap.size w wr)) (fun i _ => 27 - (intOf i).toNat)
 case atStart => exact ⟨0, by omega, rfl, by rw [mixR_zero]; exact K1, K0, KB⟩
 case round =>
  clear K0 K1 KB
  obtain ⟨k, hk, rfl, R1, R0, RB⟩ := hrel
  by_cases hlt : k < 27
  ·have c0 := mixR_cell R1.out hlt
   have c1 := R1.out.free k
   have D := fun w => Lib.hid (implWithB (noR k) k w hlt)
   rw [id_rowA] at D
   have RP := R1.out.set k (.int .u32 (nb 27 (idR k)))
   rw [relC_set hlt] at RP
   have AG := Lib.hid (show AgS w (wr.setCell ⟨w.heap.size + 1, k, none⟩ (.int .u32 (nb 27 (idR k)))) (mixR k A noR) k (idR k) from ⟨RP, R0.out.setOther (by show w.heap.size ≠ w.heap.size + 1; omega) _, RB.out.setCell (by show w.heap.size ≤ w.heap.size + 1; omega) _⟩)
   clear RP
   go_wp2_with fail
   refine (D _).out.mono ?_
   rintro e w2 ⟨rfl, rfl⟩
   have hsz := Lib.hid (show w.heap.size + 1 < (wr.setCell ⟨w.heap.size + 1, k, none⟩ (.int .u32 (nb 27 (idR k)))).heap.size from AG.out.r1.lt)
   go_wp2_with fail
   obtain ⟨W, hW⟩ : ∃ W, wr.setCell ⟨w.heap.size + 1, k, none⟩ (.int .u32 (nb 27 (idR k))) = W := ⟨_, rfl⟩
   have hz : wr.heap.size = W.heap.size := by rw [← hW]; simp
   rw [hW] at AG hsz ⊢
   rw [hz]
   clear hW hz c0 c1 D R1 R0 RB
   have HI0 := Lib.hid (World.iter_heap W ⟨#[120, 121, 122]⟩ 0)
   have AG0 := Lib.hid (AG.out.kept ((Below.refl _ W).alloc (Nat.le_refl _) (.stringIter ⟨#[120, 121, 122]⟩ 0)))
   rw [show W.alloc (.stringIter ⟨#[120, 121, 122]⟩ 0) = W.iter ⟨#[120, 121, 122]⟩ 0 from rfl] at AG0
   have HK := hsz
   clear hsz AG
   generalize W.iter ⟨#[120, 121, 122]⟩ 0 = V0 at *
   generalize W.heap.size = K at *
   refine wp_loop_rounds 4 ?_
   have nx : ∀ ty, (Instr.next (.pointer (some ⟨K, 0, none⟩)) true ty).run Tryz.prog V0 = .ok (.tuple #[.bool true, .int .i64 0, .int .i32 120]) (V0.iterAt K ⟨#[120, 121, 122]⟩ 1) := fun ty => Lib.run_next_ascii_at V0 K ⟨#[120, 121, 122]⟩ 0 ty HI0.out (by decide) (by decide)
   rw [rounds_succ]
   go_wp2_with fail
   clear nx
   have HJ := Lib.hid (Lib.iterAt_heap V0 K ⟨#[120, 121, 122]⟩ 0 1 HI0.out)
   have AJ := Lib.hid (AG0.out.iterAt HK.out ⟨#[120, 121, 122]⟩ 1)
   clear HI0 AG0
   generalize V0.iterAt K ⟨#[120, 121, 122]⟩ 1 = U0 at *
   refine (X0.out _).mono ?_
   rintro e V0x ⟨rfl, rfl⟩
   have c0 := AJ.out.cell hlt
   have c1 := AJ.out.r1.free k
   have S := fun w => Lib.hid (implSomeA 120 (by simp) (idR k) w)
   go_wp2_with fail
   refine (S _).out.mono ?_
   rintro e w1 ⟨rfl, hb⟩
   clear c0 c1 S
   have HJ2 := Lib.hid ((hb.block K ((Array.getElem?_eq_some_iff.1 HJ.out).1)).trans HJ.out)
   have AJ2 := Lib.hid (AJ.out.kept hb)
   clear hb HJ AJ
   have c0 := AJ2.out.cell hlt
   have c1 := AJ2.out.r1.free k
   go_wp2_with fail
   clear c0 c1
   have HI1 := Lib.hid (it_set (g := w.heap.size + 1) (i := k) (v := .int .u32 (nb 27 (someF 120 (idR k)))) HJ2.out (by have := HK.out; omega))
   have AG1 := Lib.hid (AJ2.out.put hlt (someF 120 (idR k)))
   clear HJ2 AJ2
   obtain ⟨V1, hV⟩ : ∃ V, V = w1.setCell ⟨w.heap.size + 1, k, none⟩ (.int .u32 (nb 27 (someF 120 (idR k)))) := ⟨_, rfl⟩
   rw [← hV] at HI1 AG1 ⊢
   clear hV
   have nx : ∀ ty, (Instr.next (.pointer (some ⟨K, 0, none⟩)) true ty).run Tryz.prog V1 = .ok (.tuple #[.bool true, .int .i64 1, .int .i32 121]) (V1.iterAt K ⟨#[120, 121, 122]⟩ 2) := fun ty => Lib.run_next_ascii_at V1 K ⟨#[120, 121, 122]⟩ 1 ty HI1.out (by decide) (by decide)
   rw [rounds_succ]
   go_wp2_with fail
   clear nx
   have HJ := Lib.hid (Lib.iterAt_heap V1 K ⟨#[120, 121, 122]⟩ 1 2 HI1.out)
   have AJ := Lib.hid (AG1.out.iterAt HK.out ⟨#[120, 121, 122]⟩ 2)
   clear HI1 AG1
   generalize V1.iterAt K ⟨#[120, 121, 122]⟩ 2 = U1 at *
   refine (X1.out _).mono ?_
   rintro e V2x ⟨rfl, rfl⟩
   go_wp2_with fail
   have HI2 := HJ
   have AG2 := AJ
   clear HJ AJ
   generalize V2x = V2 at *
   have nx : ∀ ty, (Instr.next (.pointer (some ⟨K, 0, none⟩)) true ty).run Tryz.prog V2 = .ok (.tuple #[.bool true, .int .i64 2, .int .i32 122]) (V2.iterAt K ⟨#[120, 121, 122]⟩ 3) := fun ty => Lib.run_next_ascii_at V2 K ⟨#[120, 121, 122]⟩ 2 ty HI2.out (by decide) (by decide)
   rw [rounds_succ]
   go_wp2_with fail
   clear nx
   have HJ := Lib.hid (Lib.iterAt_heap V2 K ⟨#[120, 121, 122]⟩ 2 3 HI2.out)
   have AJ := Lib.hid (AG2.out.iterAt HK.out ⟨#[120, 121, 122]⟩ 3)
   clear HI2 AG2
   generalize V2.iterAt K ⟨#[120, 121, 122]⟩ 3 = U2 at *
   refine (X2.out _).mono ?_
   rintro e V3x ⟨rfl, rfl⟩
   go_wp2_with fail
   have HI3 := HJ
   have AG3 := AJ
   clear HJ AJ
   generalize V3x = V3 at *
   have nx : ∀ ty, (Instr.next (.pointer (some ⟨K, 0, none⟩)) true ty).run Tryz.prog V3 = .ok (.tuple #[.bool false]) V3 := fun ty => Lib.run_next_end_at V3 K ⟨#[120, 121, 122]⟩ 3 ty HI3.out (by decide)
   rw [rounds_succ]
   go_wp2_with fail
   have E := AG3.out.r1
   rw [ag_end (A := A) (fun j hj => by have := AR.out k hlt j hj; simpa [stR] using this)] at E
   exact ⟨⟨k + 1, by omega, by go_num, Lib.hid E, Lib.hid AG3.out.r0, Lib.hid AG3.out.rb⟩, by simp [intOf]; omega⟩
  ·have hk2 : k = 27 := by omega
   subst hk2
   have RP := R1.out
   rw [mixR_all] at RP
   replace RP := Lib.hid RP
   go_wp2_with (first
    | (refine wpList_load_row rfl 68 _ rfl (w.heap.size + 1) (by rfl) 68 (relC .u32 A) (0, 0) _ RP.out undR rfl (infoR _) ?_)
    | (refine wpList_store_row rfl 68 _ _ rfl w.heap.size (relC .u32 A) (by rfl) (by rfl) 68 (relC .u32 noR) R0.out (infoR _) (by rw [relC_size, relC_size]) (relC_one _ _) ?_))
   exact bodyPost_ret (v := .agg (relC .u32 A)) (results_cell_row rfl _ _ w.heap.size 68 _ (0, 0) _ (by rfl) (R0.out.row _) undR rfl (infoR _)) rfl ⟨rfl, Below.setRow RB.out (Nat.le_refl _) _⟩
set_option maxRecDepth 100000 in
set_option maxHeartbeats 8000000 in
theorem agree_ftf (s : ByteArray) (w : World)
  (x0 : ∀ w, Calls Tryz.prog 142 #[.string s, .int .i32 120] w fun e w' => e = .returned (.bool false) ∧ w' = w)
  (x1 : ∀ w, Calls Tryz.prog 142 #[.string s, .int .i32 121] w fun e w' => e = .returned (.bool true) ∧ w' = w)
  (x2 : ∀ w, Calls Tryz.prog 142 #[.string s, .int .i32 122] w fun e w' => e = .returned (.bool false) ∧ w' = w)
  : Calls Tryz.prog 73 #[.string s] w (RelPost (agF false true false) w) := by
 obtain ⟨k0, k1, kb, kz⟩ := two_blk w (relC .u32 noR) (relC .u32 noR) 68 68
 have K0 := Lib.hid k0
 have K1 := Lib.hid k1
 have KB := Lib.hid kb
 have X0 := Lib.hid x0
 have X1 := Lib.hid x1
 have X2 := Lib.hid x2
 have AR := Lib.hid (ag_row false true false)
 generalize hA : agF false true false = A at *
 clear hA
 clear k0 k1 kb kz x0 x1 x2
 go_enter Tryz.func73, Tryz.ntmps73
 go_wp2_with (first
  | (refine r_alloc rfl rfl (some 2) rfl w.heap.size rfl ?_)
  | (refine r_alloc rfl rfl (some 3) rfl (w.heap.size + 1) (by simp) ?_))
 generalize (w.alloc (.cells (relC .u32 noR) 68)).alloc (.cells (relC .u32 noR) 68) = w0 at *
 go_loopw [7] (fun i wr => ∃ k : Nat, k ≤ 27 ∧ i = .int .i64 k ∧ Hid (Blk wr (w.heap.size + 1) (relC .u32 (mixR k A noR)) 68) ∧ Hid (Blk wr w.heap.size (relC .u32 noR) 68) ∧ Hid (Below w.heap.size w wr)) (fun i _ => 27 - (intOf i).toNat)
 case atStart => exact ⟨0, by omega, rfl, by rw [mixR_zero]; exact K1, K0, KB⟩
 case round =>
  clear K0 K1 KB
  obtain ⟨k, hk, rfl, R1, R0, RB⟩ := hrel
  by_cases hlt : k < 27
  ·have c0 := mixR_cell R1.out hlt
   have c1 := R1.out.free k
   have D := fun w => Lib.hid (implWithB (noR k) k w hlt)
   rw [id_rowA] at D
   have RP := R1.out.set k (.int .u32 (nb 27 (idR k)))
   rw [relC_set hlt] at RP
   have AG := Lib.hid (show AgS w (wr.setCell ⟨w.heap.size + 1, k, none⟩ (.int .u32 (nb 27 (idR k)))) (mixR k A noR) k (idR k) from ⟨RP, R0.out.setOther (by show w.heap.size ≠ w.heap.size + 1; omega) _, RB.out.setCell (by show w.heap.size ≤ w.heap.size + 1; omega) _⟩)
   clear RP
   go_wp2_with fail
   refine (D _).out.mono ?_
   rintro e w2 ⟨rfl, rfl⟩
   have hsz := Lib.hid (show w.heap.size + 1 < (wr.setCell ⟨w.heap.size + 1, k, none⟩ (.int .u32 (nb 27 (idR k)))).heap.size from AG.out.r1.lt)
   go_wp2_with fail
   obtain ⟨W, hW⟩ : ∃ W, wr.setCell ⟨w.heap.size + 1, k, none⟩ (.int .u32 (nb 27 (idR k))) = W := ⟨_, rfl⟩
   have hz : wr.heap.size = W.heap.size := by rw [← hW]; simp
   rw [hW] at AG hsz ⊢
   rw [hz]
   clear hW hz c0 c1 D R1 R0 RB
   have HI0 := Lib.hid (World.iter_heap W ⟨#[120, 121, 122]⟩ 0)
   have AG0 := Lib.hid (AG.out.kept ((Below.refl _ W).alloc (Nat.le_refl _) (.stringIter ⟨#[120, 121, 122]⟩ 0)))
   rw [show W.alloc (.stringIter ⟨#[120, 121, 122]⟩ 0) = W.iter ⟨#[120, 121, 122]⟩ 0 from rfl] at AG0
   have HK := hsz
   clear hsz AG
   generalize W.iter ⟨#[120, 121, 122]⟩ 0 = V0 at *
   generalize W.heap.size = K at *
   refine wp_loop_rounds 4 ?_
   have nx : ∀ ty, (Instr.next (.pointer (some ⟨K, 0, none⟩)) true ty).run Tryz.prog V0 = .ok (.tuple #[.bool true, .int .i64 0, .int .i32 120]) (V0.iterAt K ⟨#[120, 121, 122]⟩ 1) := fun ty => Lib.run_next_ascii_at V0 K ⟨#[120, 121, 122]⟩ 0 ty HI0.out (by decide) (by decide)
   rw [rounds_succ]
   go_wp2_with fail
   clear nx
   have HJ := Lib.hid (Lib.iterAt_heap V0 K ⟨#[120, 121, 122]⟩ 0 1 HI0.out)
   have AJ := Lib.hid (AG0.out.iterAt HK.out ⟨#[120, 121, 122]⟩ 1)
   clear HI0 AG0
   generalize V0.iterAt K ⟨#[120, 121, 122]⟩ 1 = U0 at *
   refine (X0.out _).mono ?_
   rintro e V0x ⟨rfl, rfl⟩
   have c0 := AJ.out.cell hlt
   have c1 := AJ.out.r1.free k
   have S := fun w => Lib.hid (implSomeA 120 (by simp) (idR k) w)
   go_wp2_with fail
   refine (S _).out.mono ?_
   rintro e w1 ⟨rfl, hb⟩
   clear c0 c1 S
   have HJ2 := Lib.hid ((hb.block K ((Array.getElem?_eq_some_iff.1 HJ.out).1)).trans HJ.out)
   have AJ2 := Lib.hid (AJ.out.kept hb)
   clear hb HJ AJ
   have c0 := AJ2.out.cell hlt
   have c1 := AJ2.out.r1.free k
   go_wp2_with fail
   clear c0 c1
   have HI1 := Lib.hid (it_set (g := w.heap.size + 1) (i := k) (v := .int .u32 (nb 27 (someF 120 (idR k)))) HJ2.out (by have := HK.out; omega))
   have AG1 := Lib.hid (AJ2.out.put hlt (someF 120 (idR k)))
   clear HJ2 AJ2
   obtain ⟨V1, hV⟩ : ∃ V, V = w1.setCell ⟨w.heap.size + 1, k, none⟩ (.int .u32 (nb 27 (someF 120 (idR k)))) := ⟨_, rfl⟩
   rw [← hV] at HI1 AG1 ⊢
   clear hV
   have nx : ∀ ty, (Instr.next (.pointer (some ⟨K, 0, none⟩)) true ty).run Tryz.prog V1 = .ok (.tuple #[.bool true, .int .i64 1, .int .i32 121]) (V1.iterAt K ⟨#[120, 121, 122]⟩ 2) := fun ty => Lib.run_next_ascii_at V1 K ⟨#[120, 121, 122]⟩ 1 ty HI1.out (by decide) (by decide)
   rw [rounds_succ]
   go_wp2_with fail
   clear nx
   have HJ := Lib.hid (Lib.iterAt_heap V1 K ⟨#[120, 121, 122]⟩ 1 2 HI1.out)
   have AJ := Lib.hid (AG1.out.iterAt HK.out ⟨#[120, 121, 122]⟩ 2)
   clear HI1 AG1
   generalize V1.iterAt K ⟨#[120, 121, 122]⟩ 2 = U1 at *
   refine (X1.out _).mono ?_
   rintro e V2x ⟨rfl, rfl⟩
   go_wp2_with fail
   have HI2 := HJ
   have AG2 := AJ
   clear HJ AJ
   generalize V2x = V2 at *
   have nx : ∀ ty, (Instr.next (.pointer (some ⟨K, 0, none⟩)) true ty).run Tryz.prog V2 = .ok (.tuple #[.bool true, .int .i64 2, .int .i32 122]) (V2.iterAt K ⟨#[120, 121, 122]⟩ 3) := fun ty => Lib.run_next_ascii_at V2 K ⟨#[120, 121, 122]⟩ 2 ty HI2.out (by decide) (by decide)
   rw [rounds_succ]
   go_wp2_with fail
   clear nx
   have HJ := Lib.hid (Lib.iterAt_heap V2 K ⟨#[120, 121, 122]⟩ 2 3 HI2.out)
   have AJ := Lib.hid (AG2.out.iterAt HK.out ⟨#[120, 121, 122]⟩ 3)
   clear HI2 AG2
   generalize V2.iterAt K ⟨#[120, 121, 122]⟩ 3 = U2 at *
   refine (X2.out _).mono ?_
   rintro e V2x ⟨rfl, rfl⟩
   have c0 := AJ.out.cell hlt
   have c1 := AJ.out.r1.free k
   have S := fun w => Lib.hid (implSomeA 122 (by simp) (someF 120 (idR k)) w)
   go_wp2_with fail
   refine (S _).out.mono ?_
   rintro e w1 ⟨rfl, hb⟩
   clear c0 c1 S
   have HJ2 := Lib.hid ((hb.block K ((Array.getElem?_eq_some_iff.1 HJ.out).1)).trans HJ.out)
   have AJ2 := Lib.hid (AJ.out.kept hb)
   clear hb HJ AJ
   have c0 := AJ2.out.cell hlt
   have c1 := AJ2.out.r1.free k
   go_wp2_with fail
   clear c0 c1
   have HI3 := Lib.hid (it_set (g := w.heap.size + 1) (i := k) (v := .int .u32 (nb 27 (someF 122 (someF 120 (idR k))))) HJ2.out (by have := HK.out; omega))
   have AG3 := Lib.hid (AJ2.out.put hlt (someF 122 (someF 120 (idR k))))
   clear HJ2 AJ2
   obtain ⟨V3, hV⟩ : ∃ V, V = w1.setCell ⟨w.heap.size + 1, k, none⟩ (.int .u32 (nb 27 (someF 122 (someF 120 (idR k))))) := ⟨_, rfl⟩
   rw [← hV] at HI3 AG3 ⊢
   clear hV
   have nx : ∀ ty, (Instr.next (.pointer (some ⟨K, 0, none⟩)) true ty).run Tryz.prog V3 = .ok (.tuple #[.bool false]) V3 := fun ty => Lib.run_next_end_at V3 K ⟨#[120, 121, 122]⟩ 3 ty HI3.out (by decide)
   rw [rounds_succ]
   go_wp2_with fail
   have E := AG3.out.r1
   rw [ag_end (A := A) (fun j hj => by have := AR.out k hlt j hj; simpa [stR] using this)] at E
   exact ⟨⟨k + 1, by omega, by go_num, Lib.hid E, Lib.hid AG3.out.r0, Lib.hid AG3.out.rb⟩, by simp [intOf]; omega⟩
  ·have hk2 : k = 27 := by omega
   subst hk2
   have RP := R1.out
   rw [mixR_all] at RP
   replace RP := Lib.hid RP
   go_wp2_with (first
    | (refine wpList_load_row rfl 68 _ rfl (w.heap.size + 1) (by rfl) 68 (relC .u32 A) (0, 0) _ RP.out undR rfl (infoR _) ?_)
    | (refine wpList_store_row rfl 68 _ _ rfl w.heap.size (relC .u32 A) (by rfl) (by rfl) 68 (relC .u32 noR) R0.out (infoR _) (by rw [relC_size, relC_size]) (relC_one _ _) ?_))
   exact bodyPost_ret (v := .agg (relC .u32 A)) (results_cell_row rfl _ _ w.heap.size 68 _ (0, 0) _ (by rfl) (R0.out.row _) undR rfl (infoR _)) rfl ⟨rfl, Below.setRow RB.out (Nat.le_refl _) _⟩
set_option maxRecDepth 100000 in
set_option maxHeartbeats 8000000 in
theorem agree_fft (s : ByteArray) (w : World)
  (x0 : ∀ w, Calls Tryz.prog 142 #[.string s, .int .i32 120] w fun e w' => e = .returned (.bool false) ∧ w' = w)
  (x1 : ∀ w, Calls Tryz.prog 142 #[.string s, .int .i32 121] w fun e w' => e = .returned (.bool false) ∧ w' = w)
  (x2 : ∀ w, Calls Tryz.prog 142 #[.string s, .int .i32 122] w fun e w' => e = .returned (.bool true) ∧ w' = w)
  : Calls Tryz.prog 73 #[.string s] w (RelPost (agF false false true) w) := by
 obtain ⟨k0, k1, kb, kz⟩ := two_blk w (relC .u32 noR) (relC .u32 noR) 68 68
 have K0 := Lib.hid k0
 have K1 := Lib.hid k1
 have KB := Lib.hid kb
 have X0 := Lib.hid x0
 have X1 := Lib.hid x1
 have X2 := Lib.hid x2
 have AR := Lib.hid (ag_row false false true)
 generalize hA : agF false false true = A at *
 clear hA
 clear k0 k1 kb kz x0 x1 x2
 go_enter Tryz.func73, Tryz.ntmps73
 go_wp2_with (first
  | (refine r_alloc rfl rfl (some 2) rfl w.heap.size rfl ?_)
  | (refine r_alloc rfl rfl (some 3) rfl (w.heap.size + 1) (by simp) ?_))
 generalize (w.alloc (.cells (relC .u32 noR) 68)).alloc (.cells (relC .u32 noR) 68) = w0 at *
 go_loopw [7] (fun i wr => ∃ k : Nat, k ≤ 27 ∧ i = .int .i64 k ∧ Hid (Blk wr (w.heap.size + 1) (relC .u32 (mixR k A noR)) 68) ∧ Hid (Blk wr w.heap.size (relC .u32 noR) 68) ∧ Hid (Below w.heap.size w wr)) (fun i _ => 27 - (intOf i).toNat)
 case atStart => exact ⟨0, by omega, rfl, by rw [mixR_zero]; exact K1, K0, KB⟩
 case round =>
  clear K0 K1 KB
  obtain ⟨k, hk, rfl, R1, R0, RB⟩ := hrel
  by_cases hlt : k < 27
  ·have c0 := mixR_cell R1.out hlt
   have c1 := R1.out.free k
   have D := fun w => Lib.hid (implWithB (noR k) k w hlt)
   rw [id_rowA] at D
   have RP := R1.out.set k (.int .u32 (nb 27 (idR k)))
   rw [relC_set hlt] at RP
   have AG := Lib.hid (show AgS w (wr.setCell ⟨w.heap.size + 1, k, none⟩ (.int .u32 (nb 27 (idR k)))) (mixR k A noR) k (idR k) from ⟨RP, R0.out.setOther (by show w.heap.size ≠ w.heap.size + 1; omega) _, RB.out.setCell (by show w.heap.size ≤ w.heap.size + 1; omega) _⟩)
   clear RP
   go_wp2_with fail
   refine (D _).out.mono ?_
   rintro e w2 ⟨rfl, rfl⟩
   have hsz := Lib.hid (show w.heap.size + 1 < (wr.setCell ⟨w.heap.size + 1, k, none⟩ (.int .u32 (nb 27 (idR k)))).heap.size from AG.out.r1.lt)
   go_wp2_with fail
   obtain ⟨W, hW⟩ : ∃ W, wr.setCell ⟨w.heap.size + 1, k, none⟩ (.int .u32 (nb 27 (idR k))) = W := ⟨_, rfl⟩
   have hz : wr.heap.size = W.heap.size := by rw [← hW]; simp
   rw [hW] at AG hsz ⊢
   rw [hz]
   clear hW hz c0 c1 D R1 R0 RB
   have HI0 := Lib.hid (World.iter_heap W ⟨#[120, 121, 122]⟩ 0)
   have AG0 := Lib.hid (AG.out.kept ((Below.refl _ W).alloc (Nat.le_refl _) (.stringIter ⟨#[120, 121, 122]⟩ 0)))
   rw [show W.alloc (.stringIter ⟨#[120, 121, 122]⟩ 0) = W.iter ⟨#[120, 121, 122]⟩ 0 from rfl] at AG0
   have HK := hsz
   clear hsz AG
   generalize W.iter ⟨#[120, 121, 122]⟩ 0 = V0 at *
   generalize W.heap.size = K at *
   refine wp_loop_rounds 4 ?_
   have nx : ∀ ty, (Instr.next (.pointer (some ⟨K, 0, none⟩)) true ty).run Tryz.prog V0 = .ok (.tuple #[.bool true, .int .i64 0, .int .i32 120]) (V0.iterAt K ⟨#[120, 121, 122]⟩ 1) := fun ty => Lib.run_next_ascii_at V0 K ⟨#[120, 121, 122]⟩ 0 ty HI0.out (by decide) (by decide)
   rw [rounds_succ]
   go_wp2_with fail
   clear nx
   have HJ := Lib.hid (Lib.iterAt_heap V0 K ⟨#[120, 121, 122]⟩ 0 1 HI0.out)
   have AJ := Lib.hid (AG0.out.iterAt HK.out ⟨#[120, 121, 122]⟩ 1)
   clear HI0 AG0
   generalize V0.iterAt K ⟨#[120, 121, 122]⟩ 1 = U0 at *
   refine (X0.out _).mono ?_
   rintro e V0x ⟨rfl, rfl⟩
   have c0 := AJ.out.cell hlt
   have c1 := AJ.out.r1.free k
   have S := fun w => Lib.hid (implSomeA 120 (by simp) (idR k) w)
   go_wp2_with fail
   refine (S _).out.mono ?_
   rintro e w1 ⟨rfl, hb⟩
   clear c0 c1 S
   have HJ2 := Lib.hid ((hb.block K ((Array.getElem?_eq_some_iff.1 HJ.out).1)).trans HJ.out)
   have AJ2 := Lib.hid (AJ.out.kept hb)
   clear hb HJ AJ
   have c0 := AJ2.out.cell hlt
   have c1 := AJ2.out.r1.free k
   go_wp2_with fail
   clear c0 c1
   have HI1 := Lib.hid (it_set (g := w.heap.size + 1) (i := k) (v := .int .u32 (nb 27 (someF 120 (idR k)))) HJ2.out (by have := HK.out; omega))
   have AG1 := Lib.hid (AJ2.out.put hlt (someF 120 (idR k)))
   clear HJ2 AJ2
   obtain ⟨V1, hV⟩ : ∃ V, V = w1.setCell ⟨w.heap.size + 1, k, none⟩ (.int .u32 (nb 27 (someF 120 (idR k)))) := ⟨_, rfl⟩
   rw [← hV] at HI1 AG1 ⊢
   clear hV
   have nx : ∀ ty, (Instr.next (.pointer (some ⟨K, 0, none⟩)) true ty).run Tryz.prog V1 = .ok (.tuple #[.bool true, .int .i64 1, .int .i32 121]) (V1.iterAt K ⟨#[120, 121, 122]⟩ 2) := fun ty => Lib.run_next_ascii_at V1 K ⟨#[120, 121, 122]⟩ 1 ty HI1.out (by decide) (by decide)
   rw [rounds_succ]
   go_wp2_with fail
   clear nx
   have HJ := Lib.hid (Lib.iterAt_heap V1 K ⟨#[120, 121, 122]⟩ 1 2 HI1.out)
   have AJ := Lib.hid (AG1.out.iterAt HK.out ⟨#[120, 121, 122]⟩ 2)
   clear HI1 AG1
   generalize V1.iterAt K ⟨#[120, 121, 122]⟩ 2 = U1 at *
   refine (X1.out _).mono ?_
   rintro e V1x ⟨rfl, rfl⟩
   have c0 := AJ.out.cell hlt
   have c1 := AJ.out.r1.free k
   have S := fun w => Lib.hid (implSomeA 121 (by simp) (someF 120 (idR k)) w)
   go_wp2_with fail
   refine (S _).out.mono ?_
   rintro e w1 ⟨rfl, hb⟩
   clear c0 c1 S
   have HJ2 := Lib.hid ((hb.block K ((Array.getElem?_eq_some_iff.1 HJ.out).1)).trans HJ.out)
   have AJ2 := Lib.hid (AJ.out.kept hb)
   clear hb HJ AJ
   have c0 := AJ2.out.cell hlt
   have c1 := AJ2.out.r1.free k
   go_wp2_with fail
   clear c0 c1
   have HI2 := Lib.hid (it_set (g := w.heap.size + 1) (i := k) (v := .int .u32 (nb 27 (someF 121 (someF 120 (idR k))))) HJ2.out (by have := HK.out; omega))
   have AG2 := Lib.hid (AJ2.out.put hlt (someF 121 (someF 120 (idR k))))
   clear HJ2 AJ2
   obtain ⟨V2, hV⟩ : ∃ V, V = w1.setCell ⟨w.heap.size + 1, k, none⟩ (.int .u32 (nb 27 (someF 121 (someF 120 (idR k))))) := ⟨_, rfl⟩
   rw [← hV] at HI2 AG2 ⊢
   clear hV
   have nx : ∀ ty, (Instr.next (.pointer (some ⟨K, 0, none⟩)) true ty).run Tryz.prog V2 = .ok (.tuple #[.bool true, .int .i64 2, .int .i32 122]) (V2.iterAt K ⟨#[120, 121, 122]⟩ 3) := fun ty => Lib.run_next_ascii_at V2 K ⟨#[120, 121, 122]⟩ 2 ty HI2.out (by decide) (by decide)
   rw [rounds_succ]
   go_wp2_with fail
   clear nx
   have HJ := Lib.hid (Lib.iterAt_heap V2 K ⟨#[120, 121, 122]⟩ 2 3 HI2.out)
   have AJ := Lib.hid (AG2.out.iterAt HK.out ⟨#[120, 121, 122]⟩ 3)
   clear HI2 AG2
   generalize V2.iterAt K ⟨#[120, 121, 122]⟩ 3 = U2 at *
   refine (X2.out _).mono ?_
   rintro e V3x ⟨rfl, rfl⟩
   go_wp2_with fail
   have HI3 := HJ
   have AG3 := AJ
   clear HJ AJ
   generalize V3x = V3 at *
   have nx : ∀ ty, (Instr.next (.pointer (some ⟨K, 0, none⟩)) true ty).run Tryz.prog V3 = .ok (.tuple #[.bool false]) V3 := fun ty => Lib.run_next_end_at V3 K ⟨#[120, 121, 122]⟩ 3 ty HI3.out (by decide)
   rw [rounds_succ]
   go_wp2_with fail
   have E := AG3.out.r1
   rw [ag_end (A := A) (fun j hj => by have := AR.out k hlt j hj; simpa [stR] using this)] at E
   exact ⟨⟨k + 1, by omega, by go_num, Lib.hid E, Lib.hid AG3.out.r0, Lib.hid AG3.out.rb⟩, by simp [intOf]; omega⟩
  ·have hk2 : k = 27 := by omega
   subst hk2
   have RP := R1.out
   rw [mixR_all] at RP
   replace RP := Lib.hid RP
   go_wp2_with (first
    | (refine wpList_load_row rfl 68 _ rfl (w.heap.size + 1) (by rfl) 68 (relC .u32 A) (0, 0) _ RP.out undR rfl (infoR _) ?_)
    | (refine wpList_store_row rfl 68 _ _ rfl w.heap.size (relC .u32 A) (by rfl) (by rfl) 68 (relC .u32 noR) R0.out (infoR _) (by rw [relC_size, relC_size]) (relC_one _ _) ?_))
   exact bodyPost_ret (v := .agg (relC .u32 A)) (results_cell_row rfl _ _ w.heap.size 68 _ (0, 0) _ (by rfl) (R0.out.row _) undR rfl (infoR _)) rfl ⟨rfl, Below.setRow RB.out (Nat.le_refl _) _⟩
set_option maxRecDepth 100000 in
set_option maxHeartbeats 8000000 in
theorem agree_fff (s : ByteArray) (w : World)
  (x0 : ∀ w, Calls Tryz.prog 142 #[.string s, .int .i32 120] w fun e w' => e = .returned (.bool false) ∧ w' = w)
  (x1 : ∀ w, Calls Tryz.prog 142 #[.string s, .int .i32 121] w fun e w' => e = .returned (.bool false) ∧ w' = w)
  (x2 : ∀ w, Calls Tryz.prog 142 #[.string s, .int .i32 122] w fun e w' => e = .returned (.bool false) ∧ w' = w)
  : Calls Tryz.prog 73 #[.string s] w (RelPost (agF false false false) w) := by
 obtain ⟨k0, k1, kb, kz⟩ := two_blk w (relC .u32 noR) (relC .u32 noR) 68 68
 have K0 := Lib.hid k0
 have K1 := Lib.hid k1
 have KB := Lib.hid kb
 have X0 := Lib.hid x0
 have X1 := Lib.hid x1
 have X2 := Lib.hid x2
 have AR := Lib.hid (ag_row false false false)
 generalize hA : agF false false false = A at *
 clear hA
 clear k0 k1 kb kz x0 x1 x2
 go_enter Tryz.func73, Tryz.ntmps73
 go_wp2_with (first
  | (refine r_alloc rfl rfl (some 2) rfl w.heap.size rfl ?_)
  | (refine r_alloc rfl rfl (some 3) rfl (w.heap.size + 1) (by simp) ?_))
 generalize (w.alloc (.cells (relC .u32 noR) 68)).alloc (.cells (relC .u32 noR) 68) = w0 at *
 go_loopw [7] (fun i wr => ∃ k : Nat, k ≤ 27 ∧ i = .int .i64 k ∧ Hid (Blk wr (w.heap.size + 1) (relC .u32 (mixR k A noR)) 68) ∧ Hid (Blk wr w.heap.size (relC .u32 noR) 68) ∧ Hid (Below w.heap.size w wr)) (fun i _ => 27 - (intOf i).toNat)
 case atStart => exact ⟨0, by omega, rfl, by rw [mixR_zero]; exact K1, K0, KB⟩
 case round =>
  clear K0 K1 KB
  obtain ⟨k, hk, rfl, R1, R0, RB⟩ := hrel
  by_cases hlt : k < 27
  ·have c0 := mixR_cell R1.out hlt
   have c1 := R1.out.free k
   have D := fun w => Lib.hid (implWithB (noR k) k w hlt)
   rw [id_rowA] at D
   have RP := R1.out.set k (.int .u32 (nb 27 (idR k)))
   rw [relC_set hlt] at RP
   have AG := Lib.hid (show AgS w (wr.setCell ⟨w.heap.size + 1, k, none⟩ (.int .u32 (nb 27 (idR k)))) (mixR k A noR) k (idR k) from ⟨RP, R0.out.setOther (by show w.heap.size ≠ w.heap.size + 1; omega) _, RB.out.setCell (by show w.heap.size ≤ w.heap.size + 1; omega) _⟩)
   clear RP
   go_wp2_with fail
   refine (D _).out.mono ?_
   rintro e w2 ⟨rfl, rfl⟩
   have hsz := Lib.hid (show w.heap.size + 1 < (wr.setCell ⟨w.heap.size + 1, k, none⟩ (.int .u32 (nb 27 (idR k)))).heap.size from AG.out.r1.lt)
   go_wp2_with fail
   obtain ⟨W, hW⟩ : ∃ W, wr.setCell ⟨w.heap.size + 1, k, none⟩ (.int .u32 (nb 27 (idR k))) = W := ⟨_, rfl⟩
   have hz : wr.heap.size = W.heap.size := by rw [← hW]; simp
   rw [hW] at AG hsz ⊢
   rw [hz]
   clear hW hz c0 c1 D R1 R0 RB
   have HI0 := Lib.hid (World.iter_heap W ⟨#[120, 121, 122]⟩ 0)
   have AG0 := Lib.hid (AG.out.kept ((Below.refl _ W).alloc (Nat.le_refl _) (.stringIter ⟨#[120, 121, 122]⟩ 0)))
   rw [show W.alloc (.stringIter ⟨#[120, 121, 122]⟩ 0) = W.iter ⟨#[120, 121, 122]⟩ 0 from rfl] at AG0
   have HK := hsz
   clear hsz AG
   generalize W.iter ⟨#[120, 121, 122]⟩ 0 = V0 at *
   generalize W.heap.size = K at *
   refine wp_loop_rounds 4 ?_
   have nx : ∀ ty, (Instr.next (.pointer (some ⟨K, 0, none⟩)) true ty).run Tryz.prog V0 = .ok (.tuple #[.bool true, .int .i64 0, .int .i32 120]) (V0.iterAt K ⟨#[120, 121, 122]⟩ 1) := fun ty => Lib.run_next_ascii_at V0 K ⟨#[120, 121, 122]⟩ 0 ty HI0.out (by decide) (by decide)
   rw [rounds_succ]
   go_wp2_with fail
   clear nx
   have HJ := Lib.hid (Lib.iterAt_heap V0 K ⟨#[120, 121, 122]⟩ 0 1 HI0.out)
   have AJ := Lib.hid (AG0.out.iterAt HK.out ⟨#[120, 121, 122]⟩ 1)
   clear HI0 AG0
   generalize V0.iterAt K ⟨#[120, 121, 122]⟩ 1 = U0 at *
   refine (X0.out _).mono ?_
   rintro e V0x ⟨rfl, rfl⟩
   have c0 := AJ.out.cell hlt
   have c1 := AJ.out.r1.free k
   have S := fun w => Lib.hid (implSomeA 120 (by simp) (idR k) w)
   go_wp2_with fail
   refine (S _).out.mono ?_
   rintro e w1 ⟨rfl, hb⟩
   clear c0 c1 S
   have HJ2 := Lib.hid ((hb.block K ((Array.getElem?_eq_some_iff.1 HJ.out).1)).trans HJ.out)
   have AJ2 := Lib.hid (AJ.out.kept hb)
   clear hb HJ AJ
   have c0 := AJ2.out.cell hlt
   have c1 := AJ2.out.r1.free k
   go_wp2_with fail
   clear c0 c1
   have HI1 := Lib.hid (it_set (g := w.heap.size + 1) (i := k) (v := .int .u32 (nb 27 (someF 120 (idR k)))) HJ2.out (by have := HK.out; omega))
   have AG1 := Lib.hid (AJ2.out.put hlt (someF 120 (idR k)))
   clear HJ2 AJ2
   obtain ⟨V1, hV⟩ : ∃ V, V = w1.setCell ⟨w.heap.size + 1, k, none⟩ (.int .u32 (nb 27 (someF 120 (idR k)))) := ⟨_, rfl⟩
   rw [← hV] at HI1 AG1 ⊢
   clear hV
   have nx : ∀ ty, (Instr.next (.pointer (some ⟨K, 0, none⟩)) true ty).run Tryz.prog V1 = .ok (.tuple #[.bool true, .int .i64 1, .int .i32 121]) (V1.iterAt K ⟨#[120, 121, 122]⟩ 2) := fun ty => Lib.run_next_ascii_at V1 K ⟨#[120, 121, 122]⟩ 1 ty HI1.out (by decide) (by decide)
   rw [rounds_succ]
   go_wp2_with fail
   clear nx
   have HJ := Lib.hid (Lib.iterAt_heap V1 K ⟨#[120, 121, 122]⟩ 1 2 HI1.out)
   have AJ := Lib.hid (AG1.out.iterAt HK.out ⟨#[120, 121, 122]⟩ 2)
   clear HI1 AG1
   generalize V1.iterAt K ⟨#[120, 121, 122]⟩ 2 = U1 at *
   refine (X1.out _).mono ?_
   rintro e V1x ⟨rfl, rfl⟩
   have c0 := AJ.out.cell hlt
   have c1 := AJ.out.r1.free k
   have S := fun w => Lib.hid (implSomeA 121 (by simp) (someF 120 (idR k)) w)
   go_wp2_with fail
   refine (S _).out.mono ?_
   rintro e w1 ⟨rfl, hb⟩
   clear c0 c1 S
   have HJ2 := Lib.hid ((hb.block K ((Array.getElem?_eq_some_iff.1 HJ.out).1)).trans HJ.out)
   have AJ2 := Lib.hid (AJ.out.kept hb)
   clear hb HJ AJ
   have c0 := AJ2.out.cell hlt
   have c1 := AJ2.out.r1.free k
   go_wp2_with fail
   clear c0 c1
   have HI2 := Lib.hid (it_set (g := w.heap.size + 1) (i := k) (v := .int .u32 (nb 27 (someF 121 (someF 120 (idR k))))) HJ2.out (by have := HK.out; omega))
   have AG2 := Lib.hid (AJ2.out.put hlt (someF 121 (someF 120 (idR k))))
   clear HJ2 AJ2
   obtain ⟨V2, hV⟩ : ∃ V, V = w1.setCell ⟨w.heap.size + 1, k, none⟩ (.int .u32 (nb 27 (someF 121 (someF 120 (idR k))))) := ⟨_, rfl⟩
   rw [← hV] at HI2 AG2 ⊢
   clear hV
   have nx : ∀ ty, (Instr.next (.pointer (some ⟨K, 0, none⟩)) true ty).run Tryz.prog V2 = .ok (.tuple #[.bool true, .int .i64 2, .int .i32 122]) (V2.iterAt K ⟨#[120, 121, 122]⟩ 3) := fun ty => Lib.run_next_ascii_at V2 K ⟨#[120, 121, 122]⟩ 2 ty HI2.out (by decide) (by decide)
   rw [rounds_succ]
   go_wp2_with fail
   clear nx
   have HJ := Lib.hid (Lib.iterAt_heap V2 K ⟨#[120, 121, 122]⟩ 2 3 HI2.out)
   have AJ := Lib.hid (AG2.out.iterAt HK.out ⟨#[120, 121, 122]⟩ 3)
   clear HI2 AG2
   generalize V2.iterAt K ⟨#[120, 121, 122]⟩ 3 = U2 at *
   refine (X2.out _).mono ?_
   rintro e V2x ⟨rfl, rfl⟩
   have c0 := AJ.out.cell hlt
   have c1 := AJ.out.r1.free k
   have S := fun w => Lib.hid (implSomeA 122 (by simp) (someF 121 (someF 120 (idR k))) w)
   go_wp2_with fail
   refine (S _).out.mono ?_
   rintro e w1 ⟨rfl, hb⟩
   clear c0 c1 S
   have HJ2 := Lib.hid ((hb.block K ((Array.getElem?_eq_some_iff.1 HJ.out).1)).trans HJ.out)
   have AJ2 := Lib.hid (AJ.out.kept hb)
   clear hb HJ AJ
   have c0 := AJ2.out.cell hlt
   have c1 := AJ2.out.r1.free k
   go_wp2_with fail
   clear c0 c1
   have HI3 := Lib.hid (it_set (g := w.heap.size + 1) (i := k) (v := .int .u32 (nb 27 (someF 122 (someF 121 (someF 120 (idR k)))))) HJ2.out (by have := HK.out; omega))
   have AG3 := Lib.hid (AJ2.out.put hlt (someF 122 (someF 121 (someF 120 (idR k)))))
   clear HJ2 AJ2
   obtain ⟨V3, hV⟩ : ∃ V, V = w1.setCell ⟨w.heap.size + 1, k, none⟩ (.int .u32 (nb 27 (someF 122 (someF 121 (someF 120 (idR k)))))) := ⟨_, rfl⟩
   rw [← hV] at HI3 AG3 ⊢
   clear hV
   have nx : ∀ ty, (Instr.next (.pointer (some ⟨K, 0, none⟩)) true ty).run Tryz.prog V3 = .ok (.tuple #[.bool false]) V3 := fun ty => Lib.run_next_end_at V3 K ⟨#[120, 121, 122]⟩ 3 ty HI3.out (by decide)
   rw [rounds_succ]
   go_wp2_with fail
   have E := AG3.out.r1
   rw [ag_end (A := A) (fun j hj => by have := AR.out k hlt j hj; simpa [stR] using this)] at E
   exact ⟨⟨k + 1, by omega, by go_num, Lib.hid E, Lib.hid AG3.out.r0, Lib.hid AG3.out.rb⟩, by simp [intOf]; omega⟩
  ·have hk2 : k = 27 := by omega
   subst hk2
   have RP := R1.out
   rw [mixR_all] at RP
   replace RP := Lib.hid RP
   go_wp2_with (first
    | (refine wpList_load_row rfl 68 _ rfl (w.heap.size + 1) (by rfl) 68 (relC .u32 A) (0, 0) _ RP.out undR rfl (infoR _) ?_)
    | (refine wpList_store_row rfl 68 _ _ rfl w.heap.size (relC .u32 A) (by rfl) (by rfl) 68 (relC .u32 noR) R0.out (infoR _) (by rw [relC_size, relC_size]) (relC_one _ _) ?_))
   exact bodyPost_ret (v := .agg (relC .u32 A)) (results_cell_row rfl _ _ w.heap.size 68 _ (0, 0) _ (by rfl) (R0.out.row _) undR rfl (infoR _)) rfl ⟨rfl, Below.setRow RB.out (Nat.le_refl _) _⟩
def hasL (s : ByteArray) (c : UInt8) : Bool := decide (0 ≤ fnd s.data.toList c)
theorem agree_of (s : ByteArray) (w : World) : Calls Tryz.prog 73 #[.string s] w (RelPost (agF (hasL s 120) (hasL s 121) (hasL s 122)) w) := by
 have X0 := fun w => contains_at s 120 (by decide) (hasL s 120) rfl w
 have X1 := fun w => contains_at s 121 (by decide) (hasL s 121) rfl w
 have X2 := fun w => contains_at s 122 (by decide) (hasL s 122) rfl w
 generalize hasL s 120 = b0 at *
 generalize hasL s 121 = b1 at *
 generalize hasL s 122 = b2 at *
 cases b0 <;> cases b1 <;> cases b2
 ·exact agree_fff s w X0 X1 X2
 ·exact agree_fft s w X0 X1 X2
 ·exact agree_ftf s w X0 X1 X2
 ·exact agree_ftt s w X0 X1 X2
 ·exact agree_tff s w X0 X1 X2
 ·exact agree_tft s w X0 X1 X2
 ·exact agree_ttf s w X0 X1 X2
 ·exact agree_ttt s w X0 X1 X2
def agTm : List UInt8 → Tm
 | [] => .leaf 116
 | c :: l => .bin 38 (.bin 61 (.leaf c) (.leaf (c - 32))) (agTm l)
def IsV3 (c : UInt8) : Prop := c = 120 ∨ c = 121 ∨ c = 122
theorem agTm_ok : ∀ (l : List UInt8), (∀ c, c ∈ l → IsV3 c) → Ok true true (agTm l)
 | [], _ => rfl
 | c :: l, h => by
  have h0 := h c (by simp)
  refine ⟨true, true, rfl, ⟨false, false, rfl, ?_, ?_⟩, agTm_ok l fun d hd => h d (by simp [hd])⟩
  ·rcases h0 with rfl | rfl | rfl <;> rfl
  ·rcases h0 with rfl | rfl | rfl <;> rfl
theorem ext_oneA (N : ByteArray) (m : Nat) (h : m < N.size) : ∃ c, c ∈ N.data.toList ∧ N.extract m (m + 1) = ⟨#[c]⟩ ∧ N.data.toList.drop m = c :: N.data.toList.drop (m + 1) := by
 obtain ⟨⟨l⟩⟩ := N
 have h' : m < l.length := h
 refine ⟨l[m], List.getElem_mem h', ?_, List.drop_eq_getElem_cons h'⟩
 apply ByteArray.ext
 rw [ByteArray.data_extract]
 apply Array.ext'
 show (l.toArray.extract m (m + 1)).toList = [l[m]]
 rw [Array.toList_extract]
 show (l.drop m).take (m + 1 - m) = [l[m]]
 rw [List.drop_eq_getElem_cons h', Nat.add_sub_cancel_left]
 rfl
theorem bszA (N : ByteArray) : N.size = N.data.toList.length := by cases N; rfl
theorem dnA (m : Nat) : (m = 0 ∧ Value.int .i64 ((m : Int) - 1) = .int .i64 (-1)) ∨ ∃ n : Nat, m = n + 1 ∧ Value.int .i64 ((m : Int) - 1) = .int .i64 n := by
 cases m with
 | zero => exact .inl ⟨rfl, rfl⟩
 | succ n => exact .inr ⟨n, rfl, by congr 1; omega⟩
theorem sz6A {n s m : Nat} (hm : m + 1 ≤ n) (hs : s ≤ 100) : (min (m + 1) n - m = 1) ∧ (¬ 9223372036854775807 < 2 + (min (m + 1) n - m)) ∧ (¬ 9223372036854775807 < 2 + (min (m + 1) n - m) + 1) ∧ (¬ 9223372036854775807 < 2 + (min (m + 1) n - m) + 1 + s) ∧ (¬ 9223372036854775807 < 2 + 1) ∧ (¬ 9223372036854775807 < 2 + 1 + 1) ∧ (¬ 9223372036854775807 < 2 + 1 + 1 + s) := by omega
set_option maxRecDepth 100000 in
set_option maxHeartbeats 4000000 in
theorem agree_txt (N : ByteArray) (hN : N.size ≤ 3) (hv : ∀ c, c ∈ N.data.toList → IsV3 c) (w : World) : Calls Tryz.prog 138 #[.string N] w fun e w' => ∃ s : ByteArray, s.data.toList = (agTm N.data.toList).ser ∧ s.size = 1 + 4 * N.size ∧ e = .returned (.string s) ∧ Below w.heap.size w w' := by
 have HV := Lib.hid hv
 have ew : IntKind.i64.wrap ((N.size : Int) - 1) = (N.size : Int) - 1 := IntWalk.i64_in _ (by omega)
 clear hv
 have HB0 := Lib.hid (Below.refl w.heap.size w)
 go_enter Tryz.func138, Tryz.ntmps138
 go_wp2_with fail
 go_loopw [3, 4, 5] (fun o i _ wr => ∃ (k : Nat) (s : ByteArray), k ≤ N.size ∧ ((k = 0 ∧ i = .int .i64 (-1)) ∨ ∃ m : Nat, k = m + 1 ∧ i = .int .i64 m) ∧ o = .string s ∧ s.size + 4 * k = 1 + 4 * N.size ∧ Hid (s.data.toList = (agTm (N.data.toList.drop k)).ser) ∧ Hid (Below w.heap.size w wr)) (fun _ i _ _ => (intOf i + 1).toNat)
 case atStart => exact ⟨N.size, ⟨#[116]⟩, Nat.le_refl _, dnA _, rfl, rfl, by rw [bszA N, List.drop_length]; exact rfl, HB0⟩
 case round =>
  clear HB0
  obtain ⟨k, s, hk, hi, rfl, hs, HX, HB⟩ := hrel
  rcases hi with ⟨h0, rfl⟩ | ⟨m, rfl, rfl⟩
  ·go_wp2_with fail
   go_ret
   exact ⟨s, by have := HX.out; rwa [h0, List.drop_zero] at this, by omega, rfl, HB.out⟩
  ·obtain ⟨c, hc, ec, ed0⟩ := ext_oneA N m hk
   have h3 := HV.out c hc
   have ex : ∃ (j : Nat) (d : UInt8), d = c - 32 ∧ j ≤ 2 ∧ (⟨#[88, 89, 90]⟩ : ByteArray).extract j (j + 1) = ⟨#[d]⟩ ∧ ((c = 120 ∧ j = 0) ∨ (c = 121 ∧ j = 1) ∨ (c = 122 ∧ j = 2)) := by
    rcases h3 with rfl | rfl | rfl
    ·exact ⟨0, 88, by decide, by omega, by decide +kernel, by simp⟩
    ·exact ⟨1, 89, by decide, by omega, by decide +kernel, by simp⟩
    ·exact ⟨2, 90, by decide, by omega, by decide +kernel, by simp⟩
   obtain ⟨j, d, h2, hj, ed, hcj⟩ := ex
   have C := fun w => Lib.hid (specVar_yes c j w hcj)
   rw [← ec] at C
   have EC := Lib.hid ec
   have ED := Lib.hid ed
   have H2 := Lib.hid h2
   have E0 := Lib.hid ed0
   have hm2 : (m : Int) + 1 ≤ (N.size : Int) := by omega
   have ew2 : IntKind.i64.wrap ((m : Int) + 1) = (m : Int) + 1 := IntWalk.i64_in _ (by omega)
   have ew3 : IntKind.i64.wrap ((m : Int) - 1) = (m : Int) - 1 := IntWalk.i64_in _ (by omega)
   have ew4 : IntKind.i64.wrap ((j : Int) + 1) = (j : Int) + 1 := IntWalk.i64_in _ (by omega)
   have hj3 : (j : Int) + 1 ≤ 3 := by omega
   obtain ⟨z0, z1, z2, z3, z4, z5, z6⟩ := sz6A hk (show s.size ≤ 100 by omega)
   clear ec ed h2 hcj hc h3 ed0
   go_wp2_with fail
   refine (C _).out.mono ?_
   rintro e w2 ⟨rfl, rfl⟩
   go_wp2_with fail
   go_quiet (fail)
   go_wp2_with fail
   refine ⟨⟨m, _, by omega, dnA m, rfl, ?_, ?_, Lib.hid (bdrewN HB.out nq)⟩, by simp [intOf] <;> omega⟩
   ·rw [EC.out, ED.out]; simp only [ByteArray.size_append]; show 2 + 1 + 1 + s.size + _ = _; omega
   ·rw [EC.out, ED.out, E0.out, H2.out]
    exact Lib.hid (by simp [agTm, Tm.ser, ByteArray.data_append, HX.out])
def AgV (s : ByteArray) : Prop := vlist [120, 121, 122] s.data.toList = s.data.toList
def agRel (s : ByteArray) : Nat → Nat → Bool := agF (hasL s 120) (hasL s 121) (hasL s 122)
def ltr (b : Bool) (c : UInt8) : List UInt8 := if b then [c] else []
theorem AgV.list {s : ByteArray} (h : AgV s) : s.data.toList = ltr (hasL s 120) 120 ++ (ltr (hasL s 121) 121 ++ ltr (hasL s 122) 122) := by
 refine h.symm.trans ?_
 unfold vlist ltr hasL
 simp only [List.filter_cons, List.filter_nil]
 generalize decide (0 ≤ fnd s.data.toList 120) = b0
 generalize decide (0 ≤ fnd s.data.toList 121) = b1
 generalize decide (0 ≤ fnd s.data.toList 122) = b2
 cases b0 <;> cases b1 <;> cases b2 <;> rfl
theorem AgV.facts {s : ByteArray} (h : AgV s) : s.size ≤ 3 ∧ (∀ c, c ∈ s.data.toList → IsV3 c) := by
 have e := h.list
 have hz : s.size = s.data.toList.length := bszA s
 rw [hz, e]
 generalize hasL s 120 = b0
 generalize hasL s 121 = b1
 generalize hasL s 122 = b2
 cases b0 <;> cases b1 <;> cases b2 <;> simp [ltr, IsV3]
theorem wdR_of (b0 b1 b2 : Bool) : ∀ i, i < 27 → ∀ j, j < 27 → wdR (agTm (ltr b0 120 ++ (ltr b1 121 ++ ltr b2 122))) i j = agF b0 b1 b2 i j := by
 cases b0 <;> cases b1 <;> cases b2 <;> decide +kernel
theorem AgV.wd {s : ByteArray} (h : AgV s) : ∀ i, i < 27 → ∀ j, j < 27 → wdR (agTm s.data.toList) i j = agRel s i j := by
 intro i hi j hj
 rw [h.list]
 exact wdR_of _ _ _ i hi j hj
theorem eqAg (s : ByteArray) {b : Bool} (h : ((bs (vlist [120, 121, 122] s.data.toList)).toList == s.toList) = b) : b = true ↔ AgV s := by
 cases b with
 | true =>
  have e := congrArg (fun z : ByteArray => z.data.toList) (bytes_t h)
  exact ⟨fun _ => by simpa [bs, AgV] using e, fun _ => rfl⟩
 | false =>
  refine ⟨fun h => (by cases h), fun k => ?_⟩
  exfalso
  refine bytes_f h ?_
  apply ByteArray.ext
  apply Array.ext'
  simpa [bs, AgV] using k
set_option maxHeartbeats 2000000 in
theorem specLt (s : ByteArray) (hs : s.size ≤ maxLen) : ∃ b : Bool, (b = true ↔ AgV s) ∧ ∀ w, Calls Tryz.prog 136 #[.string s] w fun e w' => e = .returned (.bool b) ∧ w = w' := by
 refine ⟨_, eqAg s rfl, fun w => ?_⟩
 have C := fun w => Lib.hid (specVars false s w hs)
 rw [show (nm false).data.toList = [120, 121, 122] from rfl] at C
 generalize bs (vlist [120, 121, 122] s.data.toList) = v at *
 go_enter Tryz.func136, Tryz.ntmps136
 go_wp2_with fail
 refine (C _).out.mono ?_
 rintro e w' ⟨rfl, rfl⟩
 go_wp2_with fail
 go_ret
 exact ⟨rfl, rfl⟩
set_option maxHeartbeats 2000000 in
theorem specAg_yes (s : ByteArray) (h : AgV s) (hs : s.size ≤ maxLen) (w : World) : Calls Tryz.prog 70 #[.string s] w fun e w' => e = .returned (.tuple #[.string (bs (relT (agRel s))), .bool true]) ∧ Below w.heap.size w w' := by
 obtain ⟨b, hb, c1⟩ := specLt s hs
 obtain rfl := hb.2 h
 obtain ⟨hz, hv⟩ := h.facts
 have C1 := Lib.hid c1
 have C2 := fun w => Lib.hid (agree_txt s hz hv w)
 have C3 := fun (t : ByteArray) (w : World) (k : t.data.toList = (agTm s.data.toList).ser) (kl : t.size ≤ 200) => Lib.hid (specRelOf_yes t w (agTm_ok _ hv) k kl)
 have ER : relT (wdR (agTm s.data.toList)) = relT (agRel s) := relT_congr h.wd
 rw [ER] at C3
 replace C3 := Lib.hid C3
 clear c1 hb ER h hv
 generalize agTm s.data.toList = T at *
 generalize relT (agRel s) = R at *
 go_enter Tryz.func70, Tryz.ntmps70
 go_wp2_with fail
 refine (C1.out _).mono ?_
 rintro e w' ⟨rfl, rfl⟩
 go_wp2_with fail
 refine (C2 _).out.mono ?_
 rintro e w2 ⟨t, ht, hl, rfl, hb⟩
 have HB := Lib.hid hb
 have C4 := fun w => C3.out t w ht (by omega)
 clear hb ht
 go_wp2_with fail
 refine (C4 _).out.mono ?_
 rintro e w3 ⟨rfl, hb⟩
 have HB2 := Lib.hid (bnext HB.out hb)
 clear hb
 go_wp2_with fail
 go_ret2
 exact ⟨rfl, HB2.out⟩
set_option maxHeartbeats 2000000 in
theorem specAg_no (s : ByteArray) (h : ¬ AgV s) (hs : s.size ≤ maxLen) (w : World) : Calls Tryz.prog 70 #[.string s] w fun e w' => e = .returned (.tuple #[.string ⟨#[]⟩, .bool false]) ∧ Below w.heap.size w w' := by
 obtain ⟨b, hb, c1⟩ := specLt s hs
 obtain rfl : b = false := by cases b with | false => rfl | true => exact absurd (hb.1 rfl) h
 have C1 := Lib.hid c1
 clear c1 hb
 go_enter Tryz.func70, Tryz.ntmps70
 go_wp2_with fail
 refine (C1.out _).mono ?_
 rintro e w' ⟨rfl, rfl⟩
 go_wp2_with fail
 go_ret2
 exact ⟨rfl, Below.refl _ _⟩
theorem contains_one (s : ByteArray) (c : UInt8) (w : World) : Calls Tryz.prog 176 #[.string s, .string ⟨#[c]⟩] w fun e w' => e = .returned (.bool (hasL s c)) ∧ w' = w := by
 refine (Tryz.strings_Contains_one s c w).mono fun e w' ⟨h1, h2⟩ => ⟨?_, h2⟩
 rw [h1, indexByte_fnd]
 rfl
structure VnS (w V : World) (g : Nat) (s : ByteArray) : Prop where
 r0 : Blk V g #[.string s] 9
 rb : Below w.heap.size w V
theorem VnS.iterAt {w V : World} {g : Nat} {s : ByteArray} (h : VnS w V g s) {K : Nat} (hK : g < K) (hw : w.heap.size ≤ K) (x : ByteArray) (p : Nat) : VnS w (V.iterAt K x p) g s :=
 ⟨(Lib.iterAt_other V K _ x p (by omega)).trans h.r0, Lib.below_iterAt h.rb hw x p⟩
theorem vlist3h (s : ByteArray) : vlist [120, 121, 122] s.data.toList = ltr (hasL s 120) 120 ++ (ltr (hasL s 121) 121 ++ ltr (hasL s 122) 122) := by
 unfold vlist ltr hasL
 simp only [List.filter_cons, List.filter_nil]
 generalize decide (0 ≤ fnd s.data.toList 120) = b0
 generalize decide (0 ≤ fnd s.data.toList 121) = b1
 generalize decide (0 ≤ fnd s.data.toList 122) = b2
 cases b0 <;> cases b1 <;> cases b2 <;> rfl
set_option maxHeartbeats 4000000 in
theorem cl_in (s v : ByteArray) (b : Bool) (g : Nat) (w : World) (hg : Blk w g #[.string s] 9) (x : ∀ w, Calls Tryz.prog 176 #[.string s, .string v] w fun e w' => e = .returned (.bool b) ∧ w' = w) :
  Calls Tryz.prog 177 #[.string v, .pointer (some ⟨g, 0, none⟩)] w fun e w' => e = .returned (.bool b) ∧ w' = w := by
 have X := Lib.hid x
 have q0 := hg.c1
 clear x hg
 go_enter Tryz.func177, Tryz.ntmps177
 go_wp2_with fail
 refine (X.out _).mono ?_
 rintro e w' ⟨rfl, rfl⟩
 go_wp2_with fail
 go_ret
 exact ⟨rfl, rfl⟩
set_option maxRecDepth 100000 in
set_option maxHeartbeats 8000000 in
theorem vw_in (s : ByteArray) (b0 b1 b2 : Bool) (g : Nat) (w : World) (hg : Blk w g #[.string s] 9)
  (x0 : ∀ w, Calls Tryz.prog 176 #[.string s, .string ⟨#[120]⟩] w fun e w' => e = .returned (.bool b0) ∧ w' = w)
  (x1 : ∀ w, Calls Tryz.prog 176 #[.string s, .string ⟨#[121]⟩] w fun e w' => e = .returned (.bool b1) ∧ w' = w)
  (x2 : ∀ w, Calls Tryz.prog 176 #[.string s, .string ⟨#[122]⟩] w fun e w' => e = .returned (.bool b2) ∧ w' = w) :
  Calls Tryz.prog 106 #[.func (.func 177) #[] #[.pointer (some ⟨g, 0, none⟩)]] w fun e w' => e = .returned (.string (bs (ltr b0 120 ++ (ltr b1 121 ++ ltr b2 122)))) ∧ Below w.heap.size w w' := by
 have X0 := Lib.hid x0
 have X1 := Lib.hid x1
 have X2 := Lib.hid x2
 have E0 : Utf8.encode 120 = ⟨#[120]⟩ := rfl
 have E1 : Utf8.encode 121 = ⟨#[121]⟩ := rfl
 have E2 : Utf8.encode 122 = ⟨#[122]⟩ := rfl
 have HI0 := Lib.hid (World.iter_heap w ⟨#[120, 121, 122]⟩ 0)
 have AG0 : Hid (VnS w (w.iter ⟨#[120, 121, 122]⟩ 0) g s) := ⟨(hg.alloc (.stringIter ⟨#[120, 121, 122]⟩ 0)), (Below.refl _ _).alloc (Nat.le_refl _) (.stringIter ⟨#[120, 121, 122]⟩ 0)⟩
 have HK := Lib.hid hg.lt
 clear x0 x1 x2 hg
 cases b0 <;> cases b1 <;> cases b2
 all_goals
  go_enter Tryz.func106, Tryz.ntmps106
  go_wp2_with fail
  generalize w.iter ⟨#[120, 121, 122]⟩ 0 = V0 at *
  refine wp_loop_rounds 4 ?_
  have nx : ∀ ty, (Instr.next (.pointer (some ⟨w.heap.size, 0, none⟩)) true ty).run Tryz.prog V0 = .ok (.tuple #[.bool true, .int .i64 0, .int .i32 120]) (V0.iterAt w.heap.size ⟨#[120, 121, 122]⟩ 1) := fun ty => Lib.run_next_ascii_at V0 _ ⟨#[120, 121, 122]⟩ 0 ty HI0.out (by decide) (by decide)
  have HI1 := Lib.hid (Lib.iterAt_heap V0 w.heap.size ⟨#[120, 121, 122]⟩ 0 1 HI0.out)
  have AG1 := Lib.hid (AG0.out.iterAt HK.out (Nat.le_refl _) ⟨#[120, 121, 122]⟩ 1)
  have C := Lib.hid (cl_in s ⟨#[120]⟩ _ g _ AG1.out.r0 X0.out)
  rw [rounds_succ]
  go_wp2_with fail
  refine C.out.mono ?_
  rintro e w' ⟨rfl, rfl⟩
  go_wp2_with fail
  clear nx C HI0 AG0
  generalize V0.iterAt w.heap.size ⟨#[120, 121, 122]⟩ 1 = V1 at *
  have nx : ∀ ty, (Instr.next (.pointer (some ⟨w.heap.size, 0, none⟩)) true ty).run Tryz.prog V1 = .ok (.tuple #[.bool true, .int .i64 1, .int .i32 121]) (V1.iterAt w.heap.size ⟨#[120, 121, 122]⟩ 2) := fun ty => Lib.run_next_ascii_at V1 _ ⟨#[120, 121, 122]⟩ 1 ty HI1.out (by decide) (by decide)
  have HI2 := Lib.hid (Lib.iterAt_heap V1 w.heap.size ⟨#[120, 121, 122]⟩ 1 2 HI1.out)
  have AG2 := Lib.hid (AG1.out.iterAt HK.out (Nat.le_refl _) ⟨#[120, 121, 122]⟩ 2)
  have C := Lib.hid (cl_in s ⟨#[121]⟩ _ g _ AG2.out.r0 X1.out)
  rw [rounds_succ]
  go_wp2_with fail
  refine C.out.mono ?_
  rintro e w' ⟨rfl, rfl⟩
  go_wp2_with fail
  clear nx C HI1 AG1
  generalize V1.iterAt w.heap.size ⟨#[120, 121, 122]⟩ 2 = V2 at *
  have nx : ∀ ty, (Instr.next (.pointer (some ⟨w.heap.size, 0, none⟩)) true ty).run Tryz.prog V2 = .ok (.tuple #[.bool true, .int .i64 2, .int .i32 122]) (V2.iterAt w.heap.size ⟨#[120, 121, 122]⟩ 3) := fun ty => Lib.run_next_ascii_at V2 _ ⟨#[120, 121, 122]⟩ 2 ty HI2.out (by decide) (by decide)
  have HI3 := Lib.hid (Lib.iterAt_heap V2 w.heap.size ⟨#[120, 121, 122]⟩ 2 3 HI2.out)
  have AG3 := Lib.hid (AG2.out.iterAt HK.out (Nat.le_refl _) ⟨#[120, 121, 122]⟩ 3)
  have C := Lib.hid (cl_in s ⟨#[122]⟩ _ g _ AG3.out.r0 X2.out)
  rw [rounds_succ]
  go_wp2_with fail
  refine C.out.mono ?_
  rintro e w' ⟨rfl, rfl⟩
  go_wp2_with fail
  clear nx C HI2 AG2
  generalize V2.iterAt w.heap.size ⟨#[120, 121, 122]⟩ 3 = V3 at *
  have nx : ∀ ty, (Instr.next (.pointer (some ⟨w.heap.size, 0, none⟩)) true ty).run Tryz.prog V3 = .ok (.tuple #[.bool false]) V3 := fun ty => Lib.run_next_end_at V3 _ ⟨#[120, 121, 122]⟩ 3 ty HI3.out (by decide)
  rw [rounds_succ]
  go_wp2_with fail
  go_ret
  exact ⟨rfl, AG3.out.rb⟩
set_option maxHeartbeats 4000000 in
theorem vIn2_of (s : ByteArray) (b0 b1 b2 : Bool) (w : World)
  (x0 : ∀ w, Calls Tryz.prog 176 #[.string s, .string ⟨#[120]⟩] w fun e w' => e = .returned (.bool b0) ∧ w' = w)
  (x1 : ∀ w, Calls Tryz.prog 176 #[.string s, .string ⟨#[121]⟩] w fun e w' => e = .returned (.bool b1) ∧ w' = w)
  (x2 : ∀ w, Calls Tryz.prog 176 #[.string s, .string ⟨#[122]⟩] w fun e w' => e = .returned (.bool b2) ∧ w' = w) :
  Calls Tryz.prog 109 #[.string s] w fun e w' => e = .returned (.string (bs (ltr b0 120 ++ (ltr b1 121 ++ ltr b2 122)))) ∧ Below w.heap.size w w' := by
 have C := Lib.hid (vw_in s b0 b1 b2 w.heap.size (w.alloc (.cells #[.string s] 9)) (Blk.new w #[.string s] 9) x0 x1 x2)
 have KB := Lib.hid ((Below.refl w.heap.size w).alloc (Nat.le_refl _) (.cells #[.string s] 9))
 clear x0 x1 x2
 generalize bs (ltr b0 120 ++ (ltr b1 121 ++ ltr b2 122)) = res at *
 go_enter Tryz.func109, Tryz.ntmps109
 go_wp2_with fail
 refine C.out.mono ?_
 rintro e w2 ⟨rfl, hb⟩
 have HB := Lib.hid (bnext KB.out hb)
 clear hb
 go_wp2_with fail
 go_ret
 exact ⟨rfl, HB.out⟩
theorem vIn2_any (s : ByteArray) (w : World) : Calls Tryz.prog 109 #[.string s] w fun e w' => e = .returned (.string (bs (vlist [120, 121, 122] s.data.toList))) ∧ Below w.heap.size w w' := by
 rw [vlist3h]
 exact vIn2_of s _ _ _ w (fun w => contains_one s 120 w) (fun w => contains_one s 121 w) (fun w => contains_one s 122 w)
theorem eqAg' (s : ByteArray) {b : Bool} (h : (s.toList == (bs (vlist [120, 121, 122] s.data.toList)).toList) = b) : b = true ↔ AgV s := by
 refine eqAg s ?_
 rw [← h, Bool.eq_iff_iff, beq_iff_eq, beq_iff_eq]
 exact eq_comm
set_option maxHeartbeats 2000000 in
theorem areVars (s : ByteArray) : ∃ b : Bool, (b = true ↔ AgV s) ∧ ∀ w, Calls Tryz.prog 72 #[.string s] w fun e w' => e = .returned (.bool b) ∧ Below w.heap.size w w' := by
 refine ⟨_, eqAg' s rfl, fun w => ?_⟩
 have C := fun w => Lib.hid (vIn2_any s w)
 generalize bs (vlist [120, 121, 122] s.data.toList) = v at *
 go_enter Tryz.func72, Tryz.ntmps72
 go_wp2_with fail
 refine (C _).out.mono ?_
 rintro e w' ⟨rfl, hb⟩
 have HB := Lib.hid hb
 clear hb
 go_wp2_with fail
 go_ret
 exact ⟨rfl, HB.out⟩
set_option maxHeartbeats 2000000 in
theorem implAg_yes (s : ByteArray) (h : AgV s) (w : World) : Calls Tryz.prog 15 #[.string s] w fun e w' => e = .returned (.tuple #[.string (bs (relT (agRel s))), .bool true]) ∧ Below w.heap.size w w' := by
 obtain ⟨b, hb, c1⟩ := areVars s
 obtain rfl := hb.2 h
 have C1 := Lib.hid c1
 have C2 := fun w => Lib.hid (agree_of s w)
 have C3 := fun w => Lib.hid (rel_text (agRel s) w)
 rw [show agF (hasL s 120) (hasL s 121) (hasL s 122) = agRel s from rfl] at C2
 clear c1 hb h
 generalize agRel s = R at *
 go_enter Tryz.func15, Tryz.ntmps15
 go_wp2_with fail
 refine (C1.out _).mono ?_
 rintro e w1 ⟨rfl, hb⟩
 have HB := Lib.hid hb
 clear hb
 go_wp2_with fail
 refine (C2 _).out.mono ?_
 rintro e w2 ⟨rfl, hb⟩
 have HB2 := Lib.hid (bnext HB.out hb)
 clear hb
 go_wp2_with fail
 refine (C3 _).out.mono ?_
 rintro e w3 ⟨rfl, hb⟩
 have HB3 := Lib.hid (bnext HB2.out hb)
 clear hb
 go_wp2_with fail
 go_ret2
 exact ⟨rfl, HB3.out⟩
set_option maxHeartbeats 2000000 in
theorem implAg_no (s : ByteArray) (h : ¬ AgV s) (w : World) : Calls Tryz.prog 15 #[.string s] w fun e w' => e = .returned (.tuple #[.string ⟨#[]⟩, .bool false]) ∧ Below w.heap.size w w' := by
 obtain ⟨b, hb, c1⟩ := areVars s
 obtain rfl : b = false := by cases b with | false => rfl | true => exact absurd (hb.1 rfl) h
 have C1 := Lib.hid c1
 clear c1 hb
 go_enter Tryz.func15, Tryz.ntmps15
 go_wp2_with fail
 refine (C1.out _).mono ?_
 rintro e w1 ⟨rfl, hb⟩
 have HB := Lib.hid hb
 clear hb
 go_wp2_with fail
 go_ret2
 exact ⟨rfl, HB.out⟩
theorem ag_any2 (s : ByteArray) (hs : s.size ≤ maxLen) : ∃ (x : ByteArray) (b : Bool), x.size ≤ maxLen ∧ (b = true → AgV s ∧ x = bs (relT (agRel s))) ∧ (b = false → ¬ AgV s ∧ x = ⟨#[]⟩) ∧ (∀ w, Calls Tryz.prog 70 #[.string s] w fun e w' => e = .returned (.tuple #[.string x, .bool b]) ∧ Below w.heap.size w w') ∧ ∀ w, Calls Tryz.prog 15 #[.string s] w fun e w' => e = .returned (.tuple #[.string x, .bool b]) ∧ Below w.heap.size w w' := by
 by_cases h : AgV s
 ·exact ⟨_, true, by rw [(rel729_bs _).size]; decide, fun _ => ⟨h, rfl⟩, fun k => (by cases k), specAg_yes s h hs, implAg_yes s h⟩
 ·exact ⟨_, false, by decide, fun k => by (cases k), fun _ => ⟨h, rfl⟩, specAg_no s h hs, implAg_no s h⟩
end Go.Proofs.YtgkoljphndgoeaaGreatDoor
