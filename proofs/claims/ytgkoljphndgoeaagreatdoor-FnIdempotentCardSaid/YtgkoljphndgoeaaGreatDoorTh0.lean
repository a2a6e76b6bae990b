import Derived.Test.YtgkoljphndgoeaaGreatDoorTopS1
import Derived.Laws.CopyRow
namespace Go.Proofs.YtgkoljphndgoeaaGreatDoor
open Go.RowKit Tm Go.Great
def updO (f : Nat → Oc) (k : Nat) (o : Oc) : Nat → Oc := fun i => if i = k then o else f i
theorem ocs_at (f : Nat → Oc) (n t : Nat) (ht : t < n * 3) : (ocs f n)[t]? = (ocC (f (t / 3)))[t % 3]? := by
 obtain ⟨a, b, c⟩ := ocs_get f n (t / 3) (by omega)
 have h3 : t % 3 = 0 ∨ t % 3 = 1 ∨ t % 3 = 2 := by omega
 rcases h3 with h | h | h
 ·rw [h]
  rw [show t / 3 * 3 = t by omega] at a
  rw [a]; rfl
 ·rw [h]
  rw [show t / 3 * 3 + 1 = t by omega] at b
  rw [b]; rfl
 ·rw [h]
  rw [show t / 3 * 3 + 2 = t by omega] at c
  rw [c]; rfl
theorem ocs_none (f : Nat → Oc) (n t : Nat) (ht : ¬ t < n * 3) : (ocs f n)[t]? = none := List.getElem?_eq_none (by rw [ocs_len]; omega)
theorem ocs_set1 (f : Nat → Oc) (k : Nat) (hk : k < 27) (F : Nat → Bool) : (ocs f 27).toArray.setIfInBounds (k * 3) (.int .u32 (nb 27 F : Nat)) = (ocs (updO f k (F, (f k).2)) 27).toArray := by
 apply Array.ext_getElem?
 intro t
 rw [Array.getElem?_setIfInBounds]
 simp only [List.getElem?_toArray, List.size_toArray, ocs_len]
 by_cases ht : t < 27 * 3
 ·rw [ocs_at _ _ _ ht, ocs_at _ _ _ ht]
  unfold updO
  by_cases e : k * 3 = t
  ·subst e
   rw [if_pos rfl, if_pos (by omega), if_pos (by omega), show k * 3 % 3 = 0 by omega]
   rfl
  ·rw [if_neg e]
   by_cases e2 : t / 3 = k
   ·rw [if_pos e2, e2]
    have h3 : t % 3 = 1 ∨ t % 3 = 2 := by omega
    rcases h3 with h | h <;> rw [h] <;> rfl
   ·rw [if_neg e2]
 ·rw [ocs_none _ _ _ ht, ocs_none _ _ _ ht, if_neg (by omega)]
theorem ocs_set3 (f : Nat → Oc) (k : Nat) (hk : k < 27) (o : Oc) : (((ocs f 27).toArray.setIfInBounds (k * 3) (.int .u32 (nb 27 o.1 : Nat))).setIfInBounds (k * 3 + 1) (.bool o.2.1)).setIfInBounds (k * 3 + 2) (.bool o.2.2) = (ocs (updO f k o) 27).toArray := by
 apply Array.ext_getElem?
 intro t
 simp only [Array.getElem?_setIfInBounds, List.getElem?_toArray, List.size_toArray, ocs_len, Array.size_setIfInBounds]
 by_cases ht : t < 27 * 3
 ·rw [ocs_at _ _ _ ht, ocs_at _ _ _ ht]
  unfold updO
  by_cases e2 : t / 3 = k
  ·rw [if_pos e2]
   have h3 : t % 3 = 0 ∨ t % 3 = 1 ∨ t % 3 = 2 := by omega
   rcases h3 with h | h | h
   ·rw [if_neg (by omega), if_neg (by omega), if_pos (by omega), if_pos (by omega), h]; rfl
   ·rw [if_neg (by omega), if_pos (by omega), if_pos (by omega), h]; rfl
   ·rw [if_pos (by omega), if_pos (by omega), h]; rfl
  ·rw [if_neg e2, if_neg (by omega), if_neg (by omega), if_neg (by omega)]
 ·rw [ocs_none _ _ _ ht, ocs_none _ _ _ ht]
  rw [if_neg (by omega), if_neg (by omega), if_neg (by omega)]
theorem ocs_congr {f g : Nat → Oc} {n : Nat} (h : ∀ i, i < n → ocC (f i) = ocC (g i)) : ocs f n = ocs g n := by
 unfold ocs
 induction n with
 | zero => rfl
 | succ n ih => rw [List.range_succ, List.flatMap_append, List.flatMap_append, ih fun i hi => h i (by omega)]; simp [h n (by omega)]
theorem ocs_one (f : Nat → Oc) (n : Nat) : ∀ v ∈ ocs f n, v.oneCell' = true := by
 intro v hv
 unfold ocs ocC at hv
 simp only [List.mem_flatMap, List.mem_cons, List.not_mem_nil, or_false] at hv
 obtain ⟨i, _, rfl | rfl | rfl⟩ := hv <;> rfl
def inO (F G : Nat → Oc) (k m : Nat) : Oc := (fun j => upto m (fun q => (F k).1 q && (G q).1 j), (F k).2.1 || upto m (fun q => (F k).1 q && (G q).2.1), (F k).2.2 || upto m (fun q => (F k).1 q && (G q).2.2))
def thO (F G : Nat → Oc) : Nat → Oc := fun k => inO F G k 27
def mixO (F G : Nat → Oc) (k : Nat) : Nat → Oc := fun i => if i < k then thO F G i else F i
theorem mixO_zero (F G : Nat → Oc) : mixO F G 0 = F := by funext i; simp [mixO]
theorem mixO_all (F G : Nat → Oc) : ocs (mixO F G 27) 27 = ocs (thO F G) 27 := ocs_congr fun i hi => by simp [mixO, hi]
theorem mixO_at (F G : Nat → Oc) (k : Nat) : mixO F G k k = F k := by simp [mixO]
theorem mixO_start (F G : Nat → Oc) (k : Nat) : updO (mixO F G k) k ((fun _ => false), (mixO F G k k).2) = updO (mixO F G k) k (inO F G k 0) := by
 rw [mixO_at]
 unfold inO
 simp [upto_zero]
theorem mixO_end (F G : Nat → Oc) (k : Nat) : updO (mixO F G k) k (inO F G k 27) = mixO F G (k + 1) := by
 funext i
 unfold updO mixO thO
 by_cases h : i = k
 ·subst h; simp
 ·rw [if_neg h]
  by_cases h2 : i < k
  ·rw [if_pos h2, if_pos (by omega)]
  ·rw [if_neg h2, if_neg (by omega)]
theorem updO_twice (f : Nat → Oc) (k : Nat) (a b : Oc) : updO (updO f k a) k b = updO f k b := by
 funext i; unfold updO; split <;> rfl
theorem updO_at (f : Nat → Oc) (k : Nat) (a : Oc) : updO f k a k = a := by simp [updO]
theorem inO_no {F G : Nat → Oc} {k m : Nat} (h : (F k).1 m = false) : inO F G k (m + 1) = inO F G k m := by
 unfold inO
 simp only [upto_succ, h, Bool.false_and, Bool.or_false]
theorem inO_yes {F G : Nat → Oc} {k m : Nat} (h : (F k).1 m = true) : inO F G k (m + 1) = ((fun j => (inO F G k m).1 j || (G m).1 j), (inO F G k m).2.1 || (G m).2.1, (inO F G k m).2.2 || (G m).2.2) := by
 unfold inO
 simp only [upto_succ, h, Bool.true_and, Bool.or_assoc]
theorem run_copy3 {P : Program} (w : World) (dT sT ty elem : TypeId) (g o dLen dCap : Nat) (a : Addr) (sLen sCap : Nat) (cur : Array Value) (t : TypeId) (cs : List Value)
  (hu : P.underlying dT = some (.slice elem)) (hs : (P.info? elem).map (·.size) = some 3)
  (hg : w.heap[g]? = some (.cells cur t (0, 0))) (hn : cs.length = Nat.min sLen dLen * 3)
  (hsrc : ∀ j v, cs[j]? = some v → w.cell? (a.add j) = some v) (hfit : o + cs.length ≤ cur.size) (h1 : ∀ v ∈ cs, v.oneCell' = true) :
  (Builtin.copy_ #[dT, sT] ty #[.slice (some ⟨g, o, none⟩) dLen dCap, .slice (some a) sLen sCap]).run P w =
   .ok (goInt (Nat.min sLen dLen)) (w.setRow g (cur.toList.take o ++ cs ++ cur.toList.drop (o + cs.length)).toArray) := by
 have hl := run_loadCells_list (P := P) w a cs hsrc
 have hst := run_storeCells_at P g o t cs 0 cur w hg (by simpa using hfit) h1
 cases hq : P.info? elem with
 | none => simp [hq] at hs
 | some i =>
  have hi : i.size = 3 := by simpa [hq] using hs
  simp [Builtin.copy_, run_underlying hu, Builtin.lenOf, Builtin.firstCells, sizeOf, typeInfo, hq, hi, ← hn, hl, hst]
theorem wpList_copy3 {P : Program} {w : World} {ops : Array Oper} {rest : List Oper} {o : Oper} {a : Act} {Q : Exit → Act → World → Prop} (hgd : o.guard = none) (d s : Operand) (dT sT : TypeId)
  (ho : o.op = .call { callee := .builtin .copy, args := #[d, s], argTypes := #[dT, sT] }) (elem : TypeId) (hu : P.underlying dT = some (.slice elem)) (hsz : (P.info? elem).map (·.size) = some 3)
  (g off dLen dCap : Nat) (ad : Addr) (sLen sCap : Nat) (hd : a.eval d = .slice (some ⟨g, off, none⟩) dLen dCap) (hs : a.eval s = .slice (some ad) sLen sCap)
  (cur : Array Value) (t : TypeId) (hg : w.heap[g]? = some (.cells cur t (0, 0))) (cs : List Value) (hn : cs.length = Nat.min sLen dLen * 3)
  (hsrc : ∀ j v, cs[j]? = some v → w.cell? (ad.add j) = some v) (hfit : off + cs.length ≤ cur.size) (h1 : ∀ v ∈ cs, v.oneCell' = true)
  (h : wpList P ops Q rest (a.put o.dst (goInt (Nat.min sLen dLen))) (w.setRow g (cur.toList.take off ++ (cs ++ cur.toList.drop (off + cs.length))).toArray)) : wpList P ops Q (o :: rest) a w := by
 refine wpList_plain hgd fun K hK => ?_
 have hrun := run_copy3 (P := P) w dT sT o.type elem g off dLen dCap ad sLen sCap cur t cs hu hsz hg hn hsrc hfit h1
 unfold Oper.wp
 simp [execOp, ho, resolve, invoke, builtin, hd, hs, hrun, Result.andThen]
 exact hK _ _ h
theorem infoOut3 : (Tryz.prog.info? 127).map (·.size) = some 3 := by kernel_rfl
theorem OcR.blk {w : World} {g : Nat} {f : Nat → Oc} (h : Blk w g (ocs f 27).toArray 127) {B : Nat} (hB : B ≤ g) : OcR w B (.slice (some ⟨g, 0, none⟩) 27 27) f :=
 ⟨ocs_len f 27, .inr ⟨g, 27, (ocs f 27).toArray, rfl, hB, h, Nat.le_refl _, by unfold maxLen; omega, by simp [ocs_len], by rw [List.take_of_length_le (by simp [ocs_len])]⟩⟩
theorem mkOut (w : World) : (Instr.makeSlice 97 (.int .i64 27) (.int .i64 27)).run Tryz.prog w = .ok (.slice (some ⟨w.heap.size, 0, none⟩) 27 27) (w.alloc (.cells (ocs (fun _ => ((fun _ => false), false, false)) 27).toArray 127)) := by kernel_rfl
end Go.Proofs.YtgkoljphndgoeaaGreatDoor
