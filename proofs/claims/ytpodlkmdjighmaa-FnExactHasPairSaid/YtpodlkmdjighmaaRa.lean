/-
  The states to which a relation of the model leads from a set: l4Post.
-/
import Derived.Test.YtpodlkmdjighmaaRm
import Derived.Test.YtpodlkmdjighmaaRs
import Derived.Test.YtpodlkmdjighmaaRe
namespace Go.Proofs.Ytpodlkmdjighmaa
open Go.RowKit Go.Great

def allC (T : Nat → Nat → Bool) (L K : Nat → Bool) : Array Value := ((List.range 27).map (fun i => Value.int .i64 (nb 27 (T i))) ++ [Value.int .i64 (nb 27 L), Value.int .i64 (nb 27 K)]).toArray
theorem allC_size (T : Nat → Nat → Bool) (L K : Nat → Bool) : (allC T L K).size = 29 := by simp [allC]
theorem allC_get (T : Nat → Nat → Bool) (L K : Nat → Bool) {i : Nat} (h : i < 27) : (allC T L K)[i]? = some (.int .i64 (nb 27 (T i))) := by
  unfold allC
  rw [List.getElem?_toArray, List.getElem?_append_left (by simpa using h)]
  simp [h]
def noT : Nat → Nat → Bool := fun _ _ => false
def noS : Nat → Bool := fun _ => false
theorem infoAll : (Try.prog.info? 62).map (·.size) = some 29 := by kernel_rfl
theorem infoAll' (T : Nat → Nat → Bool) (L K : Nat → Bool) : (Try.prog.info? 62).map (·.size) = some (allC T L K).size := by rw [allC_size]; exact infoAll
set_option maxRecDepth 100000 in
set_option maxHeartbeats 2000000 in
theorem specPost (B : Nat → Nat → Bool) (L K F : Nat → Bool) (w : World) : Calls Try.prog 69 #[.agg (allC B L K), .int .i64 (nb 27 F)] w fun e w' => e = .returned (.int .i64 (nb 27 (postS F B 27))) ∧ Below w.heap.size w w' := by
  have CI := fun m hm w => Lib.hid (specInS F m hm w)
  have z0 : w.heap.size = w.heap.size := rfl
  have hb0 := Below.refl w.heap.size w
  obtain ⟨z1, k0⟩ := al1 z0 (allC B L K) 62
  replace hb0 := Below.alloc hb0 (by omega) (.cells (allC B L K) 62)
  have K0 := Lib.hid k0
  have HZ1 := Lib.hid z1
  have HB := Lib.hid hb0
  clear hb0 z0 k0 z1
  go_enter Try.func69, Try.ntmps69
  go_wp2_with (first
    | (refine wpList_boxTo rfl 62 _ rfl (some 2) rfl w.heap.size rfl (allC B L K) (by rfl) ?_))
  generalize (w).alloc (.cells (allC B L K) 62) = w1 at *
  clear HZ1
  go_wp2_with fail
  go_loopw [5, 6] (fun o i wr => ∃ k : Nat, k ≤ 27 ∧ i = .int .i64 k ∧ o = .int .i64 (nb 27 (postS F B k)) ∧ Hid (Blk wr w.heap.size (allC B L K) 62) ∧ Hid (Below w.heap.size w wr)) (fun o i _ => 27 - (intOf i).toNat)
  case atStart => exact ⟨0, by omega, rfl, by rw [nb_zero 27 (F := postS F B 0) (fun _ _ => rfl)]; rfl, K0, HB⟩
  case round =>
    clear K0 HB
    obtain ⟨k, hk, rfl, rfl, RB, RW⟩ := hrel
    by_cases hlt : k < 27
    · have c0 := (RB.out.cell k).trans (allC_get _ _ _ hlt)
      have D := CI k hlt
      cases hT : F k <;> rw [hT] at D
      · go_wp2_with fail
        refine (D _).out.mono ?_
        rintro e w2 ⟨rfl, rfl⟩
        go_wp2_with fail
        exact ⟨⟨k + 1, by omega, by go_num, by rw [postS_no hT], RB, RW⟩, by simp [intOf]; omega⟩
      · go_wp2_with fail
        refine (D _).out.mono ?_
        rintro e w2 ⟨rfl, rfl⟩
        go_wp2_with fail
        exact ⟨⟨k + 1, by omega, by go_num, by rw [s_or, postS_yes hT], RB, RW⟩, by simp [intOf]; omega⟩
    · have hk2 : k = 27 := by omega
      subst hk2
      go_wp2_with fail
      go_ret
      exact ⟨rfl, RW.out⟩
set_option maxRecDepth 100000 in
set_option maxHeartbeats 4000000 in
theorem built_to (T : Nat → Nat → Bool) : Try.prog.built 62 [(0, .agg (relC .i64 T))] = some (allC T noS noS) := by
  unfold allC relC
  rw [nb_zero 27 (F := noS) fun _ _ => rfl]
  simp only [List.range, List.range.loop, List.map_cons, List.map_nil]
  generalize nb 27 (T 0) = a0
  generalize nb 27 (T 1) = a1
  generalize nb 27 (T 2) = a2
  generalize nb 27 (T 3) = a3
  generalize nb 27 (T 4) = a4
  generalize nb 27 (T 5) = a5
  generalize nb 27 (T 6) = a6
  generalize nb 27 (T 7) = a7
  generalize nb 27 (T 8) = a8
  generalize nb 27 (T 9) = a9
  generalize nb 27 (T 10) = a10
  generalize nb 27 (T 11) = a11
  generalize nb 27 (T 12) = a12
  generalize nb 27 (T 13) = a13
  generalize nb 27 (T 14) = a14
  generalize nb 27 (T 15) = a15
  generalize nb 27 (T 16) = a16
  generalize nb 27 (T 17) = a17
  generalize nb 27 (T 18) = a18
  generalize nb 27 (T 19) = a19
  generalize nb 27 (T 20) = a20
  generalize nb 27 (T 21) = a21
  generalize nb 27 (T 22) = a22
  generalize nb 27 (T 23) = a23
  generalize nb 27 (T 24) = a24
  generalize nb 27 (T 25) = a25
  generalize nb 27 (T 26) = a26
  kernel_rfl
end Go.Proofs.Ytpodlkmdjighmaa
