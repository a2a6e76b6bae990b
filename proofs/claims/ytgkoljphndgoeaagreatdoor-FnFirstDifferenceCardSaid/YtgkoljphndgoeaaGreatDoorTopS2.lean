import Derived.Test.YtgkoljphndgoeaaGreatDoorTopX1
import Derived.Test.YtgkoljphndgoeaaGreatDoorTopS1
import Derived.Deep.RegionHeld
namespace Go.Proofs.YtgkoljphndgoeaaGreatDoor
open Go.RowKit Tm Go.Great Go.ChangeMaps
noncomputable def rfV (p : Pg) (i : Nat) : Value := .tuple #[.agg #[.string (bs (tb (rT p i))), .bool (rL p i), .bool (rK p i)], .bool true]
theorem RepH.keep {w w' : World} {B : Nat} (hc : ∀ b o v, B ≤ b → w.cell? ⟨b, o, none⟩ = some v → w'.cell? ⟨b, o, none⟩ = some v) {t : Tm} {x y : Value} (h : RepH w B t x y) : RepH w' B t x y := by
 obtain ⟨kids, e, hr⟩ := h
 exact ⟨kids, e, hr.keep hc (Nat.le_refl _)⟩
theorem StV.keep {w w' : World} {B : Nat} (hc : ∀ b o v, B ≤ b → w.cell? ⟨b, o, none⟩ = some v → w'.cell? ⟨b, o, none⟩ = some v) : ∀ {p : Pg} {v : Value}, StV w B p v → StV w' B p v := by
 intro p
 induction p with
 | skip => exact fun h => h
 | asg x e => rintro v ⟨a, b, h, h1⟩; exact ⟨a, b, h, h1.keep hc⟩
 | seq p q ihp ihq => rintro v ⟨a, b, h, h1, h2⟩; exact ⟨a, b, h, ihp h1, ihq h2⟩
 | ite t p q ihp ihq => rintro v ⟨x, y, a, b, h, h0, h1, h2⟩; exact ⟨x, y, a, b, h, h0.keep hc, ihp h1, ihq h2⟩
 | whl t p ihp => rintro v ⟨x, y, a, h, h0, h1⟩; exact ⟨x, y, a, h, h0.keep hc, ihp h1⟩
 | cho p q ihp ihq => rintro v ⟨a, b, h, h1, h2⟩; exact ⟨a, b, h, ihp h1, ihq h2⟩
 | asm t => rintro v ⟨x, y, h, h0⟩; exact ⟨x, y, h, h0.keep hc⟩
theorem StopR.below {w w' : World} {B : Nat} {s : Stp} {x y : Value} (h : StopR w B s x y) (hb : Below w.heap.size w w') : StopR w' B s x y := by
 unfold StopR at h ⊢
 split at h
 ·exact h
 ·obtain ⟨h4, b, h5, h6⟩ := h
  exact ⟨h4.below hb, b, h5, fun j m hj => ckeep hb (h6 j m hj)⟩
theorem FlowR.below {w w' : World} {B : Nat} {sp : Value} {G : List Stp} (h : FlowR w B sp G) (hb : Below w.heap.size w w') : FlowR w' B sp G := by
 obtain ⟨rb, cap, hs, hcap, hk⟩ := h
 refine ⟨rb, cap, hs, hcap, fun k s hks => ?_⟩
 obtain ⟨x, y, h1, h2, h3⟩ := hk k s hks
 exact ⟨x, y, ckeep hb h1, ckeep hb h2, h3.below hb⟩
theorem FlowR.other {w w' : World} {B : Nat} {sp : Value} {G : List Stp} {g : Nat} {a : Option Addr} {n c : Nat} (h : FlowR w B sp G) (hg : g < B) (h0 : w.cell? ⟨g, 0, none⟩ = some (.slice a n c))
  (hc : ∀ b o v, b ≠ g → w.cell? ⟨b, o, none⟩ = some v → w'.cell? ⟨b, o, none⟩ = some v) : FlowR w' B sp G := by
 obtain ⟨rb, cap, hs, hcap, hk⟩ := h
 refine ⟨rb, cap, hs, hcap, fun k s hks => ?_⟩
 have hne : rb ≠ g := by
  rintro rfl
  have hl : 0 < G.length := by have := (List.getElem?_eq_some_iff.1 hks).1; omega
  obtain ⟨x, y, h1, _, h3⟩ := hk 0 G[0] (List.getElem?_eq_getElem hl)
  rw [Nat.zero_mul, h0] at h1
  injection h1 with h1
  subst h1
  unfold StopR at h3
  split at h3
  ·cases h3.1
  ·obtain ⟨T, u, e⟩ := h3.1.forms; cases e
 obtain ⟨x, y, h1, h2, h3⟩ := hk k s hks
 refine ⟨x, y, hc _ _ _ hne h1, hc _ _ _ hne h2, ?_⟩
 unfold StopR at h3 ⊢
 split at h3
 ·exact h3
 ·obtain ⟨h4, b, h5, h6⟩ := h3
  refine ⟨h4.keep fun b o v hb => hc b o v (by omega), b, h5, fun j m hj => ?_⟩
  have hb : b ≠ g := by
   rintro rfl
   have hl : 0 < s.nx.length := by have := (List.getElem?_eq_some_iff.1 hj).1; omega
   have := h6 0 s.nx[0] (List.getElem?_eq_getElem hl)
   rw [h0] at this
   injection this with this
   cases this
  exact hc _ _ _ hb (h6 j m hj)
theorem FlowOk.other {w w' : World} {B : Nat} {sp : Value} {st : Nat} {G : List Stp} {g : Nat} {a : Option Addr} {n c : Nat} (h : FlowOk false w B sp st G) (hg : g < B) (h0 : w.cell? ⟨g, 0, none⟩ = some (.slice a n c))
  (hc : ∀ b o v, b ≠ g → w.cell? ⟨b, o, none⟩ = some v → w'.cell? ⟨b, o, none⟩ = some v) : FlowOk false w' B sp st G := ⟨h.fl.other hg h0 hc, h.ok, h.top, h.sm, h.lt, h.bd⟩
def StartPost (p : Pg) (i : Nat) (w : World) (e : Ending) (w' : World) : Prop := ∃ rb cap B, e = .returned (.tuple #[.agg #[.slice (some ⟨rb, 0, none⟩) (flG p).length cap, .int .i64 (flS p : Nat)], .int .i64 i, .bool true]) ∧ FlowOk false w' B (.slice (some ⟨rb, 0, none⟩) (flG p).length cap) (flS p) (flG p) ∧ Below w.heap.size w w'
set_option maxRecDepth 1000000 in
set_option maxHeartbeats 8000000 in
theorem readStart_yes (s : ByteArray) (x y z : Int) (i : Nat) (w : World) {p : Pg} (hp : p.ok false) (hs : s.data.toList = p.ser) (hl : s.size ≤ 200) (h : st3 x y z = true) (hi : (i : Int) = x + 3 * y + 9 * z) :
  Calls Tryz.prog 115 #[.string s, .agg #[.int .i64 x, .int .i64 y, .int .i64 z]] w (StartPost p i w) := by
 have C1 := fun w => Lib.hid (prog_yes s w hp hs hl)
 have lp := all_len hs hl
 have C2 := fun w => Lib.hid (implStateValid x y z w)
 rw [h] at C2
 have C3 := fun w => Lib.hid (implIx_yes x y z w h)
 rw [← hi] at C3
 have CF := fun {B : Nat} {v : Value} {w : World} (hv : StV w B p v) => Lib.hid (flowOf_any (wide := false) p B v w hv hp lp)
 have G0 : Hid (Blk ((w.alloc (.cells #[.int .i64 x, .int .i64 y, .int .i64 z] 43)).alloc (.cells #[.slice none 0 0, .int .i64 0] 131)) (w.heap.size + 1) #[.slice none 0 0, .int .i64 0] 131) := by
  have := Blk.new (w.alloc (.cells #[.int .i64 x, .int .i64 y, .int .i64 z] 43)) #[.slice none 0 0, .int .i64 0] 131
  rwa [show (w.alloc (.cells #[.int .i64 x, .int .i64 y, .int .i64 z] 43)).heap.size = w.heap.size + 1 by simp] at this
 have S0 := Lib.hid ((Blk.new w #[.int .i64 x, .int .i64 y, .int .i64 z] 43).alloc (.cells #[.slice none 0 0, .int .i64 0] 131))
 have HB0 := Lib.hid (((Below.refl w.heap.size w).alloc (Nat.le_refl _) (.cells #[.int .i64 x, .int .i64 y, .int .i64 z] 43)).alloc (by simp) (.cells #[.slice none 0 0, .int .i64 0] 131))
 clear h hi hs hl hp lp
 go_enter Tryz.func115, Tryz.ntmps115
 go_wp2_with fail
 generalize (w.alloc (.cells #[.int .i64 x, .int .i64 y, .int .i64 z] 43)).alloc (.cells #[.slice none 0 0, .int .i64 0] 131) = w0 at *
 refine (C1 _).out.mono ?_
 rintro e w1 ⟨T, u, rfl, hst, hb⟩
 have hgB := G0.out.lt
 have HGB := Lib.hid hgB
 replace G0 := Lib.hid (G0.out.kept hb)
 replace S0 := Lib.hid (S0.out.kept hb)
 replace HB0 := Lib.hid (bmore HB0.out HB0.out.size hb)
 have HST := Lib.hid hst
 clear hb hst hgB C1
 obtain ⟨q0, q1, q2⟩ := S0.out.c3
 go_wp2_with fail
 clear q0 q1 q2
 refine (C2 _).out.mono ?_
 rintro e wx ⟨rfl, hb⟩
 replace G0 := Lib.hid (G0.out.kept hb)
 replace S0 := Lib.hid (S0.out.kept hb)
 replace HST := Lib.hid (HST.out.below hb)
 replace HB0 := Lib.hid (bmore HB0.out HB0.out.size hb)
 clear hb C2
 go_wp2_with fail
 obtain ⟨q0, q1, q2⟩ := S0.out.c3
 have hbb := (Below.refl wx.heap.size wx).drew
 have RG : ∀ w', Below wx.heap.size wx w' → (fun w' => Below w.heap.size w w' ∧ w'.cell? ⟨w.heap.size, 0, none⟩ = some (.int .i64 x) ∧ w'.cell? ⟨w.heap.size, 1, none⟩ = some (.int .i64 y) ∧ w'.cell? ⟨w.heap.size, 2, none⟩ = some (.int .i64 z)) w' := fun w' h => ⟨bmore HB0.out HB0.out.size h, ckeep h q0, ckeep h q1, ckeep h q2⟩
 have RG' := Lib.hid RG
 clear RG q0 q1 q2
 refine wp_region_held_drew (S := fun w' => Below w.heap.size w w' ∧ w'.cell? ⟨w.heap.size, 0, none⟩ = some (.int .i64 x) ∧ w'.cell? ⟨w.heap.size, 1, none⟩ = some (.int .i64 y) ∧ w'.cell? ⟨w.heap.size, 2, none⟩ = some (.int .i64 z)) (by kernel_rfl) (RG'.out _ hbb) (fun hHeld => ?_)
 refine wpAnyH_take (i := 0) (oi := { dst := some 22, op := _, type := _, pos := _, after := _, guard := _ }) (v := ?_) rfl (by kernel_rfl) (by kernel_rfl) (by kernel_rfl) (fun _ _ _ h => h) (Or.inl ⟨by kernel_rfl, ?_⟩) hHeld ?_
 rotate_left
 ·intro w hSw
  (try dsimp only at hSw)
  go_simp
  first | done | with_reducible rfl
 simp only [Act.put]
 refine wpAnyH_take (i := 2) (oi := { dst := some 24, op := _, type := _, pos := _, after := _, guard := _ }) (v := ?_) rfl (by kernel_rfl) (by kernel_rfl) (by kernel_rfl) (fun _ _ _ h => h) (Or.inl ⟨by kernel_rfl, ?_⟩) hHeld ?_
 rotate_left
 ·intro w hSw
  (try dsimp only at hSw)
  go_simp
  first | done | with_reducible rfl
 simp only [Act.put]
 refine wpAnyH_ready (rs := [1]) (by kernel_rfl) (by simp) ?_
 refine AllReadyH.cons rfl (fun K hK => ?_) AllReadyH.nil
 go_simp
 (with_reducible refine (CF (HST.out.below hbb)).out.mono ?_)
 rintro e w5 ⟨rb, cap, rfl, hF, hq⟩
 go_wp2_with fail
 have HQ := Lib.hid (bnext hbb hq)
 have HF := Lib.hid hF
 refine hK.out _ _ (RG'.out _ (bnext hbb hq)) (fun hHeld => ?_)
 clear hq hF hK K
 try simp only [Act.put]
 refine wpAnyH_ready (rs := [3]) (by kernel_rfl) (by simp) ?_
 refine AllReadyH.cons rfl (fun K hK => ?_) AllReadyH.nil
 go_simp
 (with_reducible refine (C3 _).out.mono ?_)
 rintro e w6 ⟨rfl, hq⟩
 go_wp2_with fail
 have G6 := Lib.hid ((G0.out.kept HQ.out).kept hq)
 have F6 : Hid (FlowOk false w6 w0.heap.size (.slice (some ⟨rb, 0, none⟩) (flG p).length cap) (flS p) (flG p)) := ⟨FlowR.below HF.out.fl hq, HF.out.ok, HF.out.top, HF.out.sm, HF.out.lt, HF.out.bd⟩
 refine hK.out _ _ (RG'.out _ (bnext HQ.out hq)) (fun hHeld => ?_)
 clear hq hK K
 try simp only [Act.put]
 have z0 := G6.out.cell 0
 have z1 := G6.out.cell 1
 have u0 := G6.out.free 0
 have u1 := G6.out.free 1
 simp only [List.getElem?_toArray, List.getElem?_cons_zero, List.getElem?_cons_succ] at z0 z1
 have hg := G6.out.lt
 refine wpAnyH_ready (rs := [4]) (by kernel_rfl) (by simp) ?_
 refine AllReadyH.cons rfl (fun K hK => ?_) AllReadyH.nil
 go_simp
 have HZ := Lib.hid hHeld
 have hne : w.heap.size + 1 ≠ w.heap.size := by omega
 refine hK.out _ _ ⟨by (repeat refine Below.setCell ?_ (by simp) _); exact HZ.out.1, ?_, ?_, ?_⟩ (fun hHeld => ?_)
 ·rw [World.cell?_setCell_far _ _ _ _ hne, World.cell?_setCell_far _ _ _ _ hne]; exact HZ.out.2.1
 ·rw [World.cell?_setCell_far _ _ _ _ hne, World.cell?_setCell_far _ _ _ _ hne]; exact HZ.out.2.2.1
 ·rw [World.cell?_setCell_far _ _ _ _ hne, World.cell?_setCell_far _ _ _ _ hne]; exact HZ.out.2.2.2
 clear hK K
 try simp only [Act.put]
 refine wpAnyH_take (i := 5) (oi := { dst := some 5, op := .assign (.tmp 25), type := _, pos := _, after := _, guard := _ }) (v := ?_) rfl (by kernel_rfl) (by kernel_rfl) (by kernel_rfl) (fun _ _ _ h => h) (Or.inl ⟨by kernel_rfl, ?_⟩) hHeld ?_
 rotate_left
 ·intro w hSw
  (try dsimp only at hSw)
  go_simp
  first | done | with_reducible rfl
 simp only [Act.put]
 refine wpAnyH_take (i := 6) (oi := { dst := some 6, op := .assign (.const (.bool true)), type := _, pos := _, after := _, guard := _ }) (v := ?_) rfl (by kernel_rfl) (by kernel_rfl) (by kernel_rfl) (fun _ _ _ h => h) (Or.inl ⟨by kernel_rfl, ?_⟩) hHeld ?_
 rotate_left
 ·intro w hSw
  (try dsimp only at hSw)
  go_simp
  first | done | with_reducible rfl
 simp only [Act.put]
 refine wpAnyH_done (by kernel_rfl) ?_ _
 have HX := Lib.hid hHeld.1
 have FX := Lib.hid (F6.out.other (w' := (w6.setCell ⟨w.heap.size + 1, 0, none⟩ (.slice (some ⟨rb, 0, none⟩) (flG p).length cap)).setCell ⟨w.heap.size + 1, 1, none⟩ (.int .i64 (flS p : Nat))) HGB.out z0 (fun b o v hb hv => by rw [World.cell?_setCell_far _ _ _ _ (fun e => hb e.symm), World.cell?_setCell_far _ _ _ _ (fun e => hb e.symm)]; exact hv))
 go_wp2_with fail
 exact bodyPost_ret (v := .tuple #[.agg #[.slice (some ⟨rb, 0, none⟩) (flG p).length cap, .int .i64 (flS p : Nat)], .int .i64 i, .bool true]) (by simp [results, Tryz.results115, go_sem, z0, z1]) rfl ⟨rb, cap, _, rfl, FX.out, HX.out⟩
set_option maxRecDepth 1000000 in
set_option maxHeartbeats 8000000 in
theorem implRf_yes (s : ByteArray) (x y z : Int) (i : Nat) (w : World) {p : Pg} (hp : p.ok false) (hs : s.data.toList = p.ser) (hl : s.size ≤ 200) (h : st3 x y z = true) (hi : (i : Int) = x + 3 * y + 9 * z) :
  Calls Tryz.prog 45 #[.string s, .agg #[.int .i64 x, .int .i64 y, .int .i64 z]] w fun e w' => e = .returned (rfV p i) ∧ Below w.heap.size w w' := by
 have hlt : i < 27 := by
  obtain ⟨hx0, hx1, hy0, hy1, hz0, hz1⟩ := st3_lt h
  omega
 have C := fun w => Lib.hid (readStart_yes s x y z i w hp hs hl h hi)
 have CO := fun {w1 : World} {B : Nat} {sp : Value} (hF : FlowOk false w1 B sp (flS p) (flG p)) (w : World) (hb : Below w1.heap.size w1 w) => Lib.hid (outcome_p hF i hlt w hb)
 have CT := fun w => Lib.hid (implText (rT p i) w)
 unfold outV at CO
 unfold rfV
 generalize bs (tb (rT p i)) = txt at *
 generalize rT p i = T at *
 generalize rL p i = lb at *
 generalize rK p i = kb at *
 clear h hi hs hl hp
 have G0 : Hid (Blk ((w.alloc (.cells #[.int .i64 x, .int .i64 y, .int .i64 z] 43)).alloc (.cells #[.string ⟨#[]⟩, .bool false, .bool false] 49)) (w.heap.size + 1) #[.string ⟨#[]⟩, .bool false, .bool false] 49) := by
  have := Blk.new (w.alloc (.cells #[.int .i64 x, .int .i64 y, .int .i64 z] 43)) #[.string ⟨#[]⟩, .bool false, .bool false] 49
  rwa [show (w.alloc (.cells #[.int .i64 x, .int .i64 y, .int .i64 z] 43)).heap.size = w.heap.size + 1 by simp] at this
 have S0 := Lib.hid ((Blk.new w #[.int .i64 x, .int .i64 y, .int .i64 z] 43).alloc (.cells #[.string ⟨#[]⟩, .bool false, .bool false] 49))
 have HB0 := Lib.hid (((Below.refl w.heap.size w).alloc (Nat.le_refl _) (.cells #[.int .i64 x, .int .i64 y, .int .i64 z] 43)).alloc (by simp) (.cells #[.string ⟨#[]⟩, .bool false, .bool false] 49))
 go_enter Tryz.func45, Tryz.ntmps45
 go_wp2_with fail
 generalize (w.alloc (.cells #[.int .i64 x, .int .i64 y, .int .i64 z] 43)).alloc (.cells #[.string ⟨#[]⟩, .bool false, .bool false] 49) = w0 at *
 refine (C _).out.mono ?_
 rintro e w1 ⟨rb, cap, B, rfl, hF, hb⟩
 replace G0 := Lib.hid (G0.out.kept hb)
 replace HB0 := Lib.hid (bmore HB0.out HB0.out.size hb)
 have HF := Lib.hid hF
 have bx := (Below.refl w1.heap.size w1).alloc (Nat.le_refl _) (.cells #[.slice (some ⟨rb, 0, none⟩) (flG p).length cap, .int .i64 (flS p : Nat)] 131)
 have BX := Lib.hid bx
 replace G0 := Lib.hid (G0.out.kept bx)
 replace HB0 := Lib.hid (bmore HB0.out HB0.out.size bx)
 clear hb C S0 hF bx
 go_wp2_with fail
 refine (CO HF.out _ BX.out).out.mono ?_
 rintro e w2 ⟨rfl, hb⟩
 replace G0 := Lib.hid (G0.out.kept hb)
 replace HB0 := Lib.hid (bmore HB0.out HB0.out.size hb)
 clear hb CO HF BX
 have O0 := Blk.new w2 #[.int .u32 (nb 27 T : Nat), .bool lb, .bool kb] 127
 have bx := (Below.refl w2.heap.size w2).alloc (Nat.le_refl _) (.cells #[.int .u32 (nb 27 T : Nat), .bool lb, .bool kb] 127)
 have hgo := G0.out.lt
 replace G0 := Lib.hid (G0.out.kept bx)
 replace HB0 := Lib.hid (bmore HB0.out HB0.out.size bx)
 clear bx
 go_wp2_with fail
 generalize w2.alloc (.cells #[.int .u32 (nb 27 T : Nat), .bool lb, .bool kb] 127) = wx at *
 have hne : w2.heap.size ≠ w.heap.size + 1 := by omega
 generalize w2.heap.size = ga at *
 obtain ⟨q0, q1, q2⟩ := O0.c3
 have hbb := (Below.refl wx.heap.size wx).drew
 have RG : ∀ w', Below wx.heap.size wx w' → (fun w' => Below w.heap.size w w' ∧ w'.cell? ⟨ga, 0, none⟩ = some (.int .u32 (nb 27 T : Nat)) ∧ w'.cell? ⟨ga, 1, none⟩ = some (.bool lb) ∧ w'.cell? ⟨ga, 2, none⟩ = some (.bool kb)) w' := fun w' h => ⟨bmore HB0.out HB0.out.size h, ckeep h q0, ckeep h q1, ckeep h q2⟩
 have RG' := Lib.hid RG
 clear RG q0 q1 q2 O0
 refine wp_region_held_drew (S := fun w' => Below w.heap.size w w' ∧ w'.cell? ⟨ga, 0, none⟩ = some (.int .u32 (nb 27 T : Nat)) ∧ w'.cell? ⟨ga, 1, none⟩ = some (.bool lb) ∧ w'.cell? ⟨ga, 2, none⟩ = some (.bool kb)) (by kernel_rfl) (RG'.out _ hbb) (fun hHeld => ?_)
 refine wpAnyH_take (i := 0) (oi := { dst := some 23, op := _, type := _, pos := _, after := _, guard := _ }) (v := ?_) rfl (by kernel_rfl) (by kernel_rfl) (by kernel_rfl) (fun _ _ _ h => h) (Or.inl ⟨by kernel_rfl, ?_⟩) hHeld ?_
 rotate_left
 ·intro w hSw
  (try dsimp only at hSw)
  go_simp
  first | done | with_reducible rfl
 simp only [Act.put]
 refine wpAnyH_take (i := 1) (oi := { dst := some 24, op := _, type := _, pos := _, after := _, guard := _ }) (v := ?_) rfl (by kernel_rfl) (by kernel_rfl) (by kernel_rfl) (fun _ _ _ h => h) (Or.inl ⟨by kernel_rfl, ?_⟩) hHeld ?_
 rotate_left
 ·intro w hSw
  (try dsimp only at hSw)
  go_simp
  first | done | with_reducible rfl
 simp only [Act.put]
 refine wpAnyH_take (i := 3) (oi := { dst := some 26, op := _, type := _, pos := _, after := _, guard := _ }) (v := ?_) rfl (by kernel_rfl) (by kernel_rfl) (by kernel_rfl) (fun _ _ _ h => h) (Or.inl ⟨by kernel_rfl, ?_⟩) hHeld ?_
 rotate_left
 ·intro w hSw
  (try dsimp only at hSw)
  go_simp
  first | done | with_reducible rfl
 simp only [Act.put]
 refine wpAnyH_take (i := 4) (oi := { dst := some 27, op := _, type := _, pos := _, after := _, guard := _ }) (v := ?_) rfl (by kernel_rfl) (by kernel_rfl) (by kernel_rfl) (fun _ _ _ h => h) (Or.inl ⟨by kernel_rfl, ?_⟩) hHeld ?_
 rotate_left
 ·intro w hSw
  (try dsimp only at hSw)
  go_simp
  first | done | with_reducible rfl
 simp only [Act.put]
 refine wpAnyH_take (i := 5) (oi := { dst := some 28, op := _, type := _, pos := _, after := _, guard := _ }) (v := ?_) rfl (by kernel_rfl) (by kernel_rfl) (by kernel_rfl) (fun _ _ _ h => h) (Or.inl ⟨by kernel_rfl, ?_⟩) hHeld ?_
 rotate_left
 ·intro w hSw
  (try dsimp only at hSw)
  go_simp
  first | done | with_reducible rfl
 simp only [Act.put]
 refine wpAnyH_take (i := 6) (oi := { dst := some 29, op := _, type := _, pos := _, after := _, guard := _ }) (v := ?_) rfl (by kernel_rfl) (by kernel_rfl) (by kernel_rfl) (fun _ _ _ h => h) (Or.inl ⟨by kernel_rfl, ?_⟩) hHeld ?_
 rotate_left
 ·intro w hSw
  (try dsimp only at hSw)
  go_simp
  first | done | with_reducible rfl
 simp only [Act.put]
 refine wpAnyH_ready (rs := [2]) (by kernel_rfl) (by simp) ?_
 refine AllReadyH.cons rfl (fun K hK => ?_) AllReadyH.nil
 go_simp
 (with_reducible refine (CT _).out.mono ?_)
 rintro e w5 ⟨rfl, hq⟩
 go_wp2_with fail
 have HQ := Lib.hid (bnext hbb hq)
 refine hK.out _ _ (RG'.out _ (bnext hbb hq)) (fun hHeld => ?_)
 clear hq
 clear hK K
 try simp only [Act.put]
 refine wpAnyH_take (i := 7) (oi := { dst := some 30, op := _, type := _, pos := _, after := _, guard := _ }) (v := ?_) rfl (by kernel_rfl) (by kernel_rfl) (by kernel_rfl) (fun _ _ _ h => h) (Or.inl ⟨by kernel_rfl, ?_⟩) hHeld ?_
 rotate_left
 ·intro w hSw
  (try dsimp only at hSw)
  go_simp
  first | done | with_reducible rfl
 simp only [Act.put]
 have Z := Lib.hid (G0.out.kept HQ.out)
 obtain ⟨z0, z1, z2, u0, u1, u2⟩ := Z.out.a3
 have hg := Z.out.lt
 refine wpAnyH_ready (rs := [8]) (by kernel_rfl) (by simp) ?_
 refine AllReadyH.cons rfl (fun K hK => ?_) AllReadyH.nil
 go_simp
 have HZ := Lib.hid hHeld
 refine hK.out _ _ ⟨by (repeat refine Below.setCell ?_ (by simp) _); exact HZ.out.1, ?_, ?_, ?_⟩ (fun hHeld => ?_)
 ·rw [World.cell?_setCell_far _ _ _ _ (fun e => hne e.symm), World.cell?_setCell_far _ _ _ _ (fun e => hne e.symm), World.cell?_setCell_far _ _ _ _ (fun e => hne e.symm)]; exact HZ.out.2.1
 ·rw [World.cell?_setCell_far _ _ _ _ (fun e => hne e.symm), World.cell?_setCell_far _ _ _ _ (fun e => hne e.symm), World.cell?_setCell_far _ _ _ _ (fun e => hne e.symm)]; exact HZ.out.2.2.1
 ·rw [World.cell?_setCell_far _ _ _ _ (fun e => hne e.symm), World.cell?_setCell_far _ _ _ _ (fun e => hne e.symm), World.cell?_setCell_far _ _ _ _ (fun e => hne e.symm)]; exact HZ.out.2.2.2
 clear hK K
 try simp only [Act.put]
 refine wpAnyH_take (i := 9) (oi := { dst := some 5, op := .assign (.const (.bool true)), type := _, pos := _, after := _, guard := _ }) (v := ?_) rfl (by kernel_rfl) (by kernel_rfl) (by kernel_rfl) (fun _ _ _ h => h) (Or.inl ⟨by kernel_rfl, ?_⟩) hHeld ?_
 rotate_left
 ·intro w hSw
  (try dsimp only at hSw)
  go_simp
  first | done | with_reducible rfl
 simp only [Act.put]
 refine wpAnyH_done (by kernel_rfl) ?_ _
 have HF := Lib.hid hHeld.1
 go_wp2_with fail
 exact bodyPost_ret (v := .tuple #[.agg #[.string txt, .bool lb, .bool kb], .bool true]) (by simp [results, Tryz.results45, go_sem, z0, z1, z2]) rfl ⟨rfl, HF.out⟩
end Go.Proofs.YtgkoljphndgoeaaGreatDoor
