import Derived.Test.YtgkoljphndgoeaaGreatDoorPp0
import Derived.Test.YtgkoljphndgoeaaGreatDoorRp0
import Derived.Test.YtgkoljphndgoeaaGreatDoorTopG2
namespace Go.Proofs.YtgkoljphndgoeaaGreatDoor
open Go.RowKit Go.Great Tm
set_option maxHeartbeats 1000000 in
theorem ppProg_t (p : Pg) (hp : p.ok false) (lp : p.ser.length ≤ 200) : Gives 29 #[.string (bs p.ser)] (.string (bs (relT (rT p)))) := fun w => Lib.hid (by
 have C := fun w => Lib.hid (implRp_yes (bs p.ser) w hp (by simp [bs]) (by rw [bs_size]; exact lp))
 unfold relV at C
 go_enter Tryz.func29, Tryz.ntmps29
 go_wp2_with fail
 refine (C _).out.mono ?_
 rintro e w1 ⟨rfl, hb⟩
 have HB := Lib.hid hb
 clear hb
 go_wp2_with fail
 go_ret
 exact ⟨rfl, HB.out⟩)
end Go.Proofs.YtgkoljphndgoeaaGreatDoor
