/- A source of draws: 'One'. -/
import Derived.Test.YtppelebolgkghaaDoorDB0
namespace Go.Proofs.YtppelebolgkghaaDoor
open Go.RowKit
set_option linter.unusedVariables false
theorem drawOne_any (g : Nat) (a : Option Addr) (zs : List Int) (c : Nat) (k : Int) (w : World) (hD : Draws w g a zs c) (hb : Bytes zs) (hn : zs.length ≤ 2000000) (hk : 2 ≤ k ∧ k ≤ 9223372036854775807) :
    Calls Tryd.prog 21 #[.pointer (some ⟨g, 0, none⟩), .int .i64 k] w fun e w' => ∃ r : Bool, e = .returned (.bool r) ∧ Draws w' g a zs c ∧ ∃ cs, Put w g cs 50 w' := by
  have HD : Hid _ := hD
  have HB : Hid (Bytes zs) := hb
  clear hD hb
  go_enter Tryd.func21, Tryd.ntmps21
  go_wp2_with fail
  refine (drawN_any g a zs c k w HD.out HB.out hn hk).mono ?_
  rintro e w1 ⟨r, hr0, hr1, rfl, hD1, cs, hP⟩
  have H1 : Hid _ := hD1
  have H2 : Hid _ := hP
  clear hD1 hP HD
  go_wp2
  go_ret
  exact ⟨_, rfl, H1.out, cs, H2.out⟩
end Go.Proofs.YtppelebolgkghaaDoor
