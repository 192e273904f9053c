/-
  NARROWER THAN 'FOR EVERY INPUT', by the rows' own cells (each row's printed sentence says how): FnExactHash: laid · FnExactMac: laid · FnExactHmac: laid · FnExactKdf: laid · FnHashing: laid · FnExactCookieOf: laid · FnExactStampMacs: laid · FnExactCheckMacs: laid.
  DERIVED. THE GIVEN ROWS OF THIS SEAT. 8 by the template 'for every input the law returns true; each argument reads behind the call as it read before'; 0 by the template 'total and deterministic' (their statements: YtgpjdbkdnojbhaaDoorTotals.lean).
  GIVEN WITH THE SEED: the statements are not yours to turn. If you find one false, say at which input.
  Laid BY PROGRAM, IN A SANDBOX (cutbox-rows.mjs): the forced cells as the released guide's own fill.sh prints them over the translation aadc6c462c34d442… (all of the seat's roots in one cut). By AI agents, Wed Nov 11 2026. No macro, syntax, notation, axiom, sorry.
-/
import Derived.Test.YtgpjdbkdnojbhaaDoorChecked
import GoSem.Claim
import GoSem.ClaimJoined
import GoSem.ClaimMapViews
import Derived.JoinedTies
import Derived.KernelRfl
namespace Go.Proofs.YtgpjdbkdnojbhaaDoor
/- THE CELL 'sum', in the pinned program and in every row, IS THE sha256 OF THE DUMP (.gsa) THAT YtgpjdbkdnojbhaaDoorProg.lean LOADS. Nothing in Lean hashes anything: it is a label: what it is worth is what the hold of that sum in a sandbox is worth. -/
noncomputable def Tryd.pinned : Pinned := { name := "ytgpjdbkdnojbhaadoor", sum := "aadc6c462c34d442904f7209a08cb49cd4108bc7989ba12047fb7c29c0a9eac4", checked := Tryd.checked }
namespace Rows
def none {H : Type} : Left H := { results := [], args := [] }

/- WHAT THE LISTED PACKAGE-LEVEL VARIABLES READ AS WHEN THE CALL BEGINS. Each datum BY PROGRAM (the guide's laid-datum.mjs) off the statement by which the dump's own 'gosem.cut.vars' lays the variable. In a bare row this is a premise. The card (YtgpjdbkdnojbhaaDoorCards.lean) ties it to the program's text. -/
def laid_loop_example_s02974_impl_blakeStart {H : Type} : DataW H := .agg [.lit (.int .u32 1779033703), .lit (.int .u32 3144134277), .lit (.int .u32 1013904242), .lit (.int .u32 2773480762), .lit (.int .u32 1359893119), .lit (.int .u32 2600822924), .lit (.int .u32 528734635), .lit (.int .u32 1541459225)]
def laid_loop_example_s02974_impl_blakeOrder {H : Type} : DataW H := .agg [.agg [.lit (.int .u8 0), .lit (.int .u8 1), .lit (.int .u8 2), .lit (.int .u8 3), .lit (.int .u8 4), .lit (.int .u8 5), .lit (.int .u8 6), .lit (.int .u8 7), .lit (.int .u8 8), .lit (.int .u8 9), .lit (.int .u8 10), .lit (.int .u8 11), .lit (.int .u8 12), .lit (.int .u8 13), .lit (.int .u8 14), .lit (.int .u8 15)], .agg [.lit (.int .u8 14), .lit (.int .u8 10), .lit (.int .u8 4), .lit (.int .u8 8), .lit (.int .u8 9), .lit (.int .u8 15), .lit (.int .u8 13), .lit (.int .u8 6), .lit (.int .u8 1), .lit (.int .u8 12), .lit (.int .u8 0), .lit (.int .u8 2), .lit (.int .u8 11), .lit (.int .u8 7), .lit (.int .u8 5), .lit (.int .u8 3)], .agg [.lit (.int .u8 11), .lit (.int .u8 8), .lit (.int .u8 12), .lit (.int .u8 0), .lit (.int .u8 5), .lit (.int .u8 2), .lit (.int .u8 15), .lit (.int .u8 13), .lit (.int .u8 10), .lit (.int .u8 14), .lit (.int .u8 3), .lit (.int .u8 6), .lit (.int .u8 7), .lit (.int .u8 1), .lit (.int .u8 9), .lit (.int .u8 4)], .agg [.lit (.int .u8 7), .lit (.int .u8 9), .lit (.int .u8 3), .lit (.int .u8 1), .lit (.int .u8 13), .lit (.int .u8 12), .lit (.int .u8 11), .lit (.int .u8 14), .lit (.int .u8 2), .lit (.int .u8 6), .lit (.int .u8 5), .lit (.int .u8 10), .lit (.int .u8 4), .lit (.int .u8 0), .lit (.int .u8 15), .lit (.int .u8 8)], .agg [.lit (.int .u8 9), .lit (.int .u8 0), .lit (.int .u8 5), .lit (.int .u8 7), .lit (.int .u8 2), .lit (.int .u8 4), .lit (.int .u8 10), .lit (.int .u8 15), .lit (.int .u8 14), .lit (.int .u8 1), .lit (.int .u8 11), .lit (.int .u8 12), .lit (.int .u8 6), .lit (.int .u8 8), .lit (.int .u8 3), .lit (.int .u8 13)], .agg [.lit (.int .u8 2), .lit (.int .u8 12), .lit (.int .u8 6), .lit (.int .u8 10), .lit (.int .u8 0), .lit (.int .u8 11), .lit (.int .u8 8), .lit (.int .u8 3), .lit (.int .u8 4), .lit (.int .u8 13), .lit (.int .u8 7), .lit (.int .u8 5), .lit (.int .u8 15), .lit (.int .u8 14), .lit (.int .u8 1), .lit (.int .u8 9)], .agg [.lit (.int .u8 12), .lit (.int .u8 5), .lit (.int .u8 1), .lit (.int .u8 15), .lit (.int .u8 14), .lit (.int .u8 13), .lit (.int .u8 4), .lit (.int .u8 10), .lit (.int .u8 0), .lit (.int .u8 7), .lit (.int .u8 6), .lit (.int .u8 3), .lit (.int .u8 9), .lit (.int .u8 2), .lit (.int .u8 8), .lit (.int .u8 11)], .agg [.lit (.int .u8 13), .lit (.int .u8 11), .lit (.int .u8 7), .lit (.int .u8 14), .lit (.int .u8 12), .lit (.int .u8 1), .lit (.int .u8 3), .lit (.int .u8 9), .lit (.int .u8 5), .lit (.int .u8 0), .lit (.int .u8 15), .lit (.int .u8 4), .lit (.int .u8 8), .lit (.int .u8 6), .lit (.int .u8 2), .lit (.int .u8 10)], .agg [.lit (.int .u8 6), .lit (.int .u8 15), .lit (.int .u8 14), .lit (.int .u8 9), .lit (.int .u8 11), .lit (.int .u8 3), .lit (.int .u8 0), .lit (.int .u8 8), .lit (.int .u8 12), .lit (.int .u8 2), .lit (.int .u8 13), .lit (.int .u8 7), .lit (.int .u8 1), .lit (.int .u8 4), .lit (.int .u8 10), .lit (.int .u8 5)], .agg [.lit (.int .u8 10), .lit (.int .u8 2), .lit (.int .u8 8), .lit (.int .u8 4), .lit (.int .u8 7), .lit (.int .u8 6), .lit (.int .u8 1), .lit (.int .u8 5), .lit (.int .u8 15), .lit (.int .u8 11), .lit (.int .u8 9), .lit (.int .u8 14), .lit (.int .u8 3), .lit (.int .u8 12), .lit (.int .u8 13), .lit (.int .u8 0)]]
def laid_loop_example_s02974_impl_mixPlaces {H : Type} : DataW H := .agg [.agg [.lit (.int .u8 0), .lit (.int .u8 4), .lit (.int .u8 8), .lit (.int .u8 12)], .agg [.lit (.int .u8 1), .lit (.int .u8 5), .lit (.int .u8 9), .lit (.int .u8 13)], .agg [.lit (.int .u8 2), .lit (.int .u8 6), .lit (.int .u8 10), .lit (.int .u8 14)], .agg [.lit (.int .u8 3), .lit (.int .u8 7), .lit (.int .u8 11), .lit (.int .u8 15)], .agg [.lit (.int .u8 0), .lit (.int .u8 5), .lit (.int .u8 10), .lit (.int .u8 15)], .agg [.lit (.int .u8 1), .lit (.int .u8 6), .lit (.int .u8 11), .lit (.int .u8 12)], .agg [.lit (.int .u8 2), .lit (.int .u8 7), .lit (.int .u8 8), .lit (.int .u8 13)], .agg [.lit (.int .u8 3), .lit (.int .u8 4), .lit (.int .u8 9), .lit (.int .u8 14)]]

/-- 'laws.FnExactHash': WHATEVER THE INPUT: true; the input reads as it did. -/
def fnExactHashSpec : ChangeSpec := { name := "fnExactHash", vars := ["loop.example/s02974/impl.blakeStart", "loop.example/s02974/impl.mixPlaces", "loop.example/s02974/impl.blakeOrder"], fn := fun _ => fun
  | [d, g1, g2, g3] => { results := [.lit (.bool true)], args := [d], vars := [g1, g2, g3] }
  | _ => none }
def fnExactHashRow : OpenClaim := { program := "ytgpjdbkdnojbhaadoor", sum := "aadc6c462c34d442904f7209a08cb49cd4108bc7989ba12047fb7c29c0a9eac4", func := "loop.example/s02974/laws.FnExactHash", spec := "fnExactHash", named := ["loop.example/s02974/impl.blakeStart", "loop.example/s02974/impl.mixPlaces", "loop.example/s02974/impl.blakeOrder"], apart := false, laid := [("loop.example/s02974/impl.blakeStart", laid_loop_example_s02974_impl_blakeStart), ("loop.example/s02974/impl.blakeOrder", laid_loop_example_s02974_impl_blakeOrder), ("loop.example/s02974/impl.mixPlaces", laid_loop_example_s02974_impl_mixPlaces)] }
def FnExactHashSaid : Prop := fnExactHashRow.holds Tryd.pinned (OpenSpec.ofChange fnExactHashSpec)

/-- ITS FALSE NEIGHBOUR: 'it returns false'. Refute it at one input. -/
def fnExactHashWrong : ChangeSpec := { name := "fnExactHash", vars := ["loop.example/s02974/impl.blakeStart", "loop.example/s02974/impl.mixPlaces", "loop.example/s02974/impl.blakeOrder"], fn := fun _ => fun
  | [d, g1, g2, g3] => { results := [.lit (.bool false)], args := [d], vars := [g1, g2, g3] }
  | _ => none }
def FnExactHashWrongFalsely : Prop := fnExactHashRow.holds Tryd.pinned (OpenSpec.ofChange fnExactHashWrong)

/-- 'laws.FnExactMac': WHATEVER THE INPUT: true; the input reads as it did. -/
def fnExactMacSpec : ChangeSpec := { name := "fnExactMac", vars := ["loop.example/s02974/impl.blakeStart", "loop.example/s02974/impl.mixPlaces", "loop.example/s02974/impl.blakeOrder"], fn := fun _ => fun
  | [d1, d2, g1, g2, g3] => { results := [.lit (.bool true)], args := [d1, d2], vars := [g1, g2, g3] }
  | _ => none }
def fnExactMacRow : OpenClaim := { program := "ytgpjdbkdnojbhaadoor", sum := "aadc6c462c34d442904f7209a08cb49cd4108bc7989ba12047fb7c29c0a9eac4", func := "loop.example/s02974/laws.FnExactMac", spec := "fnExactMac", named := ["loop.example/s02974/impl.blakeStart", "loop.example/s02974/impl.mixPlaces", "loop.example/s02974/impl.blakeOrder"], apart := false, laid := [("loop.example/s02974/impl.blakeStart", laid_loop_example_s02974_impl_blakeStart), ("loop.example/s02974/impl.blakeOrder", laid_loop_example_s02974_impl_blakeOrder), ("loop.example/s02974/impl.mixPlaces", laid_loop_example_s02974_impl_mixPlaces)] }
def FnExactMacSaid : Prop := fnExactMacRow.holds Tryd.pinned (OpenSpec.ofChange fnExactMacSpec)

/-- ITS FALSE NEIGHBOUR: 'it returns false'. Refute it at one input. -/
def fnExactMacWrong : ChangeSpec := { name := "fnExactMac", vars := ["loop.example/s02974/impl.blakeStart", "loop.example/s02974/impl.mixPlaces", "loop.example/s02974/impl.blakeOrder"], fn := fun _ => fun
  | [d1, d2, g1, g2, g3] => { results := [.lit (.bool false)], args := [d1, d2], vars := [g1, g2, g3] }
  | _ => none }
def FnExactMacWrongFalsely : Prop := fnExactMacRow.holds Tryd.pinned (OpenSpec.ofChange fnExactMacWrong)

/-- 'laws.FnExactHmac': WHATEVER THE INPUT: true; the input reads as it did. -/
def fnExactHmacSpec : ChangeSpec := { name := "fnExactHmac", vars := ["loop.example/s02974/impl.blakeStart", "loop.example/s02974/impl.mixPlaces", "loop.example/s02974/impl.blakeOrder"], fn := fun _ => fun
  | [d1, d2, g1, g2, g3] => { results := [.lit (.bool true)], args := [d1, d2], vars := [g1, g2, g3] }
  | _ => none }
def fnExactHmacRow : OpenClaim := { program := "ytgpjdbkdnojbhaadoor", sum := "aadc6c462c34d442904f7209a08cb49cd4108bc7989ba12047fb7c29c0a9eac4", func := "loop.example/s02974/laws.FnExactHmac", spec := "fnExactHmac", named := ["loop.example/s02974/impl.blakeStart", "loop.example/s02974/impl.mixPlaces", "loop.example/s02974/impl.blakeOrder"], apart := false, laid := [("loop.example/s02974/impl.blakeStart", laid_loop_example_s02974_impl_blakeStart), ("loop.example/s02974/impl.blakeOrder", laid_loop_example_s02974_impl_blakeOrder), ("loop.example/s02974/impl.mixPlaces", laid_loop_example_s02974_impl_mixPlaces)] }
def FnExactHmacSaid : Prop := fnExactHmacRow.holds Tryd.pinned (OpenSpec.ofChange fnExactHmacSpec)

/-- ITS FALSE NEIGHBOUR: 'it returns false'. Refute it at one input. -/
def fnExactHmacWrong : ChangeSpec := { name := "fnExactHmac", vars := ["loop.example/s02974/impl.blakeStart", "loop.example/s02974/impl.mixPlaces", "loop.example/s02974/impl.blakeOrder"], fn := fun _ => fun
  | [d1, d2, g1, g2, g3] => { results := [.lit (.bool false)], args := [d1, d2], vars := [g1, g2, g3] }
  | _ => none }
def FnExactHmacWrongFalsely : Prop := fnExactHmacRow.holds Tryd.pinned (OpenSpec.ofChange fnExactHmacWrong)

/-- 'laws.FnExactKdf': WHATEVER THE INPUT: true; the input reads as it did. -/
def fnExactKdfSpec : ChangeSpec := { name := "fnExactKdf", vars := ["loop.example/s02974/impl.blakeStart", "loop.example/s02974/impl.mixPlaces", "loop.example/s02974/impl.blakeOrder"], fn := fun _ => fun
  | [d1, d2, d3, g1, g2, g3] => { results := [.lit (.bool true)], args := [d1, d2, d3], vars := [g1, g2, g3] }
  | _ => none }
def fnExactKdfRow : OpenClaim := { program := "ytgpjdbkdnojbhaadoor", sum := "aadc6c462c34d442904f7209a08cb49cd4108bc7989ba12047fb7c29c0a9eac4", func := "loop.example/s02974/laws.FnExactKdf", spec := "fnExactKdf", named := ["loop.example/s02974/impl.blakeStart", "loop.example/s02974/impl.mixPlaces", "loop.example/s02974/impl.blakeOrder"], apart := false, laid := [("loop.example/s02974/impl.blakeStart", laid_loop_example_s02974_impl_blakeStart), ("loop.example/s02974/impl.blakeOrder", laid_loop_example_s02974_impl_blakeOrder), ("loop.example/s02974/impl.mixPlaces", laid_loop_example_s02974_impl_mixPlaces)] }
def FnExactKdfSaid : Prop := fnExactKdfRow.holds Tryd.pinned (OpenSpec.ofChange fnExactKdfSpec)

/-- ITS FALSE NEIGHBOUR: 'it returns false'. Refute it at one input. -/
def fnExactKdfWrong : ChangeSpec := { name := "fnExactKdf", vars := ["loop.example/s02974/impl.blakeStart", "loop.example/s02974/impl.mixPlaces", "loop.example/s02974/impl.blakeOrder"], fn := fun _ => fun
  | [d1, d2, d3, g1, g2, g3] => { results := [.lit (.bool false)], args := [d1, d2, d3], vars := [g1, g2, g3] }
  | _ => none }
def FnExactKdfWrongFalsely : Prop := fnExactKdfRow.holds Tryd.pinned (OpenSpec.ofChange fnExactKdfWrong)

/-- 'laws.FnHashing': WHATEVER THE INPUT: true; the input reads as it did. -/
def fnHashingSpec : ChangeSpec := { name := "fnHashing", vars := ["loop.example/s02974/impl.blakeStart", "loop.example/s02974/impl.mixPlaces", "loop.example/s02974/impl.blakeOrder"], fn := fun _ => fun
  | [d, g1, g2, g3] => { results := [.lit (.bool true)], args := [d], vars := [g1, g2, g3] }
  | _ => none }
def fnHashingRow : OpenClaim := { program := "ytgpjdbkdnojbhaadoor", sum := "aadc6c462c34d442904f7209a08cb49cd4108bc7989ba12047fb7c29c0a9eac4", func := "loop.example/s02974/laws.FnHashing", spec := "fnHashing", named := ["loop.example/s02974/impl.blakeStart", "loop.example/s02974/impl.mixPlaces", "loop.example/s02974/impl.blakeOrder"], apart := false, laid := [("loop.example/s02974/impl.blakeStart", laid_loop_example_s02974_impl_blakeStart), ("loop.example/s02974/impl.blakeOrder", laid_loop_example_s02974_impl_blakeOrder), ("loop.example/s02974/impl.mixPlaces", laid_loop_example_s02974_impl_mixPlaces)] }
def FnHashingSaid : Prop := fnHashingRow.holds Tryd.pinned (OpenSpec.ofChange fnHashingSpec)

/-- ITS FALSE NEIGHBOUR: 'it returns false'. Refute it at one input. -/
def fnHashingWrong : ChangeSpec := { name := "fnHashing", vars := ["loop.example/s02974/impl.blakeStart", "loop.example/s02974/impl.mixPlaces", "loop.example/s02974/impl.blakeOrder"], fn := fun _ => fun
  | [d, g1, g2, g3] => { results := [.lit (.bool false)], args := [d], vars := [g1, g2, g3] }
  | _ => none }
def FnHashingWrongFalsely : Prop := fnHashingRow.holds Tryd.pinned (OpenSpec.ofChange fnHashingWrong)

/-- 'laws.FnExactCookieOf': WHATEVER THE INPUT: true; the input reads as it did. -/
def fnExactCookieOfSpec : ChangeSpec := { name := "fnExactCookieOf", vars := ["loop.example/s02974/impl.blakeStart", "loop.example/s02974/impl.mixPlaces", "loop.example/s02974/impl.blakeOrder"], fn := fun _ => fun
  | [d1, d2, g1, g2, g3] => { results := [.lit (.bool true)], args := [d1, d2], vars := [g1, g2, g3] }
  | _ => none }
def fnExactCookieOfRow : OpenClaim := { program := "ytgpjdbkdnojbhaadoor", sum := "aadc6c462c34d442904f7209a08cb49cd4108bc7989ba12047fb7c29c0a9eac4", func := "loop.example/s02974/laws.FnExactCookieOf", spec := "fnExactCookieOf", named := ["loop.example/s02974/impl.blakeStart", "loop.example/s02974/impl.mixPlaces", "loop.example/s02974/impl.blakeOrder"], apart := false, laid := [("loop.example/s02974/impl.blakeStart", laid_loop_example_s02974_impl_blakeStart), ("loop.example/s02974/impl.blakeOrder", laid_loop_example_s02974_impl_blakeOrder), ("loop.example/s02974/impl.mixPlaces", laid_loop_example_s02974_impl_mixPlaces)] }
def FnExactCookieOfSaid : Prop := fnExactCookieOfRow.holds Tryd.pinned (OpenSpec.ofChange fnExactCookieOfSpec)

/-- ITS FALSE NEIGHBOUR: 'it returns false'. Refute it at one input. -/
def fnExactCookieOfWrong : ChangeSpec := { name := "fnExactCookieOf", vars := ["loop.example/s02974/impl.blakeStart", "loop.example/s02974/impl.mixPlaces", "loop.example/s02974/impl.blakeOrder"], fn := fun _ => fun
  | [d1, d2, g1, g2, g3] => { results := [.lit (.bool false)], args := [d1, d2], vars := [g1, g2, g3] }
  | _ => none }
def FnExactCookieOfWrongFalsely : Prop := fnExactCookieOfRow.holds Tryd.pinned (OpenSpec.ofChange fnExactCookieOfWrong)

/-- 'laws.FnExactStampMacs': WHATEVER THE INPUT: true; the input reads as it did. -/
def fnExactStampMacsSpec : ChangeSpec := { name := "fnExactStampMacs", vars := ["loop.example/s02974/impl.blakeStart", "loop.example/s02974/impl.mixPlaces", "loop.example/s02974/impl.blakeOrder"], fn := fun _ => fun
  | [d1, d2, d3, d4, g1, g2, g3] => { results := [.lit (.bool true)], args := [d1, d2, d3, d4], vars := [g1, g2, g3] }
  | _ => none }
def fnExactStampMacsRow : OpenClaim := { program := "ytgpjdbkdnojbhaadoor", sum := "aadc6c462c34d442904f7209a08cb49cd4108bc7989ba12047fb7c29c0a9eac4", func := "loop.example/s02974/laws.FnExactStampMacs", spec := "fnExactStampMacs", named := ["loop.example/s02974/impl.blakeStart", "loop.example/s02974/impl.mixPlaces", "loop.example/s02974/impl.blakeOrder"], apart := false, laid := [("loop.example/s02974/impl.blakeStart", laid_loop_example_s02974_impl_blakeStart), ("loop.example/s02974/impl.blakeOrder", laid_loop_example_s02974_impl_blakeOrder), ("loop.example/s02974/impl.mixPlaces", laid_loop_example_s02974_impl_mixPlaces)] }
def FnExactStampMacsSaid : Prop := fnExactStampMacsRow.holds Tryd.pinned (OpenSpec.ofChange fnExactStampMacsSpec)

/-- ITS FALSE NEIGHBOUR: 'it returns false'. Refute it at one input. -/
def fnExactStampMacsWrong : ChangeSpec := { name := "fnExactStampMacs", vars := ["loop.example/s02974/impl.blakeStart", "loop.example/s02974/impl.mixPlaces", "loop.example/s02974/impl.blakeOrder"], fn := fun _ => fun
  | [d1, d2, d3, d4, g1, g2, g3] => { results := [.lit (.bool false)], args := [d1, d2, d3, d4], vars := [g1, g2, g3] }
  | _ => none }
def FnExactStampMacsWrongFalsely : Prop := fnExactStampMacsRow.holds Tryd.pinned (OpenSpec.ofChange fnExactStampMacsWrong)

/-- 'laws.FnExactCheckMacs': WHATEVER THE INPUT: true; the input reads as it did. -/
def fnExactCheckMacsSpec : ChangeSpec := { name := "fnExactCheckMacs", vars := ["loop.example/s02974/impl.blakeStart", "loop.example/s02974/impl.mixPlaces", "loop.example/s02974/impl.blakeOrder"], fn := fun _ => fun
  | [d1, d2, d3, g1, g2, g3] => { results := [.lit (.bool true)], args := [d1, d2, d3], vars := [g1, g2, g3] }
  | _ => none }
def fnExactCheckMacsRow : OpenClaim := { program := "ytgpjdbkdnojbhaadoor", sum := "aadc6c462c34d442904f7209a08cb49cd4108bc7989ba12047fb7c29c0a9eac4", func := "loop.example/s02974/laws.FnExactCheckMacs", spec := "fnExactCheckMacs", named := ["loop.example/s02974/impl.blakeStart", "loop.example/s02974/impl.mixPlaces", "loop.example/s02974/impl.blakeOrder"], apart := false, laid := [("loop.example/s02974/impl.blakeStart", laid_loop_example_s02974_impl_blakeStart), ("loop.example/s02974/impl.blakeOrder", laid_loop_example_s02974_impl_blakeOrder), ("loop.example/s02974/impl.mixPlaces", laid_loop_example_s02974_impl_mixPlaces)] }
def FnExactCheckMacsSaid : Prop := fnExactCheckMacsRow.holds Tryd.pinned (OpenSpec.ofChange fnExactCheckMacsSpec)

/-- ITS FALSE NEIGHBOUR: 'it returns false'. Refute it at one input. -/
def fnExactCheckMacsWrong : ChangeSpec := { name := "fnExactCheckMacs", vars := ["loop.example/s02974/impl.blakeStart", "loop.example/s02974/impl.mixPlaces", "loop.example/s02974/impl.blakeOrder"], fn := fun _ => fun
  | [d1, d2, d3, g1, g2, g3] => { results := [.lit (.bool false)], args := [d1, d2, d3], vars := [g1, g2, g3] }
  | _ => none }
def FnExactCheckMacsWrongFalsely : Prop := fnExactCheckMacsRow.holds Tryd.pinned (OpenSpec.ofChange fnExactCheckMacsWrong)

/- THE SECOND FORM. 'bulk': how many values and letters a reading holds, each counted each time it is reached (what is shared counts as often as it is met; a slice's spare places count too). A statement '..UptoSaid' is the law's where the arguments, and the package variables that the reading takes, are together of bulk at most 1048576: NARROWER than '..Said'. Prove '..Said' where nothing that the law and all that it calls make is longer than what came in: it says more and counts as full. Else prove '..UptoSaid'. A law counts once. -/
mutual
def uptoBulk {H : Type} : DataW H → Nat
  | .lit (.string bytes) => bytes.length + 1
  | .lit _ => 1
  | .nil => 1
  | .ptr d => uptoBulk d + 1
  | .slice elems spare => uptoBulkAll elems + uptoBulkAll spare + 1
  | .agg parts => uptoBulkAll parts + 1
  | .iface _ d => uptoBulk d + 1
  | .map entries => uptoBulkEntries entries + 1
  | .held _ => 1
def uptoBulkAll {H : Type} : List (DataW H) → Nat
  | [] => 0
  | d :: r => uptoBulk d + uptoBulkAll r
def uptoBulkEntries {H : Type} : List (Lit × DataW H) → Nat
  | [] => 0
  | x :: r => uptoBulkEntry x + uptoBulkEntries r
def uptoBulkEntry {H : Type} : Lit × DataW H → Nat
  | (.string bytes, d) => bytes.length + uptoBulk d + 1
  | (_, d) => uptoBulk d + 1
 end
def uptoSmall : (H : Type) → List (DataW H) → Bool := fun _ ds => decide (uptoBulkAll ds ≤ 1048576)
def OpenSpec.upto (s : _root_.Go.ChangeSpec) : _root_.Go.OpenSpec := { _root_.Go.OpenSpec.ofChange s with cond := some uptoSmall }

/-- 'laws.FnExactHash', WHERE WHAT IT READS IS OF BULK AT MOST 1048576: true; the input reads as it did. -/
def fnExactHashUptoRow : OpenClaim := { program := "ytgpjdbkdnojbhaadoor", sum := "aadc6c462c34d442904f7209a08cb49cd4108bc7989ba12047fb7c29c0a9eac4", func := "loop.example/s02974/laws.FnExactHash", spec := "fnExactHash", named := ["loop.example/s02974/impl.blakeStart", "loop.example/s02974/impl.mixPlaces", "loop.example/s02974/impl.blakeOrder"], apart := false, laid := [("loop.example/s02974/impl.blakeStart", laid_loop_example_s02974_impl_blakeStart), ("loop.example/s02974/impl.blakeOrder", laid_loop_example_s02974_impl_blakeOrder), ("loop.example/s02974/impl.mixPlaces", laid_loop_example_s02974_impl_mixPlaces)], narrowed := true }
def FnExactHashUptoSaid : Prop := fnExactHashUptoRow.holds Tryd.pinned (OpenSpec.upto fnExactHashSpec)

/-- 'laws.FnExactMac', WHERE WHAT IT READS IS OF BULK AT MOST 1048576: true; the input reads as it did. -/
def fnExactMacUptoRow : OpenClaim := { program := "ytgpjdbkdnojbhaadoor", sum := "aadc6c462c34d442904f7209a08cb49cd4108bc7989ba12047fb7c29c0a9eac4", func := "loop.example/s02974/laws.FnExactMac", spec := "fnExactMac", named := ["loop.example/s02974/impl.blakeStart", "loop.example/s02974/impl.mixPlaces", "loop.example/s02974/impl.blakeOrder"], apart := false, laid := [("loop.example/s02974/impl.blakeStart", laid_loop_example_s02974_impl_blakeStart), ("loop.example/s02974/impl.blakeOrder", laid_loop_example_s02974_impl_blakeOrder), ("loop.example/s02974/impl.mixPlaces", laid_loop_example_s02974_impl_mixPlaces)], narrowed := true }
def FnExactMacUptoSaid : Prop := fnExactMacUptoRow.holds Tryd.pinned (OpenSpec.upto fnExactMacSpec)

/-- 'laws.FnExactHmac', WHERE WHAT IT READS IS OF BULK AT MOST 1048576: true; the input reads as it did. -/
def fnExactHmacUptoRow : OpenClaim := { program := "ytgpjdbkdnojbhaadoor", sum := "aadc6c462c34d442904f7209a08cb49cd4108bc7989ba12047fb7c29c0a9eac4", func := "loop.example/s02974/laws.FnExactHmac", spec := "fnExactHmac", named := ["loop.example/s02974/impl.blakeStart", "loop.example/s02974/impl.mixPlaces", "loop.example/s02974/impl.blakeOrder"], apart := false, laid := [("loop.example/s02974/impl.blakeStart", laid_loop_example_s02974_impl_blakeStart), ("loop.example/s02974/impl.blakeOrder", laid_loop_example_s02974_impl_blakeOrder), ("loop.example/s02974/impl.mixPlaces", laid_loop_example_s02974_impl_mixPlaces)], narrowed := true }
def FnExactHmacUptoSaid : Prop := fnExactHmacUptoRow.holds Tryd.pinned (OpenSpec.upto fnExactHmacSpec)

/-- 'laws.FnExactKdf', WHERE WHAT IT READS IS OF BULK AT MOST 1048576: true; the input reads as it did. -/
def fnExactKdfUptoRow : OpenClaim := { program := "ytgpjdbkdnojbhaadoor", sum := "aadc6c462c34d442904f7209a08cb49cd4108bc7989ba12047fb7c29c0a9eac4", func := "loop.example/s02974/laws.FnExactKdf", spec := "fnExactKdf", named := ["loop.example/s02974/impl.blakeStart", "loop.example/s02974/impl.mixPlaces", "loop.example/s02974/impl.blakeOrder"], apart := false, laid := [("loop.example/s02974/impl.blakeStart", laid_loop_example_s02974_impl_blakeStart), ("loop.example/s02974/impl.blakeOrder", laid_loop_example_s02974_impl_blakeOrder), ("loop.example/s02974/impl.mixPlaces", laid_loop_example_s02974_impl_mixPlaces)], narrowed := true }
def FnExactKdfUptoSaid : Prop := fnExactKdfUptoRow.holds Tryd.pinned (OpenSpec.upto fnExactKdfSpec)

/-- 'laws.FnHashing', WHERE WHAT IT READS IS OF BULK AT MOST 1048576: true; the input reads as it did. -/
def fnHashingUptoRow : OpenClaim := { program := "ytgpjdbkdnojbhaadoor", sum := "aadc6c462c34d442904f7209a08cb49cd4108bc7989ba12047fb7c29c0a9eac4", func := "loop.example/s02974/laws.FnHashing", spec := "fnHashing", named := ["loop.example/s02974/impl.blakeStart", "loop.example/s02974/impl.mixPlaces", "loop.example/s02974/impl.blakeOrder"], apart := false, laid := [("loop.example/s02974/impl.blakeStart", laid_loop_example_s02974_impl_blakeStart), ("loop.example/s02974/impl.blakeOrder", laid_loop_example_s02974_impl_blakeOrder), ("loop.example/s02974/impl.mixPlaces", laid_loop_example_s02974_impl_mixPlaces)], narrowed := true }
def FnHashingUptoSaid : Prop := fnHashingUptoRow.holds Tryd.pinned (OpenSpec.upto fnHashingSpec)

/-- 'laws.FnExactCookieOf', WHERE WHAT IT READS IS OF BULK AT MOST 1048576: true; the input reads as it did. -/
def fnExactCookieOfUptoRow : OpenClaim := { program := "ytgpjdbkdnojbhaadoor", sum := "aadc6c462c34d442904f7209a08cb49cd4108bc7989ba12047fb7c29c0a9eac4", func := "loop.example/s02974/laws.FnExactCookieOf", spec := "fnExactCookieOf", named := ["loop.example/s02974/impl.blakeStart", "loop.example/s02974/impl.mixPlaces", "loop.example/s02974/impl.blakeOrder"], apart := false, laid := [("loop.example/s02974/impl.blakeStart", laid_loop_example_s02974_impl_blakeStart), ("loop.example/s02974/impl.blakeOrder", laid_loop_example_s02974_impl_blakeOrder), ("loop.example/s02974/impl.mixPlaces", laid_loop_example_s02974_impl_mixPlaces)], narrowed := true }
def FnExactCookieOfUptoSaid : Prop := fnExactCookieOfUptoRow.holds Tryd.pinned (OpenSpec.upto fnExactCookieOfSpec)

/-- 'laws.FnExactStampMacs', WHERE WHAT IT READS IS OF BULK AT MOST 1048576: true; the input reads as it did. -/
def fnExactStampMacsUptoRow : OpenClaim := { program := "ytgpjdbkdnojbhaadoor", sum := "aadc6c462c34d442904f7209a08cb49cd4108bc7989ba12047fb7c29c0a9eac4", func := "loop.example/s02974/laws.FnExactStampMacs", spec := "fnExactStampMacs", named := ["loop.example/s02974/impl.blakeStart", "loop.example/s02974/impl.mixPlaces", "loop.example/s02974/impl.blakeOrder"], apart := false, laid := [("loop.example/s02974/impl.blakeStart", laid_loop_example_s02974_impl_blakeStart), ("loop.example/s02974/impl.blakeOrder", laid_loop_example_s02974_impl_blakeOrder), ("loop.example/s02974/impl.mixPlaces", laid_loop_example_s02974_impl_mixPlaces)], narrowed := true }
def FnExactStampMacsUptoSaid : Prop := fnExactStampMacsUptoRow.holds Tryd.pinned (OpenSpec.upto fnExactStampMacsSpec)

/-- 'laws.FnExactCheckMacs', WHERE WHAT IT READS IS OF BULK AT MOST 1048576: true; the input reads as it did. -/
def fnExactCheckMacsUptoRow : OpenClaim := { program := "ytgpjdbkdnojbhaadoor", sum := "aadc6c462c34d442904f7209a08cb49cd4108bc7989ba12047fb7c29c0a9eac4", func := "loop.example/s02974/laws.FnExactCheckMacs", spec := "fnExactCheckMacs", named := ["loop.example/s02974/impl.blakeStart", "loop.example/s02974/impl.mixPlaces", "loop.example/s02974/impl.blakeOrder"], apart := false, laid := [("loop.example/s02974/impl.blakeStart", laid_loop_example_s02974_impl_blakeStart), ("loop.example/s02974/impl.blakeOrder", laid_loop_example_s02974_impl_blakeOrder), ("loop.example/s02974/impl.mixPlaces", laid_loop_example_s02974_impl_mixPlaces)], narrowed := true }
def FnExactCheckMacsUptoSaid : Prop := fnExactCheckMacsUptoRow.holds Tryd.pinned (OpenSpec.upto fnExactCheckMacsSpec)

end Rows
end Go.Proofs.YtgpjdbkdnojbhaaDoor
