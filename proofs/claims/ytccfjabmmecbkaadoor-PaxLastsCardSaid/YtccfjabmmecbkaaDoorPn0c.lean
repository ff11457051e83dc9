/- PaxLasts: the tied card. -/
import Derived.Test.YtccfjabmmecbkaaDoorPn0
namespace Go.Proofs.YtccfjabmmecbkaaDoor.PaxLasts
open Go.ChangeShapes Go.WideShapes Go.ChangeAt Go.RowKit

set_option maxRecDepth 100000 in
theorem over (R : PaxDone) : Rows.PaxLastsCardSaid :=
  Claim7.holds_tied_plain_at .later [] [.data, .data, .data] true Rows.paxLastsCard.stood.harness false (row R) (fun _ h => by cases h) (by kernel_rfl) (fun _ h => by cases h) paxLasts_row_tie rfl ⟨rfl, rfl⟩ main_is rfl
    (fun f fn hf hfn => by
      obtain rfl : f = 3 := (Option.some.inj ((show Tryd.prog.funcNamed "kist/kistlaw17.PaxLasts" = some 3 by kernel_rfl).symm.trans hf)).symm
      obtain rfl : fn = Tryd.f3 := (Option.some.inj (Tryd.func3.symm.trans hfn)).symm
      refine ⟨looks_on, fun j t ht => ?_⟩
      rw [Tryd.params3] at ht
      rcases j with _ | j
      · obtain rfl := Option.some.inj ht
        kernel_rfl
      rcases j with _ | j
      · obtain rfl := Option.some.inj ht
        kernel_rfl
      · simp at ht)
    (by kernel_rfl)

end Go.Proofs.YtccfjabmmecbkaaDoor.PaxLasts
