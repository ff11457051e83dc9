/- TarLasts: the tied card. -/
import Derived.Test.YtdjmfkodjjjhfaaGreatDoorVn4
namespace Go.Proofs.YtdjmfkodjjjhfaaGreatDoor.TarLasts
open Go.ChangeShapes Go.WideShapes Go.ChangeAt Go.RowKit

set_option maxRecDepth 100000 in
theorem over (R : TarDone) : Rows.TarLastsCardSaid :=
  Claim7.holds_tied_plain_at .later [] [.data, .data, .data] true Rows.tarLastsCard.stood.harness false (row R) (fun _ h => by cases h) (by kernel_rfl) (fun _ h => by cases h) tarLasts_row_tie rfl ⟨rfl, rfl⟩ main_is rfl
    (fun f fn hf hfn => by
      obtain rfl : f = 7 := (Option.some.inj ((show Tryz.prog.funcNamed "kist/kistlaw18.TarLasts" = some 7 by kernel_rfl).symm.trans hf)).symm
      obtain rfl : fn = Tryz.f7 := (Option.some.inj (Tryz.func7.symm.trans hfn)).symm
      refine ⟨looks_on, fun j t ht => ?_⟩
      rw [Tryz.params7] at ht
      rcases j with _ | j
      · obtain rfl := Option.some.inj ht
        kernel_rfl
      · simp at ht)
    (by kernel_rfl)

end Go.Proofs.YtdjmfkodjjjhfaaGreatDoor.TarLasts
