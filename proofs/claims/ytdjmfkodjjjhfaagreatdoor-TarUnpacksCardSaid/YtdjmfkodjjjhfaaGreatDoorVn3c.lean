/- TarUnpacks: the tied card. -/
import Derived.Test.YtdjmfkodjjjhfaaGreatDoorVn3
namespace Go.Proofs.YtdjmfkodjjjhfaaGreatDoor.TarUnpacks
open Go.ChangeShapes Go.WideShapes Go.ChangeAt Go.RowKit

set_option maxRecDepth 100000 in
theorem over (R : TarDone) : Rows.TarUnpacksCardSaid :=
  Claim7.holds_tied_plain_at .later [] [.data, .data, .data] true Rows.tarUnpacksCard.stood.harness false (row R) (fun _ h => by cases h) (by kernel_rfl) (fun _ h => by cases h) tarUnpacks_row_tie rfl ⟨rfl, rfl⟩ main_is rfl
    (fun f fn hf hfn => by
      obtain rfl : f = 6 := (Option.some.inj ((show Tryz.prog.funcNamed "kist/kistlaw18.TarUnpacks" = some 6 by kernel_rfl).symm.trans hf)).symm
      obtain rfl : fn = Tryz.f6 := (Option.some.inj (Tryz.func6.symm.trans hfn)).symm
      refine ⟨looks_on, fun j t ht => ?_⟩
      rw [Tryz.params6] at ht
      rcases j with _ | j
      · obtain rfl := Option.some.inj ht
        kernel_rfl
      · simp at ht)
    (by kernel_rfl)

end Go.Proofs.YtdjmfkodjjjhfaaGreatDoor.TarUnpacks
