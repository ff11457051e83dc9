/- TarCuts: the tied card. -/
import Derived.Test.YtdjmfkodjjjhfaaGreatDoorVn6
namespace Go.Proofs.YtdjmfkodjjjhfaaGreatDoor.TarCuts
open Go.ChangeShapes Go.WideShapes Go.ChangeAt Go.RowKit

set_option maxRecDepth 100000 in
theorem over (R : TarDone) : Rows.TarCutsCardSaid :=
  Claim7.holds_tied_plain_at .later [] [.data, .data, .data] true Rows.tarCutsCard.stood.harness false (row R) (fun _ h => by cases h) (by kernel_rfl) (fun _ h => by cases h) tarCuts_row_tie rfl ⟨rfl, rfl⟩ main_is rfl
    (fun f fn hf hfn => by
      obtain rfl : f = 9 := (Option.some.inj ((show Tryz.prog.funcNamed "kist/kistlaw18.TarCuts" = some 9 by kernel_rfl).symm.trans hf)).symm
      obtain rfl : fn = Tryz.f9 := (Option.some.inj (Tryz.func9.symm.trans hfn)).symm
      refine ⟨looks_on, fun j t ht => ?_⟩
      rw [Tryz.params9] at ht
      rcases j with _ | j
      · obtain rfl := Option.some.inj ht
        kernel_rfl
      rcases j with _ | j
      · obtain rfl := Option.some.inj ht
        kernel_rfl
      · simp at ht)
    (by kernel_rfl)

end Go.Proofs.YtdjmfkodjjjhfaaGreatDoor.TarCuts
