/- TarReads: the tied card. -/
import Derived.Test.YtdjmfkodjjjhfaaGreatDoorVn1
namespace Go.Proofs.YtdjmfkodjjjhfaaGreatDoor.TarReads
open Go.ChangeShapes Go.WideShapes Go.ChangeAt Go.RowKit

set_option maxRecDepth 100000 in
theorem over (R : TarDone) : Rows.TarReadsCardSaid :=
  Claim7.holds_tied_plain_at .later [] [.data, .data, .data] true Rows.tarReadsCard.stood.harness false (row R) (fun _ h => by cases h) (by kernel_rfl) (fun _ h => by cases h) tarReads_row_tie rfl ⟨rfl, rfl⟩ main_is rfl
    (fun f fn hf hfn => by
      obtain rfl : f = 4 := (Option.some.inj ((show Tryz.prog.funcNamed "kist/kistlaw18.TarReads" = some 4 by kernel_rfl).symm.trans hf)).symm
      obtain rfl : fn = Tryz.f4 := (Option.some.inj (Tryz.func4.symm.trans hfn)).symm
      refine ⟨looks_on, fun j t ht => ?_⟩
      rw [Tryz.params4] at ht
      rcases j with _ | j
      · obtain rfl := Option.some.inj ht
        kernel_rfl
      · simp at ht)
    (by kernel_rfl)

end Go.Proofs.YtdjmfkodjjjhfaaGreatDoor.TarReads
