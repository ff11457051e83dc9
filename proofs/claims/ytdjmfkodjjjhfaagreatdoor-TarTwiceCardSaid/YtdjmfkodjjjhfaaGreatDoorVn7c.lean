/- TarTwice: the tied card. -/
import Derived.Test.YtdjmfkodjjjhfaaGreatDoorVn7
namespace Go.Proofs.YtdjmfkodjjjhfaaGreatDoor.TarTwice
open Go.ChangeShapes Go.WideShapes Go.ChangeAt Go.RowKit

set_option maxRecDepth 100000 in
theorem over (R : TarDone) : Rows.TarTwiceCardSaid :=
  Claim7.holds_tied_plain_at .later [] [.data, .data, .data] true Rows.tarTwiceCard.stood.harness false (row R) (fun _ h => by cases h) (by kernel_rfl) (fun _ h => by cases h) tarTwice_row_tie rfl ⟨rfl, rfl⟩ main_is rfl
    (fun f fn hf hfn => by
      obtain rfl : f = 10 := (Option.some.inj ((show Tryz.prog.funcNamed "kist/kistlaw18.TarTwice" = some 10 by kernel_rfl).symm.trans hf)).symm
      obtain rfl : fn = Tryz.f10 := (Option.some.inj (Tryz.func10.symm.trans hfn)).symm
      refine ⟨looks_on, fun j t ht => ?_⟩
      rw [Tryz.params10] at ht
      rcases j with _ | j
      · obtain rfl := Option.some.inj ht
        kernel_rfl
      rcases j with _ | j
      · obtain rfl := Option.some.inj ht
        kernel_rfl
      · simp at ht)
    (by kernel_rfl)

end Go.Proofs.YtdjmfkodjjjhfaaGreatDoor.TarTwice
