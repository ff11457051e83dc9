import Derived.Test.YtepokmggbfoakaaGreatDoorA48
set_option maxRecDepth 100000
namespace Go.Proofs.YtepokmggbfoakaaGreatDoor.StreamSmall
open Go.ChangeShapes Go.WideShapes Go.ChangeAt Go.RowKit
theorem Cy(R:bp 8192):Rows.StreamSmallCardSaid:=
 Claim7.holds_tied_plain_at .later [] [.data,.data,.data] true Rows.streamSmallCard.stood.harness true (row R) (fun _ h=>by cases h) (by kernel_rfl) (fun _ h=>by cases h) streamSmall_row_tie rfl ⟨rfl,rfl⟩ rG rfl
  (fun f fn hf hfn=>by
    obtain rfl:f=9:=(My ((show Tryz.prog.funcNamed "kist/kistlaw13.StreamSmall" =some 9 by kernel_rfl).symm.trans hf)).symm
    obtain rfl:fn=Tryz.f9:=(My (Tryz.func9.symm.trans hfn)).symm
    refine⟨oM,fun j t ht=> ?_⟩
    rw[Tryz.params9]at ht
    rcases j with _ | j
    ·obtain rfl:=My ht
     kernel_rfl
    ·simp at ht)
  (by kernel_rfl)
end Go.Proofs.YtepokmggbfoakaaGreatDoor.StreamSmall
