import Derived.Test.YtepokmggbfoakaaGreatDoorA40
import Derived.Test.YtepokmggbfoakaaGreatDoorCards
import Derived.Test.YtepokmggbfoakaaGreatDoorTie
import Derived.SliceStrings
import Derived.LaidMore
import Derived.Stop.Joined
set_option maxRecDepth 100000
namespace Go.Proofs.YtepokmggbfoakaaGreatDoor
open Go.RowKit
theorem oM:true=Tryz.pinned.checked.prog.looks []:=by kernel_rfl
theorem rG:Tryz.pinned.checked.prog.mainIs=some (Rows.streamPacksCard.stood.harness.1,Rows.streamPacksCard.stood.harness.2.toList):=by kernel_rfl
theorem oE(os:Os)(args:Array Value):laidMetH Tryz.prog Rows.streamPacksRow.laid ((World.doorLaid Tryz.prog 24 os).forCall (fun _ _=>0) ⟨#[],args, []⟩).memory:=
 laidMetH_of_parts3 (fuel:=8) (laidMet_of_run' 8 (by kernel_rfl) (by kernel_rfl)) (by kernel_rfl) (by kernel_rfl)
open Go.ChangeShapes Go.WideShapes Go.ChangeAt in
theorem KC{H:Type}{enc:TypeId×Value→H}{W:World}{A:Option Addr}{n c:Nat}{d:DataW H}{ps:List MemPlace}
 (h:DataW.Trod enc Tryz.prog W 0 (fun _=>true) true 37 (.slice A n c) d ps):∃L,SIn W A n L∧n≤maxLen∧∀i,i<n→(L.getD i ⟨#[]⟩).size≤maxLen:=by
 obtain⟨fuel,h⟩:=h;rcases open_strings Tryz.underlying37 Tryz.underlying9 (by kernel_rfl) h with⟨hc,_⟩ | ⟨a,len,cap,zs,h4,_,hl,hm,hz,hx,h2,h5⟩;·simp[Value.cells]at hc;obtain⟨rfl,rfl,rfl⟩:=hc;exact⟨[],⟨rfl,fun h=>by omega⟩,LY _,fun i hi=>by omega⟩
 ·simp[Value.cells]at h4;obtain⟨rfl,rfl,rfl⟩:=h4;simp only[if_true]at hz;have h3:∀i,i<n→(zs.take n).getD i ⟨#[]⟩=zs.getD i ByteArray.empty:=fun i hi=>by rw[LU,LU,NW hi];rfl
  refine⟨zs.take n,⟨by rw[Mj];omega,fun hn=> ?_⟩,by omega,fun i hi=> ?_⟩;·have h0:=h2 0 (by omega);rw[Addr.add_zero']at h0;have ha:=wK h0;refine⟨a.block,a.off,by rw[← ha],fun i hi=> ?_⟩;have h1:=h2 i (by omega);rw[ha,NX]at h1;rw[h1,h3 i hi]
  ·rw[h3 i hi,LU,LV (by omega)];exact h5 _ (Mu _)
end Go.Proofs.YtepokmggbfoakaaGreatDoor
