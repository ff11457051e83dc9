import Derived.Test.YtepokmggbfoakaaGreatDoorA09
set_option maxRecDepth 100000
namespace Go.Proofs.YtepokmggbfoakaaGreatDoor.S10
open Go.RowKit
theorem nU:∀(bs:List Nat) (now n p:Nat) (out:List Nat),(bj bs now n p out).1.length≤out.length+n∧(bj bs now n p out).2.1≤p+bs.length∧(bj bs now n p out).2.2≤80
 | bs,now,0,p,out=>by
   rw[eX]
   exact⟨L5 _,O0 _ _,LY _⟩
 | [],now,n+1,p,out=>by
   by_cases h:now<1∨20<now
   ·rw[gQ _ _ _ _ _ h]
    exact⟨LY _,LY _,L5 _⟩
   ·rw[jf _ _ _ _ h]
    exact⟨LY _,LY _,by show 10≤80;omega⟩
 | b :: bs,now,n+1,p,out=>by
   by_cases h:now<1∨20<now
   ·rw[gQ _ _ _ _ _ h]
    exact⟨LY _,LY _,L5 _⟩
   ·by_cases hb:b=0
    ·subst hb
     rw[fJ _ _ _ _ _ h]
     have ih:=nU bs now n (p+1) (out++ [now])
     rw[LR]at ih
     refine⟨Mk ih.1 ?_,Mk ih.2.1 ?_,ih.2.2⟩
     ·show out.length+1+n≤_
      omega
     ·rw[Mb]
      omega
    ·match bs with
     | []=>
       rw[kY _ _ _ _ _ h hb]
       exact⟨LY _,LY _,by show 10≤80;omega⟩
     | d :: bs=>
       rw[eY _ _ _ _ _ _ _ h hb]
       have ih:=nU bs (if d=0 then now+1 else now - 1) (n+1) (p+2) out
       refine⟨ih.1,Mk ih.2.1 ?_,ih.2.2⟩
       rw[Mb,Mb]
       omega
 termination_by bs=>bs.length
theorem uU(bits:List Nat)(at' n:Int):(ax bits at' n).1.length≤258∧(ax bits at' n).2.1≤bits.length∧(ax bits at' n).2.2≤80:=by
 unfold ax;by_cases h:at'<0∨(bits.length:Int)<at'∨n<2∨258<n;·rw[LX h];exact⟨LY _,LY _,by show 2≤80;omega⟩
 ·rw[LW h];by_cases h2:bits.length<at'.toNat+5;·rw[LX h2];exact⟨LY _,LY _,by show 10≤80;omega⟩
  ·rw[LW h2];have:=nU (bits.drop (at'.toNat+5)) (val ((bits.drop at'.toNat).take 5)) n.toNat (at'.toNat+5) [];rw[Mc,MH]at this;exact⟨by omega,by omega,this.2.2⟩
end Go.Proofs.YtepokmggbfoakaaGreatDoor.S10
