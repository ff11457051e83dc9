import Derived.Test.YtepokmggbfoakaaGreatDoorT09
set_option maxRecDepth 100000
namespace Go.Proofs.YtepokmggbfoakaaGreatDoor.S10
open _root_.Go.Proofs.Tryz
open Go.RowKit
theorem oe:∀(bs:List Nat) (now n p:Nat) (out:List Nat),(bu bs now n p out).1.length<=out.length+n/\(bu bs now n p out).2.1<=p+bs.length/\(bu bs now n p out).2.2<=80
 | bs,now,0,p,out=>by
   rw[eG]
   exact⟨Nm _,QF _ _,Nh _⟩
 | [],now,n+1,p,out=>by
   by_cases h:now<1\/20<now
   ·rw[f6 _ _ _ _ _ h]
    exact⟨Nh _,Nh _,Nm _⟩
   ·rw[ik _ _ _ _ h]
    exact⟨Nh _,Nh _,by show 10<=80;omega⟩
 | b :: bs,now,n+1,p,out=>by
   by_cases h:now<1\/20<now
   ·rw[f6 _ _ _ _ _ h]
    exact⟨Nh _,Nh _,Nm _⟩
   ·by_cases hb:b=0
    ·subst hb
     rw[ft _ _ _ _ _ h]
     have ih:=oe bs now n (p+1) (out++ [now])
     rw[Nc]at ih
     refine⟨NH ih.1 ?_,NH ih.2.1 ?_,ih.2.2⟩
     ·show out.length+1+n<=_
      omega
     ·rw[Nv]
      omega
    ·match bs with
     | []=>
       rw[ji _ _ _ _ _ h hb]
       exact⟨Nh _,Nh _,by show 10<=80;omega⟩
     | d :: bs=>
       rw[eH _ _ _ _ _ _ _ h hb]
       have ih:=oe bs (if d=0 then now+1 else now-1) (n+1) (p+2) out
       refine⟨ih.1,NH ih.2.1 ?_,ih.2.2⟩
       rw[Nv,Nv]
       omega
 termination_by bs=>bs.length
theorem vy(bits:List Nat)(at' n:Int):(ao bits at' n).1.length<=258/\(ao bits at' n).2.1<=bits.length/\(ao bits at' n).2.2<=80:=by
 unfold ao;by_cases h:at'<0\/(bits.length:Int)<at'\/n<2\/258<n;·rw[Ng h];exact⟨Nh _,Nh _,by show 2<=80;omega⟩
 ·rw[Nf h];by_cases h2:bits.length<at'.toNat+5;·rw[Ng h2];exact⟨Nh _,Nh _,by show 10<=80;omega⟩
  ·rw[Nf h2];have:=oe (bits.drop (at'.toNat+5)) (val ((bits.drop at'.toNat).take 5)) n.toNat (at'.toNat+5) [];rw[Nq,N5]at this;exact⟨by omega,by omega,this.2.2⟩
