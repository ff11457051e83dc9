import Derived.Test.YtfhgikojdfblpaaGreatM15
set_option maxRecDepth 100000
namespace Go.Proofs.YtfhgikojdfblpaaGreat.S10
open _root_.Go.Proofs.Tryz
open Go.RowKit
theorem oX:∀(bs:List Nat) (now n p:Nat) (out:List Nat),(cD bs now n p out).1.length<=out.length+n/\(cD bs now n p out).2.1<=p+bs.length/\(cD bs now n p out).2.2<=80
 | bs,now,0,p,out=>by
   rw[iw]
   exact⟨Nk _,Rx _ _,Ng _⟩
 | [],now,n+1,p,out=>by
   by_cases h:now<1\/20<now
   ·rw[jB _ _ _ _ _ h]
    exact⟨Ng _,Ng _,Nk _⟩
   ·rw[lD _ _ _ _ h]
    exact⟨Ng _,Ng _,by show 10<=80;omega⟩
 | b :: bs,now,n+1,p,out=>by
   by_cases h:now<1\/20<now
   ·rw[jB _ _ _ _ _ h]
    exact⟨Ng _,Ng _,Nk _⟩
   ·by_cases hb:b=0
    ·subst hb
     rw[kd _ _ _ _ _ h]
     have ih:=oX bs now n (p+1) (out++ [now])
     rw[Nb]at ih
     refine⟨ND ih.1 ?_,ND ih.2.1 ?_,ih.2.2⟩
     ·show out.length+1+n<=_
      omega
     ·rw[Ns]
      omega
    ·match bs with
     | []=>
       rw[nV _ _ _ _ _ h hb]
       exact⟨Ng _,Ng _,by show 10<=80;omega⟩
     | d :: bs=>
       rw[ix _ _ _ _ _ _ _ h hb]
       have ih:=oX bs (if d=0 then now+1 else now-1) (n+1) (p+2) out
       refine⟨ih.1,ND ih.2.1 ?_,ih.2.2⟩
       rw[Ns,Ns]
       omega
 termination_by bs=>bs.length
theorem vN(bits:List Nat)(at' n:Int):(aN bits at' n).1.length<=258/\(aN bits at' n).2.1<=bits.length/\(aN bits at' n).2.2<=80:=by
 unfold aN;by_cases h:at'<0\/(bits.length:Int)<at'\/n<2\/258<n;·rw[Nf h];exact⟨Ng _,Ng _,by show 2<=80;omega⟩
 ·rw[Nd h];by_cases h2:bits.length<at'.toNat+5;·rw[Nf h2];exact⟨Ng _,Ng _,by show 10<=80;omega⟩
  ·rw[Nd h2];have:=oX (bits.drop (at'.toNat+5)) (val ((bits.drop at'.toNat).take 5)) n.toNat (at'.toNat+5) [];rw[Ny,Ox]at this;exact⟨by omega,by omega,this.2.2⟩
