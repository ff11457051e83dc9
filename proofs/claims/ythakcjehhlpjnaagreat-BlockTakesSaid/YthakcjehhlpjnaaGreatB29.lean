import Derived.Test.YthakcjehhlpjnaaGreatB11
set_option maxRecDepth 100000
namespace Go.Proofs.YthakcjehhlpjnaaGreat.S10
open Go.RowKit
theorem my:∀(bs:List Nat) (now n p:Nat) (out:List Nat),(bq bs now n p out).1.length≤out.length+n∧(bq bs now n p out).2.1≤p+bs.length∧(bq bs now n p out).2.2≤80
 | bs,now,0,p,out=>by
   rw[fw]
   exact⟨Nat.le_refl _,Nat.le_add_right _ _,Nat.zero_le _⟩
 | [],now,n+1,p,out=>by
   by_cases h:now<1∨20<now
   ·rw[gv _ _ _ _ _ h]
    exact⟨Nat.zero_le _,Nat.zero_le _,Nat.le_refl _⟩
   ·rw[iC _ _ _ _ h]
    exact⟨Nat.zero_le _,Nat.zero_le _,by show 10≤80;omega⟩
 | b :: bs,now,n+1,p,out=>by
   by_cases h:now<1∨20<now
   ·rw[gv _ _ _ _ _ h]
    exact⟨Nat.zero_le _,Nat.zero_le _,Nat.le_refl _⟩
   ·by_cases hb:b=0
    ·subst hb
     rw[f6 _ _ _ _ _ h]
     have ih:=my bs now n (p+1) (out++ [now])
     rw[List.length_append]at ih
     refine⟨Nat.le_trans ih.1 ?_,Nat.le_trans ih.2.1 ?_,ih.2.2⟩
     ·show out.length+1+n≤_
      omega
     ·rw[List.length_cons]
      omega
    ·match bs with
     | []=>
       rw[jK _ _ _ _ _ h hb]
       exact⟨Nat.zero_le _,Nat.zero_le _,by show 10≤80;omega⟩
     | d :: bs=>
       rw[fB _ _ _ _ _ _ _ h hb]
       have ih:=my bs (if d=0 then now+1 else now - 1) (n+1) (p+2) out
       refine⟨ih.1,Nat.le_trans ih.2.1 ?_,ih.2.2⟩
       rw[List.length_cons,List.length_cons]
       omega
 termination_by bs=>bs.length
theorem sY(bits:List Nat)(at' n:Int):(ax bits at' n).1.length≤258∧(ax bits at' n).2.1≤bits.length∧(ax bits at' n).2.2≤80:=by
 unfold ax
 by_cases h:at'<0∨(bits.length:Int)<at'∨n<2∨258<n
 ·rw[if_pos h]
  exact⟨Nat.zero_le _,Nat.zero_le _,by show 2≤80;omega⟩
 ·rw[if_neg h]
  by_cases h2:bits.length<at'.toNat+5
  ·rw[if_pos h2]
   exact⟨Nat.zero_le _,Nat.zero_le _,by show 10≤80;omega⟩
  ·rw[if_neg h2]
   have:=my (bits.drop (at'.toNat+5)) (val ((bits.drop at'.toNat).take 5)) n.toNat (at'.toNat+5) []
   rw[List.length_drop,List.length_nil]at this
   exact⟨by omega,by omega,this.2.2⟩
end Go.Proofs.YthakcjehhlpjnaaGreat.S10
