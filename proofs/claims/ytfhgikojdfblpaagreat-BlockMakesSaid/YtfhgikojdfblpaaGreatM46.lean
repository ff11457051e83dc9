import Derived.Test.YtfhgikojdfblpaaGreatM45
import Derived.Test.YtfhgikojdfblpaaGreatLx
import Derived.Lib.BufferWrite
import Derived.Laws.CopyOwn
import Derived.WalkMore
set_option maxHeartbeats 1600000
set_option maxRecDepth 1000000
namespace Go.Proofs.YtfhgikojdfblpaaGreat.S03
open _root_.Go.Proofs.Tryz
open Go.Shelf Go.RowKit
theorem Tryz.extra:Builder.Extra prog Tryz.laysRepeat_ren where
 sizeBuilder:=by kernel_rfl
 liesBuilder:=by kernel_rfl
 t5:=Tryz.laysRepeat.t5
 a5:=Tryz.laysRepeat.a5
 z5:=Tryz.laysRepeat.z5
 v5:=Tryz.laysRepeat.v5
 infoByte:=by kernel_rfl
 cellsByte:=by kernel_rfl
 sizeByte:=by kernel_rfl
 neB5:=by decide
theorem Tryz.fRepeat:Tryz.laysRepeat_ren.f 105=134:=by kernel_rfl
theorem Tryz.fGrow:Tryz.laysGrow_ren.f 4=172:=by kernel_rfl
theorem Tryz.tGrow:Tryz.laysGrow_ren.t 25=5:=by kernel_rfl
theorem DM(w:World)(s:ByteArray)(c:Nat)(hc:c<=9223372036854775807)(h0:s.size*c<=140737488355328):
 Calls prog 134 #[.string s,.int .i64 c] w fun e w'=>e=.returned (.string ⟨(Lib.repeatL s.data.toList c).toArray⟩)/\Below w.heap.size w w':=by have h:=Any.strings_Repeat Tryz.laysRepeat Tryz.extra s c w hc h0;rw[Tryz.fRepeat]at h;exact h
theorem F9(w:World)(base:Option Addr)(l c n:Nat)(h3:l<=c)(h1:c<=9223372036854775807)(h2:n<=9223372036854775807)(h0:l+n<=c):
 Calls prog 172 #[.slice base l c,.int .i64 n] w fun e w'=>e=.returned (.slice base l c)/\w'=w:=by have h:=Any8.slices_Grow_room Tryz.laysGrow base l c n w h3 h1 h2 h0;rw[Tryz.fGrow]at h;exact h
theorem grow_grow(w:World)(i0:TypeInfo)(z:Value)(h6:prog.info? 5=some i0)(h9:i0.zero=some z)(h8:0<i0.size)
 (base:Option Addr) (l c n:Nat) (cs:List Value) (h7:l<=c) (h0:c<l+n) (h1:(l+n)*i0.bytes<=140737488355328) (h3:l+n<=4611686018427387904)
 (h4:cs.length=c*i0.size) (h2:base=none->c=0) (h5:∀a,base=some a->∀j v,cs[j]? =some v->w.cell? (a.add j)=some v):
 Calls prog 172 #[.slice base l c,.int .i64 n] w fun e w'=>
  e=.returned (.slice (some ⟨w.heap.size,0,none⟩) l (grownCap w (l+n) c 5))/\
  w'=w.drew.alloc (.cells (cs.toArray++Builtin.zeroCells z.cells (l+n-c)++Builtin.zeroCells z.cells (grownCap w (l+n) c 5-(l+n))) 5):=by have h:=Any8.slices_Grow_grow Tryz.laysGrow i0 z (by rw[Tryz.tGrow];exact h6) h9 h8 base l c n cs w h7 h0 h1 h3 h4 h2 h5;rw[Tryz.fGrow,Tryz.tGrow]at h;exact h
open Go.RowKit
def xD(w:World)(B g n c:Nat)(xs:List Value):Prop:=B<=g/\n<=c/\c<=maxLen/\∃cur:Array Value,Blk w g 5 cur/\cur.size=c/\cur.toList.take n=xs
theorem Ju(w:World)(B:Nat)(v:Value)(n k:Nat)(xs:List Value)(h4:w.ownsRow B 5 1 v n xs)(hB:B<=w.heap.size)(h0:0<n+k)(hc:n+k<=140737488355328):
 Calls prog 172 #[v,.int .i64 k] w fun e w'=>∃g c,e=.returned (.slice (some ⟨g,0,none⟩) n c)/\xD w' B g n c xs/\n+k<=c/\Below w.heap.size w w':=by
 obtain⟨i5,h5,hf,hi,hj⟩:=N4 Tryz.info5;have hb:(n+k)*i5.bytes<=140737488355328:=by rw[hj];omega
 have fresh:∀(base:Option Addr) (l c:Nat) (cs:List Value),l=n->n<=c->c<n+k->cs.length=c->cs.take n=xs->(base=none->c=0)->(∀ a,base=some a->∀j v,cs[j]? =some v->w.cell? (a.add j)=some v)->
  Calls prog 172 #[.slice base l c,.int .i64 k] w fun e w'=>∃g c,e=.returned (.slice (some ⟨g,0,none⟩) n c)/\xD w' B g n c xs/\n+k<=c/\Below w.heap.size w w':=by
  intro base l c cs hl h3 he h1 h6 h7 h2
  subst hl
  have hG:=grownCap_ge w (l+k) c 5
  have h9:=RX w (l+k) c 5 (by unfold maxLen;omega)
  refine(grow_grow w i5 (.int .u8 0) h5 hf (by omega) base l c k cs h3 he hb (by omega) (by rw[h1,hi,Oc]) h7 h2).mono ?_
  rintro e w' ⟨rfl,rfl⟩
  refine⟨w.heap.size,_,rfl,⟨hB,by omega,h9,_,aj w.drew 5 _,?_,?_⟩,by omega,(Nj _ _).drew.alloc (ag _) _⟩
  ·have h8:(Value.cells (.int .u8 0)).size=1:=rfl
   rw[Rr,Rr,RY,RY,h8]
   simp only[P3,h1]
   omega
  ·rw[Pd,Pd,Ni,OZ (by simp;omega)]
   exact h6
 rcases h4.2 with⟨rfl,rfl⟩|⟨g,c,cur,rfl,hg,hh,h3,hm,h1,h6⟩;·have hx:xs= []:=Nq (by rw[h4.1]);subst hx;exact fresh none 0 0 [] rfl (ag _) (by omega) rfl rfl (fun _=>rfl) (fun a h=>by cases h)
 ·rw[Oc]at h6 h1;by_cases hr:n+k<=c;·refine(F9 w (some ⟨g,0,none⟩) n c k h3 (by unfold maxLen at hm;omega) (by omega) hr).mono ?_;rintro e w' ⟨rfl,rfl⟩;exact⟨g,c,rfl,⟨hg,h3,hm,cur,hh,h1,h6⟩,hr,Nj _ _⟩
  ·refine fresh (some ⟨g,0,none⟩) n c cur.toList rfl h3 (by omega) (by rw[Q8,h1]) h6 (fun h=>by cases h) ?_;intro a ha j u hu;injection ha with ha
   subst ha;rw[OT,ac (t:=5) (cs:=cur) hh];simpa using hu
theorem sA{P:Program}{w:World}{ops:Array Oper}{rest:List Oper}{o:Oper}{a:Act}{Q:Exit->Act->World->Prop}(h2:o.guard=none)(d s:Operand)(dT sT:TypeId)
 (ho:o.op=.call { callee:=.builtin .copy,args:=#[d,s],argTypes:=#[dT,sT] }) (elem:TypeId) (hu:P.underlying dT=some (.slice elem)) (h4:(P.info? elem).map (·.size)=some 1)
 (g off dLen dCap:Nat) (t:ByteArray) (hd:a.eval d=.slice (some ⟨g,off,none⟩) dLen dCap) (hs:a.eval s=.string t)
 (cur:Array Value) (ty:TypeId) (hg:w.heap[g]? =some (.cells cur ty (0,0))) (h3:t.size<=dLen) (h0:off+t.size<=cur.size)
 (h:wpList P ops Q rest (a.put o.dst (goInt t.size)) (w.setRow g (cur.toList.take off++(Lib.byteCells t.data.toList++cur.toList.drop (off+t.size))).toArray)):wpList P ops Q (o::rest) a w:=by refine wpList_plain h2 fun K hK=> ?_;have h1:=Lib.run_copy_row_string (P:=P) w dT sT o.type elem g off dLen dCap t cur ty hu h4 hg h3 h0;unfold Oper.wp;simp[execOp,ho,resolve,invoke,builtin,hd,hs,h1,Result.andThen];exact hK _ _ h
theorem ry{P:Program}{w:World}{ops:Array Oper}{rest:List Oper}{o:Oper}{a:Act}{Q:Exit->Act->World->Prop}(h2:o.guard=none)(d s:Operand)(dT sT:TypeId)
 (ho:o.op=.call { callee:=.builtin .copy,args:=#[d,s],argTypes:=#[dT,sT] }) (elem:TypeId) (hu:P.underlying dT=some (.slice elem)) (h3:((P.info? elem).map (·.size)).isSome=true)
 (p:Option Addr) (dLen dCap:Nat) (t:ByteArray) (hd:a.eval d=.slice p dLen dCap) (hs:a.eval s=.string t) (h0:t.size=0)
 (h:wpList P ops Q rest (a.put o.dst (goInt 0)) w):wpList P ops Q (o::rest) a w:=by refine wpList_plain h2 fun K hK=> ?_;have h1:=Lib.run_copy_empty_string (P:=P) w dT sT o.type elem p dLen dCap t hu h3 h0;unfold Oper.wp;simp[execOp,ho,resolve,invoke,builtin,hd,hs,h1,Result.andThen];exact hK _ _ h
theorem Gp{w:World}{B g n c:Nat}{cur:Array Value}{xs:List Value}(t:ByteArray)(hB:B<=g)(hm:c<=maxLen)(hb:Blk w g 5 cur)(hc:cur.size=c)(h1:cur.toList.take n=xs)(hn:n+t.size<=c)(hl:xs.length=n):
 (w.setRow g (cur.toList.take n++(Lib.byteCells t.data.toList++cur.toList.drop (n+t.size))).toArray).ownsRow B 5 1 (.slice (some ⟨g,0,none⟩) (n+t.size) c) (n+t.size) (xs++Lib.byteCells t.data.toList):=by
 have h0:(Lib.byteCells t.data.toList).length=t.size:=by rw[Lib.byteCells_length];rfl
 refine⟨by rw[Nb,hl,h0];omega,.inr ⟨g,c,_,rfl,hB,QB w g cur _ 5 (0,0) hb,hn,hm,?_,?_⟩⟩;·simp only[P3,Nb,NB,Ny,h0,Q8,hc];omega
 ·rw[h1,Oc];show List.take (n+t.size) (xs++(Lib.byteCells t.data.toList++cur.toList.drop (n+t.size)))=_;rw[<- Ni,OZ (by rw[Nb,hl,h0];omega),Nr (by rw[Nb,hl,h0];omega)]
theorem I1(w:World)(B G N:Nat)(v:Value)(xs:List Value)(s:ByteArray)(h2:Blk w G 181 #[v])(h3:w.ownsRow B 5 1 v N xs)(hx:(N:Int)<=262144)(h1:262144<(N:Int)+s.size):
 Calls prog 133 #[.pointer (some ⟨G,0,none⟩),.string s] w fun e w'=>e=.returned (.bool false)/\w=w':=by have h0:=ac h2 0;simp at h0;obtain⟨A,c,rfl,h5,h4,_⟩:=ai h3;have d:decide ((262144:Int)-(N:Int)<(s.size:Int))=true:=bE;clear h1;go_enter func133,ntmps133;go_wp2_with fail;go_ret;exact⟨rfl,rfl⟩
theorem Fy(w:World)(B G N:Nat)(v:Value)(xs:List Value)(s:ByteArray)(hH:B<=G)(h7:Blk w G 181 #[v])(h9:w.ownsRow B 5 1 v N xs)(hB:B<=w.heap.size)(hs:(s.size:Int)<=2097152)(h0:0<N+s.size)(hh:(N:Int)+s.size<=262144):
 Calls prog 133 #[.pointer (some ⟨G,0,none⟩),.string s] w fun e w'=>∃v',e=.returned (.bool true)/\Blk w' G 181 #[v']/\Below B w w'/\w'.ownsRow B 5 1 v' (N+s.size) (xs++Lib.byteCells s.data.toList):=by
 have hI:=ac h7 0;have hR:=ae h7 0;simp at hI;have hy:=Ju w B v N s.size xs h9 hB h0 (by omega);obtain⟨A,c,rfl,hX,hQ,_⟩:=ai h9;have hM:xs.length=N:=by rw[h9.1];omega
 have d:decide ((262144:Int)-(N:Int)<(s.size:Int))=false:=aR;have hN:(N:Int)<=262144:=by omega
 have HF:=aa hh;have HG:=aa hy;have hF:=aa h7;clear hh hy h7 h9;go_enter func133,ntmps133;go_wp2_with fail;refine HG.out.mono ?_;rintro e w1 ⟨g,c1,rfl,hj,hC,hp⟩;obtain⟨hw,hL,hz,cur,h8,hK,hE⟩:=hj;have h3:=aO hp hF.out;have hA:g≠G:=fun e=>by
  subst e;unfold Blk at h8 h3;rw[h8]at h3;injection h3 with h1
  injection h1 with _ h2
  exact absurd h2 (by decide)
 have hf:Below B w w1:=hp.mono hB;have hS:=ae h3 0;have hJ:=ac h3 0;simp at hJ;have hq:=hz;unfold maxLen at hq;have hY:(N:Int)+s.size<=c1:=by omega
 have hV:(N:Int)<=c1:=by omega
 have hm:=ay h3 0 (.slice (some ⟨g,0,none⟩) (N+s.size) c1);have hb:Blk (w1.setCell ⟨G,0,none⟩ (.slice (some ⟨g,0,none⟩) (N+s.size) c1)) g 5 cur:=by unfold Blk;rw[OK w1 ⟨G,0,none⟩ _ g hA];exact h8
 have hx:Below B w (w1.setCell ⟨G,0,none⟩ (.slice (some ⟨g,0,none⟩) (N+s.size) c1)):=hf.setCell hH _;have hD:(prog.info? 5).map (·.size)=some 1:=by obtain⟨i5,h5,hZ,hO,H0⟩:=N4 Tryz.info5;rw[h5];show some i5.size=some 1;rw[hO]
 have h6:=aa hb;have he:=aa hm;have ho:=aa hx;have hv:=aa hD;have ha:=aa (fun W (hW:Blk W g 5 cur)=>Gp (w:=W) (B:=B) (g:=g) (n:=N) (c:=c1) (xs:=xs) s hw hz hW hK hE (by omega) hM);clear hm hb hx hD h8 hp hf hE;by_cases hk:s.size=0
 ·have ht:((prog.info? 5).map (·.size)).isSome=true:=by rw[hv.out];rfl
  have hn:=ha.out _ h6.out;have hl:cur.toList.take N++(Lib.byteCells s.data.toList++cur.toList.drop (N+s.size))=cur.toList:=by have hr:s.data.toList= []:=Nq hk;rw[hr,hk];show cur.toList.take N++([]++cur.toList.drop (N+0))=_;rw[Ok,NY,OW]
  rw[hl]at hn;have hc:(w1.setCell ⟨G,0,none⟩ (.slice (some ⟨g,0,none⟩) (N+s.size) c1)).setRow g cur=w1.setCell ⟨G,0,none⟩ (.slice (some ⟨g,0,none⟩) (N+s.size) c1):=setRow_self _ g cur 5 (0,0) h6.out;have h4:cur.toList.toArray=cur:=rfl;rw[h4,hc]at hn;have hu:=aa hn;have hG:=aa hk;clear hn hl hc h4 hk;go_wp2_with (refine ry rfl _ _ 181 9 rfl 5 underlying181 ht _ _ _ s rfl rfl hG.out ?_)
  ·have e:c1=N:=(by assumption);subst e;go_ret;exact⟨rfl,_,he.out,ho.out,hu.out⟩
  ·go_ret;exact⟨rfl,_,he.out,ho.out,hu.out⟩
 ·have hT:(0:Int)<s.size:=(by omega);have hP:¬c1=N:=(by omega);have hi:N+s.size<=cur.size:=(by omega);(go_wp2_with (refine sA rfl _ _ 181 9 rfl 5 underlying181 hv.out g N s.size (c1-N) s rfl rfl cur 5 h6.out (ag _) hi ?_));have hg:Blk ((w1.setCell ⟨G,0,none⟩ (.slice (some ⟨g,0,none⟩) (N+s.size) c1)).setRow g (cur.toList.take N++(Lib.byteCells s.data.toList++cur.toList.drop (N+s.size))).toArray) G 181 #[.slice (some ⟨g,0,none⟩) (N+s.size) c1]:=(by unfold Blk;rw[setRow_other _ _ _ _ (fun e=>hA e.symm)];exact he.out);go_ret;exact⟨_,rfl,hg,below_setRow ho.out hw _,ha.out _ h6.out⟩
theorem FC{w:World}{B:Nat}{v:Value}{l:List UInt8}(h:w.ownsRow B 5 1 v l.length (l.map bv)):(convert 181 9 v).run prog w=.ok (.string ⟨l.toArray⟩) w:=by
 rcases h.2 with⟨rfl,h0⟩|⟨g,cap,cur,rfl,_⟩;·have:l= []:=Nq h0;subst this;exact Qk w 181 5 underlying181 underlying5 0 0 9 underlying9
 ·have hn:∀j (hj:j<l.length),w.cell? ((⟨g,0,none⟩:Addr).add j)=some (.int .u8 (l[j].toNat:Int)):=(by intro j hj;have h1:=h.cells (g:=g) rfl j (.int .u8 (l[j].toNat:Int));exact h1 (by rw[Np,Nc hj];rfl));exact Qa w 181 9 5 ⟨g,0,none⟩ cap l underlying181 underlying5 underlying9 hn
structure Out (B:Nat) (w:World) (o:List UInt8):Prop where
 size:B<=w.heap.size
 laid:∃v,Blk w B 181 #[v]/\w.ownsRow B 5 1 v o.length (o.map bv)
 most:o.length<=262144
theorem Out.drewN{B:Nat}{w:World}{o:List UInt8}(h:Out B w o)(k:Nat):Out B (w.drewN k) o:=⟨h.size,h.laid,h.most⟩
theorem Ex(B:Nat)(w0 w:World)(o:List UInt8)(p:ByteArray)(hO:Out B w o)(hp:p.size<=2097152)(h0:0<o.length+p.size)(hb:Below B w0 w):
 Calls prog 133 #[.pointer (some ⟨B,0,none⟩),.string p] w fun e w'=>e=.returned (.bool (decide (o.length+p.size<=262144)))/\Below B w0 w'/\(o.length+p.size<=262144->Out B w' (o++p.data.toList)):=by
 obtain⟨v,h1,h3⟩:=hO.laid;have hm:=hO.most;by_cases h:o.length+p.size<=262144;·refine(Fy w B B o.length v _ p (ag _) h1 h3 hO.size (by omega) h0 (by omega)).mono ?_;rintro e w' ⟨v',rfl,h2,h5,h4⟩;refine⟨by rw[Nn h],hb.trans h5,fun _=>⟨ND hO.size h5.size,⟨v',h2,?_⟩,by rw[Nb];exact h⟩⟩;rw[Nb,Nz];exact h4
 ·refine(I1 w B B o.length v _ p h1 h3 (by omega) (by omega)).mono ?_;rintro e w' ⟨rfl,rfl⟩;exact⟨by rw[Nl h],hb,fun h'=>absurd h' h⟩
theorem tx(w:World)(s:ByteArray)(hs:s.size<=2097152):
 Calls prog 79 #[.string s] w fun e w'=>e=.returned (.tuple #[.string ⟨(fE [] s.data.toList).1.toArray⟩,.int .i64 (fE [] s.data.toList).2])/\Below w.heap.size w w':=by
 have hH:Out w.heap.size (w.alloc (.cells #[.slice none 0 0] 181)) []:=⟨by simp,⟨_,aj w 181 _,Nt _ _ _ _⟩,by simp⟩;have hF:Below w.heap.size w (w.alloc (.cells #[.slice none 0 0] 181)):=(Nj _ _).alloc (ag _) _;go_enter func79,ntmps79;go_wp2_with fail;go_step3;go_wp2_with fail;go_step3;go_wp2_with fail;obtain⟨B,hB⟩:∃B,B=w.heap.size:=⟨_,rfl⟩;rw[<- hB]at hH hF |-;generalize w.alloc (.cells #[.slice none 0 0] 181)=w1 at*;have hu:=aa hB;clear hB;go_loopw [0] (fun a wr=>∃(t:ByteArray) (o:List UInt8),a=.string t/\t.size<=s.size/\fE o t.data.toList=fE [] s.data.toList/\Out B wr o/\Below B w wr) (fun a _=>D6 a)
 case atStart=>exact⟨s, [],rfl,Nk _,rfl,hH,hF⟩
 case round=>
  obtain⟨t,o,rfl,HH,h9,hO,hb⟩:=hrel;by_cases h:0<t.size
  ·have HD:=aa h9;have HO:=aa hO;have HB:=aa hb;have hm:=hO.most;have HM:=aa hm;clear h9 hO hb hH hF hm;go_wp2_with fail;(go_loopw [0,5] (fun a i wx=>∃n k:Nat,a=.string t/\1<=n/\n<=4/\n<=t.size/\i=.int .i64 n/\my t.data.toList=n+dF t[0] (4-n) (t.data.toList.drop n)/\wx=wr.drewN k) (fun _ i _=>4-(intOf i).toNat));case atStart=>refine⟨1,0,rfl,Nk _,by omega,h,rfl,?_,rfl⟩;rw[lw t h];rfl
   case round=>
    obtain⟨n,k,rfl,h1,h4,hn,rfl,hq,rfl⟩:=hrel;have hx:(t.extract 0 n).size=n:=(by rw[OB];omega);have hG:=HM.out;have h7:=fun K=>Ex B w (wr.drewN K) o (t.extract 0 n) (HO.out.drewN _) (by rw[hx];omega) (by rw[hx];omega) (ax HB.out _);rw[hx,lp]at h7;by_cases e4:n<4
    ·by_cases e:∃(e1:n<t.size),t[n]=t[0];·obtain⟨e1,e2⟩:=e;have HK:=aa (Kw t.data.toList n 4 _ t[0] t[n] (iJ t n e1) e2 e4 hq);have q0:((n:Int)==(t.size:Int))=false:=(by simp only[NC,R8];omega);have q:(((t[n].toNat:Nat):Int) != ((t[0].toNat:Nat):Int))=false:=(by rw[e2];simp);clear hq h7 hG hx e2;go_wp2_with fail;go_quiet (fail);go_wp2_with fail;exact⟨⟨n+1,_,rfl,by omega,by omega,by omega,by go_num,HK.out,rfl⟩,by simp[intOf];omega⟩
     ·have ha:my t.data.toList=n:=by
       refine EJ _ n 4 _ _ hq ?_;by_cases e1:n<t.size;·exact .inr (.inr ⟨t[n],iJ t n e1,fun e3=>e ⟨e1,e3⟩⟩)
       ·exact .inl (by show t.size<=n;omega)
      (have hX:t.data.toList≠ []:=fun e=>by have:t.data.toList.length=0:=(by rw[e];rfl);have h2:t.data.toList.length=t.size:=rfl;omega);have hk:=Lt o t.data.toList n hX ha e4 hG;rw[HD.out]at hk;have HF:=aa hk;have HL:=aa h7;clear hk h7 hX ha hG;by_cases e1:n<t.size
      ·have e2:t[n]≠t[0]:=fun e2=>e ⟨e1,e2⟩;have q0:((n:Int)==(t.size:Int))=false:=(by simp only[NC,R8];omega);have q:(((t[n].toNat:Nat):Int) != ((t[0].toNat:Nat):Int))=true:=(by simp only[Pe,R8];intro h;exact e2 (UInt8.toNat_inj.1 (by omega)));clear e e2 hq;go_wp2_with fail;go_quiet (fail);go_wp2_with fail;refine(HL.out _).mono ?_;rintro e w2 ⟨rfl,hi,hh⟩;have hg:=aa hi;have hv:=aa hh;clear hi hh;by_cases hf:o.length+n<=262144
       ·have h3:=HF.out;rw[Nf hf]at h3;have h6:=aa h3;have he:=aa (hv.out hf);have hd:decide (o.length+n<=262144)=true:=Nn hf;clear h3 hf;rw[hd];clear hd;go_wp2_with fail;go_roundw;case rel=>exact⟨t.extract n t.size,o++t.data.toList.take n,rfl,by rw[aY];omega,by rw[jO];exact h6.out.symm,he.out,hg.out⟩
        case measure=>show(t.extract n t.size).size<t.size;rw[aY];omega
       ·have h3:=HF.out;rw[Nd hf]at h3;have h6:=aa h3;have hd:decide (o.length+n<=262144)=false:=Nl hf;clear h3 hf;rw[hd];clear hd;go_wp2_with fail;(try rw[OR]);go_ret2;rw[<- hu.out,h6.out];exact⟨rfl,hg.out⟩
      ·have q0:((n:Int)==(t.size:Int))=true:=(by simp only[Pn];omega);clear e hq;go_wp2_with fail;go_quiet (fail);go_wp2_with fail;refine(HL.out _).mono ?_;rintro e w2 ⟨rfl,hi,hh⟩;have hg:=aa hi;have hv:=aa hh;clear hi hh;by_cases hf:o.length+n<=262144
       ·have h3:=HF.out;rw[Nf hf]at h3;have h6:=aa h3;have he:=aa (hv.out hf);have hd:decide (o.length+n<=262144)=true:=Nn hf;clear h3 hf;rw[hd];clear hd;go_wp2_with fail;go_roundw;case rel=>exact⟨t.extract n t.size,o++t.data.toList.take n,rfl,by rw[aY];omega,by rw[jO];exact h6.out.symm,he.out,hg.out⟩
        case measure=>show(t.extract n t.size).size<t.size;rw[aY];omega
       ·have h3:=HF.out;rw[Nd hf]at h3;have h6:=aa h3;have hd:decide (o.length+n<=262144)=false:=Nl hf;clear h3 hf;rw[hd];clear hd;go_wp2_with fail;(try rw[OR]);go_ret2;rw[<- hu.out,h6.out];exact⟨rfl,hg.out⟩
    ·obtain rfl:n=4:=(by omega);have ha:my t.data.toList=4:=EJ _ 4 4 _ _ hq (.inr (.inl (ag _)));have hc:=CP o t.data.toList t[0] (iJ t 0 h) ha;rw[HD.out]at hc;have HF:=aa hc;have HL:=aa h7;clear hc h7 ha hG hq;go_wp2_with fail;refine(HL.out k).mono ?_;rintro e w2 ⟨rfl,hi,hh⟩;have hg:=aa hi;have hv:=aa hh;clear hi hh;have htl:t.data.toList.length=t.size:=rfl;by_cases hA:o.length+4<=262144
     ·have h3:=HF.out;rw[Nd,htl]at h3;have he:=hv.out hA;have hd:decide (o.length+4<=262144)=true:=Nn hA;rw[hd];clear hd;by_cases hK:t.size=4;·rw[Nf hK]at h3;have h6:=aa h3;have q4:((t.size:Int)==4)=true:=(by rw[hK];rfl);clear h3 he hA;go_wp2_with fail;(try rw[OR]);go_ret2;rw[<- hu.out,h6.out];exact⟨rfl,hg.out⟩
      ·rw[Nd hK]at h3;have h5:4<t.size:=(by omega);have h8:(t.data.toList.getD 4 0).toNat=t[4].toNat:=(by rw[Na,iJ t 4 h5];rfl);rw[h8]at h3;have HA:t[4].toNat<256:=PZ _;have hD:(o++t.data.toList.take 4).length=o.length+4:=(by rw[Nb,NB,htl];omega);have ho:∀w3,Calls prog 134 #[.string (t.extract 0 1),.int .i64 t[4].toNat] w3 fun e w'=>e=.returned (.string ⟨(List.replicate t[4].toNat t[0]).toArray⟩)/\Below w3.heap.size w3 w':=by
        intro w3
        have hr:=DM w3 (t.extract 0 1) t[4].toNat (by omega) (by rw[OB];have:min 1 t.size - 0≤1:=by omega
                                                                 have:=RW this (NT HA)
                                                                 omega)
        have hM:(t.extract 0 1).data.toList=List.replicate 1 t[0]:=(by rw[lp,lw t h];rfl);rw[hM,Lib.repeatL_replicate,Oc]at hr;exact hr
       have q4:((t.size:Int)==4)=false:=(by simp only[NC,R8];omega);obtain⟨p,hp⟩:∃p:ByteArray,p=⟨(List.replicate t[4].toNat t[0]).toArray⟩:=⟨_,rfl⟩;have hZ:p.size=t[4].toNat:=(by rw[hp];show(List.replicate t[4].toNat t[0]).toArray.size=_;simp);have hY:p.data.toList=List.replicate t[4].toNat t[0]:=(by rw[hp]);rw[<- hp]at ho;have hj:=fun(w3:World) (hw:Out B w3 (o++t.data.toList.take 4)) (H8:Below B w w3)=>Ex B w w3 (o++t.data.toList.take 4) p hw (by omega) (by omega) H8;have h6:=aa h3;have hJ:=aa ho;have H3:=aa hj;have he:=aa he;have hR:=aa hZ;have H7:=aa hY;have hQ:=aa hD;have HE:(4:Int)<t.size:=(by omega);have HC:(1:Int)<=t.size:=(by omega);clear h3 ho hj hZ hY hD hp hA h8;go_upto_region 14 with fail;(go_still_tail 5,(by kernel_rfl));change wpList _ _ _ _ _ w2.drew;have H1:=aa (hg.out.drew);have hw:Out B w2.drew (o++t.data.toList.take 4):=⟨he.out.size,he.out.laid,he.out.most⟩;have hP:=aa hw;have H0:B<=w2.drew.heap.size:=hw.size;clear hw;generalize w2.drew=w3 at*;go_wp2_with fail;refine(hJ.out w3).mono ?_;rintro e w4 ⟨rfl,hy⟩;have H2:=aa (H1.out.trans (hy.mono H0));obtain⟨v3,hC,hE⟩:=hP.out.laid;have hS:Out B w4 (o++t.data.toList.take 4):=⟨ND H0 hy.size,⟨v3,aO hy hC,(an hy).row hE (fun _ _=>aw) aw⟩,hP.out.most⟩;have H4:=aa hS;clear hS hC hE hy;go_wp2_with fail;refine(H3.out w4 H4.out H2.out).mono ?_;rintro e w5 ⟨rfl,hV,hT⟩;have hN:=aa hV;have H5:=aa hT;clear hV hT;have h3:=h6.out;rw[hR.out,hQ.out];by_cases hf:o.length+4+t[4].toNat<=262144
       ·rw[Nd]at h3;have hI:=aa h3;have H6:=aa (H5.out (by rw[hR.out,hQ.out];exact hf));have hd:decide (o.length+4+t[4].toNat<=262144)=true:=Nn hf;clear h3 hf;rw[hd];clear hd;have HG:(5:Int)<=t.size:=(by omega);go_wp2_with fail;go_roundw;case rel=>exact⟨t.extract 5 t.size,o++t.data.toList.take 4++List.replicate t[4].toNat t[0],rfl,by rw[aY];omega,by rw[jO];exact hI.out.symm,by rw[<- H7.out];exact H6.out,hN.out⟩
        case measure=>show(t.extract 5 t.size).size<t.size;rw[aY];omega
       ·rw[Nf]at h3;have hI:=aa h3;have hd:decide (o.length+4+t[4].toNat<=262144)=false:=Nl hf;clear h3 hf;rw[hd];clear hd;go_wp2_with fail;(try rw[OR]);go_ret2;rw[<- hu.out,hI.out];exact⟨rfl,hN.out⟩
     ·have h3:=HF.out;rw[Nf]at h3;have h6:=aa h3;have hd:decide (o.length+4<=262144)=false:=Nl hA;rw[hd];clear h3 hA hd;go_wp2_with fail;(try rw[OR]);go_ret2;rw[<- hu.out,h6.out];exact⟨rfl,hg.out⟩
  ·have hz:t.size=0:=(by omega);have ht:t.data.toList= []:=Nq hz;rw[ht,Ak]at h9;obtain⟨v,hL,hl⟩:=hO.laid;have hW:=FC hl;obtain⟨A0,c0,rfl,_,_,_⟩:=ai hl;have h0:=ac hL 0;simp at h0;have HD:=aa h9;have HB:=aa hb;clear h9 hb hl hO hH hF;go_wp2_with fail;(try rw[OR]);go_ret2;rw[<- hu.out,<-HD.out];exact⟨rfl,HB.out⟩
