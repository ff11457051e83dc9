import Derived.Test.YtfhgikojdfblpaaGreatM50
import Derived.Laws.IdiomCopy
import Derived.Lib.BytesEntry
import Derived.Lib.AtoiErrMem
import Derived.Deep.Onto
set_option maxHeartbeats 1600000
set_option maxRecDepth 100000
namespace Go.Proofs.YtfhgikojdfblpaaGreat.S06
open _root_.Go.Proofs.Tryz
open Go.RowKit
def LIn(w:World)(g:Nat)(l:List UInt8):Prop:=∀i,i<l.length->w.cell? ⟨g,i,none⟩=some (bv (l.getD i 0))/\w.frozen? ⟨g,i,none⟩=false
theorem LIn.below{w w':World}{B g:Nat}{l:List UInt8}(h:LIn w g l)(hb:Below B w w')(hg:g<B):LIn w' g l:=by intro i hi;refine⟨(hb.cell (p:=⟨g,i,none⟩) hg).trans (h i hi).1,?_⟩;have:=(h i hi).2;unfold World.frozen? at this |-;rw[show w'.heap[(⟨g,i,none⟩:Addr).block]? =w.heap[g]? from hb.block g hg];exact this
theorem vq(l:List UInt8)(p:Nat):(dO l p).getD 0 0=l.getD p 0:=rfl
theorem If(l:List UInt8)(p i:Nat)(h:i<p)(hp:p<l.length):(dO l p).getD (i+1) 0=l.getD i 0:=by unfold dO;rw[P7,Na,NW (by rw[NB];omega),PN,Nf h,<-Na]
theorem D3(l:List UInt8)(p i:Nat)(h:p<=i)(hi:i+1<l.length):(dO l p).getD (i+1) 0=l.getD (i+1) 0:=by have hl:(l.take p).length=p:=(by rw[NB];omega);unfold dO;rw[P7,Na,NO (by omega),O3,hl,show p+1+(i-p)=i+1 by omega,<-Na]
theorem om{B g:Nat}(hB:B<=g){w:World}:∀(vs:List Value) (o:Nat) (w':World),ak B [g] [] w w'->ak B [g] [] w (w'.setCells g o vs)
 | [],_,_,h=>h
 | v::r,o,w',h=>by rw[World.setCells];exact om hB r (o+1) _ (h.set (p:=⟨g,o,none⟩) hB (List.mem_singleton.2 rfl) v)
theorem IS(w:World)(g i:Nat)(j:Nat):w.cell? ((⟨g,i,none⟩:Addr).add j)=w.cell? ⟨g,i+j,none⟩:=by congr 1;unfold Addr.add;split <;>simp_all
theorem sz{P:Program}{w w':World}{ops:Array Oper}{rest:List Oper}{o:Oper}{a:Act}{Q:Exit->Act->World->Prop}(h1:o.guard=none)(d s:Operand)(dT sT:TypeId)
 (ho:o.op=.call { callee:=.builtin .copy,args:=#[d,s],argTypes:=#[dT,sT] }) (dv sv:Value) (k:Nat) (hd:a.eval d=dv) (hs:a.eval s=sv) (h0:(Builtin.copy_ #[dT,sT] o.type #[dv,sv]).run P w=.ok (goInt k) w')
 (h:wpList P ops Q rest (a.put o.dst (goInt k)) w'):wpList P ops Q (o::rest) a w:=by refine wpList_plain h1 fun K hK=> ?_;unfold Oper.wp;simp[execOp,ho,resolve,invoke,builtin,hd,hs,h0,Result.andThen];exact hK _ _ h
def xE(B:Nat)(w:World)(g:Nat)(l:List UInt8)(p:Nat)(e:Ending)(w':World):Prop:=e=.returned (.tuple #[])/\LIn w' g (dO l p)/\ak B [g] [] w w'
theorem EA(B:Nat)(w:World)(g n c:Nat)(l:List UInt8)(p:Nat)(hB:B<=g)(hL:LIn w g l)(hn:l.length=n)(ho:n<=c)(hp:p<n)(hl:n<=1000000):
 Calls prog 37 #[.slice (some ⟨g,0,none⟩) n c,.int .i64 p] w (xE B w g l p):=by
 obtain⟨i5,h5,ht,hk,hu⟩:=N4 Tryz.info5;have h2:((l.take p).map bv).length=p:=by rw[Nu,NB];omega
 have h8:∀j v,((l.take p).map bv)[j]? =some v->w.drew.cell? ((⟨g,0,none⟩:Addr).add j)=some v:=by intro j v hv;have hj:j<p:=(by have:=(List.getElem?_eq_some_iff.1 hv).1;omega);rw[IS,N8];show w.cell? _=_;rw[(hL j (by omega)).1,<-hv,Np,PN,Nf hj,Nc (by omega),Na,Nc (by omega)];rfl
 have h9:∀v∈(l.take p).map bv,v.oneCell'=true:=by intro v hv;obtain⟨x,_,rfl⟩:=List.mem_map.1 hv;rfl
 have h4:∀ty,(Builtin.copy_ #[69,69] ty #[.slice (if c=1 then some ⟨g,0,none⟩else some ⟨g,1,none⟩) (n-1) (c-1),.slice (some ⟨g,0,none⟩) p c]).run prog w.drew=.ok (goInt p) (w.drew.setCells g 1 ((l.take p).map bv)):=by
  intro ty;have h1:(prog.info? 5).map (·.size)=some 1:=by rw[h5];exact congrArg some hk
  by_cases h0:p=0;·subst h0;have:=fun d=>run_copy_none (P:=prog) w.drew 69 69 ty 5 d (some ⟨g,0,none⟩) (n-1) (c-1) 0 c underlying69 h1 (Nat.zero_min _);exact this _
  ·rw[Nd]
   have:=R3 (P:=prog) w.drew 69 69 ty 5 g 1 (n-1) (c-1) ⟨g,0,none⟩ p c ((l.take p).map bv) underlying69 h1 (by rw[h2];exact(OJ (by omega)).symm) h8
    (fun j hj=>by
      rw[h2]at hj
      show(w.cell? _).isSome=true
      rw[(hL (1+j) (by omega)).1]
      rfl) (fun j hj=>by rw[h2]at hj;exact(hL (1+j) (by omega)).2) h9
   rw[h2]at this;exact this
 have hh:=(hL p (by omega)).1;obtain⟨b,hb⟩:∃b,b=(l.getD p 0).toNat:=⟨_,rfl⟩;have he:bv (l.getD p 0)=.int .u8 b:=by rw[hb];rfl
 rw[he]at hh;have hq:(0:Int)<=(p:Int):=by omega
 have hr:(p:Int)<(n:Int):=by omega
 have hs:(p:Int)<=(c:Int):=by omega
 have hm:(1:Int)<=(n:Int):=by omega
 obtain⟨w2,h6⟩:∃w2,w2=w.drew.setCells g 1 ((l.take p).map bv):=⟨_,rfl⟩;have hS:ak B [g] [] w w2:=by rw[h6];exact om hB _ _ _ (ak.refl B [g] [] w).drew
 have hg:∀j,j<p->w2.cell? ⟨g,1+j,none⟩=some (bv (l.getD j 0)):=by
  intro j hj
  rw[h6,World.cell?_setCells_in g ((l.take p).map bv) 1 w.drew (fun i hi=>by
   rw[h2]at hi
   show(w.cell? _).isSome=true
   rw[(hL (1+i) (by omega)).1]
   rfl) j (by rw[h2];exact hj)]
  rw[Q4,QR,Na,Nc (by omega)];rfl
 have h3:∀j,(j=0\/p<j)->w2.cell? ⟨g,j,none⟩=w.cell? ⟨g,j,none⟩:=by intro j hj;rw[h6,World.cell?_setCells_out g _ 1 w.drew ⟨g,j,none⟩ (fun _ _=>by rw[h2];show j<1\/1+p<=j;omega)];rfl
 have hf:∀x,w2.frozen? x=w.frozen? x:=by intro x;rw[h6,World.frozen?_setCells];rfl
 rw[<- h6]at h4;have h0:w2.cell? ⟨g,0,none⟩=some (bv (l.getD 0 0)):=by rw[h3 0 (.inl rfl),(hL 0 (by omega)).1]
 have f0:w2.frozen? ⟨g,0,none⟩=false:=by rw[hf];exact(hL 0 (by omega)).2
 have h7:xE B w g l p (.returned (.tuple #[])) (w2.setCell ⟨g,0,none⟩ (.int .u8 b)):=by
  refine⟨rfl,?_,hS.set (p:=⟨g,0,none⟩) hB (List.mem_singleton.2 rfl) _⟩;intro i hi;rw[eh l p (by omega)]at hi;refine⟨?_,by rw[World.frozen?_setCell,hf];exact(hL i hi).2⟩
  match i,hi with
  | 0,_=>rw[vq,World.cell?_setCell_same _ _ _ h0,he]
  | i+1,hi=>
   rw[World.cell?_setCell_other _ _ _ _ (by simp)];by_cases e:i<p;·rw[If l p i e (by omega),RN];exact hg i e
   ·rw[D3 l p i (by omega) hi,h3 (i+1) (.inr (by omega))];exact(hL (i+1) hi).1
 have ha:=aa h7;have hc:=aa h4;clear h7 h4 h6 hg h3 hf h8 h9 he hb h2 hS hL;generalize xE B w g l p=PO at*;go_enter func37,ntmps37;go_upto_region 1 with fail;go_still_tail 5,(by kernel_rfl)
 change wpList _ _ _ _ _ w.drew;generalize (if c=1 then some (⟨g,0,none⟩:Addr)else some ⟨g,1,none⟩)=dA at*;refine sz rfl _ _ 69 69 rfl _ _ p rfl rfl (hc.out _) ?_;go_wp2_with fail;(try simp only[Exit.inBlock,Exit.then]);refine NH (Qc rfl _ _ _) rfl ?_;exact ha.out
theorem Gg(l:List UInt8)(b:UInt8):Lib.indexByte l b=if b∈l then((l.idxOf b:Nat):Int)else -1:=by
 induction l with
 | nil=>simp[Lib.indexByte]
 | cons x l ih=>
  unfold Lib.indexByte;rw[List.idxOf_cons];by_cases e:x=b;·subst e;simp
  ·have e1:(x==b)=false:=(by simpa using e);have e2:¬b=x:=fun h=>e h.symm;rw[e1,ih];simp only[Bool.false_eq_true,RA,cond_false,PA,e2,false_or];by_cases hm:b∈l;·rw[Nf hm,Nf hm];have:(((l.idxOf b:Nat):Int)== -1)=false:=(by rw[NC];omega);rw[this];simp
   ·rw[Nd hm,Nd hm];simp
theorem IH(l:List UInt8):Lib.bytesOf (l.map fun b=>(b.toNat:Int))=l:=by unfold Lib.bytesOf;rw[Ou];(conv=>rhs;rw[<- QV l]);refine Oe fun b _=> ?_;show UInt8.ofNat ((b.toNat:Int).toNat)=b;rw[Nv,P4]
theorem AB(w:World)(g n c:Nat)(l:List UInt8)(b:UInt8)(hL:LIn w g l)(hn:l.length=n):
 Calls prog 36 #[.slice (some ⟨g,0,none⟩) n c,.int .u8 b.toNat] w fun e w'=>e=.returned (.int .i64 (if b∈l then((l.idxOf b:Nat):Int)else -1))/\w'=w:=by
 have h0:=Lib.run_indexByteSlice (P:=prog) w g 0 n c (l.map fun b=>(b.toNat:Int)) (by rw[Nu,hn]) (fun i hi=>by
  rw[N8,(hL i (by omega)).1,Na,Na,Np,Nc (by omega)]
  rfl) b.toNat
 rw[IH,Nv,show b.toNat.toUInt8=b from P4,Gg]at h0;have HR:=aa h0;clear h0 hL hn;generalize (if b∈l then((l.idxOf b:Nat):Int)else -1)=y at*;go_enter func36,ntmps36;go_wp2_with fail;rw[run_callFunc_extern func82 (by kernel_rfl) (by kernel_rfl) (by kernel_rfl) (e:=Extern.BytealgIndexByte.indexByte) (by kernel_rfl),HR.out];simp only[Result.andThen];rw[Oper.upon_value];go_wp2_with fail;go_ret;exact⟨rfl,rfl⟩
theorem zX(w:World)(s:ByteArray):∃c w2,(convert 9 69 (.string s)).run prog w=.ok (.slice (some ⟨w.heap.size,0,none⟩) s.size c) w2/\s.size<=c/\LIn w2 w.heap.size s.data.toList/\Below w.heap.size w w2/\w2.heap.size=w.heap.size+1:=by
 refine⟨_,_,Lib.run_convert_string_bytes (P:=prog) w 9 69 5 s underlying9 underlying69 underlying5,?_,?_,Lib.bytesWorld_below w 5 s,Lib.bytesWorld_size w 5 s⟩;·exact grownCap_ge _ _ _ _
 ·intro i hi;have h0:i<s.size:=hi;refine⟨Lib.bytesWorld_cell w 5 s i h0,?_⟩;have h2:s.size<=(Lib.bytesCells w 5 s).size:=(by simp[Lib.bytesCells]);simp[World.frozen?,Lib.bytesWorld_at_new];intro h1;exfalso;omega
theorem Fv(w:World)(s a:ByteArray)(ha:a.size<=1000000)(hm:¬fp a.data.toList):Calls prog 11 #[.string s,.string a] w (nA w s.data.toList a.data.toList):=by have HM:=aa (dR w a ha);have d0:decide (fp a.data.toList)=false:=Nl hm;rw[d0]at HM;have h0:=aa (show gl s.data.toList a.data.toList=([],2)from Nd hm);clear d0 hm;go_enter func11,ntmps11;go_wp2_with fail;refine HM.out.mono ?_;rintro e w1 ⟨rfl,h1⟩;have h2:=aa h1;clear h1;go_wp2_with fail;go_ret2;exact⟨_, [],2,h0.out,rfl,Nt _ _ _ _,h2.out⟩
theorem Cy(w:World)(s a:ByteArray)(hs:s.size<=1000000)(ha:a.size<=1000000)(hm:fp a.data.toList):Calls prog 11 #[.string s,.string a] w (nA w s.data.toList a.data.toList):=by
 obtain⟨i3,h3,hO,hP,hQ⟩:=N4 Tryz.info3;have hK:∀w1:World,(Instr.makeSlice 37 (.int .i64 0) (.int .i64 s.size)).run prog w1=.ok (.slice (some ⟨w1.heap.size,0,none⟩) 0 s.size) (w1.alloc (.cells (madeCells #[.int .i64 0] s.size) 3)):=by intro w1;have h:=Qv (P:=prog) w1 37 3 i3 (.int .i64 0) underlying37 h3 hO .i64 .i64 (0:Int) (s.size:Int) (by omega) (by omega) (by rw[hQ];omega) (by omega);rw[hP,Nv,Oc]at h;exact h
 have hW:=aa hK;have HM:=aa (dR w a ha);have d0:decide (fp a.data.toList)=true:=Nn hm;rw[d0]at HM;have hc:=aa (show gl s.data.toList a.data.toList=(match cz s.data.toList a.data.toList with|none=>([],60)|some l=>(l,0))from Nf hm);have H1:=aa (show s.data.toList.length=s.size from rfl);clear d0 hm hK;go_enter func11,ntmps11;go_wp2_with fail;refine HM.out.mono ?_;rintro e w1 ⟨rfl,hy⟩;have hE:=aa hy;have h8:=hy.size;obtain⟨c,w2,h5,H4,h7,hz,hi⟩:=zX w1 a;obtain⟨g,hg⟩:∃g,g=w1.heap.size:=⟨_,rfl⟩;have hB:=hW.out w2;rw[<- hg]at h5 h7 hi;have hS:=aa hz;have hr:=aa h7;have HG:=aa hg;have hI:g<w2.heap.size:=by omega
 have h9:w1.heap.size<=w2.heap.size:=hz.size;clear hy hz h7 hi hg;go_wp2_with fail;clear h5 hB
 go_loopw [7,20] (fun out i wx=>∃(q:Nat) (t:List UInt8) (o:List Nat),q<=s.size/\i=.int .i64 q/\t.length=a.size/\LIn wx g t/\wx.ownsRow w2.heap.size 3 1 out o.length (o.map iv)/\o.length=q/\
  cz s.data.toList a.data.toList=(cz (s.data.toList.drop q) t).map (o++ ·)/\Below w1.heap.size w1 wx/\w2.heap.size<=wx.heap.size) (fun _ i _=>s.size-(intOf i).toNat)
 case atStart=>have hm:(madeCells #[.int .i64 0] s.size).size=s.size*1:=(by simp[madeCells]);have hA:Below w2.heap.size w2 (w2.alloc (.cells (madeCells #[.int .i64 0] s.size) 3)):=(Nj _ _).alloc (ag _) _;exact⟨0,a.data.toList, [],Ng _,rfl,rfl,hr.out.below hA hI,OM w2 (madeCells #[.int .i64 0] s.size) s.size (ag _) (by unfold maxLen;omega) hm,rfl,by simp,hS.out.trans (hA.mono h9),hA.size⟩
 case round=>
  obtain⟨q,t,o,hq,rfl,htl,hJ,h2,hC,hH,hb,HA⟩:=hrel;obtain⟨A0,c0,rfl,H6,H5,H3⟩:=ai h2;clear H3;unfold maxLen at H5;rw[hC]at h2 H6 |-;have hw:=aa hC;have HB:=aa hb;have ho:=aa hH;have hF:=aa hJ;obtain⟨X,hX⟩:∃X,X=o.map iv:=⟨_,rfl⟩;rw[<- hX]at h2;have HX:=aa hX;have HO:=aa h2;clear hX h2 hC hb hH hJ;by_cases e:q<s.size
  ·have hl:=wC s q e;have he:=aa (AB wr g a.size c t s[q] hF.out htl);by_cases e1:s[q]∈t
   ·have hD:t.idxOf s[q]<t.length:=Ph e1;rw[Nf e1]at he;obtain⟨p,hp⟩:∃p,p=t.idxOf s[q]:=⟨_,rfl⟩;rw[<- hp]at he hD;have d2:decide ((p:Int)<0)=false:=aR;have H7:p<a.size:=(by omega);have H2:=aa (EA w1.heap.size wr g a.size c t p (by rw[HG.out];exact Nk _) hF.out htl H4 H7 ha);have hM:cz s.data.toList a.data.toList=(cz (s.data.toList.drop (q+1)) (dO t p)).map ((o++ [p])++ ·):=(by rw[ho.out,hl,cz,Nf e1,<-hp,Option.map_map];congr 1;funext l;simp);have hx:=aa (show(dO t p).length=a.size from(eh _ p hD).trans htl);have hZ:=aa hM;clear hl e1 hp hM htl hD;go_wp2_with fail;refine he.out.mono ?_;rintro e w3 ⟨rfl,rfl⟩;go_wp2_with fail;refine H2.out.mono ?_;rintro e w3 ⟨rfl,hh,h4⟩;have hN:=h4.row HO.out (fun k hk=>by have:=(HO.out.lt k hk).1;simp;omega) (by simp);have hR:w2.heap.size<=w3.heap.size:=ND HA h4.size;have hT:=aa (HB.out.trans h4.below);have hG:=aa hN;have ht:=aa hh;clear hh h4 hN;(go_wp2_with (at_builtin;refine N5 _ rfl _ _ 37 rfl w2.heap.size 3 i3 (.int .i64 0) 1 8 underlying37 h3 hO hP hQ rfl (by decide) _ _ _ rfl (hG.out.alloc _) ⟨w3.heap.size,0,none⟩ 1 1 [.int .i64 p] rfl rfl ?c1 ?c2 ?c3 ?c4 ?c5 ?_));case c1=>exact bV _ _ _
    case c2=>intro u hu;simp at hu;subst hu;rfl
    case c3=>unfold maxLen;omega
    case c4=>omega
    case c5=>simp;omega
    intro v4 w4 h6 h0 _;have hj:Below w2.heap.size w3 w4:=((Nj w2.heap.size w3).alloc hR _).grown h0 (by simp;omega) (fun k hk=>(hG.out.lt k hk).1);have H0:=aa h6;have hV:=aa (hT.out.trans (hj.mono h9));have hv:=aa (ht.out.below hj hI);have H8:w2.heap.size<=w4.heap.size:=ND hR hj.size;clear h6 h0 hj;go_wp2_with fail;go_roundw;case rel=>refine⟨q+1,dO t p,o++ [p],by omega,by go_num,hx.out,hv.out,?_,by rw[Nb,hw.out];rfl,hZ.out,hV.out,H8⟩;rw[Nb,hw.out,Nz,<-HX.out];exact H0.out
    case measure=>simp[intOf];omega
   ·rw[Nd e1]at he;have hL:cz s.data.toList a.data.toList=none:=(by rw[ho.out,hl,cz,Nd e1];rfl);have hY:=aa hL;clear hl e1 hL;go_wp2_with fail;refine he.out.mono ?_;rintro e w3 ⟨rfl,rfl⟩;go_wp2_with fail;go_ret2;refine⟨_, [],60,?_,rfl,Nt _ _ _ _,hE.out.trans (HB.out.mono h8)⟩;rw[hc.out,hY.out]
  ·obtain rfl:q=s.size:=(by omega);have hf:cz s.data.toList a.data.toList=some o:=(by rw[ho.out,N9 (by rw[H1.out];exact Nk _)];simp[cz]);have hn:=aa hf;clear hf;go_wp2_with fail;go_ret2;refine⟨_,o,0,?_,rfl,?_,hE.out.trans (HB.out.mono h8)⟩;·rw[hc.out,hn.out]
   ·have h1:=HO.out;rw[HX.out]at h1;rw[hw.out];exact World.ownsRow.mono h1 (ND h8 h9)
theorem Cx(w:World)(s a:ByteArray)(hs:s.size<=1000000)(ha:a.size<=1000000):Calls prog 11 #[.string s,.string a] w (nA w s.data.toList a.data.toList):=by
 by_cases hm:fp a.data.toList;·exact Cy w s a hs ha hm
 ·exact Fv w s a ha hm
def kX(w:World)(L:List Int)(a:List UInt8)(e:Ending)(w':World):Prop:=e=.returned (.tuple #[.string (eP (fq L a).1),.int .i64 (fq L a).2])/\Below w.heap.size w w'
theorem IK(w:World)(A:Option Addr)(n c:Nat)(L:List Int)(a:ByteArray)(ha:a.size<=1000000)(hm:¬fp a.data.toList):Calls prog 77 #[.slice A n c,.string a] w (kX w L a.data.toList):=by have HM:=aa (dR w a ha);have d0:decide (fp a.data.toList)=false:=Nl hm;rw[d0]at HM;have h0:=aa (show fq L a.data.toList=([],2)from Nd hm);clear d0 hm;go_enter func77,ntmps77;go_wp2_with fail;refine HM.out.mono ?_;rintro e w1 ⟨rfl,h1⟩;have h2:=aa h1;clear h1;go_wp2_with fail;go_ret2;refine⟨?_,h2.out⟩;rw[h0.out];rfl
theorem Fp(w:World)(A:Option Addr)(n k:Nat)(L:List Int)(a:ByteArray)(hL:ZIn w A n L)(p3:n<=k)(hn:n<=1000000)(ha:a.size<=1000000)(hm:fp a.data.toList):
 Calls prog 77 #[.slice A n k,.string a] w (kX w L a.data.toList):=by
 obtain⟨i5,h5,H3,H4,H5⟩:=N4 Tryz.info5;have hZ:∀w1:World,(Instr.makeSlice 69 (.int .i64 0) (.int .i64 n)).run prog w1=.ok (.slice (some ⟨w1.heap.size,0,none⟩) 0 n) (w1.alloc (.cells (madeCells #[.int .u8 0] n) 5)):=by intro w1;have h:=Qv (P:=prog) w1 69 5 i5 (.int .u8 0) underlying69 h5 H3 .i64 .i64 (0:Int) (n:Int) (by omega) (by omega) (by rw[H5];omega) (by omega);rw[H4,Nv,Oc]at h;exact h
 have HF:=aa hZ;have HM:=aa (dR w a ha);have d0:decide (fp a.data.toList)=true:=Nn hm;rw[d0]at HM;have h7:=aa (show fq L a.data.toList=(match fB L a.data.toList with|none=>([],60)|some t=>(t,0))from Nf hm);have HL:=aa hL;have HP:Hid (∀ (ans:List UInt8×Nat) w',fq L a.data.toList=ans->Below w.heap.size w w'->kX w L a.data.toList (.returned (.tuple #[.string (eP ans.1),.int .i64 ans.2])) w'):=aa fun ans w' h1 h2=>⟨by rw[h1],h2⟩;clear d0 hm hL hZ;generalize kX w L a.data.toList=PO at*;generalize fq L a.data.toList=ans at*;go_enter func77,ntmps77;go_wp2_with fail;refine HM.out.mono ?_;rintro e w1 ⟨rfl,hs⟩;have hN:=aa hs;have hQ:=aa (HL.out.below hs);have ho:=hs.size;obtain⟨c,w2,h4,HQ,hf,hE,hl⟩:=zX w1 a;obtain⟨g,hg⟩:∃g,g=w1.heap.size:=⟨_,rfl⟩;have hM:=HF.out w2;rw[<- hg]at h4 hf hl;have H7:=aa hE;have hA:=aa hf;have HG:=aa hg;have hY:g<w2.heap.size:=by omega
 have hp:w1.heap.size<=w2.heap.size:=hE.size;clear hs hE hf hl hg;go_wp2_with fail;clear h4 hM
 go_loopw [7,20] (fun out i wx=>∃(q:Nat) (t:List UInt8) (o:List UInt8),q<=n/\i=.int .i64 q/\t.length=a.size/\LIn wx g t/\wx.ownsRow w2.heap.size 5 1 out o.length (o.map bv)/\o.length=q/\
  fB L a.data.toList=(fB (L.drop q) t).map (o++ ·)/\Below w1.heap.size w1 wx/\w2.heap.size<=wx.heap.size) (fun _ i _=>n-(intOf i).toNat)
 case atStart=>have hm:(madeCells #[.int .u8 0] n).size=n*1:=(by simp[madeCells]);have hF:Below w2.heap.size w2 (w2.alloc (.cells (madeCells #[.int .u8 0] n) 5)):=(Nj _ _).alloc (ag _) _;exact⟨0,a.data.toList, [],Ng _,rfl,rfl,hA.out.below hF hY,OM w2 (madeCells #[.int .u8 0] n) n (ag _) (by unfold maxLen;omega) hm,rfl,by simp,H7.out.trans (hF.mono hp),hF.size⟩
 case round=>
  obtain⟨q,t,o,hq,rfl,htl,hI,h0,hw,hv,hb,HZ⟩:=hrel;obtain⟨A0,c0,rfl,HU,HT,HN⟩:=ai h0;clear HN;unfold maxLen at HT;have HS:=hQ.out.1;by_cases e:q<n
  ·obtain⟨b,off,rfl,hc⟩:=hQ.out.2 (by omega);have hi:=hc q e;have hJ:=No w1 _ hi;have hH:L.drop q=L.getD q 0::L.drop (q+1):=(by rw[NN (by omega),Na,Nc (by omega)];rfl);obtain⟨x,hx⟩:∃x,x=L.getD q 0:=⟨_,rfl⟩;rw[<- hx]at hi hH;have p1:=(hb.cell (p:=⟨b,off+q,none⟩) hJ).trans hi;have p0:=aa hi;rw[hw]at h0 HU |-;have hS:=aa hw;have HB:=aa hb;have hP:=aa hv;have HJ:=aa htl;have HE:=aa hI;have hO:=aa hH;obtain⟨X,hX⟩:∃X,X=o.map bv:=⟨_,rfl⟩;rw[<- hX]at h0;have HX:=aa hX;have HO:=aa h0;have hz:t.length=a.size:=htl;clear hX h0 hw hb hv htl hI hH hc hx HS hi;by_cases e1:0<=x/\x<a.size
   ·obtain⟨p,rfl⟩:∃p:Nat,x=p:=⟨x.toNat,by omega⟩;have HW:p<a.size:=(by omega);have d2:decide ((p:Int)<0)=false:=aR;have HV:¬a.size<=p:=(by omega);have HR:w1.heap.size<=g:=(by rw[HG.out];exact Nk _);have HK:=aa (fun w9 (h9:LIn w9 g t)=>EA w1.heap.size w9 g a.size c t p HR h9 hz HQ HW (by omega));have H1:fB L a.data.toList=(fB (L.drop (q+1)) (dO t p)).map ((o++ [t.getD p 0])++ ·):=(by rw[hP.out,hO.out,fB,Nf ⟨e1.1,by rw[hz];exact e1.2⟩,Nv,Option.map_map];congr 1;funext l;simp);have HH:=aa H1;have hD:=aa (show(dO t p).length=a.size from(eh _ p (by omega)).trans HJ.out);have hK:(dO t p).length=a.size:=(eh _ p (by omega)).trans hz;obtain⟨x,hx⟩:∃x,x=t.getD p 0:=⟨_,rfl⟩;have hT:=aa hx;have p2:(0:Int)<(a.size:Int):=(by omega);clear e1 H1 hx hK;go_wp2_with fail;refine(HK.out wr HE.out).mono ?_;rintro e w3 ⟨rfl,hh,h8⟩;have H2:=h8.row HO.out (fun k hk=>by have:=(HO.out.lt k hk).1;simp;omega) (by simp);have H6:w2.heap.size<=w3.heap.size:=ND HZ h8.size;have hV:=HB.out.trans h8.below;have H8:=aa hV;have hW:=(hh 0 (by rw[eh _ _ (by omega)];omega)).1;rw[vq,<-hT.out]at hW;obtain⟨y,hy⟩:∃y,y=x.toNat:=⟨_,rfl⟩;have hG:bv x=.int .u8 y:=(by rw[hy];rfl);rw[hG]at hW;have HD:=aa hG;have hR:=aa H2;have hB:=aa hh;clear hh h8 H2 hV hG hy;(go_wp2_with (at_builtin;refine N5 _ rfl _ _ 69 rfl w2.heap.size 5 i5 (.int .u8 0) 1 1 underlying69 h5 H3 H4 H5 rfl (by decide) _ _ _ rfl (hR.out.alloc _) ⟨w3.heap.size,0,none⟩ 1 1 [.int .u8 y] rfl rfl ?c1 ?c2 ?c3 ?c4 ?c5 ?_));case c1=>exact bV _ _ _
    case c2=>intro u hu;simp at hu;subst hu;rfl
    case c3=>unfold maxLen;omega
    case c4=>omega
    case c5=>simp;omega
    intro v4 w4 he h6 _;have ht:Below w2.heap.size w3 w4:=((Nj w2.heap.size w3).alloc H6 _).grown h6 (by simp;omega) (fun k hk=>(hR.out.lt k hk).1);have HI:=aa he;have HA:=aa (H8.out.trans (ht.mono hp));have hC:=aa (hB.out.below ht hY);have HY:w2.heap.size<=w4.heap.size:=ND H6 ht.size;clear he h6 ht;go_wp2_with fail;go_roundw;case rel=>refine⟨q+1,dO t p,o++ [x],by omega,by go_num,hD.out,hC.out,?_,by rw[Nb,hS.out];rfl,by rw[hT.out];exact HH.out,HA.out,HY⟩;rw[Nb,hS.out,Nz,<-HX.out];show World.ownsRow _ _ _ _ _ _ (X++ [bv x]);rw[HD.out];exact HI.out
    case measure=>simp[intOf];omega
   ·have H0:fB L a.data.toList=none:=(by rw[hP.out,hO.out,fB,Nd (fun h=>e1 ⟨h.1,by have:=h.2;rw[hz]at this;exact this⟩)];rfl);have h3:ans=([],60):=(by rw[h7.out,H0]);have HC:=aa (hN.out.trans (HB.out.mono ho));have hr:=aa (HP.out ([],60) wr h3 HC.out);clear H0 h7 h3 HP;by_cases e2:x<0;·have d2:decide (x<0)=true:=Nn e2;clear e1;go_wp2_with fail;exact hr.out
    ·obtain⟨p,rfl⟩:∃p:Nat,x=p:=⟨x.toNat,by omega⟩;have HV:a.size<=p:=(by omega);have d2:decide ((p:Int)<0)=false:=aR;clear e1 e2;go_wp2_with fail;exact hr.out
  ·obtain rfl:q=n:=(by omega);have hj:fB L a.data.toList=some o:=(by rw[hv,N9 (by omega)];simp[fB]);have h3:ans=(o,0):=(by rw[h7.out,hj]);have h4:=rx h0;have hr:=aa (HP.out (o,0) wr h3 (hN.out.trans (hb.mono ho)));clear hj h3 h0 hb hv hw hI h7 HP;go_wp2_with fail;exact hr.out
theorem qN(w:World)(A:Option Addr)(n k:Nat)(L:List Int)(a:ByteArray)(hL:ZIn w A n L)(h0:n<=k)(hn:n<=1000000)(ha:a.size<=1000000):Calls prog 77 #[.slice A n k,.string a] w (kX w L a.data.toList):=by
 by_cases hm:fp a.data.toList;·exact Fp w A n k L a hL h0 hn ha hm
 ·exact IK w A n k L a ha hm
theorem wv(w:World)(a:ByteArray)(ha:a.size<=1000000)(hm:¬fp a.data.toList):Calls prog 14 #[.string a] w (pu w [] 2):=by
 have HM:=aa fun w1:World=>dR w1 a ha;have d0:decide (fp a.data.toList)=false:=Nl hm;rw[d0]at HM;have h2:Blk (w.alloc (.cells #[.string ⟨#[]⟩,.int .i64 0] 24)) w.heap.size 24 #[.string ⟨#[]⟩,.int .i64 0]:=aj w 24 _;have h0:Below w.heap.size w (w.alloc (.cells #[.string ⟨#[]⟩,.int .i64 0] 24)):=(Nj _ _).alloc (ag _) _;have h4:=aa h2;have h3:=aa h0;clear d0 hm h2 h0;go_enter func14,ntmps14;go_wp2_with fail;refine(HM.out _).mono ?_;rintro e w1 ⟨rfl,hb⟩;have hk:=aO hb h4.out;have h1:Below w.heap.size w w1:=h3.out.trans (hb.mono (by simp));have q0:w1.cell? ⟨w.heap.size,0,none⟩=some (.string ⟨#[]⟩):=ac hk 0;have q1:w1.cell? ⟨w.heap.size,1,none⟩=some (.int .i64 0):=ac hk 1;have f0:=ae hk 0;have f1:=ae hk 1;have HB:=aa h1;clear hb hk h1;go_wp2_with fail;refine NH (v:=.tuple #[.agg #[.string ⟨#[]⟩,.int .i64 0],.int .i64 2]) ?_ rfl ?_;·simp[results,results14,go_sem,q0,q1]
 ·exact⟨rfl,(HB.out.setCell (p:=⟨w.heap.size,0,none⟩) (ag _) _).setCell (p:=⟨w.heap.size,1,none⟩) (ag _) _⟩
theorem qQ(w:World)(a:ByteArray)(ha:a.size<=1000000)(hm:fp a.data.toList):Calls prog 14 #[.string a] w (pu w (bU a.data.toList) 0):=by
 obtain⟨hz,hi⟩:=vu;have HM:=aa fun w1:World=>dR w1 a ha;have hJ:=aa fun w1:World=>xn w1 a ha;have hL:=aa Gj;have d0:decide (fp a.data.toList)=true:=Nn hm;rw[d0]at HM;have hY:Blk (w.alloc (.cells #[.string ⟨#[]⟩,.int .i64 0] 24)) w.heap.size 24 #[.string ⟨#[]⟩,.int .i64 0]:=aj w 24 _;have hR:Below w.heap.size w (w.alloc (.cells #[.string ⟨#[]⟩,.int .i64 0] 24)):=(Nj _ _).alloc (ag _) _;have hF:=aa hY;have hB:=aa hR;have HI:=aa hi;have HS:=aa qJ;have HO:=aa zl;have HG:=aa mI;have HF:=aa uY;have H1:eW a.data.toList 16=bU a.data.toList:=rfl;have HL:=aa H1;have H0:eW a.data.toList 0=(List.range 16).map (fZ a.data.toList):=by simp[eW]
 have HJ:=aa H0;have HP:=aa (nt a.data.toList);have HN:=aa (kT a.data.toList);clear d0 hm hY hR hi H1 H0;go_enter func14,ntmps14;go_wp2_with fail;refine(HM.out _).mono ?_;rintro e w1 ⟨rfl,hb⟩;have hk:=aO hb hF.out;have hT:Below w.heap.size w w1:=hB.out.trans (hb.mono (by simp));have HK:=aa hk;have HB:=aa hT;have p0:w.heap.size<w1.heap.size:=aA hk;clear hb hk hT;go_wp2_with fail;refine(hJ.out w1).mono ?_;rintro e w2 ⟨f,rfl,h2,he⟩;generalize iI=T at*;have ht:∀i,i<16->f i<65536:=fun i hi=>(h2 i hi).1;have HY:=RZ (P:=prog) w2 74 (T fun _=>0) (T f) (by rw[HS.out];exact HI.out) (by rw[HS.out,HS.out]) (HO.out _);have HZ:=HS.out f;have hv:=aO he HK.out;have p1:=he.size;have h3:Below w.heap.size w w2:=HB.out.trans (he.mono (NT p0));have hZ:Blk (w2.alloc (.cells (T f) 74)) w.heap.size 24 #[.string ⟨#[]⟩,.int .i64 0]:=(bZ w2 _ _ (aA hv)).trans hv;have h9:=aa (aj w2 74 (T f));have hj:=aa (h3.alloc h3.size (.cells (T f) 74));have hG:=aa hZ;have h6:=aa fun w3=>hL.out w3 f ht;have H5:=aa ht;have hK:=aa fun u hu=>KS (a:=a.data.toList) (f:=f) h2 (u:=u) hu;have HE:=aa fun i hi h0=>Kn (a:=a.data.toList) (f:=f) h2 (i:=i) hi h0;have HH:=aa fun i hi h0=>vK (a:=a.data.toList) (f:=f) h2 (i:=i) hi h0;have hE:=aa (show(prog.info? 74).map (·.size)=some (T f).size by rw[HZ];exact HI.out);have H6:=aa (HG.out f);clear hv h3 hZ he ht h2 hL hJ HM HK HB hF hB HG HO;go_upto_region 4 with fail;clear HY hz;have hX:w2.heap.size<(w2.alloc (.cells (T f) 74)).heap.size:=aA h9.out;have HV:w.heap.size<w2.heap.size:=by omega
 obtain⟨g4,hV⟩:∃g4,g4=w2.heap.size:=⟨_,rfl⟩;rw[<- hV]at h9 hX HV |-;clear hV p1;generalize T f=Tf at*;generalize w2.alloc (.cells Tf 74)=w3 at*;go_upto_region 5 with(go_at_call 44;refine(Gw w3).mono ?_;rintro e w4 ⟨rfl,h8⟩;have h7:=aa h8;clear h8)
 have hx:=h7.out;clear h7;have hy:=hj.out.size;obtain⟨p,hp⟩:∃p,p=w3.heap.size:=⟨_,rfl⟩;have hN:IsW w.heap.size w4 p (.slice none 0 0) []:=by rw[hx,hp];exact nK w3 _ hy
 have ho:Below w3.heap.size w3 w4:=cB hx;have hw:=an ho;have hh:=aa (hw.blk h9.out aw aw);have hH:=aa (hw.blk hG.out aw aw);have hC:=aa (hj.out.trans (ho.mono hy));have hM:=aa hN;have p3:g4<p:=by omega
 have p4:w.heap.size<p:=by omega
 rw[<- hp];clear hN ho hw hx hp h9 hG hj hy hX;refine Qd (iy rfl rfl (fO rfl rfl rfl hh.out underlying74 hE.out ?_));go_wp2_with fail;refine(h6.out w4).mono ?_;rintro e w5 ⟨u,hu,rfl,hr⟩;have hf:=an hr;have hO:=hM.out.step hf aw (fun _ _=>aw) aw aw;have hA:=aa (hf.blk hh.out aw aw);have hI:=aa (hf.blk hH.out aw aw);have hD:=aa (aq hC.out hr);have h1:=aa (fU w.heap.size w5 p _ [] u 16 hO (by simp) (by omega) hu.1);rw[Ok,hK.out u hu,<-HJ.out]at h1;clear hu hr hf hO h6 hK hM hh hH hC;go_wp2_with fail;refine h1.out.mono ?_;rintro e w6 ⟨rfl,v6,hP,hc⟩;have H2:=aa (hc.blk hA.out (by simp;omega) (by decide));have H7:=aa (hc.blk hI.out (by simp;omega) (by decide));have H3:=aa (hD.out.trans hc.below);have HR:=aa hP;clear hP hc h1 hA hI hD;go_upto_region 6 with fail;refine Qd (fO rfl rfl rfl H2.out underlying74 hE.out ?_);go_wp2_with fail;go_loopw [20] (fun i wx=>∃(q:Nat) (v:Value),q<=16/\i=.int .i64 q/\IsW w.heap.size wx p v (eW a.data.toList q)/\Blk wx w.heap.size 24 #[.string ⟨#[]⟩,.int .i64 0]/\Below w.heap.size w wx) (fun i _=>16-(intOf i).toNat)
 case atStart=>exact⟨0,v6,Ng _,rfl,HR.out,H7.out,H3.out⟩
 case round=>
  obtain⟨q,v,hq,rfl,hW,hk,hb⟩:=hrel;have HW:=aa hW;have HK:=aa hk;have HB:=aa hb;have p5:=HN.out q;by_cases e:q<16
  ·obtain⟨c,h4⟩:∃c,c=f q:=⟨_,rfl⟩;have hg:=H6.out q e;rw[<- h4]at hg;have HX:=fun w9=>HF.out w9 Tf q c e hg;have h5:=HP.out q;by_cases hs:c=0
   ·subst hs;rw[HH.out q e h4.symm,NU]at h5;have HD:=aa h5;clear h5 h4 hW hk hb hg;go_wp2_with fail;go_roundw;case rel=>exact⟨q+1,v,by omega,by go_num,by rw[HD.out];exact HW.out,HK.out,HB.out⟩
    case measure=>simp[intOf];omega
   ·have p2:=qc hs;rw[<- HE.out q e (by rw[<- h4];exact hs),<-h4]at h5;have h1:=aa (fU w.heap.size wr p _ _ c 16 hW (by omega) (by omega) (by rw[h4];exact H5.out q e));rw[<- h5]at h1;clear h5 h4 hW hk hb hg;go_wp2_with fail;refine h1.out.mono ?_;rintro e w7 ⟨rfl,v7,hQ,hl⟩;have H8:=aa (hl.blk HK.out (by simp;omega) (by decide));have H4:=aa (HB.out.trans hl.below);have HU:=aa hQ;clear hQ hl h1;go_wp2_with fail;go_roundw;case rel=>exact⟨q+1,v7,by omega,by go_num,HU.out,H8.out,H4.out⟩
    case measure=>simp[intOf];omega
  ·obtain rfl:q=16:=(by omega);rw[HL.out]at hW;obtain⟨S,hS⟩:∃S:ByteArray,S=⟨(aK (bU a.data.toList)).toArray⟩:=⟨_,rfl⟩;have HT:=aa (jC w.heap.size wr p v _ hW);have HQ:=aa hS;rw[<- hS]at HT;obtain⟨n,hn⟩:∃n,n=(bU a.data.toList).length:=⟨_,rfl⟩;have c0:=ac hW.blk 0;have c2:=ac hW.blk 2;simp at c0 c2;have HC:=aa hn;rw[<- hn]at c2;have HA:=aa (lF wr p n c0 c2);have q0:wr.cell? ⟨w.heap.size,0,none⟩=some (.string ⟨#[]⟩):=ac hk 0;have q1:wr.cell? ⟨w.heap.size,1,none⟩=some (.int .i64 0):=ac hk 1;have f0:=ae hk 0;have f1:=ae hk 1;clear hW hk hb hS hn c0 c2 HW HK;go_wp2_with fail;refine HT.out.mono ?_;rintro e w8 ⟨rfl,rfl⟩;go_wp2_with fail;refine HA.out.mono ?_;rintro e w8 ⟨rfl,rfl⟩;go_wp2_with fail;refine NH (v:=.tuple #[.agg #[.string S,.int .i64 n],.int .i64 0]) ?_ rfl ?_;·simp[results,results14,go_sem,q0,q1]
   ·exact⟨by rw[HQ.out,HC.out];rfl,(HB.out.setCell (p:=⟨w.heap.size,0,none⟩) (ag _) _).setCell (p:=⟨w.heap.size,1,none⟩) (ag _) _⟩
