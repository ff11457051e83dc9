import Derived.Test.YtfhgikojdfblpaaGreatM14
set_option maxHeartbeats 3200000
set_option maxRecDepth 100000
namespace Go.Proofs.YtfhgikojdfblpaaGreat
open _root_.Go.Proofs.Tryz
open Go.RowKit
def aD(w:World)(ans:List Nat×Nat)(e:Ending)(w':World):Prop:=∃v,e=.returned (.tuple #[v,.int .i64 ans.2])/\w'.ownsRow w.heap.size 3 1 v ans.1.length (ans.1.map iv)/\Below w.heap.size w w'
theorem oB(w:World)(l:List Value)(t:TypeId):∀(j:Nat) (u:Value),l[j]? =some u->(w.alloc (.cells l.toArray t)).cell? ((⟨w.heap.size,0,none⟩:Addr).add j)=some u:=by intro j u hu;rw[OT,N8,ac (aj w t _)];simpa using hu
theorem pS{L:List Int}{j:Nat}(h:j<L.length):L.getD j 0∈L:=by rw[Na,Nc h];exact NM h
theorem mc{L:List Nat}{j:Nat}(h:j<L.length):L.getD j 0∈L:=by rw[Na,Nc h];exact NM h
theorem oq(L:List Int)(q:Nat)(h:q<L.length):L.take (q+1)=L.take q++ [L.getD q 0]:=by rw[NF h,Na,Nc h];rfl
theorem Ku(w:World)(A:Option Addr)(n c:Nat)(L:List Int)(hL:ZIn w A n L)(hn:n<=maxLen):Calls prog 119 #[.slice A n c] w (aD w (eN L)):=by
 obtain⟨i3,h3,HC,HD,HE⟩:=N4 Tryz.info3;unfold maxLen at hn;have HP:Hid (∀ (v:Value) (a:List Nat×Nat) (w':World),eN L=a->w'.ownsRow w.heap.size 3 1 v a.1.length (a.1.map iv)->Below w.heap.size w w'->aD w (eN L) (.returned (.tuple #[v,.int .i64 a.2])) w'):=aa fun v a w' h1 h2 h3=>⟨v,by rw[h1],by rw[h1];exact h2,h3⟩;have hP:eN L=if DOk L then(bc (nl L),0)else([],80):=rfl
 have HL:=aa hL;have HU:=hL.1;have hz:=aa HU;have hH:=aa fu;generalize aD w (eN L)=PO at*;generalize eN L=ans at*;have hw:=aa hP;clear hL HU hP;go_enter func119,ntmps119;go_wp2_with fail;go_loopw [4] (fun iv' wx=>∃i:Nat,i<=n/\iv'=.int .i64 i/\Hid (∀ x∈L.take i,1<=x/\x<=20)/\wx=w) (fun iv' _=>n-(intOf iv').toNat)
 case atStart=>exact⟨0,Ng _,rfl,aa (by simp),rfl⟩
 case round=>
  obtain⟨i,hi,rfl,hE,rfl⟩:=hrel;by_cases e:i<n
  ·have d0:decide ((i:Int)<(n:Int))=true:=bE;obtain⟨b,off,rfl,hc⟩:=HL.out.2 (by omega);have p4:=hc i e;have H8:=oq L i (by rw[hz.out];exact e);obtain⟨x,hx⟩:∃x,x=L.getD i 0:=⟨_,rfl⟩;rw[<- hx]at p4 H8;have HJ:=aa H8;clear hc hx H8;by_cases e1:1<=x/\x<=20
   ·have d1:decide (x<1)=false:=aR;have d2:decide (20<x)=false:=aR;have hv:∀y∈L.take (i+1),1<=y/\y<=20:=by
     rw[HJ.out];intro y hy;rcases List.mem_append.1 hy with hy|hy;·exact hE.out y hy
     ·rw[List.mem_singleton.1 hy];exact e1
    have p3:=aa hv;clear hv e1;go_wp2_with fail;go_roundw;case rel=>exact⟨i+1,by omega,by go_num,p3,trivial⟩
    case measure=>simp[intOf];omega
   ·have hS:ans=([],80):=(by rw[hw.out,if_neg];intro hD;refine e1 (hD.2.2 x ?_);have h1:x∈L.take (i+1):=(by rw[HJ.out];exact OX _ (List.mem_singleton.2 rfl));exact OC h1);have h8:=aa (HP.out (.slice none 0 0) _ wr hS (Nt _ _ _ _) (Nj _ _));clear hS;by_cases e2:x<1;·have d1:decide (x<1)=true:=Nn e2;clear e1;go_wp2_with fail;first|exact h8.out|(go_ret2;exact h8.out)
    ·have d1:decide (x<1)=false:=Nl e2;have d2:decide (20<x)=true:=bE;clear e1;go_wp2_with fail;first|exact h8.out|(go_ret2;exact h8.out)
  ·obtain rfl:i=n:=(by omega);have d0:decide ((i:Int)<(i:Int))=false:=aR;have h9:∀x∈L,1<=x/\x<=20:=(by have h:=hE.out;rw[Nr (Oi hz.out)]at h;exact h);by_cases hA:i<2\/258<i
   ·have hS:ans=([],80):=(by rw[hw.out,if_neg];intro hD;have h1:=hD.1;have h2:=hD.2.1;rw[hz.out]at h1 h2;omega);have h8:=aa (HP.out (.slice none 0 0) _ wr hS (Nt _ _ _ _) (Nj _ _));clear hS h9;by_cases e2:i<2;·have d1:decide ((i:Int)<2)=true:=bE;clear hA;go_wp2_with fail;first|exact h8.out|(go_ret2;exact h8.out)
    ·have d1:decide ((i:Int)<2)=false:=aR;have d2:decide ((258:Int)<(i:Int))=true:=bE;clear hA;go_wp2_with fail;first|exact h8.out|(go_ret2;exact h8.out)
   ·have d1:decide ((i:Int)<2)=false:=aR;have d2:decide ((258:Int)<(i:Int))=false:=aR;have hD:DOk L:=⟨by rw[hz.out];omega,by rw[hz.out];omega,h9⟩;have he:ans=(bc (nl L),0):=(by rw[hw.out,Nf hD]);have hQ:∀x∈nl L,1<=x/\x<=20:=(by intro x hx;obtain⟨y,hy,rfl⟩:=List.mem_map.1 hx;have:=h9 y hy;omega);obtain⟨b,off,rfl,hc⟩:=HL.out.2 (by omega);obtain⟨l,hl⟩:∃l,l=nl L:=⟨_,rfl⟩;have HT:l.length=i:=(by rw[hl,bN,hz.out]);have hB:∀j,j<i->wr.cell? ⟨b,off+j,none⟩=some (.int .i64 (l.getD j 0:Nat)):=(by intro j hj;rw[hc j hj,hl,nf];have:=(h9 _ (pS (L:=L) (j:=j) (by rw[hz.out];exact hj))).1;rw[PH (by omega)]);have H6:∀j,j<i->1<=l.getD j 0/\l.getD j 0<=20:=(by intro j hj;refine hQ _ ?_;rw[<- hl];exact mc (by omega));rw[<- hl]at he;have hF:=aa he;have HI:=aa HT;have hI:=aa hB;have HG:=aa H6;have c0:=hB 0 (by omega);rw[NY]at c0;have x20:=(H6 0 (by omega)).2;obtain⟨x0,HA⟩:∃x0,x0=l.getD 0 0:=⟨_,rfl⟩;rw[<- HA]at c0 x20;have HK:=aa HA;have p0:=aa (hH.out wr x0 5 (by omega) (by omega));have p8:2<=i:=(by omega);have HR:i<=258:=(by omega);clear hA hD he hQ hc hl HT hB H6 HA h9 HL hE;go_wp2_with fail;refine p0.out.mono ?_;rintro e w3 ⟨g2,cap2,rfl,h5,HQ⟩;have hh:=aa h5;have hY:=aa HQ;clear h5 HQ c0;go_wp2_with fail;(go_loopw [5,7] (fun out jv wx=>∃(j:Nat) (o:List Nat),j<=i/\jv=.int .i64 j/\o.length<=5+41*j/\Hid (o=ah x0 5++bL x0 (l.take j))/\wx.ownsRow wr.heap.size 3 1 out o.length (o.map iv)/\Below wr.heap.size wr wx) (fun _ jv _=>i-(intOf jv).toNat));case atStart=>refine⟨0,ah x0 5,Ng _,rfl,by rw[af];omega,aa (by simp[bL]),?_,hY.out⟩;rw[af];exact hh.out
    case round=>
     rename World=>wo;obtain⟨j,o,hj,rfl,pb,ho,h5,hb⟩:=hrel;have HO:=aa h5;have HB:=aa hb;have pf:=hb.size;clear h5 hb;by_cases ej:j<i
     ·have d3:decide ((j:Int)<(i:Int))=true:=bE;have H0:=hI.out j ej;have H7:=hI.out (j-1) (by omega);have hC:=No wr _ H0;have x20:=HG.out j ej;have a20:=HG.out (j-1) (by omega);obtain⟨x,hx⟩:∃x,x=l.getD j 0:=⟨_,rfl⟩;obtain⟨a,ha⟩:∃a,a=l.getD (j-1) 0:=⟨_,rfl⟩;rw[<- hx]at H0 x20;rw[<- ha]at H7 a20;have ht:bL x0 (l.take (j+1))=bL x0 (l.take j)++fJ a x:=(by rw[HK.out,ha,hx];exact sq (by rw[HI.out];exact ej));have hK:=aa ht;have H2:=aa fun(wx:World) (h:Below wr.heap.size wr wx)=>(h.cell (p:=⟨b,off+j,none⟩) hC).trans H0;have p1:=aa fun(wx:World) (h:Below wr.heap.size wr wx)=>(h.cell (p:=⟨b,off+(j-1),none⟩) hC).trans H7;have qx:=H2.out wo HB.out;have qa:=p1.out wo HB.out;obtain⟨j1,H1⟩:∃j1,j1=j-1:=⟨_,rfl⟩;rw[<- H1]at qa;clear ht H0 H7 hC hx ha;go_upto_region 12 with fail;(go_cut [8]from 51 to 56 (fun av wx=>av=.int .i64 (a:Nat)/\wx=wo));case first=>
       rcases OL j with h0|h0;·subst h0;subst H1;have qa':wo.cell? ⟨b,off,none⟩=some (.int .i64 (a:Nat)):=qa;clear qa qx;go_wp2_with fail;go_meet;exact⟨rfl,rfl⟩
       ·obtain⟨k,rfl⟩:∃k,j=k+1:=⟨j-1,by omega⟩;have hk:j1=k:=(by omega);clear H1;subst hk;clear qx h0;go_wp2_with fail;go_meet;exact⟨rfl,rfl⟩
      case rest=>
       obtain⟨rfl,rfl⟩:=hcut;clear H1 qa;go_wp2_with fail;(go_loopw [5,9] (fun out kv wx=>∃(k:Nat) (o2:List Nat),k<=x-a/\kv=.int .i64 k/\o2.length=o.length+2*k/\Hid (o2=o++ups k)/\wx.ownsRow wr.heap.size 3 1 out o2.length (o2.map iv)/\Below wr.heap.size wr wx) (fun _ kv _=>20-(intOf kv).toNat));case atStart=>exact⟨0,o,Ng _,rfl,rfl,aa (by simp[ups]),HO.out,HB.out⟩
       case round=>
        rename World=>wi;obtain⟨k,o2,hk,rfl,hf,hT,h5,hb⟩:=hrel;have hZ:=aa h5;have HH:=aa hb;have HF:=hb.size;have qx2:=H2.out wi hb;obtain⟨A0,c0,rfl,HV,p5,_⟩:=ai h5;unfold maxLen at p5;clear h5 hb qx;by_cases ek:k<x-a
        ·have d4:decide ((k:Int)<(x:Int)-(a:Int))=true:=bE;have hV:o2++ [1,0]=o++ups (k+1):=(by rw[hT.out,vt,Ni]);have H5:=aa hV;obtain⟨N,hN⟩:∃N,N=o2.length:=⟨_,rfl⟩;obtain⟨X,hX⟩:∃X,X=o2.map iv:=⟨_,rfl⟩;rw[<- hN,<-hX]at hZ;have HN:=aa hN;have HX:=aa hX;rw[<- hN]at hf HV |-;have hg:=aa hf;have p7:N<=20000:=(by omega);clear hV hN hX hf;(go_wp2_with (at_builtin;refine N5 _ rfl _ _ 37 rfl wr.heap.size 3 i3 (.int .i64 0) 1 8 underlying37 h3 HC HD HE rfl (by decide) _ _ _ rfl (hZ.out.alloc _) ⟨wi.heap.size,0,none⟩ 2 2 [.int .i64 1,.int .i64 0] rfl rfl ?c1 ?c2 ?c3 ?c4 ?c5 ?_));case c1=>exact oB wi [.int .i64 1,.int .i64 0] 3
         case c2=>intro u hu;simp at hu;rcases hu with rfl|rfl <;>rfl
         case c3=>unfold maxLen;omega
         case c4=>omega
         case c5=>simp;omega
         intro v4 w4 h6 h4 _;have hp:Below wr.heap.size wr w4:=(HH.out.alloc HF _).grown h4 (by simp;omega) (fun k hk=>(hZ.out.lt k hk).1);have hO:=aa h6;have hG:=aa hp;clear h6 h4 hp;go_wp2_with fail;go_roundw;case rel=>refine⟨k+1,o2++ [1,0],by omega,by go_num,by rw[Nb,<-HN.out,hg.out];show o.length+2*k+2=_;omega,H5,?_,hG.out⟩;rw[Nb,<-HN.out,Nz,<-HX.out];exact hO.out
         case measure=>simp[intOf];omega
        ·have d4:decide ((k:Int)<(x:Int)-(a:Int))=false:=aR;have HS:k=x-a:=(by omega);have p2:=aa HS;have hg:=aa hf;obtain⟨M,hM⟩:∃M,M=o2.length:=⟨_,rfl⟩;have HM:=aa hM;rw[<- hM]at HV |-;clear HS hf hM;go_wp2_with fail;(go_loopw [5,10] (fun out kv wx=>∃(q:Nat) (o3:List Nat),q<=a-x/\kv=.int .i64 q/\o3.length=o2.length+2*q/\Hid (o3=o2++fW q)/\wx.ownsRow wr.heap.size 3 1 out o3.length (o3.map iv)/\Below wr.heap.size wr wx) (fun _ kv _=>20-(intOf kv).toNat));case atStart=>exact⟨0,o2,Ng _,rfl,rfl,aa (by simp[fW]),by rw[HM.out];exact hZ.out,HH.out⟩
         case round=>
          rename World=>wk;obtain⟨q,o3,hq,rfl,h7,HY,h5,hb⟩:=hrel;have hh:=aa h5;have hY:=aa hb;have hW:=hb.size;have qx3:=H2.out wk hb;obtain⟨A5,c5,rfl,HW,p6,_⟩:=ai h5;unfold maxLen at p6;have p9:k<=20:=(by omega);have hr:o3.length<=20000:=(by rw[h7,hg.out];omega);clear h5 hb qx2;by_cases eq:q<a-x
          ·have d5:decide ((q:Int)<(a:Int)-(x:Int))=true:=bE;have hV:o3++ [1,1]=o2++fW (q+1):=(by rw[HY.out,oF,Ni]);have H5:=aa hV;obtain⟨N,hN⟩:∃N,N=o3.length:=⟨_,rfl⟩;obtain⟨X,hX⟩:∃X,X=o3.map iv:=⟨_,rfl⟩;rw[<- hN,<-hX]at hh;have HN:=aa hN;have HX:=aa hX;rw[<- hN]at h7 HW hr |-;have H4:=aa h7;clear hV hN hX h7;(go_wp2_with (at_builtin;refine N5 _ rfl _ _ 37 rfl wr.heap.size 3 i3 (.int .i64 0) 1 8 underlying37 h3 HC HD HE rfl (by decide) _ _ _ rfl (hh.out.alloc _) ⟨wk.heap.size,0,none⟩ 2 2 [.int .i64 1,.int .i64 1] rfl rfl ?c1 ?c2 ?c3 ?c4 ?c5 ?_));case c1=>exact oB wk [.int .i64 1,.int .i64 1] 3
           case c2=>intro u hu;simp at hu;subst hu;rfl
           case c3=>unfold maxLen;omega
           case c4=>omega
           case c5=>simp;omega
           intro v4 w4 h6 h4 _;have hp:Below wr.heap.size wr w4:=(hY.out.alloc hW _).grown h4 (by simp;omega) (fun k hk=>(hh.out.lt k hk).1);have hO:=aa h6;have hG:=aa hp;clear h6 h4 hp;go_wp2_with fail;go_roundw;case rel=>refine⟨q+1,o3++ [1,1],by omega,by go_num,by rw[Nb,<-HN.out,H4.out];show o2.length+2*q+2=_;omega,H5,?_,hG.out⟩;rw[Nb,<-HN.out,Nz,<-HX.out];exact hO.out
           case measure=>simp[intOf];omega
          ·have d5:decide ((q:Int)<(a:Int)-(x:Int))=false:=aR;have HZ:q=a-x:=(by omega);have hR:o3++ [0]=ah x0 5++bL x0 (l.take (j+1)):=(by rw[HY.out,hT.out,ho.out,hK.out,p2.out,HZ,fJ];simp);have H3:=aa hR;have hs:(o3++ [0]).length<=5+41*(j+1):=(by rw[Nb,h7,hg.out];show o.length+2*k+2*q+1<=_;omega);have hJ:=aa hs;obtain⟨N,hN⟩:∃N,N=o3.length:=⟨_,rfl⟩;obtain⟨X,hX⟩:∃X,X=o3.map iv:=⟨_,rfl⟩;rw[<- hN,<-hX]at hh;have HN:=aa hN;have HX:=aa hX;rw[<- hN]at HW hr |-;clear hN hX h7 hR hs HZ;(go_wp2_with (at_builtin;refine N5 _ rfl _ _ 37 rfl wr.heap.size 3 i3 (.int .i64 0) 1 8 underlying37 h3 HC HD HE rfl (by decide) _ _ _ rfl (hh.out.alloc _) ⟨wk.heap.size,0,none⟩ 1 1 [.int .i64 0] rfl rfl ?c1 ?c2 ?c3 ?c4 ?c5 ?_));case c1=>exact oB wk [.int .i64 0] 3
           case c2=>intro u hu;simp at hu;subst hu;rfl
           case c3=>unfold maxLen;omega
           case c4=>omega
           case c5=>simp;omega
           intro v4 w4 h6 h4 _;have hp:Below wr.heap.size wr w4:=(hY.out.alloc hW _).grown h4 (by simp;omega) (fun k hk=>(hh.out.lt k hk).1);have hO:=aa h6;have hG:=aa hp;clear h6 h4 hp;go_wp2_with fail;go_roundw;case rel=>refine⟨j+1,o3++ [0],by omega,by go_num,hJ.out,H3,?_,hG.out⟩;rw[Nb,<-HN.out,Nz,<-HX.out];exact hO.out
           case measure=>simp[intOf];omega
     ·obtain rfl:j=i:=(by omega);have d3:decide ((j:Int)<(j:Int))=false:=aR;have htl:l.take j=l:=Nr (Oi HI.out);have hT:o=bc l:=(by rw[ho.out,htl,bc,<-HK.out]);have hm:ans=(o,0):=(by rw[hF.out,hT]);have h8:=aa (HP.out _ (o,0) wo hm HO.out HB.out);clear htl hT hm;go_wp2_with fail;first|exact h8.out|(go_ret2;exact h8.out)
def bn(w:World)(ans:List Nat×Nat)(e:Ending)(w':World):Prop:=e=.returned (.tuple #[.agg #[.string ⟨(aK ans.1).toArray⟩,.int .i64 ans.1.length],.int .i64 ans.2])/\Below w.heap.size w w'
theorem EC{L:List Int}(h:DOk L):∀x∈nl L,1<=x/\x<=20:=by intro x hx;obtain⟨y,hy,rfl⟩:=List.mem_map.1 hx;have:=h.2.2 y hy;omega
theorem uZ(L:List Int):(eN L).1.length<=11000:=by
 unfold eN;split;·rename_i h;have hn:=EC h;have h1:=yC (nl L);have h2:=Aq (l:=nl L) (by rw[bN];have:=h.1;omega) hn;have h3:=vc (nl L) ((nl L).getD 0 0) h2.2 fun x hx=>(hn x hx).2;rw[bN]at h1 h3;have:=h.2.1;show(bc (nl L)).length<=11000;omega
 ·exact Ng _
def cn(w:World)(ans:List Nat×Nat×Nat)(e:Ending)(w':World):Prop:=∃v,e=.returned (.tuple #[v,.int .i64 ans.2.1,.int .i64 ans.2.2])/\w'.ownsRow w.heap.size 3 1 v ans.1.length (ans.1.map iv)/\Below w.heap.size w w'
theorem tP{L:List Nat}{p:Nat}(h:p<L.length):L.drop p=L.getD p 0::L.drop (p+1):=by rw[NN h,Na,Nc h];rfl
theorem AU{l bs:List Nat}{q k:Nat}(h:bs.length<q):gL l bs (k+1) q=.short:=by rw[gL,Nf h]
theorem JQ{l bs:List Nat}{q k i:Nat}(h:¬bs.length<q)(hi:nY l q (val (bs.take q))=some i):gL l bs (k+1) q=.hit i:=by rw[gL,Nd h,hi]
theorem uA{l bs:List Nat}{q k:Nat}(h:¬bs.length<q)(hi:nY l q (val (bs.take q))=none):gL l bs (k+1) q=if val (bs.take q)*pw q<kV l then gL l bs k (q+1)else .code:=by rw[gL,Nd h,hi]
theorem tC{l:List Nat}(h:fy l){i:Nat}(hi:i<l.length):eB l i<1048576:=by have h1:=xR h hi;have h2:=(h.one hi).2;have h3:2^l.getD i 0<=2^20:=Od (by decide) h2;omega
theorem qG(l bs:List Nat)(en:Int)(k a:Nat)(o:List Nat):gf l bs en (k+1) a o=match kF l (bs.drop a)with
 | .hit i=>if(i:Int)=en then(o++ [i],a+l.getD i 0,0)else gf l bs en k (a+l.getD i 0) (o++ [i])
 | .short=>([],0,10)
 | .code=>([],0,90):=rfl
