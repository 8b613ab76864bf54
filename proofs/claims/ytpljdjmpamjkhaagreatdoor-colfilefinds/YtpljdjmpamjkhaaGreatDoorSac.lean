import Derived.Test.YtpljdjmpamjkhaaGreatDoorSab
import Derived.Lib.Zigzag
import Derived.Lib.VarintBits
set_option linter.all false
set_option maxRecDepth 100000
set_option maxHeartbeats 2000000
namespace Go.Proofs.YtpljdjmpamjkhaaGreatDoor
open Tryz
open Go.RowKit Go.Lib
def qE:∀{l m:List Nat},Bs l->Bs m->Op.bytesLess (l.map Nat.toUInt8) (m.map Nat.toUInt8)=decide (l<m)
 | [],[],_,_=>by simp[Op.bytesLess]
 | [],y::t,_,_=>by simp[Op.bytesLess]
 | x::s,[],_,_=>by simp[Op.bytesLess]
 | x::s,y::t,hl,hm=>by
  have ih:=qE (l:=s) (m:=t) (λz hz=>hl z (by simp[hz])) (λz hz=>hm z (by simp[hz]));have hx:=hl x (by simp);have hy:=hm y (by simp)
  have h1:(x.toUInt8<y.toUInt8)=(x<y):=by
   rw[UInt8.lt_iff_toNat_lt];simp[jfA hx,jfA hy]
  have h2:(x.toUInt8==y.toUInt8)=decide (x=y):=by
   by_cases h:x=y
   ·simp[h]
   ·have:x.toUInt8≠y.toUInt8:=λe=>h (by
     have:=jeG UInt8.toNat e;simpa [jfA hx,jfA hy]using this)
    simp[h,this]
  simp only[je4,Op.bytesLess,ih,h1,h2];have h3:(x::s<y::t)↔(x<y∨x=y/\s<t):=List.cons_lt_cons_iff;by_cases h:x<y<;>by_cases h':x=y<;>by_cases h'':s<t<;>simp[h3,h,h',h'']
def cz(c:jgw):Value :=
 if c.1=0 then .nilIface else if c.1=1 then .iface 2 (.int .i64 c.2.1) else if c.1=2 then .iface 4 (.bool (decide (c.2.1=1))) else .iface 9 (txt c.2.2)
def aE(l:jgv):List Value:=l.map cz
def wC(c:jgw):List Value:=[.int .u8 (c.1:Int),.int .i64 c.2.1,txt c.2.2]
def gd(l:jgv):List Value:=l.flatMap wC
def ay(l:jgv):(aE l).length=l.length:=jeE _
def mo(a b:jgv):aE (a++b)=aE a++aE b:=jeR
def qF(a b:jgv):gd (a++b)=gd a++gd b:=jfH
def py(c:jgw)(l:jgv):gd (c::l)=wC c++gd l:=jfQ
def mq:∀ l:jgv,(gd l).length=l.length*3
 | []=>rfl
 | c::t=>by
  rw[py,jeC,mq t,jeI];simp[wC]
  omega
def cw{l:jgv}{j:Nat}(h:j<l.length):(aE l)[j]?=some (cz l[j]):=by simp[aE,h]
def sO:∀{l:jgv} {j:Nat} (h:j<l.length),(gd l)[j*3]?=some (.int .u8 (l[j].1:Int))/\(gd l)[j*3+1]?=some (.int .i64 l[j].2.1)/\(gd l)[j*3+2]?=some (txt l[j].2.2)
 | c::t,0,h=>by simp[py,wC]
 | c::t,j+1,h=>by
  have ih:=sO (l:=t) (j:=j) (by simpa using h);rw[py]
  have e:∀ k,(wC c++gd t)[(j+1)*3+k]?=(gd t)[j*3+k]?:=λk=>by
   rw[List.getElem?_append_right (by simp[wC];omega)];simp only[wC,jeI,jeZ];congr 1
   omega
  have e0:=e 0;simp only[jfk]at e0;rw[e0,e 1,e 2];simpa using ih
def qG(c:jgw):(cz c).oneCell'=true:=by
 unfold cz;split
 ·rfl
 ·split
  ·rfl
  ·split<;>rfl
def yx(l:jgv):∀ u∈aE l,u.oneCell'=true:=by
 intro u hu;obtain⟨x,_,rfl⟩:=jeN.1 hu;exact qG x
def OwnV(W:World)(B:Nat)(v:Value)(l:jgv):Prop:=W.ownsRow B 78 1 v l.length (aE l)
def dQ(W:World)(B:Nat)(v:Value)(l:jgv):Prop:=W.ownsRow B 52 3 v l.length (gd l)
def OwnV.nil(W:World)(B:Nat):OwnV W B (.slice none 0 0) []:=jfh _ _ _ _
def dQ.nil(W:World)(B:Nat):dQ W B (.slice none 0 0) []:=jfh _ _ _ _
def OwnV.kept{w w':World}{B:Nat}{v:Value}{l:jgv}(h:OwnV w B v l)(hb:jgu w w'):OwnV w' B v l:=bv h hb
def dQ.kept{w w':World}{B:Nat}{v:Value}{l:jgv}(h:dQ w B v l)(hb:jgu w w'):dQ w' B v l:=bv h hb
def OwnV.sv{W:World}{B:Nat}{v:Value}{l:jgv}(h:OwnV W B v l):Sv W v (aE l):=Sv.of_own h
def Sc(W:World)(v:Value)(l:jgv):Prop :=
 ∃ a cap,v=.slice a l.length cap/\l.length<=cap/\cap<=maxLen/\(0<l.length->∃ b off,a=some ⟨b,off,none⟩/\b<W.heap.size/\∀ j x,(gd l)[j]?=some x->W.cell? ⟨b,off+j,none⟩=some x)
def Sc.kept{W W':World}{v:Value}{l:jgv}(h:Sc W v l)(hb:jgu W W'):Sc W' v l:=by
 obtain⟨a,cap,h1,h2,h3,h4⟩:=h;refine⟨a,cap,h1,h2,h3,λh0=>?_⟩;obtain⟨b,off,h5,h6,h7⟩:=h4 h0;exact⟨b,off,h5,jeY h6 hb.size,λj x hj=>(hb.cell (p:=⟨b,off+j,none⟩) h6).trans (h7 j x hj)⟩
def dQ.sc{W:World}{B:Nat}{v:Value}{l:jgv}(h:dQ W B v l):Sc W v l:=by
 rcases h with ⟨h0,⟨rfl,h1⟩ | ⟨g,cap,cur,rfl,h2,h3,h4,h5,h6,h7⟩⟩
 ·refine⟨none,0,by rw[h1],by omega,by unfold maxLen;omega,λh=>by omega⟩
 ·refine⟨_,cap,rfl,h4,h5,λ_=>⟨g,0,rfl,(Array.getElem?_eq_some_iff.1 h3).1,λj x hj=>?_⟩⟩
  rw[jeU];simp only[World.cell?,h3];rw[<- h7]at hj;have ar:=(List.getElem?_eq_some_iff.1 hj).1;rw[jeH]at ar;rw[List.getElem?_take_of_lt (by omega)]at hj;simpa using hj
def Sc.at{W:World}{a:Option Addr}{n cap:Nat}{l:jgv}(h:Sc W (.slice a n cap) l){k:Nat}(hk:k<l.length) :
  ∃ b off,a=some ⟨b,off,none⟩/\b<W.heap.size/\W.cell? ⟨b,off+k*3,none⟩=some (.int .u8 (l[k].1:Int))/\W.cell? ⟨b,off+k*3+1,none⟩=some (.int .i64 l[k].2.1)/\W.cell? ⟨b,off+k*3+2,none⟩=some (txt l[k].2.2):=by
 obtain⟨a',cap',e,h1,h2,h4⟩:=h;simp only[Value.slice.injEq]at e;obtain⟨rfl,_,_⟩:=e;obtain⟨b,off,rfl,h5,h6⟩:=h4 (by omega);obtain⟨c0,c1,c2⟩:=sO hk;refine⟨b,off,rfl,h5,h6 _ _ c0,?_,?_⟩
 ·rw[jfG]
  exact h6 _ _ c1
 ·rw[jfG]
  exact h6 _ _ c2
def aV(w:World)(v:Value)(t:Nat):(w.alloc (.cells #[v] t)).cell? ⟨w.heap.size,0,none⟩=some v:=by
 have:=cell_one_new w v t 0 v rfl;rw[oP]at this;exact this
def od(c:jgw)(h:c.1=0):cz c=.nilIface:=jey h
def jU(c:jgw)(h:c.1≠0):∃ t u,cz c=.iface t u:=by
 unfold cz;rw[jex h];split
 ·exact⟨_,_,rfl⟩
 ·split
  ·exact⟨_,_,rfl⟩
  ·exact⟨_,_,rfl⟩
def du{w:World}{ops:Array Oper}{rest:List Oper}{o:Oper}{a:Act}{Q:Exit->Act->World->Prop}(ef:o.guard=none)(s x:Operand)
  (ho:o.op=.call { callee:=.builtin .append,args:=#[s,x],argTypes:=#[79,79] })
  (base:Nat) (v:Value) (g:Nat) (z:jgw) (l0:jgv) (hs:a.eval s=v) (ax:OwnV w base v l0) (hx:a.eval x=.slice (some ⟨g,0,none⟩) 1 1) (hc:w.cell? ⟨g,0,none⟩=some (cz z))
  (hbytes:l0.length<=100000) (aF:base<=w.heap.size)
  (h:∀ v' w',OwnV w' base v' (l0++[z])->Below base w w'->wpList prog ops Q rest (a.put o.dst v') w') :
  wpList prog ops Q (o::rest) a w:=by
 obtain⟨i0,hi,bR,hz1',aX⟩:=jeT wB;unfold OwnV at *
 refine jfw (w:=w) ef s x 79 ho base 78 i0 .nilIface 1 16 underlying79 hi bR hz1' aX rfl (by decide) v l0.length (aE l0) hs ax ⟨g,0,none⟩ 1 1 [cz z] hx rfl ?_ (λu hu=>by
  have:u=cz z:=by simpa using hu
  subst this;exact qG z) (by unfold maxLen;omega) (by omega) aF ?_
 ·intro j u hu
  rw[oP];cases j with
  | zero =>
   simp only[List.getElem?_cons_zero,Option.some.injEq]at hu;rw[<- hu];exact hc
  | succ j=>simp at hu
 ·intro v' w' o1 g1 _ _
  refine h v' w' ?_ ((jez base w).grown g1 aF (λk hk=>(ax.lt k hk).1));rw[mo,jeC];exact o1
def jbN:(prog.info? 52).map (λi=>(i.zero,i.size,i.bytes))=some (some (.agg #[.int .u8 0,.int .i64 0,.string ⟨#[]⟩]),3,32):=by kernel_rfl
def jy{w:World}{ops:Array Oper}{rest:List Oper}{o:Oper}{a:Act}{Q:Exit->Act->World->Prop}(ef:o.guard=none)(s x:Operand)
  (ho:o.op=.call { callee:=.builtin .append,args:=#[s,x],argTypes:=#[58,58] })
  (base:Nat) (v:Value) (g:Nat) (z:jgw) (l0:jgv) (hs:a.eval s=v) (ax:dQ w base v l0) (hx:a.eval x=.slice (some ⟨g,0,none⟩) 1 1)
  (sE:w.cell? ⟨g,0,none⟩=some (.int .u8 (z.1:Int))) (ju:w.cell? ⟨g,1,none⟩=some (.int .i64 z.2.1)) (jv:w.cell? ⟨g,2,none⟩=some (txt z.2.2))
  (hbytes:l0.length<=100000) (aF:base<=w.heap.size)
  (h:∀ v' w',dQ w' base v' (l0++[z])->Below base w w'->wpList prog ops Q rest (a.put o.dst v') w') :
  wpList prog ops Q (o::rest) a w:=by
 obtain⟨i0,hi,bR,hz1',aX⟩:=jeT jbN;unfold dQ at *
 refine jfw (w:=w) ef s x 58 ho base 52 i0 (.agg #[.int .u8 0,.int .i64 0,.string ⟨#[]⟩]) 3 32 underlying58 hi bR hz1' aX rfl (by decide) v l0.length (gd l0) hs ax ⟨g,0,none⟩ 1 1 (wC z) hx rfl ?_ (λu hu=>by
  unfold wC at hu;simp only[jeL,jgc,or_false]at hu;rcases hu with rfl | rfl | rfl<;>rfl) (by unfold maxLen;omega) (by omega) aF ?_
 ·intro j u hu
  rw[oP];unfold wC at hu;match j,hu with
  | 0,hu=>simp only[List.getElem?_cons_zero,Option.some.injEq]at hu;rw[<- hu];exact sE
  | 1,hu=>simp only[List.getElem?_cons_succ,List.getElem?_cons_zero,Option.some.injEq]at hu;rw[<- hu];exact ju
  | 2,hu=>simp only[List.getElem?_cons_succ,List.getElem?_cons_zero,Option.some.injEq]at hu;rw[<- hu];exact jv
  | j+3,hu=>simp at hu
 ·intro v' w' o1 g1 _ _
  refine h v' w' ?_ ((jez base w).grown g1 aF (λk hk=>(ax.lt k hk).1));rw[qF,jeC];have:gd [z]=wC z:=by simp[gd]
  rw[this];exact o1
def aI(c:jgw):Prop :=
 c=nul∨(∃ n,c=(1,n,[])/\I64 n)∨(∃ n:Nat,c=(2,(n:Int),[])/\n<2)∨(∃ s,c=(3,0,s)/\s.length<=64/\Bs s)
def aI.val{c:jgw}(h:aI c):Val (cz c) (c.1:Int) c.2.1 (bytesT c.2.2):=by
 rcases h with rfl | ⟨n,rfl,h⟩ | ⟨n,rfl,h⟩ | ⟨n,rfl,h⟩
 ·exact Or.inl ⟨rfl,rfl,rfl,rfl⟩
 ·exact Or.inr (Or.inl ⟨rfl,rfl,rfl⟩)
 ·refine Or.inr (Or.inr (Or.inl ⟨decide (((n:Nat):Int)=1),rfl,rfl,?_,rfl⟩))
  obtain rfl | rfl:n=0∨n=1:=by omega
  ·rfl
  ·rfl
 ·exact Or.inr (Or.inr (Or.inr ⟨rfl,rfl,rfl⟩))
def Okc(c:jgw):Prop:=c.1<256/\I64 c.2.1/\Bs c.2.2
def aH(c:jgw):jgw:=if flt (c.1:Int) c.2.1 (bytesT c.2.2)=0 then c else nul
def jN{s:List Nat}(h:bytesT s=⟨#[]⟩):s=[]:=by
 have:=jeG ByteArray.size h;rw[be]at this;exact jeW this
def dX{c:jgw}(h:Okc c):aI (aH c):=by
 unfold aH;split
 ·next h0 =>
  obtain⟨ck,cn,cs⟩:=c;obtain⟨g1,g2,g3⟩:=h;simp only at *;rcases qD (by omega) h0 with ⟨a1,a2,a3⟩ | ⟨a1,a3⟩ | ⟨a1,a2,a3⟩ | ⟨a1,a2,a3⟩ | ⟨a1,a2,a3⟩
  ·have e1:ck=0:=by omega
   have e3:=jN a3;subst e1 a2 e3;exact Or.inl rfl
  ·have e1:ck=1:=by omega
   have e3:=jN a3;subst e1 e3;exact Or.inr (Or.inl ⟨cn,rfl,g2⟩)
  ·have e1:ck=2:=by omega
   have e3:=jN a3;subst e1 a2 e3;exact Or.inr (Or.inr (Or.inl ⟨0,rfl,by omega⟩))
  ·have e1:ck=2:=by omega
   have e3:=jN a3;subst e1 a2 e3;exact Or.inr (Or.inr (Or.inl ⟨1,rfl,by omega⟩))
  ·have e1:ck=3:=by omega
   subst e1 a2;rw[be]at a3;exact Or.inr (Or.inr (Or.inr ⟨cs,rfl,a3,g3⟩))
 ·exact Or.inl rfl
def Yd:flt 0 0 (bytesT [])=0:=by simp[flt,tx,jx,dF,ByteArray.size]
def Se{c:jgw}(h:aI c):flt (c.1:Int) c.2.1 (bytesT c.2.2)=0:=by
 rcases h with rfl | ⟨n,rfl,_⟩ | ⟨n,rfl,hn⟩ | ⟨s,rfl,hs,_⟩
 ·exact Yd
 ·simp[flt,tx,jx,dF,ByteArray.size]
 ·obtain rfl | rfl:n=0∨n=1:=by omega
  ·simp[flt,tx,jx,dF,ByteArray.size]
  ·simp[flt,tx,jx,dF,ByteArray.size]
 ·have:¬ 64<((bytesT s).size:Int):=by rw[be];omega
  simp[flt,tx,jx,this]
def sP{c:jgw}(h:aI c):aH c=c:=jey (Se h)
def aI.okc{c:jgw}(h:aI c):Okc c:=by
 rcases h with rfl | ⟨n,rfl,h⟩ | ⟨n,rfl,hn⟩ | ⟨s,rfl,_,h⟩
 ·exact⟨by simp[nul],by simp[nul,I64],λx hx=>by simp[nul]at hx⟩
 ·exact⟨by simp,h,λx hx=>by simp at hx⟩
 ·exact⟨by simp,by simp only[I64];omega,λx hx=>by simp at hx⟩
 ·exact⟨by simp,by simp[I64],h⟩
def Dv{v:Value}{c:jgw}(hf:aI c)(h:Val v (c.1:Int) c.2.1 (bytesT c.2.2)):v=cz c:=by
 rcases hf with rfl | ⟨n,rfl,_⟩ | ⟨n,rfl,hn⟩ | ⟨s,rfl,_⟩
 ·rcases h with ⟨h,_⟩ | ⟨_,h,_⟩ | ⟨b,_,h,_⟩ | ⟨_,h,_⟩
  ·exact h
  ·simp[nul]at h
  ·simp[nul]at h
  ·simp[nul]at h
 ·rcases h with ⟨_,h,_⟩ | ⟨h,_⟩ | ⟨b,_,h,_⟩ | ⟨_,h,_⟩
  ·simp at h
  ·exact h
  ·simp at h
  ·simp at h
 ·rcases h with ⟨_,h,_⟩ | ⟨_,h,_⟩ | ⟨b,h,_,h2,_⟩ | ⟨_,h,_⟩
  ·simp at h
  ·simp at h
  ·rw[h]
   simp only at h2;obtain rfl | rfl:n=0∨n=1:=by omega
   ·cases b
    ·rfl
    ·simp at h2
   ·cases b
    ·simp at h2
    ·rfl
  ·simp at h
 ·rcases h with ⟨_,h,_⟩ | ⟨_,h,_⟩ | ⟨b,_,h,_⟩ | ⟨h,_⟩
  ·simp at h
  ·simp at h
  ·simp at h
  ·exact h
def gK(c:jgw):fk (c.1:Int) c.2.1 (bytesT c.2.2)=((aH c).1:Int)/\fn (c.1:Int) c.2.1 (bytesT c.2.2)=(aH c).2.1/\fs (c.1:Int) c.2.1 (bytesT c.2.2)=bytesT (aH c).2.2:=by
 unfold fk fn fs aH;split
 ·exact⟨rfl,rfl,rfl⟩
 ·exact⟨rfl,rfl,rfl⟩
def no(c:jgw)(w:World):Calls prog 73 #[.agg #[.int .u8 (c.1:Int),.int .i64 c.2.1,.string (bytesT c.2.2)]] w λe w'=>e=.returned (.agg #[.int .u8 ((aH c).1:Int),.int .i64 (aH c).2.1,.string (bytesT (aH c).2.2)])/\jgu w w':=by
 have:=LJ (c.1:Int) c.2.1 (bytesT c.2.2) (by omega) w;rw[(gK c).1,(gK c).2.1,(gK c).2.2]at this;exact this
def Hi{c:jgw}(h:Okc c)(w:World):Calls prog 86 #[.agg #[.int .u8 (c.1:Int),.int .i64 c.2.1,.string (bytesT c.2.2)]] w λe w'=>e=.returned (cz (aH c))/\jgu w w':=by
 have:=Nb (c.1:Int) c.2.1 (bytesT c.2.2) (by omega) w;rw[(gK c).1,(gK c).2.1,(gK c).2.2]at this;refine this.mono ?_;rintro e w' ⟨⟨v,rfl,hv⟩,hb⟩;rw[Dv (dX h) hv];exact⟨rfl,hb⟩
def Sc.form{W:World}{v:Value}{l:jgv}(h:Sc W v l):∃ a cap,v=.slice a l.length cap/\l.length<=cap/\cap<=maxLen:=by
 obtain⟨a,cap,h1,h2,h3,_⟩:=h;exact⟨a,cap,h1,h2,h3⟩
def Sg{w:World}{v:Value}{l:jgv}(hs:Sc w v l)(dD:∀ c∈l,Okc c)(hl:l.length<=600) :
  Calls prog 42 #[v] w λe w'=>(∃ v',e=.returned v'/\OwnV w' w.heap.size v' (l.map aH))/\jgu w w':=by
 have HS:=ae hs;have HK:=ae dD;obtain⟨a,cap,rfl,bg,bx⟩:=hs.form;have hcm':cap<=9223372036854775807:=by unfold maxLen at bx;omega
 clear hs dD bx;go_enter func42,ntmps42
 go_wp2_with fail;go_loopw [3,4] (λo i wr=>∃ j:Nat,j<=l.length/\i=.int .i64 (j:Int)/\OwnV wr w.heap.size o ((l.take j).map aH)/\jgu w wr) (λ_ i _=>l.length-(intOf i).toNat)
 case atStart=>exact⟨0,by omega,rfl,OwnV.nil _ _,jez _ _⟩
 case round =>
  obtain⟨j,hj,rfl,ax,ao⟩:=hrel;have HO:=ae ax;have HB:=ae ao;have bF:=ao.size;clear ax ao;by_cases ar:j<l.length
  ·obtain⟨g,off,rfl,hg,c0,c1,c2⟩:=(HS.o.kept HB.o).at ar
   have hlt':(j:Int)<(l.length:Int):=(by omega)
   have mf:jgt ((l.take (j+1)).map aH=(l.take j).map aH++[aH l[j]]):=ae (by
    rw[jeO ar,jeR];rfl)
   have hlen':((l.take j).map aH).length<=100000:=by rw[jeE,jeH];omega
   have HVA:=ae (Hi (HK.o l[j] (jeD ar)));rw[gB]at c2;generalize aH l[j]=fc at *;generalize bytesT l[j].2.2=S at *;generalize l[j].2.1=cn at *;generalize l[j].1=ck at *;generalize (l.take j).map aH=LL at *;go_wp2_with fail;refine(HVA.o _).mono ?_;rintro e w1 ⟨rfl,az⟩;have fX:=ae (HO.o.kept az);have aL:=ae (HB.o.trans (az.mono bF));have bW:=az.size;clear az c0 c1 c2;generalize hvc:cz fc=vc;have vI:∀ W:World,(W.alloc (.cells #[vc] 78)).cell? ⟨W.heap.size,0,none⟩=some (cz fc):=λW=>by rw[hvc];exact aV _ _ _
   have ix:=ae vI
   have hvf:vc=.nilIface∨∃ tt uu,vc=.iface tt uu:=by
    rw[<- hvc];by_cases h0:fc.1=0
    ·exact Or.inl (od fc h0)
    ·exact Or.inr (jU fc h0)
   clear hvc vI;rcases hvf with rfl | ⟨tt,uu,rfl⟩
   ·go_wp2_with (first | (at_builtin;refine du rfl _ _ rfl w.heap.size _ _ fc LL rfl (fX.o.kept (aj _ _)) rfl (ix.o _) hlen' ?c2 ?_))
    case c2=>first | omega | (rw[jeB];omega)
    intro v' w5 o5 b5;have dK:=ae o5;have bq:=ae ((aL.o.alloc (jeK bF bW) _).trans b5);clear o5 b5;go_wp2_with fail;go_roundw
    case rel=>exact⟨j+1,by omega,by go_num,by rw[mf.o];exact dK.o,bq.o⟩
    case measure=>simp[intOf];omega
   ·go_wp2_with (first | (at_builtin;refine du rfl _ _ rfl w.heap.size _ _ fc LL rfl (fX.o.kept (aj _ _)) rfl (ix.o _) hlen' ?c2 ?_))
    case c2=>first | omega | (rw[jeB];omega)
    intro v' w5 o5 b5;have dK:=ae o5;have bq:=ae ((aL.o.alloc (jeK bF bW) _).trans b5);clear o5 b5;go_wp2_with fail;go_roundw
    case rel=>exact⟨j+1,by omega,by go_num,by rw[mf.o];exact dK.o,bq.o⟩
    case measure=>simp[intOf];omega
  ·obtain rfl:j=l.length:=by omega
   rw[jeJ]at HO;have ed:¬ ((l.length:Nat):Int)<(l.length:Int):=(by omega);go_wp2_with fail;go_ret
   exact⟨⟨_,rfl,HO.o⟩,HB.o⟩
def cO(w:World)(x y z:Value)(t:Nat):(w.alloc (.cells #[x,y,z] t)).cell? ⟨w.heap.size,0,none⟩=some x/\(w.alloc (.cells #[x,y,z] t)).cell? ⟨w.heap.size,1,none⟩=some y/\(w.alloc (.cells #[x,y,z] t)).cell? ⟨w.heap.size,2,none⟩=some z:=by
 have h:=je2 w (.cells #[x,y,z] t);exact⟨by rw[an h];rfl,by rw[an h];rfl,by rw[an h];rfl⟩
def Hj{w:World}{v:Value}{l:jgv}(hs:Sc w v l)(hl:l.length<=600) :
  Calls prog 38 #[v] w λe w'=>(∃ v',e=.returned v'/\dQ w' w.heap.size v' (l.map aH))/\jgu w w':=by
 have HS:=ae hs;obtain⟨a,cap,rfl,bg,bx⟩:=hs.form;have hcm':cap<=9223372036854775807:=by unfold maxLen at bx;omega
 clear hs bx;go_enter func38,ntmps38
 go_wp2_with fail;go_loopw [3,4] (λo i wr=>∃ j:Nat,j<=l.length/\i=.int .i64 (j:Int)/\dQ wr w.heap.size o ((l.take j).map aH)/\jgu w wr) (λ_ i _=>l.length-(intOf i).toNat)
 case atStart=>exact⟨0,by omega,rfl,dQ.nil _ _,jez _ _⟩
 case round =>
  obtain⟨j,hj,rfl,ax,ao⟩:=hrel;have HO:=ae ax;have HB:=ae ao;have bF:=ao.size;clear ax ao;by_cases ar:j<l.length
  ·obtain⟨g,off,rfl,hg,c0,c1,c2⟩:=(HS.o.kept HB.o).at ar
   have hlt':(j:Int)<(l.length:Int):=(by omega)
   have mf:jgt ((l.take (j+1)).map aH=(l.take j).map aH++[aH l[j]]):=ae (by
    rw[jeO ar,jeR];rfl)
   have hlen':((l.take j).map aH).length<=100000:=by rw[jeE,jeH];omega
   have HVA:=ae (no l[j]);rw[gB]at c2;generalize aH l[j]=fc at *;generalize bytesT l[j].2.2=S at *;generalize l[j].2.1=cn at *;generalize l[j].1=ck at *;generalize (l.take j).map aH=LL at *;go_wp2_with fail;refine(HVA.o _).mono ?_;rintro e w1 ⟨rfl,az⟩;have fX:=ae (HO.o.kept az);have aL:=ae (HB.o.trans (az.mono bF));have bW:=az.size;have ix:=ae (cO w1 (.int .u8 (fc.1:Int)) (.int .i64 fc.2.1) (.string (bytesT fc.2.2)) 52);clear az c0 c1 c2;go_wp2_with (first | (at_builtin;refine jy rfl _ _ rfl w.heap.size _ _ fc LL rfl (fX.o.kept (aj _ _)) rfl ix.o.1 ix.o.2.1 ix.o.2.2 hlen' ?c2 ?_))
   case c2=>first | omega | (rw[jeB];omega)
   intro v' w5 o5 b5;have dK:=ae o5;have bq:=ae ((aL.o.alloc (jeK bF bW) _).trans b5);clear o5 b5;go_wp2_with fail;go_roundw
   case rel=>exact⟨j+1,by omega,by go_num,by rw[mf.o];exact dK.o,bq.o⟩
   case measure=>simp[intOf];omega
  ·obtain rfl:j=l.length:=by omega
   rw[jeJ]at HO;have ed:¬ ((l.length:Nat):Int)<(l.length:Int):=(by omega);go_wp2_with fail;go_ret
   exact⟨⟨_,rfl,HO.o⟩,HB.o⟩
def qH{α : Type}{l m:List α}{j:Nat}(h1:j<l.length)(h2:j<m.length)(h:l.take j=m.take j)(he:l[j]=m[j]):l.take (j+1)=m.take (j+1):=by
 rw[jeO h1,jeO h2,h,he]
def val:List UInt8->Nat
 | []=>0
 | b::r=>b.toNat % 128+128*val r
def Bg:val []=0:=rfl
def ja(b:UInt8)(r:List UInt8):val (b::r)=b.toNat % 128+128*val r:=rfl
def wD:∀ l,val l<128 ^ l.length
 | []=>by simp[val]
 | b::r=>by
  have:=wD r;rw[ja,jeI,Nat.pow_succ];omega
def wE:∀ a b,val (a++b)=val a+128 ^ a.length*val b
 | [],b=>by simp[val]
 | x::a,b=>by
  rw[je5,ja,wE a b,ja,jeI,Nat.pow_succ,jfI];have:128*(128 ^ a.length*val b)=128 ^ a.length*128*val b:=by rw[je6 (128 ^ a.length) 128,jfR]
  omega
def eK{l:List UInt8}{k:Nat}(h:k<l.length):val (l.take (k+1))=val (l.take k)+(l[k].toNat % 128)*128 ^ k:=by
 rw[jeO h,wE,ja,Bg,jeH,jfp (by omega)];simp[je6]
def aQ:List UInt8->Nat
 | []=>0
 | b::r=>if 128<=b.toNat then aQ r+1 else 0
def vT:∀ l,aQ l<=l.length
 | []=>by simp[aQ]
 | b::r=>by
  have:=vT r;unfold aQ;split<;>simp<;>omega
def np:∀(l:List UInt8) (k:Nat) (h:k<l.length),k<aQ l->128<=l[k].toNat
 | [],k,h,_=>by simp at h
 | b::r,0,h,hk=>by
  unfold aQ at hk;split at hk
  ·simpa
  ·omega
 | b::r,k+1,h,hk=>by
  unfold aQ at hk;split at hk
  ·simpa using np r k (by simpa using h) (by omega)
  ·omega
def iI:∀(l:List UInt8) (h:aQ l<l.length),l[aQ l].toNat<128
 | [],h=>by simp at h
 | b::r,h=>by
  by_cases hb:128<=b.toNat
  ·have e:aQ (b::r)=aQ r+1:=by rw[aQ,jey hb]
   have hr:aQ r<r.length:=by rw[e]at h;simpa using h
   have:=iI r hr;simpa [e]using this
  ·have e:aQ (b::r)=0:=by rw[aQ,jex hb]
   simpa [e]using hb
def LK{l:List UInt8}{k:Nat}(hk:k<=aQ l)(h:k<l.length)(hs:l[k].toNat<128):aQ l=k:=by
 rcases je0 k (aQ l)with h1 | h1
 ·have:=np l k h h1;omega
 ·omega
def Nc{l:List UInt8}{k:Nat}(hk:k<=aQ l)(h:k<l.length)(hs:128<=l[k].toNat):k+1<=aQ l:=by
 rcases je0 k (aQ l)with h1 | h1
 ·exact h1
 ·have e:aQ l=k:=by omega
  have h2:=iI l (by omega);simp only[e]at h2;omega
def ff(l:List UInt8):Nat×Nat×Nat :=
 if 9<=aQ l/\9<l.length/\1<(l.getD 9 0).toNat then (0,0,31)
 else if aQ l=l.length then (0,0,30)
 else if (l.getD (aQ l) 0).toNat=0/\0<aQ l then (0,0,31)
 else (val (l.take (aQ l+1)),aQ l+1,0)
def kX{l:List UInt8}{k:Nat}(h:k<l.length):l.getD k 0=l[k]:=by
 rw[List.getD_eq_getElem?_getD,List.getElem?_eq_getElem h];rfl
def Hk{l:List UInt8}(hk:9<=aQ l)(h:9<l.length)(hs:1<l[9].toNat):ff l=(0,0,31):=by
 unfold ff;rw[jey ⟨hk,h,by rwa[kX h]⟩]
def Dw{l:List UInt8}{k:Nat}(hk:k<=aQ l)(h9:k<=9)(h:¬ k<l.length):ff l=(0,0,30):=by
 have:=vT l;unfold ff;rw[jex (λh=>by omega),jey (by omega)]
def zA{l:List UInt8}{k:Nat}(hk:k<=aQ l)(h9:k<=9)(h:k<l.length)(hs:l[k].toNat<128)(ht:k=9->l[k].toNat<=1) :
  ff l=if l[k].toNat=0/\0<k then (0,0,31) else (val (l.take (k+1)),k+1,0):=by
 have e:=LK hk h hs;unfold ff;rw[e,jex,jex (by omega),kX h];rintro⟨h1,h2,h3⟩;obtain rfl:k=9:=by omega
 rw[kX h2]at h3;have:=ht rfl;omega
def Sh{l:List UInt8}{k:Nat}(h9:k<=9)(h:k<l.length)(ht:k=9->l[k].toNat<=1):val (l.take (k+1))<18446744073709551616:=by
 rcases je0 k 9 with h1 | h1
 ·have h2:=wD (l.take (k+1))
  rw[jeH,jfp (by omega)]at h2;have h3:128 ^ (k+1)<=128 ^ 9:=jf1 (by omega) (by omega);have h4:(128:Nat) ^ 9=9223372036854775808:=by decide
  omega
 ·obtain rfl:k=9:=by omega
  rw[eK h];have h2:=wD (l.take 9);rw[jeH,jfp (by omega)]at h2;have h4:(128:Nat) ^ 9=9223372036854775808:=by decide
  rw[h4]at *;have:=ht rfl;omega
def Hl:∀(n x:Nat),x<=n->val (uvarint x)=x/\aQ (uvarint x)+1=(uvarint x).length
 | n,x,hn=>by
  by_cases h:x<128
  ·rw[uvarint_small h,ja,mn (by omega),Bg,aQ,mn (by omega),jex (by omega)]
   simp;omega
  ·cases n with
   | zero=>omega
   | succ n =>
    obtain⟨h1,h2⟩:=Hl n (x / 128) (by omega);rw[uvarint_big (by omega),ja,mn (by omega),aQ,mn (by omega),jey (by omega),h1,h2,jeI];omega
def Hm(x:Nat):val (uvarint x)=x:=(Hl x x (jeA _)).1
def Bh(x:Nat):aQ (uvarint x)+1=(uvarint x).length:=(Hl x x (jeA _)).2
def jaN:∀(l:List UInt8) (h:aQ l+1=l.length),¬ (l[aQ l].toNat=0/\0<aQ l)->uvarint (val l)=l
 | [],h,_=>by simp at h
 | b::r,h,hc=>by
  have hb:=b.toNat_lt;by_cases hg:128<=b.toNat
  ·have e:aQ (b::r)=aQ r+1:=by rw[aQ,jey hg]
   have hr:aQ r+1=r.length:=by rw[e]at h;simpa using h
   simp only[e,List.getElem_cons_succ]at hc;have hz:r[aQ r].toNat≠0:=λh1=>hc ⟨h1,by omega⟩
   have ih:=jaN r hr (λh1=>hz h1.1)
   have hv:0<val r:=by
    rcases jfs (val r)with h0 | h0
    ·exfalso
     have h3:=eK (l:=r) (k:=aQ r) (by omega);rw[jfi (by omega),h0]at h3;have h4:=iI r (by omega);have h5:r[aQ r].toNat % 128=r[aQ r].toNat:=(by omega);rw[h5]at h3;have h6:0<r[aQ r].toNat*128 ^ aQ r:=Nat.mul_pos (by omega) (Nat.pow_pos (by omega));omega
    ·exact h0
   rw[ja,uvarint_big (by omega)];have e1:(b.toNat % 128+128*val r) / 128=val r:=(by omega);have e2:(b.toNat % 128+128*val r) % 128+128=b.toNat:=(by omega);rw[e1,e2,ih];simp
  ·have e:aQ (b::r)=0:=by rw[aQ,jex hg]
   rw[e]at h;have hr:r=[]:=by cases r with | nil=>rfl | cons _ _=>simp at h
   subst hr;rw[ja,Bg,uvarint_small (by omega)];have:b.toNat % 128+128*0=b.toNat:=by omega
   rw[this];simp
def Bi:∀(n x:Nat),x<=n->∀ h:aQ (uvarint x)<(uvarint x).length,¬ ((uvarint x)[aQ (uvarint x)].toNat=0/\0<aQ (uvarint x))
 | n,x,hn,h=>by
  by_cases hx:x<128
  ·rintro⟨_,h2⟩
   rw[uvarint_small hx,aQ,mn (by omega),jex (by omega)]at h2;omega
  ·cases n with
   | zero=>omega
   | succ n =>
    have ih:=Bi n (x / 128) (by omega);have e0:=uvarint_big (x:=x) (by omega);have e:aQ (uvarint x)=aQ (uvarint (x / 128))+1:=by rw[e0,aQ,mn (by omega),jey (by omega)]
    have hl:=Bh (x / 128);rintro⟨h1,_⟩;have ih2:=ih (by omega)
    have h3:(uvarint (x / 128))[aQ (uvarint (x / 128))].toNat=0:=by
     have h4:(uvarint x)[aQ (uvarint x)]=(uvarint (x / 128))[aQ (uvarint (x / 128))]:=by
      simp only[e];simp[e0]
     rw[<- h4];exact h1
    rcases jfs (aQ (uvarint (x / 128)))with h0 | h0
    ·have h5:=eK (l:=uvarint (x / 128)) (k:=0) (by omega)
     have h6:(uvarint (x / 128))[0].toNat=0:=by simpa [h0]using h3
     rw[h6,jfi (by omega),Hm]at h5;simp[val]at h5
     omega
    ·exact ih2 ⟨h3,h0⟩
def Si{l:List UInt8}(h:aQ l+1=l.length):uvarint (val l)=l↔¬ (l[aQ l].toNat=0/\0<aQ l):=by
 constructor
 ·intro e
  have:=Bi (val l) (val l) (jeA _) (by rw[e];omega);simp only[e]at this;exact this
 ·exact jaN l h
def tY:∀(a b:List UInt8),aQ a<a.length->aQ (a++b)=aQ a
 | [],b,h=>by simp at h
 | x::a,b,h=>by
  rw[je5];by_cases hx:128<=x.toNat
  ·rw[aQ,jey hx]at h ⊢
   rw[aQ,jey hx,tY a b (by simpa using h)]
  ·rw[aQ,jex hx,aQ,jex hx]
def zB:∀(l:List UInt8) (k:Nat),k<=aQ l->aQ (l.take k)=k
 | l,0,_=>by simp[aQ]
 | [],k+1,h=>by simp[aQ]at h
 | b::r,k+1,h=>by
  unfold aQ at h;split at h
  ·rename_i hb
   rw[jf2,aQ,jey hb,zB r k (by omega)]
  ·omega
def Ye(n:Nat)(hn:n<18446744073709551616)(r:List UInt8):ff (uvarint n++r)=(n,(uvarint n).length,0):=by
 have h1:=Bh n;have vJ:=uvarint_length64 hn;have hl:=tY (uvarint n) r (by omega);have hk:aQ (uvarint n)<(uvarint n++r).length:=by simp;omega
 have jcK:(uvarint n++r)[aQ (uvarint n)]=(uvarint n)[aQ (uvarint n)]:=jgp (by omega);have Gf:=iI (uvarint n) (by omega);have Wn:(uvarint n++r).take (aQ (uvarint n)+1)=uvarint n:=by rw[h1];simp
 have ht:aQ (uvarint n)=9->(uvarint n++r)[aQ (uvarint n)].toNat<=1:=by
  intro h9;rw[jcK];have h5:=eK (l:=uvarint n) (k:=aQ (uvarint n)) (by omega);rw[h1,jeJ,Hm]at h5;have h4:(128:Nat) ^ aQ (uvarint n)=9223372036854775808:=by rw[h9]
  rw[h4]at h5;omega
 rw[zA (k:=aQ (uvarint n)) (by omega) (by omega) hk (by rw[jcK];exact Gf) ht,Wn,Hm,jex,h1];rw[jcK];exact Bi n n (jeA _) (by omega)
def Yf(n:Nat)(hn:n<18446744073709551616)(k:Nat)(hk:k<(uvarint n).length):ff ((uvarint n).take k)=(0,0,30):=by
 have h1:=Bh n;have vJ:=uvarint_length64 hn;have hl:=zB (uvarint n) k (by omega);exact Dw (k:=k) (by omega) (by omega) (by simp;omega)
def wF:∀ a:Fin 256,bits .andNot .u8 (a.val:Int) 128=((a.val % 128:Nat):Int):=by decide +kernel
def Nd(c:UInt8):bits .andNot .u8 (c.toNat:Int) 128=((c.toNat % 128:Nat):Int):=wF ⟨c.toNat,c.toNat_lt⟩
def jbO(k:Nat):(2:Nat) ^ (7*k)=128 ^ k:=by rw[Nat.pow_mul]
def Sj{n c k:Nat}(hk:k<=9)(hn:n<128 ^ k)(h:c*128 ^ k<18446744073709551616) :
  bits .or .u64 (n:Int) ((c*128 ^ k:Nat):Int)=((n+c*128 ^ k:Nat):Int):=by
 have h9:128 ^ k<=128 ^ 9:=jf1 (by omega) hk;have h4:(128:Nat) ^ 9=9223372036854775808:=by decide
 have e:bits .or .u64 (n:Int) ((c*128 ^ k:Nat):Int)=(n:Int)+((c*128 ^ k:Nat):Int):=by
  apply bits_join_low .u64 64 (by decide) wraps_u64 (7*k)
  ·omega
  ·have:(n:Int)<((2 ^ (7*k):Nat):Int):=by rw[jbO];omega
   simpa using this
  ·omega
  ·omega
  ·have:(((c*128 ^ k:Nat):Int) % ((2 ^ (7*k):Nat):Int))=0:=by rw[jbO,<- Int.natCast_emod];simp
   simpa using this
  ·omega
 rw[e];omega
def uv(n:Nat):List Nat:=(uvarint n).map UInt8.toNat
def gt(l:List Nat):Nat×Nat×Nat:=ff (l.map Nat.toUInt8)
def Dx(l:List UInt8):(l.map UInt8.toNat).map Nat.toUInt8=l:=by
 rw[jfa];conv=>rhs;rw[<- jfx l]
 apply jfy
 intro a _;simp
def gL{n:Nat}:∀ x∈uv n,x<256:=by
 intro x hx;obtain⟨a,_,rfl⟩:=jeN.1 hx;exact a.toNat_lt
def pB(n:Nat):(uv n).length=(uvarint n).length:=jeE _
def wG(n:Nat):0<(uv n).length:=by rw[pB];exact uvarint_pos n
def cG{n:Nat}(h:n<18446744073709551616):(uv n).length<=10:=by rw[pB];exact uvarint_length64 h
def mr(n:Nat)(hn:n<18446744073709551616)(r:List Nat):gt (uv n++r)=(n,(uv n).length,0):=by
 unfold gt uv;rw[jeR,Dx,Ye n hn,jeE]
def Sk(n:Nat)(hn:n<18446744073709551616)(k:Nat)(hk:k<(uv n).length):gt ((uv n).take k)=(0,0,30):=by
 unfold gt uv;rw[jf3,Dx,Yf n hn k (by rwa[pB]at hk)]
def Sm{n:Nat}(h:n<128):uv n=[n]:=by
 unfold uv;rw[uvarint_small h];simp[mn (show n<256 by omega)]
def Yg{l:List UInt8}{n u:Nat}(h:ff l=(n,u,0)):n<18446744073709551616/\l.take u=uvarint n/\u<=l.length:=by
 have oT:=vT l;unfold ff at h;split at h
 ·simp at h
 ·next h1 =>
  split at h
  ·simp at h
  ·next h2 =>
   split at h
   ·simp at h
   ·next h3 =>
    have hl:aQ l<l.length:=(by omega);simp only[Prod.mk.injEq,and_true]at h;obtain⟨rfl,rfl⟩:=h;rw[kX hl]at h3
    have ar:aQ l<=9:=by
     rcases je0 9 (aQ l)with h9 | h9
     ·exfalso
      apply h1
      have:=np l 9 (by omega) h9;exact⟨by omega,by omega,by rw[kX (by omega)];omega⟩
     ·exact h9
    have ht:aQ l=9->l[aQ l].toNat<=1:=by
     intro e;rcases je0 1 l[aQ l].toNat with h9 | h9
     ·exfalso
      apply h1
      have vJ:9<l.length:=(by omega);have e2:l[9]=l[aQ l]:=by simp only[e]
      exact⟨by omega,vJ,by rw[kX vJ,e2];exact h9⟩
     ·exact h9
    refine⟨Sh ar hl ht,?_,by omega⟩;have bH:(l.take (aQ l+1)).length=aQ l+1:=by rw[jeH];omega
    have hld:aQ (l.take (aQ l+1))=aQ l:=by
     have Gf:=iI l hl;refine LK (l:=l.take (aQ l+1)) ?_ (by omega) (by simpa using Gf);rcases je0 (aQ (l.take (aQ l+1))) (aQ l)with hh | hh
     ·exfalso
      have cV:=iI (l.take (aQ l+1)) (by omega);have hb:=np l _ (by omega) hh;simp at cV
      omega
     ·exact hh
    refine((Si (l:=l.take (aQ l+1)) (by omega)).2 ?_).symm;simp only[hld];rintro⟨h4,h5⟩;exact h3 ⟨by simpa using h4,h5⟩
def Sn{l:List Nat}{n u:Nat}(hl:∀ x∈l,x<256)(h:gt l=(n,u,0)):n<18446744073709551616/\l=uv n++l.drop u/\u=(uv n).length:=by
 obtain⟨h1,h2,h3⟩:=Yg h
 have e:l.take u=uv n:=by
  unfold uv;rw[<- h2,<- jf3,kU (λx hx=>hl x (jfn hx))]
 refine⟨h1,?_,?_⟩
 ·rw[<- e,jfz]
 ·rw[<- e,jeH]
  rw[jeE]at h3;omega
def aw{α β : Type}(d:List Nat->Except Nat (α×List Nat))(f:α->List Nat->Except Nat (β×List Nat))(b:List Nat):Except Nat (β×List Nat) :=
 match d b with
 | .ok (x,r)=>f x r
 | .error e=>.error e
def cB{α β : Type}{d:List Nat->Except Nat (α×List Nat)}{f:α->List Nat->Except Nat (β×List Nat)}{b r:List Nat}{x:α}(h:d b=.ok (x,r)):aw d f b=f x r:=by
 unfold aw;rw[h]
def bY{α β : Type}{d:List Nat->Except Nat (α×List Nat)}{f:α->List Nat->Except Nat (β×List Nat)}{b:List Nat}{e:Nat}(h:d b=.error e):aw d f b=.error e:=by
 unfold aw;rw[h]
def dw{α : Type}(d:List Nat->Except Nat (α×List Nat))(e:List Nat)(x:α):Prop :=
 (∀ r,d (e++r)=.ok (x,r))/\∀ k,k<e.length->d (e.take k)=.error 30
def qI{α : Type}(d:List Nat->Except Nat (α×List Nat))(e:List Nat)(x:α):Prop :=
 d e=.ok (x,[])/\(∀ y r,d (e++y::r)=.error 32∨d (e++y::r)=.ok (x,y::r))/\∀ k,k<e.length->d (e.take k)=.error 30
def dw.ends{α : Type}{d:List Nat->Except Nat (α×List Nat)}{e:List Nat}{x:α}(h:dw d e x):qI d e x :=
 ⟨by have:=h.1 [];rwa[jeS]at this,λy r=>Or.inr (h.1 _),h.2⟩
def dw.pure{α : Type}(x:α):dw (λb=>.ok (x,b)) [] x:=⟨λr=>rfl,λk h=>by simp at h⟩
def dw.bind{α β : Type}{d:List Nat->Except Nat (α×List Nat)}{f:α->List Nat->Except Nat (β×List Nat)}{e e':List Nat}{x:α}{y:β}(h1:dw d e x)(h2:dw (f x) e' y) :
  dw (aw d f) (e++e') y:=by
 refine⟨λr=>?_,λk hk=>?_⟩
 ·rw[jeQ,cB (h1.1 _)]
  exact h2.1 r
 ·rw[List.take_append]
  rcases je0 k e.length with h | h
  ·rw[show k-e.length=0 by omega,jfW,jeS]
   exact bY (h1.2 k h)
  ·rw[jfi h,cB (h1.1 _)]
   exact h2.2 _ (by rw[jeC]at hk;omega)
def dw.then{α β : Type}{d:List Nat->Except Nat (α×List Nat)}{f:α->List Nat->Except Nat (β×List Nat)}{e e':List Nat}{x:α}{y:β}(h1:dw d e x)(h2:qI (f x) e' y) :
  qI (aw d f) (e++e') y:=by
 refine⟨?_,λz r=>?_,λk hk=>?_⟩
 ·rw[cB (h1.1 _)]
  exact h2.1
 ·rw[jeQ,cB (h1.1 _)]
  exact h2.2.1 z r
 ·rw[List.take_append]
  rcases je0 k e.length with h | h
  ·rw[show k-e.length=0 by omega,jfW,jeS]
   exact bY (h1.2 k h)
  ·rw[jfi h,cB (h1.1 _)]
   exact h2.2.2 _ (by rw[jeC]at hk;omega)
def dw.map{α β : Type}{d:List Nat->Except Nat (α×List Nat)}{e:List Nat}{x:α}(g:α->β)(h:dw d e x):dw (aw d λa r=>.ok (g a,r)) e (g x):=by
 have:=h.bind (f:=λa r=>.ok (g a,r)) (e':=[]) (y:=g x) (dw.pure (g x));rwa[jeS]at this
def qI.map{α β : Type}{d:List Nat->Except Nat (α×List Nat)}{e:List Nat}{x:α}(g:α->β)(h:qI d e x):qI (aw d λa r=>.ok (g a,r)) e (g x):=by
 refine⟨by rw[cB h.1],λy r=>?_,λk hk=>bY (h.2.2 k hk)⟩;rcases h.2.1 y r with h1 | h1
 ·exact Or.inl (bY h1)
 ·exact Or.inr (by rw[cB h1])
def num(b:List Nat):Except Nat (Nat×List Nat):=if (gt b).2.2=0 then .ok ((gt b).1,b.drop (gt b).2.1) else .error (gt b).2.2
def lI{n:Nat}(hn:n<18446744073709551616):dw num (uv n) n:=by
 refine⟨λr=>?_,λk hk=>?_⟩
 ·unfold num
  rw[mr n hn r,jey rfl,jfc]
 ·unfold num
  rw[Sk n hn k hk,jex (by simp)]
def fB(u:Nat):Int:=if u % 2=0 then ((u / 2:Nat):Int) else -((u / 2:Nat):Int)-1
def Nf(z:Int):fB (zigzag z)=z:=by
 unfold fB zigzag;split<;>split<;>omega
def Ng(u:Nat):zigzag (fB u)=u:=by
 unfold fB zigzag;split<;>split<;>omega
def jV{u:Nat}(h:u<18446744073709551616):I64 (fB u):=by
 unfold fB I64;split<;>omega
def wv(x:Int):List Nat:=uv (zigzag x)
def wh(b:List Nat):Except Nat (Int×List Nat):=if (gt b).2.2=0 then .ok (fB (gt b).1,b.drop (gt b).2.1) else .error (gt b).2.2
def lJ{x:Int}(hx:I64 x):dw wh (wv x) x:=by
 have hn:=zigzag_lt hx.1 hx.2;refine⟨λr=>?_,λk hk=>?_⟩
 ·unfold wh wv
  rw[mr _ hn r,jey rfl,jfc,Nf]
 ·unfold wh
  rw[wv,Sk _ hn k hk,jex (by simp)]
def jbP{b r:List Nat}{n:Nat}(hb:∀ x∈b,x<256)(h:num b=.ok (n,r)):n<18446744073709551616/\b=uv n++r:=by
 unfold num at h;split at h
 ·next h0 =>
  simp only[Except.ok.injEq,Prod.mk.injEq]at h;obtain⟨h1,h2⟩:=h;obtain⟨g1,g2,_⟩:=Sn (n:=(gt b).1) (u:=(gt b).2.1) hb (by rw[<- h0]);rw[h1]at g1 g2;exact⟨g1,by rw[<- h2];exact g2⟩
 ·simp at h
def wh_ok{b r:List Nat}{x:Int}(hb:∀ x∈b,x<256)(h:wh b=.ok (x,r)):I64 x/\b=wv x++r:=by
 unfold wh at h;split at h
 ·next h0 =>
  simp only[Except.ok.injEq,Prod.mk.injEq]at h;obtain⟨rfl,h2⟩:=h;obtain⟨g1,g2,_⟩:=Sn (n:=(gt b).1) (u:=(gt b).2.1) hb (by rw[<- h0]);refine⟨jV g1,?_⟩;unfold wv;rw[Ng,<- h2];exact g2
 ·simp at h
def zC{x:Int}:∀ y∈wv x,y<256:=gL
def iJ{x:Int}(h:I64 x):(wv x).length<=10:=cG (zigzag_lt h.1 h.2)
open Go
def jb(f:Fd):List Nat:=uv f.1++uv f.2.1.size++ei f.2.1++uv f.2.2.1++uv (iZ f.2.2.2)
def jF(l:List Fd):List Nat:=l.flatMap jb
def eY(id:Nat)(l:List Fd):List Nat:=uv id++uv l.length++jF l
def pC{l:List Fd}{i:Nat}(h:i<l.length):jF (l.take (i+1))=jF (l.take i)++jb l[i]:=by
 unfold jF;rw[jeO h,jfH];simp
def zD{f:Fd}(h:Okf f)(hs:f.2.1.size<18446744073709551616):(jb f).length<=40+f.2.1.size:=by
 unfold jb;have h1:=cG (n:=f.1) (by have:=h.1;omega);have h2:=cG (n:=f.2.1.size) hs;have h3:=cG (n:=f.2.2.1) (by have:=h.2;omega);have h4:=cG (n:=iZ f.2.2.2) (by unfold iZ;split<;>omega);simp only[jeC,lG];omega
def Nh{l:List Fd}(h:∀ f∈l,Okf f)(hs:szs l<5000):(jF l).length<=40*l.length+szs l:=by
 induction l with
 | nil=>simp[jF]
 | cons f t ih =>
  have hz:szs (f::t)=f.2.1.size+szs t:=by simp[szs]
  have:=ih (λg hg=>h g (by simp[hg])) (by omega);have h2:=zD (h f (by simp)) (by omega);unfold jF at *;rw[jfQ,jeC,jeI,hz];omega
def gY(room:Nat)(b:List Nat):Except Nat (Nat×List Nat) :=
 if (gt b).2.2≠0 then .error (gt b).2.2 else if room<(gt b).1 then .error 40 else .ok ((gt b).1,b.drop (gt b).2.1)
def So(room:Nat):List Nat->Except Nat (ByteArray×List Nat):=aw (gY room) textR
def uZ:List Nat->Except Nat (Fd×List Nat) :=
 aw (gY 4294967295) λi=>aw (So 16) λs=>aw (gY 255) λk=>aw (gY 1) λn r=>.ok ((i,s,k,decide (n=1)),r)
def kY:Nat->List Nat->Except Nat (List Fd×List Nat)
 | 0=>λb=>.ok ([],b)
 | n+1=>aw (kY n) λl=>aw uZ λf r=>.ok (l++[f],r)
def Dy:List Nat->Except Nat ((Nat×List Fd)×List Nat) :=
 aw (gY 4294967295) λi=>aw (gY 8) λn=>aw (kY n) λl r=>.ok ((i,l),r)
def cD(b:List Nat):Except Nat ((Nat×List Fd)×List Nat) :=
 aw Dy (λs r=>if chk s.1 s.2=0 then .ok (s,r) else .error (chk s.1 s.2)) b
def Rds.bind{α β : Type}{m:List Nat->Except Nat (α×List Nat)}{k:α->List Nat->Except Nat (β×List Nat)}{l l1 l2:List Nat}{f f1 f2:Nat}{x:α}{y:β}
  (h1:Rds m l f x l1 f1) (h2:Rds (k x) l1 f1 y l2 f2):Rds (aw m k) l f y l2 f2:=by
 refine⟨λh0=>?_,λh0=>?_⟩
 ·have e1:=h1.1 h0
  by_cases hf:f1=0
  ·rw[jey hf]at e1
   rw[cB e1];exact h2.1 hf
  ·rw[jex hf]at e1
   rw[bY e1,h2.2 hf,jex hf]
 ·have e1:=h1.2 h0
  rw[h2.2 (by omega),e1]
def Bj{room:Nat}{l:List Nat}{f:Nat}:Rds (gY room) l f (if (gt l).2.2≠0∨room<(gt l).1 then 0 else (gt l).1) (if (gt l).2.2≠0∨room<(gt l).1 then l else l.drop (gt l).2.1)
  (if f=0 then (if (gt l).2.2≠0 then (gt l).2.2 else if room<(gt l).1 then 40 else 0) else f):=by
 refine⟨λh0=>?_,λh0=>jex h0⟩;rw[jey h0];unfold gY;by_cases h1:(gt l).2.2≠0
 ·rw[jey h1,jey h1,jex h1]
 ·rw[jex h1,jex h1]
  by_cases h2:room<(gt l).1
  ·rw[jey h2,jey h2,jex (by omega)]
  ·rw[jex h2,jex h2,jey rfl,jex (by omega),jex (by omega)]
def AY.bind{α β : Type}{m:List Nat->Except Nat (α×List Nat)}{k:α->List Nat->Except Nat (β×List Nat)}{e e':List Nat}{x:α}{y:β}(h1:AY m e x)(h2:AY (k x) e' y):AY (aw m k) (e++e') y:=by
 intro r;rw[jeQ];rcases h1 (e'++r)with h | ⟨c,hc,h⟩
 ·rw[cB h];exact h2 r
 ·rw[bY h];exact Or.inr ⟨c,hc,rfl⟩
def uX.bind{α β : Type}{m:List Nat->Except Nat (α×List Nat)}{k:α->List Nat->Except Nat (β×List Nat)}{e e':List Nat}{x:α}{y:β}(h1:uX m e x)(h2:uX (k x) e' y):uX (aw m k) (e++e') y:=by
 intro r;rw[jeQ,cB (h1 (e'++r))];exact h2 r
def kj{room n:Nat}(hn:n<18446744073709551616)(hr:n<=room):uX (gY room) (uv n) n:=by
 intro r;unfold gY;rw[mr n hn r];simp only;rw[jex (by omega),jex (by omega),jfc]
def lK{room n:Nat}(hn:n<18446744073709551616):AY (gY room) (uv n) n:=by
 intro r;by_cases hr:n<=room
 ·exact Or.inl (kj hn hr r)
 ·right
  refine⟨40,by omega,?_⟩;unfold gY;rw[mr n hn r];simp only;rw[jex (by omega),jey (by omega)]
def Sp{f:Fd}(h:Okf f)(hs:f.2.1.size<18446744073709551616):AY uZ (jb f) f:=by
 obtain⟨i,s,k,n⟩:=f;have h1:=h.1;have h2:=h.2;simp only at h1 h2 hs;have e:jb (i,s,k,n)=uv i++((uv s.size++ei s)++(uv k++(uv (iZ n)++[]))):=by simp[jb]
 rw[e];refine(lK (by omega)).bind (((lK hs).bind (wt s).eith).bind ((lK (by omega)).bind ((lK (by unfold iZ;split<;>omega)).bind ?_)));intro r;left
 rw[Dr];rfl
def Sq{f:Fd}(h:Okf f)(hs:f.2.1.size<=16):uX uZ (jb f) f:=by
 obtain⟨i,s,k,n⟩:=f;have h1:=h.1;have h2:=h.2;simp only at h1 h2 hs;have e:jb (i,s,k,n)=uv i++((uv s.size++ei s)++(uv k++(uv (iZ n)++[]))):=by simp[jb]
 rw[e];have eI:iZ n<=1:=by unfold iZ;split<;>omega
 refine(kj (by omega) (by omega)).bind (((kj (by omega) hs).bind (wt s)).bind ((kj (by omega) (by omega)).bind ((kj (by omega) eI).bind ?_)));intro r;rw[Dr];rfl
def Nj{l:List Fd}(h:∀ f∈l,Okf f/\f.2.1.size<18446744073709551616):∀ n,n<=l.length->AY (kY n) (jF (l.take n)) (l.take n):=by
 intro n;induction n with
 | zero=>intro _;exact(zx _).eith
 | succ n ih =>
  intro hn;have hf:=h l[n] (jeD (by omega));rw[pC (by omega),jeO (by omega),<- jeS (jb l[n])];exact(ih (by omega)).bind ((Sp hf.1 hf.2).bind (λr=>Or.inl rfl))
def Nk{l:List Fd}(h:∀ f∈l,Okf f/\f.2.1.size<=16):∀ n,n<=l.length->uX (kY n) (jF (l.take n)) (l.take n):=by
 intro n;induction n with
 | zero=>intro _;exact zx _
 | succ n ih =>
  intro hn;have hf:=h l[n] (jeD (by omega));rw[pC (by omega),jeO (by omega),<- jeS (jb l[n])];exact(ih (by omega)).bind ((Sq hf.1 hf.2).bind (λr=>rfl))
def Dz{id:Nat}{l:List Fd}(pq:id<4294967296)(ho:∀ f∈l,Okf f)(hs:szs l<5000)(hl:l.length<=100)(r:List Nat) :
  if chk id l=0 then cD (eY id l++r)=.ok ((id,l),r) else ∃ c,c≠0/\cD (eY id l++r)=.error c:=by
 have e:eY id l=uv id++(uv l.length++(jF l++[])):=by simp[eY]
 by_cases h:chk id l=0
 ·rw[jey h]
  have hr:=qA h
  have fR:fe [] l=0:=by
   unfold chk at h;rwa[jex (by omega)]at h
  have hn:=qB fR;have hjf:=Nk (λf hf=>⟨ho f hf,hn f hf⟩) l.length (jeA _);rw[jeJ]at hjf
  have hj:uX Dy (eY id l) (id,l):=by
   rw[e];exact(kj (by omega) (by omega)).bind ((kj (by omega) (by omega)).bind ((hjf).bind (λr=>rfl)))
  unfold cD;rw[cB (hj r)];simp only;rw[jey h]
 ·rw[jex h]
  have hjf:=Nj (l:=l) (λf hf=>⟨ho f hf,by have:=LH hf;omega⟩) l.length (jeA _);rw[jeJ]at hjf
  have hj:AY Dy (eY id l) (id,l):=by
   rw[e];exact(lK (by omega)).bind ((lK (by omega)).bind ((hjf).bind (λr=>Or.inl rfl)))
  unfold cD;rcases hj r with h2 | ⟨c,hc,h2⟩
  ·rw[cB h2]
   simp only;rw[jex h];exact⟨_,h,rfl⟩
  ·rw[bY h2]
   exact⟨c,hc,rfl⟩
def sQ:(prog.info? 92).map (λi=>(i.zero,i.size,i.bytes))=some (some (.int .u64 0),1,8):=by kernel_rfl
def jbQ{acc:List UInt8}{k n:Nat}(h:acc++uvarint k=uvarint n)(hn:n<18446744073709551616):acc.length+1<=10:=by
 have h1:=uvarint_length64 hn;have h2:=uvarint_pos k;have h3:=jeG List.length h;rw[jeC]at h3;omega
def DA(n:Nat)(hn:n<18446744073709551616)(w:World) :
  Calls prog 119 #[.int .u64 (n:Int)] w λe w'=>(∃ v,e=.returned v/\w'.ownsRow w.heap.size 5 1 v (uvarint n).length (bh (uvarint n)))/\jgu w w':=by
 obtain⟨i0,hi,bR,hz1',aX⟩:=jeT nl;have HN:=ae hn;clear hn;go_enter func119,ntmps119
 go_wp2_with fail;go_loopw [0,3] (λm b wr=>∃(k:Nat) (acc:List UInt8),m=.int .u64 (k:Int)/\k<18446744073709551616/\acc++uvarint k=uvarint n/\wr.ownsRow w.heap.size 5 1 b acc.length (bh acc)/\jgu w wr) (λm _ _=>(intOf m).toNat)
 case atStart=>exact⟨n,[],rfl,HN.o,rfl,jfh _ _ _ _,jez _ _⟩
 case round =>
  obtain⟨k,acc,rfl,hk,kR,ax,ao⟩:=hrel;have bH:=jbQ kR HN.o;have HA:=ae kR;have HO:=ae ax;have HB:=ae ao;have bF:=ao.size;clear kR ax ao;by_cases h:(k:Int)>=128
  ·have hor:=u8_or128_any ((k:Int) % 256) (by omega) (by omega)
   go_wp2_with (first | (at_builtin;refine jfw _ rfl _ _ 30 rfl w.heap.size 5 i0 (.int .u8 0) 1 1 underlying30 hi bR hz1' aX rfl (by decide) _ _ _ rfl (HO.o.alloc _) ⟨wr.heap.size,0,none⟩ 1 1 [.int .u8 ((k:Int) % 128+128)] rfl rfl ?c1 ?c2 ?c3 ?c4 ?c5 ?_))
   case c1=>exact cell_one_new _ _ _
   case c2=>first | rfl | (intro u hu;simp at hu;subst hu;rfl)
   case c3=>unfold maxLen;omega
   case c4=>omega
   case c5=>first | omega | (simp;omega)
   intro v1 w2 o1 g1 _ e1;have fX:=ae o1;have aL:=ae ((HB.o.alloc (by omega) _).grown g1 (by simp;omega) (λk hk=>(HO.o.lt k hk).1));clear o1 g1 e1;go_wp2_with fail;go_roundw
   case rel =>
    refine⟨k / 128,acc++[(k % 128+128).toUInt8],by go_num,by omega,?_,?_,aL.o⟩
    ·rw[<- HA.o,uvarint_big (x:=k) (by omega)];simp
    ·rw[mL,jeC]
     rw[qC (by omega)];exact fX.o
   case measure=>simp[intOf];omega
  ·have Gf:uvarint k=[k.toUInt8]:=uvarint_small (by omega)
   have HS:=ae Gf;clear Gf;go_wp2_with (first | (at_builtin;refine jfw _ rfl _ _ 30 rfl w.heap.size 5 i0 (.int .u8 0) 1 1 underlying30 hi bR hz1' aX rfl (by decide) _ _ _ rfl (HO.o.alloc _) ⟨wr.heap.size,0,none⟩ 1 1 [.int .u8 (k:Int)] rfl rfl ?c1 ?c2 ?c3 ?c4 ?c5 ?_))
   case c2=>first | rfl | (intro u hu;simp at hu;subst hu;rfl)
   case c3=>unfold maxLen;omega
   case c4=>omega
   case c5=>first | omega | (simp;omega)
   intro v1 w2 o1 g1 _ e1;have fX:=ae o1;have aL:=ae ((HB.o.alloc (by omega) _).grown g1 (by simp;omega) (λk hk=>(HO.o.lt k hk).1));clear o1 g1 e1;go_wp2_with fail;go_ret
   refine⟨⟨_,rfl,?_⟩,aL.o⟩;have h1:=fX.o;rw[<- HA.o,HS.o,mL,jeC];rw[qC (by omega)];exact h1
def kQ(k:IntKind)(x:Int)(u e:Nat):Ending:=.returned (.tuple #[.int k x,.int .i64 (u:Int),.int .i64 (e:Int)])
def Nl(n used:Nat)(c:UInt8)(hu:used<=10)(w:World) :
  Calls prog 213 #[.int .u64 (n:Int),.int .i64 (used:Int),.int .u8 (c.toNat:Int)] w λe w' =>
   e=(if c.toNat=0/\1<used then kQ .u64 0 0 31 else kQ .u64 (n:Int) used 0)/\w'=w:=by
 by_cases h1:((c.toNat:Int)==0)=true
 ·have h1':c.toNat=0:=by simpa using h1
  by_cases h2:(used:Int) > 1
  ·rw[jey ⟨h1',by omega⟩]
   clear h1';go_enter func213,ntmps213
   go_wp2_with fail;go_ret3
   exact⟨rfl,rfl⟩
  ·rw[jex (λh=>by omega)]
   clear h1';go_enter func213,ntmps213
   go_wp2_with fail;go_ret3
   exact⟨rfl,rfl⟩
 ·have h1':((c.toNat:Int)==0)=false:=by simpa using h1
  rw[jex (λh=>h1 (by simpa using h.1))];clear h1;go_enter func213,ntmps213
  go_wp2_with fail;go_ret3
  exact⟨rfl,rfl⟩
def Nm(a:Option Addr)(cap:Nat)(w:World):Calls prog 180 #[.slice a 0 cap] w λe w'=>e=kQ .u64 0 0 30/\w'=w:=by
 go_enter func180,ntmps180
 go_wp2_with fail;refine wp_loop_rounds 1 ?_;rw[rounds_succ];go_wp2_with fail;go_ret3
 exact⟨rfl,rfl⟩
def jbR{c k:Nat}:((c:Nat):Int)*2 ^ (7*k)=((c*128 ^ k:Nat):Int):=by
 rw[<- jbO];simp
def Yh{l:List UInt8}{k:Nat}(h:k<l.length)(h9:k<=9)(qr:val (l.take (k+1))<18446744073709551616) :
  bits .or .u64 (val (l.take k):Int) (IntKind.u64.wrap ((l[k].toNat:Int) % 128*2 ^ (7*k)))=(val (l.take (k+1)):Int):=by
 have hv:=eK h;have hl:=wD (l.take k);rw[jeH,jfp (by omega)]at hl
 have e:(l[k].toNat:Int) % 128*2 ^ (7*k)=((l[k].toNat % 128*128 ^ k:Nat):Int):=by
  rw[<- jbR];simp
 rw[e,wraps_u64 _ (by omega) (by omega),Sj h9 hl (by omega),hv]
def Yi{k:Nat}{n:Int}{c:UInt8}(hu:k+1<=10)(w:World){P:Ending->World->Prop}(h:Calls prog 213 #[.int .u64 n,.int .i64 ((k+1:Nat):Int),.int .u8 (c.toNat:Int)] w P) :
  Calls prog 213 #[.int .u64 n,.int .i64 ((k:Int)+1),.int .u8 (c.toNat:Int)] w P:=by
 have e:((k+1:Nat):Int)=(k:Int)+1:=by omega
 rwa[e]at h
def Su(b off cap:Nat)(l:List UInt8)(w:World)(jcL:l.length<=maxLen)(bg:l.length<=cap)
  (hc:∀ j (h:j<l.length),w.cell? ⟨b,off+j,none⟩=some (.int .u8 (l[j].toNat:Int))) :
  Calls prog 180 #[.slice (some ⟨b,off,none⟩) l.length cap] w λe w'=>e=kQ .u64 ((ff l).1:Int) (ff l).2.1 (ff l).2.2/\w'=w:=by
 have hm:l.length<=9223372036854775807:=by unfold maxLen at jcL;omega
 have HC:=ae hc;clear hc jcL;go_enter func180,ntmps180
 go_wp2_with fail;go_loopw [5,10] (λn i w'=>w'=w/\∃ k:Nat,k<=9/\k<=l.length/\k<=aQ l/\i=.int .i64 (k:Int)/\n=.int .u64 (val (l.take k):Int)) (λ_ i _=>l.length-(intOf i).toNat)
 case atStart=>exact⟨rfl,0,by omega,by omega,by omega,rfl,rfl⟩
 case round =>
  obtain⟨rfl,k,h9,hk,AJ,rfl,rfl⟩:=hrel;by_cases ar:k<l.length
  ·have eP:=HC.o k ar
   have hval:=eK ar;have Wo:=wD (l.take k);rw[jeH,jfp (by omega)]at Wo;have HT:=ae (λ(e:k=9) (h:1<l[k].toNat)=>Hk (l:=l) (by omega) (by omega) (by subst e;exact h));have HL:=ae (λh1 h2=>zA (l:=l) AJ h9 ar h1 h2);have HN:=ae (Nc AJ ar);have qr:=λh=>Yh (l:=l) ar h9 (Sh (l:=l) h9 ar h)
   have gV:=l[k].toNat_lt;have han:=Nd l[k];have sG:=ae AJ;have jD:=ae (λw=>Yi (k:=k) (by omega) w (Nl (val (l.take (k+1))) (k+1) l[k] (by omega) w));clear AJ;generalize l[k]=c at *;by_cases hk9:((k:Int)==9)=true
   ·have hk9':k=9:=by have:(k:Int)=9:=(by simpa using hk9);omega
    by_cases ju:(c.toNat:Int) > 1
    ·have HE:=ae (HT.o hk9' (by omega))
     clear HT HL HN qr hval Wo han hk9';go_wp2_with fail;go_ret3
     rw[HE.o];exact⟨rfl,rfl⟩
    ·have HJ:=ae (qr (λ_=>by omega))
     have HF:=ae (HL.o (by omega) (λ_=>by omega));clear HT HL HN qr hval Wo hk9';go_wp2_with fail;rw[HJ.o];refine(jD.o _).mono ?_;rintro e w1 ⟨rfl,rfl⟩
     have eW:jgt ((if c.toNat=0/\1<k+1 then kQ .u64 0 0 31 else kQ .u64 (val (l.take (k+1)):Int) (k+1) 0)=kQ .u64 ((ff l).1:Int) (ff l).2.1 (ff l).2.2):=by
      show _=_
      rw[HF.o];by_cases h:c.toNat=0/\0<k
      ·rw[jey h,jey ⟨h.1,by omega⟩];rfl
      ·rw[jex h,jex (λh1=>h ⟨h1.1,by omega⟩)]
     rw[eW.o];unfold kQ;go_wp2_with fail;go_ret3
     exact⟨rfl,rfl⟩
   ·have hk9':((k:Int)==9)=false:=by simpa using hk9
    have hk8:k<=8:=by have:¬ (k:Int)=9:=(by simpa using hk9);omega
    have HJ:=ae (qr (λ_=>by omega));clear hk9;by_cases ju:(c.toNat:Int)<128
    ·have HF:=ae (HL.o (by omega) (λ_=>by omega))
     clear HT HL HN qr hval Wo;go_wp2_with fail;rw[HJ.o];refine(jD.o _).mono ?_;rintro e w1 ⟨rfl,rfl⟩
     have eW:jgt ((if c.toNat=0/\1<k+1 then kQ .u64 0 0 31 else kQ .u64 (val (l.take (k+1)):Int) (k+1) 0)=kQ .u64 ((ff l).1:Int) (ff l).2.1 (ff l).2.2):=by
      show _=_
      rw[HF.o];by_cases h:c.toNat=0/\0<k
      ·rw[jey h,jey ⟨h.1,by omega⟩];rfl
      ·rw[jex h,jex (λh1=>h ⟨h1.1,by omega⟩)]
     rw[eW.o];unfold kQ;go_wp2_with fail;go_ret3
     exact⟨rfl,rfl⟩
    ·have HF:=ae (HN.o (by omega))
     clear HT HL HN qr hval Wo;go_wp2_with fail;rw[HJ.o];go_roundw
     case rel=>exact⟨trivial,k+1,by omega,by omega,HF.o,by go_num,rfl⟩
     case measure=>simp[intOf];omega
  ·have HE:=ae (Dw AJ h9 ar)
   clear AJ;go_wp2_with fail;go_ret3
   rw[HE.o];exact⟨rfl,rfl⟩
def LM{w:World}{v:Value}{l:List UInt8}(h:Sl w v l):Calls prog 180 #[v] w λe w'=>e=kQ .u64 ((ff l).1:Int) (ff l).2.1 (ff l).2.2/\w'=w:=by
 obtain⟨a,cap,rfl,h1,h2,h3⟩:=h;cases l with
 | nil=>exact Nm a cap w
 | cons x r =>
  obtain⟨b,off,rfl,_,h5⟩:=h3 (by simp);exact Su b off cap (x::r) w (by omega) h1 h5
def Nn{l:List UInt8}(h:¬ (9<=aQ l/\9<l.length/\1<(l.getD 9 0).toNat))(hl:aQ l<l.length):aQ l<=9/\(aQ l=9->l[aQ l].toNat<=1):=by
 have h9:aQ l<=9:=by
  rcases je0 9 (aQ l)with h1 | h1
  ·exfalso
   apply h
   refine⟨by omega,by omega,?_⟩;rw[kX (by omega)];have:=np l 9 (by omega) h1;omega
  ·exact h1
 refine⟨h9,λe=>?_⟩;have h3:¬ 1<(l.getD 9 0).toNat:=λh2=>h ⟨by omega,by omega,h2⟩
 rw[kX (by omega)]at h3;simp only[e];omega
def zE(l:List UInt8):(ff l).1<18446744073709551616/\(ff l).2.1<=l.length/\(ff l).2.1<=10/\((ff l).2.2=0∨(((ff l).2.2=30∨(ff l).2.2=31)/\(ff l).1=0/\(ff l).2.1=0)):=by
 have oT:=vT l;unfold ff;split
 ·simp
 ·rename_i h1
  split
  ·simp
  ·rename_i h2
   have hl:aQ l<l.length:=(by omega);obtain⟨h9,ht⟩:=Nn h1 hl;split
   ·simp
   ·refine⟨Sh h9 hl ht,?_,?_,Or.inl rfl⟩<;>simp only<;>omega
def Sw{e:Nat}(h:e=0∨e=30∨e=31)(h0:¬ e=0):((e:Int) != 0)=true:=by simp;omega
def LN(n:Nat):aA .u8 (uv n)=bh (uvarint n):=wu _
def de(n:Nat)(hn:n<18446744073709551616)(w:World):Calls prog 119 #[.int .u64 (n:Int)] w (ee w (uv n)):=by
 refine(DA n hn w).mono ?_;rintro e w' ⟨⟨v,rfl,h⟩,hb⟩;exact⟨⟨v,rfl,by unfold aM;rw[LN,pB];exact h⟩,hb⟩
def fK(b:List Nat):(gt b).1<18446744073709551616/\(gt b).2.1<=b.length/\(gt b).2.1<=10/\((gt b).2.2=0∨(((gt b).2.2=30∨(gt b).2.2=31)/\(gt b).1=0/\(gt b).2.1=0)):=by
 have:=zE (b.map Nat.toUInt8);rw[jeE]at this;exact this
def Bk{w:World}{a:Option Addr}{n cap:Nat}{b:List Nat}(hb:Bs b)(h:Sv w (.slice a n cap) (aA .u8 b)) :
  Calls prog 180 #[.slice a n cap] w λe w'=>e=kQ .u64 ((gt b).1:Int) (gt b).2.1 (gt b).2.2/\w'=w:=LM (h.sl hb)
end Go.Proofs.YtpljdjmpamjkhaaGreatDoor
