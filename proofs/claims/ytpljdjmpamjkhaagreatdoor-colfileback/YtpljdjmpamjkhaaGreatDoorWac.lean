import Derived.Test.YtpljdjmpamjkhaaGreatDoorWab
import Derived.Lib.Zigzag
import Derived.Lib.VarintBits
set_option linter.unusedVariables false
set_option linter.unusedSimpArgs false
set_option maxRecDepth 100000
set_option maxHeartbeats 2000000
namespace Go.Proofs.YtpljdjmpamjkhaaGreatDoor
open Go.RowKit Go.Lib
theorem oC:∀{l m:List Nat},Bs l->Bs m->Op.bytesLess (l.map Nat.toUInt8) (m.map Nat.toUInt8)=decide (l<m)
 | [],[],_,_=>by simp[Op.bytesLess]
 | [],y::t,_,_=>by simp[Op.bytesLess]
 | x::s,[],_,_=>by simp[Op.bytesLess]
 | x::s,y::t,hl,hm=>by
  have ih:=oC (l:=s) (m:=t) (fun z hz=>hl z (by simp[hz])) (fun z hz=>hm z (by simp[hz]));have hx:=hl x (by simp);have hy:=hm y (by simp)
  have h1:(x.toUInt8<y.toUInt8)=(x<y):=by
   rw[UInt8.lt_iff_toNat_lt];simp[ZF hx,ZF hy]
  have h2:(x.toUInt8==y.toUInt8)=decide (x=y):=by
   by_cases h:x=y
   ·simp[h]
   ·have:x.toUInt8≠y.toUInt8:=fun e=>h (by
     have:=YE UInt8.toNat e;simpa [ZF hx,ZF hy]using this)
    simp[h,this]
  simp only[Zh,Op.bytesLess,ih,h1,h2];have h3:(x::s<y::t)↔(x<y∨x=y/\s<t):=List.cons_lt_cons_iff;by_cases h:x<y<;>by_cases h':x=y<;>by_cases h'':s<t<;>simp[h3,h,h',h'']
def cp(c:Nat×Int×List Nat):Value :=
 if c.1=0 then .nilIface else if c.1=1 then .iface 2 (.int .i64 c.2.1) else if c.1=2 then .iface 4 (.bool (decide (c.2.1=1))) else .iface 9 (txt c.2.2)
def aC(l:List (Nat×Int×List Nat)):List Value:=l.map cp
def ts(c:Nat×Int×List Nat):List Value:=[.int .u8 (c.1:Int),.int .i64 c.2.1,txt c.2.2]
def ff(l:List (Nat×Int×List Nat)):List Value:=l.flatMap ts
theorem ax(l:List (Nat×Int×List Nat)):(aC l).length=l.length:=YD _
theorem iI(a b:List (Nat×Int×List Nat)):aC (a++b)=aC a++aC b:=YX
theorem oD(a b:List (Nat×Int×List Nat)):ff (a++b)=ff a++ff b:=ZS
theorem nA(c:Nat×Int×List Nat)(l:List (Nat×Int×List Nat)):ff (c::l)=ts c++ff l:=jaa
theorem kN:∀ l:List (Nat×Int×List Nat),(ff l).length=l.length*3
 | []=>rfl
 | c::t=>by
  rw[nA,YC,kN t,YI];simp[ts]
  omega
theorem cd{l:List (Nat×Int×List Nat)}{j:Nat}(h:j<l.length):(aC l)[j]?=some (cp l[j]):=by simp[aC,h]
theorem qj:∀{l:List (Nat×Int×List Nat)} {j:Nat} (h:j<l.length),(ff l)[j*3]?=some (.int .u8 (l[j].1:Int))/\(ff l)[j*3+1]?=some (.int .i64 l[j].2.1)/\(ff l)[j*3+2]?=some (txt l[j].2.2)
 | c::t,0,h=>by simp[nA,ts]
 | c::t,j+1,h=>by
  have ih:=qj (l:=t) (j:=j) (by simpa using h);rw[nA]
  have e:∀ k,(ts c++ff t)[(j+1)*3+k]?=(ff t)[j*3+k]?:=fun k=>by
   rw[List.getElem?_append_right (by simp[ts];omega)];simp only[ts,YI,Zc];congr 1
   omega
  have e0:=e 0;simp only[ZL]at e0;rw[e0,e 1,e 2];simpa using ih
theorem oE(c:Nat×Int×List Nat):(cp c).oneCell'=true:=by
 unfold cp;split
 ·rfl
 ·split
  ·rfl
  ·split<;>rfl
theorem mW(l:List (Nat×Int×List Nat)):∀ u∈aC l,u.oneCell'=true:=by
 intro u hu;obtain⟨x,_,rfl⟩:=YS.1 hu;exact oE x
def OwnV(W:World)(B:Nat)(v:Value)(l:List (Nat×Int×List Nat)):Prop:=W.ownsRow B 78 1 v l.length (aC l)
def dB(W:World)(B:Nat)(v:Value)(l:List (Nat×Int×List Nat)):Prop:=W.ownsRow B 52 3 v l.length (ff l)
theorem OwnV.nil(W:World)(B:Nat):OwnV W B (.slice none 0 0) []:=Zx _ _ _ _
theorem dB.nil(W:World)(B:Nat):dB W B (.slice none 0 0) []:=Zx _ _ _ _
theorem OwnV.kept{w w':World}{B:Nat}{v:Value}{l:List (Nat×Int×List Nat)}(h:OwnV w B v l)(hb:Below w.heap.size w w'):OwnV w' B v l:=bP h hb
theorem dB.kept{w w':World}{B:Nat}{v:Value}{l:List (Nat×Int×List Nat)}(h:dB w B v l)(hb:Below w.heap.size w w'):dB w' B v l:=bP h hb
theorem OwnV.sv{W:World}{B:Nat}{v:Value}{l:List (Nat×Int×List Nat)}(h:OwnV W B v l):Sv W v (aC l):=Sv.of_own h
def Sc(W:World)(v:Value)(l:List (Nat×Int×List Nat)):Prop :=
 ∃ a cap,v=.slice a l.length cap/\l.length<=cap/\cap<=maxLen/\(0<l.length->∃ b off,a=some ⟨b,off,none⟩/\b<W.heap.size/\∀ j x,(ff l)[j]?=some x->W.cell? ⟨b,off+j,none⟩=some x)
theorem Sc.kept{W W':World}{v:Value}{l:List (Nat×Int×List Nat)}(h:Sc W v l)(hb:Below W.heap.size W W'):Sc W' v l:=by
 obtain⟨a,cap,h1,h2,h3,h4⟩:=h;refine⟨a,cap,h1,h2,h3,fun h0=>?_⟩;obtain⟨b,off,h5,h6,h7⟩:=h4 h0;exact⟨b,off,h5,Za h6 hb.size,fun j x hj=>(hb.cell (p:=⟨b,off+j,none⟩) h6).trans (h7 j x hj)⟩
theorem dB.sc{W:World}{B:Nat}{v:Value}{l:List (Nat×Int×List Nat)}(h:dB W B v l):Sc W v l:=by
 rcases h with ⟨h0,⟨rfl,h1⟩ | ⟨g,cap,cur,rfl,h2,h3,h4,h5,h6,h7⟩⟩
 ·refine⟨none,0,by rw[h1],by omega,by unfold maxLen;omega,fun h=>by omega⟩
 ·refine⟨_,cap,rfl,h4,h5,fun _=>⟨g,0,rfl,(Array.getElem?_eq_some_iff.1 h3).1,fun j x hj=>?_⟩⟩
  rw[YY];simp only[World.cell?,h3];rw[← h7]at hj;have ar:=(List.getElem?_eq_some_iff.1 hj).1;rw[YH]at ar;rw[List.getElem?_take_of_lt (by omega)]at hj;simpa using hj
theorem Sc.at{W:World}{a:Option Addr}{n cap:Nat}{l:List (Nat×Int×List Nat)}(h:Sc W (.slice a n cap) l){k:Nat}(hk:k<l.length) :
  ∃ b off,a=some ⟨b,off,none⟩/\b<W.heap.size/\W.cell? ⟨b,off+k*3,none⟩=some (.int .u8 (l[k].1:Int))/\W.cell? ⟨b,off+k*3+1,none⟩=some (.int .i64 l[k].2.1)/\W.cell? ⟨b,off+k*3+2,none⟩=some (txt l[k].2.2):=by
 obtain⟨a',cap',e,h1,h2,h4⟩:=h;simp only[Value.slice.injEq]at e;obtain⟨rfl,_,_⟩:=e;obtain⟨b,off,rfl,h5,h6⟩:=h4 (by omega);obtain⟨c0,c1,c2⟩:=qj hk;refine⟨b,off,rfl,h5,h6 _ _ c0,?_,?_⟩
 ·rw[ZR]
  exact h6 _ _ c1
 ·rw[ZR]
  exact h6 _ _ c2
theorem aX(w:World)(v:Value)(t:Nat):(w.alloc (.cells #[v] t)).cell? ⟨w.heap.size,0,none⟩=some v:=by
 have:=cell_one_new w v t 0 v rfl;rw[oz]at this;exact this
theorem mh(c:Nat×Int×List Nat)(h:c.1=0):cp c=.nilIface:=Yy h
theorem iP(c:Nat×Int×List Nat)(h:c.1≠0):∃ t u,cp c=.iface t u:=by
 unfold cp;rw[Yx h];split
 ·exact⟨_,_,rfl⟩
 ·split
  ·exact⟨_,_,rfl⟩
  ·exact⟨_,_,rfl⟩
theorem df{w:World}{ops:Array Oper}{rest:List Oper}{o:Oper}{a:Act}{Q:Exit->Act->World->Prop}(dO:o.guard=none)(s x:Operand)
  (ho:o.op=.call { callee:=.builtin .append,args:=#[s,x],argTypes:=#[79,79] })
  (base:Nat) (v:Value) (g:Nat) (z:Nat×Int×List Nat) (l0:List (Nat×Int×List Nat)) (hs:a.eval s=v) (aw:OwnV w base v l0) (hx:a.eval x=.slice (some ⟨g,0,none⟩) 1 1) (hc:w.cell? ⟨g,0,none⟩=some (cp z))
  (hbytes:l0.length<=100000) (aD:base<=w.heap.size)
  (h:∀ v' w',OwnV w' base v' (l0++[z])->Below base w w'->wpList Tryz.prog ops Q rest (a.put o.dst v') w') :
  wpList Tryz.prog ops Q (o::rest) a w:=by
 obtain⟨i0,hi,bN,hz1',bh⟩:=YW qi;unfold OwnV at *
 refine ZI (w:=w) dO s x 79 ho base 78 i0 .nilIface 1 16 Tryz.underlying79 hi bN hz1' bh rfl (by decide) v l0.length (aC l0) hs aw ⟨g,0,none⟩ 1 1 [cp z] hx rfl ?_ (fun u hu=>by
  have:u=cp z:=by simpa using hu
  subst this;exact oE z) (by unfold maxLen;omega) (by omega) aD ?_
 ·intro j u hu
  rw[oz];cases j with
  | zero =>
   simp only[List.getElem?_cons_zero,Option.some.injEq]at hu;rw[← hu];exact hc
  | succ j=>simp at hu
 ·intro v' w' o1 g1 _ _
  refine h v' w' ?_ ((Yz base w).grown g1 aD (fun k hk=>(aw.lt k hk).1));rw[iI,YC];exact o1
theorem Vq:(Tryz.prog.info? 52).map (fun i=>(i.zero,i.size,i.bytes))=some (some (.agg #[.int .u8 0,.int .i64 0,.string ⟨#[]⟩]),3,32):=by kernel_rfl
theorem iv{w:World}{ops:Array Oper}{rest:List Oper}{o:Oper}{a:Act}{Q:Exit->Act->World->Prop}(dO:o.guard=none)(s x:Operand)
  (ho:o.op=.call { callee:=.builtin .append,args:=#[s,x],argTypes:=#[58,58] })
  (base:Nat) (v:Value) (g:Nat) (z:Nat×Int×List Nat) (l0:List (Nat×Int×List Nat)) (hs:a.eval s=v) (aw:dB w base v l0) (hx:a.eval x=.slice (some ⟨g,0,none⟩) 1 1)
  (rZ:w.cell? ⟨g,0,none⟩=some (.int .u8 (z.1:Int))) (jy:w.cell? ⟨g,1,none⟩=some (.int .i64 z.2.1)) (jH:w.cell? ⟨g,2,none⟩=some (txt z.2.2))
  (hbytes:l0.length<=100000) (aD:base<=w.heap.size)
  (h:∀ v' w',dB w' base v' (l0++[z])->Below base w w'->wpList Tryz.prog ops Q rest (a.put o.dst v') w') :
  wpList Tryz.prog ops Q (o::rest) a w:=by
 obtain⟨i0,hi,bN,hz1',bh⟩:=YW Vq;unfold dB at *
 refine ZI (w:=w) dO s x 58 ho base 52 i0 (.agg #[.int .u8 0,.int .i64 0,.string ⟨#[]⟩]) 3 32 Tryz.underlying58 hi bN hz1' bh rfl (by decide) v l0.length (ff l0) hs aw ⟨g,0,none⟩ 1 1 (ts z) hx rfl ?_ (fun u hu=>by
  unfold ts at hu;simp only[YQ,jaw,or_false]at hu;rcases hu with rfl | rfl | rfl<;>rfl) (by unfold maxLen;omega) (by omega) aD ?_
 ·intro j u hu
  rw[oz];unfold ts at hu;match j,hu with
  | 0,hu=>simp only[List.getElem?_cons_zero,Option.some.injEq]at hu;rw[← hu];exact rZ
  | 1,hu=>simp only[List.getElem?_cons_succ,List.getElem?_cons_zero,Option.some.injEq]at hu;rw[← hu];exact jy
  | 2,hu=>simp only[List.getElem?_cons_succ,List.getElem?_cons_zero,Option.some.injEq]at hu;rw[← hu];exact jH
  | j+3,hu=>simp at hu
 ·intro v' w' o1 g1 _ _
  refine h v' w' ?_ ((Yz base w).grown g1 aD (fun k hk=>(aw.lt k hk).1));rw[oD,YC];have:ff [z]=ts z:=by simp[ff]
  rw[this];exact o1
def aI(c:Nat×Int×List Nat):Prop :=
 c=nul∨(∃ n,c=(1,n,[])/\I64 n)∨(∃ n:Nat,c=(2,(n:Int),[])/\n<2)∨(∃ s,c=(3,0,s)/\s.length<=64/\Bs s)
theorem aI.val{c:Nat×Int×List Nat}(h:aI c):Val (cp c) (c.1:Int) c.2.1 (ai c.2.2):=by
 rcases h with rfl | ⟨n,rfl,h⟩ | ⟨n,rfl,h⟩ | ⟨n,rfl,h⟩
 ·exact Or.inl ⟨rfl,rfl,rfl,rfl⟩
 ·exact Or.inr (Or.inl ⟨rfl,rfl,rfl⟩)
 ·refine Or.inr (Or.inr (Or.inl ⟨decide (((n:Nat):Int)=1),rfl,rfl,?_,rfl⟩))
  obtain rfl | rfl:n=0∨n=1:=by omega
  ·rfl
  ·rfl
 ·exact Or.inr (Or.inr (Or.inr ⟨rfl,rfl,rfl⟩))
def Okc(c:Nat×Int×List Nat):Prop:=c.1<256/\I64 c.2.1/\Bs c.2.2
def aQ(c:Nat×Int×List Nat):Nat×Int×List Nat:=if flt (c.1:Int) c.2.1 (ai c.2.2)=0 then c else nul
theorem iJ{s:List Nat}(h:ai s=⟨#[]⟩):s=[]:=by
 have:=YE ByteArray.size h;rw[bx]at this;exact YU this
theorem eH{c:Nat×Int×List Nat}(h:Okc c):aI (aQ c):=by
 unfold aQ;split
 ·next h0 =>
  obtain⟨ck,cn,cs⟩:=c;obtain⟨g1,g2,g3⟩:=h;simp only at *;rcases tq (by omega) h0 with ⟨a1,a2,a3⟩ | ⟨a1,a3⟩ | ⟨a1,a2,a3⟩ | ⟨a1,a2,a3⟩ | ⟨a1,a2,a3⟩
  ·have e1:ck=0:=by omega
   have e3:=iJ a3;subst e1 a2 e3;exact Or.inl rfl
  ·have e1:ck=1:=by omega
   have e3:=iJ a3;subst e1 e3;exact Or.inr (Or.inl ⟨cn,rfl,g2⟩)
  ·have e1:ck=2:=by omega
   have e3:=iJ a3;subst e1 a2 e3;exact Or.inr (Or.inr (Or.inl ⟨0,rfl,by omega⟩))
  ·have e1:ck=2:=by omega
   have e3:=iJ a3;subst e1 a2 e3;exact Or.inr (Or.inr (Or.inl ⟨1,rfl,by omega⟩))
  ·have e1:ck=3:=by omega
   subst e1 a2;rw[bx]at a3;exact Or.inr (Or.inr (Or.inr ⟨cs,rfl,a3,g3⟩))
 ·exact Or.inl rfl
theorem RK:flt 0 0 (ai [])=0:=by simp[flt,tx,iu,dr,ByteArray.size]
theorem LC{c:Nat×Int×List Nat}(h:aI c):flt (c.1:Int) c.2.1 (ai c.2.2)=0:=by
 rcases h with rfl | ⟨n,rfl,_⟩ | ⟨n,rfl,hn⟩ | ⟨s,rfl,hs,_⟩
 ·exact RK
 ·simp[flt,tx,iu,dr,ByteArray.size]
 ·obtain rfl | rfl:n=0∨n=1:=by omega
  ·simp[flt,tx,iu,dr,ByteArray.size]
  ·simp[flt,tx,iu,dr,ByteArray.size]
 ·have:¬ 64<((ai s).size:Int):=by rw[bx];omega
  simp[flt,tx,iu,this]
theorem GK{c:Nat×Int×List Nat}(h:aI c):aQ c=c:=Yy (LC h)
theorem aI.okc{c:Nat×Int×List Nat}(h:aI c):Okc c:=by
 rcases h with rfl | ⟨n,rfl,h⟩ | ⟨n,rfl,hn⟩ | ⟨s,rfl,_,h⟩
 ·exact⟨by simp[nul],by simp[nul,I64],fun x hx=>by simp[nul]at hx⟩
 ·exact⟨by simp,h,fun x hx=>by simp at hx⟩
 ·exact⟨by simp,by simp only[I64];omega,fun x hx=>by simp at hx⟩
 ·exact⟨by simp,by simp[I64],h⟩
theorem zA{v:Value}{c:Nat×Int×List Nat}(hf:aI c)(h:Val v (c.1:Int) c.2.1 (ai c.2.2)):v=cp c:=by
 rcases hf with rfl | ⟨n,rfl,_⟩ | ⟨n,rfl,hn⟩ | ⟨s,rfl,_⟩
 ·rcases h with ⟨h,_⟩ | ⟨_,h,_⟩ | ⟨b,_,h,_⟩ | ⟨_,h,_⟩
  ·exact h
  ·simp[nul]at h
  ·simp[nul]at h
  ·simp[nul]at h
 ·rcases h with ⟨_,h,_⟩ | ⟨h,_⟩ | ⟨b,_,h,_⟩ | ⟨_,h,_⟩
  ·simp at h
  ·exact h
  ·simp at h
  ·simp at h
 ·rcases h with ⟨_,h,_⟩ | ⟨_,h,_⟩ | ⟨b,h,_,h2,_⟩ | ⟨_,h,_⟩
  ·simp at h
  ·simp at h
  ·rw[h]
   simp only at h2;obtain rfl | rfl:n=0∨n=1:=by omega
   ·cases b
    ·rfl
    ·simp at h2
   ·cases b
    ·simp at h2
    ·rfl
  ·simp at h
 ·rcases h with ⟨_,h,_⟩ | ⟨_,h,_⟩ | ⟨b,_,h,_⟩ | ⟨h,_⟩
  ·simp at h
  ·simp at h
  ·simp at h
  ·exact h
theorem fL(c:Nat×Int×List Nat):fk (c.1:Int) c.2.1 (ai c.2.2)=((aQ c).1:Int)/\fn (c.1:Int) c.2.1 (ai c.2.2)=(aQ c).2.1/\fs (c.1:Int) c.2.1 (ai c.2.2)=ai (aQ c).2.2:=by
 unfold fk fn fs aQ;split
 ·exact⟨rfl,rfl,rfl⟩
 ·exact⟨rfl,rfl,rfl⟩
theorem LD(c:Nat×Int×List Nat)(w:World):Calls Tryz.prog 73 #[.agg #[.int .u8 (c.1:Int),.int .i64 c.2.1,.string (ai c.2.2)]] w fun e w'=>e=.returned (.agg #[.int .u8 ((aQ c).1:Int),.int .i64 (aQ c).2.1,.string (ai (aQ c).2.2)])/\Below w.heap.size w w':=by
 have:=FE (c.1:Int) c.2.1 (ai c.2.2) (by omega) w;rw[(fL c).1,(fL c).2.1,(fL c).2.2]at this;exact this
theorem CQ{c:Nat×Int×List Nat}(h:Okc c)(w:World):Calls Tryz.prog 86 #[.agg #[.int .u8 (c.1:Int),.int .i64 c.2.1,.string (ai c.2.2)]] w fun e w'=>e=.returned (cp (aQ c))/\Below w.heap.size w w':=by
 have:=GJ (c.1:Int) c.2.1 (ai c.2.2) (by omega) w;rw[(fL c).1,(fL c).2.1,(fL c).2.2]at this;refine this.mono ?_;rintro e w' ⟨⟨v,rfl,hv⟩,hb⟩;rw[zA (eH h) hv];exact⟨rfl,hb⟩
theorem Sc.form{W:World}{v:Value}{l:List (Nat×Int×List Nat)}(h:Sc W v l):∃ a cap,v=.slice a l.length cap/\l.length<=cap/\cap<=maxLen:=by
 obtain⟨a,cap,h1,h2,h3,_⟩:=h;exact⟨a,cap,h1,h2,h3⟩
theorem LE{w:World}{v:Value}{l:List (Nat×Int×List Nat)}(hs:Sc w v l)(iZ:∀ c∈l,Okc c)(hl:l.length<=600) :
  Calls Tryz.prog 42 #[v] w fun e w'=>(∃ v',e=.returned v'/\OwnV w' w.heap.size v' (l.map aQ))/\Below w.heap.size w w':=by
 have HS:=ae hs;have HK:=ae iZ;obtain⟨a,cap,rfl,aV,bw⟩:=hs.form;have hcm':cap<=9223372036854775807:=by unfold maxLen at bw;omega
 clear hs iZ bw;go_enter Tryz.func42,Tryz.ntmps42
 go_wp2_with fail;go_loopw [3,4] (fun o i wr=>∃ j:Nat,j<=l.length/\i=.int .i64 (j:Int)/\OwnV wr w.heap.size o ((l.take j).map aQ)/\Below w.heap.size w wr) (fun _ i _=>l.length-(intOf i).toNat)
 case atStart=>exact⟨0,by omega,rfl,OwnV.nil _ _,Yz _ _⟩
 case round =>
  obtain⟨j,hj,rfl,aw,ao⟩:=hrel;have HO:=ae aw;have HB:=ae ao;have bM:=ao.size;clear aw ao;by_cases ar:j<l.length
  ·obtain⟨g,off,rfl,hg,c0,c1,c2⟩:=(HS.o.kept HB.o).at ar
   have hlt':(j:Int)<(l.length:Int):=(by omega)
   have jz:jaH ((l.take (j+1)).map aQ=(l.take j).map aQ++[aQ l[j]]):=ae (by
    rw[YP ar,YX];rfl)
   have hlen':((l.take j).map aQ).length<=100000:=by rw[YD,YH];omega
   have Rf:=ae (CQ (HK.o l[j] (YF ar)));rw[fD]at c2;generalize aQ l[j]=fc at *;generalize ai l[j].2.2=S at *;generalize l[j].2.1=cn at *;generalize l[j].1=ck at *;generalize (l.take j).map aQ=LL at *;go_wp2_with fail;refine(Rf.o _).mono ?_;rintro e w1 ⟨rfl,aA⟩;have fK:=ae (HO.o.kept aA);have aN:=ae (HB.o.trans (aA.mono bM));have cG:=aA.size;clear aA c0 c1 c2;generalize Wx:cp fc=vc;have xt:∀ W:World,(W.alloc (.cells #[vc] 78)).cell? ⟨W.heap.size,0,none⟩=some (cp fc):=fun W=>by rw[Wx];exact aX _ _ _
   have jI:=ae xt
   have hvf:vc=.nilIface∨∃ tt uu,vc=.iface tt uu:=by
    rw[← Wx];by_cases h0:fc.1=0
    ·exact Or.inl (mh fc h0)
    ·exact Or.inr (iP fc h0)
   clear Wx xt;rcases hvf with rfl | ⟨tt,uu,rfl⟩
   ·go_wp2_with (first | (at_builtin;refine df rfl _ _ rfl w.heap.size _ _ fc LL rfl (fK.o.kept (aj _ _)) rfl (jI.o _) hlen' ?c2 ?_))
    case c2=>first | omega | (rw[YB];omega)
    intro v' w5 o5 b5;have cQ:=ae o5;have aJ:=ae ((aN.o.alloc (YG bM cG) _).trans b5);clear o5 b5;go_wp2_with fail;go_roundw
    case rel=>exact⟨j+1,by omega,by go_num,by rw[jz.o];exact cQ.o,aJ.o⟩
    case measure=>simp[intOf];omega
   ·go_wp2_with (first | (at_builtin;refine df rfl _ _ rfl w.heap.size _ _ fc LL rfl (fK.o.kept (aj _ _)) rfl (jI.o _) hlen' ?c2 ?_))
    case c2=>first | omega | (rw[YB];omega)
    intro v' w5 o5 b5;have cQ:=ae o5;have aJ:=ae ((aN.o.alloc (YG bM cG) _).trans b5);clear o5 b5;go_wp2_with fail;go_roundw
    case rel=>exact⟨j+1,by omega,by go_num,by rw[jz.o];exact cQ.o,aJ.o⟩
    case measure=>simp[intOf];omega
  ·obtain rfl:j=l.length:=by omega
   rw[YK]at HO;have eO:¬ ((l.length:Nat):Int)<(l.length:Int):=(by omega);go_wp2_with fail;go_ret
   exact⟨⟨_,rfl,HO.o⟩,HB.o⟩
theorem dC(w:World)(x y z:Value)(t:Nat):(w.alloc (.cells #[x,y,z] t)).cell? ⟨w.heap.size,0,none⟩=some x/\(w.alloc (.cells #[x,y,z] t)).cell? ⟨w.heap.size,1,none⟩=some y/\(w.alloc (.cells #[x,y,z] t)).cell? ⟨w.heap.size,2,none⟩=some z:=by
 have h:=Zb w (.cells #[x,y,z] t);exact⟨by rw[an h];rfl,by rw[an h];rfl,by rw[an h];rfl⟩
theorem CR{w:World}{v:Value}{l:List (Nat×Int×List Nat)}(hs:Sc w v l)(hl:l.length<=600) :
  Calls Tryz.prog 38 #[v] w fun e w'=>(∃ v',e=.returned v'/\dB w' w.heap.size v' (l.map aQ))/\Below w.heap.size w w':=by
 have HS:=ae hs;obtain⟨a,cap,rfl,aV,bw⟩:=hs.form;have hcm':cap<=9223372036854775807:=by unfold maxLen at bw;omega
 clear hs bw;go_enter Tryz.func38,Tryz.ntmps38
 go_wp2_with fail;go_loopw [3,4] (fun o i wr=>∃ j:Nat,j<=l.length/\i=.int .i64 (j:Int)/\dB wr w.heap.size o ((l.take j).map aQ)/\Below w.heap.size w wr) (fun _ i _=>l.length-(intOf i).toNat)
 case atStart=>exact⟨0,by omega,rfl,dB.nil _ _,Yz _ _⟩
 case round =>
  obtain⟨j,hj,rfl,aw,ao⟩:=hrel;have HO:=ae aw;have HB:=ae ao;have bM:=ao.size;clear aw ao;by_cases ar:j<l.length
  ·obtain⟨g,off,rfl,hg,c0,c1,c2⟩:=(HS.o.kept HB.o).at ar
   have hlt':(j:Int)<(l.length:Int):=(by omega)
   have jz:jaH ((l.take (j+1)).map aQ=(l.take j).map aQ++[aQ l[j]]):=ae (by
    rw[YP ar,YX];rfl)
   have hlen':((l.take j).map aQ).length<=100000:=by rw[YD,YH];omega
   have Rf:=ae (LD l[j]);rw[fD]at c2;generalize aQ l[j]=fc at *;generalize ai l[j].2.2=S at *;generalize l[j].2.1=cn at *;generalize l[j].1=ck at *;generalize (l.take j).map aQ=LL at *;go_wp2_with fail;refine(Rf.o _).mono ?_;rintro e w1 ⟨rfl,aA⟩;have fK:=ae (HO.o.kept aA);have aN:=ae (HB.o.trans (aA.mono bM));have cG:=aA.size;have jI:=ae (dC w1 (.int .u8 (fc.1:Int)) (.int .i64 fc.2.1) (.string (ai fc.2.2)) 52);clear aA c0 c1 c2;go_wp2_with (first | (at_builtin;refine iv rfl _ _ rfl w.heap.size _ _ fc LL rfl (fK.o.kept (aj _ _)) rfl jI.o.1 jI.o.2.1 jI.o.2.2 hlen' ?c2 ?_))
   case c2=>first | omega | (rw[YB];omega)
   intro v' w5 o5 b5;have cQ:=ae o5;have aJ:=ae ((aN.o.alloc (YG bM cG) _).trans b5);clear o5 b5;go_wp2_with fail;go_roundw
   case rel=>exact⟨j+1,by omega,by go_num,by rw[jz.o];exact cQ.o,aJ.o⟩
   case measure=>simp[intOf];omega
  ·obtain rfl:j=l.length:=by omega
   rw[YK]at HO;have eO:¬ ((l.length:Nat):Int)<(l.length:Int):=(by omega);go_wp2_with fail;go_ret
   exact⟨⟨_,rfl,HO.o⟩,HB.o⟩
theorem kO{α : Type}{l m:List α}{j:Nat}(h1:j<l.length)(h2:j<m.length)(h:l.take j=m.take j)(he:l[j]=m[j]):l.take (j+1)=m.take (j+1):=by
 rw[YP h1,YP h2,h,he]
def val:List UInt8->Nat
 | []=>0
 | b::r=>b.toNat % 128+128*val r
theorem xM:val []=0:=rfl
theorem gY(b:UInt8)(r:List UInt8):val (b::r)=b.toNat % 128+128*val r:=rfl
theorem tu:∀ l,val l<128 ^ l.length
 | []=>by simp[val]
 | b::r=>by
  have:=tu r;rw[gY,YI,Nat.pow_succ];omega
theorem tv:∀ a b,val (a++b)=val a+128 ^ a.length*val b
 | [],b=>by simp[val]
 | x::a,b=>by
  rw[Zv,gY,tv a b,gY,YI,Nat.pow_succ,ZQ];have:128*(128 ^ a.length*val b)=128 ^ a.length*128*val b:=by rw[Zi (128 ^ a.length) 128,ZW]
  omega
theorem ef{l:List UInt8}{k:Nat}(h:k<l.length):val (l.take (k+1))=val (l.take k)+(l[k].toNat % 128)*128 ^ k:=by
 rw[YP h,tv,gY,xM,YH,ZG (by omega)];simp[Zi]
def aL:List UInt8->Nat
 | []=>0
 | b::r=>if 128<=b.toNat then aL r+1 else 0
theorem sY:∀ l,aL l<=l.length
 | []=>by simp[aL]
 | b::r=>by
  have:=sY r;unfold aL;split<;>simp<;>omega
theorem lG:∀(l:List UInt8) (k:Nat) (h:k<l.length),k<aL l->128<=l[k].toNat
 | [],k,h,_=>by simp at h
 | b::r,0,h,hk=>by
  unfold aL at hk;split at hk
  ·simpa
  ·omega
 | b::r,k+1,h,hk=>by
  unfold aL at hk;split at hk
  ·simpa using lG r k (by simpa using h) (by omega)
  ·omega
theorem gK:∀(l:List UInt8) (h:aL l<l.length),l[aL l].toNat<128
 | [],h=>by simp at h
 | b::r,h=>by
  by_cases hb:128<=b.toNat
  ·have e:aL (b::r)=aL r+1:=by rw[aL,Yy hb]
   have hr:aL r<r.length:=by rw[e]at h;simpa using h
   have:=gK r hr;simpa [e]using this
  ·have e:aL (b::r)=0:=by rw[aL,Yx hb]
   simpa [e]using hb
theorem FF{l:List UInt8}{k:Nat}(hk:k<=aL l)(h:k<l.length)(hs:l[k].toNat<128):aL l=k:=by
 rcases Zd k (aL l)with h1 | h1
 ·have:=lG l k h h1;omega
 ·omega
theorem GL{l:List UInt8}{k:Nat}(hk:k<=aL l)(h:k<l.length)(hs:128<=l[k].toNat):k+1<=aL l:=by
 rcases Zd k (aL l)with h1 | h1
 ·exact h1
 ·have e:aL l=k:=by omega
  have h2:=gK l (by omega);simp only[e]at h2;omega
def ey(l:List UInt8):Nat×Nat×Nat :=
 if 9<=aL l/\9<l.length/\1<(l.getD 9 0).toNat then (0,0,31)
 else if aL l=l.length then (0,0,30)
 else if (l.getD (aL l) 0).toNat=0/\0<aL l then (0,0,31)
 else (val (l.take (aL l+1)),aL l+1,0)
theorem jO{l:List UInt8}{k:Nat}(h:k<l.length):l.getD k 0=l[k]:=by
 rw[List.getD_eq_getElem?_getD,List.getElem?_eq_getElem h];rfl
theorem CT{l:List UInt8}(hk:9<=aL l)(h:9<l.length)(hs:1<l[9].toNat):ey l=(0,0,31):=by
 unfold ey;rw[Yy ⟨hk,h,by rwa[jO h]⟩]
theorem zB{l:List UInt8}{k:Nat}(hk:k<=aL l)(h9:k<=9)(h:¬ k<l.length):ey l=(0,0,30):=by
 have:=sY l;unfold ey;rw[Yx (fun h=>by omega),Yy (by omega)]
theorem wm{l:List UInt8}{k:Nat}(hk:k<=aL l)(h9:k<=9)(h:k<l.length)(hs:l[k].toNat<128)(ht:k=9->l[k].toNat<=1) :
  ey l=if l[k].toNat=0/\0<k then (0,0,31) else (val (l.take (k+1)),k+1,0):=by
 have e:=FF hk h hs;unfold ey;rw[e,Yx,Yx (by omega),jO h];rintro⟨h1,h2,h3⟩;obtain rfl:k=9:=by omega
 rw[jO h2]at h3;have:=ht rfl;omega
theorem LF{l:List UInt8}{k:Nat}(h9:k<=9)(h:k<l.length)(ht:k=9->l[k].toNat<=1):val (l.take (k+1))<18446744073709551616:=by
 rcases Zd k 9 with h1 | h1
 ·have h2:=tu (l.take (k+1))
  rw[YH,ZG (by omega)]at h2;have h3:128 ^ (k+1)<=128 ^ 9:=jag (by omega) (by omega);have h4:(128:Nat) ^ 9=9223372036854775808:=by decide
  omega
 ·obtain rfl:k=9:=by omega
  rw[ef h];have h2:=tu (l.take 9);rw[YH,ZG (by omega)]at h2;have h4:(128:Nat) ^ 9=9223372036854775808:=by decide
  rw[h4]at *;have:=ht rfl;omega
theorem CU:∀(n x:Nat),x<=n->val (uvarint x)=x/\aL (uvarint x)+1=(uvarint x).length
 | n,x,hn=>by
  by_cases h:x<128
  ·rw[uvarint_small h,gY,kM (by omega),xM,aL,kM (by omega),Yx (by omega)]
   simp;omega
  ·cases n with
   | zero=>omega
   | succ n =>
    obtain⟨h1,h2⟩:=CU n (x / 128) (by omega);rw[uvarint_big (by omega),gY,kM (by omega),aL,kM (by omega),Yy (by omega),h1,h2,YI];omega
theorem CV(x:Nat):val (uvarint x)=x:=(CU x x (YA _)).1
theorem xN(x:Nat):aL (uvarint x)+1=(uvarint x).length:=(CU x x (YA _)).2
theorem Ut:∀(l:List UInt8) (h:aL l+1=l.length),¬ (l[aL l].toNat=0/\0<aL l)->uvarint (val l)=l
 | [],h,_=>by simp at h
 | b::r,h,hc=>by
  have hb:=b.toNat_lt;by_cases hg:128<=b.toNat
  ·have e:aL (b::r)=aL r+1:=by rw[aL,Yy hg]
   have hr:aL r+1=r.length:=by rw[e]at h;simpa using h
   simp only[e,List.getElem_cons_succ]at hc;have hz:r[aL r].toNat≠0:=fun h1=>hc ⟨h1,by omega⟩
   have ih:=Ut r hr (fun h1=>hz h1.1)
   have hv:0<val r:=by
    rcases Zw (val r)with h0 | h0
    ·exfalso
     have h3:=ef (l:=r) (k:=aL r) (by omega);rw[Zo (by omega),h0]at h3;have h4:=gK r (by omega);have h5:r[aL r].toNat % 128=r[aL r].toNat:=(by omega);rw[h5]at h3;have h6:0<r[aL r].toNat*128 ^ aL r:=Nat.mul_pos (by omega) (Nat.pow_pos (by omega));omega
    ·exact h0
   rw[gY,uvarint_big (by omega)];have e1:(b.toNat % 128+128*val r) / 128=val r:=(by omega);have e2:(b.toNat % 128+128*val r) % 128+128=b.toNat:=(by omega);rw[e1,e2,ih];simp
  ·have e:aL (b::r)=0:=by rw[aL,Yx hg]
   rw[e]at h;have hr:r=[]:=by cases r with | nil=>rfl | cons _ _=>simp at h
   subst hr;rw[gY,xM,uvarint_small (by omega)];have:b.toNat % 128+128*0=b.toNat:=by omega
   rw[this];simp
theorem xO:∀(n x:Nat),x<=n->∀ h:aL (uvarint x)<(uvarint x).length,¬ ((uvarint x)[aL (uvarint x)].toNat=0/\0<aL (uvarint x))
 | n,x,hn,h=>by
  by_cases hx:x<128
  ·rintro⟨_,h2⟩
   rw[uvarint_small hx,aL,kM (by omega),Yx (by omega)]at h2;omega
  ·cases n with
   | zero=>omega
   | succ n =>
    have ih:=xO n (x / 128) (by omega);have e0:=uvarint_big (x:=x) (by omega);have e:aL (uvarint x)=aL (uvarint (x / 128))+1:=by rw[e0,aL,kM (by omega),Yy (by omega)]
    have hl:=xN (x / 128);rintro⟨h1,_⟩;have ih2:=ih (by omega)
    have h3:(uvarint (x / 128))[aL (uvarint (x / 128))].toNat=0:=by
     have h4:(uvarint x)[aL (uvarint x)]=(uvarint (x / 128))[aL (uvarint (x / 128))]:=by
      simp only[e];simp[e0]
     rw[← h4];exact h1
    rcases Zw (aL (uvarint (x / 128)))with h0 | h0
    ·have h5:=ef (l:=uvarint (x / 128)) (k:=0) (by omega)
     have h6:(uvarint (x / 128))[0].toNat=0:=by simpa [h0]using h3
     rw[h6,Zo (by omega),CV]at h5;simp[val]at h5
     omega
    ·exact ih2 ⟨h3,h0⟩
theorem LG{l:List UInt8}(h:aL l+1=l.length):uvarint (val l)=l↔¬ (l[aL l].toNat=0/\0<aL l):=by
 constructor
 ·intro e
  have:=xO (val l) (val l) (YA _) (by rw[e];omega);simp only[e]at this;exact this
 ·exact Ut l h
theorem rq:∀(a b:List UInt8),aL a<a.length->aL (a++b)=aL a
 | [],b,h=>by simp at h
 | x::a,b,h=>by
  rw[Zv];by_cases hx:128<=x.toNat
  ·rw[aL,Yy hx]at h ⊢
   rw[aL,Yy hx,rq a b (by simpa using h)]
  ·rw[aL,Yx hx,aL,Yx hx]
theorem wo:∀(l:List UInt8) (k:Nat),k<=aL l->aL (l.take k)=k
 | l,0,_=>by simp[aL]
 | [],k+1,h=>by simp[aL]at h
 | b::r,k+1,h=>by
  unfold aL at h;split at h
  ·rename_i hb
   rw[jax,aL,Yy hb,wo r k (by omega)]
  ·omega
theorem RM(n:Nat)(hn:n<18446744073709551616)(r:List UInt8):ey (uvarint n++r)=(n,(uvarint n).length,0):=by
 have h1:=xN n;have sO:=uvarint_length64 hn;have hl:=rq (uvarint n) r (by omega);have hk:aL (uvarint n)<(uvarint n++r).length:=by simp;omega
 have Wy:(uvarint n++r)[aL (uvarint n)]=(uvarint n)[aL (uvarint n)]:=jaD (by omega);have Rg:=gK (uvarint n) (by omega);have Qa:(uvarint n++r).take (aL (uvarint n)+1)=uvarint n:=by rw[h1];simp
 have ht:aL (uvarint n)=9->(uvarint n++r)[aL (uvarint n)].toNat<=1:=by
  intro h9;rw[Wy];have h5:=ef (l:=uvarint n) (k:=aL (uvarint n)) (by omega);rw[h1,YK,CV]at h5;have h4:(128:Nat) ^ aL (uvarint n)=9223372036854775808:=by rw[h9]
  rw[h4]at h5;omega
 rw[wm (k:=aL (uvarint n)) (by omega) (by omega) hk (by rw[Wy];exact Rg) ht,Qa,CV,Yx,h1];rw[Wy];exact xO n n (YA _) (by omega)
theorem RN(n:Nat)(hn:n<18446744073709551616)(k:Nat)(hk:k<(uvarint n).length):ey ((uvarint n).take k)=(0,0,30):=by
 have h1:=xN n;have sO:=uvarint_length64 hn;have hl:=wo (uvarint n) k (by omega);exact zB (k:=k) (by omega) (by omega) (by simp;omega)
theorem tw:∀ a:Fin 256,bits .andNot .u8 (a.val:Int) 128=((a.val % 128:Nat):Int):=by decide +kernel
theorem GM(c:UInt8):bits .andNot .u8 (c.toNat:Int) 128=((c.toNat % 128:Nat):Int):=tw ⟨c.toNat,c.toNat_lt⟩
theorem Vr(k:Nat):(2:Nat) ^ (7*k)=128 ^ k:=by rw[Nat.pow_mul]
theorem LH{n c k:Nat}(hk:k<=9)(hn:n<128 ^ k)(h:c*128 ^ k<18446744073709551616) :
  bits .or .u64 (n:Int) ((c*128 ^ k:Nat):Int)=((n+c*128 ^ k:Nat):Int):=by
 have h9:128 ^ k<=128 ^ 9:=jag (by omega) hk;have h4:(128:Nat) ^ 9=9223372036854775808:=by decide
 have e:bits .or .u64 (n:Int) ((c*128 ^ k:Nat):Int)=(n:Int)+((c*128 ^ k:Nat):Int):=by
  apply bits_join_low .u64 64 (by decide) wraps_u64 (7*k)
  ·omega
  ·have:(n:Int)<((2 ^ (7*k):Nat):Int):=by rw[Vr];omega
   simpa using this
  ·omega
  ·omega
  ·have:(((c*128 ^ k:Nat):Int) % ((2 ^ (7*k):Nat):Int))=0:=by rw[Vr,← Int.natCast_emod];simp
   simpa using this
  ·omega
 rw[e];omega
def uv(n:Nat):List Nat:=(uvarint n).map UInt8.toNat
def gt(l:List Nat):Nat×Nat×Nat:=ey (l.map Nat.toUInt8)
theorem zC(l:List UInt8):(l.map UInt8.toNat).map Nat.toUInt8=l:=by
 rw[Zk];conv=>rhs;rw[← ZE l]
 apply ZK
 intro a _;simp
theorem fM{n:Nat}:∀ x∈uv n,x<256:=by
 intro x hx;obtain⟨a,_,rfl⟩:=YS.1 hx;exact a.toNat_lt
theorem nB(n:Nat):(uv n).length=(uvarint n).length:=YD _
theorem tz(n:Nat):0<(uv n).length:=by rw[nB];exact uvarint_pos n
theorem cC{n:Nat}(h:n<18446744073709551616):(uv n).length<=10:=by rw[nB];exact uvarint_length64 h
theorem kP(n:Nat)(hn:n<18446744073709551616)(r:List Nat):gt (uv n++r)=(n,(uv n).length,0):=by
 unfold gt uv;rw[YX,zC,RM n hn,YD]
theorem LJ(n:Nat)(hn:n<18446744073709551616)(k:Nat)(hk:k<(uv n).length):gt ((uv n).take k)=(0,0,30):=by
 unfold gt uv;rw[jah,zC,RN n hn k (by rwa[nB]at hk)]
theorem LK{n:Nat}(h:n<128):uv n=[n]:=by
 unfold uv;rw[uvarint_small h];simp[kM (show n<256 by omega)]
theorem RO{l:List UInt8}{n u:Nat}(h:ey l=(n,u,0)):n<18446744073709551616/\l.take u=uvarint n/\u<=l.length:=by
 have ob:=sY l;unfold ey at h;split at h
 ·simp at h
 ·next h1 =>
  split at h
  ·simp at h
  ·next h2 =>
   split at h
   ·simp at h
   ·next h3 =>
    have hl:aL l<l.length:=(by omega);simp only[Prod.mk.injEq,and_true]at h;obtain⟨rfl,rfl⟩:=h;rw[jO hl]at h3
    have ar:aL l<=9:=by
     rcases Zd 9 (aL l)with h9 | h9
     ·exfalso
      apply h1
      have:=lG l 9 (by omega) h9;exact⟨by omega,by omega,by rw[jO (by omega)];omega⟩
     ·exact h9
    have ht:aL l=9->l[aL l].toNat<=1:=by
     intro e;rcases Zd 1 l[aL l].toNat with h9 | h9
     ·exfalso
      apply h1
      have sO:9<l.length:=(by omega);have e2:l[9]=l[aL l]:=by simp only[e]
      exact⟨by omega,sO,by rw[jO sO,e2];exact h9⟩
     ·exact h9
    refine⟨LF ar hl ht,?_,by omega⟩;have bg:(l.take (aL l+1)).length=aL l+1:=by rw[YH];omega
    have hld:aL (l.take (aL l+1))=aL l:=by
     have Rg:=gK l hl;refine FF (l:=l.take (aL l+1)) ?_ (by omega) (by simpa using Rg);rcases Zd (aL (l.take (aL l+1))) (aL l)with hh | hh
     ·exfalso
      have cP:=gK (l.take (aL l+1)) (by omega);have hb:=lG l _ (by omega) hh;simp at cP
      omega
     ·exact hh
    refine((LG (l:=l.take (aL l+1)) (by omega)).2 ?_).symm;simp only[hld];rintro⟨h4,h5⟩;exact h3 ⟨by simpa using h4,h5⟩
theorem LM{l:List Nat}{n u:Nat}(hl:∀ x∈l,x<256)(h:gt l=(n,u,0)):n<18446744073709551616/\l=uv n++l.drop u/\u=(uv n).length:=by
 obtain⟨h1,h2,h3⟩:=RO h
 have e:l.take u=uv n:=by
  unfold uv;rw[← h2,← jah,jL (fun x hx=>hl x (ZA hx))]
 refine⟨h1,?_,?_⟩
 ·rw[← e,ZZ]
 ·rw[← e,YH]
  rw[YD]at h3;omega
def ap{α β : Type}(d:List Nat->Except Nat (α×List Nat))(f:α->List Nat->Except Nat (β×List Nat))(b:List Nat):Except Nat (β×List Nat) :=
 match d b with
 | .ok (x,r)=>f x r
 | .error e=>.error e
theorem ct{α β : Type}{d:List Nat->Except Nat (α×List Nat)}{f:α->List Nat->Except Nat (β×List Nat)}{b r:List Nat}{x:α}(h:d b=.ok (x,r)):ap d f b=f x r:=by
 unfold ap;rw[h]
theorem bQ{α β : Type}{d:List Nat->Except Nat (α×List Nat)}{f:α->List Nat->Except Nat (β×List Nat)}{b:List Nat}{e:Nat}(h:d b=.error e):ap d f b=.error e:=by
 unfold ap;rw[h]
def dj{α : Type}(d:List Nat->Except Nat (α×List Nat))(e:List Nat)(x:α):Prop :=
 (∀ r,d (e++r)=.ok (x,r))/\∀ k,k<e.length->d (e.take k)=.error 30
def oF{α : Type}(d:List Nat->Except Nat (α×List Nat))(e:List Nat)(x:α):Prop :=
 d e=.ok (x,[])/\(∀ y r,d (e++y::r)=.error 32∨d (e++y::r)=.ok (x,y::r))/\∀ k,k<e.length->d (e.take k)=.error 30
theorem dj.ends{α : Type}{d:List Nat->Except Nat (α×List Nat)}{e:List Nat}{x:α}(h:dj d e x):oF d e x :=
 ⟨by have:=h.1 [];rwa[YZ]at this,fun y r=>Or.inr (h.1 _),h.2⟩
theorem dj.pure{α : Type}(x:α):dj (fun b=>.ok (x,b)) [] x:=⟨fun r=>rfl,fun k h=>by simp at h⟩
theorem dj.bind{α β : Type}{d:List Nat->Except Nat (α×List Nat)}{f:α->List Nat->Except Nat (β×List Nat)}{e e':List Nat}{x:α}{y:β}(h1:dj d e x)(h2:dj (f x) e' y) :
  dj (ap d f) (e++e') y:=by
 refine⟨fun r=>?_,fun k hk=>?_⟩
 ·rw[YR,ct (h1.1 _)]
  exact h2.1 r
 ·rw[List.take_append]
  rcases Zd k e.length with h | h
  ·rw[show k-e.length=0 by omega,List.take_zero,YZ]
   exact bQ (h1.2 k h)
  ·rw[Zo h,ct (h1.1 _)]
   exact h2.2 _ (by rw[YC]at hk;omega)
theorem dj.then{α β : Type}{d:List Nat->Except Nat (α×List Nat)}{f:α->List Nat->Except Nat (β×List Nat)}{e e':List Nat}{x:α}{y:β}(h1:dj d e x)(h2:oF (f x) e' y) :
  oF (ap d f) (e++e') y:=by
 refine⟨?_,fun z r=>?_,fun k hk=>?_⟩
 ·rw[ct (h1.1 _)]
  exact h2.1
 ·rw[YR,ct (h1.1 _)]
  exact h2.2.1 z r
 ·rw[List.take_append]
  rcases Zd k e.length with h | h
  ·rw[show k-e.length=0 by omega,List.take_zero,YZ]
   exact bQ (h1.2 k h)
  ·rw[Zo h,ct (h1.1 _)]
   exact h2.2.2 _ (by rw[YC]at hk;omega)
theorem dj.map{α β : Type}{d:List Nat->Except Nat (α×List Nat)}{e:List Nat}{x:α}(g:α->β)(h:dj d e x):dj (ap d fun a r=>.ok (g a,r)) e (g x):=by
 have:=h.bind (f:=fun a r=>.ok (g a,r)) (e':=[]) (y:=g x) (dj.pure (g x));rwa[YZ]at this
theorem oF.map{α β : Type}{d:List Nat->Except Nat (α×List Nat)}{e:List Nat}{x:α}(g:α->β)(h:oF d e x):oF (ap d fun a r=>.ok (g a,r)) e (g x):=by
 refine⟨by rw[ct h.1],fun y r=>?_,fun k hk=>bQ (h.2.2 k hk)⟩;rcases h.2.1 y r with h1 | h1
 ·exact Or.inl (bQ h1)
 ·exact Or.inr (by rw[ct h1])
def num(b:List Nat):Except Nat (Nat×List Nat):=if (gt b).2.2=0 then .ok ((gt b).1,b.drop (gt b).2.1) else .error (gt b).2.2
theorem kt{n:Nat}(hn:n<18446744073709551616):dj num (uv n) n:=by
 refine⟨fun r=>?_,fun k hk=>?_⟩
 ·unfold num
  rw[kP n hn r,Yy rfl,Zn]
 ·unfold num
  rw[LJ n hn k hk,Yx (by simp)]
def eC(u:Nat):Int:=if u % 2=0 then ((u / 2:Nat):Int) else -((u / 2:Nat):Int)-1
theorem GN(z:Int):eC (zigzag z)=z:=by
 unfold eC zigzag;split<;>split<;>omega
theorem GO(u:Nat):zigzag (eC u)=u:=by
 unfold eC zigzag;split<;>split<;>omega
theorem iQ{u:Nat}(h:u<18446744073709551616):I64 (eC u):=by
 unfold eC I64;split<;>omega
def wv(x:Int):List Nat:=uv (zigzag x)
def wh(b:List Nat):Except Nat (Int×List Nat):=if (gt b).2.2=0 then .ok (eC (gt b).1,b.drop (gt b).2.1) else .error (gt b).2.2
theorem ku{x:Int}(hx:I64 x):dj wh (wv x) x:=by
 have hn:=zigzag_lt hx.1 hx.2;refine⟨fun r=>?_,fun k hk=>?_⟩
 ·unfold wh wv
  rw[kP _ hn r,Yy rfl,Zn,GN]
 ·unfold wh
  rw[wv,LJ _ hn k hk,Yx (by simp)]
theorem Vs{b r:List Nat}{n:Nat}(hb:∀ x∈b,x<256)(h:num b=.ok (n,r)):n<18446744073709551616/\b=uv n++r:=by
 unfold num at h;split at h
 ·next h0 =>
  simp only[Except.ok.injEq,Prod.mk.injEq]at h;obtain⟨h1,h2⟩:=h;obtain⟨g1,g2,_⟩:=LM (n:=(gt b).1) (u:=(gt b).2.1) hb (by rw[← h0]);rw[h1]at g1 g2;exact⟨g1,by rw[← h2];exact g2⟩
 ·simp at h
theorem wh_ok{b r:List Nat}{x:Int}(hb:∀ x∈b,x<256)(h:wh b=.ok (x,r)):I64 x/\b=wv x++r:=by
 unfold wh at h;split at h
 ·next h0 =>
  simp only[Except.ok.injEq,Prod.mk.injEq]at h;obtain⟨rfl,h2⟩:=h;obtain⟨g1,g2,_⟩:=LM (n:=(gt b).1) (u:=(gt b).2.1) hb (by rw[← h0]);refine⟨iQ g1,?_⟩;unfold wv;rw[GO,← h2];exact g2
 ·simp at h
theorem ws{x:Int}:∀ y∈wv x,y<256:=fM
theorem gL{x:Int}(h:I64 x):(wv x).length<=10:=cC (zigzag_lt h.1 h.2)
open Go
def gZ(f:Fd):List Nat:=uv f.1++uv f.2.1.size++dX f.2.1++uv f.2.2.1++uv (gX f.2.2.2)
def iB(l:List Fd):List Nat:=l.flatMap gZ
def ep(id:Nat)(l:List Fd):List Nat:=uv id++uv l.length++iB l
theorem nC{l:List Fd}{i:Nat}(h:i<l.length):iB (l.take (i+1))=iB (l.take i)++gZ l[i]:=by
 unfold iB;rw[YP h,ZS];simp
theorem wt{f:Fd}(h:Okf f)(hs:f.2.1.size<18446744073709551616):(gZ f).length<=40+f.2.1.size:=by
 unfold gZ;have h1:=cC (n:=f.1) (by have:=h.1;omega);have h2:=cC (n:=f.2.1.size) hs;have h3:=cC (n:=f.2.2.1) (by have:=h.2;omega);have h4:=cC (n:=gX f.2.2.2) (by unfold gX;split<;>omega);simp only[YC,ko];omega
theorem GP{l:List Fd}(h:∀ f∈l,Okf f)(hs:szs l<5000):(iB l).length<=40*l.length+szs l:=by
 induction l with
 | nil=>simp[iB]
 | cons f t ih =>
  have hz:szs (f::t)=f.2.1.size+szs t:=by simp[szs]
  have:=ih (fun g hg=>h g (by simp[hg])) (by omega);have h2:=wt (h f (by simp)) (by omega);unfold iB at *;rw[jaa,YC,YI,hz];omega
def fY(room:Nat)(b:List Nat):Except Nat (Nat×List Nat) :=
 if (gt b).2.2≠0 then .error (gt b).2.2 else if room<(gt b).1 then .error 40 else .ok ((gt b).1,b.drop (gt b).2.1)
def LN(room:Nat):List Nat->Except Nat (ByteArray×List Nat):=ap (fY room) textR
def su:List Nat->Except Nat (Fd×List Nat) :=
 ap (fY 4294967295) fun i=>ap (LN 16) fun s=>ap (fY 255) fun k=>ap (fY 1) fun n r=>.ok ((i,s,k,decide (n=1)),r)
def jP:Nat->List Nat->Except Nat (List Fd×List Nat)
 | 0=>fun b=>.ok ([],b)
 | n+1=>ap (jP n) fun l=>ap su fun f r=>.ok (l++[f],r)
def zD:List Nat->Except Nat ((Nat×List Fd)×List Nat) :=
 ap (fY 4294967295) fun i=>ap (fY 8) fun n=>ap (jP n) fun l r=>.ok ((i,l),r)
def cw(b:List Nat):Except Nat ((Nat×List Fd)×List Nat) :=
 ap zD (fun s r=>if chk s.1 s.2=0 then .ok (s,r) else .error (chk s.1 s.2)) b
theorem Rds.bind{α β : Type}{m:List Nat->Except Nat (α×List Nat)}{k:α->List Nat->Except Nat (β×List Nat)}{l l1 l2:List Nat}{f f1 f2:Nat}{x:α}{y:β}
  (h1:Rds m l f x l1 f1) (h2:Rds (k x) l1 f1 y l2 f2):Rds (ap m k) l f y l2 f2:=by
 refine⟨fun h0=>?_,fun h0=>?_⟩
 ·have e1:=h1.1 h0
  by_cases hf:f1=0
  ·rw[Yy hf]at e1
   rw[ct e1];exact h2.1 hf
  ·rw[Yx hf]at e1
   rw[bQ e1,h2.2 hf,Yx hf]
 ·have e1:=h1.2 h0
  rw[h2.2 (by omega),e1]
theorem xP{room:Nat}{l:List Nat}{f:Nat}:Rds (fY room) l f (if (gt l).2.2≠0∨room<(gt l).1 then 0 else (gt l).1) (if (gt l).2.2≠0∨room<(gt l).1 then l else l.drop (gt l).2.1)
  (if f=0 then (if (gt l).2.2≠0 then (gt l).2.2 else if room<(gt l).1 then 40 else 0) else f):=by
 refine⟨fun h0=>?_,fun h0=>Yx h0⟩;rw[Yy h0];unfold fY;by_cases h1:(gt l).2.2≠0
 ·rw[Yy h1,Yy h1,Yx h1]
 ·rw[Yx h1,Yx h1]
  by_cases h2:room<(gt l).1
  ·rw[Yy h2,Yy h2,Yx (by omega)]
  ·rw[Yx h2,Yx h2,Yy rfl,Yx (by omega),Yx (by omega)]
theorem xG.bind{α β : Type}{m:List Nat->Except Nat (α×List Nat)}{k:α->List Nat->Except Nat (β×List Nat)}{e e':List Nat}{x:α}{y:β}(h1:xG m e x)(h2:xG (k x) e' y):xG (ap m k) (e++e') y:=by
 intro r;rw[YR];rcases h1 (e'++r)with h | ⟨c,hc,h⟩
 ·rw[ct h];exact h2 r
 ·rw[bQ h];exact Or.inr ⟨c,hc,rfl⟩
theorem sp.bind{α β : Type}{m:List Nat->Except Nat (α×List Nat)}{k:α->List Nat->Except Nat (β×List Nat)}{e e':List Nat}{x:α}{y:β}(h1:sp m e x)(h2:sp (k x) e' y):sp (ap m k) (e++e') y:=by
 intro r;rw[YR,ct (h1 (e'++r))];exact h2 r
theorem jd{room n:Nat}(hn:n<18446744073709551616)(hr:n<=room):sp (fY room) (uv n) n:=by
 intro r;unfold fY;rw[kP n hn r];simp only;rw[Yx (by omega),Yx (by omega),Zn]
theorem kw{room n:Nat}(hn:n<18446744073709551616):xG (fY room) (uv n) n:=by
 intro r;by_cases hr:n<=room
 ·exact Or.inl (jd hn hr r)
 ·right
  refine⟨40,by omega,?_⟩;unfold fY;rw[kP n hn r];simp only;rw[Yx (by omega),Yy (by omega)]
theorem LO{f:Fd}(h:Okf f)(hs:f.2.1.size<18446744073709551616):xG su (gZ f) f:=by
 obtain⟨i,s,k,n⟩:=f;have h1:=h.1;have h2:=h.2;simp only at h1 h2 hs;have e:gZ (i,s,k,n)=uv i++((uv s.size++dX s)++(uv k++(uv (gX n)++[]))):=by simp[gZ]
 rw[e];refine(kw (by omega)).bind (((kw hs).bind (tk s).eith).bind ((kw (by omega)).bind ((kw (by unfold gX;split<;>omega)).bind ?_)));intro r;left
 rw[zw];rfl
theorem LP{f:Fd}(h:Okf f)(hs:f.2.1.size<=16):sp su (gZ f) f:=by
 obtain⟨i,s,k,n⟩:=f;have h1:=h.1;have h2:=h.2;simp only at h1 h2 hs;have e:gZ (i,s,k,n)=uv i++((uv s.size++dX s)++(uv k++(uv (gX n)++[]))):=by simp[gZ]
 rw[e];have ja:gX n<=1:=by unfold gX;split<;>omega
 refine(jd (by omega) (by omega)).bind (((jd (by omega) hs).bind (tk s)).bind ((jd (by omega) (by omega)).bind ((jd (by omega) ja).bind ?_)));intro r;rw[zw];rfl
theorem GQ{l:List Fd}(h:∀ f∈l,Okf f/\f.2.1.size<18446744073709551616):∀ n,n<=l.length->xG (jP n) (iB (l.take n)) (l.take n):=by
 intro n;induction n with
 | zero=>intro _;exact(wg _).eith
 | succ n ih =>
  intro hn;have hf:=h l[n] (YF (by omega));rw[nC (by omega),YP (by omega),← YZ (gZ l[n])];exact(ih (by omega)).bind ((LO hf.1 hf.2).bind (fun r=>Or.inl rfl))
theorem GR{l:List Fd}(h:∀ f∈l,Okf f/\f.2.1.size<=16):∀ n,n<=l.length->sp (jP n) (iB (l.take n)) (l.take n):=by
 intro n;induction n with
 | zero=>intro _;exact wg _
 | succ n ih =>
  intro hn;have hf:=h l[n] (YF (by omega));rw[nC (by omega),YP (by omega),← YZ (gZ l[n])];exact(ih (by omega)).bind ((LP hf.1 hf.2).bind (fun r=>rfl))
theorem zE{id:Nat}{l:List Fd}(nl:id<4294967296)(ho:∀ f∈l,Okf f)(hs:szs l<5000)(hl:l.length<=100)(r:List Nat) :
  if chk id l=0 then cw (ep id l++r)=.ok ((id,l),r) else ∃ c,c≠0/\cw (ep id l++r)=.error c:=by
 have e:ep id l=uv id++(uv l.length++(iB l++[])):=by simp[ep]
 by_cases h:chk id l=0
 ·rw[Yy h]
  have hr:=ow h
  have kJ:fe [] l=0:=by
   unfold chk at h;rwa[Yx (by omega)]at h
  have hn:=oy kJ;have hjf:=GR (fun f hf=>⟨ho f hf,hn f hf⟩) l.length (YA _);rw[YK]at hjf
  have hj:sp zD (ep id l) (id,l):=by
   rw[e];exact(jd (by omega) (by omega)).bind ((jd (by omega) (by omega)).bind ((hjf).bind (fun r=>rfl)))
  unfold cw;rw[ct (hj r)];simp only;rw[Yy h]
 ·rw[Yx h]
  have hjf:=GQ (l:=l) (fun f hf=>⟨ho f hf,by have:=FD hf;omega⟩) l.length (YA _);rw[YK]at hjf
  have hj:xG zD (ep id l) (id,l):=by
   rw[e];exact(kw (by omega)).bind ((kw (by omega)).bind ((hjf).bind (fun r=>Or.inl rfl)))
  unfold cw;rcases hj r with h2 | ⟨c,hc,h2⟩
  ·rw[ct h2]
   simp only;rw[Yx h];exact⟨_,h,rfl⟩
  ·rw[bQ h2]
   exact⟨c,hc,rfl⟩
theorem qk:(Tryz.prog.info? 92).map (fun i=>(i.zero,i.size,i.bytes))=some (some (.int .u64 0),1,8):=by kernel_rfl
theorem Vt{acc:List UInt8}{k n:Nat}(h:acc++uvarint k=uvarint n)(hn:n<18446744073709551616):acc.length+1<=10:=by
 have h1:=uvarint_length64 hn;have h2:=uvarint_pos k;have h3:=YE List.length h;rw[YC]at h3;omega
theorem zF(n:Nat)(hn:n<18446744073709551616)(w:World) :
  Calls Tryz.prog 119 #[.int .u64 (n:Int)] w fun e w'=>(∃ v,e=.returned v/\w'.ownsRow w.heap.size 5 1 v (uvarint n).length (aU (uvarint n)))/\Below w.heap.size w w':=by
 obtain⟨i0,hi,bN,hz1',bh⟩:=YW lF;have HN:=ae hn;clear hn;go_enter Tryz.func119,Tryz.ntmps119
 go_wp2_with fail;go_loopw [0,3] (fun m b wr=>∃(k:Nat) (acc:List UInt8),m=.int .u64 (k:Int)/\k<18446744073709551616/\acc++uvarint k=uvarint n/\wr.ownsRow w.heap.size 5 1 b acc.length (aU acc)/\Below w.heap.size w wr) (fun m _ _=>(intOf m).toNat)
 case atStart=>exact⟨n,[],rfl,HN.o,rfl,Zx _ _ _ _,Yz _ _⟩
 case round =>
  obtain⟨k,acc,rfl,hk,Fg,aw,ao⟩:=hrel;have bg:=Vt Fg HN.o;have HA:=ae Fg;have HO:=ae aw;have HB:=ae ao;have bM:=ao.size;clear Fg aw ao;by_cases h:(k:Int)>=128
  ·have hor:=u8_or128_any ((k:Int) % 256) (by omega) (by omega)
   go_wp2_with (first | (at_builtin;refine ZI _ rfl _ _ 30 rfl w.heap.size 5 i0 (.int .u8 0) 1 1 Tryz.underlying30 hi bN hz1' bh rfl (by decide) _ _ _ rfl (HO.o.alloc _) ⟨wr.heap.size,0,none⟩ 1 1 [.int .u8 ((k:Int) % 128+128)] rfl rfl ?c1 ?c2 ?c3 ?c4 ?c5 ?_))
   case c1=>exact cell_one_new _ _ _
   case c2=>first | rfl | (intro u hu;simp at hu;subst hu;rfl)
   case c3=>unfold maxLen;omega
   case c4=>omega
   case c5=>first | omega | (simp;omega)
   intro v1 w2 o1 g1 _ e1;have fK:=ae o1;have aN:=ae ((HB.o.alloc (by omega) _).grown g1 (by simp;omega) (fun k hk=>(HO.o.lt k hk).1));clear o1 g1 e1;go_wp2_with fail;go_roundw
   case rel =>
    refine⟨k / 128,acc++[(k % 128+128).toUInt8],by go_num,by omega,?_,?_,aN.o⟩
    ·rw[← HA.o,uvarint_big (x:=k) (by omega)];simp
    ·rw[lq,YC]
     rw[oB (by omega)];exact fK.o
   case measure=>simp[intOf];omega
  ·have Rg:uvarint k=[k.toUInt8]:=uvarint_small (by omega)
   have HS:=ae Rg;clear Rg;go_wp2_with (first | (at_builtin;refine ZI _ rfl _ _ 30 rfl w.heap.size 5 i0 (.int .u8 0) 1 1 Tryz.underlying30 hi bN hz1' bh rfl (by decide) _ _ _ rfl (HO.o.alloc _) ⟨wr.heap.size,0,none⟩ 1 1 [.int .u8 (k:Int)] rfl rfl ?c1 ?c2 ?c3 ?c4 ?c5 ?_))
   case c2=>first | rfl | (intro u hu;simp at hu;subst hu;rfl)
   case c3=>unfold maxLen;omega
   case c4=>omega
   case c5=>first | omega | (simp;omega)
   intro v1 w2 o1 g1 _ e1;have fK:=ae o1;have aN:=ae ((HB.o.alloc (by omega) _).grown g1 (by simp;omega) (fun k hk=>(HO.o.lt k hk).1));clear o1 g1 e1;go_wp2_with fail;go_ret
   refine⟨⟨_,rfl,?_⟩,aN.o⟩;have h1:=fK.o;rw[← HA.o,HS.o,lq,YC];rw[oB (by omega)];exact h1
def jG(k:IntKind)(x:Int)(u e:Nat):Ending:=.returned (.tuple #[.int k x,.int .i64 (u:Int),.int .i64 (e:Int)])
theorem GS(n used:Nat)(c:UInt8)(hu:used<=10)(w:World) :
  Calls Tryz.prog 213 #[.int .u64 (n:Int),.int .i64 (used:Int),.int .u8 (c.toNat:Int)] w fun e w' =>
   e=(if c.toNat=0/\1<used then jG .u64 0 0 31 else jG .u64 (n:Int) used 0)/\w'=w:=by
 by_cases h1:((c.toNat:Int)==0)=true
 ·have h1':c.toNat=0:=by simpa using h1
  by_cases h2:(used:Int) > 1
  ·rw[Yy ⟨h1',by omega⟩]
   clear h1';go_enter Tryz.func213,Tryz.ntmps213
   go_wp2_with fail;go_ret3
   exact⟨rfl,rfl⟩
  ·rw[Yx (fun h=>by omega)]
   clear h1';go_enter Tryz.func213,Tryz.ntmps213
   go_wp2_with fail;go_ret3
   exact⟨rfl,rfl⟩
 ·have h1':((c.toNat:Int)==0)=false:=by simpa using h1
  rw[Yx (fun h=>h1 (by simpa using h.1))];clear h1;go_enter Tryz.func213,Tryz.ntmps213
  go_wp2_with fail;go_ret3
  exact⟨rfl,rfl⟩
theorem GT(a:Option Addr)(cap:Nat)(w:World):Calls Tryz.prog 180 #[.slice a 0 cap] w fun e w'=>e=jG .u64 0 0 30/\w'=w:=by
 go_enter Tryz.func180,Tryz.ntmps180
 go_wp2_with fail;refine wp_loop_rounds 1 ?_;rw[rounds_succ];go_wp2_with fail;go_ret3
 exact⟨rfl,rfl⟩
theorem Vu{c k:Nat}:((c:Nat):Int)*2 ^ (7*k)=((c*128 ^ k:Nat):Int):=by
 rw[← Vr];simp
theorem RQ{l:List UInt8}{k:Nat}(h:k<l.length)(h9:k<=9)(ol:val (l.take (k+1))<18446744073709551616) :
  bits .or .u64 (val (l.take k):Int) (IntKind.u64.wrap ((l[k].toNat:Int) % 128*2 ^ (7*k)))=(val (l.take (k+1)):Int):=by
 have hv:=ef h;have hl:=tu (l.take k);rw[YH,ZG (by omega)]at hl
 have e:(l[k].toNat:Int) % 128*2 ^ (7*k)=((l[k].toNat % 128*128 ^ k:Nat):Int):=by
  rw[← Vu];simp
 rw[e,wraps_u64 _ (by omega) (by omega),LH h9 hl (by omega),hv]
theorem RS{k:Nat}{n:Int}{c:UInt8}(hu:k+1<=10)(w:World){P:Ending->World->Prop}(h:Calls Tryz.prog 213 #[.int .u64 n,.int .i64 ((k+1:Nat):Int),.int .u8 (c.toNat:Int)] w P) :
  Calls Tryz.prog 213 #[.int .u64 n,.int .i64 ((k:Int)+1),.int .u8 (c.toNat:Int)] w P:=by
 have e:((k+1:Nat):Int)=(k:Int)+1:=by omega
 rwa[e]at h
theorem LQ(b off cap:Nat)(l:List UInt8)(w:World)(Wz:l.length<=maxLen)(aV:l.length<=cap)
  (hc:∀ j (h:j<l.length),w.cell? ⟨b,off+j,none⟩=some (.int .u8 (l[j].toNat:Int))) :
  Calls Tryz.prog 180 #[.slice (some ⟨b,off,none⟩) l.length cap] w fun e w'=>e=jG .u64 ((ey l).1:Int) (ey l).2.1 (ey l).2.2/\w'=w:=by
 have hm:l.length<=9223372036854775807:=by unfold maxLen at Wz;omega
 have HC:=ae hc;clear hc Wz;go_enter Tryz.func180,Tryz.ntmps180
 go_wp2_with fail;go_loopw [5,10] (fun n i w'=>w'=w/\∃ k:Nat,k<=9/\k<=l.length/\k<=aL l/\i=.int .i64 (k:Int)/\n=.int .u64 (val (l.take k):Int)) (fun _ i _=>l.length-(intOf i).toNat)
 case atStart=>exact⟨rfl,0,by omega,by omega,by omega,rfl,rfl⟩
 case round =>
  obtain⟨rfl,k,h9,hk,xu,rfl,rfl⟩:=hrel;by_cases ar:k<l.length
  ·have ek:=HC.o k ar
   have hval:=ef ar;have Qb:=tu (l.take k);rw[YH,ZG (by omega)]at Qb;have HT:=ae (fun(e:k=9) (h:1<l[k].toNat)=>CT (l:=l) (by omega) (by omega) (by subst e;exact h));have HL:=ae (fun h1 h2=>wm (l:=l) xu h9 ar h1 h2);have HN:=ae (GL xu ar);have ol:=fun h=>RQ (l:=l) ar h9 (LF (l:=l) h9 ar h)
   have fT:=l[k].toNat_lt;have han:=GM l[k];have uT:=ae xu;have kj:=ae (fun w=>RS (k:=k) (by omega) w (GS (val (l.take (k+1))) (k+1) l[k] (by omega) w));clear xu;generalize l[k]=c at *;by_cases hk9:((k:Int)==9)=true
   ·have hk9':k=9:=by have:(k:Int)=9:=(by simpa using hk9);omega
    by_cases jy:(c.toNat:Int) > 1
    ·have HE:=ae (HT.o hk9' (by omega))
     clear HT HL HN ol hval Qb han hk9';go_wp2_with fail;go_ret3
     rw[HE.o];exact⟨rfl,rfl⟩
    ·have HJ:=ae (ol (fun _=>by omega))
     have HF:=ae (HL.o (by omega) (fun _=>by omega));clear HT HL HN ol hval Qb hk9';go_wp2_with fail;rw[HJ.o];refine(kj.o _).mono ?_;rintro e w1 ⟨rfl,rfl⟩
     have eT:jaH ((if c.toNat=0/\1<k+1 then jG .u64 0 0 31 else jG .u64 (val (l.take (k+1)):Int) (k+1) 0)=jG .u64 ((ey l).1:Int) (ey l).2.1 (ey l).2.2):=by
      show _=_
      rw[HF.o];by_cases h:c.toNat=0/\0<k
      ·rw[Yy h,Yy ⟨h.1,by omega⟩];rfl
      ·rw[Yx h,Yx (fun h1=>h ⟨h1.1,by omega⟩)]
     rw[eT.o];unfold jG;go_wp2_with fail;go_ret3
     exact⟨rfl,rfl⟩
   ·have hk9':((k:Int)==9)=false:=by simpa using hk9
    have hk8:k<=8:=by have:¬ (k:Int)=9:=(by simpa using hk9);omega
    have HJ:=ae (ol (fun _=>by omega));clear hk9;by_cases jy:(c.toNat:Int)<128
    ·have HF:=ae (HL.o (by omega) (fun _=>by omega))
     clear HT HL HN ol hval Qb;go_wp2_with fail;rw[HJ.o];refine(kj.o _).mono ?_;rintro e w1 ⟨rfl,rfl⟩
     have eT:jaH ((if c.toNat=0/\1<k+1 then jG .u64 0 0 31 else jG .u64 (val (l.take (k+1)):Int) (k+1) 0)=jG .u64 ((ey l).1:Int) (ey l).2.1 (ey l).2.2):=by
      show _=_
      rw[HF.o];by_cases h:c.toNat=0/\0<k
      ·rw[Yy h,Yy ⟨h.1,by omega⟩];rfl
      ·rw[Yx h,Yx (fun h1=>h ⟨h1.1,by omega⟩)]
     rw[eT.o];unfold jG;go_wp2_with fail;go_ret3
     exact⟨rfl,rfl⟩
    ·have HF:=ae (HN.o (by omega))
     clear HT HL HN ol hval Qb;go_wp2_with fail;rw[HJ.o];go_roundw
     case rel=>exact⟨trivial,k+1,by omega,by omega,HF.o,by go_num,rfl⟩
     case measure=>simp[intOf];omega
  ·have HE:=ae (zB xu h9 ar)
   clear xu;go_wp2_with fail;go_ret3
   rw[HE.o];exact⟨rfl,rfl⟩
theorem FG{w:World}{v:Value}{l:List UInt8}(h:Sl w v l):Calls Tryz.prog 180 #[v] w fun e w'=>e=jG .u64 ((ey l).1:Int) (ey l).2.1 (ey l).2.2/\w'=w:=by
 obtain⟨a,cap,rfl,h1,h2,h3⟩:=h;cases l with
 | nil=>exact GT a cap w
 | cons x r =>
  obtain⟨b,off,rfl,_,h5⟩:=h3 (by simp);exact LQ b off cap (x::r) w (by omega) h1 h5
theorem GU{l:List UInt8}(h:¬ (9<=aL l/\9<l.length/\1<(l.getD 9 0).toNat))(hl:aL l<l.length):aL l<=9/\(aL l=9->l[aL l].toNat<=1):=by
 have h9:aL l<=9:=by
  rcases Zd 9 (aL l)with h1 | h1
  ·exfalso
   apply h
   refine⟨by omega,by omega,?_⟩;rw[jO (by omega)];have:=lG l 9 (by omega) h1;omega
  ·exact h1
 refine⟨h9,fun e=>?_⟩;have h3:¬ 1<(l.getD 9 0).toNat:=fun h2=>h ⟨by omega,by omega,h2⟩
 rw[jO (by omega)]at h3;simp only[e];omega
theorem wu(l:List UInt8):(ey l).1<18446744073709551616/\(ey l).2.1<=l.length/\(ey l).2.1<=10/\((ey l).2.2=0∨(((ey l).2.2=30∨(ey l).2.2=31)/\(ey l).1=0/\(ey l).2.1=0)):=by
 have ob:=sY l;unfold ey;split
 ·simp
 ·rename_i h1
  split
  ·simp
  ·rename_i h2
   have hl:aL l<l.length:=(by omega);obtain⟨h9,ht⟩:=GU h1 hl;split
   ·simp
   ·refine⟨LF h9 hl ht,?_,?_,Or.inl rfl⟩<;>simp only<;>omega
theorem LR{e:Nat}(h:e=0∨e=30∨e=31)(h0:¬ e=0):((e:Int) != 0)=true:=by simp;omega
theorem FH(n:Nat):az .u8 (uv n)=aU (uvarint n):=tm _
theorem cU(n:Nat)(hn:n<18446744073709551616)(w:World):Calls Tryz.prog 119 #[.int .u64 (n:Int)] w (dJ w (uv n)):=by
 refine(zF n hn w).mono ?_;rintro e w' ⟨⟨v,rfl,h⟩,hb⟩;exact⟨⟨v,rfl,by unfold aG;rw[FH,nB];exact h⟩,hb⟩
theorem eI(b:List Nat):(gt b).1<18446744073709551616/\(gt b).2.1<=b.length/\(gt b).2.1<=10/\((gt b).2.2=0∨(((gt b).2.2=30∨(gt b).2.2=31)/\(gt b).1=0/\(gt b).2.1=0)):=by
 have:=wu (b.map Nat.toUInt8);rw[YD]at this;exact this
theorem xQ{w:World}{a:Option Addr}{n cap:Nat}{b:List Nat}(hb:Bs b)(h:Sv w (.slice a n cap) (az .u8 b)) :
  Calls Tryz.prog 180 #[.slice a n cap] w fun e w'=>e=jG .u64 ((gt b).1:Int) (gt b).2.1 (gt b).2.2/\w'=w:=FG (h.sl hb)
end Go.Proofs.YtpljdjmpamjkhaaGreatDoor
