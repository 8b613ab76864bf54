import Derived.Test.YtpljdjmpamjkhaaGreatDoorQab
import Derived.Lib.Zigzag
import Derived.Lib.VarintBits
set_option linter.unusedVariables false
set_option linter.unusedSimpArgs false
set_option maxRecDepth 100000
set_option maxHeartbeats 2000000
namespace Go.Proofs.YtpljdjmpamjkhaaGreatDoor
open Go.RowKit Go.Lib
theorem nK:∀{l m:List Nat},Bs l->Bs m->Op.bytesLess (l.map Nat.toUInt8) (m.map Nat.toUInt8)=decide (l<m)
 | [],[],_,_=>by simp[Op.bytesLess]
 | [],y::t,_,_=>by simp[Op.bytesLess]
 | x::s,[],_,_=>by simp[Op.bytesLess]
 | x::s,y::t,hl,hm=>by
  have ih:=nK (l:=s) (m:=t) (fun z hz=>hl z (by simp[hz])) (fun z hz=>hm z (by simp[hz]));have hx:=hl x (by simp);have hy:=hm y (by simp)
  have h1:(x.toUInt8<y.toUInt8)=(x<y):=by
   rw[UInt8.lt_iff_toNat_lt];simp[jfd hx,jfd hy]
  have h2:(x.toUInt8==y.toUInt8)=decide (x=y):=by
   by_cases h:x=y
   ·simp[h]
   ·have:x.toUInt8≠y.toUInt8:=fun e=>h (by
     have:=jep UInt8.toNat e;simpa [jfd hx,jfd hy]using this)
    simp[h,this]
  simp only[jeT,Op.bytesLess,ih,h1,h2];have h3:(x::s<y::t)↔(x<y∨x=y/\s<t):=List.cons_lt_cons_iff;by_cases h:x<y<;>by_cases h':x=y<;>by_cases h'':s<t<;>simp[h3,h,h',h'']
def da(c:Nat×Int×List Nat):Value :=
 if c.1=0 then .nilIface else if c.1=1 then .iface 2 (.int .i64 c.2.1) else if c.1=2 then .iface 4 (.bool (decide (c.2.1=1))) else .iface 9 (txt c.2.2)
def aJ(l:List (Nat×Int×List Nat)):List Value:=l.map da
def wH(c:Nat×Int×List Nat):List Value:=[.int .u8 (c.1:Int),.int .i64 c.2.1,txt c.2.2]
def gA(l:List (Nat×Int×List Nat)):List Value:=l.flatMap wH
theorem aG(l:List (Nat×Int×List Nat)):(aJ l).length=l.length:=jen _
theorem mD(a b:List (Nat×Int×List Nat)):aJ (a++b)=aJ a++aJ b:=jeE
theorem qR(a b:List (Nat×Int×List Nat)):gA (a++b)=gA a++gA b:=jfw
theorem pY(c:Nat×Int×List Nat)(l:List (Nat×Int×List Nat)):gA (c::l)=wH c++gA l:=jfG
theorem mE:∀ l:List (Nat×Int×List Nat),(gA l).length=l.length*3
 | []=>rfl
 | c::t=>by
  rw[pY,jem,mE t,jer];simp[wH]
  omega
theorem cQ{l:List (Nat×Int×List Nat)}{j:Nat}(h:j<l.length):(aJ l)[j]?=some (da l[j]):=by simp[aJ,h]
theorem sU:∀{l:List (Nat×Int×List Nat)} {j:Nat} (h:j<l.length),(gA l)[j*3]?=some (.int .u8 (l[j].1:Int))/\(gA l)[j*3+1]?=some (.int .i64 l[j].2.1)/\(gA l)[j*3+2]?=some (txt l[j].2.2)
 | c::t,0,h=>by simp[pY,wH]
 | c::t,j+1,h=>by
  have ih:=sU (l:=t) (j:=j) (by simpa using h);rw[pY]
  have e:∀ k,(wH c++gA t)[(j+1)*3+k]?=(gA t)[j*3+k]?:=fun k=>by
   rw[List.getElem?_append_right (by simp[wH];omega)];simp only[wH,jer,jeL];congr 1
   omega
  have e0:=e 0;simp only[je9]at e0;rw[e0,e 1,e 2];simpa using ih
theorem qS(c:Nat×Int×List Nat):(da c).oneCell'=true:=by
 unfold da;split
 ·rfl
 ·split
  ·rfl
  ·split<;>rfl
theorem yH(l:List (Nat×Int×List Nat)):∀ u∈aJ l,u.oneCell'=true:=by
 intro u hu;obtain⟨x,_,rfl⟩:=jeF.1 hu;exact qS x
def OwnV(W:World)(B:Nat)(v:Value)(l:List (Nat×Int×List Nat)):Prop:=W.ownsRow B 78 1 v l.length (aJ l)
def ex(W:World)(B:Nat)(v:Value)(l:List (Nat×Int×List Nat)):Prop:=W.ownsRow B 52 3 v l.length (gA l)
theorem OwnV.nil(W:World)(B:Nat):OwnV W B (.slice none 0 0) []:=jfb _ _ _ _
theorem ex.nil(W:World)(B:Nat):ex W B (.slice none 0 0) []:=jfb _ _ _ _
theorem OwnV.kept{w w':World}{B:Nat}{v:Value}{l:List (Nat×Int×List Nat)}(h:OwnV w B v l)(hb:Below w.heap.size w w'):OwnV w' B v l:=bJ h hb
theorem ex.kept{w w':World}{B:Nat}{v:Value}{l:List (Nat×Int×List Nat)}(h:ex w B v l)(hb:Below w.heap.size w w'):ex w' B v l:=bJ h hb
theorem OwnV.sv{W:World}{B:Nat}{v:Value}{l:List (Nat×Int×List Nat)}(h:OwnV W B v l):Sv W v (aJ l):=Sv.of_own h
def Sc(W:World)(v:Value)(l:List (Nat×Int×List Nat)):Prop :=
 ∃ a cap,v=.slice a l.length cap/\l.length<=cap/\cap<=maxLen/\(0<l.length->∃ b off,a=some ⟨b,off,none⟩/\b<W.heap.size/\∀ j x,(gA l)[j]?=some x->W.cell? ⟨b,off+j,none⟩=some x)
theorem Sc.kept{W W':World}{v:Value}{l:List (Nat×Int×List Nat)}(h:Sc W v l)(hb:Below W.heap.size W W'):Sc W' v l:=by
 obtain⟨a,cap,h1,h2,h3,h4⟩:=h;refine⟨a,cap,h1,h2,h3,fun h0=>?_⟩;obtain⟨b,off,h5,h6,h7⟩:=h4 h0;exact⟨b,off,h5,jeH h6 hb.size,fun j x hj=>(hb.cell (p:=⟨b,off+j,none⟩) h6).trans (h7 j x hj)⟩
theorem ex.sc{W:World}{B:Nat}{v:Value}{l:List (Nat×Int×List Nat)}(h:ex W B v l):Sc W v l:=by
 rcases h with ⟨h0,⟨rfl,h1⟩ | ⟨g,cap,cur,rfl,h2,h3,h4,h5,h6,h7⟩⟩
 ·refine⟨none,0,by rw[h1],by omega,by unfold maxLen;omega,fun h=>by omega⟩
 ·refine⟨_,cap,rfl,h4,h5,fun _=>⟨g,0,rfl,(Array.getElem?_eq_some_iff.1 h3).1,fun j x hj=>?_⟩⟩
  rw[jeO];simp only[World.cell?,h3];rw[← h7]at hj;have aB:=(List.getElem?_eq_some_iff.1 hj).1;rw[jeq]at aB;rw[List.getElem?_take_of_lt (by omega)]at hj;simpa using hj
theorem Sc.at{W:World}{a:Option Addr}{n cap:Nat}{l:List (Nat×Int×List Nat)}(h:Sc W (.slice a n cap) l){k:Nat}(hk:k<l.length) :
  ∃ b off,a=some ⟨b,off,none⟩/\b<W.heap.size/\W.cell? ⟨b,off+k*3,none⟩=some (.int .u8 (l[k].1:Int))/\W.cell? ⟨b,off+k*3+1,none⟩=some (.int .i64 l[k].2.1)/\W.cell? ⟨b,off+k*3+2,none⟩=some (txt l[k].2.2):=by
 obtain⟨a',cap',e,h1,h2,h4⟩:=h;simp only[Value.slice.injEq]at e;obtain⟨rfl,_,_⟩:=e;obtain⟨b,off,rfl,h5,h6⟩:=h4 (by omega);obtain⟨c0,c1,c2⟩:=sU hk;refine⟨b,off,rfl,h5,h6 _ _ c0,?_,?_⟩
 ·rw[jfr]
  exact h6 _ _ c1
 ·rw[jfr]
  exact h6 _ _ c2
theorem aK(w:World)(v:Value)(t:Nat):(w.alloc (.cells #[v] t)).cell? ⟨w.heap.size,0,none⟩=some v:=by
 have:=cell_one_new w v t 0 v rfl;rw[mC]at this;exact this
theorem oP(c:Nat×Int×List Nat)(h:c.1=0):da c=.nilIface:=jei h
theorem kj(c:Nat×Int×List Nat)(h:c.1≠0):∃ t u,da c=.iface t u:=by
 unfold da;rw[jeh h];split
 ·exact⟨_,_,rfl⟩
 ·split
  ·exact⟨_,_,rfl⟩
  ·exact⟨_,_,rfl⟩
theorem ed{w:World}{ops:Array Oper}{rest:List Oper}{o:Oper}{a:Act}{Q:Exit->Act->World->Prop}(dY:o.guard=none)(s x:Operand)
  (ho:o.op=.call { callee:=.builtin .append,args:=#[s,x],argTypes:=#[79,79] })
  (base:Nat) (v:Value) (g:Nat) (z:Nat×Int×List Nat) (l0:List (Nat×Int×List Nat)) (hs:a.eval s=v) (aA:OwnV w base v l0) (hx:a.eval x=.slice (some ⟨g,0,none⟩) 1 1) (hc:w.cell? ⟨g,0,none⟩=some (da z))
  (hbytes:l0.length<=100000) (aI:base<=w.heap.size)
  (h:∀ v' w',OwnV w' base v' (l0++[z])->Below base w w'->wpList Tryz.prog ops Q rest (a.put o.dst v') w') :
  wpList Tryz.prog ops Q (o::rest) a w:=by
 obtain⟨i0,hi,ch,hz1',bv⟩:=jeD wG;unfold OwnV at *
 refine jeY (w:=w) dY s x 79 ho base 78 i0 .nilIface 1 16 Tryz.underlying79 hi ch hz1' bv rfl (by decide) v l0.length (aJ l0) hs aA ⟨g,0,none⟩ 1 1 [da z] hx rfl ?_ (fun u hu=>by
  have:u=da z:=by simpa using hu
  subst this;exact qS z) (by unfold maxLen;omega) (by omega) aI ?_
 ·intro j u hu
  rw[mC];cases j with
  | zero =>
   simp only[List.getElem?_cons_zero,Option.some.injEq]at hu;rw[← hu];exact hc
  | succ j=>simp at hu
 ·intro v' w' o1 g1 _ _
  refine h v' w' ?_ ((jej base w).grown g1 aI (fun k hk=>(aA.lt k hk).1));rw[mD,jem];exact o1
theorem ja1:(Tryz.prog.info? 52).map (fun i=>(i.zero,i.size,i.bytes))=some (some (.agg #[.int .u8 0,.int .i64 0,.string ⟨#[]⟩]),3,32):=by kernel_rfl
theorem jK{w:World}{ops:Array Oper}{rest:List Oper}{o:Oper}{a:Act}{Q:Exit->Act->World->Prop}(dY:o.guard=none)(s x:Operand)
  (ho:o.op=.call { callee:=.builtin .append,args:=#[s,x],argTypes:=#[58,58] })
  (base:Nat) (v:Value) (g:Nat) (z:Nat×Int×List Nat) (l0:List (Nat×Int×List Nat)) (hs:a.eval s=v) (aA:ex w base v l0) (hx:a.eval x=.slice (some ⟨g,0,none⟩) 1 1)
  (oE:w.cell? ⟨g,0,none⟩=some (.int .u8 (z.1:Int))) (lK:w.cell? ⟨g,1,none⟩=some (.int .i64 z.2.1)) (ke:w.cell? ⟨g,2,none⟩=some (txt z.2.2))
  (hbytes:l0.length<=100000) (aI:base<=w.heap.size)
  (h:∀ v' w',ex w' base v' (l0++[z])->Below base w w'->wpList Tryz.prog ops Q rest (a.put o.dst v') w') :
  wpList Tryz.prog ops Q (o::rest) a w:=by
 obtain⟨i0,hi,ch,hz1',bv⟩:=jeD ja1;unfold ex at *
 refine jeY (w:=w) dY s x 58 ho base 52 i0 (.agg #[.int .u8 0,.int .i64 0,.string ⟨#[]⟩]) 3 32 Tryz.underlying58 hi ch hz1' bv rfl (by decide) v l0.length (gA l0) hs aA ⟨g,0,none⟩ 1 1 (wH z) hx rfl ?_ (fun u hu=>by
  unfold wH at hu;simp only[jeC,jf2,or_false]at hu;rcases hu with rfl | rfl | rfl<;>rfl) (by unfold maxLen;omega) (by omega) aI ?_
 ·intro j u hu
  rw[mC];unfold wH at hu;match j,hu with
  | 0,hu=>simp only[List.getElem?_cons_zero,Option.some.injEq]at hu;rw[← hu];exact oE
  | 1,hu=>simp only[List.getElem?_cons_succ,List.getElem?_cons_zero,Option.some.injEq]at hu;rw[← hu];exact lK
  | 2,hu=>simp only[List.getElem?_cons_succ,List.getElem?_cons_zero,Option.some.injEq]at hu;rw[← hu];exact ke
  | j+3,hu=>simp at hu
 ·intro v' w' o1 g1 _ _
  refine h v' w' ?_ ((jej base w).grown g1 aI (fun k hk=>(aA.lt k hk).1));rw[qR,jem];have:gA [z]=wH z:=by simp[gA]
  rw[this];exact o1
def aT(c:Nat×Int×List Nat):Prop :=
 c=nul∨(∃ n,c=(1,n,[])/\I64 n)∨(∃ n:Nat,c=(2,(n:Int),[])/\n<2)∨(∃ s,c=(3,0,s)/\s.length<=64/\Bs s)
theorem aT.val{c:Nat×Int×List Nat}(h:aT c):Val (da c) (c.1:Int) c.2.1 (am c.2.2):=by
 rcases h with rfl | ⟨n,rfl,h⟩ | ⟨n,rfl,h⟩ | ⟨n,rfl,h⟩
 ·exact Or.inl ⟨rfl,rfl,rfl,rfl⟩
 ·exact Or.inr (Or.inl ⟨rfl,rfl,rfl⟩)
 ·refine Or.inr (Or.inr (Or.inl ⟨decide (((n:Nat):Int)=1),rfl,rfl,?_,rfl⟩))
  obtain rfl | rfl:n=0∨n=1:=by omega
  ·rfl
  ·rfl
 ·exact Or.inr (Or.inr (Or.inr ⟨rfl,rfl,rfl⟩))
def Okc(c:Nat×Int×List Nat):Prop:=c.1<256/\I64 c.2.1/\Bs c.2.2
def bq(c:Nat×Int×List Nat):Nat×Int×List Nat:=if flt (c.1:Int) c.2.1 (am c.2.2)=0 then c else nul
theorem jW{s:List Nat}(h:am s=⟨#[]⟩):s=[]:=by
 have:=jep ByteArray.size h;rw[bi]at this;exact jeI this
theorem fZ{c:Nat×Int×List Nat}(h:Okc c):aT (bq c):=by
 unfold bq;split
 ·next h0 =>
  obtain⟨ck,cn,cs⟩:=c;obtain⟨g1,g2,g3⟩:=h;simp only at *;rcases wF (by omega) h0 with ⟨a1,a2,a3⟩ | ⟨a1,a3⟩ | ⟨a1,a2,a3⟩ | ⟨a1,a2,a3⟩ | ⟨a1,a2,a3⟩
  ·have e1:ck=0:=by omega
   have e3:=jW a3;subst e1 a2 e3;exact Or.inl rfl
  ·have e1:ck=1:=by omega
   have e3:=jW a3;subst e1 e3;exact Or.inr (Or.inl ⟨cn,rfl,g2⟩)
  ·have e1:ck=2:=by omega
   have e3:=jW a3;subst e1 a2 e3;exact Or.inr (Or.inr (Or.inl ⟨0,rfl,by omega⟩))
  ·have e1:ck=2:=by omega
   have e3:=jW a3;subst e1 a2 e3;exact Or.inr (Or.inr (Or.inl ⟨1,rfl,by omega⟩))
  ·have e1:ck=3:=by omega
   subst e1 a2;rw[bi]at a3;exact Or.inr (Or.inr (Or.inr ⟨cs,rfl,a3,g3⟩))
 ·exact Or.inl rfl
theorem Xg:flt 0 0 (am [])=0:=by simp[flt,tx,jJ,ew,ByteArray.size]
theorem RD{c:Nat×Int×List Nat}(h:aT c):flt (c.1:Int) c.2.1 (am c.2.2)=0:=by
 rcases h with rfl | ⟨n,rfl,_⟩ | ⟨n,rfl,hn⟩ | ⟨s,rfl,hs,_⟩
 ·exact Xg
 ·simp[flt,tx,jJ,ew,ByteArray.size]
 ·obtain rfl | rfl:n=0∨n=1:=by omega
  ·simp[flt,tx,jJ,ew,ByteArray.size]
  ·simp[flt,tx,jJ,ew,ByteArray.size]
 ·have:¬ 64<((am s).size:Int):=by rw[bi];omega
  simp[flt,tx,jJ,this]
theorem MS{c:Nat×Int×List Nat}(h:aT c):bq c=c:=jei (RD h)
theorem aT.okc{c:Nat×Int×List Nat}(h:aT c):Okc c:=by
 rcases h with rfl | ⟨n,rfl,h⟩ | ⟨n,rfl,hn⟩ | ⟨s,rfl,_,h⟩
 ·exact⟨by simp[nul],by simp[nul,I64],fun x hx=>by simp[nul]at hx⟩
 ·exact⟨by simp,h,fun x hx=>by simp at hx⟩
 ·exact⟨by simp,by simp only[I64];omega,fun x hx=>by simp at hx⟩
 ·exact⟨by simp,by simp[I64],h⟩
theorem DA{v:Value}{c:Nat×Int×List Nat}(hf:aT c)(h:Val v (c.1:Int) c.2.1 (am c.2.2)):v=da c:=by
 rcases hf with rfl | ⟨n,rfl,_⟩ | ⟨n,rfl,hn⟩ | ⟨s,rfl,_⟩
 ·rcases h with ⟨h,_⟩ | ⟨_,h,_⟩ | ⟨b,_,h,_⟩ | ⟨_,h,_⟩
  ·exact h
  ·simp[nul]at h
  ·simp[nul]at h
  ·simp[nul]at h
 ·rcases h with ⟨_,h,_⟩ | ⟨h,_⟩ | ⟨b,_,h,_⟩ | ⟨_,h,_⟩
  ·simp at h
  ·exact h
  ·simp at h
  ·simp at h
 ·rcases h with ⟨_,h,_⟩ | ⟨_,h,_⟩ | ⟨b,h,_,h2,_⟩ | ⟨_,h,_⟩
  ·simp at h
  ·simp at h
  ·rw[h]
   simp only at h2;obtain rfl | rfl:n=0∨n=1:=by omega
   ·cases b
    ·rfl
    ·simp at h2
   ·cases b
    ·simp at h2
    ·rfl
  ·simp at h
 ·rcases h with ⟨_,h,_⟩ | ⟨_,h,_⟩ | ⟨b,_,h,_⟩ | ⟨h,_⟩
  ·simp at h
  ·simp at h
  ·simp at h
  ·exact h
theorem gZ(c:Nat×Int×List Nat):fk (c.1:Int) c.2.1 (am c.2.2)=((bq c).1:Int)/\fn (c.1:Int) c.2.1 (am c.2.2)=(bq c).2.1/\fs (c.1:Int) c.2.1 (am c.2.2)=am (bq c).2.2:=by
 unfold fk fn fs bq;split
 ·exact⟨rfl,rfl,rfl⟩
 ·exact⟨rfl,rfl,rfl⟩
theorem RE(c:Nat×Int×List Nat)(w:World):Calls Tryz.prog 73 #[.agg #[.int .u8 (c.1:Int),.int .i64 c.2.1,.string (am c.2.2)]] w fun e w'=>e=.returned (.agg #[.int .u8 ((bq c).1:Int),.int .i64 (bq c).2.1,.string (am (bq c).2.2)])/\Below w.heap.size w w':=by
 have:=LG (c.1:Int) c.2.1 (am c.2.2) (by omega) w;rw[(gZ c).1,(gZ c).2.1,(gZ c).2.2]at this;exact this
theorem Hb{c:Nat×Int×List Nat}(h:Okc c)(w:World):Calls Tryz.prog 86 #[.agg #[.int .u8 (c.1:Int),.int .i64 c.2.1,.string (am c.2.2)]] w fun e w'=>e=.returned (da (bq c))/\Below w.heap.size w w':=by
 have:=MR (c.1:Int) c.2.1 (am c.2.2) (by omega) w;rw[(gZ c).1,(gZ c).2.1,(gZ c).2.2]at this;refine this.mono ?_;rintro e w' ⟨⟨v,rfl,hv⟩,hb⟩;rw[DA (fZ h) hv];exact⟨rfl,hb⟩
theorem Sc.form{W:World}{v:Value}{l:List (Nat×Int×List Nat)}(h:Sc W v l):∃ a cap,v=.slice a l.length cap/\l.length<=cap/\cap<=maxLen:=by
 obtain⟨a,cap,h1,h2,h3,_⟩:=h;exact⟨a,cap,h1,h2,h3⟩
theorem RG{w:World}{v:Value}{l:List (Nat×Int×List Nat)}(hs:Sc w v l)(iY:∀ c∈l,Okc c)(hl:l.length<=600) :
  Calls Tryz.prog 42 #[v] w fun e w'=>(∃ v',e=.returned v'/\OwnV w' w.heap.size v' (l.map bq))/\Below w.heap.size w w':=by
 have HS:=ae hs;have HK:=ae iY;obtain⟨a,cap,rfl,aW,bC⟩:=hs.form;have hcm':cap<=9223372036854775807:=by unfold maxLen at bC;omega
 clear hs iY bC;go_enter Tryz.func42,Tryz.ntmps42
 go_wp2_with fail;go_loopw [3,4] (fun o i wr=>∃ j:Nat,j<=l.length/\i=.int .i64 (j:Int)/\OwnV wr w.heap.size o ((l.take j).map bq)/\Below w.heap.size w wr) (fun _ i _=>l.length-(intOf i).toNat)
 case atStart=>exact⟨0,by omega,rfl,OwnV.nil _ _,jej _ _⟩
 case round =>
  obtain⟨j,hj,rfl,aA,az⟩:=hrel;have HO:=ae aA;have HB:=ae az;have bH:=az.size;clear aA az;by_cases aB:j<l.length
  ·obtain⟨g,off,rfl,hg,c0,c1,c2⟩:=(HS.o.kept HB.o).at aB
   have hlt':(j:Int)<(l.length:Int):=(by omega)
   have lz:jgf ((l.take (j+1)).map bq=(l.take j).map bq++[bq l[j]]):=ae (by
    rw[jeA aB,jeE];rfl)
   have hlen':((l.take j).map bq).length<=100000:=by rw[jen,jeq];omega
   have HVA:=ae (Hb (HK.o l[j] (jeo aB)));rw[dM]at c2;generalize bq l[j]=fc at *;generalize am l[j].2.2=S at *;generalize l[j].2.1=cn at *;generalize l[j].1=ck at *;generalize (l.take j).map bq=LL at *;go_wp2_with fail;refine(HVA.o _).mono ?_;rintro e w1 ⟨rfl,aH⟩;have eO:=ae (HO.o.kept aH);have aP:=ae (HB.o.trans (aH.mono bH));have cK:=aH.size;clear aH c0 c1 c2;generalize hvc:da fc=vc;have AM:∀ W:World,(W.alloc (.cells #[vc] 78)).cell? ⟨W.heap.size,0,none⟩=some (da fc):=fun W=>by rw[hvc];exact aK _ _ _
   have kf:=ae AM
   have hvf:vc=.nilIface∨∃ tt uu,vc=.iface tt uu:=by
    rw[← hvc];by_cases h0:fc.1=0
    ·exact Or.inl (oP fc h0)
    ·exact Or.inr (kj fc h0)
   clear hvc AM;rcases hvf with rfl | ⟨tt,uu,rfl⟩
   ·go_wp2_with (first | (at_builtin;refine ed rfl _ _ rfl w.heap.size _ _ fc LL rfl (eO.o.kept (ak _ _)) rfl (kf.o _) hlen' ?c2 ?_))
    case c2=>first | omega | (rw[jel];omega)
    intro v' w5 o5 b5;have df:=ae o5;have aQ:=ae ((aP.o.alloc (jet bH cK) _).trans b5);clear o5 b5;go_wp2_with fail;go_roundw
    case rel=>exact⟨j+1,by omega,by go_num,by rw[lz.o];exact df.o,aQ.o⟩
    case measure=>simp[intOf];omega
   ·go_wp2_with (first | (at_builtin;refine ed rfl _ _ rfl w.heap.size _ _ fc LL rfl (eO.o.kept (ak _ _)) rfl (kf.o _) hlen' ?c2 ?_))
    case c2=>first | omega | (rw[jel];omega)
    intro v' w5 o5 b5;have df:=ae o5;have aQ:=ae ((aP.o.alloc (jet bH cK) _).trans b5);clear o5 b5;go_wp2_with fail;go_roundw
    case rel=>exact⟨j+1,by omega,by go_num,by rw[lz.o];exact df.o,aQ.o⟩
    case measure=>simp[intOf];omega
  ·obtain rfl:j=l.length:=by omega
   rw[jes]at HO;have gi:¬ ((l.length:Nat):Int)<(l.length:Int):=(by omega);go_wp2_with fail;go_ret
   exact⟨⟨_,rfl,HO.o⟩,HB.o⟩
theorem dB(w:World)(x y z:Value)(t:Nat):(w.alloc (.cells #[x,y,z] t)).cell? ⟨w.heap.size,0,none⟩=some x/\(w.alloc (.cells #[x,y,z] t)).cell? ⟨w.heap.size,1,none⟩=some y/\(w.alloc (.cells #[x,y,z] t)).cell? ⟨w.heap.size,2,none⟩=some z:=by
 have h:=jeK w (.cells #[x,y,z] t);exact⟨by rw[ay h];rfl,by rw[ay h];rfl,by rw[ay h];rfl⟩
theorem Hc{w:World}{v:Value}{l:List (Nat×Int×List Nat)}(hs:Sc w v l)(hl:l.length<=600) :
  Calls Tryz.prog 38 #[v] w fun e w'=>(∃ v',e=.returned v'/\ex w' w.heap.size v' (l.map bq))/\Below w.heap.size w w':=by
 have HS:=ae hs;obtain⟨a,cap,rfl,aW,bC⟩:=hs.form;have hcm':cap<=9223372036854775807:=by unfold maxLen at bC;omega
 clear hs bC;go_enter Tryz.func38,Tryz.ntmps38
 go_wp2_with fail;go_loopw [3,4] (fun o i wr=>∃ j:Nat,j<=l.length/\i=.int .i64 (j:Int)/\ex wr w.heap.size o ((l.take j).map bq)/\Below w.heap.size w wr) (fun _ i _=>l.length-(intOf i).toNat)
 case atStart=>exact⟨0,by omega,rfl,ex.nil _ _,jej _ _⟩
 case round =>
  obtain⟨j,hj,rfl,aA,az⟩:=hrel;have HO:=ae aA;have HB:=ae az;have bH:=az.size;clear aA az;by_cases aB:j<l.length
  ·obtain⟨g,off,rfl,hg,c0,c1,c2⟩:=(HS.o.kept HB.o).at aB
   have hlt':(j:Int)<(l.length:Int):=(by omega)
   have lz:jgf ((l.take (j+1)).map bq=(l.take j).map bq++[bq l[j]]):=ae (by
    rw[jeA aB,jeE];rfl)
   have hlen':((l.take j).map bq).length<=100000:=by rw[jen,jeq];omega
   have HVA:=ae (RE l[j]);rw[dM]at c2;generalize bq l[j]=fc at *;generalize am l[j].2.2=S at *;generalize l[j].2.1=cn at *;generalize l[j].1=ck at *;generalize (l.take j).map bq=LL at *;go_wp2_with fail;refine(HVA.o _).mono ?_;rintro e w1 ⟨rfl,aH⟩;have eO:=ae (HO.o.kept aH);have aP:=ae (HB.o.trans (aH.mono bH));have cK:=aH.size;have kf:=ae (dB w1 (.int .u8 (fc.1:Int)) (.int .i64 fc.2.1) (.string (am fc.2.2)) 52);clear aH c0 c1 c2;go_wp2_with (first | (at_builtin;refine jK rfl _ _ rfl w.heap.size _ _ fc LL rfl (eO.o.kept (ak _ _)) rfl kf.o.1 kf.o.2.1 kf.o.2.2 hlen' ?c2 ?_))
   case c2=>first | omega | (rw[jel];omega)
   intro v' w5 o5 b5;have df:=ae o5;have aQ:=ae ((aP.o.alloc (jet bH cK) _).trans b5);clear o5 b5;go_wp2_with fail;go_roundw
   case rel=>exact⟨j+1,by omega,by go_num,by rw[lz.o];exact df.o,aQ.o⟩
   case measure=>simp[intOf];omega
  ·obtain rfl:j=l.length:=by omega
   rw[jes]at HO;have gi:¬ ((l.length:Nat):Int)<(l.length:Int):=(by omega);go_wp2_with fail;go_ret
   exact⟨⟨_,rfl,HO.o⟩,HB.o⟩
theorem Bu{α : Type}{l m:List α}{j:Nat}(h1:j<l.length)(h2:j<m.length)(h:l.take j=m.take j)(he:l[j]=m[j]):l.take (j+1)=m.take (j+1):=by
 rw[jeA h1,jeA h2,h,he]
def val:List UInt8->Nat
 | []=>0
 | b::r=>b.toNat % 128+128*val r
theorem Bv:val []=0:=rfl
theorem jw(b:UInt8)(r:List UInt8):val (b::r)=b.toNat % 128+128*val r:=rfl
theorem wI:∀ l,val l<128 ^ l.length
 | []=>by simp[val]
 | b::r=>by
  have:=wI r;rw[jw,jer,Nat.pow_succ];omega
theorem wJ:∀ a b,val (a++b)=val a+128 ^ a.length*val b
 | [],b=>by simp[val]
 | x::a,b=>by
  rw[jfc,jw,wJ a b,jw,jer,Nat.pow_succ,jft];have:128*(128 ^ a.length*val b)=128 ^ a.length*128*val b:=by rw[jeU (128 ^ a.length) 128,jfz]
  omega
theorem fA{l:List UInt8}{k:Nat}(h:k<l.length):val (l.take (k+1))=val (l.take k)+(l[k].toNat % 128)*128 ^ k:=by
 rw[jeA h,wJ,jw,Bv,jeq,jfk (by omega)];simp[jeU]
def aU:List UInt8->Nat
 | []=>0
 | b::r=>if 128<=b.toNat then aU r+1 else 0
theorem vU:∀ l,aU l<=l.length
 | []=>by simp[aU]
 | b::r=>by
  have:=vU r;unfold aU;split<;>simp<;>omega
theorem nL:∀(l:List UInt8) (k:Nat) (h:k<l.length),k<aU l->128<=l[k].toNat
 | [],k,h,_=>by simp at h
 | b::r,0,h,hk=>by
  unfold aU at hk;split at hk
  ·simpa
  ·omega
 | b::r,k+1,h,hk=>by
  unfold aU at hk;split at hk
  ·simpa using nL r k (by simpa using h) (by omega)
  ·omega
theorem jd:∀(l:List UInt8) (h:aU l<l.length),l[aU l].toNat<128
 | [],h=>by simp at h
 | b::r,h=>by
  by_cases hb:128<=b.toNat
  ·have e:aU (b::r)=aU r+1:=by rw[aU,jei hb]
   have hr:aU r<r.length:=by rw[e]at h;simpa using h
   have:=jd r hr;simpa [e]using this
  ·have e:aU (b::r)=0:=by rw[aU,jeh hb]
   simpa [e]using hb
theorem LH{l:List UInt8}{k:Nat}(hk:k<=aU l)(h:k<l.length)(hs:l[k].toNat<128):aU l=k:=by
 rcases jeM k (aU l)with h1 | h1
 ·have:=nL l k h h1;omega
 ·omega
theorem MT{l:List UInt8}{k:Nat}(hk:k<=aU l)(h:k<l.length)(hs:128<=l[k].toNat):k+1<=aU l:=by
 rcases jeM k (aU l)with h1 | h1
 ·exact h1
 ·have e:aU l=k:=by omega
  have h2:=jd l (by omega);simp only[e]at h2;omega
def fG(l:List UInt8):Nat×Nat×Nat :=
 if 9<=aU l/\9<l.length/\1<(l.getD 9 0).toNat then (0,0,31)
 else if aU l=l.length then (0,0,30)
 else if (l.getD (aU l) 0).toNat=0/\0<aU l then (0,0,31)
 else (val (l.take (aU l+1)),aU l+1,0)
theorem lh{l:List UInt8}{k:Nat}(h:k<l.length):l.getD k 0=l[k]:=by
 rw[List.getD_eq_getElem?_getD,List.getElem?_eq_getElem h];rfl
theorem Hd{l:List UInt8}(hk:9<=aU l)(h:9<l.length)(hs:1<l[9].toNat):fG l=(0,0,31):=by
 unfold fG;rw[jei ⟨hk,h,by rwa[lh h]⟩]
theorem DB{l:List UInt8}{k:Nat}(hk:k<=aU l)(h9:k<=9)(h:¬ k<l.length):fG l=(0,0,30):=by
 have:=vU l;unfold fG;rw[jeh (fun h=>by omega),jei (by omega)]
theorem zE{l:List UInt8}{k:Nat}(hk:k<=aU l)(h9:k<=9)(h:k<l.length)(hs:l[k].toNat<128)(ht:k=9->l[k].toNat<=1) :
  fG l=if l[k].toNat=0/\0<k then (0,0,31) else (val (l.take (k+1)),k+1,0):=by
 have e:=LH hk h hs;unfold fG;rw[e,jeh,jeh (by omega),lh h];rintro⟨h1,h2,h3⟩;obtain rfl:k=9:=by omega
 rw[lh h2]at h3;have:=ht rfl;omega
theorem RH{l:List UInt8}{k:Nat}(h9:k<=9)(h:k<l.length)(ht:k=9->l[k].toNat<=1):val (l.take (k+1))<18446744073709551616:=by
 rcases jeM k 9 with h1 | h1
 ·have h2:=wI (l.take (k+1))
  rw[jeq,jfk (by omega)]at h2;have h3:128 ^ (k+1)<=128 ^ 9:=jfA (by omega) (by omega);have h4:(128:Nat) ^ 9=9223372036854775808:=by decide
  omega
 ·obtain rfl:k=9:=by omega
  rw[fA h];have h2:=wI (l.take 9);rw[jeq,jfk (by omega)]at h2;have h4:(128:Nat) ^ 9=9223372036854775808:=by decide
  rw[h4]at *;have:=ht rfl;omega
theorem He:∀(n x:Nat),x<=n->val (uvarint x)=x/\aU (uvarint x)+1=(uvarint x).length
 | n,x,hn=>by
  by_cases h:x<128
  ·rw[uvarint_small h,jw,mB (by omega),Bv,aU,mB (by omega),jeh (by omega)]
   simp;omega
  ·cases n with
   | zero=>omega
   | succ n =>
    obtain⟨h1,h2⟩:=He n (x / 128) (by omega);rw[uvarint_big (by omega),jw,mB (by omega),aU,mB (by omega),jei (by omega),h1,h2,jer];omega
theorem Hf(x:Nat):val (uvarint x)=x:=(He x x (jek _)).1
theorem Bw(x:Nat):aU (uvarint x)+1=(uvarint x).length:=(He x x (jek _)).2
theorem ZN:∀(l:List UInt8) (h:aU l+1=l.length),¬ (l[aU l].toNat=0/\0<aU l)->uvarint (val l)=l
 | [],h,_=>by simp at h
 | b::r,h,hc=>by
  have hb:=b.toNat_lt;by_cases hg:128<=b.toNat
  ·have e:aU (b::r)=aU r+1:=by rw[aU,jei hg]
   have hr:aU r+1=r.length:=by rw[e]at h;simpa using h
   simp only[e,List.getElem_cons_succ]at hc;have hz:r[aU r].toNat≠0:=fun h1=>hc ⟨h1,by omega⟩
   have ih:=ZN r hr (fun h1=>hz h1.1)
   have hv:0<val r:=by
    rcases jfa (val r)with h0 | h0
    ·exfalso
     have h3:=fA (l:=r) (k:=aU r) (by omega);rw[je4 (by omega),h0]at h3;have h4:=jd r (by omega);have h5:r[aU r].toNat % 128=r[aU r].toNat:=(by omega);rw[h5]at h3;have h6:0<r[aU r].toNat*128 ^ aU r:=Nat.mul_pos (by omega) (Nat.pow_pos (by omega));omega
    ·exact h0
   rw[jw,uvarint_big (by omega)];have e1:(b.toNat % 128+128*val r) / 128=val r:=(by omega);have e2:(b.toNat % 128+128*val r) % 128+128=b.toNat:=(by omega);rw[e1,e2,ih];simp
  ·have e:aU (b::r)=0:=by rw[aU,jeh hg]
   rw[e]at h;have hr:r=[]:=by cases r with | nil=>rfl | cons _ _=>simp at h
   subst hr;rw[jw,Bv,uvarint_small (by omega)];have:b.toNat % 128+128*0=b.toNat:=by omega
   rw[this];simp
theorem Bx:∀(n x:Nat),x<=n->∀ h:aU (uvarint x)<(uvarint x).length,¬ ((uvarint x)[aU (uvarint x)].toNat=0/\0<aU (uvarint x))
 | n,x,hn,h=>by
  by_cases hx:x<128
  ·rintro⟨_,h2⟩
   rw[uvarint_small hx,aU,mB (by omega),jeh (by omega)]at h2;omega
  ·cases n with
   | zero=>omega
   | succ n =>
    have ih:=Bx n (x / 128) (by omega);have e0:=uvarint_big (x:=x) (by omega);have e:aU (uvarint x)=aU (uvarint (x / 128))+1:=by rw[e0,aU,mB (by omega),jei (by omega)]
    have hl:=Bw (x / 128);rintro⟨h1,_⟩;have ih2:=ih (by omega)
    have h3:(uvarint (x / 128))[aU (uvarint (x / 128))].toNat=0:=by
     have h4:(uvarint x)[aU (uvarint x)]=(uvarint (x / 128))[aU (uvarint (x / 128))]:=by
      simp only[e];simp[e0]
     rw[← h4];exact h1
    rcases jfa (aU (uvarint (x / 128)))with h0 | h0
    ·have h5:=fA (l:=uvarint (x / 128)) (k:=0) (by omega)
     have h6:(uvarint (x / 128))[0].toNat=0:=by simpa [h0]using h3
     rw[h6,je4 (by omega),Hf]at h5;simp[val]at h5
     omega
    ·exact ih2 ⟨h3,h0⟩
theorem RI{l:List UInt8}(h:aU l+1=l.length):uvarint (val l)=l↔¬ (l[aU l].toNat=0/\0<aU l):=by
 constructor
 ·intro e
  have:=Bx (val l) (val l) (jek _) (by rw[e];omega);simp only[e]at this;exact this
 ·exact ZN l h
theorem ud:∀(a b:List UInt8),aU a<a.length->aU (a++b)=aU a
 | [],b,h=>by simp at h
 | x::a,b,h=>by
  rw[jfc];by_cases hx:128<=x.toNat
  ·rw[aU,jei hx]at h ⊢
   rw[aU,jei hx,ud a b (by simpa using h)]
  ·rw[aU,jeh hx,aU,jeh hx]
theorem zF:∀(l:List UInt8) (k:Nat),k<=aU l->aU (l.take k)=k
 | l,0,_=>by simp[aU]
 | [],k+1,h=>by simp[aU]at h
 | b::r,k+1,h=>by
  unfold aU at h;split at h
  ·rename_i hb
   rw[jf3,aU,jei hb,zF r k (by omega)]
  ·omega
theorem Xh(n:Nat)(hn:n<18446744073709551616)(r:List UInt8):fG (uvarint n++r)=(n,(uvarint n).length,0):=by
 have h1:=Bw n;have nB:=uvarint_length64 hn;have hl:=ud (uvarint n) r (by omega);have hk:aU (uvarint n)<(uvarint n++r).length:=by simp;omega
 have jbZ:(uvarint n++r)[aU (uvarint n)]=(uvarint n)[aU (uvarint n)]:=jf9 (by omega);have WD:=jd (uvarint n) (by omega);have YL:(uvarint n++r).take (aU (uvarint n)+1)=uvarint n:=by rw[h1];simp
 have ht:aU (uvarint n)=9->(uvarint n++r)[aU (uvarint n)].toNat<=1:=by
  intro h9;rw[jbZ];have h5:=fA (l:=uvarint n) (k:=aU (uvarint n)) (by omega);rw[h1,jes,Hf]at h5;have h4:(128:Nat) ^ aU (uvarint n)=9223372036854775808:=by rw[h9]
  rw[h4]at h5;omega
 rw[zE (k:=aU (uvarint n)) (by omega) (by omega) hk (by rw[jbZ];exact WD) ht,YL,Hf,jeh,h1];rw[jbZ];exact Bx n n (jek _) (by omega)
theorem Xi(n:Nat)(hn:n<18446744073709551616)(k:Nat)(hk:k<(uvarint n).length):fG ((uvarint n).take k)=(0,0,30):=by
 have h1:=Bw n;have nB:=uvarint_length64 hn;have hl:=zF (uvarint n) k (by omega);exact DB (k:=k) (by omega) (by omega) (by simp;omega)
theorem wK:∀ a:Fin 256,bits .andNot .u8 (a.val:Int) 128=((a.val % 128:Nat):Int):=by decide +kernel
theorem MU(c:UInt8):bits .andNot .u8 (c.toNat:Int) 128=((c.toNat % 128:Nat):Int):=wK ⟨c.toNat,c.toNat_lt⟩
theorem ja2(k:Nat):(2:Nat) ^ (7*k)=128 ^ k:=by rw[Nat.pow_mul]
theorem RJ{n c k:Nat}(hk:k<=9)(hn:n<128 ^ k)(h:c*128 ^ k<18446744073709551616) :
  bits .or .u64 (n:Int) ((c*128 ^ k:Nat):Int)=((n+c*128 ^ k:Nat):Int):=by
 have h9:128 ^ k<=128 ^ 9:=jfA (by omega) hk;have h4:(128:Nat) ^ 9=9223372036854775808:=by decide
 have e:bits .or .u64 (n:Int) ((c*128 ^ k:Nat):Int)=(n:Int)+((c*128 ^ k:Nat):Int):=by
  apply bits_join_low .u64 64 (by decide) wraps_u64 (7*k)
  ·omega
  ·have:(n:Int)<((2 ^ (7*k):Nat):Int):=by rw[ja2];omega
   simpa using this
  ·omega
  ·omega
  ·have:(((c*128 ^ k:Nat):Int) % ((2 ^ (7*k):Nat):Int))=0:=by rw[ja2,← Int.natCast_emod];simp
   simpa using this
  ·omega
 rw[e];omega
def uv(n:Nat):List Nat:=(uvarint n).map UInt8.toNat
def gt(l:List Nat):Nat×Nat×Nat:=fG (l.map Nat.toUInt8)
theorem DC(l:List UInt8):(l.map UInt8.toNat).map Nat.toUInt8=l:=by
 rw[jeW];conv=>rhs;rw[← jfj l]
 apply jff
 intro a _;simp
theorem hO{n:Nat}:∀ x∈uv n,x<256:=by
 intro x hx;obtain⟨a,_,rfl⟩:=jeF.1 hx;exact a.toNat_lt
theorem mF(n:Nat):(uv n).length=(uvarint n).length:=jen _
theorem mG(n:Nat):0<(uv n).length:=by rw[mF];exact uvarint_pos n
theorem bO{n:Nat}(h:n<18446744073709551616):(uv n).length<=10:=by rw[mF];exact uvarint_length64 h
theorem mH(n:Nat)(hn:n<18446744073709551616)(r:List Nat):gt (uv n++r)=(n,(uv n).length,0):=by
 unfold gt uv;rw[jeE,DC,Xh n hn,jen]
theorem RK(n:Nat)(hn:n<18446744073709551616)(k:Nat)(hk:k<(uv n).length):gt ((uv n).take k)=(0,0,30):=by
 unfold gt uv;rw[jfJ,DC,Xi n hn k (by rwa[mF]at hk)]
theorem wL{n:Nat}(h:n<128):uv n=[n]:=by
 unfold uv;rw[uvarint_small h];simp[mB (show n<256 by omega)]
theorem Xj{l:List UInt8}{n u:Nat}(h:fG l=(n,u,0)):n<18446744073709551616/\l.take u=uvarint n/\u<=l.length:=by
 have pt:=vU l;unfold fG at h;split at h
 ·simp at h
 ·next h1 =>
  split at h
  ·simp at h
  ·next h2 =>
   split at h
   ·simp at h
   ·next h3 =>
    have hl:aU l<l.length:=(by omega);simp only[Prod.mk.injEq,and_true]at h;obtain⟨rfl,rfl⟩:=h;rw[lh hl]at h3
    have aB:aU l<=9:=by
     rcases jeM 9 (aU l)with h9 | h9
     ·exfalso
      apply h1
      have:=nL l 9 (by omega) h9;exact⟨by omega,by omega,by rw[lh (by omega)];omega⟩
     ·exact h9
    have ht:aU l=9->l[aU l].toNat<=1:=by
     intro e;rcases jeM 1 l[aU l].toNat with h9 | h9
     ·exfalso
      apply h1
      have nB:9<l.length:=(by omega);have e2:l[9]=l[aU l]:=by simp only[e]
      exact⟨by omega,nB,by rw[lh nB,e2];exact h9⟩
     ·exact h9
    refine⟨RH aB hl ht,?_,by omega⟩;have bR:(l.take (aU l+1)).length=aU l+1:=by rw[jeq];omega
    have ze:aU (l.take (aU l+1))=aU l:=by
     have WD:=jd l hl;refine LH (l:=l.take (aU l+1)) ?_ (by omega) (by simpa using WD);rcases jeM (aU (l.take (aU l+1))) (aU l)with hh | hh
     ·exfalso
      have dR:=jd (l.take (aU l+1)) (by omega);have hb:=nL l _ (by omega) hh;simp at dR
      omega
     ·exact hh
    refine((RI (l:=l.take (aU l+1)) (by omega)).2 ?_).symm;simp only[ze];rintro⟨h4,h5⟩;exact h3 ⟨by simpa using h4,h5⟩
theorem RM{l:List Nat}{n u:Nat}(hl:∀ x∈l,x<256)(h:gt l=(n,u,0)):n<18446744073709551616/\l=uv n++l.drop u/\u=(uv n).length:=by
 obtain⟨h1,h2,h3⟩:=Xj h
 have e:l.take u=uv n:=by
  unfold uv;rw[← h2,← jfJ,fE (fun x hx=>hl x (je2 hx))]
 refine⟨h1,?_,?_⟩
 ·rw[← e,jfF]
 ·rw[← e,jeq]
  rw[jen]at h3;omega
def aC{α β : Type}(d:List Nat->Except Nat (α×List Nat))(f:α->List Nat->Except Nat (β×List Nat))(b:List Nat):Except Nat (β×List Nat) :=
 match d b with
 | .ok (x,r)=>f x r
 | .error e=>.error e
theorem db{α β : Type}{d:List Nat->Except Nat (α×List Nat)}{f:α->List Nat->Except Nat (β×List Nat)}{b r:List Nat}{x:α}(h:d b=.ok (x,r)):aC d f b=f x r:=by
 unfold aC;rw[h]
theorem cE{α β : Type}{d:List Nat->Except Nat (α×List Nat)}{f:α->List Nat->Except Nat (β×List Nat)}{b:List Nat}{e:Nat}(h:d b=.error e):aC d f b=.error e:=by
 unfold aC;rw[h]
def ek{α : Type}(d:List Nat->Except Nat (α×List Nat))(e:List Nat)(x:α):Prop :=
 (∀ r,d (e++r)=.ok (x,r))/\∀ k,k<e.length->d (e.take k)=.error 30
def qT{α : Type}(d:List Nat->Except Nat (α×List Nat))(e:List Nat)(x:α):Prop :=
 d e=.ok (x,[])/\(∀ y r,d (e++y::r)=.error 32∨d (e++y::r)=.ok (x,y::r))/\∀ k,k<e.length->d (e.take k)=.error 30
theorem ek.ends{α : Type}{d:List Nat->Except Nat (α×List Nat)}{e:List Nat}{x:α}(h:ek d e x):qT d e x :=
 ⟨by have:=h.1 [];rwa[jeG]at this,fun y r=>Or.inr (h.1 _),h.2⟩
theorem ek.pure{α : Type}(x:α):ek (fun b=>.ok (x,b)) [] x:=⟨fun r=>rfl,fun k h=>by simp at h⟩
theorem ek.bind{α β : Type}{d:List Nat->Except Nat (α×List Nat)}{f:α->List Nat->Except Nat (β×List Nat)}{e e':List Nat}{x:α}{y:β}(h1:ek d e x)(h2:ek (f x) e' y) :
  ek (aC d f) (e++e') y:=by
 refine⟨fun r=>?_,fun k hk=>?_⟩
 ·rw[jez,db (h1.1 _)]
  exact h2.1 r
 ·rw[List.take_append]
  rcases jeM k e.length with h | h
  ·rw[show k-e.length=0 by omega,jfK,jeG]
   exact cE (h1.2 k h)
  ·rw[je4 h,db (h1.1 _)]
   exact h2.2 _ (by rw[jem]at hk;omega)
theorem ek.then{α β : Type}{d:List Nat->Except Nat (α×List Nat)}{f:α->List Nat->Except Nat (β×List Nat)}{e e':List Nat}{x:α}{y:β}(h1:ek d e x)(h2:qT (f x) e' y) :
  qT (aC d f) (e++e') y:=by
 refine⟨?_,fun z r=>?_,fun k hk=>?_⟩
 ·rw[db (h1.1 _)]
  exact h2.1
 ·rw[jez,db (h1.1 _)]
  exact h2.2.1 z r
 ·rw[List.take_append]
  rcases jeM k e.length with h | h
  ·rw[show k-e.length=0 by omega,jfK,jeG]
   exact cE (h1.2 k h)
  ·rw[je4 h,db (h1.1 _)]
   exact h2.2.2 _ (by rw[jem]at hk;omega)
theorem ek.map{α β : Type}{d:List Nat->Except Nat (α×List Nat)}{e:List Nat}{x:α}(g:α->β)(h:ek d e x):ek (aC d fun a r=>.ok (g a,r)) e (g x):=by
 have:=h.bind (f:=fun a r=>.ok (g a,r)) (e':=[]) (y:=g x) (ek.pure (g x));rwa[jeG]at this
theorem qT.map{α β : Type}{d:List Nat->Except Nat (α×List Nat)}{e:List Nat}{x:α}(g:α->β)(h:qT d e x):qT (aC d fun a r=>.ok (g a,r)) e (g x):=by
 refine⟨by rw[db h.1],fun y r=>?_,fun k hk=>cE (h.2.2 k hk)⟩;rcases h.2.1 y r with h1 | h1
 ·exact Or.inl (cE h1)
 ·exact Or.inr (by rw[db h1])
def num(b:List Nat):Except Nat (Nat×List Nat):=if (gt b).2.2=0 then .ok ((gt b).1,b.drop (gt b).2.1) else .error (gt b).2.2
theorem lT{n:Nat}(hn:n<18446744073709551616):ek num (uv n) n:=by
 refine⟨fun r=>?_,fun k hk=>?_⟩
 ·unfold num
  rw[mH n hn r,jei rfl,je3]
 ·unfold num
  rw[RK n hn k hk,jeh (by simp)]
def fL(u:Nat):Int:=if u % 2=0 then ((u / 2:Nat):Int) else -((u / 2:Nat):Int)-1
theorem MV(z:Int):fL (zigzag z)=z:=by
 unfold fL zigzag;split<;>split<;>omega
theorem MW(u:Nat):zigzag (fL u)=u:=by
 unfold fL zigzag;split<;>split<;>omega
theorem kl{u:Nat}(h:u<18446744073709551616):I64 (fL u):=by
 unfold fL I64;split<;>omega
def wv(x:Int):List Nat:=uv (zigzag x)
def wh(b:List Nat):Except Nat (Int×List Nat):=if (gt b).2.2=0 then .ok (fL (gt b).1,b.drop (gt b).2.1) else .error (gt b).2.2
theorem lU{x:Int}(hx:I64 x):ek wh (wv x) x:=by
 have hn:=zigzag_lt hx.1 hx.2;refine⟨fun r=>?_,fun k hk=>?_⟩
 ·unfold wh wv
  rw[mH _ hn r,jei rfl,je3,MV]
 ·unfold wh
  rw[wv,RK _ hn k hk,jeh (by simp)]
theorem ja3{b r:List Nat}{n:Nat}(hb:∀ x∈b,x<256)(h:num b=.ok (n,r)):n<18446744073709551616/\b=uv n++r:=by
 unfold num at h;split at h
 ·next h0 =>
  simp only[Except.ok.injEq,Prod.mk.injEq]at h;obtain⟨h1,h2⟩:=h;obtain⟨g1,g2,_⟩:=RM (n:=(gt b).1) (u:=(gt b).2.1) hb (by rw[← h0]);rw[h1]at g1 g2;exact⟨g1,by rw[← h2];exact g2⟩
 ·simp at h
theorem wh_ok{b r:List Nat}{x:Int}(hb:∀ x∈b,x<256)(h:wh b=.ok (x,r)):I64 x/\b=wv x++r:=by
 unfold wh at h;split at h
 ·next h0 =>
  simp only[Except.ok.injEq,Prod.mk.injEq]at h;obtain⟨rfl,h2⟩:=h;obtain⟨g1,g2,_⟩:=RM (n:=(gt b).1) (u:=(gt b).2.1) hb (by rw[← h0]);refine⟨kl g1,?_⟩;unfold wv;rw[MW,← h2];exact g2
 ·simp at h
theorem ja4(x:Int):0<(wv x).length:=mG _
theorem zG{x:Int}:∀ y∈wv x,y<256:=hO
theorem fC{x:Int}(h:I64 x):(wv x).length<=10:=bO (zigzag_lt h.1 h.2)
open Go
def ix(f:Fd):List Nat:=uv f.1++uv f.2.1.size++de f.2.1++uv f.2.2.1++uv (ff f.2.2.2)
def ia(l:List Fd):List Nat:=l.flatMap ix
def dH(id:Nat)(l:List Fd):List Nat:=uv id++uv l.length++ia l
theorem mI{l:List Fd}{i:Nat}(h:i<l.length):ia (l.take (i+1))=ia (l.take i)++ix l[i]:=by
 unfold ia;rw[jeA h,jfw];simp
theorem zH{f:Fd}(h:Okf f)(hs:f.2.1.size<18446744073709551616):(ix f).length<=40+f.2.1.size:=by
 unfold ix;have h1:=bO (n:=f.1) (by have:=h.1;omega);have h2:=bO (n:=f.2.1.size) hs;have h3:=bO (n:=f.2.2.1) (by have:=h.2;omega);have h4:=bO (n:=ff f.2.2.2) (by unfold ff;split<;>omega);simp only[jem,jc];omega
theorem MX{l:List Fd}(h:∀ f∈l,Okf f)(hs:szs l<5000):(ia l).length<=40*l.length+szs l:=by
 induction l with
 | nil=>simp[ia]
 | cons f t ih =>
  have hz:szs (f::t)=f.2.1.size+szs t:=by simp[szs]
  have:=ih (fun g hg=>h g (by simp[hg])) (by omega);have h2:=zH (h f (by simp)) (by omega);unfold ia at *;rw[jfG,jem,jer,hz];omega
def iy(room:Nat)(b:List Nat):Except Nat (Nat×List Nat) :=
 if (gt b).2.2≠0 then .error (gt b).2.2 else if room<(gt b).1 then .error 40 else .ok ((gt b).1,b.drop (gt b).2.1)
def RN(room:Nat):List Nat->Except Nat (ByteArray×List Nat):=aC (iy room) textR
def uX:List Nat->Except Nat (Fd×List Nat) :=
 aC (iy 4294967295) fun i=>aC (RN 16) fun s=>aC (iy 255) fun k=>aC (iy 1) fun n r=>.ok ((i,s,k,decide (n=1)),r)
def li:Nat->List Nat->Except Nat (List Fd×List Nat)
 | 0=>fun b=>.ok ([],b)
 | n+1=>aC (li n) fun l=>aC uX fun f r=>.ok (l++[f],r)
def DD:List Nat->Except Nat ((Nat×List Fd)×List Nat) :=
 aC (iy 4294967295) fun i=>aC (iy 8) fun n=>aC (li n) fun l r=>.ok ((i,l),r)
def di(b:List Nat):Except Nat ((Nat×List Fd)×List Nat) :=
 aC DD (fun s r=>if chk s.1 s.2=0 then .ok (s,r) else .error (chk s.1 s.2)) b
theorem Rds.bind{α β : Type}{m:List Nat->Except Nat (α×List Nat)}{k:α->List Nat->Except Nat (β×List Nat)}{l l1 l2:List Nat}{f f1 f2:Nat}{x:α}{y:β}
  (h1:Rds m l f x l1 f1) (h2:Rds (k x) l1 f1 y l2 f2):Rds (aC m k) l f y l2 f2:=by
 refine⟨fun h0=>?_,fun h0=>?_⟩
 ·have e1:=h1.1 h0
  by_cases hf:f1=0
  ·rw[jei hf]at e1
   rw[db e1];exact h2.1 hf
  ·rw[jeh hf]at e1
   rw[cE e1,h2.2 hf,jeh hf]
 ·have e1:=h1.2 h0
  rw[h2.2 (by omega),e1]
theorem Bz{room:Nat}{l:List Nat}{f:Nat}:Rds (iy room) l f (if (gt l).2.2≠0∨room<(gt l).1 then 0 else (gt l).1) (if (gt l).2.2≠0∨room<(gt l).1 then l else l.drop (gt l).2.1)
  (if f=0 then (if (gt l).2.2≠0 then (gt l).2.2 else if room<(gt l).1 then 40 else 0) else f):=by
 refine⟨fun h0=>?_,fun h0=>jeh h0⟩;rw[jei h0];unfold iy;by_cases h1:(gt l).2.2≠0
 ·rw[jei h1,jei h1,jeh h1]
 ·rw[jeh h1,jeh h1]
  by_cases h2:room<(gt l).1
  ·rw[jei h2,jei h2,jeh (by omega)]
  ·rw[jeh h2,jeh h2,jei rfl,jeh (by omega),jeh (by omega)]
theorem Bm.bind{α β : Type}{m:List Nat->Except Nat (α×List Nat)}{k:α->List Nat->Except Nat (β×List Nat)}{e e':List Nat}{x:α}{y:β}(h1:Bm m e x)(h2:Bm (k x) e' y):Bm (aC m k) (e++e') y:=by
 intro r;rw[jez];rcases h1 (e'++r)with h | ⟨c,hc,h⟩
 ·rw[db h];exact h2 r
 ·rw[cE h];exact Or.inr ⟨c,hc,rfl⟩
theorem uW.bind{α β : Type}{m:List Nat->Except Nat (α×List Nat)}{k:α->List Nat->Except Nat (β×List Nat)}{e e':List Nat}{x:α}{y:β}(h1:uW m e x)(h2:uW (k x) e' y):uW (aC m k) (e++e') y:=by
 intro r;rw[jez,db (h1 (e'++r))];exact h2 r
theorem kw{room n:Nat}(hn:n<18446744073709551616)(hr:n<=room):uW (iy room) (uv n) n:=by
 intro r;unfold iy;rw[mH n hn r];simp only;rw[jeh (by omega),jeh (by omega),je3]
theorem lV{room n:Nat}(hn:n<18446744073709551616):Bm (iy room) (uv n) n:=by
 intro r;by_cases hr:n<=room
 ·exact Or.inl (kw hn hr r)
 ·right
  refine⟨40,by omega,?_⟩;unfold iy;rw[mH n hn r];simp only;rw[jeh (by omega),jei (by omega)]
theorem RO{f:Fd}(h:Okf f)(hs:f.2.1.size<18446744073709551616):Bm uX (ix f) f:=by
 obtain⟨i,s,k,n⟩:=f;have h1:=h.1;have h2:=h.2;simp only at h1 h2 hs;have e:ix (i,s,k,n)=uv i++((uv s.size++de s)++(uv k++(uv (ff n)++[]))):=by simp[ix]
 rw[e];refine(lV (by omega)).bind (((lV hs).bind (wC s).eith).bind ((lV (by omega)).bind ((lV (by unfold ff;split<;>omega)).bind ?_)));intro r;left
 rw[Dw];rfl
theorem RQ{f:Fd}(h:Okf f)(hs:f.2.1.size<=16):uW uX (ix f) f:=by
 obtain⟨i,s,k,n⟩:=f;have h1:=h.1;have h2:=h.2;simp only at h1 h2 hs;have e:ix (i,s,k,n)=uv i++((uv s.size++de s)++(uv k++(uv (ff n)++[]))):=by simp[ix]
 rw[e];have jH:ff n<=1:=by unfold ff;split<;>omega
 refine(kw (by omega) (by omega)).bind (((kw (by omega) hs).bind (wC s)).bind ((kw (by omega) (by omega)).bind ((kw (by omega) jH).bind ?_)));intro r;rw[Dw];rfl
theorem MY{l:List Fd}(h:∀ f∈l,Okf f/\f.2.1.size<18446744073709551616):∀ n,n<=l.length->Bm (li n) (ia (l.take n)) (l.take n):=by
 intro n;induction n with
 | zero=>intro _;exact(zC _).eith
 | succ n ih =>
  intro hn;have hf:=h l[n] (jeo (by omega));rw[mI (by omega),jeA (by omega),← jeG (ix l[n])];exact(ih (by omega)).bind ((RO hf.1 hf.2).bind (fun r=>Or.inl rfl))
theorem MZ{l:List Fd}(h:∀ f∈l,Okf f/\f.2.1.size<=16):∀ n,n<=l.length->uW (li n) (ia (l.take n)) (l.take n):=by
 intro n;induction n with
 | zero=>intro _;exact zC _
 | succ n ih =>
  intro hn;have hf:=h l[n] (jeo (by omega));rw[mI (by omega),jeA (by omega),← jeG (ix l[n])];exact(ih (by omega)).bind ((RQ hf.1 hf.2).bind (fun r=>rfl))
theorem DE{id:Nat}{l:List Fd}(lM:id<4294967296)(ho:∀ f∈l,Okf f)(hs:szs l<5000)(hl:l.length<=100)(r:List Nat) :
  if chk id l=0 then di (dH id l++r)=.ok ((id,l),r) else ∃ c,c≠0/\di (dH id l++r)=.error c:=by
 have e:dH id l=uv id++(uv l.length++(ia l++[])):=by simp[dH]
 by_cases h:chk id l=0
 ·rw[jei h]
  have hr:=qN h
  have kT:fe [] l=0:=by
   unfold chk at h;rwa[jeh (by omega)]at h
  have hn:=qP kT;have hjf:=MZ (fun f hf=>⟨ho f hf,hn f hf⟩) l.length (jek _);rw[jes]at hjf
  have hj:uW DD (dH id l) (id,l):=by
   rw[e];exact(kw (by omega) (by omega)).bind ((kw (by omega) (by omega)).bind ((hjf).bind (fun r=>rfl)))
  unfold di;rw[db (hj r)];simp only;rw[jei h]
 ·rw[jeh h]
  have hjf:=MY (l:=l) (fun f hf=>⟨ho f hf,by have:=LE hf;omega⟩) l.length (jek _);rw[jes]at hjf
  have hj:Bm DD (dH id l) (id,l):=by
   rw[e];exact(lV (by omega)).bind ((lV (by omega)).bind ((hjf).bind (fun r=>Or.inl rfl)))
  unfold di;rcases hj r with h2 | ⟨c,hc,h2⟩
  ·rw[db h2]
   simp only;rw[jeh h];exact⟨_,h,rfl⟩
  ·rw[cE h2]
   exact⟨c,hc,rfl⟩
theorem pZ:(Tryz.prog.info? 92).map (fun i=>(i.zero,i.size,i.bytes))=some (some (.int .u64 0),1,8):=by kernel_rfl
theorem ja5{acc:List UInt8}{k n:Nat}(h:acc++uvarint k=uvarint n)(hn:n<18446744073709551616):acc.length+1<=10:=by
 have h1:=uvarint_length64 hn;have h2:=uvarint_pos k;have h3:=jep List.length h;rw[jem]at h3;omega
theorem DF(n:Nat)(hn:n<18446744073709551616)(w:World) :
  Calls Tryz.prog 119 #[.int .u64 (n:Int)] w fun e w'=>(∃ v,e=.returned v/\w'.ownsRow w.heap.size 5 1 v (uvarint n).length (aX (uvarint n)))/\Below w.heap.size w w':=by
 obtain⟨i0,hi,ch,hz1',bv⟩:=jeD jv;have HN:=ae hn;clear hn;go_enter Tryz.func119,Tryz.ntmps119
 go_wp2_with fail;go_loopw [0,3] (fun m b wr=>∃(k:Nat) (acc:List UInt8),m=.int .u64 (k:Int)/\k<18446744073709551616/\acc++uvarint k=uvarint n/\wr.ownsRow w.heap.size 5 1 b acc.length (aX acc)/\Below w.heap.size w wr) (fun m _ _=>(intOf m).toNat)
 case atStart=>exact⟨n,[],rfl,HN.o,rfl,jfb _ _ _ _,jej _ _⟩
 case round =>
  obtain⟨k,acc,rfl,hk,KP,aA,az⟩:=hrel;have bR:=ja5 KP HN.o;have HA:=ae KP;have HO:=ae aA;have HB:=ae az;have bH:=az.size;clear KP aA az;by_cases h:(k:Int)>=128
  ·have hor:=u8_or128_any ((k:Int) % 256) (by omega) (by omega)
   go_wp2_with (first | (at_builtin;refine jeY _ rfl _ _ 30 rfl w.heap.size 5 i0 (.int .u8 0) 1 1 Tryz.underlying30 hi ch hz1' bv rfl (by decide) _ _ _ rfl (HO.o.alloc _) ⟨wr.heap.size,0,none⟩ 1 1 [.int .u8 ((k:Int) % 128+128)] rfl rfl ?c1 ?c2 ?c3 ?c4 ?c5 ?_))
   case c1=>exact cell_one_new _ _ _
   case c2=>first | rfl | (intro u hu;simp at hu;subst hu;rfl)
   case c3=>unfold maxLen;omega
   case c4=>omega
   case c5=>first | omega | (simp;omega)
   intro v1 w2 o1 g1 _ e1;have eO:=ae o1;have aP:=ae ((HB.o.alloc (by omega) _).grown g1 (by simp;omega) (fun k hk=>(HO.o.lt k hk).1));clear o1 g1 e1;go_wp2_with fail;go_roundw
   case rel =>
    refine⟨k / 128,acc++[(k % 128+128).toUInt8],by go_num,by omega,?_,?_,aP.o⟩
    ·rw[← HA.o,uvarint_big (x:=k) (by omega)];simp
    ·rw[jI,jem]
     rw[jV (by omega)];exact eO.o
   case measure=>simp[intOf];omega
  ·have WD:uvarint k=[k.toUInt8]:=uvarint_small (by omega)
   have HS:=ae WD;clear WD;go_wp2_with (first | (at_builtin;refine jeY _ rfl _ _ 30 rfl w.heap.size 5 i0 (.int .u8 0) 1 1 Tryz.underlying30 hi ch hz1' bv rfl (by decide) _ _ _ rfl (HO.o.alloc _) ⟨wr.heap.size,0,none⟩ 1 1 [.int .u8 (k:Int)] rfl rfl ?c1 ?c2 ?c3 ?c4 ?c5 ?_))
   case c2=>first | rfl | (intro u hu;simp at hu;subst hu;rfl)
   case c3=>unfold maxLen;omega
   case c4=>omega
   case c5=>first | omega | (simp;omega)
   intro v1 w2 o1 g1 _ e1;have eO:=ae o1;have aP:=ae ((HB.o.alloc (by omega) _).grown g1 (by simp;omega) (fun k hk=>(HO.o.lt k hk).1));clear o1 g1 e1;go_wp2_with fail;go_ret
   refine⟨⟨_,rfl,?_⟩,aP.o⟩;have h1:=eO.o;rw[← HA.o,HS.o,jI,jem];rw[jV (by omega)];exact h1
theorem Hg:∀(N n:Nat),n<=N->n<18446744073709551616->∀ w:World,
  Calls Tryz.prog 45 #[.int .u64 (n:Int)] w fun e w'=>(∃ v,e=.returned v/\w'.ownsRow w.heap.size 5 1 v (uvarint n).length (aX (uvarint n)))/\Below w.heap.size w w':=by
 intro N;induction N with
 | zero =>
  intro n h0 hn w;obtain rfl:n=0:=by omega
  have HS:=ae (uvarint_small (x:=0) (by omega));go_enter Tryz.func45,Tryz.ntmps45
  go_wp2_with fail;go_ret
  refine⟨⟨_,rfl,?_⟩,(jej _ _).alloc (jek _) _⟩;rw[HS.o];exact jfv w #[.int .u8 0] 1 (jek _) (by unfold maxLen;omega) rfl
 | succ N ih =>
  intro n h0 hn w;obtain⟨i0,hi,ch,hz1',bv⟩:=jeD jv;by_cases h:(n:Int)<128
  ·have HS:=ae (uvarint_small (x:=n) (by omega))
   have HV:=ae (jV (x:=n) (by omega));clear ih;go_enter Tryz.func45,Tryz.ntmps45
   go_wp2_with fail;go_ret
   refine⟨⟨_,rfl,?_⟩,(jej _ _).alloc (jek _) _⟩;rw[HS.o,HV.o];exact jfv w #[.int .u8 (n:Int)] 1 (jek _) (by unfold maxLen;omega) rfl
  ·have HS:=ae (uvarint_big (x:=n) (by omega))
   have HL:=ae (uvarint_length64 (x:=n / 128) (by omega));have HP:=ae (uvarint_pos (n / 128));have HV:=ae (jV (x:=n % 128+128) (by omega));have HI:=ae (ih (n / 128) (by omega) (by omega));have yf:∀ B,B<=w.heap.size->(w.alloc (.cells #[.int .u8 ((n:Int) % 128+128)] 5)).ownsRow B 5 1 (.slice (some ⟨w.heap.size,0,none⟩) 1 1) 1 [.int .u8 ((n:Int) % 128+128)]:=fun B hB=>jfv w #[.int .u8 ((n:Int) % 128+128)] 1 hB (by unfold maxLen;omega) rfl
   have HLit:=ae yf;clear ih yf;go_enter Tryz.func45,Tryz.ntmps45
   go_wp2_with fail;refine(HI.o _).mono ?_;rintro e w2 ⟨⟨v,rfl,aA⟩,hb⟩;obtain⟨g,cap,rfl,hg,hgB,hc⟩:=(sS aA).2 HP.o;have HC:=ae hc;have HO:=ae (bJ (HLit.o w.heap.size (jek _)) hb);have HB:=ae (((jej w.heap.size w).alloc (jek _) (.cells #[.int .u8 ((n:Int) % 128+128)] 5)).trans (hb.mono (by simp)));have hz:=hb.size;simp at hz
   clear hc aA hb;have bR:=HL.o;go_wp2_with (first | (at_builtin;refine jeY _ rfl _ _ 30 rfl w.heap.size 5 i0 (.int .u8 0) 1 1 Tryz.underlying30 hi ch hz1' bv rfl (by decide) _ _ _ rfl HO.o ⟨g,0,none⟩ (uvarint (n / 128)).length cap (aX (uvarint (n / 128))) rfl (by rw[nf];omega) ?c1 ?c2 ?c3 ?c4 ?c5 ?_))
   case c1=>intro j u hu;rw[mC];exact HC.o j u hu
   case c2=>exact sT _
   case c3=>unfold maxLen;omega
   case c4=>omega
   case c5=>omega
   intro v1 w3 o1 g1 _ e1;have eO:=ae o1;have aP:=ae (HB.o.grown g1 (by omega) (fun k hk=>(HO.o.lt k hk).1));clear o1 g1 e1;go_wp2_with fail;go_ret
   refine⟨⟨_,rfl,?_⟩,aP.o⟩;have h1:=eO.o;rw[HS.o]
   have e2:aX ((n % 128+128).toUInt8::uvarint (n / 128))=[.int .u8 ((n:Int) % 128+128)]++aX (uvarint (n / 128)):=by
    rw[← List.singleton_append,jI,HV.o];rfl
   rw[e2,jer,Nat.add_comm];exact h1
theorem wM(n:Nat)(hn:n<18446744073709551616)(w:World) :
  Calls Tryz.prog 45 #[.int .u64 (n:Int)] w fun e w'=>(∃ v,e=.returned v/\w'.ownsRow w.heap.size 5 1 v (uvarint n).length (aX (uvarint n)))/\Below w.heap.size w w' :=
 Hg n n (jek _) hn w
def kX(k:IntKind)(x:Int)(u e:Nat):Ending:=.returned (.tuple #[.int k x,.int .i64 (u:Int),.int .i64 (e:Int)])
theorem Na(n used:Nat)(c:UInt8)(hu:used<=10)(w:World) :
  Calls Tryz.prog 213 #[.int .u64 (n:Int),.int .i64 (used:Int),.int .u8 (c.toNat:Int)] w fun e w' =>
   e=(if c.toNat=0/\1<used then kX .u64 0 0 31 else kX .u64 (n:Int) used 0)/\w'=w:=by
 by_cases h1:((c.toNat:Int)==0)=true
 ·have h1':c.toNat=0:=by simpa using h1
  by_cases h2:(used:Int) > 1
  ·rw[jei ⟨h1',by omega⟩]
   clear h1';go_enter Tryz.func213,Tryz.ntmps213
   go_wp2_with fail;go_ret3
   exact⟨rfl,rfl⟩
  ·rw[jeh (fun h=>by omega)]
   clear h1';go_enter Tryz.func213,Tryz.ntmps213
   go_wp2_with fail;go_ret3
   exact⟨rfl,rfl⟩
 ·have h1':((c.toNat:Int)==0)=false:=by simpa using h1
  rw[jeh (fun h=>h1 (by simpa using h.1))];clear h1;go_enter Tryz.func213,Tryz.ntmps213
  go_wp2_with fail;go_ret3
  exact⟨rfl,rfl⟩
theorem Nb(a:Option Addr)(cap:Nat)(w:World):Calls Tryz.prog 180 #[.slice a 0 cap] w fun e w'=>e=kX .u64 0 0 30/\w'=w:=by
 go_enter Tryz.func180,Tryz.ntmps180
 go_wp2_with fail;refine wp_loop_rounds 1 ?_;rw[rounds_succ];go_wp2_with fail;go_ret3
 exact⟨rfl,rfl⟩
theorem ja6{c k:Nat}:((c:Nat):Int)*2 ^ (7*k)=((c*128 ^ k:Nat):Int):=by
 rw[← ja2];simp
theorem Xk{l:List UInt8}{k:Nat}(h:k<l.length)(h9:k<=9)(kU:val (l.take (k+1))<18446744073709551616) :
  bits .or .u64 (val (l.take k):Int) (IntKind.u64.wrap ((l[k].toNat:Int) % 128*2 ^ (7*k)))=(val (l.take (k+1)):Int):=by
 have hv:=fA h;have hl:=wI (l.take k);rw[jeq,jfk (by omega)]at hl
 have e:(l[k].toNat:Int) % 128*2 ^ (7*k)=((l[k].toNat % 128*128 ^ k:Nat):Int):=by
  rw[← ja6];simp
 rw[e,wraps_u64 _ (by omega) (by omega),RJ h9 hl (by omega),hv]
theorem Xl{k:Nat}{n:Int}{c:UInt8}(hu:k+1<=10)(w:World){P:Ending->World->Prop}(h:Calls Tryz.prog 213 #[.int .u64 n,.int .i64 ((k+1:Nat):Int),.int .u8 (c.toNat:Int)] w P) :
  Calls Tryz.prog 213 #[.int .u64 n,.int .i64 ((k:Int)+1),.int .u8 (c.toNat:Int)] w P:=by
 have e:((k+1:Nat):Int)=(k:Int)+1:=by omega
 rwa[e]at h
theorem RS(b off cap:Nat)(l:List UInt8)(w:World)(jb0:l.length<=maxLen)(aW:l.length<=cap)
  (hc:∀ j (h:j<l.length),w.cell? ⟨b,off+j,none⟩=some (.int .u8 (l[j].toNat:Int))) :
  Calls Tryz.prog 180 #[.slice (some ⟨b,off,none⟩) l.length cap] w fun e w'=>e=kX .u64 ((fG l).1:Int) (fG l).2.1 (fG l).2.2/\w'=w:=by
 have hm:l.length<=9223372036854775807:=by unfold maxLen at jb0;omega
 have HC:=ae hc;clear hc jb0;go_enter Tryz.func180,Tryz.ntmps180
 go_wp2_with fail;go_loopw [5,10] (fun n i w'=>w'=w/\∃ k:Nat,k<=9/\k<=l.length/\k<=aU l/\i=.int .i64 (k:Int)/\n=.int .u64 (val (l.take k):Int)) (fun _ i _=>l.length-(intOf i).toNat)
 case atStart=>exact⟨rfl,0,by omega,by omega,by omega,rfl,rfl⟩
 case round =>
  obtain⟨rfl,k,h9,hk,AN,rfl,rfl⟩:=hrel;by_cases aB:k<l.length
  ·have dN:=HC.o k aB
   have hval:=fA aB;have Vo:=wI (l.take k);rw[jeq,jfk (by omega)]at Vo;have HT:=ae (fun(e:k=9) (h:1<l[k].toNat)=>Hd (l:=l) (by omega) (by omega) (by subst e;exact h));have HL:=ae (fun h1 h2=>zE (l:=l) AN h9 aB h1 h2);have HN:=ae (MT AN aB);have kU:=fun h=>Xk (l:=l) aB h9 (RH (l:=l) h9 aB h)
   have eX:=l[k].toNat_lt;have han:=MU l[k];have vJ:=ae AN;have lN:=ae (fun w=>Xl (k:=k) (by omega) w (Na (val (l.take (k+1))) (k+1) l[k] (by omega) w));clear AN;generalize l[k]=c at *;by_cases hk9:((k:Int)==9)=true
   ·have hk9':k=9:=by have:(k:Int)=9:=(by simpa using hk9);omega
    by_cases lK:(c.toNat:Int) > 1
    ·have HE:=ae (HT.o hk9' (by omega))
     clear HT HL HN kU hval Vo han hk9';go_wp2_with fail;go_ret3
     rw[HE.o];exact⟨rfl,rfl⟩
    ·have HJ:=ae (kU (fun _=>by omega))
     have HF:=ae (HL.o (by omega) (fun _=>by omega));clear HT HL HN kU hval Vo hk9';go_wp2_with fail;rw[HJ.o];refine(lN.o _).mono ?_;rintro e w1 ⟨rfl,rfl⟩
     have gP:jgf ((if c.toNat=0/\1<k+1 then kX .u64 0 0 31 else kX .u64 (val (l.take (k+1)):Int) (k+1) 0)=kX .u64 ((fG l).1:Int) (fG l).2.1 (fG l).2.2):=by
      show _=_
      rw[HF.o];by_cases h:c.toNat=0/\0<k
      ·rw[jei h,jei ⟨h.1,by omega⟩];rfl
      ·rw[jeh h,jeh (fun h1=>h ⟨h1.1,by omega⟩)]
     rw[gP.o];unfold kX;go_wp2_with fail;go_ret3
     exact⟨rfl,rfl⟩
   ·have hk9':((k:Int)==9)=false:=by simpa using hk9
    have hk8:k<=8:=by have:¬ (k:Int)=9:=(by simpa using hk9);omega
    have HJ:=ae (kU (fun _=>by omega));clear hk9;by_cases lK:(c.toNat:Int)<128
    ·have HF:=ae (HL.o (by omega) (fun _=>by omega))
     clear HT HL HN kU hval Vo;go_wp2_with fail;rw[HJ.o];refine(lN.o _).mono ?_;rintro e w1 ⟨rfl,rfl⟩
     have gP:jgf ((if c.toNat=0/\1<k+1 then kX .u64 0 0 31 else kX .u64 (val (l.take (k+1)):Int) (k+1) 0)=kX .u64 ((fG l).1:Int) (fG l).2.1 (fG l).2.2):=by
      show _=_
      rw[HF.o];by_cases h:c.toNat=0/\0<k
      ·rw[jei h,jei ⟨h.1,by omega⟩];rfl
      ·rw[jeh h,jeh (fun h1=>h ⟨h1.1,by omega⟩)]
     rw[gP.o];unfold kX;go_wp2_with fail;go_ret3
     exact⟨rfl,rfl⟩
    ·have HF:=ae (HN.o (by omega))
     clear HT HL HN kU hval Vo;go_wp2_with fail;rw[HJ.o];go_roundw
     case rel=>exact⟨trivial,k+1,by omega,by omega,HF.o,by go_num,rfl⟩
     case measure=>simp[intOf];omega
  ·have HE:=ae (DB AN h9 aB)
   clear AN;go_wp2_with fail;go_ret3
   rw[HE.o];exact⟨rfl,rfl⟩
theorem LJ{w:World}{v:Value}{l:List UInt8}(h:Sl w v l):Calls Tryz.prog 180 #[v] w fun e w'=>e=kX .u64 ((fG l).1:Int) (fG l).2.1 (fG l).2.2/\w'=w:=by
 obtain⟨a,cap,rfl,h1,h2,h3⟩:=h;cases l with
 | nil=>exact Nb a cap w
 | cons x r =>
  obtain⟨b,off,rfl,_,h5⟩:=h3 (by simp);exact RS b off cap (x::r) w (by omega) h1 h5
theorem Nc{l:List UInt8}(h:¬ (9<=aU l/\9<l.length/\1<(l.getD 9 0).toNat))(hl:aU l<l.length):aU l<=9/\(aU l=9->l[aU l].toNat<=1):=by
 have h9:aU l<=9:=by
  rcases jeM 9 (aU l)with h1 | h1
  ·exfalso
   apply h
   refine⟨by omega,by omega,?_⟩;rw[lh (by omega)];have:=nL l 9 (by omega) h1;omega
  ·exact h1
 refine⟨h9,fun e=>?_⟩;have h3:¬ 1<(l.getD 9 0).toNat:=fun h2=>h ⟨by omega,by omega,h2⟩
 rw[lh (by omega)]at h3;simp only[e];omega
theorem zI(l:List UInt8):(fG l).1<18446744073709551616/\(fG l).2.1<=l.length/\(fG l).2.1<=10/\((fG l).2.2=0∨(((fG l).2.2=30∨(fG l).2.2=31)/\(fG l).1=0/\(fG l).2.1=0)):=by
 have pt:=vU l;unfold fG;split
 ·simp
 ·rename_i h1
  split
  ·simp
  ·rename_i h2
   have hl:aU l<l.length:=(by omega);obtain⟨h9,ht⟩:=Nc h1 hl;split
   ·simp
   ·refine⟨RH h9 hl ht,?_,?_,Or.inl rfl⟩<;>simp only<;>omega
theorem RT{e:Nat}(h:e=0∨e=30∨e=31)(h0:¬ e=0):((e:Int) != 0)=true:=by simp;omega
theorem vV(n:Nat):aF .u8 (uv n)=aX (uvarint n):=wD _
theorem dQ(n:Nat)(hn:n<18446744073709551616)(w:World):Calls Tryz.prog 119 #[.int .u64 (n:Int)] w (dA w (uv n)):=by
 refine(DF n hn w).mono ?_;rintro e w' ⟨⟨v,rfl,h⟩,hb⟩;exact⟨⟨v,rfl,by unfold aD;rw[vV,mF];exact h⟩,hb⟩
theorem bK(n:Nat)(hn:n<18446744073709551616)(w:World):Calls Tryz.prog 45 #[.int .u64 (n:Int)] w (dA w (uv n)):=by
 refine(wM n hn w).mono ?_;rintro e w' ⟨⟨v,rfl,h⟩,hb⟩;exact⟨⟨v,rfl,by unfold aD;rw[vV,mF];exact h⟩,hb⟩
theorem gd(b:List Nat):(gt b).1<18446744073709551616/\(gt b).2.1<=b.length/\(gt b).2.1<=10/\((gt b).2.2=0∨(((gt b).2.2=30∨(gt b).2.2=31)/\(gt b).1=0/\(gt b).2.1=0)):=by
 have:=zI (b.map Nat.toUInt8);rw[jen]at this;exact this
theorem BA{w:World}{a:Option Addr}{n cap:Nat}{b:List Nat}(hb:Bs b)(h:Sv w (.slice a n cap) (aF .u8 b)) :
  Calls Tryz.prog 180 #[.slice a n cap] w fun e w'=>e=kX .u64 ((gt b).1:Int) (gt b).2.1 (gt b).2.2/\w'=w:=LJ (h.sl hb)
end Go.Proofs.YtpljdjmpamjkhaaGreatDoor
