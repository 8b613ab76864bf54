import Derived.Test.YtpljdjmpamjkhaaGreatDoorXac
import Derived.Lib.Zigzag
import Derived.Lib.VarintBits
set_option linter.unusedVariables false
set_option linter.unusedSimpArgs false
set_option maxRecDepth 100000
set_option maxHeartbeats 2000000
namespace Go.Proofs.YtpljdjmpamjkhaaGreatDoor
open Go.RowKit Go.Lib
theorem nC:∀{l m:List Nat},Bs l->Bs m->Op.bytesLess (l.map Nat.toUInt8) (m.map Nat.toUInt8)=decide (l<m)
 | [],[],_,_=>by simp[Op.bytesLess]
 | [],y::t,_,_=>by simp[Op.bytesLess]
 | x::s,[],_,_=>by simp[Op.bytesLess]
 | x::s,y::t,hl,hm=>by
  have ih:=nC (l:=s) (m:=t) (fun z hz=>hl z (by simp[hz])) (fun z hz=>hm z (by simp[hz]));have hx:=hl x (by simp);have hy:=hm y (by simp)
  have h1:(x.toUInt8<y.toUInt8)=(x<y):=by
   rw[UInt8.lt_iff_toNat_lt];simp[jen hx,jen hy]
  have h2:(x.toUInt8==y.toUInt8)=decide (x=y):=by
   by_cases h:x=y
   ·simp[h]
   ·have:x.toUInt8≠y.toUInt8:=fun e=>h (by
     have:=jdB UInt8.toNat e;simpa [jen hx,jen hy]using this)
    simp[h,this]
  simp only[jd5,Op.bytesLess,ih,h1,h2];have h3:(x::s<y::t)↔(x<y∨x=y/\s<t):=List.cons_lt_cons_iff;by_cases h:x<y<;>by_cases h':x=y<;>by_cases h'':s<t<;>simp[h3,h,h',h'']
def cY(c:Nat×Int×List Nat):Value :=
 if c.1=0 then .nilIface else if c.1=1 then .iface 2 (.int .i64 c.2.1) else if c.1=2 then .iface 4 (.bool (decide (c.2.1=1))) else .iface 9 (txt c.2.2)
def aI(l:List (Nat×Int×List Nat)):List Value:=l.map cY
def vF(c:Nat×Int×List Nat):List Value:=[.int .u8 (c.1:Int),.int .i64 c.2.1,txt c.2.2]
def gx(l:List (Nat×Int×List Nat)):List Value:=l.flatMap vF
theorem aG(l:List (Nat×Int×List Nat)):(aI l).length=l.length:=jdz _
theorem mw(a b:List (Nat×Int×List Nat)):aI (a++b)=aI a++aI b:=jdQ
theorem qA(a b:List (Nat×Int×List Nat)):gx (a++b)=gx a++gx b:=jeH
theorem pL(c:Nat×Int×List Nat)(l:List (Nat×Int×List Nat)):gx (c::l)=vF c++gx l:=jeQ
theorem mx:∀ l:List (Nat×Int×List Nat),(gx l).length=l.length*3
 | []=>rfl
 | c::t=>by
  rw[pL,jdy,mx t,jdD];simp[vF]
  omega
theorem cN{l:List (Nat×Int×List Nat)}{j:Nat}(h:j<l.length):(aI l)[j]?=some (cY l[j]):=by simp[aI,h]
theorem sq:∀{l:List (Nat×Int×List Nat)} {j:Nat} (h:j<l.length),(gx l)[j*3]?=some (.int .u8 (l[j].1:Int))/\(gx l)[j*3+1]?=some (.int .i64 l[j].2.1)/\(gx l)[j*3+2]?=some (txt l[j].2.2)
 | c::t,0,h=>by simp[pL,vF]
 | c::t,j+1,h=>by
  have ih:=sq (l:=t) (j:=j) (by simpa using h);rw[pL]
  have e:∀ k,(vF c++gx t)[(j+1)*3+k]?=(gx t)[j*3+k]?:=fun k=>by
   rw[List.getElem?_append_right (by simp[vF];omega)];simp only[vF,jdD,jdX];congr 1
   omega
  have e0:=e 0;simp only[jej]at e0;rw[e0,e 1,e 2];simpa using ih
theorem qB(c:Nat×Int×List Nat):(cY c).oneCell'=true:=by
 unfold cY;split
 ·rfl
 ·split
  ·rfl
  ·split<;>rfl
theorem xW(l:List (Nat×Int×List Nat)):∀ u∈aI l,u.oneCell'=true:=by
 intro u hu;obtain⟨x,_,rfl⟩:=jdR.1 hu;exact qB x
def OwnV(W:World)(B:Nat)(v:Value)(l:List (Nat×Int×List Nat)):Prop:=W.ownsRow B 78 1 v l.length (aI l)
def fH(W:World)(B:Nat)(v:Value)(l:List (Nat×Int×List Nat)):Prop:=W.ownsRow B 52 3 v l.length (gx l)
theorem OwnV.nil(W:World)(B:Nat):OwnV W B (.slice none 0 0) []:=jeo _ _ _ _
theorem fH.nil(W:World)(B:Nat):fH W B (.slice none 0 0) []:=jeo _ _ _ _
theorem OwnV.kept{w w':World}{B:Nat}{v:Value}{l:List (Nat×Int×List Nat)}(h:OwnV w B v l)(hb:Below w.heap.size w w'):OwnV w' B v l:=bL h hb
theorem fH.kept{w w':World}{B:Nat}{v:Value}{l:List (Nat×Int×List Nat)}(h:fH w B v l)(hb:Below w.heap.size w w'):fH w' B v l:=bL h hb
theorem OwnV.sv{W:World}{B:Nat}{v:Value}{l:List (Nat×Int×List Nat)}(h:OwnV W B v l):Sv W v (aI l):=Sv.of_own h
def Sc(W:World)(v:Value)(l:List (Nat×Int×List Nat)):Prop :=
 ∃ a cap,v=.slice a l.length cap/\l.length<=cap/\cap<=maxLen/\(0<l.length->∃ b off,a=some ⟨b,off,none⟩/\b<W.heap.size/\∀ j x,(gx l)[j]?=some x->W.cell? ⟨b,off+j,none⟩=some x)
theorem Sc.kept{W W':World}{v:Value}{l:List (Nat×Int×List Nat)}(h:Sc W v l)(hb:Below W.heap.size W W'):Sc W' v l:=by
 obtain⟨a,cap,h1,h2,h3,h4⟩:=h;refine⟨a,cap,h1,h2,h3,fun h0=>?_⟩;obtain⟨b,off,h5,h6,h7⟩:=h4 h0;exact⟨b,off,h5,jdS h6 hb.size,fun j x hj=>(hb.cell (p:=⟨b,off+j,none⟩) h6).trans (h7 j x hj)⟩
theorem fH.sc{W:World}{B:Nat}{v:Value}{l:List (Nat×Int×List Nat)}(h:fH W B v l):Sc W v l:=by
 rcases h with ⟨h0,⟨rfl,h1⟩ | ⟨g,cap,cur,rfl,h2,h3,h4,h5,h6,h7⟩⟩
 ·refine⟨none,0,by rw[h1],by omega,by unfold maxLen;omega,fun h=>by omega⟩
 ·refine⟨_,cap,rfl,h4,h5,fun _=>⟨g,0,rfl,(Array.getElem?_eq_some_iff.1 h3).1,fun j x hj=>?_⟩⟩
  rw[jdZ];simp only[World.cell?,h3];rw[← h7]at hj;have aB:=(List.getElem?_eq_some_iff.1 hj).1;rw[jdC]at aB;rw[List.getElem?_take_of_lt (by omega)]at hj;simpa using hj
theorem Sc.at{W:World}{a:Option Addr}{n cap:Nat}{l:List (Nat×Int×List Nat)}(h:Sc W (.slice a n cap) l){k:Nat}(hk:k<l.length) :
  ∃ b off,a=some ⟨b,off,none⟩/\b<W.heap.size/\W.cell? ⟨b,off+k*3,none⟩=some (.int .u8 (l[k].1:Int))/\W.cell? ⟨b,off+k*3+1,none⟩=some (.int .i64 l[k].2.1)/\W.cell? ⟨b,off+k*3+2,none⟩=some (txt l[k].2.2):=by
 obtain⟨a',cap',e,h1,h2,h4⟩:=h;simp only[Value.slice.injEq]at e;obtain⟨rfl,_,_⟩:=e;obtain⟨b,off,rfl,h5,h6⟩:=h4 (by omega);obtain⟨c0,c1,c2⟩:=sq hk;refine⟨b,off,rfl,h5,h6 _ _ c0,?_,?_⟩
 ·rw[jeD]
  exact h6 _ _ c1
 ·rw[jeD]
  exact h6 _ _ c2
theorem aK(w:World)(v:Value)(t:Nat):(w.alloc (.cells #[v] t)).cell? ⟨w.heap.size,0,none⟩=some v:=by
 have:=cell_one_new w v t 0 v rfl;rw[mv]at this;exact this
theorem ov(c:Nat×Int×List Nat)(h:c.1=0):cY c=.nilIface:=jdu h
theorem jY(c:Nat×Int×List Nat)(h:c.1≠0):∃ t u,cY c=.iface t u:=by
 unfold cY;rw[jdt h];split
 ·exact⟨_,_,rfl⟩
 ·split
  ·exact⟨_,_,rfl⟩
  ·exact⟨_,_,rfl⟩
theorem dX{w:World}{ops:Array Oper}{rest:List Oper}{o:Oper}{a:Act}{Q:Exit->Act->World->Prop}(ex:o.guard=none)(s x:Operand)
  (ho:o.op=.call { callee:=.builtin .append,args:=#[s,x],argTypes:=#[79,79] })
  (base:Nat) (v:Value) (g:Nat) (z:Nat×Int×List Nat) (l0:List (Nat×Int×List Nat)) (hs:a.eval s=v) (aA:OwnV w base v l0) (hx:a.eval x=.slice (some ⟨g,0,none⟩) 1 1) (hc:w.cell? ⟨g,0,none⟩=some (cY z))
  (hbytes:l0.length<=100000) (aJ:base<=w.heap.size)
  (h:∀ v' w',OwnV w' base v' (l0++[z])->Below base w w'->wpList Tryz.prog ops Q rest (a.put o.dst v') w') :
  wpList Tryz.prog ops Q (o::rest) a w:=by
 obtain⟨i0,hi,ct,hz1',bv⟩:=jdP vE;unfold OwnV at *
 refine jeb (w:=w) ex s x 79 ho base 78 i0 .nilIface 1 16 Tryz.underlying79 hi ct hz1' bv rfl (by decide) v l0.length (aI l0) hs aA ⟨g,0,none⟩ 1 1 [cY z] hx rfl ?_ (fun u hu=>by
  have:u=cY z:=by simpa using hu
  subst this;exact qB z) (by unfold maxLen;omega) (by omega) aJ ?_
 ·intro j u hu
  rw[mv];cases j with
  | zero =>
   simp only[List.getElem?_cons_zero,Option.some.injEq]at hu;rw[← hu];exact hc
  | succ j=>simp at hu
 ·intro v' w' o1 g1 _ _
  refine h v' w' ?_ ((jdv base w).grown g1 aJ (fun k hk=>(aA.lt k hk).1));rw[mw,jdy];exact o1
theorem jad:(Tryz.prog.info? 52).map (fun i=>(i.zero,i.size,i.bytes))=some (some (.agg #[.int .u8 0,.int .i64 0,.string ⟨#[]⟩]),3,32):=by kernel_rfl
theorem jB{w:World}{ops:Array Oper}{rest:List Oper}{o:Oper}{a:Act}{Q:Exit->Act->World->Prop}(ex:o.guard=none)(s x:Operand)
  (ho:o.op=.call { callee:=.builtin .append,args:=#[s,x],argTypes:=#[58,58] })
  (base:Nat) (v:Value) (g:Nat) (z:Nat×Int×List Nat) (l0:List (Nat×Int×List Nat)) (hs:a.eval s=v) (aA:fH w base v l0) (hx:a.eval x=.slice (some ⟨g,0,none⟩) 1 1)
  (qk:w.cell? ⟨g,0,none⟩=some (.int .u8 (z.1:Int))) (lp:w.cell? ⟨g,1,none⟩=some (.int .i64 z.2.1)) (jT:w.cell? ⟨g,2,none⟩=some (txt z.2.2))
  (hbytes:l0.length<=100000) (aJ:base<=w.heap.size)
  (h:∀ v' w',fH w' base v' (l0++[z])->Below base w w'->wpList Tryz.prog ops Q rest (a.put o.dst v') w') :
  wpList Tryz.prog ops Q (o::rest) a w:=by
 obtain⟨i0,hi,ct,hz1',bv⟩:=jdP jad;unfold fH at *
 refine jeb (w:=w) ex s x 58 ho base 52 i0 (.agg #[.int .u8 0,.int .i64 0,.string ⟨#[]⟩]) 3 32 Tryz.underlying58 hi ct hz1' bv rfl (by decide) v l0.length (gx l0) hs aA ⟨g,0,none⟩ 1 1 (vF z) hx rfl ?_ (fun u hu=>by
  unfold vF at hu;simp only[jdN,jfc,or_false]at hu;rcases hu with rfl | rfl | rfl<;>rfl) (by unfold maxLen;omega) (by omega) aJ ?_
 ·intro j u hu
  rw[mv];unfold vF at hu;match j,hu with
  | 0,hu=>simp only[List.getElem?_cons_zero,Option.some.injEq]at hu;rw[← hu];exact qk
  | 1,hu=>simp only[List.getElem?_cons_succ,List.getElem?_cons_zero,Option.some.injEq]at hu;rw[← hu];exact lp
  | 2,hu=>simp only[List.getElem?_cons_succ,List.getElem?_cons_zero,Option.some.injEq]at hu;rw[← hu];exact jT
  | j+3,hu=>simp at hu
 ·intro v' w' o1 g1 _ _
  refine h v' w' ?_ ((jdv base w).grown g1 aJ (fun k hk=>(aA.lt k hk).1));rw[qA,jdy];have:gx [z]=vF z:=by simp[gx]
  rw[this];exact o1
def aT(c:Nat×Int×List Nat):Prop :=
 c=nul∨(∃ n,c=(1,n,[])/\I64 n)∨(∃ n:Nat,c=(2,(n:Int),[])/\n<2)∨(∃ s,c=(3,0,s)/\s.length<=64/\Bs s)
theorem aT.val{c:Nat×Int×List Nat}(h:aT c):Val (cY c) (c.1:Int) c.2.1 (ak c.2.2):=by
 rcases h with rfl | ⟨n,rfl,h⟩ | ⟨n,rfl,h⟩ | ⟨n,rfl,h⟩
 ·exact Or.inl ⟨rfl,rfl,rfl,rfl⟩
 ·exact Or.inr (Or.inl ⟨rfl,rfl,rfl⟩)
 ·refine Or.inr (Or.inr (Or.inl ⟨decide (((n:Nat):Int)=1),rfl,rfl,?_,rfl⟩))
  obtain rfl | rfl:n=0∨n=1:=by omega
  ·rfl
  ·rfl
 ·exact Or.inr (Or.inr (Or.inr ⟨rfl,rfl,rfl⟩))
def Okc(c:Nat×Int×List Nat):Prop:=c.1<256/\I64 c.2.1/\Bs c.2.2
def bm(c:Nat×Int×List Nat):Nat×Int×List Nat:=if flt (c.1:Int) c.2.1 (ak c.2.2)=0 then c else nul
theorem jM{s:List Nat}(h:ak s=⟨#[]⟩):s=[]:=by
 have:=jdB ByteArray.size h;rw[bg]at this;exact jdV this
theorem fV{c:Nat×Int×List Nat}(h:Okc c):aT (bm c):=by
 unfold bm;split
 ·next h0 =>
  obtain⟨ck,cn,cs⟩:=c;obtain⟨g1,g2,g3⟩:=h;simp only at *;rcases vD (by omega) h0 with ⟨a1,a2,a3⟩ | ⟨a1,a3⟩ | ⟨a1,a2,a3⟩ | ⟨a1,a2,a3⟩ | ⟨a1,a2,a3⟩
  ·have e1:ck=0:=by omega
   have e3:=jM a3;subst e1 a2 e3;exact Or.inl rfl
  ·have e1:ck=1:=by omega
   have e3:=jM a3;subst e1 e3;exact Or.inr (Or.inl ⟨cn,rfl,g2⟩)
  ·have e1:ck=2:=by omega
   have e3:=jM a3;subst e1 a2 e3;exact Or.inr (Or.inr (Or.inl ⟨0,rfl,by omega⟩))
  ·have e1:ck=2:=by omega
   have e3:=jM a3;subst e1 a2 e3;exact Or.inr (Or.inr (Or.inl ⟨1,rfl,by omega⟩))
  ·have e1:ck=3:=by omega
   subst e1 a2;rw[bg]at a3;exact Or.inr (Or.inr (Or.inr ⟨cs,rfl,a3,g3⟩))
 ·exact Or.inl rfl
theorem Wm:flt 0 0 (ak [])=0:=by simp[flt,tx,jA,en,ByteArray.size]
theorem QR{c:Nat×Int×List Nat}(h:aT c):flt (c.1:Int) c.2.1 (ak c.2.2)=0:=by
 rcases h with rfl | ⟨n,rfl,_⟩ | ⟨n,rfl,hn⟩ | ⟨s,rfl,hs,_⟩
 ·exact Wm
 ·simp[flt,tx,jA,en,ByteArray.size]
 ·obtain rfl | rfl:n=0∨n=1:=by omega
  ·simp[flt,tx,jA,en,ByteArray.size]
  ·simp[flt,tx,jA,en,ByteArray.size]
 ·have:¬ 64<((ak s).size:Int):=by rw[bg];omega
  simp[flt,tx,jA,this]
theorem Mj{c:Nat×Int×List Nat}(h:aT c):bm c=c:=jdu (QR h)
theorem aT.okc{c:Nat×Int×List Nat}(h:aT c):Okc c:=by
 rcases h with rfl | ⟨n,rfl,h⟩ | ⟨n,rfl,hn⟩ | ⟨s,rfl,_,h⟩
 ·exact⟨by simp[nul],by simp[nul,I64],fun x hx=>by simp[nul]at hx⟩
 ·exact⟨by simp,h,fun x hx=>by simp at hx⟩
 ·exact⟨by simp,by simp only[I64];omega,fun x hx=>by simp at hx⟩
 ·exact⟨by simp,by simp[I64],h⟩
theorem CI{v:Value}{c:Nat×Int×List Nat}(hf:aT c)(h:Val v (c.1:Int) c.2.1 (ak c.2.2)):v=cY c:=by
 rcases hf with rfl | ⟨n,rfl,_⟩ | ⟨n,rfl,hn⟩ | ⟨s,rfl,_⟩
 ·rcases h with ⟨h,_⟩ | ⟨_,h,_⟩ | ⟨b,_,h,_⟩ | ⟨_,h,_⟩
  ·exact h
  ·simp[nul]at h
  ·simp[nul]at h
  ·simp[nul]at h
 ·rcases h with ⟨_,h,_⟩ | ⟨h,_⟩ | ⟨b,_,h,_⟩ | ⟨_,h,_⟩
  ·simp at h
  ·exact h
  ·simp at h
  ·simp at h
 ·rcases h with ⟨_,h,_⟩ | ⟨_,h,_⟩ | ⟨b,h,_,h2,_⟩ | ⟨_,h,_⟩
  ·simp at h
  ·simp at h
  ·rw[h]
   simp only at h2;obtain rfl | rfl:n=0∨n=1:=by omega
   ·cases b
    ·rfl
    ·simp at h2
   ·cases b
    ·simp at h2
    ·rfl
  ·simp at h
 ·rcases h with ⟨_,h,_⟩ | ⟨_,h,_⟩ | ⟨b,_,h,_⟩ | ⟨h,_⟩
  ·simp at h
  ·simp at h
  ·simp at h
  ·exact h
theorem gT(c:Nat×Int×List Nat):fk (c.1:Int) c.2.1 (ak c.2.2)=((bm c).1:Int)/\fn (c.1:Int) c.2.1 (ak c.2.2)=(bm c).2.1/\fs (c.1:Int) c.2.1 (ak c.2.2)=ak (bm c).2.2:=by
 unfold fk fn fs bm;split
 ·exact⟨rfl,rfl,rfl⟩
 ·exact⟨rfl,rfl,rfl⟩
theorem QS(c:Nat×Int×List Nat)(w:World):Calls Tryz.prog 73 #[.agg #[.int .u8 (c.1:Int),.int .i64 c.2.1,.string (ak c.2.2)]] w fun e w'=>e=.returned (.agg #[.int .u8 ((bm c).1:Int),.int .i64 (bm c).2.1,.string (ak (bm c).2.2)])/\Below w.heap.size w w':=by
 have:=KT (c.1:Int) c.2.1 (ak c.2.2) (by omega) w;rw[(gT c).1,(gT c).2.1,(gT c).2.2]at this;exact this
theorem Gq{c:Nat×Int×List Nat}(h:Okc c)(w:World):Calls Tryz.prog 86 #[.agg #[.int .u8 (c.1:Int),.int .i64 c.2.1,.string (ak c.2.2)]] w fun e w'=>e=.returned (cY (bm c))/\Below w.heap.size w w':=by
 have:=Mi (c.1:Int) c.2.1 (ak c.2.2) (by omega) w;rw[(gT c).1,(gT c).2.1,(gT c).2.2]at this;refine this.mono ?_;rintro e w' ⟨⟨v,rfl,hv⟩,hb⟩;rw[CI (fV h) hv];exact⟨rfl,hb⟩
theorem Sc.form{W:World}{v:Value}{l:List (Nat×Int×List Nat)}(h:Sc W v l):∃ a cap,v=.slice a l.length cap/\l.length<=cap/\cap<=maxLen:=by
 obtain⟨a,cap,h1,h2,h3,_⟩:=h;exact⟨a,cap,h1,h2,h3⟩
theorem QT{w:World}{v:Value}{l:List (Nat×Int×List Nat)}(hs:Sc w v l)(jx:∀ c∈l,Okc c)(hl:l.length<=600) :
  Calls Tryz.prog 42 #[v] w fun e w'=>(∃ v',e=.returned v'/\OwnV w' w.heap.size v' (l.map bm))/\Below w.heap.size w w':=by
 have HS:=ae hs;have HK:=ae jx;obtain⟨a,cap,rfl,aW,bw⟩:=hs.form;have hcm':cap<=9223372036854775807:=by unfold maxLen at bw;omega
 clear hs jx bw;go_enter Tryz.func42,Tryz.ntmps42
 go_wp2_with fail;go_loopw [3,4] (fun o i wr=>∃ j:Nat,j<=l.length/\i=.int .i64 (j:Int)/\OwnV wr w.heap.size o ((l.take j).map bm)/\Below w.heap.size w wr) (fun _ i _=>l.length-(intOf i).toNat)
 case atStart=>exact⟨0,by omega,rfl,OwnV.nil _ _,jdv _ _⟩
 case round =>
  obtain⟨j,hj,rfl,aA,az⟩:=hrel;have HO:=ae aA;have HB:=ae az;have bF:=az.size;clear aA az;by_cases aB:j<l.length
  ·obtain⟨g,off,rfl,hg,c0,c1,c2⟩:=(HS.o.kept HB.o).at aB
   have hlt':(j:Int)<(l.length:Int):=(by omega)
   have lE:jfp ((l.take (j+1)).map bm=(l.take j).map bm++[bm l[j]]):=ae (by
    rw[jdM aB,jdQ];rfl)
   have hlen':((l.take j).map bm).length<=100000:=by rw[jdz,jdC];omega
   have HVA:=ae (Gq (HK.o l[j] (jdA aB)));rw[dJ]at c2;generalize bm l[j]=fc at *;generalize ak l[j].2.2=S at *;generalize l[j].2.1=cn at *;generalize l[j].1=ck at *;generalize (l.take j).map bm=LL at *;go_wp2_with fail;refine(HVA.o _).mono ?_;rintro e w1 ⟨rfl,aH⟩;have eY:=ae (HO.o.kept aH);have aQ:=ae (HB.o.trans (aH.mono bF));have cP:=aH.size;clear aH c0 c1 c2;generalize hvc:cY fc=vc;have zY:∀ W:World,(W.alloc (.cells #[vc] 78)).cell? ⟨W.heap.size,0,none⟩=some (cY fc):=fun W=>by rw[hvc];exact aK _ _ _
   have kP:=ae zY
   have hvf:vc=.nilIface∨∃ tt uu,vc=.iface tt uu:=by
    rw[← hvc];by_cases h0:fc.1=0
    ·exact Or.inl (ov fc h0)
    ·exact Or.inr (jY fc h0)
   clear hvc zY;rcases hvf with rfl | ⟨tt,uu,rfl⟩
   ·go_wp2_with (first | (at_builtin;refine dX rfl _ _ rfl w.heap.size _ _ fc LL rfl (eY.o.kept (am _ _)) rfl (kP.o _) hlen' ?c2 ?_))
    case c2=>first | omega | (rw[jdx];omega)
    intro v' w5 o5 b5;have dE:=ae o5;have aR:=ae ((aQ.o.alloc (jdF bF cP) _).trans b5);clear o5 b5;go_wp2_with fail;go_roundw
    case rel=>exact⟨j+1,by omega,by go_num,by rw[lE.o];exact dE.o,aR.o⟩
    case measure=>simp[intOf];omega
   ·go_wp2_with (first | (at_builtin;refine dX rfl _ _ rfl w.heap.size _ _ fc LL rfl (eY.o.kept (am _ _)) rfl (kP.o _) hlen' ?c2 ?_))
    case c2=>first | omega | (rw[jdx];omega)
    intro v' w5 o5 b5;have dE:=ae o5;have aR:=ae ((aQ.o.alloc (jdF bF cP) _).trans b5);clear o5 b5;go_wp2_with fail;go_roundw
    case rel=>exact⟨j+1,by omega,by go_num,by rw[lE.o];exact dE.o,aR.o⟩
    case measure=>simp[intOf];omega
  ·obtain rfl:j=l.length:=by omega
   rw[jdE]at HO;have gj:¬ ((l.length:Nat):Int)<(l.length:Int):=(by omega);go_wp2_with fail;go_ret
   exact⟨⟨_,rfl,HO.o⟩,HB.o⟩
theorem dx(w:World)(x y z:Value)(t:Nat):(w.alloc (.cells #[x,y,z] t)).cell? ⟨w.heap.size,0,none⟩=some x/\(w.alloc (.cells #[x,y,z] t)).cell? ⟨w.heap.size,1,none⟩=some y/\(w.alloc (.cells #[x,y,z] t)).cell? ⟨w.heap.size,2,none⟩=some z:=by
 have h:=jdW w (.cells #[x,y,z] t);exact⟨by rw[ay h];rfl,by rw[ay h];rfl,by rw[ay h];rfl⟩
theorem Gt{w:World}{v:Value}{l:List (Nat×Int×List Nat)}(hs:Sc w v l)(hl:l.length<=600) :
  Calls Tryz.prog 38 #[v] w fun e w'=>(∃ v',e=.returned v'/\fH w' w.heap.size v' (l.map bm))/\Below w.heap.size w w':=by
 have HS:=ae hs;obtain⟨a,cap,rfl,aW,bw⟩:=hs.form;have hcm':cap<=9223372036854775807:=by unfold maxLen at bw;omega
 clear hs bw;go_enter Tryz.func38,Tryz.ntmps38
 go_wp2_with fail;go_loopw [3,4] (fun o i wr=>∃ j:Nat,j<=l.length/\i=.int .i64 (j:Int)/\fH wr w.heap.size o ((l.take j).map bm)/\Below w.heap.size w wr) (fun _ i _=>l.length-(intOf i).toNat)
 case atStart=>exact⟨0,by omega,rfl,fH.nil _ _,jdv _ _⟩
 case round =>
  obtain⟨j,hj,rfl,aA,az⟩:=hrel;have HO:=ae aA;have HB:=ae az;have bF:=az.size;clear aA az;by_cases aB:j<l.length
  ·obtain⟨g,off,rfl,hg,c0,c1,c2⟩:=(HS.o.kept HB.o).at aB
   have hlt':(j:Int)<(l.length:Int):=(by omega)
   have lE:jfp ((l.take (j+1)).map bm=(l.take j).map bm++[bm l[j]]):=ae (by
    rw[jdM aB,jdQ];rfl)
   have hlen':((l.take j).map bm).length<=100000:=by rw[jdz,jdC];omega
   have HVA:=ae (QS l[j]);rw[dJ]at c2;generalize bm l[j]=fc at *;generalize ak l[j].2.2=S at *;generalize l[j].2.1=cn at *;generalize l[j].1=ck at *;generalize (l.take j).map bm=LL at *;go_wp2_with fail;refine(HVA.o _).mono ?_;rintro e w1 ⟨rfl,aH⟩;have eY:=ae (HO.o.kept aH);have aQ:=ae (HB.o.trans (aH.mono bF));have cP:=aH.size;have kP:=ae (dx w1 (.int .u8 (fc.1:Int)) (.int .i64 fc.2.1) (.string (ak fc.2.2)) 52);clear aH c0 c1 c2;go_wp2_with (first | (at_builtin;refine jB rfl _ _ rfl w.heap.size _ _ fc LL rfl (eY.o.kept (am _ _)) rfl kP.o.1 kP.o.2.1 kP.o.2.2 hlen' ?c2 ?_))
   case c2=>first | omega | (rw[jdx];omega)
   intro v' w5 o5 b5;have dE:=ae o5;have aR:=ae ((aQ.o.alloc (jdF bF cP) _).trans b5);clear o5 b5;go_wp2_with fail;go_roundw
   case rel=>exact⟨j+1,by omega,by go_num,by rw[lE.o];exact dE.o,aR.o⟩
   case measure=>simp[intOf];omega
  ·obtain rfl:j=l.length:=by omega
   rw[jdE]at HO;have gj:¬ ((l.length:Nat):Int)<(l.length:Int):=(by omega);go_wp2_with fail;go_ret
   exact⟨⟨_,rfl,HO.o⟩,HB.o⟩
theorem Az{α : Type}{l m:List α}{j:Nat}(h1:j<l.length)(h2:j<m.length)(h:l.take j=m.take j)(he:l[j]=m[j]):l.take (j+1)=m.take (j+1):=by
 rw[jdM h1,jdM h2,h,he]
def val:List UInt8->Nat
 | []=>0
 | b::r=>b.toNat % 128+128*val r
theorem AA:val []=0:=rfl
theorem jl(b:UInt8)(r:List UInt8):val (b::r)=b.toNat % 128+128*val r:=rfl
theorem vG:∀ l,val l<128 ^ l.length
 | []=>by simp[val]
 | b::r=>by
  have:=vG r;rw[jl,jdD,Nat.pow_succ];omega
theorem vH:∀ a b,val (a++b)=val a+128 ^ a.length*val b
 | [],b=>by simp[val]
 | x::a,b=>by
  rw[jem,jl,vH a b,jl,jdD,Nat.pow_succ,jeE];have:128*(128 ^ a.length*val b)=128 ^ a.length*128*val b:=by rw[jd4 (128 ^ a.length) 128,jeK]
  omega
theorem fh{l:List UInt8}{k:Nat}(h:k<l.length):val (l.take (k+1))=val (l.take k)+(l[k].toNat % 128)*128 ^ k:=by
 rw[jdM h,vH,jl,AA,jdC,jew (by omega)];simp[jd4]
def aU:List UInt8->Nat
 | []=>0
 | b::r=>if 128<=b.toNat then aU r+1 else 0
theorem uN:∀ l,aU l<=l.length
 | []=>by simp[aU]
 | b::r=>by
  have:=uN r;unfold aU;split<;>simp<;>omega
theorem nD:∀(l:List UInt8) (k:Nat) (h:k<l.length),k<aU l->128<=l[k].toNat
 | [],k,h,_=>by simp at h
 | b::r,0,h,hk=>by
  unfold aU at hk;split at hk
  ·simpa
  ·omega
 | b::r,k+1,h,hk=>by
  unfold aU at hk;split at hk
  ·simpa using nD r k (by simpa using h) (by omega)
  ·omega
theorem iR:∀(l:List UInt8) (h:aU l<l.length),l[aU l].toNat<128
 | [],h=>by simp at h
 | b::r,h=>by
  by_cases hb:128<=b.toNat
  ·have e:aU (b::r)=aU r+1:=by rw[aU,jdu hb]
   have hr:aU r<r.length:=by rw[e]at h;simpa using h
   have:=iR r hr;simpa [e]using this
  ·have e:aU (b::r)=0:=by rw[aU,jdt hb]
   simpa [e]using hb
theorem KU{l:List UInt8}{k:Nat}(hk:k<=aU l)(h:k<l.length)(hs:l[k].toNat<128):aU l=k:=by
 rcases jdY k (aU l)with h1 | h1
 ·have:=nD l k h h1;omega
 ·omega
theorem Mk{l:List UInt8}{k:Nat}(hk:k<=aU l)(h:k<l.length)(hs:128<=l[k].toNat):k+1<=aU l:=by
 rcases jdY k (aU l)with h1 | h1
 ·exact h1
 ·have e:aU l=k:=by omega
  have h2:=iR l (by omega);simp only[e]at h2;omega
def fB(l:List UInt8):Nat×Nat×Nat :=
 if 9<=aU l/\9<l.length/\1<(l.getD 9 0).toNat then (0,0,31)
 else if aU l=l.length then (0,0,30)
 else if (l.getD (aU l) 0).toNat=0/\0<aU l then (0,0,31)
 else (val (l.take (aU l+1)),aU l+1,0)
theorem kT{l:List UInt8}{k:Nat}(h:k<l.length):l.getD k 0=l[k]:=by
 rw[List.getD_eq_getElem?_getD,List.getElem?_eq_getElem h];rfl
theorem Gu{l:List UInt8}(hk:9<=aU l)(h:9<l.length)(hs:1<l[9].toNat):fB l=(0,0,31):=by
 unfold fB;rw[jdu ⟨hk,h,by rwa[kT h]⟩]
theorem CJ{l:List UInt8}{k:Nat}(hk:k<=aU l)(h9:k<=9)(h:¬ k<l.length):fB l=(0,0,30):=by
 have:=uN l;unfold fB;rw[jdt (fun h=>by omega),jdu (by omega)]
theorem yR{l:List UInt8}{k:Nat}(hk:k<=aU l)(h9:k<=9)(h:k<l.length)(hs:l[k].toNat<128)(ht:k=9->l[k].toNat<=1) :
  fB l=if l[k].toNat=0/\0<k then (0,0,31) else (val (l.take (k+1)),k+1,0):=by
 have e:=KU hk h hs;unfold fB;rw[e,jdt,jdt (by omega),kT h];rintro⟨h1,h2,h3⟩;obtain rfl:k=9:=by omega
 rw[kT h2]at h3;have:=ht rfl;omega
theorem QU{l:List UInt8}{k:Nat}(h9:k<=9)(h:k<l.length)(ht:k=9->l[k].toNat<=1):val (l.take (k+1))<18446744073709551616:=by
 rcases jdY k 9 with h1 | h1
 ·have h2:=vG (l.take (k+1))
  rw[jdC,jew (by omega)]at h2;have h3:128 ^ (k+1)<=128 ^ 9:=jeL (by omega) (by omega);have h4:(128:Nat) ^ 9=9223372036854775808:=by decide
  omega
 ·obtain rfl:k=9:=by omega
  rw[fh h];have h2:=vG (l.take 9);rw[jdC,jew (by omega)]at h2;have h4:(128:Nat) ^ 9=9223372036854775808:=by decide
  rw[h4]at *;have:=ht rfl;omega
theorem Gv:∀(n x:Nat),x<=n->val (uvarint x)=x/\aU (uvarint x)+1=(uvarint x).length
 | n,x,hn=>by
  by_cases h:x<128
  ·rw[uvarint_small h,jl,mu (by omega),AA,aU,mu (by omega),jdt (by omega)]
   simp;omega
  ·cases n with
   | zero=>omega
   | succ n =>
    obtain⟨h1,h2⟩:=Gv n (x / 128) (by omega);rw[uvarint_big (by omega),jl,mu (by omega),aU,mu (by omega),jdu (by omega),h1,h2,jdD];omega
theorem Gw(x:Nat):val (uvarint x)=x:=(Gv x x (jdw _)).1
theorem AB(x:Nat):aU (uvarint x)+1=(uvarint x).length:=(Gv x x (jdw _)).2
theorem YU:∀(l:List UInt8) (h:aU l+1=l.length),¬ (l[aU l].toNat=0/\0<aU l)->uvarint (val l)=l
 | [],h,_=>by simp at h
 | b::r,h,hc=>by
  have hb:=b.toNat_lt;by_cases hg:128<=b.toNat
  ·have e:aU (b::r)=aU r+1:=by rw[aU,jdu hg]
   have hr:aU r+1=r.length:=by rw[e]at h;simpa using h
   simp only[e,List.getElem_cons_succ]at hc;have hz:r[aU r].toNat≠0:=fun h1=>hc ⟨h1,by omega⟩
   have ih:=YU r hr (fun h1=>hz h1.1)
   have hv:0<val r:=by
    rcases jel (val r)with h0 | h0
    ·exfalso
     have h3:=fh (l:=r) (k:=aU r) (by omega);rw[jee (by omega),h0]at h3;have h4:=iR r (by omega);have h5:r[aU r].toNat % 128=r[aU r].toNat:=(by omega);rw[h5]at h3;have h6:0<r[aU r].toNat*128 ^ aU r:=Nat.mul_pos (by omega) (Nat.pow_pos (by omega));omega
    ·exact h0
   rw[jl,uvarint_big (by omega)];have e1:(b.toNat % 128+128*val r) / 128=val r:=(by omega);have e2:(b.toNat % 128+128*val r) % 128+128=b.toNat:=(by omega);rw[e1,e2,ih];simp
  ·have e:aU (b::r)=0:=by rw[aU,jdt hg]
   rw[e]at h;have hr:r=[]:=by cases r with | nil=>rfl | cons _ _=>simp at h
   subst hr;rw[jl,AA,uvarint_small (by omega)];have:b.toNat % 128+128*0=b.toNat:=by omega
   rw[this];simp
theorem AC:∀(n x:Nat),x<=n->∀ h:aU (uvarint x)<(uvarint x).length,¬ ((uvarint x)[aU (uvarint x)].toNat=0/\0<aU (uvarint x))
 | n,x,hn,h=>by
  by_cases hx:x<128
  ·rintro⟨_,h2⟩
   rw[uvarint_small hx,aU,mu (by omega),jdt (by omega)]at h2;omega
  ·cases n with
   | zero=>omega
   | succ n =>
    have ih:=AC n (x / 128) (by omega);have e0:=uvarint_big (x:=x) (by omega);have e:aU (uvarint x)=aU (uvarint (x / 128))+1:=by rw[e0,aU,mu (by omega),jdu (by omega)]
    have hl:=AB (x / 128);rintro⟨h1,_⟩;have ih2:=ih (by omega)
    have h3:(uvarint (x / 128))[aU (uvarint (x / 128))].toNat=0:=by
     have h4:(uvarint x)[aU (uvarint x)]=(uvarint (x / 128))[aU (uvarint (x / 128))]:=by
      simp only[e];simp[e0]
     rw[← h4];exact h1
    rcases jel (aU (uvarint (x / 128)))with h0 | h0
    ·have h5:=fh (l:=uvarint (x / 128)) (k:=0) (by omega)
     have h6:(uvarint (x / 128))[0].toNat=0:=by simpa [h0]using h3
     rw[h6,jee (by omega),Gw]at h5;simp[val]at h5
     omega
    ·exact ih2 ⟨h3,h0⟩
theorem QV{l:List UInt8}(h:aU l+1=l.length):uvarint (val l)=l↔¬ (l[aU l].toNat=0/\0<aU l):=by
 constructor
 ·intro e
  have:=AC (val l) (val l) (jdw _) (by rw[e];omega);simp only[e]at this;exact this
 ·exact YU l h
theorem tC:∀(a b:List UInt8),aU a<a.length->aU (a++b)=aU a
 | [],b,h=>by simp at h
 | x::a,b,h=>by
  rw[jem];by_cases hx:128<=x.toNat
  ·rw[aU,jdu hx]at h ⊢
   rw[aU,jdu hx,tC a b (by simpa using h)]
  ·rw[aU,jdt hx,aU,jdt hx]
theorem yS:∀(l:List UInt8) (k:Nat),k<=aU l->aU (l.take k)=k
 | l,0,_=>by simp[aU]
 | [],k+1,h=>by simp[aU]at h
 | b::r,k+1,h=>by
  unfold aU at h;split at h
  ·rename_i hb
   rw[jfd,aU,jdu hb,yS r k (by omega)]
  ·omega
theorem Wn(n:Nat)(hn:n<18446744073709551616)(r:List UInt8):fB (uvarint n++r)=(n,(uvarint n).length,0):=by
 have h1:=AB n;have no:=uvarint_length64 hn;have hl:=tC (uvarint n) r (by omega);have hk:aU (uvarint n)<(uvarint n++r).length:=by simp;omega
 have jbc:(uvarint n++r)[aU (uvarint n)]=(uvarint n)[aU (uvarint n)]:=jfl (by omega);have VM:=iR (uvarint n) (by omega);have XV:(uvarint n++r).take (aU (uvarint n)+1)=uvarint n:=by rw[h1];simp
 have ht:aU (uvarint n)=9->(uvarint n++r)[aU (uvarint n)].toNat<=1:=by
  intro h9;rw[jbc];have h5:=fh (l:=uvarint n) (k:=aU (uvarint n)) (by omega);rw[h1,jdE,Gw]at h5;have h4:(128:Nat) ^ aU (uvarint n)=9223372036854775808:=by rw[h9]
  rw[h4]at h5;omega
 rw[yR (k:=aU (uvarint n)) (by omega) (by omega) hk (by rw[jbc];exact VM) ht,XV,Gw,jdt,h1];rw[jbc];exact AC n n (jdw _) (by omega)
theorem Wo(n:Nat)(hn:n<18446744073709551616)(k:Nat)(hk:k<(uvarint n).length):fB ((uvarint n).take k)=(0,0,30):=by
 have h1:=AB n;have no:=uvarint_length64 hn;have hl:=yS (uvarint n) k (by omega);exact CJ (k:=k) (by omega) (by omega) (by simp;omega)
theorem vI:∀ a:Fin 256,bits .andNot .u8 (a.val:Int) 128=((a.val % 128:Nat):Int):=by decide +kernel
theorem Ml(c:UInt8):bits .andNot .u8 (c.toNat:Int) 128=((c.toNat % 128:Nat):Int):=vI ⟨c.toNat,c.toNat_lt⟩
theorem jae(k:Nat):(2:Nat) ^ (7*k)=128 ^ k:=by rw[Nat.pow_mul]
theorem QW{n c k:Nat}(hk:k<=9)(hn:n<128 ^ k)(h:c*128 ^ k<18446744073709551616) :
  bits .or .u64 (n:Int) ((c*128 ^ k:Nat):Int)=((n+c*128 ^ k:Nat):Int):=by
 have h9:128 ^ k<=128 ^ 9:=jeL (by omega) hk;have h4:(128:Nat) ^ 9=9223372036854775808:=by decide
 have e:bits .or .u64 (n:Int) ((c*128 ^ k:Nat):Int)=(n:Int)+((c*128 ^ k:Nat):Int):=by
  apply bits_join_low .u64 64 (by decide) wraps_u64 (7*k)
  ·omega
  ·have:(n:Int)<((2 ^ (7*k):Nat):Int):=by rw[jae];omega
   simpa using this
  ·omega
  ·omega
  ·have:(((c*128 ^ k:Nat):Int) % ((2 ^ (7*k):Nat):Int))=0:=by rw[jae,← Int.natCast_emod];simp
   simpa using this
  ·omega
 rw[e];omega
def uv(n:Nat):List Nat:=(uvarint n).map UInt8.toNat
def gt(l:List Nat):Nat×Nat×Nat:=fB (l.map Nat.toUInt8)
theorem CK(l:List UInt8):(l.map UInt8.toNat).map Nat.toUInt8=l:=by
 rw[jd8];conv=>rhs;rw[← jev l]
 apply jeq
 intro a _;simp
theorem gU{n:Nat}:∀ x∈uv n,x<256:=by
 intro x hx;obtain⟨a,_,rfl⟩:=jdR.1 hx;exact a.toNat_lt
theorem my(n:Nat):(uv n).length=(uvarint n).length:=jdz _
theorem mz(n:Nat):0<(uv n).length:=by rw[my];exact uvarint_pos n
theorem bM{n:Nat}(h:n<18446744073709551616):(uv n).length<=10:=by rw[my];exact uvarint_length64 h
theorem mA(n:Nat)(hn:n<18446744073709551616)(r:List Nat):gt (uv n++r)=(n,(uv n).length,0):=by
 unfold gt uv;rw[jdQ,CK,Wn n hn,jdz]
theorem QX(n:Nat)(hn:n<18446744073709551616)(k:Nat)(hk:k<(uv n).length):gt ((uv n).take k)=(0,0,30):=by
 unfold gt uv;rw[jeT,CK,Wo n hn k (by rwa[my]at hk)]
theorem vJ{n:Nat}(h:n<128):uv n=[n]:=by
 unfold uv;rw[uvarint_small h];simp[mu (show n<256 by omega)]
theorem Wp{l:List UInt8}{n u:Nat}(h:fB l=(n,u,0)):n<18446744073709551616/\l.take u=uvarint n/\u<=l.length:=by
 have pB:=uN l;unfold fB at h;split at h
 ·simp at h
 ·next h1 =>
  split at h
  ·simp at h
  ·next h2 =>
   split at h
   ·simp at h
   ·next h3 =>
    have hl:aU l<l.length:=(by omega);simp only[Prod.mk.injEq,and_true]at h;obtain⟨rfl,rfl⟩:=h;rw[kT hl]at h3
    have aB:aU l<=9:=by
     rcases jdY 9 (aU l)with h9 | h9
     ·exfalso
      apply h1
      have:=nD l 9 (by omega) h9;exact⟨by omega,by omega,by rw[kT (by omega)];omega⟩
     ·exact h9
    have ht:aU l=9->l[aU l].toNat<=1:=by
     intro e;rcases jdY 1 l[aU l].toNat with h9 | h9
     ·exfalso
      apply h1
      have no:9<l.length:=(by omega);have e2:l[9]=l[aU l]:=by simp only[e]
      exact⟨by omega,no,by rw[kT no,e2];exact h9⟩
     ·exact h9
    refine⟨QU aB hl ht,?_,by omega⟩;have bR:(l.take (aU l+1)).length=aU l+1:=by rw[jdC];omega
    have yu:aU (l.take (aU l+1))=aU l:=by
     have VM:=iR l hl;refine KU (l:=l.take (aU l+1)) ?_ (by omega) (by simpa using VM);rcases jdY (aU (l.take (aU l+1))) (aU l)with hh | hh
     ·exfalso
      have dN:=iR (l.take (aU l+1)) (by omega);have hb:=nD l _ (by omega) hh;simp at dN
      omega
     ·exact hh
    refine((QV (l:=l.take (aU l+1)) (by omega)).2 ?_).symm;simp only[yu];rintro⟨h4,h5⟩;exact h3 ⟨by simpa using h4,h5⟩
theorem QY{l:List Nat}{n u:Nat}(hl:∀ x∈l,x<256)(h:gt l=(n,u,0)):n<18446744073709551616/\l=uv n++l.drop u/\u=(uv n).length:=by
 obtain⟨h1,h2,h3⟩:=Wp h
 have e:l.take u=uv n:=by
  unfold uv;rw[← h2,← jeT,ft (fun x hx=>hl x (jek hx))]
 refine⟨h1,?_,?_⟩
 ·rw[← e,jeP]
 ·rw[← e,jdC]
  rw[jdz]at h3;omega
def aC{α β : Type}(d:List Nat->Except Nat (α×List Nat))(f:α->List Nat->Except Nat (β×List Nat))(b:List Nat):Except Nat (β×List Nat) :=
 match d b with
 | .ok (x,r)=>f x r
 | .error e=>.error e
theorem cZ{α β : Type}{d:List Nat->Except Nat (α×List Nat)}{f:α->List Nat->Except Nat (β×List Nat)}{b r:List Nat}{x:α}(h:d b=.ok (x,r)):aC d f b=f x r:=by
 unfold aC;rw[h]
theorem cE{α β : Type}{d:List Nat->Except Nat (α×List Nat)}{f:α->List Nat->Except Nat (β×List Nat)}{b:List Nat}{e:Nat}(h:d b=.error e):aC d f b=.error e:=by
 unfold aC;rw[h]
def eb{α : Type}(d:List Nat->Except Nat (α×List Nat))(e:List Nat)(x:α):Prop :=
 (∀ r,d (e++r)=.ok (x,r))/\∀ k,k<e.length->d (e.take k)=.error 30
def qC{α : Type}(d:List Nat->Except Nat (α×List Nat))(e:List Nat)(x:α):Prop :=
 d e=.ok (x,[])/\(∀ y r,d (e++y::r)=.error 32∨d (e++y::r)=.ok (x,y::r))/\∀ k,k<e.length->d (e.take k)=.error 30
theorem eb.ends{α : Type}{d:List Nat->Except Nat (α×List Nat)}{e:List Nat}{x:α}(h:eb d e x):qC d e x :=
 ⟨by have:=h.1 [];rwa[jdT]at this,fun y r=>Or.inr (h.1 _),h.2⟩
theorem eb.pure{α : Type}(x:α):eb (fun b=>.ok (x,b)) [] x:=⟨fun r=>rfl,fun k h=>by simp at h⟩
theorem eb.bind{α β : Type}{d:List Nat->Except Nat (α×List Nat)}{f:α->List Nat->Except Nat (β×List Nat)}{e e':List Nat}{x:α}{y:β}(h1:eb d e x)(h2:eb (f x) e' y) :
  eb (aC d f) (e++e') y:=by
 refine⟨fun r=>?_,fun k hk=>?_⟩
 ·rw[jdL,cZ (h1.1 _)]
  exact h2.1 r
 ·rw[List.take_append]
  rcases jdY k e.length with h | h
  ·rw[show k-e.length=0 by omega,jeU,jdT]
   exact cE (h1.2 k h)
  ·rw[jee h,cZ (h1.1 _)]
   exact h2.2 _ (by rw[jdy]at hk;omega)
theorem eb.then{α β : Type}{d:List Nat->Except Nat (α×List Nat)}{f:α->List Nat->Except Nat (β×List Nat)}{e e':List Nat}{x:α}{y:β}(h1:eb d e x)(h2:qC (f x) e' y) :
  qC (aC d f) (e++e') y:=by
 refine⟨?_,fun z r=>?_,fun k hk=>?_⟩
 ·rw[cZ (h1.1 _)]
  exact h2.1
 ·rw[jdL,cZ (h1.1 _)]
  exact h2.2.1 z r
 ·rw[List.take_append]
  rcases jdY k e.length with h | h
  ·rw[show k-e.length=0 by omega,jeU,jdT]
   exact cE (h1.2 k h)
  ·rw[jee h,cZ (h1.1 _)]
   exact h2.2.2 _ (by rw[jdy]at hk;omega)
theorem eb.map{α β : Type}{d:List Nat->Except Nat (α×List Nat)}{e:List Nat}{x:α}(g:α->β)(h:eb d e x):eb (aC d fun a r=>.ok (g a,r)) e (g x):=by
 have:=h.bind (f:=fun a r=>.ok (g a,r)) (e':=[]) (y:=g x) (eb.pure (g x));rwa[jdT]at this
theorem qC.map{α β : Type}{d:List Nat->Except Nat (α×List Nat)}{e:List Nat}{x:α}(g:α->β)(h:qC d e x):qC (aC d fun a r=>.ok (g a,r)) e (g x):=by
 refine⟨by rw[cZ h.1],fun y r=>?_,fun k hk=>cE (h.2.2 k hk)⟩;rcases h.2.1 y r with h1 | h1
 ·exact Or.inl (cE h1)
 ·exact Or.inr (by rw[cZ h1])
def num(b:List Nat):Except Nat (Nat×List Nat):=if (gt b).2.2=0 then .ok ((gt b).1,b.drop (gt b).2.1) else .error (gt b).2.2
theorem lL{n:Nat}(hn:n<18446744073709551616):eb num (uv n) n:=by
 refine⟨fun r=>?_,fun k hk=>?_⟩
 ·unfold num
  rw[mA n hn r,jdu rfl,jed]
 ·unfold num
  rw[QX n hn k hk,jdt (by simp)]
def fI(u:Nat):Int:=if u % 2=0 then ((u / 2:Nat):Int) else -((u / 2:Nat):Int)-1
theorem Mm(z:Int):fI (zigzag z)=z:=by
 unfold fI zigzag;split<;>split<;>omega
theorem Mn(u:Nat):zigzag (fI u)=u:=by
 unfold fI zigzag;split<;>split<;>omega
theorem jZ{u:Nat}(h:u<18446744073709551616):I64 (fI u):=by
 unfold fI I64;split<;>omega
def wv(x:Int):List Nat:=uv (zigzag x)
def wh(b:List Nat):Except Nat (Int×List Nat):=if (gt b).2.2=0 then .ok (fI (gt b).1,b.drop (gt b).2.1) else .error (gt b).2.2
theorem lM{x:Int}(hx:I64 x):eb wh (wv x) x:=by
 have hn:=zigzag_lt hx.1 hx.2;refine⟨fun r=>?_,fun k hk=>?_⟩
 ·unfold wh wv
  rw[mA _ hn r,jdu rfl,jed,Mm]
 ·unfold wh
  rw[wv,QX _ hn k hk,jdt (by simp)]
theorem jaf{b r:List Nat}{n:Nat}(hb:∀ x∈b,x<256)(h:num b=.ok (n,r)):n<18446744073709551616/\b=uv n++r:=by
 unfold num at h;split at h
 ·next h0 =>
  simp only[Except.ok.injEq,Prod.mk.injEq]at h;obtain⟨h1,h2⟩:=h;obtain⟨g1,g2,_⟩:=QY (n:=(gt b).1) (u:=(gt b).2.1) hb (by rw[← h0]);rw[h1]at g1 g2;exact⟨g1,by rw[← h2];exact g2⟩
 ·simp at h
theorem wh_ok{b r:List Nat}{x:Int}(hb:∀ x∈b,x<256)(h:wh b=.ok (x,r)):I64 x/\b=wv x++r:=by
 unfold wh at h;split at h
 ·next h0 =>
  simp only[Except.ok.injEq,Prod.mk.injEq]at h;obtain⟨rfl,h2⟩:=h;obtain⟨g1,g2,_⟩:=QY (n:=(gt b).1) (u:=(gt b).2.1) hb (by rw[← h0]);refine⟨jZ g1,?_⟩;unfold wv;rw[Mn,← h2];exact g2
 ·simp at h
theorem jag(x:Int):0<(wv x).length:=mz _
theorem yT{x:Int}:∀ y∈wv x,y<256:=gU
theorem fq{x:Int}(h:I64 x):(wv x).length<=10:=bM (zigzag_lt h.1 h.2)
end Go.Proofs.YtpljdjmpamjkhaaGreatDoor
