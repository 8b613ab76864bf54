import Derived.Test.YtpljdjmpamjkhaaGreatDoorUab
import Derived.Deep.Slices
import Derived.Lib.Zigzag
import Derived.Lib.VarintBits
set_option linter.unusedVariables false
set_option linter.unusedSimpArgs false
namespace Go.Proofs.YtpljdjmpamjkhaaGreatDoor
open Go.RowKit Go.Lib
theorem Az(v:Value)(w:World):(Instr.typeAssert (.iface 2 v) 78 2 true).run Tryz.prog w=.ok (.tuple #[v,.bool true]) w:=by kernel_rfl
theorem Gf(v:Value)(w:World):(Instr.typeAssert (.iface 4 v) 78 2 true).run Tryz.prog w=.ok (.tuple #[.int .i64 0,.bool false]) w:=by kernel_rfl
theorem Gg(v:Value)(w:World):(Instr.typeAssert (.iface 9 v) 78 2 true).run Tryz.prog w=.ok (.tuple #[.int .i64 0,.bool false]) w:=by kernel_rfl
theorem AA(v:Value)(w:World):(Instr.typeAssert (.iface 4 v) 78 4 true).run Tryz.prog w=.ok (.tuple #[v,.bool true]) w:=by kernel_rfl
theorem Gh(v:Value)(w:World):(Instr.typeAssert (.iface 9 v) 78 4 true).run Tryz.prog w=.ok (.tuple #[.bool false,.bool false]) w:=by kernel_rfl
theorem AB(v:Value)(w:World):(Instr.typeAssert (.iface 9 v) 78 9 true).run Tryz.prog w=.ok (.tuple #[v,.bool true]) w:=by kernel_rfl
theorem Gi(w:World):(Instr.typeAssert .nilIface 78 2 true).run Tryz.prog w=.ok (.tuple #[.int .i64 0,.bool false]) w:=by kernel_rfl
theorem Gj(w:World):(Instr.typeAssert .nilIface 78 4 true).run Tryz.prog w=.ok (.tuple #[.bool false,.bool false]) w:=by kernel_rfl
theorem Gk(w:World):(Instr.typeAssert .nilIface 78 9 true).run Tryz.prog w=.ok (.tuple #[.string ⟨#[]⟩,.bool false]) w:=by kernel_rfl
theorem Gl(w:World):Calls Tryz.prog 148 #[.nilIface] w fun e w'=>e=.returned (.tuple #[.agg #[.int .u8 0,.int .i64 0,.string ⟨#[]⟩],.bool true])/\Below w.heap.size w w':=by
 go_enter Tryz.func148,Tryz.ntmps148
 go_wp2;exact bodyPost_ret (v:=.tuple #[.agg #[.int .u8 0,.int .i64 0,.string ⟨#[]⟩],.bool true]) (by simp[results,Tryz.results148,go_sem]) rfl ⟨rfl,(jdg _ _).alloc (jdh _) _⟩
theorem Gm(n:Int)(w:World):Calls Tryz.prog 148 #[.iface 2 (.int .i64 n)] w fun e w'=>e=.returned (.tuple #[.agg #[.int .u8 1,.int .i64 n,.string ⟨#[]⟩],.bool true])/\Below w.heap.size w w':=by
 have t1:=Az;go_enter Tryz.func148,Tryz.ntmps148
 go_wp2;exact bodyPost_ret (v:=.tuple #[.agg #[.int .u8 1,.int .i64 n,.string ⟨#[]⟩],.bool true]) (by simp[results,Tryz.results148,go_sem]) rfl ⟨rfl,(jdg _ _).alloc (jdh _) _⟩
theorem CK(b:Bool)(w:World):Calls Tryz.prog 148 #[.iface 4 (.bool b)] w fun e w'=>e=.returned (.tuple #[.agg #[.int .u8 2,.int .i64 (if b then 1 else 0),.string ⟨#[]⟩],.bool true])/\Below w.heap.size w w':=by
 have t1:=Gf;have t2:=AA;cases b
 ·go_enter Tryz.func148,Tryz.ntmps148
  go_wp2;exact bodyPost_ret (v:=.tuple #[.agg #[.int .u8 2,.int .i64 0,.string ⟨#[]⟩],.bool true]) (by simp[results,Tryz.results148,go_sem]) rfl ⟨rfl,(jdg _ _).alloc (jdh _) _⟩
 ·go_enter Tryz.func148,Tryz.ntmps148
  go_wp2;exact bodyPost_ret (v:=.tuple #[.agg #[.int .u8 2,.int .i64 1,.string ⟨#[]⟩],.bool true]) (by simp[results,Tryz.results148,go_sem]) rfl ⟨rfl,(jdg _ _).alloc (jdh _) _⟩
theorem xZ(s:ByteArray)(w:World):Calls Tryz.prog 148 #[.iface 9 (.string s)] w fun e w'=>e=.returned (.tuple #[.agg #[.int .u8 3,.int .i64 0,.string s],.bool true])/\Below w.heap.size w w':=by
 have t1:=Gg;have t2:=Gh;have t3:=AB;go_enter Tryz.func148,Tryz.ntmps148
 go_wp2;exact bodyPost_ret (v:=.tuple #[.agg #[.int .u8 3,.int .i64 0,.string s],.bool true]) (by simp[results,Tryz.results148,go_sem]) rfl ⟨rfl,(jdg _ _).alloc (jdh _) _⟩
def Val(v:Value)(k n:Int)(s:ByteArray):Prop :=
 (v=.nilIface/\k=0/\n=0/\s=⟨#[]⟩)∨(v=.iface 2 (.int .i64 n)/\k=1/\s=⟨#[]⟩)∨(∃ b:Bool,v=.iface 4 (.bool b)/\k=2/\n=(if b then 1 else 0)/\s=⟨#[]⟩)∨(v=.iface 9 (.string s)/\k=3/\n=0)
theorem pJ{v:Value}{k n:Int}{s:ByteArray}(h:Val v k n s)(w:World):Calls Tryz.prog 148 #[v] w fun e w'=>e=.returned (.tuple #[.agg #[.int .u8 k,.int .i64 n,.string s],.bool true])/\Below w.heap.size w w':=by
 rcases h with ⟨rfl,rfl,rfl,rfl⟩ | ⟨rfl,rfl,rfl⟩ | ⟨b,rfl,rfl,rfl,rfl⟩ | ⟨rfl,rfl,rfl⟩
 ·exact Gl w
 ·exact Gm n w
 ·exact CK b w
 ·exact xZ s w
theorem lF{v:Value}{k n:Int}{s:ByteArray}(h:Val v k n s)(w:World):Calls Tryz.prog 145 #[v] w fun e w'=>e=.returned (.tuple #[.agg #[.int .u8 k,.int .i64 n,.string s],.bool true])/\Below w.heap.size w w':=by
 go_enter Tryz.func145,Tryz.ntmps145
 go_wp2_with fail;refine(pJ h _).mono ?_;rintro e w1 ⟨rfl,hb⟩;obtain⟨hc,hf⟩:=kP hb;have hz:w.heap.size<w1.heap.size:=by have:=hb.size;simp at this;omega
 go_wp2_with fail;refine bodyPost_ret (v:=.tuple #[.agg #[.int .u8 k,.int .i64 n,.string s],.bool true]) (by simp[results,Tryz.results145,go_sem,hc]) rfl ⟨rfl,?_⟩;exact((((((jdg _ _).alloc (jdh _) _).trans (hb.mono (by simp))).setCell (by simp) _).setCell (by simp) _).setCell (by simp) _)
def vK(k n:Int):Bool:=if (k==1)=true then true else if (k==2)=true then (if (n==0)=true then true else n==1) else n==0
def tx(k:Int)(s:ByteArray):Bool:=(k != 3) && !s.toList.isEmpty
def flt(k n:Int)(s:ByteArray):Int:=if 3<k then 10 else if tx k s=true then 1 else if vK k n=false then 1 else if 64<(s.size:Int) then 5 else 0
theorem CL{k:Int}{s:ByteArray}(h:tx k s=false):(k != 3)=false∨(k != 3)=true/\s.toList.isEmpty=true:=by
 unfold tx at h;cases h2:(k != 3)
 ·exact Or.inl rfl
 ·rw[h2]at h;right;simpa using h
theorem KQ{k:Int}{s:ByteArray}(h:tx k s=true):(k != 3)=true/\s.toList.isEmpty=false:=by
 unfold tx at h;rw[Bool.and_eq_true]at h;exact⟨h.1,by simpa using h.2⟩
theorem ZU{s:ByteArray}(h:s.toList.isEmpty=true):s=⟨#[]⟩:=by
 have h1:s.toList=[]:=by simpa using h
 have h2:s.data.toList=[]:=by rw[← ByteArray.toList_eq];exact h1
 cases s with
 | mk d=>congr;exact Array.toList_eq_nil_iff.mp h2
theorem CO{k n:Int}{s:ByteArray}(h0:0<=k)(h:flt k n s=0):(k=0/\n=0/\s=⟨#[]⟩)∨(k=1/\s=⟨#[]⟩)∨(k=2/\n=0/\s=⟨#[]⟩)∨(k=2/\n=1/\s=⟨#[]⟩)∨(k=3/\n=0/\s.size<=64):=by
 unfold flt at h;by_cases h1:3<k
 ·rw[jdf h1]at h;omega
 ·rw[jde h1]at h
  by_cases h2:tx k s=true
  ·rw[jdf h2]at h;omega
  ·rw[jde h2]at h
   by_cases h3:vK k n=false
   ·rw[jdf h3]at h;omega
   ·rw[jde h3]at h
    by_cases h4:64<(s.size:Int)
    ·rw[jdf h4]at h;omega
    ·have h5:=CL (by simpa using h2)
     have h6:k≠3->s=⟨#[]⟩:=by
      intro hk;rcases h5 with h5 | h5
      ·simp at h5;omega
      ·exact ZU h5.2
     obtain rfl | rfl | rfl | rfl:k=0∨k=1∨k=2∨k=3:=by omega
     ·simp[vK]at h3;exact Or.inl ⟨rfl,h3,h6 (by omega)⟩
     ·exact Or.inr (Or.inl ⟨rfl,h6 (by omega)⟩)
     ·simp[vK]at h3
      by_cases hn:n=0
      ·exact Or.inr (Or.inr (Or.inl ⟨rfl,hn,h6 (by omega)⟩))
      ·exact Or.inr (Or.inr (Or.inr (Or.inl ⟨rfl,h3 hn,h6 (by omega)⟩)))
     ·simp[vK]at h3;exact Or.inr (Or.inr (Or.inr (Or.inr ⟨rfl,h3,by omega⟩)))
theorem vL:(Tryz.prog.info? 78).map (fun i=>(i.zero,i.size,i.bytes))=some (some .nilIface,1,16):=by kernel_rfl
theorem nw:∀{l m:List Nat},Bs l->Bs m->Op.bytesLess (l.map Nat.toUInt8) (m.map Nat.toUInt8)=decide (l<m)
 | [],[],_,_=>by simp[Op.bytesLess]
 | [],y::t,_,_=>by simp[Op.bytesLess]
 | x::s,[],_,_=>by simp[Op.bytesLess]
 | x::s,y::t,hl,hm=>by
  have ih:=nw (l:=s) (m:=t) (fun z hz=>hl z (by simp[hz])) (fun z hz=>hm z (by simp[hz]));have hx:=hl x (by simp);have hy:=hm y (by simp)
  have h1:(x.toUInt8<y.toUInt8)=(x<y):=by
   rw[UInt8.lt_iff_toNat_lt];simp[jd7 hx,jd7 hy]
  have h2:(x.toUInt8==y.toUInt8)=decide (x=y):=by
   by_cases h:x=y
   ·simp[h]
   ·have:x.toUInt8≠y.toUInt8:=fun e=>h (by
     have:=jdm UInt8.toNat e;simpa [jd7 hx,jd7 hy]using this)
    simp[h,this]
  simp only[jdQ,Op.bytesLess,ih,h1,h2];have h3:(x::s<y::t)↔(x<y∨x=y/\s<t):=List.cons_lt_cons_iff;by_cases h:x<y<;>by_cases h':x=y<;>by_cases h'':s<t<;>simp[h3,h,h',h'']
def dh(c:Nat×Int×List Nat):Value :=
 if c.1=0 then .nilIface else if c.1=1 then .iface 2 (.int .i64 c.2.1) else if c.1=2 then .iface 4 (.bool (decide (c.2.1=1))) else .iface 9 (txt c.2.2)
def aJ(l:List (Nat×Int×List Nat)):List Value:=l.map dh
def vM(c:Nat×Int×List Nat):List Value:=[.int .u8 (c.1:Int),.int .i64 c.2.1,txt c.2.2]
def iJ(l:List (Nat×Int×List Nat)):List Value:=l.flatMap vM
theorem aG(l:List (Nat×Int×List Nat)):(aJ l).length=l.length:=jdk _
theorem mr(a b:List (Nat×Int×List Nat)):aJ (a++b)=aJ a++aJ b:=jdC
theorem AC(a b:List (Nat×Int×List Nat)):iJ (a++b)=iJ a++iJ b:=jet
theorem pK(c:Nat×Int×List Nat)(l:List (Nat×Int×List Nat)):iJ (c::l)=vM c++iJ l:=jeA
theorem qA:∀ l:List (Nat×Int×List Nat),(iJ l).length=l.length*3
 | []=>rfl
 | c::t=>by
  rw[pK,jdj,qA t,jdn];simp[vM]
  omega
theorem cM{l:List (Nat×Int×List Nat)}{j:Nat}(h:j<l.length):(aJ l)[j]?=some (dh l[j]):=by simp[aJ,h]
theorem yR:∀{l:List (Nat×Int×List Nat)} {j:Nat} (h:j<l.length),(iJ l)[j*3]?=some (.int .u8 (l[j].1:Int))/\(iJ l)[j*3+1]?=some (.int .i64 l[j].2.1)/\(iJ l)[j*3+2]?=some (txt l[j].2.2)
 | c::t,0,h=>by simp[pK,vM]
 | c::t,j+1,h=>by
  have ih:=yR (l:=t) (j:=j) (by simpa using h);rw[pK]
  have e:∀ k,(vM c++iJ t)[(j+1)*3+k]?=(iJ t)[j*3+k]?:=fun k=>by
   rw[List.getElem?_append_right (by simp[vM];omega)];simp only[vM,jdn,jdI];congr 1
   omega
  have e0:=e 0;simp only[jd9]at e0;rw[e0,e 1,e 2];simpa using ih
theorem qB(c:Nat×Int×List Nat):(dh c).oneCell'=true:=by
 unfold dh;split
 ·rfl
 ·split
  ·rfl
  ·split<;>rfl
theorem ya(l:List (Nat×Int×List Nat)):∀ u∈aJ l,u.oneCell'=true:=by
 intro u hu;obtain⟨x,_,rfl⟩:=jdE.1 hu;exact qB x
def OwnV(W:World)(B:Nat)(v:Value)(l:List (Nat×Int×List Nat)):Prop:=W.ownsRow B 78 1 v l.length (aJ l)
def hO(W:World)(B:Nat)(v:Value)(l:List (Nat×Int×List Nat)):Prop:=W.ownsRow B 52 3 v l.length (iJ l)
theorem OwnV.nil(W:World)(B:Nat):OwnV W B (.slice none 0 0) []:=jd8 _ _ _ _
theorem hO.nil(W:World)(B:Nat):hO W B (.slice none 0 0) []:=jd8 _ _ _ _
theorem OwnV.kept{w w':World}{B:Nat}{v:Value}{l:List (Nat×Int×List Nat)}(h:OwnV w B v l)(hb:Below w.heap.size w w'):OwnV w' B v l:=bI h hb
theorem hO.kept{w w':World}{B:Nat}{v:Value}{l:List (Nat×Int×List Nat)}(h:hO w B v l)(hb:Below w.heap.size w w'):hO w' B v l:=bI h hb
theorem OwnV.sv{W:World}{B:Nat}{v:Value}{l:List (Nat×Int×List Nat)}(h:OwnV W B v l):Sv W v (aJ l):=Sv.of_own h
def Sc(W:World)(v:Value)(l:List (Nat×Int×List Nat)):Prop :=
 ∃ a cap,v=.slice a l.length cap/\l.length<=cap/\cap<=maxLen/\(0<l.length->∃ b off,a=some ⟨b,off,none⟩/\b<W.heap.size/\∀ j x,(iJ l)[j]?=some x->W.cell? ⟨b,off+j,none⟩=some x)
theorem Sc.kept{W W':World}{v:Value}{l:List (Nat×Int×List Nat)}(h:Sc W v l)(hb:Below W.heap.size W W'):Sc W' v l:=by
 obtain⟨a,cap,h1,h2,h3,h4⟩:=h;refine⟨a,cap,h1,h2,h3,fun h0=>?_⟩;obtain⟨b,off,h5,h6,h7⟩:=h4 h0;exact⟨b,off,h5,jdD h6 hb.size,fun j x hj=>(hb.cell (p:=⟨b,off+j,none⟩) h6).trans (h7 j x hj)⟩
theorem hO.sc{W:World}{B:Nat}{v:Value}{l:List (Nat×Int×List Nat)}(h:hO W B v l):Sc W v l:=by
 rcases h with ⟨h0,⟨rfl,h1⟩ | ⟨g,cap,cur,rfl,h2,h3,h4,h5,h6,h7⟩⟩
 ·refine⟨none,0,by rw[h1],by omega,by unfold maxLen;omega,fun h=>by omega⟩
 ·refine⟨_,cap,rfl,h4,h5,fun _=>⟨g,0,rfl,(Array.getElem?_eq_some_iff.1 h3).1,fun j x hj=>?_⟩⟩
  rw[jdK];simp only[World.cell?,h3];rw[← h7]at hj;have aC:=(List.getElem?_eq_some_iff.1 hj).1;rw[jdo]at aC;rw[List.getElem?_take_of_lt (by omega)]at hj;simpa using hj
theorem Sc.at{W:World}{a:Option Addr}{n cap:Nat}{l:List (Nat×Int×List Nat)}(h:Sc W (.slice a n cap) l){k:Nat}(hk:k<l.length) :
  ∃ b off,a=some ⟨b,off,none⟩/\b<W.heap.size/\W.cell? ⟨b,off+k*3,none⟩=some (.int .u8 (l[k].1:Int))/\W.cell? ⟨b,off+k*3+1,none⟩=some (.int .i64 l[k].2.1)/\W.cell? ⟨b,off+k*3+2,none⟩=some (txt l[k].2.2):=by
 obtain⟨a',cap',e,h1,h2,h4⟩:=h;simp only[Value.slice.injEq]at e;obtain⟨rfl,_,_⟩:=e;obtain⟨b,off,rfl,h5,h6⟩:=h4 (by omega);obtain⟨c0,c1,c2⟩:=yR hk;refine⟨b,off,rfl,h5,h6 _ _ c0,?_,?_⟩
 ·rw[jeo]
  exact h6 _ _ c1
 ·rw[jeo]
  exact h6 _ _ c2
theorem aL(w:World)(v:Value)(t:Nat):(w.alloc (.cells #[v] t)).cell? ⟨w.heap.size,0,none⟩=some v:=by
 have:=cell_one_new w v t 0 v rfl;rw[mq]at this;exact this
theorem sw(c:Nat×Int×List Nat)(h:c.1=0):dh c=.nilIface:=jdf h
theorem lG(c:Nat×Int×List Nat)(h:c.1≠0):∃ t u,dh c=.iface t u:=by
 unfold dh;rw[jde h];split
 ·exact⟨_,_,rfl⟩
 ·split
  ·exact⟨_,_,rfl⟩
  ·exact⟨_,_,rfl⟩
theorem gB{w:World}{ops:Array Oper}{rest:List Oper}{o:Oper}{a:Act}{Q:Exit->Act->World->Prop}(eg:o.guard=none)(s x:Operand)
  (ho:o.op=.call { callee:=.builtin .append,args:=#[s,x],argTypes:=#[79,79] })
  (base:Nat) (v:Value) (g:Nat) (z:Nat×Int×List Nat) (l0:List (Nat×Int×List Nat)) (hs:a.eval s=v) (aA:OwnV w base v l0) (hx:a.eval x=.slice (some ⟨g,0,none⟩) 1 1) (hc:w.cell? ⟨g,0,none⟩=some (dh z))
  (hbytes:l0.length<=100000) (aI:base<=w.heap.size)
  (h:∀ v' w',OwnV w' base v' (l0++[z])->Below base w w'->wpList Tryz.prog ops Q rest (a.put o.dst v') w') :
  wpList Tryz.prog ops Q (o::rest) a w:=by
 obtain⟨i0,hi,cm,hz1',bn⟩:=jdA vL;unfold OwnV at *
 refine jdU (w:=w) eg s x 79 ho base 78 i0 .nilIface 1 16 Tryz.underlying79 hi cm hz1' bn rfl (by decide) v l0.length (aJ l0) hs aA ⟨g,0,none⟩ 1 1 [dh z] hx rfl ?_ (fun u hu=>by
  have:u=dh z:=by simpa using hu
  subst this;exact qB z) (by unfold maxLen;omega) (by omega) aI ?_
 ·intro j u hu
  rw[mq];cases j with
  | zero =>
   simp only[List.getElem?_cons_zero,Option.some.injEq]at hu;rw[← hu];exact hc
  | succ j=>simp at hu
 ·intro v' w' o1 g1 _ _
  refine h v' w' ?_ ((jdg base w).grown g1 aI (fun k hk=>(aA.lt k hk).1));rw[mr,jdj];exact o1
theorem ZV:(Tryz.prog.info? 52).map (fun i=>(i.zero,i.size,i.bytes))=some (some (.agg #[.int .u8 0,.int .i64 0,.string ⟨#[]⟩]),3,32):=by kernel_rfl
theorem mQ{w:World}{ops:Array Oper}{rest:List Oper}{o:Oper}{a:Act}{Q:Exit->Act->World->Prop}(eg:o.guard=none)(s x:Operand)
  (ho:o.op=.call { callee:=.builtin .append,args:=#[s,x],argTypes:=#[58,58] })
  (base:Nat) (v:Value) (g:Nat) (z:Nat×Int×List Nat) (l0:List (Nat×Int×List Nat)) (hs:a.eval s=v) (aA:hO w base v l0) (hx:a.eval x=.slice (some ⟨g,0,none⟩) 1 1)
  (oR:w.cell? ⟨g,0,none⟩=some (.int .u8 (z.1:Int))) (ly:w.cell? ⟨g,1,none⟩=some (.int .i64 z.2.1)) (kF:w.cell? ⟨g,2,none⟩=some (txt z.2.2))
  (hbytes:l0.length<=100000) (aI:base<=w.heap.size)
  (h:∀ v' w',hO w' base v' (l0++[z])->Below base w w'->wpList Tryz.prog ops Q rest (a.put o.dst v') w') :
  wpList Tryz.prog ops Q (o::rest) a w:=by
 obtain⟨i0,hi,cm,hz1',bn⟩:=jdA ZV;unfold hO at *
 refine jdU (w:=w) eg s x 58 ho base 52 i0 (.agg #[.int .u8 0,.int .i64 0,.string ⟨#[]⟩]) 3 32 Tryz.underlying58 hi cm hz1' bn rfl (by decide) v l0.length (iJ l0) hs aA ⟨g,0,none⟩ 1 1 (vM z) hx rfl ?_ (fun u hu=>by
  unfold vM at hu;simp only[jdz,jeY,or_false]at hu;rcases hu with rfl | rfl | rfl<;>rfl) (by unfold maxLen;omega) (by omega) aI ?_
 ·intro j u hu
  rw[mq];unfold vM at hu;match j,hu with
  | 0,hu=>simp only[List.getElem?_cons_zero,Option.some.injEq]at hu;rw[← hu];exact oR
  | 1,hu=>simp only[List.getElem?_cons_succ,List.getElem?_cons_zero,Option.some.injEq]at hu;rw[← hu];exact ly
  | 2,hu=>simp only[List.getElem?_cons_succ,List.getElem?_cons_zero,Option.some.injEq]at hu;rw[← hu];exact kF
  | j+3,hu=>simp at hu
 ·intro v' w' o1 g1 _ _
  refine h v' w' ?_ ((jdg base w).grown g1 aI (fun k hk=>(aA.lt k hk).1));rw[AC,jdj];have:iJ [z]=vM z:=by simp[iJ]
  rw[this];exact o1
def aV(c:Nat×Int×List Nat):Prop :=
 c=nul∨(∃ n,c=(1,n,[])/\I64 n)∨(∃ n:Nat,c=(2,(n:Int),[])/\n<2)∨(∃ s,c=(3,0,s)/\s.length<=64/\Bs s)
theorem aV.val{c:Nat×Int×List Nat}(h:aV c):Val (dh c) (c.1:Int) c.2.1 (am c.2.2):=by
 rcases h with rfl | ⟨n,rfl,h⟩ | ⟨n,rfl,h⟩ | ⟨n,rfl,h⟩
 ·exact Or.inl ⟨rfl,rfl,rfl,rfl⟩
 ·exact Or.inr (Or.inl ⟨rfl,rfl,rfl⟩)
 ·refine Or.inr (Or.inr (Or.inl ⟨decide (((n:Nat):Int)=1),rfl,rfl,?_,rfl⟩))
  obtain rfl | rfl:n=0∨n=1:=by omega
  ·rfl
  ·rfl
 ·exact Or.inr (Or.inr (Or.inr ⟨rfl,rfl,rfl⟩))
def Okc(c:Nat×Int×List Nat):Prop:=c.1<256/\I64 c.2.1/\Bs c.2.2
def cp(c:Nat×Int×List Nat):Nat×Int×List Nat:=if flt (c.1:Int) c.2.1 (am c.2.2)=0 then c else nul
theorem jN{s:List Nat}(h:am s=⟨#[]⟩):s=[]:=by
 have:=jdm ByteArray.size h;rw[bm]at this;exact jdF this
theorem iS{c:Nat×Int×List Nat}(h:Okc c):aV (cp c):=by
 unfold cp;split
 ·next h0 =>
  obtain⟨ck,cn,cs⟩:=c;obtain⟨g1,g2,g3⟩:=h;simp only at *;rcases CO (by omega) h0 with ⟨a1,a2,a3⟩ | ⟨a1,a3⟩ | ⟨a1,a2,a3⟩ | ⟨a1,a2,a3⟩ | ⟨a1,a2,a3⟩
  ·have e1:ck=0:=by omega
   have e3:=jN a3;subst e1 a2 e3;exact Or.inl rfl
  ·have e1:ck=1:=by omega
   have e3:=jN a3;subst e1 e3;exact Or.inr (Or.inl ⟨cn,rfl,g2⟩)
  ·have e1:ck=2:=by omega
   have e3:=jN a3;subst e1 a2 e3;exact Or.inr (Or.inr (Or.inl ⟨0,rfl,by omega⟩))
  ·have e1:ck=2:=by omega
   have e3:=jN a3;subst e1 a2 e3;exact Or.inr (Or.inr (Or.inl ⟨1,rfl,by omega⟩))
  ·have e1:ck=3:=by omega
   subst e1 a2;rw[bm]at a3;exact Or.inr (Or.inr (Or.inr ⟨cs,rfl,a3,g3⟩))
 ·exact Or.inl rfl
theorem aV.okc{c:Nat×Int×List Nat}(h:aV c):Okc c:=by
 rcases h with rfl | ⟨n,rfl,h⟩ | ⟨n,rfl,hn⟩ | ⟨s,rfl,_,h⟩
 ·exact⟨by simp[nul],by simp[nul,I64],fun x hx=>by simp[nul]at hx⟩
 ·exact⟨by simp,h,fun x hx=>by simp at hx⟩
 ·exact⟨by simp,by simp only[I64];omega,fun x hx=>by simp at hx⟩
 ·exact⟨by simp,by simp[I64],h⟩
theorem QB{v:Value}{c:Nat×Int×List Nat}(hf:aV c)(h:Val v (c.1:Int) c.2.1 (am c.2.2)):v=dh c:=by
 rcases hf with rfl | ⟨n,rfl,_⟩ | ⟨n,rfl,hn⟩ | ⟨s,rfl,_⟩
 ·rcases h with ⟨h,_⟩ | ⟨_,h,_⟩ | ⟨b,_,h,_⟩ | ⟨_,h,_⟩
  ·exact h
  ·simp[nul]at h
  ·simp[nul]at h
  ·simp[nul]at h
 ·rcases h with ⟨_,h,_⟩ | ⟨h,_⟩ | ⟨b,_,h,_⟩ | ⟨_,h,_⟩
  ·simp at h
  ·exact h
  ·simp at h
  ·simp at h
 ·rcases h with ⟨_,h,_⟩ | ⟨_,h,_⟩ | ⟨b,h,_,h2,_⟩ | ⟨_,h,_⟩
  ·simp at h
  ·simp at h
  ·rw[h]
   simp only at h2;obtain rfl | rfl:n=0∨n=1:=by omega
   ·cases b
    ·rfl
    ·simp at h2
   ·cases b
    ·simp at h2
    ·rfl
  ·simp at h
 ·rcases h with ⟨_,h,_⟩ | ⟨_,h,_⟩ | ⟨b,_,h,_⟩ | ⟨h,_⟩
  ·simp at h
  ·simp at h
  ·simp at h
  ·exact h
theorem Sc.form{W:World}{v:Value}{l:List (Nat×Int×List Nat)}(h:Sc W v l):∃ a cap,v=.slice a l.length cap/\l.length<=cap/\cap<=maxLen:=by
 obtain⟨a,cap,h1,h2,h3,_⟩:=h;exact⟨a,cap,h1,h2,h3⟩
theorem dH(w:World)(x y z:Value)(t:Nat):(w.alloc (.cells #[x,y,z] t)).cell? ⟨w.heap.size,0,none⟩=some x/\(w.alloc (.cells #[x,y,z] t)).cell? ⟨w.heap.size,1,none⟩=some y/\(w.alloc (.cells #[x,y,z] t)).cell? ⟨w.heap.size,2,none⟩=some z:=by
 have h:=jdH w (.cells #[x,y,z] t);exact⟨by rw[ay h];rfl,by rw[ay h];rfl,by rw[ay h];rfl⟩
theorem AD{α : Type}{l m:List α}{j:Nat}(h1:j<l.length)(h2:j<m.length)(h:l.take j=m.take j)(he:l[j]=m[j]):l.take (j+1)=m.take (j+1):=by
 rw[jdx h1,jdx h2,h,he]
def val:List UInt8->Nat
 | []=>0
 | b::r=>b.toNat % 128+128*val r
theorem AE:val []=0:=rfl
theorem jn(b:UInt8)(r:List UInt8):val (b::r)=b.toNat % 128+128*val r:=rfl
theorem vN:∀ l,val l<128 ^ l.length
 | []=>by simp[val]
 | b::r=>by
  have:=vN r;rw[jn,jdn,Nat.pow_succ];omega
theorem vO:∀ a b,val (a++b)=val a+128 ^ a.length*val b
 | [],b=>by simp[val]
 | x::a,b=>by
  rw[jd6,jn,vO a b,jn,jdn,Nat.pow_succ,jep];have:128*(128 ^ a.length*val b)=128 ^ a.length*128*val b:=by rw[jdP (128 ^ a.length) 128,jev]
  omega
theorem fd{l:List UInt8}{k:Nat}(h:k<l.length):val (l.take (k+1))=val (l.take k)+(l[k].toNat % 128)*128 ^ k:=by
 rw[jdx h,vO,jn,AE,jdo,jeg (by omega)];simp[jdP]
def aT:List UInt8->Nat
 | []=>0
 | b::r=>if 128<=b.toNat then aT r+1 else 0
theorem uV:∀ l,aT l<=l.length
 | []=>by simp[aT]
 | b::r=>by
  have:=uV r;unfold aT;split<;>simp<;>omega
theorem ny:∀(l:List UInt8) (k:Nat) (h:k<l.length),k<aT l->128<=l[k].toNat
 | [],k,h,_=>by simp at h
 | b::r,0,h,hk=>by
  unfold aT at hk;split at hk
  ·simpa
  ·omega
 | b::r,k+1,h,hk=>by
  unfold aT at hk;split at hk
  ·simpa using ny r k (by simpa using h) (by omega)
  ·omega
theorem iT:∀(l:List UInt8) (h:aT l<l.length),l[aT l].toNat<128
 | [],h=>by simp at h
 | b::r,h=>by
  by_cases hb:128<=b.toNat
  ·have e:aT (b::r)=aT r+1:=by rw[aT,jdf hb]
   have hr:aT r<r.length:=by rw[e]at h;simpa using h
   have:=iT r hr;simpa [e]using this
  ·have e:aT (b::r)=0:=by rw[aT,jde hb]
   simpa [e]using hb
theorem KR{l:List UInt8}{k:Nat}(hk:k<=aT l)(h:k<l.length)(hs:l[k].toNat<128):aT l=k:=by
 rcases jdJ k (aT l)with h1 | h1
 ·have:=ny l k h h1;omega
 ·omega
theorem Mb{l:List UInt8}{k:Nat}(hk:k<=aT l)(h:k<l.length)(hs:128<=l[k].toNat):k+1<=aT l:=by
 rcases jdJ k (aT l)with h1 | h1
 ·exact h1
 ·have e:aT l=k:=by omega
  have h2:=iT l (by omega);simp only[e]at h2;omega
def fy(l:List UInt8):Nat×Nat×Nat :=
 if 9<=aT l/\9<l.length/\1<(l.getD 9 0).toNat then (0,0,31)
 else if aT l=l.length then (0,0,30)
 else if (l.getD (aT l) 0).toNat=0/\0<aT l then (0,0,31)
 else (val (l.take (aT l+1)),aT l+1,0)
theorem kQ{l:List UInt8}{k:Nat}(h:k<l.length):l.getD k 0=l[k]:=by
 rw[List.getD_eq_getElem?_getD,List.getElem?_eq_getElem h];rfl
theorem Gn{l:List UInt8}(hk:9<=aT l)(h:9<l.length)(hs:1<l[9].toNat):fy l=(0,0,31):=by
 unfold fy;rw[jdf ⟨hk,h,by rwa[kQ h]⟩]
theorem CQ{l:List UInt8}{k:Nat}(hk:k<=aT l)(h9:k<=9)(h:¬ k<l.length):fy l=(0,0,30):=by
 have:=uV l;unfold fy;rw[jde (fun h=>by omega),jdf (by omega)]
theorem yS{l:List UInt8}{k:Nat}(hk:k<=aT l)(h9:k<=9)(h:k<l.length)(hs:l[k].toNat<128)(ht:k=9->l[k].toNat<=1) :
  fy l=if l[k].toNat=0/\0<k then (0,0,31) else (val (l.take (k+1)),k+1,0):=by
 have e:=KR hk h hs;unfold fy;rw[e,jde,jde (by omega),kQ h];rintro⟨h1,h2,h3⟩;obtain rfl:k=9:=by omega
 rw[kQ h2]at h3;have:=ht rfl;omega
theorem QC{l:List UInt8}{k:Nat}(h9:k<=9)(h:k<l.length)(ht:k=9->l[k].toNat<=1):val (l.take (k+1))<18446744073709551616:=by
 rcases jdJ k 9 with h1 | h1
 ·have h2:=vN (l.take (k+1))
  rw[jdo,jeg (by omega)]at h2;have h3:128 ^ (k+1)<=128 ^ 9:=jew (by omega) (by omega);have h4:(128:Nat) ^ 9=9223372036854775808:=by decide
  omega
 ·obtain rfl:k=9:=by omega
  rw[fd h];have h2:=vN (l.take 9);rw[jdo,jeg (by omega)]at h2;have h4:(128:Nat) ^ 9=9223372036854775808:=by decide
  rw[h4]at *;have:=ht rfl;omega
theorem Gp:∀(n x:Nat),x<=n->val (uvarint x)=x/\aT (uvarint x)+1=(uvarint x).length
 | n,x,hn=>by
  by_cases h:x<128
  ·rw[uvarint_small h,jn,mo (by omega),AE,aT,mo (by omega),jde (by omega)]
   simp;omega
  ·cases n with
   | zero=>omega
   | succ n =>
    obtain⟨h1,h2⟩:=Gp n (x / 128) (by omega);rw[uvarint_big (by omega),jn,mo (by omega),aT,mo (by omega),jdf (by omega),h1,h2,jdn];omega
theorem Gq(x:Nat):val (uvarint x)=x:=(Gp x x (jdh _)).1
theorem AF(x:Nat):aT (uvarint x)+1=(uvarint x).length:=(Gp x x (jdh _)).2
theorem YE:∀(l:List UInt8) (h:aT l+1=l.length),¬ (l[aT l].toNat=0/\0<aT l)->uvarint (val l)=l
 | [],h,_=>by simp at h
 | b::r,h,hc=>by
  have hb:=b.toNat_lt;by_cases hg:128<=b.toNat
  ·have e:aT (b::r)=aT r+1:=by rw[aT,jdf hg]
   have hr:aT r+1=r.length:=by rw[e]at h;simpa using h
   simp only[e,List.getElem_cons_succ]at hc;have hz:r[aT r].toNat≠0:=fun h1=>hc ⟨h1,by omega⟩
   have ih:=YE r hr (fun h1=>hz h1.1)
   have hv:0<val r:=by
    rcases jd4 (val r)with h0 | h0
    ·exfalso
     have h3:=fd (l:=r) (k:=aT r) (by omega);rw[jdZ (by omega),h0]at h3;have h4:=iT r (by omega);have h5:r[aT r].toNat % 128=r[aT r].toNat:=(by omega);rw[h5]at h3;have h6:0<r[aT r].toNat*128 ^ aT r:=Nat.mul_pos (by omega) (Nat.pow_pos (by omega));omega
    ·exact h0
   rw[jn,uvarint_big (by omega)];have e1:(b.toNat % 128+128*val r) / 128=val r:=(by omega);have e2:(b.toNat % 128+128*val r) % 128+128=b.toNat:=(by omega);rw[e1,e2,ih];simp
  ·have e:aT (b::r)=0:=by rw[aT,jde hg]
   rw[e]at h;have hr:r=[]:=by cases r with | nil=>rfl | cons _ _=>simp at h
   subst hr;rw[jn,AE,uvarint_small (by omega)];have:b.toNat % 128+128*0=b.toNat:=by omega
   rw[this];simp
theorem AG:∀(n x:Nat),x<=n->∀ h:aT (uvarint x)<(uvarint x).length,¬ ((uvarint x)[aT (uvarint x)].toNat=0/\0<aT (uvarint x))
 | n,x,hn,h=>by
  by_cases hx:x<128
  ·rintro⟨_,h2⟩
   rw[uvarint_small hx,aT,mo (by omega),jde (by omega)]at h2;omega
  ·cases n with
   | zero=>omega
   | succ n =>
    have ih:=AG n (x / 128) (by omega);have e0:=uvarint_big (x:=x) (by omega);have e:aT (uvarint x)=aT (uvarint (x / 128))+1:=by rw[e0,aT,mo (by omega),jdf (by omega)]
    have hl:=AF (x / 128);rintro⟨h1,_⟩;have ih2:=ih (by omega)
    have h3:(uvarint (x / 128))[aT (uvarint (x / 128))].toNat=0:=by
     have h4:(uvarint x)[aT (uvarint x)]=(uvarint (x / 128))[aT (uvarint (x / 128))]:=by
      simp only[e];simp[e0]
     rw[← h4];exact h1
    rcases jd4 (aT (uvarint (x / 128)))with h0 | h0
    ·have h5:=fd (l:=uvarint (x / 128)) (k:=0) (by omega)
     have h6:(uvarint (x / 128))[0].toNat=0:=by simpa [h0]using h3
     rw[h6,jdZ (by omega),Gq]at h5;simp[val]at h5
     omega
    ·exact ih2 ⟨h3,h0⟩
theorem QD{l:List UInt8}(h:aT l+1=l.length):uvarint (val l)=l↔¬ (l[aT l].toNat=0/\0<aT l):=by
 constructor
 ·intro e
  have:=AG (val l) (val l) (jdh _) (by rw[e];omega);simp only[e]at this;exact this
 ·exact YE l h
theorem tC:∀(a b:List UInt8),aT a<a.length->aT (a++b)=aT a
 | [],b,h=>by simp at h
 | x::a,b,h=>by
  rw[jd6];by_cases hx:128<=x.toNat
  ·rw[aT,jdf hx]at h ⊢
   rw[aT,jdf hx,tC a b (by simpa using h)]
  ·rw[aT,jde hx,aT,jde hx]
theorem yT:∀(l:List UInt8) (k:Nat),k<=aT l->aT (l.take k)=k
 | l,0,_=>by simp[aT]
 | [],k+1,h=>by simp[aT]at h
 | b::r,k+1,h=>by
  unfold aT at h;split at h
  ·rename_i hb
   rw[jeZ,aT,jdf hb,yT r k (by omega)]
  ·omega
theorem VY(n:Nat)(hn:n<18446744073709551616)(r:List UInt8):fy (uvarint n++r)=(n,(uvarint n).length,0):=by
 have h1:=AF n;have nk:=uvarint_length64 hn;have hl:=tC (uvarint n) r (by omega);have hk:aT (uvarint n)<(uvarint n++r).length:=by simp;omega
 have ja2:(uvarint n++r)[aT (uvarint n)]=(uvarint n)[aT (uvarint n)]:=je6 (by omega);have Vx:=iT (uvarint n) (by omega);have XD:(uvarint n++r).take (aT (uvarint n)+1)=uvarint n:=by rw[h1];simp
 have ht:aT (uvarint n)=9->(uvarint n++r)[aT (uvarint n)].toNat<=1:=by
  intro h9;rw[ja2];have h5:=fd (l:=uvarint n) (k:=aT (uvarint n)) (by omega);rw[h1,jdp,Gq]at h5;have h4:(128:Nat) ^ aT (uvarint n)=9223372036854775808:=by rw[h9]
  rw[h4]at h5;omega
 rw[yS (k:=aT (uvarint n)) (by omega) (by omega) hk (by rw[ja2];exact Vx) ht,XD,Gq,jde,h1];rw[ja2];exact AG n n (jdh _) (by omega)
theorem VZ(n:Nat)(hn:n<18446744073709551616)(k:Nat)(hk:k<(uvarint n).length):fy ((uvarint n).take k)=(0,0,30):=by
 have h1:=AF n;have nk:=uvarint_length64 hn;have hl:=yT (uvarint n) k (by omega);exact CQ (k:=k) (by omega) (by omega) (by simp;omega)
theorem vP:∀ a:Fin 256,bits .andNot .u8 (a.val:Int) 128=((a.val % 128:Nat):Int):=by decide +kernel
theorem Mc(c:UInt8):bits .andNot .u8 (c.toNat:Int) 128=((c.toNat % 128:Nat):Int):=vP ⟨c.toNat,c.toNat_lt⟩
theorem ZW(k:Nat):(2:Nat) ^ (7*k)=128 ^ k:=by rw[Nat.pow_mul]
theorem QE{n c k:Nat}(hk:k<=9)(hn:n<128 ^ k)(h:c*128 ^ k<18446744073709551616) :
  bits .or .u64 (n:Int) ((c*128 ^ k:Nat):Int)=((n+c*128 ^ k:Nat):Int):=by
 have h9:128 ^ k<=128 ^ 9:=jew (by omega) hk;have h4:(128:Nat) ^ 9=9223372036854775808:=by decide
 have e:bits .or .u64 (n:Int) ((c*128 ^ k:Nat):Int)=(n:Int)+((c*128 ^ k:Nat):Int):=by
  apply bits_join_low .u64 64 (by decide) wraps_u64 (7*k)
  ·omega
  ·have:(n:Int)<((2 ^ (7*k):Nat):Int):=by rw[ZW];omega
   simpa using this
  ·omega
  ·omega
  ·have:(((c*128 ^ k:Nat):Int) % ((2 ^ (7*k):Nat):Int))=0:=by rw[ZW,← Int.natCast_emod];simp
   simpa using this
  ·omega
 rw[e];omega
def uv(n:Nat):List Nat:=(uvarint n).map UInt8.toNat
def gt(l:List Nat):Nat×Nat×Nat:=fy (l.map Nat.toUInt8)
theorem CR(l:List UInt8):(l.map UInt8.toNat).map Nat.toUInt8=l:=by
 rw[jdT];conv=>rhs;rw[← jel l]
 apply jef
 intro a _;simp
theorem gN{n:Nat}:∀ x∈uv n,x<256:=by
 intro x hx;obtain⟨a,_,rfl⟩:=jdE.1 hx;exact a.toNat_lt
theorem ms(n:Nat):(uv n).length=(uvarint n).length:=jdk _
theorem mt(n:Nat):0<(uv n).length:=by rw[ms];exact uvarint_pos n
theorem bJ{n:Nat}(h:n<18446744073709551616):(uv n).length<=10:=by rw[ms];exact uvarint_length64 h
theorem mu(n:Nat)(hn:n<18446744073709551616)(r:List Nat):gt (uv n++r)=(n,(uv n).length,0):=by
 unfold gt uv;rw[jdC,CR,VY n hn,jdk]
theorem QF(n:Nat)(hn:n<18446744073709551616)(k:Nat)(hk:k<(uv n).length):gt ((uv n).take k)=(0,0,30):=by
 unfold gt uv;rw[jeE,CR,VZ n hn k (by rwa[ms]at hk)]
theorem vQ{n:Nat}(h:n<128):uv n=[n]:=by
 unfold uv;rw[uvarint_small h];simp[mo (show n<256 by omega)]
theorem Wa{l:List UInt8}{n u:Nat}(h:fy l=(n,u,0)):n<18446744073709551616/\l.take u=uvarint n/\u<=l.length:=by
 have oV:=uV l;unfold fy at h;split at h
 ·simp at h
 ·next h1 =>
  split at h
  ·simp at h
  ·next h2 =>
   split at h
   ·simp at h
   ·next h3 =>
    have hl:aT l<l.length:=(by omega);simp only[Prod.mk.injEq,and_true]at h;obtain⟨rfl,rfl⟩:=h;rw[kQ hl]at h3
    have aC:aT l<=9:=by
     rcases jdJ 9 (aT l)with h9 | h9
     ·exfalso
      apply h1
      have:=ny l 9 (by omega) h9;exact⟨by omega,by omega,by rw[kQ (by omega)];omega⟩
     ·exact h9
    have ht:aT l=9->l[aT l].toNat<=1:=by
     intro e;rcases jdJ 1 l[aT l].toNat with h9 | h9
     ·exfalso
      apply h1
      have nk:9<l.length:=(by omega);have e2:l[9]=l[aT l]:=by simp only[e]
      exact⟨by omega,nk,by rw[kQ nk,e2];exact h9⟩
     ·exact h9
    refine⟨QC aC hl ht,?_,by omega⟩;have bR:(l.take (aT l+1)).length=aT l+1:=by rw[jdo];omega
    have yw:aT (l.take (aT l+1))=aT l:=by
     have Vx:=iT l hl;refine KR (l:=l.take (aT l+1)) ?_ (by omega) (by simpa using Vx);rcases jdJ (aT (l.take (aT l+1))) (aT l)with hh | hh
     ·exfalso
      have ei:=iT (l.take (aT l+1)) (by omega);have hb:=ny l _ (by omega) hh;simp at ei
      omega
     ·exact hh
    refine((QD (l:=l.take (aT l+1)) (by omega)).2 ?_).symm;simp only[yw];rintro⟨h4,h5⟩;exact h3 ⟨by simpa using h4,h5⟩
theorem QG{l:List Nat}{n u:Nat}(hl:∀ x∈l,x<256)(h:gt l=(n,u,0)):n<18446744073709551616/\l=uv n++l.drop u/\u=(uv n).length:=by
 obtain⟨h1,h2,h3⟩:=Wa h
 have e:l.take u=uv n:=by
  unfold uv;rw[← h2,← jeE,fo (fun x hx=>hl x (jd3 hx))]
 refine⟨h1,?_,?_⟩
 ·rw[← e,jeD]
 ·rw[← e,jdo]
  rw[jdk]at h3;omega
def aB{α β : Type}(d:List Nat->Except Nat (α×List Nat))(f:α->List Nat->Except Nat (β×List Nat))(b:List Nat):Except Nat (β×List Nat) :=
 match d b with
 | .ok (x,r)=>f x r
 | .error e=>.error e
theorem cX{α β : Type}{d:List Nat->Except Nat (α×List Nat)}{f:α->List Nat->Except Nat (β×List Nat)}{b r:List Nat}{x:α}(h:d b=.ok (x,r)):aB d f b=f x r:=by
 unfold aB;rw[h]
theorem cC{α β : Type}{d:List Nat->Except Nat (α×List Nat)}{f:α->List Nat->Except Nat (β×List Nat)}{b:List Nat}{e:Nat}(h:d b=.error e):aB d f b=.error e:=by
 unfold aB;rw[h]
def dZ{α : Type}(d:List Nat->Except Nat (α×List Nat))(e:List Nat)(x:α):Prop :=
 (∀ r,d (e++r)=.ok (x,r))/\∀ k,k<e.length->d (e.take k)=.error 30
def qC{α : Type}(d:List Nat->Except Nat (α×List Nat))(e:List Nat)(x:α):Prop :=
 d e=.ok (x,[])/\(∀ y r,d (e++y::r)=.error 32∨d (e++y::r)=.ok (x,y::r))/\∀ k,k<e.length->d (e.take k)=.error 30
theorem dZ.ends{α : Type}{d:List Nat->Except Nat (α×List Nat)}{e:List Nat}{x:α}(h:dZ d e x):qC d e x :=
 ⟨by have:=h.1 [];rwa[jdB]at this,fun y r=>Or.inr (h.1 _),h.2⟩
theorem dZ.pure{α : Type}(x:α):dZ (fun b=>.ok (x,b)) [] x:=⟨fun r=>rfl,fun k h=>by simp at h⟩
theorem dZ.bind{α β : Type}{d:List Nat->Except Nat (α×List Nat)}{f:α->List Nat->Except Nat (β×List Nat)}{e e':List Nat}{x:α}{y:β}(h1:dZ d e x)(h2:dZ (f x) e' y) :
  dZ (aB d f) (e++e') y:=by
 refine⟨fun r=>?_,fun k hk=>?_⟩
 ·rw[jdw,cX (h1.1 _)]
  exact h2.1 r
 ·rw[List.take_append]
  rcases jdJ k e.length with h | h
  ·rw[show k-e.length=0 by omega,jeF,jdB]
   exact cC (h1.2 k h)
  ·rw[jdZ h,cX (h1.1 _)]
   exact h2.2 _ (by rw[jdj]at hk;omega)
theorem dZ.then{α β : Type}{d:List Nat->Except Nat (α×List Nat)}{f:α->List Nat->Except Nat (β×List Nat)}{e e':List Nat}{x:α}{y:β}(h1:dZ d e x)(h2:qC (f x) e' y) :
  qC (aB d f) (e++e') y:=by
 refine⟨?_,fun z r=>?_,fun k hk=>?_⟩
 ·rw[cX (h1.1 _)]
  exact h2.1
 ·rw[jdw,cX (h1.1 _)]
  exact h2.2.1 z r
 ·rw[List.take_append]
  rcases jdJ k e.length with h | h
  ·rw[show k-e.length=0 by omega,jeF,jdB]
   exact cC (h1.2 k h)
  ·rw[jdZ h,cX (h1.1 _)]
   exact h2.2.2 _ (by rw[jdj]at hk;omega)
theorem dZ.map{α β : Type}{d:List Nat->Except Nat (α×List Nat)}{e:List Nat}{x:α}(g:α->β)(h:dZ d e x):dZ (aB d fun a r=>.ok (g a,r)) e (g x):=by
 have:=h.bind (f:=fun a r=>.ok (g a,r)) (e':=[]) (y:=g x) (dZ.pure (g x));rwa[jdB]at this
theorem qC.map{α β : Type}{d:List Nat->Except Nat (α×List Nat)}{e:List Nat}{x:α}(g:α->β)(h:qC d e x):qC (aB d fun a r=>.ok (g a,r)) e (g x):=by
 refine⟨by rw[cX h.1],fun y r=>?_,fun k hk=>cC (h.2.2 k hk)⟩;rcases h.2.1 y r with h1 | h1
 ·exact Or.inl (cC h1)
 ·exact Or.inr (by rw[cX h1])
def num(b:List Nat):Except Nat (Nat×List Nat):=if (gt b).2.2=0 then .ok ((gt b).1,b.drop (gt b).2.1) else .error (gt b).2.2
theorem lH{n:Nat}(hn:n<18446744073709551616):dZ num (uv n) n:=by
 refine⟨fun r=>?_,fun k hk=>?_⟩
 ·unfold num
  rw[mu n hn r,jdf rfl,jdY]
 ·unfold num
  rw[QF n hn k hk,jde (by simp)]
def fD(u:Nat):Int:=if u % 2=0 then ((u / 2:Nat):Int) else -((u / 2:Nat):Int)-1
theorem Md(z:Int):fD (zigzag z)=z:=by
 unfold fD zigzag;split<;>split<;>omega
theorem Me(u:Nat):zigzag (fD u)=u:=by
 unfold fD zigzag;split<;>split<;>omega
theorem jW{u:Nat}(h:u<18446744073709551616):I64 (fD u):=by
 unfold fD I64;split<;>omega
def wv(x:Int):List Nat:=uv (zigzag x)
def wh(b:List Nat):Except Nat (Int×List Nat):=if (gt b).2.2=0 then .ok (fD (gt b).1,b.drop (gt b).2.1) else .error (gt b).2.2
theorem lI{x:Int}(hx:I64 x):dZ wh (wv x) x:=by
 have hn:=zigzag_lt hx.1 hx.2;refine⟨fun r=>?_,fun k hk=>?_⟩
 ·unfold wh wv
  rw[mu _ hn r,jdf rfl,jdY,Md]
 ·unfold wh
  rw[wv,QF _ hn k hk,jde (by simp)]
theorem ZX{b r:List Nat}{n:Nat}(hb:∀ x∈b,x<256)(h:num b=.ok (n,r)):n<18446744073709551616/\b=uv n++r:=by
 unfold num at h;split at h
 ·next h0 =>
  simp only[Except.ok.injEq,Prod.mk.injEq]at h;obtain⟨h1,h2⟩:=h;obtain⟨g1,g2,_⟩:=QG (n:=(gt b).1) (u:=(gt b).2.1) hb (by rw[← h0]);rw[h1]at g1 g2;exact⟨g1,by rw[← h2];exact g2⟩
 ·simp at h
theorem wh_ok{b r:List Nat}{x:Int}(hb:∀ x∈b,x<256)(h:wh b=.ok (x,r)):I64 x/\b=wv x++r:=by
 unfold wh at h;split at h
 ·next h0 =>
  simp only[Except.ok.injEq,Prod.mk.injEq]at h;obtain⟨rfl,h2⟩:=h;obtain⟨g1,g2,_⟩:=QG (n:=(gt b).1) (u:=(gt b).2.1) hb (by rw[← h0]);refine⟨jW g1,?_⟩;unfold wv;rw[Me,← h2];exact g2
 ·simp at h
theorem ZY(x:Int):0<(wv x).length:=mt _
theorem yU{x:Int}:∀ y∈wv x,y<256:=gN
theorem fh{x:Int}(h:I64 x):(wv x).length<=10:=bJ (zigzag_lt h.1 h.2)
end Go.Proofs.YtpljdjmpamjkhaaGreatDoor
