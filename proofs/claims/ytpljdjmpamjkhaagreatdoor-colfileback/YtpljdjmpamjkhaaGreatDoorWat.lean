import Derived.Lib.SmallJoins
import Derived.Test.YtpljdjmpamjkhaaGreatDoorWas
set_option linter.unusedVariables false
set_option linter.unusedSimpArgs false
set_option maxRecDepth 100000
set_option maxHeartbeats 4000000
namespace Go.Proofs.YtpljdjmpamjkhaaGreatDoor
open Go.ChangeShapes Go.WideShapes Go.ChangeAt Go.RowKit Go.Lib Go.Joins
theorem own:ownKnob Tryz.prog.godebug=none:=by kernel_rfl
theorem Gf:laidOutB Tryz.prog=true:=by kernel_rfl
theorem Kb{W:World}{B:Nat}{a:Addr}{cs:List Value}(h:W.cells? B a 1=some cs):∃ c,cs=[c]/\W.cell? a=some c:=by
 obtain⟨_,hl,hc⟩:=World.cells?_some h;match cs,hl with
 | [c],_=>exact⟨c,rfl,by simpa [Addr.add]using hc 0 (by omega)⟩
theorem Te:Tryz.prog.cellsOf 52=3:=by kernel_rfl
theorem EB{H:Type}{enc:TypeId×Value->H}{W:World}{spare:Nat->Bool}{held:Bool}{a:Option Addr}{len cap:Nat}{d:DataW H}{p:List MemPlace}
  (h:DataW.Trod enc Tryz.prog W 0 spare held 58 (.slice a len cap) d p):∃ l:List (Nat×Int×List Nat),Sc W (.slice a len cap) l/\∀ c∈l,Okc c:=by
 obtain⟨fuel,hf⟩:=h;rcases Deep.open_slice Tryz.underlying58 hf with ⟨h1,_⟩ | ⟨a1,l1,c1,m,n,D,Pl,h1,_,hlc,hm,WU,_,hcells⟩
 ·simp[Value.cells]at h1
  obtain⟨rfl,rfl,rfl⟩:=h1;exact⟨[],⟨none,0,rfl,YA _,by unfold maxLen;omega,fun h=>by simp at h⟩,fun x hx=>by simp at hx⟩
 ·simp[Value.cells]at h1
  obtain⟨rfl,rfl,rfl⟩:=h1;rw[Te]at hcells;have Yo:len<=m:=by rw[WU];split<;>omega
  have QP:∀ i,i<len->∃ x:Nat×Int×List Nat,Okc x/\W.cell? ((a1.add (i*3)).add 0)=some (.int .u8 (x.1:Int))/\W.cell? ((a1.add (i*3)).add 1)=some (.int .i64 x.2.1)/\W.cell? ((a1.add (i*3)).add 2)=some (txt x.2.2):=by
   intro i hi;obtain⟨cs,hc,ht⟩:=hcells i (by omega);obtain⟨c0,c1,c2,rfl,e0,e1,e2⟩:=zz hc;obtain⟨y0,y1,y2,m1,_,_,t0,t1,t2⟩:=Deep.trod_struct3 Tryz.underlying52 ht;have k28:Tryz.prog.cellsOf 50=1:=by kernel_rfl
   have k9:Tryz.prog.cellsOf 9=1:=by kernel_rfl
   have k2:Tryz.prog.cellsOf 2=1:=by kernel_rfl
   simp only[k28,k9,k2]at t0 t1 t2;obtain⟨k,q0,_,wk⟩:=DataW.trod_int Tryz.underlying50 t0;obtain⟨n,q1,_,wn⟩:=DataW.trod_int Tryz.underlying2 t1;obtain⟨s,q2,_⟩:=DataW.trod_string Tryz.underlying9 t2;simp at q0 q1 q2
   subst q0 q1 q2;have hk:=bounds_u8 wk;have hn:=bounds_i64 wn;have hI:I64 n:=⟨hn.1,by have:=hn.2;omega⟩;have Fw:((k.toNat:Nat):Int)=k:=(by omega);refine⟨(k.toNat,n,dX s),⟨show k.toNat<256 by omega,hI,zv s⟩,?_,e1,?_⟩
   ·show _=some (Value.int .u8 ((k.toNat:Nat):Int))
    rw[e0,Fw]
   ·rw[e2,fD,ro]
  obtain⟨f,cK⟩:=Deep.choose_lt QP;have jD:((List.range len).map f).length=len:=by simp
  refine⟨(List.range len).map f,⟨some a1,cap,by rw[jD],by rw[jD];omega,by omega,fun h0=>?_⟩,?_⟩
  ·rw[jD]at h0
   obtain⟨b,off,spot⟩:=a1
   have Cj:spot=none:=by
    have:=World.cell?_spot (cK 0 (by omega)).2.1;simpa [Addr.add]using this
   subst Cj
   have hb:b<W.heap.size:=by
    obtain⟨cs,hc,_⟩:=hcells 0 (by omega);have:=World.cells?_block hc (by omega);simpa [Addr.add]using this
   refine⟨b,off,rfl,hb,fun j x hj=>?_⟩
   have td:j<len*3:=by
    have:=(List.getElem?_eq_some_iff.1 hj).1;rw[kN,jD]at this;exact this
   have hi:j / 3<len:=(by omega);have Ld:j / 3<((List.range len).map f).length:=by rw[jD];exact hi
   obtain⟨g0,g1,g2⟩:=qj Ld;obtain⟨_,k0,k1,k2⟩:=cK (j / 3) hi;rw[kq,kq]at k0 k1 k2;have kJ:((List.range len).map f)[j / 3]=f (j / 3):=by simp
   rw[kJ]at g0 g1 g2;obtain h | h | h:j=j / 3*3∨j=j / 3*3+1∨j=j / 3*3+2:=by omega
   ·rw[h]at hj ⊢
    rw[g0]at hj;rw[← hj,← k0];rfl
   ·rw[h]at hj ⊢
    rw[g1]at hj;rw[← hj,← k1];rfl
   ·rw[h]at hj ⊢
    rw[g2]at hj;rw[← hj,← k2];rfl
  ·intro x hx
   obtain⟨i,hi,rfl⟩:=YS.1 hx;exact(cK i (by simpa using hi)).1
theorem Tf:Tryz.prog.cellsOf 81=4:=by kernel_rfl
theorem Tg:Tryz.prog.cellsOf 25=2:=by kernel_rfl
theorem ED{W:World}{base:Nat}{a:Addr}{cs:List Value}(h:W.cells? base a 4=some cs):∃ c0 c1 c2 c3,cs=[c0,c1,c2,c3]/\W.cell? (a.add 0)=some c0/\W.cell? (a.add 1)=some c1/\W.cell? (a.add 2)=some c2/\W.cell? (a.add 3)=some c3:=by
 obtain⟨_,hl,hc⟩:=World.cells?_some h;match cs,hl with
 | [c0,c1,c2,c3],_=>exact⟨c0,c1,c2,c3,rfl,by simpa using hc 0 (by omega),by simpa using hc 1 (by omega),by simpa using hc 2 (by omega),by simpa using hc 3 (by omega)⟩
theorem Bx{H:Type}{enc:TypeId×Value->H}{W:World}{spare:Nat->Bool}{held:Bool}{fuel:Nat}{v:Value}{y:DataW H×List MemPlace}
  (hf:DataW.trod enc Tryz.prog W 0 spare held fuel 23 [v]=some y):∃ l:List Fd,Sf W v l/\∀ f∈l,Okf f:=by
 rcases Deep.open_slice Tryz.underlying23 hf with ⟨h1,_⟩ | ⟨a1,len,cap,m,n,D,Pl,h1,_,hlc,hm,WU,_,hcells⟩
 ·simp at h1
  subst h1;exact⟨[],Sf.nil _,fun x hx=>by simp at hx⟩
 ·simp at h1
  subst h1;rw[Tf]at hcells;have Yo:len<=m:=by rw[WU];split<;>omega
  have QP:∀ i,i<len->∃ x:Fd,Okf x/\W.cell? ((a1.add (i*4)).add 0)=some (.int .u32 (x.1:Int))/\W.cell? ((a1.add (i*4)).add 1)=some (.string x.2.1)/\W.cell? ((a1.add (i*4)).add 2)=some (.int .u8 (x.2.2.1:Int))/\W.cell? ((a1.add (i*4)).add 3)=some (.bool x.2.2.2):=by
   intro i hi;obtain⟨cs,hc,ht⟩:=hcells i (by omega);obtain⟨c0,c1,c2,c3,rfl,e0,e1,e2,e3⟩:=ED hc;obtain⟨y0,y1,y2,y3,m1,_,_,t0,t1,t2,t3⟩:=trod_struct4 Tryz.underlying81 ht;have k22:Tryz.prog.cellsOf 22=1:=by kernel_rfl
   have k9:Tryz.prog.cellsOf 9=1:=by kernel_rfl
   have k31:Tryz.prog.cellsOf 50=1:=by kernel_rfl
   have k4:Tryz.prog.cellsOf 4=1:=by kernel_rfl
   simp only[k22,k9,k31,k4]at t0 t1 t2 t3;obtain⟨k,q0,_,wk⟩:=DataW.trod_int Tryz.underlying22 t0;obtain⟨s,q1,_⟩:=DataW.trod_string Tryz.underlying9 t1;obtain⟨n,q2,_,wn⟩:=DataW.trod_int Tryz.underlying50 t2;obtain⟨bo,q3,_⟩:=DataW.trod_bool Tryz.underlying4 t3;simp at q0 q1 q2 q3
   subst q0 q1 q2 q3;have hk:=bounds_u32 wk;have hn:=bounds_u8 wn;have Fw:((k.toNat:Nat):Int)=k:=(by omega);have fb:((n.toNat:Nat):Int)=n:=(by omega);refine⟨(k.toNat,s,n.toNat,bo),⟨show k.toNat<4294967296 by omega,show n.toNat<256 by omega⟩,?_,e1,?_,e3⟩
   ·show _=some (Value.int .u32 ((k.toNat:Nat):Int))
    rw[e0,Fw]
   ·show _=some (Value.int .u8 ((n.toNat:Nat):Int))
    rw[e2,fb]
  obtain⟨f,cK⟩:=Deep.choose_lt QP;have jD:((List.range len).map f).length=len:=by simp
  refine⟨(List.range len).map f,⟨some a1,cap,by rw[jD],by rw[jD];omega,by omega,fun h=>by(cases h),fun h0=>?_⟩,?_⟩
  ·rw[jD]at h0
   obtain⟨b,off,spot⟩:=a1
   have Cj:spot=none:=by
    have:=World.cell?_spot (cK 0 (by omega)).2.1;simpa [Addr.add]using this
   subst Cj
   have hb:b<W.heap.size:=by
    obtain⟨cs,hc,_⟩:=hcells 0 (by omega);have:=World.cells?_block hc (by omega);simpa [Addr.add]using this
   refine⟨b,off,rfl,hb,fun j x hj=>?_⟩
   have td:j<len*4:=by
    have:=(List.getElem?_eq_some_iff.1 hj).1;rw[eM,jD]at this;exact this
   have hi:j / 4<len:=(by omega);have Ld:j / 4<((List.range len).map f).length:=by rw[jD];exact hi
   obtain⟨g0,g1,g2,g3⟩:=qw Ld;obtain⟨_,k0,k1,k2,k3⟩:=cK (j / 4) hi;rw[kq,kq]at k0 k1 k2 k3;have kJ:((List.range len).map f)[j / 4]=f (j / 4):=by simp
   rw[kJ]at g0 g1 g2 g3;obtain h | h | h | h:j=j / 4*4∨j=j / 4*4+1∨j=j / 4*4+2∨j=j / 4*4+3:=by omega
   ·rw[h]at hj ⊢
    rw[g0]at hj;rw[← hj,← k0];rfl
   ·rw[h]at hj ⊢
    rw[g1]at hj;rw[← hj,← k1];rfl
   ·rw[h]at hj ⊢
    rw[g2]at hj;rw[← hj,← k2];rfl
   ·rw[h]at hj ⊢
    rw[g3]at hj;rw[← hj,← k3];rfl
  ·intro x hx
   obtain⟨i,hi,rfl⟩:=YS.1 hx;exact(cK i (by simpa using hi)).1
theorem Bz{H:Type}{enc:TypeId×Value->H}{W:World}{r:Reach}{b0:Nat}{spare:Nat->Bool}{held:Bool}{v:Value}{d:DataW H}{p:List MemPlace}
  (hv:Value.okWide Tryz.prog W r b0 25 v) (h:DataW.Trod enc Tryz.prog W 0 spare held 25 v d p) :
  ∃(id:Nat) (u:Value) (l:List Fd),v=.agg #[.int .u32 (id:Int),u]/\id<4294967296/\Sf W u l/\∀ f∈l,Okf f:=by
 obtain⟨c0,c1,y0,y1,m,rfl,_,_,h0,h1⟩:=open_agg2 Tryz.underlying25 (by kernel_rfl) Tg hv h;obtain⟨k,e0,_,wk⟩:=DataW.trod_int Tryz.underlying22 h0;simp at e0
 subst e0;have hk:=bounds_u32 wk;obtain⟨l,hl,ho⟩:=Bx h1;obtain⟨n,rfl⟩:=jap hk.1;exact⟨n,c1,l,rfl,by omega,hl,ho⟩
theorem Pr:(Tryz.prog.info? 58).map (fun i=>(i.zero,i.size,i.bytes))=some (some (.slice none 0 0),1,24):=by kernel_rfl
theorem Wg:(Tryz.prog.info? 54).map (fun i=>(i.zero,i.size,i.bytes))=some (some (.agg #[.int .i64 0,.int .i64 0,.bool false,.bool false,.int .u8 0,.int .i64 0,.string ⟨#[]⟩,.int .u8 0,.int .i64 0,.string ⟨#[]⟩]),10,88):=by kernel_rfl
def Sr(W:World)(v:Value)(rs:List (List Cl)):Prop :=
 ∃ a cap,v=.slice a rs.length cap/\rs.length<=cap/\cap<=maxLen/\(0<rs.length->∃ b off,a=some ⟨b,off,none⟩/\b<W.heap.size/\∀ j (h:j<rs.length),∃ rv,W.cell? ⟨b,off+j,none⟩=some rv/\Sc W rv rs[j])
theorem Sr.kept{W W':World}{v:Value}{rs:List (List Cl)}(h:Sr W v rs)(hb:Below W.heap.size W W'):Sr W' v rs:=by
 obtain⟨a,cap,h1,h2,h3,h4⟩:=h;refine⟨a,cap,h1,h2,h3,fun h0=>?_⟩;obtain⟨b,off,h5,h6,h7⟩:=h4 h0;refine⟨b,off,h5,Za h6 hb.size,fun j hj=>?_⟩;obtain⟨rv,h8,h9⟩:=h7 j hj;exact⟨rv,(hb.cell (p:=⟨b,off+j,none⟩) h6).trans h8,h9.kept hb⟩
theorem Sr.form{W:World}{v:Value}{rs:List (List Cl)}(h:Sr W v rs):∃ a cap,v=.slice a rs.length cap/\rs.length<=cap/\cap<=maxLen:=by
 obtain⟨a,cap,h1,h2,h3,_⟩:=h;exact⟨a,cap,h1,h2,h3⟩
theorem Sr.at{W:World}{a:Option Addr}{n cap:Nat}{rs:List (List Cl)}(h:Sr W (.slice a n cap) rs){k:Nat}(hk:k<rs.length) :
  ∃ b off rv,a=some ⟨b,off,none⟩/\b<W.heap.size/\W.cell? ⟨b,off+k,none⟩=some rv/\Sc W rv rs[k]:=by
 obtain⟨a',cap',e,h1,h2,h4⟩:=h;simp only[Value.slice.injEq]at e;obtain⟨rfl,_,_⟩:=e;obtain⟨b,off,rfl,h5,h6⟩:=h4 (by omega);obtain⟨rv,h7,h8⟩:=h6 k hk;exact⟨b,off,rv,rfl,h5,h7,h8⟩
theorem Kc{H:Type}{enc:TypeId×Value->H}{W:World}{spare:Nat->Bool}{held:Bool}{a:Option Addr}{len cap:Nat}{d:DataW H}{p:List MemPlace}
  (h:DataW.Trod enc Tryz.prog W 0 spare held 26 (.slice a len cap) d p):∃ l:List (List Cl),Sr W (.slice a len cap) l/\∀ x∈l,∀ c∈x,Okc c:=by
 obtain⟨fuel,hf⟩:=h;rcases Deep.open_slice Tryz.underlying26 hf with ⟨h1,_⟩ | ⟨a1,l1,c1,m,n,D,Pl,h1,_,hlc,hm,WU,_,hcells⟩
 ·simp[Value.cells]at h1
  obtain⟨rfl,rfl,rfl⟩:=h1;exact⟨[],⟨none,0,rfl,YA _,by unfold maxLen;omega,fun h=>by simp at h⟩,fun x hx=>by simp at hx⟩
 ·simp[Value.cells]at h1
  obtain⟨rfl,rfl,rfl⟩:=h1;have cells58:Tryz.prog.cellsOf 58=1:=by kernel_rfl
  rw[cells58]at hcells;have Yo:len<=m:=by rw[WU];split<;>omega
  have QP:∀ i,i<len->∃ x:List Cl,(∀ c∈x,Okc c)/\∃ rv,W.cell? (a1.add i)=some rv/\Sc W rv x:=by
   intro i hi;obtain⟨cs,hc,ht⟩:=hcells i (by omega);rw[Nat.mul_one]at hc;obtain⟨c0,rfl,e0⟩:=Kb hc;rcases DataW.trod_slice Tryz.underlying58 ht with ⟨h1,_⟩ | ⟨a',len',cap',elems,rest,n',TT,h1,_⟩
   ·simp at h1
    subst h1;exact⟨[],fun c hc=>by simp at hc,_,e0,none,0,rfl,YA _,by unfold maxLen;omega,fun h=>by simp at h⟩
   ·simp at h1
    subst h1;obtain⟨x,hx,hox⟩:=EB (d:=_) (p:=_) ⟨_,ht⟩;exact⟨x,hox,_,e0,hx⟩
  obtain⟨f,cK⟩:=Deep.choose_lt QP;have jD:((List.range len).map f).length=len:=by simp
  refine⟨(List.range len).map f,⟨some a1,cap,by rw[jD],by rw[jD];omega,by omega,fun h0=>?_⟩,?_⟩
  ·rw[jD]at h0
   obtain⟨b,off,spot⟩:=a1
   have Cj:spot=none:=by
    obtain⟨_,rv,h1,_⟩:=cK 0 (by omega);have:=World.cell?_spot h1;simpa [Addr.add]using this
   subst Cj
   have hb:b<W.heap.size:=by
    obtain⟨cs,hc,_⟩:=hcells 0 (by omega);have:=World.cells?_block hc (by omega);simpa [Addr.add]using this
   refine⟨b,off,rfl,hb,fun j hj=>?_⟩;have Uj:j<len:=by rwa[jD]at hj
   obtain⟨_,rv,h1,h2⟩:=cK j Uj;rw[kq]at h1;exact⟨rv,h1,by simpa using h2⟩
  ·intro x hx
   obtain⟨i,hi,rfl⟩:=YS.1 hx;exact(cK i (by simpa using hi)).1
theorem qR{W:World}{B B' e size n:Nat}{v:Value}{xs:List Value}(h:W.ownsRow B e size v n xs)(hb:B'<=B):W.ownsRow B' e size v n xs:=by
 rcases h with ⟨h0,h1 | ⟨g,cap,cur,rfl,h2,h3⟩⟩
 ·exact⟨h0,.inl h1⟩
 ·exact⟨h0,.inr ⟨g,cap,cur,rfl,YG hb h2,h3⟩⟩
def pJ(l:List Stt):List Value:=l.flatMap celS
theorem pK:∀ l:List Stt,(pJ l).length=l.length*10
 | []=>rfl
 | c::t=>by
  show (celS c++pJ t).length=_
  rw[YC,pK t,YI];simp[celS]
  omega
theorem xk:∀{l:List Stt} {j:Nat} (h:j<l.length) {i:Nat} (hi:i<10),(pJ l)[j*10+i]?=(celS l[j])[i]?
 | c::t,0,h,i,hi=>by
  show (celS c++pJ t)[0*10+i]?=_
  rw[List.getElem?_append_left (by simp[celS];omega)];simp
 | c::t,j+1,h,i,hi=>by
  have ih:=xk (l:=t) (j:=j) (by simpa using h) hi;show (celS c++pJ t)[(j+1)*10+i]?=_
  rw[List.getElem?_append_right (by simp[celS];omega)];simp only[celS,YI,Zc];rw[show (j+1)*10+i-(0+1+1+1+1+1+1+1+1+1+1)=j*10+i by omega,ih];rfl
def Wh(W:World)(B:Nat)(v:Value)(l:List Stt):Prop:=W.ownsRow B 54 10 v l.length (pJ l)
theorem Wh.ss{W:World}{B:Nat}{v:Value}{l:List Stt}(h:Wh W B v l):Ss W v l:=by
 rcases h with ⟨h0,⟨rfl,h1⟩ | ⟨g,cap,cur,rfl,h2,h3,h4,h5,h6,h7⟩⟩
 ·refine⟨none,0,by rw[h1],by omega,by unfold maxLen;omega,fun h=>by omega⟩
 ·refine⟨_,cap,rfl,h4,h5,fun _=>⟨g,0,rfl,fun j hj=>?_⟩⟩
  have hc:∀ i,i<10->W.cell? ⟨g,0+j*10+i,none⟩=(celS l[j])[i]?:=fun i hi=>by
   rw[YY,← xk hj hi];have ar:j*10+i<(pJ l).length:=by rw[pK];omega
   obtain⟨x,hx⟩:∃ x,(pJ l)[j*10+i]?=some x:=⟨_,List.getElem?_eq_getElem ar⟩;rw[hx];simp only[World.cell?,h3];have Uj:(pJ l)[j*10+i]?=some x:=by rw[hx]
   rw[← h7]at Uj;have ir:=(List.getElem?_eq_some_iff.1 Uj).1;rw[YH]at ir;rw[List.getElem?_take_of_lt (by omega)]at Uj;simpa using Uj
  exact⟨(Array.getElem?_eq_some_iff.1 h3).1,⟨hc 0 (by omega),hc 1 (by omega),hc 2 (by omega),hc 3 (by omega)⟩,⟨hc 4 (by omega),hc 5 (by omega),hc 6 (by omega)⟩,hc 7 (by omega),hc 8 (by omega),hc 9 (by omega)⟩
theorem gP{w:World}{ops:Array Oper}{o:Oper}{a:Act}{K:Act->World->Prop}{Q:Exit->Act->World->Prop}{E:Prop}(dO:o.guard=none)(s x:Operand)(t:TypeId)
  (ho:o.op=.call { callee:=.builtin .append,args:=#[s,x],argTypes:=#[t,t] })
  (base:Nat) (e:TypeId) (i:TypeInfo) (z:Value) (size bytes:Nat) (ht:Tryz.prog.underlying t=some (.slice e)) (hi:Tryz.prog.info? e=some i) (hz:i.zero=some z)
  (xy:i.size=size) (hby:i.bytes=bytes) (hzs:z.cells.size=size) (ll:0<size)
  (v:Value) (n:Nat) (xs:List Value) (hs:a.eval s=v) (aw:w.ownsRow base e size v n xs)
  (ad:Addr) (m c:Nat) (news:List Value) (hx:a.eval x=.slice (some ad) m c) (hl:news.length=m*size) (hnews:∀ j u,news[j]?=some u->w.cell? (ad.add j)=some u) (h1:∀ u∈news,u.oneCell'=true)
  (h63:n+m<=maxLen) (hbytes:(n+m)*bytes<=140737488355328) (aD:base<=w.heap.size)
  (h:∀ v' w',w'.ownsRow base e size v' (n+m) (xs++news)->w.grownBy w' v.ownBlock->(v'.ownBlock=v.ownBlock∨v'.ownBlock=some w.heap.size)->K (a.put o.dst v') w') :
  if Region.wanted o (yielded ops a.tmps)=true then Oper.wp Tryz.prog o a w K Q else E:=by
 have hw:Region.wanted o (yielded ops a.tmps)=true:=by simp[Region.wanted,dO]
 rw[Yy hw];obtain⟨v',w',hr,o1,g1,_,e1⟩:=run_append_own_at (P:=Tryz.prog) w base t o.type e i z size bytes ht hi hz xy hby hzs ll v n xs aw ad m c news hl hnews h1 h63 hbytes aD;unfold Oper.wp execOp;simp only[ho,resolve,invoke,builtin,Sem.run_bind,Sem.run_pure,Result.andThen_ok,ZP,Zh,Zs,hs,hx,hr];exact h v' w' o1 g1 e1
theorem bF{W W':World}{B:Nat}{e:TypeId}{size n:Nat}{v:Value}{xs:List Value}(h:W.ownsRow B e size v n xs)(hb:∀ k,v.ownBlock=some k->W'.heap[k]?=W.heap[k]?):W'.ownsRow B e size v n xs:=by
 refine⟨h.1,?_⟩;rcases h.2 with hn | ⟨g,cap,cur,rfl,h1,h2,r⟩
 ·exact .inl hn
 ·exact .inr ⟨g,cap,cur,rfl,h1,(hb g rfl).trans h2,r⟩
theorem aE{W:World}{B:Nat}{e:TypeId}{size n:Nat}{v:Value}{xs:List Value}(h:W.ownsRow B e size v n xs){k:Nat}(hk:v.ownBlock=some k):B<=k/\k<W.heap.size/\∃ cur,W.heap[k]?=some (.cells cur e (0,0)):=by
 rcases h.2 with ⟨rfl,_⟩ | ⟨g,cap,cur,rfl,h1,h2,r⟩
 ·cases hk
 ·cases hk
  exact⟨h1,(Array.getElem?_eq_some_iff.1 h2).1,cur,h2⟩
theorem dU{W:World}{B B':Nat}{e e':TypeId}{size size' n n':Nat}{v v':Value}{xs xs':List Value}(h:W.ownsRow B e size v n xs)(h':W.ownsRow B' e' size' v' n' xs')(he:e≠e'){k:Nat}(hk:v.ownBlock=some k):v'.ownBlock≠some k:=by
 intro hk';obtain⟨_,_,c,h1⟩:=aE h hk;obtain⟨_,_,c',h2⟩:=aE h' hk';rw[h1]at h2;cases h2
 exact he rfl
structure Grm (W:World) (B q R n:Nat) (rvs:List Value) (rows:List Row) (vs:Value) (sts:List Stt):Prop where
 box:W.heap[q]?=some (.cells #[.slice (some ⟨R,0,none⟩) n n,vs] 109 (0,0))
 hq:B<=q
 row:W.ownsRow B 79 1 (.slice (some ⟨R,0,none⟩) n n) n rvs
 len:rows.length=n
 own:∀ i (h:i<rows.length),∃ rv,rvs[i]?=some rv/\OwnV W B rv rows[i]
 apart:∀(i j:Nat) (ri rj:Value) (b:Nat),i≠j->rvs[i]?=some ri->rvs[j]?=some rj->ri.ownBlock=some b->rj.ownBlock≠some b
 st:W.ownsRow B 54 10 vs sts.length (sts.flatMap celS)
section
variable {W W':World} {B q R n:Nat} {rvs:List Value} {rows:List Row} {vs:Value} {sts:List Stt}
theorem Grm.lt(h:Grm W B q R n rvs rows vs sts):q<W.heap.size:=(Array.getElem?_eq_some_iff.1 h.box).1
theorem Grm.turn(h:Grm W B q R n rvs rows vs sts)(hb:∀ k,B<=k->k<W.heap.size->W'.heap[k]?=W.heap[k]?):Grm W' B q R n rvs rows vs sts:=by
 refine⟨(hb q h.hq h.lt).trans h.box,h.hq,bF h.row fun k hk=>?_,h.len,fun i hi=>?_,h.apart,bF h.st fun k hk=>?_⟩
 ·obtain⟨a,b,_⟩:=aE h.row hk
  exact hb k a b
 ·obtain⟨rv,h1,h2⟩:=h.own i hi
  exact⟨rv,h1,bF h2 fun k hk=>by obtain⟨a,b,_⟩:=aE h2 hk;exact hb k a b⟩
 ·obtain⟨a,b,_⟩:=aE h.st hk
  exact hb k a b
theorem Grm.kept(h:Grm W B q R n rvs rows vs sts)(hb:Below W.heap.size W W'):Grm W' B q R n rvs rows vs sts:=h.turn fun k _ hk=>hb.block k hk
theorem Grm.frp(h:Grm W B q R n rvs rows vs sts){p:Nat}(hf:Fr p W.heap.size W W')(hp:p<B):Grm W' B q R n rvs rows vs sts:=h.turn fun k hB hk=>hf.block k hk (by omega)
theorem Grm.low(h:Grm W B q R n rvs rows vs sts){B':Nat}(hB:B'<=B):Grm W B' q R n rvs rows vs sts :=
 have lo:∀{e size n:Nat} {v:Value} {xs:List Value},W.ownsRow B e size v n xs->W.ownsRow B' e size v n xs:=fun{e size n v xs} h=>⟨h.1,h.2.imp id fun⟨g,cap,cur,hv,hb,r⟩=>⟨g,cap,cur,hv,YG hB hb,r⟩⟩
 ⟨h.box,YG hB h.hq,lo h.row,h.len,fun i hi=>by obtain⟨rv,h1,h2⟩:=h.own i hi;exact⟨rv,h1,lo h2⟩,h.apart,lo h.st⟩
theorem Grm.cells(h:Grm W B q R n rvs rows vs sts):W.cell? ⟨q,0,none⟩=some (.slice (some ⟨R,0,none⟩) n n)/\W.cell? ⟨q,1,none⟩=some vs/\W.frozen? ⟨q,0,none⟩=false/\W.frozen? ⟨q,1,none⟩=false :=
 ⟨by rw[an h.box];rfl,by rw[an h.box];rfl,by simp[World.frozen?,h.box],by simp[World.frozen?,h.box]⟩
theorem Grm.addStat(h:Grm W B q R n rvs rows vs sts){vs':Value}{s:Stt}(ho:W'.ownsRow B 54 10 vs' (sts.length+1) (sts.flatMap celS++celS s))(hg:W.grownBy W' vs.ownBlock)(he:vs'.ownBlock=vs.ownBlock∨vs'.ownBlock=some W.heap.size) :
  Grm (W'.setCell ⟨q,1,none⟩ vs') B q R n rvs rows vs' (sts++[s])/\Below B W (W'.setCell ⟨q,1,none⟩ vs')/\(W'.cell? ⟨q,1,none⟩=some vs/\W'.frozen? ⟨q,1,none⟩=false) /\
   ∀(v:Value) (l:List Cl),OwnV W B v l->OwnV (W'.setCell ⟨q,1,none⟩ vs') B v l:=by
 have hqv:vs.ownBlock≠some q:=fun e=>by
  obtain⟨_,_,c,hc⟩:=aE h.st e;rw[h.box]at hc;cases hc
 have hq':W'.heap[q]?=some (.cells #[.slice (some ⟨R,0,none⟩) n n,vs] 109 (0,0)):=(hg.block q h.lt (fun e=>hqv e.symm)).trans h.box
 have hqv':vs'.ownBlock≠some q:=fun e=>by
  rcases he with e1 | e1
  ·exact hqv (e1.symm.trans e)
  ·rw[e1]at e
   cases e
   exact absurd h.lt (Nat.lt_irrefl _)
 have hn:∀ k,k≠q->(W'.setCell ⟨q,1,none⟩ vs').heap[k]?=W'.heap[k]?:=fun k hk=>Below.heap_setCell _ _ _ _ (by simpa using hk)
 have key:∀{e size m:Nat} {v:Value} {xs:List Value},W.ownsRow B e size v m xs->e≠54->e≠109->(W'.setCell ⟨q,1,none⟩ vs').ownsRow B e size v m xs:=fun{e size m v xs} ho' h1 h2=>bF ho' fun k hk=>by
  obtain⟨k1,k2,c,hc⟩:=aE ho' hk
  have hkq:k≠q:=by
   rintro rfl;rw[h.box]at hc;cases hc
   exact h2 rfl
  rw[hn k hkq];exact hg.block k k2 (fun e'=>dU ho' h.st h1 hk e'.symm)
 refine⟨⟨?_,h.hq,key h.row (by decide) (by decide),h.len,fun i hi=>?_,h.apart,?_⟩,⟨hg.os,hg.tape,hg.output,YG hg.size (by simp[World.setCell]),fun k hk=>?_⟩,⟨by rw[an hq'];rfl,by simp[World.frozen?,hq']⟩,fun v l hv=>key hv (by decide) (by decide)⟩
 ·rw[ce hq']
  rfl
 ·obtain⟨rv,h1,h2⟩:=h.own i hi
  exact⟨rv,h1,key h2 (by decide) (by decide)⟩
 ·rw[ZS,YC]
  simp only[YI,Zc,jaa,List.flatMap_nil,YZ];exact bF ho fun k hk=>hn k (fun e=>hqv' (e ▸ hk))
 ·rw[hn k (by have:=h.hq;omega)]
  refine hg.block k (by have:=h.lt;have:=h.hq;omega) (fun e=>?_);have:=(aE h.st e.symm).1;omega
theorem Grm.addCell(h:Grm W B q R n rvs rows vs sts){j:Nat}(hj:j<rows.length){rv rv':Value}{x:Cl}(oh:rvs[j]?=some rv)(ho:OwnV W' B rv' (rows[j]++[x]))(hg:W.grownBy W' rv.ownBlock)(he:rv'.ownBlock=rv.ownBlock∨rv'.ownBlock=some W.heap.size) :
  Grm (W'.setCell ⟨R,j,none⟩ rv') B q R n (rvs.set j rv') (rows.set j (rows[j]++[x])) vs sts/\Below B W (W'.setCell ⟨R,j,none⟩ rv')/\(W'.cell? ⟨R,j,none⟩=some rv/\W'.frozen? ⟨R,j,none⟩=false/\W'.cell? ⟨q,0,none⟩=some (.slice (some ⟨R,0,none⟩) n n)) /\
   ∀(v:Value) (l:List Cl),OwnV W B v l->(∀ b,rv.ownBlock=some b->v.ownBlock≠some b)->OwnV (W'.setCell ⟨R,j,none⟩ rv') B v l:=by
 obtain⟨rv0,e0,iO⟩:=h.own j hj;rw[oh]at e0;cases e0
 obtain⟨hR1,hR2,cR,hcR⟩:=aE (k:=R) h.row rfl;have hRrv:rv.ownBlock≠some R:=fun e=>dU iO h.row (by decide) e rfl
 have hRrv':rv'.ownBlock≠some R:=fun e=>by
  rcases he with e1 | e1
  ·exact hRrv (e1.symm.trans e)
  ·rw[e1]at e
   cases e
   exact absurd hR2 (Nat.lt_irrefl _)
 have hqrv:rv.ownBlock≠some q:=fun e=>by
  obtain⟨_,_,c,hc⟩:=aE iO e;rw[h.box]at hc;cases hc
 have hqR:q≠R:=by
  rintro rfl;rw[h.box]at hcR;cases hcR
 have hn:∀ k,k≠R->(W'.setCell ⟨R,j,none⟩ rv').heap[k]?=W'.heap[k]?:=fun k hk=>Below.heap_setCell _ _ _ _ (by simpa using hk)
 have hrow':W'.ownsRow B 79 1 (.slice (some ⟨R,0,none⟩) n n) n rvs:=bF h.row fun k hk=>by
  cases hk
  exact hg.block R hR2 (fun e=>hRrv e.symm)
 have bg:=h.len
 have key:∀ i (hi:i<rows.length) ri,i≠j->rvs[i]?=some ri->OwnV W B ri rows[i]->OwnV (W'.setCell ⟨R,j,none⟩ rv') B ri rows[i]:=fun i hi ri KF BW hoi=>bF hoi fun k hk=>by
  obtain⟨_,k2,_⟩:=aE hoi hk
  have hkR:k≠R:=by
   rintro rfl;exact dU hoi h.row (by decide) hk rfl
  rw[hn k hkR];exact hg.block k k2 (fun e=>h.apart i j ri rv k KF BW oh hk e.symm)
 refine⟨⟨?_,h.hq,(hrow'.stored j rv').1,by rw[jak];exact bg,fun i hi=>?_,fun i i' ri ri' b hii BW hri' hb=>?_,bF h.st fun k hk=>?_⟩,⟨hg.os,hg.tape,hg.output,YG hg.size (by simp[World.setCell]),fun k hk=>?_⟩,⟨?_,hrow'.frozenAt j,by rw[an ((hg.block q h.lt (fun e=>hqrv e.symm)).trans h.box)];rfl⟩,fun v l hv hd=>bF hv fun k hk=>?_⟩
 ·rw[hn q hqR]
  exact(hg.block q h.lt (fun e=>hqrv e.symm)).trans h.box
 ·rw[jak]at hi
  by_cases KF:i=j
  ·subst KF
   have Xt:i<rvs.length:=(List.getElem?_eq_some_iff.1 oh).1;refine⟨rv',by rw[List.getElem?_set_self Xt],?_⟩;rw[List.getElem_set_self];exact bF ho fun k hk=>hn k (fun e=>hRrv' (e ▸ hk))
  ·obtain⟨ri,h1,h2⟩:=h.own i hi
   refine⟨ri,by rw[List.getElem?_set_ne (Ne.symm KF)];exact h1,?_⟩;rw[List.getElem_set_ne (Ne.symm KF)];exact key i hi ri KF h1 h2
 ·have Xt:j<rvs.length:=(List.getElem?_eq_some_iff.1 oh).1
  have old:∀ m rm,rvs[m]?=some rm->m<rows.length:=fun m rm hm=>by
   have:=(List.getElem?_eq_some_iff.1 hm).1;have h1:=h.row.1;omega
  have fresh:∀ m rm k,m≠j->rvs[m]?=some rm->rm.ownBlock=some k->rv'.ownBlock≠some k:=fun m rm k hmj hm hk e=>by
   obtain⟨r0,h1,h2⟩:=h.own m (old m rm hm);rw[hm]at h1;cases h1
   rcases he with e1 | e1
   ·exact h.apart m j rm rv k hmj hm oh hk (e1.symm.trans e)
   ·rw[e1]at e
    cases e
    exact absurd (aE h2 hk).2.1 (Nat.lt_irrefl _)
  by_cases KF:i=j
  ·subst KF
   rw[List.getElem?_set_self Xt]at BW;cases BW
   rw[List.getElem?_set_ne hii]at hri';intro e;exact fresh i' ri' b (Ne.symm hii) hri' e hb
  ·rw[List.getElem?_set_ne (Ne.symm KF)]at BW
   by_cases hij':i'=j
   ·subst hij'
    rw[List.getElem?_set_self Xt]at hri';cases hri'
    exact fresh i ri b KF BW hb
   ·rw[List.getElem?_set_ne (Ne.symm hij')]at hri'
    exact h.apart i i' ri ri' b hii BW hri' hb
 ·obtain⟨_,k2,_⟩:=aE h.st hk
  have hkR:k≠R:=by
   rintro rfl;exact dU h.st h.row (by decide) hk rfl
  rw[hn k hkR];exact hg.block k k2 (fun e=>dU h.st iO (by decide) hk e.symm)
 ·rw[hn k (by omega)]
  refine hg.block k (by omega) (fun e=>?_);have:=(aE iO e.symm).1;omega
 ·have h1:=h.row.1
  rw[hrow'.cellAt j (by omega)];exact oh
 ·obtain⟨_,k2,_⟩:=aE hv hk
  have hkR:k≠R:=by
   rintro rfl;exact dU hv h.row (by decide) hk rfl
  rw[hn k hkR];exact hg.block k k2 (fun e=>hd k e.symm hk)
end
theorem Gg:(Tryz.prog.info? 79).map (fun i=>(i.zero,i.size,i.bytes))=some (some (.slice none 0 0),1,24):=by kernel_rfl
theorem dV(rs:List Row)(l:List Cl):(psh rs l).length=rs.length:=by simp[psh]
theorem mE{rs:List Row}{l:List Cl}{i:Nat}(h:i<rs.length):(psh rs l)[i]'(by rw[dV];exact h)=rs[i]++(l[i]?).toList:=by simp[psh]
theorem Th(rs:List Row):psh rs []=rs:=by
 apply List.ext_getElem (dV _ _)
 intro i h1 h2;rw[mE h2];simp
theorem Ps{rs:List Row}{l:List Cl}{j:Nat}(h1:j<rs.length)(h2:j<l.length):(psh rs (l.take j)).set j ((psh rs (l.take j))[j]'(by rw[dV];exact h1)++[l[j]])=psh rs (l.take (j+1)):=by
 apply List.ext_getElem (by simp[dV])
 intro i h3 h4;rw[dV]at h4;rw[mE h4];by_cases e:i=j
 ·subst e
  rw[List.getElem_set_self]
  have e:(psh rs (l.take i))[i]'(by rw[dV];exact h1)=rs[i]:=by
   rw[mE (l:=l.take i) h1];simp[List.getElem?_take]
  rw[e];simp[List.getElem?_take,h2]
 ·rw[List.getElem_set_ne (Ne.symm e),mE h4]
  congr 2
  simp only[List.getElem?_take];by_cases h5:i<j
  ·rw[Yy h5,Yy (by omega)]
  ·rw[Yx h5,Yx (by omega)]
theorem Kd{k n:Nat}{s:S3}(hk:1<=k/\k<=3)(hn:n<=64)(hb:Bs s.1):(∀ x∈(gm k n s).1,aI x)/\(gm k n s).1.length<=n:=by
 unfold gm;simp only;cases h:fh k (s.1.take (eY 0 s.1.length s.2.1)) n with
 | none=>exact⟨fun x hx=>by simp at hx,by simp⟩
 | some l =>
  obtain⟨h1,h2,_⟩:=(kA hk (by omega) (hb.take _)).1 h;exact⟨fun x hx=>(h1.2.2 x hx).fine,by simp[h2]⟩
theorem Pt(k n:Nat)(s:S3):(gm k n s).2.1.length<=s.1.length:=by
 unfold gm;simp only[Zf];omega
theorem Pu(l:List Cl)(s:S3):(nQ l s).1=s.1:=by
 unfold nQ;split<;>rfl
theorem BA{fs:List Fd}{n:Nat}{s:S3}:∀{k:Nat},k<=fs.length->(grK fs n s k).1.length=n/\(grK fs n s k).2.1.length=k/\(grK fs n s k).2.2.1.length<=s.1.length/\∀ r∈(grK fs n s k).1,r.length<=k:=by
 intro k;induction k with
 | zero=>exact fun _=>⟨by simp[uk],rfl,YA _,fun r hr=>by rw[uk]at hr;simp only[List.mem_replicate]at hr;rw[hr.2];exact YA _⟩
 | succ k ih =>
  intro h;obtain⟨h1,h2,h3,h4⟩:=ih (by omega);rw[pm (by omega)];unfold grS;refine⟨by simp only[dV];exact h1,by simp[h2],?_,?_⟩
  ·simp only
   rw[Pu];exact YG (Pt _ _ _) h3
  ·simp only
   intro r hr;obtain⟨i,hi,rfl⟩:=List.getElem_of_mem hr;have hi':=hi;rw[dV]at hi';rw[mE hi',YC];have:=h4 _ (YF hi');have h5:∀ o:Option Cl,o.toList.length<=1:=fun o=>by cases o<;>simp
   have:=h5 ((gm fs[k].2.2.1 n (grK fs n s k).2.2).1[i]?);omega
theorem du{W:World}{B:Nat}{e:TypeId}{size n:Nat}{v:Value}{xs:List Value}(h:W.ownsRow B e size v n xs):∃ a m c,v=.slice a m c:=by
 rcases h.2 with ⟨h,_⟩ | ⟨_,_,_,h,_⟩
 ·exact⟨_,_,_,h⟩
 ·exact⟨_,_,_,h⟩
theorem vG{w:World}{ops:Array Oper}{o:Oper}{a:Act}{K:Act->World->Prop}{Q:Exit->Act->World->Prop}{E:Prop}(dO:o.guard=none)(s x:Operand)
  (ho:o.op=.call { callee:=.builtin .append,args:=#[s,x],argTypes:=#[107,107] })
  (base:Nat) (v:Value) (g:Nat) (z:Stt) (l0:List Stt) (hs:a.eval s=v) (aw:w.ownsRow base 54 10 v l0.length (l0.flatMap celS)) (hx:a.eval x=.slice (some ⟨g,0,none⟩) 1 1)
  (hc:Stb w g z) (hbytes:l0.length<=100000) (aD:base<=w.heap.size)
  (h:∀ v' w',w'.ownsRow base 54 10 v' (l0.length+1) (l0.flatMap celS++celS z)->w.grownBy w' v.ownBlock->(v'.ownBlock=v.ownBlock∨v'.ownBlock=some w.heap.size)->K (a.put o.dst v') w') :
  if Region.wanted o (yielded ops a.tmps)=true then Oper.wp Tryz.prog o a w K Q else E:=by
 obtain⟨i0,hi,bN,hz1',bh⟩:=YW Wg
 refine gP dO s x 107 ho base 54 i0 (.agg #[.int .i64 0,.int .i64 0,.bool false,.bool false,.int .u8 0,.int .i64 0,.string ⟨#[]⟩,.int .u8 0,.int .i64 0,.string ⟨#[]⟩]) 10 88 Tryz.underlying107 hi bN hz1' bh rfl (by decide) v l0.length (l0.flatMap celS) hs aw ⟨g,0,none⟩ 1 1 (celS z) hx rfl ?_ (fun u hu=>by
  unfold celS at hu;simp only[YQ,jaw,or_false]at hu;rcases hu with rfl | rfl | rfl | rfl | rfl | rfl | rfl | rfl | rfl | rfl<;>rfl) (by unfold maxLen;omega) (by omega) aD h
 intro j u hu;rw[oz];unfold Stb at hc;rw[an hc];unfold celS at hu;simpa using hu
theorem vH{w:World}{ops:Array Oper}{o:Oper}{a:Act}{K:Act->World->Prop}{Q:Exit->Act->World->Prop}{E:Prop}(dO:o.guard=none)(s x:Operand)
  (ho:o.op=.call { callee:=.builtin .append,args:=#[s,x],argTypes:=#[79,79] })
  (base:Nat) (v:Value) (g:Nat) (z:Cl) (l0:List Cl) (hs:a.eval s=v) (aw:OwnV w base v l0) (hx:a.eval x=.slice (some ⟨g,0,none⟩) 1 1)
  (hc:w.cell? ⟨g,0,none⟩=some (cp z)) (hbytes:l0.length<=100000) (aD:base<=w.heap.size)
  (h:∀ v' w',OwnV w' base v' (l0++[z])->w.grownBy w' v.ownBlock->(v'.ownBlock=v.ownBlock∨v'.ownBlock=some w.heap.size)->K (a.put o.dst v') w') :
  if Region.wanted o (yielded ops a.tmps)=true then Oper.wp Tryz.prog o a w K Q else E:=by
 obtain⟨i0,hi,bN,hz1',bh⟩:=YW qi;have Wx:=ax l0
 refine gP dO s x 79 ho base 78 i0 .nilIface 1 16 Tryz.underlying79 hi bN hz1' bh rfl (by decide) v l0.length (aC l0) hs aw ⟨g,0,none⟩ 1 1 [cp z] hx rfl ?_ (fun u hu=>by
  simp only[YQ,jaw,or_false]at hu;subst hu;rcases uy z with e | ⟨_,_,e⟩<;>rw[e]<;>rfl) (by unfold maxLen;omega) (by omega) aD ?_
 ·intro j u hu
  cases j with
  | zero =>
   rw[oz];simpa [hc]using hu
  | succ j=>simp at hu
 ·intro v' w' o1 g1 e1
  refine h v' w' ?_ g1 e1;unfold OwnV;rw[YC];have:aC (l0++[z])=aC l0++[cp z]:=by simp[aC]
  rw[this];exact o1
def Gro(W:World)(B:Nat)(v:Value)(rows:List Row)(sts:List Stt):Prop :=
 ∃ R rvs vs,v=.agg #[.slice (some ⟨R,0,none⟩) rows.length rows.length,vs]/\W.ownsRow B 79 1 (.slice (some ⟨R,0,none⟩) rows.length rows.length) rows.length rvs /\
  (∀ i (h:i<rows.length),∃ rv,rvs[i]?=some rv/\OwnV W B rv rows[i])/\W.ownsRow B 54 10 vs sts.length (sts.flatMap celS)
theorem Grm.gro{W:World}{B q R n:Nat}{rvs:List Value}{rows:List Row}{vs:Value}{sts:List Stt}(h:Grm W B q R n rvs rows vs sts):Gro W B (.agg #[.slice (some ⟨R,0,none⟩) n n,vs]) rows sts:=by
 obtain⟨_,_,h1,h2,h3,_,h4⟩:=h;subst h2;exact⟨R,rvs,vs,rfl,h1,h3,h4⟩
theorem Sf.keptW{W W':World}{B:Nat}{v:Value}{l:List Fd}(h:Sf W v l)(hv:∀ k,v.ownBlock=some k->k<B)(hb:Below B W W'):Sf W' v l:=by
 obtain⟨a,cap,rfl,h2,h3,h0,h4⟩:=h;refine⟨a,cap,rfl,h2,h3,h0,fun h0=>?_⟩;obtain⟨b,off,rfl,h6,h7⟩:=h4 h0;have hb':b<B:=hv b rfl;exact⟨b,off,rfl,Za h6 hb.size,fun j x hj=>(hb.cell (p:=⟨b,off+j,none⟩) hb').trans (h7 j x hj)⟩
theorem BB{w:World}{p:Nat}{c f:List Nat}{fl:Bool}(h:R3 w p c f fl){fv:Value}{fs:List Fd}(hs:Sf w fv fs)(hw:∀ i,fv.ownBlock=some i->i<p)(hk:∀ x∈fs,1<=x.2.2.1/\x.2.2.1<=3)(id n:Nat)(hn:1<=n/\n<=64)(ja:fs.length<=8)(fT:c.length<=100000000) :
  Calls Tryz.prog 142 #[.pointer (some ⟨p,0,none⟩),.agg #[.int .u32 (id:Int),fv],.int .i64 (n:Int)] w fun r w'=>(∃ v,r=.returned v/\Gro w' w.heap.size v (grK fs n (c,f,fl) fs.length).1 (grK fs n (c,f,fl) fs.length).2.1)/\R3 w' p (grK fs n (c,f,fl) fs.length).2.2.1 (grK fs n (c,f,fl) fs.length).2.2.2.1 (grK fs n (c,f,fl) fs.length).2.2.2.2/\Fr p w.heap.size w w':=by
 obtain⟨i0,hi,bN,hz1',bh⟩:=YW Gg;have ar:=h.lt;have HGR:=ae (fun k (hk:k<=fs.length)=>BA (fs:=fs) (n:=n) (s:=(c,f,fl)) hk);have HGS:=ae (fun k (hk:k<fs.length)=>pm hk n (c,f,fl));have HG0:=ae (uk fs n (c,f,fl));obtain⟨G,hG⟩:∃ G,grK fs n (c,f,fl)=G:=⟨_,rfl⟩;rw[hG]at HGR HGS HG0 ⊢;clear hG;obtain⟨a,cap,rfl,aV,bw⟩:=hs.form;have aA:=aj w (.cells #[.int .u32 (id:Int),.slice a fs.length cap] 25);have ay:=aj (w.alloc (.cells #[.int .u32 (id:Int),.slice a fs.length cap] 25)) (.cells #[.slice none 0 0,.slice none 0 0] 109);obtain⟨x0,x1⟩:=aR w (.int .u32 (id:Int)) (.slice a fs.length cap) 25;have hA0:w.heap.size<(w.alloc (.cells #[.int .u32 (id:Int),.slice a fs.length cap] 25)).heap.size:=by rw[YB];omega
 have sA:((w.alloc (.cells #[.int .u32 (id:Int),.slice a fs.length cap] 25)).alloc (.cells #[.slice none 0 0,.slice none 0 0] 109)).heap.size=w.heap.size+2:=by rw[YB,YB]
 have x2:((w.alloc (.cells #[.int .u32 (id:Int),.slice a fs.length cap] 25)).alloc (.cells #[.slice none 0 0,.slice none 0 0] 109)).heap[w.heap.size+1]?=some (.cells #[.slice none 0 0,.slice none 0 0] 109 (0,0)):=by
  have:=Zb (w.alloc (.cells #[.int .u32 (id:Int),.slice a fs.length cap] 25)) (.cells #[.slice none 0 0,.slice none 0 0] 109);rwa[YB]at this
 have x3:((w.alloc (.cells #[.int .u32 (id:Int),.slice a fs.length cap] 25)).alloc (.cells #[.slice none 0 0,.slice none 0 0] 109)).cell? ⟨w.heap.size,1,none⟩=some (.slice a fs.length cap):=(ay.cell (p:=⟨w.heap.size,1,none⟩) hA0).trans x1;have hAb:Below w.heap.size w ((w.alloc (.cells #[.int .u32 (id:Int),.slice a fs.length cap] 25)).alloc (.cells #[.slice none 0 0,.slice none 0 0] 109)):=ag aA ay;have HR:=ae (h.kept hAb ar);have HS:=ae (hs.keptW hw (hAb.mono (by omega)));have UO:=ae hAb;have kj:=ae sA;have Cu:=ae x2;clear h hs aA ay x0 x1 hAb sA x2 hA0;generalize hA:(w.alloc (.cells #[.int .u32 (id:Int),.slice a fs.length cap] 25)).alloc (.cells #[.slice none 0 0,.slice none 0 0] 109)=A at *;go_enter Tryz.func142,Tryz.ntmps142
 go_wp2_with (first | (refine ZJ _ rfl _ _ 34 rfl A.heap.size 79 i0 (.slice none 0 0) 1 Tryz.underlying34 hi bN hz1' .i64 .i64 _ _ n rfl rfl ?m1 ?m2 ?m3 ?m4 ?m5 ?_))
 case m1=>rfl
 case m2=>rfl
 case m3=>first | omega | (rw[bh];omega)
 case m4=>unfold maxLen;omega
 try (case m5=>omega)
 intro w4 fC gH;have bm:Below A.heap.size A w4:=(Yz _ _).grown gH (YA _) (fun k hk=>by cases hk);have Fl:A.heap.size<w4.heap.size:=(fC.lt A.heap.size rfl).2
 have ho4':w4.ownsRow A.heap.size 79 1 (.slice (some ⟨A.heap.size,0,none⟩) n n) n (List.replicate n (.slice none 0 0)):=by
  rw[← jal];simpa using fC
 have bv:=aj w4 (.cells #[.slice (some ⟨A.heap.size,0,none⟩) n n,.slice none 0 0] 109)
 have hG5:Grm (w4.alloc (.cells #[.slice (some ⟨A.heap.size,0,none⟩) n n,.slice none 0 0] 109)) A.heap.size w4.heap.size A.heap.size n (List.replicate n (.slice none 0 0)) (List.replicate n []) (.slice none 0 0) [] :=
  ⟨Zb w4 _,bm.size,bP ho4' bv,List.length_replicate,fun i hi=>⟨.slice none 0 0,by simp at hi;simp[hi],by simp only[List.getElem_replicate];exact OwnV.nil _ _⟩,(fun i j ri rj b KF BW hrj hb=>by
   rw[List.getElem?_replicate]at BW;split at BW
   ·cases BW
    cases hb
   ·cases BW),Zx _ _ _ _⟩
 have Qj:Below A.heap.size A (w4.alloc (.cells #[.slice (some ⟨A.heap.size,0,none⟩) n n,.slice none 0 0] 109)):=ag bm bv;have KI:=ae hG5;have pW:=ae (HR.o.kept Qj HR.o.lt);have om:=ae (HS.o.kept Qj);have aJ:=ae Qj;have Xl:=(Qj.cell (p:=⟨w.heap.size,1,none⟩) (by rw[kj.o];simp)).trans x3;have hqA:A.heap.size<w4.heap.size:=Fl;clear fC gH bm ho4' bv hG5 Qj hA x3;go_upto_region 2 with fail
 generalize w4.alloc (.cells #[.slice (some ⟨A.heap.size,0,none⟩) n n,.slice none 0 0] 109)=W5 at *;have HK:=ae hk;have hcl5:∃ u,W5.cell? ⟨w.heap.size,1,none⟩=some u:=⟨_,Xl⟩;clear hk hcl5;have HZQ:=ae hqA;generalize w4.heap.size=q at *;clear Fl;have UE:p<A.heap.size:=by have:=kj.o;omega
 go_wp2_with fail;go_loopw [19] (fun i wr=>∃(k:Nat) (rvs:List Value) (vs:Value),i=.int .i64 (k:Int)/\k<=fs.length/\Grm wr A.heap.size q A.heap.size n rvs (G k).1 vs (G k).2.1/\R3 wr p (G k).2.2.1 (G k).2.2.2.1 (G k).2.2.2.2/\Fr p A.heap.size A wr) (fun i _=>fs.length-(intOf i).toNat)
 case atStart =>
  refine⟨0,List.replicate n (.slice none 0 0),.slice none 0 0,rfl,by omega,?_,?_,Fr.of_below aJ.o⟩
  ·rw[HG0.o];exact KI.o
  ·rw[HG0.o];exact pW.o
 case round =>
  obtain⟨k,rvs,vs,rfl,hk,hg,hr,hf⟩:=hrel;have HG:=ae hg;have HR:=ae hr;have HF:=ae hf
  have hvs:∃ va vn vc,vs=.slice va vn vc:=by
   rcases hg.st.2 with ⟨h,_⟩ | ⟨_,_,_,h,_⟩
   ·exact⟨_,_,_,h⟩
   ·exact⟨_,_,_,h⟩
  obtain⟨va,vn,vc,rfl⟩:=hvs;obtain⟨y0,y1,y2,y3⟩:=hg.cells;have jE:=hf.size;have hqr:=hg.lt;have CB:=ae (HGR.o k hk);clear hg hr;by_cases ir:k<fs.length
  ·obtain⟨b,off,rfl,hb,z0,z1,z2,z3⟩:=(HS.o.keptW hw (hf.below (YA p) (by omega))).at ir
   have HGK:=ae (HGS.o k ir);have XX:=ae (HK.o fs[k] (YF ir));have HCF:=ae (Kd (n:=n) (s:=(G k).2.2) XX.o hn.2 HR.o.bs.1);have mH:jaH ((G k).2.2.1.length<=100000000):=ae (YG CB.o.2.2.1 fT);have Cy:=ae (fun(U:World) (hU:R3 U p (G k).2.2.1 (G k).2.2.2.1 (G k).2.2.2.2)=>JZ hU fs[k].2.2.1 n XX.o hn.2 mH.o);have hbz:=aj wr (.cells #[.int .u32 (fs[k].1:Int),.string fs[k].2.1,.int .u8 (fs[k].2.2.1:Int),.bool fs[k].2.2.2] 81);have HRZ:=ae (HR.o.kept hbz HR.o.lt);have HGZ:=ae (HG.o.kept hbz);have HFZ:=ae (HF.o.then (hbz.mono jE));have hlt2':(k:Int)<(fs.length:Int):=(by omega);clear hf hbz;generalize fs[k]=fk at *;obtain⟨f1,f2,f3,f4⟩:=fk;simp only at *;have hbZ:∀ o,(wr.alloc o).heap.size=wr.heap.size+1:=fun o=>YB _ _
   go_wp2_with fail;generalize wr.alloc (.cells #[.int .u32 (f1:Int),.string f2,.int .u8 (f3:Int),.bool f4] 81)=Z at *;refine(Cy.o _ HRZ.o).mono ?_;rintro e w1 ⟨v,rfl,dI,xB,cB⟩;have hgk:G (k+1)=(psh (G k).1 (gm f3 n (G k).2.2).1,(G k).2.1++[bJ (gm f3 n (G k).2.2).1],nQ (gm f3 n (G k).2.2).1 (gm f3 n (G k).2.2).2):=HGK.o;generalize gm f3 n (G k).2.2=cr at *;obtain⟨l,c1,b1,fl1⟩:=cr;simp only at *;have HGN:=ae hgk;generalize G k=gk at *;obtain⟨rows,sts,s0⟩:=gk;simp only at *;have rg:=ae (HGZ.o.frp cB UE);have eB:=ae (HFZ.o.trans (cB.mono HFZ.o.size));have cG:=HFZ.o.size;have fK:=ae (OwnV.of_le dI cG);have qf:=ae xB
   have HD1:jaH (∀(i:Nat) (ri:Value),rvs[i]?=some ri->∀ b,ri.ownBlock=some b->v.ownBlock≠some b):=ae (fun i ri hi b hb e=>by
    have hl:=(List.getElem?_eq_some_iff.1 hi).1;have h1:=HGZ.o.row.1;have h2:=HGZ.o.len;obtain⟨rv,e1,e2⟩:=HGZ.o.own i (by omega);rw[hi]at e1;cases e1
    have:=(aE e2 hb).2.1;have:=(aE dI e).1;omega)
   obtain⟨va1,vn1,vc1,rfl⟩:∃ va vn vc,v=.slice va vn vc:=by
    rcases dI.2 with ⟨h,_⟩ | ⟨_,_,_,h,_⟩
    ·exact⟨_,_,_,h⟩
    ·exact⟨_,_,_,h⟩
   obtain⟨st,iq⟩:∃ st,bJ l=st:=⟨_,rfl⟩;obtain⟨S,hS⟩:∃ S,nQ l (c1,b1,fl1)=S:=⟨_,rfl⟩
   have co:jaH (∀ U:World,Below w1.heap.size w1 U->Calls Tryz.prog 182 #[.pointer (some ⟨p,0,none⟩),.slice va1 vn1 vc1] U fun e w'=>e=.returned (.agg #[.int .i64 st.rows,.int .i64 st.nulls,.bool st.some,.bool st.high,.int .u8 (st.lo.1:Int),.int .i64 st.lo.2.1,.string (ai st.lo.2.2),.int .u8 (st.hi.1:Int),.int .i64 st.hi.2.1,.string (ai st.hi.2.2)]) /\
     R3 w' p S.1 S.2.1 S.2.2/\Grm w' A.heap.size q A.heap.size n rvs rows (.slice va vn vc) sts/\Fr p A.heap.size A w'/\OwnV w' A.heap.size (.slice va1 vn1 vc1) l/\w'.cell? ⟨q,1,none⟩=some (.slice va vn vc)/\A.heap.size<=w'.heap.size/\∀ o,(w'.alloc o).cell? ⟨q,1,none⟩=some (.slice va vn vc)):=ae (fun U hU=>by
    refine(Bu (qf.o.kept hU qf.o.lt) (fK.o.sv.kept hU) HCF.o.1 (by have:=HCF.o.2;omega)).mono ?_;rintro e w' ⟨rfl,hr,hf⟩;rw[hS]at hr;rw[iq];have hzU:=hU.size;have hfa:=(eB.o.then (hU.mono eB.o.size)).trans (hf.mono (YG eB.o.size hzU));have hg:=(rg.o.kept hU).frp hf UE;exact⟨rfl,hr,hg,hfa,Fr.own hf (fK.o.kept hU) UE,hg.cells.2.1,hfa.size,fun o=>((aj _ o).cell hg.lt).trans hg.cells.2.1⟩)
   rw[iq,hS]at HGN;obtain⟨y0,y1,y2,y3⟩:=rg.o.cells;have Kx:=eB.o.size;have pS:sts.length<=100000:=by have:=CB.o.2.1;omega
   clear hgk HGK dI xB cB Cy HRZ HGZ HFZ HG HR HF z0 z1 z2 z3 iq hS;go_upto_region 6 with fail
   go_cut [] from 58 (fun wx=>∃ va6 vn6 vc6,Grm wx A.heap.size q A.heap.size n rvs rows (.slice va6 vn6 vc6) (sts++[st])/\R3 wx p S.1 S.2.1 S.2.2/\Fr p A.heap.size A wx/\OwnV wx A.heap.size (.slice va1 vn1 vc1) l)
   case first =>
    refine wp_region_noPanic ?_
    go_region_law (first
     | (refine vG (by rfl) _ _ (by rfl) A.heap.size _ _ st sts (by rfl) ?_ (by rfl) ?_ pS ?_ ?_;exact bP KI.o.st (aj _ _);exact Stb.new _ st;(rw[YB];omega);intro v6 w6 o6 g6 e6;obtain⟨GB,dP,⟨hc6,hc7⟩,Lm⟩:=(KI.o.kept (aj _ _)).addStat o6 g6 e6;obtain⟨va6,vn6,vc6,rfl⟩:=du o6;have jC:=ae GB;have CA:=ae ((pW.o.kept (aj _ _) pW.o.lt).kept dP UE);have Ui:=ae ((Gx.o.then ((aj _ _).mono Gx.o.size)).trans (Fr.of_below dP));have Vc:=ae (Lm _ _ (OwnV.kept HV5.o (aj _ _)));clear o6 g6 e6 GB dP Lm)
     | (go_simp;go_at_call 182;refine(co.o _ ?_).mono ?_;exact ak (Yz w1.heap.size w1) _;rintro e w5 ⟨rfl,Lo,Vd,gD,hv5,Xl,zi,ha5⟩;have pW:=ae Lo;have KI:=ae Vd;have Gx:=ae gD;have HV5:=ae hv5;clear Lo Vd gD hv5;dsimp only)
     | fail)
    all_goals refine NoPanic.normal ?_
    all_goals go_wp2_with fail
    all_goals go_meet
    all_goals exact⟨_,_,_,jC.o,CA.o,Ui.o,Vc.o⟩
   case rest =>
   obtain⟨va6,vn6,vc6,GB,QI,TP,mR⟩:=hcut;have HD6:=ae (fun(i:Nat) (ri:Value) (hi:rvs[i]?=some ri)=>HD1.o i ri hi);obtain⟨aq,cq,hvq,re,od⟩:=mR.sv.form1;rw[ax]at hvq re;cases hvq
   have jC:=ae GB;have CA:=ae QI;have Ui:=ae TP;have Vc:=ae mR;have hrn:rows.length=n:=CB.o.1;have hln:l.length<=n:=HCF.o.2;have hq2':vc1<=9223372036854775807:=by unfold maxLen at od;omega
   clear GB QI TP mR rg qf eB fK HD1 co y0 y1 y2 y3 od;go_wp2_with fail;go_loopw [38] (fun i wx=>∃(j:Nat) (rvs2:List Value),i=.int .i64 (j:Int)/\j<=l.length/\Grm wx A.heap.size q A.heap.size n rvs2 (psh rows (l.take j)) (.slice va6 vn6 vc6) (sts++[st])/\R3 wx p S.1 S.2.1 S.2.2/\Fr p A.heap.size A wx/\OwnV wx A.heap.size (.slice va1 l.length vc1) l/\∀ i,j<=i->∀ ri:Value,rvs2[i]?=some ri->∀ b,ri.ownBlock=some b->(Value.slice va1 l.length vc1).ownBlock≠some b) (fun i _=>l.length-(intOf i).toNat)
   case atStart =>
    refine⟨0,rvs,rfl,by omega,?_,CA.o,Ui.o,Vc.o,fun i _ ri hi=>HD6.o i ri hi⟩;rw[List.take_zero,Th];exact jC.o
   case round =>
    obtain⟨j,rvs2,rfl,hj,hg,hr,hf,hv,hd⟩:=hrel;have HG:=ae hg;have HR:=ae hr;have HF:=ae hf;have HV:=ae hv;have HD:=ae hd;obtain⟨y0,y1,y2,y3⟩:=hg.cells;have hqx:=hg.lt;have hax:=hf.size;by_cases WI:j<l.length
    ·have hjr:j<(psh rows (l.take j)).length:=by rw[dV];omega
     obtain⟨rv,oh,how⟩:=hg.own j hjr;obtain⟨b2,off2,Ye,ay,Rn⟩:=hv.sv.at1 (cd WI);obtain⟨ra,rn,rc,rfl⟩:=du how;have hcr:=(hg.row.cellAt j (by omega)).trans oh;have kK:=hg.row.frozenAt j;have Cx:jaH (∀ o,Below wr.heap.size wr (wr.alloc o).drew):=ae (fun o=>(aj wr o).drew);have qa:∀ o,(wr.alloc o).cell? ⟨q,0,none⟩=some (.slice (some ⟨A.heap.size,0,none⟩) n n):=fun o=>((aj wr o).cell hqx).trans y0
     have hRl:A.heap.size<wr.heap.size:=(aE (k:=A.heap.size) hg.row rfl).2.1;have har:∀ o,(wr.alloc o).cell? ⟨A.heap.size,j,none⟩=some (.slice ra rn rc):=fun o=>((aj wr o).cell hRl).trans hcr
     have vU:=ae how;have HPS:=ae (Ps (rs:=rows) (l:=l) (j:=j) (by omega) WI);have HRV:=ae oh;have td:(j:Int)<(l.length:Int):=(by omega);have hjn:(j:Int)<(n:Int):=(by omega)
     have hbt:((psh rows (l.take j))[j]).length<=100000:=by
      rw[mE (by omega),YC];have h5:∀ o:Option Cl,o.toList.length<=1:=fun o=>by cases o<;>simp
      have:=h5 ((l.take j)[j]?);have:=CB.o.2.2.2 _ (YF (show j<rows.length by omega));omega
     clear hg hr hf hv hd how oh y1 y3;generalize hrw:(psh rows (l.take j))[j]=row at *;have TK:=ae hrw;clear hrw;rcases uy l[j]with h0 | ⟨tt,uu,h0⟩
     all_goals
      rw[h0]at Rn;have H0:=ae h0;clear h0;generalize hxj:l[j]=xj at *;have HXJ:=ae hxj;clear hxj;subst Ye;go_upto_region 10 with fail
      refine wp_region_noPanic ?_
      go_region_law (first
       | (refine vH (by rfl) _ _ (by rfl) A.heap.size _ _ xj row (by rfl) ?_ (by rfl) ?_ hbt ?_ ?_;exact OwnV.kept vU.o (Cx.o _);(rw[H0.o];show (wr.alloc _).cell? _=_;rw[an (Zb _ _)];rfl);(show A.heap.size<=(wr.alloc _).heap.size;rw[YB];omega);intro v6 w6 o6 g6 e6;have o6':OwnV w6 A.heap.size v6 ((psh rows (l.take j))[j]++[xj]):=(by rw[TK.o];exact o6);obtain⟨GB,dP,⟨hc6,hc7,hc8⟩,Lm⟩:=(HG.o.kept (Cx.o _)).addCell hjr HRV.o o6' g6 e6;obtain⟨va7,vn7,vc7,rfl⟩:=du o6;have jC:=ae GB;have CA:=ae ((HR.o.kept (Cx.o _) HR.o.lt).kept dP UE);have Ui:=ae ((HF.o.then ((Cx.o _).mono HF.o.size)).trans (Fr.of_below dP));have Vc:=ae (Lm _ _ (OwnV.kept HV.o (Cx.o _)) (fun b hb=>HD.o j (YA j) _ HRV.o b hb));clear o6 o6' g6 e6 GB dP Lm)
       | fail)
     all_goals
      refine NoPanic.normal ?_;go_wp2_with fail;go_roundw
      case rel =>
       refine⟨j+1,rvs2.set j (.slice va7 vn7 vc7),by go_num,by omega,?_,CA.o,Ui.o,Vc.o,fun i hi ri BW=>?_⟩
       ·rw[← HPS.o,← TK.o]
        exact jC.o
       ·rw[List.getElem?_set_ne (by omega)]at BW
        exact HD.o i (by omega) ri BW
      case measure=>simp[intOf];omega
    ·obtain rfl:j=l.length:=by omega
     have eO:¬ ((l.length:Nat):Int)<(l.length:Int):=(by omega);clear hg hr hf hv hd y0 y1 y2 y3;have HGG:=ae HG.o;rw[YK]at HGG;go_wp2_with fail;go_roundw
     case rel =>
      refine⟨k+1,rvs2,.slice va6 vn6 vc6,by go_num,by omega,?_,?_,HF.o⟩
      ·rw[HGN.o];exact HGG.o
      ·rw[HGN.o];exact HR.o
     case measure=>simp[intOf];omega
  ·obtain rfl:k=fs.length:=by omega
   have eO:¬ ((fs.length:Nat):Int)<(fs.length:Int):=(by omega);have hsa:=kj.o;have Xu:¬ w.heap.size+1=p:=(by omega);have hT:wr.heap[w.heap.size+1]?=some (.cells #[.slice none 0 0,.slice none 0 0] 109 (0,0)):=(hf.block _ (by omega) Xu).trans Cu.o;have t0:wr.cell? ⟨w.heap.size+1,0,none⟩=some (.slice none 0 0):=by rw[an hT];rfl
   have t1:wr.cell? ⟨w.heap.size+1,1,none⟩=some (.slice none 0 0):=by rw[an hT];rfl
   have t2:wr.frozen? ⟨w.heap.size+1,0,none⟩=false:=by simp[World.frozen?,hT]
   have t3:wr.frozen? ⟨w.heap.size+1,1,none⟩=false:=by simp[World.frozen?,hT]
   have hqa:A.heap.size<=q:=HG.o.hq;have vR:¬ q=w.heap.size+1:=(by omega);have hne3:¬ w.heap.size+1=q:=(by omega);have hfa:Fr p w.heap.size w wr:=(Fr.of_below UO.o).trans (hf.mono (by omega));have Cv:=es (es (Yz w.heap.size wr) (show w.heap.size<=w.heap.size+1 by omega) 0 (.slice (some ⟨A.heap.size,0,none⟩) n n)) (show w.heap.size<=w.heap.size+1 by omega) 1 (.slice va vn vc);have nw:=ae (HR.o.kept Cv ar);have Lg:=ae (hfa.trans (Fr.of_below Cv))
   have HGF:=ae ((HG.o.turn (W':=(wr.setCell ⟨w.heap.size+1,0,none⟩ (.slice (some ⟨A.heap.size,0,none⟩) n n)).setCell ⟨w.heap.size+1,1,none⟩ (.slice va vn vc)) (fun j hj _=>by
    rw[Below.heap_setCell _ _ _ _ (by simp;omega),Below.heap_setCell _ _ _ _ (by simp;omega)])).low (show w.heap.size<=A.heap.size by omega)).gro
   clear hf hT hfa Cv Cu hsa;go_wp2_with fail;refine bodyPost_ret (v:=.agg #[.slice (some ⟨A.heap.size,0,none⟩) n n,.slice va vn vc]) (by simp[results,Tryz.results142,go_sem,t0,t1,t2,t3,Xu,vR,hne3]) rfl ⟨⟨_,rfl,HGF.o⟩,nw.o,Lg.o⟩
theorem Pv:(Tryz.prog.info? 109).map (fun i=>(i.zero,i.size,i.bytes))=some (some (.agg #[.slice none 0 0,.slice none 0 0]),2,48):=by kernel_rfl
theorem vI{w:World}{ops:Array Oper}{o:Oper}{a:Act}{K:Act->World->Prop}{Q:Exit->Act->World->Prop}{E:Prop}(dO:o.guard=none)(s x:Operand)
  (ho:o.op=.call { callee:=.builtin .append,args:=#[s,x],argTypes:=#[103,103] })
  (base:Nat) (v:Value) (g:Nat) (z1 z2:Value) (n:Nat) (xs:List Value) (hs:a.eval s=v) (aw:w.ownsRow base 109 2 v n xs) (hx:a.eval x=.slice (some ⟨g,0,none⟩) 1 1)
  (hc:w.heap[g]?=some (.cells #[z1,z2] 109 (0,0))) (h1:z1.oneCell'=true) (h2:z2.oneCell'=true) (hbytes:n<=100000) (aD:base<=w.heap.size)
  (h:∀ v' w',w'.ownsRow base 109 2 v' (n+1) (xs++[z1,z2])->w.grownBy w' v.ownBlock->(v'.ownBlock=v.ownBlock∨v'.ownBlock=some w.heap.size)->K (a.put o.dst v') w') :
  if Region.wanted o (yielded ops a.tmps)=true then Oper.wp Tryz.prog o a w K Q else E:=by
 obtain⟨i0,hi,bN,hz1',bh⟩:=YW Pv
 refine gP dO s x 103 ho base 109 i0 (.agg #[.slice none 0 0,.slice none 0 0]) 2 48 Tryz.underlying103 hi bN hz1' bh rfl (by decide) v n xs hs aw ⟨g,0,none⟩ 1 1 [z1,z2] hx rfl ?_ (fun u hu=>by
  simp only[YQ,jaw,or_false]at hu;rcases hu with rfl | rfl
  ·exact h1
  ·exact h2) (by unfold maxLen;omega) (by omega) aD h
 intro j u hu;rw[oz];rw[an hc];simpa using hu
def Fil(W:World)(B fp id:Nat)(fv:Value)(gs:List Gr):Prop :=
 ∃ gv xs,W.heap[fp]?=some (.cells #[.int .u32 (id:Int),fv,gv] 105 (0,0))/\B<=fp/\W.ownsRow B 109 2 gv gs.length xs /\
  ∀ j (h:j<gs.length),∃ a b,xs[2*j]?=some a/\xs[2*j+1]?=some b/\Gro W B (.agg #[a,b]) gs[j].1 gs[j].2
theorem Gro.turn{W W':World}{B:Nat}{v:Value}{rows:List Row}{sts:List Stt}(h:Gro W B v rows sts)(hb:∀ k cur e,B<=k->k<W.heap.size->e≠105->e≠109->W.heap[k]?=some (.cells cur e (0,0))->W'.heap[k]?=W.heap[k]?):Gro W' B v rows sts:=by
 obtain⟨R,rvs,vs,rfl,h1,h2,h3⟩:=h
 have key:∀{e:TypeId} {size n:Nat} {v:Value} {xs:List Value},W.ownsRow B e size v n xs->e≠105->e≠109->W'.ownsRow B e size v n xs:=fun{e size n v xs} ho e1 e2=>bF ho fun k hk=>by
  obtain⟨a,b,cur,hc⟩:=aE ho hk;exact hb k cur e a b e1 e2 hc
 refine⟨R,rvs,vs,rfl,key h1 (by decide) (by decide),fun i hi=>?_,key h3 (by decide) (by decide)⟩;obtain⟨rv,e1,e2⟩:=h2 i hi;exact⟨rv,e1,key e2 (by decide) (by decide)⟩
theorem Gro.low{W:World}{B B':Nat}{v:Value}{rows:List Row}{sts:List Stt}(h:Gro W B v rows sts)(hB:B'<=B):Gro W B' v rows sts:=by
 obtain⟨R,rvs,vs,rfl,h1,h2,h3⟩:=h;have lo:∀{e:TypeId} {size n:Nat} {v:Value} {xs:List Value},W.ownsRow B e size v n xs->W.ownsRow B' e size v n xs:=fun{e size n v xs} h=>⟨h.1,h.2.imp id fun⟨g,cap,cur,hv,hb,r⟩=>⟨g,cap,cur,hv,YG hB hb,r⟩⟩
 exact⟨R,rvs,vs,rfl,lo h1,fun i hi=>by obtain⟨rv,e1,e2⟩:=h2 i hi;exact⟨rv,e1,lo e2⟩,lo h3⟩
theorem Gro.parts{W:World}{B:Nat}{v:Value}{rows:List Row}{sts:List Stt}(h:Gro W B v rows sts):∃ z1 z2,v=.agg #[z1,z2]/\z1.oneCell'=true/\z2.oneCell'=true:=by
 obtain⟨R,rvs,vs,rfl,h1,h2,h3⟩:=h;obtain⟨a,m,c,rfl⟩:=du h3;exact⟨_,_,rfl,rfl,rfl⟩
theorem Fil.turn{W W':World}{B fp id:Nat}{fv:Value}{gs:List Gr}(h:Fil W B fp id fv gs)(hb:∀ k,B<=k->k<W.heap.size->W'.heap[k]?=W.heap[k]?):Fil W' B fp id fv gs:=by
 obtain⟨gv,xs,h1,h2,h3,h4⟩:=h;refine⟨gv,xs,(hb fp h2 (Array.getElem?_eq_some_iff.1 h1).1).trans h1,h2,bF h3 fun k hk=>?_,fun j hj=>?_⟩
 ·obtain⟨a,b,_⟩:=aE h3 hk
  exact hb k a b
 ·obtain⟨a,b,e1,e2,e3⟩:=h4 j hj
  exact⟨a,b,e1,e2,e3.turn fun k _ _ k1 k2 _ _ _=>hb k k1 k2⟩
theorem Fil.kept{W W':World}{B fp id:Nat}{fv:Value}{gs:List Gr}(h:Fil W B fp id fv gs)(hb:Below W.heap.size W W'):Fil W' B fp id fv gs:=h.turn fun k _ hk=>hb.block k hk
theorem Fil.add{W W':World}{B fp id:Nat}{fv gv gv' z1 z2:Value}{xs:List Value}{gs:List Gr}{g:Gr}(h1:W.heap[fp]?=some (.cells #[.int .u32 (id:Int),fv,gv] 105 (0,0)))(h2:B<=fp)(h3:W.ownsRow B 109 2 gv gs.length xs)
  (h4:∀ j (h:j<gs.length),∃ a b,xs[2*j]?=some a/\xs[2*j+1]?=some b/\Gro W B (.agg #[a,b]) gs[j].1 gs[j].2) (hg:Gro W B (.agg #[z1,z2]) g.1 g.2)
  (ho:W'.ownsRow B 109 2 gv' (gs.length+1) (xs++[z1,z2])) (KV:W.grownBy W' gv.ownBlock) (he:gv'.ownBlock=gv.ownBlock∨gv'.ownBlock=some W.heap.size) :
  Fil (W'.setCell ⟨fp,2,none⟩ gv') B fp id fv (gs++[g])/\Below B W (W'.setCell ⟨fp,2,none⟩ gv')/\W'.cell? ⟨fp,2,none⟩=some gv/\W'.frozen? ⟨fp,2,none⟩=false:=by
 have ja:fp<W.heap.size:=(Array.getElem?_eq_some_iff.1 h1).1
 have hfv:gv.ownBlock≠some fp:=fun e=>by
  obtain⟨_,_,c,hc⟩:=aE h3 e;rw[h1]at hc;cases hc
 have hf':W'.heap[fp]?=some (.cells #[.int .u32 (id:Int),fv,gv] 105 (0,0)):=(KV.block fp ja (fun e=>hfv e.symm)).trans h1
 have hfv':gv'.ownBlock≠some fp:=fun e=>by
  rcases he with e1 | e1
  ·exact hfv (e1.symm.trans e)
  ·rw[e1]at e
   cases e
   exact absurd ja (Nat.lt_irrefl _)
 have hn:∀ k,k≠fp->(W'.setCell ⟨fp,2,none⟩ gv').heap[k]?=W'.heap[k]?:=fun k hk=>Below.heap_setCell _ _ _ _ (by simpa using hk)
 have bg:=h3.1
 have turned:∀{v:Value} {rows:List Row} {sts:List Stt},Gro W B v rows sts->Gro (W'.setCell ⟨fp,2,none⟩ gv') B v rows sts:=fun{v rows sts} hh=>hh.turn fun k cur e k1 k2 e1 e2 hc=>by
  have Xv:k≠fp:=by
   rintro rfl;rw[h1]at hc;cases hc
   exact e1 rfl
  rw[hn k Xv];refine KV.block k k2 (fun e'=>?_);obtain⟨_,_,c',hc'⟩:=aE h3 e'.symm;rw[hc]at hc';cases hc'
  exact e2 rfl
 refine⟨⟨gv',xs++[z1,z2],?_,h2,?_,fun j hj=>?_⟩,⟨KV.os,KV.tape,KV.output,YG KV.size (by simp[World.setCell]),fun k hk=>?_⟩,by rw[an hf'];rfl,by simp[World.frozen?,hf']⟩
 ·rw[ce hf']
  rfl
 ·rw[YC]
  exact bF ho fun k hk=>hn k (fun e=>hfv' (e ▸ hk))
 ·rw[YC]at hj
  simp only[YI,Zc]at hj;by_cases td:j<gs.length
  ·obtain⟨a,b,e1,e2,e3⟩:=h4 j td
   refine⟨a,b,by rw[List.getElem?_append_left (by omega)];exact e1,by rw[List.getElem?_append_left (by omega)];exact e2,?_⟩;rw[jaD td];exact turned e3
  ·obtain rfl:j=gs.length:=by omega
   refine⟨z1,z2,?_,?_,?_⟩
   ·rw[List.getElem?_append_right (by omega),show 2*gs.length-xs.length=0 by omega]
    rfl
   ·rw[List.getElem?_append_right (by omega),show 2*gs.length+1-xs.length=1 by omega]
    rfl
   ·rw[List.getElem_append_right (YA _)]
    simp only[jai,jar];exact turned hg
 ·rw[hn k (by omega)]
  refine KV.block k (by omega) (fun e=>?_);have:=(aE h3 e.symm).1;omega
theorem bf{W:World}{B:Nat}{e:TypeId}{size n:Nat}{v:Value}{xs:List Value}(h:W.ownsRow B e size v n xs):∃ a c,v=.slice a n c/\n<=c/\c<=9223372036854775807:=by
 rcases h with ⟨h0,⟨h1,h2⟩ | ⟨g,cap,cur,h1,h2,h3,h4,h5,_⟩⟩
 ·exact⟨none,0,by rw[h1,h2],by omega,by omega⟩
 ·exact⟨_,cap,h1,h4,by unfold maxLen at h5;omega⟩
theorem eN{W:World}{B:Nat}{e:TypeId}{size n m c:Nat}{a:Option Addr}{xs:List Value}(h:W.ownsRow B e size (.slice a m c) n xs){i:Nat}{x:Value}(hx:xs[i]?=some x) :
  ∃ g,a=some ⟨g,0,none⟩/\B<=g/\g<W.heap.size/\W.cell? ⟨g,i,none⟩=some x:=by
 have ar:=(List.getElem?_eq_some_iff.1 hx).1;rcases h with ⟨h0,⟨h1,h2⟩ | ⟨g,cap',cur,h1,h2,h3,h4,h5,h6,h7⟩⟩
 ·subst h2
  simp at h0
  rw[h0]at ar;simp at ar
 ·simp only[Value.slice.injEq]at h1
  obtain⟨rfl,rfl,rfl⟩:=h1;refine⟨g,rfl,h2,(Array.getElem?_eq_some_iff.1 h3).1,?_⟩;simp only[World.cell?,h3];rw[← h7]at hx;have yV:=(List.getElem?_eq_some_iff.1 hx).1;rw[YH]at yV;rw[List.getElem?_take_of_lt (by omega)]at hx;simpa using hx
def Ow(W:World)(B:Nat)(v:Value)(l:List (Value×Row)):Prop:=W.ownsRow B 79 1 v l.length (l.map Prod.fst)/\∀ x∈l,OwnV W B x.1 x.2
theorem Ow.nil(W:World)(B:Nat):Ow W B (.slice none 0 0) []:=⟨Zx _ _ _ _,fun x hx=>by simp at hx⟩
theorem Ow.kept{W W':World}{B:Nat}{v:Value}{l:List (Value×Row)}(h:Ow W B v l)(hb:Below W.heap.size W W'):Ow W' B v l:=⟨bP h.1 hb,fun x hx=>(h.2 x hx).kept hb⟩
theorem Ow.low{W:World}{B B':Nat}{v:Value}{l:List (Value×Row)}(h:Ow W B v l)(hB:B'<=B):Ow W B' v l:=⟨qR h.1 hB,fun x hx=>(h.2 x hx).of_le hB⟩
theorem Ow.form{W:World}{B:Nat}{v:Value}{l:List (Value×Row)}(h:Ow W B v l):∃ a cap,v=.slice a l.length cap/\l.length<=cap/\cap<=maxLen/\(a=none->cap=0):=by
 rcases h.1 with ⟨h0,⟨h1,h2⟩ | ⟨g,cap,cur,h1,h2,h3,h4,h5,_⟩⟩
 ·exact⟨none,0,by rw[h1,h2],by omega,by unfold maxLen;omega,fun _=>rfl⟩
 ·exact⟨_,cap,h1,h4,h5,fun e=>by cases e⟩
theorem Ow.at{W:World}{B:Nat}{a:Option Addr}{n cap:Nat}{l:List (Value×Row)}(h:Ow W B (.slice a n cap) l){k:Nat}(hk:k<l.length) :
  ∃ g,a=some ⟨g,0,none⟩/\g<W.heap.size/\W.cell? ⟨g,k,none⟩=some l[k].1/\OwnV W B l[k].1 l[k].2:=by
 rcases h with ⟨⟨h0,⟨h1,h2⟩ | ⟨g,cap',cur,h1,h2,h3,h4,h5,h6,h7⟩⟩,hr⟩
 ·omega
 ·simp only[Value.slice.injEq]at h1
  obtain⟨rfl,rfl,rfl⟩:=h1;refine⟨g,rfl,(Array.getElem?_eq_some_iff.1 h3).1,?_,(hr _ (YF hk))⟩;have hj:(l.map Prod.fst)[k]?=some l[k].1:=by simp[hk]
  simp only[World.cell?,h3];rw[← h7]at hj;have ar:=(List.getElem?_eq_some_iff.1 hj).1;rw[YH]at ar;rw[List.getElem?_take_of_lt (by omega)]at hj;simpa using hj
theorem Ow.sv{W:World}{B:Nat}{v:Value}{l:List (Value×Row)}(h:Ow W B v l):Sv W v (l.map Prod.fst):=by
 have:=Sv.of_own h.1;exact this
theorem Ow.rv{W:World}{B:Nat}{v:Value}{l:List (Value×Row)}(h:Ow W B v l):Rv W v (l.map Prod.snd):=by
 obtain⟨a,cap,rfl,h1,h2,h3⟩:=h.form;refine⟨a,cap,by rw[YD],by rw[YD];exact h1,h2,h3,fun h0=>?_⟩;rw[YD]at h0;obtain⟨g,e,h4,_⟩:=h.at h0;refine⟨g,0,e,h4,fun j hj=>?_⟩;rw[YD]at hj;obtain⟨g',e',h5,h6,h7⟩:=h.at hj;obtain rfl:g=g':=by rw[e]at e';cases e';rfl
 refine⟨_,by rw[YY];exact h6,?_⟩;have:=h7.sv;simpa using this
theorem mF{W:World}{g:Nat}{z:Value}(hc:W.cell? ⟨g,0,none⟩=some z)(hg:g<W.heap.size):Sv W (.slice (some ⟨g,0,none⟩) 1 1) [z] :=
 ⟨_,1,rfl,YA _,by unfold maxLen;omega,fun e=>(by cases e),fun _=>⟨g,0,rfl,hg,fun j x hx=>by
  cases j with
  | zero =>
   simp only[List.getElem?_cons_zero,Option.some.injEq]at hx;rw[← hx];exact hc
  | succ j=>simp at hx⟩⟩
theorem yK{w:World}(ty:TypeId)(base:Nat)(v vx:Value)(l0 l:List (Value×Row))(aw:Ow w base v l0)(et:Sv w vx (l.map Prod.fst))(hr:∀ x∈l,OwnV w base x.1 x.2)(hbytes:l0.length+l.length<=1000000)(aD:base<=w.heap.size) :
  ∃ v' w',(Builtin.append_ #[34,34] ty #[v,vx]).run Tryz.prog w=.ok v' w'/\Ow w' base v' (l0++l)/\Below base w w':=by
 obtain⟨i0,hi,bN,hz1',bh⟩:=YW Gg;obtain⟨ad,cap,rfl,h1,h2,h3,h4⟩:=et;rw[YD]at *
 have one:∀ x∈l.map Prod.fst,x.oneCell'=true:=fun x hx=>by
  obtain⟨y,hy,rfl⟩:=YS.1 hx;obtain⟨a,n,c,e⟩:=du (hr y hy);rw[e];rfl
 cases ad with
 | none =>
  have hc:=h3 rfl;subst hc;have hl:l=[]:=YU (by omega);subst hl;have hr:=jae (P:=Tryz.prog) (w:=w) base 34 ty 79 i0 1 Tryz.underlying34 hi v l0.length (l0.map Prod.fst) aw.1;refine⟨v,w,hr,by rw[YZ];exact aw,Yz _ _⟩
 | some ad =>
  obtain⟨v',w',vT,o1,g1,_,e1⟩:=run_append_own_at (P:=Tryz.prog) w base 34 ty 79 i0 (.slice none 0 0) 1 24 Tryz.underlying34 hi bN hz1' bh rfl (by decide) v l0.length (l0.map Prod.fst) aw.1 ad l.length cap (l.map Prod.fst) (by rw[YD];omega)
   (fun j u hu=>by
    have hj:j<l.length:=by
     have:=(List.getElem?_eq_some_iff.1 hu).1;rwa[YD]at this
    obtain⟨b,off,h5,_,h6⟩:=h4 (by omega);cases h5
    rw[kq];exact h6 j u hu) one (by unfold maxLen;omega) (by omega) aD
  have keep:∀ y:Value×Row,OwnV w base y.1 y.2->OwnV w' base y.1 y.2:=fun y hy =>
   bF hy fun k hk=>g1.block k (aE hy hk).2.1 (fun e=>dU hy aw.1 (by decide) hk e.symm)
  refine⟨v',w',vT,⟨?_,fun y hy=>?_⟩,(Yz base w).grown g1 aD (fun k hk=>(aw.1.lt k hk).1)⟩
  ·rw[YC,YX]
   exact o1
  ·rcases Zg.1 hy with hy | hy
   ·exact keep y (aw.2 y hy)
   ·exact keep y (hr y hy)
theorem BC{w:World}{o:Oper}{a:Act}{K:Act->World->Prop}{Q:Exit->Act->World->Prop}(s x:Operand)
  (ho:o.op=.call { callee:=.builtin .append,args:=#[s,x],argTypes:=#[34,34] })
  (base:Nat) (v vx:Value) (l0 l:List (Value×Row)) (hs:a.eval s=v) (aw:Ow w base v l0) (hx:a.eval x=vx) (et:Sv w vx (l.map Prod.fst)) (hr:∀ x∈l,OwnV w base x.1 x.2) (hbytes:l0.length+l.length<=1000000) (aD:base<=w.heap.size)
  (h:∀ v' w',Ow w' base v' (l0++l)->Below base w w'->K (a.put o.dst v') w'):Oper.wp Tryz.prog o a w K Q:=by
 obtain⟨v',w',hr,h2,h3⟩:=yK o.type base v vx l0 l aw et hr hbytes aD;unfold Oper.wp execOp;simp only[ho,resolve,invoke,builtin,Sem.run_bind,Sem.run_pure,Result.andThen_ok,ZP,Zh,Zs,hs,hx,hr];exact h v' w' h2 h3
theorem fB{w:World}{ops:Array Oper}{rest:List Oper}{o:Oper}{a:Act}{Q:Exit->Act->World->Prop}(dO:o.guard=none)(s x:Operand)
  (ho:o.op=.call { callee:=.builtin .append,args:=#[s,x],argTypes:=#[34,34] })
  (base:Nat) (v vx:Value) (l0 l:List (Value×Row)) (hs:a.eval s=v) (aw:Ow w base v l0) (hx:a.eval x=vx) (et:Sv w vx (l.map Prod.fst)) (hr:∀ x∈l,OwnV w base x.1 x.2) (hbytes:l0.length+l.length<=1000000) (aD:base<=w.heap.size)
  (h:∀ v' w',Ow w' base v' (l0++l)->Below base w w'->wpList Tryz.prog ops Q rest (a.put o.dst v') w') :
  wpList Tryz.prog ops Q (o::rest) a w :=
 wpList_plain dO fun K hK=>BC s x ho base v vx l0 l hs aw hx et hr hbytes aD fun v' w' h1 h2=>hK _ _ (h v' w' h1 h2)
end Go.Proofs.YtpljdjmpamjkhaaGreatDoor
