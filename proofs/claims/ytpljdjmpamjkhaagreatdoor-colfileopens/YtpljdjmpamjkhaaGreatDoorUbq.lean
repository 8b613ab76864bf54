import Derived.Test.YtpljdjmpamjkhaaGreatDoorUar
set_option linter.unusedVariables false
set_option linter.unusedSimpArgs false
set_option maxRecDepth 100000
set_option maxHeartbeats 16000000
namespace Go.Proofs.YtpljdjmpamjkhaaGreatDoor
open Go.RowKit Go.Lib
theorem YP(a b:Cl)(w:World):Calls Tryz.prog 61 #[.agg #[.int .u8 (a.1:Int),.int .i64 a.2.1,.string (am a.2.2)],.agg #[.int .u8 (b.1:Int),.int .i64 b.2.1,.string (am b.2.2)]] w fun e w'=>e=.returned (.bool (decide (cQ a b<0)))/\Below w.heap.size w w':=by
 refine WN _ _ _ _ _ _ _ ?_ w;rw[ls_cv];have:=Ho a b;show decide (cQ a b=-1)=_
 rcases this with h | h | h
 ·rw[h];rfl
 ·rw[h];rfl
 ·rw[h];rfl
theorem zZ:∀(r:List Cl) (m c:Cl),fZ m (r++[c])=if cQ c (fZ m r)<0 then c else fZ m r
 | [],m,c=>rfl
 | x::r,m,c=>by
  rw[jd6,fZ,zZ r,fZ]
theorem Aa:∀(r:List Cl) (m c:Cl),eE m (r++[c])=if 0<cQ c (eE m r) then c else eE m r
 | [],m,c=>rfl
 | x::r,m,c=>by
  rw[jd6,eE,Aa r,eE]
def soM(ns:List Cl):Bool:=!ns.isEmpty
def leM:List Cl->Cl
 | []=>nul
 | x::r=>fZ x r
def moM:List Cl->Cl
 | []=>nul
 | x::r=>eE x r
def ckM(ns:List Cl):Bool:=ns.all fun c=>!decide (c.1=3) || eM c
theorem Ua(ns:List Cl)(c:Cl):ckM (ns++[c])=(ckM ns && (!decide (c.1=3) || eM c)):=by simp[ckM]
theorem Ub(ns:List Cl)(c:Cl):soM (ns++[c])=true:=by simp[soM]
theorem Uc(ns:List Cl)(c:Cl):leM (ns++[c])=if soM ns=false∨cQ c (leM ns)<0 then c else leM ns:=by
 cases ns with
 | nil=>rfl
 | cons x r =>
  show fZ x (r++[c])=_
  rw[zZ];simp[soM,leM]
theorem Ud(ns:List Cl)(c:Cl):moM (ns++[c])=if soM ns=false∨cQ (moM ns) c<0 then c else moM ns:=by
 cases ns with
 | nil=>rfl
 | cons x r =>
  show eE x (r++[c])=_
  rw[Aa];have h:=MW c (eE x r);by_cases h2:0<cQ c (eE x r)
  ·rw[jdf h2]
   have h4:soM (x::r)=false∨cQ (moM (x::r)) c<0:=Or.inr (show cQ (eE x r) c<0 by omega);rw[jdf h4]
  ·rw[jde h2]
   have h4:¬ (soM (x::r)=false∨cQ (moM (x::r)) c<0):=fun h3=>by
    rcases h3 with h3 | h3
    ·simp[soM]at h3
    ·have h4:cQ (eE x r) c<0:=h3
     omega
   rw[jde h4];rfl
theorem Pf{cs:List Cl}{j:Nat}(h:j<cs.length)(h0:cs[j].1=0):aZ (cs.take (j+1))=aZ (cs.take j):=by
 unfold aZ;rw[jdx h,jeU];simp[h0]
theorem Pg{cs:List Cl}{j:Nat}(h:j<cs.length)(h0:cs[j].1≠0):aZ (cs.take (j+1))=aZ (cs.take j)++[cs[j]]:=by
 unfold aZ;rw[jdx h,jeU];simp[h0]
def Rw(W:World)(q0 q1 q2 q3:Nat)(st:Stt)(lo hi:Cl):Prop :=
 Stb W q0 stZ/\Stb W q1 st/\Ceb W q2 (.int .u8 (lo.1:Int)) (.int .i64 lo.2.1) (.string (am lo.2.2))/\Ceb W q3 (.int .u8 (hi.1:Int)) (.int .i64 hi.2.1) (.string (am hi.2.2))
theorem Rw.kept{W X:World}{q0 q1 q2 q3:Nat}{st:Stt}{lo hi:Cl}(h:Rw W q0 q1 q2 q3 st lo hi)(hb:Below W.heap.size W X):Rw X q0 q1 q2 q3 st lo hi:=⟨h.1.kept hb,h.2.1.kept hb,h.2.2.1.kept hb,h.2.2.2.kept hb⟩
theorem Ceb.other{W:World}{p q:Nat}{x y z:Value}(h:Ceb W q x y z)(hn:q≠p)(i:Nat)(v:Value):Ceb (W.setCell ⟨p,i,none⟩ v) q x y z:=by
 unfold Ceb at *;rw[heap_setCell_other _ ⟨p,i,none⟩ q _ hn];exact h
theorem Ceb.put{W:World}{p:Nat}{x y z:Value}(h:Ceb W p x y z)(x' y' z':Value):Ceb (((W.setCell ⟨p,0,none⟩ x').setCell ⟨p,1,none⟩ y').setCell ⟨p,2,none⟩ z') p x' y' z':=by
 unfold Ceb at *;rw[cJ (cJ (cJ h 0 _) 1 _) 2 _];rfl
theorem Ceb.put2{W:World}{p:Nat}{x y z:Value}(h:Ceb W p x y z)(z':Value):Ceb (W.setCell ⟨p,2,none⟩ z') p x y z':=by
 unfold Ceb at *;rw[cJ h 2 _];rfl
theorem Rw.nulls{W:World}{q0 q1 q2 q3:Nat}{st:Stt}{lo hi:Cl}(h:Rw W q0 q1 q2 q3 st lo hi)(h0:q0<q1)(h1:q1<q2)(h2:q2<q3)(m:Int):Rw (W.setCell ⟨q1,1,none⟩ (.int .i64 m)) q0 q1 q2 q3 {st with nulls:=m} lo hi:=by
 refine⟨h.1.other (by omega) _ _,?_,h.2.2.1.other (by omega) _ _,h.2.2.2.other (by omega) _ _⟩;have:=h.2.1;unfold Stb at *;rw[cJ this 1 _];rfl
theorem Rw.some{W:World}{q0 q1 q2 q3:Nat}{st:Stt}{lo hi:Cl}(h:Rw W q0 q1 q2 q3 st lo hi)(h0:q0<q1)(h1:q1<q2)(h2:q2<q3):Rw (W.setCell ⟨q1,2,none⟩ (.bool true)) q0 q1 q2 q3 {st with some:=true} lo hi:=by
 refine⟨h.1.other (by omega) _ _,?_,h.2.2.1.other (by omega) _ _,h.2.2.2.other (by omega) _ _⟩;have:=h.2.1;unfold Stb at *;rw[cJ this 2 _];rfl
theorem Rw.high{W:World}{q0 q1 q2 q3:Nat}{st:Stt}{lo hi:Cl}(h:Rw W q0 q1 q2 q3 st lo hi)(h0:q0<q1)(h1:q1<q2)(h2:q2<q3)(b:Bool):Rw (W.setCell ⟨q1,3,none⟩ (.bool b)) q0 q1 q2 q3 {st with high:=b} lo hi:=by
 refine⟨h.1.other (by omega) _ _,?_,h.2.2.1.other (by omega) _ _,h.2.2.2.other (by omega) _ _⟩;have:=h.2.1;unfold Stb at *;rw[cJ this 3 _];rfl
theorem Rw.lo{W:World}{q0 q1 q2 q3:Nat}{st:Stt}{lo hi:Cl}(h:Rw W q0 q1 q2 q3 st lo hi)(h0:q0<q1)(h1:q1<q2)(h2:q2<q3)(c:Cl):Rw (((W.setCell ⟨q2,0,none⟩ (.int .u8 (c.1:Int))).setCell ⟨q2,1,none⟩ (.int .i64 c.2.1)).setCell ⟨q2,2,none⟩ (.string (am c.2.2))) q0 q1 q2 q3 st c hi :=
 ⟨((h.1.other (by omega) _ _).other (by omega) _ _).other (by omega) _ _,((h.2.1.other (by omega) _ _).other (by omega) _ _).other (by omega) _ _,h.2.2.1.put _ _ _,((h.2.2.2.other (by omega) _ _).other (by omega) _ _).other (by omega) _ _⟩
theorem Rw.hi{W:World}{q0 q1 q2 q3:Nat}{st:Stt}{lo hi:Cl}(h:Rw W q0 q1 q2 q3 st lo hi)(h0:q0<q1)(h1:q1<q2)(h2:q2<q3)(c:Cl):Rw (((W.setCell ⟨q3,0,none⟩ (.int .u8 (c.1:Int))).setCell ⟨q3,1,none⟩ (.int .i64 c.2.1)).setCell ⟨q3,2,none⟩ (.string (am c.2.2))) q0 q1 q2 q3 st lo c :=
 ⟨((h.1.other (by omega) _ _).other (by omega) _ _).other (by omega) _ _,((h.2.1.other (by omega) _ _).other (by omega) _ _).other (by omega) _ _,((h.2.2.1.other (by omega) _ _).other (by omega) _ _).other (by omega) _ _,h.2.2.2.put _ _ _⟩
theorem Rw.loS{W:World}{q0 q1 q2 q3:Nat}{st:Stt}{lo hi:Cl}(h:Rw W q0 q1 q2 q3 st lo hi)(h0:q0<q1)(h1:q1<q2)(h2:q2<q3)(s:List Nat):Rw (W.setCell ⟨q2,2,none⟩ (.string (am s))) q0 q1 q2 q3 st (lo.1,lo.2.1,s) hi :=
 ⟨h.1.other (by omega) _ _,h.2.1.other (by omega) _ _,h.2.2.1.put2 _,h.2.2.2.other (by omega) _ _⟩
theorem Rw.facts{W:World}{q0 q1 q2 q3:Nat}{st:Stt}{lo hi:Cl}(h:Rw W q0 q1 q2 q3 st lo hi) :
  (W.cell? ⟨q1,1,none⟩=Option.some (.int .i64 st.nulls)/\W.cell? ⟨q1,2,none⟩=Option.some (.bool st.some)/\W.cell? ⟨q1,3,none⟩=Option.some (.bool st.high)) /\
  (W.cell? ⟨q2,0,none⟩=Option.some (.int .u8 (lo.1:Int))/\W.cell? ⟨q2,1,none⟩=Option.some (.int .i64 lo.2.1)/\W.cell? ⟨q2,2,none⟩=Option.some (.string (am lo.2.2))) /\
  (W.cell? ⟨q3,0,none⟩=Option.some (.int .u8 (hi.1:Int))/\W.cell? ⟨q3,1,none⟩=Option.some (.int .i64 hi.2.1)/\W.cell? ⟨q3,2,none⟩=Option.some (.string (am hi.2.2))) /\
  (∀ i,W.frozen? ⟨q0,i,none⟩=false)/\(∀ i,W.frozen? ⟨q1,i,none⟩=false)/\(∀ i,W.frozen? ⟨q2,i,none⟩=false)/\(∀ i,W.frozen? ⟨q3,i,none⟩=false):=by
 obtain⟨_,⟨_,a1,a2,a3⟩,_⟩:=h.2.1.at;simp only[jdK]at a1 a2 a3;refine⟨⟨a1,a2,a3⟩,h.2.2.1.facts.1,h.2.2.2.facts.1,h.1.frozen,h.2.1.frozen,?_,?_⟩
 ·have:=h.2.2.1
  unfold Ceb at this;intro i;simp[World.frozen?,this]
 ·have:=h.2.2.2
  unfold Ceb at this;intro i;simp[World.frozen?,this]
def fN(cs:List Cl):Stt :=
 if soM (aZ cs)=false then ⟨cs.length,(cs.length:Int)-((aZ cs).length:Nat),false,false,nul,nul⟩
 else if (leM (aZ cs)).1=3 then (if ckM (aZ cs)=false then ⟨cs.length,(cs.length:Int)-((aZ cs).length:Nat),true,false,((leM (aZ cs)).1,(leM (aZ cs)).2.1,[]),nul⟩
  else match dX (lb (am (moM (aZ cs)).2.2)) 4 with
   | none=>⟨cs.length,(cs.length:Int)-((aZ cs).length:Nat),true,false,((leM (aZ cs)).1,(leM (aZ cs)).2.1,nb (bW (lb (am (leM (aZ cs)).2.2)) 4)),nul⟩
   | some a=>⟨cs.length,(cs.length:Int)-((aZ cs).length:Nat),true,true,((leM (aZ cs)).1,(leM (aZ cs)).2.1,nb (bW (lb (am (leM (aZ cs)).2.2)) 4)),((moM (aZ cs)).1,(moM (aZ cs)).2.1,nb a)⟩)
 else ⟨cs.length,(cs.length:Int)-((aZ cs).length:Nat),true,true,leM (aZ cs),moM (aZ cs)⟩
theorem BW{w:World}{v:Value}{cs:List Cl}(hs:Sc w v cs)(hf:∀ c∈cs,aV c)(hl:cs.length<=1000):Calls Tryz.prog 25 #[v] w fun e w'=>e=.returned (uC (fN cs))/\Below w.heap.size w w':=by
 have HF:=ae hf;have HL:=ae hl;obtain⟨a,cap,rfl,aY,bx⟩:=hs.form;have HS:=ae hs;clear hs hf hl bx;go_enter Tryz.func25,Tryz.ntmps25
 go_wp2_with fail;have cm:=Stb.new w stZ;have dY:=ak w (.cells #[.int .i64 0,.int .i64 0,.bool false,.bool false,.int .u8 0,.int .i64 0,.string ⟨#[]⟩,.int .u8 0,.int .i64 0,.string ⟨#[]⟩] 54);have s0:(w.alloc (.cells #[.int .i64 0,.int .i64 0,.bool false,.bool false,.int .u8 0,.int .i64 0,.string ⟨#[]⟩,.int .u8 0,.int .i64 0,.string ⟨#[]⟩] 54)).heap.size=w.heap.size+1:=jdi _ _;have hz0':Stb (w.alloc (.cells #[.int .i64 0,.int .i64 0,.bool false,.bool false,.int .u8 0,.int .i64 0,.string ⟨#[]⟩,.int .u8 0,.int .i64 0,.string ⟨#[]⟩] 54)) w.heap.size stZ:=cm;clear cm;generalize hA:w.alloc (.cells #[.int .i64 0,.int .i64 0,.bool false,.bool false,.int .u8 0,.int .i64 0,.string ⟨#[]⟩,.int .u8 0,.int .i64 0,.string ⟨#[]⟩] 54)=A at *;have cY:=Stb.new A ⟨cs.length,0,false,false,nul,nul⟩;have aH:=ak A (.cells #[.int .i64 (cs.length:Int),.int .i64 0,.bool false,.bool false,.int .u8 0,.int .i64 0,.string ⟨#[]⟩,.int .u8 0,.int .i64 0,.string ⟨#[]⟩] 54);have s1:(A.alloc (.cells #[.int .i64 (cs.length:Int),.int .i64 0,.bool false,.bool false,.int .u8 0,.int .i64 0,.string ⟨#[]⟩,.int .u8 0,.int .i64 0,.string ⟨#[]⟩] 54)).heap.size=A.heap.size+1:=jdi _ _;have hz1':Stb (A.alloc (.cells #[.int .i64 (cs.length:Int),.int .i64 0,.bool false,.bool false,.int .u8 0,.int .i64 0,.string ⟨#[]⟩,.int .u8 0,.int .i64 0,.string ⟨#[]⟩] 54)) A.heap.size ⟨cs.length,0,false,false,nul,nul⟩:=cY;clear cY;generalize hB:A.alloc (.cells #[.int .i64 (cs.length:Int),.int .i64 0,.bool false,.bool false,.int .u8 0,.int .i64 0,.string ⟨#[]⟩,.int .u8 0,.int .i64 0,.string ⟨#[]⟩] 54)=B at *;have bn:=Ceb.new B (.int .u8 0) (.int .i64 0) (.string ⟨#[]⟩);have aE:=ak B (.cells #[.int .u8 0,.int .i64 0,.string ⟨#[]⟩] 52);have s2:(B.alloc (.cells #[.int .u8 0,.int .i64 0,.string ⟨#[]⟩] 52)).heap.size=B.heap.size+1:=jdi _ _;generalize hC:B.alloc (.cells #[.int .u8 0,.int .i64 0,.string ⟨#[]⟩] 52)=C at *;have iD:=Ceb.new C (.int .u8 0) (.int .i64 0) (.string ⟨#[]⟩);have aQ:=ak C (.cells #[.int .u8 0,.int .i64 0,.string ⟨#[]⟩] 52);have s3:(C.alloc (.cells #[.int .u8 0,.int .i64 0,.string ⟨#[]⟩] 52)).heap.size=C.heap.size+1:=jdi _ _;generalize hD:C.alloc (.cells #[.int .u8 0,.int .i64 0,.string ⟨#[]⟩] 52)=D at *;have UX:jfb (Rw D w.heap.size A.heap.size B.heap.size C.heap.size ⟨cs.length,0,false,false,nul,nul⟩ nul nul):=ae ⟨((hz0'.kept aH).kept aE).kept aQ,(hz1'.kept aE).kept aQ,bn.kept aQ,iD⟩;have FY:=ae (ai (ai (ai dY aH) aE) aQ);have e1:A.heap.size=w.heap.size+1:=s0;have e2:B.heap.size=w.heap.size+1+1:=by omega
 have e3:C.heap.size=w.heap.size+1+1+1:=by omega
 rw[e1,e2,e3]at UX;clear hz0' hz1' bn iD dY aH aE aQ hA hB hC hD s0 s1 s2 s3 e1 e2 e3;obtain⟨q1,sg⟩:∃ q1,q1=w.heap.size+1:=⟨_,rfl⟩;obtain⟨q2,nc⟩:∃ q2,q2=w.heap.size+1+1:=⟨_,rfl⟩;obtain⟨q3,LO⟩:∃ q3,q3=w.heap.size+1+1+1:=⟨_,rfl⟩;have HQ:jfb (w.heap.size<q1/\q1<q2/\q2<q3):=ae (by omega);rw[← LO,← nc,← sg]at UX;rw[← LO,← nc,← sg];clear sg nc LO;go_loopw [6,7] (fun ck i wr=>∃ j:Nat,j<=cs.length/\i=.int .i64 (j:Int)/\ck=.bool (ckM (aZ (cs.take j)))/\Rw wr w.heap.size q1 q2 q3 ⟨cs.length,(j:Int)-((aZ (cs.take j)).length:Nat),soM (aZ (cs.take j)),false,nul,nul⟩ (leM (aZ (cs.take j))) (moM (aZ (cs.take j)))/\Below w.heap.size w wr) (fun _ i _=>cs.length-(intOf i).toNat)
 case atStart=>exact⟨0,by omega,rfl,rfl,UX.o,FY.o⟩
 case round =>
  obtain⟨j,hj,rfl,rfl,hrw,az⟩:=hrel;have HR:=ae hrw;have HB:=ae az;have bP:=az.size;have Qj:jfb (¬ q1=w.heap.size/\¬ w.heap.size=q1/\¬ q2=w.heap.size/\¬ w.heap.size=q2/\¬ q3=w.heap.size/\¬ w.heap.size=q3/\¬ q1=q2/\¬ q2=q1/\¬ q1=q3/\¬ q3=q1/\¬ q2=q3/\¬ q3=q2):=ae (by have:=HQ.o;omega);clear hrw az UX FY;by_cases aC:j<cs.length
  ·have hlt':(j:Int)<(cs.length:Int):=by omega
   have Yd:jfb (j+1<=cs.length):=ae aC
   have HWJ:jfb (Value.int .i64 (wrap64 ((j:Int)+1))=Value.int .i64 ((j+1:Nat):Int)):=ae (by
    have:=HL.o;have hw:wrap64 ((j:Int)+1)=(j:Int)+1:=by unfold wrap64;omega
    rw[hw];rfl)
   have Vq:jfb (∀ k,intOf (.int .i64 (wrap64 ((j:Int)+1)))=k->cs.length-k.toNat<cs.length-(intOf (.int .i64 (j:Int))).toNat):=ae (by
    intro k hk;have:=HL.o;have hw:wrap64 ((j:Int)+1)=(j:Int)+1:=by unfold wrap64;omega
    rw[hw]at hk;simp only[intOf]at hk ⊢;omega)
   obtain⟨g,off,rfl,hg,c0,c1,c2⟩:=(HS.o.kept (HB.o.mono (jdh _))).at aC;rw[en]at c2;have HX0:=ae (Pf aC);have LH:=ae (Pg aC)
   have HNL:jfb ((aZ (cs.take j)).length<=j):=ae (by
    have:=jeR (fun c:Cl=>!decide (c.1=0)) (cs.take j);rw[jdo]at this;unfold aZ;omega)
   have Ch:=ae (HF.o cs[j] (jdl aC));generalize hns:aZ (cs.take j)=ns at *;generalize hns2:aZ (cs.take (j+1))=ns2 at *;have FO:=ae hns2;clear hns hns2;generalize cs[j]=c at *;have FF:=Ceb.new wr (.int .u8 (c.1:Int)) (.int .i64 c.2.1) (.string (am c.2.2));have aE:=ak wr (.cells #[.int .u8 (c.1:Int),.int .i64 c.2.1,.string (am c.2.2)] 52);have jd:=ae (HR.o.kept aE);have aO:=ae (ai HB.o aE);have mY:=ae FF;clear FF aE;obtain⟨⟨d0,d1,d2⟩,_,_⟩:=mY.o.facts;obtain⟨⟨r1,r2,_⟩,⟨l0,l1,l2⟩,⟨m0,m1,m2⟩,fq0,fq1,fq2,fq3⟩:=jd.o.facts;obtain⟨n1,n2,n3,n4,n5,n6,n7,n8,n9,n10,n11,n12⟩:=Qj.o;simp only at r1 r2;have h8:q3<wr.heap.size:=HR.o.2.2.2.facts.2.2;have n13:¬ wr.heap.size=q1:=by have:=HQ.o;omega
   have n14:¬ wr.heap.size=q2:=by have:=HQ.o;omega
   have n15:¬ wr.heap.size=q3:=by have:=HQ.o;omega
   have n16:¬ q1=wr.heap.size:=by have:=HQ.o;omega
   have n17:¬ q2=wr.heap.size:=by have:=HQ.o;omega
   have n18:¬ q3=wr.heap.size:=by have:=HQ.o;omega
   clear h8;generalize hW:wr.alloc (.cells #[.int .u8 (c.1:Int),.int .i64 c.2.1,.string (am c.2.2)] 52)=W at *;by_cases oR:c.1=0
   ·have hc0':((c.1:Int)==0)=true:=by rw[oR];rfl
    have hx:=HX0.o oR;clear HX0 LH;subst hx;have Kj:wrap64 ((j:Int)-(ns2.length:Int)+1)=(j:Int)-(ns2.length:Int)+1:=by have:=HL.o;have:=HNL.o;unfold wrap64;omega
    have sk:=ae (jd.o.nulls HQ.o.1 HQ.o.2.1 HQ.o.2.2 ((j:Int)-(ns2.length:Int)+1));have bN:=ae (aO.o.setCell (p:=⟨q1,1,none⟩) (jdG HQ.o.1) (.int .i64 ((j:Int)-(ns2.length:Int)+1)));clear oR;go_wp2_with fail;go_roundw
    case rel =>
     refine⟨j+1,Yd.o,HWJ.o,by rw[FO.o],?_,bN.o⟩;have:=sk.o;rw[FO.o,show ((j+1:Nat):Int)-(ns2.length:Int)=(j:Int)-(ns2.length:Int)+1 by omega];exact this
    case measure=>exact Vq.o _ rfl
   ·have hc0':((c.1:Int)==0)=false:=jdt.2 (by omega)
    have hx:=LH.o oR;clear HX0 LH
    have cT:jfb (∀(X:World) (cl:Bool) (lo hi:Cl),cl=ckM (ns++[c])->lo=leM (ns++[c])->hi=moM (ns++[c])->Rw X w.heap.size q1 q2 q3 ⟨cs.length,(j:Int)-(ns.length:Nat),true,false,nul,nul⟩ lo hi->Below w.heap.size w X ->
      ∃ j1:Nat,j1<=cs.length/\Value.int .i64 (wrap64 ((j:Int)+1))=.int .i64 (j1:Int)/\Value.bool cl=.bool (ckM (aZ (cs.take j1)))/\Rw X w.heap.size q1 q2 q3 ⟨cs.length,(j1:Int)-((aZ (cs.take j1)).length:Nat),soM (aZ (cs.take j1)),false,nul,nul⟩ (leM (aZ (cs.take j1))) (moM (aZ (cs.take j1)))/\Below w.heap.size w X):=ae (by
     intro X cl lo hi e1 e2 e3 h1 h2;refine⟨j+1,Yd.o,HWJ.o,by rw[FO.o,e1,hx],?_,h2⟩;rw[FO.o,hx,Ub,← e2,← e3,jdj,show ((j+1:Nat):Int)-((ns.length+[c].length:Nat):Int)=(j:Int)-(ns.length:Int) by simp only[jdn,jdI];omega];exact h1)
    have nf:jfb (ckM (ns++[c])=(ckM ns && (!decide (c.1=3) || eM c))):=ae (Ua ns c);have uJ:jfb (leM (ns++[c])=if soM ns=false∨cQ c (leM ns)<0 then c else leM ns):=ae (Uc ns c);have ZO:jfb (moM (ns++[c])=if soM ns=false∨cQ (moM ns) c<0 then c else moM ns):=ae (Ud ns c);have HSG:=ae (oE (am c.2.2) (by have:=Ch.o.short;omega));have YX:=ae (YP c (leM ns));have HL2:=ae (YP (moM ns) c);have rS:jfb (w.heap.size<=wr.heap.size):=ae bP;clear oR hx FO;generalize UF:soM ns=so at *;generalize leM ns=lo at *;generalize moM ns=hi at *;generalize ckM ns=cl at *;generalize ckM (ns++[c])=cl' at *;generalize leM (ns++[c])=lo' at *;generalize moM (ns++[c])=hi' at *;clear UF bP;generalize (j:Int)-(ns.length:Int)=mm at *;have xV:((c.1:Int)==3)=true∨((c.1:Int)==3)=false:=by cases ((c.1:Int)==3)<;>simp
    rcases xV with h3 | h3
    ·have pw:jfb (cl'=(cl && dK (lb (am c.2.2)))):=ae (by
      have:c.1=3:=by have:=eq_of_beq h3;omega
      rw[nf.o,this];rfl)
     go_wp2_with fail;refine(HSG.o _).mono ?_;rintro e w2 ⟨⟨sa,sb,rfl,_,_⟩,aQ⟩;have sk:=ae (jd.o.kept aQ);have bN:=ae (ai aO.o aQ);have Qa:=ae (mY.o.kept aQ);clear aQ jd aO mY d0 d1 d2 r1 r2 l0 l1 l2 m0 m1 m2 fq0 fq1 fq2 fq3;obtain⟨⟨d0,d1,d2⟩,_,_⟩:=Qa.o.facts;obtain⟨⟨r1,r2,_⟩,⟨l0,l1,l2⟩,⟨m0,m1,m2⟩,fq0,fq1,fq2,fq3⟩:=sk.o.facts;simp only at r1 r2;generalize dK (lb (am c.2.2))=ck at *;have uU:jfb (cl'=(if cl=true then ck else false)):=ae (by rw[pw.o];cases cl<;>rfl);clear pw;cases cl
     all_goals
      simp only[if_true,if_false,Bool.false_eq_true]at uU;cases so
      ·have LK:jfb (lo'=c):=ae (by rw[uJ.o,jdf (Or.inl rfl)])
       have yK:jfb (hi'=c):=ae (by rw[ZO.o,jdf (Or.inl rfl)]);have pG:=ae (((sk.o.lo HQ.o.1 HQ.o.2.1 HQ.o.2.2 c).hi HQ.o.1 HQ.o.2.1 HQ.o.2.2 c).some HQ.o.1 HQ.o.2.1 HQ.o.2.2);have ts:=ae ((set3 (set3 bN.o (jdG (jdW HQ.o.1 HQ.o.2.1)) (.int .u8 (c.1:Int)) (.int .i64 c.2.1) (.string (am c.2.2))) (jdG (jdW (jdW HQ.o.1 HQ.o.2.1) HQ.o.2.2)) (.int .u8 (c.1:Int)) (.int .i64 c.2.1) (.string (am c.2.2))).setCell (p:=⟨q1,2,none⟩) (jdG HQ.o.1) (.bool true));clear uJ ZO;go_wp2_with fail;go_roundw
       case rel=>exact cT.o _ _ c c uU.o.symm LK.o.symm yK.o.symm pG.o ts.o
       case measure=>exact Vq.o _ rfl
      ·have LK:jfb (lo'=if decide (cQ c lo<0)=true then c else lo):=ae (by rw[uJ.o];simp)
       have yK:jfb (hi'=if decide (cQ hi c<0)=true then c else hi):=ae (by rw[ZO.o];simp);clear uJ ZO;generalize decide (cQ c lo<0)=b1 at *;generalize decide (cQ hi c<0)=b2 at *;go_wp2_with fail;refine(YX.o _).mono ?_;rintro e w4 ⟨rfl,bw⟩;have Aq:=ae (sk.o.kept bw);have ce:=ae (ai bN.o bw);have xP:=ae (Qa.o.kept bw);clear bw sk bN Qa d0 d1 d2 r1 r2 l0 l1 l2 m0 m1 m2 fq0 fq1 fq2 fq3;obtain⟨⟨d0,d1,d2⟩,_,_⟩:=xP.o.facts;obtain⟨⟨r1,r2,_⟩,⟨l0,l1,l2⟩,⟨m0,m1,m2⟩,fq0,fq1,fq2,fq3⟩:=Aq.o.facts;simp only at r1 r2;cases b1
       ·have xQ:jfb (lo'=lo):=ae LK.o
        clear LK;go_wp2_with fail;refine(HL2.o _).mono ?_;rintro e w5 ⟨rfl,br⟩;have uR:=ae (Aq.o.kept br);have aS:=ae (ai ce.o br);have KL:=ae (xP.o.kept br);clear br Aq ce xP d0 d1 d2 r1 r2 l0 l1 l2 m0 m1 m2 fq0 fq1 fq2 fq3;obtain⟨⟨d0,d1,d2⟩,_,_⟩:=KL.o.facts;obtain⟨⟨r1,r2,_⟩,⟨l0,l1,l2⟩,⟨m0,m1,m2⟩,fq0,fq1,fq2,fq3⟩:=uR.o.facts;simp only at r1 r2;cases b2
        ·have qq:jfb (hi'=hi):=ae yK.o
         have pG:=ae (uR.o.some HQ.o.1 HQ.o.2.1 HQ.o.2.2);have ts:=ae (aS.o.setCell (p:=⟨q1,2,none⟩) (jdG HQ.o.1) (.bool true));clear yK;go_wp2_with fail;go_roundw
         case rel=>exact cT.o _ _ lo hi uU.o.symm xQ.o.symm qq.o.symm pG.o ts.o
         case measure=>exact Vq.o _ rfl
        ·have qq:jfb (hi'=c):=ae yK.o
         have pG:=ae ((uR.o.hi HQ.o.1 HQ.o.2.1 HQ.o.2.2 c).some HQ.o.1 HQ.o.2.1 HQ.o.2.2);have ts:=ae ((set3 aS.o (jdG (jdW (jdW HQ.o.1 HQ.o.2.1) HQ.o.2.2)) (.int .u8 (c.1:Int)) (.int .i64 c.2.1) (.string (am c.2.2))).setCell (p:=⟨q1,2,none⟩) (jdG HQ.o.1) (.bool true));clear yK;go_wp2_with fail;go_roundw
         case rel=>exact cT.o _ _ lo c uU.o.symm xQ.o.symm qq.o.symm pG.o ts.o
         case measure=>exact Vq.o _ rfl
       ·have xQ:jfb (lo'=c):=ae LK.o
        clear LK;go_wp2_with fail;have HR4':=ae (Aq.o.lo HQ.o.1 HQ.o.2.1 HQ.o.2.2 c);have HB4':=ae (set3 ce.o (jdG (jdW HQ.o.1 HQ.o.2.1)) (.int .u8 (c.1:Int)) (.int .i64 c.2.1) (.string (am c.2.2)));have HCN4':=ae (((xP.o.other n14 0 (.int .u8 (c.1:Int))).other n14 1 (.int .i64 c.2.1)).other n14 2 (.string (am c.2.2)));refine(HL2.o _).mono ?_;rintro e w5 ⟨rfl,br⟩;have uR:=ae (HR4'.o.kept br);have aS:=ae (ai HB4'.o br);have KL:=ae (HCN4'.o.kept br);clear br Aq ce xP HR4' HB4' HCN4' d0 d1 d2 r1 r2 l0 l1 l2 m0 m1 m2 fq0 fq1 fq2 fq3;obtain⟨⟨d0,d1,d2⟩,_,_⟩:=KL.o.facts;obtain⟨⟨r1,r2,_⟩,⟨l0,l1,l2⟩,⟨m0,m1,m2⟩,fq0,fq1,fq2,fq3⟩:=uR.o.facts;simp only at r1 r2;cases b2
        ·have qq:jfb (hi'=hi):=ae yK.o
         have pG:=ae (uR.o.some HQ.o.1 HQ.o.2.1 HQ.o.2.2);have ts:=ae (aS.o.setCell (p:=⟨q1,2,none⟩) (jdG HQ.o.1) (.bool true));clear yK;go_wp2_with fail;go_roundw
         case rel=>exact cT.o _ _ c hi uU.o.symm xQ.o.symm qq.o.symm pG.o ts.o
         case measure=>exact Vq.o _ rfl
        ·have qq:jfb (hi'=c):=ae yK.o
         have pG:=ae ((uR.o.hi HQ.o.1 HQ.o.2.1 HQ.o.2.2 c).some HQ.o.1 HQ.o.2.1 HQ.o.2.2);have ts:=ae ((set3 aS.o (jdG (jdW (jdW HQ.o.1 HQ.o.2.1) HQ.o.2.2)) (.int .u8 (c.1:Int)) (.int .i64 c.2.1) (.string (am c.2.2))).setCell (p:=⟨q1,2,none⟩) (jdG HQ.o.1) (.bool true));clear yK;go_wp2_with fail;go_roundw
         case rel=>exact cT.o _ _ c c uU.o.symm xQ.o.symm qq.o.symm pG.o ts.o
         case measure=>exact Vq.o _ rfl
    ·have uU:jfb (cl'=cl):=ae (by
      have:¬ c.1=3:=fun h=>by rw[h]at h3;simp at h3
      rw[nf.o];simp[this])
     have sk:=jd;have bN:=aO;have Qa:=mY;clear jd aO mY;cases so
     ·have LK:jfb (lo'=c):=ae (by rw[uJ.o,jdf (Or.inl rfl)])
      have yK:jfb (hi'=c):=ae (by rw[ZO.o,jdf (Or.inl rfl)]);have pG:=ae (((sk.o.lo HQ.o.1 HQ.o.2.1 HQ.o.2.2 c).hi HQ.o.1 HQ.o.2.1 HQ.o.2.2 c).some HQ.o.1 HQ.o.2.1 HQ.o.2.2);have ts:=ae ((set3 (set3 bN.o (jdG (jdW HQ.o.1 HQ.o.2.1)) (.int .u8 (c.1:Int)) (.int .i64 c.2.1) (.string (am c.2.2))) (jdG (jdW (jdW HQ.o.1 HQ.o.2.1) HQ.o.2.2)) (.int .u8 (c.1:Int)) (.int .i64 c.2.1) (.string (am c.2.2))).setCell (p:=⟨q1,2,none⟩) (jdG HQ.o.1) (.bool true));clear uJ ZO;go_wp2_with fail;go_roundw
      case rel=>exact cT.o _ _ c c uU.o.symm LK.o.symm yK.o.symm pG.o ts.o
      case measure=>exact Vq.o _ rfl
     ·have LK:jfb (lo'=if decide (cQ c lo<0)=true then c else lo):=ae (by rw[uJ.o];simp)
      have yK:jfb (hi'=if decide (cQ hi c<0)=true then c else hi):=ae (by rw[ZO.o];simp);clear uJ ZO;generalize decide (cQ c lo<0)=b1 at *;generalize decide (cQ hi c<0)=b2 at *;go_wp2_with fail;refine(YX.o _).mono ?_;rintro e w4 ⟨rfl,bw⟩;have Aq:=ae (sk.o.kept bw);have ce:=ae (ai bN.o bw);have xP:=ae (Qa.o.kept bw);clear bw sk bN Qa d0 d1 d2 r1 r2 l0 l1 l2 m0 m1 m2 fq0 fq1 fq2 fq3;obtain⟨⟨d0,d1,d2⟩,_,_⟩:=xP.o.facts;obtain⟨⟨r1,r2,_⟩,⟨l0,l1,l2⟩,⟨m0,m1,m2⟩,fq0,fq1,fq2,fq3⟩:=Aq.o.facts;simp only at r1 r2;cases b1
      ·have xQ:jfb (lo'=lo):=ae LK.o
       clear LK;go_wp2_with fail;refine(HL2.o _).mono ?_;rintro e w5 ⟨rfl,br⟩;have uR:=ae (Aq.o.kept br);have aS:=ae (ai ce.o br);have KL:=ae (xP.o.kept br);clear br Aq ce xP d0 d1 d2 r1 r2 l0 l1 l2 m0 m1 m2 fq0 fq1 fq2 fq3;obtain⟨⟨d0,d1,d2⟩,_,_⟩:=KL.o.facts;obtain⟨⟨r1,r2,_⟩,⟨l0,l1,l2⟩,⟨m0,m1,m2⟩,fq0,fq1,fq2,fq3⟩:=uR.o.facts;simp only at r1 r2;cases b2
       ·have qq:jfb (hi'=hi):=ae yK.o
        have pG:=ae (uR.o.some HQ.o.1 HQ.o.2.1 HQ.o.2.2);have ts:=ae (aS.o.setCell (p:=⟨q1,2,none⟩) (jdG HQ.o.1) (.bool true));clear yK;go_wp2_with fail;go_roundw
        case rel=>exact cT.o _ _ lo hi uU.o.symm xQ.o.symm qq.o.symm pG.o ts.o
        case measure=>exact Vq.o _ rfl
       ·have qq:jfb (hi'=c):=ae yK.o
        have pG:=ae ((uR.o.hi HQ.o.1 HQ.o.2.1 HQ.o.2.2 c).some HQ.o.1 HQ.o.2.1 HQ.o.2.2);have ts:=ae ((set3 aS.o (jdG (jdW (jdW HQ.o.1 HQ.o.2.1) HQ.o.2.2)) (.int .u8 (c.1:Int)) (.int .i64 c.2.1) (.string (am c.2.2))).setCell (p:=⟨q1,2,none⟩) (jdG HQ.o.1) (.bool true));clear yK;go_wp2_with fail;go_roundw
        case rel=>exact cT.o _ _ lo c uU.o.symm xQ.o.symm qq.o.symm pG.o ts.o
        case measure=>exact Vq.o _ rfl
      ·have xQ:jfb (lo'=c):=ae LK.o
       clear LK;go_wp2_with fail;have HR4':=ae (Aq.o.lo HQ.o.1 HQ.o.2.1 HQ.o.2.2 c);have HB4':=ae (set3 ce.o (jdG (jdW HQ.o.1 HQ.o.2.1)) (.int .u8 (c.1:Int)) (.int .i64 c.2.1) (.string (am c.2.2)));have HCN4':=ae (((xP.o.other n14 0 (.int .u8 (c.1:Int))).other n14 1 (.int .i64 c.2.1)).other n14 2 (.string (am c.2.2)));refine(HL2.o _).mono ?_;rintro e w5 ⟨rfl,br⟩;have uR:=ae (HR4'.o.kept br);have aS:=ae (ai HB4'.o br);have KL:=ae (HCN4'.o.kept br);clear br Aq ce xP HR4' HB4' HCN4' d0 d1 d2 r1 r2 l0 l1 l2 m0 m1 m2 fq0 fq1 fq2 fq3;obtain⟨⟨d0,d1,d2⟩,_,_⟩:=KL.o.facts;obtain⟨⟨r1,r2,_⟩,⟨l0,l1,l2⟩,⟨m0,m1,m2⟩,fq0,fq1,fq2,fq3⟩:=uR.o.facts;simp only at r1 r2;cases b2
       ·have qq:jfb (hi'=hi):=ae yK.o
        have pG:=ae (uR.o.some HQ.o.1 HQ.o.2.1 HQ.o.2.2);have ts:=ae (aS.o.setCell (p:=⟨q1,2,none⟩) (jdG HQ.o.1) (.bool true));clear yK;go_wp2_with fail;go_roundw
        case rel=>exact cT.o _ _ c hi uU.o.symm xQ.o.symm qq.o.symm pG.o ts.o
        case measure=>exact Vq.o _ rfl
       ·have qq:jfb (hi'=c):=ae yK.o
        have pG:=ae ((uR.o.hi HQ.o.1 HQ.o.2.1 HQ.o.2.2 c).some HQ.o.1 HQ.o.2.1 HQ.o.2.2);have ts:=ae ((set3 aS.o (jdG (jdW (jdW HQ.o.1 HQ.o.2.1) HQ.o.2.2)) (.int .u8 (c.1:Int)) (.int .i64 c.2.1) (.string (am c.2.2))).setCell (p:=⟨q1,2,none⟩) (jdG HQ.o.1) (.bool true));clear yK;go_wp2_with fail;go_roundw
        case rel=>exact cT.o _ _ c c uU.o.symm xQ.o.symm qq.o.symm pG.o ts.o
        case measure=>exact Vq.o _ rfl
  ·obtain rfl:j=cs.length:=by omega
   rw[jdp]at HR ⊢;have gL:¬ ((cs.length:Nat):Int)<(cs.length:Int):=(by omega);have HNL:jfb ((aZ cs).length<=cs.length):=ae (jeR _ _)
   have HDF:jfb (fN cs=if soM (aZ cs)=false then ⟨cs.length,(cs.length:Int)-((aZ cs).length:Nat),false,false,nul,nul⟩
    else if (leM (aZ cs)).1=3 then (if ckM (aZ cs)=false then ⟨cs.length,(cs.length:Int)-((aZ cs).length:Nat),true,false,((leM (aZ cs)).1,(leM (aZ cs)).2.1,[]),nul⟩
     else match dX (lb (am (moM (aZ cs)).2.2)) 4 with
      | none=>⟨cs.length,(cs.length:Int)-((aZ cs).length:Nat),true,false,((leM (aZ cs)).1,(leM (aZ cs)).2.1,nb (bW (lb (am (leM (aZ cs)).2.2)) 4)),nul⟩
      | some a=>⟨cs.length,(cs.length:Int)-((aZ cs).length:Nat),true,true,((leM (aZ cs)).1,(leM (aZ cs)).2.1,nb (bW (lb (am (leM (aZ cs)).2.2)) 4)),((moM (aZ cs)).1,(moM (aZ cs)).2.1,nb a)⟩)
    else ⟨cs.length,(cs.length:Int)-((aZ cs).length:Nat),true,true,leM (aZ cs),moM (aZ cs)⟩):=ae rfl
   have PC:jfb (∀ c∈aZ cs,aV c):=ae (fun c hc=>HF.o c (by unfold aZ at hc;exact(je2.1 hc).1))
   have LG:jfb (aV (leM (aZ cs))):=ae (by
    have:=PC.o;cases hn:aZ cs with
    | nil=>exact Or.inl rfl
    | cons x r=>rw[hn]at this;exact lU (this x (by simp)) (fun c hc=>this c (by simp[hc])))
   have lD:jfb (aV (moM (aZ cs))):=ae (by
    have:=PC.o;cases hn:aZ cs with
    | nil=>exact Or.inl rfl
    | cons x r=>rw[hn]at this;exact nJ (this x (by simp)) (fun c hc=>this c (by simp[hc])))
   generalize ckM (aZ cs)=ck at *;generalize soM (aZ cs)=so at *;generalize leM (aZ cs)=lo at *;generalize moM (aZ cs)=hi at *;generalize (cs.length:Int)-((aZ cs).length:Nat)=mm at *;obtain⟨n1,n2,n3,n4,n5,n6,n7,n8,n9,n10,n11,n12⟩:=Qj.o;cases so
   ·have yI:jfb (fN cs=⟨cs.length,mm,false,false,nul,nul⟩):=ae (by rw[HDF.o,jdf rfl])
    obtain⟨_,⟨r0,r1,r2,r3⟩,⟨r4,r5,r6⟩,r7,r8,r9⟩:=HR.o.2.1.at;obtain⟨_,⟨z0,z1,z2,z3⟩,⟨z4,z5,z6⟩,z7,z8,z9⟩:=HR.o.1.at;obtain⟨_,_,_,fq0,fq1,fq2,fq3⟩:=HR.o.facts;simp only[jdK]at r0 r1 r2 r3 r4 r5 r6 r7 r8 r9 z0 z1 z2 z3 z4 z5 z6 z7 z8 z9;clear HDF;go_wp2_with fail;refine bodyPost_ret (v:=.agg #[.int .i64 (cs.length:Int),.int .i64 mm,.bool false,.bool false,.int .u8 0,.int .i64 0,.string ⟨#[]⟩,.int .u8 0,.int .i64 0,.string ⟨#[]⟩]) (by simp[results,Tryz.results25,go_sem,nul,iQ,z0,z1,z2,z3,z4,z5,z6,z7,z8,z9]) rfl ⟨?_,?_⟩
    ·rw[yI.o]
     rfl
    ·have:=HQ.o
     repeat refine fq ?_ (by omega) _ _
     exact HB.o
   ·by_cases h3:lo.1=3
    ·have h3':((lo.1:Int)==3)=true:=by rw[h3];rfl
     have PB:=ae (AR (am lo.2.2) 4 (by have:=LG.o.short;omega));have Zf:=ae (Be (am hi.2.2) 4 (by have:=lD.o.short;omega))
     have yI:jfb (fN cs=if ck=false then ⟨cs.length,mm,true,false,(lo.1,lo.2.1,[]),nul⟩ else match dX (lb (am hi.2.2)) 4 with
      | none=>⟨cs.length,mm,true,false,(lo.1,lo.2.1,nb (bW (lb (am lo.2.2)) 4)),nul⟩
      | some a=>⟨cs.length,mm,true,true,(lo.1,lo.2.1,nb (bW (lb (am lo.2.2)) 4)),(hi.1,hi.2.1,nb a)⟩):=ae (by rw[HDF.o,jde (by simp),jdf h3])
     obtain⟨⟨r1,r2,r3⟩,⟨l0,l1,l2⟩,_,fq0,fq1,fq2,fq3⟩:=HR.o.facts;simp only at r1 r2 r3;clear h3 HDF;go_wp2_with fail;have HR':=ae (HR.o.high HQ.o.1 HQ.o.2.1 HQ.o.2.2 true);have HB':=ae (HB.o.setCell (p:=⟨q1,3,none⟩) (jdG HQ.o.1) (.bool true));refine(PB.o _).mono ?_;rintro e w3 ⟨⟨t,rfl,ht⟩,aQ⟩;have sk:=ae (HR'.o.kept aQ);have bN:=ae (ai HB'.o aQ);have Ci:=ae (Lk ht);clear aQ ht HR HB HR' HB' r1 r2 r3 l0 l1 l2 fq0 fq1 fq2 fq3;cases ck
     ·have ZP:jfb (fN cs=⟨cs.length,mm,true,false,(lo.1,lo.2.1,[]),nul⟩):=ae (by rw[yI.o,jdf rfl])
      clear yI;obtain⟨_,⟨r0,r1,r2,r3⟩,⟨r4,r5,r6⟩,r7,r8,r9⟩:=sk.o.2.1.at;obtain⟨_,⟨z0,z1,z2,z3⟩,⟨z4,z5,z6⟩,z7,z8,z9⟩:=sk.o.1.at;obtain⟨_,⟨l0,l1,l2⟩,⟨m0,m1,m2⟩,fq0,fq1,fq2,fq3⟩:=sk.o.facts;simp only[jdK]at r0 r1 r2 r3 r4 r5 r6 r7 r8 r9 z0 z1 z2 z3 z4 z5 z6 z7 z8 z9 l0 l1 l2 m0 m1 m2;go_wp2_with fail;refine bodyPost_ret (v:=.agg #[.int .i64 (cs.length:Int),.int .i64 mm,.bool true,.bool false,.int .u8 (lo.1:Int),.int .i64 lo.2.1,.string ⟨#[]⟩,.int .u8 0,.int .i64 0,.string ⟨#[]⟩]) (by simp[results,Tryz.results25,go_sem,nul,iQ,z0,z1,z2,z3,z4,z5,z6,z7,z8,z9,n1,n2,n3,n4,n5,n6,n7,n8,n9,n10,n11,n12]) rfl ⟨?_,?_⟩
      ·rw[ZP.o]
       rfl
      ·have:=HQ.o
       repeat refine fq ?_ (by omega) _ _
       exact bN.o
     ·have ZP:jfb (fN cs=match dX (lb (am hi.2.2)) 4 with
       | none=>⟨cs.length,mm,true,false,(lo.1,lo.2.1,nb (bW (lb (am lo.2.2)) 4)),nul⟩
       | some a=>⟨cs.length,mm,true,true,(lo.1,lo.2.1,nb (bW (lb (am lo.2.2)) 4)),(hi.1,hi.2.1,nb a)⟩):=ae (by rw[yI.o,jde (by simp)])
      clear yI;rw[Ci.o];generalize nb (bW (lb (am lo.2.2)) 4)=fl at *;obtain⟨⟨r1,r2,r3⟩,⟨l0,l1,l2⟩,⟨m0,m1,m2⟩,fq0,fq1,fq2,fq3⟩:=sk.o.facts;simp only at r1 r2 r3;clear Ci;go_wp2_with fail;have HR3':=ae (sk.o.loS HQ.o.1 HQ.o.2.1 HQ.o.2.2 fl);have HB3':=ae (bN.o.setCell (p:=⟨q2,2,none⟩) (jdG (jdW HQ.o.1 HQ.o.2.1)) (.string (am fl)));refine(Zf.o _).mono ?_;rintro e w4 ⟨⟨t2,o,rfl,ho,Kd⟩,bw⟩;have Aq:=ae (HR3'.o.kept bw);have ce:=ae (ai HB3'.o bw);clear bw sk bN HR3' HB3' r1 r2 r3 l0 l1 l2 m0 m1 m2 fq0 fq1 fq2 fq3;cases Up:dX (lb (am hi.2.2)) 4 with
      | none =>
       rw[Up]at ZP ho;have ho':o=false:=ho;subst ho';have HD4:jfb (fN cs=⟨cs.length,mm,true,false,(lo.1,lo.2.1,fl),nul⟩):=ae ZP.o;clear Up ho Kd ZP;obtain⟨_,⟨r0,r1,r2,r3⟩,⟨r4,r5,r6⟩,r7,r8,r9⟩:=Aq.o.2.1.at;obtain⟨_,⟨z0,z1,z2,z3⟩,⟨z4,z5,z6⟩,z7,z8,z9⟩:=Aq.o.1.at;obtain⟨_,⟨l0,l1,l2⟩,⟨m0,m1,m2⟩,fq0,fq1,fq2,fq3⟩:=Aq.o.facts;simp only[jdK]at r0 r1 r2 r3 r4 r5 r6 r7 r8 r9 z0 z1 z2 z3 z4 z5 z6 z7 z8 z9 l0 l1 l2 m0 m1 m2;go_wp2_with fail;refine bodyPost_ret (v:=.agg #[.int .i64 (cs.length:Int),.int .i64 mm,.bool true,.bool false,.int .u8 (lo.1:Int),.int .i64 lo.2.1,.string (am fl),.int .u8 0,.int .i64 0,.string ⟨#[]⟩]) (by simp[results,Tryz.results25,go_sem,nul,iQ,z0,z1,z2,z3,z4,z5,z6,z7,z8,z9,n1,n2,n3,n4,n5,n6,n7,n8,n9,n10,n11,n12]) rfl ⟨?_,?_⟩
       ·rw[HD4.o]
        rfl
       ·have:=HQ.o
        repeat refine fq ?_ (by omega) _ _
        exact ce.o
      | some av =>
       rw[Up]at ZP ho Kd;have ho':o=true:=ho;subst ho';have HD4:jfb (fN cs=⟨cs.length,mm,true,true,(lo.1,lo.2.1,fl),(hi.1,hi.2.1,nb av)⟩):=ae ZP.o;have Ci:=ae (Lk (show lb t2=av from Kd));clear Up ho Kd ZP;obtain⟨_,⟨r0,r1,r2,r3⟩,⟨r4,r5,r6⟩,r7,r8,r9⟩:=Aq.o.2.1.at;obtain⟨_,⟨z0,z1,z2,z3⟩,⟨z4,z5,z6⟩,z7,z8,z9⟩:=Aq.o.1.at;obtain⟨_,⟨l0,l1,l2⟩,⟨m0,m1,m2⟩,fq0,fq1,fq2,fq3⟩:=Aq.o.facts;simp only[jdK]at r0 r1 r2 r3 r4 r5 r6 r7 r8 r9 z0 z1 z2 z3 z4 z5 z6 z7 z8 z9 l0 l1 l2 m0 m1 m2;go_wp2_with fail;refine bodyPost_ret (v:=.agg #[.int .i64 (cs.length:Int),.int .i64 mm,.bool true,.bool true,.int .u8 (lo.1:Int),.int .i64 lo.2.1,.string (am fl),.int .u8 (hi.1:Int),.int .i64 hi.2.1,.string t2]) (by simp[results,Tryz.results25,go_sem,nul,iQ,z0,z1,z2,z3,z4,z5,z6,z7,z8,z9,n1,n2,n3,n4,n5,n6,n7,n8,n9,n10,n11,n12]) rfl ⟨?_,?_⟩
       ·rw[HD4.o,Ci.o]
        rfl
       ·have:=HQ.o
        repeat refine fq ?_ (by omega) _ _
        exact ce.o
    ·have h3':((lo.1:Int)==3)=false:=jdt.2 (by omega)
     have yI:jfb (fN cs=⟨cs.length,mm,true,true,lo,hi⟩):=ae (by rw[HDF.o,jde (by simp),jde h3]);clear h3 HDF;obtain⟨_,⟨r0,r1,r2,r3⟩,⟨r4,r5,r6⟩,r7,r8,r9⟩:=HR.o.2.1.at;obtain⟨_,⟨z0,z1,z2,z3⟩,⟨z4,z5,z6⟩,z7,z8,z9⟩:=HR.o.1.at;obtain⟨_,⟨l0,l1,l2⟩,⟨m0,m1,m2⟩,fq0,fq1,fq2,fq3⟩:=HR.o.facts;simp only[jdK]at r0 r1 r2 r3 r4 r5 r6 r7 r8 r9 z0 z1 z2 z3 z4 z5 z6 z7 z8 z9 l0 l1 l2 m0 m1 m2;go_wp2_with fail;refine bodyPost_ret (v:=.agg #[.int .i64 (cs.length:Int),.int .i64 mm,.bool true,.bool true,.int .u8 (lo.1:Int),.int .i64 lo.2.1,.string (am lo.2.2),.int .u8 (hi.1:Int),.int .i64 hi.2.1,.string (am hi.2.2)]) (by simp[results,Tryz.results25,go_sem,nul,iQ,z0,z1,z2,z3,z4,z5,z6,z7,z8,z9,n1,n2,n3,n4,n5,n6,n7,n8,n9,n10,n11,n12]) rfl ⟨?_,?_⟩
     ·rw[yI.o]
      rfl
     ·have:=HQ.o
      repeat refine fq ?_ (by omega) _ _
      exact HB.o
theorem Lx:∀(r:List Cl) (m:Cl),fZ m r∈m::r
 | [],m=>by simp[fZ]
 | x::r,m=>by
  unfold fZ;have:=Lx r (if cQ x m<0 then x else m);rcases jdz.1 this with h | h
  ·rw[h]
   split
   ·simp
   ·simp
  ·simp[h]
theorem Ly:∀(r:List Cl) (m:Cl),eE m r∈m::r
 | [],m=>by simp[eE]
 | x::r,m=>by
  unfold eE;have:=Ly r (if 0<cQ x m then x else m);rcases jdz.1 this with h | h
  ·rw[h]
   split
   ·simp
   ·simp
  ·simp[h]
theorem JX{cs:List Cl}{k:Nat}(hf:∀ c∈cs,aV c)(hk:∀ c∈cs,c.1=k∨c=nul):fN cs=cy cs:=by
 have LN:∀ c∈aZ cs,aV c/\c.1=k:=fun c hc=>by
  unfold aZ at hc;obtain⟨h1,h2⟩:=je2.1 hc;refine⟨hf c h1,?_⟩;rcases hk c h1 with h | h
  ·exact h
  ·rw[h]at h2
   simp[nul]at h2
 unfold fN cy;cases hn:aZ cs with
 | nil=>simp[soM]
 | cons x r =>
  rw[hn]at LN;have Qq:=LN _ (Lx r x);have hma:=LN _ (Ly r x);rw[jde (by simp[soM])];show (if (fZ x r).1=3 then _ else _)=_
  rw[Qq.2];have e1:(leM (x::r))=fZ x r:=rfl;have e2:(moM (x::r))=eE x r:=rfl;rw[e1,e2];show _=(⟨cs.length,(cs.length:Int)-((x::r).length:Nat),true,(gr (eE x r) ((x::r).all eM)).2,nK (fZ x r) ((x::r).all eM),(gr (eE x r) ((x::r).all eM)).1⟩:Stt)
  by_cases h3:k=3
  ·rw[jdf h3]
   have dR:ckM (x::r)=(x::r).all eM:=by
    unfold ckM;rw[jeI,List.all_eq_true,List.all_eq_true];constructor
    ·intro h c hc
     have:=h c hc;have h4:=(LN c hc).2;rw[h4,h3]at this;simpa using this
    ·intro h c hc
     rw[h c hc];simp
   rw[dR];subst h3
   have hmz:(fZ x r).2.1=0/\(eE x r).2.1=0:=by
    constructor
    ·rcases Qq.1 with h | ⟨n,h,_⟩ | ⟨n,h,_⟩ | ⟨s,h,_⟩
     ·rw[h];rfl
     ·have:=Qq.2;rw[h]at this;simp at this
     ·have:=Qq.2;rw[h]at this;simp at this
     ·rw[h]
    ·rcases hma.1 with h | ⟨n,h,_⟩ | ⟨n,h,_⟩ | ⟨s,h,_⟩
     ·rw[h];rfl
     ·have:=hma.2;rw[h]at this;simp at this
     ·have:=hma.2;rw[h]at this;simp at this
     ·rw[h]
   have el:∀ cl,nK (fZ x r) cl=if cl=false then (3,0,[]) else (3,0,nb (bW (lb (am (fZ x r).2.2)) 4)):=fun cl=>by
    unfold nK;rw[Qq.2,hmz.1];cases cl
    ·rw[jdf ⟨rfl,rfl⟩,jdf rfl]
    ·rw[jde (by simp),jde (by simp)]
   have eh:∀ cl,gr (eE x r) cl=match gI (lb (am (eE x r).2.2)) 4 with
    | none=>(nul,false)
    | some a=>if cl=true then ((3,0,nb a),true) else (nul,false):=fun cl=>by
    unfold gr;rw[jdf hma.2];cases gI (lb (am (eE x r).2.2)) 4<;>rfl
   rw[el,eh,Qq.2,hma.2,hmz.1,hmz.2,← wU];cases hc:(x::r).all eM
   ·rw[jdf rfl,jdf rfl]
    cases gI (lb (am (eE x r).2.2)) 4<;>rfl
   ·rw[jde (by simp),jde (by simp)]
    cases gI (lb (am (eE x r).2.2)) 4<;>rfl
  ·rw[jde h3]
   have ht:(fZ x r).2.2=[]:=by
    rcases Qq.1 with h | ⟨n,h,_⟩ | ⟨n,h,_⟩ | ⟨s,h,_⟩
    ·rw[h];rfl
    ·rw[h]
    ·rw[h]
    ·have:=Qq.2;rw[h]at this;exact absurd this.symm h3
   have el:∀ cl,nK (fZ x r) cl=fZ x r:=fun cl=>by
    unfold nK;rw[jde (fun h=>h3 (Qq.2.symm.trans h.1)),ht];have h0:lb (am ([]:List Nat))=[]:=rfl;rw[h0];have h1:nb (bW [] 4)=[]:=by simp[bW,nb]
    rw[h1,← ht]
   have eh:∀ cl,gr (eE x r) cl=(eE x r,true):=fun cl=>by
    unfold gr;rw[jde (fun h=>h3 (hma.2.symm.trans h))]
   rw[el,eh]
end Go.Proofs.YtpljdjmpamjkhaaGreatDoor
