import Derived.Test.YtpljdjmpamjkhaaGreatDoorSax
set_option linter.all false
set_option maxRecDepth 100000
set_option maxHeartbeats 16000000
namespace Go.Proofs.YtpljdjmpamjkhaaGreatDoor
open Tryz
open Go.RowKit Go.Lib
def pp(a b:Cl)(w:World):Calls prog 61 #[.agg #[.int .u8 (a.1:Int),.int .i64 a.2.1,.string (bytesT a.2.2)],.agg #[.int .u8 (b.1:Int),.int .i64 b.2.1,.string (bytesT b.2.2)]] w λe w'=>e=.returned (.bool (decide (aD a b<0)))/\jgu w w':=by
 refine YU _ _ _ _ _ _ _ ?_ w;rw[ls_cv];have:=xA a b;show decide (aD a b=-1)=_
 rcases this with h | h | h
 ·rw[h];rfl
 ·rw[h];rfl
 ·rw[h];rfl
def AE:∀(r:List Cl) (m c:Cl),eG m (r++[c])=if aD c (eG m r)<0 then c else eG m r
 | [],m,c=>rfl
 | x::r,m,c=>by
  rw[je5,eG,AE r,eG]
def AF:∀(r:List Cl) (m c:Cl),dt m (r++[c])=if 0<aD c (dt m r) then c else dt m r
 | [],m,c=>rfl
 | x::r,m,c=>by
  rw[je5,dt,AF r,dt]
def soM(ns:List Cl):Bool:=!ns.isEmpty
def leM:List Cl->Cl
 | []=>nul
 | x::r=>eG x r
def moM:List Cl->Cl
 | []=>nul
 | x::r=>dt x r
def ckM(ns:List Cl):Bool:=ns.all λc=>!decide (c.1=3) || ex c
def VW(ns:List Cl)(c:Cl):ckM (ns++[c])=(ckM ns && (!decide (c.1=3) || ex c)):=by simp[ckM]
def VX(ns:List Cl)(c:Cl):soM (ns++[c])=true:=by simp[soM]
def VY(ns:List Cl)(c:Cl):leM (ns++[c])=if soM ns=false∨aD c (leM ns)<0 then c else leM ns:=by
 cases ns with
 | nil=>rfl
 | cons x r =>
  show eG x (r++[c])=_
  rw[AE];simp[soM,leM]
def VZ(ns:List Cl)(c:Cl):moM (ns++[c])=if soM ns=false∨aD (moM ns) c<0 then c else moM ns:=by
 cases ns with
 | nil=>rfl
 | cons x r =>
  show dt x (r++[c])=_
  rw[AF];have h:=eM c (dt x r);by_cases h2:0<aD c (dt x r)
  ·rw[jey h2]
   have h4:soM (x::r)=false∨aD (moM (x::r)) c<0:=Or.inr (show aD (dt x r) c<0 by omega);rw[jey h4]
  ·rw[jex h2]
   have h4:¬ (soM (x::r)=false∨aD (moM (x::r)) c<0):=λh3=>by
    rcases h3 with h3 | h3
    ·simp[soM]at h3
    ·have h4:aD (dt x r) c<0:=h3
     omega
   rw[jex h4];rfl
def QG{cs:List Cl}{j:Nat}(h:j<cs.length)(h0:cs[j].1=0):aR (cs.take (j+1))=aR (cs.take j):=by
 unfold aR;rw[jeO h,jf9];simp[h0]
def QH{cs:List Cl}{j:Nat}(h:j<cs.length)(h0:cs[j].1≠0):aR (cs.take (j+1))=aR (cs.take j)++[cs[j]]:=by
 unfold aR;rw[jeO h,jf9];simp[h0]
def Rw(W:World)(q0 q1 q2 q3:Nat)(st:Stt)(lo hi:Cl):Prop :=
 Stb W q0 stZ/\Stb W q1 st/\Ceb W q2 (.int .u8 (lo.1:Int)) (.int .i64 lo.2.1) (.string (bytesT lo.2.2))/\Ceb W q3 (.int .u8 (hi.1:Int)) (.int .i64 hi.2.1) (.string (bytesT hi.2.2))
def Rw.kept{W X:World}{q0 q1 q2 q3:Nat}{st:Stt}{lo hi:Cl}(h:Rw W q0 q1 q2 q3 st lo hi)(hb:jgu W X):Rw X q0 q1 q2 q3 st lo hi:=⟨h.1.kept hb,h.2.1.kept hb,h.2.2.1.kept hb,h.2.2.2.kept hb⟩
def Ceb.other{W:World}{p q:Nat}{x y z:Value}(h:Ceb W q x y z)(hn:q≠p)(i:Nat)(v:Value):Ceb (W.setCell ⟨p,i,none⟩ v) q x y z:=by
 unfold Ceb at *;rw[heap_setCell_other _ ⟨p,i,none⟩ q _ hn];exact h
def Ceb.put{W:World}{p:Nat}{x y z:Value}(h:Ceb W p x y z)(x' y' z':Value):Ceb (((W.setCell ⟨p,0,none⟩ x').setCell ⟨p,1,none⟩ y').setCell ⟨p,2,none⟩ z') p x' y' z':=by
 unfold Ceb at *;rw[aT (aT (aT h 0 _) 1 _) 2 _];rfl
def Ceb.put2{W:World}{p:Nat}{x y z:Value}(h:Ceb W p x y z)(z':Value):Ceb (W.setCell ⟨p,2,none⟩ z') p x y z':=by
 unfold Ceb at *;rw[aT h 2 _];rfl
def Rw.nulls{W:World}{q0 q1 q2 q3:Nat}{st:Stt}{lo hi:Cl}(h:Rw W q0 q1 q2 q3 st lo hi)(h0:q0<q1)(h1:q1<q2)(h2:q2<q3)(m:Int):Rw (W.setCell ⟨q1,1,none⟩ (.int .i64 m)) q0 q1 q2 q3 {st with nulls:=m} lo hi:=by
 refine⟨h.1.other (by omega) _ _,?_,h.2.2.1.other (by omega) _ _,h.2.2.2.other (by omega) _ _⟩;have:=h.2.1;unfold Stb at *;rw[aT this 1 _];rfl
def Rw.some{W:World}{q0 q1 q2 q3:Nat}{st:Stt}{lo hi:Cl}(h:Rw W q0 q1 q2 q3 st lo hi)(h0:q0<q1)(h1:q1<q2)(h2:q2<q3):Rw (W.setCell ⟨q1,2,none⟩ (.bool true)) q0 q1 q2 q3 {st with some:=true} lo hi:=by
 refine⟨h.1.other (by omega) _ _,?_,h.2.2.1.other (by omega) _ _,h.2.2.2.other (by omega) _ _⟩;have:=h.2.1;unfold Stb at *;rw[aT this 2 _];rfl
def Rw.high{W:World}{q0 q1 q2 q3:Nat}{st:Stt}{lo hi:Cl}(h:Rw W q0 q1 q2 q3 st lo hi)(h0:q0<q1)(h1:q1<q2)(h2:q2<q3)(b:Bool):Rw (W.setCell ⟨q1,3,none⟩ (.bool b)) q0 q1 q2 q3 {st with high:=b} lo hi:=by
 refine⟨h.1.other (by omega) _ _,?_,h.2.2.1.other (by omega) _ _,h.2.2.2.other (by omega) _ _⟩;have:=h.2.1;unfold Stb at *;rw[aT this 3 _];rfl
def Rw.lo{W:World}{q0 q1 q2 q3:Nat}{st:Stt}{lo hi:Cl}(h:Rw W q0 q1 q2 q3 st lo hi)(h0:q0<q1)(h1:q1<q2)(h2:q2<q3)(c:Cl):Rw (((W.setCell ⟨q2,0,none⟩ (.int .u8 (c.1:Int))).setCell ⟨q2,1,none⟩ (.int .i64 c.2.1)).setCell ⟨q2,2,none⟩ (.string (bytesT c.2.2))) q0 q1 q2 q3 st c hi :=
 ⟨((h.1.other (by omega) _ _).other (by omega) _ _).other (by omega) _ _,((h.2.1.other (by omega) _ _).other (by omega) _ _).other (by omega) _ _,h.2.2.1.put _ _ _,((h.2.2.2.other (by omega) _ _).other (by omega) _ _).other (by omega) _ _⟩
def Rw.hi{W:World}{q0 q1 q2 q3:Nat}{st:Stt}{lo hi:Cl}(h:Rw W q0 q1 q2 q3 st lo hi)(h0:q0<q1)(h1:q1<q2)(h2:q2<q3)(c:Cl):Rw (((W.setCell ⟨q3,0,none⟩ (.int .u8 (c.1:Int))).setCell ⟨q3,1,none⟩ (.int .i64 c.2.1)).setCell ⟨q3,2,none⟩ (.string (bytesT c.2.2))) q0 q1 q2 q3 st lo c :=
 ⟨((h.1.other (by omega) _ _).other (by omega) _ _).other (by omega) _ _,((h.2.1.other (by omega) _ _).other (by omega) _ _).other (by omega) _ _,((h.2.2.1.other (by omega) _ _).other (by omega) _ _).other (by omega) _ _,h.2.2.2.put _ _ _⟩
def Rw.loS{W:World}{q0 q1 q2 q3:Nat}{st:Stt}{lo hi:Cl}(h:Rw W q0 q1 q2 q3 st lo hi)(h0:q0<q1)(h1:q1<q2)(h2:q2<q3)(s:List Nat):Rw (W.setCell ⟨q2,2,none⟩ (.string (bytesT s))) q0 q1 q2 q3 st (lo.1,lo.2.1,s) hi :=
 ⟨h.1.other (by omega) _ _,h.2.1.other (by omega) _ _,h.2.2.1.put2 _,h.2.2.2.other (by omega) _ _⟩
def Rw.facts{W:World}{q0 q1 q2 q3:Nat}{st:Stt}{lo hi:Cl}(h:Rw W q0 q1 q2 q3 st lo hi) :
  (W.cell? ⟨q1,1,none⟩=Option.some (.int .i64 st.nulls)/\W.cell? ⟨q1,2,none⟩=Option.some (.bool st.some)/\W.cell? ⟨q1,3,none⟩=Option.some (.bool st.high)) /\
  (W.cell? ⟨q2,0,none⟩=Option.some (.int .u8 (lo.1:Int))/\W.cell? ⟨q2,1,none⟩=Option.some (.int .i64 lo.2.1)/\W.cell? ⟨q2,2,none⟩=Option.some (.string (bytesT lo.2.2))) /\
  (W.cell? ⟨q3,0,none⟩=Option.some (.int .u8 (hi.1:Int))/\W.cell? ⟨q3,1,none⟩=Option.some (.int .i64 hi.2.1)/\W.cell? ⟨q3,2,none⟩=Option.some (.string (bytesT hi.2.2))) /\
  (∀ i,W.frozen? ⟨q0,i,none⟩=false)/\(∀ i,W.frozen? ⟨q1,i,none⟩=false)/\(∀ i,W.frozen? ⟨q2,i,none⟩=false)/\(∀ i,W.frozen? ⟨q3,i,none⟩=false):=by
 obtain⟨_,⟨_,a1,a2,a3⟩,_⟩:=h.2.1.at;simp only[jeU]at a1 a2 a3;refine⟨⟨a1,a2,a3⟩,h.2.2.1.facts.1,h.2.2.2.facts.1,h.1.frozen,h.2.1.frozen,?_,?_⟩
 ·have:=h.2.2.1
  unfold Ceb at this;intro i;simp[World.frozen?,this]
 ·have:=h.2.2.2
  unfold Ceb at this;intro i;simp[World.frozen?,this]
def fH(cs:List Cl):Stt :=
 if soM (aR cs)=false then ⟨cs.length,(cs.length:Int)-((aR cs).length:Nat),false,false,nul,nul⟩
 else if (leM (aR cs)).1=3 then (if ckM (aR cs)=false then ⟨cs.length,(cs.length:Int)-((aR cs).length:Nat),true,false,((leM (aR cs)).1,(leM (aR cs)).2.1,[]),nul⟩
  else match df (lb (bytesT (moM (aR cs)).2.2)) 4 with
   | none=>⟨cs.length,(cs.length:Int)-((aR cs).length:Nat),true,false,((leM (aR cs)).1,(leM (aR cs)).2.1,nb (bE (lb (bytesT (leM (aR cs)).2.2)) 4)),nul⟩
   | some a=>⟨cs.length,(cs.length:Int)-((aR cs).length:Nat),true,true,((leM (aR cs)).1,(leM (aR cs)).2.1,nb (bE (lb (bytesT (leM (aR cs)).2.2)) 4)),((moM (aR cs)).1,(moM (aR cs)).2.1,nb a)⟩)
 else ⟨cs.length,(cs.length:Int)-((aR cs).length:Nat),true,true,leM (aR cs),moM (aR cs)⟩
def CD{w:World}{v:Value}{cs:List Cl}(hs:Sc w v cs)(hf:∀ c∈cs,aI c)(hl:cs.length<=1000):Calls prog 25 #[v] w λe w'=>e=.returned (xz (fH cs))/\jgu w w':=by
 have HF:=ae hf;have HL:=ae hl;obtain⟨a,cap,rfl,bg,bx⟩:=hs.form;have HS:=ae hs;clear hs hf hl bx;go_enter func25,ntmps25
 go_wp2_with fail;have bR:=Stb.new w stZ;have cy:=aj w (.cells #[.int .i64 0,.int .i64 0,.bool false,.bool false,.int .u8 0,.int .i64 0,.string ⟨#[]⟩,.int .u8 0,.int .i64 0,.string ⟨#[]⟩] 54);have s0:(w.alloc (.cells #[.int .i64 0,.int .i64 0,.bool false,.bool false,.int .u8 0,.int .i64 0,.string ⟨#[]⟩,.int .u8 0,.int .i64 0,.string ⟨#[]⟩] 54)).heap.size=w.heap.size+1:=jeB _ _;have hz0':Stb (w.alloc (.cells #[.int .i64 0,.int .i64 0,.bool false,.bool false,.int .u8 0,.int .i64 0,.string ⟨#[]⟩,.int .u8 0,.int .i64 0,.string ⟨#[]⟩] 54)) w.heap.size stZ:=bR;clear bR;generalize hA:w.alloc (.cells #[.int .i64 0,.int .i64 0,.bool false,.bool false,.int .u8 0,.int .i64 0,.string ⟨#[]⟩,.int .u8 0,.int .i64 0,.string ⟨#[]⟩] 54)=A at *;have bW:=Stb.new A ⟨cs.length,0,false,false,nul,nul⟩;have az:=aj A (.cells #[.int .i64 (cs.length:Int),.int .i64 0,.bool false,.bool false,.int .u8 0,.int .i64 0,.string ⟨#[]⟩,.int .u8 0,.int .i64 0,.string ⟨#[]⟩] 54);have s1:(A.alloc (.cells #[.int .i64 (cs.length:Int),.int .i64 0,.bool false,.bool false,.int .u8 0,.int .i64 0,.string ⟨#[]⟩,.int .u8 0,.int .i64 0,.string ⟨#[]⟩] 54)).heap.size=A.heap.size+1:=jeB _ _;have hz1':Stb (A.alloc (.cells #[.int .i64 (cs.length:Int),.int .i64 0,.bool false,.bool false,.int .u8 0,.int .i64 0,.string ⟨#[]⟩,.int .u8 0,.int .i64 0,.string ⟨#[]⟩] 54)) A.heap.size ⟨cs.length,0,false,false,nul,nul⟩:=bW;clear bW;generalize hB:A.alloc (.cells #[.int .i64 (cs.length:Int),.int .i64 0,.bool false,.bool false,.int .u8 0,.int .i64 0,.string ⟨#[]⟩,.int .u8 0,.int .i64 0,.string ⟨#[]⟩] 54)=B at *;have aX:=Ceb.new B (.int .u8 0) (.int .i64 0) (.string ⟨#[]⟩);have ap:=aj B (.cells #[.int .u8 0,.int .i64 0,.string ⟨#[]⟩] 52);have s2:(B.alloc (.cells #[.int .u8 0,.int .i64 0,.string ⟨#[]⟩] 52)).heap.size=B.heap.size+1:=jeB _ _;generalize hC:B.alloc (.cells #[.int .u8 0,.int .i64 0,.string ⟨#[]⟩] 52)=C at *;have gy:=Ceb.new C (.int .u8 0) (.int .i64 0) (.string ⟨#[]⟩);have aJ:=aj C (.cells #[.int .u8 0,.int .i64 0,.string ⟨#[]⟩] 52);have s3:(C.alloc (.cells #[.int .u8 0,.int .i64 0,.string ⟨#[]⟩] 52)).heap.size=C.heap.size+1:=jeB _ _;generalize hD:C.alloc (.cells #[.int .u8 0,.int .i64 0,.string ⟨#[]⟩] 52)=D at *;have GT:jgt (Rw D w.heap.size A.heap.size B.heap.size C.heap.size ⟨cs.length,0,false,false,nul,nul⟩ nul nul):=ae ⟨((hz0'.kept az).kept ap).kept aJ,(hz1'.kept ap).kept aJ,aX.kept aJ,gy⟩;have Df:=ae (ai (ai (ai cy az) ap) aJ);have e1:A.heap.size=w.heap.size+1:=s0;have e2:B.heap.size=w.heap.size+1+1:=by omega
 have e3:C.heap.size=w.heap.size+1+1+1:=by omega
 rw[e1,e2,e3]at GT;clear hz0' hz1' aX gy cy az ap aJ hA hB hC hD s0 s1 s2 s3 e1 e2 e3;obtain⟨q1,ng⟩:∃ q1,q1=w.heap.size+1:=⟨_,rfl⟩;obtain⟨q2,nc⟩:∃ q2,q2=w.heap.size+1+1:=⟨_,rfl⟩;obtain⟨q3,Ll⟩:∃ q3,q3=w.heap.size+1+1+1:=⟨_,rfl⟩;have HQ:jgt (w.heap.size<q1/\q1<q2/\q2<q3):=ae (by omega);rw[<- Ll,<- nc,<- ng]at GT;rw[<- Ll,<- nc,<- ng];clear ng nc Ll;go_loopw [6,7] (λck i wr=>∃ j:Nat,j<=cs.length/\i=.int .i64 (j:Int)/\ck=.bool (ckM (aR (cs.take j)))/\Rw wr w.heap.size q1 q2 q3 ⟨cs.length,(j:Int)-((aR (cs.take j)).length:Nat),soM (aR (cs.take j)),false,nul,nul⟩ (leM (aR (cs.take j))) (moM (aR (cs.take j)))/\jgu w wr) (λ_ i _=>cs.length-(intOf i).toNat)
 case atStart=>exact⟨0,by omega,rfl,rfl,GT.o,Df.o⟩
 case round =>
  obtain⟨j,hj,rfl,rfl,hrw,ao⟩:=hrel;have HR:=ae hrw;have HB:=ae ao;have bF:=ao.size;have ML:jgt (¬ q1=w.heap.size/\¬ w.heap.size=q1/\¬ q2=w.heap.size/\¬ w.heap.size=q2/\¬ q3=w.heap.size/\¬ w.heap.size=q3/\¬ q1=q2/\¬ q2=q1/\¬ q1=q3/\¬ q3=q1/\¬ q2=q3/\¬ q3=q2):=ae (by have:=HQ.o;omega);clear hrw ao GT Df;by_cases ar:j<cs.length
  ·have hlt':(j:Int)<(cs.length:Int):=by omega
   have HJ1:jgt (j+1<=cs.length):=ae ar
   have HWJ:jgt (Value.int .i64 (wrap64 ((j:Int)+1))=Value.int .i64 ((j+1:Nat):Int)):=ae (by
    have:=HL.o;have hw:wrap64 ((j:Int)+1)=(j:Int)+1:=by unfold wrap64;omega
    rw[hw];rfl)
   have Xr:jgt (∀ k,intOf (.int .i64 (wrap64 ((j:Int)+1)))=k->cs.length-k.toNat<cs.length-(intOf (.int .i64 (j:Int))).toNat):=ae (by
    intro k hk;have:=HL.o;have hw:wrap64 ((j:Int)+1)=(j:Int)+1:=by unfold wrap64;omega
    rw[hw]at hk;simp only[intOf]at hk ⊢;omega)
   obtain⟨g,off,rfl,hg,c0,c1,c2⟩:=(HS.o.kept (HB.o.mono (jeA _))).at ar;rw[gB]at c2;have HX0:=ae (QG ar);have WJ:=ae (QH ar)
   have HNL:jgt ((aR (cs.take j)).length<=j):=ae (by
    have:=jgd (λc:Cl=>!decide (c.1=0)) (cs.take j);rw[jeH]at this;unfold aR;omega)
   have Dh:=ae (HF.o cs[j] (jeD ar));generalize hns:aR (cs.take j)=ns at *;generalize hns2:aR (cs.take (j+1))=ns2 at *;have mV:=ae hns2;clear hns hns2;generalize cs[j]=c at *;have vI:=Ceb.new wr (.int .u8 (c.1:Int)) (.int .i64 c.2.1) (.string (bytesT c.2.2));have ap:=aj wr (.cells #[.int .u8 (c.1:Int),.int .i64 c.2.1,.string (bytesT c.2.2)] 52);have fZ:=ae (HR.o.kept ap);have aG:=ae (ai HB.o ap);have ix:=ae vI;clear vI ap;obtain⟨⟨d0,d1,d2⟩,_,_⟩:=ix.o.facts;obtain⟨⟨r1,r2,_⟩,⟨l0,l1,l2⟩,⟨m0,m1,m2⟩,fq0,fq1,fq2,fq3⟩:=fZ.o.facts;obtain⟨n1,n2,n3,n4,n5,n6,n7,n8,n9,n10,n11,n12⟩:=ML.o;simp only at r1 r2;have h8:q3<wr.heap.size:=HR.o.2.2.2.facts.2.2;have n13:¬ wr.heap.size=q1:=by have:=HQ.o;omega
   have n14:¬ wr.heap.size=q2:=by have:=HQ.o;omega
   have n15:¬ wr.heap.size=q3:=by have:=HQ.o;omega
   have n16:¬ q1=wr.heap.size:=by have:=HQ.o;omega
   have n17:¬ q2=wr.heap.size:=by have:=HQ.o;omega
   have n18:¬ q3=wr.heap.size:=by have:=HQ.o;omega
   clear h8;generalize hW:wr.alloc (.cells #[.int .u8 (c.1:Int),.int .i64 c.2.1,.string (bytesT c.2.2)] 52)=W at *;by_cases sE:c.1=0
   ·have hc0':((c.1:Int)==0)=true:=by rw[sE];rfl
    have hx:=HX0.o sE;clear HX0 WJ;subst hx;have RG:wrap64 ((j:Int)-(ns2.length:Int)+1)=(j:Int)-(ns2.length:Int)+1:=by have:=HL.o;have:=HNL.o;unfold wrap64;omega
    have jL:=ae (fZ.o.nulls HQ.o.1 HQ.o.2.1 HQ.o.2.2 ((j:Int)-(ns2.length:Int)+1));have aY:=ae (aG.o.setCell (p:=⟨q1,1,none⟩) (jeV HQ.o.1) (.int .i64 ((j:Int)-(ns2.length:Int)+1)));clear sE;go_wp2_with fail;go_roundw
    case rel =>
     refine⟨j+1,HJ1.o,HWJ.o,by rw[mV.o],?_,aY.o⟩;have:=jL.o;rw[mV.o,show ((j+1:Nat):Int)-(ns2.length:Int)=(j:Int)-(ns2.length:Int)+1 by omega];exact this
    case measure=>exact Xr.o _ rfl
   ·have hc0':((c.1:Int)==0)=false:=jeF.2 (by omega)
    have hx:=WJ.o sE;clear HX0 WJ
    have cF:jgt (∀(X:World) (cl:Bool) (lo hi:Cl),cl=ckM (ns++[c])->lo=leM (ns++[c])->hi=moM (ns++[c])->Rw X w.heap.size q1 q2 q3 ⟨cs.length,(j:Int)-(ns.length:Nat),true,false,nul,nul⟩ lo hi->jgu w X ->
      ∃ j1:Nat,j1<=cs.length/\Value.int .i64 (wrap64 ((j:Int)+1))=.int .i64 (j1:Int)/\Value.bool cl=.bool (ckM (aR (cs.take j1)))/\Rw X w.heap.size q1 q2 q3 ⟨cs.length,(j1:Int)-((aR (cs.take j1)).length:Nat),soM (aR (cs.take j1)),false,nul,nul⟩ (leM (aR (cs.take j1))) (moM (aR (cs.take j1)))/\jgu w X):=ae (by
     intro X cl lo hi e1 e2 e3 h1 h2;refine⟨j+1,HJ1.o,HWJ.o,by rw[mV.o,e1,hx],?_,h2⟩;rw[mV.o,hx,VX,<- e2,<- e3,jeC,show ((j+1:Nat):Int)-((ns.length+[c].length:Nat):Int)=(j:Int)-(ns.length:Int) by simp only[jeI,jeZ];omega];exact h1)
    have lE:jgt (ckM (ns++[c])=(ckM ns && (!decide (c.1=3) || ex c))):=ae (VW ns c);have sG:jgt (leM (ns++[c])=if soM ns=false∨aD c (leM ns)<0 then c else leM ns):=ae (VY ns c);have HMO:jgt (moM (ns++[c])=if soM ns=false∨aD (moM ns) c<0 then c else moM ns):=ae (VZ ns c);have HSG:=ae (iL (bytesT c.2.2) (by have:=Dh.o.short;omega));have HL1:=ae (pp c (leM ns));have RY:=ae (pp (moM ns) c);have oM:jgt (w.heap.size<=wr.heap.size):=ae bF;clear sE hx mV;generalize MO:soM ns=so at *;generalize leM ns=lo at *;generalize moM ns=hi at *;generalize ckM ns=cl at *;generalize ckM (ns++[c])=cl' at *;generalize leM (ns++[c])=lo' at *;generalize moM (ns++[c])=hi' at *;clear MO bF;generalize (j:Int)-(ns.length:Int)=mm at *;have yt:((c.1:Int)==3)=true∨((c.1:Int)==3)=false:=by cases ((c.1:Int)==3)<;>simp
    rcases yt with h3 | h3
    ·have mH:jgt (cl'=(cl && cX (lb (bytesT c.2.2)))):=ae (by
      have:c.1=3:=by have:=eq_of_beq h3;omega
      rw[lE.o,this];rfl)
     go_wp2_with fail;refine(HSG.o _).mono ?_;rintro e w2 ⟨⟨sa,sb,rfl,_,_⟩,aJ⟩;have jL:=ae (fZ.o.kept aJ);have aY:=ae (ai aG.o aJ);have Rx:=ae (ix.o.kept aJ);clear aJ fZ aG ix d0 d1 d2 r1 r2 l0 l1 l2 m0 m1 m2 fq0 fq1 fq2 fq3;obtain⟨⟨d0,d1,d2⟩,_,_⟩:=Rx.o.facts;obtain⟨⟨r1,r2,_⟩,⟨l0,l1,l2⟩,⟨m0,m1,m2⟩,fq0,fq1,fq2,fq3⟩:=jL.o.facts;simp only at r1 r2;generalize cX (lb (bytesT c.2.2))=ck at *;have vR:jgt (cl'=(if cl=true then ck else false)):=ae (by rw[mH.o];cases cl<;>rfl);clear mH;cases cl
     all_goals
      simp only[if_true,if_false,Bool.false_eq_true]at vR;cases so
      ·have MM:jgt (lo'=c):=ae (by rw[sG.o,jey (Or.inl rfl)])
       have zl:jgt (hi'=c):=ae (by rw[HMO.o,jey (Or.inl rfl)]);have pu:=ae (((jL.o.lo HQ.o.1 HQ.o.2.1 HQ.o.2.2 c).hi HQ.o.1 HQ.o.2.1 HQ.o.2.2 c).some HQ.o.1 HQ.o.2.1 HQ.o.2.2);have nW:=ae ((set3 (set3 aY.o (jeV (jff HQ.o.1 HQ.o.2.1)) (.int .u8 (c.1:Int)) (.int .i64 c.2.1) (.string (bytesT c.2.2))) (jeV (jff (jff HQ.o.1 HQ.o.2.1) HQ.o.2.2)) (.int .u8 (c.1:Int)) (.int .i64 c.2.1) (.string (bytesT c.2.2))).setCell (p:=⟨q1,2,none⟩) (jeV HQ.o.1) (.bool true));clear sG HMO;go_wp2_with fail;go_roundw
       case rel=>exact cF.o _ _ c c vR.o.symm MM.o.symm zl.o.symm pu.o nW.o
       case measure=>exact Xr.o _ rfl
      ·have MM:jgt (lo'=if decide (aD c lo<0)=true then c else lo):=ae (by rw[sG.o];simp)
       have zl:jgt (hi'=if decide (aD hi c<0)=true then c else hi):=ae (by rw[HMO.o];simp);clear sG HMO;generalize decide (aD c lo<0)=b1 at *;generalize decide (aD hi c<0)=b2 at *;go_wp2_with fail;refine(HL1.o _).mono ?_;rintro e w4 ⟨rfl,bD⟩;have sK:=ae (jL.o.kept bD);have cL:=ae (ai aY.o bD);have yk:=ae (Rx.o.kept bD);clear bD jL aY Rx d0 d1 d2 r1 r2 l0 l1 l2 m0 m1 m2 fq0 fq1 fq2 fq3;obtain⟨⟨d0,d1,d2⟩,_,_⟩:=yk.o.facts;obtain⟨⟨r1,r2,_⟩,⟨l0,l1,l2⟩,⟨m0,m1,m2⟩,fq0,fq1,fq2,fq3⟩:=sK.o.facts;simp only at r1 r2;cases b1
       ·have yl:jgt (lo'=lo):=ae MM.o
        clear MM;go_wp2_with fail;refine(RY.o _).mono ?_;rintro e w5 ⟨rfl,bQ⟩;have sy:=ae (sK.o.kept bQ);have bq:=ae (ai cL.o bQ);have Ly:=ae (yk.o.kept bQ);clear bQ sK cL yk d0 d1 d2 r1 r2 l0 l1 l2 m0 m1 m2 fq0 fq1 fq2 fq3;obtain⟨⟨d0,d1,d2⟩,_,_⟩:=Ly.o.facts;obtain⟨⟨r1,r2,_⟩,⟨l0,l1,l2⟩,⟨m0,m1,m2⟩,fq0,fq1,fq2,fq3⟩:=sy.o.facts;simp only at r1 r2;cases b2
        ·have qq:jgt (hi'=hi):=ae zl.o
         have pu:=ae (sy.o.some HQ.o.1 HQ.o.2.1 HQ.o.2.2);have nW:=ae (bq.o.setCell (p:=⟨q1,2,none⟩) (jeV HQ.o.1) (.bool true));clear zl;go_wp2_with fail;go_roundw
         case rel=>exact cF.o _ _ lo hi vR.o.symm yl.o.symm qq.o.symm pu.o nW.o
         case measure=>exact Xr.o _ rfl
        ·have qq:jgt (hi'=c):=ae zl.o
         have pu:=ae ((sy.o.hi HQ.o.1 HQ.o.2.1 HQ.o.2.2 c).some HQ.o.1 HQ.o.2.1 HQ.o.2.2);have nW:=ae ((set3 bq.o (jeV (jff (jff HQ.o.1 HQ.o.2.1) HQ.o.2.2)) (.int .u8 (c.1:Int)) (.int .i64 c.2.1) (.string (bytesT c.2.2))).setCell (p:=⟨q1,2,none⟩) (jeV HQ.o.1) (.bool true));clear zl;go_wp2_with fail;go_roundw
         case rel=>exact cF.o _ _ lo c vR.o.symm yl.o.symm qq.o.symm pu.o nW.o
         case measure=>exact Xr.o _ rfl
       ·have yl:jgt (lo'=c):=ae MM.o
        clear MM;go_wp2_with fail;have HR4':=ae (sK.o.lo HQ.o.1 HQ.o.2.1 HQ.o.2.2 c);have HB4':=ae (set3 cL.o (jeV (jff HQ.o.1 HQ.o.2.1)) (.int .u8 (c.1:Int)) (.int .i64 c.2.1) (.string (bytesT c.2.2)));have HCN4':=ae (((yk.o.other n14 0 (.int .u8 (c.1:Int))).other n14 1 (.int .i64 c.2.1)).other n14 2 (.string (bytesT c.2.2)));refine(RY.o _).mono ?_;rintro e w5 ⟨rfl,bQ⟩;have sy:=ae (HR4'.o.kept bQ);have bq:=ae (ai HB4'.o bQ);have Ly:=ae (HCN4'.o.kept bQ);clear bQ sK cL yk HR4' HB4' HCN4' d0 d1 d2 r1 r2 l0 l1 l2 m0 m1 m2 fq0 fq1 fq2 fq3;obtain⟨⟨d0,d1,d2⟩,_,_⟩:=Ly.o.facts;obtain⟨⟨r1,r2,_⟩,⟨l0,l1,l2⟩,⟨m0,m1,m2⟩,fq0,fq1,fq2,fq3⟩:=sy.o.facts;simp only at r1 r2;cases b2
        ·have qq:jgt (hi'=hi):=ae zl.o
         have pu:=ae (sy.o.some HQ.o.1 HQ.o.2.1 HQ.o.2.2);have nW:=ae (bq.o.setCell (p:=⟨q1,2,none⟩) (jeV HQ.o.1) (.bool true));clear zl;go_wp2_with fail;go_roundw
         case rel=>exact cF.o _ _ c hi vR.o.symm yl.o.symm qq.o.symm pu.o nW.o
         case measure=>exact Xr.o _ rfl
        ·have qq:jgt (hi'=c):=ae zl.o
         have pu:=ae ((sy.o.hi HQ.o.1 HQ.o.2.1 HQ.o.2.2 c).some HQ.o.1 HQ.o.2.1 HQ.o.2.2);have nW:=ae ((set3 bq.o (jeV (jff (jff HQ.o.1 HQ.o.2.1) HQ.o.2.2)) (.int .u8 (c.1:Int)) (.int .i64 c.2.1) (.string (bytesT c.2.2))).setCell (p:=⟨q1,2,none⟩) (jeV HQ.o.1) (.bool true));clear zl;go_wp2_with fail;go_roundw
         case rel=>exact cF.o _ _ c c vR.o.symm yl.o.symm qq.o.symm pu.o nW.o
         case measure=>exact Xr.o _ rfl
    ·have vR:jgt (cl'=cl):=ae (by
      have:¬ c.1=3:=λh=>by rw[h]at h3;simp at h3
      rw[lE.o];simp[this])
     have jL:=fZ;have aY:=aG;have Rx:=ix;clear fZ aG ix;cases so
     ·have MM:jgt (lo'=c):=ae (by rw[sG.o,jey (Or.inl rfl)])
      have zl:jgt (hi'=c):=ae (by rw[HMO.o,jey (Or.inl rfl)]);have pu:=ae (((jL.o.lo HQ.o.1 HQ.o.2.1 HQ.o.2.2 c).hi HQ.o.1 HQ.o.2.1 HQ.o.2.2 c).some HQ.o.1 HQ.o.2.1 HQ.o.2.2);have nW:=ae ((set3 (set3 aY.o (jeV (jff HQ.o.1 HQ.o.2.1)) (.int .u8 (c.1:Int)) (.int .i64 c.2.1) (.string (bytesT c.2.2))) (jeV (jff (jff HQ.o.1 HQ.o.2.1) HQ.o.2.2)) (.int .u8 (c.1:Int)) (.int .i64 c.2.1) (.string (bytesT c.2.2))).setCell (p:=⟨q1,2,none⟩) (jeV HQ.o.1) (.bool true));clear sG HMO;go_wp2_with fail;go_roundw
      case rel=>exact cF.o _ _ c c vR.o.symm MM.o.symm zl.o.symm pu.o nW.o
      case measure=>exact Xr.o _ rfl
     ·have MM:jgt (lo'=if decide (aD c lo<0)=true then c else lo):=ae (by rw[sG.o];simp)
      have zl:jgt (hi'=if decide (aD hi c<0)=true then c else hi):=ae (by rw[HMO.o];simp);clear sG HMO;generalize decide (aD c lo<0)=b1 at *;generalize decide (aD hi c<0)=b2 at *;go_wp2_with fail;refine(HL1.o _).mono ?_;rintro e w4 ⟨rfl,bD⟩;have sK:=ae (jL.o.kept bD);have cL:=ae (ai aY.o bD);have yk:=ae (Rx.o.kept bD);clear bD jL aY Rx d0 d1 d2 r1 r2 l0 l1 l2 m0 m1 m2 fq0 fq1 fq2 fq3;obtain⟨⟨d0,d1,d2⟩,_,_⟩:=yk.o.facts;obtain⟨⟨r1,r2,_⟩,⟨l0,l1,l2⟩,⟨m0,m1,m2⟩,fq0,fq1,fq2,fq3⟩:=sK.o.facts;simp only at r1 r2;cases b1
      ·have yl:jgt (lo'=lo):=ae MM.o
       clear MM;go_wp2_with fail;refine(RY.o _).mono ?_;rintro e w5 ⟨rfl,bQ⟩;have sy:=ae (sK.o.kept bQ);have bq:=ae (ai cL.o bQ);have Ly:=ae (yk.o.kept bQ);clear bQ sK cL yk d0 d1 d2 r1 r2 l0 l1 l2 m0 m1 m2 fq0 fq1 fq2 fq3;obtain⟨⟨d0,d1,d2⟩,_,_⟩:=Ly.o.facts;obtain⟨⟨r1,r2,_⟩,⟨l0,l1,l2⟩,⟨m0,m1,m2⟩,fq0,fq1,fq2,fq3⟩:=sy.o.facts;simp only at r1 r2;cases b2
       ·have qq:jgt (hi'=hi):=ae zl.o
        have pu:=ae (sy.o.some HQ.o.1 HQ.o.2.1 HQ.o.2.2);have nW:=ae (bq.o.setCell (p:=⟨q1,2,none⟩) (jeV HQ.o.1) (.bool true));clear zl;go_wp2_with fail;go_roundw
        case rel=>exact cF.o _ _ lo hi vR.o.symm yl.o.symm qq.o.symm pu.o nW.o
        case measure=>exact Xr.o _ rfl
       ·have qq:jgt (hi'=c):=ae zl.o
        have pu:=ae ((sy.o.hi HQ.o.1 HQ.o.2.1 HQ.o.2.2 c).some HQ.o.1 HQ.o.2.1 HQ.o.2.2);have nW:=ae ((set3 bq.o (jeV (jff (jff HQ.o.1 HQ.o.2.1) HQ.o.2.2)) (.int .u8 (c.1:Int)) (.int .i64 c.2.1) (.string (bytesT c.2.2))).setCell (p:=⟨q1,2,none⟩) (jeV HQ.o.1) (.bool true));clear zl;go_wp2_with fail;go_roundw
        case rel=>exact cF.o _ _ lo c vR.o.symm yl.o.symm qq.o.symm pu.o nW.o
        case measure=>exact Xr.o _ rfl
      ·have yl:jgt (lo'=c):=ae MM.o
       clear MM;go_wp2_with fail;have HR4':=ae (sK.o.lo HQ.o.1 HQ.o.2.1 HQ.o.2.2 c);have HB4':=ae (set3 cL.o (jeV (jff HQ.o.1 HQ.o.2.1)) (.int .u8 (c.1:Int)) (.int .i64 c.2.1) (.string (bytesT c.2.2)));have HCN4':=ae (((yk.o.other n14 0 (.int .u8 (c.1:Int))).other n14 1 (.int .i64 c.2.1)).other n14 2 (.string (bytesT c.2.2)));refine(RY.o _).mono ?_;rintro e w5 ⟨rfl,bQ⟩;have sy:=ae (HR4'.o.kept bQ);have bq:=ae (ai HB4'.o bQ);have Ly:=ae (HCN4'.o.kept bQ);clear bQ sK cL yk HR4' HB4' HCN4' d0 d1 d2 r1 r2 l0 l1 l2 m0 m1 m2 fq0 fq1 fq2 fq3;obtain⟨⟨d0,d1,d2⟩,_,_⟩:=Ly.o.facts;obtain⟨⟨r1,r2,_⟩,⟨l0,l1,l2⟩,⟨m0,m1,m2⟩,fq0,fq1,fq2,fq3⟩:=sy.o.facts;simp only at r1 r2;cases b2
       ·have qq:jgt (hi'=hi):=ae zl.o
        have pu:=ae (sy.o.some HQ.o.1 HQ.o.2.1 HQ.o.2.2);have nW:=ae (bq.o.setCell (p:=⟨q1,2,none⟩) (jeV HQ.o.1) (.bool true));clear zl;go_wp2_with fail;go_roundw
        case rel=>exact cF.o _ _ c hi vR.o.symm yl.o.symm qq.o.symm pu.o nW.o
        case measure=>exact Xr.o _ rfl
       ·have qq:jgt (hi'=c):=ae zl.o
        have pu:=ae ((sy.o.hi HQ.o.1 HQ.o.2.1 HQ.o.2.2 c).some HQ.o.1 HQ.o.2.1 HQ.o.2.2);have nW:=ae ((set3 bq.o (jeV (jff (jff HQ.o.1 HQ.o.2.1) HQ.o.2.2)) (.int .u8 (c.1:Int)) (.int .i64 c.2.1) (.string (bytesT c.2.2))).setCell (p:=⟨q1,2,none⟩) (jeV HQ.o.1) (.bool true));clear zl;go_wp2_with fail;go_roundw
        case rel=>exact cF.o _ _ c c vR.o.symm yl.o.symm qq.o.symm pu.o nW.o
        case measure=>exact Xr.o _ rfl
  ·obtain rfl:j=cs.length:=by omega
   rw[jeJ]at HR ⊢;have ed:¬ ((cs.length:Nat):Int)<(cs.length:Int):=(by omega);have HNL:jgt ((aR cs).length<=cs.length):=ae (jgd _ _)
   have HDF:jgt (fH cs=if soM (aR cs)=false then ⟨cs.length,(cs.length:Int)-((aR cs).length:Nat),false,false,nul,nul⟩
    else if (leM (aR cs)).1=3 then (if ckM (aR cs)=false then ⟨cs.length,(cs.length:Int)-((aR cs).length:Nat),true,false,((leM (aR cs)).1,(leM (aR cs)).2.1,[]),nul⟩
     else match df (lb (bytesT (moM (aR cs)).2.2)) 4 with
      | none=>⟨cs.length,(cs.length:Int)-((aR cs).length:Nat),true,false,((leM (aR cs)).1,(leM (aR cs)).2.1,nb (bE (lb (bytesT (leM (aR cs)).2.2)) 4)),nul⟩
      | some a=>⟨cs.length,(cs.length:Int)-((aR cs).length:Nat),true,true,((leM (aR cs)).1,(leM (aR cs)).2.1,nb (bE (lb (bytesT (leM (aR cs)).2.2)) 4)),((moM (aR cs)).1,(moM (aR cs)).2.1,nb a)⟩)
    else ⟨cs.length,(cs.length:Int)-((aR cs).length:Nat),true,true,leM (aR cs),moM (aR cs)⟩):=ae rfl
   have WL:jgt (∀ c∈aR cs,aI c):=ae (λc hc=>HF.o c (by unfold aR at hc;exact(jfX.1 hc).1))
   have ql:jgt (aI (leM (aR cs))):=ae (by
    have:=WL.o;cases hn:aR cs with
    | nil=>exact Or.inl rfl
    | cons x r=>rw[hn]at this;exact kE (this x (by simp)) (λc hc=>this c (by simp[hc])))
   have lF:jgt (aI (moM (aR cs))):=ae (by
    have:=WL.o;cases hn:aR cs with
    | nil=>exact Or.inl rfl
    | cons x r=>rw[hn]at this;exact lS (this x (by simp)) (λc hc=>this c (by simp[hc])))
   generalize ckM (aR cs)=ck at *;generalize soM (aR cs)=so at *;generalize leM (aR cs)=lo at *;generalize moM (aR cs)=hi at *;generalize (cs.length:Int)-((aR cs).length:Nat)=mm at *;obtain⟨n1,n2,n3,n4,n5,n6,n7,n8,n9,n10,n11,n12⟩:=ML.o;cases so
   ·have na:jgt (fH cs=⟨cs.length,mm,false,false,nul,nul⟩):=ae (by rw[HDF.o,jey rfl])
    obtain⟨_,⟨r0,r1,r2,r3⟩,⟨r4,r5,r6⟩,r7,r8,r9⟩:=HR.o.2.1.at;obtain⟨_,⟨z0,z1,z2,z3⟩,⟨z4,z5,z6⟩,z7,z8,z9⟩:=HR.o.1.at;obtain⟨_,_,_,fq0,fq1,fq2,fq3⟩:=HR.o.facts;simp only[jeU]at r0 r1 r2 r3 r4 r5 r6 r7 r8 r9 z0 z1 z2 z3 z4 z5 z6 z7 z8 z9;clear HDF;go_wp2_with fail;refine bodyPost_ret (v:=.agg #[.int .i64 (cs.length:Int),.int .i64 mm,.bool false,.bool false,.int .u8 0,.int .i64 0,.string ⟨#[]⟩,.int .u8 0,.int .i64 0,.string ⟨#[]⟩]) (by simp[results,results25,go_sem,nul,dF,z0,z1,z2,z3,z4,z5,z6,z7,z8,z9]) rfl ⟨?_,?_⟩
    ·rw[na.o]
     rfl
    ·have:=HQ.o
     repeat refine fd ?_ (by omega) _ _
     exact HB.o
   ·by_cases h3:lo.1=3
    ·have h3':((lo.1:Int)==3)=true:=by rw[h3];rfl
     have GS:=ae (BB (bytesT lo.2.2) 4 (by have:=ql.o.short;omega));have HAB:=ae (BO (bytesT hi.2.2) 4 (by have:=lF.o.short;omega))
     have na:jgt (fH cs=if ck=false then ⟨cs.length,mm,true,false,(lo.1,lo.2.1,[]),nul⟩ else match df (lb (bytesT hi.2.2)) 4 with
      | none=>⟨cs.length,mm,true,false,(lo.1,lo.2.1,nb (bE (lb (bytesT lo.2.2)) 4)),nul⟩
      | some a=>⟨cs.length,mm,true,true,(lo.1,lo.2.1,nb (bE (lb (bytesT lo.2.2)) 4)),(hi.1,hi.2.1,nb a)⟩):=ae (by rw[HDF.o,jex (by simp),jey h3])
     obtain⟨⟨r1,r2,r3⟩,⟨l0,l1,l2⟩,_,fq0,fq1,fq2,fq3⟩:=HR.o.facts;simp only at r1 r2 r3;clear h3 HDF;go_wp2_with fail;have HR':=ae (HR.o.high HQ.o.1 HQ.o.2.1 HQ.o.2.2 true);have HB':=ae (HB.o.setCell (p:=⟨q1,3,none⟩) (jeV HQ.o.1) (.bool true));refine(GS.o _).mono ?_;rintro e w3 ⟨⟨t,rfl,ht⟩,aJ⟩;have jL:=ae (HR'.o.kept aJ);have aY:=ae (ai HB'.o aJ);have AP:=ae (Mf ht);clear aJ ht HR HB HR' HB' r1 r2 r3 l0 l1 l2 fq0 fq1 fq2 fq3;cases ck
     ·have XT:jgt (fH cs=⟨cs.length,mm,true,false,(lo.1,lo.2.1,[]),nul⟩):=ae (by rw[na.o,jey rfl])
      clear na;obtain⟨_,⟨r0,r1,r2,r3⟩,⟨r4,r5,r6⟩,r7,r8,r9⟩:=jL.o.2.1.at;obtain⟨_,⟨z0,z1,z2,z3⟩,⟨z4,z5,z6⟩,z7,z8,z9⟩:=jL.o.1.at;obtain⟨_,⟨l0,l1,l2⟩,⟨m0,m1,m2⟩,fq0,fq1,fq2,fq3⟩:=jL.o.facts;simp only[jeU]at r0 r1 r2 r3 r4 r5 r6 r7 r8 r9 z0 z1 z2 z3 z4 z5 z6 z7 z8 z9 l0 l1 l2 m0 m1 m2;go_wp2_with fail;refine bodyPost_ret (v:=.agg #[.int .i64 (cs.length:Int),.int .i64 mm,.bool true,.bool false,.int .u8 (lo.1:Int),.int .i64 lo.2.1,.string ⟨#[]⟩,.int .u8 0,.int .i64 0,.string ⟨#[]⟩]) (by simp[results,results25,go_sem,nul,dF,z0,z1,z2,z3,z4,z5,z6,z7,z8,z9,n1,n2,n3,n4,n5,n6,n7,n8,n9,n10,n11,n12]) rfl ⟨?_,?_⟩
      ·rw[XT.o]
       rfl
      ·have:=HQ.o
       repeat refine fd ?_ (by omega) _ _
       exact aY.o
     ·have XT:jgt (fH cs=match df (lb (bytesT hi.2.2)) 4 with
       | none=>⟨cs.length,mm,true,false,(lo.1,lo.2.1,nb (bE (lb (bytesT lo.2.2)) 4)),nul⟩
       | some a=>⟨cs.length,mm,true,true,(lo.1,lo.2.1,nb (bE (lb (bytesT lo.2.2)) 4)),(hi.1,hi.2.1,nb a)⟩):=ae (by rw[na.o,jex (by simp)])
      clear na;rw[AP.o];generalize nb (bE (lb (bytesT lo.2.2)) 4)=fl at *;obtain⟨⟨r1,r2,r3⟩,⟨l0,l1,l2⟩,⟨m0,m1,m2⟩,fq0,fq1,fq2,fq3⟩:=jL.o.facts;simp only at r1 r2 r3;clear AP;go_wp2_with fail;have HR3':=ae (jL.o.loS HQ.o.1 HQ.o.2.1 HQ.o.2.2 fl);have HB3':=ae (aY.o.setCell (p:=⟨q2,2,none⟩) (jeV (jff HQ.o.1 HQ.o.2.1)) (.string (bytesT fl)));refine(HAB.o _).mono ?_;rintro e w4 ⟨⟨t2,o,rfl,ho,La⟩,bD⟩;have sK:=ae (HR3'.o.kept bD);have cL:=ae (ai HB3'.o bD);clear bD jL aY HR3' HB3' r1 r2 r3 l0 l1 l2 m0 m1 m2 fq0 fq1 fq2 fq3;cases Wx:df (lb (bytesT hi.2.2)) 4 with
      | none =>
       rw[Wx]at XT ho;have ho':o=false:=ho;subst ho';have HD4:jgt (fH cs=⟨cs.length,mm,true,false,(lo.1,lo.2.1,fl),nul⟩):=ae XT.o;clear Wx ho La XT;obtain⟨_,⟨r0,r1,r2,r3⟩,⟨r4,r5,r6⟩,r7,r8,r9⟩:=sK.o.2.1.at;obtain⟨_,⟨z0,z1,z2,z3⟩,⟨z4,z5,z6⟩,z7,z8,z9⟩:=sK.o.1.at;obtain⟨_,⟨l0,l1,l2⟩,⟨m0,m1,m2⟩,fq0,fq1,fq2,fq3⟩:=sK.o.facts;simp only[jeU]at r0 r1 r2 r3 r4 r5 r6 r7 r8 r9 z0 z1 z2 z3 z4 z5 z6 z7 z8 z9 l0 l1 l2 m0 m1 m2;go_wp2_with fail;refine bodyPost_ret (v:=.agg #[.int .i64 (cs.length:Int),.int .i64 mm,.bool true,.bool false,.int .u8 (lo.1:Int),.int .i64 lo.2.1,.string (bytesT fl),.int .u8 0,.int .i64 0,.string ⟨#[]⟩]) (by simp[results,results25,go_sem,nul,dF,z0,z1,z2,z3,z4,z5,z6,z7,z8,z9,n1,n2,n3,n4,n5,n6,n7,n8,n9,n10,n11,n12]) rfl ⟨?_,?_⟩
       ·rw[HD4.o]
        rfl
       ·have:=HQ.o
        repeat refine fd ?_ (by omega) _ _
        exact cL.o
      | some av =>
       rw[Wx]at XT ho La;have ho':o=true:=ho;subst ho';have HD4:jgt (fH cs=⟨cs.length,mm,true,true,(lo.1,lo.2.1,fl),(hi.1,hi.2.1,nb av)⟩):=ae XT.o;have AP:=ae (Mf (show lb t2=av from La));clear Wx ho La XT;obtain⟨_,⟨r0,r1,r2,r3⟩,⟨r4,r5,r6⟩,r7,r8,r9⟩:=sK.o.2.1.at;obtain⟨_,⟨z0,z1,z2,z3⟩,⟨z4,z5,z6⟩,z7,z8,z9⟩:=sK.o.1.at;obtain⟨_,⟨l0,l1,l2⟩,⟨m0,m1,m2⟩,fq0,fq1,fq2,fq3⟩:=sK.o.facts;simp only[jeU]at r0 r1 r2 r3 r4 r5 r6 r7 r8 r9 z0 z1 z2 z3 z4 z5 z6 z7 z8 z9 l0 l1 l2 m0 m1 m2;go_wp2_with fail;refine bodyPost_ret (v:=.agg #[.int .i64 (cs.length:Int),.int .i64 mm,.bool true,.bool true,.int .u8 (lo.1:Int),.int .i64 lo.2.1,.string (bytesT fl),.int .u8 (hi.1:Int),.int .i64 hi.2.1,.string t2]) (by simp[results,results25,go_sem,nul,dF,z0,z1,z2,z3,z4,z5,z6,z7,z8,z9,n1,n2,n3,n4,n5,n6,n7,n8,n9,n10,n11,n12]) rfl ⟨?_,?_⟩
       ·rw[HD4.o,AP.o]
        rfl
       ·have:=HQ.o
        repeat refine fd ?_ (by omega) _ _
        exact cL.o
    ·have h3':((lo.1:Int)==3)=false:=jeF.2 (by omega)
     have na:jgt (fH cs=⟨cs.length,mm,true,true,lo,hi⟩):=ae (by rw[HDF.o,jex (by simp),jex h3]);clear h3 HDF;obtain⟨_,⟨r0,r1,r2,r3⟩,⟨r4,r5,r6⟩,r7,r8,r9⟩:=HR.o.2.1.at;obtain⟨_,⟨z0,z1,z2,z3⟩,⟨z4,z5,z6⟩,z7,z8,z9⟩:=HR.o.1.at;obtain⟨_,⟨l0,l1,l2⟩,⟨m0,m1,m2⟩,fq0,fq1,fq2,fq3⟩:=HR.o.facts;simp only[jeU]at r0 r1 r2 r3 r4 r5 r6 r7 r8 r9 z0 z1 z2 z3 z4 z5 z6 z7 z8 z9 l0 l1 l2 m0 m1 m2;go_wp2_with fail;refine bodyPost_ret (v:=.agg #[.int .i64 (cs.length:Int),.int .i64 mm,.bool true,.bool true,.int .u8 (lo.1:Int),.int .i64 lo.2.1,.string (bytesT lo.2.2),.int .u8 (hi.1:Int),.int .i64 hi.2.1,.string (bytesT hi.2.2)]) (by simp[results,results25,go_sem,nul,dF,z0,z1,z2,z3,z4,z5,z6,z7,z8,z9,n1,n2,n3,n4,n5,n6,n7,n8,n9,n10,n11,n12]) rfl ⟨?_,?_⟩
     ·rw[na.o]
      rfl
     ·have:=HQ.o
      repeat refine fd ?_ (by omega) _ _
      exact HB.o
def Wa{si:Nat}{l:List Fd}{r:List Cl}(dA:∀ x∈r,aI x)(op f:Nat)(c:Cl)(ks:List PT)(ih:∀ k∈ks,xY l r si k)(qo:op=8)(dD:Okp (.node op f c ks))(dB:jT (.node op f c ks))(w:World)(kv fv rv:Value)(hs:Sf w fv l)(hr:Sc w rv r)(hk:eF w kv ks) :
  Calls prog 31 #[.agg #[.int .u8 (op:Int),.int .u32 (f:Int),.int .u8 (c.1:Int),.int .i64 c.2.1,.string (bytesT c.2.2),kv],.agg #[.int .u32 (si:Int),fv],rv] w λe w'=>e=.returned (.int .i64 (aW l r (.node op f c ks):Int))/\jgu w w':=by
 simp only[Okp]at dD;simp only[jT]at dB;obtain⟨_,_,mJ,iv⟩:=dD;obtain⟨⟨Gg,XW,GD⟩,oa⟩:=dB;have nh:=ae ih;have HK:=ae hk;have HS:=ae hs;have HR:=ae hr;have AO:=ae mJ;have mZ:=ae iv.get;have iw:=ae oa.get;have MJ:=ae GD;have iy:=ae dA;obtain⟨ka,kcap,rfl,Lh,mj⟩:=hk.form;obtain⟨fa,fcap,rfl,_,_⟩:=hs.form;obtain⟨ra,rcap,rfl,_,CJ⟩:=hr.form;have hkm':ks.length<=9223372036854775807:=by unfold maxLen at mj;omega
 have hrm':rcap<=9223372036854775807:=by unfold maxLen at CJ;omega
 clear hk hs hr ih mj CJ iv mJ oa GD dA;obtain⟨iz,hn,e0,e1,hsB⟩:=AC w op f c (.slice ka ks.length kcap) si (.slice fa l.length fcap);generalize hZ0:(w.alloc (.cells #[.int .u8 (op:Int),.int .u32 (f:Int),.int .u8 (c.1:Int),.int .i64 c.2.1,.string (bytesT c.2.2),.slice ka ks.length kcap] 63)).alloc (.cells #[.int .u32 (si:Int),.slice fa l.length fcap] 25)=Z0 at *;have cN:=ae iz;have HN:=ae hn;have wg:=ae (HK.o.kept cN.o);have uU:=ae (HS.o.kept cN.o);have Xq:=ae (HR.o.kept cN.o);obtain⟨cy,x0,x1,x2,x3,x4,x5⟩:=HN.o;clear hn iz HK HS HR;have q6:((op:Int)==6)=false:=jeF.2 (by omega);have q7:((op:Int)==7)=false:=jeF.2 (by omega);have q8:((op:Int)==8)=true:=by rw[qo];rfl
 have AU:=ae qo;clear qo Gg XW;subst hZ0;cases ks with
 | nil =>
  have HD:jgt (aW l r (.node op f c [])=1):=ae (by
  simp only[aW,evalNot];rw[jex (by have:=AU.o;omega),jex (by have:=AU.o;omega),jey AU.o])
  generalize aW l r (.node op f c [])=R at *;have tN:([]:List PT).length=0:=rfl;rw[tN]at *;go_enter func31,ntmps31
  go_wp2_with fail;go_ret
  rw[HD.o];exact⟨rfl,cN.o⟩
 | cons kid ks' =>
 have HD:jgt (aW l r (.node op f c (kid::ks'))=2-aW l r kid):=ae (by
  simp only[aW,evalNot];rw[jex (by have:=AU.o;omega),jex (by have:=AU.o;omega),jey AU.o])
 have Lx:=im l r kid;generalize aW l r (.node op f c (kid::ks'))=R at *;obtain⟨g,o,rfl,gA⟩:=wg.o.at (i:=0) (by simp);simp only[jfY,Nat.zero_mul,jfk]at gA;have HM:=ae (nh.o kid (by simp));have XU:=ae (mZ.o kid (by simp));have Gk:=ae (iw.o kid (by simp));obtain⟨op1,f1,c1,ks1⟩:=kid;obtain⟨a1,cap1,eX,ec⟩:=gA.open;have Rh:=ae ec;have me:=ae eX;have De:¬ (((PT.node op1 f1 c1 ks1::ks').length:Nat):Int)=0:=by simp only[jeI];omega
 have qs:((((PT.node op1 f1 c1 ks1::ks').length:Nat):Int)==0)=false:=jeF.2 De;have hl3:0<(PT.node op1 f1 c1 ks1::ks').length:=by simp
 have hl4:(0:Int)<(((PT.node op1 f1 c1 ks1::ks').length:Nat):Int):=by omega
 generalize (PT.node op1 f1 c1 ks1::ks').length=m at *;go_enter func31,ntmps31
 go_upto_region 17 with fail
 generalize ((w.alloc (.cells #[.int .u8 (op:Int),.int .u32 (f:Int),.int .u8 (c.1:Int),.int .i64 c.2.1,.string (bytesT c.2.2),.slice (some ⟨g,o,none⟩) m kcap] 63)).alloc (.cells #[.int .u32 (si:Int),.slice fa l.length fcap] 25))=Z at *;have lE:=ae (λ(U:World) (hU:jgu Z U)=>HM.o op1 f1 c1 ks1 rfl XU.o Gk.o U _ _ _ (uU.o.kept hU) (Xq.o.kept hU) (Rh.o.kept hU));generalize aW l r (.node op1 f1 c1 ks1)=ev at *;have CK:∀ s:aB (λx=>jgu Z x),s.w.cell? ⟨w.heap.size+1,0,none⟩=some (.int .u32 (si:Int)):=λs=>(s.ok.cell (p:=⟨w.heap.size+1,0,none⟩) (show w.heap.size+1<_ by omega)).trans e0
 have mh:∀ s:aB (λx=>jgu Z x),s.w.cell? ⟨w.heap.size+1,1,none⟩=some (.slice fa l.length fcap):=λs=>(s.ok.cell (p:=⟨w.heap.size+1,1,none⟩) (show w.heap.size+1<_ by omega)).trans e1
 have qt:∀ s:aB (λx=>jgu Z x),s.w.cell? ⟨w.heap.size,0+5,none⟩=some (.slice (some ⟨g,o,none⟩) m kcap):=λs=>(s.ok.cell (p:=⟨w.heap.size,0+5,none⟩) cy).trans x5
 have bR:∀ s:aB (λx=>jgu Z x),s.w.cell? ⟨g,o,none⟩=some (.int .u8 (op1:Int)):=λs=>(me.o.kept s.ok).2.1
 have bW:∀ s:aB (λx=>jgu Z x),s.w.cell? ⟨g,o+1,none⟩=some (.int .u32 (f1:Int)):=λs=>(me.o.kept s.ok).2.2.1
 have aX:∀ s:aB (λx=>jgu Z x),s.w.cell? ⟨g,o+2,none⟩=some (.int .u8 (c1.1:Int)):=λs=>(me.o.kept s.ok).2.2.2.1
 have gy:∀ s:aB (λx=>jgu Z x),s.w.cell? ⟨g,o+3,none⟩=some (.int .i64 c1.2.1):=λs=>(me.o.kept s.ok).2.2.2.2.1
 have se:∀ s:aB (λx=>jgu Z x),s.w.cell? ⟨g,o+4,none⟩=some (.string (bytesT c1.2.2)):=λs=>(me.o.kept s.ok).2.2.2.2.2.1
 have sk:∀ s:aB (λx=>jgu Z x),s.w.cell? ⟨g,o+5,none⟩=some (.slice a1 ks1.length cap1):=λs=>(me.o.kept s.ok).2.2.2.2.2.2
 have jdE:ev=0∨ev=1∨ev=2:=by omega
 clear hsB;clear gA eX ec x0 x1 x2 x3 x4 e0 e1 Lx
 rcases jdE with rfl | rfl | rfl <;>
  (haveI:Nonempty (aB (λx=>jgu Z x)):=⟨aB.mk Z (jez _ _)⟩
   go_wp2_with fail;clear x5;refine aP (S:=λx=>jgu Z x) (by kernel_rfl) (by kernel_rfl) (jez _ _).drew ?_;repeat (go_big_quiet_step ((go_at_call 31;exact(lE.o _ (aB.ok _)).mono (λe w' h=>⟨h.1,aB.mk w' (ai (aB.ok _) h.2),rfl⟩))))
   refine wpQuiet_nil ?_;rintro _ ⟨s3,rfl⟩;obtain⟨w3,Dl⟩:∃ x,x=s3.w:=⟨_,rfl⟩;have aJ:=s3.ok;rw[<- Dl]at aJ ⊢;have aY:=ae (ai cN.o aJ);clear Dl aJ CK mh qt bR bW aX gy se sk;go_wp2_with fail;go_ret
   rw[HD.o];exact⟨rfl,aY.o⟩)
def Wb{si:Nat}{l:List Fd}{r:List Cl}(dA:∀ x∈r,aI x)(op f:Nat)(c:Cl)(ks:List PT)(ih:∀ k∈ks,xY l r si k)(qo:op<=5)(dD:Okp (.node op f c ks))(dB:jT (.node op f c ks))(w:World)(kv fv rv:Value)(hs:Sf w fv l)(hr:Sc w rv r)(hk:eF w kv ks) :
  Calls prog 31 #[.agg #[.int .u8 (op:Int),.int .u32 (f:Int),.int .u8 (c.1:Int),.int .i64 c.2.1,.string (bytesT c.2.2),kv],.agg #[.int .u32 (si:Int),fv],rv] w λe w'=>e=.returned (.int .i64 (aW l r (.node op f c ks):Int))/\jgu w w':=by
 simp only[Okp]at dD;simp only[jT]at dB;obtain⟨_,_,mJ,iv⟩:=dD;obtain⟨⟨Gg,XW,GD⟩,oa⟩:=dB;have nh:=ae ih;have HK:=ae hk;have HS:=ae hs;have HR:=ae hr;have AO:=ae mJ;have mZ:=ae iv.get;have iw:=ae oa.get;have MJ:=ae GD;have iy:=ae dA;obtain⟨ka,kcap,rfl,Lh,mj⟩:=hk.form;obtain⟨fa,fcap,rfl,_,_⟩:=hs.form;obtain⟨ra,rcap,rfl,_,CJ⟩:=hr.form;have hkm':ks.length<=9223372036854775807:=by unfold maxLen at mj;omega
 have hrm':rcap<=9223372036854775807:=by unfold maxLen at CJ;omega
 clear hk hs hr ih mj CJ iv mJ oa GD dA;obtain⟨iz,hn,e0,e1,hsB⟩:=AC w op f c (.slice ka ks.length kcap) si (.slice fa l.length fcap);generalize hZ0:(w.alloc (.cells #[.int .u8 (op:Int),.int .u32 (f:Int),.int .u8 (c.1:Int),.int .i64 c.2.1,.string (bytesT c.2.2),.slice ka ks.length kcap] 63)).alloc (.cells #[.int .u32 (si:Int),.slice fa l.length fcap] 25)=Z0 at *;have cN:=ae iz;have HN:=ae hn;have wg:=ae (HK.o.kept cN.o);have uU:=ae (HS.o.kept cN.o);have Xq:=ae (HR.o.kept cN.o);obtain⟨cy,x0,x1,x2,x3,x4,x5⟩:=HN.o;clear hn iz HK HS HR
 have HD:jgt (aW l r (.node op f c ks)=iD l r op f c):=ae (by
  simp only[aW];rw[jex (by omega),jex (by omega),jex (by omega)])
 have kS:=ae (mC uU.o si f);have Lg:=ae (λh=>xx (l:=l) (r:=r) (op:=op) (f:=f) (c:=c) h);have Gu:=ae (λ(j:Nat) h hj=>xy (l:=l) (r:=r) (op:=op) (f:=f) (c:=c) (j:=j) h hj);have vK:=ae (λ(j:Nat) h hj=>Ey (l:=l) (r:=r) (op:=op) (f:=f) (c:=c) (j:=j) h hj);generalize iD l r op f c=R0 at *;generalize aW l r (.node op f c ks)=R at *;have q6:((op:Int)==6)=false:=jeF.2 (by omega);have q7:((op:Int)==7)=false:=jeF.2 (by omega);have q8:((op:Int)==8)=false:=jeF.2 (by omega);have HHB:=ae hsB;have bW:w.heap.size+1<Z0.heap.size:=by rw[hsB];omega
 clear hsB;subst hZ0;cases hp:dV l f with
 | none =>
  rw[hp]at kS;simp only[plz]at kS;have ni:=ae (Lg.o hp);go_enter func31,ntmps31
  go_wp2_with fail;refine kS.o.mono ?_;rintro e w2 ⟨rfl,ap⟩;have aG:=ae (ai cN.o ap);clear ap;go_wp2_with fail;go_ret
  rw[HD.o,ni.o];exact⟨rfl,aG.o⟩
 | some j =>
 rw[hp]at kS;simp only[plz]at kS;have hjn:¬ (j:Int)<0:=by omega
 by_cases hj:j<r.length
 case neg =>
  have ni:=ae (Gu.o j hp hj);have hjr:(r.length:Int)<=(j:Int):=by omega
  go_enter func31,ntmps31
  go_wp2_with fail;refine kS.o.mono ?_;rintro e w2 ⟨rfl,ap⟩;have aG:=ae (ai cN.o ap);clear ap;go_wp2_with fail;go_ret
  rw[HD.o,ni.o];exact⟨rfl,aG.o⟩
 have ni:=ae (vK.o j hp hj);have hjr:¬ (r.length:Int)<=(j:Int):=by omega
 have hjr':(j:Int)<(r.length:Int):=by omega
 have HFX:=ae (iy.o r[j] (jeD hj));have HPJ:=ae hp;clear hp Lg Gu vK;go_enter func31,ntmps31
 go_wp2_with fail;refine kS.o.mono ?_;rintro e w2 ⟨rfl,ap⟩;have aG:=ae (ai cN.o ap);have mV:=ae (HN.o.kept ap);obtain⟨gb,goff,rfl,GR,y0,y1,y2⟩:=(Xq.o.kept ap).at hj;clear ap x0 x1 x2 x3 x4 x5 e0 e1 kS bW;obtain⟨hb0',x0,x1,x2,x3,x4,x5⟩:=mV.o;replace y2:w2.cell? ⟨gb,goff+j*3+2,none⟩=some (.string (bytesT r[j].2.2)):=y2
 generalize r[j]=x at *;have qm:=ae (aj w2 (.cells #[.int .u8 (x.1:Int),.int .i64 x.2.1,.string (bytesT x.2.2)] 52));have HX:=ae (Ceb.new w2 (.int .u8 (x.1:Int)) (.int .i64 x.2.1) (.string (bytesT x.2.2)));have uV:=ae (mV.o.kept qm.o);have aY:=ae (ai aG.o qm.o);have HXZ:jgt (w2.heap.size<(w2.alloc (.cells #[.int .u8 (x.1:Int),.int .i64 x.2.1,.string (bytesT x.2.2)] 52)).heap.size):=ae (by rw[jeB];omega);go_upto_region 24 with fail
 clear x0 x1 x2 x3 x4 x5 y0 y1 y2 hb0';generalize w2.alloc (.cells #[.int .u8 (x.1:Int),.int .i64 x.2.1,.string (bytesT x.2.2)] 52)=X at *;generalize w2.heap.size=q at *
 have HXC:jgt (∀ U,jgu X U->U.cell? ⟨q,0,none⟩=some (.int .u8 (x.1:Int))/\U.cell? ⟨q,1,none⟩=some (.int .i64 x.2.1)/\U.cell? ⟨q,2,none⟩=some (.string (bytesT x.2.2))):=ae (λU hU=>by
  have h:=HX.o.kept hU;unfold Ceb at h;exact⟨by rw[an h];rfl,by rw[an h];rfl,by rw[an h];rfl⟩)
 obtain⟨z0,z1,z2⟩:=HXC.o X (jez _ _);obtain⟨hb0',x0,x1,x2,x3,x4,x5⟩:=uV.o;by_cases h5:op=5
 ·subst h5
  have jw:jgt (R=isM (decide (x.1=0))):=ae (by rw[HD.o,ni.o];unfold mQ;rw[jey rfl]);by_cases h0:x.1=0
  ·rw[show decide (x.1=0)=true from jeP h0]at jw
   have q0:((x.1:Int)==0)=true:=by rw[h0];rfl
   clear h0;go_wp2_with fail;refine(Ga _ _).mono ?_;rintro e w4 ⟨rfl,rfl⟩;go_wp2_with fail;go_ret
   rw[jw.o];exact⟨rfl,aY.o⟩
  ·rw[show decide (x.1=0)=false from jeM h0]at jw
   have q0:((x.1:Int)==0)=false:=jeF.2 (by omega);clear h0;go_wp2_with fail;refine(Ga _ _).mono ?_;rintro e w4 ⟨rfl,rfl⟩;go_wp2_with fail;go_ret
   rw[jw.o];exact⟨rfl,aY.o⟩
 have q5:((op:Int)==5)=false:=jeF.2 (by omega);by_cases h0:x.1=0
 ·have jw:jgt (R=1):=ae (by rw[HD.o,ni.o];unfold mQ;rw[jex h5,jey h0])
  have q0:((x.1:Int)==0)=true:=by rw[h0];rfl
  clear h0 h5;go_wp2_with fail;go_ret
  rw[jw.o];exact⟨rfl,aY.o⟩
 have q0:((x.1:Int)==0)=false:=jeF.2 (by omega);have jw:jgt (R=kC op c x):=ae (by rw[HD.o,ni.o];unfold mQ;rw[jex h5,jex h0]);have HFV:=ae (dX AO.o);have Dh:=ae (λW=>no c W);have jdF:op=1∨op=2∨op=3∨op=4:=by omega
 clear h0 h5 qo q6 q7 q8 Gg XW;go_wp2_with fail;refine(Dh.o _).mono ?_;rintro e w5 ⟨rfl,bQ⟩;have HN5:=ae (uV.o.kept bQ);have bq:=ae (ai aY.o bQ);have AN:=ae (aj w5 (.cells #[.int .u8 ((aH c).1:Int),.int .i64 (aH c).2.1,.string (bytesT (aH c).2.2)] 52));have HY:=ae (Ceb.new w5 (.int .u8 ((aH c).1:Int)) (.int .i64 (aH c).2.1) (.string (bytesT (aH c).2.2)));have HN6:=ae (HN5.o.kept AN.o);have HXY:=ae (ai bQ AN.o);clear bQ z0 z1 z2 x0 x1 x2 x3 x4 x5;go_upto_region 29 with fail
 have RV:jgt (kC op c x=kC op c x):=ae rfl;obtain⟨vv,MP⟩:∃ vv,vv=aH c:=⟨_,rfl⟩;rw[<- MP]at HFV AN HY HN6 HXY ⊢;have HVV:=ae MP;clear MP;have fV:=ae (ai bq.o AN.o);generalize w5.alloc (.cells #[.int .u8 (vv.1:Int),.int .i64 vv.2.1,.string (bytesT vv.2.2)] 52)=Y at *;generalize w5.heap.size=qy at *
 have HYC:jgt (∀ U,jgu Y U->U.cell? ⟨qy,0,none⟩=some (.int .u8 (vv.1:Int))/\U.cell? ⟨qy,1,none⟩=some (.int .i64 vv.2.1)/\U.cell? ⟨qy,2,none⟩=some (.string (bytesT vv.2.2))):=ae (λU hU=>by
  have h:=HY.o.kept hU;unfold Ceb at h;exact⟨by rw[an h];rfl,by rw[an h];rfl,by rw[an h];rfl⟩)
 obtain⟨z0,z1,z2⟩:=HXC.o Y HXY.o;obtain⟨t0,t1,t2⟩:=HYC.o Y (jez _ _);obtain⟨hb1',x0,x1,x2,x3,x4,x5⟩:=HN6.o;rcases jdF with rfl | rfl | rfl | rfl
 ·have fZ:jgt (R=isM (decide (aD x vv=0))):=ae (by rw[jw.o,HVV.o];unfold kC;rw[jey rfl])
  have hq:=VR (x.1:Int) x.2.1 (bytesT x.2.2) (vv.1:Int) vv.2.1 (bytesT vv.2.2);have KZ:cv (x.1:Int) x.2.1 (bytesT x.2.2) (vv.1:Int) vv.2.1 (bytesT vv.2.2)=aD x vv:=rfl;rw[KZ]at hq;generalize decide (aD x vv=0)=b at *;clear KZ;go_wp2_with fail;refine(Ga _ _).mono ?_;rintro e w7 ⟨rfl,rfl⟩;go_wp2_with fail;go_ret
  rw[fZ.o];exact⟨rfl,fV.o⟩
 ·have fZ:jgt (R=isM (decide (aD x vv<0))):=ae (by rw[jw.o,HVV.o];unfold kC;rw[jex (by omega),jey rfl])
  have sG:=ae (λW=>pp x vv W);generalize decide (aD x vv<0)=b at *;go_wp2_with fail;refine(sG.o _).mono ?_;rintro e w6 ⟨rfl,ct⟩;have jK:=ae (ai fV.o ct);clear ct;go_wp2_with fail;refine(Ga _ _).mono ?_;rintro e w7 ⟨rfl,rfl⟩;go_wp2_with fail;go_ret
  rw[fZ.o];exact⟨rfl,jK.o⟩
 ·have fZ:jgt (R=isM (!decide (aD vv x<0))):=ae (by
   rw[jw.o,HVV.o];unfold kC;rw[jex (by omega),jex (by omega),jey rfl];congr 1
   rw[eM x (aH c),<- decide_not];exact decide_eq_decide.2 (by omega))
  have sG:=ae (λW=>pp vv x W);generalize decide (aD vv x<0)=b at *;go_wp2_with fail;refine(sG.o _).mono ?_;rintro e w6 ⟨rfl,ct⟩;have jK:=ae (ai fV.o ct);clear ct;go_wp2_with fail;refine(Ga _ _).mono ?_;rintro e w7 ⟨rfl,rfl⟩;go_wp2_with fail;go_ret
  rw[fZ.o];exact⟨rfl,jK.o⟩
 ·have fZ:jgt (R=isM (mP x vv)):=ae (by
   have e:=MJ.o rfl;rw[jw.o,HVV.o];unfold kC;rw[jex (by omega),jex (by omega),jex (by omega),jey rfl,e])
  have HLM:jgt (mP x vv=(x.1==3 && vv.1==3 && lk (br (lb (bytesT vv.2.2))) (br (lb (bytesT x.2.2))))):=ae rfl;have za:=ae (λW=>FZ (bytesT x.2.2) (bytesT vv.2.2) (by have:=aI.short HFX.o;omega) (by have:=aI.short HFV.o;omega) W);by_cases h3:x.1=3
  case neg =>
   have jL:jgt (R=isM false):=ae (by
    rw[fZ.o,HLM.o,show (x.1==3)=false from jeF.2 h3];rfl)
   have q3:((x.1:Int)==3)=false:=jeF.2 (by omega);clear h3;go_wp2_with fail;refine(Ga _ _).mono ?_;rintro e w7 ⟨rfl,rfl⟩;go_wp2_with fail;go_ret
   rw[jL.o];exact⟨rfl,fV.o⟩
  have q3:((x.1:Int)==3)=true:=by rw[h3];rfl
  by_cases h4:vv.1=3
  case neg =>
   have jL:jgt (R=isM false):=ae (by
    rw[fZ.o,HLM.o,show (vv.1==3)=false from jeF.2 h4,Bool.and_false];rfl)
   have q4:((vv.1:Int)==3)=false:=jeF.2 (by omega);clear h3 h4;go_wp2_with fail;refine(Ga _ _).mono ?_;rintro e w7 ⟨rfl,rfl⟩;go_wp2_with fail;go_ret
   rw[jL.o];exact⟨rfl,fV.o⟩
  have q4:((vv.1:Int)==3)=true:=by rw[h4];rfl
  have jL:jgt (R=isM (lk (br (lb (bytesT vv.2.2))) (br (lb (bytesT x.2.2))))):=ae (by
   rw[fZ.o,HLM.o,show (vv.1==3)=true from beq_iff_eq.2 h4,show (x.1==3)=true from beq_iff_eq.2 h3];rfl)
  clear h3 h4;go_wp2_with fail;refine(za.o _).mono ?_;rintro e w6 ⟨rfl,ct⟩;have jK:=ae (ai fV.o ct);clear ct;go_wp2_with fail;refine(Ga _ _).mono ?_;rintro e w7 ⟨rfl,rfl⟩;go_wp2_with fail;go_ret
  rw[jL.o];exact⟨rfl,jK.o⟩
def uR{si:Nat}{l:List Fd}{r:List Cl}(dA:∀ x∈r,aI x)(t:PT):xY l r si t:=by
 refine PT.ind (P:=λt=>xY l r si t) (λop f c ks ih=>?_) t;intro op' f' c' ks' he dD dB w kv fv rv hs hr hk;simp only[PT.node.injEq]at he;obtain⟨rfl,rfl,rfl,rfl⟩:=he;have h8:=dB;simp only[jT]at h8;have qo:op<=5∨op=6∨op=7∨op=8:=by omega
 rcases qo with h | h | h | h
 ·exact Wb dA op f c ks ih h dD dB w kv fv rv hs hr hk
 ·exact My dA op f c ks ih false h dD dB w kv fv rv hs hr hk
 ·exact My dA op f c ks ih true h dD dB w kv fv rv hs hr hk
 ·exact Wa dA op f c ks ih h dD dB w kv fv rv hs hr hk
end Go.Proofs.YtpljdjmpamjkhaaGreatDoor
