import Derived.Test.YtpljdjmpamjkhaaGreatDoorYau
set_option linter.unusedVariables false
set_option linter.unusedSimpArgs false
set_option maxRecDepth 100000
set_option maxHeartbeats 16000000
namespace Go.Proofs.YtpljdjmpamjkhaaGreatDoor
open Go.RowKit Go.Lib
theorem VB(a b:Cl)(w:World):Calls Tryz.prog 61 #[.agg #[.int .u8 (a.1:Int),.int .i64 a.2.1,.string (am a.2.2)],.agg #[.int .u8 (b.1:Int),.int .i64 b.2.1,.string (am b.2.2)]] w fun e w'=>e=.returned (.bool (decide (cO a b<0)))/\Below w.heap.size w w':=by
 refine TN _ _ _ _ _ _ _ ?_ w;rw[ls_cv];have:=FZ a b;show decide (cO a b=-1)=_
 rcases this with h | h | h
 ·rw[h];rfl
 ·rw[h];rfl
 ·rw[h];rfl
theorem zD:∀(r:List Cl) (m c:Cl),fX m (r++[c])=if cO c (fX m r)<0 then c else fX m r
 | [],m,c=>rfl
 | x::r,m,c=>by
  rw[jaz,fX,zD r,fX]
theorem zE:∀(r:List Cl) (m c:Cl),eC m (r++[c])=if 0<cO c (eC m r) then c else eC m r
 | [],m,c=>rfl
 | x::r,m,c=>by
  rw[jaz,eC,zE r,eC]
def soM(ns:List Cl):Bool:=!ns.isEmpty
def leM:List Cl->Cl
 | []=>nul
 | x::r=>fX x r
def moM:List Cl->Cl
 | []=>nul
 | x::r=>eC x r
def ckM(ns:List Cl):Bool:=ns.all fun c=>!decide (c.1=3) || eK c
theorem Q6(ns:List Cl)(c:Cl):ckM (ns++[c])=(ckM ns && (!decide (c.1=3) || eK c)):=by simp[ckM]
theorem Q7(ns:List Cl)(c:Cl):soM (ns++[c])=true:=by simp[soM]
theorem Q8(ns:List Cl)(c:Cl):leM (ns++[c])=if soM ns=false∨cO c (leM ns)<0 then c else leM ns:=by
 cases ns with
 | nil=>rfl
 | cons x r =>
  show fX x (r++[c])=_
  rw[zD];simp[soM,leM]
theorem Q9(ns:List Cl)(c:Cl):moM (ns++[c])=if soM ns=false∨cO (moM ns) c<0 then c else moM ns:=by
 cases ns with
 | nil=>rfl
 | cons x r =>
  show eC x (r++[c])=_
  rw[zE];have h:=K8 c (eC x r);by_cases h2:0<cO c (eC x r)
  ·rw[if_pos h2]
   have h4:soM (x::r)=false∨cO (moM (x::r)) c<0:=Or.inr (show cO (eC x r) c<0 by omega);rw[if_pos h4]
  ·rw[if_neg h2]
   have h4:¬ (soM (x::r)=false∨cO (moM (x::r)) c<0):=fun h3=>by
    rcases h3 with h3 | h3
    ·simp[soM]at h3
    ·have h4:cO (eC x r) c<0:=h3
     omega
   rw[if_neg h4];rfl
theorem Ma{cs:List Cl}{j:Nat}(h:j<cs.length)(h0:cs[j].1=0):aY (cs.take (j+1))=aY (cs.take j):=by
 unfold aY;rw[Z5 h,jbi];simp[h0]
theorem Mb{cs:List Cl}{j:Nat}(h:j<cs.length)(h0:cs[j].1≠0):aY (cs.take (j+1))=aY (cs.take j)++[cs[j]]:=by
 unfold aY;rw[Z5 h,jbi];simp[h0]
def Rw(W:World)(q0 q1 q2 q3:Nat)(st:Stt)(lo hi:Cl):Prop :=
 Stb W q0 stZ/\Stb W q1 st/\Ceb W q2 (.int .u8 (lo.1:Int)) (.int .i64 lo.2.1) (.string (am lo.2.2))/\Ceb W q3 (.int .u8 (hi.1:Int)) (.int .i64 hi.2.1) (.string (am hi.2.2))
theorem Rw.kept{W X:World}{q0 q1 q2 q3:Nat}{st:Stt}{lo hi:Cl}(h:Rw W q0 q1 q2 q3 st lo hi)(hb:Below W.heap.size W X):Rw X q0 q1 q2 q3 st lo hi:=⟨h.1.kept hb,h.2.1.kept hb,h.2.2.1.kept hb,h.2.2.2.kept hb⟩
theorem Ceb.other{W:World}{p q:Nat}{x y z:Value}(h:Ceb W q x y z)(hn:q≠p)(i:Nat)(v:Value):Ceb (W.setCell ⟨p,i,none⟩ v) q x y z:=by
 unfold Ceb at *;rw[heap_setCell_other _ ⟨p,i,none⟩ q _ hn];exact h
theorem Ceb.put{W:World}{p:Nat}{x y z:Value}(h:Ceb W p x y z)(x' y' z':Value):Ceb (((W.setCell ⟨p,0,none⟩ x').setCell ⟨p,1,none⟩ y').setCell ⟨p,2,none⟩ z') p x' y' z':=by
 unfold Ceb at *;rw[cH (cH (cH h 0 _) 1 _) 2 _];rfl
theorem Ceb.put2{W:World}{p:Nat}{x y z:Value}(h:Ceb W p x y z)(z':Value):Ceb (W.setCell ⟨p,2,none⟩ z') p x y z':=by
 unfold Ceb at *;rw[cH h 2 _];rfl
theorem Rw.nulls{W:World}{q0 q1 q2 q3:Nat}{st:Stt}{lo hi:Cl}(h:Rw W q0 q1 q2 q3 st lo hi)(h0:q0<q1)(h1:q1<q2)(h2:q2<q3)(m:Int):Rw (W.setCell ⟨q1,1,none⟩ (.int .i64 m)) q0 q1 q2 q3 {st with nulls:=m} lo hi:=by
 refine⟨h.1.other (by omega) _ _,?_,h.2.2.1.other (by omega) _ _,h.2.2.2.other (by omega) _ _⟩;have:=h.2.1;unfold Stb at *;rw[cH this 1 _];rfl
theorem Rw.some{W:World}{q0 q1 q2 q3:Nat}{st:Stt}{lo hi:Cl}(h:Rw W q0 q1 q2 q3 st lo hi)(h0:q0<q1)(h1:q1<q2)(h2:q2<q3):Rw (W.setCell ⟨q1,2,none⟩ (.bool true)) q0 q1 q2 q3 {st with some:=true} lo hi:=by
 refine⟨h.1.other (by omega) _ _,?_,h.2.2.1.other (by omega) _ _,h.2.2.2.other (by omega) _ _⟩;have:=h.2.1;unfold Stb at *;rw[cH this 2 _];rfl
theorem Rw.high{W:World}{q0 q1 q2 q3:Nat}{st:Stt}{lo hi:Cl}(h:Rw W q0 q1 q2 q3 st lo hi)(h0:q0<q1)(h1:q1<q2)(h2:q2<q3)(b:Bool):Rw (W.setCell ⟨q1,3,none⟩ (.bool b)) q0 q1 q2 q3 {st with high:=b} lo hi:=by
 refine⟨h.1.other (by omega) _ _,?_,h.2.2.1.other (by omega) _ _,h.2.2.2.other (by omega) _ _⟩;have:=h.2.1;unfold Stb at *;rw[cH this 3 _];rfl
theorem Rw.lo{W:World}{q0 q1 q2 q3:Nat}{st:Stt}{lo hi:Cl}(h:Rw W q0 q1 q2 q3 st lo hi)(h0:q0<q1)(h1:q1<q2)(h2:q2<q3)(c:Cl):Rw (((W.setCell ⟨q2,0,none⟩ (.int .u8 (c.1:Int))).setCell ⟨q2,1,none⟩ (.int .i64 c.2.1)).setCell ⟨q2,2,none⟩ (.string (am c.2.2))) q0 q1 q2 q3 st c hi :=
 ⟨((h.1.other (by omega) _ _).other (by omega) _ _).other (by omega) _ _,((h.2.1.other (by omega) _ _).other (by omega) _ _).other (by omega) _ _,h.2.2.1.put _ _ _,((h.2.2.2.other (by omega) _ _).other (by omega) _ _).other (by omega) _ _⟩
theorem Rw.hi{W:World}{q0 q1 q2 q3:Nat}{st:Stt}{lo hi:Cl}(h:Rw W q0 q1 q2 q3 st lo hi)(h0:q0<q1)(h1:q1<q2)(h2:q2<q3)(c:Cl):Rw (((W.setCell ⟨q3,0,none⟩ (.int .u8 (c.1:Int))).setCell ⟨q3,1,none⟩ (.int .i64 c.2.1)).setCell ⟨q3,2,none⟩ (.string (am c.2.2))) q0 q1 q2 q3 st lo c :=
 ⟨((h.1.other (by omega) _ _).other (by omega) _ _).other (by omega) _ _,((h.2.1.other (by omega) _ _).other (by omega) _ _).other (by omega) _ _,((h.2.2.1.other (by omega) _ _).other (by omega) _ _).other (by omega) _ _,h.2.2.2.put _ _ _⟩
theorem Rw.loS{W:World}{q0 q1 q2 q3:Nat}{st:Stt}{lo hi:Cl}(h:Rw W q0 q1 q2 q3 st lo hi)(h0:q0<q1)(h1:q1<q2)(h2:q2<q3)(s:List Nat):Rw (W.setCell ⟨q2,2,none⟩ (.string (am s))) q0 q1 q2 q3 st (lo.1,lo.2.1,s) hi :=
 ⟨h.1.other (by omega) _ _,h.2.1.other (by omega) _ _,h.2.2.1.put2 _,h.2.2.2.other (by omega) _ _⟩
theorem Rw.facts{W:World}{q0 q1 q2 q3:Nat}{st:Stt}{lo hi:Cl}(h:Rw W q0 q1 q2 q3 st lo hi) :
  (W.cell? ⟨q1,1,none⟩=Option.some (.int .i64 st.nulls)/\W.cell? ⟨q1,2,none⟩=Option.some (.bool st.some)/\W.cell? ⟨q1,3,none⟩=Option.some (.bool st.high)) /\
  (W.cell? ⟨q2,0,none⟩=Option.some (.int .u8 (lo.1:Int))/\W.cell? ⟨q2,1,none⟩=Option.some (.int .i64 lo.2.1)/\W.cell? ⟨q2,2,none⟩=Option.some (.string (am lo.2.2))) /\
  (W.cell? ⟨q3,0,none⟩=Option.some (.int .u8 (hi.1:Int))/\W.cell? ⟨q3,1,none⟩=Option.some (.int .i64 hi.2.1)/\W.cell? ⟨q3,2,none⟩=Option.some (.string (am hi.2.2))) /\
  (∀ i,W.frozen? ⟨q0,i,none⟩=false)/\(∀ i,W.frozen? ⟨q1,i,none⟩=false)/\(∀ i,W.frozen? ⟨q2,i,none⟩=false)/\(∀ i,W.frozen? ⟨q3,i,none⟩=false):=by
 obtain⟨_,⟨_,a1,a2,a3⟩,_⟩:=h.2.1.at;simp only[jaf]at a1 a2 a3;refine⟨⟨a1,a2,a3⟩,h.2.2.1.facts.1,h.2.2.2.facts.1,h.1.frozen,h.2.1.frozen,?_,?_⟩
 ·have:=h.2.2.1
  unfold Ceb at this;intro i;simp[World.frozen?,this]
 ·have:=h.2.2.2
  unfold Ceb at this;intro i;simp[World.frozen?,this]
def fL(cs:List Cl):Stt :=
 if soM (aY cs)=false then ⟨cs.length,(cs.length:Int)-((aY cs).length:Nat),false,false,nul,nul⟩
 else if (leM (aY cs)).1=3 then (if ckM (aY cs)=false then ⟨cs.length,(cs.length:Int)-((aY cs).length:Nat),true,false,((leM (aY cs)).1,(leM (aY cs)).2.1,[]),nul⟩
  else match dV (lb (am (moM (aY cs)).2.2)) 4 with
   | none=>⟨cs.length,(cs.length:Int)-((aY cs).length:Nat),true,false,((leM (aY cs)).1,(leM (aY cs)).2.1,nb (bV (lb (am (leM (aY cs)).2.2)) 4)),nul⟩
   | some a=>⟨cs.length,(cs.length:Int)-((aY cs).length:Nat),true,true,((leM (aY cs)).1,(leM (aY cs)).2.1,nb (bV (lb (am (leM (aY cs)).2.2)) 4)),((moM (aY cs)).1,(moM (aY cs)).2.1,nb a)⟩)
 else ⟨cs.length,(cs.length:Int)-((aY cs).length:Nat),true,true,leM (aY cs),moM (aY cs)⟩
theorem Bl{w:World}{v:Value}{cs:List Cl}(hs:Sc w v cs)(hf:∀ c∈cs,aU c)(hl:cs.length<=1000):Calls Tryz.prog 25 #[v] w fun e w'=>e=.returned (ua (fL cs))/\Below w.heap.size w w':=by
 have HF:=ae hf;have HL:=ae hl;obtain⟨a,cap,rfl,aX,bw⟩:=hs.form;have HS:=ae hs;clear hs hf hl bw;go_enter Tryz.func25,Tryz.ntmps25
 go_wp2_with fail;have ce:=Stb.new w stZ;have dW:=ak w (.cells #[.int .i64 0,.int .i64 0,.bool false,.bool false,.int .u8 0,.int .i64 0,.string ⟨#[]⟩,.int .u8 0,.int .i64 0,.string ⟨#[]⟩] 54);have s0:(w.alloc (.cells #[.int .i64 0,.int .i64 0,.bool false,.bool false,.int .u8 0,.int .i64 0,.string ⟨#[]⟩,.int .u8 0,.int .i64 0,.string ⟨#[]⟩] 54)).heap.size=w.heap.size+1:=ZS _ _;have hz0':Stb (w.alloc (.cells #[.int .i64 0,.int .i64 0,.bool false,.bool false,.int .u8 0,.int .i64 0,.string ⟨#[]⟩,.int .u8 0,.int .i64 0,.string ⟨#[]⟩] 54)) w.heap.size stZ:=ce;clear ce;generalize hA:w.alloc (.cells #[.int .i64 0,.int .i64 0,.bool false,.bool false,.int .u8 0,.int .i64 0,.string ⟨#[]⟩,.int .u8 0,.int .i64 0,.string ⟨#[]⟩] 54)=A at *;have cW:=Stb.new A ⟨cs.length,0,false,false,nul,nul⟩;have aG:=ak A (.cells #[.int .i64 (cs.length:Int),.int .i64 0,.bool false,.bool false,.int .u8 0,.int .i64 0,.string ⟨#[]⟩,.int .u8 0,.int .i64 0,.string ⟨#[]⟩] 54);have s1:(A.alloc (.cells #[.int .i64 (cs.length:Int),.int .i64 0,.bool false,.bool false,.int .u8 0,.int .i64 0,.string ⟨#[]⟩,.int .u8 0,.int .i64 0,.string ⟨#[]⟩] 54)).heap.size=A.heap.size+1:=ZS _ _;have hz1':Stb (A.alloc (.cells #[.int .i64 (cs.length:Int),.int .i64 0,.bool false,.bool false,.int .u8 0,.int .i64 0,.string ⟨#[]⟩,.int .u8 0,.int .i64 0,.string ⟨#[]⟩] 54)) A.heap.size ⟨cs.length,0,false,false,nul,nul⟩:=cW;clear cW;generalize hB:A.alloc (.cells #[.int .i64 (cs.length:Int),.int .i64 0,.bool false,.bool false,.int .u8 0,.int .i64 0,.string ⟨#[]⟩,.int .u8 0,.int .i64 0,.string ⟨#[]⟩] 54)=B at *;have bm:=Ceb.new B (.int .u8 0) (.int .i64 0) (.string ⟨#[]⟩);have aD:=ak B (.cells #[.int .u8 0,.int .i64 0,.string ⟨#[]⟩] 52);have s2:(B.alloc (.cells #[.int .u8 0,.int .i64 0,.string ⟨#[]⟩] 52)).heap.size=B.heap.size+1:=ZS _ _;generalize hC:B.alloc (.cells #[.int .u8 0,.int .i64 0,.string ⟨#[]⟩] 52)=C at *;have iB:=Ceb.new C (.int .u8 0) (.int .i64 0) (.string ⟨#[]⟩);have aP:=ak C (.cells #[.int .u8 0,.int .i64 0,.string ⟨#[]⟩] 52);have s3:(C.alloc (.cells #[.int .u8 0,.int .i64 0,.string ⟨#[]⟩] 52)).heap.size=C.heap.size+1:=ZS _ _;generalize hD:C.alloc (.cells #[.int .u8 0,.int .i64 0,.string ⟨#[]⟩] 52)=D at *;have R5:Hid (Rw D w.heap.size A.heap.size B.heap.size C.heap.size ⟨cs.length,0,false,false,nul,nul⟩ nul nul):=ae ⟨((hz0'.kept aG).kept aD).kept aP,(hz1'.kept aD).kept aP,bm.kept aP,iB⟩;have ER:=ae (ai (ai (ai dW aG) aD) aP);have e1:A.heap.size=w.heap.size+1:=s0;have e2:B.heap.size=w.heap.size+1+1:=by omega
 have e3:C.heap.size=w.heap.size+1+1+1:=by omega
 rw[e1,e2,e3]at R5;clear hz0' hz1' bm iB dW aG aD aP hA hB hC hD s0 s1 s2 s3 e1 e2 e3;obtain⟨q1,rK⟩:∃ q1,q1=w.heap.size+1:=⟨_,rfl⟩;obtain⟨q2,mS⟩:∃ q2,q2=w.heap.size+1+1:=⟨_,rfl⟩;obtain⟨q3,J8⟩:∃ q3,q3=w.heap.size+1+1+1:=⟨_,rfl⟩;have HQ:Hid (w.heap.size<q1/\q1<q2/\q2<q3):=ae (by omega);rw[← J8,← mS,← rK]at R5;rw[← J8,← mS,← rK];clear rK mS J8;go_loopw [6,7] (fun ck i wr=>∃ j:Nat,j<=cs.length/\i=.int .i64 (j:Int)/\ck=.bool (ckM (aY (cs.take j)))/\Rw wr w.heap.size q1 q2 q3 ⟨cs.length,(j:Int)-((aY (cs.take j)).length:Nat),soM (aY (cs.take j)),false,nul,nul⟩ (leM (aY (cs.take j))) (moM (aY (cs.take j)))/\Below w.heap.size w wr) (fun _ i _=>cs.length-(intOf i).toNat)
 case atStart=>exact⟨0,by omega,rfl,rfl,R5.out,ER.out⟩
 case round =>
  obtain⟨j,hj,rfl,rfl,hrw,ay⟩:=hrel;have HR:=ae hrw;have HB:=ae ay;have bO:=ay.size;have MY:Hid (¬ q1=w.heap.size/\¬ w.heap.size=q1/\¬ q2=w.heap.size/\¬ w.heap.size=q2/\¬ q3=w.heap.size/\¬ w.heap.size=q3/\¬ q1=q2/\¬ q2=q1/\¬ q1=q3/\¬ q3=q1/\¬ q2=q3/\¬ q3=q2):=ae (by have:=HQ.out;omega);clear hrw ay R5 ER;by_cases aB:j<cs.length
  ·have hlt':(j:Int)<(cs.length:Int):=by omega
   have UY:Hid (j+1<=cs.length):=ae aB
   have HWJ:Hid (Value.int .i64 (wrap64 ((j:Int)+1))=Value.int .i64 ((j+1:Nat):Int)):=ae (by
    have:=HL.out;have hw:wrap64 ((j:Int)+1)=(j:Int)+1:=by unfold wrap64;omega
    rw[hw];rfl)
   have Su:Hid (∀ k,intOf (.int .i64 (wrap64 ((j:Int)+1)))=k->cs.length-k.toNat<cs.length-(intOf (.int .i64 (j:Int))).toNat):=ae (by
    intro k hk;have:=HL.out;have hw:wrap64 ((j:Int)+1)=(j:Int)+1:=by unfold wrap64;omega
    rw[hw]at hk;simp only[intOf]at hk ⊢;omega)
   obtain⟨g,off,rfl,hg,c0,c1,c2⟩:=(HS.out.kept (HB.out.mono (ZR _))).at aB;rw[ek]at c2;have HX0:=ae (Ma aB);have J3:=ae (Mb aB)
   have Zq:Hid ((aY (cs.take j)).length<=j):=ae (by
    have:=jbf (fun c:Cl=>!decide (c.1=0)) (cs.take j);rw[ZX]at this;unfold aY;omega)
   have Bx:=ae (HF.out cs[j] (ZV aB));generalize hns:aY (cs.take j)=ns at *;generalize hns2:aY (cs.take (j+1))=ns2 at *;have EI:=ae hns2;clear hns hns2;generalize cs[j]=c at *;have EA:=Ceb.new wr (.int .u8 (c.1:Int)) (.int .i64 c.2.1) (.string (am c.2.2));have aD:=ak wr (.cells #[.int .u8 (c.1:Int),.int .i64 c.2.1,.string (am c.2.2)] 52);have i6:=ae (HR.out.kept aD);have aN:=ae (ai HB.out aD);have mP:=ae EA;clear EA aD;obtain⟨⟨d0,d1,d2⟩,_,_⟩:=mP.out.facts;obtain⟨⟨r1,r2,_⟩,⟨l0,l1,l2⟩,⟨m0,m1,m2⟩,fq0,fq1,fq2,fq3⟩:=i6.out.facts;obtain⟨n1,n2,n3,n4,n5,n6,n7,n8,n9,n10,n11,n12⟩:=MY.out;simp only at r1 r2;have h8:q3<wr.heap.size:=HR.out.2.2.2.facts.2.2;have n13:¬ wr.heap.size=q1:=by have:=HQ.out;omega
   have n14:¬ wr.heap.size=q2:=by have:=HQ.out;omega
   have n15:¬ wr.heap.size=q3:=by have:=HQ.out;omega
   have n16:¬ q1=wr.heap.size:=by have:=HQ.out;omega
   have n17:¬ q2=wr.heap.size:=by have:=HQ.out;omega
   have n18:¬ q3=wr.heap.size:=by have:=HQ.out;omega
   clear h8;generalize hW:wr.alloc (.cells #[.int .u8 (c.1:Int),.int .i64 c.2.1,.string (am c.2.2)] 52)=W at *;by_cases oD:c.1=0
   ·have hc0':((c.1:Int)==0)=true:=by rw[oD];rfl
    have hx:=HX0.out oD;clear HX0 J3;subst hx;have Hj:wrap64 ((j:Int)-(ns2.length:Int)+1)=(j:Int)-(ns2.length:Int)+1:=by have:=HL.out;have:=Zq.out;unfold wrap64;omega
    have rM:=ae (i6.out.nulls HQ.out.1 HQ.out.2.1 HQ.out.2.2 ((j:Int)-(ns2.length:Int)+1));have bM:=ae (aN.out.setCell (p:=⟨q1,1,none⟩) (jac HQ.out.1) (.int .i64 ((j:Int)-(ns2.length:Int)+1)));clear oD;go_wp2_with fail;go_roundw
    case rel =>
     refine⟨j+1,UY.out,HWJ.out,by rw[EI.out],?_,bM.out⟩;have:=rM.out;rw[EI.out,show ((j+1:Nat):Int)-(ns2.length:Int)=(j:Int)-(ns2.length:Int)+1 by omega];exact this
    case measure=>exact Su.out _ rfl
   ·have hc0':((c.1:Int)==0)=false:=Z1.2 (by omega)
    have hx:=J3.out oD;clear HX0 J3
    have cP:Hid (∀(X:World) (cl:Bool) (lo hi:Cl),cl=ckM (ns++[c])->lo=leM (ns++[c])->hi=moM (ns++[c])->Rw X w.heap.size q1 q2 q3 ⟨cs.length,(j:Int)-(ns.length:Nat),true,false,nul,nul⟩ lo hi->Below w.heap.size w X ->
      ∃ j1:Nat,j1<=cs.length/\Value.int .i64 (wrap64 ((j:Int)+1))=.int .i64 (j1:Int)/\Value.bool cl=.bool (ckM (aY (cs.take j1)))/\Rw X w.heap.size q1 q2 q3 ⟨cs.length,(j1:Int)-((aY (cs.take j1)).length:Nat),soM (aY (cs.take j1)),false,nul,nul⟩ (leM (aY (cs.take j1))) (moM (aY (cs.take j1)))/\Below w.heap.size w X):=ae (by
     intro X cl lo hi e1 e2 e3 h1 h2;refine⟨j+1,UY.out,HWJ.out,by rw[EI.out,e1,hx],?_,h2⟩;rw[EI.out,hx,Q7,← e2,← e3,ZT,show ((j+1:Nat):Int)-((ns.length+[c].length:Nat):Int)=(j:Int)-(ns.length:Int) by simp only[ZW,jad];omega];exact h1)
    have mT:Hid (ckM (ns++[c])=(ckM ns && (!decide (c.1=3) || eK c))):=ae (Q6 ns c);have ui:Hid (leM (ns++[c])=if soM ns=false∨cO c (leM ns)<0 then c else leM ns):=ae (Q8 ns c);have Wr:Hid (moM (ns++[c])=if soM ns=false∨cO (moM ns) c<0 then c else moM ns):=ae (Q9 ns c);have X9:=ae (nY (am c.2.2) (by have:=Bx.out.short;omega));have VJ:=ae (VB c (leM ns));have HL2:=ae (VB (moM ns) c);have rz:Hid (w.heap.size<=wr.heap.size):=ae bO;clear oD hx EI;generalize RG:soM ns=so at *;generalize leM ns=lo at *;generalize moM ns=hi at *;generalize ckM ns=cl at *;generalize ckM (ns++[c])=cl' at *;generalize leM (ns++[c])=lo' at *;generalize moM (ns++[c])=hi' at *;clear RG bO;generalize (j:Int)-(ns.length:Int)=mm at *;have xz:((c.1:Int)==3)=true∨((c.1:Int)==3)=false:=by cases ((c.1:Int)==3)<;>simp
    rcases xz with h3 | h3
    ·have pe:Hid (cl'=(cl && dI (lb (am c.2.2)))):=ae (by
      have:c.1=3:=by have:=eq_of_beq h3;omega
      rw[mT.out,this];rfl)
     go_wp2_with fail;refine(X9.out _).mono ?_;rintro e w2 ⟨⟨sa,sb,rfl,_,_⟩,aP⟩;have rM:=ae (i6.out.kept aP);have bM:=ae (ai aN.out aP);have MP:=ae (mP.out.kept aP);clear aP i6 aN mP d0 d1 d2 r1 r2 l0 l1 l2 m0 m1 m2 fq0 fq1 fq2 fq3;obtain⟨⟨d0,d1,d2⟩,_,_⟩:=MP.out.facts;obtain⟨⟨r1,r2,_⟩,⟨l0,l1,l2⟩,⟨m0,m1,m2⟩,fq0,fq1,fq2,fq3⟩:=rM.out.facts;simp only at r1 r2;generalize dI (lb (am c.2.2))=ck at *;have uz:Hid (cl'=(if cl=true then ck else false)):=ae (by rw[pe.out];cases cl<;>rfl);clear pe;cases cl
     all_goals
      simp only[if_true,if_false,Bool.false_eq_true]at uz;cases so
      ·have J5:Hid (lo'=c):=ae (by rw[ui.out,if_pos (Or.inl rfl)])
       have yn:Hid (hi'=c):=ae (by rw[Wr.out,if_pos (Or.inl rfl)]);have pn:=ae (((rM.out.lo HQ.out.1 HQ.out.2.1 HQ.out.2.2 c).hi HQ.out.1 HQ.out.2.1 HQ.out.2.2 c).some HQ.out.1 HQ.out.2.1 HQ.out.2.2);have sU:=ae ((set3 (set3 bM.out (jac (jaq HQ.out.1 HQ.out.2.1)) (.int .u8 (c.1:Int)) (.int .i64 c.2.1) (.string (am c.2.2))) (jac (jaq (jaq HQ.out.1 HQ.out.2.1) HQ.out.2.2)) (.int .u8 (c.1:Int)) (.int .i64 c.2.1) (.string (am c.2.2))).setCell (p:=⟨q1,2,none⟩) (jac HQ.out.1) (.bool true));clear ui Wr;go_wp2_with fail;go_roundw
       case rel=>exact cP.out _ _ c c uz.out.symm J5.out.symm yn.out.symm pn.out sU.out
       case measure=>exact Su.out _ rfl
      ·have J5:Hid (lo'=if decide (cO c lo<0)=true then c else lo):=ae (by rw[ui.out];simp)
       have yn:Hid (hi'=if decide (cO hi c<0)=true then c else hi):=ae (by rw[Wr.out];simp);clear ui Wr;generalize decide (cO c lo<0)=b1 at *;generalize decide (cO hi c<0)=b2 at *;go_wp2_with fail;refine(VJ.out _).mono ?_;rintro e w4 ⟨rfl,bv⟩;have zT:=ae (rM.out.kept bv);have b9:=ae (ai bM.out bv);have xt:=ae (MP.out.kept bv);clear bv rM bM MP d0 d1 d2 r1 r2 l0 l1 l2 m0 m1 m2 fq0 fq1 fq2 fq3;obtain⟨⟨d0,d1,d2⟩,_,_⟩:=xt.out.facts;obtain⟨⟨r1,r2,_⟩,⟨l0,l1,l2⟩,⟨m0,m1,m2⟩,fq0,fq1,fq2,fq3⟩:=zT.out.facts;simp only at r1 r2;cases b1
       ·have xu:Hid (lo'=lo):=ae J5.out
        clear J5;go_wp2_with fail;refine(HL2.out _).mono ?_;rintro e w5 ⟨rfl,bq⟩;have uw:=ae (zT.out.kept bq);have aR:=ae (ai b9.out bq);have Ji:=ae (xt.out.kept bq);clear bq zT b9 xt d0 d1 d2 r1 r2 l0 l1 l2 m0 m1 m2 fq0 fq1 fq2 fq3;obtain⟨⟨d0,d1,d2⟩,_,_⟩:=Ji.out.facts;obtain⟨⟨r1,r2,_⟩,⟨l0,l1,l2⟩,⟨m0,m1,m2⟩,fq0,fq1,fq2,fq3⟩:=uw.out.facts;simp only at r1 r2;cases b2
        ·have p8:Hid (hi'=hi):=ae yn.out
         have pn:=ae (uw.out.some HQ.out.1 HQ.out.2.1 HQ.out.2.2);have sU:=ae (aR.out.setCell (p:=⟨q1,2,none⟩) (jac HQ.out.1) (.bool true));clear yn;go_wp2_with fail;go_roundw
         case rel=>exact cP.out _ _ lo hi uz.out.symm xu.out.symm p8.out.symm pn.out sU.out
         case measure=>exact Su.out _ rfl
        ·have p8:Hid (hi'=c):=ae yn.out
         have pn:=ae ((uw.out.hi HQ.out.1 HQ.out.2.1 HQ.out.2.2 c).some HQ.out.1 HQ.out.2.1 HQ.out.2.2);have sU:=ae ((set3 aR.out (jac (jaq (jaq HQ.out.1 HQ.out.2.1) HQ.out.2.2)) (.int .u8 (c.1:Int)) (.int .i64 c.2.1) (.string (am c.2.2))).setCell (p:=⟨q1,2,none⟩) (jac HQ.out.1) (.bool true));clear yn;go_wp2_with fail;go_roundw
         case rel=>exact cP.out _ _ lo c uz.out.symm xu.out.symm p8.out.symm pn.out sU.out
         case measure=>exact Su.out _ rfl
       ·have xu:Hid (lo'=c):=ae J5.out
        clear J5;go_wp2_with fail;have HR4':=ae (zT.out.lo HQ.out.1 HQ.out.2.1 HQ.out.2.2 c);have HB4':=ae (set3 b9.out (jac (jaq HQ.out.1 HQ.out.2.1)) (.int .u8 (c.1:Int)) (.int .i64 c.2.1) (.string (am c.2.2)));have HCN4':=ae (((xt.out.other n14 0 (.int .u8 (c.1:Int))).other n14 1 (.int .i64 c.2.1)).other n14 2 (.string (am c.2.2)));refine(HL2.out _).mono ?_;rintro e w5 ⟨rfl,bq⟩;have uw:=ae (HR4'.out.kept bq);have aR:=ae (ai HB4'.out bq);have Ji:=ae (HCN4'.out.kept bq);clear bq zT b9 xt HR4' HB4' HCN4' d0 d1 d2 r1 r2 l0 l1 l2 m0 m1 m2 fq0 fq1 fq2 fq3;obtain⟨⟨d0,d1,d2⟩,_,_⟩:=Ji.out.facts;obtain⟨⟨r1,r2,_⟩,⟨l0,l1,l2⟩,⟨m0,m1,m2⟩,fq0,fq1,fq2,fq3⟩:=uw.out.facts;simp only at r1 r2;cases b2
        ·have p8:Hid (hi'=hi):=ae yn.out
         have pn:=ae (uw.out.some HQ.out.1 HQ.out.2.1 HQ.out.2.2);have sU:=ae (aR.out.setCell (p:=⟨q1,2,none⟩) (jac HQ.out.1) (.bool true));clear yn;go_wp2_with fail;go_roundw
         case rel=>exact cP.out _ _ c hi uz.out.symm xu.out.symm p8.out.symm pn.out sU.out
         case measure=>exact Su.out _ rfl
        ·have p8:Hid (hi'=c):=ae yn.out
         have pn:=ae ((uw.out.hi HQ.out.1 HQ.out.2.1 HQ.out.2.2 c).some HQ.out.1 HQ.out.2.1 HQ.out.2.2);have sU:=ae ((set3 aR.out (jac (jaq (jaq HQ.out.1 HQ.out.2.1) HQ.out.2.2)) (.int .u8 (c.1:Int)) (.int .i64 c.2.1) (.string (am c.2.2))).setCell (p:=⟨q1,2,none⟩) (jac HQ.out.1) (.bool true));clear yn;go_wp2_with fail;go_roundw
         case rel=>exact cP.out _ _ c c uz.out.symm xu.out.symm p8.out.symm pn.out sU.out
         case measure=>exact Su.out _ rfl
    ·have uz:Hid (cl'=cl):=ae (by
      have:¬ c.1=3:=fun h=>by rw[h]at h3;simp at h3
      rw[mT.out];simp[this])
     have rM:=i6;have bM:=aN;have MP:=mP;clear i6 aN mP;cases so
     ·have J5:Hid (lo'=c):=ae (by rw[ui.out,if_pos (Or.inl rfl)])
      have yn:Hid (hi'=c):=ae (by rw[Wr.out,if_pos (Or.inl rfl)]);have pn:=ae (((rM.out.lo HQ.out.1 HQ.out.2.1 HQ.out.2.2 c).hi HQ.out.1 HQ.out.2.1 HQ.out.2.2 c).some HQ.out.1 HQ.out.2.1 HQ.out.2.2);have sU:=ae ((set3 (set3 bM.out (jac (jaq HQ.out.1 HQ.out.2.1)) (.int .u8 (c.1:Int)) (.int .i64 c.2.1) (.string (am c.2.2))) (jac (jaq (jaq HQ.out.1 HQ.out.2.1) HQ.out.2.2)) (.int .u8 (c.1:Int)) (.int .i64 c.2.1) (.string (am c.2.2))).setCell (p:=⟨q1,2,none⟩) (jac HQ.out.1) (.bool true));clear ui Wr;go_wp2_with fail;go_roundw
      case rel=>exact cP.out _ _ c c uz.out.symm J5.out.symm yn.out.symm pn.out sU.out
      case measure=>exact Su.out _ rfl
     ·have J5:Hid (lo'=if decide (cO c lo<0)=true then c else lo):=ae (by rw[ui.out];simp)
      have yn:Hid (hi'=if decide (cO hi c<0)=true then c else hi):=ae (by rw[Wr.out];simp);clear ui Wr;generalize decide (cO c lo<0)=b1 at *;generalize decide (cO hi c<0)=b2 at *;go_wp2_with fail;refine(VJ.out _).mono ?_;rintro e w4 ⟨rfl,bv⟩;have zT:=ae (rM.out.kept bv);have b9:=ae (ai bM.out bv);have xt:=ae (MP.out.kept bv);clear bv rM bM MP d0 d1 d2 r1 r2 l0 l1 l2 m0 m1 m2 fq0 fq1 fq2 fq3;obtain⟨⟨d0,d1,d2⟩,_,_⟩:=xt.out.facts;obtain⟨⟨r1,r2,_⟩,⟨l0,l1,l2⟩,⟨m0,m1,m2⟩,fq0,fq1,fq2,fq3⟩:=zT.out.facts;simp only at r1 r2;cases b1
      ·have xu:Hid (lo'=lo):=ae J5.out
       clear J5;go_wp2_with fail;refine(HL2.out _).mono ?_;rintro e w5 ⟨rfl,bq⟩;have uw:=ae (zT.out.kept bq);have aR:=ae (ai b9.out bq);have Ji:=ae (xt.out.kept bq);clear bq zT b9 xt d0 d1 d2 r1 r2 l0 l1 l2 m0 m1 m2 fq0 fq1 fq2 fq3;obtain⟨⟨d0,d1,d2⟩,_,_⟩:=Ji.out.facts;obtain⟨⟨r1,r2,_⟩,⟨l0,l1,l2⟩,⟨m0,m1,m2⟩,fq0,fq1,fq2,fq3⟩:=uw.out.facts;simp only at r1 r2;cases b2
       ·have p8:Hid (hi'=hi):=ae yn.out
        have pn:=ae (uw.out.some HQ.out.1 HQ.out.2.1 HQ.out.2.2);have sU:=ae (aR.out.setCell (p:=⟨q1,2,none⟩) (jac HQ.out.1) (.bool true));clear yn;go_wp2_with fail;go_roundw
        case rel=>exact cP.out _ _ lo hi uz.out.symm xu.out.symm p8.out.symm pn.out sU.out
        case measure=>exact Su.out _ rfl
       ·have p8:Hid (hi'=c):=ae yn.out
        have pn:=ae ((uw.out.hi HQ.out.1 HQ.out.2.1 HQ.out.2.2 c).some HQ.out.1 HQ.out.2.1 HQ.out.2.2);have sU:=ae ((set3 aR.out (jac (jaq (jaq HQ.out.1 HQ.out.2.1) HQ.out.2.2)) (.int .u8 (c.1:Int)) (.int .i64 c.2.1) (.string (am c.2.2))).setCell (p:=⟨q1,2,none⟩) (jac HQ.out.1) (.bool true));clear yn;go_wp2_with fail;go_roundw
        case rel=>exact cP.out _ _ lo c uz.out.symm xu.out.symm p8.out.symm pn.out sU.out
        case measure=>exact Su.out _ rfl
      ·have xu:Hid (lo'=c):=ae J5.out
       clear J5;go_wp2_with fail;have HR4':=ae (zT.out.lo HQ.out.1 HQ.out.2.1 HQ.out.2.2 c);have HB4':=ae (set3 b9.out (jac (jaq HQ.out.1 HQ.out.2.1)) (.int .u8 (c.1:Int)) (.int .i64 c.2.1) (.string (am c.2.2)));have HCN4':=ae (((xt.out.other n14 0 (.int .u8 (c.1:Int))).other n14 1 (.int .i64 c.2.1)).other n14 2 (.string (am c.2.2)));refine(HL2.out _).mono ?_;rintro e w5 ⟨rfl,bq⟩;have uw:=ae (HR4'.out.kept bq);have aR:=ae (ai HB4'.out bq);have Ji:=ae (HCN4'.out.kept bq);clear bq zT b9 xt HR4' HB4' HCN4' d0 d1 d2 r1 r2 l0 l1 l2 m0 m1 m2 fq0 fq1 fq2 fq3;obtain⟨⟨d0,d1,d2⟩,_,_⟩:=Ji.out.facts;obtain⟨⟨r1,r2,_⟩,⟨l0,l1,l2⟩,⟨m0,m1,m2⟩,fq0,fq1,fq2,fq3⟩:=uw.out.facts;simp only at r1 r2;cases b2
       ·have p8:Hid (hi'=hi):=ae yn.out
        have pn:=ae (uw.out.some HQ.out.1 HQ.out.2.1 HQ.out.2.2);have sU:=ae (aR.out.setCell (p:=⟨q1,2,none⟩) (jac HQ.out.1) (.bool true));clear yn;go_wp2_with fail;go_roundw
        case rel=>exact cP.out _ _ c hi uz.out.symm xu.out.symm p8.out.symm pn.out sU.out
        case measure=>exact Su.out _ rfl
       ·have p8:Hid (hi'=c):=ae yn.out
        have pn:=ae ((uw.out.hi HQ.out.1 HQ.out.2.1 HQ.out.2.2 c).some HQ.out.1 HQ.out.2.1 HQ.out.2.2);have sU:=ae ((set3 aR.out (jac (jaq (jaq HQ.out.1 HQ.out.2.1) HQ.out.2.2)) (.int .u8 (c.1:Int)) (.int .i64 c.2.1) (.string (am c.2.2))).setCell (p:=⟨q1,2,none⟩) (jac HQ.out.1) (.bool true));clear yn;go_wp2_with fail;go_roundw
        case rel=>exact cP.out _ _ c c uz.out.symm xu.out.symm p8.out.symm pn.out sU.out
        case measure=>exact Su.out _ rfl
  ·obtain rfl:j=cs.length:=by omega
   rw[ZY]at HR ⊢;have gJ:¬ ((cs.length:Nat):Int)<(cs.length:Int):=by omega
   have Zq:Hid ((aY cs).length<=cs.length):=ae (jbf _ _)
   have ZO:Hid (fL cs=if soM (aY cs)=false then ⟨cs.length,(cs.length:Int)-((aY cs).length:Nat),false,false,nul,nul⟩
    else if (leM (aY cs)).1=3 then (if ckM (aY cs)=false then ⟨cs.length,(cs.length:Int)-((aY cs).length:Nat),true,false,((leM (aY cs)).1,(leM (aY cs)).2.1,[]),nul⟩
     else match dV (lb (am (moM (aY cs)).2.2)) 4 with
      | none=>⟨cs.length,(cs.length:Int)-((aY cs).length:Nat),true,false,((leM (aY cs)).1,(leM (aY cs)).2.1,nb (bV (lb (am (leM (aY cs)).2.2)) 4)),nul⟩
      | some a=>⟨cs.length,(cs.length:Int)-((aY cs).length:Nat),true,true,((leM (aY cs)).1,(leM (aY cs)).2.1,nb (bV (lb (am (leM (aY cs)).2.2)) 4)),((moM (aY cs)).1,(moM (aY cs)).2.1,nb a)⟩)
    else ⟨cs.length,(cs.length:Int)-((aY cs).length:Nat),true,true,leM (aY cs),moM (aY cs)⟩):=ae rfl
   have Mw:Hid (∀ c∈aY cs,aU c):=ae (fun c hc=>HF.out c (by unfold aY at hc;exact(jbq.1 hc).1))
   have J2:Hid (aU (leM (aY cs))):=ae (by
    have:=Mw.out;cases hn:aY cs with
    | nil=>exact Or.inl rfl
    | cons x r=>rw[hn]at this;exact lN (this x (by simp)) (fun c hc=>this c (by simp[hc])))
   have lw:Hid (aU (moM (aY cs))):=ae (by
    have:=Mw.out;cases hn:aY cs with
    | nil=>exact Or.inl rfl
    | cons x r=>rw[hn]at this;exact nt (this x (by simp)) (fun c hc=>this c (by simp[hc])))
   generalize ckM (aY cs)=ck at *;generalize soM (aY cs)=so at *;generalize leM (aY cs)=lo at *;generalize moM (aY cs)=hi at *;generalize (cs.length:Int)-((aY cs).length:Nat)=mm at *;obtain⟨n1,n2,n3,n4,n5,n6,n7,n8,n9,n10,n11,n12⟩:=MY.out;cases so
   ·have yl:Hid (fL cs=⟨cs.length,mm,false,false,nul,nul⟩):=ae (by rw[ZO.out,if_pos rfl])
    obtain⟨_,⟨r0,r1,r2,r3⟩,⟨r4,r5,r6⟩,r7,r8,r9⟩:=HR.out.2.1.at;obtain⟨_,⟨z0,z1,z2,z3⟩,⟨z4,z5,z6⟩,z7,z8,z9⟩:=HR.out.1.at;obtain⟨_,_,_,fq0,fq1,fq2,fq3⟩:=HR.out.facts;simp only[jaf]at r0 r1 r2 r3 r4 r5 r6 r7 r8 r9 z0 z1 z2 z3 z4 z5 z6 z7 z8 z9;clear ZO;go_wp2_with fail;refine bodyPost_ret (v:=.agg #[.int .i64 (cs.length:Int),.int .i64 mm,.bool false,.bool false,.int .u8 0,.int .i64 0,.string ⟨#[]⟩,.int .u8 0,.int .i64 0,.string ⟨#[]⟩]) (by simp[results,Tryz.results25,go_sem,nul,iO,z0,z1,z2,z3,z4,z5,z6,z7,z8,z9]) rfl ⟨?_,?_⟩
    ·rw[yl.out]
     rfl
    ·have:=HQ.out
     repeat refine fh ?_ (by omega) _ _
     exact HB.out
   ·by_cases h3:lo.1=3
    ·have h3':((lo.1:Int)==3)=true:=by rw[h3];rfl
     have Mv:=ae (Au (am lo.2.2) 4 (by have:=J2.out.short;omega));have VR:=ae (AE (am hi.2.2) 4 (by have:=lw.out.short;omega))
     have yl:Hid (fL cs=if ck=false then ⟨cs.length,mm,true,false,(lo.1,lo.2.1,[]),nul⟩ else match dV (lb (am hi.2.2)) 4 with
      | none=>⟨cs.length,mm,true,false,(lo.1,lo.2.1,nb (bV (lb (am lo.2.2)) 4)),nul⟩
      | some a=>⟨cs.length,mm,true,true,(lo.1,lo.2.1,nb (bV (lb (am lo.2.2)) 4)),(hi.1,hi.2.1,nb a)⟩):=ae (by rw[ZO.out,if_neg (by simp),if_pos h3])
     obtain⟨⟨r1,r2,r3⟩,⟨l0,l1,l2⟩,_,fq0,fq1,fq2,fq3⟩:=HR.out.facts;simp only at r1 r2 r3;clear h3 ZO;go_wp2_with fail;have HR':=ae (HR.out.high HQ.out.1 HQ.out.2.1 HQ.out.2.2 true);have HB':=ae (HB.out.setCell (p:=⟨q1,3,none⟩) (jac HQ.out.1) (.bool true));refine(Mv.out _).mono ?_;rintro e w3 ⟨⟨t,rfl,ht⟩,aP⟩;have rM:=ae (HR'.out.kept aP);have bM:=ae (ai HB'.out aP);have Bz:=ae (JI ht);clear aP ht HR HB HR' HB' r1 r2 r3 l0 l1 l2 fq0 fq1 fq2 fq3;cases ck
     ·have Ws:Hid (fL cs=⟨cs.length,mm,true,false,(lo.1,lo.2.1,[]),nul⟩):=ae (by rw[yl.out,if_pos rfl])
      clear yl;obtain⟨_,⟨r0,r1,r2,r3⟩,⟨r4,r5,r6⟩,r7,r8,r9⟩:=rM.out.2.1.at;obtain⟨_,⟨z0,z1,z2,z3⟩,⟨z4,z5,z6⟩,z7,z8,z9⟩:=rM.out.1.at;obtain⟨_,⟨l0,l1,l2⟩,⟨m0,m1,m2⟩,fq0,fq1,fq2,fq3⟩:=rM.out.facts;simp only[jaf]at r0 r1 r2 r3 r4 r5 r6 r7 r8 r9 z0 z1 z2 z3 z4 z5 z6 z7 z8 z9 l0 l1 l2 m0 m1 m2;go_wp2_with fail;refine bodyPost_ret (v:=.agg #[.int .i64 (cs.length:Int),.int .i64 mm,.bool true,.bool false,.int .u8 (lo.1:Int),.int .i64 lo.2.1,.string ⟨#[]⟩,.int .u8 0,.int .i64 0,.string ⟨#[]⟩]) (by simp[results,Tryz.results25,go_sem,nul,iO,z0,z1,z2,z3,z4,z5,z6,z7,z8,z9,n1,n2,n3,n4,n5,n6,n7,n8,n9,n10,n11,n12]) rfl ⟨?_,?_⟩
      ·rw[Ws.out]
       rfl
      ·have:=HQ.out
       repeat refine fh ?_ (by omega) _ _
       exact bM.out
     ·have Ws:Hid (fL cs=match dV (lb (am hi.2.2)) 4 with
       | none=>⟨cs.length,mm,true,false,(lo.1,lo.2.1,nb (bV (lb (am lo.2.2)) 4)),nul⟩
       | some a=>⟨cs.length,mm,true,true,(lo.1,lo.2.1,nb (bV (lb (am lo.2.2)) 4)),(hi.1,hi.2.1,nb a)⟩):=ae (by rw[yl.out,if_neg (by simp)])
      clear yl;rw[Bz.out];generalize nb (bV (lb (am lo.2.2)) 4)=fl at *;obtain⟨⟨r1,r2,r3⟩,⟨l0,l1,l2⟩,⟨m0,m1,m2⟩,fq0,fq1,fq2,fq3⟩:=rM.out.facts;simp only at r1 r2 r3;clear Bz;go_wp2_with fail;have HR3':=ae (rM.out.loS HQ.out.1 HQ.out.2.1 HQ.out.2.2 fl);have HB3':=ae (bM.out.setCell (p:=⟨q2,2,none⟩) (jac (jaq HQ.out.1 HQ.out.2.1)) (.string (am fl)));refine(VR.out _).mono ?_;rintro e w4 ⟨⟨t2,o,rfl,ho,Hd⟩,bv⟩;have zT:=ae (HR3'.out.kept bv);have b9:=ae (ai HB3'.out bv);clear bv rM bM HR3' HB3' r1 r2 r3 l0 l1 l2 m0 m1 m2 fq0 fq1 fq2 fq3;cases Rl:dV (lb (am hi.2.2)) 4 with
      | none =>
       rw[Rl]at Ws ho;have ho':o=false:=ho;subst ho';have HD4:Hid (fL cs=⟨cs.length,mm,true,false,(lo.1,lo.2.1,fl),nul⟩):=ae Ws.out;clear Rl ho Hd Ws;obtain⟨_,⟨r0,r1,r2,r3⟩,⟨r4,r5,r6⟩,r7,r8,r9⟩:=zT.out.2.1.at;obtain⟨_,⟨z0,z1,z2,z3⟩,⟨z4,z5,z6⟩,z7,z8,z9⟩:=zT.out.1.at;obtain⟨_,⟨l0,l1,l2⟩,⟨m0,m1,m2⟩,fq0,fq1,fq2,fq3⟩:=zT.out.facts;simp only[jaf]at r0 r1 r2 r3 r4 r5 r6 r7 r8 r9 z0 z1 z2 z3 z4 z5 z6 z7 z8 z9 l0 l1 l2 m0 m1 m2;go_wp2_with fail;refine bodyPost_ret (v:=.agg #[.int .i64 (cs.length:Int),.int .i64 mm,.bool true,.bool false,.int .u8 (lo.1:Int),.int .i64 lo.2.1,.string (am fl),.int .u8 0,.int .i64 0,.string ⟨#[]⟩]) (by simp[results,Tryz.results25,go_sem,nul,iO,z0,z1,z2,z3,z4,z5,z6,z7,z8,z9,n1,n2,n3,n4,n5,n6,n7,n8,n9,n10,n11,n12]) rfl ⟨?_,?_⟩
       ·rw[HD4.out]
        rfl
       ·have:=HQ.out
        repeat refine fh ?_ (by omega) _ _
        exact b9.out
      | some av =>
       rw[Rl]at Ws ho Hd;have ho':o=true:=ho;subst ho';have HD4:Hid (fL cs=⟨cs.length,mm,true,true,(lo.1,lo.2.1,fl),(hi.1,hi.2.1,nb av)⟩):=ae Ws.out;have Bz:=ae (JI (show lb t2=av from Hd));clear Rl ho Hd Ws;obtain⟨_,⟨r0,r1,r2,r3⟩,⟨r4,r5,r6⟩,r7,r8,r9⟩:=zT.out.2.1.at;obtain⟨_,⟨z0,z1,z2,z3⟩,⟨z4,z5,z6⟩,z7,z8,z9⟩:=zT.out.1.at;obtain⟨_,⟨l0,l1,l2⟩,⟨m0,m1,m2⟩,fq0,fq1,fq2,fq3⟩:=zT.out.facts;simp only[jaf]at r0 r1 r2 r3 r4 r5 r6 r7 r8 r9 z0 z1 z2 z3 z4 z5 z6 z7 z8 z9 l0 l1 l2 m0 m1 m2;go_wp2_with fail;refine bodyPost_ret (v:=.agg #[.int .i64 (cs.length:Int),.int .i64 mm,.bool true,.bool true,.int .u8 (lo.1:Int),.int .i64 lo.2.1,.string (am fl),.int .u8 (hi.1:Int),.int .i64 hi.2.1,.string t2]) (by simp[results,Tryz.results25,go_sem,nul,iO,z0,z1,z2,z3,z4,z5,z6,z7,z8,z9,n1,n2,n3,n4,n5,n6,n7,n8,n9,n10,n11,n12]) rfl ⟨?_,?_⟩
       ·rw[HD4.out,Bz.out]
        rfl
       ·have:=HQ.out
        repeat refine fh ?_ (by omega) _ _
        exact b9.out
    ·have h3':((lo.1:Int)==3)=false:=Z1.2 (by omega)
     have yl:Hid (fL cs=⟨cs.length,mm,true,true,lo,hi⟩):=ae (by rw[ZO.out,if_neg (by simp),if_neg h3]);clear h3 ZO;obtain⟨_,⟨r0,r1,r2,r3⟩,⟨r4,r5,r6⟩,r7,r8,r9⟩:=HR.out.2.1.at;obtain⟨_,⟨z0,z1,z2,z3⟩,⟨z4,z5,z6⟩,z7,z8,z9⟩:=HR.out.1.at;obtain⟨_,⟨l0,l1,l2⟩,⟨m0,m1,m2⟩,fq0,fq1,fq2,fq3⟩:=HR.out.facts;simp only[jaf]at r0 r1 r2 r3 r4 r5 r6 r7 r8 r9 z0 z1 z2 z3 z4 z5 z6 z7 z8 z9 l0 l1 l2 m0 m1 m2;go_wp2_with fail;refine bodyPost_ret (v:=.agg #[.int .i64 (cs.length:Int),.int .i64 mm,.bool true,.bool true,.int .u8 (lo.1:Int),.int .i64 lo.2.1,.string (am lo.2.2),.int .u8 (hi.1:Int),.int .i64 hi.2.1,.string (am hi.2.2)]) (by simp[results,Tryz.results25,go_sem,nul,iO,z0,z1,z2,z3,z4,z5,z6,z7,z8,z9,n1,n2,n3,n4,n5,n6,n7,n8,n9,n10,n11,n12]) rfl ⟨?_,?_⟩
     ·rw[yl.out]
      rfl
     ·have:=HQ.out
      repeat refine fh ?_ (by omega) _ _
      exact HB.out
end Go.Proofs.YtpljdjmpamjkhaaGreatDoor
