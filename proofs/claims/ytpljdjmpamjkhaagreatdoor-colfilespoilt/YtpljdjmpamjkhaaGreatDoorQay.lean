import Derived.Test.YtpljdjmpamjkhaaGreatDoorQak
set_option linter.unusedVariables false
set_option linter.unusedSimpArgs false
set_option maxRecDepth 100000
set_option maxHeartbeats 16000000
namespace Go.Proofs.YtpljdjmpamjkhaaGreatDoor
open Go.RowKit Go.Lib
theorem ZY(a b:Cl)(w:World):Calls Tryz.prog 61 #[.agg #[.int .u8 (a.1:Int),.int .i64 a.2.1,.string (am a.2.2)],.agg #[.int .u8 (b.1:Int),.int .i64 b.2.1,.string (am b.2.2)]] w fun e w'=>e=.returned (.bool (decide (cW a b<0)))/\Below w.heap.size w w':=by
 refine XT _ _ _ _ _ _ _ ?_ w;rw[ls_cv];have:=JA a b;show decide (cW a b=-1)=_
 rcases this with h | h | h
 ·rw[h];rfl
 ·rw[h];rfl
 ·rw[h];rfl
theorem AJ:∀(r:List Cl) (m c:Cl),gx m (r++[c])=if cW c (gx m r)<0 then c else gx m r
 | [],m,c=>rfl
 | x::r,m,c=>by
  rw[jfc,gx,AJ r,gx]
theorem AK:∀(r:List Cl) (m c:Cl),eK m (r++[c])=if 0<cW c (eK m r) then c else eK m r
 | [],m,c=>rfl
 | x::r,m,c=>by
  rw[jfc,eK,AK r,eK]
def soM(ns:List Cl):Bool:=!ns.isEmpty
def leM:List Cl->Cl
 | []=>nul
 | x::r=>gx x r
def moM:List Cl->Cl
 | []=>nul
 | x::r=>eK x r
def ckM(ns:List Cl):Bool:=ns.all fun c=>!decide (c.1=3) || eT c
theorem Vd(ns:List Cl)(c:Cl):ckM (ns++[c])=(ckM ns && (!decide (c.1=3) || eT c)):=by simp[ckM]
theorem Ve(ns:List Cl)(c:Cl):soM (ns++[c])=true:=by simp[soM]
theorem Vf(ns:List Cl)(c:Cl):leM (ns++[c])=if soM ns=false∨cW c (leM ns)<0 then c else leM ns:=by
 cases ns with
 | nil=>rfl
 | cons x r =>
  show gx x (r++[c])=_
  rw[AJ];simp[soM,leM]
theorem Vg(ns:List Cl)(c:Cl):moM (ns++[c])=if soM ns=false∨cW (moM ns) c<0 then c else moM ns:=by
 cases ns with
 | nil=>rfl
 | cons x r =>
  show eK x (r++[c])=_
  rw[AK];have h:=NW c (eK x r);by_cases h2:0<cW c (eK x r)
  ·rw[jei h2]
   have h4:soM (x::r)=false∨cW (moM (x::r)) c<0:=Or.inr (show cW (eK x r) c<0 by omega);rw[jei h4]
  ·rw[jeh h2]
   have h4:¬ (soM (x::r)=false∨cW (moM (x::r)) c<0):=fun h3=>by
    rcases h3 with h3 | h3
    ·simp[soM]at h3
    ·have h4:cW (eK x r) c<0:=h3
     omega
   rw[jeh h4];rfl
theorem Qh{cs:List Cl}{j:Nat}(h:j<cs.length)(h0:cs[j].1=0):aZ (cs.take (j+1))=aZ (cs.take j):=by
 unfold aZ;rw[jeA h,jfX];simp[h0]
theorem Qi{cs:List Cl}{j:Nat}(h:j<cs.length)(h0:cs[j].1≠0):aZ (cs.take (j+1))=aZ (cs.take j)++[cs[j]]:=by
 unfold aZ;rw[jeA h,jfX];simp[h0]
def Rw(W:World)(q0 q1 q2 q3:Nat)(st:Stt)(lo hi:Cl):Prop :=
 Stb W q0 stZ/\Stb W q1 st/\Ceb W q2 (.int .u8 (lo.1:Int)) (.int .i64 lo.2.1) (.string (am lo.2.2))/\Ceb W q3 (.int .u8 (hi.1:Int)) (.int .i64 hi.2.1) (.string (am hi.2.2))
theorem Rw.kept{W X:World}{q0 q1 q2 q3:Nat}{st:Stt}{lo hi:Cl}(h:Rw W q0 q1 q2 q3 st lo hi)(hb:Below W.heap.size W X):Rw X q0 q1 q2 q3 st lo hi:=⟨h.1.kept hb,h.2.1.kept hb,h.2.2.1.kept hb,h.2.2.2.kept hb⟩
theorem Ceb.other{W:World}{p q:Nat}{x y z:Value}(h:Ceb W q x y z)(hn:q≠p)(i:Nat)(v:Value):Ceb (W.setCell ⟨p,i,none⟩ v) q x y z:=by
 unfold Ceb at *;rw[heap_setCell_other _ ⟨p,i,none⟩ q _ hn];exact h
theorem Ceb.put{W:World}{p:Nat}{x y z:Value}(h:Ceb W p x y z)(x' y' z':Value):Ceb (((W.setCell ⟨p,0,none⟩ x').setCell ⟨p,1,none⟩ y').setCell ⟨p,2,none⟩ z') p x' y' z':=by
 unfold Ceb at *;rw[cM (cM (cM h 0 _) 1 _) 2 _];rfl
theorem Ceb.put2{W:World}{p:Nat}{x y z:Value}(h:Ceb W p x y z)(z':Value):Ceb (W.setCell ⟨p,2,none⟩ z') p x y z':=by
 unfold Ceb at *;rw[cM h 2 _];rfl
theorem Rw.nulls{W:World}{q0 q1 q2 q3:Nat}{st:Stt}{lo hi:Cl}(h:Rw W q0 q1 q2 q3 st lo hi)(h0:q0<q1)(h1:q1<q2)(h2:q2<q3)(m:Int):Rw (W.setCell ⟨q1,1,none⟩ (.int .i64 m)) q0 q1 q2 q3 {st with nulls:=m} lo hi:=by
 refine⟨h.1.other (by omega) _ _,?_,h.2.2.1.other (by omega) _ _,h.2.2.2.other (by omega) _ _⟩;have:=h.2.1;unfold Stb at *;rw[cM this 1 _];rfl
theorem Rw.some{W:World}{q0 q1 q2 q3:Nat}{st:Stt}{lo hi:Cl}(h:Rw W q0 q1 q2 q3 st lo hi)(h0:q0<q1)(h1:q1<q2)(h2:q2<q3):Rw (W.setCell ⟨q1,2,none⟩ (.bool true)) q0 q1 q2 q3 {st with some:=true} lo hi:=by
 refine⟨h.1.other (by omega) _ _,?_,h.2.2.1.other (by omega) _ _,h.2.2.2.other (by omega) _ _⟩;have:=h.2.1;unfold Stb at *;rw[cM this 2 _];rfl
theorem Rw.high{W:World}{q0 q1 q2 q3:Nat}{st:Stt}{lo hi:Cl}(h:Rw W q0 q1 q2 q3 st lo hi)(h0:q0<q1)(h1:q1<q2)(h2:q2<q3)(b:Bool):Rw (W.setCell ⟨q1,3,none⟩ (.bool b)) q0 q1 q2 q3 {st with high:=b} lo hi:=by
 refine⟨h.1.other (by omega) _ _,?_,h.2.2.1.other (by omega) _ _,h.2.2.2.other (by omega) _ _⟩;have:=h.2.1;unfold Stb at *;rw[cM this 3 _];rfl
theorem Rw.lo{W:World}{q0 q1 q2 q3:Nat}{st:Stt}{lo hi:Cl}(h:Rw W q0 q1 q2 q3 st lo hi)(h0:q0<q1)(h1:q1<q2)(h2:q2<q3)(c:Cl):Rw (((W.setCell ⟨q2,0,none⟩ (.int .u8 (c.1:Int))).setCell ⟨q2,1,none⟩ (.int .i64 c.2.1)).setCell ⟨q2,2,none⟩ (.string (am c.2.2))) q0 q1 q2 q3 st c hi :=
 ⟨((h.1.other (by omega) _ _).other (by omega) _ _).other (by omega) _ _,((h.2.1.other (by omega) _ _).other (by omega) _ _).other (by omega) _ _,h.2.2.1.put _ _ _,((h.2.2.2.other (by omega) _ _).other (by omega) _ _).other (by omega) _ _⟩
theorem Rw.hi{W:World}{q0 q1 q2 q3:Nat}{st:Stt}{lo hi:Cl}(h:Rw W q0 q1 q2 q3 st lo hi)(h0:q0<q1)(h1:q1<q2)(h2:q2<q3)(c:Cl):Rw (((W.setCell ⟨q3,0,none⟩ (.int .u8 (c.1:Int))).setCell ⟨q3,1,none⟩ (.int .i64 c.2.1)).setCell ⟨q3,2,none⟩ (.string (am c.2.2))) q0 q1 q2 q3 st lo c :=
 ⟨((h.1.other (by omega) _ _).other (by omega) _ _).other (by omega) _ _,((h.2.1.other (by omega) _ _).other (by omega) _ _).other (by omega) _ _,((h.2.2.1.other (by omega) _ _).other (by omega) _ _).other (by omega) _ _,h.2.2.2.put _ _ _⟩
theorem Rw.loS{W:World}{q0 q1 q2 q3:Nat}{st:Stt}{lo hi:Cl}(h:Rw W q0 q1 q2 q3 st lo hi)(h0:q0<q1)(h1:q1<q2)(h2:q2<q3)(s:List Nat):Rw (W.setCell ⟨q2,2,none⟩ (.string (am s))) q0 q1 q2 q3 st (lo.1,lo.2.1,s) hi :=
 ⟨h.1.other (by omega) _ _,h.2.1.other (by omega) _ _,h.2.2.1.put2 _,h.2.2.2.other (by omega) _ _⟩
theorem Rw.facts{W:World}{q0 q1 q2 q3:Nat}{st:Stt}{lo hi:Cl}(h:Rw W q0 q1 q2 q3 st lo hi) :
  (W.cell? ⟨q1,1,none⟩=Option.some (.int .i64 st.nulls)/\W.cell? ⟨q1,2,none⟩=Option.some (.bool st.some)/\W.cell? ⟨q1,3,none⟩=Option.some (.bool st.high)) /\
  (W.cell? ⟨q2,0,none⟩=Option.some (.int .u8 (lo.1:Int))/\W.cell? ⟨q2,1,none⟩=Option.some (.int .i64 lo.2.1)/\W.cell? ⟨q2,2,none⟩=Option.some (.string (am lo.2.2))) /\
  (W.cell? ⟨q3,0,none⟩=Option.some (.int .u8 (hi.1:Int))/\W.cell? ⟨q3,1,none⟩=Option.some (.int .i64 hi.2.1)/\W.cell? ⟨q3,2,none⟩=Option.some (.string (am hi.2.2))) /\
  (∀ i,W.frozen? ⟨q0,i,none⟩=false)/\(∀ i,W.frozen? ⟨q1,i,none⟩=false)/\(∀ i,W.frozen? ⟨q2,i,none⟩=false)/\(∀ i,W.frozen? ⟨q3,i,none⟩=false):=by
 obtain⟨_,⟨_,a1,a2,a3⟩,_⟩:=h.2.1.at;simp only[jeO]at a1 a2 a3;refine⟨⟨a1,a2,a3⟩,h.2.2.1.facts.1,h.2.2.2.facts.1,h.1.frozen,h.2.1.frozen,?_,?_⟩
 ·have:=h.2.2.1
  unfold Ceb at this;intro i;simp[World.frozen?,this]
 ·have:=h.2.2.2
  unfold Ceb at this;intro i;simp[World.frozen?,this]
def fV(cs:List Cl):Stt :=
 if soM (aZ cs)=false then ⟨cs.length,(cs.length:Int)-((aZ cs).length:Nat),false,false,nul,nul⟩
 else if (leM (aZ cs)).1=3 then (if ckM (aZ cs)=false then ⟨cs.length,(cs.length:Int)-((aZ cs).length:Nat),true,false,((leM (aZ cs)).1,(leM (aZ cs)).2.1,[]),nul⟩
  else match ef (lb (am (moM (aZ cs)).2.2)) 4 with
   | none=>⟨cs.length,(cs.length:Int)-((aZ cs).length:Nat),true,false,((leM (aZ cs)).1,(leM (aZ cs)).2.1,nb (bZ (lb (am (leM (aZ cs)).2.2)) 4)),nul⟩
   | some a=>⟨cs.length,(cs.length:Int)-((aZ cs).length:Nat),true,true,((leM (aZ cs)).1,(leM (aZ cs)).2.1,nb (bZ (lb (am (leM (aZ cs)).2.2)) 4)),((moM (aZ cs)).1,(moM (aZ cs)).2.1,nb a)⟩)
 else ⟨cs.length,(cs.length:Int)-((aZ cs).length:Nat),true,true,leM (aZ cs),moM (aZ cs)⟩
theorem CF{w:World}{v:Value}{cs:List Cl}(hs:Sc w v cs)(hf:∀ c∈cs,aT c)(hl:cs.length<=1000):Calls Tryz.prog 25 #[v] w fun e w'=>e=.returned (vC (fV cs))/\Below w.heap.size w w':=by
 have HF:=ae hf;have HL:=ae hl;obtain⟨a,cap,rfl,aW,bC⟩:=hs.form;have HS:=ae hs;clear hs hf hl bC;go_enter Tryz.func25,Tryz.ntmps25
 go_wp2_with fail;have ch:=Stb.new w stZ;have dL:=ak w (.cells #[.int .i64 0,.int .i64 0,.bool false,.bool false,.int .u8 0,.int .i64 0,.string ⟨#[]⟩,.int .u8 0,.int .i64 0,.string ⟨#[]⟩] 54);have s0:(w.alloc (.cells #[.int .i64 0,.int .i64 0,.bool false,.bool false,.int .u8 0,.int .i64 0,.string ⟨#[]⟩,.int .u8 0,.int .i64 0,.string ⟨#[]⟩] 54)).heap.size=w.heap.size+1:=jel _ _;have hz0':Stb (w.alloc (.cells #[.int .i64 0,.int .i64 0,.bool false,.bool false,.int .u8 0,.int .i64 0,.string ⟨#[]⟩,.int .u8 0,.int .i64 0,.string ⟨#[]⟩] 54)) w.heap.size stZ:=ch;clear ch;generalize hA:w.alloc (.cells #[.int .i64 0,.int .i64 0,.bool false,.bool false,.int .u8 0,.int .i64 0,.string ⟨#[]⟩,.int .u8 0,.int .i64 0,.string ⟨#[]⟩] 54)=A at *;have cK:=Stb.new A ⟨cs.length,0,false,false,nul,nul⟩;have aH:=ak A (.cells #[.int .i64 (cs.length:Int),.int .i64 0,.bool false,.bool false,.int .u8 0,.int .i64 0,.string ⟨#[]⟩,.int .u8 0,.int .i64 0,.string ⟨#[]⟩] 54);have s1:(A.alloc (.cells #[.int .i64 (cs.length:Int),.int .i64 0,.bool false,.bool false,.int .u8 0,.int .i64 0,.string ⟨#[]⟩,.int .u8 0,.int .i64 0,.string ⟨#[]⟩] 54)).heap.size=A.heap.size+1:=jel _ _;have hz1':Stb (A.alloc (.cells #[.int .i64 (cs.length:Int),.int .i64 0,.bool false,.bool false,.int .u8 0,.int .i64 0,.string ⟨#[]⟩,.int .u8 0,.int .i64 0,.string ⟨#[]⟩] 54)) A.heap.size ⟨cs.length,0,false,false,nul,nul⟩:=cK;clear cK;generalize hB:A.alloc (.cells #[.int .i64 (cs.length:Int),.int .i64 0,.bool false,.bool false,.int .u8 0,.int .i64 0,.string ⟨#[]⟩,.int .u8 0,.int .i64 0,.string ⟨#[]⟩] 54)=B at *;have bv:=Ceb.new B (.int .u8 0) (.int .i64 0) (.string ⟨#[]⟩);have aE:=ak B (.cells #[.int .u8 0,.int .i64 0,.string ⟨#[]⟩] 52);have s2:(B.alloc (.cells #[.int .u8 0,.int .i64 0,.string ⟨#[]⟩] 52)).heap.size=B.heap.size+1:=jel _ _;generalize hC:B.alloc (.cells #[.int .u8 0,.int .i64 0,.string ⟨#[]⟩] 52)=C at *;have iN:=Ceb.new C (.int .u8 0) (.int .i64 0) (.string ⟨#[]⟩);have aS:=ak C (.cells #[.int .u8 0,.int .i64 0,.string ⟨#[]⟩] 52);have s3:(C.alloc (.cells #[.int .u8 0,.int .i64 0,.string ⟨#[]⟩] 52)).heap.size=C.heap.size+1:=jel _ _;generalize hD:C.alloc (.cells #[.int .u8 0,.int .i64 0,.string ⟨#[]⟩] 52)=D at *;have GP:jgf (Rw D w.heap.size A.heap.size B.heap.size C.heap.size ⟨cs.length,0,false,false,nul,nul⟩ nul nul):=ae ⟨((hz0'.kept aH).kept aE).kept aS,(hz1'.kept aE).kept aS,bv.kept aS,iN⟩;have GK:=ae (ai (ai (ai dL aH) aE) aS);have e1:A.heap.size=w.heap.size+1:=s0;have e2:B.heap.size=w.heap.size+1+1:=by omega
 have e3:C.heap.size=w.heap.size+1+1+1:=by omega
 rw[e1,e2,e3]at GP;clear hz0' hz1' bv iN dL aH aE aS hA hB hC hD s0 s1 s2 s3 e1 e2 e3;obtain⟨q1,sN⟩:∃ q1,q1=w.heap.size+1:=⟨_,rfl⟩;obtain⟨q2,nw⟩:∃ q2,q2=w.heap.size+1+1:=⟨_,rfl⟩;obtain⟨q3,MD⟩:∃ q3,q3=w.heap.size+1+1+1:=⟨_,rfl⟩;have HQ:jgf (w.heap.size<q1/\q1<q2/\q2<q3):=ae (by omega);rw[← MD,← nw,← sN]at GP;rw[← MD,← nw,← sN];clear sN nw MD;go_loopw [6,7] (fun ck i wr=>∃ j:Nat,j<=cs.length/\i=.int .i64 (j:Int)/\ck=.bool (ckM (aZ (cs.take j)))/\Rw wr w.heap.size q1 q2 q3 ⟨cs.length,(j:Int)-((aZ (cs.take j)).length:Nat),soM (aZ (cs.take j)),false,nul,nul⟩ (leM (aZ (cs.take j))) (moM (aZ (cs.take j)))/\Below w.heap.size w wr) (fun _ i _=>cs.length-(intOf i).toNat)
 case atStart=>exact⟨0,by omega,rfl,rfl,GP.o,GK.o⟩
 case round =>
  obtain⟨j,hj,rfl,rfl,hrw,az⟩:=hrel;have HR:=ae hrw;have HB:=ae az;have bH:=az.size;have Rg:jgf (¬ q1=w.heap.size/\¬ w.heap.size=q1/\¬ q2=w.heap.size/\¬ w.heap.size=q2/\¬ q3=w.heap.size/\¬ w.heap.size=q3/\¬ q1=q2/\¬ q2=q1/\¬ q1=q3/\¬ q3=q1/\¬ q2=q3/\¬ q3=q2):=ae (by have:=HQ.o;omega);clear hrw az GP GK;by_cases aB:j<cs.length
  ·have hlt':(j:Int)<(cs.length:Int):=by omega
   have Zm:jgf (j+1<=cs.length):=ae aB
   have HWJ:jgf (Value.int .i64 (wrap64 ((j:Int)+1))=Value.int .i64 ((j+1:Nat):Int)):=ae (by
    have:=HL.o;have hw:wrap64 ((j:Int)+1)=(j:Int)+1:=by unfold wrap64;omega
    rw[hw];rfl)
   have Wt:jgf (∀ k,intOf (.int .i64 (wrap64 ((j:Int)+1)))=k->cs.length-k.toNat<cs.length-(intOf (.int .i64 (j:Int))).toNat):=ae (by
    intro k hk;have:=HL.o;have hw:wrap64 ((j:Int)+1)=(j:Int)+1:=by unfold wrap64;omega
    rw[hw]at hk;simp only[intOf]at hk ⊢;omega)
   obtain⟨g,off,rfl,hg,c0,c1,c2⟩:=(HS.o.kept (HB.o.mono (jek _))).at aB;rw[dM]at c2;have HX0:=ae (Qh aB);have My:=ae (Qi aB)
   have HNL:jgf ((aZ (cs.take j)).length<=j):=ae (by
    have:=jfV (fun c:Cl=>!decide (c.1=0)) (cs.take j);rw[jeq]at this;unfold aZ;omega)
   have CX:=ae (HF.o cs[j] (jeo aB));generalize hns:aZ (cs.take j)=ns at *;generalize hns2:aZ (cs.take (j+1))=ns2 at *;have GA:=ae hns2;clear hns hns2;generalize cs[j]=c at *;have AM:=Ceb.new wr (.int .u8 (c.1:Int)) (.int .i64 c.2.1) (.string (am c.2.2));have aE:=ak wr (.cells #[.int .u8 (c.1:Int),.int .i64 c.2.1,.string (am c.2.2)] 52);have jn:=ae (HR.o.kept aE);have aN:=ae (ai HB.o aE);have kf:=ae AM;clear AM aE;obtain⟨⟨d0,d1,d2⟩,_,_⟩:=kf.o.facts;obtain⟨⟨r1,r2,_⟩,⟨l0,l1,l2⟩,⟨m0,m1,m2⟩,fq0,fq1,fq2,fq3⟩:=jn.o.facts;obtain⟨n1,n2,n3,n4,n5,n6,n7,n8,n9,n10,n11,n12⟩:=Rg.o;simp only at r1 r2;have h8:q3<wr.heap.size:=HR.o.2.2.2.facts.2.2;have n13:¬ wr.heap.size=q1:=by have:=HQ.o;omega
   have n14:¬ wr.heap.size=q2:=by have:=HQ.o;omega
   have n15:¬ wr.heap.size=q3:=by have:=HQ.o;omega
   have n16:¬ q1=wr.heap.size:=by have:=HQ.o;omega
   have n17:¬ q2=wr.heap.size:=by have:=HQ.o;omega
   have n18:¬ q3=wr.heap.size:=by have:=HQ.o;omega
   clear h8;generalize hW:wr.alloc (.cells #[.int .u8 (c.1:Int),.int .i64 c.2.1,.string (am c.2.2)] 52)=W at *;by_cases oE:c.1=0
   ·have hc0':((c.1:Int)==0)=true:=by rw[oE];rfl
    have hx:=HX0.o oE;clear HX0 My;subst hx;have KW:wrap64 ((j:Int)-(ns2.length:Int)+1)=(j:Int)-(ns2.length:Int)+1:=by have:=HL.o;have:=HNL.o;unfold wrap64;omega
    have sQ:=ae (jn.o.nulls HQ.o.1 HQ.o.2.1 HQ.o.2.2 ((j:Int)-(ns2.length:Int)+1));have bN:=ae (aN.o.setCell (p:=⟨q1,1,none⟩) (jeJ HQ.o.1) (.int .i64 ((j:Int)-(ns2.length:Int)+1)));clear oE;go_wp2_with fail;go_roundw
    case rel =>
     refine⟨j+1,Zm.o,HWJ.o,by rw[GA.o],?_,bN.o⟩;have:=sQ.o;rw[GA.o,show ((j+1:Nat):Int)-(ns2.length:Int)=(j:Int)-(ns2.length:Int)+1 by omega];exact this
    case measure=>exact Wt.o _ rfl
   ·have hc0':((c.1:Int)==0)=false:=jev.2 (by omega)
    have hx:=My.o oE;clear HX0 My
    have cP:jgf (∀(X:World) (cl:Bool) (lo hi:Cl),cl=ckM (ns++[c])->lo=leM (ns++[c])->hi=moM (ns++[c])->Rw X w.heap.size q1 q2 q3 ⟨cs.length,(j:Int)-(ns.length:Nat),true,false,nul,nul⟩ lo hi->Below w.heap.size w X ->
      ∃ j1:Nat,j1<=cs.length/\Value.int .i64 (wrap64 ((j:Int)+1))=.int .i64 (j1:Int)/\Value.bool cl=.bool (ckM (aZ (cs.take j1)))/\Rw X w.heap.size q1 q2 q3 ⟨cs.length,(j1:Int)-((aZ (cs.take j1)).length:Nat),soM (aZ (cs.take j1)),false,nul,nul⟩ (leM (aZ (cs.take j1))) (moM (aZ (cs.take j1)))/\Below w.heap.size w X):=ae (by
     intro X cl lo hi e1 e2 e3 h1 h2;refine⟨j+1,Zm.o,HWJ.o,by rw[GA.o,e1,hx],?_,h2⟩;rw[GA.o,hx,Ve,← e2,← e3,jem,show ((j+1:Nat):Int)-((ns.length+[c].length:Nat):Int)=(j:Int)-(ns.length:Int) by simp only[jer,jeL];omega];exact h1)
    have lA:jgf (ckM (ns++[c])=(ckM ns && (!decide (c.1=3) || eT c))):=ae (Vd ns c);have vJ:jgf (leM (ns++[c])=if soM ns=false∨cW c (leM ns)<0 then c else leM ns):=ae (Vf ns c);have HMO:jgf (moM (ns++[c])=if soM ns=false∨cW (moM ns) c<0 then c else moM ns):=ae (Vg ns c);have HSG:=ae (oX (am c.2.2) (by have:=CX.o.short;omega));have HL1:=ae (ZY c (leM ns));have HL2:=ae (ZY (moM ns) c);have qG:jgf (w.heap.size<=wr.heap.size):=ae bH;clear oE hx GA;generalize VJ:soM ns=so at *;generalize leM ns=lo at *;generalize moM ns=hi at *;generalize ckM ns=cl at *;generalize ckM (ns++[c])=cl' at *;generalize leM (ns++[c])=lo' at *;generalize moM (ns++[c])=hi' at *;clear VJ bH;generalize (j:Int)-(ns.length:Int)=mm at *;have yA:((c.1:Int)==3)=true∨((c.1:Int)==3)=false:=by cases ((c.1:Int)==3)<;>simp
    rcases yA with h3 | h3
    ·have pQ:jgf (cl'=(cl && dS (lb (am c.2.2)))):=ae (by
      have:c.1=3:=by have:=eq_of_beq h3;omega
      rw[lA.o,this];rfl)
     go_wp2_with fail;refine(HSG.o _).mono ?_;rintro e w2 ⟨⟨sa,sb,rfl,_,_⟩,aS⟩;have sQ:=ae (jn.o.kept aS);have bN:=ae (ai aN.o aS);have QX:=ae (kf.o.kept aS);clear aS jn aN kf d0 d1 d2 r1 r2 l0 l1 l2 m0 m1 m2 fq0 fq1 fq2 fq3;obtain⟨⟨d0,d1,d2⟩,_,_⟩:=QX.o.facts;obtain⟨⟨r1,r2,_⟩,⟨l0,l1,l2⟩,⟨m0,m1,m2⟩,fq0,fq1,fq2,fq3⟩:=sQ.o.facts;simp only at r1 r2;generalize dS (lb (am c.2.2))=ck at *;have vT:jgf (cl'=(if cl=true then ck else false)):=ae (by rw[pQ.o];cases cl<;>rfl);clear pQ;cases cl
     all_goals
      simp only[if_true,if_false,Bool.false_eq_true]at vT;cases so
      ·have MA:jgf (lo'=c):=ae (by rw[vJ.o,jei (Or.inl rfl)])
       have zw:jgf (hi'=c):=ae (by rw[HMO.o,jei (Or.inl rfl)]);have oK:=ae (((sQ.o.lo HQ.o.1 HQ.o.2.1 HQ.o.2.2 c).hi HQ.o.1 HQ.o.2.1 HQ.o.2.2 c).some HQ.o.1 HQ.o.2.1 HQ.o.2.2);have tS:=ae ((set3 (set3 bN.o (jeJ (je0 HQ.o.1 HQ.o.2.1)) (.int .u8 (c.1:Int)) (.int .i64 c.2.1) (.string (am c.2.2))) (jeJ (je0 (je0 HQ.o.1 HQ.o.2.1) HQ.o.2.2)) (.int .u8 (c.1:Int)) (.int .i64 c.2.1) (.string (am c.2.2))).setCell (p:=⟨q1,2,none⟩) (jeJ HQ.o.1) (.bool true));clear vJ HMO;go_wp2_with fail;go_roundw
       case rel=>exact cP.o _ _ c c vT.o.symm MA.o.symm zw.o.symm oK.o tS.o
       case measure=>exact Wt.o _ rfl
      ·have MA:jgf (lo'=if decide (cW c lo<0)=true then c else lo):=ae (by rw[vJ.o];simp)
       have zw:jgf (hi'=if decide (cW hi c<0)=true then c else hi):=ae (by rw[HMO.o];simp);clear vJ HMO;generalize decide (cW c lo<0)=b1 at *;generalize decide (cW hi c<0)=b2 at *;go_wp2_with fail;refine(HL1.o _).mono ?_;rintro e w4 ⟨rfl,bG⟩;have Bd:=ae (sQ.o.kept bG);have cp:=ae (ai bN.o bG);have yu:=ae (QX.o.kept bG);clear bG sQ bN QX d0 d1 d2 r1 r2 l0 l1 l2 m0 m1 m2 fq0 fq1 fq2 fq3;obtain⟨⟨d0,d1,d2⟩,_,_⟩:=yu.o.facts;obtain⟨⟨r1,r2,_⟩,⟨l0,l1,l2⟩,⟨m0,m1,m2⟩,fq0,fq1,fq2,fq3⟩:=Bd.o.facts;simp only at r1 r2;cases b1
       ·have yv:jgf (lo'=lo):=ae MA.o
        clear MA;go_wp2_with fail;refine(HL2.o _).mono ?_;rintro e w5 ⟨rfl,bD⟩;have sG:=ae (Bd.o.kept bD);have aQ:=ae (ai cp.o bD);have Lz:=ae (yu.o.kept bD);clear bD Bd cp yu d0 d1 d2 r1 r2 l0 l1 l2 m0 m1 m2 fq0 fq1 fq2 fq3;obtain⟨⟨d0,d1,d2⟩,_,_⟩:=Lz.o.facts;obtain⟨⟨r1,r2,_⟩,⟨l0,l1,l2⟩,⟨m0,m1,m2⟩,fq0,fq1,fq2,fq3⟩:=sG.o.facts;simp only at r1 r2;cases b2
        ·have qH:jgf (hi'=hi):=ae zw.o
         have oK:=ae (sG.o.some HQ.o.1 HQ.o.2.1 HQ.o.2.2);have tS:=ae (aQ.o.setCell (p:=⟨q1,2,none⟩) (jeJ HQ.o.1) (.bool true));clear zw;go_wp2_with fail;go_roundw
         case rel=>exact cP.o _ _ lo hi vT.o.symm yv.o.symm qH.o.symm oK.o tS.o
         case measure=>exact Wt.o _ rfl
        ·have qH:jgf (hi'=c):=ae zw.o
         have oK:=ae ((sG.o.hi HQ.o.1 HQ.o.2.1 HQ.o.2.2 c).some HQ.o.1 HQ.o.2.1 HQ.o.2.2);have tS:=ae ((set3 aQ.o (jeJ (je0 (je0 HQ.o.1 HQ.o.2.1) HQ.o.2.2)) (.int .u8 (c.1:Int)) (.int .i64 c.2.1) (.string (am c.2.2))).setCell (p:=⟨q1,2,none⟩) (jeJ HQ.o.1) (.bool true));clear zw;go_wp2_with fail;go_roundw
         case rel=>exact cP.o _ _ lo c vT.o.symm yv.o.symm qH.o.symm oK.o tS.o
         case measure=>exact Wt.o _ rfl
       ·have yv:jgf (lo'=c):=ae MA.o
        clear MA;go_wp2_with fail;have HR4':=ae (Bd.o.lo HQ.o.1 HQ.o.2.1 HQ.o.2.2 c);have HB4':=ae (set3 cp.o (jeJ (je0 HQ.o.1 HQ.o.2.1)) (.int .u8 (c.1:Int)) (.int .i64 c.2.1) (.string (am c.2.2)));have HCN4':=ae (((yu.o.other n14 0 (.int .u8 (c.1:Int))).other n14 1 (.int .i64 c.2.1)).other n14 2 (.string (am c.2.2)));refine(HL2.o _).mono ?_;rintro e w5 ⟨rfl,bD⟩;have sG:=ae (HR4'.o.kept bD);have aQ:=ae (ai HB4'.o bD);have Lz:=ae (HCN4'.o.kept bD);clear bD Bd cp yu HR4' HB4' HCN4' d0 d1 d2 r1 r2 l0 l1 l2 m0 m1 m2 fq0 fq1 fq2 fq3;obtain⟨⟨d0,d1,d2⟩,_,_⟩:=Lz.o.facts;obtain⟨⟨r1,r2,_⟩,⟨l0,l1,l2⟩,⟨m0,m1,m2⟩,fq0,fq1,fq2,fq3⟩:=sG.o.facts;simp only at r1 r2;cases b2
        ·have qH:jgf (hi'=hi):=ae zw.o
         have oK:=ae (sG.o.some HQ.o.1 HQ.o.2.1 HQ.o.2.2);have tS:=ae (aQ.o.setCell (p:=⟨q1,2,none⟩) (jeJ HQ.o.1) (.bool true));clear zw;go_wp2_with fail;go_roundw
         case rel=>exact cP.o _ _ c hi vT.o.symm yv.o.symm qH.o.symm oK.o tS.o
         case measure=>exact Wt.o _ rfl
        ·have qH:jgf (hi'=c):=ae zw.o
         have oK:=ae ((sG.o.hi HQ.o.1 HQ.o.2.1 HQ.o.2.2 c).some HQ.o.1 HQ.o.2.1 HQ.o.2.2);have tS:=ae ((set3 aQ.o (jeJ (je0 (je0 HQ.o.1 HQ.o.2.1) HQ.o.2.2)) (.int .u8 (c.1:Int)) (.int .i64 c.2.1) (.string (am c.2.2))).setCell (p:=⟨q1,2,none⟩) (jeJ HQ.o.1) (.bool true));clear zw;go_wp2_with fail;go_roundw
         case rel=>exact cP.o _ _ c c vT.o.symm yv.o.symm qH.o.symm oK.o tS.o
         case measure=>exact Wt.o _ rfl
    ·have vT:jgf (cl'=cl):=ae (by
      have:¬ c.1=3:=fun h=>by rw[h]at h3;simp at h3
      rw[lA.o];simp[this])
     have sQ:=jn;have bN:=aN;have QX:=kf;clear jn aN kf;cases so
     ·have MA:jgf (lo'=c):=ae (by rw[vJ.o,jei (Or.inl rfl)])
      have zw:jgf (hi'=c):=ae (by rw[HMO.o,jei (Or.inl rfl)]);have oK:=ae (((sQ.o.lo HQ.o.1 HQ.o.2.1 HQ.o.2.2 c).hi HQ.o.1 HQ.o.2.1 HQ.o.2.2 c).some HQ.o.1 HQ.o.2.1 HQ.o.2.2);have tS:=ae ((set3 (set3 bN.o (jeJ (je0 HQ.o.1 HQ.o.2.1)) (.int .u8 (c.1:Int)) (.int .i64 c.2.1) (.string (am c.2.2))) (jeJ (je0 (je0 HQ.o.1 HQ.o.2.1) HQ.o.2.2)) (.int .u8 (c.1:Int)) (.int .i64 c.2.1) (.string (am c.2.2))).setCell (p:=⟨q1,2,none⟩) (jeJ HQ.o.1) (.bool true));clear vJ HMO;go_wp2_with fail;go_roundw
      case rel=>exact cP.o _ _ c c vT.o.symm MA.o.symm zw.o.symm oK.o tS.o
      case measure=>exact Wt.o _ rfl
     ·have MA:jgf (lo'=if decide (cW c lo<0)=true then c else lo):=ae (by rw[vJ.o];simp)
      have zw:jgf (hi'=if decide (cW hi c<0)=true then c else hi):=ae (by rw[HMO.o];simp);clear vJ HMO;generalize decide (cW c lo<0)=b1 at *;generalize decide (cW hi c<0)=b2 at *;go_wp2_with fail;refine(HL1.o _).mono ?_;rintro e w4 ⟨rfl,bG⟩;have Bd:=ae (sQ.o.kept bG);have cp:=ae (ai bN.o bG);have yu:=ae (QX.o.kept bG);clear bG sQ bN QX d0 d1 d2 r1 r2 l0 l1 l2 m0 m1 m2 fq0 fq1 fq2 fq3;obtain⟨⟨d0,d1,d2⟩,_,_⟩:=yu.o.facts;obtain⟨⟨r1,r2,_⟩,⟨l0,l1,l2⟩,⟨m0,m1,m2⟩,fq0,fq1,fq2,fq3⟩:=Bd.o.facts;simp only at r1 r2;cases b1
      ·have yv:jgf (lo'=lo):=ae MA.o
       clear MA;go_wp2_with fail;refine(HL2.o _).mono ?_;rintro e w5 ⟨rfl,bD⟩;have sG:=ae (Bd.o.kept bD);have aQ:=ae (ai cp.o bD);have Lz:=ae (yu.o.kept bD);clear bD Bd cp yu d0 d1 d2 r1 r2 l0 l1 l2 m0 m1 m2 fq0 fq1 fq2 fq3;obtain⟨⟨d0,d1,d2⟩,_,_⟩:=Lz.o.facts;obtain⟨⟨r1,r2,_⟩,⟨l0,l1,l2⟩,⟨m0,m1,m2⟩,fq0,fq1,fq2,fq3⟩:=sG.o.facts;simp only at r1 r2;cases b2
       ·have qH:jgf (hi'=hi):=ae zw.o
        have oK:=ae (sG.o.some HQ.o.1 HQ.o.2.1 HQ.o.2.2);have tS:=ae (aQ.o.setCell (p:=⟨q1,2,none⟩) (jeJ HQ.o.1) (.bool true));clear zw;go_wp2_with fail;go_roundw
        case rel=>exact cP.o _ _ lo hi vT.o.symm yv.o.symm qH.o.symm oK.o tS.o
        case measure=>exact Wt.o _ rfl
       ·have qH:jgf (hi'=c):=ae zw.o
        have oK:=ae ((sG.o.hi HQ.o.1 HQ.o.2.1 HQ.o.2.2 c).some HQ.o.1 HQ.o.2.1 HQ.o.2.2);have tS:=ae ((set3 aQ.o (jeJ (je0 (je0 HQ.o.1 HQ.o.2.1) HQ.o.2.2)) (.int .u8 (c.1:Int)) (.int .i64 c.2.1) (.string (am c.2.2))).setCell (p:=⟨q1,2,none⟩) (jeJ HQ.o.1) (.bool true));clear zw;go_wp2_with fail;go_roundw
        case rel=>exact cP.o _ _ lo c vT.o.symm yv.o.symm qH.o.symm oK.o tS.o
        case measure=>exact Wt.o _ rfl
      ·have yv:jgf (lo'=c):=ae MA.o
       clear MA;go_wp2_with fail;have HR4':=ae (Bd.o.lo HQ.o.1 HQ.o.2.1 HQ.o.2.2 c);have HB4':=ae (set3 cp.o (jeJ (je0 HQ.o.1 HQ.o.2.1)) (.int .u8 (c.1:Int)) (.int .i64 c.2.1) (.string (am c.2.2)));have HCN4':=ae (((yu.o.other n14 0 (.int .u8 (c.1:Int))).other n14 1 (.int .i64 c.2.1)).other n14 2 (.string (am c.2.2)));refine(HL2.o _).mono ?_;rintro e w5 ⟨rfl,bD⟩;have sG:=ae (HR4'.o.kept bD);have aQ:=ae (ai HB4'.o bD);have Lz:=ae (HCN4'.o.kept bD);clear bD Bd cp yu HR4' HB4' HCN4' d0 d1 d2 r1 r2 l0 l1 l2 m0 m1 m2 fq0 fq1 fq2 fq3;obtain⟨⟨d0,d1,d2⟩,_,_⟩:=Lz.o.facts;obtain⟨⟨r1,r2,_⟩,⟨l0,l1,l2⟩,⟨m0,m1,m2⟩,fq0,fq1,fq2,fq3⟩:=sG.o.facts;simp only at r1 r2;cases b2
       ·have qH:jgf (hi'=hi):=ae zw.o
        have oK:=ae (sG.o.some HQ.o.1 HQ.o.2.1 HQ.o.2.2);have tS:=ae (aQ.o.setCell (p:=⟨q1,2,none⟩) (jeJ HQ.o.1) (.bool true));clear zw;go_wp2_with fail;go_roundw
        case rel=>exact cP.o _ _ c hi vT.o.symm yv.o.symm qH.o.symm oK.o tS.o
        case measure=>exact Wt.o _ rfl
       ·have qH:jgf (hi'=c):=ae zw.o
        have oK:=ae ((sG.o.hi HQ.o.1 HQ.o.2.1 HQ.o.2.2 c).some HQ.o.1 HQ.o.2.1 HQ.o.2.2);have tS:=ae ((set3 aQ.o (jeJ (je0 (je0 HQ.o.1 HQ.o.2.1) HQ.o.2.2)) (.int .u8 (c.1:Int)) (.int .i64 c.2.1) (.string (am c.2.2))).setCell (p:=⟨q1,2,none⟩) (jeJ HQ.o.1) (.bool true));clear zw;go_wp2_with fail;go_roundw
        case rel=>exact cP.o _ _ c c vT.o.symm yv.o.symm qH.o.symm oK.o tS.o
        case measure=>exact Wt.o _ rfl
  ·obtain rfl:j=cs.length:=by omega
   rw[jes]at HR ⊢;have gi:¬ ((cs.length:Nat):Int)<(cs.length:Int):=(by omega);have HNL:jgf ((aZ cs).length<=cs.length):=ae (jfV _ _)
   have HDF:jgf (fV cs=if soM (aZ cs)=false then ⟨cs.length,(cs.length:Int)-((aZ cs).length:Nat),false,false,nul,nul⟩
    else if (leM (aZ cs)).1=3 then (if ckM (aZ cs)=false then ⟨cs.length,(cs.length:Int)-((aZ cs).length:Nat),true,false,((leM (aZ cs)).1,(leM (aZ cs)).2.1,[]),nul⟩
     else match ef (lb (am (moM (aZ cs)).2.2)) 4 with
      | none=>⟨cs.length,(cs.length:Int)-((aZ cs).length:Nat),true,false,((leM (aZ cs)).1,(leM (aZ cs)).2.1,nb (bZ (lb (am (leM (aZ cs)).2.2)) 4)),nul⟩
      | some a=>⟨cs.length,(cs.length:Int)-((aZ cs).length:Nat),true,true,((leM (aZ cs)).1,(leM (aZ cs)).2.1,nb (bZ (lb (am (leM (aZ cs)).2.2)) 4)),((moM (aZ cs)).1,(moM (aZ cs)).2.1,nb a)⟩)
    else ⟨cs.length,(cs.length:Int)-((aZ cs).length:Nat),true,true,leM (aZ cs),moM (aZ cs)⟩):=ae rfl
   have QC:jgf (∀ c∈aZ cs,aT c):=ae (fun c hc=>HF.o c (by unfold aZ at hc;exact(jf6.1 hc).1))
   have zr:jgf (aT (leM (aZ cs))):=ae (by
    have:=QC.o;cases hn:aZ cs with
    | nil=>exact Or.inl rfl
    | cons x r=>rw[hn]at this;exact mh (this x (by simp)) (fun c hc=>this c (by simp[hc])))
   have lP:jgf (aT (moM (aZ cs))):=ae (by
    have:=QC.o;cases hn:aZ cs with
    | nil=>exact Or.inl rfl
    | cons x r=>rw[hn]at this;exact nW (this x (by simp)) (fun c hc=>this c (by simp[hc])))
   generalize ckM (aZ cs)=ck at *;generalize soM (aZ cs)=so at *;generalize leM (aZ cs)=lo at *;generalize moM (aZ cs)=hi at *;generalize (cs.length:Int)-((aZ cs).length:Nat)=mm at *;obtain⟨n1,n2,n3,n4,n5,n6,n7,n8,n9,n10,n11,n12⟩:=Rg.o;cases so
   ·have zt:jgf (fV cs=⟨cs.length,mm,false,false,nul,nul⟩):=ae (by rw[HDF.o,jei rfl])
    obtain⟨_,⟨r0,r1,r2,r3⟩,⟨r4,r5,r6⟩,r7,r8,r9⟩:=HR.o.2.1.at;obtain⟨_,⟨z0,z1,z2,z3⟩,⟨z4,z5,z6⟩,z7,z8,z9⟩:=HR.o.1.at;obtain⟨_,_,_,fq0,fq1,fq2,fq3⟩:=HR.o.facts;simp only[jeO]at r0 r1 r2 r3 r4 r5 r6 r7 r8 r9 z0 z1 z2 z3 z4 z5 z6 z7 z8 z9;clear HDF;go_wp2_with fail;refine bodyPost_ret (v:=.agg #[.int .i64 (cs.length:Int),.int .i64 mm,.bool false,.bool false,.int .u8 0,.int .i64 0,.string ⟨#[]⟩,.int .u8 0,.int .i64 0,.string ⟨#[]⟩]) (by simp[results,Tryz.results25,go_sem,nul,ew,z0,z1,z2,z3,z4,z5,z6,z7,z8,z9]) rfl ⟨?_,?_⟩
    ·rw[zt.o]
     rfl
    ·have:=HQ.o
     repeat refine fF ?_ (by omega) _ _
     exact HB.o
   ·by_cases h3:lo.1=3
    ·have h3':((lo.1:Int)==3)=true:=by rw[h3];rfl
     have GL:=ae (BJ (am lo.2.2) 4 (by have:=zr.o.short;omega));have HAB:=ae (BW (am hi.2.2) 4 (by have:=lP.o.short;omega))
     have zt:jgf (fV cs=if ck=false then ⟨cs.length,mm,true,false,(lo.1,lo.2.1,[]),nul⟩ else match ef (lb (am hi.2.2)) 4 with
      | none=>⟨cs.length,mm,true,false,(lo.1,lo.2.1,nb (bZ (lb (am lo.2.2)) 4)),nul⟩
      | some a=>⟨cs.length,mm,true,true,(lo.1,lo.2.1,nb (bZ (lb (am lo.2.2)) 4)),(hi.1,hi.2.1,nb a)⟩):=ae (by rw[HDF.o,jeh (by simp),jei h3])
     obtain⟨⟨r1,r2,r3⟩,⟨l0,l1,l2⟩,_,fq0,fq1,fq2,fq3⟩:=HR.o.facts;simp only at r1 r2 r3;clear h3 HDF;go_wp2_with fail;have HR':=ae (HR.o.high HQ.o.1 HQ.o.2.1 HQ.o.2.2 true);have HB':=ae (HB.o.setCell (p:=⟨q1,3,none⟩) (jeJ HQ.o.1) (.bool true));refine(GL.o _).mono ?_;rintro e w3 ⟨⟨t,rfl,ht⟩,aS⟩;have sQ:=ae (HR'.o.kept aS);have bN:=ae (ai HB'.o aS);have yo:=ae (Mc ht);clear aS ht HR HB HR' HB' r1 r2 r3 l0 l1 l2 fq0 fq1 fq2 fq3;cases ck
     ·have HD3:jgf (fV cs=⟨cs.length,mm,true,false,(lo.1,lo.2.1,[]),nul⟩):=ae (by rw[zt.o,jei rfl])
      clear zt;obtain⟨_,⟨r0,r1,r2,r3⟩,⟨r4,r5,r6⟩,r7,r8,r9⟩:=sQ.o.2.1.at;obtain⟨_,⟨z0,z1,z2,z3⟩,⟨z4,z5,z6⟩,z7,z8,z9⟩:=sQ.o.1.at;obtain⟨_,⟨l0,l1,l2⟩,⟨m0,m1,m2⟩,fq0,fq1,fq2,fq3⟩:=sQ.o.facts;simp only[jeO]at r0 r1 r2 r3 r4 r5 r6 r7 r8 r9 z0 z1 z2 z3 z4 z5 z6 z7 z8 z9 l0 l1 l2 m0 m1 m2;go_wp2_with fail;refine bodyPost_ret (v:=.agg #[.int .i64 (cs.length:Int),.int .i64 mm,.bool true,.bool false,.int .u8 (lo.1:Int),.int .i64 lo.2.1,.string ⟨#[]⟩,.int .u8 0,.int .i64 0,.string ⟨#[]⟩]) (by simp[results,Tryz.results25,go_sem,nul,ew,z0,z1,z2,z3,z4,z5,z6,z7,z8,z9,n1,n2,n3,n4,n5,n6,n7,n8,n9,n10,n11,n12]) rfl ⟨?_,?_⟩
      ·rw[HD3.o]
       rfl
      ·have:=HQ.o
       repeat refine fF ?_ (by omega) _ _
       exact bN.o
     ·have HD3:jgf (fV cs=match ef (lb (am hi.2.2)) 4 with
       | none=>⟨cs.length,mm,true,false,(lo.1,lo.2.1,nb (bZ (lb (am lo.2.2)) 4)),nul⟩
       | some a=>⟨cs.length,mm,true,true,(lo.1,lo.2.1,nb (bZ (lb (am lo.2.2)) 4)),(hi.1,hi.2.1,nb a)⟩):=ae (by rw[zt.o,jeh (by simp)])
      clear zt;rw[yo.o];generalize nb (bZ (lb (am lo.2.2)) 4)=fl at *;obtain⟨⟨r1,r2,r3⟩,⟨l0,l1,l2⟩,⟨m0,m1,m2⟩,fq0,fq1,fq2,fq3⟩:=sQ.o.facts;simp only at r1 r2 r3;clear yo;go_wp2_with fail;have HR3':=ae (sQ.o.loS HQ.o.1 HQ.o.2.1 HQ.o.2.2 fl);have HB3':=ae (bN.o.setCell (p:=⟨q2,2,none⟩) (jeJ (je0 HQ.o.1 HQ.o.2.1)) (.string (am fl)));refine(HAB.o _).mono ?_;rintro e w4 ⟨⟨t2,o,rfl,ho,KQ⟩,bG⟩;have Bd:=ae (HR3'.o.kept bG);have cp:=ae (ai HB3'.o bG);clear bG sQ bN HR3' HB3' r1 r2 r3 l0 l1 l2 m0 m1 m2 fq0 fq1 fq2 fq3;cases Vu:ef (lb (am hi.2.2)) 4 with
      | none =>
       rw[Vu]at HD3 ho;have ho':o=false:=ho;subst ho';have HD4:jgf (fV cs=⟨cs.length,mm,true,false,(lo.1,lo.2.1,fl),nul⟩):=ae HD3.o;clear Vu ho KQ HD3;obtain⟨_,⟨r0,r1,r2,r3⟩,⟨r4,r5,r6⟩,r7,r8,r9⟩:=Bd.o.2.1.at;obtain⟨_,⟨z0,z1,z2,z3⟩,⟨z4,z5,z6⟩,z7,z8,z9⟩:=Bd.o.1.at;obtain⟨_,⟨l0,l1,l2⟩,⟨m0,m1,m2⟩,fq0,fq1,fq2,fq3⟩:=Bd.o.facts;simp only[jeO]at r0 r1 r2 r3 r4 r5 r6 r7 r8 r9 z0 z1 z2 z3 z4 z5 z6 z7 z8 z9 l0 l1 l2 m0 m1 m2;go_wp2_with fail;refine bodyPost_ret (v:=.agg #[.int .i64 (cs.length:Int),.int .i64 mm,.bool true,.bool false,.int .u8 (lo.1:Int),.int .i64 lo.2.1,.string (am fl),.int .u8 0,.int .i64 0,.string ⟨#[]⟩]) (by simp[results,Tryz.results25,go_sem,nul,ew,z0,z1,z2,z3,z4,z5,z6,z7,z8,z9,n1,n2,n3,n4,n5,n6,n7,n8,n9,n10,n11,n12]) rfl ⟨?_,?_⟩
       ·rw[HD4.o]
        rfl
       ·have:=HQ.o
        repeat refine fF ?_ (by omega) _ _
        exact cp.o
      | some av =>
       rw[Vu]at HD3 ho KQ;have ho':o=true:=ho;subst ho';have HD4:jgf (fV cs=⟨cs.length,mm,true,true,(lo.1,lo.2.1,fl),(hi.1,hi.2.1,nb av)⟩):=ae HD3.o;have yo:=ae (Mc (show lb t2=av from KQ));clear Vu ho KQ HD3;obtain⟨_,⟨r0,r1,r2,r3⟩,⟨r4,r5,r6⟩,r7,r8,r9⟩:=Bd.o.2.1.at;obtain⟨_,⟨z0,z1,z2,z3⟩,⟨z4,z5,z6⟩,z7,z8,z9⟩:=Bd.o.1.at;obtain⟨_,⟨l0,l1,l2⟩,⟨m0,m1,m2⟩,fq0,fq1,fq2,fq3⟩:=Bd.o.facts;simp only[jeO]at r0 r1 r2 r3 r4 r5 r6 r7 r8 r9 z0 z1 z2 z3 z4 z5 z6 z7 z8 z9 l0 l1 l2 m0 m1 m2;go_wp2_with fail;refine bodyPost_ret (v:=.agg #[.int .i64 (cs.length:Int),.int .i64 mm,.bool true,.bool true,.int .u8 (lo.1:Int),.int .i64 lo.2.1,.string (am fl),.int .u8 (hi.1:Int),.int .i64 hi.2.1,.string t2]) (by simp[results,Tryz.results25,go_sem,nul,ew,z0,z1,z2,z3,z4,z5,z6,z7,z8,z9,n1,n2,n3,n4,n5,n6,n7,n8,n9,n10,n11,n12]) rfl ⟨?_,?_⟩
       ·rw[HD4.o,yo.o]
        rfl
       ·have:=HQ.o
        repeat refine fF ?_ (by omega) _ _
        exact cp.o
    ·have h3':((lo.1:Int)==3)=false:=jev.2 (by omega)
     have zt:jgf (fV cs=⟨cs.length,mm,true,true,lo,hi⟩):=ae (by rw[HDF.o,jeh (by simp),jeh h3]);clear h3 HDF;obtain⟨_,⟨r0,r1,r2,r3⟩,⟨r4,r5,r6⟩,r7,r8,r9⟩:=HR.o.2.1.at;obtain⟨_,⟨z0,z1,z2,z3⟩,⟨z4,z5,z6⟩,z7,z8,z9⟩:=HR.o.1.at;obtain⟨_,⟨l0,l1,l2⟩,⟨m0,m1,m2⟩,fq0,fq1,fq2,fq3⟩:=HR.o.facts;simp only[jeO]at r0 r1 r2 r3 r4 r5 r6 r7 r8 r9 z0 z1 z2 z3 z4 z5 z6 z7 z8 z9 l0 l1 l2 m0 m1 m2;go_wp2_with fail;refine bodyPost_ret (v:=.agg #[.int .i64 (cs.length:Int),.int .i64 mm,.bool true,.bool true,.int .u8 (lo.1:Int),.int .i64 lo.2.1,.string (am lo.2.2),.int .u8 (hi.1:Int),.int .i64 hi.2.1,.string (am hi.2.2)]) (by simp[results,Tryz.results25,go_sem,nul,ew,z0,z1,z2,z3,z4,z5,z6,z7,z8,z9,n1,n2,n3,n4,n5,n6,n7,n8,n9,n10,n11,n12]) rfl ⟨?_,?_⟩
     ·rw[zt.o]
      rfl
     ·have:=HQ.o
      repeat refine fF ?_ (by omega) _ _
      exact HB.o
theorem Mq:∀(r:List Cl) (m:Cl),gx m r∈m::r
 | [],m=>by simp[gx]
 | x::r,m=>by
  unfold gx;have:=Mq r (if cW x m<0 then x else m);rcases jeC.1 this with h | h
  ·rw[h]
   split
   ·simp
   ·simp
  ·simp[h]
theorem Mr:∀(r:List Cl) (m:Cl),eK m r∈m::r
 | [],m=>by simp[eK]
 | x::r,m=>by
  unfold eK;have:=Mr r (if 0<cW x m then x else m);rcases jeC.1 this with h | h
  ·rw[h]
   split
   ·simp
   ·simp
  ·simp[h]
theorem KJ{cs:List Cl}{k:Nat}(hf:∀ c∈cs,aT c)(hk:∀ c∈cs,c.1=k∨c=nul):fV cs=cA cs:=by
 have MC:∀ c∈aZ cs,aT c/\c.1=k:=fun c hc=>by
  unfold aZ at hc;obtain⟨h1,h2⟩:=jf6.1 hc;refine⟨hf c h1,?_⟩;rcases hk c h1 with h | h
  ·exact h
  ·rw[h]at h2
   simp[nul]at h2
 unfold fV cA;cases hn:aZ cs with
 | nil=>simp[soM]
 | cons x r =>
  rw[hn]at MC;have QR:=MC _ (Mq r x);have hma:=MC _ (Mr r x);rw[jeh (by simp[soM])];show (if (gx x r).1=3 then _ else _)=_
  rw[QR.2];have e1:(leM (x::r))=gx x r:=rfl;have e2:(moM (x::r))=eK x r:=rfl;rw[e1,e2];show _=(⟨cs.length,(cs.length:Int)-((x::r).length:Nat),true,(gI (eK x r) ((x::r).all eT)).2,nX (gx x r) ((x::r).all eT),(gI (eK x r) ((x::r).all eT)).1⟩:Stt)
  by_cases h3:k=3
  ·rw[jei h3]
   have dN:ckM (x::r)=(x::r).all eT:=by
    unfold ckM;rw[jfN,List.all_eq_true,List.all_eq_true];constructor
    ·intro h c hc
     have:=h c hc;have h4:=(MC c hc).2;rw[h4,h3]at this;simpa using this
    ·intro h c hc
     rw[h c hc];simp
   rw[dN];subst h3
   have hmz:(gx x r).2.1=0/\(eK x r).2.1=0:=by
    constructor
    ·rcases QR.1 with h | ⟨n,h,_⟩ | ⟨n,h,_⟩ | ⟨s,h,_⟩
     ·rw[h];rfl
     ·have:=QR.2;rw[h]at this;simp at this
     ·have:=QR.2;rw[h]at this;simp at this
     ·rw[h]
    ·rcases hma.1 with h | ⟨n,h,_⟩ | ⟨n,h,_⟩ | ⟨s,h,_⟩
     ·rw[h];rfl
     ·have:=hma.2;rw[h]at this;simp at this
     ·have:=hma.2;rw[h]at this;simp at this
     ·rw[h]
   have el:∀ cl,nX (gx x r) cl=if cl=false then (3,0,[]) else (3,0,nb (bZ (lb (am (gx x r).2.2)) 4)):=fun cl=>by
    unfold nX;rw[QR.2,hmz.1];cases cl
    ·rw[jei ⟨rfl,rfl⟩,jei rfl]
    ·rw[jeh (by simp),jeh (by simp)]
   have eh:∀ cl,gI (eK x r) cl=match gT (lb (am (eK x r).2.2)) 4 with
    | none=>(nul,false)
    | some a=>if cl=true then ((3,0,nb a),true) else (nul,false):=fun cl=>by
    unfold gI;rw[jei hma.2];cases gT (lb (am (eK x r).2.2)) 4<;>rfl
   rw[el,eh,QR.2,hma.2,hmz.1,hmz.2,← xz];cases hc:(x::r).all eT
   ·rw[jei rfl,jei rfl]
    cases gT (lb (am (eK x r).2.2)) 4<;>rfl
   ·rw[jeh (by simp),jeh (by simp)]
    cases gT (lb (am (eK x r).2.2)) 4<;>rfl
  ·rw[jeh h3]
   have ht:(gx x r).2.2=[]:=by
    rcases QR.1 with h | ⟨n,h,_⟩ | ⟨n,h,_⟩ | ⟨s,h,_⟩
    ·rw[h];rfl
    ·rw[h]
    ·rw[h]
    ·have:=QR.2;rw[h]at this;exact absurd this.symm h3
   have el:∀ cl,nX (gx x r) cl=gx x r:=fun cl=>by
    unfold nX;rw[jeh (fun h=>h3 (QR.2.symm.trans h.1)),ht];have h0:lb (am ([]:List Nat))=[]:=rfl;rw[h0];have h1:nb (bZ [] 4)=[]:=by simp[bZ,nb]
    rw[h1,← ht]
   have eh:∀ cl,gI (eK x r) cl=(eK x r,true):=fun cl=>by
    unfold gI;rw[jeh (fun h=>h3 (hma.2.symm.trans h))]
   rw[el,eh]
def Far(w w':World):Prop:=∀(p T:Nat) (cs:Array Value),T≠5->w.heap[p]?=some (.cells cs T (0,0))->w'.heap[p]?=some (.cells cs T (0,0))
theorem Vh{w w':World}{B:Nat}{v:Value}{l:List Nat}(aA:aD w B v l)(hg:w.grownBy w' v.ownBlock):Far w w':=by
 intro p T cs hT hp;have aB:p<w.heap.size:=(Array.getElem?_eq_some_iff.1 hp).1;rw[hg.block p aB ?_]
 ·exact hp
 ·intro he
  rcases aA.2 with ⟨rfl,_⟩ | ⟨g,cap,cur,rfl,_,h3,_⟩
  ·simp[Value.ownBlock]at he
  ·simp only[Value.ownBlock,Option.some.injEq]at he
   subst he;rw[hp]at h3;simp at h3
   exact hT h3.2
theorem Far.refl(w:World):Far w w:=fun _ _ _ _ h=>h
theorem Far.of_below{w w':World}(h:Below w.heap.size w w'):Far w w':=fun p T cs _ hp=>(h.block p (Array.getElem?_eq_some_iff.1 hp).1).trans hp
theorem Far.trans{a b c:World}(h:Far a b)(h2:Far b c):Far a c:=fun p T cs hT hp=>h2 p T cs hT (h p T cs hT hp)
theorem es{w:World}{ops:Array Oper}{rest:List Oper}{o:Oper}{a:Act}{Q:Exit->Act->World->Prop}(dY:o.guard=none)(s x:Operand)
  (ho:o.op=.call { callee:=.builtin .append,args:=#[s,x],argTypes:=#[30,30] })
  (base:Nat) (v vx:Value) (l0 l:List Nat) (hs:a.eval s=v) (aA:aD w base v l0) (hx:a.eval x=vx) (eN:Sv w vx (aF .u8 l))
  (hbytes:l0.length+l.length<=140737488355328) (aI:base<=w.heap.size)
  (h:∀ v' w',aD w' base v' (l0++l)->Below base w w'->Far w w'->wpList Tryz.prog ops Q rest (a.put o.dst v') w') :
  wpList Tryz.prog ops Q (o::rest) a w:=by
 obtain⟨i0,hi,ch,hz1',bv⟩:=jeD jv;have Wu:=aA;unfold aD at *;obtain⟨ad,cap,rfl,h1,h2,h3,h4⟩:=eN;rw[ap]at *;cases ad with
 | none =>
  have hc:=h3 rfl;subst hc;have hl:l=[]:=jeI (by omega);subst hl;refine wpList_plain dY fun K hK=>?_
  have hr:=jfI (P:=Tryz.prog) (w:=w) base 30 o.type 5 i0 1 Tryz.underlying30 hi v l0.length (aF .u8 l0) aA;unfold Oper.wp execOp;simp only[ho,resolve,invoke,builtin,Sem.run_bind,Sem.run_pure,Result.andThen_ok,jfs,jeT,je8,hs,hx,hr,jeL];refine hK _ _ (h v w ?_ (jej _ _) (Far.refl _));rw[jeG];exact aA
 | some ad =>
  refine jeY (w:=w) dY s x 30 ho base 5 i0 (.int .u8 0) 1 1 Tryz.underlying30 hi ch hz1' bv rfl (by decide) v l0.length (aF .u8 l0) hs aA ad l.length cap (aF .u8 l) hx (by rw[ap];omega) ?_ (fY _ _) (by unfold maxLen;omega) (by omega) aI ?_
  ·intro j u hu
   have hj:j<l.length:=by
    have:=(List.getElem?_eq_some_iff.1 hu).1;rwa[ap]at this
   obtain⟨b,off,h5,_,h6⟩:=h4 (by omega);cases h5
   rw[lR];exact h6 j u hu
  ·intro v' w' o1 g1 _ _
   refine h v' w' ?_ ((jej base w).grown g1 aI (fun k hk=>(aA.lt k hk).1)) (Vh Wu g1);rw[ct,jem];exact o1
theorem qz{w:World}{ops:Array Oper}{rest:List Oper}{o:Oper}{a:Act}{Q:Exit->Act->World->Prop}(dY:o.guard=none)(s x:Operand)
  (ho:o.op=.call { callee:=.builtin .append,args:=#[s,x],argTypes:=#[30,9] })
  (base:Nat) (v:Value) (l0:List Nat) (z:ByteArray) (hs:a.eval s=v) (aA:aD w base v l0) (hx:a.eval x=.string z)
  (hbytes:l0.length+z.size<=140737488355328) (aI:base<=w.heap.size)
  (h:∀ v' w',aD w' base v' (l0++de z)->Below base w w'->Far w w'->wpList Tryz.prog ops Q rest (a.put o.dst v') w') :
  wpList Tryz.prog ops Q (o::rest) a w:=by
 obtain⟨i0,hi,ch,hz1',bv⟩:=jeD jv;have Wu:=aA;unfold aD at *;refine wpList_append_own_string (w:=w) dY s x 30 9 ho base 5 i0 Tryz.underlying30 Tryz.underlying9 hi ch hz1' bv v l0.length (aF .u8 l0) hs aA z hx (by unfold maxLen;omega) (by exact hbytes) aI ?_;intro v' w' o1 g1 _;refine h v' w' ?_ ((jej base w).grown g1 aI (fun k hk=>(aA.lt k hk).1)) (Vh Wu g1)
 have e:strCells z=aF .u8 (de z):=by
  unfold strCells aF de;rw[ByteArray.toList_eq];simp[jeW,Function.comp_def]
 rw[e]at o1;rw[ct,jem,jc];exact o1
theorem AL{B:Nat}{w:World}(h:B<=w.heap.size)(o:Obj):B<=(w.alloc o).heap.size:=by rw[jel];omega
theorem Gh{w:World}{v:Value}{l:List Fd}(hs:Sf w v l)(ho:∀ f∈l,Okf f)(hl:l.length<=100)(hz:szs l<5000)(id:Nat)(lM:id<4294967296) :
  Calls Tryz.prog 44 #[.agg #[.int .u32 (id:Int),v]] w (dA w (dH id l)):=by
 obtain⟨a,cap,rfl,aW,bC⟩:=hs.form;have Mz:=ae ho;have HP:jgf (dH id l=uv id++uv l.length++ia l):=ae rfl;have sL:=ae (fQ ho hl hz);have qG:=ae (fun k=>pK (k:=k) hz);have QA:=ae (bK id (by omega));have Ze:=ae (bK l.length (by omega));have u1:=gH id (by omega);have u2:=gH l.length (by omega);have dL:=ak w (.cells #[.int .u32 (id:Int),.slice a l.length cap] 25);have yn:w.heap.size<(w.alloc (.cells #[.int .u32 (id:Int),.slice a l.length cap] 25)).heap.size:=by rw[jel];omega
 have HT:jgf (∀ U,Below (w.alloc (.cells #[.int .u32 (id:Int),.slice a l.length cap] 25)).heap.size (w.alloc (.cells #[.int .u32 (id:Int),.slice a l.length cap] 25)) U->Sf U (.slice a l.length cap) l/\U.cell? ⟨w.heap.size,0,none⟩=some (.int .u32 (id:Int))/\U.cell? ⟨w.heap.size,1,none⟩=some (.slice a l.length cap)):=ae (fun U h=>by
  obtain⟨c0,c1⟩:=bx w (.int .u32 (id:Int)) (.slice a l.length cap) 25;exact⟨(hs.kept dL).kept h,(h.cell (p:=⟨w.heap.size,0,none⟩) yn).trans c0,(h.cell (p:=⟨w.heap.size,1,none⟩) yn).trans c1⟩)
 have ce:=ae dL;clear hs dL ho;generalize hW:w.alloc (.cells #[.int .u32 (id:Int),.slice a l.length cap] 25)=W at *;obtain⟨_,c0,c1⟩:=HT.o W (jej _ _);generalize uv id=p1 at *;generalize uv l.length=p2 at *;go_enter Tryz.func44,Tryz.ntmps44
 go_wp2_with fail;try rw[hW]
 clear hW;refine(QA.o _).mono ?_;rintro e w1 ⟨⟨v1,rfl,o1⟩,aH⟩;have eO:=ae o1;have My:=ae aH;clear o1 aH c0 c1;obtain⟨_,c0,c1⟩:=HT.o _ My.o;go_wp2_with fail;refine(Ze.o _).mono ?_;rintro e w2 ⟨⟨v2,rfl,o2⟩,aE⟩;have HO1k:=ae (eO.o.kept aE);have dz:=ae o2.sv;have zi:=ae (ai My.o aE);clear o2 aE c0 c1;go_wp2_with (first | (at_builtin;refine ax rfl _ _ rfl W.heap.size _ _ p1 p2 rfl HO1k.o rfl dz.o ?d1 ?d2 ?_))
 case d1=>omega
 case d2=>exact zi.o.size
 intro v3 w3 o3 aS;have dd:=ae o3;have VF:=ae (zi.o.trans aS);clear o3 aS;obtain⟨_,c0,c1⟩:=HT.o _ VF.o;go_wp2_with fail;clear c0 c1;go_loopw [3,4] (fun b i wr=>∃ k:Nat,k<=l.length/\i=.int .i64 (k:Int)/\aD wr W.heap.size b (p1++p2++ia (l.take k))/\Below W.heap.size W wr) (fun _ i _=>l.length-(intOf i).toNat)
 case atStart=>exact⟨0,by omega,rfl,by simpa [ia]using dd.o,VF.o⟩
 case round =>
  obtain⟨k,hk,rfl,aA,az⟩:=hrel;have HO:=ae aA;have HB:=ae az;have bH:=az.size;clear aA az;by_cases aB:k<l.length
  ·obtain⟨b,off,rfl,hb,x0,x1,x2,x3⟩:=(HT.o _ HB.o).1.at aB
   have hlt':(k:Int)<(l.length:Int):=(by omega);have cP:=ae (mI aB);have iY:=Mz.o _ (jeo aB);have jG:=qG.o k aB;have hplen:=sL.o k;have HPF:jgf (ix l[k]=uv l[k].1++uv l[k].2.1.size++de l[k].2.1++uv l[k].2.2.1++uv (ff l[k].2.2.2)):=ae rfl;generalize ix l[k]=PF at *;generalize ia (l.take k)=PL at *;generalize l[k]=f at *;obtain⟨f0,f1,f2,f3⟩:=f;have dh:f0<4294967296:=iY.1;have dG:f2<256:=iY.2;simp only at *;have AY:=ae (bK f0 (by omega));have nI:=ae (bK f1.size (by omega));have zv:=ae (bK f2 (by omega));have g1:=gH f0 (by omega);have g2:=gH f1.size (by omega);have g3:=gH f2 (by omega);have hnl:=jc f1;have HFG:jgf (uv (ff f3)=[ff f3]):=ae (wL (by unfold ff;split<;>omega));rw[HFG.o]at HPF;generalize uv f0=q1 at *;generalize uv f1.size=q2 at *;generalize uv f2=q3 at *;have q0:=(HT.o _ HB.o).2.2;have Qu:w.heap.size<wr.heap.size:=jeH yn bH;have qJ:=ak wr (.cells #[.int .u32 (f0:Int),.string f1,.int .u8 (f2:Int),.bool f3] 81);have hh0:(wr.alloc (.cells #[.int .u32 (f0:Int),.string f1,.int .u8 (f2:Int),.bool f3] 81)).heap[wr.heap.size]?=some (.cells #[.int .u32 (f0:Int),.string f1,.int .u8 (f2:Int),.bool f3] 81):=jeK wr (.cells #[.int .u32 (f0:Int),.string f1,.int .u8 (f2:Int),.bool f3] 81)
   have HF:jgf (∀ U,Far (wr.alloc (.cells #[.int .u32 (f0:Int),.string f1,.int .u8 (f2:Int),.bool f3] 81)) U->U.cell? ⟨wr.heap.size,0,none⟩=some (.int .u32 (f0:Int))/\U.cell? ⟨wr.heap.size,1,none⟩=some (.string f1)/\U.cell? ⟨wr.heap.size,2,none⟩=some (.int .u8 (f2:Int))/\U.cell? ⟨wr.heap.size,3,none⟩=some (.bool f3)):=ae (fun U h=>by
    have hh:=h _ _ _ (by omega) hh0;exact⟨by rw[ay hh];rfl,by rw[ay hh];rfl,by rw[ay hh];rfl,by rw[ay hh];rfl⟩)
   have HXN:=ae (ai HB.o qJ);have AP:=ae (HO.o.kept qJ);clear qJ HO iY hh0;generalize hV:wr.alloc (.cells #[.int .u32 (f0:Int),.string f1,.int .u8 (f2:Int),.bool f3] 81)=V at *;obtain⟨y0,y1,y2,y3⟩:=HF.o V (Far.refl _);go_wp2_with fail;try rw[hV]
   clear hV;refine(AY.o _).mono ?_;rintro e w5 ⟨⟨v5,rfl,o5⟩,bD⟩;have HN5:=ae (AP.o.kept bD);have qF:=ae o5.sv;have HY5:=ae (Far.of_below bD);have Ri:=ae (ai HXN.o bD);clear o5 bD x0 x1 x2 x3 y0 y1 y2 y3 q0;go_wp2_with (first | (at_builtin;refine es rfl _ _ rfl W.heap.size _ _ (p1++p2++PL) q1 rfl HN5.o rfl qF.o ?d3 ?d4 ?_))
   case d3=>first | (simp only[jem];omega) | (simp;omega) | omega
   case d4=>exact Ri.o.size
   intro v6 w6 o6 dW Rd;have my:jgf (aD w6 W.heap.size v6 (p1++p2++PL++q1)):=ae (by simpa using o6);have HY6:=ae (HY5.o.trans Rd);have wm:=ae (Ri.o.trans dW);clear o6 dW Rd;obtain⟨y0,y1,y2,y3⟩:=HF.o _ HY6.o;go_wp2_with fail;refine(nI.o _).mono ?_;rintro e w7 ⟨⟨v7,rfl,o7⟩,iR⟩;have HN7:=ae (my.o.kept iR);have Lc:=ae o7.sv;have HY7:=ae (HY6.o.trans (Far.of_below iR));have HX7:=ae (ai wm.o iR);clear o7 iR y0 y1 y2 y3;go_wp2_with (first | (at_builtin;refine es rfl _ _ rfl W.heap.size _ _ (p1++p2++PL++q1) q2 rfl HN7.o rfl Lc.o ?d5 ?d6 ?_))
   case d5=>first | (simp only[jem];omega) | (simp;omega) | omega
   case d6=>exact HX7.o.size
   intro v8 w8 o8 kR hf8;have Qv:jgf (aD w8 W.heap.size v8 (p1++p2++PL++q1++q2)):=ae (by simpa using o8);have HY8:=ae (HY7.o.trans hf8);have HX8:=ae (HX7.o.trans kR);clear o8 kR hf8;obtain⟨y0,y1,y2,y3⟩:=HF.o _ HY8.o;go_wp2_with (first | (at_builtin;refine qz rfl _ _ rfl W.heap.size _ (p1++p2++PL++q1++q2) f1 rfl Qv.o rfl ?d7 ?d8 ?_))
   case d7=>first | (simp only[jem];omega) | (simp;omega) | omega
   case d8=>exact HX8.o.size
   intro v9 w9 o9 pS hf9;have Vx:jgf (aD w9 W.heap.size v9 (p1++p2++PL++q1++q2++de f1)):=ae (by simpa using o9);have HY9:=ae (HY8.o.trans hf9);have HX9:=ae (HX8.o.trans pS);clear o9 pS hf9 y0 y1 y2 y3;obtain⟨y0,y1,y2,y3⟩:=HF.o _ HY9.o;go_wp2_with fail;refine(zv.o _).mono ?_;rintro e w10 ⟨⟨v10,rfl,o10⟩,Df⟩;have HN10:=ae (Vx.o.kept Df);have HS10:=ae o10.sv;have HY10:=ae (HY9.o.trans (Far.of_below Df));have HX10:=ae (ai HX9.o Df);clear o10 Df y0 y1 y2 y3;go_wp2_with (first | (at_builtin;refine es rfl _ _ rfl W.heap.size _ _ (p1++p2++PL++q1++q2++de f1) q3 rfl HN10.o rfl HS10.o ?d9 ?e1 ?_))
   case d9=>first | (simp only[jem];omega) | (simp;omega) | omega
   case e1=>exact HX10.o.size
   intro v11 w11 o11 QY hf11;have ZB:jgf (aD w11 W.heap.size v11 (p1++p2++PL++q1++q2++de f1++q3)):=ae (by simpa using o11);have HY11:=ae (HY10.o.trans hf11);have GD:=ae (HX10.o.trans QY);clear o11 QY hf11;obtain⟨y0,y1,y2,y3⟩:=HF.o _ HY11.o;have nz:jgf (∀ x:Nat,aD (w11.alloc (.cells #[.int .u8 (x:Int)] 5)) w11.heap.size (.slice (some ⟨w11.heap.size,0,none⟩) 1 1) [x]):=ae (fun x=>oO w11 [x] (by unfold maxLen;simp));cases f3
   ·have qC:aD (w11.alloc (.cells #[.int .u8 0] 5)) w11.heap.size (.slice (some ⟨w11.heap.size,0,none⟩) 1 1) [0]:=nz.o 0
    have HL0:=ae qC.sv;have jdo:=ae (ZB.o.kept (ak w11 (.cells #[.int .u8 0] 5)));clear qC;go_wp2_with (first | (at_builtin;refine es rfl _ _ rfl W.heap.size _ _ (p1++p2++PL++q1++q2++de f1++q3) [0] rfl ?z1 rfl ?z2 ?e2 ?e3 ?_))
    case z1=>exact jdo.o
    case z2=>exact HL0.o
    case e2=>first | (simp only[jem,jeS];omega) | (simp;omega) | omega
    case e3=>first | exact AL GD.o.size _ | (have:=GD.o.size;omega)
    intro v12 w12 o12 pC hf12;have jdp:jgf (aD w12 W.heap.size v12 (p1++p2++(PL++(q1++q2++de f1++q3++[ff false])))):=ae (by simpa [ff]using o12);have jdq:=ae ((GD.o.alloc GD.o.size _).trans pC);clear o12 pC hf12 y0 y1 y2 y3;go_wp2_with fail;go_roundw
    case rel=>exact⟨k+1,by omega,by go_num,by rw[cP.o,HPF.o];exact jdp.o,jdq.o⟩
    case measure=>simp[intOf];omega
   ·have qC:aD (w11.alloc (.cells #[.int .u8 1] 5)) w11.heap.size (.slice (some ⟨w11.heap.size,0,none⟩) 1 1) [1]:=nz.o 1
    have HL0:=ae qC.sv;have jdo:=ae (ZB.o.kept (ak w11 (.cells #[.int .u8 1] 5)));clear qC;go_wp2_with (first | (at_builtin;refine es rfl _ _ rfl W.heap.size _ _ (p1++p2++PL++q1++q2++de f1++q3) [1] rfl ?z3 rfl ?z4 ?e4 ?e5 ?_))
    case z3=>exact jdo.o
    case z4=>exact HL0.o
    case e4=>first | (simp only[jem,jeS];omega) | (simp;omega) | omega
    case e5=>first | exact AL GD.o.size _ | (have:=GD.o.size;omega)
    intro v12 w12 o12 pC hf12;have jdp:jgf (aD w12 W.heap.size v12 (p1++p2++(PL++(q1++q2++de f1++q3++[ff true])))):=ae (by simpa [ff]using o12);have jdq:=ae ((GD.o.alloc GD.o.size _).trans pC);clear o12 pC hf12 y0 y1 y2 y3;go_wp2_with fail;go_roundw
    case rel=>exact⟨k+1,by omega,by go_num,by rw[cP.o,HPF.o];exact jdp.o,jdq.o⟩
    case measure=>simp[intOf];omega
  ·obtain rfl:k=l.length:=by omega
   have gi:¬ ((l.length:Nat):Int)<(l.length:Int):=(by omega);rw[jes]at HO;have q0:=(HT.o _ HB.o).2.2;go_wp2_with fail;go_ret
   rw[HP.o];exact⟨⟨_,rfl,bg HO.o ce.o.size⟩,ai ce.o HB.o⟩
end Go.Proofs.YtpljdjmpamjkhaaGreatDoor
