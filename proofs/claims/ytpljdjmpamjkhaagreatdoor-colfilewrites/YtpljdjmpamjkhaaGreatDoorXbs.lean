import Derived.Test.YtpljdjmpamjkhaaGreatDoorXas
set_option linter.unusedVariables false
set_option linter.unusedSimpArgs false
set_option maxRecDepth 100000
set_option maxHeartbeats 16000000
namespace Go.Proofs.YtpljdjmpamjkhaaGreatDoor
open Go.RowKit Go.Lib
theorem Zg(a b:Cl)(w:World):Calls Tryz.prog 61 #[.agg #[.int .u8 (a.1:Int),.int .i64 a.2.1,.string (ak a.2.2)],.agg #[.int .u8 (b.1:Int),.int .i64 b.2.1,.string (ak b.2.2)]] w fun e w'=>e=.returned (.bool (decide (cT a b<0)))/\Below w.heap.size w w':=by
 refine Xd _ _ _ _ _ _ _ ?_ w;rw[ls_cv];have:=Hs a b;show decide (cT a b=-1)=_
 rcases this with h | h | h
 ·rw[h];rfl
 ·rw[h];rfl
 ·rw[h];rfl
theorem zV:∀(r:List Cl) (m c:Cl),gh m (r++[c])=if cT c (gh m r)<0 then c else gh m r
 | [],m,c=>rfl
 | x::r,m,c=>by
  rw[jem,gh,zV r,gh]
theorem zW:∀(r:List Cl) (m c:Cl),eE m (r++[c])=if 0<cT c (eE m r) then c else eE m r
 | [],m,c=>rfl
 | x::r,m,c=>by
  rw[jem,eE,zW r,eE]
def soM(ns:List Cl):Bool:=!ns.isEmpty
def leM:List Cl->Cl
 | []=>nul
 | x::r=>gh x r
def moM:List Cl->Cl
 | []=>nul
 | x::r=>eE x r
def ckM(ns:List Cl):Bool:=ns.all fun c=>!decide (c.1=3) || eM c
theorem Uq(ns:List Cl)(c:Cl):ckM (ns++[c])=(ckM ns && (!decide (c.1=3) || eM c)):=by simp[ckM]
theorem Ur(ns:List Cl)(c:Cl):soM (ns++[c])=true:=by simp[soM]
theorem Us(ns:List Cl)(c:Cl):leM (ns++[c])=if soM ns=false∨cT c (leM ns)<0 then c else leM ns:=by
 cases ns with
 | nil=>rfl
 | cons x r =>
  show gh x (r++[c])=_
  rw[zV];simp[soM,leM]
theorem Ut(ns:List Cl)(c:Cl):moM (ns++[c])=if soM ns=false∨cT (moM ns) c<0 then c else moM ns:=by
 cases ns with
 | nil=>rfl
 | cons x r =>
  show eE x (r++[c])=_
  rw[zW];have h:=Nk c (eE x r);by_cases h2:0<cT c (eE x r)
  ·rw[jdu h2]
   have h4:soM (x::r)=false∨cT (moM (x::r)) c<0:=Or.inr (show cT (eE x r) c<0 by omega);rw[jdu h4]
  ·rw[jdt h2]
   have h4:¬ (soM (x::r)=false∨cT (moM (x::r)) c<0):=fun h3=>by
    rcases h3 with h3 | h3
    ·simp[soM]at h3
    ·have h4:cT (eE x r) c<0:=h3
     omega
   rw[jdt h4];rfl
theorem Pv{cs:List Cl}{j:Nat}(h:j<cs.length)(h0:cs[j].1=0):aZ (cs.take (j+1))=aZ (cs.take j):=by
 unfold aZ;rw[jdM h,je6];simp[h0]
theorem Pw{cs:List Cl}{j:Nat}(h:j<cs.length)(h0:cs[j].1≠0):aZ (cs.take (j+1))=aZ (cs.take j)++[cs[j]]:=by
 unfold aZ;rw[jdM h,je6];simp[h0]
def Rw(W:World)(q0 q1 q2 q3:Nat)(st:Stt)(lo hi:Cl):Prop :=
 Stb W q0 stZ/\Stb W q1 st/\Ceb W q2 (.int .u8 (lo.1:Int)) (.int .i64 lo.2.1) (.string (ak lo.2.2))/\Ceb W q3 (.int .u8 (hi.1:Int)) (.int .i64 hi.2.1) (.string (ak hi.2.2))
theorem Rw.kept{W X:World}{q0 q1 q2 q3:Nat}{st:Stt}{lo hi:Cl}(h:Rw W q0 q1 q2 q3 st lo hi)(hb:Below W.heap.size W X):Rw X q0 q1 q2 q3 st lo hi:=⟨h.1.kept hb,h.2.1.kept hb,h.2.2.1.kept hb,h.2.2.2.kept hb⟩
theorem Ceb.other{W:World}{p q:Nat}{x y z:Value}(h:Ceb W q x y z)(hn:q≠p)(i:Nat)(v:Value):Ceb (W.setCell ⟨p,i,none⟩ v) q x y z:=by
 unfold Ceb at *;rw[heap_setCell_other _ ⟨p,i,none⟩ q _ hn];exact h
theorem Ceb.put{W:World}{p:Nat}{x y z:Value}(h:Ceb W p x y z)(x' y' z':Value):Ceb (((W.setCell ⟨p,0,none⟩ x').setCell ⟨p,1,none⟩ y').setCell ⟨p,2,none⟩ z') p x' y' z':=by
 unfold Ceb at *;rw[cK (cK (cK h 0 _) 1 _) 2 _];rfl
theorem Ceb.put2{W:World}{p:Nat}{x y z:Value}(h:Ceb W p x y z)(z':Value):Ceb (W.setCell ⟨p,2,none⟩ z') p x y z':=by
 unfold Ceb at *;rw[cK h 2 _];rfl
theorem Rw.nulls{W:World}{q0 q1 q2 q3:Nat}{st:Stt}{lo hi:Cl}(h:Rw W q0 q1 q2 q3 st lo hi)(h0:q0<q1)(h1:q1<q2)(h2:q2<q3)(m:Int):Rw (W.setCell ⟨q1,1,none⟩ (.int .i64 m)) q0 q1 q2 q3 {st with nulls:=m} lo hi:=by
 refine⟨h.1.other (by omega) _ _,?_,h.2.2.1.other (by omega) _ _,h.2.2.2.other (by omega) _ _⟩;have:=h.2.1;unfold Stb at *;rw[cK this 1 _];rfl
theorem Rw.some{W:World}{q0 q1 q2 q3:Nat}{st:Stt}{lo hi:Cl}(h:Rw W q0 q1 q2 q3 st lo hi)(h0:q0<q1)(h1:q1<q2)(h2:q2<q3):Rw (W.setCell ⟨q1,2,none⟩ (.bool true)) q0 q1 q2 q3 {st with some:=true} lo hi:=by
 refine⟨h.1.other (by omega) _ _,?_,h.2.2.1.other (by omega) _ _,h.2.2.2.other (by omega) _ _⟩;have:=h.2.1;unfold Stb at *;rw[cK this 2 _];rfl
theorem Rw.high{W:World}{q0 q1 q2 q3:Nat}{st:Stt}{lo hi:Cl}(h:Rw W q0 q1 q2 q3 st lo hi)(h0:q0<q1)(h1:q1<q2)(h2:q2<q3)(b:Bool):Rw (W.setCell ⟨q1,3,none⟩ (.bool b)) q0 q1 q2 q3 {st with high:=b} lo hi:=by
 refine⟨h.1.other (by omega) _ _,?_,h.2.2.1.other (by omega) _ _,h.2.2.2.other (by omega) _ _⟩;have:=h.2.1;unfold Stb at *;rw[cK this 3 _];rfl
theorem Rw.lo{W:World}{q0 q1 q2 q3:Nat}{st:Stt}{lo hi:Cl}(h:Rw W q0 q1 q2 q3 st lo hi)(h0:q0<q1)(h1:q1<q2)(h2:q2<q3)(c:Cl):Rw (((W.setCell ⟨q2,0,none⟩ (.int .u8 (c.1:Int))).setCell ⟨q2,1,none⟩ (.int .i64 c.2.1)).setCell ⟨q2,2,none⟩ (.string (ak c.2.2))) q0 q1 q2 q3 st c hi :=
 ⟨((h.1.other (by omega) _ _).other (by omega) _ _).other (by omega) _ _,((h.2.1.other (by omega) _ _).other (by omega) _ _).other (by omega) _ _,h.2.2.1.put _ _ _,((h.2.2.2.other (by omega) _ _).other (by omega) _ _).other (by omega) _ _⟩
theorem Rw.hi{W:World}{q0 q1 q2 q3:Nat}{st:Stt}{lo hi:Cl}(h:Rw W q0 q1 q2 q3 st lo hi)(h0:q0<q1)(h1:q1<q2)(h2:q2<q3)(c:Cl):Rw (((W.setCell ⟨q3,0,none⟩ (.int .u8 (c.1:Int))).setCell ⟨q3,1,none⟩ (.int .i64 c.2.1)).setCell ⟨q3,2,none⟩ (.string (ak c.2.2))) q0 q1 q2 q3 st lo c :=
 ⟨((h.1.other (by omega) _ _).other (by omega) _ _).other (by omega) _ _,((h.2.1.other (by omega) _ _).other (by omega) _ _).other (by omega) _ _,((h.2.2.1.other (by omega) _ _).other (by omega) _ _).other (by omega) _ _,h.2.2.2.put _ _ _⟩
theorem Rw.loS{W:World}{q0 q1 q2 q3:Nat}{st:Stt}{lo hi:Cl}(h:Rw W q0 q1 q2 q3 st lo hi)(h0:q0<q1)(h1:q1<q2)(h2:q2<q3)(s:List Nat):Rw (W.setCell ⟨q2,2,none⟩ (.string (ak s))) q0 q1 q2 q3 st (lo.1,lo.2.1,s) hi :=
 ⟨h.1.other (by omega) _ _,h.2.1.other (by omega) _ _,h.2.2.1.put2 _,h.2.2.2.other (by omega) _ _⟩
theorem Rw.facts{W:World}{q0 q1 q2 q3:Nat}{st:Stt}{lo hi:Cl}(h:Rw W q0 q1 q2 q3 st lo hi) :
  (W.cell? ⟨q1,1,none⟩=Option.some (.int .i64 st.nulls)/\W.cell? ⟨q1,2,none⟩=Option.some (.bool st.some)/\W.cell? ⟨q1,3,none⟩=Option.some (.bool st.high)) /\
  (W.cell? ⟨q2,0,none⟩=Option.some (.int .u8 (lo.1:Int))/\W.cell? ⟨q2,1,none⟩=Option.some (.int .i64 lo.2.1)/\W.cell? ⟨q2,2,none⟩=Option.some (.string (ak lo.2.2))) /\
  (W.cell? ⟨q3,0,none⟩=Option.some (.int .u8 (hi.1:Int))/\W.cell? ⟨q3,1,none⟩=Option.some (.int .i64 hi.2.1)/\W.cell? ⟨q3,2,none⟩=Option.some (.string (ak hi.2.2))) /\
  (∀ i,W.frozen? ⟨q0,i,none⟩=false)/\(∀ i,W.frozen? ⟨q1,i,none⟩=false)/\(∀ i,W.frozen? ⟨q2,i,none⟩=false)/\(∀ i,W.frozen? ⟨q3,i,none⟩=false):=by
 obtain⟨_,⟨_,a1,a2,a3⟩,_⟩:=h.2.1.at;simp only[jdZ]at a1 a2 a3;refine⟨⟨a1,a2,a3⟩,h.2.2.1.facts.1,h.2.2.2.facts.1,h.1.frozen,h.2.1.frozen,?_,?_⟩
 ·have:=h.2.2.1
  unfold Ceb at this;intro i;simp[World.frozen?,this]
 ·have:=h.2.2.2
  unfold Ceb at this;intro i;simp[World.frozen?,this]
def fS(cs:List Cl):Stt :=
 if soM (aZ cs)=false then ⟨cs.length,(cs.length:Int)-((aZ cs).length:Nat),false,false,nul,nul⟩
 else if (leM (aZ cs)).1=3 then (if ckM (aZ cs)=false then ⟨cs.length,(cs.length:Int)-((aZ cs).length:Nat),true,false,((leM (aZ cs)).1,(leM (aZ cs)).2.1,[]),nul⟩
  else match dZ (lb (ak (moM (aZ cs)).2.2)) 4 with
   | none=>⟨cs.length,(cs.length:Int)-((aZ cs).length:Nat),true,false,((leM (aZ cs)).1,(leM (aZ cs)).2.1,nb (bW (lb (ak (leM (aZ cs)).2.2)) 4)),nul⟩
   | some a=>⟨cs.length,(cs.length:Int)-((aZ cs).length:Nat),true,true,((leM (aZ cs)).1,(leM (aZ cs)).2.1,nb (bW (lb (ak (leM (aZ cs)).2.2)) 4)),((moM (aZ cs)).1,(moM (aZ cs)).2.1,nb a)⟩)
 else ⟨cs.length,(cs.length:Int)-((aZ cs).length:Nat),true,true,leM (aZ cs),moM (aZ cs)⟩
theorem BQ{w:World}{v:Value}{cs:List Cl}(hs:Sc w v cs)(hf:∀ c∈cs,aT c)(hl:cs.length<=1000):Calls Tryz.prog 25 #[v] w fun e w'=>e=.returned (ux (fS cs))/\Below w.heap.size w w':=by
 have HF:=ae hf;have HL:=ae hl;obtain⟨a,cap,rfl,aW,bw⟩:=hs.form;have HS:=ae hs;clear hs hf hl bw;go_enter Tryz.func25,Tryz.ntmps25
 go_wp2_with fail;have ct:=Stb.new w stZ;have dO:=am w (.cells #[.int .i64 0,.int .i64 0,.bool false,.bool false,.int .u8 0,.int .i64 0,.string ⟨#[]⟩,.int .u8 0,.int .i64 0,.string ⟨#[]⟩] 54);have s0:(w.alloc (.cells #[.int .i64 0,.int .i64 0,.bool false,.bool false,.int .u8 0,.int .i64 0,.string ⟨#[]⟩,.int .u8 0,.int .i64 0,.string ⟨#[]⟩] 54)).heap.size=w.heap.size+1:=jdx _ _;have hz0':Stb (w.alloc (.cells #[.int .i64 0,.int .i64 0,.bool false,.bool false,.int .u8 0,.int .i64 0,.string ⟨#[]⟩,.int .u8 0,.int .i64 0,.string ⟨#[]⟩] 54)) w.heap.size stZ:=ct;clear ct;generalize hA:w.alloc (.cells #[.int .i64 0,.int .i64 0,.bool false,.bool false,.int .u8 0,.int .i64 0,.string ⟨#[]⟩,.int .u8 0,.int .i64 0,.string ⟨#[]⟩] 54)=A at *;have cP:=Stb.new A ⟨cs.length,0,false,false,nul,nul⟩;have aH:=am A (.cells #[.int .i64 (cs.length:Int),.int .i64 0,.bool false,.bool false,.int .u8 0,.int .i64 0,.string ⟨#[]⟩,.int .u8 0,.int .i64 0,.string ⟨#[]⟩] 54);have s1:(A.alloc (.cells #[.int .i64 (cs.length:Int),.int .i64 0,.bool false,.bool false,.int .u8 0,.int .i64 0,.string ⟨#[]⟩,.int .u8 0,.int .i64 0,.string ⟨#[]⟩] 54)).heap.size=A.heap.size+1:=jdx _ _;have hz1':Stb (A.alloc (.cells #[.int .i64 (cs.length:Int),.int .i64 0,.bool false,.bool false,.int .u8 0,.int .i64 0,.string ⟨#[]⟩,.int .u8 0,.int .i64 0,.string ⟨#[]⟩] 54)) A.heap.size ⟨cs.length,0,false,false,nul,nul⟩:=cP;clear cP;generalize hB:A.alloc (.cells #[.int .i64 (cs.length:Int),.int .i64 0,.bool false,.bool false,.int .u8 0,.int .i64 0,.string ⟨#[]⟩,.int .u8 0,.int .i64 0,.string ⟨#[]⟩] 54)=B at *;have bv:=Ceb.new B (.int .u8 0) (.int .i64 0) (.string ⟨#[]⟩);have aE:=am B (.cells #[.int .u8 0,.int .i64 0,.string ⟨#[]⟩] 52);have s2:(B.alloc (.cells #[.int .u8 0,.int .i64 0,.string ⟨#[]⟩] 52)).heap.size=B.heap.size+1:=jdx _ _;generalize hC:B.alloc (.cells #[.int .u8 0,.int .i64 0,.string ⟨#[]⟩] 52)=C at *;have iH:=Ceb.new C (.int .u8 0) (.int .i64 0) (.string ⟨#[]⟩);have aS:=am C (.cells #[.int .u8 0,.int .i64 0,.string ⟨#[]⟩] 52);have s3:(C.alloc (.cells #[.int .u8 0,.int .i64 0,.string ⟨#[]⟩] 52)).heap.size=C.heap.size+1:=jdx _ _;generalize hD:C.alloc (.cells #[.int .u8 0,.int .i64 0,.string ⟨#[]⟩] 52)=D at *;have KG:jfp (Rw D w.heap.size A.heap.size B.heap.size C.heap.size ⟨cs.length,0,false,false,nul,nul⟩ nul nul):=ae ⟨((hz0'.kept aH).kept aE).kept aS,(hz1'.kept aE).kept aS,bv.kept aS,iH⟩;have FZ:=ae (ai (ai (ai dO aH) aE) aS);have e1:A.heap.size=w.heap.size+1:=s0;have e2:B.heap.size=w.heap.size+1+1:=by omega
 have e3:C.heap.size=w.heap.size+1+1+1:=by omega
 rw[e1,e2,e3]at KG;clear hz0' hz1' bv iH dO aH aE aS hA hB hC hD s0 s1 s2 s3 e1 e2 e3;obtain⟨q1,se⟩:∃ q1,q1=w.heap.size+1:=⟨_,rfl⟩;obtain⟨q2,nj⟩:∃ q2,q2=w.heap.size+1+1:=⟨_,rfl⟩;obtain⟨q3,LW⟩:∃ q3,q3=w.heap.size+1+1+1:=⟨_,rfl⟩;have HQ:jfp (w.heap.size<q1/\q1<q2/\q2<q3):=ae (by omega);rw[← LW,← nj,← se]at KG;rw[← LW,← nj,← se];clear se nj LW;go_loopw [6,7] (fun ck i wr=>∃ j:Nat,j<=cs.length/\i=.int .i64 (j:Int)/\ck=.bool (ckM (aZ (cs.take j)))/\Rw wr w.heap.size q1 q2 q3 ⟨cs.length,(j:Int)-((aZ (cs.take j)).length:Nat),soM (aZ (cs.take j)),false,nul,nul⟩ (leM (aZ (cs.take j))) (moM (aZ (cs.take j)))/\Below w.heap.size w wr) (fun _ i _=>cs.length-(intOf i).toNat)
 case atStart=>exact⟨0,by omega,rfl,rfl,KG.o,FZ.o⟩
 case round =>
  obtain⟨j,hj,rfl,rfl,hrw,az⟩:=hrel;have HR:=ae hrw;have HB:=ae az;have bF:=az.size;have Qx:jfp (¬ q1=w.heap.size/\¬ w.heap.size=q1/\¬ q2=w.heap.size/\¬ w.heap.size=q2/\¬ q3=w.heap.size/\¬ w.heap.size=q3/\¬ q1=q2/\¬ q2=q1/\¬ q1=q3/\¬ q3=q1/\¬ q2=q3/\¬ q3=q2):=ae (by have:=HQ.o;omega);clear hrw az KG FZ;by_cases aB:j<cs.length
  ·have hlt':(j:Int)<(cs.length:Int):=by omega
   have Yw:jfp (j+1<=cs.length):=ae aB
   have HWJ:jfp (Value.int .i64 (wrap64 ((j:Int)+1))=Value.int .i64 ((j+1:Nat):Int)):=ae (by
    have:=HL.o;have hw:wrap64 ((j:Int)+1)=(j:Int)+1:=by unfold wrap64;omega
    rw[hw];rfl)
   have VG:jfp (∀ k,intOf (.int .i64 (wrap64 ((j:Int)+1)))=k->cs.length-k.toNat<cs.length-(intOf (.int .i64 (j:Int))).toNat):=ae (by
    intro k hk;have:=HL.o;have hw:wrap64 ((j:Int)+1)=(j:Int)+1:=by unfold wrap64;omega
    rw[hw]at hk;simp only[intOf]at hk ⊢;omega)
   obtain⟨g,off,rfl,hg,c0,c1,c2⟩:=(HS.o.kept (HB.o.mono (jdw _))).at aB;rw[dJ]at c2;have HX0:=ae (Pv aB);have LR:=ae (Pw aB)
   have HNL:jfp ((aZ (cs.take j)).length<=j):=ae (by
    have:=je4 (fun c:Cl=>!decide (c.1=0)) (cs.take j);rw[jdC]at this;unfold aZ;omega)
   have Ca:=ae (HF.o cs[j] (jdA aB));generalize hns:aZ (cs.take j)=ns at *;generalize hns2:aZ (cs.take (j+1))=ns2 at *;have FR:=ae hns2;clear hns hns2;generalize cs[j]=c at *;have zY:=Ceb.new wr (.int .u8 (c.1:Int)) (.int .i64 c.2.1) (.string (ak c.2.2));have aE:=am wr (.cells #[.int .u8 (c.1:Int),.int .i64 c.2.1,.string (ak c.2.2)] 52);have jb:=ae (HR.o.kept aE);have aO:=ae (ai HB.o aE);have kP:=ae zY;clear zY aE;obtain⟨⟨d0,d1,d2⟩,_,_⟩:=kP.o.facts;obtain⟨⟨r1,r2,_⟩,⟨l0,l1,l2⟩,⟨m0,m1,m2⟩,fq0,fq1,fq2,fq3⟩:=jb.o.facts;obtain⟨n1,n2,n3,n4,n5,n6,n7,n8,n9,n10,n11,n12⟩:=Qx.o;simp only at r1 r2;have h8:q3<wr.heap.size:=HR.o.2.2.2.facts.2.2;have n13:¬ wr.heap.size=q1:=by have:=HQ.o;omega
   have n14:¬ wr.heap.size=q2:=by have:=HQ.o;omega
   have n15:¬ wr.heap.size=q3:=by have:=HQ.o;omega
   have n16:¬ q1=wr.heap.size:=by have:=HQ.o;omega
   have n17:¬ q2=wr.heap.size:=by have:=HQ.o;omega
   have n18:¬ q3=wr.heap.size:=by have:=HQ.o;omega
   clear h8;generalize hW:wr.alloc (.cells #[.int .u8 (c.1:Int),.int .i64 c.2.1,.string (ak c.2.2)] 52)=W at *;by_cases qk:c.1=0
   ·have hc0':((c.1:Int)==0)=true:=by rw[qk];rfl
    have hx:=HX0.o qk;clear HX0 LR;subst hx;have UE:wrap64 ((j:Int)-(ns2.length:Int)+1)=(j:Int)-(ns2.length:Int)+1:=by have:=HL.o;have:=HNL.o;unfold wrap64;omega
    have sj:=ae (jb.o.nulls HQ.o.1 HQ.o.2.1 HQ.o.2.2 ((j:Int)-(ns2.length:Int)+1));have bP:=ae (aO.o.setCell (p:=⟨q1,1,none⟩) (jdU HQ.o.1) (.int .i64 ((j:Int)-(ns2.length:Int)+1)));clear qk;go_wp2_with fail;go_roundw
    case rel =>
     refine⟨j+1,Yw.o,HWJ.o,by rw[FR.o],?_,bP.o⟩;have:=sj.o;rw[FR.o,show ((j+1:Nat):Int)-(ns2.length:Int)=(j:Int)-(ns2.length:Int)+1 by omega];exact this
    case measure=>exact VG.o _ rfl
   ·have hc0':((c.1:Int)==0)=false:=jdG.2 (by omega)
    have hx:=LR.o qk;clear HX0 LR
    have cU:jfp (∀(X:World) (cl:Bool) (lo hi:Cl),cl=ckM (ns++[c])->lo=leM (ns++[c])->hi=moM (ns++[c])->Rw X w.heap.size q1 q2 q3 ⟨cs.length,(j:Int)-(ns.length:Nat),true,false,nul,nul⟩ lo hi->Below w.heap.size w X ->
      ∃ j1:Nat,j1<=cs.length/\Value.int .i64 (wrap64 ((j:Int)+1))=.int .i64 (j1:Int)/\Value.bool cl=.bool (ckM (aZ (cs.take j1)))/\Rw X w.heap.size q1 q2 q3 ⟨cs.length,(j1:Int)-((aZ (cs.take j1)).length:Nat),soM (aZ (cs.take j1)),false,nul,nul⟩ (leM (aZ (cs.take j1))) (moM (aZ (cs.take j1)))/\Below w.heap.size w X):=ae (by
     intro X cl lo hi e1 e2 e3 h1 h2;refine⟨j+1,Yw.o,HWJ.o,by rw[FR.o,e1,hx],?_,h2⟩;rw[FR.o,hx,Ur,← e2,← e3,jdy,show ((j+1:Nat):Int)-((ns.length+[c].length:Nat):Int)=(j:Int)-(ns.length:Int) by simp only[jdD,jdX];omega];exact h1)
    have nk:jfp (ckM (ns++[c])=(ckM ns && (!decide (c.1=3) || eM c))):=ae (Uq ns c);have uD:jfp (leM (ns++[c])=if soM ns=false∨cT c (leM ns)<0 then c else leM ns):=ae (Us ns c);have ZY:jfp (moM (ns++[c])=if soM ns=false∨cT (moM ns) c<0 then c else moM ns):=ae (Ut ns c);have HSG:=ae (oH (ak c.2.2) (by have:=Ca.o.short;omega));have Zn:=ae (Zg c (leM ns));have HL2:=ae (Zg (moM ns) c);have qn:jfp (w.heap.size<=wr.heap.size):=ae bF;clear qk hx FR;generalize UX:soM ns=so at *;generalize leM ns=lo at *;generalize moM ns=hi at *;generalize ckM ns=cl at *;generalize ckM (ns++[c])=cl' at *;generalize leM (ns++[c])=lo' at *;generalize moM (ns++[c])=hi' at *;clear UX bF;generalize (j:Int)-(ns.length:Int)=mm at *;have xP:((c.1:Int)==3)=true∨((c.1:Int)==3)=false:=by cases ((c.1:Int)==3)<;>simp
    rcases xP with h3 | h3
    ·have qr:jfp (cl'=(cl && dP (lb (ak c.2.2)))):=ae (by
      have:c.1=3:=by have:=eq_of_beq h3;omega
      rw[nk.o,this];rfl)
     go_wp2_with fail;refine(HSG.o _).mono ?_;rintro e w2 ⟨⟨sa,sb,rfl,_,_⟩,aS⟩;have sj:=ae (jb.o.kept aS);have bP:=ae (ai aO.o aS);have Qo:=ae (kP.o.kept aS);clear aS jb aO kP d0 d1 d2 r1 r2 l0 l1 l2 m0 m1 m2 fq0 fq1 fq2 fq3;obtain⟨⟨d0,d1,d2⟩,_,_⟩:=Qo.o.facts;obtain⟨⟨r1,r2,_⟩,⟨l0,l1,l2⟩,⟨m0,m1,m2⟩,fq0,fq1,fq2,fq3⟩:=sj.o.facts;simp only at r1 r2;generalize dP (lb (ak c.2.2))=ck at *;have uM:jfp (cl'=(if cl=true then ck else false)):=ae (by rw[qr.o];cases cl<;>rfl);clear qr;cases cl
     all_goals
      simp only[if_true,if_false,Bool.false_eq_true]at uM;cases so
      ·have LT:jfp (lo'=c):=ae (by rw[uD.o,jdu (Or.inl rfl)])
       have yJ:jfp (hi'=c):=ae (by rw[ZY.o,jdu (Or.inl rfl)]);have pI:=ae (((sj.o.lo HQ.o.1 HQ.o.2.1 HQ.o.2.2 c).hi HQ.o.1 HQ.o.2.1 HQ.o.2.2 c).some HQ.o.1 HQ.o.2.1 HQ.o.2.2);have tp:=ae ((set3 (set3 bP.o (jdU (jea HQ.o.1 HQ.o.2.1)) (.int .u8 (c.1:Int)) (.int .i64 c.2.1) (.string (ak c.2.2))) (jdU (jea (jea HQ.o.1 HQ.o.2.1) HQ.o.2.2)) (.int .u8 (c.1:Int)) (.int .i64 c.2.1) (.string (ak c.2.2))).setCell (p:=⟨q1,2,none⟩) (jdU HQ.o.1) (.bool true));clear uD ZY;go_wp2_with fail;go_roundw
       case rel=>exact cU.o _ _ c c uM.o.symm LT.o.symm yJ.o.symm pI.o tp.o
       case measure=>exact VG.o _ rfl
      ·have LT:jfp (lo'=if decide (cT c lo<0)=true then c else lo):=ae (by rw[uD.o];simp)
       have yJ:jfp (hi'=if decide (cT hi c<0)=true then c else hi):=ae (by rw[ZY.o];simp);clear uD ZY;generalize decide (cT c lo<0)=b1 at *;generalize decide (cT hi c<0)=b2 at *;go_wp2_with fail;refine(Zn.o _).mono ?_;rintro e w4 ⟨rfl,bK⟩;have Al:=ae (sj.o.kept bK);have cx:=ae (ai bP.o bK);have xK:=ae (Qo.o.kept bK);clear bK sj bP Qo d0 d1 d2 r1 r2 l0 l1 l2 m0 m1 m2 fq0 fq1 fq2 fq3;obtain⟨⟨d0,d1,d2⟩,_,_⟩:=xK.o.facts;obtain⟨⟨r1,r2,_⟩,⟨l0,l1,l2⟩,⟨m0,m1,m2⟩,fq0,fq1,fq2,fq3⟩:=Al.o.facts;simp only at r1 r2;cases b1
       ·have xL:jfp (lo'=lo):=ae LT.o
        clear LT;go_wp2_with fail;refine(HL2.o _).mono ?_;rintro e w5 ⟨rfl,bD⟩;have tv:=ae (Al.o.kept bD);have aR:=ae (ai cx.o bD);have KO:=ae (xK.o.kept bD);clear bD Al cx xK d0 d1 d2 r1 r2 l0 l1 l2 m0 m1 m2 fq0 fq1 fq2 fq3;obtain⟨⟨d0,d1,d2⟩,_,_⟩:=KO.o.facts;obtain⟨⟨r1,r2,_⟩,⟨l0,l1,l2⟩,⟨m0,m1,m2⟩,fq0,fq1,fq2,fq3⟩:=tv.o.facts;simp only at r1 r2;cases b2
        ·have qo:jfp (hi'=hi):=ae yJ.o
         have pI:=ae (tv.o.some HQ.o.1 HQ.o.2.1 HQ.o.2.2);have tp:=ae (aR.o.setCell (p:=⟨q1,2,none⟩) (jdU HQ.o.1) (.bool true));clear yJ;go_wp2_with fail;go_roundw
         case rel=>exact cU.o _ _ lo hi uM.o.symm xL.o.symm qo.o.symm pI.o tp.o
         case measure=>exact VG.o _ rfl
        ·have qo:jfp (hi'=c):=ae yJ.o
         have pI:=ae ((tv.o.hi HQ.o.1 HQ.o.2.1 HQ.o.2.2 c).some HQ.o.1 HQ.o.2.1 HQ.o.2.2);have tp:=ae ((set3 aR.o (jdU (jea (jea HQ.o.1 HQ.o.2.1) HQ.o.2.2)) (.int .u8 (c.1:Int)) (.int .i64 c.2.1) (.string (ak c.2.2))).setCell (p:=⟨q1,2,none⟩) (jdU HQ.o.1) (.bool true));clear yJ;go_wp2_with fail;go_roundw
         case rel=>exact cU.o _ _ lo c uM.o.symm xL.o.symm qo.o.symm pI.o tp.o
         case measure=>exact VG.o _ rfl
       ·have xL:jfp (lo'=c):=ae LT.o
        clear LT;go_wp2_with fail;have HR4':=ae (Al.o.lo HQ.o.1 HQ.o.2.1 HQ.o.2.2 c);have HB4':=ae (set3 cx.o (jdU (jea HQ.o.1 HQ.o.2.1)) (.int .u8 (c.1:Int)) (.int .i64 c.2.1) (.string (ak c.2.2)));have HCN4':=ae (((xK.o.other n14 0 (.int .u8 (c.1:Int))).other n14 1 (.int .i64 c.2.1)).other n14 2 (.string (ak c.2.2)));refine(HL2.o _).mono ?_;rintro e w5 ⟨rfl,bD⟩;have tv:=ae (HR4'.o.kept bD);have aR:=ae (ai HB4'.o bD);have KO:=ae (HCN4'.o.kept bD);clear bD Al cx xK HR4' HB4' HCN4' d0 d1 d2 r1 r2 l0 l1 l2 m0 m1 m2 fq0 fq1 fq2 fq3;obtain⟨⟨d0,d1,d2⟩,_,_⟩:=KO.o.facts;obtain⟨⟨r1,r2,_⟩,⟨l0,l1,l2⟩,⟨m0,m1,m2⟩,fq0,fq1,fq2,fq3⟩:=tv.o.facts;simp only at r1 r2;cases b2
        ·have qo:jfp (hi'=hi):=ae yJ.o
         have pI:=ae (tv.o.some HQ.o.1 HQ.o.2.1 HQ.o.2.2);have tp:=ae (aR.o.setCell (p:=⟨q1,2,none⟩) (jdU HQ.o.1) (.bool true));clear yJ;go_wp2_with fail;go_roundw
         case rel=>exact cU.o _ _ c hi uM.o.symm xL.o.symm qo.o.symm pI.o tp.o
         case measure=>exact VG.o _ rfl
        ·have qo:jfp (hi'=c):=ae yJ.o
         have pI:=ae ((tv.o.hi HQ.o.1 HQ.o.2.1 HQ.o.2.2 c).some HQ.o.1 HQ.o.2.1 HQ.o.2.2);have tp:=ae ((set3 aR.o (jdU (jea (jea HQ.o.1 HQ.o.2.1) HQ.o.2.2)) (.int .u8 (c.1:Int)) (.int .i64 c.2.1) (.string (ak c.2.2))).setCell (p:=⟨q1,2,none⟩) (jdU HQ.o.1) (.bool true));clear yJ;go_wp2_with fail;go_roundw
         case rel=>exact cU.o _ _ c c uM.o.symm xL.o.symm qo.o.symm pI.o tp.o
         case measure=>exact VG.o _ rfl
    ·have uM:jfp (cl'=cl):=ae (by
      have:¬ c.1=3:=fun h=>by rw[h]at h3;simp at h3
      rw[nk.o];simp[this])
     have sj:=jb;have bP:=aO;have Qo:=kP;clear jb aO kP;cases so
     ·have LT:jfp (lo'=c):=ae (by rw[uD.o,jdu (Or.inl rfl)])
      have yJ:jfp (hi'=c):=ae (by rw[ZY.o,jdu (Or.inl rfl)]);have pI:=ae (((sj.o.lo HQ.o.1 HQ.o.2.1 HQ.o.2.2 c).hi HQ.o.1 HQ.o.2.1 HQ.o.2.2 c).some HQ.o.1 HQ.o.2.1 HQ.o.2.2);have tp:=ae ((set3 (set3 bP.o (jdU (jea HQ.o.1 HQ.o.2.1)) (.int .u8 (c.1:Int)) (.int .i64 c.2.1) (.string (ak c.2.2))) (jdU (jea (jea HQ.o.1 HQ.o.2.1) HQ.o.2.2)) (.int .u8 (c.1:Int)) (.int .i64 c.2.1) (.string (ak c.2.2))).setCell (p:=⟨q1,2,none⟩) (jdU HQ.o.1) (.bool true));clear uD ZY;go_wp2_with fail;go_roundw
      case rel=>exact cU.o _ _ c c uM.o.symm LT.o.symm yJ.o.symm pI.o tp.o
      case measure=>exact VG.o _ rfl
     ·have LT:jfp (lo'=if decide (cT c lo<0)=true then c else lo):=ae (by rw[uD.o];simp)
      have yJ:jfp (hi'=if decide (cT hi c<0)=true then c else hi):=ae (by rw[ZY.o];simp);clear uD ZY;generalize decide (cT c lo<0)=b1 at *;generalize decide (cT hi c<0)=b2 at *;go_wp2_with fail;refine(Zn.o _).mono ?_;rintro e w4 ⟨rfl,bK⟩;have Al:=ae (sj.o.kept bK);have cx:=ae (ai bP.o bK);have xK:=ae (Qo.o.kept bK);clear bK sj bP Qo d0 d1 d2 r1 r2 l0 l1 l2 m0 m1 m2 fq0 fq1 fq2 fq3;obtain⟨⟨d0,d1,d2⟩,_,_⟩:=xK.o.facts;obtain⟨⟨r1,r2,_⟩,⟨l0,l1,l2⟩,⟨m0,m1,m2⟩,fq0,fq1,fq2,fq3⟩:=Al.o.facts;simp only at r1 r2;cases b1
      ·have xL:jfp (lo'=lo):=ae LT.o
       clear LT;go_wp2_with fail;refine(HL2.o _).mono ?_;rintro e w5 ⟨rfl,bD⟩;have tv:=ae (Al.o.kept bD);have aR:=ae (ai cx.o bD);have KO:=ae (xK.o.kept bD);clear bD Al cx xK d0 d1 d2 r1 r2 l0 l1 l2 m0 m1 m2 fq0 fq1 fq2 fq3;obtain⟨⟨d0,d1,d2⟩,_,_⟩:=KO.o.facts;obtain⟨⟨r1,r2,_⟩,⟨l0,l1,l2⟩,⟨m0,m1,m2⟩,fq0,fq1,fq2,fq3⟩:=tv.o.facts;simp only at r1 r2;cases b2
       ·have qo:jfp (hi'=hi):=ae yJ.o
        have pI:=ae (tv.o.some HQ.o.1 HQ.o.2.1 HQ.o.2.2);have tp:=ae (aR.o.setCell (p:=⟨q1,2,none⟩) (jdU HQ.o.1) (.bool true));clear yJ;go_wp2_with fail;go_roundw
        case rel=>exact cU.o _ _ lo hi uM.o.symm xL.o.symm qo.o.symm pI.o tp.o
        case measure=>exact VG.o _ rfl
       ·have qo:jfp (hi'=c):=ae yJ.o
        have pI:=ae ((tv.o.hi HQ.o.1 HQ.o.2.1 HQ.o.2.2 c).some HQ.o.1 HQ.o.2.1 HQ.o.2.2);have tp:=ae ((set3 aR.o (jdU (jea (jea HQ.o.1 HQ.o.2.1) HQ.o.2.2)) (.int .u8 (c.1:Int)) (.int .i64 c.2.1) (.string (ak c.2.2))).setCell (p:=⟨q1,2,none⟩) (jdU HQ.o.1) (.bool true));clear yJ;go_wp2_with fail;go_roundw
        case rel=>exact cU.o _ _ lo c uM.o.symm xL.o.symm qo.o.symm pI.o tp.o
        case measure=>exact VG.o _ rfl
      ·have xL:jfp (lo'=c):=ae LT.o
       clear LT;go_wp2_with fail;have HR4':=ae (Al.o.lo HQ.o.1 HQ.o.2.1 HQ.o.2.2 c);have HB4':=ae (set3 cx.o (jdU (jea HQ.o.1 HQ.o.2.1)) (.int .u8 (c.1:Int)) (.int .i64 c.2.1) (.string (ak c.2.2)));have HCN4':=ae (((xK.o.other n14 0 (.int .u8 (c.1:Int))).other n14 1 (.int .i64 c.2.1)).other n14 2 (.string (ak c.2.2)));refine(HL2.o _).mono ?_;rintro e w5 ⟨rfl,bD⟩;have tv:=ae (HR4'.o.kept bD);have aR:=ae (ai HB4'.o bD);have KO:=ae (HCN4'.o.kept bD);clear bD Al cx xK HR4' HB4' HCN4' d0 d1 d2 r1 r2 l0 l1 l2 m0 m1 m2 fq0 fq1 fq2 fq3;obtain⟨⟨d0,d1,d2⟩,_,_⟩:=KO.o.facts;obtain⟨⟨r1,r2,_⟩,⟨l0,l1,l2⟩,⟨m0,m1,m2⟩,fq0,fq1,fq2,fq3⟩:=tv.o.facts;simp only at r1 r2;cases b2
       ·have qo:jfp (hi'=hi):=ae yJ.o
        have pI:=ae (tv.o.some HQ.o.1 HQ.o.2.1 HQ.o.2.2);have tp:=ae (aR.o.setCell (p:=⟨q1,2,none⟩) (jdU HQ.o.1) (.bool true));clear yJ;go_wp2_with fail;go_roundw
        case rel=>exact cU.o _ _ c hi uM.o.symm xL.o.symm qo.o.symm pI.o tp.o
        case measure=>exact VG.o _ rfl
       ·have qo:jfp (hi'=c):=ae yJ.o
        have pI:=ae ((tv.o.hi HQ.o.1 HQ.o.2.1 HQ.o.2.2 c).some HQ.o.1 HQ.o.2.1 HQ.o.2.2);have tp:=ae ((set3 aR.o (jdU (jea (jea HQ.o.1 HQ.o.2.1) HQ.o.2.2)) (.int .u8 (c.1:Int)) (.int .i64 c.2.1) (.string (ak c.2.2))).setCell (p:=⟨q1,2,none⟩) (jdU HQ.o.1) (.bool true));clear yJ;go_wp2_with fail;go_roundw
        case rel=>exact cU.o _ _ c c uM.o.symm xL.o.symm qo.o.symm pI.o tp.o
        case measure=>exact VG.o _ rfl
  ·obtain rfl:j=cs.length:=by omega
   rw[jdE]at HR ⊢;have gj:¬ ((cs.length:Nat):Int)<(cs.length:Int):=(by omega);have HNL:jfp ((aZ cs).length<=cs.length):=ae (je4 _ _)
   have HDF:jfp (fS cs=if soM (aZ cs)=false then ⟨cs.length,(cs.length:Int)-((aZ cs).length:Nat),false,false,nul,nul⟩
    else if (leM (aZ cs)).1=3 then (if ckM (aZ cs)=false then ⟨cs.length,(cs.length:Int)-((aZ cs).length:Nat),true,false,((leM (aZ cs)).1,(leM (aZ cs)).2.1,[]),nul⟩
     else match dZ (lb (ak (moM (aZ cs)).2.2)) 4 with
      | none=>⟨cs.length,(cs.length:Int)-((aZ cs).length:Nat),true,false,((leM (aZ cs)).1,(leM (aZ cs)).2.1,nb (bW (lb (ak (leM (aZ cs)).2.2)) 4)),nul⟩
      | some a=>⟨cs.length,(cs.length:Int)-((aZ cs).length:Nat),true,true,((leM (aZ cs)).1,(leM (aZ cs)).2.1,nb (bW (lb (ak (leM (aZ cs)).2.2)) 4)),((moM (aZ cs)).1,(moM (aZ cs)).2.1,nb a)⟩)
    else ⟨cs.length,(cs.length:Int)-((aZ cs).length:Nat),true,true,leM (aZ cs),moM (aZ cs)⟩):=ae rfl
   have PS:jfp (∀ c∈aZ cs,aT c):=ae (fun c hc=>HF.o c (by unfold aZ at hc;exact(jfg.1 hc).1))
   have LQ:jfp (aT (leM (aZ cs))):=ae (by
    have:=PS.o;cases hn:aZ cs with
    | nil=>exact Or.inl rfl
    | cons x r=>rw[hn]at this;exact lY (this x (by simp)) (fun c hc=>this c (by simp[hc])))
   have lI:jfp (aT (moM (aZ cs))):=ae (by
    have:=PS.o;cases hn:aZ cs with
    | nil=>exact Or.inl rfl
    | cons x r=>rw[hn]at this;exact nO (this x (by simp)) (fun c hc=>this c (by simp[hc])))
   generalize ckM (aZ cs)=ck at *;generalize soM (aZ cs)=so at *;generalize leM (aZ cs)=lo at *;generalize moM (aZ cs)=hi at *;generalize (cs.length:Int)-((aZ cs).length:Nat)=mm at *;obtain⟨n1,n2,n3,n4,n5,n6,n7,n8,n9,n10,n11,n12⟩:=Qx.o;cases so
   ·have yG:jfp (fS cs=⟨cs.length,mm,false,false,nul,nul⟩):=ae (by rw[HDF.o,jdu rfl])
    obtain⟨_,⟨r0,r1,r2,r3⟩,⟨r4,r5,r6⟩,r7,r8,r9⟩:=HR.o.2.1.at;obtain⟨_,⟨z0,z1,z2,z3⟩,⟨z4,z5,z6⟩,z7,z8,z9⟩:=HR.o.1.at;obtain⟨_,_,_,fq0,fq1,fq2,fq3⟩:=HR.o.facts;simp only[jdZ]at r0 r1 r2 r3 r4 r5 r6 r7 r8 r9 z0 z1 z2 z3 z4 z5 z6 z7 z8 z9;clear HDF;go_wp2_with fail;refine bodyPost_ret (v:=.agg #[.int .i64 (cs.length:Int),.int .i64 mm,.bool false,.bool false,.int .u8 0,.int .i64 0,.string ⟨#[]⟩,.int .u8 0,.int .i64 0,.string ⟨#[]⟩]) (by simp[results,Tryz.results25,go_sem,nul,en,z0,z1,z2,z3,z4,z5,z6,z7,z8,z9]) rfl ⟨?_,?_⟩
    ·rw[yG.o]
     rfl
    ·have:=HQ.o
     repeat refine fy ?_ (by omega) _ _
     exact HB.o
   ·by_cases h3:lo.1=3
    ·have h3':((lo.1:Int)==3)=true:=by rw[h3];rfl
     have Cb:=ae (AN (ak lo.2.2) 4 (by have:=LQ.o.short;omega));have Zt:=ae (Ba (ak hi.2.2) 4 (by have:=lI.o.short;omega))
     have yG:jfp (fS cs=if ck=false then ⟨cs.length,mm,true,false,(lo.1,lo.2.1,[]),nul⟩ else match dZ (lb (ak hi.2.2)) 4 with
      | none=>⟨cs.length,mm,true,false,(lo.1,lo.2.1,nb (bW (lb (ak lo.2.2)) 4)),nul⟩
      | some a=>⟨cs.length,mm,true,true,(lo.1,lo.2.1,nb (bW (lb (ak lo.2.2)) 4)),(hi.1,hi.2.1,nb a)⟩):=ae (by rw[HDF.o,jdt (by simp),jdu h3])
     obtain⟨⟨r1,r2,r3⟩,⟨l0,l1,l2⟩,_,fq0,fq1,fq2,fq3⟩:=HR.o.facts;simp only at r1 r2 r3;clear h3 HDF;go_wp2_with fail;have HR':=ae (HR.o.high HQ.o.1 HQ.o.2.1 HQ.o.2.2 true);have HB':=ae (HB.o.setCell (p:=⟨q1,3,none⟩) (jdU HQ.o.1) (.bool true));refine(Cb.o _).mono ?_;rintro e w3 ⟨⟨t,rfl,ht⟩,aS⟩;have sj:=ae (HR'.o.kept aS);have bP:=ae (ai HB'.o aS);have xQ:=ae (Ln ht);clear aS ht HR HB HR' HB' r1 r2 r3 l0 l1 l2 fq0 fq1 fq2 fq3;cases ck
     ·have ZZ:jfp (fS cs=⟨cs.length,mm,true,false,(lo.1,lo.2.1,[]),nul⟩):=ae (by rw[yG.o,jdu rfl])
      clear yG;obtain⟨_,⟨r0,r1,r2,r3⟩,⟨r4,r5,r6⟩,r7,r8,r9⟩:=sj.o.2.1.at;obtain⟨_,⟨z0,z1,z2,z3⟩,⟨z4,z5,z6⟩,z7,z8,z9⟩:=sj.o.1.at;obtain⟨_,⟨l0,l1,l2⟩,⟨m0,m1,m2⟩,fq0,fq1,fq2,fq3⟩:=sj.o.facts;simp only[jdZ]at r0 r1 r2 r3 r4 r5 r6 r7 r8 r9 z0 z1 z2 z3 z4 z5 z6 z7 z8 z9 l0 l1 l2 m0 m1 m2;go_wp2_with fail;refine bodyPost_ret (v:=.agg #[.int .i64 (cs.length:Int),.int .i64 mm,.bool true,.bool false,.int .u8 (lo.1:Int),.int .i64 lo.2.1,.string ⟨#[]⟩,.int .u8 0,.int .i64 0,.string ⟨#[]⟩]) (by simp[results,Tryz.results25,go_sem,nul,en,z0,z1,z2,z3,z4,z5,z6,z7,z8,z9,n1,n2,n3,n4,n5,n6,n7,n8,n9,n10,n11,n12]) rfl ⟨?_,?_⟩
      ·rw[ZZ.o]
       rfl
      ·have:=HQ.o
       repeat refine fy ?_ (by omega) _ _
       exact bP.o
     ·have ZZ:jfp (fS cs=match dZ (lb (ak hi.2.2)) 4 with
       | none=>⟨cs.length,mm,true,false,(lo.1,lo.2.1,nb (bW (lb (ak lo.2.2)) 4)),nul⟩
       | some a=>⟨cs.length,mm,true,true,(lo.1,lo.2.1,nb (bW (lb (ak lo.2.2)) 4)),(hi.1,hi.2.1,nb a)⟩):=ae (by rw[yG.o,jdt (by simp)])
      clear yG;rw[xQ.o];generalize nb (bW (lb (ak lo.2.2)) 4)=fl at *;obtain⟨⟨r1,r2,r3⟩,⟨l0,l1,l2⟩,⟨m0,m1,m2⟩,fq0,fq1,fq2,fq3⟩:=sj.o.facts;simp only at r1 r2 r3;clear xQ;go_wp2_with fail;have HR3':=ae (sj.o.loS HQ.o.1 HQ.o.2.1 HQ.o.2.2 fl);have HB3':=ae (bP.o.setCell (p:=⟨q2,2,none⟩) (jdU (jea HQ.o.1 HQ.o.2.1)) (.string (ak fl)));refine(Zt.o _).mono ?_;rintro e w4 ⟨⟨t2,o,rfl,ho,Kh⟩,bK⟩;have Al:=ae (HR3'.o.kept bK);have cx:=ae (ai HB3'.o bK);clear bK sj bP HR3' HB3' r1 r2 r3 l0 l1 l2 m0 m1 m2 fq0 fq1 fq2 fq3;cases UG:dZ (lb (ak hi.2.2)) 4 with
      | none =>
       rw[UG]at ZZ ho;have ho':o=false:=ho;subst ho';have HD4:jfp (fS cs=⟨cs.length,mm,true,false,(lo.1,lo.2.1,fl),nul⟩):=ae ZZ.o;clear UG ho Kh ZZ;obtain⟨_,⟨r0,r1,r2,r3⟩,⟨r4,r5,r6⟩,r7,r8,r9⟩:=Al.o.2.1.at;obtain⟨_,⟨z0,z1,z2,z3⟩,⟨z4,z5,z6⟩,z7,z8,z9⟩:=Al.o.1.at;obtain⟨_,⟨l0,l1,l2⟩,⟨m0,m1,m2⟩,fq0,fq1,fq2,fq3⟩:=Al.o.facts;simp only[jdZ]at r0 r1 r2 r3 r4 r5 r6 r7 r8 r9 z0 z1 z2 z3 z4 z5 z6 z7 z8 z9 l0 l1 l2 m0 m1 m2;go_wp2_with fail;refine bodyPost_ret (v:=.agg #[.int .i64 (cs.length:Int),.int .i64 mm,.bool true,.bool false,.int .u8 (lo.1:Int),.int .i64 lo.2.1,.string (ak fl),.int .u8 0,.int .i64 0,.string ⟨#[]⟩]) (by simp[results,Tryz.results25,go_sem,nul,en,z0,z1,z2,z3,z4,z5,z6,z7,z8,z9,n1,n2,n3,n4,n5,n6,n7,n8,n9,n10,n11,n12]) rfl ⟨?_,?_⟩
       ·rw[HD4.o]
        rfl
       ·have:=HQ.o
        repeat refine fy ?_ (by omega) _ _
        exact cx.o
      | some av =>
       rw[UG]at ZZ ho Kh;have ho':o=true:=ho;subst ho';have HD4:jfp (fS cs=⟨cs.length,mm,true,true,(lo.1,lo.2.1,fl),(hi.1,hi.2.1,nb av)⟩):=ae ZZ.o;have xQ:=ae (Ln (show lb t2=av from Kh));clear UG ho Kh ZZ;obtain⟨_,⟨r0,r1,r2,r3⟩,⟨r4,r5,r6⟩,r7,r8,r9⟩:=Al.o.2.1.at;obtain⟨_,⟨z0,z1,z2,z3⟩,⟨z4,z5,z6⟩,z7,z8,z9⟩:=Al.o.1.at;obtain⟨_,⟨l0,l1,l2⟩,⟨m0,m1,m2⟩,fq0,fq1,fq2,fq3⟩:=Al.o.facts;simp only[jdZ]at r0 r1 r2 r3 r4 r5 r6 r7 r8 r9 z0 z1 z2 z3 z4 z5 z6 z7 z8 z9 l0 l1 l2 m0 m1 m2;go_wp2_with fail;refine bodyPost_ret (v:=.agg #[.int .i64 (cs.length:Int),.int .i64 mm,.bool true,.bool true,.int .u8 (lo.1:Int),.int .i64 lo.2.1,.string (ak fl),.int .u8 (hi.1:Int),.int .i64 hi.2.1,.string t2]) (by simp[results,Tryz.results25,go_sem,nul,en,z0,z1,z2,z3,z4,z5,z6,z7,z8,z9,n1,n2,n3,n4,n5,n6,n7,n8,n9,n10,n11,n12]) rfl ⟨?_,?_⟩
       ·rw[HD4.o,xQ.o]
        rfl
       ·have:=HQ.o
        repeat refine fy ?_ (by omega) _ _
        exact cx.o
    ·have h3':((lo.1:Int)==3)=false:=jdG.2 (by omega)
     have yG:jfp (fS cs=⟨cs.length,mm,true,true,lo,hi⟩):=ae (by rw[HDF.o,jdt (by simp),jdt h3]);clear h3 HDF;obtain⟨_,⟨r0,r1,r2,r3⟩,⟨r4,r5,r6⟩,r7,r8,r9⟩:=HR.o.2.1.at;obtain⟨_,⟨z0,z1,z2,z3⟩,⟨z4,z5,z6⟩,z7,z8,z9⟩:=HR.o.1.at;obtain⟨_,⟨l0,l1,l2⟩,⟨m0,m1,m2⟩,fq0,fq1,fq2,fq3⟩:=HR.o.facts;simp only[jdZ]at r0 r1 r2 r3 r4 r5 r6 r7 r8 r9 z0 z1 z2 z3 z4 z5 z6 z7 z8 z9 l0 l1 l2 m0 m1 m2;go_wp2_with fail;refine bodyPost_ret (v:=.agg #[.int .i64 (cs.length:Int),.int .i64 mm,.bool true,.bool true,.int .u8 (lo.1:Int),.int .i64 lo.2.1,.string (ak lo.2.2),.int .u8 (hi.1:Int),.int .i64 hi.2.1,.string (ak hi.2.2)]) (by simp[results,Tryz.results25,go_sem,nul,en,z0,z1,z2,z3,z4,z5,z6,z7,z8,z9,n1,n2,n3,n4,n5,n6,n7,n8,n9,n10,n11,n12]) rfl ⟨?_,?_⟩
     ·rw[yG.o]
      rfl
     ·have:=HQ.o
      repeat refine fy ?_ (by omega) _ _
      exact HB.o
theorem LD:∀(r:List Cl) (m:Cl),gh m r∈m::r
 | [],m=>by simp[gh]
 | x::r,m=>by
  unfold gh;have:=LD r (if cT x m<0 then x else m);rcases jdN.1 this with h | h
  ·rw[h]
   split
   ·simp
   ·simp
  ·simp[h]
theorem LE:∀(r:List Cl) (m:Cl),eE m r∈m::r
 | [],m=>by simp[eE]
 | x::r,m=>by
  unfold eE;have:=LE r (if 0<cT x m then x else m);rcases jdN.1 this with h | h
  ·rw[h]
   split
   ·simp
   ·simp
  ·simp[h]
theorem Kd{cs:List Cl}{k:Nat}(hf:∀ c∈cs,aT c)(hk:∀ c∈cs,c.1=k∨c=nul):fS cs=cA cs:=by
 have LV:∀ c∈aZ cs,aT c/\c.1=k:=fun c hc=>by
  unfold aZ at hc;obtain⟨h1,h2⟩:=jfg.1 hc;refine⟨hf c h1,?_⟩;rcases hk c h1 with h | h
  ·exact h
  ·rw[h]at h2
   simp[nul]at h2
 unfold fS cA;cases hn:aZ cs with
 | nil=>simp[soM]
 | cons x r =>
  rw[hn]at LV;have Qi:=LV _ (LD r x);have hma:=LV _ (LE r x);rw[jdt (by simp[soM])];show (if (gh x r).1=3 then _ else _)=_
  rw[Qi.2];have e1:(leM (x::r))=gh x r:=rfl;have e2:(moM (x::r))=eE x r:=rfl;rw[e1,e2];show _=(⟨cs.length,(cs.length:Int)-((x::r).length:Nat),true,(gF (eE x r) ((x::r).all eM)).2,nP (gh x r) ((x::r).all eM),(gF (eE x r) ((x::r).all eM)).1⟩:Stt)
  by_cases h3:k=3
  ·rw[jdu h3]
   have ek:ckM (x::r)=(x::r).all eM:=by
    unfold ckM;rw[jeX,List.all_eq_true,List.all_eq_true];constructor
    ·intro h c hc
     have:=h c hc;have h4:=(LV c hc).2;rw[h4,h3]at this;simpa using this
    ·intro h c hc
     rw[h c hc];simp
   rw[ek];subst h3
   have hmz:(gh x r).2.1=0/\(eE x r).2.1=0:=by
    constructor
    ·rcases Qi.1 with h | ⟨n,h,_⟩ | ⟨n,h,_⟩ | ⟨s,h,_⟩
     ·rw[h];rfl
     ·have:=Qi.2;rw[h]at this;simp at this
     ·have:=Qi.2;rw[h]at this;simp at this
     ·rw[h]
    ·rcases hma.1 with h | ⟨n,h,_⟩ | ⟨n,h,_⟩ | ⟨s,h,_⟩
     ·rw[h];rfl
     ·have:=hma.2;rw[h]at this;simp at this
     ·have:=hma.2;rw[h]at this;simp at this
     ·rw[h]
   have el:∀ cl,nP (gh x r) cl=if cl=false then (3,0,[]) else (3,0,nb (bW (lb (ak (gh x r).2.2)) 4)):=fun cl=>by
    unfold nP;rw[Qi.2,hmz.1];cases cl
    ·rw[jdu ⟨rfl,rfl⟩,jdu rfl]
    ·rw[jdt (by simp),jdt (by simp)]
   have eh:∀ cl,gF (eE x r) cl=match gQ (lb (ak (eE x r).2.2)) 4 with
    | none=>(nul,false)
    | some a=>if cl=true then ((3,0,nb a),true) else (nul,false):=fun cl=>by
    unfold gF;rw[jdu hma.2];cases gQ (lb (ak (eE x r).2.2)) 4<;>rfl
   rw[el,eh,Qi.2,hma.2,hmz.1,hmz.2,← wP];cases hc:(x::r).all eM
   ·rw[jdu rfl,jdu rfl]
    cases gQ (lb (ak (eE x r).2.2)) 4<;>rfl
   ·rw[jdt (by simp),jdt (by simp)]
    cases gQ (lb (ak (eE x r).2.2)) 4<;>rfl
  ·rw[jdt h3]
   have ht:(gh x r).2.2=[]:=by
    rcases Qi.1 with h | ⟨n,h,_⟩ | ⟨n,h,_⟩ | ⟨s,h,_⟩
    ·rw[h];rfl
    ·rw[h]
    ·rw[h]
    ·have:=Qi.2;rw[h]at this;exact absurd this.symm h3
   have el:∀ cl,nP (gh x r) cl=gh x r:=fun cl=>by
    unfold nP;rw[jdt (fun h=>h3 (Qi.2.symm.trans h.1)),ht];have h0:lb (ak ([]:List Nat))=[]:=rfl;rw[h0];have h1:nb (bW [] 4)=[]:=by simp[bW,nb]
    rw[h1,← ht]
   have eh:∀ cl,gF (eE x r) cl=(eE x r,true):=fun cl=>by
    unfold gF;rw[jdt (fun h=>h3 (hma.2.symm.trans h))]
   rw[el,eh]
end Go.Proofs.YtpljdjmpamjkhaaGreatDoor
