import Derived.Test.YtpljdjmpamjkhaaGreatDoorSau
set_option linter.all false
set_option maxRecDepth 100000
set_option maxHeartbeats 4000000
namespace Go.Proofs.YtpljdjmpamjkhaaGreatDoor
open Tryz
open Go.RowKit Go.Lib
def iS(l:List Fd)(j:Nat):Nat:=match l[j]? with
 | none=>0
 | some f=>f.2.2.1
def fvM(op:Nat)(c:Cl)(k:Nat):Int:=if op=5 then (if c.1=0 then 0 else 90) else if c.1=0 then 10 else if c.1≠k then 10 else if op=4/\k≠3 then 10 else 0
def lz(c:Cl):Int:=flt (c.1:Int) c.2.1 (bytesT c.2.2)
def ffM(l:List Fd)(op f:Nat)(c:Cl)(n:Nat):Int:=if 0<n then 90 else match dV l f with
 | none=>81
 | some j=>if lz c=0 then fvM op c (iS l j) else if lz c=1 then 90 else lz c
def fkM(op f:Nat)(c:Cl)(n:Nat):Int:=if f≠0 then 90 else if ¬ (c.1=0/\c.2.1=0/\(bytesT c.2.2).toList.isEmpty=true) then 90 else if op=8/\n≠1 then 90 else 0
def kL(l:List Fd)(op f:Nat)(c:Cl)(n:Nat):Int:=if 1<=op/\op<=5 then ffM l op f c n else if 6<=op/\op<=8 then fkM op f c n else 90
 mutual
def eV(l:List Fd):PT->Int
 | .node op f c ks=>if kL l op f c ks.length≠0 then kL l op f c ks.length else firstAll l ks
def firstAll(l:List Fd):List PT->Int
 | []=>0
 | k::ks=>if eV l k≠0 then eV l k else firstAll l ks
 end
def yR{l:List Fd}{ks:List PT}{i:Nat}(h:i<ks.length):firstAll l (ks.drop i)=if eV l ks[i]≠0 then eV l ks[i] else firstAll l (ks.drop (i+1)):=by
 rw[je8 h];simp only[firstAll]
def Cw{l:List Fd}{ks:List PT}:firstAll l (ks.drop ks.length)=0:=by rw[jfg];simp only[firstAll]
def vC{w:World}{b off op f:Nat}{c:Cl}{a:Option Addr}{n cap:Nat}(hn:et w b off op f c (.slice a n cap)):Calls prog 191 #[.pointer (some ⟨b,off,none⟩)] w λe w'=>e=.returned (.int .i64 (fkM op f c n))/\jgu w w':=by
 obtain⟨cy,x0,x1,x2,x3,x4,x5⟩:=hn;unfold fkM;by_cases h0:f=0
 ·subst h0
  rw[jex (by simp)];obtain⟨ck,cn,cs⟩:=c;simp only at *;generalize bytesT cs=S at *;by_cases hk:ck=0
  ·subst hk
   by_cases vI:cn=0
   ·subst vI
    by_cases hs:S.toList.isEmpty=true
    ·obtain rfl:=Hh hs
     rw[jex (λh=>h ⟨rfl,rfl,hs⟩)];clear hs;by_cases h8:op=8
     ·subst h8
      by_cases h1:n=1
      ·subst h1
       rw[jex (by simp)];go_enter func191,ntmps191
       go_wp2_with fail;go_ret
       exact⟨rfl,jez _ _⟩
      ·rw[jey ⟨rfl,h1⟩]
       have h1':((n:Int) != 1)=true:=by simp;omega
       clear h1;go_enter func191,ntmps191
       go_wp2_with fail;go_ret
       exact⟨rfl,jez _ _⟩
     ·rw[jex (λh=>h8 h.1)]
      have h8':((op:Int)==8)=false:=jeF.2 (by omega);clear h8;go_enter func191,ntmps191
      go_wp2_with fail;go_ret
      exact⟨rfl,jez _ _⟩
    ·rw[jey (λh=>hs h.2.2)]
     have hs':(S.toList==(⟨#[]⟩:ByteArray).toList)=false:=by
      cases hq:S.toList with
      | nil=>rw[hq]at hs;simp at hs
      | cons a l =>
       have e0:(⟨#[]⟩:ByteArray).toList=[]:=by rw[ByteArray.toList_eq]
       rw[e0];rfl
     have cV:S.toList.isEmpty=false:=by simpa using hs
     clear hs;go_enter func191,ntmps191
     go_wp2_with fail;go_ret
     exact⟨rfl,jez _ _⟩
   ·rw[jey (λh=>vI h.2.1)]
    have hcn':(cn==0)=false:=jeF.2 vI;clear vI;go_enter func191,ntmps191
    go_wp2_with fail;go_ret
    exact⟨rfl,jez _ _⟩
  ·rw[jey (λh=>hk h.1)]
   have hk':((ck:Int)==0)=false:=jeF.2 (by omega);clear hk;go_enter func191,ntmps191
   go_wp2_with fail;go_ret
   exact⟨rfl,jez _ _⟩
 ·rw[jey h0]
  have h0':((f:Int) != 0)=true:=by simp;omega
  clear h0;go_enter func191,ntmps191
  go_wp2_with fail;go_ret
  exact⟨rfl,jez _ _⟩
def tH{w:World}{b off op f:Nat}{c:Cl}{kv:Value}(hn:et w b off op f c kv)(k:Nat):Calls prog 218 #[.pointer (some ⟨b,off,none⟩),.int .u8 (k:Int)] w λe w'=>e=.returned (.int .i64 (fvM op c k))/\jgu w w':=by
 obtain⟨cy,x0,x1,x2,x3,x4,x5⟩:=hn;unfold fvM;by_cases h5:op=5
 ·subst h5
  rw[jey rfl];by_cases h0:c.1=0
  ·rw[jey h0]
   have h0':((c.1:Int)==0)=true:=by rw[h0];rfl
   clear h0;go_enter func218,ntmps218
   go_wp2_with fail;go_ret
   exact⟨rfl,jez _ _⟩
  ·rw[jex h0]
   have h0':((c.1:Int)==0)=false:=jeF.2 (by omega);clear h0;go_enter func218,ntmps218
   go_wp2_with fail;go_ret
   exact⟨rfl,jez _ _⟩
 ·rw[jex h5]
  have n5:((op:Int)==5)=false:=jeF.2 (by omega);clear h5;by_cases h0:c.1=0
  ·rw[jey h0]
   have h0':((c.1:Int)==0)=true:=by rw[h0];rfl
   clear h0;go_enter func218,ntmps218
   go_wp2_with fail;go_ret
   exact⟨rfl,jez _ _⟩
  ·rw[jex h0]
   have h0':((c.1:Int)==0)=false:=jeF.2 (by omega);clear h0;by_cases hk:c.1≠k
   ·rw[jey hk]
    have hk':((c.1:Int) != (k:Int))=true:=by simp;omega
    clear hk;go_enter func218,ntmps218
    go_wp2_with fail;go_ret
    exact⟨rfl,jez _ _⟩
   ·rw[jex hk]
    have hk':((c.1:Int) != (k:Int))=false:=by simp;omega
    clear hk;by_cases h4:op=4
    ·subst h4
     by_cases h3:k=3
     ·subst h3
      rw[jex (by simp)];go_enter func218,ntmps218
      go_wp2_with fail;go_ret
      exact⟨rfl,jez _ _⟩
     ·rw[jey ⟨rfl,h3⟩]
      have h3':((k:Int) != 3)=true:=by simp;omega
      clear h3;go_enter func218,ntmps218
      go_wp2_with fail;go_ret
      exact⟨rfl,jez _ _⟩
    ·rw[jex (λh=>h4 h.1)]
     have h4':((op:Int)==4)=false:=jeF.2 (by omega);clear h4;go_enter func218,ntmps218
     go_wp2_with fail;go_ret
     exact⟨rfl,jez _ _⟩
def tI{w:World}{b off op f si:Nat}{c:Cl}{a:Option Addr}{n cap:Nat}{fv:Value}{l:List Fd}(hn:et w b off op f c (.slice a n cap))(hs:Sf w fv l)(dD:Okc c):Calls prog 190 #[.pointer (some ⟨b,off,none⟩),.agg #[.int .u32 (si:Int),fv]] w λe w'=>e=.returned (.int .i64 (ffM l op f c n))/\jgu w w':=by
 obtain⟨fa,fcap,rfl,hfc,XC⟩:=hs.form;have az:=aj w (.cells #[.int .u32 (si:Int),.slice fa l.length fcap] 25);have aL:=ae az;obtain⟨e0,e1⟩:=aS w (.int .u32 (si:Int)) (.slice fa l.length fcap) 25;have hz:w.heap.size<(w.alloc (.cells #[.int .u32 (si:Int),.slice fa l.length fcap] 25)).heap.size:=by rw[jeB];omega
 have HS:=ae (hs.kept az);have HN:=ae (hn.kept az);have HO:=ae dD;generalize hA:w.alloc (.cells #[.int .u32 (si:Int),.slice fa l.length fcap] 25)=A at *;clear az hs hn dD;obtain⟨cy,x0,x1,x2,x3,x4,x5⟩:=HN.o
 have HD:jgt (ffM l op f c n=if 0<n then 90 else match dV l f with
  | none=>81
  | some j=>if lz c=0 then fvM op c (iS l j) else if lz c=1 then 90 else lz c):=ae rfl
 generalize ffM l op f c n=R at *;by_cases mY:0<n
 ·rw[jey mY]at HD
  have hn0':(0:Int)<(n:Int):=by omega
  clear mY;go_enter func190,ntmps190
  go_wp2_with fail;go_ret
  rw[HD.o];exact⟨rfl,aL.o⟩
 ·rw[jex mY]at HD
  obtain rfl:n=0:=by omega
  clear mY;have kS:=ae (λ(U:World) (hU:jgu A U)=>tg (HS.o.kept hU) si f);have CK:∀ s:aB (λx=>jgu A x),s.w.cell? ⟨w.heap.size,0,none⟩=some (.int .u32 (si:Int)):=λs=>(s.ok.cell (p:=⟨w.heap.size,0,none⟩) hz).trans e0
  have mh:∀ s:aB (λx=>jgu A x),s.w.cell? ⟨w.heap.size,1,none⟩=some (.slice fa l.length fcap):=λs=>(s.ok.cell (p:=⟨w.heap.size,1,none⟩) hz).trans e1
  have qt:∀ s:aB (λx=>jgu A x),s.w.cell? ⟨b,off+1,none⟩=some (.int .u32 (f:Int)):=λs=>(s.ok.cell (p:=⟨b,off+1,none⟩) cy).trans x1
  haveI:Nonempty (aB (λx=>jgu A x)):=⟨aB.mk A (jez _ _)⟩
  go_enter func190,ntmps190
  go_wp2_with fail;refine aP (S:=λx=>jgu A x) (by kernel_rfl) (by kernel_rfl) (by first | exact(jez _ _).drew | (rw[hA];exact(jez _ _).drew)) ?_;repeat (go_big_quiet_step ((go_at_call 193;exact(kS.o _ (aB.ok _)).mono (λe w' h=>⟨h.1,aB.mk w' (ai (aB.ok _) h.2),rfl⟩))))
  refine wpQuiet_nil ?_;rintro _ ⟨s2,rfl⟩;obtain⟨w2,nX⟩:∃ x,x=s2.w:=⟨_,rfl⟩;have ap:=s2.ok;rw[<- nX]at ap ⊢;have aG:=ae ap;have fJ:=ae (HS.o.kept ap);have mV:=ae (HN.o.kept ap);have g0:=(ap.cell (p:=⟨w.heap.size,0,none⟩) hz).trans e0;have g1:=(ap.cell (p:=⟨w.heap.size,1,none⟩) hz).trans e1;have aX:=jeY hz ap.size;clear nX ap CK mh qt x0 x1 x2 x3 x4 x5 HN HS e0 e1 hz hA cy;obtain⟨cy,x0,x1,x2,x3,x4,x5⟩:=mV.o;cases hp:dV l f with
  | none =>
   rw[hp]at HD;simp only[Option.isSome_none,Option.getD_none];clear hp;go_wp2_with fail;go_ret
   rw[HD.o];exact⟨rfl,ai aL.o aG.o⟩
  | some j =>
   rw[hp]at HD;have hj:=wm hp;simp only[Option.isSome_some,Option.getD_some];clear hp;go_wp2_with fail;refine(Ui HO.o _).mono ?_;rintro e w3 ⟨rfl,aJ⟩;have aY:=ae (ai aG.o aJ);have hN3:=mV.o.kept aJ;have k0:=(aJ.cell (p:=⟨w.heap.size,0,none⟩) aX).trans g0;have k1:=(aJ.cell (p:=⟨w.heap.size,1,none⟩) aX).trans g1;obtain⟨gb,goff,rfl,GR,y0,y1,y2,y3⟩:=(fJ.o.kept aJ).at hj;clear aJ x0 x1 x2 x3 x4 x5 g0 g1 aX cy;have uV:=ae hN3;clear hN3;have GA:jgt (iS l j=l[j].2.2.1):=ae (by unfold iS;rw[List.getElem?_eq_getElem hj]);have hj':(j:Int)<(l.length:Int):=(by omega);have HE:jgt (lz c=flt (c.1:Int) c.2.1 (bytesT c.2.2)):=ae rfl;rw[GA.o]at HD;generalize l[j].2.2.1=kd at *;obtain⟨fl,eI⟩:∃ fl,fl=flt (c.1:Int) c.2.1 (bytesT c.2.2):=⟨_,rfl⟩;rw[<- eI]at HE ⊢;rw[HE.o]at HD;clear eI HE GA;by_cases h0:fl=0
   ·subst h0
    simp only[if_true]at HD;go_wp2_with fail;refine(tH uV.o kd).mono ?_;rintro e w4 ⟨rfl,bD⟩;have cL:=ae (ai aY.o bD);clear bD;go_wp2_with fail;go_ret
    rw[HD.o];exact⟨rfl,ai aL.o cL.o⟩
   ·have h0':(fl==0)=false:=jeF.2 h0
    simp only[jex h0]at HD;by_cases h1:fl=1
    ·subst h1
     simp only[if_true]at HD;clear h0;go_wp2_with fail;go_ret
     rw[HD.o];exact⟨rfl,ai aL.o aY.o⟩
    ·have h1':(fl==1)=false:=jeF.2 h1
     simp only[jex h1]at HD;clear h0 h1;go_wp2_with fail;go_ret
     rw[HD.o];exact⟨rfl,ai aL.o aY.o⟩
def KP{w:World}{b off op f si:Nat}{c:Cl}{a:Option Addr}{n cap:Nat}{fv:Value}{l:List Fd}(hn:et w b off op f c (.slice a n cap))(hs:Sf w fv l)(dD:Okc c):Calls prog 154 #[.pointer (some ⟨b,off,none⟩),.agg #[.int .u32 (si:Int),fv]] w λe w'=>e=.returned (.int .i64 (kL l op f c n))/\jgu w w':=by
 obtain⟨fa,fcap,rfl,hfc,XC⟩:=hs.form;have az:=aj w (.cells #[.int .u32 (si:Int),.slice fa l.length fcap] 25);have aL:=ae az;obtain⟨e0,e1⟩:=aS w (.int .u32 (si:Int)) (.slice fa l.length fcap) 25;have HS:=ae (hs.kept az);have HN:=ae (hn.kept az);have HO:=ae dD;generalize hA:w.alloc (.cells #[.int .u32 (si:Int),.slice fa l.length fcap] 25)=A at *;clear az hs hn dD;obtain⟨cy,x0,x1,x2,x3,x4,x5⟩:=HN.o;have HD:jgt (kL l op f c n=if 1<=op/\op<=5 then ffM l op f c n else if 6<=op/\op<=8 then fkM op f c n else 90):=ae rfl;generalize kL l op f c n=R at *;by_cases h5:1<=op/\op<=5
 ·rw[jey h5]at HD
  have HC:=ae (λ(U:World) (hU:jgu A U)=>tI (si:=si) (HN.o.kept hU) (HS.o.kept hU) HO.o);generalize ffM l op f c n=R2 at *;obtain h | h | h | h | h:op=1∨op=2∨op=3∨op=4∨op=5:=by omega
  all_goals
   subst h;clear h5;go_enter func154,ntmps154
   go_wp2_with fail;try rw[hA]
   refine(HC.o _ (jez _ _)).mono ?_;rintro e w2 ⟨rfl,ap⟩;have aG:=ae (ai aL.o ap);clear ap;go_wp2_with fail;go_ret
   rw[HD.o];exact⟨rfl,aG.o⟩
 ·rw[jex h5]at HD
  have n1:((op:Int)==1)=false:=jeF.2 (by omega);have n2:((op:Int)==2)=false:=jeF.2 (by omega);have n3:((op:Int)==3)=false:=jeF.2 (by omega);have n4:((op:Int)==4)=false:=jeF.2 (by omega);have n5:((op:Int)==5)=false:=jeF.2 (by omega);by_cases h8:6<=op/\op<=8
  ·rw[jey h8]at HD
   have HC:=ae (λ(U:World) (hU:jgu A U)=>vC (HN.o.kept hU));generalize fkM op f c n=R2 at *;obtain h | h | h:op=6∨op=7∨op=8:=by omega
   all_goals
    subst h;clear h5 h8 n1 n2 n3 n4 n5;go_enter func154,ntmps154
    go_wp2_with fail;try rw[hA]
    refine(HC.o _ (jez _ _)).mono ?_;rintro e w2 ⟨rfl,ap⟩;have aG:=ae (ai aL.o ap);clear ap;go_wp2_with fail;go_ret
    rw[HD.o];exact⟨rfl,aG.o⟩
  ·rw[jex h8]at HD
   have n6:((op:Int)==6)=false:=jeF.2 (by omega);have n7:((op:Int)==7)=false:=jeF.2 (by omega);have n8:((op:Int)==8)=false:=jeF.2 (by omega);clear h5 h8;go_enter func154,ntmps154
   go_wp2_with fail;go_ret
   rw[HD.o];exact⟨rfl,by first | exact aL.o | (rw[hA];exact aL.o)⟩
def xU{si:Nat}{fv:Value}{l:List Fd}(t:PT):Okp t->∀(w:World) (b off:Nat),Sf w fv l->ew w b off t ->
  Calls prog 111 #[.pointer (some ⟨b,off,none⟩),.agg #[.int .u32 (si:Int),fv]] w λe w'=>e=.returned (.int .i64 (eV l t))/\jgu w w':=by
 refine PT.ind (P:=λt=>Okp t->∀(w:World) (b off:Nat),Sf w fv l->ew w b off t->Calls prog 111 #[.pointer (some ⟨b,off,none⟩),.agg #[.int .u32 (si:Int),fv]] w λe w'=>e=.returned (.int .i64 (eV l t))/\jgu w w') (λop f c ks ih dD w b off hs hlies=>?_) t;have nh:=ae ih;simp only[Okp]at dD;obtain⟨_,_,mJ,iv⟩:=dD;have AO:=ae mJ;have mZ:=ae iv.get;obtain⟨fa,fcap,rfl,hfc,XC⟩:=hs.form;have az:=aj w (.cells #[.int .u32 (si:Int),.slice fa l.length fcap] 25);have aL:=ae az;obtain⟨e0,e1⟩:=aS w (.int .u32 (si:Int)) (.slice fa l.length fcap) 25;have hz:w.heap.size<(w.alloc (.cells #[.int .u32 (si:Int),.slice fa l.length fcap] 25)).heap.size:=by rw[jeB];omega
 have HS:=ae (hs.kept az);obtain⟨a,cap,sq,nY⟩:=(ew.kept az _ _ _ hlies).open;generalize hA:w.alloc (.cells #[.int .u32 (si:Int),.slice fa l.length fcap] 25)=A at *;have HN:=ae sq;have HK:=ae nY;have hkf:=nY.form;obtain⟨_,_,Gv,Lh,mj⟩:=hkf;simp only[Value.slice.injEq]at Gv;obtain⟨rfl,_,rfl⟩:=Gv;have hkm':ks.length<=9223372036854775807:=by unfold maxLen at mj;omega
 clear az hs hlies sq nY mJ iv ih mj;have HD:jgt (eV l (.node op f c ks)=if kL l op f c ks.length≠0 then kL l op f c ks.length else firstAll l ks):=ae (by simp only[eV]);generalize eV l (.node op f c ks)=R at *;have HC:=ae (λ(U:World) (hU:jgu A U)=>KP (si:=si) (HN.o.kept hU) (HS.o.kept hU) AO.o);generalize kL l op f c ks.length=e1v at *;go_enter func111,ntmps111
 go_wp2_with fail;try rw[hA]
 refine(HC.o _ (jez _ _)).mono ?_;rintro e w2 ⟨rfl,ap⟩;have aG:=ae ap;have mV:=ae (HN.o.kept ap);have g0:=(ap.cell (p:=⟨w.heap.size,0,none⟩) hz).trans e0;have g1:=(ap.cell (p:=⟨w.heap.size,1,none⟩) hz).trans e1;have aX:=jeY hz ap.size;have hzA:=ap.size;clear ap e0 e1 hA;by_cases h0:e1v=0
 ·subst h0
  rw[jex (by simp)]at HD;have HD':jgt (R=firstAll l (ks.drop 0)):=HD;clear HD;obtain⟨cy,x0,x1,x2,x3,x4,x5⟩:=mV.o;go_wp2_with fail;clear x0 x1 x2 x3 x4 x5;go_loopw [19] (λi wr=>∃ k:Nat,k<=ks.length/\i=.int .i64 (k:Int)/\R=firstAll l (ks.drop k)/\jgu w2 wr) (λi _=>ks.length-(intOf i).toNat)
  case atStart=>exact⟨0,by omega,rfl,HD'.o,jez _ _⟩
  case round =>
   obtain⟨k,hk,rfl,fR,ao⟩:=hrel;have HF:=ae fR;have HB:=ae ao;have bF:=ao.size;clear fR ao HD';by_cases ar:k<ks.length
   ·have hbA:jgu A wr:=ai aG.o HB.o
    obtain⟨g,o,rfl,gA⟩:=(HK.o.kept hbA).at ar;have hlt':(k:Int)<(ks.length:Int):=(by omega);obtain⟨az,x0,x1,x2,x3,x4,x5⟩:=mV.o.kept HB.o;have HT:=ae (HF.o.trans (yR ar));have jD:=ae (HS.o.kept hbA);have lE:=ae (λ(U:World) (hU:jgu wr U)=>nh.o ks[k] (jeD ar) (mZ.o _ (jeD ar)) U g (o+k*6) (jD.o.kept hU) (ew.kept hU _ _ _ gA));generalize eV l ks[k]=ev at *;clear gA HF hbA;have CK:∀ s:aB (λx=>jgu wr x),s.w.cell? ⟨w.heap.size,0,none⟩=some (.int .u32 (si:Int)):=λs=>(s.ok.cell (p:=⟨w.heap.size,0,none⟩) (show w.heap.size<_ by omega)).trans ((HB.o.cell (p:=⟨w.heap.size,0,none⟩) aX).trans g0)
    have mh:∀ s:aB (λx=>jgu wr x),s.w.cell? ⟨w.heap.size,1,none⟩=some (.slice fa l.length fcap):=λs=>(s.ok.cell (p:=⟨w.heap.size,1,none⟩) (show w.heap.size<_ by omega)).trans ((HB.o.cell (p:=⟨w.heap.size,1,none⟩) aX).trans g1)
    have qt:∀ s:aB (λx=>jgu wr x),s.w.cell? ⟨b,off+5,none⟩=some (.slice (some ⟨g,o,none⟩) ks.length cap):=λs=>(s.ok.cell (p:=⟨b,off+5,none⟩) az).trans x5
    haveI:Nonempty (aB (λx=>jgu wr x)):=⟨aB.mk wr (jez _ _)⟩
    clear x0 x1 x2 x3 x4 x5;go_wp2_with fail;refine aP (S:=λx=>jgu wr x) (by kernel_rfl) (by kernel_rfl) (jez _ _).drew ?_;repeat (go_big_quiet_step ((go_at_call 111;exact(lE.o _ (aB.ok _)).mono (λe w' h=>⟨h.1,aB.mk w' (ai (aB.ok _) h.2),rfl⟩))))
    refine wpQuiet_nil ?_;rintro _ ⟨s3,rfl⟩;obtain⟨w3,Dl⟩:∃ x,x=s3.w:=⟨_,rfl⟩;have aJ:=s3.ok;rw[<- Dl]at aJ ⊢;have aY:=ae (HB.o.trans (aJ.mono bF));clear Dl aJ CK mh qt;by_cases hv:ev=0
    ·subst hv
     rw[jex (by simp)]at HT;go_wp2_with fail;go_roundw
     case rel=>exact⟨k+1,by omega,by go_num,HT.o,aY.o⟩
     case measure=>simp[intOf];omega
    ·rw[jey hv]at HT
     have hv':(ev != 0)=true:=by simpa using hv
     clear hv;go_wp2_with fail;go_ret
     rw[HT.o];exact⟨rfl,ai aL.o (ai aG.o aY.o)⟩
   ·obtain rfl:k=ks.length:=by omega
    have ed:¬ ((ks.length:Nat):Int)<(ks.length:Int):=(by omega);have HT:=ae (HF.o.trans Cw);clear HF;go_wp2_with fail;go_ret
    rw[HT.o];exact⟨rfl,ai aL.o (ai aG.o HB.o)⟩
 ·rw[jey h0]at HD
  have h0':(e1v != 0)=true:=by simpa using h0
  clear h0;go_wp2_with fail;go_ret
  rw[HD.o];exact⟨rfl,ai aL.o aG.o⟩
def sId:ByteArray:=⟨#[105,100]⟩
def jaU:ByteArray:=⟨#[110,97,109,101]⟩
def fq:List Fd:=[(1,sId,1,true),(2,jaU,3,false)]
def rA1:Row:=[(1,1,[]),(3,0,[97])]
def rA2:Row:=[(1,2,[]),(0,0,[])]
def rA:List Row:=[rA1,rA2]
def pA:PT:=.node 1 1 (1,2,[]) []
def ZF:chk 1 fq=0:=by decide +kernel
def fitA1:iY fq rA1=0:=by decide +kernel
def fitA2:iY fq rA2=0:=by decide +kernel
def Ms{n:Int}(h:I64 n):aI (1,n,[]):=Or.inr (Or.inl ⟨n,rfl,h⟩)
def ZG:aI (3,0,[97]):=Or.inr (Or.inr (Or.inr ⟨[97],rfl,by decide,λx hx=>by simp at hx;omega⟩))
def ZH:aI (0,0,[]):=Or.inl rfl
def jcr:∀ c∈rA1,aI c:=λc hc=>by
 rcases jeL.1 hc with rfl | hc
 ·exact Ms ⟨by omega,by omega⟩
 ·obtain rfl:c=(3,0,[97]):=by simpa using hc
  exact ZG
def Cx:∀ c∈rA2,aI c:=λc hc=>by
 rcases jeL.1 hc with rfl | hc
 ·exact Ms ⟨by omega,by omega⟩
 ·obtain rfl:c=(0,0,[]):=by simpa using hc
  exact ZH
def pj:gG fq rA:=λr hr=>by
 rcases jeL.1 hr with rfl | hr
 ·exact⟨fitA1,jcr⟩
 ·obtain rfl:r=rA2:=by simpa using hr
  exact⟨fitA2,Cx⟩
def okA:∀ f∈fq,Okf f:=λf hf=>by
 rcases jeL.1 hf with rfl | hf
 ·exact⟨by decide,by decide⟩
 ·obtain rfl:f=(2,jaU,3,false):=by simpa using hf
  exact⟨by decide,by decide⟩
def bA:List Nat:=bG (dO 1 fq rA 1)
def VH:dZ 1 fq rA (1:Int)=(bA,0):=rU (g:=1) okA (by omega) ZF (by decide) (by omega) (by omega) pj
def jaV:rD bA=.ok (1,fq,1,[grp fq [rA1],grp fq [rA2]]):=rV (g:=1) okA (by omega) (λr hr=>(pj r hr).2) VH
def bsA:Bs bA:=(nR okA (by omega) ZF (by decide) (by omega) (by omega) pj).2.seal
def jcs:5<bA.length/\bA.length<=70000:=by
 constructor
 ·unfold bA
  rw[kh];unfold dO lU;simp only[jeC,jeI,jeZ,le4];omega
 ·have:=qh okA (by omega) ZF (show rA.length<=60 by decide) (by omega) (show 1<=64 by omega) pj
  unfold bA;omega
def turnA:rD (bA.set 5 (bA[5]'jcs.1 ^^^ 1))=.error 101:=by
 have h:=Ca (b:=dO 1 fq rA 1) (j:=5) (y:=1) (nR okA (by omega) ZF (by decide) (by omega) (by omega) pj).2 jcs.1 (by omega) (by omega);unfold rD;have e:jo (bA.set 5 (bA[5]'jcs.1 ^^^ 1))=none:=h;rw[e]
def jct:eV fq pA=0:=by decide +kernel
def mayA1:dR (bI fq (grp fq [rA1]).2 pA) 2=false:=by decide +kernel
def mayA2:dR (bI fq (grp fq [rA2]).2 pA) 2=true:=by decide +kernel
def jcu:aW fq rA2 pA=2:=by decide +kernel
def Qu(w:World):Calls prog 35 #[] w λe w'=>(∃ v',e=.returned (.agg #[.int .u32 1,v'])/\fh w' w.heap.size v' fq)/\jgu w w':=by
 have HL:jgt (∀ W:World,fh (W.alloc (.cells #[.int .u32 1,.string ⟨#[105,100]⟩,.int .u8 1,.bool true,.int .u32 2,.string ⟨#[110,97,109,101]⟩,.int .u8 3,.bool false] 81)) W.heap.size (.slice (some ⟨W.heap.size,0,none⟩) 2 2) fq):=ae (λW=>xd W fq (by unfold maxLen;decide));have az:=aj w (.cells #[.int .u32 0,.slice none 0 0] 25);have lA:(w.alloc (.cells #[.int .u32 0,.slice none 0 0] 25)).heap.size=w.heap.size+1:=jeB _ _;have oM:=ae lA;clear lA;go_enter func35,ntmps35
 go_wp2;refine bodyPost_ret (v:=.agg #[.int .u32 1,.slice (some ⟨w.heap.size+1,0,none⟩) 2 2]) (by simp[results,results35,go_sem]) rfl ?_;refine⟨⟨_,rfl,?_⟩,?_⟩
 ·have h:=HL.o (w.alloc (.cells #[.int .u32 1,.slice (some ⟨w.heap.size+1,0,none⟩) 2 2] 25))
  rw[jeB]at h;exact h.low (by omega)
 ·exact((jez _ _).alloc (jeA _) _).alloc (by rw[jeB];omega) _
def yS(fs:List Fd)(t:PT)(r:Row):Bool:=aW fs r t==2
def dq(fs:List Fd)(t:PT)(rows:List Row):List Row:=rows.filter (yS fs t)
def tJ{fs:List Fd}{t:PT}{rows:List Row}{k:Nat}(h:k<rows.length):dq fs t (rows.take (k+1))=dq fs t (rows.take k)++(if yS fs t rows[k]=true then [rows[k]] else []):=by
 unfold dq;rw[jeO h,jf9];simp[jgh]
def kM(fs:List Fd)(t:PT)(rows:List Row):(dq fs t rows).length<=rows.length:=jgd _ _
def Cy{w:World}{B fp id op f:Nat}{fv gv kv a b:Value}{fs:List Fd}{rows:List Row}{sts:List Stt}{c:Cl}{ks:List PT}(lC:w.heap[fp]?=some (.cells #[.int .u32 (id:Int),fv,gv] 105 (0,0)))(yc:Sf w fv fs)(hg:Gro w B (.agg #[a,b]) rows sts)
  (hk:eF w kv ks) (GB:∀ U rv r,jgu w U->Sv U rv (aE r)->(∀ x∈r,aI x)->Calls prog 113 #[.agg #[.int .u8 (op:Int),.int .u32 (f:Int),.int .u8 (c.1:Int),.int .i64 c.2.1,.string (bytesT c.2.2),kv],.agg #[.int .u32 (id:Int),fv],rv] U λe w'=>e=.returned (.int .u8 (aW fs r (.node op f c ks):Int))/\jgu U w') (hr:∀ r∈rows,r.length<=1000/\∀ x∈r,aI x) (hl:rows.length<=1000) :
  Calls prog 67 #[.pointer (some ⟨fp,0,none⟩),.agg #[a,b],.agg #[.int .u8 (op:Int),.int .u32 (f:Int),.int .u8 (c.1:Int),.int .i64 c.2.1,.string (bytesT c.2.2),kv]] w
   λe w'=>(∃ v l,e=.returned v/\Ow w' w.heap.size v l/\l.map Prod.snd=dq fs (.node op f c ks) rows)/\jgu w w':=by
 obtain⟨R,rfl,hR1,hR2,hR3,ft⟩:=hg.rows;obtain⟨fa,fc,rfl,_,_⟩:=yc.form;obtain⟨ka,kc,rfl,_,_⟩:=hk.form;have XQ:=(Array.getElem?_eq_some_iff.1 lC).1;have az:=aj w (.cells #[.slice (some ⟨R,0,none⟩) rows.length rows.length,b] 109);obtain⟨g0,g1⟩:=aS w (.slice (some ⟨R,0,none⟩) rows.length rows.length) b 109;have ap:=aj (w.alloc (.cells #[.slice (some ⟨R,0,none⟩) rows.length rows.length,b] 109)) (.cells #[.int .u8 (op:Int),.int .u32 (f:Int),.int .u8 (c.1:Int),.int .i64 c.2.1,.string (bytesT c.2.2),.slice ka ks.length kc] 63);obtain⟨p0,p1,p2,p3,p4,p5⟩:=ti (w.alloc (.cells #[.slice (some ⟨R,0,none⟩) rows.length rows.length,b] 109)) (.int .u8 (op:Int)) (.int .u32 (f:Int)) (.int .u8 (c.1:Int)) (.int .i64 c.2.1) (.string (bytesT c.2.2)) (.slice ka ks.length kc) 63;have bW:(w.alloc (.cells #[.slice (some ⟨R,0,none⟩) rows.length rows.length,b] 109)).heap.size=w.heap.size+1:=jeB _ _;have aX:((w.alloc (.cells #[.slice (some ⟨R,0,none⟩) rows.length rows.length,b] 109)).alloc (.cells #[.int .u8 (op:Int),.int .u32 (f:Int),.int .u8 (c.1:Int),.int .i64 c.2.1,.string (bytesT c.2.2),.slice ka ks.length kc] 63)).heap.size=w.heap.size+2:=by rw[jeB,jeB]
 have g0':=(ap.cell (p:=⟨w.heap.size,0,none⟩) (by show w.heap.size<_;omega)).trans g0;rw[bW]at p0 p1 p2 p3 p4 p5;have iz:=ai az ap;generalize hA:(w.alloc (.cells #[.slice (some ⟨R,0,none⟩) rows.length rows.length,b] 109)).alloc (.cells #[.int .u8 (op:Int),.int .u32 (f:Int),.int .u8 (c.1:Int),.int .i64 c.2.1,.string (bytesT c.2.2),.slice ka ks.length kc] 63)=A at *
 have HT:jgt (∀ U,jgu A U->U.cell? ⟨fp,0,none⟩=some (.int .u32 (id:Int))/\U.cell? ⟨fp,1,none⟩=some (.slice fa fs.length fc)/\U.cell? ⟨w.heap.size,0,none⟩=some (.slice (some ⟨R,0,none⟩) rows.length rows.length) /\
   U.cell? ⟨w.heap.size+1,0,none⟩=some (.int .u8 (op:Int))/\U.cell? ⟨w.heap.size+1,1,none⟩=some (.int .u32 (f:Int))/\U.cell? ⟨w.heap.size+1,2,none⟩=some (.int .u8 (c.1:Int))/\U.cell? ⟨w.heap.size+1,3,none⟩=some (.int .i64 c.2.1)/\U.cell? ⟨w.heap.size+1,4,none⟩=some (.string (bytesT c.2.2))/\U.cell? ⟨w.heap.size+1,5,none⟩=some (.slice ka ks.length kc)):=ae (λU hU=>by
  have hfU:=(hU.block fp (by omega)).trans ((iz.block fp XQ).trans lC);refine⟨by rw[an hfU];rfl,by rw[an hfU];rfl,(hU.cell (p:=⟨w.heap.size,0,none⟩) (by show w.heap.size<_;omega)).trans g0',?_,?_,?_,?_,?_,?_⟩
  ·exact(hU.cell (p:=⟨w.heap.size+1,0,none⟩) (by show w.heap.size+1<_;omega)).trans p0
  ·exact(hU.cell (p:=⟨w.heap.size+1,1,none⟩) (by show w.heap.size+1<_;omega)).trans p1
  ·exact(hU.cell (p:=⟨w.heap.size+1,2,none⟩) (by show w.heap.size+1<_;omega)).trans p2
  ·exact(hU.cell (p:=⟨w.heap.size+1,3,none⟩) (by show w.heap.size+1<_;omega)).trans p3
  ·exact(hU.cell (p:=⟨w.heap.size+1,4,none⟩) (by show w.heap.size+1<_;omega)).trans p4
  ·exact(hU.cell (p:=⟨w.heap.size+1,5,none⟩) (by show w.heap.size+1<_;omega)).trans p5)
 have zj:jgt (∀ U,jgu A U->∀ i (h:i<rows.length),∃ ra rc,U.cell? ⟨R,i,none⟩=some (.slice ra rows[i].length rc)/\Sv U (.slice ra rows[i].length rc) (aE rows[i])/\rows[i].length<=1000/\∀ x∈rows[i],aI x):=ae (λU hU i hi=>by
  obtain⟨rv,e1,e2⟩:=ft i hi;have fs':=e2.sv;obtain⟨ra,rc,rfl,_,_⟩:=fs'.form1;rw[ay]at *;have hbU:=iz.trans (hU.mono iz.size);exact⟨ra,rc,(hbU.cell (p:=⟨R,i,none⟩) hR2).trans e1,fs'.kept hbU,hr _ (jeD hi)⟩)
 have XR:jgt (∀ U ra n rc r,jgu A U->Sv U (.slice ra n rc) (aE r)->(∀ x∈r,aI x)->Calls prog 113 #[.agg #[.int .u8 (op:Int),.int .u32 (f:Int),.int .u8 (c.1:Int),.int .i64 c.2.1,.string (bytesT c.2.2),.slice ka ks.length kc],.agg #[.int .u32 (id:Int),.slice fa fs.length fc],.slice ra n rc] U
   λe w'=>e=.returned (.int .u8 (aW fs r (.node op f c ks):Int))/\jgu U w'):=ae (λU ra n rc r hU hs WO=>by
  have hbU:=iz.trans (hU.mono iz.size);exact GB U _ r hbU hs WO)
 have cN:=ae iz;have HH0:=ae (λk (h:k<rows.length)=>tJ (fs:=fs) (t:=.node op f c ks) h);have RV:jgt (∀ r,yS fs (.node op f c ks) r=(aW fs r (.node op f c ks)==2)):=ae (λr=>rfl);have HHL:=ae (λk=>kM fs (.node op f c ks) (rows.take k));have RT:jgt (dq fs (.node op f c ks) (rows.take rows.length)=dq fs (.node op f c ks) rows):=ae (by rw[jeJ]);generalize (PT.node op f c ks)=T at *;clear lC yc hg hk GB hr ft az ap g0 g1 p0 p1 p2 p3 p4 p5 g0' iz;obtain⟨c0,c1,c2,d0,d1,d2,d3,d4,d5⟩:=HT.o A (jez _ _);have Gw:=ae aX;clear aX bW;generalize c.1=k0 at *;generalize c.2.1=k1 at *;generalize bytesT c.2.2=k2 at *;go_enter func67,ntmps67
 go_wp2_with fail;try rw[hA]
 go_loopw [7,13] (λo i wr=>∃(j:Nat) (l:List (Value×Row)),j<=rows.length/\i=.int .i64 (j:Int)/\Ow wr A.heap.size o l/\l.map Prod.snd=dq fs T (rows.take j)/\jgu A wr) (λ_ i _=>rows.length-(intOf i).toNat)
 case atStart=>exact⟨0,[],by omega,rfl,Ow.nil _ _,rfl,jez _ _⟩
 case round =>
  obtain⟨j,l,hj,rfl,how,oX,ao⟩:=hrel;have HO:=ae how;have HB:=ae ao;have iw:=ae oX;have bF:=ao.size
  have jE:l.length<=rows.length:=by
   have h1:=jeG List.length oX;have h2:=HHL.o j;rw[jeE]at h1;rw[jeH]at h2;omega
  clear how ao oX;obtain⟨c0,c1,c2,d0,d1,d2,d3,d4,d5⟩:=HT.o wr HB.o;obtain⟨la,lc,rfl,De,qs,_⟩:=HO.o.form;by_cases ar:j<rows.length
  ·have hlt':(j:Int)<(rows.length:Int):=by omega
   obtain⟨ra,rc,eP,iF,sj,WO⟩:=zj.o wr HB.o j ar;have MI:=ae iF;have mf:=ae (HH0.o j ar);have jdr:=ae (RV.o rows[j])
   have jds:jgt (∀ U,jgu wr U->Calls prog 113 #[.agg #[.int .u8 (op:Int),.int .u32 (f:Int),.int .u8 (k0:Int),.int .i64 k1,.string k2,.slice ka ks.length kc],.agg #[.int .u32 (id:Int),.slice fa fs.length fc],.slice ra rows[j].length rc] U
     λe w'=>e=.returned (.int .u8 (aW fs rows[j] T:Int))/\jgu wr w'):=ae (λU hU=>by
    refine(XR.o U ra _ rc rows[j] (HB.o.trans (hU.mono bF)) (iF.kept hU) WO).mono ?_;rintro e w' ⟨rfl,hb⟩;exact⟨rfl,ai hU hb⟩)
   obtain⟨E,hE⟩:∃ E,aW fs rows[j] T=E:=⟨_,rfl⟩;rw[hE]at jds jdr;have jaB:jgt (yS fs T rows[j]=(E==2)):=ae jdr.o;clear hE jdr iF WO;generalize rows[j]=r at *;go_upto_region 5 with fail
   go_cut [24] from 32 (λv wx=>v=.bool ((E:Int)==2)/\jgu wr wx)
   case first =>
    refine wp_region_noPanic ?_
    go_region_law (first
     | (go_simp;go_at_call 113;refine(jds.o _ ?_).mono ?_;exact ak (jez wr.heap.size wr) _;rintro e w1 ⟨rfl,az⟩;have aL:=ae az;clear az;dsimp only)
     | fail)
    all_goals refine NoPanic.normal ?_
    all_goals go_wp2_with fail
    all_goals go_meet
    all_goals exact⟨rfl,aL.o⟩
   case rest =>
   obtain⟨rfl,yj⟩:=hcut;obtain⟨w1,hw1⟩:∃ w1,w1=wc:=⟨_,rfl⟩;subst hw1;have aL:=ae yj;clear yj;have HBW1:=ae (HB.o.trans (aL.o.mono bF));have bW:=aL.o.size;clear jds c0 c1 c2 d0 d1 d2 d3 d4 d5 eP;by_cases hE2:E=2
   ·have hEq:((E:Int)==2)=true:=by rw[hE2];rfl
    have jdt:jgt (dq fs T (rows.take (j+1))=dq fs T (rows.take j)++[r]):=ae (by rw[mf.o,jaB.o,hE2];rfl);have mH:=ae (pP (MI.o.kept aL.o) sj);have fX:=ae (HO.o.kept aL.o);clear mf jaB hE2 HO;go_wp2_with fail;refine mH.o.mono ?_;rintro e w2 ⟨⟨v2,rfl,eA⟩,ap⟩;have eb:=ae (fX.o.kept ap);have HV2:=ae eA;have aG:=ae (HBW1.o.trans (ap.mono (by omega)));have aX:=ap.size;obtain⟨ra',rc',rfl,_,_⟩:=bn eA;have ix:=ae (aV w2 (.slice ra' r.length rc') 79);clear ap eA mH fX;go_wp2_with (first | (at_builtin;refine gw rfl _ _ rfl A.heap.size _ _ l [(.slice ra' r.length rc',r)] rfl (eb.o.kept (aj _ _)) rfl (lm ix.o (by rw[jeB];omega)) ?c1 ?c2 ?c3 ?_))
    case c1 =>
     intro x hx;rw[je9.1 hx];exact(HV2.o.kept (aj _ _)).of_le (by omega)
    case c2=>simp only[je7];omega
    case c3=>rw[jeB];omega
    intro v' w5 o5 b5;have dK:=ae o5;have bq:=ae ((aG.o.alloc (by omega) _).trans b5);clear o5 b5;go_wp2_with fail;go_roundw
    case rel=>exact⟨j+1,_,by omega,by go_num,dK.o,by rw[jdt.o,jeR,iw.o];rfl,bq.o⟩
    case measure=>simp[intOf];omega
   ·have hEq:((E:Int)==2)=false:=by simp;omega
    have jdt:jgt (dq fs T (rows.take (j+1))=dq fs T (rows.take j)):=ae (by
     have:(E==2)=false:=by simpa using hE2
     rw[mf.o,jaB.o,this];simp)
    have fX:=ae (HO.o.kept aL.o);clear mf jaB hE2 HO;go_wp2_with fail;go_roundw
    case rel=>exact⟨j+1,l,by omega,by go_num,fX.o,by rw[jdt.o,iw.o],HBW1.o⟩
    case measure=>simp[intOf];omega
  ·obtain rfl:j=rows.length:=by omega
   have ed:¬ ((rows.length:Nat):Int)<(rows.length:Int):=(by omega);have sC:jgt (l.map Prod.snd=dq fs T rows):=ae (iw.o.trans RT.o);go_wp2_with fail;go_ret
   have sp:w.heap.size<=A.heap.size:=by have:=Gw.o;omega
   first | exact⟨⟨_,_,rfl,HO.o.low sp,sC.o⟩,ai cN.o HB.o⟩ | exact⟨⟨_,rfl,_,HO.o.low sp,sC.o⟩,ai cN.o HB.o⟩
def Gro.stats{W:World}{B:Nat}{a b:Value}{rows:List Row}{sts:List Stt}(h:Gro W B (.agg #[a,b]) rows sts):Ss W b sts:=by
 obtain⟨R,rvs,vs,e,_,_,h3⟩:=h;simp only[Value.agg.injEq,Array.mk.injEq,List.cons.injEq,and_true]at e;obtain⟨_,rfl⟩:=e;exact tF.ss (B:=B) h3
def jcv(a b c:Bool)(w:World):(Instr.index 123 (.agg #[.bool a,.bool b,.bool c]) (.int .u8 2)).run prog w=.ok (.bool c) w:=by
 cases a<;>cases b<;>cases c<;>kernel_rfl
def qj(fs:List Fd)(t:PT)(g:Gr):Bool:=dR (bI fs g.2 t) 2
def dz(fs:List Fd)(t:PT)(gs:List Gr):List Row:=(gs.filter (qj fs t)).flatMap λg=>dq fs t g.1
def cU(fs:List Fd)(t:PT)(gs:List Gr):Nat:=(gs.filter (qj fs t)).length
def xV{fs:List Fd}{t:PT}{gs:List Gr}{k:Nat}(h:k<gs.length):dz fs t (gs.take (k+1))=dz fs t (gs.take k)++(if qj fs t gs[k]=true then dq fs t gs[k].1 else []):=by
 unfold dz;rw[jeO h,jf9,jfH];cases hm:qj fs t gs[k]<;>simp[jgh,hm]
def xW{fs:List Fd}{t:PT}{gs:List Gr}{k:Nat}(h:k<gs.length):cU fs t (gs.take (k+1))=cU fs t (gs.take k)+(if qj fs t gs[k]=true then 1 else 0):=by
 unfold cU;rw[jeO h,jf9,jeC];cases hm:qj fs t gs[k]<;>simp[jgh,hm]
def oI(fs:List Fd)(t:PT):∀ gs:List Gr,(dz fs t gs).length<=(bJ gs).length
 | []=>jeA _
 | g::gs=>by
  have h:=oI fs t gs;have h2:=kM fs t g.1;unfold dz bJ at *;rw[jgh];split
  ·simp only[jfQ,jeC,je4,jfO]
   omega
  ·simp only[je4,jfO,jeC]
   omega
def AB(fs:List Fd)(t:PT)(gs:List Gr):cU fs t gs<=gs.length:=jgd _ _
def xX{w:World}{B fp id op f:Nat}{fv kv:Value}{fs:List Fd}{gs:List Gr}{c:Cl}{ks:List PT}(h:Fil w B fp id fv gs)(yc:Sf w fv fs)
  (hk:eF w kv ks) (GB:∀ U rv r,jgu w U->Sv U rv (aE r)->(∀ x∈r,aI x)->Calls prog 113 #[.agg #[.int .u8 (op:Int),.int .u32 (f:Int),.int .u8 (c.1:Int),.int .i64 c.2.1,.string (bytesT c.2.2),kv],.agg #[.int .u32 (id:Int),fv],rv] U λe w'=>e=.returned (.int .u8 (aW fs r (.node op f c ks):Int))/\jgu U w')
  (hmay:∀ U rv sts,jgu w U->Ss U rv sts->(∀ s∈sts,Oks s)->Calls prog 66 #[.agg #[.int .u8 (op:Int),.int .u32 (f:Int),.int .u8 (c.1:Int),.int .i64 c.2.1,.string (bytesT c.2.2),kv],.agg #[.int .u32 (id:Int),fv],rv] U λe w'=>e=.returned (b3V (bI fs sts (.node op f c ks)))/\jgu U w') (hr:∀ r∈bJ gs,r.length<=1000/\∀ x∈r,aI x) (CU:(bJ gs).length<=1000) (XP:gs.length<=100000) (gx:∀ g∈gs,∀ s∈g.2,Oks s) (k:Int) (N:Nat) (RR:List Row) (hN0:k=0->N=cU fs (.node op f c ks) gs/\RR=dz fs (.node op f c ks) gs) (hN1:k≠0->N=0/\RR=[])
  (Rp:∀ U,jgu w U->Calls prog 65 #[.agg #[.int .u8 (op:Int),.int .u32 (f:Int),.int .u8 (c.1:Int),.int .i64 c.2.1,.string (bytesT c.2.2),kv],.agg #[.int .u32 (id:Int),fv]] U λe w'=>e=.returned (.int .i64 k)/\jgu U w') :
  Calls prog 28 #[.pointer (some ⟨fp,0,none⟩),.agg #[.int .u8 (op:Int),.int .u32 (f:Int),.int .u8 (c.1:Int),.int .i64 c.2.1,.string (bytesT c.2.2),kv]] w
   λe w'=>(∃ v l,e=.returned (.tuple #[v,.int .i64 (N:Int)])/\Ow w' w.heap.size v l/\l.map Prod.snd=RR)/\jgu w w':=by
 obtain⟨gv,xs,h1,h2,h3,h4⟩:=h;obtain⟨ga,gc,rfl,hgc,hgm⟩:=bn h3;obtain⟨fa,fc,rfl,_,_⟩:=yc.form;obtain⟨ka,kc,rfl,_,_⟩:=hk.form;have XQ:=(Array.getElem?_eq_some_iff.1 h1).1;have az:=aj w (.cells #[.int .u8 (op:Int),.int .u32 (f:Int),.int .u8 (c.1:Int),.int .i64 c.2.1,.string (bytesT c.2.2),.slice ka ks.length kc] 63);obtain⟨p0,p1,p2,p3,p4,p5⟩:=ti w (.int .u8 (op:Int)) (.int .u32 (f:Int)) (.int .u8 (c.1:Int)) (.int .i64 c.2.1) (.string (bytesT c.2.2)) (.slice ka ks.length kc) 63;have bW:(w.alloc (.cells #[.int .u8 (op:Int),.int .u32 (f:Int),.int .u8 (c.1:Int),.int .i64 c.2.1,.string (bytesT c.2.2),.slice ka ks.length kc] 63)).heap.size=w.heap.size+1:=jeB _ _;generalize hA:w.alloc (.cells #[.int .u8 (op:Int),.int .u32 (f:Int),.int .u8 (c.1:Int),.int .i64 c.2.1,.string (bytesT c.2.2),.slice ka ks.length kc] 63)=A at *
 have HT:jgt (∀ U,jgu A U->U.cell? ⟨fp,0,none⟩=some (.int .u32 (id:Int))/\U.cell? ⟨fp,1,none⟩=some (.slice fa fs.length fc)/\U.cell? ⟨fp,2,none⟩=some (.slice ga gs.length gc) /\
   U.cell? ⟨w.heap.size,0,none⟩=some (.int .u8 (op:Int))/\U.cell? ⟨w.heap.size,1,none⟩=some (.int .u32 (f:Int))/\U.cell? ⟨w.heap.size,2,none⟩=some (.int .u8 (c.1:Int))/\U.cell? ⟨w.heap.size,3,none⟩=some (.int .i64 c.2.1)/\U.cell? ⟨w.heap.size,4,none⟩=some (.string (bytesT c.2.2))/\U.cell? ⟨w.heap.size,5,none⟩=some (.slice ka ks.length kc)):=ae (λU hU=>by
  have hfU:=(hU.block fp (by omega)).trans ((az.block fp XQ).trans h1);refine⟨by rw[an hfU];rfl,by rw[an hfU];rfl,by rw[an hfU];rfl,?_,?_,?_,?_,?_,?_⟩
  ·exact(hU.cell (p:=⟨w.heap.size,0,none⟩) (by show w.heap.size<_;omega)).trans p0
  ·exact(hU.cell (p:=⟨w.heap.size,1,none⟩) (by show w.heap.size<_;omega)).trans p1
  ·exact(hU.cell (p:=⟨w.heap.size,2,none⟩) (by show w.heap.size<_;omega)).trans p2
  ·exact(hU.cell (p:=⟨w.heap.size,3,none⟩) (by show w.heap.size<_;omega)).trans p3
  ·exact(hU.cell (p:=⟨w.heap.size,4,none⟩) (by show w.heap.size<_;omega)).trans p4
  ·exact(hU.cell (p:=⟨w.heap.size,5,none⟩) (by show w.heap.size<_;omega)).trans p5)
 have HG:jgt (∀ j (hj:j<gs.length),∃ G R va vn vc,ga=some ⟨G,0,none⟩/\∀ U,jgu A U->U.cell? ⟨G,j*2,none⟩=some (.slice (some ⟨R,0,none⟩) gs[j].1.length gs[j].1.length)/\U.cell? ⟨G,j*2+1,none⟩=some (.slice va vn vc)/\Gro U B (.agg #[.slice (some ⟨R,0,none⟩) gs[j].1.length gs[j].1.length,.slice va vn vc]) gs[j].1 gs[j].2):=ae (λj hj=>by
  obtain⟨a,b,e1,e2,e3⟩:=h4 j hj;obtain⟨R,rfl,g1,g2,⟨va,vn,vc,rfl⟩,g4⟩:=e3.rows;obtain⟨G,rfl,_,hG,ju⟩:=gS h3 e1;obtain⟨_,e,_,_,jv⟩:=gS h3 e2;cases e
  refine⟨G,R,va,vn,vc,rfl,λU hU=>?_⟩;have hb:=az.trans (hU.mono az.size);exact⟨(hb.cell (p:=⟨G,j*2,none⟩) hG).trans (by rw[je6];exact ju),(hb.cell (p:=⟨G,j*2+1,none⟩) hG).trans (by rw[je6 j];exact jv),e3.turn λq _ _ _ k2 _ _ _=>hb.block q k2⟩)
 have lE:jgt (∀ U,jgu A U->Calls prog 65 #[.agg #[.int .u8 (op:Int),.int .u32 (f:Int),.int .u8 (c.1:Int),.int .i64 c.2.1,.string (bytesT c.2.2),.slice ka ks.length kc],.agg #[.int .u32 (id:Int),.slice fa fs.length fc]] U λe w'=>e=.returned (.int .i64 k)/\jgu A w'):=ae (λU hU=>by
  refine(Rp U (az.trans (hU.mono az.size))).mono ?_;rintro e w' ⟨rfl,hb⟩;exact⟨rfl,ai hU hb⟩)
 have HMY:jgt (∀ U rv sts,jgu A U->Ss U rv sts->(∀ s∈sts,Oks s)->Calls prog 66 #[.agg #[.int .u8 (op:Int),.int .u32 (f:Int),.int .u8 (c.1:Int),.int .i64 c.2.1,.string (bytesT c.2.2),.slice ka ks.length kc],.agg #[.int .u32 (id:Int),.slice fa fs.length fc],rv] U
   λe w'=>e=.returned (b3V (bI fs sts (.node op f c ks)))/\jgu U w'):=ae (λU rv sts hU hs hos=>by
  have hb:=az.trans (hU.mono az.size);exact hmay U rv sts hb hs hos)
 have GS:jgt (∀ U a b j (hj:j<gs.length),jgu A U->Gro U B (.agg #[a,b]) gs[j].1 gs[j].2->Calls prog 67 #[.pointer (some ⟨fp,0,none⟩),.agg #[a,b],.agg #[.int .u8 (op:Int),.int .u32 (f:Int),.int .u8 (c.1:Int),.int .i64 c.2.1,.string (bytesT c.2.2),.slice ka ks.length kc]] U
   λe w'=>(∃ v l,e=.returned v/\Ow w' U.heap.size v l/\l.map Prod.snd=dq fs (.node op f c ks) gs[j].1)/\jgu U w'):=ae (λU a b j hj hU hg=>by
  have hb:=az.trans (hU.mono az.size);have h5:=lX hj;have h6:=eO gs (j+1);rw[h5,jeC]at h6;exact Cy ((hb.block fp XQ).trans h1) (yc.kept hb) hg (hk.kept hb) (λU2 rv2 r2 hU2=>GB U2 rv2 r2 (hb.trans (hU2.mono hb.size))) (λr hh=>hr r (FO hj hh)) (by omega))
 have Lt:=ae hN0;have me:=ae hN1;have cF:=ae (λj (hj:j<gs.length)=>gx _ (jeD hj));have cN:=ae az;have jw:=ae (λj (hj:j<gs.length)=>xV (fs:=fs) (t:=.node op f c ks) hj);have HNT:=ae (λj (hj:j<gs.length)=>xW (fs:=fs) (t:=.node op f c ks) hj);have HMG:jgt (∀ g:Gr,qj fs (.node op f c ks) g=(bI fs g.2 (.node op f c ks)).2.2):=ae (λg=>rfl);have MH:=ae (λj=>jeK (oI fs (.node op f c ks) (gs.take j)) (eO gs j));have HNL:=ae (λj=>jeK (AB fs (.node op f c ks) (gs.take j)) (show (gs.take j).length<=gs.length by rw[jeH];omega));have MX:jgt (dz fs (.node op f c ks) (gs.take gs.length)=dz fs (.node op f c ks) gs):=ae (by rw[jeJ]);have yu:jgt (cU fs (.node op f c ks) (gs.take gs.length)=cU fs (.node op f c ks) gs):=ae (by rw[jeJ]);have ni:jgt (dz fs (.node op f c ks) (gs.take 0)=[]):=ae rfl;have HNZ:jgt (cU fs (.node op f c ks) (gs.take 0)=0):=ae rfl;have HHL:=ae (λrows=>kM fs (.node op f c ks) rows);generalize (PT.node op f c ks)=T at *;have Rq:=ae CU;clear h1 h2 h3 h4 yc hk GB hmay hr CU gx Rp az hN0 hN1 p0 p1 p2 p3 p4 p5;obtain⟨c0,c1,c2,d0,d1,d2,d3,d4,d5⟩:=HT.o A (jez _ _);have HZ1:=ae bW;clear bW;generalize c.1=k0 at *;generalize c.2.1=k1 at *;generalize bytesT c.2.2=k2 at *;go_enter func28,ntmps28
 go_upto_region 1 with fail
 try rw[hA]
 clear hA;go_cut [16] from 46 (λv wx=>v=.bool (k != 0)/\jgu A wx)
 case first =>
  refine wp_region_noPanic ?_
  go_region_law (first
   | (go_simp;go_at_call 65;refine(lE.o _ ?_).mono ?_;exact ak (jez A.heap.size A) _;rintro e w1 ⟨rfl,az⟩;have aL:=ae az;clear az;dsimp only)
   | fail)
  all_goals refine NoPanic.normal ?_
  all_goals go_wp2_with fail
  all_goals go_meet
  all_goals exact⟨rfl,aL.o⟩
 case rest =>
 obtain⟨rfl,yj⟩:=hcut;obtain⟨w1,hw1⟩:∃ w1,w1=wc:=⟨_,rfl⟩;subst hw1;have aL:=ae yj;clear yj;clear c0 c1 c2 d0 d1 d2 d3 d4 d5 lE;by_cases vL:k=0
 ·have hkz:(k != 0)=false:=by simp[vL]
  rw[hkz];obtain⟨hNe,hRe⟩:=Lt.o vL;have ML:=ae hNe;have ZY:=ae hRe;clear hNe hRe Lt me;obtain⟨c0,c1,c2,_⟩:=HT.o w1 aL.o;go_wp2_with fail;go_loopw [6,7,22] (λo n i wr=>∃(j:Nat) (l:List (Value×Row)),j<=gs.length/\i=.int .i64 (j:Int)/\n=.int .i64 ((cU fs T (gs.take j):Nat):Int)/\Ow wr A.heap.size o l/\l.map Prod.snd=dz fs T (gs.take j)/\jgu A wr) (λ_ _ i _=>gs.length-(intOf i).toNat)
  case atStart=>exact⟨0,[],by omega,rfl,by rw[HNZ.o];rfl,Ow.nil _ _,ni.o.symm,aL.o⟩
  case round =>
   obtain⟨j,l,hj,rfl,rfl,how,oX,ao⟩:=hrel;have HO:=ae how;have HB:=ae ao;have iw:=ae oX;have bF:=ao.size
   have jE:l.length<=1000:=by
    have h1:=jeG List.length oX;have h2:=MH.o j;have h3:=Rq.o;rw[jeE]at h1;omega
   obtain⟨la,lc,rfl,De,qs,_⟩:=how.form;clear how ao oX c0 c1 c2;by_cases ar:j<gs.length
   ·have hlt':(j:Int)<(gs.length:Int):=by omega
    obtain⟨G,R,va,vn,vc,rfl,jdu⟩:=HG.o j ar;obtain⟨ca,cb,hgro⟩:=jdu wr HB.o;have hbA:=HB.o.alloc bF (.cells #[.slice (some ⟨R,0,none⟩) gs[j].1.length gs[j].1.length,.slice va vn vc] 109);have Lc:=aj wr (.cells #[.slice (some ⟨R,0,none⟩) gs[j].1.length gs[j].1.length,.slice va vn vc] 109);obtain⟨q0,q1⟩:=aS wr (.slice (some ⟨R,0,none⟩) gs[j].1.length gs[j].1.length) (.slice va vn vc) 109;have hzq:(wr.alloc (.cells #[.slice (some ⟨R,0,none⟩) gs[j].1.length gs[j].1.length,.slice va vn vc] 109)).heap.size=wr.heap.size+1:=jeB _ _;have HZQ:=ae hzq;have RH:=ae (HO.o.kept Lc);have fx:=ae hbA;have Xg:=ae jdu;have HRJ:=ae (jw.o j ar);have HNJ:=ae (HNT.o j ar);have HMJ:=ae (HMG.o gs[j]);have HNJ2:=ae (HNL.o (j+1))
    have HQ:jgt (∀ U,Below (wr.alloc (.cells #[.slice (some ⟨R,0,none⟩) gs[j].1.length gs[j].1.length,.slice va vn vc] 109)).heap.size (wr.alloc (.cells #[.slice (some ⟨R,0,none⟩) gs[j].1.length gs[j].1.length,.slice va vn vc] 109)) U->U.cell? ⟨wr.heap.size,0,none⟩=some (.slice (some ⟨R,0,none⟩) gs[j].1.length gs[j].1.length)/\U.cell? ⟨wr.heap.size,1,none⟩=some (.slice va vn vc)):=ae (λU hU =>
     ⟨(hU.cell (p:=⟨wr.heap.size,0,none⟩) (by show wr.heap.size<_;omega)).trans q0,(hU.cell (p:=⟨wr.heap.size,1,none⟩) (by show wr.heap.size<_;omega)).trans q1⟩)
    obtain⟨c0,c1,c2,d0,d1,d2,d3,d4,d5⟩:=HT.o _ fx.o;obtain⟨M,hM⟩:∃ M,bI fs gs[j].2 T=M:=⟨_,rfl⟩;rw[hM]at HMJ
    have HMC:jgt (∀ U,Below (wr.alloc (.cells #[.slice (some ⟨R,0,none⟩) gs[j].1.length gs[j].1.length,.slice va vn vc] 109)).heap.size (wr.alloc (.cells #[.slice (some ⟨R,0,none⟩) gs[j].1.length gs[j].1.length,.slice va vn vc] 109)) U->Calls prog 66 #[.agg #[.int .u8 (op:Int),.int .u32 (f:Int),.int .u8 (k0:Int),.int .i64 k1,.string k2,.slice ka ks.length kc],.agg #[.int .u32 (id:Int),.slice fa fs.length fc],.slice va vn vc] U
      λe w'=>e=.returned (.agg #[.bool M.1,.bool M.2.1,.bool M.2.2])/\Below (wr.alloc (.cells #[.slice (some ⟨R,0,none⟩) gs[j].1.length gs[j].1.length,.slice va vn vc] 109)).heap.size (wr.alloc (.cells #[.slice (some ⟨R,0,none⟩) gs[j].1.length gs[j].1.length,.slice va vn vc] 109)) w'):=ae (λU hU=>by
     have hbU:=fx.o.trans (hU.mono fx.o.size);obtain⟨_,_,hg⟩:=Xg.o U hbU;refine(HMY.o U _ gs[j].2 hbU hg.stats (cF.o j ar)).mono ?_;rintro e w' ⟨rfl,hb⟩;rw[hM];exact⟨rfl,ai hU hb⟩)
    clear hM hgro jdu hbA Lc hzq q0 q1 ca cb HO;obtain⟨ca,cb,_⟩:=Xg.o wr HB.o;go_upto_region 8 with fail
    generalize hWA:wr.alloc (.cells #[.slice (some ⟨R,0,none⟩) gs[j].1.length gs[j].1.length,.slice va vn vc] 109)=WA at *;obtain⟨e0,e1⟩:=HQ.o WA (jez _ _);have hix:∀ w,(Instr.index 123 (.agg #[.bool M.1,.bool M.2.1,.bool M.2.2]) (.int .u8 2)).run prog w=.ok (.bool M.2.2) w:=jcv _ _ _;go_cut [34] from 46 (λv wx=>v=.bool M.2.2/\jgu WA wx)
    case first =>
     refine wp_region_noPanic ?_
     go_region_law (first
      | (go_simp;go_at_call 66;refine(HMC.o _ ?_).mono ?_;exact ak (jez WA.heap.size WA) _;rintro e w5 ⟨rfl,bQ⟩;have bq:=ae bQ;clear bQ;dsimp only)
      | fail)
     all_goals refine NoPanic.normal ?_
     all_goals go_wp2_with fail
     all_goals go_meet
     all_goals exact⟨rfl,bq.o⟩
    case rest =>
    obtain⟨rfl,yj⟩:=hcut;obtain⟨w5,hw5⟩:∃ w5,w5=wc:=⟨_,rfl⟩;subst hw5;have bq:=ae yj;have Rt:=ae (fx.o.trans (yj.mono fx.o.size));have dK:=ae (RH.o.kept yj);obtain⟨f0,f1⟩:=HQ.o w5 yj;have sk:=yj.size;clear yj hix e0 e1 ca cb c0 c1 c2 d0 d1 d2 d3 d4 d5 HMC RH;obtain⟨m1,m2,m3⟩:=M;simp only at *;have GO:=Rt.o.size;cases m3 with
    | false =>
     have jdv:jgt (dz fs T (gs.take (j+1))=dz fs T (gs.take j)):=ae (by rw[HRJ.o,HMJ.o];simp);have jaC:jgt (cU fs T (gs.take (j+1))=cU fs T (gs.take j)):=ae (by rw[HNJ.o,HMJ.o];simp);go_wp2_with fail;go_roundw
     case rel=>exact⟨j+1,l,by omega,by go_num,by rw[jaC.o],dK.o,by rw[jdv.o,iw.o],Rt.o⟩
     case measure=>simp[intOf];omega
    | true =>
     have jdv:jgt (dz fs T (gs.take (j+1))=dz fs T (gs.take j)++dq fs T gs[j].1):=ae (by rw[HRJ.o,HMJ.o];simp);have jaC:jgt (cU fs T (gs.take (j+1))=cU fs T (gs.take j)+1):=ae (by rw[HNJ.o,HMJ.o];simp);have hnl:cU fs T (gs.take j)<=100000:=by have h1:=HNJ2.o;have h2:=jaC.o;omega
     obtain⟨cn,vI⟩:∃ cn,cU fs T (gs.take j)=cn:=⟨_,rfl⟩;have ix:=ae vI;rw[vI]at hnl ⊢;clear vI;obtain⟨_,_,hg5⟩:=Xg.o w5 Rt.o;have Dh:=ae (GS.o w5 _ _ j ar Rt.o hg5);obtain⟨_,_,_,d0,d1,d2,d3,d4,d5⟩:=HT.o w5 Rt.o;have HHL2:=ae (HHL.o gs[j].1)
     have XS:jgt (gs[j].1.length<=1000):=ae (by
      have h5:=lX ar;have h6:=eO gs (j+1);have h7:=Rq.o;rw[h5,jeC]at h6;omega)
     clear hg5;go_wp2_with fail;refine Dh.o.mono ?_;rintro e w6 ⟨⟨v6,l6,rfl,Dc,hsn6⟩,ct⟩;have oJ:=ae (dK.o.kept ct);have Xf:=ae Dc;have HSN6:=ae hsn6;have fV:=ae (Rt.o.trans (ct.mono GO));have hz7:=ct.size;obtain⟨va6,vc6,rfl,_,_⟩:=bn Dc.1;clear ct Dc hsn6 Dh dK;go_wp2_with (first | (at_builtin;refine gw rfl _ _ rfl A.heap.size _ _ l l6 rfl oJ.o rfl Xf.o.sv ?c1 ?c2 ?c3 ?_))
     case c1=>exact λx hx=>(Xf.o.2 x hx).of_le GO
     case c2 =>
      have h1:=jeG List.length HSN6.o;have h2:=HHL2.o;have h3:=XS.o;rw[jeE]at h1;omega
     case c3=>omega
     intro v' w7 o7 b7;have oV:=ae o7;have jK:=ae (fV.o.trans b7);clear o7 b7;go_wp2_with fail;go_roundw
     case rel=>exact⟨j+1,_,by omega,by go_num,by rw[jaC.o,ix.o];go_num,oV.o,by rw[jdv.o,jeR,iw.o,HSN6.o],jK.o⟩
     case measure=>simp[intOf];omega
   ·obtain rfl:j=gs.length:=by omega
    have ed:¬ ((gs.length:Nat):Int)<(gs.length:Int):=(by omega);have sp:w.heap.size<=A.heap.size:=by have:=HZ1.o;omega
    have sC:jgt (l.map Prod.snd=RR):=ae (by rw[iw.o,MX.o,ZY.o]);have mV:jgt (cU fs T (gs.take gs.length)=N):=ae (by rw[yu.o,ML.o]);rw[mV.o];go_wp2_with fail;go_ret2
    first | exact⟨⟨_,_,rfl,HO.o.low sp,sC.o⟩,ai cN.o HB.o⟩ | exact⟨⟨_,rfl,_,HO.o.low sp,sC.o⟩,ai cN.o HB.o⟩
 ·have hkz:(k != 0)=true:=by simp[vL]
  rw[hkz];obtain⟨hNe,hRe⟩:=me.o vL;have ZY:=ae hRe;have sp:w.heap.size<=A.heap.size:=by have:=HZ1.o;omega
  subst hNe;clear hRe;go_wp2_with fail;go_ret2
  first | exact⟨⟨_,[],rfl,Ow.nil _ _,ZY.o.symm⟩,ai cN.o aL.o⟩ | exact⟨⟨_,rfl,[],Ow.nil _ _,ZY.o.symm⟩,ai cN.o aL.o⟩
def dQ.low'{W:World}{B B':Nat}{v:Value}{l:Row}(h:dQ W B v l)(hB:B'<=B):dQ W B' v l:=tE h hB
def Oc(W:World)(B:Nat)(v:Value)(l:List (Value×Row)):Prop:=W.ownsRow B 58 1 v l.length (l.map Prod.fst)/\∀ x∈l,dQ W B x.1 x.2
def Oc.nil(W:World)(B:Nat):Oc W B (.slice none 0 0) []:=⟨jfh _ _ _ _,λx hx=>by simp at hx⟩
def Oc.kept{W W':World}{B:Nat}{v:Value}{l:List (Value×Row)}(h:Oc W B v l)(hb:jgu W W'):Oc W' B v l:=⟨bv h.1 hb,λx hx=>(h.2 x hx).kept hb⟩
def Oc.form{W:World}{B:Nat}{v:Value}{l:List (Value×Row)}(h:Oc W B v l):∃ a cap,v=.slice a l.length cap/\l.length<=cap/\cap<=maxLen/\(a=none->cap=0):=by
 rcases h.1 with ⟨h0,⟨h1,h2⟩ | ⟨g,cap,cur,h1,h2,h3,h4,h5,_⟩⟩
 ·exact⟨none,0,by rw[h1,h2],by omega,by unfold maxLen;omega,λ_=>rfl⟩
 ·exact⟨_,cap,h1,h4,h5,λe=>by cases e⟩
def Oc.at{W:World}{B:Nat}{a:Option Addr}{n cap:Nat}{l:List (Value×Row)}(h:Oc W B (.slice a n cap) l){k:Nat}(hk:k<l.length) :
  ∃ g,a=some ⟨g,0,none⟩/\g<W.heap.size/\W.cell? ⟨g,k,none⟩=some l[k].1/\dQ W B l[k].1 l[k].2:=by
 rcases h with ⟨⟨h0,⟨h1,h2⟩ | ⟨g,cap',cur,h1,h2,h3,h4,h5,h6,h7⟩⟩,hr⟩
 ·omega
 ·simp only[Value.slice.injEq]at h1
  obtain⟨rfl,rfl,rfl⟩:=h1;refine⟨g,rfl,(Array.getElem?_eq_some_iff.1 h3).1,?_,(hr _ (jeD hk))⟩;have hj:(l.map Prod.fst)[k]?=some l[k].1:=by simp[hk]
  simp only[World.cell?,h3];rw[<- h7]at hj;have ar:=(List.getElem?_eq_some_iff.1 hj).1;rw[jeH]at ar;rw[List.getElem?_take_of_lt (by omega)]at hj;simpa using hj
def Oc.sr{W:World}{B:Nat}{v:Value}{l:List (Value×Row)}(h:Oc W B v l):Sr W v (l.map Prod.snd):=by
 obtain⟨a,cap,rfl,h1,h2,h3⟩:=h.form;refine⟨a,cap,by rw[jeE],by rw[jeE];exact h1,h2,λh0=>?_⟩;rw[jeE]at h0;obtain⟨g,e,h4,_⟩:=h.at h0;refine⟨g,0,e,h4,λj hj=>?_⟩;rw[jeE]at hj;obtain⟨g',e',h5,h6,h7⟩:=h.at hj;obtain rfl:g=g':=by rw[e]at e';cases e';rfl
 refine⟨_,by rw[jeU];exact h6,?_⟩;have:=h7.sc;simpa using this
def Cz{w:World}(ty:TypeId)(base:Nat)(v vx:Value)(l0 l:List (Value×Row))(ax:Oc w base v l0)(eg:Sv w vx (l.map Prod.fst))(hr:∀ x∈l,dQ w base x.1 x.2)(hbytes:l0.length+l.length<=1000000)(aF:base<=w.heap.size) :
  ∃ v' w',(Builtin.append_ #[26,26] ty #[v,vx]).run prog w=.ok v' w'/\Oc w' base v' (l0++l)/\Below base w w':=by
 obtain⟨i0,hi,bR,hz1',aX⟩:=jeT Ku;obtain⟨ad,cap,rfl,h1,h2,h3,h4⟩:=eg;rw[jeE]at *
 have one:∀ x∈l.map Prod.fst,x.oneCell'=true:=λx hx=>by
  obtain⟨y,hy,rfl⟩:=jeN.1 hx;obtain⟨a,n,c,e⟩:=dI (hr y hy);rw[e];rfl
 cases ad with
 | none =>
  have hc:=h3 rfl;subst hc;have hl:l=[]:=jeW (by omega);subst hl;have hr:=jgb (P:=prog) (w:=w) base 26 ty 58 i0 1 underlying26 hi v l0.length (l0.map Prod.fst) ax.1;refine⟨v,w,hr,by rw[jeS];exact ax,jez _ _⟩
 | some ad =>
  obtain⟨v',w',vP,o1,g1,_,e1⟩:=run_append_own_at (P:=prog) w base 26 ty 58 i0 (.slice none 0 0) 1 24 underlying26 hi bR hz1' aX rfl (by decide) v l0.length (l0.map Prod.fst) ax.1 ad l.length cap (l.map Prod.fst) (by rw[jeE];omega)
   (λj u hu=>by
    have hj:j<l.length:=by
     have:=(List.getElem?_eq_some_iff.1 hu).1;rwa[jeE]at this
    obtain⟨b,off,h5,_,h6⟩:=h4 (by omega);cases h5
    rw[kP];exact h6 j u hu) one (by unfold maxLen;omega) (by omega) aF
  have keep:∀ y:Value×Row,dQ w base y.1 y.2->dQ w' base y.1 y.2:=λy hy =>
   bT hy λk hk=>g1.block k (aN hy hk).2.1 (λe=>ey hy ax.1 (by decide) hk e.symm)
  refine⟨v',w',vP,⟨?_,λy hy=>?_⟩,(jez base w).grown g1 aF (λk hk=>(ax.1.lt k hk).1)⟩
  ·rw[jeC,jeR]
   exact o1
  ·rcases je1.1 hy with hy | hy
   ·exact keep y (ax.2 y hy)
   ·exact keep y (hr y hy)
def uP{w:World}{o:Oper}{a:Act}{K:Act->World->Prop}{Q:Exit->Act->World->Prop}(s x:Operand)
  (ho:o.op=.call { callee:=.builtin .append,args:=#[s,x],argTypes:=#[26,26] })
  (base:Nat) (v vx:Value) (l0 l:List (Value×Row)) (hs:a.eval s=v) (ax:Oc w base v l0) (hx:a.eval x=vx) (eg:Sv w vx (l.map Prod.fst)) (hr:∀ x∈l,dQ w base x.1 x.2) (hbytes:l0.length+l.length<=1000000) (aF:base<=w.heap.size)
  (h:∀ v' w',Oc w' base v' (l0++l)->Below base w w'->K (a.put o.dst v') w'):Oper.wp prog o a w K Q:=by
 obtain⟨v',w',hr,h2,h3⟩:=Cz o.type base v vx l0 l ax eg hr hbytes aF;unfold Oper.wp execOp;simp only[ho,resolve,invoke,builtin,Sem.run_bind,Sem.run_pure,Result.andThen_ok,jfN,je4,jfr,hs,hx,hr];exact h v' w' h2 h3
def yT{w:World}{ops:Array Oper}{o:Oper}{a:Act}{K:Act->World->Prop}{Q:Exit->Act->World->Prop}{E:Prop}(ef:o.guard=none)(s x:Operand)
  (ho:o.op=.call { callee:=.builtin .append,args:=#[s,x],argTypes:=#[26,26] })
  (base:Nat) (v vx:Value) (l0 l:List (Value×Row)) (hs:a.eval s=v) (ax:Oc w base v l0) (hx:a.eval x=vx) (eg:Sv w vx (l.map Prod.fst)) (hr:∀ x∈l,dQ w base x.1 x.2) (hbytes:l0.length+l.length<=1000000) (aF:base<=w.heap.size)
  (h:∀ v' w',Oc w' base v' (l0++l)->Below base w w'->K (a.put o.dst v') w') :
  if Region.wanted o (yielded ops a.tmps)=true then Oper.wp prog o a w K Q else E:=by
 have hw:Region.wanted o (yielded ops a.tmps)=true:=by simp[Region.wanted,ef]
 rw[jey hw];exact uP s x ho base v vx l0 l hs ax hx eg hr hbytes aF h
def vD{w:World}{ops:Array Oper}{rest:List Oper}{o:Oper}{a:Act}{Q:Exit->Act->World->Prop}(ef:o.guard=none)(s x:Operand)
  (ho:o.op=.call { callee:=.builtin .append,args:=#[s,x],argTypes:=#[26,26] })
  (base:Nat) (v vx:Value) (l0 l:List (Value×Row)) (hs:a.eval s=v) (ax:Oc w base v l0) (hx:a.eval x=vx) (eg:Sv w vx (l.map Prod.fst)) (hr:∀ x∈l,dQ w base x.1 x.2) (hbytes:l0.length+l.length<=1000000) (aF:base<=w.heap.size)
  (h:∀ v' w',Oc w' base v' (l0++l)->Below base w w'->wpList prog ops Q rest (a.put o.dst v') w') :
  wpList prog ops Q (o::rest) a w :=
 wpList_plain ef λK hK=>uP s x ho base v vx l0 l hs ax hx eg hr hbytes aF λv' w' h1 h2=>hK _ _ (h v' w' h1 h2)
def ZI{r:Row}(h:∀ c∈r,aI c):r.map aH=r:=by
 conv=>rhs;rw[<- jfx r]
 exact jfy λc hc=>sP (h c hc)
def Qv{w:World}{v:Value}{rs:List Row}(hs:Sr w v rs)(hf:∀ r∈rs,∀ c∈r,aI c)(hl:rs.length<=1000)(jE:∀ r∈rs,r.length<=600) :
  Calls prog 13 #[v] w λe w'=>(∃ v' l,e=.returned v'/\Ow w' w.heap.size v' l/\l.map Prod.snd=rs)/\jgu w w':=by
 have HS:=ae hs;have HF:=ae hf;have Xh:=ae jE;obtain⟨a,cap,rfl,bg,bx⟩:=hs.form;have hcm':cap<=9223372036854775807:=by unfold maxLen at bx;omega
 clear hs bx hf jE;go_enter func13,ntmps13
 go_wp2_with fail;go_loopw [3,4] (λo i wr=>∃(j:Nat) (l:List (Value×Row)),j<=rs.length/\i=.int .i64 (j:Int)/\Ow wr w.heap.size o l/\l.map Prod.snd=rs.take j/\jgu w wr) (λ_ i _=>rs.length-(intOf i).toNat)
 case atStart=>exact⟨0,[],by omega,rfl,Ow.nil _ _,rfl,jez _ _⟩
 case round =>
  obtain⟨j,l,hj,rfl,how,oX,ao⟩:=hrel;have HO:=ae how;have HB:=ae ao;have iw:=ae oX;have bF:=ao.size;have jE:l.length=j:=by have:=jeG List.length oX;rw[jeE,jeH]at this;omega
  clear how ao oX;by_cases ar:j<rs.length
  ·obtain⟨g,off,rv,rfl,hg,bC,Dj⟩:=(HS.o.kept HB.o).at ar
   have hlt':(j:Int)<(rs.length:Int):=(by omega);have mf:jgt (rs.take (j+1)=rs.take j++[rs[j]]):=ae (jeO ar);have GT:=ae (Sg Dj (λc hc=>(HF.o _ (jeD ar) c hc).okc) (Xh.o _ (jeD ar)));rw[ZI (HF.o _ (jeD ar))]at GT;generalize rs[j]=r at *;obtain⟨ra,rc,rfl,_,_⟩:=Dj.form;have HLJ:=ae jE;clear Dj jE;go_wp2_with fail;refine GT.o.mono ?_;rintro e w1 ⟨⟨rv',rfl,dM⟩,az⟩;have fX:=ae dM;have jdx:=ae (HO.o.kept az);have aL:=ae (HB.o.trans (az.mono bF));have bW:=az.size;obtain⟨ra',rc',rfl,_,_⟩:=bn dM;have ix:=ae (aV w1 (.slice ra' r.length rc') 79);clear az dM;go_wp2_with (first | (at_builtin;refine gw rfl _ _ rfl w.heap.size _ _ l [(.slice ra' r.length rc',r)] rfl (jdx.o.kept (aj _ _)) rfl (lm ix.o (by rw[jeB];omega)) ?c1 ?c2 ?c3 ?_))
   case c1 =>
    intro x hx;rw[je9.1 hx];exact(fX.o.kept (aj _ _)).of_le bF
   case c2=>have:=HLJ.o;simp only[je7];omega
   case c3=>rw[jeB];omega
   intro v' w5 o5 b5;have dK:=ae o5;have bq:=ae ((aL.o.alloc (jeK bF bW) _).trans b5);clear o5 b5;go_wp2_with fail;go_roundw
   case rel=>exact⟨j+1,_,by omega,by go_num,dK.o,by rw[mf.o,jeR,iw.o];rfl,bq.o⟩
   case measure=>simp[intOf];omega
  ·obtain rfl:j=rs.length:=by omega
   rw[jeJ]at iw;have ed:¬ ((rs.length:Nat):Int)<(rs.length:Int):=(by omega);go_wp2_with fail;go_ret
   first | exact⟨⟨_,_,rfl,HO.o,iw.o⟩,HB.o⟩ | exact⟨⟨_,rfl,_,HO.o,iw.o⟩,HB.o⟩
def VI{w:World}{v:Value}{rs:List Row}(hs:Rv w v rs)(hf:∀ r∈rs,∀ c∈r,aI c)(hl:rs.length<=1000)(jE:∀ r∈rs,r.length<=600) :
  Calls prog 34 #[v] w λe w'=>(∃ v' l,e=.returned v'/\Oc w' w.heap.size v' l/\l.map Prod.snd=rs)/\jgu w w':=by
 have HS:=ae hs;have HF:=ae hf;have Xh:=ae jE;obtain⟨a,cap,rfl,bg,hcm',_⟩:=hs.form;clear hs hf jE;go_enter func34,ntmps34
 go_wp2_with fail;go_loopw [3,4] (λo i wr=>∃(j:Nat) (l:List (Value×Row)),j<=rs.length/\i=.int .i64 (j:Int)/\Oc wr w.heap.size o l/\l.map Prod.snd=rs.take j/\jgu w wr) (λ_ i _=>rs.length-(intOf i).toNat)
 case atStart=>exact⟨0,[],by omega,rfl,Oc.nil _ _,rfl,jez _ _⟩
 case round =>
  obtain⟨j,l,hj,rfl,how,oX,ao⟩:=hrel;have HO:=ae how;have HB:=ae ao;have iw:=ae oX;have bF:=ao.size;have jE:l.length=j:=by have:=jeG List.length oX;rw[jeE,jeH]at this;omega
  clear how ao oX;by_cases ar:j<rs.length
  ·obtain⟨g,off,rv,rfl,hg,bC,Dj⟩:=(HS.o.kept HB.o).at ar
   have hlt':(j:Int)<(rs.length:Int):=(by omega);have mf:jgt (rs.take (j+1)=rs.take j++[rs[j]]):=ae (jeO ar);have GT:=ae (Ac Dj (HF.o _ (jeD ar)) (Xh.o _ (jeD ar)));generalize rs[j]=r at *;obtain⟨ra,rc,rfl,_,_⟩:=Dj.form1;rw[ay]at *;have HLJ:=ae jE;clear Dj jE;go_wp2_with fail;refine GT.o.mono ?_;rintro e w1 ⟨⟨rv',rfl,dM⟩,az⟩;have fX:=ae dM;have jdx:=ae (HO.o.kept az);have aL:=ae (HB.o.trans (az.mono bF));have bW:=az.size;obtain⟨ra',rc',rfl,_,_⟩:=bn dM;have ix:=ae (aV w1 (.slice ra' r.length rc') 58);clear az dM;go_wp2_with (first | (at_builtin;refine vD rfl _ _ rfl w.heap.size _ _ l [(.slice ra' r.length rc',r)] rfl (jdx.o.kept (aj _ _)) rfl (lm ix.o (by rw[jeB];omega)) ?c1 ?c2 ?c3 ?_))
   case c1 =>
    intro x hx;rw[je9.1 hx];exact(fX.o.kept (aj _ _)).low' bF
   case c2=>have:=HLJ.o;simp only[je7];omega
   case c3=>rw[jeB];omega
   intro v' w5 o5 b5;have dK:=ae o5;have bq:=ae ((aL.o.alloc (jeK bF bW) _).trans b5);clear o5 b5;go_wp2_with fail;go_roundw
   case rel=>exact⟨j+1,_,by omega,by go_num,dK.o,by rw[mf.o,jeR,iw.o];rfl,bq.o⟩
   case measure=>simp[intOf];omega
  ·obtain rfl:j=rs.length:=by omega
   rw[jeJ]at iw;have ed:¬ ((rs.length:Nat):Int)<(rs.length:Int):=(by omega);go_wp2_with fail;go_ret
   first | exact⟨⟨_,_,rfl,HO.o,iw.o⟩,HB.o⟩ | exact⟨⟨_,rfl,_,HO.o,iw.o⟩,HB.o⟩
def aI.bsA{c:Cl}(h:aI c):Bs c.2.2:=h.okc.2.2
def Qw{w:World}{v1 v2:Value}{a b:List Row}(h1:Sr w v1 a)(h2:Sr w v2 b)(f1:∀ r∈a,∀ c∈r,aI c)(f2:∀ r∈b,∀ c∈r,aI c) :
  Calls prog 56 #[v1,v2] w λe w'=>e=.returned (.bool (decide (a=b)))/\jgu w w':=by
 have iW:=ae h1;have fJ:=ae h2;have dN:=ae f1;have eW:=ae f2;obtain⟨a1,cap1,rfl,hcap1,sw⟩:=h1.form;obtain⟨a2,cap2,rfl,MG,tO⟩:=h2.form;have hcm1':cap1<=9223372036854775807:=by unfold maxLen at sw;omega
 have hcm2':cap2<=9223372036854775807:=by unfold maxLen at tO;omega
 clear h1 h2 sw tO f1 f2;obtain⟨D,hD⟩:∃ D,decide (a=b)=D:=⟨_,rfl⟩;have HD:=ae hD;rw[hD];clear hD;by_cases hl:a.length=b.length
 ·have hln:((a.length:Int) != (b.length:Int))=false:=by simp[hl]
  go_enter func56,ntmps56
  go_wp2_with fail;go_loopw [5] (λi wr=>∃ j:Nat,j<=a.length/\i=.int .i64 (j:Int)/\a.take j=b.take j/\jgu w wr) (λi _=>a.length-(intOf i).toNat)
  case atStart=>exact⟨0,by omega,rfl,rfl,jez _ _⟩
  case round =>
   obtain⟨j,hj,rfl,Wn,ao⟩:=hrel;have pr:=ae Wn;have HB:=ae ao;have bF:=ao.size;clear Wn ao;by_cases ar:j<a.length
   ·have jt:j<b.length:=by omega
    obtain⟨g1,o1,rv1,rfl,dP,ju,dr⟩:=(iW.o.kept HB.o).at ar;obtain⟨g2,o2,rv2,rfl,fY,jv,cV⟩:=(fJ.o.kept HB.o).at jt;have hlt':(j:Int)<(a.length:Int):=(by omega);have hlt2':(j:Int)<(b.length:Int):=(by omega);have HE:jgt (a[j]=b[j]->a.take (j+1)=b.take (j+1)):=ae (λe=>qH ar jt pr.o e);have HN:jgt (a[j]≠b[j]->a≠b):=ae (λe h=>e (by subst h;rfl))
    have GQ:jgt (∀ U,jgu wr U->Calls prog 36 #[rv1,rv2] U λe w'=>e=.returned (.bool (decide (a[j]=b[j])))/\jgu wr w'):=ae (λU hU=>by
     refine(ut (dr.kept hU) (cV.kept hU) (λc hc=>(dN.o _ (jeD ar) c hc).bsA) (λc hc=>(eW.o _ (jeD jt) c hc).bsA)).mono ?_;rintro e w' ⟨rfl,hb⟩;exact⟨rfl,ai hU hb⟩)
    obtain⟨x1,y1,rfl,_,_⟩:=dr.form;obtain⟨x2,y2,rfl,_,_⟩:=cV.form;have ng:∀ s:aB (λx=>jgu wr x),s.w.cell? ⟨g1,o1+j,none⟩=some (.slice x1 a[j].length y1):=λs=>(s.ok.cell (p:=⟨g1,o1+j,none⟩) dP).trans ju
    have nc:∀ s:aB (λx=>jgu wr x),s.w.cell? ⟨g2,o2+j,none⟩=some (.slice x2 b[j].length y2):=λs=>(s.ok.cell (p:=⟨g2,o2+j,none⟩) fY).trans jv
    haveI:Nonempty (aB (λx=>jgu wr x)):=⟨aB.mk wr (jez _ _)⟩
    obtain⟨d,hd⟩:∃ d,decide (a[j]=b[j])=d:=⟨_,rfl⟩;rw[hd]at GQ;have HDD:=ae hd;generalize a[j].length=n1 at *;generalize b[j].length=n2 at *;clear dr cV ju jv hd;go_wp2_with fail;refine aP (S:=λx=>jgu wr x) (by kernel_rfl) (by kernel_rfl) (by first | exact(jez _ _).drew | exact(ak (jez _ _) _).drew) ?_;repeat (go_big_quiet_step (first | (go_at_call 36;exact(GQ.o _ (aB.ok _)).mono (λe w' h=>⟨h.1,aB.mk w' h.2,rfl⟩))))
    refine wpQuiet_nil ?_;rintro _ ⟨s2,rfl⟩;obtain⟨w2,nX⟩:∃ x,x=s2.w:=⟨_,rfl⟩;have ap:=s2.ok;rw[<- nX]at ap ⊢;have aG:=ae (ai HB.o ap);clear nX ap ng nc GQ;cases d with
    | true =>
     have MN:=ae (HE.o (of_decide_eq_true HDD.o));clear HDD HE HN;go_wp2_with fail;go_roundw
     case rel=>exact⟨j+1,by omega,by go_num,MN.o,aG.o⟩
     case measure=>simp[intOf];omega
    | false =>
     have na:jgt (D=false):=ae (by rw[<- HD.o];exact jeM (HN.o (of_decide_eq_false HDD.o)));clear HDD HE HN;go_wp2_with fail;go_ret
     exact⟨by rw[na.o];rfl,aG.o⟩
   ·obtain rfl:j=a.length:=by omega
    have ed:¬ ((a.length:Nat):Int)<(a.length:Int):=(by omega)
    have na:jgt (D=true):=ae (by
     have:=pr.o;rw[jeJ,hl,jeJ]at this;rw[<- HD.o];exact jeP this)
    go_wp2_with fail;go_ret
    exact⟨by rw[na.o];rfl,HB.o⟩
 ·have hln:((a.length:Int) != (b.length:Int))=true:=by simp;omega
  have na:jgt (D=false):=ae (by rw[<- HD.o];exact jeM (λe=>hl (by rw[e])));go_enter func56,ntmps56
  go_wp2_with fail;go_ret
  exact⟨by rw[na.o];rfl,jez _ _⟩
def vX{w:World}{v1 v2:Value}{a b:List Row}(h1:Rv w v1 a)(h2:Sr w v2 b)(f1:∀ r∈a,∀ c∈r,aI c)(f2:∀ r∈b,∀ c∈r,aI c)(hl:a.length<=1000)(jE:∀ r∈a,r.length<=600) :
  Calls prog 22 #[v1,v2] w λe w'=>e=.returned (.bool (decide (a=b)))/\jgu w w':=by
 have HA:=ae (VI h1 f1 hl jE);have H2:=ae h2;have dN:=ae f1;have eW:=ae f2;clear h1 h2 f1 f2;go_enter func22,ntmps22
 go_wp2_with fail;refine HA.o.mono ?_;rintro e w1 ⟨⟨v',l,rfl,ho,rfl⟩,az⟩;have HS:=ae (Qw ho.sr (H2.o.kept az) dN.o eW.o);have aL:=ae az;clear ho az;go_wp2_with fail;refine HS.o.mono ?_;rintro e w2 ⟨rfl,ap⟩;have aG:=ae (ai aL.o ap);clear ap;go_wp2_with fail;go_ret
 exact⟨rfl,aG.o⟩
end Go.Proofs.YtpljdjmpamjkhaaGreatDoor
