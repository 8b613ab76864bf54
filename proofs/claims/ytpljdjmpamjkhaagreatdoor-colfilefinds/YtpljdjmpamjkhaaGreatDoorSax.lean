import Derived.Test.YtpljdjmpamjkhaaGreatDoorSaw
set_option linter.all false
set_option maxRecDepth 100000
set_option maxHeartbeats 8000000
namespace Go.Proofs.YtpljdjmpamjkhaaGreatDoor
open Tryz
open Go.RowKit Go.Lib
def tL(w:World)(t:PT)(e:Ending)(w':World):Prop:=(∃ n:Nat,e=.returned (.int .i64 (n:Int))/\1<=n/\n<=200/\(n<200->Len t))/\jgu w w'
def Qy(t:PT):∀(op f:Nat) (c:Cl) (ks:List PT),t=.node op f c ks->∀(w:World) (kv:Value) (d:Nat),d<=21->eF w kv ks ->
  Calls prog 64 #[.agg #[.int .u8 (op:Int),.int .u32 (f:Int),.int .u8 (c.1:Int),.int .i64 c.2.1,.string (bytesT c.2.2),kv],.int .i64 (d:Int)] w (tL w t):=by
 refine PT.ind (P:=λt=>∀(op f:Nat) (c:Cl) (ks:List PT),t=.node op f c ks->∀(w:World) (kv:Value) (d:Nat),d<=21->eF w kv ks->Calls prog 64 #[.agg #[.int .u8 (op:Int),.int .u32 (f:Int),.int .u8 (c.1:Int),.int .i64 c.2.1,.string (bytesT c.2.2),kv],.int .i64 (d:Int)] w (tL w t)) (λop f c ks ih op' f' c' ks' he w kv d hd hk=>?_) t;simp only[PT.node.injEq]at he;obtain⟨rfl,rfl,rfl,rfl⟩:=he;have nh:=ae ih;have HK:=ae hk;obtain⟨ka,kcap,rfl,Lh,mj⟩:=hk.form;have hkm':ks.length<=9223372036854775807:=by unfold maxLen at mj;omega
 clear hk ih mj;have HN:=ae (fE w op f c (.slice ka ks.length kcap));have aL:=ae (aj w (.cells #[.int .u8 (op:Int),.int .u32 (f:Int),.int .u8 (c.1:Int),.int .i64 c.2.1,.string (bytesT c.2.2),.slice ka ks.length kcap] 63));have GA:=ae (HK.o.kept aL.o);have lA:(bytesT c.2.2).size=c.2.2.length:=be _;have oM:=ae lA;clear lA;generalize hA:w.alloc (.cells #[.int .u8 (op:Int),.int .u32 (f:Int),.int .u8 (c.1:Int),.int .i64 c.2.1,.string (bytesT c.2.2),.slice ka ks.length kcap] 63)=A at *;obtain⟨cy,x0,x1,x2,x3,x4,x5⟩:=HN.o
 have HP:jgt (∀ n:Nat,∀ w',1<=n->n<=200->(n<200->c.2.2.length<=300/\∀ k∈ks,Len k)->jgu A w'->tL w (.node op f c ks) (.returned (.int .i64 (n:Int))) w'):=ae (λn w' h1 h2 h3 h4=>⟨⟨n,rfl,h1,h2,λh=>by
  simp only[Len];exact⟨(h3 h).1,LenAll.of (h3 h).2⟩⟩,ai aL.o h4⟩)
 by_cases hd2:(20:Int)<(d:Int)
 ·go_enter func64,ntmps64
  go_wp2_with fail;go_ret
  exact HP.o 200 _ (by omega) (by omega) (λh=>by omega) (by first | exact jez _ _ | (rw[hA];exact jez _ _))
 by_cases eg:(300:Int)<((bytesT c.2.2).size:Int)
 ·go_enter func64,ntmps64
  go_wp2_with fail;go_ret
  exact HP.o 200 _ (by omega) (by omega) (λh=>by omega) (by first | exact jez _ _ | (rw[hA];exact jez _ _))
 have hd3:d+1<=21:=by omega
 have XT:=ae hd3;have QW:jgt (c.2.2.length<=300):=ae (by have:=oM.o;omega);clear hd3;go_enter func64,ntmps64
 go_wp2_with fail;try rw[hA]
 go_loopw [5,6] (λs i wr=>∃ k n:Nat,k<=ks.length/\i=.int .i64 (k:Int)/\s=.int .i64 (n:Int)/\1<=n/\n<=399/\(n<200->∀ x∈ks.take k,Len x)/\jgu A wr) (λ_ i _=>ks.length-(intOf i).toNat)
 case atStart=>exact⟨0,1,by omega,rfl,rfl,by omega,by omega,λ_ x hx=>by simp at hx,by first | exact jez _ _ | (rw[hA];exact jez _ _)⟩
 case round =>
  obtain⟨k,n,hk,rfl,rfl,Gt,vY,RS,ao⟩:=hrel;have uV:=ae RS;have HB:=ae ao;have bF:=ao.size;have HNW:=ae (HN.o.kept ao);clear RS ao x0 x1 x2 x3 x4 x5;obtain⟨az,x0,x1,x2,x3,x4,x5⟩:=HNW.o;by_cases ar:k<ks.length
  ·have hlt':(k:Int)<(ks.length:Int):=by omega
   by_cases hn4:(n:Int)<200
   ·obtain⟨g,o,rfl,gA⟩:=(GA.o.kept HB.o).at ar
    have Xh:jgt (ks.take (k+1)=ks.take k++[ks[k]]):=ae (by rw[jf5,List.getElem?_eq_getElem ar];rfl);have HM:=ae (nh.o ks[k] (jeD ar));generalize ks[k]=kid at *;obtain⟨op1,f1,c1,ks1⟩:=kid;obtain⟨a1,cap1,eX,ec⟩:=gA.open;have HC:=ae (HM.o op1 f1 c1 ks1 rfl wr _ (d+1) XT.o ec);obtain⟨ap,z0,z1,z2,z3,z4,z5⟩:=eX;clear gA ec HM;go_wp2_with fail;refine HC.o.mono ?_;rintro e w2 ⟨⟨m,rfl,CY,vH,hm3⟩,ap⟩;have Rk:=ae hm3;have aG:=ae (HB.o.trans (ap.mono bF));clear hm3 ap x0 x1 x2 x3 x4 x5 z0 z1 z2 z3 z4 z5;go_wp2_with fail;go_roundw
    case rel=>exact⟨k+1,n+m,by omega,by go_num,by go_num,by omega,by omega,λh x hx=>by
     rw[Xh.o]at hx;rcases je1.1 hx with hx | hx
     ·exact uV.o (by omega) x hx
     ·rw[je9.1 hx]
      exact Rk.o (by omega),aG.o⟩
    case measure=>simp[intOf];omega
   ·have zd:min (n:Int) 200=200:=by omega
    by_cases hn5:(n:Int)=200
    ·obtain rfl:n=200:=by omega
     go_wp2_with fail;go_ret
     exact HP.o 200 _ (by omega) (by omega) (λh=>by omega) HB.o
    ·have q1:((n:Int)==200)=false:=jeF.2 hn5
     have q2:¬ (n:Int)<=200:=(by omega);have q3:(200:Int)<(n:Int):=(by omega);have q4:(200:Int)<=(n:Int):=(by omega);go_wp2_with fail;go_ret
     exact HP.o 200 _ (by omega) (by omega) (λh=>by omega) HB.o
  ·obtain rfl:k=ks.length:=by omega
   have ed:¬ ((ks.length:Nat):Int)<(ks.length:Int):=(by omega);by_cases hn4:(n:Int)<200
   ·have q1:((n:Int)==200)=false:=jeF.2 (by omega)
    have q2:(n:Int)<=200:=(by omega);have q3:¬ (200:Int)<(n:Int):=(by omega);have q4:¬ (200:Int)<=(n:Int):=(by omega);have zd:min (n:Int) 200=(n:Int):=(by omega);go_wp2_with fail;go_ret
    exact HP.o n _ (by omega) (by omega) (λh=>⟨QW.o,λx hx=>uV.o h x (by rw[jeJ];exact hx)⟩) HB.o
   ·by_cases hn5:(n:Int)=200
    ·obtain rfl:n=200:=by omega
     go_wp2_with fail;go_ret
     exact HP.o 200 _ (by omega) (by omega) (λh=>by omega) HB.o
    ·have q1:((n:Int)==200)=false:=jeF.2 hn5
     have q2:¬ (n:Int)<=200:=(by omega);have q3:(200:Int)<(n:Int):=(by omega);have q4:(200:Int)<=(n:Int):=(by omega);have zd:min (n:Int) 200=200:=(by omega);go_wp2_with fail;go_ret
     exact HP.o 200 _ (by omega) (by omega) (λh=>by omega) HB.o
def jcA(w:World)(t:PT)(e:Ending)(w':World):Prop:=(∃ g:Bool,e=.returned (.bool g)/\(g=false->Len t))/\jgu w w'
def KR{w:World}{op f:Nat}{c:Cl}{ks:List PT}{kv:Value}(hk:eF w kv ks):Calls prog 27 #[.agg #[.int .u8 (op:Int),.int .u32 (f:Int),.int .u8 (c.1:Int),.int .i64 c.2.1,.string (bytesT c.2.2),kv]] w (jcA w (.node op f c ks)):=by
 have HK:=ae hk;obtain⟨ka,kcap,rfl,Lh,mj⟩:=hk.form;clear hk mj;have hn:=fE w op f c (.slice ka ks.length kcap);have aL:=ae (aj w (.cells #[.int .u8 (op:Int),.int .u32 (f:Int),.int .u8 (c.1:Int),.int .i64 c.2.1,.string (bytesT c.2.2),.slice ka ks.length kcap] 63));have GA:=ae (HK.o.kept aL.o);generalize hA:w.alloc (.cells #[.int .u8 (op:Int),.int .u32 (f:Int),.int .u8 (c.1:Int),.int .i64 c.2.1,.string (bytesT c.2.2),.slice ka ks.length kcap] 63)=A at *;obtain⟨cy,x0,x1,x2,x3,x4,x5⟩:=hn;have HC:=ae (Qy (.node op f c ks) op f c ks rfl A _ 1 (by omega) GA.o);go_enter func27,ntmps27
 go_wp2_with fail;refine HC.o.mono ?_;rintro e w2 ⟨⟨m,rfl,CY,vH,hm3⟩,ap⟩;have Rk:=ae hm3;have aG:=ae (ai aL.o ap);clear hm3 ap;go_wp2_with fail;go_ret
 exact⟨⟨_,rfl,λh=>Rk.o (by simp at h;omega)⟩,aG.o⟩
def jaX(w:World)(t:PT)(d:Nat)(e:Ending)(w':World):Prop:=(∃ n:Nat,e=.returned (.int .i64 (n:Int))/\1<=n/\n<=33/\(n<=32->n=lY t/\dpM t+d<=9)/\(32<n->¬ (lY t<=32/\dpM t+d<=9)))/\jgu w w'
def VQ(t:PT):∀(op f:Nat) (c:Cl) (ks:List PT),t=.node op f c ks->∀(w:World) (kv:Value) (d:Nat),1<=d->d<=9->eF w kv ks ->
  Calls prog 69 #[.agg #[.int .u8 (op:Int),.int .u32 (f:Int),.int .u8 (c.1:Int),.int .i64 c.2.1,.string (bytesT c.2.2),kv],.int .i64 (d:Int)] w (jaX w t d):=by
 refine PT.ind (P:=λt=>∀(op f:Nat) (c:Cl) (ks:List PT),t=.node op f c ks->∀(w:World) (kv:Value) (d:Nat),1<=d->d<=9->eF w kv ks->Calls prog 69 #[.agg #[.int .u8 (op:Int),.int .u32 (f:Int),.int .u8 (c.1:Int),.int .i64 c.2.1,.string (bytesT c.2.2),kv],.int .i64 (d:Int)] w (jaX w t d)) (λop f c ks ih op' f' c' ks' he w kv d hd0 hd hk=>?_) t;simp only[PT.node.injEq]at he;obtain⟨rfl,rfl,rfl,rfl⟩:=he;have nh:=ae ih;have HK:=ae hk;obtain⟨ka,kcap,rfl,Lh,mj⟩:=hk.form;have hkm':ks.length<=9223372036854775807:=by unfold maxLen at mj;omega
 clear hk ih mj;have HN:=ae (fE w op f c (.slice ka ks.length kcap));have aL:=ae (aj w (.cells #[.int .u8 (op:Int),.int .u32 (f:Int),.int .u8 (c.1:Int),.int .i64 c.2.1,.string (bytesT c.2.2),.slice ka ks.length kcap] 63));have GA:=ae (HK.o.kept aL.o);have ix:jgt (lY (.node op f c ks)=1+cntAll ks/\dpM (.node op f c ks)=1+dpAll ks):=ae (by simp only[lY,dpM];exact⟨trivial,trivial⟩);generalize hA:w.alloc (.cells #[.int .u8 (op:Int),.int .u32 (f:Int),.int .u8 (c.1:Int),.int .i64 c.2.1,.string (bytesT c.2.2),.slice ka ks.length kcap] 63)=A at *;obtain⟨cy,x0,x1,x2,x3,x4,x5⟩:=HN.o;generalize hT:PT.node op f c ks=T at *;by_cases hd2:(8:Int)<(d:Int)
 ·go_enter func69,ntmps69
  go_wp2_with fail;go_ret
  exact⟨⟨33,rfl,by omega,by omega,λh=>by omega,λ_ h=>by have:=ix.o;omega⟩,by first | exact aL.o | (rw[hA];exact aL.o)⟩
 have HD:jgt (1<=d/\d<=8):=ae ⟨hd0,by omega⟩;go_enter func69,ntmps69
 go_wp2_with fail;try rw[hA]
 go_loopw [5,6] (λs i wr=>∃ k n:Nat,k<=ks.length/\i=.int .i64 (k:Int)/\s=.int .i64 (n:Int)/\1<=n/\n<=65/\((n<=32->n=1+cntAll (ks.take k)/\dpAll (ks.take k)+d<=8)/\(32<n->¬ (1+cntAll ks<=32/\dpAll ks+d<=8)))/\jgu A wr) (λ_ i _=>ks.length-(intOf i).toNat)
 case atStart=>exact⟨0,1,by omega,rfl,rfl,by omega,by omega,⟨λ_=>⟨by simp[cntAll],by simp[dpAll];omega⟩,λh=>by omega⟩,by first | exact jez _ _ | (rw[hA];exact jez _ _)⟩
 case round =>
  obtain⟨k,n,hk,rfl,rfl,Gt,vY,RS,ao⟩:=hrel;have uV:=ae RS;have HB:=ae ao;have bF:=ao.size;have HNW:=ae (HN.o.kept ao);clear RS ao x0 x1 x2 x3 x4 x5;obtain⟨az,x0,x1,x2,x3,x4,x5⟩:=HNW.o;by_cases ar:k<ks.length
  ·have hlt':(k:Int)<(ks.length:Int):=by omega
   by_cases hn4:(n:Int)<33
   ·obtain⟨g,o,rfl,gA⟩:=(GA.o.kept HB.o).at ar
    have HCT:=ae (FU ar);have mH:=ae (VO ks (k+1));have HM:=ae (nh.o ks[k] (jeD ar));generalize ks[k]=kid at *;obtain⟨op1,f1,c1,ks1⟩:=kid;obtain⟨a1,cap1,eX,ec⟩:=gA.open;have HC:=ae (HM.o op1 f1 c1 ks1 rfl wr _ (d+1) (by omega) (by omega) ec);obtain⟨ap,z0,z1,z2,z3,z4,z5⟩:=eX;clear gA ec HM;go_wp2_with fail;refine HC.o.mono ?_;rintro e w2 ⟨⟨m,rfl,CY,vH,hm3,hm4⟩,ap⟩;have Rk:=ae (And.intro hm3 hm4);have aG:=ae (HB.o.trans (ap.mono bF));clear hm3 hm4 ap x0 x1 x2 x3 x4 x5 z0 z1 z2 z3 z4 z5;go_wp2_with fail;go_roundw
    case rel =>
     have h1:=HCT.o;have h2:=mH.o;have h3:=Rk.o;have h4:=uV.o
     exact⟨k+1,n+m,by omega,by go_num,by go_num,by omega,by omega,⟨λh=>by
      have a1:=h3.1 (by omega);have a2:=h4.1 (by omega);omega,λh hh=>by
      have a2:=h4.1 (by omega);by_cases hm:m<=32
      ·have a1:=h3.1 hm
       omega
      ·exact h3.2 (by omega) (by omega)⟩,aG.o⟩
    case measure=>simp[intOf];omega
   ·have q3:(33:Int)<=(n:Int):=by omega
    have zd:min (n:Int) 33=33:=(by omega);by_cases hn5:(n:Int)=33
    ·obtain rfl:n=33:=by omega
     go_wp2_with fail;go_ret
     exact⟨⟨33,rfl,by omega,by omega,λh=>by omega,λ_ h=>by have:=ix.o;have:=uV.o.2 (by omega);omega⟩,ai aL.o HB.o⟩
    ·have q1:((n:Int)==33)=false:=jeF.2 hn5
     have q2:¬ (n:Int)<=33:=(by omega);have q5:(33:Int)<(n:Int):=(by omega);go_wp2_with fail;go_ret
     exact⟨⟨33,rfl,by omega,by omega,λh=>by omega,λ_ h=>by have:=ix.o;have:=uV.o.2 (by omega);omega⟩,ai aL.o HB.o⟩
  ·obtain rfl:k=ks.length:=by omega
   have ed:¬ ((ks.length:Nat):Int)<(ks.length:Int):=(by omega);rw[jeJ]at uV;by_cases hn4:(n:Int)<33
   ·have q1:((n:Int)==33)=false:=jeF.2 (by omega)
    have q2:(n:Int)<=33:=(by omega);have q3:¬ (33:Int)<(n:Int):=(by omega);have q4:¬ (33:Int)<=(n:Int):=(by omega);have zd:min (n:Int) 33=(n:Int):=(by omega);go_wp2_with fail;go_ret
    exact⟨⟨n,rfl,by omega,by omega,λh=>by have:=ix.o;have:=uV.o.1 h;omega,λh=>by omega⟩,ai aL.o HB.o⟩
   ·by_cases hn5:(n:Int)=33
    ·obtain rfl:n=33:=by omega
     go_wp2_with fail;go_ret
     exact⟨⟨33,rfl,by omega,by omega,λh=>by omega,λ_ h=>by have:=ix.o;have:=uV.o.2 (by omega);omega⟩,ai aL.o HB.o⟩
    ·have q1:((n:Int)==33)=false:=jeF.2 hn5
     have q2:¬ (n:Int)<=33:=(by omega);have q3:(33:Int)<(n:Int):=(by omega);have q4:(33:Int)<=(n:Int):=(by omega);have zd:min (n:Int) 33=33:=(by omega);go_wp2_with fail;go_ret
     exact⟨⟨33,rfl,by omega,by omega,λh=>by omega,λ_ h=>by have:=ix.o;have:=uV.o.2 (by omega);omega⟩,ai aL.o HB.o⟩
def crF(op:Nat)(c:Cl)(kd:Nat):Int:=if lz c=1 then 90 else if lz c≠0 then lz c else if c.1≠kd then 10 else if op=4/\c.1≠3 then 10 else 0
def crN(l:List Fd)(op f:Nat)(c:Cl)(n:Nat):Int :=
 if op=0∨8<op then 90
 else if 6<=op then (if f=0/\(c.1=0/\c.2.1=0/\c.2.2=[])/\¬ (op=8/\n≠1) then 0 else 90)
 else if 0<n then 90 else match dV l f with
  | none=>81
  | some j=>if op=5 then (if c.1=0/\c.2.1=0/\c.2.2=[] then 0 else 90) else crF op c (iS l j)
 mutual
def crM(l:List Fd):PT->Int
 | .node op f c ks=>if crN l op f c ks.length≠0 then crN l op f c ks.length else crAll l ks
def crAll(l:List Fd):List PT->Int
 | []=>0
 | k::ks=>if crM l k≠0 then crM l k else crAll l ks
 end
def KS{l:List Fd}{ks:List PT}{i:Nat}(h:i<ks.length):crAll l (ks.drop i)=if crM l ks[i]≠0 then crM l ks[i] else crAll l (ks.drop (i+1)):=by
 rw[je8 h];simp only[crAll]
def Qz{l:List Fd}{ks:List PT}:crAll l (ks.drop ks.length)=0:=by rw[jfg];simp only[crAll]
def mG{cs:List Nat}(h:cs≠[]):((bytesT cs).toList==(⟨#[]⟩:ByteArray).toList)=false/\(bytesT cs).toList.isEmpty=false/\bytesT cs≠⟨#[]⟩:=by
 have e0:(⟨#[]⟩:ByteArray).toList=[]:=by rw[ByteArray.toList_eq]
 have e1:(bytesT cs).toList≠[]:=by
  rw[dE];intro e;exact h (List.map_eq_nil_iff.1 e)
 refine⟨?_,?_,?_⟩
 ·rw[e0,jeF];exact e1
 ·cases hq:(bytesT cs).toList with
  | nil=>exact absurd hq e1
  | cons a l=>rfl
 ·intro e;rw[e,e0]at e1;exact e1 rfl
def QA{si:Nat}{fv:Value}{l:List Fd}(t:PT):∀(op f:Nat) (c:Cl) (ks:List PT),t=.node op f c ks->Okp t->∀(w:World) (kv:Value),Sf w fv l->eF w kv ks ->
  Calls prog 70 #[.agg #[.int .u8 (op:Int),.int .u32 (f:Int),.int .u8 (c.1:Int),.int .i64 c.2.1,.string (bytesT c.2.2),kv],.agg #[.int .u32 (si:Int),fv]] w λe w'=>e=.returned (.int .i64 (crM l t))/\jgu w w':=by
 refine PT.ind (P:=λt=>∀(op f:Nat) (c:Cl) (ks:List PT),t=.node op f c ks->Okp t->∀(w:World) (kv:Value),Sf w fv l->eF w kv ks->Calls prog 70 #[.agg #[.int .u8 (op:Int),.int .u32 (f:Int),.int .u8 (c.1:Int),.int .i64 c.2.1,.string (bytesT c.2.2),kv],.agg #[.int .u32 (si:Int),fv]] w λe w'=>e=.returned (.int .i64 (crM l t))/\jgu w w') (λop f c ks ih op' f' c' ks' he dD w kv hs hk=>?_) t;simp only[PT.node.injEq]at he;obtain⟨rfl,rfl,rfl,rfl⟩:=he;have nh:=ae ih;have HK:=ae hk;have HS:=ae hs;simp only[Okp]at dD;obtain⟨_,_,mJ,iv⟩:=dD;have mZ:=ae iv.get;obtain⟨ka,kcap,rfl,Lh,mj⟩:=hk.form;obtain⟨fa,fcap,rfl,_,_⟩:=hs.form;have hkm':ks.length<=9223372036854775807:=by unfold maxLen at mj;omega
 clear hk hs ih mj iv;have hn:=fE w op f c (.slice ka ks.length kcap);have az:=aj w (.cells #[.int .u8 (op:Int),.int .u32 (f:Int),.int .u8 (c.1:Int),.int .i64 c.2.1,.string (bytesT c.2.2),.slice ka ks.length kcap] 63);have hsA:(w.alloc (.cells #[.int .u8 (op:Int),.int .u32 (f:Int),.int .u8 (c.1:Int),.int .i64 c.2.1,.string (bytesT c.2.2),.slice ka ks.length kcap] 63)).heap.size=w.heap.size+1:=jeB _ _;generalize hA:w.alloc (.cells #[.int .u8 (op:Int),.int .u32 (f:Int),.int .u8 (c.1:Int),.int .i64 c.2.1,.string (bytesT c.2.2),.slice ka ks.length kcap] 63)=A at *;have ap:=aj A (.cells #[.int .u32 (si:Int),.slice fa l.length fcap] 25);obtain⟨e0,e1⟩:=aS A (.int .u32 (si:Int)) (.slice fa l.length fcap) 25;have hsB:(A.alloc (.cells #[.int .u32 (si:Int),.slice fa l.length fcap] 25)).heap.size=A.heap.size+1:=jeB _ _;rw[hsA]at e0 e1 hsB;have cN:jgt (jgu w (A.alloc (.cells #[.int .u32 (si:Int),.slice fa l.length fcap] 25))):=ae (ai az ap);have HN:=ae (hn.kept ap);have jD:=ae hsA;generalize hB:A.alloc (.cells #[.int .u32 (si:Int),.slice fa l.length fcap] 25)=Z at *;have wg:=ae (HK.o.kept cN.o);have uU:=ae (HS.o.kept cN.o);have hz:w.heap.size+1<Z.heap.size:=by omega
 clear hn az ap hsB hsA;obtain⟨cy,x0,x1,x2,x3,x4,x5⟩:=HN.o;have HD:jgt (crM l (.node op f c ks)=if crN l op f c ks.length≠0 then crN l op f c ks.length else crAll l ks):=ae (by simp only[crM]);generalize crM l (.node op f c ks)=R at *;obtain⟨cd,fW⟩:∃ cd,cd=crN l op f c ks.length:=⟨_,rfl⟩;rw[<- fW]at HD;unfold crN at fW;by_cases jdD:op=0∨8<op
 ·rw[jey jdD]at fW
  rcases jdD with rfl | h8
  ·have q0:True:=trivial
   rw[jey (show cd≠0 by omega)]at HD;clear wg nh;go_enter func70,ntmps70
   go_wp2_with fail;go_ret
   rw[HD.o,fW];exact⟨rfl,by first | exact cN.o | (subst hB;subst hA;exact cN.o)⟩
  ·have q0:((op:Int)==0)=false:=jeF.2 (by omega)
   have q1:(8:Int)<(op:Int):=(by omega);rw[jey (show cd≠0 by omega)]at HD;clear wg nh;go_enter func70,ntmps70
   go_wp2_with fail;go_ret
   rw[HD.o,fW];exact⟨rfl,by first | exact cN.o | (subst hB;subst hA;exact cN.o)⟩
 rw[jex jdD]at fW;have q0:((op:Int)==0)=false:=jeF.2 (by omega);have q1:¬ (8:Int)<(op:Int):=by omega
 by_cases h6:6<=op
 ·rw[jey h6]at fW
  have q6:(6:Int)<=(op:Int):=by omega
  by_cases hf:f=0
  case neg =>
   rw[jex (λh=>hf h.1)]at fW;have qf:((f:Int)==0)=false:=jeF.2 (by omega);rw[jey (show cd≠0 by omega)]at HD;clear wg nh;go_enter func70,ntmps70
   go_wp2_with fail;go_ret
   rw[HD.o,fW];exact⟨rfl,by first | exact cN.o | (subst hB;subst hA;exact cN.o)⟩
  subst hf;by_cases ju:c.1=0
  case neg =>
   rw[jex (λh=>ju h.2.1.1)]at fW;have qf:((c.1:Int)==0)=false:=jeF.2 (by omega);rw[jey (show cd≠0 by omega)]at HD;clear wg nh;go_enter func70,ntmps70
   go_wp2_with fail;go_ret
   rw[HD.o,fW];exact⟨rfl,by first | exact cN.o | (subst hB;subst hA;exact cN.o)⟩
  obtain⟨ck,cn,cs⟩:=c;simp only at ju fW HN x0 x1 x2 x3 x4 x5;subst ju;by_cases jv:cn=0
  case neg =>
   rw[jex (λh=>jv h.2.1.2.1)]at fW;have qf:(cn==0)=false:=jeF.2 jv;rw[jey (show cd≠0 by omega)]at HD;clear wg nh;go_enter func70,ntmps70
   go_wp2_with fail;go_ret
   rw[HD.o,fW];exact⟨rfl,by first | exact cN.o | (subst hB;subst hA;exact cN.o)⟩
  subst jv;by_cases Gx:cs=[]
  case neg =>
   rw[jex (λh=>Gx h.2.1.2.2)]at fW;obtain⟨qa,qb,qd⟩:=mG Gx;generalize bytesT cs=S at *;rw[jey (show cd≠0 by omega)]at HD;clear wg nh;go_enter func70,ntmps70
   go_wp2_with fail;go_ret
   rw[HD.o,fW];exact⟨rfl,by first | exact cN.o | (subst hB;subst hA;exact cN.o)⟩
  subst Gx;have hbe:bytesT []=⟨#[]⟩:=rfl;by_cases h81:op=8/\ks.length≠1
  ·rw[jex (λh=>h.2.2 h81)]at fW
   rw[hbe]at *;obtain⟨rfl,Gt⟩:=h81;have qf:((ks.length:Int)==1)=false:=jeF.2 (by omega);rw[jey (show cd≠0 by omega)]at HD;clear wg nh;go_enter func70,ntmps70
   go_wp2_with fail;go_ret
   rw[HD.o,fW];exact⟨rfl,by first | exact cN.o | (subst hB;subst hA;exact cN.o)⟩
  replace fW:cd=0:=by
   rw[fW];exact jey (by refine⟨?_,?_,h81⟩<;>simp)
  rw[hbe]at *;rw[jex (by omega)]at HD;have HD':jgt (R=crAll l (ks.drop 0)):=HD;clear HD;go_enter func70,ntmps70
  go_upto_region 4 with fail
  go_cut [51] from 127 (λv wx=>v=.bool false/\wx=Z)
  case first =>
   by_cases h8:op=8
   ·subst h8
    have yp:ks.length=1:=(by omega);have qf:((ks.length:Int)==1)=true:=by rw[yp];rfl
    have qg:((ks.length:Int) != 1)=false:=by rw[yp];rfl
    clear yp;go_wp2_with fail;go_meet
    (refine⟨?_,?_⟩<;>first | rfl | (subst hB;subst hA;rfl))
   ·have qf:((op:Int)==8)=false:=jeF.2 (by omega)
    go_wp2_with fail;go_meet
    (refine⟨?_,?_⟩<;>first | rfl | (subst hB;subst hA;rfl))
  case rest =>
  obtain⟨rfl,hwc⟩:=hcut;rw[hwc];go_wp2_with fail;clear x0 x1 x2 x3 x4;go_loopw [5] (λi wr=>∃ k:Nat,k<=ks.length/\i=.int .i64 (k:Int)/\R=crAll l (ks.drop k)/\jgu Z wr) (λi _=>ks.length-(intOf i).toNat)
  case atStart=>exact⟨0,by omega,rfl,HD'.o,jez _ _⟩
  case round =>
   obtain⟨k,hk,rfl,fR,ao⟩:=hrel;have HF:=ae fR;have HB:=ae ao;have bF:=ao.size;have x5r:=(ao.cell (p:=⟨w.heap.size,0+5,none⟩) cy).trans x5;clear fR ao HD' x5;by_cases ar:k<ks.length
   ·have iz:=ai cN.o HB.o
    obtain⟨g,o,rfl,gA⟩:=(wg.o.kept HB.o).at ar;have hlt':(k:Int)<(ks.length:Int):=(by omega);have HT:=ae (HF.o.trans (KS ar));have sg:=ae (uU.o.kept HB.o);have HM:=ae (nh.o ks[k] (jeD ar));have XU:=ae (mZ.o ks[k] (jeD ar));generalize ks[k]=kid at *;obtain⟨op1,f1,c1,ks1⟩:=kid;obtain⟨a1,cap1,eX,ec⟩:=gA.open;have Rh:=ae ec;have lE:=ae (λ(U:World) (hU:jgu wr U)=>HM.o op1 f1 c1 ks1 rfl XU.o U _ (sg.o.kept hU) (Rh.o.kept hU));have me:=ae eX;generalize crM l (.node op1 f1 c1 ks1)=ev at *;clear gA HF eX ec iz;have CK:∀ s:aB (λx=>jgu wr x),s.w.cell? ⟨w.heap.size+1,0,none⟩=some (.int .u32 (si:Int)):=λs=>(s.ok.cell (p:=⟨w.heap.size+1,0,none⟩) (show w.heap.size+1<_ by omega)).trans ((HB.o.cell (p:=⟨w.heap.size+1,0,none⟩) hz).trans e0)
    have mh:∀ s:aB (λx=>jgu wr x),s.w.cell? ⟨w.heap.size+1,1,none⟩=some (.slice fa l.length fcap):=λs=>(s.ok.cell (p:=⟨w.heap.size+1,1,none⟩) (show w.heap.size+1<_ by omega)).trans ((HB.o.cell (p:=⟨w.heap.size+1,1,none⟩) hz).trans e1)
    have qt:∀ s:aB (λx=>jgu wr x),s.w.cell? ⟨w.heap.size,0+5,none⟩=some (.slice (some ⟨g,o,none⟩) ks.length kcap):=λs=>(s.ok.cell (p:=⟨w.heap.size,0+5,none⟩) (show w.heap.size<_ by omega)).trans x5r
    have bR:∀ s:aB (λx=>jgu wr x),s.w.cell? ⟨g,o+k*6,none⟩=some (.int .u8 (op1:Int)):=λs=>(me.o.kept s.ok).2.1
    have bW:∀ s:aB (λx=>jgu wr x),s.w.cell? ⟨g,o+k*6+1,none⟩=some (.int .u32 (f1:Int)):=λs=>(me.o.kept s.ok).2.2.1
    have aX:∀ s:aB (λx=>jgu wr x),s.w.cell? ⟨g,o+k*6+2,none⟩=some (.int .u8 (c1.1:Int)):=λs=>(me.o.kept s.ok).2.2.2.1
    have gy:∀ s:aB (λx=>jgu wr x),s.w.cell? ⟨g,o+k*6+3,none⟩=some (.int .i64 c1.2.1):=λs=>(me.o.kept s.ok).2.2.2.2.1
    have se:∀ s:aB (λx=>jgu wr x),s.w.cell? ⟨g,o+k*6+4,none⟩=some (.string (bytesT c1.2.2)):=λs=>(me.o.kept s.ok).2.2.2.2.2.1
    have sk:∀ s:aB (λx=>jgu wr x),s.w.cell? ⟨g,o+k*6+5,none⟩=some (.slice a1 ks1.length cap1):=λs=>(me.o.kept s.ok).2.2.2.2.2.2
    haveI:Nonempty (aB (λx=>jgu wr x)):=⟨aB.mk wr (jez _ _)⟩
    go_wp2_with fail;clear x5r;refine aP (S:=λx=>jgu wr x) (by kernel_rfl) (by kernel_rfl) (jez _ _).drew ?_;repeat (go_big_quiet_step ((go_at_call 70;exact(lE.o _ (aB.ok _)).mono (λe w' h=>⟨h.1,aB.mk w' (ai (aB.ok _) h.2),rfl⟩))))
    refine wpQuiet_nil ?_;rintro _ ⟨s3,rfl⟩;obtain⟨w3,Dl⟩:∃ x,x=s3.w:=⟨_,rfl⟩;have aJ:=s3.ok;rw[<- Dl]at aJ ⊢;have aY:=ae (HB.o.trans (aJ.mono bF));clear Dl aJ CK mh qt bR bW aX gy se sk;by_cases hv:ev=0
    ·subst hv
     rw[jex (by simp)]at HT;go_wp2_with fail;go_roundw
     case rel=>exact⟨k+1,by omega,by go_num,HT.o,aY.o⟩
     case measure=>simp[intOf];omega
    ·rw[jey hv]at HT
     have hv':(ev != 0)=true:=by simpa using hv
     clear hv;go_wp2_with fail;go_ret
     rw[HT.o];exact⟨rfl,ai cN.o aY.o⟩
   ·obtain rfl:k=ks.length:=by omega
    have ed:¬ ((ks.length:Nat):Int)<(ks.length:Int):=(by omega);have HT:=ae (HF.o.trans Qz);clear HF;go_wp2_with fail;go_ret
    rw[HT.o];exact⟨rfl,ai cN.o HB.o⟩
 rw[jex h6]at fW;have q6:¬ (6:Int)<=(op:Int):=by omega
 by_cases mY:0<ks.length
 ·rw[jey mY]at fW
  have qn:(0:Int)<(ks.length:Int):=by omega
  rw[jey (show cd≠0 by omega)]at HD;clear wg nh;go_enter func70,ntmps70
  go_wp2_with fail;go_ret
  rw[HD.o,fW];exact⟨rfl,by first | exact cN.o | (subst hB;subst hA;exact cN.o)⟩
 rw[jex mY]at fW;have vL:ks=[]:=jeW (by omega)
 have na:jgt (R=cd):=ae (by
  rw[HD.o];by_cases h:cd=0
  ·rw[jex (by omega),h,vL];rfl
  ·rw[jey h])
 have qn:¬ (0:Int)<(ks.length:Int):=by omega
 clear vL;have kS:=ae (mC uU.o si f);clear HD nh wg mZ mY;cases hp:dV l f with
 | none =>
  rw[hp]at fW kS;simp only[plz]at kS;subst hB;subst hA;go_enter func70,ntmps70
  go_wp2_with fail;refine kS.o.mono ?_;rintro e w2 ⟨rfl,ap⟩;have aG:=ae (ai cN.o ap);clear ap;go_wp2_with fail;go_ret
  rw[na.o,fW];exact⟨rfl,aG.o⟩
 | some j =>
  have hj:=wm hp;rw[hp]at fW kS;simp only[plz]at kS fW;have hjn:¬ (j:Int)<0:=by omega
  have hj':(j:Int)<(l.length:Int):=by omega
  have AO:=ae mJ;by_cases h5:op=5
  ·subst h5
   rw[jey rfl]at fW;obtain⟨ck,cn,cs⟩:=c;simp only at fW HN x2 x3 x4 AO;by_cases ju:ck=0
   case neg =>
    rw[jex (λh=>ju h.1)]at fW;have qf:((ck:Int)==0)=false:=jeF.2 (by omega);subst hB;subst hA;go_enter func70,ntmps70
    go_wp2_with fail;refine kS.o.mono ?_;rintro e w2 ⟨rfl,ap⟩;have aG:=ae (ai cN.o ap);have mV:=ae (HN.o.kept ap);clear ap x0 x1 x2 x3 x4 x5;obtain⟨hb0',x0,x1,x2,x3,x4,x5⟩:=mV.o;simp only at x2 x3 x4;go_wp2_with fail;go_ret
    rw[na.o,fW];exact⟨rfl,aG.o⟩
   subst ju;by_cases jv:cn=0
   case neg =>
    rw[jex (λh=>jv h.2.1)]at fW;have qf:(cn==0)=false:=jeF.2 jv;subst hB;subst hA;go_enter func70,ntmps70
    go_wp2_with fail;refine kS.o.mono ?_;rintro e w2 ⟨rfl,ap⟩;have aG:=ae (ai cN.o ap);have mV:=ae (HN.o.kept ap);clear ap x0 x1 x2 x3 x4 x5;obtain⟨hb0',x0,x1,x2,x3,x4,x5⟩:=mV.o;simp only at x2 x3 x4;go_wp2_with fail;go_ret
    rw[na.o,fW];exact⟨rfl,aG.o⟩
   subst jv;by_cases Gx:cs=[]
   case neg =>
    rw[jex (λh=>Gx h.2.2)]at fW;obtain⟨qa,qb,qd⟩:=mG Gx;subst hB;subst hA;go_enter func70,ntmps70
    go_wp2_with fail;refine kS.o.mono ?_;rintro e w2 ⟨rfl,ap⟩;have aG:=ae (ai cN.o ap);have mV:=ae (HN.o.kept ap);clear ap x0 x1 x2 x3 x4 x5;obtain⟨hb0',x0,x1,x2,x3,x4,x5⟩:=mV.o;simp only at x2 x3 x4;go_wp2_with fail;go_ret
    rw[na.o,fW];exact⟨rfl,aG.o⟩
   subst Gx
   replace fW:cd=0:=by
    rw[fW];exact jey (by refine⟨?_,?_,?_⟩<;>simp)
   have hbe:bytesT []=⟨#[]⟩:=rfl;subst hB;subst hA;go_enter func70,ntmps70
   go_wp2_with fail;refine kS.o.mono ?_;rintro e w2 ⟨rfl,ap⟩;have aG:=ae (ai cN.o ap);have mV:=ae (HN.o.kept ap);clear ap x0 x1 x2 x3 x4 x5;obtain⟨hb0',x0,x1,x2,x3,x4,x5⟩:=mV.o;simp only at x2 x3 x4;go_wp2_with fail;go_ret
   rw[na.o,fW];exact⟨rfl,aG.o⟩
  rw[jex h5]at fW;have q5:((op:Int)==5)=false:=jeF.2 (by omega);have hka:iS l j=l[j].2.2.1:=by unfold iS;rw[List.getElem?_eq_getElem hj]
  rw[hka]at fW;have HCH:=ae (λW=>sN (c.1:Int) c.2.1 (bytesT c.2.2) (by omega) W);have fR:lz c=flt (c.1:Int) c.2.1 (bytesT c.2.2):=rfl;obtain⟨fl,eI⟩:∃ fl,fl=flt (c.1:Int) c.2.1 (bytesT c.2.2):=⟨_,rfl⟩;unfold crF at fW;rw[fR,<- eI]at fW;rw[<- eI]at HCH;have HCD:=ae fW;clear eI fR hka hp h5 fW mJ;subst hB;subst hA;go_enter func70,ntmps70
  go_wp2_with fail;refine kS.o.mono ?_;rintro e w2 ⟨rfl,ap⟩;have aG:=ae (ai cN.o ap);have mV:=ae (HN.o.kept ap);have fJ:=ae (uU.o.kept ap);have g1:=(ap.cell (p:=⟨w.heap.size+1,1,none⟩) hz).trans e1;have sp:=ap.size;clear ap x0 x1 x2 x3 x4 x5 e0 e1 kS;obtain⟨hb0',x0,x1,x2,x3,x4,x5⟩:=mV.o;go_wp2_with fail;refine(HCH.o _).mono ?_;rintro e w3 ⟨rfl,aJ⟩;have aY:=ae (ai aG.o aJ);have uV:=ae (mV.o.kept aJ);have g2:=(aJ.cell (p:=⟨w.heap.size+1,1,none⟩) (show w.heap.size+1<_ by omega)).trans g1;obtain⟨gb,goff,rfl,GR,y0,y1,y2,y3⟩:=(fJ.o.kept aJ).at hj;clear aJ x0 x1 x2 x3 x4 x5 g1 y0 y1 y3 fJ HS uU mV HN;obtain⟨hb0'',x0,x1,x2,x3,x4,x5⟩:=uV.o;generalize l[j].2.2.1=kd at *;by_cases h1:fl=1
  ·subst h1
   have fW:=HCD.o;rw[jey rfl]at fW;go_wp2_with fail;go_ret
   rw[na.o,fW];exact⟨rfl,by first | exact aY.o | exact ak aY.o _ | exact aY.o.drew⟩
  have q1:(fl==1)=false:=jeF.2 h1;by_cases h0:fl=0
  case neg =>
   have fW:=HCD.o;rw[jex h1,jey h0]at fW;have q0:(fl==0)=false:=jeF.2 h0;have q00:(fl != 0)=true:=by simpa using h0
   clear h1 h0;go_wp2_with fail;go_ret
   rw[na.o,fW];exact⟨rfl,by first | exact aY.o | exact ak aY.o _ | exact aY.o.drew⟩
  subst h0;have fW:=HCD.o;rw[jex h1,jex (by simp)]at fW;clear h1;obtain⟨ck,cn,cs⟩:=c;simp only at fW x2 x3 x4;by_cases GM:ck=kd
  case neg =>
   rw[jey GM]at fW;have q2:((ck:Int)==(kd:Int))=false:=jeF.2 (by omega);have q3:((ck:Int) != (kd:Int))=true:=by simp[q2,bne]
   have CR:=ae fW;clear fW GM;go_upto_region 27 with fail
   go_quiet (fail)
   go_wp2_with fail;go_ret
   rw[na.o,CR.o];exact⟨rfl,by first | exact aY.o | exact ak aY.o _ | exact aY.o.drew⟩
  subst GM;rw[jex (by simp)]at fW;by_cases h4:op=4
  ·subst h4
   by_cases h3:ck=3
   ·subst h3
    rw[jex (by omega)]at fW;have CR:=ae fW;clear fW;go_upto_region 27 with fail
    go_quiet (fail)
    go_wp2_with fail;go_ret
    rw[na.o,CR.o];exact⟨rfl,by first | exact aY.o | exact ak aY.o _ | exact aY.o.drew⟩
   ·rw[jey ⟨rfl,h3⟩]at fW
    have q3:((ck:Int)==3)=false:=jeF.2 (by omega);have q4:((ck:Int) != 3)=true:=by simp[q3,bne]
    have CR:=ae fW;clear fW h3;go_upto_region 27 with fail
    go_quiet (fail)
    go_wp2_with fail;go_ret
    rw[na.o,CR.o];exact⟨rfl,by first | exact aY.o | exact ak aY.o _ | exact aY.o.drew⟩
  ·rw[jex (λh=>h4 h.1)]at fW
   have q4:((op:Int)==4)=false:=jeF.2 (by omega);have CR:=ae fW;clear fW h4;go_upto_region 27 with fail
   go_quiet (fail)
   go_wp2_with fail;go_ret
   rw[na.o,CR.o];exact⟨rfl,by first | exact aY.o | exact ak aY.o _ | exact aY.o.drew⟩
def kN(l:List Fd)(t:PT):Int:=if lY t<=32/\dpM t<=8 then crM l t else 90
def pn{w:World}{op f si:Nat}{c:Cl}{ks:List PT}{kv fv:Value}{l:List Fd}(hk:eF w kv ks)(dD:Okp (.node op f c ks))(hs:Sf w fv l) :
  Calls prog 30 #[.agg #[.int .u8 (op:Int),.int .u32 (f:Int),.int .u8 (c.1:Int),.int .i64 c.2.1,.string (bytesT c.2.2),kv],.agg #[.int .u32 (si:Int),fv]] w λe w'=>e=.returned (.int .i64 (kN l (.node op f c ks)))/\jgu w w':=by
 have HK:=ae hk;have HS:=ae hs;have HO:=ae dD;obtain⟨ka,kcap,rfl,_,_⟩:=hk.form;obtain⟨fa,fcap,rfl,_,_⟩:=hs.form;clear hk hs dD;have hn:=fE w op f c (.slice ka ks.length kcap);have az:=aj w (.cells #[.int .u8 (op:Int),.int .u32 (f:Int),.int .u8 (c.1:Int),.int .i64 c.2.1,.string (bytesT c.2.2),.slice ka ks.length kcap] 63);have hsA:(w.alloc (.cells #[.int .u8 (op:Int),.int .u32 (f:Int),.int .u8 (c.1:Int),.int .i64 c.2.1,.string (bytesT c.2.2),.slice ka ks.length kcap] 63)).heap.size=w.heap.size+1:=jeB _ _;have ap:=aj (w.alloc (.cells #[.int .u8 (op:Int),.int .u32 (f:Int),.int .u8 (c.1:Int),.int .i64 c.2.1,.string (bytesT c.2.2),.slice ka ks.length kcap] 63)) (.cells #[.int .u32 (si:Int),.slice fa l.length fcap] 25);obtain⟨e0,e1⟩:=aS (w.alloc (.cells #[.int .u8 (op:Int),.int .u32 (f:Int),.int .u8 (c.1:Int),.int .i64 c.2.1,.string (bytesT c.2.2),.slice ka ks.length kcap] 63)) (.int .u32 (si:Int)) (.slice fa l.length fcap) 25;have hsB:((w.alloc (.cells #[.int .u8 (op:Int),.int .u32 (f:Int),.int .u8 (c.1:Int),.int .i64 c.2.1,.string (bytesT c.2.2),.slice ka ks.length kcap] 63)).alloc (.cells #[.int .u32 (si:Int),.slice fa l.length fcap] 25)).heap.size=w.heap.size+1+1:=by rw[jeB,jeB]
 rw[hsA]at e0 e1;have cN:=ae (ai az ap);have HN:=ae (hn.kept ap);have wg:=ae (HK.o.kept cN.o);have uU:=ae (HS.o.kept cN.o);obtain⟨cy,x0,x1,x2,x3,x4,x5⟩:=HN.o;have oM:=ae (VQ (.node op f c ks) op f c ks rfl _ _ 1 (by omega) (by omega) wg.o);have Ri:=ae e0;have Di:=ae e1;have HHB:=ae hsB;clear hn az ap hsA e0 e1 hsB;go_enter func30,ntmps30
 go_wp2_with fail;refine oM.o.mono ?_;rintro e w2 ⟨⟨n,rfl,Gt,vY,RS,hn4⟩,ap⟩;have uV:=ae RS;have HN4:=ae hn4;have aG:=ae (ai cN.o ap);have mV:=ae (HN.o.kept ap);have HK2:=ae (wg.o.kept ap);have fJ:=ae (uU.o.kept ap);have g0:=(ap.cell (p:=⟨w.heap.size+1,0,none⟩) (show w.heap.size+1<_ by rw[HHB.o];omega)).trans Ri.o;have g1:=(ap.cell (p:=⟨w.heap.size+1,1,none⟩) (show w.heap.size+1<_ by rw[HHB.o];omega)).trans Di.o;clear RS hn4 ap x0 x1 x2 x3 x4 x5 cy oM;by_cases h32:n<=32
 ·have oT:¬ (32:Int)<(n:Int):=by omega
  have HR:=ae (QA (si:=si) (.node op f c ks) op f c ks rfl HO.o w2 _ fJ.o HK2.o)
  have HM:jgt (kN l (.node op f c ks)=crM l (.node op f c ks)):=ae (by
   have:=uV.o h32;unfold kN;rw[jey (by omega)])
  obtain⟨cy,x0,x1,x2,x3,x4,x5⟩:=mV.o;go_wp2_with fail;refine HR.o.mono ?_;rintro e w3 ⟨rfl,aJ⟩;have aY:=ae (ai aG.o aJ);clear aJ;go_wp2_with fail;go_ret
  rw[HM.o];exact⟨rfl,aY.o⟩
 ·have ar:(32:Int)<(n:Int):=by omega
  have HM:jgt (kN l (.node op f c ks)=90):=ae (by
   have:=HN4.o (by omega);unfold kN;rw[jex (by omega)])
  go_wp2_with fail;go_ret
  rw[HM.o];exact⟨rfl,aG.o⟩
def ZK:lz nul=0:=by
 show flt 0 0 (bytesT [])=0
 have hbe:bytesT []=⟨#[]⟩:=rfl;rw[hbe];decide +kernel
def QB{c:Cl}(h:lz c=0)(h0:c.1=0):c.2.1=0/\c.2.2=[]:=by
 unfold lz at h;rcases qD (by omega) h with ⟨_,h2,h3⟩ | ⟨h1,_⟩ | ⟨h1,_⟩ | ⟨h1,_⟩ | ⟨h1,_⟩
 ·refine⟨h2,?_⟩
  apply Classical.byContradiction
  intro hc;exact(mG hc).2.2 h3
 all_goals omega
def jcB{c:Cl}(h:c.1=0/\c.2.1=0/\c.2.2=[]):c=nul:=by
 obtain⟨a,b,d⟩:=c;obtain⟨h1,h2,h3⟩:=h;simp only at h1 h2 h3;rw[h1,h2,h3];rfl
def KT(cs:List Nat):(bytesT cs).toList.isEmpty=true↔cs=[]:=by
 constructor
 ·intro h
  apply Classical.byContradiction
  intro hc;rw[(mG hc).2.1]at h;cases h
 ·rintro rfl
  have e0:(⟨#[]⟩:ByteArray).toList=[]:=by rw[ByteArray.toList_eq]
  show (⟨#[]⟩:ByteArray).toList.isEmpty=true
  rw[e0];rfl
def QC{l:List Fd}(hl:∀ f∈l,1<=f.2.2.1)(op f:Nat)(c:Cl)(n:Nat):kL l op f c n=0↔crN l op f c n=0:=by
 unfold kL crN;by_cases h15:1<=op/\op<=5
 ·rw[jey h15,jex (by omega),jex (by omega)]
  unfold ffM;by_cases hn:0<n
  ·rw[jey hn,jey hn]
  ·rw[jex hn,jex hn]
   cases hp:dV l f with
   | none=>simp
   | some j =>
    have hj:=wm hp
    have vZ:1<=iS l j:=by
     unfold iS;rw[List.getElem?_eq_getElem hj];exact hl _ (jeD hj)
    simp only;by_cases h5:op=5
    ·subst h5
     rw[jey rfl];unfold fvM;rw[jey rfl];by_cases hc:c.1=0/\c.2.1=0/\c.2.2=[]
     ·rw[jey hc,jcB hc,ZK,jey rfl]
      simp[nul]
     ·rw[jex hc]
      refine⟨λh=>?_,λh=>by omega⟩;by_cases hf:lz c=0
      ·rw[jey hf]at h
       by_cases h0:c.1=0
       ·exact absurd ⟨h0,QB hf h0⟩ hc
       ·rw[jex h0]at h;omega
      ·rw[jex hf]at h
       split at h<;>omega
    ·rw[jex h5]
     unfold fvM crF;rw[jex h5];by_cases hf:lz c=0
     ·rw[jey hf,jex (show ¬ lz c=1 by omega),jex (show ¬ lz c≠0 by omega)]
      by_cases h0:c.1=0
      ·rw[jey h0,jey (show c.1≠iS l j by omega)]
      ·rw[jex h0]
       by_cases hk:c.1=iS l j
       ·rw[jex (show ¬ c.1≠iS l j by omega),jex (show ¬ c.1≠iS l j by omega),hk]
       ·rw[jey hk,jey hk]
     ·rw[jex hf]
      by_cases h1:lz c=1
      ·rw[jey h1,jey h1]
      ·rw[jex h1,jex h1,jey hf]
 ·rw[jex h15]
  by_cases h68:6<=op/\op<=8
  ·rw[jey h68,jex (by omega),jey h68.1]
   unfold fkM;have hse:((bytesT c.2.2).toList.isEmpty=true)=(c.2.2=[]):=propext (KT _);simp only[hse];by_cases hf:f=0
   ·rw[jex (by omega)]
    by_cases hc:c.1=0/\c.2.1=0/\c.2.2=[]
    ·rw[jex (λh=>h hc)]
     by_cases h8:op=8/\n≠1
     ·rw[jey h8,jex (λh=>h.2.2 h8)]
     ·rw[jex h8,jey ⟨hf,hc,h8⟩]
    ·rw[jey hc,jex (λh=>hc h.2.1)]
   ·rw[jey hf,jex (λh=>hf h.1)]
  ·rw[jex h68,jey (by omega)]
def FX{l:List Fd}:∀{ks:List PT},(∀ k∈ks,eV l k=0↔crM l k=0)->(firstAll l ks=0↔crAll l ks=0)
 | [],_=>by simp[firstAll,crAll]
 | k::ks,h=>by
  have h1:=h k (by simp);have h2:=FX (ks:=ks) (λx hx=>h x (by simp[hx]));simp only[firstAll,crAll];by_cases ha:eV l k=0
  ·rw[jex (by omega),jex (λe=>e (h1.1 ha))]
   exact h2
  ·rw[jey ha,jey (λe=>ha (h1.2 e))]
   exact h1
def QD{l:List Fd}(hl:∀ f∈l,1<=f.2.2.1)(t:PT):eV l t=0↔crM l t=0:=by
 refine PT.ind (P:=λt=>eV l t=0↔crM l t=0) (λop f c ks ih=>?_) t;have h1:=QC hl op f c ks.length;have h2:=FX ih;simp only[eV,crM];by_cases ha:kL l op f c ks.length=0
 ·rw[jex (by omega),jex (λe=>e (h1.1 ha))]
  exact h2
 ·rw[jey ha,jey (λe=>ha (h1.2 e))]
  exact h1
def QE{l:List Fd}(hl:∀ f∈l,1<=f.2.2.1)(t:PT):yU l t=0↔kN l t=0:=by
 unfold yU kN;split
 ·exact QD hl t
 ·simp
def VR(k n:Int)(s:ByteArray)(k' n':Int)(s':ByteArray)(w:World):(binOp .eql 52 (.agg #[.int .u8 k,.int .i64 n,.string s]) (.agg #[.int .u8 k',.int .i64 n',.string s'])).run prog w=.ok (.bool (decide (cv k n s k' n' s'=0))) w:=by
 by_cases h:cv k n s k' n' s'=0
 ·obtain⟨rfl,rfl,rfl⟩:=(rh _ _ _ _ _ _).1 h
  rw[jeP h];simp[go_sem]
 ·rw[jeM h]
  have h2:¬ (k=k'/\n=n'/\s=s'):=λe=>h ((rh _ _ _ _ _ _).2 e)
  by_cases h3:k=k'
  ·subst h3
   by_cases h4:n=n'
   ·subst h4
    have h5:¬ s=s':=λe=>h2 ⟨rfl,rfl,e⟩
    have h6:¬ s.toList=s'.toList:=λe=>h5 (by
     rw[ByteArray.toList_eq,ByteArray.toList_eq]at e;cases s
     cases s'
     congr 1
     exact Array.toList_inj.1 e)
    simp[go_sem,h6]
   ·simp[go_sem,h4]
  ·simp[go_sem,h3]
def BR(m:Nat)(f:Nat->Bool):List Value:=(List.range (m+1)).map λt=>Value.bool (f t)
def VS{m:Nat}{f g:Nat->Bool}(h:∀ t,t<=m->f t=g t):BR m f=BR m g:=by
 unfold BR;apply jfy
 intro t ht;rw[h t (by simp at ht;omega)]
def CB{m t:Nat}{f:Nat->Bool}(h:t<=m):(BR m f)[t]?=some (.bool (f t)):=by
 simp[BR,show t<m+1 by omega]
def lZ(m:Nat)(f:Nat->Bool):(BR m f).length=m+1:=by simp[BR]
def jcC{m i:Nat}{f:Nat->Bool}(b:Bool)(h:i<=m):(BR m f).set i (.bool b)=BR m (λt=>if t=i then b else f t):=by
 apply List.ext_getElem?
 intro t;rw[List.getElem?_set];by_cases ht:t<=m
 ·rw[CB ht,CB ht]
  by_cases hi:i=t
  ·subst hi;simp[lZ];omega
  ·rw[jex hi,jex (λh=>hi h.symm)]
 ·rw[List.getElem?_eq_none (by rw[lZ];omega),List.getElem?_eq_none (by rw[lZ];omega)]
  split
  ·split
   ·rw[lZ]at *;omega
   ·rfl
  ·rfl
def VT(A T:List Nat){i:Nat}(h:i<=T.length):(List.range (i+1)).any (λq=>lk A (T.take q))=lk (A++[37]) (T.take i):=by
 rw[jfK,DV,List.any_eq_true];constructor
 ·rintro⟨q,hq,h1⟩
  simp at hq
  exact⟨q,by simp;omega,by rw[List.take_take,jfp (by omega)];exact h1⟩
 ·rintro⟨q,hq,h1⟩
  simp at hq
  rw[List.take_take,jfp (by omega)]at h1;exact⟨q,by simp;omega,h1⟩
def ZL(A T:List Nat){i c x:Nat}(hc:c≠37)(hx:T[i]?=some x):lk (A++[c]) (T.take (i+1))=(lk A (T.take i) && fit c x):=by
 rw[jf5,hx];exact uf hc A (T.take i) x
def VU(A T:List Nat){c:Nat}(hc:c≠37):lk (A++[c]) (T.take 0)=false:=by
 rw[jfW];exact DW hc A
def QF{P:List Nat}{k c:Nat}(h:P[k]?=some c):P.take (k+1)=P.take k++[c]:=by
 rw[jf5,h];rfl
def VV(J:Nat)(f:Nat->Bool):(List.range (J+1)).any f=((List.range J).any f || f J):=by
 rw[jfL,List.any_append];simp
def info4:(prog.info? 4).map (λi=>(i.zero,i.size,i.bytes))=some (some (.bool false),1,1):=by kernel_rfl
def iB(w:World)(B m g:Nat)(f:Nat->Bool):Prop:=w.ownsRow B 4 1 (.slice (some ⟨g,0,none⟩) (m+1) (m+1)) (m+1) (BR m f)
def iB.cell{w:World}{B m g t:Nat}{f:Nat->Bool}(h:iB w B m g f)(ht:t<=m):w.cell? ⟨g,t,none⟩=some (.bool (f t)):=by
 have:=World.ownsRow.cellAt h t (by omega);rw[this,CB ht]
def iB.free{w:World}{B m g:Nat}{f:Nat->Bool}(h:iB w B m g f)(t:Nat):w.frozen? ⟨g,t,none⟩=false:=World.ownsRow.frozenAt h t
def iB.put{w:World}{B m g i:Nat}{f:Nat->Bool}(h:iB w B m g f)(b:Bool)(hi:i<=m):iB (w.setCell ⟨g,i,none⟩ (.bool b)) B m g (λt=>if t=i then b else f t):=by
 unfold iB;rw[<- jcC b hi];exact(World.ownsRow.stored h i (.bool b)).1
def iB.other{w:World}{B m g g2 i:Nat}{f:Nat->Bool}(h:iB w B m g f)(hg:g≠g2)(u:Value):iB (w.setCell ⟨g2,i,none⟩ u) B m g f :=
 World.ownsRow.kept (row:=some g2) h ⟨rfl,rfl,rfl,by simp,λk _ hk=>heap_setCell_other w ⟨g2,i,none⟩ k u (λe=>hk (by simp[e]))⟩ (Or.inr (by simp[Value.ownBlock];exact hg))
def iB.eq{w:World}{B m g:Nat}{f f':Nat->Bool}(h:iB w B m g f)(he:∀ t,t<=m->f t=f' t):iB w B m g f':=by
 unfold iB;rw[<- VS he];exact h
def iB.drew'{w:World}{B m g:Nat}{f:Nat->Bool}(h:iB w B m g f):iB w.drew B m g f:=World.ownsRow.drew h
def iB.lt{w:World}{B m g:Nat}{f:Nat->Bool}(h:iB w B m g f):B<=g/\g<w.heap.size:=World.ownsRow.lt h g rfl
def made(m:Nat):(madeCells #[Value.bool false] (m+1)).toList=BR m (λ_=>false):=by
 rw[jfZ];apply List.ext_getElem?
 intro t;by_cases ht:t<=m
 ·rw[CB ht,List.getElem?_replicate,jey (by omega)]
 ·rw[List.getElem?_eq_none (by simp;omega),List.getElem?_eq_none (by rw[lZ];omega)]
def gI{B:Nat}{a w:World}(h:Below B a w){g j:Nat}(hg:B<=g)(u:Value):Below B a (w.setCell ⟨g,j,none⟩ u):=h.setCell hg u
def tM(w:World)(g:Nat)(Q:List Nat):Prop:=∀(j c:Nat),Q[j]?=some c->w.cell? ⟨g,j,none⟩=some (.int .i64 (c:Int))
def CC(T P:List Nat)(a1 a2:Option Addr)(g1 g2 c1 c2:Nat)(hT:T.length<=100000)(hP:P.length<=100000)(w:World)
  (h1:0<T.length->a1=some ⟨g1,0,none⟩/\g1<w.heap.size/\tM w g1 T) (h2:0<P.length->a2=some ⟨g2,0,none⟩/\g2<w.heap.size/\tM w g2 P) :
  Calls prog 115 #[.slice a1 T.length c1,.slice a2 P.length c2] w λe w'=>e=.returned (.bool (lk P T))/\jgu w w':=by
 obtain⟨i0,hi,bR,hz1',aX⟩:=jeT info4;have H1:=ae h1;have H2:=ae h2;clear h1 h2;go_enter func115,ntmps115
 go_wp2_with (first | (refine jft _ rfl _ _ 218 rfl w.heap.size 4 i0 (.bool false) 1 underlying218 hi bR hz1' .i64 .i64 _ _ (T.length+1) rfl rfl ?m1 ?m2 ?m3 ?m4 ?m5 ?_))
 case m1=>omega
 case m2=>omega
 case m3=>rw[aX];omega
 case m4=>unfold maxLen;omega
 case m5=>omega
 intro w1 dM dP;rw[made]at dM;have mh:iB w1 w.heap.size T.length w.heap.size (λ_=>false):=dM;have az:jgu w w1:=(jez _ _).grown dP (jeA _) (λk hk=>by cases hk);have bW:=az.size;have sE:=mh.cell (t:=0) (by omega);have uT:=mh.free 0;have jw:=ae (mh.put true (i:=0) (by omega));have aL:=ae (gI az (jeA _) (j:=0) (.bool true));have vN:=mh.lt.2;clear dM dP mh az;go_wp2_with fail;clear sE uT;go_loopw [5,6] (λv kk wr=>∃ K g:Nat,v=.slice (some ⟨g,0,none⟩) (T.length+1) (T.length+1)/\kk=.int .i64 K/\K<=P.length/\iB wr w.heap.size T.length g (λt=>lk (P.take K) (T.take t))/\jgu w wr) (λ_ kk _=>P.length-(intOf kk).toNat)
 case atStart =>
  refine⟨0,w.heap.size,rfl,rfl,by omega,jw.o.eq (λt ht=>?_),aL.o⟩;rw[jfW];show _=(T.take t).isEmpty
  by_cases h0:t=0
  ·subst h0;simp
  ·rw[jex h0]
   cases T with
   | nil=>simp at ht;omega
   | cons x T=>cases t with
    | zero=>omega
    | succ t=>rfl
 case round =>
  obtain⟨K,g,rfl,rfl,hK,ft,ao⟩:=hrel;clear jw aL vN;have bF:=ao.size;have XP:=ft.lt;by_cases hKl:K<P.length
  ·obtain⟨rfl,fY,hP2⟩:=H2.o (by omega)
   have hcK:P[K]?=some P[K]:=List.getElem?_eq_getElem hKl;have HPC:=ae (hP2 K _ hcK);have pr:=ae (QF hcK);clear hP2 hcK;generalize P[K]=c at *;have zj:=ae ft;have HBEL:=ae ao;clear ft ao;go_wp2_with (first | (refine jft _ rfl _ _ 218 rfl w.heap.size 4 i0 (.bool false) 1 underlying218 hi bR hz1' .i64 .i64 _ _ (T.length+1) rfl rfl ?n1 ?n2 ?n3 ?n4 ?n5 ?_))
   any_goals first | omega | (rw[aX];omega) | (unfold maxLen;omega)
   intro w2 eA hg2';rw[made]at eA;have qt:iB w2 w.heap.size T.length wr.heap.size (λ_=>false):=eA;have hra:iB w2 w.heap.size T.length g (λt=>lk (P.take K) (T.take t)):=World.ownsRow.kept zj.o hg2' (Or.inr (by simp[Value.ownBlock]));have ap:jgu w w2:=HBEL.o.grown hg2' bF (λk hk=>by cases hk);have dC:g≠wr.heap.size:=(by omega);have fZ:=ae qt;have MX:=ae hra;have aG:=ae ap;clear eA hg2' qt hra ap zj HBEL;generalize hgn:wr.heap.size=gn at *;clear hgn;go_wp2_with fail;go_loopw [8] (λii wr=>∃ I:Nat,ii=.int .i64 I/\I<=T.length+1/\iB wr w.heap.size T.length g (λt=>lk (P.take K) (T.take t))/\iB wr w.heap.size T.length gn (λt=>decide (t<I) && lk (P.take (K+1)) (T.take t))/\jgu w wr) (λii _=>T.length+1-(intOf ii).toNat)
   case atStart=>exact⟨0,rfl,by omega,MX.o,fZ.o.eq (λt ht=>by simp),aG.o⟩
   case round =>
    obtain⟨I,rfl,hI,hrA,hrN,hbI⟩:=hrel;clear MX fZ aG;have MX:=ae hrA;have XV:=ae hrN;have HBI:=ae hbI;have Wu:=(hbI.cell (p:=⟨g2,K,none⟩) fY).trans HPC.o;have RD:=hrA.lt;have Ru:=hrN.lt;clear hrA hrN hbI;by_cases hIl:I<=T.length
    ·by_cases h37:c=37
     ·subst h37
      have hIl2:(I:Int)<=T.length:=(by omega);go_wp2_with fail;clear Wu;go_loopw [9] (λjj wj=>∃ J:Nat,jj=.int .i64 J/\J<=I+1/\iB wj w.heap.size T.length g (λt=>lk (P.take K) (T.take t))/\iB wj w.heap.size T.length gn (λt=>if t=I then (List.range J).any (λq=>lk (P.take K) (T.take q)) else decide (t<I) && lk (P.take (K+1)) (T.take t))/\jgu w wj) (λjj _=>I+1-(intOf jj).toNat)
      case atStart =>
       refine⟨0,rfl,by omega,MX.o,XV.o.eq (λt ht=>?_),HBI.o⟩;by_cases h0:t=I
       ·subst h0;simp
       ·rw[jex h0]
      case round =>
       obtain⟨J,rfl,hJ,hjA,hjN,hbJ⟩:=hrel;clear MX XV HBI;by_cases hJl:J<=I
       ·have hJl2:(J:Int)<=I:=by omega
        have ccN:=hjN.cell (t:=I) hIl;rw[jey rfl]at ccN;have ccA:=hjA.cell (t:=J) (by omega);have cfN:=hjN.free I;have HSU:=ae (VV J (λq=>lk (P.take K) (T.take q)));have HJA:=ae hjA;have HJN:=ae hjN;have HBJ:=ae hbJ;clear hjA hjN hbJ;generalize az:(List.range J).any (λq=>lk (P.take K) (T.take q))=b1 at *;generalize ap:lk (P.take K) (T.take J)=b2 at *;have dN:jgt ((List.range J).any (λq=>lk (P.take K) (T.take q))=b1):=az;clear az ap;cases b1 with
        | true =>
         go_wp2_with fail;go_roundw
         case rel =>
          refine⟨J+1,by go_num,by omega,HJA.o.other dC _,(HJN.o.put true hIl).eq (λt ht=>?_),gI HBJ.o Ru.1 _⟩;by_cases h0:t=I
          ·rw[jey h0,jey h0,HSU.o];rfl
          ·rw[jex h0,jex h0,jex h0]
         case measure=>simp[intOf];omega
        | false =>
         go_wp2_with fail;go_roundw
         case rel =>
          refine⟨J+1,by go_num,by omega,HJA.o.other dC _,(HJN.o.put b2 hIl).eq (λt ht=>?_),gI HBJ.o Ru.1 _⟩;by_cases h0:t=I
          ·rw[jey h0,jey h0,HSU.o];simp
          ·rw[jex h0,jex h0,jex h0]
         case measure=>simp[intOf];omega
       ·have hJl2:¬ (J:Int)<=I:=by omega
        have hJe:J=I+1:=(by omega);subst hJe;have HJA:=ae hjA;have HJN:=ae hjN;have HBJ:=ae hbJ;clear hjA hjN hbJ;go_wp2_with fail;go_roundw
        case rel =>
         refine⟨I+1,by go_num,by omega,HJA.o,HJN.o.eq (λt ht=>?_),HBJ.o⟩;by_cases h0:t=I
         ·subst h0
          rw[jey rfl,VT _ _ hIl,pr.o];simp
         ·rw[jex h0]
          by_cases h3:t<I
          ·rw[jeP h3,jeP (show t<I+1 by omega)]
          ·rw[jeM h3,jeM (show ¬ t<I+1 by omega)]
        case measure=>simp[intOf];omega
     ·have h37b:((c:Int)==37)=false:=by simp;omega
      have hIl2:(I:Int)<=T.length:=(by omega);cases I with
      | zero =>
       go_wp2_with fail;go_roundw
       case rel =>
        refine⟨1,by go_num,by omega,MX.o,XV.o.eq (λt ht=>?_),HBI.o⟩;by_cases h0:t=0
        ·subst h0
         rw[pr.o,VU _ _ h37];simp
        ·simp[h0]
       case measure=>simp[intOf]
      | succ I =>
       obtain⟨rfl,hg1z,hT1⟩:=H1.o (by omega);have hIT:I<T.length:=(by omega);have hx:T[I]?=some T[I]:=List.getElem?_eq_getElem hIT;have hcx:=(HBI.o.cell (p:=⟨g1,I,none⟩) hg1z).trans (hT1 I _ hx);have hONE:=ZL (P.take K) T h37 hx;rw[<- pr.o]at hONE;clear hT1 hx;generalize T[I]=x at *;have ccA:=MX.o.cell (t:=I) (by omega);have ccN:=XV.o.cell (t:=I+1) (by omega);have cfN:=XV.o.free (I+1);rw[jeM (by omega),Bool.false_and]at ccN;have e1:(((I+1:Nat):Int))=(I:Int)+1:=(by omega)
       have Lw:jgt (∀ r:Bool,r=(lk (P.take K) (T.take I) && fit c x)->∀ t,(if t=I+1 then r else decide (t<I+1) && lk (P.take (K+1)) (T.take t))=(decide (t<I+1+1) && lk (P.take (K+1)) (T.take t))):=λr hr t=>by
        by_cases h0:t=I+1
        ·subst h0;rw[jey rfl,hr,<- hONE];simp
        ·rw[jex h0]
         by_cases h3:t<I+1
         ·rw[jeP h3,jeP (show t<I+1+1 by omega)]
         ·rw[jeM h3,jeM (show ¬ t<I+1+1 by omega)]
       clear hONE;generalize hq:lk (P.take K) (T.take I)=q at *;clear hq;cases q with
       | false =>
        go_wp2_with fail;go_region
        all_goals
         go_wp2_with fail;go_roundw
         case rel =>
          refine⟨I+1+1,by go_num,by omega,(MX.o.other dC _).drew',((XV.o.put false hIl).eq (λt ht=>?_)).drew',(gI HBI.o Ru.1 _).drew⟩;exact Lw.o false (by simp[fit]) t
         case measure=>simp[intOf];omega
       | true =>
        by_cases h95:c=95
        ·subst h95
         go_wp2_with fail;go_region
         all_goals
          go_wp2_with fail;go_roundw
          case rel =>
           refine⟨I+1+1,by go_num,by omega,(MX.o.other dC _).drew',((XV.o.put true hIl).eq (λt ht=>?_)).drew',(gI HBI.o Ru.1 _).drew⟩;exact Lw.o true (by simp[fit]) t
          case measure=>simp[intOf];omega
        ·have h95b:((c:Int)==95)=false:=by simp;omega
         by_cases Wt:c=x
         ·subst Wt
          go_wp2_with fail;go_region
          all_goals
           go_wp2_with fail;go_roundw
           case rel =>
            refine⟨I+1+1,by go_num,by omega,(MX.o.other dC _).drew',((XV.o.put true hIl).eq (λt ht=>?_)).drew',(gI HBI.o Ru.1 _).drew⟩;exact Lw.o true (by simp[fit]) t
           case measure=>simp[intOf];omega
         ·have hcxb:((c:Int)==(x:Int))=false:=by simp;omega
          go_wp2_with fail;go_region
          all_goals
           go_wp2_with fail;go_roundw
           case rel =>
            refine⟨I+1+1,by go_num,by omega,(MX.o.other dC _).drew',((XV.o.put false hIl).eq (λt ht=>?_)).drew',(gI HBI.o Ru.1 _).drew⟩;exact Lw.o false (by simp[fit,h95,Wt]) t
           case measure=>simp[intOf];omega
    ·have hIl2:¬ (I:Int)<=T.length:=by omega
     go_wp2_with fail;go_roundw
     case rel =>
      refine⟨K+1,gn,rfl,by go_num,by omega,XV.o.eq (λt ht=>?_),HBI.o⟩;rw[jeP (by omega)];simp
     case measure=>simp[intOf];omega
  ·have hKe:K=P.length:=by omega
   subst hKe;have bx:=ft.cell (t:=T.length) (jeA _);rw[jeJ,jeJ]at bx;have HB:=ae ao;clear ft ao;go_wp2_with fail;go_ret
   exact⟨rfl,HB.o⟩
def FY{u:List (Nat×Nat)}{j c:Nat}(h:(u.map Prod.fst)[j]?=some c):(sgn u u.length)[j]?=some (.int .i64 (c:Int)):=by
 rw[List.getElem?_map]at h;obtain⟨x,hx,rfl⟩:=jgk.1 h;simp[sgn,hx]
def FZ(s p:ByteArray)(hs:s.size<=100000)(hp:p.size<=100000)(w:World) :
  Calls prog 74 #[.string s,.string p] w λe w'=>e=.returned (.bool (lk (br (lb p)) (br (lb s))))/\jgu w w':=by
 have hV1:=sM (lb s);have hV2:=sM (lb p);rw[bK]at hV1 hV2;have R1:=ae (sZ (lb s));have R2:=ae (sZ (lb p));go_enter func74,ntmps74
 go_wp2_with fail;refine(iL s hs _).mono ?_;rintro e w1 ⟨⟨a,b,rfl,ha,hb⟩,ao⟩;have aL:=ae ao;have fX:=ae ha;have bW:=ao.size;obtain⟨⟨ad1,cap1,rfl,_⟩,_⟩:=fC ha;obtain⟨⟨bd1,bap1,rfl,_⟩,_⟩:=fC hb;clear ao ha hb;go_wp2_with fail;refine(iL p hp _).mono ?_;rintro e w2 ⟨⟨a2,b2,rfl,ha2,ap⟩,nZ⟩;have aG:=ae (aL.o.trans (nZ.mono bW));have eb:=ae (bv fX.o nZ);have dL:=ae ha2;have aX:=aG.o.size;obtain⟨⟨ad2,cap2,rfl,_⟩,_⟩:=fC ha2;obtain⟨⟨bd2,bap2,rfl,_⟩,_⟩:=fC ap;clear nZ ha2 ap aL fX
 have k1:0<(br (lb s)).length->∃ g1,ad1=some ⟨g1,0,none⟩/\g1<w2.heap.size/\tM w2 g1 (br (lb s)):=λh=>by
  rw[R1.o]at h;obtain⟨g,c,eg,hg,_,hc⟩:=(fC eb.o).2 h;simp only[Value.slice.injEq]at eg;obtain⟨rfl,_,_⟩:=eg;exact⟨g,rfl,hg,λj c hj=>hc j _ (FY hj)⟩
 have k2:0<(br (lb p)).length->∃ g2,ad2=some ⟨g2,0,none⟩/\g2<w2.heap.size/\tM w2 g2 (br (lb p)):=λh=>by
  rw[R2.o]at h;obtain⟨g,c,eg,hg,_,hc⟩:=(fC dL.o).2 h;simp only[Value.slice.injEq]at eg;obtain⟨rfl,_,_⟩:=eg;exact⟨g,rfl,hg,λj c hj=>hc j _ (FY hj)⟩
 obtain⟨g1,k1'⟩:∃ g1,0<(br (lb s)).length->ad1=some ⟨g1,0,none⟩/\g1<w2.heap.size/\tM w2 g1 (br (lb s)):=by
  by_cases h:0<(br (lb s)).length
  ·obtain⟨g1,dP⟩:=k1 h
   exact⟨g1,λ_=>dP⟩
  ·exact⟨0,λh2=>absurd h2 h⟩
 obtain⟨g2,k2'⟩:∃ g2,0<(br (lb p)).length->ad2=some ⟨g2,0,none⟩/\g2<w2.heap.size/\tM w2 g2 (br (lb p)):=by
  by_cases h:0<(br (lb p)).length
  ·obtain⟨g2,fY⟩:=k2 h
   exact⟨g2,λ_=>fY⟩
  ·exact⟨0,λh2=>absurd h2 h⟩
 have nV:=CC (br (lb s)) (br (lb p)) ad1 ad2 g1 g2 cap1 cap2 (by rw[R1.o];omega) (by rw[R2.o];omega) w2 k1' k2';rw[R1.o,R2.o]at nV;have mH:=ae nV;clear nV k1 k2 k1' k2' eb dL;go_wp2_with fail;refine mH.o.mono ?_;rintro e w3 ⟨rfl,hb⟩;go_wp2_with fail;go_ret
 exact⟨rfl,aG.o.trans (hb.mono aX)⟩
 mutual
def jT:PT->Prop
 | .node op _ c ks=>(1<=op/\op<=8/\(op=4->aH c=c))/\SaneAll ks
def SaneAll:List PT->Prop
 | []=>True
 | k::ks=>jT k/\SaneAll ks
 end
def AC(w:World)(op f:Nat)(c:Cl)(kv:Value)(si:Nat)(fv:Value):let Z:=(w.alloc (.cells #[.int .u8 (op:Int),.int .u32 (f:Int),.int .u8 (c.1:Int),.int .i64 c.2.1,.string (bytesT c.2.2),kv] 63)).alloc (.cells #[.int .u32 (si:Int),fv] 25)
  jgu w Z/\et Z w.heap.size 0 op f c kv/\Z.cell? ⟨w.heap.size+1,0,none⟩=some (.int .u32 (si:Int))/\Z.cell? ⟨w.heap.size+1,1,none⟩=some fv/\Z.heap.size=w.heap.size+1+1:=by
 intro Z;have az:=aj w (.cells #[.int .u8 (op:Int),.int .u32 (f:Int),.int .u8 (c.1:Int),.int .i64 c.2.1,.string (bytesT c.2.2),kv] 63);have hn:=fE w op f c kv;have hs:(w.alloc (.cells #[.int .u8 (op:Int),.int .u32 (f:Int),.int .u8 (c.1:Int),.int .i64 c.2.1,.string (bytesT c.2.2),kv] 63)).heap.size=w.heap.size+1:=jeB _ _;have ap:=aj (w.alloc (.cells #[.int .u8 (op:Int),.int .u32 (f:Int),.int .u8 (c.1:Int),.int .i64 c.2.1,.string (bytesT c.2.2),kv] 63)) (.cells #[.int .u32 (si:Int),fv] 25);obtain⟨e0,e1⟩:=aS (w.alloc (.cells #[.int .u8 (op:Int),.int .u32 (f:Int),.int .u8 (c.1:Int),.int .i64 c.2.1,.string (bytesT c.2.2),kv] 63)) (.int .u32 (si:Int)) fv 25;rw[hs]at e0 e1;exact⟨ai az ap,hn.kept ap,e0,e1,by rw[show Z.heap.size=_ from jeB _ _,hs]⟩
def SaneAll.get{ks:List PT}(h:SaneAll ks):∀ k∈ks,jT k:=by
 induction ks with
 | nil=>intro k hk;simp at hk
 | cons a ks ih =>
  intro k hk;simp only[SaneAll]at h;rcases jeL.1 hk with rfl | hk
  ·exact h.1
  ·exact ih h.2 k hk
def SaneAll.of{ks:List PT}(h:∀ k∈ks,jT k):SaneAll ks:=by
 induction ks with
 | nil=>simp[SaneAll]
 | cons a ks ih=>simp only[SaneAll];exact⟨h a (by simp),ih λk hk=>h k (by simp[hk])⟩
def AD{l:List Fd}:∀{ks:List PT},crAll l ks=0->∀ k∈ks,crM l k=0
 | [],_=>λk hk=>by simp at hk
 | a::ks,h=>λk hk=>by
  simp only[crAll]at h;by_cases h0:crM l a=0
  ·rw[jex (by omega)]at h
   rcases jeL.1 hk with rfl | hk
   ·exact h0
   ·exact AD h k hk
  ·rw[jey h0]at h
   exact absurd h h0
def Mx(l:List Fd)(t:PT):crM l t=0->jT t:=by
 refine PT.ind (P:=λt=>crM l t=0->jT t) (λop f c ks ih h=>?_) t;simp only[crM]at h;by_cases h0:crN l op f c ks.length=0
 ·rw[jex (by omega)]at h
  have hk:=AD h;simp only[jT];refine⟨?_,SaneAll.of λk hk'=>ih k hk' (hk k hk')⟩;unfold crN at h0;by_cases h1:op=0∨8<op
  ·rw[jey h1]at h0;omega
  ·rw[jex h1]at h0
   refine⟨by omega,by omega,?_⟩;rintro rfl;rw[jex (by omega)]at h0;split at h0
   ·omega
   ·split at h0
    ·omega
    ·rw[jex (by omega)]at h0
     unfold crF at h0
     have hf:lz c=0:=by
      by_cases hf:lz c=0
      ·exact hf
      ·split at h0
       ·omega
       ·first
        | exact h0
        | (rw[jey hf]at h0;exact h0)
     unfold aH;exact jey hf
 ·rw[jey h0]at h
  exact absurd h h0
def Ga(b:Bool)(w:World):Calls prog 72 #[.bool b] w λe w'=>e=.returned (.int .i64 (isM b:Int))/\w'=w:=by
 cases b
 ·go_enter func72,ntmps72
  go_wp2_with fail;go_ret
  exact⟨rfl,rfl⟩
 ·go_enter func72,ntmps72
  go_wp2_with fail;go_ret
  exact⟨rfl,rfl⟩
def xY(l:List Fd)(r:List Cl)(si:Nat)(t:PT):Prop:=∀(op f:Nat) (c:Cl) (ks:List PT),t=.node op f c ks->Okp t->jT t->∀(w:World) (kv fv rv:Value),Sf w fv l->Sc w rv r->eF w kv ks ->
  Calls prog 31 #[.agg #[.int .u8 (op:Int),.int .u32 (f:Int),.int .u8 (c.1:Int),.int .i64 c.2.1,.string (bytesT c.2.2),kv],.agg #[.int .u32 (si:Int),fv],rv] w λe w'=>e=.returned (.int .i64 (aW l r t:Int))/\jgu w w'
def jnS:Bool->Nat->Nat->Nat
 | true,a,b=>max a b
 | false,a,b=>min a b
def My{si:Nat}{l:List Fd}{r:List Cl}(dA:∀ x∈r,aI x)(op f:Nat)(c:Cl)(ks:List PT)(ih:∀ k∈ks,xY l r si k)(s:Bool)(qo:op=cond s 7 6)(dD:Okp (.node op f c ks))(dB:jT (.node op f c ks))(w:World)(kv fv rv:Value)(hs:Sf w fv l)(hr:Sc w rv r)(hk:eF w kv ks) :
  Calls prog 31 #[.agg #[.int .u8 (op:Int),.int .u32 (f:Int),.int .u8 (c.1:Int),.int .i64 c.2.1,.string (bytesT c.2.2),kv],.agg #[.int .u32 (si:Int),fv],rv] w λe w'=>e=.returned (.int .i64 (aW l r (.node op f c ks):Int))/\jgu w w':=by
 simp only[Okp]at dD;simp only[jT]at dB;obtain⟨_,_,mJ,iv⟩:=dD;obtain⟨⟨Gg,XW,GD⟩,oa⟩:=dB;have nh:=ae ih;have HK:=ae hk;have HS:=ae hs;have HR:=ae hr;have AO:=ae mJ;have mZ:=ae iv.get;have iw:=ae oa.get;have MJ:=ae GD;have iy:=ae dA;obtain⟨ka,kcap,rfl,Lh,mj⟩:=hk.form;obtain⟨fa,fcap,rfl,_,_⟩:=hs.form;obtain⟨ra,rcap,rfl,_,CJ⟩:=hr.form;have hkm':ks.length<=9223372036854775807:=by unfold maxLen at mj;omega
 have hrm':rcap<=9223372036854775807:=by unfold maxLen at CJ;omega
 clear hk hs hr ih mj CJ iv mJ oa GD dA;obtain⟨iz,hn,e0,e1,hsB⟩:=AC w op f c (.slice ka ks.length kcap) si (.slice fa l.length fcap);generalize hZ0:(w.alloc (.cells #[.int .u8 (op:Int),.int .u32 (f:Int),.int .u8 (c.1:Int),.int .i64 c.2.1,.string (bytesT c.2.2),.slice ka ks.length kcap] 63)).alloc (.cells #[.int .u32 (si:Int),.slice fa l.length fcap] 25)=Z0 at *;have cN:=ae iz;have HN:=ae hn;have wg:=ae (HK.o.kept cN.o);have uU:=ae (HS.o.kept cN.o);have Xq:=ae (HR.o.kept cN.o);obtain⟨cy,x0,x1,x2,x3,x4,x5⟩:=HN.o;clear hn iz HK HS HR
 obtain⟨X,n0,mY,HD,cF,HEN⟩:∃(X:List PT->Nat->Nat) (n0:Nat),jgt (n0=cond s 0 2)/\jgt (aW l r (.node op f c ks)=X (ks.drop 0) n0)/\jgt (∀ i (h:i<ks.length) a,X (ks.drop i) a=X (ks.drop (i+1)) (jnS s a (aW l r ks[i])))/\jgt (∀ a,X (ks.drop ks.length) a=a):=by
  cases s
  ·obtain rfl:op=6:=qo
   exact⟨evalAnd l r,2,ae rfl,ae (by simp only[aW];rfl),ae (λi h a=>rp h a),ae uA⟩
  ·obtain rfl:op=7:=qo
   exact⟨evalOr l r,0,ae rfl,ae (by simp only[aW];rfl),ae (λi h a=>uy h a),ae xt⟩
 have q6:((op:Int)==6)=!s:=by rw[qo];cases s<;>rfl
 have q7:((op:Int)==7)=s:=by rw[qo];cases s<;>rfl
 clear qo;have sG:jgt (∀ k,aW l r k<=2):=ae (λk=>im l r k);generalize aW l r (.node op f c ks)=R at *;subst hZ0;cases s
 all_goals
  simp only[Bool.not_true,Bool.not_false]at q6 q7;go_enter func31,ntmps31
  go_wp2_with fail;generalize ((w.alloc (.cells #[.int .u8 (op:Int),.int .u32 (f:Int),.int .u8 (c.1:Int),.int .i64 c.2.1,.string (bytesT c.2.2),.slice ka ks.length kcap] 63)).alloc (.cells #[.int .u32 (si:Int),.slice fa l.length fcap] 25))=Z at *;clear x0 x1 x2 x3 x4;first | go_loopw [7,8] (λs i wr=>∃ k n:Nat,k<=ks.length/\i=.int .i64 (k:Int)/\s=.int .i64 (n:Int)/\n<=2/\R=X (ks.drop k) n/\jgu Z wr) (λ_ i _=>ks.length-(intOf i).toNat) | go_loopw [9,10] (λs i wr=>∃ k n:Nat,k<=ks.length/\i=.int .i64 (k:Int)/\s=.int .i64 (n:Int)/\n<=2/\R=X (ks.drop k) n/\jgu Z wr) (λ_ i _=>ks.length-(intOf i).toNat)
  case atStart=>exact⟨0,n0,by omega,rfl,by rw[mY.o];rfl,by rw[mY.o];decide,HD.o,jez _ _⟩
  case round =>
   obtain⟨k,n,hk,rfl,rfl,vY,fR,ao⟩:=hrel;have HF:=ae fR;have HB:=ae ao;have bF:=ao.size;have x5r:=(ao.cell (p:=⟨w.heap.size,0+5,none⟩) cy).trans x5;clear fR ao HD x5;by_cases ar:k<ks.length
   ·obtain⟨g,o,rfl,gA⟩:=(wg.o.kept HB.o).at ar
    have hlt':(k:Int)<(ks.length:Int):=(by omega);have HT:=ae (HF.o.trans (cF.o k ar n));have sg:=ae (uU.o.kept HB.o);have RX:=ae (Xq.o.kept HB.o);have HM:=ae (nh.o ks[k] (jeD ar));have XU:=ae (mZ.o ks[k] (jeD ar));have Gk:=ae (iw.o ks[k] (jeD ar));have XR:=ae (sG.o ks[k]);generalize ks[k]=kid at *;obtain⟨op1,f1,c1,ks1⟩:=kid;obtain⟨a1,cap1,eX,ec⟩:=gA.open;have Rh:=ae ec;have lE:=ae (λ(U:World) (hU:jgu wr U)=>HM.o op1 f1 c1 ks1 rfl XU.o Gk.o U _ _ _ (sg.o.kept hU) (RX.o.kept hU) (Rh.o.kept hU));have me:=ae eX;generalize aW l r (.node op1 f1 c1 ks1)=ev at *;have Lx:=XR.o;clear gA HF eX ec;have CK:∀ s:aB (λx=>jgu wr x),s.w.cell? ⟨w.heap.size+1,0,none⟩=some (.int .u32 (si:Int)):=λs=>(s.ok.cell (p:=⟨w.heap.size+1,0,none⟩) (show w.heap.size+1<_ by omega)).trans ((HB.o.cell (p:=⟨w.heap.size+1,0,none⟩) (show w.heap.size+1<_ by omega)).trans e0)
    have mh:∀ s:aB (λx=>jgu wr x),s.w.cell? ⟨w.heap.size+1,1,none⟩=some (.slice fa l.length fcap):=λs=>(s.ok.cell (p:=⟨w.heap.size+1,1,none⟩) (show w.heap.size+1<_ by omega)).trans ((HB.o.cell (p:=⟨w.heap.size+1,1,none⟩) (show w.heap.size+1<_ by omega)).trans e1)
    have qt:∀ s:aB (λx=>jgu wr x),s.w.cell? ⟨w.heap.size,0+5,none⟩=some (.slice (some ⟨g,o,none⟩) ks.length kcap):=λs=>(s.ok.cell (p:=⟨w.heap.size,0+5,none⟩) (show w.heap.size<_ by omega)).trans x5r
    have bR:∀ s:aB (λx=>jgu wr x),s.w.cell? ⟨g,o+k*6,none⟩=some (.int .u8 (op1:Int)):=λs=>(me.o.kept s.ok).2.1
    have bW:∀ s:aB (λx=>jgu wr x),s.w.cell? ⟨g,o+k*6+1,none⟩=some (.int .u32 (f1:Int)):=λs=>(me.o.kept s.ok).2.2.1
    have aX:∀ s:aB (λx=>jgu wr x),s.w.cell? ⟨g,o+k*6+2,none⟩=some (.int .u8 (c1.1:Int)):=λs=>(me.o.kept s.ok).2.2.2.1
    have gy:∀ s:aB (λx=>jgu wr x),s.w.cell? ⟨g,o+k*6+3,none⟩=some (.int .i64 c1.2.1):=λs=>(me.o.kept s.ok).2.2.2.2.1
    have se:∀ s:aB (λx=>jgu wr x),s.w.cell? ⟨g,o+k*6+4,none⟩=some (.string (bytesT c1.2.2)):=λs=>(me.o.kept s.ok).2.2.2.2.2.1
    have sk:∀ s:aB (λx=>jgu wr x),s.w.cell? ⟨g,o+k*6+5,none⟩=some (.slice a1 ks1.length cap1):=λs=>(me.o.kept s.ok).2.2.2.2.2.2
    haveI:Nonempty (aB (λx=>jgu wr x)):=⟨aB.mk wr (jez _ _)⟩
    have RS:n=0∨n=1∨n=2:=(by omega);have jdE:ev=0∨ev=1∨ev=2:=(by omega);clear vY Lx XR
    rcases RS with rfl | rfl | rfl<;>rcases jdE with rfl | rfl | rfl <;>
     (go_wp2_with fail
      clear x5r;refine aP (S:=λx=>jgu wr x) (by kernel_rfl) (by kernel_rfl) (jez _ _).drew ?_;repeat (go_big_quiet_step ((go_at_call 31;exact(lE.o _ (aB.ok _)).mono (λe w' h=>⟨h.1,aB.mk w' (ai (aB.ok _) h.2),rfl⟩))))
      refine wpQuiet_nil ?_;rintro _ ⟨s3,rfl⟩;obtain⟨w3,Dl⟩:∃ x,x=s3.w:=⟨_,rfl⟩;have aJ:=s3.ok;rw[<- Dl]at aJ ⊢;have aY:=ae (HB.o.trans (aJ.mono bF));clear Dl aJ CK mh qt bR bW aX gy se sk;go_wp2_with fail;go_roundw
      case rel =>
       refine⟨k+1,_,by omega,by go_num,?_,?_,HT.o,aY.o⟩
       ·rfl
       ·decide
      case measure=>simp[intOf];omega)
   ·obtain rfl:k=ks.length:=by omega
    have ed:¬ ((ks.length:Nat):Int)<(ks.length:Int):=(by omega);have HT:=ae (HF.o.trans (HEN.o n));clear HF;go_wp2_with fail;go_ret
    rw[HT.o];exact⟨rfl,ai cN.o HB.o⟩
end Go.Proofs.YtpljdjmpamjkhaaGreatDoor
