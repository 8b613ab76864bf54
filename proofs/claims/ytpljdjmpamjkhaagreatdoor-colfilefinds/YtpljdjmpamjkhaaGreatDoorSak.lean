import Derived.Test.YtpljdjmpamjkhaaGreatDoorSaj
import Derived.Lib.EndianMore
set_option linter.all false
set_option maxRecDepth 100000
set_option maxHeartbeats 8000000
namespace Go.Proofs.YtpljdjmpamjkhaaGreatDoor
open Tryz
open Go.RowKit Go.Lib
def xw(W:World)(q si:Nat)(fv rv:Value)(l:List Fd)(r:List Cl):Prop :=
 q<W.heap.size/\W.cell? ⟨q,0,none⟩=some (.int .u32 (si:Int))/\W.cell? ⟨q,1,none⟩=some fv/\W.cell? ⟨q,2,none⟩=some rv/\Sf W fv l/\Sv W rv (aE r)
def xw.kept{W W':World}{q si:Nat}{fv rv:Value}{l:List Fd}{r:List Cl}(h:xw W q si fv rv l r)(hb:jgu W W'):xw W' q si fv rv l r:=by
 obtain⟨h0,h1,h2,h3,h4,h5⟩:=h;have e:∀ o,W'.cell? ⟨q,o,none⟩=W.cell? ⟨q,o,none⟩:=λo=>(fA hb).1 q o h0
 exact⟨jeY h0 hb.size,by rw[e];exact h1,by rw[e];exact h2,by rw[e];exact h3,h4.kept hb,h5.kept hb⟩
def xx{l:List Fd}{r:List Cl}{op f:Nat}{c:Cl}(h:dV l f=none):iD l r op f c=1:=by unfold iD;rw[h]
def xy{l:List Fd}{r:List Cl}{op f j:Nat}{c:Cl}(h:dV l f=some j)(hj:¬ j<r.length):iD l r op f c=1:=by
 unfold iD;rw[h];simp only;rw[List.getElem?_eq_none (by omega)]
def Ey{l:List Fd}{r:List Cl}{op f j:Nat}{c:Cl}(h:dV l f=some j)(hj:j<r.length):iD l r op f c=mQ op c r[j]:=by
 unfold iD;rw[h];simp only;rw[List.getElem?_eq_getElem hj]
def rr{w:World}{q si b off op f:Nat}{c:Cl}{kv fv rv:Value}{l:List Fd}{r:List Cl}(hr:xw w q si fv rv l r)(hn:et w b off op f c kv)(dD:Okc c)(hl:c.2.2.length<=300)(dA:∀ x∈r,aI x) :
  Calls prog 196 #[.pointer (some ⟨q,0,none⟩),.pointer (some ⟨b,off,none⟩)] w λe w'=>e=.returned (.int .u8 (iD l r op f c:Int))/\jgu w w':=by
 have HR:=ae hr;have HN:=ae hn;have HO:=ae dD;have HL:=ae hl;have iy:=ae dA;have kS:=ae (λ(U:World) (hU:jgu w U)=>tg (hr.2.2.2.2.1.kept hU) si f);have Lg:=ae (λh=>xx (l:=l) (r:=r) (op:=op) (f:=f) (c:=c) h);have Gu:=ae (λ(j:Nat) h hj=>xy (l:=l) (r:=r) (op:=op) (f:=f) (c:=c) (j:=j) h hj);have vK:=ae (λ(j:Nat) h hj=>Ey (l:=l) (r:=r) (op:=op) (f:=f) (c:=c) (j:=j) h hj);generalize iD l r op f c=R at *;obtain⟨RN,y0,y1,y2,yc,iF⟩:=hr;obtain⟨cy,x0,x1,x2,x3,x4,x5⟩:=hn;obtain⟨fa,fcap,rfl,hfc,XC⟩:=yc.form;obtain⟨ra,rcap,rfl,hrc,CJ⟩:=iF.form1;rw[ay]at *;clear yc iF dD hl dA;have CK:∀ s:aB (λx=>jgu w x),s.w.cell? ⟨q,0,none⟩=some (.int .u32 (si:Int)):=λs=>(s.ok.cell (p:=⟨q,0,none⟩) RN).trans y0
 have mh:∀ s:aB (λx=>jgu w x),s.w.cell? ⟨q,1,none⟩=some (.slice fa l.length fcap):=λs=>(s.ok.cell (p:=⟨q,1,none⟩) RN).trans y1
 have qt:∀ s:aB (λx=>jgu w x),s.w.cell? ⟨b,off+1,none⟩=some (.int .u32 (f:Int)):=λs=>(s.ok.cell (p:=⟨b,off+1,none⟩) cy).trans x1
 haveI:Nonempty (aB (λx=>jgu w x)):=⟨aB.mk w (jez _ _)⟩
 go_enter func196,ntmps196
 go_wp2_with fail;refine aP (S:=λx=>jgu w x) (by kernel_rfl) (by kernel_rfl) (jez _ _).drew ?_;repeat (go_big_quiet_step ((go_at_call 193;exact(kS.o _ (aB.ok _)).mono (λe w' h=>⟨h.1,aB.mk w' (ai (aB.ok _) h.2),rfl⟩))))
 refine wpQuiet_nil ?_;rintro _ ⟨s2,rfl⟩;obtain⟨w2,nX⟩:∃ x,x=s2.w:=⟨_,rfl⟩;have ap:=s2.ok;rw[<- nX]at ap ⊢;have aG:=ae ap;have fZ:=ae (HR.o.kept ap);have mV:=ae (HN.o.kept ap);have aX:=ap.size;clear nX ap CK mh qt x0 x1 x2 x3 x4 x5 y0 y1 y2 HR HN;cases hp:dV l f with
 | none =>
  have HA:=ae (Lg.o hp);simp only[Option.isSome_none,Option.getD_none];clear hp Lg Gu vK;go_wp2_with fail;go_ret
  rw[HA.o];exact⟨rfl,aG.o⟩
 | some j =>
  simp only[Option.isSome_some,Option.getD_some];by_cases hj:j<r.length
  ·have HA:=ae (vK.o j hp hj)
   obtain⟨_,y0,y1,y2,_,iF⟩:=fZ.o;have hj':¬ (j:Int)>=(r.length:Int):=(by omega);have hj2:(j:Int)<(r.length:Int):=(by omega);obtain⟨rb,roff,rfl,hrb,z⟩:=iF.at1 (cw hj);have HF:=ae (iy.o r[j] (jeD hj));generalize r[j]=x at *;have MI:=ae iF;clear iF hp Lg Gu vK iy;go_wp2_with fail;refine(Mc HF.o _).mono ?_;rintro e w3 ⟨rfl,rfl⟩;have HNK:=mV.o;obtain⟨hb0',x0,x1,x2,x3,x4,x5⟩:=HNK;by_cases h5:op=5
   ·subst h5
    go_wp2_with fail;refine(rq _ _).mono ?_;rintro e w4 ⟨rfl,rfl⟩;go_wp2_with fail;go_ret
    refine⟨?_,aG.o⟩;rw[HA.o];unfold mQ;rw[jey rfl];have e1:((x.1:Int)==0)=decide (x.1=0):=by rw[jfK];simp
    rw[e1];rfl
   ·have n5:((op:Int)==5)=false:=jeF.2 (by omega)
    by_cases hx:x.1=0
    ·have hx':((x.1:Int)==0)=true:=by rw[hx];rfl
     have HA':jgt (R=1):=ae (by rw[HA.o];unfold mQ;rw[jex h5,jey hx]);clear h5 hx;go_wp2_with fail;go_ret
     rw[HA'.o];exact⟨rfl,aG.o⟩
    ·have hx':((x.1:Int)==0)=false:=jeF.2 (by omega)
     have HA':jgt (R=kC op c x):=ae (by rw[HA.o];unfold mQ;rw[jex h5,jex hx]);clear h5 hx;go_wp2_with fail;refine(Uj mV.o HO.o HL.o HF.o).mono ?_;rintro e w4 ⟨rfl,bD⟩;have cL:=ae bD;clear bD;go_wp2_with fail;go_ret
     rw[HA'.o];exact⟨rfl,ai aG.o cL.o⟩
  ·have HA:=ae (Gu.o j hp hj)
   obtain⟨_,y0,y1,y2,_,iF⟩:=fZ.o;have hj':(j:Int)>=(r.length:Int):=(by omega);clear hp Lg Gu vK iF;go_wp2_with fail;go_ret
   rw[HA.o];exact⟨rfl,aG.o⟩
def andN{a b:Nat}(ha:a<=2)(hb:b<=2)(w:World):Calls prog 157 #[.int .u8 (a:Int),.int .u8 (b:Int)] w λe w'=>e=.returned (.int .u8 ((min a b:Nat):Int))/\w'=w:=by
 refine(YP _ _ w).mono ?_;rintro e w1 ⟨rfl,rfl⟩;refine⟨?_,rfl⟩;have h1:tm (a:Int)=(a:Int):=by unfold tm;rw[jex (by omega)]
 have h2:tm (b:Int)=(b:Int):=by unfold tm;rw[jex (by omega)]
 rw[h1,h2];exact mv (by omega)
def orN{a b:Nat}(ha:a<=2)(hb:b<=2)(w:World):Calls prog 158 #[.int .u8 (a:Int),.int .u8 (b:Int)] w λe w'=>e=.returned (.int .u8 ((max a b:Nat):Int))/\w'=w:=by
 refine(BN _ _ w).mono ?_;rintro e w1 ⟨rfl,rfl⟩;refine⟨?_,rfl⟩;have h1:tm (a:Int)=(a:Int):=by unfold tm;rw[jex (by omega)]
 have h2:tm (b:Int)=(b:Int):=by unfold tm;rw[jex (by omega)]
 rw[h1,h2];exact mv (by omega)
def notN{a:Nat}(ha:a<=2)(w:World):Calls prog 195 #[.int .u8 (a:Int)] w λe w'=>e=.returned (.int .u8 ((2-a:Nat):Int))/\w'=w:=by
 refine(YQ _ (by omega) w).mono ?_;rintro e w1 ⟨rfl,rfl⟩;refine⟨?_,rfl⟩;have h1:tm (a:Int)=(a:Int):=by unfold tm;rw[jex (by omega)]
 rw[h1];exact mv (by omega)
def JC{q si:Nat}{fv rv:Value}{l:List Fd}{r:List Cl}(dA:∀ x∈r,aI x)(t:PT):Okp t->Len t->∀(w:World) (b off:Nat),xw w q si fv rv l r->ew w b off t ->
  Calls prog 161 #[.pointer (some ⟨q,0,none⟩),.pointer (some ⟨b,off,none⟩)] w λe w'=>e=.returned (.int .u8 (aW l r t:Int))/\jgu w w':=by
 refine PT.ind (P:=λt=>Okp t->Len t->∀(w:World) (b off:Nat),xw w q si fv rv l r->ew w b off t->Calls prog 161 #[.pointer (some ⟨q,0,none⟩),.pointer (some ⟨b,off,none⟩)] w λe w'=>e=.returned (.int .u8 (aW l r t:Int))/\jgu w w') (λop f c ks ih dD bH w b off hr hlies=>?_) t;have nh:=ae ih;have iy:=ae dA;have HR:=ae hr;simp only[Okp]at dD;simp only[Len]at bH;obtain⟨_,_,mJ,iv⟩:=dD;obtain⟨hl,hlks⟩:=bH;have AO:=ae mJ;have mZ:=ae iv.get;have HL:=ae hl;have HLK:=ae hlks.get;obtain⟨a,cap,sq,nY⟩:=hlies.open;have HN:=ae sq;have HK:=ae nY;have hkf:=nY.form;obtain⟨_,_,Gv,Lh,mj⟩:=hkf;simp only[Value.slice.injEq]at Gv;obtain⟨rfl,_,rfl⟩:=Gv;have hkm':ks.length<=9223372036854775807:=by unfold maxLen at mj;omega
 obtain⟨cy,x0,x1,x2,x3,x4,x5⟩:=sq;clear hr hlies nY mJ iv hl hlks dA ih mj;have HD:jgt (aW l r (.node op f c ks)=if op=6 then evalAnd l r ks 2 else if op=7 then evalOr l r ks 0 else if op=8 then evalNot l r ks else iD l r op f c):=ae (by simp only[aW]);generalize aW l r (.node op f c ks)=R at *;by_cases h6:op=6
 ·subst h6
  rw[jey rfl]at HD;have HD':jgt (R=evalAnd l r (ks.drop 0) 2):=HD;clear HD;go_enter func161,ntmps161
  go_wp2_with fail;go_loopw [5,20] (λs i wr=>∃ k acc:Nat,k<=ks.length/\i=.int .i64 (k:Int)/\s=.int .u8 (acc:Int)/\acc<=2/\R=evalAnd l r (ks.drop k) acc/\jgu w wr) (λ_ i _=>ks.length-(intOf i).toNat)
  case atStart=>exact⟨0,2,by omega,rfl,rfl,by omega,HD'.o,jez _ _⟩
  case round =>
   obtain⟨k,acc,hk,rfl,rfl,kR,fR,ao⟩:=hrel;have HF:=ae fR;have HB:=ae ao;have tQ:=ae kR;have bF:=ao.size;clear fR ao HD' kR x0 x1 x2 x3 x4 x5;by_cases ar:k<ks.length
   ·obtain⟨g,o,rfl,gA⟩:=(HK.o.kept HB.o).at ar
    have hlt':(k:Int)<(ks.length:Int):=(by omega);have HLK2:=ae gA;obtain⟨az,x0,x1,x2,x3,x4,x5⟩:=HN.o.kept HB.o;have HT:=ae (HF.o.trans (rp ar acc));have MN:=ae (im l r ks[k]);have HC:=ae (λ(U:World) (hU:jgu wr U)=>nh.o ks[k] (jeD ar) (mZ.o _ (jeD ar)) (HLK.o _ (jeD ar)) U g (o+k*6) ((HR.o.kept HB.o).kept hU) (ew.kept hU _ _ _ gA));generalize aW l r ks[k]=ev at *;clear gA HF;go_wp2_with fail;refine(HC.o _ (jez _ _)).mono ?_;rintro e w2 ⟨rfl,ap⟩;have aG:=ae (HB.o.trans (ap.mono bF));clear ap;go_wp2_with fail;refine(andN tQ.o MN.o _).mono ?_;rintro e w3 ⟨rfl,rfl⟩;go_wp2_with fail;go_roundw
    case rel=>exact⟨k+1,min acc ev,by omega,by go_num,rfl,by have:=tQ.o;omega,HT.o,aG.o⟩
    case measure=>simp[intOf];omega
   ·obtain rfl:k=ks.length:=by omega
    have ed:¬ ((ks.length:Nat):Int)<(ks.length:Int):=(by omega);have HT:=ae (HF.o.trans (uA acc));clear HF;go_wp2_with fail;go_ret
    rw[HT.o];exact⟨rfl,HB.o⟩
 have n6:((op:Int)==6)=false:=jeF.2 (by omega);by_cases h7:op=7
 ·subst h7
  rw[jex (by omega),jey rfl]at HD;have HD':jgt (R=evalOr l r (ks.drop 0) 0):=HD;clear HD;go_enter func161,ntmps161
  go_wp2_with fail;go_loopw [7,42] (λs i wr=>∃ k acc:Nat,k<=ks.length/\i=.int .i64 (k:Int)/\s=.int .u8 (acc:Int)/\acc<=2/\R=evalOr l r (ks.drop k) acc/\jgu w wr) (λ_ i _=>ks.length-(intOf i).toNat)
  case atStart=>exact⟨0,0,by omega,rfl,rfl,by omega,HD'.o,jez _ _⟩
  case round =>
   obtain⟨k,acc,hk,rfl,rfl,kR,fR,ao⟩:=hrel;have HF:=ae fR;have HB:=ae ao;have tQ:=ae kR;have bF:=ao.size;clear fR ao HD' kR x0 x1 x2 x3 x4 x5;by_cases ar:k<ks.length
   ·obtain⟨g,o,rfl,gA⟩:=(HK.o.kept HB.o).at ar
    have hlt':(k:Int)<(ks.length:Int):=(by omega);have HLK2:=ae gA;obtain⟨az,x0,x1,x2,x3,x4,x5⟩:=HN.o.kept HB.o;have HT:=ae (HF.o.trans (uy ar acc));have MN:=ae (im l r ks[k]);have HC:=ae (λ(U:World) (hU:jgu wr U)=>nh.o ks[k] (jeD ar) (mZ.o _ (jeD ar)) (HLK.o _ (jeD ar)) U g (o+k*6) ((HR.o.kept HB.o).kept hU) (ew.kept hU _ _ _ gA));generalize aW l r ks[k]=ev at *;clear gA HF;go_wp2_with fail;refine(HC.o _ (jez _ _)).mono ?_;rintro e w2 ⟨rfl,ap⟩;have aG:=ae (HB.o.trans (ap.mono bF));clear ap;go_wp2_with fail;refine(orN tQ.o MN.o _).mono ?_;rintro e w3 ⟨rfl,rfl⟩;go_wp2_with fail;go_roundw
    case rel=>exact⟨k+1,max acc ev,by omega,by go_num,rfl,by have:=tQ.o;have:=MN.o;omega,HT.o,aG.o⟩
    case measure=>simp[intOf];omega
   ·obtain rfl:k=ks.length:=by omega
    have ed:¬ ((ks.length:Nat):Int)<(ks.length:Int):=(by omega);have HT:=ae (HF.o.trans (xt acc));clear HF;go_wp2_with fail;go_ret
    rw[HT.o];exact⟨rfl,HB.o⟩
 have n7:((op:Int)==7)=false:=jeF.2 (by omega);rw[jex h6,jex h7]at HD;by_cases h8:op=8
 ·subst h8
  rw[jey rfl]at HD;cases ks with
  | nil =>
   have HD':jgt (R=1):=ae (by rw[HD.o];simp only[evalNot]);clear HD;simp only[jeZ]at *;go_enter func161,ntmps161
   go_wp2_with fail;go_ret
   rw[HD'.o];exact⟨rfl,jez _ _⟩
  | cons k0 ks0 =>
   have HD':jgt (R=2-aW l r k0):=ae (by rw[HD.o];simp only[evalNot]);obtain⟨g,o,rfl,gA⟩:=HK.o.at (i:=0) (by simp);have hlt':(0:Int)<((k0::ks0).length:Int):=by simp only[jeI];omega
   have hz:(((k0::ks0).length:Int)==0)=false:=jeF.2 (by omega);have Gl:((k0::ks0).length:Int)≠0:=(by omega);have HC:=ae (nh.o k0 (by simp) (mZ.o _ (by simp)) (HLK.o _ (by simp)) w g (o+0*6) HR.o (by simpa using gA));rw[Nat.zero_mul,jfk]at HC;have MN:=ae (im l r k0);generalize aW l r k0=ev at *;clear gA HD;generalize (k0::ks0).length=n at *;go_enter func161,ntmps161
   go_wp2_with fail;refine HC.o.mono ?_;rintro e w2 ⟨rfl,ap⟩;have aG:=ae ap;clear ap;go_wp2_with fail;refine(notN MN.o _).mono ?_;rintro e w3 ⟨rfl,rfl⟩;go_wp2_with fail;go_ret
   rw[HD'.o];exact⟨rfl,aG.o⟩
 ·have n8:((op:Int)==8)=false:=jeF.2 (by omega)
  rw[jex h8]at HD;clear h6 h7 h8;go_enter func161,ntmps161
  go_wp2_with fail;refine(rr HR.o HN.o AO.o HL.o iy.o).mono ?_;rintro e w2 ⟨rfl,ap⟩;have aG:=ae ap;clear ap;go_wp2_with fail;go_ret
  rw[HD.o];exact⟨rfl,aG.o⟩
def ti(w:World)(x0 x1 x2 x3 x4 x5:Value)(t:Nat):(w.alloc (.cells #[x0,x1,x2,x3,x4,x5] t)).cell? ⟨w.heap.size,0,none⟩=some x0/\(w.alloc (.cells #[x0,x1,x2,x3,x4,x5] t)).cell? ⟨w.heap.size,1,none⟩=some x1/\(w.alloc (.cells #[x0,x1,x2,x3,x4,x5] t)).cell? ⟨w.heap.size,2,none⟩=some x2/\(w.alloc (.cells #[x0,x1,x2,x3,x4,x5] t)).cell? ⟨w.heap.size,3,none⟩=some x3/\(w.alloc (.cells #[x0,x1,x2,x3,x4,x5] t)).cell? ⟨w.heap.size,4,none⟩=some x4/\(w.alloc (.cells #[x0,x1,x2,x3,x4,x5] t)).cell? ⟨w.heap.size,5,none⟩=some x5:=by
 refine⟨?_,?_,?_,?_,?_,?_⟩<;>simp[go_sem]
def fE(w:World)(op f:Nat)(c:Cl)(kv:Value):et (w.alloc (.cells #[.int .u8 (op:Int),.int .u32 (f:Int),.int .u8 (c.1:Int),.int .i64 c.2.1,.string (bytesT c.2.2),kv] 63)) w.heap.size 0 op f c kv:=by
 obtain⟨h0,h1,h2,h3,h4,h5⟩:=ti w (.int .u8 (op:Int)) (.int .u32 (f:Int)) (.int .u8 (c.1:Int)) (.int .i64 c.2.1) (.string (bytesT c.2.2)) kv 63;exact⟨by rw[jeB];omega,h0,h1,h2,h3,h4,h5⟩
def Ez{w:World}{op f si:Nat}{c:Cl}{ks:List PT}{kv fv rv:Value}{l:List Fd}{r:List Cl}(hk:eF w kv ks)(dD:Okp (.node op f c ks))(bH:Len (.node op f c ks))(hs:Sf w fv l)(hv:Sv w rv (aE r))(dA:∀ x∈r,aI x) :
  Calls prog 113 #[.agg #[.int .u8 (op:Int),.int .u32 (f:Int),.int .u8 (c.1:Int),.int .i64 c.2.1,.string (bytesT c.2.2),kv],.agg #[.int .u32 (si:Int),fv],rv] w λe w'=>e=.returned (.int .u8 (aW l r (.node op f c ks):Int))/\jgu w w':=by
 have HC:=ae (λ(U:World) (b off q:Nat) hr hl=>JC (q:=q) (si:=si) (fv:=fv) (rv:=rv) (l:=l) dA (.node op f c ks) dD bH U b off hr hl);have HK:=ae hk;have HS:=ae hs;have HV:=ae hv;generalize aW l r (.node op f c ks)=R at *;obtain⟨ka,kcap,rfl,_,_⟩:=hk.form;obtain⟨fa,fcap,rfl,_,_⟩:=hs.form;obtain⟨ra,rcap,rfl,_,_⟩:=hv.form1;clear hk hs hv dD bH dA;have hn:=fE w op f c (.slice ka ks.length kcap);have az:=aj w (.cells #[.int .u8 (op:Int),.int .u32 (f:Int),.int .u8 (c.1:Int),.int .i64 c.2.1,.string (bytesT c.2.2),.slice ka ks.length kcap] 63);generalize hA:w.alloc (.cells #[.int .u8 (op:Int),.int .u32 (f:Int),.int .u8 (c.1:Int),.int .i64 c.2.1,.string (bytesT c.2.2),.slice ka ks.length kcap] 63)=A at *;have ap:=aj A (.cells #[.int .u32 (si:Int),.slice fa l.length fcap] 25);obtain⟨e0,e1⟩:=aS A (.int .u32 (si:Int)) (.slice fa l.length fcap) 25;generalize hB:A.alloc (.cells #[.int .u32 (si:Int),.slice fa l.length fcap] 25)=B at *;have aJ:=aj B (.cells #[.int .u32 (si:Int),.slice fa l.length fcap,.slice ra (aE r).length rcap] 216);obtain⟨g0,g1,g2⟩:=cO B (.int .u32 (si:Int)) (.slice fa l.length fcap) (.slice ra (aE r).length rcap) 216;have hz:B.heap.size<(B.alloc (.cells #[.int .u32 (si:Int),.slice fa l.length fcap,.slice ra (aE r).length rcap] 216)).heap.size:=by rw[jeB];omega
 generalize hC:B.alloc (.cells #[.int .u32 (si:Int),.slice fa l.length fcap,.slice ra (aE r).length rcap] 216)=C at *;have iz:jgu w C:=ai (ai az ap) aJ;have WK:jgt (xw C B.heap.size si (.slice fa l.length fcap) (.slice ra (aE r).length rcap) l r):=ae ⟨hz,g0,g1,g2,HS.o.kept iz,HV.o.kept iz⟩;have za:jgt (ew C w.heap.size 0 (.node op f c ks)):=ae (ew.shut ((hn.kept ap).kept aJ) (HK.o.kept iz));have cN:=ae iz;clear hn az ap aJ iz g0 g1 g2 hz;go_enter func113,ntmps113
 go_wp2_with fail;refine(HC.o _ _ _ _ WK.o za.o).mono ?_;rintro e w2 ⟨rfl,ap⟩;have aG:=ae ap;clear ap;go_wp2_with fail;go_ret
 exact⟨rfl,ai cN.o aG.o⟩
def b3V(b:B3):Value:=.agg #[.bool b.1,.bool b.2.1,.bool b.2.2]
def dR(a:B3)(x:Nat):Bool:=if x=0 then a.1 else if x=1 then a.2.1 else a.2.2
def YW(x:Nat)(a:B3):B3:=if x=0 then (true,a.2.1,a.2.2) else if x=1 then (a.1,true,a.2.2) else (a.1,a.2.1,true)
def EA(j:Nat->Nat->Nat)(a b:B3)(x y:Nat)(acc:B3):B3:=if dR a x=true then (if dR b y=true then YW (j x y) acc else acc) else acc
def vm(j:Nat->Nat->Nat)(a b:B3)(x:Nat):Nat->B3->B3
 | 0,acc=>acc
 | y+1,acc=>EA j a b x y (vm j a b x y acc)
def pO(j:Nat->Nat->Nat)(a b:B3):Nat->B3
 | 0=>(false,false,false)
 | x+1=>vm j a b x 3 (pO j a b x)
def EB(a b:B3):pO min a b 3=xo a b:=by
 obtain⟨a0,a1,a2⟩:=a;obtain⟨b0,b1,b2⟩:=b;cases a0<;>cases a1<;>cases a2<;>cases b0<;>cases b1<;>cases b2<;>rfl
def ED(a b:B3):pO max a b 3=xp a b:=by
 obtain⟨a0,a1,a2⟩:=a;obtain⟨b0,b1,b2⟩:=b;cases a0<;>cases a1<;>cases a2<;>cases b0<;>cases b1<;>cases b2<;>rfl
def tj(a:Nat)(h:a=0∨a=1∨a=2)(w:World):Calls prog 155 #[.int .u8 (a:Int)] w λe w'=>e=.returned (.agg #[.bool (decide (a=0)),.bool (decide (a=1)),.bool (decide (a=2))])/\jgu w w':=by
 rcases h with rfl | rfl | rfl
 ·go_enter func155,ntmps155
  go_wp2_with fail;refine bodyPost_ret (v:=.agg #[.bool true,.bool false,.bool false]) (by simp[results,results155,go_sem]) rfl ⟨rfl,?_⟩;exact((jez _ _).alloc (jeA _) _).alloc (by rw[jeB];omega) _
 ·go_enter func155,ntmps155
  go_wp2_with fail;refine bodyPost_ret (v:=.agg #[.bool false,.bool true,.bool false]) (by simp[results,results155,go_sem]) rfl ⟨rfl,?_⟩;exact((jez _ _).alloc (jeA _) _).alloc (by rw[jeB];omega) _
 ·go_enter func155,ntmps155
  go_wp2_with fail;refine bodyPost_ret (v:=.agg #[.bool false,.bool false,.bool true]) (by simp[results,results155,go_sem]) rfl ⟨rfl,?_⟩;exact((jez _ _).alloc (jeA _) _).alloc (by rw[jeB];omega) _
def Pp(a0 a1 a2:Bool)(w:World):Calls prog 159 #[.agg #[.bool a0,.bool a1,.bool a2]] w λe w'=>e=.returned (.agg #[.bool a2,.bool a1,.bool a0])/\jgu w w':=by
 obtain⟨c0,c1,c2⟩:=cO w (.bool a0) (.bool a1) (.bool a2) 123;go_enter func159,ntmps159
 go_wp2_with fail;refine bodyPost_ret (v:=.agg #[.bool a2,.bool a1,.bool a0]) (by simp[results,results159,go_sem]) rfl ⟨rfl,?_⟩;exact((jez _ _).alloc (jeA _) _).alloc (by rw[jeB];omega) _
def idx3(x y z:Value)(w:World):(Instr.index 123 (.agg #[x,y,z]) (.int .i64 0)).run prog w=.ok x w/\(Instr.index 123 (.agg #[x,y,z]) (.int .i64 1)).run prog w=.ok y w/\(Instr.index 123 (.agg #[x,y,z]) (.int .i64 2)).run prog w=.ok z w:=⟨by kernel_rfl,by kernel_rfl,by kernel_rfl⟩
def Flg(W:World)(p:Nat)(o:B3):Prop:=W.heap[p]?=some (.cells #[.bool o.1,.bool o.2.1,.bool o.2.2] 123 (0,0))
def Flg.facts{W:World}{p:Nat}{o:B3}(h:Flg W p o):(W.cell? ⟨p,0,none⟩=some (.bool o.1)/\W.cell? ⟨p,1,none⟩=some (.bool o.2.1)/\W.cell? ⟨p,2,none⟩=some (.bool o.2.2))/\(W.frozen? ⟨p,0,none⟩=false/\W.frozen? ⟨p,1,none⟩=false/\W.frozen? ⟨p,2,none⟩=false)/\p<W.heap.size:=by
 unfold Flg at h;refine⟨⟨by rw[an h];rfl,by rw[an h];rfl,by rw[an h];rfl⟩,⟨by simp[World.frozen?,h],by simp[World.frozen?,h],by simp[World.frozen?,h]⟩,(Array.getElem?_eq_some_iff.1 h).1⟩
def Flg.set{W:World}{p:Nat}{o:B3}(h:Flg W p o)(x:Nat)(hx:x<=2):Flg (W.setCell ⟨p,x,none⟩ (.bool true)) p (YW x o):=by
 unfold Flg at *;rw[aT h];obtain rfl | rfl | rfl:x=0∨x=1∨x=2:=by omega
 all_goals rfl
def Flg.new(w:World)(o:B3):Flg (w.alloc (.cells #[.bool o.1,.bool o.2.1,.bool o.2.2] 123)) w.heap.size o:=by
 exact je2 w _
def Flg.kept{W W':World}{p:Nat}{o:B3}(h:Flg W p o)(hb:jgu W W'):Flg W' p o:=by
 have hp:=h.facts.2.2;unfold Flg at *;rw[hb.block p hp];exact h
def celS(st:Stt):List Value:=[.int .i64 st.rows,.int .i64 st.nulls,.bool st.some,.bool st.high,.int .u8 (st.lo.1:Int),.int .i64 st.lo.2.1,.string (bytesT st.lo.2.2),.int .u8 (st.hi.1:Int),.int .i64 st.hi.2.1,.string (bytesT st.hi.2.2)]
def xz(st:Stt):Value:=.agg #[.int .i64 st.rows,.int .i64 st.nulls,.bool st.some,.bool st.high,.int .u8 (st.lo.1:Int),.int .i64 st.lo.2.1,.string (bytesT st.lo.2.2),.int .u8 (st.hi.1:Int),.int .i64 st.hi.2.1,.string (bytesT st.hi.2.2)]
def Stb(W:World)(q:Nat)(st:Stt):Prop:=W.heap[q]?=some (.cells #[.int .i64 st.rows,.int .i64 st.nulls,.bool st.some,.bool st.high,.int .u8 (st.lo.1:Int),.int .i64 st.lo.2.1,.string (bytesT st.lo.2.2),.int .u8 (st.hi.1:Int),.int .i64 st.hi.2.1,.string (bytesT st.hi.2.2)] 54 (0,0))
def JD(W:World)(b off:Nat)(st:Stt):Prop:=b<W.heap.size/\(W.cell? ⟨b,off,none⟩=some (.int .i64 st.rows)/\W.cell? ⟨b,off+1,none⟩=some (.int .i64 st.nulls)/\W.cell? ⟨b,off+2,none⟩=some (.bool st.some)/\W.cell? ⟨b,off+3,none⟩=some (.bool st.high))/\(W.cell? ⟨b,off+4,none⟩=some (.int .u8 (st.lo.1:Int))/\W.cell? ⟨b,off+5,none⟩=some (.int .i64 st.lo.2.1)/\W.cell? ⟨b,off+6,none⟩=some (.string (bytesT st.lo.2.2)))/\(W.cell? ⟨b,off+7,none⟩=some (.int .u8 (st.hi.1:Int))/\W.cell? ⟨b,off+8,none⟩=some (.int .i64 st.hi.2.1)/\W.cell? ⟨b,off+9,none⟩=some (.string (bytesT st.hi.2.2)))
def JD.kept{W W':World}{b off:Nat}{st:Stt}(h:JD W b off st)(hb:jgu W W'):JD W' b off st:=by
 obtain⟨h0,⟨a1,a2,a3,a4⟩,⟨a5,a6,a7⟩,a8,a9,a10⟩:=h;have e:∀ o,W'.cell? ⟨b,o,none⟩=W.cell? ⟨b,o,none⟩:=λo=>(fA hb).1 b o h0
 exact⟨jeY h0 hb.size,⟨by rw[e];exact a1,by rw[e];exact a2,by rw[e];exact a3,by rw[e];exact a4⟩,⟨by rw[e];exact a5,by rw[e];exact a6,by rw[e];exact a7⟩,by rw[e];exact a8,by rw[e];exact a9,by rw[e];exact a10⟩
def Stb.at{W:World}{q:Nat}{st:Stt}(h:Stb W q st):JD W q 0 st:=by
 unfold Stb at h;exact⟨(Array.getElem?_eq_some_iff.1 h).1,⟨by rw[an h];rfl,by rw[an h];rfl,by rw[an h];rfl,by rw[an h];rfl⟩,⟨by rw[an h];rfl,by rw[an h];rfl,by rw[an h];rfl⟩,by rw[an h];rfl,by rw[an h];rfl,by rw[an h];rfl⟩
def Stb.new(w:World)(st:Stt):Stb (w.alloc (.cells #[.int .i64 st.rows,.int .i64 st.nulls,.bool st.some,.bool st.high,.int .u8 (st.lo.1:Int),.int .i64 st.lo.2.1,.string (bytesT st.lo.2.2),.int .u8 (st.hi.1:Int),.int .i64 st.hi.2.1,.string (bytesT st.hi.2.2)] 54)) w.heap.size st:=je2 w _
def Oks(st:Stt):Prop:=Okc st.lo/\Okc st.hi
def set3{B:Nat}{w W:World}(h:Below B w W){p:Nat}(hp:B<=p)(x y z:Value):Below B w (((W.setCell ⟨p,0,none⟩ x).setCell ⟨p,1,none⟩ y).setCell ⟨p,2,none⟩ z) :=
 ((h.setCell (p:=⟨p,0,none⟩) hp _).setCell (p:=⟨p,1,none⟩) hp _).setCell (p:=⟨p,2,none⟩) hp _
def JE(u:Bool)(c:Cl)(st:Stt):kD u 1 c st=(!(st.high && decide (aD (aH c) (aH st.lo)=0) && decide (aD (aH c) (aH st.hi)=0) && iN (aH c)),u,decide (0<=aD (aH c) (aH st.lo)) && !(st.high && decide (0<aD (aH c) (aH st.hi)))):=rfl
def JF(u:Bool)(c:Cl)(st:Stt):kD u 2 c st=(!(st.high && decide (0<aD (aH c) (aH st.hi))),u,decide (0<aD (aH c) (aH st.lo))):=rfl
def JG(u:Bool)(c:Cl)(st:Stt):kD u 3 c st=(!(st.high && decide (0<=aD (aH c) (aH st.hi))),u,decide (0<=aD (aH c) (aH st.lo))):=rfl
def JH(u:Bool)(c:Cl)(st:Stt):kD u 4 c st=(true,u,true):=rfl
def Uk(u:Bool)(op:Nat)(c:Cl)(st:Stt)(h:¬ (1<=op/\op<=4)):kD u op c st=(true,true,true):=by
 unfold kD;rw[jex (by omega),jex (by omega),jex (by omega),jex (by omega)]
def Ul(w X:World)(b off op f:Nat)(c:Cl)(kv:Value)(u:Bool)(st:Stt):Prop:=jgu w X/\Flg X w.heap.size (false,u,false)/\Stb X (w.heap.size+1) st/\Flg X (w.heap.size+1+1) (false,false,false)/\et X b off op f c kv
def Ul.kept{w X Y:World}{b off op f:Nat}{c:Cl}{kv:Value}{u:Bool}{st:Stt}(h:Ul w X b off op f c kv u st)(hb:jgu X Y):Ul w Y b off op f c kv u st:=by
 obtain⟨h1,h2,h3,h4,h5⟩:=h;refine⟨ai h1 hb,h2.kept hb,?_,h4.kept hb,h5.kept hb⟩;unfold Stb at *;rw[hb.block _ ((Array.getElem?_eq_some_iff.1 h3).1)];exact h3
def Um(m:Int):((m==0)=false/\¬ m>=0/\¬ 0<m/\jgt (decide (0<=m)=false/\decide (m=0)=false/\decide (0<m)=false))∨(m=0/\jgt (decide (0<=m)=true/\decide (m=0)=true/\decide (0<m)=false))∨(m==0)=false/\m>=0/\0<m/\jgt (decide (0<=m)=true/\decide (m=0)=false/\decide (0<m)=true):=by
 obtain h | h | h:m<0∨m=0∨0<m:=by omega
 ·exact Or.inl ⟨jeF.2 (by omega),by omega,by omega,ae (by refine⟨?_,?_,?_⟩<;>simp<;>omega)⟩
 ·exact Or.inr (Or.inl ⟨h,ae (by subst h;decide)⟩)
 ·exact Or.inr (Or.inr ⟨jeF.2 (by omega),by omega,h,ae (by refine⟨?_,?_,?_⟩<;>simp<;>omega)⟩)
def BP{w:World}{b off op f:Nat}{c:Cl}{kv:Value}(hn:et w b off op f c kv)(dD:Okc c)(u:Bool)(st:Stt)(gx:Oks st) :
  Calls prog 194 #[.agg #[.bool false,.bool u,.bool false],.pointer (some ⟨b,off,none⟩),.agg #[.int .i64 st.rows,.int .i64 st.nulls,.bool st.some,.bool st.high,.int .u8 (st.lo.1:Int),.int .i64 st.lo.2.1,.string (bytesT st.lo.2.2),.int .u8 (st.hi.1:Int),.int .i64 st.hi.2.1,.string (bytesT st.hi.2.2)]] w λe w'=>e=.returned (b3V (kD u op c st))/\jgu w w':=by
 have HO:=ae dD;have cF:=ae gx;have cm:=Flg.new w (false,u,false);have az:=aj w (.cells #[.bool false,.bool u,.bool false] 123);have s1:(w.alloc (.cells #[.bool false,.bool u,.bool false] 123)).heap.size=w.heap.size+1:=jeB _ _;simp only at cm;generalize hA:w.alloc (.cells #[.bool false,.bool u,.bool false] 123)=A at *;have cM:=Stb.new A st;have ap:=aj A (.cells #[.int .i64 st.rows,.int .i64 st.nulls,.bool st.some,.bool st.high,.int .u8 (st.lo.1:Int),.int .i64 st.lo.2.1,.string (bytesT st.lo.2.2),.int .u8 (st.hi.1:Int),.int .i64 st.hi.2.1,.string (bytesT st.hi.2.2)] 54);have s2:(A.alloc (.cells #[.int .i64 st.rows,.int .i64 st.nulls,.bool st.some,.bool st.high,.int .u8 (st.lo.1:Int),.int .i64 st.lo.2.1,.string (bytesT st.lo.2.2),.int .u8 (st.hi.1:Int),.int .i64 st.hi.2.1,.string (bytesT st.hi.2.2)] 54)).heap.size=A.heap.size+1:=jeB _ _;generalize hB:A.alloc (.cells #[.int .i64 st.rows,.int .i64 st.nulls,.bool st.some,.bool st.high,.int .u8 (st.lo.1:Int),.int .i64 st.lo.2.1,.string (bytesT st.lo.2.2),.int .u8 (st.hi.1:Int),.int .i64 st.hi.2.1,.string (bytesT st.hi.2.2)] 54)=B at *;have iC:=Flg.new B (false,false,false);have aJ:=aj B (.cells #[.bool false,.bool false,.bool false] 123);simp only at iC;generalize hC:B.alloc (.cells #[.bool false,.bool false,.bool false] 123)=C at *;have s12:B.heap.size=w.heap.size+1+1:=by omega
 have hws:Ul w C b off op f c kv u st:=by
  refine⟨ai (ai az ap) aJ,(cm.kept ap).kept aJ,?_,by rw[<- s12];exact iC,((hn.kept az).kept ap).kept aJ⟩;rw[<- s1];have q:=cM;unfold Stb at *;rw[aJ.block _ ((Array.getElem?_eq_some_iff.1 q).1)];exact q
 have HW0:=ae hws;obtain⟨iz,dP,fY,hg3,cy,x0,x1,x2,x3,x4,x5⟩:=hws;clear hn dD gx cm cM iC az ap aJ iz dP fY hg3;go_enter func194,ntmps194
 go_wp2_with fail;clear hA hB hC;refine(oy HO.o _).mono ?_;rintro e w1 ⟨rfl,hb⟩;have Dg:=ae (HW0.o.kept hb);clear hb x0 x1 x2 x3 x4 x5 cy HW0
 have HQ:jgt (∀ X,Ul w X b off op f c kv u st->(X.cell? ⟨w.heap.size+1,3,none⟩=some (.bool st.high)/\X.cell? ⟨w.heap.size+1,4,none⟩=some (.int .u8 (st.lo.1:Int))/\X.cell? ⟨w.heap.size+1,5,none⟩=some (.int .i64 st.lo.2.1)/\X.cell? ⟨w.heap.size+1,6,none⟩=some (.string (bytesT st.lo.2.2))/\X.cell? ⟨w.heap.size+1,7,none⟩=some (.int .u8 (st.hi.1:Int))/\X.cell? ⟨w.heap.size+1,8,none⟩=some (.int .i64 st.hi.2.1)/\X.cell? ⟨w.heap.size+1,9,none⟩=some (.string (bytesT st.hi.2.2)))/\X.cell? ⟨b,off,none⟩=some (.int .u8 (op:Int))):=ae (λX h=>by
  obtain⟨_,⟨_,_,_,a4⟩,⟨a5,a6,a7⟩,a8,a9,a10⟩:=h.2.2.1.at;simp only[jeU]at *;exact⟨⟨a4,a5,a6,a7,a8,a9,a10⟩,h.2.2.2.2.2.1⟩)
 obtain⟨⟨z3,z4,z5,z6,z7,z8,z9⟩,zo⟩:=HQ.o _ Dg.o;clear s1 s2 s12;go_wp2_with fail;refine(oy cF.o.1 _).mono ?_;rintro e w2 ⟨rfl,hb⟩;have oN:=ae (Dg.o.kept hb);clear hb z3 z4 z5 z6 z7 z8 z9 zo Dg;obtain⟨⟨z3,z4,z5,z6,z7,z8,z9⟩,zo⟩:=HQ.o _ oN.o;go_wp2_with fail;refine(kB (dX HO.o).val (dX cF.o.1).val _).mono ?_;rintro e w3 ⟨rfl,hb⟩;have CL:=ae (oN.o.kept hb);clear hb z3 z4 z5 z6 z7 z8 z9 zo oN;obtain⟨⟨z3,z4,z5,z6,z7,z8,z9⟩,zo⟩:=HQ.o _ CL.o;obtain⟨m,hm⟩:∃ m,m=aD (aH c) (aH st.lo):=⟨_,rfl⟩;rw[show cv ((aH c).1:Int) (aH c).2.1 (bytesT (aH c).2.2) ((aH st.lo).1:Int) (aH st.lo).2.1 (bytesT (aH st.lo).2.2)=m from hm.symm];have HM:=ae hm;clear hm;go_wp2_with fail;refine(oy cF.o.2 _).mono ?_;rintro e w4 ⟨rfl,hb⟩;have XD:=ae (CL.o.kept hb);clear hb z3 z4 z5 z6 z7 z8 z9 zo CL;obtain⟨⟨z3,z4,z5,z6,z7,z8,z9⟩,zo⟩:=HQ.o _ XD.o;go_wp2_with fail;refine(kB (dX HO.o).val (dX cF.o.2).val _).mono ?_;rintro e w5 ⟨rfl,hb⟩;have HW5:=ae (XD.o.kept hb);clear hb z3 z4 z5 z6 z7 z8 z9 zo XD;obtain⟨⟨z3,z4,z5,z6,z7,z8,z9⟩,zo⟩:=HQ.o _ HW5.o;obtain⟨M,hM⟩:∃ m,m=aD (aH c) (aH st.hi):=⟨_,rfl⟩;rw[show cv ((aH c).1:Int) (aH c).2.1 (bytesT (aH c).2.2) ((aH st.hi).1:Int) (aH st.hi).2.1 (bytesT (aH st.hi).2.2)=M from hM.symm];have HMM:=ae hM;clear hM z4 z5 z6 z7 z8 z9 HQ;obtain⟨⟨p0,p1,p2⟩,⟨t0,t1,t2⟩,hpz⟩:=HW5.o.2.1.facts;obtain⟨⟨r0,r1,r2⟩,⟨v0,v1,v2⟩,hrz⟩:=HW5.o.2.2.2.1.facts;have cN:=ae HW5.o.1;have HU:=ae (Pn (dX HO.o));have H1:=ae (JE u c st);have H2:=ae (JF u c st);have H3:=ae (JG u c st);have H4:=ae (JH u c st);have H5:=ae (Uk u op c st);rw[<- HM.o,<- HMM.o]at H1 H2 H3;generalize st.high=hi at *;generalize iN (aH c)=uc at *;obtain⟨R,hR⟩:∃ R,R=kD u op c st:=⟨_,rfl⟩;have HR:=ae hR;clear hR;by_cases h1:op=1∨op=2∨op=3
 ·clear H4 H5 HR
  obtain rfl | rfl | rfl:=h1
  all_goals
   obtain⟨k1,k2,k3,G1⟩ | ⟨rfl,G1⟩ | ⟨k1,k2,k3,G1⟩:=Um m
   all_goals
    obtain⟨l1,l2,l3,G2⟩ | ⟨rfl,G2⟩ | ⟨l1,l2,l3,G2⟩:=Um M
    all_goals
     cases hi
     all_goals
      go_wp2_with fail;first
      | refine bodyPost_ret (by simp[results,results194,go_sem,r0,r1,r2,b3V,H1.o,H2.o,H3.o,G1.o.1,G1.o.2.1,G1.o.2.2,G2.o.1,G2.o.2.1,G2.o.2.2]<;>omega) rfl ⟨rfl,set3 ((cN.o.setCell (p:=⟨w.heap.size,2,none⟩) (jeA _) _).setCell (p:=⟨w.heap.size,0,none⟩) (jeA _) _) (by omega) _ _ _⟩
      | (
       have WJ:=ae (HW5.o.2.1.set 2 (by omega));have qm:jgt (jgu w (w5.setCell ⟨w.heap.size,2,none⟩ (.bool true))):=ae (cN.o.setCell (p:=⟨w.heap.size,2,none⟩) (jeA _) (.bool true))
       have GN:jgt (Flg (w5.setCell ⟨w.heap.size,2,none⟩ (.bool true)) (w.heap.size+1+1) (false,false,false)):=ae (by
        have q:=HW5.o.2.2.2.1;unfold Flg at *;rw[heap_setCell_other w5 ⟨w.heap.size,2,none⟩ (w.heap.size+1+1) _ (show w.heap.size+1+1≠w.heap.size by omega)];exact q)
       clear p0 p1 p2 t0 t1 t2 r0 r1 r2 v0 v1 v2 z3 zo;refine(HU.o _).mono ?_;rintro e w6 ⟨rfl,ct⟩;obtain⟨⟨p0,p1,p2⟩,⟨t0,t1,t2⟩,_⟩:=(WJ.o.kept ct).facts;obtain⟨⟨r0,r1,r2⟩,⟨v0,v1,v2⟩,_⟩:=(GN.o.kept ct).facts;have fV:=ae (ai qm.o ct);clear ct;simp only[YW,Nat.reduceEqDiff,if_true,if_false]at p0 p1 p2;go_wp2_with fail;refine bodyPost_ret (by simp[results,results194,go_sem,r0,r1,r2,b3V,H1.o,G1.o,G2.o]<;>omega) rfl ⟨rfl,set3 (fV.o.setCell (p:=⟨w.heap.size,0,none⟩) (jeA _) _) (by omega) _ _ _⟩)
 have n1:((op:Int)==1)=false:=jeF.2 (by omega);have n2:((op:Int)==2)=false:=jeF.2 (by omega);have n3:((op:Int)==3)=false:=jeF.2 (by omega);by_cases h4:op=4
 ·subst h4
  clear H1 H2 H3 H5 HR;go_wp2_with fail;refine bodyPost_ret (v:=.agg #[.bool true,.bool u,.bool true]) (by simp[results,results194,go_sem,r0,r1,r2]<;>omega) rfl ⟨?_,set3 ((cN.o.setCell (p:=⟨w.heap.size,2,none⟩) (jeA _) _).setCell (p:=⟨w.heap.size,0,none⟩) (jeA _) _) (by omega) _ _ _⟩;rw[H4.o];rfl
 have n4:((op:Int)==4)=false:=jeF.2 (by omega);have H6:=ae (H5.o (by omega));clear h1 h4 H5 H1 H2 H3 H4 HR;go_wp2_with fail;refine bodyPost_ret (v:=.agg #[.bool true,.bool true,.bool true]) (by simp[results,results194,go_sem,r0,r1,r2]) rfl ⟨?_,set3 (set3 cN.o (jeA _) _ _ _) (by omega) _ _ _⟩;rw[H6.o];rfl
def Cov(st:Stt)(x:Cl):Prop:=(x.1=0->0<st.nulls)/\(x.1≠0->st.some=true/\aD (aH st.lo) x<=0/\(st.high=true->aD x (aH st.hi)<=0))
def eM(a b:Cl):aD b a=- aD a b:=YT _ _ _ _ _ _
def dH{a b c:Cl}(h:aD a b<=0)(h2:aD b c<=0):aD a c<=0:=Ua _ _ _ _ _ _ _ _ _ h h2
def xA(a b:Cl):aD a b=-1∨aD a b=0∨aD a b=1:=TZ _ _ _ _ _ _
def Un{a b:B3}{x y:Nat}(hx:x<=2)(hy:y<=2)(ha:dR a x=true)(hb:dR b y=true):dR (xo a b) (min x y)=true:=by
 obtain⟨a0,a1,a2⟩:=a;obtain⟨b0,b1,b2⟩:=b;obtain rfl | rfl | rfl:x=0∨x=1∨x=2:=by omega
 all_goals
  obtain rfl | rfl | rfl:y=0∨y=1∨y=2:=by omega
  all_goals
   simp[dR]at ha hb
   subst ha hb;simp[dR,xo]
def Uo{a b:B3}{x y:Nat}(hx:x<=2)(hy:y<=2)(ha:dR a x=true)(hb:dR b y=true):dR (xp a b) (max x y)=true:=by
 obtain⟨a0,a1,a2⟩:=a;obtain⟨b0,b1,b2⟩:=b;obtain rfl | rfl | rfl:x=0∨x=1∨x=2:=by omega
 all_goals
  obtain rfl | rfl | rfl:y=0∨y=1∨y=2:=by omega
  all_goals
   simp[dR]at ha hb
   subst ha hb;simp[dR,xp]
def Up{a:B3}{x:Nat}(hx:x<=2)(ha:dR a x=true):dR (Ue a) (2-x)=true:=by
 obtain⟨a0,a1,a2⟩:=a;obtain rfl | rfl | rfl:x=0∨x=1∨x=2:=by omega
 all_goals
  simp[dR]at ha
  subst ha;simp[dR,Ue]
def rt{a:B3}{b:Bool}(hn:b=false->a.1=true)(hy:b=true->a.2.2=true):dR a (isM b)=true:=by
 cases b
 ·simpa [isM,dR]using hn rfl
 ·simpa [isM,dR]using hy rfl
def Uq{st:Stt}{x:Cl}(h:Cov st x)(op:Nat)(c:Cl):dR (nI op c st) (mQ op c x)=true:=by
 unfold nI mQ;by_cases h5:op=5
 ·rw[jey h5,jey h5]
  refine rt (λhb=>?_) (λhb=>?_)
  ·exact(h.2 (by simpa using hb)).1
  ·simpa using h.1 (by simpa using hb)
 ·rw[jex h5,jex h5]
  by_cases hx:x.1=0
  ·rw[jey hx]
   have hn:=h.1 hx;split
   ·unfold kD
    repeat' split
    all_goals simp[dR,hn]
   ·simp[dR,hn]
  ·rw[jex hx]
   obtain⟨hs,hlo,AM⟩:=h.2 hx;rw[jey hs];have r1:=xA x (aH c);have s1:=eM x (aH c);have s2:=eM (aH st.lo) (aH c);have s3:=eM (aH st.hi) (aH c);have t1:aD x (aH c)<=0->aD (aH st.lo) (aH c)<=0:=λh=>dH hlo h
   have t2:st.high=true->aD (aH c) x<=0->aD (aH c) (aH st.hi)<=0:=λhh h=>dH h (AM hh)
   have t3:aD (aH c) (aH st.lo)<=0->aD (aH c) x<=0:=λh=>dH h hlo
   have t4:st.high=true->aD (aH st.hi) (aH c)<=0->aD x (aH c)<=0:=λhh h=>dH (AM hh) h
   unfold kC;by_cases h1:op=1
   ·subst h1
    rw[jey rfl,JE];refine rt (λhb=>?_) (λhb=>?_)
    ·have hb':¬ aD x (aH c)=0:=by simpa using hb
     simp only[Bool.not_eq_true',Bool.and_eq_false_imp,jfb,jfF];intro h;exfalso
     obtain⟨⟨hh,hm⟩,hM⟩:=h;have:=t3 (by omega);have:=t4 hh (by omega);omega
    ·have hb':aD x (aH c)=0:=by simpa using hb
     have q1:=t1 (by omega);simp only[jfF,jfb,Bool.not_eq_true',Bool.and_eq_false_imp,jfU];refine⟨by omega,λhh=>?_⟩;have:=t2 hh (by omega);omega
   rw[jex h1];by_cases h2:op=2
   ·subst h2
    rw[jey rfl,JF];refine rt (λhb=>?_) (λhb=>?_)
    ·have hb':¬ aD x (aH c)<0:=by simpa using hb
     simp only[Bool.not_eq_true',Bool.and_eq_false_imp,jfU];intro hh;have:=t2 hh (by omega);omega
    ·have hb':aD x (aH c)<0:=by simpa using hb
     have q1:=t1 (by omega);simp only[jfb];by_cases hz:aD (aH c) (aH st.lo)<=0
     ·have:=t3 hz
      omega
     ·omega
   rw[jex h2];by_cases h3:op=3
   ·subst h3
    rw[jey rfl,JG];refine rt (λhb=>?_) (λhb=>?_)
    ·have hb':¬ aD x (aH c)<=0:=by simpa using hb
     simp only[Bool.not_eq_true',Bool.and_eq_false_imp,jfU];intro hh hM;have:=t4 hh (by omega);omega
    ·have hb':aD x (aH c)<=0:=by simpa using hb
     have q1:=t1 (by omega);simp only[jfb];omega
   rw[jex h3];by_cases h4:op=4
   ·subst h4
    rw[jey rfl,JH];exact rt (λ_=>rfl) (λ_=>rfl)
   ·rw[jex h4,Uk _ _ _ _ (by omega)]
    rfl
def Pq{l:List Fd}{r:List Cl}{sts:List Stt}(hl:r.length=sts.length)(h:∀(j:Nat) (x:Cl) (st:Stt),r[j]?=some x->sts[j]?=some st->Cov st x)(op f:Nat)(c:Cl):dR (fD l sts op f c) (iD l r op f c)=true:=by
 have oT:=Ew l r op f c;cases hp:dV l f with
 | none =>
  unfold fD iD;rw[hp];rfl
 | some j =>
  by_cases hj:j<r.length
  ·unfold fD iD
   rw[hp];simp only;rw[List.getElem?_eq_getElem hj,List.getElem?_eq_getElem (by omega)];exact Uq (h j _ _ (List.getElem?_eq_getElem hj) (List.getElem?_eq_getElem (by omega))) op c
  ·unfold fD iD
   rw[hp];simp only;rw[List.getElem?_eq_none (by omega),List.getElem?_eq_none (by omega)];rfl
def EE{l:List Fd}{r:List Cl}{sts:List Stt}:∀{ks:List PT} {a:B3} {x:Nat},(∀ k∈ks,dR (bI l sts k) (aW l r k)=true)->x<=2->dR a x=true->dR (mayAnd l sts ks a) (evalAnd l r ks x)=true
 | [],a,x,_,_,h=>by simpa only[mayAnd,evalAnd]using h
 | k::ks,a,x,hk,hx,h=>by
  simp only[mayAnd,evalAnd];exact EE (λk' hk'=>hk k' (by simp[hk'])) (by omega) (Un hx (im l r k) h (hk k (by simp)))
def Md{l:List Fd}{r:List Cl}{sts:List Stt}:∀{ks:List PT} {a:B3} {x:Nat},(∀ k∈ks,dR (bI l sts k) (aW l r k)=true)->x<=2->dR a x=true->dR (mayOr l sts ks a) (evalOr l r ks x)=true
 | [],a,x,_,_,h=>by simpa only[mayOr,evalOr]using h
 | k::ks,a,x,hk,hx,h=>by
  simp only[mayOr,evalOr];exact Md (λk' hk'=>hk k' (by simp[hk'])) (by have:=im l r k;omega) (Uo hx (im l r k) h (hk k (by simp)))
def cover{l:List Fd}{r:List Cl}{sts:List Stt}(hl:r.length=sts.length)(h:∀(j:Nat) (x:Cl) (st:Stt),r[j]?=some x->sts[j]?=some st->Cov st x):∀ t,dR (bI l sts t) (aW l r t)=true:=by
 refine PT.ind λop f c ks ih=>?_
 simp only[bI,aW];by_cases h6:op=6
 ·rw[jey h6,jey h6]
  exact EE ih (by omega) rfl
 rw[jex h6,jex h6];by_cases h7:op=7
 ·rw[jey h7,jey h7]
  exact Md ih (by omega) rfl
 rw[jex h7,jex h7];by_cases h8:op=8
 ·rw[jey h8,jey h8]
  cases ks with
  | nil=>simp[mayNot,evalNot,dR]
  | cons k ks =>
   simp only[mayNot,evalNot];exact Up (im l r k) (ih k (by simp))
 rw[jex h8,jex h8];exact Pq hl h op f c
def Me(P:Cl->Bool)(cs:List Cl)(z:Int):Prop:=(z=-1/\∀ j (h:j<cs.length),P cs[j]=false)∨(∃ k,∃(h:k<cs.length),z=(k:Int)/\P cs[k]=true/\∀ j (h:j<cs.length),j<k->P cs[j]=false)
def EF{w:World}{v:Value}{cs:List Cl}(hs:Sv w v (aE cs))(hf:∀ c∈cs,aI c):Calls prog 143 #[v,.func (.func 99) #[] #[]] w λe w'=>(∃ z:Int,e=.returned (.int .i64 z)/\Me (λc=>decide (c.1=0)) cs z)/\jgu w w':=by
 have HS:=ae hs;have HF:=ae hf;obtain⟨a,cap,rfl,bg,bx⟩:=hs.form1;rw[ay]at *;have hcm':cap<=9223372036854775807:=by unfold maxLen at bx;omega
 clear hs hf bx;go_enter func143,ntmps143
 go_wp2_with fail;go_loopw [8] (λi wr=>∃ k:Nat,k<=cs.length/\i=.int .i64 (k:Int)/\(∀ j (h:j<cs.length),j<k->(λc:Cl=>decide (c.1=0)) cs[j]=false)/\jgu w wr) (λi _=>cs.length-(intOf i).toNat)
 case atStart=>exact⟨0,by omega,rfl,λj h hj=>by omega,jez _ _⟩
 case round =>
  obtain⟨k,hk,rfl,ch,ao⟩:=hrel;have HA:=ae ch;have HB:=ae ao;clear ch ao;by_cases ar:k<cs.length
  ·obtain⟨b,off,rfl,hb,z⟩:=(HS.o.kept HB.o).at1 (cw ar)
   have hlt':(k:Int)<(cs.length:Int):=(by omega);have HC:=ae (xv (HF.o cs[k] (jeD ar)));have HP:jgt ((λc:Cl=>decide (c.1=0)) cs[k]=(λc:Cl=>decide (c.1=0)) cs[k]):=ae rfl;obtain⟨pv,hpv⟩:∃ pv,pv=(λc:Cl=>decide (c.1=0)) cs[k]:=⟨_,rfl⟩;have XE:=ae hpv;rw[show (decide (cs[k].1=0))=pv from hpv.symm]at HC;clear hpv HP;generalize eP:cs[k]=c at *;have lE:=ae eP;clear eP;go_wp2_with fail;refine(HC.o _).mono ?_;rintro e w2 ⟨rfl,ap⟩;have aG:=ae (ai HB.o ap);clear ap;cases pv
   ·go_wp2_with fail
    go_roundw
    case rel=>exact⟨k+1,by omega,by go_num,λj h hj=>by
     by_cases hjk:j=k
     ·subst hjk
      rw[lE.o];exact XE.o.symm
     ·exact HA.o j h (by omega),aG.o⟩
    case measure=>simp[intOf];omega
   ·go_wp2_with fail
    go_ret
    exact⟨⟨(k:Int),rfl,Or.inr ⟨k,ar,rfl,by rw[lE.o];exact XE.o.symm,HA.o⟩⟩,aG.o⟩
  ·obtain rfl:k=cs.length:=by omega
   have ed:¬ ((cs.length:Nat):Int)<(cs.length:Int):=(by omega);go_wp2_with fail;go_ret
   exact⟨⟨-1,rfl,Or.inl ⟨rfl,λj h=>HA.o j h h⟩⟩,HB.o⟩
def xB{w:World}{v:Value}{cs:List Cl}(hs:Sv w v (aE cs))(hf:∀ c∈cs,aI c):Calls prog 143 #[v,.func (.func 102) #[] #[]] w λe w'=>(∃ z:Int,e=.returned (.int .i64 z)/\Me (λc=>!cX (lb (bytesT c.2.2))) cs z)/\jgu w w':=by
 have HS:=ae hs;have HF:=ae hf;obtain⟨a,cap,rfl,bg,bx⟩:=hs.form1;rw[ay]at *;have hcm':cap<=9223372036854775807:=by unfold maxLen at bx;omega
 clear hs hf bx;go_enter func143,ntmps143
 go_wp2_with fail;go_loopw [8] (λi wr=>∃ k:Nat,k<=cs.length/\i=.int .i64 (k:Int)/\(∀ j (h:j<cs.length),j<k->(λc:Cl=>!cX (lb (bytesT c.2.2))) cs[j]=false)/\jgu w wr) (λi _=>cs.length-(intOf i).toNat)
 case atStart=>exact⟨0,by omega,rfl,λj h hj=>by omega,jez _ _⟩
 case round =>
  obtain⟨k,hk,rfl,ch,ao⟩:=hrel;have HA:=ae ch;have HB:=ae ao;clear ch ao;by_cases ar:k<cs.length
  ·obtain⟨b,off,rfl,hb,z⟩:=(HS.o.kept HB.o).at1 (cw ar)
   have hlt':(k:Int)<(cs.length:Int):=(by omega);have HC:=ae (Ex (HF.o cs[k] (jeD ar)));have HP:jgt ((λc:Cl=>!cX (lb (bytesT c.2.2))) cs[k]=(λc:Cl=>!cX (lb (bytesT c.2.2))) cs[k]):=ae rfl;obtain⟨pv,hpv⟩:∃ pv,pv=(λc:Cl=>!cX (lb (bytesT c.2.2))) cs[k]:=⟨_,rfl⟩;have XE:=ae hpv;rw[show (!cX (lb (bytesT cs[k].2.2)))=pv from hpv.symm]at HC;clear hpv HP;generalize eP:cs[k]=c at *;have lE:=ae eP;clear eP;go_wp2_with fail;refine(HC.o _).mono ?_;rintro e w2 ⟨rfl,ap⟩;have aG:=ae (ai HB.o ap);clear ap;cases pv
   ·go_wp2_with fail
    go_roundw
    case rel=>exact⟨k+1,by omega,by go_num,λj h hj=>by
     by_cases hjk:j=k
     ·subst hjk
      rw[lE.o];exact XE.o.symm
     ·exact HA.o j h (by omega),aG.o⟩
    case measure=>simp[intOf];omega
   ·go_wp2_with fail
    go_ret
    exact⟨⟨(k:Int),rfl,Or.inr ⟨k,ar,rfl,by rw[lE.o];exact XE.o.symm,HA.o⟩⟩,aG.o⟩
  ·obtain rfl:k=cs.length:=by omega
   have ed:¬ ((cs.length:Nat):Int)<(cs.length:Int):=(by omega);go_wp2_with fail;go_ret
   exact⟨⟨-1,rfl,Or.inl ⟨rfl,λj h=>HA.o j h h⟩⟩,HB.o⟩
def tk{w:World}{ops:Array Oper}{rest:List Oper}{o:Oper}{a:Act}{Q:Exit->Act->World->Prop}(ef:o.guard=none)(s x:Operand)
  (ho:o.op=.call { callee:=.builtin .append,args:=#[s,x],argTypes:=#[79,79] })
  (base:Nat) (v:Value) (ad:Addr) (cap:Nat) (l0 l:List Cl) (hs:a.eval s=v) (ax:OwnV w base v l0) (hx:a.eval x=.slice (some ad) l.length cap) (eg:Sv w (.slice (some ad) l.length cap) (aE l))
  (hbytes:l0.length+l.length<=100000) (aF:base<=w.heap.size)
  (h:∀ v' w',OwnV w' base v' (l0++l)->Below base w w'->wpList prog ops Q rest (a.put o.dst v') w') :
  wpList prog ops Q (o::rest) a w:=by
 obtain⟨i0,hi,bR,hz1',aX⟩:=jeT wB;unfold OwnV at *;obtain⟨ad',cap',hse,h1,h2,h3,h4⟩:=eg;simp only[Value.slice.injEq]at hse;obtain⟨rfl,_,rfl⟩:=hse;rw[ay]at *;refine jfw (w:=w) ef s x 79 ho base 78 i0 .nilIface 1 16 underlying79 hi bR hz1' aX rfl (by decide) v l0.length (aE l0) hs ax ad l.length cap (aE l) hx (by rw[ay];omega) ?_ (yx l) (by unfold maxLen;omega) (by omega) aF ?_
 ·intro j u hu
  have hj:j<l.length:=by
   have:=(List.getElem?_eq_some_iff.1 hu).1;rwa[ay]at this
  obtain⟨b,off,h5,_,h6⟩:=h4 (by omega);cases h5
  rw[kP];exact h6 j u hu
 ·intro v' w' o1 g1 _ _
  refine h v' w' ?_ ((jez base w).grown g1 aF (λk hk=>(ax.lt k hk).1));rw[mo,jeC];exact o1
def pP{w:World}{v:Value}{cs:List Cl}(hs:Sv w v (aE cs))(hl:cs.length<=1000):Calls prog 57 #[v] w λe w'=>(∃ v',e=.returned v'/\OwnV w' w.heap.size v' cs)/\jgu w w':=by
 have HS:=ae hs;obtain⟨ad,cap,rfl,h1,h2,h3,h4⟩:=hs;rw[ay]at *;cases ad with
 | none =>
  have hc:=h3 rfl;subst hc;have tN:cs=[]:=jeW (by omega);subst tN;have hq:(binOp .eql 79 (.slice none 0 0) (.slice none 0 0)).run prog w=.ok (.bool true) w:=jgo w 79 78 none 0 0 0 0 underlying79;go_enter func57,ntmps57
  go_wp2_with fail;go_ret
  exact⟨⟨_,rfl,OwnV.nil _ _⟩,jez _ _⟩
 | some ad =>
  have HN:jgt (OwnV (w.alloc (.cells #[] 78)) w.heap.size (.slice (some ⟨w.heap.size,0,none⟩) 0 0) []):=ae (jf0 (e:=78) (size:=1) w #[] 0 (base:=w.heap.size) (jeA _) (by unfold maxLen;omega) rfl);have fJ:=ae (HS.o.kept (aj w (.cells #[] 78)));clear h3 h4;have hq:(binOp .eql 79 (.slice (some ad) cs.length cap) (.slice none 0 0)).run prog w=.ok (.bool false) w:=jgo w 79 78 (some ad) cs.length cap 0 0 underlying79;go_enter func57,ntmps57
  go_wp2_with (first | (at_builtin;refine tk rfl _ _ rfl w.heap.size _ ad cap [] cs rfl ?q1 rfl ?q2 ?c1 ?c2 ?_))
  case q1=>exact HN.o
  case q2=>exact fJ.o
  case c1=>simp;omega
  case c2=>rw[jeB];omega
  intro v3 w3 o3 aJ;have dL:=ae o3;have aY:=ae ((aj w (.cells #[] 78)).trans aJ);clear o3 aJ;go_wp2_with fail;go_ret
  exact⟨⟨_,rfl,dL.o⟩,aY.o⟩
def aR(cs:List Cl):List Cl:=cs.filter λc=>!decide (c.1=0)
def EG{cs:List Cl}(h:∀ j (h:j<cs.length),decide (cs[j].1=0)=false):aR cs=cs:=by
 unfold aR;rw[List.filter_eq_self];intro c hc;obtain⟨j,hj,rfl⟩:=List.mem_iff_getElem.1 hc;rw[h j hj];rfl
def tn{cs:List Cl}{j:Nat}(h:j<cs.length):aR (cs.take (j+1))=aR (cs.take j)++(if cs[j].1=0 then [] else [cs[j]]):=by
 unfold aR;rw[jf5,List.getElem?_eq_getElem h,jf9];congr 1
 by_cases hc:cs[j].1=0
 ·simp[hc]
 ·simp[hc]
def Del(cs:List Cl)(xs:List Value)(i j:Nat):Prop:=xs.length=cs.length/\i<j/\j<=cs.length/\xs.take i=aE (aR (cs.take j))/\xs.drop j=aE (cs.drop j)
def Del.skip{cs:List Cl}{xs:List Value}{i j:Nat}(h:Del cs xs i j)(hj:j<cs.length)(hn:cs[j].1=0):Del cs xs i (j+1):=by
 obtain⟨h1,h2,h3,h4,h5⟩:=h;refine⟨h1,by omega,by omega,?_,?_⟩
 ·rw[tn hj,jey hn,jeS]
  exact h4
 ·rw[<- jfe,h5]
  unfold aE;rw[<- List.map_drop,jfe]
def Del.keep{cs:List Cl}{xs:List Value}{i j:Nat}(h:Del cs xs i j)(hj:j<cs.length)(hn:¬ cs[j].1=0):Del cs (xs.set i (cz cs[j])) (i+1) (j+1):=by
 obtain⟨h1,h2,h3,h4,h5⟩:=h;refine⟨by rw[jf7];exact h1,by omega,by omega,?_,?_⟩
 ·rw[tn hj,jex hn,mo,<- h4,jf5,List.take_set_of_le (by omega),List.getElem?_set_self (by omega)]
  rfl
 ·rw[List.drop_set_of_lt (by omega),<- jfe,h5]
  unfold aE;rw[<- List.map_drop,jfe]
def Del.get{cs:List Cl}{xs:List Value}{i j:Nat}(h:Del cs xs i j)(hj:j<cs.length):xs[j]?=some (cz cs[j]):=by
 obtain⟨h1,h2,h3,h4,h5⟩:=h;have:=jeG (λl=>l[0]?) h5;simp only[List.getElem?_drop,jfk]at this;rw[this];unfold aE;rw[List.getElem?_map,List.getElem?_drop,jfk,List.getElem?_eq_getElem hj];rfl
def Del.start{cs:List Cl}{k:Nat}(hk:k<cs.length)(hn:cs[k].1=0)(ch:∀ j (h:j<cs.length),j<k->decide (cs[j].1=0)=false):Del cs (aE cs) k (k+1):=by
 refine⟨ay _,by omega,by omega,?_,?_⟩
 ·rw[tn hk,jey hn,jeS,EG (cs:=cs.take k)]
  ·unfold aE
   rw[jf3]
  ·intro j hj
   rw[List.getElem_take];exact ch j (by rw[jeH]at hj;omega) (by rw[jeH]at hj;omega)
 ·unfold aE
  rw[List.map_drop]
def Del.len{cs:List Cl}{xs:List Value}{i j:Nat}(h:Del cs xs i j):(aR (cs.take j)).length=i:=by
 obtain⟨h1,h2,h3,h4,h5⟩:=h;have:=jeG List.length h4;rw[ay,jeH]at this;omega
def xC{w:World}{B:Nat}{v:Value}{cs:List Cl}(ho:OwnV w B v cs)(hf:∀ c∈cs,aI c)(hBw:B<=w.heap.size):Calls prog 98 #[v,.func (.func 99) #[] #[]] w λe w'=>(∃ v',e=.returned v'/\Sv w' v' (aE (aR cs)))/\Below B w w':=by
 have HO:=ae ho;have HF:=ae hf;obtain⟨a,cap,rfl,bg,bx⟩:=aZ ho;have hcm':cap<=9223372036854775807:=by unfold maxLen at bx;omega
 have HI:=ae (EF ho.sv hf);have HCM:=ae bx;clear ho hf bx;go_enter func98,ntmps98
 go_wp2_with fail;refine HI.o.mono ?_;rintro e w1 ⟨⟨z,rfl,hz⟩,az⟩;have aL:=ae (az.mono hBw);have fX:=ae (HO.o.kept az);clear az HI HO;rcases hz with ⟨rfl,ch⟩ | ⟨k0,vL,rfl,hp,ch⟩
 ·have HN:=ae (EG ch)
  clear ch;go_wp2_with fail;go_ret
  refine⟨⟨_,rfl,?_⟩,aL.o⟩;rw[HN.o];exact fX.o.sv
 ·have HDS:=ae (Del.start vL (by simpa using hp) ch)
  obtain⟨g,cap',ed,dP,fY,_⟩:=(zy fX.o).2 (by omega);simp only[Value.slice.injEq]at ed;obtain⟨rfl,_,rfl⟩:=ed;have mY:((k0:Int)==-1)=false:=jeF.2 (by omega);clear hp ch;go_wp2_with fail;go_loopw [5,6] (λa b wr=>∃(i j:Nat) (xs:List Value),a=.int .i64 (i:Int)/\b=.int .i64 (j:Int)/\Del cs xs i j/\wr.ownsRow B 78 1 (.slice (some ⟨g,0,none⟩) cs.length cap) cs.length xs/\Below B w wr) (λ_ b _=>cs.length-(intOf b).toNat)
  case atStart=>exact⟨k0,k0+1,_,rfl,by go_num,HDS.o,fX.o,aL.o⟩
  case round =>
   obtain⟨i,j,xs,rfl,rfl,vO,how,ao⟩:=hrel;have HD:=ae vO;have HO:=ae how;have HB:=ae ao;have QR:=vO.2.1;have hjn:=vO.2.2.1;by_cases ar:j<cs.length
   ·have hlt':(j:Int)<(cs.length:Int):=by omega
    have cj:=(how.cellAt j (by omega)).trans (vO.get ar);have fi:=how.frozenAt i
    obtain⟨ci,hci⟩:∃ u,wr.cell? ⟨g,i,none⟩=some u:=by
     refine⟨xs[i]'(by have:=vO.1;omega),?_⟩;rw[how.cellAt i (by omega),List.getElem?_eq_getElem]
    have HC:=ae (xv (HF.o cs[j] (jeD ar)));have HSK:=ae (vO.skip ar);have HKP:=ae (vO.keep ar);clear vO how ao;generalize eP:cs[j]=c at *;clear eP;have qu:(i:Int)<(cs.length:Int):=(by omega);go_wp2_with fail;refine(HC.o _).mono ?_;rintro e w3 ⟨rfl,aJ⟩;have aY:=ae (HB.o.trans (aJ.mono (jeK hBw HB.o.size)));have dL:=ae (bv HO.o aJ);have fi3:=dL.o.frozenAt i;have ci3:=(aJ.cell (p:=⟨g,i,none⟩) (show g<wr.heap.size by have:=HO.o.lt g rfl;omega)).trans hci;clear aJ fi cj hci;by_cases sE:c.1=0
    ·rw[show decide (c.1=0)=true from jeP sE]
     have na:=ae (HSK.o sE);go_wp2_with fail;go_roundw
     case rel=>exact⟨i,j+1,xs,rfl,by go_num,na.o,dL.o,aY.o⟩
     case measure=>simp[intOf];omega
    ·rw[show decide (c.1=0)=false from jeM sE]
     have na:=ae (HKP.o sE);obtain⟨ty,u,hvc⟩:=jU c sE;rw[hvc]at na ⊢;clear hvc HC HKP HSK;go_wp2_with fail;go_roundw
     case rel=>exact⟨i+1,j+1,_,by go_num,by go_num,na.o,(dL.o.stored i _).1,aY.o.setCell (p:=⟨g,i,none⟩) fY _⟩
     case measure=>simp[intOf];omega
   ·obtain rfl:j=cs.length:=by omega
    have ed:¬ ((cs.length:Nat):Int)<(cs.length:Int):=(by omega);have RE:jgt ((aR cs).length=i):=ae (by have:=vO.len;rwa[jeJ]at this);have pr:jgt (xs.take i=aE (aR cs)):=ae (by have:=vO.2.2.2.1;rwa[jeJ]at this);have qu:(i:Int)<=(cs.length:Int):=(by omega);have hin2:i<=cs.length:=(by omega);have Xy:=vO.1;have hz61:∀ w,(zeroValue 78).run prog w=.ok .nilIface w:=λw=>by kernel_rfl
    have gV:∀ ty,(Builtin.clear_ #[79] ty #[.slice (some ⟨g,i,none⟩) (cs.length-i) (cap-i)]).run prog wr=.ok (.tuple #[]) (wr.setCells g i (List.replicate (cs.length-i) .nilIface)):=λty=>run_clear_slice wr 79 78 ty .nilIface underlying79 hz61 rfl rfl g i (cs.length-i) (cap-i) (by omega) (λt ht=>by
     rw[how.cellAt (i+t) (by omega),List.getElem?_eq_getElem (by omega)];rfl) (λt ht=>how.frozenAt (i+t))
    clear hz61
    have MI:jgt (Sv (wr.setCells g i (List.replicate (cs.length-i) .nilIface)) (.slice (some ⟨g,0,none⟩) i cap) (aE (aR cs))):=ae ⟨some ⟨g,0,none⟩,cap,by rw[ay,RE.o],by rw[ay,RE.o];omega,HCM.o,λh=>by simp at h,λh0=>⟨g,0,rfl,by
     have:=(below_setCells_w (B:=0) (g:=g) (jfl _) (List.replicate (cs.length-i) .nilIface) i wr).size;have:=how.lt g rfl;omega,λt x hx=>by
     have ht:t<i:=by
      have:=(List.getElem?_eq_some_iff.1 hx).1;rw[ay,RE.o]at this;exact this
     rw[jeU,World.cell?_setCells_out g _ i wr ⟨g,t,none⟩ (λ_ _=>Or.inl ht),how.cellAt t (by omega)];rw[<- pr.o,List.getElem?_take_of_lt ht]at hx;exact hx⟩⟩
    have ze:=ae (HB.o.trans (below_setCells_w fY (List.replicate (cs.length-i) .nilIface) i wr));clear vO how ao Xy;go_wp2_with fail;go_ret
    exact⟨⟨_,rfl,MI.o⟩,ze.o⟩
def Me.any{P:Cl->Bool}{cs:List Cl}{z:Int}(h:Me P cs z):decide (z>=0)=cs.any P:=by
 rcases h with ⟨rfl,h⟩ | ⟨k,hk,rfl,h,_⟩
 ·rw[show decide ((-1:Int)>=0)=false from rfl,eq_comm,List.any_eq_false]
  intro c hc;obtain⟨j,hj,rfl⟩:=List.mem_iff_getElem.1 hc;simp[h j hj]
 ·rw[show decide ((k:Int)>=0)=true from jeP (by omega),eq_comm,List.any_eq_true]
  exact⟨cs[k],jeD hk,h⟩
def ex(c:Cl):Bool:=cX (lb (bytesT c.2.2))
def xD{w:World}{v:Value}{cs:List Cl}(hs:Sv w v (aE cs))(hf:∀ c∈cs,aI c):Calls prog 101 #[v,.func (.func 102) #[] #[]] w λe w'=>e=.returned (.bool (!cs.all ex))/\jgu w w':=by
 have HC:=ae (xB hs hf);obtain⟨a,cap,rfl,bg,bx⟩:=hs.form1;clear hs hf;go_enter func101,ntmps101
 go_wp2_with fail;refine HC.o.mono ?_;rintro e w1 ⟨⟨z,rfl,hz⟩,hb⟩
 have HZ:jgt (decide (z>=0)=!cs.all ex):=ae (by
  rw[hz.any,List.not_all_eq_any_not];rfl)
 clear hz;go_wp2_with fail;go_ret
 rw[<- HZ.o];exact⟨rfl,hb⟩
def eG(m:Cl):List Cl->Cl
 | []=>m
 | x::r=>eG (if aD x m<0 then x else m) r
def dt(m:Cl):List Cl->Cl
 | []=>m
 | x::r=>dt (if 0<aD x m then x else m) r
def Pr{m:Cl}{cs:List Cl}{i:Nat}(h:i<cs.length):eG m (cs.drop i)=eG (if aD cs[i] m<0 then cs[i] else m) (cs.drop (i+1)):=by
 rw[je8 h];rfl
def Ps{m:Cl}{cs:List Cl}{i:Nat}(h:i<cs.length):dt m (cs.drop i)=dt (if 0<aD cs[i] m then cs[i] else m) (cs.drop (i+1)):=by
 rw[je8 h];rfl
def Ur{m:Cl}{cs:List Cl}:eG m (cs.drop cs.length)=m:=by rw[jfg];rfl
def Us{m:Cl}{cs:List Cl}:dt m (cs.drop cs.length)=m:=by rw[jfg];rfl
def kE{P:Cl->Prop}:∀{cs:List Cl} {m:Cl},P m->(∀ c∈cs,P c)->P (eG m cs)
 | [],m,h,_=>h
 | x::r,m,h,hr=>by
  unfold eG;refine kE ?_ λc hc=>hr c (by simp[hc])
  split
  ·exact hr x (by simp)
  ·exact h
def lS{P:Cl->Prop}:∀{cs:List Cl} {m:Cl},P m->(∀ c∈cs,P c)->P (dt m cs)
 | [],m,h,_=>h
 | x::r,m,h,hr=>by
  unfold dt;refine lS ?_ λc hc=>hr c (by simp[hc])
  split
  ·exact hr x (by simp)
  ·exact h
def Ut{w:World}{v:Value}{cs:List Cl}(hs:Sv w v (aE cs))(hf:∀ c∈cs,aI c)(dC:0<cs.length):Calls prog 104 #[v,.func (.func 105) #[] #[]] w λe w'=>e=.returned (cz (eG cs[0] (cs.drop 1)))/\jgu w w':=by
 have HS:=ae hs;have HF:=ae hf;have HR:jgt (∃ R,R=eG cs[0] (cs.drop 1)):=ae ⟨_,rfl⟩;obtain⟨R,hR⟩:=HR.o;have fZ:=ae hR;rw[<- hR];clear hR HR;obtain⟨a,cap,rfl,bg,bx⟩:=hs.form1;rw[ay]at *;obtain⟨b0,off0,rfl,cy,z0⟩:=hs.at1 (cw dC);have hcm':cap<=9223372036854775807:=by unfold maxLen at bx;omega
 have XF:=ae (hf cs[0] (jeD dC));have hge1:¬ (cs.length:Int)<1:=by omega
 have hlt0:(0:Int)<(cs.length:Int):=by omega
 rw[jfk]at z0;clear hs hf bx;generalize sE:cs[0]=c0 at *;clear sE;go_enter func104,ntmps104
 go_wp2_with fail;clear z0;go_loopw [5,6] (λs i wr=>∃(k:Nat) (m:Cl),1<=k/\k<=cs.length/\i=.int .i64 (k:Int)/\s=cz m/\aI m/\R=eG m (cs.drop k)/\jgu w wr) (λ_ i _=>cs.length-(intOf i).toNat)
 case atStart=>exact⟨1,c0,by omega,by omega,rfl,rfl,XF.o,fZ.o,jez _ _⟩
 case round =>
  obtain⟨k,m,yp,hk,rfl,rfl,XC,fR,ao⟩:=hrel;have lF:=ae XC;have HE:=ae fR;have HB:=ae ao;clear XC fR ao fZ;by_cases ar:k<cs.length
  ·obtain⟨b,off,he,hb,z⟩:=(HS.o.kept HB.o).at1 (cw ar)
   simp only[Option.some.injEq,Addr.mk.injEq,and_true]at he;obtain⟨rfl,rfl⟩:=he;have hlt':(k:Int)<(cs.length:Int):=(by omega);have Dh:=ae (HF.o cs[k] (jeD ar));have HT:=ae (HE.o.trans (Pr ar));generalize cs[k]=c at *;have HC:=ae (λW=>kB Dh.o.val lF.o.val W);rw[show cv (c.1:Int) c.2.1 (bytesT c.2.2) (m.1:Int) m.2.1 (bytesT m.2.2)=aD c m from rfl]at HC;generalize aD c m=q at *;clear HE;go_wp2_with fail;refine(HC.o _).mono ?_;rintro e w2 ⟨rfl,ap⟩;have aG:=ae (ai HB.o ap);have z2:=(ap.cell (p:=⟨b0,off0+k,none⟩) hb).trans z;clear ap z;by_cases hq:q<0
   ·rw[jey hq]at HT
    go_wp2_with fail;go_roundw
    case rel=>exact⟨k+1,c,by omega,by omega,by go_num,rfl,Dh.o,HT.o,aG.o⟩
    case measure=>simp[intOf];omega
   ·rw[jex hq]at HT
    go_wp2_with fail;go_roundw
    case rel=>exact⟨k+1,m,by omega,by omega,by go_num,rfl,lF.o,HT.o,aG.o⟩
    case measure=>simp[intOf];omega
  ·obtain rfl:k=cs.length:=by omega
   have ed:¬ ((cs.length:Nat):Int)<(cs.length:Int):=(by omega);have HT:=ae (HE.o.trans Ur);clear HE;go_wp2_with fail;go_ret
   rw[HT.o];exact⟨rfl,HB.o⟩
def Uu{w:World}{v:Value}{cs:List Cl}(hs:Sv w v (aE cs))(hf:∀ c∈cs,aI c)(dC:0<cs.length):Calls prog 107 #[v,.func (.func 105) #[] #[]] w λe w'=>e=.returned (cz (dt cs[0] (cs.drop 1)))/\jgu w w':=by
 have HS:=ae hs;have HF:=ae hf;have HR:jgt (∃ R,R=dt cs[0] (cs.drop 1)):=ae ⟨_,rfl⟩;obtain⟨R,hR⟩:=HR.o;have fZ:=ae hR;rw[<- hR];clear hR HR;obtain⟨a,cap,rfl,bg,bx⟩:=hs.form1;rw[ay]at *;obtain⟨b0,off0,rfl,cy,z0⟩:=hs.at1 (cw dC);have hcm':cap<=9223372036854775807:=by unfold maxLen at bx;omega
 have XF:=ae (hf cs[0] (jeD dC));have hge1:¬ (cs.length:Int)<1:=by omega
 have hlt0:(0:Int)<(cs.length:Int):=by omega
 rw[jfk]at z0;clear hs hf bx;generalize sE:cs[0]=c0 at *;clear sE;go_enter func107,ntmps107
 go_wp2_with fail;clear z0;go_loopw [5,6] (λs i wr=>∃(k:Nat) (m:Cl),1<=k/\k<=cs.length/\i=.int .i64 (k:Int)/\s=cz m/\aI m/\R=dt m (cs.drop k)/\jgu w wr) (λ_ i _=>cs.length-(intOf i).toNat)
 case atStart=>exact⟨1,c0,by omega,by omega,rfl,rfl,XF.o,fZ.o,jez _ _⟩
 case round =>
  obtain⟨k,m,yp,hk,rfl,rfl,XC,fR,ao⟩:=hrel;have lF:=ae XC;have HE:=ae fR;have HB:=ae ao;clear XC fR ao fZ;by_cases ar:k<cs.length
  ·obtain⟨b,off,he,hb,z⟩:=(HS.o.kept HB.o).at1 (cw ar)
   simp only[Option.some.injEq,Addr.mk.injEq,and_true]at he;obtain⟨rfl,rfl⟩:=he;have hlt':(k:Int)<(cs.length:Int):=(by omega);have Dh:=ae (HF.o cs[k] (jeD ar));have HT:=ae (HE.o.trans (Ps ar));generalize cs[k]=c at *;have HC:=ae (λW=>kB Dh.o.val lF.o.val W);rw[show cv (c.1:Int) c.2.1 (bytesT c.2.2) (m.1:Int) m.2.1 (bytesT m.2.2)=aD c m from rfl]at HC;generalize aD c m=q at *;clear HE;go_wp2_with fail;refine(HC.o _).mono ?_;rintro e w2 ⟨rfl,ap⟩;have aG:=ae (ai HB.o ap);have z2:=(ap.cell (p:=⟨b0,off0+k,none⟩) hb).trans z;clear ap z;by_cases hq:0<q
   ·rw[jey hq]at HT
    go_wp2_with fail;go_roundw
    case rel=>exact⟨k+1,c,by omega,by omega,by go_num,rfl,Dh.o,HT.o,aG.o⟩
    case measure=>simp[intOf];omega
   ·rw[jex hq]at HT
    go_wp2_with fail;go_roundw
    case rel=>exact⟨k+1,m,by omega,by omega,by go_num,rfl,lF.o,HT.o,aG.o⟩
    case measure=>simp[intOf];omega
  ·obtain rfl:k=cs.length:=by omega
   have ed:¬ ((cs.length:Nat):Int)<(cs.length:Int):=(by omega);have HT:=ae (HE.o.trans Us);clear HE;go_wp2_with fail;go_ret
   rw[HT.o];exact⟨rfl,HB.o⟩
def tp(a:Cl):aD a a=0:=(rh _ _ _ _ _ _).2 ⟨rfl,rfl,rfl⟩
def BQ:∀(cs:List Cl) (m:Cl),aD (eG m cs) m<=0/\∀ x∈cs,aD (eG m cs) x<=0
 | [],m=>⟨by unfold eG;rw[tp];omega,λx hx=>by simp at hx⟩
 | y::r,m=>by
  unfold eG;obtain⟨h1,h2⟩:=BQ r (if aD y m<0 then y else m);by_cases h:aD y m<0
  ·rw[jey h]at h1 h2 ⊢
   refine⟨dH h1 (by omega),λx hx=>?_⟩;rcases jeL.1 hx with rfl | hx
   ·exact h1
   ·exact h2 x hx
  ·rw[jex h]at h1 h2 ⊢
   have hs:=eM y m;refine⟨h1,λx hx=>?_⟩;rcases jeL.1 hx with rfl | hx
   ·exact dH h1 (by omega)
   ·exact h2 x hx
def BS:∀(cs:List Cl) (m:Cl),aD m (dt m cs)<=0/\∀ x∈cs,aD x (dt m cs)<=0
 | [],m=>⟨by unfold dt;rw[tp];omega,λx hx=>by simp at hx⟩
 | y::r,m=>by
  unfold dt;obtain⟨h1,h2⟩:=BS r (if 0<aD y m then y else m);have hs:=eM y m;by_cases h:0<aD y m
  ·rw[jey h]at h1 h2 ⊢
   refine⟨dH (by omega) h1,λx hx=>?_⟩;rcases jeL.1 hx with rfl | hx
   ·exact h1
   ·exact h2 x hx
  ·rw[jex h]at h1 h2 ⊢
   refine⟨h1,λx hx=>?_⟩;rcases jeL.1 hx with rfl | hx
   ·exact dH (by omega) h1
   ·exact h2 x hx
def Uv{a b:ByteArray}(h:Op.bytesLess b.toList a.toList=false):cS a b<=0:=by
 rcases iT a b with ⟨h1,_⟩ | ⟨h1,_⟩ | ⟨h1,_,h3,_⟩
 ·omega
 ·omega
 ·rw[h]at h3
  cases h3
end Go.Proofs.YtpljdjmpamjkhaaGreatDoor
