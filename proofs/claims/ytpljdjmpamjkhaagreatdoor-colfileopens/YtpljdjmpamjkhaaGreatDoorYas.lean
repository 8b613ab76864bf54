import Derived.Test.YtpljdjmpamjkhaaGreatDoorYah
import Derived.Test.YtpljdjmpamjkhaaGreatDoorYar
import Derived.Test.YtpljdjmpamjkhaaGreatDoorYao
set_option linter.unusedVariables false
set_option linter.unusedSimpArgs false
set_option maxRecDepth 100000
set_option maxHeartbeats 2000000
namespace Go.Proofs.YtpljdjmpamjkhaaGreatDoor
open Go.RowKit Go.Lib
open Go.Op (bytesLess)
theorem qL{w:World}{B:Nat}{cs:Array Value}{l:List UInt8}(hB:B<=w.heap.size)(hl:l.length<=4)(h:cs.toList=aV l) :
  (w.alloc (.cells cs 5)).ownsRow B 5 1 (.slice (some ⟨w.heap.size,0,none⟩) l.length l.length) l.length (aV l):=by
 rw[← h];have hs:cs.size=l.length*1:=by rw[← Array.length_toList,h];simp[aV]
 exact jaT w cs l.length hB (by unfold maxLen;omega) hs
theorem K6(c:Nat)(h:c<=1114111)(w:World) :
  Calls Tryz.prog 109 #[.int .i64 (c:Int)] w fun e w'=>(∃ v,e=.returned v/\w'.ownsRow w.heap.size 5 1 v (dO c).length (aV (dO c)))/\Below w.heap.size w w':=by
 by_cases h1:(c:Int)<128
 ·have he:dO c=[bt c]:=by unfold dO;rw[if_pos (by omega)]
  rw[he];have e0:=cz (n:=c) (by omega);have HE:=ae e0;clear he e0;go_enter Tryz.func109,Tryz.ntmps109
  go_wp2_with fail;go_ret
  refine⟨⟨_,rfl,?_⟩,(ZQ _ _).alloc (ZR _) _⟩;exact qL (l:=[bt c]) (ZR _) (by simp) (by simp[aV,HE.out])
 ·by_cases h2:(c:Int)<2048
  ·have he:dO c=[bt (192+c / 64),bt (128+c % 64)]:=by unfold dO;rw[if_neg (by omega),if_pos (by omega)]
   rw[he];have HE:=ae (And.intro (cz (n:=192+c / 64) (by omega)) (cz (n:=128+c % 64) (by omega)));clear he;go_enter Tryz.func109,Tryz.ntmps109
   go_wp2_with fail;go_ret
   refine⟨⟨_,rfl,?_⟩,(ZQ _ _).alloc (ZR _) _⟩;refine qL (l:=[bt (192+c / 64),bt (128+c % 64)]) (ZR _) (by simp) ?_;simp[aV,HE.out.1,HE.out.2]
  ·by_cases h3:(c:Int)<65536
   ·have he:dO c=[bt (224+c / 4096),bt (128+c / 64 % 64),bt (128+c % 64)]:=by unfold dO;rw[if_neg (by omega),if_neg (by omega),if_pos (by omega)]
    rw[he];have HE:=ae (And.intro (cz (n:=224+c / 4096) (by omega)) (And.intro (cz (n:=128+c / 64 % 64) (by omega)) (cz (n:=128+c % 64) (by omega))));clear he;go_enter Tryz.func109,Tryz.ntmps109
    go_wp2_with fail;go_ret
    refine⟨⟨_,rfl,?_⟩,(ZQ _ _).alloc (ZR _) _⟩;refine qL (l:=[bt (224+c / 4096),bt (128+c / 64 % 64),bt (128+c % 64)]) (ZR _) (by simp) ?_;simp[aV,HE.out.1,HE.out.2.1,HE.out.2.2]
   ·have he:dO c=[bt (240+c / 262144),bt (128+c / 4096 % 64),bt (128+c / 64 % 64),bt (128+c % 64)]:=by unfold dO;rw[if_neg (by omega),if_neg (by omega),if_neg (by omega)]
    rw[he];have HE:=ae (And.intro (cz (n:=240+c / 262144) (by omega)) (And.intro (cz (n:=128+c / 4096 % 64) (by omega)) (And.intro (cz (n:=128+c / 64 % 64) (by omega)) (cz (n:=128+c % 64) (by omega)))));clear he;go_enter Tryz.func109,Tryz.ntmps109
    go_wp2_with fail;go_ret
    refine⟨⟨_,rfl,?_⟩,(ZQ _ _).alloc (ZR _) _⟩;refine qL (l:=[bt (240+c / 262144),bt (128+c / 4096 % 64),bt (128+c / 64 % 64),bt (128+c % 64)]) (ZR _) (by simp) ?_;simp[aV,HE.out.1,HE.out.2.1,HE.out.2.2.1,HE.out.2.2.2]
theorem PP{w:World}{B n:Nat}{v:Value}{l:List UInt8}(h:w.ownsRow B 5 1 v n (aV l))(hn:0<l.length):(convert 30 9 v).run Tryz.prog w=.ok (.string ⟨l.toArray⟩) w:=by
 have hl:l.length=n:=by have:=h.1;simpa [aV]using this
 obtain⟨g,cap,rfl,_,_,hc⟩:=(qs h).2 (by omega);rw[← hl];refine run_convert_bytes_back w 30 9 5 ⟨g,0,none⟩ cap l Tryz.underlying30 Tryz.underlying5 Tryz.underlying9 fun j hj=>?_
 have Ha:(⟨g,0,none⟩:Addr).add j=⟨g,j,none⟩:=by unfold Addr.add;split<;>simp_all
 rw[Ha];exact hc j _ (by simp[aV,hj])
def dV(l:List UInt8)(n:Int):Option (List UInt8) :=
 if dI l=true then (if ((V l).length:Int)<=n then some l else if n<1 then none else upL l n.toNat) else none
theorem TO(r:Nat):(r+1=55296->nx r=57344)/\(r+1≠55296->nx r=r+1):=by
 unfold nx;constructor
 ·intro h;rw[if_pos (by omega)]
 ·intro h;rw[if_neg (by omega)]
theorem AE(s:ByteArray)(n:Int)(hs:s.size<=100000)(w:World) :
  Calls Tryz.prog 63 #[.string s,.int .i64 n] w fun e w'=>JA e (dV (lb s) n)/\Below w.heap.size w w':=by
 have hL:=cG s;have hV:=BW (lb s);have HX:Hid (dV (lb s) n=if dI (lb s)=true then (if ((V (lb s)).length:Int)<=n then some (lb s) else if n<1 then none else upL (lb s) n.toNat) else none):=rfl;have HEx:=ae (gF s);have HAp:=ae yI;go_enter Tryz.func63,Tryz.ntmps63
 go_wp2_with fail;refine(nY s hs _).mono ?_;rintro e w1 ⟨⟨a,b,rfl,ha,hb⟩,ay⟩;have HB:=ae ay;have hz:=ay.size;clear ay;obtain⟨⟨ad,cap,rfl,_⟩,UN⟩:=qs ha;obtain⟨⟨ad2,cap2,rfl,_⟩,SH⟩:=qs hb;clear ha hb;have SR:=ae UN;have M0:=ae SH;clear UN SH;generalize eO:dI (lb s)=cl at *;cases cl with
 | false =>
  go_wp2_with fail;go_ret2
  rw[HX.out];exact⟨⟨_,_,rfl,rfl,rfl⟩,HB.out⟩
 | true =>
  by_cases h1:((V (lb s)).length:Int)<=n
  ·rw[if_pos h1]at HX
   go_wp2_with fail;go_ret2
   rw[HX.out];exact⟨⟨_,_,rfl,rfl,rfl⟩,HB.out⟩
  ·rw[if_neg h1]at HX
   by_cases h2:n<1
   ·rw[if_pos h2]at HX
    go_wp2_with fail;go_ret2
    rw[HX.out];exact⟨⟨_,_,rfl,rfl,rfl⟩,HB.out⟩
   ·rw[if_neg h2]at HX
    simp only[if_true]at HX;clear eO;obtain⟨m,rfl⟩:∃ m:Nat,n=(m:Int):=⟨n.toNat,by omega⟩;rw[jah]at HX;obtain⟨ga,ca,hsa,hga,_,UN⟩:=SR.out (by omega);obtain⟨gb,cb,hsb,Mu,_,SH⟩:=M0.out (by omega);simp only[Value.slice.injEq]at hsa hsb;obtain⟨rfl,_,rfl⟩:=hsa;obtain⟨rfl,_,rfl⟩:=hsb;clear SR M0;have SR:=ae UN;have M0:=ae SH;clear UN SH;go_wp2_with fail;go_loopw [9] (fun i w'=>w'=w1/\∃ k:Nat,k<=m/\i=.int .i64 ((k:Int)-1)/\gT (V (lb s)) k=gT (V (lb s)) m) (fun i _=>(intOf i+1).toNat)
    case atStart=>exact⟨rfl,m,ZR _,rfl,rfl⟩
    case round =>
     obtain⟨rfl,k,hk,rfl,tR⟩:=hrel;have HL:=ae tR;clear tR;cases k with
     | zero =>
      go_wp2_with fail;go_ret2
      rw[HX.out,upL,← HL.out];exact⟨⟨_,_,rfl,rfl,rfl⟩,HB.out⟩
     | succ i =>
      have pd:i<(V (lb s)).length:=by omega
      have e1:(((i+1:Nat):Int)-1)=(i:Int):=by omega
      rw[e1];have lp:=SR.out i _ (Jy pd);have kx:=M0.out i _ (Jw pd);have Uz:=(S8 _ (lb s) (ZR _) _ (ZV pd)).1;have ee:(V (lb s)).getD i (0,0)=(V (lb s))[i]:=by rw[List.getD_eq_getElem?_getD,List.getElem?_eq_getElem pd];rfl
      have hol:=(uC (l:=lb s) i (by omega)).1;have HGD:=ae ee;clear ee e1;generalize hr:(V (lb s))[i]=u at *;obtain⟨r,wd⟩:=u;clear hr;simp only at *;have hr:r<=1114111:=by unfold vr at Uz;omega
      have HVR:=ae Uz;clear Uz;by_cases aB:(r:Int)<1114111
      ·have HR:Hid (gT (V (lb s)) m=some i):=by
        show gT (V (lb s)) m=some i
        rw[← HL.out,gT,HGD.out,if_neg (by simp only;omega)]
       have hnv:=Vs HVR.out (by omega);have hnle:nx r<=1114111:=by unfold vr at hnv;omega
       have BR:=ae (K6 (nx r) hnle);obtain⟨n1,n2⟩:=TO r;generalize ho:eH (V (lb s)) i=o at *;have HO:Hid (eH (V (lb s)) i=o):=ho;clear ho;generalize xv:nx r=c at *;have mV:Hid (nx r=c):=xv;clear xv;obtain⟨E,hE⟩:∃ E:ByteArray,E=⟨(dO c).toArray⟩:=⟨_,rfl⟩;have hEl:lb E=dO c:=by rw[hE];simp[lb]
       have hEs:E.size<=4:=by rw[← cG,hEl];exact(ic c).2
       have hXs:(s.extract 0 o).size<=100000:=by rw[← cG,HEx.out];simp;omega
       have Ha:∀ w,(Op.stringOp .add (s.extract 0 o) E).run Tryz.prog w=.ok (.string (s.extract 0 o++E)) w:=fun w=>run_string_add_sum w _ _ (by omega)
       have J5:=ae hEl;have Bv:=ae hE
       have VQ:Hid (∀(w2:World) (B:Nat) (v:Value),w2.ownsRow B 5 1 v (dO c).length (aV (dO c))->(convert 30 9 v).run Tryz.prog w2=.ok (.string E) w2):=fun w2 B v h=>by
        rw[hE];exact PP h (ic c).1
       have Bw:Hid (JA (.returned (.tuple #[.string (s.extract 0 o++E),.bool true])) (dV (lb s) (m:Int))):=by
        refine⟨_,_,rfl,?_,?_⟩
        ·rw[HX.out,upL,HR.out];rfl
        ·rw[HX.out,upL,HR.out,HAp.out,HEx.out,hEl,jaS,HO.out,HGD.out,mV.out]
         simp
       clear hE hEl;have hI1:(0:Int)<=(o:Int):=by omega
       have hI2:(o:Int)<=(s.size:Int):=by omega
       by_cases h55:r+1=55296
       ·obtain rfl:=n1 h55
        obtain rfl:r=55295:=by omega
        clear n1 n2;go_wp2_with fail;go_region_with (first | (go_at_call 109;refine(BR.out _).mono ?_;rintro e w2 ⟨⟨v,rfl,az⟩,aD⟩;have uk:=VQ.out _ _ _ az;have kz:=(aD.cell (p:=⟨gb,i,none⟩) Mu).trans kx;clear az))
        all_goals
         go_wp2_with fail;go_ret2
         refine⟨Bw.out,?_⟩;exact HB.out.drew.trans (aD.mono hz)
       ·obtain rfl:=n2 h55
        have h55b:((r:Int)+1==55296)=false:=by simp;omega
        have zJ:((r+1:Nat):Int)=(r:Int)+1:=by omega
        rw[zJ]at BR;clear zJ;clear n1 n2;go_wp2_with fail;go_region_with (first | (go_at_call 109;refine(BR.out _).mono ?_;rintro e w2 ⟨⟨v,rfl,az⟩,aD⟩;have uk:=VQ.out _ _ _ az;have kz:=(aD.cell (p:=⟨gb,i,none⟩) Mu).trans kx;clear az))
        all_goals
         go_wp2_with fail;go_ret2
         refine⟨Bw.out,?_⟩;exact HB.out.drew.trans (aD.mono hz)
      ·go_wp2_with fail
       go_roundw
       case rel =>
        refine⟨trivial,i,by omega,by go_num,?_⟩;rw[← HL.out,gT,HGD.out,if_pos (by simp only;omega)]
       case measure=>simp[intOf]
theorem sg(rs:List Nat):∀ k,(lx rs).take (eH (rs.map eu) k)=lx (rs.take k):=by
 induction rs with
 | nil=>intro k;simp
 | cons c rs ih =>
  intro k;cases k with
  | zero=>simp
  | succ k =>
   have:eH ((c::rs).map eu) (k+1)=(dO c).length+eH (rs.map eu) k:=by
    simp[eH,eu]
   rw[this,flat_cons,jbn,flat_cons,← ih k,List.take_length_add_append]
theorem zf{u:List (Nat×Nat)}{j k:Nat}(h:j<k):(u.take k).getD j (0,0)=u.getD j (0,0):=by
 simp[List.getD_eq_getElem?_getD,List.getElem?_take,h]
theorem FS(u:List (Nat×Nat))(k:Nat):∀ j,j<=k->gT (u.take k) j=gT u j:=by
 intro j;induction j with
 | zero=>intro _;rfl
 | succ j ih =>
  intro h;simp only[gT];rw[zf (by omega),ih (by omega)]
theorem zg{u:List (Nat×Nat)}{i k:Nat}(h:i<=k):eH (u.take k) i=eH u i:=by
 unfold eH;rw[List.take_take,jaJ h]
theorem PQ{rs:List Nat}(hv:∀ r∈rs,vr r){k:Nat}(hk:k<=rs.length):jH (lx (rs.take k))=upL (lx rs) k:=by
 have X6:∀ r∈rs.take k,vr r:=fun r hr=>hv r (jaw hr)
 have e1:=zW rs hv;have e2:=zW (rs.take k) X6;have hl:((rs.take k).map eu).length=k:=by simp;omega
 unfold jH upL;rw[e1,e2,hl,ja6,FS _ _ _ (ZR _)];cases hg:gT (rs.map eu) k with
 | none=>rfl
 | some i =>
  have hi:=(qt hg).1;simp only[jaS];rw[zf hi,zg (by omega),sg];have h3:=sg (rs.take k) i;rw[ja6,zg (by omega),List.take_take,jaJ (by omega)]at h3;rw[h3]
theorem FT{rs:List Nat}(hv:∀ r∈rs,vr r)(n:Int):bV (lx rs) n=lx (rs.take n.toNat):=by
 unfold bV;rw[zW rs hv,sg]
theorem wn(l:List UInt8)(n:Int):gG l n=dV l n:=by
 unfold gG dV;by_cases hc:dI l=true
 ·rw[if_pos hc,if_pos hc]
  by_cases h1:((V l).length:Int)<=n
  ·rw[if_pos h1,if_pos h1]
  ·rw[if_neg h1,if_neg h1]
   have hl:=Nd hc;have hv:=Nf l;have bQ:(iF l).length=(V l).length:=by simp[iF]
   generalize iF l=rs at *;subst hl;rw[FT hv,PQ hv (by omega)];by_cases h2:n<1
   ·rw[if_pos h2]
    have:n.toNat=0:=by omega
    rw[this];rfl
   ·rw[if_neg h2]
 ·rw[if_neg hc,if_neg hc]
 inductive PT where
 | node (op fld:Nat) (c:Cl) (ks:List PT):PT
theorem PT.ind{P:PT->Prop}(h:∀ op f c ks,(∀ k∈ks,P k)->P (.node op f c ks))(t:PT):P t:=by
 refine PT.rec (motive_1:=P) (motive_2:=fun ks=>∀ k∈ks,P k) (fun op f c ks ih=>h op f c ks ih) (fun k hk=>?_) (fun a ks ha ih k hk=>?_) t
 ·simp at hk
 ·rcases Z6.1 hk with rfl | hk
  ·exact ha
  ·exact ih k hk
abbrev B3:=Bool×Bool×Bool
 structure Stt where
 rows:Int
 nulls:Int
 some:Bool
 high:Bool
 lo:Cl
 hi:Cl
def cO(a b:Cl):Int:=cv (a.1:Int) a.2.1 (am a.2.2) (b.1:Int) b.2.1 (am b.2.2)
def isM(b:Bool):Nat:=if b=true then 2 else 0
def likeM(x c:Cl):Bool:=x.1==3 && c.1==3 && lk (iF (lb (am c.2.2))) (iF (lb (am x.2.2)))
def PR(op:Nat)(c x:Cl):Nat :=
 if op=1 then isM (decide (cO x (ch c)=0)) else if op=2 then isM (decide (cO x (ch c)<0)) else if op=3 then isM (decide (cO x (ch c)<=0)) else if op=4 then isM (likeM x c) else 1
def Da(op:Nat)(c x:Cl):Nat:=if op=5 then isM (decide (x.1=0)) else if x.1=0 then 1 else PR op c x
def oX(l:List Fd)(r:List Cl)(op f:Nat)(c:Cl):Nat :=
 match iG l f with
 | none=>1
 | some j=>match r[j]? with
  | none=>1
  | some x=>Da op c x
 mutual
def jk(l:List Fd)(r:List Cl):PT->Nat
 | .node op f c ks=>if op=6 then evalAnd l r ks 2 else if op=7 then evalOr l r ks 0 else if op=8 then evalNot l r ks else oX l r op f c
def evalAnd(l:List Fd)(r:List Cl):List PT->Nat->Nat
 | [],a=>a
 | k::ks,a=>evalAnd l r ks (min a (jk l r k))
def evalOr(l:List Fd)(r:List Cl):List PT->Nat->Nat
 | [],a=>a
 | k::ks,a=>evalOr l r ks (max a (jk l r k))
def evalNot(l:List Fd)(r:List Cl):List PT->Nat
 | []=>1
 | k::_=>2-jk l r k
 end
def togA(a b:B3):B3:=((a.1 && (b.1 || b.2.1 || b.2.2)) || (a.2.1 && b.1) || (a.2.2 && b.1),(a.2.1 && (b.2.1 || b.2.2)) || (a.2.2 && b.2.1),a.2.2 && b.2.2)
def togO(a b:B3):B3:=(a.1 && b.1,(a.1 && b.2.1) || (a.2.1 && (b.1 || b.2.1)),(a.1 && b.2.2) || (a.2.1 && b.2.2) || (a.2.2 && (b.1 || b.2.1 || b.2.2)))
def conM(a:B3):B3:=(a.2.2,a.2.1,a.1)
def sj(v:Cl):Bool:=decide ((V (lb (am v.2.2))).length<4)
def mM(u:Bool)(op:Nat)(c:Cl)(st:Stt):B3 :=
 if op=1 then (!(st.high && decide (cO (ch c) (ch st.lo)=0) && decide (cO (ch c) (ch st.hi)=0) && sj (ch c)),u,decide (0<=cO (ch c) (ch st.lo)) && !(st.high && decide (0<cO (ch c) (ch st.hi))))
 else if op=2 then (!(st.high && decide (0<cO (ch c) (ch st.hi))),u,decide (0<cO (ch c) (ch st.lo)))
 else if op=3 then (!(st.high && decide (0<=cO (ch c) (ch st.hi))),u,decide (0<=cO (ch c) (ch st.lo)))
 else if op=4 then (true,u,true) else (true,true,true)
def FU(op:Nat)(c:Cl)(st:Stt):B3:=if op=5 then (st.some,false,decide (0<st.nulls)) else if st.some=true then mM (decide (0<st.nulls)) op c st else (false,decide (0<st.nulls),false)
def ko(l:List Fd)(sts:List Stt)(op f:Nat)(c:Cl):B3 :=
 match iG l f with
 | none=>(true,true,true)
 | some j=>match sts[j]? with
  | none=>(true,true,true)
  | some st=>FU op c st
 mutual
def oG(l:List Fd)(sts:List Stt):PT->B3
 | .node op f c ks=>if op=6 then mayAnd l sts ks (false,false,true) else if op=7 then mayOr l sts ks (true,false,false) else if op=8 then mayNot l sts ks else ko l sts op f c
def mayAnd(l:List Fd)(sts:List Stt):List PT->B3->B3
 | [],a=>a
 | k::ks,a=>mayAnd l sts ks (togA a (oG l sts k))
def mayOr(l:List Fd)(sts:List Stt):List PT->B3->B3
 | [],a=>a
 | k::ks,a=>mayOr l sts ks (togO a (oG l sts k))
def mayNot(l:List Fd)(sts:List Stt):List PT->B3
 | []=>(false,true,false)
 | k::_=>conM (oG l sts k)
 end
 mutual
def Len:PT->Prop
 | .node _ _ c ks=>c.2.2.length<=300/\LenAll ks
def LenAll:List PT->Prop
 | []=>True
 | k::ks=>Len k/\LenAll ks
 end
 mutual
def Okp:PT->Prop
 | .node op f c ks=>op<256/\f<4294967296/\Okc c/\OkpAll ks
def OkpAll:List PT->Prop
 | []=>True
 | k::ks=>Okp k/\OkpAll ks
 end
theorem LenAll.get{ks:List PT}(h:LenAll ks):∀ k∈ks,Len k:=by
 induction ks with
 | nil=>intro k hk;simp at hk
 | cons a ks ih =>
  intro k hk;simp only[LenAll]at h;rcases Z6.1 hk with rfl | hk
  ·exact h.1
  ·exact ih h.2 k hk
theorem OkpAll.get{ks:List PT}(h:OkpAll ks):∀ k∈ks,Okp k:=by
 induction ks with
 | nil=>intro k hk;simp at hk
 | cons a ks ih =>
  intro k hk;simp only[OkpAll]at h;rcases Z6.1 hk with rfl | hk
  ·exact h.1
  ·exact ih h.2 k hk
def gH(W:World)(b off op f:Nat)(c:Cl)(kv:Value):Prop :=
 b<W.heap.size/\W.cell? ⟨b,off,none⟩=some (.int .u8 (op:Int))/\W.cell? ⟨b,off+1,none⟩=some (.int .u32 (f:Int))/\W.cell? ⟨b,off+2,none⟩=some (.int .u8 (c.1:Int))/\W.cell? ⟨b,off+3,none⟩=some (.int .i64 c.2.1)/\W.cell? ⟨b,off+4,none⟩=some (.string (am c.2.2))/\W.cell? ⟨b,off+5,none⟩=some kv
theorem gH.kept{W W':World}{b off op f:Nat}{c:Cl}{kv:Value}(h:gH W b off op f c kv)(hb:Below W.heap.size W W'):gH W' b off op f c kv:=by
 obtain⟨h0,h1,h2,h3,h4,h5,h6⟩:=h;have e:∀ o,W'.cell? ⟨b,o,none⟩=W.cell? ⟨b,o,none⟩:=fun o=>(kI hb).1 b o h0
 exact⟨Z9 h0 hb.size,by rw[e];exact h1,by rw[e];exact h2,by rw[e];exact h3,by rw[e];exact h4,by rw[e];exact h5,by rw[e];exact h6⟩
 mutual
def jy(W:World):Nat->Nat->PT->Prop
 | b,off,.node op f c ks=>∃ a cap,gH W b off op f c (.slice a ks.length cap)/\ks.length<=cap/\cap<=maxLen/\(0<ks.length->∃ g o,a=some ⟨g,o,none⟩/\KidsAt W g o ks)
def KidsAt(W:World):Nat->Nat->List PT->Prop
 | _,_,[]=>True
 | g,o,k::ks=>jy W g o k/\KidsAt W g (o+6) ks
 end
theorem KidsAt.mono{W W':World}:∀{ks:List PT} {g o:Nat},(∀ k∈ks,∀ b off,jy W b off k->jy W' b off k)->KidsAt W g o ks->KidsAt W' g o ks
 | [],g,o,_,_=>by simp[KidsAt]
 | k::ks,g,o,hm,h=>by
  simp only[KidsAt]at h ⊢;exact⟨hm k (by simp) _ _ h.1,KidsAt.mono (fun x hx=>hm x (by simp[hx])) h.2⟩
theorem jy.kept{W W':World}(hb:Below W.heap.size W W'):∀(t:PT) (b off:Nat),jy W b off t->jy W' b off t:=by
 refine PT.ind fun op f c ks ih b off h=>?_
 simp only[jy]at h ⊢;obtain⟨a,cap,h1,h2,h3,h4⟩:=h;refine⟨a,cap,h1.kept hb,h2,h3,fun h0=>?_⟩;obtain⟨g,o,h5,h6⟩:=h4 h0;exact⟨g,o,h5,KidsAt.mono ih h6⟩
theorem KidsAt.kept{W W':World}(hb:Below W.heap.size W W'){ks:List PT}{g o:Nat}(h:KidsAt W g o ks):KidsAt W' g o ks:=KidsAt.mono (fun k _=>jy.kept hb k) h
def sk(W:World)(v:Value)(ks:List PT):Prop:=∃ a cap,v=.slice a ks.length cap/\ks.length<=cap/\cap<=maxLen/\(0<ks.length->∃ g o,a=some ⟨g,o,none⟩/\KidsAt W g o ks)
theorem sk.kept{W W':World}{v:Value}{ks:List PT}(h:sk W v ks)(hb:Below W.heap.size W W'):sk W' v ks:=by
 obtain⟨a,cap,h1,h2,h3,h4⟩:=h;refine⟨a,cap,h1,h2,h3,fun h0=>?_⟩;obtain⟨g,o,h5,h6⟩:=h4 h0;exact⟨g,o,h5,h6.kept hb⟩
theorem sk.form{W:World}{v:Value}{ks:List PT}(h:sk W v ks):∃ a cap,v=.slice a ks.length cap/\ks.length<=cap/\cap<=maxLen:=by
 obtain⟨a,cap,h1,h2,h3,_⟩:=h;exact⟨a,cap,h1,h2,h3⟩
theorem jy.open{W:World}{b off op f:Nat}{c:Cl}{ks:List PT}(h:jy W b off (.node op f c ks)):∃ a cap,gH W b off op f c (.slice a ks.length cap)/\sk W (.slice a ks.length cap) ks:=by
 simp only[jy]at h;obtain⟨a,cap,h1,h2,h3,h4⟩:=h;exact⟨a,cap,h1,a,cap,rfl,h2,h3,h4⟩
theorem jy.shut{W:World}{b off op f:Nat}{c:Cl}{ks:List PT}{v:Value}(h:gH W b off op f c v)(hk:sk W v ks):jy W b off (.node op f c ks):=by
 obtain⟨a,cap,rfl,h2,h3,h4⟩:=hk;simp only[jy];exact⟨a,cap,h,h2,h3,h4⟩
theorem JF{c:Cl}(hf:aU c)(w:World):Calls Tryz.prog 100 #[de c] w fun e w'=>e=.returned (.int .u8 (c.1:Int))/\w'=w:=FO hf.val w
theorem PS{c:Cl}(jr:Okc c)(w:World):Calls Tryz.prog 217 #[.agg #[.int .u8 (c.1:Int),.int .i64 c.2.1,.string (am c.2.2)]] w fun e w'=>e=.returned (.tuple #[de (ch c),.int .i64 (flt (c.1:Int) c.2.1 (am c.2.2))])/\Below w.heap.size w w':=by
 by_cases h:flt (c.1:Int) c.2.1 (am c.2.2)=0
 ·refine(TK _ _ _ (by omega) h w).mono ?_
  rintro e w1 ⟨⟨v,rfl,hv⟩,hb⟩;have SS:ch c=c:=if_pos h;have hf:aU c:=by have:=iQ jr;rwa[SS]at this
  rw[SS,h,Nl hf hv];exact⟨rfl,hb⟩
 ·refine(WZ _ _ _ (by simpa using h) w).mono ?_
  rintro e w1 ⟨rfl,hb⟩;have SS:ch c=nul:=if_neg h;rw[SS];exact⟨rfl,hb⟩
theorem ol{c:Cl}(jr:Okc c)(w:World):Calls Tryz.prog 219 #[.agg #[.int .u8 (c.1:Int),.int .i64 c.2.1,.string (am c.2.2)]] w fun e w'=>e=.returned (de (ch c))/\Below w.heap.size w w':=by
 have HO:=ae jr;have cC:=ae (ak w (.cells #[.int .u8 (c.1:Int),.int .i64 c.2.1,.string (am c.2.2)] 52));obtain⟨c0,c1,c2⟩:=dF w (.int .u8 (c.1:Int)) (.int .i64 c.2.1) (.string (am c.2.2)) 52;clear jr;go_enter Tryz.func219,Tryz.ntmps219
 go_wp2_with fail;refine(PS HO.out _).mono ?_;rintro e w1 ⟨rfl,hb⟩;go_wp2_with fail;go_ret
 exact⟨rfl,ai cC.out hb⟩
theorem aU.short{c:Cl}(h:aU c):(am c.2.2).size<=64:=by
 rw[bi];rcases h with rfl | ⟨n,rfl,_⟩ | ⟨b,rfl,_⟩ | ⟨s,rfl,hs,_⟩
 ·simp[nul]
 ·simp
 ·simp
 ·exact hs
theorem K7{c:Cl}(hf:aU c)(w:World):Calls Tryz.prog 220 #[de c] w fun e w'=>e=.returned (.bool (sj c))/\Below w.heap.size w w':=by
 have HF:=ae hf;clear hf;go_enter Tryz.func220,Tryz.ntmps220
 go_wp2_with fail;refine(ly HF.out.val _).mono ?_;rintro e w1 ⟨rfl,hb⟩;have HB:=ae hb;clear hb;obtain⟨c0,c1,c2⟩:=dF w1 (.int .u8 (c.1:Int)) (.int .i64 c.2.1) (.string (am c.2.2)) 52;have aQ:=ae (ak w1 (.cells #[.int .u8 (c.1:Int),.int .i64 c.2.1,.string (am c.2.2)] 52));go_wp2_with fail;refine(yG _ (by have:=HF.out.short;omega) _).mono ?_;rintro e w2 ⟨rfl,hb⟩;have HN:Hid (sj c=decide ((((V (lb (am c.2.2))).length:Nat):Int)<4)):=ae (by unfold sj;exact decide_eq_decide.2 (by omega));generalize (V (lb (am c.2.2))).length=n at *;go_wp2_with fail;go_ret
 exact⟨ke HN.out.symm,ai (ai HB.out aQ.out) hb⟩
theorem Db{c:Cl}(hf:aU c)(w:World):Calls Tryz.prog 102 #[de c] w fun e w'=>e=.returned (.bool (!dI (lb (am c.2.2))))/\Below w.heap.size w w':=by
 have HF:=ae hf;clear hf;go_enter Tryz.func102,Tryz.ntmps102
 go_wp2_with fail;refine(ly HF.out.val _).mono ?_;rintro e w1 ⟨rfl,hb⟩;have HB:=ae hb;clear hb;obtain⟨c0,c1,c2⟩:=dF w1 (.int .u8 (c.1:Int)) (.int .i64 c.2.1) (.string (am c.2.2)) 52;have aQ:=ae (ak w1 (.cells #[.int .u8 (c.1:Int),.int .i64 c.2.1,.string (am c.2.2)] 52));go_wp2_with fail;refine(rW _ (by have:=HF.out.short;omega) _).mono ?_;rintro e w2 ⟨rfl,hb⟩;obtain⟨n,hn⟩:∃ n,n=dI (lb (am c.2.2)):=⟨_,rfl⟩;rw[← hn];have HN:=ae hn;clear hn;go_wp2_with fail;go_ret
 exact⟨ke (by rw[HN.out]),ai (ai HB.out aQ.out) hb⟩
theorem wo{c:Cl}(hf:aU c)(w:World):Calls Tryz.prog 99 #[de c] w fun e w'=>e=.returned (.bool (decide (c.1=0)))/\Below w.heap.size w w':=by
 have HF:=ae hf;clear hf;go_enter Tryz.func99,Tryz.ntmps99
 go_wp2_with fail;refine(JF HF.out _).mono ?_;rintro e w1 ⟨rfl,rfl⟩;go_wp2_with fail;go_ret
 refine⟨ke ?_,ZQ _ _⟩;rw[jba];simp
theorem JG(b:Bool)(w:World):Calls Tryz.prog 221 #[.bool b] w fun e w'=>e=.returned (.int .u8 (isM b:Int))/\w'=w:=by
 refine(W0 b w).mono ?_;rintro e w1 ⟨rfl,rfl⟩;refine⟨?_,rfl⟩;cases b<;>rfl
def zh(W:World)(q si:Nat)(fv rv:Value)(l:List Fd)(r:List Cl):Prop :=
 q<W.heap.size/\W.cell? ⟨q,0,none⟩=some (.int .u32 (si:Int))/\W.cell? ⟨q,1,none⟩=some fv/\W.cell? ⟨q,2,none⟩=some rv/\Sf W fv l/\Sv W rv (aI r)
theorem zh.kept{W W':World}{q si:Nat}{fv rv:Value}{l:List Fd}{r:List Cl}(h:zh W q si fv rv l r)(hb:Below W.heap.size W W'):zh W' q si fv rv l r:=by
 obtain⟨h0,h1,h2,h3,h4,h5⟩:=h;have e:∀ o,W'.cell? ⟨q,o,none⟩=W.cell? ⟨q,o,none⟩:=fun o=>(kI hb).1 q o h0
 exact⟨Z9 h0 hb.size,by rw[e];exact h1,by rw[e];exact h2,by rw[e];exact h3,h4.kept hb,h5.kept hb⟩
theorem FV{l:List Fd}{r:List Cl}{op f:Nat}{c:Cl}(h:iG l f=none):oX l r op f c=1:=by unfold oX;rw[h]
theorem FX{l:List Fd}{r:List Cl}{op f j:Nat}{c:Cl}(h:iG l f=some j)(hj:¬ j<r.length):oX l r op f c=1:=by
 unfold oX;rw[h];simp only;rw[List.getElem?_eq_none (by omega)]
theorem PU{l:List Fd}{r:List Cl}{op f j:Nat}{c:Cl}(h:iG l f=some j)(hj:j<r.length):oX l r op f c=Da op c r[j]:=by
 unfold oX;rw[h];simp only;rw[List.getElem?_eq_getElem hj]
theorem sp(w:World)(x0 x1 x2 x3 x4 x5:Value)(t:Nat):(w.alloc (.cells #[x0,x1,x2,x3,x4,x5] t)).cell? ⟨w.heap.size,0,none⟩=some x0/\(w.alloc (.cells #[x0,x1,x2,x3,x4,x5] t)).cell? ⟨w.heap.size,1,none⟩=some x1/\(w.alloc (.cells #[x0,x1,x2,x3,x4,x5] t)).cell? ⟨w.heap.size,2,none⟩=some x2/\(w.alloc (.cells #[x0,x1,x2,x3,x4,x5] t)).cell? ⟨w.heap.size,3,none⟩=some x3/\(w.alloc (.cells #[x0,x1,x2,x3,x4,x5] t)).cell? ⟨w.heap.size,4,none⟩=some x4/\(w.alloc (.cells #[x0,x1,x2,x3,x4,x5] t)).cell? ⟨w.heap.size,5,none⟩=some x5:=by
 refine⟨?_,?_,?_,?_,?_,?_⟩<;>simp[go_sem]
theorem ws(w:World)(op f:Nat)(c:Cl)(kv:Value):gH (w.alloc (.cells #[.int .u8 (op:Int),.int .u32 (f:Int),.int .u8 (c.1:Int),.int .i64 c.2.1,.string (am c.2.2),kv] 63)) w.heap.size 0 op f c kv:=by
 obtain⟨h0,h1,h2,h3,h4,h5⟩:=sp w (.int .u8 (op:Int)) (.int .u32 (f:Int)) (.int .u8 (c.1:Int)) (.int .i64 c.2.1) (.string (am c.2.2)) kv 63;exact⟨by rw[ZS];omega,h0,h1,h2,h3,h4,h5⟩
def b3V(b:B3):Value:=.agg #[.bool b.1,.bool b.2.1,.bool b.2.2]
def W6(a:B3)(x:Nat):Bool:=if x=0 then a.1 else if x=1 then a.2.1 else a.2.2
def setB(x:Nat)(a:B3):B3:=if x=0 then (true,a.2.1,a.2.2) else if x=1 then (a.1,true,a.2.2) else (a.1,a.2.1,true)
def Flg(W:World)(p:Nat)(o:B3):Prop:=W.heap[p]?=some (.cells #[.bool o.1,.bool o.2.1,.bool o.2.2] 123 (0,0))
theorem Flg.facts{W:World}{p:Nat}{o:B3}(h:Flg W p o):(W.cell? ⟨p,0,none⟩=some (.bool o.1)/\W.cell? ⟨p,1,none⟩=some (.bool o.2.1)/\W.cell? ⟨p,2,none⟩=some (.bool o.2.2))/\(W.frozen? ⟨p,0,none⟩=false/\W.frozen? ⟨p,1,none⟩=false/\W.frozen? ⟨p,2,none⟩=false)/\p<W.heap.size:=by
 unfold Flg at h;refine⟨⟨by rw[ax h];rfl,by rw[ax h];rfl,by rw[ax h];rfl⟩,⟨by simp[World.frozen?,h],by simp[World.frozen?,h],by simp[World.frozen?,h]⟩,(Array.getElem?_eq_some_iff.1 h).1⟩
theorem Flg.set{W:World}{p:Nat}{o:B3}(h:Flg W p o)(x:Nat)(hx:x<=2):Flg (W.setCell ⟨p,x,none⟩ (.bool true)) p (setB x o):=by
 unfold Flg at *;rw[cH h];obtain rfl | rfl | rfl:x=0∨x=1∨x=2:=by omega
 all_goals rfl
theorem Flg.new(w:World)(o:B3):Flg (w.alloc (.cells #[.bool o.1,.bool o.2.1,.bool o.2.2] 123)) w.heap.size o:=by
 exact heap_alloc_new w _
theorem Flg.kept{W W':World}{p:Nat}{o:B3}(h:Flg W p o)(hb:Below W.heap.size W W'):Flg W' p o:=by
 have hp:=h.facts.2.2;unfold Flg at *;rw[hb.block p hp];exact h
end Go.Proofs.YtpljdjmpamjkhaaGreatDoor
