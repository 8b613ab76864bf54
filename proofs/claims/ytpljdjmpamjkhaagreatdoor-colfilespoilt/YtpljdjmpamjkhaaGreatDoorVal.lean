import Derived.Test.YtpljdjmpamjkhaaGreatDoorVak
import Derived.Lib.EndianMore
set_option linter.unusedVariables false
set_option linter.unusedSimpArgs false
set_option maxRecDepth 100000
set_option maxHeartbeats 4000000
namespace Go.Proofs.YtpljdjmpamjkhaaGreatDoor
open Go.RowKit Go.Lib
open Go.Op (bytesLess)
theorem rI{w:World}{B:Nat}{cs:Array Value}{l:List UInt8}(hB:B<=w.heap.size)(hl:l.length<=4)(h:cs.toList=aX l) :
  (w.alloc (.cells cs 5)).ownsRow B 5 1 (.slice (some ⟨w.heap.size,0,none⟩) l.length l.length) l.length (aX l):=by
 rw[← h];have hs:cs.size=l.length*1:=by rw[← Array.length_toList,h];simp[aX]
 exact jfv w cs l.length hB (by unfold maxLen;omega) hs
theorem NU(c:Nat)(h:c<=1114111)(w:World) :
  Calls Tryz.prog 109 #[.int .i64 (c:Int)] w λe w'=>(∃ v,e=.returned v/\w'.ownsRow w.heap.size 5 1 v (dX c).length (aX (dX c)))/\Below w.heap.size w w':=by
 by_cases h1:(c:Int)<128
 ·have he:dX c=[bt c]:=by unfold dX;rw[jei (by omega)]
  rw[he];have e0:=cD (n:=c) (by omega);have HE:=ae e0;clear he e0;go_enter Tryz.func109,Tryz.ntmps109
  go_wp2_with fail;go_ret
  refine⟨⟨_,rfl,?_⟩,(jej _ _).alloc (jek _) _⟩;exact rI (l:=[bt c]) (jek _) (by simp) (by simp[aX,HE.o])
 ·by_cases h2:(c:Int)<2048
  ·have he:dX c=[bt (192+c / 64),bt (128+c % 64)]:=by unfold dX;rw[jeh (by omega),jei (by omega)]
   rw[he];have HE:=ae (And.intro (cD (n:=192+c / 64) (by omega)) (cD (n:=128+c % 64) (by omega)));clear he;go_enter Tryz.func109,Tryz.ntmps109
   go_wp2_with fail;go_ret
   refine⟨⟨_,rfl,?_⟩,(jej _ _).alloc (jek _) _⟩;refine rI (l:=[bt (192+c / 64),bt (128+c % 64)]) (jek _) (by simp) ?_;simp[aX,HE.o.1,HE.o.2]
  ·by_cases h3:(c:Int)<65536
   ·have he:dX c=[bt (224+c / 4096),bt (128+c / 64 % 64),bt (128+c % 64)]:=by unfold dX;rw[jeh (by omega),jeh (by omega),jei (by omega)]
    rw[he];have HE:=ae (And.intro (cD (n:=224+c / 4096) (by omega)) (And.intro (cD (n:=128+c / 64 % 64) (by omega)) (cD (n:=128+c % 64) (by omega))));clear he;go_enter Tryz.func109,Tryz.ntmps109
    go_wp2_with fail;go_ret
    refine⟨⟨_,rfl,?_⟩,(jej _ _).alloc (jek _) _⟩;refine rI (l:=[bt (224+c / 4096),bt (128+c / 64 % 64),bt (128+c % 64)]) (jek _) (by simp) ?_;simp[aX,HE.o.1,HE.o.2.1,HE.o.2.2]
   ·have he:dX c=[bt (240+c / 262144),bt (128+c / 4096 % 64),bt (128+c / 64 % 64),bt (128+c % 64)]:=by unfold dX;rw[jeh (by omega),jeh (by omega),jeh (by omega)]
    rw[he];have HE:=ae (And.intro (cD (n:=240+c / 262144) (by omega)) (And.intro (cD (n:=128+c / 4096 % 64) (by omega)) (And.intro (cD (n:=128+c / 64 % 64) (by omega)) (cD (n:=128+c % 64) (by omega)))));clear he;go_enter Tryz.func109,Tryz.ntmps109
    go_wp2_with fail;go_ret
    refine⟨⟨_,rfl,?_⟩,(jej _ _).alloc (jek _) _⟩;refine rI (l:=[bt (240+c / 262144),bt (128+c / 4096 % 64),bt (128+c / 64 % 64),bt (128+c % 64)]) (jek _) (by simp) ?_;simp[aX,HE.o.1,HE.o.2.1,HE.o.2.2.1,HE.o.2.2.2]
theorem TC{w:World}{B n:Nat}{v:Value}{l:List UInt8}(h:w.ownsRow B 5 1 v n (aX l))(hn:0<l.length):(convert 30 9 v).run Tryz.prog w=.ok (.string ⟨l.toArray⟩) w:=by
 have hl:l.length=n:=by have:=h.1;simpa [aX]using this
 obtain⟨g,cap,rfl,_,_,hc⟩:=(rg h).2 (by omega);rw[← hl];refine run_convert_bytes_back w 30 9 5 ⟨g,0,none⟩ cap l Tryz.underlying30 Tryz.underlying5 Tryz.underlying9 λj hj=>?_
 have KO:(⟨g,0,none⟩:Addr).add j=⟨g,j,none⟩:=by unfold Addr.add;split<;>simp_all
 rw[KO];exact hc j _ (by simp[aX,hj])
def ef(l:List UInt8)(n:Int):Option (List UInt8) :=
 if dS l=true then (if ((V l).length:Int)<=n then some l else if n<1 then none else upL l n.toNat) else none
theorem XU(r:Nat):(r+1=55296->nx r=57344)/\(r+1≠55296->nx r=r+1):=by
 unfold nx;constructor
 ·intro h;rw[jei (by omega)]
 ·intro h;rw[jeh (by omega)]
theorem BW(s:ByteArray)(n:Int)(hs:s.size<=100000)(w:World) :
  Calls Tryz.prog 63 #[.string s,.int .i64 n] w λe w'=>LU e (ef (lb s) n)/\Below w.heap.size w w':=by
 have hL:=cL s;have hV:=Dr (lb s);have HX:jgf (ef (lb s) n=if dS (lb s)=true then (if ((V (lb s)).length:Int)<=n then some (lb s) else if n<1 then none else upL (lb s) n.toNat) else none):=rfl;have HEx:=ae (gS s);have HAp:=ae zQ;go_enter Tryz.func63,Tryz.ntmps63
 go_wp2_with fail;refine(oX s hs _).mono ?_;rintro e w1 ⟨⟨a,b,rfl,ha,hb⟩,az⟩;have HB:=ae az;have hz:=az.size;clear az;obtain⟨⟨ad,cap,rfl,_⟩,Zc⟩:=rg ha;obtain⟨⟨ad2,cap2,rfl,_⟩,WF⟩:=rg hb;clear ha hb;have Rj:=ae Zc;have Rk:=ae WF;clear Zc WF;generalize eX:dS (lb s)=cl at *;cases cl with
 | false =>
  go_wp2_with fail;go_ret2
  rw[HX.o];exact⟨⟨_,_,rfl,rfl,rfl⟩,HB.o⟩
 | true =>
  by_cases h1:((V (lb s)).length:Int)<=n
  ·rw[jei h1]at HX
   go_wp2_with fail;go_ret2
   rw[HX.o];exact⟨⟨_,_,rfl,rfl,rfl⟩,HB.o⟩
  ·rw[jeh h1]at HX
   by_cases h2:n<1
   ·rw[jei h2]at HX
    go_wp2_with fail;go_ret2
    rw[HX.o];exact⟨⟨_,_,rfl,rfl,rfl⟩,HB.o⟩
   ·rw[jeh h2]at HX
    simp only[if_true]at HX;clear eX;obtain⟨m,rfl⟩:∃ m:Nat,n=(m:Int):=⟨n.toNat,by omega⟩;rw[jeQ]at HX;obtain⟨ga,ca,hsa,hga,_,Zc⟩:=Rj.o (by omega);obtain⟨gb,cb,hsb,QB,_,WF⟩:=Rk.o (by omega);simp only[Value.slice.injEq]at hsa hsb;obtain⟨rfl,_,rfl⟩:=hsa;obtain⟨rfl,_,rfl⟩:=hsb;clear Rj Rk;have Rj:=ae Zc;have Rk:=ae WF;clear Zc WF;go_wp2_with fail;go_loopw [9] (λi w'=>w'=w1/\∃ k:Nat,k<=m/\i=.int .i64 ((k:Int)-1)/\il (V (lb s)) k=il (V (lb s)) m) (λi _=>(intOf i+1).toNat)
    case atStart=>exact⟨rfl,m,jek _,rfl,rfl⟩
    case round =>
     obtain⟨rfl,k,hk,rfl,uT⟩:=hrel;have HL:=ae uT;clear uT;cases k with
     | zero =>
      go_wp2_with fail;go_ret2
      rw[HX.o,upL,← HL.o];exact⟨⟨_,_,rfl,rfl,rfl⟩,HB.o⟩
     | succ i =>
      have oF:i<(V (lb s)).length:=(by omega);have e1:(((i+1:Nat):Int)-1)=(i:Int):=(by omega);rw[e1];have lK:=Rj.o i _ (LS oF);have ke:=Rk.o i _ (LR oF);have YN:=(Xd _ (lb s) (jek _) _ (jeo oF)).1;have dY:(V (lb s)).getD i (0,0)=(V (lb s))[i]:=by rw[List.getD_eq_getElem?_getD,List.getElem?_eq_getElem oF];rfl
      have hol:=(vW (l:=lb s) i (by omega)).1;have HGD:=ae dY;clear dY e1;generalize hr:(V (lb s))[i]=u at *;obtain⟨r,wd⟩:=u;clear hr;simp only at *;have hr:r<=1114111:=by unfold vr at YN;omega
      have HVR:=ae YN;clear YN;by_cases aB:(r:Int)<1114111
      ·have HR:jgf (il (V (lb s)) m=some i):=by
        show il (V (lb s)) m=some i
        rw[← HL.o,il,HGD.o,jeh (by simp only;omega)]
       have hnv:=ZP HVR.o (by omega);have hnle:nx r<=1114111:=by unfold vr at hnv;omega
       have Dn:=ae (NU (nx r) hnle);obtain⟨n1,n2⟩:=XU r;generalize ho:eQ (V (lb s)) i=o at *;have HO:jgf (eQ (V (lb s)) i=o):=ho;clear ho;generalize yw:nx r=c at *;have lz:jgf (nx r=c):=yw;clear yw;obtain⟨E,hE⟩:∃ E:ByteArray,E=⟨(dX c).toArray⟩:=⟨_,rfl⟩;have hEl:lb E=dX c:=by rw[hE];simp[lb]
       have hEs:E.size<=4:=by rw[← cL,hEl];exact(iw c).2
       have hXs:(s.extract 0 o).size<=100000:=by rw[← cL,HEx.o];simp;omega
       have KO:∀ w,(Op.stringOp .add (s.extract 0 o) E).run Tryz.prog w=.ok (.string (s.extract 0 o++E)) w:=λw=>run_string_add_sum w _ _ (by omega)
       have MA:=ae hEl;have CV:=ae hE
       have HCV:jgf (∀(w2:World) (B:Nat) (v:Value),w2.ownsRow B 5 1 v (dX c).length (aX (dX c))->(convert 30 9 v).run Tryz.prog w2=.ok (.string E) w2):=λw2 B v h=>by
        rw[hE];exact TC h (iw c).1
       have CW:jgf (LU (.returned (.tuple #[.string (s.extract 0 o++E),.bool true])) (ef (lb s) (m:Int))):=by
        refine⟨_,_,rfl,?_,?_⟩
        ·rw[HX.o,upL,HR.o];rfl
        ·rw[HX.o,upL,HR.o,HAp.o,HEx.o,hEl,jfu,HO.o,HGD.o,lz.o]
         simp
       clear hE hEl;have hI1:(0:Int)<=(o:Int):=(by omega);have hI2:(o:Int)<=(s.size:Int):=(by omega);by_cases h55:r+1=55296
       ·obtain rfl:=n1 h55
        obtain rfl:r=55295:=by omega
        clear n1 n2;go_wp2_with fail;go_region_with (first | (go_at_call 109;refine(Dn.o _).mono ?_;rintro e w2 ⟨⟨v,rfl,aA⟩,aE⟩;have vL:=HCV.o _ _ _ aA;have kQ:=(aE.cell (p:=⟨gb,i,none⟩) QB).trans ke;clear aA))
        all_goals
         go_wp2_with fail;go_ret2
         refine⟨CW.o,?_⟩;exact HB.o.drew.trans (aE.mono hz)
       ·obtain rfl:=n2 h55
        have h55b:((r:Int)+1==55296)=false:=by simp;omega
        have AR:((r+1:Nat):Int)=(r:Int)+1:=(by omega);rw[AR]at Dn;clear AR;clear n1 n2;go_wp2_with fail;go_region_with (first | (go_at_call 109;refine(Dn.o _).mono ?_;rintro e w2 ⟨⟨v,rfl,aA⟩,aE⟩;have vL:=HCV.o _ _ _ aA;have kQ:=(aE.cell (p:=⟨gb,i,none⟩) QB).trans ke;clear aA))
        all_goals
         go_wp2_with fail;go_ret2
         refine⟨CW.o,?_⟩;exact HB.o.drew.trans (aE.mono hz)
      ·go_wp2_with fail
       go_roundw
       case rel =>
        refine⟨trivial,i,by omega,by go_num,?_⟩;rw[← HL.o,il,HGD.o,jei (by simp only;omega)]
       case measure=>simp[intOf]
theorem tm(rs:List Nat):∀ k,(lQ rs).take (eQ (rs.map eu) k)=lQ (rs.take k):=by
 induction rs with
 | nil=>intro k;simp
 | cons c rs ih =>
  intro k;cases k with
  | zero=>simp
  | succ k =>
   have:eQ ((c::rs).map eu) (k+1)=(dX c).length+eQ (rs.map eu) k:=by
    simp[eQ,eu]
   rw[this,flat_cons,jf3,flat_cons,← ih k,List.take_length_add_append]
theorem Am{u:List (Nat×Nat)}{j k:Nat}(h:j<k):(u.take k).getD j (0,0)=u.getD j (0,0):=by
 simp[List.getD_eq_getElem?_getD,List.getElem?_take,h]
theorem Jt(u:List (Nat×Nat))(k:Nat):∀ j,j<=k->il (u.take k) j=il u j:=by
 intro j;induction j with
 | zero=>intro _;rfl
 | succ j ih =>
  intro h;simp only[il];rw[Am (by omega),ih (by omega)]
theorem An{u:List (Nat×Nat)}{i k:Nat}(h:i<=k):eQ (u.take k) i=eQ u i:=by
 unfold eQ;rw[List.take_take,jfk h]
theorem TD{rs:List Nat}(hv:∀ r∈rs,vr r){k:Nat}(hk:k<=rs.length):jX (lQ (rs.take k))=upL (lQ rs) k:=by
 have hv2:∀ r∈rs.take k,vr r:=λr hr=>hv r (je2 hr)
 have e1:=Bj rs hv;have e2:=Bj (rs.take k) hv2;have hl:((rs.take k).map eu).length=k:=by simp;omega
 unfold jX upL;rw[e1,e2,hl,jfJ,Jt _ _ _ (jek _)];cases hg:il (rs.map eu) k with
 | none=>rfl
 | some i =>
  have hi:=(rh hg).1;simp only[jfu];rw[Am hi,An (by omega),tm];have h3:=tm (rs.take k) i;rw[jfJ,An (by omega),List.take_take,jfk (by omega)]at h3;rw[h3]
theorem Ju{rs:List Nat}(hv:∀ r∈rs,vr r)(n:Int):bZ (lQ rs) n=lQ (rs.take n.toNat):=by
 unfold bZ;rw[Bj rs hv,tm]
theorem xz(l:List UInt8)(n:Int):gT l n=ef l n:=by
 unfold gT ef;by_cases hc:dS l=true
 ·rw[jei hc,jei hc]
  by_cases h1:((V l).length:Int)<=n
  ·rw[jei h1,jei h1]
  ·rw[jeh h1,jeh h1]
   have hl:=Rt hc;have hv:=Ru l;have bR:(iU l).length=(V l).length:=by simp[iU]
   generalize iU l=rs at *;subst hl;rw[Ju hv,TD hv (by omega)];by_cases h2:n<1
   ·rw[jei h2]
    have:n.toNat=0:=by omega
    rw[this];rfl
   ·rw[jeh h2]
 ·rw[jeh hc,jeh hc]
 inductive PT where
 | node (op fld:Nat) (c:Cl) (ks:List PT):PT
theorem PT.ind{P:PT->Prop}(h:∀ op f c ks,(∀ k∈ks,P k)->P (.node op f c ks))(t:PT):P t:=by
 refine PT.rec (motive_1:=P) (motive_2:=λks=>∀ k∈ks,P k) (λop f c ks ih=>h op f c ks ih) (λk hk=>?_) (λa ks ha ih k hk=>?_) t
 ·simp at hk
 ·rcases jeC.1 hk with rfl | hk
  ·exact ha
  ·exact ih k hk
abbrev B3:=Bool×Bool×Bool
 structure Stt where
 rows:Int
 nulls:Int
 some:Bool
 high:Bool
 lo:Cl
 hi:Cl
def cW(a b:Cl):Int:=cv (a.1:Int) a.2.1 (am a.2.2) (b.1:Int) b.2.1 (am b.2.2)
def isM(b:Bool):Nat:=if b=true then 2 else 0
def likeM(x c:Cl):Bool:=x.1==3 && c.1==3 && lk (iU (lb (am c.2.2))) (iU (lb (am x.2.2)))
def TE(op:Nat)(c x:Cl):Nat :=
 if op=1 then isM (decide (cW x (bq c)=0)) else if op=2 then isM (decide (cW x (bq c)<0)) else if op=3 then isM (decide (cW x (bq c)<=0)) else if op=4 then isM (likeM x c) else 1
def EF(op:Nat)(c x:Cl):Nat:=if op=5 then isM (decide (x.1=0)) else if x.1=0 then 1 else TE op c x
def pM(l:List Fd)(r:List Cl)(op f:Nat)(c:Cl):Nat :=
 match iV l f with
 | none=>1
 | some j=>match r[j]? with
  | none=>1
  | some x=>EF op c x
 mutual
def jA(l:List Fd)(r:List Cl):PT->Nat
 | .node op f c ks=>if op=6 then evalAnd l r ks 2 else if op=7 then evalOr l r ks 0 else if op=8 then evalNot l r ks else pM l r op f c
def evalAnd(l:List Fd)(r:List Cl):List PT->Nat->Nat
 | [],a=>a
 | k::ks,a=>evalAnd l r ks (min a (jA l r k))
def evalOr(l:List Fd)(r:List Cl):List PT->Nat->Nat
 | [],a=>a
 | k::ks,a=>evalOr l r ks (max a (jA l r k))
def evalNot(l:List Fd)(r:List Cl):List PT->Nat
 | []=>1
 | k::_=>2-jA l r k
 end
def togA(a b:B3):B3:=((a.1 && (b.1 || b.2.1 || b.2.2)) || (a.2.1 && b.1) || (a.2.2 && b.1),(a.2.1 && (b.2.1 || b.2.2)) || (a.2.2 && b.2.1),a.2.2 && b.2.2)
def togO(a b:B3):B3:=(a.1 && b.1,(a.1 && b.2.1) || (a.2.1 && (b.1 || b.2.1)),(a.1 && b.2.2) || (a.2.1 && b.2.2) || (a.2.2 && (b.1 || b.2.1 || b.2.2)))
def conM(a:B3):B3:=(a.2.2,a.2.1,a.1)
def tn(v:Cl):Bool:=decide ((V (lb (am v.2.2))).length<4)
def nk(u:Bool)(op:Nat)(c:Cl)(st:Stt):B3 :=
 if op=1 then (!(st.high && decide (cW (bq c) (bq st.lo)=0) && decide (cW (bq c) (bq st.hi)=0) && tn (bq c)),u,decide (0<=cW (bq c) (bq st.lo)) && !(st.high && decide (0<cW (bq c) (bq st.hi))))
 else if op=2 then (!(st.high && decide (0<cW (bq c) (bq st.hi))),u,decide (0<cW (bq c) (bq st.lo)))
 else if op=3 then (!(st.high && decide (0<=cW (bq c) (bq st.hi))),u,decide (0<=cW (bq c) (bq st.lo)))
 else if op=4 then (true,u,true) else (true,true,true)
def Jv(op:Nat)(c:Cl)(st:Stt):B3:=if op=5 then (st.some,false,decide (0<st.nulls)) else if st.some=true then nk (decide (0<st.nulls)) op c st else (false,decide (0<st.nulls),false)
def kI(l:List Fd)(sts:List Stt)(op f:Nat)(c:Cl):B3 :=
 match iV l f with
 | none=>(true,true,true)
 | some j=>match sts[j]? with
  | none=>(true,true,true)
  | some st=>Jv op c st
 mutual
def pq(l:List Fd)(sts:List Stt):PT->B3
 | .node op f c ks=>if op=6 then mayAnd l sts ks (false,false,true) else if op=7 then mayOr l sts ks (true,false,false) else if op=8 then mayNot l sts ks else kI l sts op f c
def mayAnd(l:List Fd)(sts:List Stt):List PT->B3->B3
 | [],a=>a
 | k::ks,a=>mayAnd l sts ks (togA a (pq l sts k))
def mayOr(l:List Fd)(sts:List Stt):List PT->B3->B3
 | [],a=>a
 | k::ks,a=>mayOr l sts ks (togO a (pq l sts k))
def mayNot(l:List Fd)(sts:List Stt):List PT->B3
 | []=>(false,true,false)
 | k::_=>conM (pq l sts k)
 end
 mutual
def Len:PT->Prop
 | .node _ _ c ks=>c.2.2.length<=300/\LenAll ks
def LenAll:List PT->Prop
 | []=>True
 | k::ks=>Len k/\LenAll ks
 end
 mutual
def Okp:PT->Prop
 | .node op f c ks=>op<256/\f<4294967296/\Okc c/\OkpAll ks
def OkpAll:List PT->Prop
 | []=>True
 | k::ks=>Okp k/\OkpAll ks
 end
theorem LenAll.get{ks:List PT}(h:LenAll ks):∀ k∈ks,Len k:=by
 induction ks with
 | nil=>intro k hk;simp at hk
 | cons a ks ih =>
  intro k hk;simp only[LenAll]at h;rcases jeC.1 hk with rfl | hk
  ·exact h.1
  ·exact ih h.2 k hk
theorem OkpAll.get{ks:List PT}(h:OkpAll ks):∀ k∈ks,Okp k:=by
 induction ks with
 | nil=>intro k hk;simp at hk
 | cons a ks ih =>
  intro k hk;simp only[OkpAll]at h;rcases jeC.1 hk with rfl | hk
  ·exact h.1
  ·exact ih h.2 k hk
def gU(W:World)(b off op f:Nat)(c:Cl)(kv:Value):Prop :=
 b<W.heap.size/\W.cell? ⟨b,off,none⟩=some (.int .u8 (op:Int))/\W.cell? ⟨b,off+1,none⟩=some (.int .u32 (f:Int))/\W.cell? ⟨b,off+2,none⟩=some (.int .u8 (c.1:Int))/\W.cell? ⟨b,off+3,none⟩=some (.int .i64 c.2.1)/\W.cell? ⟨b,off+4,none⟩=some (.string (am c.2.2))/\W.cell? ⟨b,off+5,none⟩=some kv
theorem gU.kept{W W':World}{b off op f:Nat}{c:Cl}{kv:Value}(h:gU W b off op f c kv)(hb:Below W.heap.size W W'):gU W' b off op f c kv:=by
 obtain⟨h0,h1,h2,h3,h4,h5,h6⟩:=h;have e:∀ o,W'.cell? ⟨b,o,none⟩=W.cell? ⟨b,o,none⟩:=λo=>(gz hb).1 b o h0
 exact⟨jeH h0 hb.size,by rw[e];exact h1,by rw[e];exact h2,by rw[e];exact h3,by rw[e];exact h4,by rw[e];exact h5,by rw[e];exact h6⟩
 mutual
def jP(W:World):Nat->Nat->PT->Prop
 | b,off,.node op f c ks=>∃ a cap,gU W b off op f c (.slice a ks.length cap)/\ks.length<=cap/\cap<=maxLen/\(0<ks.length->∃ g o,a=some ⟨g,o,none⟩/\KidsAt W g o ks)
def KidsAt(W:World):Nat->Nat->List PT->Prop
 | _,_,[]=>True
 | g,o,k::ks=>jP W g o k/\KidsAt W g (o+6) ks
 end
theorem KidsAt.mono{W W':World}:∀{ks:List PT} {g o:Nat},(∀ k∈ks,∀ b off,jP W b off k->jP W' b off k)->KidsAt W g o ks->KidsAt W' g o ks
 | [],g,o,_,_=>by simp[KidsAt]
 | k::ks,g,o,hm,h=>by
  simp only[KidsAt]at h ⊢;exact⟨hm k (by simp) _ _ h.1,KidsAt.mono (λx hx=>hm x (by simp[hx])) h.2⟩
theorem jP.kept{W W':World}(hb:Below W.heap.size W W'):∀(t:PT) (b off:Nat),jP W b off t->jP W' b off t:=by
 refine PT.ind λop f c ks ih b off h=>?_
 simp only[jP]at h ⊢;obtain⟨a,cap,h1,h2,h3,h4⟩:=h;refine⟨a,cap,h1.kept hb,h2,h3,λh0=>?_⟩;obtain⟨g,o,h5,h6⟩:=h4 h0;exact⟨g,o,h5,KidsAt.mono ih h6⟩
theorem KidsAt.kept{W W':World}(hb:Below W.heap.size W W'){ks:List PT}{g o:Nat}(h:KidsAt W g o ks):KidsAt W' g o ks:=KidsAt.mono (λk _=>jP.kept hb k) h
def tp(W:World)(v:Value)(ks:List PT):Prop:=∃ a cap,v=.slice a ks.length cap/\ks.length<=cap/\cap<=maxLen/\(0<ks.length->∃ g o,a=some ⟨g,o,none⟩/\KidsAt W g o ks)
theorem tp.kept{W W':World}{v:Value}{ks:List PT}(h:tp W v ks)(hb:Below W.heap.size W W'):tp W' v ks:=by
 obtain⟨a,cap,h1,h2,h3,h4⟩:=h;refine⟨a,cap,h1,h2,h3,λh0=>?_⟩;obtain⟨g,o,h5,h6⟩:=h4 h0;exact⟨g,o,h5,h6.kept hb⟩
theorem tp.form{W:World}{v:Value}{ks:List PT}(h:tp W v ks):∃ a cap,v=.slice a ks.length cap/\ks.length<=cap/\cap<=maxLen:=by
 obtain⟨a,cap,h1,h2,h3,_⟩:=h;exact⟨a,cap,h1,h2,h3⟩
theorem jP.open{W:World}{b off op f:Nat}{c:Cl}{ks:List PT}(h:jP W b off (.node op f c ks)):∃ a cap,gU W b off op f c (.slice a ks.length cap)/\tp W (.slice a ks.length cap) ks:=by
 simp only[jP]at h;obtain⟨a,cap,h1,h2,h3,h4⟩:=h;exact⟨a,cap,h1,a,cap,rfl,h2,h3,h4⟩
theorem jP.shut{W:World}{b off op f:Nat}{c:Cl}{ks:List PT}{v:Value}(h:gU W b off op f c v)(hk:tp W v ks):jP W b off (.node op f c ks):=by
 obtain⟨a,cap,rfl,h2,h3,h4⟩:=hk;simp only[jP];exact⟨a,cap,h,h2,h3,h4⟩
theorem LZ{c:Cl}(hf:aT c)(w:World):Calls Tryz.prog 100 #[da c] w λe w'=>e=.returned (.int .u8 (c.1:Int))/\w'=w:=Jp hf.val w
theorem TF{c:Cl}(iY:Okc c)(w:World):Calls Tryz.prog 217 #[.agg #[.int .u8 (c.1:Int),.int .i64 c.2.1,.string (am c.2.2)]] w λe w'=>e=.returned (.tuple #[da (bq c),.int .i64 (flt (c.1:Int) c.2.1 (am c.2.2))])/\Below w.heap.size w w':=by
 by_cases h:flt (c.1:Int) c.2.1 (am c.2.2)=0
 ·refine(XQ _ _ _ (by omega) h w).mono ?_
  rintro e w1 ⟨⟨v,rfl,hv⟩,hb⟩;have WN:bq c=c:=jei h;have hf:aT c:=by have:=fZ iY;rwa[WN]at this
  rw[WN,h,DA hf hv];exact⟨rfl,hb⟩
 ·refine(jbo _ _ _ (by simpa using h) w).mono ?_
  rintro e w1 ⟨rfl,hb⟩;have WN:bq c=nul:=jeh h;rw[WN];exact⟨rfl,hb⟩
theorem pd{c:Cl}(iY:Okc c)(w:World):Calls Tryz.prog 219 #[.agg #[.int .u8 (c.1:Int),.int .i64 c.2.1,.string (am c.2.2)]] w λe w'=>e=.returned (da (bq c))/\Below w.heap.size w w':=by
 have HO:=ae iY;have ce:=ae (ak w (.cells #[.int .u8 (c.1:Int),.int .i64 c.2.1,.string (am c.2.2)] 52));obtain⟨c0,c1,c2⟩:=dB w (.int .u8 (c.1:Int)) (.int .i64 c.2.1) (.string (am c.2.2)) 52;clear iY;go_enter Tryz.func219,Tryz.ntmps219
 go_wp2_with fail;refine(TF HO.o _).mono ?_;rintro e w1 ⟨rfl,hb⟩;go_wp2_with fail;go_ret
 exact⟨rfl,ai ce.o hb⟩
theorem aT.short{c:Cl}(h:aT c):(am c.2.2).size<=64:=by
 rw[bi];rcases h with rfl | ⟨n,rfl,_⟩ | ⟨b,rfl,_⟩ | ⟨s,rfl,hs,_⟩
 ·simp[nul]
 ·simp
 ·simp
 ·exact hs
theorem NV{c:Cl}(hf:aT c)(w:World):Calls Tryz.prog 220 #[da c] w λe w'=>e=.returned (.bool (tn c))/\Below w.heap.size w w':=by
 have HF:=ae hf;clear hf;go_enter Tryz.func220,Tryz.ntmps220
 go_wp2_with fail;refine(lS HF.o.val _).mono ?_;rintro e w1 ⟨rfl,hb⟩;have HB:=ae hb;clear hb;obtain⟨c0,c1,c2⟩:=dB w1 (.int .u8 (c.1:Int)) (.int .i64 c.2.1) (.string (am c.2.2)) 52;have aP:=ae (ak w1 (.cells #[.int .u8 (c.1:Int),.int .i64 c.2.1,.string (am c.2.2)] 52));go_wp2_with fail;refine(zO _ (by have:=HF.o.short;omega) _).mono ?_;rintro e w2 ⟨rfl,hb⟩;have HN:jgf (tn c=decide ((((V (lb (am c.2.2))).length:Nat):Int)<4)):=ae (by unfold tn;exact decide_eq_decide.2 (by omega));generalize (V (lb (am c.2.2))).length=n at *;go_wp2_with fail;go_ret
 exact⟨kz HN.o.symm,ai (ai HB.o aP.o) hb⟩
theorem EG{c:Cl}(hf:aT c)(w:World):Calls Tryz.prog 102 #[da c] w λe w'=>e=.returned (.bool (!dS (lb (am c.2.2))))/\Below w.heap.size w w':=by
 have HF:=ae hf;clear hf;go_enter Tryz.func102,Tryz.ntmps102
 go_wp2_with fail;refine(lS HF.o.val _).mono ?_;rintro e w1 ⟨rfl,hb⟩;have HB:=ae hb;clear hb;obtain⟨c0,c1,c2⟩:=dB w1 (.int .u8 (c.1:Int)) (.int .i64 c.2.1) (.string (am c.2.2)) 52;have aP:=ae (ak w1 (.cells #[.int .u8 (c.1:Int),.int .i64 c.2.1,.string (am c.2.2)] 52));go_wp2_with fail;refine(tc _ (by have:=HF.o.short;omega) _).mono ?_;rintro e w2 ⟨rfl,hb⟩;obtain⟨n,hn⟩:∃ n,n=dS (lb (am c.2.2)):=⟨_,rfl⟩;rw[← hn];have HN:=ae hn;clear hn;go_wp2_with fail;go_ret
 exact⟨kz (by rw[HN.o]),ai (ai HB.o aP.o) hb⟩
theorem xA{c:Cl}(hf:aT c)(w:World):Calls Tryz.prog 99 #[da c] w λe w'=>e=.returned (.bool (decide (c.1=0)))/\Below w.heap.size w w':=by
 have HF:=ae hf;clear hf;go_enter Tryz.func99,Tryz.ntmps99
 go_wp2_with fail;refine(LZ HF.o _).mono ?_;rintro e w1 ⟨rfl,rfl⟩;go_wp2_with fail;go_ret
 refine⟨kz ?_,jej _ _⟩;rw[jfN];simp
theorem Ma(b:Bool)(w:World):Calls Tryz.prog 221 #[.bool b] w λe w'=>e=.returned (.int .u8 (isM b:Int))/\w'=w:=by
 refine(jbp b w).mono ?_;rintro e w1 ⟨rfl,rfl⟩;refine⟨?_,rfl⟩;cases b<;>rfl
def Ao(W:World)(q si:Nat)(fv rv:Value)(l:List Fd)(r:List Cl):Prop :=
 q<W.heap.size/\W.cell? ⟨q,0,none⟩=some (.int .u32 (si:Int))/\W.cell? ⟨q,1,none⟩=some fv/\W.cell? ⟨q,2,none⟩=some rv/\Sf W fv l/\Sv W rv (aJ r)
theorem Ao.kept{W W':World}{q si:Nat}{fv rv:Value}{l:List Fd}{r:List Cl}(h:Ao W q si fv rv l r)(hb:Below W.heap.size W W'):Ao W' q si fv rv l r:=by
 obtain⟨h0,h1,h2,h3,h4,h5⟩:=h;have e:∀ o,W'.cell? ⟨q,o,none⟩=W.cell? ⟨q,o,none⟩:=λo=>(gz hb).1 q o h0
 exact⟨jeH h0 hb.size,by rw[e];exact h1,by rw[e];exact h2,by rw[e];exact h3,h4.kept hb,h5.kept hb⟩
theorem Jw{l:List Fd}{r:List Cl}{op f:Nat}{c:Cl}(h:iV l f=none):pM l r op f c=1:=by unfold pM;rw[h]
theorem Jy{l:List Fd}{r:List Cl}{op f j:Nat}{c:Cl}(h:iV l f=some j)(hj:¬ j<r.length):pM l r op f c=1:=by
 unfold pM;rw[h];simp only;rw[List.getElem?_eq_none (by omega)]
theorem TG{l:List Fd}{r:List Cl}{op f j:Nat}{c:Cl}(h:iV l f=some j)(hj:j<r.length):pM l r op f c=EF op c r[j]:=by
 unfold pM;rw[h];simp only;rw[List.getElem?_eq_getElem hj]
theorem tq(w:World)(x0 x1 x2 x3 x4 x5:Value)(t:Nat):(w.alloc (.cells #[x0,x1,x2,x3,x4,x5] t)).cell? ⟨w.heap.size,0,none⟩=some x0/\(w.alloc (.cells #[x0,x1,x2,x3,x4,x5] t)).cell? ⟨w.heap.size,1,none⟩=some x1/\(w.alloc (.cells #[x0,x1,x2,x3,x4,x5] t)).cell? ⟨w.heap.size,2,none⟩=some x2/\(w.alloc (.cells #[x0,x1,x2,x3,x4,x5] t)).cell? ⟨w.heap.size,3,none⟩=some x3/\(w.alloc (.cells #[x0,x1,x2,x3,x4,x5] t)).cell? ⟨w.heap.size,4,none⟩=some x4/\(w.alloc (.cells #[x0,x1,x2,x3,x4,x5] t)).cell? ⟨w.heap.size,5,none⟩=some x5:=by
 refine⟨?_,?_,?_,?_,?_,?_⟩<;>simp[go_sem]
theorem xB(w:World)(op f:Nat)(c:Cl)(kv:Value):gU (w.alloc (.cells #[.int .u8 (op:Int),.int .u32 (f:Int),.int .u8 (c.1:Int),.int .i64 c.2.1,.string (am c.2.2),kv] 63)) w.heap.size 0 op f c kv:=by
 obtain⟨h0,h1,h2,h3,h4,h5⟩:=tq w (.int .u8 (op:Int)) (.int .u32 (f:Int)) (.int .u8 (c.1:Int)) (.int .i64 c.2.1) (.string (am c.2.2)) kv 63;exact⟨by rw[jel];omega,h0,h1,h2,h3,h4,h5⟩
def b3V(b:B3):Value:=.agg #[.bool b.1,.bool b.2.1,.bool b.2.2]
def jbq(a:B3)(x:Nat):Bool:=if x=0 then a.1 else if x=1 then a.2.1 else a.2.2
def setB(x:Nat)(a:B3):B3:=if x=0 then (true,a.2.1,a.2.2) else if x=1 then (a.1,true,a.2.2) else (a.1,a.2.1,true)
def Flg(W:World)(p:Nat)(o:B3):Prop:=W.heap[p]?=some (.cells #[.bool o.1,.bool o.2.1,.bool o.2.2] 123 (0,0))
theorem Flg.facts{W:World}{p:Nat}{o:B3}(h:Flg W p o):(W.cell? ⟨p,0,none⟩=some (.bool o.1)/\W.cell? ⟨p,1,none⟩=some (.bool o.2.1)/\W.cell? ⟨p,2,none⟩=some (.bool o.2.2))/\(W.frozen? ⟨p,0,none⟩=false/\W.frozen? ⟨p,1,none⟩=false/\W.frozen? ⟨p,2,none⟩=false)/\p<W.heap.size:=by
 unfold Flg at h;refine⟨⟨by rw[ay h];rfl,by rw[ay h];rfl,by rw[ay h];rfl⟩,⟨by simp[World.frozen?,h],by simp[World.frozen?,h],by simp[World.frozen?,h]⟩,(Array.getElem?_eq_some_iff.1 h).1⟩
theorem Flg.set{W:World}{p:Nat}{o:B3}(h:Flg W p o)(x:Nat)(hx:x<=2):Flg (W.setCell ⟨p,x,none⟩ (.bool true)) p (setB x o):=by
 unfold Flg at *;rw[cM h];obtain rfl | rfl | rfl:x=0∨x=1∨x=2:=by omega
 all_goals rfl
theorem Flg.new(w:World)(o:B3):Flg (w.alloc (.cells #[.bool o.1,.bool o.2.1,.bool o.2.2] 123)) w.heap.size o:=by
 exact jeK w _
theorem Flg.kept{W W':World}{p:Nat}{o:B3}(h:Flg W p o)(hb:Below W.heap.size W W'):Flg W' p o:=by
 have hp:=h.facts.2.2;unfold Flg at *;rw[hb.block p hp];exact h
def celS(st:Stt):List Value:=[.int .i64 st.rows,.int .i64 st.nulls,.bool st.some,.bool st.high,.int .u8 (st.lo.1:Int),.int .i64 st.lo.2.1,.string (am st.lo.2.2),.int .u8 (st.hi.1:Int),.int .i64 st.hi.2.1,.string (am st.hi.2.2)]
def vC(st:Stt):Value:=.agg #[.int .i64 st.rows,.int .i64 st.nulls,.bool st.some,.bool st.high,.int .u8 (st.lo.1:Int),.int .i64 st.lo.2.1,.string (am st.lo.2.2),.int .u8 (st.hi.1:Int),.int .i64 st.hi.2.1,.string (am st.hi.2.2)]
def Stb(W:World)(q:Nat)(st:Stt):Prop:=W.heap[q]?=some (.cells #[.int .i64 st.rows,.int .i64 st.nulls,.bool st.some,.bool st.high,.int .u8 (st.lo.1:Int),.int .i64 st.lo.2.1,.string (am st.lo.2.2),.int .u8 (st.hi.1:Int),.int .i64 st.hi.2.1,.string (am st.hi.2.2)] 54 (0,0))
def Jz(W:World)(b off:Nat)(st:Stt):Prop:=b<W.heap.size/\(W.cell? ⟨b,off,none⟩=some (.int .i64 st.rows)/\W.cell? ⟨b,off+1,none⟩=some (.int .i64 st.nulls)/\W.cell? ⟨b,off+2,none⟩=some (.bool st.some)/\W.cell? ⟨b,off+3,none⟩=some (.bool st.high))/\(W.cell? ⟨b,off+4,none⟩=some (.int .u8 (st.lo.1:Int))/\W.cell? ⟨b,off+5,none⟩=some (.int .i64 st.lo.2.1)/\W.cell? ⟨b,off+6,none⟩=some (.string (am st.lo.2.2)))/\(W.cell? ⟨b,off+7,none⟩=some (.int .u8 (st.hi.1:Int))/\W.cell? ⟨b,off+8,none⟩=some (.int .i64 st.hi.2.1)/\W.cell? ⟨b,off+9,none⟩=some (.string (am st.hi.2.2)))
theorem Jz.kept{W W':World}{b off:Nat}{st:Stt}(h:Jz W b off st)(hb:Below W.heap.size W W'):Jz W' b off st:=by
 obtain⟨h0,⟨a1,a2,a3,a4⟩,⟨a5,a6,a7⟩,a8,a9,a10⟩:=h;have e:∀ o,W'.cell? ⟨b,o,none⟩=W.cell? ⟨b,o,none⟩:=λo=>(gz hb).1 b o h0
 exact⟨jeH h0 hb.size,⟨by rw[e];exact a1,by rw[e];exact a2,by rw[e];exact a3,by rw[e];exact a4⟩,⟨by rw[e];exact a5,by rw[e];exact a6,by rw[e];exact a7⟩,by rw[e];exact a8,by rw[e];exact a9,by rw[e];exact a10⟩
theorem Stb.at{W:World}{q:Nat}{st:Stt}(h:Stb W q st):Jz W q 0 st:=by
 unfold Stb at h;exact⟨(Array.getElem?_eq_some_iff.1 h).1,⟨by rw[ay h];rfl,by rw[ay h];rfl,by rw[ay h];rfl,by rw[ay h];rfl⟩,⟨by rw[ay h];rfl,by rw[ay h];rfl,by rw[ay h];rfl⟩,by rw[ay h];rfl,by rw[ay h];rfl,by rw[ay h];rfl⟩
theorem Stb.new(w:World)(st:Stt):Stb (w.alloc (.cells #[.int .i64 st.rows,.int .i64 st.nulls,.bool st.some,.bool st.high,.int .u8 (st.lo.1:Int),.int .i64 st.lo.2.1,.string (am st.lo.2.2),.int .u8 (st.hi.1:Int),.int .i64 st.hi.2.1,.string (am st.hi.2.2)] 54)) w.heap.size st:=jeK w _
def Oks(st:Stt):Prop:=Okc st.lo/\Okc st.hi
theorem set3{B:Nat}{w W:World}(h:Below B w W){p:Nat}(hp:B<=p)(x y z:Value):Below B w (((W.setCell ⟨p,0,none⟩ x).setCell ⟨p,1,none⟩ y).setCell ⟨p,2,none⟩ z) :=
 ((h.setCell (p:=⟨p,0,none⟩) hp _).setCell (p:=⟨p,1,none⟩) hp _).setCell (p:=⟨p,2,none⟩) hp _
theorem jbr(u:Bool)(c:Cl)(st:Stt):nk u 1 c st=(!(st.high && decide (cW (bq c) (bq st.lo)=0) && decide (cW (bq c) (bq st.hi)=0) && tn (bq c)),u,decide (0<=cW (bq c) (bq st.lo)) && !(st.high && decide (0<cW (bq c) (bq st.hi)))):=rfl
theorem jbs(u:Bool)(c:Cl)(st:Stt):nk u 2 c st=(!(st.high && decide (0<cW (bq c) (bq st.hi))),u,decide (0<cW (bq c) (bq st.lo))):=rfl
theorem jbt(u:Bool)(c:Cl)(st:Stt):nk u 3 c st=(!(st.high && decide (0<=cW (bq c) (bq st.hi))),u,decide (0<=cW (bq c) (bq st.lo))):=rfl
theorem jbu(u:Bool)(c:Cl)(st:Stt):nk u 4 c st=(true,u,true):=rfl
theorem jbv(u:Bool)(op:Nat)(c:Cl)(st:Stt)(h:¬ (1<=op/\op<=4)):nk u op c st=(true,true,true):=by
 unfold nk;rw[jeh (by omega),jeh (by omega),jeh (by omega),jeh (by omega)]
def TH(w X:World)(b off op f:Nat)(c:Cl)(kv:Value)(u:Bool)(st:Stt):Prop:=Below w.heap.size w X/\Flg X w.heap.size (false,u,false)/\Stb X (w.heap.size+1) st/\Flg X (w.heap.size+1+1) (false,false,false)/\gU X b off op f c kv
theorem TH.kept{w X Y:World}{b off op f:Nat}{c:Cl}{kv:Value}{u:Bool}{st:Stt}(h:TH w X b off op f c kv u st)(hb:Below X.heap.size X Y):TH w Y b off op f c kv u st:=by
 obtain⟨h1,h2,h3,h4,h5⟩:=h;refine⟨ai h1 hb,h2.kept hb,?_,h4.kept hb,h5.kept hb⟩;unfold Stb at *;rw[hb.block _ ((Array.getElem?_eq_some_iff.1 h3).1)];exact h3
theorem NW(a b:Cl):cW b a=- cW a b:=XS _ _ _ _ _ _
theorem JA(a b:Cl):cW a b=-1∨cW a b=0∨cW a b=1:=TA _ _ _ _ _ _
def Mb(P:Cl->Bool)(cs:List Cl)(z:Int):Prop:=(z=-1/\∀ j (h:j<cs.length),P cs[j]=false)∨(∃ k,∃(h:k<cs.length),z=(k:Int)/\P cs[k]=true/\∀ j (h:j<cs.length),j<k->P cs[j]=false)
theorem EH{w:World}{v:Value}{cs:List Cl}(hs:Sv w v (aJ cs))(hf:∀ c∈cs,aT c):Calls Tryz.prog 143 #[v,.func (.func 99) #[] #[]] w λe w'=>(∃ z:Int,e=.returned (.int .i64 z)/\Mb (λc=>decide (c.1=0)) cs z)/\Below w.heap.size w w':=by
 have HS:=ae hs;have HF:=ae hf;obtain⟨a,cap,rfl,aW,bC⟩:=hs.form1;rw[aG]at *;have hcm':cap<=9223372036854775807:=by unfold maxLen at bC;omega
 clear hs hf bC;go_enter Tryz.func143,Tryz.ntmps143
 go_wp2_with fail;go_loopw [8] (λi wr=>∃ k:Nat,k<=cs.length/\i=.int .i64 (k:Int)/\(∀ j (h:j<cs.length),j<k->(λc:Cl=>decide (c.1=0)) cs[j]=false)/\Below w.heap.size w wr) (λi _=>cs.length-(intOf i).toNat)
 case atStart=>exact⟨0,by omega,rfl,λj h hj=>by omega,jej _ _⟩
 case round =>
  obtain⟨k,hk,rfl,cZ,az⟩:=hrel;have HA:=ae cZ;have HB:=ae az;clear cZ az;by_cases aB:k<cs.length
  ·obtain⟨b,off,rfl,hb,z⟩:=(HS.o.kept HB.o).at1 (cQ aB)
   have hlt':(k:Int)<(cs.length:Int):=(by omega);have HC:=ae (xA (HF.o cs[k] (jeo aB)));have HP:jgf ((λc:Cl=>decide (c.1=0)) cs[k]=(λc:Cl=>decide (c.1=0)) cs[k]):=ae rfl;obtain⟨pv,hpv⟩:∃ pv,pv=(λc:Cl=>decide (c.1=0)) cs[k]:=⟨_,rfl⟩;have WO:=ae hpv;rw[show (decide (cs[k].1=0))=pv from hpv.symm]at HC;clear hpv HP;generalize dN:cs[k]=c at *;have lA:=ae dN;clear dN;go_wp2_with fail;refine(HC.o _).mono ?_;rintro e w2 ⟨rfl,aE⟩;have aN:=ae (ai HB.o aE);clear aE;cases pv
   ·go_wp2_with fail
    go_roundw
    case rel=>exact⟨k+1,by omega,by go_num,λj h hj=>by
     by_cases hjk:j=k
     ·subst hjk
      rw[lA.o];exact WO.o.symm
     ·exact HA.o j h (by omega),aN.o⟩
    case measure=>simp[intOf];omega
   ·go_wp2_with fail
    go_ret
    exact⟨⟨(k:Int),rfl,Or.inr ⟨k,aB,rfl,by rw[lA.o];exact WO.o.symm,HA.o⟩⟩,aN.o⟩
  ·obtain rfl:k=cs.length:=by omega
   have gi:¬ ((cs.length:Nat):Int)<(cs.length:Int):=(by omega);go_wp2_with fail;go_ret
   exact⟨⟨-1,rfl,Or.inl ⟨rfl,λj h=>HA.o j h h⟩⟩,HB.o⟩
theorem xC{w:World}{v:Value}{cs:List Cl}(hs:Sv w v (aJ cs))(hf:∀ c∈cs,aT c):Calls Tryz.prog 143 #[v,.func (.func 102) #[] #[]] w λe w'=>(∃ z:Int,e=.returned (.int .i64 z)/\Mb (λc=>!dS (lb (am c.2.2))) cs z)/\Below w.heap.size w w':=by
 have HS:=ae hs;have HF:=ae hf;obtain⟨a,cap,rfl,aW,bC⟩:=hs.form1;rw[aG]at *;have hcm':cap<=9223372036854775807:=by unfold maxLen at bC;omega
 clear hs hf bC;go_enter Tryz.func143,Tryz.ntmps143
 go_wp2_with fail;go_loopw [8] (λi wr=>∃ k:Nat,k<=cs.length/\i=.int .i64 (k:Int)/\(∀ j (h:j<cs.length),j<k->(λc:Cl=>!dS (lb (am c.2.2))) cs[j]=false)/\Below w.heap.size w wr) (λi _=>cs.length-(intOf i).toNat)
 case atStart=>exact⟨0,by omega,rfl,λj h hj=>by omega,jej _ _⟩
 case round =>
  obtain⟨k,hk,rfl,cZ,az⟩:=hrel;have HA:=ae cZ;have HB:=ae az;clear cZ az;by_cases aB:k<cs.length
  ·obtain⟨b,off,rfl,hb,z⟩:=(HS.o.kept HB.o).at1 (cQ aB)
   have hlt':(k:Int)<(cs.length:Int):=(by omega);have HC:=ae (EG (HF.o cs[k] (jeo aB)));have HP:jgf ((λc:Cl=>!dS (lb (am c.2.2))) cs[k]=(λc:Cl=>!dS (lb (am c.2.2))) cs[k]):=ae rfl;obtain⟨pv,hpv⟩:∃ pv,pv=(λc:Cl=>!dS (lb (am c.2.2))) cs[k]:=⟨_,rfl⟩;have WO:=ae hpv;rw[show (!dS (lb (am cs[k].2.2)))=pv from hpv.symm]at HC;clear hpv HP;generalize dN:cs[k]=c at *;have lA:=ae dN;clear dN;go_wp2_with fail;refine(HC.o _).mono ?_;rintro e w2 ⟨rfl,aE⟩;have aN:=ae (ai HB.o aE);clear aE;cases pv
   ·go_wp2_with fail
    go_roundw
    case rel=>exact⟨k+1,by omega,by go_num,λj h hj=>by
     by_cases hjk:j=k
     ·subst hjk
      rw[lA.o];exact WO.o.symm
     ·exact HA.o j h (by omega),aN.o⟩
    case measure=>simp[intOf];omega
   ·go_wp2_with fail
    go_ret
    exact⟨⟨(k:Int),rfl,Or.inr ⟨k,aB,rfl,by rw[lA.o];exact WO.o.symm,HA.o⟩⟩,aN.o⟩
  ·obtain rfl:k=cs.length:=by omega
   have gi:¬ ((cs.length:Nat):Int)<(cs.length:Int):=(by omega);go_wp2_with fail;go_ret
   exact⟨⟨-1,rfl,Or.inl ⟨rfl,λj h=>HA.o j h h⟩⟩,HB.o⟩
theorem ts{w:World}{ops:Array Oper}{rest:List Oper}{o:Oper}{a:Act}{Q:Exit->Act->World->Prop}(dY:o.guard=none)(s x:Operand)
  (ho:o.op=.call { callee:=.builtin .append,args:=#[s,x],argTypes:=#[79,79] })
  (base:Nat) (v:Value) (ad:Addr) (cap:Nat) (l0 l:List Cl) (hs:a.eval s=v) (aA:OwnV w base v l0) (hx:a.eval x=.slice (some ad) l.length cap) (eN:Sv w (.slice (some ad) l.length cap) (aJ l))
  (hbytes:l0.length+l.length<=100000) (aI:base<=w.heap.size)
  (h:∀ v' w',OwnV w' base v' (l0++l)->Below base w w'->wpList Tryz.prog ops Q rest (a.put o.dst v') w') :
  wpList Tryz.prog ops Q (o::rest) a w:=by
 obtain⟨i0,hi,ch,hz1',bv⟩:=jeD wG;unfold OwnV at *;obtain⟨ad',cap',hse,h1,h2,h3,h4⟩:=eN;simp only[Value.slice.injEq]at hse;obtain⟨rfl,_,rfl⟩:=hse;rw[aG]at *;refine jeY (w:=w) dY s x 79 ho base 78 i0 .nilIface 1 16 Tryz.underlying79 hi ch hz1' bv rfl (by decide) v l0.length (aJ l0) hs aA ad l.length cap (aJ l) hx (by rw[aG];omega) ?_ (yH l) (by unfold maxLen;omega) (by omega) aI ?_
 ·intro j u hu
  have hj:j<l.length:=by
   have:=(List.getElem?_eq_some_iff.1 hu).1;rwa[aG]at this
  obtain⟨b,off,h5,_,h6⟩:=h4 (by omega);cases h5
  rw[lR];exact h6 j u hu
 ·intro v' w' o1 g1 _ _
  refine h v' w' ?_ ((jej base w).grown g1 aI (λk hk=>(aA.lt k hk).1));rw[mD,jem];exact o1
theorem qm{w:World}{v:Value}{cs:List Cl}(hs:Sv w v (aJ cs))(hl:cs.length<=1000):Calls Tryz.prog 57 #[v] w λe w'=>(∃ v',e=.returned v'/\OwnV w' w.heap.size v' cs)/\Below w.heap.size w w':=by
 have HS:=ae hs;obtain⟨ad,cap,rfl,h1,h2,h3,h4⟩:=hs;rw[aG]at *;cases ad with
 | none =>
  have hc:=h3 rfl;subst hc;have qC:cs=[]:=jeI (by omega);subst qC;have hq:(binOp .eql 79 (.slice none 0 0) (.slice none 0 0)).run Tryz.prog w=.ok (.bool true) w:=jfQ w 79 78 none 0 0 0 0 Tryz.underlying79;go_enter Tryz.func57,Tryz.ntmps57
  go_wp2_with fail;go_ret
  exact⟨⟨_,rfl,OwnV.nil _ _⟩,jej _ _⟩
 | some ad =>
  have HN:jgf (OwnV (w.alloc (.cells #[] 78)) w.heap.size (.slice (some ⟨w.heap.size,0,none⟩) 0 0) []):=ae (jfv (e:=78) (size:=1) w #[] 0 (base:=w.heap.size) (jek _) (by unfold maxLen;omega) rfl);have gj:=ae (HS.o.kept (ak w (.cells #[] 78)));clear h3 h4;have hq:(binOp .eql 79 (.slice (some ad) cs.length cap) (.slice none 0 0)).run Tryz.prog w=.ok (.bool false) w:=jfQ w 79 78 (some ad) cs.length cap 0 0 Tryz.underlying79;go_enter Tryz.func57,Tryz.ntmps57
  go_wp2_with (first | (at_builtin;refine ts rfl _ _ rfl w.heap.size _ ad cap [] cs rfl ?q1 rfl ?q2 ?c1 ?c2 ?_))
  case q1=>exact HN.o
  case q2=>exact gj.o
  case c1=>simp;omega
  case c2=>rw[jel];omega
  intro v3 w3 o3 aS;have dd:=ae o3;have bN:=ae ((ak w (.cells #[] 78)).trans aS);clear o3 aS;go_wp2_with fail;go_ret
  exact⟨⟨_,rfl,dd.o⟩,bN.o⟩
def aZ(cs:List Cl):List Cl:=cs.filter λc=>!decide (c.1=0)
theorem EI{cs:List Cl}(h:∀ j (h:j<cs.length),decide (cs[j].1=0)=false):aZ cs=cs:=by
 unfold aZ;rw[List.filter_eq_self];intro c hc;obtain⟨j,hj,rfl⟩:=List.mem_iff_getElem.1 hc;rw[h j hj];rfl
theorem tu{cs:List Cl}{j:Nat}(h:j<cs.length):aZ (cs.take (j+1))=aZ (cs.take j)++(if cs[j].1=0 then [] else [cs[j]]):=by
 unfold aZ;rw[List.take_add_one,List.getElem?_eq_getElem h,jfX];congr 1
 by_cases hc:cs[j].1=0
 ·simp[hc]
 ·simp[hc]
def Del(cs:List Cl)(xs:List Value)(i j:Nat):Prop:=xs.length=cs.length/\i<j/\j<=cs.length/\xs.take i=aJ (aZ (cs.take j))/\xs.drop j=aJ (cs.drop j)
theorem Del.skip{cs:List Cl}{xs:List Value}{i j:Nat}(h:Del cs xs i j)(hj:j<cs.length)(hn:cs[j].1=0):Del cs xs i (j+1):=by
 obtain⟨h1,h2,h3,h4,h5⟩:=h;refine⟨h1,by omega,by omega,?_,?_⟩
 ·rw[tu hj,jei hn,jeG]
  exact h4
 ·rw[← jfR,h5]
  unfold aJ;rw[← List.map_drop,jfR]
theorem Del.keep{cs:List Cl}{xs:List Value}{i j:Nat}(h:Del cs xs i j)(hj:j<cs.length)(hn:¬ cs[j].1=0):Del cs (xs.set i (da cs[j])) (i+1) (j+1):=by
 obtain⟨h1,h2,h3,h4,h5⟩:=h;refine⟨by rw[jfD];exact h1,by omega,by omega,?_,?_⟩
 ·rw[tu hj,jeh hn,mD,← h4,List.take_add_one,List.take_set_of_le (by omega),List.getElem?_set_self (by omega)]
  rfl
 ·rw[List.drop_set_of_lt (by omega),← jfR,h5]
  unfold aJ;rw[← List.map_drop,jfR]
theorem Del.get{cs:List Cl}{xs:List Value}{i j:Nat}(h:Del cs xs i j)(hj:j<cs.length):xs[j]?=some (da cs[j]):=by
 obtain⟨h1,h2,h3,h4,h5⟩:=h;have:=jep (λl=>l[0]?) h5;simp only[List.getElem?_drop,je9]at this;rw[this];unfold aJ;rw[List.getElem?_map,List.getElem?_drop,je9,List.getElem?_eq_getElem hj];rfl
theorem Del.start{cs:List Cl}{k:Nat}(hk:k<cs.length)(hn:cs[k].1=0)(cZ:∀ j (h:j<cs.length),j<k->decide (cs[j].1=0)=false):Del cs (aJ cs) k (k+1):=by
 refine⟨aG _,by omega,by omega,?_,?_⟩
 ·rw[tu hk,jei hn,jeG,EI (cs:=cs.take k)]
  ·unfold aJ
   rw[jfJ]
  ·intro j hj
   rw[List.getElem_take];exact cZ j (by rw[jeq]at hj;omega) (by rw[jeq]at hj;omega)
 ·unfold aJ
  rw[List.map_drop]
theorem Del.len{cs:List Cl}{xs:List Value}{i j:Nat}(h:Del cs xs i j):(aZ (cs.take j)).length=i:=by
 obtain⟨h1,h2,h3,h4,h5⟩:=h;have:=jep List.length h4;rw[aG,jeq]at this;omega
theorem xD{w:World}{B:Nat}{v:Value}{cs:List Cl}(ho:OwnV w B v cs)(hf:∀ c∈cs,aT c)(hBw:B<=w.heap.size):Calls Tryz.prog 98 #[v,.func (.func 99) #[] #[]] w λe w'=>(∃ v',e=.returned v'/\Sv w' v' (aJ (aZ cs)))/\Below B w w':=by
 have HO:=ae ho;have HF:=ae hf;obtain⟨a,cap,rfl,aW,bC⟩:=aO ho;have hcm':cap<=9223372036854775807:=by unfold maxLen at bC;omega
 have HI:=ae (EH ho.sv hf);have Ll:=ae bC;clear ho hf bC;go_enter Tryz.func98,Tryz.ntmps98
 go_wp2_with fail;refine HI.o.mono ?_;rintro e w1 ⟨⟨z,rfl,hz⟩,aH⟩;have aP:=ae (aH.mono hBw);have eO:=ae (HO.o.kept aH);clear aH HI HO;rcases hz with ⟨rfl,cZ⟩ | ⟨k0,qB,rfl,hp,cZ⟩
 ·have HN:=ae (EI cZ)
  clear cZ;go_wp2_with fail;go_ret
  refine⟨⟨_,rfl,?_⟩,aP.o⟩;rw[HN.o];exact eO.o.sv
 ·have HDS:=ae (Del.start qB (by simpa using hp) cZ)
  obtain⟨g,cap',gi,eZ,gY,_⟩:=(sS eO.o).2 (by omega);simp only[Value.slice.injEq]at gi;obtain⟨rfl,_,rfl⟩:=gi;have qI:((k0:Int)==-1)=false:=jev.2 (by omega);clear hp cZ;go_wp2_with fail;go_loopw [5,6] (λa b wr=>∃(i j:Nat) (xs:List Value),a=.int .i64 (i:Int)/\b=.int .i64 (j:Int)/\Del cs xs i j/\wr.ownsRow B 78 1 (.slice (some ⟨g,0,none⟩) cs.length cap) cs.length xs/\Below B w wr) (λ_ b _=>cs.length-(intOf b).toNat)
  case atStart=>exact⟨k0,k0+1,_,rfl,by go_num,HDS.o,eO.o,aP.o⟩
  case round =>
   obtain⟨i,j,xs,rfl,rfl,vQ,how,az⟩:=hrel;have HD:=ae vQ;have HO:=ae how;have HB:=ae az;have Qx:=vQ.2.1;have hjn:=vQ.2.2.1;by_cases aB:j<cs.length
   ·have hlt':(j:Int)<(cs.length:Int):=by omega
    have cj:=(how.cellAt j (by omega)).trans (vQ.get aB);have fi:=how.frozenAt i
    obtain⟨ci,hci⟩:∃ u,wr.cell? ⟨g,i,none⟩=some u:=by
     refine⟨xs[i]'(by have:=vQ.1;omega),?_⟩;rw[how.cellAt i (by omega),List.getElem?_eq_getElem]
    have HC:=ae (xA (HF.o cs[j] (jeo aB)));have HSK:=ae (vQ.skip aB);have HKP:=ae (vQ.keep aB);clear vQ how az;generalize dN:cs[j]=c at *;clear dN;have ju:(i:Int)<(cs.length:Int):=(by omega);go_wp2_with fail;refine(HC.o _).mono ?_;rintro e w3 ⟨rfl,aS⟩;have bN:=ae (HB.o.trans (aS.mono (jet hBw HB.o.size)));have dd:=ae (bJ HO.o aS);have fi3:=dd.o.frozenAt i;have ci3:=(aS.cell (p:=⟨g,i,none⟩) (show g<wr.heap.size by have:=HO.o.lt g rfl;omega)).trans hci;clear aS fi cj hci;by_cases oE:c.1=0
    ·rw[show decide (c.1=0)=true from jeB oE]
     have zt:=ae (HSK.o oE);go_wp2_with fail;go_roundw
     case rel=>exact⟨i,j+1,xs,rfl,by go_num,zt.o,dd.o,bN.o⟩
     case measure=>simp[intOf];omega
    ·rw[show decide (c.1=0)=false from jeu oE]
     have zt:=ae (HKP.o oE);obtain⟨ty,u,hvc⟩:=kj c oE;rw[hvc]at zt ⊢;clear hvc HC HKP HSK;go_wp2_with fail;go_roundw
     case rel=>exact⟨i+1,j+1,_,by go_num,by go_num,zt.o,(dd.o.stored i _).1,bN.o.setCell (p:=⟨g,i,none⟩) gY _⟩
     case measure=>simp[intOf];omega
   ·obtain rfl:j=cs.length:=by omega
    have gi:¬ ((cs.length:Nat):Int)<(cs.length:Int):=(by omega);have CL:jgf ((aZ cs).length=i):=ae (by have:=vQ.len;rwa[jes]at this);have sy:jgf (xs.take i=aJ (aZ cs)):=ae (by have:=vQ.2.2.2.1;rwa[jes]at this);have ju:(i:Int)<=(cs.length:Int):=(by omega);have hin2:i<=cs.length:=(by omega);have hxl:=vQ.1;have hz61:∀ w,(zeroValue 78).run Tryz.prog w=.ok .nilIface w:=λw=>by kernel_rfl
    have eX:∀ ty,(Builtin.clear_ #[79] ty #[.slice (some ⟨g,i,none⟩) (cs.length-i) (cap-i)]).run Tryz.prog wr=.ok (.tuple #[]) (wr.setCells g i (List.replicate (cs.length-i) .nilIface)):=λty=>run_clear_slice wr 79 78 ty .nilIface Tryz.underlying79 hz61 rfl rfl g i (cs.length-i) (cap-i) (by omega) (λt ht=>by
     rw[how.cellAt (i+t) (by omega),List.getElem?_eq_getElem (by omega)];rfl) (λt ht=>how.frozenAt (i+t))
    clear hz61
    have yk:jgf (Sv (wr.setCells g i (List.replicate (cs.length-i) .nilIface)) (.slice (some ⟨g,0,none⟩) i cap) (aJ (aZ cs))):=ae ⟨some ⟨g,0,none⟩,cap,by rw[aG,CL.o],by rw[aG,CL.o];omega,Ll.o,λh=>by simp at h,λh0=>⟨g,0,rfl,by
     have:=(below_setCells_w (B:=0) (g:=g) (je6 _) (List.replicate (cs.length-i) .nilIface) i wr).size;have:=how.lt g rfl;omega,λt x hx=>by
     have ht:t<i:=by
      have:=(List.getElem?_eq_some_iff.1 hx).1;rw[aG,CL.o]at this;exact this
     rw[jeO,World.cell?_setCells_out g _ i wr ⟨g,t,none⟩ (λ_ _=>Or.inl ht),how.cellAt t (by omega)];rw[← sy.o,List.getElem?_take_of_lt ht]at hx;exact hx⟩⟩
    have sO:=ae (HB.o.trans (below_setCells_w gY (List.replicate (cs.length-i) .nilIface) i wr));clear vQ how az hxl;go_wp2_with fail;go_ret
    exact⟨⟨_,rfl,yk.o⟩,sO.o⟩
theorem Mb.any{P:Cl->Bool}{cs:List Cl}{z:Int}(h:Mb P cs z):decide (z>=0)=cs.any P:=by
 rcases h with ⟨rfl,h⟩ | ⟨k,hk,rfl,h,_⟩
 ·rw[show decide ((-1:Int)>=0)=false from rfl,eq_comm,List.any_eq_false]
  intro c hc;obtain⟨j,hj,rfl⟩:=List.mem_iff_getElem.1 hc;simp[h j hj]
 ·rw[show decide ((k:Int)>=0)=true from jeB (by omega),eq_comm,List.any_eq_true]
  exact⟨cs[k],jeo hk,h⟩
def eT(c:Cl):Bool:=dS (lb (am c.2.2))
theorem xE{w:World}{v:Value}{cs:List Cl}(hs:Sv w v (aJ cs))(hf:∀ c∈cs,aT c):Calls Tryz.prog 101 #[v,.func (.func 102) #[] #[]] w λe w'=>e=.returned (.bool (!cs.all eT))/\Below w.heap.size w w':=by
 have HC:=ae (xC hs hf);obtain⟨a,cap,rfl,aW,bC⟩:=hs.form1;clear hs hf;go_enter Tryz.func101,Tryz.ntmps101
 go_wp2_with fail;refine HC.o.mono ?_;rintro e w1 ⟨⟨z,rfl,hz⟩,hb⟩
 have HZ:jgf (decide (z>=0)=!cs.all eT):=ae (by
  rw[hz.any,List.not_all_eq_any_not];rfl)
 clear hz;go_wp2_with fail;go_ret
 rw[← HZ.o];exact⟨rfl,hb⟩
def gx(m:Cl):List Cl->Cl
 | []=>m
 | x::r=>gx (if cW x m<0 then x else m) r
def eK(m:Cl):List Cl->Cl
 | []=>m
 | x::r=>eK (if 0<cW x m then x else m) r
theorem NX{m:Cl}{cs:List Cl}{i:Nat}(h:i<cs.length):gx m (cs.drop i)=gx (if cW cs[i] m<0 then cs[i] else m) (cs.drop (i+1)):=by
 rw[je1 h];rfl
theorem NY{m:Cl}{cs:List Cl}{i:Nat}(h:i<cs.length):eK m (cs.drop i)=eK (if 0<cW cs[i] m then cs[i] else m) (cs.drop (i+1)):=by
 rw[je1 h];rfl
theorem TI{m:Cl}{cs:List Cl}:gx m (cs.drop cs.length)=m:=by rw[jfg];rfl
theorem TJ{m:Cl}{cs:List Cl}:eK m (cs.drop cs.length)=m:=by rw[jfg];rfl
theorem mh{P:Cl->Prop}:∀{cs:List Cl} {m:Cl},P m->(∀ c∈cs,P c)->P (gx m cs)
 | [],m,h,_=>h
 | x::r,m,h,hr=>by
  unfold gx;refine mh ?_ λc hc=>hr c (by simp[hc])
  split
  ·exact hr x (by simp)
  ·exact h
theorem nW{P:Cl->Prop}:∀{cs:List Cl} {m:Cl},P m->(∀ c∈cs,P c)->P (eK m cs)
 | [],m,h,_=>h
 | x::r,m,h,hr=>by
  unfold eK;refine nW ?_ λc hc=>hr c (by simp[hc])
  split
  ·exact hr x (by simp)
  ·exact h
theorem TK{w:World}{v:Value}{cs:List Cl}(hs:Sv w v (aJ cs))(hf:∀ c∈cs,aT c)(fJ:0<cs.length):Calls Tryz.prog 104 #[v,.func (.func 105) #[] #[]] w λe w'=>e=.returned (da (gx cs[0] (cs.drop 1)))/\Below w.heap.size w w':=by
 have HS:=ae hs;have HF:=ae hf;have HR:jgf (∃ R,R=gx cs[0] (cs.drop 1)):=ae ⟨_,rfl⟩;obtain⟨R,hR⟩:=HR.o;have jn:=ae hR;rw[← hR];clear hR HR;obtain⟨a,cap,rfl,aW,bC⟩:=hs.form1;rw[aG]at *;obtain⟨b0,off0,rfl,dL,z0⟩:=hs.at1 (cQ fJ);have hcm':cap<=9223372036854775807:=by unfold maxLen at bC;omega
 have Rl:=ae (hf cs[0] (jeo fJ));have hge1:¬ (cs.length:Int)<1:=by omega
 have hlt0:(0:Int)<(cs.length:Int):=by omega
 rw[je9]at z0;clear hs hf bC;generalize oE:cs[0]=c0 at *;clear oE;go_enter Tryz.func104,Tryz.ntmps104
 go_wp2_with fail;clear z0;go_loopw [5,6] (λs i wr=>∃(k:Nat) (m:Cl),1<=k/\k<=cs.length/\i=.int .i64 (k:Int)/\s=da m/\aT m/\R=gx m (cs.drop k)/\Below w.heap.size w wr) (λ_ i _=>cs.length-(intOf i).toNat)
 case atStart=>exact⟨1,c0,by omega,by omega,rfl,rfl,Rl.o,jn.o,jej _ _⟩
 case round =>
  obtain⟨k,m,qA,hk,rfl,rfl,WP,kT,az⟩:=hrel;have lP:=ae WP;have HE:=ae kT;have HB:=ae az;clear WP kT az jn;by_cases aB:k<cs.length
  ·obtain⟨b,off,he,hb,z⟩:=(HS.o.kept HB.o).at1 (cQ aB)
   simp only[Option.some.injEq,Addr.mk.injEq,and_true]at he;obtain⟨rfl,rfl⟩:=he;have hlt':(k:Int)<(cs.length:Int):=(by omega);have CX:=ae (HF.o cs[k] (jeo aB));have HT:=ae (HE.o.trans (NX aB));generalize cs[k]=c at *;have HC:=ae (λW=>kH CX.o.val lP.o.val W);rw[show cv (c.1:Int) c.2.1 (am c.2.2) (m.1:Int) m.2.1 (am m.2.2)=cW c m from rfl]at HC;generalize cW c m=q at *;clear HE;go_wp2_with fail;refine(HC.o _).mono ?_;rintro e w2 ⟨rfl,aE⟩;have aN:=ae (ai HB.o aE);have z2:=(aE.cell (p:=⟨b0,off0+k,none⟩) hb).trans z;clear aE z;by_cases hq:q<0
   ·rw[jei hq]at HT
    go_wp2_with fail;go_roundw
    case rel=>exact⟨k+1,c,by omega,by omega,by go_num,rfl,CX.o,HT.o,aN.o⟩
    case measure=>simp[intOf];omega
   ·rw[jeh hq]at HT
    go_wp2_with fail;go_roundw
    case rel=>exact⟨k+1,m,by omega,by omega,by go_num,rfl,lP.o,HT.o,aN.o⟩
    case measure=>simp[intOf];omega
  ·obtain rfl:k=cs.length:=by omega
   have gi:¬ ((cs.length:Nat):Int)<(cs.length:Int):=(by omega);have HT:=ae (HE.o.trans TI);clear HE;go_wp2_with fail;go_ret
   rw[HT.o];exact⟨rfl,HB.o⟩
theorem TL{w:World}{v:Value}{cs:List Cl}(hs:Sv w v (aJ cs))(hf:∀ c∈cs,aT c)(fJ:0<cs.length):Calls Tryz.prog 107 #[v,.func (.func 105) #[] #[]] w λe w'=>e=.returned (da (eK cs[0] (cs.drop 1)))/\Below w.heap.size w w':=by
 have HS:=ae hs;have HF:=ae hf;have HR:jgf (∃ R,R=eK cs[0] (cs.drop 1)):=ae ⟨_,rfl⟩;obtain⟨R,hR⟩:=HR.o;have jn:=ae hR;rw[← hR];clear hR HR;obtain⟨a,cap,rfl,aW,bC⟩:=hs.form1;rw[aG]at *;obtain⟨b0,off0,rfl,dL,z0⟩:=hs.at1 (cQ fJ);have hcm':cap<=9223372036854775807:=by unfold maxLen at bC;omega
 have Rl:=ae (hf cs[0] (jeo fJ));have hge1:¬ (cs.length:Int)<1:=by omega
 have hlt0:(0:Int)<(cs.length:Int):=by omega
 rw[je9]at z0;clear hs hf bC;generalize oE:cs[0]=c0 at *;clear oE;go_enter Tryz.func107,Tryz.ntmps107
 go_wp2_with fail;clear z0;go_loopw [5,6] (λs i wr=>∃(k:Nat) (m:Cl),1<=k/\k<=cs.length/\i=.int .i64 (k:Int)/\s=da m/\aT m/\R=eK m (cs.drop k)/\Below w.heap.size w wr) (λ_ i _=>cs.length-(intOf i).toNat)
 case atStart=>exact⟨1,c0,by omega,by omega,rfl,rfl,Rl.o,jn.o,jej _ _⟩
 case round =>
  obtain⟨k,m,qA,hk,rfl,rfl,WP,kT,az⟩:=hrel;have lP:=ae WP;have HE:=ae kT;have HB:=ae az;clear WP kT az jn;by_cases aB:k<cs.length
  ·obtain⟨b,off,he,hb,z⟩:=(HS.o.kept HB.o).at1 (cQ aB)
   simp only[Option.some.injEq,Addr.mk.injEq,and_true]at he;obtain⟨rfl,rfl⟩:=he;have hlt':(k:Int)<(cs.length:Int):=(by omega);have CX:=ae (HF.o cs[k] (jeo aB));have HT:=ae (HE.o.trans (NY aB));generalize cs[k]=c at *;have HC:=ae (λW=>kH CX.o.val lP.o.val W);rw[show cv (c.1:Int) c.2.1 (am c.2.2) (m.1:Int) m.2.1 (am m.2.2)=cW c m from rfl]at HC;generalize cW c m=q at *;clear HE;go_wp2_with fail;refine(HC.o _).mono ?_;rintro e w2 ⟨rfl,aE⟩;have aN:=ae (ai HB.o aE);have z2:=(aE.cell (p:=⟨b0,off0+k,none⟩) hb).trans z;clear aE z;by_cases hq:0<q
   ·rw[jei hq]at HT
    go_wp2_with fail;go_roundw
    case rel=>exact⟨k+1,c,by omega,by omega,by go_num,rfl,CX.o,HT.o,aN.o⟩
    case measure=>simp[intOf];omega
   ·rw[jeh hq]at HT
    go_wp2_with fail;go_roundw
    case rel=>exact⟨k+1,m,by omega,by omega,by go_num,rfl,lP.o,HT.o,aN.o⟩
    case measure=>simp[intOf];omega
  ·obtain rfl:k=cs.length:=by omega
   have gi:¬ ((cs.length:Nat):Int)<(cs.length:Int):=(by omega);have HT:=ae (HE.o.trans TJ);clear HE;go_wp2_with fail;go_ret
   rw[HT.o];exact⟨rfl,HB.o⟩
def nb(l:List UInt8):List Nat:=l.map UInt8.toNat
theorem NZ(l:List UInt8):am (nb l)=⟨l.toArray⟩:=by
 unfold am nb;congr 1
 rw[jeW];have:(Nat.toUInt8 ∘ UInt8.toNat)=id:=by funext x;simp
 rw[this,jfj]
theorem lb_nb(l:List UInt8):lb (am (nb l))=l:=by rw[NZ];rfl
theorem Mc{t:ByteArray}{l:List UInt8}(h:lb t=l):t=am (nb l):=Ht (by rw[lb_nb,h])
theorem ZR(l:List UInt8):Bs (nb l):=λx hx=>by
 unfold nb at hx;obtain⟨y,_,rfl⟩:=jeF.1 hx;exact UInt8.toNat_lt y
def nX(x:Cl)(cl:Bool):Cl:=if x.1=3/\cl=false then (3,0,[]) else (x.1,x.2.1,nb (bZ (lb (am x.2.2)) 4))
def gI(x:Cl)(cl:Bool):Cl×Bool:=if x.1=3 then (match gT (lb (am x.2.2)) 4 with
 | none=>(nul,false)
 | some a=>if cl=true then ((3,0,nb a),true) else (nul,false)) else (x,true)
def Ceb(W:World)(p:Nat)(x y z:Value):Prop:=W.heap[p]?=some (.cells #[x,y,z] 52 (0,0))
theorem Ceb.facts{W:World}{p:Nat}{x y z:Value}(h:Ceb W p x y z):(W.cell? ⟨p,0,none⟩=some x/\W.cell? ⟨p,1,none⟩=some y/\W.cell? ⟨p,2,none⟩=some z)/\(W.frozen? ⟨p,0,none⟩=false/\W.frozen? ⟨p,1,none⟩=false/\W.frozen? ⟨p,2,none⟩=false)/\p<W.heap.size:=by
 unfold Ceb at h;refine⟨⟨by rw[ay h];rfl,by rw[ay h];rfl,by rw[ay h];rfl⟩,⟨by simp[World.frozen?,h],by simp[World.frozen?,h],by simp[World.frozen?,h]⟩,(Array.getElem?_eq_some_iff.1 h).1⟩
theorem Ceb.kept{W W':World}{p:Nat}{x y z:Value}(h:Ceb W p x y z)(hb:Below W.heap.size W W'):Ceb W' p x y z:=by
 have hp:=h.facts.2.2;unfold Ceb at *;rw[hb.block p hp];exact h
theorem Ceb.new(w:World)(x y z:Value):Ceb (w.alloc (.cells #[x,y,z] 52)) w.heap.size x y z:=jeK w _
theorem BX{x:Cl}(hf:aT x)(cl:Bool)(w:World):Calls Tryz.prog 103 #[da x,.bool cl] w λe w'=>e=.returned (.agg #[.int .u8 ((nX x cl).1:Int),.int .i64 (nX x cl).2.1,.string (am (nX x cl).2.2)])/\Below w.heap.size w w':=by
 have HF:=ae hf;have hr:=Ceb.new w (.int .u8 0) (.int .i64 0) (.string ⟨#[]⟩);have dL:=ak w (.cells #[.int .u8 0,.int .i64 0,.string ⟨#[]⟩] 52);have HD:jgf (nX x cl=if x.1=3/\cl=false then (3,0,[]) else (x.1,x.2.1,nb (bZ (lb (am x.2.2)) 4))):=ae rfl;generalize nX x cl=R at *;have HR:=ae hr;have ce:=ae dL;have HZ:jgf (w.heap.size<(w.alloc (.cells #[.int .u8 0,.int .i64 0,.string ⟨#[]⟩] 52)).heap.size):=ae hr.facts.2.2;clear hf hr dL;go_enter Tryz.func103,Tryz.ntmps103
 go_wp2_with fail;refine(lS HF.o.val _).mono ?_;rintro e w1 ⟨rfl,aH⟩;have aP:=ae (ai ce.o aH);have sP:=ae (HR.o.kept aH);have cK:w.heap.size<w1.heap.size:=jeH HZ.o aH.size;clear aH HR;have AM:=Ceb.new w1 (.int .u8 (x.1:Int)) (.int .i64 x.2.1) (.string (am x.2.2));have aE:=ak w1 (.cells #[.int .u8 (x.1:Int),.int .i64 x.2.1,.string (am x.2.2)] 52);have kf:=ae AM;have jn:=ae (sP.o.kept aE);have aN:=ae (ai aP.o aE);obtain⟨⟨d0,d1,d2⟩,⟨f0,f1,f2⟩,_⟩:=AM.facts;obtain⟨⟨r0,r1,r2⟩,⟨s0,s1,s2⟩,_⟩:=jn.o.facts;have fJ:¬ w1.heap.size=w.heap.size:=by omega
 have zq:¬ w.heap.size=w1.heap.size:=by omega
 clear AM aE sP;generalize hW:w1.alloc (.cells #[.int .u8 (x.1:Int),.int .i64 x.2.1,.string (am x.2.2)] 52)=W at *;by_cases h3:x.1=3/\cl=false
 ·rw[jei h3]at HD
  obtain⟨h3a,rfl⟩:=h3;have h3':((x.1:Int)==3)=true:=by rw[h3a];rfl
  clear h3a;go_wp2_with fail;refine bodyPost_ret (v:=.agg #[.int .u8 3,.int .i64 0,.string ⟨#[]⟩]) (by simp[results,Tryz.results103,go_sem,r0,r1,r2]) rfl ⟨?_,set3 aN.o (jek _) _ _ _⟩;rw[HD.o];rfl
 ·rw[jeh h3]at HD
  have GL:=ae (zP (am x.2.2) 4 (by have:=HF.o.short;omega))
  have yA:((x.1:Int)==3)=false∨(((x.1:Int)==3)=true/\cl=true):=by
   by_cases hx:x.1=3
   ·right
    refine⟨by rw[hx];rfl,?_⟩;cases cl
    ·exact absurd ⟨hx,rfl⟩ h3
    ·rfl
   ·left
    exact jev.2 (by omega)
  clear h3;rcases yA with h3' | ⟨h3',rfl⟩
  all_goals
   go_wp2_with fail;refine(GL.o _).mono ?_;rintro e w3 ⟨⟨t,rfl,ht⟩,aS⟩;have yo:=ae (Mc ht);obtain⟨⟨d0',d1',d2'⟩,⟨f0',f1',f2'⟩,_⟩:=(kf.o.kept aS).facts;obtain⟨⟨r0',r1',r2'⟩,⟨s0',s1',s2'⟩,_⟩:=(jn.o.kept aS).facts;have bN:=ae (ai aN.o aS);have HZZ:jgf (w.heap.size<=w1.heap.size):=ae (by omega);clear aS ht d0 d1 d2 f0 f1 f2 r0 r1 r2 s0 s1 s2 hW;go_wp2_with fail;refine bodyPost_ret (v:=.agg #[.int .u8 (x.1:Int),.int .i64 x.2.1,.string t]) (by simp[results,Tryz.results103,go_sem,r0',r1',r2',fJ,zq]) rfl ⟨?_,set3 (bN.o.setCell (p:=⟨w1.heap.size,2,none⟩) HZZ.o _) (jek _) _ _ _⟩;rw[HD.o,yo.o]
theorem yQ{x:Cl}(hf:aT x)(cl:Bool)(w:World):Calls Tryz.prog 106 #[da x,.bool cl] w λe w'=>e=.returned (.tuple #[.agg #[.int .u8 ((gI x cl).1.1:Int),.int .i64 (gI x cl).1.2.1,.string (am (gI x cl).1.2.2)],.bool (gI x cl).2])/\Below w.heap.size w w':=by
 have HF:=ae hf;have hr:=Ceb.new w (.int .u8 0) (.int .i64 0) (.string ⟨#[]⟩);have dL:=ak w (.cells #[.int .u8 0,.int .i64 0,.string ⟨#[]⟩] 52)
 have HD:jgf (gI x cl=if x.1=3 then (match gT (lb (am x.2.2)) 4 with
  | none=>(nul,false)
  | some a=>if cl=true then ((3,0,nb a),true) else (nul,false)) else (x,true)):=ae rfl
 generalize gI x cl=R at *;have HR:=ae hr;have ce:=ae dL;have HZ:jgf (w.heap.size<(w.alloc (.cells #[.int .u8 0,.int .i64 0,.string ⟨#[]⟩] 52)).heap.size):=ae hr.facts.2.2;clear hf hr dL;go_enter Tryz.func106,Tryz.ntmps106
 go_wp2_with fail;refine(lS HF.o.val _).mono ?_;rintro e w1 ⟨rfl,aH⟩;have aP:=ae (ai ce.o aH);have sP:=ae (HR.o.kept aH);have cK:w.heap.size<w1.heap.size:=jeH HZ.o aH.size;clear aH HR;have AM:=Ceb.new w1 (.int .u8 (x.1:Int)) (.int .i64 x.2.1) (.string (am x.2.2));have aE:=ak w1 (.cells #[.int .u8 (x.1:Int),.int .i64 x.2.1,.string (am x.2.2)] 52);have kf:=ae AM;have jn:=ae (sP.o.kept aE);have aN:=ae (ai aP.o aE);obtain⟨⟨d0,d1,d2⟩,⟨f0,f1,f2⟩,_⟩:=AM.facts;obtain⟨⟨r0,r1,r2⟩,⟨s0,s1,s2⟩,_⟩:=jn.o.facts;clear AM aE sP;generalize hW:w1.alloc (.cells #[.int .u8 (x.1:Int),.int .i64 x.2.1,.string (am x.2.2)] 52)=W at *;by_cases h3:x.1=3
 ·rw[jei h3]at HD
  have h3':((x.1:Int) != 3)=false:=by rw[h3];rfl
  have HAB:=ae (NA (am x.2.2) 4 (by have:=HF.o.short;omega));clear h3;go_wp2_with fail;refine(HAB.o _).mono ?_;rintro e w3 ⟨⟨t,o,rfl,ho,ht⟩,aS⟩;obtain⟨⟨r0',r1',r2'⟩,⟨s0',s1',s2'⟩,_⟩:=(jn.o.kept aS).facts;have bN:=ae (ai aN.o aS);clear aS d0 d1 d2 f0 f1 f2 r0 r1 r2 s0 s1 s2 hW;cases ha:gT (lb (am x.2.2)) 4 with
  | none =>
   rw[ha]at HD ho;have ho':o=false:=ho;subst ho';clear ha ho ht;simp only at HD;go_wp2_with fail;refine bodyPost_ret (v:=.tuple #[.agg #[.int .u8 0,.int .i64 0,.string ⟨#[]⟩],.bool false]) (by simp[results,Tryz.results106,go_sem,r0',r1',r2']) rfl ⟨?_,set3 bN.o (jek _) _ _ _⟩;rw[HD.o];rfl
  | some av =>
   rw[ha]at HD ho ht;have ho':o=true:=ho;subst ho';have yo:=ae (Mc (show lb t=av from ht));clear ha ho ht;simp only at HD;cases cl
   ·go_wp2_with fail
    refine bodyPost_ret (v:=.tuple #[.agg #[.int .u8 0,.int .i64 0,.string ⟨#[]⟩],.bool false]) (by simp[results,Tryz.results106,go_sem,r0',r1',r2']) rfl ⟨?_,set3 bN.o (jek _) _ _ _⟩;rw[HD.o];rfl
   ·go_wp2_with fail
    refine bodyPost_ret (v:=.tuple #[.agg #[.int .u8 3,.int .i64 0,.string t],.bool true]) (by simp[results,Tryz.results106,go_sem,r0',r1',r2']) rfl ⟨?_,set3 bN.o (jek _) _ _ _⟩;rw[HD.o,yo.o];rfl
 ·rw[jeh h3]at HD
  have h3':((x.1:Int) != 3)=true:=by simp;omega
  clear h3;go_wp2_with fail;refine bodyPost_ret (v:=.tuple #[.agg #[.int .u8 (x.1:Int),.int .i64 x.2.1,.string (am x.2.2)],.bool true]) (by simp[results,Tryz.results106,go_sem,r0,r1,r2]) rfl ⟨?_,set3 aN.o (jek _) _ _ _⟩;rw[HD.o]
end Go.Proofs.YtpljdjmpamjkhaaGreatDoor
