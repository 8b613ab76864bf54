import Derived.Test.YtpljdjmpamjkhaaGreatDoorXak
import Derived.Laws.EntriesVeiled
set_option linter.unusedVariables false
set_option linter.unusedSimpArgs false
set_option maxRecDepth 100000
set_option maxHeartbeats 2000000
namespace Go.Proofs.YtpljdjmpamjkhaaGreatDoor
open Go.RowKit Go.Lib
def ahd(l:List Int)(k:Nat):Int:=if k=0 then 0 else l.getD (k-1) 0
theorem Dw{l:List Int}{k:Nat}(h:k<l.length):ahd l (k+1)=l[k]:=by
 unfold ahd;simp[List.getD_eq_getElem?_getD,h]
theorem tJ:∀(a:List Int) (last x:Int),iI last (a++[x])=iI last a++wv (w64 (x-(a.getLast?.getD last)))
 | [],last,x=>by simp[iI]
 | y::t,last,x=>by
  rw[jem,iI,tJ t y x,iI,jdL];cases t with
  | nil=>rfl
  | cons z s=>rw[show (y::z::s).getLast?=(z::s).getLast? from by simp[List.getLast?_cons_cons]];simp[List.getLast?_eq_some_getLast]
theorem RW{l:List Int}{k:Nat}(h:k<=l.length):(l.take k).getLast?.getD 0=ahd l k:=by
 unfold ahd;cases k with
 | zero=>simp
 | succ k =>
  rw[jdt (by omega),List.getLast?_take,List.getD_eq_getElem?_getD];simp[show k<l.length by omega]
theorem zl{l:List Int}{k:Nat}(h:k<l.length):iI 0 (l.take (k+1))=iI 0 (l.take k)++wv (w64 (l[k]-ahd l k)):=by
 rw[jdM h,tJ,RW (by omega)]
theorem qW(x:Int):IntKind.i64.wrap x=w64 x:=by rw[jd7];unfold w64;omega
theorem qX{w:World}{v:Value}{l:List Int}(hs:Sv w v (aL l))(hl:l.length<=256)(hi:Is l) :
  Calls Tryz.prog 227 #[v] w (dw w (iI 0 l)):=by
 have HI:=ae hi;have HS:=ae hs;obtain⟨a,cap,rfl,aW,bw⟩:=hs.form;clear hs hi aW bw;go_enter Tryz.func227,Tryz.ntmps227
 go_wp2_with fail;go_loopw [3,4,9] (fun b ah i wr=>∃ k:Nat,k<=l.length/\i=.int .i64 (k:Int)/\ah=.int .i64 (ahd l k)/\aD wr w.heap.size b (iI 0 (l.take k))/\Below w.heap.size w wr) (fun _ _ i _=>l.length-(intOf i).toNat)
 case atStart=>exact⟨0,by omega,rfl,rfl,aD.nil _ _,jdv _ _⟩
 case round =>
  obtain⟨k,hk,rfl,rfl,aA,az⟩:=hrel;have HO:=ae aA;have HB:=ae az;have bF:=az.size;clear aA az;by_cases aB:k<l.length
  ·obtain⟨b,off,rfl,hb,ek⟩:=(HS.o.kept HB.o).at aB
   have HX:=ae (je (l[k]-ahd l k));have UE:=qW (l[k]-ahd l k);have HT:=ae (zl aB);have HA:=ae (Dw aB);have jw:=(oC (l:=l.take k) (last:=0)).1;rw[jdC]at jw;have Fz:=fq (je (l[k]-ahd l k));generalize l[k]=x at *;generalize ahd l k=y at *;generalize iI 0 (l.take k)=acc at *;generalize w64 (x-y)=d at *;go_wp2_with fail;try rw[UE]
   refine(ic HX.o _).mono ?_;rintro e w2 ⟨⟨v2,rfl,cB⟩,aE⟩;have du:=ae cB;have HOk:=ae (HO.o.kept aE);have aO:=ae (HB.o.trans (aE.mono bF));have bv:=aE.size;clear cB aE;go_wp2_with (first | (at_builtin;refine ax rfl _ _ rfl w.heap.size _ _ acc (wv d) rfl HOk.o rfl du.o.sv ?c1 ?c2 ?_))
   case c1=>omega
   case c2=>omega
   intro v3 w3 o3 b3;have dh:=ae o3;have bP:=ae (aO.o.trans b3);clear o3 b3;go_wp2_with fail;go_roundw
   case rel=>exact⟨k+1,by omega,by go_num,by rw[HA.o],by rw[HT.o];exact dh.o,bP.o⟩
   case measure=>simp[intOf];omega
  ·obtain rfl:k=l.length:=by omega
   rw[jdE]at HO;go_wp2_with fail;go_ret
   exact⟨⟨_,rfl,HO.o⟩,HB.o⟩
def iJ(x:Int):List Int->Nat
 | []=>0
 | y::t=>if y=x then iJ x t+1 else 0
theorem Li(x:Int):∀ l,iJ x l<=l.length
 | []=>by simp[iJ]
 | y::t=>by
  have:=Li x t;unfold iJ;split<;>simp<;>omega
theorem zm{x:Int}:∀{l:List Int} {k:Nat},(∀ j (h:j<k) (hl:j<l.length),l[j]=x)->(h:k<l.length)->l[k]≠x->iJ x l=k
 | y::t,0,_,_,h=>by
  unfold iJ;rw[jdt (by simpa using h)]
 | y::t,k+1,ha,hk,h=>by
  have h0:=ha 0 (by omega) (by simp);unfold iJ;rw[jdu (by simpa using h0),zm (l:=t) (k:=k) (fun j hj hl=>by have:=ha (j+1) (by omega) (by simpa using hl);simpa using this) (by simpa using hk) (by simpa using h)]
theorem Dx{x:Int}:∀{l:List Int},(∀ j (h:j<l.length),l[j]=x)->iJ x l=l.length
 | [],_=>rfl
 | y::t,ha=>by
  have h0:=ha 0 (by simp);unfold iJ;rw[jdu (by simpa using h0),Dx (l:=t) (fun j hj=>by have:=ha (j+1) (by simpa using hj);simpa using this)];simp
theorem zp(x:Int):∀(t:List Int) (c:Nat),fJ x c t=wv x++uv (c+iJ x t)++iv (t.drop (iJ x t))
 | [],c=>by simp[fJ,iJ,iv]
 | y::t,c=>by
  unfold fJ iJ;split
  ·next h =>
   rw[zp x t (c+1)];rw[show c+1+iJ x t=c+(iJ x t+1) by omega,List.drop_succ_cons]
  ·simp[iv]
theorem RX{l:List Int}(h:0<l.length):iv l=wv l[0]++uv (iJ l[0] l)++iv (l.drop (iJ l[0] l)):=by
 cases l with
 | nil=>simp at h
 | cons x t =>
  show fJ x 1 t=wv x++uv (iJ x (x::t))++iv ((x::t).drop (iJ x (x::t)))
  rw[zp x t 1];have e:iJ x (x::t)=iJ x t+1:=by rw[iJ,jdu rfl]
  rw[e,List.drop_succ_cons,Nat.add_comm 1]
theorem RY{l:List Int}(h:0<l.length):0<iJ l[0] l:=by
 cases l with
 | nil=>simp at h
 | cons x t =>
  show 0<iJ x (x::t)
  rw[iJ,jdu rfl];omega
theorem yb{w:World}{v:Value}{l:List Int}(hs:Sv w v (aL l))(hl:l.length<=256)(hp:0<l.length) :
  Calls Tryz.prog 240 #[v] w fun e w'=>e=.returned (.int .i64 (iJ l[0] l:Int))/\w'=w:=by
 have HS:=ae hs;obtain⟨a,cap,rfl,aW,bw⟩:=hs.form;obtain⟨b,off,rfl,hb,qk⟩:=hs.at hp;clear hs aW bw;rw[jej]at qk;have HE:jfp (∀ k,(∀ j (h:j<k) (hl:j<l.length),l[j]=l[0])->(h:k<l.length)->l[k]≠l[0]->iJ l[0] l=k):=fun k h1 h2 h3=>zm h1 h2 h3
 have HA:=ae (Dx (x:=l[0]) (l:=l));generalize l[0]=x at *;go_enter Tryz.func240,Tryz.ntmps240
 go_wp2_with fail;go_loopw [7] (fun i wr=>wr=w/\∃ k:Nat,k<=l.length/\i=.int .i64 (k:Int)/\∀ j (h:j<k) (hl:j<l.length),l[j]=x) (fun i _=>l.length-(intOf i).toNat)
 case atStart=>exact⟨rfl,0,by omega,rfl,fun j h=>by omega⟩
 case round =>
  obtain⟨rfl,k,hk,rfl,cX⟩:=hrel;have HL:=ae cX;clear cX;by_cases aB:k<l.length
  ·obtain⟨b',off',Ad,_,ek⟩:=HS.o.at aB
   cases Ad
   have HX:=ae (HE.o k HL.o aB);have HY:jfp (∀ j (h:j<k+1) (hl:j<l.length),l[j]=x->l[j]=x):=fun _ _ _ h=>h
   by_cases he:(l[k]==x)=true
   ·have fF:(l[k] != x)=false:=by simpa using he
    have HN:jfp (∀ j (h:j<k+1) (hl:j<l.length),l[j]=x):=by
     intro j hj hl;rcases jdY j k with h | h
     ·exact HL.o j h hl
     ·have:j=k:=by omega
      subst this;simpa using he
    clear HX;generalize l[k]=y at *;go_wp2_with fail;go_roundw
    case rel=>exact⟨trivial,k+1,by omega,by go_num,HN.o⟩
    case measure=>simp[intOf];omega
   ·have fF:(l[k] != x)=true:=by simpa using he
    have HR:=ae (HX.o (by simpa using he));clear HX;generalize l[k]=y at *;go_wp2_with fail;go_ret
    rw[HR.o];exact⟨rfl,rfl⟩
  ·obtain rfl:k=l.length:=by omega
   have HR:=ae (HA.o (fun j hj=>HL.o j hj hj));go_wp2_with fail;go_ret
   rw[HR.o];exact⟨rfl,rfl⟩
theorem AQ{W:World}{b off n cap:Nat}{xs:List Value}(h:Sv W (.slice (some ⟨b,off,none⟩) n cap) xs){k:Nat}(hk:k<=xs.length) :
  ∃ A,(if cap=k then (some ⟨b,off,none⟩:Option Addr) else some ⟨b,off+k,none⟩)=A/\Sv W (.slice A (n-k) (cap-k)) (xs.drop k):=by
 refine⟨_,rfl,?_⟩;have:=h.drop hk rfl;split at this
 ·next e=>rw[jdu e];exact this
 ·next e=>rw[jdt e];exact this
theorem GU(l:List Int)(k:Nat):aL (l.drop k)=(aL l).drop k:=by simp[aL,List.map_drop]
theorem Is.drop{l:List Int}(h:Is l)(k:Nat):Is (l.drop k):=fun x hx=>h x (jfb hx)
theorem zq{l:List Int}(h:Is l)(hl:l.length<=256):(iv l).length<=5120:=by
 have:=eD 2 h hl;cases l with
 | nil=>simp[iv]
 | cons x t =>
  have:=(mD (t:=t) (x:=x) (c:=1) (fun z hz=>h z (by simp[hz])) (h x (by simp)) (by simp at hl;omega)).1;simp at hl
  rw[iv];omega
theorem tK{w:World}{v:Value}{l:List Int}(hs:Sv w v (aL l))(hl:l.length<=256)(hi:Is l) :
  Calls Tryz.prog 228 #[v] w (dw w (iv l)):=by
 have HI:=ae hi;have HS:=ae hs;have jw:=zq hi hl;obtain⟨a,cap,rfl,aW,bw⟩:=hs.form;clear hs hi;go_enter Tryz.func228,Tryz.ntmps228
 go_wp2_with fail;go_loopw [0,3] (fun v b wr=>∃(m:List Int) (acc:List Nat),Sv w v (aL m)/\m.length<=256/\Is m/\acc++iv m=iv l/\aD wr w.heap.size b acc/\Below w.heap.size w wr) (fun v _ _=>(match v with | .slice _ n _=>n | _=>0))
 case atStart=>exact⟨l,[],HS.o,hl,HI.o,rfl,aD.nil _ _,jdv _ _⟩
 case round =>
  obtain⟨m,acc,VM,hml,him,Kf,aA,az⟩:=hrel;have VQ:=ae VM;have HIM:=ae him;have HA:=ae Kf;have HO:=ae aA;have HB:=ae az;have bF:=az.size;have bR:=jdB List.length Kf;rw[jdy]at bR;obtain⟨a2,cap2,rfl,UF,yx⟩:=VM.form;have jbj:cap2<=9223372036854775807:=by unfold maxLen at yx;omega
  clear VM him Kf aA az yx HS aW bw;by_cases hp:0<m.length
  ·have FA:=ae (VQ.o.kept HB.o)
   obtain⟨b,off,rfl,hb,qk⟩:=FA.o.at hp;rw[jej]at qk;have HX:=ae (HIM.o.get hp);have hE:=RX hp;have Yb:=ae (yb FA.o hml hp);have pE:=Li m[0] m;have hrp:=RY hp;have no:=fq (HIM.o.get hp);generalize m[0]=x at *;generalize iJ x m=r at *;obtain⟨A,hA,hSA⟩:=AQ VQ.o (k:=r) (by rw[cy];omega);rw[← GU]at hSA;have lF:=ae hSA;have HE:=ae hE;have hlE:=jdB List.length hE;rw[jdy,jdy]at hlE;clear hSA hE;go_wp2_with fail;refine Yb.o.mono ?_;rintro e w1 ⟨rfl,rfl⟩;go_wp2_with fail;refine(ic HX.o _).mono ?_;rintro e w2 ⟨⟨v2,rfl,cB⟩,aE⟩;have du:=ae cB;have HOk:=ae (HO.o.kept aE);have aO:=ae (HB.o.trans (aE.mono bF));have bv:=aE.size;clear cB aE;go_wp2_with (first | (at_builtin;refine ax rfl _ _ rfl w.heap.size _ _ acc (wv x) rfl HOk.o rfl du.o.sv ?c1 ?c2 ?_))
   case c1=>omega
   case c2=>omega
   intro v3 w3 o3 b3;have dh:=ae o3;have bP:=ae (aO.o.trans b3);have iH:=b3.size;clear o3 b3;go_wp2_with fail;refine(dM r (by omega) _).mono ?_;rintro e w4 ⟨⟨v4,rfl,ui⟩,bK⟩;have eR:=ae ui;have HOk4:=ae (dh.o.kept bK);have cx:=ae (bP.o.trans (bK.mono (by omega)));have Ki:=bK.size;clear ui bK;go_wp2_with (first | (at_builtin;refine ax rfl _ _ rfl w.heap.size _ _ (acc++wv x) (uv r) rfl HOk4.o rfl eR.o.sv ?c1 ?c2 ?_))
   case c1=>simp;omega
   case c2=>omega
   intro v5 w5 o5 b5;have dE:=ae o5;have aR:=ae (cx.o.trans b5);clear o5 b5;go_wp2_with fail;go_roundw
   case rel=>exact⟨m.drop r,acc++(wv x++uv r),lF.o,by rw[jd3];omega,HIM.o.drop r,by rw[← HA.o,HE.o];simp,dE.o,aR.o⟩
   case measure=>simp;omega
  ·obtain rfl:m=[]:=jdV (by omega)
   go_wp2_with fail;go_ret
   refine⟨⟨_,rfl,?_⟩,HB.o⟩;have e:=HA.o;rw[show iv []=[] from rfl,jdT]at e;rw[← e];exact HO.o
theorem AR(a b:Int)(ha:I64 a)(hb:I64 b)(w:World):Calls Tryz.prog 249 #[.int .i64 a,.int .i64 b] w fun e w'=>e=.returned (.int .u64 ((b-a) % 18446744073709551616))/\w'=w:=by
 have HE:jfp (IntKind.u64.wrap (IntKind.u64.wrap b-IntKind.u64.wrap a)=(b-a) % 18446744073709551616):=by
  show _=_
  rw[jd0,jd0,jd0];omega
 clear ha hb;go_enter Tryz.func249,Tryz.ntmps249
 go_wp2_with fail;go_ret
 rw[← HE.o];exact⟨rfl,rfl⟩
theorem nK{a b:Int}(ha:I64 a)(hb:I64 b)(UG:a<=b)(w:World):Calls Tryz.prog 249 #[.int .i64 a,.int .i64 b] w fun e w'=>e=.returned (.int .u64 ((b-a).toNat:Int))/\w'=w:=by
 have:=AR a b ha hb w;unfold I64 at ha hb;rwa[show (b-a) % 18446744073709551616=((b-a).toNat:Int) by omega]at this
theorem zr{w:World}{v:Value}{l:List Nat}(hs:Sx .u64 w v l)(kM:∀ x∈l,x<18446744073709551616)(x:Int) :
  Calls Tryz.prog 245 #[v,.int .i64 x] w (dw w (bi l x)):=by
 have HP:=ae (zh hs kM x);clear hs kM;go_enter Tryz.func245,Tryz.ntmps245
 go_wp2_with fail;refine HP.o.mono ?_;rintro e w1 ⟨v1,rfl,aA,hb⟩;have HO:=ae aA;clear aA;go_wp2_with fail;go_ret
 exact⟨⟨_,rfl,HO.o⟩,hb⟩
theorem jay(n:Nat):wd [n]=cV n:=by
 have h1:wd [n]<=cV n:=qG.2 (fun x hx=>by
  have:x=n:=by simpa using hx
  subst this;exact eK.1 (jdw _))
 have h2:cV n<=wd [n]:=eK.2 (qG.1 (jdw _) n (by simp));omega
theorem nL(n:Nat)(hn:n<=256)(w:World):Calls Tryz.prog 247 #[.int .i64 (n:Int)] w fun e w'=>e=.returned (.int .i64 (cV (n-1):Int))/\Below w.heap.size w w':=by
 by_cases h0:((n:Int)==0)=true
 ·have h0':n=0:=by simpa using h0
  subst h0';go_enter Tryz.func247,Tryz.ntmps247
  go_wp2_with fail;go_ret
  exact⟨rfl,jdv _ _⟩
 ·have h0f:((n:Int)==0)=false:=by simpa using h0
  have qq:n≠0:=by simpa using h0
  obtain⟨m,rfl⟩:∃ m,n=m+1:=⟨n-1,by omega⟩
  have HW:=ae (fun w=>sI (Sx.lit (k:=.u64) w [m] 92 (by unfold maxLen;simp)) (fun x hx=>by
   have:x=m:=by simpa using hx
   omega))
  have HB:=ae (fun w:World=>(jdv w.heap.size w).alloc (jdw _) (.cells (aF .u64 [m]).toArray 92));have he:((m+1:Nat):Int)-1=(m:Int):=by omega
  rw[jay]at HW;clear h0;go_enter Tryz.func247,Tryz.ntmps247
  go_wp2_with fail;refine(HW.o w).mono ?_;rintro e w1 ⟨rfl,rfl⟩;have aQ:=ae (HB.o w);go_wp2_with fail;go_ret
  exact⟨rfl,aQ.o⟩
theorem tL:∀(t:List Int) (last x:Int),pO last (t++[x])=pO last t++uv (x-(t.getLast?.getD last)).toNat
 | [],last,x=>by simp[pO]
 | y::t,last,x=>by
  rw[jem,pO,tL t y x,pO,jdL];cases t with
  | nil=>rfl
  | cons z s=>rw[show (y::z::s).getLast?=(z::s).getLast? from by simp[List.getLast?_cons_cons]];simp[List.getLast?_eq_some_getLast]
theorem Dy{u:List Int}(h:0<u.length):il (u.take 1)=il (u.take 0)++wv u[0]:=by
 cases u with
 | nil=>simp at h
 | cons x t=>simp[il,pO]
theorem zt{u:List Int}{k:Nat}(h:k+1<u.length):il (u.take (k+1+1))=il (u.take (k+1))++uv (u[k+1]-u[k]).toNat:=by
 cases u with
 | nil=>simp at h
 | cons x t =>
  have hk:k<t.length:=by simpa using h
  rw[jfd,jfd,jdM hk,il,il,tL,jdL];congr 3
  cases k with
  | zero=>simp
  | succ k =>
   rw[List.getLast?_take];simp[show k<t.length by omega]
theorem yc{w:World}{v:Value}{l:List Int}(hs:Sv w v (aL l))(hl:l.length<=256)(hi:Is l)(hr:dS l) :
  Calls Tryz.prog 244 #[v] w (dw w (il l)):=by
 have HI:=ae hi;have HS:=ae hs;have HR:=ae hr;obtain⟨a,cap,rfl,aW,bw⟩:=hs.form;clear hs hi aW bw hr;go_enter Tryz.func244,Tryz.ntmps244
 go_wp2_with fail;go_loopw [3,8] (fun b i wr=>∃ k:Nat,k<=l.length/\i=.int .i64 (k:Int)/\aD wr w.heap.size b (il (l.take k))/\Below w.heap.size w wr) (fun _ i _=>l.length-(intOf i).toNat)
 case atStart=>exact⟨0,by omega,rfl,aD.nil _ _,jdv _ _⟩
 case round =>
  obtain⟨k,hk,rfl,aA,az⟩:=hrel;have HO:=ae aA;have HB:=ae az;have bF:=az.size;clear aA az;by_cases aB:k<l.length
  ·obtain⟨b,off,rfl,hb,ek⟩:=(HS.o.kept HB.o).at aB
   have HX:=ae (HI.o.get aB);have jw:=(lT (HI.o.take k)).1;rw[jdC]at jw;have Fz:=fq (HI.o.get aB);cases k with
   | zero =>
    have HT:=ae (Dy aB);rw[jej]at ek;generalize il (l.take 0)=acc at *;generalize l[0]=x at *;go_wp2_with fail;refine(ic HX.o _).mono ?_;rintro e w2 ⟨⟨v2,rfl,cB⟩,aE⟩;have du:=ae cB;have HOk:=ae (HO.o.kept aE);have aO:=ae (HB.o.trans (aE.mono bF));have bv:=aE.size;clear cB aE;go_wp2_with (first | (at_builtin;refine ax rfl _ _ rfl w.heap.size _ _ acc (wv x) rfl HOk.o rfl du.o.sv ?c1 ?c2 ?_))
    case c1=>omega
    case c2=>omega
    intro v3 w3 o3 b3;have dh:=ae o3;have bP:=ae (aO.o.trans b3);clear o3 b3;go_wp2_with fail;go_roundw
    case rel=>exact⟨1,by omega,by go_num,by rw[HT.o];exact dh.o,bP.o⟩
    case measure=>simp[intOf];omega
   | succ k =>
    obtain⟨b',off',Ad,_,Yc⟩:=(HS.o.kept HB.o).at (show k<l.length by omega);cases Ad
    have yy:=ae (HI.o.get (show k<l.length by omega));have jU:l[k]<l[k+1]:=je5.1 HR.o k (k+1) (by omega) aB (by omega);have HT:=ae (zt aB)
    have hd:(l[k+1]-l[k]).toNat<18446744073709551616:=by
     have h1:=HX.o;have h2:=yy.o;unfold I64 at h1 h2;omega
    have UH:=bM hd;have HD:=ae (fun W=>nK (a:=l[k]) (b:=l[k+1]) yy.o HX.o (by omega) W);have ql:(((k+1:Nat):Int)==0)=false:=by simp;omega
    have qp:((k+1:Nat):Int)-1=(k:Int):=(by omega);have Ae:((k+1:Nat):Int)=(k:Int)+1:=(by omega);generalize l[k+1]=x at *;generalize l[k]=y at *;generalize il (l.take (k+1))=acc at *;generalize (x-y).toNat=d at *;have kQ:jfp (d<18446744073709551616):=hd;clear hd;go_wp2_with fail;refine(HD.o _).mono ?_;rintro e w1 ⟨rfl,rfl⟩;go_wp2_with fail;refine(dM d kQ.o _).mono ?_;rintro e w2 ⟨⟨v2,rfl,cB⟩,aE⟩;have du:=ae cB;have HOk:=ae (HO.o.kept aE);have aO:=ae (HB.o.trans (aE.mono bF));have bv:=aE.size;clear cB aE;go_wp2_with (first | (at_builtin;refine ax rfl _ _ rfl w.heap.size _ _ acc (uv d) rfl HOk.o rfl du.o.sv ?c1 ?c2 ?_))
    case c1=>omega
    case c2=>omega
    intro v3 w3 o3 b3;have dh:=ae o3;have bP:=ae (aO.o.trans b3);clear o3 b3;go_wp2_with fail;go_roundw
    case rel=>exact⟨k+1+1,by omega,by go_num,by rw[HT.o];exact dh.o,bP.o⟩
    case measure=>simp[intOf];omega
  ·obtain rfl:k=l.length:=by omega
   rw[jdE]at HO;go_wp2_with fail;go_ret
   exact⟨⟨_,rfl,HO.o⟩,HB.o⟩
theorem aD.low{W:World}{B B':Nat}{v:Value}{bs:List Nat}(h:aD W B' v bs)(hb:B<=B'):aD W B v bs:=by
 obtain⟨h1,h2⟩:=h;refine⟨h1,?_⟩;rcases h2 with h | ⟨g,cap,cur,e1,e2,e3⟩
 ·exact Or.inl h
 ·exact Or.inr ⟨g,cap,cur,e1,jdF hb e2,e3⟩
theorem ur{w:World}{vu v:Value}{u l:List Int}(hu:Sv w vu (aL u))(hs:Sv w v (aL l))(hl:l.length<=256)(uE:u.length<=256)(hr:dS u)(hm:∀ x∈l,x∈u) :
  Calls Tryz.prog 246 #[vu,v] w fun e w'=>(∃ v',e=.returned v'/\dH w' w.heap.size v' (l.map (pl u)))/\Below w.heap.size w w':=by
 obtain⟨i0,hi,ct,hz1',bv⟩:=jdP pM;have HU:=ae hu;have HS:=ae hs;have HR:=ae hr;have HM:=ae hm;obtain⟨a,cap,rfl,aW,bw⟩:=hs.form;clear hs hu aW bw hr hm;obtain⟨D,hD⟩:∃ D,l.map (pl u)=D:=⟨_,rfl⟩;have hDl:D.length=l.length:=by rw[← hD,jdz]
 have HG:jfp (∀ k (h:k<l.length),D[k]?=some (pl u l[k])):=ae (fun k h=>by rw[← hD];simp[h]);rw[hD];have kQ:=ae hDl;clear hD hDl;go_enter Tryz.func246,Tryz.ntmps246
 go_wp2_with (first | (refine jeA _ rfl _ _ 142 rfl w.heap.size 92 i0 (.int .u64 0) 1 Tryz.underlying142 hi ct hz1' .i64 .i64 _ _ l.length rfl rfl ?m1 ?m2 ?m3 ?m4 ?m5 ?_))
 case m1=>rfl
 case m2=>rfl
 case m3=>rw[bv];omega
 case m4=>unfold maxLen;omega
 case m5=>omega
 intro w4 gN iN;have bK:Below w.heap.size w w4:=(jdv _ _).grown iN (jdw _) (fun k hk=>by cases hk)
 have ho4':w4.ownsRow w.heap.size 92 1 (.slice (some ⟨w.heap.size,0,none⟩) l.length l.length) l.length (aF .u64 (fill D 0)):=by
  rw[oI,kQ.o,← kf];simpa using gN
 have eR:=ae ho4';have cx:=ae bK;clear gN iN bK ho4';go_wp2_with fail;go_loopw [15] (fun i wr=>∃ k:Nat,i=.int .i64 (k:Int)/\k<=l.length/\wr.ownsRow w.heap.size 92 1 (.slice (some ⟨w.heap.size,0,none⟩) l.length l.length) l.length (aF .u64 (fill D k))/\Below w.heap.size w wr) (fun i _=>l.length-(intOf i).toNat)
 case atStart=>exact⟨0,rfl,by omega,eR.o,cx.o⟩
 case round =>
  obtain⟨k,rfl,hk,how,az⟩:=hrel;have HB:=ae az;have HO:=ae how;have bF:=az.size;clear az how;by_cases aB:k<l.length
  ·have hkD:k<D.length:=by rw[kQ.o];exact aB
   have hval:D[k]=pl u l[k]:=by
    have:=HG.o k aB;rw[List.getElem?_eq_getElem hkD]at this;exact Option.some.inj this
   obtain⟨b,off,rfl,hb,ek⟩:=(HS.o.kept HB.o).at aB;have hmem:=HM.o l[k] (jdA aB);have hSr:=GT (HU.o.kept HB.o) (List.length_pos_of_mem hmem) uE HR.o l[k];rw[zk HR.o hmem,← hval]at hSr;have HSr:=ae hSr;have hplt:=(vO hmem).1;rw[← hval]at hplt;have kj:k<(fill D k).length:=by rw[kX (by omega)];exact hkD
   have tq:=ae (qO hkD);clear hSr hval hmem;generalize l[k]=x at *;generalize (fill D k)[k]=y at *;generalize D[k]=z at *;go_wp2_with fail;refine HSr.o.mono ?_;rintro e w5 ⟨⟨r,rfl⟩,bD⟩;have fZ:=bL HO.o bD;have aR:=ae (HB.o.trans (bD.mono bF));have FB:=(fZ.cellAt k (by omega)).trans (bU kj);have FC:=fZ.frozenAt k;have hST:=fZ.stored k (.int .u64 (z:Int));rw[kn,tq.o]at hST;have cU:=ae hST;have PC:=(fZ.lt w.heap.size rfl).2;clear hST bD fZ;go_wp2_with fail;go_roundw
   case rel=>exact⟨k+1,by go_num,by omega,cU.o.1,cO aR.o (jdw _) _⟩
   case measure=>simp[intOf];omega
  ·obtain rfl:k=l.length:=by omega
   have e:fill D l.length=D:=by
    have:=qN D;rwa[kQ.o]at this
   have HO':jfp (dH wr w.heap.size (.slice (some ⟨w.heap.size,0,none⟩) l.length l.length) D):=by
    show dH _ _ _ _
    have:=HO.o;rw[e]at this;unfold dH;rw[kQ.o];exact this
   clear HO e;go_wp2_with fail;go_ret
   exact⟨⟨_,rfl,HO'.o⟩,HB.o⟩
theorem aD.len{W:World}{B:Nat}{v:Value}{l:List Nat}(h:aD W B v l):∃ a cap,v=.slice a l.length cap:=AO h
theorem bC.len{W:World}{B:Nat}{v:Value}{l:List Int}(h:bC W B v l):∃ a cap,v=.slice a l.length cap:=AO h
theorem dH.len{W:World}{B:Nat}{v:Value}{l:List Nat}(h:dH W B v l):∃ a cap,v=.slice a l.length cap:=AO h
theorem wC{l:List Int}(hl:l.length<=256):∀ x∈places l,x<18446744073709551616:=by
 intro x hx;have:=ow x hx;have:=fK l;omega
theorem MR{l:List Int}(hl:l.length<=256):pP l=uv (cH l).length++il (cH l)++bi (places l) (cV ((cH l).length-1):Int):=by
 unfold pP;rw[jdL];rcases jel l.length with h0 | h0
 ·obtain rfl:l=[]:=jdV h0
  rfl
 ·rw[yW h0]
theorem kY{p:List Nat}{x:Int}(hl:p.length<=256):(bi p x).length<=2048:=by
 unfold bi;split
 ·next h =>
  unfold can at h;simp only[jei]at h;rw[dR];have:p.length*x.toNat<=256*64:=je2 hl (by omega);unfold by8;omega
 ·simp
theorem pn{w:World}{v:Value}{l:List Int}(hs:Sv w v (aL l))(hl:l.length<=256)(hi:Is l) :
  Calls Tryz.prog 229 #[v] w (dw w (pP l)):=by
 have HI:=ae (lP hi);have HS:=ae hs;have HC:=ae (GS hs hl);have HF:=ae (MR hl);have HUR:=ae (gW l);have HSU:=ae (lT (lP hi)).1;have HCS:=ae (Du l);have Km:jfp (∀ x∈l,x∈cH l):=fun x hx=>gz.2 hx
 have UI:=ae (wC hl);have rY:jfp (l.map (pl (cH l))=places l):=rfl;have kN:=lx l;have uE:=fK l;have fG:=mH l;have hps:=kY (p:=places l) (x:=(cV ((cH l).length-1):Int)) (by omega);obtain⟨a,cap,rfl,aW,bw⟩:=hs.form;clear hs hi aW bw;generalize places l=P at *;generalize cH l=u at *;go_enter Tryz.func229,Tryz.ntmps229
 go_wp2_with fail;refine HC.o.mono ?_;rintro e w1 ⟨⟨v1,rfl,eH⟩,aH⟩;have eY:=ae eH;have aQ:=ae aH;have cP:=aH.size;clear eH aH;go_wp2_with fail;refine(RV eY.o hl cP).mono ?_;rintro e w2 ⟨rfl,eZ,aE⟩;have du:=ae eZ;have aO:=ae (aQ.o.trans aE);have bv:=aO.o.size;clear eZ aE;go_wp2_with fail;refine(Dt du.o (by omega) bv).mono ?_;rintro e w3 ⟨⟨v3,rfl,fA⟩,aS⟩;rw[HCS.o]at fA;have dh:=ae fA;have bP:=ae (aO.o.trans aS);have iH:=bP.o.size;obtain⟨a3,c3,rfl⟩:=fA.len;clear fA aS;go_wp2_with fail;refine(dM u.length (by omega) _).mono ?_;rintro e w4 ⟨⟨v4,rfl,gN⟩,bK⟩;have eR:=ae gN;have cx:=ae bK;have Ki:=bK.size;clear gN bK;go_wp2_with fail;refine(yc (dh.o.sv.kept cx.o) (by omega) HI.o HUR.o).mono ?_;rintro e w5 ⟨⟨v5,rfl,fZ⟩,bD⟩;have dE:=ae fZ;have HO45:=ae (eR.o.kept bD);have aR:=ae (cx.o.trans (bD.mono Ki));have uF:=bD.size;clear fZ bD;have no:=bM (n:=u.length) (by omega);have hsu:=HSU.o;go_wp2_with (first | (at_builtin;refine ax rfl _ _ rfl w3.heap.size _ _ (uv u.length) (il u) rfl HO45.o rfl dE.o.sv ?c1 ?c2 ?_))
 case c1=>omega
 case c2=>omega
 intro v6 w6 o6 b6;have mT:=ae o6;have ja:=ae (aR.o.trans b6);have FD:=ja.o.size;clear o6 b6;go_wp2_with fail;refine(ur (dh.o.sv.kept ja.o) (HS.o.kept (bP.o.trans (ja.o.mono iH))) hl (by omega) HUR.o Km.o).mono ?_;rintro e w7 ⟨⟨v7,rfl,Yd⟩,ji⟩;rw[rY.o]at Yd;have iD:=ae Yd;have jbl:=ae (mT.o.kept ji);have io:=ae (ja.o.trans (ji.mono FD));have hz7:=ji.size;clear Yd ji;go_wp2_with fail;refine(nL u.length (by omega) _).mono ?_;rintro e w8 ⟨rfl,lD⟩;have HO78:=ae (iD.o.kept lD);have HO68:=ae (jbl.o.kept lD);have xD:=ae (io.o.trans (lD.mono (by omega)));have hz8:=lD.size;clear lD;go_wp2_with fail;refine(zr HO78.o.sv.sx UI.o _).mono ?_;rintro e w9 ⟨⟨v9,rfl,Ye⟩,pD⟩;have UJ:=ae Ye;have HO69:=ae (HO68.o.kept pD);have pF:=ae (xD.o.trans (pD.mono (by omega)));have Yf:=pD.size;clear Ye pD;go_wp2_with (first | (at_builtin;refine ax rfl _ _ rfl w3.heap.size _ _ (uv u.length++il u) _ rfl HO69.o rfl UJ.o.sv ?c3 ?c4 ?_))
 case c3=>simp;omega
 case c4=>omega
 intro vA wA oA bA;have nw:=ae oA;have fd:=ae (bP.o.trans ((pF.o.trans bA).mono iH));clear oA bA;go_wp2_with fail;go_ret
 refine⟨⟨_,rfl,?_⟩,fd.o⟩;rw[HF.o];have:=nw.o.low iH;simpa using this
theorem tM{l:List Int}(h:0<l.length):lR l=wv (gX l)++uv (wd (di l))++bi (di l) (wd (di l):Int):=by
 unfold lR;rw[jdt (by omega),jdL]
theorem ut{w:World}{v:Value}(hs:Sv w v (aL [])):Calls Tryz.prog 230 #[v] w (dw w (lR [])):=by
 obtain⟨a,cap,rfl,aW,bw⟩:=hs.form;clear hs aW bw;go_enter Tryz.func230,Tryz.ntmps230
 go_wp2_with fail;go_ret
 exact⟨⟨_,rfl,aD.nil _ _⟩,jdv _ _⟩
theorem uw{w:World}{v:Value}{l:List Int}(hs:Sv w v (aL l))(hl:l.length<=256)(hi:Is l)(hp:0<l.length) :
  Calls Tryz.prog 230 #[v] w (dw w (lR l)):=by
 obtain⟨i0,jj,ct,hz1',bv⟩:=jdP pM;have HS:=ae hs;have HI:=ae hi;have HMin:=ae (WJ hs hp hl);have HML:=ae (Dv hp);have HE:=ae (tM hp);have rS:=ae (hi _ (gY hp));have uD:=ae (nF (l:=l));have BR:=ae (lQ hi);have no:=fq (hi _ (gY hp));have LJ:=Gy (lQ hi);have hps:=kY (p:=di l) (x:=(wd (di l):Int)) (by rw[fX];omega);have hDl:=fX l;have HG:jfp (∀ k (h:k<l.length),(di l)[k]?=some (l[k]-gX l).toNat):=ae (fun k h=>by simp[di,h]);obtain⟨a,cap,rfl,aW,bw⟩:=hs.form;clear hs hi aW bw;rw[HML.o]at HMin;generalize di l=D at *;generalize gX l=lo at *;have hlen0:((l.length:Int)==0)=false:=jdG.2 (by omega);go_enter Tryz.func230,Tryz.ntmps230
 go_wp2_with fail;refine HMin.o.mono ?_;rintro e w1 ⟨rfl,rfl⟩;go_wp2_with (first | (refine jeA _ rfl _ _ 142 rfl w1.heap.size 92 i0 (.int .u64 0) 1 Tryz.underlying142 jj ct hz1' .i64 .i64 _ _ l.length rfl rfl ?m1 ?m2 ?m3 ?m4 ?m5 ?_))
 case m1=>rfl
 case m2=>rfl
 case m3=>rw[bv];omega
 case m4=>unfold maxLen;omega
 case m5=>omega
 intro w4 gN iN;have bK:Below w1.heap.size w1 w4:=(jdv _ _).grown iN (jdw _) (fun k hk=>by cases hk)
 have ho4':w4.ownsRow w1.heap.size 92 1 (.slice (some ⟨w1.heap.size,0,none⟩) l.length l.length) l.length (aF .u64 (fill D 0)):=by
  rw[oI,hDl,← kf];simpa using gN
 have eR:=ae ho4';have cx:=ae bK;have kQ:=ae hDl;clear gN iN bK ho4' hDl;go_wp2_with fail;go_loopw [19] (fun i wr=>∃ k:Nat,i=.int .i64 (k:Int)/\k<=l.length/\wr.ownsRow w1.heap.size 92 1 (.slice (some ⟨w1.heap.size,0,none⟩) l.length l.length) l.length (aF .u64 (fill D k))/\Below w1.heap.size w1 wr) (fun i _=>l.length-(intOf i).toNat)
 case atStart=>exact⟨0,rfl,by omega,eR.o,cx.o⟩
 case round =>
  obtain⟨k,rfl,hk,how,az⟩:=hrel;have HB:=ae az;have HO:=ae how;have bF:=az.size;clear az how;by_cases aB:k<l.length
  ·have hkD:k<D.length:=by rw[kQ.o];exact aB
   have hval:D[k]=(l[k]-lo).toNat:=by
    have:=HG.o k aB;rw[List.getElem?_eq_getElem hkD]at this;exact Option.some.inj this
   obtain⟨b,off,rfl,hb,ek⟩:=(HS.o.kept HB.o).at aB;have hd:=fun W=>nK (w:=W) rS.o (HI.o.get aB) (uD.o _ (jdA aB))
   rw[← hval]at hd;have HD:=ae hd;have kj:k<(fill D k).length:=by rw[kX (by omega)];exact hkD
   have FB:=(HO.o.cellAt k (by omega)).trans (bU kj);have FC:=HO.o.frozenAt k;have hST:=HO.o.stored k (.int .u64 ((D[k]:Nat):Int));rw[kn,qO hkD]at hST;have cU:=ae hST;have PC:=(HO.o.lt w1.heap.size rfl).2;clear hd hval hST;generalize l[k]=x at *;generalize (fill D k)[k]=y at *;generalize D[k]=z at *;go_wp2_with fail;refine(HD.o _).mono ?_;rintro e w5 ⟨rfl,rfl⟩;go_wp2_with fail;go_roundw
   case rel=>exact⟨k+1,by go_num,by omega,cU.o.1,cO HB.o (jdw _) _⟩
   case measure=>simp[intOf];omega
  ·obtain rfl:k=l.length:=by omega
   have e:fill D l.length=D:=by
    have:=qN D;rwa[kQ.o]at this
   have HO':jfp (dH wr w1.heap.size (.slice (some ⟨w1.heap.size,0,none⟩) l.length l.length) D):=by
    show dH _ _ _ _
    have:=HO.o;rw[e]at this;unfold dH;rw[kQ.o];exact this
   have HWd:=ae (sI HO'.o.sv.sx BR.o);clear HO e;generalize wd D=wdt at *;go_wp2_with fail;refine HWd.o.mono ?_;rintro e w5 ⟨rfl,rfl⟩;go_wp2_with fail;refine(ic rS.o _).mono ?_;rintro e w6 ⟨⟨v6,rfl,Cq⟩,ey⟩;have mT:=ae Cq;have ja:=ae ey;have FD:=ey.size;clear Cq ey;go_wp2_with fail;refine(dM wdt (by omega) _).mono ?_;rintro e w7 ⟨⟨v7,rfl,Yd⟩,ji⟩;have iD:=ae Yd;have jbl:=ae (mT.o.kept ji);have io:=ae (ja.o.trans (ji.mono FD));have hz7:=ji.size;have h102:=bM (n:=wdt) (by omega);clear Yd ji;go_wp2_with (first | (at_builtin;refine ax rfl _ _ rfl w5.heap.size _ _ (wv lo) (uv wdt) rfl jbl.o rfl iD.o.sv ?c1 ?c2 ?_))
   case c1=>omega
   case c2=>omega
   intro v8 w8 o8 b8;have HO8:=ae o8;have xD:=ae (io.o.trans b8);have hz8:=xD.o.size;clear o8 b8;have HOD:=ae (HO'.o.kept xD.o);go_wp2_with fail;refine(zr HOD.o.sv.sx BR.o _).mono ?_;rintro e w9 ⟨⟨v9,rfl,Ye⟩,pD⟩;have UJ:=ae Ye;have HO89:=ae (HO8.o.kept pD);have pF:=ae (xD.o.trans (pD.mono hz8));have Yf:=pD.size;clear Ye pD;go_wp2_with (first | (at_builtin;refine ax rfl _ _ rfl w5.heap.size _ _ (wv lo++uv wdt) _ rfl HO89.o rfl UJ.o.sv ?c3 ?c4 ?_))
   case c3=>simp;omega
   case c4=>omega
   intro vA wA oA bA;have nw:=ae oA;have fd:=ae (HB.o.trans ((pF.o.trans bA).mono bF));clear oA bA;go_wp2_with fail;go_ret
   refine⟨⟨_,rfl,?_⟩,fd.o⟩;rw[HE.o];have:=nw.o.low bF;simpa using this
theorem nM{w:World}{v:Value}{l:List Int}(hs:Sv w v (aL l))(hl:l.length<=256)(hi:Is l):Calls Tryz.prog 230 #[v] w (dw w (lR l)):=by
 rcases jel l.length with h0 | h0
 ·obtain rfl:l=[]:=jdV h0
  exact ut hs
 ·exact uw hs hl hi h0
theorem fY(w:World):Calls Tryz.prog 200 #[] w fun e w'=>e=.returned (.agg #[.func (.func 226) #[] #[],.func (.func 227) #[] #[],.func (.func 228) #[] #[],.func (.func 229) #[] #[],.func (.func 230) #[] #[]])/\Below w.heap.size w w':=by
 go_enter Tryz.func200,Tryz.ntmps200
 go_wp2_with fail;exact bodyPost_ret (v:=.agg #[.func (.func 226) #[] #[],.func (.func 227) #[] #[],.func (.func 228) #[] #[],.func (.func 229) #[] #[],.func (.func 230) #[] #[]]) (by simp[results,Tryz.results200,go_sem]) rfl ⟨rfl,(jdv _ _).alloc (jdw _) _⟩
def Dz(c:Nat)(l:List Int):List Nat:=if c<=4/\l.length<=256 then im c l else []
theorem RZ{w:World}{v:Value}{l:List Int}(hs:Sv w v (aL l))(hl:l.length<=256)(hi:Is l) :
  Calls Tryz.prog 319 #[.int .u8 0,v] w fun e w'=>(∃ v',e=.returned (.tuple #[v',.bool true])/\aD w' w.heap.size v' (gy l))/\Below w.heap.size w w':=by
 have HS:=ae hs;have HI:=ae hi;obtain⟨a,cap,rfl,aW,bw⟩:=hs.form;have uT:¬ (l.length:Int) > 256:=by omega
 clear hs aW bw hi;go_enter Tryz.func319,Tryz.ntmps319
 go_wp2_with fail;refine(fY _).mono ?_;rintro e w1 ⟨rfl,aH⟩;have aQ:=ae aH;have cP:=aH.size;clear aH;go_wp2_with fail;have aO:=ae (aQ.o.alloc cP (.cells #[.func (.func 226) #[] #[],.func (.func 227) #[] #[],.func (.func 228) #[] #[],.func (.func 229) #[] #[],.func (.func 230) #[] #[]] 246));have bv:=aO.o.size;refine(tI (HS.o.kept aO.o) hl HI.o).mono ?_;rintro e w3 ⟨⟨v3,rfl,fA⟩,aS⟩;have dh:=ae (fA.low bv);have bP:=ae (aO.o.trans (aS.mono bv));clear fA aS;go_wp2_with fail;go_ret2
 exact⟨⟨_,rfl,dh.o⟩,bP.o⟩
theorem Sa{w:World}{v:Value}{l:List Int}(hs:Sv w v (aL l))(hl:l.length<=256)(hi:Is l) :
  Calls Tryz.prog 319 #[.int .u8 1,v] w fun e w'=>(∃ v',e=.returned (.tuple #[v',.bool true])/\aD w' w.heap.size v' (iI 0 l))/\Below w.heap.size w w':=by
 have HS:=ae hs;have HI:=ae hi;obtain⟨a,cap,rfl,aW,bw⟩:=hs.form;have uT:¬ (l.length:Int) > 256:=by omega
 clear hs aW bw hi;go_enter Tryz.func319,Tryz.ntmps319
 go_wp2_with fail;refine(fY _).mono ?_;rintro e w1 ⟨rfl,aH⟩;have aQ:=ae aH;have cP:=aH.size;clear aH;go_wp2_with fail;have aO:=ae (aQ.o.alloc cP (.cells #[.func (.func 226) #[] #[],.func (.func 227) #[] #[],.func (.func 228) #[] #[],.func (.func 229) #[] #[],.func (.func 230) #[] #[]] 246));have bv:=aO.o.size;refine(qX (HS.o.kept aO.o) hl HI.o).mono ?_;rintro e w3 ⟨⟨v3,rfl,fA⟩,aS⟩;have dh:=ae (fA.low bv);have bP:=ae (aO.o.trans (aS.mono bv));clear fA aS;go_wp2_with fail;go_ret2
 exact⟨⟨_,rfl,dh.o⟩,bP.o⟩
theorem Sb{w:World}{v:Value}{l:List Int}(hs:Sv w v (aL l))(hl:l.length<=256)(hi:Is l) :
  Calls Tryz.prog 319 #[.int .u8 2,v] w fun e w'=>(∃ v',e=.returned (.tuple #[v',.bool true])/\aD w' w.heap.size v' (iv l))/\Below w.heap.size w w':=by
 have HS:=ae hs;have HI:=ae hi;obtain⟨a,cap,rfl,aW,bw⟩:=hs.form;have uT:¬ (l.length:Int) > 256:=by omega
 clear hs aW bw hi;go_enter Tryz.func319,Tryz.ntmps319
 go_wp2_with fail;refine(fY _).mono ?_;rintro e w1 ⟨rfl,aH⟩;have aQ:=ae aH;have cP:=aH.size;clear aH;go_wp2_with fail;have aO:=ae (aQ.o.alloc cP (.cells #[.func (.func 226) #[] #[],.func (.func 227) #[] #[],.func (.func 228) #[] #[],.func (.func 229) #[] #[],.func (.func 230) #[] #[]] 246));have bv:=aO.o.size;refine(tK (HS.o.kept aO.o) hl HI.o).mono ?_;rintro e w3 ⟨⟨v3,rfl,fA⟩,aS⟩;have dh:=ae (fA.low bv);have bP:=ae (aO.o.trans (aS.mono bv));clear fA aS;go_wp2_with fail;go_ret2
 exact⟨⟨_,rfl,dh.o⟩,bP.o⟩
theorem Sd{w:World}{v:Value}{l:List Int}(hs:Sv w v (aL l))(hl:l.length<=256)(hi:Is l) :
  Calls Tryz.prog 319 #[.int .u8 3,v] w fun e w'=>(∃ v',e=.returned (.tuple #[v',.bool true])/\aD w' w.heap.size v' (pP l))/\Below w.heap.size w w':=by
 have HS:=ae hs;have HI:=ae hi;obtain⟨a,cap,rfl,aW,bw⟩:=hs.form;have uT:¬ (l.length:Int) > 256:=by omega
 clear hs aW bw hi;go_enter Tryz.func319,Tryz.ntmps319
 go_wp2_with fail;refine(fY _).mono ?_;rintro e w1 ⟨rfl,aH⟩;have aQ:=ae aH;have cP:=aH.size;clear aH;go_wp2_with fail;have aO:=ae (aQ.o.alloc cP (.cells #[.func (.func 226) #[] #[],.func (.func 227) #[] #[],.func (.func 228) #[] #[],.func (.func 229) #[] #[],.func (.func 230) #[] #[]] 246));have bv:=aO.o.size;refine(pn (HS.o.kept aO.o) hl HI.o).mono ?_;rintro e w3 ⟨⟨v3,rfl,fA⟩,aS⟩;have dh:=ae (fA.low bv);have bP:=ae (aO.o.trans (aS.mono bv));clear fA aS;go_wp2_with fail;go_ret2
 exact⟨⟨_,rfl,dh.o⟩,bP.o⟩
theorem Se{w:World}{v:Value}{l:List Int}(hs:Sv w v (aL l))(hl:l.length<=256)(hi:Is l) :
  Calls Tryz.prog 319 #[.int .u8 4,v] w fun e w'=>(∃ v',e=.returned (.tuple #[v',.bool true])/\aD w' w.heap.size v' (lR l))/\Below w.heap.size w w':=by
 have HS:=ae hs;have HI:=ae hi;obtain⟨a,cap,rfl,aW,bw⟩:=hs.form;have uT:¬ (l.length:Int) > 256:=by omega
 clear hs aW bw hi;go_enter Tryz.func319,Tryz.ntmps319
 go_wp2_with fail;refine(fY _).mono ?_;rintro e w1 ⟨rfl,aH⟩;have aQ:=ae aH;have cP:=aH.size;clear aH;go_wp2_with fail;have aO:=ae (aQ.o.alloc cP (.cells #[.func (.func 226) #[] #[],.func (.func 227) #[] #[],.func (.func 228) #[] #[],.func (.func 229) #[] #[],.func (.func 230) #[] #[]] 246));have bv:=aO.o.size;refine(nM (HS.o.kept aO.o) hl HI.o).mono ?_;rintro e w3 ⟨⟨v3,rfl,fA⟩,aS⟩;have dh:=ae (fA.low bv);have bP:=ae (aO.o.trans (aS.mono bv));clear fA aS;go_wp2_with fail;go_ret2
 exact⟨⟨_,rfl,dh.o⟩,bP.o⟩
theorem MS{w:World}{v:Value}{l:List Int}(hs:Sv w v (aL l))(c:Nat)(hc:c<256)(hno:¬ (c<=4/\l.length<=256)) :
  Calls Tryz.prog 319 #[.int .u8 (c:Int),v] w fun e w'=>(∃ v',e=.returned (.tuple #[v',.bool false])/\aD w' w.heap.size v' [])/\Below w.heap.size w w':=by
 obtain⟨a,cap,rfl,aW,bw⟩:=hs.form;have hm:l.length<=9223372036854775807:=by unfold maxLen at bw;omega
 clear hs aW bw;by_cases h5:(c:Int)>=5
 ·go_enter Tryz.func319,Tryz.ntmps319
  go_wp2_with fail;go_ret2
  exact⟨⟨_,rfl,aD.nil _ _⟩,jdv _ _⟩
 ·have uT:(l.length:Int) > 256:=by omega
  go_enter Tryz.func319,Tryz.ntmps319
  go_wp2_with fail;go_ret2
  exact⟨⟨_,rfl,aD.nil _ _⟩,jdv _ _⟩
theorem GV{w:World}{v:Value}{l:List Int}(hs:Sv w v (aL l))(hi:Is l)(c:Nat)(hc:c<256) :
  Calls Tryz.prog 319 #[.int .u8 (c:Int),v] w fun e w'=>(∃ v',e=.returned (.tuple #[v',.bool (decide (c<=4/\l.length<=256))])/\aD w' w.heap.size v' (Dz c l))/\Below w.heap.size w w':=by
 by_cases h:c<=4/\l.length<=256
 ·rw[jdO h]
  unfold Dz;rw[jdu h];obtain⟨h4,hl⟩:=h;match c,h4 with
  | 0,_=>exact RZ hs hl hi
  | 1,_=>exact Sa hs hl hi
  | 2,_=>exact Sb hs hl hi
  | 3,_=>exact Sd hs hl hi
  | 4,_=>exact Se hs hl hi
 ·rw[jdK h]
  unfold Dz;rw[jdt h];exact MS hs c hc h
end Go.Proofs.YtpljdjmpamjkhaaGreatDoor
