import Derived.Test.YtpljdjmpamjkhaaGreatDoorUaj
import Derived.Laws.EntriesVeiled
set_option linter.unusedVariables false
set_option linter.unusedSimpArgs false
set_option maxRecDepth 100000
set_option maxHeartbeats 2000000
namespace Go.Proofs.YtpljdjmpamjkhaaGreatDoor
open Go.RowKit Go.Lib
def ahd(l:List Int)(k:Nat):Int:=if k=0 then 0 else l.getD (k-1) 0
theorem DA{l:List Int}{k:Nat}(h:k<l.length):ahd l (k+1)=l[k]:=by
 unfold ahd;simp[List.getD_eq_getElem?_getD,h]
theorem tJ:∀(a:List Int) (last x:Int),iE last (a++[x])=iE last a++wv (w64 (x-(a.getLast?.getD last)))
 | [],last,x=>by simp[iE]
 | y::t,last,x=>by
  rw[jd6,iE,tJ t y x,iE,jdw];cases t with
  | nil=>rfl
  | cons z s=>rw[show (y::z::s).getLast?=(z::s).getLast? from by simp[List.getLast?_cons_cons]];simp[List.getLast?_eq_some_getLast]
theorem Rz{l:List Int}{k:Nat}(h:k<=l.length):(l.take k).getLast?.getD 0=ahd l k:=by
 unfold ahd;cases k with
 | zero=>simp
 | succ k =>
  rw[jde (by omega),List.getLast?_take,List.getD_eq_getElem?_getD];simp[show k<l.length by omega]
theorem zm{l:List Int}{k:Nat}(h:k<l.length):iE 0 (l.take (k+1))=iE 0 (l.take k)++wv (w64 (l[k]-ahd l k)):=by
 rw[jdx h,tJ,Rz (by omega)]
theorem qW(x:Int):IntKind.i64.wrap x=w64 x:=by rw[jdR];unfold w64;omega
theorem qX{w:World}{v:Value}{l:List Int}(hs:Sv w v (aK l))(hl:l.length<=256)(hi:Is l) :
  Calls Tryz.prog 227 #[v] w (dw w (iE 0 l)):=by
 have HI:=ae hi;have HS:=ae hs;obtain⟨a,cap,rfl,aY,bx⟩:=hs.form;clear hs hi aY bx;go_enter Tryz.func227,Tryz.ntmps227
 go_wp2_with fail;go_loopw [3,4,9] (fun b ah i wr=>∃ k:Nat,k<=l.length/\i=.int .i64 (k:Int)/\ah=.int .i64 (ahd l k)/\aD wr w.heap.size b (iE 0 (l.take k))/\Below w.heap.size w wr) (fun _ _ i _=>l.length-(intOf i).toNat)
 case atStart=>exact⟨0,by omega,rfl,rfl,aD.nil _ _,jdg _ _⟩
 case round =>
  obtain⟨k,hk,rfl,rfl,aA,az⟩:=hrel;have HO:=ae aA;have HB:=ae az;have bP:=az.size;clear aA az;by_cases aC:k<l.length
  ·obtain⟨b,off,rfl,hb,dR⟩:=(HS.o.kept HB.o).at aC
   have HX:=ae (jg (l[k]-ahd l k));have Kj:=qW (l[k]-ahd l k);have HT:=ae (zm aC);have HA:=ae (DA aC);have jx:=(ov (l:=l.take k) (last:=0)).1;rw[jdo]at jx;have Fx:=fh (jg (l[k]-ahd l k));generalize l[k]=x at *;generalize ahd l k=y at *;generalize iE 0 (l.take k)=acc at *;generalize w64 (x-y)=d at *;go_wp2_with fail;try rw[Kj]
   refine(gW HX.o _).mono ?_;rintro e w2 ⟨⟨v2,rfl,cz⟩,aE⟩;have du:=ae cz;have HOk:=ae (HO.o.kept aE);have aO:=ae (HB.o.trans (aE.mono bP));have bn:=aE.size;clear cz aE;go_wp2_with (first | (at_builtin;refine ax rfl _ _ rfl w.heap.size _ _ acc (wv d) rfl HOk.o rfl du.o.sv ?c1 ?c2 ?_))
   case c1=>omega
   case c2=>omega
   intro v3 w3 o3 b3;have cZ:=ae o3;have bN:=ae (aO.o.trans b3);clear o3 b3;go_wp2_with fail;go_roundw
   case rel=>exact⟨k+1,by omega,by go_num,by rw[HA.o],by rw[HT.o];exact cZ.o,bN.o⟩
   case measure=>simp[intOf];omega
  ·obtain rfl:k=l.length:=by omega
   rw[jdp]at HO;go_wp2_with fail;go_ret
   exact⟨⟨_,rfl,HO.o⟩,HB.o⟩
def iF(x:Int):List Int->Nat
 | []=>0
 | y::t=>if y=x then iF x t+1 else 0
theorem Lf(x:Int):∀ l,iF x l<=l.length
 | []=>by simp[iF]
 | y::t=>by
  have:=Lf x t;unfold iF;split<;>simp<;>omega
theorem zp{x:Int}:∀{l:List Int} {k:Nat},(∀ j (h:j<k) (hl:j<l.length),l[j]=x)->(h:k<l.length)->l[k]≠x->iF x l=k
 | y::t,0,_,_,h=>by
  unfold iF;rw[jde (by simpa using h)]
 | y::t,k+1,ha,hk,h=>by
  have h0:=ha 0 (by omega) (by simp);unfold iF;rw[jdf (by simpa using h0),zp (l:=t) (k:=k) (fun j hj hl=>by have:=ha (j+1) (by omega) (by simpa using hl);simpa using this) (by simpa using hk) (by simpa using h)]
theorem DB{x:Int}:∀{l:List Int},(∀ j (h:j<l.length),l[j]=x)->iF x l=l.length
 | [],_=>rfl
 | y::t,ha=>by
  have h0:=ha 0 (by simp);unfold iF;rw[jdf (by simpa using h0),DB (l:=t) (fun j hj=>by have:=ha (j+1) (by simpa using hj);simpa using this)];simp
theorem zq(x:Int):∀(t:List Int) (c:Nat),fE x c t=wv x++uv (c+iF x t)++im (t.drop (iF x t))
 | [],c=>by simp[fE,iF,im]
 | y::t,c=>by
  unfold fE iF;split
  ·next h =>
   rw[zq x t (c+1)];rw[show c+1+iF x t=c+(iF x t+1) by omega,List.drop_succ_cons]
  ·simp[im]
theorem RA{l:List Int}(h:0<l.length):im l=wv l[0]++uv (iF l[0] l)++im (l.drop (iF l[0] l)):=by
 cases l with
 | nil=>simp at h
 | cons x t =>
  show fE x 1 t=wv x++uv (iF x (x::t))++im ((x::t).drop (iF x (x::t)))
  rw[zq x t 1];have e:iF x (x::t)=iF x t+1:=by rw[iF,jdf rfl]
  rw[e,List.drop_succ_cons,Nat.add_comm 1]
theorem RC{l:List Int}(h:0<l.length):0<iF l[0] l:=by
 cases l with
 | nil=>simp at h
 | cons x t =>
  show 0<iF x (x::t)
  rw[iF,jdf rfl];omega
theorem yf{w:World}{v:Value}{l:List Int}(hs:Sv w v (aK l))(hl:l.length<=256)(hp:0<l.length) :
  Calls Tryz.prog 240 #[v] w fun e w'=>e=.returned (.int .i64 (iF l[0] l:Int))/\w'=w:=by
 have HS:=ae hs;obtain⟨a,cap,rfl,aY,bx⟩:=hs.form;obtain⟨b,off,rfl,hb,oR⟩:=hs.at hp;clear hs aY bx;rw[jd9]at oR;have HE:jfb (∀ k,(∀ j (h:j<k) (hl:j<l.length),l[j]=l[0])->(h:k<l.length)->l[k]≠l[0]->iF l[0] l=k):=fun k h1 h2 h3=>zp h1 h2 h3
 have HA:=ae (DB (x:=l[0]) (l:=l));generalize l[0]=x at *;go_enter Tryz.func240,Tryz.ntmps240
 go_wp2_with fail;go_loopw [7] (fun i wr=>wr=w/\∃ k:Nat,k<=l.length/\i=.int .i64 (k:Int)/\∀ j (h:j<k) (hl:j<l.length),l[j]=x) (fun i _=>l.length-(intOf i).toNat)
 case atStart=>exact⟨rfl,0,by omega,rfl,fun j h=>by omega⟩
 case round =>
  obtain⟨rfl,k,hk,rfl,cW⟩:=hrel;have HL:=ae cW;clear cW;by_cases aC:k<l.length
  ·obtain⟨b',off',Ae,_,dR⟩:=HS.o.at aC
   cases Ae
   have HX:=ae (HE.o k HL.o aC);have HY:jfb (∀ j (h:j<k+1) (hl:j<l.length),l[j]=x->l[j]=x):=fun _ _ _ h=>h
   by_cases he:(l[k]==x)=true
   ·have fQ:(l[k] != x)=false:=by simpa using he
    have HN:jfb (∀ j (h:j<k+1) (hl:j<l.length),l[j]=x):=by
     intro j hj hl;rcases jdJ j k with h | h
     ·exact HL.o j h hl
     ·have:j=k:=by omega
      subst this;simpa using he
    clear HX;generalize l[k]=y at *;go_wp2_with fail;go_roundw
    case rel=>exact⟨trivial,k+1,by omega,by go_num,HN.o⟩
    case measure=>simp[intOf];omega
   ·have fQ:(l[k] != x)=true:=by simpa using he
    have HR:=ae (HX.o (by simpa using he));clear HX;generalize l[k]=y at *;go_wp2_with fail;go_ret
    rw[HR.o];exact⟨rfl,rfl⟩
  ·obtain rfl:k=l.length:=by omega
   have HR:=ae (HA.o (fun j hj=>HL.o j hj hj));go_wp2_with fail;go_ret
   rw[HR.o];exact⟨rfl,rfl⟩
theorem AW{W:World}{b off n cap:Nat}{xs:List Value}(h:Sv W (.slice (some ⟨b,off,none⟩) n cap) xs){k:Nat}(hk:k<=xs.length) :
  ∃ A,(if cap=k then (some ⟨b,off,none⟩:Option Addr) else some ⟨b,off+k,none⟩)=A/\Sv W (.slice A (n-k) (cap-k)) (xs.drop k):=by
 refine⟨_,rfl,?_⟩;have:=h.drop hk rfl;split at this
 ·next e=>rw[jdf e];exact this
 ·next e=>rw[jde e];exact this
theorem GQ(l:List Int)(k:Nat):aK (l.drop k)=(aK l).drop k:=by simp[aK,List.map_drop]
theorem Is.drop{l:List Int}(h:Is l)(k:Nat):Is (l.drop k):=fun x hx=>h x (jeO hx)
theorem zr{l:List Int}(h:Is l)(hl:l.length<=256):(im l).length<=5120:=by
 have:=eC 2 h hl;cases l with
 | nil=>simp[im]
 | cons x t =>
  have:=(mx (t:=t) (x:=x) (c:=1) (fun z hz=>h z (by simp[hz])) (h x (by simp)) (by simp at hl;omega)).1;simp at hl
  rw[im];omega
theorem tK{w:World}{v:Value}{l:List Int}(hs:Sv w v (aK l))(hl:l.length<=256)(hi:Is l) :
  Calls Tryz.prog 228 #[v] w (dw w (im l)):=by
 have HI:=ae hi;have HS:=ae hs;have jx:=zr hi hl;obtain⟨a,cap,rfl,aY,bx⟩:=hs.form;clear hs hi;go_enter Tryz.func228,Tryz.ntmps228
 go_wp2_with fail;go_loopw [0,3] (fun v b wr=>∃(m:List Int) (acc:List Nat),Sv w v (aK m)/\m.length<=256/\Is m/\acc++im m=im l/\aD wr w.heap.size b acc/\Below w.heap.size w wr) (fun v _ _=>(match v with | .slice _ n _=>n | _=>0))
 case atStart=>exact⟨l,[],HS.o,hl,HI.o,rfl,aD.nil _ _,jdg _ _⟩
 case round =>
  obtain⟨m,acc,Vx,hml,him,Kb,aA,az⟩:=hrel;have VB:=ae Vx;have HIM:=ae him;have HA:=ae Kb;have HO:=ae aA;have HB:=ae az;have bP:=az.size;have bR:=jdm List.length Kb;rw[jdj]at bR;obtain⟨a2,cap2,rfl,Uo,yz⟩:=Vx.form;have ja7:cap2<=9223372036854775807:=by unfold maxLen at yz;omega
  clear Vx him Kb aA az yz HS aY bx;by_cases hp:0<m.length
  ·have Fy:=ae (VB.o.kept HB.o)
   obtain⟨b,off,rfl,hb,oR⟩:=Fy.o.at hp;rw[jd9]at oR;have HX:=ae (HIM.o.get hp);have hE:=RA hp;have XJ:=ae (yf Fy.o hml hp);have pC:=Lf m[0] m;have hrp:=RC hp;have nk:=fh (HIM.o.get hp);generalize m[0]=x at *;generalize iF x m=r at *;obtain⟨A,hA,hSA⟩:=AW VB.o (k:=r) (by rw[ct];omega);rw[← GQ]at hSA;have lA:=ae hSA;have HE:=ae hE;have hlE:=jdm List.length hE;rw[jdj,jdj]at hlE;clear hSA hE;go_wp2_with fail;refine XJ.o.mono ?_;rintro e w1 ⟨rfl,rfl⟩;go_wp2_with fail;refine(gW HX.o _).mono ?_;rintro e w2 ⟨⟨v2,rfl,cz⟩,aE⟩;have du:=ae cz;have HOk:=ae (HO.o.kept aE);have aO:=ae (HB.o.trans (aE.mono bP));have bn:=aE.size;clear cz aE;go_wp2_with (first | (at_builtin;refine ax rfl _ _ rfl w.heap.size _ _ acc (wv x) rfl HOk.o rfl du.o.sv ?c1 ?c2 ?_))
   case c1=>omega
   case c2=>omega
   intro v3 w3 o3 b3;have cZ:=ae o3;have bN:=ae (aO.o.trans b3);have iD:=b3.size;clear o3 b3;go_wp2_with fail;refine(dI r (by omega) _).mono ?_;rintro e w4 ⟨⟨v4,rfl,uo⟩,bw⟩;have eR:=ae uo;have HOk4:=ae (cZ.o.kept bw);have ce:=ae (bN.o.trans (bw.mono (by omega)));have Ke:=bw.size;clear uo bw;go_wp2_with (first | (at_builtin;refine ax rfl _ _ rfl w.heap.size _ _ (acc++wv x) (uv r) rfl HOk4.o rfl eR.o.sv ?c1 ?c2 ?_))
   case c1=>simp;omega
   case c2=>omega
   intro v5 w5 o5 b5;have dJ:=ae o5;have aS:=ae (ce.o.trans b5);clear o5 b5;go_wp2_with fail;go_roundw
   case rel=>exact⟨m.drop r,acc++(wv x++uv r),lA.o,by rw[jdN];omega,HIM.o.drop r,by rw[← HA.o,HE.o];simp,dJ.o,aS.o⟩
   case measure=>simp;omega
  ·obtain rfl:m=[]:=jdF (by omega)
   go_wp2_with fail;go_ret
   refine⟨⟨_,rfl,?_⟩,HB.o⟩;have e:=HA.o;rw[show im []=[] from rfl,jdB]at e;rw[← e];exact HO.o
theorem AX(a b:Int)(ha:I64 a)(hb:I64 b)(w:World):Calls Tryz.prog 249 #[.int .i64 a,.int .i64 b] w fun e w'=>e=.returned (.int .u64 ((b-a) % 18446744073709551616))/\w'=w:=by
 have HE:jfb (IntKind.u64.wrap (IntKind.u64.wrap b-IntKind.u64.wrap a)=(b-a) % 18446744073709551616):=by
  show _=_
  rw[jdL,jdL,jdL];omega
 clear ha hb;go_enter Tryz.func249,Tryz.ntmps249
 go_wp2_with fail;go_ret
 rw[← HE.o];exact⟨rfl,rfl⟩
theorem nF{a b:Int}(ha:I64 a)(hb:I64 b)(Up:a<=b)(w:World):Calls Tryz.prog 249 #[.int .i64 a,.int .i64 b] w fun e w'=>e=.returned (.int .u64 ((b-a).toNat:Int))/\w'=w:=by
 have:=AX a b ha hb w;unfold I64 at ha hb;rwa[show (b-a) % 18446744073709551616=((b-a).toNat:Int) by omega]at this
theorem zt{w:World}{v:Value}{l:List Nat}(hs:Sx .u64 w v l)(kJ:∀ x∈l,x<18446744073709551616)(x:Int) :
  Calls Tryz.prog 245 #[v,.int .i64 x] w (dw w (bg l x)):=by
 have HP:=ae (zi hs kJ x);clear hs kJ;go_enter Tryz.func245,Tryz.ntmps245
 go_wp2_with fail;refine HP.o.mono ?_;rintro e w1 ⟨v1,rfl,aA,hb⟩;have HO:=ae aA;clear aA;go_wp2_with fail;go_ret
 exact⟨⟨_,rfl,HO.o⟩,hb⟩
theorem jaq(n:Nat):wd [n]=cU n:=by
 have h1:wd [n]<=cU n:=qG.2 (fun x hx=>by
  have:x=n:=by simpa using hx
  subst this;exact eK.1 (jdh _))
 have h2:cU n<=wd [n]:=eK.2 (qG.1 (jdh _) n (by simp));omega
theorem nG(n:Nat)(hn:n<=256)(w:World):Calls Tryz.prog 247 #[.int .i64 (n:Int)] w fun e w'=>e=.returned (.int .i64 (cU (n-1):Int))/\Below w.heap.size w w':=by
 by_cases h0:((n:Int)==0)=true
 ·have h0':n=0:=by simpa using h0
  subst h0';go_enter Tryz.func247,Tryz.ntmps247
  go_wp2_with fail;go_ret
  exact⟨rfl,jdg _ _⟩
 ·have h0f:((n:Int)==0)=false:=by simpa using h0
  have qs:n≠0:=by simpa using h0
  obtain⟨m,rfl⟩:∃ m,n=m+1:=⟨n-1,by omega⟩
  have HW:=ae (fun w=>sK (Sx.lit (k:=.u64) w [m] 92 (by unfold maxLen;simp)) (fun x hx=>by
   have:x=m:=by simpa using hx
   omega))
  have HB:=ae (fun w:World=>(jdg w.heap.size w).alloc (jdh _) (.cells (aF .u64 [m]).toArray 92));have he:((m+1:Nat):Int)-1=(m:Int):=by omega
  rw[jaq]at HW;clear h0;go_enter Tryz.func247,Tryz.ntmps247
  go_wp2_with fail;refine(HW.o w).mono ?_;rintro e w1 ⟨rfl,rfl⟩;have aR:=ae (HB.o w);go_wp2_with fail;go_ret
  exact⟨rfl,aR.o⟩
theorem tL:∀(t:List Int) (last x:Int),pN last (t++[x])=pN last t++uv (x-(t.getLast?.getD last)).toNat
 | [],last,x=>by simp[pN]
 | y::t,last,x=>by
  rw[jd6,pN,tL t y x,pN,jdw];cases t with
  | nil=>rfl
  | cons z s=>rw[show (y::z::s).getLast?=(z::s).getLast? from by simp[List.getLast?_cons_cons]];simp[List.getLast?_eq_some_getLast]
theorem DC{u:List Int}(h:0<u.length):ia (u.take 1)=ia (u.take 0)++wv u[0]:=by
 cases u with
 | nil=>simp at h
 | cons x t=>simp[ia,pN]
theorem zu{u:List Int}{k:Nat}(h:k+1<u.length):ia (u.take (k+1+1))=ia (u.take (k+1))++uv (u[k+1]-u[k]).toNat:=by
 cases u with
 | nil=>simp at h
 | cons x t =>
  have hk:k<t.length:=by simpa using h
  rw[jeZ,jeZ,jdx hk,ia,ia,tL,jdw];congr 3
  cases k with
  | zero=>simp
  | succ k =>
   rw[List.getLast?_take];simp[show k<t.length by omega]
theorem yg{w:World}{v:Value}{l:List Int}(hs:Sv w v (aK l))(hl:l.length<=256)(hi:Is l)(hr:dN l) :
  Calls Tryz.prog 244 #[v] w (dw w (ia l)):=by
 have HI:=ae hi;have HS:=ae hs;have HR:=ae hr;obtain⟨a,cap,rfl,aY,bx⟩:=hs.form;clear hs hi aY bx hr;go_enter Tryz.func244,Tryz.ntmps244
 go_wp2_with fail;go_loopw [3,8] (fun b i wr=>∃ k:Nat,k<=l.length/\i=.int .i64 (k:Int)/\aD wr w.heap.size b (ia (l.take k))/\Below w.heap.size w wr) (fun _ i _=>l.length-(intOf i).toNat)
 case atStart=>exact⟨0,by omega,rfl,aD.nil _ _,jdg _ _⟩
 case round =>
  obtain⟨k,hk,rfl,aA,az⟩:=hrel;have HO:=ae aA;have HB:=ae az;have bP:=az.size;clear aA az;by_cases aC:k<l.length
  ·obtain⟨b,off,rfl,hb,dR⟩:=(HS.o.kept HB.o).at aC
   have HX:=ae (HI.o.get aC);have jx:=(lP (HI.o.take k)).1;rw[jdo]at jx;have Fx:=fh (HI.o.get aC);cases k with
   | zero =>
    have HT:=ae (DC aC);rw[jd9]at dR;generalize ia (l.take 0)=acc at *;generalize l[0]=x at *;go_wp2_with fail;refine(gW HX.o _).mono ?_;rintro e w2 ⟨⟨v2,rfl,cz⟩,aE⟩;have du:=ae cz;have HOk:=ae (HO.o.kept aE);have aO:=ae (HB.o.trans (aE.mono bP));have bn:=aE.size;clear cz aE;go_wp2_with (first | (at_builtin;refine ax rfl _ _ rfl w.heap.size _ _ acc (wv x) rfl HOk.o rfl du.o.sv ?c1 ?c2 ?_))
    case c1=>omega
    case c2=>omega
    intro v3 w3 o3 b3;have cZ:=ae o3;have bN:=ae (aO.o.trans b3);clear o3 b3;go_wp2_with fail;go_roundw
    case rel=>exact⟨1,by omega,by go_num,by rw[HT.o];exact cZ.o,bN.o⟩
    case measure=>simp[intOf];omega
   | succ k =>
    obtain⟨b',off',Ae,_,XK⟩:=(HS.o.kept HB.o).at (show k<l.length by omega);cases Ae
    have yA:=ae (HI.o.get (show k<l.length by omega));have jJ:l[k]<l[k+1]:=jeT.1 HR.o k (k+1) (by omega) aC (by omega);have HT:=ae (zu aC)
    have hd:(l[k+1]-l[k]).toNat<18446744073709551616:=by
     have h1:=HX.o;have h2:=yA.o;unfold I64 at h1 h2;omega
    have Uq:=bJ hd;have HD:=ae (fun W=>nF (a:=l[k]) (b:=l[k+1]) yA.o HX.o (by omega) W);have qm:(((k+1:Nat):Int)==0)=false:=by simp;omega
    have qr:((k+1:Nat):Int)-1=(k:Int):=(by omega);have Af:((k+1:Nat):Int)=(k:Int)+1:=(by omega);generalize l[k+1]=x at *;generalize l[k]=y at *;generalize ia (l.take (k+1))=acc at *;generalize (x-y).toNat=d at *;have kM:jfb (d<18446744073709551616):=hd;clear hd;go_wp2_with fail;refine(HD.o _).mono ?_;rintro e w1 ⟨rfl,rfl⟩;go_wp2_with fail;refine(dI d kM.o _).mono ?_;rintro e w2 ⟨⟨v2,rfl,cz⟩,aE⟩;have du:=ae cz;have HOk:=ae (HO.o.kept aE);have aO:=ae (HB.o.trans (aE.mono bP));have bn:=aE.size;clear cz aE;go_wp2_with (first | (at_builtin;refine ax rfl _ _ rfl w.heap.size _ _ acc (uv d) rfl HOk.o rfl du.o.sv ?c1 ?c2 ?_))
    case c1=>omega
    case c2=>omega
    intro v3 w3 o3 b3;have cZ:=ae o3;have bN:=ae (aO.o.trans b3);clear o3 b3;go_wp2_with fail;go_roundw
    case rel=>exact⟨k+1+1,by omega,by go_num,by rw[HT.o];exact cZ.o,bN.o⟩
    case measure=>simp[intOf];omega
  ·obtain rfl:k=l.length:=by omega
   rw[jdp]at HO;go_wp2_with fail;go_ret
   exact⟨⟨_,rfl,HO.o⟩,HB.o⟩
theorem aD.low{W:World}{B B':Nat}{v:Value}{bs:List Nat}(h:aD W B' v bs)(hb:B<=B'):aD W B v bs:=by
 obtain⟨h1,h2⟩:=h;refine⟨h1,?_⟩;rcases h2 with h | ⟨g,cap,cur,e1,e2,e3⟩
 ·exact Or.inl h
 ·exact Or.inr ⟨g,cap,cur,e1,jdq hb e2,e3⟩
theorem uz{w:World}{vu v:Value}{u l:List Int}(hu:Sv w vu (aK u))(hs:Sv w v (aK l))(hl:l.length<=256)(uK:u.length<=256)(hr:dN u)(hm:∀ x∈l,x∈u) :
  Calls Tryz.prog 246 #[vu,v] w fun e w'=>(∃ v',e=.returned v'/\dD w' w.heap.size v' (l.map (pl u)))/\Below w.heap.size w w':=by
 obtain⟨i0,hi,cm,hz1',bn⟩:=jdA pL;have HU:=ae hu;have HS:=ae hs;have HR:=ae hr;have HM:=ae hm;obtain⟨a,cap,rfl,aY,bx⟩:=hs.form;clear hs hu aY bx hr hm;obtain⟨D,hD⟩:∃ D,l.map (pl u)=D:=⟨_,rfl⟩;have hDl:D.length=l.length:=by rw[← hD,jdk]
 have HG:jfb (∀ k (h:k<l.length),D[k]?=some (pl u l[k])):=ae (fun k h=>by rw[← hD];simp[h]);rw[hD];have kM:=ae hDl;clear hD hDl;go_enter Tryz.func246,Tryz.ntmps246
 go_wp2_with (first | (refine jek _ rfl _ _ 142 rfl w.heap.size 92 i0 (.int .u64 0) 1 Tryz.underlying142 hi cm hz1' .i64 .i64 _ _ l.length rfl rfl ?m1 ?m2 ?m3 ?m4 ?m5 ?_))
 case m1=>rfl
 case m2=>rfl
 case m3=>rw[bn];omega
 case m4=>unfold maxLen;omega
 case m5=>omega
 intro w4 gF iN;have bw:Below w.heap.size w w4:=(jdg _ _).grown iN (jdh _) (fun k hk=>by cases hk)
 have ho4':w4.ownsRow w.heap.size 92 1 (.slice (some ⟨w.heap.size,0,none⟩) l.length l.length) l.length (aF .u64 (fill D 0)):=by
  rw[oF,kM.o,← jZ];simpa using gF
 have eR:=ae ho4';have ce:=ae bw;clear gF iN bw ho4';go_wp2_with fail;go_loopw [15] (fun i wr=>∃ k:Nat,i=.int .i64 (k:Int)/\k<=l.length/\wr.ownsRow w.heap.size 92 1 (.slice (some ⟨w.heap.size,0,none⟩) l.length l.length) l.length (aF .u64 (fill D k))/\Below w.heap.size w wr) (fun i _=>l.length-(intOf i).toNat)
 case atStart=>exact⟨0,rfl,by omega,eR.o,ce.o⟩
 case round =>
  obtain⟨k,rfl,hk,how,az⟩:=hrel;have HB:=ae az;have HO:=ae how;have bP:=az.size;clear az how;by_cases aC:k<l.length
  ·have hkD:k<D.length:=by rw[kM.o];exact aC
   have hval:D[k]=pl u l[k]:=by
    have:=HG.o k aC;rw[List.getElem?_eq_getElem hkD]at this;exact Option.some.inj this
   obtain⟨b,off,rfl,hb,dR⟩:=(HS.o.kept HB.o).at aC;have hmem:=HM.o l[k] (jdl aC);have hSr:=GP (HU.o.kept HB.o) (List.length_pos_of_mem hmem) uK HR.o l[k];rw[zl HR.o hmem,← hval]at hSr;have HSr:=ae hSr;have hplt:=(vV hmem).1;rw[← hval]at hplt;have jT:k<(fill D k).length:=by rw[kU (by omega)];exact hkD
   have tu:=ae (qO hkD);clear hSr hval hmem;generalize l[k]=x at *;generalize (fill D k)[k]=y at *;generalize D[k]=z at *;go_wp2_with fail;refine HSr.o.mono ?_;rintro e w5 ⟨⟨r,rfl⟩,br⟩;have fV:=bI HO.o br;have aS:=ae (HB.o.trans (br.mono bP));have Fz:=(fV.cellAt k (by omega)).trans (bS jT);have FA:=fV.frozenAt k;have hST:=fV.stored k (.int .u64 (z:Int));rw[ki,tu.o]at hST;have cT:=ae hST;have Pq:=(fV.lt w.heap.size rfl).2;clear hST br fV;go_wp2_with fail;go_roundw
   case rel=>exact⟨k+1,by go_num,by omega,cT.o.1,cN aS.o (jdh _) _⟩
   case measure=>simp[intOf];omega
  ·obtain rfl:k=l.length:=by omega
   have e:fill D l.length=D:=by
    have:=qN D;rwa[kM.o]at this
   have HO':jfb (dD wr w.heap.size (.slice (some ⟨w.heap.size,0,none⟩) l.length l.length) D):=by
    show dD _ _ _ _
    have:=HO.o;rw[e]at this;unfold dD;rw[kM.o];exact this
   clear HO e;go_wp2_with fail;go_ret
   exact⟨⟨_,rfl,HO'.o⟩,HB.o⟩
theorem aD.len{W:World}{B:Nat}{v:Value}{l:List Nat}(h:aD W B v l):∃ a cap,v=.slice a l.length cap:=AU h
theorem bv.len{W:World}{B:Nat}{v:Value}{l:List Int}(h:bv W B v l):∃ a cap,v=.slice a l.length cap:=AU h
theorem dD.len{W:World}{B:Nat}{v:Value}{l:List Nat}(h:dD W B v l):∃ a cap,v=.slice a l.length cap:=AU h
theorem wI{l:List Int}(hl:l.length<=256):∀ x∈places l,x<18446744073709551616:=by
 intro x hx;have:=oq x hx;have:=fF l;omega
theorem MI{l:List Int}(hl:l.length<=256):pO l=uv (cG l).length++ia (cG l)++bg (places l) (cU ((cG l).length-1):Int):=by
 unfold pO;rw[jdw];rcases jd4 l.length with h0 | h0
 ·obtain rfl:l=[]:=jdF h0
  rfl
 ·rw[yX h0]
theorem kV{p:List Nat}{x:Int}(hl:p.length<=256):(bg p x).length<=2048:=by
 unfold bg;split
 ·next h =>
  unfold can at h;simp only[jd2]at h;rw[dM];have:p.length*x.toNat<=256*64:=jeP hl (by omega);unfold by8;omega
 ·simp
theorem pi{w:World}{v:Value}{l:List Int}(hs:Sv w v (aK l))(hl:l.length<=256)(hi:Is l) :
  Calls Tryz.prog 229 #[v] w (dw w (pO l)):=by
 have HI:=ae (lL hi);have HS:=ae hs;have HC:=ae (GO hs hl);have HF:=ae (MI hl);have HUR:=ae (gP l);have HSU:=ae (lP (lL hi)).1;have HCS:=ae (Dy l);have Kk:jfb (∀ x∈l,x∈cG l):=fun x hx=>gi.2 hx
 have Ur:=ae (wI hl);have rZ:jfb (l.map (pl (cG l))=places l):=rfl;have kK:=lq l;have uK:=fF l;have ft:=mB l;have hps:=kV (p:=places l) (x:=(cU ((cG l).length-1):Int)) (by omega);obtain⟨a,cap,rfl,aY,bx⟩:=hs.form;clear hs hi aY bx;generalize places l=P at *;generalize cG l=u at *;go_enter Tryz.func229,Tryz.ntmps229
 go_wp2_with fail;refine HC.o.mono ?_;rintro e w1 ⟨⟨v1,rfl,eI⟩,aH⟩;have fC:=ae eI;have aR:=ae aH;have cY:=aH.size;clear eI aH;go_wp2_with fail;refine(Ry fC.o hl cY).mono ?_;rintro e w2 ⟨rfl,fx,aE⟩;have du:=ae fx;have aO:=ae (aR.o.trans aE);have bn:=aO.o.size;clear fx aE;go_wp2_with fail;refine(Dx du.o (by omega) bn).mono ?_;rintro e w3 ⟨⟨v3,rfl,fP⟩,aQ⟩;rw[HCS.o]at fP;have cZ:=ae fP;have bN:=ae (aO.o.trans aQ);have iD:=bN.o.size;obtain⟨a3,c3,rfl⟩:=fP.len;clear fP aQ;go_wp2_with fail;refine(dI u.length (by omega) _).mono ?_;rintro e w4 ⟨⟨v4,rfl,gF⟩,bw⟩;have eR:=ae gF;have ce:=ae bw;have Ke:=bw.size;clear gF bw;go_wp2_with fail;refine(yg (cZ.o.sv.kept ce.o) (by omega) HI.o HUR.o).mono ?_;rintro e w5 ⟨⟨v5,rfl,fV⟩,br⟩;have dJ:=ae fV;have HO45:=ae (eR.o.kept br);have aS:=ae (ce.o.trans (br.mono Ke));have vk:=br.size;clear fV br;have nk:=bJ (n:=u.length) (by omega);have hsu:=HSU.o;go_wp2_with (first | (at_builtin;refine ax rfl _ _ rfl w3.heap.size _ _ (uv u.length) (ia u) rfl HO45.o rfl dJ.o.sv ?c1 ?c2 ?_))
 case c1=>omega
 case c2=>omega
 intro v6 w6 o6 b6;have ng:=ae o6;have jc:=ae (aS.o.trans b6);have FB:=jc.o.size;clear o6 b6;go_wp2_with fail;refine(uz (cZ.o.sv.kept jc.o) (HS.o.kept (bN.o.trans (jc.o.mono iD))) hl (by omega) HUR.o Kk.o).mono ?_;rintro e w7 ⟨⟨v7,rfl,XL⟩,jk⟩;rw[rZ.o]at XL;have iy:=ae XL;have ja9:=ae (ng.o.kept jk);have ic:=ae (jc.o.trans (jk.mono FB));have hz7:=jk.size;clear XL jk;go_wp2_with fail;refine(nG u.length (by omega) _).mono ?_;rintro e w8 ⟨rfl,kH⟩;have HO78:=ae (iy.o.kept kH);have HO68:=ae (ja9.o.kept kH);have qo:=ae (ic.o.trans (kH.mono (by omega)));have hz8:=kH.size;clear kH;go_wp2_with fail;refine(zt HO78.o.sv.sx Ur.o _).mono ?_;rintro e w9 ⟨⟨v9,rfl,XM⟩,pB⟩;have Us:=ae XM;have HO69:=ae (HO68.o.kept pB);have pD:=ae (qo.o.trans (pB.mono (by omega)));have XN:=pB.size;clear XM pB;go_wp2_with (first | (at_builtin;refine ax rfl _ _ rfl w3.heap.size _ _ (uv u.length++ia u) _ rfl HO69.o rfl Us.o.sv ?c3 ?c4 ?_))
 case c3=>simp;omega
 case c4=>omega
 intro vA wA oA bA;have nm:=ae oA;have eY:=ae (bN.o.trans ((pD.o.trans bA).mono iD));clear oA bA;go_wp2_with fail;go_ret
 refine⟨⟨_,rfl,?_⟩,eY.o⟩;rw[HF.o];have:=nm.o.low iD;simpa using this
theorem tM{l:List Int}(h:0<l.length):lN l=wv (gQ l)++uv (wd (di l))++bg (di l) (wd (di l):Int):=by
 unfold lN;rw[jde (by omega),jdw]
theorem uA{w:World}{v:Value}(hs:Sv w v (aK [])):Calls Tryz.prog 230 #[v] w (dw w (lN [])):=by
 obtain⟨a,cap,rfl,aY,bx⟩:=hs.form;clear hs aY bx;go_enter Tryz.func230,Tryz.ntmps230
 go_wp2_with fail;go_ret
 exact⟨⟨_,rfl,aD.nil _ _⟩,jdg _ _⟩
theorem uB{w:World}{v:Value}{l:List Int}(hs:Sv w v (aK l))(hl:l.length<=256)(hi:Is l)(hp:0<l.length) :
  Calls Tryz.prog 230 #[v] w (dw w (lN l)):=by
 obtain⟨i0,jl,cm,hz1',bn⟩:=jdA pL;have HS:=ae hs;have HI:=ae hi;have HMin:=ae (Ws hs hp hl);have HML:=ae (Dz hp);have HE:=ae (tM hp);have rR:=ae (hi _ (gR hp));have uJ:=ae (nA (l:=l));have Ca:=ae (lM hi);have nk:=fh (hi _ (gR hp));have LA:=Gu (lM hi);have hps:=kV (p:=di l) (x:=(wd (di l):Int)) (by rw[fT];omega);have hDl:=fT l;have HG:jfb (∀ k (h:k<l.length),(di l)[k]?=some (l[k]-gQ l).toNat):=ae (fun k h=>by simp[di,h]);obtain⟨a,cap,rfl,aY,bx⟩:=hs.form;clear hs hi aY bx;rw[HML.o]at HMin;generalize di l=D at *;generalize gQ l=lo at *;have hlen0:((l.length:Int)==0)=false:=jdt.2 (by omega);go_enter Tryz.func230,Tryz.ntmps230
 go_wp2_with fail;refine HMin.o.mono ?_;rintro e w1 ⟨rfl,rfl⟩;go_wp2_with (first | (refine jek _ rfl _ _ 142 rfl w1.heap.size 92 i0 (.int .u64 0) 1 Tryz.underlying142 jl cm hz1' .i64 .i64 _ _ l.length rfl rfl ?m1 ?m2 ?m3 ?m4 ?m5 ?_))
 case m1=>rfl
 case m2=>rfl
 case m3=>rw[bn];omega
 case m4=>unfold maxLen;omega
 case m5=>omega
 intro w4 gF iN;have bw:Below w1.heap.size w1 w4:=(jdg _ _).grown iN (jdh _) (fun k hk=>by cases hk)
 have ho4':w4.ownsRow w1.heap.size 92 1 (.slice (some ⟨w1.heap.size,0,none⟩) l.length l.length) l.length (aF .u64 (fill D 0)):=by
  rw[oF,hDl,← jZ];simpa using gF
 have eR:=ae ho4';have ce:=ae bw;have kM:=ae hDl;clear gF iN bw ho4' hDl;go_wp2_with fail;go_loopw [19] (fun i wr=>∃ k:Nat,i=.int .i64 (k:Int)/\k<=l.length/\wr.ownsRow w1.heap.size 92 1 (.slice (some ⟨w1.heap.size,0,none⟩) l.length l.length) l.length (aF .u64 (fill D k))/\Below w1.heap.size w1 wr) (fun i _=>l.length-(intOf i).toNat)
 case atStart=>exact⟨0,rfl,by omega,eR.o,ce.o⟩
 case round =>
  obtain⟨k,rfl,hk,how,az⟩:=hrel;have HB:=ae az;have HO:=ae how;have bP:=az.size;clear az how;by_cases aC:k<l.length
  ·have hkD:k<D.length:=by rw[kM.o];exact aC
   have hval:D[k]=(l[k]-lo).toNat:=by
    have:=HG.o k aC;rw[List.getElem?_eq_getElem hkD]at this;exact Option.some.inj this
   obtain⟨b,off,rfl,hb,dR⟩:=(HS.o.kept HB.o).at aC;have hd:=fun W=>nF (w:=W) rR.o (HI.o.get aC) (uJ.o _ (jdl aC))
   rw[← hval]at hd;have HD:=ae hd;have jT:k<(fill D k).length:=by rw[kU (by omega)];exact hkD
   have Fz:=(HO.o.cellAt k (by omega)).trans (bS jT);have FA:=HO.o.frozenAt k;have hST:=HO.o.stored k (.int .u64 ((D[k]:Nat):Int));rw[ki,qO hkD]at hST;have cT:=ae hST;have Pq:=(HO.o.lt w1.heap.size rfl).2;clear hd hval hST;generalize l[k]=x at *;generalize (fill D k)[k]=y at *;generalize D[k]=z at *;go_wp2_with fail;refine(HD.o _).mono ?_;rintro e w5 ⟨rfl,rfl⟩;go_wp2_with fail;go_roundw
   case rel=>exact⟨k+1,by go_num,by omega,cT.o.1,cN HB.o (jdh _) _⟩
   case measure=>simp[intOf];omega
  ·obtain rfl:k=l.length:=by omega
   have e:fill D l.length=D:=by
    have:=qN D;rwa[kM.o]at this
   have HO':jfb (dD wr w1.heap.size (.slice (some ⟨w1.heap.size,0,none⟩) l.length l.length) D):=by
    show dD _ _ _ _
    have:=HO.o;rw[e]at this;unfold dD;rw[kM.o];exact this
   have HWd:=ae (sK HO'.o.sv.sx Ca.o);clear HO e;generalize wd D=wdt at *;go_wp2_with fail;refine HWd.o.mono ?_;rintro e w5 ⟨rfl,rfl⟩;go_wp2_with fail;refine(gW rR.o _).mono ?_;rintro e w6 ⟨⟨v6,rfl,Ag⟩,dP⟩;have ng:=ae Ag;have jc:=ae dP;have FB:=dP.size;clear Ag dP;go_wp2_with fail;refine(dI wdt (by omega) _).mono ?_;rintro e w7 ⟨⟨v7,rfl,XL⟩,jk⟩;have iy:=ae XL;have ja9:=ae (ng.o.kept jk);have ic:=ae (jc.o.trans (jk.mono FB));have hz7:=jk.size;have h102:=bJ (n:=wdt) (by omega);clear XL jk;go_wp2_with (first | (at_builtin;refine ax rfl _ _ rfl w5.heap.size _ _ (wv lo) (uv wdt) rfl ja9.o rfl iy.o.sv ?c1 ?c2 ?_))
   case c1=>omega
   case c2=>omega
   intro v8 w8 o8 b8;have HO8:=ae o8;have qo:=ae (ic.o.trans b8);have hz8:=qo.o.size;clear o8 b8;have HOD:=ae (HO'.o.kept qo.o);go_wp2_with fail;refine(zt HOD.o.sv.sx Ca.o _).mono ?_;rintro e w9 ⟨⟨v9,rfl,XM⟩,pB⟩;have Us:=ae XM;have HO89:=ae (HO8.o.kept pB);have pD:=ae (qo.o.trans (pB.mono hz8));have XN:=pB.size;clear XM pB;go_wp2_with (first | (at_builtin;refine ax rfl _ _ rfl w5.heap.size _ _ (wv lo++uv wdt) _ rfl HO89.o rfl Us.o.sv ?c3 ?c4 ?_))
   case c3=>simp;omega
   case c4=>omega
   intro vA wA oA bA;have nm:=ae oA;have eY:=ae (HB.o.trans ((pD.o.trans bA).mono bP));clear oA bA;go_wp2_with fail;go_ret
   refine⟨⟨_,rfl,?_⟩,eY.o⟩;rw[HE.o];have:=nm.o.low bP;simpa using this
theorem nH{w:World}{v:Value}{l:List Int}(hs:Sv w v (aK l))(hl:l.length<=256)(hi:Is l):Calls Tryz.prog 230 #[v] w (dw w (lN l)):=by
 rcases jd4 l.length with h0 | h0
 ·obtain rfl:l=[]:=jdF h0
  exact uA hs
 ·exact uB hs hl hi h0
theorem fU(w:World):Calls Tryz.prog 200 #[] w fun e w'=>e=.returned (.agg #[.func (.func 226) #[] #[],.func (.func 227) #[] #[],.func (.func 228) #[] #[],.func (.func 229) #[] #[],.func (.func 230) #[] #[]])/\Below w.heap.size w w':=by
 go_enter Tryz.func200,Tryz.ntmps200
 go_wp2_with fail;exact bodyPost_ret (v:=.agg #[.func (.func 226) #[] #[],.func (.func 227) #[] #[],.func (.func 228) #[] #[],.func (.func 229) #[] #[],.func (.func 230) #[] #[]]) (by simp[results,Tryz.results200,go_sem]) rfl ⟨rfl,(jdg _ _).alloc (jdh _) _⟩
def DD(c:Nat)(l:List Int):List Nat:=if c<=4/\l.length<=256 then ib c l else []
theorem RD{w:World}{v:Value}{l:List Int}(hs:Sv w v (aK l))(hl:l.length<=256)(hi:Is l) :
  Calls Tryz.prog 319 #[.int .u8 0,v] w fun e w'=>(∃ v',e=.returned (.tuple #[v',.bool true])/\aD w' w.heap.size v' (gh l))/\Below w.heap.size w w':=by
 have HS:=ae hs;have HI:=ae hi;obtain⟨a,cap,rfl,aY,bx⟩:=hs.form;have ve:¬ (l.length:Int) > 256:=by omega
 clear hs aY bx hi;go_enter Tryz.func319,Tryz.ntmps319
 go_wp2_with fail;refine(fU _).mono ?_;rintro e w1 ⟨rfl,aH⟩;have aR:=ae aH;have cY:=aH.size;clear aH;go_wp2_with fail;have aO:=ae (aR.o.alloc cY (.cells #[.func (.func 226) #[] #[],.func (.func 227) #[] #[],.func (.func 228) #[] #[],.func (.func 229) #[] #[],.func (.func 230) #[] #[]] 246));have bn:=aO.o.size;refine(tI (HS.o.kept aO.o) hl HI.o).mono ?_;rintro e w3 ⟨⟨v3,rfl,fP⟩,aQ⟩;have cZ:=ae (fP.low bn);have bN:=ae (aO.o.trans (aQ.mono bn));clear fP aQ;go_wp2_with fail;go_ret2
 exact⟨⟨_,rfl,cZ.o⟩,bN.o⟩
theorem RE{w:World}{v:Value}{l:List Int}(hs:Sv w v (aK l))(hl:l.length<=256)(hi:Is l) :
  Calls Tryz.prog 319 #[.int .u8 1,v] w fun e w'=>(∃ v',e=.returned (.tuple #[v',.bool true])/\aD w' w.heap.size v' (iE 0 l))/\Below w.heap.size w w':=by
 have HS:=ae hs;have HI:=ae hi;obtain⟨a,cap,rfl,aY,bx⟩:=hs.form;have ve:¬ (l.length:Int) > 256:=by omega
 clear hs aY bx hi;go_enter Tryz.func319,Tryz.ntmps319
 go_wp2_with fail;refine(fU _).mono ?_;rintro e w1 ⟨rfl,aH⟩;have aR:=ae aH;have cY:=aH.size;clear aH;go_wp2_with fail;have aO:=ae (aR.o.alloc cY (.cells #[.func (.func 226) #[] #[],.func (.func 227) #[] #[],.func (.func 228) #[] #[],.func (.func 229) #[] #[],.func (.func 230) #[] #[]] 246));have bn:=aO.o.size;refine(qX (HS.o.kept aO.o) hl HI.o).mono ?_;rintro e w3 ⟨⟨v3,rfl,fP⟩,aQ⟩;have cZ:=ae (fP.low bn);have bN:=ae (aO.o.trans (aQ.mono bn));clear fP aQ;go_wp2_with fail;go_ret2
 exact⟨⟨_,rfl,cZ.o⟩,bN.o⟩
theorem RG{w:World}{v:Value}{l:List Int}(hs:Sv w v (aK l))(hl:l.length<=256)(hi:Is l) :
  Calls Tryz.prog 319 #[.int .u8 2,v] w fun e w'=>(∃ v',e=.returned (.tuple #[v',.bool true])/\aD w' w.heap.size v' (im l))/\Below w.heap.size w w':=by
 have HS:=ae hs;have HI:=ae hi;obtain⟨a,cap,rfl,aY,bx⟩:=hs.form;have ve:¬ (l.length:Int) > 256:=by omega
 clear hs aY bx hi;go_enter Tryz.func319,Tryz.ntmps319
 go_wp2_with fail;refine(fU _).mono ?_;rintro e w1 ⟨rfl,aH⟩;have aR:=ae aH;have cY:=aH.size;clear aH;go_wp2_with fail;have aO:=ae (aR.o.alloc cY (.cells #[.func (.func 226) #[] #[],.func (.func 227) #[] #[],.func (.func 228) #[] #[],.func (.func 229) #[] #[],.func (.func 230) #[] #[]] 246));have bn:=aO.o.size;refine(tK (HS.o.kept aO.o) hl HI.o).mono ?_;rintro e w3 ⟨⟨v3,rfl,fP⟩,aQ⟩;have cZ:=ae (fP.low bn);have bN:=ae (aO.o.trans (aQ.mono bn));clear fP aQ;go_wp2_with fail;go_ret2
 exact⟨⟨_,rfl,cZ.o⟩,bN.o⟩
theorem RH{w:World}{v:Value}{l:List Int}(hs:Sv w v (aK l))(hl:l.length<=256)(hi:Is l) :
  Calls Tryz.prog 319 #[.int .u8 3,v] w fun e w'=>(∃ v',e=.returned (.tuple #[v',.bool true])/\aD w' w.heap.size v' (pO l))/\Below w.heap.size w w':=by
 have HS:=ae hs;have HI:=ae hi;obtain⟨a,cap,rfl,aY,bx⟩:=hs.form;have ve:¬ (l.length:Int) > 256:=by omega
 clear hs aY bx hi;go_enter Tryz.func319,Tryz.ntmps319
 go_wp2_with fail;refine(fU _).mono ?_;rintro e w1 ⟨rfl,aH⟩;have aR:=ae aH;have cY:=aH.size;clear aH;go_wp2_with fail;have aO:=ae (aR.o.alloc cY (.cells #[.func (.func 226) #[] #[],.func (.func 227) #[] #[],.func (.func 228) #[] #[],.func (.func 229) #[] #[],.func (.func 230) #[] #[]] 246));have bn:=aO.o.size;refine(pi (HS.o.kept aO.o) hl HI.o).mono ?_;rintro e w3 ⟨⟨v3,rfl,fP⟩,aQ⟩;have cZ:=ae (fP.low bn);have bN:=ae (aO.o.trans (aQ.mono bn));clear fP aQ;go_wp2_with fail;go_ret2
 exact⟨⟨_,rfl,cZ.o⟩,bN.o⟩
theorem RI{w:World}{v:Value}{l:List Int}(hs:Sv w v (aK l))(hl:l.length<=256)(hi:Is l) :
  Calls Tryz.prog 319 #[.int .u8 4,v] w fun e w'=>(∃ v',e=.returned (.tuple #[v',.bool true])/\aD w' w.heap.size v' (lN l))/\Below w.heap.size w w':=by
 have HS:=ae hs;have HI:=ae hi;obtain⟨a,cap,rfl,aY,bx⟩:=hs.form;have ve:¬ (l.length:Int) > 256:=by omega
 clear hs aY bx hi;go_enter Tryz.func319,Tryz.ntmps319
 go_wp2_with fail;refine(fU _).mono ?_;rintro e w1 ⟨rfl,aH⟩;have aR:=ae aH;have cY:=aH.size;clear aH;go_wp2_with fail;have aO:=ae (aR.o.alloc cY (.cells #[.func (.func 226) #[] #[],.func (.func 227) #[] #[],.func (.func 228) #[] #[],.func (.func 229) #[] #[],.func (.func 230) #[] #[]] 246));have bn:=aO.o.size;refine(nH (HS.o.kept aO.o) hl HI.o).mono ?_;rintro e w3 ⟨⟨v3,rfl,fP⟩,aQ⟩;have cZ:=ae (fP.low bn);have bN:=ae (aO.o.trans (aQ.mono bn));clear fP aQ;go_wp2_with fail;go_ret2
 exact⟨⟨_,rfl,cZ.o⟩,bN.o⟩
theorem MJ{w:World}{v:Value}{l:List Int}(hs:Sv w v (aK l))(c:Nat)(hc:c<256)(hno:¬ (c<=4/\l.length<=256)) :
  Calls Tryz.prog 319 #[.int .u8 (c:Int),v] w fun e w'=>(∃ v',e=.returned (.tuple #[v',.bool false])/\aD w' w.heap.size v' [])/\Below w.heap.size w w':=by
 obtain⟨a,cap,rfl,aY,bx⟩:=hs.form;have hm:l.length<=9223372036854775807:=by unfold maxLen at bx;omega
 clear hs aY bx;by_cases h5:(c:Int)>=5
 ·go_enter Tryz.func319,Tryz.ntmps319
  go_wp2_with fail;go_ret2
  exact⟨⟨_,rfl,aD.nil _ _⟩,jdg _ _⟩
 ·have ve:(l.length:Int) > 256:=by omega
  go_enter Tryz.func319,Tryz.ntmps319
  go_wp2_with fail;go_ret2
  exact⟨⟨_,rfl,aD.nil _ _⟩,jdg _ _⟩
theorem GR{w:World}{v:Value}{l:List Int}(hs:Sv w v (aK l))(hi:Is l)(c:Nat)(hc:c<256) :
  Calls Tryz.prog 319 #[.int .u8 (c:Int),v] w fun e w'=>(∃ v',e=.returned (.tuple #[v',.bool (decide (c<=4/\l.length<=256))])/\aD w' w.heap.size v' (DD c l))/\Below w.heap.size w w':=by
 by_cases h:c<=4/\l.length<=256
 ·rw[jdy h]
  unfold DD;rw[jdf h];obtain⟨h4,hl⟩:=h;match c,h4 with
  | 0,_=>exact RD hs hl hi
  | 1,_=>exact RE hs hl hi
  | 2,_=>exact RG hs hl hi
  | 3,_=>exact RH hs hl hi
  | 4,_=>exact RI hs hl hi
 ·rw[jds h]
  unfold DD;rw[jde h];exact MJ hs c hc h
end Go.Proofs.YtpljdjmpamjkhaaGreatDoor
