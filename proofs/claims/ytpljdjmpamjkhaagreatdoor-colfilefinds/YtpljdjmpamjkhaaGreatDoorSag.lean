import Derived.Test.YtpljdjmpamjkhaaGreatDoorSaf
import Derived.Laws.EntriesVeiled
set_option linter.all false
set_option maxRecDepth 100000
set_option maxHeartbeats 2000000
namespace Go.Proofs.YtpljdjmpamjkhaaGreatDoor
open Tryz
open Go.RowKit Go.Lib
def ahd(l:List Int)(k:Nat):Int:=if k=0 then 0 else l.getD (k-1) 0
def Tl{l:List Int}{k:Nat}(h:k<l.length):ahd l (k+1)=l[k]:=by
 unfold ahd;simp[List.getD_eq_getElem?_getD,h]
def uj:∀(a:List Int) (last x:Int),jO last (a++[x])=jO last a++wv (w64 (x-(a.getLast?.getD last)))
 | [],last,x=>by simp[jO]
 | y::t,last,x=>by
  rw[je5,jO,uj t y x,jO,jeQ];cases t with
  | nil=>rfl
  | cons z s=>rw[show (y::z::s).getLast?=(z::s).getLast? from by simp[List.getLast?_cons_cons]];simp[List.getLast?_eq_some_getLast]
def Tm{l:List Int}{k:Nat}(h:k<=l.length):(l.take k).getLast?.getD 0=ahd l k:=by
 unfold ahd;cases k with
 | zero=>simp
 | succ k =>
  rw[jex (by omega),List.getLast?_take,List.getD_eq_getElem?_getD];simp[show k<l.length by omega]
def NS{l:List Int}{k:Nat}(h:k<l.length):jO 0 (l.take (k+1))=jO 0 (l.take k)++wv (w64 (l[k]-ahd l k)):=by
 rw[jeO h,uj,Tm (by omega)]
def wX(x:Int):IntKind.i64.wrap x=w64 x:=by rw[jfq];unfold w64;omega
def qZ{w:World}{v:Value}{l:List Int}(hs:Sv w v (aO l))(hl:l.length<=256)(hi:Is l) :
  Calls prog 227 #[v] w (ee w (jO 0 l)):=by
 have HI:=ae hi;have HS:=ae hs;obtain⟨a,cap,rfl,bg,bx⟩:=hs.form;clear hs hi bg bx;go_enter func227,ntmps227
 go_wp2_with fail;go_loopw [3,4,9] (λb ah i wr=>∃ k:Nat,k<=l.length/\i=.int .i64 (k:Int)/\ah=.int .i64 (ahd l k)/\aM wr w.heap.size b (jO 0 (l.take k))/\jgu w wr) (λ_ _ i _=>l.length-(intOf i).toNat)
 case atStart=>exact⟨0,by omega,rfl,rfl,aM.nil _ _,jez _ _⟩
 case round =>
  obtain⟨k,hk,rfl,rfl,ax,ao⟩:=hrel;have HO:=ae ax;have HB:=ae ao;have bF:=ao.size;clear ax ao;by_cases ar:k<l.length
  ·obtain⟨b,off,rfl,hb,eP⟩:=(HS.o.kept HB.o).at ar
   have HX:=ae (kZ (l[k]-ahd l k));have RG:=wX (l[k]-ahd l k);have HT:=ae (NS ar);have HA:=ae (Tl ar);have lA:=(sS (l:=l.take k) (last:=0)).1;rw[jeH]at lA;have hten:=iJ (kZ (l[k]-ahd l k));generalize l[k]=x at *;generalize ahd l k=y at *;generalize jO 0 (l.take k)=acc at *;generalize w64 (x-y)=d at *;go_wp2_with fail;try rw[RG]
   refine(gP HX.o _).mono ?_;rintro e w2 ⟨⟨v2,rfl,gj⟩,ap⟩;have eb:=ae gj;have HOk:=ae (HO.o.kept ap);have aG:=ae (HB.o.trans (ap.mono bF));have aX:=ap.size;clear gj ap;go_wp2_with (first | (at_builtin;refine aC rfl _ _ rfl w.heap.size _ _ acc (wv d) rfl HOk.o rfl eb.o.sv ?c1 ?c2 ?_))
   case c1=>omega
   case c2=>omega
   intro v3 w3 o3 b3;have dL:=ae o3;have aY:=ae (aG.o.trans b3);clear o3 b3;go_wp2_with fail;go_roundw
   case rel=>exact⟨k+1,by omega,by go_num,by rw[HA.o],by rw[HT.o];exact dL.o,aY.o⟩
   case measure=>simp[intOf];omega
  ·obtain rfl:k=l.length:=by omega
   rw[jeJ]at HO;go_wp2_with fail;go_ret
   exact⟨⟨_,rfl,HO.o⟩,HB.o⟩
def iA(x:Int):List Int->Nat
 | []=>0
 | y::t=>if y=x then iA x t+1 else 0
def LZ(x:Int):∀ l,iA x l<=l.length
 | []=>by simp[iA]
 | y::t=>by
  have:=LZ x t;unfold iA;split<;>simp<;>omega
def zV{x:Int}:∀{l:List Int} {k:Nat},(∀ j (h:j<k) (hl:j<l.length),l[j]=x)->(h:k<l.length)->l[k]≠x->iA x l=k
 | y::t,0,_,_,h=>by
  unfold iA;rw[jex (by simpa using h)]
 | y::t,k+1,ha,hk,h=>by
  have h0:=ha 0 (by omega) (by simp);unfold iA;rw[jey (by simpa using h0),zV (l:=t) (k:=k) (λj hj hl=>by have:=ha (j+1) (by omega) (by simpa using hl);simpa using this) (by simpa using hk) (by simpa using h)]
def Eh{x:Int}:∀{l:List Int},(∀ j (h:j<l.length),l[j]=x)->iA x l=l.length
 | [],_=>rfl
 | y::t,ha=>by
  have h0:=ha 0 (by simp);unfold iA;rw[jey (by simpa using h0),Eh (l:=t) (λj hj=>by have:=ha (j+1) (by simpa using hj);simpa using this)];simp
def zW(x:Int):∀(t:List Int) (c:Nat),ic x c t=wv x++uv (c+iA x t)++jP (t.drop (iA x t))
 | [],c=>by simp[ic,iA,jP]
 | y::t,c=>by
  unfold ic iA;split
  ·next h =>
   rw[zW x t (c+1)];rw[show c+1+iA x t=c+(iA x t+1) by omega,List.drop_succ_cons]
  ·simp[jP]
def Tn{l:List Int}(h:0<l.length):jP l=wv l[0]++uv (iA l[0] l)++jP (l.drop (iA l[0] l)):=by
 cases l with
 | nil=>simp at h
 | cons x t =>
  show ic x 1 t=wv x++uv (iA x (x::t))++jP ((x::t).drop (iA x (x::t)))
  rw[zW x t 1];have e:iA x (x::t)=iA x t+1:=by rw[iA,jey rfl]
  rw[e,List.drop_succ_cons,Nat.add_comm 1]
def To{l:List Int}(h:0<l.length):0<iA l[0] l:=by
 cases l with
 | nil=>simp at h
 | cons x t =>
  show 0<iA x (x::t)
  rw[iA,jey rfl];omega
def yA{w:World}{v:Value}{l:List Int}(hs:Sv w v (aO l))(hl:l.length<=256)(hp:0<l.length) :
  Calls prog 240 #[v] w λe w'=>e=.returned (.int .i64 (iA l[0] l:Int))/\w'=w:=by
 have HS:=ae hs;obtain⟨a,cap,rfl,bg,bx⟩:=hs.form;obtain⟨b,off,rfl,hb,sE⟩:=hs.at hp;clear hs bg bx;rw[jfk]at sE;have HE:jgt (∀ k,(∀ j (h:j<k) (hl:j<l.length),l[j]=l[0])->(h:k<l.length)->l[k]≠l[0]->iA l[0] l=k):=λk h1 h2 h3=>zV h1 h2 h3
 have HA:=ae (Eh (x:=l[0]) (l:=l));generalize l[0]=x at *;go_enter func240,ntmps240
 go_wp2_with fail;go_loopw [7] (λi wr=>wr=w/\∃ k:Nat,k<=l.length/\i=.int .i64 (k:Int)/\∀ j (h:j<k) (hl:j<l.length),l[j]=x) (λi _=>l.length-(intOf i).toNat)
 case atStart=>exact⟨rfl,0,by omega,rfl,λj h=>by omega⟩
 case round =>
  obtain⟨rfl,k,hk,rfl,ch⟩:=hrel;have HL:=ae ch;clear ch;by_cases ar:k<l.length
  ·obtain⟨b',off',Lc,_,eP⟩:=HS.o.at ar
   cases Lc
   have HX:=ae (HE.o k HL.o ar);have HY:jgt (∀ j (h:j<k+1) (hl:j<l.length),l[j]=x->l[j]=x):=λ_ _ _ h=>h
   by_cases he:(l[k]==x)=true
   ·have dC:(l[k] != x)=false:=by simpa using he
    have HN:jgt (∀ j (h:j<k+1) (hl:j<l.length),l[j]=x):=by
     intro j hj hl;rcases je0 j k with h | h
     ·exact HL.o j h hl
     ·have:j=k:=by omega
      subst this;simpa using he
    clear HX;generalize l[k]=y at *;go_wp2_with fail;go_roundw
    case rel=>exact⟨trivial,k+1,by omega,by go_num,HN.o⟩
    case measure=>simp[intOf];omega
   ·have dC:(l[k] != x)=true:=by simpa using he
    have HR:=ae (HX.o (by simpa using he));clear HX;generalize l[k]=y at *;go_wp2_with fail;go_ret
    rw[HR.o];exact⟨rfl,rfl⟩
  ·obtain rfl:k=l.length:=by omega
   have HR:=ae (HA.o (λj hj=>HL.o j hj hj));go_wp2_with fail;go_ret
   rw[HR.o];exact⟨rfl,rfl⟩
def BG{W:World}{b off n cap:Nat}{xs:List Value}(h:Sv W (.slice (some ⟨b,off,none⟩) n cap) xs){k:Nat}(hk:k<=xs.length) :
  ∃ A,(if cap=k then (some ⟨b,off,none⟩:Option Addr) else some ⟨b,off+k,none⟩)=A/\Sv W (.slice A (n-k) (cap-k)) (xs.drop k):=by
 refine⟨_,rfl,?_⟩;have:=h.drop hk rfl;split at this
 ·next e=>rw[jey e];exact this
 ·next e=>rw[jex e];exact this
def Jh(l:List Int)(k:Nat):aO (l.drop k)=(aO l).drop k:=by simp[aO,List.map_drop]
def Is.drop{l:List Int}(h:Is l)(k:Nat):Is (l.drop k):=λx hx=>h x (jgi hx)
def NT{l:List Int}(h:Is l)(hl:l.length<=256):(jP l).length<=5120:=by
 have:=fM 2 h hl;cases l with
 | nil=>simp[jP]
 | cons x t =>
  have:=(mt (t:=t) (x:=x) (c:=1) (λz hz=>h z (by simp[hz])) (h x (by simp)) (by simp at hl;omega)).1;simp at hl
  rw[jP];omega
def uk{w:World}{v:Value}{l:List Int}(hs:Sv w v (aO l))(hl:l.length<=256)(hi:Is l) :
  Calls prog 228 #[v] w (ee w (jP l)):=by
 have HI:=ae hi;have HS:=ae hs;have lA:=NT hi hl;obtain⟨a,cap,rfl,bg,bx⟩:=hs.form;clear hs hi;go_enter func228,ntmps228
 go_wp2_with fail;go_loopw [0,3] (λv b wr=>∃(m:List Int) (acc:List Nat),Sv w v (aO m)/\m.length<=256/\Is m/\acc++jP m=jP l/\aM wr w.heap.size b acc/\jgu w wr) (λv _ _=>(match v with | .slice _ n _=>n | _=>0))
 case atStart=>exact⟨l,[],HS.o,hl,HI.o,rfl,aM.nil _ _,jez _ _⟩
 case round =>
  obtain⟨m,acc,Gf,hml,him,kR,ax,ao⟩:=hrel;have Gk:=ae Gf;have HIM:=ae him;have HA:=ae kR;have HO:=ae ax;have HB:=ae ao;have bF:=ao.size;have bH:=jeG List.length kR;rw[jeC]at bH;obtain⟨a2,cap2,rfl,MG,tO⟩:=Gf.form;have jcT:cap2<=9223372036854775807:=by unfold maxLen at tO;omega
  clear Gf him kR ax ao tO HS bg bx;by_cases hp:0<m.length
  ·have sg:=ae (Gk.o.kept HB.o)
   obtain⟨b,off,rfl,hb,sE⟩:=sg.o.at hp;rw[jfk]at sE;have HX:=ae (HIM.o.get hp);have hE:=Tn hp;have MH:=ae (yA sg.o hml hp);have sj:=LZ m[0] m;have hrp:=To hp;have vJ:=iJ (HIM.o.get hp);generalize m[0]=x at *;generalize iA x m=r at *;obtain⟨A,hA,hSA⟩:=BG Gk.o (k:=r) (by rw[bV];omega);rw[<- Jh]at hSA;have jD:=ae hSA;have HE:=ae hE;have hlE:=jeG List.length hE;rw[jeC,jeC]at hlE;clear hSA hE;go_wp2_with fail;refine MH.o.mono ?_;rintro e w1 ⟨rfl,rfl⟩;go_wp2_with fail;refine(gP HX.o _).mono ?_;rintro e w2 ⟨⟨v2,rfl,gj⟩,ap⟩;have eb:=ae gj;have HOk:=ae (HO.o.kept ap);have aG:=ae (HB.o.trans (ap.mono bF));have aX:=ap.size;clear gj ap;go_wp2_with (first | (at_builtin;refine aC rfl _ _ rfl w.heap.size _ _ acc (wv x) rfl HOk.o rfl eb.o.sv ?c1 ?c2 ?_))
   case c1=>omega
   case c2=>omega
   intro v3 w3 o3 b3;have dL:=ae o3;have aY:=ae (aG.o.trans b3);have gy:=b3.size;clear o3 b3;go_wp2_with fail;refine(de r (by omega) _).mono ?_;rintro e w4 ⟨⟨v4,rfl,ja9⟩,bD⟩;have gT:=ae ja9;have HOk4:=ae (dL.o.kept bD);have cL:=ae (aY.o.trans (bD.mono (by omega)));have se:=bD.size;clear ja9 bD;go_wp2_with (first | (at_builtin;refine aC rfl _ _ rfl w.heap.size _ _ (acc++wv x) (uv r) rfl HOk4.o rfl gT.o.sv ?c1 ?c2 ?_))
   case c1=>simp;omega
   case c2=>omega
   intro v5 w5 o5 b5;have dK:=ae o5;have bq:=ae (cL.o.trans b5);clear o5 b5;go_wp2_with fail;go_roundw
   case rel=>exact⟨m.drop r,acc++(wv x++uv r),jD.o,by rw[jeX];omega,HIM.o.drop r,by rw[<- HA.o,HE.o];simp,dK.o,bq.o⟩
   case measure=>simp;omega
  ·obtain rfl:m=[]:=jeW (by omega)
   go_wp2_with fail;go_ret
   refine⟨⟨_,rfl,?_⟩,HB.o⟩;have e:=HA.o;rw[show jP []=[] from rfl,jeS]at e;rw[<- e];exact HO.o
def BH(a b:Int)(ha:I64 a)(hb:I64 b)(w:World):Calls prog 249 #[.int .i64 a,.int .i64 b] w λe w'=>e=.returned (.int .u64 ((b-a) % 18446744073709551616))/\w'=w:=by
 have HE:jgt (IntKind.u64.wrap (IntKind.u64.wrap b-IntKind.u64.wrap a)=(b-a) % 18446744073709551616):=by
  show _=_
  rw[jfm,jfm,jfm];omega
 clear ha hb;go_enter func249,ntmps249
 go_wp2_with fail;go_ret
 rw[<- HE.o];exact⟨rfl,rfl⟩
def nD{a b:Int}(ha:I64 a)(hb:I64 b)(Wx:a<=b)(w:World):Calls prog 249 #[.int .i64 a,.int .i64 b] w λe w'=>e=.returned (.int .u64 ((b-a).toNat:Int))/\w'=w:=by
 have:=BH a b ha hb w;unfold I64 at ha hb;rwa[show (b-a) % 18446744073709551616=((b-a).toNat:Int) by omega]at this
def zX{w:World}{v:Value}{l:List Nat}(hs:Sx .u64 w v l)(qr:∀ x∈l,x<18446744073709551616)(x:Int) :
  Calls prog 245 #[v,.int .i64 x] w (ee w (bi l x)):=by
 have HP:=ae (zS hs qr x);clear hs qr;go_enter func245,ntmps245
 go_wp2_with fail;refine HP.o.mono ?_;rintro e w1 ⟨v1,rfl,ax,hb⟩;have HO:=ae ax;clear ax;go_wp2_with fail;go_ret
 exact⟨⟨_,rfl,HO.o⟩,hb⟩
def jca(n:Nat):wd [n]=cY n:=by
 have h1:wd [n]<=cY n:=tZ.2 (λx hx=>by
  have:x=n:=by simpa using hx
  subst this;exact fL.1 (jeA _))
 have h2:cY n<=wd [n]:=fL.2 (tZ.1 (jeA _) n (by simp));omega
def nE(n:Nat)(hn:n<=256)(w:World):Calls prog 247 #[.int .i64 (n:Int)] w λe w'=>e=.returned (.int .i64 (cY (n-1):Int))/\jgu w w':=by
 by_cases h0:((n:Int)==0)=true
 ·have h0':n=0:=by simpa using h0
  subst h0';go_enter func247,ntmps247
  go_wp2_with fail;go_ret
  exact⟨rfl,jez _ _⟩
 ·have h0f:((n:Int)==0)=false:=by simpa using h0
  have mY:n≠0:=by simpa using h0
  obtain⟨m,rfl⟩:∃ m,n=m+1:=⟨n-1,by omega⟩
  have HW:=ae (λw=>tc (Sx.lit (k:=.u64) w [m] 92 (by unfold maxLen;simp)) (λx hx=>by
   have:x=m:=by simpa using hx
   omega))
  have HB:=ae (λw:World=>(jez w.heap.size w).alloc (jeA _) (.cells (aA .u64 [m]).toArray 92));have he:((m+1:Nat):Int)-1=(m:Int):=by omega
  rw[jca]at HW;clear h0;go_enter func247,ntmps247
  go_wp2_with fail;refine(HW.o w).mono ?_;rintro e w1 ⟨rfl,rfl⟩;have aL:=ae (HB.o w);go_wp2_with fail;go_ret
  exact⟨rfl,aL.o⟩
def um:∀(t:List Int) (last x:Int),pD last (t++[x])=pD last t++uv (x-(t.getLast?.getD last)).toNat
 | [],last,x=>by simp[pD]
 | y::t,last,x=>by
  rw[je5,pD,um t y x,pD,jeQ];cases t with
  | nil=>rfl
  | cons z s=>rw[show (y::z::s).getLast?=(z::s).getLast? from by simp[List.getLast?_cons_cons]];simp[List.getLast?_eq_some_getLast]
def Tp{u:List Int}(h:0<u.length):kl (u.take 1)=kl (u.take 0)++wv u[0]:=by
 cases u with
 | nil=>simp at h
 | cons x t=>simp[kl,pD]
def NU{u:List Int}{k:Nat}(h:k+1<u.length):kl (u.take (k+1+1))=kl (u.take (k+1))++uv (u[k+1]-u[k]).toNat:=by
 cases u with
 | nil=>simp at h
 | cons x t =>
  have hk:k<t.length:=by simpa using h
  rw[jf2,jf2,jeO hk,kl,kl,um,jeQ];congr 3
  cases k with
  | zero=>simp
  | succ k =>
   rw[List.getLast?_take];simp[show k<t.length by omega]
def yB{w:World}{v:Value}{l:List Int}(hs:Sv w v (aO l))(hl:l.length<=256)(hi:Is l)(hr:dm l) :
  Calls prog 244 #[v] w (ee w (kl l)):=by
 have HI:=ae hi;have HS:=ae hs;have HR:=ae hr;obtain⟨a,cap,rfl,bg,bx⟩:=hs.form;clear hs hi bg bx hr;go_enter func244,ntmps244
 go_wp2_with fail;go_loopw [3,8] (λb i wr=>∃ k:Nat,k<=l.length/\i=.int .i64 (k:Int)/\aM wr w.heap.size b (kl (l.take k))/\jgu w wr) (λ_ i _=>l.length-(intOf i).toNat)
 case atStart=>exact⟨0,by omega,rfl,aM.nil _ _,jez _ _⟩
 case round =>
  obtain⟨k,hk,rfl,ax,ao⟩:=hrel;have HO:=ae ax;have HB:=ae ao;have bF:=ao.size;clear ax ao;by_cases ar:k<l.length
  ·obtain⟨b,off,rfl,hb,eP⟩:=(HS.o.kept HB.o).at ar
   have HX:=ae (HI.o.get ar);have lA:=(sT (HI.o.take k)).1;rw[jeH]at lA;have hten:=iJ (HI.o.get ar);cases k with
   | zero =>
    have HT:=ae (Tp ar);rw[jfk]at eP;generalize kl (l.take 0)=acc at *;generalize l[0]=x at *;go_wp2_with fail;refine(gP HX.o _).mono ?_;rintro e w2 ⟨⟨v2,rfl,gj⟩,ap⟩;have eb:=ae gj;have HOk:=ae (HO.o.kept ap);have aG:=ae (HB.o.trans (ap.mono bF));have aX:=ap.size;clear gj ap;go_wp2_with (first | (at_builtin;refine aC rfl _ _ rfl w.heap.size _ _ acc (wv x) rfl HOk.o rfl eb.o.sv ?c1 ?c2 ?_))
    case c1=>omega
    case c2=>omega
    intro v3 w3 o3 b3;have dL:=ae o3;have aY:=ae (aG.o.trans b3);clear o3 b3;go_wp2_with fail;go_roundw
    case rel=>exact⟨1,by omega,by go_num,by rw[HT.o];exact dL.o,aY.o⟩
    case measure=>simp[intOf];omega
   | succ k =>
    obtain⟨b',off',Lc,_,hck2⟩:=(HS.o.kept HB.o).at (show k<l.length by omega);cases Lc
    have GN:=ae (HI.o.get (show k<l.length by omega));have jt:l[k]<l[k+1]:=jgl.1 HR.o k (k+1) (by omega) ar (by omega);have HT:=ae (NU ar)
    have hd:(l[k+1]-l[k]).toNat<18446744073709551616:=by
     have h1:=HX.o;have h2:=GN.o;unfold I64 at h1 h2;omega
    have hten2:=cG hd;have HD:=ae (λW=>nD (a:=l[k]) (b:=l[k+1]) GN.o HX.o (by omega) W);have vL:(((k+1:Nat):Int)==0)=false:=by simp;omega
    have yp:((k+1:Nat):Int)-1=(k:Int):=(by omega);have AK:((k+1:Nat):Int)=(k:Int)+1:=(by omega);generalize l[k+1]=x at *;generalize l[k]=y at *;generalize kl (l.take (k+1))=acc at *;generalize (x-y).toNat=d at *;have mI:jgt (d<18446744073709551616):=hd;clear hd;go_wp2_with fail;refine(HD.o _).mono ?_;rintro e w1 ⟨rfl,rfl⟩;go_wp2_with fail;refine(de d mI.o _).mono ?_;rintro e w2 ⟨⟨v2,rfl,gj⟩,ap⟩;have eb:=ae gj;have HOk:=ae (HO.o.kept ap);have aG:=ae (HB.o.trans (ap.mono bF));have aX:=ap.size;clear gj ap;go_wp2_with (first | (at_builtin;refine aC rfl _ _ rfl w.heap.size _ _ acc (uv d) rfl HOk.o rfl eb.o.sv ?c1 ?c2 ?_))
    case c1=>omega
    case c2=>omega
    intro v3 w3 o3 b3;have dL:=ae o3;have aY:=ae (aG.o.trans b3);clear o3 b3;go_wp2_with fail;go_roundw
    case rel=>exact⟨k+1+1,by omega,by go_num,by rw[HT.o];exact dL.o,aY.o⟩
    case measure=>simp[intOf];omega
  ·obtain rfl:k=l.length:=by omega
   rw[jeJ]at HO;go_wp2_with fail;go_ret
   exact⟨⟨_,rfl,HO.o⟩,HB.o⟩
def aM.low{W:World}{B B':Nat}{v:Value}{bs:List Nat}(h:aM W B' v bs)(hb:B<=B'):aM W B v bs:=by
 obtain⟨h1,h2⟩:=h;refine⟨h1,?_⟩;rcases h2 with h | ⟨g,cap,cur,e1,e2,e3⟩
 ·exact Or.inl h
 ·exact Or.inr ⟨g,cap,cur,e1,jeK hb e2,e3⟩
def vg{w:World}{vu v:Value}{u l:List Int}(hu:Sv w vu (aO u))(hs:Sv w v (aO l))(hl:l.length<=256)(QN:u.length<=256)(hr:dm u)(hm:∀ x∈l,x∈u) :
  Calls prog 246 #[vu,v] w λe w'=>(∃ v',e=.returned v'/\eS w' w.heap.size v' (l.map (pl u)))/\jgu w w':=by
 obtain⟨i0,hi,bR,hz1',aX⟩:=jeT sQ;have HU:=ae hu;have HS:=ae hs;have HR:=ae hr;have HM:=ae hm;obtain⟨a,cap,rfl,bg,bx⟩:=hs.form;clear hs hu bg bx hr hm;obtain⟨D,hD⟩:∃ D,l.map (pl u)=D:=⟨_,rfl⟩;have hDl:D.length=l.length:=by rw[<- hD,jeE]
 have HG:jgt (∀ k (h:k<l.length),D[k]?=some (pl u l[k])):=ae (λk h=>by rw[<- hD];simp[h]);rw[hD];have mI:=ae hDl;clear hD hDl;go_enter func246,ntmps246
 go_wp2_with (first | (refine jft _ rfl _ _ 142 rfl w.heap.size 92 i0 (.int .u64 0) 1 underlying142 hi bR hz1' .i64 .i64 _ _ l.length rfl rfl ?m1 ?m2 ?m3 ?m4 ?m5 ?_))
 case m1=>rfl
 case m2=>rfl
 case m3=>rw[aX];omega
 case m4=>unfold maxLen;omega
 case m5=>omega
 intro w4 gz iE;have bD:jgu w w4:=(jez _ _).grown iE (jeA _) (λk hk=>by cases hk)
 have ho4':w4.ownsRow w.heap.size 92 1 (.slice (some ⟨w.heap.size,0,none⟩) l.length l.length) l.length (aA .u64 (fill D 0)):=by
  rw[ot,mI.o,<- kf];simpa using gz
 have gT:=ae ho4';have cL:=ae bD;clear gz iE bD ho4';go_wp2_with fail;go_loopw [15] (λi wr=>∃ k:Nat,i=.int .i64 (k:Int)/\k<=l.length/\wr.ownsRow w.heap.size 92 1 (.slice (some ⟨w.heap.size,0,none⟩) l.length l.length) l.length (aA .u64 (fill D k))/\jgu w wr) (λi _=>l.length-(intOf i).toNat)
 case atStart=>exact⟨0,rfl,by omega,gT.o,cL.o⟩
 case round =>
  obtain⟨k,rfl,hk,how,ao⟩:=hrel;have HB:=ae ao;have HO:=ae how;have bF:=ao.size;clear ao how;by_cases ar:k<l.length
  ·have hkD:k<D.length:=by rw[mI.o];exact ar
   have hval:D[k]=pl u l[k]:=by
    have:=HG.o k ar;rw[List.getElem?_eq_getElem hkD]at this;exact Option.some.inj this
   obtain⟨b,off,rfl,hb,eP⟩:=(HS.o.kept HB.o).at ar;have hmem:=HM.o l[k] (jeD ar);have hSr:=Jg (HU.o.kept HB.o) (List.length_pos_of_mem hmem) QN HR.o l[k];rw[zU HR.o hmem,<- hval]at hSr;have HSr:=ae hSr;have hplt:=(Bu hmem).1;rw[<- hval]at hplt;have eI:k<(fill D k).length:=by rw[lh (by omega)];exact hkD
   have yq:=ae (qT hkD);clear hSr hval hmem;generalize l[k]=x at *;generalize (fill D k)[k]=y at *;generalize D[k]=z at *;go_wp2_with fail;refine HSr.o.mono ?_;rintro e w5 ⟨⟨r,rfl⟩,bQ⟩;have eQ:=bv HO.o bQ;have bq:=ae (HB.o.trans (bQ.mono bF));have Gm:=(eQ.cellAt k (by omega)).trans (bN eI);have Gn:=eQ.frozenAt k;have hST:=eQ.stored k (.int .u64 (z:Int));rw[lH,yq.o]at hST;have cF:=ae hST;have RD:=(eQ.lt w.heap.size rfl).2;clear hST bQ eQ;go_wp2_with fail;go_roundw
   case rel=>exact⟨k+1,by go_num,by omega,cF.o.1,cP bq.o (jeA _) _⟩
   case measure=>simp[intOf];omega
  ·obtain rfl:k=l.length:=by omega
   have e:fill D l.length=D:=by
    have:=qS D;rwa[mI.o]at this
   have HO':jgt (eS wr w.heap.size (.slice (some ⟨w.heap.size,0,none⟩) l.length l.length) D):=by
    show eS _ _ _ _
    have:=HO.o;rw[e]at this;unfold eS;rw[mI.o];exact this
   clear HO e;go_wp2_with fail;go_ret
   exact⟨⟨_,rfl,HO'.o⟩,HB.o⟩
def aM.len{W:World}{B:Nat}{v:Value}{l:List Nat}(h:aM W B v l):∃ a cap,v=.slice a l.length cap:=BD h
def co.len{W:World}{B:Nat}{v:Value}{l:List Int}(h:co W B v l):∃ a cap,v=.slice a l.length cap:=BD h
def eS.len{W:World}{B:Nat}{v:Value}{l:List Nat}(h:eS W B v l):∃ a cap,v=.slice a l.length cap:=BD h
def Ji{l:List Int}(hl:l.length<=256):∀ x∈places l,x<18446744073709551616:=by
 intro x hx;have:=oe x hx;have:=jd l;omega
def NW{l:List Int}(hl:l.length<=256):vd l=uv (eD l).length++kl (eD l)++bi (places l) (cY ((eD l).length-1):Int):=by
 unfold vd;rw[jeQ];rcases jfs l.length with h0 | h0
 ·obtain rfl:l=[]:=jeW h0
  rfl
 ·rw[zG h0]
def un{p:List Nat}{x:Int}(hl:p.length<=256):(bi p x).length<=2048:=by
 unfold bi;split
 ·next h =>
  unfold can at h;simp only[jfb]at h;rw[dj];have:p.length*x.toNat<=256*64:=Nat.mul_le_mul hl (by omega);unfold by8;omega
 ·simp
def pg{w:World}{v:Value}{l:List Int}(hs:Sv w v (aO l))(hl:l.length<=256)(hi:Is l) :
  Calls prog 229 #[v] w (ee w (vd l)):=by
 have HI:=ae (qM hi);have HS:=ae hs;have HC:=ae (Jf hs hl);have HF:=ae (NW hl);have HUR:=ae (jc l);have HSU:=ae (sT (qM hi)).1;have HCS:=ae (Ef l);have Wy:jgt (∀ x∈l,x∈eD l):=λx hx=>ie.2 hx
 have HP64:=ae (Ji hl);have kS:jgt (l.map (pl (eD l))=places l):=rfl;have mT:=lu l;have QN:=jd l;have eg:=mw l;have hps:=un (p:=places l) (x:=(cY ((eD l).length-1):Int)) (by omega);obtain⟨a,cap,rfl,bg,bx⟩:=hs.form;clear hs hi bg bx;generalize places l=P at *;generalize eD l=u at *;go_enter func229,ntmps229
 go_wp2_with fail;refine HC.o.mono ?_;rintro e w1 ⟨⟨v1,rfl,dM⟩,az⟩;have fX:=ae dM;have aL:=ae az;have bW:=az.size;clear dM az;go_wp2_with fail;refine(Tk fX.o hl bW).mono ?_;rintro e w2 ⟨rfl,eA,ap⟩;have eb:=ae eA;have aG:=ae (aL.o.trans ap);have aX:=aG.o.size;clear eA ap;go_wp2_with fail;refine(Ee eb.o (by omega) aX).mono ?_;rintro e w3 ⟨⟨v3,rfl,fy⟩,aJ⟩;rw[HCS.o]at fy;have dL:=ae fy;have aY:=ae (aG.o.trans aJ);have gy:=aY.o.size;obtain⟨a3,c3,rfl⟩:=fy.len;clear fy aJ;go_wp2_with fail;refine(de u.length (by omega) _).mono ?_;rintro e w4 ⟨⟨v4,rfl,gz⟩,bD⟩;have gT:=ae gz;have cL:=ae bD;have se:=bD.size;clear gz bD;go_wp2_with fail;refine(yB (dL.o.sv.kept cL.o) (by omega) HI.o HUR.o).mono ?_;rintro e w5 ⟨⟨v5,rfl,eQ⟩,bQ⟩;have dK:=ae eQ;have HO45:=ae (gT.o.kept bQ);have bq:=ae (cL.o.trans (bQ.mono se));have sk:=bQ.size;clear eQ bQ;have vJ:=cG (n:=u.length) (by omega);have hsu:=HSU.o;go_wp2_with (first | (at_builtin;refine aC rfl _ _ rfl w3.heap.size _ _ (uv u.length) (kl u) rfl HO45.o rfl dK.o.sv ?c1 ?c2 ?_))
 case c1=>omega
 case c2=>omega
 intro v6 w6 o6 b6;have oJ:=ae o6;have fV:=ae (bq.o.trans b6);have GO:=fV.o.size;clear o6 b6;go_wp2_with fail;refine(vg (dL.o.sv.kept fV.o) (HS.o.kept (aY.o.trans (fV.o.mono gy))) hl (by omega) HUR.o Wy.o).mono ?_;rintro e w7 ⟨⟨v7,rfl,ho7⟩,gJ⟩;rw[kS.o]at ho7;have oV:=ae ho7;have jcU:=ae (oJ.o.kept gJ);have jK:=ae (fV.o.trans (gJ.mono GO));have hz7:=gJ.size;clear ho7 gJ;go_wp2_with fail;refine(nE u.length (by omega) _).mono ?_;rintro e w8 ⟨rfl,kO⟩;have HO78:=ae (oV.o.kept kO);have HO68:=ae (jcU.o.kept kO);have xZ:=ae (jK.o.trans (kO.mono (by omega)));have hz8:=kO.size;clear kO;go_wp2_with fail;refine(zX HO78.o.sv.sx HP64.o _).mono ?_;rintro e w9 ⟨⟨v9,rfl,ho9⟩,yr⟩;have Db:=ae ho9;have HO69:=ae (HO68.o.kept yr);have HB9:=ae (xZ.o.trans (yr.mono (by omega)));have hz9:=yr.size;clear ho9 yr;go_wp2_with (first | (at_builtin;refine aC rfl _ _ rfl w3.heap.size _ _ (uv u.length++kl u) _ rfl HO69.o rfl Db.o.sv ?c3 ?c4 ?_))
 case c3=>simp;omega
 case c4=>omega
 intro vA wA oA bA;have RH:=ae oA;have fx:=ae (aY.o.trans ((HB9.o.trans bA).mono gy));clear oA bA;go_wp2_with fail;go_ret
 refine⟨⟨_,rfl,?_⟩,fx.o⟩;rw[HF.o];have:=RH.o.low gy;simpa using this
def Ei{l:List Int}(h:0<l.length):oQ l=wv (jG l)++uv (wd (dY l))++bi (dY l) (wd (dY l):Int):=by
 unfold oQ;rw[jex (by omega),jeQ]
def vh{w:World}{v:Value}(hs:Sv w v (aO [])):Calls prog 230 #[v] w (ee w (oQ [])):=by
 obtain⟨a,cap,rfl,bg,bx⟩:=hs.form;clear hs bg bx;go_enter func230,ntmps230
 go_wp2_with fail;go_ret
 exact⟨⟨_,rfl,aM.nil _ _⟩,jez _ _⟩
def vi{w:World}{v:Value}{l:List Int}(hs:Sv w v (aO l))(hl:l.length<=256)(hi:Is l)(hp:0<l.length) :
  Calls prog 230 #[v] w (ee w (oQ l)):=by
 obtain⟨i0,qu,bR,hz1',aX⟩:=jeT sQ;have HS:=ae hs;have HI:=ae hi;have HMin:=ae (Yx hs hp hl);have HML:=ae (Eg hp);have HE:=ae (Ei hp);have za:=ae (hi _ (jW hp));have sG:=ae (qN (l:=l));have Xx:=ae (qO hi);have vJ:=iJ (hi _ (jW hp));have ZU:=SC (qO hi);have hps:=un (p:=dY l) (x:=(wd (dY l):Int)) (by rw[jQ];omega);have hDl:=jQ l;have HG:jgt (∀ k (h:k<l.length),(dY l)[k]?=some (l[k]-jG l).toNat):=ae (λk h=>by simp[dY,h]);obtain⟨a,cap,rfl,bg,bx⟩:=hs.form;clear hs hi bg bx;rw[HML.o]at HMin;generalize dY l=D at *;generalize jG l=lo at *;have hlen0:((l.length:Int)==0)=false:=jeF.2 (by omega);go_enter func230,ntmps230
 go_wp2_with fail;refine HMin.o.mono ?_;rintro e w1 ⟨rfl,rfl⟩;go_wp2_with (first | (refine jft _ rfl _ _ 142 rfl w1.heap.size 92 i0 (.int .u64 0) 1 underlying142 qu bR hz1' .i64 .i64 _ _ l.length rfl rfl ?m1 ?m2 ?m3 ?m4 ?m5 ?_))
 case m1=>rfl
 case m2=>rfl
 case m3=>rw[aX];omega
 case m4=>unfold maxLen;omega
 case m5=>omega
 intro w4 gz iE;have bD:jgu w1 w4:=(jez _ _).grown iE (jeA _) (λk hk=>by cases hk)
 have ho4':w4.ownsRow w1.heap.size 92 1 (.slice (some ⟨w1.heap.size,0,none⟩) l.length l.length) l.length (aA .u64 (fill D 0)):=by
  rw[ot,hDl,<- kf];simpa using gz
 have gT:=ae ho4';have cL:=ae bD;have mI:=ae hDl;clear gz iE bD ho4' hDl;go_wp2_with fail;go_loopw [19] (λi wr=>∃ k:Nat,i=.int .i64 (k:Int)/\k<=l.length/\wr.ownsRow w1.heap.size 92 1 (.slice (some ⟨w1.heap.size,0,none⟩) l.length l.length) l.length (aA .u64 (fill D k))/\jgu w1 wr) (λi _=>l.length-(intOf i).toNat)
 case atStart=>exact⟨0,rfl,by omega,gT.o,cL.o⟩
 case round =>
  obtain⟨k,rfl,hk,how,ao⟩:=hrel;have HB:=ae ao;have HO:=ae how;have bF:=ao.size;clear ao how;by_cases ar:k<l.length
  ·have hkD:k<D.length:=by rw[mI.o];exact ar
   have hval:D[k]=(l[k]-lo).toNat:=by
    have:=HG.o k ar;rw[List.getElem?_eq_getElem hkD]at this;exact Option.some.inj this
   obtain⟨b,off,rfl,hb,eP⟩:=(HS.o.kept HB.o).at ar;have hd:=λW=>nD (w:=W) za.o (HI.o.get ar) (sG.o _ (jeD ar))
   rw[<- hval]at hd;have HD:=ae hd;have eI:k<(fill D k).length:=by rw[lh (by omega)];exact hkD
   have Gm:=(HO.o.cellAt k (by omega)).trans (bN eI);have Gn:=HO.o.frozenAt k;have hST:=HO.o.stored k (.int .u64 ((D[k]:Nat):Int));rw[lH,qT hkD]at hST;have cF:=ae hST;have RD:=(HO.o.lt w1.heap.size rfl).2;clear hd hval hST;generalize l[k]=x at *;generalize (fill D k)[k]=y at *;generalize D[k]=z at *;go_wp2_with fail;refine(HD.o _).mono ?_;rintro e w5 ⟨rfl,rfl⟩;go_wp2_with fail;go_roundw
   case rel=>exact⟨k+1,by go_num,by omega,cF.o.1,cP HB.o (jeA _) _⟩
   case measure=>simp[intOf];omega
  ·obtain rfl:k=l.length:=by omega
   have e:fill D l.length=D:=by
    have:=qS D;rwa[mI.o]at this
   have HO':jgt (eS wr w1.heap.size (.slice (some ⟨w1.heap.size,0,none⟩) l.length l.length) D):=by
    show eS _ _ _ _
    have:=HO.o;rw[e]at this;unfold eS;rw[mI.o];exact this
   have HWd:=ae (tc HO'.o.sv.sx Xx.o);clear HO e;generalize wd D=wdt at *;go_wp2_with fail;refine HWd.o.mono ?_;rintro e w5 ⟨rfl,rfl⟩;go_wp2_with fail;refine(gP za.o _).mono ?_;rintro e w6 ⟨⟨v6,rfl,Dc⟩,ct⟩;have oJ:=ae Dc;have fV:=ae ct;have GO:=ct.size;clear Dc ct;go_wp2_with fail;refine(de wdt (by omega) _).mono ?_;rintro e w7 ⟨⟨v7,rfl,ho7⟩,gJ⟩;have oV:=ae ho7;have jcU:=ae (oJ.o.kept gJ);have jK:=ae (fV.o.trans (gJ.mono GO));have hz7:=gJ.size;have h102:=cG (n:=wdt) (by omega);clear ho7 gJ;go_wp2_with (first | (at_builtin;refine aC rfl _ _ rfl w5.heap.size _ _ (wv lo) (uv wdt) rfl jcU.o rfl oV.o.sv ?c1 ?c2 ?_))
   case c1=>omega
   case c2=>omega
   intro v8 w8 o8 b8;have AL:=ae o8;have xZ:=ae (jK.o.trans b8);have hz8:=xZ.o.size;clear o8 b8;have HOD:=ae (HO'.o.kept xZ.o);go_wp2_with fail;refine(zX HOD.o.sv.sx Xx.o _).mono ?_;rintro e w9 ⟨⟨v9,rfl,ho9⟩,yr⟩;have Db:=ae ho9;have HO89:=ae (AL.o.kept yr);have HB9:=ae (xZ.o.trans (yr.mono hz8));have hz9:=yr.size;clear ho9 yr;go_wp2_with (first | (at_builtin;refine aC rfl _ _ rfl w5.heap.size _ _ (wv lo++uv wdt) _ rfl HO89.o rfl Db.o.sv ?c3 ?c4 ?_))
   case c3=>simp;omega
   case c4=>omega
   intro vA wA oA bA;have RH:=ae oA;have fx:=ae (HB.o.trans ((HB9.o.trans bA).mono bF));clear oA bA;go_wp2_with fail;go_ret
   refine⟨⟨_,rfl,?_⟩,fx.o⟩;rw[HE.o];have:=RH.o.low bF;simpa using this
def nF{w:World}{v:Value}{l:List Int}(hs:Sv w v (aO l))(hl:l.length<=256)(hi:Is l):Calls prog 230 #[v] w (ee w (oQ l)):=by
 rcases jfs l.length with h0 | h0
 ·obtain rfl:l=[]:=jeW h0
  exact vh hs
 ·exact vi hs hl hi h0
def fN(w:World):Calls prog 200 #[] w λe w'=>e=.returned (.agg #[.func (.func 226) #[] #[],.func (.func 227) #[] #[],.func (.func 228) #[] #[],.func (.func 229) #[] #[],.func (.func 230) #[] #[]])/\jgu w w':=by
 go_enter func200,ntmps200
 go_wp2_with fail;exact bodyPost_ret (v:=.agg #[.func (.func 226) #[] #[],.func (.func 227) #[] #[],.func (.func 228) #[] #[],.func (.func 229) #[] #[],.func (.func 230) #[] #[]]) (by simp[results,results200,go_sem]) rfl ⟨rfl,(jez _ _).alloc (jeA _) _⟩
def Yy(c:Nat)(l:List Int):List Nat:=if c<=4/\l.length<=256 then km c l else []
def Tq{w:World}{v:Value}{l:List Int}(hs:Sv w v (aO l))(hl:l.length<=256)(hi:Is l) :
  Calls prog 319 #[.int .u8 0,v] w λe w'=>(∃ v',e=.returned (.tuple #[v',.bool true])/\aM w' w.heap.size v' (hO l))/\jgu w w':=by
 have HS:=ae hs;have HI:=ae hi;obtain⟨a,cap,rfl,bg,bx⟩:=hs.form;have Gl:¬ (l.length:Int) > 256:=by omega
 clear hs bg bx hi;go_enter func319,ntmps319
 go_wp2_with fail;refine(fN _).mono ?_;rintro e w1 ⟨rfl,az⟩;have aL:=ae az;have bW:=az.size;clear az;go_wp2_with fail;have aG:=ae (aL.o.alloc bW (.cells #[.func (.func 226) #[] #[],.func (.func 227) #[] #[],.func (.func 228) #[] #[],.func (.func 229) #[] #[],.func (.func 230) #[] #[]] 246));have aX:=aG.o.size;refine(ui (HS.o.kept aG.o) hl HI.o).mono ?_;rintro e w3 ⟨⟨v3,rfl,fy⟩,aJ⟩;have dL:=ae (fy.low aX);have aY:=ae (aG.o.trans (aJ.mono aX));clear fy aJ;go_wp2_with fail;go_ret2
 exact⟨⟨_,rfl,dL.o⟩,aY.o⟩
def Tr{w:World}{v:Value}{l:List Int}(hs:Sv w v (aO l))(hl:l.length<=256)(hi:Is l) :
  Calls prog 319 #[.int .u8 1,v] w λe w'=>(∃ v',e=.returned (.tuple #[v',.bool true])/\aM w' w.heap.size v' (jO 0 l))/\jgu w w':=by
 have HS:=ae hs;have HI:=ae hi;obtain⟨a,cap,rfl,bg,bx⟩:=hs.form;have Gl:¬ (l.length:Int) > 256:=by omega
 clear hs bg bx hi;go_enter func319,ntmps319
 go_wp2_with fail;refine(fN _).mono ?_;rintro e w1 ⟨rfl,az⟩;have aL:=ae az;have bW:=az.size;clear az;go_wp2_with fail;have aG:=ae (aL.o.alloc bW (.cells #[.func (.func 226) #[] #[],.func (.func 227) #[] #[],.func (.func 228) #[] #[],.func (.func 229) #[] #[],.func (.func 230) #[] #[]] 246));have aX:=aG.o.size;refine(qZ (HS.o.kept aG.o) hl HI.o).mono ?_;rintro e w3 ⟨⟨v3,rfl,fy⟩,aJ⟩;have dL:=ae (fy.low aX);have aY:=ae (aG.o.trans (aJ.mono aX));clear fy aJ;go_wp2_with fail;go_ret2
 exact⟨⟨_,rfl,dL.o⟩,aY.o⟩
def Tt{w:World}{v:Value}{l:List Int}(hs:Sv w v (aO l))(hl:l.length<=256)(hi:Is l) :
  Calls prog 319 #[.int .u8 2,v] w λe w'=>(∃ v',e=.returned (.tuple #[v',.bool true])/\aM w' w.heap.size v' (jP l))/\jgu w w':=by
 have HS:=ae hs;have HI:=ae hi;obtain⟨a,cap,rfl,bg,bx⟩:=hs.form;have Gl:¬ (l.length:Int) > 256:=by omega
 clear hs bg bx hi;go_enter func319,ntmps319
 go_wp2_with fail;refine(fN _).mono ?_;rintro e w1 ⟨rfl,az⟩;have aL:=ae az;have bW:=az.size;clear az;go_wp2_with fail;have aG:=ae (aL.o.alloc bW (.cells #[.func (.func 226) #[] #[],.func (.func 227) #[] #[],.func (.func 228) #[] #[],.func (.func 229) #[] #[],.func (.func 230) #[] #[]] 246));have aX:=aG.o.size;refine(uk (HS.o.kept aG.o) hl HI.o).mono ?_;rintro e w3 ⟨⟨v3,rfl,fy⟩,aJ⟩;have dL:=ae (fy.low aX);have aY:=ae (aG.o.trans (aJ.mono aX));clear fy aJ;go_wp2_with fail;go_ret2
 exact⟨⟨_,rfl,dL.o⟩,aY.o⟩
def Tu{w:World}{v:Value}{l:List Int}(hs:Sv w v (aO l))(hl:l.length<=256)(hi:Is l) :
  Calls prog 319 #[.int .u8 3,v] w λe w'=>(∃ v',e=.returned (.tuple #[v',.bool true])/\aM w' w.heap.size v' (vd l))/\jgu w w':=by
 have HS:=ae hs;have HI:=ae hi;obtain⟨a,cap,rfl,bg,bx⟩:=hs.form;have Gl:¬ (l.length:Int) > 256:=by omega
 clear hs bg bx hi;go_enter func319,ntmps319
 go_wp2_with fail;refine(fN _).mono ?_;rintro e w1 ⟨rfl,az⟩;have aL:=ae az;have bW:=az.size;clear az;go_wp2_with fail;have aG:=ae (aL.o.alloc bW (.cells #[.func (.func 226) #[] #[],.func (.func 227) #[] #[],.func (.func 228) #[] #[],.func (.func 229) #[] #[],.func (.func 230) #[] #[]] 246));have aX:=aG.o.size;refine(pg (HS.o.kept aG.o) hl HI.o).mono ?_;rintro e w3 ⟨⟨v3,rfl,fy⟩,aJ⟩;have dL:=ae (fy.low aX);have aY:=ae (aG.o.trans (aJ.mono aX));clear fy aJ;go_wp2_with fail;go_ret2
 exact⟨⟨_,rfl,dL.o⟩,aY.o⟩
def Tv{w:World}{v:Value}{l:List Int}(hs:Sv w v (aO l))(hl:l.length<=256)(hi:Is l) :
  Calls prog 319 #[.int .u8 4,v] w λe w'=>(∃ v',e=.returned (.tuple #[v',.bool true])/\aM w' w.heap.size v' (oQ l))/\jgu w w':=by
 have HS:=ae hs;have HI:=ae hi;obtain⟨a,cap,rfl,bg,bx⟩:=hs.form;have Gl:¬ (l.length:Int) > 256:=by omega
 clear hs bg bx hi;go_enter func319,ntmps319
 go_wp2_with fail;refine(fN _).mono ?_;rintro e w1 ⟨rfl,az⟩;have aL:=ae az;have bW:=az.size;clear az;go_wp2_with fail;have aG:=ae (aL.o.alloc bW (.cells #[.func (.func 226) #[] #[],.func (.func 227) #[] #[],.func (.func 228) #[] #[],.func (.func 229) #[] #[],.func (.func 230) #[] #[]] 246));have aX:=aG.o.size;refine(nF (HS.o.kept aG.o) hl HI.o).mono ?_;rintro e w3 ⟨⟨v3,rfl,fy⟩,aJ⟩;have dL:=ae (fy.low aX);have aY:=ae (aG.o.trans (aJ.mono aX));clear fy aJ;go_wp2_with fail;go_ret2
 exact⟨⟨_,rfl,dL.o⟩,aY.o⟩
def NY{w:World}{v:Value}{l:List Int}(hs:Sv w v (aO l))(c:Nat)(hc:c<256)(Ws:¬ (c<=4/\l.length<=256)) :
  Calls prog 319 #[.int .u8 (c:Int),v] w λe w'=>(∃ v',e=.returned (.tuple #[v',.bool false])/\aM w' w.heap.size v' [])/\jgu w w':=by
 obtain⟨a,cap,rfl,bg,bx⟩:=hs.form;have hm:l.length<=9223372036854775807:=by unfold maxLen at bx;omega
 clear hs bg bx;by_cases h5:(c:Int)>=5
 ·go_enter func319,ntmps319
  go_wp2_with fail;go_ret2
  exact⟨⟨_,rfl,aM.nil _ _⟩,jez _ _⟩
 ·have Gl:(l.length:Int) > 256:=by omega
  go_enter func319,ntmps319
  go_wp2_with fail;go_ret2
  exact⟨⟨_,rfl,aM.nil _ _⟩,jez _ _⟩
def Jj{w:World}{v:Value}{l:List Int}(hs:Sv w v (aO l))(hi:Is l)(c:Nat)(hc:c<256) :
  Calls prog 319 #[.int .u8 (c:Int),v] w λe w'=>(∃ v',e=.returned (.tuple #[v',.bool (decide (c<=4/\l.length<=256))])/\aM w' w.heap.size v' (Yy c l))/\jgu w w':=by
 by_cases h:c<=4/\l.length<=256
 ·rw[jeP h]
  unfold Yy;rw[jey h];obtain⟨h4,hl⟩:=h;match c,h4 with
  | 0,_=>exact Tq hs hl hi
  | 1,_=>exact Tr hs hl hi
  | 2,_=>exact Tt hs hl hi
  | 3,_=>exact Tu hs hl hi
  | 4,_=>exact Tv hs hl hi
 ·rw[jeM h]
  unfold Yy;rw[jex h];exact NY hs c hc h
end Go.Proofs.YtpljdjmpamjkhaaGreatDoor
