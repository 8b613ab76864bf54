import Derived.Test.YtpljdjmpamjkhaaGreatDoorVag
import Derived.Laws.EntriesVeiled
set_option linter.unusedVariables false
set_option linter.unusedSimpArgs false
set_option maxRecDepth 100000
set_option maxHeartbeats 2000000
namespace Go.Proofs.YtpljdjmpamjkhaaGreatDoor
open Go.RowKit Go.Lib
def ahd(l:List Int)(k:Nat):Int:=if k=0 then 0 else l.getD (k-1) 0
theorem Ek{l:List Int}{k:Nat}(h:k<l.length):ahd l (k+1)=l[k]:=by
 unfold ahd;simp[List.getD_eq_getElem?_getD,h]
theorem uk:∀(a:List Int) (last x:Int),iP last (a++[x])=iP last a++wv (w64 (x-(a.getLast?.getD last)))
 | [],last,x=>by simp[iP]
 | y::t,last,x=>by
  rw[jfc,iP,uk t y x,iP,jez];cases t with
  | nil=>rfl
  | cons z s=>rw[show (y::z::s).getLast?=(z::s).getLast? from by simp[List.getLast?_cons_cons]];simp[List.getLast?_eq_some_getLast]
theorem SQ{l:List Int}{k:Nat}(h:k<=l.length):(l.take k).getLast?.getD 0=ahd l k:=by
 unfold ahd;cases k with
 | zero=>simp
 | succ k =>
  rw[jeh (by omega),List.getLast?_take,List.getD_eq_getElem?_getD];simp[show k<l.length by omega]
theorem zY{l:List Int}{k:Nat}(h:k<l.length):iP 0 (l.take (k+1))=iP 0 (l.take k)++wv (w64 (l[k]-ahd l k)):=by
 rw[jeA h,uk,SQ (by omega)]
theorem rB(x:Int):IntKind.i64.wrap x=w64 x:=by rw[jeV];unfold w64;omega
theorem rC{w:World}{v:Value}{l:List Int}(hs:Sv w v (aL l))(hl:l.length<=256)(hi:Is l) :
  Calls Tryz.prog 227 #[v] w (dA w (iP 0 l)):=by
 have HI:=ae hi;have HS:=ae hs;obtain⟨a,cap,rfl,aW,bC⟩:=hs.form;clear hs hi aW bC;go_enter Tryz.func227,Tryz.ntmps227
 go_wp2_with fail;go_loopw [3,4,9] (λb ah i wr=>∃ k:Nat,k<=l.length/\i=.int .i64 (k:Int)/\ah=.int .i64 (ahd l k)/\aD wr w.heap.size b (iP 0 (l.take k))/\Below w.heap.size w wr) (λ_ _ i _=>l.length-(intOf i).toNat)
 case atStart=>exact⟨0,by omega,rfl,rfl,aD.nil _ _,jej _ _⟩
 case round =>
  obtain⟨k,hk,rfl,rfl,aA,az⟩:=hrel;have HO:=ae aA;have HB:=ae az;have bH:=az.size;clear aA az;by_cases aB:k<l.length
  ·obtain⟨b,off,rfl,hb,dN⟩:=(HS.o.kept HB.o).at aB
   have HX:=ae (jq (l[k]-ahd l k));have KW:=rB (l[k]-ahd l k);have HT:=ae (zY aB);have HA:=ae (Ek aB);have jG:=(oS (l:=l.take k) (last:=0)).1;rw[jeq]at jG;have Gl:=fC (jq (l[k]-ahd l k));generalize l[k]=x at *;generalize ahd l k=y at *;generalize iP 0 (l.take k)=acc at *;generalize w64 (x-y)=d at *;go_wp2_with fail;try rw[KW]
   refine(im HX.o _).mono ?_;rintro e w2 ⟨⟨v2,rfl,cB⟩,aE⟩;have dz:=ae cB;have HOk:=ae (HO.o.kept aE);have aN:=ae (HB.o.trans (aE.mono bH));have bv:=aE.size;clear cB aE;go_wp2_with (first | (at_builtin;refine ax rfl _ _ rfl w.heap.size _ _ acc (wv d) rfl HOk.o rfl dz.o.sv ?c1 ?c2 ?_))
   case c1=>omega
   case c2=>omega
   intro v3 w3 o3 b3;have dd:=ae o3;have bN:=ae (aN.o.trans b3);clear o3 b3;go_wp2_with fail;go_roundw
   case rel=>exact⟨k+1,by omega,by go_num,by rw[HA.o],by rw[HT.o];exact dd.o,bN.o⟩
   case measure=>simp[intOf];omega
  ·obtain rfl:k=l.length:=by omega
   rw[jes]at HO;go_wp2_with fail;go_ret
   exact⟨⟨_,rfl,HO.o⟩,HB.o⟩
def iQ(x:Int):List Int->Nat
 | []=>0
 | y::t=>if y=x then iQ x t+1 else 0
theorem LX(x:Int):∀ l,iQ x l<=l.length
 | []=>by simp[iQ]
 | y::t=>by
  have:=LX x t;unfold iQ;split<;>simp<;>omega
theorem zZ{x:Int}:∀{l:List Int} {k:Nat},(∀ j (h:j<k) (hl:j<l.length),l[j]=x)->(h:k<l.length)->l[k]≠x->iQ x l=k
 | y::t,0,_,_,h=>by
  unfold iQ;rw[jeh (by simpa using h)]
 | y::t,k+1,ha,hk,h=>by
  have h0:=ha 0 (by omega) (by simp);unfold iQ;rw[jei (by simpa using h0),zZ (l:=t) (k:=k) (λj hj hl=>by have:=ha (j+1) (by omega) (by simpa using hl);simpa using this) (by simpa using hk) (by simpa using h)]
theorem El{x:Int}:∀{l:List Int},(∀ j (h:j<l.length),l[j]=x)->iQ x l=l.length
 | [],_=>rfl
 | y::t,ha=>by
  have h0:=ha 0 (by simp);unfold iQ;rw[jei (by simpa using h0),El (l:=t) (λj hj=>by have:=ha (j+1) (by simpa using hj);simpa using this)];simp
theorem Aa(x:Int):∀(t:List Int) (c:Nat),fM x c t=wv x++uv (c+iQ x t)++iA (t.drop (iQ x t))
 | [],c=>by simp[fM,iQ,iA]
 | y::t,c=>by
  unfold fM iQ;split
  ·next h =>
   rw[Aa x t (c+1)];rw[show c+1+iQ x t=c+(iQ x t+1) by omega,List.drop_succ_cons]
  ·simp[iA]
theorem SR{l:List Int}(h:0<l.length):iA l=wv l[0]++uv (iQ l[0] l)++iA (l.drop (iQ l[0] l)):=by
 cases l with
 | nil=>simp at h
 | cons x t =>
  show fM x 1 t=wv x++uv (iQ x (x::t))++iA ((x::t).drop (iQ x (x::t)))
  rw[Aa x t 1];have e:iQ x (x::t)=iQ x t+1:=by rw[iQ,jei rfl]
  rw[e,List.drop_succ_cons,Nat.add_comm 1]
theorem SS{l:List Int}(h:0<l.length):0<iQ l[0] l:=by
 cases l with
 | nil=>simp at h
 | cons x t =>
  show 0<iQ x (x::t)
  rw[iQ,jei rfl];omega
theorem yM{w:World}{v:Value}{l:List Int}(hs:Sv w v (aL l))(hl:l.length<=256)(hp:0<l.length) :
  Calls Tryz.prog 240 #[v] w λe w'=>e=.returned (.int .i64 (iQ l[0] l:Int))/\w'=w:=by
 have HS:=ae hs;obtain⟨a,cap,rfl,aW,bC⟩:=hs.form;obtain⟨b,off,rfl,hb,oE⟩:=hs.at hp;clear hs aW bC;rw[je9]at oE;have HE:jgf (∀ k,(∀ j (h:j<k) (hl:j<l.length),l[j]=l[0])->(h:k<l.length)->l[k]≠l[0]->iQ l[0] l=k):=λk h1 h2 h3=>zZ h1 h2 h3
 have HA:=ae (El (x:=l[0]) (l:=l));generalize l[0]=x at *;go_enter Tryz.func240,Tryz.ntmps240
 go_wp2_with fail;go_loopw [7] (λi wr=>wr=w/\∃ k:Nat,k<=l.length/\i=.int .i64 (k:Int)/\∀ j (h:j<k) (hl:j<l.length),l[j]=x) (λi _=>l.length-(intOf i).toNat)
 case atStart=>exact⟨rfl,0,by omega,rfl,λj h=>by omega⟩
 case round =>
  obtain⟨rfl,k,hk,rfl,cZ⟩:=hrel;have HL:=ae cZ;clear cZ;by_cases aB:k<l.length
  ·obtain⟨b',off',AQ,_,dN⟩:=HS.o.at aB
   cases AQ
   have HX:=ae (HE.o k HL.o aB);have HY:jgf (∀ j (h:j<k+1) (hl:j<l.length),l[j]=x->l[j]=x):=λ_ _ _ h=>h
   by_cases he:(l[k]==x)=true
   ·have fJ:(l[k] != x)=false:=by simpa using he
    have HN:jgf (∀ j (h:j<k+1) (hl:j<l.length),l[j]=x):=by
     intro j hj hl;rcases jeM j k with h | h
     ·exact HL.o j h hl
     ·have:j=k:=by omega
      subst this;simpa using he
    clear HX;generalize l[k]=y at *;go_wp2_with fail;go_roundw
    case rel=>exact⟨trivial,k+1,by omega,by go_num,HN.o⟩
    case measure=>simp[intOf];omega
   ·have fJ:(l[k] != x)=true:=by simpa using he
    have HR:=ae (HX.o (by simpa using he));clear HX;generalize l[k]=y at *;go_wp2_with fail;go_ret
    rw[HR.o];exact⟨rfl,rfl⟩
  ·obtain rfl:k=l.length:=by omega
   have HR:=ae (HA.o (λj hj=>HL.o j hj hj));go_wp2_with fail;go_ret
   rw[HR.o];exact⟨rfl,rfl⟩
theorem BN{W:World}{b off n cap:Nat}{xs:List Value}(h:Sv W (.slice (some ⟨b,off,none⟩) n cap) xs){k:Nat}(hk:k<=xs.length) :
  ∃ A,(if cap=k then (some ⟨b,off,none⟩:Option Addr) else some ⟨b,off+k,none⟩)=A/\Sv W (.slice A (n-k) (cap-k)) (xs.drop k):=by
 refine⟨_,rfl,?_⟩;have:=h.drop hk rfl;split at this
 ·next e=>rw[jei e];exact this
 ·next e=>rw[jeh e];exact this
theorem Jc(l:List Int)(k:Nat):aL (l.drop k)=(aL l).drop k:=by simp[aL,List.map_drop]
theorem Is.drop{l:List Int}(h:Is l)(k:Nat):Is (l.drop k):=λx hx=>h x (jfS hx)
theorem Ab{l:List Int}(h:Is l)(hl:l.length<=256):(iA l).length<=5120:=by
 have:=eI 2 h hl;cases l with
 | nil=>simp[iA]
 | cons x t =>
  have:=(mK (t:=t) (x:=x) (c:=1) (λz hz=>h z (by simp[hz])) (h x (by simp)) (by simp at hl;omega)).1;simp at hl
  rw[iA];omega
theorem um{w:World}{v:Value}{l:List Int}(hs:Sv w v (aL l))(hl:l.length<=256)(hi:Is l) :
  Calls Tryz.prog 228 #[v] w (dA w (iA l)):=by
 have HI:=ae hi;have HS:=ae hs;have jG:=Ab hi hl;obtain⟨a,cap,rfl,aW,bC⟩:=hs.form;clear hs hi;go_enter Tryz.func228,Tryz.ntmps228
 go_wp2_with fail;go_loopw [0,3] (λv b wr=>∃(m:List Int) (acc:List Nat),Sv w v (aL m)/\m.length<=256/\Is m/\acc++iA m=iA l/\aD wr w.heap.size b acc/\Below w.heap.size w wr) (λv _ _=>(match v with | .slice _ n _=>n | _=>0))
 case atStart=>exact⟨l,[],HS.o,hl,HI.o,rfl,aD.nil _ _,jej _ _⟩
 case round =>
  obtain⟨m,acc,WD,hml,him,KP,aA,az⟩:=hrel;have WH:=ae WD;have HIM:=ae him;have HA:=ae KP;have HO:=ae aA;have HB:=ae az;have bH:=az.size;have bR:=jep List.length KP;rw[jem]at bR;obtain⟨a2,cap2,rfl,Vs,zh⟩:=WD.form;have jb5:cap2<=9223372036854775807:=by unfold maxLen at zh;omega
  clear WD him KP aA az zh HS aW bC;by_cases hp:0<m.length
  ·have Gm:=ae (WH.o.kept HB.o)
   obtain⟨b,off,rfl,hb,oE⟩:=Gm.o.at hp;rw[je9]at oE;have HX:=ae (HIM.o.get hp);have hE:=SR hp;have Vt:=ae (yM Gm.o hml hp);have nD:=LX m[0] m;have hrp:=SS hp;have nB:=fC (HIM.o.get hp);generalize m[0]=x at *;generalize iQ x m=r at *;obtain⟨A,hA,hSA⟩:=BN WH.o (k:=r) (by rw[cy];omega);rw[← Jc]at hSA;have lN:=ae hSA;have HE:=ae hE;have hlE:=jep List.length hE;rw[jem,jem]at hlE;clear hSA hE;go_wp2_with fail;refine Vt.o.mono ?_;rintro e w1 ⟨rfl,rfl⟩;go_wp2_with fail;refine(im HX.o _).mono ?_;rintro e w2 ⟨⟨v2,rfl,cB⟩,aE⟩;have dz:=ae cB;have HOk:=ae (HO.o.kept aE);have aN:=ae (HB.o.trans (aE.mono bH));have bv:=aE.size;clear cB aE;go_wp2_with (first | (at_builtin;refine ax rfl _ _ rfl w.heap.size _ _ acc (wv x) rfl HOk.o rfl dz.o.sv ?c1 ?c2 ?_))
   case c1=>omega
   case c2=>omega
   intro v3 w3 o3 b3;have dd:=ae o3;have bN:=ae (aN.o.trans b3);have iN:=b3.size;clear o3 b3;go_wp2_with fail;refine(dQ r (by omega) _).mono ?_;rintro e w4 ⟨⟨v4,rfl,uS⟩,bG⟩;have eY:=ae uS;have HOk4:=ae (dd.o.kept bG);have cp:=ae (bN.o.trans (bG.mono (by omega)));have KR:=bG.size;clear uS bG;go_wp2_with (first | (at_builtin;refine ax rfl _ _ rfl w.heap.size _ _ (acc++wv x) (uv r) rfl HOk4.o rfl eY.o.sv ?c1 ?c2 ?_))
   case c1=>simp;omega
   case c2=>omega
   intro v5 w5 o5 b5;have df:=ae o5;have aQ:=ae (cp.o.trans b5);clear o5 b5;go_wp2_with fail;go_roundw
   case rel=>exact⟨m.drop r,acc++(wv x++uv r),lN.o,by rw[jeR];omega,HIM.o.drop r,by rw[← HA.o,HE.o];simp,df.o,aQ.o⟩
   case measure=>simp;omega
  ·obtain rfl:m=[]:=jeI (by omega)
   go_wp2_with fail;go_ret
   refine⟨⟨_,rfl,?_⟩,HB.o⟩;have e:=HA.o;rw[show iA []=[] from rfl,jeG]at e;rw[← e];exact HO.o
theorem BO(a b:Int)(ha:I64 a)(hb:I64 b)(w:World):Calls Tryz.prog 249 #[.int .i64 a,.int .i64 b] w λe w'=>e=.returned (.int .u64 ((b-a) % 18446744073709551616))/\w'=w:=by
 have HE:jgf (IntKind.u64.wrap (IntKind.u64.wrap b-IntKind.u64.wrap a)=(b-a) % 18446744073709551616):=by
  show _=_
  rw[jeP,jeP,jeP];omega
 clear ha hb;go_enter Tryz.func249,Tryz.ntmps249
 go_wp2_with fail;go_ret
 rw[← HE.o];exact⟨rfl,rfl⟩
theorem nS{a b:Int}(ha:I64 a)(hb:I64 b)(Vu:a<=b)(w:World):Calls Tryz.prog 249 #[.int .i64 a,.int .i64 b] w λe w'=>e=.returned (.int .u64 ((b-a).toNat:Int))/\w'=w:=by
 have:=BO a b ha hb w;unfold I64 at ha hb;rwa[show (b-a) % 18446744073709551616=((b-a).toNat:Int) by omega]at this
theorem Ac{w:World}{v:Value}{l:List Nat}(hs:Sx .u64 w v l)(kU:∀ x∈l,x<18446744073709551616)(x:Int) :
  Calls Tryz.prog 245 #[v,.int .i64 x] w (dA w (bm l x)):=by
 have HP:=ae (zU hs kU x);clear hs kU;go_enter Tryz.func245,Tryz.ntmps245
 go_wp2_with fail;refine HP.o.mono ?_;rintro e w1 ⟨v1,rfl,aA,hb⟩;have HO:=ae aA;clear aA;go_wp2_with fail;go_ret
 exact⟨⟨_,rfl,HO.o⟩,hb⟩
theorem jbm(n:Nat):wd [n]=cX n:=by
 have h1:wd [n]<=cX n:=qX.2 (λx hx=>by
  have:x=n:=by simpa using hx
  subst this;exact eR.1 (jek _))
 have h2:cX n<=wd [n]:=eR.2 (qX.1 (jek _) n (by simp));omega
theorem nT(n:Nat)(hn:n<=256)(w:World):Calls Tryz.prog 247 #[.int .i64 (n:Int)] w λe w'=>e=.returned (.int .i64 (cX (n-1):Int))/\Below w.heap.size w w':=by
 by_cases h0:((n:Int)==0)=true
 ·have h0':n=0:=by simpa using h0
  subst h0';go_enter Tryz.func247,Tryz.ntmps247
  go_wp2_with fail;go_ret
  exact⟨rfl,jej _ _⟩
 ·have h0f:((n:Int)==0)=false:=by simpa using h0
  have qI:n≠0:=by simpa using h0
  obtain⟨m,rfl⟩:∃ m,n=m+1:=⟨n-1,by omega⟩
  have HW:=ae (λw=>te (Sx.lit (k:=.u64) w [m] 92 (by unfold maxLen;simp)) (λx hx=>by
   have:x=m:=by simpa using hx
   omega))
  have HB:=ae (λw:World=>(jej w.heap.size w).alloc (jek _) (.cells (aF .u64 [m]).toArray 92));have he:((m+1:Nat):Int)-1=(m:Int):=by omega
  rw[jbm]at HW;clear h0;go_enter Tryz.func247,Tryz.ntmps247
  go_wp2_with fail;refine(HW.o w).mono ?_;rintro e w1 ⟨rfl,rfl⟩;have aP:=ae (HB.o w);go_wp2_with fail;go_ret
  exact⟨rfl,aP.o⟩
theorem uo:∀(t:List Int) (last x:Int),qb last (t++[x])=qb last t++uv (x-(t.getLast?.getD last)).toNat
 | [],last,x=>by simp[qb]
 | y::t,last,x=>by
  rw[jfc,qb,uo t y x,qb,jez];cases t with
  | nil=>rfl
  | cons z s=>rw[show (y::z::s).getLast?=(z::s).getLast? from by simp[List.getLast?_cons_cons]];simp[List.getLast?_eq_some_getLast]
theorem Em{u:List Int}(h:0<u.length):iu (u.take 1)=iu (u.take 0)++wv u[0]:=by
 cases u with
 | nil=>simp at h
 | cons x t=>simp[iu,qb]
theorem Ad{u:List Int}{k:Nat}(h:k+1<u.length):iu (u.take (k+1+1))=iu (u.take (k+1))++uv (u[k+1]-u[k]).toNat:=by
 cases u with
 | nil=>simp at h
 | cons x t =>
  have hk:k<t.length:=by simpa using h
  rw[jf3,jf3,jeA hk,iu,iu,uo,jez];congr 3
  cases k with
  | zero=>simp
  | succ k =>
   rw[List.getLast?_take];simp[show k<t.length by omega]
theorem yN{w:World}{v:Value}{l:List Int}(hs:Sv w v (aL l))(hl:l.length<=256)(hi:Is l)(hr:dV l) :
  Calls Tryz.prog 244 #[v] w (dA w (iu l)):=by
 have HI:=ae hi;have HS:=ae hs;have HR:=ae hr;obtain⟨a,cap,rfl,aW,bC⟩:=hs.form;clear hs hi aW bC hr;go_enter Tryz.func244,Tryz.ntmps244
 go_wp2_with fail;go_loopw [3,8] (λb i wr=>∃ k:Nat,k<=l.length/\i=.int .i64 (k:Int)/\aD wr w.heap.size b (iu (l.take k))/\Below w.heap.size w wr) (λ_ i _=>l.length-(intOf i).toNat)
 case atStart=>exact⟨0,by omega,rfl,aD.nil _ _,jej _ _⟩
 case round =>
  obtain⟨k,hk,rfl,aA,az⟩:=hrel;have HO:=ae aA;have HB:=ae az;have bH:=az.size;clear aA az;by_cases aB:k<l.length
  ·obtain⟨b,off,rfl,hb,dN⟩:=(HS.o.kept HB.o).at aB
   have HX:=ae (HI.o.get aB);have jG:=(mc (HI.o.take k)).1;rw[jeq]at jG;have Gl:=fC (HI.o.get aB);cases k with
   | zero =>
    have HT:=ae (Em aB);rw[je9]at dN;generalize iu (l.take 0)=acc at *;generalize l[0]=x at *;go_wp2_with fail;refine(im HX.o _).mono ?_;rintro e w2 ⟨⟨v2,rfl,cB⟩,aE⟩;have dz:=ae cB;have HOk:=ae (HO.o.kept aE);have aN:=ae (HB.o.trans (aE.mono bH));have bv:=aE.size;clear cB aE;go_wp2_with (first | (at_builtin;refine ax rfl _ _ rfl w.heap.size _ _ acc (wv x) rfl HOk.o rfl dz.o.sv ?c1 ?c2 ?_))
    case c1=>omega
    case c2=>omega
    intro v3 w3 o3 b3;have dd:=ae o3;have bN:=ae (aN.o.trans b3);clear o3 b3;go_wp2_with fail;go_roundw
    case rel=>exact⟨1,by omega,by go_num,by rw[HT.o];exact dd.o,bN.o⟩
    case measure=>simp[intOf];omega
   | succ k =>
    obtain⟨b',off',AQ,_,YR⟩:=(HS.o.kept HB.o).at (show k<l.length by omega);cases AQ
    have zi:=ae (HI.o.get (show k<l.length by omega));have jT:l[k]<l[k+1]:=jfW.1 HR.o k (k+1) (by omega) aB (by omega);have HT:=ae (Ad aB)
    have hd:(l[k+1]-l[k]).toNat<18446744073709551616:=by
     have h1:=HX.o;have h2:=zi.o;unfold I64 at h1 h2;omega
    have Vv:=bO hd;have HD:=ae (λW=>nS (a:=l[k]) (b:=l[k+1]) zi.o HX.o (by omega) W);have qB:(((k+1:Nat):Int)==0)=false:=by simp;omega
    have qA:((k+1:Nat):Int)-1=(k:Int):=(by omega);have AR:((k+1:Nat):Int)=(k:Int)+1:=(by omega);generalize l[k+1]=x at *;generalize l[k]=y at *;generalize iu (l.take (k+1))=acc at *;generalize (x-y).toNat=d at *;have kY:jgf (d<18446744073709551616):=hd;clear hd;go_wp2_with fail;refine(HD.o _).mono ?_;rintro e w1 ⟨rfl,rfl⟩;go_wp2_with fail;refine(dQ d kY.o _).mono ?_;rintro e w2 ⟨⟨v2,rfl,cB⟩,aE⟩;have dz:=ae cB;have HOk:=ae (HO.o.kept aE);have aN:=ae (HB.o.trans (aE.mono bH));have bv:=aE.size;clear cB aE;go_wp2_with (first | (at_builtin;refine ax rfl _ _ rfl w.heap.size _ _ acc (uv d) rfl HOk.o rfl dz.o.sv ?c1 ?c2 ?_))
    case c1=>omega
    case c2=>omega
    intro v3 w3 o3 b3;have dd:=ae o3;have bN:=ae (aN.o.trans b3);clear o3 b3;go_wp2_with fail;go_roundw
    case rel=>exact⟨k+1+1,by omega,by go_num,by rw[HT.o];exact dd.o,bN.o⟩
    case measure=>simp[intOf];omega
  ·obtain rfl:k=l.length:=by omega
   rw[jes]at HO;go_wp2_with fail;go_ret
   exact⟨⟨_,rfl,HO.o⟩,HB.o⟩
theorem aD.low{W:World}{B B':Nat}{v:Value}{bs:List Nat}(h:aD W B' v bs)(hb:B<=B'):aD W B v bs:=by
 obtain⟨h1,h2⟩:=h;refine⟨h1,?_⟩;rcases h2 with h | ⟨g,cap,cur,e1,e2,e3⟩
 ·exact Or.inl h
 ·exact Or.inr ⟨g,cap,cur,e1,jet hb e2,e3⟩
theorem uZ{w:World}{vu v:Value}{u l:List Int}(hu:Sv w vu (aL u))(hs:Sv w v (aL l))(hl:l.length<=256)(vK:u.length<=256)(hr:dV u)(hm:∀ x∈l,x∈u) :
  Calls Tryz.prog 246 #[vu,v] w λe w'=>(∃ v',e=.returned v'/\dJ w' w.heap.size v' (l.map (pl u)))/\Below w.heap.size w w':=by
 obtain⟨i0,hi,ch,hz1',bv⟩:=jeD pZ;have HU:=ae hu;have HS:=ae hs;have HR:=ae hr;have HM:=ae hm;obtain⟨a,cap,rfl,aW,bC⟩:=hs.form;clear hs hu aW bC hr hm;obtain⟨D,hD⟩:∃ D,l.map (pl u)=D:=⟨_,rfl⟩;have hDl:D.length=l.length:=by rw[← hD,jen]
 have HG:jgf (∀ k (h:k<l.length),D[k]?=some (pl u l[k])):=ae (λk h=>by rw[← hD];simp[h]);rw[hD];have kY:=ae hDl;clear hD hDl;go_enter Tryz.func246,Tryz.ntmps246
 go_wp2_with (first | (refine jfo _ rfl _ _ 142 rfl w.heap.size 92 i0 (.int .u64 0) 1 Tryz.underlying142 hi ch hz1' .i64 .i64 _ _ l.length rfl rfl ?m1 ?m2 ?m3 ?m4 ?m5 ?_))
 case m1=>rfl
 case m2=>rfl
 case m3=>rw[bv];omega
 case m4=>unfold maxLen;omega
 case m5=>omega
 intro w4 gQ iZ;have bG:Below w.heap.size w w4:=(jej _ _).grown iZ (jek _) (λk hk=>by cases hk)
 have ho4':w4.ownsRow w.heap.size 92 1 (.slice (some ⟨w.heap.size,0,none⟩) l.length l.length) l.length (aF .u64 (fill D 0)):=by
  rw[oY,kY.o,← ko];simpa using gQ
 have eY:=ae ho4';have cp:=ae bG;clear gQ iZ bG ho4';go_wp2_with fail;go_loopw [15] (λi wr=>∃ k:Nat,i=.int .i64 (k:Int)/\k<=l.length/\wr.ownsRow w.heap.size 92 1 (.slice (some ⟨w.heap.size,0,none⟩) l.length l.length) l.length (aF .u64 (fill D k))/\Below w.heap.size w wr) (λi _=>l.length-(intOf i).toNat)
 case atStart=>exact⟨0,rfl,by omega,eY.o,cp.o⟩
 case round =>
  obtain⟨k,rfl,hk,how,az⟩:=hrel;have HB:=ae az;have HO:=ae how;have bH:=az.size;clear az how;by_cases aB:k<l.length
  ·have hkD:k<D.length:=by rw[kY.o];exact aB
   have hval:D[k]=pl u l[k]:=by
    have:=HG.o k aB;rw[List.getElem?_eq_getElem hkD]at this;exact Option.some.inj this
   obtain⟨b,off,rfl,hb,dN⟩:=(HS.o.kept HB.o).at aB;have hmem:=HM.o l[k] (jeo aB);have hSr:=Jb (HU.o.kept HB.o) (List.length_pos_of_mem hmem) vK HR.o l[k];rw[zX HR.o hmem,← hval]at hSr;have HSr:=ae hSr;have hplt:=(wQ hmem).1;rw[← hval]at hplt;have jH:k<(fill D k).length:=by rw[lm (by omega)];exact hkD
   have tT:=ae (rp hkD);clear hSr hval hmem;generalize l[k]=x at *;generalize (fill D k)[k]=y at *;generalize D[k]=z at *;go_wp2_with fail;refine HSr.o.mono ?_;rintro e w5 ⟨⟨r,rfl⟩,bD⟩;have fD:=bJ HO.o bD;have aQ:=ae (HB.o.trans (bD.mono bH));have Gn:=(fD.cellAt k (by omega)).trans (bU jH);have Gp:=fD.frozenAt k;have hST:=fD.stored k (.int .u64 (z:Int));rw[ku,tT.o]at hST;have cP:=ae hST;have Mx:=(fD.lt w.heap.size rfl).2;clear hST bD fD;go_wp2_with fail;go_roundw
   case rel=>exact⟨k+1,by go_num,by omega,cP.o.1,cT aQ.o (jek _) _⟩
   case measure=>simp[intOf];omega
  ·obtain rfl:k=l.length:=by omega
   have e:fill D l.length=D:=by
    have:=ro D;rwa[kY.o]at this
   have HO':jgf (dJ wr w.heap.size (.slice (some ⟨w.heap.size,0,none⟩) l.length l.length) D):=by
    show dJ _ _ _ _
    have:=HO.o;rw[e]at this;unfold dJ;rw[kY.o];exact this
   clear HO e;go_wp2_with fail;go_ret
   exact⟨⟨_,rfl,HO'.o⟩,HB.o⟩
theorem aD.len{W:World}{B:Nat}{v:Value}{l:List Nat}(h:aD W B v l):∃ a cap,v=.slice a l.length cap:=BK h
theorem bF.len{W:World}{B:Nat}{v:Value}{l:List Int}(h:bF W B v l):∃ a cap,v=.slice a l.length cap:=BK h
theorem dJ.len{W:World}{B:Nat}{v:Value}{l:List Nat}(h:dJ W B v l):∃ a cap,v=.slice a l.length cap:=BK h
theorem xl{l:List Int}(hl:l.length<=256):∀ x∈places l,x<18446744073709551616:=by
 intro x hx;have:=oQ x hx;have:=fN l;omega
theorem NG{l:List Int}(hl:l.length<=256):qc l=uv (cI l).length++iu (cI l)++bm (places l) (cX ((cI l).length-1):Int):=by
 unfold qc;rw[jez];rcases jfa l.length with h0 | h0
 ·obtain rfl:l=[]:=jeI h0
  rfl
 ·rw[zJ h0]
theorem ln{p:List Nat}{x:Int}(hl:p.length<=256):(bm p x).length<=2048:=by
 unfold bm;split
 ·next h =>
  unfold can at h;simp only[je7]at h;rw[dU];have:p.length*x.toNat<=256*64:=jfT hl (by omega);unfold by8;omega
 ·simp
theorem pH{w:World}{v:Value}{l:List Int}(hs:Sv w v (aL l))(hl:l.length<=256)(hi:Is l) :
  Calls Tryz.prog 229 #[v] w (dA w (qc l)):=by
 have HI:=ae (lX hi);have HS:=ae hs;have HC:=ae (Ja hs hl);have HF:=ae (NG hl);have HUR:=ae (ib l);have HSU:=ae (mc (lX hi)).1;have HCS:=ae (Ei l);have KX:jgf (∀ x∈l,x∈cI l):=λx hx=>gC.2 hx
 have Vw:=ae (xl hl);have sL:jgf (l.map (pl (cI l))=places l):=rfl;have kV:=lF l;have vK:=fN l;have eN:=mO l;have hps:=ln (p:=places l) (x:=(cX ((cI l).length-1):Int)) (by omega);obtain⟨a,cap,rfl,aW,bC⟩:=hs.form;clear hs hi aW bC;generalize places l=P at *;generalize cI l=u at *;go_enter Tryz.func229,Tryz.ntmps229
 go_wp2_with fail;refine HC.o.mono ?_;rintro e w1 ⟨⟨v1,rfl,ei⟩,aH⟩;have eO:=ae ei;have aP:=ae aH;have cK:=aH.size;clear ei aH;go_wp2_with fail;refine(SP eO.o hl cK).mono ?_;rintro e w2 ⟨rfl,ft,aE⟩;have dz:=ae ft;have aN:=ae (aP.o.trans aE);have bv:=aN.o.size;clear ft aE;go_wp2_with fail;refine(Eh dz.o (by omega) bv).mono ?_;rintro e w3 ⟨⟨v3,rfl,fW⟩,aS⟩;rw[HCS.o]at fW;have dd:=ae fW;have bN:=ae (aN.o.trans aS);have iN:=bN.o.size;obtain⟨a3,c3,rfl⟩:=fW.len;clear fW aS;go_wp2_with fail;refine(dQ u.length (by omega) _).mono ?_;rintro e w4 ⟨⟨v4,rfl,gQ⟩,bG⟩;have eY:=ae gQ;have cp:=ae bG;have KR:=bG.size;clear gQ bG;go_wp2_with fail;refine(yN (dd.o.sv.kept cp.o) (by omega) HI.o HUR.o).mono ?_;rintro e w5 ⟨⟨v5,rfl,fD⟩,bD⟩;have df:=ae fD;have HO45:=ae (eY.o.kept bD);have aQ:=ae (cp.o.trans (bD.mono KR));have tU:=bD.size;clear fD bD;have nB:=bO (n:=u.length) (by omega);have hsu:=HSU.o;go_wp2_with (first | (at_builtin;refine ax rfl _ _ rfl w3.heap.size _ _ (uv u.length) (iu u) rfl HO45.o rfl df.o.sv ?c1 ?c2 ?_))
 case c1=>omega
 case c2=>omega
 intro v6 w6 o6 b6;have my:=ae o6;have gW:=ae (aQ.o.trans b6);have Gq:=gW.o.size;clear o6 b6;go_wp2_with fail;refine(uZ (dd.o.sv.kept gW.o) (HS.o.kept (bN.o.trans (gW.o.mono iN))) hl (by omega) HUR.o KX.o).mono ?_;rintro e w7 ⟨⟨v7,rfl,YS⟩,iR⟩;rw[sL.o]at YS;have iI:=ae YS;have jb7:=ae (my.o.kept iR);have ir:=ae (gW.o.trans (iR.mono Gq));have hz7:=iR.size;clear YS iR;go_wp2_with fail;refine(nT u.length (by omega) _).mono ?_;rintro e w8 ⟨rfl,kR⟩;have HO78:=ae (iI.o.kept kR);have HO68:=ae (jb7.o.kept kR);have qD:=ae (ir.o.trans (kR.mono (by omega)));have hz8:=kR.size;clear kR;go_wp2_with fail;refine(Ac HO78.o.sv.sx Vw.o _).mono ?_;rintro e w9 ⟨⟨v9,rfl,YT⟩,pS⟩;have Vx:=ae YT;have HO69:=ae (HO68.o.kept pS);have ny:=ae (qD.o.trans (pS.mono (by omega)));have YU:=pS.size;clear YT pS;go_wp2_with (first | (at_builtin;refine ax rfl _ _ rfl w3.heap.size _ _ (uv u.length++iu u) _ rfl HO69.o rfl Vx.o.sv ?c3 ?c4 ?_))
 case c3=>simp;omega
 case c4=>omega
 intro vA wA oA bA;have nE:=ae oA;have fx:=ae (bN.o.trans ((ny.o.trans bA).mono iN));clear oA bA;go_wp2_with fail;go_ret
 refine⟨⟨_,rfl,?_⟩,fx.o⟩;rw[HF.o];have:=nE.o.low iN;simpa using this
theorem uq{l:List Int}(h:0<l.length):lZ l=wv (ic l)++uv (wd (dr l))++bm (dr l) (wd (dr l):Int):=by
 unfold lZ;rw[jeh (by omega),jez]
theorem ve{w:World}{v:Value}(hs:Sv w v (aL [])):Calls Tryz.prog 230 #[v] w (dA w (lZ [])):=by
 obtain⟨a,cap,rfl,aW,bC⟩:=hs.form;clear hs aW bC;go_enter Tryz.func230,Tryz.ntmps230
 go_wp2_with fail;go_ret
 exact⟨⟨_,rfl,aD.nil _ _⟩,jej _ _⟩
theorem vk{w:World}{v:Value}{l:List Int}(hs:Sv w v (aL l))(hl:l.length<=256)(hi:Is l)(hp:0<l.length) :
  Calls Tryz.prog 230 #[v] w (dA w (lZ l)):=by
 obtain⟨i0,ju,ch,hz1',bv⟩:=jeD pZ;have HS:=ae hs;have HI:=ae hi;have HMin:=ae (XB hs hp hl);have HML:=ae (Ej hp);have HE:=ae (uq hp);have sD:=ae (hi _ (ie hp));have vJ:=ae (nN (l:=l));have CJ:=ae (lY hi);have nB:=fC (hi _ (ie hp));have Mu:=Hh (lY hi);have hps:=ln (p:=dr l) (x:=(wd (dr l):Int)) (by rw[ge];omega);have hDl:=ge l;have HG:jgf (∀ k (h:k<l.length),(dr l)[k]?=some (l[k]-ic l).toNat):=ae (λk h=>by simp[dr,h]);obtain⟨a,cap,rfl,aW,bC⟩:=hs.form;clear hs hi aW bC;rw[HML.o]at HMin;generalize dr l=D at *;generalize ic l=lo at *;have hlen0:((l.length:Int)==0)=false:=jev.2 (by omega);go_enter Tryz.func230,Tryz.ntmps230
 go_wp2_with fail;refine HMin.o.mono ?_;rintro e w1 ⟨rfl,rfl⟩;go_wp2_with (first | (refine jfo _ rfl _ _ 142 rfl w1.heap.size 92 i0 (.int .u64 0) 1 Tryz.underlying142 ju ch hz1' .i64 .i64 _ _ l.length rfl rfl ?m1 ?m2 ?m3 ?m4 ?m5 ?_))
 case m1=>rfl
 case m2=>rfl
 case m3=>rw[bv];omega
 case m4=>unfold maxLen;omega
 case m5=>omega
 intro w4 gQ iZ;have bG:Below w1.heap.size w1 w4:=(jej _ _).grown iZ (jek _) (λk hk=>by cases hk)
 have ho4':w4.ownsRow w1.heap.size 92 1 (.slice (some ⟨w1.heap.size,0,none⟩) l.length l.length) l.length (aF .u64 (fill D 0)):=by
  rw[oY,hDl,← ko];simpa using gQ
 have eY:=ae ho4';have cp:=ae bG;have kY:=ae hDl;clear gQ iZ bG ho4' hDl;go_wp2_with fail;go_loopw [19] (λi wr=>∃ k:Nat,i=.int .i64 (k:Int)/\k<=l.length/\wr.ownsRow w1.heap.size 92 1 (.slice (some ⟨w1.heap.size,0,none⟩) l.length l.length) l.length (aF .u64 (fill D k))/\Below w1.heap.size w1 wr) (λi _=>l.length-(intOf i).toNat)
 case atStart=>exact⟨0,rfl,by omega,eY.o,cp.o⟩
 case round =>
  obtain⟨k,rfl,hk,how,az⟩:=hrel;have HB:=ae az;have HO:=ae how;have bH:=az.size;clear az how;by_cases aB:k<l.length
  ·have hkD:k<D.length:=by rw[kY.o];exact aB
   have hval:D[k]=(l[k]-lo).toNat:=by
    have:=HG.o k aB;rw[List.getElem?_eq_getElem hkD]at this;exact Option.some.inj this
   obtain⟨b,off,rfl,hb,dN⟩:=(HS.o.kept HB.o).at aB;have hd:=λW=>nS (w:=W) sD.o (HI.o.get aB) (vJ.o _ (jeo aB))
   rw[← hval]at hd;have HD:=ae hd;have jH:k<(fill D k).length:=by rw[lm (by omega)];exact hkD
   have Gn:=(HO.o.cellAt k (by omega)).trans (bU jH);have Gp:=HO.o.frozenAt k;have hST:=HO.o.stored k (.int .u64 ((D[k]:Nat):Int));rw[ku,rp hkD]at hST;have cP:=ae hST;have Mx:=(HO.o.lt w1.heap.size rfl).2;clear hd hval hST;generalize l[k]=x at *;generalize (fill D k)[k]=y at *;generalize D[k]=z at *;go_wp2_with fail;refine(HD.o _).mono ?_;rintro e w5 ⟨rfl,rfl⟩;go_wp2_with fail;go_roundw
   case rel=>exact⟨k+1,by go_num,by omega,cP.o.1,cT HB.o (jek _) _⟩
   case measure=>simp[intOf];omega
  ·obtain rfl:k=l.length:=by omega
   have e:fill D l.length=D:=by
    have:=ro D;rwa[kY.o]at this
   have HO':jgf (dJ wr w1.heap.size (.slice (some ⟨w1.heap.size,0,none⟩) l.length l.length) D):=by
    show dJ _ _ _ _
    have:=HO.o;rw[e]at this;unfold dJ;rw[kY.o];exact this
   have HWd:=ae (te HO'.o.sv.sx CJ.o);clear HO e;generalize wd D=wdt at *;go_wp2_with fail;refine HWd.o.mono ?_;rintro e w5 ⟨rfl,rfl⟩;go_wp2_with fail;refine(im sD.o _).mono ?_;rintro e w6 ⟨⟨v6,rfl,AU⟩,dW⟩;have my:=ae AU;have gW:=ae dW;have Gq:=dW.size;clear AU dW;go_wp2_with fail;refine(dQ wdt (by omega) _).mono ?_;rintro e w7 ⟨⟨v7,rfl,YS⟩,iR⟩;have iI:=ae YS;have jb7:=ae (my.o.kept iR);have ir:=ae (gW.o.trans (iR.mono Gq));have hz7:=iR.size;have h102:=bO (n:=wdt) (by omega);clear YS iR;go_wp2_with (first | (at_builtin;refine ax rfl _ _ rfl w5.heap.size _ _ (wv lo) (uv wdt) rfl jb7.o rfl iI.o.sv ?c1 ?c2 ?_))
   case c1=>omega
   case c2=>omega
   intro v8 w8 o8 b8;have Qv:=ae o8;have qD:=ae (ir.o.trans b8);have hz8:=qD.o.size;clear o8 b8;have HOD:=ae (HO'.o.kept qD.o);go_wp2_with fail;refine(Ac HOD.o.sv.sx CJ.o _).mono ?_;rintro e w9 ⟨⟨v9,rfl,YT⟩,pS⟩;have Vx:=ae YT;have HO89:=ae (Qv.o.kept pS);have ny:=ae (qD.o.trans (pS.mono hz8));have YU:=pS.size;clear YT pS;go_wp2_with (first | (at_builtin;refine ax rfl _ _ rfl w5.heap.size _ _ (wv lo++uv wdt) _ rfl HO89.o rfl Vx.o.sv ?c3 ?c4 ?_))
   case c3=>simp;omega
   case c4=>omega
   intro vA wA oA bA;have nE:=ae oA;have fx:=ae (HB.o.trans ((ny.o.trans bA).mono bH));clear oA bA;go_wp2_with fail;go_ret
   refine⟨⟨_,rfl,?_⟩,fx.o⟩;rw[HE.o];have:=nE.o.low bH;simpa using this
theorem nU{w:World}{v:Value}{l:List Int}(hs:Sv w v (aL l))(hl:l.length<=256)(hi:Is l):Calls Tryz.prog 230 #[v] w (dA w (lZ l)):=by
 rcases jfa l.length with h0 | h0
 ·obtain rfl:l=[]:=jeI h0
  exact ve hs
 ·exact vk hs hl hi h0
theorem gg(w:World):Calls Tryz.prog 200 #[] w λe w'=>e=.returned (.agg #[.func (.func 226) #[] #[],.func (.func 227) #[] #[],.func (.func 228) #[] #[],.func (.func 229) #[] #[],.func (.func 230) #[] #[]])/\Below w.heap.size w w':=by
 go_enter Tryz.func200,Tryz.ntmps200
 go_wp2_with fail;exact bodyPost_ret (v:=.agg #[.func (.func 226) #[] #[],.func (.func 227) #[] #[],.func (.func 228) #[] #[],.func (.func 229) #[] #[],.func (.func 230) #[] #[]]) (by simp[results,Tryz.results200,go_sem]) rfl ⟨rfl,(jej _ _).alloc (jek _) _⟩
def En(c:Nat)(l:List Int):List Nat:=if c<=4/\l.length<=256 then iv c l else []
theorem SU{w:World}{v:Value}{l:List Int}(hs:Sv w v (aL l))(hl:l.length<=256)(hi:Is l) :
  Calls Tryz.prog 319 #[.int .u8 0,v] w λe w'=>(∃ v',e=.returned (.tuple #[v',.bool true])/\aD w' w.heap.size v' (gB l))/\Below w.heap.size w w':=by
 have HS:=ae hs;have HI:=ae hi;obtain⟨a,cap,rfl,aW,bC⟩:=hs.form;have vZ:¬ (l.length:Int) > 256:=by omega
 clear hs aW bC hi;go_enter Tryz.func319,Tryz.ntmps319
 go_wp2_with fail;refine(gg _).mono ?_;rintro e w1 ⟨rfl,aH⟩;have aP:=ae aH;have cK:=aH.size;clear aH;go_wp2_with fail;have aN:=ae (aP.o.alloc cK (.cells #[.func (.func 226) #[] #[],.func (.func 227) #[] #[],.func (.func 228) #[] #[],.func (.func 229) #[] #[],.func (.func 230) #[] #[]] 246));have bv:=aN.o.size;refine(uj (HS.o.kept aN.o) hl HI.o).mono ?_;rintro e w3 ⟨⟨v3,rfl,fW⟩,aS⟩;have dd:=ae (fW.low bv);have bN:=ae (aN.o.trans (aS.mono bv));clear fW aS;go_wp2_with fail;go_ret2
 exact⟨⟨_,rfl,dd.o⟩,bN.o⟩
theorem SV{w:World}{v:Value}{l:List Int}(hs:Sv w v (aL l))(hl:l.length<=256)(hi:Is l) :
  Calls Tryz.prog 319 #[.int .u8 1,v] w λe w'=>(∃ v',e=.returned (.tuple #[v',.bool true])/\aD w' w.heap.size v' (iP 0 l))/\Below w.heap.size w w':=by
 have HS:=ae hs;have HI:=ae hi;obtain⟨a,cap,rfl,aW,bC⟩:=hs.form;have vZ:¬ (l.length:Int) > 256:=by omega
 clear hs aW bC hi;go_enter Tryz.func319,Tryz.ntmps319
 go_wp2_with fail;refine(gg _).mono ?_;rintro e w1 ⟨rfl,aH⟩;have aP:=ae aH;have cK:=aH.size;clear aH;go_wp2_with fail;have aN:=ae (aP.o.alloc cK (.cells #[.func (.func 226) #[] #[],.func (.func 227) #[] #[],.func (.func 228) #[] #[],.func (.func 229) #[] #[],.func (.func 230) #[] #[]] 246));have bv:=aN.o.size;refine(rC (HS.o.kept aN.o) hl HI.o).mono ?_;rintro e w3 ⟨⟨v3,rfl,fW⟩,aS⟩;have dd:=ae (fW.low bv);have bN:=ae (aN.o.trans (aS.mono bv));clear fW aS;go_wp2_with fail;go_ret2
 exact⟨⟨_,rfl,dd.o⟩,bN.o⟩
theorem SW{w:World}{v:Value}{l:List Int}(hs:Sv w v (aL l))(hl:l.length<=256)(hi:Is l) :
  Calls Tryz.prog 319 #[.int .u8 2,v] w λe w'=>(∃ v',e=.returned (.tuple #[v',.bool true])/\aD w' w.heap.size v' (iA l))/\Below w.heap.size w w':=by
 have HS:=ae hs;have HI:=ae hi;obtain⟨a,cap,rfl,aW,bC⟩:=hs.form;have vZ:¬ (l.length:Int) > 256:=by omega
 clear hs aW bC hi;go_enter Tryz.func319,Tryz.ntmps319
 go_wp2_with fail;refine(gg _).mono ?_;rintro e w1 ⟨rfl,aH⟩;have aP:=ae aH;have cK:=aH.size;clear aH;go_wp2_with fail;have aN:=ae (aP.o.alloc cK (.cells #[.func (.func 226) #[] #[],.func (.func 227) #[] #[],.func (.func 228) #[] #[],.func (.func 229) #[] #[],.func (.func 230) #[] #[]] 246));have bv:=aN.o.size;refine(um (HS.o.kept aN.o) hl HI.o).mono ?_;rintro e w3 ⟨⟨v3,rfl,fW⟩,aS⟩;have dd:=ae (fW.low bv);have bN:=ae (aN.o.trans (aS.mono bv));clear fW aS;go_wp2_with fail;go_ret2
 exact⟨⟨_,rfl,dd.o⟩,bN.o⟩
theorem SX{w:World}{v:Value}{l:List Int}(hs:Sv w v (aL l))(hl:l.length<=256)(hi:Is l) :
  Calls Tryz.prog 319 #[.int .u8 3,v] w λe w'=>(∃ v',e=.returned (.tuple #[v',.bool true])/\aD w' w.heap.size v' (qc l))/\Below w.heap.size w w':=by
 have HS:=ae hs;have HI:=ae hi;obtain⟨a,cap,rfl,aW,bC⟩:=hs.form;have vZ:¬ (l.length:Int) > 256:=by omega
 clear hs aW bC hi;go_enter Tryz.func319,Tryz.ntmps319
 go_wp2_with fail;refine(gg _).mono ?_;rintro e w1 ⟨rfl,aH⟩;have aP:=ae aH;have cK:=aH.size;clear aH;go_wp2_with fail;have aN:=ae (aP.o.alloc cK (.cells #[.func (.func 226) #[] #[],.func (.func 227) #[] #[],.func (.func 228) #[] #[],.func (.func 229) #[] #[],.func (.func 230) #[] #[]] 246));have bv:=aN.o.size;refine(pH (HS.o.kept aN.o) hl HI.o).mono ?_;rintro e w3 ⟨⟨v3,rfl,fW⟩,aS⟩;have dd:=ae (fW.low bv);have bN:=ae (aN.o.trans (aS.mono bv));clear fW aS;go_wp2_with fail;go_ret2
 exact⟨⟨_,rfl,dd.o⟩,bN.o⟩
theorem SY{w:World}{v:Value}{l:List Int}(hs:Sv w v (aL l))(hl:l.length<=256)(hi:Is l) :
  Calls Tryz.prog 319 #[.int .u8 4,v] w λe w'=>(∃ v',e=.returned (.tuple #[v',.bool true])/\aD w' w.heap.size v' (lZ l))/\Below w.heap.size w w':=by
 have HS:=ae hs;have HI:=ae hi;obtain⟨a,cap,rfl,aW,bC⟩:=hs.form;have vZ:¬ (l.length:Int) > 256:=by omega
 clear hs aW bC hi;go_enter Tryz.func319,Tryz.ntmps319
 go_wp2_with fail;refine(gg _).mono ?_;rintro e w1 ⟨rfl,aH⟩;have aP:=ae aH;have cK:=aH.size;clear aH;go_wp2_with fail;have aN:=ae (aP.o.alloc cK (.cells #[.func (.func 226) #[] #[],.func (.func 227) #[] #[],.func (.func 228) #[] #[],.func (.func 229) #[] #[],.func (.func 230) #[] #[]] 246));have bv:=aN.o.size;refine(nU (HS.o.kept aN.o) hl HI.o).mono ?_;rintro e w3 ⟨⟨v3,rfl,fW⟩,aS⟩;have dd:=ae (fW.low bv);have bN:=ae (aN.o.trans (aS.mono bv));clear fW aS;go_wp2_with fail;go_ret2
 exact⟨⟨_,rfl,dd.o⟩,bN.o⟩
theorem NH{w:World}{v:Value}{l:List Int}(hs:Sv w v (aL l))(c:Nat)(hc:c<256)(hno:¬ (c<=4/\l.length<=256)) :
  Calls Tryz.prog 319 #[.int .u8 (c:Int),v] w λe w'=>(∃ v',e=.returned (.tuple #[v',.bool false])/\aD w' w.heap.size v' [])/\Below w.heap.size w w':=by
 obtain⟨a,cap,rfl,aW,bC⟩:=hs.form;have hm:l.length<=9223372036854775807:=by unfold maxLen at bC;omega
 clear hs aW bC;by_cases h5:(c:Int)>=5
 ·go_enter Tryz.func319,Tryz.ntmps319
  go_wp2_with fail;go_ret2
  exact⟨⟨_,rfl,aD.nil _ _⟩,jej _ _⟩
 ·have vZ:(l.length:Int) > 256:=by omega
  go_enter Tryz.func319,Tryz.ntmps319
  go_wp2_with fail;go_ret2
  exact⟨⟨_,rfl,aD.nil _ _⟩,jej _ _⟩
theorem Jd{w:World}{v:Value}{l:List Int}(hs:Sv w v (aL l))(hi:Is l)(c:Nat)(hc:c<256) :
  Calls Tryz.prog 319 #[.int .u8 (c:Int),v] w λe w'=>(∃ v',e=.returned (.tuple #[v',.bool (decide (c<=4/\l.length<=256))])/\aD w' w.heap.size v' (En c l))/\Below w.heap.size w w':=by
 by_cases h:c<=4/\l.length<=256
 ·rw[jeB h]
  unfold En;rw[jei h];obtain⟨h4,hl⟩:=h;match c,h4 with
  | 0,_=>exact SU hs hl hi
  | 1,_=>exact SV hs hl hi
  | 2,_=>exact SW hs hl hi
  | 3,_=>exact SX hs hl hi
  | 4,_=>exact SY hs hl hi
 ·rw[jeu h]
  unfold En;rw[jeh h];exact NH hs c hc h
end Go.Proofs.YtpljdjmpamjkhaaGreatDoor
