import Derived.Test.YtpljdjmpamjkhaaGreatDoorWag
import Derived.Laws.EntriesVeiled
set_option linter.unusedVariables false
set_option linter.unusedSimpArgs false
set_option maxRecDepth 100000
set_option maxHeartbeats 2000000
namespace Go.Proofs.YtpljdjmpamjkhaaGreatDoor
open Go.RowKit Go.Lib
def ahd(l:List Int)(k:Nat):Int:=if k=0 then 0 else l.getD (k-1) 0
theorem Mz{l:List Int}{k:Nat}(h:k<l.length):ahd l (k+1)=l[k]:=by
 unfold ahd;simp[List.getD_eq_getElem?_getD,h]
theorem rD:∀(a:List Int) (last x:Int),iK last (a++[x])=iK last a++wv (w64 (x-(a.getLast?.getD last)))
 | [],last,x=>by simp[iK]
 | y::t,last,x=>by
  rw[Zv,iK,rD t y x,iK,YR];cases t with
  | nil=>rfl
  | cons z s=>rw[show (y::z::s).getLast?=(z::s).getLast? from by simp[List.getLast?_cons_cons]];simp[List.getLast?_eq_some_getLast]
theorem MA{l:List Int}{k:Nat}(h:k<=l.length):(l.take k).getLast?.getD 0=ahd l k:=by
 unfold ahd;cases k with
 | zero=>simp
 | succ k =>
  rw[Yx (by omega),List.getLast?_take,List.getD_eq_getElem?_getD];simp[show k<l.length by omega]
theorem Ht{l:List Int}{k:Nat}(h:k<l.length):iK 0 (l.take (k+1))=iK 0 (l.take k)++wv (w64 (l[k]-ahd l k)):=by
 rw[YP h,rD,MA (by omega)]
theorem tQ(x:Int):IntKind.i64.wrap x=w64 x:=by rw[Zy];unfold w64;omega
theorem oY{w:World}{v:Value}{l:List Int}(hs:Sv w v (aH l))(hl:l.length<=256)(hi:Is l) :
  Calls Tryz.prog 227 #[v] w (dJ w (iK 0 l)):=by
 have HI:=ae hi;have HS:=ae hs;obtain⟨a,cap,rfl,aV,bw⟩:=hs.form;clear hs hi aV bw;go_enter Tryz.func227,Tryz.ntmps227
 go_wp2_with fail;go_loopw [3,4,9] (fun b ah i wr=>∃ k:Nat,k<=l.length/\i=.int .i64 (k:Int)/\ah=.int .i64 (ahd l k)/\aG wr w.heap.size b (iK 0 (l.take k))/\Below w.heap.size w wr) (fun _ _ i _=>l.length-(intOf i).toNat)
 case atStart=>exact⟨0,by omega,rfl,rfl,aG.nil _ _,Yz _ _⟩
 case round =>
  obtain⟨k,hk,rfl,rfl,aw,ao⟩:=hrel;have HO:=ae aw;have HB:=ae ao;have bM:=ao.size;clear aw ao;by_cases ar:k<l.length
  ·obtain⟨b,off,rfl,hb,ek⟩:=(HS.o.kept HB.o).at ar
   have HX:=ae (jQ (l[k]-ahd l k));have UJ:=tQ (l[k]-ahd l k);have HT:=ae (Ht ar);have HA:=ae (Mz ar);have ll:=(qm (l:=l.take k) (last:=0)).1;rw[YH]at ll;have hten:=gL (jQ (l[k]-ahd l k));generalize l[k]=x at *;generalize ahd l k=y at *;generalize iK 0 (l.take k)=acc at *;generalize w64 (x-y)=d at *;go_wp2_with fail;try rw[UJ]
   refine(fQ HX.o _).mono ?_;rintro e w2 ⟨⟨v2,rfl,fx⟩,ay⟩;have ec:=ae fx;have HOk:=ae (HO.o.kept ay);have aK:=ae (HB.o.trans (ay.mono bM));have bh:=ay.size;clear fx ay;go_wp2_with (first | (at_builtin;refine aB rfl _ _ rfl w.heap.size _ _ acc (wv d) rfl HOk.o rfl ec.o.sv ?c1 ?c2 ?_))
   case c1=>omega
   case c2=>omega
   intro v3 w3 o3 b3;have dx:=ae o3;have bT:=ae (aK.o.trans b3);clear o3 b3;go_wp2_with fail;go_roundw
   case rel=>exact⟨k+1,by omega,by go_num,by rw[HA.o],by rw[HT.o];exact dx.o,bT.o⟩
   case measure=>simp[intOf];omega
  ·obtain rfl:k=l.length:=by omega
   rw[YK]at HO;go_wp2_with fail;go_ret
   exact⟨⟨_,rfl,HO.o⟩,HB.o⟩
def gB(x:Int):List Int->Nat
 | []=>0
 | y::t=>if y=x then gB x t+1 else 0
theorem FT(x:Int):∀ l,gB x l<=l.length
 | []=>by simp[gB]
 | y::t=>by
  have:=FT x t;unfold gB;split<;>simp<;>omega
theorem wN{x:Int}:∀{l:List Int} {k:Nat},(∀ j (h:j<k) (hl:j<l.length),l[j]=x)->(h:k<l.length)->l[k]≠x->gB x l=k
 | y::t,0,_,_,h=>by
  unfold gB;rw[Yx (by simpa using h)]
 | y::t,k+1,ha,hk,h=>by
  have h0:=ha 0 (by omega) (by simp);unfold gB;rw[Yy (by simpa using h0),wN (l:=t) (k:=k) (fun j hj hl=>by have:=ha (j+1) (by omega) (by simpa using hl);simpa using this) (by simpa using hk) (by simpa using h)]
theorem Ai{x:Int}:∀{l:List Int},(∀ j (h:j<l.length),l[j]=x)->gB x l=l.length
 | [],_=>rfl
 | y::t,ha=>by
  have h0:=ha 0 (by simp);unfold gB;rw[Yy (by simpa using h0),Ai (l:=t) (fun j hj=>by have:=ha (j+1) (by simpa using hj);simpa using this)];simp
theorem wO(x:Int):∀(t:List Int) (c:Nat),ge x c t=wv x++uv (c+gB x t)++iL (t.drop (gB x t))
 | [],c=>by simp[ge,gB,iL]
 | y::t,c=>by
  unfold ge gB;split
  ·next h =>
   rw[wO x t (c+1)];rw[show c+1+gB x t=c+(gB x t+1) by omega,List.drop_succ_cons]
  ·simp[iL]
theorem MB{l:List Int}(h:0<l.length):iL l=wv l[0]++uv (gB l[0] l)++iL (l.drop (gB l[0] l)):=by
 cases l with
 | nil=>simp at h
 | cons x t =>
  show ge x 1 t=wv x++uv (gB x (x::t))++iL ((x::t).drop (gB x (x::t)))
  rw[wO x t 1];have e:gB x (x::t)=gB x t+1:=by rw[gB,Yy rfl]
  rw[e,List.drop_succ_cons,Nat.add_comm 1]
theorem MC{l:List Int}(h:0<l.length):0<gB l[0] l:=by
 cases l with
 | nil=>simp at h
 | cons x t =>
  show 0<gB x (x::t)
  rw[gB,Yy rfl];omega
theorem vj{w:World}{v:Value}{l:List Int}(hs:Sv w v (aH l))(hl:l.length<=256)(hp:0<l.length) :
  Calls Tryz.prog 240 #[v] w fun e w'=>e=.returned (.int .i64 (gB l[0] l:Int))/\w'=w:=by
 have HS:=ae hs;obtain⟨a,cap,rfl,aV,bw⟩:=hs.form;obtain⟨b,off,rfl,hb,rZ⟩:=hs.at hp;clear hs aV bw;rw[ZL]at rZ;have HE:jaH (∀ k,(∀ j (h:j<k) (hl:j<l.length),l[j]=l[0])->(h:k<l.length)->l[k]≠l[0]->gB l[0] l=k):=fun k h1 h2 h3=>wN h1 h2 h3
 have HA:=ae (Ai (x:=l[0]) (l:=l));generalize l[0]=x at *;go_enter Tryz.func240,Tryz.ntmps240
 go_wp2_with fail;go_loopw [7] (fun i wr=>wr=w/\∃ k:Nat,k<=l.length/\i=.int .i64 (k:Int)/\∀ j (h:j<k) (hl:j<l.length),l[j]=x) (fun i _=>l.length-(intOf i).toNat)
 case atStart=>exact⟨rfl,0,by omega,rfl,fun j h=>by omega⟩
 case round =>
  obtain⟨rfl,k,hk,rfl,cz⟩:=hrel;have HL:=ae cz;clear cz;by_cases ar:k<l.length
  ·obtain⟨b',off',XR,_,ek⟩:=HS.o.at ar
   cases XR
   have HX:=ae (HE.o k HL.o ar);have HY:jaH (∀ j (h:j<k+1) (hl:j<l.length),l[j]=x->l[j]=x):=fun _ _ _ h=>h
   by_cases he:(l[k]==x)=true
   ·have fb:(l[k] != x)=false:=by simpa using he
    have HN:jaH (∀ j (h:j<k+1) (hl:j<l.length),l[j]=x):=by
     intro j hj hl;rcases Zd j k with h | h
     ·exact HL.o j h hl
     ·have:j=k:=by omega
      subst this;simpa using he
    clear HX;generalize l[k]=y at *;go_wp2_with fail;go_roundw
    case rel=>exact⟨trivial,k+1,by omega,by go_num,HN.o⟩
    case measure=>simp[intOf];omega
   ·have fb:(l[k] != x)=true:=by simpa using he
    have HR:=ae (HX.o (by simpa using he));clear HX;generalize l[k]=y at *;go_wp2_with fail;go_ret
    rw[HR.o];exact⟨rfl,rfl⟩
  ·obtain rfl:k=l.length:=by omega
   have HR:=ae (HA.o (fun j hj=>HL.o j hj hj));go_wp2_with fail;go_ret
   rw[HR.o];exact⟨rfl,rfl⟩
theorem yi{W:World}{b off n cap:Nat}{xs:List Value}(h:Sv W (.slice (some ⟨b,off,none⟩) n cap) xs){k:Nat}(hk:k<=xs.length) :
  ∃ A,(if cap=k then (some ⟨b,off,none⟩:Option Addr) else some ⟨b,off+k,none⟩)=A/\Sv W (.slice A (n-k) (cap-k)) (xs.drop k):=by
 refine⟨_,rfl,?_⟩;have:=h.drop hk rfl;split at this
 ·next e=>rw[Yy e];exact this
 ·next e=>rw[Yx e];exact this
theorem Dq(l:List Int)(k:Nat):aH (l.drop k)=(aH l).drop k:=by simp[aH,List.map_drop]
theorem Is.drop{l:List Int}(h:Is l)(k:Nat):Is (l.drop k):=fun x hx=>h x (jav hx)
theorem Hu{l:List Int}(h:Is l)(hl:l.length<=256):(iL l).length<=5120:=by
 have:=eK 2 h hl;cases l with
 | nil=>simp[iL]
 | cons x t =>
  have:=(kR (t:=t) (x:=x) (c:=1) (fun z hz=>h z (by simp[hz])) (h x (by simp)) (by simp at hl;omega)).1;simp at hl
  rw[iL];omega
theorem rE{w:World}{v:Value}{l:List Int}(hs:Sv w v (aH l))(hl:l.length<=256)(hi:Is l) :
  Calls Tryz.prog 228 #[v] w (dJ w (iL l)):=by
 have HI:=ae hi;have HS:=ae hs;have ll:=Hu hi hl;obtain⟨a,cap,rfl,aV,bw⟩:=hs.form;clear hs hi;go_enter Tryz.func228,Tryz.ntmps228
 go_wp2_with fail;go_loopw [0,3] (fun v b wr=>∃(m:List Int) (acc:List Nat),Sv w v (aH m)/\m.length<=256/\Is m/\acc++iL m=iL l/\aG wr w.heap.size b acc/\Below w.heap.size w wr) (fun v _ _=>(match v with | .slice _ n _=>n | _=>0))
 case atStart=>exact⟨l,[],HS.o,hl,HI.o,rfl,aG.nil _ _,Yz _ _⟩
 case round =>
  obtain⟨m,acc,Rg,WB,him,Fg,aw,ao⟩:=hrel;have Qg:=ae Rg;have HIM:=ae him;have HA:=ae Fg;have HO:=ae aw;have HB:=ae ao;have bM:=ao.size;have bg:=YE List.length Fg;rw[YC]at bg;obtain⟨a2,cap2,rfl,BZ,pR⟩:=Rg.form;have WF:cap2<=9223372036854775807:=by unfold maxLen at pR;omega
  clear Rg him Fg aw ao pR HS aV bw;by_cases hp:0<m.length
  ·have Gw:=ae (Qg.o.kept HB.o)
   obtain⟨b,off,rfl,hb,rZ⟩:=Gw.o.at hp;rw[ZL]at rZ;have HX:=ae (HIM.o.get hp);have hE:=MB hp;have Kz:=ae (vj Gw.o WB hp);have pS:=FT m[0] m;have XS:=MC hp;have sO:=gL (HIM.o.get hp);generalize m[0]=x at *;generalize gB x m=r at *;obtain⟨A,hA,hSA⟩:=yi Qg.o (k:=r) (by rw[bL];omega);rw[← Dq]at hSA;have kj:=ae hSA;have HE:=ae hE;have hlE:=YE List.length hE;rw[YC,YC]at hlE;clear hSA hE;go_wp2_with fail;refine Kz.o.mono ?_;rintro e w1 ⟨rfl,rfl⟩;go_wp2_with fail;refine(fQ HX.o _).mono ?_;rintro e w2 ⟨⟨v2,rfl,fx⟩,ay⟩;have ec:=ae fx;have HOk:=ae (HO.o.kept ay);have aK:=ae (HB.o.trans (ay.mono bM));have bh:=ay.size;clear fx ay;go_wp2_with (first | (at_builtin;refine aB rfl _ _ rfl w.heap.size _ _ acc (wv x) rfl HOk.o rfl ec.o.sv ?c1 ?c2 ?_))
   case c1=>omega
   case c2=>omega
   intro v3 w3 o3 b3;have dx:=ae o3;have bT:=ae (aK.o.trans b3);have jE:=b3.size;clear o3 b3;go_wp2_with fail;refine(cU r (by omega) _).mono ?_;rintro e w4 ⟨⟨v4,rfl,UK⟩,bm⟩;have fU:=ae UK;have HOk4:=ae (dx.o.kept bm);have cA:=ae (bT.o.trans (bm.mono (by omega)));have Kx:=bm.size;clear UK bm;go_wp2_with (first | (at_builtin;refine aB rfl _ _ rfl w.heap.size _ _ (acc++wv x) (uv r) rfl HOk4.o rfl fU.o.sv ?c1 ?c2 ?_))
   case c1=>simp;omega
   case c2=>omega
   intro v5 w5 o5 b5;have cQ:=ae o5;have aJ:=ae (cA.o.trans b5);clear o5 b5;go_wp2_with fail;go_roundw
   case rel=>exact⟨m.drop r,acc++(wv x++uv r),kj.o,by rw[Zf];omega,HIM.o.drop r,by rw[← HA.o,HE.o];simp,cQ.o,aJ.o⟩
   case measure=>simp;omega
  ·obtain rfl:m=[]:=YU (by omega)
   go_wp2_with fail;go_ret
   refine⟨⟨_,rfl,?_⟩,HB.o⟩;have e:=HA.o;rw[show iL []=[] from rfl,YZ]at e;rw[← e];exact HO.o
theorem yj(a b:Int)(ha:I64 a)(hb:I64 b)(w:World):Calls Tryz.prog 249 #[.int .i64 a,.int .i64 b] w fun e w'=>e=.returned (.int .u64 ((b-a) % 18446744073709551616))/\w'=w:=by
 have HE:jaH (IntKind.u64.wrap (IntKind.u64.wrap b-IntKind.u64.wrap a)=(b-a) % 18446744073709551616):=by
  show _=_
  rw[Zr,Zr,Zr];omega
 clear ha hb;go_enter Tryz.func249,Tryz.ntmps249
 go_wp2_with fail;go_ret
 rw[← HE.o];exact⟨rfl,rfl⟩
theorem lK{a b:Int}(ha:I64 a)(hb:I64 b)(Qj:a<=b)(w:World):Calls Tryz.prog 249 #[.int .i64 a,.int .i64 b] w fun e w'=>e=.returned (.int .u64 ((b-a).toNat:Int))/\w'=w:=by
 have:=yj a b ha hb w;unfold I64 at ha hb;rwa[show (b-a) % 18446744073709551616=((b-a).toNat:Int) by omega]at this
theorem wP{w:World}{v:Value}{l:List Nat}(hs:Sx .u64 w v l)(ol:∀ x∈l,x<18446744073709551616)(x:Int) :
  Calls Tryz.prog 245 #[v,.int .i64 x] w (dJ w (aY l x)):=by
 have HP:=ae (wK hs ol x);clear hs ol;go_enter Tryz.func245,Tryz.ntmps245
 go_wp2_with fail;refine HP.o.mono ?_;rintro e w1 ⟨v1,rfl,aw,hb⟩;have HO:=ae aw;clear aw;go_wp2_with fail;go_ret
 exact⟨⟨_,rfl,HO.o⟩,hb⟩
theorem VN(n:Nat):wd [n]=cL n:=by
 have h1:wd [n]<=cL n:=rr.2 (fun x hx=>by
  have:x=n:=by simpa using hx
  subst this;exact eJ.1 (YA _))
 have h2:cL n<=wd [n]:=eJ.2 (rr.1 (YA _) n (by simp));omega
theorem lL(n:Nat)(hn:n<=256)(w:World):Calls Tryz.prog 247 #[.int .i64 (n:Int)] w fun e w'=>e=.returned (.int .i64 (cL (n-1):Int))/\Below w.heap.size w w':=by
 by_cases h0:((n:Int)==0)=true
 ·have h0':n=0:=by simpa using h0
  subst h0';go_enter Tryz.func247,Tryz.ntmps247
  go_wp2_with fail;go_ret
  exact⟨rfl,Yz _ _⟩
 ·have h0f:((n:Int)==0)=false:=by simpa using h0
  have mP:n≠0:=by simpa using h0
  obtain⟨m,rfl⟩:∃ m,n=m+1:=⟨n-1,by omega⟩
  have HW:=ae (fun w=>qu (Sx.lit (k:=.u64) w [m] 92 (by unfold maxLen;simp)) (fun x hx=>by
   have:x=m:=by simpa using hx
   omega))
  have HB:=ae (fun w:World=>(Yz w.heap.size w).alloc (YA _) (.cells (az .u64 [m]).toArray 92));have he:((m+1:Nat):Int)-1=(m:Int):=by omega
  rw[VN]at HW;clear h0;go_enter Tryz.func247,Tryz.ntmps247
  go_wp2_with fail;refine(HW.o w).mono ?_;rintro e w1 ⟨rfl,rfl⟩;have aN:=ae (HB.o w);go_wp2_with fail;go_ret
  exact⟨rfl,aN.o⟩
theorem rF:∀(t:List Int) (last x:Int),nD last (t++[x])=nD last t++uv (x-(t.getLast?.getD last)).toNat
 | [],last,x=>by simp[nD]
 | y::t,last,x=>by
  rw[Zv,nD,rF t y x,nD,YR];cases t with
  | nil=>rfl
  | cons z s=>rw[show (y::z::s).getLast?=(z::s).getLast? from by simp[List.getLast?_cons_cons]];simp[List.getLast?_eq_some_getLast]
theorem MD{u:List Int}(h:0<u.length):je (u.take 1)=je (u.take 0)++wv u[0]:=by
 cases u with
 | nil=>simp at h
 | cons x t=>simp[je,nD]
theorem Hv{u:List Int}{k:Nat}(h:k+1<u.length):je (u.take (k+1+1))=je (u.take (k+1))++uv (u[k+1]-u[k]).toNat:=by
 cases u with
 | nil=>simp at h
 | cons x t =>
  have hk:k<t.length:=by simpa using h
  rw[jax,jax,YP hk,je,je,rF,YR];congr 3
  cases k with
  | zero=>simp
  | succ k =>
   rw[List.getLast?_take];simp[show k<t.length by omega]
theorem vk{w:World}{v:Value}{l:List Int}(hs:Sv w v (aH l))(hl:l.length<=256)(hi:Is l)(hr:cY l) :
  Calls Tryz.prog 244 #[v] w (dJ w (je l)):=by
 have HI:=ae hi;have HS:=ae hs;have HR:=ae hr;obtain⟨a,cap,rfl,aV,bw⟩:=hs.form;clear hs hi aV bw hr;go_enter Tryz.func244,Tryz.ntmps244
 go_wp2_with fail;go_loopw [3,8] (fun b i wr=>∃ k:Nat,k<=l.length/\i=.int .i64 (k:Int)/\aG wr w.heap.size b (je (l.take k))/\Below w.heap.size w wr) (fun _ i _=>l.length-(intOf i).toNat)
 case atStart=>exact⟨0,by omega,rfl,aG.nil _ _,Yz _ _⟩
 case round =>
  obtain⟨k,hk,rfl,aw,ao⟩:=hrel;have HO:=ae aw;have HB:=ae ao;have bM:=ao.size;clear aw ao;by_cases ar:k<l.length
  ·obtain⟨b,off,rfl,hb,ek⟩:=(HS.o.kept HB.o).at ar
   have HX:=ae (HI.o.get ar);have ll:=(qn (HI.o.take k)).1;rw[YH]at ll;have hten:=gL (HI.o.get ar);cases k with
   | zero =>
    have HT:=ae (MD ar);rw[ZL]at ek;generalize je (l.take 0)=acc at *;generalize l[0]=x at *;go_wp2_with fail;refine(fQ HX.o _).mono ?_;rintro e w2 ⟨⟨v2,rfl,fx⟩,ay⟩;have ec:=ae fx;have HOk:=ae (HO.o.kept ay);have aK:=ae (HB.o.trans (ay.mono bM));have bh:=ay.size;clear fx ay;go_wp2_with (first | (at_builtin;refine aB rfl _ _ rfl w.heap.size _ _ acc (wv x) rfl HOk.o rfl ec.o.sv ?c1 ?c2 ?_))
    case c1=>omega
    case c2=>omega
    intro v3 w3 o3 b3;have dx:=ae o3;have bT:=ae (aK.o.trans b3);clear o3 b3;go_wp2_with fail;go_roundw
    case rel=>exact⟨1,by omega,by go_num,by rw[HT.o];exact dx.o,bT.o⟩
    case measure=>simp[intOf];omega
   | succ k =>
    obtain⟨b',off',XR,_,hck2⟩:=(HS.o.kept HB.o).at (show k<l.length by omega);cases XR
    have Cu:=ae (HI.o.get (show k<l.length by omega));have ir:l[k]<l[k+1]:=jaA.1 HR.o k (k+1) (by omega) ar (by omega);have HT:=ae (Hv ar)
    have hd:(l[k+1]-l[k]).toNat<18446744073709551616:=by
     have h1:=HX.o;have h2:=Cu.o;unfold I64 at h1 h2;omega
    have hten2:=cC hd;have HD:=ae (fun W=>lK (a:=l[k]) (b:=l[k+1]) Cu.o HX.o (by omega) W);have uK:(((k+1:Nat):Int)==0)=false:=by simp;omega
    have sP:((k+1:Nat):Int)-1=(k:Int):=(by omega);have xv:((k+1:Nat):Int)=(k:Int)+1:=(by omega);generalize l[k+1]=x at *;generalize l[k]=y at *;generalize je (l.take (k+1))=acc at *;generalize (x-y).toNat=d at *;have ln:jaH (d<18446744073709551616):=hd;clear hd;go_wp2_with fail;refine(HD.o _).mono ?_;rintro e w1 ⟨rfl,rfl⟩;go_wp2_with fail;refine(cU d ln.o _).mono ?_;rintro e w2 ⟨⟨v2,rfl,fx⟩,ay⟩;have ec:=ae fx;have HOk:=ae (HO.o.kept ay);have aK:=ae (HB.o.trans (ay.mono bM));have bh:=ay.size;clear fx ay;go_wp2_with (first | (at_builtin;refine aB rfl _ _ rfl w.heap.size _ _ acc (uv d) rfl HOk.o rfl ec.o.sv ?c1 ?c2 ?_))
    case c1=>omega
    case c2=>omega
    intro v3 w3 o3 b3;have dx:=ae o3;have bT:=ae (aK.o.trans b3);clear o3 b3;go_wp2_with fail;go_roundw
    case rel=>exact⟨k+1+1,by omega,by go_num,by rw[HT.o];exact dx.o,bT.o⟩
    case measure=>simp[intOf];omega
  ·obtain rfl:k=l.length:=by omega
   rw[YK]at HO;go_wp2_with fail;go_ret
   exact⟨⟨_,rfl,HO.o⟩,HB.o⟩
theorem aG.low{W:World}{B B':Nat}{v:Value}{bs:List Nat}(h:aG W B' v bs)(hb:B<=B'):aG W B v bs:=by
 obtain⟨h1,h2⟩:=h;refine⟨h1,?_⟩;rcases h2 with h | ⟨g,cap,cur,e1,e2,e3⟩
 ·exact Or.inl h
 ·exact Or.inr ⟨g,cap,cur,e1,YG hb e2,e3⟩
theorem sC{w:World}{vu v:Value}{u l:List Int}(hu:Sv w vu (aH u))(hs:Sv w v (aH l))(hl:l.length<=256)(Kw:u.length<=256)(hr:cY u)(hm:∀ x∈l,x∈u) :
  Calls Tryz.prog 246 #[vu,v] w fun e w'=>(∃ v',e=.returned v'/\em w' w.heap.size v' (l.map (pl u)))/\Below w.heap.size w w':=by
 obtain⟨i0,hi,bN,hz1',bh⟩:=YW qk;have HU:=ae hu;have HS:=ae hs;have HR:=ae hr;have HM:=ae hm;obtain⟨a,cap,rfl,aV,bw⟩:=hs.form;clear hs hu aV bw hr hm;obtain⟨D,hD⟩:∃ D,l.map (pl u)=D:=⟨_,rfl⟩;have hDl:D.length=l.length:=by rw[← hD,YD]
 have HG:jaH (∀ k (h:k<l.length),D[k]?=some (pl u l[k])):=ae (fun k h=>by rw[← hD];simp[h]);rw[hD];have ln:=ae hDl;clear hD hDl;go_enter Tryz.func246,Tryz.ntmps246
 go_wp2_with (first | (refine ZJ _ rfl _ _ 142 rfl w.heap.size 92 i0 (.int .u64 0) 1 Tryz.underlying142 hi bN hz1' .i64 .i64 _ _ l.length rfl rfl ?m1 ?m2 ?m3 ?m4 ?m5 ?_))
 case m1=>rfl
 case m2=>rfl
 case m3=>rw[bh];omega
 case m4=>unfold maxLen;omega
 case m5=>omega
 intro w4 fC gH;have bm:Below w.heap.size w w4:=(Yz _ _).grown gH (YA _) (fun k hk=>by cases hk)
 have ho4':w4.ownsRow w.heap.size 92 1 (.slice (some ⟨w.heap.size,0,none⟩) l.length l.length) l.length (az .u64 (fill D 0)):=by
  rw[mv,ln.o,← iV];simpa using fC
 have fU:=ae ho4';have cA:=ae bm;clear fC gH bm ho4';go_wp2_with fail;go_loopw [15] (fun i wr=>∃ k:Nat,i=.int .i64 (k:Int)/\k<=l.length/\wr.ownsRow w.heap.size 92 1 (.slice (some ⟨w.heap.size,0,none⟩) l.length l.length) l.length (az .u64 (fill D k))/\Below w.heap.size w wr) (fun i _=>l.length-(intOf i).toNat)
 case atStart=>exact⟨0,rfl,by omega,fU.o,cA.o⟩
 case round =>
  obtain⟨k,rfl,hk,how,ao⟩:=hrel;have HB:=ae ao;have HO:=ae how;have bM:=ao.size;clear ao how;by_cases ar:k<l.length
  ·have hkD:k<D.length:=by rw[ln.o];exact ar
   have hval:D[k]=pl u l[k]:=by
    have:=HG.o k ar;rw[List.getElem?_eq_getElem hkD]at this;exact Option.some.inj this
   obtain⟨b,off,rfl,hb,ek⟩:=(HS.o.kept HB.o).at ar;have hmem:=HM.o l[k] (YF ar);have hSr:=Dp (HU.o.kept HB.o) (List.length_pos_of_mem hmem) Kw HR.o l[k];rw[wM HR.o hmem,← hval]at hSr;have HSr:=ae hSr;have hplt:=(xY hmem).1;rw[← hval]at hplt;have ja:k<(fill D k).length:=by rw[jT (by omega)];exact hkD
   have uV:=ae (oS hkD);clear hSr hval hmem;generalize l[k]=x at *;generalize (fill D k)[k]=y at *;generalize D[k]=z at *;go_wp2_with fail;refine HSr.o.mono ?_;rintro e w5 ⟨⟨r,rfl⟩,bv⟩;have eo:=bP HO.o bv;have aJ:=ae (HB.o.trans (bv.mono bM));have Ca:=(eo.cellAt k (by omega)).trans (bG ja);have Cb:=eo.frozenAt k;have hST:=eo.stored k (.int .u64 (z:Int));rw[kp,uV.o]at hST;have co:=ae hST;have Qf:=(eo.lt w.heap.size rfl).2;clear hST bv eo;go_wp2_with fail;go_roundw
   case rel=>exact⟨k+1,by go_num,by omega,co.o.1,cH aJ.o (YA _) _⟩
   case measure=>simp[intOf];omega
  ·obtain rfl:k=l.length:=by omega
   have e:fill D l.length=D:=by
    have:=oR D;rwa[ln.o]at this
   have HO':jaH (em wr w.heap.size (.slice (some ⟨w.heap.size,0,none⟩) l.length l.length) D):=by
    show em _ _ _ _
    have:=HO.o;rw[e]at this;unfold em;rw[ln.o];exact this
   clear HO e;go_wp2_with fail;go_ret
   exact⟨⟨_,rfl,HO'.o⟩,HB.o⟩
theorem aG.len{W:World}{B:Nat}{v:Value}{l:List Nat}(h:aG W B v l):∃ a cap,v=.slice a l.length cap:=yf h
theorem bU.len{W:World}{B:Nat}{v:Value}{l:List Int}(h:bU W B v l):∃ a cap,v=.slice a l.length cap:=yf h
theorem em.len{W:World}{B:Nat}{v:Value}{l:List Nat}(h:em W B v l):∃ a cap,v=.slice a l.length cap:=yf h
theorem Dr{l:List Int}(hl:l.length<=256):∀ x∈places l,x<18446744073709551616:=by
 intro x hx;have:=mj x hx;have:=hZ l;omega
theorem Hw{l:List Int}(hl:l.length<=256):sw l=uv (dZ l).length++je (dZ l)++aY (places l) (cL ((dZ l).length-1):Int):=by
 unfold sw;rw[YR];rcases Zw l.length with h0 | h0
 ·obtain rfl:l=[]:=YU h0
  rfl
 ·rw[wz h0]
theorem rG{p:List Nat}{x:Int}(hl:p.length<=256):(aY p x).length<=2048:=by
 unfold aY;split
 ·next h =>
  unfold can at h;simp only[Zu]at h;rw[cX];have:p.length*x.toNat<=256*64:=Nat.mul_le_mul hl (by omega);unfold by8;omega
 ·simp
theorem na{w:World}{v:Value}{l:List Int}(hs:Sv w v (aH l))(hl:l.length<=256)(hi:Is l) :
  Calls Tryz.prog 229 #[v] w (dJ w (sw l)):=by
 have HI:=ae (oJ hi);have HS:=ae hs;have HC:=ae (Do hs hl);have HF:=ae (Hw hl);have HUR:=ae (hO l);have HSU:=ae (qn (oJ hi)).1;have HCS:=ae (Ag l);have Qk:jaH (∀ x∈l,x∈dZ l):=fun x hx=>gg.2 hx
 have HP64:=ae (Dr hl);have zh:jaH (l.map (pl (dZ l))=places l):=rfl;have mO:=kb l;have Kw:=hZ l;have et:=kT l;have hps:=rG (p:=places l) (x:=(cL ((dZ l).length-1):Int)) (by omega);obtain⟨a,cap,rfl,aV,bw⟩:=hs.form;clear hs hi aV bw;generalize places l=P at *;generalize dZ l=u at *;go_enter Tryz.func229,Tryz.ntmps229
 go_wp2_with fail;refine HC.o.mono ?_;rintro e w1 ⟨⟨v1,rfl,dI⟩,aA⟩;have fK:=ae dI;have aN:=ae aA;have cG:=aA.size;clear dI aA;go_wp2_with fail;refine(My fK.o hl cG).mono ?_;rintro e w2 ⟨rfl,ex,ay⟩;have ec:=ae ex;have aK:=ae (aN.o.trans ay);have bh:=aK.o.size;clear ex ay;go_wp2_with fail;refine(Af ec.o (by omega) bh).mono ?_;rintro e w3 ⟨⟨v3,rfl,eR⟩,aO⟩;rw[HCS.o]at eR;have dx:=ae eR;have bT:=ae (aK.o.trans aO);have jE:=bT.o.size;obtain⟨a3,c3,rfl⟩:=eR.len;clear eR aO;go_wp2_with fail;refine(cU u.length (by omega) _).mono ?_;rintro e w4 ⟨⟨v4,rfl,fC⟩,bm⟩;have fU:=ae fC;have cA:=ae bm;have Kx:=bm.size;clear fC bm;go_wp2_with fail;refine(vk (dx.o.sv.kept cA.o) (by omega) HI.o HUR.o).mono ?_;rintro e w5 ⟨⟨v5,rfl,eo⟩,bv⟩;have cQ:=ae eo;have HO45:=ae (fU.o.kept bv);have aJ:=ae (cA.o.trans (bv.mono Kx));have zi:=bv.size;clear eo bv;have sO:=cC (n:=u.length) (by omega);have hsu:=HSU.o;go_wp2_with (first | (at_builtin;refine aB rfl _ _ rfl w3.heap.size _ _ (uv u.length) (je u) rfl HO45.o rfl cQ.o.sv ?c1 ?c2 ?_))
 case c1=>omega
 case c2=>omega
 intro v6 w6 o6 b6;have oe:=ae o6;have jA:=ae (aJ.o.trans b6);have Fi:=jA.o.size;clear o6 b6;go_wp2_with fail;refine(sC (dx.o.sv.kept jA.o) (HS.o.kept (bT.o.trans (jA.o.mono jE))) hl (by omega) HUR.o Qk.o).mono ?_;rintro e w7 ⟨⟨v7,rfl,TM⟩,jK⟩;rw[zh.o]at TM;have qY:=ae TM;have WG:=ae (oe.o.kept jK);have pT:=ae (jA.o.trans (jK.mono Fi));have hz7:=jK.size;clear TM jK;go_wp2_with fail;refine(lL u.length (by omega) _).mono ?_;rintro e w8 ⟨rfl,lm⟩;have HO78:=ae (qY.o.kept lm);have HO68:=ae (WG.o.kept lm);have uL:=ae (pT.o.trans (lm.mono (by omega)));have hz8:=lm.size;clear lm;go_wp2_with fail;refine(wP HO78.o.sv.sx HP64.o _).mono ?_;rintro e w9 ⟨⟨v9,rfl,TN⟩,sR⟩;have HO9:=ae TN;have HO69:=ae (HO68.o.kept sR);have KA:=ae (uL.o.trans (sR.mono (by omega)));have hz9:=sR.size;clear TN sR;go_wp2_with (first | (at_builtin;refine aB rfl _ _ rfl w3.heap.size _ _ (uv u.length++je u) _ rfl HO69.o rfl HO9.o.sv ?c3 ?c4 ?_))
 case c3=>simp;omega
 case c4=>omega
 intro vA wA oA bA;have Lf:=ae oA;have jB:=ae (bT.o.trans ((KA.o.trans bA).mono jE));clear oA bA;go_wp2_with fail;go_ret
 refine⟨⟨_,rfl,?_⟩,jB.o⟩;rw[HF.o];have:=Lf.o.low jE;simpa using this
theorem Aj{l:List Int}(h:0<l.length):mK l=wv (iC l)++uv (wd (dD l))++aY (dD l) (wd (dD l):Int):=by
 unfold mK;rw[Yx (by omega),YR]
theorem sD{w:World}{v:Value}(hs:Sv w v (aH [])):Calls Tryz.prog 230 #[v] w (dJ w (mK [])):=by
 obtain⟨a,cap,rfl,aV,bw⟩:=hs.form;clear hs aV bw;go_enter Tryz.func230,Tryz.ntmps230
 go_wp2_with fail;go_ret
 exact⟨⟨_,rfl,aG.nil _ _⟩,Yz _ _⟩
theorem sE{w:World}{v:Value}{l:List Int}(hs:Sv w v (aH l))(hl:l.length<=256)(hi:Is l)(hp:0<l.length) :
  Calls Tryz.prog 230 #[v] w (dJ w (mK l)):=by
 obtain⟨i0,qd,bN,hz1',bh⟩:=YW qk;have HS:=ae hs;have HI:=ae hi;have HMin:=ae (Sj hs hp hl);have HML:=ae (Ah hp);have HE:=ae (Aj hp);have yX:=ae (hi _ (iR hp));have uT:=ae (oK (l:=l));have Rl:=ae (oL hi);have sO:=gL (hi _ (iR hp));have TH:=LV (oL hi);have hps:=rG (p:=dD l) (x:=(wd (dD l):Int)) (by rw[iM];omega);have hDl:=iM l;have HG:jaH (∀ k (h:k<l.length),(dD l)[k]?=some (l[k]-iC l).toNat):=ae (fun k h=>by simp[dD,h]);obtain⟨a,cap,rfl,aV,bw⟩:=hs.form;clear hs hi aV bw;rw[HML.o]at HMin;generalize dD l=D at *;generalize iC l=lo at *;have hlen0:((l.length:Int)==0)=false:=YN.2 (by omega);go_enter Tryz.func230,Tryz.ntmps230
 go_wp2_with fail;refine HMin.o.mono ?_;rintro e w1 ⟨rfl,rfl⟩;go_wp2_with (first | (refine ZJ _ rfl _ _ 142 rfl w1.heap.size 92 i0 (.int .u64 0) 1 Tryz.underlying142 qd bN hz1' .i64 .i64 _ _ l.length rfl rfl ?m1 ?m2 ?m3 ?m4 ?m5 ?_))
 case m1=>rfl
 case m2=>rfl
 case m3=>rw[bh];omega
 case m4=>unfold maxLen;omega
 case m5=>omega
 intro w4 fC gH;have bm:Below w1.heap.size w1 w4:=(Yz _ _).grown gH (YA _) (fun k hk=>by cases hk)
 have ho4':w4.ownsRow w1.heap.size 92 1 (.slice (some ⟨w1.heap.size,0,none⟩) l.length l.length) l.length (az .u64 (fill D 0)):=by
  rw[mv,hDl,← iV];simpa using fC
 have fU:=ae ho4';have cA:=ae bm;have ln:=ae hDl;clear fC gH bm ho4' hDl;go_wp2_with fail;go_loopw [19] (fun i wr=>∃ k:Nat,i=.int .i64 (k:Int)/\k<=l.length/\wr.ownsRow w1.heap.size 92 1 (.slice (some ⟨w1.heap.size,0,none⟩) l.length l.length) l.length (az .u64 (fill D k))/\Below w1.heap.size w1 wr) (fun i _=>l.length-(intOf i).toNat)
 case atStart=>exact⟨0,rfl,by omega,fU.o,cA.o⟩
 case round =>
  obtain⟨k,rfl,hk,how,ao⟩:=hrel;have HB:=ae ao;have HO:=ae how;have bM:=ao.size;clear ao how;by_cases ar:k<l.length
  ·have hkD:k<D.length:=by rw[ln.o];exact ar
   have hval:D[k]=(l[k]-lo).toNat:=by
    have:=HG.o k ar;rw[List.getElem?_eq_getElem hkD]at this;exact Option.some.inj this
   obtain⟨b,off,rfl,hb,ek⟩:=(HS.o.kept HB.o).at ar;have hd:=fun W=>lK (w:=W) yX.o (HI.o.get ar) (uT.o _ (YF ar))
   rw[← hval]at hd;have HD:=ae hd;have ja:k<(fill D k).length:=by rw[jT (by omega)];exact hkD
   have Ca:=(HO.o.cellAt k (by omega)).trans (bG ja);have Cb:=HO.o.frozenAt k;have hST:=HO.o.stored k (.int .u64 ((D[k]:Nat):Int));rw[kp,oS hkD]at hST;have co:=ae hST;have Qf:=(HO.o.lt w1.heap.size rfl).2;clear hd hval hST;generalize l[k]=x at *;generalize (fill D k)[k]=y at *;generalize D[k]=z at *;go_wp2_with fail;refine(HD.o _).mono ?_;rintro e w5 ⟨rfl,rfl⟩;go_wp2_with fail;go_roundw
   case rel=>exact⟨k+1,by go_num,by omega,co.o.1,cH HB.o (YA _) _⟩
   case measure=>simp[intOf];omega
  ·obtain rfl:k=l.length:=by omega
   have e:fill D l.length=D:=by
    have:=oR D;rwa[ln.o]at this
   have HO':jaH (em wr w1.heap.size (.slice (some ⟨w1.heap.size,0,none⟩) l.length l.length) D):=by
    show em _ _ _ _
    have:=HO.o;rw[e]at this;unfold em;rw[ln.o];exact this
   have HWd:=ae (qu HO'.o.sv.sx Rl.o);clear HO e;generalize wd D=wdt at *;go_wp2_with fail;refine HWd.o.mono ?_;rintro e w5 ⟨rfl,rfl⟩;go_wp2_with fail;refine(fQ yX.o _).mono ?_;rintro e w6 ⟨⟨v6,rfl,xw⟩,dP⟩;have oe:=ae xw;have jA:=ae dP;have Fi:=dP.size;clear xw dP;go_wp2_with fail;refine(cU wdt (by omega) _).mono ?_;rintro e w7 ⟨⟨v7,rfl,TM⟩,jK⟩;have qY:=ae TM;have WG:=ae (oe.o.kept jK);have pT:=ae (jA.o.trans (jK.mono Fi));have hz7:=jK.size;have h102:=cC (n:=wdt) (by omega);clear TM jK;go_wp2_with (first | (at_builtin;refine aB rfl _ _ rfl w5.heap.size _ _ (wv lo) (uv wdt) rfl WG.o rfl qY.o.sv ?c1 ?c2 ?_))
   case c1=>omega
   case c2=>omega
   intro v8 w8 o8 b8;have HO8:=ae o8;have uL:=ae (pT.o.trans b8);have hz8:=uL.o.size;clear o8 b8;have HOD:=ae (HO'.o.kept uL.o);go_wp2_with fail;refine(wP HOD.o.sv.sx Rl.o _).mono ?_;rintro e w9 ⟨⟨v9,rfl,TN⟩,sR⟩;have HO9:=ae TN;have HO89:=ae (HO8.o.kept sR);have KA:=ae (uL.o.trans (sR.mono hz8));have hz9:=sR.size;clear TN sR;go_wp2_with (first | (at_builtin;refine aB rfl _ _ rfl w5.heap.size _ _ (wv lo++uv wdt) _ rfl HO89.o rfl HO9.o.sv ?c3 ?c4 ?_))
   case c3=>simp;omega
   case c4=>omega
   intro vA wA oA bA;have Lf:=ae oA;have jB:=ae (HB.o.trans ((KA.o.trans bA).mono bM));clear oA bA;go_wp2_with fail;go_ret
   refine⟨⟨_,rfl,?_⟩,jB.o⟩;rw[HE.o];have:=Lf.o.low bM;simpa using this
theorem lM{w:World}{v:Value}{l:List Int}(hs:Sv w v (aH l))(hl:l.length<=256)(hi:Is l):Calls Tryz.prog 230 #[v] w (dJ w (mK l)):=by
 rcases Zw l.length with h0 | h0
 ·obtain rfl:l=[]:=YU h0
  exact sD hs
 ·exact sE hs hl hi h0
theorem eL(w:World):Calls Tryz.prog 200 #[] w fun e w'=>e=.returned (.agg #[.func (.func 226) #[] #[],.func (.func 227) #[] #[],.func (.func 228) #[] #[],.func (.func 229) #[] #[],.func (.func 230) #[] #[]])/\Below w.heap.size w w':=by
 go_enter Tryz.func200,Tryz.ntmps200
 go_wp2_with fail;exact bodyPost_ret (v:=.agg #[.func (.func 226) #[] #[],.func (.func 227) #[] #[],.func (.func 228) #[] #[],.func (.func 229) #[] #[],.func (.func 230) #[] #[]]) (by simp[results,Tryz.results200,go_sem]) rfl ⟨rfl,(Yz _ _).alloc (YA _) _⟩
def Sk(c:Nat)(l:List Int):List Nat:=if c<=4/\l.length<=256 then jf c l else []
theorem ME{w:World}{v:Value}{l:List Int}(hs:Sv w v (aH l))(hl:l.length<=256)(hi:Is l) :
  Calls Tryz.prog 319 #[.int .u8 0,v] w fun e w'=>(∃ v',e=.returned (.tuple #[v',.bool true])/\aG w' w.heap.size v' (gd l))/\Below w.heap.size w w':=by
 have HS:=ae hs;have HI:=ae hi;obtain⟨a,cap,rfl,aV,bw⟩:=hs.form;have Ct:¬ (l.length:Int) > 256:=by omega
 clear hs aV bw hi;go_enter Tryz.func319,Tryz.ntmps319
 go_wp2_with fail;refine(eL _).mono ?_;rintro e w1 ⟨rfl,aA⟩;have aN:=ae aA;have cG:=aA.size;clear aA;go_wp2_with fail;have aK:=ae (aN.o.alloc cG (.cells #[.func (.func 226) #[] #[],.func (.func 227) #[] #[],.func (.func 228) #[] #[],.func (.func 229) #[] #[],.func (.func 230) #[] #[]] 246));have bh:=aK.o.size;refine(rC (HS.o.kept aK.o) hl HI.o).mono ?_;rintro e w3 ⟨⟨v3,rfl,eR⟩,aO⟩;have dx:=ae (eR.low bh);have bT:=ae (aK.o.trans (aO.mono bh));clear eR aO;go_wp2_with fail;go_ret2
 exact⟨⟨_,rfl,dx.o⟩,bT.o⟩
theorem MF{w:World}{v:Value}{l:List Int}(hs:Sv w v (aH l))(hl:l.length<=256)(hi:Is l) :
  Calls Tryz.prog 319 #[.int .u8 1,v] w fun e w'=>(∃ v',e=.returned (.tuple #[v',.bool true])/\aG w' w.heap.size v' (iK 0 l))/\Below w.heap.size w w':=by
 have HS:=ae hs;have HI:=ae hi;obtain⟨a,cap,rfl,aV,bw⟩:=hs.form;have Ct:¬ (l.length:Int) > 256:=by omega
 clear hs aV bw hi;go_enter Tryz.func319,Tryz.ntmps319
 go_wp2_with fail;refine(eL _).mono ?_;rintro e w1 ⟨rfl,aA⟩;have aN:=ae aA;have cG:=aA.size;clear aA;go_wp2_with fail;have aK:=ae (aN.o.alloc cG (.cells #[.func (.func 226) #[] #[],.func (.func 227) #[] #[],.func (.func 228) #[] #[],.func (.func 229) #[] #[],.func (.func 230) #[] #[]] 246));have bh:=aK.o.size;refine(oY (HS.o.kept aK.o) hl HI.o).mono ?_;rintro e w3 ⟨⟨v3,rfl,eR⟩,aO⟩;have dx:=ae (eR.low bh);have bT:=ae (aK.o.trans (aO.mono bh));clear eR aO;go_wp2_with fail;go_ret2
 exact⟨⟨_,rfl,dx.o⟩,bT.o⟩
theorem MG{w:World}{v:Value}{l:List Int}(hs:Sv w v (aH l))(hl:l.length<=256)(hi:Is l) :
  Calls Tryz.prog 319 #[.int .u8 2,v] w fun e w'=>(∃ v',e=.returned (.tuple #[v',.bool true])/\aG w' w.heap.size v' (iL l))/\Below w.heap.size w w':=by
 have HS:=ae hs;have HI:=ae hi;obtain⟨a,cap,rfl,aV,bw⟩:=hs.form;have Ct:¬ (l.length:Int) > 256:=by omega
 clear hs aV bw hi;go_enter Tryz.func319,Tryz.ntmps319
 go_wp2_with fail;refine(eL _).mono ?_;rintro e w1 ⟨rfl,aA⟩;have aN:=ae aA;have cG:=aA.size;clear aA;go_wp2_with fail;have aK:=ae (aN.o.alloc cG (.cells #[.func (.func 226) #[] #[],.func (.func 227) #[] #[],.func (.func 228) #[] #[],.func (.func 229) #[] #[],.func (.func 230) #[] #[]] 246));have bh:=aK.o.size;refine(rE (HS.o.kept aK.o) hl HI.o).mono ?_;rintro e w3 ⟨⟨v3,rfl,eR⟩,aO⟩;have dx:=ae (eR.low bh);have bT:=ae (aK.o.trans (aO.mono bh));clear eR aO;go_wp2_with fail;go_ret2
 exact⟨⟨_,rfl,dx.o⟩,bT.o⟩
theorem MH{w:World}{v:Value}{l:List Int}(hs:Sv w v (aH l))(hl:l.length<=256)(hi:Is l) :
  Calls Tryz.prog 319 #[.int .u8 3,v] w fun e w'=>(∃ v',e=.returned (.tuple #[v',.bool true])/\aG w' w.heap.size v' (sw l))/\Below w.heap.size w w':=by
 have HS:=ae hs;have HI:=ae hi;obtain⟨a,cap,rfl,aV,bw⟩:=hs.form;have Ct:¬ (l.length:Int) > 256:=by omega
 clear hs aV bw hi;go_enter Tryz.func319,Tryz.ntmps319
 go_wp2_with fail;refine(eL _).mono ?_;rintro e w1 ⟨rfl,aA⟩;have aN:=ae aA;have cG:=aA.size;clear aA;go_wp2_with fail;have aK:=ae (aN.o.alloc cG (.cells #[.func (.func 226) #[] #[],.func (.func 227) #[] #[],.func (.func 228) #[] #[],.func (.func 229) #[] #[],.func (.func 230) #[] #[]] 246));have bh:=aK.o.size;refine(na (HS.o.kept aK.o) hl HI.o).mono ?_;rintro e w3 ⟨⟨v3,rfl,eR⟩,aO⟩;have dx:=ae (eR.low bh);have bT:=ae (aK.o.trans (aO.mono bh));clear eR aO;go_wp2_with fail;go_ret2
 exact⟨⟨_,rfl,dx.o⟩,bT.o⟩
theorem MI{w:World}{v:Value}{l:List Int}(hs:Sv w v (aH l))(hl:l.length<=256)(hi:Is l) :
  Calls Tryz.prog 319 #[.int .u8 4,v] w fun e w'=>(∃ v',e=.returned (.tuple #[v',.bool true])/\aG w' w.heap.size v' (mK l))/\Below w.heap.size w w':=by
 have HS:=ae hs;have HI:=ae hi;obtain⟨a,cap,rfl,aV,bw⟩:=hs.form;have Ct:¬ (l.length:Int) > 256:=by omega
 clear hs aV bw hi;go_enter Tryz.func319,Tryz.ntmps319
 go_wp2_with fail;refine(eL _).mono ?_;rintro e w1 ⟨rfl,aA⟩;have aN:=ae aA;have cG:=aA.size;clear aA;go_wp2_with fail;have aK:=ae (aN.o.alloc cG (.cells #[.func (.func 226) #[] #[],.func (.func 227) #[] #[],.func (.func 228) #[] #[],.func (.func 229) #[] #[],.func (.func 230) #[] #[]] 246));have bh:=aK.o.size;refine(lM (HS.o.kept aK.o) hl HI.o).mono ?_;rintro e w3 ⟨⟨v3,rfl,eR⟩,aO⟩;have dx:=ae (eR.low bh);have bT:=ae (aK.o.trans (aO.mono bh));clear eR aO;go_wp2_with fail;go_ret2
 exact⟨⟨_,rfl,dx.o⟩,bT.o⟩
theorem Hx{w:World}{v:Value}{l:List Int}(hs:Sv w v (aH l))(c:Nat)(hc:c<256)(hno:¬ (c<=4/\l.length<=256)) :
  Calls Tryz.prog 319 #[.int .u8 (c:Int),v] w fun e w'=>(∃ v',e=.returned (.tuple #[v',.bool false])/\aG w' w.heap.size v' [])/\Below w.heap.size w w':=by
 obtain⟨a,cap,rfl,aV,bw⟩:=hs.form;have hm:l.length<=9223372036854775807:=by unfold maxLen at bw;omega
 clear hs aV bw;by_cases h5:(c:Int)>=5
 ·go_enter Tryz.func319,Tryz.ntmps319
  go_wp2_with fail;go_ret2
  exact⟨⟨_,rfl,aG.nil _ _⟩,Yz _ _⟩
 ·have Ct:(l.length:Int) > 256:=by omega
  go_enter Tryz.func319,Tryz.ntmps319
  go_wp2_with fail;go_ret2
  exact⟨⟨_,rfl,aG.nil _ _⟩,Yz _ _⟩
theorem Ds{w:World}{v:Value}{l:List Int}(hs:Sv w v (aH l))(hi:Is l)(c:Nat)(hc:c<256) :
  Calls Tryz.prog 319 #[.int .u8 (c:Int),v] w fun e w'=>(∃ v',e=.returned (.tuple #[v',.bool (decide (c<=4/\l.length<=256))])/\aG w' w.heap.size v' (Sk c l))/\Below w.heap.size w w':=by
 by_cases h:c<=4/\l.length<=256
 ·rw[YT h]
  unfold Sk;rw[Yy h];obtain⟨h4,hl⟩:=h;match c,h4 with
  | 0,_=>exact ME hs hl hi
  | 1,_=>exact MF hs hl hi
  | 2,_=>exact MG hs hl hi
  | 3,_=>exact MH hs hl hi
  | 4,_=>exact MI hs hl hi
 ·rw[YO h]
  unfold Sk;rw[Yx h];exact Hx hs c hc h
end Go.Proofs.YtpljdjmpamjkhaaGreatDoor
