import Derived.Test.YtpljdjmpamjkhaaGreatDoorYak
import Derived.Laws.EntriesVeiled
set_option linter.unusedVariables false
set_option linter.unusedSimpArgs false
set_option maxRecDepth 100000
set_option maxHeartbeats 2000000
namespace Go.Proofs.YtpljdjmpamjkhaaGreatDoor
open Go.RowKit Go.Lib
def ahd(l:List Int)(k:Nat):Int:=if k=0 then 0 else l.getD (k-1) 0
theorem CO{l:List Int}{k:Nat}(h:k<l.length):ahd l (k+1)=l[k]:=by
 unfold ahd;simp[List.getD_eq_getElem?_getD,h]
theorem ti:∀(a:List Int) (last x:Int),iC last (a++[x])=iC last a++wv (w64 (x-(a.getLast?.getD last)))
 | [],last,x=>by simp[iC]
 | y::t,last,x=>by
  rw[jaz,iC,ti t y x,iC,Z4];cases t with
  | nil=>rfl
  | cons z s=>rw[show (y::z::s).getLast?=(z::s).getLast? from by simp[List.getLast?_cons_cons]];simp[List.getLast?_eq_some_getLast]
theorem Pb{l:List Int}{k:Nat}(h:k<=l.length):(l.take k).getLast?.getD 0=ahd l k:=by
 unfold ahd;cases k with
 | zero=>simp
 | succ k =>
  rw[if_neg (by omega),List.getLast?_take,List.getD_eq_getElem?_getD];simp[show k<l.length by omega]
theorem yQ{l:List Int}{k:Nat}(h:k<l.length):iC 0 (l.take (k+1))=iC 0 (l.take k)++wv (w64 (l[k]-ahd l k)):=by
 rw[Z5 h,ti,Pb (by omega)]
theorem qE(x:Int):IntKind.i64.wrap x=w64 x:=by rw[jam];unfold w64;omega
theorem qF{w:World}{v:Value}{l:List Int}(hs:Sv w v (aJ l))(hl:l.length<=256)(hi:Is l) :
  Calls Tryz.prog 227 #[v] w (du w (iC 0 l)):=by
 have HI:=ae hi;have HS:=ae hs;obtain⟨a,cap,rfl,aX,bw⟩:=hs.form;clear hs hi aX bw;go_enter Tryz.func227,Tryz.ntmps227
 go_wp2_with fail;go_loopw [3,4,9] (fun b ah i wr=>∃ k:Nat,k<=l.length/\i=.int .i64 (k:Int)/\ah=.int .i64 (ahd l k)/\aC wr w.heap.size b (iC 0 (l.take k))/\Below w.heap.size w wr) (fun _ _ i _=>l.length-(intOf i).toNat)
 case atStart=>exact⟨0,by omega,rfl,rfl,aC.nil _ _,ZQ _ _⟩
 case round =>
  obtain⟨k,hk,rfl,rfl,az,ay⟩:=hrel;have HO:=ae az;have HB:=ae ay;have bO:=ay.size;clear az ay;by_cases aB:k<l.length
  ·obtain⟨b,off,rfl,hb,dP⟩:=(HS.out.kept HB.out).at aB
   have HX:=ae (i9 (l[k]-ahd l k));have Hj:=qE (l[k]-ahd l k);have HT:=ae (yQ aB);have HA:=ae (CO aB);have jq:=(nT (l:=l.take k) (last:=0)).1;rw[ZX]at jq;have Ep:=fd (i9 (l[k]-ahd l k));generalize l[k]=x at *;generalize ahd l k=y at *;generalize iC 0 (l.take k)=acc at *;generalize w64 (x-y)=d at *;go_wp2_with fail;try rw[Hj]
   refine(gU HX.out _).mono ?_;rintro e w2 ⟨⟨v2,rfl,cx⟩,aD⟩;have dr:=ae cx;have HOk:=ae (HO.out.kept aD);have aN:=ae (HB.out.trans (aD.mono bO));have bm:=aD.size;clear cx aD;go_wp2_with (first | (at_builtin;refine ar rfl _ _ rfl w.heap.size _ _ acc (wv d) rfl HOk.out rfl dr.out.sv ?c1 ?c2 ?_))
   case c1=>omega
   case c2=>omega
   intro v3 w3 o3 b3;have cX:=ae o3;have bM:=ae (aN.out.trans b3);clear o3 b3;go_wp2_with fail;go_roundw
   case rel=>exact⟨k+1,by omega,by go_num,by rw[HA.out],by rw[HT.out];exact cX.out,bM.out⟩
   case measure=>simp[intOf];omega
  ·obtain rfl:k=l.length:=by omega
   rw[ZY]at HO;go_wp2_with fail;go_ret
   exact⟨⟨_,rfl,HO.out⟩,HB.out⟩
def iD(x:Int):List Int->Nat
 | []=>0
 | y::t=>if y=x then iD x t+1 else 0
theorem JD(x:Int):∀ l,iD x l<=l.length
 | []=>by simp[iD]
 | y::t=>by
  have:=JD x t;unfold iD;split<;>simp<;>omega
theorem yR{x:Int}:∀{l:List Int} {k:Nat},(∀ j (h:j<k) (hl:j<l.length),l[j]=x)->(h:k<l.length)->l[k]≠x->iD x l=k
 | y::t,0,_,_,h=>by
  unfold iD;rw[if_neg (by simpa using h)]
 | y::t,k+1,ha,hk,h=>by
  have h0:=ha 0 (by omega) (by simp);unfold iD;rw[if_pos (by simpa using h0),yR (l:=t) (k:=k) (fun j hj hl=>by have:=ha (j+1) (by omega) (by simpa using hl);simpa using this) (by simpa using hk) (by simpa using h)]
theorem CQ{x:Int}:∀{l:List Int},(∀ j (h:j<l.length),l[j]=x)->iD x l=l.length
 | [],_=>rfl
 | y::t,ha=>by
  have h0:=ha 0 (by simp);unfold iD;rw[if_pos (by simpa using h0),CQ (l:=t) (fun j hj=>by have:=ha (j+1) (by simpa using hj);simpa using this)];simp
theorem yS(x:Int):∀(t:List Int) (c:Nat),fC x c t=wv x++uv (c+iD x t)++ik (t.drop (iD x t))
 | [],c=>by simp[fC,iD,ik]
 | y::t,c=>by
  unfold fC iD;split
  ·next h =>
   rw[yS x t (c+1)];rw[show c+1+iD x t=c+(iD x t+1) by omega,List.drop_succ_cons]
  ·simp[ik]
theorem Pc{l:List Int}(h:0<l.length):ik l=wv l[0]++uv (iD l[0] l)++ik (l.drop (iD l[0] l)):=by
 cases l with
 | nil=>simp at h
 | cons x t =>
  show fC x 1 t=wv x++uv (iD x (x::t))++ik ((x::t).drop (iD x (x::t)))
  rw[yS x t 1];have e:iD x (x::t)=iD x t+1:=by rw[iD,if_pos rfl]
  rw[e,List.drop_succ_cons,Nat.add_comm 1]
theorem Pd{l:List Int}(h:0<l.length):0<iD l[0] l:=by
 cases l with
 | nil=>simp at h
 | cons x t =>
  show 0<iD x (x::t)
  rw[iD,if_pos rfl];omega
theorem xJ{w:World}{v:Value}{l:List Int}(hs:Sv w v (aJ l))(hl:l.length<=256)(hp:0<l.length) :
  Calls Tryz.prog 240 #[v] w fun e w'=>e=.returned (.int .i64 (iD l[0] l:Int))/\w'=w:=by
 have HS:=ae hs;obtain⟨a,cap,rfl,aX,bw⟩:=hs.form;obtain⟨b,off,rfl,hb,oD⟩:=hs.at hp;clear hs aX bw;rw[jaC]at oD;have HE:Hid (∀ k,(∀ j (h:j<k) (hl:j<l.length),l[j]=l[0])->(h:k<l.length)->l[k]≠l[0]->iD l[0] l=k):=fun k h1 h2 h3=>yR h1 h2 h3
 have HA:=ae (CQ (x:=l[0]) (l:=l));generalize l[0]=x at *;go_enter Tryz.func240,Tryz.ntmps240
 go_wp2_with fail;go_loopw [7] (fun i wr=>wr=w/\∃ k:Nat,k<=l.length/\i=.int .i64 (k:Int)/\∀ j (h:j<k) (hl:j<l.length),l[j]=x) (fun i _=>l.length-(intOf i).toNat)
 case atStart=>exact⟨rfl,0,by omega,rfl,fun j h=>by omega⟩
 case round =>
  obtain⟨rfl,k,hk,rfl,cU⟩:=hrel;have HL:=ae cU;clear cU;by_cases aB:k<l.length
  ·obtain⟨b',off',zI,_,dP⟩:=HS.out.at aB
   cases zI
   have HX:=ae (HE.out k HL.out aB);have HY:Hid (∀ j (h:j<k+1) (hl:j<l.length),l[j]=x->l[j]=x):=fun _ _ _ h=>h
   by_cases he:(l[k]==x)=true
   ·have fO:(l[k] != x)=false:=by simpa using he
    have HN:Hid (∀ j (h:j<k+1) (hl:j<l.length),l[j]=x):=by
     intro j hj hl;rcases jae j k with h | h
     ·exact HL.out j h hl
     ·have:j=k:=by omega
      subst this;simpa using he
    clear HX;generalize l[k]=y at *;go_wp2_with fail;go_roundw
    case rel=>exact⟨trivial,k+1,by omega,by go_num,HN.out⟩
    case measure=>simp[intOf];omega
   ·have fO:(l[k] != x)=true:=by simpa using he
    have HR:=ae (HX.out (by simpa using he));clear HX;generalize l[k]=y at *;go_wp2_with fail;go_ret
    rw[HR.out];exact⟨rfl,rfl⟩
  ·obtain rfl:k=l.length:=by omega
   have HR:=ae (HA.out (fun j hj=>HL.out j hj hj));go_wp2_with fail;go_ret
   rw[HR.out];exact⟨rfl,rfl⟩
theorem Ax{W:World}{b off n cap:Nat}{xs:List Value}(h:Sv W (.slice (some ⟨b,off,none⟩) n cap) xs){k:Nat}(hk:k<=xs.length) :
  ∃ A,(if cap=k then (some ⟨b,off,none⟩:Option Addr) else some ⟨b,off+k,none⟩)=A/\Sv W (.slice A (n-k) (cap-k)) (xs.drop k):=by
 refine⟨_,rfl,?_⟩;have:=h.drop hk rfl;split at this
 ·next e=>rw[if_pos e];exact this
 ·next e=>rw[if_neg e];exact this
theorem Fy(l:List Int)(k:Nat):aJ (l.drop k)=(aJ l).drop k:=by simp[aJ,List.map_drop]
theorem Is.drop{l:List Int}(h:Is l)(k:Nat):Is (l.drop k):=fun x hx=>h x (jbc hx)
theorem yT{l:List Int}(h:Is l)(hl:l.length<=256):(ik l).length<=5120:=by
 have:=eA 2 h hl;cases l with
 | nil=>simp[ik]
 | cons x t =>
  have:=(mn (t:=t) (x:=x) (c:=1) (fun z hz=>h z (by simp[hz])) (h x (by simp)) (by simp at hl;omega)).1;simp at hl
  rw[ik];omega
theorem tj{w:World}{v:Value}{l:List Int}(hs:Sv w v (aJ l))(hl:l.length<=256)(hi:Is l) :
  Calls Tryz.prog 228 #[v] w (du w (ik l)):=by
 have HI:=ae hi;have HS:=ae hs;have jq:=yT hi hl;obtain⟨a,cap,rfl,aX,bw⟩:=hs.form;clear hs hi;go_enter Tryz.func228,Tryz.ntmps228
 go_wp2_with fail;go_loopw [0,3] (fun v b wr=>∃(m:List Int) (acc:List Nat),Sv w v (aJ m)/\m.length<=256/\Is m/\acc++ik m=ik l/\aC wr w.heap.size b acc/\Below w.heap.size w wr) (fun v _ _=>(match v with | .slice _ n _=>n | _=>0))
 case atStart=>exact⟨l,[],HS.out,hl,HI.out,rfl,aC.nil _ _,ZQ _ _⟩
 case round =>
  obtain⟨m,acc,SF,hml,him,Hb,az,ay⟩:=hrel;have SK:=ae SF;have HIM:=ae him;have HA:=ae Hb;have HO:=ae az;have HB:=ae ay;have bO:=ay.size;have bQ:=congrArg List.length Hb;rw[ZT]at bQ;obtain⟨a2,cap2,rfl,Rk,yc⟩:=SF.form;have XJ:cap2<=9223372036854775807:=by unfold maxLen at yc;omega
  clear SF him Hb az ay yc HS aX bw;by_cases hp:0<m.length
  ·have Et:=ae (SK.out.kept HB.out)
   obtain⟨b,off,rfl,hb,oD⟩:=Et.out.at hp;rw[jaC]at oD;have HX:=ae (HIM.out.get hp);have hE:=Pc hp;have UD:=ae (xJ Et.out hml hp);have ph:=JD m[0] m;have Zj:=Pd hp;have mY:=fd (HIM.out.get hp);generalize m[0]=x at *;generalize iD x m=r at *;obtain⟨A,hA,hSA⟩:=Ax SK.out (k:=r) (by rw[cm];omega);rw[← Fy]at hSA;have lr:=ae hSA;have HE:=ae hE;have hlE:=congrArg List.length hE;rw[ZT,ZT]at hlE;clear hSA hE;go_wp2_with fail;refine UD.out.mono ?_;rintro e w1 ⟨rfl,rfl⟩;go_wp2_with fail;refine(gU HX.out _).mono ?_;rintro e w2 ⟨⟨v2,rfl,cx⟩,aD⟩;have dr:=ae cx;have HOk:=ae (HO.out.kept aD);have aN:=ae (HB.out.trans (aD.mono bO));have bm:=aD.size;clear cx aD;go_wp2_with (first | (at_builtin;refine ar rfl _ _ rfl w.heap.size _ _ acc (wv x) rfl HOk.out rfl dr.out.sv ?c1 ?c2 ?_))
   case c1=>omega
   case c2=>omega
   intro v3 w3 o3 b3;have cX:=ae o3;have bM:=ae (aN.out.trans b3);have iB:=b3.size;clear o3 b3;go_wp2_with fail;refine(dG r (by omega) _).mono ?_;rintro e w4 ⟨⟨v4,rfl,tQ⟩,bv⟩;have eP:=ae tQ;have HOk4:=ae (cX.out.kept bv);have b9:=ae (bM.out.trans (bv.mono (by omega)));have He:=bv.size;clear tQ bv;go_wp2_with (first | (at_builtin;refine ar rfl _ _ rfl w.heap.size _ _ (acc++wv x) (uv r) rfl HOk4.out rfl eP.out.sv ?c1 ?c2 ?_))
   case c1=>simp;omega
   case c2=>omega
   intro v5 w5 o5 b5;have dH:=ae o5;have aR:=ae (b9.out.trans b5);clear o5 b5;go_wp2_with fail;go_roundw
   case rel=>exact⟨m.drop r,acc++(wv x++uv r),lr.out,by rw[jai];omega,HIM.out.drop r,by rw[← HA.out,HE.out];simp,dH.out,aR.out⟩
   case measure=>simp;omega
  ·obtain rfl:m=[]:=jab (by omega)
   go_wp2_with fail;go_ret
   refine⟨⟨_,rfl,?_⟩,HB.out⟩;have e:=HA.out;rw[show ik []=[] from rfl,Z7]at e;rw[← e];exact HO.out
theorem Ay(a b:Int)(ha:I64 a)(hb:I64 b)(w:World):Calls Tryz.prog 249 #[.int .i64 a,.int .i64 b] w fun e w'=>e=.returned (.int .u64 ((b-a) % 18446744073709551616))/\w'=w:=by
 have HE:Hid (IntKind.u64.wrap (IntKind.u64.wrap b-IntKind.u64.wrap a)=(b-a) % 18446744073709551616):=by
  show _=_
  rw[jag,jag,jag];omega
 clear ha hb;go_enter Tryz.func249,Tryz.ntmps249
 go_wp2_with fail;go_ret
 rw[← HE.out];exact⟨rfl,rfl⟩
theorem nm{a b:Int}(ha:I64 a)(hb:I64 b)(Rl:a<=b)(w:World):Calls Tryz.prog 249 #[.int .i64 a,.int .i64 b] w fun e w'=>e=.returned (.int .u64 ((b-a).toNat:Int))/\w'=w:=by
 have:=Ay a b ha hb w;unfold I64 at ha hb;rwa[show (b-a) % 18446744073709551616=((b-a).toNat:Int) by omega]at this
theorem yU{w:World}{v:Value}{l:List Nat}(hs:Sx .u64 w v l)(kC:∀ x∈l,x<18446744073709551616)(x:Int) :
  Calls Tryz.prog 245 #[v,.int .i64 x] w (du w (be l x)):=by
 have HP:=ae (yM hs kC x);clear hs kC;go_enter Tryz.func245,Tryz.ntmps245
 go_wp2_with fail;refine HP.out.mono ?_;rintro e w1 ⟨v1,rfl,az,hb⟩;have HO:=ae az;clear az;go_wp2_with fail;go_ret
 exact⟨⟨_,rfl,HO.out⟩,hb⟩
theorem WX(n:Nat):wd [n]=cQ n:=by
 have h1:wd [n]<=cQ n:=qo.2 (fun x hx=>by
  have:x=n:=by simpa using hx
  subst this;exact eI.1 (ZR _))
 have h2:cQ n<=wd [n]:=eI.2 (qo.1 (ZR _) n (by simp));omega
theorem no(n:Nat)(hn:n<=256)(w:World):Calls Tryz.prog 247 #[.int .i64 (n:Int)] w fun e w'=>e=.returned (.int .i64 (cQ (n-1):Int))/\Below w.heap.size w w':=by
 by_cases h0:((n:Int)==0)=true
 ·have h0':n=0:=by simpa using h0
  subst h0';go_enter Tryz.func247,Tryz.ntmps247
  go_wp2_with fail;go_ret
  exact⟨rfl,ZQ _ _⟩
 ·have h0f:((n:Int)==0)=false:=by simpa using h0
  have qa:n≠0:=by simpa using h0
  obtain⟨m,rfl⟩:∃ m,n=m+1:=⟨n-1,by omega⟩
  have HW:=ae (fun w=>rY (Sx.lit (k:=.u64) w [m] 92 (by unfold maxLen;simp)) (fun x hx=>by
   have:x=m:=by simpa using hx
   omega))
  have HB:=ae (fun w:World=>(ZQ w.heap.size w).alloc (ZR _) (.cells (aE .u64 [m]).toArray 92));have he:((m+1:Nat):Int)-1=(m:Int):=by omega
  rw[WX]at HW;clear h0;go_enter Tryz.func247,Tryz.ntmps247
  go_wp2_with fail;refine(HW.out w).mono ?_;rintro e w1 ⟨rfl,rfl⟩;have aQ:=ae (HB.out w);go_wp2_with fail;go_ret
  exact⟨rfl,aQ.out⟩
theorem tk:∀(t:List Int) (last x:Int),pw last (t++[x])=pw last t++uv (x-(t.getLast?.getD last)).toNat
 | [],last,x=>by simp[pw]
 | y::t,last,x=>by
  rw[jaz,pw,tk t y x,pw,Z4];cases t with
  | nil=>rfl
  | cons z s=>rw[show (y::z::s).getLast?=(z::s).getLast? from by simp[List.getLast?_cons_cons]];simp[List.getLast?_eq_some_getLast]
theorem CR{u:List Int}(h:0<u.length):gZ (u.take 1)=gZ (u.take 0)++wv u[0]:=by
 cases u with
 | nil=>simp at h
 | cons x t=>simp[gZ,pw]
theorem yV{u:List Int}{k:Nat}(h:k+1<u.length):gZ (u.take (k+1+1))=gZ (u.take (k+1))++uv (u[k+1]-u[k]).toNat:=by
 cases u with
 | nil=>simp at h
 | cons x t =>
  have hk:k<t.length:=by simpa using h
  rw[jbn,jbn,Z5 hk,gZ,gZ,tk,Z4];congr 3
  cases k with
  | zero=>simp
  | succ k =>
   rw[List.getLast?_take];simp[show k<t.length by omega]
theorem xK{w:World}{v:Value}{l:List Int}(hs:Sv w v (aJ l))(hl:l.length<=256)(hi:Is l)(hr:dL l) :
  Calls Tryz.prog 244 #[v] w (du w (gZ l)):=by
 have HI:=ae hi;have HS:=ae hs;have HR:=ae hr;obtain⟨a,cap,rfl,aX,bw⟩:=hs.form;clear hs hi aX bw hr;go_enter Tryz.func244,Tryz.ntmps244
 go_wp2_with fail;go_loopw [3,8] (fun b i wr=>∃ k:Nat,k<=l.length/\i=.int .i64 (k:Int)/\aC wr w.heap.size b (gZ (l.take k))/\Below w.heap.size w wr) (fun _ i _=>l.length-(intOf i).toNat)
 case atStart=>exact⟨0,by omega,rfl,aC.nil _ _,ZQ _ _⟩
 case round =>
  obtain⟨k,hk,rfl,az,ay⟩:=hrel;have HO:=ae az;have HB:=ae ay;have bO:=ay.size;clear az ay;by_cases aB:k<l.length
  ·obtain⟨b,off,rfl,hb,dP⟩:=(HS.out.kept HB.out).at aB
   have HX:=ae (HI.out.get aB);have jq:=(lI (HI.out.take k)).1;rw[ZX]at jq;have Ep:=fd (HI.out.get aB);cases k with
   | zero =>
    have HT:=ae (CR aB);rw[jaC]at dP;generalize gZ (l.take 0)=acc at *;generalize l[0]=x at *;go_wp2_with fail;refine(gU HX.out _).mono ?_;rintro e w2 ⟨⟨v2,rfl,cx⟩,aD⟩;have dr:=ae cx;have HOk:=ae (HO.out.kept aD);have aN:=ae (HB.out.trans (aD.mono bO));have bm:=aD.size;clear cx aD;go_wp2_with (first | (at_builtin;refine ar rfl _ _ rfl w.heap.size _ _ acc (wv x) rfl HOk.out rfl dr.out.sv ?c1 ?c2 ?_))
    case c1=>omega
    case c2=>omega
    intro v3 w3 o3 b3;have cX:=ae o3;have bM:=ae (aN.out.trans b3);clear o3 b3;go_wp2_with fail;go_roundw
    case rel=>exact⟨1,by omega,by go_num,by rw[HT.out];exact cX.out,bM.out⟩
    case measure=>simp[intOf];omega
   | succ k =>
    obtain⟨b',off',zI,_,UE⟩:=(HS.out.kept HB.out).at (show k<l.length by omega);cases zI
    have yd:=ae (HI.out.get (show k<l.length by omega));have jC:l[k]<l[k+1]:=jbh.1 HR.out k (k+1) (by omega) aB (by omega);have HT:=ae (yV aB)
    have hd:(l[k+1]-l[k]).toNat<18446744073709551616:=by
     have h1:=HX.out;have h2:=yd.out;unfold I64 at h1 h2;omega
    have Rm:=bI hd;have HD:=ae (fun W=>nm (a:=l[k]) (b:=l[k+1]) yd.out HX.out (by omega) W);have pY:(((k+1:Nat):Int)==0)=false:=by simp;omega
    have p9:((k+1:Nat):Int)-1=(k:Int):=by omega
    have zJ:((k+1:Nat):Int)=(k:Int)+1:=by omega
    generalize l[k+1]=x at *;generalize l[k]=y at *;generalize gZ (l.take (k+1))=acc at *;generalize (x-y).toNat=d at *;have kF:Hid (d<18446744073709551616):=hd;clear hd;go_wp2_with fail;refine(HD.out _).mono ?_;rintro e w1 ⟨rfl,rfl⟩;go_wp2_with fail;refine(dG d kF.out _).mono ?_;rintro e w2 ⟨⟨v2,rfl,cx⟩,aD⟩;have dr:=ae cx;have HOk:=ae (HO.out.kept aD);have aN:=ae (HB.out.trans (aD.mono bO));have bm:=aD.size;clear cx aD;go_wp2_with (first | (at_builtin;refine ar rfl _ _ rfl w.heap.size _ _ acc (uv d) rfl HOk.out rfl dr.out.sv ?c1 ?c2 ?_))
    case c1=>omega
    case c2=>omega
    intro v3 w3 o3 b3;have cX:=ae o3;have bM:=ae (aN.out.trans b3);clear o3 b3;go_wp2_with fail;go_roundw
    case rel=>exact⟨k+1+1,by omega,by go_num,by rw[HT.out];exact cX.out,bM.out⟩
    case measure=>simp[intOf];omega
  ·obtain rfl:k=l.length:=by omega
   rw[ZY]at HO;go_wp2_with fail;go_ret
   exact⟨⟨_,rfl,HO.out⟩,HB.out⟩
theorem aC.low{W:World}{B B':Nat}{v:Value}{bs:List Nat}(h:aC W B' v bs)(hb:B<=B'):aC W B v bs:=by
 obtain⟨h1,h2⟩:=h;refine⟨h1,?_⟩;rcases h2 with h | ⟨g,cap,cur,e1,e2,e3⟩
 ·exact Or.inl h
 ·exact Or.inr ⟨g,cap,cur,e1,ZZ hb e2,e3⟩
theorem tX{w:World}{vu v:Value}{u l:List Int}(hu:Sv w vu (aJ u))(hs:Sv w v (aJ l))(hl:l.length<=256)(uj:u.length<=256)(hr:dL u)(hm:∀ x∈l,x∈u) :
  Calls Tryz.prog 246 #[vu,v] w fun e w'=>(∃ v',e=.returned v'/\dB w' w.heap.size v' (l.map (pl u)))/\Below w.heap.size w w':=by
 obtain⟨i0,hi,ce,hz1',bm⟩:=info_parts pt;have HU:=ae hu;have HS:=ae hs;have HR:=ae hr;have HM:=ae hm;obtain⟨a,cap,rfl,aX,bw⟩:=hs.form;clear hs hu aX bw hr hm;obtain⟨D,hD⟩:∃ D,l.map (pl u)=D:=⟨_,rfl⟩;have hDl:D.length=l.length:=by rw[← hD,ZU]
 have HG:Hid (∀ k (h:k<l.length),D[k]?=some (pl u l[k])):=ae (fun k h=>by rw[← hD];simp[h]);rw[hD];have kF:=ae hDl;clear hD hDl;go_enter Tryz.func246,Tryz.ntmps246
 go_wp2_with (first | (refine wpList_make_full _ rfl _ _ 142 rfl w.heap.size 92 i0 (.int .u64 0) 1 Tryz.underlying142 hi ce hz1' .i64 .i64 _ _ l.length rfl rfl ?m1 ?m2 ?m3 ?m4 ?m5 ?_))
 case m1=>rfl
 case m2=>rfl
 case m3=>rw[bm];omega
 case m4=>unfold maxLen;omega
 case m5=>omega
 intro w4 gD iL;have bv:Below w.heap.size w w4:=(ZQ _ _).grown iL (ZR _) (fun k hk=>by cases hk)
 have ho4':w4.ownsRow w.heap.size 92 1 (.slice (some ⟨w.heap.size,0,none⟩) l.length l.length) l.length (aE .u64 (fill D 0)):=by
  rw[nZ,kF.out,← jS];simpa using gD
 have eP:=ae ho4';have b9:=ae bv;clear gD iL bv ho4';go_wp2_with fail;go_loopw [15] (fun i wr=>∃ k:Nat,i=.int .i64 (k:Int)/\k<=l.length/\wr.ownsRow w.heap.size 92 1 (.slice (some ⟨w.heap.size,0,none⟩) l.length l.length) l.length (aE .u64 (fill D k))/\Below w.heap.size w wr) (fun i _=>l.length-(intOf i).toNat)
 case atStart=>exact⟨0,rfl,by omega,eP.out,b9.out⟩
 case round =>
  obtain⟨k,rfl,hk,how,ay⟩:=hrel;have HB:=ae ay;have HO:=ae how;have bO:=ay.size;clear ay how;by_cases aB:k<l.length
  ·have hkD:k<D.length:=by rw[kF.out];exact aB
   have hval:D[k]=pl u l[k]:=by
    have:=HG.out k aB;rw[List.getElem?_eq_getElem hkD]at this;exact Option.some.inj this
   obtain⟨b,off,rfl,hb,dP⟩:=(HS.out.kept HB.out).at aB;have hmem:=HM.out l[k] (ZV aB);have hSr:=Fx (HU.out.kept HB.out) (List.length_pos_of_mem hmem) uj HR.out l[k];rw[yP HR.out hmem,← hval]at hSr;have HSr:=ae hSr;have hplt:=(u5 hmem).1;rw[← hval]at hplt;have jM:k<(fill D k).length:=by rw[kN (by omega)];exact hkD
   have sV:=ae (qw hkD);clear hSr hval hmem;generalize l[k]=x at *;generalize (fill D k)[k]=y at *;generalize D[k]=z at *;go_wp2_with fail;refine HSr.out.mono ?_;rintro e w5 ⟨⟨r,rfl⟩,bq⟩;have fT:=bH HO.out bq;have aR:=ae (HB.out.trans (bq.mono bO));have Eu:=(fT.cellAt k (by omega)).trans (bR jM);have Ev:=fT.frozenAt k;have hST:=fT.stored k (.int .u64 (z:Int));rw[jY,sV.out]at hST;have cP:=ae hST;have Mk:=(fT.lt w.heap.size rfl).2;clear hST bq fT;go_wp2_with fail;go_roundw
   case rel=>exact⟨k+1,by go_num,by omega,cP.out.1,cL aR.out (ZR _) _⟩
   case measure=>simp[intOf];omega
  ·obtain rfl:k=l.length:=by omega
   have e:fill D l.length=D:=by
    have:=qv D;rwa[kF.out]at this
   have HO':Hid (dB wr w.heap.size (.slice (some ⟨w.heap.size,0,none⟩) l.length l.length) D):=by
    show dB _ _ _ _
    have:=HO.out;rw[e]at this;unfold dB;rw[kF.out];exact this
   clear HO e;go_wp2_with fail;go_ret
   exact⟨⟨_,rfl,HO'.out⟩,HB.out⟩
theorem aC.len{W:World}{B:Nat}{v:Value}{l:List Nat}(h:aC W B v l):∃ a cap,v=.slice a l.length cap:=Av h
theorem br.len{W:World}{B:Nat}{v:Value}{l:List Int}(h:br W B v l):∃ a cap,v=.slice a l.length cap:=Av h
theorem dB.len{W:World}{B:Nat}{v:Value}{l:List Nat}(h:dB W B v l):∃ a cap,v=.slice a l.length cap:=Av h
theorem vQ{l:List Int}(hl:l.length<=256):∀ x∈places l,x<18446744073709551616:=by
 intro x hx;have:=nR x hx;have:=fD l;omega
theorem KU{l:List Int}(hl:l.length<=256):py l=uv (cE l).length++gZ (cE l)++be (places l) (cQ ((cE l).length-1):Int):=by
 unfold py;rw[Z4];rcases jax l.length with h0 | h0
 ·obtain rfl:l=[]:=jab h0
  rfl
 ·rw[yB h0]
theorem kO{p:List Nat}{x:Int}(hl:p.length<=256):(be p x).length<=2048:=by
 unfold be;split
 ·next h =>
  unfold can at h;simp only[decide_eq_true_eq]at h;rw[dK];have:p.length*x.toNat<=256*64:=jbd hl (by omega);unfold by8;omega
 ·simp
theorem oS{w:World}{v:Value}{l:List Int}(hs:Sv w v (aJ l))(hl:l.length<=256)(hi:Is l) :
  Calls Tryz.prog 229 #[v] w (du w (py l)):=by
 have HI:=ae (lE hi);have HS:=ae hs;have HC:=ae (Fw hs hl);have HF:=ae (KU hl);have HUR:=ae (gN l);have HSU:=ae (lI (lE hi)).1;have Zk:=ae (CK l);have Hk:Hid (∀ x∈l,x∈cE l):=fun x hx=>gg.2 hx
 have Rn:=ae (vQ hl);have rH:Hid (l.map (pl (cE l))=places l):=rfl;have kD:=lh l;have uj:=fD l;have fo:=ms l;have XK:=kO (p:=places l) (x:=(cQ ((cE l).length-1):Int)) (by omega);obtain⟨a,cap,rfl,aX,bw⟩:=hs.form;clear hs hi aX bw;generalize places l=P at *;generalize cE l=u at *;go_enter Tryz.func229,Tryz.ntmps229
 go_wp2_with fail;refine HC.out.mono ?_;rintro e w1 ⟨⟨v1,rfl,eG⟩,aG⟩;have fA:=ae eG;have aQ:=ae aG;have cW:=aG.size;clear eG aG;go_wp2_with fail;refine(Pa fA.out hl cW).mono ?_;rintro e w2 ⟨rfl,fq,aD⟩;have dr:=ae fq;have aN:=ae (aQ.out.trans aD);have bm:=aN.out.size;clear fq aD;go_wp2_with fail;refine(CJ dr.out (by omega) bm).mono ?_;rintro e w3 ⟨⟨v3,rfl,fN⟩,aP⟩;rw[Zk.out]at fN;have cX:=ae fN;have bM:=ae (aN.out.trans aP);have iB:=bM.out.size;obtain⟨a3,c3,rfl⟩:=fN.len;clear fN aP;go_wp2_with fail;refine(dG u.length (by omega) _).mono ?_;rintro e w4 ⟨⟨v4,rfl,gD⟩,bv⟩;have eP:=ae gD;have b9:=ae bv;have He:=bv.size;clear gD bv;go_wp2_with fail;refine(xK (cX.out.sv.kept b9.out) (by omega) HI.out HUR.out).mono ?_;rintro e w5 ⟨⟨v5,rfl,fT⟩,bq⟩;have dH:=ae fT;have HO45:=ae (eP.out.kept bq);have aR:=ae (b9.out.trans (bq.mono He));have uG:=bq.size;clear fT bq;have mY:=bI (n:=u.length) (by omega);have hsu:=HSU.out;go_wp2_with (first | (at_builtin;refine ar rfl _ _ rfl w3.heap.size _ _ (uv u.length) (gZ u) rfl HO45.out rfl dH.out.sv ?c1 ?c2 ?_))
 case c1=>omega
 case c2=>omega
 intro v6 w6 o6 b6;have mU:=ae o6;have i5:=ae (aR.out.trans b6);have Ew:=i5.out.size;clear o6 b6;go_wp2_with fail;refine(tX (cX.out.sv.kept i5.out) (HS.out.kept (bM.out.trans (i5.out.mono iB))) hl (by omega) HUR.out Hk.out).mono ?_;rintro e w7 ⟨⟨v7,rfl,UF⟩,jd⟩;rw[rH.out]at UF;have iw:=ae UF;have XL:=ae (mU.out.kept jd);have ia:=ae (i5.out.trans (jd.mono Ew));have hz7:=jd.size;clear UF jd;go_wp2_with fail;refine(no u.length (by omega) _).mono ?_;rintro e w8 ⟨rfl,kA⟩;have HO78:=ae (iw.out.kept kA);have HO68:=ae (XL.out.kept kA);have p6:=ae (ia.out.trans (kA.mono (by omega)));have hz8:=kA.size;clear kA;go_wp2_with fail;refine(yU HO78.out.sv.sx Rn.out _).mono ?_;rintro e w9 ⟨⟨v9,rfl,UG⟩,pg⟩;have Ro:=ae UG;have HO69:=ae (HO68.out.kept pg);have pi:=ae (p6.out.trans (pg.mono (by omega)));have UH:=pg.size;clear UG pg;go_wp2_with (first | (at_builtin;refine ar rfl _ _ rfl w3.heap.size _ _ (uv u.length++gZ u) _ rfl HO69.out rfl Ro.out.sv ?c3 ?c4 ?_))
 case c3=>simp;omega
 case c4=>omega
 intro vA wA oA bA;have m6:=ae oA;have eW:=ae (bM.out.trans ((pi.out.trans bA).mono iB));clear oA bA;go_wp2_with fail;go_ret
 refine⟨⟨_,rfl,?_⟩,eW.out⟩;rw[HF.out];have:=m6.out.low iB;simpa using this
theorem tm{l:List Int}(h:0<l.length):lG l=wv (gO l)++uv (wd (df l))++be (df l) (wd (df l):Int):=by
 unfold lG;rw[if_neg (by omega),Z4]
theorem tY{w:World}{v:Value}(hs:Sv w v (aJ [])):Calls Tryz.prog 230 #[v] w (du w (lG [])):=by
 obtain⟨a,cap,rfl,aX,bw⟩:=hs.form;clear hs aX bw;go_enter Tryz.func230,Tryz.ntmps230
 go_wp2_with fail;go_ret
 exact⟨⟨_,rfl,aC.nil _ _⟩,ZQ _ _⟩
theorem tZ{w:World}{v:Value}{l:List Int}(hs:Sv w v (aJ l))(hl:l.length<=256)(hi:Is l)(hp:0<l.length) :
  Calls Tryz.prog 230 #[v] w (du w (lG l)):=by
 obtain⟨i0,je,ce,hz1',bm⟩:=info_parts pt;have HS:=ae hs;have HI:=ae hi;have HMin:=ae (Tv hs hp hl);have HML:=ae (CL hp);have HE:=ae (tm hp);have ry:=ae (hi _ (gP hp));have ui:=ae (nh (l:=l));have Bp:=ae (lF hi);have mY:=fd (hi _ (gP hp));have JY:=Fa (lF hi);have XK:=kO (p:=df l) (x:=(wd (df l):Int)) (by rw[fR];omega);have hDl:=fR l;have HG:Hid (∀ k (h:k<l.length),(df l)[k]?=some (l[k]-gO l).toNat):=ae (fun k h=>by simp[df,h]);obtain⟨a,cap,rfl,aX,bw⟩:=hs.form;clear hs hi aX bw;rw[HML.out]at HMin;generalize df l=D at *;generalize gO l=lo at *;have hlen0:((l.length:Int)==0)=false:=Z1.2 (by omega);go_enter Tryz.func230,Tryz.ntmps230
 go_wp2_with fail;refine HMin.out.mono ?_;rintro e w1 ⟨rfl,rfl⟩;go_wp2_with (first | (refine wpList_make_full _ rfl _ _ 142 rfl w1.heap.size 92 i0 (.int .u64 0) 1 Tryz.underlying142 je ce hz1' .i64 .i64 _ _ l.length rfl rfl ?m1 ?m2 ?m3 ?m4 ?m5 ?_))
 case m1=>rfl
 case m2=>rfl
 case m3=>rw[bm];omega
 case m4=>unfold maxLen;omega
 case m5=>omega
 intro w4 gD iL;have bv:Below w1.heap.size w1 w4:=(ZQ _ _).grown iL (ZR _) (fun k hk=>by cases hk)
 have ho4':w4.ownsRow w1.heap.size 92 1 (.slice (some ⟨w1.heap.size,0,none⟩) l.length l.length) l.length (aE .u64 (fill D 0)):=by
  rw[nZ,hDl,← jS];simpa using gD
 have eP:=ae ho4';have b9:=ae bv;have kF:=ae hDl;clear gD iL bv ho4' hDl;go_wp2_with fail;go_loopw [19] (fun i wr=>∃ k:Nat,i=.int .i64 (k:Int)/\k<=l.length/\wr.ownsRow w1.heap.size 92 1 (.slice (some ⟨w1.heap.size,0,none⟩) l.length l.length) l.length (aE .u64 (fill D k))/\Below w1.heap.size w1 wr) (fun i _=>l.length-(intOf i).toNat)
 case atStart=>exact⟨0,rfl,by omega,eP.out,b9.out⟩
 case round =>
  obtain⟨k,rfl,hk,how,ay⟩:=hrel;have HB:=ae ay;have HO:=ae how;have bO:=ay.size;clear ay how;by_cases aB:k<l.length
  ·have hkD:k<D.length:=by rw[kF.out];exact aB
   have hval:D[k]=(l[k]-lo).toNat:=by
    have:=HG.out k aB;rw[List.getElem?_eq_getElem hkD]at this;exact Option.some.inj this
   obtain⟨b,off,rfl,hb,dP⟩:=(HS.out.kept HB.out).at aB;have hd:=fun W=>nm (w:=W) ry.out (HI.out.get aB) (ui.out _ (ZV aB))
   rw[← hval]at hd;have HD:=ae hd;have jM:k<(fill D k).length:=by rw[kN (by omega)];exact hkD
   have Eu:=(HO.out.cellAt k (by omega)).trans (bR jM);have Ev:=HO.out.frozenAt k;have hST:=HO.out.stored k (.int .u64 ((D[k]:Nat):Int));rw[jY,qw hkD]at hST;have cP:=ae hST;have Mk:=(HO.out.lt w1.heap.size rfl).2;clear hd hval hST;generalize l[k]=x at *;generalize (fill D k)[k]=y at *;generalize D[k]=z at *;go_wp2_with fail;refine(HD.out _).mono ?_;rintro e w5 ⟨rfl,rfl⟩;go_wp2_with fail;go_roundw
   case rel=>exact⟨k+1,by go_num,by omega,cP.out.1,cL HB.out (ZR _) _⟩
   case measure=>simp[intOf];omega
  ·obtain rfl:k=l.length:=by omega
   have e:fill D l.length=D:=by
    have:=qv D;rwa[kF.out]at this
   have HO':Hid (dB wr w1.heap.size (.slice (some ⟨w1.heap.size,0,none⟩) l.length l.length) D):=by
    show dB _ _ _ _
    have:=HO.out;rw[e]at this;unfold dB;rw[kF.out];exact this
   have HWd:=ae (rY HO'.out.sv.sx Bp.out);clear HO e;generalize wd D=wdt at *;go_wp2_with fail;refine HWd.out.mono ?_;rintro e w5 ⟨rfl,rfl⟩;go_wp2_with fail;refine(gU ry.out _).mono ?_;rintro e w6 ⟨⟨v6,rfl,zK⟩,dN⟩;have mU:=ae zK;have i5:=ae dN;have Ew:=dN.size;clear zK dN;go_wp2_with fail;refine(dG wdt (by omega) _).mono ?_;rintro e w7 ⟨⟨v7,rfl,UF⟩,jd⟩;have iw:=ae UF;have XL:=ae (mU.out.kept jd);have ia:=ae (i5.out.trans (jd.mono Ew));have hz7:=jd.size;have h102:=bI (n:=wdt) (by omega);clear UF jd;go_wp2_with (first | (at_builtin;refine ar rfl _ _ rfl w5.heap.size _ _ (wv lo) (uv wdt) rfl XL.out rfl iw.out.sv ?c1 ?c2 ?_))
   case c1=>omega
   case c2=>omega
   intro v8 w8 o8 b8;have XM:=ae o8;have p6:=ae (ia.out.trans b8);have hz8:=p6.out.size;clear o8 b8;have HOD:=ae (HO'.out.kept p6.out);go_wp2_with fail;refine(yU HOD.out.sv.sx Bp.out _).mono ?_;rintro e w9 ⟨⟨v9,rfl,UG⟩,pg⟩;have Ro:=ae UG;have HO89:=ae (XM.out.kept pg);have pi:=ae (p6.out.trans (pg.mono hz8));have UH:=pg.size;clear UG pg;go_wp2_with (first | (at_builtin;refine ar rfl _ _ rfl w5.heap.size _ _ (wv lo++uv wdt) _ rfl HO89.out rfl Ro.out.sv ?c3 ?c4 ?_))
   case c3=>simp;omega
   case c4=>omega
   intro vA wA oA bA;have m6:=ae oA;have eW:=ae (HB.out.trans ((pi.out.trans bA).mono bO));clear oA bA;go_wp2_with fail;go_ret
   refine⟨⟨_,rfl,?_⟩,eW.out⟩;rw[HE.out];have:=m6.out.low bO;simpa using this
theorem np{w:World}{v:Value}{l:List Int}(hs:Sv w v (aJ l))(hl:l.length<=256)(hi:Is l):Calls Tryz.prog 230 #[v] w (du w (lG l)):=by
 rcases jax l.length with h0 | h0
 ·obtain rfl:l=[]:=jab h0
  exact tY hs
 ·exact tZ hs hl hi h0
theorem fS(w:World):Calls Tryz.prog 200 #[] w fun e w'=>e=.returned (.agg #[.func (.func 226) #[] #[],.func (.func 227) #[] #[],.func (.func 228) #[] #[],.func (.func 229) #[] #[],.func (.func 230) #[] #[]])/\Below w.heap.size w w':=by
 go_enter Tryz.func200,Tryz.ntmps200
 go_wp2_with fail;exact bodyPost_ret (v:=.agg #[.func (.func 226) #[] #[],.func (.func 227) #[] #[],.func (.func 228) #[] #[],.func (.func 229) #[] #[],.func (.func 230) #[] #[]]) (by simp[results,Tryz.results200,go_sem]) rfl ⟨rfl,(ZQ _ _).alloc (ZR _) _⟩
def CT(c:Nat)(l:List Int):List Nat:=if c<=4/\l.length<=256 then hO c l else []
theorem Pe{w:World}{v:Value}{l:List Int}(hs:Sv w v (aJ l))(hl:l.length<=256)(hi:Is l) :
  Calls Tryz.prog 319 #[.int .u8 0,v] w fun e w'=>(∃ v',e=.returned (.tuple #[v',.bool true])/\aC w' w.heap.size v' (ge l))/\Below w.heap.size w w':=by
 have HS:=ae hs;have HI:=ae hi;obtain⟨a,cap,rfl,aX,bw⟩:=hs.form;have uF:¬ (l.length:Int) > 256:=by omega
 clear hs aX bw hi;go_enter Tryz.func319,Tryz.ntmps319
 go_wp2_with fail;refine(fS _).mono ?_;rintro e w1 ⟨rfl,aG⟩;have aQ:=ae aG;have cW:=aG.size;clear aG;go_wp2_with fail;have aN:=ae (aQ.out.alloc cW (.cells #[.func (.func 226) #[] #[],.func (.func 227) #[] #[],.func (.func 228) #[] #[],.func (.func 229) #[] #[],.func (.func 230) #[] #[]] 246));have bm:=aN.out.size;refine(tg (HS.out.kept aN.out) hl HI.out).mono ?_;rintro e w3 ⟨⟨v3,rfl,fN⟩,aP⟩;have cX:=ae (fN.low bm);have bM:=ae (aN.out.trans (aP.mono bm));clear fN aP;go_wp2_with fail;go_ret2
 exact⟨⟨_,rfl,cX.out⟩,bM.out⟩
theorem Pf{w:World}{v:Value}{l:List Int}(hs:Sv w v (aJ l))(hl:l.length<=256)(hi:Is l) :
  Calls Tryz.prog 319 #[.int .u8 1,v] w fun e w'=>(∃ v',e=.returned (.tuple #[v',.bool true])/\aC w' w.heap.size v' (iC 0 l))/\Below w.heap.size w w':=by
 have HS:=ae hs;have HI:=ae hi;obtain⟨a,cap,rfl,aX,bw⟩:=hs.form;have uF:¬ (l.length:Int) > 256:=by omega
 clear hs aX bw hi;go_enter Tryz.func319,Tryz.ntmps319
 go_wp2_with fail;refine(fS _).mono ?_;rintro e w1 ⟨rfl,aG⟩;have aQ:=ae aG;have cW:=aG.size;clear aG;go_wp2_with fail;have aN:=ae (aQ.out.alloc cW (.cells #[.func (.func 226) #[] #[],.func (.func 227) #[] #[],.func (.func 228) #[] #[],.func (.func 229) #[] #[],.func (.func 230) #[] #[]] 246));have bm:=aN.out.size;refine(qF (HS.out.kept aN.out) hl HI.out).mono ?_;rintro e w3 ⟨⟨v3,rfl,fN⟩,aP⟩;have cX:=ae (fN.low bm);have bM:=ae (aN.out.trans (aP.mono bm));clear fN aP;go_wp2_with fail;go_ret2
 exact⟨⟨_,rfl,cX.out⟩,bM.out⟩
theorem Pg{w:World}{v:Value}{l:List Int}(hs:Sv w v (aJ l))(hl:l.length<=256)(hi:Is l) :
  Calls Tryz.prog 319 #[.int .u8 2,v] w fun e w'=>(∃ v',e=.returned (.tuple #[v',.bool true])/\aC w' w.heap.size v' (ik l))/\Below w.heap.size w w':=by
 have HS:=ae hs;have HI:=ae hi;obtain⟨a,cap,rfl,aX,bw⟩:=hs.form;have uF:¬ (l.length:Int) > 256:=by omega
 clear hs aX bw hi;go_enter Tryz.func319,Tryz.ntmps319
 go_wp2_with fail;refine(fS _).mono ?_;rintro e w1 ⟨rfl,aG⟩;have aQ:=ae aG;have cW:=aG.size;clear aG;go_wp2_with fail;have aN:=ae (aQ.out.alloc cW (.cells #[.func (.func 226) #[] #[],.func (.func 227) #[] #[],.func (.func 228) #[] #[],.func (.func 229) #[] #[],.func (.func 230) #[] #[]] 246));have bm:=aN.out.size;refine(tj (HS.out.kept aN.out) hl HI.out).mono ?_;rintro e w3 ⟨⟨v3,rfl,fN⟩,aP⟩;have cX:=ae (fN.low bm);have bM:=ae (aN.out.trans (aP.mono bm));clear fN aP;go_wp2_with fail;go_ret2
 exact⟨⟨_,rfl,cX.out⟩,bM.out⟩
theorem Ph{w:World}{v:Value}{l:List Int}(hs:Sv w v (aJ l))(hl:l.length<=256)(hi:Is l) :
  Calls Tryz.prog 319 #[.int .u8 3,v] w fun e w'=>(∃ v',e=.returned (.tuple #[v',.bool true])/\aC w' w.heap.size v' (py l))/\Below w.heap.size w w':=by
 have HS:=ae hs;have HI:=ae hi;obtain⟨a,cap,rfl,aX,bw⟩:=hs.form;have uF:¬ (l.length:Int) > 256:=by omega
 clear hs aX bw hi;go_enter Tryz.func319,Tryz.ntmps319
 go_wp2_with fail;refine(fS _).mono ?_;rintro e w1 ⟨rfl,aG⟩;have aQ:=ae aG;have cW:=aG.size;clear aG;go_wp2_with fail;have aN:=ae (aQ.out.alloc cW (.cells #[.func (.func 226) #[] #[],.func (.func 227) #[] #[],.func (.func 228) #[] #[],.func (.func 229) #[] #[],.func (.func 230) #[] #[]] 246));have bm:=aN.out.size;refine(oS (HS.out.kept aN.out) hl HI.out).mono ?_;rintro e w3 ⟨⟨v3,rfl,fN⟩,aP⟩;have cX:=ae (fN.low bm);have bM:=ae (aN.out.trans (aP.mono bm));clear fN aP;go_wp2_with fail;go_ret2
 exact⟨⟨_,rfl,cX.out⟩,bM.out⟩
theorem Pi{w:World}{v:Value}{l:List Int}(hs:Sv w v (aJ l))(hl:l.length<=256)(hi:Is l) :
  Calls Tryz.prog 319 #[.int .u8 4,v] w fun e w'=>(∃ v',e=.returned (.tuple #[v',.bool true])/\aC w' w.heap.size v' (lG l))/\Below w.heap.size w w':=by
 have HS:=ae hs;have HI:=ae hi;obtain⟨a,cap,rfl,aX,bw⟩:=hs.form;have uF:¬ (l.length:Int) > 256:=by omega
 clear hs aX bw hi;go_enter Tryz.func319,Tryz.ntmps319
 go_wp2_with fail;refine(fS _).mono ?_;rintro e w1 ⟨rfl,aG⟩;have aQ:=ae aG;have cW:=aG.size;clear aG;go_wp2_with fail;have aN:=ae (aQ.out.alloc cW (.cells #[.func (.func 226) #[] #[],.func (.func 227) #[] #[],.func (.func 228) #[] #[],.func (.func 229) #[] #[],.func (.func 230) #[] #[]] 246));have bm:=aN.out.size;refine(np (HS.out.kept aN.out) hl HI.out).mono ?_;rintro e w3 ⟨⟨v3,rfl,fN⟩,aP⟩;have cX:=ae (fN.low bm);have bM:=ae (aN.out.trans (aP.mono bm));clear fN aP;go_wp2_with fail;go_ret2
 exact⟨⟨_,rfl,cX.out⟩,bM.out⟩
theorem KV{w:World}{v:Value}{l:List Int}(hs:Sv w v (aJ l))(c:Nat)(hc:c<256)(XI:¬ (c<=4/\l.length<=256)) :
  Calls Tryz.prog 319 #[.int .u8 (c:Int),v] w fun e w'=>(∃ v',e=.returned (.tuple #[v',.bool false])/\aC w' w.heap.size v' [])/\Below w.heap.size w w':=by
 obtain⟨a,cap,rfl,aX,bw⟩:=hs.form;have hm:l.length<=9223372036854775807:=by unfold maxLen at bw;omega
 clear hs aX bw;by_cases h5:(c:Int)>=5
 ·go_enter Tryz.func319,Tryz.ntmps319
  go_wp2_with fail;go_ret2
  exact⟨⟨_,rfl,aC.nil _ _⟩,ZQ _ _⟩
 ·have uF:(l.length:Int) > 256:=by omega
  go_enter Tryz.func319,Tryz.ntmps319
  go_wp2_with fail;go_ret2
  exact⟨⟨_,rfl,aC.nil _ _⟩,ZQ _ _⟩
theorem Fz{w:World}{v:Value}{l:List Int}(hs:Sv w v (aJ l))(hi:Is l)(c:Nat)(hc:c<256) :
  Calls Tryz.prog 319 #[.int .u8 (c:Int),v] w fun e w'=>(∃ v',e=.returned (.tuple #[v',.bool (decide (c<=4/\l.length<=256))])/\aC w' w.heap.size v' (CT c l))/\Below w.heap.size w w':=by
 by_cases h:c<=4/\l.length<=256
 ·rw[decide_eq_true h]
  unfold CT;rw[if_pos h];obtain⟨h4,hl⟩:=h;match c,h4 with
  | 0,_=>exact Pe hs hl hi
  | 1,_=>exact Pf hs hl hi
  | 2,_=>exact Pg hs hl hi
  | 3,_=>exact Ph hs hl hi
  | 4,_=>exact Pi hs hl hi
 ·rw[decide_eq_false h]
  unfold CT;rw[if_neg h];exact KV hs c hc h
end Go.Proofs.YtpljdjmpamjkhaaGreatDoor
