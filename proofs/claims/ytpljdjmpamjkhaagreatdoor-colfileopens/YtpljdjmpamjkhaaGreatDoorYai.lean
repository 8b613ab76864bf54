import Derived.Test.YtpljdjmpamjkhaaGreatDoorYab
import Derived.Test.YtpljdjmpamjkhaaGreatDoorYah
import Derived.Test.YtpljdjmpamjkhaaGreatDoorYae
import Derived.Test.YtpljdjmpamjkhaaGreatDoorYaf
import Derived.Test.YtpljdjmpamjkhaaGreatDoorProg
import Derived.KernelRfl
import Derived.WalkKit
import Derived.WalkLawsBesides
import Derived.Outline
import Derived.WalkSpells
import Derived.Lib.OthersKept
import Derived.Maps.AppendAt
import Derived.Laws.OwnMore
import Derived.BigQuiet
import Derived.BigRegion
import Derived.Lib.VarintBits
set_option linter.unusedVariables false
set_option maxRecDepth 100000
set_option maxHeartbeats 4000000
set_option linter.unusedSimpArgs false
namespace Go.Proofs.YtpljdjmpamjkhaaGreatDoor
theorem Fq(t:Nat):2 ^ t=2 ^ (t % 8)*2 ^ (8*(t / 8)):=by
 rw[← jaK];congr 1
 omega
theorem CA{bs:List Nat}{t:Nat}(h:∀ x∈bs,x<256)(ht:pk 8 bs<2 ^ t)(hj:t / 8<bs.length):bs[t / 8]<2 ^ (t % 8):=by
 rw[NC (w:=8) h hj];refine jbo (Nat.mod_le _ _) ?_;rw[Nat.div_lt_iff_lt_mul (jaD _),← Fq];exact ht
theorem rX{r:Nat}(h:r<8):2 ^ r*2 ^ (8-r)=256:=by
 rw[← jaK,show r+(8-r)=8 by omega]
theorem WP{x n r:Nat}(hr:r<8)(hx:x<2 ^ r):x+n % 2 ^ (8-r)*2 ^ r<256:=by
 have h1:=Nat.mod_lt n (jaD (8-r));have h2:(n % 2 ^ (8-r)+1)*2 ^ r<=2 ^ (8-r)*2 ^ r:=Nat.mul_le_mul_right _ h1;rw[jak (2 ^ (8-r)),rX hr,jap,jaO]at h2;omega
theorem N3{bs:List Nat}{t:Nat}(hj:t / 8<bs.length)(c:Nat):pk 8 (bs.set (t / 8) (bs[t / 8]+c*2 ^ (t % 8)))=pk 8 bs+c*2 ^ t:=by
 have h:=NB 8 (bs[t / 8]+c*2 ^ (t % 8)) hj;rw[jap,jaX,← Fq]at h;omega
theorem N4{bs:List Nat}{j c:Nat}(h:∀ x∈bs,x<256)(hc:c<256):∀ x∈bs.set j c,x<256:=by
 intro x hx;rcases List.mem_or_eq_of_mem_set hx with hx | rfl
 ·exact h x hx
 ·exact hc
theorem Tn(V n t s:Nat):V+n % 2 ^ s*2 ^ t+n / 2 ^ s*2 ^ (t+s)=V+n*2 ^ t:=by
 have h:=Nat.mod_add_div n (2 ^ s);have h2:=congrArg (·*2 ^ t) h;simp only[jap]at h2;rw[jaK,jak (2 ^ t),← jaX,jak (n / 2 ^ s)];omega
theorem yJ{V n t s:Nat}(h:V<2 ^ t):V+n % 2 ^ s*2 ^ t<2 ^ (t+s):=by
 have h1:=Nat.mod_lt n (jaD s);have h2:(n % 2 ^ s+1)*2 ^ t<=2 ^ s*2 ^ t:=Nat.mul_le_mul_right _ h1;rw[jaK,jak (2 ^ t)];rw[jap,jaO]at h2;omega
theorem N5{n w s:Nat}(h:n<2 ^ w):n / 2 ^ s<2 ^ (w-s):=by
 rw[Nat.div_lt_iff_lt_mul (jaD _),← jaK];exact Z9 h (jaY (by omega) (by omega))
theorem yK{bs:List Nat}{t:Nat}(h:∀ x∈bs,x<256)(hj:t / 8<bs.length):bs[t / 8] / 2 ^ (t % 8)=pk 8 bs / 2 ^ t % 2 ^ (8-t % 8):=by
 rw[NC (w:=8) h hj,show (2:Nat) ^ 8=2 ^ (t % 8)*2 ^ (8-t % 8) from (rX (by omega)).symm,Nat.mod_mul_right_div_self,jbv,
  jak (2 ^ (8*(t / 8))),← Fq]
theorem N6(D t a s:Nat):D / 2 ^ t % 2 ^ a+D / 2 ^ (t+a) % 2 ^ s*2 ^ a=D / 2 ^ t % 2 ^ (a+s):=by
 rw[jaK 2 a s,Nat.mod_mul,jbv,← jaK,jak (2 ^ a)]
theorem Fs{bs:List Nat}{c:Nat}(h:∀ x∈bs,x<256)(hl:bs.length=by8 c)(h0:c % 8=0):pk 8 bs<2 ^ c:=by
 have:=Cf (w:=8) h;rw[hl]at this;rwa[show 8*by8 c=c by unfold by8;omega]at this
theorem Ft{bs:List Nat}{c:Nat}(h:∀ x∈bs,x<256)(hl:bs.length=by8 c)(h0:c % 8≠0)(hj:bs.length-1<bs.length) :
  bs[bs.length-1] / 2 ^ (c % 8)=0↔pk 8 bs<2 ^ c:=by
 have aB:=Cf (w:=8) h;have e:bs.length-1=c / 8:=by rw[hl];unfold by8;omega
 have hc:c / 8<bs.length:=by omega
 have e2:bs[bs.length-1]=bs[c / 8]:=by simp only[e]
 rw[e2,yK h hc,jaA]
 ·rw[Nat.div_eq_zero_iff]
  have:=jaD c;omega
 ·rw[Nat.div_lt_iff_lt_mul (jaD _),← jaK,show 8-c % 8+c=8*bs.length by rw[hl];unfold by8;omega]
  exact aB
theorem KP{t:Nat}(h:t % 8=0):by8 (t+1)=by8 t+1/\t / 8=by8 t:=by unfold by8;omega
theorem KQ{t:Nat}(h:t % 8≠0):by8 (t+1)=by8 t/\t / 8<by8 t:=by unfold by8;omega
theorem qu(x k:Nat):x % 2 ^ (k+1)=x % 2 ^ k+2 ^ k*(x / 2 ^ k % 2):=Nat.mod_pow_succ
def fill(l:List Nat)(i:Nat):List Nat:=l.take i++List.replicate (l.length-i) 0
theorem nZ(l:List Nat):fill l 0=List.replicate l.length 0:=by simp[fill]
theorem qv(l:List Nat):fill l l.length=l:=by simp[fill]
theorem kN{l:List Nat}{i:Nat}(h:i<=l.length):(fill l i).length=l.length:=by simp[fill];omega
theorem qw{l:List Nat}{i:Nat}(h:i<l.length):(fill l i).set i l[i]=fill l (i+1):=by
 unfold fill
 rw[List.set_append_right _ _ (by simp;omega),ZX,jaJ (by omega),ja9,show l.length-i=(l.length-(i+1))+1 by omega,
  List.replicate_succ,Z0,Z5 h,Z4]
 rfl
theorem yL{l bs:List Nat}{w:Nat}(hc:can l w=true)(hb:∀ x∈bs,x<256)(hl:bs.length=by8 (l.length*w))(h:pk 8 bs=pk w l):bs=be l w:=by
 unfold be;rw[if_pos hc,jah,← h,← hl];exact(Al hb).symm
open Go.RowKit Go.Lib
theorem WQ{a b:Nat}(ha:a<18446744073709551616)(hb:b<18446744073709551616):bits .or .u64 (a:Int) (b:Int)=((a ||| b:Nat):Int):=by
 show IntKind.u64.wrap ((BitVec.ofInt 64 (a:Int) ||| BitVec.ofInt 64 (b:Int)).toNat:Int)=_
 have e1:(BitVec.ofInt 64 (a:Int)).toNat=a:=by rw[BitVec.toNat_ofInt];omega
 have e2:(BitVec.ofInt 64 (b:Int)).toNat=b:=by rw[BitVec.toNat_ofInt];omega
 have h:=Nat.or_lt_two_pow (x:=a) (y:=b) (n:=64) ha hb;rw[BitVec.toNat_or,e1,e2,jag];omega
theorem rY{w:World}{v:Value}{l:List Nat}(hs:Sx .u64 w v l)(kC:∀ x∈l,x<18446744073709551616) :
  Calls Tryz.prog 202 #[v] w fun e w'=>e=.returned (.int .i64 (wd l:Int))/\w'=w:=by
 obtain⟨a,cap,rfl,hm,hc⟩:=hs;have oI:l.length<=9223372036854775807:=by unfold maxLen at hm;omega
 have HC:=ae hc;have Bp:=ae kC;clear hc hm kC;go_enter Tryz.func202,Tryz.ntmps202
 go_wp2_with fail;go_loopw [3,9] (fun al i w'=>w'=w/\∃ k:Nat,k<=l.length/\i=.int .i64 (k:Int)/\al=.int .u64 (qm (l.take k):Int)) (fun _ i _=>l.length-(intOf i).toNat)
 case atStart=>exact⟨rfl,0,by omega,rfl,rfl⟩
 case round =>
  obtain⟨rfl,k,hk,rfl,rfl⟩:=hrel;by_cases aB:k<l.length
  ·obtain⟨b,off,rfl,hb,bo⟩:=HC.out (by omega)
   have dP:=bo k aB;have hx:=or64 Bp.out k;have hor:=WQ hx (Bp.out l[k] (ZV aB));have HT:=ae (mI aB);clear bo hx;generalize l[k]=x at *;generalize qm (l.take k)=y at *;go_wp2_with fail;go_roundw
   case rel=>exact⟨trivial,k+1,by omega,by go_num,by rw[HT.out]⟩
   case measure=>simp[intOf];omega
  ·obtain rfl:k=l.length:=by omega
   rw[ZY];have hx:=or64 Bp.out l.length;rw[ZY]at hx;have hw:=Fa Bp.out;have HW:Hid (wd l=cQ (qm l)):=rfl;clear HC Bp;generalize qm l=y at *;go_wp2_with fail;go_loopw [3,6] (fun al i w'=>w'=wr/\∃ n k:Nat,al=.int .u64 (n:Int)/\i=.int .i64 (k:Int)/\n<=y/\k+cQ n=wd l) (fun al _ _=>(intOf al).toNat)
   case atStart=>exact⟨rfl,y,0,rfl,rfl,ZR _,by rw[HW.out,jaf]⟩
   case round =>
    obtain⟨rfl,n,k,rfl,rfl,hn,fM⟩:=hrel;by_cases h0:((n:Int)==0)=true
    ·have h0':n=0:=by simpa using h0
     subst h0';have HK:Hid (k=wd l):=by show k=wd l;simpa [cQ]using fM
     clear fM HW;go_wp2_with fail;go_ret
     rw[← HK.out];exact⟨rfl,rfl⟩
    ·have h0f:((n:Int)==0)=false:=by simpa using h0
     have qa:n≠0:=by simpa using h0
     have hbh:=Kv qa;have HB:=ae fM;have HBH:=ae hbh;have pd:k<=64:=by omega
     clear h0 fM hbh;go_wp2_with fail;go_roundw
     case rel=>exact⟨trivial,n / 2,k+1,by go_num,by go_num,by omega,by have:=HB.out;have:=HBH.out;omega⟩
     case measure=>simp[intOf];omega
theorem td(n w:Int)(W:World):Calls Tryz.prog 201 #[.int .i64 n,.int .i64 w] W fun e w'=>e=.returned (.bool (decide (0<=n/\n<=256/\0<=w/\w<=64)))/\w'=W:=by
 by_cases h1:n>=0
 ·by_cases h2:n<=256
  ·by_cases h3:w>=0
   ·by_cases h4:w<=64
    ·rw[decide_eq_true (by omega)]
     go_enter Tryz.func201,Tryz.ntmps201
     go_wp2_with fail;go_ret
     exact⟨rfl,rfl⟩
    ·rw[decide_eq_false (by omega)]
     go_enter Tryz.func201,Tryz.ntmps201
     go_wp2_with fail;go_ret
     exact⟨rfl,rfl⟩
   ·rw[decide_eq_false (by omega)]
    go_enter Tryz.func201,Tryz.ntmps201
    go_wp2_with fail;go_ret
    exact⟨rfl,rfl⟩
  ·rw[decide_eq_false (by omega)]
   go_enter Tryz.func201,Tryz.ntmps201
   go_wp2_with fail;go_ret
   exact⟨rfl,rfl⟩
 ·rw[decide_eq_false (by omega)]
  go_enter Tryz.func201,Tryz.ntmps201
  go_wp2_with fail;go_ret
  exact⟨rfl,rfl⟩
theorem qx(c:Nat)(hc:c<=16384)(W:World):Calls Tryz.prog 203 #[.int .i64 (c:Int)] W fun e w'=>e=.returned (.int .i64 (by8 c:Int))/\w'=W:=by
 have HE:Hid (((by8 c:Nat):Int)=((c:Int)+8-1) / 8):=by show _=_;unfold by8;omega
 go_enter Tryz.func203,Tryz.ntmps203
 go_wp2_with fail;go_ret
 rw[HE.out];exact⟨rfl,rfl⟩
theorem JB{x j:Nat}:(x:Int) / 2 ^ j > 0↔j<cQ x:=by
 have h:=eI (n:=x) (w:=j);have h2:((x / 2 ^ j:Nat):Int)=(x:Int) / 2 ^ j:=by simp
 rw[← h2]
 have h3:x / 2 ^ j=0↔x<2 ^ j:=by
  rw[Nat.div_eq_zero_iff];have:=jaD j;omega
 have h4:x / 2 ^ j=0↔cQ x<=j:=h3.trans h.symm;clear h h2 h3;generalize x / 2 ^ j=q at *;omega
theorem jI{w:World}{v:Value}{l:List Nat}(hs:Sx .u64 w v l)(kC:∀ x∈l,x<18446744073709551616) :
  Calls Tryz.prog 175 #[v] w fun e w'=>e=.returned (.int .i64 (wd l:Int))/\w'=w:=by
 obtain⟨a,cap,rfl,hm,hc⟩:=hs;have oI:l.length<=9223372036854775807:=by unfold maxLen at hm;omega
 have HC:=ae hc;have Bp:=ae kC;clear hc hm kC;go_enter Tryz.func175,Tryz.ntmps175
 go_wp2_with fail;go_loopw [3,4] (fun ww i w'=>w'=w/\∃ k:Nat,k<=l.length/\i=.int .i64 (k:Int)/\ww=.int .i64 (wd (l.take k):Int)) (fun _ i _=>l.length-(intOf i).toNat)
 case atStart=>exact⟨rfl,0,by omega,rfl,by rw[ja7,NE];rfl⟩
 case round =>
  obtain⟨rfl,k,hk,rfl,rfl⟩:=hrel;by_cases aB:k<l.length
  ·obtain⟨b,off,rfl,hb,bo⟩:=HC.out (by omega)
   have dP:=bo k aB;have hx:=Bp.out l[k] (ZV aB);have HT:=ae (qn aB);have hw64:wd (l.take k)<=64:=Fa (fun x hx=>Bp.out x (jaw hx));have hb64:cQ l[k]<=64:=eI.2 hx;clear bo;generalize l[k]=x at *;generalize wd (l.take k)=y at *;go_wp2_with fail;go_loopw [3] (fun ww w'=>w'=wr/\∃ j:Nat,ww=.int .i64 (j:Int)/\y<=j/\j<=64/\j<=max y (cQ x)) (fun ww _=>64-(intOf ww).toNat)
   case atStart=>exact⟨rfl,y,rfl,by omega,by omega,by omega⟩
   case round =>
    obtain⟨rfl,j,rfl,h1,h2,h3⟩:=hrel;by_cases hj:j<64
    ·by_cases VF:j<cQ x
     ·have sT:(x:Int) / 2 ^ j > 0:=JB.2 VF
      have MS:(j:Int)<64:=by omega
      go_wp2_with fail;go_roundw
      case rel=>exact⟨trivial,j+1,by go_num,by omega,by omega,by omega⟩
      case measure=>simp[intOf];omega
     ·have sT:¬ (x:Int) / 2 ^ j > 0:=fun h=>VF (JB.1 h)
      have HJ:Hid (j=max y (cQ x)):=by show _=_;omega
      have MS:(j:Int)<64:=by omega
      clear VF h3;go_wp2_with fail;go_roundw
      case rel=>exact⟨trivial,k+1,by omega,by go_num,by rw[HT.out,← HJ.out]⟩
      case measure=>simp[intOf];omega
    ·have HJ:Hid (j=max y (cQ x)):=by show _=_;omega
     have MS:¬ (j:Int)<64:=by omega
     clear h3;go_wp2_with fail;go_roundw
     case rel=>exact⟨trivial,k+1,by omega,by go_num,by rw[HT.out,← HJ.out]⟩
     case measure=>simp[intOf];omega
  ·obtain rfl:k=l.length:=by omega
   rw[ZY];go_wp2_with fail;go_ret
   exact⟨rfl,rfl⟩
theorem CC{x u:Nat}:(((x:Int) / 2 ^ u)==0)=decide (x / 2 ^ u=0):=by
 have h2:((x / 2 ^ u:Nat):Int)=(x:Int) / 2 ^ u:=by simp
 rw[← h2];rw[jba];simp only[beq_iff_eq,decide_eq_true_eq];exact Int.natCast_eq_zero
theorem KR{w:World}{v:Value}{bs:List Nat}(hs:Sx .u8 w v bs)(h8:∀ x∈bs,x<256)(c:Nat)(hc:c<=16384)(hl:bs.length=by8 c) :
  Calls Tryz.prog 303 #[v,.int .i64 (c:Int)] w fun e w'=>e=.returned (.bool (decide (pk 8 bs<2 ^ c)))/\w'=w:=by
 obtain⟨a,cap,rfl,hm,eO⟩:=hs;by_cases h0:c % 8=0
 ·have h0b:((c:Int) % 8==0)=true:=by simp;omega
  have HE:=ae (decide_eq_true (Fs h8 hl h0));clear eO h8 hl hm h0;go_enter Tryz.func303,Tryz.ntmps303
  go_wp2_with fail;go_ret
  rw[HE.out];exact⟨rfl,rfl⟩
 ·have h0b:((c:Int) % 8==0)=false:=by simp;omega
  have sT:0<bs.length:=by rw[hl];unfold by8;omega
  have oH:bs.length<=2048:=by rw[hl];unfold by8;omega
  obtain⟨b,off,rfl,hb,bo⟩:=eO sT;have dP:=bo (bs.length-1) (by omega);have HX:=ae (Ft h8 hl h0 (by omega));have hx:=h8 _ (ZV (h:=(by omega:bs.length-1<bs.length)));have hsub:(bs.length:Int)-1=((bs.length-1:Nat):Int):=by omega
  have aB:bs.length-1<bs.length:=by omega
  obtain⟨u,hu⟩:∃ u,c % 8=u:=⟨_,rfl⟩;have hui:(c:Int) % 8=(u:Int):=by omega
  have hu8:u<8:=by omega
  rw[hui]at h0b;rw[hu]at HX;generalize bs[bs.length-1]=x at *;clear bo eO h8 hl hm h0 hu;have HF:=ae (CC (x:=x) (u:=u));generalize bs.length-1=n at *;generalize bs.length=L at *;go_enter Tryz.func303,Tryz.ntmps303
  go_wp2_with fail;go_ret
  refine⟨?_,rfl⟩;rw[← decide_eq_decide.2 HX.out,← HF.out];rfl
theorem To{D t0 t k s y n:Nat}(hn:D / 2 ^ t0 % 2 ^ k % 18446744073709551616=n)(hy:y=D / 2 ^ t % 2 ^ s)(ht:t=t0+k)(hk:k<64)(hs:s<=8) :
  bits .or .u64 (n:Int) (IntKind.u64.wrap ((y:Int)*2 ^ k))=((D / 2 ^ t0 % 2 ^ (k+s) % 18446744073709551616:Nat):Int):=by
 have kC:(18446744073709551616:Nat)=2 ^ k*2 ^ (64-k):=by rw[← jaK,show k+(64-k)=64 by omega]
 have kz:2 ^ k<=18446744073709551616:=by rw[kC];exact Nat.le_mul_of_pos_right _ (jaD _)
 have hm:=Nat.mod_lt (D / 2 ^ t0) (jaD k);rw[jaA (Z9 hm kz)]at hn;rw[hn]at hm;have nI:=N6 D t0 k s;rw[← ht,hn,← hy]at nI;rw[← nI];have e:(y:Int)*2 ^ k=((y*2 ^ k:Nat):Int):=by simp
 have hdvd:y*2 ^ k % 18446744073709551616 % 2 ^ k=0:=by
  rw[kC,Nat.mod_mul_right_mod,Nat.mul_mod_left]
 have aB:y*2 ^ k % 18446744073709551616<2 ^ k*2 ^ (64-k):=by rw[← kC];omega
 have hw:IntKind.u64.wrap (((y*2 ^ k:Nat)):Int)=((y*2 ^ k % 18446744073709551616:Nat):Int):=by rw[jag];omega
 have hmod:(n+y*2 ^ k) % 18446744073709551616=(n+y*2 ^ k % 18446744073709551616) % 18446744073709551616:=by omega
 rw[e,hw,hmod];generalize y*2 ^ k % 18446744073709551616=z at *;have hz:=Nat.div_add_mod z (2 ^ k);rw[hdvd,jaC]at hz;rw[← hz]at aB;have hq:=Nat.lt_of_mul_lt_mul_left aB;have mS:2 ^ k*(z / 2 ^ k+1)<=2 ^ k*2 ^ (64-k):=jaL _ hq;rw[← kC,jaR,ja8,hz]at mS;rw[jaA (by omega)];have hj:=bits_join_low .u64 64 (by decide) wraps_u64 k (n:Int) (z:Int) (by omega) (by exact_mod_cast hm) (by omega) (by omega) (by exact_mod_cast hdvd) (by omega);rw[hj];omega
theorem Tp{ww:Nat}(h:ww<=64):IntKind.u64.wrap (IntKind.u64.wrap (2 ^ ww)-1)=((2 ^ ww-1:Nat):Int):=by
 have e:(2:Int) ^ ww=((2 ^ ww:Nat):Int):=by simp
 have hp:=jaD ww;rcases jae ww 64 with h1 | h1
 ·have:2 ^ ww<2 ^ 64:=Nat.pow_lt_pow_right (by omega) h1
  rw[e,jag,jag];omega
 ·obtain rfl:ww=64:=by omega
  decide
theorem KS{D t0 k n ww:Nat}(hn:D / 2 ^ t0 % 2 ^ k % 18446744073709551616=n)(kC:ww<=64)(hk:ww<=k) :
  bits .and .u64 (n:Int) (IntKind.u64.wrap (IntKind.u64.wrap (2 ^ ww)-1))=((D / 2 ^ t0 % 2 ^ ww:Nat):Int):=by
 rw[Tp kC];have hp:=jaD ww;have oH:2 ^ ww<=2 ^ 64:=jaY (by omega) kC;rw[(bits_nat .u64 64 (by decide) wraps_u64 n (2 ^ ww-1) (by omega) (by omega)).1,Nat.and_two_pow_sub_one_eq_mod,← hn];rw[Nat.mod_mod_of_dvd _ (show 2 ^ ww ∣ 18446744073709551616 from Nat.pow_dvd_pow (n:=64) 2 kC),Nat.mod_mod_of_dvd _ (Nat.pow_dvd_pow 2 hk)]
theorem N7{w:World}{v:Value}{bs:List Nat}(hs:Sx .u8 w v bs)(h8:∀ x∈bs,x<256)(t0 ww:Nat)(hw:ww<=64)(ht:t0+ww<=8*bs.length)(VG:t0<=16384) :
  Calls Tryz.prog 304 #[v,.int .i64 (t0:Int),.int .i64 (ww:Int)] w fun e w'=>e=.returned (.int .u64 ((pk 8 bs / 2 ^ t0 % 2 ^ ww:Nat):Int))/\w'=w:=by
 obtain⟨a,cap,rfl,hm,eO⟩:=hs;have oI:bs.length<=9223372036854775807:=by unfold maxLen at hm;omega
 have HC:=ae eO;have H8:=ae h8;clear eO h8 hm;go_enter Tryz.func304,Tryz.ntmps304
 go_wp2_with fail;go_loopw [1,7,8] (fun at_ n have_ w'=>w'=w/\∃ k t:Nat,k<=ww+7/\t=t0+k/\at_=.int .i64 (t:Int)/\have_=.int .i64 (k:Int)/\n=.int .u64 ((pk 8 bs / 2 ^ t0 % 2 ^ k % 18446744073709551616:Nat):Int)) (fun _ _ i _=>ww-(intOf i).toNat)
 case atStart=>exact⟨rfl,0,t0,by omega,rfl,rfl,rfl,by simp[Nat.mod_one]⟩
 case round =>
  obtain⟨rfl,k,t,hk,Ux,rfl,rfl,rfl⟩:=hrel;by_cases aB:k<ww
  ·obtain⟨b,off,rfl,hb,bo⟩:=HC.out (by omega)
   have MT:t / 8<bs.length:=by omega
   have dP:=bo (t / 8) MT;have HF:=ae (yK H8.out MT);have hx:=H8.out _ (ZV MT);have ru:=ae Ux;have ht1:t<=20000:=by omega
   generalize bs[t / 8]=x at *;obtain⟨j,hj⟩:∃ j,t / 8=j:=⟨_,rfl⟩;obtain⟨r,hr⟩:∃ r,t % 8=r:=⟨_,rfl⟩;obtain⟨s,Mj⟩:∃ s,8-r=s:=⟨_,rfl⟩;obtain⟨y,hy⟩:∃ y,x / 2 ^ r=y:=⟨_,rfl⟩;obtain⟨n,hn⟩:∃ n,pk 8 bs / 2 ^ t0 % 2 ^ k % 18446744073709551616=n:=⟨_,rfl⟩;rw[hr,hy,Mj]at HF;rw[hj]at dP MT;have hji:(t:Int) / 8=(j:Int):=by omega
   have BN:(t:Int) % 8=(r:Int):=by omega
   have hsi:(8:Int)-(r:Int)=(s:Int):=by omega
   have hr8:r<8:=by omega
   have hs8:s<=8:=by omega
   have eg:1<=s:=by omega
   have hyi:(x:Int) / 2 ^ r=(y:Int):=by rw[← hy];simp
   have ya:y<256:=by rw[← hy];exact jbo (Nat.div_le_self _ _) hx
   rw[hn];have HN:=ae hn;have hor:=To HN.out HF.out ru.out (by omega) (by omega);have HK:Hid (k+s<=ww+7):=ae (by omega);have EP:k<=64:=by omega
   clear bo hn hy hr hj Mj Ux;go_wp2_with fail;go_roundw
   case rel=>exact⟨trivial,k+s,t+s,HK.out,by have:=ru.out;omega,by go_num,by go_num,rfl⟩
   case measure=>simp[intOf];omega
  ·have ru:=ae Ux
   clear Ux HC;generalize hn:pk 8 bs / 2 ^ t0 % 2 ^ k % 18446744073709551616=n;have HN:=ae hn;have hnl:n<18446744073709551616:=by rw[← hn];exact Nat.mod_lt _ (by omega)
   clear hn;go_wp2_with fail;go_ret
   rw[← KS HN.out hw (by omega)];exact⟨rfl,rfl⟩
theorem n0{w:World}{B e n:Nat}{v:Value}{xs:List Value}(h:w.ownsRow B e 1 v n xs)(hp:0<n):∃ g cap,v=.slice (some ⟨g,0,none⟩) n cap/\B<=g/\g<w.heap.size:=by
 obtain⟨hl,h1⟩:=id h;rcases h1 with ⟨rfl,rfl⟩ | ⟨g,cap,cur,rfl,hb,hg,h4⟩
 ·omega
 ·exact⟨g,cap,rfl,hb,(Array.getElem?_eq_some_iff.1 hg).1⟩
theorem Av{w:World}{B e n:Nat}{v:Value}{xs:List Value}(h:w.ownsRow B e 1 v n xs):∃ a cap,v=.slice a n cap:=by
 obtain⟨hl,h1⟩:=id h;rcases h1 with ⟨rfl,rfl⟩ | ⟨g,cap,cur,rfl,hb,hg,h4⟩
 ·exact⟨none,0,rfl⟩
 ·exact⟨_,cap,rfl⟩
theorem cL{B:Nat}{a w:World}(h:Below B a w){g j:Nat}(hg:B<=g)(u:Value):Below B a (w.setCell ⟨g,j,none⟩ u):=h.setCell hg u
theorem WR{x m r z:Nat}(hr:r<8)(hx:x<2 ^ r)(hz:IntKind.u64.wrap ((m:Int)*2 ^ r)=(z:Int)) :
  bits .or .u8 (x:Int) ((z:Int) % 256)=((x+m % 2 ^ (8-r)*2 ^ r:Nat):Int):=by
 have e:(m:Int)*2 ^ r=((m*2 ^ r:Nat):Int):=by simp
 rw[e,jag]at hz;have bm:(z:Int) % 256=((m*2 ^ r % 256:Nat):Int):=by omega
 have Eo:(256:Nat)=2 ^ (8-r)*2 ^ r:=by rw[jak,rX hr]
 have hm:m*2 ^ r % 256=m % 2 ^ (8-r)*2 ^ r:=by rw[Eo,Nat.mul_mod_mul_right]
 have hl:m*2 ^ r % 256<256:=Nat.mod_lt _ (by omega);have Bq:2 ^ r<=256:=by rw[Eo];exact Nat.le_mul_of_pos_left _ (jaD _)
 have hd:m % 2 ^ (8-r)*2 ^ r % 2 ^ r=0:=Nat.mul_mod_left _ _;rw[hm]at hl bm;rw[bm];generalize m % 2 ^ (8-r)*2 ^ r=q at *;have hj:=bits_join_low .u8 8 (by decide) wraps_u8 r (x:Int) (q:Int) (by omega) (by exact_mod_cast hx) (by omega) (by omega) (by exact_mod_cast hd) (by omega);rw[hj];omega
theorem Tq{B:Nat}{w:World}{v:Value}{bs:List Nat}(az:w.ownsRow B 5 1 v bs.length (aE .u8 bs))(h8:∀ x∈bs,x<256)(t0 ww n:Nat)(hw:ww<=64)(hn:n<2 ^ ww)
  (hn64:n<18446744073709551616) (ht:t0+ww<=8*bs.length) (hV:pk 8 bs<2 ^ t0) (VG:t0<=16384) (XF:bs.length<=2048) :
  Calls Tryz.prog 204 #[v,.int .i64 (t0:Int),.int .i64 (ww:Int),.int .u64 (n:Int)] w fun e w'=>e=.returned (.tuple #[]) /\
   (∃ bs',w'.ownsRow B 5 1 v bs.length (aE .u8 bs')/\bs'.length=bs.length/\(∀ x∈bs',x<256)/\pk 8 bs'=pk 8 bs+n*2 ^ t0)/\Below B w w':=by
 obtain⟨T,hT⟩:∃ T,pk 8 bs+n*2 ^ t0=T:=⟨_,rfl⟩;rw[hT];obtain⟨E,hE⟩:∃ E,t0+ww=E:=⟨_,rfl⟩;have hEi:(t0:Int)+(ww:Int)=(E:Int):=by omega
 have HS:Hid (∃ bs':List Nat,w.ownsRow B 5 1 v bs.length (aE .u8 bs')/\bs'.length=bs.length/\(∀ x∈bs',x<256)/\pk 8 bs'<2 ^ t0/\pk 8 bs'+n*2 ^ t0=T) :=
  ae ⟨bs,az,rfl,h8,hV,hT⟩
 have HN:Hid (n<2 ^ (E-t0)):=ae (by rw[← hE,Nat.add_sub_cancel_left];exact hn);rw[hE]at ht;have hE0:E<=t0+64:=by omega
 have hE1:t0<=E:=by omega
 clear az h8 hV hT hn hE;generalize bs.length=L at *;go_enter Tryz.func204,Tryz.ntmps204
 go_wp2_with fail
 go_loopw [1,3] (fun at_ mm wr=>∃ t m:Nat,at_=.int .i64 (t:Int)/\mm=.int .u64 (m:Int)/\t<=E+7/\m<18446744073709551616/\m<2 ^ (E-t) /\
   (∃ bs':List Nat,wr.ownsRow B 5 1 v L (aE .u8 bs')/\bs'.length=L/\(∀ x∈bs',x<256)/\pk 8 bs'<2 ^ t/\pk 8 bs'+m*2 ^ t=T)/\Below B w wr) (fun a _ _=>E-(intOf a).toNat)
 case atStart=>exact⟨t0,n,rfl,rfl,by omega,hn64,HN.out,HS.out,ZQ _ _⟩
 case round =>
  obtain⟨t,m,rfl,rfl,htE,hm64,hmE,⟨cs,how,eO,h8,hV,nI⟩,ay⟩:=hrel;have HB:=ae ay;by_cases aB:t<E
  ·have MT:t / 8<cs.length:=by omega
   obtain⟨g,cap,rfl,hBg,Mk⟩:=n0 how (by omega);have dP:=(how.cellAt (t / 8) (by omega)).trans (bR MT);have lv:=how.frozenAt (t / 8);have VH:=CA h8 hV MT;have hx8:=h8 _ (ZV MT);have EQ:=ae (WP (n:=m) (by omega:t % 8<8) VH);have Ml:=ae (N3 MT (m % 2 ^ (8-t % 8)));have cP:=ae (how.stored (t / 8) (.int .u8 ((cs[t / 8]+m % 2 ^ (8-t % 8)*2 ^ (t % 8):Nat):Int)));rw[jY]at cP;have H8:=ae (N4 (j:=t / 8) h8 EQ.out);have Mm:=ae (yJ (n:=m) (s:=8-t % 8) hV);have SK:=ae (Tn (pk 8 cs) m t (8-t % 8));have UA:=ae (N5 (s:=8-t % 8) hmE);have HSU:=ae nI;have J0:Hid ((cs.set (t / 8) (cs[t / 8]+m % 2 ^ (8-t % 8)*2 ^ (t % 8))).length=L):=ae (by rw[ja4];exact eO)
   obtain⟨z,hz⟩:∃ z:Nat,IntKind.u64.wrap ((m:Int)*2 ^ (t % 8))=(z:Int):=by
    refine⟨(IntKind.u64.wrap ((m:Int)*2 ^ (t % 8))).toNat,?_⟩;rw[jag];omega
   have hor:=WR (by omega) VH hz
   have hz64:z<18446744073709551616:=by
    rw[jag]at hz;omega
   generalize Hf:cs.set (t / 8) (cs[t / 8]+m % 2 ^ (8-t % 8)*2 ^ (t % 8))=cs2 at *;generalize cs[t / 8]+m % 2 ^ (8-t % 8)*2 ^ (t % 8)=c at *;generalize cs[t / 8]=x at *;clear how ay h8 hV nI Hf VH;have hji:(t:Int) / 8=((t / 8:Nat):Int):=by omega
   have BN:(t:Int) % 8=((t % 8:Nat):Int):=by omega
   have hsi:(8:Int)-((t % 8:Nat):Int)=((8-t % 8:Nat):Int):=by omega
   have hr8:t % 8<8:=by omega
   have hs8:8-t % 8<=8:=by omega
   have eg:1<=8-t % 8:=by omega
   have hjL:t / 8<L:=by omega
   have HTT:Hid (t+(8-t % 8)<=E+7):=ae (by omega);have HEE:Hid (E-(t+(8-t % 8))=E-t-(8-t % 8)):=ae (by omega);have hmd:(m:Int) / 2 ^ (8-t % 8)=((m / 2 ^ (8-t % 8):Nat):Int):=by simp
   have hml:m / 2 ^ (8-t % 8)<=m:=Nat.div_le_self _ _;have hc8:=EQ.out;generalize 8-t % 8=s at *;generalize t % 8=r at *;generalize t / 8=j at *;clear hmE;generalize m / 2 ^ s=q at *;go_wp2_with fail;go_region
   all_goals
    go_wp2_with fail;go_roundw
    case rel =>
     refine⟨t+s,q,by go_num,by go_num,HTT.out,by omega,?_,⟨cs2,cP.out.1.drew,J0.out,H8.out,?_,?_⟩,(cL HB.out hBg _).drew⟩
     ·rw[HEE.out];exact UA.out
     ·rw[Ml.out];exact Mm.out
     ·rw[Ml.out,SK.out];exact HSU.out
    case measure=>simp[intOf];omega
  ·have Zg:m=0:=by
    rw[show E-t=0 by omega]at hmE;omega
   subst Zg;have HO:Hid (∃ bs':List Nat,wr.ownsRow B 5 1 v L (aE .u8 bs')/\bs'.length=L/\(∀ x∈bs',x<256)/\pk 8 bs'=T):=ae ⟨cs,how,eO,h8,by simpa using nI⟩;clear how eO h8 hV nI ay hmE;go_wp2_with fail;go_end0
   exact⟨rfl,HO.out,HB.out⟩
theorem jS(k:IntKind)(n:Nat):(madeCells #[Value.int k 0] n).toList=aE k (List.replicate n 0):=by
 rw[toList_madeCells_one];simp[aE]
theorem vL{l:List Nat}{x:Int}(h:can l x=false):be l x=[]:=by unfold be;rw[h];rfl
theorem gl(w:World)(B e:Nat):w.ownsRow B e 1 (.slice none 0 0) 0 []:=jaB _ _ _ _
theorem CD{l:List Nat}{ww k:Nat}(hw:∀ x∈l,x<2 ^ ww)(hk:k<=l.length):pk ww (l.take k)<2 ^ (k*ww):=by
 have:=Cf (w:=ww) (l:=l.take k) (fun x hx=>hw x (jaw hx));rwa[ZX,jaJ hk,jak]at this
theorem yM{w:World}{v:Value}{l:List Nat}(hs:Sx .u64 w v l)(kC:∀ x∈l,x<18446744073709551616)(x:Int) :
  Calls Tryz.prog 171 #[v,.int .i64 x] w fun e w'=>∃ v',e=.returned (.tuple #[v',.bool (can l x)])/\w'.ownsRow w.heap.size 5 1 v' (be l x).length (aE .u8 (be l x))/\Below w.heap.size w w':=by
 have HW:=ae (rY hs kC);have HA:=ae (td (l.length:Int) x);obtain⟨a,cap,rfl,hm,eO⟩:=hs;have oI:l.length<=9223372036854775807:=by unfold maxLen at hm;omega
 by_cases xk:0<=(l.length:Int)/\(l.length:Int)<=256/\0<=x/\x<=64
 ·rw[decide_eq_true xk]at HA
  obtain⟨_,hl256,SL,Mn⟩:=xk;obtain⟨ww,rfl⟩:=jbg SL;by_cases JY:wd l<=ww
  ·have ln:can l (ww:Int)=true:=by
    unfold can;simp only[decide_eq_true_eq,jah];exact⟨by omega,by omega,by omega,JY⟩
   have dy:=qo.1 JY;have uF:¬ ((wd l:Nat):Int) > (ww:Int):=by omega
   have hc:l.length*ww<=16384:=ZZ (jbd (show l.length<=256 by omega) (show ww<=64 by omega)) (by omega);have hmul:(l.length:Int)*(ww:Int)=((l.length*ww:Nat):Int):=by simp
   have HP:=ae (fun(bs:List Nat)=>yL (bs:=bs) ln);have sU:=ae (qx (l.length*ww) hc);have HL8:=ae (Fb (l.length*ww));have hL:by8 (l.length*ww)<=2048:=by unfold by8;omega
   have HF:=ae dy;have HC:=ae eO;have Bp:=ae kC;have Mo:ww<=64:=by omega
   rw[ln];clear eO kC dy ln JY SL Mn hm;obtain⟨i0,hi,ce,hz1',bm⟩:=info_parts jf;generalize by8 (l.length*ww)=L at *;generalize hcc:l.length*ww=c at *;have SN:=ae hcc;clear hcc;go_enter Tryz.func171,Tryz.ntmps171
   go_wp2_with fail;refine(HA.out _).mono ?_;rintro e w1 ⟨rfl,rfl⟩;go_wp2_with fail;refine HW.out.mono ?_;rintro e w2 ⟨rfl,rfl⟩;go_wp2_with fail;refine(sU.out _).mono ?_;rintro e w3 ⟨rfl,rfl⟩;go_wp2_with (first | (refine wpList_make_full _ rfl _ _ 30 rfl w3.heap.size 5 i0 (.int .u8 0) 1 Tryz.underlying30 hi ce hz1' .i64 .i64 _ _ L rfl rfl ?m1 ?m2 ?m3 ?m4 ?m5 ?_))
   case m1=>rfl
   case m2=>rfl
   case m3=>rw[bm];omega
   case m4=>unfold maxLen;omega
   case m5=>omega
   intro w4 gD iL;have bv:Below w3.heap.size w3 w4:=(ZQ _ _).grown iL (ZR _) (fun k hk=>by cases hk)
   have ho4':w4.ownsRow w3.heap.size 5 1 (.slice (some ⟨w3.heap.size,0,none⟩) L L) L (aE .u8 (List.replicate L 0)):=by
    rw[← jS];simpa using gD
   have eP:=ae ho4';have b9:=ae bv;clear gD iL bv ho4';go_wp2_with fail;go_loopw [28] (fun i wr=>∃ k:Nat,i=.int .i64 (k:Int)/\k<=l.length/\(∃ bs:List Nat,wr.ownsRow w3.heap.size 5 1 (.slice (some ⟨w3.heap.size,0,none⟩) L L) L (aE .u8 bs)/\bs.length=L/\(∀ x∈bs,x<256)/\pk 8 bs=pk ww (l.take k))/\Below w3.heap.size w3 wr) (fun i _=>l.length-(intOf i).toNat)
   case atStart=>exact⟨0,rfl,by omega,⟨List.replicate L 0,eP.out,by simp,by simp,by rw[Cg];rfl⟩,b9.out⟩
   case round =>
    obtain⟨k,rfl,hk,⟨bs,how,fM,kA,Uy⟩,ay⟩:=hrel;have HB:=ae ay;by_cases aB:k<l.length
    ·obtain⟨b,off,rfl,hb,bo⟩:=HC.out (by omega)
     have dP:=(ay.cell (p:=⟨b,off+k,none⟩) hb).trans (bo k aB);have hkw:(k:Int)*(ww:Int)=((k*ww:Nat):Int):=by simp
     have VI:k*ww+ww<=8*L:=by
      have h1:(k+1)*ww<=l.length*ww:=Nat.mul_le_mul_right _ aB;rw[jap,jaO]at h1;rw[SN.out]at h1;have:=HL8.out;omega
     have hPut:=Tq (w:=wr) (by rw[fM];exact how) kA (k*ww) ww l[k] Mo (HF.out _ (ZV aB)) (Bp.out _ (ZV aB)) (by rw[fM];exact VI) (by rw[Uy];exact CD HF.out hk) (by omega) (by omega);have UB:k*ww<=16384:=by omega
     rw[fM,Uy,jak k ww,← ql ww aB,jak ww k]at hPut;have HPut:=ae hPut;clear bo how kA Uy ay hPut VI;generalize l[k]=n at *;generalize k*ww=t0 at *;go_wp2_with fail;refine HPut.out.mono ?_;rintro e w5 ⟨rfl,⟨bs',fT,hl5,h85,hp5⟩,bq⟩;have dH:=ae fT;have aR:=ae (HB.out.trans bq);have HL5:=ae hl5;have HP5:=ae hp5;clear fT bq hl5 hp5;go_wp2_with fail;go_roundw
     case rel=>exact⟨k+1,by go_num,by omega,⟨bs',dH.out,HL5.out,h85,HP5.out⟩,aR.out⟩
     case measure=>simp[intOf];omega
    ·obtain rfl:k=l.length:=by omega
     rw[ZY]at Uy;have HE:=ae (HP.out bs kA fM Uy)
     have HO:Hid (wr.ownsRow w3.heap.size 5 1 (.slice (some ⟨w3.heap.size,0,none⟩) L L) (be l ww).length (aE .u8 (be l ww))):=by
      show World.ownsRow _ _ _ _ _ _ _
      rw[← HE.out,fM];exact how
     clear how fM kA Uy ay HP HE;go_wp2_with fail;go_ret2
     exact⟨_,rfl,HO.out,HB.out⟩
  ·have ln:can l (ww:Int)=false:=by
    unfold can;simp only[decide_eq_false_iff_not,jah];rintro⟨_,_,_,h⟩;exact JY h
   have uF:((wd l:Nat):Int) > (ww:Int):=by omega
   rw[ln,vL ln];clear eO kC ln JY SL Mn hm;go_enter Tryz.func171,Tryz.ntmps171
   go_wp2_with fail;refine(HA.out _).mono ?_;rintro e w1 ⟨rfl,rfl⟩;go_wp2_with fail;refine HW.out.mono ?_;rintro e w2 ⟨rfl,rfl⟩;go_wp2_with fail;go_ret2
   exact⟨_,rfl,gl _ _ _,ZQ _ _⟩
 ·rw[decide_eq_false xk]at HA
  have ln:can l x=false:=by
   unfold can;simp only[decide_eq_false_iff_not];rintro⟨h1,h2,h3,_⟩;exact xk ⟨by omega,by omega,h1,h2⟩
  rw[ln,vL ln];clear eO kC ln xk hm HW;go_enter Tryz.func171,Tryz.ntmps171
  go_wp2_with fail;refine(HA.out _).mono ?_;rintro e w1 ⟨rfl,rfl⟩;go_wp2_with fail;go_ret2
  exact⟨_,rfl,gl _ _ _,ZQ _ _⟩
theorem vM{b:List Nat}{n x:Int}(h:unE b n x≠0):unR b n x=[]:=by unfold unR;rw[if_neg h]
theorem Tr{b:List Nat}{n x:Int}(h:¬ (0<=n/\n<=256/\0<=x/\x<=64)):unE b n x=1:=by unfold unE;rw[if_neg h]
theorem CE{b:List Nat}{N ww:Nat}(hN:N<=256)(hw:ww<=64)(h:¬ (b.length=by8 (N*ww)/\pk 8 b<2 ^ (N*ww))):unE b N ww=40:=by
 unfold unE;rw[if_pos ⟨by omega,by omega,by omega,by omega⟩];simp only[jah];rw[if_neg h]
theorem WS{b:List Nat}{N ww:Nat}(hN:N<=256)(hw:ww<=64)(h:b.length=by8 (N*ww))(h2:pk 8 b<2 ^ (N*ww)):unE b N ww=0:=by
 unfold unE;rw[if_pos ⟨by omega,by omega,by omega,by omega⟩];simp only[jah];rw[if_pos ⟨h,h2⟩]
theorem WT{b:List Nat}{N ww:Nat}(h:unE b N ww=0):unR b N ww=dig ww N (pk 8 b):=by
 unfold unR;rw[if_pos h];rfl
theorem te{w:World}{v:Value}{b:List Nat}(hs:Sx .u8 w v b)(h8:∀ x∈b,x<256)(n x:Int) :
  Calls Tryz.prog 294 #[v,.int .i64 n,.int .i64 x] w fun e w'=>∃ v',e=.returned (.tuple #[v',.int .i64 (unE b n x:Int)])/\w'.ownsRow w.heap.size 92 1 v' (unR b n x).length (aE .u64 (unR b n x))/\Below w.heap.size w w':=by
 have HA:=ae (td n x);by_cases xk:0<=n/\n<=256/\0<=x/\x<=64
 ·rw[decide_eq_true xk]at HA
  obtain⟨qa,Ri,SL,Mn⟩:=xk;obtain⟨ww,rfl⟩:=jbg SL;obtain⟨N,rfl⟩:=jbg qa;have Mo:ww<=64:=by omega
  have hN:N<=256:=by omega
  have hc:N*ww<=16384:=ZZ (jbd hN Mo) (by omega);have hmul:(N:Int)*(ww:Int)=((N*ww:Nat):Int):=by simp
  have sU:=ae (qx (N*ww) hc);by_cases bQ:b.length=by8 (N*ww)
  ·have pe:=ae (KR hs h8 (N*ww) hc bQ)
   have hleq:((b.length:Int) != ((by8 (N*ww):Nat):Int))=false:=by rw[bQ];simp
   by_cases fU:pk 8 b<2 ^ (N*ww)
   ·rw[decide_eq_true fU]at pe
    have HE:=ae (WS hN Mo bQ fU);rw[HE.out,WT HE.out,dK];have gJ:=Fb (N*ww);have ru:=ae (fun(W:World) (hW:Sx .u8 W v b) (t0:Nat) (h1:t0+ww<=8*b.length) (h2:t0<=16384)=>N7 hW h8 t0 ww Mo h1 h2)
    have cP:Hid (∀ k,k<N->k*ww+ww<=8*b.length/\k*ww<=16384):=ae (fun k hk=>by
     have h1:(k+1)*ww<=N*ww:=Nat.mul_le_mul_right _ hk;rw[jap,jaO]at h1;rw[bQ];omega)
    have HS:=ae hs;obtain⟨i0,hi,ce,hz1',bm⟩:=info_parts pt;obtain⟨a,cap,rfl,hm,eO⟩:=hs;have oI:b.length<=2048:=by rw[bQ];unfold by8;omega
    clear eO h8 fU bQ SL Mn qa Ri hm gJ;generalize by8 (N*ww)=L at *;generalize N*ww=c at *;obtain⟨D,hD⟩:∃ D,dig ww N (pk 8 b)=D:=⟨_,rfl⟩;have hDl:D.length=N:=by rw[← hD,dK]
    have HG:Hid (∀ k (h:k<N),D[k]?=some (pk 8 b / 2 ^ (k*ww) % 2 ^ ww)):=ae (fun k h=>by rw[← hD,Am ww N _ k h,jak]);rw[hD];have kF:=ae hDl;clear hD hDl;go_enter Tryz.func294,Tryz.ntmps294
    go_wp2_with fail;refine(HA.out _).mono ?_;rintro e w1 ⟨rfl,rfl⟩;go_wp2_with fail;refine(sU.out _).mono ?_;rintro e w2 ⟨rfl,rfl⟩;go_wp2_with fail;refine pe.out.mono ?_;rintro e w3 ⟨rfl,rfl⟩;go_wp2_with (first | (refine wpList_make_full _ rfl _ _ 142 rfl w3.heap.size 92 i0 (.int .u64 0) 1 Tryz.underlying142 hi ce hz1' .i64 .i64 _ _ N rfl rfl ?m1 ?m2 ?m3 ?m4 ?m5 ?_))
    case m1=>rfl
    case m2=>rfl
    case m3=>rw[bm];omega
    case m4=>unfold maxLen;omega
    case m5=>omega
    intro w4 gD iL;have bv:Below w3.heap.size w3 w4:=(ZQ _ _).grown iL (ZR _) (fun k hk=>by cases hk)
    have ho4':w4.ownsRow w3.heap.size 92 1 (.slice (some ⟨w3.heap.size,0,none⟩) N N) N (aE .u64 (fill D 0)):=by
     rw[nZ,kF.out,← jS];simpa using gD
    have eP:=ae ho4';have b9:=ae bv;clear gD iL bv ho4';go_wp2_with fail;go_loopw [33] (fun i wr=>∃ k:Nat,i=.int .i64 (k:Int)/\k<=N/\wr.ownsRow w3.heap.size 92 1 (.slice (some ⟨w3.heap.size,0,none⟩) N N) N (aE .u64 (fill D k))/\Below w3.heap.size w3 wr) (fun i _=>N-(intOf i).toNat)
    case atStart=>exact⟨0,rfl,by omega,eP.out,b9.out⟩
    case round =>
     obtain⟨k,rfl,hk,how,ay⟩:=hrel;have HB:=ae ay;by_cases aB:k<N
     ·have hkD:k<D.length:=by rw[kF.out];exact aB
      have hval:D[k]=pk 8 b / 2 ^ (k*ww) % 2 ^ ww:=by
       have:=HG.out k aB;rw[List.getElem?_eq_getElem hkD]at this;exact Option.some.inj this
      have jM:k<(fill D k).length:=by rw[kN (by omega)];exact hkD
      have dP:=(how.cellAt k (by omega)).trans (bR jM);have lv:=how.frozenAt k;have hST:=how.stored k (.int .u64 ((D[k]:Nat):Int));rw[jY,qw hkD]at hST;have Rj:=ae hST;have hkw:(k:Int)*(ww:Int)=((k*ww:Nat):Int):=by simp
      have UB:=(cP.out k aB).2;have hTake:=ru.out wr (HS.out.kept ay) (k*ww) (cP.out k aB).1 UB;rw[← hval]at hTake;have HTake:=ae hTake;have Mk:=(how.lt w3.heap.size rfl).2;clear how ay hST hTake hval;generalize (fill D k)[k]=y at *;generalize D[k]=z at *;generalize k*ww=t0 at *;go_wp2_with fail;refine HTake.out.mono ?_;rintro e w5 ⟨rfl,rfl⟩;go_wp2_with fail;go_roundw
      case rel=>exact⟨k+1,by go_num,by omega,Rj.out.1,cL HB.out (ZR _) _⟩
      case measure=>simp[intOf];omega
     ·obtain rfl:k=N:=by omega
      have HO:Hid (wr.ownsRow w3.heap.size 92 1 (.slice (some ⟨w3.heap.size,0,none⟩) k k) k (aE .u64 D)):=by
       show World.ownsRow _ _ _ _ _ _ _
       have e:fill D k=D:=by
        have:=qv D;rwa[kF.out]at this
       rw[e]at how;exact how
      clear how ay;go_wp2_with fail;go_ret2
      exact⟨_,rfl,HO.out,HB.out⟩
   ·rw[decide_eq_false fU]at pe
    have hE:=CE (b:=b) hN Mo (fun h=>fU h.2);rw[hE,vM (by rw[hE];omega)];obtain⟨a,cap,rfl,hm,eO⟩:=hs;have oI:b.length<=2048:=by rw[bQ];unfold by8;omega
    clear eO h8 fU bQ SL Mn qa Ri hm hE;generalize by8 (N*ww)=L at *;generalize N*ww=c at *;go_enter Tryz.func294,Tryz.ntmps294
    go_wp2_with fail;refine(HA.out _).mono ?_;rintro e w1 ⟨rfl,rfl⟩;go_wp2_with fail;refine(sU.out _).mono ?_;rintro e w2 ⟨rfl,rfl⟩;go_wp2_with fail;refine pe.out.mono ?_;rintro e w3 ⟨rfl,rfl⟩;go_wp2_with fail;go_ret2
    exact⟨_,rfl,gl _ _ _,ZQ _ _⟩
  ·have hleq:((b.length:Int) != ((by8 (N*ww):Nat):Int))=true:=by
    rw[bne_iff_ne];intro h;exact bQ (by omega)
   have hE:=CE (b:=b) hN Mo (fun h=>bQ h.1);rw[hE,vM (by rw[hE];omega)];obtain⟨a,cap,rfl,hm,eO⟩:=hs;have oI:b.length<=9223372036854775807:=by unfold maxLen at hm;omega
   clear eO h8 bQ SL Mn qa Ri hm hE;generalize by8 (N*ww)=L at *;generalize N*ww=c at *;go_enter Tryz.func294,Tryz.ntmps294
   go_wp2_with fail;refine(HA.out _).mono ?_;rintro e w1 ⟨rfl,rfl⟩;go_wp2_with fail;refine(sU.out _).mono ?_;rintro e w2 ⟨rfl,rfl⟩;go_wp2_with fail;go_ret2
   exact⟨_,rfl,gl _ _ _,ZQ _ _⟩
 ·rw[decide_eq_false xk]at HA
  have hE:=Tr (b:=b) xk;rw[hE,vM (by rw[hE];omega)];obtain⟨a,cap,rfl,hm,eO⟩:=hs;clear eO h8 xk hm hE;go_enter Tryz.func294,Tryz.ntmps294
  go_wp2_with fail;refine(HA.out _).mono ?_;rintro e w1 ⟨rfl,rfl⟩;go_wp2_with fail;go_ret2
  exact⟨_,rfl,gl _ _ _,ZQ _ _⟩
end Go.Proofs.YtpljdjmpamjkhaaGreatDoor
