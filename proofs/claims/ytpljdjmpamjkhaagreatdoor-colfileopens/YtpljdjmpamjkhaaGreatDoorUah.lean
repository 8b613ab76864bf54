import Derived.Test.YtpljdjmpamjkhaaGreatDoorUag
import Derived.Test.YtpljdjmpamjkhaaGreatDoorUad
import Derived.Test.YtpljdjmpamjkhaaGreatDoorUae
set_option linter.unusedVariables false
set_option maxRecDepth 100000
set_option maxHeartbeats 4000000
set_option linter.unusedSimpArgs false
namespace Go.Proofs.YtpljdjmpamjkhaaGreatDoor
theorem GJ(t:Nat):2 ^ t=2 ^ (t % 8)*2 ^ (8*(t / 8)):=by
 rw[← jeh];congr 1
 omega
theorem Dq{bs:List Nat}{t:Nat}(h:∀ x∈bs,x<256)(ht:pk 8 bs<2 ^ t)(hj:t / 8<bs.length):bs[t / 8]<2 ^ (t % 8):=by
 rw[QO (w:=8) h hj];refine je0 (Nat.mod_le _ _) ?_;rw[Nat.div_lt_iff_lt_mul (jea _),← GJ];exact ht
theorem sJ{r:Nat}(h:r<8):2 ^ r*2 ^ (8-r)=256:=by
 rw[← jeh,show r+(8-r)=8 by omega]
theorem jaj{x n r:Nat}(hr:r<8)(hx:x<2 ^ r):x+n % 2 ^ (8-r)*2 ^ r<256:=by
 have h1:=Nat.mod_lt n (jea (8-r));have h2:(n % 2 ^ (8-r)+1)*2 ^ r<=2 ^ (8-r)*2 ^ r:=Nat.mul_le_mul_right _ h1;rw[jdP (2 ^ (8-r)),sJ hr,jdV,jem]at h2;omega
theorem Ro{bs:List Nat}{t:Nat}(hj:t / 8<bs.length)(c:Nat):pk 8 (bs.set (t / 8) (bs[t / 8]+c*2 ^ (t % 8)))=pk 8 bs+c*2 ^ t:=by
 have h:=QN 8 (bs[t / 8]+c*2 ^ (t % 8)) hj;rw[jdV,jev,← GJ]at h;omega
theorem Rp{bs:List Nat}{j c:Nat}(h:∀ x∈bs,x<256)(hc:c<256):∀ x∈bs.set j c,x<256:=by
 intro x hx;rcases List.mem_or_eq_of_mem_set hx with hx | rfl
 ·exact h x hx
 ·exact hc
theorem Wl(V n t s:Nat):V+n % 2 ^ s*2 ^ t+n / 2 ^ s*2 ^ (t+s)=V+n*2 ^ t:=by
 have h:=Nat.mod_add_div n (2 ^ s);have h2:=jdm (·*2 ^ t) h;simp only[jdV]at h2;rw[jeh,jdP (2 ^ t),← jev,jdP (n / 2 ^ s)];omega
theorem zf{V n t s:Nat}(h:V<2 ^ t):V+n % 2 ^ s*2 ^ t<2 ^ (t+s):=by
 have h1:=Nat.mod_lt n (jea s);have h2:(n % 2 ^ s+1)*2 ^ t<=2 ^ s*2 ^ t:=Nat.mul_le_mul_right _ h1;rw[jeh,jdP (2 ^ t)];rw[jdV,jem]at h2;omega
theorem Rq{n w s:Nat}(h:n<2 ^ w):n / 2 ^ s<2 ^ (w-s):=by
 rw[Nat.div_lt_iff_lt_mul (jea _),← jeh];exact jdD h (jew (by omega) (by omega))
theorem zg{bs:List Nat}{t:Nat}(h:∀ x∈bs,x<256)(hj:t / 8<bs.length):bs[t / 8] / 2 ^ (t % 8)=pk 8 bs / 2 ^ t % 2 ^ (8-t % 8):=by
 rw[QO (w:=8) h hj,show (2:Nat) ^ 8=2 ^ (t % 8)*2 ^ (8-t % 8) from (sJ (by omega)).symm,Nat.mod_mul_right_div_self,je7,
  jdP (2 ^ (8*(t / 8))),← GJ]
theorem Rr(D t a s:Nat):D / 2 ^ t % 2 ^ a+D / 2 ^ (t+a) % 2 ^ s*2 ^ a=D / 2 ^ t % 2 ^ (a+s):=by
 rw[jeh 2 a s,Nat.mod_mul,je7,← jeh,jdP (2 ^ a)]
theorem GK{bs:List Nat}{c:Nat}(h:∀ x∈bs,x<256)(hl:bs.length=by8 c)(h0:c % 8=0):pk 8 bs<2 ^ c:=by
 have:=CW (w:=8) h;rw[hl]at this;rwa[show 8*by8 c=c by unfold by8;omega]at this
theorem GL{bs:List Nat}{c:Nat}(h:∀ x∈bs,x<256)(hl:bs.length=by8 c)(h0:c % 8≠0)(hj:bs.length-1<bs.length) :
  bs[bs.length-1] / 2 ^ (c % 8)=0↔pk 8 bs<2 ^ c:=by
 have aC:=CW (w:=8) h;have e:bs.length-1=c / 8:=by rw[hl];unfold by8;omega
 have hc:c / 8<bs.length:=by omega
 have e2:bs[bs.length-1]=bs[c / 8]:=by simp only[e]
 rw[e2,zg h hc,jd7]
 ·rw[Nat.div_eq_zero_iff]
  have:=jea c;omega
 ·rw[Nat.div_lt_iff_lt_mul (jea _),← jeh,show 8-c % 8+c=8*bs.length by rw[hl];unfold by8;omega]
  exact aC
theorem MD{t:Nat}(h:t % 8=0):by8 (t+1)=by8 t+1/\t / 8=by8 t:=by unfold by8;omega
theorem ME{t:Nat}(h:t % 8≠0):by8 (t+1)=by8 t/\t / 8<by8 t:=by unfold by8;omega
theorem qM(x k:Nat):x % 2 ^ (k+1)=x % 2 ^ k+2 ^ k*(x / 2 ^ k % 2):=Nat.mod_pow_succ
def fill(l:List Nat)(i:Nat):List Nat:=l.take i++List.replicate (l.length-i) 0
theorem oF(l:List Nat):fill l 0=List.replicate l.length 0:=by simp[fill]
theorem qN(l:List Nat):fill l l.length=l:=by simp[fill]
theorem kU{l:List Nat}{i:Nat}(h:i<=l.length):(fill l i).length=l.length:=by simp[fill];omega
theorem qO{l:List Nat}{i:Nat}(h:i<l.length):(fill l i).set i l[i]=fill l (i+1):=by
 unfold fill
 rw[List.set_append_right _ _ (by simp;omega),jdo,jeg (by omega),jeH,show l.length-i=(l.length-(i+1))+1 by omega,
  List.replicate_succ,jdr,jdx h,jdw]
 rfl
theorem zh{l bs:List Nat}{w:Nat}(hc:can l w=true)(hb:∀ x∈bs,x<256)(hl:bs.length=by8 (l.length*w))(h:pk 8 bs=pk w l):bs=bg l w:=by
 unfold bg;rw[jdf hc,jdM,← h,← hl];exact(AK hb).symm
open Go.RowKit Go.Lib
theorem jak{a b:Nat}(ha:a<18446744073709551616)(hb:b<18446744073709551616):bits .or .u64 (a:Int) (b:Int)=((a ||| b:Nat):Int):=by
 show IntKind.u64.wrap ((BitVec.ofInt 64 (a:Int) ||| BitVec.ofInt 64 (b:Int)).toNat:Int)=_
 have e1:(BitVec.ofInt 64 (a:Int)).toNat=a:=by rw[BitVec.toNat_ofInt];omega
 have e2:(BitVec.ofInt 64 (b:Int)).toNat=b:=by rw[BitVec.toNat_ofInt];omega
 have h:=Nat.or_lt_two_pow (x:=a) (y:=b) (n:=64) ha hb;rw[BitVec.toNat_or,e1,e2,jdL];omega
theorem sK{w:World}{v:Value}{l:List Nat}(hs:Sx .u64 w v l)(kJ:∀ x∈l,x<18446744073709551616) :
  Calls Tryz.prog 202 #[v] w fun e w'=>e=.returned (.int .i64 (wd l:Int))/\w'=w:=by
 obtain⟨a,cap,rfl,hm,hc⟩:=hs;have oW:l.length<=9223372036854775807:=by unfold maxLen at hm;omega
 have HC:=ae hc;have Ca:=ae kJ;clear hc hm kJ;go_enter Tryz.func202,Tryz.ntmps202
 go_wp2_with fail;go_loopw [3,9] (fun al i w'=>w'=w/\∃ k:Nat,k<=l.length/\i=.int .i64 (k:Int)/\al=.int .u64 (qE (l.take k):Int)) (fun _ i _=>l.length-(intOf i).toNat)
 case atStart=>exact⟨rfl,0,by omega,rfl,rfl⟩
 case round =>
  obtain⟨rfl,k,hk,rfl,rfl⟩:=hrel;by_cases aC:k<l.length
  ·obtain⟨b,off,rfl,hb,bq⟩:=HC.o (by omega)
   have dR:=bq k aC;have hx:=or64 Ca.o k;have hor:=jak hx (Ca.o l[k] (jdl aC));have HT:=ae (mR aC);clear bq hx;generalize l[k]=x at *;generalize qE (l.take k)=y at *;go_wp2_with fail;go_roundw
   case rel=>exact⟨trivial,k+1,by omega,by go_num,by rw[HT.o]⟩
   case measure=>simp[intOf];omega
  ·obtain rfl:k=l.length:=by omega
   rw[jdp];have hx:=or64 Ca.o l.length;rw[jdp]at hx;have hw:=Gu Ca.o;have HW:jfb (wd l=cU (qE l)):=rfl;clear HC Ca;generalize qE l=y at *;go_wp2_with fail;go_loopw [3,6] (fun al i w'=>w'=wr/\∃ n k:Nat,al=.int .u64 (n:Int)/\i=.int .i64 (k:Int)/\n<=y/\k+cU n=wd l) (fun al _ _=>(intOf al).toNat)
   case atStart=>exact⟨rfl,y,0,rfl,rfl,jdh _,by rw[HW.o,jdK]⟩
   case round =>
    obtain⟨rfl,n,k,rfl,rfl,hn,fO⟩:=hrel;by_cases h0:((n:Int)==0)=true
    ·have h0':n=0:=by simpa using h0
     subst h0';have HK:jfb (k=wd l):=by show k=wd l;simpa [cU]using fO
     clear fO HW;go_wp2_with fail;go_ret
     rw[← HK.o];exact⟨rfl,rfl⟩
    ·have h0f:((n:Int)==0)=false:=by simpa using h0
     have qs:n≠0:=by simpa using h0
     have hbh:=Ml qs;have HB:=ae fO;have HBH:=ae hbh;have pu:k<=64:=(by omega);clear h0 fO hbh;go_wp2_with fail;go_roundw
     case rel=>exact⟨trivial,n / 2,k+1,by go_num,by go_num,by omega,by have:=HB.o;have:=HBH.o;omega⟩
     case measure=>simp[intOf];omega
theorem tG(n w:Int)(W:World):Calls Tryz.prog 201 #[.int .i64 n,.int .i64 w] W fun e w'=>e=.returned (.bool (decide (0<=n/\n<=256/\0<=w/\w<=64)))/\w'=W:=by
 by_cases h1:n>=0
 ·by_cases h2:n<=256
  ·by_cases h3:w>=0
   ·by_cases h4:w<=64
    ·rw[jdy (by omega)]
     go_enter Tryz.func201,Tryz.ntmps201
     go_wp2_with fail;go_ret
     exact⟨rfl,rfl⟩
    ·rw[jds (by omega)]
     go_enter Tryz.func201,Tryz.ntmps201
     go_wp2_with fail;go_ret
     exact⟨rfl,rfl⟩
   ·rw[jds (by omega)]
    go_enter Tryz.func201,Tryz.ntmps201
    go_wp2_with fail;go_ret
    exact⟨rfl,rfl⟩
  ·rw[jds (by omega)]
   go_enter Tryz.func201,Tryz.ntmps201
   go_wp2_with fail;go_ret
   exact⟨rfl,rfl⟩
 ·rw[jds (by omega)]
  go_enter Tryz.func201,Tryz.ntmps201
  go_wp2_with fail;go_ret
  exact⟨rfl,rfl⟩
theorem qP(c:Nat)(hc:c<=16384)(W:World):Calls Tryz.prog 203 #[.int .i64 (c:Int)] W fun e w'=>e=.returned (.int .i64 (by8 c:Int))/\w'=W:=by
 have HE:jfb (((by8 c:Nat):Int)=((c:Int)+8-1) / 8):=by show _=_;unfold by8;omega
 go_enter Tryz.func203,Tryz.ntmps203
 go_wp2_with fail;go_ret
 rw[HE.o];exact⟨rfl,rfl⟩
theorem Ld{x j:Nat}:(x:Int) / 2 ^ j > 0↔j<cU x:=by
 have h:=eK (n:=x) (w:=j);have h2:((x / 2 ^ j:Nat):Int)=(x:Int) / 2 ^ j:=by simp
 rw[← h2]
 have h3:x / 2 ^ j=0↔x<2 ^ j:=by
  rw[Nat.div_eq_zero_iff];have:=jea j;omega
 have h4:x / 2 ^ j=0↔cU x<=j:=h3.trans h.symm;clear h h2 h3;generalize x / 2 ^ j=q at *;omega
theorem jP{w:World}{v:Value}{l:List Nat}(hs:Sx .u64 w v l)(kJ:∀ x∈l,x<18446744073709551616) :
  Calls Tryz.prog 175 #[v] w fun e w'=>e=.returned (.int .i64 (wd l:Int))/\w'=w:=by
 obtain⟨a,cap,rfl,hm,hc⟩:=hs;have oW:l.length<=9223372036854775807:=by unfold maxLen at hm;omega
 have HC:=ae hc;have Ca:=ae kJ;clear hc hm kJ;go_enter Tryz.func175,Tryz.ntmps175
 go_wp2_with fail;go_loopw [3,4] (fun ww i w'=>w'=w/\∃ k:Nat,k<=l.length/\i=.int .i64 (k:Int)/\ww=.int .i64 (wd (l.take k):Int)) (fun _ i _=>l.length-(intOf i).toNat)
 case atStart=>exact⟨rfl,0,by omega,rfl,by rw[jeF,QQ];rfl⟩
 case round =>
  obtain⟨rfl,k,hk,rfl,rfl⟩:=hrel;by_cases aC:k<l.length
  ·obtain⟨b,off,rfl,hb,bq⟩:=HC.o (by omega)
   have dR:=bq k aC;have hx:=Ca.o l[k] (jdl aC);have HT:=ae (qF aC);have hw64:wd (l.take k)<=64:=Gu (fun x hx=>Ca.o x (jd3 hx));have hb64:cU l[k]<=64:=eK.2 hx;clear bq;generalize l[k]=x at *;generalize wd (l.take k)=y at *;go_wp2_with fail;go_loopw [3] (fun ww w'=>w'=wr/\∃ j:Nat,ww=.int .i64 (j:Int)/\y<=j/\j<=64/\j<=max y (cU x)) (fun ww _=>64-(intOf ww).toNat)
   case atStart=>exact⟨rfl,y,rfl,by omega,by omega,by omega⟩
   case round =>
    obtain⟨rfl,j,rfl,h1,h2,h3⟩:=hrel;by_cases hj:j<64
    ·by_cases YT:j<cU x
     ·have tq:(x:Int) / 2 ^ j > 0:=Ld.2 YT
      have Qd:(j:Int)<64:=(by omega);go_wp2_with fail;go_roundw
      case rel=>exact⟨trivial,j+1,by go_num,by omega,by omega,by omega⟩
      case measure=>simp[intOf];omega
     ·have tq:¬ (x:Int) / 2 ^ j > 0:=fun h=>YT (Ld.1 h)
      have HJ:jfb (j=max y (cU x)):=by show _=_;omega
      have Qd:(j:Int)<64:=(by omega);clear YT h3;go_wp2_with fail;go_roundw
      case rel=>exact⟨trivial,k+1,by omega,by go_num,by rw[HT.o,← HJ.o]⟩
      case measure=>simp[intOf];omega
    ·have HJ:jfb (j=max y (cU x)):=by show _=_;omega
     have Qd:¬ (j:Int)<64:=(by omega);clear h3;go_wp2_with fail;go_roundw
     case rel=>exact⟨trivial,k+1,by omega,by go_num,by rw[HT.o,← HJ.o]⟩
     case measure=>simp[intOf];omega
  ·obtain rfl:k=l.length:=by omega
   rw[jdp];go_wp2_with fail;go_ret
   exact⟨rfl,rfl⟩
theorem Dr{x u:Nat}:(((x:Int) / 2 ^ u)==0)=decide (x / 2 ^ u=0):=by
 have h2:((x / 2 ^ u:Nat):Int)=(x:Int) / 2 ^ u:=by simp
 rw[← h2];rw[jeI];simp only[beq_iff_eq,jd2];exact Int.natCast_eq_zero
theorem MF{w:World}{v:Value}{bs:List Nat}(hs:Sx .u8 w v bs)(h8:∀ x∈bs,x<256)(c:Nat)(hc:c<=16384)(hl:bs.length=by8 c) :
  Calls Tryz.prog 303 #[v,.int .i64 (c:Int)] w fun e w'=>e=.returned (.bool (decide (pk 8 bs<2 ^ c)))/\w'=w:=by
 obtain⟨a,cap,rfl,hm,eQ⟩:=hs;by_cases h0:c % 8=0
 ·have h0b:((c:Int) % 8==0)=true:=by simp;omega
  have HE:=ae (jdy (GK h8 hl h0));clear eQ h8 hl hm h0;go_enter Tryz.func303,Tryz.ntmps303
  go_wp2_with fail;go_ret
  rw[HE.o];exact⟨rfl,rfl⟩
 ·have h0b:((c:Int) % 8==0)=false:=by simp;omega
  have tq:0<bs.length:=by rw[hl];unfold by8;omega
  have oV:bs.length<=2048:=by rw[hl];unfold by8;omega
  obtain⟨b,off,rfl,hb,bq⟩:=eQ tq;have dR:=bq (bs.length-1) (by omega);have HX:=ae (GL h8 hl h0 (by omega));have hx:=h8 _ (jdl (h:=(by omega:bs.length-1<bs.length)));have hsub:(bs.length:Int)-1=((bs.length-1:Nat):Int):=by omega
  have aC:bs.length-1<bs.length:=by omega
  obtain⟨u,hu⟩:∃ u,c % 8=u:=⟨_,rfl⟩;have hui:(c:Int) % 8=(u:Int):=by omega
  have hu8:u<8:=by omega
  rw[hui]at h0b;rw[hu]at HX;generalize bs[bs.length-1]=x at *;clear bq eQ h8 hl hm h0 hu;have HF:=ae (Dr (x:=x) (u:=u));generalize bs.length-1=n at *;generalize bs.length=L at *;go_enter Tryz.func303,Tryz.ntmps303
  go_wp2_with fail;go_ret
  refine⟨?_,rfl⟩;rw[← decide_eq_decide.2 HX.o,← HF.o];rfl
theorem Wm{D t0 t k s y n:Nat}(hn:D / 2 ^ t0 % 2 ^ k % 18446744073709551616=n)(hy:y=D / 2 ^ t % 2 ^ s)(ht:t=t0+k)(hk:k<64)(hs:s<=8) :
  bits .or .u64 (n:Int) (IntKind.u64.wrap ((y:Int)*2 ^ k))=((D / 2 ^ t0 % 2 ^ (k+s) % 18446744073709551616:Nat):Int):=by
 have kJ:(18446744073709551616:Nat)=2 ^ k*2 ^ (64-k):=by rw[← jeh,show k+(64-k)=64 by omega]
 have kG:2 ^ k<=18446744073709551616:=by rw[kJ];exact Nat.le_mul_of_pos_right _ (jea _)
 have hm:=Nat.mod_lt (D / 2 ^ t0) (jea k);rw[jd7 (jdD hm kG)]at hn;rw[hn]at hm;have nV:=Rr D t0 k s;rw[← ht,hn,← hy]at nV;rw[← nV];have e:(y:Int)*2 ^ k=((y*2 ^ k:Nat):Int):=by simp
 have hdvd:y*2 ^ k % 18446744073709551616 % 2 ^ k=0:=by
  rw[kJ,Nat.mod_mul_right_mod,Nat.mul_mod_left]
 have aC:y*2 ^ k % 18446744073709551616<2 ^ k*2 ^ (64-k):=by rw[← kJ];omega
 have hw:IntKind.u64.wrap (((y*2 ^ k:Nat)):Int)=((y*2 ^ k % 18446744073709551616:Nat):Int):=by rw[jdL];omega
 have hmod:(n+y*2 ^ k) % 18446744073709551616=(n+y*2 ^ k % 18446744073709551616) % 18446744073709551616:=by omega
 rw[e,hw,hmod];generalize y*2 ^ k % 18446744073709551616=z at *;have hz:=Nat.div_add_mod z (2 ^ k);rw[hdvd,jd9]at hz;rw[← hz]at aC;have hq:=Nat.lt_of_mul_lt_mul_left aC;have nc:2 ^ k*(z / 2 ^ k+1)<=2 ^ k*2 ^ (64-k):=jei _ hq;rw[← kJ,jep,jeG,hz]at nc;rw[jd7 (by omega)];have hj:=bits_join_low .u64 64 (by decide) wraps_u64 k (n:Int) (z:Int) (by omega) (by exact_mod_cast hm) (by omega) (by omega) (by exact_mod_cast hdvd) (by omega);rw[hj];omega
theorem Wn{ww:Nat}(h:ww<=64):IntKind.u64.wrap (IntKind.u64.wrap (2 ^ ww)-1)=((2 ^ ww-1:Nat):Int):=by
 have e:(2:Int) ^ ww=((2 ^ ww:Nat):Int):=by simp
 have hp:=jea ww;rcases jdJ ww 64 with h1 | h1
 ·have:2 ^ ww<2 ^ 64:=Nat.pow_lt_pow_right (by omega) h1
  rw[e,jdL,jdL];omega
 ·obtain rfl:ww=64:=by omega
  decide
theorem MG{D t0 k n ww:Nat}(hn:D / 2 ^ t0 % 2 ^ k % 18446744073709551616=n)(kJ:ww<=64)(hk:ww<=k) :
  bits .and .u64 (n:Int) (IntKind.u64.wrap (IntKind.u64.wrap (2 ^ ww)-1))=((D / 2 ^ t0 % 2 ^ ww:Nat):Int):=by
 rw[Wn kJ];have hp:=jea ww;have oV:2 ^ ww<=2 ^ 64:=jew (by omega) kJ;rw[(bits_nat .u64 64 (by decide) wraps_u64 n (2 ^ ww-1) (by omega) (by omega)).1,Nat.and_two_pow_sub_one_eq_mod,← hn];rw[Nat.mod_mod_of_dvd _ (show 2 ^ ww ∣ 18446744073709551616 from Nat.pow_dvd_pow (n:=64) 2 kJ),Nat.mod_mod_of_dvd _ (Nat.pow_dvd_pow 2 hk)]
theorem Rt{w:World}{v:Value}{bs:List Nat}(hs:Sx .u8 w v bs)(h8:∀ x∈bs,x<256)(t0 ww:Nat)(hw:ww<=64)(ht:t0+ww<=8*bs.length)(YU:t0<=16384) :
  Calls Tryz.prog 304 #[v,.int .i64 (t0:Int),.int .i64 (ww:Int)] w fun e w'=>e=.returned (.int .u64 ((pk 8 bs / 2 ^ t0 % 2 ^ ww:Nat):Int))/\w'=w:=by
 obtain⟨a,cap,rfl,hm,eQ⟩:=hs;have oW:bs.length<=9223372036854775807:=by unfold maxLen at hm;omega
 have HC:=ae eQ;have H8:=ae h8;clear eQ h8 hm;go_enter Tryz.func304,Tryz.ntmps304
 go_wp2_with fail;go_loopw [1,7,8] (fun at_ n have_ w'=>w'=w/\∃ k t:Nat,k<=ww+7/\t=t0+k/\at_=.int .i64 (t:Int)/\have_=.int .i64 (k:Int)/\n=.int .u64 ((pk 8 bs / 2 ^ t0 % 2 ^ k % 18446744073709551616:Nat):Int)) (fun _ _ i _=>ww-(intOf i).toNat)
 case atStart=>exact⟨rfl,0,t0,by omega,rfl,rfl,rfl,by simp[Nat.mod_one]⟩
 case round =>
  obtain⟨rfl,k,t,hk,XD,rfl,rfl,rfl⟩:=hrel;by_cases aC:k<ww
  ·obtain⟨b,off,rfl,hb,bq⟩:=HC.o (by omega)
   have Qe:t / 8<bs.length:=(by omega);have dR:=bq (t / 8) Qe;have HF:=ae (zg H8.o Qe);have hx:=H8.o _ (jdl Qe);have rP:=ae XD;have ht1:t<=20000:=(by omega);generalize bs[t / 8]=x at *;obtain⟨j,hj⟩:∃ j,t / 8=j:=⟨_,rfl⟩;obtain⟨r,hr⟩:∃ r,t % 8=r:=⟨_,rfl⟩;obtain⟨s,Pp⟩:∃ s,8-r=s:=⟨_,rfl⟩;obtain⟨y,hy⟩:∃ y,x / 2 ^ r=y:=⟨_,rfl⟩;obtain⟨n,hn⟩:∃ n,pk 8 bs / 2 ^ t0 % 2 ^ k % 18446744073709551616=n:=⟨_,rfl⟩;rw[hr,hy,Pp]at HF;rw[hj]at dR Qe;have hji:(t:Int) / 8=(j:Int):=(by omega);have Cv:(t:Int) % 8=(r:Int):=(by omega);have hsi:(8:Int)-(r:Int)=(s:Int):=(by omega);have hr8:r<8:=(by omega);have hs8:s<=8:=(by omega);have ek:1<=s:=(by omega);have hyi:(x:Int) / 2 ^ r=(y:Int):=by rw[← hy];simp
   have yx:y<256:=by rw[← hy];exact je0 (Nat.div_le_self _ _) hx
   rw[hn];have HN:=ae hn;have hor:=Wm HN.o HF.o rP.o (by omega) (by omega);have HK:jfb (k+s<=ww+7):=ae (by omega);have FV:k<=64:=(by omega);clear bq hn hy hr hj Pp XD;go_wp2_with fail;go_roundw
   case rel=>exact⟨trivial,k+s,t+s,HK.o,by have:=rP.o;omega,by go_num,by go_num,rfl⟩
   case measure=>simp[intOf];omega
  ·have rP:=ae XD
   clear XD HC;generalize hn:pk 8 bs / 2 ^ t0 % 2 ^ k % 18446744073709551616=n;have HN:=ae hn;have hnl:n<18446744073709551616:=by rw[← hn];exact Nat.mod_lt _ (by omega)
   clear hn;go_wp2_with fail;go_ret
   rw[← MG HN.o hw (by omega)];exact⟨rfl,rfl⟩
theorem oG{w:World}{B e n:Nat}{v:Value}{xs:List Value}(h:w.ownsRow B e 1 v n xs)(hp:0<n):∃ g cap,v=.slice (some ⟨g,0,none⟩) n cap/\B<=g/\g<w.heap.size:=by
 obtain⟨hl,h1⟩:=id h;rcases h1 with ⟨rfl,rfl⟩ | ⟨g,cap,cur,rfl,hb,hg,h4⟩
 ·omega
 ·exact⟨g,cap,rfl,hb,(Array.getElem?_eq_some_iff.1 hg).1⟩
theorem AU{w:World}{B e n:Nat}{v:Value}{xs:List Value}(h:w.ownsRow B e 1 v n xs):∃ a cap,v=.slice a n cap:=by
 obtain⟨hl,h1⟩:=id h;rcases h1 with ⟨rfl,rfl⟩ | ⟨g,cap,cur,rfl,hb,hg,h4⟩
 ·exact⟨none,0,rfl⟩
 ·exact⟨_,cap,rfl⟩
theorem cN{B:Nat}{a w:World}(h:Below B a w){g j:Nat}(hg:B<=g)(u:Value):Below B a (w.setCell ⟨g,j,none⟩ u):=h.setCell hg u
theorem jal{x m r z:Nat}(hr:r<8)(hx:x<2 ^ r)(hz:IntKind.u64.wrap ((m:Int)*2 ^ r)=(z:Int)) :
  bits .or .u8 (x:Int) ((z:Int) % 256)=((x+m % 2 ^ (8-r)*2 ^ r:Nat):Int):=by
 have e:(m:Int)*2 ^ r=((m*2 ^ r:Nat):Int):=by simp
 rw[e,jdL]at hz;have bn:(z:Int) % 256=((m*2 ^ r % 256:Nat):Int):=by omega
 have Fw:(256:Nat)=2 ^ (8-r)*2 ^ r:=by rw[jdP,sJ hr]
 have hm:m*2 ^ r % 256=m % 2 ^ (8-r)*2 ^ r:=by rw[Fw,Nat.mul_mod_mul_right]
 have hl:m*2 ^ r % 256<256:=Nat.mod_lt _ (by omega);have Cb:2 ^ r<=256:=by rw[Fw];exact Nat.le_mul_of_pos_left _ (jea _)
 have hd:m % 2 ^ (8-r)*2 ^ r % 2 ^ r=0:=Nat.mul_mod_left _ _;rw[hm]at hl bn;rw[bn];generalize m % 2 ^ (8-r)*2 ^ r=q at *;have hj:=bits_join_low .u8 8 (by decide) wraps_u8 r (x:Int) (q:Int) (by omega) (by exact_mod_cast hx) (by omega) (by omega) (by exact_mod_cast hd) (by omega);rw[hj];omega
theorem Wo{B:Nat}{w:World}{v:Value}{bs:List Nat}(aA:w.ownsRow B 5 1 v bs.length (aF .u8 bs))(h8:∀ x∈bs,x<256)(t0 ww n:Nat)(hw:ww<=64)(hn:n<2 ^ ww)
  (hn64:n<18446744073709551616) (ht:t0+ww<=8*bs.length) (hV:pk 8 bs<2 ^ t0) (YU:t0<=16384) (ja3:bs.length<=2048) :
  Calls Tryz.prog 204 #[v,.int .i64 (t0:Int),.int .i64 (ww:Int),.int .u64 (n:Int)] w fun e w'=>e=.returned (.tuple #[]) /\
   (∃ bs',w'.ownsRow B 5 1 v bs.length (aF .u8 bs')/\bs'.length=bs.length/\(∀ x∈bs',x<256)/\pk 8 bs'=pk 8 bs+n*2 ^ t0)/\Below B w w':=by
 obtain⟨T,hT⟩:∃ T,pk 8 bs+n*2 ^ t0=T:=⟨_,rfl⟩;rw[hT];obtain⟨E,hE⟩:∃ E,t0+ww=E:=⟨_,rfl⟩;have hEi:(t0:Int)+(ww:Int)=(E:Int):=by omega
 have HS:jfb (∃ bs':List Nat,w.ownsRow B 5 1 v bs.length (aF .u8 bs')/\bs'.length=bs.length/\(∀ x∈bs',x<256)/\pk 8 bs'<2 ^ t0/\pk 8 bs'+n*2 ^ t0=T) :=
  ae ⟨bs,aA,rfl,h8,hV,hT⟩
 have HN:jfb (n<2 ^ (E-t0)):=ae (by rw[← hE,Nat.add_sub_cancel_left];exact hn);rw[hE]at ht;have hE0:E<=t0+64:=by omega
 have hE1:t0<=E:=by omega
 clear aA h8 hV hT hn hE;generalize bs.length=L at *;go_enter Tryz.func204,Tryz.ntmps204
 go_wp2_with fail
 go_loopw [1,3] (fun at_ mm wr=>∃ t m:Nat,at_=.int .i64 (t:Int)/\mm=.int .u64 (m:Int)/\t<=E+7/\m<18446744073709551616/\m<2 ^ (E-t) /\
   (∃ bs':List Nat,wr.ownsRow B 5 1 v L (aF .u8 bs')/\bs'.length=L/\(∀ x∈bs',x<256)/\pk 8 bs'<2 ^ t/\pk 8 bs'+m*2 ^ t=T)/\Below B w wr) (fun a _ _=>E-(intOf a).toNat)
 case atStart=>exact⟨t0,n,rfl,rfl,by omega,hn64,HN.o,HS.o,jdg _ _⟩
 case round =>
  obtain⟨t,m,rfl,rfl,htE,hm64,hmE,⟨cs,how,eQ,h8,hV,nV⟩,az⟩:=hrel;have HB:=ae az;by_cases aC:t<E
  ·have Qe:t / 8<cs.length:=by omega
   obtain⟨g,cap,rfl,hBg,Pq⟩:=oG how (by omega);have dR:=(how.cellAt (t / 8) (by omega)).trans (bS Qe);have lC:=how.frozenAt (t / 8);have YV:=Dq h8 hV Qe;have hx8:=h8 _ (jdl Qe);have FX:=ae (jaj (n:=m) (by omega:t % 8<8) YV);have Pr:=ae (Ro Qe (m % 2 ^ (8-t % 8)));have cT:=ae (how.stored (t / 8) (.int .u8 ((cs[t / 8]+m % 2 ^ (8-t % 8)*2 ^ (t % 8):Nat):Int)));rw[ki]at cT;have H8:=ae (Rp (j:=t / 8) h8 FX.o);have Ps:=ae (zf (n:=m) (s:=8-t % 8) hV);have VB:=ae (Wl (pk 8 cs) m t (8-t % 8));have XG:=ae (Rq (s:=8-t % 8) hmE);have HSU:=ae nV;have LD:jfb ((cs.set (t / 8) (cs[t / 8]+m % 2 ^ (8-t % 8)*2 ^ (t % 8))).length=L):=ae (by rw[jeC];exact eQ)
   obtain⟨z,hz⟩:∃ z:Nat,IntKind.u64.wrap ((m:Int)*2 ^ (t % 8))=(z:Int):=by
    refine⟨(IntKind.u64.wrap ((m:Int)*2 ^ (t % 8))).toNat,?_⟩;rw[jdL];omega
   have hor:=jal (by omega) YV hz
   have hz64:z<18446744073709551616:=by
    rw[jdL]at hz;omega
   generalize Kf:cs.set (t / 8) (cs[t / 8]+m % 2 ^ (8-t % 8)*2 ^ (t % 8))=cs2 at *;generalize cs[t / 8]+m % 2 ^ (8-t % 8)*2 ^ (t % 8)=c at *;generalize cs[t / 8]=x at *;clear how az h8 hV nV Kf YV;have hji:(t:Int) / 8=((t / 8:Nat):Int):=(by omega);have Cv:(t:Int) % 8=((t % 8:Nat):Int):=(by omega);have hsi:(8:Int)-((t % 8:Nat):Int)=((8-t % 8:Nat):Int):=(by omega);have hr8:t % 8<8:=(by omega);have hs8:8-t % 8<=8:=(by omega);have ek:1<=8-t % 8:=(by omega);have hjL:t / 8<L:=(by omega);have HTT:jfb (t+(8-t % 8)<=E+7):=ae (by omega);have HEE:jfb (E-(t+(8-t % 8))=E-t-(8-t % 8)):=ae (by omega);have hmd:(m:Int) / 2 ^ (8-t % 8)=((m / 2 ^ (8-t % 8):Nat):Int):=by simp
   have hml:m / 2 ^ (8-t % 8)<=m:=Nat.div_le_self _ _;have hc8:=FX.o;generalize 8-t % 8=s at *;generalize t % 8=r at *;generalize t / 8=j at *;clear hmE;generalize m / 2 ^ s=q at *;go_wp2_with fail;go_region
   all_goals
    go_wp2_with fail;go_roundw
    case rel =>
     refine⟨t+s,q,by go_num,by go_num,HTT.o,by omega,?_,⟨cs2,cT.o.1.drew,LD.o,H8.o,?_,?_⟩,(cN HB.o hBg _).drew⟩
     ·rw[HEE.o];exact XG.o
     ·rw[Pr.o];exact Ps.o
     ·rw[Pr.o,VB.o];exact HSU.o
    case measure=>simp[intOf];omega
  ·have hm0:m=0:=by
    rw[show E-t=0 by omega]at hmE;omega
   subst hm0;have HO:jfb (∃ bs':List Nat,wr.ownsRow B 5 1 v L (aF .u8 bs')/\bs'.length=L/\(∀ x∈bs',x<256)/\pk 8 bs'=T):=ae ⟨cs,how,eQ,h8,by simpa using nV⟩;clear how eQ h8 hV nV az hmE;go_wp2_with fail;go_end0
   exact⟨rfl,HO.o,HB.o⟩
theorem jZ(k:IntKind)(n:Nat):(madeCells #[Value.int k 0] n).toList=aF k (List.replicate n 0):=by
 rw[jeK];simp[aF]
theorem wD{l:List Nat}{x:Int}(h:can l x=false):bg l x=[]:=by unfold bg;rw[h];rfl
theorem gp(w:World)(B e:Nat):w.ownsRow B e 1 (.slice none 0 0) 0 []:=jd8 _ _ _ _
theorem Ds{l:List Nat}{ww k:Nat}(hw:∀ x∈l,x<2 ^ ww)(hk:k<=l.length):pk ww (l.take k)<2 ^ (k*ww):=by
 have:=CW (w:=ww) (l:=l.take k) (fun x hx=>hw x (jd3 hx));rwa[jdo,jeg hk,jdP]at this
theorem zi{w:World}{v:Value}{l:List Nat}(hs:Sx .u64 w v l)(kJ:∀ x∈l,x<18446744073709551616)(x:Int) :
  Calls Tryz.prog 171 #[v,.int .i64 x] w fun e w'=>∃ v',e=.returned (.tuple #[v',.bool (can l x)])/\w'.ownsRow w.heap.size 5 1 v' (bg l x).length (aF .u8 (bg l x))/\Below w.heap.size w w':=by
 have HW:=ae (sK hs kJ);have HA:=ae (tG (l.length:Int) x);obtain⟨a,cap,rfl,hm,eQ⟩:=hs;have oW:l.length<=9223372036854775807:=by unfold maxLen at hm;omega
 by_cases xH:0<=(l.length:Int)/\(l.length:Int)<=256/\0<=x/\x<=64
 ·rw[jdy xH]at HA
  obtain⟨_,hl256,VC,Pt⟩:=xH;obtain⟨ww,rfl⟩:=jeS VC;by_cases LA:wd l<=ww
  ·have lx:can l (ww:Int)=true:=by
    unfold can;simp only[jd2,jdM];exact⟨by omega,by omega,by omega,LA⟩
   have dA:=qG.1 LA;have ve:¬ ((wd l:Nat):Int) > (ww:Int):=(by omega);have hc:l.length*ww<=16384:=jdq (jeP (show l.length<=256 by omega) (show ww<=64 by omega)) (by omega);have hmul:(l.length:Int)*(ww:Int)=((l.length*ww:Nat):Int):=by simp
   have HP:=ae (fun(bs:List Nat)=>zh (bs:=bs) lx);have ts:=ae (qP (l.length*ww) hc);have HL8:=ae (Gv (l.length*ww));have hL:by8 (l.length*ww)<=2048:=by unfold by8;omega
   have HF:=ae dA;have HC:=ae eQ;have Ca:=ae kJ;have Pu:ww<=64:=(by omega);rw[lx];clear eQ kJ dA lx LA VC Pt hm;obtain⟨i0,hi,cm,hz1',bn⟩:=jdA jm;generalize by8 (l.length*ww)=L at *;generalize hcc:l.length*ww=c at *;have VD:=ae hcc;clear hcc;go_enter Tryz.func171,Tryz.ntmps171
   go_wp2_with fail;refine(HA.o _).mono ?_;rintro e w1 ⟨rfl,rfl⟩;go_wp2_with fail;refine HW.o.mono ?_;rintro e w2 ⟨rfl,rfl⟩;go_wp2_with fail;refine(ts.o _).mono ?_;rintro e w3 ⟨rfl,rfl⟩;go_wp2_with (first | (refine jek _ rfl _ _ 30 rfl w3.heap.size 5 i0 (.int .u8 0) 1 Tryz.underlying30 hi cm hz1' .i64 .i64 _ _ L rfl rfl ?m1 ?m2 ?m3 ?m4 ?m5 ?_))
   case m1=>rfl
   case m2=>rfl
   case m3=>rw[bn];omega
   case m4=>unfold maxLen;omega
   case m5=>omega
   intro w4 gF iN;have bw:Below w3.heap.size w3 w4:=(jdg _ _).grown iN (jdh _) (fun k hk=>by cases hk)
   have ho4':w4.ownsRow w3.heap.size 5 1 (.slice (some ⟨w3.heap.size,0,none⟩) L L) L (aF .u8 (List.replicate L 0)):=by
    rw[← jZ];simpa using gF
   have eR:=ae ho4';have ce:=ae bw;clear gF iN bw ho4';go_wp2_with fail;go_loopw [28] (fun i wr=>∃ k:Nat,i=.int .i64 (k:Int)/\k<=l.length/\(∃ bs:List Nat,wr.ownsRow w3.heap.size 5 1 (.slice (some ⟨w3.heap.size,0,none⟩) L L) L (aF .u8 bs)/\bs.length=L/\(∀ x∈bs,x<256)/\pk 8 bs=pk ww (l.take k))/\Below w3.heap.size w3 wr) (fun i _=>l.length-(intOf i).toNat)
   case atStart=>exact⟨0,rfl,by omega,⟨List.replicate L 0,eR.o,by simp,by simp,by rw[CX];rfl⟩,ce.o⟩
   case round =>
    obtain⟨k,rfl,hk,⟨bs,how,fO,kH,XE⟩,az⟩:=hrel;have HB:=ae az;by_cases aC:k<l.length
    ·obtain⟨b,off,rfl,hb,bq⟩:=HC.o (by omega)
     have dR:=(az.cell (p:=⟨b,off+k,none⟩) hb).trans (bq k aC);have hkw:(k:Int)*(ww:Int)=((k*ww:Nat):Int):=by simp
     have YW:k*ww+ww<=8*L:=by
      have h1:(k+1)*ww<=l.length*ww:=Nat.mul_le_mul_right _ aC;rw[jdV,jem]at h1;rw[VD.o]at h1;have:=HL8.o;omega
     have hPut:=Wo (w:=wr) (by rw[fO];exact how) kH (k*ww) ww l[k] Pu (HF.o _ (jdl aC)) (Ca.o _ (jdl aC)) (by rw[fO];exact YW) (by rw[XE];exact Ds HF.o hk) (by omega) (by omega);have XH:k*ww<=16384:=(by omega);rw[fO,XE,jdP k ww,← qD ww aC,jdP ww k]at hPut;have HPut:=ae hPut;clear bq how kH XE az hPut YW;generalize l[k]=n at *;generalize k*ww=t0 at *;go_wp2_with fail;refine HPut.o.mono ?_;rintro e w5 ⟨rfl,⟨bs',fV,hl5,h85,hp5⟩,br⟩;have dJ:=ae fV;have aS:=ae (HB.o.trans br);have HL5:=ae hl5;have HP5:=ae hp5;clear fV br hl5 hp5;go_wp2_with fail;go_roundw
     case rel=>exact⟨k+1,by go_num,by omega,⟨bs',dJ.o,HL5.o,h85,HP5.o⟩,aS.o⟩
     case measure=>simp[intOf];omega
    ·obtain rfl:k=l.length:=by omega
     rw[jdp]at XE;have HE:=ae (HP.o bs kH fO XE)
     have HO:jfb (wr.ownsRow w3.heap.size 5 1 (.slice (some ⟨w3.heap.size,0,none⟩) L L) (bg l ww).length (aF .u8 (bg l ww))):=by
      show World.ownsRow _ _ _ _ _ _ _
      rw[← HE.o,fO];exact how
     clear how fO kH XE az HP HE;go_wp2_with fail;go_ret2
     exact⟨_,rfl,HO.o,HB.o⟩
  ·have lx:can l (ww:Int)=false:=by
    unfold can;simp only[jeL,jdM];rintro⟨_,_,_,h⟩;exact LA h
   have ve:((wd l:Nat):Int) > (ww:Int):=(by omega);rw[lx,wD lx];clear eQ kJ lx LA VC Pt hm;go_enter Tryz.func171,Tryz.ntmps171
   go_wp2_with fail;refine(HA.o _).mono ?_;rintro e w1 ⟨rfl,rfl⟩;go_wp2_with fail;refine HW.o.mono ?_;rintro e w2 ⟨rfl,rfl⟩;go_wp2_with fail;go_ret2
   exact⟨_,rfl,gp _ _ _,jdg _ _⟩
 ·rw[jds xH]at HA
  have lx:can l x=false:=by
   unfold can;simp only[jeL];rintro⟨h1,h2,h3,_⟩;exact xH ⟨by omega,by omega,h1,h2⟩
  rw[lx,wD lx];clear eQ kJ lx xH hm HW;go_enter Tryz.func171,Tryz.ntmps171
  go_wp2_with fail;refine(HA.o _).mono ?_;rintro e w1 ⟨rfl,rfl⟩;go_wp2_with fail;go_ret2
  exact⟨_,rfl,gp _ _ _,jdg _ _⟩
theorem wE{b:List Nat}{n x:Int}(h:unE b n x≠0):unR b n x=[]:=by unfold unR;rw[jde h]
theorem Wp{b:List Nat}{n x:Int}(h:¬ (0<=n/\n<=256/\0<=x/\x<=64)):unE b n x=1:=by unfold unE;rw[jde h]
theorem Dt{b:List Nat}{N ww:Nat}(hN:N<=256)(hw:ww<=64)(h:¬ (b.length=by8 (N*ww)/\pk 8 b<2 ^ (N*ww))):unE b N ww=40:=by
 unfold unE;rw[jdf ⟨by omega,by omega,by omega,by omega⟩];simp only[jdM];rw[jde h]
theorem jam{b:List Nat}{N ww:Nat}(hN:N<=256)(hw:ww<=64)(h:b.length=by8 (N*ww))(h2:pk 8 b<2 ^ (N*ww)):unE b N ww=0:=by
 unfold unE;rw[jdf ⟨by omega,by omega,by omega,by omega⟩];simp only[jdM];rw[jdf ⟨h,h2⟩]
theorem jan{b:List Nat}{N ww:Nat}(h:unE b N ww=0):unR b N ww=dig ww N (pk 8 b):=by
 unfold unR;rw[jdf h];rfl
theorem tH{w:World}{v:Value}{b:List Nat}(hs:Sx .u8 w v b)(h8:∀ x∈b,x<256)(n x:Int) :
  Calls Tryz.prog 294 #[v,.int .i64 n,.int .i64 x] w fun e w'=>∃ v',e=.returned (.tuple #[v',.int .i64 (unE b n x:Int)])/\w'.ownsRow w.heap.size 92 1 v' (unR b n x).length (aF .u64 (unR b n x))/\Below w.heap.size w w':=by
 have HA:=ae (tG n x);by_cases xH:0<=n/\n<=256/\0<=x/\x<=64
 ·rw[jdy xH]at HA
  obtain⟨qs,Um,VC,Pt⟩:=xH;obtain⟨ww,rfl⟩:=jeS VC;obtain⟨N,rfl⟩:=jeS qs;have Pu:ww<=64:=by omega
  have hN:N<=256:=by omega
  have hc:N*ww<=16384:=jdq (jeP hN Pu) (by omega);have hmul:(N:Int)*(ww:Int)=((N*ww:Nat):Int):=by simp
  have ts:=ae (qP (N*ww) hc);by_cases bR:b.length=by8 (N*ww)
  ·have pw:=ae (MF hs h8 (N*ww) hc bR)
   have hleq:((b.length:Int) != ((by8 (N*ww):Nat):Int))=false:=by rw[bR];simp
   by_cases fW:pk 8 b<2 ^ (N*ww)
   ·rw[jdy fW]at pw
    have HE:=ae (jam hN Pu bR fW);rw[HE.o,jan HE.o,dM];have gL:=Gv (N*ww);have rP:=ae (fun(W:World) (hW:Sx .u8 W v b) (t0:Nat) (h1:t0+ww<=8*b.length) (h2:t0<=16384)=>Rt hW h8 t0 ww Pu h1 h2)
    have cT:jfb (∀ k,k<N->k*ww+ww<=8*b.length/\k*ww<=16384):=ae (fun k hk=>by
     have h1:(k+1)*ww<=N*ww:=Nat.mul_le_mul_right _ hk;rw[jdV,jem]at h1;rw[bR];omega)
    have HS:=ae hs;obtain⟨i0,hi,cm,hz1',bn⟩:=jdA pL;obtain⟨a,cap,rfl,hm,eQ⟩:=hs;have oW:b.length<=2048:=by rw[bR];unfold by8;omega
    clear eQ h8 fW bR VC Pt qs Um hm gL;generalize by8 (N*ww)=L at *;generalize N*ww=c at *;obtain⟨D,hD⟩:∃ D,dig ww N (pk 8 b)=D:=⟨_,rfl⟩;have hDl:D.length=N:=by rw[← hD,dM]
    have HG:jfb (∀ k (h:k<N),D[k]?=some (pk 8 b / 2 ^ (k*ww) % 2 ^ ww)):=ae (fun k h=>by rw[← hD,AL ww N _ k h,jdP]);rw[hD];have kM:=ae hDl;clear hD hDl;go_enter Tryz.func294,Tryz.ntmps294
    go_wp2_with fail;refine(HA.o _).mono ?_;rintro e w1 ⟨rfl,rfl⟩;go_wp2_with fail;refine(ts.o _).mono ?_;rintro e w2 ⟨rfl,rfl⟩;go_wp2_with fail;refine pw.o.mono ?_;rintro e w3 ⟨rfl,rfl⟩;go_wp2_with (first | (refine jek _ rfl _ _ 142 rfl w3.heap.size 92 i0 (.int .u64 0) 1 Tryz.underlying142 hi cm hz1' .i64 .i64 _ _ N rfl rfl ?m1 ?m2 ?m3 ?m4 ?m5 ?_))
    case m1=>rfl
    case m2=>rfl
    case m3=>rw[bn];omega
    case m4=>unfold maxLen;omega
    case m5=>omega
    intro w4 gF iN;have bw:Below w3.heap.size w3 w4:=(jdg _ _).grown iN (jdh _) (fun k hk=>by cases hk)
    have ho4':w4.ownsRow w3.heap.size 92 1 (.slice (some ⟨w3.heap.size,0,none⟩) N N) N (aF .u64 (fill D 0)):=by
     rw[oF,kM.o,← jZ];simpa using gF
    have eR:=ae ho4';have ce:=ae bw;clear gF iN bw ho4';go_wp2_with fail;go_loopw [33] (fun i wr=>∃ k:Nat,i=.int .i64 (k:Int)/\k<=N/\wr.ownsRow w3.heap.size 92 1 (.slice (some ⟨w3.heap.size,0,none⟩) N N) N (aF .u64 (fill D k))/\Below w3.heap.size w3 wr) (fun i _=>N-(intOf i).toNat)
    case atStart=>exact⟨0,rfl,by omega,eR.o,ce.o⟩
    case round =>
     obtain⟨k,rfl,hk,how,az⟩:=hrel;have HB:=ae az;by_cases aC:k<N
     ·have hkD:k<D.length:=by rw[kM.o];exact aC
      have hval:D[k]=pk 8 b / 2 ^ (k*ww) % 2 ^ ww:=by
       have:=HG.o k aC;rw[List.getElem?_eq_getElem hkD]at this;exact Option.some.inj this
      have jT:k<(fill D k).length:=by rw[kU (by omega)];exact hkD
      have dR:=(how.cellAt k (by omega)).trans (bS jT);have lC:=how.frozenAt k;have hST:=how.stored k (.int .u64 ((D[k]:Nat):Int));rw[ki,qO hkD]at hST;have Un:=ae hST;have hkw:(k:Int)*(ww:Int)=((k*ww:Nat):Int):=by simp
      have XH:=(cT.o k aC).2;have hTake:=rP.o wr (HS.o.kept az) (k*ww) (cT.o k aC).1 XH;rw[← hval]at hTake;have HTake:=ae hTake;have Pq:=(how.lt w3.heap.size rfl).2;clear how az hST hTake hval;generalize (fill D k)[k]=y at *;generalize D[k]=z at *;generalize k*ww=t0 at *;go_wp2_with fail;refine HTake.o.mono ?_;rintro e w5 ⟨rfl,rfl⟩;go_wp2_with fail;go_roundw
      case rel=>exact⟨k+1,by go_num,by omega,Un.o.1,cN HB.o (jdh _) _⟩
      case measure=>simp[intOf];omega
     ·obtain rfl:k=N:=by omega
      have HO:jfb (wr.ownsRow w3.heap.size 92 1 (.slice (some ⟨w3.heap.size,0,none⟩) k k) k (aF .u64 D)):=by
       show World.ownsRow _ _ _ _ _ _ _
       have e:fill D k=D:=by
        have:=qN D;rwa[kM.o]at this
       rw[e]at how;exact how
      clear how az;go_wp2_with fail;go_ret2
      exact⟨_,rfl,HO.o,HB.o⟩
   ·rw[jds fW]at pw
    have hE:=Dt (b:=b) hN Pu (fun h=>fW h.2);rw[hE,wE (by rw[hE];omega)];obtain⟨a,cap,rfl,hm,eQ⟩:=hs;have oW:b.length<=2048:=by rw[bR];unfold by8;omega
    clear eQ h8 fW bR VC Pt qs Um hm hE;generalize by8 (N*ww)=L at *;generalize N*ww=c at *;go_enter Tryz.func294,Tryz.ntmps294
    go_wp2_with fail;refine(HA.o _).mono ?_;rintro e w1 ⟨rfl,rfl⟩;go_wp2_with fail;refine(ts.o _).mono ?_;rintro e w2 ⟨rfl,rfl⟩;go_wp2_with fail;refine pw.o.mono ?_;rintro e w3 ⟨rfl,rfl⟩;go_wp2_with fail;go_ret2
    exact⟨_,rfl,gp _ _ _,jdg _ _⟩
  ·have hleq:((b.length:Int) != ((by8 (N*ww):Nat):Int))=true:=by
    rw[bne_iff_ne];intro h;exact bR (by omega)
   have hE:=Dt (b:=b) hN Pu (fun h=>bR h.1);rw[hE,wE (by rw[hE];omega)];obtain⟨a,cap,rfl,hm,eQ⟩:=hs;have oW:b.length<=9223372036854775807:=by unfold maxLen at hm;omega
   clear eQ h8 bR VC Pt qs Um hm hE;generalize by8 (N*ww)=L at *;generalize N*ww=c at *;go_enter Tryz.func294,Tryz.ntmps294
   go_wp2_with fail;refine(HA.o _).mono ?_;rintro e w1 ⟨rfl,rfl⟩;go_wp2_with fail;refine(ts.o _).mono ?_;rintro e w2 ⟨rfl,rfl⟩;go_wp2_with fail;go_ret2
   exact⟨_,rfl,gp _ _ _,jdg _ _⟩
 ·rw[jds xH]at HA
  have hE:=Wp (b:=b) xH;rw[hE,wE (by rw[hE];omega)];obtain⟨a,cap,rfl,hm,eQ⟩:=hs;clear eQ h8 xH hm hE;go_enter Tryz.func294,Tryz.ntmps294
  go_wp2_with fail;refine(HA.o _).mono ?_;rintro e w1 ⟨rfl,rfl⟩;go_wp2_with fail;go_ret2
  exact⟨_,rfl,gp _ _ _,jdg _ _⟩
end Go.Proofs.YtpljdjmpamjkhaaGreatDoor
