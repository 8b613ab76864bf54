import Derived.Test.YtpljdjmpamjkhaaGreatDoorXah
import Derived.Test.YtpljdjmpamjkhaaGreatDoorXae
import Derived.Test.YtpljdjmpamjkhaaGreatDoorXaf
set_option linter.unusedVariables false
set_option maxRecDepth 100000
set_option maxHeartbeats 4000000
set_option linter.unusedSimpArgs false
namespace Go.Proofs.YtpljdjmpamjkhaaGreatDoor
theorem GN(t:Nat):2 ^ t=2 ^ (t % 8)*2 ^ (8*(t / 8)):=by
 rw[← jex];congr 1
 omega
theorem Dm{bs:List Nat}{t:Nat}(h:∀ x∈bs,x<256)(ht:pk 8 bs<2 ^ t)(hj:t / 8<bs.length):bs[t / 8]<2 ^ (t % 8):=by
 rw[Rg (w:=8) h hj];refine jfe (Nat.mod_le _ _) ?_;rw[Nat.div_lt_iff_lt_mul (jep _),← GN];exact ht
theorem sH{r:Nat}(h:r<8):2 ^ r*2 ^ (8-r)=256:=by
 rw[← jex,show r+(8-r)=8 by omega]
theorem jar{x n r:Nat}(hr:r<8)(hx:x<2 ^ r):x+n % 2 ^ (8-r)*2 ^ r<256:=by
 have h1:=Nat.mod_lt n (jep (8-r));have h2:(n % 2 ^ (8-r)+1)*2 ^ r<=2 ^ (8-r)*2 ^ r:=Nat.mul_le_mul_right _ h1;rw[jd4 (2 ^ (8-r)),sH hr,jd9,jeB]at h2;omega
theorem RM{bs:List Nat}{t:Nat}(hj:t / 8<bs.length)(c:Nat):pk 8 (bs.set (t / 8) (bs[t / 8]+c*2 ^ (t % 8)))=pk 8 bs+c*2 ^ t:=by
 have h:=Rf 8 (bs[t / 8]+c*2 ^ (t % 8)) hj;rw[jd9,jeK,← GN]at h;omega
theorem RN{bs:List Nat}{j c:Nat}(h:∀ x∈bs,x<256)(hc:c<256):∀ x∈bs.set j c,x<256:=by
 intro x hx;rcases List.mem_or_eq_of_mem_set hx with hx | rfl
 ·exact h x hx
 ·exact hc
theorem WB(V n t s:Nat):V+n % 2 ^ s*2 ^ t+n / 2 ^ s*2 ^ (t+s)=V+n*2 ^ t:=by
 have h:=Nat.mod_add_div n (2 ^ s);have h2:=jdB (·*2 ^ t) h;simp only[jd9]at h2;rw[jex,jd4 (2 ^ t),← jeK,jd4 (n / 2 ^ s)];omega
theorem ze{V n t s:Nat}(h:V<2 ^ t):V+n % 2 ^ s*2 ^ t<2 ^ (t+s):=by
 have h1:=Nat.mod_lt n (jep s);have h2:(n % 2 ^ s+1)*2 ^ t<=2 ^ s*2 ^ t:=Nat.mul_le_mul_right _ h1;rw[jex,jd4 (2 ^ t)];rw[jd9,jeB]at h2;omega
theorem RO{n w s:Nat}(h:n<2 ^ w):n / 2 ^ s<2 ^ (w-s):=by
 rw[Nat.div_lt_iff_lt_mul (jep _),← jex];exact jdS h (jeL (by omega) (by omega))
theorem zf{bs:List Nat}{t:Nat}(h:∀ x∈bs,x<256)(hj:t / 8<bs.length):bs[t / 8] / 2 ^ (t % 8)=pk 8 bs / 2 ^ t % 2 ^ (8-t % 8):=by
 rw[Rg (w:=8) h hj,show (2:Nat) ^ 8=2 ^ (t % 8)*2 ^ (8-t % 8) from (sH (by omega)).symm,Nat.mod_mul_right_div_self,jfm,
  jd4 (2 ^ (8*(t / 8))),← GN]
theorem RQ(D t a s:Nat):D / 2 ^ t % 2 ^ a+D / 2 ^ (t+a) % 2 ^ s*2 ^ a=D / 2 ^ t % 2 ^ (a+s):=by
 rw[jex 2 a s,Nat.mod_mul,jfm,← jex,jd4 (2 ^ a)]
theorem GO{bs:List Nat}{c:Nat}(h:∀ x∈bs,x<256)(hl:bs.length=by8 c)(h0:c % 8=0):pk 8 bs<2 ^ c:=by
 have:=CR (w:=8) h;rw[hl]at this;rwa[show 8*by8 c=c by unfold by8;omega]at this
theorem GP{bs:List Nat}{c:Nat}(h:∀ x∈bs,x<256)(hl:bs.length=by8 c)(h0:c % 8≠0)(hj:bs.length-1<bs.length) :
  bs[bs.length-1] / 2 ^ (c % 8)=0↔pk 8 bs<2 ^ c:=by
 have aB:=CR (w:=8) h;have e:bs.length-1=c / 8:=by rw[hl];unfold by8;omega
 have hc:c / 8<bs.length:=by omega
 have e2:bs[bs.length-1]=bs[c / 8]:=by simp only[e]
 rw[e2,zf h hc,jen]
 ·rw[Nat.div_eq_zero_iff]
  have:=jep c;omega
 ·rw[Nat.div_lt_iff_lt_mul (jep _),← jex,show 8-c % 8+c=8*bs.length by rw[hl];unfold by8;omega]
  exact aB
theorem MM{t:Nat}(h:t % 8=0):by8 (t+1)=by8 t+1/\t / 8=by8 t:=by unfold by8;omega
theorem MN{t:Nat}(h:t % 8≠0):by8 (t+1)=by8 t/\t / 8<by8 t:=by unfold by8;omega
theorem qM(x k:Nat):x % 2 ^ (k+1)=x % 2 ^ k+2 ^ k*(x / 2 ^ k % 2):=Nat.mod_pow_succ
def fill(l:List Nat)(i:Nat):List Nat:=l.take i++List.replicate (l.length-i) 0
theorem oI(l:List Nat):fill l 0=List.replicate l.length 0:=by simp[fill]
theorem qN(l:List Nat):fill l l.length=l:=by simp[fill]
theorem kX{l:List Nat}{i:Nat}(h:i<=l.length):(fill l i).length=l.length:=by simp[fill];omega
theorem qO{l:List Nat}{i:Nat}(h:i<l.length):(fill l i).set i l[i]=fill l (i+1):=by
 unfold fill
 rw[List.set_append_right _ _ (by simp;omega),jdC,jew (by omega),jeW,show l.length-i=(l.length-(i+1))+1 by omega,
  List.replicate_succ,jdH,jdM h,jdL]
 rfl
theorem zg{l bs:List Nat}{w:Nat}(hc:can l w=true)(hb:∀ x∈bs,x<256)(hl:bs.length=by8 (l.length*w))(h:pk 8 bs=pk w l):bs=bi l w:=by
 unfold bi;rw[jdu hc,jd1,← h,← hl];exact(AF hb).symm
open Go.RowKit Go.Lib
theorem jas{a b:Nat}(ha:a<18446744073709551616)(hb:b<18446744073709551616):bits .or .u64 (a:Int) (b:Int)=((a ||| b:Nat):Int):=by
 show IntKind.u64.wrap ((BitVec.ofInt 64 (a:Int) ||| BitVec.ofInt 64 (b:Int)).toNat:Int)=_
 have e1:(BitVec.ofInt 64 (a:Int)).toNat=a:=by rw[BitVec.toNat_ofInt];omega
 have e2:(BitVec.ofInt 64 (b:Int)).toNat=b:=by rw[BitVec.toNat_ofInt];omega
 have h:=Nat.or_lt_two_pow (x:=a) (y:=b) (n:=64) ha hb;rw[BitVec.toNat_or,e1,e2,jd0];omega
theorem sI{w:World}{v:Value}{l:List Nat}(hs:Sx .u64 w v l)(kM:∀ x∈l,x<18446744073709551616) :
  Calls Tryz.prog 202 #[v] w fun e w'=>e=.returned (.int .i64 (wd l:Int))/\w'=w:=by
 obtain⟨a,cap,rfl,hm,hc⟩:=hs;have py:l.length<=9223372036854775807:=by unfold maxLen at hm;omega
 have HC:=ae hc;have BR:=ae kM;clear hc hm kM;go_enter Tryz.func202,Tryz.ntmps202
 go_wp2_with fail;go_loopw [3,9] (fun al i w'=>w'=w/\∃ k:Nat,k<=l.length/\i=.int .i64 (k:Int)/\al=.int .u64 (qE (l.take k):Int)) (fun _ i _=>l.length-(intOf i).toNat)
 case atStart=>exact⟨rfl,0,by omega,rfl,rfl⟩
 case round =>
  obtain⟨rfl,k,hk,rfl,rfl⟩:=hrel;by_cases aB:k<l.length
  ·obtain⟨b,off,rfl,hb,br⟩:=HC.o (by omega)
   have ek:=br k aB;have hx:=or64 BR.o k;have hor:=jas hx (BR.o l[k] (jdA aB));have HT:=ae (mW aB);clear br hx;generalize l[k]=x at *;generalize qE (l.take k)=y at *;go_wp2_with fail;go_roundw
   case rel=>exact⟨trivial,k+1,by omega,by go_num,by rw[HT.o]⟩
   case measure=>simp[intOf];omega
  ·obtain rfl:k=l.length:=by omega
   rw[jdE];have hx:=or64 BR.o l.length;rw[jdE]at hx;have hw:=Gy BR.o;have HW:jfp (wd l=cV (qE l)):=rfl;clear HC BR;generalize qE l=y at *;go_wp2_with fail;go_loopw [3,6] (fun al i w'=>w'=wr/\∃ n k:Nat,al=.int .u64 (n:Int)/\i=.int .i64 (k:Int)/\n<=y/\k+cV n=wd l) (fun al _ _=>(intOf al).toNat)
   case atStart=>exact⟨rfl,y,0,rfl,rfl,jdw _,by rw[HW.o,jdZ]⟩
   case round =>
    obtain⟨rfl,n,k,rfl,rfl,hn,fT⟩:=hrel;by_cases h0:((n:Int)==0)=true
    ·have h0':n=0:=by simpa using h0
     subst h0';have HK:jfp (k=wd l):=by show k=wd l;simpa [cV]using fT
     clear fT HW;go_wp2_with fail;go_ret
     rw[← HK.o];exact⟨rfl,rfl⟩
    ·have h0f:((n:Int)==0)=false:=by simpa using h0
     have qq:n≠0:=by simpa using h0
     have hbh:=Mu qq;have HB:=ae fT;have HBH:=ae hbh;have pC:k<=64:=(by omega);clear h0 fT hbh;go_wp2_with fail;go_roundw
     case rel=>exact⟨trivial,n / 2,k+1,by go_num,by go_num,by omega,by have:=HB.o;have:=HBH.o;omega⟩
     case measure=>simp[intOf];omega
theorem tG(n w:Int)(W:World):Calls Tryz.prog 201 #[.int .i64 n,.int .i64 w] W fun e w'=>e=.returned (.bool (decide (0<=n/\n<=256/\0<=w/\w<=64)))/\w'=W:=by
 by_cases h1:n>=0
 ·by_cases h2:n<=256
  ·by_cases h3:w>=0
   ·by_cases h4:w<=64
    ·rw[jdO (by omega)]
     go_enter Tryz.func201,Tryz.ntmps201
     go_wp2_with fail;go_ret
     exact⟨rfl,rfl⟩
    ·rw[jdK (by omega)]
     go_enter Tryz.func201,Tryz.ntmps201
     go_wp2_with fail;go_ret
     exact⟨rfl,rfl⟩
   ·rw[jdK (by omega)]
    go_enter Tryz.func201,Tryz.ntmps201
    go_wp2_with fail;go_ret
    exact⟨rfl,rfl⟩
  ·rw[jdK (by omega)]
   go_enter Tryz.func201,Tryz.ntmps201
   go_wp2_with fail;go_ret
   exact⟨rfl,rfl⟩
 ·rw[jdK (by omega)]
  go_enter Tryz.func201,Tryz.ntmps201
  go_wp2_with fail;go_ret
  exact⟨rfl,rfl⟩
theorem qP(c:Nat)(hc:c<=16384)(W:World):Calls Tryz.prog 203 #[.int .i64 (c:Int)] W fun e w'=>e=.returned (.int .i64 (by8 c:Int))/\w'=W:=by
 have HE:jfp (((by8 c:Nat):Int)=((c:Int)+8-1) / 8):=by show _=_;unfold by8;omega
 go_enter Tryz.func203,Tryz.ntmps203
 go_wp2_with fail;go_ret
 rw[HE.o];exact⟨rfl,rfl⟩
theorem Lg{x j:Nat}:(x:Int) / 2 ^ j > 0↔j<cV x:=by
 have h:=eK (n:=x) (w:=j);have h2:((x / 2 ^ j:Nat):Int)=(x:Int) / 2 ^ j:=by simp
 rw[← h2]
 have h3:x / 2 ^ j=0↔x<2 ^ j:=by
  rw[Nat.div_eq_zero_iff];have:=jep j;omega
 have h4:x / 2 ^ j=0↔cV x<=j:=h3.trans h.symm;clear h h2 h3;generalize x / 2 ^ j=q at *;omega
theorem jO{w:World}{v:Value}{l:List Nat}(hs:Sx .u64 w v l)(kM:∀ x∈l,x<18446744073709551616) :
  Calls Tryz.prog 175 #[v] w fun e w'=>e=.returned (.int .i64 (wd l:Int))/\w'=w:=by
 obtain⟨a,cap,rfl,hm,hc⟩:=hs;have py:l.length<=9223372036854775807:=by unfold maxLen at hm;omega
 have HC:=ae hc;have BR:=ae kM;clear hc hm kM;go_enter Tryz.func175,Tryz.ntmps175
 go_wp2_with fail;go_loopw [3,4] (fun ww i w'=>w'=w/\∃ k:Nat,k<=l.length/\i=.int .i64 (k:Int)/\ww=.int .i64 (wd (l.take k):Int)) (fun _ i _=>l.length-(intOf i).toNat)
 case atStart=>exact⟨rfl,0,by omega,rfl,by rw[jeU,Ri];rfl⟩
 case round =>
  obtain⟨rfl,k,hk,rfl,rfl⟩:=hrel;by_cases aB:k<l.length
  ·obtain⟨b,off,rfl,hb,br⟩:=HC.o (by omega)
   have ek:=br k aB;have hx:=BR.o l[k] (jdA aB);have HT:=ae (qF aB);have hw64:wd (l.take k)<=64:=Gy (fun x hx=>BR.o x (jek hx));have hb64:cV l[k]<=64:=eK.2 hx;clear br;generalize l[k]=x at *;generalize wd (l.take k)=y at *;go_wp2_with fail;go_loopw [3] (fun ww w'=>w'=wr/\∃ j:Nat,ww=.int .i64 (j:Int)/\y<=j/\j<=64/\j<=max y (cV x)) (fun ww _=>64-(intOf ww).toNat)
   case atStart=>exact⟨rfl,y,rfl,by omega,by omega,by omega⟩
   case round =>
    obtain⟨rfl,j,rfl,h1,h2,h3⟩:=hrel;by_cases hj:j<64
    ·by_cases Zj:j<cV x
     ·have tn:(x:Int) / 2 ^ j > 0:=Lg.2 Zj
      have LN:(j:Int)<64:=(by omega);go_wp2_with fail;go_roundw
      case rel=>exact⟨trivial,j+1,by go_num,by omega,by omega,by omega⟩
      case measure=>simp[intOf];omega
     ·have tn:¬ (x:Int) / 2 ^ j > 0:=fun h=>Zj (Lg.1 h)
      have HJ:jfp (j=max y (cV x)):=by show _=_;omega
      have LN:(j:Int)<64:=(by omega);clear Zj h3;go_wp2_with fail;go_roundw
      case rel=>exact⟨trivial,k+1,by omega,by go_num,by rw[HT.o,← HJ.o]⟩
      case measure=>simp[intOf];omega
    ·have HJ:jfp (j=max y (cV x)):=by show _=_;omega
     have LN:¬ (j:Int)<64:=(by omega);clear h3;go_wp2_with fail;go_roundw
     case rel=>exact⟨trivial,k+1,by omega,by go_num,by rw[HT.o,← HJ.o]⟩
     case measure=>simp[intOf];omega
  ·obtain rfl:k=l.length:=by omega
   rw[jdE];go_wp2_with fail;go_ret
   exact⟨rfl,rfl⟩
theorem Dn{x u:Nat}:(((x:Int) / 2 ^ u)==0)=decide (x / 2 ^ u=0):=by
 have h2:((x / 2 ^ u:Nat):Int)=(x:Int) / 2 ^ u:=by simp
 rw[← h2];rw[jeX];simp only[beq_iff_eq,jei];exact Int.natCast_eq_zero
theorem MO{w:World}{v:Value}{bs:List Nat}(hs:Sx .u8 w v bs)(h8:∀ x∈bs,x<256)(c:Nat)(hc:c<=16384)(hl:bs.length=by8 c) :
  Calls Tryz.prog 303 #[v,.int .i64 (c:Int)] w fun e w'=>e=.returned (.bool (decide (pk 8 bs<2 ^ c)))/\w'=w:=by
 obtain⟨a,cap,rfl,hm,eQ⟩:=hs;by_cases h0:c % 8=0
 ·have h0b:((c:Int) % 8==0)=true:=by simp;omega
  have HE:=ae (jdO (GO h8 hl h0));clear eQ h8 hl hm h0;go_enter Tryz.func303,Tryz.ntmps303
  go_wp2_with fail;go_ret
  rw[HE.o];exact⟨rfl,rfl⟩
 ·have h0b:((c:Int) % 8==0)=false:=by simp;omega
  have tn:0<bs.length:=by rw[hl];unfold by8;omega
  have pB:bs.length<=2048:=by rw[hl];unfold by8;omega
  obtain⟨b,off,rfl,hb,br⟩:=eQ tn;have ek:=br (bs.length-1) (by omega);have HX:=ae (GP h8 hl h0 (by omega));have hx:=h8 _ (jdA (h:=(by omega:bs.length-1<bs.length)));have hsub:(bs.length:Int)-1=((bs.length-1:Nat):Int):=by omega
  have aB:bs.length-1<bs.length:=by omega
  obtain⟨u,hu⟩:∃ u,c % 8=u:=⟨_,rfl⟩;have hui:(c:Int) % 8=(u:Int):=by omega
  have hu8:u<8:=by omega
  rw[hui]at h0b;rw[hu]at HX;generalize bs[bs.length-1]=x at *;clear br eQ h8 hl hm h0 hu;have HF:=ae (Dn (x:=x) (u:=u));generalize bs.length-1=n at *;generalize bs.length=L at *;go_enter Tryz.func303,Tryz.ntmps303
  go_wp2_with fail;go_ret
  refine⟨?_,rfl⟩;rw[← decide_eq_decide.2 HX.o,← HF.o];rfl
theorem WD{D t0 t k s y n:Nat}(hn:D / 2 ^ t0 % 2 ^ k % 18446744073709551616=n)(hy:y=D / 2 ^ t % 2 ^ s)(ht:t=t0+k)(hk:k<64)(hs:s<=8) :
  bits .or .u64 (n:Int) (IntKind.u64.wrap ((y:Int)*2 ^ k))=((D / 2 ^ t0 % 2 ^ (k+s) % 18446744073709551616:Nat):Int):=by
 have kM:(18446744073709551616:Nat)=2 ^ k*2 ^ (64-k):=by rw[← jex,show k+(64-k)=64 by omega]
 have lq:2 ^ k<=18446744073709551616:=by rw[kM];exact Nat.le_mul_of_pos_right _ (jep _)
 have hm:=Nat.mod_lt (D / 2 ^ t0) (jep k);rw[jen (jdS hm lq)]at hn;rw[hn]at hm;have nZ:=RQ D t0 k s;rw[← ht,hn,← hy]at nZ;rw[← nZ];have e:(y:Int)*2 ^ k=((y*2 ^ k:Nat):Int):=by simp
 have hdvd:y*2 ^ k % 18446744073709551616 % 2 ^ k=0:=by
  rw[kM,Nat.mod_mul_right_mod,Nat.mul_mod_left]
 have aB:y*2 ^ k % 18446744073709551616<2 ^ k*2 ^ (64-k):=by rw[← kM];omega
 have hw:IntKind.u64.wrap (((y*2 ^ k:Nat)):Int)=((y*2 ^ k % 18446744073709551616:Nat):Int):=by rw[jd0];omega
 have hmod:(n+y*2 ^ k) % 18446744073709551616=(n+y*2 ^ k % 18446744073709551616) % 18446744073709551616:=by omega
 rw[e,hw,hmod];generalize y*2 ^ k % 18446744073709551616=z at *;have hz:=Nat.div_add_mod z (2 ^ k);rw[hdvd,jej]at hz;rw[← hz]at aB;have hq:=Nat.lt_of_mul_lt_mul_left aB;have nj:2 ^ k*(z / 2 ^ k+1)<=2 ^ k*2 ^ (64-k):=jey _ hq;rw[← kM,jeE,jeV,hz]at nj;rw[jen (by omega)];have hj:=bits_join_low .u64 64 (by decide) wraps_u64 k (n:Int) (z:Int) (by omega) (by exact_mod_cast hm) (by omega) (by omega) (by exact_mod_cast hdvd) (by omega);rw[hj];omega
theorem WE{ww:Nat}(h:ww<=64):IntKind.u64.wrap (IntKind.u64.wrap (2 ^ ww)-1)=((2 ^ ww-1:Nat):Int):=by
 have e:(2:Int) ^ ww=((2 ^ ww:Nat):Int):=by simp
 have hp:=jep ww;rcases jdY ww 64 with h1 | h1
 ·have:2 ^ ww<2 ^ 64:=Nat.pow_lt_pow_right (by omega) h1
  rw[e,jd0,jd0];omega
 ·obtain rfl:ww=64:=by omega
  decide
theorem MP{D t0 k n ww:Nat}(hn:D / 2 ^ t0 % 2 ^ k % 18446744073709551616=n)(kM:ww<=64)(hk:ww<=k) :
  bits .and .u64 (n:Int) (IntKind.u64.wrap (IntKind.u64.wrap (2 ^ ww)-1))=((D / 2 ^ t0 % 2 ^ ww:Nat):Int):=by
 rw[WE kM];have hp:=jep ww;have pB:2 ^ ww<=2 ^ 64:=jeL (by omega) kM;rw[(bits_nat .u64 64 (by decide) wraps_u64 n (2 ^ ww-1) (by omega) (by omega)).1,Nat.and_two_pow_sub_one_eq_mod,← hn];rw[Nat.mod_mod_of_dvd _ (show 2 ^ ww ∣ 18446744073709551616 from Nat.pow_dvd_pow (n:=64) 2 kM),Nat.mod_mod_of_dvd _ (Nat.pow_dvd_pow 2 hk)]
theorem RS{w:World}{v:Value}{bs:List Nat}(hs:Sx .u8 w v bs)(h8:∀ x∈bs,x<256)(t0 ww:Nat)(hw:ww<=64)(ht:t0+ww<=8*bs.length)(Zk:t0<=16384) :
  Calls Tryz.prog 304 #[v,.int .i64 (t0:Int),.int .i64 (ww:Int)] w fun e w'=>e=.returned (.int .u64 ((pk 8 bs / 2 ^ t0 % 2 ^ ww:Nat):Int))/\w'=w:=by
 obtain⟨a,cap,rfl,hm,eQ⟩:=hs;have py:bs.length<=9223372036854775807:=by unfold maxLen at hm;omega
 have HC:=ae eQ;have H8:=ae h8;clear eQ h8 hm;go_enter Tryz.func304,Tryz.ntmps304
 go_wp2_with fail;go_loopw [1,7,8] (fun at_ n have_ w'=>w'=w/\∃ k t:Nat,k<=ww+7/\t=t0+k/\at_=.int .i64 (t:Int)/\have_=.int .i64 (k:Int)/\n=.int .u64 ((pk 8 bs / 2 ^ t0 % 2 ^ k % 18446744073709551616:Nat):Int)) (fun _ _ i _=>ww-(intOf i).toNat)
 case atStart=>exact⟨rfl,0,t0,by omega,rfl,rfl,rfl,by simp[Nat.mod_one]⟩
 case round =>
  obtain⟨rfl,k,t,hk,XV,rfl,rfl,rfl⟩:=hrel;by_cases aB:k<ww
  ·obtain⟨b,off,rfl,hb,br⟩:=HC.o (by omega)
   have Qs:t / 8<bs.length:=(by omega);have ek:=br (t / 8) Qs;have HF:=ae (zf H8.o Qs);have hx:=H8.o _ (jdA Qs);have rP:=ae XV;have ht1:t<=20000:=(by omega);generalize bs[t / 8]=x at *;obtain⟨j,hj⟩:∃ j,t / 8=j:=⟨_,rfl⟩;obtain⟨r,hr⟩:∃ r,t % 8=r:=⟨_,rfl⟩;obtain⟨s,PB⟩:∃ s,8-r=s:=⟨_,rfl⟩;obtain⟨y,hy⟩:∃ y,x / 2 ^ r=y:=⟨_,rfl⟩;obtain⟨n,hn⟩:∃ n,pk 8 bs / 2 ^ t0 % 2 ^ k % 18446744073709551616=n:=⟨_,rfl⟩;rw[hr,hy,PB]at HF;rw[hj]at ek Qs;have hji:(t:Int) / 8=(j:Int):=(by omega);have Cp:(t:Int) % 8=(r:Int):=(by omega);have hsi:(8:Int)-(r:Int)=(s:Int):=(by omega);have hr8:r<8:=(by omega);have hs8:s<=8:=(by omega);have ea:1<=s:=(by omega);have hyi:(x:Int) / 2 ^ r=(y:Int):=by rw[← hy];simp
   have yv:y<256:=by rw[← hy];exact jfe (Nat.div_le_self _ _) hx
   rw[hn];have HN:=ae hn;have hor:=WD HN.o HF.o rP.o (by omega) (by omega);have HK:jfp (k+s<=ww+7):=ae (by omega);have FV:k<=64:=(by omega);clear br hn hy hr hj PB XV;go_wp2_with fail;go_roundw
   case rel=>exact⟨trivial,k+s,t+s,HK.o,by have:=rP.o;omega,by go_num,by go_num,rfl⟩
   case measure=>simp[intOf];omega
  ·have rP:=ae XV
   clear XV HC;generalize hn:pk 8 bs / 2 ^ t0 % 2 ^ k % 18446744073709551616=n;have HN:=ae hn;have hnl:n<18446744073709551616:=by rw[← hn];exact Nat.mod_lt _ (by omega)
   clear hn;go_wp2_with fail;go_ret
   rw[← MP HN.o hw (by omega)];exact⟨rfl,rfl⟩
theorem oJ{w:World}{B e n:Nat}{v:Value}{xs:List Value}(h:w.ownsRow B e 1 v n xs)(hp:0<n):∃ g cap,v=.slice (some ⟨g,0,none⟩) n cap/\B<=g/\g<w.heap.size:=by
 obtain⟨hl,h1⟩:=id h;rcases h1 with ⟨rfl,rfl⟩ | ⟨g,cap,cur,rfl,hb,hg,h4⟩
 ·omega
 ·exact⟨g,cap,rfl,hb,(Array.getElem?_eq_some_iff.1 hg).1⟩
theorem AO{w:World}{B e n:Nat}{v:Value}{xs:List Value}(h:w.ownsRow B e 1 v n xs):∃ a cap,v=.slice a n cap:=by
 obtain⟨hl,h1⟩:=id h;rcases h1 with ⟨rfl,rfl⟩ | ⟨g,cap,cur,rfl,hb,hg,h4⟩
 ·exact⟨none,0,rfl⟩
 ·exact⟨_,cap,rfl⟩
theorem cO{B:Nat}{a w:World}(h:Below B a w){g j:Nat}(hg:B<=g)(u:Value):Below B a (w.setCell ⟨g,j,none⟩ u):=h.setCell hg u
theorem jat{x m r z:Nat}(hr:r<8)(hx:x<2 ^ r)(hz:IntKind.u64.wrap ((m:Int)*2 ^ r)=(z:Int)) :
  bits .or .u8 (x:Int) ((z:Int) % 256)=((x+m % 2 ^ (8-r)*2 ^ r:Nat):Int):=by
 have e:(m:Int)*2 ^ r=((m*2 ^ r:Nat):Int):=by simp
 rw[e,jd0]at hz;have bv:(z:Int) % 256=((m*2 ^ r % 256:Nat):Int):=by omega
 have Fy:(256:Nat)=2 ^ (8-r)*2 ^ r:=by rw[jd4,sH hr]
 have hm:m*2 ^ r % 256=m % 2 ^ (8-r)*2 ^ r:=by rw[Fy,Nat.mul_mod_mul_right]
 have hl:m*2 ^ r % 256<256:=Nat.mod_lt _ (by omega);have BT:2 ^ r<=256:=by rw[Fy];exact Nat.le_mul_of_pos_left _ (jep _)
 have hd:m % 2 ^ (8-r)*2 ^ r % 2 ^ r=0:=Nat.mul_mod_left _ _;rw[hm]at hl bv;rw[bv];generalize m % 2 ^ (8-r)*2 ^ r=q at *;have hj:=bits_join_low .u8 8 (by decide) wraps_u8 r (x:Int) (q:Int) (by omega) (by exact_mod_cast hx) (by omega) (by omega) (by exact_mod_cast hd) (by omega);rw[hj];omega
theorem WF{B:Nat}{w:World}{v:Value}{bs:List Nat}(aA:w.ownsRow B 5 1 v bs.length (aF .u8 bs))(h8:∀ x∈bs,x<256)(t0 ww n:Nat)(hw:ww<=64)(hn:n<2 ^ ww)
  (hn64:n<18446744073709551616) (ht:t0+ww<=8*bs.length) (hV:pk 8 bs<2 ^ t0) (Zk:t0<=16384) (jbd:bs.length<=2048) :
  Calls Tryz.prog 204 #[v,.int .i64 (t0:Int),.int .i64 (ww:Int),.int .u64 (n:Int)] w fun e w'=>e=.returned (.tuple #[]) /\
   (∃ bs',w'.ownsRow B 5 1 v bs.length (aF .u8 bs')/\bs'.length=bs.length/\(∀ x∈bs',x<256)/\pk 8 bs'=pk 8 bs+n*2 ^ t0)/\Below B w w':=by
 obtain⟨T,hT⟩:∃ T,pk 8 bs+n*2 ^ t0=T:=⟨_,rfl⟩;rw[hT];obtain⟨E,hE⟩:∃ E,t0+ww=E:=⟨_,rfl⟩;have hEi:(t0:Int)+(ww:Int)=(E:Int):=by omega
 have HS:jfp (∃ bs':List Nat,w.ownsRow B 5 1 v bs.length (aF .u8 bs')/\bs'.length=bs.length/\(∀ x∈bs',x<256)/\pk 8 bs'<2 ^ t0/\pk 8 bs'+n*2 ^ t0=T) :=
  ae ⟨bs,aA,rfl,h8,hV,hT⟩
 have HN:jfp (n<2 ^ (E-t0)):=ae (by rw[← hE,Nat.add_sub_cancel_left];exact hn);rw[hE]at ht;have hE0:E<=t0+64:=by omega
 have hE1:t0<=E:=by omega
 clear aA h8 hV hT hn hE;generalize bs.length=L at *;go_enter Tryz.func204,Tryz.ntmps204
 go_wp2_with fail
 go_loopw [1,3] (fun at_ mm wr=>∃ t m:Nat,at_=.int .i64 (t:Int)/\mm=.int .u64 (m:Int)/\t<=E+7/\m<18446744073709551616/\m<2 ^ (E-t) /\
   (∃ bs':List Nat,wr.ownsRow B 5 1 v L (aF .u8 bs')/\bs'.length=L/\(∀ x∈bs',x<256)/\pk 8 bs'<2 ^ t/\pk 8 bs'+m*2 ^ t=T)/\Below B w wr) (fun a _ _=>E-(intOf a).toNat)
 case atStart=>exact⟨t0,n,rfl,rfl,by omega,hn64,HN.o,HS.o,jdv _ _⟩
 case round =>
  obtain⟨t,m,rfl,rfl,htE,hm64,hmE,⟨cs,how,eQ,h8,hV,nZ⟩,az⟩:=hrel;have HB:=ae az;by_cases aB:t<E
  ·have Qs:t / 8<cs.length:=by omega
   obtain⟨g,cap,rfl,hBg,PC⟩:=oJ how (by omega);have ek:=(how.cellAt (t / 8) (by omega)).trans (bU Qs);have lH:=how.frozenAt (t / 8);have Zl:=Dm h8 hV Qs;have hx8:=h8 _ (jdA Qs);have FX:=ae (jar (n:=m) (by omega:t % 8<8) Zl);have PD:=ae (RM Qs (m % 2 ^ (8-t % 8)));have cU:=ae (how.stored (t / 8) (.int .u8 ((cs[t / 8]+m % 2 ^ (8-t % 8)*2 ^ (t % 8):Nat):Int)));rw[kn]at cU;have H8:=ae (RN (j:=t / 8) h8 FX.o);have PE:=ae (ze (n:=m) (s:=8-t % 8) hV);have VQ:=ae (WB (pk 8 cs) m t (8-t % 8));have XY:=ae (RO (s:=8-t % 8) hmE);have HSU:=ae nZ;have LO:jfp ((cs.set (t / 8) (cs[t / 8]+m % 2 ^ (8-t % 8)*2 ^ (t % 8))).length=L):=ae (by rw[jeS];exact eQ)
   obtain⟨z,hz⟩:∃ z:Nat,IntKind.u64.wrap ((m:Int)*2 ^ (t % 8))=(z:Int):=by
    refine⟨(IntKind.u64.wrap ((m:Int)*2 ^ (t % 8))).toNat,?_⟩;rw[jd0];omega
   have hor:=jat (by omega) Zl hz
   have hz64:z<18446744073709551616:=by
    rw[jd0]at hz;omega
   generalize PG:cs.set (t / 8) (cs[t / 8]+m % 2 ^ (8-t % 8)*2 ^ (t % 8))=cs2 at *;generalize cs[t / 8]+m % 2 ^ (8-t % 8)*2 ^ (t % 8)=c at *;generalize cs[t / 8]=x at *;clear how az h8 hV nZ PG Zl;have hji:(t:Int) / 8=((t / 8:Nat):Int):=(by omega);have Cp:(t:Int) % 8=((t % 8:Nat):Int):=(by omega);have hsi:(8:Int)-((t % 8:Nat):Int)=((8-t % 8:Nat):Int):=(by omega);have hr8:t % 8<8:=(by omega);have hs8:8-t % 8<=8:=(by omega);have ea:1<=8-t % 8:=(by omega);have hjL:t / 8<L:=(by omega);have HTT:jfp (t+(8-t % 8)<=E+7):=ae (by omega);have HEE:jfp (E-(t+(8-t % 8))=E-t-(8-t % 8)):=ae (by omega);have hmd:(m:Int) / 2 ^ (8-t % 8)=((m / 2 ^ (8-t % 8):Nat):Int):=by simp
   have hml:m / 2 ^ (8-t % 8)<=m:=Nat.div_le_self _ _;have hc8:=FX.o;generalize 8-t % 8=s at *;generalize t % 8=r at *;generalize t / 8=j at *;clear hmE;generalize m / 2 ^ s=q at *;go_wp2_with fail;go_region
   all_goals
    go_wp2_with fail;go_roundw
    case rel =>
     refine⟨t+s,q,by go_num,by go_num,HTT.o,by omega,?_,⟨cs2,cU.o.1.drew,LO.o,H8.o,?_,?_⟩,(cO HB.o hBg _).drew⟩
     ·rw[HEE.o];exact XY.o
     ·rw[PD.o];exact PE.o
     ·rw[PD.o,VQ.o];exact HSU.o
    case measure=>simp[intOf];omega
  ·have hm0:m=0:=by
    rw[show E-t=0 by omega]at hmE;omega
   subst hm0;have HO:jfp (∃ bs':List Nat,wr.ownsRow B 5 1 v L (aF .u8 bs')/\bs'.length=L/\(∀ x∈bs',x<256)/\pk 8 bs'=T):=ae ⟨cs,how,eQ,h8,by simpa using nZ⟩;clear how eQ h8 hV nZ az hmE;go_wp2_with fail;go_end0
   exact⟨rfl,HO.o,HB.o⟩
theorem kf(k:IntKind)(n:Nat):(madeCells #[Value.int k 0] n).toList=aF k (List.replicate n 0):=by
 rw[jeZ];simp[aF]
theorem wl{l:List Nat}{x:Int}(h:can l x=false):bi l x=[]:=by unfold bi;rw[h];rfl
theorem gD(w:World)(B e:Nat):w.ownsRow B e 1 (.slice none 0 0) 0 []:=jeo _ _ _ _
theorem Do{l:List Nat}{ww k:Nat}(hw:∀ x∈l,x<2 ^ ww)(hk:k<=l.length):pk ww (l.take k)<2 ^ (k*ww):=by
 have:=CR (w:=ww) (l:=l.take k) (fun x hx=>hw x (jek hx));rwa[jdC,jew hk,jd4]at this
theorem zh{w:World}{v:Value}{l:List Nat}(hs:Sx .u64 w v l)(kM:∀ x∈l,x<18446744073709551616)(x:Int) :
  Calls Tryz.prog 171 #[v,.int .i64 x] w fun e w'=>∃ v',e=.returned (.tuple #[v',.bool (can l x)])/\w'.ownsRow w.heap.size 5 1 v' (bi l x).length (aF .u8 (bi l x))/\Below w.heap.size w w':=by
 have HW:=ae (sI hs kM);have HA:=ae (tG (l.length:Int) x);obtain⟨a,cap,rfl,hm,eQ⟩:=hs;have py:l.length<=9223372036854775807:=by unfold maxLen at hm;omega
 by_cases xN:0<=(l.length:Int)/\(l.length:Int)<=256/\0<=x/\x<=64
 ·rw[jdO xN]at HA
  obtain⟨_,hl256,VR,PH⟩:=xN;obtain⟨ww,rfl⟩:=jeY VR;by_cases LJ:wd l<=ww
  ·have lC:can l (ww:Int)=true:=by
    unfold can;simp only[jei,jd1];exact⟨by omega,by omega,by omega,LJ⟩
   have dC:=qG.1 LJ;have uT:¬ ((wd l:Nat):Int) > (ww:Int):=(by omega);have hc:l.length*ww<=16384:=jdF (je2 (show l.length<=256 by omega) (show ww<=64 by omega)) (by omega);have hmul:(l.length:Int)*(ww:Int)=((l.length*ww:Nat):Int):=by simp
   have HP:=ae (fun(bs:List Nat)=>zg (bs:=bs) lC);have tp:=ae (qP (l.length*ww) hc);have HL8:=ae (Gz (l.length*ww));have hL:by8 (l.length*ww)<=2048:=by unfold by8;omega
   have HF:=ae dC;have HC:=ae eQ;have BR:=ae kM;have PI:ww<=64:=(by omega);rw[lC];clear eQ kM dC lC LJ VR PH hm;obtain⟨i0,hi,ct,hz1',bv⟩:=jdP jk;generalize by8 (l.length*ww)=L at *;generalize hcc:l.length*ww=c at *;have VS:=ae hcc;clear hcc;go_enter Tryz.func171,Tryz.ntmps171
   go_wp2_with fail;refine(HA.o _).mono ?_;rintro e w1 ⟨rfl,rfl⟩;go_wp2_with fail;refine HW.o.mono ?_;rintro e w2 ⟨rfl,rfl⟩;go_wp2_with fail;refine(tp.o _).mono ?_;rintro e w3 ⟨rfl,rfl⟩;go_wp2_with (first | (refine jeA _ rfl _ _ 30 rfl w3.heap.size 5 i0 (.int .u8 0) 1 Tryz.underlying30 hi ct hz1' .i64 .i64 _ _ L rfl rfl ?m1 ?m2 ?m3 ?m4 ?m5 ?_))
   case m1=>rfl
   case m2=>rfl
   case m3=>rw[bv];omega
   case m4=>unfold maxLen;omega
   case m5=>omega
   intro w4 gN iN;have bK:Below w3.heap.size w3 w4:=(jdv _ _).grown iN (jdw _) (fun k hk=>by cases hk)
   have ho4':w4.ownsRow w3.heap.size 5 1 (.slice (some ⟨w3.heap.size,0,none⟩) L L) L (aF .u8 (List.replicate L 0)):=by
    rw[← kf];simpa using gN
   have eR:=ae ho4';have cx:=ae bK;clear gN iN bK ho4';go_wp2_with fail;go_loopw [28] (fun i wr=>∃ k:Nat,i=.int .i64 (k:Int)/\k<=l.length/\(∃ bs:List Nat,wr.ownsRow w3.heap.size 5 1 (.slice (some ⟨w3.heap.size,0,none⟩) L L) L (aF .u8 bs)/\bs.length=L/\(∀ x∈bs,x<256)/\pk 8 bs=pk ww (l.take k))/\Below w3.heap.size w3 wr) (fun i _=>l.length-(intOf i).toNat)
   case atStart=>exact⟨0,rfl,by omega,⟨List.replicate L 0,eR.o,by simp,by simp,by rw[CT];rfl⟩,cx.o⟩
   case round =>
    obtain⟨k,rfl,hk,⟨bs,how,fT,lD,XW⟩,az⟩:=hrel;have HB:=ae az;by_cases aB:k<l.length
    ·obtain⟨b,off,rfl,hb,br⟩:=HC.o (by omega)
     have ek:=(az.cell (p:=⟨b,off+k,none⟩) hb).trans (br k aB);have hkw:(k:Int)*(ww:Int)=((k*ww:Nat):Int):=by simp
     have Zm:k*ww+ww<=8*L:=by
      have h1:(k+1)*ww<=l.length*ww:=Nat.mul_le_mul_right _ aB;rw[jd9,jeB]at h1;rw[VS.o]at h1;have:=HL8.o;omega
     have hPut:=WF (w:=wr) (by rw[fT];exact how) lD (k*ww) ww l[k] PI (HF.o _ (jdA aB)) (BR.o _ (jdA aB)) (by rw[fT];exact Zm) (by rw[XW];exact Do HF.o hk) (by omega) (by omega);have XZ:k*ww<=16384:=(by omega);rw[fT,XW,jd4 k ww,← qD ww aB,jd4 ww k]at hPut;have HPut:=ae hPut;clear br how lD XW az hPut Zm;generalize l[k]=n at *;generalize k*ww=t0 at *;go_wp2_with fail;refine HPut.o.mono ?_;rintro e w5 ⟨rfl,⟨bs',fZ,hl5,h85,hp5⟩,bD⟩;have dE:=ae fZ;have aR:=ae (HB.o.trans bD);have HL5:=ae hl5;have HP5:=ae hp5;clear fZ bD hl5 hp5;go_wp2_with fail;go_roundw
     case rel=>exact⟨k+1,by go_num,by omega,⟨bs',dE.o,HL5.o,h85,HP5.o⟩,aR.o⟩
     case measure=>simp[intOf];omega
    ·obtain rfl:k=l.length:=by omega
     rw[jdE]at XW;have HE:=ae (HP.o bs lD fT XW)
     have HO:jfp (wr.ownsRow w3.heap.size 5 1 (.slice (some ⟨w3.heap.size,0,none⟩) L L) (bi l ww).length (aF .u8 (bi l ww))):=by
      show World.ownsRow _ _ _ _ _ _ _
      rw[← HE.o,fT];exact how
     clear how fT lD XW az HP HE;go_wp2_with fail;go_ret2
     exact⟨_,rfl,HO.o,HB.o⟩
  ·have lC:can l (ww:Int)=false:=by
    unfold can;simp only[je0,jd1];rintro⟨_,_,_,h⟩;exact LJ h
   have uT:((wd l:Nat):Int) > (ww:Int):=(by omega);rw[lC,wl lC];clear eQ kM lC LJ VR PH hm;go_enter Tryz.func171,Tryz.ntmps171
   go_wp2_with fail;refine(HA.o _).mono ?_;rintro e w1 ⟨rfl,rfl⟩;go_wp2_with fail;refine HW.o.mono ?_;rintro e w2 ⟨rfl,rfl⟩;go_wp2_with fail;go_ret2
   exact⟨_,rfl,gD _ _ _,jdv _ _⟩
 ·rw[jdK xN]at HA
  have lC:can l x=false:=by
   unfold can;simp only[je0];rintro⟨h1,h2,h3,_⟩;exact xN ⟨by omega,by omega,h1,h2⟩
  rw[lC,wl lC];clear eQ kM lC xN hm HW;go_enter Tryz.func171,Tryz.ntmps171
  go_wp2_with fail;refine(HA.o _).mono ?_;rintro e w1 ⟨rfl,rfl⟩;go_wp2_with fail;go_ret2
  exact⟨_,rfl,gD _ _ _,jdv _ _⟩
theorem wm{b:List Nat}{n x:Int}(h:unE b n x≠0):unR b n x=[]:=by unfold unR;rw[jdt h]
theorem WG{b:List Nat}{n x:Int}(h:¬ (0<=n/\n<=256/\0<=x/\x<=64)):unE b n x=1:=by unfold unE;rw[jdt h]
theorem Dp{b:List Nat}{N ww:Nat}(hN:N<=256)(hw:ww<=64)(h:¬ (b.length=by8 (N*ww)/\pk 8 b<2 ^ (N*ww))):unE b N ww=40:=by
 unfold unE;rw[jdu ⟨by omega,by omega,by omega,by omega⟩];simp only[jd1];rw[jdt h]
theorem jau{b:List Nat}{N ww:Nat}(hN:N<=256)(hw:ww<=64)(h:b.length=by8 (N*ww))(h2:pk 8 b<2 ^ (N*ww)):unE b N ww=0:=by
 unfold unE;rw[jdu ⟨by omega,by omega,by omega,by omega⟩];simp only[jd1];rw[jdu ⟨h,h2⟩]
theorem jav{b:List Nat}{N ww:Nat}(h:unE b N ww=0):unR b N ww=dig ww N (pk 8 b):=by
 unfold unR;rw[jdu h];rfl
theorem tH{w:World}{v:Value}{b:List Nat}(hs:Sx .u8 w v b)(h8:∀ x∈b,x<256)(n x:Int) :
  Calls Tryz.prog 294 #[v,.int .i64 n,.int .i64 x] w fun e w'=>∃ v',e=.returned (.tuple #[v',.int .i64 (unE b n x:Int)])/\w'.ownsRow w.heap.size 92 1 v' (unR b n x).length (aF .u64 (unR b n x))/\Below w.heap.size w w':=by
 have HA:=ae (tG n x);by_cases xN:0<=n/\n<=256/\0<=x/\x<=64
 ·rw[jdO xN]at HA
  obtain⟨qq,UC,VR,PH⟩:=xN;obtain⟨ww,rfl⟩:=jeY VR;obtain⟨N,rfl⟩:=jeY qq;have PI:ww<=64:=by omega
  have hN:N<=256:=by omega
  have hc:N*ww<=16384:=jdF (je2 hN PI) (by omega);have hmul:(N:Int)*(ww:Int)=((N*ww:Nat):Int):=by simp
  have tp:=ae (qP (N*ww) hc);by_cases bR:b.length=by8 (N*ww)
  ·have qr:=ae (MO hs h8 (N*ww) hc bR)
   have hleq:((b.length:Int) != ((by8 (N*ww):Nat):Int))=false:=by rw[bR];simp
   by_cases gd:pk 8 b<2 ^ (N*ww)
   ·rw[jdO gd]at qr
    have HE:=ae (jau hN PI bR gd);rw[HE.o,jav HE.o,dR];have gj:=Gz (N*ww);have rP:=ae (fun(W:World) (hW:Sx .u8 W v b) (t0:Nat) (h1:t0+ww<=8*b.length) (h2:t0<=16384)=>RS hW h8 t0 ww PI h1 h2)
    have cU:jfp (∀ k,k<N->k*ww+ww<=8*b.length/\k*ww<=16384):=ae (fun k hk=>by
     have h1:(k+1)*ww<=N*ww:=Nat.mul_le_mul_right _ hk;rw[jd9,jeB]at h1;rw[bR];omega)
    have HS:=ae hs;obtain⟨i0,hi,ct,hz1',bv⟩:=jdP pM;obtain⟨a,cap,rfl,hm,eQ⟩:=hs;have py:b.length<=2048:=by rw[bR];unfold by8;omega
    clear eQ h8 gd bR VR PH qq UC hm gj;generalize by8 (N*ww)=L at *;generalize N*ww=c at *;obtain⟨D,hD⟩:∃ D,dig ww N (pk 8 b)=D:=⟨_,rfl⟩;have hDl:D.length=N:=by rw[← hD,dR]
    have HG:jfp (∀ k (h:k<N),D[k]?=some (pk 8 b / 2 ^ (k*ww) % 2 ^ ww)):=ae (fun k h=>by rw[← hD,AG ww N _ k h,jd4]);rw[hD];have kQ:=ae hDl;clear hD hDl;go_enter Tryz.func294,Tryz.ntmps294
    go_wp2_with fail;refine(HA.o _).mono ?_;rintro e w1 ⟨rfl,rfl⟩;go_wp2_with fail;refine(tp.o _).mono ?_;rintro e w2 ⟨rfl,rfl⟩;go_wp2_with fail;refine qr.o.mono ?_;rintro e w3 ⟨rfl,rfl⟩;go_wp2_with (first | (refine jeA _ rfl _ _ 142 rfl w3.heap.size 92 i0 (.int .u64 0) 1 Tryz.underlying142 hi ct hz1' .i64 .i64 _ _ N rfl rfl ?m1 ?m2 ?m3 ?m4 ?m5 ?_))
    case m1=>rfl
    case m2=>rfl
    case m3=>rw[bv];omega
    case m4=>unfold maxLen;omega
    case m5=>omega
    intro w4 gN iN;have bK:Below w3.heap.size w3 w4:=(jdv _ _).grown iN (jdw _) (fun k hk=>by cases hk)
    have ho4':w4.ownsRow w3.heap.size 92 1 (.slice (some ⟨w3.heap.size,0,none⟩) N N) N (aF .u64 (fill D 0)):=by
     rw[oI,kQ.o,← kf];simpa using gN
    have eR:=ae ho4';have cx:=ae bK;clear gN iN bK ho4';go_wp2_with fail;go_loopw [33] (fun i wr=>∃ k:Nat,i=.int .i64 (k:Int)/\k<=N/\wr.ownsRow w3.heap.size 92 1 (.slice (some ⟨w3.heap.size,0,none⟩) N N) N (aF .u64 (fill D k))/\Below w3.heap.size w3 wr) (fun i _=>N-(intOf i).toNat)
    case atStart=>exact⟨0,rfl,by omega,eR.o,cx.o⟩
    case round =>
     obtain⟨k,rfl,hk,how,az⟩:=hrel;have HB:=ae az;by_cases aB:k<N
     ·have hkD:k<D.length:=by rw[kQ.o];exact aB
      have hval:D[k]=pk 8 b / 2 ^ (k*ww) % 2 ^ ww:=by
       have:=HG.o k aB;rw[List.getElem?_eq_getElem hkD]at this;exact Option.some.inj this
      have kj:k<(fill D k).length:=by rw[kX (by omega)];exact hkD
      have ek:=(how.cellAt k (by omega)).trans (bU kj);have lH:=how.frozenAt k;have hST:=how.stored k (.int .u64 ((D[k]:Nat):Int));rw[kn,qO hkD]at hST;have UD:=ae hST;have hkw:(k:Int)*(ww:Int)=((k*ww:Nat):Int):=by simp
      have XZ:=(cU.o k aB).2;have hTake:=rP.o wr (HS.o.kept az) (k*ww) (cU.o k aB).1 XZ;rw[← hval]at hTake;have HTake:=ae hTake;have PC:=(how.lt w3.heap.size rfl).2;clear how az hST hTake hval;generalize (fill D k)[k]=y at *;generalize D[k]=z at *;generalize k*ww=t0 at *;go_wp2_with fail;refine HTake.o.mono ?_;rintro e w5 ⟨rfl,rfl⟩;go_wp2_with fail;go_roundw
      case rel=>exact⟨k+1,by go_num,by omega,UD.o.1,cO HB.o (jdw _) _⟩
      case measure=>simp[intOf];omega
     ·obtain rfl:k=N:=by omega
      have HO:jfp (wr.ownsRow w3.heap.size 92 1 (.slice (some ⟨w3.heap.size,0,none⟩) k k) k (aF .u64 D)):=by
       show World.ownsRow _ _ _ _ _ _ _
       have e:fill D k=D:=by
        have:=qN D;rwa[kQ.o]at this
       rw[e]at how;exact how
      clear how az;go_wp2_with fail;go_ret2
      exact⟨_,rfl,HO.o,HB.o⟩
   ·rw[jdK gd]at qr
    have hE:=Dp (b:=b) hN PI (fun h=>gd h.2);rw[hE,wm (by rw[hE];omega)];obtain⟨a,cap,rfl,hm,eQ⟩:=hs;have py:b.length<=2048:=by rw[bR];unfold by8;omega
    clear eQ h8 gd bR VR PH qq UC hm hE;generalize by8 (N*ww)=L at *;generalize N*ww=c at *;go_enter Tryz.func294,Tryz.ntmps294
    go_wp2_with fail;refine(HA.o _).mono ?_;rintro e w1 ⟨rfl,rfl⟩;go_wp2_with fail;refine(tp.o _).mono ?_;rintro e w2 ⟨rfl,rfl⟩;go_wp2_with fail;refine qr.o.mono ?_;rintro e w3 ⟨rfl,rfl⟩;go_wp2_with fail;go_ret2
    exact⟨_,rfl,gD _ _ _,jdv _ _⟩
  ·have hleq:((b.length:Int) != ((by8 (N*ww):Nat):Int))=true:=by
    rw[bne_iff_ne];intro h;exact bR (by omega)
   have hE:=Dp (b:=b) hN PI (fun h=>bR h.1);rw[hE,wm (by rw[hE];omega)];obtain⟨a,cap,rfl,hm,eQ⟩:=hs;have py:b.length<=9223372036854775807:=by unfold maxLen at hm;omega
   clear eQ h8 bR VR PH qq UC hm hE;generalize by8 (N*ww)=L at *;generalize N*ww=c at *;go_enter Tryz.func294,Tryz.ntmps294
   go_wp2_with fail;refine(HA.o _).mono ?_;rintro e w1 ⟨rfl,rfl⟩;go_wp2_with fail;refine(tp.o _).mono ?_;rintro e w2 ⟨rfl,rfl⟩;go_wp2_with fail;go_ret2
   exact⟨_,rfl,gD _ _ _,jdv _ _⟩
 ·rw[jdK xN]at HA
  have hE:=WG (b:=b) xN;rw[hE,wm (by rw[hE];omega)];obtain⟨a,cap,rfl,hm,eQ⟩:=hs;clear eQ h8 xN hm hE;go_enter Tryz.func294,Tryz.ntmps294
  go_wp2_with fail;refine(HA.o _).mono ?_;rintro e w1 ⟨rfl,rfl⟩;go_wp2_with fail;go_ret2
  exact⟨_,rfl,gD _ _ _,jdv _ _⟩
end Go.Proofs.YtpljdjmpamjkhaaGreatDoor
