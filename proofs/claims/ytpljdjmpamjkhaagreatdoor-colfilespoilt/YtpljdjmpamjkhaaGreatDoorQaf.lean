import Derived.Test.YtpljdjmpamjkhaaGreatDoorQae
import Derived.Test.YtpljdjmpamjkhaaGreatDoorQad
set_option linter.unusedVariables false
set_option maxRecDepth 100000
set_option maxHeartbeats 8000000
set_option linter.unusedSimpArgs false
namespace Go.Proofs.YtpljdjmpamjkhaaGreatDoor
theorem Hv(t:Nat):2 ^ t=2 ^ (t % 8)*2 ^ (8*(t / 8)):=by
 rw[← jfl];congr 1
 omega
theorem Ea{bs:List Nat}{t:Nat}(h:∀ x∈bs,x<256)(ht:pk 8 bs<2 ^ t)(hj:t / 8<bs.length):bs[t / 8]<2 ^ (t % 8):=by
 rw[RW (w:=8) h hj];refine jf4 (Nat.mod_le _ _) ?_;rw[Nat.div_lt_iff_lt_mul (jfe _),← Hv];exact ht
theorem td{r:Nat}(h:r<8):2 ^ r*2 ^ (8-r)=256:=by
 rw[← jfl,show r+(8-r)=8 by omega]
theorem jbf{x n r:Nat}(hr:r<8)(hx:x<2 ^ r):x+n % 2 ^ (8-r)*2 ^ r<256:=by
 have h1:=Nat.mod_lt n (jfe (8-r));have h2:(n % 2 ^ (8-r)+1)*2 ^ r<=2 ^ (8-r)*2 ^ r:=Nat.mul_le_mul_right _ h1;rw[jeU (2 ^ (8-r)),td hr,jeZ,jfp]at h2;omega
theorem SG{bs:List Nat}{t:Nat}(hj:t / 8<bs.length)(c:Nat):pk 8 (bs.set (t / 8) (bs[t / 8]+c*2 ^ (t % 8)))=pk 8 bs+c*2 ^ t:=by
 have h:=RV 8 (bs[t / 8]+c*2 ^ (t % 8)) hj;rw[jeZ,jfz,← Hv]at h;omega
theorem SH{bs:List Nat}{j c:Nat}(h:∀ x∈bs,x<256)(hc:c<256):∀ x∈bs.set j c,x<256:=by
 intro x hx;rcases jgd hx with hx | rfl
 ·exact h x hx
 ·exact hc
theorem Xu(V n t s:Nat):V+n % 2 ^ s*2 ^ t+n / 2 ^ s*2 ^ (t+s)=V+n*2 ^ t:=by
 have h:=Nat.mod_add_div n (2 ^ s);have h2:=jep (·*2 ^ t) h;simp only[jeZ]at h2;rw[jfl,jeU (2 ^ t),← jfz,jeU (n / 2 ^ s)];omega
theorem zR{V n t s:Nat}(h:V<2 ^ t):V+n % 2 ^ s*2 ^ t<2 ^ (t+s):=by
 have h1:=Nat.mod_lt n (jfe s);have h2:(n % 2 ^ s+1)*2 ^ t<=2 ^ s*2 ^ t:=Nat.mul_le_mul_right _ h1;rw[jfl,jeU (2 ^ t)];rw[jeZ,jfp]at h2;omega
theorem SI{n w s:Nat}(h:n<2 ^ w):n / 2 ^ s<2 ^ (w-s):=by
 rw[Nat.div_lt_iff_lt_mul (jfe _),← jfl];exact jeH h (jfA (by omega) (by omega))
theorem zS{bs:List Nat}{t:Nat}(h:∀ x∈bs,x<256)(hj:t / 8<bs.length):bs[t / 8] / 2 ^ (t % 8)=pk 8 bs / 2 ^ t % 2 ^ (8-t % 8):=by
 rw[RW (w:=8) h hj,show (2:Nat) ^ 8=2 ^ (t % 8)*2 ^ (8-t % 8) from (td (by omega)).symm,Nat.mod_mul_right_div_self,jga,
  jeU (2 ^ (8*(t / 8))),← Hv]
theorem SK(D t a s:Nat):D / 2 ^ t % 2 ^ a+D / 2 ^ (t+a) % 2 ^ s*2 ^ a=D / 2 ^ t % 2 ^ (a+s):=by
 rw[jfl 2 a s,Nat.mod_mul,jga,← jfl,jeU (2 ^ a)]
theorem Hw{bs:List Nat}{c:Nat}(h:∀ x∈bs,x<256)(hl:bs.length=by8 c)(h0:c % 8=0):pk 8 bs<2 ^ c:=by
 have:=DG (w:=8) h;rw[hl]at this;rwa[show 8*by8 c=c by unfold by8;omega]at this
theorem Hx{bs:List Nat}{c:Nat}(h:∀ x∈bs,x<256)(hl:bs.length=by8 c)(h0:c % 8≠0)(hj:bs.length-1<bs.length) :
  bs[bs.length-1] / 2 ^ (c % 8)=0↔pk 8 bs<2 ^ c:=by
 have aB:=DG (w:=8) h;have e:bs.length-1=c / 8:=by rw[hl];unfold by8;omega
 have hc:c / 8<bs.length:=by omega
 have e2:bs[bs.length-1]=bs[c / 8]:=by simp only[e]
 rw[e2,zS h hc,jfd]
 ·rw[Nat.div_eq_zero_iff]
  have:=jfe c;omega
 ·rw[Nat.div_lt_iff_lt_mul (jfe _),← jfl,show 8-c % 8+c=8*bs.length by rw[hl];unfold by8;omega]
  exact aB
theorem NB{t:Nat}(h:t % 8=0):by8 (t+1)=by8 t+1/\t / 8=by8 t:=by unfold by8;omega
theorem NC{t:Nat}(h:t % 8≠0):by8 (t+1)=by8 t/\t / 8<by8 t:=by unfold by8;omega
theorem rk(x k:Nat):x % 2 ^ (k+1)=x % 2 ^ k+2 ^ k*(x / 2 ^ k % 2):=Nat.mod_pow_succ
def fill(l:List Nat)(i:Nat):List Nat:=l.take i++List.replicate (l.length-i) 0
theorem oY(l:List Nat):fill l 0=List.replicate l.length 0:=by simp[fill]
theorem ro(l:List Nat):fill l l.length=l:=by simp[fill]
theorem lm{l:List Nat}{i:Nat}(h:i<=l.length):(fill l i).length=l.length:=by simp[fill];omega
theorem rp{l:List Nat}{i:Nat}(h:i<l.length):(fill l i).set i l[i]=fill l (i+1):=by
 unfold fill
 rw[List.set_append_right _ _ (by simp;omega),jeq,jfk (by omega),jfM,show l.length-i=(l.length-(i+1))+1 by omega,
  List.replicate_succ,jew,jeA h,jez]
 rfl
theorem zT{l bs:List Nat}{w:Nat}(hc:can l w=true)(hb:∀ x∈bs,x<256)(hl:bs.length=by8 (l.length*w))(h:pk 8 bs=pk w l):bs=bm l w:=by
 unfold bm;rw[jei hc,jeQ,← h,← hl];exact(BB hb).symm
open Go.RowKit Go.Lib
theorem jbg{a b:Nat}(ha:a<18446744073709551616)(hb:b<18446744073709551616):bits .or .u64 (a:Int) (b:Int)=((a ||| b:Nat):Int):=by
 show IntKind.u64.wrap ((BitVec.ofInt 64 (a:Int) ||| BitVec.ofInt 64 (b:Int)).toNat:Int)=_
 have e1:(BitVec.ofInt 64 (a:Int)).toNat=a:=by rw[BitVec.toNat_ofInt];omega
 have e2:(BitVec.ofInt 64 (b:Int)).toNat=b:=by rw[BitVec.toNat_ofInt];omega
 have h:=Nat.or_lt_two_pow (x:=a) (y:=b) (n:=64) ha hb;rw[BitVec.toNat_or,e1,e2,jeP];omega
theorem te{w:World}{v:Value}{l:List Nat}(hs:Sx .u64 w v l)(kU:∀ x∈l,x<18446744073709551616) :
  Calls Tryz.prog 202 #[v] w fun e w'=>e=.returned (.int .i64 (wd l:Int))/\w'=w:=by
 obtain⟨a,cap,rfl,hm,hc⟩:=hs;have oD:l.length<=9223372036854775807:=by unfold maxLen at hm;omega
 have HC:=ae hc;have CJ:=ae kU;clear hc hm kU;go_enter Tryz.func202,Tryz.ntmps202
 go_wp2_with fail;go_loopw [3,9] (fun al i w'=>w'=w/\∃ k:Nat,k<=l.length/\i=.int .i64 (k:Int)/\al=.int .u64 (qV (l.take k):Int)) (fun _ i _=>l.length-(intOf i).toNat)
 case atStart=>exact⟨rfl,0,by omega,rfl,rfl⟩
 case round =>
  obtain⟨rfl,k,hk,rfl,rfl⟩:=hrel;by_cases aB:k<l.length
  ·obtain⟨b,off,rfl,hb,bn⟩:=HC.o (by omega)
   have dN:=bn k aB;have hx:=or64 CJ.o k;have hor:=jbg hx (CJ.o l[k] (jeo aB));have HT:=ae (ng aB);clear bn hx;generalize l[k]=x at *;generalize qV (l.take k)=y at *;go_wp2_with fail;go_roundw
   case rel=>exact⟨trivial,k+1,by omega,by go_num,by rw[HT.o]⟩
   case measure=>simp[intOf];omega
  ·obtain rfl:k=l.length:=by omega
   rw[jes];have hx:=or64 CJ.o l.length;rw[jes]at hx;have hw:=Hh CJ.o;have HW:jgf (wd l=cX (qV l)):=rfl;clear HC CJ;generalize qV l=y at *;go_wp2_with fail;go_loopw [3,6] (fun al i w'=>w'=wr/\∃ n k:Nat,al=.int .u64 (n:Int)/\i=.int .i64 (k:Int)/\n<=y/\k+cX n=wd l) (fun al _ _=>(intOf al).toNat)
   case atStart=>exact⟨rfl,y,0,rfl,rfl,jek _,by rw[HW.o,jeO]⟩
   case round =>
    obtain⟨rfl,n,k,rfl,rfl,hn,fK⟩:=hrel;by_cases h0:((n:Int)==0)=true
    ·have h0':n=0:=by simpa using h0
     subst h0';have HK:jgf (k=wd l):=by show k=wd l;simpa [cX]using fK
     clear fK HW;go_wp2_with fail;go_ret
     rw[← HK.o];exact⟨rfl,rfl⟩
    ·have h0f:((n:Int)==0)=false:=by simpa using h0
     have qI:n≠0:=by simpa using h0
     have hbh:=Nd qI;have HB:=ae fK;have HBH:=ae hbh;have oF:k<=64:=(by omega);clear h0 fK hbh;go_wp2_with fail;go_roundw
     case rel=>exact⟨trivial,n / 2,k+1,by go_num,by go_num,by omega,by have:=HB.o;have:=HBH.o;omega⟩
     case measure=>simp[intOf];omega
theorem uh(n w:Int)(W:World):Calls Tryz.prog 201 #[.int .i64 n,.int .i64 w] W fun e w'=>e=.returned (.bool (decide (0<=n/\n<=256/\0<=w/\w<=64)))/\w'=W:=by
 by_cases h1:n>=0
 ·by_cases h2:n<=256
  ·by_cases h3:w>=0
   ·by_cases h4:w<=64
    ·rw[jeB (by omega)]
     go_enter Tryz.func201,Tryz.ntmps201
     go_wp2_with fail;go_ret
     exact⟨rfl,rfl⟩
    ·rw[jeu (by omega)]
     go_enter Tryz.func201,Tryz.ntmps201
     go_wp2_with fail;go_ret
     exact⟨rfl,rfl⟩
   ·rw[jeu (by omega)]
    go_enter Tryz.func201,Tryz.ntmps201
    go_wp2_with fail;go_ret
    exact⟨rfl,rfl⟩
  ·rw[jeu (by omega)]
   go_enter Tryz.func201,Tryz.ntmps201
   go_wp2_with fail;go_ret
   exact⟨rfl,rfl⟩
 ·rw[jeu (by omega)]
  go_enter Tryz.func201,Tryz.ntmps201
  go_wp2_with fail;go_ret
  exact⟨rfl,rfl⟩
theorem rq(c:Nat)(hc:c<=16384)(W:World):Calls Tryz.prog 203 #[.int .i64 (c:Int)] W fun e w'=>e=.returned (.int .i64 (by8 c:Int))/\w'=W:=by
 have HE:jgf (((by8 c:Nat):Int)=((c:Int)+8-1) / 8):=by show _=_;unfold by8;omega
 go_enter Tryz.func203,Tryz.ntmps203
 go_wp2_with fail;go_ret
 rw[HE.o];exact⟨rfl,rfl⟩
theorem LV{x j:Nat}:(x:Int) / 2 ^ j > 0↔j<cX x:=by
 have h:=eR (n:=x) (w:=j);have h2:((x / 2 ^ j:Nat):Int)=(x:Int) / 2 ^ j:=by simp
 rw[← h2]
 have h3:x / 2 ^ j=0↔x<2 ^ j:=by
  rw[Nat.div_eq_zero_iff];have:=jfe j;omega
 have h4:x / 2 ^ j=0↔cX x<=j:=h3.trans h.symm;clear h h2 h3;generalize x / 2 ^ j=q at *;omega
theorem jY{w:World}{v:Value}{l:List Nat}(hs:Sx .u64 w v l)(kU:∀ x∈l,x<18446744073709551616) :
  Calls Tryz.prog 175 #[v] w fun e w'=>e=.returned (.int .i64 (wd l:Int))/\w'=w:=by
 obtain⟨a,cap,rfl,hm,hc⟩:=hs;have oD:l.length<=9223372036854775807:=by unfold maxLen at hm;omega
 have HC:=ae hc;have CJ:=ae kU;clear hc hm kU;go_enter Tryz.func175,Tryz.ntmps175
 go_wp2_with fail;go_loopw [3,4] (fun ww i w'=>w'=w/\∃ k:Nat,k<=l.length/\i=.int .i64 (k:Int)/\ww=.int .i64 (wd (l.take k):Int)) (fun _ i _=>l.length-(intOf i).toNat)
 case atStart=>exact⟨rfl,0,by omega,rfl,by rw[jfK,RY];rfl⟩
 case round =>
  obtain⟨rfl,k,hk,rfl,rfl⟩:=hrel;by_cases aB:k<l.length
  ·obtain⟨b,off,rfl,hb,bn⟩:=HC.o (by omega)
   have dN:=bn k aB;have hx:=CJ.o l[k] (jeo aB);have HT:=ae (qW aB);have hw64:wd (l.take k)<=64:=Hh (fun x hx=>CJ.o x (je2 hx));have hb64:cX l[k]<=64:=eR.2 hx;clear bn;generalize l[k]=x at *;generalize wd (l.take k)=y at *;go_wp2_with fail;go_loopw [3] (fun ww w'=>w'=wr/\∃ j:Nat,ww=.int .i64 (j:Int)/\y<=j/\j<=64/\j<=max y (cX x)) (fun ww _=>64-(intOf ww).toNat)
   case atStart=>exact⟨rfl,y,rfl,by omega,by omega,by omega⟩
   case round =>
    obtain⟨rfl,j,rfl,h1,h2,h3⟩:=hrel;by_cases hj:j<64
    ·by_cases hjb:j<cX x
     ·have tQ:(x:Int) / 2 ^ j > 0:=LV.2 hjb
      have Mw:(j:Int)<64:=(by omega);go_wp2_with fail;go_roundw
      case rel=>exact⟨trivial,j+1,by go_num,by omega,by omega,by omega⟩
      case measure=>simp[intOf];omega
     ·have tQ:¬ (x:Int) / 2 ^ j > 0:=fun h=>hjb (LV.1 h)
      have HJ:jgf (j=max y (cX x)):=by show _=_;omega
      have Mw:(j:Int)<64:=(by omega);clear hjb h3;go_wp2_with fail;go_roundw
      case rel=>exact⟨trivial,k+1,by omega,by go_num,by rw[HT.o,← HJ.o]⟩
      case measure=>simp[intOf];omega
    ·have HJ:jgf (j=max y (cX x)):=by show _=_;omega
     have Mw:¬ (j:Int)<64:=(by omega);clear h3;go_wp2_with fail;go_roundw
     case rel=>exact⟨trivial,k+1,by omega,by go_num,by rw[HT.o,← HJ.o]⟩
     case measure=>simp[intOf];omega
  ·obtain rfl:k=l.length:=by omega
   rw[jes];go_wp2_with fail;go_ret
   exact⟨rfl,rfl⟩
theorem Eb{x u:Nat}:(((x:Int) / 2 ^ u)==0)=decide (x / 2 ^ u=0):=by
 have h2:((x / 2 ^ u:Nat):Int)=(x:Int) / 2 ^ u:=by simp
 rw[← h2];rw[jfN];simp only[beq_iff_eq,je7];exact Int.natCast_eq_zero
theorem ND{w:World}{v:Value}{bs:List Nat}(hs:Sx .u8 w v bs)(h8:∀ x∈bs,x<256)(c:Nat)(hc:c<=16384)(hl:bs.length=by8 c) :
  Calls Tryz.prog 303 #[v,.int .i64 (c:Int)] w fun e w'=>e=.returned (.bool (decide (pk 8 bs<2 ^ c)))/\w'=w:=by
 obtain⟨a,cap,rfl,hm,eX⟩:=hs;by_cases h0:c % 8=0
 ·have h0b:((c:Int) % 8==0)=true:=by simp;omega
  have HE:=ae (jeB (Hw h8 hl h0));clear eX h8 hl hm h0;go_enter Tryz.func303,Tryz.ntmps303
  go_wp2_with fail;go_ret
  rw[HE.o];exact⟨rfl,rfl⟩
 ·have h0b:((c:Int) % 8==0)=false:=by simp;omega
  have tQ:0<bs.length:=by rw[hl];unfold by8;omega
  have pt:bs.length<=2048:=by rw[hl];unfold by8;omega
  obtain⟨b,off,rfl,hb,bn⟩:=eX tQ;have dN:=bn (bs.length-1) (by omega);have HX:=ae (Hx h8 hl h0 (by omega));have hx:=h8 _ (jeo (h:=(by omega:bs.length-1<bs.length)));have hsub:(bs.length:Int)-1=((bs.length-1:Nat):Int):=by omega
  have aB:bs.length-1<bs.length:=by omega
  obtain⟨u,hu⟩:∃ u,c % 8=u:=⟨_,rfl⟩;have hui:(c:Int) % 8=(u:Int):=by omega
  have hu8:u<8:=by omega
  rw[hui]at h0b;rw[hu]at HX;generalize bs[bs.length-1]=x at *;clear bn eX h8 hl hm h0 hu;have HF:=ae (Eb (x:=x) (u:=u));generalize bs.length-1=n at *;generalize bs.length=L at *;go_enter Tryz.func303,Tryz.ntmps303
  go_wp2_with fail;go_ret
  refine⟨?_,rfl⟩;rw[← decide_eq_decide.2 HX.o,← HF.o];rfl
theorem Xv{D t0 t k s y n:Nat}(hn:D / 2 ^ t0 % 2 ^ k % 18446744073709551616=n)(hy:y=D / 2 ^ t % 2 ^ s)(ht:t=t0+k)(hk:k<64)(hs:s<=8) :
  bits .or .u64 (n:Int) (IntKind.u64.wrap ((y:Int)*2 ^ k))=((D / 2 ^ t0 % 2 ^ (k+s) % 18446744073709551616:Nat):Int):=by
 have kU:(18446744073709551616:Nat)=2 ^ k*2 ^ (64-k):=by rw[← jfl,show k+(64-k)=64 by omega]
 have kQ:2 ^ k<=18446744073709551616:=by rw[kU];exact Nat.le_mul_of_pos_right _ (jfe _)
 have hm:=Nat.mod_lt (D / 2 ^ t0) (jfe k);rw[jfd (jeH hm kQ)]at hn;rw[hn]at hm;have oG:=SK D t0 k s;rw[← ht,hn,← hy]at oG;rw[← oG];have e:(y:Int)*2 ^ k=((y*2 ^ k:Nat):Int):=by simp
 have hdvd:y*2 ^ k % 18446744073709551616 % 2 ^ k=0:=by
  rw[kU,Nat.mod_mul_right_mod,Nat.mul_mod_left]
 have aB:y*2 ^ k % 18446744073709551616<2 ^ k*2 ^ (64-k):=by rw[← kU];omega
 have hw:IntKind.u64.wrap (((y*2 ^ k:Nat)):Int)=((y*2 ^ k % 18446744073709551616:Nat):Int):=by rw[jeP];omega
 have hmod:(n+y*2 ^ k) % 18446744073709551616=(n+y*2 ^ k % 18446744073709551616) % 18446744073709551616:=by omega
 rw[e,hw,hmod];generalize y*2 ^ k % 18446744073709551616=z at *;have hz:=Nat.div_add_mod z (2 ^ k);rw[hdvd,je9]at hz;rw[← hz]at aB;have hq:=Nat.lt_of_mul_lt_mul_left aB;have nw:2 ^ k*(z / 2 ^ k+1)<=2 ^ k*2 ^ (64-k):=jfm _ hq;rw[← kU,jft,jfL,hz]at nw;rw[jfd (by omega)];have hj:=bits_join_low .u64 64 (by decide) wraps_u64 k (n:Int) (z:Int) (by omega) (by exact_mod_cast hm) (by omega) (by omega) (by exact_mod_cast hdvd) (by omega);rw[hj];omega
theorem Xw{ww:Nat}(h:ww<=64):IntKind.u64.wrap (IntKind.u64.wrap (2 ^ ww)-1)=((2 ^ ww-1:Nat):Int):=by
 have e:(2:Int) ^ ww=((2 ^ ww:Nat):Int):=by simp
 have hp:=jfe ww;rcases jeM ww 64 with h1 | h1
 ·have:2 ^ ww<2 ^ 64:=Nat.pow_lt_pow_right (by omega) h1
  rw[e,jeP,jeP];omega
 ·obtain rfl:ww=64:=by omega
  decide
theorem NE{D t0 k n ww:Nat}(hn:D / 2 ^ t0 % 2 ^ k % 18446744073709551616=n)(kU:ww<=64)(hk:ww<=k) :
  bits .and .u64 (n:Int) (IntKind.u64.wrap (IntKind.u64.wrap (2 ^ ww)-1))=((D / 2 ^ t0 % 2 ^ ww:Nat):Int):=by
 rw[Xw kU];have hp:=jfe ww;have pt:2 ^ ww<=2 ^ 64:=jfA (by omega) kU;rw[(bits_nat .u64 64 (by decide) wraps_u64 n (2 ^ ww-1) (by omega) (by omega)).1,Nat.and_two_pow_sub_one_eq_mod,← hn];rw[Nat.mod_mod_of_dvd _ (show 2 ^ ww ∣ 18446744073709551616 from Nat.pow_dvd_pow (n:=64) 2 kU),Nat.mod_mod_of_dvd _ (Nat.pow_dvd_pow 2 hk)]
theorem SL{w:World}{v:Value}{bs:List Nat}(hs:Sx .u8 w v bs)(h8:∀ x∈bs,x<256)(t0 ww:Nat)(hw:ww<=64)(ht:t0+ww<=8*bs.length)(ht0:t0<=16384) :
  Calls Tryz.prog 304 #[v,.int .i64 (t0:Int),.int .i64 (ww:Int)] w fun e w'=>e=.returned (.int .u64 ((pk 8 bs / 2 ^ t0 % 2 ^ ww:Nat):Int))/\w'=w:=by
 obtain⟨a,cap,rfl,hm,eX⟩:=hs;have oD:bs.length<=9223372036854775807:=by unfold maxLen at hm;omega
 have HC:=ae eX;have H8:=ae h8;clear eX h8 hm;go_enter Tryz.func304,Tryz.ntmps304
 go_wp2_with fail;go_loopw [1,7,8] (fun at_ n have_ w'=>w'=w/\∃ k t:Nat,k<=ww+7/\t=t0+k/\at_=.int .i64 (t:Int)/\have_=.int .i64 (k:Int)/\n=.int .u64 ((pk 8 bs / 2 ^ t0 % 2 ^ k % 18446744073709551616:Nat):Int)) (fun _ _ i _=>ww-(intOf i).toNat)
 case atStart=>exact⟨rfl,0,t0,by omega,rfl,rfl,rfl,by simp[Nat.mod_one]⟩
 case round =>
  obtain⟨rfl,k,t,hk,YL,rfl,rfl,rfl⟩:=hrel;by_cases aB:k<ww
  ·obtain⟨b,off,rfl,hb,bn⟩:=HC.o (by omega)
   have Rb:t / 8<bs.length:=(by omega);have dN:=bn (t / 8) Rb;have HF:=ae (zS H8.o Rb);have hx:=H8.o _ (jeo Rb);have sy:=ae YL;have ht1:t<=20000:=(by omega);generalize bs[t / 8]=x at *;obtain⟨j,hj⟩:∃ j,t / 8=j:=⟨_,rfl⟩;obtain⟨r,hr⟩:∃ r,t % 8=r:=⟨_,rfl⟩;obtain⟨s,Qq⟩:∃ s,8-r=s:=⟨_,rfl⟩;obtain⟨y,hy⟩:∃ y,x / 2 ^ r=y:=⟨_,rfl⟩;obtain⟨n,hn⟩:∃ n,pk 8 bs / 2 ^ t0 % 2 ^ k % 18446744073709551616=n:=⟨_,rfl⟩;rw[hr,hy,Qq]at HF;rw[hj]at dN Rb;have hji:(t:Int) / 8=(j:Int):=(by omega);have Dl:(t:Int) % 8=(r:Int):=(by omega);have hsi:(8:Int)-(r:Int)=(s:Int):=(by omega);have hr8:r<8:=(by omega);have hs8:s<=8:=(by omega);have eg:1<=s:=(by omega);have hyi:(x:Int) / 2 ^ r=(y:Int):=by rw[← hy];simp
   have zf:y<256:=by rw[← hy];exact jf4 (Nat.div_le_self _ _) hx
   rw[hn];have HN:=ae hn;have hor:=Xv HN.o HF.o sy.o (by omega) (by omega);have HK:jgf (k+s<=ww+7):=ae (by omega);have GH:k<=64:=(by omega);clear bn hn hy hr hj Qq YL;go_wp2_with fail;go_roundw
   case rel=>exact⟨trivial,k+s,t+s,HK.o,by have:=sy.o;omega,by go_num,by go_num,rfl⟩
   case measure=>simp[intOf];omega
  ·have sy:=ae YL
   clear YL HC;generalize hn:pk 8 bs / 2 ^ t0 % 2 ^ k % 18446744073709551616=n;have HN:=ae hn;have hnl:n<18446744073709551616:=by rw[← hn];exact Nat.mod_lt _ (by omega)
   clear hn;go_wp2_with fail;go_ret
   rw[← NE HN.o hw (by omega)];exact⟨rfl,rfl⟩
theorem oZ{w:World}{B e n:Nat}{v:Value}{xs:List Value}(h:w.ownsRow B e 1 v n xs)(hp:0<n):∃ g cap,v=.slice (some ⟨g,0,none⟩) n cap/\B<=g/\g<w.heap.size:=by
 obtain⟨hl,h1⟩:=id h;rcases h1 with ⟨rfl,rfl⟩ | ⟨g,cap,cur,rfl,hb,hg,h4⟩
 ·omega
 ·exact⟨g,cap,rfl,hb,(Array.getElem?_eq_some_iff.1 hg).1⟩
theorem BK{w:World}{B e n:Nat}{v:Value}{xs:List Value}(h:w.ownsRow B e 1 v n xs):∃ a cap,v=.slice a n cap:=by
 obtain⟨hl,h1⟩:=id h;rcases h1 with ⟨rfl,rfl⟩ | ⟨g,cap,cur,rfl,hb,hg,h4⟩
 ·exact⟨none,0,rfl⟩
 ·exact⟨_,cap,rfl⟩
theorem cT{B:Nat}{a w:World}(h:Below B a w){g j:Nat}(hg:B<=g)(u:Value):Below B a (w.setCell ⟨g,j,none⟩ u):=h.setCell hg u
theorem jbh{x m r z:Nat}(hr:r<8)(hx:x<2 ^ r)(hz:IntKind.u64.wrap ((m:Int)*2 ^ r)=(z:Int)) :
  bits .or .u8 (x:Int) ((z:Int) % 256)=((x+m % 2 ^ (8-r)*2 ^ r:Nat):Int):=by
 have e:(m:Int)*2 ^ r=((m*2 ^ r:Nat):Int):=by simp
 rw[e,jeP]at hz;have bv:(z:Int) % 256=((m*2 ^ r % 256:Nat):Int):=by omega
 have Gk:(256:Nat)=2 ^ (8-r)*2 ^ r:=by rw[jeU,td hr]
 have hm:m*2 ^ r % 256=m % 2 ^ (8-r)*2 ^ r:=by rw[Gk,Nat.mul_mod_mul_right]
 have hl:m*2 ^ r % 256<256:=Nat.mod_lt _ (by omega);have CK:2 ^ r<=256:=by rw[Gk];exact Nat.le_mul_of_pos_left _ (jfe _)
 have hd:m % 2 ^ (8-r)*2 ^ r % 2 ^ r=0:=Nat.mul_mod_left _ _;rw[hm]at hl bv;rw[bv];generalize m % 2 ^ (8-r)*2 ^ r=q at *;have hj:=bits_join_low .u8 8 (by decide) wraps_u8 r (x:Int) (q:Int) (by omega) (by exact_mod_cast hx) (by omega) (by omega) (by exact_mod_cast hd) (by omega);rw[hj];omega
theorem Xx{B:Nat}{w:World}{v:Value}{bs:List Nat}(aA:w.ownsRow B 5 1 v bs.length (aF .u8 bs))(h8:∀ x∈bs,x<256)(t0 ww n:Nat)(hw:ww<=64)(hn:n<2 ^ ww)
  (hn64:n<18446744073709551616) (ht:t0+ww<=8*bs.length) (hV:pk 8 bs<2 ^ t0) (ht0:t0<=16384) (jb0:bs.length<=2048) :
  Calls Tryz.prog 204 #[v,.int .i64 (t0:Int),.int .i64 (ww:Int),.int .u64 (n:Int)] w fun e w'=>e=.returned (.tuple #[]) /\
   (∃ bs',w'.ownsRow B 5 1 v bs.length (aF .u8 bs')/\bs'.length=bs.length/\(∀ x∈bs',x<256)/\pk 8 bs'=pk 8 bs+n*2 ^ t0)/\Below B w w':=by
 obtain⟨T,hT⟩:∃ T,pk 8 bs+n*2 ^ t0=T:=⟨_,rfl⟩;rw[hT];obtain⟨E,hE⟩:∃ E,t0+ww=E:=⟨_,rfl⟩;have hEi:(t0:Int)+(ww:Int)=(E:Int):=by omega
 have HS:jgf (∃ bs':List Nat,w.ownsRow B 5 1 v bs.length (aF .u8 bs')/\bs'.length=bs.length/\(∀ x∈bs',x<256)/\pk 8 bs'<2 ^ t0/\pk 8 bs'+n*2 ^ t0=T) :=
  ae ⟨bs,aA,rfl,h8,hV,hT⟩
 have HN:jgf (n<2 ^ (E-t0)):=ae (by rw[← hE,Nat.add_sub_cancel_left];exact hn);rw[hE]at ht;have hE0:E<=t0+64:=by omega
 have hE1:t0<=E:=by omega
 clear aA h8 hV hT hn hE;generalize bs.length=L at *;go_enter Tryz.func204,Tryz.ntmps204
 go_wp2_with fail
 go_loopw [1,3] (fun at_ mm wr=>∃ t m:Nat,at_=.int .i64 (t:Int)/\mm=.int .u64 (m:Int)/\t<=E+7/\m<18446744073709551616/\m<2 ^ (E-t) /\
   (∃ bs':List Nat,wr.ownsRow B 5 1 v L (aF .u8 bs')/\bs'.length=L/\(∀ x∈bs',x<256)/\pk 8 bs'<2 ^ t/\pk 8 bs'+m*2 ^ t=T)/\Below B w wr) (fun a _ _=>E-(intOf a).toNat)
 case atStart=>exact⟨t0,n,rfl,rfl,by omega,hn64,HN.o,HS.o,jej _ _⟩
 case round =>
  obtain⟨t,m,rfl,rfl,htE,hm64,hmE,⟨cs,how,eX,h8,hV,oG⟩,az⟩:=hrel;have HB:=ae az;by_cases aB:t<E
  ·have Rb:t / 8<cs.length:=by omega
   obtain⟨g,cap,rfl,hBg,Mx⟩:=oZ how (by omega);have dN:=(how.cellAt (t / 8) (by omega)).trans (bU Rb);have lO:=how.frozenAt (t / 8);have hxl:=Ea h8 hV Rb;have hx8:=h8 _ (jeo Rb);have GI:=ae (jbf (n:=m) (by omega:t % 8<8) hxl);have Qr:=ae (SG Rb (m % 2 ^ (8-t % 8)));have cP:=ae (how.stored (t / 8) (.int .u8 ((cs[t / 8]+m % 2 ^ (8-t % 8)*2 ^ (t % 8):Nat):Int)));rw[ku]at cP;have H8:=ae (SH (j:=t / 8) h8 GI.o);have Qs:=ae (zR (n:=m) (s:=8-t % 8) hV);have WH:=ae (Xu (pk 8 cs) m t (8-t % 8));have YO:=ae (SI (s:=8-t % 8) hmE);have HSU:=ae oG;have CL:jgf ((cs.set (t / 8) (cs[t / 8]+m % 2 ^ (8-t % 8)*2 ^ (t % 8))).length=L):=ae (by rw[jfD];exact eX)
   obtain⟨z,hz⟩:∃ z:Nat,IntKind.u64.wrap ((m:Int)*2 ^ (t % 8))=(z:Int):=by
    refine⟨(IntKind.u64.wrap ((m:Int)*2 ^ (t % 8))).toNat,?_⟩;rw[jeP];omega
   have hor:=jbh (by omega) hxl hz
   have hz64:z<18446744073709551616:=by
    rw[jeP]at hz;omega
   generalize KS:cs.set (t / 8) (cs[t / 8]+m % 2 ^ (8-t % 8)*2 ^ (t % 8))=cs2 at *;generalize cs[t / 8]+m % 2 ^ (8-t % 8)*2 ^ (t % 8)=c at *;generalize cs[t / 8]=x at *;clear how az h8 hV oG KS hxl;have hji:(t:Int) / 8=((t / 8:Nat):Int):=(by omega);have Dl:(t:Int) % 8=((t % 8:Nat):Int):=(by omega);have hsi:(8:Int)-((t % 8:Nat):Int)=((8-t % 8:Nat):Int):=(by omega);have hr8:t % 8<8:=(by omega);have hs8:8-t % 8<=8:=(by omega);have eg:1<=8-t % 8:=(by omega);have hjL:t / 8<L:=(by omega);have HTT:jgf (t+(8-t % 8)<=E+7):=ae (by omega);have HEE:jgf (E-(t+(8-t % 8))=E-t-(8-t % 8)):=ae (by omega);have hmd:(m:Int) / 2 ^ (8-t % 8)=((m / 2 ^ (8-t % 8):Nat):Int):=by simp
   have hml:m / 2 ^ (8-t % 8)<=m:=Nat.div_le_self _ _;have hc8:=GI.o;generalize 8-t % 8=s at *;generalize t % 8=r at *;generalize t / 8=j at *;clear hmE;generalize m / 2 ^ s=q at *;go_wp2_with fail;go_region
   all_goals
    go_wp2_with fail;go_roundw
    case rel =>
     refine⟨t+s,q,by go_num,by go_num,HTT.o,by omega,?_,⟨cs2,cP.o.1.drew,CL.o,H8.o,?_,?_⟩,(cT HB.o hBg _).drew⟩
     ·rw[HEE.o];exact YO.o
     ·rw[Qr.o];exact Qs.o
     ·rw[Qr.o,WH.o];exact HSU.o
    case measure=>simp[intOf];omega
  ·have hm0:m=0:=by
    rw[show E-t=0 by omega]at hmE;omega
   subst hm0;have HO:jgf (∃ bs':List Nat,wr.ownsRow B 5 1 v L (aF .u8 bs')/\bs'.length=L/\(∀ x∈bs',x<256)/\pk 8 bs'=T):=ae ⟨cs,how,eX,h8,by simpa using oG⟩;clear how eX h8 hV oG az hmE;go_wp2_with fail;go_end0
   exact⟨rfl,HO.o,HB.o⟩
theorem ko(k:IntKind)(n:Nat):(madeCells #[Value.int k 0] n).toList=aF k (List.replicate n 0):=by
 rw[jfO];simp[aF]
theorem xf{l:List Nat}{x:Int}(h:can l x=false):bm l x=[]:=by unfold bm;rw[h];rfl
theorem gG(w:World)(B e:Nat):w.ownsRow B e 1 (.slice none 0 0) 0 []:=jfb _ _ _ _
theorem Ec{l:List Nat}{ww k:Nat}(hw:∀ x∈l,x<2 ^ ww)(hk:k<=l.length):pk ww (l.take k)<2 ^ (k*ww):=by
 have:=DG (w:=ww) (l:=l.take k) (fun x hx=>hw x (je2 hx));rwa[jeq,jfk hk,jeU]at this
theorem zU{w:World}{v:Value}{l:List Nat}(hs:Sx .u64 w v l)(kU:∀ x∈l,x<18446744073709551616)(x:Int) :
  Calls Tryz.prog 171 #[v,.int .i64 x] w fun e w'=>∃ v',e=.returned (.tuple #[v',.bool (can l x)])/\w'.ownsRow w.heap.size 5 1 v' (bm l x).length (aF .u8 (bm l x))/\Below w.heap.size w w':=by
 have HW:=ae (te hs kU);have HA:=ae (uh (l.length:Int) x);obtain⟨a,cap,rfl,hm,eX⟩:=hs;have oD:l.length<=9223372036854775807:=by unfold maxLen at hm;omega
 by_cases yh:0<=(l.length:Int)/\(l.length:Int)<=256/\0<=x/\x<=64
 ·rw[jeB yh]at HA
  obtain⟨_,hl256,WI,Qt⟩:=yh;obtain⟨ww,rfl⟩:=jfx WI;by_cases Mu:wd l<=ww
  ·have lL:can l (ww:Int)=true:=by
    unfold can;simp only[je7,jeQ];exact⟨by omega,by omega,by omega,Mu⟩
   have dq:=qX.1 Mu;have vZ:¬ ((wd l:Nat):Int) > (ww:Int):=(by omega);have hc:l.length*ww<=16384:=jet (jfT (show l.length<=256 by omega) (show ww<=64 by omega)) (by omega);have hmul:(l.length:Int)*(ww:Int)=((l.length*ww:Nat):Int):=by simp
   have HP:=ae (fun(bs:List Nat)=>zT (bs:=bs) lL);have tS:=ae (rq (l.length*ww) hc);have HL8:=ae (Hi (l.length*ww));have hL:by8 (l.length*ww)<=2048:=by unfold by8;omega
   have HF:=ae dq;have HC:=ae eX;have CJ:=ae kU;have Qu:ww<=64:=(by omega);rw[lL];clear eX kU dq lL Mu WI Qt hm;obtain⟨i0,hi,ch,hz1',bv⟩:=jeD jv;generalize by8 (l.length*ww)=L at *;generalize hcc:l.length*ww=c at *;have WJ:=ae hcc;clear hcc;go_enter Tryz.func171,Tryz.ntmps171
   go_wp2_with fail;refine(HA.o _).mono ?_;rintro e w1 ⟨rfl,rfl⟩;go_wp2_with fail;refine HW.o.mono ?_;rintro e w2 ⟨rfl,rfl⟩;go_wp2_with fail;refine(tS.o _).mono ?_;rintro e w3 ⟨rfl,rfl⟩;go_wp2_with (first | (refine jfo _ rfl _ _ 30 rfl w3.heap.size 5 i0 (.int .u8 0) 1 Tryz.underlying30 hi ch hz1' .i64 .i64 _ _ L rfl rfl ?m1 ?m2 ?m3 ?m4 ?m5 ?_))
   case m1=>rfl
   case m2=>rfl
   case m3=>rw[bv];omega
   case m4=>unfold maxLen;omega
   case m5=>omega
   intro w4 gQ iZ;have bG:Below w3.heap.size w3 w4:=(jej _ _).grown iZ (jek _) (fun k hk=>by cases hk)
   have ho4':w4.ownsRow w3.heap.size 5 1 (.slice (some ⟨w3.heap.size,0,none⟩) L L) L (aF .u8 (List.replicate L 0)):=by
    rw[← ko];simpa using gQ
   have eY:=ae ho4';have cp:=ae bG;clear gQ iZ bG ho4';go_wp2_with fail;go_loopw [28] (fun i wr=>∃ k:Nat,i=.int .i64 (k:Int)/\k<=l.length/\(∃ bs:List Nat,wr.ownsRow w3.heap.size 5 1 (.slice (some ⟨w3.heap.size,0,none⟩) L L) L (aF .u8 bs)/\bs.length=L/\(∀ x∈bs,x<256)/\pk 8 bs=pk ww (l.take k))/\Below w3.heap.size w3 wr) (fun i _=>l.length-(intOf i).toNat)
   case atStart=>exact⟨0,rfl,by omega,⟨List.replicate L 0,eY.o,by simp,by simp,by rw[DH];rfl⟩,cp.o⟩
   case round =>
    obtain⟨k,rfl,hk,⟨bs,how,fK,kR,YM⟩,az⟩:=hrel;have HB:=ae az;by_cases aB:k<l.length
    ·obtain⟨b,off,rfl,hb,bn⟩:=HC.o (by omega)
     have dN:=(az.cell (p:=⟨b,off+k,none⟩) hb).trans (bn k aB);have hkw:(k:Int)*(ww:Int)=((k*ww:Nat):Int):=by simp
     have jae:k*ww+ww<=8*L:=by
      have h1:(k+1)*ww<=l.length*ww:=Nat.mul_le_mul_right _ aB;rw[jeZ,jfp]at h1;rw[WJ.o]at h1;have:=HL8.o;omega
     have hPut:=Xx (w:=wr) (by rw[fK];exact how) kR (k*ww) ww l[k] Qu (HF.o _ (jeo aB)) (CJ.o _ (jeo aB)) (by rw[fK];exact jae) (by rw[YM];exact Ec HF.o hk) (by omega) (by omega);have YP:k*ww<=16384:=(by omega);rw[fK,YM,jeU k ww,← qU ww aB,jeU ww k]at hPut;have HPut:=ae hPut;clear bn how kR YM az hPut jae;generalize l[k]=n at *;generalize k*ww=t0 at *;go_wp2_with fail;refine HPut.o.mono ?_;rintro e w5 ⟨rfl,⟨bs',fD,hl5,h85,hp5⟩,bD⟩;have df:=ae fD;have aQ:=ae (HB.o.trans bD);have HL5:=ae hl5;have HP5:=ae hp5;clear fD bD hl5 hp5;go_wp2_with fail;go_roundw
     case rel=>exact⟨k+1,by go_num,by omega,⟨bs',df.o,HL5.o,h85,HP5.o⟩,aQ.o⟩
     case measure=>simp[intOf];omega
    ·obtain rfl:k=l.length:=by omega
     rw[jes]at YM;have HE:=ae (HP.o bs kR fK YM)
     have HO:jgf (wr.ownsRow w3.heap.size 5 1 (.slice (some ⟨w3.heap.size,0,none⟩) L L) (bm l ww).length (aF .u8 (bm l ww))):=by
      show World.ownsRow _ _ _ _ _ _ _
      rw[← HE.o,fK];exact how
     clear how fK kR YM az HP HE;go_wp2_with fail;go_ret2
     exact⟨_,rfl,HO.o,HB.o⟩
  ·have lL:can l (ww:Int)=false:=by
    unfold can;simp only[jfP,jeQ];rintro⟨_,_,_,h⟩;exact Mu h
   have vZ:((wd l:Nat):Int) > (ww:Int):=(by omega);rw[lL,xf lL];clear eX kU lL Mu WI Qt hm;go_enter Tryz.func171,Tryz.ntmps171
   go_wp2_with fail;refine(HA.o _).mono ?_;rintro e w1 ⟨rfl,rfl⟩;go_wp2_with fail;refine HW.o.mono ?_;rintro e w2 ⟨rfl,rfl⟩;go_wp2_with fail;go_ret2
   exact⟨_,rfl,gG _ _ _,jej _ _⟩
 ·rw[jeu yh]at HA
  have lL:can l x=false:=by
   unfold can;simp only[jfP];rintro⟨h1,h2,h3,_⟩;exact yh ⟨by omega,by omega,h1,h2⟩
  rw[lL,xf lL];clear eX kU lL yh hm HW;go_enter Tryz.func171,Tryz.ntmps171
  go_wp2_with fail;refine(HA.o _).mono ?_;rintro e w1 ⟨rfl,rfl⟩;go_wp2_with fail;go_ret2
  exact⟨_,rfl,gG _ _ _,jej _ _⟩
theorem xg{b:List Nat}{n x:Int}(h:unE b n x≠0):unR b n x=[]:=by unfold unR;rw[jeh h]
theorem Xy{b:List Nat}{n x:Int}(h:¬ (0<=n/\n<=256/\0<=x/\x<=64)):unE b n x=1:=by unfold unE;rw[jeh h]
theorem Ed{b:List Nat}{N ww:Nat}(hN:N<=256)(hw:ww<=64)(h:¬ (b.length=by8 (N*ww)/\pk 8 b<2 ^ (N*ww))):unE b N ww=40:=by
 unfold unE;rw[jei ⟨by omega,by omega,by omega,by omega⟩];simp only[jeQ];rw[jeh h]
theorem jbi{b:List Nat}{N ww:Nat}(hN:N<=256)(hw:ww<=64)(h:b.length=by8 (N*ww))(h2:pk 8 b<2 ^ (N*ww)):unE b N ww=0:=by
 unfold unE;rw[jei ⟨by omega,by omega,by omega,by omega⟩];simp only[jeQ];rw[jei ⟨h,h2⟩]
theorem jbj{b:List Nat}{N ww:Nat}(h:unE b N ww=0):unR b N ww=dig ww N (pk 8 b):=by
 unfold unR;rw[jei h];rfl
theorem ui{w:World}{v:Value}{b:List Nat}(hs:Sx .u8 w v b)(h8:∀ x∈b,x<256)(n x:Int) :
  Calls Tryz.prog 294 #[v,.int .i64 n,.int .i64 x] w fun e w'=>∃ v',e=.returned (.tuple #[v',.int .i64 (unE b n x:Int)])/\w'.ownsRow w.heap.size 92 1 v' (unR b n x).length (aF .u64 (unR b n x))/\Below w.heap.size w w':=by
 have HA:=ae (uh n x);by_cases yh:0<=n/\n<=256/\0<=x/\x<=64
 ·rw[jeB yh]at HA
  obtain⟨qI,Vq,WI,Qt⟩:=yh;obtain⟨ww,rfl⟩:=jfx WI;obtain⟨N,rfl⟩:=jfx qI;have Qu:ww<=64:=by omega
  have hN:N<=256:=by omega
  have hc:N*ww<=16384:=jet (jfT hN Qu) (by omega);have hmul:(N:Int)*(ww:Int)=((N*ww:Nat):Int):=by simp
  have tS:=ae (rq (N*ww) hc);by_cases bR:b.length=by8 (N*ww)
  ·have pQ:=ae (ND hs h8 (N*ww) hc bR)
   have hleq:((b.length:Int) != ((by8 (N*ww):Nat):Int))=false:=by rw[bR];simp
   by_cases gl:pk 8 b<2 ^ (N*ww)
   ·rw[jeB gl]at pQ
    have HE:=ae (jbi hN Qu bR gl);rw[HE.o,jbj HE.o,dU];have gi:=Hi (N*ww);have sy:=ae (fun(W:World) (hW:Sx .u8 W v b) (t0:Nat) (h1:t0+ww<=8*b.length) (h2:t0<=16384)=>SL hW h8 t0 ww Qu h1 h2)
    have cP:jgf (∀ k,k<N->k*ww+ww<=8*b.length/\k*ww<=16384):=ae (fun k hk=>by
     have h1:(k+1)*ww<=N*ww:=Nat.mul_le_mul_right _ hk;rw[jeZ,jfp]at h1;rw[bR];omega)
    have HS:=ae hs;obtain⟨i0,hi,ch,hz1',bv⟩:=jeD pZ;obtain⟨a,cap,rfl,hm,eX⟩:=hs;have oD:b.length<=2048:=by rw[bR];unfold by8;omega
    clear eX h8 gl bR WI Qt qI Vq hm gi;generalize by8 (N*ww)=L at *;generalize N*ww=c at *;obtain⟨D,hD⟩:∃ D,dig ww N (pk 8 b)=D:=⟨_,rfl⟩;have hDl:D.length=N:=by rw[← hD,dU]
    have HG:jgf (∀ k (h:k<N),D[k]?=some (pk 8 b / 2 ^ (k*ww) % 2 ^ ww)):=ae (fun k h=>by rw[← hD,BC ww N _ k h,jeU]);rw[hD];have kY:=ae hDl;clear hD hDl;go_enter Tryz.func294,Tryz.ntmps294
    go_wp2_with fail;refine(HA.o _).mono ?_;rintro e w1 ⟨rfl,rfl⟩;go_wp2_with fail;refine(tS.o _).mono ?_;rintro e w2 ⟨rfl,rfl⟩;go_wp2_with fail;refine pQ.o.mono ?_;rintro e w3 ⟨rfl,rfl⟩;go_wp2_with (first | (refine jfo _ rfl _ _ 142 rfl w3.heap.size 92 i0 (.int .u64 0) 1 Tryz.underlying142 hi ch hz1' .i64 .i64 _ _ N rfl rfl ?m1 ?m2 ?m3 ?m4 ?m5 ?_))
    case m1=>rfl
    case m2=>rfl
    case m3=>rw[bv];omega
    case m4=>unfold maxLen;omega
    case m5=>omega
    intro w4 gQ iZ;have bG:Below w3.heap.size w3 w4:=(jej _ _).grown iZ (jek _) (fun k hk=>by cases hk)
    have ho4':w4.ownsRow w3.heap.size 92 1 (.slice (some ⟨w3.heap.size,0,none⟩) N N) N (aF .u64 (fill D 0)):=by
     rw[oY,kY.o,← ko];simpa using gQ
    have eY:=ae ho4';have cp:=ae bG;clear gQ iZ bG ho4';go_wp2_with fail;go_loopw [33] (fun i wr=>∃ k:Nat,i=.int .i64 (k:Int)/\k<=N/\wr.ownsRow w3.heap.size 92 1 (.slice (some ⟨w3.heap.size,0,none⟩) N N) N (aF .u64 (fill D k))/\Below w3.heap.size w3 wr) (fun i _=>N-(intOf i).toNat)
    case atStart=>exact⟨0,rfl,by omega,eY.o,cp.o⟩
    case round =>
     obtain⟨k,rfl,hk,how,az⟩:=hrel;have HB:=ae az;by_cases aB:k<N
     ·have hkD:k<D.length:=by rw[kY.o];exact aB
      have hval:D[k]=pk 8 b / 2 ^ (k*ww) % 2 ^ ww:=by
       have:=HG.o k aB;rw[List.getElem?_eq_getElem hkD]at this;exact Option.some.inj this
      have jH:k<(fill D k).length:=by rw[lm (by omega)];exact hkD
      have dN:=(how.cellAt k (by omega)).trans (bU jH);have lO:=how.frozenAt k;have hST:=how.stored k (.int .u64 ((D[k]:Nat):Int));rw[ku,rp hkD]at hST;have Vr:=ae hST;have hkw:(k:Int)*(ww:Int)=((k*ww:Nat):Int):=by simp
      have YP:=(cP.o k aB).2;have hTake:=sy.o wr (HS.o.kept az) (k*ww) (cP.o k aB).1 YP;rw[← hval]at hTake;have HTake:=ae hTake;have Mx:=(how.lt w3.heap.size rfl).2;clear how az hST hTake hval;generalize (fill D k)[k]=y at *;generalize D[k]=z at *;generalize k*ww=t0 at *;go_wp2_with fail;refine HTake.o.mono ?_;rintro e w5 ⟨rfl,rfl⟩;go_wp2_with fail;go_roundw
      case rel=>exact⟨k+1,by go_num,by omega,Vr.o.1,cT HB.o (jek _) _⟩
      case measure=>simp[intOf];omega
     ·obtain rfl:k=N:=by omega
      have HO:jgf (wr.ownsRow w3.heap.size 92 1 (.slice (some ⟨w3.heap.size,0,none⟩) k k) k (aF .u64 D)):=by
       show World.ownsRow _ _ _ _ _ _ _
       have e:fill D k=D:=by
        have:=ro D;rwa[kY.o]at this
       rw[e]at how;exact how
      clear how az;go_wp2_with fail;go_ret2
      exact⟨_,rfl,HO.o,HB.o⟩
   ·rw[jeu gl]at pQ
    have hE:=Ed (b:=b) hN Qu (fun h=>gl h.2);rw[hE,xg (by rw[hE];omega)];obtain⟨a,cap,rfl,hm,eX⟩:=hs;have oD:b.length<=2048:=by rw[bR];unfold by8;omega
    clear eX h8 gl bR WI Qt qI Vq hm hE;generalize by8 (N*ww)=L at *;generalize N*ww=c at *;go_enter Tryz.func294,Tryz.ntmps294
    go_wp2_with fail;refine(HA.o _).mono ?_;rintro e w1 ⟨rfl,rfl⟩;go_wp2_with fail;refine(tS.o _).mono ?_;rintro e w2 ⟨rfl,rfl⟩;go_wp2_with fail;refine pQ.o.mono ?_;rintro e w3 ⟨rfl,rfl⟩;go_wp2_with fail;go_ret2
    exact⟨_,rfl,gG _ _ _,jej _ _⟩
  ·have hleq:((b.length:Int) != ((by8 (N*ww):Nat):Int))=true:=by
    rw[bne_iff_ne];intro h;exact bR (by omega)
   have hE:=Ed (b:=b) hN Qu (fun h=>bR h.1);rw[hE,xg (by rw[hE];omega)];obtain⟨a,cap,rfl,hm,eX⟩:=hs;have oD:b.length<=9223372036854775807:=by unfold maxLen at hm;omega
   clear eX h8 bR WI Qt qI Vq hm hE;generalize by8 (N*ww)=L at *;generalize N*ww=c at *;go_enter Tryz.func294,Tryz.ntmps294
   go_wp2_with fail;refine(HA.o _).mono ?_;rintro e w1 ⟨rfl,rfl⟩;go_wp2_with fail;refine(tS.o _).mono ?_;rintro e w2 ⟨rfl,rfl⟩;go_wp2_with fail;go_ret2
   exact⟨_,rfl,gG _ _ _,jej _ _⟩
 ·rw[jeu yh]at HA
  have hE:=Xy (b:=b) yh;rw[hE,xg (by rw[hE];omega)];obtain⟨a,cap,rfl,hm,eX⟩:=hs;clear eX h8 yh hm hE;go_enter Tryz.func294,Tryz.ntmps294
  go_wp2_with fail;refine(HA.o _).mono ?_;rintro e w1 ⟨rfl,rfl⟩;go_wp2_with fail;go_ret2
  exact⟨_,rfl,gG _ _ _,jej _ _⟩
def Laid(W:World)(B:Nat)(v:Value)(t V:Nat):Prop :=
 ∃ bs:List Nat,W.ownsRow B 5 1 v (by8 t) (aF .u8 bs)/\bs.length=by8 t/\(∀ x∈bs,x<256)/\pk 8 bs=V
def NF(W:World)(B:Nat)(v:Value)(t V:Nat):Prop :=
 ∃ bs:List Nat,W.ownsRow B 5 1 v (by8 (t+1)) (aF .u8 bs)/\bs.length=by8 (t+1)/\(∀ x∈bs,x<256)/\pk 8 bs=V
theorem Laid.room{W:World}{B:Nat}{v:Value}{t V:Nat}(h:Laid W B v t V)(h0:t % 8≠0):NF W B v t V:=by
 obtain⟨bs,h1,h2,h3,h4⟩:=h;have e:=(NC h0).1;exact⟨bs,by rw[e];exact h1,by rw[e];exact h2,h3,h4⟩
theorem NF.skip{W:World}{B:Nat}{v:Value}{t V:Nat}(h:NF W B v t V):Laid W B v (t+1) V:=h
theorem rr(t:Nat):t / 8<by8 (t+1)/\0<by8 (t+1):=by unfold by8;omega
theorem NF.lay{W:World}{B:Nat}{v:Value}{t V r j p L:Nat}(h:NF W B v t V)(hV:V<2 ^ t)(hr:t % 8=r)(hj:t / 8=j)(hp:2 ^ r=p)(hL:by8 (t+1)=L) :
  ∃ g cap x c:Nat,v=.slice (some ⟨g,0,none⟩) L cap/\B<=g/\g<W.heap.size/\W.cell? ⟨g,j,none⟩=some (.int .u8 (x:Int))/\W.frozen? ⟨g,j,none⟩=false /\
   c<256/\(x:Int)+(p:Int)=(c:Int)/\Laid (W.setCell ⟨g,j,none⟩ (.int .u8 (c:Int))) B v (t+1) (V+2 ^ t):=by
 subst hr hj hp hL;obtain⟨bs,h1,h2,h3,h4⟩:=h;obtain⟨g,cap,rfl,hB,hg⟩:=oZ h1 (rr t).2;have hj:t / 8<bs.length:=by rw[h2];exact(rr t).1
 have hx:=Ea h3 (by rw[h4];exact hV) hj;have hp:2 ^ (t % 8)<=2 ^ 7:=jfA (by omega) (by omega);have hs:=SG hj 1;rw[jfp,jfp,h4]at hs;have gV:=(h1.stored (t / 8) (.int .u8 ((bs[t / 8]+2 ^ (t % 8):Nat):Int))).1;rw[ku]at gV
 exact⟨g,cap,bs[t / 8],bs[t / 8]+2 ^ (t % 8),rfl,hB,hg,(h1.cellAt (t / 8) (by rw[jfL];exact(rr t).1)).trans (bU hj),h1.frozenAt _,by omega,by omega,
  _,gV,by rw[jfD];exact h2,SH h3 (by omega),hs⟩
theorem pow8{r:Nat}(h:r<8):IntKind.u8.wrap (2 ^ r)=((2 ^ r:Nat):Int):=by
 have hp:2 ^ r<=2 ^ 7:=jfA (by omega) (by omega);have e:(2:Int) ^ r=((2 ^ r:Nat):Int):=by simp
 rw[e];generalize 2 ^ r=p at *;rw[wraps_u8 _ (by omega) (by omega)]
theorem jbk{V n k t0:Nat}(h:n / 2 ^ k % 2=1):V+n % 2 ^ k*2 ^ t0+2 ^ (t0+k)=V+n % 2 ^ (k+1)*2 ^ t0:=by
 rw[rk n k,h,jfL,jeZ,jfl,jeU (2 ^ t0) (2 ^ k)];omega
theorem Xz{V n k t0:Nat}(h:n / 2 ^ k % 2=0):V+n % 2 ^ k*2 ^ t0=V+n % 2 ^ (k+1)*2 ^ t0:=by
 rw[rk n k,h,Nat.mul_zero,je9]
theorem SN{V n k t0:Nat}(h:V<2 ^ t0):V+n % 2 ^ k*2 ^ t0<2 ^ (t0+k):=zR h
theorem Ee{w:World}{v:Value}{l:List Nat}(hs:Sx .u64 w v l)(kU:∀ x∈l,x<18446744073709551616)(ww:Nat)(Qu:ww<=64)(hl:l.length<=256)(Mu:wd l<=ww) :
  Calls Tryz.prog 134 #[v,.int .i64 (ww:Int)] w fun e w'=>∃ v',e=.returned (.tuple #[v',.bool true])/\Laid w' w.heap.size v' (l.length*ww) (pk ww l)/\Below w.heap.size w w':=by
 have HW:=ae (jY hs kU);obtain⟨a,cap,rfl,hm,eX⟩:=hs;have vZ:¬ ((wd l:Nat):Int) > (ww:Int):=by omega
 have hw0:decide ((ww:Int)<0)=false:=jeu (by omega);have hw1:decide (64<(ww:Int))=false:=jeu (by omega);have hw3:decide (ww<wd l)=false:=jeu (by omega);have pR:decide (256<(l.length:Int))=false:=jeu (by omega);have HF:=ae (qX.1 Mu);have HC:=ae eX;have CJ:=ae kU;obtain⟨i0,hi,ch,hz1',bv⟩:=jeD jv;clear eX kU Mu hm;go_enter Tryz.func134,Tryz.ntmps134
 go_wp2_with fail;refine HW.o.mono ?_;rintro e w2 ⟨rfl,rfl⟩;go_wp2_with fail;go_loopw [6,7,8] (fun out at_ ii wr=>∃ i t:Nat,ii=.int .i64 (i:Int)/\at_=.int .i64 (t:Int)/\i<=l.length/\t=i*ww/\Laid wr w2.heap.size out t (pk ww (l.take i))/\Below w2.heap.size w2 wr) (fun _ _ ii _=>l.length-(intOf ii).toNat)
 case atStart=>exact⟨0,0,rfl,rfl,by omega,by simp,⟨[],gG _ _ _,rfl,by simp,by simp[pk]⟩,jej _ _⟩
 case round =>
  obtain⟨i,t0,rfl,rfl,hil,ht0,uR,az⟩:=hrel;have KT:=ae uR;have HB:=ae az;have HT0:=ae ht0;by_cases aB:i<l.length
  ·obtain⟨b,off,rfl,hb,bn⟩:=HC.o (by omega)
   have lA:=ae (bn i aB);have hn64:=CJ.o _ (jeo aB);have dq:=HF.o _ (jeo aB);have sC:=ae (qU ww aB);have HV0:=ae (Ec HF.o hil)
   have YP:t0<=16384:=by
    rw[ht0];exact jet (jfT (show i<=256 by omega) Qu) (by omega)
   rw[← ht0]at HV0;clear bn uR az ht0;have CO:=ae dq;clear dq;generalize l[i]=n at *;generalize pk ww (l.take i)=V at *;go_wp2_with fail;go_loopw [6,7,9] (fun out at_ kk wr=>∃ k t:Nat,kk=.int .i64 (k:Int)/\at_=.int .i64 (t:Int)/\k<=ww/\t=t0+k/\Laid wr w2.heap.size out t (V+n % 2 ^ k*2 ^ t0)/\Below w2.heap.size w2 wr) (fun _ _ kk _=>ww-(intOf kk).toNat)
   case atStart=>exact⟨0,t0,rfl,rfl,by omega,by omega,by simpa [Nat.mod_one]using KT.o,HB.o⟩
   case round =>
    obtain⟨k,t,rfl,rfl,hkw,ht,uR,az⟩:=hrel;clear KT HB;have KT:=ae uR;have HB:=ae az;have dN:=(az.cell (p:=⟨b,off+i,none⟩) hb).trans lA.o;have bH:=az.size;have htt:t<=20000:=(by omega);clear uR az;by_cases GH:k<ww
    ·have HVL:jgf (V+n % 2 ^ k*2 ^ t0<2 ^ t):=ae (by rw[ht];exact SN HV0.o)
     have HT:=ae ht;have AP:=ae (fun h=>jbk (V:=V) (n:=n) (k:=k) (t0:=t0) h);rw[← ht]at AP;have KU:=ae (fun h=>Xz (V:=V) (n:=n) (k:=k) (t0:=t0) h);obtain⟨q,hq⟩:∃ q,n / 2 ^ k=q:=⟨_,rfl⟩;have hqi:(n:Int) / 2 ^ k=(q:Int):=by rw[← hq];simp
     have hqn:q<=n:=by rw[← hq];exact Nat.div_le_self _ _
     rw[hq]at AP KU;clear hq;clear ht;obtain⟨r,hr⟩:∃ r,t % 8=r:=⟨_,rfl⟩;obtain⟨j,hj⟩:∃ j,t / 8=j:=⟨_,rfl⟩;obtain⟨p,hp⟩:∃ p,2 ^ r=p:=⟨_,rfl⟩;obtain⟨L1,hL1⟩:∃ L,by8 (t+1)=L:=⟨_,rfl⟩;have Dl:(t:Int) % 8=(r:Int):=(by omega);have hji:(t:Int) / 8=(j:Int):=(by omega);have hr8:r<8:=(by omega);have hp8:=pow8 hr8;rw[hp]at hp8;have hjr:j<L1:=by rw[← hL1,← hj];exact(rr t).1
     have kR:L1<=2501:=by rw[← hL1];unfold by8;omega
     have HR:=ae hr;have HJ:=ae hj;have HP:=ae hp;have HL1:=ae hL1;clear hr hj hp hL1;by_cases h0:r=0
     ·have h0b:((r:Int)==0)=true:=by rw[h0];rfl
      have HE8:=ae (NB (HR.o.trans h0));obtain⟨L0,hL0⟩:∃ L,by8 t=L:=⟨_,rfl⟩;have pS:L0<=2501:=by rw[← hL0];unfold by8;omega
      obtain⟨bs,o0,l0,s0,p0⟩:=KT.o;rw[hL0]at o0 l0 HE8;have HO0:=ae o0;have HL0:=ae l0;have HS0:=ae s0;have HP0:=ae p0;clear o0 l0 s0 p0 h0 hL0;go_wp2_with (first | (at_builtin;refine jeY _ rfl _ _ 30 rfl w2.heap.size 5 i0 (.int .u8 0) 1 1 Tryz.underlying30 hi ch hz1' bv rfl (by decide) _ _ _ rfl (HO0.o.alloc _) ⟨wr.heap.size,0,none⟩ 1 1 [.int .u8 0] rfl rfl ?c1 ?c2 ?c3 ?c4 ?c5 ?_))
      case c1=>exact cell_one_new _ _ _
      case c2=>first | rfl | (intro u hu;simp at hu;subst hu;rfl)
      case c3=>unfold maxLen;omega
      case c4=>omega
      case c5=>first | omega | (simp;omega)
      intro v1 w3 o1 g1 _ e1;have aP:=ae ((HB.o.alloc (by omega) _).grown g1 (by simp;omega) (fun k hk=>(HO0.o.lt k hk).1))
      have YQ:jgf (NF w3 w2.heap.size v1 t (V+n % 2 ^ k*2 ^ t0)):=by
       refine ae ⟨bs++[0],?_,?_,?_,?_⟩
       ·rw[HE8.o.1,ct];exact o1
       ·rw[jem,HL0.o,HE8.o.1];rfl
       ·intro x hx
        rcases jeN.1 hx with hx | hx
        ·exact HS0.o x hx
        ·simp at hx;omega
       ·rw[RX];exact HP0.o
      have hck3:=(aP.o.cell (p:=⟨b,off+i,none⟩) hb).trans lA.o;clear o1 g1 e1 dN;by_cases KV:q % 2=1
      ·have hbi1:(q:Int) % 2=1:=by omega
       obtain⟨g,cap2,x,c,rfl,hBg,Mx,hcx,lO,hc8,hxc,ze⟩:=YQ.o.lay HVL.o HR.o HJ.o HP.o HL1.o;rw[AP.o KV]at ze;have yj:=ae ze;clear ze KT HVL AP KU KV YQ;go_wp2_with fail;go_roundw
       case rel=>exact⟨k+1,t+1,by go_num,by go_num,by omega,by have:=HT.o;omega,yj.o,cT aP.o hBg _⟩
       case measure=>simp[intOf];omega
      ·have CQ:q % 2=0:=by omega
       have hbi0:(q:Int) % 2=0:=(by omega);have ze:=YQ.o.skip;rw[KU.o CQ]at ze;have yj:=ae ze;clear ze KT HVL AP KU KV YQ CQ;go_wp2_with fail;go_roundw
       case rel=>exact⟨k+1,t+1,by go_num,by go_num,by omega,by have:=HT.o;omega,yj.o,aP.o⟩
       case measure=>simp[intOf];omega
     ·have h0b:((r:Int)==0)=false:=by rw[jev];omega
      have YQ:=ae (KT.o.room (by rw[HR.o];exact h0));clear h0;by_cases KV:q % 2=1
      ·have hbi1:(q:Int) % 2=1:=by omega
       obtain⟨g,cap2,x,c,rfl,hBg,Mx,hcx,lO,hc8,hxc,ze⟩:=YQ.o.lay HVL.o HR.o HJ.o HP.o HL1.o;rw[AP.o KV]at ze;have yj:=ae ze;clear ze KT HVL AP KU KV YQ;go_wp2_with fail;go_roundw
       case rel=>exact⟨k+1,t+1,by go_num,by go_num,by omega,by have:=HT.o;omega,yj.o,cT HB.o hBg _⟩
       case measure=>simp[intOf];omega
      ·have CQ:q % 2=0:=by omega
       have hbi0:(q:Int) % 2=0:=(by omega);have ze:=YQ.o.skip;rw[KU.o CQ]at ze;have yj:=ae ze;clear ze KT HVL AP KU KV YQ CQ;go_wp2_with fail;go_roundw
       case rel=>exact⟨k+1,t+1,by go_num,by go_num,by omega,by have:=HT.o;omega,yj.o,HB.o⟩
       case measure=>simp[intOf];omega
    ·obtain rfl:k=ww:=by omega
     have ze:=KT.o;rw[jfd CO.o,HT0.o,jeU i k,← sC.o]at ze;have yj:=ae ze;have HT:jgf (t=(i+1)*k):=ae (by rw[ht,HT0.o,jeZ,jfp]);clear ze KT ht;go_wp2_with fail;go_roundw
     case rel=>exact⟨i+1,t,by go_num,rfl,by omega,HT.o,yj.o,HB.o⟩
     case measure=>simp[intOf];omega
  ·obtain rfl:i=l.length:=by omega
   rw[jes,ht0]at uR;have yj:=ae uR;clear uR az ht0 KT;go_wp2_with fail;go_ret2
   exact⟨_,rfl,yj.o,HB.o⟩
theorem mN{w:World}{v:Value}{l:List Nat}(hs:Sx .u64 w v l)(kU:∀ x∈l,x<18446744073709551616)(x:Int) :
  Calls Tryz.prog 134 #[v,.int .i64 x] w fun e w'=>∃ v',e=.returned (.tuple #[v',.bool (can l x)])/\w'.ownsRow w.heap.size 5 1 v' (bm l x).length (aF .u8 (bm l x))/\Below w.heap.size w w':=by
 cases lL:can l x with
 | true =>
  have hc:=lL;unfold can at hc;simp only[je7]at hc;obtain⟨h1,h2,h3,h4⟩:=hc;obtain⟨ww,rfl⟩:=jfx h1;refine(Ee hs kU ww (by omega) h3 h4).mono ?_;rintro e w' ⟨v',rfl,⟨bs,o1,o2,o3,o4⟩,hb⟩;refine⟨v',rfl,?_,hb⟩;rw[← zT lL o3 o2 o4,o2];exact o1
 | false =>
  rw[xf lL]
  have hno:¬ (0<=x/\x<=64/\l.length<=256/\wd l<=x.toNat):=by
   unfold can at lL;simpa only[jfP]using lL
  have HW:=ae (jY hs kU);obtain⟨a,cap,rfl,hm,eX⟩:=hs;have oD:l.length<=9223372036854775807:=by unfold maxLen at hm;omega
  clear eX kU lL hm;by_cases h0:x<0
  ·clear hno HW
   go_enter Tryz.func134,Tryz.ntmps134
   go_wp2_with fail;go_ret2
   exact⟨_,rfl,gG _ _ _,jej _ _⟩
  ·by_cases h1:x > 64
   ·clear hno HW
    go_enter Tryz.func134,Tryz.ntmps134
    go_wp2_with fail;go_ret2
    exact⟨_,rfl,gG _ _ _,jej _ _⟩
   ·by_cases h2:(l.length:Int) > 256
    ·clear hno HW
     go_enter Tryz.func134,Tryz.ntmps134
     go_wp2_with fail;go_ret2
     exact⟨_,rfl,gG _ _ _,jej _ _⟩
    ·have vZ:((wd l:Nat):Int) > x:=by
      have:¬ wd l<=x.toNat:=fun h=>hno ⟨by omega,by omega,by omega,h⟩
      omega
     clear hno;go_enter Tryz.func134,Tryz.ntmps134
     go_wp2_with fail;refine HW.o.mono ?_;rintro e w2 ⟨rfl,rfl⟩;go_wp2_with fail;go_ret2
     exact⟨_,rfl,gG _ _ _,jej _ _⟩
theorem LW(x:Int)(h0:-9223372036854775808<=x)(h1:x<=9223372036854775807):bits .xor .i64 (-1) x=-x-1:=by
 by_cases h:x<0
 ·show IntKind.i64.wrap ((BitVec.ofInt 64 (-1) ^^^ BitVec.ofInt 64 x).toNat:Int)=_
  have e1:(BitVec.ofInt 64 (-1)).toNat=2 ^ 64-1:=by decide
  have e2:(BitVec.ofInt 64 x).toNat=(x+18446744073709551616).toNat:=by
   rw[BitVec.toNat_ofInt];omega
  rw[BitVec.toNat_xor,e1,e2,xor_ones64 _ (by omega),jeV];omega
 ·obtain⟨n,rfl⟩:=jfx (a:=x) (by omega)
  exact i64_not n (by omega)
theorem jbl{z:Int}(h0:-9223372036854775808<=z)(h:z<0):bits .or .u64 (IntKind.u64.wrap (IntKind.u64.wrap (-z-1)*2)) 1=((zigzag z:Nat):Int):=by
 have e:IntKind.u64.wrap (IntKind.u64.wrap (-z-1)*2)=(-z-1)*2:=by rw[jeP,jeP];omega
 rw[e,bits_join .u64 64 (by decide) wraps_u64 1 _ _ (by omega) (by omega) (by omega) (by omega) (by omega) (by omega)];unfold zigzag;rw[jeh (by omega)];omega
theorem Hy(z:Int)(h0:-9223372036854775808<=z)(h1:z<=9223372036854775807)(w:World) :
  Calls Tryz.prog 174 #[.int .i64 z] w fun e w'=>(∃ v,e=.returned v/\w'.ownsRow w.heap.size 5 1 v (uvarint (zigzag z)).length (aX (uvarint (zigzag z))))/\Below w.heap.size w w':=by
 have HP:=ae (DF (zigzag z) (zigzag_lt h0 h1));by_cases h:z<0
 ·have hx:=LW z h0 h1
  have HE:=ae (jbl h0 h);go_enter Tryz.func174,Tryz.ntmps174
  go_wp2_with fail;rw[HE.o];refine(HP.o _).mono ?_;rintro e w2 ⟨⟨v,rfl,aA⟩,hb⟩;have HO:=ae aA;clear aA;go_wp2_with fail;go_ret
  exact⟨⟨_,rfl,HO.o⟩,hb⟩
 ·have HE:=ae (zigzag_nonneg (x:=z) (by omega))
  go_enter Tryz.func174,Tryz.ntmps174
  go_wp2_with fail;rw[← HE.o];refine(HP.o _).mono ?_;rintro e w2 ⟨⟨v,rfl,aA⟩,hb⟩;have HO:=ae aA;clear aA;go_wp2_with fail;go_ret
  exact⟨⟨_,rfl,HO.o⟩,hb⟩
theorem yL(z:Int)(h0:-9223372036854775808<=z)(h1:z<=9223372036854775807)(w:World) :
  Calls Tryz.prog 137 #[.int .i64 z] w fun e w'=>(∃ v,e=.returned v/\w'.ownsRow w.heap.size 5 1 v (uvarint (zigzag z)).length (aX (uvarint (zigzag z))))/\Below w.heap.size w w':=by
 have HP:=ae (wM (zigzag z) (zigzag_lt h0 h1));by_cases h:z>=0
 ·have HE:=ae (zigzag_nonneg (x:=z) (by omega))
  go_enter Tryz.func137,Tryz.ntmps137
  go_wp2_with fail;rw[Int.mul_comm,← HE.o];refine(HP.o _).mono ?_;rintro e w2 ⟨⟨v,rfl,aA⟩,hb⟩;have HO:=ae aA;clear aA;go_wp2_with fail;go_ret
  exact⟨⟨_,rfl,HO.o⟩,hb⟩
 ·have he:2*-(z+1)+1=((zigzag z:Nat):Int):=by unfold zigzag;rw[jeh (by omega)];omega
  have HE:=ae he;clear he;go_enter Tryz.func137,Tryz.ntmps137
  go_wp2_with fail;rw[HE.o];refine(HP.o _).mono ?_;rintro e w2 ⟨⟨v,rfl,aA⟩,hb⟩;have HO:=ae aA;clear aA;go_wp2_with fail;go_ret
  exact⟨⟨_,rfl,HO.o⟩,hb⟩
theorem Hz{w:World}{v:Value}{l:List UInt8}(h:Sl w v l):Calls Tryz.prog 324 #[v] w fun e w'=>e=kX .i64 (fL (fG l).1) (fG l).2.1 (fG l).2.2/\w'=w:=by
 have HG:=ae (LJ h);obtain⟨f1,f2,f3,f4⟩:=zI l;clear h;generalize fG l=x at *;obtain⟨n,u,c⟩:=x;simp only at *;unfold kX at *;clear f2;go_enter Tryz.func324,Tryz.ntmps324
 go_wp2_with fail;refine HG.o.mono ?_;rintro e w1 ⟨rfl,rfl⟩;by_cases h0:c=0
 ·subst h0
  clear f4;have HU:jgf (∀ m:Int,m=fL n->m=fL n):=fun m h=>h
  have ha:=u64_and1 (n:Int) (by omega) (by omega);by_cases hp:n % 2=0
  ·have hb:((n:Int) % 2==1)=false:=by simp;omega
   go_wp2_with fail;go_ret3
   unfold fL;rw[jei hp];exact⟨rfl,rfl⟩
  ·have hb:((n:Int) % 2==1)=true:=by simp;omega
   have hx:=LW ((n:Int) / 2) (by omega) (by omega);go_wp2_with fail;go_ret3
   unfold fL;rw[jeh hp];exact⟨rfl,rfl⟩
 ·have fJ:((c:Int) != 0)=true:=RT (by omega) h0
  obtain⟨rfl,rfl⟩:n=0/\u=0:=by omega
  go_wp2_with fail;go_ret3
  exact⟨rfl,rfl⟩
end Go.Proofs.YtpljdjmpamjkhaaGreatDoor
