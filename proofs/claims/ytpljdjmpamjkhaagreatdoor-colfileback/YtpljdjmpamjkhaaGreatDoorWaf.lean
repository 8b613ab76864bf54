import Derived.Test.YtpljdjmpamjkhaaGreatDoorWae
import Derived.Test.YtpljdjmpamjkhaaGreatDoorWad
set_option linter.unusedVariables false
set_option maxRecDepth 100000
set_option maxHeartbeats 4000000
set_option linter.unusedSimpArgs false
namespace Go.Proofs.YtpljdjmpamjkhaaGreatDoor
theorem Dj(t:Nat):2 ^ t=2 ^ (t % 8)*2 ^ (8*(t / 8)):=by
 rw[← ZM];congr 1
 omega
theorem Ms{bs:List Nat}{t:Nat}(h:∀ x∈bs,x<256)(ht:pk 8 bs<2 ^ t)(hj:t / 8<bs.length):bs[t / 8]<2 ^ (t % 8):=by
 rw[LU (w:=8) h hj];refine jaE (Nat.mod_le _ _) ?_;rw[Nat.div_lt_iff_lt_mul (ZC _),← Dj];exact ht
theorem qt{r:Nat}(h:r<8):2 ^ r*2 ^ (8-r)=256:=by
 rw[← ZM,show r+(8-r)=8 by omega]
theorem VF{x n r:Nat}(hr:r<8)(hx:x<2 ^ r):x+n % 2 ^ (8-r)*2 ^ r<256:=by
 have h1:=Nat.mod_lt n (ZC (8-r));have h2:(n % 2 ^ (8-r)+1)*2 ^ r<=2 ^ (8-r)*2 ^ r:=Nat.mul_le_mul_right _ h1;rw[Zi (2 ^ (8-r)),qt hr,Zt,jad]at h2;omega
theorem VG{bs:List Nat}{t:Nat}(hj:t / 8<bs.length)(c:Nat):pk 8 (bs.set (t / 8) (bs[t / 8]+c*2 ^ (t % 8)))=pk 8 bs+c*2 ^ t:=by
 have h:=LT 8 (bs[t / 8]+c*2 ^ (t % 8)) hj;rw[Zt,ZW,← Dj]at h;omega
theorem VH{bs:List Nat}{j c:Nat}(h:∀ x∈bs,x<256)(hc:c<256):∀ x∈bs.set j c,x<256:=by
 intro x hx;rcases List.mem_or_eq_of_mem_set hx with hx | rfl
 ·exact h x hx
 ·exact hc
theorem Sb(V n t s:Nat):V+n % 2 ^ s*2 ^ t+n / 2 ^ s*2 ^ (t+s)=V+n*2 ^ t:=by
 have h:=Nat.mod_add_div n (2 ^ s);have h2:=YE (·*2 ^ t) h;simp only[Zt]at h2;rw[ZM,Zi (2 ^ t),← ZW,Zi (n / 2 ^ s)];omega
theorem Hn{V n t s:Nat}(h:V<2 ^ t):V+n % 2 ^ s*2 ^ t<2 ^ (t+s):=by
 have h1:=Nat.mod_lt n (ZC s);have h2:(n % 2 ^ s+1)*2 ^ t<=2 ^ s*2 ^ t:=Nat.mul_le_mul_right _ h1;rw[ZM,Zi (2 ^ t)];rw[Zt,jad]at h2;omega
theorem Mt{n w s:Nat}(h:n<2 ^ w):n / 2 ^ s<2 ^ (w-s):=by
 rw[Nat.div_lt_iff_lt_mul (ZC _),← ZM];exact Za h (jag (by omega) (by omega))
theorem wJ{bs:List Nat}{t:Nat}(h:∀ x∈bs,x<256)(hj:t / 8<bs.length):bs[t / 8] / 2 ^ (t % 8)=pk 8 bs / 2 ^ t % 2 ^ (8-t % 8):=by
 rw[LU (w:=8) h hj,show (2:Nat) ^ 8=2 ^ (t % 8)*2 ^ (8-t % 8) from (qt (by omega)).symm,Nat.mod_mul_right_div_self,Nat.div_div_eq_div_mul,
  Zi (2 ^ (8*(t / 8))),← Dj]
theorem Mu(D t a s:Nat):D / 2 ^ t % 2 ^ a+D / 2 ^ (t+a) % 2 ^ s*2 ^ a=D / 2 ^ t % 2 ^ (a+s):=by
 rw[ZM 2 a s,Nat.mod_mul,Nat.div_div_eq_div_mul,← ZM,Zi (2 ^ a)]
theorem Dk{bs:List Nat}{c:Nat}(h:∀ x∈bs,x<256)(hl:bs.length=by8 c)(h0:c % 8=0):pk 8 bs<2 ^ c:=by
 have:=zG (w:=8) h;rw[hl]at this;rwa[show 8*by8 c=c by unfold by8;omega]at this
theorem Dl{bs:List Nat}{c:Nat}(h:∀ x∈bs,x<256)(hl:bs.length=by8 c)(h0:c % 8≠0)(hj:bs.length-1<bs.length) :
  bs[bs.length-1] / 2 ^ (c % 8)=0↔pk 8 bs<2 ^ c:=by
 have ar:=zG (w:=8) h;have e:bs.length-1=c / 8:=by rw[hl];unfold by8;omega
 have hc:c / 8<bs.length:=by omega
 have e2:bs[bs.length-1]=bs[c / 8]:=by simp only[e]
 rw[e2,wJ h hc,ZF]
 ·rw[Nat.div_eq_zero_iff]
  have:=ZC c;omega
 ·rw[Nat.div_lt_iff_lt_mul (ZC _),← ZM,show 8-c % 8+c=8*bs.length by rw[hl];unfold by8;omega]
  exact ar
def fill(l:List Nat)(i:Nat):List Nat:=l.take i++List.replicate (l.length-i) 0
theorem mv(l:List Nat):fill l 0=List.replicate l.length 0:=by simp[fill]
theorem oR(l:List Nat):fill l l.length=l:=by simp[fill]
theorem jT{l:List Nat}{i:Nat}(h:i<=l.length):(fill l i).length=l.length:=by simp[fill];omega
theorem oS{l:List Nat}{i:Nat}(h:i<l.length):(fill l i).set i l[i]=fill l (i+1):=by
 unfold fill
 rw[List.set_append_right _ _ (by simp;omega),YH,ZG (by omega),jai,show l.length-i=(l.length-(i+1))+1 by omega,
  List.replicate_succ,YJ,YP h,YR]
 rfl
theorem Ho{l bs:List Nat}{w:Nat}(hc:can l w=true)(hb:∀ x∈bs,x<256)(hl:bs.length=by8 (l.length*w))(h:pk 8 bs=pk w l):bs=aY l w:=by
 unfold aY;rw[Yy hc,Ze,← h,← hl];exact(xR hb).symm
open Go.RowKit Go.Lib
theorem VI{a b:Nat}(ha:a<18446744073709551616)(hb:b<18446744073709551616):bits .or .u64 (a:Int) (b:Int)=((a ||| b:Nat):Int):=by
 show IntKind.u64.wrap ((BitVec.ofInt 64 (a:Int) ||| BitVec.ofInt 64 (b:Int)).toNat:Int)=_
 have e1:(BitVec.ofInt 64 (a:Int)).toNat=a:=by rw[BitVec.toNat_ofInt];omega
 have e2:(BitVec.ofInt 64 (b:Int)).toNat=b:=by rw[BitVec.toNat_ofInt];omega
 have h:=Nat.or_lt_two_pow (x:=a) (y:=b) (n:=64) ha hb;rw[BitVec.toNat_or,e1,e2,Zr];omega
theorem qu{w:World}{v:Value}{l:List Nat}(hs:Sx .u64 w v l)(ol:∀ x∈l,x<18446744073709551616) :
  Calls Tryz.prog 202 #[v] w fun e w'=>e=.returned (.int .i64 (wd l:Int))/\w'=w:=by
 obtain⟨a,cap,rfl,hm,hc⟩:=hs;have uS:l.length<=9223372036854775807:=by unfold maxLen at hm;omega
 have HC:=ae hc;have Rl:=ae ol;clear hc hm ol;go_enter Tryz.func202,Tryz.ntmps202
 go_wp2_with fail;go_loopw [3,9] (fun al i w'=>w'=w/\∃ k:Nat,k<=l.length/\i=.int .i64 (k:Int)/\al=.int .u64 (oG (l.take k):Int)) (fun _ i _=>l.length-(intOf i).toNat)
 case atStart=>exact⟨rfl,0,by omega,rfl,rfl⟩
 case round =>
  obtain⟨rfl,k,hk,rfl,rfl⟩:=hrel;by_cases ar:k<l.length
  ·obtain⟨b,off,rfl,hb,bn⟩:=HC.o (by omega)
   have ek:=bn k ar;have hx:=or64 Rl.o k;have hor:=VI hx (Rl.o l[k] (YF ar));have HT:=ae (lr ar);clear bn hx;generalize l[k]=x at *;generalize oG (l.take k)=y at *;go_wp2_with fail;go_roundw
   case rel=>exact⟨trivial,k+1,by omega,by go_num,by rw[HT.o]⟩
   case measure=>simp[intOf];omega
  ·obtain rfl:k=l.length:=by omega
   rw[YK];have hx:=or64 Rl.o l.length;rw[YK]at hx;have hw:=LV Rl.o;have HW:jaH (wd l=cL (oG l)):=rfl;clear HC Rl;generalize oG l=y at *;go_wp2_with fail;go_loopw [3,6] (fun al i w'=>w'=wr/\∃ n k:Nat,al=.int .u64 (n:Int)/\i=.int .i64 (k:Int)/\n<=y/\k+cL n=wd l) (fun al _ _=>(intOf al).toNat)
   case atStart=>exact⟨rfl,y,0,rfl,rfl,YA _,by rw[HW.o,YY]⟩
   case round =>
    obtain⟨rfl,n,k,rfl,rfl,hn,gV⟩:=hrel;by_cases h0:((n:Int)==0)=true
    ·have h0':n=0:=by simpa using h0
     subst h0';have HK:jaH (k=wd l):=by show k=wd l;simpa [cL]using gV
     clear gV HW;go_wp2_with fail;go_ret
     rw[← HK.o];exact⟨rfl,rfl⟩
    ·have h0f:((n:Int)==0)=false:=by simpa using h0
     have mP:n≠0:=by simpa using h0
     have hbh:=GV mP;have HB:=ae gV;have HBH:=ae hbh;have te:k<=64:=(by omega);clear h0 gV hbh;go_wp2_with fail;go_roundw
     case rel=>exact⟨trivial,n / 2,k+1,by go_num,by go_num,by omega,by have:=HB.o;have:=HBH.o;omega⟩
     case measure=>simp[intOf];omega
theorem rz(n w:Int)(W:World):Calls Tryz.prog 201 #[.int .i64 n,.int .i64 w] W fun e w'=>e=.returned (.bool (decide (0<=n/\n<=256/\0<=w/\w<=64)))/\w'=W:=by
 by_cases h1:n>=0
 ·by_cases h2:n<=256
  ·by_cases h3:w>=0
   ·by_cases h4:w<=64
    ·rw[YT (by omega)]
     go_enter Tryz.func201,Tryz.ntmps201
     go_wp2_with fail;go_ret
     exact⟨rfl,rfl⟩
    ·rw[YO (by omega)]
     go_enter Tryz.func201,Tryz.ntmps201
     go_wp2_with fail;go_ret
     exact⟨rfl,rfl⟩
   ·rw[YO (by omega)]
    go_enter Tryz.func201,Tryz.ntmps201
    go_wp2_with fail;go_ret
    exact⟨rfl,rfl⟩
  ·rw[YO (by omega)]
   go_enter Tryz.func201,Tryz.ntmps201
   go_wp2_with fail;go_ret
   exact⟨rfl,rfl⟩
 ·rw[YO (by omega)]
  go_enter Tryz.func201,Tryz.ntmps201
  go_wp2_with fail;go_ret
  exact⟨rfl,rfl⟩
theorem oT(c:Nat)(hc:c<=16384)(W:World):Calls Tryz.prog 203 #[.int .i64 (c:Int)] W fun e w'=>e=.returned (.int .i64 (by8 c:Int))/\w'=W:=by
 have HE:jaH (((by8 c:Nat):Int)=((c:Int)+8-1) / 8):=by show _=_;unfold by8;omega
 go_enter Tryz.func203,Tryz.ntmps203
 go_wp2_with fail;go_ret
 rw[HE.o];exact⟨rfl,rfl⟩
theorem Aa{x u:Nat}:(((x:Int) / 2 ^ u)==0)=decide (x / 2 ^ u=0):=by
 have h2:((x / 2 ^ u:Nat):Int)=(x:Int) / 2 ^ u:=by simp
 rw[← h2];rw[jaj];simp only[beq_iff_eq,Zu];exact Int.natCast_eq_zero
theorem Hp{w:World}{v:Value}{bs:List Nat}(hs:Sx .u8 w v bs)(h8:∀ x∈bs,x<256)(c:Nat)(hc:c<=16384)(hl:bs.length=by8 c) :
  Calls Tryz.prog 303 #[v,.int .i64 (c:Int)] w fun e w'=>e=.returned (.bool (decide (pk 8 bs<2 ^ c)))/\w'=w:=by
 obtain⟨a,cap,rfl,hm,fT⟩:=hs;by_cases h0:c % 8=0
 ·have h0b:((c:Int) % 8==0)=true:=by simp;omega
  have HE:=ae (YT (Dk h8 hl h0));clear fT h8 hl hm h0;go_enter Tryz.func303,Tryz.ntmps303
  go_wp2_with fail;go_ret
  rw[HE.o];exact⟨rfl,rfl⟩
 ·have h0b:((c:Int) % 8==0)=false:=by simp;omega
  have PZ:0<bs.length:=by rw[hl];unfold by8;omega
  have ob:bs.length<=2048:=by rw[hl];unfold by8;omega
  obtain⟨b,off,rfl,hb,bn⟩:=fT PZ;have ek:=bn (bs.length-1) (by omega);have HX:=ae (Dl h8 hl h0 (by omega));have hx:=h8 _ (YF (h:=(by omega:bs.length-1<bs.length)));have hsub:(bs.length:Int)-1=((bs.length-1:Nat):Int):=by omega
  have ar:bs.length-1<bs.length:=by omega
  obtain⟨u,hu⟩:∃ u,c % 8=u:=⟨_,rfl⟩;have hui:(c:Int) % 8=(u:Int):=by omega
  have hu8:u<8:=by omega
  rw[hui]at h0b;rw[hu]at HX;generalize bs[bs.length-1]=x at *;clear bn fT h8 hl hm h0 hu;have HF:=ae (Aa (x:=x) (u:=u));generalize bs.length-1=n at *;generalize bs.length=L at *;go_enter Tryz.func303,Tryz.ntmps303
  go_wp2_with fail;go_ret
  refine⟨?_,rfl⟩;rw[← decide_eq_decide.2 HX.o,← HF.o];rfl
theorem Sd{D t0 t k s y n:Nat}(hn:D / 2 ^ t0 % 2 ^ k % 18446744073709551616=n)(hy:y=D / 2 ^ t % 2 ^ s)(ht:t=t0+k)(hk:k<64)(hs:s<=8) :
  bits .or .u64 (n:Int) (IntKind.u64.wrap ((y:Int)*2 ^ k))=((D / 2 ^ t0 % 2 ^ (k+s) % 18446744073709551616:Nat):Int):=by
 have ol:(18446744073709551616:Nat)=2 ^ k*2 ^ (64-k):=by rw[← ZM,show k+(64-k)=64 by omega]
 have jJ:2 ^ k<=18446744073709551616:=by rw[ol];exact Nat.le_mul_of_pos_right _ (ZC _)
 have hm:=Nat.mod_lt (D / 2 ^ t0) (ZC k);rw[ZF (Za hm jJ)]at hn;rw[hn]at hm;have mQ:=Mu D t0 k s;rw[← ht,hn,← hy]at mQ;rw[← mQ];have e:(y:Int)*2 ^ k=((y*2 ^ k:Nat):Int):=by simp
 have hdvd:y*2 ^ k % 18446744073709551616 % 2 ^ k=0:=by
  rw[ol,Nat.mod_mul_right_mod,Nat.mul_mod_left]
 have ar:y*2 ^ k % 18446744073709551616<2 ^ k*2 ^ (64-k):=by rw[← ol];omega
 have hw:IntKind.u64.wrap (((y*2 ^ k:Nat)):Int)=((y*2 ^ k % 18446744073709551616:Nat):Int):=by rw[Zr];omega
 have hmod:(n+y*2 ^ k) % 18446744073709551616=(n+y*2 ^ k % 18446744073709551616) % 18446744073709551616:=by omega
 rw[e,hw,hmod];generalize y*2 ^ k % 18446744073709551616=z at *;have hz:=Nat.div_add_mod z (2 ^ k);rw[hdvd,ZL]at hz;rw[← hz]at ar;have hq:=Nat.lt_of_mul_lt_mul_left ar;have od:2 ^ k*(z / 2 ^ k+1)<=2 ^ k*2 ^ (64-k):=ZT _ hq;rw[← ol,ZQ,Nat.mul_one,hz]at od;rw[ZF (by omega)];have hj:=bits_join_low .u64 64 (by decide) wraps_u64 k (n:Int) (z:Int) (by omega) (by exact_mod_cast hm) (by omega) (by omega) (by exact_mod_cast hdvd) (by omega);rw[hj];omega
theorem Se{ww:Nat}(h:ww<=64):IntKind.u64.wrap (IntKind.u64.wrap (2 ^ ww)-1)=((2 ^ ww-1:Nat):Int):=by
 have e:(2:Int) ^ ww=((2 ^ ww:Nat):Int):=by simp
 have hp:=ZC ww;rcases Zd ww 64 with h1 | h1
 ·have:2 ^ ww<2 ^ 64:=Nat.pow_lt_pow_right (by omega) h1
  rw[e,Zr,Zr];omega
 ·obtain rfl:ww=64:=by omega
  decide
theorem Hq{D t0 k n ww:Nat}(hn:D / 2 ^ t0 % 2 ^ k % 18446744073709551616=n)(ol:ww<=64)(hk:ww<=k) :
  bits .and .u64 (n:Int) (IntKind.u64.wrap (IntKind.u64.wrap (2 ^ ww)-1))=((D / 2 ^ t0 % 2 ^ ww:Nat):Int):=by
 rw[Se ol];have hp:=ZC ww;have ob:2 ^ ww<=2 ^ 64:=jag (by omega) ol;rw[(bits_nat .u64 64 (by decide) wraps_u64 n (2 ^ ww-1) (by omega) (by omega)).1,Nat.and_two_pow_sub_one_eq_mod,← hn];rw[Nat.mod_mod_of_dvd _ (show 2 ^ ww ∣ 18446744073709551616 from Nat.pow_dvd_pow (n:=64) 2 ol),Nat.mod_mod_of_dvd _ (Nat.pow_dvd_pow 2 hk)]
theorem Mv{w:World}{v:Value}{bs:List Nat}(hs:Sx .u8 w v bs)(h8:∀ x∈bs,x<256)(t0 ww:Nat)(hw:ww<=64)(ht:t0+ww<=8*bs.length)(ht0:t0<=16384) :
  Calls Tryz.prog 304 #[v,.int .i64 (t0:Int),.int .i64 (ww:Int)] w fun e w'=>e=.returned (.int .u64 ((pk 8 bs / 2 ^ t0 % 2 ^ ww:Nat):Int))/\w'=w:=by
 obtain⟨a,cap,rfl,hm,fT⟩:=hs;have uS:bs.length<=9223372036854775807:=by unfold maxLen at hm;omega
 have HC:=ae fT;have H8:=ae h8;clear fT h8 hm;go_enter Tryz.func304,Tryz.ntmps304
 go_wp2_with fail;go_loopw [1,7,8] (fun at_ n have_ w'=>w'=w/\∃ k t:Nat,k<=ww+7/\t=t0+k/\at_=.int .i64 (t:Int)/\have_=.int .i64 (k:Int)/\n=.int .u64 ((pk 8 bs / 2 ^ t0 % 2 ^ k % 18446744073709551616:Nat):Int)) (fun _ _ i _=>ww-(intOf i).toNat)
 case atStart=>exact⟨rfl,0,t0,by omega,rfl,rfl,rfl,by simp[Nat.mod_one]⟩
 case round =>
  obtain⟨rfl,k,t,hk,Qa,rfl,rfl,rfl⟩:=hrel;by_cases ar:k<ww
  ·obtain⟨b,off,rfl,hb,bn⟩:=HC.o (by omega)
   have TJ:t / 8<bs.length:=(by omega);have ek:=bn (t / 8) TJ;have HF:=ae (wJ H8.o TJ);have hx:=H8.o _ (YF TJ);have qc:=ae Qa;have ht1:t<=20000:=(by omega);generalize bs[t / 8]=x at *;obtain⟨j,hj⟩:∃ j,t / 8=j:=⟨_,rfl⟩;obtain⟨r,hr⟩:∃ r,t % 8=r:=⟨_,rfl⟩;obtain⟨s,hsr⟩:∃ s,8-r=s:=⟨_,rfl⟩;obtain⟨y,hy⟩:∃ y,x / 2 ^ r=y:=⟨_,rfl⟩;obtain⟨n,hn⟩:∃ n,pk 8 bs / 2 ^ t0 % 2 ^ k % 18446744073709551616=n:=⟨_,rfl⟩;rw[hr,hy,hsr]at HF;rw[hj]at ek TJ;have hji:(t:Int) / 8=(j:Int):=(by omega);have BW:(t:Int) % 8=(r:Int):=(by omega);have hsi:(8:Int)-(r:Int)=(s:Int):=(by omega);have hr8:r<8:=(by omega);have hs8:s<=8:=(by omega);have da:1<=s:=(by omega);have hyi:(x:Int) / 2 ^ r=(y:Int):=by rw[← hy];simp
   have BX:y<256:=by rw[← hy];exact jaE (Nat.div_le_self _ _) hx
   rw[hn];have HN:=ae hn;have hor:=Sd HN.o HF.o qc.o (by omega) (by omega);have HK:jaH (k+s<=ww+7):=ae (by omega);have Rm:k<=64:=(by omega);clear bn hn hy hr hj hsr Qa;go_wp2_with fail;go_roundw
   case rel=>exact⟨trivial,k+s,t+s,HK.o,by have:=qc.o;omega,by go_num,by go_num,rfl⟩
   case measure=>simp[intOf];omega
  ·have qc:=ae Qa
   clear Qa HC;generalize hn:pk 8 bs / 2 ^ t0 % 2 ^ k % 18446744073709551616=n;have HN:=ae hn;have hnl:n<18446744073709551616:=by rw[← hn];exact Nat.mod_lt _ (by omega)
   clear hn;go_wp2_with fail;go_ret
   rw[← Hq HN.o hw (by omega)];exact⟨rfl,rfl⟩
theorem Hr{w:World}{B e n:Nat}{v:Value}{xs:List Value}(h:w.ownsRow B e 1 v n xs)(hp:0<n):∃ g cap,v=.slice (some ⟨g,0,none⟩) n cap/\B<=g/\g<w.heap.size:=by
 obtain⟨hl,h1⟩:=id h;rcases h1 with ⟨rfl,rfl⟩ | ⟨g,cap,cur,rfl,hb,hg,h4⟩
 ·omega
 ·exact⟨g,cap,rfl,hb,(Array.getElem?_eq_some_iff.1 hg).1⟩
theorem yf{w:World}{B e n:Nat}{v:Value}{xs:List Value}(h:w.ownsRow B e 1 v n xs):∃ a cap,v=.slice a n cap:=by
 obtain⟨hl,h1⟩:=id h;rcases h1 with ⟨rfl,rfl⟩ | ⟨g,cap,cur,rfl,hb,hg,h4⟩
 ·exact⟨none,0,rfl⟩
 ·exact⟨_,cap,rfl⟩
theorem cH{B:Nat}{a w:World}(h:Below B a w){g j:Nat}(hg:B<=g)(u:Value):Below B a (w.setCell ⟨g,j,none⟩ u):=h.setCell hg u
theorem VJ{x m r z:Nat}(hr:r<8)(hx:x<2 ^ r)(hz:IntKind.u64.wrap ((m:Int)*2 ^ r)=(z:Int)) :
  bits .or .u8 (x:Int) ((z:Int) % 256)=((x+m % 2 ^ (8-r)*2 ^ r:Nat):Int):=by
 have e:(m:Int)*2 ^ r=((m*2 ^ r:Nat):Int):=by simp
 rw[e,Zr]at hz;have bh:(z:Int) % 256=((m*2 ^ r % 256:Nat):Int):=by omega
 have h256:(256:Nat)=2 ^ (8-r)*2 ^ r:=by rw[Zi,qt hr]
 have hm:m*2 ^ r % 256=m % 2 ^ (8-r)*2 ^ r:=by rw[h256,Nat.mul_mod_mul_right]
 have hl:m*2 ^ r % 256<256:=Nat.mod_lt _ (by omega);have vO:2 ^ r<=256:=by rw[h256];exact Nat.le_mul_of_pos_left _ (ZC _)
 have hd:m % 2 ^ (8-r)*2 ^ r % 2 ^ r=0:=Nat.mul_mod_left _ _;rw[hm]at hl bh;rw[bh];generalize m % 2 ^ (8-r)*2 ^ r=q at *;have hj:=bits_join_low .u8 8 (by decide) wraps_u8 r (x:Int) (q:Int) (by omega) (by exact_mod_cast hx) (by omega) (by omega) (by exact_mod_cast hd) (by omega);rw[hj];omega
theorem Sg{B:Nat}{w:World}{v:Value}{bs:List Nat}(aw:w.ownsRow B 5 1 v bs.length (az .u8 bs))(h8:∀ x∈bs,x<256)(t0 ww n:Nat)(hw:ww<=64)(hn:n<2 ^ ww)
  (hn64:n<18446744073709551616) (ht:t0+ww<=8*bs.length) (hV:pk 8 bs<2 ^ t0) (ht0:t0<=16384) (Wz:bs.length<=2048) :
  Calls Tryz.prog 204 #[v,.int .i64 (t0:Int),.int .i64 (ww:Int),.int .u64 (n:Int)] w fun e w'=>e=.returned (.tuple #[]) /\
   (∃ bs',w'.ownsRow B 5 1 v bs.length (az .u8 bs')/\bs'.length=bs.length/\(∀ x∈bs',x<256)/\pk 8 bs'=pk 8 bs+n*2 ^ t0)/\Below B w w':=by
 obtain⟨T,hT⟩:∃ T,pk 8 bs+n*2 ^ t0=T:=⟨_,rfl⟩;rw[hT];obtain⟨E,hE⟩:∃ E,t0+ww=E:=⟨_,rfl⟩;have hEi:(t0:Int)+(ww:Int)=(E:Int):=by omega
 have HS:jaH (∃ bs':List Nat,w.ownsRow B 5 1 v bs.length (az .u8 bs')/\bs'.length=bs.length/\(∀ x∈bs',x<256)/\pk 8 bs'<2 ^ t0/\pk 8 bs'+n*2 ^ t0=T) :=
  ae ⟨bs,aw,rfl,h8,hV,hT⟩
 have HN:jaH (n<2 ^ (E-t0)):=ae (by rw[← hE,Nat.add_sub_cancel_left];exact hn);rw[hE]at ht;have hE0:E<=t0+64:=by omega
 have hE1:t0<=E:=by omega
 clear aw h8 hV hT hn hE;generalize bs.length=L at *;go_enter Tryz.func204,Tryz.ntmps204
 go_wp2_with fail
 go_loopw [1,3] (fun at_ mm wr=>∃ t m:Nat,at_=.int .i64 (t:Int)/\mm=.int .u64 (m:Int)/\t<=E+7/\m<18446744073709551616/\m<2 ^ (E-t) /\
   (∃ bs':List Nat,wr.ownsRow B 5 1 v L (az .u8 bs')/\bs'.length=L/\(∀ x∈bs',x<256)/\pk 8 bs'<2 ^ t/\pk 8 bs'+m*2 ^ t=T)/\Below B w wr) (fun a _ _=>E-(intOf a).toNat)
 case atStart=>exact⟨t0,n,rfl,rfl,by omega,hn64,HN.o,HS.o,Yz _ _⟩
 case round =>
  obtain⟨t,m,rfl,rfl,htE,hm64,hmE,⟨cs,how,fT,h8,hV,mQ⟩,ao⟩:=hrel;have HB:=ae ao;by_cases ar:t<E
  ·have TJ:t / 8<cs.length:=by omega
   obtain⟨g,cap,rfl,hBg,Qf⟩:=Hr how (by omega);have ek:=(how.cellAt (t / 8) (by omega)).trans (bG TJ);have kK:=how.frozenAt (t / 8);have UG:=Ms h8 hV TJ;have hx8:=h8 _ (YF TJ);have WC:=ae (VF (n:=m) (by omega:t % 8<8) UG);have UH:=ae (VG TJ (m % 2 ^ (8-t % 8)));have co:=ae (how.stored (t / 8) (.int .u8 ((cs[t / 8]+m % 2 ^ (8-t % 8)*2 ^ (t % 8):Nat):Int)));rw[kp]at co;have H8:=ae (VH (j:=t / 8) h8 WC.o);have WD:=ae (Hn (n:=m) (s:=8-t % 8) hV);have Qg:=ae (Sb (pk 8 cs) m t (8-t % 8));have TK:=ae (Mt (s:=8-t % 8) hmE);have HSU:=ae mQ;have Gu:jaH ((cs.set (t / 8) (cs[t / 8]+m % 2 ^ (8-t % 8)*2 ^ (t % 8))).length=L):=ae (by rw[jak];exact fT)
   obtain⟨z,hz⟩:∃ z:Nat,IntKind.u64.wrap ((m:Int)*2 ^ (t % 8))=(z:Int):=by
    refine⟨(IntKind.u64.wrap ((m:Int)*2 ^ (t % 8))).toNat,?_⟩;rw[Zr];omega
   have hor:=VJ (by omega) UG hz
   have hz64:z<18446744073709551616:=by
    rw[Zr]at hz;omega
   generalize Rn:cs.set (t / 8) (cs[t / 8]+m % 2 ^ (8-t % 8)*2 ^ (t % 8))=cs2 at *;generalize cs[t / 8]+m % 2 ^ (8-t % 8)*2 ^ (t % 8)=c at *;generalize cs[t / 8]=x at *;clear how ao h8 hV mQ Rn UG;have hji:(t:Int) / 8=((t / 8:Nat):Int):=(by omega);have BW:(t:Int) % 8=((t % 8:Nat):Int):=(by omega);have hsi:(8:Int)-((t % 8:Nat):Int)=((8-t % 8:Nat):Int):=(by omega);have hr8:t % 8<8:=(by omega);have hs8:8-t % 8<=8:=(by omega);have da:1<=8-t % 8:=(by omega);have hjL:t / 8<L:=(by omega);have HTT:jaH (t+(8-t % 8)<=E+7):=ae (by omega);have HEE:jaH (E-(t+(8-t % 8))=E-t-(8-t % 8)):=ae (by omega);have hmd:(m:Int) / 2 ^ (8-t % 8)=((m / 2 ^ (8-t % 8):Nat):Int):=by simp
   have WB:m / 2 ^ (8-t % 8)<=m:=Nat.div_le_self _ _;have hc8:=WC.o;generalize 8-t % 8=s at *;generalize t % 8=r at *;generalize t / 8=j at *;clear hmE;generalize m / 2 ^ s=q at *;go_wp2_with fail;go_region
   all_goals
    go_wp2_with fail;go_roundw
    case rel =>
     refine⟨t+s,q,by go_num,by go_num,HTT.o,by omega,?_,⟨cs2,co.o.1.drew,Gu.o,H8.o,?_,?_⟩,(cH HB.o hBg _).drew⟩
     ·rw[HEE.o];exact TK.o
     ·rw[UH.o];exact WD.o
     ·rw[UH.o,Qg.o];exact HSU.o
    case measure=>simp[intOf];omega
  ·have WE:m=0:=by
    rw[show E-t=0 by omega]at hmE;omega
   subst WE;have HO:jaH (∃ bs':List Nat,wr.ownsRow B 5 1 v L (az .u8 bs')/\bs'.length=L/\(∀ x∈bs',x<256)/\pk 8 bs'=T):=ae ⟨cs,how,fT,h8,by simpa using mQ⟩;clear how fT h8 hV mQ ao hmE;go_wp2_with fail;go_end0
   exact⟨rfl,HO.o,HB.o⟩
theorem iV(k:IntKind)(n:Nat):(madeCells #[Value.int k 0] n).toList=az k (List.replicate n 0):=by
 rw[jal];simp[az]
theorem Ab{l:List Nat}{x:Int}(h:can l x=false):aY l x=[]:=by unfold aY;rw[h];rfl
theorem lI(w:World)(B e:Nat):w.ownsRow B e 1 (.slice none 0 0) 0 []:=Zx _ _ _ _
theorem Mw{l:List Nat}{ww k:Nat}(hw:∀ x∈l,x<2 ^ ww)(hk:k<=l.length):pk ww (l.take k)<2 ^ (k*ww):=by
 have:=zG (w:=ww) (l:=l.take k) (fun x hx=>hw x (ZA hx));rwa[YH,ZG hk,Zi]at this
theorem wK{w:World}{v:Value}{l:List Nat}(hs:Sx .u64 w v l)(ol:∀ x∈l,x<18446744073709551616)(x:Int) :
  Calls Tryz.prog 171 #[v,.int .i64 x] w fun e w'=>∃ v',e=.returned (.tuple #[v',.bool (can l x)])/\w'.ownsRow w.heap.size 5 1 v' (aY l x).length (az .u8 (aY l x))/\Below w.heap.size w w':=by
 have HW:=ae (qu hs ol);have HA:=ae (rz (l.length:Int) x);obtain⟨a,cap,rfl,hm,fT⟩:=hs;have uS:l.length<=9223372036854775807:=by unfold maxLen at hm;omega
 by_cases qa:0<=(l.length:Int)/\(l.length:Int)<=256/\0<=x/\x<=64
 ·rw[YT qa]at HA
  obtain⟨_,hl256,TL,Ky⟩:=qa;obtain⟨ww,rfl⟩:=jap TL;by_cases TH:wd l<=ww
  ·have pQ:can l (ww:Int)=true:=by
    unfold can;simp only[Zu,Ze];exact⟨by omega,by omega,by omega,TH⟩
   have dK:=rr.1 TH;have Ct:¬ ((wd l:Nat):Int) > (ww:Int):=(by omega);have hc:l.length*ww<=16384:=YG (Nat.mul_le_mul (show l.length<=256 by omega) (show ww<=64 by omega)) (by omega);have hmul:(l.length:Int)*(ww:Int)=((l.length*ww:Nat):Int):=by simp
   have HP:=ae (fun(bs:List Nat)=>Ho (bs:=bs) pQ);have qX:=ae (oT (l.length*ww) hc);have HL8:=ae (CW (l.length*ww));have hL:by8 (l.length*ww)<=2048:=by unfold by8;omega
   have HF:=ae dK;have HC:=ae fT;have Rl:=ae ol;have Ro:ww<=64:=(by omega);rw[pQ];clear fT ol dK pQ TH TL Ky hm;obtain⟨i0,hi,bN,hz1',bh⟩:=YW lF;generalize by8 (l.length*ww)=L at *;generalize hcc:l.length*ww=c at *;have HCC:=ae hcc;clear hcc;go_enter Tryz.func171,Tryz.ntmps171
   go_wp2_with fail;refine(HA.o _).mono ?_;rintro e w1 ⟨rfl,rfl⟩;go_wp2_with fail;refine HW.o.mono ?_;rintro e w2 ⟨rfl,rfl⟩;go_wp2_with fail;refine(qX.o _).mono ?_;rintro e w3 ⟨rfl,rfl⟩;go_wp2_with (first | (refine ZJ _ rfl _ _ 30 rfl w3.heap.size 5 i0 (.int .u8 0) 1 Tryz.underlying30 hi bN hz1' .i64 .i64 _ _ L rfl rfl ?m1 ?m2 ?m3 ?m4 ?m5 ?_))
   case m1=>rfl
   case m2=>rfl
   case m3=>rw[bh];omega
   case m4=>unfold maxLen;omega
   case m5=>omega
   intro w4 fC gH;have bm:Below w3.heap.size w3 w4:=(Yz _ _).grown gH (YA _) (fun k hk=>by cases hk)
   have ho4':w4.ownsRow w3.heap.size 5 1 (.slice (some ⟨w3.heap.size,0,none⟩) L L) L (az .u8 (List.replicate L 0)):=by
    rw[← iV];simpa using fC
   have fU:=ae ho4';have cA:=ae bm;clear fC gH bm ho4';go_wp2_with fail;go_loopw [28] (fun i wr=>∃ k:Nat,i=.int .i64 (k:Int)/\k<=l.length/\(∃ bs:List Nat,wr.ownsRow w3.heap.size 5 1 (.slice (some ⟨w3.heap.size,0,none⟩) L L) L (az .u8 bs)/\bs.length=L/\(∀ x∈bs,x<256)/\pk 8 bs=pk ww (l.take k))/\Below w3.heap.size w3 wr) (fun i _=>l.length-(intOf i).toNat)
   case atStart=>exact⟨0,rfl,by omega,⟨List.replicate L 0,fU.o,by simp,by simp,by rw[zH];rfl⟩,cA.o⟩
   case round =>
    obtain⟨k,rfl,hk,⟨bs,how,gV,lm,TG⟩,ao⟩:=hrel;have HB:=ae ao;by_cases ar:k<l.length
    ·obtain⟨b,off,rfl,hb,bn⟩:=HC.o (by omega)
     have ek:=(ao.cell (p:=⟨b,off+k,none⟩) hb).trans (bn k ar);have hkw:(k:Int)*(ww:Int)=((k*ww:Nat):Int):=by simp
     have UI:k*ww+ww<=8*L:=by
      have h1:(k+1)*ww<=l.length*ww:=Nat.mul_le_mul_right _ ar;rw[Zt,jad]at h1;rw[HCC.o]at h1;have:=HL8.o;omega
     have hPut:=Sg (w:=wr) (by rw[gV];exact how) lm (k*ww) ww l[k] Ro (HF.o _ (YF ar)) (Rl.o _ (YF ar)) (by rw[gV];exact UI) (by rw[TG];exact Mw HF.o hk) (by omega) (by omega);have htb:k*ww<=16384:=(by omega);rw[gV,TG,Zi k ww,← xU ww ar,Zi ww k]at hPut;have HPut:=ae hPut;clear bn how lm TG ao hPut UI;generalize l[k]=n at *;generalize k*ww=t0 at *;go_wp2_with fail;refine HPut.o.mono ?_;rintro e w5 ⟨rfl,⟨bs',eo,hl5,h85,hp5⟩,bv⟩;have cQ:=ae eo;have aJ:=ae (HB.o.trans bv);have HL5:=ae hl5;have HP5:=ae hp5;clear eo bv hl5 hp5;go_wp2_with fail;go_roundw
     case rel=>exact⟨k+1,by go_num,by omega,⟨bs',cQ.o,HL5.o,h85,HP5.o⟩,aJ.o⟩
     case measure=>simp[intOf];omega
    ·obtain rfl:k=l.length:=by omega
     rw[YK]at TG;have HE:=ae (HP.o bs lm gV TG)
     have HO:jaH (wr.ownsRow w3.heap.size 5 1 (.slice (some ⟨w3.heap.size,0,none⟩) L L) (aY l ww).length (az .u8 (aY l ww))):=by
      show World.ownsRow _ _ _ _ _ _ _
      rw[← HE.o,gV];exact how
     clear how gV lm TG ao HP HE;go_wp2_with fail;go_ret2
     exact⟨_,rfl,HO.o,HB.o⟩
  ·have pQ:can l (ww:Int)=false:=by
    unfold can;simp only[jat,Ze];rintro⟨_,_,_,h⟩;exact TH h
   have Ct:((wd l:Nat):Int) > (ww:Int):=(by omega);rw[pQ,Ab pQ];clear fT ol pQ TH TL Ky hm;go_enter Tryz.func171,Tryz.ntmps171
   go_wp2_with fail;refine(HA.o _).mono ?_;rintro e w1 ⟨rfl,rfl⟩;go_wp2_with fail;refine HW.o.mono ?_;rintro e w2 ⟨rfl,rfl⟩;go_wp2_with fail;go_ret2
   exact⟨_,rfl,lI _ _ _,Yz _ _⟩
 ·rw[YO qa]at HA
  have pQ:can l x=false:=by
   unfold can;simp only[jat];rintro⟨h1,h2,h3,_⟩;exact qa ⟨by omega,by omega,h1,h2⟩
  rw[pQ,Ab pQ];clear fT ol pQ qa hm HW;go_enter Tryz.func171,Tryz.ntmps171
  go_wp2_with fail;refine(HA.o _).mono ?_;rintro e w1 ⟨rfl,rfl⟩;go_wp2_with fail;go_ret2
  exact⟨_,rfl,lI _ _ _,Yz _ _⟩
theorem tM{b:List Nat}{n x:Int}(h:unE b n x≠0):unR b n x=[]:=by unfold unR;rw[Yx h]
theorem Sh{b:List Nat}{n x:Int}(h:¬ (0<=n/\n<=256/\0<=x/\x<=64)):unE b n x=1:=by unfold unE;rw[Yx h]
theorem Ac{b:List Nat}{N ww:Nat}(hN:N<=256)(hw:ww<=64)(h:¬ (b.length=by8 (N*ww)/\pk 8 b<2 ^ (N*ww))):unE b N ww=40:=by
 unfold unE;rw[Yy ⟨by omega,by omega,by omega,by omega⟩];simp only[Ze];rw[Yx h]
theorem VK{b:List Nat}{N ww:Nat}(hN:N<=256)(hw:ww<=64)(h:b.length=by8 (N*ww))(h2:pk 8 b<2 ^ (N*ww)):unE b N ww=0:=by
 unfold unE;rw[Yy ⟨by omega,by omega,by omega,by omega⟩];simp only[Ze];rw[Yy ⟨h,h2⟩]
theorem VL{b:List Nat}{N ww:Nat}(h:unE b N ww=0):unR b N ww=dig ww N (pk 8 b):=by
 unfold unR;rw[Yy h];rfl
theorem rB{w:World}{v:Value}{b:List Nat}(hs:Sx .u8 w v b)(h8:∀ x∈b,x<256)(n x:Int) :
  Calls Tryz.prog 294 #[v,.int .i64 n,.int .i64 x] w fun e w'=>∃ v',e=.returned (.tuple #[v',.int .i64 (unE b n x:Int)])/\w'.ownsRow w.heap.size 92 1 v' (unR b n x).length (az .u64 (unR b n x))/\Below w.heap.size w w':=by
 have HA:=ae (rz n x);by_cases qa:0<=n/\n<=256/\0<=x/\x<=64
 ·rw[YT qa]at HA
  obtain⟨mP,Qh,TL,Ky⟩:=qa;obtain⟨ww,rfl⟩:=jap TL;obtain⟨N,rfl⟩:=jap mP;have Ro:ww<=64:=by omega
  have hN:N<=256:=by omega
  have hc:N*ww<=16384:=YG (Nat.mul_le_mul hN Ro) (by omega);have hmul:(N:Int)*(ww:Int)=((N*ww:Nat):Int):=by simp
  have qX:=ae (oT (N*ww) hc);by_cases bg:b.length=by8 (N*ww)
  ·have mH:=ae (Hp hs h8 (N*ww) hc bg)
   have hleq:((b.length:Int) != ((by8 (N*ww):Nat):Int))=false:=by rw[bg];simp
   by_cases eQ:pk 8 b<2 ^ (N*ww)
   ·rw[YT eQ]at mH
    have HE:=ae (VK hN Ro bg eQ);rw[HE.o,VL HE.o,cX];have eO:=CW (N*ww);have qc:=ae (fun(W:World) (hW:Sx .u8 W v b) (t0:Nat) (h1:t0+ww<=8*b.length) (h2:t0<=16384)=>Mv hW h8 t0 ww Ro h1 h2)
    have co:jaH (∀ k,k<N->k*ww+ww<=8*b.length/\k*ww<=16384):=ae (fun k hk=>by
     have h1:(k+1)*ww<=N*ww:=Nat.mul_le_mul_right _ hk;rw[Zt,jad]at h1;rw[bg];omega)
    have HS:=ae hs;obtain⟨i0,hi,bN,hz1',bh⟩:=YW qk;obtain⟨a,cap,rfl,hm,fT⟩:=hs;have uS:b.length<=2048:=by rw[bg];unfold by8;omega
    clear fT h8 eQ bg TL Ky mP Qh hm eO;generalize by8 (N*ww)=L at *;generalize N*ww=c at *;obtain⟨D,hD⟩:∃ D,dig ww N (pk 8 b)=D:=⟨_,rfl⟩;have hDl:D.length=N:=by rw[← hD,cX]
    have HG:jaH (∀ k (h:k<N),D[k]?=some (pk 8 b / 2 ^ (k*ww) % 2 ^ ww)):=ae (fun k h=>by rw[← hD,xS ww N _ k h,Zi]);rw[hD];have ln:=ae hDl;clear hD hDl;go_enter Tryz.func294,Tryz.ntmps294
    go_wp2_with fail;refine(HA.o _).mono ?_;rintro e w1 ⟨rfl,rfl⟩;go_wp2_with fail;refine(qX.o _).mono ?_;rintro e w2 ⟨rfl,rfl⟩;go_wp2_with fail;refine mH.o.mono ?_;rintro e w3 ⟨rfl,rfl⟩;go_wp2_with (first | (refine ZJ _ rfl _ _ 142 rfl w3.heap.size 92 i0 (.int .u64 0) 1 Tryz.underlying142 hi bN hz1' .i64 .i64 _ _ N rfl rfl ?m1 ?m2 ?m3 ?m4 ?m5 ?_))
    case m1=>rfl
    case m2=>rfl
    case m3=>rw[bh];omega
    case m4=>unfold maxLen;omega
    case m5=>omega
    intro w4 fC gH;have bm:Below w3.heap.size w3 w4:=(Yz _ _).grown gH (YA _) (fun k hk=>by cases hk)
    have ho4':w4.ownsRow w3.heap.size 92 1 (.slice (some ⟨w3.heap.size,0,none⟩) N N) N (az .u64 (fill D 0)):=by
     rw[mv,ln.o,← iV];simpa using fC
    have fU:=ae ho4';have cA:=ae bm;clear fC gH bm ho4';go_wp2_with fail;go_loopw [33] (fun i wr=>∃ k:Nat,i=.int .i64 (k:Int)/\k<=N/\wr.ownsRow w3.heap.size 92 1 (.slice (some ⟨w3.heap.size,0,none⟩) N N) N (az .u64 (fill D k))/\Below w3.heap.size w3 wr) (fun i _=>N-(intOf i).toNat)
    case atStart=>exact⟨0,rfl,by omega,fU.o,cA.o⟩
    case round =>
     obtain⟨k,rfl,hk,how,ao⟩:=hrel;have HB:=ae ao;by_cases ar:k<N
     ·have hkD:k<D.length:=by rw[ln.o];exact ar
      have hval:D[k]=pk 8 b / 2 ^ (k*ww) % 2 ^ ww:=by
       have:=HG.o k ar;rw[List.getElem?_eq_getElem hkD]at this;exact Option.some.inj this
      have ja:k<(fill D k).length:=by rw[jT (by omega)];exact hkD
      have ek:=(how.cellAt k (by omega)).trans (bG ja);have kK:=how.frozenAt k;have hST:=how.stored k (.int .u64 ((D[k]:Nat):Int));rw[kp,oS hkD]at hST;have Qi:=ae hST;have hkw:(k:Int)*(ww:Int)=((k*ww:Nat):Int):=by simp
      have htb:=(co.o k ar).2;have hTake:=qc.o wr (HS.o.kept ao) (k*ww) (co.o k ar).1 htb;rw[← hval]at hTake;have HTake:=ae hTake;have Qf:=(how.lt w3.heap.size rfl).2;clear how ao hST hTake hval;generalize (fill D k)[k]=y at *;generalize D[k]=z at *;generalize k*ww=t0 at *;go_wp2_with fail;refine HTake.o.mono ?_;rintro e w5 ⟨rfl,rfl⟩;go_wp2_with fail;go_roundw
      case rel=>exact⟨k+1,by go_num,by omega,Qi.o.1,cH HB.o (YA _) _⟩
      case measure=>simp[intOf];omega
     ·obtain rfl:k=N:=by omega
      have HO:jaH (wr.ownsRow w3.heap.size 92 1 (.slice (some ⟨w3.heap.size,0,none⟩) k k) k (az .u64 D)):=by
       show World.ownsRow _ _ _ _ _ _ _
       have e:fill D k=D:=by
        have:=oR D;rwa[ln.o]at this
       rw[e]at how;exact how
      clear how ao;go_wp2_with fail;go_ret2
      exact⟨_,rfl,HO.o,HB.o⟩
   ·rw[YO eQ]at mH
    have hE:=Ac (b:=b) hN Ro (fun h=>eQ h.2);rw[hE,tM (by rw[hE];omega)];obtain⟨a,cap,rfl,hm,fT⟩:=hs;have uS:b.length<=2048:=by rw[bg];unfold by8;omega
    clear fT h8 eQ bg TL Ky mP Qh hm hE;generalize by8 (N*ww)=L at *;generalize N*ww=c at *;go_enter Tryz.func294,Tryz.ntmps294
    go_wp2_with fail;refine(HA.o _).mono ?_;rintro e w1 ⟨rfl,rfl⟩;go_wp2_with fail;refine(qX.o _).mono ?_;rintro e w2 ⟨rfl,rfl⟩;go_wp2_with fail;refine mH.o.mono ?_;rintro e w3 ⟨rfl,rfl⟩;go_wp2_with fail;go_ret2
    exact⟨_,rfl,lI _ _ _,Yz _ _⟩
  ·have hleq:((b.length:Int) != ((by8 (N*ww):Nat):Int))=true:=by
    rw[bne_iff_ne];intro h;exact bg (by omega)
   have hE:=Ac (b:=b) hN Ro (fun h=>bg h.1);rw[hE,tM (by rw[hE];omega)];obtain⟨a,cap,rfl,hm,fT⟩:=hs;have uS:b.length<=9223372036854775807:=by unfold maxLen at hm;omega
   clear fT h8 bg TL Ky mP Qh hm hE;generalize by8 (N*ww)=L at *;generalize N*ww=c at *;go_enter Tryz.func294,Tryz.ntmps294
   go_wp2_with fail;refine(HA.o _).mono ?_;rintro e w1 ⟨rfl,rfl⟩;go_wp2_with fail;refine(qX.o _).mono ?_;rintro e w2 ⟨rfl,rfl⟩;go_wp2_with fail;go_ret2
   exact⟨_,rfl,lI _ _ _,Yz _ _⟩
 ·rw[YO qa]at HA
  have hE:=Sh (b:=b) qa;rw[hE,tM (by rw[hE];omega)];obtain⟨a,cap,rfl,hm,fT⟩:=hs;clear fT h8 qa hm hE;go_enter Tryz.func294,Tryz.ntmps294
  go_wp2_with fail;refine(HA.o _).mono ?_;rintro e w1 ⟨rfl,rfl⟩;go_wp2_with fail;go_ret2
  exact⟨_,rfl,lI _ _ _,Yz _ _⟩
theorem FS(x:Int)(h0:-9223372036854775808<=x)(h1:x<=9223372036854775807):bits .xor .i64 (-1) x=-x-1:=by
 by_cases h:x<0
 ·show IntKind.i64.wrap ((BitVec.ofInt 64 (-1) ^^^ BitVec.ofInt 64 x).toNat:Int)=_
  have e1:(BitVec.ofInt 64 (-1)).toNat=2 ^ 64-1:=by decide
  have e2:(BitVec.ofInt 64 x).toNat=(x+18446744073709551616).toNat:=by
   rw[BitVec.toNat_ofInt];omega
  rw[BitVec.toNat_xor,e1,e2,xor_ones64 _ (by omega),Zy];omega
 ·obtain⟨n,rfl⟩:=jap (a:=x) (by omega)
  exact i64_not n (by omega)
theorem VM{z:Int}(h0:-9223372036854775808<=z)(h:z<0):bits .or .u64 (IntKind.u64.wrap (IntKind.u64.wrap (-z-1)*2)) 1=((zigzag z:Nat):Int):=by
 have e:IntKind.u64.wrap (IntKind.u64.wrap (-z-1)*2)=(-z-1)*2:=by rw[Zr,Zr];omega
 rw[e,bits_join .u64 64 (by decide) wraps_u64 1 _ _ (by omega) (by omega) (by omega) (by omega) (by omega) (by omega)];unfold zigzag;rw[Yx (by omega)];omega
theorem Dm(z:Int)(h0:-9223372036854775808<=z)(h1:z<=9223372036854775807)(w:World) :
  Calls Tryz.prog 174 #[.int .i64 z] w fun e w'=>(∃ v,e=.returned v/\w'.ownsRow w.heap.size 5 1 v (uvarint (zigzag z)).length (aU (uvarint (zigzag z))))/\Below w.heap.size w w':=by
 have HP:=ae (zF (zigzag z) (zigzag_lt h0 h1));by_cases h:z<0
 ·have hx:=FS z h0 h1
  have HE:=ae (VM h0 h);go_enter Tryz.func174,Tryz.ntmps174
  go_wp2_with fail;rw[HE.o];refine(HP.o _).mono ?_;rintro e w2 ⟨⟨v,rfl,aw⟩,hb⟩;have HO:=ae aw;clear aw;go_wp2_with fail;go_ret
  exact⟨⟨_,rfl,HO.o⟩,hb⟩
 ·have HE:=ae (zigzag_nonneg (x:=z) (by omega))
  go_enter Tryz.func174,Tryz.ntmps174
  go_wp2_with fail;rw[← HE.o];refine(HP.o _).mono ?_;rintro e w2 ⟨⟨v,rfl,aw⟩,hb⟩;have HO:=ae aw;clear aw;go_wp2_with fail;go_ret
  exact⟨⟨_,rfl,HO.o⟩,hb⟩
theorem Dn{w:World}{v:Value}{l:List UInt8}(h:Sl w v l):Calls Tryz.prog 324 #[v] w fun e w'=>e=jG .i64 (eC (ey l).1) (ey l).2.1 (ey l).2.2/\w'=w:=by
 have HG:=ae (FG h);obtain⟨f1,f2,f3,f4⟩:=wu l;clear h;generalize ey l=x at *;obtain⟨n,u,c⟩:=x;simp only at *;unfold jG at *;clear f2;go_enter Tryz.func324,Tryz.ntmps324
 go_wp2_with fail;refine HG.o.mono ?_;rintro e w1 ⟨rfl,rfl⟩;by_cases h0:c=0
 ·subst h0
  clear f4;have HU:jaH (∀ m:Int,m=eC n->m=eC n):=fun m h=>h
  have ha:=u64_and1 (n:Int) (by omega) (by omega);by_cases hp:n % 2=0
  ·have hb:((n:Int) % 2==1)=false:=by simp;omega
   go_wp2_with fail;go_ret3
   unfold eC;rw[Yy hp];exact⟨rfl,rfl⟩
  ·have hb:((n:Int) % 2==1)=true:=by simp;omega
   have hx:=FS ((n:Int) / 2) (by omega) (by omega);go_wp2_with fail;go_ret3
   unfold eC;rw[Yx hp];exact⟨rfl,rfl⟩
 ·have fb:((c:Int) != 0)=true:=LR (by omega) h0
  obtain⟨rfl,rfl⟩:n=0/\u=0:=by omega
  go_wp2_with fail;go_ret3
  exact⟨rfl,rfl⟩
end Go.Proofs.YtpljdjmpamjkhaaGreatDoor
