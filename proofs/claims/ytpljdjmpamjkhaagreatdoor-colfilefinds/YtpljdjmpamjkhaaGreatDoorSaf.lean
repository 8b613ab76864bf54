import Derived.Test.YtpljdjmpamjkhaaGreatDoorSae
import Derived.Test.YtpljdjmpamjkhaaGreatDoorSad
import Derived.Shelf.Bits.Mul64
import Derived.Shelf.SlicesG.Turned
import Derived.Shelf.SlicesG.Clone
import Derived.Shelf.SlicesG.CompactI
import Derived.Shelf.SlicesG.CompactS
import Derived.Shelf.SlicesG.SearchI
import Derived.Shelf.SortM.Plain
import Derived.Shelf.Spec.SearchS
import Derived.Shelf.SortM.SortNone
import Derived.Lib.OwnBridge
set_option linter.all false
set_option maxRecDepth 100000
set_option maxHeartbeats 4000000
namespace Go.Proofs.YtpljdjmpamjkhaaGreatDoor
open Tryz
def Ja(t:Nat):2 ^ t=2 ^ (t % 8)*2 ^ (8*(t / 8)):=by
 rw[<- jfD];congr 1
 omega
def Te{bs:List Nat}{t:Nat}(h:∀ x∈bs,x<256)(ht:pk 8 bs<2 ^ t)(hj:t / 8<bs.length):bs[t / 8]<2 ^ (t % 8):=by
 rw[SA (w:=8) h hj];refine jgq (Nat.mod_le _ _) ?_;rw[Nat.div_lt_iff_lt_mul (jfv _),<- Ja];exact ht
def ta{r:Nat}(h:r<8):2 ^ r*2 ^ (8-r)=256:=by
 rw[<- jfD,show r+(8-r)=8 by omega]
def jb2{x n r:Nat}(hr:r<8)(hx:x<2 ^ r):x+n % 2 ^ (8-r)*2 ^ r<256:=by
 have h1:=Nat.mod_lt n (jfv (8-r));have h2:(n % 2 ^ (8-r)+1)*2 ^ r<=2 ^ (8-r)*2 ^ r:=jgf _ h1;rw[je6 (2 ^ (8-r)),ta hr,jfd,jfT]at h2;omega
def jb3{bs:List Nat}{t:Nat}(hj:t / 8<bs.length)(c:Nat):pk 8 (bs.set (t / 8) (bs[t / 8]+c*2 ^ (t % 8)))=pk 8 bs+c*2 ^ t:=by
 have h:=Sz 8 (bs[t / 8]+c*2 ^ (t % 8)) hj;rw[jfd,jfR,<- Ja]at h;omega
def jb4{bs:List Nat}{j c:Nat}(h:∀ x∈bs,x<256)(hc:c<256):∀ x∈bs.set j c,x<256:=by
 intro x hx;rcases List.mem_or_eq_of_mem_set hx with hx | rfl
 ·exact h x hx
 ·exact hc
def Yr(V n t s:Nat):V+n % 2 ^ s*2 ^ t+n / 2 ^ s*2 ^ (t+s)=V+n*2 ^ t:=by
 have h:=Nat.mod_add_div n (2 ^ s);have h2:=jeG (·*2 ^ t) h;simp only[jfd]at h2;rw[jfD,je6 (2 ^ t),<- jfR,je6 (n / 2 ^ s)];omega
def NL{V n t s:Nat}(h:V<2 ^ t):V+n % 2 ^ s*2 ^ t<2 ^ (t+s):=by
 have h1:=Nat.mod_lt n (jfv s);have h2:(n % 2 ^ s+1)*2 ^ t<=2 ^ s*2 ^ t:=jgf _ h1;rw[jfD,je6 (2 ^ t)];rw[jfd,jfT]at h2;omega
def Tf{n w s:Nat}(h:n<2 ^ w):n / 2 ^ s<2 ^ (w-s):=by
 rw[Nat.div_lt_iff_lt_mul (jfv _),<- jfD];exact jeY h (jf1 (by omega) (by omega))
def zR{bs:List Nat}{t:Nat}(h:∀ x∈bs,x<256)(hj:t / 8<bs.length):bs[t / 8] / 2 ^ (t % 8)=pk 8 bs / 2 ^ t % 2 ^ (8-t % 8):=by
 rw[SA (w:=8) h hj,show (2:Nat) ^ 8=2 ^ (t % 8)*2 ^ (8-t % 8) from (ta (by omega)).symm,Nat.mod_mul_right_div_self,Nat.div_div_eq_div_mul,
  je6 (2 ^ (8*(t / 8))),<- Ja]
def Tg(D t a s:Nat):D / 2 ^ t % 2 ^ a+D / 2 ^ (t+a) % 2 ^ s*2 ^ a=D / 2 ^ t % 2 ^ (a+s):=by
 rw[jfD 2 a s,Nat.mod_mul,Nat.div_div_eq_div_mul,<- jfD,je6 (2 ^ a)]
def Jb{bs:List Nat}{c:Nat}(h:∀ x∈bs,x<256)(hl:bs.length=by8 c)(h0:c % 8=0):pk 8 bs<2 ^ c:=by
 have:=DB (w:=8) h;rw[hl]at this;rwa[show 8*by8 c=c by unfold by8;omega]at this
def Jc{bs:List Nat}{c:Nat}(h:∀ x∈bs,x<256)(hl:bs.length=by8 c)(h0:c % 8≠0)(hj:bs.length-1<bs.length) :
  bs[bs.length-1] / 2 ^ (c % 8)=0↔pk 8 bs<2 ^ c:=by
 have ar:=DB (w:=8) h;have e:bs.length-1=c / 8:=by rw[hl];unfold by8;omega
 have hc:c / 8<bs.length:=by omega
 have e2:bs[bs.length-1]=bs[c / 8]:=by simp only[e]
 rw[e2,zR h hc,jfA]
 ·rw[Nat.div_eq_zero_iff]
  have:=jfv c;omega
 ·rw[Nat.div_lt_iff_lt_mul (jfv _),<- jfD,show 8-c % 8+c=8*bs.length by rw[hl];unfold by8;omega]
  exact ar
def fill(l:List Nat)(i:Nat):List Nat:=l.take i++List.replicate (l.length-i) 0
def ot(l:List Nat):fill l 0=List.replicate l.length 0:=by simp[fill]
def qS(l:List Nat):fill l l.length=l:=by simp[fill]
def lh{l:List Nat}{i:Nat}(h:i<=l.length):(fill l i).length=l.length:=by simp[fill];omega
def qT{l:List Nat}{i:Nat}(h:i<l.length):(fill l i).set i l[i]=fill l (i+1):=by
 unfold fill
 rw[List.set_append_right _ _ (by simp;omega),jeH,jfp (by omega),jf4,show l.length-i=(l.length-(i+1))+1 by omega,
  List.replicate_succ,jf6,jeO h,jeQ]
 rfl
def NM{l bs:List Nat}{w:Nat}(hc:can l w=true)(hb:∀ x∈bs,x<256)(hl:bs.length=by8 (l.length*w))(h:pk 8 bs=pk w l):bs=bi l w:=by
 unfold bi;rw[jey hc,je3,<- h,<- hl];exact(Bl hb).symm
open Go.RowKit Go.Lib
def jb5{a b:Nat}(ha:a<18446744073709551616)(hb:b<18446744073709551616):bits .or .u64 (a:Int) (b:Int)=((a ||| b:Nat):Int):=by
 show IntKind.u64.wrap ((BitVec.ofInt 64 (a:Int) ||| BitVec.ofInt 64 (b:Int)).toNat:Int)=_
 have e1:(BitVec.ofInt 64 (a:Int)).toNat=a:=by rw[BitVec.toNat_ofInt];omega
 have e2:(BitVec.ofInt 64 (b:Int)).toNat=b:=by rw[BitVec.toNat_ofInt];omega
 have h:=Nat.or_lt_two_pow (x:=a) (y:=b) (n:=64) ha hb;rw[BitVec.toNat_or,e1,e2,jfm];omega
def tc{w:World}{v:Value}{l:List Nat}(hs:Sx .u64 w v l)(qr:∀ x∈l,x<18446744073709551616) :
  Calls prog 202 #[v] w λe w'=>e=.returned (.int .i64 (wd l:Int))/\w'=w:=by
 obtain⟨a,cap,rfl,hm,hc⟩:=hs;have vH:l.length<=9223372036854775807:=by unfold maxLen at hm;omega
 have HC:=ae hc;have Xx:=ae qr;clear hc hm qr;go_enter func202,ntmps202
 go_wp2_with fail;go_loopw [3,9] (λal i w'=>w'=w/\∃ k:Nat,k<=l.length/\i=.int .i64 (k:Int)/\al=.int .u64 (qJ (l.take k):Int)) (λ_ i _=>l.length-(intOf i).toNat)
 case atStart=>exact⟨rfl,0,by omega,rfl,rfl⟩
 case round =>
  obtain⟨rfl,k,hk,rfl,rfl⟩:=hrel;by_cases ar:k<l.length
  ·obtain⟨b,off,rfl,hb,bC⟩:=HC.o (by omega)
   have eP:=bC k ar;have hx:=or64 Xx.o k;have hor:=jb5 hx (Xx.o l[k] (jeD ar));have HT:=ae (mM ar);clear bC hx;generalize l[k]=x at *;generalize qJ (l.take k)=y at *;go_wp2_with fail;go_roundw
   case rel=>exact⟨trivial,k+1,by omega,by go_num,by rw[HT.o]⟩
   case measure=>simp[intOf];omega
  ·obtain rfl:k=l.length:=by omega
   rw[jeJ];have hx:=or64 Xx.o l.length;rw[jeJ]at hx;have hw:=SC Xx.o;have HW:jgt (wd l=cY (qJ l)):=rfl;clear HC Xx;generalize qJ l=y at *;go_wp2_with fail;go_loopw [3,6] (λal i w'=>w'=wr/\∃ n k:Nat,al=.int .u64 (n:Int)/\i=.int .i64 (k:Int)/\n<=y/\k+cY n=wd l) (λal _ _=>(intOf al).toNat)
   case atStart=>exact⟨rfl,y,0,rfl,rfl,jeA _,by rw[HW.o,jeU]⟩
   case round =>
    obtain⟨rfl,n,k,rfl,rfl,hn,iV⟩:=hrel;by_cases h0:((n:Int)==0)=true
    ·have h0':n=0:=by simpa using h0
     subst h0';have HK:jgt (k=wd l):=by show k=wd l;simpa [cY]using iV
     clear iV HW;go_wp2_with fail;go_ret
     rw[<- HK.o];exact⟨rfl,rfl⟩
    ·have h0f:((n:Int)==0)=false:=by simpa using h0
     have mY:n≠0:=by simpa using h0
     have hbh:=Np mY;have HB:=ae iV;have HBH:=ae hbh;have uS:k<=64:=(by omega);clear h0 iV hbh;go_wp2_with fail;go_roundw
     case rel=>exact⟨trivial,n / 2,k+1,by go_num,by go_num,by omega,by have:=HB.o;have:=HBH.o;omega⟩
     case measure=>simp[intOf];omega
def ug(n w:Int)(W:World):Calls prog 201 #[.int .i64 n,.int .i64 w] W λe w'=>e=.returned (.bool (decide (0<=n/\n<=256/\0<=w/\w<=64)))/\w'=W:=by
 by_cases h1:n>=0
 ·by_cases h2:n<=256
  ·by_cases h3:w>=0
   ·by_cases h4:w<=64
    ·rw[jeP (by omega)]
     go_enter func201,ntmps201
     go_wp2_with fail;go_ret
     exact⟨rfl,rfl⟩
    ·rw[jeM (by omega)]
     go_enter func201,ntmps201
     go_wp2_with fail;go_ret
     exact⟨rfl,rfl⟩
   ·rw[jeM (by omega)]
    go_enter func201,ntmps201
    go_wp2_with fail;go_ret
    exact⟨rfl,rfl⟩
  ·rw[jeM (by omega)]
   go_enter func201,ntmps201
   go_wp2_with fail;go_ret
   exact⟨rfl,rfl⟩
 ·rw[jeM (by omega)]
  go_enter func201,ntmps201
  go_wp2_with fail;go_ret
  exact⟨rfl,rfl⟩
def qU(c:Nat)(hc:c<=16384)(W:World):Calls prog 203 #[.int .i64 (c:Int)] W λe w'=>e=.returned (.int .i64 (by8 c:Int))/\w'=W:=by
 have HE:jgt (((by8 c:Nat):Int)=((c:Int)+8-1) / 8):=by show _=_;unfold by8;omega
 go_enter func203,ntmps203
 go_wp2_with fail;go_ret
 rw[HE.o];exact⟨rfl,rfl⟩
def DZ{x u:Nat}:(((x:Int) / 2 ^ u)==0)=decide (x / 2 ^ u=0):=by
 have h2:((x / 2 ^ u:Nat):Int)=(x:Int) / 2 ^ u:=by simp
 rw[<- h2];rw[jfK];simp only[beq_iff_eq,jfb];exact Int.natCast_eq_zero
def NO{w:World}{v:Value}{bs:List Nat}(hs:Sx .u8 w v bs)(h8:∀ x∈bs,x<256)(c:Nat)(hc:c<=16384)(hl:bs.length=by8 c) :
  Calls prog 303 #[v,.int .i64 (c:Int)] w λe w'=>e=.returned (.bool (decide (pk 8 bs<2 ^ c)))/\w'=w:=by
 obtain⟨a,cap,rfl,hm,gV⟩:=hs;by_cases h0:c % 8=0
 ·have h0b:((c:Int) % 8==0)=true:=by simp;omega
  have HE:=ae (jeP (Jb h8 hl h0));clear gV h8 hl hm h0;go_enter func303,ntmps303
  go_wp2_with fail;go_ret
  rw[HE.o];exact⟨rfl,rfl⟩
 ·have h0b:((c:Int) % 8==0)=false:=by simp;omega
  have Wm:0<bs.length:=by rw[hl];unfold by8;omega
  have oT:bs.length<=2048:=by rw[hl];unfold by8;omega
  obtain⟨b,off,rfl,hb,bC⟩:=gV Wm;have eP:=bC (bs.length-1) (by omega);have HX:=ae (Jc h8 hl h0 (by omega));have hx:=h8 _ (jeD (h:=(by omega:bs.length-1<bs.length)));have hsub:(bs.length:Int)-1=((bs.length-1:Nat):Int):=by omega
  have ar:bs.length-1<bs.length:=by omega
  obtain⟨u,hu⟩:∃ u,c % 8=u:=⟨_,rfl⟩;have hui:(c:Int) % 8=(u:Int):=by omega
  have hu8:u<8:=by omega
  rw[hui]at h0b;rw[hu]at HX;generalize bs[bs.length-1]=x at *;clear bC gV h8 hl hm h0 hu;have HF:=ae (DZ (x:=x) (u:=u));generalize bs.length-1=n at *;generalize bs.length=L at *;go_enter func303,ntmps303
  go_wp2_with fail;go_ret
  refine⟨?_,rfl⟩;rw[<- decide_eq_decide.2 HX.o,<- HF.o];rfl
def Ys{D t0 t k s y n:Nat}(hn:D / 2 ^ t0 % 2 ^ k % 18446744073709551616=n)(hy:y=D / 2 ^ t % 2 ^ s)(ht:t=t0+k)(hk:k<64)(hs:s<=8) :
  bits .or .u64 (n:Int) (IntKind.u64.wrap ((y:Int)*2 ^ k))=((D / 2 ^ t0 % 2 ^ (k+s) % 18446744073709551616:Nat):Int):=by
 have qr:(18446744073709551616:Nat)=2 ^ k*2 ^ (64-k):=by rw[<- jfD,show k+(64-k)=64 by omega]
 have mX:2 ^ k<=18446744073709551616:=by rw[qr];exact Nat.le_mul_of_pos_right _ (jfv _)
 have hm:=Nat.mod_lt (D / 2 ^ t0) (jfv k);rw[jfA (jeY hm mX)]at hn;rw[hn]at hm;have oU:=Tg D t0 k s;rw[<- ht,hn,<- hy]at oU;rw[<- oU];have e:(y:Int)*2 ^ k=((y*2 ^ k:Nat):Int):=by simp
 have hdvd:y*2 ^ k % 18446744073709551616 % 2 ^ k=0:=by
  rw[qr,Nat.mod_mul_right_mod,Nat.mul_mod_left]
 have ar:y*2 ^ k % 18446744073709551616<2 ^ k*2 ^ (64-k):=by rw[<- qr];omega
 have hw:IntKind.u64.wrap (((y*2 ^ k:Nat)):Int)=((y*2 ^ k % 18446744073709551616:Nat):Int):=by rw[jfm];omega
 have hmod:(n+y*2 ^ k) % 18446744073709551616=(n+y*2 ^ k % 18446744073709551616) % 18446744073709551616:=by omega
 rw[e,hw,hmod];generalize y*2 ^ k % 18446744073709551616=z at *;have hz:=Nat.div_add_mod z (2 ^ k);rw[hdvd,jfk]at hz;rw[<- hz]at ar;have hq:=Nat.lt_of_mul_lt_mul_left ar;have nc:2 ^ k*(z / 2 ^ k+1)<=2 ^ k*2 ^ (64-k):=jfJ _ hq;rw[<- qr,jfI,Nat.mul_one,hz]at nc;rw[jfA (by omega)];have hj:=bits_join_low .u64 64 (by decide) wraps_u64 k (n:Int) (z:Int) (by omega) (by exact_mod_cast hm) (by omega) (by omega) (by exact_mod_cast hdvd) (by omega);rw[hj];omega
def Yt{ww:Nat}(h:ww<=64):IntKind.u64.wrap (IntKind.u64.wrap (2 ^ ww)-1)=((2 ^ ww-1:Nat):Int):=by
 have e:(2:Int) ^ ww=((2 ^ ww:Nat):Int):=by simp
 have hp:=jfv ww;rcases je0 ww 64 with h1 | h1
 ·have:2 ^ ww<2 ^ 64:=Nat.pow_lt_pow_right (by omega) h1
  rw[e,jfm,jfm];omega
 ·obtain rfl:ww=64:=by omega
  decide
def NP{D t0 k n ww:Nat}(hn:D / 2 ^ t0 % 2 ^ k % 18446744073709551616=n)(qr:ww<=64)(hk:ww<=k) :
  bits .and .u64 (n:Int) (IntKind.u64.wrap (IntKind.u64.wrap (2 ^ ww)-1))=((D / 2 ^ t0 % 2 ^ ww:Nat):Int):=by
 rw[Yt qr];have hp:=jfv ww;have oT:2 ^ ww<=2 ^ 64:=jf1 (by omega) qr;rw[(bits_nat .u64 64 (by decide) wraps_u64 n (2 ^ ww-1) (by omega) (by omega)).1,Nat.and_two_pow_sub_one_eq_mod,<- hn];rw[Nat.mod_mod_of_dvd _ (show 2 ^ ww ∣ 18446744073709551616 from Nat.pow_dvd_pow (n:=64) 2 qr),Nat.mod_mod_of_dvd _ (Nat.pow_dvd_pow 2 hk)]
def Th{w:World}{v:Value}{bs:List Nat}(hs:Sx .u8 w v bs)(h8:∀ x∈bs,x<256)(t0 ww:Nat)(hw:ww<=64)(ht:t0+ww<=8*bs.length)(ht0:t0<=16384) :
  Calls prog 304 #[v,.int .i64 (t0:Int),.int .i64 (ww:Int)] w λe w'=>e=.returned (.int .u64 ((pk 8 bs / 2 ^ t0 % 2 ^ ww:Nat):Int))/\w'=w:=by
 obtain⟨a,cap,rfl,hm,gV⟩:=hs;have vH:bs.length<=9223372036854775807:=by unfold maxLen at hm;omega
 have HC:=ae gV;have H8:=ae h8;clear gV h8 hm;go_enter func304,ntmps304
 go_wp2_with fail;go_loopw [1,7,8] (λat_ n have_ w'=>w'=w/\∃ k t:Nat,k<=ww+7/\t=t0+k/\at_=.int .i64 (t:Int)/\have_=.int .i64 (k:Int)/\n=.int .u64 ((pk 8 bs / 2 ^ t0 % 2 ^ k % 18446744073709551616:Nat):Int)) (λ_ _ i _=>ww-(intOf i).toNat)
 case atStart=>exact⟨rfl,0,t0,by omega,rfl,rfl,rfl,by simp[Nat.mod_one]⟩
 case round =>
  obtain⟨rfl,k,t,hk,Wn,rfl,rfl,rfl⟩:=hrel;by_cases ar:k<ww
  ·obtain⟨b,off,rfl,hb,bC⟩:=HC.o (by omega)
   have ZX:t / 8<bs.length:=(by omega);have eP:=bC (t / 8) ZX;have HF:=ae (zR H8.o ZX);have hx:=H8.o _ (jeD ZX);have pr:=ae Wn;have ht1:t<=20000:=(by omega);generalize bs[t / 8]=x at *;obtain⟨j,hj⟩:∃ j,t / 8=j:=⟨_,rfl⟩;obtain⟨r,hr⟩:∃ r,t % 8=r:=⟨_,rfl⟩;obtain⟨s,Gh⟩:∃ s,8-r=s:=⟨_,rfl⟩;obtain⟨y,hy⟩:∃ y,x / 2 ^ r=y:=⟨_,rfl⟩;obtain⟨n,hn⟩:∃ n,pk 8 bs / 2 ^ t0 % 2 ^ k % 18446744073709551616=n:=⟨_,rfl⟩;rw[hr,hy,Gh]at HF;rw[hj]at eP ZX;have hji:(t:Int) / 8=(j:Int):=(by omega);have Gi:(t:Int) % 8=(r:Int):=(by omega);have hsi:(8:Int)-(r:Int)=(s:Int):=(by omega);have hr8:r<8:=(by omega);have hs8:s<=8:=(by omega);have dr:1<=s:=(by omega);have Wp:(x:Int) / 2 ^ r=(y:Int):=by rw[<- hy];simp
   have Gj:y<256:=by rw[<- hy];exact jgq (Nat.div_le_self _ _) hx
   rw[hn];have HN:=ae hn;have hor:=Ys HN.o HF.o pr.o (by omega) (by omega);have HK:jgt (k+s<=ww+7):=ae (by omega);have GM:k<=64:=(by omega);clear bC hn hy hr hj Gh Wn;go_wp2_with fail;go_roundw
   case rel=>exact⟨trivial,k+s,t+s,HK.o,by have:=pr.o;omega,by go_num,by go_num,rfl⟩
   case measure=>simp[intOf];omega
  ·have pr:=ae Wn
   clear Wn HC;generalize hn:pk 8 bs / 2 ^ t0 % 2 ^ k % 18446744073709551616=n;have HN:=ae hn;have hnl:n<18446744073709551616:=by rw[<- hn];exact Nat.mod_lt _ (by omega)
   clear hn;go_wp2_with fail;go_ret
   rw[<- NP HN.o hw (by omega)];exact⟨rfl,rfl⟩
def NQ{w:World}{B e n:Nat}{v:Value}{xs:List Value}(h:w.ownsRow B e 1 v n xs)(hp:0<n):∃ g cap,v=.slice (some ⟨g,0,none⟩) n cap/\B<=g/\g<w.heap.size:=by
 obtain⟨hl,h1⟩:=id h;rcases h1 with ⟨rfl,rfl⟩ | ⟨g,cap,cur,rfl,hb,hg,h4⟩
 ·omega
 ·exact⟨g,cap,rfl,hb,(Array.getElem?_eq_some_iff.1 hg).1⟩
def BD{w:World}{B e n:Nat}{v:Value}{xs:List Value}(h:w.ownsRow B e 1 v n xs):∃ a cap,v=.slice a n cap:=by
 obtain⟨hl,h1⟩:=id h;rcases h1 with ⟨rfl,rfl⟩ | ⟨g,cap,cur,rfl,hb,hg,h4⟩
 ·exact⟨none,0,rfl⟩
 ·exact⟨_,cap,rfl⟩
def cP{B:Nat}{a w:World}(h:Below B a w){g j:Nat}(hg:B<=g)(u:Value):Below B a (w.setCell ⟨g,j,none⟩ u):=h.setCell hg u
def jb6{x m r z:Nat}(hr:r<8)(hx:x<2 ^ r)(hz:IntKind.u64.wrap ((m:Int)*2 ^ r)=(z:Int)) :
  bits .or .u8 (x:Int) ((z:Int) % 256)=((x+m % 2 ^ (8-r)*2 ^ r:Nat):Int):=by
 have e:(m:Int)*2 ^ r=((m*2 ^ r:Nat):Int):=by simp
 rw[e,jfm]at hz;have aX:(z:Int) % 256=((m*2 ^ r % 256:Nat):Int):=by omega
 have h256:(256:Nat)=2 ^ (8-r)*2 ^ r:=by rw[je6,ta hr]
 have hm:m*2 ^ r % 256=m % 2 ^ (8-r)*2 ^ r:=by rw[h256,Nat.mul_mod_mul_right]
 have hl:m*2 ^ r % 256<256:=Nat.mod_lt _ (by omega);have qt:2 ^ r<=256:=by rw[h256];exact Nat.le_mul_of_pos_left _ (jfv _)
 have hd:m % 2 ^ (8-r)*2 ^ r % 2 ^ r=0:=Nat.mul_mod_left _ _;rw[hm]at hl aX;rw[aX];generalize m % 2 ^ (8-r)*2 ^ r=q at *;have hj:=bits_join_low .u8 8 (by decide) wraps_u8 r (x:Int) (q:Int) (by omega) (by exact_mod_cast hx) (by omega) (by omega) (by exact_mod_cast hd) (by omega);rw[hj];omega
def Yu{B:Nat}{w:World}{v:Value}{bs:List Nat}(ax:w.ownsRow B 5 1 v bs.length (aA .u8 bs))(h8:∀ x∈bs,x<256)(t0 ww n:Nat)(hw:ww<=64)(hn:n<2 ^ ww)
  (hn64:n<18446744073709551616) (ht:t0+ww<=8*bs.length) (hV:pk 8 bs<2 ^ t0) (ht0:t0<=16384) (jcL:bs.length<=2048) :
  Calls prog 204 #[v,.int .i64 (t0:Int),.int .i64 (ww:Int),.int .u64 (n:Int)] w λe w'=>e=.returned (.tuple #[]) /\
   (∃ bs',w'.ownsRow B 5 1 v bs.length (aA .u8 bs')/\bs'.length=bs.length/\(∀ x∈bs',x<256)/\pk 8 bs'=pk 8 bs+n*2 ^ t0)/\Below B w w':=by
 obtain⟨T,hT⟩:∃ T,pk 8 bs+n*2 ^ t0=T:=⟨_,rfl⟩;rw[hT];obtain⟨E,hE⟩:∃ E,t0+ww=E:=⟨_,rfl⟩;have hEi:(t0:Int)+(ww:Int)=(E:Int):=by omega
 have HS:jgt (∃ bs':List Nat,w.ownsRow B 5 1 v bs.length (aA .u8 bs')/\bs'.length=bs.length/\(∀ x∈bs',x<256)/\pk 8 bs'<2 ^ t0/\pk 8 bs'+n*2 ^ t0=T) :=
  ae ⟨bs,ax,rfl,h8,hV,hT⟩
 have HN:jgt (n<2 ^ (E-t0)):=ae (by rw[<- hE,Nat.add_sub_cancel_left];exact hn);rw[hE]at ht;have hE0:E<=t0+64:=by omega
 have hE1:t0<=E:=by omega
 clear ax h8 hV hT hn hE;generalize bs.length=L at *;go_enter func204,ntmps204
 go_wp2_with fail
 go_loopw [1,3] (λat_ mm wr=>∃ t m:Nat,at_=.int .i64 (t:Int)/\mm=.int .u64 (m:Int)/\t<=E+7/\m<18446744073709551616/\m<2 ^ (E-t) /\
   (∃ bs':List Nat,wr.ownsRow B 5 1 v L (aA .u8 bs')/\bs'.length=L/\(∀ x∈bs',x<256)/\pk 8 bs'<2 ^ t/\pk 8 bs'+m*2 ^ t=T)/\Below B w wr) (λa _ _=>E-(intOf a).toNat)
 case atStart=>exact⟨t0,n,rfl,rfl,by omega,hn64,HN.o,HS.o,jez _ _⟩
 case round =>
  obtain⟨t,m,rfl,rfl,htE,hm64,hmE,⟨cs,how,gV,h8,hV,oU⟩,ao⟩:=hrel;have HB:=ae ao;by_cases ar:t<E
  ·have ZX:t / 8<cs.length:=by omega
   obtain⟨g,cap,rfl,hBg,RD⟩:=NQ how (by omega);have eP:=(how.cellAt (t / 8) (by omega)).trans (bN ZX);have dA:=how.frozenAt (t / 8);have Xy:=Te h8 hV ZX;have hx8:=h8 _ (jeD ZX);have HLT:=ae (jb2 (n:=m) (by omega:t % 8<8) Xy);have HPK:=ae (jb3 ZX (m % 2 ^ (8-t % 8)));have cF:=ae (how.stored (t / 8) (.int .u8 ((cs[t / 8]+m % 2 ^ (8-t % 8)*2 ^ (t % 8):Nat):Int)));rw[lH]at cF;have H8:=ae (jb4 (j:=t / 8) h8 HLT.o);have HBL:=ae (NL (n:=m) (s:=8-t % 8) hV);have Gk:=ae (Yr (pk 8 cs) m t (8-t % 8));have ZY:=ae (Tf (s:=8-t % 8) hmE);have HSU:=ae oU;have RE:jgt ((cs.set (t / 8) (cs[t / 8]+m % 2 ^ (8-t % 8)*2 ^ (t % 8))).length=L):=ae (by rw[jf7];exact gV)
   obtain⟨z,hz⟩:∃ z:Nat,IntKind.u64.wrap ((m:Int)*2 ^ (t % 8))=(z:Int):=by
    refine⟨(IntKind.u64.wrap ((m:Int)*2 ^ (t % 8))).toNat,?_⟩;rw[jfm];omega
   have hor:=jb6 (by omega) Xy hz
   have hz64:z<18446744073709551616:=by
    rw[jfm]at hz;omega
   generalize CZ:cs.set (t / 8) (cs[t / 8]+m % 2 ^ (8-t % 8)*2 ^ (t % 8))=cs2 at *;generalize cs[t / 8]+m % 2 ^ (8-t % 8)*2 ^ (t % 8)=c at *;generalize cs[t / 8]=x at *;clear how ao h8 hV oU CZ Xy;have hji:(t:Int) / 8=((t / 8:Nat):Int):=(by omega);have Gi:(t:Int) % 8=((t % 8:Nat):Int):=(by omega);have hsi:(8:Int)-((t % 8:Nat):Int)=((8-t % 8:Nat):Int):=(by omega);have hr8:t % 8<8:=(by omega);have hs8:8-t % 8<=8:=(by omega);have dr:1<=8-t % 8:=(by omega);have hjL:t / 8<L:=(by omega);have HTT:jgt (t+(8-t % 8)<=E+7):=ae (by omega);have HEE:jgt (E-(t+(8-t % 8))=E-t-(8-t % 8)):=ae (by omega);have hmd:(m:Int) / 2 ^ (8-t % 8)=((m / 2 ^ (8-t % 8):Nat):Int):=by simp
   have hml:m / 2 ^ (8-t % 8)<=m:=Nat.div_le_self _ _;have hc8:=HLT.o;generalize 8-t % 8=s at *;generalize t % 8=r at *;generalize t / 8=j at *;clear hmE;generalize m / 2 ^ s=q at *;go_wp2_with fail;go_region
   all_goals
    go_wp2_with fail;go_roundw
    case rel =>
     refine⟨t+s,q,by go_num,by go_num,HTT.o,by omega,?_,⟨cs2,cF.o.1.drew,RE.o,H8.o,?_,?_⟩,(cP HB.o hBg _).drew⟩
     ·rw[HEE.o];exact ZY.o
     ·rw[HPK.o];exact HBL.o
     ·rw[HPK.o,Gk.o];exact HSU.o
    case measure=>simp[intOf];omega
  ·have hm0:m=0:=by
    rw[show E-t=0 by omega]at hmE;omega
   subst hm0;have HO:jgt (∃ bs':List Nat,wr.ownsRow B 5 1 v L (aA .u8 bs')/\bs'.length=L/\(∀ x∈bs',x<256)/\pk 8 bs'=T):=ae ⟨cs,how,gV,h8,by simpa using oU⟩;clear how gV h8 hV oU ao hmE;go_wp2_with fail;go_end0
   exact⟨rfl,HO.o,HB.o⟩
def kf(k:IntKind)(n:Nat):(madeCells #[Value.int k 0] n).toList=aA k (List.replicate n 0):=by
 rw[jfZ];simp[aA]
def Ea{l:List Nat}{x:Int}(h:can l x=false):bi l x=[]:=by unfold bi;rw[h];rfl
def nB(w:World)(B e:Nat):w.ownsRow B e 1 (.slice none 0 0) 0 []:=jfh _ _ _ _
def Ti{l:List Nat}{ww k:Nat}(hw:∀ x∈l,x<2 ^ ww)(hk:k<=l.length):pk ww (l.take k)<2 ^ (k*ww):=by
 have:=DB (w:=ww) (l:=l.take k) (λx hx=>hw x (jfn hx));rwa[jeH,jfp hk,je6]at this
def zS{w:World}{v:Value}{l:List Nat}(hs:Sx .u64 w v l)(qr:∀ x∈l,x<18446744073709551616)(x:Int) :
  Calls prog 171 #[v,.int .i64 x] w λe w'=>∃ v',e=.returned (.tuple #[v',.bool (can l x)])/\w'.ownsRow w.heap.size 5 1 v' (bi l x).length (aA .u8 (bi l x))/\jgu w w':=by
 have HW:=ae (tc hs qr);have HA:=ae (ug (l.length:Int) x);obtain⟨a,cap,rfl,hm,gV⟩:=hs;have vH:l.length<=9223372036854775807:=by unfold maxLen at hm;omega
 by_cases rZ:0<=(l.length:Int)/\(l.length:Int)<=256/\0<=x/\x<=64
 ·rw[jeP rZ]at HA
  obtain⟨_,hl256,ZZ,QO⟩:=rZ;obtain⟨ww,rfl⟩:=jf8 ZZ;by_cases ZU:wd l<=ww
  ·have rY:can l (ww:Int)=true:=by
    unfold can;simp only[jfb,je3];exact⟨by omega,by omega,by omega,ZU⟩
   have dh:=tZ.1 ZU;have Gl:¬ ((wd l:Nat):Int) > (ww:Int):=(by omega);have hc:l.length*ww<=16384:=jeK (Nat.mul_le_mul (show l.length<=256 by omega) (show ww<=64 by omega)) (by omega);have hmul:(l.length:Int)*(ww:Int)=((l.length*ww:Nat):Int):=by simp
   have HP:=ae (λ(bs:List Nat)=>NM (bs:=bs) rY);have nW:=ae (qU (l.length*ww) hc);have HL8:=ae (Hn (l.length*ww));have hL:by8 (l.length*ww)<=2048:=by unfold by8;omega
   have HF:=ae dh;have HC:=ae gV;have Xx:=ae qr;have Xz:ww<=64:=(by omega);rw[rY];clear gV qr dh rY ZU ZZ QO hm;obtain⟨i0,hi,bR,hz1',aX⟩:=jeT nl;generalize by8 (l.length*ww)=L at *;generalize hcc:l.length*ww=c at *;have HCC:=ae hcc;clear hcc;go_enter func171,ntmps171
   go_wp2_with fail;refine(HA.o _).mono ?_;rintro e w1 ⟨rfl,rfl⟩;go_wp2_with fail;refine HW.o.mono ?_;rintro e w2 ⟨rfl,rfl⟩;go_wp2_with fail;refine(nW.o _).mono ?_;rintro e w3 ⟨rfl,rfl⟩;go_wp2_with (first | (refine jft _ rfl _ _ 30 rfl w3.heap.size 5 i0 (.int .u8 0) 1 underlying30 hi bR hz1' .i64 .i64 _ _ L rfl rfl ?m1 ?m2 ?m3 ?m4 ?m5 ?_))
   case m1=>rfl
   case m2=>rfl
   case m3=>rw[aX];omega
   case m4=>unfold maxLen;omega
   case m5=>omega
   intro w4 gz iE;have bD:jgu w3 w4:=(jez _ _).grown iE (jeA _) (λk hk=>by cases hk)
   have ho4':w4.ownsRow w3.heap.size 5 1 (.slice (some ⟨w3.heap.size,0,none⟩) L L) L (aA .u8 (List.replicate L 0)):=by
    rw[<- kf];simpa using gz
   have gT:=ae ho4';have cL:=ae bD;clear gz iE bD ho4';go_wp2_with fail;go_loopw [28] (λi wr=>∃ k:Nat,i=.int .i64 (k:Int)/\k<=l.length/\(∃ bs:List Nat,wr.ownsRow w3.heap.size 5 1 (.slice (some ⟨w3.heap.size,0,none⟩) L L) L (aA .u8 bs)/\bs.length=L/\(∀ x∈bs,x<256)/\pk 8 bs=pk ww (l.take k))/\jgu w3 wr) (λi _=>l.length-(intOf i).toNat)
   case atStart=>exact⟨0,rfl,by omega,⟨List.replicate L 0,gT.o,by simp,by simp,by rw[DC];rfl⟩,cL.o⟩
   case round =>
    obtain⟨k,rfl,hk,⟨bs,how,iV,kO,ZT⟩,ao⟩:=hrel;have HB:=ae ao;by_cases ar:k<l.length
    ·obtain⟨b,off,rfl,hb,bC⟩:=HC.o (by omega)
     have eP:=(ao.cell (p:=⟨b,off+k,none⟩) hb).trans (bC k ar);have hkw:(k:Int)*(ww:Int)=((k*ww:Nat):Int):=by simp
     have ja8:k*ww+ww<=8*L:=by
      have h1:(k+1)*ww<=l.length*ww:=jgf _ ar;rw[jfd,jfT]at h1;rw[HCC.o]at h1;have:=HL8.o;omega
     have hPut:=Yu (w:=wr) (by rw[iV];exact how) kO (k*ww) ww l[k] Xz (HF.o _ (jeD ar)) (Xx.o _ (jeD ar)) (by rw[iV];exact ja8) (by rw[ZT];exact Ti HF.o hk) (by omega) (by omega);have htb:k*ww<=16384:=(by omega);rw[iV,ZT,je6 k ww,<- Bp ww ar,je6 ww k]at hPut;have HPut:=ae hPut;clear bC how kO ZT ao hPut ja8;generalize l[k]=n at *;generalize k*ww=t0 at *;go_wp2_with fail;refine HPut.o.mono ?_;rintro e w5 ⟨rfl,⟨bs',eQ,hl5,h85,hp5⟩,bQ⟩;have dK:=ae eQ;have bq:=ae (HB.o.trans bQ);have HL5:=ae hl5;have HP5:=ae hp5;clear eQ bQ hl5 hp5;go_wp2_with fail;go_roundw
     case rel=>exact⟨k+1,by go_num,by omega,⟨bs',dK.o,HL5.o,h85,HP5.o⟩,bq.o⟩
     case measure=>simp[intOf];omega
    ·obtain rfl:k=l.length:=by omega
     rw[jeJ]at ZT;have HE:=ae (HP.o bs kO iV ZT)
     have HO:jgt (wr.ownsRow w3.heap.size 5 1 (.slice (some ⟨w3.heap.size,0,none⟩) L L) (bi l ww).length (aA .u8 (bi l ww))):=by
      show World.ownsRow _ _ _ _ _ _ _
      rw[<- HE.o,iV];exact how
     clear how iV kO ZT ao HP HE;go_wp2_with fail;go_ret2
     exact⟨_,rfl,HO.o,HB.o⟩
  ·have rY:can l (ww:Int)=false:=by
    unfold can;simp only[jfU,je3];rintro⟨_,_,_,h⟩;exact ZU h
   have Gl:((wd l:Nat):Int) > (ww:Int):=(by omega);rw[rY,Ea rY];clear gV qr rY ZU ZZ QO hm;go_enter func171,ntmps171
   go_wp2_with fail;refine(HA.o _).mono ?_;rintro e w1 ⟨rfl,rfl⟩;go_wp2_with fail;refine HW.o.mono ?_;rintro e w2 ⟨rfl,rfl⟩;go_wp2_with fail;go_ret2
   exact⟨_,rfl,nB _ _ _,jez _ _⟩
 ·rw[jeM rZ]at HA
  have rY:can l x=false:=by
   unfold can;simp only[jfU];rintro⟨h1,h2,h3,_⟩;exact rZ ⟨by omega,by omega,h1,h2⟩
  rw[rY,Ea rY];clear gV qr rY rZ hm HW;go_enter func171,ntmps171
  go_wp2_with fail;refine(HA.o _).mono ?_;rintro e w1 ⟨rfl,rfl⟩;go_wp2_with fail;go_ret2
  exact⟨_,rfl,nB _ _ _,jez _ _⟩
def wT{b:List Nat}{n x:Int}(h:unE b n x≠0):unR b n x=[]:=by unfold unR;rw[jex h]
def Yv{b:List Nat}{n x:Int}(h:¬ (0<=n/\n<=256/\0<=x/\x<=64)):unE b n x=1:=by unfold unE;rw[jex h]
def Eb{b:List Nat}{N ww:Nat}(hN:N<=256)(hw:ww<=64)(h:¬ (b.length=by8 (N*ww)/\pk 8 b<2 ^ (N*ww))):unE b N ww=40:=by
 unfold unE;rw[jey ⟨by omega,by omega,by omega,by omega⟩];simp only[je3];rw[jex h]
def jb7{b:List Nat}{N ww:Nat}(hN:N<=256)(hw:ww<=64)(h:b.length=by8 (N*ww))(h2:pk 8 b<2 ^ (N*ww)):unE b N ww=0:=by
 unfold unE;rw[jey ⟨by omega,by omega,by omega,by omega⟩];simp only[je3];rw[jey ⟨h,h2⟩]
def jb8{b:List Nat}{N ww:Nat}(h:unE b N ww=0):unR b N ww=dig ww N (pk 8 b):=by
 unfold unR;rw[jey h];rfl
def uh{w:World}{v:Value}{b:List Nat}(hs:Sx .u8 w v b)(h8:∀ x∈b,x<256)(n x:Int) :
  Calls prog 294 #[v,.int .i64 n,.int .i64 x] w λe w'=>∃ v',e=.returned (.tuple #[v',.int .i64 (unE b n x:Int)])/\w'.ownsRow w.heap.size 92 1 v' (unR b n x).length (aA .u64 (unR b n x))/\jgu w w':=by
 have HA:=ae (ug n x);by_cases rZ:0<=n/\n<=256/\0<=x/\x<=64
 ·rw[jeP rZ]at HA
  obtain⟨mY,Wv,ZZ,QO⟩:=rZ;obtain⟨ww,rfl⟩:=jf8 ZZ;obtain⟨N,rfl⟩:=jf8 mY;have Xz:ww<=64:=by omega
  have hN:N<=256:=by omega
  have hc:N*ww<=16384:=jeK (Nat.mul_le_mul hN Xz) (by omega);have hmul:(N:Int)*(ww:Int)=((N*ww:Nat):Int):=by simp
  have nW:=ae (qU (N*ww) hc);by_cases bH:b.length=by8 (N*ww)
  ·have mH:=ae (NO hs h8 (N*ww) hc bH)
   have hleq:((b.length:Int) != ((by8 (N*ww):Nat):Int))=false:=by rw[bH];simp
   by_cases fP:pk 8 b<2 ^ (N*ww)
   ·rw[jeP fP]at mH
    have HE:=ae (jb7 hN Xz bH fP);rw[HE.o,jb8 HE.o,dj];have ed:=Hn (N*ww);have pr:=ae (λ(W:World) (hW:Sx .u8 W v b) (t0:Nat) (h1:t0+ww<=8*b.length) (h2:t0<=16384)=>Th hW h8 t0 ww Xz h1 h2)
    have cF:jgt (∀ k,k<N->k*ww+ww<=8*b.length/\k*ww<=16384):=ae (λk hk=>by
     have h1:(k+1)*ww<=N*ww:=jgf _ hk;rw[jfd,jfT]at h1;rw[bH];omega)
    have HS:=ae hs;obtain⟨i0,hi,bR,hz1',aX⟩:=jeT sQ;obtain⟨a,cap,rfl,hm,gV⟩:=hs;have vH:b.length<=2048:=by rw[bH];unfold by8;omega
    clear gV h8 fP bH ZZ QO mY Wv hm ed;generalize by8 (N*ww)=L at *;generalize N*ww=c at *;obtain⟨D,hD⟩:∃ D,dig ww N (pk 8 b)=D:=⟨_,rfl⟩;have hDl:D.length=N:=by rw[<- hD,dj]
    have HG:jgt (∀ k (h:k<N),D[k]?=some (pk 8 b / 2 ^ (k*ww) % 2 ^ ww)):=ae (λk h=>by rw[<- hD,Bm ww N _ k h,je6]);rw[hD];have mI:=ae hDl;clear hD hDl;go_enter func294,ntmps294
    go_wp2_with fail;refine(HA.o _).mono ?_;rintro e w1 ⟨rfl,rfl⟩;go_wp2_with fail;refine(nW.o _).mono ?_;rintro e w2 ⟨rfl,rfl⟩;go_wp2_with fail;refine mH.o.mono ?_;rintro e w3 ⟨rfl,rfl⟩;go_wp2_with (first | (refine jft _ rfl _ _ 142 rfl w3.heap.size 92 i0 (.int .u64 0) 1 underlying142 hi bR hz1' .i64 .i64 _ _ N rfl rfl ?m1 ?m2 ?m3 ?m4 ?m5 ?_))
    case m1=>rfl
    case m2=>rfl
    case m3=>rw[aX];omega
    case m4=>unfold maxLen;omega
    case m5=>omega
    intro w4 gz iE;have bD:jgu w3 w4:=(jez _ _).grown iE (jeA _) (λk hk=>by cases hk)
    have ho4':w4.ownsRow w3.heap.size 92 1 (.slice (some ⟨w3.heap.size,0,none⟩) N N) N (aA .u64 (fill D 0)):=by
     rw[ot,mI.o,<- kf];simpa using gz
    have gT:=ae ho4';have cL:=ae bD;clear gz iE bD ho4';go_wp2_with fail;go_loopw [33] (λi wr=>∃ k:Nat,i=.int .i64 (k:Int)/\k<=N/\wr.ownsRow w3.heap.size 92 1 (.slice (some ⟨w3.heap.size,0,none⟩) N N) N (aA .u64 (fill D k))/\jgu w3 wr) (λi _=>N-(intOf i).toNat)
    case atStart=>exact⟨0,rfl,by omega,gT.o,cL.o⟩
    case round =>
     obtain⟨k,rfl,hk,how,ao⟩:=hrel;have HB:=ae ao;by_cases ar:k<N
     ·have hkD:k<D.length:=by rw[mI.o];exact ar
      have hval:D[k]=pk 8 b / 2 ^ (k*ww) % 2 ^ ww:=by
       have:=HG.o k ar;rw[List.getElem?_eq_getElem hkD]at this;exact Option.some.inj this
      have eI:k<(fill D k).length:=by rw[lh (by omega)];exact hkD
      have eP:=(how.cellAt k (by omega)).trans (bN eI);have dA:=how.frozenAt k;have hST:=how.stored k (.int .u64 ((D[k]:Nat):Int));rw[lH,qT hkD]at hST;have Ww:=ae hST;have hkw:(k:Int)*(ww:Int)=((k*ww:Nat):Int):=by simp
      have htb:=(cF.o k ar).2;have hTake:=pr.o wr (HS.o.kept ao) (k*ww) (cF.o k ar).1 htb;rw[<- hval]at hTake;have HTake:=ae hTake;have RD:=(how.lt w3.heap.size rfl).2;clear how ao hST hTake hval;generalize (fill D k)[k]=y at *;generalize D[k]=z at *;generalize k*ww=t0 at *;go_wp2_with fail;refine HTake.o.mono ?_;rintro e w5 ⟨rfl,rfl⟩;go_wp2_with fail;go_roundw
      case rel=>exact⟨k+1,by go_num,by omega,Ww.o.1,cP HB.o (jeA _) _⟩
      case measure=>simp[intOf];omega
     ·obtain rfl:k=N:=by omega
      have HO:jgt (wr.ownsRow w3.heap.size 92 1 (.slice (some ⟨w3.heap.size,0,none⟩) k k) k (aA .u64 D)):=by
       show World.ownsRow _ _ _ _ _ _ _
       have e:fill D k=D:=by
        have:=qS D;rwa[mI.o]at this
       rw[e]at how;exact how
      clear how ao;go_wp2_with fail;go_ret2
      exact⟨_,rfl,HO.o,HB.o⟩
   ·rw[jeM fP]at mH
    have hE:=Eb (b:=b) hN Xz (λh=>fP h.2);rw[hE,wT (by rw[hE];omega)];obtain⟨a,cap,rfl,hm,gV⟩:=hs;have vH:b.length<=2048:=by rw[bH];unfold by8;omega
    clear gV h8 fP bH ZZ QO mY Wv hm hE;generalize by8 (N*ww)=L at *;generalize N*ww=c at *;go_enter func294,ntmps294
    go_wp2_with fail;refine(HA.o _).mono ?_;rintro e w1 ⟨rfl,rfl⟩;go_wp2_with fail;refine(nW.o _).mono ?_;rintro e w2 ⟨rfl,rfl⟩;go_wp2_with fail;refine mH.o.mono ?_;rintro e w3 ⟨rfl,rfl⟩;go_wp2_with fail;go_ret2
    exact⟨_,rfl,nB _ _ _,jez _ _⟩
  ·have hleq:((b.length:Int) != ((by8 (N*ww):Nat):Int))=true:=by
    rw[bne_iff_ne];intro h;exact bH (by omega)
   have hE:=Eb (b:=b) hN Xz (λh=>bH h.1);rw[hE,wT (by rw[hE];omega)];obtain⟨a,cap,rfl,hm,gV⟩:=hs;have vH:b.length<=9223372036854775807:=by unfold maxLen at hm;omega
   clear gV h8 bH ZZ QO mY Wv hm hE;generalize by8 (N*ww)=L at *;generalize N*ww=c at *;go_enter func294,ntmps294
   go_wp2_with fail;refine(HA.o _).mono ?_;rintro e w1 ⟨rfl,rfl⟩;go_wp2_with fail;refine(nW.o _).mono ?_;rintro e w2 ⟨rfl,rfl⟩;go_wp2_with fail;go_ret2
   exact⟨_,rfl,nB _ _ _,jez _ _⟩
 ·rw[jeM rZ]at HA
  have hE:=Yv (b:=b) rZ;rw[hE,wT (by rw[hE];omega)];obtain⟨a,cap,rfl,hm,gV⟩:=hs;clear gV h8 rZ hm hE;go_enter func294,ntmps294
  go_wp2_with fail;refine(HA.o _).mono ?_;rintro e w1 ⟨rfl,rfl⟩;go_wp2_with fail;go_ret2
  exact⟨_,rfl,nB _ _ _,jez _ _⟩
def LY(x:Int)(h0:-9223372036854775808<=x)(h1:x<=9223372036854775807):bits .xor .i64 (-1) x=-x-1:=by
 by_cases h:x<0
 ·show IntKind.i64.wrap ((BitVec.ofInt 64 (-1) ^^^ BitVec.ofInt 64 x).toNat:Int)=_
  have e1:(BitVec.ofInt 64 (-1)).toNat=2 ^ 64-1:=by decide
  have e2:(BitVec.ofInt 64 x).toNat=(x+18446744073709551616).toNat:=by
   rw[BitVec.toNat_ofInt];omega
  rw[BitVec.toNat_xor,e1,e2,xor_ones64 _ (by omega),jfq];omega
 ·obtain⟨n,rfl⟩:=jf8 (a:=x) (by omega)
  exact i64_not n (by omega)
def jb9{z:Int}(h0:-9223372036854775808<=z)(h:z<0):bits .or .u64 (IntKind.u64.wrap (IntKind.u64.wrap (-z-1)*2)) 1=((zigzag z:Nat):Int):=by
 have e:IntKind.u64.wrap (IntKind.u64.wrap (-z-1)*2)=(-z-1)*2:=by rw[jfm,jfm];omega
 rw[e,bits_join .u64 64 (by decide) wraps_u64 1 _ _ (by omega) (by omega) (by omega) (by omega) (by omega) (by omega)];unfold zigzag;rw[jex (by omega)];omega
def Jd(z:Int)(h0:-9223372036854775808<=z)(h1:z<=9223372036854775807)(w:World) :
  Calls prog 174 #[.int .i64 z] w λe w'=>(∃ v,e=.returned v/\w'.ownsRow w.heap.size 5 1 v (uvarint (zigzag z)).length (bh (uvarint (zigzag z))))/\jgu w w':=by
 have HP:=ae (DA (zigzag z) (zigzag_lt h0 h1));by_cases h:z<0
 ·have hx:=LY z h0 h1
  have HE:=ae (jb9 h0 h);go_enter func174,ntmps174
  go_wp2_with fail;rw[HE.o];refine(HP.o _).mono ?_;rintro e w2 ⟨⟨v,rfl,ax⟩,hb⟩;have HO:=ae ax;clear ax;go_wp2_with fail;go_ret
  exact⟨⟨_,rfl,HO.o⟩,hb⟩
 ·have HE:=ae (zigzag_nonneg (x:=z) (by omega))
  go_enter func174,ntmps174
  go_wp2_with fail;rw[<- HE.o];refine(HP.o _).mono ?_;rintro e w2 ⟨⟨v,rfl,ax⟩,hb⟩;have HO:=ae ax;clear ax;go_wp2_with fail;go_ret
  exact⟨⟨_,rfl,HO.o⟩,hb⟩
def Je{w:World}{v:Value}{l:List UInt8}(h:Sl w v l):Calls prog 324 #[v] w λe w'=>e=kQ .i64 (fB (ff l).1) (ff l).2.1 (ff l).2.2/\w'=w:=by
 have HG:=ae (LM h);obtain⟨f1,f2,f3,f4⟩:=zE l;clear h;generalize ff l=x at *;obtain⟨n,u,c⟩:=x;simp only at *;unfold kQ at *;clear f2;go_enter func324,ntmps324
 go_wp2_with fail;refine HG.o.mono ?_;rintro e w1 ⟨rfl,rfl⟩;by_cases h0:c=0
 ·subst h0
  clear f4;have HU:jgt (∀ m:Int,m=fB n->m=fB n):=λm h=>h
  have ha:=u64_and1 (n:Int) (by omega) (by omega);by_cases hp:n % 2=0
  ·have hb:((n:Int) % 2==1)=false:=by simp;omega
   go_wp2_with fail;go_ret3
   unfold fB;rw[jey hp];exact⟨rfl,rfl⟩
  ·have hb:((n:Int) % 2==1)=true:=by simp;omega
   have hx:=LY ((n:Int) / 2) (by omega) (by omega);go_wp2_with fail;go_ret3
   unfold fB;rw[jex hp];exact⟨rfl,rfl⟩
 ·have dC:((c:Int) != 0)=true:=Sw (by omega) h0
  obtain⟨rfl,rfl⟩:n=0/\u=0:=by omega
  go_wp2_with fail;go_ret3
  exact⟨rfl,rfl⟩
def aO(l:List Int):List Value:=l.map λz=>Value.int .i64 z
def BE(a b:List Int):aO (a++b)=aO a++aO b:=jeR
def bV(a:List Int):(aO a).length=a.length:=jeE _
def ov{l:List Int}{j:Nat}(h:j<l.length):(aO l)[j]?=some (.int .i64 l[j]):=by simp[aO,h]
def zT(l:List Int)(j:Nat)(c:Int):(aO l).set j (.int .i64 c)=aO (l.set j c):=by simp[aO,List.map_set]
def eS(W:World)(B:Nat)(v:Value)(bs:List Nat):Prop:=W.ownsRow B 92 1 v bs.length (aA .u64 bs)
def co(W:World)(B:Nat)(v:Value)(l:List Int):Prop:=W.ownsRow B 2 1 v l.length (aO l)
def eS.nil(W:World)(B:Nat):eS W B (.slice none 0 0) []:=jfh _ _ _ _
def co.nil(W:World)(B:Nat):co W B (.slice none 0 0) []:=jfh _ _ _ _
def eS.kept{w w':World}{B:Nat}{v:Value}{bs:List Nat}(h:eS w B v bs)(hb:jgu w w'):eS w' B v bs:=bv h hb
def co.kept{w w':World}{B:Nat}{v:Value}{bs:List Int}(h:co w B v bs)(hb:jgu w w'):co w' B v bs:=bv h hb
def eS.sv{W:World}{B:Nat}{v:Value}{bs:List Nat}(h:eS W B v bs):Sv W v (aA .u64 bs):=Sv.of_own h
def co.sv{W:World}{B:Nat}{v:Value}{l:List Int}(h:co W B v l):Sv W v (aO l):=Sv.of_own h
def gP{z:Int}(hz:I64 z)(w:World):Calls prog 174 #[.int .i64 z] w (ee w (wv z)):=by
 refine(Jd z hz.1 hz.2 w).mono ?_;rintro e w' ⟨⟨v,rfl,h⟩,hb⟩;exact⟨⟨v,rfl,by unfold aM;rw[wv,LN,pB];exact h⟩,hb⟩
def Ec(a b:List Int):hO (a++b)=hO a++hO b:=by
 induction a with
 | nil=>rfl
 | cons x t ih=>rw[je5,hO,ih,hO,jeQ]
def NR{l:List Int}{k:Nat}(h:k<l.length):hO (l.take (k+1))=hO (l.take k)++wv l[k]:=by
 rw[jeO h,Ec];simp[hO]
def Is.take{l:List Int}(h:Is l)(k:Nat):Is (l.take k):=λx hx=>h x (jfn hx)
def Is.get{l:List Int}(h:Is l){k:Nat}(hk:k<l.length):I64 l[k]:=h _ (jeD hk)
def Sv.at{W:World}{a:Option Addr}{n cap:Nat}{l:List Int}(h:Sv W (.slice a n cap) (aO l)){k:Nat}(hk:k<l.length) :
  ∃ b off,a=some ⟨b,off,none⟩/\b<W.heap.size/\W.cell? ⟨b,off+k,none⟩=some (.int .i64 l[k]):=by
 obtain⟨a',c,h1,h2,h3,h4,h5⟩:=h;simp only[Value.slice.injEq]at h1;obtain⟨rfl,_,rfl⟩:=h1;obtain⟨b,off,h6,h7,h8⟩:=h5 (by rw[bV];omega);exact⟨b,off,h6,h7,h8 k _ (ov hk)⟩
def Sv.form{W:World}{v:Value}{l:List Int}(h:Sv W v (aO l)):∃ a cap,v=.slice a l.length cap/\l.length<=cap/\cap<=maxLen:=by
 obtain⟨a,cap,rfl,h1,h2,_⟩:=h;rw[bV]at *;exact⟨a,cap,rfl,h1,h2⟩
def ui{w:World}{v:Value}{l:List Int}(hs:Sv w v (aO l))(hl:l.length<=256)(hi:Is l) :
  Calls prog 226 #[v] w (ee w (hO l)):=by
 have HI:=ae hi;have HS:=ae hs;obtain⟨a,cap,rfl,bg,bx⟩:=hs.form;clear hs hi bg bx;go_enter func226,ntmps226
 go_wp2_with fail;go_loopw [3,8] (λb i wr=>∃ k:Nat,k<=l.length/\i=.int .i64 (k:Int)/\aM wr w.heap.size b (hO (l.take k))/\jgu w wr) (λ_ i _=>l.length-(intOf i).toNat)
 case atStart=>exact⟨0,by omega,rfl,aM.nil _ _,jez _ _⟩
 case round =>
  obtain⟨k,hk,rfl,ax,ao⟩:=hrel;have HO:=ae ax;have HB:=ae ao;have bF:=ao.size;clear ax ao;by_cases ar:k<l.length
  ·obtain⟨b,off,rfl,hb,eP⟩:=(HS.o.kept HB.o).at ar
   have HX:=ae (HI.o.get ar);have HT:=ae (NR ar);have lA:=(oh (HI.o.take k)).1;rw[jeH]at lA;have hten:=iJ (HI.o.get ar);generalize l[k]=x at *;generalize hO (l.take k)=acc at *;go_wp2_with fail;refine(gP HX.o _).mono ?_;rintro e w2 ⟨⟨v2,rfl,gj⟩,ap⟩;have eb:=ae gj;have HOk:=ae (HO.o.kept ap);have aG:=ae (HB.o.trans (ap.mono bF));have aX:=ap.size;clear gj ap;go_wp2_with (first | (at_builtin;refine aC rfl _ _ rfl w.heap.size _ _ acc (wv x) rfl HOk.o rfl eb.o.sv ?c1 ?c2 ?_))
   case c1=>omega
   case c2=>omega
   intro v3 w3 o3 b3;have dL:=ae o3;have aY:=ae (aG.o.trans b3);clear o3 b3;go_wp2_with fail;go_roundw
   case rel=>exact⟨k+1,by omega,by go_num,by rw[HT.o];exact dL.o,aY.o⟩
   case measure=>simp[intOf];omega
  ·obtain rfl:k=l.length:=by omega
   rw[jeJ]at HO;go_wp2_with fail;go_ret
   exact⟨⟨_,rfl,HO.o⟩,HB.o⟩
open Go.Shelf
def Ed:Go.Shelf.Ren:=⟨fun | 212=>295 | 263=>305 | 264=>306 | n=>n,fun | 46=>40 | 51=>22 | 146=>327 | 53=>92 | 148=>329 | n=>n,fun | n=>n⟩
def Yw:Go.Proofs.Lays.n212 prog Ed:={
 mixed:=by kernel_rfl
 f212:=func295.trans (jeG some (by kernel_rfl))
 f263:=func305.trans (jeG some (by kernel_rfl))
 f264:=func306.trans (jeG some (by kernel_rfl))
 t46:=underlying40
 a46:=isAgg40
 z46:=sizeOf40
 v46:=zeroValue40
 t51:=underlying22
 a51:=isAgg22
 z51:=sizeOf22
 v51:=zeroValue22
 t53:=underlying92
 a53:=isAgg92
 z53:=sizeOf92
 v53:=zeroValue92
 t146:=underlying327
 a146:=isAgg327
 z146:=sizeOf327
 v146:=zeroValue327
 t148:=underlying329
 a148:=isAgg329
 z148:=sizeOf329
 v148:=zeroValue329 }
def pJ:Go.Shelf.Ren:=⟨fun | 39=>248 | n=>n,fun | 22=>143 | 23=>2 | 3=>3 | 4=>4 | 9=>9 | 20=>20 | 0=>0 | n=>n,fun | n=>n⟩
def wU:Go.Proofs.SlLaysN.n39 prog pJ:={
 mixed:=by kernel_rfl
 f39:=⟨f248.name,by decide,func248.trans (jeG some (by kernel_rfl))⟩
 t0:=underlying0
 a0:=isAgg0
 z0:=sizeOf0
 v0:=zeroValue0
 t3:=underlying3
 a3:=isAgg3
 z3:=sizeOf3
 v3:=zeroValue3
 t4:=underlying4
 a4:=isAgg4
 z4:=sizeOf4
 v4:=zeroValue4
 t9:=underlying9
 a9:=isAgg9
 z9:=sizeOf9
 v9:=zeroValue9
 t20:=underlying20
 a20:=isAgg20
 z20:=sizeOf20
 v20:=zeroValue20
 t22:=underlying143
 a22:=isAgg143
 z22:=sizeOf143
 v22:=zeroValue143
 t23:=underlying2
 a23:=isAgg2
 z23:=sizeOf2
 v23:=zeroValue2 }
def pK:Go.Shelf.Ren:=⟨fun | 41=>241 | n=>n,fun | 22=>143 | 23=>2 | 4=>4 | n=>n,fun | n=>n⟩
def kt:Go.Proofs.SlLaysN.n41 prog pK:={
 mixed:=by kernel_rfl
 f41:=⟨f241.name,by decide,func241.trans (jeG some (by kernel_rfl))⟩
 t4:=underlying4
 a4:=isAgg4
 z4:=sizeOf4
 v4:=zeroValue4
 t22:=underlying143
 a22:=isAgg143
 z22:=sizeOf143
 v22:=zeroValue143
 t23:=underlying2
 a23:=isAgg2
 z23:=sizeOf2
 v23:=zeroValue2
 i23:=by kernel_rfl }
def qV:Go.Shelf.Ren:=⟨fun | 42=>207 | n=>n,fun | 25=>144 | 26=>9 | 4=>4 | n=>n,fun | n=>n⟩
def lv:Go.Proofs.SlLaysN.n42 prog qV:={
 mixed:=by kernel_rfl
 f42:=⟨f207.name,by decide,func207.trans (jeG some (by kernel_rfl))⟩
 t4:=underlying4
 a4:=isAgg4
 z4:=sizeOf4
 v4:=zeroValue4
 t25:=underlying144
 a25:=isAgg144
 z25:=sizeOf144
 v25:=zeroValue144
 t26:=underlying9
 a26:=isAgg9
 z26:=sizeOf9
 v26:=zeroValue9
 i26:=by kernel_rfl }
def pL:Go.Shelf.Ren:=⟨fun | 43=>243 | n=>n,fun | 22=>143 | 23=>2 | 3=>3 | 4=>4 | 0=>0 | n=>n,fun | n=>n⟩
def nC:Go.Proofs.SlLaysN.n43 prog pL:={
 mixed:=by kernel_rfl
 f43:=⟨f243.name,by decide,func243.trans (jeG some (by kernel_rfl))⟩
 t0:=underlying0
 a0:=isAgg0
 z0:=sizeOf0
 v0:=zeroValue0
 t3:=underlying3
 a3:=isAgg3
 z3:=sizeOf3
 v3:=zeroValue3
 t4:=underlying4
 a4:=isAgg4
 z4:=sizeOf4
 v4:=zeroValue4
 t22:=underlying143
 a22:=isAgg143
 z22:=sizeOf143
 v22:=zeroValue143
 t23:=underlying2
 a23:=isAgg2
 z23:=sizeOf2
 v23:=zeroValue2
 i23:=by kernel_rfl }
def qW:Go.Shelf.Ren:=⟨fun | 44=>209 | n=>n,fun | 25=>144 | 26=>9 | 3=>3 | 4=>4 | 0=>0 | n=>n,fun | n=>n⟩
def pe:Go.Proofs.SlLaysN.n44 prog qW:={
 mixed:=by kernel_rfl
 f44:=⟨f209.name,by decide,func209.trans (jeG some (by kernel_rfl))⟩
 t0:=underlying0
 a0:=isAgg0
 z0:=sizeOf0
 v0:=zeroValue0
 t3:=underlying3
 a3:=isAgg3
 z3:=sizeOf3
 v3:=zeroValue3
 t4:=underlying4
 a4:=isAgg4
 z4:=sizeOf4
 v4:=zeroValue4
 t25:=underlying144
 a25:=isAgg144
 z25:=sizeOf144
 v25:=zeroValue144
 t26:=underlying9
 a26:=isAgg9
 z26:=sizeOf9
 v26:=zeroValue9
 i26:=by kernel_rfl }
def pM:Go.Shelf.Ren:=⟨fun | 49=>269 | 59=>288 | 60=>291 | 68=>186 | n=>n,fun | 22=>143 | 23=>2 | 3=>3 | 4=>4 | 51=>40 | 0=>0 | n=>n,fun | n=>n⟩
def wV:Go.Proofs.SlLaysN.n49 prog pM:={
 mixed:=by kernel_rfl
 f49:=⟨f269.name,by decide,func269.trans (jeG some (by kernel_rfl))⟩
 f59:=⟨f288.name,by decide,func288.trans (jeG some (by kernel_rfl))⟩
 f60:=⟨f291.name,by decide,func291.trans (jeG some (by kernel_rfl))⟩
 f68:=⟨f186.name,by decide,func186.trans (jeG some (by kernel_rfl))⟩
 t0:=underlying0
 a0:=isAgg0
 z0:=sizeOf0
 v0:=zeroValue0
 t3:=underlying3
 a3:=isAgg3
 z3:=sizeOf3
 v3:=zeroValue3
 t4:=underlying4
 a4:=isAgg4
 z4:=sizeOf4
 v4:=zeroValue4
 t22:=underlying143
 a22:=isAgg143
 z22:=sizeOf143
 v22:=zeroValue143
 t23:=underlying2
 a23:=isAgg2
 z23:=sizeOf2
 v23:=zeroValue2
 t51:=underlying40
 a51:=isAgg40
 z51:=sizeOf40
 v51:=zeroValue40 }
def qX:Go.Shelf.Ren:=⟨fun | 5=>242 | 8=>233 | 7=>268 | 19=>259 | 20=>260 | 10=>282 | 11=>283 | 12=>284 | 13=>285 | 14=>286 | 15=>287 | 16=>288 | 17=>289 | 18=>290 | 30=>300 | 31=>271 | 32=>272 | 33=>301 | 34=>302 | 35=>186 | 40=>313 | n=>n,fun | 23=>143 | 25=>2 | 3=>3 | 32=>40 | 22=>143 | 0=>0 | 44=>22 | 46=>92 | 4=>4 | 36=>283 | 35=>282 | 41=>239 | 5=>5 | 9=>9 | 53=>295 | 57=>299 | 63=>313 | 64=>314 | n=>n,fun | n=>n⟩
def pf:Go.Proofs.SlLaysM.n5 prog qX:={
 mixed:=by kernel_rfl
 f5:=⟨f242.name,by decide,func242.trans (jeG some (by kernel_rfl))⟩
 f7:=⟨f268.name,by decide,func268.trans (jeG some (by kernel_rfl))⟩
 f8:=func233.trans (jeG some (by kernel_rfl))
 f10:=⟨f282.name,by decide,func282.trans (jeG some (by kernel_rfl))⟩
 f11:=⟨f283.name,by decide,func283.trans (jeG some (by kernel_rfl))⟩
 f12:=⟨f284.name,by decide,func284.trans (jeG some (by kernel_rfl))⟩
 f13:=⟨f285.name,by decide,func285.trans (jeG some (by kernel_rfl))⟩
 f14:=⟨f286.name,by decide,func286.trans (jeG some (by kernel_rfl))⟩
 f15:=⟨f287.name,by decide,func287.trans (jeG some (by kernel_rfl))⟩
 f16:=⟨f288.name,by decide,func288.trans (jeG some (by kernel_rfl))⟩
 f17:=⟨f289.name,by decide,func289.trans (jeG some (by kernel_rfl))⟩
 f18:=⟨f290.name,by decide,func290.trans (jeG some (by kernel_rfl))⟩
 f19:=func259.trans (jeG some (by kernel_rfl))
 f20:=func260.trans (jeG some (by kernel_rfl))
 f30:=⟨f300.name,by decide,func300.trans (jeG some (by kernel_rfl))⟩
 f31:=func271.trans (jeG some (by kernel_rfl))
 f32:=func272.trans (jeG some (by kernel_rfl))
 f33:=⟨f301.name,by decide,func301.trans (jeG some (by kernel_rfl))⟩
 f34:=⟨f302.name,by decide,func302.trans (jeG some (by kernel_rfl))⟩
 f35:=⟨f186.name,by decide,func186.trans (jeG some (by kernel_rfl))⟩
 f40:=⟨f313.name,by decide,func313.trans (jeG some (by kernel_rfl))⟩
 t0:=underlying0
 a0:=isAgg0
 z0:=sizeOf0
 v0:=zeroValue0
 t3:=underlying3
 a3:=isAgg3
 z3:=sizeOf3
 v3:=zeroValue3
 t4:=underlying4
 a4:=isAgg4
 z4:=sizeOf4
 v4:=zeroValue4
 t5:=underlying5
 a5:=isAgg5
 z5:=sizeOf5
 v5:=zeroValue5
 t9:=underlying9
 a9:=isAgg9
 z9:=sizeOf9
 v9:=zeroValue9
 t22:=underlying143
 a22:=isAgg143
 z22:=sizeOf143
 v22:=zeroValue143
 t23:=underlying143
 a23:=isAgg143
 z23:=sizeOf143
 v23:=zeroValue143
 t25:=underlying2
 a25:=isAgg2
 z25:=sizeOf2
 v25:=zeroValue2
 t32:=underlying40
 a32:=isAgg40
 z32:=sizeOf40
 v32:=zeroValue40
 t35:=underlying282
 a35:=isAgg282
 z35:=sizeOf282
 v35:=zeroValue282
 t36:=underlying283
 a36:=isAgg283
 z36:=sizeOf283
 v36:=zeroValue283
 t41:=underlying239
 a41:=isAgg239
 z41:=sizeOf239
 v41:=zeroValue239
 t44:=underlying22
 a44:=isAgg22
 z44:=sizeOf22
 v44:=zeroValue22
 t46:=underlying92
 a46:=isAgg92
 z46:=sizeOf92
 v46:=zeroValue92
 t53:=underlying295
 a53:=isAgg295
 z53:=sizeOf295
 v53:=zeroValue295
 t57:=underlying299
 a57:=isAgg299
 z57:=sizeOf299
 v57:=zeroValue299
 t63:=underlying313
 a63:=isAgg313
 z63:=sizeOf313
 v63:=zeroValue313
 t64:=underlying314
 a64:=isAgg314
 z64:=sizeOf314
 v64:=zeroValue314 }
def td:Go.Shelf.Ren:=⟨fun | 6=>208 | 8=>233 | 9=>232 | 19=>259 | 20=>260 | 21=>250 | 22=>251 | 23=>252 | 24=>253 | 25=>254 | 26=>255 | 27=>256 | 28=>257 | 29=>258 | 36=>270 | 31=>271 | 32=>272 | 37=>273 | 38=>274 | 39=>187 | 41=>292 | n=>n,fun | 27=>144 | 29=>9 | 3=>3 | 32=>40 | 26=>144 | 0=>0 | 44=>22 | 46=>92 | 4=>4 | 36=>283 | 35=>282 | 41=>239 | 5=>5 | 9=>9 | 53=>295 | 57=>299 | 63=>313 | 64=>314 | n=>n,fun | n=>n⟩
def qY:Go.Proofs.SlLaysM.n6 prog td:={
 mixed:=by kernel_rfl
 f6:=⟨f208.name,by decide,func208.trans (jeG some (by kernel_rfl))⟩
 f8:=func233.trans (jeG some (by kernel_rfl))
 f9:=⟨f232.name,by decide,func232.trans (jeG some (by kernel_rfl))⟩
 f19:=func259.trans (jeG some (by kernel_rfl))
 f20:=func260.trans (jeG some (by kernel_rfl))
 f21:=⟨f250.name,by decide,func250.trans (jeG some (by kernel_rfl))⟩
 f22:=⟨f251.name,by decide,func251.trans (jeG some (by kernel_rfl))⟩
 f23:=⟨f252.name,by decide,func252.trans (jeG some (by kernel_rfl))⟩
 f24:=⟨f253.name,by decide,func253.trans (jeG some (by kernel_rfl))⟩
 f25:=⟨f254.name,by decide,func254.trans (jeG some (by kernel_rfl))⟩
 f26:=⟨f255.name,by decide,func255.trans (jeG some (by kernel_rfl))⟩
 f27:=⟨f256.name,by decide,func256.trans (jeG some (by kernel_rfl))⟩
 f28:=⟨f257.name,by decide,func257.trans (jeG some (by kernel_rfl))⟩
 f29:=⟨f258.name,by decide,func258.trans (jeG some (by kernel_rfl))⟩
 f31:=func271.trans (jeG some (by kernel_rfl))
 f32:=func272.trans (jeG some (by kernel_rfl))
 f36:=⟨f270.name,by decide,func270.trans (jeG some (by kernel_rfl))⟩
 f37:=⟨f273.name,by decide,func273.trans (jeG some (by kernel_rfl))⟩
 f38:=⟨f274.name,by decide,func274.trans (jeG some (by kernel_rfl))⟩
 f39:=⟨f187.name,by decide,func187.trans (jeG some (by kernel_rfl))⟩
 f41:=⟨f292.name,by decide,func292.trans (jeG some (by kernel_rfl))⟩
 t0:=underlying0
 a0:=isAgg0
 z0:=sizeOf0
 v0:=zeroValue0
 t3:=underlying3
 a3:=isAgg3
 z3:=sizeOf3
 v3:=zeroValue3
 t4:=underlying4
 a4:=isAgg4
 z4:=sizeOf4
 v4:=zeroValue4
 t5:=underlying5
 a5:=isAgg5
 z5:=sizeOf5
 v5:=zeroValue5
 t9:=underlying9
 a9:=isAgg9
 z9:=sizeOf9
 v9:=zeroValue9
 t26:=underlying144
 a26:=isAgg144
 z26:=sizeOf144
 v26:=zeroValue144
 t27:=underlying144
 a27:=isAgg144
 z27:=sizeOf144
 v27:=zeroValue144
 t29:=underlying9
 a29:=isAgg9
 z29:=sizeOf9
 v29:=zeroValue9
 t32:=underlying40
 a32:=isAgg40
 z32:=sizeOf40
 v32:=zeroValue40
 t35:=underlying282
 a35:=isAgg282
 z35:=sizeOf282
 v35:=zeroValue282
 t36:=underlying283
 a36:=isAgg283
 z36:=sizeOf283
 v36:=zeroValue283
 t41:=underlying239
 a41:=isAgg239
 z41:=sizeOf239
 v41:=zeroValue239
 t44:=underlying22
 a44:=isAgg22
 z44:=sizeOf22
 v44:=zeroValue22
 t46:=underlying92
 a46:=isAgg92
 z46:=sizeOf92
 v46:=zeroValue92
 t53:=underlying295
 a53:=isAgg295
 z53:=sizeOf295
 v53:=zeroValue295
 t57:=underlying299
 a57:=isAgg299
 z57:=sizeOf299
 v57:=zeroValue299
 t63:=underlying313
 a63:=isAgg313
 z63:=sizeOf313
 v63:=zeroValue313
 t64:=underlying314
 a64:=isAgg314
 z64:=sizeOf314
 v64:=zeroValue314 }
def BF:Go.Shelf.Ren:=⟨fun | 26=>234 | 33=>256 | 34=>261 | 38=>187 | n=>n,fun | 24=>144 | 9=>9 | 3=>3 | 4=>4 | 40=>40 | 0=>0 | n=>n,fun | n=>n⟩
def Tj:Go.Proofs.Lays2.n26 prog BF:={
 mixed:=by kernel_rfl
 f26:=func234.trans (jeG some (by kernel_rfl))
 f33:=func256.trans (jeG some (by kernel_rfl))
 f34:=func261.trans (jeG some (by kernel_rfl))
 f38:=func187.trans (jeG some (by kernel_rfl))
 t0:=underlying0
 a0:=isAgg0
 z0:=sizeOf0
 v0:=zeroValue0
 t3:=underlying3
 a3:=isAgg3
 z3:=sizeOf3
 v3:=zeroValue3
 t4:=underlying4
 a4:=isAgg4
 z4:=sizeOf4
 v4:=zeroValue4
 t9:=underlying9
 a9:=isAgg9
 z9:=sizeOf9
 v9:=zeroValue9
 t24:=underlying144
 a24:=isAgg144
 z24:=sizeOf144
 v24:=zeroValue144
 t40:=underlying40
 a40:=isAgg40
 z40:=sizeOf40
 v40:=zeroValue40 }
def Sv.cells{W:World}{b off n cap:Nat}{l:List Int}(h:Sv W (.slice (some ⟨b,off,none⟩) n cap) (aO l)):∀ j,j<l.length->W.cell? ⟨b,off+j,none⟩=some (.int .i64 (l.getD j 0)):=by
 intro j hj;obtain⟨b',off',h1,_,h2⟩:=h.at hj;cases h1
 rw[h2];simp[List.getD_eq_getElem?_getD,hj]
def Jf{w:World}{v:Value}{l:List Int}(hs:Sv w v (aO l))(hl:l.length<=256) :
  Calls prog 241 #[v] w λe w'=>(∃ v',e=.returned v'/\co w' w.heap.size v' l)/\jgu w w':=by
 have Da:=hs;obtain⟨a,cap,rfl,h1,h2,h3,h4⟩:=hs;rw[bV]at *;cases a with
 | none =>
  have hc:=h3 rfl;have tN:l=[]:=jeW (by omega);subst tN;refine Calls.mono (AnyG.slices_Clone_int_nil kt _ _ w) ?_;rintro e w' ⟨rfl,rfl⟩;exact⟨⟨_,rfl,co.nil _ _⟩,jez _ _⟩
 | some a =>
  rcases jfs l.length with h0 | h0
  ·have tN:l=[]:=jeW h0
   subst tN;refine Calls.mono (AnyG.slices_Clone_int_zero kt a cap w) ?_;rintro e w' ⟨v',rfl,ho,_,hb⟩;exact⟨⟨_,rfl,ho⟩,hb⟩
  ·obtain⟨b,off,h5,h6,h7⟩:=h4 h0
   cases h5
   refine Calls.mono (AnyG.slices_Clone_int kt b off l.length cap l w (jeA _) (by omega) Da.cells) ?_;rintro e w' ⟨v',rfl,ho,_,hb⟩;rw[jeJ]at ho;exact⟨⟨_,rfl,ho⟩,hb⟩
def srt(l:List Int):List Int:=l.mergeSort λx y=>decide (x<=y)
def mw(l:List Int):(srt l).length=l.length:=List.length_mergeSort l
def ku{B:Nat}{w:World}(os:Array Obj)(hB:B<=w.heap.size):Below B w (Sort.grow w os) :=
 ⟨rfl,rfl,rfl,by simp,λk hk=>Sort.heap_grow_old _ _ (by omega)⟩
def Tk{w:World}{B:Nat}{v:Value}{l:List Int}(h:co w B v l)(hl:l.length<=256)(hB:B<=w.heap.size) :
  Calls prog 242 #[v] w λe w'=>e=.returned (.tuple #[])/\co w' B v (srt l)/\Below B w w':=by
 by_cases hv:v=.slice none 0 0
 ·subst hv
  have tN:l=[]:=by
   have h1:=h.1;rcases h.2 with ⟨_,h2⟩ | ⟨g,cap,cur,h2,_⟩
   ·exact jeW h2
   ·cases h2
  subst tN;refine Calls.mono (AnyM.slices_Sort_int_none pf none 0 w) ?_;rintro e w' ⟨rfl,rfl⟩;exact⟨rfl,(by unfold srt;rw[List.mergeSort_nil];exact h),jez _ _⟩
 ·obtain⟨g,cap,rfl,hb,hg,hc,hm,bH,hH⟩:=holds_of_ownsRow (enc:=Value.int .i64) h hv
  refine Calls.mono (AnyM.slices_Sort_int pf g 0 cap l w hH hg (by omega)) ?_;rintro e w' ⟨rfl,n,os,rfl⟩;have h1:=ownsRow_putRow (enc:=Value.int .i64) (q:=n) (k:=l.length) (ys:=srt l) h (mw l) (jeA _);have az:=below_putRow (enc:=Value.int .i64) (q:=n) (d:=(srt l).toArray) (jez B w) hb;refine⟨rfl,?_,az.trans (ku os (by have:=az.size;omega))⟩;unfold co;rw[mw];rw[jfi (by rw[mw];omega)]at h1;exact bv h1 (ku os (jeA _))
def Ee{w:World}{B:Nat}{v:Value}{l:List Int}(h:co w B v l)(hl:l.length<=256)(hB:B<=w.heap.size) :
  Calls prog 243 #[v] w λe w'=>(∃ v',e=.returned v'/\co w' B v' (Lib.compact l))/\Below B w w':=by
 by_cases hv:v=.slice none 0 0
 ·subst hv
  have tN:l=[]:=by
   have h1:=h.1;rcases h.2 with ⟨_,h2⟩ | ⟨g,cap,cur,h2,_⟩
   ·exact jeW h2
   ·cases h2
  subst tN;refine Calls.mono (AnyG.slices_Compact_int_empty nC none 0 w) ?_;rintro e w' ⟨rfl,rfl⟩;exact⟨⟨_,rfl,h⟩,jez _ _⟩
 ·obtain⟨g,cap,rfl,hb,hg,hc,hm,bH,hH⟩:=holds_of_ownsRow (enc:=Value.int .i64) h hv
  have oT:=Lib.compact_length_le l;refine Calls.mono (AnyG.slices_Compact_int nC g 0 cap l w hH (by omega) (by omega)) ?_;rintro e w' ⟨rfl,q,rfl⟩;have h1:=ownsRow_putRow (enc:=Value.int .i64) (q:=q) (k:=(Lib.compact l).length) (ys:=Lib.compact l++List.replicate (l.length-(Lib.compact l).length) 0) h (by simp;omega) (by omega);rw[jfo]at h1;exact⟨⟨_,rfl,h1⟩,below_putRow (enc:=Value.int .i64) (jez B w) hb⟩
def Jg{w:World}{v:Value}{u:List Int}(hs:Sv w v (aO u))(hu:0<u.length)(hl:u.length<=256)(hr:dm u)(x:Int) :
  Calls prog 269 #[v,.int .i64 x] w λe w'=>(∃ r,e=.returned (.tuple #[.int .i64 (u.countP (· < x):Nat),r]))/\jgu w w':=by
 have Da:=hs;obtain⟨a,cap,rfl,h1,h2,h3,h4⟩:=hs;rw[bV]at *;obtain⟨b,off,rfl,h6,h7⟩:=h4 hu;refine Calls.mono (AnyG.slices_BinarySearch_int wV b off u.length cap u x w (jeA _) (by omega) Da.cells (by rw[jeJ];exact hr.imp Int.le_of_lt)) ?_;rintro e w' ⟨rfl,q,rfl⟩;rw[jeJ];exact⟨⟨_,rfl⟩,ak (jez _ _) q⟩
def Yx{w:World}{v:Value}{l:List Int}(hs:Sv w v (aO l))(hp:0<l.length)(hl:l.length<=256) :
  Calls prog 248 #[v] w λe w'=>e=.returned (.int .i64 (Lib.minOf l))/\w'=w:=by
 have Da:=hs;obtain⟨a,cap,rfl,h1,h2,h3,h4⟩:=hs;rw[bV]at *;obtain⟨b,off,rfl,h6,h7⟩:=h4 hp;have:=AnyG.slices_Min_int wU b off l.length cap l w hp (jeA _) (by omega) Da.cells;rw[jeJ]at this;exact this
def zU{x:Int}:∀{u:List Int},dm u->x∈u->u.countP (· < x)=pl u x
 | y::t,hr,hx=>by
  have h1:(∀ z∈t,y<z)/\dm t:=jfB.1 hr;unfold pl;split
  ·next e =>
   subst e;rw[List.countP_eq_zero];intro z hz;rcases jeL.1 hz with rfl | hz
   ·simp
   ·have:=h1.1 z hz
    simp;omega
  ·next dC =>
   have ht:x∈t:=by
    rcases jeL.1 hx with rfl | h
    ·exact absurd rfl dC
    ·exact h
   have ar:=h1.1 x ht;rw[List.countP_cons_of_pos (by simpa using ar),zU h1.2 ht]
def wW:∀{a b:List Int},dm a->dm b->(∀ z,z∈a↔z∈b)->a=b
 | [],[],_,_,_=>rfl
 | [],y::t,_,_,h=>by have:=(h y).2 (by simp);simp at this
 | x::s,[],_,_,h=>by have:=(h x).1 (by simp);simp at this
 | x::s,y::t,ha,hb,h=>by
  have h1:(∀ z∈s,x<z)/\dm s:=jfB.1 ha;have h2:(∀ z∈t,y<z)/\dm t:=jfB.1 hb
  have GI:x=y:=by
   rcases jeL.1 ((h x).1 (by simp))with e | e
   ·exact e
   ·rcases jeL.1 ((h y).2 (by simp))with e' | e'
    ·exact e'.symm
    ·have:=h1.1 y e'
     have:=h2.1 x e;omega
  subst GI;congr 1
  refine wW h1.2 h2.2 (λz=>?_);have h3:=h z;constructor
  ·intro hz
   rcases jeL.1 (h3.1 (by simp[hz]))with rfl | e
   ·have:=h1.1 z hz;omega
   ·exact e
  ·intro hz
   rcases jeL.1 (h3.2 (by simp[hz]))with rfl | e
   ·have:=h2.1 z hz;omega
   ·exact e
def jA{l:List Int}:∀ m,m<=l.length->∀ z,z∈compactUpTo l.toArray m↔z∈l.take m
 | 0,_,z=>by simp[compactUpTo]
 | m+1,hm,z=>by
  have ih:=jA (l:=l) m (by omega);have hg:l.toArray[m]! = l[m]:=by simp[show m<l.length by omega]
  rw[compactUpTo_succ,je1,ih z,jeO (by omega),je1,hg];by_cases hk:keeps l.toArray m=true
  ·rw[jey hk]
  ·rw[jex hk]
   constructor
   ·rintro(h | h)
    ·exact Or.inl h
    ·simp at h
   ·rintro(h | h)
    ·exact Or.inl h
    ·left
     have h':z=l[m]:=by simpa using h
     unfold keeps at hk;simp only[jfb]at hk;have dP:l.toArray[m-1]! = l[m-1]:=by simp[show m-1<l.length by omega]
     rw[hg,dP]at hk;have hm0:m≠0:=λe=>hk (Or.inl e)
     have he:l[m]=l[m-1]:=Decidable.byContradiction λe=>hk (Or.inr e)
     rw[h',he];exact jgs.2 ⟨m-1,by omega,rfl⟩
def kw{l:List Int}(hs:l.Pairwise (·<=·)):∀ m,m<=l.length->dm (compactUpTo l.toArray m)
 | 0,_=>by simp[compactUpTo,dm]
 | m+1,hm=>by
  have ih:=kw hs m (by omega);have hg:l.toArray[m]! = l[m]:=by simp[show m<l.length by omega]
  rw[compactUpTo_succ,hg];by_cases hk:keeps l.toArray m=true
  ·rw[jey hk]
   refine List.pairwise_append.2 ⟨ih,by simp,λa ha b hb=>?_⟩;have hb':b=l[m]:=by simpa using hb
   subst hb';have h1:=(jA m (by omega) a).1 ha;obtain⟨j,hj,rfl⟩:=jgs.1 h1;have hjm:j<m:=(by omega);unfold keeps at hk;simp only[jfb]at hk;have dP:l.toArray[m-1]! = l[m-1]:=by simp[show m-1<l.length by omega]
   rw[hg,dP]at hk
   have h2:l[m]≠l[m-1]:=by
    rcases hk with h | h
    ·omega
    ·exact h
   have h3:l[m-1]<=l[m]:=jgl.1 hs (m-1) m (by omega) (by omega) (by omega)
   have h4:l[j]<=l[m-1]:=by
    rcases je0 j (m-1)with h | h
    ·exact jgl.1 hs j (m-1) (by omega) (by omega) h
    ·have:j=m-1:=by omega
     subst this;exact Int.le_refl _
   omega
  ·rw[jex hk,jeS]
   exact ih
def Ef(l:List Int):Lib.compact (srt l)=eD l:=by
 have hs:(srt l).Pairwise (·<=·):=by
  have:=List.pairwise_mergeSort (le:=λx y:Int=>decide (x<=y)) (λa b c h1 h2=>by simp at *;omega) (λa b=>by simp;omega) l;exact this.imp (λh=>by simpa using h)
 refine wW (kw hs _ (jeA _)) (jc l) (λz=>?_);rw[ie];have:=jA (l:=srt l) (srt l).length (jeA _) z;rw[jeJ]at this;unfold Lib.compact;rw[this];exact List.mem_mergeSort
def Eg{l:List Int}(h:0<l.length):Lib.minOf l=jG l:=by
 have key:∀(t:List Int) (a:Int),t.foldl min a<=a/\(∀ x∈t,t.foldl min a<=x)/\(t.foldl min a=a∨t.foldl min a∈t):=by
  intro t;induction t with
  | nil=>intro a;simp
  | cons y t ih =>
   intro a;obtain⟨i1,i2,i3⟩:=ih (min a y);simp only[List.foldl_cons];refine⟨by omega,λx hx=>?_,?_⟩
   ·rcases jeL.1 hx with rfl | hx
    ·omega
    ·exact i2 x hx
   ·rcases i3 with i3 | i3
    ·rw[i3]
     rcases Int.le_total a y with h | h
     ·left;omega
     ·right;simp;left;omega
    ·right;simp[i3]
 have h1:Lib.minOf l∈l/\∀ x∈l,Lib.minOf l<=x:=by
  cases l with
  | nil=>simp at h
  | cons a t =>
   have:=key (a::t) a;unfold Lib.minOf;rw[List.headD_cons];refine⟨?_,this.2.1⟩;rcases this.2.2 with e | e
   ·rw[e];simp
   ·exact e
 have h2:=jW h;have h3:=h1.2 _ h2;have h4:=qN _ h1.1;omega
end Go.Proofs.YtpljdjmpamjkhaaGreatDoor
