import Derived.Test.YtpljdjmpamjkhaaGreatDoorYav
import Derived.Lib.VarintBits
import Derived.Test.YtpljdjmpamjkhaaGreatDoorYau
import Derived.Test.YtpljdjmpamjkhaaGreatDoorYaf
import Derived.Test.YtpljdjmpamjkhaaGreatDoorYad
import Derived.Test.YtpljdjmpamjkhaaGreatDoorYaq
import Derived.Test.YtpljdjmpamjkhaaGreatDoorYap
import Derived.Deep.RegionHeld3
import Derived.BigRegion
set_option linter.unusedVariables false
set_option linter.unusedSimpArgs false
set_option maxRecDepth 100000
set_option maxHeartbeats 4000000
namespace Go.Proofs.YtpljdjmpamjkhaaGreatDoor
open Go.RowKit Go.Lib
theorem zk{k:Nat}{l:List (Nat×Int×List Nat)}(h:¬ (1<=k/\k<=3/\∀ c∈l,c.1=0∨c.1=k)):(dQ k l).2=10:=by
 unfold dQ;rw[if_neg h]
theorem F8{k:Nat}{l:List (Nat×Int×List Nat)}(hk:1<=k/\k<=3)(hf:∀ c∈l,aU c)(h:∀ c∈l,c.1=0∨c.1=k):(dQ k l).2=if 256<l.length then 5 else 0:=by
 unfold dQ;rw[if_pos ⟨hk.1,hk.2,h⟩];by_cases h2:256<l.length
 ·rw[if_neg (by omega),if_pos h2]
 ·rw[if_pos ⟨by omega,fun c hc=>((hf c hc).cellk (h c hc)).short⟩,if_neg h2]
theorem aU.size{c:Nat×Int×List Nat}(h:aU c):c.1<=3/\c.2.2.length<=64:=by
 rcases h with rfl | ⟨n,rfl,_⟩ | ⟨n,rfl,_⟩ | ⟨s,rfl,hs,_⟩
 ·simp[nul]
 ·simp
 ·simp
 ·exact⟨by simp,hs⟩
theorem F9{w:World}{v:Value}{l:List (Nat×Int×List Nat)}(hs:Sv w v (aI l))(hf:∀ c∈l,aU c)(k:Nat) :
  Calls Tryz.prog 122 #[.int .u8 (k:Int),v] w fun e w'=>e=.returned (.int .i64 ((dQ k l).2:Int))/\Below w.heap.size w w':=by
 have HS:=ae hs;have HF:=ae hf;obtain⟨a,cap,rfl,aX,bw⟩:=hs.form1;rw[aF]at *;have hcm':cap<=9223372036854775807:=by unfold maxLen at bw;omega
 have HK:=ae (jb k);by_cases hk:1<=k/\k<=3
 ·rw[decide_eq_true hk]at HK
  have HE:=ae (F8 (l:=l) hk hf);have HN:=ae (zk (k:=k) (l:=l));clear hs hf bw hk
  have HL:Hid (decide ((l.length:Int) > 256)=decide (256<l.length)):=ae (by
   by_cases h:256<l.length
   ·rw[decide_eq_true h,decide_eq_true (by omega)]
   ·rw[decide_eq_false h,decide_eq_false (by omega)])
  go_enter Tryz.func122,Tryz.ntmps122
  go_wp2_with fail;refine(HK.out _).mono ?_;rintro e w1 ⟨rfl,rfl⟩;go_wp2_with fail;rw[HL.out];generalize VT:decide (256<l.length)=lg;have VD:=ae VT;clear VT;go_loopw [5,18] (fun o i wr=>∃ j:Nat,j<=l.length/\o=.bool lg/\i=.int .i64 (j:Int)/\(∀ c∈l.take j,c.1=0∨c.1=k)/\Below w1.heap.size w1 wr) (fun _ i _=>l.length-(intOf i).toNat)
  case atStart=>exact⟨0,by omega,rfl,rfl,fun c hc=>by simp at hc,ZQ _ _⟩
  case round =>
   obtain⟨j,hj,rfl,rfl,cU,ay⟩:=hrel;have HA:=ae cU;have HB:=ae ay;have bO:=ay.size;clear cU ay;by_cases aB:j<l.length
   ·obtain⟨b,off,rfl,hb,bo⟩:=HS.out.at1 (cK aB)
    have hcell':=(HB.out.cell (p:=⟨b,off+j,none⟩) hb).trans bo;have RD:=HF.out l[j] (ZV aB);have HM:=ae (ZV aB)
    have HT:Hid (∀ c,c∈l.take (j+1)->c∈l.take j∨c=l[j]):=ae (fun c hc=>by
     rw[Z5 aB]at hc;rcases jaj.1 hc with h | h
     ·exact Or.inl h
     ·exact Or.inr (by simpa using h))
    have hlt':(j:Int)<(l.length:Int):=by omega
    obtain⟨Hw,hc64⟩:=RD.size;have hnot64:¬ 64<((am l[j].2.2).size:Int):=by rw[bi];omega
    have HV:=ae (fun W=>ly RD.val W);clear bo RD hc64;generalize l[j]=c at *;obtain⟨ck,cn,cs⟩:=c;simp only at *;generalize de (ck,cn,cs)=vc at *;generalize am cs=S at *;by_cases h0:((ck:Int) != 0)=true
    ·by_cases h1:((ck:Int) != (k:Int))=true
     ·have HN':Hid ((dQ k l).2=10):=ae (HN.out (fun h=>by
       have:=h.2.2 _ HM.out;simp at h0 h1 this
       omega))
      go_wp2_with fail;refine(HV.out _).mono ?_;rintro e w2 ⟨rfl,aD⟩;have aN:=ae aD;have bm:=aD.size;clear aD;go_wp2_with fail;go_ret
      rw[HN'.out];exact⟨rfl,(HB.out.trans (aN.out.mono bO)).alloc (by omega) _⟩
     ·have h1':((ck:Int) != (k:Int))=false:=by simpa using h1
      have dP:ck=k:=by
       have:(ck:Int)=(k:Int):=by simpa using h1
       omega
      have mT:=ae dP;clear h1 dP;go_wp2_with fail;refine(HV.out _).mono ?_;rintro e w2 ⟨rfl,aD⟩;have aN:=ae aD;have bm:=aD.size;clear aD;cases lg
      ·go_wp2_with fail
       go_roundw
       case rel=>exact⟨j+1,by omega,congrArg Value.bool (decide_eq_false (by omega)),by go_num,fun c hc=>(HT.out c hc).elim (HA.out c) (fun e=>by rw[e];exact Or.inr mT.out),(HB.out.trans (aN.out.mono bO)).alloc (by omega) _⟩
       case measure=>simp[intOf];omega
      ·go_wp2_with fail
       go_roundw
       case rel=>exact⟨j+1,by omega,rfl,by go_num,fun c hc=>(HT.out c hc).elim (HA.out c) (fun e=>by rw[e];exact Or.inr mT.out),(HB.out.trans (aN.out.mono bO)).alloc (by omega) _⟩
       case measure=>simp[intOf];omega
    ·have h0':((ck:Int) != 0)=false:=by simpa using h0
     have dP:ck=0:=by
      have:(ck:Int)=0:=by simpa using h0
      omega
     have mT:=ae dP;clear h0 dP;go_wp2_with fail;refine(HV.out _).mono ?_;rintro e w2 ⟨rfl,aD⟩;have aN:=ae aD;have bm:=aD.size;clear aD;cases lg
     ·go_wp2_with fail
      go_roundw
      case rel=>exact⟨j+1,by omega,congrArg Value.bool (decide_eq_false (by omega)),by go_num,fun c hc=>(HT.out c hc).elim (HA.out c) (fun e=>by rw[e];exact Or.inl mT.out),(HB.out.trans (aN.out.mono bO)).alloc (by omega) _⟩
      case measure=>simp[intOf];omega
     ·go_wp2_with fail
      go_roundw
      case rel=>exact⟨j+1,by omega,rfl,by go_num,fun c hc=>(HT.out c hc).elim (HA.out c) (fun e=>by rw[e];exact Or.inl mT.out),(HB.out.trans (aN.out.mono bO)).alloc (by omega) _⟩
      case measure=>simp[intOf];omega
   ·have:j=l.length:=by omega
    subst this;rw[ZY]at HA;have HE':=ae (HE.out HA.out);have gJ:¬ ((l.length:Nat):Int)<(l.length:Int):=by omega
    cases lg
    ·have hn:¬ 256<l.length:=of_decide_eq_false VD.out
     rw[if_neg hn]at HE';go_wp2_with fail;go_ret
     rw[HE'.out];exact⟨rfl,HB.out⟩
    ·have hn:256<l.length:=of_decide_eq_true VD.out
     rw[if_pos hn]at HE';go_wp2_with fail;go_ret
     rw[HE'.out];exact⟨rfl,HB.out⟩
 ·rw[decide_eq_false hk]at HK
  have HN:Hid ((dQ k l).2=10):=ae (zk (fun h=>hk ⟨h.1,h.2.1⟩));clear hs hf bw hk;go_enter Tryz.func122,Tryz.ntmps122
  go_wp2_with fail;refine(HK.out _).mono ?_;rintro e w1 ⟨rfl,rfl⟩;go_wp2_with fail;go_ret
  rw[HN.out];exact⟨rfl,ZQ _ _⟩
def stp(c:Nat):Nat:=c / 2 ^^^ (if c % 2=1 then 3988292384 else 0)
def ew:Nat->Nat->Nat
 | 0,c=>c
 | n+1,c=>ew n (stp c)
theorem P7{c:Nat}(h:c<4294967296):stp c<4294967296:=by
 have:stp c<2 ^ 32:=by
  unfold stp;apply jbr
  ·omega
  ·split<;>omega
 omega
theorem TQ(a b:Nat):(a ^^^ b) % 2=(a+b) % 2:=by
 have h:(a ^^^ b).testBit 0=((a.testBit 0) ^^ (b.testBit 0)):=Nat.testBit_xor _ _ _;simp only[Nat.testBit_zero]at h;have ha:a % 2=0∨a % 2=1:=by omega
 have hb:b % 2=0∨b % 2=1:=by omega
 have hc:(a ^^^ b) % 2=0∨(a ^^^ b) % 2=1:=by omega
 generalize (a ^^^ b) % 2=z at *;rcases ha with ha | ha<;>rcases hb with hb | hb<;>rcases hc with hc | hc<;>simp[ha,hb,hc]at h<;>omega
theorem Df{a b:Nat}(h:a ^^^ b=0):a=b:=by
 have:=congrArg (fun z=>z ^^^ b) h;simpa only[jaP,Nat.xor_self,Nat.xor_zero,Nat.zero_xor]using this
theorem TR(a b:Nat):stp (a ^^^ b)=stp a ^^^ stp b:=by
 unfold stp;have h1:(a ^^^ b) / 2=a / 2 ^^^ b / 2:=Nat.xor_div_two;have h2:(a ^^^ b) % 2=(a+b) % 2:=TQ a b;rw[h1];have ha:a % 2=0∨a % 2=1:=by omega
 have hb:b % 2=0∨b % 2=1:=by omega
 rcases ha with ha | ha<;>rcases hb with hb | hb
 ·have h3:(a ^^^ b) % 2=0:=by omega
  simp[ha,hb,h3]
 ·have h3:(a ^^^ b) % 2=1:=by omega
  simp[ha,hb,h3,jaP]
 ·have h3:(a ^^^ b) % 2=1:=by omega
  simp[ha,hb,h3,jaP]
  rw[Nat.xor_comm (b / 2)]
 ·have h3:(a ^^^ b) % 2=0:=by omega
  simp only[ha,hb,h3];simp only[if_pos,Nat.xor_zero,Nat.zero_ne_one,if_false];generalize 3988292384=p;rw[jaP,Nat.xor_comm (b / 2) p,← jaP p,Nat.xor_self,Nat.zero_xor]
theorem P8(x:Nat):stp (2*x)=x:=by
 unfold stp;rw[if_neg (by omega)];simp
theorem P9{c:Nat}(h:c<4294967296)(h0:stp c=0):c=0:=by
 unfold stp at h0;by_cases hc:c % 2=1
 ·rw[if_pos hc]at h0
  have:c / 2=3988292384:=Df h0;omega
 ·rw[if_neg hc,Nat.xor_zero]at h0
  omega
theorem qN:∀(n:Nat) {c:Nat},c<4294967296->ew n c<4294967296
 | 0,_,h=>h
 | n+1,_,h=>qN n (P7 h)
theorem qO:∀(n a b:Nat),ew n (a ^^^ b)=ew n a ^^^ ew n b
 | 0,_,_=>rfl
 | n+1,a,b=>by rw[ew,ew,ew,TR,qO n]
theorem ny:∀(m n c:Nat),ew (m+n) c=ew n (ew m c)
 | 0,n,c=>by rw[jaf];rfl
 | m+1,n,c=>by rw[Nat.add_right_comm,ew,ew,ny m n]
theorem Li(n c:Nat):ew (n+1) c=stp (ew n c):=ny n 1 c
theorem mu:∀(n x:Nat),ew n (2 ^ n*x)=x
 | 0,x=>by simp[ew]
 | n+1,x=>by
  rw[ew,Nat.pow_succ,jak (2 ^ n) 2,jaX,P8,mu n]
theorem zl:∀(n:Nat) {c:Nat},c<4294967296->ew n c=0->c=0
 | 0,_,_,h0=>h0
 | n+1,_,h,h0=>P9 h (zl n (P7 h) h0)
theorem jU{a r n:Nat}(h:a<2 ^ n):a+2 ^ n*r=a ^^^ (2 ^ n*r):=by
 apply Nat.eq_of_testBit_eq
 intro i;rw[Nat.testBit_xor,Nat.add_comm,Nat.testBit_two_pow_mul_add _ h,Nat.testBit_two_pow_mul];by_cases hi:i<n
 ·rw[if_pos hi]
  simp[show ¬ n<=i by omega]
 ·rw[if_neg hi]
  have h1:a.testBit i=false:=Nat.testBit_lt_two_pow (Z9 h (jaY (by omega) (by omega)));simp[h1,show n<=i by omega]
theorem Lj(n c:Nat):ew n c=ew n (c % 2 ^ n) ^^^ c / 2 ^ n:=by
 have h:c=c % 2 ^ n ^^^ (2 ^ n*(c / 2 ^ n)):=by
  rw[← jU (Nat.mod_lt _ (jaD n))];exact(Nat.mod_add_div c (2 ^ n)).symm
 conv=>lhs;rw[h]
 rw[qO,mu]
def byt(c x:Nat):Nat:=ew 8 (c ^^^ x)
def run(c:Nat)(b:List Nat):Nat:=b.foldl byt c
def mQ(c:Nat)(b:List Nat):Nat:=run (c ^^^ 4294967295) b ^^^ 4294967295
theorem Dg(c x:Nat)(b:List Nat):run c (x::b)=run (byt c x) b:=rfl
theorem Ga(c:Nat)(a b:List Nat):run c (a++b)=run (run c a) b:=List.foldl_append
theorem Qa(c x:Nat)(b:List Nat):run c (b++[x])=byt (run c b) x:=by rw[Ga];rfl
theorem kq{a b:Nat}(ha:a<4294967296)(hb:b<4294967296):a ^^^ b<4294967296:=by
 have:a ^^^ b<2 ^ 32:=jbr (by omega) (by omega);omega
theorem Xc{c x:Nat}(h:c<4294967296)(hx:x<256):byt c x<4294967296:=qN 8 (kq h (by omega))
theorem sC:∀{b:List Nat} {c:Nat},c<4294967296->(∀ x∈b,x<256)->run c b<4294967296
 | [],_,h,_=>h
 | x::b,c,h,hb=>by
  rw[Dg];exact sC (Xc h (hb x (by simp))) fun y hy=>hb y (by simp[hy])
theorem uD{b:List Nat}{c:Nat}(h:c<4294967296)(hb:∀ x∈b,x<256):mQ c b<4294967296:=kq (sC (kq h (by omega)) hb) (by omega)
theorem Qb(a p:Nat):a ^^^ p ^^^ p=a:=by rw[jaP,Nat.xor_self,Nat.xor_zero]
def leN:List Nat->Nat
 | []=>0
 | x::b=>x+256*leN b
theorem Gb:∀{b:List Nat},(∀ x∈b,x<256)->leN b<2 ^ (8*b.length)
 | [],_=>by simp[leN]
 | x::b,h=>by
  have h1:=Gb (b:=b) fun y hy=>h y (by simp[hy])
  have h2:=h x (by simp);rw[leN,ZW,jaR,jaK];omega
theorem AG:∀{b:List Nat} (c:Nat),(∀ x∈b,x<256)->run c b=ew (8*b.length) (c ^^^ leN b)
 | [],c,_=>by simp[run,leN,ew]
 | x::b,c,h=>by
  have hx:x<2 ^ 8:=h x (by simp);rw[Dg,AG (byt c x) fun y hy=>h y (by simp[hy]),ZW,jaR,Nat.add_comm (8*b.length),ny,leN];congr 1
  have e:x+256*leN b=x ^^^ (2 ^ 8*leN b):=jU hx;rw[e,← jaP,qO,mu];rfl
theorem Lk{a b:List Nat}{c X f:Nat}(ha:∀ x∈a,x<256)(hb:∀ x∈b,x<256)(hl:a.length=b.length)(hX:X<4294967296)(hf:f<=8*a.length)
  (h:leN b=leN a ^^^ (2 ^ f*X)) (he:run c a=run c b):X=0:=by
 rw[AG c ha,AG c hb,← hl,h,← jaP,qO _ (c ^^^ leN a)]at he
 have h0:ew (8*a.length) (2 ^ f*X)=0:=by
  have:=congrArg (fun z=>ew (8*a.length) (c ^^^ leN a) ^^^ z) he;simp only[Nat.xor_self,← jaP,Nat.zero_xor]at this;exact this.symm
 rw[show 8*a.length=f+(8*a.length-f) by omega,ny,mu]at h0;exact zl _ hX h0
theorem Gc{a b:List Nat}{c X f:Nat}(ha:∀ x∈a,x<256)(hb:∀ x∈b,x<256)(hl:a.length=b.length)(hX:X<4294967296)(hf:f<=8*a.length)
  (h:leN b=leN a ^^^ (2 ^ f*X)) (he:mQ c a=mQ c b):X=0:=by
 refine Lk (c:=c ^^^ 4294967295) ha hb hl hX hf h ?_;have:=congrArg (fun z=>z ^^^ 4294967295) he;unfold mQ at this;simpa only[Qb]using this
theorem JJ:∀{b:List Nat} {j y:Nat} (hj:j<b.length),(∀ x∈b,x<256)->y<256->leN (b.set j (b[j] ^^^ y))=leN b ^^^ (2 ^ (8*j)*y)
 | [],j,y,hj,_,_=>by simp at hj
 | x::b,0,y,_,h,hy=>by
  have hx:x<2 ^ 8:=h x (by simp);have BK:x ^^^ y<2 ^ 8:=jbr hx hy;simp only[Z0,jbj,leN];have e1:x+256*leN b=x ^^^ (2 ^ 8*leN b):=jU hx;have e2:(x ^^^ y)+256*leN b=(x ^^^ y) ^^^ (2 ^ 8*leN b):=jU BK;rw[e1,e2,Nat.mul_zero,Nat.pow_zero,jaO,jaP,Nat.xor_comm y,← jaP]
 | x::b,j+1,y,hj,h,hy=>by
  have hx:x<2 ^ 8:=h x (by simp);have ih:=JJ (b:=b) (j:=j) (y:=y) (by simpa using hj) (fun z hz=>h z (by simp[hz])) hy;simp only[Z2,List.getElem_cons_succ,leN];rw[ih];have e1:x+256*leN b=x ^^^ (2 ^ 8*leN b):=jU hx;have e2:x+256*(leN b ^^^ 2 ^ (8*j)*y)=x ^^^ (2 ^ 8*(leN b ^^^ 2 ^ (8*j)*y)):=jU hx;rw[e1,e2,jaP];congr 1
  have e3:2 ^ 8*(leN b ^^^ 2 ^ (8*j)*y)=2 ^ 8*leN b ^^^ 2 ^ 8*(2 ^ (8*j)*y):=by
   apply Nat.eq_of_testBit_eq
   intro i;simp only[Nat.testBit_xor,Nat.testBit_two_pow_mul];cases decide (i>=8)<;>simp
  rw[e3,← jaX,← jaK,jaR,Nat.add_comm 8]
def le4(s:Nat):List Nat:=[s % 256,s / 256 % 256,s / 65536 % 256,s / 16777216 % 256]
theorem sD(s:Nat):∀ x∈le4 s,x<256:=by
 intro x hx;simp[le4]at hx
 omega
theorem AH{s:Nat}(h:s<4294967296):leN (le4 s)=s:=by
 simp[le4,leN]
 omega
theorem TS{s t:Nat}(hs:s<4294967296)(ht:t<4294967296)(h:le4 s=le4 t):s=t:=by
 rw[← AH hs,← AH ht,h]
def bK(b:List Nat):List Nat:=b++le4 (mQ 0 b)
theorem jV(b:List Nat):(bK b).length=b.length+4:=by simp[bK,le4]
def ep(b:List Nat):Option (List Nat) :=
 if 4<=b.length/\bK (b.take (b.length-4))=b then some (b.take (b.length-4)) else none
theorem Gd(b:List Nat):ep (bK b)=some b:=by
 unfold ep
 have h:(bK b).take ((bK b).length-4)=b:=by
  rw[jV,jbx];unfold bK;rw[jaF]
 rw[h,if_pos ⟨by rw[jV];omega,rfl⟩]
theorem AJ{b:List Nat}{j y:Nat}(hb:∀ x∈b,x<256)(hj:j<(bK b).length)(hy:y<256)(h0:y≠0):ep ((bK b).set j ((bK b)[j] ^^^ y))=none:=by
 unfold ep;rw[if_neg];rintro⟨_,h⟩;have fo:=jV b;rw[ja4,fo,jbx]at h
 have hsb:∀ x∈bK b,x<256:=by
  intro x hx;rcases jaj.1 hx with hx | hx
  ·exact hb x hx
  ·exact sD _ x hx
 have hv:(bK b)[j] ^^^ y<256:=by
  have:(bK b)[j] ^^^ y<2 ^ 8:=jbr (hsb _ (ZV hj)) hy;omega
 have fO:(bK b)[j] ^^^ y≠(bK b)[j]:=by
  intro e;have:=congrArg (fun z=>(bK b)[j] ^^^ z) e;simp only[← jaP,Nat.xor_self,Nat.zero_xor]at this;exact h0 this
 by_cases VF:j<b.length
 ·have e1:(bK b).set j ((bK b)[j] ^^^ y)=b.set j (b[j] ^^^ y)++le4 (mQ 0 b):=by
   have hg:(bK b)[j]=b[j]:=jbu VF;rw[hg];unfold bK;rw[List.set_append_left _ _ VF]
  have fM:(b.set j (b[j] ^^^ y)).length=b.length:=ja4;rw[e1,List.take_append_of_le_length (by rw[fM];exact ZR _),jat (by rw[fM];exact ZR _)]at h;unfold bK at h;have h2:=List.append_cancel_left h
  have aD:∀ x∈b.set j (b[j] ^^^ y),x<256:=by
   intro x hx;rcases List.mem_or_eq_of_mem_set hx with hx | rfl
   ·exact hb x hx
   ·have:b[j] ^^^ y<2 ^ 8:=jbr (hb _ (ZV VF)) hy
    omega
  have h3:=TS (uD (by omega) aD) (uD (by omega) hb) h2;exact h0 (Gc (c:=0) (X:=y) (f:=8*j) hb aD fM.symm (by omega) (by omega) (JJ VF hb hy) h3.symm)
 ·have e1:((bK b).set j ((bK b)[j] ^^^ y)).take b.length=b:=by
   rw[List.take_set_of_le (by omega)];unfold bK;rw[jaF]
  rw[e1]at h;have:=congrArg (fun l:List Nat=>l[j]?) h;simp only[List.getElem?_set_self hj,List.getElem?_eq_getElem hj,Option.some.injEq]at this;exact fO this.symm
abbrev Row:=List Cl
def cT(rs:List Row)(k:Nat):List Cl:=rs.map fun r=>r.getD k nul
def lO(fs:List Fd)(k:Nat):Nat:=(fs.map fun f=>f.2.2.1).getD k 0
theorem lP{fs:List Fd}{k:Nat}(h:k<fs.length):lO fs k=fs[k].2.2.1:=by
 unfold lO;rw[List.getD_eq_getElem?_getD,List.getElem?_map,List.getElem?_eq_getElem h];rfl
theorem dp(rs:List Row)(k:Nat):(cT rs k).length=rs.length:=ZU _
def gq(c:Cl):List Nat:=if c.1=1 then uv (zigzag c.2.1) else if c.1=2 then [(c.2.1 % 256).toNat] else uv c.2.2.length++c.2.2
def xO(st:Stt):Nat:=(if st.some=true then 1 else 0)+(if st.high=true then 2 else 0)
def es(st:Stt):List Nat:=uv st.nulls.toNat++[xO st]++((if st.some=true then gq st.lo else [])++(if st.high=true then gq st.hi else []))
def nps(g n:Nat):Nat:=(n+g-1) / g
def prt(g:Nat)(rs:List Row)(j:Nat):List Row:=(rs.drop (j*g)).take g
def Ge(g:Nat)(rs:List Row):List (List Row):=(List.range (nps g rs.length)).map (prt g rs)
def eL(fs:List Fd)(p:List Row)(k:Nat):List Nat:=(List.range k).flatMap fun i=>em (lO fs i) (cT p i)
def ftK(fs:List Fd)(p:List Row)(k:Nat):List Nat:=(List.range k).flatMap fun i=>uv (em (lO fs i) (cT p i)).length++es (ct (cT p i))
def ip(fs:List Fd)(g:Nat)(rs:List Row)(j:Nat):List Nat:=(List.range j).flatMap fun i=>eL fs (prt g rs i) fs.length
def ftJ(fs:List Fd)(g:Nat)(rs:List Row)(j:Nat):List Nat:=(List.range j).flatMap fun i=>ftK fs (prt g rs i) fs.length
def fV(id:Nat)(fs:List Fd)(rs:List Row)(g:Nat):List Nat:=dz id fs++uv rs.length++uv g++ftJ fs g rs (nps g rs.length)
def lQ(id:Nat)(fs:List Fd)(rs:List Row)(g:Nat):List Nat:=ip fs g rs (nps g rs.length)++fV id fs rs g++le4 (fV id fs rs g).length
def et(id:Nat)(fs:List Fd)(rs:List Row)(g:Nat):List Nat:=[67,70,49]++lQ id fs rs g
theorem lR(fs:List Fd)(p:List Row)(k:Nat):eL fs p (k+1)=eL fs p k++em (lO fs k) (cT p k):=by
 unfold eL;rw[ja0,jaV];simp
theorem nz(fs:List Fd)(p:List Row)(k:Nat):ftK fs p (k+1)=ftK fs p k++(uv (em (lO fs k) (cT p k)).length++es (ct (cT p k))):=by
 unfold ftK;rw[ja0,jaV];simp
theorem sE(fs:List Fd)(g:Nat)(rs:List Row)(j:Nat):ip fs g rs (j+1)=ip fs g rs j++eL fs (prt g rs j) fs.length:=by
 unfold ip;rw[ja0,jaV];simp
theorem wF(fs:List Fd)(g:Nat)(rs:List Row)(j:Nat):ftJ fs g rs (j+1)=ftJ fs g rs j++ftK fs (prt g rs j) fs.length:=by
 unfold ftJ;rw[ja0,jaV];simp
def kr(fs:List Fd):List Row->Nat
 | []=>0
 | r::t=>if jE fs r=0 then kr fs t else jE fs r
def dS(id:Nat)(fs:List Fd)(rs:List Row)(g:Int):Nat :=
 if chk id fs≠0 then chk id fs else if g<1∨64<g then 1 else if 256<rs.length then 5 else kr fs rs
def bT(id:Nat)(fs:List Fd)(rs:List Row)(g:Int):List Nat×Nat :=
 if dS id fs rs g≠0 then ([],dS id fs rs g) else if 65536<(bK (et id fs rs g.toNat)).length then ([],4) else (bK (et id fs rs g.toNat),0)
abbrev S3:=List Nat×List Nat×Bool
def lS(lo hi:Nat)(b:List Nat):Bool:=!decide ((gt b).2.2=0/\lo<=(gt b).1/\(gt b).1<=hi)
def fY(lo hi:Nat)(b:List Nat):Nat:=if lS lo hi b=true then 0 else (gt b).1
def dC(b:List Nat):List Nat:=b.drop (gt b).2.1
theorem qP(lo hi:Nat)(b:List Nat):fY lo hi b<=hi:=by
 unfold fY lS;split
 ·omega
 ·next h =>
  simp only[Bool.not_eq_true',decide_eq_false_iff_not,Decidable.not_not]at h;exact h.2.2
theorem JK{lo hi:Nat}{b:List Nat}(h:lS lo hi b=false):lo<=fY lo hi b:=by
 unfold fY;rw[if_neg (by rw[h];decide)];unfold lS at h;simp only[Bool.not_eq_false',decide_eq_true_eq]at h;exact h.2.1
theorem pL{lo hi n:Nat}(h1:lo<=n)(h2:n<=hi)(h3:n<18446744073709551616)(r:List Nat):lS lo hi (uv n++r)=false/\fY lo hi (uv n++r)=n/\dC (uv n++r)=r:=by
 have hg:=mh n h3 r
 have hb:lS lo hi (uv n++r)=false:=by
  unfold lS;rw[hg];simp[h1,h2]
 refine⟨hb,?_,?_⟩
 ·unfold fY
  rw[hb,hg];rfl
 ·unfold dC
  rw[hg,jas]
def iq(k n:Nat)(s:S3):List Cl×S3 :=
 ((gj k (s.1.take (fY 0 s.1.length s.2.1)) n).getD [],
  (s.1.drop (fY 0 s.1.length s.2.1),dC s.2.1,(s.2.2 || lS 0 s.1.length s.2.1) || (gj k (s.1.take (fY 0 s.1.length s.2.1)) n).isNone))
def pM(l:List Cl)(s:S3):S3:=if (es (ct l)).isPrefixOf s.2.1=true then (s.1,s.2.1.drop (es (ct l)).length,s.2.2) else (s.1,s.2.1,true)
def psh(rs:List Row)(l:List Cl):List Row:=rs.mapIdx fun i r=>r++(l[i]?).toList
def grS(n:Nat)(st:List Row×List Stt×S3)(f:Fd):List Row×List Stt×S3 :=
 (psh st.1 (iq f.2.2.1 n st.2.2).1,st.2.1++[ct (iq f.2.2.1 n st.2.2).1],pM (iq f.2.2.1 n st.2.2).1 (iq f.2.2.1 n st.2.2).2)
def grK(fs:List Fd)(n:Nat)(s:S3)(k:Nat):List Row×List Stt×S3:=(fs.take k).foldl (grS n) (List.replicate n [],[],s)
theorem wG(fs:List Fd)(n:Nat)(s:S3):grK fs n s 0=(List.replicate n [],[],s):=rfl
theorem qQ{fs:List Fd}{k:Nat}(h:k<fs.length)(n:Nat)(s:S3):grK fs n s (k+1)=grS n (grK fs n s k) fs[k]:=by
 unfold grK;rw[Z5 h,List.foldl_append];rfl
abbrev Gr:=List Row×List Stt
def fiJ(fs:List Fd)(g tot:Nat)(s:S3):Nat->List Gr×S3
 | 0=>([],s)
 | j+1=>((fiJ fs g tot s j).1++[((grK fs (min (tot-j*g) g) (fiJ fs g tot s j).2 fs.length).1,(grK fs (min (tot-j*g) g) (fiJ fs g tot s j).2 fs.length).2.1)],
   (grK fs (min (tot-j*g) g) (fiJ fs g tot s j).2 fs.length).2.2)
def gV(fs:List Fd)(c r:List Nat):List Gr×S3 :=
 fiJ fs (fY 1 64 (dC r)) (fY 0 256 r) (c,dC (dC r),lS 0 256 r || lS 1 64 (dC r)) (nps (fY 1 64 (dC r)) (fY 0 256 r))
def iI(b:List Nat):Option (Nat×List Fd×Nat×List Gr) :=
 if b.length<4 then none else
 if b.length-4<leN (b.drop (b.length-4)) then none else
 match cY ((b.take (b.length-4)).drop (b.length-4-leN (b.drop (b.length-4))))with
 | .error _=>none
 | .ok ((id,fs),r)=>if (gV fs (b.take (b.length-4-leN (b.drop (b.length-4)))) r).2.2.2=true then none
  else some (id,fs,fY 1 64 (dC r),(gV fs (b.take (b.length-4-leN (b.drop (b.length-4)))) r).1)
def bP(gs:List Gr):List Row:=(gs.map Prod.fst).flatten
def jl(b:List Nat):Except Nat (Nat×List Fd×Nat×List Gr) :=
 match ep b with
 | none=>.error 101
 | some t=>if t.take 3=[67,70,49] then (match iI (t.drop 3)with
   | none=>.error 102
   | some x=>if bT x.1 x.2.1 (bP x.2.2.2) x.2.2.1=(b,0) then .ok x else .error 102) else .error 100
theorem tv{l:List Cl}{s:S3}(h:(pM l s).2.2=false):s.2.2=false/\s.2.1=es (ct l)++(pM l s).2.1/\(pM l s).1=s.1:=by
 unfold pM at *;split at h
 ·next hp =>
  rw[if_pos hp];refine⟨h,?_,rfl⟩;obtain⟨t,ht⟩:=jaW.1 hp;show _=_++List.drop _ _
  rw[← ht,jas]
 ·cases h
theorem TT{l:List Cl}{c b:List Nat}{fl:Bool}:pM l (c,es (ct l)++b,fl)=(c,b,fl):=by
 unfold pM;rw[if_pos (jaW.2 ⟨b,rfl⟩),jas]
theorem tw{k n:Nat}{s:S3}(h:(iq k n s).2.2.2=false):s.2.2=false/\∃ l c,(iq k n s).1=l/\gj k c n=some l/\s.1=c++(iq k n s).2.1:=by
 unfold iq at *;simp only[Bool.or_eq_false_iff]at h;refine⟨h.1.1,?_⟩;cases hr:gj k (s.1.take (fY 0 s.1.length s.2.1)) n with
 | none=>rw[hr]at h;simp at h
 | some l=>exact⟨l,_,rfl,hr,(ja5 _ _).symm⟩
theorem wH{n:Nat}{st:List Row×List Stt×S3}{f:Fd}(h:(grS n st f).2.2.2.2=false):st.2.2.2.2=false/\(iq f.2.2.1 n st.2.2).2.2.2=false:=by
 unfold grS at h;have h1:=(tv h).1;exact⟨(tw h1).1,h1⟩
theorem tz{n:Nat}:∀{fs:List Fd} {st:List Row×List Stt×S3},(fs.foldl (grS n) st).2.2.2.2=false->st.2.2.2.2=false
 | [],_,h=>h
 | f::t,st,h=>(wH (tz (fs:=t) h)).1
theorem Gf{fs:List Fd}{n:Nat}{s:S3}{k:Nat}(h:(grK fs n s k).2.2.2.2=false):s.2.2=false:=tz (st:=(List.replicate n [],[],s)) h
theorem pN{fs:List Fd}{g tot:Nat}{s:S3}:∀{m j:Nat},j<=m->(fiJ fs g tot s m).2.2.2=false->(fiJ fs g tot s j).2.2.2=false:=by
 intro m;induction m with
 | zero =>
  intro j hj h;obtain rfl:j=0:=by omega
  exact h
 | succ m ih =>
  intro j hj h;rcases jae m j with h1 | h1
  ·obtain rfl:j=m+1:=by omega
   exact h
  ·exact ih h1 (Gf (k:=fs.length) h)
def fI(n:Nat)(cols:List (List Cl)):List Row:=(List.range n).map fun i=>cols.map fun l=>l.getD i nul
theorem wI(n:Nat):fI n []=List.replicate n []:=by
 unfold fI;apply List.ext_getElem?
 intro i;by_cases h:i<n
 ·simp[h]
 ·simp[h]
theorem gr(n:Nat)(cols:List (List Cl)):(fI n cols).length=n:=by simp[fI]
theorem mv{n:Nat}{cols:List (List Cl)}{i:Nat}(h:i<n):(fI n cols)[i]?=some (cols.map fun l=>l.getD i nul):=by
 unfold fI;simp[h]
theorem wJ{n:Nat}{cols:List (List Cl)}{l:List Cl}(h:l.length=n):psh (fI n cols) l=fI n (cols++[l]):=by
 unfold psh;apply List.ext_getElem?
 intro i;rw[List.getElem?_mapIdx];by_cases hi:i<n
 ·rw[mv hi,mv hi,List.getElem?_eq_getElem (by omega)]
  simp[List.getD_eq_getElem?_getD,List.getElem?_eq_getElem (show i<l.length by omega)]
 ·rw[List.getElem?_eq_none (l:=fI n cols) (by rw[gr];omega),List.getElem?_eq_none (l:=fI n (cols++[l])) (by rw[gr];omega)]
  rfl
theorem Dh{n:Nat}{cols:List (List Cl)}{k:Nat}(hk:k<cols.length)(h:cols[k].length=n):cT (fI n cols) k=cols[k]:=by
 unfold cT;apply List.ext_getElem?
 intro i;rw[List.getElem?_map];by_cases hi:i<n
 ·rw[mv hi,List.getElem?_eq_getElem (show i<cols[k].length by omega)]
  simp[List.getD_eq_getElem?_getD,List.getElem?_eq_getElem hk,List.getElem?_eq_getElem (show i<cols[k].length by omega)]
 ·rw[List.getElem?_eq_none (by rw[gr];omega),List.getElem?_eq_none (by omega)]
  rfl
theorem Di{p:List Row}{m:Nat}(h:∀ r∈p,r.length=m):fI p.length ((List.range m).map (cT p))=p:=by
 apply List.ext_getElem?
 intro i;by_cases hi:i<p.length
 ·rw[mv hi,List.getElem?_eq_getElem hi,jao]
  congr 1
  have hm:=h _ (ZV hi);apply List.ext_getElem?
  intro k;rw[List.getElem?_map];by_cases hk:k<m
  ·rw[List.getElem?_range hk,List.getElem?_eq_getElem (by omega)]
   simp[cT,List.getD_eq_getElem?_getD,List.getElem?_eq_getElem hi,List.getElem?_eq_getElem (show k<p[i].length by omega)]
  ·rw[List.getElem?_eq_none (by simp;omega),List.getElem?_eq_none (by omega)]
   rfl
 ·rw[List.getElem?_eq_none (by rw[gr];omega),List.getElem?_eq_none (by omega)]
def Whl(fs:List Fd)(n:Nat)(cols:List (List Cl)):Prop:=∀ i (h:i<cols.length),Col (lO fs i) cols[i]/\cols[i].length=n
theorem Ll{fs:List Fd}{n:Nat}{s:S3}(hn:n<=64)(hk:∀ f∈fs,1<=f.2.2.1/\f.2.2.1<=3)(hb:Bs s.1):∀{k:Nat},k<=fs.length->(grK fs n s k).2.2.2.2=false ->
  ∃ cols,cols.length=k/\Whl fs n cols/\(grK fs n s k).1=fI n cols/\(grK fs n s k).2.1=cols.map ct/\Bs (grK fs n s k).2.2.1:=by
 intro k;induction k with
 | zero=>exact fun _ _=>⟨[],rfl,fun i h=>by simp at h,(wI n).symm,rfl,hb⟩
 | succ k ih =>
  intro pd h;rw[qQ (by omega)]at h ⊢;obtain⟨h1,h2⟩:=wH h;obtain⟨cols,hc,hw,hr,hs,xw⟩:=ih (by omega) h1;obtain⟨_,l,c,e1,e2,e3⟩:=tw h2;have SH:Bs c:=fun x hx=>xw x (by rw[e3];exact List.mem_append_left _ hx)
  have EP:=hk _ (ZV (show k<fs.length by omega));obtain⟨q1,q2,_⟩:=(lJ EP (by omega) SH).1 e2;refine⟨cols++[l],by simp[hc],?_,?_,?_,?_⟩
  ·intro i hi
   rcases jae i cols.length with h3 | h3
   ·rw[jbu h3]
    exact hw i h3
   ·obtain rfl:i=cols.length:=by simp at hi;omega
    rw[List.getElem_append_right (ZR _)];simp only[ja9,jbj];rw[hc,lP (by omega)];exact⟨q1,q2⟩
  ·unfold grS
   simp only[e1,hr];exact wJ q2
  ·unfold grS
   simp only[e1,hs,Z8,jal,jaG]
  ·have h4:=(tv (l:=(iq fs[k].2.2.1 n (grK fs n s k).2.2).1) (s:=(iq fs[k].2.2.1 n (grK fs n s k).2.2).2) h).2.2
   unfold grS;simp only;rw[h4];exact fun x hx=>xw x (by rw[e3];exact List.mem_append_right _ hx)
theorem pO(n:Nat)(hn:n<9223372036854775808)(w:World):Calls Tryz.prog 81 #[.int .i64 (n:Int)] w (du w (uv n)):=by
 have HV:=ae (dG n (by omega));have Hj:IntKind.u64.wrap (n:Int)=(n:Int):=by rw[jag];omega
 go_enter Tryz.func81,Tryz.ntmps81
 go_wp2_with fail;refine(HV.out _).mono ?_;rintro e w1 ⟨⟨v1,rfl,o1⟩,aG⟩;go_wp2_with fail;go_ret
 exact⟨⟨_,rfl,o1⟩,aG⟩
theorem qR{l:List Nat}(h:Bs l):dd (am l)=l:=by
 unfold dd;rw[bx];exact ff h
theorem Dj{s:List Nat}(c:Nat)(n:Int)(hc:(c:Int)≠1)(kx:(c:Int)≠2)(hl:s.length<=64)(h8:Bs s)(w:World) :
  Calls Tryz.prog 133 #[.agg #[.int .u8 (c:Int),.int .i64 n,.string (am s)]] w (du w (uv s.length++s)):=by
 have HE:=ae (qR h8);have jq:(am s).size=s.length:=bi s;have HV:=ae (pO s.length (by omega));have uj:=bI (n:=s.length) (by omega);have h1:((c:Int)==1)=false:=Z1.2 hc;have h2:((c:Int)==2)=false:=Z1.2 kx;obtain⟨x0,x1,x2⟩:=dF w (.int .u8 (c:Int)) (.int .i64 n) (.string (am s)) 52;have hz:w.heap.size<(w.alloc (.cells #[.int .u8 (c:Int),.int .i64 n,.string (am s)] 52)).heap.size:=by rw[ZS];omega
 have cC:=ae (ak w (.cells #[.int .u8 (c:Int),.int .i64 n,.string (am s)] 52));generalize hW:w.alloc (.cells #[.int .u8 (c:Int),.int .i64 n,.string (am s)] 52)=W at *
 have ei:Hid (∀ n W',Below W.heap.size (W.drewN n) W'->W'.cell? ⟨w.heap.size,2,none⟩=some (.string (am s))/\Below W.heap.size W W'/\W.heap.size<=W'.heap.size):=ae (fun n W' h=>by
  have hb':Below W.heap.size W W':=(below_drewN (ZQ _ _) n).trans h;exact⟨(hb'.cell (p:=⟨w.heap.size,2,none⟩) hz).trans x2,hb',hb'.size⟩)
 generalize hP:uv s.length=P at *;have hPp:0<P.length:=by rw[← hP];exact mg _
 clear hP hc kx h8;go_enter Tryz.func133,Tryz.ntmps133
 go_wp2_with fail;try rw[hW]
 clear hW
 go_region_held3 (fun w'=>w'.cell? ⟨w.heap.size,2,none⟩=some (.string (am s))) (go_keep) (first
  | (go_at_call 81;refine(HV.out _).mono ?_;rintro e w2 ⟨⟨v2,rfl,cx⟩,aD⟩;obtain⟨Hv,oI,X1⟩:=ei.out _ _ aD;have H6:=ae oI;have dr:=ae cx;clear aD oI cx)
  | (refine mL (by rfl) _ _ (by rfl) W.heap.size _ P (am s) (by rfl) ?_ (by rfl) ?_ ?_ ?_;exact(aZ dr.out (by simp));omega;omega;intro v3 w3 o3 b3;have rK:=(b3.cell (p:=⟨w.heap.size,2,none⟩) hz).trans Hv;have cX:=ae o3;have bM:=ae (H6.out.trans b3);clear o3 b3))
 all_goals go_wp2_with fail
 all_goals go_ret
 all_goals rw[HE.out]at cX
 all_goals exact⟨⟨_,rfl,aZ cX.out cC.out.size⟩,ai cC.out bM.out⟩
end Go.Proofs.YtpljdjmpamjkhaaGreatDoor
