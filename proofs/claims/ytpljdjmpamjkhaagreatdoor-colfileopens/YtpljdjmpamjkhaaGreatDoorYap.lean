import Derived.Test.YtpljdjmpamjkhaaGreatDoorYac
import Derived.Test.YtpljdjmpamjkhaaGreatDoorYao
import Derived.Test.YtpljdjmpamjkhaaGreatDoorYag
import Derived.Test.YtpljdjmpamjkhaaGreatDoorYae
set_option linter.unusedVariables false
set_option linter.unusedSimpArgs false
set_option maxRecDepth 100000
set_option maxHeartbeats 4000000
namespace Go.Proofs.YtpljdjmpamjkhaaGreatDoor
open Go.RowKit Go.Lib
theorem K1{c:Nat×Int×List Nat}(h:aU c)(w:World):Calls Tryz.prog 76 #[de c] w fun e w'=>e=.returned (.agg #[.int .u8 (c.1:Int),.int .i64 c.2.1,.string (am c.2.2)])/\Below w.heap.size w w':=C6 h.val w
theorem zc{w:World}{v:Value}{l:List (Nat×Int×List Nat)}(hs:Sv w v (aI l))(hf:∀ c∈l,aU c)(hl:l.length<=600) :
  Calls Tryz.prog 37 #[v] w fun e w'=>(∃ v',e=.returned v'/\gY w' w.heap.size v' l)/\Below w.heap.size w w':=by
 have HS:=ae hs;have HK:=ae hf;obtain⟨a,cap,rfl,aX,bw⟩:=hs.form1;rw[aF]at *;have hcm':cap<=9223372036854775807:=by unfold maxLen at bw;omega
 clear hs bw hf;go_enter Tryz.func37,Tryz.ntmps37
 go_wp2_with fail;go_loopw [3,4] (fun o i wr=>∃ j:Nat,j<=l.length/\i=.int .i64 (j:Int)/\gY wr w.heap.size o (l.take j)/\Below w.heap.size w wr) (fun _ i _=>l.length-(intOf i).toNat)
 case atStart=>exact⟨0,by omega,rfl,gY.nil _ _,ZQ _ _⟩
 case round =>
  obtain⟨j,hj,rfl,az,ay⟩:=hrel;have HO:=ae az;have HB:=ae ay;have bO:=ay.size;clear az ay;by_cases aB:j<l.length
  ·obtain⟨g,off,rfl,hg,bo⟩:=(HS.out.kept HB.out).at1 (cK aB)
   have hlt':(j:Int)<(l.length:Int):=by omega
   have mV:Hid (l.take (j+1)=l.take j++[l[j]]):=ae (Z5 aB);have hlen':(l.take j).length<=100000:=by rw[ZX];omega
   have HVA:=ae (K1 (HK.out l[j] (ZV aB)));generalize l[j]=fc at *;generalize l.take j=LL at *;generalize de fc=vc at *;go_wp2_with fail;refine(HVA.out _).mono ?_;rintro e w1 ⟨rfl,aG⟩;have fA:=ae (HO.out.kept aG);have aQ:=ae (HB.out.trans (aG.mono bO));have cW:=aG.size;have mP:=ae (dF w1 (.int .u8 (fc.1:Int)) (.int .i64 fc.2.1) (.string (am fc.2.2)) 52);clear aG bo;go_wp2_with (first | (at_builtin;refine mH rfl _ _ rfl w.heap.size _ _ fc LL rfl (fA.out.kept (ak _ _)) rfl mP.out.1 mP.out.2.1 mP.out.2.2 hlen' ?c2 ?_))
   case c2=>first | omega | (rw[ZS];omega)
   intro v' w5 o5 b5;have dH:=ae o5;have aR:=ae ((aQ.out.alloc (ZZ bO cW) _).trans b5);clear o5 b5;go_wp2_with fail;go_roundw
   case rel=>exact⟨j+1,by omega,by go_num,by rw[mV.out];exact dH.out,aR.out⟩
   case measure=>simp[intOf];omega
  ·obtain rfl:j=l.length:=by omega
   rw[ZY]at HO;have gJ:¬ ((l.length:Nat):Int)<(l.length:Int):=by omega
   go_wp2_with fail;go_ret
   exact⟨⟨_,rfl,HO.out⟩,HB.out⟩
theorem C7{w:World}{v1 v2:Value}{l m:List (Nat×Int×List Nat)}(h1:Sc w v1 l)(h2:Sc w v2 m)(aG:∀ c∈l,Bs c.2.2)(aD:∀ c∈m,Bs c.2.2) :
  Calls Tryz.prog 36 #[v1,v2] w fun e w'=>e=.returned (.bool (decide (l=m)))/\Below w.heap.size w w':=by
 have iM:=ae h1;have gC:=ae h2;have aQ:=ae aG;have aN:=ae aD;obtain⟨a,cap,rfl,aX,bw⟩:=h1.form;obtain⟨a2,cap2,rfl,Rk,yc⟩:=h2.form;have hcm':cap<=9223372036854775807:=by unfold maxLen at bw;omega
 have hcm2':cap2<=9223372036854775807:=by unfold maxLen at yc;omega
 clear h1 h2 aG aD bw yc;by_cases bQ:l.length=m.length
 ·have fO:(((l.length:Nat):Int) != (m.length:Int))=false:=by simp[bQ]
  have Bu:=ae bQ;clear bQ;go_enter Tryz.func36,Tryz.ntmps36
  go_wp2_with fail;go_loopw [5] (fun i wr=>∃ j:Nat,j<=l.length/\i=.int .i64 (j:Int)/\l.take j=m.take j/\Below w.heap.size w wr) (fun i _=>l.length-(intOf i).toNat)
  case atStart=>exact⟨0,by omega,rfl,rfl,ZQ _ _⟩
  case round =>
   obtain⟨j,hj,rfl,VO,ay⟩:=hrel;have SK:=ae VO;have HB:=ae ay;clear VO ay;by_cases aB:j<l.length
   ·have X4:j<m.length:=by have:=Bu.out;omega
    obtain⟨g,off,rfl,hg,c0,c1,c2⟩:=(iM.out.kept HB.out).at aB;obtain⟨g2,off2,rfl,gK,d0,d1,d2⟩:=(gC.out.kept HB.out).at X4;have hlt':(j:Int)<(l.length:Int):=by omega
    have hltm':(j:Int)<(m.length:Int):=by omega
    have mV:=ae (fun he=>Af aB X4 SK.out he);have MY:Hid (l[j]≠m[j]->decide (l=m)=false):=ae (fun h=>decide_eq_false (fun e=>h (by subst e;rfl)));have HBC:=ae (aQ.out l[j] (ZV aB));have ER:=ae (aN.out m[j] (ZV X4));rw[ek]at c2 d2;generalize l[j]=c at *;generalize m[j]=d at *;obtain⟨ck,cn,cs⟩:=c;obtain⟨dk,dn,ds⟩:=d;simp only at *;by_cases hk:ck=dk
    ·subst hk
     by_cases hn:cn=dn
     ·subst hn
      by_cases hs:cs=ds
      ·subst hs
       have HN':=ae (mV.out rfl);clear mV MY;generalize am cs=S at *;go_wp2_with fail;go_quiet (fail)
       go_wp2_with fail;go_roundw
       case rel=>exact⟨j+1,by omega,by go_num,HN'.out,HB.out.trans ⟨rfl,rfl,rfl,ZR _,fun _ _=>rfl⟩⟩
       case measure=>simp[intOf];omega
      ·have HNE':=ae (MY.out (fun e=>hs (by simpa using e)))
       have hss:((am cs).toList==(am ds).toList)=false:=by
        rw[bx,bx];exact Z1.2 (fun e=>hs (by rw[← ff HBC.out,← ff ER.out,e]))
       clear mV MY hs;generalize am cs=S at *;generalize am ds=T at *;go_wp2_with fail;go_quiet (fail)
       go_wp2_with fail;go_ret
       rw[HNE'.out];exact⟨rfl,HB.out.trans ⟨rfl,rfl,rfl,ZR _,fun _ _=>rfl⟩⟩
     ·have HNE':=ae (MY.out (fun e=>hn (by have:=congrArg (fun t=>t.2.1) e;simpa using this)))
      have VN:(cn==dn)=false:=Z1.2 hn;clear mV MY hn;generalize am cs=S at *;generalize am ds=T at *;go_wp2_with fail;go_quiet (fail)
      go_wp2_with fail;go_ret
      rw[HNE'.out];exact⟨rfl,HB.out.trans ⟨rfl,rfl,rfl,ZR _,fun _ _=>rfl⟩⟩
    ·have HNE':=ae (MY.out (fun e=>hk (by have:=congrArg (fun t=>t.1) e;simpa using this)))
     have EP:((ck:Int)==(dk:Int))=false:=Z1.2 (by omega);clear mV MY hk;generalize am cs=S at *;generalize am ds=T at *;go_wp2_with fail;go_quiet (fail)
     go_wp2_with fail;go_ret
     rw[HNE'.out];exact⟨rfl,HB.out.trans ⟨rfl,rfl,rfl,ZR _,fun _ _=>rfl⟩⟩
   ·obtain rfl:j=l.length:=by omega
    have Bv:Hid (decide (l=m)=true):=ae (decide_eq_true (by
     have:=SK.out;rw[ZY]at this;rw[this,Bu.out,ZY]))
    have gJ:¬ ((l.length:Nat):Int)<(l.length:Int):=by omega
    go_wp2_with fail;go_ret
    rw[Bv.out];exact⟨rfl,HB.out⟩
 ·have fO:(((l.length:Nat):Int) != (m.length:Int))=true:=by
   have:(l.length:Int)≠(m.length:Int):=by omega
   simpa using this
  have Bv:Hid (decide (l=m)=false):=ae (decide_eq_false (fun e=>bQ (by rw[e])));clear bQ;go_enter Tryz.func36,Tryz.ntmps36
  go_wp2_with fail;go_ret
  rw[Bv.out];exact⟨rfl,ZQ _ _⟩
theorem AC(k:Nat)(w:World):Calls Tryz.prog 164 #[.int .u8 (k:Int)] w fun e w'=>e=.returned (.bool (kH k))/\w'=w:=by
 by_cases h1:((k:Int)==1)=true
 ·have hk:k=1:=by have:(k:Int)=1:=(by simpa using h1);omega
  subst hk;go_enter Tryz.func164,Tryz.ntmps164
  go_wp2;go_ret
  exact⟨rfl,rfl⟩
 ·by_cases h2:((k:Int)==2)=true
  ·have hk:k=2:=by have:(k:Int)=2:=(by simpa using h2);omega
   subst hk;go_enter Tryz.func164,Tryz.ntmps164
   go_wp2;go_ret
   exact⟨rfl,rfl⟩
  ·by_cases h3:((k:Int)==3)=true
   ·have hk:k=3:=by have:(k:Int)=3:=(by simpa using h3);omega
    subst hk;go_enter Tryz.func164,Tryz.ntmps164
    go_wp2;go_ret
    exact⟨rfl,rfl⟩
   ·have h1':((k:Int)==1)=false:=by simpa using h1
    have h2':((k:Int)==2)=false:=by simpa using h2
    have h3':((k:Int)==3)=false:=by simpa using h3
    have HN:Hid (kH k=false):=ae (by
     have a1:(k:Int)≠1:=by simpa using h1
     have a2:(k:Int)≠2:=by simpa using h2
     have a3:(k:Int)≠3:=by simpa using h3
     exact decide_eq_false (by omega))
    rw[HN.out];clear h1 h2 h3;go_enter Tryz.func164,Tryz.ntmps164
    go_wp2;go_ret
    exact⟨rfl,rfl⟩
theorem FI{w:World}{v:Value}{l:List Fd}(hs:Sf w v l):Calls Tryz.prog 162 #[v] w fun e w'=>e=.returned (.int .u32 (eR l:Int))/\w'=w:=by
 obtain⟨a,cap,rfl,aX,bw⟩:=hs.form;by_cases hl:l.length=0
 ·have h0:((l.length:Int)==0)=true:=by simp[hl]
  have HN:Hid (eR l=0):=ae (by rw[jab hl];rfl);clear hs hl;go_enter Tryz.func162,Tryz.ntmps162
  go_wp2;go_ret
  rw[HN.out];exact⟨rfl,rfl⟩
 ·obtain⟨b,off,rfl,hb,c0,c1,c2,c3⟩:=hs.at (k:=l.length-1) (by omega)
  have HN:=ae (Kk (l:=l) (by omega));have h0:((l.length:Int)==0)=false:=by simp[hl]
  obtain⟨m,hm⟩:∃ m,l.length=m+1:=⟨l.length-1,by omega⟩;have hq:((l.length:Int)-1)=(m:Int):=by omega
  have e1:l.length-1=m:=by omega
  generalize hx:(l[l.length-1]'(by omega)).1=x at *;rw[e1]at c0;clear hs hx c1 c2 c3 e1 hl;go_enter Tryz.func162,Tryz.ntmps162
  go_wp2;go_ret
  rw[HN.out];exact⟨rfl,rfl⟩
theorem PA{w:World}{B:Nat}{v:Value}{u:List (Nat×Nat)}(h:w.ownsRow B 3 1 v u.length (sgn u u.length)):∃ a cap,v=.slice a u.length cap/\u.length<=cap/\cap<=maxLen/\∀ k (hk:k<u.length),∃ g,a=some ⟨g,0,none⟩/\w.cell? ⟨g,k,none⟩=some (.int .i64 (u[k].1:Int)):=by
 obtain⟨a,cap,rfl,h1,h2⟩:=aM h;refine⟨a,cap,rfl,h1,h2,fun k hk=>?_⟩;obtain⟨g,cap',e,_,_,hc⟩:=(rN h).2 (by omega);simp only[Value.slice.injEq]at e;exact⟨g,e.1,hc k _ (Jy hk)⟩
theorem TE{u:List (Nat×Nat)}{k:Nat}(hk:k<u.length):dJ k (u.drop k)=(kG k u[k].1 && dJ (k+1) (u.drop (k+1))):=by
 rw[jar hk,oP]
theorem C8{k c:Nat}(h:97<=c/\c<=122∨c=95∨127<c):kG k c=true:=by
 unfold kG gy;simp
 omega
theorem FK{k c:Nat}(h1:48<=c)(h2:c<=57)(hk:0<k):kG k c=true:=by
 unfold kG ey;simp[hk]
 omega
theorem PB{c:Nat}(h:¬ (97<=c/\c<=122∨c=95∨127<c)):kG 0 c=false:=by
 unfold kG gy;simp
 omega
theorem K2{k c:Nat}(h:¬ (97<=c/\c<=122∨c=95∨127<c))(h2:¬ (48<=c/\c<=57)):kG k c=false:=by
 unfold kG gy ey;simp
 omega
theorem K3(s:ByteArray)(w:World):Calls Tryz.prog 49 #[.string s] w fun e w'=>e=.returned (.bool (named s))/\Below w.heap.size w w':=by
 by_cases h1:(s.size:Int)<1
 ·have HN:Hid (named s=false):=ae (by unfold named;rw[decide_eq_false (by omega)];rfl)
  go_enter Tryz.func49,Tryz.ntmps49
  go_wp2_with fail;go_ret
  rw[HN.out];exact⟨rfl,ZQ _ _⟩
 ·by_cases h2:(s.size:Int) > 16
  ·have HN:Hid (named s=false):=ae (by unfold named;rw[decide_eq_false (by omega)];rfl)
   go_enter Tryz.func49,Tryz.ntmps49
   go_wp2_with fail;go_ret
   rw[HN.out];exact⟨rfl,ZQ _ _⟩
  ·have HN:Hid (named s=(dI (lb s) && dJ 0 (V (lb s)))):=ae (by unfold named;rw[decide_eq_true (by omega)];rfl)
   have HC:=ae (nY s (by omega));have hV:=BW (lb s);have hL:=cG s;have hV16:(V (lb s)).length<=16:=by omega
   clear hV hL;generalize dI (lb s)=cl at *;generalize V (lb s)=u at *;go_enter Tryz.func49,Tryz.ntmps49
   go_wp2_with fail;refine(HC.out _).mono ?_;rintro e w1 ⟨⟨va,vb,rfl,eG,fq⟩,aG⟩;obtain⟨a,cap,rfl,aX,bw,bo⟩:=PA eG;have HCE:=ae bo;have aQ:=ae aG;have hcm':cap<=9223372036854775807:=by unfold maxLen at bw;omega
   clear eG fq aG bo bw HC;go_wp2_with fail;go_loopw [6] (fun i w'=>∃ k:Nat,w'=w1/\i=.int .i64 (k:Int)/\k<=u.length/\dJ 0 u=dJ k (u.drop k)) (fun i _=>u.length-(intOf i).toNat)
   case atStart=>exact⟨0,rfl,rfl,by omega,rfl⟩
   case round =>
    obtain⟨k,rfl,rfl,hk,ee⟩:=hrel;have HG:=ae ee;clear ee;by_cases aB:k<u.length
    ·obtain⟨g,rfl,hc⟩:=HCE.out k aB
     have HS:=ae (HG.out.trans (TE aB));generalize u[k].1=c at *;by_cases hA:97<=c/\c<=122∨c=95∨127<c
     ·have HK:=ae (C8 (k:=k) hA)
      have hd:(48<=(c:Int)/\(c:Int)<=57)∨(c:Int)<48∨¬ (c:Int)<=57:=by omega
      rcases hA with ⟨q1,q2⟩ | q1 | q1
      ·have t1:(c:Int)>=97:=by omega
       have t2:(c:Int)<=122:=by omega
       have t3:(c:Int)>=48:=by omega
       have t4:¬ (c:Int)<=57:=by omega
       clear hd;go_wp2_with fail;go_roundw
       case rel=>exact⟨k+1,trivial,by go_num,by omega,by rw[HS.out,HK.out];rfl⟩
       case measure=>simp[intOf];omega
      ·have t0:((c:Int)==95)=true:=by simp;omega
       subst q1;clear hd;go_wp2_with fail;go_roundw
       case rel=>exact⟨k+1,trivial,by go_num,by omega,by rw[HS.out,HK.out];rfl⟩
       case measure=>simp[intOf];omega
      ·have t0:((c:Int)==95)=false:=by simp;omega
       have t1:(c:Int)>=97:=by omega
       have t2:¬ (c:Int)<=122:=by omega
       have t3:(c:Int)>=48:=by omega
       have t4:¬ (c:Int)<=57:=by omega
       have t5:(c:Int) > 127:=by omega
       clear hd;go_wp2_with fail;go_roundw
       case rel=>exact⟨k+1,trivial,by go_num,by omega,by rw[HS.out,HK.out];rfl⟩
       case measure=>simp[intOf];omega
     ·have t0:((c:Int)==95)=false:=by simp;omega
      have t5:¬ (c:Int) > 127:=by omega
      by_cases hD:48<=c/\c<=57
      ·have t1:¬ (c:Int)>=97:=by omega
       have t3:(c:Int)>=48:=by omega
       have t4:(c:Int)<=57:=by omega
       by_cases pY:k=0
       ·subst pY
        have HK:=ae (PB hA);clear hA hD;go_wp2_with fail;go_ret
        refine⟨?_,aQ.out⟩;rw[HN.out,HS.out,HK.out];simp
       ·have HK:=ae (FK (k:=k) hD.1 hD.2 (by omega))
        have hkp:(k:Int) > 0:=by omega
        have hkp2:0<k:=by omega
        clear hA hD pY;go_wp2_with fail;go_roundw
        case rel=>exact⟨k+1,trivial,by go_num,by omega,by rw[HS.out,HK.out];rfl⟩
        case measure=>simp[intOf];omega
      ·have HK:=ae (K2 (k:=k) hA hD)
       have UN:(c:Int)<48∨(57<(c:Int)/\(c:Int)<97)∨(122<(c:Int)):=by omega
       clear hA hD;rcases UN with q | ⟨q,q'⟩ | q
       ·have t1:¬ (c:Int)>=97:=by omega
        have t3:¬ (c:Int)>=48:=by omega
        go_wp2_with fail;go_ret
        refine⟨?_,aQ.out⟩;rw[HN.out,HS.out,HK.out];simp
       ·have t1:¬ (c:Int)>=97:=by omega
        have t3:(c:Int)>=48:=by omega
        have t4:¬ (c:Int)<=57:=by omega
        go_wp2_with fail;go_ret
        refine⟨?_,aQ.out⟩;rw[HN.out,HS.out,HK.out];simp
       ·have t1:(c:Int)>=97:=by omega
        have t2:¬ (c:Int)<=122:=by omega
        have t3:(c:Int)>=48:=by omega
        have t4:¬ (c:Int)<=57:=by omega
        go_wp2_with fail;go_ret
        refine⟨?_,aQ.out⟩;rw[HN.out,HS.out,HK.out];simp
    ·obtain rfl:k=u.length:=by omega
     have gJ:¬ ((u.length:Nat):Int)<(u.length:Int):=by omega
     go_wp2_with fail;go_ret
     refine⟨?_,aQ.out⟩;rw[HN.out,HG.out,jaE];simp[dJ]
theorem TF{w:World}{v:Value}{l:List Fd}(hs:Sf w v l)(n:ByteArray):Calls Tryz.prog 50 #[v,.string n] w fun e w'=>e=.returned (.bool (oF l n))/\w'=w:=by
 have HS:=ae hs;obtain⟨a,cap,rfl,aX,bw⟩:=hs.form;clear hs;go_enter Tryz.func50,Tryz.ntmps50
 go_wp2_with fail;go_loopw [5] (fun i w'=>∃ k:Nat,w'=w/\i=.int .i64 (k:Int)/\k<=l.length/\oF l n=oF (l.drop k) n) (fun i _=>l.length-(intOf i).toNat)
 case atStart=>exact⟨0,rfl,rfl,by omega,rfl⟩
 case round =>
  obtain⟨k,rfl,rfl,hk,ee⟩:=hrel;have HG:=ae ee;clear ee;by_cases aB:k<l.length
  ·obtain⟨b,off,rfl,hb,c0,c1,c2,c3⟩:=HS.out.at aB
   have HT:=ae (HG.out.trans (yq (n:=n) aB));have hlt':(k:Int)<(l.length:Int):=by omega
   generalize l[k].2.1=m at *;have VP:=AB m n;clear c0 c2 c3;by_cases Rz:m=n
   ·subst Rz
    have hse':(m.toList==m.toList)=true:=by rw[AB];simp
    clear VP;go_wp2_with fail;go_ret
    refine⟨?_,rfl⟩;rw[HT.out];simp
   ·have hse':(m.toList==n.toList)=false:=by rw[AB,decide_eq_false Rz]
    have HM:=ae (decide_eq_false Rz);clear VP Rz;go_wp2_with fail;go_roundw
    case rel=>exact⟨k+1,trivial,by go_num,by omega,by rw[HT.out,HM.out];rfl⟩
    case measure=>simp[intOf];omega
  ·obtain rfl:k=l.length:=by omega
   have gJ:¬ ((l.length:Nat):Int)<(l.length:Int):=by omega
   go_wp2_with fail;go_ret
   refine⟨?_,rfl⟩;rw[HG.out,jaE];rfl
theorem PC{w:World}(f:Fd)(n:ByteArray){B:Nat}(hB:B<w.heap.size)(hc:w.cell? ⟨B,0,none⟩=some (.string n)) :
  Calls Tryz.prog 199 #[pI f,.pointer (some ⟨B,0,none⟩)] w fun e w'=>e=.returned (.bool (decide (f.2.1=n)))/\Below w.heap.size w w':=by
 unfold pI;have HE:=ae (AB f.2.1 n);generalize f.2.1=m at *;generalize f.1=x0 at *;generalize f.2.2.1=x2 at *;generalize f.2.2.2=x3 at *;go_enter Tryz.func199,Tryz.ntmps199
 go_wp2_with fail;go_ret
 refine⟨?_,(ZQ _ _).alloc (ZR _) _⟩;rw[← HE.out];rfl
theorem K4{w:World}{v:Value}{l:List Fd}(hs:Sf w v l)(n:ByteArray){B:Nat}(hB:B<w.heap.size)(hc:w.cell? ⟨B,0,none⟩=some (.string n)) :
  Calls Tryz.prog 225 #[v,.func (.func 199) #[] #[.pointer (some ⟨B,0,none⟩)]] w fun e w'=>(∃ z:Int,e=.returned (.int .i64 z)/\decide (z>=0)=oF l n)/\Below w.heap.size w w':=by
 have HS:=ae hs;have HC:=ae hc;obtain⟨a,cap,rfl,aX,bw⟩:=hs.form;clear hs hc;go_enter Tryz.func225,Tryz.ntmps225
 go_wp2_with fail;go_loopw [8] (fun i w'=>∃ k:Nat,i=.int .i64 (k:Int)/\k<=l.length/\oF l n=oF (l.drop k) n/\Below w.heap.size w w') (fun i _=>l.length-(intOf i).toNat)
 case atStart=>exact⟨0,rfl,by omega,rfl,ZQ _ _⟩
 case round =>
  obtain⟨k,rfl,hk,ee,ay⟩:=hrel;have HG:=ae ee;have HB:=ae ay;have bO:=ay.size;clear ee ay;by_cases aB:k<l.length
  ·obtain⟨b,off,rfl,hb,c0,c1,c2,c3⟩:=(HS.out.kept HB.out).at aB
   have HT:=ae (HG.out.trans (yq (n:=n) aB));have hlt':(k:Int)<(l.length:Int):=by omega
   have lr:=ae (PC l[k] n (w:=wr) (B:=B) (by omega) ((HB.out.cell (p:=⟨B,0,none⟩) hB).trans HC.out));unfold pI at lr;generalize decide (l[k].2.1=n)=d at *;generalize l[k].1=x0 at *;generalize l[k].2.1=x1 at *;generalize l[k].2.2.1=x2 at *;generalize l[k].2.2.2=x3 at *;go_wp2_with fail;refine lr.out.mono ?_;rintro e w2 ⟨rfl,aD⟩;have aN:=ae (HB.out.trans (aD.mono bO));clear aD c0 c1 c2 c3;cases d
   ·go_wp2_with fail
    go_roundw
    case rel=>exact⟨k+1,by go_num,by omega,by rw[HT.out];rfl,aN.out⟩
    case measure=>simp[intOf];omega
   ·go_wp2_with fail
    go_ret
    refine⟨⟨_,rfl,?_⟩,aN.out⟩;rw[HT.out,Bool.true_or];simp
  ·obtain rfl:k=l.length:=by omega
   have gJ:¬ ((l.length:Nat):Int)<(l.length:Int):=by omega
   go_wp2_with fail;go_ret
   refine⟨⟨_,rfl,?_⟩,HB.out⟩;rw[HG.out,jaE];rfl
theorem AD{w:World}{v:Value}{l:List Fd}(hs:Sf w v l)(n:ByteArray){B:Nat}(hB:B<w.heap.size)(hc:w.cell? ⟨B,0,none⟩=some (.string n)) :
  Calls Tryz.prog 198 #[v,.func (.func 199) #[] #[.pointer (some ⟨B,0,none⟩)]] w fun e w'=>e=.returned (.bool (oF l n))/\Below w.heap.size w w':=by
 have HI:=ae (K4 hs n hB hc);clear hs hc;go_enter Tryz.func198,Tryz.ntmps198
 go_wp2_with fail;refine HI.out.mono ?_;rintro e w1 ⟨⟨z,rfl,hz⟩,aG⟩;have HZ:=ae hz;have HB:=ae aG;clear hz aG;go_wp2_with fail;go_ret
 refine⟨?_,HB.out⟩;rw[← HZ.out];rfl
theorem vY{w:World}{v:Value}{l:List Fd}(hs:Sf w v l)(n:ByteArray):Calls Tryz.prog 163 #[v,.string n] w fun e w'=>e=.returned (.bool (uL l n))/\Below w.heap.size w w':=by
 have hmf:∀(fn:Fn) (first cap:Array Value) (w:World),(Instr.makeFunc fn first cap).run Tryz.prog w=.ok (.func fn first cap) w:=fun _ _ _ _=>rfl
 have HM:=ae (xL n);have HS:=ae (hs.kept (ak w (.cells #[.string n] 9)));have HF:Hid (uL l n=(named n && !oF l n)):=ae rfl;have HC0:=ae (aK w (.string n) 9);clear hs;go_enter Tryz.func163,Tryz.ntmps163
 go_wp2_with fail;refine(HM.out _).mono ?_;rintro e w1 ⟨rfl,aG⟩;have iM:=ae (HS.out.kept aG);have SI:=ae ((aG.cell (p:=⟨w.heap.size,0,none⟩) (by show w.heap.size<_;rw[ZS];omega)).trans HC0.out);have cW:=aG.size;rw[ZS]at cW;have aQ:=ae (ai (ak w (.cells #[.string n] 9)) aG);clear aG;cases hnm:named n with
 | false =>
  rw[hnm]at HF;clear hnm;go_wp2_with fail;go_ret
  rw[HF.out];exact⟨rfl,aQ.out⟩
 | true =>
  rw[hnm]at HF;clear hnm;go_wp2_with fail;refine(AD iM.out n (B:=w.heap.size) (by omega) SI.out).mono ?_;rintro e w2 ⟨rfl,aD⟩;have aN:=ae (ai aQ.out aD);clear aD;go_wp2_with fail;go_ret
  rw[HF.out];exact⟨rfl,aN.out⟩
theorem FM{w:World}{v:Value}{l:List Fd}(hs:Sf w v l)(f:Fd):Calls Tryz.prog 116 #[v,pI f] w fun e w'=>e=.returned (.int .i64 (fW l f:Int))/\Below w.heap.size w w':=by
 unfold pI;obtain⟨i,n,k,nd⟩:=f;simp only;have HM:Hid (fW l (i,n,k,nd)=if i<=eR l then 81 else if uL l n=false then 80 else if kH k=false then 10 else if (nd != decide (l.length=0))=true∨(l.length=0/\k=2) then 82 else 0):=ae rfl;generalize fW l (i,n,k,nd)=R at *;have HS:=ae (hs.kept (ak w (.cells #[.int .u32 (i:Int),.string n,.int .u8 (k:Int),.bool nd] 81)));have cC:=ae (ak w (.cells #[.int .u32 (i:Int),.string n,.int .u8 (k:Int),.bool nd] 81));obtain⟨c0,c1,c2,c3⟩:=iU w (.int .u32 (i:Int)) (.string n) (.int .u8 (k:Int)) (.bool nd) 81;have C1:=ae c1;have C2:=ae c2;have C3:=ae c3;have hz:w.heap.size<(w.alloc (.cells #[.int .u32 (i:Int),.string n,.int .u8 (k:Int),.bool nd] 81)).heap.size:=by rw[ZS];omega
 clear c1 c2 c3;generalize hW:w.alloc (.cells #[.int .u32 (i:Int),.string n,.int .u8 (k:Int),.bool nd] 81)=W at *;have HL:=ae (fun m=>FI (vX HS.out m));have m8:=ae (fun m=>vY (vX HS.out m) n);obtain⟨a,cap,rfl,aX,bw⟩:=hs.form;have UO:=ae (AC k);obtain⟨ky,hky⟩:∃ ky,((l.length:Int)==0)=ky:=⟨_,rfl⟩
 have HD:Hid (decide (l.length=0)=ky):=ae (by
  rw[← hky];by_cases h:l.length=0
  ·rw[decide_eq_true h];simp[h]
  ·rw[decide_eq_false h];simp[h])
 have HLB:Hid ((l.length=0)↔ky=true):=ae (by rw[← hky];simp);rw[HD.out]at HM;clear hs aX bw;have ry:=ae (show eR l=eR l from rfl);generalize eR l=la at *;have oH:((i:Int)<=(la:Int))↔i<=la:=by omega
 go_enter Tryz.func116,Tryz.ntmps116
 go_wp2_with fail;try rw[hW]
 clear hW;by_cases hi:i<=la
 ·have hi':(i:Int)<=(la:Int):=by omega
  rw[if_pos hi]at HM;clear oH hi;go_quiet ((go_at_call 162;exact Calls.quiet_of_same (HL.out _)))
  go_wp2_with fail;go_ret
  rw[HM.out];exact⟨rfl,below_drewN cC.out _⟩
 ·have hi':¬ (i:Int)<=(la:Int):=by omega
  rw[if_neg hi]at HM;clear oH hi;go_quiet ((go_at_call 162;exact Calls.quiet_of_same (HL.out _)))
  have c1:=C1.out;go_wp2_with fail;refine(m8.out _).mono ?_;rintro e w1 ⟨rfl,aG⟩;have hbW:=(below_drewN (ZQ W.heap.size W) _).trans aG;have aQ:=ae (ai cC.out hbW);have c2:=(hbW.cell (p:=⟨w.heap.size,2,none⟩) hz).trans C2.out;have c3:=(hbW.cell (p:=⟨w.heap.size,3,none⟩) hz).trans C3.out;have C3':=ae c3;clear aG hbW c0 c1;by_cases hf:uL l n=false
  ·rw[if_pos hf]at HM
   rw[hf];clear hf c2 c3;go_wp2_with fail;go_ret
   rw[HM.out];exact⟨rfl,aQ.out⟩
  ·rw[if_neg hf]at HM
   have hf':uL l n=true:=by simpa using hf
   rw[hf'];clear hf hf' c3;go_wp2_with fail;refine(UO.out _).mono ?_;rintro e w2 ⟨rfl,rfl⟩;by_cases hk:kH k=false
   ·rw[if_pos hk]at HM
    rw[hk];clear hk;go_wp2_with fail;go_ret
    rw[HM.out];exact⟨rfl,aQ.out⟩
   ·rw[if_neg hk]at HM
    have hk':kH k=true:=by simpa using hk
    rw[hk'];clear hk hk';have c3:=C3'.out;cases nd
    ·cases ky
     ·have HR:Hid (R=0):=by
       show _=_
       rw[HM.out];exact if_neg (fun h=>by rcases h with h | ⟨h,_⟩;(· cases h);(· have:=HLB.out.1 h;cases this))
      clear HM;go_wp2_with fail;go_ret
      rw[HR.out];exact⟨rfl,aQ.out⟩
     ·have HR:Hid (R=82):=by show _=_;rw[HM.out];exact if_pos (Or.inl rfl)
      clear HM;go_wp2_with fail;go_ret
      rw[HR.out];exact⟨rfl,aQ.out⟩
    ·cases ky
     ·have HR:Hid (R=82):=by show _=_;rw[HM.out];exact if_pos (Or.inl rfl)
      clear HM;go_wp2_with fail;go_ret
      rw[HR.out];exact⟨rfl,aQ.out⟩
     ·by_cases h2:k=2
      ·have HR:Hid (R=82):=by show _=_;rw[HM.out];exact if_pos (Or.inr ⟨HLB.out.2 rfl,h2⟩)
       have h2':((k:Int)==2)=true:=by simp;omega
       clear HM h2;go_wp2_with fail;go_ret
       rw[HR.out];exact⟨rfl,aQ.out⟩
      ·have HR:Hid (R=0):=by show _=_;rw[HM.out];exact if_neg (fun h=>by rcases h with h | ⟨_,h⟩;(· cases h);(· exact h2 h))
       have h2':((k:Int)==2)=false:=by simp;omega
       clear HM h2;go_wp2_with fail;go_ret
       rw[HR.out];exact⟨rfl,aQ.out⟩
end Go.Proofs.YtpljdjmpamjkhaaGreatDoor
