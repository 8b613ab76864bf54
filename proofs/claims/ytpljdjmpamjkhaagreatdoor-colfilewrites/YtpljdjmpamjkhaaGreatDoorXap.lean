import Derived.Test.YtpljdjmpamjkhaaGreatDoorXao
import Derived.Maps.OwnIn
set_option linter.unusedVariables false
set_option linter.unusedSimpArgs false
set_option maxRecDepth 100000
set_option maxHeartbeats 4000000
namespace Go.Proofs.YtpljdjmpamjkhaaGreatDoor
open Go.RowKit Go.Lib
theorem SC{w:World}{B:Nat}{v:Value}{u:List (Nat×Nat)}(h:w.ownsRow B 3 1 v u.length (sgn u u.length)):∃ a cap,v=.slice a u.length cap/\u.length<=cap/\cap<=maxLen/\∀ k (hk:k<u.length),∃ g,a=some ⟨g,0,none⟩/\w.cell? ⟨g,k,none⟩=some (.int .i64 (u[k].1:Int)):=by
 obtain⟨a,cap,rfl,h1,h2⟩:=aM h;refine⟨a,cap,rfl,h1,h2,fun k hk=>?_⟩;obtain⟨g,cap',e,_,_,hc⟩:=(sk h).2 (by omega);simp only[Value.slice.injEq]at e;exact⟨g,e.1,hc k _ (Ld hk)⟩
theorem WT{u:List (Nat×Nat)}{k:Nat}(hk:k<u.length):dQ k (u.drop k)=(kR k u[k].1 && dQ (k+1) (u.drop (k+1))):=by
 rw[jec hk,pi]
theorem DL{k c:Nat}(h:97<=c/\c<=122∨c=95∨127<c):kR k c=true:=by
 unfold kR gJ;simp
 omega
theorem Hf{k c:Nat}(h1:48<=c)(h2:c<=57)(hk:0<k):kR k c=true:=by
 unfold kR eB;simp[hk]
 omega
theorem SD{c:Nat}(h:¬ (97<=c/\c<=122∨c=95∨127<c)):kR 0 c=false:=by
 unfold kR gJ;simp
 omega
theorem Nc{k c:Nat}(h:¬ (97<=c/\c<=122∨c=95∨127<c))(h2:¬ (48<=c/\c<=57)):kR k c=false:=by
 unfold kR gJ eB;simp
 omega
theorem Nd(s:ByteArray)(w:World):Calls Tryz.prog 49 #[.string s] w fun e w'=>e=.returned (.bool (named s))/\Below w.heap.size w w':=by
 by_cases h1:(s.size:Int)<1
 ·have HN:jfp (named s=false):=ae (by unfold named;rw[jdK (by omega)];rfl)
  go_enter Tryz.func49,Tryz.ntmps49
  go_wp2_with fail;go_ret
  rw[HN.o];exact⟨rfl,jdv _ _⟩
 ·by_cases h2:(s.size:Int) > 16
  ·have HN:jfp (named s=false):=ae (by unfold named;rw[jdK (by omega)];rfl)
   go_enter Tryz.func49,Tryz.ntmps49
   go_wp2_with fail;go_ret
   rw[HN.o];exact⟨rfl,jdv _ _⟩
  ·have HN:jfp (named s=(dP (lb s) && dQ 0 (V (lb s)))):=ae (by unfold named;rw[jdO (by omega)];rfl)
   have HC:=ae (oH s (by omega));have hV:=Cx (lb s);have hL:=cJ s;have hV16:(V (lb s)).length<=16:=(by omega);clear hV hL;generalize dP (lb s)=cl at *;generalize V (lb s)=u at *;go_enter Tryz.func49,Tryz.ntmps49
   go_wp2_with fail;refine(HC.o _).mono ?_;rintro e w1 ⟨⟨va,vb,rfl,eH,eZ⟩,aH⟩;obtain⟨a,cap,rfl,aW,bw,br⟩:=SC eH;have HCE:=ae br;have aQ:=ae aH;have hcm':cap<=9223372036854775807:=by unfold maxLen at bw;omega
   clear eH eZ aH br bw HC;go_wp2_with fail;go_loopw [6] (fun i w'=>∃ k:Nat,w'=w1/\i=.int .i64 (k:Int)/\k<=u.length/\dQ 0 u=dQ k (u.drop k)) (fun i _=>u.length-(intOf i).toNat)
   case atStart=>exact⟨0,rfl,rfl,by omega,rfl⟩
   case round =>
    obtain⟨k,rfl,rfl,hk,ex⟩:=hrel;have HG:=ae ex;clear ex;by_cases aB:k<u.length
    ·obtain⟨g,rfl,hc⟩:=HCE.o k aB
     have HS:=ae (HG.o.trans (WT aB));generalize u[k].1=c at *;by_cases hA:97<=c/\c<=122∨c=95∨127<c
     ·have HK:=ae (DL (k:=k) hA)
      have hd:(48<=(c:Int)/\(c:Int)<=57)∨(c:Int)<48∨¬ (c:Int)<=57:=(by omega);rcases hA with ⟨q1,q2⟩ | q1 | q1
      ·have t1:(c:Int)>=97:=by omega
       have t2:(c:Int)<=122:=(by omega);have t3:(c:Int)>=48:=(by omega);have t4:¬ (c:Int)<=57:=(by omega);clear hd;go_wp2_with fail;go_roundw
       case rel=>exact⟨k+1,trivial,by go_num,by omega,by rw[HS.o,HK.o];rfl⟩
       case measure=>simp[intOf];omega
      ·have t0:((c:Int)==95)=true:=by simp;omega
       subst q1;clear hd;go_wp2_with fail;go_roundw
       case rel=>exact⟨k+1,trivial,by go_num,by omega,by rw[HS.o,HK.o];rfl⟩
       case measure=>simp[intOf];omega
      ·have t0:((c:Int)==95)=false:=by simp;omega
       have t1:(c:Int)>=97:=(by omega);have t2:¬ (c:Int)<=122:=(by omega);have t3:(c:Int)>=48:=(by omega);have t4:¬ (c:Int)<=57:=(by omega);have t5:(c:Int) > 127:=(by omega);clear hd;go_wp2_with fail;go_roundw
       case rel=>exact⟨k+1,trivial,by go_num,by omega,by rw[HS.o,HK.o];rfl⟩
       case measure=>simp[intOf];omega
     ·have t0:((c:Int)==95)=false:=by simp;omega
      have t5:¬ (c:Int) > 127:=(by omega);by_cases hD:48<=c/\c<=57
      ·have t1:¬ (c:Int)>=97:=by omega
       have t3:(c:Int)>=48:=(by omega);have t4:(c:Int)<=57:=(by omega);by_cases ql:k=0
       ·subst ql
        have HK:=ae (SD hA);clear hA hD;go_wp2_with fail;go_ret
        refine⟨?_,aQ.o⟩;rw[HN.o,HS.o,HK.o];simp
       ·have HK:=ae (Hf (k:=k) hD.1 hD.2 (by omega))
        have hkp:(k:Int) > 0:=(by omega);have hkp2:0<k:=(by omega);clear hA hD ql;go_wp2_with fail;go_roundw
        case rel=>exact⟨k+1,trivial,by go_num,by omega,by rw[HS.o,HK.o];rfl⟩
        case measure=>simp[intOf];omega
      ·have HK:=ae (Nc (k:=k) hA hD)
       have Ym:(c:Int)<48∨(57<(c:Int)/\(c:Int)<97)∨(122<(c:Int)):=(by omega);clear hA hD;rcases Ym with q | ⟨q,q'⟩ | q
       ·have t1:¬ (c:Int)>=97:=by omega
        have t3:¬ (c:Int)>=48:=(by omega);go_wp2_with fail;go_ret
        refine⟨?_,aQ.o⟩;rw[HN.o,HS.o,HK.o];simp
       ·have t1:¬ (c:Int)>=97:=by omega
        have t3:(c:Int)>=48:=(by omega);have t4:¬ (c:Int)<=57:=(by omega);go_wp2_with fail;go_ret
        refine⟨?_,aQ.o⟩;rw[HN.o,HS.o,HK.o];simp
       ·have t1:(c:Int)>=97:=by omega
        have t2:¬ (c:Int)<=122:=(by omega);have t3:(c:Int)>=48:=(by omega);have t4:¬ (c:Int)<=57:=(by omega);go_wp2_with fail;go_ret
        refine⟨?_,aQ.o⟩;rw[HN.o,HS.o,HK.o];simp
    ·obtain rfl:k=u.length:=by omega
     have gj:¬ ((u.length:Nat):Int)<(u.length:Int):=(by omega);go_wp2_with fail;go_ret
     refine⟨?_,aQ.o⟩;rw[HN.o,HG.o,jer];simp[dQ]
theorem WU{w:World}{v:Value}{l:List Fd}(hs:Sf w v l)(n:ByteArray):Calls Tryz.prog 50 #[v,.string n] w fun e w'=>e=.returned (.bool (oW l n))/\w'=w:=by
 have HS:=ae hs;obtain⟨a,cap,rfl,aW,bw⟩:=hs.form;clear hs;go_enter Tryz.func50,Tryz.ntmps50
 go_wp2_with fail;go_loopw [5] (fun i w'=>∃ k:Nat,w'=w/\i=.int .i64 (k:Int)/\k<=l.length/\oW l n=oW (l.drop k) n) (fun i _=>l.length-(intOf i).toNat)
 case atStart=>exact⟨0,rfl,rfl,by omega,rfl⟩
 case round =>
  obtain⟨k,rfl,rfl,hk,ex⟩:=hrel;have HG:=ae ex;clear ex;by_cases aB:k<l.length
  ·obtain⟨b,off,rfl,hb,c0,c1,c2,c3⟩:=HS.o.at aB
   have HT:=ae (HG.o.trans (yM (n:=n) aB));have hlt':(k:Int)<(l.length:Int):=(by omega);generalize l[k].2.1=m at *;have Zs:=AX m n;clear c0 c2 c3;by_cases Qy:m=n
   ·subst Qy
    have hse':(m.toList==m.toList)=true:=by rw[AX];simp
    clear Zs;go_wp2_with fail;go_ret
    refine⟨?_,rfl⟩;rw[HT.o];simp
   ·have hse':(m.toList==n.toList)=false:=by rw[AX,jdK Qy]
    have HM:=ae (jdK Qy);clear Zs Qy;go_wp2_with fail;go_roundw
    case rel=>exact⟨k+1,trivial,by go_num,by omega,by rw[HT.o,HM.o];rfl⟩
    case measure=>simp[intOf];omega
  ·obtain rfl:k=l.length:=by omega
   have gj:¬ ((l.length:Nat):Int)<(l.length:Int):=(by omega);go_wp2_with fail;go_ret
   refine⟨?_,rfl⟩;rw[HG.o,jer];rfl
theorem SF{w:World}(f:Fd)(n:ByteArray){B:Nat}(hB:B<w.heap.size)(hc:w.cell? ⟨B,0,none⟩=some (.string n)) :
  Calls Tryz.prog 199 #[pX f,.pointer (some ⟨B,0,none⟩)] w fun e w'=>e=.returned (.bool (decide (f.2.1=n)))/\Below w.heap.size w w':=by
 unfold pX;have HE:=ae (AX f.2.1 n);generalize f.2.1=m at *;generalize f.1=x0 at *;generalize f.2.2.1=x2 at *;generalize f.2.2.2=x3 at *;go_enter Tryz.func199,Tryz.ntmps199
 go_wp2_with fail;go_ret
 refine⟨?_,(jdv _ _).alloc (jdw _) _⟩;rw[← HE.o];rfl
theorem Nf{w:World}{v:Value}{l:List Fd}(hs:Sf w v l)(n:ByteArray){B:Nat}(hB:B<w.heap.size)(hc:w.cell? ⟨B,0,none⟩=some (.string n)) :
  Calls Tryz.prog 225 #[v,.func (.func 199) #[] #[.pointer (some ⟨B,0,none⟩)]] w fun e w'=>(∃ z:Int,e=.returned (.int .i64 z)/\decide (z>=0)=oW l n)/\Below w.heap.size w w':=by
 have HS:=ae hs;have HC:=ae hc;obtain⟨a,cap,rfl,aW,bw⟩:=hs.form;clear hs hc;go_enter Tryz.func225,Tryz.ntmps225
 go_wp2_with fail;go_loopw [8] (fun i w'=>∃ k:Nat,i=.int .i64 (k:Int)/\k<=l.length/\oW l n=oW (l.drop k) n/\Below w.heap.size w w') (fun i _=>l.length-(intOf i).toNat)
 case atStart=>exact⟨0,rfl,by omega,rfl,jdv _ _⟩
 case round =>
  obtain⟨k,rfl,hk,ex,az⟩:=hrel;have HG:=ae ex;have HB:=ae az;have bF:=az.size;clear ex az;by_cases aB:k<l.length
  ·obtain⟨b,off,rfl,hb,c0,c1,c2,c3⟩:=(HS.o.kept HB.o).at aB
   have HT:=ae (HG.o.trans (yM (n:=n) aB));have hlt':(k:Int)<(l.length:Int):=(by omega);have lF:=ae (SF l[k] n (w:=wr) (B:=B) (by omega) ((HB.o.cell (p:=⟨B,0,none⟩) hB).trans HC.o));unfold pX at lF;generalize decide (l[k].2.1=n)=d at *;generalize l[k].1=x0 at *;generalize l[k].2.1=x1 at *;generalize l[k].2.2.1=x2 at *;generalize l[k].2.2.2=x3 at *;go_wp2_with fail;refine lF.o.mono ?_;rintro e w2 ⟨rfl,aE⟩;have aO:=ae (HB.o.trans (aE.mono bF));clear aE c0 c1 c2 c3;cases d
   ·go_wp2_with fail
    go_roundw
    case rel=>exact⟨k+1,by go_num,by omega,by rw[HT.o];rfl,aO.o⟩
    case measure=>simp[intOf];omega
   ·go_wp2_with fail
    go_ret
    refine⟨⟨_,rfl,?_⟩,aO.o⟩;rw[HT.o,Bool.true_or];simp
  ·obtain rfl:k=l.length:=by omega
   have gj:¬ ((l.length:Nat):Int)<(l.length:Int):=(by omega);go_wp2_with fail;go_ret
   refine⟨⟨_,rfl,?_⟩,HB.o⟩;rw[HG.o,jer];rfl
theorem AZ{w:World}{v:Value}{l:List Fd}(hs:Sf w v l)(n:ByteArray){B:Nat}(hB:B<w.heap.size)(hc:w.cell? ⟨B,0,none⟩=some (.string n)) :
  Calls Tryz.prog 198 #[v,.func (.func 199) #[] #[.pointer (some ⟨B,0,none⟩)]] w fun e w'=>e=.returned (.bool (oW l n))/\Below w.heap.size w w':=by
 have HI:=ae (Nf hs n hB hc);clear hs hc;go_enter Tryz.func198,Tryz.ntmps198
 go_wp2_with fail;refine HI.o.mono ?_;rintro e w1 ⟨⟨z,rfl,hz⟩,aH⟩;have HZ:=ae hz;have HB:=ae aH;clear hz aH;go_wp2_with fail;go_ret
 refine⟨?_,HB.o⟩;rw[← HZ.o];rfl
theorem wL{w:World}{v:Value}{l:List Fd}(hs:Sf w v l)(n:ByteArray):Calls Tryz.prog 163 #[v,.string n] w fun e w'=>e=.returned (.bool (uY l n))/\Below w.heap.size w w':=by
 have hmf:∀(fn:Fn) (first cap:Array Value) (w:World),(Instr.makeFunc fn first cap).run Tryz.prog w=.ok (.func fn first cap) w:=fun _ _ _ _=>rfl
 have HM:=ae (ye n);have HS:=ae (hs.kept (am w (.cells #[.string n] 9)));have HF:jfp (uY l n=(named n && !oW l n)):=ae rfl;have HC0:=ae (aK w (.string n) 9);clear hs;go_enter Tryz.func163,Tryz.ntmps163
 go_wp2_with fail;refine(HM.o _).mono ?_;rintro e w1 ⟨rfl,aH⟩;have jy:=ae (HS.o.kept aH);have VP:=ae ((aH.cell (p:=⟨w.heap.size,0,none⟩) (by show w.heap.size<_;rw[jdx];omega)).trans HC0.o);have cP:=aH.size;rw[jdx]at cP;have aQ:=ae (ai (am w (.cells #[.string n] 9)) aH);clear aH;cases hnm:named n with
 | false =>
  rw[hnm]at HF;clear hnm;go_wp2_with fail;go_ret
  rw[HF.o];exact⟨rfl,aQ.o⟩
 | true =>
  rw[hnm]at HF;clear hnm;go_wp2_with fail;refine(AZ jy.o n (B:=w.heap.size) (by omega) VP.o).mono ?_;rintro e w2 ⟨rfl,aE⟩;have aO:=ae (ai aQ.o aE);clear aE;go_wp2_with fail;go_ret
  rw[HF.o];exact⟨rfl,aO.o⟩
theorem Hg{w:World}{v:Value}{l:List Fd}(hs:Sf w v l)(f:Fd):Calls Tryz.prog 116 #[v,pX f] w fun e w'=>e=.returned (.int .i64 (gg l f:Int))/\Below w.heap.size w w':=by
 unfold pX;obtain⟨i,n,k,nd⟩:=f;simp only;have HM:jfp (gg l (i,n,k,nd)=if i<=eT l then 81 else if uY l n=false then 80 else if kS k=false then 10 else if (nd != decide (l.length=0))=true∨(l.length=0/\k=2) then 82 else 0):=ae rfl;generalize gg l (i,n,k,nd)=R at *;have HS:=ae (hs.kept (am w (.cells #[.int .u32 (i:Int),.string n,.int .u8 (k:Int),.bool nd] 81)));have ce:=ae (am w (.cells #[.int .u32 (i:Int),.string n,.int .u8 (k:Int),.bool nd] 81));obtain⟨c0,c1,c2,c3⟩:=iU w (.int .u32 (i:Int)) (.string n) (.int .u8 (k:Int)) (.bool nd) 81;have C1:=ae c1;have C2:=ae c2;have C3:=ae c3;have hz:w.heap.size<(w.alloc (.cells #[.int .u32 (i:Int),.string n,.int .u8 (k:Int),.bool nd] 81)).heap.size:=by rw[jdx];omega
 clear c1 c2 c3;generalize hW:w.alloc (.cells #[.int .u32 (i:Int),.string n,.int .u8 (k:Int),.bool nd] 81)=W at *;have HL:=ae (fun m=>He (wK HS.o m));have ng:=ae (fun m=>wL (wK HS.o m) n);obtain⟨a,cap,rfl,aW,bw⟩:=hs.form;have Yn:=ae (AY k);obtain⟨ky,hky⟩:∃ ky,((l.length:Int)==0)=ky:=⟨_,rfl⟩
 have HD:jfp (decide (l.length=0)=ky):=ae (by
  rw[← hky];by_cases h:l.length=0
  ·rw[jdO h];simp[h]
  ·rw[jdK h];simp[h])
 have HLB:jfp ((l.length=0)↔ky=true):=ae (by rw[← hky];simp);rw[HD.o]at HM;clear hs aW bw;have rS:=ae (show eT l=eT l from rfl);generalize eT l=la at *;have pB:((i:Int)<=(la:Int))↔i<=la:=by omega
 go_enter Tryz.func116,Tryz.ntmps116
 go_wp2_with fail;try rw[hW]
 clear hW;by_cases hi:i<=la
 ·have hi':(i:Int)<=(la:Int):=by omega
  rw[jdu hi]at HM;clear pB hi;go_quiet ((go_at_call 162;exact Calls.quiet_of_same (HL.o _)))
  go_wp2_with fail;go_ret
  rw[HM.o];exact⟨rfl,ap ce.o _⟩
 ·have hi':¬ (i:Int)<=(la:Int):=by omega
  rw[jdt hi]at HM;clear pB hi;go_quiet ((go_at_call 162;exact Calls.quiet_of_same (HL.o _)))
  have c1:=C1.o;go_wp2_with fail;refine(ng.o _).mono ?_;rintro e w1 ⟨rfl,aH⟩;have hbW:=(ap (jdv W.heap.size W) _).trans aH;have aQ:=ae (ai ce.o hbW);have c2:=(hbW.cell (p:=⟨w.heap.size,2,none⟩) hz).trans C2.o;have c3:=(hbW.cell (p:=⟨w.heap.size,3,none⟩) hz).trans C3.o;have C3':=ae c3;clear aH hbW c0 c1;by_cases hf:uY l n=false
  ·rw[jdu hf]at HM
   rw[hf];clear hf c2 c3;go_wp2_with fail;go_ret
   rw[HM.o];exact⟨rfl,aQ.o⟩
  ·rw[jdt hf]at HM
   have hf':uY l n=true:=by simpa using hf
   rw[hf'];clear hf hf' c3;go_wp2_with fail;refine(Yn.o _).mono ?_;rintro e w2 ⟨rfl,rfl⟩;by_cases hk:kS k=false
   ·rw[jdu hk]at HM
    rw[hk];clear hk;go_wp2_with fail;go_ret
    rw[HM.o];exact⟨rfl,aQ.o⟩
   ·rw[jdt hk]at HM
    have hk':kS k=true:=by simpa using hk
    rw[hk'];clear hk hk';have c3:=C3'.o;cases nd
    ·cases ky
     ·have HR:jfp (R=0):=by
       show _=_
       rw[HM.o];exact jdt (fun h=>by rcases h with h | ⟨h,_⟩;(· cases h);(· have:=HLB.o.1 h;cases this))
      clear HM;go_wp2_with fail;go_ret
      rw[HR.o];exact⟨rfl,aQ.o⟩
     ·have HR:jfp (R=82):=by show _=_;rw[HM.o];exact jdu (Or.inl rfl)
      clear HM;go_wp2_with fail;go_ret
      rw[HR.o];exact⟨rfl,aQ.o⟩
    ·cases ky
     ·have HR:jfp (R=82):=by show _=_;rw[HM.o];exact jdu (Or.inl rfl)
      clear HM;go_wp2_with fail;go_ret
      rw[HR.o];exact⟨rfl,aQ.o⟩
     ·by_cases h2:k=2
      ·have HR:jfp (R=82):=by show _=_;rw[HM.o];exact jdu (Or.inr ⟨HLB.o.2 rfl,h2⟩)
       have h2':((k:Int)==2)=true:=by simp;omega
       clear HM h2;go_wp2_with fail;go_ret
       rw[HR.o];exact⟨rfl,aQ.o⟩
      ·have HR:jfp (R=0):=by show _=_;rw[HM.o];exact jdt (fun h=>by rcases h with h | ⟨_,h⟩;(· cases h);(· exact h2 h))
       have h2':((k:Int)==2)=false:=by simp;omega
       clear HM h2;go_wp2_with fail;go_ret
       rw[HR.o];exact⟨rfl,aQ.o⟩
theorem qY{w:World}{ops:Array Oper}{rest:List Oper}{o:Oper}{a:Act}{Q:Exit->Act->World->Prop}(ex:o.guard=none)(s x:Operand)
  (ho:o.op=.call { callee:=.builtin .append,args:=#[s,x],argTypes:=#[30,9] })
  (base:Nat) (v:Value) (l0:List Nat) (z:ByteArray) (hs:a.eval s=v) (aA:aD w base v l0) (hx:a.eval x=.string z)
  (hbytes:l0.length+z.size<=140737488355328) (aJ:base<=w.heap.size)
  (h:∀ v' w',aD w' base v' (l0++da z)->Below base w w'->wpList Tryz.prog ops Q rest (a.put o.dst v') w') :
  wpList Tryz.prog ops Q (o::rest) a w:=by
 obtain⟨i0,hi,ct,hz1',bv⟩:=jdP jk;unfold aD at *;refine wpList_append_own_string (w:=w) ex s x 30 9 ho base 5 i0 Tryz.underlying30 Tryz.underlying9 hi ct hz1' bv v l0.length (aF .u8 l0) hs aA z hx (by unfold maxLen;omega) (by exact hbytes) aJ ?_;intro v' w' o1 g1 _;refine h v' w' ?_ ((jdv base w).grown g1 aJ (fun k hk=>(aA.lt k hk).1))
 have e:strCells z=aF .u8 (da z):=by
  unfold strCells aF da;rw[ByteArray.toList_eq];simp[jd8,Function.comp_def]
 rw[e]at o1;rw[cd,jdy,iQ];exact o1
theorem SG(b:Bool)(w:World):Calls Tryz.prog 166 #[.bool b] w fun e w'=>e=.returned (.int .u64 ((eU b:Nat):Int))/\w'=w:=by
 cases b
 all_goals
  go_enter Tryz.func166,Tryz.ntmps166
  go_wp2;go_ret
  exact⟨rfl,rfl⟩
theorem gE(n:Nat)(h:n<18446744073709551616):(uv n).length<=10:=bM h
theorem yf(f:Fd)(hf:Okf f)(hs:f.2.1.size<5000)(w:World):Calls Tryz.prog 120 #[pX f] w (dw w (iq f)):=by
 unfold pX;obtain⟨i,n,k,nd⟩:=f;have h1:i<4294967296:=hf.1;have h2:k<256:=hf.2;simp only at *;have HP:jfp (iq (i,n,k,nd)=uv i++uv n.size++da n++uv k++uv (eU nd)):=ae rfl;have kj:eU nd<2:=by unfold eU;split<;>omega
 have PQ:=ae (dM i (by omega));have Yo:=ae (dM n.size (by omega));have HV3:=ae (dM k (by omega));have HV4:=ae (dM (eU nd) (by omega));have LQ:=ae (SG nd);have u1:=gE i (by omega);have u2:=gE n.size (by omega);have u3:=gE k (by omega);have u4:=gE (eU nd) (by omega);have hnl:=iQ n;have ce:=ae (am w (.cells #[.int .u32 (i:Int),.string n,.int .u8 (k:Int),.bool nd] 81));have hz:w.heap.size<(w.alloc (.cells #[.int .u32 (i:Int),.string n,.int .u8 (k:Int),.bool nd] 81)).heap.size:=by rw[jdx];omega
 have HT:jfp (∀ U,Below (w.alloc (.cells #[.int .u32 (i:Int),.string n,.int .u8 (k:Int),.bool nd] 81)).heap.size (w.alloc (.cells #[.int .u32 (i:Int),.string n,.int .u8 (k:Int),.bool nd] 81)) U->U.cell? ⟨w.heap.size,0,none⟩=some (.int .u32 (i:Int))/\U.cell? ⟨w.heap.size,1,none⟩=some (.string n)/\U.cell? ⟨w.heap.size,2,none⟩=some (.int .u8 (k:Int))/\U.cell? ⟨w.heap.size,3,none⟩=some (.bool nd)):=ae (fun U h=>by
  obtain⟨c0,c1,c2,c3⟩:=iU w (.int .u32 (i:Int)) (.string n) (.int .u8 (k:Int)) (.bool nd) 81;exact⟨(h.cell (p:=⟨w.heap.size,0,none⟩) hz).trans c0,(h.cell (p:=⟨w.heap.size,1,none⟩) hz).trans c1,(h.cell (p:=⟨w.heap.size,2,none⟩) hz).trans c2,(h.cell (p:=⟨w.heap.size,3,none⟩) hz).trans c3⟩)
 generalize hW:w.alloc (.cells #[.int .u32 (i:Int),.string n,.int .u8 (k:Int),.bool nd] 81)=W at *;obtain⟨c0,c1,c2,c3⟩:=HT.o W (jdv _ _);clear hf;generalize uv i=p1 at *;generalize uv n.size=p2 at *;generalize uv k=p3 at *;generalize uv (eU nd)=p4 at *;generalize eU nd=fl at *;go_enter Tryz.func120,Tryz.ntmps120
 go_wp2_with fail;try rw[hW]
 clear hW;refine(PQ.o _).mono ?_;rintro e w1 ⟨⟨v1,rfl,o1⟩,aH⟩;have eY:=ae o1;have LR:=ae aH;clear o1 aH c0 c1 c2 c3;obtain⟨c0,c1,c2,c3⟩:=HT.o _ LR.o;go_wp2_with fail;refine(Yo.o _).mono ?_;rintro e w2 ⟨⟨v2,rfl,o2⟩,aE⟩;have HO1k:=ae (eY.o.kept aE);have du:=ae o2.sv;have yy:=ae (ai LR.o aE);clear o2 aE c0 c1 c2 c3;obtain⟨c0,c1,c2,c3⟩:=HT.o _ yy.o;go_wp2_with (first | (at_builtin;refine ax rfl _ _ rfl W.heap.size _ _ p1 p2 rfl HO1k.o rfl du.o ?d1 ?d2 ?_))
 case d1=>omega
 case d2=>exact yy.o.size
 intro v3 w3 o3 aS;have dh:jfp (aD w3 W.heap.size v3 (p1++p2)):=ae (by simpa using o3);have US:=ae (yy.o.trans aS);clear o3 aS c0 c1 c2 c3;obtain⟨c0,c1,c2,c3⟩:=HT.o _ US.o;go_wp2_with (first | (at_builtin;refine qY rfl _ _ rfl W.heap.size _ (p1++p2) n rfl dh.o rfl ?d3 ?d4 ?_))
 case d3=>first | (simp only[jdy];omega) | (simp;omega) | omega
 case d4=>exact US.o.size
 intro v4 w4 o4 bK;have eR:jfp (aD w4 W.heap.size v4 (p1++p2++da n)):=ae (by simpa using o4);have HX4:=ae (US.o.trans bK);clear o4 bK c0 c1 c2 c3;obtain⟨c0,c1,c2,c3⟩:=HT.o _ HX4.o;go_wp2_with fail;refine(HV3.o _).mono ?_;rintro e w5 ⟨⟨v5,rfl,o5⟩,bD⟩;have HO4k:=ae (eR.o.kept bD);have dE:=ae o5.sv;have Qz:=ae (ai HX4.o bD);clear o5 bD c0 c1 c2 c3;obtain⟨c0,c1,c2,c3⟩:=HT.o _ Qz.o;go_wp2_with (first | (at_builtin;refine ax rfl _ _ rfl W.heap.size _ _ (p1++p2++da n) p3 rfl HO4k.o rfl dE.o ?d5 ?d6 ?_))
 case d5=>first | (simp only[jdy];omega) | (simp;omega) | omega
 case d6=>exact Qz.o.size
 intro v6 w6 o6 ey;have mT:jfp (aD w6 W.heap.size v6 (p1++p2++da n++p3)):=ae (by simpa using o6);have uV:=ae (Qz.o.trans ey);clear o6 ey c0 c1 c2 c3;obtain⟨c0,c1,c2,c3⟩:=HT.o _ uV.o;go_wp2_with fail;refine(LQ.o _).mono ?_;rintro e w7 ⟨rfl,rfl⟩;go_wp2_with fail;refine(HV4.o _).mono ?_;rintro e w8 ⟨⟨v8,rfl,o8⟩,lD⟩;have HO6k:=ae (mT.o.kept lD);have HO8:=ae o8.sv;have HX8:=ae (ai uV.o lD);clear o8 lD c0 c1 c2 c3;go_wp2_with (first | (at_builtin;refine ax rfl _ _ rfl W.heap.size _ _ (p1++p2++da n++p3) p4 rfl HO6k.o rfl HO8.o ?d7 ?d8 ?_))
 case d7=>first | (simp only[jdy];omega) | (simp;omega) | omega
 case d8=>exact HX8.o.size
 intro v9 w9 o9 pD;have UJ:jfp (aD w9 W.heap.size v9 (p1++p2++da n++p3++p4)):=ae (by simpa using o9);have HX9:=ae (HX8.o.trans pD);clear o9 pD;go_wp2_with fail;go_ret
 rw[HP.o];exact⟨⟨_,rfl,be UJ.o ce.o.size⟩,ai ce.o HX9.o⟩
theorem pp{l:List Fd}(hz:szs l<5000){k:Nat}(hk:k<l.length):l[k].2.1.size<5000:=by
 have:=KS (jdA hk);omega
theorem fN{l:List Fd}(ho:∀ f∈l,Okf f)(hl:l.length<=100)(hz:szs l<5000)(k:Nat):(gV (l.take k)).length<=10000:=by
 have h1:=Mo (l:=l.take k) (fun f hf=>ho f (jek hf)) (jfe (tB l k) hz);have h2:=tB l k;have h3:(l.take k).length<=100:=by rw[jdC];omega
 omega
theorem SH{w:World}{v:Value}{l:List Fd}(hs:Sf w v l)(ho:∀ f∈l,Okf f)(hl:l.length<=100)(hz:szs l<5000)(id:Nat)(np:id<4294967296) :
  Calls Tryz.prog 80 #[.agg #[.int .u32 (id:Int),v]] w (dw w (dF id l)):=by
 obtain⟨a,cap,rfl,aW,bw⟩:=hs.form;have LS:=ae ho;have HP:jfp (dF id l=uv id++uv l.length++gV l):=ae rfl;have rY:=ae (fN ho hl hz);have qn:=ae (fun k=>pp (k:=k) hz);have PQ:=ae (dM id (by omega));have Yo:=ae (dM l.length (by omega));have u1:=gE id (by omega);have u2:=gE l.length (by omega);have dO:=am w (.cells #[.int .u32 (id:Int),.slice a l.length cap] 25);have FG:w.heap.size<(w.alloc (.cells #[.int .u32 (id:Int),.slice a l.length cap] 25)).heap.size:=by rw[jdx];omega
 have HT:jfp (∀ U,Below (w.alloc (.cells #[.int .u32 (id:Int),.slice a l.length cap] 25)).heap.size (w.alloc (.cells #[.int .u32 (id:Int),.slice a l.length cap] 25)) U->Sf U (.slice a l.length cap) l/\U.cell? ⟨w.heap.size,0,none⟩=some (.int .u32 (id:Int))/\U.cell? ⟨w.heap.size,1,none⟩=some (.slice a l.length cap)):=ae (fun U h=>by
  obtain⟨c0,c1⟩:=bx w (.int .u32 (id:Int)) (.slice a l.length cap) 25;exact⟨(hs.kept dO).kept h,(h.cell (p:=⟨w.heap.size,0,none⟩) FG).trans c0,(h.cell (p:=⟨w.heap.size,1,none⟩) FG).trans c1⟩)
 have ce:=ae dO;clear hs dO ho;generalize hW:w.alloc (.cells #[.int .u32 (id:Int),.slice a l.length cap] 25)=W at *;obtain⟨_,c0,c1⟩:=HT.o W (jdv _ _);generalize uv id=p1 at *;generalize uv l.length=p2 at *;go_enter Tryz.func80,Tryz.ntmps80
 go_wp2_with fail;try rw[hW]
 clear hW;refine(PQ.o _).mono ?_;rintro e w1 ⟨⟨v1,rfl,o1⟩,aH⟩;have eY:=ae o1;have LR:=ae aH;clear o1 aH c0 c1;obtain⟨_,c0,c1⟩:=HT.o _ LR.o;go_wp2_with fail;refine(Yo.o _).mono ?_;rintro e w2 ⟨⟨v2,rfl,o2⟩,aE⟩;have HO1k:=ae (eY.o.kept aE);have du:=ae o2.sv;have yy:=ae (ai LR.o aE);clear o2 aE c0 c1;go_wp2_with (first | (at_builtin;refine ax rfl _ _ rfl W.heap.size _ _ p1 p2 rfl HO1k.o rfl du.o ?d1 ?d2 ?_))
 case d1=>omega
 case d2=>exact yy.o.size
 intro v3 w3 o3 aS;have dh:=ae o3;have US:=ae (yy.o.trans aS);clear o3 aS;obtain⟨_,c0,c1⟩:=HT.o _ US.o;go_wp2_with fail;clear c0 c1;go_loopw [3,20] (fun b i wr=>∃ k:Nat,k<=l.length/\i=.int .i64 (k:Int)/\aD wr W.heap.size b (p1++p2++gV (l.take k))/\Below W.heap.size W wr) (fun _ i _=>l.length-(intOf i).toNat)
 case atStart=>exact⟨0,by omega,rfl,by simpa [gV]using dh.o,US.o⟩
 case round =>
  obtain⟨k,hk,rfl,aA,az⟩:=hrel;have HO:=ae aA;have HB:=ae az;have bF:=az.size;clear aA az;by_cases aB:k<l.length
  ·obtain⟨b,off,rfl,hb,x0,x1,x2,x3⟩:=(HT.o _ HB.o).1.at aB
   have hlt':(k:Int)<(l.length:Int):=(by omega);have cU:=ae (mB aB);have HPF:=ae (yf l[k] (LS.o _ (jdA aB)) (qn.o k aB));have hplen:=rY.o k
   have hpf:(iq l[k]).length<=5100:=by
    have h1:=yU (LS.o _ (jdA aB)) (by have:=qn.o k aB;omega);have h2:=qn.o k aB;omega
   generalize iq l[k]=PF at *;generalize gV (l.take k)=PL at *;generalize l[k]=f at *;obtain⟨f0,f1,f2,f3⟩:=f;unfold pX at HPF;simp only at *;have Cs:=ae (am wr (.cells #[.int .u32 (f0:Int),.string f1,.int .u8 (f2:Int),.bool f3] 81));go_wp2_with fail;refine(HPF.o _).mono ?_;rintro e w5 ⟨⟨v5,rfl,o5⟩,bD⟩;have hbT:=ai Cs.o bD;have dE:=ae (HO.o.kept hbT);have mT:=ae o5.sv;have Qz:=ae (ai HB.o hbT);clear o5 bD hbT x0 x1 x2 x3;go_wp2_with (first | (at_builtin;refine ax rfl _ _ rfl W.heap.size _ _ (p1++p2++PL) PF rfl dE.o rfl mT.o ?d3 ?d4 ?_))
   case d3=>first | (simp only[jdy];omega) | (simp;omega) | omega
   case d4=>exact Qz.o.size
   intro v7 w7 o7 ji;have iD:jfp (aD w7 W.heap.size v7 (p1++p2++PL++PF)):=ae (by simpa using o7);have HX7:=ae (Qz.o.trans ji);clear o7 ji;go_wp2_with fail;go_roundw
   case rel=>exact⟨k+1,by omega,by go_num,by rw[cU.o,← jdL];exact iD.o,HX7.o⟩
   case measure=>simp[intOf];omega
  ·obtain rfl:k=l.length:=by omega
   have gj:¬ ((l.length:Nat):Int)<(l.length:Int):=(by omega);rw[jdE]at HO;go_wp2_with fail;go_ret
   rw[HP.o];exact⟨⟨_,rfl,be HO.o ce.o.size⟩,ai ce.o HB.o⟩
theorem pq{w:World}(ty:TypeId)(base:Nat)(v vx:Value)(l0 l:List Nat)(aA:aD w base v l0)(fG:Sv w vx (aF .u8 l))(hbytes:l0.length+l.length<=140737488355328)(aJ:base<=w.heap.size) :
  ∃ v' w',(Builtin.append_ #[30,30] ty #[v,vx]).run Tryz.prog w=.ok v' w'/\aD w' base v' (l0++l)/\w.grownBy w' v.ownBlock/\(v'.ownBlock=v.ownBlock∨v'.ownBlock=some w.heap.size):=by
 obtain⟨i0,hi,ct,hz1',bv⟩:=jdP jk;unfold aD at *;obtain⟨ad,cap,rfl,h1,h2,h3,h4⟩:=fG;rw[ar]at *;cases ad with
 | none =>
  have hc:=h3 rfl;subst hc;have hl:l=[]:=jdV (by omega);subst hl;have hr:=je9 (P:=Tryz.prog) (w:=w) base 30 ty 5 i0 1 Tryz.underlying30 hi v l0.length (aF .u8 l0) aA;refine⟨v,w,hr,by rw[jdT];exact aA,⟨rfl,rfl,rfl,jdw _,fun _ _ _=>rfl⟩,Or.inl rfl⟩
 | some ad =>
  obtain⟨v',w',hr,o1,g1,_,e1⟩:=run_append_own_at (P:=Tryz.prog) w base 30 ty 5 i0 (.int .u8 0) 1 1 Tryz.underlying30 hi ct hz1' bv rfl (by decide) v l0.length (aF .u8 l0) aA ad l.length cap (aF .u8 l) (by rw[ar];omega)
   (fun j u hu=>by
    have hj:j<l.length:=by
     have:=(List.getElem?_eq_some_iff.1 hu).1;rwa[ar]at this
    obtain⟨b,off,h5,_,h6⟩:=h4 (by omega);cases h5
    rw[nh];exact h6 j u hu) (fU _ _) (by unfold maxLen;omega) (by omega) aJ
  refine⟨v',w',hr,?_,g1,e1⟩;rw[cd,jdy];exact o1
theorem tQ{w w':World}{base:Nat}{v:Value}{l:List Nat}(aA:aD w base v l)(hg:w.grownBy w' v.ownBlock)(aJ:base<=w.heap.size):Below base w w' :=
 (jdv base w).grown hg aJ (fun k hk=>(aA.lt k hk).1)
theorem qZ{w:World}{o:Oper}{a:Act}{K:Act->World->Prop}{Q:Exit->Act->World->Prop}(s x:Operand)
  (ho:o.op=.call { callee:=.builtin .append,args:=#[s,x],argTypes:=#[30,30] })
  (base:Nat) (v vx:Value) (l0 l:List Nat) (hs:a.eval s=v) (aA:aD w base v l0) (hx:a.eval x=vx) (fG:Sv w vx (aF .u8 l)) (hbytes:l0.length+l.length<=140737488355328) (aJ:base<=w.heap.size)
  (h:∀ v' w',aD w' base v' (l0++l)->Below base w w'->w.grownBy w' v.ownBlock->(v'.ownBlock=v.ownBlock∨v'.ownBlock=some w.heap.size)->K (a.put o.dst v') w'):Oper.wp Tryz.prog o a w K Q:=by
 obtain⟨v',w',hr,h2,h3,h4⟩:=pq o.type base v vx l0 l aA fG hbytes aJ;unfold Oper.wp execOp;simp only[ho,resolve,invoke,builtin,Sem.run_bind,Sem.run_pure,Result.andThen_ok,jeJ,jd5,jes,hs,hx,hr];exact h v' w' h2 (tQ aA h3 aJ) h3 h4
theorem wM{w:World}{ops:Array Oper}{o:Oper}{a:Act}{K:Act->World->Prop}{Q:Exit->Act->World->Prop}{E:Prop}(ex:o.guard=none)(s x:Operand)
  (ho:o.op=.call { callee:=.builtin .append,args:=#[s,x],argTypes:=#[30,30] })
  (base:Nat) (v vx:Value) (l0 l:List Nat) (hs:a.eval s=v) (aA:aD w base v l0) (hx:a.eval x=vx) (fG:Sv w vx (aF .u8 l)) (hbytes:l0.length+l.length<=140737488355328) (aJ:base<=w.heap.size)
  (h:∀ v' w',aD w' base v' (l0++l)->Below base w w'->w.grownBy w' v.ownBlock->(v'.ownBlock=v.ownBlock∨v'.ownBlock=some w.heap.size)->K (a.put o.dst v') w') :
  if Region.wanted o (yielded ops a.tmps)=true then Oper.wp Tryz.prog o a w K Q else E:=by
 have hw:Region.wanted o (yielded ops a.tmps)=true:=by simp[Region.wanted,ex]
 rw[jdu hw];exact qZ s x ho base v vx l0 l hs aA hx fG hbytes aJ h
theorem aV{w:World}{ops:Array Oper}{rest:List Oper}{o:Oper}{a:Act}{Q:Exit->Act->World->Prop}(ex:o.guard=none)(s x:Operand)
  (ho:o.op=.call { callee:=.builtin .append,args:=#[s,x],argTypes:=#[30,30] })
  (base:Nat) (v vx:Value) (l0 l:List Nat) (hs:a.eval s=v) (aA:aD w base v l0) (hx:a.eval x=vx) (fG:Sv w vx (aF .u8 l)) (hbytes:l0.length+l.length<=140737488355328) (aJ:base<=w.heap.size)
  (h:∀ v' w',aD w' base v' (l0++l)->Below base w w'->w.grownBy w' v.ownBlock->(v'.ownBlock=v.ownBlock∨v'.ownBlock=some w.heap.size)->wpList Tryz.prog ops Q rest (a.put o.dst v') w') :
  wpList Tryz.prog ops Q (o::rest) a w :=
 wpList_plain ex fun K hK=>qZ s x ho base v vx l0 l hs aA hx fG hbytes aJ fun v' w' h1 h2 h3 h4=>hK _ _ (h v' w' h1 h2 h3 h4)
theorem mZ{w:World}{ops:Array Oper}{o:Oper}{a:Act}{K:Act->World->Prop}{Q:Exit->Act->World->Prop}{E:Prop}(ex:o.guard=none)(s x:Operand)
  (ho:o.op=.call { callee:=.builtin .append,args:=#[s,x],argTypes:=#[30,9] })
  (base:Nat) (v:Value) (l0:List Nat) (z:ByteArray) (hs:a.eval s=v) (aA:aD w base v l0) (hx:a.eval x=.string z) (hbytes:l0.length+z.size<=140737488355328) (aJ:base<=w.heap.size)
  (h:∀ v' w',aD w' base v' (l0++da z)->Below base w w'->K (a.put o.dst v') w') :
  if Region.wanted o (yielded ops a.tmps)=true then Oper.wp Tryz.prog o a w K Q else E:=by
 have hw:Region.wanted o (yielded ops a.tmps)=true:=by simp[Region.wanted,ex]
 rw[jdu hw];obtain⟨i0,hi,ct,hz1',bv⟩:=jdP jk;have hb:=aA;unfold aD at aA;obtain⟨v',w',hr,o1,g1,_⟩:=run_append_own_string (P:=Tryz.prog) (w:=w) base 30 9 o.type 5 i0 Tryz.underlying30 Tryz.underlying9 hi ct hz1' bv v l0.length (aF .u8 l0) aA z (by unfold maxLen;omega) hbytes aJ;unfold Oper.wp execOp;simp only[ho,resolve,invoke,builtin,Sem.run_bind,Sem.run_pure,Result.andThen_ok,jeJ,jd5,jes,hs,hx,hr];refine h v' w' ?_ (tQ hb g1 aJ)
 have e:strCells z=aF .u8 (da z):=by
  unfold strCells aF da;rw[ByteArray.toList_eq];simp[jd8,Function.comp_def]
 unfold aD;rw[e]at o1;rw[cd,jdy,iQ];exact o1
end Go.Proofs.YtpljdjmpamjkhaaGreatDoor
