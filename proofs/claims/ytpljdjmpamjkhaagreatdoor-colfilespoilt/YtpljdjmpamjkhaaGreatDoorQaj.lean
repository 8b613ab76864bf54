import Derived.Test.YtpljdjmpamjkhaaGreatDoorQai
import Derived.Maps.OwnIn
set_option linter.unusedVariables false
set_option linter.unusedSimpArgs false
set_option maxRecDepth 100000
set_option maxHeartbeats 4000000
namespace Go.Proofs.YtpljdjmpamjkhaaGreatDoor
open Go.RowKit Go.Lib
theorem Tp{w:World}{B:Nat}{v:Value}{u:List (Nat×Nat)}(h:w.ownsRow B 3 1 v u.length (sgn u u.length)):∃ a cap,v=.slice a u.length cap/\u.length<=cap/\cap<=maxLen/\∀ k (hk:k<u.length),∃ g,a=some ⟨g,0,none⟩/\w.cell? ⟨g,k,none⟩=some (.int .i64 (u[k].1:Int)):=by
 obtain⟨a,cap,rfl,h1,h2⟩:=aO h;refine⟨a,cap,rfl,h1,h2,fun k hk=>?_⟩;obtain⟨g,cap',e,_,_,hc⟩:=(sS h).2 (by omega);simp only[Value.slice.injEq]at e;exact⟨g,e.1,hc k _ (LS hk)⟩
theorem XK{u:List (Nat×Nat)}{k:Nat}(hk:k<u.length):dT k (u.drop k)=(kZ k u[k].1 && dT (k+1) (u.drop (k+1))):=by
 rw[je1 hk,pE]
theorem ED{k c:Nat}(h:97<=c/\c<=122∨c=95∨127<c):kZ k c=true:=by
 unfold kZ gM;simp
 omega
theorem Jm{k c:Nat}(h1:48<=c)(h2:c<=57)(hk:0<k):kZ k c=true:=by
 unfold kZ eG;simp[hk]
 omega
theorem Tq{c:Nat}(h:¬ (97<=c/\c<=122∨c=95∨127<c)):kZ 0 c=false:=by
 unfold kZ gM;simp
 omega
theorem NQ{k c:Nat}(h:¬ (97<=c/\c<=122∨c=95∨127<c))(h2:¬ (48<=c/\c<=57)):kZ k c=false:=by
 unfold kZ gM eG;simp
 omega
theorem NR(s:ByteArray)(w:World):Calls Tryz.prog 49 #[.string s] w fun e w'=>e=.returned (.bool (named s))/\Below w.heap.size w w':=by
 by_cases h1:(s.size:Int)<1
 ·have HN:jgf (named s=false):=ae (by unfold named;rw[jeu (by omega)];rfl)
  go_enter Tryz.func49,Tryz.ntmps49
  go_wp2_with fail;go_ret
  rw[HN.o];exact⟨rfl,jej _ _⟩
 ·by_cases h2:(s.size:Int) > 16
  ·have HN:jgf (named s=false):=ae (by unfold named;rw[jeu (by omega)];rfl)
   go_enter Tryz.func49,Tryz.ntmps49
   go_wp2_with fail;go_ret
   rw[HN.o];exact⟨rfl,jej _ _⟩
  ·have HN:jgf (named s=(dS (lb s) && dT 0 (V (lb s)))):=ae (by unfold named;rw[jeB (by omega)];rfl)
   have HC:=ae (oX s (by omega));have hV:=Dr (lb s);have hL:=cL s;have hV16:(V (lb s)).length<=16:=(by omega);clear hV hL;generalize dS (lb s)=cl at *;generalize V (lb s)=u at *;go_enter Tryz.func49,Tryz.ntmps49
   go_wp2_with fail;refine(HC.o _).mono ?_;rintro e w1 ⟨⟨va,vb,rfl,ei,ft⟩,aH⟩;obtain⟨a,cap,rfl,aW,bC,bn⟩:=Tp ei;have HCE:=ae bn;have aP:=ae aH;have hcm':cap<=9223372036854775807:=by unfold maxLen at bC;omega
   clear ei ft aH bn bC HC;go_wp2_with fail;go_loopw [6] (fun i w'=>∃ k:Nat,w'=w1/\i=.int .i64 (k:Int)/\k<=u.length/\dT 0 u=dT k (u.drop k)) (fun i _=>u.length-(intOf i).toNat)
   case atStart=>exact⟨0,rfl,rfl,by omega,rfl⟩
   case round =>
    obtain⟨k,rfl,rfl,hk,dY⟩:=hrel;have HG:=ae dY;clear dY;by_cases aB:k<u.length
    ·obtain⟨g,rfl,hc⟩:=HCE.o k aB
     have HS:=ae (HG.o.trans (XK aB));generalize u[k].1=c at *;by_cases hA:97<=c/\c<=122∨c=95∨127<c
     ·have HK:=ae (ED (k:=k) hA)
      have hd:(48<=(c:Int)/\(c:Int)<=57)∨(c:Int)<48∨¬ (c:Int)<=57:=(by omega);rcases hA with ⟨q1,q2⟩ | q1 | q1
      ·have t1:(c:Int)>=97:=by omega
       have t2:(c:Int)<=122:=(by omega);have t3:(c:Int)>=48:=(by omega);have t4:¬ (c:Int)<=57:=(by omega);clear hd;go_wp2_with fail;go_roundw
       case rel=>exact⟨k+1,trivial,by go_num,by omega,by rw[HS.o,HK.o];rfl⟩
       case measure=>simp[intOf];omega
      ·have t0:((c:Int)==95)=true:=by simp;omega
       subst q1;clear hd;go_wp2_with fail;go_roundw
       case rel=>exact⟨k+1,trivial,by go_num,by omega,by rw[HS.o,HK.o];rfl⟩
       case measure=>simp[intOf];omega
      ·have t0:((c:Int)==95)=false:=by simp;omega
       have t1:(c:Int)>=97:=(by omega);have t2:¬ (c:Int)<=122:=(by omega);have t3:(c:Int)>=48:=(by omega);have t4:¬ (c:Int)<=57:=(by omega);have t5:(c:Int) > 127:=(by omega);clear hd;go_wp2_with fail;go_roundw
       case rel=>exact⟨k+1,trivial,by go_num,by omega,by rw[HS.o,HK.o];rfl⟩
       case measure=>simp[intOf];omega
     ·have t0:((c:Int)==95)=false:=by simp;omega
      have t5:¬ (c:Int) > 127:=(by omega);by_cases hD:48<=c/\c<=57
      ·have t1:¬ (c:Int)>=97:=by omega
       have t3:(c:Int)>=48:=(by omega);have t4:(c:Int)<=57:=(by omega);by_cases qB:k=0
       ·subst qB
        have HK:=ae (Tq hA);clear hA hD;go_wp2_with fail;go_ret
        refine⟨?_,aP.o⟩;rw[HN.o,HS.o,HK.o];simp
       ·have HK:=ae (Jm (k:=k) hD.1 hD.2 (by omega))
        have hkp:(k:Int) > 0:=(by omega);have hkp2:0<k:=(by omega);clear hA hD qB;go_wp2_with fail;go_roundw
        case rel=>exact⟨k+1,trivial,by go_num,by omega,by rw[HS.o,HK.o];rfl⟩
        case measure=>simp[intOf];omega
      ·have HK:=ae (NQ (k:=k) hA hD)
       have Zc:(c:Int)<48∨(57<(c:Int)/\(c:Int)<97)∨(122<(c:Int)):=(by omega);clear hA hD;rcases Zc with q | ⟨q,q'⟩ | q
       ·have t1:¬ (c:Int)>=97:=by omega
        have t3:¬ (c:Int)>=48:=(by omega);go_wp2_with fail;go_ret
        refine⟨?_,aP.o⟩;rw[HN.o,HS.o,HK.o];simp
       ·have t1:¬ (c:Int)>=97:=by omega
        have t3:(c:Int)>=48:=(by omega);have t4:¬ (c:Int)<=57:=(by omega);go_wp2_with fail;go_ret
        refine⟨?_,aP.o⟩;rw[HN.o,HS.o,HK.o];simp
       ·have t1:(c:Int)>=97:=by omega
        have t2:¬ (c:Int)<=122:=(by omega);have t3:(c:Int)>=48:=(by omega);have t4:¬ (c:Int)<=57:=(by omega);go_wp2_with fail;go_ret
        refine⟨?_,aP.o⟩;rw[HN.o,HS.o,HK.o];simp
    ·obtain rfl:k=u.length:=by omega
     have gi:¬ ((u.length:Nat):Int)<(u.length:Int):=(by omega);go_wp2_with fail;go_ret
     refine⟨?_,aP.o⟩;rw[HN.o,HG.o,jfg];simp[dT]
theorem XL{w:World}{v:Value}{l:List Fd}(hs:Sf w v l)(n:ByteArray):Calls Tryz.prog 50 #[v,.string n] w fun e w'=>e=.returned (.bool (pp l n))/\w'=w:=by
 have HS:=ae hs;obtain⟨a,cap,rfl,aW,bC⟩:=hs.form;clear hs;go_enter Tryz.func50,Tryz.ntmps50
 go_wp2_with fail;go_loopw [5] (fun i w'=>∃ k:Nat,w'=w/\i=.int .i64 (k:Int)/\k<=l.length/\pp l n=pp (l.drop k) n) (fun i _=>l.length-(intOf i).toNat)
 case atStart=>exact⟨0,rfl,rfl,by omega,rfl⟩
 case round =>
  obtain⟨k,rfl,rfl,hk,dY⟩:=hrel;have HG:=ae dY;clear dY;by_cases aB:k<l.length
  ·obtain⟨b,off,rfl,hb,c0,c1,c2,c3⟩:=HS.o.at aB
   have HT:=ae (HG.o.trans (zz (n:=n) aB));have hlt':(k:Int)<(l.length:Int):=(by omega);generalize l[k].2.1=m at *;have hse:=BT m n;clear c0 c2 c3;by_cases Rh:m=n
   ·subst Rh
    have hse':(m.toList==m.toList)=true:=by rw[BT];simp
    clear hse;go_wp2_with fail;go_ret
    refine⟨?_,rfl⟩;rw[HT.o];simp
   ·have hse':(m.toList==n.toList)=false:=by rw[BT,jeu Rh]
    have HM:=ae (jeu Rh);clear hse Rh;go_wp2_with fail;go_roundw
    case rel=>exact⟨k+1,trivial,by go_num,by omega,by rw[HT.o,HM.o];rfl⟩
    case measure=>simp[intOf];omega
  ·obtain rfl:k=l.length:=by omega
   have gi:¬ ((l.length:Nat):Int)<(l.length:Int):=(by omega);go_wp2_with fail;go_ret
   refine⟨?_,rfl⟩;rw[HG.o,jfg];rfl
theorem Tr{w:World}(f:Fd)(n:ByteArray){B:Nat}(hB:B<w.heap.size)(hc:w.cell? ⟨B,0,none⟩=some (.string n)) :
  Calls Tryz.prog 199 #[qk f,.pointer (some ⟨B,0,none⟩)] w fun e w'=>e=.returned (.bool (decide (f.2.1=n)))/\Below w.heap.size w w':=by
 unfold qk;have HE:=ae (BT f.2.1 n);generalize f.2.1=m at *;generalize f.1=x0 at *;generalize f.2.2.1=x2 at *;generalize f.2.2.2=x3 at *;go_enter Tryz.func199,Tryz.ntmps199
 go_wp2_with fail;go_ret
 refine⟨?_,(jej _ _).alloc (jek _) _⟩;rw[← HE.o];rfl
theorem NS{w:World}{v:Value}{l:List Fd}(hs:Sf w v l)(n:ByteArray){B:Nat}(hB:B<w.heap.size)(hc:w.cell? ⟨B,0,none⟩=some (.string n)) :
  Calls Tryz.prog 225 #[v,.func (.func 199) #[] #[.pointer (some ⟨B,0,none⟩)]] w fun e w'=>(∃ z:Int,e=.returned (.int .i64 z)/\decide (z>=0)=pp l n)/\Below w.heap.size w w':=by
 have HS:=ae hs;have HC:=ae hc;obtain⟨a,cap,rfl,aW,bC⟩:=hs.form;clear hs hc;go_enter Tryz.func225,Tryz.ntmps225
 go_wp2_with fail;go_loopw [8] (fun i w'=>∃ k:Nat,i=.int .i64 (k:Int)/\k<=l.length/\pp l n=pp (l.drop k) n/\Below w.heap.size w w') (fun i _=>l.length-(intOf i).toNat)
 case atStart=>exact⟨0,rfl,by omega,rfl,jej _ _⟩
 case round =>
  obtain⟨k,rfl,hk,dY,az⟩:=hrel;have HG:=ae dY;have HB:=ae az;have bH:=az.size;clear dY az;by_cases aB:k<l.length
  ·obtain⟨b,off,rfl,hb,c0,c1,c2,c3⟩:=(HS.o.kept HB.o).at aB
   have HT:=ae (HG.o.trans (zz (n:=n) aB));have hlt':(k:Int)<(l.length:Int):=(by omega);have lN:=ae (Tr l[k] n (w:=wr) (B:=B) (by omega) ((HB.o.cell (p:=⟨B,0,none⟩) hB).trans HC.o));unfold qk at lN;generalize decide (l[k].2.1=n)=d at *;generalize l[k].1=x0 at *;generalize l[k].2.1=x1 at *;generalize l[k].2.2.1=x2 at *;generalize l[k].2.2.2=x3 at *;go_wp2_with fail;refine lN.o.mono ?_;rintro e w2 ⟨rfl,aE⟩;have aN:=ae (HB.o.trans (aE.mono bH));clear aE c0 c1 c2 c3;cases d
   ·go_wp2_with fail
    go_roundw
    case rel=>exact⟨k+1,by go_num,by omega,by rw[HT.o];rfl,aN.o⟩
    case measure=>simp[intOf];omega
   ·go_wp2_with fail
    go_ret
    refine⟨⟨_,rfl,?_⟩,aN.o⟩;rw[HT.o,Bool.true_or];simp
  ·obtain rfl:k=l.length:=by omega
   have gi:¬ ((l.length:Nat):Int)<(l.length:Int):=(by omega);go_wp2_with fail;go_ret
   refine⟨⟨_,rfl,?_⟩,HB.o⟩;rw[HG.o,jfg];rfl
theorem BV{w:World}{v:Value}{l:List Fd}(hs:Sf w v l)(n:ByteArray){B:Nat}(hB:B<w.heap.size)(hc:w.cell? ⟨B,0,none⟩=some (.string n)) :
  Calls Tryz.prog 198 #[v,.func (.func 199) #[] #[.pointer (some ⟨B,0,none⟩)]] w fun e w'=>e=.returned (.bool (pp l n))/\Below w.heap.size w w':=by
 have HI:=ae (NS hs n hB hc);clear hs hc;go_enter Tryz.func198,Tryz.ntmps198
 go_wp2_with fail;refine HI.o.mono ?_;rintro e w1 ⟨⟨z,rfl,hz⟩,aH⟩;have HZ:=ae hz;have HB:=ae aH;clear hz aH;go_wp2_with fail;go_ret
 refine⟨?_,HB.o⟩;rw[← HZ.o];rfl
theorem xv{w:World}{v:Value}{l:List Fd}(hs:Sf w v l)(n:ByteArray):Calls Tryz.prog 163 #[v,.string n] w fun e w'=>e=.returned (.bool (wt l n))/\Below w.heap.size w w':=by
 have hmf:∀(fn:Fn) (first cap:Array Value) (w:World),(Instr.makeFunc fn first cap).run Tryz.prog w=.ok (.func fn first cap) w:=fun _ _ _ _=>rfl
 have HM:=ae (yO n);have HS:=ae (hs.kept (ak w (.cells #[.string n] 9)));have HF:jgf (wt l n=(named n && !pp l n)):=ae rfl;have HC0:=ae (aK w (.string n) 9);clear hs;go_enter Tryz.func163,Tryz.ntmps163
 go_wp2_with fail;refine(HM.o _).mono ?_;rintro e w1 ⟨rfl,aH⟩;have ja:=ae (HS.o.kept aH);have WG:=ae ((aH.cell (p:=⟨w.heap.size,0,none⟩) (by show w.heap.size<_;rw[jel];omega)).trans HC0.o);have cK:=aH.size;rw[jel]at cK;have aP:=ae (ai (ak w (.cells #[.string n] 9)) aH);clear aH;cases hnm:named n with
 | false =>
  rw[hnm]at HF;clear hnm;go_wp2_with fail;go_ret
  rw[HF.o];exact⟨rfl,aP.o⟩
 | true =>
  rw[hnm]at HF;clear hnm;go_wp2_with fail;refine(BV ja.o n (B:=w.heap.size) (by omega) WG.o).mono ?_;rintro e w2 ⟨rfl,aE⟩;have aN:=ae (ai aP.o aE);clear aE;go_wp2_with fail;go_ret
  rw[HF.o];exact⟨rfl,aN.o⟩
theorem Jn{w:World}{v:Value}{l:List Fd}(hs:Sf w v l)(f:Fd):Calls Tryz.prog 116 #[v,qk f] w fun e w'=>e=.returned (.int .i64 (gq l f:Int))/\Below w.heap.size w w':=by
 unfold qk;obtain⟨i,n,k,nd⟩:=f;simp only;have HM:jgf (gq l (i,n,k,nd)=if i<=fd l then 81 else if wt l n=false then 80 else if ld k=false then 10 else if (nd != decide (l.length=0))=true∨(l.length=0/\k=2) then 82 else 0):=ae rfl;generalize gq l (i,n,k,nd)=R at *;have HS:=ae (hs.kept (ak w (.cells #[.int .u32 (i:Int),.string n,.int .u8 (k:Int),.bool nd] 81)));have ce:=ae (ak w (.cells #[.int .u32 (i:Int),.string n,.int .u8 (k:Int),.bool nd] 81));obtain⟨c0,c1,c2,c3⟩:=jg w (.int .u32 (i:Int)) (.string n) (.int .u8 (k:Int)) (.bool nd) 81;have C1:=ae c1;have C2:=ae c2;have C3:=ae c3;have hz:w.heap.size<(w.alloc (.cells #[.int .u32 (i:Int),.string n,.int .u8 (k:Int),.bool nd] 81)).heap.size:=by rw[jel];omega
 clear c1 c2 c3;generalize hW:w.alloc (.cells #[.int .u32 (i:Int),.string n,.int .u8 (k:Int),.bool nd] 81)=W at *;have HL:=ae (fun m=>Jl (xt HS.o m));have np:=ae (fun m=>xv (xt HS.o m) n);obtain⟨a,cap,rfl,aW,bC⟩:=hs.form;have Zd:=ae (BU k);obtain⟨ky,hky⟩:∃ ky,((l.length:Int)==0)=ky:=⟨_,rfl⟩
 have HD:jgf (decide (l.length=0)=ky):=ae (by
  rw[← hky];by_cases h:l.length=0
  ·rw[jeB h];simp[h]
  ·rw[jeu h];simp[h])
 have HLB:jgf ((l.length=0)↔ky=true):=ae (by rw[← hky];simp);rw[HD.o]at HM;clear hs aW bC;have sD:=ae (show fd l=fd l from rfl);generalize fd l=la at *;have pt:((i:Int)<=(la:Int))↔i<=la:=by omega
 go_enter Tryz.func116,Tryz.ntmps116
 go_wp2_with fail;try rw[hW]
 clear hW;by_cases hi:i<=la
 ·have hi':(i:Int)<=(la:Int):=by omega
  rw[jei hi]at HM;clear pt hi;go_quiet ((go_at_call 162;exact Calls.quiet_of_same (HL.o _)))
  go_wp2_with fail;go_ret
  rw[HM.o];exact⟨rfl,ar ce.o _⟩
 ·have hi':¬ (i:Int)<=(la:Int):=by omega
  rw[jeh hi]at HM;clear pt hi;go_quiet ((go_at_call 162;exact Calls.quiet_of_same (HL.o _)))
  have c1:=C1.o;go_wp2_with fail;refine(np.o _).mono ?_;rintro e w1 ⟨rfl,aH⟩;have hbW:=(ar (jej W.heap.size W) _).trans aH;have aP:=ae (ai ce.o hbW);have c2:=(hbW.cell (p:=⟨w.heap.size,2,none⟩) hz).trans C2.o;have c3:=(hbW.cell (p:=⟨w.heap.size,3,none⟩) hz).trans C3.o;have C3':=ae c3;clear aH hbW c0 c1;by_cases hf:wt l n=false
  ·rw[jei hf]at HM
   rw[hf];clear hf c2 c3;go_wp2_with fail;go_ret
   rw[HM.o];exact⟨rfl,aP.o⟩
  ·rw[jeh hf]at HM
   have hf':wt l n=true:=by simpa using hf
   rw[hf'];clear hf hf' c3;go_wp2_with fail;refine(Zd.o _).mono ?_;rintro e w2 ⟨rfl,rfl⟩;by_cases hk:ld k=false
   ·rw[jei hk]at HM
    rw[hk];clear hk;go_wp2_with fail;go_ret
    rw[HM.o];exact⟨rfl,aP.o⟩
   ·rw[jeh hk]at HM
    have hk':ld k=true:=by simpa using hk
    rw[hk'];clear hk hk';have c3:=C3'.o;cases nd
    ·cases ky
     ·have HR:jgf (R=0):=by
       show _=_
       rw[HM.o];exact jeh (fun h=>by rcases h with h | ⟨h,_⟩;(· cases h);(· have:=HLB.o.1 h;cases this))
      clear HM;go_wp2_with fail;go_ret
      rw[HR.o];exact⟨rfl,aP.o⟩
     ·have HR:jgf (R=82):=by show _=_;rw[HM.o];exact jei (Or.inl rfl)
      clear HM;go_wp2_with fail;go_ret
      rw[HR.o];exact⟨rfl,aP.o⟩
    ·cases ky
     ·have HR:jgf (R=82):=by show _=_;rw[HM.o];exact jei (Or.inl rfl)
      clear HM;go_wp2_with fail;go_ret
      rw[HR.o];exact⟨rfl,aP.o⟩
     ·by_cases h2:k=2
      ·have HR:jgf (R=82):=by show _=_;rw[HM.o];exact jei (Or.inr ⟨HLB.o.2 rfl,h2⟩)
       have h2':((k:Int)==2)=true:=by simp;omega
       clear HM h2;go_wp2_with fail;go_ret
       rw[HR.o];exact⟨rfl,aP.o⟩
      ·have HR:jgf (R=0):=by show _=_;rw[HM.o];exact jeh (fun h=>by rcases h with h | ⟨_,h⟩;(· cases h);(· exact h2 h))
       have h2':((k:Int)==2)=false:=by simp;omega
       clear HM h2;go_wp2_with fail;go_ret
       rw[HR.o];exact⟨rfl,aP.o⟩
theorem rE{w:World}{ops:Array Oper}{rest:List Oper}{o:Oper}{a:Act}{Q:Exit->Act->World->Prop}(dY:o.guard=none)(s x:Operand)
  (ho:o.op=.call { callee:=.builtin .append,args:=#[s,x],argTypes:=#[30,9] })
  (base:Nat) (v:Value) (l0:List Nat) (z:ByteArray) (hs:a.eval s=v) (aA:aD w base v l0) (hx:a.eval x=.string z)
  (hbytes:l0.length+z.size<=140737488355328) (aI:base<=w.heap.size)
  (h:∀ v' w',aD w' base v' (l0++de z)->Below base w w'->wpList Tryz.prog ops Q rest (a.put o.dst v') w') :
  wpList Tryz.prog ops Q (o::rest) a w:=by
 obtain⟨i0,hi,ch,hz1',bv⟩:=jeD jv;unfold aD at *;refine wpList_append_own_string (w:=w) dY s x 30 9 ho base 5 i0 Tryz.underlying30 Tryz.underlying9 hi ch hz1' bv v l0.length (aF .u8 l0) hs aA z hx (by unfold maxLen;omega) (by exact hbytes) aI ?_;intro v' w' o1 g1 _;refine h v' w' ?_ ((jej base w).grown g1 aI (fun k hk=>(aA.lt k hk).1))
 have e:strCells z=aF .u8 (de z):=by
  unfold strCells aF de;rw[ByteArray.toList_eq];simp[jeW,Function.comp_def]
 rw[e]at o1;rw[ct,jem,jc];exact o1
theorem Tt(b:Bool)(w:World):Calls Tryz.prog 166 #[.bool b] w fun e w'=>e=.returned (.int .u64 ((ff b:Nat):Int))/\w'=w:=by
 cases b
 all_goals
  go_enter Tryz.func166,Tryz.ntmps166
  go_wp2;go_ret
  exact⟨rfl,rfl⟩
theorem gH(n:Nat)(h:n<18446744073709551616):(uv n).length<=10:=bO h
theorem yP(f:Fd)(hf:Okf f)(hs:f.2.1.size<5000)(w:World):Calls Tryz.prog 120 #[qk f] w (dA w (ix f)):=by
 unfold qk;obtain⟨i,n,k,nd⟩:=f;have h1:i<4294967296:=hf.1;have h2:k<256:=hf.2;simp only at *;have HP:jgf (ix (i,n,k,nd)=uv i++uv n.size++de n++uv k++uv (ff nd)):=ae rfl;have jH:ff nd<2:=by unfold ff;split<;>omega
 have QA:=ae (dQ i (by omega));have Ze:=ae (dQ n.size (by omega));have HV3:=ae (dQ k (by omega));have HV4:=ae (dQ (ff nd) (by omega));have zr:=ae (Tt nd);have u1:=gH i (by omega);have u2:=gH n.size (by omega);have u3:=gH k (by omega);have u4:=gH (ff nd) (by omega);have hnl:=jc n;have ce:=ae (ak w (.cells #[.int .u32 (i:Int),.string n,.int .u8 (k:Int),.bool nd] 81));have hz:w.heap.size<(w.alloc (.cells #[.int .u32 (i:Int),.string n,.int .u8 (k:Int),.bool nd] 81)).heap.size:=by rw[jel];omega
 have HT:jgf (∀ U,Below (w.alloc (.cells #[.int .u32 (i:Int),.string n,.int .u8 (k:Int),.bool nd] 81)).heap.size (w.alloc (.cells #[.int .u32 (i:Int),.string n,.int .u8 (k:Int),.bool nd] 81)) U->U.cell? ⟨w.heap.size,0,none⟩=some (.int .u32 (i:Int))/\U.cell? ⟨w.heap.size,1,none⟩=some (.string n)/\U.cell? ⟨w.heap.size,2,none⟩=some (.int .u8 (k:Int))/\U.cell? ⟨w.heap.size,3,none⟩=some (.bool nd)):=ae (fun U h=>by
  obtain⟨c0,c1,c2,c3⟩:=jg w (.int .u32 (i:Int)) (.string n) (.int .u8 (k:Int)) (.bool nd) 81;exact⟨(h.cell (p:=⟨w.heap.size,0,none⟩) hz).trans c0,(h.cell (p:=⟨w.heap.size,1,none⟩) hz).trans c1,(h.cell (p:=⟨w.heap.size,2,none⟩) hz).trans c2,(h.cell (p:=⟨w.heap.size,3,none⟩) hz).trans c3⟩)
 generalize hW:w.alloc (.cells #[.int .u32 (i:Int),.string n,.int .u8 (k:Int),.bool nd] 81)=W at *;obtain⟨c0,c1,c2,c3⟩:=HT.o W (jej _ _);clear hf;generalize uv i=p1 at *;generalize uv n.size=p2 at *;generalize uv k=p3 at *;generalize uv (ff nd)=p4 at *;generalize ff nd=fl at *;go_enter Tryz.func120,Tryz.ntmps120
 go_wp2_with fail;try rw[hW]
 clear hW;refine(QA.o _).mono ?_;rintro e w1 ⟨⟨v1,rfl,o1⟩,aH⟩;have eO:=ae o1;have My:=ae aH;clear o1 aH c0 c1 c2 c3;obtain⟨c0,c1,c2,c3⟩:=HT.o _ My.o;go_wp2_with fail;refine(Ze.o _).mono ?_;rintro e w2 ⟨⟨v2,rfl,o2⟩,aE⟩;have HO1k:=ae (eO.o.kept aE);have dz:=ae o2.sv;have zi:=ae (ai My.o aE);clear o2 aE c0 c1 c2 c3;obtain⟨c0,c1,c2,c3⟩:=HT.o _ zi.o;go_wp2_with (first | (at_builtin;refine ax rfl _ _ rfl W.heap.size _ _ p1 p2 rfl HO1k.o rfl dz.o ?d1 ?d2 ?_))
 case d1=>omega
 case d2=>exact zi.o.size
 intro v3 w3 o3 aS;have dd:jgf (aD w3 W.heap.size v3 (p1++p2)):=ae (by simpa using o3);have VF:=ae (zi.o.trans aS);clear o3 aS c0 c1 c2 c3;obtain⟨c0,c1,c2,c3⟩:=HT.o _ VF.o;go_wp2_with (first | (at_builtin;refine rE rfl _ _ rfl W.heap.size _ (p1++p2) n rfl dd.o rfl ?d3 ?d4 ?_))
 case d3=>first | (simp only[jem];omega) | (simp;omega) | omega
 case d4=>exact VF.o.size
 intro v4 w4 o4 bG;have eY:jgf (aD w4 W.heap.size v4 (p1++p2++de n)):=ae (by simpa using o4);have HX4:=ae (VF.o.trans bG);clear o4 bG c0 c1 c2 c3;obtain⟨c0,c1,c2,c3⟩:=HT.o _ HX4.o;go_wp2_with fail;refine(HV3.o _).mono ?_;rintro e w5 ⟨⟨v5,rfl,o5⟩,bD⟩;have HO4k:=ae (eY.o.kept bD);have df:=ae o5.sv;have Ri:=ae (ai HX4.o bD);clear o5 bD c0 c1 c2 c3;obtain⟨c0,c1,c2,c3⟩:=HT.o _ Ri.o;go_wp2_with (first | (at_builtin;refine ax rfl _ _ rfl W.heap.size _ _ (p1++p2++de n) p3 rfl HO4k.o rfl df.o ?d5 ?d6 ?_))
 case d5=>first | (simp only[jem];omega) | (simp;omega) | omega
 case d6=>exact Ri.o.size
 intro v6 w6 o6 dW;have my:jgf (aD w6 W.heap.size v6 (p1++p2++de n++p3)):=ae (by simpa using o6);have wm:=ae (Ri.o.trans dW);clear o6 dW c0 c1 c2 c3;obtain⟨c0,c1,c2,c3⟩:=HT.o _ wm.o;go_wp2_with fail;refine(zr.o _).mono ?_;rintro e w7 ⟨rfl,rfl⟩;go_wp2_with fail;refine(HV4.o _).mono ?_;rintro e w8 ⟨⟨v8,rfl,o8⟩,kR⟩;have HO6k:=ae (my.o.kept kR);have Qv:=ae o8.sv;have HX8:=ae (ai wm.o kR);clear o8 kR c0 c1 c2 c3;go_wp2_with (first | (at_builtin;refine ax rfl _ _ rfl W.heap.size _ _ (p1++p2++de n++p3) p4 rfl HO6k.o rfl Qv.o ?d7 ?d8 ?_))
 case d7=>first | (simp only[jem];omega) | (simp;omega) | omega
 case d8=>exact HX8.o.size
 intro v9 w9 o9 pS;have Vx:jgf (aD w9 W.heap.size v9 (p1++p2++de n++p3++p4)):=ae (by simpa using o9);have HX9:=ae (HX8.o.trans pS);clear o9 pS;go_wp2_with fail;go_ret
 rw[HP.o];exact⟨⟨_,rfl,bg Vx.o ce.o.size⟩,ai ce.o HX9.o⟩
theorem pK{l:List Fd}(hz:szs l<5000){k:Nat}(hk:k<l.length):l[k].2.1.size<5000:=by
 have:=LE (jeo hk);omega
theorem fQ{l:List Fd}(ho:∀ f∈l,Okf f)(hl:l.length<=100)(hz:szs l<5000)(k:Nat):(ia (l.take k)).length<=10000:=by
 have h1:=MX (l:=l.take k) (fun f hf=>ho f (je2 hf)) (jf4 (ub l k) hz);have h2:=ub l k;have h3:(l.take k).length<=100:=by rw[jeq];omega
 omega
theorem Tu{w:World}{v:Value}{l:List Fd}(hs:Sf w v l)(ho:∀ f∈l,Okf f)(hl:l.length<=100)(hz:szs l<5000)(id:Nat)(lM:id<4294967296) :
  Calls Tryz.prog 80 #[.agg #[.int .u32 (id:Int),v]] w (dA w (dH id l)):=by
 obtain⟨a,cap,rfl,aW,bC⟩:=hs.form;have Mz:=ae ho;have HP:jgf (dH id l=uv id++uv l.length++ia l):=ae rfl;have sL:=ae (fQ ho hl hz);have qG:=ae (fun k=>pK (k:=k) hz);have QA:=ae (dQ id (by omega));have Ze:=ae (dQ l.length (by omega));have u1:=gH id (by omega);have u2:=gH l.length (by omega);have dL:=ak w (.cells #[.int .u32 (id:Int),.slice a l.length cap] 25);have yn:w.heap.size<(w.alloc (.cells #[.int .u32 (id:Int),.slice a l.length cap] 25)).heap.size:=by rw[jel];omega
 have HT:jgf (∀ U,Below (w.alloc (.cells #[.int .u32 (id:Int),.slice a l.length cap] 25)).heap.size (w.alloc (.cells #[.int .u32 (id:Int),.slice a l.length cap] 25)) U->Sf U (.slice a l.length cap) l/\U.cell? ⟨w.heap.size,0,none⟩=some (.int .u32 (id:Int))/\U.cell? ⟨w.heap.size,1,none⟩=some (.slice a l.length cap)):=ae (fun U h=>by
  obtain⟨c0,c1⟩:=bx w (.int .u32 (id:Int)) (.slice a l.length cap) 25;exact⟨(hs.kept dL).kept h,(h.cell (p:=⟨w.heap.size,0,none⟩) yn).trans c0,(h.cell (p:=⟨w.heap.size,1,none⟩) yn).trans c1⟩)
 have ce:=ae dL;clear hs dL ho;generalize hW:w.alloc (.cells #[.int .u32 (id:Int),.slice a l.length cap] 25)=W at *;obtain⟨_,c0,c1⟩:=HT.o W (jej _ _);generalize uv id=p1 at *;generalize uv l.length=p2 at *;go_enter Tryz.func80,Tryz.ntmps80
 go_wp2_with fail;try rw[hW]
 clear hW;refine(QA.o _).mono ?_;rintro e w1 ⟨⟨v1,rfl,o1⟩,aH⟩;have eO:=ae o1;have My:=ae aH;clear o1 aH c0 c1;obtain⟨_,c0,c1⟩:=HT.o _ My.o;go_wp2_with fail;refine(Ze.o _).mono ?_;rintro e w2 ⟨⟨v2,rfl,o2⟩,aE⟩;have HO1k:=ae (eO.o.kept aE);have dz:=ae o2.sv;have zi:=ae (ai My.o aE);clear o2 aE c0 c1;go_wp2_with (first | (at_builtin;refine ax rfl _ _ rfl W.heap.size _ _ p1 p2 rfl HO1k.o rfl dz.o ?d1 ?d2 ?_))
 case d1=>omega
 case d2=>exact zi.o.size
 intro v3 w3 o3 aS;have dd:=ae o3;have VF:=ae (zi.o.trans aS);clear o3 aS;obtain⟨_,c0,c1⟩:=HT.o _ VF.o;go_wp2_with fail;clear c0 c1;go_loopw [3,20] (fun b i wr=>∃ k:Nat,k<=l.length/\i=.int .i64 (k:Int)/\aD wr W.heap.size b (p1++p2++ia (l.take k))/\Below W.heap.size W wr) (fun _ i _=>l.length-(intOf i).toNat)
 case atStart=>exact⟨0,by omega,rfl,by simpa [ia]using dd.o,VF.o⟩
 case round =>
  obtain⟨k,hk,rfl,aA,az⟩:=hrel;have HO:=ae aA;have HB:=ae az;have bH:=az.size;clear aA az;by_cases aB:k<l.length
  ·obtain⟨b,off,rfl,hb,x0,x1,x2,x3⟩:=(HT.o _ HB.o).1.at aB
   have hlt':(k:Int)<(l.length:Int):=(by omega);have cP:=ae (mI aB);have HPF:=ae (yP l[k] (Mz.o _ (jeo aB)) (qG.o k aB));have hplen:=sL.o k
   have hpf:(ix l[k]).length<=5100:=by
    have h1:=zH (Mz.o _ (jeo aB)) (by have:=qG.o k aB;omega);have h2:=qG.o k aB;omega
   generalize ix l[k]=PF at *;generalize ia (l.take k)=PL at *;generalize l[k]=f at *;obtain⟨f0,f1,f2,f3⟩:=f;unfold qk at HPF;simp only at *;have Dm:=ae (ak wr (.cells #[.int .u32 (f0:Int),.string f1,.int .u8 (f2:Int),.bool f3] 81));go_wp2_with fail;refine(HPF.o _).mono ?_;rintro e w5 ⟨⟨v5,rfl,o5⟩,bD⟩;have hbT:=ai Dm.o bD;have df:=ae (HO.o.kept hbT);have my:=ae o5.sv;have Ri:=ae (ai HB.o hbT);clear o5 bD hbT x0 x1 x2 x3;go_wp2_with (first | (at_builtin;refine ax rfl _ _ rfl W.heap.size _ _ (p1++p2++PL) PF rfl df.o rfl my.o ?d3 ?d4 ?_))
   case d3=>first | (simp only[jem];omega) | (simp;omega) | omega
   case d4=>exact Ri.o.size
   intro v7 w7 o7 iR;have iI:jgf (aD w7 W.heap.size v7 (p1++p2++PL++PF)):=ae (by simpa using o7);have HX7:=ae (Ri.o.trans iR);clear o7 iR;go_wp2_with fail;go_roundw
   case rel=>exact⟨k+1,by omega,by go_num,by rw[cP.o,← jez];exact iI.o,HX7.o⟩
   case measure=>simp[intOf];omega
  ·obtain rfl:k=l.length:=by omega
   have gi:¬ ((l.length:Nat):Int)<(l.length:Int):=(by omega);rw[jes]at HO;go_wp2_with fail;go_ret
   rw[HP.o];exact⟨⟨_,rfl,bg HO.o ce.o.size⟩,ai ce.o HB.o⟩
theorem pL{w:World}(ty:TypeId)(base:Nat)(v vx:Value)(l0 l:List Nat)(aA:aD w base v l0)(eN:Sv w vx (aF .u8 l))(hbytes:l0.length+l.length<=140737488355328)(aI:base<=w.heap.size) :
  ∃ v' w',(Builtin.append_ #[30,30] ty #[v,vx]).run Tryz.prog w=.ok v' w'/\aD w' base v' (l0++l)/\w.grownBy w' v.ownBlock/\(v'.ownBlock=v.ownBlock∨v'.ownBlock=some w.heap.size):=by
 obtain⟨i0,hi,ch,hz1',bv⟩:=jeD jv;unfold aD at *;obtain⟨ad,cap,rfl,h1,h2,h3,h4⟩:=eN;rw[ap]at *;cases ad with
 | none =>
  have hc:=h3 rfl;subst hc;have hl:l=[]:=jeI (by omega);subst hl;have hr:=jfI (P:=Tryz.prog) (w:=w) base 30 ty 5 i0 1 Tryz.underlying30 hi v l0.length (aF .u8 l0) aA;refine⟨v,w,hr,by rw[jeG];exact aA,⟨rfl,rfl,rfl,jek _,fun _ _ _=>rfl⟩,Or.inl rfl⟩
 | some ad =>
  obtain⟨v',w',hr,o1,g1,_,e1⟩:=run_append_own_at (P:=Tryz.prog) w base 30 ty 5 i0 (.int .u8 0) 1 1 Tryz.underlying30 hi ch hz1' bv rfl (by decide) v l0.length (aF .u8 l0) aA ad l.length cap (aF .u8 l) (by rw[ap];omega)
   (fun j u hu=>by
    have hj:j<l.length:=by
     have:=(List.getElem?_eq_some_iff.1 hu).1;rwa[ap]at this
    obtain⟨b,off,h5,_,h6⟩:=h4 (by omega);cases h5
    rw[lR];exact h6 j u hu) (fY _ _) (by unfold maxLen;omega) (by omega) aI
  refine⟨v',w',hr,?_,g1,e1⟩;rw[ct,jem];exact o1
theorem ux{w w':World}{base:Nat}{v:Value}{l:List Nat}(aA:aD w base v l)(hg:w.grownBy w' v.ownBlock)(aI:base<=w.heap.size):Below base w w' :=
 (jej base w).grown hg aI (fun k hk=>(aA.lt k hk).1)
theorem rF{w:World}{o:Oper}{a:Act}{K:Act->World->Prop}{Q:Exit->Act->World->Prop}(s x:Operand)
  (ho:o.op=.call { callee:=.builtin .append,args:=#[s,x],argTypes:=#[30,30] })
  (base:Nat) (v vx:Value) (l0 l:List Nat) (hs:a.eval s=v) (aA:aD w base v l0) (hx:a.eval x=vx) (eN:Sv w vx (aF .u8 l)) (hbytes:l0.length+l.length<=140737488355328) (aI:base<=w.heap.size)
  (h:∀ v' w',aD w' base v' (l0++l)->Below base w w'->w.grownBy w' v.ownBlock->(v'.ownBlock=v.ownBlock∨v'.ownBlock=some w.heap.size)->K (a.put o.dst v') w'):Oper.wp Tryz.prog o a w K Q:=by
 obtain⟨v',w',hr,h2,h3,h4⟩:=pL o.type base v vx l0 l aA eN hbytes aI;unfold Oper.wp execOp;simp only[ho,resolve,invoke,builtin,Sem.run_bind,Sem.run_pure,Result.andThen_ok,jfs,jeT,je8,hs,hx,hr];exact h v' w' h2 (ux aA h3 aI) h3 h4
theorem xw{w:World}{ops:Array Oper}{o:Oper}{a:Act}{K:Act->World->Prop}{Q:Exit->Act->World->Prop}{E:Prop}(dY:o.guard=none)(s x:Operand)
  (ho:o.op=.call { callee:=.builtin .append,args:=#[s,x],argTypes:=#[30,30] })
  (base:Nat) (v vx:Value) (l0 l:List Nat) (hs:a.eval s=v) (aA:aD w base v l0) (hx:a.eval x=vx) (eN:Sv w vx (aF .u8 l)) (hbytes:l0.length+l.length<=140737488355328) (aI:base<=w.heap.size)
  (h:∀ v' w',aD w' base v' (l0++l)->Below base w w'->w.grownBy w' v.ownBlock->(v'.ownBlock=v.ownBlock∨v'.ownBlock=some w.heap.size)->K (a.put o.dst v') w') :
  if Region.wanted o (yielded ops a.tmps)=true then Oper.wp Tryz.prog o a w K Q else E:=by
 have hw:Region.wanted o (yielded ops a.tmps)=true:=by simp[Region.wanted,dY]
 rw[jei hw];exact rF s x ho base v vx l0 l hs aA hx eN hbytes aI h
theorem aV{w:World}{ops:Array Oper}{rest:List Oper}{o:Oper}{a:Act}{Q:Exit->Act->World->Prop}(dY:o.guard=none)(s x:Operand)
  (ho:o.op=.call { callee:=.builtin .append,args:=#[s,x],argTypes:=#[30,30] })
  (base:Nat) (v vx:Value) (l0 l:List Nat) (hs:a.eval s=v) (aA:aD w base v l0) (hx:a.eval x=vx) (eN:Sv w vx (aF .u8 l)) (hbytes:l0.length+l.length<=140737488355328) (aI:base<=w.heap.size)
  (h:∀ v' w',aD w' base v' (l0++l)->Below base w w'->w.grownBy w' v.ownBlock->(v'.ownBlock=v.ownBlock∨v'.ownBlock=some w.heap.size)->wpList Tryz.prog ops Q rest (a.put o.dst v') w') :
  wpList Tryz.prog ops Q (o::rest) a w :=
 wpList_plain dY fun K hK=>rF s x ho base v vx l0 l hs aA hx eN hbytes aI fun v' w' h1 h2 h3 h4=>hK _ _ (h v' w' h1 h2 h3 h4)
theorem nj{w:World}{ops:Array Oper}{o:Oper}{a:Act}{K:Act->World->Prop}{Q:Exit->Act->World->Prop}{E:Prop}(dY:o.guard=none)(s x:Operand)
  (ho:o.op=.call { callee:=.builtin .append,args:=#[s,x],argTypes:=#[30,9] })
  (base:Nat) (v:Value) (l0:List Nat) (z:ByteArray) (hs:a.eval s=v) (aA:aD w base v l0) (hx:a.eval x=.string z) (hbytes:l0.length+z.size<=140737488355328) (aI:base<=w.heap.size)
  (h:∀ v' w',aD w' base v' (l0++de z)->Below base w w'->K (a.put o.dst v') w') :
  if Region.wanted o (yielded ops a.tmps)=true then Oper.wp Tryz.prog o a w K Q else E:=by
 have hw:Region.wanted o (yielded ops a.tmps)=true:=by simp[Region.wanted,dY]
 rw[jei hw];obtain⟨i0,hi,ch,hz1',bv⟩:=jeD jv;have hb:=aA;unfold aD at aA;obtain⟨v',w',hr,o1,g1,_⟩:=run_append_own_string (P:=Tryz.prog) (w:=w) base 30 9 o.type 5 i0 Tryz.underlying30 Tryz.underlying9 hi ch hz1' bv v l0.length (aF .u8 l0) aA z (by unfold maxLen;omega) hbytes aI;unfold Oper.wp execOp;simp only[ho,resolve,invoke,builtin,Sem.run_bind,Sem.run_pure,Result.andThen_ok,jfs,jeT,je8,hs,hx,hr];refine h v' w' ?_ (ux hb g1 aI)
 have e:strCells z=aF .u8 (de z):=by
  unfold strCells aF de;rw[ByteArray.toList_eq];simp[jeW,Function.comp_def]
 unfold aD;rw[e]at o1;rw[ct,jem,jc];exact o1
theorem cmpK(a b:Int)(w:World):Calls Tryz.prog 150 #[.int .u8 a,.int .u8 b] w fun e w'=>e=.returned (.int .i64 (if a<b then -1 else if b<a then 1 else 0))/\w'=w:=by
 by_cases h1:a<b
 ·go_enter Tryz.func150,Tryz.ntmps150
  go_wp2;go_ret
  exact⟨rfl,rfl⟩
 ·by_cases h2:b<a
  ·go_enter Tryz.func150,Tryz.ntmps150
   go_wp2;go_ret
   exact⟨rfl,rfl⟩
  ·go_enter Tryz.func150,Tryz.ntmps150
   go_wp2;go_ret
   exact⟨rfl,rfl⟩
theorem cmpI(a b:Int)(w:World):Calls Tryz.prog 151 #[.int .i64 a,.int .i64 b] w fun e w'=>e=.returned (.int .i64 (if a<b then -1 else if b<a then 1 else 0))/\w'=w:=by
 by_cases h1:a<b
 ·go_enter Tryz.func151,Tryz.ntmps151
  go_wp2;go_ret
  exact⟨rfl,rfl⟩
 ·by_cases h2:b<a
  ·go_enter Tryz.func151,Tryz.ntmps151
   go_wp2;go_ret
   exact⟨rfl,rfl⟩
  ·go_enter Tryz.func151,Tryz.ntmps151
   go_wp2;go_ret
   exact⟨rfl,rfl⟩
theorem XM(a b:ByteArray)(w:World)(h:Op.bytesLess a.toList b.toList=true):Calls Tryz.prog 152 #[.string a,.string b] w fun e w'=>e=.returned (.int .i64 (-1))/\w'=w:=by
 go_enter Tryz.func152,Tryz.ntmps152
 go_wp2;go_ret
 exact⟨rfl,rfl⟩
theorem XN(a b:ByteArray)(w:World)(h:Op.bytesLess a.toList b.toList=false)(h2:(a.toList==b.toList)=true):Calls Tryz.prog 152 #[.string a,.string b] w fun e w'=>e=.returned (.int .i64 0)/\w'=w:=by
 go_enter Tryz.func152,Tryz.ntmps152
 go_wp2;go_ret
 exact⟨rfl,rfl⟩
theorem XO(a b:ByteArray)(w:World)(h:Op.bytesLess a.toList b.toList=false)(h2:(a.toList==b.toList)=false):Calls Tryz.prog 152 #[.string a,.string b] w fun e w'=>e=.returned (.int .i64 1)/\w'=w:=by
 go_enter Tryz.func152,Tryz.ntmps152
 go_wp2;go_ret
 exact⟨rfl,rfl⟩
def c3(a b:Int):Int:=if a<b then -1 else if b<a then 1 else 0
def cS(a b:ByteArray):Int:=if Op.bytesLess a.toList b.toList=true then -1 else if (a.toList==b.toList)=true then 0 else 1
def or3(x y z:Int):Int:=if x≠0 then x else if y≠0 then y else z
theorem Tv(a b:Int)(w:World):Calls Tryz.prog 150 #[.int .u8 a,.int .u8 b] w fun e w'=>e=.returned (.int .i64 (c3 a b))/\w'=w:=by
 unfold c3;exact cmpK a b w
theorem Tw(a b:Int)(w:World):Calls Tryz.prog 151 #[.int .i64 a,.int .i64 b] w fun e w'=>e=.returned (.int .i64 (c3 a b))/\w'=w:=by
 unfold c3;exact cmpI a b w
theorem Tx(a b:ByteArray)(w:World):Calls Tryz.prog 152 #[.string a,.string b] w fun e w'=>e=.returned (.int .i64 (cS a b))/\w'=w:=by
 unfold cS;by_cases h:Op.bytesLess a.toList b.toList=true
 ·rw[jei h];exact XM a b w h
 ·rw[jeh h]
  by_cases h2:(a.toList==b.toList)=true
  ·rw[jei h2];exact XN a b w (by simpa using h) h2
  ·rw[jeh h2];exact XO a b w (by simpa using h) (by simpa using h2)
theorem or_x(g:Nat)(x:Int)(w:World)(h0:w.cell? ⟨g,0,none⟩=some (.int .i64 x))(hx:(x != 0)=true):Calls Tryz.prog 149 #[.slice (some ⟨g,0,none⟩) 3 3] w fun e w'=>e=.returned (.int .i64 x)/\w'=w:=by
 go_enter Tryz.func149,Tryz.ntmps149
 go_wp2;refine wp_loop_rounds 1 ?_;rw[rounds_succ];go_wp2;go_ret
 exact⟨rfl,rfl⟩
theorem or_y(g:Nat)(y:Int)(w:World)(h0:w.cell? ⟨g,0,none⟩=some (.int .i64 0))(h1:w.cell? ⟨g,1,none⟩=some (.int .i64 y))(hy:(y != 0)=true):Calls Tryz.prog 149 #[.slice (some ⟨g,0,none⟩) 3 3] w fun e w'=>e=.returned (.int .i64 y)/\w'=w:=by
 go_enter Tryz.func149,Tryz.ntmps149
 go_wp2;refine wp_loop_rounds 2 ?_;rw[rounds_succ];go_wp2;rw[rounds_succ];go_wp2;go_ret
 exact⟨rfl,rfl⟩
theorem or_z(g:Nat)(z:Int)(w:World)(h0:w.cell? ⟨g,0,none⟩=some (.int .i64 0))(h1:w.cell? ⟨g,1,none⟩=some (.int .i64 0))(h2:w.cell? ⟨g,2,none⟩=some (.int .i64 z))(hz:(z != 0)=true):Calls Tryz.prog 149 #[.slice (some ⟨g,0,none⟩) 3 3] w fun e w'=>e=.returned (.int .i64 z)/\w'=w:=by
 go_enter Tryz.func149,Tryz.ntmps149
 go_wp2;refine wp_loop_rounds 3 ?_;rw[rounds_succ];go_wp2;rw[rounds_succ];go_wp2;rw[rounds_succ];go_wp2;go_ret
 exact⟨rfl,rfl⟩
theorem XP(g:Nat)(w:World)(h0:w.cell? ⟨g,0,none⟩=some (.int .i64 0))(h1:w.cell? ⟨g,1,none⟩=some (.int .i64 0))(h2:w.cell? ⟨g,2,none⟩=some (.int .i64 0)):Calls Tryz.prog 149 #[.slice (some ⟨g,0,none⟩) 3 3] w fun e w'=>e=.returned (.int .i64 0)/\w'=w:=by
 go_enter Tryz.func149,Tryz.ntmps149
 go_wp2;refine wp_loop_rounds 4 ?_;rw[rounds_succ];go_wp2;rw[rounds_succ];go_wp2;rw[rounds_succ];go_wp2;rw[rounds_succ];go_wp2;go_ret
 exact⟨rfl,rfl⟩
theorem jbn(g:Nat)(x y z:Int)(w:World)(h0:w.cell? ⟨g,0,none⟩=some (.int .i64 x))(h1:w.cell? ⟨g,1,none⟩=some (.int .i64 y))(h2:w.cell? ⟨g,2,none⟩=some (.int .i64 z)):Calls Tryz.prog 149 #[.slice (some ⟨g,0,none⟩) 3 3] w fun e w'=>e=.returned (.int .i64 (or3 x y z))/\w'=w:=by
 unfold or3;by_cases hx:x≠0
 ·rw[jei hx];exact or_x g x w h0 (by simpa using hx)
 ·rw[jeh hx]
  obtain rfl:x=0:=by omega
  by_cases hy:y≠0
  ·rw[jei hy];exact or_y g y w h0 h1 (by simpa using hy)
  ·rw[jeh hy]
   obtain rfl:y=0:=by omega
   by_cases hz:z=0
   ·subst hz;exact XP g w h0 h1 h2
   ·exact or_z g z w h0 h1 h2 (by simpa using hz)
theorem EE{x y:Value}{k n k' n':Int}{s s':ByteArray}(hx:Val x k n s)(hy:Val y k' n' s')(w:World):Calls Tryz.prog 105 #[x,y] w fun e w'=>e=.returned (.int .i64 (or3 (c3 k k') (c3 n n') (cS s s')))/\Below w.heap.size w w':=by
 go_enter Tryz.func105,Tryz.ntmps105
 go_wp2_with fail;refine(pX hx _).mono ?_;rintro e w1 ⟨rfl,aH⟩;go_wp2_with fail;refine(pX hy _).mono ?_;rintro e w2 ⟨rfl,aE⟩;have cK:=aH.size;have bv:w1.heap.size<w2.heap.size:=by have:=aE.size;simp at this;omega
 obtain⟨ke,dG⟩:=gz aE;have p0:=ke w1.heap.size 0 (by simp);have p1:=ke w1.heap.size 1 (by simp);have p2:=ke w1.heap.size 2 (by simp);clear ke dG;simp at p0 p1 p2
 go_wp2_with fail;obtain⟨W,hW⟩:∃ W:World,W=w2.alloc (Obj.cells #[Value.int IntKind.u8 k',Value.int IntKind.i64 n',Value.string s'] 52):=⟨_,rfl⟩;have hbW:Below w2.heap.size w2 W:=by rw[hW];exact(jej _ _).alloc (jek _) _
 have a0:W.cell? ⟨w1.heap.size,0,none⟩=some (.int .u8 k):=(hbW.cell (p:=⟨w1.heap.size,0,none⟩) bv).trans p0;have a1:W.cell? ⟨w1.heap.size,1,none⟩=some (.int .i64 n):=(hbW.cell (p:=⟨w1.heap.size,1,none⟩) bv).trans p1;have a2:W.cell? ⟨w1.heap.size,2,none⟩=some (.string s):=(hbW.cell (p:=⟨w1.heap.size,2,none⟩) bv).trans p2;have b0:W.cell? ⟨w2.heap.size,0,none⟩=some (.int .u8 k'):=by rw[hW];simp
 have b1:W.cell? ⟨w2.heap.size,1,none⟩=some (.int .i64 n'):=by rw[hW];simp
 have b2:W.cell? ⟨w2.heap.size,2,none⟩=some (.string s'):=by rw[hW];simp
 have hzW:w2.heap.size<W.heap.size:=by rw[hW];simp
 have hzV:w1.heap.size<W.heap.size:=by omega
 have HB:Below w.heap.size w W:=by rw[hW];exact(((aH.alloc (by omega) _).trans (aE.mono (by simp;omega))).alloc (by omega) _)
 have HH:jgf (Below w.heap.size w W):=HB;clear HB;rw[← hW];clear hW hbW p0 p1 p2 aH aE hx hy;go_region_held3 (fun w'=>w'.cell? ⟨w1.heap.size,0,none⟩=some (.int .u8 k)/\w'.cell? ⟨w1.heap.size,1,none⟩=some (.int .i64 n)/\w'.cell? ⟨w1.heap.size,2,none⟩=some (.string s)/\w'.cell? ⟨w2.heap.size,0,none⟩=some (.int .u8 k')/\w'.cell? ⟨w2.heap.size,1,none⟩=some (.int .i64 n')/\w'.cell? ⟨w2.heap.size,2,none⟩=some (.string s')) (go_keep) (first | (go_at_call 150;refine(Tv _ _ _).mono ?_;rintro e w' ⟨rfl,rfl⟩) | (go_at_call 151;refine(Tw _ _ _).mono ?_;rintro e w' ⟨rfl,rfl⟩) | (go_at_call 152;refine(Tx _ _ _).mono ?_;rintro e w' ⟨rfl,rfl⟩) | (go_at_call 149;refine(jbn _ (c3 k k') (c3 n n') (cS s s') _ ?_ ?_ ?_).mono ?_;(simp);(simp);(simp);rintro e w' ⟨rfl,rfl⟩))
 all_goals go_wp2
 all_goals go_ret
 all_goals refine⟨rfl,?_⟩
 all_goals exact(HH.o.alloc (by have:=HH.o.size;omega) _).drew
theorem kG(k n:Int)(s:ByteArray)(w:World):Calls Tryz.prog 266 #[.agg #[.int .u8 k,.int .i64 n,.string s]] w fun e w'=>e=.returned (.bool (jJ k n))/\Below w.heap.size w w':=by
 unfold jJ;by_cases h1:(k==1)=true
 ·go_enter Tryz.func266,Tryz.ntmps266
  go_wp2;go_ret
  exact⟨rfl,(jej _ _).alloc (jek _) _⟩
 ·by_cases h2:(k==2)=true
  ·by_cases h3:(n==0)=true
   ·go_enter Tryz.func266,Tryz.ntmps266
    go_wp2;go_ret
    exact⟨rfl,(jej _ _).alloc (jek _) _⟩
   ·go_enter Tryz.func266,Tryz.ntmps266
    go_wp2;go_ret
    exact⟨rfl,(jej _ _).alloc (jek _) _⟩
  ·go_enter Tryz.func266,Tryz.ntmps266
   go_wp2;go_ret
   exact⟨rfl,(jej _ _).alloc (jek _) _⟩
theorem Jo{v:Value}{k n:Int}{s:ByteArray}(h:Val v k n s)(w:World):Calls Tryz.prog 144 #[v] w fun e w'=>e=.returned (.int .u8 k)/\w'=w:=by
 have t1:=Bp;have t2:=GT;have t3:=Bq;have t4:=GU;have t5:=GV;have t6:=Br;have t7:=GW;have t8:=GX;have t9:=GY;rcases h with ⟨rfl,rfl,rfl,rfl⟩ | ⟨rfl,rfl,rfl⟩ | ⟨b,rfl,rfl,rfl,rfl⟩ | ⟨rfl,rfl,rfl⟩
 all_goals
  go_enter Tryz.func144,Tryz.ntmps144
  go_wp2;go_ret
  exact⟨rfl,rfl⟩
theorem Jp{v:Value}{k n:Int}{s:ByteArray}(h:Val v k n s)(w:World):Calls Tryz.prog 100 #[v] w fun e w'=>e=.returned (.int .u8 k)/\w'=w:=by
 go_enter Tryz.func100,Tryz.ntmps100
 go_wp2_with fail;refine(Jo h _).mono ?_;rintro e w1 ⟨rfl,rfl⟩;go_wp2;go_ret
 exact⟨rfl,rfl⟩
theorem Jq(k n:Int)(s:ByteArray)(w:World)(h1:3<k):Calls Tryz.prog 238 #[.agg #[.int .u8 k,.int .i64 n,.string s]] w fun e w'=>e=.returned (.int .i64 10)/\Below w.heap.size w w':=by
 go_enter Tryz.func238,Tryz.ntmps238
 go_wp2;go_ret
 exact⟨rfl,(jej _ _).alloc (jek _) _⟩
theorem Jr(k n:Int)(s:ByteArray)(w:World)(h1:k<=3)(h2:(k != 3)=true)(h3:s.toList.isEmpty=false):Calls Tryz.prog 238 #[.agg #[.int .u8 k,.int .i64 n,.string s]] w fun e w'=>e=.returned (.int .i64 1)/\Below w.heap.size w w':=by
 go_enter Tryz.func238,Tryz.ntmps238
 go_wp2;go_ret
 exact⟨rfl,(jej _ _).alloc (jek _) _⟩
theorem NT(k n:Int)(s:ByteArray)(w:World)(h1:k<=3)(h2:(k != 3)=false∨(k != 3)=true/\s.toList.isEmpty=true)(h3:jJ k n=false):Calls Tryz.prog 238 #[.agg #[.int .u8 k,.int .i64 n,.string s]] w fun e w'=>e=.returned (.int .i64 1)/\Below w.heap.size w w':=by
 rcases h2 with h2 | ⟨h2,h4⟩
 all_goals
  go_enter Tryz.func238,Tryz.ntmps238
  go_wp2_with fail;refine(kG _ _ _ _).mono ?_;rw[h3];rintro e w1 ⟨rfl,hb⟩;obtain⟨hc,hf⟩:=gz hb;go_wp2;go_ret
  exact⟨rfl,((jej _ _).alloc (jek _) _).trans (hb.mono (by simp))⟩
theorem Js(k n:Int)(s:ByteArray)(w:World)(h1:k<=3)(h2:(k != 3)=false∨(k != 3)=true/\s.toList.isEmpty=true)(h3:jJ k n=true)(h5:64<(s.size:Int)):Calls Tryz.prog 238 #[.agg #[.int .u8 k,.int .i64 n,.string s]] w fun e w'=>e=.returned (.int .i64 5)/\Below w.heap.size w w':=by
 rcases h2 with h2 | ⟨h2,h4⟩
 all_goals
  go_enter Tryz.func238,Tryz.ntmps238
  go_wp2_with fail;refine(kG _ _ _ _).mono ?_;rw[h3];rintro e w1 ⟨rfl,hb⟩;obtain⟨hc,hf⟩:=gz hb;go_wp2;go_ret
  exact⟨rfl,((jej _ _).alloc (jek _) _).trans (hb.mono (by simp))⟩
theorem Ty(k n:Int)(s:ByteArray)(w:World)(h1:k<=3)(h2:(k != 3)=false∨(k != 3)=true/\s.toList.isEmpty=true)(h3:jJ k n=true)(h5:(s.size:Int)<=64):Calls Tryz.prog 238 #[.agg #[.int .u8 k,.int .i64 n,.string s]] w fun e w'=>e=.returned (.int .i64 0)/\Below w.heap.size w w':=by
 rcases h2 with h2 | ⟨h2,h4⟩
 all_goals
  go_enter Tryz.func238,Tryz.ntmps238
  go_wp2_with fail;refine(kG _ _ _ _).mono ?_;rw[h3];rintro e w1 ⟨rfl,hb⟩;obtain⟨hc,hf⟩:=gz hb;go_wp2;go_ret
  exact⟨rfl,((jej _ _).alloc (jek _) _).trans (hb.mono (by simp))⟩
theorem Ak(k n:Int)(s:ByteArray)(w:World):Calls Tryz.prog 238 #[.agg #[.int .u8 k,.int .i64 n,.string s]] w fun e w'=>e=.returned (.int .i64 (flt k n s))/\Below w.heap.size w w':=by
 unfold flt;by_cases h1:3<k
 ·rw[jei h1];exact Jq k n s w h1
 ·rw[jeh h1]
  by_cases h2:tx k s=true
  ·rw[jei h2];exact Jr k n s w (by omega) (Bt h2).1 (Bt h2).2
  ·rw[jeh h2]
   have h2':=wE (by simpa using h2);by_cases h3:jJ k n=false
   ·rw[jei h3];exact NT k n s w (by omega) h2' h3
   ·rw[jeh h3]
    by_cases h4:64<(s.size:Int)
    ·rw[jei h4];exact Js k n s w (by omega) h2' (by simpa using h3) h4
    ·rw[jeh h4];exact Ty k n s w (by omega) h2' (by simpa using h3) (by omega)
theorem jbo(k n:Int)(s:ByteArray)(h:(flt k n s != 0)=true)(w:World):Calls Tryz.prog 217 #[.agg #[.int .u8 k,.int .i64 n,.string s]] w fun e w'=>e=.returned (.tuple #[.nilIface,.int .i64 (flt k n s)])/\Below w.heap.size w w':=by
 go_enter Tryz.func217,Tryz.ntmps217
 go_wp2_with fail;refine(Ak _ _ _ _).mono ?_;rintro e w1 ⟨rfl,hb⟩;go_wp2_with fail;go_ret2
 exact⟨rfl,((jej _ _).alloc (jek _) _).trans (hb.mono (by simp))⟩
theorem XQ(k n:Int)(s:ByteArray)(h0:0<=k)(h:flt k n s=0)(w:World):Calls Tryz.prog 217 #[.agg #[.int .u8 k,.int .i64 n,.string s]] w fun e w'=>(∃ v,e=.returned (.tuple #[v,.int .i64 0])/\Val v k n s)/\Below w.heap.size w w':=by
 have hf:=Ak k n s;rw[h]at hf;have HF:jgf (∀ w:World,Calls Tryz.prog 238 #[.agg #[.int .u8 k,.int .i64 n,.string s]] w fun e w'=>e=.returned (.int .i64 0)/\Below w.heap.size w w'):=hf;clear hf;obtain⟨rfl,rfl,rfl⟩ | ⟨rfl,rfl⟩ | ⟨rfl,rfl,rfl⟩ | ⟨rfl,rfl,rfl⟩ | ⟨rfl,rfl,hs⟩:=wF h0 h
 all_goals clear h h0
 ·go_enter Tryz.func217,Tryz.ntmps217
  go_wp2_with fail;refine(HF.o _).mono ?_;rintro e w1 ⟨rfl,hb⟩;obtain⟨hc,hf⟩:=gz hb;go_wp2_with fail;go_ret2
  exact⟨⟨_,rfl,Or.inl ⟨rfl,rfl,rfl,rfl⟩⟩,((jej _ _).alloc (jek _) _).trans (hb.mono (by simp))⟩
 ·go_enter Tryz.func217,Tryz.ntmps217
  go_wp2_with fail;refine(HF.o _).mono ?_;rintro e w1 ⟨rfl,hb⟩;obtain⟨hc,hf⟩:=gz hb;go_wp2_with fail;go_ret2
  exact⟨⟨_,rfl,Or.inr (Or.inl ⟨rfl,rfl,rfl⟩)⟩,((jej _ _).alloc (jek _) _).trans (hb.mono (by simp))⟩
 ·go_enter Tryz.func217,Tryz.ntmps217
  go_wp2_with fail;refine(HF.o _).mono ?_;rintro e w1 ⟨rfl,hb⟩;obtain⟨hc,hf⟩:=gz hb;go_wp2_with fail;go_ret2
  exact⟨⟨_,rfl,Or.inr (Or.inr (Or.inl ⟨false,rfl,rfl,rfl,rfl⟩))⟩,((jej _ _).alloc (jek _) _).trans (hb.mono (by simp))⟩
 ·go_enter Tryz.func217,Tryz.ntmps217
  go_wp2_with fail;refine(HF.o _).mono ?_;rintro e w1 ⟨rfl,hb⟩;obtain⟨hc,hf⟩:=gz hb;go_wp2_with fail;go_ret2
  exact⟨⟨_,rfl,Or.inr (Or.inr (Or.inl ⟨true,rfl,rfl,rfl,rfl⟩))⟩,((jej _ _).alloc (jek _) _).trans (hb.mono (by simp))⟩
 ·go_enter Tryz.func217,Tryz.ntmps217
  go_wp2_with fail;refine(HF.o _).mono ?_;rintro e w1 ⟨rfl,hb⟩;obtain⟨hc,hf⟩:=gz hb;go_wp2_with fail;go_ret2
  exact⟨⟨_,rfl,Or.inr (Or.inr (Or.inr ⟨rfl,rfl,rfl⟩))⟩,((jej _ _).alloc (jek _) _).trans (hb.mono (by simp))⟩
theorem jbp(b:Bool)(w:World):Calls Tryz.prog 221 #[.bool b] w fun e w'=>e=.returned (.int .u8 (if b then 2 else 0))/\w'=w:=by
 cases b
 all_goals
  go_enter Tryz.func221,Tryz.ntmps221
  go_wp2;go_ret
  exact⟨rfl,rfl⟩
theorem uy(l:List UInt8):Op.bytesLess l l=false:=by
 induction l with
 | nil=>rfl
 | cons a l ih=>simp[Op.bytesLess,ih,UInt8.lt_irrefl]
theorem xx:(l m:List UInt8)->Op.bytesLess l m=true->Op.bytesLess m l=false
 | [],[],h=>by simp[Op.bytesLess]at h
 | [],_::_,_=>by simp[Op.bytesLess]
 | _::_,[],h=>by simp[Op.bytesLess]at h
 | a::l,b::m,h=>by
  have ih:=xx l m;simp only[Op.bytesLess,Bool.or_eq_true,je7,Bool.and_eq_true,beq_iff_eq]at h;simp only[Op.bytesLess,Bool.or_eq_false_iff,jfP,Bool.and_eq_false_iff,jev];rcases h with h | ⟨rfl,h⟩
  ·refine⟨fun h2=>UInt8.lt_irrefl _ (UInt8.lt_trans h h2),Or.inl ?_⟩
   rintro rfl;exact UInt8.lt_irrefl _ h
  ·exact⟨UInt8.lt_irrefl _,Or.inr (ih h)⟩
theorem xy:(l m:List UInt8)->Op.bytesLess l m=false->Op.bytesLess m l=false->l=m
 | [],[],_,_=>rfl
 | [],_::_,h,_=>by simp[Op.bytesLess]at h
 | _::_,[],_,h=>by simp[Op.bytesLess]at h
 | a::l,b::m,h,h2=>by
  have ih:=xy l m;simp only[Op.bytesLess,Bool.or_eq_false_iff,jfP,Bool.and_eq_false_iff,jev]at h h2;have e:a=b:=UInt8.le_antisymm (UInt8.not_lt.mp h2.1) (UInt8.not_lt.mp h.1);subst e;rw[ih (by rcases h.2 with h | h;exact absurd rfl h;exact h) (by rcases h2.2 with h | h;exact absurd rfl h;exact h)]
theorem Al{a b:ByteArray}(h:a.toList=b.toList):a=b:=by
 rw[ByteArray.toList_eq,ByteArray.toList_eq]at h;cases a with
 | mk x=>cases b with
  | mk y=>congr;exact Array.toList_inj.mp h
theorem rG(a b:ByteArray):(cS a b=-1/\Op.bytesLess a.toList b.toList=true/\Op.bytesLess b.toList a.toList=false/\a≠b)∨(cS a b=0/\a=b)∨(cS a b=1/\Op.bytesLess a.toList b.toList=false/\Op.bytesLess b.toList a.toList=true/\a≠b):=by
 unfold cS;cases h1:Op.bytesLess a.toList b.toList
 ·by_cases h2:a=b
  ·subst h2;exact Or.inr (Or.inl (by simp))
  ·have h3:(a.toList==b.toList)=false:=by
    rw[jev];exact fun h=>h2 (Al h)
   refine Or.inr (Or.inr ⟨by simp[h3],rfl,?_,h2⟩);cases h4:Op.bytesLess b.toList a.toList
   ·exact absurd (Al (xy _ _ h1 h4)) h2
   ·rfl
 ·refine Or.inl ⟨by simp,rfl,xx _ _ h1,?_⟩
  rintro rfl;rw[uy]at h1;cases h1
theorem XR(a b:ByteArray):cS b a=- cS a b:=by
 rcases rG a b with ⟨h1,h2,h3,h4⟩ | ⟨h1,rfl⟩ | ⟨h1,h2,h3,h4⟩
 ·rcases rG b a with ⟨g1,g2,_⟩ | ⟨g1,rfl⟩ | ⟨g1,_⟩
  ·rw[h3]at g2;cases g2
  ·exact absurd rfl h4
  ·omega
 ·omega
 ·rcases rG b a with ⟨g1,_⟩ | ⟨g1,rfl⟩ | ⟨g1,_,g2,_⟩
  ·omega
  ·exact absurd rfl h4
  ·rw[h2]at g2;cases g2
def cv(k n:Int)(s:ByteArray)(k' n':Int)(s':ByteArray):Int:=or3 (c3 k k') (c3 n n') (cS s s')
theorem lr(a b:Int):(c3 a b=-1/\a<b)∨(c3 a b=0/\a=b)∨(c3 a b=1/\b<a):=by
 unfold c3;by_cases h:a<b
 ·rw[jei h];omega
 ·rw[jeh h]
  by_cases h2:b<a
  ·rw[jei h2];omega
  ·rw[jeh h2];omega
theorem rH(x y z:Int):(x≠0/\or3 x y z=x)∨(x=0/\y≠0/\or3 x y z=y)∨(x=0/\y=0/\or3 x y z=z):=by
 unfold or3;by_cases h:x≠0
 ·rw[jei h];exact Or.inl ⟨h,rfl⟩
 ·rw[jeh h]
  by_cases h2:y≠0
  ·rw[jei h2];exact Or.inr (Or.inl ⟨by omega,h2,rfl⟩)
  ·rw[jeh h2];exact Or.inr (Or.inr ⟨by omega,by omega,rfl⟩)
theorem Tz(a b:ByteArray):cS a b=-1∨cS a b=0∨cS a b=1:=by
 rcases rG a b with h | h | h
 ·exact Or.inl h.1
 ·exact Or.inr (Or.inl h.1)
 ·exact Or.inr (Or.inr h.1)
theorem TA(k n:Int)(s:ByteArray)(k' n':Int)(s':ByteArray):cv k n s k' n' s'=-1∨cv k n s k' n' s'=0∨cv k n s k' n' s'=1:=by
 unfold cv;have h1:=rH (c3 k k') (c3 n n') (cS s s');have h2:=lr k k';have h3:=lr n n';have h4:=Tz s s';omega
theorem XS(k n:Int)(s:ByteArray)(k' n':Int)(s':ByteArray):cv k' n' s' k n s=- cv k n s k' n' s':=by
 unfold cv;have h1:=rH (c3 k k') (c3 n n') (cS s s');have h2:=lr k k';have h3:=lr n n';have h4:=XR s s';have g1:=rH (c3 k' k) (c3 n' n) (cS s' s);have g2:=lr k' k;have g3:=lr n' n;omega
def ls(k n:Int)(s:ByteArray)(k' n':Int)(s':ByteArray):Bool:=if (k != k')=true then decide (k<k') else if n<n' then true else if (n==n')=true then Op.bytesLess s.toList s'.toList else false
theorem ls_cv(k n:Int)(s:ByteArray)(k' n':Int)(s':ByteArray):ls k n s k' n' s'=decide (cv k n s k' n' s'=-1):=by
 unfold ls cv;have h1:=rH (c3 k k') (c3 n n') (cS s s');have h2:=lr k k';have h3:=lr n n';by_cases e:k=k'
 ·rw[jeh (by simpa using e)]
  by_cases f:n<n'
  ·rw[jei f];symm;rw[je7];omega
  ·rw[jeh f]
   by_cases g:n=n'
   ·rw[jei (by simpa using g)]
    have h4:or3 (c3 k k') (c3 n n') (cS s s')=cS s s':=(by omega);rw[h4];rcases rG s s' with ⟨q1,q2,_⟩ | ⟨q1,rfl⟩ | ⟨q1,q2,_⟩
    ·rw[q1,q2];rfl
    ·rw[q1,uy];rfl
    ·rw[q1,q2];rfl
   ·rw[jeh (by simpa using g)];symm;rw[jfP];omega
 ·rw[jei (by simpa using e)]
  rw[decide_eq_decide];omega
theorem TB(k n:Int)(s:ByteArray)(k' n':Int)(s':ByteArray)(w:World):Calls Tryz.prog 61 #[.agg #[.int .u8 k,.int .i64 n,.string s],.agg #[.int .u8 k',.int .i64 n',.string s']] w fun e w'=>e=.returned (.bool (ls k n s k' n' s'))/\Below w.heap.size w w':=by
 unfold ls;by_cases h1:(k != k')=true
 ·rw[jei h1]
  go_enter Tryz.func61,Tryz.ntmps61
  go_wp2;go_ret
  exact⟨rfl,((jej _ _).alloc (jek _) _).alloc (by simp) _⟩
 ·rw[jeh h1]
  have h1':(k != k')=false:=by simpa using h1
  clear h1;by_cases h2:n<n'
  ·rw[jei h2]
   go_enter Tryz.func61,Tryz.ntmps61
   go_wp2;go_ret
   exact⟨rfl,((jej _ _).alloc (jek _) _).alloc (by simp) _⟩
  ·rw[jeh h2]
   by_cases h3:(n==n')=true
   ·rw[jei h3]
    go_enter Tryz.func61,Tryz.ntmps61
    go_wp2;go_ret
    exact⟨rfl,((jej _ _).alloc (jek _) _).alloc (by simp) _⟩
   ·rw[jeh h3]
    have h3':(n==n')=false:=by simpa using h3
    clear h3;go_enter Tryz.func61,Tryz.ntmps61
    go_wp2;go_ret
    exact⟨rfl,((jej _ _).alloc (jek _) _).alloc (by simp) _⟩
theorem XT(k n:Int)(s:ByteArray)(k' n':Int)(s':ByteArray)(b:Bool)(hb:ls k n s k' n' s'=b)(w:World):Calls Tryz.prog 61 #[.agg #[.int .u8 k,.int .i64 n,.string s],.agg #[.int .u8 k',.int .i64 n',.string s']] w fun e w'=>e=.returned (.bool b)/\Below w.heap.size w w':=by
 subst hb;exact TB k n s k' n' s' w
theorem kH{x y:Value}{k n k' n':Int}{s s':ByteArray}(hx:Val x k n s)(hy:Val y k' n' s')(w:World):Calls Tryz.prog 105 #[x,y] w fun e w'=>e=.returned (.int .i64 (cv k n s k' n' s'))/\Below w.heap.size w w':=EE hx hy w
open Go.Op (bytesLess)
theorem rI{w:World}{B:Nat}{cs:Array Value}{l:List UInt8}(hB:B<=w.heap.size)(hl:l.length<=4)(h:cs.toList=aX l) :
  (w.alloc (.cells cs 5)).ownsRow B 5 1 (.slice (some ⟨w.heap.size,0,none⟩) l.length l.length) l.length (aX l):=by
 rw[← h];have hs:cs.size=l.length*1:=by rw[← Array.length_toList,h];simp[aX]
 exact jfv w cs l.length hB (by unfold maxLen;omega) hs
theorem NU(c:Nat)(h:c<=1114111)(w:World) :
  Calls Tryz.prog 109 #[.int .i64 (c:Int)] w fun e w'=>(∃ v,e=.returned v/\w'.ownsRow w.heap.size 5 1 v (dX c).length (aX (dX c)))/\Below w.heap.size w w':=by
 by_cases h1:(c:Int)<128
 ·have he:dX c=[bt c]:=by unfold dX;rw[jei (by omega)]
  rw[he];have e0:=cD (n:=c) (by omega);have HE:=ae e0;clear he e0;go_enter Tryz.func109,Tryz.ntmps109
  go_wp2_with fail;go_ret
  refine⟨⟨_,rfl,?_⟩,(jej _ _).alloc (jek _) _⟩;exact rI (l:=[bt c]) (jek _) (by simp) (by simp[aX,HE.o])
 ·by_cases h2:(c:Int)<2048
  ·have he:dX c=[bt (192+c / 64),bt (128+c % 64)]:=by unfold dX;rw[jeh (by omega),jei (by omega)]
   rw[he];have HE:=ae (And.intro (cD (n:=192+c / 64) (by omega)) (cD (n:=128+c % 64) (by omega)));clear he;go_enter Tryz.func109,Tryz.ntmps109
   go_wp2_with fail;go_ret
   refine⟨⟨_,rfl,?_⟩,(jej _ _).alloc (jek _) _⟩;refine rI (l:=[bt (192+c / 64),bt (128+c % 64)]) (jek _) (by simp) ?_;simp[aX,HE.o.1,HE.o.2]
  ·by_cases h3:(c:Int)<65536
   ·have he:dX c=[bt (224+c / 4096),bt (128+c / 64 % 64),bt (128+c % 64)]:=by unfold dX;rw[jeh (by omega),jeh (by omega),jei (by omega)]
    rw[he];have HE:=ae (And.intro (cD (n:=224+c / 4096) (by omega)) (And.intro (cD (n:=128+c / 64 % 64) (by omega)) (cD (n:=128+c % 64) (by omega))));clear he;go_enter Tryz.func109,Tryz.ntmps109
    go_wp2_with fail;go_ret
    refine⟨⟨_,rfl,?_⟩,(jej _ _).alloc (jek _) _⟩;refine rI (l:=[bt (224+c / 4096),bt (128+c / 64 % 64),bt (128+c % 64)]) (jek _) (by simp) ?_;simp[aX,HE.o.1,HE.o.2.1,HE.o.2.2]
   ·have he:dX c=[bt (240+c / 262144),bt (128+c / 4096 % 64),bt (128+c / 64 % 64),bt (128+c % 64)]:=by unfold dX;rw[jeh (by omega),jeh (by omega),jeh (by omega)]
    rw[he];have HE:=ae (And.intro (cD (n:=240+c / 262144) (by omega)) (And.intro (cD (n:=128+c / 4096 % 64) (by omega)) (And.intro (cD (n:=128+c / 64 % 64) (by omega)) (cD (n:=128+c % 64) (by omega)))));clear he;go_enter Tryz.func109,Tryz.ntmps109
    go_wp2_with fail;go_ret
    refine⟨⟨_,rfl,?_⟩,(jej _ _).alloc (jek _) _⟩;refine rI (l:=[bt (240+c / 262144),bt (128+c / 4096 % 64),bt (128+c / 64 % 64),bt (128+c % 64)]) (jek _) (by simp) ?_;simp[aX,HE.o.1,HE.o.2.1,HE.o.2.2.1,HE.o.2.2.2]
theorem TC{w:World}{B n:Nat}{v:Value}{l:List UInt8}(h:w.ownsRow B 5 1 v n (aX l))(hn:0<l.length):(convert 30 9 v).run Tryz.prog w=.ok (.string ⟨l.toArray⟩) w:=by
 have hl:l.length=n:=by have:=h.1;simpa [aX]using this
 obtain⟨g,cap,rfl,_,_,hc⟩:=(rg h).2 (by omega);rw[← hl];refine run_convert_bytes_back w 30 9 5 ⟨g,0,none⟩ cap l Tryz.underlying30 Tryz.underlying5 Tryz.underlying9 fun j hj=>?_
 have KO:(⟨g,0,none⟩:Addr).add j=⟨g,j,none⟩:=by unfold Addr.add;split<;>simp_all
 rw[KO];exact hc j _ (by simp[aX,hj])
def ef(l:List UInt8)(n:Int):Option (List UInt8) :=
 if dS l=true then (if ((V l).length:Int)<=n then some l else if n<1 then none else upL l n.toNat) else none
theorem XU(r:Nat):(r+1=55296->nx r=57344)/\(r+1≠55296->nx r=r+1):=by
 unfold nx;constructor
 ·intro h;rw[jei (by omega)]
 ·intro h;rw[jeh (by omega)]
theorem BW(s:ByteArray)(n:Int)(hs:s.size<=100000)(w:World) :
  Calls Tryz.prog 63 #[.string s,.int .i64 n] w fun e w'=>LU e (ef (lb s) n)/\Below w.heap.size w w':=by
 have hL:=cL s;have hV:=Dr (lb s);have HX:jgf (ef (lb s) n=if dS (lb s)=true then (if ((V (lb s)).length:Int)<=n then some (lb s) else if n<1 then none else upL (lb s) n.toNat) else none):=rfl;have HEx:=ae (gS s);have HAp:=ae zQ;go_enter Tryz.func63,Tryz.ntmps63
 go_wp2_with fail;refine(oX s hs _).mono ?_;rintro e w1 ⟨⟨a,b,rfl,ha,hb⟩,az⟩;have HB:=ae az;have hz:=az.size;clear az;obtain⟨⟨ad,cap,rfl,_⟩,Zc⟩:=rg ha;obtain⟨⟨ad2,cap2,rfl,_⟩,WF⟩:=rg hb;clear ha hb;have Rj:=ae Zc;have Rk:=ae WF;clear Zc WF;generalize eX:dS (lb s)=cl at *;cases cl with
 | false =>
  go_wp2_with fail;go_ret2
  rw[HX.o];exact⟨⟨_,_,rfl,rfl,rfl⟩,HB.o⟩
 | true =>
  by_cases h1:((V (lb s)).length:Int)<=n
  ·rw[jei h1]at HX
   go_wp2_with fail;go_ret2
   rw[HX.o];exact⟨⟨_,_,rfl,rfl,rfl⟩,HB.o⟩
  ·rw[jeh h1]at HX
   by_cases h2:n<1
   ·rw[jei h2]at HX
    go_wp2_with fail;go_ret2
    rw[HX.o];exact⟨⟨_,_,rfl,rfl,rfl⟩,HB.o⟩
   ·rw[jeh h2]at HX
    simp only[if_true]at HX;clear eX;obtain⟨m,rfl⟩:∃ m:Nat,n=(m:Int):=⟨n.toNat,by omega⟩;rw[jeQ]at HX;obtain⟨ga,ca,hsa,hga,_,Zc⟩:=Rj.o (by omega);obtain⟨gb,cb,hsb,QB,_,WF⟩:=Rk.o (by omega);simp only[Value.slice.injEq]at hsa hsb;obtain⟨rfl,_,rfl⟩:=hsa;obtain⟨rfl,_,rfl⟩:=hsb;clear Rj Rk;have Rj:=ae Zc;have Rk:=ae WF;clear Zc WF;go_wp2_with fail;go_loopw [9] (fun i w'=>w'=w1/\∃ k:Nat,k<=m/\i=.int .i64 ((k:Int)-1)/\il (V (lb s)) k=il (V (lb s)) m) (fun i _=>(intOf i+1).toNat)
    case atStart=>exact⟨rfl,m,jek _,rfl,rfl⟩
    case round =>
     obtain⟨rfl,k,hk,rfl,uT⟩:=hrel;have HL:=ae uT;clear uT;cases k with
     | zero =>
      go_wp2_with fail;go_ret2
      rw[HX.o,upL,← HL.o];exact⟨⟨_,_,rfl,rfl,rfl⟩,HB.o⟩
     | succ i =>
      have oF:i<(V (lb s)).length:=(by omega);have e1:(((i+1:Nat):Int)-1)=(i:Int):=(by omega);rw[e1];have lK:=Rj.o i _ (LS oF);have ke:=Rk.o i _ (LR oF);have YN:=(Xd _ (lb s) (jek _) _ (jeo oF)).1;have dY:(V (lb s)).getD i (0,0)=(V (lb s))[i]:=by rw[List.getD_eq_getElem?_getD,List.getElem?_eq_getElem oF];rfl
      have hol:=(vW (l:=lb s) i (by omega)).1;have HGD:=ae dY;clear dY e1;generalize hr:(V (lb s))[i]=u at *;obtain⟨r,wd⟩:=u;clear hr;simp only at *;have hr:r<=1114111:=by unfold vr at YN;omega
      have HVR:=ae YN;clear YN;by_cases aB:(r:Int)<1114111
      ·have HR:jgf (il (V (lb s)) m=some i):=by
        show il (V (lb s)) m=some i
        rw[← HL.o,il,HGD.o,jeh (by simp only;omega)]
       have hnv:=ZP HVR.o (by omega);have hnle:nx r<=1114111:=by unfold vr at hnv;omega
       have Dn:=ae (NU (nx r) hnle);obtain⟨n1,n2⟩:=XU r;generalize ho:eQ (V (lb s)) i=o at *;have HO:jgf (eQ (V (lb s)) i=o):=ho;clear ho;generalize yw:nx r=c at *;have lz:jgf (nx r=c):=yw;clear yw;obtain⟨E,hE⟩:∃ E:ByteArray,E=⟨(dX c).toArray⟩:=⟨_,rfl⟩;have hEl:lb E=dX c:=by rw[hE];simp[lb]
       have hEs:E.size<=4:=by rw[← cL,hEl];exact(iw c).2
       have hXs:(s.extract 0 o).size<=100000:=by rw[← cL,HEx.o];simp;omega
       have KO:∀ w,(Op.stringOp .add (s.extract 0 o) E).run Tryz.prog w=.ok (.string (s.extract 0 o++E)) w:=fun w=>run_string_add_sum w _ _ (by omega)
       have MA:=ae hEl;have CV:=ae hE
       have HCV:jgf (∀(w2:World) (B:Nat) (v:Value),w2.ownsRow B 5 1 v (dX c).length (aX (dX c))->(convert 30 9 v).run Tryz.prog w2=.ok (.string E) w2):=fun w2 B v h=>by
        rw[hE];exact TC h (iw c).1
       have CW:jgf (LU (.returned (.tuple #[.string (s.extract 0 o++E),.bool true])) (ef (lb s) (m:Int))):=by
        refine⟨_,_,rfl,?_,?_⟩
        ·rw[HX.o,upL,HR.o];rfl
        ·rw[HX.o,upL,HR.o,HAp.o,HEx.o,hEl,jfu,HO.o,HGD.o,lz.o]
         simp
       clear hE hEl;have hI1:(0:Int)<=(o:Int):=(by omega);have hI2:(o:Int)<=(s.size:Int):=(by omega);by_cases h55:r+1=55296
       ·obtain rfl:=n1 h55
        obtain rfl:r=55295:=by omega
        clear n1 n2;go_wp2_with fail;go_region_with (first | (go_at_call 109;refine(Dn.o _).mono ?_;rintro e w2 ⟨⟨v,rfl,aA⟩,aE⟩;have vL:=HCV.o _ _ _ aA;have kQ:=(aE.cell (p:=⟨gb,i,none⟩) QB).trans ke;clear aA))
        all_goals
         go_wp2_with fail;go_ret2
         refine⟨CW.o,?_⟩;exact HB.o.drew.trans (aE.mono hz)
       ·obtain rfl:=n2 h55
        have h55b:((r:Int)+1==55296)=false:=by simp;omega
        have AR:((r+1:Nat):Int)=(r:Int)+1:=(by omega);rw[AR]at Dn;clear AR;clear n1 n2;go_wp2_with fail;go_region_with (first | (go_at_call 109;refine(Dn.o _).mono ?_;rintro e w2 ⟨⟨v,rfl,aA⟩,aE⟩;have vL:=HCV.o _ _ _ aA;have kQ:=(aE.cell (p:=⟨gb,i,none⟩) QB).trans ke;clear aA))
        all_goals
         go_wp2_with fail;go_ret2
         refine⟨CW.o,?_⟩;exact HB.o.drew.trans (aE.mono hz)
      ·go_wp2_with fail
       go_roundw
       case rel =>
        refine⟨trivial,i,by omega,by go_num,?_⟩;rw[← HL.o,il,HGD.o,jei (by simp only;omega)]
       case measure=>simp[intOf]
theorem tm(rs:List Nat):∀ k,(lQ rs).take (eQ (rs.map eu) k)=lQ (rs.take k):=by
 induction rs with
 | nil=>intro k;simp
 | cons c rs ih =>
  intro k;cases k with
  | zero=>simp
  | succ k =>
   have:eQ ((c::rs).map eu) (k+1)=(dX c).length+eQ (rs.map eu) k:=by
    simp[eQ,eu]
   rw[this,flat_cons,jf3,flat_cons,← ih k,List.take_length_add_append]
theorem Am{u:List (Nat×Nat)}{j k:Nat}(h:j<k):(u.take k).getD j (0,0)=u.getD j (0,0):=by
 simp[List.getD_eq_getElem?_getD,List.getElem?_take,h]
theorem Jt(u:List (Nat×Nat))(k:Nat):∀ j,j<=k->il (u.take k) j=il u j:=by
 intro j;induction j with
 | zero=>intro _;rfl
 | succ j ih =>
  intro h;simp only[il];rw[Am (by omega),ih (by omega)]
theorem An{u:List (Nat×Nat)}{i k:Nat}(h:i<=k):eQ (u.take k) i=eQ u i:=by
 unfold eQ;rw[List.take_take,jfk h]
theorem TD{rs:List Nat}(hv:∀ r∈rs,vr r){k:Nat}(hk:k<=rs.length):jX (lQ (rs.take k))=upL (lQ rs) k:=by
 have hv2:∀ r∈rs.take k,vr r:=fun r hr=>hv r (je2 hr)
 have e1:=Bj rs hv;have e2:=Bj (rs.take k) hv2;have hl:((rs.take k).map eu).length=k:=by simp;omega
 unfold jX upL;rw[e1,e2,hl,jfJ,Jt _ _ _ (jek _)];cases hg:il (rs.map eu) k with
 | none=>rfl
 | some i =>
  have hi:=(rh hg).1;simp only[jfu];rw[Am hi,An (by omega),tm];have h3:=tm (rs.take k) i;rw[jfJ,An (by omega),List.take_take,jfk (by omega)]at h3;rw[h3]
theorem Ju{rs:List Nat}(hv:∀ r∈rs,vr r)(n:Int):bZ (lQ rs) n=lQ (rs.take n.toNat):=by
 unfold bZ;rw[Bj rs hv,tm]
theorem xz(l:List UInt8)(n:Int):gT l n=ef l n:=by
 unfold gT ef;by_cases hc:dS l=true
 ·rw[jei hc,jei hc]
  by_cases h1:((V l).length:Int)<=n
  ·rw[jei h1,jei h1]
  ·rw[jeh h1,jeh h1]
   have hl:=Rt hc;have hv:=Ru l;have bR:(iU l).length=(V l).length:=by simp[iU]
   generalize iU l=rs at *;subst hl;rw[Ju hv,TD hv (by omega)];by_cases h2:n<1
   ·rw[jei h2]
    have:n.toNat=0:=by omega
    rw[this];rfl
   ·rw[jeh h2]
 ·rw[jeh hc,jeh hc]
 inductive PT where
 | node (op fld:Nat) (c:Cl) (ks:List PT):PT
theorem PT.ind{P:PT->Prop}(h:∀ op f c ks,(∀ k∈ks,P k)->P (.node op f c ks))(t:PT):P t:=by
 refine PT.rec (motive_1:=P) (motive_2:=fun ks=>∀ k∈ks,P k) (fun op f c ks ih=>h op f c ks ih) (fun k hk=>?_) (fun a ks ha ih k hk=>?_) t
 ·simp at hk
 ·rcases jeC.1 hk with rfl | hk
  ·exact ha
  ·exact ih k hk
abbrev B3:=Bool×Bool×Bool
 structure Stt where
 rows:Int
 nulls:Int
 some:Bool
 high:Bool
 lo:Cl
 hi:Cl
def cW(a b:Cl):Int:=cv (a.1:Int) a.2.1 (am a.2.2) (b.1:Int) b.2.1 (am b.2.2)
def isM(b:Bool):Nat:=if b=true then 2 else 0
def likeM(x c:Cl):Bool:=x.1==3 && c.1==3 && lk (iU (lb (am c.2.2))) (iU (lb (am x.2.2)))
def TE(op:Nat)(c x:Cl):Nat :=
 if op=1 then isM (decide (cW x (bq c)=0)) else if op=2 then isM (decide (cW x (bq c)<0)) else if op=3 then isM (decide (cW x (bq c)<=0)) else if op=4 then isM (likeM x c) else 1
def EF(op:Nat)(c x:Cl):Nat:=if op=5 then isM (decide (x.1=0)) else if x.1=0 then 1 else TE op c x
def pM(l:List Fd)(r:List Cl)(op f:Nat)(c:Cl):Nat :=
 match iV l f with
 | none=>1
 | some j=>match r[j]? with
  | none=>1
  | some x=>EF op c x
 mutual
def jA(l:List Fd)(r:List Cl):PT->Nat
 | .node op f c ks=>if op=6 then evalAnd l r ks 2 else if op=7 then evalOr l r ks 0 else if op=8 then evalNot l r ks else pM l r op f c
def evalAnd(l:List Fd)(r:List Cl):List PT->Nat->Nat
 | [],a=>a
 | k::ks,a=>evalAnd l r ks (min a (jA l r k))
def evalOr(l:List Fd)(r:List Cl):List PT->Nat->Nat
 | [],a=>a
 | k::ks,a=>evalOr l r ks (max a (jA l r k))
def evalNot(l:List Fd)(r:List Cl):List PT->Nat
 | []=>1
 | k::_=>2-jA l r k
 end
def togA(a b:B3):B3:=((a.1 && (b.1 || b.2.1 || b.2.2)) || (a.2.1 && b.1) || (a.2.2 && b.1),(a.2.1 && (b.2.1 || b.2.2)) || (a.2.2 && b.2.1),a.2.2 && b.2.2)
def togO(a b:B3):B3:=(a.1 && b.1,(a.1 && b.2.1) || (a.2.1 && (b.1 || b.2.1)),(a.1 && b.2.2) || (a.2.1 && b.2.2) || (a.2.2 && (b.1 || b.2.1 || b.2.2)))
def conM(a:B3):B3:=(a.2.2,a.2.1,a.1)
def tn(v:Cl):Bool:=decide ((V (lb (am v.2.2))).length<4)
def nk(u:Bool)(op:Nat)(c:Cl)(st:Stt):B3 :=
 if op=1 then (!(st.high && decide (cW (bq c) (bq st.lo)=0) && decide (cW (bq c) (bq st.hi)=0) && tn (bq c)),u,decide (0<=cW (bq c) (bq st.lo)) && !(st.high && decide (0<cW (bq c) (bq st.hi))))
 else if op=2 then (!(st.high && decide (0<cW (bq c) (bq st.hi))),u,decide (0<cW (bq c) (bq st.lo)))
 else if op=3 then (!(st.high && decide (0<=cW (bq c) (bq st.hi))),u,decide (0<=cW (bq c) (bq st.lo)))
 else if op=4 then (true,u,true) else (true,true,true)
def Jv(op:Nat)(c:Cl)(st:Stt):B3:=if op=5 then (st.some,false,decide (0<st.nulls)) else if st.some=true then nk (decide (0<st.nulls)) op c st else (false,decide (0<st.nulls),false)
def kI(l:List Fd)(sts:List Stt)(op f:Nat)(c:Cl):B3 :=
 match iV l f with
 | none=>(true,true,true)
 | some j=>match sts[j]? with
  | none=>(true,true,true)
  | some st=>Jv op c st
 mutual
def pq(l:List Fd)(sts:List Stt):PT->B3
 | .node op f c ks=>if op=6 then mayAnd l sts ks (false,false,true) else if op=7 then mayOr l sts ks (true,false,false) else if op=8 then mayNot l sts ks else kI l sts op f c
def mayAnd(l:List Fd)(sts:List Stt):List PT->B3->B3
 | [],a=>a
 | k::ks,a=>mayAnd l sts ks (togA a (pq l sts k))
def mayOr(l:List Fd)(sts:List Stt):List PT->B3->B3
 | [],a=>a
 | k::ks,a=>mayOr l sts ks (togO a (pq l sts k))
def mayNot(l:List Fd)(sts:List Stt):List PT->B3
 | []=>(false,true,false)
 | k::_=>conM (pq l sts k)
 end
 mutual
def Len:PT->Prop
 | .node _ _ c ks=>c.2.2.length<=300/\LenAll ks
def LenAll:List PT->Prop
 | []=>True
 | k::ks=>Len k/\LenAll ks
 end
 mutual
def Okp:PT->Prop
 | .node op f c ks=>op<256/\f<4294967296/\Okc c/\OkpAll ks
def OkpAll:List PT->Prop
 | []=>True
 | k::ks=>Okp k/\OkpAll ks
 end
theorem LenAll.get{ks:List PT}(h:LenAll ks):∀ k∈ks,Len k:=by
 induction ks with
 | nil=>intro k hk;simp at hk
 | cons a ks ih =>
  intro k hk;simp only[LenAll]at h;rcases jeC.1 hk with rfl | hk
  ·exact h.1
  ·exact ih h.2 k hk
theorem OkpAll.get{ks:List PT}(h:OkpAll ks):∀ k∈ks,Okp k:=by
 induction ks with
 | nil=>intro k hk;simp at hk
 | cons a ks ih =>
  intro k hk;simp only[OkpAll]at h;rcases jeC.1 hk with rfl | hk
  ·exact h.1
  ·exact ih h.2 k hk
end Go.Proofs.YtpljdjmpamjkhaaGreatDoor
