import Derived.Test.YtpljdjmpamjkhaaGreatDoorXbh
set_option linter.unusedVariables false
set_option linter.unusedSimpArgs false
set_option maxRecDepth 100000
set_option maxHeartbeats 8000000
namespace Go.Proofs.YtpljdjmpamjkhaaGreatDoor
open Go.RowKit Go.Lib
theorem EV(a:List Fd)(f:Fd):(f.1<=eT a)↔(f.1=0∨(0<a.length/\f.1<=eT a)):=by
 constructor
 ·intro h
  rcases jel a.length with h0 | h0
  ·rw[jdV h0]at h
   left
   simpa [eT]using h
  ·exact Or.inr ⟨h0,h⟩
 ·rintro(h | h)
  ·omega
  ·exact h.2
theorem EW{l:List Fd}{k m:Nat}(hm:k=m+1)(h:m<l.length):eT (l.take k)=l[m].1:=by
 subst hm;exact Ge h
theorem BB{w:World}{v:Value}{l:List Fd}(hs:Sf w v l)(id:Nat):Calls Tryz.prog 15 #[.agg #[.int .u32 (id:Int),v]] w fun e w'=>e=.returned (.int .i64 (chk id l:Int))/\Below w.heap.size w w':=by
 obtain⟨a,cap,rfl,aW,bw⟩:=hs.form;have ce:=ae (am w (.cells #[.int .u32 (id:Int),.slice a l.length cap] 25));have HS:=ae (hs.kept (am w (.cells #[.int .u32 (id:Int),.slice a l.length cap] 25)));obtain⟨c0,c1⟩:=bx w (.int .u32 (id:Int)) (.slice a l.length cap) 25;have hz:w.heap.size<(w.alloc (.cells #[.int .u32 (id:Int),.slice a l.length cap] 25)).heap.size:=by rw[jdx];omega
 clear hs;by_cases h1:id=0∨l.length=0∨8<l.length
 ·have HR:jfp (chk id l=1):=ae (jdu h1)
  clear c0 c1 hz HS;by_cases q1:id=0
  ·subst q1
   go_enter Tryz.func15,Tryz.ntmps15
   go_wp2_with fail;go_ret
   rw[HR.o];exact⟨rfl,ce.o⟩
  ·have q1':((id:Int)==0)=false:=by simp[q1]
   by_cases q2:l.length=0
   ·have q2':((l.length:Int)==0)=true:=by simp[q2]
    clear h1 q1 q2;go_enter Tryz.func15,Tryz.ntmps15
    go_wp2_with fail;go_ret
    rw[HR.o];exact⟨rfl,ce.o⟩
   ·have q2':((l.length:Int)==0)=false:=by simp[q2]
    have q3:(l.length:Int) > 8:=(by omega);clear h1 q1 q2;go_enter Tryz.func15,Tryz.ntmps15
    go_wp2_with fail;go_ret
    rw[HR.o];exact⟨rfl,ce.o⟩
 ·have HR:jfp (chk id l=fe (l.take 0) (l.drop 0)):=ae (jdt h1)
  have q1':((id:Int)==0)=false:=jdG.2 (by omega);have q2':((l.length:Int)==0)=false:=jdG.2 (by omega);have q3:¬ (l.length:Int) > 8:=by omega
  have hl8:l.length<=8:=by omega
  clear h1;generalize chk id l=CH at *;generalize hW:w.alloc (.cells #[.int .u32 (id:Int),.slice a l.length cap] 25)=W at *;go_enter Tryz.func15,Tryz.ntmps15
  go_wp2_with fail;try rw[hW]
  clear hW;go_loopw [3] (fun i wr=>∃ k:Nat,k<=l.length/\i=.int .i64 (k:Int)/\CH=fe (l.take k) (l.drop k)/\Below W.heap.size W wr) (fun i _=>l.length-(intOf i).toNat)
  case atStart=>exact⟨0,by omega,rfl,HR.o,jdv _ _⟩
  case round =>
   obtain⟨k,hk,rfl,kL,az⟩:=hrel;have HF:=ae kL;have HB:=ae az;have bF:=az.size;clear kL az HR;by_cases aB:k<l.length
   ·obtain⟨b,off,rfl,hb,x0,x1,x2,x3⟩:=(HS.o.kept HB.o).at aB
    have HT:=ae (HF.o.trans (KQ aB));have hlt':(k:Int)<(l.length:Int):=(by omega);have hkc:(k:Int)<=(cap:Int):=(by omega);have jbE:(0:Int)<=(k:Int):=(by omega);have hktn:((k:Int)).toNat=k:=(by omega);have hdcap:¬ cap=0:=(by omega);have cU:=ae (HS.o.take (k:=k) (by omega));have uI:(l.take k).length=k:=by rw[jdC];omega
    generalize hf:l[k]=f at *;obtain⟨f0,f1,f2,f3⟩:=f;have lI:jfp (gg (l.take k) (f0,f1,f2,f3)=if f0<=eT (l.take k) then 81 else if uY (l.take k) f1=false then 80 else if kS f2=false then 10 else if (f3 != decide ((l.take k).length=0))=true∨((l.take k).length=0/\f2=2) then 82 else 0):=ae rfl;rw[uI]at lI;simp only at *;have d1:=(HB.o.cell (p:=⟨w.heap.size,1,none⟩) hz).trans c1;have qt:=am wr (.cells #[.int .u32 (f0:Int),.string f1,.int .u8 (f2:Int),.bool f3] 81);have e1:=(qt.cell (p:=⟨w.heap.size,1,none⟩) (jdS hz bF)).trans d1;obtain⟨g0,g1,g2,g3⟩:=iU wr (.int .u32 (f0:Int)) (.string f1) (.int .u8 (f2:Int)) (.bool f3) 81;have aO:=ae (HB.o.trans (qt.mono bF));have jw:wr.heap.size<(wr.alloc (.cells #[.int .u32 (f0:Int),.string f1,.int .u8 (f2:Int),.bool f3] 81)).heap.size:=by rw[jdx];omega
    have tw:=ae ((cU.o.kept HB.o).kept qt);have QH:jfp (∀ U,Below (wr.alloc (.cells #[.int .u32 (f0:Int),.string f1,.int .u8 (f2:Int),.bool f3] 81)).heap.size (wr.alloc (.cells #[.int .u32 (f0:Int),.string f1,.int .u8 (f2:Int),.bool f3] 81)) U->Calls Tryz.prog 50 #[.slice (some ⟨b,off,none⟩) k cap,.string f1] U fun e w'=>e=.returned (.bool (oW (l.take k) f1))/\w'=U):=ae (fun U hU=>WU (tw.o.kept hU) f1);generalize hV:wr.alloc (.cells #[.int .u32 (f0:Int),.string f1,.int .u8 (f2:Int),.bool f3] 81)=V at *;have em:jfp (∀ w',Below V.heap.size V w'->(w'.cell? ⟨w.heap.size,1,none⟩=some (.slice (some ⟨b,off,none⟩) l.length cap)/\w'.cell? ⟨wr.heap.size,1,none⟩=some (.string f1))/\w'.cell? ⟨wr.heap.size,2,none⟩=some (.int .u8 (f2:Int))/\w'.cell? ⟨wr.heap.size,3,none⟩=some (.bool f3)):=ae (fun w' h=>⟨⟨(h.cell (p:=⟨w.heap.size,1,none⟩) (show w.heap.size<_ by omega)).trans e1,(h.cell (p:=⟨wr.heap.size,1,none⟩) jw).trans g1⟩,(h.cell (p:=⟨wr.heap.size,2,none⟩) jw).trans g2,(h.cell (p:=⟨wr.heap.size,3,none⟩) jw).trans g3⟩)
    have Ma:jfp (∀ U,Below V.heap.size V U->Calls Tryz.prog 49 #[.string f1] U fun e w'=>e=.returned (.bool (named f1))/\Below V.heap.size V w'/\(w'.cell? ⟨w.heap.size,1,none⟩=some (.slice (some ⟨b,off,none⟩) l.length cap)/\w'.cell? ⟨wr.heap.size,1,none⟩=some (.string f1))):=ae (fun U hU=>(Nd f1 U).mono (by
     rintro e w2 ⟨rfl,aE⟩;have aS:=ai hU aE;exact⟨rfl,aS,(em.o _ aS).1⟩))
    have ZN:uY (l.take k) f1=(named f1 && !oW (l.take k) f1):=rfl;have lv:=ae ZN;have ZO:=ae (EV (l.take k) (f0,f1,f2,f3));rw[uI]at ZO
    have pH:jfp (∀ m,k=m+1->∃ la:Nat,eT (l.take k)=la/\V.cell? ⟨b,off+m*4,none⟩=some (.int .u32 (la:Int))):=ae (fun m hm=>by
     obtain⟨b',off',hbe,_,y0,_⟩:=(HS.o.kept aO.o).at (k:=m) (by omega);cases hbe
     exact⟨_,EW hm (by omega),y0⟩)
    clear ZN qt g1 g2 g3 hf uI tw cU c0 c1;generalize gg (l.take k) (f0,f1,f2,f3)=R at *;by_cases ct:f0=0
    ·have hR:R=81:=by rw[lI.o,jdu (ZO.o.2 (Or.inl ct))]
     have hz0':((f0:Int)==0)=true:=by rw[ct];rfl
     rw[hR,jdt (by omega)]at HT;clear hR lI ZO ct pH;go_wp2_with fail;try rw[hV]
     clear hV;go_quiet (fail)
     go_wp2_with fail;go_ret
     rw[HT.o];exact⟨rfl,ap (ai ce.o aO.o) _⟩
    ·have hz0':((f0:Int)==0)=false:=jdG.2 (by omega)
     by_cases FE:0<k/\f0<=eT (l.take k)
     ·have hR:R=81:=by rw[lI.o,jdu (ZO.o.2 (Or.inr FE))]
      obtain⟨ql,pB⟩:=FE;obtain⟨m,hm⟩:∃ m,k=m+1:=⟨k-1,by omega⟩;obtain⟨la,PA,eQ⟩:=pH.o m hm;rw[PA]at pB;have t1:decide ((k:Int) > 0)=true:=jdO (by omega);have t1':(k:Int) > 0:=(by omega);have t1n:decide (0<k)=true:=jdO (by omega);have t1m:0<k:=(by omega);have t2:IntKind.i64.wrap ((k:Int)-1)=(m:Int):=by rw[jd7];omega
      have t3:(0:Int)<=(m:Int):=(by omega);have t4:(m:Int)<(l.length:Int):=(by omega);have t5:((m:Int)).toNat=m:=(by omega);have t6:decide ((f0:Int)<=(la:Int))=true:=jdO (by omega);have t6':(f0:Int)<=(la:Int):=(by omega);have t7:(k:Int)-1=(m:Int):=(by omega);rw[hR,jdt (by omega)]at HT;clear hR lI ZO ct pH hm PA ql pB;go_wp2_with fail;try rw[hV]
      clear hV;go_quiet (fail)
      go_wp2_with fail;go_ret
      rw[HT.o];exact⟨rfl,ap (ai ce.o aO.o) _⟩
     ·rw[jdt (fun h=>by rcases ZO.o.1 h with h | h;(· exact ct h);(· exact FE h))]at lI
      have UR:decide ((k:Int) > 0)=false/\k=0∨decide ((k:Int) > 0)=true/\∃ m la:Nat,k=m+1/\¬ f0<=la/\V.cell? ⟨b,off+m*4,none⟩=some (.int .u32 (la:Int)):=by
       by_cases ql:k=0
       ·exact Or.inl ⟨jdK (by omega),ql⟩
       ·obtain⟨m,hm⟩:∃ m,k=m+1:=⟨k-1,by omega⟩
        obtain⟨la,PA,eQ⟩:=pH.o m hm;exact Or.inr ⟨jdO (by omega),m,la,hm,fun h=>FE ⟨by omega,by rw[PA];exact h⟩,eQ⟩
      have HK0:jfp (decide (k=0)=((k:Int)==0)):=ae (by
       by_cases h:k=0
       ·rw[jdO h,h];rfl
       ·rw[jdK h,jdG.2 (by omega)])
      clear FE ct ZO pH;rcases UR with ⟨t1,ql⟩ | ⟨t1,m,la,hm,pB,eQ⟩
      ·have t1':¬ (k:Int) > 0:=by omega
       have t1n:decide (0<k)=false:=jdK (by omega);have t1m:¬ 0<k:=(by omega);have HKZ:=ae ql;clear ql;go_wp2_with fail;try rw[hV]
       clear hV;go_quiet (fail)
       obtain⟨⟨_,g1⟩,_⟩:=em.o V (jdv _ _);go_wp2_with fail;cases hnm:named f1 with
       | false =>
        rw[hnm]at Ma lv;have hR:R=80:=by rw[lI.o,lv.o];rfl
        rw[hR,jdt (by omega)]at HT;clear hR lI hnm;have se:∀ s:bO (fun x=>Below V.heap.size V x),s.w.cell? ⟨wr.heap.size,1,none⟩=some (.string f1):=fun s=>(em.o s.w s.ok).1.2
        have nj:∀ s:bO (fun x=>Below V.heap.size V x),s.w.cell? ⟨w.heap.size,1,none⟩=some (.slice (some ⟨b,off,none⟩) l.length cap):=fun s=>(em.o s.w s.ok).1.1
        haveI:Nonempty (bO (fun x=>Below V.heap.size V x)):=⟨bO.mk V (jdv _ _)⟩
        refine cz (S:=fun x=>Below V.heap.size V x) (by kernel_rfl) (by kernel_rfl) (ap (jdv _ _) _).drew ?_;repeat (go_big_quiet_step (first | (go_at_call 49;exact(Ma.o _ (bO.ok _)).mono (fun e w' h=>⟨h.1,bO.mk w' h.2.1,rfl⟩)) | (go_at_call 50;exact(QH.o _ (bO.ok _)).mono (fun e w' h=>⟨h.1,_,h.2⟩))))
        refine wpQuiet_nil ?_;rintro _ ⟨s2,rfl⟩;obtain⟨w2,qs⟩:∃ x,x=s2.w:=⟨_,rfl⟩;have aE:=s2.ok;rw[← qs]at aE ⊢;have gm:=ae aE;clear qs aE se nj;go_wp2_with fail;go_ret
        rw[HT.o];exact⟨rfl,by first | exact ai (ai ce.o aO.o) gm.o | exact ap (ai (ai ce.o aO.o) gm.o) _⟩
       | true =>
        rw[hnm]at Ma lv;clear hnm;cases hha:oW (l.take k) f1 with
        | true =>
         rw[hha]at QH lv;have hR:R=80:=by rw[lI.o,lv.o];rfl
         rw[hR,jdt (by omega)]at HT;clear hR lI hha;have se:∀ s:bO (fun x=>Below V.heap.size V x),s.w.cell? ⟨wr.heap.size,1,none⟩=some (.string f1):=fun s=>(em.o s.w s.ok).1.2
         have nj:∀ s:bO (fun x=>Below V.heap.size V x),s.w.cell? ⟨w.heap.size,1,none⟩=some (.slice (some ⟨b,off,none⟩) l.length cap):=fun s=>(em.o s.w s.ok).1.1
         haveI:Nonempty (bO (fun x=>Below V.heap.size V x)):=⟨bO.mk V (jdv _ _)⟩
         refine cz (S:=fun x=>Below V.heap.size V x) (by kernel_rfl) (by kernel_rfl) (ap (jdv _ _) _).drew ?_;repeat (go_big_quiet_step (first | (go_at_call 49;exact(Ma.o _ (bO.ok _)).mono (fun e w' h=>⟨h.1,bO.mk w' h.2.1,rfl⟩)) | (go_at_call 50;exact(QH.o _ (bO.ok _)).mono (fun e w' h=>⟨h.1,_,h.2⟩))))
         refine wpQuiet_nil ?_;rintro _ ⟨s2,rfl⟩;obtain⟨w2,qs⟩:∃ x,x=s2.w:=⟨_,rfl⟩;have aE:=s2.ok;rw[← qs]at aE ⊢;have gm:=ae aE;clear qs aE se nj;go_wp2_with fail;go_ret
         rw[HT.o];exact⟨rfl,by first | exact ai (ai ce.o aO.o) gm.o | exact ap (ai (ai ce.o aO.o) gm.o) _⟩
        | false =>
         rw[hha]at QH lv;rw[lv.o,jdt (by simp)]at lI;clear hha;have se:∀ s:bO (fun x=>Below V.heap.size V x),s.w.cell? ⟨wr.heap.size,1,none⟩=some (.string f1):=fun s=>(em.o s.w s.ok).1.2
         have nj:∀ s:bO (fun x=>Below V.heap.size V x),s.w.cell? ⟨w.heap.size,1,none⟩=some (.slice (some ⟨b,off,none⟩) l.length cap):=fun s=>(em.o s.w s.ok).1.1
         haveI:Nonempty (bO (fun x=>Below V.heap.size V x)):=⟨bO.mk V (jdv _ _)⟩
         refine cz (S:=fun x=>Below V.heap.size V x) (by kernel_rfl) (by kernel_rfl) (ap (jdv _ _) _).drew ?_;repeat (go_big_quiet_step (first | (go_at_call 49;exact(Ma.o _ (bO.ok _)).mono (fun e w' h=>⟨h.1,bO.mk w' h.2.1,rfl⟩)) | (go_at_call 50;exact(QH.o _ (bO.ok _)).mono (fun e w' h=>⟨h.1,_,h.2⟩))))
         refine wpQuiet_nil ?_;rintro _ ⟨s2,rfl⟩;obtain⟨w2,qs⟩:∃ x,x=s2.w:=⟨_,rfl⟩;have aE:=s2.ok;rw[← qs]at aE ⊢;have gm:=ae aE;clear qs aE se nj;obtain⟨_,y2,y3⟩:=em.o _ gm.o;by_cases xB:kS f2=false
         ·rw[jdu xB]at lI
          rw[lI.o,jdt (by omega)]at HT
          have hkd':f2=0∨3<f2:=by
           unfold kS at xB;have:=of_decide_eq_false xB;omega
          clear lI xB;rcases hkd' with q | q
          ·have q1:(f2:Int)<1:=by omega
           clear q;go_wp2_with fail;go_ret
           rw[HT.o];exact⟨rfl,by first | exact ai (ai ce.o aO.o) gm.o | exact ap (ai (ai ce.o aO.o) gm.o) _⟩
          ·have q1:¬ (f2:Int)<1:=by omega
           have q2:(f2:Int) > 3:=(by omega);clear q;go_wp2_with fail;go_ret
           rw[HT.o];exact⟨rfl,by first | exact ai (ai ce.o aO.o) gm.o | exact ap (ai (ai ce.o aO.o) gm.o) _⟩
         ·rw[jdt xB]at lI
          have hkd':1<=f2/\f2<=3:=by
           unfold kS at xB;simpa using xB
          have q1:¬ (f2:Int)<1:=(by omega);have q2:¬ (f2:Int) > 3:=(by omega);clear xB hkd';have t0:((k:Int)==0)=true:=by rw[HKZ.o];rfl
          cases f3
          ·have hR:R=82:=by rw[lI.o,jdu (Or.inl (by rw[HKZ.o];rfl))]
           rw[hR,jdt (by omega)]at HT;clear hR lI;go_wp2_with fail;go_ret
           rw[HT.o];exact⟨rfl,by first | exact ai (ai ce.o aO.o) gm.o | exact ap (ai (ai ce.o aO.o) gm.o) _⟩
          ·by_cases h2:f2=2
           ·have hR:R=82:=by rw[lI.o,jdu (Or.inr ⟨HKZ.o,h2⟩)]
            have h2':((f2:Int)==2)=true:=by rw[h2];rfl
            rw[hR,jdt (by omega)]at HT;clear hR lI h2;go_wp2_with fail;go_ret
            rw[HT.o];exact⟨rfl,by first | exact ai (ai ce.o aO.o) gm.o | exact ap (ai (ai ce.o aO.o) gm.o) _⟩
           ·have hR:R=0:=by rw[lI.o,jdt (fun h=>by rcases h with h | ⟨_,h⟩;(· rw[HKZ.o]at h;cases h);(· exact h2 h))]
            have h2':((f2:Int)==2)=false:=jdG.2 (by omega);rw[jdu hR]at HT;clear hR lI h2;go_wp2_with fail;go_roundw
            case rel=>exact⟨k+1,by omega,by go_num,HT.o,by first | exact ai aO.o gm.o | exact ap (ai aO.o gm.o) _⟩
            case measure=>simp[intOf];omega
      ·have t1':(k:Int) > 0:=by omega
       have t1n:decide (0<k)=true:=jdO (by omega);have t1m:0<k:=(by omega);have t2:IntKind.i64.wrap ((k:Int)-1)=(m:Int):=by rw[jd7];omega
       have t3:(0:Int)<=(m:Int):=(by omega);have t4:(m:Int)<(l.length:Int):=(by omega);have t5:((m:Int)).toNat=m:=(by omega);have t6:decide ((f0:Int)<=(la:Int))=false:=jdK (by omega);have t6':¬ (f0:Int)<=(la:Int):=(by omega);have t7:(k:Int)-1=(m:Int):=(by omega);clear hm pB;go_wp2_with fail;try rw[hV]
       clear hV;go_quiet (fail)
       obtain⟨⟨_,g1⟩,_⟩:=em.o V (jdv _ _);go_wp2_with fail;cases hnm:named f1 with
       | false =>
        rw[hnm]at Ma lv;have hR:R=80:=by rw[lI.o,lv.o];rfl
        rw[hR,jdt (by omega)]at HT;clear hR lI hnm;have se:∀ s:bO (fun x=>Below V.heap.size V x),s.w.cell? ⟨wr.heap.size,1,none⟩=some (.string f1):=fun s=>(em.o s.w s.ok).1.2
        have nj:∀ s:bO (fun x=>Below V.heap.size V x),s.w.cell? ⟨w.heap.size,1,none⟩=some (.slice (some ⟨b,off,none⟩) l.length cap):=fun s=>(em.o s.w s.ok).1.1
        haveI:Nonempty (bO (fun x=>Below V.heap.size V x)):=⟨bO.mk V (jdv _ _)⟩
        refine cz (S:=fun x=>Below V.heap.size V x) (by kernel_rfl) (by kernel_rfl) (ap (jdv _ _) _).drew ?_;repeat (go_big_quiet_step (first | (go_at_call 49;exact(Ma.o _ (bO.ok _)).mono (fun e w' h=>⟨h.1,bO.mk w' h.2.1,rfl⟩)) | (go_at_call 50;exact(QH.o _ (bO.ok _)).mono (fun e w' h=>⟨h.1,_,h.2⟩))))
        refine wpQuiet_nil ?_;rintro _ ⟨s2,rfl⟩;obtain⟨w2,qs⟩:∃ x,x=s2.w:=⟨_,rfl⟩;have aE:=s2.ok;rw[← qs]at aE ⊢;have gm:=ae aE;clear qs aE se nj;go_wp2_with fail;go_ret
        rw[HT.o];exact⟨rfl,by first | exact ai (ai ce.o aO.o) gm.o | exact ap (ai (ai ce.o aO.o) gm.o) _⟩
       | true =>
        rw[hnm]at Ma lv;clear hnm;cases hha:oW (l.take k) f1 with
        | true =>
         rw[hha]at QH lv;have hR:R=80:=by rw[lI.o,lv.o];rfl
         rw[hR,jdt (by omega)]at HT;clear hR lI hha;have se:∀ s:bO (fun x=>Below V.heap.size V x),s.w.cell? ⟨wr.heap.size,1,none⟩=some (.string f1):=fun s=>(em.o s.w s.ok).1.2
         have nj:∀ s:bO (fun x=>Below V.heap.size V x),s.w.cell? ⟨w.heap.size,1,none⟩=some (.slice (some ⟨b,off,none⟩) l.length cap):=fun s=>(em.o s.w s.ok).1.1
         haveI:Nonempty (bO (fun x=>Below V.heap.size V x)):=⟨bO.mk V (jdv _ _)⟩
         refine cz (S:=fun x=>Below V.heap.size V x) (by kernel_rfl) (by kernel_rfl) (ap (jdv _ _) _).drew ?_;repeat (go_big_quiet_step (first | (go_at_call 49;exact(Ma.o _ (bO.ok _)).mono (fun e w' h=>⟨h.1,bO.mk w' h.2.1,rfl⟩)) | (go_at_call 50;exact(QH.o _ (bO.ok _)).mono (fun e w' h=>⟨h.1,_,h.2⟩))))
         refine wpQuiet_nil ?_;rintro _ ⟨s2,rfl⟩;obtain⟨w2,qs⟩:∃ x,x=s2.w:=⟨_,rfl⟩;have aE:=s2.ok;rw[← qs]at aE ⊢;have gm:=ae aE;clear qs aE se nj;go_wp2_with fail;go_ret
         rw[HT.o];exact⟨rfl,by first | exact ai (ai ce.o aO.o) gm.o | exact ap (ai (ai ce.o aO.o) gm.o) _⟩
        | false =>
         rw[hha]at QH lv;rw[lv.o,jdt (by simp)]at lI;clear hha;have se:∀ s:bO (fun x=>Below V.heap.size V x),s.w.cell? ⟨wr.heap.size,1,none⟩=some (.string f1):=fun s=>(em.o s.w s.ok).1.2
         have nj:∀ s:bO (fun x=>Below V.heap.size V x),s.w.cell? ⟨w.heap.size,1,none⟩=some (.slice (some ⟨b,off,none⟩) l.length cap):=fun s=>(em.o s.w s.ok).1.1
         haveI:Nonempty (bO (fun x=>Below V.heap.size V x)):=⟨bO.mk V (jdv _ _)⟩
         refine cz (S:=fun x=>Below V.heap.size V x) (by kernel_rfl) (by kernel_rfl) (ap (jdv _ _) _).drew ?_;repeat (go_big_quiet_step (first | (go_at_call 49;exact(Ma.o _ (bO.ok _)).mono (fun e w' h=>⟨h.1,bO.mk w' h.2.1,rfl⟩)) | (go_at_call 50;exact(QH.o _ (bO.ok _)).mono (fun e w' h=>⟨h.1,_,h.2⟩))))
         refine wpQuiet_nil ?_;rintro _ ⟨s2,rfl⟩;obtain⟨w2,qs⟩:∃ x,x=s2.w:=⟨_,rfl⟩;have aE:=s2.ok;rw[← qs]at aE ⊢;have gm:=ae aE;clear qs aE se nj;obtain⟨_,y2,y3⟩:=em.o _ gm.o;by_cases xB:kS f2=false
         ·rw[jdu xB]at lI
          rw[lI.o,jdt (by omega)]at HT
          have hkd':f2=0∨3<f2:=by
           unfold kS at xB;have:=of_decide_eq_false xB;omega
          clear lI xB;rcases hkd' with q | q
          ·have q1:(f2:Int)<1:=by omega
           clear q;go_wp2_with fail;go_ret
           rw[HT.o];exact⟨rfl,by first | exact ai (ai ce.o aO.o) gm.o | exact ap (ai (ai ce.o aO.o) gm.o) _⟩
          ·have q1:¬ (f2:Int)<1:=by omega
           have q2:(f2:Int) > 3:=(by omega);clear q;go_wp2_with fail;go_ret
           rw[HT.o];exact⟨rfl,by first | exact ai (ai ce.o aO.o) gm.o | exact ap (ai (ai ce.o aO.o) gm.o) _⟩
         ·rw[jdt xB]at lI
          have hkd':1<=f2/\f2<=3:=by
           unfold kS at xB;simpa using xB
          have q1:¬ (f2:Int)<1:=(by omega);have q2:¬ (f2:Int) > 3:=(by omega);clear xB hkd';have t0:((k:Int)==0)=false:=jdG.2 (by omega);cases f3
          ·have hR:R=0:=by rw[lI.o,jdt (fun h=>by rcases h with h | ⟨h,_⟩;(· rw[jdK (show ¬ k=0 by omega)]at h;cases h);(· omega))]
           rw[jdu hR]at HT;clear hR lI;go_wp2_with fail;go_roundw
           case rel=>exact⟨k+1,by omega,by go_num,HT.o,by first | exact ai aO.o gm.o | exact ap (ai aO.o gm.o) _⟩
           case measure=>simp[intOf];omega
          ·have hR:R=82:=by rw[lI.o,jdu (Or.inl (by rw[jdK (show ¬ k=0 by omega)];rfl))]
           rw[hR,jdt (by omega)]at HT;clear hR lI;go_wp2_with fail;go_ret
           rw[HT.o];exact⟨rfl,by first | exact ai (ai ce.o aO.o) gm.o | exact ap (ai (ai ce.o aO.o) gm.o) _⟩
   ·obtain rfl:k=l.length:=by omega
    have gj:¬ ((l.length:Nat):Int)<(l.length:Int):=(by omega);have HT:=ae (HF.o.trans (QM l));clear HF;have d1:=(HB.o.cell (p:=⟨w.heap.size,1,none⟩) hz).trans c1;go_wp2_with fail;go_ret
    rw[HT.o];exact⟨rfl,ai ce.o HB.o⟩
def RawSt(T:Nat)(W:World)(p:Nat)(b:List Nat)(f:Nat)(a:Option Addr)(cap:Nat):Prop :=
 W.heap[p]?=some (.cells #[.slice a b.length cap,.int .i64 (f:Int)] T (0,0))/\b.length<=cap/\cap<=maxLen/\Bs b/\(a=none->cap=0) /\
  (0<b.length->∃ g off,a=some ⟨g,off,none⟩/\g<p/\∀ j (h:j<b.length),W.cell? ⟨g,off+j,none⟩=some (.int .u8 (b[j]:Int)))
theorem St.cells2{T:Nat}{W:World}{p:Nat}{b:List Nat}{f:Nat}(h:St T W p b f) :
  ∃ a cap,W.cell? ⟨p,0,none⟩=some (.slice a b.length cap)/\W.cell? ⟨p,1,none⟩=some (.int .i64 (f:Int))/\W.frozen? ⟨p,0,none⟩=false/\W.frozen? ⟨p,1,none⟩=false /\
   b.length<=cap/\cap<=9223372036854775807/\Sv W (.slice a b.length cap) (aF .u8 b)/\(a=none->cap=0)/\RawSt T W p b f a cap:=by
 have aB:=h.lt;obtain⟨a,cap,h1,h2,h3,h4,h5,h6⟩:=h
 have iO:Sv W (.slice a b.length cap) (aF .u8 b):=by
  refine⟨a,cap,by rw[ar],by rw[ar];omega,h3,h5,fun h0=>?_⟩;rw[ar]at h0;obtain⟨g,off,e,hg,hc⟩:=h6 h0;refine⟨g,off,e,by omega,fun j x hj=>?_⟩
  have hj':j<b.length:=by
   have:=(List.getElem?_eq_some_iff.1 hj).1;rwa[ar]at this
  rw[bU hj']at hj;rw[hc j hj'];exact hj
 exact⟨a,cap,by rw[ay h1];rfl,by rw[ay h1];rfl,by simp[World.frozen?,h1],by simp[World.frozen?,h1],h2,by unfold maxLen at h3;omega,iO,h5,h1,h2,h3,h4,h5,h6⟩
theorem EX{b b1:List Nat}{f i:Nat}{l:List Fd}(h:Rds CL b f (i,l) b1 0):Rds db b f (i,l) b1 (chk i l) :=
 h.bind ⟨fun _=>rfl,fun h=>absurd rfl h⟩
theorem St.make{T:Nat}{w W:World}{a:Option Addr}{n cap:Nat}{b:List Nat}(hs:Sv w (.slice a n cap) (aF .u8 b))(hb:Bs b)(hB:Below w.heap.size w W) :
  St T (W.alloc (.cells #[.slice a b.length cap,.int .i64 ((0:Nat):Int)] T)) W.heap.size b 0:=by
 obtain⟨a',cap',e,h1,h2,h3,h4⟩:=hs;simp only[Value.slice.injEq]at e;obtain⟨rfl,rfl,rfl⟩:=e;rw[ar]at *;refine⟨a,cap,jdW W _,h1,h2,hb,h3,fun h0=>?_⟩;obtain⟨g,off,e,hg,hc⟩:=h4 h0;refine⟨g,off,e,jdS hg hB.size,fun j hj=>?_⟩;have hB':Below w.heap.size w (W.alloc (.cells #[.slice a b.length cap,.int .i64 ((0:Nat):Int)] T)):=hB.alloc hB.size _;rw[hB'.cell (p:=⟨g,off+j,none⟩) hg];exact hc j _ (bU hj)
theorem Pf{w:World}{v:Value}{l:List Nat}(hs:Sv w v (aF .u8 l))(hl:l.length<=100000000) :
  Calls Tryz.prog 93 #[v] w (dw w l):=by
 have HS:=ae hs;obtain⟨ad,cap,rfl,h1,h2,h3,_⟩:=hs;rw[ar]at *;cases ad with
 | none =>
  have hc:=h3 rfl;subst hc;have rR:l=[]:=jdV (by omega);subst rR;have hq:(binOp .eql 30 (.slice none 0 0) (.slice none 0 0)).run Tryz.prog w=.ok (.bool true) w:=jfk w 30 5 none 0 0 0 0 Tryz.underlying30;go_enter Tryz.func93,Tryz.ntmps93
  go_wp2_with fail;go_ret
  exact⟨⟨_,rfl,aD.nil _ _⟩,jdv _ _⟩
 | some ad =>
  have HN:=ae (vk w);have gl:=ae (HS.o.kept (am w (.cells #[] 5)));clear h3;have hq:(binOp .eql 30 (.slice (some ad) l.length cap) (.slice none 0 0)).run Tryz.prog w=.ok (.bool false) w:=jfk w 30 5 (some ad) l.length cap 0 0 Tryz.underlying30;go_enter Tryz.func93,Tryz.ntmps93
  go_wp2_with (first | (at_builtin;refine ax rfl _ _ rfl w.heap.size _ _ [] l rfl ?q1 rfl ?q2 ?c1 ?c2 ?_))
  case q1=>exact HN.o
  case q2=>exact gl.o
  case c1=>simp;omega
  case c2=>rw[jdx];omega
  intro v3 w3 o3 aS;have dh:=ae o3;have bP:=ae ((am w (.cells #[] 5)).trans aS);clear o3 aS;go_wp2_with fail;go_ret
  exact⟨⟨_,rfl,dh.o⟩,bP.o⟩
def yp(b:List Nat):Nat×List Fd×List Nat×Nat :=
 match db b with
 | .ok ((id,l),r)=>(id,l,r,0)
 | .error c=>(0,[],[],c)
theorem XE{b b':List Nat}{id:Nat}{l:List Fd}(h:Rds db b 0 (id,l) b' 0):yp b=(id,l,b',0):=by
 have e:=h.1 rfl;rw[jdu rfl]at e;unfold yp;rw[e]
theorem JK{b b':List Nat}{f id:Nat}{l:List Fd}(h:Rds db b 0 (id,l) b' f)(hf:f≠0):yp b=(0,[],[],f):=by
 have e:=h.1 rfl;rw[jdt hf]at e;unfold yp;rw[e]
def XF(w:World)(R:Nat×List Fd×List Nat×Nat)(e:Ending)(w':World):Prop :=
 (∃ v u,e=.returned (.tuple #[.agg #[.int .u32 (R.1:Int),v],u,.int .i64 (R.2.2.2:Int)])/\fD w' w.heap.size v R.2.1/\aD w' w.heap.size u R.2.2.1)/\Below w.heap.size w w'
def Shr{α : Type}(m:List Nat->Except Nat (α×List Nat)):Prop:=∀ b x r,m b=.ok (x,r)->r.length<=b.length
theorem Shr.bind{α β : Type}{m:List Nat->Except Nat (α×List Nat)}{k:α->List Nat->Except Nat (β×List Nat)}(h:Shr m)(hk:∀ x,Shr (k x)):Shr (aC m k):=by
 intro b y r e;cases hm:m b with
 | error c=>rw[cE hm]at e;cases e
 | ok q =>
  obtain⟨x,s⟩:=q;rw[cZ hm]at e;exact jdF (hk x s y r e) (h b x s hm)
theorem Shr.pure{α β : Type}(g:α->β)(x:α):Shr (fun r=>.ok (g x,r)):=by
 intro b y r e;cases e
 exact jdw _
theorem oU(room:Nat):Shr (ir room):=by
 intro b x r e;unfold ir at e;split at e
 ·cases e
 ·split at e
  ·cases e
  ·cases e
   rw[jd3];omega
theorem Pg(n:Nat):Shr (textR n):=by
 intro b x r e;unfold textR at e;split at e
 ·cases e
 ·cases e
  rw[jd3];omega
theorem XG:Shr uo:=(oU _).bind fun i=>((oU _).bind fun n=>Pg n).bind fun s=>(oU _).bind fun k=>(oU _).bind fun n=>Shr.pure (fun _:Nat=>(i,s,k,decide (n=1))) 0
theorem EY:∀ n,Shr (kU n)
 | 0=>Shr.pure (fun _:Nat=>[]) 0
 | n+1=>(EY n).bind fun l=>XG.bind fun f=>Shr.pure (fun _:Nat=>l++[f]) 0
theorem JL:Shr db :=
 ((oU _).bind fun i=>(oU _).bind fun n=>(EY n).bind fun l=>Shr.pure (fun _:Nat=>(i,l)) 0).bind fun s=>by
  intro b x r e;simp only at e;split at e
  ·cases e;exact jdw _
  ·cases e
theorem XH{b b1:List Nat}{F:Nat}{x:Nat×List Fd}(h:Rds db b 0 x b1 F)(hF:F=0):b1.length<=b.length:=by
 have e:=h.1 rfl;rw[jdu hF]at e;exact JL _ _ _ e
def Uns(w:World)(q:Nat)(W:World)(b:List Nat)(f id:Nat)(v:Value)(l:List Fd):Prop :=
 St 200 W (w.heap.size+1) b f/\w.heap.size+1<q/\W.heap[w.heap.size]?=some (.cells #[.int .u32 0,.slice none 0 0] 25 (0,0)) /\
 W.heap[q]?=some (.cells #[.int .u32 (id:Int),v] 25 (0,0))/\Below w.heap.size w W/\fD W (w.heap.size+2) v l
theorem Uns.size{w W:World}{q f id:Nat}{b:List Nat}{v:Value}{l:List Fd}(h:Uns w q W b f id v l):q<W.heap.size:=(Array.getElem?_eq_some_iff.1 h.2.2.2.1).1
theorem Uns.kept{w W W':World}{q f id:Nat}{b:List Nat}{v:Value}{l:List Fd}(h:Uns w q W b f id v l)(hb:Below W.heap.size W W'):Uns w q W' b f id v l:=by
 have hz:=h.size;obtain⟨h1,h2,h3,h4,h5,h6⟩:=h;exact⟨h1.kept hb h1.lt,h2,(hb.block _ (by omega)).trans h3,(hb.block _ (by omega)).trans h4,h5.trans (hb.mono h5.size),h6.kept hb⟩
theorem Uns.call{w W W':World}{q f f' id:Nat}{b b':List Nat}{v:Value}{l:List Fd}(h:Uns w q W b f id v l)(hs:St 200 W' (w.heap.size+1) b' f')(hf:Fr (w.heap.size+1) W.heap.size W W'):Uns w q W' b' f' id v l:=by
 have hz:=h.size;obtain⟨h1,h2,h3,h4,h5,h6⟩:=h;exact⟨hs,h2,(hf.block _ (by omega) (by omega)).trans h3,(hf.block _ (by omega) (by omega)).trans h4,h5.trans (hf.below (by omega) h5.size),Fr.own hf h6 (by omega)⟩
theorem Uns.facts{w W:World}{q f id:Nat}{b:List Nat}{v:Value}{l:List Fd}(h:Uns w q W b f id v l) :
  (W.cell? ⟨q,0,none⟩=some (.int .u32 (id:Int))/\W.cell? ⟨q,1,none⟩=some v) /\
  (W.cell? ⟨w.heap.size,0,none⟩=some (.int .u32 0)/\W.cell? ⟨w.heap.size,1,none⟩=some (.slice none 0 0)) /\
  (W.frozen? ⟨w.heap.size,0,none⟩=false/\W.frozen? ⟨w.heap.size,1,none⟩=false):=by
 obtain⟨h1,h2,h3,h4,h5⟩:=h;refine⟨⟨?_,?_⟩,⟨?_,?_⟩,⟨?_,?_⟩⟩<;>first | (rw[ay h4];rfl) | (rw[ay h3];rfl) | (simp[World.frozen?,h3];done)
theorem XI{b b1:List Nat}{f1 i:Nat}{l:List Fd}(h:Rds CL b 0 (i,l) b1 f1):Rds db b 0 (i,l) b1 (orf f1 (chk i l)):=by
 unfold orf;by_cases hf:f1=0
 ·rw[jdu hf];subst hf;exact EX h
 ·rw[jdt hf];exact h.bind (Rds.dead (i,l) hf)
theorem JM{w:World}{v:Value}{b:List Nat}(hs:Sv w v (aF .u8 b))(hb:Bs b)(hl:b.length<=90000000) :
  Calls Tryz.prog 96 #[v] w (XF w (yp b)):=by
 obtain⟨a,cap,rfl,aW,bw⟩:=hs.form1;rw[ar]at *;have HS0:=ae (St.make (T:=200) hs hb (am w (.cells #[.int .u32 0,.slice none 0 0] 25)));have ct:(w.alloc (.cells #[.int .u32 0,.slice none 0 0] 25)).heap.size=w.heap.size+1:=jdx _ _;have HH0:=ae ((am (w.alloc (.cells #[.int .u32 0,.slice none 0 0] 25)) (.cells #[.slice a b.length cap,.int .i64 ((0:Nat):Int)] 200)).block w.heap.size (by omega) |>.trans (jdW w _));have ce:=ae (((am w (.cells #[.int .u32 0,.slice none 0 0] 25))).alloc (by omega) (.cells #[.slice a b.length cap,.int .i64 ((0:Nat):Int)] 200));rw[ct]at HS0;clear hs;have hzW:((w.alloc (.cells #[.int .u32 0,.slice none 0 0] 25)).alloc (.cells #[.slice a b.length cap,.int .i64 ((0:Nat):Int)] 200)).heap.size=w.heap.size+2:=by rw[jdx,ct]
 have HZW:=ae hzW;clear hzW;generalize hW:(w.alloc (.cells #[.int .u32 0,.slice none 0 0] 25)).alloc (.cells #[.slice a b.length cap,.int .i64 ((0:Nat):Int)] 200)=W at *;have hW':(w.alloc (.cells #[.int .u32 0,.slice none 0 0] 25)).alloc (.cells #[.slice a b.length cap,.int .i64 0] 200)=W:=hW;go_enter Tryz.func96,Tryz.ntmps96
 go_wp2_with fail;try rw[hW']
 clear hW hW' ct;refine(JJ HS0.o).mono ?_;rintro e w3 ⟨id,l,v,b',f',rfl,fA,np,mU,jx,lr,ZF,gS⟩;obtain⟨va,vcap,hv,_,_⟩:=aM fA;subst hv
 have HU4:jfp (Uns w w3.heap.size (w3.alloc (.cells #[.int .u32 (id:Int),.slice va l.length vcap] 25)) b' f' id (.slice va l.length vcap) l):=by
  have hz:=HZW.o;have iH:=gS.size;have aS:=am w3 (.cells #[.int .u32 (id:Int),.slice va l.length vcap] 25);refine ae ⟨lr.kept aS lr.lt,by omega,(aS.block _ (by omega)).trans ((gS.block _ (by omega) (by omega)).trans HH0.o),jdW w3 _,(ce.o.trans (gS.below (by omega) (by omega))).trans (aS.mono (by omega)),?_⟩;rw[hz]at fA;exact fA.kept aS
 have sj:=ae (XI ZF);have ZO:=ae np;clear fA lr ZF gS jx np;obtain⟨⟨c0,c1⟩,⟨d0,d1⟩,⟨z0,z1⟩⟩:=HU4.o.facts;have HQL:jfp (w3.heap.size<(w3.alloc (.cells #[.int .u32 (id:Int),.slice va l.length vcap] 25)).heap.size):=ae (by rw[jdx];omega);go_wp2_with fail;generalize hq:w3.heap.size=q at *;generalize hX:w3.alloc (.cells #[.int .u32 (id:Int),.slice va l.length vcap] 25)=X at *;try rw[hX]
 clear hX hq;refine(zI HU4.o.2.2.2.2.2.sf id).mono ?_;rintro e w5 ⟨rfl,bD⟩;have HU5:=ae (HU4.o.kept bD);clear bD;go_wp2_with fail;refine(mP HU5.o.1 (chk id l)).mono ?_;rintro e w6 ⟨rfl,xE,Qu⟩;have HU6:=ae (HU5.o.call xE Qu);clear xE Qu c0 c1 d0 d1 z0 z1 HU5 HU4;generalize orf f' (chk id l)=F at *;obtain⟨⟨c0,c1⟩,⟨d0,d1⟩,⟨z0,z1⟩⟩:=HU6.o.facts;obtain⟨ra,rcap,r0,r1,r2,r3,r4,r5,r6,_,_⟩:=HU6.o.1.cells2;have FY:=ae r6;have HQ:=ae HU6.o.2.1;have jcb:¬ w.heap.size=w.heap.size+1:=by omega
 have yF:¬ w.heap.size+1=w.heap.size:=by omega
 have hne3:¬ w.heap.size=q:=by have:=HQ.o;omega
 have jbR:¬ q=w.heap.size:=by have:=HQ.o;omega
 clear r6 r4 r5;by_cases hF:F=0
 ·have hFa:((F:Int) != 0)=false:=by simp[hF]
  have PE:jfp (b'.length<=100000000):=ae (by have:=XH sj.o hF;omega)
  have HOKR:jfp (yp b=(id,l,b',0)):=by
   have h:=sj.o;rw[hF]at h;exact ae (XE h)
  clear hF
  have qr:jfp (∀ m,Calls Tryz.prog 93 #[.slice ra b'.length rcap] (w6.drewN m) fun e w'=>∃ u,e=.returned u/\aD w' (w.heap.size+1) u b'/\Uns w q w' b' F id (.slice va l.length vcap) l/\(w'.cell? ⟨q,0,none⟩=some (.int .u32 (id:Int))/\w'.cell? ⟨q,1,none⟩=some (.slice va l.length vcap))/\(w'.frozen? ⟨w.heap.size,0,none⟩=false/\w'.frozen? ⟨w.heap.size,1,none⟩=false)/\(w'.cell? ⟨w.heap.size,0,none⟩=some (.int .u32 0)/\w'.cell? ⟨w.heap.size,1,none⟩=some (.slice none 0 0))/\w'.cell? ⟨w.heap.size+1,0,none⟩=some (.slice ra b'.length rcap)):=ae (fun m=>by
   have nt:Below w6.heap.size w6 (w6.drewN m):=ap (jdv w6.heap.size w6) m;refine(Pf (FY.o.kept nt) PE.o).mono ?_;rintro e w' ⟨⟨u,rfl,ou⟩,hb'⟩;have aE:=ai nt hb';have hu:=HU6.o.kept aE;obtain⟨e0,e1,e2⟩:=hu.facts;refine⟨u,rfl,?_,hu,e0,e2,e1,(aE.cell (p:=⟨w.heap.size+1,0,none⟩) HU6.o.1.lt).trans r0⟩;have hz:w.heap.size+1<=(w6.drewN m).heap.size:=jdF (jdU HU6.o.1.lt) nt.size;exact be ou hz)
  go_wp2_with fail
  go_region_held3 (fun w'=>w'.cell? ⟨q,0,none⟩=some (.int .u32 (id:Int))/\w'.cell? ⟨q,1,none⟩=some (.slice va l.length vcap)/\w'.cell? ⟨w.heap.size+1,0,none⟩=some (.slice ra b'.length rcap)) (first | assumption | go_keep) (first
   | (go_at_call 93;refine(qr.o _).mono ?_;rintro e w7 ⟨u7,rfl,o7,hu7,⟨g0,g1⟩,⟨g2,g3⟩,⟨g4,g5⟩,g6⟩;have iD:=ae o7;have HU7:=ae hu7;clear o7 hu7))
  go_wp2_with fail;refine bodyPost_ret (v:=.tuple #[.agg #[.int .u32 (id:Int),.slice va l.length vcap],u7,.int .i64 ((0:Nat):Int)]) (by simp[results,Tryz.results96,go_sem,g4,g5]) rfl ?_;rw[HOKR.o];refine⟨⟨_,_,rfl,(DZ HU7.o.2.2.2.2.2 (by omega) _ _).low (by omega),?_⟩,qd HU7.o.2.2.2.2.1 (jdw _) _ _⟩;exact be (Fr.own (((Fr.refl w.heap.size w7.heap.size w7).set 0 _).set 1 _) iD.o (by omega)) (by omega)
 ·have hFa:((F:Int) != 0)=true:=by simp[hF]
  have HER:=ae (JK sj.o hF);clear hF;go_wp2_with fail;go_region
  go_wp2_with fail;refine bodyPost_ret (v:=.tuple #[.agg #[.int .u32 ((0:Nat):Int),.slice none 0 0],.slice none 0 0,.int .i64 (F:Int)]) (by simp[results,Tryz.results96,go_sem,d0,d1]) rfl ?_;rw[HER.o];exact⟨⟨_,_,rfl,fD.nil _ _,aD.nil _ _⟩,(qd HU6.o.2.2.2.2.1 (jdw _) _ _).drew⟩
end Go.Proofs.YtpljdjmpamjkhaaGreatDoor
