import Derived.Test.YtpljdjmpamjkhaaGreatDoorUbf
set_option linter.unusedVariables false
set_option linter.unusedSimpArgs false
set_option maxRecDepth 100000
set_option maxHeartbeats 8000000
namespace Go.Proofs.YtpljdjmpamjkhaaGreatDoor
open Go.RowKit Go.Lib
theorem EW(a:List Fd)(f:Fd):(f.1<=eT a)↔(f.1=0∨(0<a.length/\f.1<=eT a)):=by
 constructor
 ·intro h
  rcases jd4 a.length with h0 | h0
  ·rw[jdF h0]at h
   left
   simpa [eT]using h
  ·exact Or.inr ⟨h0,h⟩
 ·rintro(h | h)
  ·omega
  ·exact h.2
theorem EX{l:List Fd}{k m:Nat}(hm:k=m+1)(h:m<l.length):eT (l.take k)=l[m].1:=by
 subst hm;exact Gc h
theorem BF{w:World}{v:Value}{l:List Fd}(hs:Sf w v l)(id:Nat):Calls Tryz.prog 15 #[.agg #[.int .u32 (id:Int),v]] w fun e w'=>e=.returned (.int .i64 (chk id l:Int))/\Below w.heap.size w w':=by
 obtain⟨a,cap,rfl,aY,bx⟩:=hs.form;have cE:=ae (ak w (.cells #[.int .u32 (id:Int),.slice a l.length cap] 25));have HS:=ae (hs.kept (ak w (.cells #[.int .u32 (id:Int),.slice a l.length cap] 25)));obtain⟨c0,c1⟩:=bF w (.int .u32 (id:Int)) (.slice a l.length cap) 25;have hz:w.heap.size<(w.alloc (.cells #[.int .u32 (id:Int),.slice a l.length cap] 25)).heap.size:=by rw[jdi];omega
 clear hs;by_cases h1:id=0∨l.length=0∨8<l.length
 ·have HR:jfb (chk id l=1):=ae (jdf h1)
  clear c0 c1 hz HS;by_cases q1:id=0
  ·subst q1
   go_enter Tryz.func15,Tryz.ntmps15
   go_wp2_with fail;go_ret
   rw[HR.o];exact⟨rfl,cE.o⟩
  ·have q1':((id:Int)==0)=false:=by simp[q1]
   by_cases q2:l.length=0
   ·have q2':((l.length:Int)==0)=true:=by simp[q2]
    clear h1 q1 q2;go_enter Tryz.func15,Tryz.ntmps15
    go_wp2_with fail;go_ret
    rw[HR.o];exact⟨rfl,cE.o⟩
   ·have q2':((l.length:Int)==0)=false:=by simp[q2]
    have q3:(l.length:Int) > 8:=(by omega);clear h1 q1 q2;go_enter Tryz.func15,Tryz.ntmps15
    go_wp2_with fail;go_ret
    rw[HR.o];exact⟨rfl,cE.o⟩
 ·have HR:jfb (chk id l=fe (l.take 0) (l.drop 0)):=ae (jde h1)
  have q1':((id:Int)==0)=false:=jdt.2 (by omega);have q2':((l.length:Int)==0)=false:=jdt.2 (by omega);have q3:¬ (l.length:Int) > 8:=by omega
  have hl8:l.length<=8:=by omega
  clear h1;generalize chk id l=CH at *;generalize hW:w.alloc (.cells #[.int .u32 (id:Int),.slice a l.length cap] 25)=W at *;go_enter Tryz.func15,Tryz.ntmps15
  go_wp2_with fail;try rw[hW]
  clear hW;go_loopw [3] (fun i wr=>∃ k:Nat,k<=l.length/\i=.int .i64 (k:Int)/\CH=fe (l.take k) (l.drop k)/\Below W.heap.size W wr) (fun i _=>l.length-(intOf i).toNat)
  case atStart=>exact⟨0,by omega,rfl,HR.o,jdg _ _⟩
  case round =>
   obtain⟨k,hk,rfl,lz,az⟩:=hrel;have HF:=ae lz;have HB:=ae az;have bP:=az.size;clear lz az HR;by_cases aC:k<l.length
   ·obtain⟨b,off,rfl,hb,x0,x1,x2,x3⟩:=(HS.o.kept HB.o).at aC
    have HT:=ae (HF.o.trans (KN aC));have hlt':(k:Int)<(l.length:Int):=(by omega);have hkc:(k:Int)<=(cap:Int):=(by omega);have jbr:(0:Int)<=(k:Int):=(by omega);have hktn:((k:Int)).toNat=k:=(by omega);have hdcap:¬ cap=0:=(by omega);have cT:=ae (HS.o.take (k:=k) (by omega));have uO:(l.take k).length=k:=by rw[jdo];omega
    generalize hf:l[k]=f at *;obtain⟨f0,f1,f2,f3⟩:=f;have lD:jfb (fY (l.take k) (f0,f1,f2,f3)=if f0<=eT (l.take k) then 81 else if vG (l.take k) f1=false then 80 else if kO f2=false then 10 else if (f3 != decide ((l.take k).length=0))=true∨((l.take k).length=0/\f2=2) then 82 else 0):=ae rfl;rw[uO]at lD;simp only at *;have d1:=(HB.o.cell (p:=⟨w.heap.size,1,none⟩) hz).trans c1;have qt:=ak wr (.cells #[.int .u32 (f0:Int),.string f1,.int .u8 (f2:Int),.bool f3] 81);have e1:=(qt.cell (p:=⟨w.heap.size,1,none⟩) (jdD hz bP)).trans d1;obtain⟨g0,g1,g2,g3⟩:=iW wr (.int .u32 (f0:Int)) (.string f1) (.int .u8 (f2:Int)) (.bool f3) 81;have aO:=ae (HB.o.trans (qt.mono bP));have jx:wr.heap.size<(wr.alloc (.cells #[.int .u32 (f0:Int),.string f1,.int .u8 (f2:Int),.bool f3] 81)).heap.size:=by rw[jdi];omega
    have tz:=ae ((cT.o.kept HB.o).kept qt);have Qr:jfb (∀ U,Below (wr.alloc (.cells #[.int .u32 (f0:Int),.string f1,.int .u8 (f2:Int),.bool f3] 81)).heap.size (wr.alloc (.cells #[.int .u32 (f0:Int),.string f1,.int .u8 (f2:Int),.bool f3] 81)) U->Calls Tryz.prog 50 #[.slice (some ⟨b,off,none⟩) k cap,.string f1] U fun e w'=>e=.returned (.bool (oT (l.take k) f1))/\w'=U):=ae (fun U hU=>WE (tz.o.kept hU) f1);generalize hV:wr.alloc (.cells #[.int .u32 (f0:Int),.string f1,.int .u8 (f2:Int),.bool f3] 81)=V at *;have em:jfb (∀ w',Below V.heap.size V w'->(w'.cell? ⟨w.heap.size,1,none⟩=some (.slice (some ⟨b,off,none⟩) l.length cap)/\w'.cell? ⟨wr.heap.size,1,none⟩=some (.string f1))/\w'.cell? ⟨wr.heap.size,2,none⟩=some (.int .u8 (f2:Int))/\w'.cell? ⟨wr.heap.size,3,none⟩=some (.bool f3)):=ae (fun w' h=>⟨⟨(h.cell (p:=⟨w.heap.size,1,none⟩) (show w.heap.size<_ by omega)).trans e1,(h.cell (p:=⟨wr.heap.size,1,none⟩) jx).trans g1⟩,(h.cell (p:=⟨wr.heap.size,2,none⟩) jx).trans g2,(h.cell (p:=⟨wr.heap.size,3,none⟩) jx).trans g3⟩)
    have LT:jfb (∀ U,Below V.heap.size V U->Calls Tryz.prog 49 #[.string f1] U fun e w'=>e=.returned (.bool (named f1))/\Below V.heap.size V w'/\(w'.cell? ⟨w.heap.size,1,none⟩=some (.slice (some ⟨b,off,none⟩) l.length cap)/\w'.cell? ⟨wr.heap.size,1,none⟩=some (.string f1))):=ae (fun U hU=>(MR f1 U).mono (by
     rintro e w2 ⟨rfl,aE⟩;have aQ:=ai hU aE;exact⟨rfl,aQ,(em.o _ aQ).1⟩))
    have ZC:vG (l.take k) f1=(named f1 && !oT (l.take k) f1):=rfl;have ln:=ae ZC;have ZD:=ae (EW (l.take k) (f0,f1,f2,f3));rw[uO]at ZD
    have pF:jfb (∀ m,k=m+1->∃ la:Nat,eT (l.take k)=la/\V.cell? ⟨b,off+m*4,none⟩=some (.int .u32 (la:Int))):=ae (fun m hm=>by
     obtain⟨b',off',ZE,_,y0,_⟩:=(HS.o.kept aO.o).at (k:=m) (by omega);cases ZE
     exact⟨_,EX hm (by omega),y0⟩)
    clear ZC qt g1 g2 g3 hf uO tz cT c0 c1;generalize fY (l.take k) (f0,f1,f2,f3)=R at *;by_cases cm:f0=0
    ·have hR:R=81:=by rw[lD.o,jdf (ZD.o.2 (Or.inl cm))]
     have hz0':((f0:Int)==0)=true:=by rw[cm];rfl
     rw[hR,jde (by omega)]at HT;clear hR lD ZD cm pF;go_wp2_with fail;try rw[hV]
     clear hV;go_quiet (fail)
     go_wp2_with fail;go_ret
     rw[HT.o];exact⟨rfl,ar (ai cE.o aO.o) _⟩
    ·have hz0':((f0:Int)==0)=false:=jdt.2 (by omega)
     by_cases FC:0<k/\f0<=eT (l.take k)
     ·have hR:R=81:=by rw[lD.o,jdf (ZD.o.2 (Or.inr FC))]
      obtain⟨qm,oV⟩:=FC;obtain⟨m,hm⟩:∃ m,k=m+1:=⟨k-1,by omega⟩;obtain⟨la,Po,eQ⟩:=pF.o m hm;rw[Po]at oV;have t1:decide ((k:Int) > 0)=true:=jdy (by omega);have t1':(k:Int) > 0:=(by omega);have t1n:decide (0<k)=true:=jdy (by omega);have t1m:0<k:=(by omega);have t2:IntKind.i64.wrap ((k:Int)-1)=(m:Int):=by rw[jdR];omega
      have t3:(0:Int)<=(m:Int):=(by omega);have t4:(m:Int)<(l.length:Int):=(by omega);have t5:((m:Int)).toNat=m:=(by omega);have t6:decide ((f0:Int)<=(la:Int))=true:=jdy (by omega);have t6':(f0:Int)<=(la:Int):=(by omega);have t7:(k:Int)-1=(m:Int):=(by omega);rw[hR,jde (by omega)]at HT;clear hR lD ZD cm pF hm Po qm oV;go_wp2_with fail;try rw[hV]
      clear hV;go_quiet (fail)
      go_wp2_with fail;go_ret
      rw[HT.o];exact⟨rfl,ar (ai cE.o aO.o) _⟩
     ·rw[jde (fun h=>by rcases ZD.o.1 h with h | h;(· exact cm h);(· exact FC h))]at lD
      have Uz:decide ((k:Int) > 0)=false/\k=0∨decide ((k:Int) > 0)=true/\∃ m la:Nat,k=m+1/\¬ f0<=la/\V.cell? ⟨b,off+m*4,none⟩=some (.int .u32 (la:Int)):=by
       by_cases qm:k=0
       ·exact Or.inl ⟨jds (by omega),qm⟩
       ·obtain⟨m,hm⟩:∃ m,k=m+1:=⟨k-1,by omega⟩
        obtain⟨la,Po,eQ⟩:=pF.o m hm;exact Or.inr ⟨jdy (by omega),m,la,hm,fun h=>FC ⟨by omega,by rw[Po];exact h⟩,eQ⟩
      have HK0:jfb (decide (k=0)=((k:Int)==0)):=ae (by
       by_cases h:k=0
       ·rw[jdy h,h];rfl
       ·rw[jds h,jdt.2 (by omega)])
      clear FC cm ZD pF;rcases Uz with ⟨t1,qm⟩ | ⟨t1,m,la,hm,oV,eQ⟩
      ·have t1':¬ (k:Int) > 0:=by omega
       have t1n:decide (0<k)=false:=jds (by omega);have t1m:¬ 0<k:=(by omega);have HKZ:=ae qm;clear qm;go_wp2_with fail;try rw[hV]
       clear hV;go_quiet (fail)
       obtain⟨⟨_,g1⟩,_⟩:=em.o V (jdg _ _);go_wp2_with fail;cases hnm:named f1 with
       | false =>
        rw[hnm]at LT ln;have hR:R=80:=by rw[lD.o,ln.o];rfl
        rw[hR,jde (by omega)]at HT;clear hR lD hnm;have sg:∀ s:bM (fun x=>Below V.heap.size V x),s.w.cell? ⟨wr.heap.size,1,none⟩=some (.string f1):=fun s=>(em.o s.w s.ok).1.2
        have nc:∀ s:bM (fun x=>Below V.heap.size V x),s.w.cell? ⟨w.heap.size,1,none⟩=some (.slice (some ⟨b,off,none⟩) l.length cap):=fun s=>(em.o s.w s.ok).1.1
        haveI:Nonempty (bM (fun x=>Below V.heap.size V x)):=⟨bM.mk V (jdg _ _)⟩
        refine cx (S:=fun x=>Below V.heap.size V x) (by kernel_rfl) (by kernel_rfl) (ar (jdg _ _) _).drew ?_;repeat (go_big_quiet_step (first | (go_at_call 49;exact(LT.o _ (bM.ok _)).mono (fun e w' h=>⟨h.1,bM.mk w' h.2.1,rfl⟩)) | (go_at_call 50;exact(Qr.o _ (bM.ok _)).mono (fun e w' h=>⟨h.1,_,h.2⟩))))
        refine wpQuiet_nil ?_;rintro _ ⟨s2,rfl⟩;obtain⟨w2,py⟩:∃ x,x=s2.w:=⟨_,rfl⟩;have aE:=s2.ok;rw[← py]at aE ⊢;have ge:=ae aE;clear py aE sg nc;go_wp2_with fail;go_ret
        rw[HT.o];exact⟨rfl,by first | exact ai (ai cE.o aO.o) ge.o | exact ar (ai (ai cE.o aO.o) ge.o) _⟩
       | true =>
        rw[hnm]at LT ln;clear hnm;cases hha:oT (l.take k) f1 with
        | true =>
         rw[hha]at Qr ln;have hR:R=80:=by rw[lD.o,ln.o];rfl
         rw[hR,jde (by omega)]at HT;clear hR lD hha;have sg:∀ s:bM (fun x=>Below V.heap.size V x),s.w.cell? ⟨wr.heap.size,1,none⟩=some (.string f1):=fun s=>(em.o s.w s.ok).1.2
         have nc:∀ s:bM (fun x=>Below V.heap.size V x),s.w.cell? ⟨w.heap.size,1,none⟩=some (.slice (some ⟨b,off,none⟩) l.length cap):=fun s=>(em.o s.w s.ok).1.1
         haveI:Nonempty (bM (fun x=>Below V.heap.size V x)):=⟨bM.mk V (jdg _ _)⟩
         refine cx (S:=fun x=>Below V.heap.size V x) (by kernel_rfl) (by kernel_rfl) (ar (jdg _ _) _).drew ?_;repeat (go_big_quiet_step (first | (go_at_call 49;exact(LT.o _ (bM.ok _)).mono (fun e w' h=>⟨h.1,bM.mk w' h.2.1,rfl⟩)) | (go_at_call 50;exact(Qr.o _ (bM.ok _)).mono (fun e w' h=>⟨h.1,_,h.2⟩))))
         refine wpQuiet_nil ?_;rintro _ ⟨s2,rfl⟩;obtain⟨w2,py⟩:∃ x,x=s2.w:=⟨_,rfl⟩;have aE:=s2.ok;rw[← py]at aE ⊢;have ge:=ae aE;clear py aE sg nc;go_wp2_with fail;go_ret
         rw[HT.o];exact⟨rfl,by first | exact ai (ai cE.o aO.o) ge.o | exact ar (ai (ai cE.o aO.o) ge.o) _⟩
        | false =>
         rw[hha]at Qr ln;rw[ln.o,jde (by simp)]at lD;clear hha;have sg:∀ s:bM (fun x=>Below V.heap.size V x),s.w.cell? ⟨wr.heap.size,1,none⟩=some (.string f1):=fun s=>(em.o s.w s.ok).1.2
         have nc:∀ s:bM (fun x=>Below V.heap.size V x),s.w.cell? ⟨w.heap.size,1,none⟩=some (.slice (some ⟨b,off,none⟩) l.length cap):=fun s=>(em.o s.w s.ok).1.1
         haveI:Nonempty (bM (fun x=>Below V.heap.size V x)):=⟨bM.mk V (jdg _ _)⟩
         refine cx (S:=fun x=>Below V.heap.size V x) (by kernel_rfl) (by kernel_rfl) (ar (jdg _ _) _).drew ?_;repeat (go_big_quiet_step (first | (go_at_call 49;exact(LT.o _ (bM.ok _)).mono (fun e w' h=>⟨h.1,bM.mk w' h.2.1,rfl⟩)) | (go_at_call 50;exact(Qr.o _ (bM.ok _)).mono (fun e w' h=>⟨h.1,_,h.2⟩))))
         refine wpQuiet_nil ?_;rintro _ ⟨s2,rfl⟩;obtain⟨w2,py⟩:∃ x,x=s2.w:=⟨_,rfl⟩;have aE:=s2.ok;rw[← py]at aE ⊢;have ge:=ae aE;clear py aE sg nc;obtain⟨_,y2,y3⟩:=em.o _ ge.o;by_cases xG:kO f2=false
         ·rw[jdf xG]at lD
          rw[lD.o,jde (by omega)]at HT
          have hkd':f2=0∨3<f2:=by
           unfold kO at xG;have:=of_decide_eq_false xG;omega
          clear lD xG;rcases hkd' with q | q
          ·have q1:(f2:Int)<1:=by omega
           clear q;go_wp2_with fail;go_ret
           rw[HT.o];exact⟨rfl,by first | exact ai (ai cE.o aO.o) ge.o | exact ar (ai (ai cE.o aO.o) ge.o) _⟩
          ·have q1:¬ (f2:Int)<1:=by omega
           have q2:(f2:Int) > 3:=(by omega);clear q;go_wp2_with fail;go_ret
           rw[HT.o];exact⟨rfl,by first | exact ai (ai cE.o aO.o) ge.o | exact ar (ai (ai cE.o aO.o) ge.o) _⟩
         ·rw[jde xG]at lD
          have hkd':1<=f2/\f2<=3:=by
           unfold kO at xG;simpa using xG
          have q1:¬ (f2:Int)<1:=(by omega);have q2:¬ (f2:Int) > 3:=(by omega);clear xG hkd';have t0:((k:Int)==0)=true:=by rw[HKZ.o];rfl
          cases f3
          ·have hR:R=82:=by rw[lD.o,jdf (Or.inl (by rw[HKZ.o];rfl))]
           rw[hR,jde (by omega)]at HT;clear hR lD;go_wp2_with fail;go_ret
           rw[HT.o];exact⟨rfl,by first | exact ai (ai cE.o aO.o) ge.o | exact ar (ai (ai cE.o aO.o) ge.o) _⟩
          ·by_cases h2:f2=2
           ·have hR:R=82:=by rw[lD.o,jdf (Or.inr ⟨HKZ.o,h2⟩)]
            have h2':((f2:Int)==2)=true:=by rw[h2];rfl
            rw[hR,jde (by omega)]at HT;clear hR lD h2;go_wp2_with fail;go_ret
            rw[HT.o];exact⟨rfl,by first | exact ai (ai cE.o aO.o) ge.o | exact ar (ai (ai cE.o aO.o) ge.o) _⟩
           ·have hR:R=0:=by rw[lD.o,jde (fun h=>by rcases h with h | ⟨_,h⟩;(· rw[HKZ.o]at h;cases h);(· exact h2 h))]
            have h2':((f2:Int)==2)=false:=jdt.2 (by omega);rw[jdf hR]at HT;clear hR lD h2;go_wp2_with fail;go_roundw
            case rel=>exact⟨k+1,by omega,by go_num,HT.o,by first | exact ai aO.o ge.o | exact ar (ai aO.o ge.o) _⟩
            case measure=>simp[intOf];omega
      ·have t1':(k:Int) > 0:=by omega
       have t1n:decide (0<k)=true:=jdy (by omega);have t1m:0<k:=(by omega);have t2:IntKind.i64.wrap ((k:Int)-1)=(m:Int):=by rw[jdR];omega
       have t3:(0:Int)<=(m:Int):=(by omega);have t4:(m:Int)<(l.length:Int):=(by omega);have t5:((m:Int)).toNat=m:=(by omega);have t6:decide ((f0:Int)<=(la:Int))=false:=jds (by omega);have t6':¬ (f0:Int)<=(la:Int):=(by omega);have t7:(k:Int)-1=(m:Int):=(by omega);clear hm oV;go_wp2_with fail;try rw[hV]
       clear hV;go_quiet (fail)
       obtain⟨⟨_,g1⟩,_⟩:=em.o V (jdg _ _);go_wp2_with fail;cases hnm:named f1 with
       | false =>
        rw[hnm]at LT ln;have hR:R=80:=by rw[lD.o,ln.o];rfl
        rw[hR,jde (by omega)]at HT;clear hR lD hnm;have sg:∀ s:bM (fun x=>Below V.heap.size V x),s.w.cell? ⟨wr.heap.size,1,none⟩=some (.string f1):=fun s=>(em.o s.w s.ok).1.2
        have nc:∀ s:bM (fun x=>Below V.heap.size V x),s.w.cell? ⟨w.heap.size,1,none⟩=some (.slice (some ⟨b,off,none⟩) l.length cap):=fun s=>(em.o s.w s.ok).1.1
        haveI:Nonempty (bM (fun x=>Below V.heap.size V x)):=⟨bM.mk V (jdg _ _)⟩
        refine cx (S:=fun x=>Below V.heap.size V x) (by kernel_rfl) (by kernel_rfl) (ar (jdg _ _) _).drew ?_;repeat (go_big_quiet_step (first | (go_at_call 49;exact(LT.o _ (bM.ok _)).mono (fun e w' h=>⟨h.1,bM.mk w' h.2.1,rfl⟩)) | (go_at_call 50;exact(Qr.o _ (bM.ok _)).mono (fun e w' h=>⟨h.1,_,h.2⟩))))
        refine wpQuiet_nil ?_;rintro _ ⟨s2,rfl⟩;obtain⟨w2,py⟩:∃ x,x=s2.w:=⟨_,rfl⟩;have aE:=s2.ok;rw[← py]at aE ⊢;have ge:=ae aE;clear py aE sg nc;go_wp2_with fail;go_ret
        rw[HT.o];exact⟨rfl,by first | exact ai (ai cE.o aO.o) ge.o | exact ar (ai (ai cE.o aO.o) ge.o) _⟩
       | true =>
        rw[hnm]at LT ln;clear hnm;cases hha:oT (l.take k) f1 with
        | true =>
         rw[hha]at Qr ln;have hR:R=80:=by rw[lD.o,ln.o];rfl
         rw[hR,jde (by omega)]at HT;clear hR lD hha;have sg:∀ s:bM (fun x=>Below V.heap.size V x),s.w.cell? ⟨wr.heap.size,1,none⟩=some (.string f1):=fun s=>(em.o s.w s.ok).1.2
         have nc:∀ s:bM (fun x=>Below V.heap.size V x),s.w.cell? ⟨w.heap.size,1,none⟩=some (.slice (some ⟨b,off,none⟩) l.length cap):=fun s=>(em.o s.w s.ok).1.1
         haveI:Nonempty (bM (fun x=>Below V.heap.size V x)):=⟨bM.mk V (jdg _ _)⟩
         refine cx (S:=fun x=>Below V.heap.size V x) (by kernel_rfl) (by kernel_rfl) (ar (jdg _ _) _).drew ?_;repeat (go_big_quiet_step (first | (go_at_call 49;exact(LT.o _ (bM.ok _)).mono (fun e w' h=>⟨h.1,bM.mk w' h.2.1,rfl⟩)) | (go_at_call 50;exact(Qr.o _ (bM.ok _)).mono (fun e w' h=>⟨h.1,_,h.2⟩))))
         refine wpQuiet_nil ?_;rintro _ ⟨s2,rfl⟩;obtain⟨w2,py⟩:∃ x,x=s2.w:=⟨_,rfl⟩;have aE:=s2.ok;rw[← py]at aE ⊢;have ge:=ae aE;clear py aE sg nc;go_wp2_with fail;go_ret
         rw[HT.o];exact⟨rfl,by first | exact ai (ai cE.o aO.o) ge.o | exact ar (ai (ai cE.o aO.o) ge.o) _⟩
        | false =>
         rw[hha]at Qr ln;rw[ln.o,jde (by simp)]at lD;clear hha;have sg:∀ s:bM (fun x=>Below V.heap.size V x),s.w.cell? ⟨wr.heap.size,1,none⟩=some (.string f1):=fun s=>(em.o s.w s.ok).1.2
         have nc:∀ s:bM (fun x=>Below V.heap.size V x),s.w.cell? ⟨w.heap.size,1,none⟩=some (.slice (some ⟨b,off,none⟩) l.length cap):=fun s=>(em.o s.w s.ok).1.1
         haveI:Nonempty (bM (fun x=>Below V.heap.size V x)):=⟨bM.mk V (jdg _ _)⟩
         refine cx (S:=fun x=>Below V.heap.size V x) (by kernel_rfl) (by kernel_rfl) (ar (jdg _ _) _).drew ?_;repeat (go_big_quiet_step (first | (go_at_call 49;exact(LT.o _ (bM.ok _)).mono (fun e w' h=>⟨h.1,bM.mk w' h.2.1,rfl⟩)) | (go_at_call 50;exact(Qr.o _ (bM.ok _)).mono (fun e w' h=>⟨h.1,_,h.2⟩))))
         refine wpQuiet_nil ?_;rintro _ ⟨s2,rfl⟩;obtain⟨w2,py⟩:∃ x,x=s2.w:=⟨_,rfl⟩;have aE:=s2.ok;rw[← py]at aE ⊢;have ge:=ae aE;clear py aE sg nc;obtain⟨_,y2,y3⟩:=em.o _ ge.o;by_cases xG:kO f2=false
         ·rw[jdf xG]at lD
          rw[lD.o,jde (by omega)]at HT
          have hkd':f2=0∨3<f2:=by
           unfold kO at xG;have:=of_decide_eq_false xG;omega
          clear lD xG;rcases hkd' with q | q
          ·have q1:(f2:Int)<1:=by omega
           clear q;go_wp2_with fail;go_ret
           rw[HT.o];exact⟨rfl,by first | exact ai (ai cE.o aO.o) ge.o | exact ar (ai (ai cE.o aO.o) ge.o) _⟩
          ·have q1:¬ (f2:Int)<1:=by omega
           have q2:(f2:Int) > 3:=(by omega);clear q;go_wp2_with fail;go_ret
           rw[HT.o];exact⟨rfl,by first | exact ai (ai cE.o aO.o) ge.o | exact ar (ai (ai cE.o aO.o) ge.o) _⟩
         ·rw[jde xG]at lD
          have hkd':1<=f2/\f2<=3:=by
           unfold kO at xG;simpa using xG
          have q1:¬ (f2:Int)<1:=(by omega);have q2:¬ (f2:Int) > 3:=(by omega);clear xG hkd';have t0:((k:Int)==0)=false:=jdt.2 (by omega);cases f3
          ·have hR:R=0:=by rw[lD.o,jde (fun h=>by rcases h with h | ⟨h,_⟩;(· rw[jds (show ¬ k=0 by omega)]at h;cases h);(· omega))]
           rw[jdf hR]at HT;clear hR lD;go_wp2_with fail;go_roundw
           case rel=>exact⟨k+1,by omega,by go_num,HT.o,by first | exact ai aO.o ge.o | exact ar (ai aO.o ge.o) _⟩
           case measure=>simp[intOf];omega
          ·have hR:R=82:=by rw[lD.o,jdf (Or.inl (by rw[jds (show ¬ k=0 by omega)];rfl))]
           rw[hR,jde (by omega)]at HT;clear hR lD;go_wp2_with fail;go_ret
           rw[HT.o];exact⟨rfl,by first | exact ai (ai cE.o aO.o) ge.o | exact ar (ai (ai cE.o aO.o) ge.o) _⟩
   ·obtain rfl:k=l.length:=by omega
    have gL:¬ ((l.length:Nat):Int)<(l.length:Int):=(by omega);have HT:=ae (HF.o.trans (Qx l));clear HF;have d1:=(HB.o.cell (p:=⟨w.heap.size,1,none⟩) hz).trans c1;go_wp2_with fail;go_ret
    rw[HT.o];exact⟨rfl,ai cE.o HB.o⟩
def RawSt(T:Nat)(W:World)(p:Nat)(b:List Nat)(f:Nat)(a:Option Addr)(cap:Nat):Prop :=
 W.heap[p]?=some (.cells #[.slice a b.length cap,.int .i64 (f:Int)] T (0,0))/\b.length<=cap/\cap<=maxLen/\Bs b/\(a=none->cap=0) /\
  (0<b.length->∃ g off,a=some ⟨g,off,none⟩/\g<p/\∀ j (h:j<b.length),W.cell? ⟨g,off+j,none⟩=some (.int .u8 (b[j]:Int)))
theorem St.cells2{T:Nat}{W:World}{p:Nat}{b:List Nat}{f:Nat}(h:St T W p b f) :
  ∃ a cap,W.cell? ⟨p,0,none⟩=some (.slice a b.length cap)/\W.cell? ⟨p,1,none⟩=some (.int .i64 (f:Int))/\W.frozen? ⟨p,0,none⟩=false/\W.frozen? ⟨p,1,none⟩=false /\
   b.length<=cap/\cap<=9223372036854775807/\Sv W (.slice a b.length cap) (aF .u8 b)/\(a=none->cap=0)/\RawSt T W p b f a cap:=by
 have aC:=h.lt;obtain⟨a,cap,h1,h2,h3,h4,h5,h6⟩:=h
 have ie:Sv W (.slice a b.length cap) (aF .u8 b):=by
  refine⟨a,cap,by rw[ap],by rw[ap];omega,h3,h5,fun h0=>?_⟩;rw[ap]at h0;obtain⟨g,off,e,hg,hc⟩:=h6 h0;refine⟨g,off,e,by omega,fun j x hj=>?_⟩
  have hj':j<b.length:=by
   have:=(List.getElem?_eq_some_iff.1 hj).1;rwa[ap]at this
  rw[bS hj']at hj;rw[hc j hj'];exact hj
 exact⟨a,cap,by rw[ay h1];rfl,by rw[ay h1];rfl,by simp[World.frozen?,h1],by simp[World.frozen?,h1],h2,by unfold maxLen at h3;omega,ie,h5,h1,h2,h3,h4,h5,h6⟩
theorem EY{b b1:List Nat}{f i:Nat}{l:List Fd}(h:Rds CT b f (i,l) b1 0):Rds da b f (i,l) b1 (chk i l) :=
 h.bind ⟨fun _=>rfl,fun h=>absurd rfl h⟩
theorem St.make{T:Nat}{w W:World}{a:Option Addr}{n cap:Nat}{b:List Nat}(hs:Sv w (.slice a n cap) (aF .u8 b))(hb:Bs b)(hB:Below w.heap.size w W) :
  St T (W.alloc (.cells #[.slice a b.length cap,.int .i64 ((0:Nat):Int)] T)) W.heap.size b 0:=by
 obtain⟨a',cap',e,h1,h2,h3,h4⟩:=hs;simp only[Value.slice.injEq]at e;obtain⟨rfl,rfl,rfl⟩:=e;rw[ap]at *;refine⟨a,cap,jdH W _,h1,h2,hb,h3,fun h0=>?_⟩;obtain⟨g,off,e,hg,hc⟩:=h4 h0;refine⟨g,off,e,jdD hg hB.size,fun j hj=>?_⟩;have hB':Below w.heap.size w (W.alloc (.cells #[.slice a b.length cap,.int .i64 ((0:Nat):Int)] T)):=hB.alloc hB.size _;rw[hB'.cell (p:=⟨g,off+j,none⟩) hg];exact hc j _ (bS hj)
theorem NS{w:World}{v:Value}{l:List Nat}(hs:Sv w v (aF .u8 l))(hl:l.length<=100000000) :
  Calls Tryz.prog 93 #[v] w (dw w l):=by
 have HS:=ae hs;obtain⟨ad,cap,rfl,h1,h2,h3,_⟩:=hs;rw[ap]at *;cases ad with
 | none =>
  have hc:=h3 rfl;subst hc;have qn:l=[]:=jdF (by omega);subst qn;have hq:(binOp .eql 30 (.slice none 0 0) (.slice none 0 0)).run Tryz.prog w=.ok (.bool true) w:=jeM w 30 5 none 0 0 0 0 Tryz.underlying30;go_enter Tryz.func93,Tryz.ntmps93
  go_wp2_with fail;go_ret
  exact⟨⟨_,rfl,aD.nil _ _⟩,jdg _ _⟩
 | some ad =>
  have HN:=ae (vJ w);have gE:=ae (HS.o.kept (ak w (.cells #[] 5)));clear h3;have hq:(binOp .eql 30 (.slice (some ad) l.length cap) (.slice none 0 0)).run Tryz.prog w=.ok (.bool false) w:=jeM w 30 5 (some ad) l.length cap 0 0 Tryz.underlying30;go_enter Tryz.func93,Tryz.ntmps93
  go_wp2_with (first | (at_builtin;refine ax rfl _ _ rfl w.heap.size _ _ [] l rfl ?q1 rfl ?q2 ?c1 ?c2 ?_))
  case q1=>exact HN.o
  case q2=>exact gE.o
  case c1=>simp;omega
  case c2=>rw[jdi];omega
  intro v3 w3 o3 aQ;have cZ:=ae o3;have bN:=ae ((ak w (.cells #[] 5)).trans aQ);clear o3 aQ;go_wp2_with fail;go_ret
  exact⟨⟨_,rfl,cZ.o⟩,bN.o⟩
def yt(b:List Nat):Nat×List Fd×List Nat×Nat :=
 match da b with
 | .ok ((id,l),r)=>(id,l,r,0)
 | .error c=>(0,[],[],c)
theorem Xm{b b':List Nat}{id:Nat}{l:List Fd}(h:Rds da b 0 (id,l) b' 0):yt b=(id,l,b',0):=by
 have e:=h.1 rfl;rw[jdf rfl]at e;unfold yt;rw[e]
theorem JG{b b':List Nat}{f id:Nat}{l:List Fd}(h:Rds da b 0 (id,l) b' f)(hf:f≠0):yt b=(0,[],[],f):=by
 have e:=h.1 rfl;rw[jde hf]at e;unfold yt;rw[e]
def Xn(w:World)(R:Nat×List Fd×List Nat×Nat)(e:Ending)(w':World):Prop :=
 (∃ v u,e=.returned (.tuple #[.agg #[.int .u32 (R.1:Int),v],u,.int .i64 (R.2.2.2:Int)])/\dT w' w.heap.size v R.2.1/\aD w' w.heap.size u R.2.2.1)/\Below w.heap.size w w'
def Shr{α : Type}(m:List Nat->Except Nat (α×List Nat)):Prop:=∀ b x r,m b=.ok (x,r)->r.length<=b.length
theorem Shr.bind{α β : Type}{m:List Nat->Except Nat (α×List Nat)}{k:α->List Nat->Except Nat (β×List Nat)}(h:Shr m)(hk:∀ x,Shr (k x)):Shr (aB m k):=by
 intro b y r e;cases hm:m b with
 | error c=>rw[cC hm]at e;cases e
 | ok q =>
  obtain⟨x,s⟩:=q;rw[cX hm]at e;exact jdq (hk x s y r e) (h b x s hm)
theorem Shr.pure{α β : Type}(g:α->β)(x:α):Shr (fun r=>.ok (g x,r)):=by
 intro b y r e;cases e
 exact jdh _
theorem oQ(room:Nat):Shr (ik room):=by
 intro b x r e;unfold ik at e;split at e
 ·cases e
 ·split at e
  ·cases e
  ·cases e
   rw[jdN];omega
theorem NT(n:Nat):Shr (textR n):=by
 intro b x r e;unfold textR at e;split at e
 ·cases e
 ·cases e
  rw[jdN];omega
theorem Xo:Shr ux:=(oQ _).bind fun i=>((oQ _).bind fun n=>NT n).bind fun s=>(oQ _).bind fun k=>(oQ _).bind fun n=>Shr.pure (fun _:Nat=>(i,s,k,decide (n=1))) 0
theorem EZ:∀ n,Shr (kR n)
 | 0=>Shr.pure (fun _:Nat=>[]) 0
 | n+1=>(EZ n).bind fun l=>Xo.bind fun f=>Shr.pure (fun _:Nat=>l++[f]) 0
theorem JH:Shr da :=
 ((oQ _).bind fun i=>(oQ _).bind fun n=>(EZ n).bind fun l=>Shr.pure (fun _:Nat=>(i,l)) 0).bind fun s=>by
  intro b x r e;simp only at e;split at e
  ·cases e;exact jdh _
  ·cases e
theorem Xp{b b1:List Nat}{F:Nat}{x:Nat×List Fd}(h:Rds da b 0 x b1 F)(hF:F=0):b1.length<=b.length:=by
 have e:=h.1 rfl;rw[jdf hF]at e;exact JH _ _ _ e
def Uns(w:World)(q:Nat)(W:World)(b:List Nat)(f id:Nat)(v:Value)(l:List Fd):Prop :=
 St 200 W (w.heap.size+1) b f/\w.heap.size+1<q/\W.heap[w.heap.size]?=some (.cells #[.int .u32 0,.slice none 0 0] 25 (0,0)) /\
 W.heap[q]?=some (.cells #[.int .u32 (id:Int),v] 25 (0,0))/\Below w.heap.size w W/\dT W (w.heap.size+2) v l
theorem Uns.size{w W:World}{q f id:Nat}{b:List Nat}{v:Value}{l:List Fd}(h:Uns w q W b f id v l):q<W.heap.size:=(Array.getElem?_eq_some_iff.1 h.2.2.2.1).1
theorem Uns.kept{w W W':World}{q f id:Nat}{b:List Nat}{v:Value}{l:List Fd}(h:Uns w q W b f id v l)(hb:Below W.heap.size W W'):Uns w q W' b f id v l:=by
 have hz:=h.size;obtain⟨h1,h2,h3,h4,h5,h6⟩:=h;exact⟨h1.kept hb h1.lt,h2,(hb.block _ (by omega)).trans h3,(hb.block _ (by omega)).trans h4,h5.trans (hb.mono h5.size),h6.kept hb⟩
theorem Uns.call{w W W':World}{q f f' id:Nat}{b b':List Nat}{v:Value}{l:List Fd}(h:Uns w q W b f id v l)(hs:St 200 W' (w.heap.size+1) b' f')(hf:Fr (w.heap.size+1) W.heap.size W W'):Uns w q W' b' f' id v l:=by
 have hz:=h.size;obtain⟨h1,h2,h3,h4,h5,h6⟩:=h;exact⟨hs,h2,(hf.block _ (by omega) (by omega)).trans h3,(hf.block _ (by omega) (by omega)).trans h4,h5.trans (hf.below (by omega) h5.size),Fr.own hf h6 (by omega)⟩
theorem Uns.facts{w W:World}{q f id:Nat}{b:List Nat}{v:Value}{l:List Fd}(h:Uns w q W b f id v l) :
  (W.cell? ⟨q,0,none⟩=some (.int .u32 (id:Int))/\W.cell? ⟨q,1,none⟩=some v) /\
  (W.cell? ⟨w.heap.size,0,none⟩=some (.int .u32 0)/\W.cell? ⟨w.heap.size,1,none⟩=some (.slice none 0 0)) /\
  (W.frozen? ⟨w.heap.size,0,none⟩=false/\W.frozen? ⟨w.heap.size,1,none⟩=false):=by
 obtain⟨h1,h2,h3,h4,h5⟩:=h;refine⟨⟨?_,?_⟩,⟨?_,?_⟩,⟨?_,?_⟩⟩<;>first | (rw[ay h4];rfl) | (rw[ay h3];rfl) | (simp[World.frozen?,h3];done)
theorem Xq{b b1:List Nat}{f1 i:Nat}{l:List Fd}(h:Rds CT b 0 (i,l) b1 f1):Rds da b 0 (i,l) b1 (orf f1 (chk i l)):=by
 unfold orf;by_cases hf:f1=0
 ·rw[jdf hf];subst hf;exact EY h
 ·rw[jde hf];exact h.bind (Rds.dead (i,l) hf)
theorem JI{w:World}{v:Value}{b:List Nat}(hs:Sv w v (aF .u8 b))(hb:Bs b)(hl:b.length<=90000000) :
  Calls Tryz.prog 96 #[v] w (Xn w (yt b)):=by
 obtain⟨a,cap,rfl,aY,bx⟩:=hs.form1;rw[ap]at *;have HS0:=ae (St.make (T:=200) hs hb (ak w (.cells #[.int .u32 0,.slice none 0 0] 25)));have cm:(w.alloc (.cells #[.int .u32 0,.slice none 0 0] 25)).heap.size=w.heap.size+1:=jdi _ _;have HH0:=ae ((ak (w.alloc (.cells #[.int .u32 0,.slice none 0 0] 25)) (.cells #[.slice a b.length cap,.int .i64 ((0:Nat):Int)] 200)).block w.heap.size (by omega) |>.trans (jdH w _));have cE:=ae (((ak w (.cells #[.int .u32 0,.slice none 0 0] 25))).alloc (by omega) (.cells #[.slice a b.length cap,.int .i64 ((0:Nat):Int)] 200));rw[cm]at HS0;clear hs;have hzW:((w.alloc (.cells #[.int .u32 0,.slice none 0 0] 25)).alloc (.cells #[.slice a b.length cap,.int .i64 ((0:Nat):Int)] 200)).heap.size=w.heap.size+2:=by rw[jdi,cm]
 have HZW:=ae hzW;clear hzW;generalize hW:(w.alloc (.cells #[.int .u32 0,.slice none 0 0] 25)).alloc (.cells #[.slice a b.length cap,.int .i64 ((0:Nat):Int)] 200)=W at *;have hW':(w.alloc (.cells #[.int .u32 0,.slice none 0 0] 25)).alloc (.cells #[.slice a b.length cap,.int .i64 0] 200)=W:=hW;go_enter Tryz.func96,Tryz.ntmps96
 go_wp2_with fail;try rw[hW']
 clear hW hW' cm;refine(JF HS0.o).mono ?_;rintro e w3 ⟨id,l,v,b',f',rfl,fP,na,Am,jy,ll,Zu,iz⟩;obtain⟨va,vcap,hv,_,_⟩:=aN fP;subst hv
 have HU4:jfb (Uns w w3.heap.size (w3.alloc (.cells #[.int .u32 (id:Int),.slice va l.length vcap] 25)) b' f' id (.slice va l.length vcap) l):=by
  have hz:=HZW.o;have iD:=iz.size;have aQ:=ak w3 (.cells #[.int .u32 (id:Int),.slice va l.length vcap] 25);refine ae ⟨ll.kept aQ ll.lt,by omega,(aQ.block _ (by omega)).trans ((iz.block _ (by omega) (by omega)).trans HH0.o),jdH w3 _,(cE.o.trans (iz.below (by omega) (by omega))).trans (aQ.mono (by omega)),?_⟩;rw[hz]at fP;exact fP.kept aQ
 have sk:=ae (Xq Zu);have ZD:=ae na;clear fP ll Zu iz jy na;obtain⟨⟨c0,c1⟩,⟨d0,d1⟩,⟨z0,z1⟩⟩:=HU4.o.facts;have HQL:jfb (w3.heap.size<(w3.alloc (.cells #[.int .u32 (id:Int),.slice va l.length vcap] 25)).heap.size):=ae (by rw[jdi];omega);go_wp2_with fail;generalize hq:w3.heap.size=q at *;generalize hX:w3.alloc (.cells #[.int .u32 (id:Int),.slice va l.length vcap] 25)=X at *;try rw[hX]
 clear hX hq;refine(zL HU4.o.2.2.2.2.2.sf id).mono ?_;rintro e w5 ⟨rfl,br⟩;have HU5:=ae (HU4.o.kept br);clear br;go_wp2_with fail;refine(mJ HU5.o.1 (chk id l)).mono ?_;rintro e w6 ⟨rfl,yC,Qg⟩;have HU6:=ae (HU5.o.call yC Qg);clear yC Qg c0 c1 d0 d1 z0 z1 HU5 HU4;generalize orf f' (chk id l)=F at *;obtain⟨⟨c0,c1⟩,⟨d0,d1⟩,⟨z0,z1⟩⟩:=HU6.o.facts;obtain⟨ra,rcap,r0,r1,r2,r3,r4,r5,r6,_,_⟩:=HU6.o.1.cells2;have Ah:=ae r6;have HQ:=ae HU6.o.2.1;have jbU:¬ w.heap.size=w.heap.size+1:=by omega
 have yH:¬ w.heap.size+1=w.heap.size:=by omega
 have hne3:¬ w.heap.size=q:=by have:=HQ.o;omega
 have jbC:¬ q=w.heap.size:=by have:=HQ.o;omega
 clear r6 r4 r5;by_cases hF:F=0
 ·have hFa:((F:Int) != 0)=false:=by simp[hF]
  have Ps:jfb (b'.length<=100000000):=ae (by have:=Xp sk.o hF;omega)
  have HOKR:jfb (yt b=(id,l,b',0)):=by
   have h:=sk.o;rw[hF]at h;exact ae (Xm h)
  clear hF
  have pw:jfb (∀ m,Calls Tryz.prog 93 #[.slice ra b'.length rcap] (w6.drewN m) fun e w'=>∃ u,e=.returned u/\aD w' (w.heap.size+1) u b'/\Uns w q w' b' F id (.slice va l.length vcap) l/\(w'.cell? ⟨q,0,none⟩=some (.int .u32 (id:Int))/\w'.cell? ⟨q,1,none⟩=some (.slice va l.length vcap))/\(w'.frozen? ⟨w.heap.size,0,none⟩=false/\w'.frozen? ⟨w.heap.size,1,none⟩=false)/\(w'.cell? ⟨w.heap.size,0,none⟩=some (.int .u32 0)/\w'.cell? ⟨w.heap.size,1,none⟩=some (.slice none 0 0))/\w'.cell? ⟨w.heap.size+1,0,none⟩=some (.slice ra b'.length rcap)):=ae (fun m=>by
   have nl:Below w6.heap.size w6 (w6.drewN m):=ar (jdg w6.heap.size w6) m;refine(NS (Ah.o.kept nl) Ps.o).mono ?_;rintro e w' ⟨⟨u,rfl,ou⟩,hb'⟩;have aE:=ai nl hb';have hu:=HU6.o.kept aE;obtain⟨e0,e1,e2⟩:=hu.facts;refine⟨u,rfl,?_,hu,e0,e2,e1,(aE.cell (p:=⟨w.heap.size+1,0,none⟩) HU6.o.1.lt).trans r0⟩;have hz:w.heap.size+1<=(w6.drewN m).heap.size:=jdq (jdG HU6.o.1.lt) nl.size;exact be ou hz)
  go_wp2_with fail
  go_region_held3 (fun w'=>w'.cell? ⟨q,0,none⟩=some (.int .u32 (id:Int))/\w'.cell? ⟨q,1,none⟩=some (.slice va l.length vcap)/\w'.cell? ⟨w.heap.size+1,0,none⟩=some (.slice ra b'.length rcap)) (first | assumption | go_keep) (first
   | (go_at_call 93;refine(pw.o _).mono ?_;rintro e w7 ⟨u7,rfl,o7,hu7,⟨g0,g1⟩,⟨g2,g3⟩,⟨g4,g5⟩,g6⟩;have iy:=ae o7;have HU7:=ae hu7;clear o7 hu7))
  go_wp2_with fail;refine bodyPost_ret (v:=.tuple #[.agg #[.int .u32 (id:Int),.slice va l.length vcap],u7,.int .i64 ((0:Nat):Int)]) (by simp[results,Tryz.results96,go_sem,g4,g5]) rfl ?_;rw[HOKR.o];refine⟨⟨_,_,rfl,(Ed HU7.o.2.2.2.2.2 (by omega) _ _).low (by omega),?_⟩,qd HU7.o.2.2.2.2.1 (jdh _) _ _⟩;exact be (Fr.own (((Fr.refl w.heap.size w7.heap.size w7).set 0 _).set 1 _) iy.o (by omega)) (by omega)
 ·have hFa:((F:Int) != 0)=true:=by simp[hF]
  have HER:=ae (JG sk.o hF);clear hF;go_wp2_with fail;go_region
  go_wp2_with fail;refine bodyPost_ret (v:=.tuple #[.agg #[.int .u32 ((0:Nat):Int),.slice none 0 0],.slice none 0 0,.int .i64 (F:Int)]) (by simp[results,Tryz.results96,go_sem,d0,d1]) rfl ?_;rw[HER.o];exact⟨⟨_,_,rfl,dT.nil _ _,aD.nil _ _⟩,(qd HU6.o.2.2.2.2.1 (jdh _) _ _).drew⟩
end Go.Proofs.YtpljdjmpamjkhaaGreatDoor
