import Derived.Test.YtpljdjmpamjkhaaGreatDoorQas
import Derived.Test.YtpljdjmpamjkhaaGreatDoorQar
set_option linter.unusedVariables false
set_option linter.unusedSimpArgs false
set_option maxRecDepth 100000
set_option maxHeartbeats 8000000
namespace Go.Proofs.YtpljdjmpamjkhaaGreatDoor
open Go.RowKit Go.Lib
theorem FN(a:List Fd)(f:Fd):(f.1<=fd a)↔(f.1=0∨(0<a.length/\f.1<=fd a)):=by
 constructor
 ·intro h
  rcases jfa a.length with h0 | h0
  ·rw[jeI h0]at h
   left
   simpa [fd]using h
  ·exact Or.inr ⟨h0,h⟩
 ·rintro(h | h)
  ·omega
  ·exact h.2
theorem FO{l:List Fd}{k m:Nat}(hm:k=m+1)(h:m<l.length):fd (l.take k)=l[m].1:=by
 subst hm;exact GQ h
theorem sg{w:World}{v:Value}{l:List Fd}(hs:Sf w v l)(id:Nat):Calls Tryz.prog 15 #[.agg #[.int .u32 (id:Int),v]] w fun e w'=>e=.returned (.int .i64 (chk id l:Int))/\Below w.heap.size w w':=by
 obtain⟨a,cap,rfl,aW,bC⟩:=hs.form;have ce:=ae (ak w (.cells #[.int .u32 (id:Int),.slice a l.length cap] 25));have HS:=ae (hs.kept (ak w (.cells #[.int .u32 (id:Int),.slice a l.length cap] 25)));obtain⟨c0,c1⟩:=bx w (.int .u32 (id:Int)) (.slice a l.length cap) 25;have hz:w.heap.size<(w.alloc (.cells #[.int .u32 (id:Int),.slice a l.length cap] 25)).heap.size:=by rw[jel];omega
 clear hs;by_cases h1:id=0∨l.length=0∨8<l.length
 ·have HR:jgf (chk id l=1):=ae (jei h1)
  clear c0 c1 hz HS;by_cases q1:id=0
  ·subst q1
   go_enter Tryz.func15,Tryz.ntmps15
   go_wp2_with fail;go_ret
   rw[HR.o];exact⟨rfl,ce.o⟩
  ·have q1':((id:Int)==0)=false:=by simp[q1]
   by_cases q2:l.length=0
   ·have q2':((l.length:Int)==0)=true:=by simp[q2]
    clear h1 q1 q2;go_enter Tryz.func15,Tryz.ntmps15
    go_wp2_with fail;go_ret
    rw[HR.o];exact⟨rfl,ce.o⟩
   ·have q2':((l.length:Int)==0)=false:=by simp[q2]
    have q3:(l.length:Int) > 8:=(by omega);clear h1 q1 q2;go_enter Tryz.func15,Tryz.ntmps15
    go_wp2_with fail;go_ret
    rw[HR.o];exact⟨rfl,ce.o⟩
 ·have HR:jgf (chk id l=fe (l.take 0) (l.drop 0)):=ae (jeh h1)
  have q1':((id:Int)==0)=false:=jev.2 (by omega);have q2':((l.length:Int)==0)=false:=jev.2 (by omega);have q3:¬ (l.length:Int) > 8:=by omega
  have hl8:l.length<=8:=by omega
  clear h1;generalize chk id l=CH at *;generalize hW:w.alloc (.cells #[.int .u32 (id:Int),.slice a l.length cap] 25)=W at *;go_enter Tryz.func15,Tryz.ntmps15
  go_wp2_with fail;try rw[hW]
  clear hW;go_loopw [3] (fun i wr=>∃ k:Nat,k<=l.length/\i=.int .i64 (k:Int)/\CH=fe (l.take k) (l.drop k)/\Below W.heap.size W wr) (fun i _=>l.length-(intOf i).toNat)
  case atStart=>exact⟨0,by omega,rfl,HR.o,jej _ _⟩
  case round =>
   obtain⟨k,hk,rfl,kT,az⟩:=hrel;have HF:=ae kT;have HB:=ae az;have bH:=az.size;clear kT az HR;by_cases aB:k<l.length
   ·obtain⟨b,off,rfl,hb,x0,x1,x2,x3⟩:=(HS.o.kept HB.o).at aB
    have HT:=ae (HF.o.trans (LC aB));have hlt':(k:Int)<(l.length:Int):=(by omega);have hkc:(k:Int)<=(cap:Int):=(by omega);have jco:(0:Int)<=(k:Int):=(by omega);have hktn:((k:Int)).toNat=k:=(by omega);have hdcap:¬ cap=0:=(by omega);have cP:=ae (HS.o.take (k:=k) (by omega));have vO:(l.take k).length=k:=by rw[jeq];omega
    generalize hf:l[k]=f at *;obtain⟨f0,f1,f2,f3⟩:=f;have lP:jgf (gq (l.take k) (f0,f1,f2,f3)=if f0<=fd (l.take k) then 81 else if wt (l.take k) f1=false then 80 else if ld f2=false then 10 else if (f3 != decide ((l.take k).length=0))=true∨((l.take k).length=0/\f2=2) then 82 else 0):=ae rfl;rw[vO]at lP;simp only at *;have d1:=(HB.o.cell (p:=⟨w.heap.size,1,none⟩) hz).trans c1;have qJ:=ak wr (.cells #[.int .u32 (f0:Int),.string f1,.int .u8 (f2:Int),.bool f3] 81);have e1:=(qJ.cell (p:=⟨w.heap.size,1,none⟩) (jeH hz bH)).trans d1;obtain⟨g0,g1,g2,g3⟩:=jg wr (.int .u32 (f0:Int)) (.string f1) (.int .u8 (f2:Int)) (.bool f3) 81;have aN:=ae (HB.o.trans (qJ.mono bH));have jG:wr.heap.size<(wr.alloc (.cells #[.int .u32 (f0:Int),.string f1,.int .u8 (f2:Int),.bool f3] 81)).heap.size:=by rw[jel];omega
    have pV:=ae ((cP.o.kept HB.o).kept qJ);have Ro:jgf (∀ U,Below (wr.alloc (.cells #[.int .u32 (f0:Int),.string f1,.int .u8 (f2:Int),.bool f3] 81)).heap.size (wr.alloc (.cells #[.int .u32 (f0:Int),.string f1,.int .u8 (f2:Int),.bool f3] 81)) U->Calls Tryz.prog 50 #[.slice (some ⟨b,off,none⟩) k cap,.string f1] U fun e w'=>e=.returned (.bool (pp (l.take k) f1))/\w'=U):=ae (fun U hU=>XL (pV.o.kept hU) f1);generalize hV:wr.alloc (.cells #[.int .u32 (f0:Int),.string f1,.int .u8 (f2:Int),.bool f3] 81)=V at *;have et:jgf (∀ w',Below V.heap.size V w'->(w'.cell? ⟨w.heap.size,1,none⟩=some (.slice (some ⟨b,off,none⟩) l.length cap)/\w'.cell? ⟨wr.heap.size,1,none⟩=some (.string f1))/\w'.cell? ⟨wr.heap.size,2,none⟩=some (.int .u8 (f2:Int))/\w'.cell? ⟨wr.heap.size,3,none⟩=some (.bool f3)):=ae (fun w' h=>⟨⟨(h.cell (p:=⟨w.heap.size,1,none⟩) (show w.heap.size<_ by omega)).trans e1,(h.cell (p:=⟨wr.heap.size,1,none⟩) jG).trans g1⟩,(h.cell (p:=⟨wr.heap.size,2,none⟩) jG).trans g2,(h.cell (p:=⟨wr.heap.size,3,none⟩) jG).trans g3⟩)
    have MH:jgf (∀ U,Below V.heap.size V U->Calls Tryz.prog 49 #[.string f1] U fun e w'=>e=.returned (.bool (named f1))/\Below V.heap.size V w'/\(w'.cell? ⟨w.heap.size,1,none⟩=some (.slice (some ⟨b,off,none⟩) l.length cap)/\w'.cell? ⟨wr.heap.size,1,none⟩=some (.string f1))):=ae (fun U hU=>(NR f1 U).mono (by
     rintro e w2 ⟨rfl,aE⟩;have aS:=ai hU aE;exact⟨rfl,aS,(et.o _ aS).1⟩))
    have jaJ:wt (l.take k) f1=(named f1 && !pp (l.take k) f1):=rfl;have lD:=ae jaJ;have HID:=ae (FN (l.take k) (f0,f1,f2,f3));rw[vO]at HID
    have pU:jgf (∀ m,k=m+1->∃ la:Nat,fd (l.take k)=la/\V.cell? ⟨b,off+m*4,none⟩=some (.int .u32 (la:Int))):=ae (fun m hm=>by
     obtain⟨b',off',hbe,_,y0,_⟩:=(HS.o.kept aN.o).at (k:=m) (by omega);cases hbe
     exact⟨_,FO hm (by omega),y0⟩)
    clear jaJ qJ g1 g2 g3 hf vO pV cP c0 c1;generalize gq (l.take k) (f0,f1,f2,f3)=R at *;by_cases ch:f0=0
    ·have hR:R=81:=by rw[lP.o,jei (HID.o.2 (Or.inl ch))]
     have hz0':((f0:Int)==0)=true:=by rw[ch];rfl
     rw[hR,jeh (by omega)]at HT;clear hR lP HID ch pU;go_wp2_with fail;try rw[hV]
     clear hV;go_quiet (fail)
     go_wp2_with fail;go_ret
     rw[HT.o];exact⟨rfl,ar (ai ce.o aN.o) _⟩
    ·have hz0':((f0:Int)==0)=false:=jev.2 (by omega)
     by_cases Gt:0<k/\f0<=fd (l.take k)
     ·have hR:R=81:=by rw[lP.o,jei (HID.o.2 (Or.inr Gt))]
      obtain⟨qB,pt⟩:=Gt;obtain⟨m,hm⟩:∃ m,k=m+1:=⟨k-1,by omega⟩;obtain⟨la,Qp,eX⟩:=pU.o m hm;rw[Qp]at pt;have t1:decide ((k:Int) > 0)=true:=jeB (by omega);have t1':(k:Int) > 0:=(by omega);have t1n:decide (0<k)=true:=jeB (by omega);have t1m:0<k:=(by omega);have t2:IntKind.i64.wrap ((k:Int)-1)=(m:Int):=by rw[jeV];omega
      have t3:(0:Int)<=(m:Int):=(by omega);have t4:(m:Int)<(l.length:Int):=(by omega);have t5:((m:Int)).toNat=m:=(by omega);have t6:decide ((f0:Int)<=(la:Int))=true:=jeB (by omega);have t6':(f0:Int)<=(la:Int):=(by omega);have t7:(k:Int)-1=(m:Int):=(by omega);rw[hR,jeh (by omega)]at HT;clear hR lP HID ch pU hm Qp qB pt;go_wp2_with fail;try rw[hV]
      clear hV;go_quiet (fail)
      go_wp2_with fail;go_ret
      rw[HT.o];exact⟨rfl,ar (ai ce.o aN.o) _⟩
     ·rw[jeh (fun h=>by rcases HID.o.1 h with h | h;(· exact ch h);(· exact Gt h))]at lP
      have VE:decide ((k:Int) > 0)=false/\k=0∨decide ((k:Int) > 0)=true/\∃ m la:Nat,k=m+1/\¬ f0<=la/\V.cell? ⟨b,off+m*4,none⟩=some (.int .u32 (la:Int)):=by
       by_cases qB:k=0
       ·exact Or.inl ⟨jeu (by omega),qB⟩
       ·obtain⟨m,hm⟩:∃ m,k=m+1:=⟨k-1,by omega⟩
        obtain⟨la,Qp,eX⟩:=pU.o m hm;exact Or.inr ⟨jeB (by omega),m,la,hm,fun h=>Gt ⟨by omega,by rw[Qp];exact h⟩,eX⟩
      have HK0:jgf (decide (k=0)=((k:Int)==0)):=ae (by
       by_cases h:k=0
       ·rw[jeB h,h];rfl
       ·rw[jeu h,jev.2 (by omega)])
      clear Gt ch HID pU;rcases VE with ⟨t1,qB⟩ | ⟨t1,m,la,hm,pt,eX⟩
      ·have t1':¬ (k:Int) > 0:=by omega
       have t1n:decide (0<k)=false:=jeu (by omega);have t1m:¬ 0<k:=(by omega);have HKZ:=ae qB;clear qB;go_wp2_with fail;try rw[hV]
       clear hV;go_quiet (fail)
       obtain⟨⟨_,g1⟩,_⟩:=et.o V (jej _ _);go_wp2_with fail;cases hnm:named f1 with
       | false =>
        rw[hnm]at MH lD;have hR:R=80:=by rw[lP.o,lD.o];rfl
        rw[hR,jeh (by omega)]at HT;clear hR lP hnm;have sN:∀ s:bQ (fun x=>Below V.heap.size V x),s.w.cell? ⟨wr.heap.size,1,none⟩=some (.string f1):=fun s=>(et.o s.w s.ok).1.2
        have nw:∀ s:bQ (fun x=>Below V.heap.size V x),s.w.cell? ⟨w.heap.size,1,none⟩=some (.slice (some ⟨b,off,none⟩) l.length cap):=fun s=>(et.o s.w s.ok).1.1
        haveI:Nonempty (bQ (fun x=>Below V.heap.size V x)):=⟨bQ.mk V (jej _ _)⟩
        refine cz (S:=fun x=>Below V.heap.size V x) (by kernel_rfl) (by kernel_rfl) (ar (jej _ _) _).drew ?_;repeat (go_big_quiet_step (first | (go_at_call 49;exact(MH.o _ (bQ.ok _)).mono (fun e w' h=>⟨h.1,bQ.mk w' h.2.1,rfl⟩)) | (go_at_call 50;exact(Ro.o _ (bQ.ok _)).mono (fun e w' h=>⟨h.1,_,h.2⟩))))
        refine wpQuiet_nil ?_;rintro _ ⟨s2,rfl⟩;obtain⟨w2,pR⟩:∃ x,x=s2.w:=⟨_,rfl⟩;have aE:=s2.ok;rw[← pR]at aE ⊢;have fX:=ae aE;clear pR aE sN nw;go_wp2_with fail;go_ret
        rw[HT.o];exact⟨rfl,by first | exact ai (ai ce.o aN.o) fX.o | exact ar (ai (ai ce.o aN.o) fX.o) _⟩
       | true =>
        rw[hnm]at MH lD;clear hnm;cases hha:pp (l.take k) f1 with
        | true =>
         rw[hha]at Ro lD;have hR:R=80:=by rw[lP.o,lD.o];rfl
         rw[hR,jeh (by omega)]at HT;clear hR lP hha;have sN:∀ s:bQ (fun x=>Below V.heap.size V x),s.w.cell? ⟨wr.heap.size,1,none⟩=some (.string f1):=fun s=>(et.o s.w s.ok).1.2
         have nw:∀ s:bQ (fun x=>Below V.heap.size V x),s.w.cell? ⟨w.heap.size,1,none⟩=some (.slice (some ⟨b,off,none⟩) l.length cap):=fun s=>(et.o s.w s.ok).1.1
         haveI:Nonempty (bQ (fun x=>Below V.heap.size V x)):=⟨bQ.mk V (jej _ _)⟩
         refine cz (S:=fun x=>Below V.heap.size V x) (by kernel_rfl) (by kernel_rfl) (ar (jej _ _) _).drew ?_;repeat (go_big_quiet_step (first | (go_at_call 49;exact(MH.o _ (bQ.ok _)).mono (fun e w' h=>⟨h.1,bQ.mk w' h.2.1,rfl⟩)) | (go_at_call 50;exact(Ro.o _ (bQ.ok _)).mono (fun e w' h=>⟨h.1,_,h.2⟩))))
         refine wpQuiet_nil ?_;rintro _ ⟨s2,rfl⟩;obtain⟨w2,pR⟩:∃ x,x=s2.w:=⟨_,rfl⟩;have aE:=s2.ok;rw[← pR]at aE ⊢;have fX:=ae aE;clear pR aE sN nw;go_wp2_with fail;go_ret
         rw[HT.o];exact⟨rfl,by first | exact ai (ai ce.o aN.o) fX.o | exact ar (ai (ai ce.o aN.o) fX.o) _⟩
        | false =>
         rw[hha]at Ro lD;rw[lD.o,jeh (by simp)]at lP;clear hha;have sN:∀ s:bQ (fun x=>Below V.heap.size V x),s.w.cell? ⟨wr.heap.size,1,none⟩=some (.string f1):=fun s=>(et.o s.w s.ok).1.2
         have nw:∀ s:bQ (fun x=>Below V.heap.size V x),s.w.cell? ⟨w.heap.size,1,none⟩=some (.slice (some ⟨b,off,none⟩) l.length cap):=fun s=>(et.o s.w s.ok).1.1
         haveI:Nonempty (bQ (fun x=>Below V.heap.size V x)):=⟨bQ.mk V (jej _ _)⟩
         refine cz (S:=fun x=>Below V.heap.size V x) (by kernel_rfl) (by kernel_rfl) (ar (jej _ _) _).drew ?_;repeat (go_big_quiet_step (first | (go_at_call 49;exact(MH.o _ (bQ.ok _)).mono (fun e w' h=>⟨h.1,bQ.mk w' h.2.1,rfl⟩)) | (go_at_call 50;exact(Ro.o _ (bQ.ok _)).mono (fun e w' h=>⟨h.1,_,h.2⟩))))
         refine wpQuiet_nil ?_;rintro _ ⟨s2,rfl⟩;obtain⟨w2,pR⟩:∃ x,x=s2.w:=⟨_,rfl⟩;have aE:=s2.ok;rw[← pR]at aE ⊢;have fX:=ae aE;clear pR aE sN nw;obtain⟨_,y2,y3⟩:=et.o _ fX.o;by_cases yg:ld f2=false
         ·rw[jei yg]at lP
          rw[lP.o,jeh (by omega)]at HT
          have hkd':f2=0∨3<f2:=by
           unfold ld at yg;have:=of_decide_eq_false yg;omega
          clear lP yg;rcases hkd' with q | q
          ·have q1:(f2:Int)<1:=by omega
           clear q;go_wp2_with fail;go_ret
           rw[HT.o];exact⟨rfl,by first | exact ai (ai ce.o aN.o) fX.o | exact ar (ai (ai ce.o aN.o) fX.o) _⟩
          ·have q1:¬ (f2:Int)<1:=by omega
           have q2:(f2:Int) > 3:=(by omega);clear q;go_wp2_with fail;go_ret
           rw[HT.o];exact⟨rfl,by first | exact ai (ai ce.o aN.o) fX.o | exact ar (ai (ai ce.o aN.o) fX.o) _⟩
         ·rw[jeh yg]at lP
          have hkd':1<=f2/\f2<=3:=by
           unfold ld at yg;simpa using yg
          have q1:¬ (f2:Int)<1:=(by omega);have q2:¬ (f2:Int) > 3:=(by omega);clear yg hkd';have t0:((k:Int)==0)=true:=by rw[HKZ.o];rfl
          cases f3
          ·have hR:R=82:=by rw[lP.o,jei (Or.inl (by rw[HKZ.o];rfl))]
           rw[hR,jeh (by omega)]at HT;clear hR lP;go_wp2_with fail;go_ret
           rw[HT.o];exact⟨rfl,by first | exact ai (ai ce.o aN.o) fX.o | exact ar (ai (ai ce.o aN.o) fX.o) _⟩
          ·by_cases h2:f2=2
           ·have hR:R=82:=by rw[lP.o,jei (Or.inr ⟨HKZ.o,h2⟩)]
            have h2':((f2:Int)==2)=true:=by rw[h2];rfl
            rw[hR,jeh (by omega)]at HT;clear hR lP h2;go_wp2_with fail;go_ret
            rw[HT.o];exact⟨rfl,by first | exact ai (ai ce.o aN.o) fX.o | exact ar (ai (ai ce.o aN.o) fX.o) _⟩
           ·have hR:R=0:=by rw[lP.o,jeh (fun h=>by rcases h with h | ⟨_,h⟩;(· rw[HKZ.o]at h;cases h);(· exact h2 h))]
            have h2':((f2:Int)==2)=false:=jev.2 (by omega);rw[jei hR]at HT;clear hR lP h2;go_wp2_with fail;go_roundw
            case rel=>exact⟨k+1,by omega,by go_num,HT.o,by first | exact ai aN.o fX.o | exact ar (ai aN.o fX.o) _⟩
            case measure=>simp[intOf];omega
      ·have t1':(k:Int) > 0:=by omega
       have t1n:decide (0<k)=true:=jeB (by omega);have t1m:0<k:=(by omega);have t2:IntKind.i64.wrap ((k:Int)-1)=(m:Int):=by rw[jeV];omega
       have t3:(0:Int)<=(m:Int):=(by omega);have t4:(m:Int)<(l.length:Int):=(by omega);have t5:((m:Int)).toNat=m:=(by omega);have t6:decide ((f0:Int)<=(la:Int))=false:=jeu (by omega);have t6':¬ (f0:Int)<=(la:Int):=(by omega);have t7:(k:Int)-1=(m:Int):=(by omega);clear hm pt;go_wp2_with fail;try rw[hV]
       clear hV;go_quiet (fail)
       obtain⟨⟨_,g1⟩,_⟩:=et.o V (jej _ _);go_wp2_with fail;cases hnm:named f1 with
       | false =>
        rw[hnm]at MH lD;have hR:R=80:=by rw[lP.o,lD.o];rfl
        rw[hR,jeh (by omega)]at HT;clear hR lP hnm;have sN:∀ s:bQ (fun x=>Below V.heap.size V x),s.w.cell? ⟨wr.heap.size,1,none⟩=some (.string f1):=fun s=>(et.o s.w s.ok).1.2
        have nw:∀ s:bQ (fun x=>Below V.heap.size V x),s.w.cell? ⟨w.heap.size,1,none⟩=some (.slice (some ⟨b,off,none⟩) l.length cap):=fun s=>(et.o s.w s.ok).1.1
        haveI:Nonempty (bQ (fun x=>Below V.heap.size V x)):=⟨bQ.mk V (jej _ _)⟩
        refine cz (S:=fun x=>Below V.heap.size V x) (by kernel_rfl) (by kernel_rfl) (ar (jej _ _) _).drew ?_;repeat (go_big_quiet_step (first | (go_at_call 49;exact(MH.o _ (bQ.ok _)).mono (fun e w' h=>⟨h.1,bQ.mk w' h.2.1,rfl⟩)) | (go_at_call 50;exact(Ro.o _ (bQ.ok _)).mono (fun e w' h=>⟨h.1,_,h.2⟩))))
        refine wpQuiet_nil ?_;rintro _ ⟨s2,rfl⟩;obtain⟨w2,pR⟩:∃ x,x=s2.w:=⟨_,rfl⟩;have aE:=s2.ok;rw[← pR]at aE ⊢;have fX:=ae aE;clear pR aE sN nw;go_wp2_with fail;go_ret
        rw[HT.o];exact⟨rfl,by first | exact ai (ai ce.o aN.o) fX.o | exact ar (ai (ai ce.o aN.o) fX.o) _⟩
       | true =>
        rw[hnm]at MH lD;clear hnm;cases hha:pp (l.take k) f1 with
        | true =>
         rw[hha]at Ro lD;have hR:R=80:=by rw[lP.o,lD.o];rfl
         rw[hR,jeh (by omega)]at HT;clear hR lP hha;have sN:∀ s:bQ (fun x=>Below V.heap.size V x),s.w.cell? ⟨wr.heap.size,1,none⟩=some (.string f1):=fun s=>(et.o s.w s.ok).1.2
         have nw:∀ s:bQ (fun x=>Below V.heap.size V x),s.w.cell? ⟨w.heap.size,1,none⟩=some (.slice (some ⟨b,off,none⟩) l.length cap):=fun s=>(et.o s.w s.ok).1.1
         haveI:Nonempty (bQ (fun x=>Below V.heap.size V x)):=⟨bQ.mk V (jej _ _)⟩
         refine cz (S:=fun x=>Below V.heap.size V x) (by kernel_rfl) (by kernel_rfl) (ar (jej _ _) _).drew ?_;repeat (go_big_quiet_step (first | (go_at_call 49;exact(MH.o _ (bQ.ok _)).mono (fun e w' h=>⟨h.1,bQ.mk w' h.2.1,rfl⟩)) | (go_at_call 50;exact(Ro.o _ (bQ.ok _)).mono (fun e w' h=>⟨h.1,_,h.2⟩))))
         refine wpQuiet_nil ?_;rintro _ ⟨s2,rfl⟩;obtain⟨w2,pR⟩:∃ x,x=s2.w:=⟨_,rfl⟩;have aE:=s2.ok;rw[← pR]at aE ⊢;have fX:=ae aE;clear pR aE sN nw;go_wp2_with fail;go_ret
         rw[HT.o];exact⟨rfl,by first | exact ai (ai ce.o aN.o) fX.o | exact ar (ai (ai ce.o aN.o) fX.o) _⟩
        | false =>
         rw[hha]at Ro lD;rw[lD.o,jeh (by simp)]at lP;clear hha;have sN:∀ s:bQ (fun x=>Below V.heap.size V x),s.w.cell? ⟨wr.heap.size,1,none⟩=some (.string f1):=fun s=>(et.o s.w s.ok).1.2
         have nw:∀ s:bQ (fun x=>Below V.heap.size V x),s.w.cell? ⟨w.heap.size,1,none⟩=some (.slice (some ⟨b,off,none⟩) l.length cap):=fun s=>(et.o s.w s.ok).1.1
         haveI:Nonempty (bQ (fun x=>Below V.heap.size V x)):=⟨bQ.mk V (jej _ _)⟩
         refine cz (S:=fun x=>Below V.heap.size V x) (by kernel_rfl) (by kernel_rfl) (ar (jej _ _) _).drew ?_;repeat (go_big_quiet_step (first | (go_at_call 49;exact(MH.o _ (bQ.ok _)).mono (fun e w' h=>⟨h.1,bQ.mk w' h.2.1,rfl⟩)) | (go_at_call 50;exact(Ro.o _ (bQ.ok _)).mono (fun e w' h=>⟨h.1,_,h.2⟩))))
         refine wpQuiet_nil ?_;rintro _ ⟨s2,rfl⟩;obtain⟨w2,pR⟩:∃ x,x=s2.w:=⟨_,rfl⟩;have aE:=s2.ok;rw[← pR]at aE ⊢;have fX:=ae aE;clear pR aE sN nw;obtain⟨_,y2,y3⟩:=et.o _ fX.o;by_cases yg:ld f2=false
         ·rw[jei yg]at lP
          rw[lP.o,jeh (by omega)]at HT
          have hkd':f2=0∨3<f2:=by
           unfold ld at yg;have:=of_decide_eq_false yg;omega
          clear lP yg;rcases hkd' with q | q
          ·have q1:(f2:Int)<1:=by omega
           clear q;go_wp2_with fail;go_ret
           rw[HT.o];exact⟨rfl,by first | exact ai (ai ce.o aN.o) fX.o | exact ar (ai (ai ce.o aN.o) fX.o) _⟩
          ·have q1:¬ (f2:Int)<1:=by omega
           have q2:(f2:Int) > 3:=(by omega);clear q;go_wp2_with fail;go_ret
           rw[HT.o];exact⟨rfl,by first | exact ai (ai ce.o aN.o) fX.o | exact ar (ai (ai ce.o aN.o) fX.o) _⟩
         ·rw[jeh yg]at lP
          have hkd':1<=f2/\f2<=3:=by
           unfold ld at yg;simpa using yg
          have q1:¬ (f2:Int)<1:=(by omega);have q2:¬ (f2:Int) > 3:=(by omega);clear yg hkd';have t0:((k:Int)==0)=false:=jev.2 (by omega);cases f3
          ·have hR:R=0:=by rw[lP.o,jeh (fun h=>by rcases h with h | ⟨h,_⟩;(· rw[jeu (show ¬ k=0 by omega)]at h;cases h);(· omega))]
           rw[jei hR]at HT;clear hR lP;go_wp2_with fail;go_roundw
           case rel=>exact⟨k+1,by omega,by go_num,HT.o,by first | exact ai aN.o fX.o | exact ar (ai aN.o fX.o) _⟩
           case measure=>simp[intOf];omega
          ·have hR:R=82:=by rw[lP.o,jei (Or.inl (by rw[jeu (show ¬ k=0 by omega)];rfl))]
           rw[hR,jeh (by omega)]at HT;clear hR lP;go_wp2_with fail;go_ret
           rw[HT.o];exact⟨rfl,by first | exact ai (ai ce.o aN.o) fX.o | exact ar (ai (ai ce.o aN.o) fX.o) _⟩
   ·obtain rfl:k=l.length:=by omega
    have gi:¬ ((l.length:Nat):Int)<(l.length:Int):=(by omega);have HT:=ae (HF.o.trans (Rx l));clear HF;have d1:=(HB.o.cell (p:=⟨w.heap.size,1,none⟩) hz).trans c1;go_wp2_with fail;go_ret
    rw[HT.o];exact⟨rfl,ai ce.o HB.o⟩
def RawSt(T:Nat)(W:World)(p:Nat)(b:List Nat)(f:Nat)(a:Option Addr)(cap:Nat):Prop :=
 W.heap[p]?=some (.cells #[.slice a b.length cap,.int .i64 (f:Int)] T (0,0))/\b.length<=cap/\cap<=maxLen/\Bs b/\(a=none->cap=0) /\
  (0<b.length->∃ g off,a=some ⟨g,off,none⟩/\g<p/\∀ j (h:j<b.length),W.cell? ⟨g,off+j,none⟩=some (.int .u8 (b[j]:Int)))
theorem St.cells2{T:Nat}{W:World}{p:Nat}{b:List Nat}{f:Nat}(h:St T W p b f) :
  ∃ a cap,W.cell? ⟨p,0,none⟩=some (.slice a b.length cap)/\W.cell? ⟨p,1,none⟩=some (.int .i64 (f:Int))/\W.frozen? ⟨p,0,none⟩=false/\W.frozen? ⟨p,1,none⟩=false /\
   b.length<=cap/\cap<=9223372036854775807/\Sv W (.slice a b.length cap) (aF .u8 b)/\(a=none->cap=0)/\RawSt T W p b f a cap:=by
 have aB:=h.lt;obtain⟨a,cap,h1,h2,h3,h4,h5,h6⟩:=h
 have gX:Sv W (.slice a b.length cap) (aF .u8 b):=by
  refine⟨a,cap,by rw[ap],by rw[ap];omega,h3,h5,fun h0=>?_⟩;rw[ap]at h0;obtain⟨g,off,e,hg,hc⟩:=h6 h0;refine⟨g,off,e,by omega,fun j x hj=>?_⟩
  have hj':j<b.length:=by
   have:=(List.getElem?_eq_some_iff.1 hj).1;rwa[ap]at this
  rw[bU hj']at hj;rw[hc j hj'];exact hj
 exact⟨a,cap,by rw[ay h1];rfl,by rw[ay h1];rfl,by simp[World.frozen?,h1],by simp[World.frozen?,h1],h2,by unfold maxLen at h3;omega,gX,h5,h1,h2,h3,h4,h5,h6⟩
theorem FP{b b1:List Nat}{f i:Nat}{l:List Fd}(h:Rds DD b f (i,l) b1 0):Rds di b f (i,l) b1 (chk i l) :=
 h.bind ⟨fun _=>rfl,fun h=>absurd rfl h⟩
theorem St.make{T:Nat}{w W:World}{a:Option Addr}{n cap:Nat}{b:List Nat}(hs:Sv w (.slice a n cap) (aF .u8 b))(hb:Bs b)(hB:Below w.heap.size w W) :
  St T (W.alloc (.cells #[.slice a b.length cap,.int .i64 ((0:Nat):Int)] T)) W.heap.size b 0:=by
 obtain⟨a',cap',e,h1,h2,h3,h4⟩:=hs;simp only[Value.slice.injEq]at e;obtain⟨rfl,rfl,rfl⟩:=e;rw[ap]at *;refine⟨a,cap,jeK W _,h1,h2,hb,h3,fun h0=>?_⟩;obtain⟨g,off,e,hg,hc⟩:=h4 h0;refine⟨g,off,e,jeH hg hB.size,fun j hj=>?_⟩;have hB':Below w.heap.size w (W.alloc (.cells #[.slice a b.length cap,.int .i64 ((0:Nat):Int)] T)):=hB.alloc hB.size _;rw[hB'.cell (p:=⟨g,off+j,none⟩) hg];exact hc j _ (bU hj)
theorem PR{w:World}{v:Value}{l:List Nat}(hs:Sv w v (aF .u8 l))(hl:l.length<=100000000) :
  Calls Tryz.prog 93 #[v] w (dA w l):=by
 have HS:=ae hs;obtain⟨ad,cap,rfl,h1,h2,h3,_⟩:=hs;rw[ap]at *;cases ad with
 | none =>
  have hc:=h3 rfl;subst hc;have qC:l=[]:=jeI (by omega);subst qC;have hq:(binOp .eql 30 (.slice none 0 0) (.slice none 0 0)).run Tryz.prog w=.ok (.bool true) w:=jfQ w 30 5 none 0 0 0 0 Tryz.underlying30;go_enter Tryz.func93,Tryz.ntmps93
  go_wp2_with fail;go_ret
  exact⟨⟨_,rfl,aD.nil _ _⟩,jej _ _⟩
 | some ad =>
  have HN:=ae (qQ w);have gj:=ae (HS.o.kept (ak w (.cells #[] 5)));clear h3;have hq:(binOp .eql 30 (.slice (some ad) l.length cap) (.slice none 0 0)).run Tryz.prog w=.ok (.bool false) w:=jfQ w 30 5 (some ad) l.length cap 0 0 Tryz.underlying30;go_enter Tryz.func93,Tryz.ntmps93
  go_wp2_with (first | (at_builtin;refine ax rfl _ _ rfl w.heap.size _ _ [] l rfl ?q1 rfl ?q2 ?c1 ?c2 ?_))
  case q1=>exact HN.o
  case q2=>exact gj.o
  case c1=>simp;omega
  case c2=>rw[jel];omega
  intro v3 w3 o3 aS;have dd:=ae o3;have bN:=ae ((ak w (.cells #[] 5)).trans aS);clear o3 aS;go_wp2_with fail;go_ret
  exact⟨⟨_,rfl,dd.o⟩,bN.o⟩
def yZ(b:List Nat):Nat×List Fd×List Nat×Nat :=
 match di b with
 | .ok ((id,l),r)=>(id,l,r,0)
 | .error c=>(0,[],[],c)
theorem Yt{b b':List Nat}{id:Nat}{l:List Fd}(h:Rds di b 0 (id,l) b' 0):yZ b=(id,l,b',0):=by
 have e:=h.1 rfl;rw[jei rfl]at e;unfold yZ;rw[e]
theorem Kr{b b':List Nat}{f id:Nat}{l:List Fd}(h:Rds di b 0 (id,l) b' f)(hf:f≠0):yZ b=(0,[],[],f):=by
 have e:=h.1 rfl;rw[jeh hf]at e;unfold yZ;rw[e]
def Yu(w:World)(R:Nat×List Fd×List Nat×Nat)(e:Ending)(w':World):Prop :=
 (∃ v u,e=.returned (.tuple #[.agg #[.int .u32 (R.1:Int),v],u,.int .i64 (R.2.2.2:Int)])/\ea w' w.heap.size v R.2.1/\aD w' w.heap.size u R.2.2.1)/\Below w.heap.size w w'
def Shr{α : Type}(m:List Nat->Except Nat (α×List Nat)):Prop:=∀ b x r,m b=.ok (x,r)->r.length<=b.length
theorem Shr.bind{α β : Type}{m:List Nat->Except Nat (α×List Nat)}{k:α->List Nat->Except Nat (β×List Nat)}(h:Shr m)(hk:∀ x,Shr (k x)):Shr (aC m k):=by
 intro b y r e;cases hm:m b with
 | error c=>rw[cE hm]at e;cases e
 | ok q =>
  obtain⟨x,s⟩:=q;rw[db hm]at e;exact jet (hk x s y r e) (h b x s hm)
theorem Shr.pure{α β : Type}(g:α->β)(x:α):Shr (fun r=>.ok (g x,r)):=by
 intro b y r e;cases e
 exact jek _
theorem po(room:Nat):Shr (iy room):=by
 intro b x r e;unfold iy at e;split at e
 ·cases e
 ·split at e
  ·cases e
  ·cases e
   rw[jeR];omega
theorem PS(n:Nat):Shr (textR n):=by
 intro b x r e;unfold textR at e;split at e
 ·cases e
 ·cases e
  rw[jeR];omega
theorem Yv:Shr uX:=(po _).bind fun i=>((po _).bind fun n=>PS n).bind fun s=>(po _).bind fun k=>(po _).bind fun n=>Shr.pure (fun _:Nat=>(i,s,k,decide (n=1))) 0
theorem FQ:∀ n,Shr (li n)
 | 0=>Shr.pure (fun _:Nat=>[]) 0
 | n+1=>(FQ n).bind fun l=>Yv.bind fun f=>Shr.pure (fun _:Nat=>l++[f]) 0
theorem Ks:Shr di :=
 ((po _).bind fun i=>(po _).bind fun n=>(FQ n).bind fun l=>Shr.pure (fun _:Nat=>(i,l)) 0).bind fun s=>by
  intro b x r e;simp only at e;split at e
  ·cases e;exact jek _
  ·cases e
theorem Yw{b b1:List Nat}{F:Nat}{x:Nat×List Fd}(h:Rds di b 0 x b1 F)(hF:F=0):b1.length<=b.length:=by
 have e:=h.1 rfl;rw[jei hF]at e;exact Ks _ _ _ e
def Uns(w:World)(q:Nat)(W:World)(b:List Nat)(f id:Nat)(v:Value)(l:List Fd):Prop :=
 St 200 W (w.heap.size+1) b f/\w.heap.size+1<q/\W.heap[w.heap.size]?=some (.cells #[.int .u32 0,.slice none 0 0] 25 (0,0)) /\
 W.heap[q]?=some (.cells #[.int .u32 (id:Int),v] 25 (0,0))/\Below w.heap.size w W/\ea W (w.heap.size+2) v l
theorem Uns.size{w W:World}{q f id:Nat}{b:List Nat}{v:Value}{l:List Fd}(h:Uns w q W b f id v l):q<W.heap.size:=(Array.getElem?_eq_some_iff.1 h.2.2.2.1).1
theorem Uns.kept{w W W':World}{q f id:Nat}{b:List Nat}{v:Value}{l:List Fd}(h:Uns w q W b f id v l)(hb:Below W.heap.size W W'):Uns w q W' b f id v l:=by
 have hz:=h.size;obtain⟨h1,h2,h3,h4,h5,h6⟩:=h;exact⟨h1.kept hb h1.lt,h2,(hb.block _ (by omega)).trans h3,(hb.block _ (by omega)).trans h4,h5.trans (hb.mono h5.size),h6.kept hb⟩
theorem Uns.call{w W W':World}{q f f' id:Nat}{b b':List Nat}{v:Value}{l:List Fd}(h:Uns w q W b f id v l)(hs:St 200 W' (w.heap.size+1) b' f')(hf:Fr (w.heap.size+1) W.heap.size W W'):Uns w q W' b' f' id v l:=by
 have hz:=h.size;obtain⟨h1,h2,h3,h4,h5,h6⟩:=h;exact⟨hs,h2,(hf.block _ (by omega) (by omega)).trans h3,(hf.block _ (by omega) (by omega)).trans h4,h5.trans (hf.below (by omega) h5.size),Fr.own hf h6 (by omega)⟩
theorem Uns.facts{w W:World}{q f id:Nat}{b:List Nat}{v:Value}{l:List Fd}(h:Uns w q W b f id v l) :
  (W.cell? ⟨q,0,none⟩=some (.int .u32 (id:Int))/\W.cell? ⟨q,1,none⟩=some v) /\
  (W.cell? ⟨w.heap.size,0,none⟩=some (.int .u32 0)/\W.cell? ⟨w.heap.size,1,none⟩=some (.slice none 0 0)) /\
  (W.frozen? ⟨w.heap.size,0,none⟩=false/\W.frozen? ⟨w.heap.size,1,none⟩=false):=by
 obtain⟨h1,h2,h3,h4,h5⟩:=h;refine⟨⟨?_,?_⟩,⟨?_,?_⟩,⟨?_,?_⟩⟩<;>first | (rw[ay h4];rfl) | (rw[ay h3];rfl) | (simp[World.frozen?,h3];done)
theorem Yx{b b1:List Nat}{f1 i:Nat}{l:List Fd}(h:Rds DD b 0 (i,l) b1 f1):Rds di b 0 (i,l) b1 (orf f1 (chk i l)):=by
 unfold orf;by_cases hf:f1=0
 ·rw[jei hf];subst hf;exact FP h
 ·rw[jeh hf];exact h.bind (Rds.dead (i,l) hf)
theorem Kt{w:World}{v:Value}{b:List Nat}(hs:Sv w v (aF .u8 b))(hb:Bs b)(hl:b.length<=90000000) :
  Calls Tryz.prog 96 #[v] w (Yu w (yZ b)):=by
 obtain⟨a,cap,rfl,aW,bC⟩:=hs.form1;rw[ap]at *;have HS0:=ae (St.make (T:=200) hs hb (ak w (.cells #[.int .u32 0,.slice none 0 0] 25)));have ch:(w.alloc (.cells #[.int .u32 0,.slice none 0 0] 25)).heap.size=w.heap.size+1:=jel _ _;have HH0:=ae ((ak (w.alloc (.cells #[.int .u32 0,.slice none 0 0] 25)) (.cells #[.slice a b.length cap,.int .i64 ((0:Nat):Int)] 200)).block w.heap.size (by omega) |>.trans (jeK w _));have ce:=ae (((ak w (.cells #[.int .u32 0,.slice none 0 0] 25))).alloc (by omega) (.cells #[.slice a b.length cap,.int .i64 ((0:Nat):Int)] 200));rw[ch]at HS0;clear hs;have hzW:((w.alloc (.cells #[.int .u32 0,.slice none 0 0] 25)).alloc (.cells #[.slice a b.length cap,.int .i64 ((0:Nat):Int)] 200)).heap.size=w.heap.size+2:=by rw[jel,ch]
 have HZW:=ae hzW;clear hzW;generalize hW:(w.alloc (.cells #[.int .u32 0,.slice none 0 0] 25)).alloc (.cells #[.slice a b.length cap,.int .i64 ((0:Nat):Int)] 200)=W at *;have hW':(w.alloc (.cells #[.int .u32 0,.slice none 0 0] 25)).alloc (.cells #[.slice a b.length cap,.int .i64 0] 200)=W:=hW;go_enter Tryz.func96,Tryz.ntmps96
 go_wp2_with fail;try rw[hW']
 clear hW hW' ch;refine(Kq HS0.o).mono ?_;rintro e w3 ⟨id,l,v,b',f',rfl,fW,lM,kW,iY,lB,hr3,iJ⟩;obtain⟨va,vcap,hv,_,_⟩:=aO fW;subst hv
 have HU4:jgf (Uns w w3.heap.size (w3.alloc (.cells #[.int .u32 (id:Int),.slice va l.length vcap] 25)) b' f' id (.slice va l.length vcap) l):=by
  have hz:=HZW.o;have iN:=iJ.size;have aS:=ak w3 (.cells #[.int .u32 (id:Int),.slice va l.length vcap] 25);refine ae ⟨lB.kept aS lB.lt,by omega,(aS.block _ (by omega)).trans ((iJ.block _ (by omega) (by omega)).trans HH0.o),jeK w3 _,(ce.o.trans (iJ.below (by omega) (by omega))).trans (aS.mono (by omega)),?_⟩;rw[hz]at fW;exact fW.kept aS
 have sQ:=ae (Yx hr3);have HID:=ae lM;clear fW lB hr3 iJ iY lM;obtain⟨⟨c0,c1⟩,⟨d0,d1⟩,⟨z0,z1⟩⟩:=HU4.o.facts;have HQL:jgf (w3.heap.size<(w3.alloc (.cells #[.int .u32 (id:Int),.slice va l.length vcap] 25)).heap.size):=ae (by rw[jel];omega);go_wp2_with fail;generalize hq:w3.heap.size=q at *;generalize hX:w3.alloc (.cells #[.int .u32 (id:Int),.slice va l.length vcap] 25)=X at *;try rw[hX]
 clear hX hq;refine(Av HU4.o.2.2.2.2.2.sf id).mono ?_;rintro e w5 ⟨rfl,bD⟩;have HU5:=ae (HU4.o.kept bD);clear bD;go_wp2_with fail;refine(mW HU5.o.1 (chk id l)).mono ?_;rintro e w6 ⟨rfl,yl,Rd⟩;have HU6:=ae (HU5.o.call yl Rd);clear yl Rd c0 c1 d0 d1 z0 z1 HU5 HU4;generalize orf f' (chk id l)=F at *;obtain⟨⟨c0,c1⟩,⟨d0,d1⟩,⟨z0,z1⟩⟩:=HU6.o.facts;obtain⟨ra,rcap,r0,r1,r2,r3,r4,r5,r6,_,_⟩:=HU6.o.1.cells2;have yk:=ae r6;have HQ:=ae HU6.o.2.1;have jcQ:¬ w.heap.size=w.heap.size+1:=by omega
 have zq:¬ w.heap.size+1=w.heap.size:=by omega
 have hne3:¬ w.heap.size=q:=by have:=HQ.o;omega
 have jcy:¬ q=w.heap.size:=by have:=HQ.o;omega
 clear r6 r4 r5;by_cases hF:F=0
 ·have hFa:((F:Int) != 0)=false:=by simp[hF]
  have Qs:jgf (b'.length<=100000000):=ae (by have:=Yw sQ.o hF;omega)
  have HOKR:jgf (yZ b=(id,l,b',0)):=by
   have h:=sQ.o;rw[hF]at h;exact ae (Yt h)
  clear hF
  have pQ:jgf (∀ m,Calls Tryz.prog 93 #[.slice ra b'.length rcap] (w6.drewN m) fun e w'=>∃ u,e=.returned u/\aD w' (w.heap.size+1) u b'/\Uns w q w' b' F id (.slice va l.length vcap) l/\(w'.cell? ⟨q,0,none⟩=some (.int .u32 (id:Int))/\w'.cell? ⟨q,1,none⟩=some (.slice va l.length vcap))/\(w'.frozen? ⟨w.heap.size,0,none⟩=false/\w'.frozen? ⟨w.heap.size,1,none⟩=false)/\(w'.cell? ⟨w.heap.size,0,none⟩=some (.int .u32 0)/\w'.cell? ⟨w.heap.size,1,none⟩=some (.slice none 0 0))/\w'.cell? ⟨w.heap.size+1,0,none⟩=some (.slice ra b'.length rcap)):=ae (fun m=>by
   have nC:Below w6.heap.size w6 (w6.drewN m):=ar (jej w6.heap.size w6) m;refine(PR (yk.o.kept nC) Qs.o).mono ?_;rintro e w' ⟨⟨u,rfl,ou⟩,hb'⟩;have aE:=ai nC hb';have hu:=HU6.o.kept aE;obtain⟨e0,e1,e2⟩:=hu.facts;refine⟨u,rfl,?_,hu,e0,e2,e1,(aE.cell (p:=⟨w.heap.size+1,0,none⟩) HU6.o.1.lt).trans r0⟩;have hz:w.heap.size+1<=(w6.drewN m).heap.size:=jet (jeJ HU6.o.1.lt) nC.size;exact bg ou hz)
  go_wp2_with fail
  go_region_held3 (fun w'=>w'.cell? ⟨q,0,none⟩=some (.int .u32 (id:Int))/\w'.cell? ⟨q,1,none⟩=some (.slice va l.length vcap)/\w'.cell? ⟨w.heap.size+1,0,none⟩=some (.slice ra b'.length rcap)) (first | assumption | go_keep) (first
   | (go_at_call 93;refine(pQ.o _).mono ?_;rintro e w7 ⟨u7,rfl,o7,hu7,⟨g0,g1⟩,⟨g2,g3⟩,⟨g4,g5⟩,g6⟩;have iI:=ae o7;have HU7:=ae hu7;clear o7 hu7))
  go_wp2_with fail;refine bodyPost_ret (v:=.tuple #[.agg #[.int .u32 (id:Int),.slice va l.length vcap],u7,.int .i64 ((0:Nat):Int)]) (by simp[results,Tryz.results96,go_sem,g4,g5]) rfl ?_;rw[HOKR.o];refine⟨⟨_,_,rfl,(ER HU7.o.2.2.2.2.2 (by omega) _ _).low (by omega),?_⟩,qr HU7.o.2.2.2.2.1 (jek _) _ _⟩;exact bg (Fr.own (((Fr.refl w.heap.size w7.heap.size w7).set 0 _).set 1 _) iI.o (by omega)) (by omega)
 ·have hFa:((F:Int) != 0)=true:=by simp[hF]
  have HER:=ae (Kr sQ.o hF);clear hF;go_wp2_with fail;go_region
  go_wp2_with fail;refine bodyPost_ret (v:=.tuple #[.agg #[.int .u32 ((0:Nat):Int),.slice none 0 0],.slice none 0 0,.int .i64 (F:Int)]) (by simp[results,Tryz.results96,go_sem,d0,d1]) rfl ?_;rw[HER.o];exact⟨⟨_,_,rfl,ea.nil _ _,aD.nil _ _⟩,(qr HU6.o.2.2.2.2.1 (jek _) _ _).drew⟩
theorem xW{b:List Nat}(h:spl b=none):iW b=none:=by
 unfold spl at h;unfold iW;split
 ·rfl
 ·next h4 =>
  rw[jeh h4]at h;split
  ·rfl
  ·next h5 =>
   rw[jeh h5]at h;cases h
theorem PU{b c f:List Nat}(h:spl b=some (c,f)):iW b=match di f with
  | .error _=>none
  | .ok ((id,fs),r)=>if (io fs c r).2.2.2=true then none else some (id,fs,gy 1 64 (dK r),(io fs c r).1):=by
 unfold spl at h;unfold iW;split
 ·next h4 =>
  rw[jei h4]at h;cases h
 ·next h4 =>
  rw[jeh h4]at h;split
  ·next h5 =>
   rw[jei h5]at h;cases h
  ·next h5 =>
   rw[jeh h5]at h;simp only[Option.some.injEq,Prod.mk.injEq]at h;obtain⟨rfl,rfl⟩:=h;rfl
theorem jbH{b c f:List Nat}(h:spl b=some (c,f))(h8:Bs b):Bs c/\Bs f/\c.length<=b.length/\f.length<=b.length:=by
 unfold spl at h;split at h
 ·cases h
 ·split at h
  ·cases h
  ·simp only[Option.some.injEq,Prod.mk.injEq]at h
   obtain⟨rfl,rfl⟩:=h;refine⟨h8.take _,(h8.take _).drop _,by rw[jeq];omega,by rw[jeR,jeq];omega⟩
def NeR{α : Type}(m:List Nat->Except Nat (α×List Nat)):Prop:=∀ b c,m b=.error c->c≠0
theorem NeR.bind{α β : Type}{m:List Nat->Except Nat (α×List Nat)}{k:α->List Nat->Except Nat (β×List Nat)}(h:NeR m)(hk:∀ x,NeR (k x)):NeR (aC m k):=by
 intro b c e;cases hm:m b with
 | error d =>
  rw[cE hm]at e;cases e
  exact h b _ hm
 | ok q =>
  obtain⟨x,s⟩:=q;rw[db hm]at e;exact hk x s c e
theorem NeR.num(n:Nat):NeR (iy n):=by
 intro b c e;unfold iy at e;split at e
 ·next h=>cases e;exact h
 ·split at e
  ·cases e;decide
  ·cases e
theorem NeR.textR(n:Nat):NeR (textR n):=by
 intro b c e;unfold Go.Proofs.YtpljdjmpamjkhaaGreatDoor.textR at e;split at e
 ·cases e;decide
 ·cases e
theorem NeR.fld:NeR uX:=(NeR.num _).bind fun i=>((NeR.num _).bind fun n=>NeR.textR n).bind fun s=>(NeR.num _).bind fun k=>(NeR.num _).bind fun n=>fun b c e=>by cases e
theorem NeR.flds:∀ n,NeR (li n)
 | 0=>fun b c e=>by cases e
 | n+1=>(NeR.flds n).bind fun l=>NeR.fld.bind fun f=>fun b c e=>by cases e
theorem Ku:NeR di :=
 ((NeR.num _).bind fun i=>(NeR.num _).bind fun n=>(NeR.flds n).bind fun l=>fun b c e=>by cases e).bind fun s=>by
  intro b c e;simp only at e;split at e
  ·cases e
  ·next h=>cases e;exact h
def BsR{α : Type}(m:List Nat->Except Nat (α×List Nat)):Prop:=∀ b x r,m b=.ok (x,r)->Bs b->Bs r
theorem BsR.bind{α β : Type}{m:List Nat->Except Nat (α×List Nat)}{k:α->List Nat->Except Nat (β×List Nat)}(h:BsR m)(hk:∀ x,BsR (k x)):BsR (aC m k):=by
 intro b y r e hb;cases hm:m b with
 | error c=>rw[cE hm]at e;cases e
 | ok q =>
  obtain⟨x,s⟩:=q;rw[db hm]at e;exact hk x s y r e (h b x s hm hb)
theorem BsR.pure{α : Type}(x:α):BsR (fun b=>.ok (x,b)):=fun b y r e hb=>by cases e;exact hb
theorem BsR.num(n:Nat):BsR (iy n):=by
 intro b x r e hb;unfold iy at e;split at e
 ·cases e
 ·split at e
  ·cases e
  ·cases e;exact hb.drop _
theorem BsR.textR(n:Nat):BsR (textR n):=by
 intro b x r e hb;unfold Go.Proofs.YtpljdjmpamjkhaaGreatDoor.textR at e;split at e
 ·cases e
 ·cases e;exact hb.drop _
theorem BsR.fld:BsR uX:=(BsR.num _).bind fun i=>((BsR.num _).bind fun n=>BsR.textR n).bind fun s=>(BsR.num _).bind fun k=>(BsR.num _).bind fun n=>BsR.pure _
theorem BsR.flds:∀ n,BsR (li n)
 | 0=>BsR.pure _
 | n+1=>(BsR.flds n).bind fun l=>BsR.fld.bind fun f=>BsR.pure _
theorem Kv:BsR di :=
 ((BsR.num _).bind fun i=>(BsR.num _).bind fun n=>(BsR.flds n).bind fun l=>BsR.pure _).bind fun s=>by
  intro b x r e hb;simp only at e;split at e
  ·cases e;exact hb
  ·cases e
theorem Kw(f:List Nat):(∃ c,di f=.error c/\c≠0/\yZ f=(0,[],[],c))∨∃ id fs r,di f=.ok ((id,fs),r)/\yZ f=(id,fs,r,0):=by
 unfold yZ;cases h:di f with
 | error c=>exact .inl ⟨c,rfl,Ku f c h,rfl⟩
 | ok q =>
  obtain⟨⟨id,fs⟩,r⟩:=q;exact .inr ⟨id,fs,r,rfl,rfl⟩
theorem Kx{w:World}{v:Value}{b:List Nat}(hs:Sv w v (aF .u8 b))(h8:Bs b)(hl:b.length<=80000000)(hw:ot w.heap.size v) :
  Calls Tryz.prog 53 #[v] w fun e w'=>((iW b=none/\∃ fp g,e=.returned (.tuple #[.pointer fp,.int .i64 g,.bool false])) ∨
   ∃ id fs g gs fp fv,iW b=some (id,fs,g,gs)/\e=.returned (.tuple #[.pointer (some ⟨fp,0,none⟩),.int .i64 ((g:Nat):Int),.bool true])/\Fil w' w.heap.size fp id fv gs/\ea w' w.heap.size fv fs)/\Below w.heap.size w w':=by
 have HSP:=ae (PH hs h8 (by omega) hw);obtain⟨va,vc,rfl,_,_⟩:=hs.form1;rw[ap]at *;cases hsp:spl b with
 | none =>
  have HN:=ae (xW hsp);rw[hsp]at HSP;clear hs h8 hsp;go_enter Tryz.func53,Tryz.ntmps53
  go_wp2_with fail;refine HSP.o.mono ?_;rintro e w1 ⟨⟨v1,v2,rfl,_⟩,aH⟩;have aP:=ae aH;clear aH;go_wp2_with fail;go_ret3
  exact⟨.inl ⟨HN.o,_,_,rfl⟩,aP.o⟩
 | some cf =>
  obtain⟨c,f⟩:=cf;have oK:=ae (PU hsp);obtain⟨q1,q2,q3,q4⟩:=jbH hsp h8;rw[hsp]at HSP;have HC:=ae (Kw f);have HQ1:=ae q1;have HQ2:=ae q2;have QD:=ae (fun(U:World) (v2:Value) (hU:Sv U v2 (aF .u8 f))=>Kt hU q2 (by omega));generalize yZ f=R at *;obtain⟨R1,R2,R3',R4⟩:=R;clear hs h8 hsp q1 q2;go_enter Tryz.func53,Tryz.ntmps53
  go_wp2_with fail;refine HSP.o.mono ?_;rintro e w1 ⟨⟨v1,v2,rfl,gX⟩,aH⟩;obtain⟨s1,s2,s3,s4⟩:=gX c f rfl;have aP:=ae aH;have ja:=ae s1;have AY:=ae s3;have HU2:=ae (QD.o w1 v2 s2);clear aH gX s1 s2 s3 s4 QD;go_wp2_with fail;refine HU2.o.mono ?_;rintro e w2 ⟨⟨fv,u,rfl,Rp,hou⟩,aE⟩;have hB2:=ai aP.o aE;obtain⟨a1,k1,e1,_,_⟩:=ja.o.form1;obtain⟨a2,k2,e2,_,_⟩:=hou.sv.form1;obtain⟨a3,k3,e3,_,_⟩:=Rp.sf.form;rw[ap]at e1 e2;subst e1 e2 e3;simp only at *;rcases HC.o with ⟨er,Zo,hu2,ZZ⟩ | ⟨id,fs,r,Zo,ZZ⟩
  ·have HN:jgf (iW b=none):=ae (by rw[oK.o,Zo])
   obtain⟨rfl,rfl,rfl,rfl⟩:R1=0/\R2=[]/\R3'=[]/\R4=er:=by simpa using ZZ
   have fJ:((R4:Int) != 0)=true:=by
    have:(R4:Int)≠0:=by omega
    simpa using this
   have aN:=ae hB2;clear Zo hu2 ZZ Rp hou aE hB2 oK HC;go_wp2_with fail;go_ret3
   exact⟨.inl ⟨HN.o,_,_,rfl⟩,ai aN.o (ak _ _)⟩
  ·obtain⟨rfl,rfl,rfl,rfl⟩:R1=id/\R2=fs/\R3'=r/\R4=0:=by simpa using ZZ
   have hBr:=Kv f _ _ Zo HQ2.o;obtain⟨QT,_,_⟩:=uJ Zo;have Zd:=ae (ip QT);obtain⟨_,_,hf8,_⟩:=qN QT;have HE:jgf (iW b=if (io R2 c R3').2.2.2=true then none else some (R1,R2,gy 1 64 (dK R3'),(io R2 c R3').1)):=ae (by rw[oK.o,Zo]);have hbA:=ak w2 (.cells #[.int .u32 (R1:Int),.slice a3 R2.length k3] 25);have hbB:=ak (w2.alloc (.cells #[.int .u32 (R1:Int),.slice a3 R2.length k3] 25)) (.cells #[.slice a1 c.length k1,.slice a2 R3'.length k2,.bool false] 157);have hAB:=ai hbA hbB;have sA:(w2.alloc (.cells #[.int .u32 (R1:Int),.slice a3 R2.length k3] 25)).heap.size=w2.heap.size+1:=jel _ _;have hx:=jeK (w2.alloc (.cells #[.int .u32 (R1:Int),.slice a3 R2.length k3] 25)) (.cells #[.slice a1 c.length k1,.slice a2 R3'.length k2,.bool false] 157);rw[sA]at hx;have hw12:w.heap.size<=w2.heap.size:=hB2.size;have hfb:∀ i,(Value.slice a3 R2.length k3).ownBlock=some i->i<w2.heap.size+1:=fun i hi=>by have:=(aM Rp hi).2.1;omega
   have hR3:R3 ((w2.alloc (.cells #[.int .u32 (R1:Int),.slice a3 R2.length k3] 25)).alloc (.cells #[.slice a1 c.length k1,.slice a2 R3'.length k2,.bool false] 157)) (w2.heap.size+1) c R3' false :=
    ⟨a1,k1,a2,k2,hx,⟨(ja.o.kept aE).kept hAB,fun i hi=>by have:=AY.o i hi;omega,HQ1.o⟩,hou.sv.kept hAB,fun i hi=>by have:=(aM hou hi).2.1;omega,hBr⟩
   have GL:=ae (Km hR3 (Rp.sf.kept hAB) hfb Zd.o R1 hf8 (by omega));have nH:=ae (ai hB2 hAB);have yi:=ae (Rp.kept hAB);have WY:=ae hfb;have WS:=ae hw12;have lN:jgf (((w2.alloc (.cells #[.int .u32 (R1:Int),.slice a3 R2.length k3] 25)).alloc (.cells #[.slice a1 c.length k1,.slice a2 R3'.length k2,.bool false] 157)).heap.size=w2.heap.size+2):=ae (by rw[jel,jel]);have HS01:=ae aP.o.size;clear Zo ZZ Rp hou aE hB2 oK HC hBr QT hbA hbB hAB sA hx hR3 hfb;go_wp2_with fail;generalize (w2.alloc (.cells #[.int .u32 (R1:Int),.slice a3 R2.length k3] 25)).alloc (.cells #[.slice a1 c.length k1,.slice a2 R3'.length k2,.bool false] 157)=W4 at *;refine GL.o.mono ?_;rintro e w4 ⟨fp,rfl,⟨c',f',hr4⟩,vS,pT⟩;have yp:jgf (Below w.heap.size w w4):=ae (nH.o.trans (pT.below (by omega) (by have:=lN.o;omega)))
   have YZ:jgf (ea w4 w.heap.size (.slice a3 R2.length k3) R2):=ae (by
    have h1:ea w4 w1.heap.size (.slice a3 R2.length k3) R2:=bX yi.o fun k hk=>pT.block k (by have:=WY.o k hk;have:=lN.o;omega) (by have:=WY.o k hk;omega)
    exact⟨h1.1,h1.2.imp (fun x=>x) fun⟨g,cap,cur,hv,hb,r⟩=>⟨g,cap,cur,hv,jet HS01.o hb,r⟩⟩)
   have zr:jgf ((io R2 c R3').2.2.2=false->Fil w4 w.heap.size fp R1 (.slice a3 R2.length k3) (io R2 c R3').1):=ae (fun h=>(vS h).low (by have:=lN.o;omega));obtain⟨_,_,_,_,⟨_,_,r2⟩,⟨_,_,r3⟩,_,_⟩:=hr4.cells;clear hr4 vS pT;cases hF:(io R2 c R3').2.2.2
   ·rw[hF]at r2 HE zr
    have HFL2:=ae (zr.o rfl);have HE2:jgf (iW b=some (R1,R2,gy 1 64 (dK R3'),(io R2 c R3').1)):=ae (by rw[HE.o,jeh (by decide)]);clear hF HE zr;go_wp2_with fail;go_quiet (fail)
    go_wp2_with fail;go_ret3
    exact⟨.inr ⟨_,_,_,_,_,_,HE2.o,rfl,HFL2.o.kept (ar (jej _ _) _),YZ.o.kept (ar (jej _ _) _)⟩,ar yp.o _⟩
   ·rw[hF]at r2 HE
    have HE2:jgf (iW b=none):=ae (by rw[HE.o,jei rfl]);clear hF HE zr;go_wp2_with fail;go_quiet (fail)
    go_wp2_with fail;go_ret3
    exact⟨.inl ⟨HE2.o,_,_,rfl⟩,ar yp.o _⟩
theorem Gro.rows{W:World}{B:Nat}{a b:Value}{rows:List Row}{sts:List Stt}(h:Gro W B (.agg #[a,b]) rows sts) :
  ∃ R,a=.slice (some ⟨R,0,none⟩) rows.length rows.length/\B<=R/\R<W.heap.size/\(∃ va vn vc,b=.slice va vn vc)/\∀ i (h:i<rows.length),∃ rv,W.cell? ⟨R,i,none⟩=some rv/\OwnV W B rv rows[i]:=by
 obtain⟨R,rvs,vs,e,h1,h2,h3⟩:=h;simp only[Value.agg.injEq,Array.mk.injEq,List.cons.injEq,and_true]at e;obtain⟨rfl,rfl⟩:=e;obtain⟨b1,b2,_⟩:=aM h1 (k:=R) rfl;refine⟨R,rfl,b1,b2,eA h3,fun i hi=>?_⟩;obtain⟨rv,e1,e2⟩:=h2 i hi;obtain⟨g,e,_,_,hc⟩:=iq h1 e1;cases e
 exact⟨rv,hc,e2⟩
theorem mw{gs:List Gr}{j:Nat}(h:j<gs.length):bT (gs.take (j+1))=bT (gs.take j)++gs[j].1:=by
 unfold bT;rw[jeA h,jeE,jf0];simp
theorem FR{gs:List Gr}{j:Nat}(h:j<gs.length){r:Row}(hr:r∈gs[j].1):r∈bT gs:=by
 unfold bT;exact List.mem_flatten.2 ⟨gs[j].1,jeF.2 ⟨gs[j],jeo h,rfl⟩,hr⟩
theorem fB(gs:List Gr)(j:Nat):(bT (gs.take j)).length<=(bT gs).length:=by
 have:bT gs=bT (gs.take j)++bT (gs.drop j):=by
  unfold bT;rw[← jf0,← jeE,jfF]
 rw[this,jem];omega
theorem AE{w:World}{B fp id:Nat}{fv:Value}{gs:List Gr}(h:Fil w B fp id fv gs)(bR:∀ r∈bT gs,r.length<=1000)(Dd:(bT gs).length<=100000) :
  Calls Tryz.prog 23 #[.pointer (some ⟨fp,0,none⟩)] w fun e w'=>(∃ v l,e=.returned v/\Ow w' w.heap.size v l/\l.map Prod.snd=bT gs)/\Below w.heap.size w w':=by
 obtain⟨gv,xs,h1,h2,h3,h4⟩:=h;obtain⟨ga,gc,rfl,hgc,hgm⟩:=be h3;have c2:w.cell? ⟨fp,2,none⟩=some (.slice ga gs.length gc):=by rw[ay h1];rfl
 have HG:jgf (∀ k (hk:k<gs.length),∃ G R va vn vc,ga=some ⟨G,0,none⟩/\gs[k].1.length<=100000/\∀ W,Below w.heap.size w W->W.cell? ⟨G,k*2,none⟩=some (.slice (some ⟨R,0,none⟩) gs[k].1.length gs[k].1.length)/\W.cell? ⟨G,k*2+1,none⟩=some (.slice va vn vc) /\
   ∀ i (h:i<gs[k].1.length),∃ ra rc,W.cell? ⟨R,i,none⟩=some (.slice ra gs[k].1[i].length rc)/\gs[k].1[i].length<=1000/\Sv W (.slice ra gs[k].1[i].length rc) (aJ gs[k].1[i])):=ae (fun k hk=>by
  obtain⟨a,b,e1,e2,e3⟩:=h4 k hk;obtain⟨R,rfl,g1,g2,⟨va,vn,vc,rfl⟩,g4⟩:=e3.rows;obtain⟨G,rfl,_,hG,lK⟩:=iq h3 e1;obtain⟨_,e,_,_,ke⟩:=iq h3 e2;cases e
  have hr:=mw hk;have CK:=fB gs (k+1);rw[hr,jem]at CK;refine⟨G,R,va,vn,vc,rfl,by omega,fun W hb=>⟨(hb.cell (p:=⟨G,k*2,none⟩) hG).trans (by rw[jeU];exact lK),(hb.cell (p:=⟨G,k*2+1,none⟩) hG).trans (by rw[jeU k];exact ke),fun i hi=>?_⟩⟩;obtain⟨rv,f1,f2⟩:=g4 i hi;have fs:=f2.sv;obtain⟨ra,rc,rfl,_,_⟩:=fs.form1;rw[aG]at *;exact⟨ra,rc,(hb.cell (p:=⟨R,i,none⟩) g2).trans f1,bR _ (FR hk (jeo hi)),fs.kept hb⟩)
 have HT:=ae (fun j=>fB gs j);have sC:=ae (fun j (h:j<gs.length)=>mw h);have HTA:jgf (bT (gs.take gs.length)=bT gs):=ae (by rw[jes]);have HT0:jgf (bT (gs.take 0)=[]):=ae rfl;have QU:=ae Dd;clear h1 h2 h3 h4 bR Dd;go_enter Tryz.func23,Tryz.ntmps23
 go_wp2_with fail;go_loopw [3,13] (fun a i wr=>∃(k:Nat) (l:List (Value×Row)),i=.int .i64 (k:Int)/\k<=gs.length/\Ow wr w.heap.size a l/\l.map Prod.snd=bT (gs.take k)/\Below w.heap.size w wr) (fun _ i _=>gs.length-(intOf i).toNat)
 case atStart=>exact⟨0,[],rfl,by omega,Ow.nil _ _,HT0.o.symm,jej _ _⟩
 case round =>
  obtain⟨k,l,rfl,hk,how,sR,az⟩:=hrel;have HB:=ae az;have HO:=ae how;have pV:=ae sR;obtain⟨la,lc,rfl,Rf,AO,_⟩:=how.form;clear az how sR;by_cases aB:k<gs.length
  ·obtain⟨G,R,va,vn,vc,rfl,Zn,hcells⟩:=HG.o k aB
   obtain⟨ca,cb,_⟩:=hcells wr HB.o;have HC:=ae hcells;have hlt':(k:Int)<(gs.length:Int):=(by omega);have hBW:Below w.heap.size w (wr.alloc (.cells #[.slice (some ⟨R,0,none⟩) gs[k].1.length gs[k].1.length,.slice va vn vc] 109)):=HB.o.alloc HB.o.size _;have nH:=ae hBW;obtain⟨cg,_⟩:=bx wr (.slice (some ⟨R,0,none⟩) gs[k].1.length gs[k].1.length) (.slice va vn vc) 109;have HCG:=ae cg;have hOW:=(HO.o.kept (ak wr (.cells #[.slice (some ⟨R,0,none⟩) gs[k].1.length gs[k].1.length,.slice va vn vc] 109)));have wo:=ae hOW;have Zq:=ae (sC.o k aB);have HKL:=ae (HT.o (k+1));clear hcells hBW hOW cg;go_wp2_with fail;generalize wr.alloc (.cells #[.slice (some ⟨R,0,none⟩) gs[k].1.length gs[k].1.length,.slice va vn vc] 109)=WA at *
   have HLL:jgf (∀ m,(bT (gs.take k)++gs[k].1.take m).length<=100000):=ae (fun m=>by
    have h1:=Zq.o;have h2:=HKL.o;have h3:=QU.o;rw[h1,jem]at h2;rw[jem,jeq];omega)
   clear HO ca cb;go_loopw [3,20] (fun a i wx=>∃(m:Nat) (l2:List (Value×Row)),i=.int .i64 (m:Int)/\m<=gs[k].1.length/\Ow wx w.heap.size a l2/\l2.map Prod.snd=bT (gs.take k)++gs[k].1.take m/\Below w.heap.size w wx) (fun _ i _=>gs[k].1.length-(intOf i).toNat)
   case atStart=>exact⟨0,l,rfl,by omega,wo.o,by rw[jfK,jeG];exact pV.o,nH.o⟩
   case round =>
    obtain⟨m,l2,rfl,hm,jcV,jcW,oL⟩:=hrel;have aN:=ae oL;have dz:=ae jcV;have Gy:=ae jcW;obtain⟨la2,lc2,rfl,hl12,hl22,_⟩:=jcV.form;have bv:=oL.size
    have hl2n:l2.length<=100000:=by
     have h1:=jep List.length jcW;have h2:=HLL.o m;rw[jen]at h1;omega
    clear oL jcV jcW;by_cases hmt:m<gs[k].1.length
    ·have hmt':(m:Int)<(gs[k].1.length:Int):=by omega
     obtain⟨_,_,hcr⟩:=HC.o _ aN.o;obtain⟨ra,rc,hrc,nD,hrs⟩:=hcr m hmt;have sy:jgf (gs[k].1.take (m+1)=gs[k].1.take m++[gs[k].1[m]]):=ae (jeA hmt);have pQ:=ae (qm hrs nD);generalize gs[k].1[m]=r at *;clear hcr hrs;go_wp2_with fail;refine pQ.o.mono ?_;rintro e w3 ⟨⟨v3,rfl,fW⟩,aS⟩;have HV3:=ae fW;have dd:=ae (dz.o.kept aS);have bN:=ae (aN.o.trans (aS.mono bv));have iN:=aS.size;obtain⟨ra',rc',rfl,_,_⟩:=be fW;have kf:=ae (aK w3 (.slice ra' r.length rc') 79);clear aS fW pQ dz;go_wp2_with (first | (at_builtin;refine gO rfl _ _ rfl w.heap.size _ _ l2 [(.slice ra' r.length rc',r)] rfl (dd.o.kept (ak _ _)) rfl (pn kf.o (by rw[jel];omega)) ?c1 ?c2 ?c3 ?_))
     case c1 =>
      intro x hx;rw[jeX.1 hx];exact(HV3.o.kept (ak _ _)).of_le (by omega)
     case c2=>simp only[jeS];omega
     case c3=>rw[jel];omega
     intro v' w5 o5 b5;have df:=ae o5;have aQ:=ae ((bN.o.alloc (by omega) _).trans b5);clear o5 b5;go_wp2_with fail;go_roundw
     case rel=>exact⟨m+1,_,by go_num,by omega,df.o,by rw[sy.o,jeE,Gy.o,jez];rfl,aQ.o⟩
     case measure=>simp[intOf];omega
    ·obtain rfl:m=gs[k].1.length:=by omega
     have gi:¬ ((gs[k].1.length:Nat):Int)<(gs[k].1.length:Int):=(by omega);have Zr:jgf (l2.map Prod.snd=bT (gs.take (k+1))):=ae (by rw[Zq.o,Gy.o,jes]);go_wp2_with fail;go_roundw
     case rel=>exact⟨k+1,l2,by go_num,by omega,dz.o,Zr.o,aN.o⟩
     case measure=>simp[intOf];omega
  ·obtain rfl:k=gs.length:=by omega
   have gi:¬ ((gs.length:Nat):Int)<(gs.length:Int):=(by omega);have Zr:jgf (l.map Prod.snd=bT gs):=ae (pV.o.trans HTA.o);go_wp2_with fail;go_ret
   first | exact⟨⟨_,_,rfl,HO.o,Zr.o⟩,HB.o⟩ | exact⟨⟨_,rfl,_,HO.o,Zr.o⟩,HB.o⟩
theorem Ct{w:World}{B fp id:Nat}{fv:Value}{gs:List Gr}(h:Fil w B fp id fv gs) :
  Calls Tryz.prog 21 #[.pointer (some ⟨fp,0,none⟩)] w fun e w'=>e=.returned (.int .i64 (gs.length:Int))/\w'=w:=by
 obtain⟨gv,xs,h1,h2,h3,h4⟩:=h
 have hgv:∃ ga gc,gv=.slice ga gs.length gc:=by
  rcases h3.2 with ⟨e,e2⟩ | ⟨_,_,_,e,_⟩
  ·rw[e2];exact⟨_,_,e⟩
  ·exact⟨_,_,e⟩
 obtain⟨ga,gc,rfl⟩:=hgv;have c2:w.cell? ⟨fp,2,none⟩=some (.slice ga gs.length gc):=by rw[ay h1];rfl
 clear h1 h2 h3 h4;go_enter Tryz.func21,Tryz.ntmps21
 go_wp2_with fail;go_ret
 exact⟨rfl,rfl⟩
theorem uvL1{n:Nat}(h:n<128):(uv n).length=1:=by rw[wL h];rfl
theorem uvL2{n:Nat}(h:n<16384):(uv n).length<=2:=by
 rw[mF];exact uvarint_length 1 n (by omega)
theorem uvL3{n:Nat}(h:n<2097152):(uv n).length<=3:=by
 rw[mF];exact uvarint_length 2 n (by omega)
theorem wvL2{x:Int}(h0:0<=x)(h:x<=64):(wv x).length<=2:=by
 unfold wv;refine uvL2 ?_;unfold zigzag;rw[jei h0];omega
theorem FS:∀{l:List Int},(∀ x∈l,0<=x/\x<=64)->(gB l).length<=2*l.length
 | [],_=>by simp[gB]
 | x::t,h=>by
  have h1:=FS (l:=t) (fun y hy=>h y (jfB _ hy));have h2:=h x (List.mem_cons_self ..);have h3:=wvL2 h2.1 h2.2;simp only[gB,jem,jer];omega
theorem UJ(n:Nat):by8 n<=n:=by unfold by8;omega
theorem UK{l:List Int}(h:∀ x∈l,0<=x/\x<=64):(cV l).length<=2*l.length+1:=by
 have h1:=oR l 4 0 (by omega);have h2:=FS h;have:(iv 0 l).length=(gB l).length:=rfl;unfold cV;omega
theorem UL{l:List Int}(h:Is l):(cV l).length<=10*l.length+1:=by
 have h1:=oR l 4 0 (by omega);have h2:=(mb h).1;have:(iv 0 l).length=(gB l).length:=rfl;unfold cV;omega
theorem FT{l:List (List Nat)}(h:Ts l)(hm:l.length<=64):(eS l).length<=4+66*l.length:=by
 obtain⟨b1,_⟩:=oT h
 have h1:=UK (l:=em l) (fun x hx=>by
  obtain⟨s,hs,rfl⟩:=jeF.1 hx;have:=(h s hs).1;omega)
 rw[bM]at h1;have h2:=uvL2 (n:=(cV (em l)).length) (by omega)
 have hp:(plain l).length<=4+66*l.length:=by
  unfold plain fH cnt;simp only[jer,jem];omega
 unfold eS;split<;>omega
theorem Ky{l:List (Nat×Int×List Nat)}(hm:l.length<=256):(dO l).length<=1+l.length:=by
 unfold dO;split
 ·have hl:=eP (ee l) (by rw[br];exact hm)
  rw[br]at hl;have:=UJ l.length;rw[jer,hl];omega
 ·simp
theorem Kz{k:Nat}{l:List Cl}(h:Col k l)(hm:l.length<=64):(ey k l).length<=5+67*l.length:=by
 obtain⟨hk,oD,hc⟩:=h;have ho:=ik l;have hh:=Ky oD;unfold ey;rw[jem];obtain rfl | rfl | rfl:k=1∨k=2∨k=3:=by omega
 ·have b1:=UL (je hc).1
  rw[jen]at b1;rw[wX];omega
 ·have hl:=eP (fP hc).1 (by rw[jen];omega)
  rw[jen]at hl;have:=UJ (bV l).length;rw[wY,hl];omega
 ·have hw:=FT (gR hc).1 (by rw[jen];omega)
  rw[jen]at hw;rw[wZ];omega
theorem UM{l:List UInt8}(hc:dS l=true):(bZ l 4).length<=16:=by
 unfold bZ;rw[Bk hc,jeq];have:=rJ (rs:=iU l) (4:Int).toNat;have h4:(4:Int).toNat=4:=rfl;omega
theorem Mk:∀ rs:List Nat,(lQ rs).length<=4*rs.length
 | []=>by simp[lQ]
 | r::t=>by
  have:=Mk t;have:=iw r;unfold lQ at *;simp only[jfG,jem,jer];omega
theorem UN{l a:List UInt8}(h:gT l 4=some a)(hl:l.length<=64):a.length<=16:=by
 have h0:=h;rw[xz]at h;unfold ef at h;split at h
 ·next hc =>
  have hv:=Bk hc;split at h
  ·next h4 =>
   obtain rfl:=Option.some.inj h;have e:=(lE _ l (jek _) hc).1;have h16:=Mk (iU l);rw[hv,jen]at h4;have e2:=jep List.length e;omega
  ·split at h
   ·cases h
   ·unfold upL at h
    cases hg:il (V l) (4:Int).toNat with
    | none=>rw[hg]at h;cases h
    | some i =>
     rw[hg]at h;have hi:=(rh hg).1;simp only[jfu,Option.some.injEq]at h;subst h;have:=iw (nx ((V l).getD i (0,0)).1);have:=rJ (rs:=iU l) i;rw[← hv]at this;have h4:(4:Int).toNat=4:=rfl;simp only[jem,jeq];omega
 ·cases h
theorem jbI{x:Cl}(hf:aT x){cl:Bool}(hc:cl=true->eT x=true):(nX x cl).2.2.length<=16:=by
 unfold nX;by_cases h:x.1=3/\cl=false
 ·rw[jei h];simp
 ·rw[jeh h]
  show (nb _).length<=16
  rw[pe];cases cl with
  | true=>exact UM (hc rfl)
  | false =>
   have hx:x.1≠3:=fun e=>h ⟨e,rfl⟩
   have h2:x.2.2=[]:=by
    rcases hf with rfl | ⟨n,rfl,_⟩ | ⟨n,rfl,_⟩ | ⟨s,rfl,_,_⟩
    ·rfl
    ·rfl
    ·rfl
    ·exact absurd rfl hx
   have:=qf (lb (am x.2.2)) 4;rw[cL,bi,h2]at this;rw[h2];simp only[jeL]at this;omega
theorem Yy{x:Cl}(hf:aT x){cl:Bool}:(gI x cl).1.2.2.length<=16:=by
 unfold gI;by_cases h:x.1=3
 ·rw[jei h]
  cases ha:gT (lb (am x.2.2)) 4 with
  | none=>exact je6 _
  | some a =>
   cases cl
   ·exact je6 _
   ·show (nb a).length<=16
    rw[pe];refine UN ha ?_;rw[cL];exact hf.short
 ·rw[jeh h]
  show x.2.2.length<=16
  rcases hf with rfl | ⟨n,rfl,_⟩ | ⟨n,rfl,_⟩ | ⟨s,rfl,_,_⟩
  ·exact je6 _
  ·exact je6 _
  ·exact je6 _
  ·exact absurd rfl h
theorem UO{cs:List Cl}(hf:∀ c∈cs,aT c):(cA cs).lo.2.2.length<=16/\(cA cs).hi.2.2.length<=16:=by
 have MC:∀ c∈aZ cs,aT c:=fun c hc=>hf c (by unfold aZ at hc;exact(jf6.1 hc).1)
 unfold cA;cases hn:aZ cs with
 | nil=>exact⟨je6 _,je6 _⟩
 | cons y r =>
  rw[hn]at MC;have hy:=MC y (by simp);have hr:∀ c∈r,aT c:=fun c hc=>MC c (by simp[hc])
  refine⟨jbI (mh hy hr) (fun cZ=>?_),Yy (nW hy hr)⟩;rw[List.all_eq_true]at cZ;exact mh (P:=fun c=>eT c=true) (cZ y (by simp)) (fun c hc=>cZ c (by simp[hc]))
theorem Ml{c:Cl}(h:aT c)(h16:c.2.2.length<=16):(gJ c).length<=17:=by
 unfold gJ;split
 ·rcases h with rfl | ⟨n,rfl,h1⟩ | ⟨n,rfl,h1⟩ | ⟨s,rfl,h1,h2⟩<;>first | (have:=fC h1;unfold wv at this;simp only;omega) | (simp_all [nul])
 ·split
  ·simp
  ·rw[jem,uvL1 (by omega)]
   omega
theorem UP{cs:List Cl}(hf:∀ c∈cs,aT c)(hl:cs.length<=64):(eD (cA cs)).length<=37:=by
 obtain⟨a1,a2⟩:=kJ hf;obtain⟨b1,b2⟩:=UO hf;have c1:=Ml a1 b1;have c2:=Ml a2 b2;obtain⟨n,hn,Mt⟩:=lw cs;have hu:=uvL1 (n:=n) (by omega);unfold eD;rw[hn,jeQ];simp only[jem,jeS];split<;>split<;>(try simp only[jeL])<;>omega
theorem KA{fs:List Fd}{p:List Row}(hl:p.length<=64)(ec:∀ k,k<fs.length->Col (mj fs k) (cY p k)):∀{k:Nat},k<=fs.length->(eU fs p k).length<=(5+67*p.length)*k:=by
 intro k;induction k with
 | zero=>exact fun _=>by simp[eU]
 | succ k ih =>
  intro hk;have h1:=ih (by omega);have h2:=Kz (ec k (by omega)) (by rw[dx];exact hl);rw[dx]at h2;rw[mo,jem,Nat.mul_succ];omega
theorem PW{fs:List Fd}{p:List Row}(h:jR fs p)(hl:p.length<=64)(ec:∀ k,k<fs.length->Col (mj fs k) (cY p k)):∀{k:Nat},k<=fs.length->(ftK fs p k).length<=40*k:=by
 intro k;induction k with
 | zero=>exact fun _=>by simp[ftK]
 | succ k ih =>
  intro hk;have h1:=ih (by omega);have h2:=(iB (ec k (by omega))).1;have h3:=UP (mt h k) (by rw[dx];exact hl);have h4:=uvL3 (n:=(ey (mj fs k) (cY p k)).length) (by omega);rw[nZ];simp only[jem];omega
theorem xX{fs:List Fd}{rs:List Row}{g:Nat}(jH:fs.length<=8)(gY:g<=64)(hk:∀ f∈fs,1<=f.2.2.1/\f.2.2.1<=3)(dq:jR fs rs):∀ j,(iD fs g rs j).length<=40*j+536*min (j*g) rs.length
 | 0=>by simp[iD]
 | j+1=>by
  have h0:=xX jH gY hk dq j;have kV:(prt g rs j).length<=64:=by rw[cm];omega
  have h1:=KA kV (fun k kQ=>fq (dq.part g j) hk (by omega) kQ) (jek _);have h2:(5+67*(prt g rs j).length)*fs.length<=(5+67*(prt g rs j).length)*8:=jfm _ jH;rw[cm]at h1 h2;rw[tA,jem,jeZ,jfp];omega
theorem AF{fs:List Fd}{rs:List Row}{g:Nat}(jH:fs.length<=8)(gY:g<=64)(hk:∀ f∈fs,1<=f.2.2.1/\f.2.2.1<=3)(dq:jR fs rs):∀ j,(ftJ fs g rs j).length<=320*j
 | 0=>by simp[ftJ]
 | j+1=>by
  have h0:=AF jH gY hk dq j;have kV:(prt g rs j).length<=64:=by rw[cm];omega
  have h1:=PW (dq.part g j) kV (fun k kQ=>fq (dq.part g j) hk (by omega) kQ) (jek _);rw[xH,jem];omega
theorem qx{id:Nat}{fs:List Fd}{rs:List Row}{g:Nat}(ho:∀ f∈fs,Okf f)(lM:id<4294967296)(hc:chk id fs=0)(nD:rs.length<=60)(eZ:1<=g)(gY:g<=64)(dq:jR fs rs):(bE (dy id fs rs g)).length<=65536:=by
 obtain⟨hz,jH,_⟩:=mU hc;have hk:=ip hc;have h1:=fQ ho (by omega) hz fs.length;rw[jes]at h1;have h2:=gH id (by omega);have h3:=gH fs.length (by omega);have h4:=gH rs.length (by omega);have h5:=gH g (by omega)
 have hn:nps g rs.length<=60:=by
  rcases jeM 60 (nps g rs.length)with h | h
  ·have:=(kN (j:=60) (show 0<g by omega)).1 h
   have:60*1<=60*g:=jfm _ eZ;omega
  ·exact h
 have h6:=xX jH gY hk dq (nps g rs.length);have h7:=AF jH gY hk dq (nps g rs.length)
 have h8:(iD fs g rs (nps g rs.length)).length<=34560:=by
  have:=Nat.min_le_right (nps g rs.length*g) rs.length;omega
 unfold bE dy mn gm dH;simp only[jem,jer,jeL,le4];omega
theorem Mm{fs:List Fd}:∀{rs:List Row},(∀ r∈rs,iO fs r=0)->kL fs rs=0
 | [],_=>rfl
 | x::t,h=>by
  unfold kL;rw[jei (h x (List.mem_cons_self ..))];exact Mm fun r hr=>h r (jfB _ hr)
theorem FU{id:Nat}{fs:List Fd}{rs:List Row}{g:Nat}(hc:chk id fs=0)(eZ:1<=g)(gY:g<=64)(hl:rs.length<=256)(hf:jR fs rs):eb id fs rs (g:Int)=0:=by
 unfold eb;rw[jeh (by omega),jeh (by omega),jeh (by omega)];exact Mm fun r hr=>(hf r hr).1
theorem sj{id:Nat}{fs:List Fd}{rs:List Row}{g:Nat}(ho:∀ f∈fs,Okf f)(lM:id<4294967296)(hc:chk id fs=0)(hl:rs.length<=60)(eZ:1<=g)(gY:g<=64)(hf:jR fs rs):bW id fs rs (g:Int)=(bE (dy id fs rs g),0):=by
 have h1:=FU (g:=g) hc eZ gY (show rs.length<=256 by omega) hf;have h2:=qx ho lM hc hl eZ gY hf;unfold bW;rw[h1,jeh (by simp),jeQ,jeh (by omega)]
theorem Cu{id:Nat}{fs:List Fd}{rs:List Row}{g:Nat}{b:List Nat}(ho:∀ f∈fs,Okf f)(lM:id<4294967296)(hfi:∀ r∈rs,∀ c∈r,aT c)(h:bW id fs rs (g:Int)=(b,0)) :
  jB b=.ok (id,fs,g,(List.range (nps g rs.length)).map fun i=>grp fs (prt g rs i)):=by
 have hw:=h;unfold bW at h;by_cases h0:eb id fs rs (g:Int)≠0
 ·rw[jei h0]at h
  exact absurd (Prod.mk.inj h).2 h0
 rw[jeh h0]at h;obtain⟨hc,⟨eZ,gY⟩,hl,kT⟩:=lx (Decidable.not_not.1 h0);rw[jeQ]at h;by_cases hz:65536<(bE (dy id fs rs g)).length
 ·rw[jei hz]at h
  cases (Prod.mk.inj h).2
 rw[jeh hz]at h;obtain⟨rfl,_⟩:=Prod.mk.inj h;have hf:jR fs rs:=fun r hr=>⟨mv kT r hr,hfi r hr⟩
 have jG:(gm id fs rs g).length<4294967296:=by
  have:=(rZ (g:=g) ho lM hc hl (by omega) (by omega) hf).1;omega
 unfold jB;rw[xG];simp only;have ht:(dy id fs rs g).take 3=[67,70,49]:=rfl;have hd:(dy id fs rs g).drop 3=mn id fs rs g:=rfl;rw[jei ht,hd,Ke lM ho hc hf hl (by omega) (by omega) jG];simp only;rw[Uw fs (by omega) rs,jei hw]
theorem UQ{w:World}(ht:Tab w){v fv:Value}{b:List Nat}{B fp id:Nat}{fs:List Fd}{gs:List Gr}{g:Nat}(hs:Sv w v (aF .u8 b))(h8:Bs b)(h:Fil w B fp id fv gs)(hf:Sf w fv fs)(ho:∀ f∈fs,Okf f)(lM:id<4294967296)
  (hr:∀ r∈bT gs,r.length<=1000/\∀ c∈r,aT c) (Dd:(bT gs).length<=1000) :
  Calls Tryz.prog 54 #[v,.pointer (some ⟨fp,0,none⟩),.int .i64 (g:Int)] w fun e w'=>e=.returned (.bool (decide (bW id fs (bT gs) (g:Int)=(b,0))))/\Below w.heap.size w w':=by
 have HT:=ae ht;have HS:=ae hs;have HF:=ae hf;have h':=h;obtain⟨gv,xs,kh,hB,_,_⟩:=h';have Gz:=(Array.getElem?_eq_some_iff.1 kh).1;obtain⟨fa,fc,rfl,_,_⟩:=hf.form;obtain⟨ba,bc,rfl,_,_⟩:=hs.form1;rw[ap]at *
 have Bc:jgf (∀ U,Below w.heap.size w U->U.cell? ⟨fp,0,none⟩=some (.int .u32 (id:Int))/\U.cell? ⟨fp,1,none⟩=some (.slice fa fs.length fc)):=ae (fun U hU=>by
  have hh:=(hU.block fp Gz).trans kh;constructor<;>(rw[ay hh];rfl))
 have HA:jgf (∀ U,Below w.heap.size w U->Calls Tryz.prog 23 #[.pointer (some ⟨fp,0,none⟩)] U fun e w'=>∃ a c,e=.returned (.slice a (bT gs).length c)/\Rv w' (.slice a (bT gs).length c) (bT gs)/\Below w.heap.size w w'/\w'.cell? ⟨fp,0,none⟩=some (.int .u32 (id:Int))/\w'.cell? ⟨fp,1,none⟩=some (.slice fa fs.length fc)):=ae (fun U hU=>by
  refine(AE (h.kept hU) (fun r hh=>(hr r hh).1) (by omega)).mono ?_;rintro e w' ⟨⟨v,l,rfl,how,sR⟩,hb⟩;have aE:=ai hU hb;have uU:=how.rv;rw[sR]at uU;obtain⟨a,c,rfl,_⟩:=uU.form;exact⟨a,c,rfl,uU,aE,Bc.o _ aE⟩)
 have HW:jgf (∀ U ra rc,Below w.heap.size w U->Rv U (.slice ra (bT gs).length rc) (bT gs)->Calls Tryz.prog 12 #[.agg #[.int .u32 (id:Int),.slice fa fs.length fc],.slice ra (bT gs).length rc,.int .i64 (g:Int)] U fun e w'=>∃ a c,e=.returned (.tuple #[.slice a (bW id fs (bT gs) (g:Int)).1.length c,.int .i64 ((bW id fs (bT gs) (g:Int)).2:Int)])/\Sv w' (.slice a (bW id fs (bT gs) (g:Int)).1.length c) (aF .u8 (bW id fs (bT gs) (g:Int)).1)/\Below w.heap.size w w'):=ae (fun U ra rc hU uU=>by
  refine(oq (HT.o.kept hU) (HF.o.kept hU) uU ho lM (fun r hh=>(hr r hh).2) (g:Int)).mono ?_;rintro e w' ⟨⟨v,rfl,how⟩,hb⟩;have gX:=how.sv;obtain⟨a,c,rfl,_,_⟩:=gX.form1;rw[ap]at *;exact⟨a,c,rfl,gX,ai hU hb⟩)
 have sO:jgf (Bs (bW id fs (bT gs) (g:Int)).1):=ae (by
  unfold bW;split
  ·exact fun x hx=>by simp at hx
  ·next h0 =>
   split
   ·exact fun x hx=>by simp at hx
   ·obtain⟨hc,⟨eZ,gY⟩,hl,kT⟩:=lx (Decidable.not_not.1 h0)
    rw[jeQ];exact(kO ho lM hc hl (by omega) (by omega) (fun r hh=>⟨mv kT r hh,(hr r hh).2⟩)).2.seal)
 obtain⟨WM,hWM⟩:∃ WM,bW id fs (bT gs) (g:Int)=WM:=⟨_,rfl⟩;rw[hWM]at HW sO ⊢;obtain⟨D,hD⟩:∃ D,decide (WM=(b,0))=D:=⟨_,rfl⟩;rw[hD];obtain⟨wb,we⟩:=WM;simp only at HW sO;have HD:=ae hD;clear hD;have qD:=ae h8;clear hs hf h kh ho hr h8 hWM;obtain⟨c0,c1⟩:=Bc.o w (jej _ _);generalize (bT gs).length=n at *;go_enter Tryz.func54,Tryz.ntmps54
 go_wp2_with fail;refine wp_region_noPanic ?_
 go_region_law (first
  | (go_simp;go_at_call 23;refine(HA.o _ ?_).mono ?_;exact ar (jej w.heap.size w) _;rintro e w1 ⟨ra,rc,rfl,Wc,aH,d0,d1⟩;have Wd:=ae Wc;have aP:=ae aH;clear Wc aH;dsimp only)
  | (go_simp;go_at_call 12;refine(HW.o _ _ _ ?_ ?_).mono ?_;(first | exact aP.o | exact ar aP.o _);(first | exact Wd.o | exact Wd.o.kept (ar (jej w1.heap.size w1) _));rintro e w2 ⟨a2,cc2,rfl,dR,aE⟩;have gj:=ae dR;have aN:=ae aE;clear dR aE;dsimp only)
  | fail)
 all_goals refine NoPanic.normal ?_
 all_goals
  by_cases he:we=0
  ·have hez:(((we:Nat):Int)==0)=true:=by rw[he];rfl
   have CV:=ae (pf gj.o (HS.o.kept aN.o) sO.o qD.o)
   have zt:jgf (decide (wb=b)=D):=ae (by
    rw[← HD.o,he];by_cases yx:wb=b
    ·rw[yx];simp
    ·simp[yx])
   rw[zt.o]at CV;go_wp2_with fail;refine CV.o.mono ?_;rintro e w3 ⟨rfl,rfl⟩;go_wp2_with fail;go_ret
   exact⟨rfl,aN.o⟩
  ·have hez:(((we:Nat):Int)==0)=false:=by simpa using he
   have zt:jgf (D=false):=ae (by rw[← HD.o];simp[he]);go_wp2_with fail;go_ret
   exact⟨by rw[zt.o];rfl,aN.o⟩
end Go.Proofs.YtpljdjmpamjkhaaGreatDoor
