import Derived.Test.YtpljdjmpamjkhaaGreatDoorYao
import Derived.Test.YtpljdjmpamjkhaaGreatDoorYae
import Derived.Test.YtpljdjmpamjkhaaGreatDoorYax
import Derived.Test.YtpljdjmpamjkhaaGreatDoorYbn
import Derived.Test.YtpljdjmpamjkhaaGreatDoorYbo
set_option linter.unusedVariables false
set_option linter.unusedSimpArgs false
set_option maxRecDepth 100000
set_option maxHeartbeats 8000000
namespace Go.Proofs.YtpljdjmpamjkhaaGreatDoor
open Go.RowKit Go.Lib
theorem D1(a:List Fd)(f:Fd):(f.1<=eR a)↔(f.1=0∨(0<a.length/\f.1<=eR a)):=by
 constructor
 ·intro h
  rcases jax a.length with h0 | h0
  ·rw[jab h0]at h
   left
   simpa [eR]using h
  ·exact Or.inr ⟨h0,h⟩
 ·rintro(h | h)
  ·omega
  ·exact h.2
theorem D2{l:List Fd}{k m:Nat}(hm:k=m+1)(h:m<l.length):eR (l.take k)=l[m].1:=by
 subst hm;exact EV h
theorem A5{w:World}{v:Value}{l:List Fd}(hs:Sf w v l)(id:Nat):Calls Tryz.prog 15 #[.agg #[.int .u32 (id:Int),v]] w fun e w'=>e=.returned (.int .i64 (chk id l:Int))/\Below w.heap.size w w':=by
 obtain⟨a,cap,rfl,aX,bw⟩:=hs.form;have cC:=ae (ak w (.cells #[.int .u32 (id:Int),.slice a l.length cap] 25));have HS:=ae (hs.kept (ak w (.cells #[.int .u32 (id:Int),.slice a l.length cap] 25)));obtain⟨c0,c1⟩:=bE w (.int .u32 (id:Int)) (.slice a l.length cap) 25;have hz:w.heap.size<(w.alloc (.cells #[.int .u32 (id:Int),.slice a l.length cap] 25)).heap.size:=by rw[ZS];omega
 clear hs;by_cases h1:id=0∨l.length=0∨8<l.length
 ·have HR:Hid (chk id l=1):=ae (if_pos h1)
  clear c0 c1 hz HS;by_cases q1:id=0
  ·subst q1
   go_enter Tryz.func15,Tryz.ntmps15
   go_wp2_with fail;go_ret
   rw[HR.out];exact⟨rfl,cC.out⟩
  ·have q1':((id:Int)==0)=false:=by simp[q1]
   by_cases q2:l.length=0
   ·have q2':((l.length:Int)==0)=true:=by simp[q2]
    clear h1 q1 q2;go_enter Tryz.func15,Tryz.ntmps15
    go_wp2_with fail;go_ret
    rw[HR.out];exact⟨rfl,cC.out⟩
   ·have q2':((l.length:Int)==0)=false:=by simp[q2]
    have q3:(l.length:Int) > 8:=by omega
    clear h1 q1 q2;go_enter Tryz.func15,Tryz.ntmps15
    go_wp2_with fail;go_ret
    rw[HR.out];exact⟨rfl,cC.out⟩
 ·have HR:Hid (chk id l=fe (l.take 0) (l.drop 0)):=ae (if_neg h1)
  have q1':((id:Int)==0)=false:=Z1.2 (by omega);have q2':((l.length:Int)==0)=false:=Z1.2 (by omega);have q3:¬ (l.length:Int) > 8:=by omega
  have hl8:l.length<=8:=by omega
  clear h1;generalize chk id l=CH at *;generalize hW:w.alloc (.cells #[.int .u32 (id:Int),.slice a l.length cap] 25)=W at *;go_enter Tryz.func15,Tryz.ntmps15
  go_wp2_with fail;try rw[hW]
  clear hW;go_loopw [3] (fun i wr=>∃ k:Nat,k<=l.length/\i=.int .i64 (k:Int)/\CH=fe (l.take k) (l.drop k)/\Below W.heap.size W wr) (fun i _=>l.length-(intOf i).toNat)
  case atStart=>exact⟨0,by omega,rfl,HR.out,ZQ _ _⟩
  case round =>
   obtain⟨k,hk,rfl,lq,ay⟩:=hrel;have HF:=ae lq;have HB:=ae ay;have bO:=ay.size;clear lq ay HR;by_cases aB:k<l.length
   ·obtain⟨b,off,rfl,hb,x0,x1,x2,x3⟩:=(HS.out.kept HB.out).at aB
    have HT:=ae (HF.out.trans (Jk aB));have hlt':(k:Int)<(l.length:Int):=by omega
    have hkc:(k:Int)<=(cap:Int):=by omega
    have X3:(0:Int)<=(k:Int):=by omega
    have hktn:((k:Int)).toNat=k:=by omega
    have hdcap:¬ cap=0:=by omega
    have cP:=ae (HS.out.take (k:=k) (by omega));have uq:(l.take k).length=k:=by rw[ZX];omega
    generalize hf:l[k]=f at *;obtain⟨f0,f1,f2,f3⟩:=f;have lw:Hid (fW (l.take k) (f0,f1,f2,f3)=if f0<=eR (l.take k) then 81 else if uL (l.take k) f1=false then 80 else if kH f2=false then 10 else if (f3 != decide ((l.take k).length=0))=true∨((l.take k).length=0/\f2=2) then 82 else 0):=ae rfl;rw[uq]at lw;simp only at *;have d1:=(HB.out.cell (p:=⟨w.heap.size,1,none⟩) hz).trans c1;have qb:=ak wr (.cells #[.int .u32 (f0:Int),.string f1,.int .u8 (f2:Int),.bool f3] 81);have e1:=(qb.cell (p:=⟨w.heap.size,1,none⟩) (Z9 hz bO)).trans d1;obtain⟨g0,g1,g2,g3⟩:=iU wr (.int .u32 (f0:Int)) (.string f1) (.int .u8 (f2:Int)) (.bool f3) 81;have aN:=ae (HB.out.trans (qb.mono bO));have jq:wr.heap.size<(wr.alloc (.cells #[.int .u32 (f0:Int),.string f1,.int .u8 (f2:Int),.bool f3] 81)).heap.size:=by rw[ZS];omega
    have sY:=ae ((cP.out.kept HB.out).kept qb);have M9:Hid (∀ U,Below (wr.alloc (.cells #[.int .u32 (f0:Int),.string f1,.int .u8 (f2:Int),.bool f3] 81)).heap.size (wr.alloc (.cells #[.int .u32 (f0:Int),.string f1,.int .u8 (f2:Int),.bool f3] 81)) U->Calls Tryz.prog 50 #[.slice (some ⟨b,off,none⟩) k cap,.string f1] U fun e w'=>e=.returned (.bool (oF (l.take k) f1))/\w'=U):=ae (fun U hU=>TF (sY.out.kept hU) f1);generalize hV:wr.alloc (.cells #[.int .u32 (f0:Int),.string f1,.int .u8 (f2:Int),.bool f3] 81)=V at *;have ei:Hid (∀ w',Below V.heap.size V w'->(w'.cell? ⟨w.heap.size,1,none⟩=some (.slice (some ⟨b,off,none⟩) l.length cap)/\w'.cell? ⟨wr.heap.size,1,none⟩=some (.string f1))/\w'.cell? ⟨wr.heap.size,2,none⟩=some (.int .u8 (f2:Int))/\w'.cell? ⟨wr.heap.size,3,none⟩=some (.bool f3)):=ae (fun w' h=>⟨⟨(h.cell (p:=⟨w.heap.size,1,none⟩) (show w.heap.size<_ by omega)).trans e1,(h.cell (p:=⟨wr.heap.size,1,none⟩) jq).trans g1⟩,(h.cell (p:=⟨wr.heap.size,2,none⟩) jq).trans g2,(h.cell (p:=⟨wr.heap.size,3,none⟩) jq).trans g3⟩)
    have Kd:Hid (∀ U,Below V.heap.size V U->Calls Tryz.prog 49 #[.string f1] U fun e w'=>e=.returned (.bool (named f1))/\Below V.heap.size V w'/\(w'.cell? ⟨w.heap.size,1,none⟩=some (.slice (some ⟨b,off,none⟩) l.length cap)/\w'.cell? ⟨wr.heap.size,1,none⟩=some (.string f1))):=ae (fun U hU=>(K3 f1 U).mono (by
     rintro e w2 ⟨rfl,aD⟩;have aP:=ai hU aD;exact⟨rfl,aP,(ei.out _ aP).1⟩))
    have Wf:uL (l.take k) f1=(named f1 && !oF (l.take k) f1):=rfl;have kZ:=ae Wf;have Wg:=ae (D1 (l.take k) (f0,f1,f2,f3));rw[uq]at Wg
    have pm:Hid (∀ m,k=m+1->∃ la:Nat,eR (l.take k)=la/\V.cell? ⟨b,off+m*4,none⟩=some (.int .u32 (la:Int))):=ae (fun m hm=>by
     obtain⟨b',off',Wh,_,y0,_⟩:=(HS.out.kept aN.out).at (k:=m) (by omega);cases Wh
     exact⟨_,D2 hm (by omega),y0⟩)
    clear Wf qb g1 g2 g3 hf uq sY cP c0 c1;generalize fW (l.take k) (f0,f1,f2,f3)=R at *;by_cases ce:f0=0
    ·have hR:R=81:=by rw[lw.out,if_pos (Wg.out.2 (Or.inl ce))]
     have hz0':((f0:Int)==0)=true:=by rw[ce];rfl
     rw[hR,if_neg (by omega)]at HT;clear hR lw Wg ce pm;go_wp2_with fail;try rw[hV]
     clear hV;go_quiet (fail)
     go_wp2_with fail;go_ret
     rw[HT.out];exact⟨rfl,below_drewN (ai cC.out aN.out) _⟩
    ·have hz0':((f0:Int)==0)=false:=Z1.2 (by omega)
     by_cases Ex:0<k/\f0<=eR (l.take k)
     ·have hR:R=81:=by rw[lw.out,if_pos (Wg.out.2 (Or.inr Ex))]
      obtain⟨pY,oH⟩:=Ex;obtain⟨m,hm⟩:∃ m,k=m+1:=⟨k-1,by omega⟩;obtain⟨la,Mi,eO⟩:=pm.out m hm;rw[Mi]at oH;have t1:decide ((k:Int) > 0)=true:=decide_eq_true (by omega);have t1':(k:Int) > 0:=by omega
      have t1n:decide (0<k)=true:=decide_eq_true (by omega);have t1m:0<k:=by omega
      have t2:IntKind.i64.wrap ((k:Int)-1)=(m:Int):=by rw[jam];omega
      have t3:(0:Int)<=(m:Int):=by omega
      have t4:(m:Int)<(l.length:Int):=by omega
      have t5:((m:Int)).toNat=m:=by omega
      have t6:decide ((f0:Int)<=(la:Int))=true:=decide_eq_true (by omega);have t6':(f0:Int)<=(la:Int):=by omega
      have t7:(k:Int)-1=(m:Int):=by omega
      rw[hR,if_neg (by omega)]at HT;clear hR lw Wg ce pm hm Mi pY oH;go_wp2_with fail;try rw[hV]
      clear hV;go_quiet (fail)
      go_wp2_with fail;go_ret
      rw[HT.out];exact⟨rfl,below_drewN (ai cC.out aN.out) _⟩
     ·rw[if_neg (fun h=>by rcases Wg.out.1 h with h | h;(· exact ce h);(· exact Ex h))]at lw
      have Ry:decide ((k:Int) > 0)=false/\k=0∨decide ((k:Int) > 0)=true/\∃ m la:Nat,k=m+1/\¬ f0<=la/\V.cell? ⟨b,off+m*4,none⟩=some (.int .u32 (la:Int)):=by
       by_cases pY:k=0
       ·exact Or.inl ⟨decide_eq_false (by omega),pY⟩
       ·obtain⟨m,hm⟩:∃ m,k=m+1:=⟨k-1,by omega⟩
        obtain⟨la,Mi,eO⟩:=pm.out m hm;exact Or.inr ⟨decide_eq_true (by omega),m,la,hm,fun h=>Ex ⟨by omega,by rw[Mi];exact h⟩,eO⟩
      have HK0:Hid (decide (k=0)=((k:Int)==0)):=ae (by
       by_cases h:k=0
       ·rw[decide_eq_true h,h];rfl
       ·rw[decide_eq_false h,Z1.2 (by omega)])
      clear Ex ce Wg pm;rcases Ry with ⟨t1,pY⟩ | ⟨t1,m,la,hm,oH,eO⟩
      ·have t1':¬ (k:Int) > 0:=by omega
       have t1n:decide (0<k)=false:=decide_eq_false (by omega);have t1m:¬ 0<k:=by omega
       have HKZ:=ae pY;clear pY;go_wp2_with fail;try rw[hV]
       clear hV;go_quiet (fail)
       obtain⟨⟨_,g1⟩,_⟩:=ei.out V (ZQ _ _);go_wp2_with fail;cases hnm:named f1 with
       | false =>
        rw[hnm]at Kd kZ;have hR:R=80:=by rw[lw.out,kZ.out];rfl
        rw[hR,if_neg (by omega)]at HT;clear hR lw hnm;have rK:∀ s:bL (fun x=>Below V.heap.size V x),s.w.cell? ⟨wr.heap.size,1,none⟩=some (.string f1):=fun s=>(ei.out s.w s.ok).1.2
        have mS:∀ s:bL (fun x=>Below V.heap.size V x),s.w.cell? ⟨w.heap.size,1,none⟩=some (.slice (some ⟨b,off,none⟩) l.length cap):=fun s=>(ei.out s.w s.ok).1.1
        haveI:Nonempty (bL (fun x=>Below V.heap.size V x)):=⟨bL.mk V (ZQ _ _)⟩
        refine cp (S:=fun x=>Below V.heap.size V x) (by kernel_rfl) (by kernel_rfl) (below_drewN (ZQ _ _) _).drew ?_;repeat (go_big_quiet_step (first | (go_at_call 49;exact(Kd.out _ (bL.ok _)).mono (fun e w' h=>⟨h.1,bL.mk w' h.2.1,rfl⟩)) | (go_at_call 50;exact(M9.out _ (bL.ok _)).mono (fun e w' h=>⟨h.1,_,h.2⟩))))
        refine wpQuiet_nil ?_;rintro _ ⟨s2,rfl⟩;obtain⟨w2,pf⟩:∃ x,x=s2.w:=⟨_,rfl⟩;have aD:=s2.ok;rw[← pf]at aD ⊢;have fZ:=ae aD;clear pf aD rK mS;go_wp2_with fail;go_ret
        rw[HT.out];exact⟨rfl,by first | exact ai (ai cC.out aN.out) fZ.out | exact below_drewN (ai (ai cC.out aN.out) fZ.out) _⟩
       | true =>
        rw[hnm]at Kd kZ;clear hnm;cases hha:oF (l.take k) f1 with
        | true =>
         rw[hha]at M9 kZ;have hR:R=80:=by rw[lw.out,kZ.out];rfl
         rw[hR,if_neg (by omega)]at HT;clear hR lw hha;have rK:∀ s:bL (fun x=>Below V.heap.size V x),s.w.cell? ⟨wr.heap.size,1,none⟩=some (.string f1):=fun s=>(ei.out s.w s.ok).1.2
         have mS:∀ s:bL (fun x=>Below V.heap.size V x),s.w.cell? ⟨w.heap.size,1,none⟩=some (.slice (some ⟨b,off,none⟩) l.length cap):=fun s=>(ei.out s.w s.ok).1.1
         haveI:Nonempty (bL (fun x=>Below V.heap.size V x)):=⟨bL.mk V (ZQ _ _)⟩
         refine cp (S:=fun x=>Below V.heap.size V x) (by kernel_rfl) (by kernel_rfl) (below_drewN (ZQ _ _) _).drew ?_;repeat (go_big_quiet_step (first | (go_at_call 49;exact(Kd.out _ (bL.ok _)).mono (fun e w' h=>⟨h.1,bL.mk w' h.2.1,rfl⟩)) | (go_at_call 50;exact(M9.out _ (bL.ok _)).mono (fun e w' h=>⟨h.1,_,h.2⟩))))
         refine wpQuiet_nil ?_;rintro _ ⟨s2,rfl⟩;obtain⟨w2,pf⟩:∃ x,x=s2.w:=⟨_,rfl⟩;have aD:=s2.ok;rw[← pf]at aD ⊢;have fZ:=ae aD;clear pf aD rK mS;go_wp2_with fail;go_ret
         rw[HT.out];exact⟨rfl,by first | exact ai (ai cC.out aN.out) fZ.out | exact below_drewN (ai (ai cC.out aN.out) fZ.out) _⟩
        | false =>
         rw[hha]at M9 kZ;rw[kZ.out,if_neg (by simp)]at lw;clear hha;have rK:∀ s:bL (fun x=>Below V.heap.size V x),s.w.cell? ⟨wr.heap.size,1,none⟩=some (.string f1):=fun s=>(ei.out s.w s.ok).1.2
         have mS:∀ s:bL (fun x=>Below V.heap.size V x),s.w.cell? ⟨w.heap.size,1,none⟩=some (.slice (some ⟨b,off,none⟩) l.length cap):=fun s=>(ei.out s.w s.ok).1.1
         haveI:Nonempty (bL (fun x=>Below V.heap.size V x)):=⟨bL.mk V (ZQ _ _)⟩
         refine cp (S:=fun x=>Below V.heap.size V x) (by kernel_rfl) (by kernel_rfl) (below_drewN (ZQ _ _) _).drew ?_;repeat (go_big_quiet_step (first | (go_at_call 49;exact(Kd.out _ (bL.ok _)).mono (fun e w' h=>⟨h.1,bL.mk w' h.2.1,rfl⟩)) | (go_at_call 50;exact(M9.out _ (bL.ok _)).mono (fun e w' h=>⟨h.1,_,h.2⟩))))
         refine wpQuiet_nil ?_;rintro _ ⟨s2,rfl⟩;obtain⟨w2,pf⟩:∃ x,x=s2.w:=⟨_,rfl⟩;have aD:=s2.ok;rw[← pf]at aD ⊢;have fZ:=ae aD;clear pf aD rK mS;obtain⟨_,y2,y3⟩:=ei.out _ fZ.out;by_cases xi:kH f2=false
         ·rw[if_pos xi]at lw
          rw[lw.out,if_neg (by omega)]at HT
          have hkd':f2=0∨3<f2:=by
           unfold kH at xi;have:=of_decide_eq_false xi;omega
          clear lw xi;rcases hkd' with q | q
          ·have q1:(f2:Int)<1:=by omega
           clear q;go_wp2_with fail;go_ret
           rw[HT.out];exact⟨rfl,by first | exact ai (ai cC.out aN.out) fZ.out | exact below_drewN (ai (ai cC.out aN.out) fZ.out) _⟩
          ·have q1:¬ (f2:Int)<1:=by omega
           have q2:(f2:Int) > 3:=by omega
           clear q;go_wp2_with fail;go_ret
           rw[HT.out];exact⟨rfl,by first | exact ai (ai cC.out aN.out) fZ.out | exact below_drewN (ai (ai cC.out aN.out) fZ.out) _⟩
         ·rw[if_neg xi]at lw
          have hkd':1<=f2/\f2<=3:=by
           unfold kH at xi;simpa using xi
          have q1:¬ (f2:Int)<1:=by omega
          have q2:¬ (f2:Int) > 3:=by omega
          clear xi hkd';have t0:((k:Int)==0)=true:=by rw[HKZ.out];rfl
          cases f3
          ·have hR:R=82:=by rw[lw.out,if_pos (Or.inl (by rw[HKZ.out];rfl))]
           rw[hR,if_neg (by omega)]at HT;clear hR lw;go_wp2_with fail;go_ret
           rw[HT.out];exact⟨rfl,by first | exact ai (ai cC.out aN.out) fZ.out | exact below_drewN (ai (ai cC.out aN.out) fZ.out) _⟩
          ·by_cases h2:f2=2
           ·have hR:R=82:=by rw[lw.out,if_pos (Or.inr ⟨HKZ.out,h2⟩)]
            have h2':((f2:Int)==2)=true:=by rw[h2];rfl
            rw[hR,if_neg (by omega)]at HT;clear hR lw h2;go_wp2_with fail;go_ret
            rw[HT.out];exact⟨rfl,by first | exact ai (ai cC.out aN.out) fZ.out | exact below_drewN (ai (ai cC.out aN.out) fZ.out) _⟩
           ·have hR:R=0:=by rw[lw.out,if_neg (fun h=>by rcases h with h | ⟨_,h⟩;(· rw[HKZ.out]at h;cases h);(· exact h2 h))]
            have h2':((f2:Int)==2)=false:=Z1.2 (by omega);rw[if_pos hR]at HT;clear hR lw h2;go_wp2_with fail;go_roundw
            case rel=>exact⟨k+1,by omega,by go_num,HT.out,by first | exact ai aN.out fZ.out | exact below_drewN (ai aN.out fZ.out) _⟩
            case measure=>simp[intOf];omega
      ·have t1':(k:Int) > 0:=by omega
       have t1n:decide (0<k)=true:=decide_eq_true (by omega);have t1m:0<k:=by omega
       have t2:IntKind.i64.wrap ((k:Int)-1)=(m:Int):=by rw[jam];omega
       have t3:(0:Int)<=(m:Int):=by omega
       have t4:(m:Int)<(l.length:Int):=by omega
       have t5:((m:Int)).toNat=m:=by omega
       have t6:decide ((f0:Int)<=(la:Int))=false:=decide_eq_false (by omega);have t6':¬ (f0:Int)<=(la:Int):=by omega
       have t7:(k:Int)-1=(m:Int):=by omega
       clear hm oH;go_wp2_with fail;try rw[hV]
       clear hV;go_quiet (fail)
       obtain⟨⟨_,g1⟩,_⟩:=ei.out V (ZQ _ _);go_wp2_with fail;cases hnm:named f1 with
       | false =>
        rw[hnm]at Kd kZ;have hR:R=80:=by rw[lw.out,kZ.out];rfl
        rw[hR,if_neg (by omega)]at HT;clear hR lw hnm;have rK:∀ s:bL (fun x=>Below V.heap.size V x),s.w.cell? ⟨wr.heap.size,1,none⟩=some (.string f1):=fun s=>(ei.out s.w s.ok).1.2
        have mS:∀ s:bL (fun x=>Below V.heap.size V x),s.w.cell? ⟨w.heap.size,1,none⟩=some (.slice (some ⟨b,off,none⟩) l.length cap):=fun s=>(ei.out s.w s.ok).1.1
        haveI:Nonempty (bL (fun x=>Below V.heap.size V x)):=⟨bL.mk V (ZQ _ _)⟩
        refine cp (S:=fun x=>Below V.heap.size V x) (by kernel_rfl) (by kernel_rfl) (below_drewN (ZQ _ _) _).drew ?_;repeat (go_big_quiet_step (first | (go_at_call 49;exact(Kd.out _ (bL.ok _)).mono (fun e w' h=>⟨h.1,bL.mk w' h.2.1,rfl⟩)) | (go_at_call 50;exact(M9.out _ (bL.ok _)).mono (fun e w' h=>⟨h.1,_,h.2⟩))))
        refine wpQuiet_nil ?_;rintro _ ⟨s2,rfl⟩;obtain⟨w2,pf⟩:∃ x,x=s2.w:=⟨_,rfl⟩;have aD:=s2.ok;rw[← pf]at aD ⊢;have fZ:=ae aD;clear pf aD rK mS;go_wp2_with fail;go_ret
        rw[HT.out];exact⟨rfl,by first | exact ai (ai cC.out aN.out) fZ.out | exact below_drewN (ai (ai cC.out aN.out) fZ.out) _⟩
       | true =>
        rw[hnm]at Kd kZ;clear hnm;cases hha:oF (l.take k) f1 with
        | true =>
         rw[hha]at M9 kZ;have hR:R=80:=by rw[lw.out,kZ.out];rfl
         rw[hR,if_neg (by omega)]at HT;clear hR lw hha;have rK:∀ s:bL (fun x=>Below V.heap.size V x),s.w.cell? ⟨wr.heap.size,1,none⟩=some (.string f1):=fun s=>(ei.out s.w s.ok).1.2
         have mS:∀ s:bL (fun x=>Below V.heap.size V x),s.w.cell? ⟨w.heap.size,1,none⟩=some (.slice (some ⟨b,off,none⟩) l.length cap):=fun s=>(ei.out s.w s.ok).1.1
         haveI:Nonempty (bL (fun x=>Below V.heap.size V x)):=⟨bL.mk V (ZQ _ _)⟩
         refine cp (S:=fun x=>Below V.heap.size V x) (by kernel_rfl) (by kernel_rfl) (below_drewN (ZQ _ _) _).drew ?_;repeat (go_big_quiet_step (first | (go_at_call 49;exact(Kd.out _ (bL.ok _)).mono (fun e w' h=>⟨h.1,bL.mk w' h.2.1,rfl⟩)) | (go_at_call 50;exact(M9.out _ (bL.ok _)).mono (fun e w' h=>⟨h.1,_,h.2⟩))))
         refine wpQuiet_nil ?_;rintro _ ⟨s2,rfl⟩;obtain⟨w2,pf⟩:∃ x,x=s2.w:=⟨_,rfl⟩;have aD:=s2.ok;rw[← pf]at aD ⊢;have fZ:=ae aD;clear pf aD rK mS;go_wp2_with fail;go_ret
         rw[HT.out];exact⟨rfl,by first | exact ai (ai cC.out aN.out) fZ.out | exact below_drewN (ai (ai cC.out aN.out) fZ.out) _⟩
        | false =>
         rw[hha]at M9 kZ;rw[kZ.out,if_neg (by simp)]at lw;clear hha;have rK:∀ s:bL (fun x=>Below V.heap.size V x),s.w.cell? ⟨wr.heap.size,1,none⟩=some (.string f1):=fun s=>(ei.out s.w s.ok).1.2
         have mS:∀ s:bL (fun x=>Below V.heap.size V x),s.w.cell? ⟨w.heap.size,1,none⟩=some (.slice (some ⟨b,off,none⟩) l.length cap):=fun s=>(ei.out s.w s.ok).1.1
         haveI:Nonempty (bL (fun x=>Below V.heap.size V x)):=⟨bL.mk V (ZQ _ _)⟩
         refine cp (S:=fun x=>Below V.heap.size V x) (by kernel_rfl) (by kernel_rfl) (below_drewN (ZQ _ _) _).drew ?_;repeat (go_big_quiet_step (first | (go_at_call 49;exact(Kd.out _ (bL.ok _)).mono (fun e w' h=>⟨h.1,bL.mk w' h.2.1,rfl⟩)) | (go_at_call 50;exact(M9.out _ (bL.ok _)).mono (fun e w' h=>⟨h.1,_,h.2⟩))))
         refine wpQuiet_nil ?_;rintro _ ⟨s2,rfl⟩;obtain⟨w2,pf⟩:∃ x,x=s2.w:=⟨_,rfl⟩;have aD:=s2.ok;rw[← pf]at aD ⊢;have fZ:=ae aD;clear pf aD rK mS;obtain⟨_,y2,y3⟩:=ei.out _ fZ.out;by_cases xi:kH f2=false
         ·rw[if_pos xi]at lw
          rw[lw.out,if_neg (by omega)]at HT
          have hkd':f2=0∨3<f2:=by
           unfold kH at xi;have:=of_decide_eq_false xi;omega
          clear lw xi;rcases hkd' with q | q
          ·have q1:(f2:Int)<1:=by omega
           clear q;go_wp2_with fail;go_ret
           rw[HT.out];exact⟨rfl,by first | exact ai (ai cC.out aN.out) fZ.out | exact below_drewN (ai (ai cC.out aN.out) fZ.out) _⟩
          ·have q1:¬ (f2:Int)<1:=by omega
           have q2:(f2:Int) > 3:=by omega
           clear q;go_wp2_with fail;go_ret
           rw[HT.out];exact⟨rfl,by first | exact ai (ai cC.out aN.out) fZ.out | exact below_drewN (ai (ai cC.out aN.out) fZ.out) _⟩
         ·rw[if_neg xi]at lw
          have hkd':1<=f2/\f2<=3:=by
           unfold kH at xi;simpa using xi
          have q1:¬ (f2:Int)<1:=by omega
          have q2:¬ (f2:Int) > 3:=by omega
          clear xi hkd';have t0:((k:Int)==0)=false:=Z1.2 (by omega);cases f3
          ·have hR:R=0:=by rw[lw.out,if_neg (fun h=>by rcases h with h | ⟨h,_⟩;(· rw[decide_eq_false (show ¬ k=0 by omega)]at h;cases h);(· omega))]
           rw[if_pos hR]at HT;clear hR lw;go_wp2_with fail;go_roundw
           case rel=>exact⟨k+1,by omega,by go_num,HT.out,by first | exact ai aN.out fZ.out | exact below_drewN (ai aN.out fZ.out) _⟩
           case measure=>simp[intOf];omega
          ·have hR:R=82:=by rw[lw.out,if_pos (Or.inl (by rw[decide_eq_false (show ¬ k=0 by omega)];rfl))]
           rw[hR,if_neg (by omega)]at HT;clear hR lw;go_wp2_with fail;go_ret
           rw[HT.out];exact⟨rfl,by first | exact ai (ai cC.out aN.out) fZ.out | exact below_drewN (ai (ai cC.out aN.out) fZ.out) _⟩
   ·obtain rfl:k=l.length:=by omega
    have gJ:¬ ((l.length:Nat):Int)<(l.length:Int):=by omega
    have HT:=ae (HF.out.trans (Ng l));clear HF;have d1:=(HB.out.cell (p:=⟨w.heap.size,1,none⟩) hz).trans c1;go_wp2_with fail;go_ret
    rw[HT.out];exact⟨rfl,ai cC.out HB.out⟩
def RawSt(T:Nat)(W:World)(p:Nat)(b:List Nat)(f:Nat)(a:Option Addr)(cap:Nat):Prop :=
 W.heap[p]?=some (.cells #[.slice a b.length cap,.int .i64 (f:Int)] T (0,0))/\b.length<=cap/\cap<=maxLen/\Bs b/\(a=none->cap=0) /\
  (0<b.length->∃ g off,a=some ⟨g,off,none⟩/\g<p/\∀ j (h:j<b.length),W.cell? ⟨g,off+j,none⟩=some (.int .u8 (b[j]:Int)))
theorem St.cells2{T:Nat}{W:World}{p:Nat}{b:List Nat}{f:Nat}(h:St T W p b f) :
  ∃ a cap,W.cell? ⟨p,0,none⟩=some (.slice a b.length cap)/\W.cell? ⟨p,1,none⟩=some (.int .i64 (f:Int))/\W.frozen? ⟨p,0,none⟩=false/\W.frozen? ⟨p,1,none⟩=false /\
   b.length<=cap/\cap<=9223372036854775807/\Sv W (.slice a b.length cap) (aE .u8 b)/\(a=none->cap=0)/\RawSt T W p b f a cap:=by
 have aB:=h.lt;obtain⟨a,cap,h1,h2,h3,h4,h5,h6⟩:=h
 have ib:Sv W (.slice a b.length cap) (aE .u8 b):=by
  refine⟨a,cap,by rw[ap],by rw[ap];omega,h3,h5,fun h0=>?_⟩;rw[ap]at h0;obtain⟨g,off,e,hg,hc⟩:=h6 h0;refine⟨g,off,e,by omega,fun j x hj=>?_⟩
  have hj':j<b.length:=by
   have:=(List.getElem?_eq_some_iff.1 hj).1;rwa[ap]at this
  rw[bR hj']at hj;rw[hc j hj'];exact hj
 exact⟨a,cap,by rw[ax h1];rfl,by rw[ax h1];rfl,by simp[World.frozen?,h1],by simp[World.frozen?,h1],h2,by unfold maxLen at h3;omega,ib,h5,h1,h2,h3,h4,h5,h6⟩
theorem D3{b b1:List Nat}{f i:Nat}{l:List Fd}(h:Rds Cc b f (i,l) b1 0):Rds cY b f (i,l) b1 (chk i l) :=
 h.bind ⟨fun _=>rfl,fun h=>absurd rfl h⟩
end Go.Proofs.YtpljdjmpamjkhaaGreatDoor
