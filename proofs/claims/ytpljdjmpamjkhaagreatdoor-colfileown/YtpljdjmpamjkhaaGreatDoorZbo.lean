/- Contracts: the document's Check. Contracts: the document's reader of numbers. Contracts: the document's reader of schemas. -/
import Derived.Test.YtpljdjmpamjkhaaGreatDoorZao
import Derived.Test.YtpljdjmpamjkhaaGreatDoorZaf
import Derived.Test.YtpljdjmpamjkhaaGreatDoorZaw
import Derived.Test.YtpljdjmpamjkhaaGreatDoorZbm
import Derived.Test.YtpljdjmpamjkhaaGreatDoorZbn
set_option linter.unusedVariables false
set_option linter.unusedSimpArgs false
set_option maxRecDepth 100000
set_option maxHeartbeats 8000000
namespace Go.Proofs.YtpljdjmpamjkhaaGreatDoor
open Go.RowKit Go.Lib
theorem refFault_id (a:List Fd) (f:Fd):(f.1<=lastI a)↔(f.1=0∨(0<a.length/\f.1<=lastI a)):=by
 constructor
 ·intro h
  rcases Nat.eq_zero_or_pos a.length with h0 | h0
  ·rw [List.eq_nil_of_length_eq_zero h0] at h
   left
   simpa [lastI] using h
  ·exact Or.inr ⟨h0,h⟩
 ·rintro (h | h)
  ·omega
  ·exact h.2
theorem lastI_take' {l:List Fd} {k m:Nat} (hm:k=m+1) (h:m<l.length):lastI (l.take k)=l[m].1:=by
 subst hm
 exact lastI_take h
theorem refCheck_any {w:World} {v:Value} {l:List Fd} (hs:Sf w v l) (id:Nat):Calls Tryz.prog 15 #[.agg #[.int .u32 (id:Int),v]] w fun e w'=>e=.returned (.int .i64 (chk id l:Int))/\Below w.heap.size w w':=by
 obtain ⟨a,cap,rfl,hcap,hcm⟩:=hs.form
 have HB0:=hidden (below_one w (.cells #[.int .u32 (id:Int),.slice a l.length cap] 25))
 have HS:=hidden (hs.kept (below_one w (.cells #[.int .u32 (id:Int),.slice a l.length cap] 25)))
 obtain ⟨c0,c1⟩:=cell_new2 w (.int .u32 (id:Int)) (.slice a l.length cap) 25
 have hz:w.heap.size<(w.alloc (.cells #[.int .u32 (id:Int),.slice a l.length cap] 25)).heap.size:=by rw [World.size_alloc];omega
 clear hs
 by_cases h1:id=0∨l.length=0∨8<l.length
 ·have HR:Hid (chk id l=1):=hidden (if_pos h1)
  clear c0 c1 hz HS
  by_cases q1:id=0
  ·subst q1
   go_enter Tryz.func15,Tryz.ntmps15
   go_wp2_with fail
   go_ret
   rw [HR.out]
   exact ⟨rfl,HB0.out⟩
  ·have q1':((id:Int)==0)=false:=by simp [q1]
   by_cases q2:l.length=0
   ·have q2':((l.length:Int)==0)=true:=by simp [q2]
    clear h1 q1 q2
    go_enter Tryz.func15,Tryz.ntmps15
    go_wp2_with fail
    go_ret
    rw [HR.out]
    exact ⟨rfl,HB0.out⟩
   ·have q2':((l.length:Int)==0)=false:=by simp [q2]
    have q3:(l.length:Int) > 8:=by omega
    clear h1 q1 q2
    go_enter Tryz.func15,Tryz.ntmps15
    go_wp2_with fail
    go_ret
    rw [HR.out]
    exact ⟨rfl,HB0.out⟩
 ·have HR:Hid (chk id l=fe (l.take 0) (l.drop 0)):=hidden (if_neg h1)
  have q1':((id:Int)==0)=false:=beq_eq_false_iff_ne.2 (by omega)
  have q2':((l.length:Int)==0)=false:=beq_eq_false_iff_ne.2 (by omega)
  have q3:¬ (l.length:Int) > 8:=by omega
  have hl8:l.length<=8:=by omega
  clear h1
  generalize chk id l=CH at *
  generalize hW:w.alloc (.cells #[.int .u32 (id:Int),.slice a l.length cap] 25)=W at *
  go_enter Tryz.func15,Tryz.ntmps15
  go_wp2_with fail
  try rw [hW]
  clear hW
  go_loopw [3] (fun i wr=>∃ k:Nat,k<=l.length/\i=.int .i64 (k:Int)/\CH=fe (l.take k) (l.drop k)/\Below W.heap.size W wr) (fun i _=>l.length-(intOf i).toNat)
  case atStart=>exact ⟨0,by omega,rfl,HR.out,Below.refl _ _⟩
  case round =>
   obtain ⟨k,hk,rfl,hfe,hbel⟩:=hrel
   have HF:=hidden hfe
   have HB:=hidden hbel
   have hzr:=hbel.size
   clear hfe hbel HR
   by_cases hlt:k<l.length
   ·obtain ⟨b,off,rfl,hb,x0,x1,x2,x3⟩:=(HS.out.kept HB.out).at hlt
    have HT:=hidden (HF.out.trans (fe_step hlt))
    have hlt':(k:Int)<(l.length:Int):=by omega
    have hkc:(k:Int)<=(cap:Int):=by omega
    have hknn:(0:Int)<=(k:Int):=by omega
    have hktn:((k:Int)).toNat=k:=by omega
    have hdcap:¬ cap=0:=by omega
    have HST:=hidden (HS.out.take (k:=k) (by omega))
    have hlk:(l.take k).length=k:=by rw [List.length_take];omega
    generalize hf:l[k]=f at *
    obtain ⟨f0,f1,f2,f3⟩:=f
    have HFM:Hid (faultM (l.take k) (f0,f1,f2,f3)=if f0<=lastI (l.take k) then 81 else if free (l.take k) f1=false then 80 else if kindB f2=false then 10 else if (f3 != decide ((l.take k).length=0))=true∨((l.take k).length=0/\f2=2) then 82 else 0):=hidden rfl
    rw [hlk] at HFM
    simp only at *
    have d1:=(HB.out.cell (p:=⟨w.heap.size,1,none⟩) hz).trans c1
    have hbn:=below_one wr (.cells #[.int .u32 (f0:Int),.string f1,.int .u8 (f2:Int),.bool f3] 81)
    have e1:=(hbn.cell (p:=⟨w.heap.size,1,none⟩) (Nat.lt_of_lt_of_le hz hzr)).trans d1
    obtain ⟨g0,g1,g2,g3⟩:=cell_new4 wr (.int .u32 (f0:Int)) (.string f1) (.int .u8 (f2:Int)) (.bool f3) 81
    have HB2:=hidden (HB.out.trans (hbn.mono hzr))
    have hsz:wr.heap.size<(wr.alloc (.cells #[.int .u32 (f0:Int),.string f1,.int .u8 (f2:Int),.bool f3] 81)).heap.size:=by rw [World.size_alloc];omega
    have HSN:=hidden ((HST.out.kept HB.out).kept hbn)
    have HHA:Hid (∀ U,Below (wr.alloc (.cells #[.int .u32 (f0:Int),.string f1,.int .u8 (f2:Int),.bool f3] 81)).heap.size (wr.alloc (.cells #[.int .u32 (f0:Int),.string f1,.int .u8 (f2:Int),.bool f3] 81)) U->Calls Tryz.prog 50 #[.slice (some ⟨b,off,none⟩) k cap,.string f1] U fun e w'=>e=.returned (.bool (hasN (l.take k) f1))/\w'=U):=hidden (fun U hU=>has_any (HSN.out.kept hU) f1)
    generalize hV:wr.alloc (.cells #[.int .u32 (f0:Int),.string f1,.int .u8 (f2:Int),.bool f3] 81)=V at *
    have HKEEP:Hid (∀ w',Below V.heap.size V w'->(w'.cell? ⟨w.heap.size,1,none⟩=some (.slice (some ⟨b,off,none⟩) l.length cap)/\w'.cell? ⟨wr.heap.size,1,none⟩=some (.string f1))/\w'.cell? ⟨wr.heap.size,2,none⟩=some (.int .u8 (f2:Int))/\w'.cell? ⟨wr.heap.size,3,none⟩=some (.bool f3)):=hidden (fun w' h=>⟨⟨(h.cell (p:=⟨w.heap.size,1,none⟩) (show w.heap.size<_ by omega)).trans e1,(h.cell (p:=⟨wr.heap.size,1,none⟩) hsz).trans g1⟩,(h.cell (p:=⟨wr.heap.size,2,none⟩) hsz).trans g2,(h.cell (p:=⟨wr.heap.size,3,none⟩) hsz).trans g3⟩)
    have HNA:Hid (∀ U,Below V.heap.size V U->Calls Tryz.prog 49 #[.string f1] U fun e w'=>e=.returned (.bool (named f1))/\Below V.heap.size V w'/\(w'.cell? ⟨w.heap.size,1,none⟩=some (.slice (some ⟨b,off,none⟩) l.length cap)/\w'.cell? ⟨wr.heap.size,1,none⟩=some (.string f1))):=hidden (fun U hU=>(named_any f1 U).mono (by
     rintro e w2 ⟨rfl,hb2⟩
     have hb3:=below_then hU hb2
     exact ⟨rfl,hb3,(HKEEP.out _ hb3).1⟩))
    have hfree:free (l.take k) f1=(named f1 && !hasN (l.take k) f1):=rfl
    have HFREE:=hidden hfree
    have HID:=hidden (refFault_id (l.take k) (f0,f1,f2,f3))
    rw [hlk] at HID
    have HLAST:Hid (∀ m,k=m+1->∃ la:Nat,lastI (l.take k)=la/\V.cell? ⟨b,off+m*4,none⟩=some (.int .u32 (la:Int))):=hidden (fun m hm=>by
     obtain ⟨b',off',hbe,_,y0,_⟩:=(HS.out.kept HB2.out).at (k:=m) (by omega)
     cases hbe
     exact ⟨_,lastI_take' hm (by omega),y0⟩)
    clear hfree hbn g1 g2 g3 hf hlk HSN HST c0 c1
    generalize faultM (l.take k) (f0,f1,f2,f3)=R at *
    by_cases hz0:f0=0
    ·have hR:R=81:=by rw [HFM.out,if_pos (HID.out.2 (Or.inl hz0))]
     have hz0':((f0:Int)==0)=true:=by rw [hz0];rfl
     rw [hR,if_neg (by omega)] at HT
     clear hR HFM HID hz0 HLAST
     go_wp2_with fail
     try rw [hV]
     clear hV
     go_quiet (fail)
     go_wp2_with fail
     go_ret
     rw [HT.out]
     exact ⟨rfl,below_drewN (below_then HB0.out HB2.out) _⟩
    ·have hz0':((f0:Int)==0)=false:=beq_eq_false_iff_ne.2 (by omega)
     by_cases hbad:0<k/\f0<=lastI (l.take k)
     ·have hR:R=81:=by rw [HFM.out,if_pos (HID.out.2 (Or.inr hbad))]
      obtain ⟨hk0,hle⟩:=hbad
      obtain ⟨m,hm⟩:∃ m,k=m+1:=⟨k-1,by omega⟩
      obtain ⟨la,hla,hcl⟩:=HLAST.out m hm
      rw [hla] at hle
      have t1:decide ((k:Int) > 0)=true:=decide_eq_true (by omega)
      have t1':(k:Int) > 0:=by omega
      have t1n:decide (0<k)=true:=decide_eq_true (by omega)
      have t1m:0<k:=by omega
      have t2:IntKind.i64.wrap ((k:Int)-1)=(m:Int):=by rw [IntKind.wrap_i64];omega
      have t3:(0:Int)<=(m:Int):=by omega
      have t4:(m:Int)<(l.length:Int):=by omega
      have t5:((m:Int)).toNat=m:=by omega
      have t6:decide ((f0:Int)<=(la:Int))=true:=decide_eq_true (by omega)
      have t6':(f0:Int)<=(la:Int):=by omega
      have t7:(k:Int)-1=(m:Int):=by omega
      rw [hR,if_neg (by omega)] at HT
      clear hR HFM HID hz0 HLAST hm hla hk0 hle
      go_wp2_with fail
      try rw [hV]
      clear hV
      go_quiet (fail)
      go_wp2_with fail
      go_ret
      rw [HT.out]
      exact ⟨rfl,below_drewN (below_then HB0.out HB2.out) _⟩
     ·rw [if_neg (fun h=>by rcases HID.out.1 h with h | h;(· exact hz0 h);(· exact hbad h))] at HFM
      have hcase:decide ((k:Int) > 0)=false/\k=0∨decide ((k:Int) > 0)=true/\∃ m la:Nat,k=m+1/\¬ f0<=la/\V.cell? ⟨b,off+m*4,none⟩=some (.int .u32 (la:Int)):=by
       by_cases hk0:k=0
       ·exact Or.inl ⟨decide_eq_false (by omega),hk0⟩
       ·obtain ⟨m,hm⟩:∃ m,k=m+1:=⟨k-1,by omega⟩
        obtain ⟨la,hla,hcl⟩:=HLAST.out m hm
        exact Or.inr ⟨decide_eq_true (by omega),m,la,hm,fun h=>hbad ⟨by omega,by rw [hla];exact h⟩,hcl⟩
      have HK0:Hid (decide (k=0)=((k:Int)==0)):=hidden (by
       by_cases h:k=0
       ·rw [decide_eq_true h,h];rfl
       ·rw [decide_eq_false h,beq_eq_false_iff_ne.2 (by omega)])
      clear hbad hz0 HID HLAST
      rcases hcase with ⟨t1,hk0⟩ | ⟨t1,m,la,hm,hle,hcl⟩
      ·have t1':¬ (k:Int) > 0:=by omega
       have t1n:decide (0<k)=false:=decide_eq_false (by omega)
       have t1m:¬ 0<k:=by omega
       have HKZ:=hidden hk0
       clear hk0
       go_wp2_with fail
       try rw [hV]
       clear hV
       go_quiet (fail)
       obtain ⟨⟨_,g1⟩,_⟩:=HKEEP.out V (Below.refl _ _)
       go_wp2_with fail
       cases hnm:named f1 with
       | false =>
        rw [hnm] at HNA HFREE
        have hR:R=80:=by rw [HFM.out,HFREE.out];rfl
        rw [hR,if_neg (by omega)] at HT
        clear hR HFM hnm
        have hq1:∀ s:SubW (fun x=>Below V.heap.size V x),s.w.cell? ⟨wr.heap.size,1,none⟩=some (.string f1):=fun s=>(HKEEP.out s.w s.ok).1.2
        have hq2:∀ s:SubW (fun x=>Below V.heap.size V x),s.w.cell? ⟨w.heap.size,1,none⟩=some (.slice (some ⟨b,off,none⟩) l.length cap):=fun s=>(HKEEP.out s.w s.ok).1.1
        haveI:Nonempty (SubW (fun x=>Below V.heap.size V x)):=⟨SubW.mk V (Below.refl _ _)⟩
        refine wp_region_still (S:=fun x=>Below V.heap.size V x) (by kernel_rfl) (by kernel_rfl) (below_drewN (Below.refl _ _) _).drew ?_
        repeat (go_big_quiet_step (first | (go_at_call 49;exact (HNA.out _ (SubW.ok _)).mono (fun e w' h=>⟨h.1,SubW.mk w' h.2.1,rfl⟩)) | (go_at_call 50;exact (HHA.out _ (SubW.ok _)).mono (fun e w' h=>⟨h.1,_,h.2⟩))))
        refine wpQuiet_nil ?_
        rintro _ ⟨s2,rfl⟩
        obtain ⟨w2,hw2⟩:∃ x,x=s2.w:=⟨_,rfl⟩
        have hb2:=s2.ok
        rw [← hw2] at hb2 ⊢
        have HBB:=hidden hb2
        clear hw2 hb2 hq1 hq2
        go_wp2_with fail
        go_ret
        rw [HT.out]
        exact ⟨rfl,by first | exact below_then (below_then HB0.out HB2.out) HBB.out | exact below_drewN (below_then (below_then HB0.out HB2.out) HBB.out) _⟩
       | true =>
        rw [hnm] at HNA HFREE
        clear hnm
        cases hha:hasN (l.take k) f1 with
        | true =>
         rw [hha] at HHA HFREE
         have hR:R=80:=by rw [HFM.out,HFREE.out];rfl
         rw [hR,if_neg (by omega)] at HT
         clear hR HFM hha
         have hq1:∀ s:SubW (fun x=>Below V.heap.size V x),s.w.cell? ⟨wr.heap.size,1,none⟩=some (.string f1):=fun s=>(HKEEP.out s.w s.ok).1.2
         have hq2:∀ s:SubW (fun x=>Below V.heap.size V x),s.w.cell? ⟨w.heap.size,1,none⟩=some (.slice (some ⟨b,off,none⟩) l.length cap):=fun s=>(HKEEP.out s.w s.ok).1.1
         haveI:Nonempty (SubW (fun x=>Below V.heap.size V x)):=⟨SubW.mk V (Below.refl _ _)⟩
         refine wp_region_still (S:=fun x=>Below V.heap.size V x) (by kernel_rfl) (by kernel_rfl) (below_drewN (Below.refl _ _) _).drew ?_
         repeat (go_big_quiet_step (first | (go_at_call 49;exact (HNA.out _ (SubW.ok _)).mono (fun e w' h=>⟨h.1,SubW.mk w' h.2.1,rfl⟩)) | (go_at_call 50;exact (HHA.out _ (SubW.ok _)).mono (fun e w' h=>⟨h.1,_,h.2⟩))))
         refine wpQuiet_nil ?_
         rintro _ ⟨s2,rfl⟩
         obtain ⟨w2,hw2⟩:∃ x,x=s2.w:=⟨_,rfl⟩
         have hb2:=s2.ok
         rw [← hw2] at hb2 ⊢
         have HBB:=hidden hb2
         clear hw2 hb2 hq1 hq2
         go_wp2_with fail
         go_ret
         rw [HT.out]
         exact ⟨rfl,by first | exact below_then (below_then HB0.out HB2.out) HBB.out | exact below_drewN (below_then (below_then HB0.out HB2.out) HBB.out) _⟩
        | false =>
         rw [hha] at HHA HFREE
         rw [HFREE.out,if_neg (by simp)] at HFM
         clear hha
         have hq1:∀ s:SubW (fun x=>Below V.heap.size V x),s.w.cell? ⟨wr.heap.size,1,none⟩=some (.string f1):=fun s=>(HKEEP.out s.w s.ok).1.2
         have hq2:∀ s:SubW (fun x=>Below V.heap.size V x),s.w.cell? ⟨w.heap.size,1,none⟩=some (.slice (some ⟨b,off,none⟩) l.length cap):=fun s=>(HKEEP.out s.w s.ok).1.1
         haveI:Nonempty (SubW (fun x=>Below V.heap.size V x)):=⟨SubW.mk V (Below.refl _ _)⟩
         refine wp_region_still (S:=fun x=>Below V.heap.size V x) (by kernel_rfl) (by kernel_rfl) (below_drewN (Below.refl _ _) _).drew ?_
         repeat (go_big_quiet_step (first | (go_at_call 49;exact (HNA.out _ (SubW.ok _)).mono (fun e w' h=>⟨h.1,SubW.mk w' h.2.1,rfl⟩)) | (go_at_call 50;exact (HHA.out _ (SubW.ok _)).mono (fun e w' h=>⟨h.1,_,h.2⟩))))
         refine wpQuiet_nil ?_
         rintro _ ⟨s2,rfl⟩
         obtain ⟨w2,hw2⟩:∃ x,x=s2.w:=⟨_,rfl⟩
         have hb2:=s2.ok
         rw [← hw2] at hb2 ⊢
         have HBB:=hidden hb2
         clear hw2 hb2 hq1 hq2
         obtain ⟨_,y2,y3⟩:=HKEEP.out _ HBB.out
         by_cases hkd:kindB f2=false
         ·rw [if_pos hkd] at HFM
          rw [HFM.out,if_neg (by omega)] at HT
          have hkd':f2=0∨3<f2:=by
           unfold kindB at hkd
           have:=of_decide_eq_false hkd
           omega
          clear HFM hkd
          rcases hkd' with q | q
          ·have q1:(f2:Int)<1:=by omega
           clear q
           go_wp2_with fail
           go_ret
           rw [HT.out]
           exact ⟨rfl,by first | exact below_then (below_then HB0.out HB2.out) HBB.out | exact below_drewN (below_then (below_then HB0.out HB2.out) HBB.out) _⟩
          ·have q1:¬ (f2:Int)<1:=by omega
           have q2:(f2:Int) > 3:=by omega
           clear q
           go_wp2_with fail
           go_ret
           rw [HT.out]
           exact ⟨rfl,by first | exact below_then (below_then HB0.out HB2.out) HBB.out | exact below_drewN (below_then (below_then HB0.out HB2.out) HBB.out) _⟩
         ·rw [if_neg hkd] at HFM
          have hkd':1<=f2/\f2<=3:=by
           unfold kindB at hkd
           simpa using hkd
          have q1:¬ (f2:Int)<1:=by omega
          have q2:¬ (f2:Int) > 3:=by omega
          clear hkd hkd'
          have t0:((k:Int)==0)=true:=by rw [HKZ.out];rfl
          cases f3
          ·have hR:R=82:=by rw [HFM.out,if_pos (Or.inl (by rw [HKZ.out];rfl))]
           rw [hR,if_neg (by omega)] at HT
           clear hR HFM
           go_wp2_with fail
           go_ret
           rw [HT.out]
           exact ⟨rfl,by first | exact below_then (below_then HB0.out HB2.out) HBB.out | exact below_drewN (below_then (below_then HB0.out HB2.out) HBB.out) _⟩
          ·by_cases h2:f2=2
           ·have hR:R=82:=by rw [HFM.out,if_pos (Or.inr ⟨HKZ.out,h2⟩)]
            have h2':((f2:Int)==2)=true:=by rw [h2];rfl
            rw [hR,if_neg (by omega)] at HT
            clear hR HFM h2
            go_wp2_with fail
            go_ret
            rw [HT.out]
            exact ⟨rfl,by first | exact below_then (below_then HB0.out HB2.out) HBB.out | exact below_drewN (below_then (below_then HB0.out HB2.out) HBB.out) _⟩
           ·have hR:R=0:=by rw [HFM.out,if_neg (fun h=>by rcases h with h | ⟨_,h⟩;(· rw [HKZ.out] at h;cases h);(· exact h2 h))]
            have h2':((f2:Int)==2)=false:=beq_eq_false_iff_ne.2 (by omega)
            rw [if_pos hR] at HT
            clear hR HFM h2
            go_wp2_with fail
            go_roundw
            case rel=>exact ⟨k+1,by omega,by go_num,HT.out,by first | exact below_then HB2.out HBB.out | exact below_drewN (below_then HB2.out HBB.out) _⟩
            case measure=>simp [intOf];omega
      ·have t1':(k:Int) > 0:=by omega
       have t1n:decide (0<k)=true:=decide_eq_true (by omega)
       have t1m:0<k:=by omega
       have t2:IntKind.i64.wrap ((k:Int)-1)=(m:Int):=by rw [IntKind.wrap_i64];omega
       have t3:(0:Int)<=(m:Int):=by omega
       have t4:(m:Int)<(l.length:Int):=by omega
       have t5:((m:Int)).toNat=m:=by omega
       have t6:decide ((f0:Int)<=(la:Int))=false:=decide_eq_false (by omega)
       have t6':¬ (f0:Int)<=(la:Int):=by omega
       have t7:(k:Int)-1=(m:Int):=by omega
       clear hm hle
       go_wp2_with fail
       try rw [hV]
       clear hV
       go_quiet (fail)
       obtain ⟨⟨_,g1⟩,_⟩:=HKEEP.out V (Below.refl _ _)
       go_wp2_with fail
       cases hnm:named f1 with
       | false =>
        rw [hnm] at HNA HFREE
        have hR:R=80:=by rw [HFM.out,HFREE.out];rfl
        rw [hR,if_neg (by omega)] at HT
        clear hR HFM hnm
        have hq1:∀ s:SubW (fun x=>Below V.heap.size V x),s.w.cell? ⟨wr.heap.size,1,none⟩=some (.string f1):=fun s=>(HKEEP.out s.w s.ok).1.2
        have hq2:∀ s:SubW (fun x=>Below V.heap.size V x),s.w.cell? ⟨w.heap.size,1,none⟩=some (.slice (some ⟨b,off,none⟩) l.length cap):=fun s=>(HKEEP.out s.w s.ok).1.1
        haveI:Nonempty (SubW (fun x=>Below V.heap.size V x)):=⟨SubW.mk V (Below.refl _ _)⟩
        refine wp_region_still (S:=fun x=>Below V.heap.size V x) (by kernel_rfl) (by kernel_rfl) (below_drewN (Below.refl _ _) _).drew ?_
        repeat (go_big_quiet_step (first | (go_at_call 49;exact (HNA.out _ (SubW.ok _)).mono (fun e w' h=>⟨h.1,SubW.mk w' h.2.1,rfl⟩)) | (go_at_call 50;exact (HHA.out _ (SubW.ok _)).mono (fun e w' h=>⟨h.1,_,h.2⟩))))
        refine wpQuiet_nil ?_
        rintro _ ⟨s2,rfl⟩
        obtain ⟨w2,hw2⟩:∃ x,x=s2.w:=⟨_,rfl⟩
        have hb2:=s2.ok
        rw [← hw2] at hb2 ⊢
        have HBB:=hidden hb2
        clear hw2 hb2 hq1 hq2
        go_wp2_with fail
        go_ret
        rw [HT.out]
        exact ⟨rfl,by first | exact below_then (below_then HB0.out HB2.out) HBB.out | exact below_drewN (below_then (below_then HB0.out HB2.out) HBB.out) _⟩
       | true =>
        rw [hnm] at HNA HFREE
        clear hnm
        cases hha:hasN (l.take k) f1 with
        | true =>
         rw [hha] at HHA HFREE
         have hR:R=80:=by rw [HFM.out,HFREE.out];rfl
         rw [hR,if_neg (by omega)] at HT
         clear hR HFM hha
         have hq1:∀ s:SubW (fun x=>Below V.heap.size V x),s.w.cell? ⟨wr.heap.size,1,none⟩=some (.string f1):=fun s=>(HKEEP.out s.w s.ok).1.2
         have hq2:∀ s:SubW (fun x=>Below V.heap.size V x),s.w.cell? ⟨w.heap.size,1,none⟩=some (.slice (some ⟨b,off,none⟩) l.length cap):=fun s=>(HKEEP.out s.w s.ok).1.1
         haveI:Nonempty (SubW (fun x=>Below V.heap.size V x)):=⟨SubW.mk V (Below.refl _ _)⟩
         refine wp_region_still (S:=fun x=>Below V.heap.size V x) (by kernel_rfl) (by kernel_rfl) (below_drewN (Below.refl _ _) _).drew ?_
         repeat (go_big_quiet_step (first | (go_at_call 49;exact (HNA.out _ (SubW.ok _)).mono (fun e w' h=>⟨h.1,SubW.mk w' h.2.1,rfl⟩)) | (go_at_call 50;exact (HHA.out _ (SubW.ok _)).mono (fun e w' h=>⟨h.1,_,h.2⟩))))
         refine wpQuiet_nil ?_
         rintro _ ⟨s2,rfl⟩
         obtain ⟨w2,hw2⟩:∃ x,x=s2.w:=⟨_,rfl⟩
         have hb2:=s2.ok
         rw [← hw2] at hb2 ⊢
         have HBB:=hidden hb2
         clear hw2 hb2 hq1 hq2
         go_wp2_with fail
         go_ret
         rw [HT.out]
         exact ⟨rfl,by first | exact below_then (below_then HB0.out HB2.out) HBB.out | exact below_drewN (below_then (below_then HB0.out HB2.out) HBB.out) _⟩
        | false =>
         rw [hha] at HHA HFREE
         rw [HFREE.out,if_neg (by simp)] at HFM
         clear hha
         have hq1:∀ s:SubW (fun x=>Below V.heap.size V x),s.w.cell? ⟨wr.heap.size,1,none⟩=some (.string f1):=fun s=>(HKEEP.out s.w s.ok).1.2
         have hq2:∀ s:SubW (fun x=>Below V.heap.size V x),s.w.cell? ⟨w.heap.size,1,none⟩=some (.slice (some ⟨b,off,none⟩) l.length cap):=fun s=>(HKEEP.out s.w s.ok).1.1
         haveI:Nonempty (SubW (fun x=>Below V.heap.size V x)):=⟨SubW.mk V (Below.refl _ _)⟩
         refine wp_region_still (S:=fun x=>Below V.heap.size V x) (by kernel_rfl) (by kernel_rfl) (below_drewN (Below.refl _ _) _).drew ?_
         repeat (go_big_quiet_step (first | (go_at_call 49;exact (HNA.out _ (SubW.ok _)).mono (fun e w' h=>⟨h.1,SubW.mk w' h.2.1,rfl⟩)) | (go_at_call 50;exact (HHA.out _ (SubW.ok _)).mono (fun e w' h=>⟨h.1,_,h.2⟩))))
         refine wpQuiet_nil ?_
         rintro _ ⟨s2,rfl⟩
         obtain ⟨w2,hw2⟩:∃ x,x=s2.w:=⟨_,rfl⟩
         have hb2:=s2.ok
         rw [← hw2] at hb2 ⊢
         have HBB:=hidden hb2
         clear hw2 hb2 hq1 hq2
         obtain ⟨_,y2,y3⟩:=HKEEP.out _ HBB.out
         by_cases hkd:kindB f2=false
         ·rw [if_pos hkd] at HFM
          rw [HFM.out,if_neg (by omega)] at HT
          have hkd':f2=0∨3<f2:=by
           unfold kindB at hkd
           have:=of_decide_eq_false hkd
           omega
          clear HFM hkd
          rcases hkd' with q | q
          ·have q1:(f2:Int)<1:=by omega
           clear q
           go_wp2_with fail
           go_ret
           rw [HT.out]
           exact ⟨rfl,by first | exact below_then (below_then HB0.out HB2.out) HBB.out | exact below_drewN (below_then (below_then HB0.out HB2.out) HBB.out) _⟩
          ·have q1:¬ (f2:Int)<1:=by omega
           have q2:(f2:Int) > 3:=by omega
           clear q
           go_wp2_with fail
           go_ret
           rw [HT.out]
           exact ⟨rfl,by first | exact below_then (below_then HB0.out HB2.out) HBB.out | exact below_drewN (below_then (below_then HB0.out HB2.out) HBB.out) _⟩
         ·rw [if_neg hkd] at HFM
          have hkd':1<=f2/\f2<=3:=by
           unfold kindB at hkd
           simpa using hkd
          have q1:¬ (f2:Int)<1:=by omega
          have q2:¬ (f2:Int) > 3:=by omega
          clear hkd hkd'
          have t0:((k:Int)==0)=false:=beq_eq_false_iff_ne.2 (by omega)
          cases f3
          ·have hR:R=0:=by rw [HFM.out,if_neg (fun h=>by rcases h with h | ⟨h,_⟩;(· rw [decide_eq_false (show ¬ k=0 by omega)] at h;cases h);(· omega))]
           rw [if_pos hR] at HT
           clear hR HFM
           go_wp2_with fail
           go_roundw
           case rel=>exact ⟨k+1,by omega,by go_num,HT.out,by first | exact below_then HB2.out HBB.out | exact below_drewN (below_then HB2.out HBB.out) _⟩
           case measure=>simp [intOf];omega
          ·have hR:R=82:=by rw [HFM.out,if_pos (Or.inl (by rw [decide_eq_false (show ¬ k=0 by omega)];rfl))]
           rw [hR,if_neg (by omega)] at HT
           clear hR HFM
           go_wp2_with fail
           go_ret
           rw [HT.out]
           exact ⟨rfl,by first | exact below_then (below_then HB0.out HB2.out) HBB.out | exact below_drewN (below_then (below_then HB0.out HB2.out) HBB.out) _⟩
   ·obtain rfl:k=l.length:=by omega
    have hge:¬ ((l.length:Nat):Int)<(l.length:Int):=by omega
    have HT:=hidden (HF.out.trans (fe_end l))
    clear HF
    have d1:=(HB.out.cell (p:=⟨w.heap.size,1,none⟩) hz).trans c1
    go_wp2_with fail
    go_ret
    rw [HT.out]
    exact ⟨rfl,below_then HB0.out HB.out⟩
end Go.Proofs.YtpljdjmpamjkhaaGreatDoor
set_option linter.unusedVariables false
set_option linter.unusedSimpArgs false
namespace Go.Proofs.YtpljdjmpamjkhaaGreatDoor
open Go.RowKit Go.Lib
def RawSt (T:Nat) (W:World) (p:Nat) (b:List Nat) (f:Nat) (a:Option Addr) (cap:Nat):Prop :=
 W.heap[p]?=some (.cells #[.slice a b.length cap,.int .i64 (f:Int)] T (0,0))/\b.length<=cap/\cap<=maxLen/\Bs b/\(a=none->cap=0) /\
  (0<b.length->∃ g off,a=some ⟨g,off,none⟩/\g<p/\∀ j (h:j<b.length),W.cell? ⟨g,off+j,none⟩=some (.int .u8 (b[j]:Int)))
theorem St.cells2 {T:Nat} {W:World} {p:Nat} {b:List Nat} {f:Nat} (h:St T W p b f) :
  ∃ a cap,W.cell? ⟨p,0,none⟩=some (.slice a b.length cap)/\W.cell? ⟨p,1,none⟩=some (.int .i64 (f:Int))/\W.frozen? ⟨p,0,none⟩=false/\W.frozen? ⟨p,1,none⟩=false /\
   b.length<=cap/\cap<=9223372036854775807/\Sv W (.slice a b.length cap) (vals .u8 b)/\(a=none->cap=0)/\RawSt T W p b f a cap:=by
 have hlt:=h.lt
 obtain ⟨a,cap,h1,h2,h3,h4,h5,h6⟩:=h
 have hsv:Sv W (.slice a b.length cap) (vals .u8 b):=by
  refine ⟨a,cap,by rw [vals_length],by rw [vals_length];omega,h3,h5,fun h0=>?_⟩
  rw [vals_length] at h0
  obtain ⟨g,off,e,hg,hc⟩:=h6 h0
  refine ⟨g,off,e,by omega,fun j x hj=>?_⟩
  have hj':j<b.length:=by
   have:=(List.getElem?_eq_some_iff.1 hj).1
   rwa [vals_length] at this
  rw [vals_get hj'] at hj
  rw [hc j hj']
  exact hj
 exact ⟨a,cap,by rw [cell_block h1];rfl,by rw [cell_block h1];rfl,by simp [World.frozen?,h1],by simp [World.frozen?,h1],h2,by unfold maxLen at h3;omega,hsv,h5,h1,h2,h3,h4,h5,h6⟩
end Go.Proofs.YtpljdjmpamjkhaaGreatDoor
set_option linter.unusedVariables false
set_option linter.unusedSimpArgs false
namespace Go.Proofs.YtpljdjmpamjkhaaGreatDoor
open Go.RowKit Go.Lib
theorem rds_unpack2 {b b1:List Nat} {f i:Nat} {l:List Fd} (h:Rds schU b f (i,l) b1 0):Rds unpackM b f (i,l) b1 (chk i l) :=
 h.bind ⟨fun _=>rfl,fun h=>absurd rfl h⟩
end Go.Proofs.YtpljdjmpamjkhaaGreatDoor
