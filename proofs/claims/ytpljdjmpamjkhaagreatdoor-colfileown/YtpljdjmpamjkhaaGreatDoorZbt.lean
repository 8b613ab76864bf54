/- Contracts of the laws: rows compared; rows that may be; rows that fit. Contracts of the laws: rows that may be; rows that fit. The laws' example: it comes out as the document says. -/
import Derived.Test.YtpljdjmpamjkhaaGreatDoorZbs
import Derived.Test.YtpljdjmpamjkhaaGreatDoorZao
import Derived.Test.YtpljdjmpamjkhaaGreatDoorZbr
set_option linter.unusedVariables false
set_option linter.unusedSimpArgs false
set_option maxRecDepth 100000
set_option maxHeartbeats 4000000
namespace Go.Proofs.YtpljdjmpamjkhaaGreatDoor
open Go.RowKit Go.Lib
theorem Fine.bsA {c:Cl} (h:Fine c):Bs c.2.2:=h.okc.2.2
theorem lsame_any {w:World} {v1 v2:Value} {a b:List Row} (h1:Sr w v1 a) (h2:Sr w v2 b) (f1:∀ r∈a,∀ c∈r,Fine c) (f2:∀ r∈b,∀ c∈r,Fine c) :
  Calls Tryz.prog 56 #[v1,v2] w fun e w'=>e=.returned (.bool (decide (a=b)))/\Below w.heap.size w w':=by
 have HS1:=hidden h1
 have HS2:=hidden h2
 have HF1:=hidden f1
 have HF2:=hidden f2
 obtain ⟨a1,cap1,rfl,hcap1,hcm1⟩:=h1.form
 obtain ⟨a2,cap2,rfl,hcap2,hcm2⟩:=h2.form
 have hcm1':cap1<=9223372036854775807:=by unfold maxLen at hcm1;omega
 have hcm2':cap2<=9223372036854775807:=by unfold maxLen at hcm2;omega
 clear h1 h2 hcm1 hcm2 f1 f2
 obtain ⟨D,hD⟩:∃ D,decide (a=b)=D:=⟨_,rfl⟩
 have HD:=hidden hD
 rw [hD]
 clear hD
 by_cases hl:a.length=b.length
 ·have hln:((a.length:Int) != (b.length:Int))=false:=by simp [hl]
  go_enter Tryz.func56,Tryz.ntmps56
  go_wp2_with fail
  go_loopw [5] (fun i wr=>∃ j:Nat,j<=a.length/\i=.int .i64 (j:Int)/\a.take j=b.take j/\Below w.heap.size w wr) (fun i _=>a.length-(intOf i).toNat)
  case atStart=>exact ⟨0,by omega,rfl,rfl,Below.refl _ _⟩
  case round =>
   obtain ⟨j,hj,rfl,htk,hbel⟩:=hrel
   have HTK:=hidden htk
   have HB:=hidden hbel
   have hzr:=hbel.size
   clear htk hbel
   by_cases hlt:j<a.length
   ·have hlt2:j<b.length:=by omega
    obtain ⟨g1,o1,rv1,rfl,hg1,hc1,hs1⟩:=(HS1.out.kept HB.out).at hlt
    obtain ⟨g2,o2,rv2,rfl,hg2,hc2,hs2⟩:=(HS2.out.kept HB.out).at hlt2
    have hlt':(j:Int)<(a.length:Int):=by omega
    have hlt2':(j:Int)<(b.length:Int):=by omega
    have HE:Hid (a[j]=b[j]->a.take (j+1)=b.take (j+1)):=hidden (fun e=>take_succ_eq hlt hlt2 HTK.out e)
    have HN:Hid (a[j]≠b[j]->a≠b):=hidden (fun e h=>e (by subst h;rfl))
    have HCA:Hid (∀ U,Below wr.heap.size wr U->Calls Tryz.prog 36 #[rv1,rv2] U fun e w'=>e=.returned (.bool (decide (a[j]=b[j])))/\Below wr.heap.size wr w'):=hidden (fun U hU=>by
     refine (sameRow_any (hs1.kept hU) (hs2.kept hU) (fun c hc=>(HF1.out _ (List.getElem_mem hlt) c hc).bsA) (fun c hc=>(HF2.out _ (List.getElem_mem hlt2) c hc).bsA)).mono ?_
     rintro e w' ⟨rfl,hb⟩
     exact ⟨rfl,below_then hU hb⟩)
    obtain ⟨x1,y1,rfl,_,_⟩:=hs1.form
    obtain ⟨x2,y2,rfl,_,_⟩:=hs2.form
    have hq1:∀ s:SubW (fun x=>Below wr.heap.size wr x),s.w.cell? ⟨g1,o1+j,none⟩=some (.slice x1 a[j].length y1):=fun s=>(s.ok.cell (p:=⟨g1,o1+j,none⟩) hg1).trans hc1
    have hq2:∀ s:SubW (fun x=>Below wr.heap.size wr x),s.w.cell? ⟨g2,o2+j,none⟩=some (.slice x2 b[j].length y2):=fun s=>(s.ok.cell (p:=⟨g2,o2+j,none⟩) hg2).trans hc2
    haveI:Nonempty (SubW (fun x=>Below wr.heap.size wr x)):=⟨SubW.mk wr (Below.refl _ _)⟩
    obtain ⟨d,hd⟩:∃ d,decide (a[j]=b[j])=d:=⟨_,rfl⟩
    rw [hd] at HCA
    have HDD:=hidden hd
    generalize a[j].length=n1 at *
    generalize b[j].length=n2 at *
    clear hs1 hs2 hc1 hc2 hd
    go_wp2_with fail
    refine wp_region_still (S:=fun x=>Below wr.heap.size wr x) (by kernel_rfl) (by kernel_rfl) (by first | exact (Below.refl _ _).drew | exact (below_drewN (Below.refl _ _) _).drew) ?_
    repeat (go_big_quiet_step (first | (go_at_call 36;exact (HCA.out _ (SubW.ok _)).mono (fun e w' h=>⟨h.1,SubW.mk w' h.2,rfl⟩))))
    refine wpQuiet_nil ?_
    rintro _ ⟨s2,rfl⟩
    obtain ⟨w2,hw2⟩:∃ x,x=s2.w:=⟨_,rfl⟩
    have hb2:=s2.ok
    rw [← hw2] at hb2 ⊢
    have HB2:=hidden (below_then HB.out hb2)
    clear hw2 hb2 hq1 hq2 HCA
    cases d with
    | true =>
     have HE2:=hidden (HE.out (of_decide_eq_true HDD.out))
     clear HDD HE HN
     go_wp2_with fail
     go_roundw
     case rel=>exact ⟨j+1,by omega,by go_num,HE2.out,HB2.out⟩
     case measure=>simp [intOf];omega
    | false =>
     have HD2:Hid (D=false):=hidden (by rw [← HD.out];exact decide_eq_false (HN.out (of_decide_eq_false HDD.out)))
     clear HDD HE HN
     go_wp2_with fail
     go_ret
     exact ⟨by rw [HD2.out];rfl,HB2.out⟩
   ·obtain rfl:j=a.length:=by omega
    have hge:¬ ((a.length:Nat):Int)<(a.length:Int):=by omega
    have HD2:Hid (D=true):=hidden (by
     have:=HTK.out
     rw [List.take_length,hl,List.take_length] at this
     rw [← HD.out]
     exact decide_eq_true this)
    go_wp2_with fail
    go_ret
    exact ⟨by rw [HD2.out];rfl,HB.out⟩
 ·have hln:((a.length:Int) != (b.length:Int))=true:=by simp;omega
  have HD2:Hid (D=false):=hidden (by rw [← HD.out];exact decide_eq_false (fun e=>hl (by rw [e])))
  go_enter Tryz.func56,Tryz.ntmps56
  go_wp2_with fail
  go_ret
  exact ⟨by rw [HD2.out];rfl,Below.refl _ _⟩
theorem lis_any {w:World} {v1 v2:Value} {a b:List Row} (h1:Rv w v1 a) (h2:Sr w v2 b) (f1:∀ r∈a,∀ c∈r,Fine c) (f2:∀ r∈b,∀ c∈r,Fine c) (hl:a.length<=1000) (hll:∀ r∈a,r.length<=600) :
  Calls Tryz.prog 22 #[v1,v2] w fun e w'=>e=.returned (.bool (decide (a=b)))/\Below w.heap.size w w':=by
 have HA:=hidden (lall_any h1 f1 hl hll)
 have H2:=hidden h2
 have HF1:=hidden f1
 have HF2:=hidden f2
 clear h1 h2 f1 f2
 go_enter Tryz.func22,Tryz.ntmps22
 go_wp2_with fail
 refine HA.out.mono ?_
 rintro e w1 ⟨⟨v',l,rfl,ho,rfl⟩,hb1⟩
 have HS:=hidden (lsame_any ho.sr (H2.out.kept hb1) HF1.out HF2.out)
 have HB1:=hidden hb1
 clear ho hb1
 go_wp2_with fail
 refine HS.out.mono ?_
 rintro e w2 ⟨rfl,hb2⟩
 have HB2:=hidden (below_then HB1.out hb2)
 clear hb2
 go_wp2_with fail
 go_ret
 exact ⟨rfl,HB2.out⟩
end Go.Proofs.YtpljdjmpamjkhaaGreatDoor
set_option linter.unusedVariables false
set_option linter.unusedSimpArgs false
set_option maxRecDepth 100000
set_option maxHeartbeats 4000000
namespace Go.Proofs.YtpljdjmpamjkhaaGreatDoor
open Go.RowKit Go.Lib
theorem Sc.take {W:World} {a:Option Addr} {n cap:Nat} {l:Row} (h:Sc W (.slice a n cap) l) {k:Nat} (hk:k<=l.length):Sc W (.slice a k cap) (l.take k):=by
 obtain ⟨a',cap',e,h1,h2,h4⟩:=h
 simp only [Value.slice.injEq] at e
 obtain ⟨rfl,_,rfl⟩:=e
 have hl:(l.take k).length=k:=by rw [List.length_take];omega
 refine ⟨a,cap,by rw [hl],by omega,h2,fun h0=>?_⟩
 obtain ⟨b,off,h5,h6,h7⟩:=h4 (by omega)
 refine ⟨b,off,h5,h6,fun j x hx=>h7 j x ?_⟩
 have e:cvals l=cvals (l.take k)++cvals (l.drop k):=by rw [← cvals_append,List.take_append_drop]
 have hj:=(List.getElem?_eq_some_iff.1 hx).1
 rw [e,List.getElem?_append_left hj]
 exact hx
def Fit10 (l:List (Value×Row)):Prop:=l.length<=300/\∀ x∈l,x.2.length<=20/\∀ c∈x.2,Fine c
theorem lawRows_any {w:World} {v:Value} {rs:List Row} (hs:Sr w v rs) (ho:∀ r∈rs,∀ c∈r,Okc c) :
  Calls Tryz.prog 11 #[v] w fun e w'=>(∃ v' l,e=.returned v'/\Oc w' w.heap.size v' l/\Fit10 l)/\Below w.heap.size w w':=by
 have HS:=hidden hs
 have HO:=hidden ho
 obtain ⟨a,cap,rfl,hcap,hcm⟩:=hs.form
 have hcm':cap<=9223372036854775807:=by unfold maxLen at hcm;omega
 clear hs hcm ho
 go_enter Tryz.func11,Tryz.ntmps11
 go_wp2_with fail
 go_loopw [3,4] (fun o i wr=>∃ (j:Nat) (l:List (Value×Row)),j<=rs.length/\j<=300/\i=.int .i64 (j:Int)/\Oc wr w.heap.size o l/\l.length=j/\Fit10 l/\Below w.heap.size w wr) (fun _ i _=>rs.length-(intOf i).toNat)
 case atStart=>exact ⟨0,[],by omega,by omega,rfl,Oc.nil _ _,rfl,⟨by simp,fun x hx=>by simp at hx⟩,Below.refl _ _⟩
 case round =>
  obtain ⟨j,l,hj,hj3,rfl,how,hll,hf10,hbel⟩:=hrel
  have HOW:=hidden how
  have HB:=hidden hbel
  have HFT:=hidden hf10
  have HLJ:=hidden hll
  have hzr:=hbel.size
  obtain ⟨la,lc,rfl,hl1,hl2,_⟩:=how.form
  clear how hbel hf10 hll
  by_cases hlt:j<rs.length
  ·have hlt':(j:Int)<(rs.length:Int):=by omega
   by_cases h3:j<300
   ·have h3':(j:Int)<300:=by omega
    obtain ⟨g,off,rv,rfl,hg,hcell,hsc⟩:=(HS.out.kept HB.out).at hlt
    have HOC:=hidden (HO.out _ (List.getElem_mem hlt))
    generalize rs[j]=r at *
    obtain ⟨ra,rc,rfl,hrc1,hrc2⟩:=hsc.form
    have hrc2':rc<=9223372036854775807:=by unfold maxLen at hrc2;omega
    obtain ⟨m,hm⟩:∃ m,min r.length 20=m:=⟨_,rfl⟩
    have hml:m<=r.length:=by omega
    have hm20:m<=20:=by omega
    have hmi:min (r.length:Int) 20=(m:Int):=by omega
    have hm0:(0:Int)<=(m:Int):=by omega
    have hmc:(m:Int)<=(rc:Int):=by omega
    have hmn:((m:Nat):Int).toNat=m:=by omega
    have hst:=hsc.take hml
    have HCA:Hid (∀ U,Below wr.heap.size wr U->Calls Tryz.prog 38 #[.slice ra m rc] U fun e w'=>∃ ra' rc',e=.returned (.slice ra' m rc')/\OwnC w' wr.heap.size (.slice ra' m rc') ((r.take m).map fixC)/\Below wr.heap.size wr w'/\Oc w' w.heap.size (.slice la l.length lc) l/\Below w.heap.size w w'/\∀ o,(w'.alloc o).heap.size=w'.heap.size+1):=hidden (fun U hU=>by
     refine (fixRow_any (hst.kept hU) (by rw [List.length_take];omega)).mono ?_
     rintro e w' ⟨⟨v',rfl,ho'⟩,hb'⟩
     have hb2:=below_then hU hb'
     have hlen:((r.take m).map fixC).length=m:=by rw [List.length_map,List.length_take];omega
     obtain ⟨ra',rc',rfl,_,_⟩:=own_form3 ho'
     rw [hlen]
     have ho2:=OwnC.low' ho' hU.size
     rw [hlen] at ho2
     exact ⟨ra',rc',rfl,ho2,hb2,HOW.out.kept hb2,HB.out.trans (hb2.mono hzr),fun o=>World.size_alloc _ _⟩)
    have HFR:Hid (((r.take m).map fixC).length<=20/\∀ c∈(r.take m).map fixC,Fine c):=hidden ⟨by rw [List.length_map,List.length_take];omega,fun c hc=>by
     obtain ⟨x,hx,rfl⟩:=List.mem_map.1 hc
     exact fixC_fine (HOC.out x (List.mem_of_mem_take hx))⟩
    generalize (r.take m).map fixC=r2 at *
    clear hsc hst hm
    go_upto_region 5 with fail
    refine wp_region_noPanic ?_
    go_region_law (first
     | (refine step_append_o (by rfl) _ _ (by rfl) w.heap.size _ _ l [(.slice ra' m rc',r2)] (by rfl) ?_ (by rfl) ?_ ?_ ?_ ?_ ?_;exact HO5.out.kept (below_one _ _);exact sv_lit1 (cell_new _ _ _) (by rw [World.size_alloc];omega);(intro x hx;rw [List.mem_singleton.1 hx];exact (HR5.out.kept (below_one _ _)).low' hzr);(have:=HLJ.out;simp only [List.length_singleton];omega);(rw [World.size_alloc];have:=HB5.out.size;omega);intro v6 w6 o6 b6;have HO6:=hidden o6;have HB6:=hidden ((HB5.out.alloc HB5.out.size _).trans b6);clear o6 b6;dsimp only)
     | (go_simp;go_at_call 38;refine (HCA.out _ ?_).mono ?_;exact below_drewN (Below.refl wr.heap.size wr) _;rintro e w5 ⟨ra',rc',rfl,ho5,hb5,hl5,hw5,hz5⟩;have HR5:=hidden ho5;have HB5:=hidden hw5;have HO5:=hidden hl5;clear ho5 hb5 hl5 hw5;dsimp only)
     | fail)
    all_goals refine NoPanic.normal ?_
    all_goals go_wp2_with fail
    all_goals go_roundw
    all_goals first
     | (simp [intOf];omega)
     | refine ⟨j+1,_,by omega,by omega,by go_num,HO6.out,by rw [List.length_append,HLJ.out];rfl,⟨by rw [List.length_append,HLJ.out];simp only [List.length_singleton];omega,fun x hx=>?_⟩,HB6.out⟩
    all_goals rcases List.mem_append.1 hx with hx | hx
    all_goals first
     | exact HFT.out.2 x hx
     | (rw [List.mem_singleton.1 hx];exact HFR.out)
   ·have h3':¬ (j:Int)<300:=by omega
    go_wp2_with fail
    go_ret
    first | exact ⟨⟨_,_,rfl,HOW.out,HFT.out⟩,HB.out⟩ | exact ⟨⟨_,rfl,_,HOW.out,HFT.out⟩,HB.out⟩
  ·have hge:¬ (j:Int)<(rs.length:Int):=by omega
   go_wp2_with fail
   go_ret
   first | exact ⟨⟨_,_,rfl,HOW.out,HFT.out⟩,HB.out⟩ | exact ⟨⟨_,rfl,_,HOW.out,HFT.out⟩,HB.out⟩
end Go.Proofs.YtpljdjmpamjkhaaGreatDoor
set_option linter.unusedVariables false
set_option linter.unusedSimpArgs false
namespace Go.Proofs.YtpljdjmpamjkhaaGreatDoor
open Go.RowKit Go.Lib
theorem litV78 (w:World) (l:Row) (hl:l.length<=256):OwnV (w.alloc (.cells (vvals l).toArray 78)) w.heap.size (.slice (some ⟨w.heap.size,0,none⟩) l.length l.length) l :=
 World.ownsRow_lit (e:=78) (size:=1) w (vvals l).toArray l.length (base:=w.heap.size) (Nat.le_refl _) (by unfold maxLen;omega) (by simp [vvals])
theorem litC52 (w:World) (l:Row) (hl:l.length<=256):OwnC (w.alloc (.cells (cvals l).toArray 52)) w.heap.size (.slice (some ⟨w.heap.size,0,none⟩) l.length l.length) l :=
 World.ownsRow_lit (e:=52) (size:=3) w (cvals l).toArray l.length (base:=w.heap.size) (Nat.le_refl _) (by unfold maxLen;omega) (by simp [cvals_length])
theorem lit_rows (W:World):let W3:=W.alloc (.cells #[.iface 2 (.int .i64 1),.iface 9 (.string ⟨#[97]⟩)] 78);let W4:=W3.alloc (.cells #[.iface 2 (.int .i64 2),.nilIface] 78)
  Rv (W4.alloc (.cells #[.slice (some ⟨W.heap.size,0,none⟩) 2 2,.slice (some ⟨W.heap.size+1,0,none⟩) 2 2] 79)) (.slice (some ⟨W.heap.size+1+1,0,none⟩) 2 2) rA/\Below W.heap.size W (W4.alloc (.cells #[.slice (some ⟨W.heap.size,0,none⟩) 2 2,.slice (some ⟨W.heap.size+1,0,none⟩) 2 2] 79)):=by
 intro W3 W4
 have h3:OwnV W3 W.heap.size (.slice (some ⟨W.heap.size,0,none⟩) 2 2) rA1:=litV78 W rA1 (by decide)
 have h4:OwnV W4 W3.heap.size (.slice (some ⟨W3.heap.size,0,none⟩) 2 2) rA2:=litV78 W3 rA2 (by decide)
 have z3:W3.heap.size=W.heap.size+1:=World.size_alloc _ _
 have z4:W4.heap.size=W.heap.size+1+1:=by show (W3.alloc _).heap.size=_;rw [World.size_alloc,z3]
 rw [z3] at h4
 have b3:Below W3.heap.size W3 W4:=below_one _ _
 have b4:=below_one W4 (.cells #[.slice (some ⟨W.heap.size,0,none⟩) 2 2,.slice (some ⟨W.heap.size+1,0,none⟩) 2 2] 79)
 obtain ⟨c0,c1⟩:=cell_new2 W4 (.slice (some ⟨W.heap.size,0,none⟩) 2 2) (.slice (some ⟨W.heap.size+1,0,none⟩) 2 2) 79
 have z5:(W4.alloc (.cells #[.slice (some ⟨W.heap.size,0,none⟩) 2 2,.slice (some ⟨W.heap.size+1,0,none⟩) 2 2] 79)).heap.size=W.heap.size+3:=by rw [World.size_alloc,z4]
 refine ⟨⟨_,2,rfl,Nat.le_refl _,by unfold maxLen;omega,fun e=>(by cases e),fun _=>⟨W.heap.size+1+1,0,rfl,by omega,fun j hj=>?_⟩⟩,?_⟩
 ·rw [z4] at c0 c1
  have hj2:j<2:=hj
  obtain rfl | rfl:j=0∨j=1:=by omega
  ·exact ⟨_,c0,((h3.kept b3).kept b4).sv⟩
  ·exact ⟨_,c1,(h4.kept b4).sv⟩
 ·exact (((Below.refl _ _).alloc (Nat.le_refl _) _).alloc (by rw [z3];omega) _).alloc (by rw [z4];omega) _
theorem kids_nil (W:World):Kids W (.slice none 0 0) []:=⟨none,0,rfl,Nat.le_refl _,by unfold maxLen;omega,fun h=>by simp at h⟩
theorem grp_oks {fs:List Fd} {p:List Row} (h:FitA fs p):∀ s∈(grp fs p).2,Oks s:=fun s hs=>by
 obtain ⟨i,_,rfl⟩:=List.mem_map.1 hs
 have:=statM_fine (colA_fine h i)
 exact ⟨this.1.okc,this.2.okc⟩
def gsA:List Gr:=[grp twoL [rA1],grp twoL [rA2]]
theorem allA:allR gsA=rA:=rfl
theorem oksA:∀ g∈gsA,∀ s∈g.2,Oks s:=fun g hg=>by
 have hg2:g=grp twoL [rA1]∨g=grp twoL [rA2]:=by simpa [gsA] using hg
 rcases hg2 with rfl | rfl
 ·exact grp_oks fun r hr=>fitAA r (by rw [List.mem_singleton.1 hr];simp [rA])
 ·exact grp_oks fun r hr=>fitAA r (by rw [List.mem_singleton.1 hr];simp [rA])
theorem mayGA:gsA.filter (mayG twoL pA)=[grp twoL [rA2]]:=by
 have h1:mayG twoL pA (grp twoL [rA1])=false:=mayA1
 have h2:mayG twoL pA (grp twoL [rA2])=true:=mayA2
 unfold gsA
 simp [List.filter_cons,h1,h2]
theorem findNA:findN twoL pA gsA=1:=by unfold findN;rw [mayGA];rfl
theorem findRA:findR twoL pA gsA=[rA2]:=by
 unfold findR
 rw [mayGA]
 have h:hits twoL pA [rA2]=[rA2]:=by
  unfold hits hitM
  rw [List.filter_cons,evalA2]
  rfl
 show [grp twoL [rA2]].flatMap _=_
 simp only [List.flatMap_cons,List.flatMap_nil,List.append_nil]
 exact h
theorem okpA:Okp pA:=⟨by omega,by omega,⟨by decide,⟨by decide,by decide⟩,fun x hx=>by simp at hx⟩,trivial⟩
theorem lenpA:Len pA:=⟨by decide,trivial⟩
end Go.Proofs.YtpljdjmpamjkhaaGreatDoor
