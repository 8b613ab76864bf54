/- Contracts: Place, the document's Place, misfit. Contracts: Fit. Contracts: fault, Write. -/
import Derived.Test.YtpljdjmpamjkhaaGreatDoorZao
import Derived.Test.YtpljdjmpamjkhaaGreatDoorZap
import Derived.Test.YtpljdjmpamjkhaaGreatDoorZbf
import Derived.Test.YtpljdjmpamjkhaaGreatDoorZaw
import Derived.Test.YtpljdjmpamjkhaaGreatDoorZax
set_option linter.unusedVariables false
set_option linter.unusedSimpArgs false
set_option maxRecDepth 100000
set_option maxHeartbeats 2000000
namespace Go.Proofs.YtpljdjmpamjkhaaGreatDoor
open Go.RowKit Go.Lib
theorem misfit_any (f:Fd) {c:Cl} (hc:Fine c) (w:World):Calls Tryz.prog 117 #[aggF f,valC c] w fun e w'=>e=.returned (.int .i64 (misM f c:Int))/\Below w.heap.size w w':=by
 have HV:=hidden (cell_any hc.val)
 obtain ⟨i,n,k,nd⟩:=f
 unfold aggF
 simp only
 have hq0:∀ w,(binOp .eql 78 .nilIface .nilIface).run Tryz.prog w=.ok (.bool true) w:=fun w=>by kernel_rfl
 have hq1:∀ t v w,(binOp .eql 78 (.iface t v) .nilIface).run Tryz.prog w=.ok (.bool false) w:=fun t v w=>by kernel_rfl
 have HM:Hid (misM (i,n,k,nd) c=if c.1=0 then (if nd=true then 82 else 0) else if c.1≠k then 10 else if 64<c.2.2.length then 5 else 0):=hidden rfl
 generalize misM (i,n,k,nd) c=R at *
 have HB0:=hidden (below_one w (.cells #[.int .u32 (i:Int),.string n,.int .u8 (k:Int),.bool nd] 81))
 obtain ⟨c0,c1,c2,c3⟩:=cell_new4 w (.int .u32 (i:Int)) (.string n) (.int .u8 (k:Int)) (.bool nd) 81
 have hz:w.heap.size<(w.alloc (.cells #[.int .u32 (i:Int),.string n,.int .u8 (k:Int),.bool nd] 81)).heap.size:=by rw [World.size_alloc];omega
 generalize hW:w.alloc (.cells #[.int .u32 (i:Int),.string n,.int .u8 (k:Int),.bool nd] 81)=W at *
 have hs:=bytesT_size c.2.2
 generalize hS:bytesT c.2.2=S at *
 have hlen:(S.size:Int)<=64:=by
  rcases hc with rfl | ⟨m,rfl,_⟩ | ⟨m,rfl,_⟩ | ⟨m,rfl,h,_⟩
  ·rw [hs];decide
  ·rw [hs];simp
  ·rw [hs];simp
  ·rw [hs];simp only;omega
 have hlen2:¬ 64<c.2.2.length:=by omega
 have hvf:c.1=0/\valC c=.nilIface∨c.1≠0/\∃ t u,valC c=.iface t u:=by
  by_cases h0:c.1=0
  ·exact Or.inl ⟨h0,valC_null c h0⟩
  ·exact Or.inr ⟨h0,valC_form c h0⟩
 generalize c.2.1=cn at *
 generalize c.2.2.length=cl at *
 clear hS hs hc
 generalize c.1=ck at *
 generalize valC c=vc at *
 rcases hvf with ⟨rfl,rfl⟩ | ⟨h0,t,u,rfl⟩
 ·rw [if_pos rfl] at HM
  go_enter Tryz.func117,Tryz.ntmps117
  go_wp2_with fail
  try rw [hW]
  clear hW
  refine (HV.out _).mono ?_
  rintro e w1 ⟨rfl,hb1⟩
  have d3:=(hb1.cell (p:=⟨w.heap.size,3,none⟩) hz).trans c3
  have HB1:=hidden (below_then HB0.out hb1)
  have hz1:=hb1.size
  have hzz:w.heap.size<w1.heap.size:=by omega
  clear hb1 c0 c1 c2 c3
  cases nd
  ·rw [if_neg (by simp)] at HM
   go_wp2_with fail
   go_ret
   rw [HM.out]
   exact ⟨rfl,HB1.out.alloc HB1.out.size _⟩
  ·rw [if_pos rfl] at HM
   go_wp2_with fail
   go_ret
   rw [HM.out]
   exact ⟨rfl,HB1.out.alloc HB1.out.size _⟩
 ·rw [if_neg h0] at HM
  go_enter Tryz.func117,Tryz.ntmps117
  go_wp2_with fail
  try rw [hW]
  clear hW
  refine (HV.out _).mono ?_
  rintro e w1 ⟨rfl,hb1⟩
  have d2:=(hb1.cell (p:=⟨w.heap.size,2,none⟩) hz).trans c2
  have HB1:=hidden (below_then HB0.out hb1)
  have hz1:=hb1.size
  have hzz:w.heap.size<w1.heap.size:=by omega
  clear hb1 c0 c1 c2 c3
  by_cases hk:ck=k
  ·subst hk
   rw [if_neg (by simp),if_neg hlen2] at HM
   go_wp2_with fail
   go_ret
   rw [HM.out]
   exact ⟨rfl,HB1.out.alloc HB1.out.size _⟩
  ·rw [if_pos hk] at HM
   have hk':((ck:Int) != (k:Int))=true:=by simp;omega
   clear hk
   go_wp2_with fail
   go_ret
   rw [HM.out]
   exact ⟨rfl,HB1.out.alloc HB1.out.size _⟩
end Go.Proofs.YtpljdjmpamjkhaaGreatDoor
set_option linter.unusedVariables false
set_option linter.unusedSimpArgs false
set_option maxRecDepth 100000
set_option maxHeartbeats 4000000
namespace Go.Proofs.YtpljdjmpamjkhaaGreatDoor
open Go.RowKit Go.Lib
theorem fit_any {w:World} {v rv:Value} {l:List Fd} {r:List Cl} (hs:Sf w v l) (hr:Sv w rv (vvals r)) (hf:∀ c∈r,Fine c) (si:Nat):Calls Tryz.prog 78 #[.agg #[.int .u32 (si:Int),v],rv] w fun e w'=>e=.returned (.int .i64 (fitM l r:Int))/\Below w.heap.size w w':=by
 obtain ⟨a,cap,rfl,hcap,hcm⟩:=hs.form
 obtain ⟨ra,rcap,rfl,hrcap,hrcm⟩:=hr.form1
 rw [vvals_length] at *
 have hrcm':rcap<=9223372036854775807:=by unfold maxLen at hrcm;omega
 have hb0:=below_one w (.cells #[.int .u32 (si:Int),.slice a l.length cap] 25)
 have HB0:=hidden hb0
 have HS:=hidden (hs.kept hb0)
 have HR:=hidden (hr.kept hb0)
 have HFI:=hidden hf
 obtain ⟨c0,c1⟩:=cell_new2 w (.int .u32 (si:Int)) (.slice a l.length cap) 25
 have hz:w.heap.size<(w.alloc (.cells #[.int .u32 (si:Int),.slice a l.length cap] 25)).heap.size:=by rw [World.size_alloc];omega
 clear hs hr hf hb0 hrcm
 generalize hW:w.alloc (.cells #[.int .u32 (si:Int),.slice a l.length cap] 25)=W at *
 by_cases hne:r.length≠l.length
 ·have HM:Hid (fitM l r=1):=hidden (if_pos hne)
  have hne':((r.length:Int) != (l.length:Int))=true:=by simp only [bne_iff_ne];omega
  clear hne
  go_enter Tryz.func78,Tryz.ntmps78
  go_wp2_with fail
  go_ret
  rw [HM.out]
  refine ⟨rfl,?_⟩
  first | exact HB0.out | (rw [hW];exact HB0.out)
 ·have hrl:r.length=l.length:=by omega
  have HM:Hid (fitM l r=fitF (l.drop 0) (r.drop 0)):=hidden (if_neg hne)
  have HRL:=hidden hrl
  rw [hrl] at hrcap HR ⊢
  generalize fitM l r=R at *
  clear hne hrl
  go_enter Tryz.func78,Tryz.ntmps78
  go_wp2_with fail
  try rw [hW]
  clear hW
  go_loopw [17] (fun i wr=>∃ k:Nat,k<=l.length/\i=.int .i64 (k:Int)/\R=fitF (l.drop k) (r.drop k)/\Below W.heap.size W wr) (fun i _=>l.length-(intOf i).toNat)
  case atStart=>exact ⟨0,by omega,rfl,HM.out,Below.refl _ _⟩
  case round =>
   obtain ⟨k,hk,rfl,hfe,hbel⟩:=hrel
   have HF:=hidden hfe
   have HB:=hidden hbel
   have hzr:=hbel.size
   clear hfe hbel HM
   by_cases hlt:k<l.length
   ·obtain ⟨b,off,rfl,hb,x0,x1,x2,x3⟩:=(HS.out.kept HB.out).at hlt
    have hltr:k<r.length:=by have:=HRL.out;omega
    obtain ⟨rb,roff,rfl,hrb,hrc⟩:=(HR.out.kept HB.out).at1 (vvals_get hltr)
    have HT:=hidden (HF.out.trans (fitF_step hlt hltr))
    have hlt':(k:Int)<(l.length:Int):=by omega
    have hknn:(0:Int)<=(k:Int):=by omega
    have HMF:=hidden (misfit_any l[k] (HFI.out r[k] (List.getElem_mem hltr)))
    generalize misM l[k] r[k]=Q at *
    generalize hvr:valC r[k]=vr at *
    have hvf:vr=.nilIface∨∃ t u,vr=.iface t u:=by
     rw [← hvr]
     by_cases h0:r[k].1=0
     ·exact Or.inl (valC_null _ h0)
     ·exact Or.inr (valC_form _ h0)
    clear hvr
    generalize l[k]=f at *
    obtain ⟨f0,f1,f2,f3⟩:=f
    unfold aggF at HMF
    simp only at *
    have hbn:=below_one wr (.cells #[.int .u32 (f0:Int),.string f1,.int .u8 (f2:Int),.bool f3] 81)
    have hrc':=(hbn.cell (p:=⟨rb,roff+k,none⟩) hrb).trans hrc
    obtain ⟨g0,g1,g2,g3⟩:=cell_new4 wr (.int .u32 (f0:Int)) (.string f1) (.int .u8 (f2:Int)) (.bool f3) 81
    have HB2:=hidden (HB.out.trans (hbn.mono hzr))
    have hsz:(wr.alloc (.cells #[.int .u32 (f0:Int),.string f1,.int .u8 (f2:Int),.bool f3] 81)).heap.size=wr.heap.size+1:=World.size_alloc _ _
    clear hbn
    rcases hvf with rfl | ⟨vt,vu,rfl⟩
    all_goals
     go_wp2_with fail
     generalize hV:wr.alloc (.cells #[.int .u32 (f0:Int),.string f1,.int .u8 (f2:Int),.bool f3] 81)=V at *
     clear hV x0 x1 x2 x3 hrc
     have HKEEP:Hid (∀ U W',Below V.heap.size V U->Below U.heap.size U W'->Below W.heap.size W W'):=hidden (fun U W' h1 h2=>below_then HB2.out (below_then h1 h2))
     go_region_with (first | (go_at_call 117;refine (HMF.out _).mono ?_;rintro e w2 ⟨rfl,hb2⟩))
     all_goals
      have HBB:=hidden (HKEEP.out _ _ (by first | exact (Below.refl _ _).drew | exact below_drewN (Below.refl _ _) _ | exact Below.refl _ _) hb2)
      clear hb2 hrc' g0 g1 g2 g3 c0 c1
      by_cases hQ:Q=0
      ·rw [if_pos hQ] at HT
       subst hQ
       go_wp2_with fail
       go_roundw
       case rel=>exact ⟨k+1,by omega,by go_num,HT.out,HBB.out⟩
       case measure=>simp [intOf];omega
      ·rw [if_neg hQ] at HT
       have hQ':((Q:Int) != 0)=true:=by simp [hQ]
       clear hQ
       go_wp2_with fail
       go_ret
       rw [HT.out]
       exact ⟨rfl,below_then HB0.out HBB.out⟩
   ·obtain rfl:k=l.length:=by omega
    have hge:¬ ((l.length:Nat):Int)<(l.length:Int):=by omega
    have HT:=hidden (HF.out.trans (fitF_end l _))
    clear HF
    go_wp2_with fail
    go_ret
    rw [HT.out]
    exact ⟨rfl,below_then HB0.out HB.out⟩
end Go.Proofs.YtpljdjmpamjkhaaGreatDoor
set_option linter.unusedVariables false
set_option linter.unusedSimpArgs false
set_option maxRecDepth 100000
set_option maxHeartbeats 4000000
namespace Go.Proofs.YtpljdjmpamjkhaaGreatDoor
open Go.RowKit Go.Lib
theorem Sv.toK {W:World} {v:Value} {l:List Nat} (h:Sv W v (vals .u8 l)):SvK W v l:=by
 obtain ⟨a,cap,h1,h2,h3,h4,h5⟩:=h
 rw [vals_length] at *
 refine ⟨a,cap,h1,h2,h3,h4,fun h0=>?_⟩
 obtain ⟨b,off,h6,h7,h8⟩:=h5 h0
 exact ⟨b,off,h6,h7,fun j hj=>h8 j _ (vals_get hj)⟩
theorem packM_bsA (id:Nat) (fs:List Fd):Bs (packM id fs):=by
 unfold packM
 refine Bs.app (Bs.app uv_lt uv_lt) ?_
 intro x hx
 unfold packL at hx
 obtain ⟨f,_,hf⟩:=List.mem_flatMap.1 hx
 unfold packF at hf
 exact Bs.app (Bs.app (Bs.app (Bs.app uv_lt uv_lt) (natsT_bs _)) uv_lt) uv_lt x hf
theorem chk_szs {id:Nat} {fs:List Fd} (hc:chk id fs=0):szs fs<5000/\fs.length<=8/\0<fs.length:=by
 obtain ⟨hrise,h0,h8,hi0⟩:=chk_rise hc
 have hfe:fe [] fs=0:=by
  unfold chk at hc
  rw [if_neg (by omega)] at hc
  exact hc
 have hn:=fe_named hfe
 have:∀ m:List Fd,(∀ f∈m,f.2.1.size<=16)->szs m<=16*m.length:=by
  intro m
  induction m with
  | nil=>intro _;simp [szs]
  | cons x t ih =>
   intro hx
   have h1:=ih (fun f hf=>hx f (List.mem_cons_of_mem _ hf))
   have h2:=hx x (List.mem_cons_self ..)
   unfold szs at *
   simp only [List.map_cons,List.sum_cons,List.length_cons]
   omega
 have:=this fs hn
 omega
theorem foot_len {id:Nat} {fs:List Fd} {rs:List Row} {g:Nat} (ho:∀ f∈fs,Okf f) (hid:id<4294967296) (hc:chk id fs=0) (hrl:rs.length<=256) (hg1:1<=g) (hg2:g<=64) (hfit:FitA fs rs):(footM id fs rs g).length<=400000/\Bs (footM id fs rs g):=by
 obtain ⟨hz,hl,_⟩:=chk_szs hc
 have hk:=chk_kinds hc
 have h1:=packL_take_len ho (by omega) hz fs.length
 rw [List.take_length] at h1
 have h2:=uv_le id (by omega)
 have h3:=uv_le fs.length (by omega)
 have h4:=uv_le rs.length (by omega)
 have h5:=uv_le g (by omega)
 have hft:∀ j,(ftK fs (prt g rs j) fs.length).length<=1360/\Bs (ftK fs (prt g rs j) fs.length):=fun j=>by
  have hpl:(prt g rs j).length<=256:=by rw [prt_length];omega
  have:=ftK_len (hfit.part g j) hpl (fun k hk2=>fits_col (hfit.part g j) hk hpl hk2) (Nat.le_refl _)
  exact ⟨by omega,this.2⟩
 have h6:=flat_len (m:=1360) (fun j=>(hft j).1) (List.range (nps g rs.length))
 have h7:=nps_small (n:=rs.length) hg1 hrl
 rw [List.length_range] at h6
 have h8:1360*nps g rs.length<=1360*256:=Nat.mul_le_mul_left _ h7
 have h9:(ftJ fs g rs (nps g rs.length)).length<=1360*nps g rs.length:=h6
 unfold footM
 refine ⟨?_,Bs.app (Bs.app (Bs.app (packM_bsA _ _) uv_lt) uv_lt) (flat_bs (fun j=>(hft j).2) _)⟩
 simp only [List.length_append]
 unfold packM
 simp only [List.length_append]
 omega
theorem text_len {id:Nat} {fs:List Fd} {rs:List Row} {g:Nat} (ho:∀ f∈fs,Okf f) (hid:id<4294967296) (hc:chk id fs=0) (hrl:rs.length<=256) (hg1:1<=g) (hg2:g<=64) (hfit:FitA fs rs):(textM id fs rs g).length<=60000000/\Bs (textM id fs rs g):=by
 obtain ⟨hz,hl,_⟩:=chk_szs hc
 have hk:=chk_kinds hc
 obtain ⟨f1,f2⟩:=foot_len ho hid hc hrl hg1 hg2 hfit
 have hbd:∀ j,(bdyK fs (prt g rs j) fs.length).length<=172800/\Bs (bdyK fs (prt g rs j) fs.length):=fun j=>by
  have hpl:(prt g rs j).length<=256:=by rw [prt_length];omega
  have:=bdyK_len (p:=prt g rs j) (fun k hk2=>fits_col (hfit.part g j) hk hpl hk2) (Nat.le_refl _)
  exact ⟨by omega,this.2⟩
 have h6:=flat_len (m:=172800) (fun j=>(hbd j).1) (List.range (nps g rs.length))
 have h7:=nps_small (n:=rs.length) hg1 hrl
 rw [List.length_range] at h6
 have h8:172800*nps g rs.length<=172800*256:=Nat.mul_le_mul_left _ h7
 have h9:(bdyJ fs g rs (nps g rs.length)).length<=172800*nps g rs.length:=h6
 unfold textM innM
 refine ⟨?_,Bs.app (fun x hx=>?_) (Bs.app (Bs.app (flat_bs (fun j=>(hbd j).2) _) f2) (le4_bytes _))⟩
 ·simp only [List.length_append,List.length_cons,List.length_nil,le4]
  omega
 ·simp only [List.mem_cons,List.not_mem_nil,or_false] at hx
  omega
theorem fitE_all {fs:List Fd}:∀ {rs:List Row},fitE fs rs=0->∀ r∈rs,fitM fs r=0
 | [],_,r,hr=>by simp at hr
 | x::t,h,r,hr=>by
  unfold fitE at h
  by_cases h0:fitM fs x=0
  ·rw [if_pos h0] at h
   rcases List.mem_cons.1 hr with rfl | hr
   ·exact h0
   ·exact fitE_all h r hr
  ·rw [if_neg h0] at h
   exact absurd h h0
theorem fitE_step {fs:List Fd} {rs:List Row} {k:Nat} (h:k<rs.length):fitE fs (rs.drop k)=if fitM fs rs[k]=0 then fitE fs (rs.drop (k+1)) else fitM fs rs[k]:=by
 rw [List.drop_eq_getElem_cons h]
 rfl
theorem fault10_any {w:World} {fv rv:Value} {fs:List Fd} {rs:List Row} {id:Nat} (hs:Sf w fv fs) (hr:Rv w rv rs) (hf:∀ r∈rs,∀ c∈r,Fine c) (g:Int) :
  Calls Tryz.prog 39 #[.agg #[.int .u32 (id:Int),fv],rv,.int .i64 g] w fun e w'=>e=.returned (.int .i64 (faultW id fs rs g:Int))/\Below w.heap.size w w':=by
 obtain ⟨fa,fcap,rfl,hfc1,hfc2⟩:=hs.form
 obtain ⟨ra,rcap,rfl,hrc1,hrc2,hra⟩:=hr.form
 have hb0:=below_one w (.cells #[.int .u32 (id:Int),.slice fa fs.length fcap] 25)
 have hblk:=heap_alloc_new w (.cells #[.int .u32 (id:Int),.slice fa fs.length fcap] 25)
 have hsz:(w.alloc (.cells #[.int .u32 (id:Int),.slice fa fs.length fcap] 25)).heap.size=w.heap.size+1:=World.size_alloc _ _
 have HS:=hidden (hs.kept hb0)
 have HR:=hidden (hr.kept hb0)
 have HB0:=hidden hb0
 have HT:Hid (∀ U,Below (w.alloc (.cells #[.int .u32 (id:Int),.slice fa fs.length fcap] 25)).heap.size (w.alloc (.cells #[.int .u32 (id:Int),.slice fa fs.length fcap] 25)) U->U.cell? ⟨w.heap.size,0,none⟩=some (.int .u32 (id:Int))/\U.cell? ⟨w.heap.size,1,none⟩=some (.slice fa fs.length fcap)):=hidden (fun U hb=>by
  have hU:=(hb.block w.heap.size (by omega)).trans hblk
  constructor<;>(rw [cell_block hU];rfl))
 have HF:=hidden hf
 generalize hA:w.alloc (.cells #[.int .u32 (id:Int),.slice fa fs.length fcap] 25)=A at *
 clear hs hr hb0 hblk hf hsz
 obtain ⟨c0,c1⟩:=HT.out A (Below.refl _ _)
 have HW:Hid (faultW id fs rs g=if chk id fs≠0 then chk id fs else if g<1∨64<g then 1 else if 256<rs.length then 5 else fitE fs rs):=hidden rfl
 generalize faultW id fs rs g=FW at *
 go_enter Tryz.func39,Tryz.ntmps39
 go_wp2_with fail
 try rw [hA]
 clear hA
 refine (check_sch HS.out id).mono ?_
 rintro e w1 ⟨rfl,hb1⟩
 have HB1:=hidden hb1
 clear hb1 c0 c1
 obtain ⟨c0,c1⟩:=HT.out w1 HB1.out
 by_cases hc:chk id fs=0
 ·have hcz:(((chk id fs:Nat):Int) != 0)=false:=by simp [hc]
  have HW2:Hid (FW=if g<1∨64<g then 1 else if 256<rs.length then 5 else fitE fs rs):=hidden (by rw [HW.out,if_neg (by omega)])
  clear HW
  generalize chk id fs=ck at *
  by_cases hg1:g<1
  ·have HW3:Hid (FW=1):=hidden (by rw [HW2.out,if_pos (Or.inl hg1)])
   go_wp2_with fail
   go_ret
   exact ⟨by rw [HW3.out];rfl,below_then HB0.out HB1.out⟩
  ·by_cases hg2:64<g
   ·have HW3:Hid (FW=1):=hidden (by rw [HW2.out,if_pos (Or.inr hg2)])
    have hg2':g > 64:=hg2
    go_wp2_with fail
    go_ret
    exact ⟨by rw [HW3.out];rfl,below_then HB0.out HB1.out⟩
   ·have hg2':¬ g > 64:=hg2
    have HW3:Hid (FW=if 256<rs.length then 5 else fitE fs rs):=hidden (by rw [HW2.out,if_neg (by omega)])
    clear HW2
    by_cases hl:256<rs.length
    ·have HW4:Hid (FW=5):=hidden (by rw [HW3.out,if_pos hl])
     have hl':(rs.length:Int) > 256:=by omega
     go_wp2_with fail
     go_ret
     exact ⟨by rw [HW4.out];rfl,below_then HB0.out HB1.out⟩
    ·have HW4:Hid (FW=fitE fs rs):=hidden (by rw [HW3.out,if_neg hl])
     have hl':¬ (rs.length:Int) > 256:=by omega
     clear HW3
     go_wp2_with fail
     go_loopw [27] (fun i wr=>∃ k:Nat,k<=rs.length/\i=.int .i64 (k:Int)/\fitE fs rs=fitE fs (rs.drop k)/\Below A.heap.size A wr) (fun i _=>rs.length-(intOf i).toNat)
     case atStart=>exact ⟨0,by omega,rfl,rfl,HB1.out⟩
     case round =>
      obtain ⟨k,hk,rfl,hfe,hbel⟩:=hrel
      have HFE:=hidden hfe
      have HB:=hidden hbel
      clear hfe hbel
      obtain ⟨d0,d1⟩:=HT.out wr HB.out
      by_cases hlt:k<rs.length
      ·have hlt':(k:Int)<(rs.length:Int):=by omega
       obtain ⟨bb,off,rw',rfl,hb,hck,hsv⟩:=(HR.out.kept HB.out).at hlt
       obtain ⟨a3,cap3,rfl,_,_⟩:=hsv.form1
       have HST:=hidden (fitE_step (fs:=fs) hlt)
       have HFT:=hidden (fit_any (HS.out.kept HB.out) hsv (HF.out _ (List.getElem_mem hlt)) id)
       clear hsv
       generalize (vvals rs[k]).length=nv at *
       generalize fitM fs rs[k]=fm at *
       go_wp2_with fail
       refine HFT.out.mono ?_
       rintro e w5 ⟨rfl,hb5⟩
       have HB5:=hidden (below_then HB.out hb5)
       clear hb5 d0 d1 hck
       by_cases hm:fm=0
       ·subst hm
        have hmz:((((0:Nat)):Int) != 0)=false:=rfl
        have HST2:Hid (fitE fs (rs.drop k)=fitE fs (rs.drop (k+1))):=hidden (by rw [HST.out,if_pos rfl])
        clear HST
        go_wp2_with fail
        go_roundw
        case rel=>exact ⟨k+1,by omega,by go_num,by rw [HFE.out,HST2.out],HB5.out⟩
        case measure=>simp [intOf];omega
       ·have hmz:(((fm:Nat):Int) != 0)=true:=by simp [hm]
        have HST2:Hid (FW=fm):=hidden (by rw [HW4.out,HFE.out,HST.out,if_neg hm])
        clear HST HFE HW4
        go_wp2_with fail
        go_ret
        exact ⟨by rw [HST2.out];rfl,below_then HB0.out HB5.out⟩
      ·obtain rfl:k=rs.length:=by omega
       have hge:¬ ((rs.length:Nat):Int)<(rs.length:Int):=by omega
       have HE0:Hid (FW=0):=hidden (by rw [HW4.out,HFE.out,List.drop_length];rfl)
       clear HFE HW4
       go_wp2_with fail
       go_ret
       exact ⟨by rw [HE0.out];rfl,below_then HB0.out HB.out⟩
 ·have hcz:(((chk id fs:Nat):Int) != 0)=true:=by simp [hc]
  have HW2:Hid (FW=chk id fs):=hidden (by rw [HW.out,if_pos hc])
  clear HW
  generalize chk id fs=ck at *
  go_wp2_with fail
  go_ret
  exact ⟨by rw [HW2.out];rfl,below_then HB0.out HB1.out⟩
theorem faultW_zero {id:Nat} {fs:List Fd} {rs:List Row} {g:Int} (h:faultW id fs rs g=0):chk id fs=0/\(1<=g/\g<=64)/\rs.length<=256/\fitE fs rs=0:=by
 unfold faultW at h
 by_cases h1:chk id fs=0
 ·rw [if_neg (by omega)] at h
  by_cases h2:g<1∨64<g
  ·rw [if_pos h2] at h
   cases h
  ·rw [if_neg h2] at h
   by_cases h3:256<rs.length
   ·rw [if_pos h3] at h
    cases h
   ·rw [if_neg h3] at h
    exact ⟨h1,by omega,by omega,h⟩
 ·rw [if_pos h1] at h
  exact absurd h h1
theorem write10_any {w:World} {fv rv:Value} {fs:List Fd} {rs:List Row} {id:Nat} (ht:Tab w) (hs:Sf w fv fs) (hr:Rv w rv rs) (ho:∀ f∈fs,Okf f) (hid:id<4294967296) (hf:∀ r∈rs,∀ c∈r,Fine c) (g:Int) :
  Calls Tryz.prog 12 #[.agg #[.int .u32 (id:Int),fv],rv,.int .i64 g] w fun e w'=>(∃ v,e=.returned (.tuple #[v,.int .i64 ((writeM id fs rs g).2:Int)])/\OwnB w' w.heap.size v (writeM id fs rs g).1)/\Below w.heap.size w w':=by
 obtain ⟨fa,fcap,rfl,hfc1,hfc2⟩:=hs.form
 obtain ⟨ra,rcap,rfl,hrc1,hrc2,hra⟩:=hr.form
 have hb0:=below_one w (.cells #[.int .u32 (id:Int),.slice fa fs.length fcap] 25)
 have hblk:=heap_alloc_new w (.cells #[.int .u32 (id:Int),.slice fa fs.length fcap] 25)
 have hsz:(w.alloc (.cells #[.int .u32 (id:Int),.slice fa fs.length fcap] 25)).heap.size=w.heap.size+1:=World.size_alloc _ _
 have HS:=hidden (hs.kept hb0)
 have HR:=hidden (hr.kept hb0)
 have HTB:=hidden (ht.kept hb0)
 have HB0:=hidden hb0
 have HT:Hid (∀ U,Below (w.alloc (.cells #[.int .u32 (id:Int),.slice fa fs.length fcap] 25)).heap.size (w.alloc (.cells #[.int .u32 (id:Int),.slice fa fs.length fcap] 25)) U->U.cell? ⟨w.heap.size,0,none⟩=some (.int .u32 (id:Int))/\U.cell? ⟨w.heap.size,1,none⟩=some (.slice fa fs.length fcap)):=hidden (fun U hb=>by
  have hU:=(hb.block w.heap.size (by omega)).trans hblk
  constructor<;>(rw [cell_block hU];rfl))
 have HF:=hidden hf
 have HO:=hidden ho
 generalize hA:w.alloc (.cells #[.int .u32 (id:Int),.slice fa fs.length fcap] 25)=A at *
 clear hs hr hb0 hblk hf hsz ht ho
 have HFT:=hidden (fault10_any (id:=id) HS.out HR.out HF.out g)
 obtain ⟨c0,c1⟩:=HT.out A (Below.refl _ _)
 have HW:Hid (writeM id fs rs g=if faultW id fs rs g≠0 then ([],faultW id fs rs g) else if 65536<(sealM (textM id fs rs g.toNat)).length then ([],4) else (sealM (textM id fs rs g.toNat),0)):=hidden rfl
 generalize writeM id fs rs g=WM at *
 go_enter Tryz.func12,Tryz.ntmps12
 go_wp2_with fail
 try rw [hA]
 clear hA
 refine HFT.out.mono ?_
 rintro e w1 ⟨rfl,hb1⟩
 have HB1:=hidden hb1
 clear hb1 c0 c1
 obtain ⟨c0,c1⟩:=HT.out w1 HB1.out
 by_cases hc:faultW id fs rs g=0
 ·have hcz:(((faultW id fs rs g:Nat):Int) != 0)=false:=by simp [hc]
  obtain ⟨h1,⟨h2,h3⟩,h4,h5⟩:=faultW_zero hc
  have hfit:FitA fs rs:=fun r hr=>⟨fitE_all h5 r hr,HF.out r hr⟩
  obtain ⟨n,rfl⟩:∃ n:Nat,g=(n:Int):=⟨g.toNat,by omega⟩
  rw [Int.toNat_natCast] at HW
  obtain ⟨hz,hl,_⟩:=chk_szs h1
  obtain ⟨t1,t2⟩:=text_len HO.out hid h1 h4 (show 1<=n by omega) (show n<=64 by omega) hfit
  have HTX:=hidden (text_any (HS.out.kept HB1.out) (HR.out.kept HB1.out) HO.out hid hl hz h4 (show 1<=n by omega) (show n<=64 by omega) hfit (chk_kinds h1))
  have HW2:Hid (WM=if 65536<(sealM (textM id fs rs n)).length then ([],4) else (sealM (textM id fs rs n),0)):=hidden (by rw [HW.out,if_neg (by omega)])
  have HT2:=hidden t2
  clear HW HFT h1 h2 h3 h5 hfit t2
  generalize faultW id fs rs n=FW at *
  generalize textM id fs rs n=TX at *
  go_wp2_with fail
  refine HTX.out.mono ?_
  rintro e w2 ⟨⟨v2,rfl,o2⟩,hb2⟩
  have HB2:=hidden (below_then HB1.out hb2)
  have HSL:=hidden (seal_any (HTB.out.kept HB2.out) o2.sv.toK HT2.out (by omega))
  clear o2 hb2 c0 c1
  go_wp2_with fail
  refine HSL.out.mono ?_
  rintro e w3 ⟨⟨v3,rfl,o3⟩,hb3⟩
  obtain ⟨a3,cap3,rfl,_,_⟩:=own_slice o3
  have HO3:=hidden (own_low o3 (Nat.le_trans HB0.out.size HB2.out.size))
  have HB3:=hidden (below_then HB2.out hb3)
  clear o3 hb3
  have hsl:(sealM TX).length<=60000004:=by rw [sealM_len];omega
  generalize sealM TX=ST at *
  by_cases hbig:65536<ST.length
  ·have hbig':(ST.length:Int) > 65536:=by omega
   have HW3:Hid (WM=([],4)):=hidden (by rw [HW2.out,if_pos hbig])
   go_wp2_with fail
   go_ret2
   exact ⟨⟨_,by rw [HW3.out];rfl,by rw [HW3.out];exact OwnB.nil _ _⟩,below_then HB0.out HB3.out⟩
  ·have hbig':¬ (ST.length:Int) > 65536:=by omega
   have HW3:Hid (WM=(ST,0)):=hidden (by rw [HW2.out,if_neg hbig])
   go_wp2_with fail
   go_ret2
   exact ⟨⟨_,by rw [HW3.out];rfl,by rw [HW3.out];exact HO3.out⟩,below_then HB0.out HB3.out⟩
 ·have hcz:(((faultW id fs rs g:Nat):Int) != 0)=true:=by simp [hc]
  have HW2:Hid (WM=([],faultW id fs rs g)):=hidden (by rw [HW.out,if_pos hc])
  clear HW HFT
  generalize faultW id fs rs g=FW at *
  go_wp2_with fail
  go_ret2
  exact ⟨⟨_,by rw [HW2.out];rfl,by rw [HW2.out];exact OwnB.nil _ _⟩,below_then HB0.out HB1.out⟩
end Go.Proofs.YtpljdjmpamjkhaaGreatDoor
