/- Contract: Find. Rows of cells of the call's own. Contracts of the laws: rows of values out of rows of cells and back; rows compared. -/
import Derived.Test.YtpljdjmpamjkhaaGreatDoorZbr
import Derived.Test.YtpljdjmpamjkhaaGreatDoorZbl
import Derived.Test.YtpljdjmpamjkhaaGreatDoorZbj
import Derived.Test.YtpljdjmpamjkhaaGreatDoorZbp
import Derived.Test.YtpljdjmpamjkhaaGreatDoorZap
import Derived.Test.YtpljdjmpamjkhaaGreatDoorZao
set_option linter.unusedVariables false
set_option linter.unusedSimpArgs false
set_option maxRecDepth 100000
set_option maxHeartbeats 4000000
namespace Go.Proofs.YtpljdjmpamjkhaaGreatDoor
open Go.RowKit Go.Lib
theorem Gro.stats {W:World} {B:Nat} {a b:Value} {rows:List Row} {sts:List Stt} (h:Gro W B (.agg #[a,b]) rows sts):Ss W b sts:=by
 obtain ⟨R,rvs,vs,e,_,_,h3⟩:=h
 simp only [Value.agg.injEq,Array.mk.injEq,List.cons.injEq,and_true] at e
 obtain ⟨_,rfl⟩:=e
 exact OwnT.ss (B:=B) h3
theorem idx123 (a b c:Bool) (w:World):(Instr.index 123 (.agg #[.bool a,.bool b,.bool c]) (.int .u8 2)).run Tryz.prog w=.ok (.bool c) w:=by
 cases a<;>cases b<;>cases c<;>kernel_rfl
def mayG (fs:List Fd) (t:PT) (g:Gr):Bool:=getB (mayM fs g.2 t) 2
def findR (fs:List Fd) (t:PT) (gs:List Gr):List Row:=(gs.filter (mayG fs t)).flatMap fun g=>hits fs t g.1
def findN (fs:List Fd) (t:PT) (gs:List Gr):Nat:=(gs.filter (mayG fs t)).length
theorem findR_take {fs:List Fd} {t:PT} {gs:List Gr} {k:Nat} (h:k<gs.length):findR fs t (gs.take (k+1))=findR fs t (gs.take k)++(if mayG fs t gs[k]=true then hits fs t gs[k].1 else []):=by
 unfold findR
 rw [List.take_succ_eq_append_getElem h,List.filter_append,List.flatMap_append]
 cases hm:mayG fs t gs[k]<;>simp [List.filter_cons,hm]
theorem findN_take {fs:List Fd} {t:PT} {gs:List Gr} {k:Nat} (h:k<gs.length):findN fs t (gs.take (k+1))=findN fs t (gs.take k)+(if mayG fs t gs[k]=true then 1 else 0):=by
 unfold findN
 rw [List.take_succ_eq_append_getElem h,List.filter_append,List.length_append]
 cases hm:mayG fs t gs[k]<;>simp [List.filter_cons,hm]
theorem findR_len (fs:List Fd) (t:PT):∀ gs:List Gr,(findR fs t gs).length<=(allR gs).length
 | []=>Nat.le_refl _
 | g::gs=>by
  have h:=findR_len fs t gs
  have h2:=hits_len fs t g.1
  unfold findR allR at *
  rw [List.filter_cons]
  split
  ·simp only [List.flatMap_cons,List.length_append,List.map_cons,List.flatten_cons]
   omega
  ·simp only [List.map_cons,List.flatten_cons,List.length_append]
   omega
theorem findN_len (fs:List Fd) (t:PT) (gs:List Gr):findN fs t gs<=gs.length:=List.length_filter_le _ _
theorem find10_any {w:World} {B fp id op f:Nat} {fv kv:Value} {fs:List Fd} {gs:List Gr} {c:Cl} {ks:List PT} (h:Fil w B fp id fv gs) (hsf:Sf w fv fs)
  (hk:Kids w kv ks) (heval:∀ U rv r,Below w.heap.size w U->Sv U rv (vvals r)->(∀ x∈r,Fine x)->Calls Tryz.prog 113 #[.agg #[.int .u8 (op:Int),.int .u32 (f:Int),.int .u8 (c.1:Int),.int .i64 c.2.1,.string (bytesT c.2.2),kv],.agg #[.int .u32 (id:Int),fv],rv] U fun e w'=>e=.returned (.int .u8 (evalM fs r (.node op f c ks):Int))/\Below U.heap.size U w')
  (hmay:∀ U rv sts,Below w.heap.size w U->Ss U rv sts->(∀ s∈sts,Oks s)->Calls Tryz.prog 66 #[.agg #[.int .u8 (op:Int),.int .u32 (f:Int),.int .u8 (c.1:Int),.int .i64 c.2.1,.string (bytesT c.2.2),kv],.agg #[.int .u32 (id:Int),fv],rv] U fun e w'=>e=.returned (b3V (mayM fs sts (.node op f c ks)))/\Below U.heap.size U w') (hr:∀ r∈allR gs,r.length<=1000/\∀ x∈r,Fine x) (htot:(allR gs).length<=1000) (hgl:gs.length<=100000) (hst:∀ g∈gs,∀ s∈g.2,Oks s) (k:Int) (N:Nat) (RR:List Row) (hN0:k=0->N=findN fs (.node op f c ks) gs/\RR=findR fs (.node op f c ks) gs) (hN1:k≠0->N=0/\RR=[])
  (hchk:∀ U,Below w.heap.size w U->Calls Tryz.prog 65 #[.agg #[.int .u8 (op:Int),.int .u32 (f:Int),.int .u8 (c.1:Int),.int .i64 c.2.1,.string (bytesT c.2.2),kv],.agg #[.int .u32 (id:Int),fv]] U fun e w'=>e=.returned (.int .i64 k)/\Below U.heap.size U w') :
  Calls Tryz.prog 28 #[.pointer (some ⟨fp,0,none⟩),.agg #[.int .u8 (op:Int),.int .u32 (f:Int),.int .u8 (c.1:Int),.int .i64 c.2.1,.string (bytesT c.2.2),kv]] w
   fun e w'=>(∃ v l,e=.returned (.tuple #[v,.int .i64 (N:Int)])/\Ow w' w.heap.size v l/\l.map Prod.snd=RR)/\Below w.heap.size w w':=by
 obtain ⟨gv,xs,h1,h2,h3,h4⟩:=h
 obtain ⟨ga,gc,rfl,hgc,hgm⟩:=own_form3 h3
 obtain ⟨fa,fc,rfl,_,_⟩:=hsf.form
 obtain ⟨ka,kc,rfl,_,_⟩:=hk.form
 have hfp:=(Array.getElem?_eq_some_iff.1 h1).1
 have hb1:=below_one w (.cells #[.int .u8 (op:Int),.int .u32 (f:Int),.int .u8 (c.1:Int),.int .i64 c.2.1,.string (bytesT c.2.2),.slice ka ks.length kc] 63)
 obtain ⟨p0,p1,p2,p3,p4,p5⟩:=cell_new6 w (.int .u8 (op:Int)) (.int .u32 (f:Int)) (.int .u8 (c.1:Int)) (.int .i64 c.2.1) (.string (bytesT c.2.2)) (.slice ka ks.length kc) 63
 have hz1:(w.alloc (.cells #[.int .u8 (op:Int),.int .u32 (f:Int),.int .u8 (c.1:Int),.int .i64 c.2.1,.string (bytesT c.2.2),.slice ka ks.length kc] 63)).heap.size=w.heap.size+1:=World.size_alloc _ _
 generalize hA:w.alloc (.cells #[.int .u8 (op:Int),.int .u32 (f:Int),.int .u8 (c.1:Int),.int .i64 c.2.1,.string (bytesT c.2.2),.slice ka ks.length kc] 63)=A at *
 have HT:Hid (∀ U,Below A.heap.size A U->U.cell? ⟨fp,0,none⟩=some (.int .u32 (id:Int))/\U.cell? ⟨fp,1,none⟩=some (.slice fa fs.length fc)/\U.cell? ⟨fp,2,none⟩=some (.slice ga gs.length gc) /\
   U.cell? ⟨w.heap.size,0,none⟩=some (.int .u8 (op:Int))/\U.cell? ⟨w.heap.size,1,none⟩=some (.int .u32 (f:Int))/\U.cell? ⟨w.heap.size,2,none⟩=some (.int .u8 (c.1:Int))/\U.cell? ⟨w.heap.size,3,none⟩=some (.int .i64 c.2.1)/\U.cell? ⟨w.heap.size,4,none⟩=some (.string (bytesT c.2.2))/\U.cell? ⟨w.heap.size,5,none⟩=some (.slice ka ks.length kc)):=hidden (fun U hU=>by
  have hfU:=(hU.block fp (by omega)).trans ((hb1.block fp hfp).trans h1)
  refine ⟨by rw [cell_block hfU];rfl,by rw [cell_block hfU];rfl,by rw [cell_block hfU];rfl,?_,?_,?_,?_,?_,?_⟩
  ·exact (hU.cell (p:=⟨w.heap.size,0,none⟩) (by show w.heap.size<_;omega)).trans p0
  ·exact (hU.cell (p:=⟨w.heap.size,1,none⟩) (by show w.heap.size<_;omega)).trans p1
  ·exact (hU.cell (p:=⟨w.heap.size,2,none⟩) (by show w.heap.size<_;omega)).trans p2
  ·exact (hU.cell (p:=⟨w.heap.size,3,none⟩) (by show w.heap.size<_;omega)).trans p3
  ·exact (hU.cell (p:=⟨w.heap.size,4,none⟩) (by show w.heap.size<_;omega)).trans p4
  ·exact (hU.cell (p:=⟨w.heap.size,5,none⟩) (by show w.heap.size<_;omega)).trans p5)
 have HG:Hid (∀ j (hj:j<gs.length),∃ G R va vn vc,ga=some ⟨G,0,none⟩/\∀ U,Below A.heap.size A U->U.cell? ⟨G,j*2,none⟩=some (.slice (some ⟨R,0,none⟩) gs[j].1.length gs[j].1.length)/\U.cell? ⟨G,j*2+1,none⟩=some (.slice va vn vc)/\Gro U B (.agg #[.slice (some ⟨R,0,none⟩) gs[j].1.length gs[j].1.length,.slice va vn vc]) gs[j].1 gs[j].2):=hidden (fun j hj=>by
  obtain ⟨a,b,e1,e2,e3⟩:=h4 j hj
  obtain ⟨R,rfl,g1,g2,⟨va,vn,vc,rfl⟩,g4⟩:=e3.rows
  obtain ⟨G,rfl,_,hG,hc1⟩:=own_cell3 h3 e1
  obtain ⟨_,e,_,_,hc2⟩:=own_cell3 h3 e2
  cases e
  refine ⟨G,R,va,vn,vc,rfl,fun U hU=>?_⟩
  have hb:=hb1.trans (hU.mono hb1.size)
  exact ⟨(hb.cell (p:=⟨G,j*2,none⟩) hG).trans (by rw [Nat.mul_comm];exact hc1),(hb.cell (p:=⟨G,j*2+1,none⟩) hG).trans (by rw [Nat.mul_comm j];exact hc2),e3.turn fun q _ _ _ k2 _ _ _=>hb.block q k2⟩)
 have HCK:Hid (∀ U,Below A.heap.size A U->Calls Tryz.prog 65 #[.agg #[.int .u8 (op:Int),.int .u32 (f:Int),.int .u8 (c.1:Int),.int .i64 c.2.1,.string (bytesT c.2.2),.slice ka ks.length kc],.agg #[.int .u32 (id:Int),.slice fa fs.length fc]] U fun e w'=>e=.returned (.int .i64 k)/\Below A.heap.size A w'):=hidden (fun U hU=>by
  refine (hchk U (hb1.trans (hU.mono hb1.size))).mono ?_
  rintro e w' ⟨rfl,hb⟩
  exact ⟨rfl,below_then hU hb⟩)
 have HMY:Hid (∀ U rv sts,Below A.heap.size A U->Ss U rv sts->(∀ s∈sts,Oks s)->Calls Tryz.prog 66 #[.agg #[.int .u8 (op:Int),.int .u32 (f:Int),.int .u8 (c.1:Int),.int .i64 c.2.1,.string (bytesT c.2.2),.slice ka ks.length kc],.agg #[.int .u32 (id:Int),.slice fa fs.length fc],rv] U
   fun e w'=>e=.returned (b3V (mayM fs sts (.node op f c ks)))/\Below U.heap.size U w'):=hidden (fun U rv sts hU hs hos=>by
  have hb:=hb1.trans (hU.mono hb1.size)
  exact hmay U rv sts hb hs hos)
 have HFI:Hid (∀ U a b j (hj:j<gs.length),Below A.heap.size A U->Gro U B (.agg #[a,b]) gs[j].1 gs[j].2->Calls Tryz.prog 67 #[.pointer (some ⟨fp,0,none⟩),.agg #[a,b],.agg #[.int .u8 (op:Int),.int .u32 (f:Int),.int .u8 (c.1:Int),.int .i64 c.2.1,.string (bytesT c.2.2),.slice ka ks.length kc]] U
   fun e w'=>(∃ v l,e=.returned v/\Ow w' U.heap.size v l/\l.map Prod.snd=hits fs (.node op f c ks) gs[j].1)/\Below U.heap.size U w'):=hidden (fun U a b j hj hU hg=>by
  have hb:=hb1.trans (hU.mono hb1.size)
  have h5:=allR_take hj
  have h6:=allR_take_len gs (j+1)
  rw [h5,List.length_append] at h6
  exact findIn10_any ((hb.block fp hfp).trans h1) (hsf.kept hb) hg (hk.kept hb) (fun U2 rv2 r2 hU2=>heval U2 rv2 r2 (hb.trans (hU2.mono hb.size))) (fun r hh=>hr r (allR_mem hj hh)) (by omega))
 have HN0:=hidden hN0
 have HN1:=hidden hN1
 have HST:=hidden (fun j (hj:j<gs.length)=>hst _ (List.getElem_mem hj))
 have HBW:=hidden hb1
 have HR1:=hidden (fun j (hj:j<gs.length)=>findR_take (fs:=fs) (t:=.node op f c ks) hj)
 have HNT:=hidden (fun j (hj:j<gs.length)=>findN_take (fs:=fs) (t:=.node op f c ks) hj)
 have HMG:Hid (∀ g:Gr,mayG fs (.node op f c ks) g=(mayM fs g.2 (.node op f c ks)).2.2):=hidden (fun g=>rfl)
 have HRL:=hidden (fun j=>Nat.le_trans (findR_len fs (.node op f c ks) (gs.take j)) (allR_take_len gs j))
 have HNL:=hidden (fun j=>Nat.le_trans (findN_len fs (.node op f c ks) (gs.take j)) (show (gs.take j).length<=gs.length by rw [List.length_take];omega))
 have HRA:Hid (findR fs (.node op f c ks) (gs.take gs.length)=findR fs (.node op f c ks) gs):=hidden (by rw [List.take_length])
 have HNA:Hid (findN fs (.node op f c ks) (gs.take gs.length)=findN fs (.node op f c ks) gs):=hidden (by rw [List.take_length])
 have HR0:Hid (findR fs (.node op f c ks) (gs.take 0)=[]):=hidden rfl
 have HNZ:Hid (findN fs (.node op f c ks) (gs.take 0)=0):=hidden rfl
 have HHL:=hidden (fun rows=>hits_len fs (.node op f c ks) rows)
 generalize (PT.node op f c ks)=T at *
 have HTOT:=hidden htot
 clear h1 h2 h3 h4 hsf hk heval hmay hr htot hst hchk hb1 hN0 hN1 p0 p1 p2 p3 p4 p5
 obtain ⟨c0,c1,c2,d0,d1,d2,d3,d4,d5⟩:=HT.out A (Below.refl _ _)
 have HZ1:=hidden hz1
 clear hz1
 generalize c.1=k0 at *
 generalize c.2.1=k1 at *
 generalize bytesT c.2.2=k2 at *
 go_enter Tryz.func28,Tryz.ntmps28
 go_upto_region 1 with fail
 try rw [hA]
 clear hA
 go_cut [16] from 46 (fun v wx=>v=.bool (k != 0)/\Below A.heap.size A wx)
 case first =>
  refine wp_region_noPanic ?_
  go_region_law (first
   | (go_simp;go_at_call 65;refine (HCK.out _ ?_).mono ?_;exact below_drewN (Below.refl A.heap.size A) _;rintro e w1 ⟨rfl,hb1⟩;have HB1:=hidden hb1;clear hb1;dsimp only)
   | fail)
  all_goals refine NoPanic.normal ?_
  all_goals go_wp2_with fail
  all_goals go_meet
  all_goals exact ⟨rfl,HB1.out⟩
 case rest =>
 obtain ⟨rfl,hcw⟩:=hcut
 obtain ⟨w1,hw1⟩:∃ w1,w1=wc:=⟨_,rfl⟩
 subst hw1
 have HB1:=hidden hcw
 clear hcw
 clear c0 c1 c2 d0 d1 d2 d3 d4 d5 HCK
 by_cases hk0:k=0
 ·have hkz:(k != 0)=false:=by simp [hk0]
  rw [hkz]
  obtain ⟨hNe,hRe⟩:=HN0.out hk0
  have HNE:=hidden hNe
  have HRE:=hidden hRe
  clear hNe hRe HN0 HN1
  obtain ⟨c0,c1,c2,_⟩:=HT.out w1 HB1.out
  go_wp2_with fail
  go_loopw [6,7,22] (fun o n i wr=>∃ (j:Nat) (l:List (Value×Row)),j<=gs.length/\i=.int .i64 (j:Int)/\n=.int .i64 ((findN fs T (gs.take j):Nat):Int)/\Ow wr A.heap.size o l/\l.map Prod.snd=findR fs T (gs.take j)/\Below A.heap.size A wr) (fun _ _ i _=>gs.length-(intOf i).toNat)
  case atStart=>exact ⟨0,[],by omega,rfl,by rw [HNZ.out];rfl,Ow.nil _ _,HR0.out.symm,HB1.out⟩
  case round =>
   obtain ⟨j,l,hj,rfl,rfl,how,hsn,hbel⟩:=hrel
   have HO:=hidden how
   have HB:=hidden hbel
   have HSN:=hidden hsn
   have hzr:=hbel.size
   have hll:l.length<=1000:=by
    have h1:=congrArg List.length hsn
    have h2:=HRL.out j
    have h3:=HTOT.out
    rw [List.length_map] at h1
    omega
   obtain ⟨la,lc,rfl,hl1,hl2,_⟩:=how.form
   clear how hbel hsn c0 c1 c2
   by_cases hlt:j<gs.length
   ·have hlt':(j:Int)<(gs.length:Int):=by omega
    obtain ⟨G,R,va,vn,vc,rfl,hgc2⟩:=HG.out j hlt
    obtain ⟨ca,cb,hgro⟩:=hgc2 wr HB.out
    have hbA:=HB.out.alloc hzr (.cells #[.slice (some ⟨R,0,none⟩) gs[j].1.length gs[j].1.length,.slice va vn vc] 109)
    have hbo:=below_one wr (.cells #[.slice (some ⟨R,0,none⟩) gs[j].1.length gs[j].1.length,.slice va vn vc] 109)
    obtain ⟨q0,q1⟩:=cell_new2 wr (.slice (some ⟨R,0,none⟩) gs[j].1.length gs[j].1.length) (.slice va vn vc) 109
    have hzq:(wr.alloc (.cells #[.slice (some ⟨R,0,none⟩) gs[j].1.length gs[j].1.length,.slice va vn vc] 109)).heap.size=wr.heap.size+1:=World.size_alloc _ _
    have HZQ:=hidden hzq
    have HOA:=hidden (HO.out.kept hbo)
    have HBA:=hidden hbA
    have HGC:=hidden hgc2
    have HRJ:=hidden (HR1.out j hlt)
    have HNJ:=hidden (HNT.out j hlt)
    have HMJ:=hidden (HMG.out gs[j])
    have HNJ2:=hidden (HNL.out (j+1))
    have HQ:Hid (∀ U,Below (wr.alloc (.cells #[.slice (some ⟨R,0,none⟩) gs[j].1.length gs[j].1.length,.slice va vn vc] 109)).heap.size (wr.alloc (.cells #[.slice (some ⟨R,0,none⟩) gs[j].1.length gs[j].1.length,.slice va vn vc] 109)) U->U.cell? ⟨wr.heap.size,0,none⟩=some (.slice (some ⟨R,0,none⟩) gs[j].1.length gs[j].1.length)/\U.cell? ⟨wr.heap.size,1,none⟩=some (.slice va vn vc)):=hidden (fun U hU =>
     ⟨(hU.cell (p:=⟨wr.heap.size,0,none⟩) (by show wr.heap.size<_;omega)).trans q0,(hU.cell (p:=⟨wr.heap.size,1,none⟩) (by show wr.heap.size<_;omega)).trans q1⟩)
    obtain ⟨c0,c1,c2,d0,d1,d2,d3,d4,d5⟩:=HT.out _ HBA.out
    obtain ⟨M,hM⟩:∃ M,mayM fs gs[j].2 T=M:=⟨_,rfl⟩
    rw [hM] at HMJ
    have HMC:Hid (∀ U,Below (wr.alloc (.cells #[.slice (some ⟨R,0,none⟩) gs[j].1.length gs[j].1.length,.slice va vn vc] 109)).heap.size (wr.alloc (.cells #[.slice (some ⟨R,0,none⟩) gs[j].1.length gs[j].1.length,.slice va vn vc] 109)) U->Calls Tryz.prog 66 #[.agg #[.int .u8 (op:Int),.int .u32 (f:Int),.int .u8 (k0:Int),.int .i64 k1,.string k2,.slice ka ks.length kc],.agg #[.int .u32 (id:Int),.slice fa fs.length fc],.slice va vn vc] U
      fun e w'=>e=.returned (.agg #[.bool M.1,.bool M.2.1,.bool M.2.2])/\Below (wr.alloc (.cells #[.slice (some ⟨R,0,none⟩) gs[j].1.length gs[j].1.length,.slice va vn vc] 109)).heap.size (wr.alloc (.cells #[.slice (some ⟨R,0,none⟩) gs[j].1.length gs[j].1.length,.slice va vn vc] 109)) w'):=hidden (fun U hU=>by
     have hbU:=HBA.out.trans (hU.mono HBA.out.size)
     obtain ⟨_,_,hg⟩:=HGC.out U hbU
     refine (HMY.out U _ gs[j].2 hbU hg.stats (HST.out j hlt)).mono ?_
     rintro e w' ⟨rfl,hb⟩
     rw [hM]
     exact ⟨rfl,below_then hU hb⟩)
    clear hM hgro hgc2 hbA hbo hzq q0 q1 ca cb HO
    obtain ⟨ca,cb,_⟩:=HGC.out wr HB.out
    go_upto_region 8 with fail
    generalize hWA:wr.alloc (.cells #[.slice (some ⟨R,0,none⟩) gs[j].1.length gs[j].1.length,.slice va vn vc] 109)=WA at *
    obtain ⟨e0,e1⟩:=HQ.out WA (Below.refl _ _)
    have hix:∀ w,(Instr.index 123 (.agg #[.bool M.1,.bool M.2.1,.bool M.2.2]) (.int .u8 2)).run Tryz.prog w=.ok (.bool M.2.2) w:=idx123 _ _ _
    go_cut [34] from 46 (fun v wx=>v=.bool M.2.2/\Below WA.heap.size WA wx)
    case first =>
     refine wp_region_noPanic ?_
     go_region_law (first
      | (go_simp;go_at_call 66;refine (HMC.out _ ?_).mono ?_;exact below_drewN (Below.refl WA.heap.size WA) _;rintro e w5 ⟨rfl,hb5⟩;have HB5:=hidden hb5;clear hb5;dsimp only)
      | fail)
     all_goals refine NoPanic.normal ?_
     all_goals go_wp2_with fail
     all_goals go_meet
     all_goals exact ⟨rfl,HB5.out⟩
    case rest =>
    obtain ⟨rfl,hcw⟩:=hcut
    obtain ⟨w5,hw5⟩:∃ w5,w5=wc:=⟨_,rfl⟩
    subst hw5
    have HB5:=hidden hcw
    have HBA5:=hidden (HBA.out.trans (hcw.mono HBA.out.size))
    have HO5:=hidden (HOA.out.kept hcw)
    obtain ⟨f0,f1⟩:=HQ.out w5 hcw
    have hz5:=hcw.size
    clear hcw hix e0 e1 ca cb c0 c1 c2 d0 d1 d2 d3 d4 d5 HMC HOA
    obtain ⟨m1,m2,m3⟩:=M
    simp only at *
    have hz6:=HBA5.out.size
    cases m3 with
    | false =>
     have HRJ2:Hid (findR fs T (gs.take (j+1))=findR fs T (gs.take j)):=hidden (by rw [HRJ.out,HMJ.out];simp)
     have HNJ3:Hid (findN fs T (gs.take (j+1))=findN fs T (gs.take j)):=hidden (by rw [HNJ.out,HMJ.out];simp)
     go_wp2_with fail
     go_roundw
     case rel=>exact ⟨j+1,l,by omega,by go_num,by rw [HNJ3.out],HO5.out,by rw [HRJ2.out,HSN.out],HBA5.out⟩
     case measure=>simp [intOf];omega
    | true =>
     have HRJ2:Hid (findR fs T (gs.take (j+1))=findR fs T (gs.take j)++hits fs T gs[j].1):=hidden (by rw [HRJ.out,HMJ.out];simp)
     have HNJ3:Hid (findN fs T (gs.take (j+1))=findN fs T (gs.take j)+1):=hidden (by rw [HNJ.out,HMJ.out];simp)
     have hnl:findN fs T (gs.take j)<=100000:=by have h1:=HNJ2.out;have h2:=HNJ3.out;omega
     obtain ⟨cn,hcn⟩:∃ cn,findN fs T (gs.take j)=cn:=⟨_,rfl⟩
     have HCN:=hidden hcn
     rw [hcn] at hnl ⊢
     clear hcn
     obtain ⟨_,_,hg5⟩:=HGC.out w5 HBA5.out
     have HFC:=hidden (HFI.out w5 _ _ j hlt HBA5.out hg5)
     obtain ⟨_,_,_,d0,d1,d2,d3,d4,d5⟩:=HT.out w5 HBA5.out
     have HHL2:=hidden (HHL.out gs[j].1)
     have HGL:Hid (gs[j].1.length<=1000):=hidden (by
      have h5:=allR_take hlt
      have h6:=allR_take_len gs (j+1)
      have h7:=HTOT.out
      rw [h5,List.length_append] at h6
      omega)
     clear hg5
     go_wp2_with fail
     refine HFC.out.mono ?_
     rintro e w6 ⟨⟨v6,l6,rfl,ho6,hsn6⟩,hb6⟩
     have HO6:=hidden (HO5.out.kept hb6)
     have HV6:=hidden ho6
     have HSN6:=hidden hsn6
     have HB6:=hidden (HBA5.out.trans (hb6.mono hz6))
     have hz7:=hb6.size
     obtain ⟨va6,vc6,rfl,_,_⟩:=own_form3 ho6.1
     clear hb6 ho6 hsn6 HFC HO5
     go_wp2_with (first | (at_builtin;refine wpList_append_w rfl _ _ rfl A.heap.size _ _ l l6 rfl HO6.out rfl HV6.out.sv ?c1 ?c2 ?c3 ?_))
     case c1=>exact fun x hx=>(HV6.out.2 x hx).of_le hz6
     case c2 =>
      have h1:=congrArg List.length HSN6.out
      have h2:=HHL2.out
      have h3:=HGL.out
      rw [List.length_map] at h1
      omega
     case c3=>omega
     intro v' w7 o7 b7
     have HO7:=hidden o7
     have HB7:=hidden (HB6.out.trans b7)
     clear o7 b7
     go_wp2_with fail
     go_roundw
     case rel=>exact ⟨j+1,_,by omega,by go_num,by rw [HNJ3.out,HCN.out];go_num,HO7.out,by rw [HRJ2.out,List.map_append,HSN.out,HSN6.out],HB7.out⟩
     case measure=>simp [intOf];omega
   ·obtain rfl:j=gs.length:=by omega
    have hge:¬ ((gs.length:Nat):Int)<(gs.length:Int):=by omega
    have hzz:w.heap.size<=A.heap.size:=by have:=HZ1.out;omega
    have HSN2:Hid (l.map Prod.snd=RR):=hidden (by rw [HSN.out,HRA.out,HRE.out])
    have HN2:Hid (findN fs T (gs.take gs.length)=N):=hidden (by rw [HNA.out,HNE.out])
    rw [HN2.out]
    go_wp2_with fail
    go_ret2
    first | exact ⟨⟨_,_,rfl,HO.out.low hzz,HSN2.out⟩,below_then HBW.out HB.out⟩ | exact ⟨⟨_,rfl,_,HO.out.low hzz,HSN2.out⟩,below_then HBW.out HB.out⟩
 ·have hkz:(k != 0)=true:=by simp [hk0]
  rw [hkz]
  obtain ⟨hNe,hRe⟩:=HN1.out hk0
  have HRE:=hidden hRe
  have hzz:w.heap.size<=A.heap.size:=by have:=HZ1.out;omega
  subst hNe
  clear hRe
  go_wp2_with fail
  go_ret2
  first | exact ⟨⟨_,[],rfl,Ow.nil _ _,HRE.out.symm⟩,below_then HBW.out HB1.out⟩ | exact ⟨⟨_,rfl,[],Ow.nil _ _,HRE.out.symm⟩,below_then HBW.out HB1.out⟩
end Go.Proofs.YtpljdjmpamjkhaaGreatDoor
set_option linter.unusedVariables false
set_option linter.unusedSimpArgs false
namespace Go.Proofs.YtpljdjmpamjkhaaGreatDoor
open Go.RowKit Go.Lib
theorem OwnC.low' {W:World} {B B':Nat} {v:Value} {l:Row} (h:OwnC W B v l) (hB:B'<=B):OwnC W B' v l:=own_lower h hB
def Oc (W:World) (B:Nat) (v:Value) (l:List (Value×Row)):Prop:=W.ownsRow B 58 1 v l.length (l.map Prod.fst)/\∀ x∈l,OwnC W B x.1 x.2
theorem Oc.nil (W:World) (B:Nat):Oc W B (.slice none 0 0) []:=⟨World.ownsRow_nil _ _ _ _,fun x hx=>by simp at hx⟩
theorem Oc.kept {W W':World} {B:Nat} {v:Value} {l:List (Value×Row)} (h:Oc W B v l) (hb:Below W.heap.size W W'):Oc W' B v l:=⟨own_kept h.1 hb,fun x hx=>(h.2 x hx).kept hb⟩
theorem Oc.form {W:World} {B:Nat} {v:Value} {l:List (Value×Row)} (h:Oc W B v l):∃ a cap,v=.slice a l.length cap/\l.length<=cap/\cap<=maxLen/\(a=none->cap=0):=by
 rcases h.1 with ⟨h0,⟨h1,h2⟩ | ⟨g,cap,cur,h1,h2,h3,h4,h5,_⟩⟩
 ·exact ⟨none,0,by rw [h1,h2],by omega,by unfold maxLen;omega,fun _=>rfl⟩
 ·exact ⟨_,cap,h1,h4,h5,fun e=>by cases e⟩
theorem Oc.at {W:World} {B:Nat} {a:Option Addr} {n cap:Nat} {l:List (Value×Row)} (h:Oc W B (.slice a n cap) l) {k:Nat} (hk:k<l.length) :
  ∃ g,a=some ⟨g,0,none⟩/\g<W.heap.size/\W.cell? ⟨g,k,none⟩=some l[k].1/\OwnC W B l[k].1 l[k].2:=by
 rcases h with ⟨⟨h0,⟨h1,h2⟩ | ⟨g,cap',cur,h1,h2,h3,h4,h5,h6,h7⟩⟩,hr⟩
 ·omega
 ·simp only [Value.slice.injEq] at h1
  obtain ⟨rfl,rfl,rfl⟩:=h1
  refine ⟨g,rfl,(Array.getElem?_eq_some_iff.1 h3).1,?_,(hr _ (List.getElem_mem hk))⟩
  have hj:(l.map Prod.fst)[k]?=some l[k].1:=by simp [hk]
  simp only [World.cell?,h3]
  rw [← h7] at hj
  have hlt:=(List.getElem?_eq_some_iff.1 hj).1
  rw [List.length_take] at hlt
  rw [List.getElem?_take_of_lt (by omega)] at hj
  simpa using hj
theorem Oc.sr {W:World} {B:Nat} {v:Value} {l:List (Value×Row)} (h:Oc W B v l):Sr W v (l.map Prod.snd):=by
 obtain ⟨a,cap,rfl,h1,h2,h3⟩:=h.form
 refine ⟨a,cap,by rw [List.length_map],by rw [List.length_map];exact h1,h2,fun h0=>?_⟩
 rw [List.length_map] at h0
 obtain ⟨g,e,h4,_⟩:=h.at h0
 refine ⟨g,0,e,h4,fun j hj=>?_⟩
 rw [List.length_map] at hj
 obtain ⟨g',e',h5,h6,h7⟩:=h.at hj
 obtain rfl:g=g':=by rw [e] at e';cases e';rfl
 refine ⟨_,by rw [Nat.zero_add];exact h6,?_⟩
 have:=h7.sc
 simpa using this
theorem run_append_o {w:World} (ty:TypeId) (base:Nat) (v vx:Value) (l0 l:List (Value×Row)) (hown:Oc w base v l0) (hsl:Sv w vx (l.map Prod.fst)) (hr:∀ x∈l,OwnC w base x.1 x.2) (hbytes:l0.length+l.length<=1000000) (hbase:base<=w.heap.size) :
  ∃ v' w',(Builtin.append_ #[26,26] ty #[v,vx]).run Tryz.prog w=.ok v' w'/\Oc w' base v' (l0++l)/\Below base w w':=by
 obtain ⟨i0,hi,hz0,hz1',hz2⟩:=info_parts info58
 obtain ⟨ad,cap,rfl,h1,h2,h3,h4⟩:=hsl
 rw [List.length_map] at *
 have one:∀ x∈l.map Prod.fst,x.oneCell'=true:=fun x hx=>by
  obtain ⟨y,hy,rfl⟩:=List.mem_map.1 hx
  obtain ⟨a,n,c,e⟩:=own_slice3 (hr y hy)
  rw [e]
  rfl
 cases ad with
 | none =>
  have hc:=h3 rfl
  subst hc
  have hl:l=[]:=List.eq_nil_of_length_eq_zero (by omega)
  subst hl
  have hr:=run_append_owned_none (P:=Tryz.prog) (w:=w) base 26 ty 58 i0 1 Tryz.underlying26 hi v l0.length (l0.map Prod.fst) hown.1
  refine ⟨v,w,hr,by rw [List.append_nil];exact hown,Below.refl _ _⟩
 | some ad =>
  obtain ⟨v',w',hrun,o1,g1,_,e1⟩:=run_append_own_at (P:=Tryz.prog) w base 26 ty 58 i0 (.slice none 0 0) 1 24 Tryz.underlying26 hi hz0 hz1' hz2 rfl (by decide) v l0.length (l0.map Prod.fst) hown.1 ad l.length cap (l.map Prod.fst) (by rw [List.length_map];omega)
   (fun j u hu=>by
    have hj:j<l.length:=by
     have:=(List.getElem?_eq_some_iff.1 hu).1
     rwa [List.length_map] at this
    obtain ⟨b,off,h5,_,h6⟩:=h4 (by omega)
    cases h5
    rw [addj]
    exact h6 j u hu) one (by unfold maxLen;omega) (by omega) hbase
  have keep:∀ y:Value×Row,OwnC w base y.1 y.2->OwnC w' base y.1 y.2:=fun y hy =>
   ownG_same hy fun k hk=>g1.block k (ownG_block hy hk).2.1 (fun e=>ownG_types hy hown.1 (by decide) hk e.symm)
  refine ⟨v',w',hrun,⟨?_,fun y hy=>?_⟩,(Below.refl base w).grown g1 hbase (fun k hk=>(hown.1.lt k hk).1)⟩
  ·rw [List.length_append,List.map_append]
   exact o1
  ·rcases List.mem_append.1 hy with hy | hy
   ·exact keep y (hown.2 y hy)
   ·exact keep y (hr y hy)
theorem op_append_o {w:World} {o:Oper} {a:Act} {K:Act->World->Prop} {Q:Exit->Act->World->Prop} (s x:Operand)
  (ho:o.op=.call { callee:=.builtin .append,args:=#[s,x],argTypes:=#[26,26] })
  (base:Nat) (v vx:Value) (l0 l:List (Value×Row)) (hs:a.eval s=v) (hown:Oc w base v l0) (hx:a.eval x=vx) (hsl:Sv w vx (l.map Prod.fst)) (hr:∀ x∈l,OwnC w base x.1 x.2) (hbytes:l0.length+l.length<=1000000) (hbase:base<=w.heap.size)
  (h:∀ v' w',Oc w' base v' (l0++l)->Below base w w'->K (a.put o.dst v') w'):Oper.wp Tryz.prog o a w K Q:=by
 obtain ⟨v',w',hr,h2,h3⟩:=run_append_o o.type base v vx l0 l hown hsl hr hbytes hbase
 unfold Oper.wp execOp
 simp only [ho,resolve,invoke,builtin,Sem.run_bind,Sem.run_pure,Result.andThen_ok,List.map_toArray,List.map_cons,List.map_nil,hs,hx,hr]
 exact h v' w' h2 h3
theorem step_append_o {w:World} {ops:Array Oper} {o:Oper} {a:Act} {K:Act->World->Prop} {Q:Exit->Act->World->Prop} {E:Prop} (hgd:o.guard=none) (s x:Operand)
  (ho:o.op=.call { callee:=.builtin .append,args:=#[s,x],argTypes:=#[26,26] })
  (base:Nat) (v vx:Value) (l0 l:List (Value×Row)) (hs:a.eval s=v) (hown:Oc w base v l0) (hx:a.eval x=vx) (hsl:Sv w vx (l.map Prod.fst)) (hr:∀ x∈l,OwnC w base x.1 x.2) (hbytes:l0.length+l.length<=1000000) (hbase:base<=w.heap.size)
  (h:∀ v' w',Oc w' base v' (l0++l)->Below base w w'->K (a.put o.dst v') w') :
  if Region.wanted o (yielded ops a.tmps)=true then Oper.wp Tryz.prog o a w K Q else E:=by
 have hw:Region.wanted o (yielded ops a.tmps)=true:=by simp [Region.wanted,hgd]
 rw [if_pos hw]
 exact op_append_o s x ho base v vx l0 l hs hown hx hsl hr hbytes hbase h
theorem wpList_append_o {w:World} {ops:Array Oper} {rest:List Oper} {o:Oper} {a:Act} {Q:Exit->Act->World->Prop} (hgd:o.guard=none) (s x:Operand)
  (ho:o.op=.call { callee:=.builtin .append,args:=#[s,x],argTypes:=#[26,26] })
  (base:Nat) (v vx:Value) (l0 l:List (Value×Row)) (hs:a.eval s=v) (hown:Oc w base v l0) (hx:a.eval x=vx) (hsl:Sv w vx (l.map Prod.fst)) (hr:∀ x∈l,OwnC w base x.1 x.2) (hbytes:l0.length+l.length<=1000000) (hbase:base<=w.heap.size)
  (h:∀ v' w',Oc w' base v' (l0++l)->Below base w w'->wpList Tryz.prog ops Q rest (a.put o.dst v') w') :
  wpList Tryz.prog ops Q (o::rest) a w :=
 wpList_plain hgd fun K hK=>op_append_o s x ho base v vx l0 l hs hown hx hsl hr hbytes hbase fun v' w' h1 h2=>hK _ _ (h v' w' h1 h2)
end Go.Proofs.YtpljdjmpamjkhaaGreatDoor
set_option linter.unusedVariables false
set_option linter.unusedSimpArgs false
set_option maxRecDepth 100000
set_option maxHeartbeats 4000000
namespace Go.Proofs.YtpljdjmpamjkhaaGreatDoor
open Go.RowKit Go.Lib
theorem fix_row {r:Row} (h:∀ c∈r,Fine c):r.map fixC=r:=by
 conv=>rhs;rw [← List.map_id r]
 exact List.map_congr_left fun c hc=>fixC_same (h c hc)
theorem lrows_any {w:World} {v:Value} {rs:List Row} (hs:Sr w v rs) (hf:∀ r∈rs,∀ c∈r,Fine c) (hl:rs.length<=1000) (hll:∀ r∈rs,r.length<=600) :
  Calls Tryz.prog 13 #[v] w fun e w'=>(∃ v' l,e=.returned v'/\Ow w' w.heap.size v' l/\l.map Prod.snd=rs)/\Below w.heap.size w w':=by
 have HS:=hidden hs
 have HF:=hidden hf
 have HLL:=hidden hll
 obtain ⟨a,cap,rfl,hcap,hcm⟩:=hs.form
 have hcm':cap<=9223372036854775807:=by unfold maxLen at hcm;omega
 clear hs hcm hf hll
 go_enter Tryz.func13,Tryz.ntmps13
 go_wp2_with fail
 go_loopw [3,4] (fun o i wr=>∃ (j:Nat) (l:List (Value×Row)),j<=rs.length/\i=.int .i64 (j:Int)/\Ow wr w.heap.size o l/\l.map Prod.snd=rs.take j/\Below w.heap.size w wr) (fun _ i _=>rs.length-(intOf i).toNat)
 case atStart=>exact ⟨0,[],by omega,rfl,Ow.nil _ _,rfl,Below.refl _ _⟩
 case round =>
  obtain ⟨j,l,hj,rfl,how,hsn,hbel⟩:=hrel
  have HO:=hidden how
  have HB:=hidden hbel
  have HSN:=hidden hsn
  have hzr:=hbel.size
  have hll:l.length=j:=by have:=congrArg List.length hsn;rw [List.length_map,List.length_take] at this;omega
  clear how hbel hsn
  by_cases hlt:j<rs.length
  ·obtain ⟨g,off,rv,rfl,hg,hcell,hsc⟩:=(HS.out.kept HB.out).at hlt
   have hlt':(j:Int)<(rs.length:Int):=by omega
   have HNX:Hid (rs.take (j+1)=rs.take j++[rs[j]]):=hidden (List.take_succ_eq_append_getElem hlt)
   have HRW:=hidden (row6_any hsc (fun c hc=>(HF.out _ (List.getElem_mem hlt) c hc).okc) (HLL.out _ (List.getElem_mem hlt)))
   rw [fix_row (HF.out _ (List.getElem_mem hlt))] at HRW
   generalize rs[j]=r at *
   obtain ⟨ra,rc,rfl,_,_⟩:=hsc.form
   have HLJ:=hidden hll
   clear hsc hll
   go_wp2_with fail
   refine HRW.out.mono ?_
   rintro e w1 ⟨⟨rv',rfl,ho1⟩,hb1⟩
   have HO1:=hidden ho1
   have HOW1:=hidden (HO.out.kept hb1)
   have HB1:=hidden (HB.out.trans (hb1.mono hzr))
   have hz1:=hb1.size
   obtain ⟨ra',rc',rfl,_,_⟩:=own_form3 ho1
   have HCN:=hidden (cell_new w1 (.slice ra' r.length rc') 79)
   clear hb1 ho1
   go_wp2_with (first | (at_builtin;refine wpList_append_w rfl _ _ rfl w.heap.size _ _ l [(.slice ra' r.length rc',r)] rfl (HOW1.out.kept (below_one _ _)) rfl (sv_lit1 HCN.out (by rw [World.size_alloc];omega)) ?c1 ?c2 ?c3 ?_))
   case c1 =>
    intro x hx
    rw [List.mem_singleton.1 hx]
    exact (HO1.out.kept (below_one _ _)).of_le hzr
   case c2=>have:=HLJ.out;simp only [List.length_singleton];omega
   case c3=>rw [World.size_alloc];omega
   intro v' w5 o5 b5
   have HO5:=hidden o5
   have HB5:=hidden ((HB1.out.alloc (Nat.le_trans hzr hz1) _).trans b5)
   clear o5 b5
   go_wp2_with fail
   go_roundw
   case rel=>exact ⟨j+1,_,by omega,by go_num,HO5.out,by rw [HNX.out,List.map_append,HSN.out];rfl,HB5.out⟩
   case measure=>simp [intOf];omega
  ·obtain rfl:j=rs.length:=by omega
   rw [List.take_length] at HSN
   have hge:¬ ((rs.length:Nat):Int)<(rs.length:Int):=by omega
   go_wp2_with fail
   go_ret
   first | exact ⟨⟨_,_,rfl,HO.out,HSN.out⟩,HB.out⟩ | exact ⟨⟨_,rfl,_,HO.out,HSN.out⟩,HB.out⟩
theorem lall_any {w:World} {v:Value} {rs:List Row} (hs:Rv w v rs) (hf:∀ r∈rs,∀ c∈r,Fine c) (hl:rs.length<=1000) (hll:∀ r∈rs,r.length<=600) :
  Calls Tryz.prog 34 #[v] w fun e w'=>(∃ v' l,e=.returned v'/\Oc w' w.heap.size v' l/\l.map Prod.snd=rs)/\Below w.heap.size w w':=by
 have HS:=hidden hs
 have HF:=hidden hf
 have HLL:=hidden hll
 obtain ⟨a,cap,rfl,hcap,hcm',_⟩:=hs.form
 clear hs hf hll
 go_enter Tryz.func34,Tryz.ntmps34
 go_wp2_with fail
 go_loopw [3,4] (fun o i wr=>∃ (j:Nat) (l:List (Value×Row)),j<=rs.length/\i=.int .i64 (j:Int)/\Oc wr w.heap.size o l/\l.map Prod.snd=rs.take j/\Below w.heap.size w wr) (fun _ i _=>rs.length-(intOf i).toNat)
 case atStart=>exact ⟨0,[],by omega,rfl,Oc.nil _ _,rfl,Below.refl _ _⟩
 case round =>
  obtain ⟨j,l,hj,rfl,how,hsn,hbel⟩:=hrel
  have HO:=hidden how
  have HB:=hidden hbel
  have HSN:=hidden hsn
  have hzr:=hbel.size
  have hll:l.length=j:=by have:=congrArg List.length hsn;rw [List.length_map,List.length_take] at this;omega
  clear how hbel hsn
  by_cases hlt:j<rs.length
  ·obtain ⟨g,off,rv,rfl,hg,hcell,hsc⟩:=(HS.out.kept HB.out).at hlt
   have hlt':(j:Int)<(rs.length:Int):=by omega
   have HNX:Hid (rs.take (j+1)=rs.take j++[rs[j]]):=hidden (List.take_succ_eq_append_getElem hlt)
   have HRW:=hidden (cells_any hsc (HF.out _ (List.getElem_mem hlt)) (HLL.out _ (List.getElem_mem hlt)))
   generalize rs[j]=r at *
   obtain ⟨ra,rc,rfl,_,_⟩:=hsc.form1
   rw [vvals_length] at *
   have HLJ:=hidden hll
   clear hsc hll
   go_wp2_with fail
   refine HRW.out.mono ?_
   rintro e w1 ⟨⟨rv',rfl,ho1⟩,hb1⟩
   have HO1:=hidden ho1
   have HOW1:=hidden (HO.out.kept hb1)
   have HB1:=hidden (HB.out.trans (hb1.mono hzr))
   have hz1:=hb1.size
   obtain ⟨ra',rc',rfl,_,_⟩:=own_form3 ho1
   have HCN:=hidden (cell_new w1 (.slice ra' r.length rc') 58)
   clear hb1 ho1
   go_wp2_with (first | (at_builtin;refine wpList_append_o rfl _ _ rfl w.heap.size _ _ l [(.slice ra' r.length rc',r)] rfl (HOW1.out.kept (below_one _ _)) rfl (sv_lit1 HCN.out (by rw [World.size_alloc];omega)) ?c1 ?c2 ?c3 ?_))
   case c1 =>
    intro x hx
    rw [List.mem_singleton.1 hx]
    exact (HO1.out.kept (below_one _ _)).low' hzr
   case c2=>have:=HLJ.out;simp only [List.length_singleton];omega
   case c3=>rw [World.size_alloc];omega
   intro v' w5 o5 b5
   have HO5:=hidden o5
   have HB5:=hidden ((HB1.out.alloc (Nat.le_trans hzr hz1) _).trans b5)
   clear o5 b5
   go_wp2_with fail
   go_roundw
   case rel=>exact ⟨j+1,_,by omega,by go_num,HO5.out,by rw [HNX.out,List.map_append,HSN.out];rfl,HB5.out⟩
   case measure=>simp [intOf];omega
  ·obtain rfl:j=rs.length:=by omega
   rw [List.take_length] at HSN
   have hge:¬ ((rs.length:Nat):Int)<(rs.length:Int):=by omega
   go_wp2_with fail
   go_ret
   first | exact ⟨⟨_,_,rfl,HO.out,HSN.out⟩,HB.out⟩ | exact ⟨⟨_,rfl,_,HO.out,HSN.out⟩,HB.out⟩
end Go.Proofs.YtpljdjmpamjkhaaGreatDoor
