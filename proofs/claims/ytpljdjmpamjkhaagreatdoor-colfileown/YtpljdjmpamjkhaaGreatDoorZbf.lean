/- Contract: text. -/
import Derived.Test.YtpljdjmpamjkhaaGreatDoorZaw
import Derived.Test.YtpljdjmpamjkhaaGreatDoorZbd
import Derived.Test.YtpljdjmpamjkhaaGreatDoorZbe
import Derived.Test.YtpljdjmpamjkhaaGreatDoorZba
import Derived.Test.YtpljdjmpamjkhaaGreatDoorZat
import Derived.Deep.CutRange
import Derived.Deep.RegionLaw
import Derived.Sort.CutIn
set_option linter.unusedVariables false
set_option linter.unusedSimpArgs false
set_option maxRecDepth 100000
set_option maxHeartbeats 8000000
namespace Go.Proofs.YtpljdjmpamjkhaaGreatDoor
open Go.RowKit Go.Lib Go.Shelf
attribute [local go_sem] Oper.semAt_some
theorem text_any {w:World} {fv rv:Value} {fs:List Fd} {rs:List Row} {id g:Nat} (hs:Sf w fv fs) (hr:Rv w rv rs) (ho:∀ f∈fs,Okf f) (hid:id<4294967296) (hl:fs.length<=8) (hz:szs fs<5000) (hrl:rs.length<=256) (hg1:1<=g) (hg2:g<=64)
  (hfit:FitA fs rs) (hk:∀ f∈fs,1<=f.2.2.1/\f.2.2.1<=3) :
  Calls Tryz.prog 41 #[.agg #[.int .u32 (id:Int),fv],rv,.int .i64 (g:Int)] w (Told w (textM id fs rs g)):=by
 obtain ⟨fa,fcap,rfl,hfc1,hfc2⟩:=hs.form
 obtain ⟨ra,rcap,rfl,hrc1,hrc2,hra⟩:=hr.form
 have HPK:Hid (∀ U:World,Sf U (.slice fa fs.length fcap) fs->Calls Tryz.prog 80 #[.agg #[.int .u32 (id:Int),.slice fa fs.length fcap]] U (Told U (packM id fs))):=hidden (fun U h=>pack_any h ho (by omega) hz id hid)
 have HCN:=hidden (fun n (hn:n<9223372036854775808)=>count_told n hn)
 have hb0:=below_one w (.cells #[.int .u32 (id:Int),.slice fa fs.length fcap] 25)
 have hblk:=heap_alloc_new w (.cells #[.int .u32 (id:Int),.slice fa fs.length fcap] 25)
 have hsz:(w.alloc (.cells #[.int .u32 (id:Int),.slice fa fs.length fcap] 25)).heap.size=w.heap.size+1:=World.size_alloc _ _
 have HS:=hidden (hs.kept hb0)
 have HR:=hidden (hr.kept hb0)
 have HR0:=hidden hr
 have HB0:=hidden hb0
 have HT:Hid (∀ U,Below (w.alloc (.cells #[.int .u32 (id:Int),.slice fa fs.length fcap] 25)).heap.size (w.alloc (.cells #[.int .u32 (id:Int),.slice fa fs.length fcap] 25)) U->U.cell? ⟨w.heap.size,0,none⟩=some (.int .u32 (id:Int))/\U.cell? ⟨w.heap.size,1,none⟩=some (.slice fa fs.length fcap)):=hidden (fun U hb=>by
  have hU:=(hb.block w.heap.size (by omega)).trans hblk
  constructor<;>(rw [cell_block hU];rfl))
 generalize hA:w.alloc (.cells #[.int .u32 (id:Int),.slice fa fs.length fcap] 25)=A at *
 have HSZ:=hidden hsz
 have hcv:(convert 30 30 (.slice (some ⟨A.heap.size,0,none⟩) 3 3)).run Tryz.prog (A.alloc (.cells #[.int .u8 67,.int .u8 70,.int .u8 49] 5))=.ok (.slice (some ⟨A.heap.size,0,none⟩) 3 3) (A.alloc (.cells #[.int .u8 67,.int .u8 70,.int .u8 49] 5 (3,4))) :=
  run_convert_bytes_const A 30 5 #[.int .u8 67,.int .u8 70,.int .u8 49] 3 3 Tryz.underlying30 Tryz.underlying5
 obtain ⟨c0,c1⟩:=HT.out A (Below.refl _ _)
 clear hs hr hb0 hblk hsz
 refine (callsIn_wide (n:=3)).1 ?_
 refine callsIn_of_wp_marks Tryz.func41 rfl trivial ?_ rfl
 refine wpIn_wide.2 ?_
 simp only [Tryz.ntmps41,List.size_toArray,List.length_cons,List.length_nil,Nat.reduceAdd,Nat.reduceSub,Array.replicate_succ,Array.replicate_zero,List.push_toArray,List.append_toArray,List.nil_append,List.cons_append]
 have hbX:Below A.heap.size A ((A.alloc (.cells #[.int .u8 67,.int .u8 70,.int .u8 49] 5 (3,4))).alloc (.cells #[.slice (some ⟨A.heap.size,0,none⟩) 3 3] 30)):=((Below.refl A.heap.size A).alloc (Nat.le_refl _) _).alloc (by rw [World.size_alloc];omega) _
 obtain ⟨d0,d1⟩:=HT.out _ hbX
 have hLit:LitM ((A.alloc (.cells #[.int .u8 67,.int .u8 70,.int .u8 49] 5 (3,4))).alloc (.cells #[.slice (some ⟨A.heap.size,0,none⟩) 3 3] 30)) A.heap.size (.slice (some ⟨A.heap.size,0,none⟩) 3 3) [67,70,49]:=by
  refine ⟨rfl,_,rfl,Nat.le_refl _,?_⟩
  exact (Below.heap_alloc (A.alloc (.cells #[.int .u8 67,.int .u8 70,.int .u8 49] 5 (3,4))) _ A.heap.size (by rw [World.size_alloc];omega)).trans (heap_alloc_new A _)
 have hBox:Boxed ((A.alloc (.cells #[.int .u8 67,.int .u8 70,.int .u8 49] 5 (3,4))).alloc (.cells #[.slice (some ⟨A.heap.size,0,none⟩) 3 3] 30)) (A.heap.size+1) 30 (.slice (some ⟨A.heap.size,0,none⟩) 3 3):=by
  have:=Boxed.new (A.alloc (.cells #[.int .u8 67,.int .u8 70,.int .u8 49] 5 (3,4))) 30 (.slice (some ⟨A.heap.size,0,none⟩) 3 3)
  rwa [World.size_alloc] at this
 go_wp2_with fail
 generalize hX:((A.alloc (.cells #[.int .u8 67,.int .u8 70,.int .u8 49] 5 (3,4))).alloc (.cells #[.slice (some ⟨A.heap.size,0,none⟩) 3 3] 30))=X at *
 clear hX hcv
 refine (HPK.out _ (HS.out.kept hbX)).mono ?_
 rintro e w1 ⟨⟨v1,rfl,o1⟩,hb1⟩
 obtain ⟨a1,cap1,rfl,_,_⟩:=own_slice o1
 have hbY:=below_then hb1 (below_one w1 (.cells #[.slice a1 (packM id fs).length cap1] 30))
 have hboxY:=Boxed.new w1 30 (.slice a1 (packM id fs).length cap1)
 have hltX:A.heap.size+1<X.heap.size:=hBox.lt
 have hX1:=hb1.size
 have hBX:Bx2 (w1.alloc (.cells #[.slice a1 (packM id fs).length cap1] 30)) A.heap.size (A.heap.size+1) w1.heap.size (.slice (some ⟨A.heap.size,0,none⟩) 3 3) (.slice a1 (packM id fs).length cap1) [67,70,49] (packM id fs):=by
  refine ⟨(hbY.block (A.heap.size+1) hltX).trans hBox,hboxY,by omega,(OwnM.kept (Or.inr hLit) hbY),Or.inl (OwnB.kept (own_low o1 hbX.size) (below_one w1 (.cells #[.slice a1 (packM id fs).length cap1] 30))),fun g hg h2=>?_,by omega,by omega⟩
  have:=(World.ownsRow.lt o1 g h2).1
  simp [Value.ownBlock] at hg
  omega
 have hbAY:Below A.heap.size A (w1.alloc (.cells #[.slice a1 (packM id fs).length cap1] 30)):=below_then hbX hbY
 have HPL:Hid ((packM id fs).length<=10100):=hidden (by
  have h1:=packL_take_len ho (by omega) hz fs.length
  rw [List.take_length] at h1
  have h2:=uv_le id (by omega)
  have h3:=uv_le fs.length (by omega)
  unfold packM
  simp only [List.length_append]
  omega)
 generalize hP0:packM id fs=P0 at *
 have HE0:=hidden hP0
 clear hP0
 go_upto_region 3 with fail
 clear hb1 o1 hbY hboxY hLit hBox hbX d0 d1 c0 c1 hX1
 generalize hY:w1.alloc (.cells #[.slice a1 P0.length cap1] 30)=Y at *
 generalize w1.heap.size=Bf at *
 have hne:A.heap.size+1≠Bf:=hBX.2.2.1
 generalize A.heap.size+1=Bb at *
 clear hY hltX
 have HBX:=hidden hBX
 have HBA:=hidden hbAY
 obtain ⟨⟨q1,q2⟩,⟨q3,q4⟩⟩:=hBX.cells
 clear hBX hbAY
 have hup1:=uv_pos rs.length
 have hul1:=uv_ten (n:=rs.length) (by omega)
 have hup2:=uv_pos g
 have hul2:=uv_ten (n:=g) (by omega)
 have hn1:rs.length<9223372036854775808:=by omega
 have hn2:g<9223372036854775808:=by omega
 have HCN0:=hidden HCN.out
 have HCN1:=hidden (HCN.out rs.length hn1)
 have HCN2:=hidden (HCN.out g hn2)
 generalize hP1:uv rs.length=P1 at *
 generalize hP2:uv g=P2 at *
 have HE1:=hidden hP1
 have HE2:=hidden hP2
 clear hP1 hP2
 have HC1:Hid (∀ U,Below Y.heap.size Y U->Calls Tryz.prog 81 #[.int .i64 (rs.length:Int)] U fun e w'=>∃ v,e=.returned v/\Sv w' v (vals .u8 (P1))/\Below Y.heap.size Y w'/\w'.cell? ⟨Bf,0,none⟩=some (.slice a1 P0.length cap1)):=hidden (fun U hU=>by
  refine (HCN1.out U).mono ?_
  rintro e w' ⟨⟨v,rfl,ho⟩,hb⟩
  exact ⟨v,rfl,ho.sv,below_then hU hb,((HBX.out.kept (below_then hU hb)).cells.2).1⟩)
 go_cut [] from 15 (fun wx=>∃ v2,Bx2 wx A.heap.size Bb Bf (.slice (some ⟨A.heap.size,0,none⟩) 3 3) v2 [67,70,49] (P0++P1)/\Below A.heap.size A wx)
 case first =>
  refine wp_region_noPanic ?_
  go_region_law (first
   | (refine step_append_m (by rfl) _ _ (by rfl) A.heap.size _ _ (P0) (P1) (by rfl) ?_ (by rfl) HO5.out hup1 ?_ ?_ ?_;exact (HBX.out.kept HB5.out).2.2.2.2.1;(have:=HPL.out;omega);exact Nat.le_trans HBA.out.size HB5.out.size;intro v6 w6 o6 g6 e6;obtain ⟨a6,cap6,hv6,_,_⟩:=own_slice o6;rw [List.length_append] at hv6;subst hv6;obtain ⟨⟨f1,f2⟩,hbx6,hbl6⟩:=(HBX.out.kept HB5.out).swap.app (Nat.le_trans HBA.out.size HB5.out.size) o6 g6 e6;have HX6:=hidden hbx6.swap;have HL6:=hidden (hbl6);clear o6 g6 e6 hbx6 hbl6)
   | (go_simp;go_at_call 81;refine (HC1.out _ ?_).mono ?_;exact below_drewN (Below.refl Y.heap.size Y) 1;rintro e w5 ⟨v5,rfl,ho5,hb5,hc5⟩;have HO5:=hidden ho5;have HB5:=hidden hb5;clear ho5 hb5;dsimp only)
   | fail)
  all_goals refine NoPanic.normal ?_
  all_goals (go_wp2_with fail;go_meet;exact ⟨_,HX6.out,(HBA.out.trans (HB5.out.mono HBA.out.size)).trans HL6.out⟩)
 clear HC1 HBX HBA q1 q2 q3 q4
 case rest =>
 obtain ⟨v2,hBX,hbA⟩:=hcut
 go_upto_region 4 with fail
 obtain ⟨⟨q1,q2⟩,⟨q3,q4⟩⟩:=hBX.cells
 obtain ⟨a2,cap2,rfl⟩:=hBX.2.2.2.2.1.slice
 have HBX:=hidden hBX
 have HBA:=hidden hbA
 clear hBX hbA
 have hF1l:(P0++P1).length<=10110:=by have:=HPL.out;rw [List.length_append];omega
 generalize hF1:P0++P1=F1 at *
 have HC2:Hid (∀ U,Below wc.heap.size wc U->Calls Tryz.prog 81 #[.int .i64 (g:Int)] U fun e w'=>∃ v,e=.returned v/\Sv w' v (vals .u8 (P2))/\Below wc.heap.size wc w'/\w'.cell? ⟨Bf,0,none⟩=some (.slice a2 F1.length cap2)):=hidden (fun U hU=>by
  refine (HCN2.out U).mono ?_
  rintro e w' ⟨⟨v,rfl,ho⟩,hb⟩
  exact ⟨v,rfl,ho.sv,below_then hU hb,((HBX.out.kept (below_then hU hb)).cells.2).1⟩)
 go_cut [] from 15 (fun wx=>∃ v2,Bx2 wx A.heap.size Bb Bf (.slice (some ⟨A.heap.size,0,none⟩) 3 3) v2 [67,70,49] (F1++P2)/\Below A.heap.size A wx)
 case first =>
  refine wp_region_noPanic ?_
  go_region_law (first
   | (refine step_append_m (by rfl) _ _ (by rfl) A.heap.size _ _ (F1) (P2) (by rfl) ?_ (by rfl) HO5.out hup2 ?_ ?_ ?_;exact (HBX.out.kept HB5.out).2.2.2.2.1;(omega);exact Nat.le_trans HBA.out.size HB5.out.size;intro v6 w6 o6 g6 e6;obtain ⟨a6,cap6,hv6,_,_⟩:=own_slice o6;rw [List.length_append] at hv6;subst hv6;obtain ⟨⟨f1,f2⟩,hbx6,hbl6⟩:=(HBX.out.kept HB5.out).swap.app (Nat.le_trans HBA.out.size HB5.out.size) o6 g6 e6;have HX6:=hidden hbx6.swap;have HL6:=hidden (hbl6);clear o6 g6 e6 hbx6 hbl6)
   | (go_simp;go_at_call 81;refine (HC2.out _ ?_).mono ?_;exact below_drewN (Below.refl wc.heap.size wc) 1;rintro e w5 ⟨v5,rfl,ho5,hb5,hc5⟩;have HO5:=hidden ho5;have HB5:=hidden hb5;clear ho5 hb5;dsimp only)
   | fail)
  all_goals refine NoPanic.normal ?_
  all_goals (go_wp2_with fail;go_meet;exact ⟨_,HX6.out,(HBA.out.trans (HB5.out.mono HBA.out.size)).trans HL6.out⟩)
 clear HC2 HBX HBA q1 q2 q3 q4
 case rest =>
 obtain ⟨v3,hBX,hbA⟩:=hcut
 have hF2l:(F1++P2).length<=10120:=by rw [List.length_append];omega
 generalize hF2:F1++P2=F2 at *
 have HBX:=hidden hBX
 have HBA:=hidden hbA
 clear hBX hbA
 have HCH:=hidden (chunk_any ra rs.length rcap g hg1)
 go_wp2_with fail
 refine (HCH.out _).mono ?_
 rintro e w7 ⟨rfl,rfl⟩
 go_wp2_with fail
 have hbZ:Below wc.heap.size wc ((wc.alloc (.cells #[.slice ra rs.length rcap] 34)).alloc (.cells #[.int .i64 (g:Int)] 3)):=below_then (below_one _ _) (below_one _ _)
 have hp1:Boxed ((wc.alloc (.cells #[.slice ra rs.length rcap] 34)).alloc (.cells #[.int .i64 (g:Int)] 3)) wc.heap.size 34 (.slice ra rs.length rcap):=(Boxed.new wc 34 _).alloc _
 have hq1:Boxed ((wc.alloc (.cells #[.slice ra rs.length rcap] 34)).alloc (.cells #[.int .i64 (g:Int)] 3)) (wc.heap.size+1) 3 (.int .i64 (g:Int)):=by
  have:=Boxed.new (wc.alloc (.cells #[.slice ra rs.length rcap] 34)) 3 (.int .i64 (g:Int))
  rwa [World.size_alloc] at this
 have hBZ:=HBX.out.kept hbZ
 have hAZ:=below_then HBA.out hbZ
 generalize (wc.alloc (.cells #[.slice ra rs.length rcap] 34)).alloc (.cells #[.int .i64 (g:Int)] 3)=Z at *
 clear hbZ HBX HBA
 generalize wc.heap.size+1=q at *
 generalize wc.heap.size=p at *
 obtain ⟨PV,HPV,hseq⟩:=chunk_seq HR0.out hrl hg1 hg2 2 (by omega)
 have hseqZ:=hseq p q Z hp1.cell hq1.cell hp1.lt hq1.lt
 have HPV:=hidden HPV
 have hpZ:=hp1.lt
 have hqZ:=hq1.lt
 have hAZs:=hAZ.size
 clear hseq
 refine wpIn_wide.1 (?_:Code.wpIn Fence.wide 3 _ _ _ _ _)
 refine wpIn_rangeFunc_ownF (F:=Fence.wide) (n:=3) rfl (by omega) (gf:=121) (lb:=#[.pointer (some ⟨p,0,none⟩),.pointer (some ⟨q,0,none⟩)]) rfl trivial (enters_of Tryz.func121 (by kernel_rfl) rfl) hseqZ (fun h k=>KC.trans h k) (fun W l o o' hl _ _ _=>⟨World.putObj_heap_other (show p≠l by omega),World.putObj_heap_other (show q≠l by omega)⟩) (Below.refl _ _) (fun _=>rfl)
  (fun pre W=>((∃ v1 v2,Bx2 W A.heap.size Bb Bf v1 v2 ([67,70,49]++pre.flatMap fun j=>bdyK fs (prt g rs j) fs.length) (F2++pre.flatMap fun j=>ftK fs (prt g rs j) fs.length))/\Boxed W p 34 (.slice ra rs.length rcap)/\Boxed W q 3 (.int .i64 (g:Int)))/\Below A.heap.size A W)
  (fun _ _ _=>False) ?hI (fun _ _ _ _ _ h _ _=>h) ?h0
  (fun j=>{ tmps:=#[(.agg #[.int .u32 (id:Int),.slice fa fs.length fcap]),(.slice ra rs.length rcap),(.int .i64 (g:Int)),(.pointer (some ⟨w.heap.size,0,none⟩)),undef,undef,(.slice none 0 0),(.pointer (some ⟨Bb,0,none⟩)),(.pointer (some ⟨Bf,0,none⟩)),(PV j),undef,undef,undef,undef,undef,u15,u16,u17,u18,u19,u20,u21,u22,u23,u24,u25,u26,u27,(.slice ra rs.length rcap),(.int .i64 (g:Int)),(.func (.func 121) #[] #[.pointer (some ⟨p,0,none⟩),.pointer (some ⟨q,0,none⟩)]),(PV j),u32,u33,u34,u35,u36,u37,u38,u39,u40,u41,u42,u43,u44,u45,u46,u47,u48,u49,u50,u51,u52,u53,u54,u55,u56,u57,u58,u59,u60,u61,u62,u63,u64,u65,u66,u67,u68,u69,u70,u71],defers:=[] }) ?assign ?body ?done ?stop
 case hI =>
  rintro pre X Y' row ⟨⟨⟨v1,v2,h1⟩,h2,h3⟩,h4⟩ hg hr
  refine ⟨⟨⟨v1,v2,h1.turned hg (fun r e=>(hr r e).2)⟩,?_,?_⟩,h4.grown hg h4.size (fun k e=>Nat.le_trans hAZs (hr k e).1)⟩
  ·refine h2.kept hg (fun e=>?_)
   obtain ⟨_,o,ho,hc⟩:=hr _ e.symm
   rw [show X.heap[p]?=_ from h2] at ho
   cases ho
   cases hc
  ·refine h3.kept hg (fun e=>?_)
   obtain ⟨_,o,ho,hc⟩:=hr _ e.symm
   rw [show X.heap[q]?=_ from h3] at ho
   cases ho
   cases hc
 case h0=>exact ⟨⟨⟨_,_,by simpa using hBZ⟩,hp1,hq1⟩,hAZ⟩
 case assign =>
  intro l x W K hK
  gi_wp2
  exact hK
 case body =>
  rintro l pre j W ⟨⟨⟨v1,v2,hbx⟩,hbp,hbq⟩,hba⟩ hlt
  have HT1:Hid (∀ U,Below A.heap.size A U->U.cell? ⟨w.heap.size,1,none⟩=some (.slice fa fs.length fcap)/\Sf U (.slice fa fs.length fcap) fs):=hidden (fun U hU=>⟨(HT.out U hU).2,HS.out.kept hU⟩)
  have hpl:=prt_length g rs j
  have hpl2:(prt g rs j).length<=256:=by omega
  have HCOL:=hidden (fun k hk2=>fits_col (hfit.part g j) hk hpl2 (k:=k) hk2)
  have HBL:=hidden (fun k (hk2:k<=fs.length)=>(bdyK_len HCOL.out hk2).1)
  have HFL:=hidden (fun k (hk2:k<=fs.length)=>(ftK_len (hfit.part g j) hpl2 HCOL.out hk2).1)
  have HST:=hidden (fun k=>stat_ok (hfit.part g j) hpl2 k)
  have HFN:=hidden (fun k=>colA_fine (hfit.part g j) k)
  have HRP:Hid (∀ U,Below A.heap.size A U->Rv U (PV j) (prt g rs j)):=hidden (fun U hU=>HPV.out U (HR.out.kept hU) j)
  have HRL:Hid (∀ r∈prt g rs j,r.length=fs.length):=hidden (fun r hr=>fit_len (hfit.part g j r hr).1)
  have HKN:Hid (∀ k (h:k<fs.length),kndA fs k=fs[k].2.2.1):=hidden (fun k h=>kndA_get h)
  have HBS:=hidden (bdyK_succ fs (prt g rs j))
  have HFS:=hidden (ftK_succ fs (prt g rs j))
  have HZ1:Hid (([67,70,49]++(pre++[j]).flatMap fun j=>bdyK fs (prt g rs j) fs.length)=([67,70,49]++pre.flatMap fun j=>bdyK fs (prt g rs j) fs.length)++bdyK fs (prt g rs j) fs.length):=hidden (by simp [List.flatMap_append])
  have HZ2:Hid ((F2++(pre++[j]).flatMap fun j=>ftK fs (prt g rs j) fs.length)=(F2++pre.flatMap fun j=>ftK fs (prt g rs j) fs.length)++ftK fs (prt g rs j) fs.length):=hidden (by simp [List.flatMap_append])
  have hpre:pre.length<=256:=by have:=nps_small (n:=rs.length) hg1 hrl;omega
  have hG1:([67,70,49]++pre.flatMap fun j=>bdyK fs (prt g rs j) fs.length).length<=50000000:=by
   have h1:=flat_len (m:=172800) (fun j=>Nat.le_trans (bdyK_len (fun k hk2=>fits_col (hfit.part g j) hk (by rw [prt_length];omega) hk2) (Nat.le_refl _)).1 (by omega)) pre
   rw [List.length_append]
   simp only [List.length_cons,List.length_nil]
   have:172800*pre.length<=172800*256:=Nat.mul_le_mul_left _ hpre
   omega
  have hG2:(F2++pre.flatMap fun j=>ftK fs (prt g rs j) fs.length).length<=500000:=by
   have h1:=flat_len (m:=1360) (fun j=>Nat.le_trans (ftK_len (hfit.part g j) (by rw [prt_length];omega) (fun k hk2=>fits_col (hfit.part g j) hk (by rw [prt_length];omega) hk2) (Nat.le_refl _)).1 (by omega)) pre
   rw [List.length_append]
   have:1360*pre.length<=1360*256:=Nat.mul_le_mul_left _ hpre
   omega
  have HBX:=hidden hbx
  have HPQ:=hidden (And.intro hbp hbq)
  have HBA:=hidden hba
  obtain ⟨hc1,hsf⟩:=HT1.out W hba
  clear hbx hbp hbq hba hseqZ hBZ hAZ hlt hpl hsf HPV
  generalize ([67,70,49]++pre.flatMap fun j=>bdyK fs (prt g rs j) fs.length)=G1 at *
  generalize (F2++pre.flatMap fun j=>ftK fs (prt g rs j) fs.length)=G2 at *
  generalize prt g rs j=PT at *
  generalize PV j=pv at *
  gi_wp2
  gi_loopw [35] (fun i wr=>∃ (k:Nat) (v1 v2:Value),k<=fs.length/\i=.int .i64 (k:Int)/\Bx2 wr A.heap.size Bb Bf v1 v2 (G1++bdyK fs PT k) (G2++ftK fs PT k)/\(Boxed wr p 34 (.slice ra rs.length rcap)/\Boxed wr q 3 (.int .i64 (g:Int)))/\KeepsOthers W wr/\Below A.heap.size A wr) (fun i _=>fs.length-(intOf i).toNat)
  case atStart=>exact ⟨0,v1,v2,by omega,rfl,by simpa [bdyK,ftK] using HBX.out,HPQ.out,KeepsOthers.refl _,HBA.out⟩
  case round =>
   obtain ⟨k,u1,u2,hkl,rfl,hbx,hpq,hko,hba⟩:=hrel
   have HBXr:=hidden hbx
   have HPQr:=hidden hpq
   have HKOr:=hidden hko
   have HBAr:=hidden hba
   clear hbx hpq hko hba
   by_cases hlt:k<fs.length
   ·have hlt':(k:Int)<(fs.length:Int):=by omega
    obtain ⟨hd1,hsf⟩:=HT1.out wr HBAr.out
    obtain ⟨bb,off,rfl,hb,x0,x1,x2,x3⟩:=hsf.at hlt
    clear hsf
    have hcol:=HCOL.out k hlt
    have hbl:=HBL.out k hkl
    have hfl:=HFL.out k hkl
    have hkn:=HKN.out k hlt
    gi_wp2
    have HMEM:Hid (∀ r∈PT,k<r.length):=hidden (fun r hr=>by rw [HRL.out r hr];exact hlt)
    rw [hkn] at hcol
    have HBSk:Hid (bdyK fs PT (k+1)=bdyK fs PT k++colM fs[k].2.2.1 (colA PT k)):=hidden (by rw [HBS.out,hkn])
    have HFSk:Hid (ftK fs PT (k+1)=ftK fs PT k++(uv (colM fs[k].2.2.1 (colA PT k)).length++statB (statM (colA PT k)))):=hidden (by rw [HFS.out,hkn])
    clear hkn
    generalize fs[k]=f at *
    obtain ⟨f0,f1,f2,f3⟩:=f
    simp only at x0 x1 x2 x3 hcol HBSk HFSk ⊢
    have hb1:=below_one wr (.cells #[.int .u32 (f0:Int),.string f1,.int .u8 (f2:Int),.bool f3] 81)
    obtain ⟨_,_,z2,_⟩:=cell_new4 wr (.int .u32 (f0:Int)) (.string f1) (.int .u8 (f2:Int)) (.bool f3) 81
    have hz2:wr.heap.size<(wr.alloc (.cells #[.int .u32 (f0:Int),.string f1,.int .u8 (f2:Int),.bool f3] 81)).heap.size:=by rw [World.size_alloc];omega
    generalize wr.alloc (.cells #[.int .u32 (f0:Int),.string f1,.int .u8 (f2:Int),.bool f3] 81)=R1 at *
    have HB1:=hidden hb1
    clear hb1 x0 x1 x2 x3 hd1
    refine ⟨trivial,?_⟩
    refine (CallsIn.inRound l (callsIn_wide.2 (values10_any (HRP.out R1 (below_then HBAr.out HB1.out)) (by omega) HMEM.out))).mono ?_
    rintro e R2 ⟨⟨vv,rfl,o2⟩,hb2⟩
    have hsv:=o2.sv
    have HLOW:Hid (∀ b,vv.ownBlock=some b->b<R2.heap.size):=hidden (fun b hb=>(World.ownsRow.lt o2 b hb).2)
    obtain ⟨av,capv,rfl,_,_⟩:=own_slice o2
    have z2':=(hb2.cell (p:=⟨wr.heap.size,2,none⟩) hz2).trans z2
    have HB2:=hidden (below_then HB1.out hb2)
    have HSV:=hidden hsv
    have hWC:=writeC_col hcol
    have hcl:=col_size hcol
    have hcp:0<(colM f2 (colA PT k)).length:=by
     unfold colM headB
     rw [List.length_append]
     split
     ·rw [List.length_cons]
      omega
     ·rw [List.length_singleton]
      omega
    have HWR:=hidden (write_any hsv HLOW.out (HFN.out k) f2)
    rw [hWC] at HWR
    obtain ⟨t1,t2,t3⟩:=HST.out k
    have HSTA:Hid (∀ (U:World) (B:Nat) (u:Value),OwnV U B u (colA PT k)->Calls Tryz.prog 59 #[u] U fun e w'=>e=.returned (aggS (statM (colA PT k)))/\Below U.heap.size U w'):=hidden (fun U B u hU=>stats_any hU.sv (HFN.out k) (by rw [colA_length];omega))
    have HOV:=hidden o2
    have HSTT:=hidden (fun U=>statistic_told t1 t2 t3 U)
    obtain ⟨t4,t5⟩:=statB_len t1 t2 t3
    have t6:0<(statB (statM (colA PT k))).length:=by unfold statB;simp only [List.length_append,List.length_singleton];omega
    have hcu:=uv_ten (n:=(colM f2 (colA PT k)).length) (by omega)
    have hcup:=uv_pos (colM f2 (colA PT k)).length
    have HCNT:=hidden (HCN0.out (colM f2 (colA PT k)).length (by omega))
    have hcll:=(col_size hcol).1
    have hvl:(colA PT k).length=PT.length:=colA_length _ _
    clear hWC hcl t1 t2 t3 t5 hb2 o2 hsv z2 hcol
    generalize hCM:colM f2 (colA PT k)=CM at *
    generalize hSM:statM (colA PT k)=SM at *
    generalize hSB:statB SM=SB at *
    generalize hUV:uv CM.length=UV at *
    have HUV:=hidden hUV
    have HSB:=hidden hSB
    have HSM:=hidden hSM
    have HCM:=hidden hCM
    clear hCM hSM hSB hUV hvl
    generalize hCS:colA PT k=CS at *
    have HCS:=hidden hCS
    clear hCS
    gi_wp2
    refine ⟨trivial,?_⟩
    refine (CallsIn.inRound l (callsIn_wide.2 HWR.out)).mono ?_
    rintro e R3 ⟨⟨vc,rfl,o3⟩,hb3⟩
    obtain ⟨ac,capc,rfl,_,_⟩:=own_slice o3
    have HB3:=hidden (below_then HB2.out hb3)
    have HO3:=hidden o3
    have hbx3:=HBXr.out.kept HB3.out
    have hba3:=below_then HBAr.out HB3.out
    obtain ⟨⟨q1,q2⟩,⟨q3,q4⟩⟩:=hbx3.cells
    obtain ⟨a1',cap1',rfl⟩:=hbx3.2.2.2.1.slice
    obtain ⟨a2',cap2',rfl⟩:=hbx3.2.2.2.2.1.slice
    have HBX3:=hidden hbx3
    have HBA3:=hidden hba3
    have HOV3:=hidden (HOV.out.kept hb3)
    clear hbx3 hba3 o3 hb3
    have hg1l:(G1++bdyK fs PT k).length<=50200000:=by rw [List.length_append];omega
    have hg2l:(G2++ftK fs PT k).length<=510000:=by rw [List.length_append];omega
    generalize hM1:G1++bdyK fs PT k=M1 at *
    generalize hM2:G2++ftK fs PT k=M2 at *
    have HM1:=hidden hM1
    have HM2:=hidden hM2
    clear hM1 hM2
    gi_wp2_with (first | (gi_at_builtin;refine wpListIn_append_m rfl _ _ rfl A.heap.size _ _ M1 CM rfl HBX3.out.2.2.2.1 rfl HO3.out.sv hcp ?n3 ?n4 ?_))
    case n3=>omega
    case n4=>exact HBA3.out.size
    intro vb4 R4 o4 g4 e4
    generalize hN1:M1++CM=N1 at *
    have HN1:=hidden hN1
    clear hN1
    obtain ⟨a4,cap4,hv4,_,_⟩:=own_slice o4
    subst hv4
    obtain ⟨⟨y1,y2⟩,hbx4,hbl4⟩:=HBX3.out.app HBA3.out.size o4 g4 e4
    have HPQ4:=hidden (And.intro (HBX3.out.other (v':=.slice a4 N1.length cap4) g4 ((HB3.out.block _ HPQr.out.1.lt).trans HPQr.out.1) (by decide) (by decide)) (HBX3.out.other (v':=.slice a4 N1.length cap4) g4 ((HB3.out.block _ HPQr.out.2.lt).trans HPQr.out.2) (by decide) (by decide)))
    have HKO4:=hidden ((HKOr.out.trans (keeps_below HB3.out)).trans (HBX3.out.keeps (v':=.slice a4 N1.length cap4) g4))
    have HBX4:=hidden hbx4
    have HOV4:=hidden (HBX3.out.keepV (v':=.slice a4 N1.length cap4) g4 HOV3.out (by decide) (by decide))
    have HBA4:=hidden (HBA3.out.trans hbl4)
    clear o4 g4 e4 hbl4 q1 q2 q3 q4
    obtain ⟨⟨q1,q2⟩,⟨q3,q4⟩⟩:=hbx4.cells
    clear hbx4
    gi_wp2
    have HBXV:=HBX4
    have HPQV:=HPQ4
    have HOVV:=HOV4
    have HKOV:=HKO4
    have HBAV:=HBA4
    clear HBX4 HPQ4 HOV4 HKO4 HBA4 y1 y2
    generalize R4.setCell ⟨Bb,0,none⟩ (.slice a4 N1.length cap4)=V4 at *
    gi_cut [] from 72 (fun wx=>∃ v2,Bx2 wx A.heap.size Bb Bf (.slice a4 N1.length cap4) v2 N1 (M2++UV)/\(Boxed wx p 34 (.slice ra rs.length rcap)/\Boxed wx q 3 (.int .i64 (g:Int)))/\OwnV wx R1.heap.size (.slice av CS.length capv) CS/\KeepsOthers W wx/\Below A.heap.size A wx)
    case first =>
     refine wpIn_region_any (by kernel_rfl) ?_
     change wpAnyIn _ _ _ _ _ _ _ _ _ V4.drew
     refine wpAnyIn_ready (rs:=[0,1]) (by kernel_rfl) (by simp) ?_
     refine AllReadyIn.cons rfl (fun K hK=>?_) ?_
     ·have HK:=hidden hK
      clear hK
      go_simp
      refine HK.out _ _ ?_
      clear HK K
      try simp only [Act.put,List.setIfInBounds_toArray,List.set_cons_zero,List.set_cons_succ]
      refine wpAnyIn_ready (rs:=[1]) (by kernel_rfl) (by simp) ?_
      refine AllReadyIn.cons rfl (fun K hK=>?_) ?_
      ·have HK:=hidden hK
       clear hK
       go_simp
       refine HK.out _ _ ?_
       clear HK K
       try simp only [Act.put,List.setIfInBounds_toArray,List.set_cons_zero,List.set_cons_succ]
       refine wpAnyIn_ready (rs:=[2]) (by kernel_rfl) (by simp) ?_
       refine AllReadyIn.cons rfl (fun K hK=>?_) ?_
       ·have HK:=hidden hK
        clear hK
        go_simp
        refine HK.out _ _ ?_
        clear HK K
        try simp only [Act.put,List.setIfInBounds_toArray,List.set_cons_zero,List.set_cons_succ]
        refine wpAnyIn_ready (rs:=[3]) (by kernel_rfl) (by simp) ?_
        refine AllReadyIn.cons rfl (fun K hK=>?_) ?_
        ·have HK:=hidden hK
         clear hK
         go_simp
         refine ⟨trivial,?_⟩
         refine (CallsIn.inRound l (callsIn_wide.2 (HCNT.out V4.drew))).mono ?_
         rintro e w5 ⟨⟨v5,rfl,o5⟩,hb5'⟩
         have hb5:Below V4.heap.size V4 w5:=(below_drewN (Below.refl V4.heap.size V4) 1).trans hb5'
         obtain ⟨⟨q1,q2⟩,⟨q3,q4⟩⟩:=(HBXV.out.kept hb5).cells
         have HO5:=hidden o5
         have HB5:=hidden hb5
         clear o5 hb5 hb5'
         dsimp only
         refine HK.out _ _ ?_
         clear HK K
         try simp only [Act.put,List.setIfInBounds_toArray,List.set_cons_zero,List.set_cons_succ]
         refine wpAnyIn_ready (rs:=[4]) (by kernel_rfl) (by simp) ?_
         refine AllReadyIn.cons rfl (fun K hK=>?_) ?_
         ·have HK:=hidden hK
          clear hK
          rw [if_pos (by rfl)]
          refine opIn_append_m _ _ rfl A.heap.size _ _ M2 UV rfl (HBXV.out.kept HB5.out).2.2.2.2.1 rfl HO5.out.sv hcup (by omega) (Nat.le_trans HBAV.out.size HB5.out.size) ?_
          intro v6 w6 o6 g6 e6
          obtain ⟨a6,cap6,hv6,_,_⟩:=own_slice o6
          rw [List.length_append] at hv6
          subst hv6
          obtain ⟨⟨f1,f2⟩,hbx6,hbl6⟩:=(HBXV.out.kept HB5.out).swap.app (Nat.le_trans HBAV.out.size HB5.out.size) o6 g6 e6
          have HX6:=hidden hbx6.swap
          have HL6:=hidden hbl6
          have HG6:=hidden g6
          clear o6 g6 e6 hbx6 hbl6
          refine HK.out _ _ ?_
          clear HK K
          try simp only [Act.put,List.setIfInBounds_toArray,List.set_cons_zero,List.set_cons_succ]
          refine wpAnyIn_ready (rs:=[5]) (by kernel_rfl) (by simp) ?_
          refine AllReadyIn.cons rfl (fun K hK=>?_) ?_
          ·have HK:=hidden hK
           clear hK
           go_simp
           refine HK.out _ _ ?_
           clear HK K
           try simp only [Act.put,List.setIfInBounds_toArray,List.set_cons_zero,List.set_cons_succ]
           refine wpAnyIn_done (by kernel_rfl) ?_ _
           gi_wp2
           gi_meet
           exact ⟨_,HX6.out,⟨(HBXV.out.kept HB5.out).swap.other HG6.out ((HB5.out.block _ HPQV.out.1.lt).trans HPQV.out.1) (by decide) (by decide),(HBXV.out.kept HB5.out).swap.other HG6.out ((HB5.out.block _ HPQV.out.2.lt).trans HPQV.out.2) (by decide) (by decide)⟩,(HBXV.out.kept HB5.out).swap.keepV HG6.out (OwnV.kept HOVV.out HB5.out) (by decide) (by decide),(HKOV.out.trans (keeps_below HB5.out)).trans ((HBXV.out.kept HB5.out).swap.keeps HG6.out),(HBAV.out.trans (HB5.out.mono HBAV.out.size)).trans HL6.out⟩
          exact AllReadyIn.nil
         exact AllReadyIn.nil
        exact AllReadyIn.nil
       exact AllReadyIn.nil
      exact AllReadyIn.nil
     refine AllReadyIn.cons rfl (fun K hK=>?_) ?_
     ·have HK:=hidden hK
      clear hK
      go_simp
      refine HK.out _ _ ?_
      clear HK K
      try simp only [Act.put,List.setIfInBounds_toArray,List.set_cons_zero,List.set_cons_succ]
      refine wpAnyIn_ready (rs:=[0,2]) (by kernel_rfl) (by simp) ?_
      refine AllReadyIn.cons rfl (fun K hK=>?_) ?_
      ·have HK:=hidden hK
       clear hK
       go_simp
       refine HK.out _ _ ?_
       clear HK K
       try simp only [Act.put,List.setIfInBounds_toArray,List.set_cons_zero,List.set_cons_succ]
       refine wpAnyIn_ready (rs:=[2]) (by kernel_rfl) (by simp) ?_
       refine AllReadyIn.cons rfl (fun K hK=>?_) ?_
       ·have HK:=hidden hK
        clear hK
        go_simp
        refine HK.out _ _ ?_
        clear HK K
        try simp only [Act.put,List.setIfInBounds_toArray,List.set_cons_zero,List.set_cons_succ]
        refine wpAnyIn_ready (rs:=[3]) (by kernel_rfl) (by simp) ?_
        refine AllReadyIn.cons rfl (fun K hK=>?_) ?_
        ·have HK:=hidden hK
         clear hK
         go_simp
         refine ⟨trivial,?_⟩
         refine (CallsIn.inRound l (callsIn_wide.2 (HCNT.out V4.drew))).mono ?_
         rintro e w5 ⟨⟨v5,rfl,o5⟩,hb5'⟩
         have hb5:Below V4.heap.size V4 w5:=(below_drewN (Below.refl V4.heap.size V4) 1).trans hb5'
         obtain ⟨⟨q1,q2⟩,⟨q3,q4⟩⟩:=(HBXV.out.kept hb5).cells
         have HO5:=hidden o5
         have HB5:=hidden hb5
         clear o5 hb5 hb5'
         dsimp only
         refine HK.out _ _ ?_
         clear HK K
         try simp only [Act.put,List.setIfInBounds_toArray,List.set_cons_zero,List.set_cons_succ]
         refine wpAnyIn_ready (rs:=[4]) (by kernel_rfl) (by simp) ?_
         refine AllReadyIn.cons rfl (fun K hK=>?_) ?_
         ·have HK:=hidden hK
          clear hK
          rw [if_pos (by rfl)]
          refine opIn_append_m _ _ rfl A.heap.size _ _ M2 UV rfl (HBXV.out.kept HB5.out).2.2.2.2.1 rfl HO5.out.sv hcup (by omega) (Nat.le_trans HBAV.out.size HB5.out.size) ?_
          intro v6 w6 o6 g6 e6
          obtain ⟨a6,cap6,hv6,_,_⟩:=own_slice o6
          rw [List.length_append] at hv6
          subst hv6
          obtain ⟨⟨f1,f2⟩,hbx6,hbl6⟩:=(HBXV.out.kept HB5.out).swap.app (Nat.le_trans HBAV.out.size HB5.out.size) o6 g6 e6
          have HX6:=hidden hbx6.swap
          have HL6:=hidden hbl6
          have HG6:=hidden g6
          clear o6 g6 e6 hbx6 hbl6
          refine HK.out _ _ ?_
          clear HK K
          try simp only [Act.put,List.setIfInBounds_toArray,List.set_cons_zero,List.set_cons_succ]
          refine wpAnyIn_ready (rs:=[5]) (by kernel_rfl) (by simp) ?_
          refine AllReadyIn.cons rfl (fun K hK=>?_) ?_
          ·have HK:=hidden hK
           clear hK
           go_simp
           refine HK.out _ _ ?_
           clear HK K
           try simp only [Act.put,List.setIfInBounds_toArray,List.set_cons_zero,List.set_cons_succ]
           refine wpAnyIn_done (by kernel_rfl) ?_ _
           gi_wp2
           gi_meet
           exact ⟨_,HX6.out,⟨(HBXV.out.kept HB5.out).swap.other HG6.out ((HB5.out.block _ HPQV.out.1.lt).trans HPQV.out.1) (by decide) (by decide),(HBXV.out.kept HB5.out).swap.other HG6.out ((HB5.out.block _ HPQV.out.2.lt).trans HPQV.out.2) (by decide) (by decide)⟩,(HBXV.out.kept HB5.out).swap.keepV HG6.out (OwnV.kept HOVV.out HB5.out) (by decide) (by decide),(HKOV.out.trans (keeps_below HB5.out)).trans ((HBXV.out.kept HB5.out).swap.keeps HG6.out),(HBAV.out.trans (HB5.out.mono HBAV.out.size)).trans HL6.out⟩
          exact AllReadyIn.nil
         exact AllReadyIn.nil
        exact AllReadyIn.nil
       exact AllReadyIn.nil
      refine AllReadyIn.cons rfl (fun K hK=>?_) ?_
      ·have HK:=hidden hK
       clear hK
       go_simp
       refine HK.out _ _ ?_
       clear HK K
       try simp only [Act.put,List.setIfInBounds_toArray,List.set_cons_zero,List.set_cons_succ]
       refine wpAnyIn_ready (rs:=[0,3]) (by kernel_rfl) (by simp) ?_
       refine AllReadyIn.cons rfl (fun K hK=>?_) ?_
       ·have HK:=hidden hK
        clear hK
        go_simp
        refine HK.out _ _ ?_
        clear HK K
        try simp only [Act.put,List.setIfInBounds_toArray,List.set_cons_zero,List.set_cons_succ]
        refine wpAnyIn_ready (rs:=[3]) (by kernel_rfl) (by simp) ?_
        refine AllReadyIn.cons rfl (fun K hK=>?_) ?_
        ·have HK:=hidden hK
         clear hK
         go_simp
         refine ⟨trivial,?_⟩
         refine (CallsIn.inRound l (callsIn_wide.2 (HCNT.out V4.drew))).mono ?_
         rintro e w5 ⟨⟨v5,rfl,o5⟩,hb5'⟩
         have hb5:Below V4.heap.size V4 w5:=(below_drewN (Below.refl V4.heap.size V4) 1).trans hb5'
         obtain ⟨⟨q1,q2⟩,⟨q3,q4⟩⟩:=(HBXV.out.kept hb5).cells
         have HO5:=hidden o5
         have HB5:=hidden hb5
         clear o5 hb5 hb5'
         dsimp only
         refine HK.out _ _ ?_
         clear HK K
         try simp only [Act.put,List.setIfInBounds_toArray,List.set_cons_zero,List.set_cons_succ]
         refine wpAnyIn_ready (rs:=[4]) (by kernel_rfl) (by simp) ?_
         refine AllReadyIn.cons rfl (fun K hK=>?_) ?_
         ·have HK:=hidden hK
          clear hK
          rw [if_pos (by rfl)]
          refine opIn_append_m _ _ rfl A.heap.size _ _ M2 UV rfl (HBXV.out.kept HB5.out).2.2.2.2.1 rfl HO5.out.sv hcup (by omega) (Nat.le_trans HBAV.out.size HB5.out.size) ?_
          intro v6 w6 o6 g6 e6
          obtain ⟨a6,cap6,hv6,_,_⟩:=own_slice o6
          rw [List.length_append] at hv6
          subst hv6
          obtain ⟨⟨f1,f2⟩,hbx6,hbl6⟩:=(HBXV.out.kept HB5.out).swap.app (Nat.le_trans HBAV.out.size HB5.out.size) o6 g6 e6
          have HX6:=hidden hbx6.swap
          have HL6:=hidden hbl6
          have HG6:=hidden g6
          clear o6 g6 e6 hbx6 hbl6
          refine HK.out _ _ ?_
          clear HK K
          try simp only [Act.put,List.setIfInBounds_toArray,List.set_cons_zero,List.set_cons_succ]
          refine wpAnyIn_ready (rs:=[5]) (by kernel_rfl) (by simp) ?_
          refine AllReadyIn.cons rfl (fun K hK=>?_) ?_
          ·have HK:=hidden hK
           clear hK
           go_simp
           refine HK.out _ _ ?_
           clear HK K
           try simp only [Act.put,List.setIfInBounds_toArray,List.set_cons_zero,List.set_cons_succ]
           refine wpAnyIn_done (by kernel_rfl) ?_ _
           gi_wp2
           gi_meet
           exact ⟨_,HX6.out,⟨(HBXV.out.kept HB5.out).swap.other HG6.out ((HB5.out.block _ HPQV.out.1.lt).trans HPQV.out.1) (by decide) (by decide),(HBXV.out.kept HB5.out).swap.other HG6.out ((HB5.out.block _ HPQV.out.2.lt).trans HPQV.out.2) (by decide) (by decide)⟩,(HBXV.out.kept HB5.out).swap.keepV HG6.out (OwnV.kept HOVV.out HB5.out) (by decide) (by decide),(HKOV.out.trans (keeps_below HB5.out)).trans ((HBXV.out.kept HB5.out).swap.keeps HG6.out),(HBAV.out.trans (HB5.out.mono HBAV.out.size)).trans HL6.out⟩
          exact AllReadyIn.nil
         exact AllReadyIn.nil
        exact AllReadyIn.nil
       refine AllReadyIn.cons rfl (fun K hK=>?_) ?_
       ·have HK:=hidden hK
        clear hK
        go_simp
        refine ⟨trivial,?_⟩
        refine (CallsIn.inRound l (callsIn_wide.2 (HCNT.out V4.drew))).mono ?_
        rintro e w5 ⟨⟨v5,rfl,o5⟩,hb5'⟩
        have hb5:Below V4.heap.size V4 w5:=(below_drewN (Below.refl V4.heap.size V4) 1).trans hb5'
        obtain ⟨⟨q1,q2⟩,⟨q3,q4⟩⟩:=(HBXV.out.kept hb5).cells
        have HO5:=hidden o5
        have HB5:=hidden hb5
        clear o5 hb5 hb5'
        dsimp only
        refine HK.out _ _ ?_
        clear HK K
        try simp only [Act.put,List.setIfInBounds_toArray,List.set_cons_zero,List.set_cons_succ]
        refine wpAnyIn_ready (rs:=[0]) (by kernel_rfl) (by simp) ?_
        refine AllReadyIn.cons rfl (fun K hK=>?_) ?_
        ·have HK:=hidden hK
         clear hK
         go_simp
         refine HK.out _ _ ?_
         clear HK K
         try simp only [Act.put,List.setIfInBounds_toArray,List.set_cons_zero,List.set_cons_succ]
         refine wpAnyIn_ready (rs:=[4]) (by kernel_rfl) (by simp) ?_
         refine AllReadyIn.cons rfl (fun K hK=>?_) ?_
         ·have HK:=hidden hK
          clear hK
          rw [if_pos (by rfl)]
          refine opIn_append_m _ _ rfl A.heap.size _ _ M2 UV rfl (HBXV.out.kept HB5.out).2.2.2.2.1 rfl HO5.out.sv hcup (by omega) (Nat.le_trans HBAV.out.size HB5.out.size) ?_
          intro v6 w6 o6 g6 e6
          obtain ⟨a6,cap6,hv6,_,_⟩:=own_slice o6
          rw [List.length_append] at hv6
          subst hv6
          obtain ⟨⟨f1,f2⟩,hbx6,hbl6⟩:=(HBXV.out.kept HB5.out).swap.app (Nat.le_trans HBAV.out.size HB5.out.size) o6 g6 e6
          have HX6:=hidden hbx6.swap
          have HL6:=hidden hbl6
          have HG6:=hidden g6
          clear o6 g6 e6 hbx6 hbl6
          refine HK.out _ _ ?_
          clear HK K
          try simp only [Act.put,List.setIfInBounds_toArray,List.set_cons_zero,List.set_cons_succ]
          refine wpAnyIn_ready (rs:=[5]) (by kernel_rfl) (by simp) ?_
          refine AllReadyIn.cons rfl (fun K hK=>?_) ?_
          ·have HK:=hidden hK
           clear hK
           go_simp
           refine HK.out _ _ ?_
           clear HK K
           try simp only [Act.put,List.setIfInBounds_toArray,List.set_cons_zero,List.set_cons_succ]
           refine wpAnyIn_done (by kernel_rfl) ?_ _
           gi_wp2
           gi_meet
           exact ⟨_,HX6.out,⟨(HBXV.out.kept HB5.out).swap.other HG6.out ((HB5.out.block _ HPQV.out.1.lt).trans HPQV.out.1) (by decide) (by decide),(HBXV.out.kept HB5.out).swap.other HG6.out ((HB5.out.block _ HPQV.out.2.lt).trans HPQV.out.2) (by decide) (by decide)⟩,(HBXV.out.kept HB5.out).swap.keepV HG6.out (OwnV.kept HOVV.out HB5.out) (by decide) (by decide),(HKOV.out.trans (keeps_below HB5.out)).trans ((HBXV.out.kept HB5.out).swap.keeps HG6.out),(HBAV.out.trans (HB5.out.mono HBAV.out.size)).trans HL6.out⟩
          exact AllReadyIn.nil
         exact AllReadyIn.nil
        exact AllReadyIn.nil
       exact AllReadyIn.nil
      exact AllReadyIn.nil
     exact AllReadyIn.nil
    case rest =>
    obtain ⟨vf,hbx,hpq,hov,hko,hba⟩:=hcut
    have hg3l:(M2++UV).length<=510010:=by rw [List.length_append];omega
    generalize hM3:M2++UV=M3 at *
    have HM3:=hidden hM3
    clear hM3
    obtain ⟨⟨q1,q2⟩,⟨q3,q4⟩⟩:=hbx.cells
    obtain ⟨af,capf,rfl⟩:=hbx.2.2.2.2.1.slice
    have HBXW:=hidden hbx
    have HPQW:=hidden hpq
    have HOVW:=hidden hov
    have HKOW:=hidden hko
    have HBAW:=hidden hba
    clear hbx hpq hov hko hba HBXV HPQV HOVV HKOV HBAV
    gi_wp2
    have HME:Hid (fs.length-(intOf (.int .i64 ((k:Int)+1))).toNat<fs.length-(intOf (.int .i64 (k:Int))).toNat):=hidden (by simp [intOf];omega)
    have HLAST:Hid (∀ (U:World) (x1 x2:Value),Bx2 U A.heap.size Bb Bf x1 x2 N1 (M3++SB)->Bx2 U A.heap.size Bb Bf x1 x2 (G1++bdyK fs PT (k+1)) (G2++ftK fs PT (k+1))):=hidden (fun U x1 x2 h9=>by
     rw [← HN1.out,← HM1.out,← HM3.out,← HM2.out] at h9
     rw [HBSk.out,HFSk.out]
     simpa using h9)
    refine wpIn_region_any (by kernel_rfl) ?_
    change wpAnyIn _ _ _ _ _ _ _ _ _ wc.drew
    refine wpAnyIn_ready (rs:=[0,1]) (by kernel_rfl) (by simp) ?_
    refine AllReadyIn.cons rfl (fun K hK=>?_) ?_
    ·have HK:=hidden hK
     clear hK
     go_simp
     refine HK.out _ _ ?_
     clear HK K
     try simp only [Act.put,List.setIfInBounds_toArray,List.set_cons_zero,List.set_cons_succ]
     refine wpAnyIn_ready (rs:=[1]) (by kernel_rfl) (by simp) ?_
     refine AllReadyIn.cons rfl (fun K hK=>?_) ?_
     ·have HK:=hidden hK
      clear hK
      go_simp
      refine HK.out _ _ ?_
      clear HK K
      try simp only [Act.put,List.setIfInBounds_toArray,List.set_cons_zero,List.set_cons_succ]
      refine wpAnyIn_ready (rs:=[2]) (by kernel_rfl) (by simp) ?_
      refine AllReadyIn.cons rfl (fun K hK=>?_) ?_
      ·have HK:=hidden hK
       clear hK
       go_simp
       refine ⟨trivial,?_⟩
       refine (CallsIn.inRound l (callsIn_wide.2 (HSTA.out wc.drew _ _ (OwnV.kept HOVW.out (below_drewN (Below.refl wc.heap.size wc) 1))))).mono ?_
       rintro e w4 ⟨rfl,hb4'⟩
       have hb4:Below wc.heap.size wc w4:=(below_drewN (Below.refl wc.heap.size wc) 1).trans hb4'
       obtain ⟨⟨q1,q2⟩,⟨q3,q4⟩⟩:=(HBXW.out.kept hb4).cells
       have HB4:=hidden hb4
       clear hb4 hb4'
       dsimp only
       refine HK.out _ _ ?_
       clear HK K
       try simp only [Act.put,List.setIfInBounds_toArray,List.set_cons_zero,List.set_cons_succ]
       refine wpAnyIn_ready (rs:=[3]) (by kernel_rfl) (by simp) ?_
       refine AllReadyIn.cons rfl (fun K hK=>?_) ?_
       ·have HK:=hidden hK
        clear hK
        go_simp
        refine ⟨trivial,?_⟩
        refine (CallsIn.inRound l (callsIn_wide.2 (HSTT.out w4))).mono ?_
        rintro e w5 ⟨⟨v5,rfl,o5⟩,hb5'⟩
        have hb5:Below wc.heap.size wc w5:=below_then HB4.out hb5'
        obtain ⟨⟨q1,q2⟩,⟨q3,q4⟩⟩:=(HBXW.out.kept hb5).cells
        have HO5:=hidden o5
        have HB5:=hidden hb5
        clear o5 hb5 hb5'
        dsimp only
        refine HK.out _ _ ?_
        clear HK K
        try simp only [Act.put,List.setIfInBounds_toArray,List.set_cons_zero,List.set_cons_succ]
        refine wpAnyIn_ready (rs:=[4]) (by kernel_rfl) (by simp) ?_
        refine AllReadyIn.cons rfl (fun K hK=>?_) ?_
        ·have HK:=hidden hK
         clear hK
         rw [if_pos (by rfl)]
         refine opIn_append_m _ _ rfl A.heap.size _ _ M3 SB rfl (HBXW.out.kept HB5.out).2.2.2.2.1 rfl HO5.out.sv t6 (by omega) (Nat.le_trans HBAW.out.size HB5.out.size) ?_
         intro v6 w6 o6 g6 e6
         obtain ⟨a6,cap6,hv6,_,_⟩:=own_slice o6
         rw [List.length_append] at hv6
         subst hv6
         obtain ⟨⟨f1,f2⟩,hbx6,hbl6⟩:=(HBXW.out.kept HB5.out).swap.app (Nat.le_trans HBAW.out.size HB5.out.size) o6 g6 e6
         have HX6:=hidden hbx6.swap
         have HL6:=hidden hbl6
         have HG6:=hidden g6
         clear o6 g6 e6 hbx6 hbl6
         refine HK.out _ _ ?_
         clear HK K
         try simp only [Act.put,List.setIfInBounds_toArray,List.set_cons_zero,List.set_cons_succ]
         refine wpAnyIn_ready (rs:=[5]) (by kernel_rfl) (by simp) ?_
         refine AllReadyIn.cons rfl (fun K hK=>?_) ?_
         ·have HK:=hidden hK
          clear hK
          go_simp
          refine HK.out _ _ ?_
          clear HK K
          try simp only [Act.put,List.setIfInBounds_toArray,List.set_cons_zero,List.set_cons_succ]
          refine wpAnyIn_done (by kernel_rfl) ?_ _
          gi_wp2
          go_roundw
          case rel =>
           have hk1:k+1<=fs.length:=hlt
           have hk2:Value.int .i64 ((k:Int)+1)=Value.int .i64 ((k+1:Nat):Int):=by simp
           exact ⟨k+1,_,_,hk1,hk2,HLAST.out _ _ _ HX6.out,⟨(HBXW.out.kept HB5.out).swap.other HG6.out ((HB5.out.block _ HPQW.out.1.lt).trans HPQW.out.1) (by decide) (by decide),(HBXW.out.kept HB5.out).swap.other HG6.out ((HB5.out.block _ HPQW.out.2.lt).trans HPQW.out.2) (by decide) (by decide)⟩,(HKOW.out.trans (keeps_below HB5.out)).trans ((HBXW.out.kept HB5.out).swap.keeps HG6.out),(HBAW.out.trans (HB5.out.mono HBAW.out.size)).trans HL6.out⟩
          case measure=>exact HME.out
         exact AllReadyIn.nil
        exact AllReadyIn.nil
       exact AllReadyIn.nil
      exact AllReadyIn.nil
     exact AllReadyIn.nil
    refine AllReadyIn.cons rfl (fun K hK=>?_) ?_
    ·have HK:=hidden hK
     clear hK
     go_simp
     refine HK.out _ _ ?_
     clear HK K
     try simp only [Act.put,List.setIfInBounds_toArray,List.set_cons_zero,List.set_cons_succ]
     refine wpAnyIn_ready (rs:=[0,2]) (by kernel_rfl) (by simp) ?_
     refine AllReadyIn.cons rfl (fun K hK=>?_) ?_
     ·have HK:=hidden hK
      clear hK
      go_simp
      refine HK.out _ _ ?_
      clear HK K
      try simp only [Act.put,List.setIfInBounds_toArray,List.set_cons_zero,List.set_cons_succ]
      refine wpAnyIn_ready (rs:=[2]) (by kernel_rfl) (by simp) ?_
      refine AllReadyIn.cons rfl (fun K hK=>?_) ?_
      ·have HK:=hidden hK
       clear hK
       go_simp
       refine ⟨trivial,?_⟩
       refine (CallsIn.inRound l (callsIn_wide.2 (HSTA.out wc.drew _ _ (OwnV.kept HOVW.out (below_drewN (Below.refl wc.heap.size wc) 1))))).mono ?_
       rintro e w4 ⟨rfl,hb4'⟩
       have hb4:Below wc.heap.size wc w4:=(below_drewN (Below.refl wc.heap.size wc) 1).trans hb4'
       obtain ⟨⟨q1,q2⟩,⟨q3,q4⟩⟩:=(HBXW.out.kept hb4).cells
       have HB4:=hidden hb4
       clear hb4 hb4'
       dsimp only
       refine HK.out _ _ ?_
       clear HK K
       try simp only [Act.put,List.setIfInBounds_toArray,List.set_cons_zero,List.set_cons_succ]
       refine wpAnyIn_ready (rs:=[3]) (by kernel_rfl) (by simp) ?_
       refine AllReadyIn.cons rfl (fun K hK=>?_) ?_
       ·have HK:=hidden hK
        clear hK
        go_simp
        refine ⟨trivial,?_⟩
        refine (CallsIn.inRound l (callsIn_wide.2 (HSTT.out w4))).mono ?_
        rintro e w5 ⟨⟨v5,rfl,o5⟩,hb5'⟩
        have hb5:Below wc.heap.size wc w5:=below_then HB4.out hb5'
        obtain ⟨⟨q1,q2⟩,⟨q3,q4⟩⟩:=(HBXW.out.kept hb5).cells
        have HO5:=hidden o5
        have HB5:=hidden hb5
        clear o5 hb5 hb5'
        dsimp only
        refine HK.out _ _ ?_
        clear HK K
        try simp only [Act.put,List.setIfInBounds_toArray,List.set_cons_zero,List.set_cons_succ]
        refine wpAnyIn_ready (rs:=[4]) (by kernel_rfl) (by simp) ?_
        refine AllReadyIn.cons rfl (fun K hK=>?_) ?_
        ·have HK:=hidden hK
         clear hK
         rw [if_pos (by rfl)]
         refine opIn_append_m _ _ rfl A.heap.size _ _ M3 SB rfl (HBXW.out.kept HB5.out).2.2.2.2.1 rfl HO5.out.sv t6 (by omega) (Nat.le_trans HBAW.out.size HB5.out.size) ?_
         intro v6 w6 o6 g6 e6
         obtain ⟨a6,cap6,hv6,_,_⟩:=own_slice o6
         rw [List.length_append] at hv6
         subst hv6
         obtain ⟨⟨f1,f2⟩,hbx6,hbl6⟩:=(HBXW.out.kept HB5.out).swap.app (Nat.le_trans HBAW.out.size HB5.out.size) o6 g6 e6
         have HX6:=hidden hbx6.swap
         have HL6:=hidden hbl6
         have HG6:=hidden g6
         clear o6 g6 e6 hbx6 hbl6
         refine HK.out _ _ ?_
         clear HK K
         try simp only [Act.put,List.setIfInBounds_toArray,List.set_cons_zero,List.set_cons_succ]
         refine wpAnyIn_ready (rs:=[5]) (by kernel_rfl) (by simp) ?_
         refine AllReadyIn.cons rfl (fun K hK=>?_) ?_
         ·have HK:=hidden hK
          clear hK
          go_simp
          refine HK.out _ _ ?_
          clear HK K
          try simp only [Act.put,List.setIfInBounds_toArray,List.set_cons_zero,List.set_cons_succ]
          refine wpAnyIn_done (by kernel_rfl) ?_ _
          gi_wp2
          go_roundw
          case rel =>
           have hk1:k+1<=fs.length:=hlt
           have hk2:Value.int .i64 ((k:Int)+1)=Value.int .i64 ((k+1:Nat):Int):=by simp
           exact ⟨k+1,_,_,hk1,hk2,HLAST.out _ _ _ HX6.out,⟨(HBXW.out.kept HB5.out).swap.other HG6.out ((HB5.out.block _ HPQW.out.1.lt).trans HPQW.out.1) (by decide) (by decide),(HBXW.out.kept HB5.out).swap.other HG6.out ((HB5.out.block _ HPQW.out.2.lt).trans HPQW.out.2) (by decide) (by decide)⟩,(HKOW.out.trans (keeps_below HB5.out)).trans ((HBXW.out.kept HB5.out).swap.keeps HG6.out),(HBAW.out.trans (HB5.out.mono HBAW.out.size)).trans HL6.out⟩
          case measure=>exact HME.out
         exact AllReadyIn.nil
        exact AllReadyIn.nil
       exact AllReadyIn.nil
      exact AllReadyIn.nil
     refine AllReadyIn.cons rfl (fun K hK=>?_) ?_
     ·have HK:=hidden hK
      clear hK
      go_simp
      refine ⟨trivial,?_⟩
      refine (CallsIn.inRound l (callsIn_wide.2 (HSTA.out wc.drew _ _ (OwnV.kept HOVW.out (below_drewN (Below.refl wc.heap.size wc) 1))))).mono ?_
      rintro e w4 ⟨rfl,hb4'⟩
      have hb4:Below wc.heap.size wc w4:=(below_drewN (Below.refl wc.heap.size wc) 1).trans hb4'
      obtain ⟨⟨q1,q2⟩,⟨q3,q4⟩⟩:=(HBXW.out.kept hb4).cells
      have HB4:=hidden hb4
      clear hb4 hb4'
      dsimp only
      refine HK.out _ _ ?_
      clear HK K
      try simp only [Act.put,List.setIfInBounds_toArray,List.set_cons_zero,List.set_cons_succ]
      refine wpAnyIn_ready (rs:=[0,3]) (by kernel_rfl) (by simp) ?_
      refine AllReadyIn.cons rfl (fun K hK=>?_) ?_
      ·have HK:=hidden hK
       clear hK
       go_simp
       refine HK.out _ _ ?_
       clear HK K
       try simp only [Act.put,List.setIfInBounds_toArray,List.set_cons_zero,List.set_cons_succ]
       refine wpAnyIn_ready (rs:=[3]) (by kernel_rfl) (by simp) ?_
       refine AllReadyIn.cons rfl (fun K hK=>?_) ?_
       ·have HK:=hidden hK
        clear hK
        go_simp
        refine ⟨trivial,?_⟩
        refine (CallsIn.inRound l (callsIn_wide.2 (HSTT.out w4))).mono ?_
        rintro e w5 ⟨⟨v5,rfl,o5⟩,hb5'⟩
        have hb5:Below wc.heap.size wc w5:=below_then HB4.out hb5'
        obtain ⟨⟨q1,q2⟩,⟨q3,q4⟩⟩:=(HBXW.out.kept hb5).cells
        have HO5:=hidden o5
        have HB5:=hidden hb5
        clear o5 hb5 hb5'
        dsimp only
        refine HK.out _ _ ?_
        clear HK K
        try simp only [Act.put,List.setIfInBounds_toArray,List.set_cons_zero,List.set_cons_succ]
        refine wpAnyIn_ready (rs:=[4]) (by kernel_rfl) (by simp) ?_
        refine AllReadyIn.cons rfl (fun K hK=>?_) ?_
        ·have HK:=hidden hK
         clear hK
         rw [if_pos (by rfl)]
         refine opIn_append_m _ _ rfl A.heap.size _ _ M3 SB rfl (HBXW.out.kept HB5.out).2.2.2.2.1 rfl HO5.out.sv t6 (by omega) (Nat.le_trans HBAW.out.size HB5.out.size) ?_
         intro v6 w6 o6 g6 e6
         obtain ⟨a6,cap6,hv6,_,_⟩:=own_slice o6
         rw [List.length_append] at hv6
         subst hv6
         obtain ⟨⟨f1,f2⟩,hbx6,hbl6⟩:=(HBXW.out.kept HB5.out).swap.app (Nat.le_trans HBAW.out.size HB5.out.size) o6 g6 e6
         have HX6:=hidden hbx6.swap
         have HL6:=hidden hbl6
         have HG6:=hidden g6
         clear o6 g6 e6 hbx6 hbl6
         refine HK.out _ _ ?_
         clear HK K
         try simp only [Act.put,List.setIfInBounds_toArray,List.set_cons_zero,List.set_cons_succ]
         refine wpAnyIn_ready (rs:=[5]) (by kernel_rfl) (by simp) ?_
         refine AllReadyIn.cons rfl (fun K hK=>?_) ?_
         ·have HK:=hidden hK
          clear hK
          go_simp
          refine HK.out _ _ ?_
          clear HK K
          try simp only [Act.put,List.setIfInBounds_toArray,List.set_cons_zero,List.set_cons_succ]
          refine wpAnyIn_done (by kernel_rfl) ?_ _
          gi_wp2
          go_roundw
          case rel =>
           have hk1:k+1<=fs.length:=hlt
           have hk2:Value.int .i64 ((k:Int)+1)=Value.int .i64 ((k+1:Nat):Int):=by simp
           exact ⟨k+1,_,_,hk1,hk2,HLAST.out _ _ _ HX6.out,⟨(HBXW.out.kept HB5.out).swap.other HG6.out ((HB5.out.block _ HPQW.out.1.lt).trans HPQW.out.1) (by decide) (by decide),(HBXW.out.kept HB5.out).swap.other HG6.out ((HB5.out.block _ HPQW.out.2.lt).trans HPQW.out.2) (by decide) (by decide)⟩,(HKOW.out.trans (keeps_below HB5.out)).trans ((HBXW.out.kept HB5.out).swap.keeps HG6.out),(HBAW.out.trans (HB5.out.mono HBAW.out.size)).trans HL6.out⟩
          case measure=>exact HME.out
         exact AllReadyIn.nil
        exact AllReadyIn.nil
       exact AllReadyIn.nil
      refine AllReadyIn.cons rfl (fun K hK=>?_) ?_
      ·have HK:=hidden hK
       clear hK
       go_simp
       refine ⟨trivial,?_⟩
       refine (CallsIn.inRound l (callsIn_wide.2 (HSTT.out w4))).mono ?_
       rintro e w5 ⟨⟨v5,rfl,o5⟩,hb5'⟩
       have hb5:Below wc.heap.size wc w5:=below_then HB4.out hb5'
       obtain ⟨⟨q1,q2⟩,⟨q3,q4⟩⟩:=(HBXW.out.kept hb5).cells
       have HO5:=hidden o5
       have HB5:=hidden hb5
       clear o5 hb5 hb5'
       dsimp only
       refine HK.out _ _ ?_
       clear HK K
       try simp only [Act.put,List.setIfInBounds_toArray,List.set_cons_zero,List.set_cons_succ]
       refine wpAnyIn_ready (rs:=[0]) (by kernel_rfl) (by simp) ?_
       refine AllReadyIn.cons rfl (fun K hK=>?_) ?_
       ·have HK:=hidden hK
        clear hK
        go_simp
        refine HK.out _ _ ?_
        clear HK K
        try simp only [Act.put,List.setIfInBounds_toArray,List.set_cons_zero,List.set_cons_succ]
        refine wpAnyIn_ready (rs:=[4]) (by kernel_rfl) (by simp) ?_
        refine AllReadyIn.cons rfl (fun K hK=>?_) ?_
        ·have HK:=hidden hK
         clear hK
         rw [if_pos (by rfl)]
         refine opIn_append_m _ _ rfl A.heap.size _ _ M3 SB rfl (HBXW.out.kept HB5.out).2.2.2.2.1 rfl HO5.out.sv t6 (by omega) (Nat.le_trans HBAW.out.size HB5.out.size) ?_
         intro v6 w6 o6 g6 e6
         obtain ⟨a6,cap6,hv6,_,_⟩:=own_slice o6
         rw [List.length_append] at hv6
         subst hv6
         obtain ⟨⟨f1,f2⟩,hbx6,hbl6⟩:=(HBXW.out.kept HB5.out).swap.app (Nat.le_trans HBAW.out.size HB5.out.size) o6 g6 e6
         have HX6:=hidden hbx6.swap
         have HL6:=hidden hbl6
         have HG6:=hidden g6
         clear o6 g6 e6 hbx6 hbl6
         refine HK.out _ _ ?_
         clear HK K
         try simp only [Act.put,List.setIfInBounds_toArray,List.set_cons_zero,List.set_cons_succ]
         refine wpAnyIn_ready (rs:=[5]) (by kernel_rfl) (by simp) ?_
         refine AllReadyIn.cons rfl (fun K hK=>?_) ?_
         ·have HK:=hidden hK
          clear hK
          go_simp
          refine HK.out _ _ ?_
          clear HK K
          try simp only [Act.put,List.setIfInBounds_toArray,List.set_cons_zero,List.set_cons_succ]
          refine wpAnyIn_done (by kernel_rfl) ?_ _
          gi_wp2
          go_roundw
          case rel =>
           have hk1:k+1<=fs.length:=hlt
           have hk2:Value.int .i64 ((k:Int)+1)=Value.int .i64 ((k+1:Nat):Int):=by simp
           exact ⟨k+1,_,_,hk1,hk2,HLAST.out _ _ _ HX6.out,⟨(HBXW.out.kept HB5.out).swap.other HG6.out ((HB5.out.block _ HPQW.out.1.lt).trans HPQW.out.1) (by decide) (by decide),(HBXW.out.kept HB5.out).swap.other HG6.out ((HB5.out.block _ HPQW.out.2.lt).trans HPQW.out.2) (by decide) (by decide)⟩,(HKOW.out.trans (keeps_below HB5.out)).trans ((HBXW.out.kept HB5.out).swap.keeps HG6.out),(HBAW.out.trans (HB5.out.mono HBAW.out.size)).trans HL6.out⟩
          case measure=>exact HME.out
         exact AllReadyIn.nil
        exact AllReadyIn.nil
       exact AllReadyIn.nil
      exact AllReadyIn.nil
     exact AllReadyIn.nil
    exact AllReadyIn.nil
   ·obtain rfl:k=fs.length:=by omega
    have hge:¬ ((fs.length:Nat):Int)<(fs.length:Int):=by omega
    gi_wp2
    refine ⟨HKOr.out,⟨(show _=_ from HPQr.out.1).trans (show _=_ from HPQ.out.1).symm,(show _=_ from HPQr.out.2).trans (show _=_ from HPQ.out.2).symm⟩,⟨⟨u1,u2,?_⟩,HPQr.out.1,HPQr.out.2⟩,HBAr.out⟩
    have h9:=HBXr.out
    rw [← HZ1.out,← HZ2.out] at h9
    exact h9
 case done =>
  rintro D ys W hD rfl ⟨⟨⟨v1,v2,hbx⟩,hbp,hbq⟩,hba⟩ hK
  have hG1:([67,70,49]++(List.range (nps g rs.length)).flatMap fun j=>bdyK fs (prt g rs j) fs.length).length<=50000000:=by
   have h1:=flat_len (m:=172800) (fun j=>Nat.le_trans (bdyK_len (fun k hk2=>fits_col (hfit.part g j) hk (by rw [prt_length];omega) hk2) (Nat.le_refl _)).1 (by omega)) (List.range (nps g rs.length))
   have h2:=nps_small (n:=rs.length) hg1 hrl
   rw [List.length_range] at h1
   rw [List.length_append]
   simp only [List.length_cons,List.length_nil]
   have:172800*nps g rs.length<=172800*256:=Nat.mul_le_mul_left _ h2
   omega
  have hG2:(F2++(List.range (nps g rs.length)).flatMap fun j=>ftK fs (prt g rs j) fs.length).length<=500000:=by
   have h1:=flat_len (m:=1360) (fun j=>Nat.le_trans (ftK_len (hfit.part g j) (by rw [prt_length];omega) (fun k hk2=>fits_col (hfit.part g j) hk (by rw [prt_length];omega) hk2) (Nat.le_refl _)).1 (by omega)) (List.range (nps g rs.length))
   have h2:=nps_small (n:=rs.length) hg1 hrl
   rw [List.length_range] at h1
   rw [List.length_append]
   have:1360*nps g rs.length<=1360*256:=Nat.mul_le_mul_left _ h2
   omega
  have hG3:0<(F2++(List.range (nps g rs.length)).flatMap fun j=>ftK fs (prt g rs j) fs.length).length:=by
   rw [← hF2,← hF1]
   simp only [List.length_append]
   omega
  have HEND:Hid (textM id fs rs g=([67,70,49]++(List.range (nps g rs.length)).flatMap fun j=>bdyK fs (prt g rs j) fs.length)++(F2++(List.range (nps g rs.length)).flatMap fun j=>ftK fs (prt g rs j) fs.length)++le4 (F2++(List.range (nps g rs.length)).flatMap fun j=>ftK fs (prt g rs j) fs.length).length):=hidden (by
   unfold textM innM footM
   rw [← hF2,← hF1,HE0.out,HE1.out,HE2.out]
   simp only [List.append_assoc]
   rfl)
  generalize ([67,70,49]++(List.range (nps g rs.length)).flatMap fun j=>bdyK fs (prt g rs j) fs.length)=G1 at *
  generalize (F2++(List.range (nps g rs.length)).flatMap fun j=>ftK fs (prt g rs j) fs.length)=G2 at *
  obtain ⟨⟨q1,q2⟩,⟨q3,q4⟩⟩:=hbx.cells
  obtain ⟨a8,cap8,rfl⟩:=hbx.2.2.2.1.slice
  obtain ⟨a9,cap9,rfl⟩:=hbx.2.2.2.2.1.slice
  have HBX:=hidden hbx
  have HBA:=hidden hba
  have HK:=hidden hK
  have HL4:=hidden (low4_told G2.length (by omega))
  clear hbx hba hK hbp hbq
  go_wp2_with (first | (at_builtin;refine wpList_append_m rfl _ _ rfl A.heap.size _ _ G1 G2 rfl HBX.out.2.2.2.1 rfl HBX.out.2.2.2.2.1.sv hG3 ?n1 ?n2 ?_))
  case n1=>omega
  case n2=>exact HBA.out.size
  intro v10 w10 o10 g10 e10
  obtain ⟨a10,cap10,hv10,_,_⟩:=own_slice o10
  subst hv10
  obtain ⟨⟨f1,f2⟩,hbx10,hbl10⟩:=HBX.out.app HBA.out.size o10 g10 e10
  have hk10:=HBX.out.keeps (v':=.slice a10 (G1++G2).length cap10) g10
  have HO10:=hidden hbx10
  have HB10:=hidden (HBA.out.trans hbl10)
  have HK10:=hidden (hk10.same D _ HK.out rfl)
  have hG12:(G1++G2).length<=50500000:=by rw [List.length_append];omega
  generalize hGG:G1++G2=GG at *
  clear o10 g10 e10 hbl10 hk10 HBX HBA HK q1 q2 q3 q4
  obtain ⟨⟨q1,q2⟩,⟨q3,q4⟩⟩:=hbx10.cells
  clear hbx10
  go_wp2_with fail
  generalize hV:w10.setCell ⟨Bb,0,none⟩ (.slice a10 GG.length cap10)=V at *
  clear hV f1 f2
  have HC9:Hid (∀ U,Below V.heap.size V U->Calls Tryz.prog 85 #[.int .i64 (G2.length:Int)] U fun e w'=>∃ v,e=.returned v/\Sv w' v (vals .u8 (le4 G2.length))/\Below V.heap.size V w'/\w'.cell? ⟨Bb,0,none⟩=some (.slice a10 GG.length cap10)/\w'.cell? ⟨Bf,0,none⟩=some (.slice a9 G2.length cap9)):=hidden (fun U hU=>by
   refine (HL4.out U).mono ?_
   rintro e w' ⟨⟨v,rfl,ho⟩,hb⟩
   have h9:=(HO10.out.kept (below_then hU hb)).cells
   exact ⟨v,rfl,ho.sv,below_then hU hb,h9.1.1,h9.2.1⟩)
  have hL4:0<(le4 G2.length).length:=by simp [le4]
  have hL4':(le4 G2.length).length=4:=by simp [le4]
  generalize le4 G2.length=LL at *
  refine wp_region_noPanic ?_
  go_region_law (first
   | (refine step_append_m (by rfl) _ _ (by rfl) A.heap.size _ _ GG LL (by rfl) ?_ (by rfl) HO5.out hL4 ?_ ?_ ?_;exact (HO10.out.kept HB5.out).2.2.2.1;omega;exact Nat.le_trans HB10.out.size HB5.out.size;intro v6 w6 o6 g6 e6;have HO6:=hidden o6;have HK6:=hidden ((HO10.out.kept HB5.out).2.2.2.1.deferred g6 (below_obj HB5.out HK10.out) rfl);have HB6:=hidden ((HB10.out.trans (HB5.out.mono HB10.out.size)).trans ((HO10.out.kept HB5.out).2.2.2.1.below g6 (Nat.le_trans HB10.out.size HB5.out.size)));clear o6 g6 e6)
   | (go_simp;go_at_call 85;refine (HC9.out _ ?_).mono ?_;exact below_drewN (Below.refl V.heap.size V) 1;rintro e w5 ⟨v5,rfl,ho5,hb5,hc5,hc6⟩;have HO5:=hidden ho5;have HB5:=hidden hb5;clear ho5 hb5;dsimp only)
   | fail)
  all_goals refine NoPanic.normal ?_
  all_goals go_wp2_with fail
  all_goals refine ⟨by simp,.inl ⟨_,_,rfl,run_takeDeferred HK6.out,?_⟩⟩
  all_goals refine ⟨_,results_tmp rfl _ _ _,⟨_,rfl,?_⟩,?_⟩
  all_goals first
   | exact below_then HB0.out (HB6.out.trans (belowK_b (w:=Z) hAZs _ D _ _ hD HK6.out rfl rfl))
   | (rw [HEND.out];exact own_low (ownsRow_putObj HO6.out _ HK6.out rfl) HB0.out.size)
 case stop =>
  rintro D c pre W _ _ h _
  exact h.elim
