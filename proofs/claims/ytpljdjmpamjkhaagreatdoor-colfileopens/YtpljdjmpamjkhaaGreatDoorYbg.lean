import Derived.Test.YtpljdjmpamjkhaaGreatDoorYax
import Derived.Test.YtpljdjmpamjkhaaGreatDoorYbe
import Derived.Test.YtpljdjmpamjkhaaGreatDoorYbf
import Derived.Test.YtpljdjmpamjkhaaGreatDoorYbb
import Derived.Test.YtpljdjmpamjkhaaGreatDoorYau
import Derived.Deep.CutRange
import Derived.Deep.RegionLaw
import Derived.Sort.CutIn
set_option linter.unusedVariables false
set_option linter.unusedSimpArgs false
set_option maxRecDepth 100000
set_option maxHeartbeats 8000000
namespace Go.Proofs.YtpljdjmpamjkhaaGreatDoor
open Go.RowKit Go.Lib Go.Shelf
attribute [local go_sem] Oper.semAt_some
theorem QD{w:World}{fv rv:Value}{fs:List Fd}{rs:List Row}{id g:Nat}(hs:Sf w fv fs)(hr:Rv w rv rs)(ho:∀ f∈fs,Okf f)(mR:id<4294967296)(hl:fs.length<=8)(hz:szs fs<5000)(ph:rs.length<=256)(eQ:1<=g)(gK:g<=64)
  (dy:jJ fs rs) (hk:∀ f∈fs,1<=f.2.2.1/\f.2.2.1<=3) :
  Calls Tryz.prog 41 #[.agg #[.int .u32 (id:Int),fv],rv,.int .i64 (g:Int)] w (du w (et id fs rs g)):=by
 obtain⟨fa,fcap,rfl,Ym,Yn⟩:=hs.form;obtain⟨ra,rcap,rfl,US,MG,Zn⟩:=hr.form;have Ml:Hid (∀ U:World,Sf U (.slice fa fs.length fcap) fs->Calls Tryz.prog 80 #[.agg #[.int .u32 (id:Int),.slice fa fs.length fcap]] U (du U (dz id fs))):=ae (fun U h=>PE h ho (by omega) hz id mR);have mP:=ae (fun n (hn:n<9223372036854775808)=>pO n hn);have dW:=ak w (.cells #[.int .u32 (id:Int),.slice fa fs.length fcap] 25);have jN:=heap_alloc_new w (.cells #[.int .u32 (id:Int),.slice fa fs.length fcap] 25);have jq:(w.alloc (.cells #[.int .u32 (id:Int),.slice fa fs.length fcap] 25)).heap.size=w.heap.size+1:=ZS _ _;have HS:=ae (hs.kept dW);have HR:=ae (hr.kept dW);have UT:=ae hr;have cC:=ae dW
 have HT:Hid (∀ U,Below (w.alloc (.cells #[.int .u32 (id:Int),.slice fa fs.length fcap] 25)).heap.size (w.alloc (.cells #[.int .u32 (id:Int),.slice fa fs.length fcap] 25)) U->U.cell? ⟨w.heap.size,0,none⟩=some (.int .u32 (id:Int))/\U.cell? ⟨w.heap.size,1,none⟩=some (.slice fa fs.length fcap)):=ae (fun U hb=>by
  have hU:=(hb.block w.heap.size (by omega)).trans jN;constructor<;>(rw[ax hU];rfl))
 generalize hA:w.alloc (.cells #[.int .u32 (id:Int),.slice fa fs.length fcap] 25)=A at *;have rz:=ae jq
 have uk:(convert 30 30 (.slice (some ⟨A.heap.size,0,none⟩) 3 3)).run Tryz.prog (A.alloc (.cells #[.int .u8 67,.int .u8 70,.int .u8 49] 5))=.ok (.slice (some ⟨A.heap.size,0,none⟩) 3 3) (A.alloc (.cells #[.int .u8 67,.int .u8 70,.int .u8 49] 5 (3,4))) :=
  run_convert_bytes_const A 30 5 #[.int .u8 67,.int .u8 70,.int .u8 49] 3 3 Tryz.underlying30 Tryz.underlying5
 obtain⟨c0,c1⟩:=HT.out A (ZQ _ _);clear hs hr dW jN jq;refine(callsIn_wide (n:=3)).1 ?_;refine callsIn_of_wp_marks Tryz.func41 rfl trivial ?_ rfl;refine wpIn_wide.2 ?_;simp only[Tryz.ntmps41,List.size_toArray,ZW,jad,Nat.reduceAdd,Nat.reduceSub,Array.replicate_succ,Array.replicate_zero,List.push_toArray,List.append_toArray,jaH,jaz];have hbX:Below A.heap.size A ((A.alloc (.cells #[.int .u8 67,.int .u8 70,.int .u8 49] 5 (3,4))).alloc (.cells #[.slice (some ⟨A.heap.size,0,none⟩) 3 3] 30)):=((ZQ A.heap.size A).alloc (ZR _) _).alloc (by rw[ZS];omega) _;obtain⟨d0,d1⟩:=HT.out _ hbX
 have hLit:LitM ((A.alloc (.cells #[.int .u8 67,.int .u8 70,.int .u8 49] 5 (3,4))).alloc (.cells #[.slice (some ⟨A.heap.size,0,none⟩) 3 3] 30)) A.heap.size (.slice (some ⟨A.heap.size,0,none⟩) 3 3) [67,70,49]:=by
  refine⟨rfl,_,rfl,ZR _,?_⟩;exact(Below.heap_alloc (A.alloc (.cells #[.int .u8 67,.int .u8 70,.int .u8 49] 5 (3,4))) _ A.heap.size (by rw[ZS];omega)).trans (heap_alloc_new A _)
 have hBox:Boxed ((A.alloc (.cells #[.int .u8 67,.int .u8 70,.int .u8 49] 5 (3,4))).alloc (.cells #[.slice (some ⟨A.heap.size,0,none⟩) 3 3] 30)) (A.heap.size+1) 30 (.slice (some ⟨A.heap.size,0,none⟩) 3 3):=by
  have:=Boxed.new (A.alloc (.cells #[.int .u8 67,.int .u8 70,.int .u8 49] 5 (3,4))) 30 (.slice (some ⟨A.heap.size,0,none⟩) 3 3);rwa[ZS]at this
 go_wp2_with fail;generalize hX:((A.alloc (.cells #[.int .u8 67,.int .u8 70,.int .u8 49] 5 (3,4))).alloc (.cells #[.slice (some ⟨A.heap.size,0,none⟩) 3 3] 30))=X at *;clear hX uk;refine(Ml.out _ (HS.out.kept hbX)).mono ?_;rintro e w1 ⟨⟨v1,rfl,o1⟩,aG⟩;obtain⟨a1,cap1,rfl,_,_⟩:=aM o1;have hbY:=ai aG (ak w1 (.cells #[.slice a1 (dz id fs).length cap1] 30));have hboxY:=Boxed.new w1 30 (.slice a1 (dz id fs).length cap1);have hltX:A.heap.size+1<X.heap.size:=hBox.lt;have hX1:=aG.size
 have hBX:Bx2 (w1.alloc (.cells #[.slice a1 (dz id fs).length cap1] 30)) A.heap.size (A.heap.size+1) w1.heap.size (.slice (some ⟨A.heap.size,0,none⟩) 3 3) (.slice a1 (dz id fs).length cap1) [67,70,49] (dz id fs):=by
  refine⟨(hbY.block (A.heap.size+1) hltX).trans hBox,hboxY,by omega,(fJ.kept (Or.inr hLit) hbY),Or.inl (aC.kept (aZ o1 hbX.size) (ak w1 (.cells #[.slice a1 (dz id fs).length cap1] 30))),fun g hg h2=>?_,by omega,by omega⟩;have:=(World.ownsRow.lt o1 g h2).1;simp[Value.ownBlock]at hg
  omega
 have hbAY:Below A.heap.size A (w1.alloc (.cells #[.slice a1 (dz id fs).length cap1] 30)):=ai hbX hbY
 have rH:Hid ((dz id fs).length<=10100):=ae (by
  have h1:=fG ho (by omega) hz fs.length;rw[ZY]at h1;have h2:=gm id (by omega);have h3:=gm fs.length (by omega);unfold dz;simp only[ZT];omega)
 generalize hP0:dz id fs=P0 at *;have HE0:=ae hP0;clear hP0;go_upto_region 3 with fail
 clear aG o1 hbY hboxY hLit hBox hbX d0 d1 c0 c1 hX1;generalize hY:w1.alloc (.cells #[.slice a1 P0.length cap1] 30)=Y at *;generalize w1.heap.size=Bf at *;have fO:A.heap.size+1≠Bf:=hBX.2.2.1;generalize A.heap.size+1=Bb at *;clear hY hltX;have l8:=ae hBX;have eW:=ae hbAY;obtain⟨⟨q1,q2⟩,⟨q3,q4⟩⟩:=hBX.cells;clear hBX hbAY;have hup1:=mg rs.length;have hul1:=bI (n:=rs.length) (by omega);have hup2:=mg g;have hul2:=bI (n:=g) (by omega);have UM:rs.length<9223372036854775808:=by omega
 have VU:g<9223372036854775808:=by omega
 have HCN0:=ae mP.out;have HCN1:=ae (mP.out rs.length UM);have HCN2:=ae (mP.out g VU);generalize hP1:uv rs.length=P1 at *;generalize hP2:uv g=P2 at *;have VW:=ae hP1;have HE2:=ae hP2;clear hP1 hP2
 have SI:Hid (∀ U,Below Y.heap.size Y U->Calls Tryz.prog 81 #[.int .i64 (rs.length:Int)] U fun e w'=>∃ v,e=.returned v/\Sv w' v (aE .u8 (P1))/\Below Y.heap.size Y w'/\w'.cell? ⟨Bf,0,none⟩=some (.slice a1 P0.length cap1)):=ae (fun U hU=>by
  refine(HCN1.out U).mono ?_;rintro e w' ⟨⟨v,rfl,ho⟩,hb⟩;exact⟨v,rfl,ho.sv,ai hU hb,((l8.out.kept (ai hU hb)).cells.2).1⟩)
 go_cut [] from 15 (fun wx=>∃ v2,Bx2 wx A.heap.size Bb Bf (.slice (some ⟨A.heap.size,0,none⟩) 3 3) v2 [67,70,49] (P0++P1)/\Below A.heap.size A wx)
 case first =>
  refine wp_region_noPanic ?_
  go_region_law (first
   | (refine lm (by rfl) _ _ (by rfl) A.heap.size _ _ (P0) (P1) (by rfl) ?_ (by rfl) dH.out hup1 ?_ ?_ ?_;exact(l8.out.kept aR.out).2.2.2.2.1;(have:=rH.out;omega);exact ZZ eW.out.size aR.out.size;intro v6 w6 o6 g6 e6;obtain⟨a6,cap6,oK,_,_⟩:=aM o6;rw[ZT]at oK;subst oK;obtain⟨⟨f1,f2⟩,iy,iz⟩:=(l8.out.kept aR.out).swap.app (ZZ eW.out.size aR.out.size) o6 g6 e6;have uI:=ae iy.swap;have BC:=ae (iz);clear o6 g6 e6 iy iz)
   | (go_simp;go_at_call 81;refine(SI.out _ ?_).mono ?_;exact below_drewN (ZQ Y.heap.size Y) 1;rintro e w5 ⟨v5,rfl,fT,bq,Yo⟩;have dH:=ae fT;have aR:=ae bq;clear fT bq;dsimp only)
   | fail)
  all_goals refine NoPanic.normal ?_
  all_goals (go_wp2_with fail;go_meet;exact⟨_,uI.out,(eW.out.trans (aR.out.mono eW.out.size)).trans BC.out⟩)
 clear SI l8 eW q1 q2 q3 q4
 case rest =>
 obtain⟨v2,hBX,hbA⟩:=hcut;go_upto_region 4 with fail
 obtain⟨⟨q1,q2⟩,⟨q3,q4⟩⟩:=hBX.cells;obtain⟨a2,cap2,rfl⟩:=hBX.2.2.2.2.1.slice;have l8:=ae hBX;have eW:=ae hbA;clear hBX hbA;have hF1l:(P0++P1).length<=10110:=by have:=rH.out;rw[ZT];omega
 generalize hF1:P0++P1=F1 at *
 have Yf:Hid (∀ U,Below wc.heap.size wc U->Calls Tryz.prog 81 #[.int .i64 (g:Int)] U fun e w'=>∃ v,e=.returned v/\Sv w' v (aE .u8 (P2))/\Below wc.heap.size wc w'/\w'.cell? ⟨Bf,0,none⟩=some (.slice a2 F1.length cap2)):=ae (fun U hU=>by
  refine(HCN2.out U).mono ?_;rintro e w' ⟨⟨v,rfl,ho⟩,hb⟩;exact⟨v,rfl,ho.sv,ai hU hb,((l8.out.kept (ai hU hb)).cells.2).1⟩)
 go_cut [] from 15 (fun wx=>∃ v2,Bx2 wx A.heap.size Bb Bf (.slice (some ⟨A.heap.size,0,none⟩) 3 3) v2 [67,70,49] (F1++P2)/\Below A.heap.size A wx)
 case first =>
  refine wp_region_noPanic ?_
  go_region_law (first
   | (refine lm (by rfl) _ _ (by rfl) A.heap.size _ _ (F1) (P2) (by rfl) ?_ (by rfl) dH.out hup2 ?_ ?_ ?_;exact(l8.out.kept aR.out).2.2.2.2.1;(omega);exact ZZ eW.out.size aR.out.size;intro v6 w6 o6 g6 e6;obtain⟨a6,cap6,oK,_,_⟩:=aM o6;rw[ZT]at oK;subst oK;obtain⟨⟨f1,f2⟩,iy,iz⟩:=(l8.out.kept aR.out).swap.app (ZZ eW.out.size aR.out.size) o6 g6 e6;have uI:=ae iy.swap;have BC:=ae (iz);clear o6 g6 e6 iy iz)
   | (go_simp;go_at_call 81;refine(Yf.out _ ?_).mono ?_;exact below_drewN (ZQ wc.heap.size wc) 1;rintro e w5 ⟨v5,rfl,fT,bq,Yo⟩;have dH:=ae fT;have aR:=ae bq;clear fT bq;dsimp only)
   | fail)
  all_goals refine NoPanic.normal ?_
  all_goals (go_wp2_with fail;go_meet;exact⟨_,uI.out,(eW.out.trans (aR.out.mono eW.out.size)).trans BC.out⟩)
 clear Yf l8 eW q1 q2 q3 q4
 case rest =>
 obtain⟨v3,hBX,hbA⟩:=hcut;have hF2l:(F1++P2).length<=10120:=by rw[ZT];omega
 generalize hF2:F1++P2=F2 at *;have l8:=ae hBX;have eW:=ae hbA;clear hBX hbA;have HCH:=ae (LC ra rs.length rcap g eQ);go_wp2_with fail;refine(HCH.out _).mono ?_;rintro e w7 ⟨rfl,rfl⟩;go_wp2_with fail;have hbZ:Below wc.heap.size wc ((wc.alloc (.cells #[.slice ra rs.length rcap] 34)).alloc (.cells #[.int .i64 (g:Int)] 3)):=ai (ak _ _) (ak _ _);have ZC:Boxed ((wc.alloc (.cells #[.slice ra rs.length rcap] 34)).alloc (.cells #[.int .i64 (g:Int)] 3)) wc.heap.size 34 (.slice ra rs.length rcap):=(Boxed.new wc 34 _).alloc _
 have rK:Boxed ((wc.alloc (.cells #[.slice ra rs.length rcap] 34)).alloc (.cells #[.int .i64 (g:Int)] 3)) (wc.heap.size+1) 3 (.int .i64 (g:Int)):=by
  have:=Boxed.new (wc.alloc (.cells #[.slice ra rs.length rcap] 34)) 3 (.int .i64 (g:Int));rwa[ZS]at this
 have hBZ:=l8.out.kept hbZ;have hAZ:=ai eW.out hbZ;generalize (wc.alloc (.cells #[.slice ra rs.length rcap] 34)).alloc (.cells #[.int .i64 (g:Int)] 3)=Z at *;clear hbZ l8 eW;generalize wc.heap.size+1=q at *;generalize wc.heap.size=p at *;obtain⟨PV,SU,hseq⟩:=LE UT.out ph eQ gK 2 (by omega);have hseqZ:=hseq p q Z ZC.cell rK.cell ZC.lt rK.lt;have SU:=ae SU;have hpZ:=ZC.lt;have hqZ:=rK.lt;have hAZs:=hAZ.size;clear hseq;refine wpIn_wide.1 (?_:Code.wpIn Fence.wide 3 _ _ _ _ _)
 refine wpIn_rangeFunc_ownF (F:=Fence.wide) (n:=3) rfl (by omega) (gf:=121) (lb:=#[.pointer (some ⟨p,0,none⟩),.pointer (some ⟨q,0,none⟩)]) rfl trivial (enters_of Tryz.func121 (by kernel_rfl) rfl) hseqZ (fun h k=>KC.trans h k) (fun W l o o' hl _ _ _=>⟨World.putObj_heap_other (show p≠l by omega),World.putObj_heap_other (show q≠l by omega)⟩) (ZQ _ _) (fun _=>rfl)
  (fun pre W=>((∃ v1 v2,Bx2 W A.heap.size Bb Bf v1 v2 ([67,70,49]++pre.flatMap fun j=>eL fs (prt g rs j) fs.length) (F2++pre.flatMap fun j=>ftK fs (prt g rs j) fs.length))/\Boxed W p 34 (.slice ra rs.length rcap)/\Boxed W q 3 (.int .i64 (g:Int)))/\Below A.heap.size A W)
  (fun _ _ _=>False) ?hI (fun _ _ _ _ _ h _ _=>h) ?h0
  (fun j=>{ tmps:=#[(.agg #[.int .u32 (id:Int),.slice fa fs.length fcap]),(.slice ra rs.length rcap),(.int .i64 (g:Int)),(.pointer (some ⟨w.heap.size,0,none⟩)),undef,undef,(.slice none 0 0),(.pointer (some ⟨Bb,0,none⟩)),(.pointer (some ⟨Bf,0,none⟩)),(PV j),undef,undef,undef,undef,undef,u15,u16,u17,u18,u19,u20,u21,u22,u23,u24,u25,u26,u27,(.slice ra rs.length rcap),(.int .i64 (g:Int)),(.func (.func 121) #[] #[.pointer (some ⟨p,0,none⟩),.pointer (some ⟨q,0,none⟩)]),(PV j),u32,u33,u34,u35,u36,u37,u38,u39,u40,u41,u42,u43,u44,u45,u46,u47,u48,u49,u50,u51,u52,u53,u54,u55,u56,u57,u58,u59,u60,u61,u62,u63,u64,u65,u66,u67,u68,u69,u70,u71],defers:=[] }) ?assign ?body ?done ?stop
 case hI =>
  rintro pre X Y' row ⟨⟨⟨v1,v2,h1⟩,h2,h3⟩,h4⟩ hg hr;refine⟨⟨⟨v1,v2,h1.turned hg (fun r e=>(hr r e).2)⟩,?_,?_⟩,h4.grown hg h4.size (fun k e=>ZZ hAZs (hr k e).1)⟩
  ·refine h2.kept hg (fun e=>?_)
   obtain⟨_,o,ho,hc⟩:=hr _ e.symm;rw[show X.heap[p]?=_ from h2]at ho;cases ho
   cases hc
  ·refine h3.kept hg (fun e=>?_)
   obtain⟨_,o,ho,hc⟩:=hr _ e.symm;rw[show X.heap[q]?=_ from h3]at ho;cases ho
   cases hc
 case h0=>exact⟨⟨⟨_,_,by simpa using hBZ⟩,ZC,rK⟩,hAZ⟩
 case assign =>
  intro l x W K hK;gi_wp2
  exact hK
 case body =>
  rintro l pre j W ⟨⟨⟨v1,v2,BD⟩,SP,ur⟩,zR⟩ aB;have RU:Hid (∀ U,Below A.heap.size A U->U.cell? ⟨w.heap.size,1,none⟩=some (.slice fa fs.length fcap)/\Sf U (.slice fa fs.length fcap) fs):=ae (fun U hU=>⟨(HT.out U hU).2,HS.out.kept hU⟩);have kD:=bY g rs j;have Yp:(prt g rs j).length<=256:=by omega
  have mX:=ae (fun k kz=>eV (dy.part g j) hk Yp (k:=k) kz);have Mm:=ae (fun k (kz:k<=fs.length)=>(lW mX.out kz).1);have J2:=ae (fun k (kz:k<=fs.length)=>(ow (dy.part g j) Yp mX.out kz).1);have cP:=ae (fun k=>JM (dy.part g j) Yp k);have Mw:=ae (fun k=>lV (dy.part g j) k);have Jc:Hid (∀ U,Below A.heap.size A U->Rv U (PV j) (prt g rs j)):=ae (fun U hU=>SU.out U (HR.out.kept hU) j);have UD:Hid (∀ r∈prt g rs j,r.length=fs.length):=ae (fun r hr=>qg (dy.part g j r hr).1);have HKN:Hid (∀ k (h:k<fs.length),lO fs k=fs[k].2.2.1):=ae (fun k h=>lP h);have tS:=ae (lR fs (prt g rs j));have sV:=ae (nz fs (prt g rs j));have ZD:Hid (([67,70,49]++(pre++[j]).flatMap fun j=>eL fs (prt g rs j) fs.length)=([67,70,49]++pre.flatMap fun j=>eL fs (prt g rs j) fs.length)++eL fs (prt g rs j) fs.length):=ae (by simp[jaV]);have J6:Hid ((F2++(pre++[j]).flatMap fun j=>ftK fs (prt g rs j) fs.length)=(F2++pre.flatMap fun j=>ftK fs (prt g rs j) fs.length)++ftK fs (prt g rs j) fs.length):=ae (by simp[jaV]);have hpre:pre.length<=256:=by have:=jW (n:=rs.length) eQ ph;omega
  have hG1:([67,70,49]++pre.flatMap fun j=>eL fs (prt g rs j) fs.length).length<=50000000:=by
   have h1:=iv (m:=172800) (fun j=>ZZ (lW (fun k kz=>eV (dy.part g j) hk (by rw[bY];omega) kz) (ZR _)).1 (by omega)) pre;rw[ZT];simp only[ZW,jad];have:172800*pre.length<=172800*256:=jaL _ hpre;omega
  have hG2:(F2++pre.flatMap fun j=>ftK fs (prt g rs j) fs.length).length<=500000:=by
   have h1:=iv (m:=1360) (fun j=>ZZ (ow (dy.part g j) (by rw[bY];omega) (fun k kz=>eV (dy.part g j) hk (by rw[bY];omega) kz) (ZR _)).1 (by omega)) pre;rw[ZT];have:1360*pre.length<=1360*256:=jaL _ hpre;omega
  have l8:=ae BD;have HPQ:=ae (And.intro SP ur);have eW:=ae zR;obtain⟨lp,xB⟩:=RU.out W zR;clear BD SP ur zR hseqZ hBZ hAZ aB kD xB SU;generalize ([67,70,49]++pre.flatMap fun j=>eL fs (prt g rs j) fs.length)=G1 at *;generalize (F2++pre.flatMap fun j=>ftK fs (prt g rs j) fs.length)=G2 at *;generalize prt g rs j=PT at *;generalize PV j=pv at *;gi_wp2
  gi_loopw [35] (fun i wr=>∃(k:Nat) (v1 v2:Value),k<=fs.length/\i=.int .i64 (k:Int)/\Bx2 wr A.heap.size Bb Bf v1 v2 (G1++eL fs PT k) (G2++ftK fs PT k)/\(Boxed wr p 34 (.slice ra rs.length rcap)/\Boxed wr q 3 (.int .i64 (g:Int)))/\KeepsOthers W wr/\Below A.heap.size A wr) (fun i _=>fs.length-(intOf i).toNat)
  case atStart=>exact⟨0,v1,v2,by omega,rfl,by simpa [eL,ftK]using l8.out,HPQ.out,KeepsOthers.refl _,eW.out⟩
  case round =>
   obtain⟨k,u1,u2,pd,rfl,BD,hpq,hko,zR⟩:=hrel;have HBXr:=ae BD;have HPQr:=ae hpq;have HKOr:=ae hko;have HBAr:=ae zR;clear BD hpq hko zR;by_cases aB:k<fs.length
   ·have hlt':(k:Int)<(fs.length:Int):=by omega
    obtain⟨hd1,xB⟩:=RU.out wr HBAr.out;obtain⟨bb,off,rfl,hb,x0,x1,x2,x3⟩:=xB.at aB;clear xB;have dT:=mX.out k aB;have fM:=Mm.out k pd;have jM:=J2.out k pd;have EO:=HKN.out k aB;gi_wp2
    have Hk:Hid (∀ r∈PT,k<r.length):=ae (fun r hr=>by rw[UD.out r hr];exact aB);rw[EO]at dT;have HBSk:Hid (eL fs PT (k+1)=eL fs PT k++em fs[k].2.2.1 (cT PT k)):=ae (by rw[tS.out,EO]);have HFSk:Hid (ftK fs PT (k+1)=ftK fs PT k++(uv (em fs[k].2.2.1 (cT PT k)).length++es (ct (cT PT k)))):=ae (by rw[sV.out,EO]);clear EO;generalize fs[k]=f at *;obtain⟨f0,f1,f2,f3⟩:=f;simp only at x0 x1 x2 x3 dT HBSk HFSk ⊢;have aG:=ak wr (.cells #[.int .u32 (f0:Int),.string f1,.int .u8 (f2:Int),.bool f3] 81);obtain⟨_,_,z2,_⟩:=iU wr (.int .u32 (f0:Int)) (.string f1) (.int .u8 (f2:Int)) (.bool f3) 81;have bm:wr.heap.size<(wr.alloc (.cells #[.int .u32 (f0:Int),.string f1,.int .u8 (f2:Int),.bool f3] 81)).heap.size:=by rw[ZS];omega
    generalize wr.alloc (.cells #[.int .u32 (f0:Int),.string f1,.int .u8 (f2:Int),.bool f3] 81)=R1 at *;have aQ:=ae aG;clear aG x0 x1 x2 x3 hd1;refine⟨trivial,?_⟩;refine(CallsIn.inRound l (callsIn_wide.2 (AR (Jc.out R1 (ai HBAr.out aQ.out)) (by omega) Hk.out))).mono ?_;rintro e R2 ⟨⟨vv,rfl,o2⟩,aD⟩;have ib:=o2.sv;have rB:Hid (∀ b,vv.ownBlock=some b->b<R2.heap.size):=ae (fun b hb=>(World.ownsRow.lt o2 b hb).2);obtain⟨av,capv,rfl,_,_⟩:=aM o2;have z2':=(aD.cell (p:=⟨wr.heap.size,2,none⟩) bm).trans z2;have aN:=ae (ai aQ.out aD);have zL:=ae ib;have hWC:=kb dT;have eO:=il dT
    have S0:0<(em f2 (cT PT k)).length:=by
     unfold em dD;rw[ZT];split
     ·rw[ZW]
      omega
     ·rw[jan]
      omega
    have Jb:=ae (zq ib rB.out (Mw.out k) f2);rw[hWC]at Jb;obtain⟨t1,t2,t3⟩:=cP.out k;have Yq:Hid (∀(U:World) (B:Nat) (u:Value),OwnV U B u (cT PT k)->Calls Tryz.prog 59 #[u] U fun e w'=>e=.returned (ua (ct (cT PT k)))/\Below U.heap.size U w'):=ae (fun U B u hU=>zi hU.sv (Mw.out k) (by rw[dp];omega));have HOV:=ae o2;have RV:=ae (fun U=>nA t1 t2 t3 U);obtain⟨t4,t5⟩:=ov t1 t2 t3;have t6:0<(es (ct (cT PT k))).length:=by unfold es;simp only[ZT,jan];omega
    have UQ:=bI (n:=(em f2 (cT PT k)).length) (by omega);have UU:=mg (em f2 (cT PT k)).length;have UW:=ae (HCN0.out (em f2 (cT PT k)).length (by omega));have hcll:=(il dT).1;have Yj:(cT PT k).length=PT.length:=dp _ _;clear hWC eO t1 t2 t3 t5 aD o2 ib z2 dT;generalize hCM:em f2 (cT PT k)=CM at *;generalize hSM:ct (cT PT k)=SM at *;generalize hSB:es SM=SB at *;generalize hUV:uv CM.length=UV at *;have HUV:=ae hUV;have Ya:=ae hSB;have SK:=ae hSM;have Hx:=ae hCM;clear hCM hSM hSB hUV Yj;generalize hCS:cT PT k=CS at *;have Zk:=ae hCS;clear hCS;gi_wp2
    refine⟨trivial,?_⟩;refine(CallsIn.inRound l (callsIn_wide.2 Jb.out)).mono ?_;rintro e R3 ⟨⟨vc,rfl,o3⟩,aP⟩;obtain⟨ac,capc,rfl,_,_⟩:=aM o3;have bM:=ae (ai aN.out aP);have cX:=ae o3;have ED:=HBXr.out.kept bM.out;have hba3:=ai HBAr.out bM.out;obtain⟨⟨q1,q2⟩,⟨q3,q4⟩⟩:=ED.cells;obtain⟨a1',cap1',rfl⟩:=ED.2.2.2.1.slice;obtain⟨a2',cap2',rfl⟩:=ED.2.2.2.2.1.slice;have EE:=ae ED;have Yr:=ae hba3;have HOV3:=ae (HOV.out.kept aP);clear ED hba3 o3 aP;have hg1l:(G1++eL fs PT k).length<=50200000:=by rw[ZT];omega
    have hg2l:(G2++ftK fs PT k).length<=510000:=by rw[ZT];omega
    generalize hM1:G1++eL fs PT k=M1 at *;generalize hM2:G2++ftK fs PT k=M2 at *;have MD:=ae hM1;have H6:=ae hM2;clear hM1 hM2;gi_wp2_with (first | (gi_at_builtin;refine rg rfl _ _ rfl A.heap.size _ _ M1 CM rfl EE.out.2.2.2.1 rfl cX.out.sv S0 ?n3 ?n4 ?_))
    case n3=>omega
    case n4=>exact Yr.out.size
    intro vb4 R4 o4 g4 e4;generalize hN1:M1++CM=N1 at *;have Hn:=ae hN1;clear hN1;obtain⟨a4,cap4,hv4,_,_⟩:=aM o4;subst hv4;obtain⟨⟨y1,y2⟩,Ys,hbl4⟩:=EE.out.app Yr.out.size o4 g4 e4;have HPQ4:=ae (And.intro (EE.out.other (v':=.slice a4 N1.length cap4) g4 ((bM.out.block _ HPQr.out.1.lt).trans HPQr.out.1) (by decide) (by decide)) (EE.out.other (v':=.slice a4 N1.length cap4) g4 ((bM.out.block _ HPQr.out.2.lt).trans HPQr.out.2) (by decide) (by decide)));have HKO4:=ae ((HKOr.out.trans (ec bM.out)).trans (EE.out.keeps (v':=.slice a4 N1.length cap4) g4));have HBX4:=ae Ys;have HOV4:=ae (EE.out.keepV (v':=.slice a4 N1.length cap4) g4 HOV3.out (by decide) (by decide));have HBA4:=ae (Yr.out.trans hbl4);clear o4 g4 e4 hbl4 q1 q2 q3 q4;obtain⟨⟨q1,q2⟩,⟨q3,q4⟩⟩:=Ys.cells;clear Ys;gi_wp2
    have iA:=HBX4;have nL:=HPQ4;have RW:=HOV4;have RX:=HKO4;have nM:=HBA4;clear HBX4 HPQ4 HOV4 HKO4 HBA4 y1 y2;generalize R4.setCell ⟨Bb,0,none⟩ (.slice a4 N1.length cap4)=V4 at *;gi_cut [] from 72 (fun wx=>∃ v2,Bx2 wx A.heap.size Bb Bf (.slice a4 N1.length cap4) v2 N1 (M2++UV)/\(Boxed wx p 34 (.slice ra rs.length rcap)/\Boxed wx q 3 (.int .i64 (g:Int)))/\OwnV wx R1.heap.size (.slice av CS.length capv) CS/\KeepsOthers W wx/\Below A.heap.size A wx)
    case first =>
     refine wpIn_region_any (by kernel_rfl) ?_;change wpAnyIn _ _ _ _ _ _ _ _ _ V4.drew
     refine wpAnyIn_ready (rs:=[0,1]) (by kernel_rfl) (by simp) ?_;refine AllReadyIn.cons rfl (fun K hK=>?_) ?_
     ·have HK:=ae hK
      clear hK;go_simp
      refine HK.out _ _ ?_;clear HK K;try simp only[Act.put,Z3,Z0,Z2]
      refine wpAnyIn_ready (rs:=[1]) (by kernel_rfl) (by simp) ?_;refine AllReadyIn.cons rfl (fun K hK=>?_) ?_
      ·have HK:=ae hK
       clear hK;go_simp
       refine HK.out _ _ ?_;clear HK K;try simp only[Act.put,Z3,Z0,Z2]
       refine wpAnyIn_ready (rs:=[2]) (by kernel_rfl) (by simp) ?_;refine AllReadyIn.cons rfl (fun K hK=>?_) ?_
       ·have HK:=ae hK
        clear hK;go_simp
        refine HK.out _ _ ?_;clear HK K;try simp only[Act.put,Z3,Z0,Z2]
        refine wpAnyIn_ready (rs:=[3]) (by kernel_rfl) (by simp) ?_;refine AllReadyIn.cons rfl (fun K hK=>?_) ?_
        ·have HK:=ae hK
         clear hK;go_simp
         refine⟨trivial,?_⟩;refine(CallsIn.inRound l (callsIn_wide.2 (UW.out V4.drew))).mono ?_;rintro e w5 ⟨⟨v5,rfl,o5⟩,hb5'⟩;have bq:Below V4.heap.size V4 w5:=(below_drewN (ZQ V4.heap.size V4) 1).trans hb5';obtain⟨⟨q1,q2⟩,⟨q3,q4⟩⟩:=(iA.out.kept bq).cells;have dH:=ae o5;have aR:=ae bq;clear o5 bq hb5';dsimp only
         refine HK.out _ _ ?_;clear HK K;try simp only[Act.put,Z3,Z0,Z2]
         refine wpAnyIn_ready (rs:=[4]) (by kernel_rfl) (by simp) ?_;refine AllReadyIn.cons rfl (fun K hK=>?_) ?_
         ·have HK:=ae hK
          clear hK;rw[if_pos (by rfl)];refine db _ _ rfl A.heap.size _ _ M2 UV rfl (iA.out.kept aR.out).2.2.2.2.1 rfl dH.out.sv UU (by omega) (ZZ nM.out.size aR.out.size) ?_;intro v6 w6 o6 g6 e6;obtain⟨a6,cap6,oK,_,_⟩:=aM o6;rw[ZT]at oK;subst oK;obtain⟨⟨f1,f2⟩,iy,iz⟩:=(iA.out.kept aR.out).swap.app (ZZ nM.out.size aR.out.size) o6 g6 e6;have uI:=ae iy.swap;have BC:=ae iz;have kB:=ae g6;clear o6 g6 e6 iy iz;refine HK.out _ _ ?_;clear HK K;try simp only[Act.put,Z3,Z0,Z2]
          refine wpAnyIn_ready (rs:=[5]) (by kernel_rfl) (by simp) ?_;refine AllReadyIn.cons rfl (fun K hK=>?_) ?_
          ·have HK:=ae hK
           clear hK;go_simp
           refine HK.out _ _ ?_;clear HK K;try simp only[Act.put,Z3,Z0,Z2]
           refine wpAnyIn_done (by kernel_rfl) ?_ _;gi_wp2
           gi_meet
           exact⟨_,uI.out,⟨(iA.out.kept aR.out).swap.other kB.out ((aR.out.block _ nL.out.1.lt).trans nL.out.1) (by decide) (by decide),(iA.out.kept aR.out).swap.other kB.out ((aR.out.block _ nL.out.2.lt).trans nL.out.2) (by decide) (by decide)⟩,(iA.out.kept aR.out).swap.keepV kB.out (OwnV.kept RW.out aR.out) (by decide) (by decide),(RX.out.trans (ec aR.out)).trans ((iA.out.kept aR.out).swap.keeps kB.out),(nM.out.trans (aR.out.mono nM.out.size)).trans BC.out⟩
          exact AllReadyIn.nil
         exact AllReadyIn.nil
        exact AllReadyIn.nil
       exact AllReadyIn.nil
      exact AllReadyIn.nil
     refine AllReadyIn.cons rfl (fun K hK=>?_) ?_
     ·have HK:=ae hK
      clear hK;go_simp
      refine HK.out _ _ ?_;clear HK K;try simp only[Act.put,Z3,Z0,Z2]
      refine wpAnyIn_ready (rs:=[0,2]) (by kernel_rfl) (by simp) ?_;refine AllReadyIn.cons rfl (fun K hK=>?_) ?_
      ·have HK:=ae hK
       clear hK;go_simp
       refine HK.out _ _ ?_;clear HK K;try simp only[Act.put,Z3,Z0,Z2]
       refine wpAnyIn_ready (rs:=[2]) (by kernel_rfl) (by simp) ?_;refine AllReadyIn.cons rfl (fun K hK=>?_) ?_
       ·have HK:=ae hK
        clear hK;go_simp
        refine HK.out _ _ ?_;clear HK K;try simp only[Act.put,Z3,Z0,Z2]
        refine wpAnyIn_ready (rs:=[3]) (by kernel_rfl) (by simp) ?_;refine AllReadyIn.cons rfl (fun K hK=>?_) ?_
        ·have HK:=ae hK
         clear hK;go_simp
         refine⟨trivial,?_⟩;refine(CallsIn.inRound l (callsIn_wide.2 (UW.out V4.drew))).mono ?_;rintro e w5 ⟨⟨v5,rfl,o5⟩,hb5'⟩;have bq:Below V4.heap.size V4 w5:=(below_drewN (ZQ V4.heap.size V4) 1).trans hb5';obtain⟨⟨q1,q2⟩,⟨q3,q4⟩⟩:=(iA.out.kept bq).cells;have dH:=ae o5;have aR:=ae bq;clear o5 bq hb5';dsimp only
         refine HK.out _ _ ?_;clear HK K;try simp only[Act.put,Z3,Z0,Z2]
         refine wpAnyIn_ready (rs:=[4]) (by kernel_rfl) (by simp) ?_;refine AllReadyIn.cons rfl (fun K hK=>?_) ?_
         ·have HK:=ae hK
          clear hK;rw[if_pos (by rfl)];refine db _ _ rfl A.heap.size _ _ M2 UV rfl (iA.out.kept aR.out).2.2.2.2.1 rfl dH.out.sv UU (by omega) (ZZ nM.out.size aR.out.size) ?_;intro v6 w6 o6 g6 e6;obtain⟨a6,cap6,oK,_,_⟩:=aM o6;rw[ZT]at oK;subst oK;obtain⟨⟨f1,f2⟩,iy,iz⟩:=(iA.out.kept aR.out).swap.app (ZZ nM.out.size aR.out.size) o6 g6 e6;have uI:=ae iy.swap;have BC:=ae iz;have kB:=ae g6;clear o6 g6 e6 iy iz;refine HK.out _ _ ?_;clear HK K;try simp only[Act.put,Z3,Z0,Z2]
          refine wpAnyIn_ready (rs:=[5]) (by kernel_rfl) (by simp) ?_;refine AllReadyIn.cons rfl (fun K hK=>?_) ?_
          ·have HK:=ae hK
           clear hK;go_simp
           refine HK.out _ _ ?_;clear HK K;try simp only[Act.put,Z3,Z0,Z2]
           refine wpAnyIn_done (by kernel_rfl) ?_ _;gi_wp2
           gi_meet
           exact⟨_,uI.out,⟨(iA.out.kept aR.out).swap.other kB.out ((aR.out.block _ nL.out.1.lt).trans nL.out.1) (by decide) (by decide),(iA.out.kept aR.out).swap.other kB.out ((aR.out.block _ nL.out.2.lt).trans nL.out.2) (by decide) (by decide)⟩,(iA.out.kept aR.out).swap.keepV kB.out (OwnV.kept RW.out aR.out) (by decide) (by decide),(RX.out.trans (ec aR.out)).trans ((iA.out.kept aR.out).swap.keeps kB.out),(nM.out.trans (aR.out.mono nM.out.size)).trans BC.out⟩
          exact AllReadyIn.nil
         exact AllReadyIn.nil
        exact AllReadyIn.nil
       exact AllReadyIn.nil
      refine AllReadyIn.cons rfl (fun K hK=>?_) ?_
      ·have HK:=ae hK
       clear hK;go_simp
       refine HK.out _ _ ?_;clear HK K;try simp only[Act.put,Z3,Z0,Z2]
       refine wpAnyIn_ready (rs:=[0,3]) (by kernel_rfl) (by simp) ?_;refine AllReadyIn.cons rfl (fun K hK=>?_) ?_
       ·have HK:=ae hK
        clear hK;go_simp
        refine HK.out _ _ ?_;clear HK K;try simp only[Act.put,Z3,Z0,Z2]
        refine wpAnyIn_ready (rs:=[3]) (by kernel_rfl) (by simp) ?_;refine AllReadyIn.cons rfl (fun K hK=>?_) ?_
        ·have HK:=ae hK
         clear hK;go_simp
         refine⟨trivial,?_⟩;refine(CallsIn.inRound l (callsIn_wide.2 (UW.out V4.drew))).mono ?_;rintro e w5 ⟨⟨v5,rfl,o5⟩,hb5'⟩;have bq:Below V4.heap.size V4 w5:=(below_drewN (ZQ V4.heap.size V4) 1).trans hb5';obtain⟨⟨q1,q2⟩,⟨q3,q4⟩⟩:=(iA.out.kept bq).cells;have dH:=ae o5;have aR:=ae bq;clear o5 bq hb5';dsimp only
         refine HK.out _ _ ?_;clear HK K;try simp only[Act.put,Z3,Z0,Z2]
         refine wpAnyIn_ready (rs:=[4]) (by kernel_rfl) (by simp) ?_;refine AllReadyIn.cons rfl (fun K hK=>?_) ?_
         ·have HK:=ae hK
          clear hK;rw[if_pos (by rfl)];refine db _ _ rfl A.heap.size _ _ M2 UV rfl (iA.out.kept aR.out).2.2.2.2.1 rfl dH.out.sv UU (by omega) (ZZ nM.out.size aR.out.size) ?_;intro v6 w6 o6 g6 e6;obtain⟨a6,cap6,oK,_,_⟩:=aM o6;rw[ZT]at oK;subst oK;obtain⟨⟨f1,f2⟩,iy,iz⟩:=(iA.out.kept aR.out).swap.app (ZZ nM.out.size aR.out.size) o6 g6 e6;have uI:=ae iy.swap;have BC:=ae iz;have kB:=ae g6;clear o6 g6 e6 iy iz;refine HK.out _ _ ?_;clear HK K;try simp only[Act.put,Z3,Z0,Z2]
          refine wpAnyIn_ready (rs:=[5]) (by kernel_rfl) (by simp) ?_;refine AllReadyIn.cons rfl (fun K hK=>?_) ?_
          ·have HK:=ae hK
           clear hK;go_simp
           refine HK.out _ _ ?_;clear HK K;try simp only[Act.put,Z3,Z0,Z2]
           refine wpAnyIn_done (by kernel_rfl) ?_ _;gi_wp2
           gi_meet
           exact⟨_,uI.out,⟨(iA.out.kept aR.out).swap.other kB.out ((aR.out.block _ nL.out.1.lt).trans nL.out.1) (by decide) (by decide),(iA.out.kept aR.out).swap.other kB.out ((aR.out.block _ nL.out.2.lt).trans nL.out.2) (by decide) (by decide)⟩,(iA.out.kept aR.out).swap.keepV kB.out (OwnV.kept RW.out aR.out) (by decide) (by decide),(RX.out.trans (ec aR.out)).trans ((iA.out.kept aR.out).swap.keeps kB.out),(nM.out.trans (aR.out.mono nM.out.size)).trans BC.out⟩
          exact AllReadyIn.nil
         exact AllReadyIn.nil
        exact AllReadyIn.nil
       refine AllReadyIn.cons rfl (fun K hK=>?_) ?_
       ·have HK:=ae hK
        clear hK;go_simp
        refine⟨trivial,?_⟩;refine(CallsIn.inRound l (callsIn_wide.2 (UW.out V4.drew))).mono ?_;rintro e w5 ⟨⟨v5,rfl,o5⟩,hb5'⟩;have bq:Below V4.heap.size V4 w5:=(below_drewN (ZQ V4.heap.size V4) 1).trans hb5';obtain⟨⟨q1,q2⟩,⟨q3,q4⟩⟩:=(iA.out.kept bq).cells;have dH:=ae o5;have aR:=ae bq;clear o5 bq hb5';dsimp only
        refine HK.out _ _ ?_;clear HK K;try simp only[Act.put,Z3,Z0,Z2]
        refine wpAnyIn_ready (rs:=[0]) (by kernel_rfl) (by simp) ?_;refine AllReadyIn.cons rfl (fun K hK=>?_) ?_
        ·have HK:=ae hK
         clear hK;go_simp
         refine HK.out _ _ ?_;clear HK K;try simp only[Act.put,Z3,Z0,Z2]
         refine wpAnyIn_ready (rs:=[4]) (by kernel_rfl) (by simp) ?_;refine AllReadyIn.cons rfl (fun K hK=>?_) ?_
         ·have HK:=ae hK
          clear hK;rw[if_pos (by rfl)];refine db _ _ rfl A.heap.size _ _ M2 UV rfl (iA.out.kept aR.out).2.2.2.2.1 rfl dH.out.sv UU (by omega) (ZZ nM.out.size aR.out.size) ?_;intro v6 w6 o6 g6 e6;obtain⟨a6,cap6,oK,_,_⟩:=aM o6;rw[ZT]at oK;subst oK;obtain⟨⟨f1,f2⟩,iy,iz⟩:=(iA.out.kept aR.out).swap.app (ZZ nM.out.size aR.out.size) o6 g6 e6;have uI:=ae iy.swap;have BC:=ae iz;have kB:=ae g6;clear o6 g6 e6 iy iz;refine HK.out _ _ ?_;clear HK K;try simp only[Act.put,Z3,Z0,Z2]
          refine wpAnyIn_ready (rs:=[5]) (by kernel_rfl) (by simp) ?_;refine AllReadyIn.cons rfl (fun K hK=>?_) ?_
          ·have HK:=ae hK
           clear hK;go_simp
           refine HK.out _ _ ?_;clear HK K;try simp only[Act.put,Z3,Z0,Z2]
           refine wpAnyIn_done (by kernel_rfl) ?_ _;gi_wp2
           gi_meet
           exact⟨_,uI.out,⟨(iA.out.kept aR.out).swap.other kB.out ((aR.out.block _ nL.out.1.lt).trans nL.out.1) (by decide) (by decide),(iA.out.kept aR.out).swap.other kB.out ((aR.out.block _ nL.out.2.lt).trans nL.out.2) (by decide) (by decide)⟩,(iA.out.kept aR.out).swap.keepV kB.out (OwnV.kept RW.out aR.out) (by decide) (by decide),(RX.out.trans (ec aR.out)).trans ((iA.out.kept aR.out).swap.keeps kB.out),(nM.out.trans (aR.out.mono nM.out.size)).trans BC.out⟩
          exact AllReadyIn.nil
         exact AllReadyIn.nil
        exact AllReadyIn.nil
       exact AllReadyIn.nil
      exact AllReadyIn.nil
     exact AllReadyIn.nil
    case rest =>
    obtain⟨vf,BD,hpq,hov,hko,zR⟩:=hcut;have hg3l:(M2++UV).length<=510010:=by rw[ZT];omega
    generalize hM3:M2++UV=M3 at *;have Rt:=ae hM3;clear hM3;obtain⟨⟨q1,q2⟩,⟨q3,q4⟩⟩:=BD.cells;obtain⟨af,capf,rfl⟩:=BD.2.2.2.2.1.slice;have i7:=ae BD;have oL:=ae hpq;have Yt:=ae hov;have UX:=ae hko;have oM:=ae zR;clear BD hpq hov hko zR iA nL RW RX nM;gi_wp2
    have Zl:Hid (fs.length-(intOf (.int .i64 ((k:Int)+1))).toNat<fs.length-(intOf (.int .i64 (k:Int))).toNat):=ae (by simp[intOf];omega)
    have pm:Hid (∀(U:World) (x1 x2:Value),Bx2 U A.heap.size Bb Bf x1 x2 N1 (M3++SB)->Bx2 U A.heap.size Bb Bf x1 x2 (G1++eL fs PT (k+1)) (G2++ftK fs PT (k+1))):=ae (fun U x1 x2 h9=>by
     rw[← Hn.out,← MD.out,← Rt.out,← H6.out]at h9;rw[HBSk.out,HFSk.out];simpa using h9)
    refine wpIn_region_any (by kernel_rfl) ?_;change wpAnyIn _ _ _ _ _ _ _ _ _ wc.drew
    refine wpAnyIn_ready (rs:=[0,1]) (by kernel_rfl) (by simp) ?_;refine AllReadyIn.cons rfl (fun K hK=>?_) ?_
    ·have HK:=ae hK
     clear hK;go_simp
     refine HK.out _ _ ?_;clear HK K;try simp only[Act.put,Z3,Z0,Z2]
     refine wpAnyIn_ready (rs:=[1]) (by kernel_rfl) (by simp) ?_;refine AllReadyIn.cons rfl (fun K hK=>?_) ?_
     ·have HK:=ae hK
      clear hK;go_simp
      refine HK.out _ _ ?_;clear HK K;try simp only[Act.put,Z3,Z0,Z2]
      refine wpAnyIn_ready (rs:=[2]) (by kernel_rfl) (by simp) ?_;refine AllReadyIn.cons rfl (fun K hK=>?_) ?_
      ·have HK:=ae hK
       clear hK;go_simp
       refine⟨trivial,?_⟩;refine(CallsIn.inRound l (callsIn_wide.2 (Yq.out wc.drew _ _ (OwnV.kept Yt.out (below_drewN (ZQ wc.heap.size wc) 1))))).mono ?_;rintro e w4 ⟨rfl,hb4'⟩;have bv:Below wc.heap.size wc w4:=(below_drewN (ZQ wc.heap.size wc) 1).trans hb4';obtain⟨⟨q1,q2⟩,⟨q3,q4⟩⟩:=(i7.out.kept bv).cells;have b9:=ae bv;clear bv hb4';dsimp only
       refine HK.out _ _ ?_;clear HK K;try simp only[Act.put,Z3,Z0,Z2]
       refine wpAnyIn_ready (rs:=[3]) (by kernel_rfl) (by simp) ?_;refine AllReadyIn.cons rfl (fun K hK=>?_) ?_
       ·have HK:=ae hK
        clear hK;go_simp
        refine⟨trivial,?_⟩;refine(CallsIn.inRound l (callsIn_wide.2 (RV.out w4))).mono ?_;rintro e w5 ⟨⟨v5,rfl,o5⟩,hb5'⟩;have bq:Below wc.heap.size wc w5:=ai b9.out hb5';obtain⟨⟨q1,q2⟩,⟨q3,q4⟩⟩:=(i7.out.kept bq).cells;have dH:=ae o5;have aR:=ae bq;clear o5 bq hb5';dsimp only
        refine HK.out _ _ ?_;clear HK K;try simp only[Act.put,Z3,Z0,Z2]
        refine wpAnyIn_ready (rs:=[4]) (by kernel_rfl) (by simp) ?_;refine AllReadyIn.cons rfl (fun K hK=>?_) ?_
        ·have HK:=ae hK
         clear hK;rw[if_pos (by rfl)];refine db _ _ rfl A.heap.size _ _ M3 SB rfl (i7.out.kept aR.out).2.2.2.2.1 rfl dH.out.sv t6 (by omega) (ZZ oM.out.size aR.out.size) ?_;intro v6 w6 o6 g6 e6;obtain⟨a6,cap6,oK,_,_⟩:=aM o6;rw[ZT]at oK;subst oK;obtain⟨⟨f1,f2⟩,iy,iz⟩:=(i7.out.kept aR.out).swap.app (ZZ oM.out.size aR.out.size) o6 g6 e6;have uI:=ae iy.swap;have BC:=ae iz;have kB:=ae g6;clear o6 g6 e6 iy iz;refine HK.out _ _ ?_;clear HK K;try simp only[Act.put,Z3,Z0,Z2]
         refine wpAnyIn_ready (rs:=[5]) (by kernel_rfl) (by simp) ?_;refine AllReadyIn.cons rfl (fun K hK=>?_) ?_
         ·have HK:=ae hK
          clear hK;go_simp
          refine HK.out _ _ ?_;clear HK K;try simp only[Act.put,Z3,Z0,Z2]
          refine wpAnyIn_done (by kernel_rfl) ?_ _;gi_wp2
          go_roundw
          case rel =>
           have p9:k+1<=fs.length:=aB;have kz:Value.int .i64 ((k:Int)+1)=Value.int .i64 ((k+1:Nat):Int):=by simp
           exact⟨k+1,_,_,p9,kz,pm.out _ _ _ uI.out,⟨(i7.out.kept aR.out).swap.other kB.out ((aR.out.block _ oL.out.1.lt).trans oL.out.1) (by decide) (by decide),(i7.out.kept aR.out).swap.other kB.out ((aR.out.block _ oL.out.2.lt).trans oL.out.2) (by decide) (by decide)⟩,(UX.out.trans (ec aR.out)).trans ((i7.out.kept aR.out).swap.keeps kB.out),(oM.out.trans (aR.out.mono oM.out.size)).trans BC.out⟩
          case measure=>exact Zl.out
         exact AllReadyIn.nil
        exact AllReadyIn.nil
       exact AllReadyIn.nil
      exact AllReadyIn.nil
     exact AllReadyIn.nil
    refine AllReadyIn.cons rfl (fun K hK=>?_) ?_
    ·have HK:=ae hK
     clear hK;go_simp
     refine HK.out _ _ ?_;clear HK K;try simp only[Act.put,Z3,Z0,Z2]
     refine wpAnyIn_ready (rs:=[0,2]) (by kernel_rfl) (by simp) ?_;refine AllReadyIn.cons rfl (fun K hK=>?_) ?_
     ·have HK:=ae hK
      clear hK;go_simp
      refine HK.out _ _ ?_;clear HK K;try simp only[Act.put,Z3,Z0,Z2]
      refine wpAnyIn_ready (rs:=[2]) (by kernel_rfl) (by simp) ?_;refine AllReadyIn.cons rfl (fun K hK=>?_) ?_
      ·have HK:=ae hK
       clear hK;go_simp
       refine⟨trivial,?_⟩;refine(CallsIn.inRound l (callsIn_wide.2 (Yq.out wc.drew _ _ (OwnV.kept Yt.out (below_drewN (ZQ wc.heap.size wc) 1))))).mono ?_;rintro e w4 ⟨rfl,hb4'⟩;have bv:Below wc.heap.size wc w4:=(below_drewN (ZQ wc.heap.size wc) 1).trans hb4';obtain⟨⟨q1,q2⟩,⟨q3,q4⟩⟩:=(i7.out.kept bv).cells;have b9:=ae bv;clear bv hb4';dsimp only
       refine HK.out _ _ ?_;clear HK K;try simp only[Act.put,Z3,Z0,Z2]
       refine wpAnyIn_ready (rs:=[3]) (by kernel_rfl) (by simp) ?_;refine AllReadyIn.cons rfl (fun K hK=>?_) ?_
       ·have HK:=ae hK
        clear hK;go_simp
        refine⟨trivial,?_⟩;refine(CallsIn.inRound l (callsIn_wide.2 (RV.out w4))).mono ?_;rintro e w5 ⟨⟨v5,rfl,o5⟩,hb5'⟩;have bq:Below wc.heap.size wc w5:=ai b9.out hb5';obtain⟨⟨q1,q2⟩,⟨q3,q4⟩⟩:=(i7.out.kept bq).cells;have dH:=ae o5;have aR:=ae bq;clear o5 bq hb5';dsimp only
        refine HK.out _ _ ?_;clear HK K;try simp only[Act.put,Z3,Z0,Z2]
        refine wpAnyIn_ready (rs:=[4]) (by kernel_rfl) (by simp) ?_;refine AllReadyIn.cons rfl (fun K hK=>?_) ?_
        ·have HK:=ae hK
         clear hK;rw[if_pos (by rfl)];refine db _ _ rfl A.heap.size _ _ M3 SB rfl (i7.out.kept aR.out).2.2.2.2.1 rfl dH.out.sv t6 (by omega) (ZZ oM.out.size aR.out.size) ?_;intro v6 w6 o6 g6 e6;obtain⟨a6,cap6,oK,_,_⟩:=aM o6;rw[ZT]at oK;subst oK;obtain⟨⟨f1,f2⟩,iy,iz⟩:=(i7.out.kept aR.out).swap.app (ZZ oM.out.size aR.out.size) o6 g6 e6;have uI:=ae iy.swap;have BC:=ae iz;have kB:=ae g6;clear o6 g6 e6 iy iz;refine HK.out _ _ ?_;clear HK K;try simp only[Act.put,Z3,Z0,Z2]
         refine wpAnyIn_ready (rs:=[5]) (by kernel_rfl) (by simp) ?_;refine AllReadyIn.cons rfl (fun K hK=>?_) ?_
         ·have HK:=ae hK
          clear hK;go_simp
          refine HK.out _ _ ?_;clear HK K;try simp only[Act.put,Z3,Z0,Z2]
          refine wpAnyIn_done (by kernel_rfl) ?_ _;gi_wp2
          go_roundw
          case rel =>
           have p9:k+1<=fs.length:=aB;have kz:Value.int .i64 ((k:Int)+1)=Value.int .i64 ((k+1:Nat):Int):=by simp
           exact⟨k+1,_,_,p9,kz,pm.out _ _ _ uI.out,⟨(i7.out.kept aR.out).swap.other kB.out ((aR.out.block _ oL.out.1.lt).trans oL.out.1) (by decide) (by decide),(i7.out.kept aR.out).swap.other kB.out ((aR.out.block _ oL.out.2.lt).trans oL.out.2) (by decide) (by decide)⟩,(UX.out.trans (ec aR.out)).trans ((i7.out.kept aR.out).swap.keeps kB.out),(oM.out.trans (aR.out.mono oM.out.size)).trans BC.out⟩
          case measure=>exact Zl.out
         exact AllReadyIn.nil
        exact AllReadyIn.nil
       exact AllReadyIn.nil
      exact AllReadyIn.nil
     refine AllReadyIn.cons rfl (fun K hK=>?_) ?_
     ·have HK:=ae hK
      clear hK;go_simp
      refine⟨trivial,?_⟩;refine(CallsIn.inRound l (callsIn_wide.2 (Yq.out wc.drew _ _ (OwnV.kept Yt.out (below_drewN (ZQ wc.heap.size wc) 1))))).mono ?_;rintro e w4 ⟨rfl,hb4'⟩;have bv:Below wc.heap.size wc w4:=(below_drewN (ZQ wc.heap.size wc) 1).trans hb4';obtain⟨⟨q1,q2⟩,⟨q3,q4⟩⟩:=(i7.out.kept bv).cells;have b9:=ae bv;clear bv hb4';dsimp only
      refine HK.out _ _ ?_;clear HK K;try simp only[Act.put,Z3,Z0,Z2]
      refine wpAnyIn_ready (rs:=[0,3]) (by kernel_rfl) (by simp) ?_;refine AllReadyIn.cons rfl (fun K hK=>?_) ?_
      ·have HK:=ae hK
       clear hK;go_simp
       refine HK.out _ _ ?_;clear HK K;try simp only[Act.put,Z3,Z0,Z2]
       refine wpAnyIn_ready (rs:=[3]) (by kernel_rfl) (by simp) ?_;refine AllReadyIn.cons rfl (fun K hK=>?_) ?_
       ·have HK:=ae hK
        clear hK;go_simp
        refine⟨trivial,?_⟩;refine(CallsIn.inRound l (callsIn_wide.2 (RV.out w4))).mono ?_;rintro e w5 ⟨⟨v5,rfl,o5⟩,hb5'⟩;have bq:Below wc.heap.size wc w5:=ai b9.out hb5';obtain⟨⟨q1,q2⟩,⟨q3,q4⟩⟩:=(i7.out.kept bq).cells;have dH:=ae o5;have aR:=ae bq;clear o5 bq hb5';dsimp only
        refine HK.out _ _ ?_;clear HK K;try simp only[Act.put,Z3,Z0,Z2]
        refine wpAnyIn_ready (rs:=[4]) (by kernel_rfl) (by simp) ?_;refine AllReadyIn.cons rfl (fun K hK=>?_) ?_
        ·have HK:=ae hK
         clear hK;rw[if_pos (by rfl)];refine db _ _ rfl A.heap.size _ _ M3 SB rfl (i7.out.kept aR.out).2.2.2.2.1 rfl dH.out.sv t6 (by omega) (ZZ oM.out.size aR.out.size) ?_;intro v6 w6 o6 g6 e6;obtain⟨a6,cap6,oK,_,_⟩:=aM o6;rw[ZT]at oK;subst oK;obtain⟨⟨f1,f2⟩,iy,iz⟩:=(i7.out.kept aR.out).swap.app (ZZ oM.out.size aR.out.size) o6 g6 e6;have uI:=ae iy.swap;have BC:=ae iz;have kB:=ae g6;clear o6 g6 e6 iy iz;refine HK.out _ _ ?_;clear HK K;try simp only[Act.put,Z3,Z0,Z2]
         refine wpAnyIn_ready (rs:=[5]) (by kernel_rfl) (by simp) ?_;refine AllReadyIn.cons rfl (fun K hK=>?_) ?_
         ·have HK:=ae hK
          clear hK;go_simp
          refine HK.out _ _ ?_;clear HK K;try simp only[Act.put,Z3,Z0,Z2]
          refine wpAnyIn_done (by kernel_rfl) ?_ _;gi_wp2
          go_roundw
          case rel =>
           have p9:k+1<=fs.length:=aB;have kz:Value.int .i64 ((k:Int)+1)=Value.int .i64 ((k+1:Nat):Int):=by simp
           exact⟨k+1,_,_,p9,kz,pm.out _ _ _ uI.out,⟨(i7.out.kept aR.out).swap.other kB.out ((aR.out.block _ oL.out.1.lt).trans oL.out.1) (by decide) (by decide),(i7.out.kept aR.out).swap.other kB.out ((aR.out.block _ oL.out.2.lt).trans oL.out.2) (by decide) (by decide)⟩,(UX.out.trans (ec aR.out)).trans ((i7.out.kept aR.out).swap.keeps kB.out),(oM.out.trans (aR.out.mono oM.out.size)).trans BC.out⟩
          case measure=>exact Zl.out
         exact AllReadyIn.nil
        exact AllReadyIn.nil
       exact AllReadyIn.nil
      refine AllReadyIn.cons rfl (fun K hK=>?_) ?_
      ·have HK:=ae hK
       clear hK;go_simp
       refine⟨trivial,?_⟩;refine(CallsIn.inRound l (callsIn_wide.2 (RV.out w4))).mono ?_;rintro e w5 ⟨⟨v5,rfl,o5⟩,hb5'⟩;have bq:Below wc.heap.size wc w5:=ai b9.out hb5';obtain⟨⟨q1,q2⟩,⟨q3,q4⟩⟩:=(i7.out.kept bq).cells;have dH:=ae o5;have aR:=ae bq;clear o5 bq hb5';dsimp only
       refine HK.out _ _ ?_;clear HK K;try simp only[Act.put,Z3,Z0,Z2]
       refine wpAnyIn_ready (rs:=[0]) (by kernel_rfl) (by simp) ?_;refine AllReadyIn.cons rfl (fun K hK=>?_) ?_
       ·have HK:=ae hK
        clear hK;go_simp
        refine HK.out _ _ ?_;clear HK K;try simp only[Act.put,Z3,Z0,Z2]
        refine wpAnyIn_ready (rs:=[4]) (by kernel_rfl) (by simp) ?_;refine AllReadyIn.cons rfl (fun K hK=>?_) ?_
        ·have HK:=ae hK
         clear hK;rw[if_pos (by rfl)];refine db _ _ rfl A.heap.size _ _ M3 SB rfl (i7.out.kept aR.out).2.2.2.2.1 rfl dH.out.sv t6 (by omega) (ZZ oM.out.size aR.out.size) ?_;intro v6 w6 o6 g6 e6;obtain⟨a6,cap6,oK,_,_⟩:=aM o6;rw[ZT]at oK;subst oK;obtain⟨⟨f1,f2⟩,iy,iz⟩:=(i7.out.kept aR.out).swap.app (ZZ oM.out.size aR.out.size) o6 g6 e6;have uI:=ae iy.swap;have BC:=ae iz;have kB:=ae g6;clear o6 g6 e6 iy iz;refine HK.out _ _ ?_;clear HK K;try simp only[Act.put,Z3,Z0,Z2]
         refine wpAnyIn_ready (rs:=[5]) (by kernel_rfl) (by simp) ?_;refine AllReadyIn.cons rfl (fun K hK=>?_) ?_
         ·have HK:=ae hK
          clear hK;go_simp
          refine HK.out _ _ ?_;clear HK K;try simp only[Act.put,Z3,Z0,Z2]
          refine wpAnyIn_done (by kernel_rfl) ?_ _;gi_wp2
          go_roundw
          case rel =>
           have p9:k+1<=fs.length:=aB;have kz:Value.int .i64 ((k:Int)+1)=Value.int .i64 ((k+1:Nat):Int):=by simp
           exact⟨k+1,_,_,p9,kz,pm.out _ _ _ uI.out,⟨(i7.out.kept aR.out).swap.other kB.out ((aR.out.block _ oL.out.1.lt).trans oL.out.1) (by decide) (by decide),(i7.out.kept aR.out).swap.other kB.out ((aR.out.block _ oL.out.2.lt).trans oL.out.2) (by decide) (by decide)⟩,(UX.out.trans (ec aR.out)).trans ((i7.out.kept aR.out).swap.keeps kB.out),(oM.out.trans (aR.out.mono oM.out.size)).trans BC.out⟩
          case measure=>exact Zl.out
         exact AllReadyIn.nil
        exact AllReadyIn.nil
       exact AllReadyIn.nil
      exact AllReadyIn.nil
     exact AllReadyIn.nil
    exact AllReadyIn.nil
   ·obtain rfl:k=fs.length:=by omega
    have gJ:¬ ((fs.length:Nat):Int)<(fs.length:Int):=by omega
    gi_wp2
    refine⟨HKOr.out,⟨(show _=_ from HPQr.out.1).trans (show _=_ from HPQ.out.1).symm,(show _=_ from HPQr.out.2).trans (show _=_ from HPQ.out.2).symm⟩,⟨⟨u1,u2,?_⟩,HPQr.out.1,HPQr.out.2⟩,HBAr.out⟩;have h9:=HBXr.out;rw[← ZD.out,← J6.out]at h9;exact h9
 case done =>
  rintro D ys W hD rfl ⟨⟨⟨v1,v2,BD⟩,SP,ur⟩,zR⟩ hK
  have hG1:([67,70,49]++(List.range (nps g rs.length)).flatMap fun j=>eL fs (prt g rs j) fs.length).length<=50000000:=by
   have h1:=iv (m:=172800) (fun j=>ZZ (lW (fun k kz=>eV (dy.part g j) hk (by rw[bY];omega) kz) (ZR _)).1 (by omega)) (List.range (nps g rs.length));have h2:=jW (n:=rs.length) eQ ph;rw[jbs]at h1;rw[ZT];simp only[ZW,jad];have:172800*nps g rs.length<=172800*256:=jaL _ h2;omega
  have hG2:(F2++(List.range (nps g rs.length)).flatMap fun j=>ftK fs (prt g rs j) fs.length).length<=500000:=by
   have h1:=iv (m:=1360) (fun j=>ZZ (ow (dy.part g j) (by rw[bY];omega) (fun k kz=>eV (dy.part g j) hk (by rw[bY];omega) kz) (ZR _)).1 (by omega)) (List.range (nps g rs.length));have h2:=jW (n:=rs.length) eQ ph;rw[jbs]at h1;rw[ZT];have:1360*nps g rs.length<=1360*256:=jaL _ h2;omega
  have hG3:0<(F2++(List.range (nps g rs.length)).flatMap fun j=>ftK fs (prt g rs j) fs.length).length:=by
   rw[← hF2,← hF1];simp only[ZT];omega
  have Bw:Hid (et id fs rs g=([67,70,49]++(List.range (nps g rs.length)).flatMap fun j=>eL fs (prt g rs j) fs.length)++(F2++(List.range (nps g rs.length)).flatMap fun j=>ftK fs (prt g rs j) fs.length)++le4 (F2++(List.range (nps g rs.length)).flatMap fun j=>ftK fs (prt g rs j) fs.length).length):=ae (by
   unfold et lQ fV;rw[← hF2,← hF1,HE0.out,VW.out,HE2.out];simp only[Z4];rfl)
  generalize ([67,70,49]++(List.range (nps g rs.length)).flatMap fun j=>eL fs (prt g rs j) fs.length)=G1 at *;generalize (F2++(List.range (nps g rs.length)).flatMap fun j=>ftK fs (prt g rs j) fs.length)=G2 at *;obtain⟨⟨q1,q2⟩,⟨q3,q4⟩⟩:=BD.cells;obtain⟨a8,cap8,rfl⟩:=BD.2.2.2.1.slice;obtain⟨a9,cap9,rfl⟩:=BD.2.2.2.2.1.slice;have l8:=ae BD;have eW:=ae zR;have HK:=ae hK;have HL4:=ae (Ly G2.length (by omega));clear BD zR hK SP ur;go_wp2_with (first | (at_builtin;refine jA rfl _ _ rfl A.heap.size _ _ G1 G2 rfl l8.out.2.2.2.1 rfl l8.out.2.2.2.2.1.sv hG3 ?n1 ?n2 ?_))
  case n1=>omega
  case n2=>exact eW.out.size
  intro v10 w10 o10 g10 e10;obtain⟨a10,cap10,hv10,_,_⟩:=aM o10;subst hv10;obtain⟨⟨f1,f2⟩,RY,V2⟩:=l8.out.app eW.out.size o10 g10 e10;have hk10:=l8.out.keeps (v':=.slice a10 (G1++G2).length cap10) g10;have MI:=ae RY;have ux:=ae (eW.out.trans V2);have HK10:=ae (hk10.same D _ HK.out rfl);have hG12:(G1++G2).length<=50500000:=by rw[ZT];omega
  generalize hGG:G1++G2=GG at *;clear o10 g10 e10 V2 hk10 l8 eW HK q1 q2 q3 q4;obtain⟨⟨q1,q2⟩,⟨q3,q4⟩⟩:=RY.cells;clear RY;go_wp2_with fail;generalize hV:w10.setCell ⟨Bb,0,none⟩ (.slice a10 GG.length cap10)=V at *;clear hV f1 f2
  have HC9:Hid (∀ U,Below V.heap.size V U->Calls Tryz.prog 85 #[.int .i64 (G2.length:Int)] U fun e w'=>∃ v,e=.returned v/\Sv w' v (aE .u8 (le4 G2.length))/\Below V.heap.size V w'/\w'.cell? ⟨Bb,0,none⟩=some (.slice a10 GG.length cap10)/\w'.cell? ⟨Bf,0,none⟩=some (.slice a9 G2.length cap9)):=ae (fun U hU=>by
   refine(HL4.out U).mono ?_;rintro e w' ⟨⟨v,rfl,ho⟩,hb⟩;have h9:=(MI.out.kept (ai hU hb)).cells;exact⟨v,rfl,ho.sv,ai hU hb,h9.1.1,h9.2.1⟩)
  have hL4:0<(le4 G2.length).length:=by simp[le4]
  have hL4':(le4 G2.length).length=4:=by simp[le4]
  generalize le4 G2.length=LL at *;refine wp_region_noPanic ?_
  go_region_law (first
   | (refine lm (by rfl) _ _ (by rfl) A.heap.size _ _ GG LL (by rfl) ?_ (by rfl) dH.out hL4 ?_ ?_ ?_;exact(MI.out.kept aR.out).2.2.2.1;omega;exact ZZ ux.out.size aR.out.size;intro v6 w6 o6 g6 e6;have mU:=ae o6;have HK6:=ae ((MI.out.kept aR.out).2.2.2.1.deferred g6 (LD aR.out HK10.out) rfl);have i5:=ae ((ux.out.trans (aR.out.mono ux.out.size)).trans ((MI.out.kept aR.out).2.2.2.1.below g6 (ZZ ux.out.size aR.out.size)));clear o6 g6 e6)
   | (go_simp;go_at_call 85;refine(HC9.out _ ?_).mono ?_;exact below_drewN (ZQ V.heap.size V) 1;rintro e w5 ⟨v5,rfl,fT,bq,Yo,hc6⟩;have dH:=ae fT;have aR:=ae bq;clear fT bq;dsimp only)
   | fail)
  all_goals refine NoPanic.normal ?_
  all_goals go_wp2_with fail
  all_goals refine⟨by simp,.inl ⟨_,_,rfl,run_takeDeferred HK6.out,?_⟩⟩
  all_goals refine⟨_,results_tmp rfl _ _ _,⟨_,rfl,?_⟩,?_⟩
  all_goals first
   | exact ai cC.out (i5.out.trans (belowK_b (w:=Z) hAZs _ D _ _ hD HK6.out rfl rfl))
   | (rw[Bw.out];exact aZ (ownsRow_putObj mU.out _ HK6.out rfl) cC.out.size)
 case stop =>
  rintro D c pre W _ _ h _;exact h.elim
end Go.Proofs.YtpljdjmpamjkhaaGreatDoor
