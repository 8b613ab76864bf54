import Derived.Test.YtpljdjmpamjkhaaGreatDoorWaq
import Derived.Deep.CutRange
set_option linter.unusedVariables false
set_option linter.unusedSimpArgs false
set_option maxRecDepth 100000
set_option maxHeartbeats 8000000
namespace Go.Proofs.YtpljdjmpamjkhaaGreatDoor
open Go.RowKit Go.Lib Go.Shelf
attribute [local go_sem] Oper.semAt_some
theorem Pn{w:World}{fv rv:Value}{fs:List Fd}{rs:List Row}{id g:Nat}(hs:Sf w fv fs)(hr:Rv w rv rs)(ho:∀ f∈fs,Okf f)(nl:id<4294967296)(hl:fs.length<=8)(hz:szs fs<5000)(pS:rs.length<=256)(ew:1<=g)(gx:g<=64)
  (dK:jv fs rs) (hk:∀ f∈fs,1<=f.2.2.1/\f.2.2.1<=3) :
  Calls Tryz.prog 41 #[.agg #[.int .u32 (id:Int),fv],rv,.int .i64 (g:Int)] w (dJ w (dw id fs rs g)):=by
 obtain⟨fa,fcap,rfl,hfc1,hfc2⟩:=hs.form;obtain⟨ra,rcap,rfl,KS,zc,hra⟩:=hr.form;have UH:jaH (∀ U:World,Sf U (.slice fa fs.length fcap) fs->Calls Tryz.prog 80 #[.agg #[.int .u32 (id:Int),.slice fa fs.length fcap]] U (dJ U (ep id fs))):=ae (fun U h=>Nd h ho (by omega) hz id nl);have jI:=ae (fun n (hn:n<9223372036854775808)=>nS n hn);have cO:=aj w (.cells #[.int .u32 (id:Int),.slice fa fs.length fcap] 25);have kk:=Zb w (.cells #[.int .u32 (id:Int),.slice fa fs.length fcap] 25);have ll:(w.alloc (.cells #[.int .u32 (id:Int),.slice fa fs.length fcap] 25)).heap.size=w.heap.size+1:=YB _ _;have HS:=ae (hs.kept cO);have HR:=ae (hr.kept cO);have Uc:=ae hr;have bV:=ae cO
 have HT:jaH (∀ U,Below (w.alloc (.cells #[.int .u32 (id:Int),.slice fa fs.length fcap] 25)).heap.size (w.alloc (.cells #[.int .u32 (id:Int),.slice fa fs.length fcap] 25)) U->U.cell? ⟨w.heap.size,0,none⟩=some (.int .u32 (id:Int))/\U.cell? ⟨w.heap.size,1,none⟩=some (.slice fa fs.length fcap)):=ae (fun U hb=>by
  have hU:=(hb.block w.heap.size (by omega)).trans kk;constructor<;>(rw[an hU];rfl))
 generalize hA:w.alloc (.cells #[.int .u32 (id:Int),.slice fa fs.length fcap] 25)=A at *;have uX:=ae ll
 have Le:(convert 30 30 (.slice (some ⟨A.heap.size,0,none⟩) 3 3)).run Tryz.prog (A.alloc (.cells #[.int .u8 67,.int .u8 70,.int .u8 49] 5))=.ok (.slice (some ⟨A.heap.size,0,none⟩) 3 3) (A.alloc (.cells #[.int .u8 67,.int .u8 70,.int .u8 49] 5 (3,4))) :=
  run_convert_bytes_const A 30 5 #[.int .u8 67,.int .u8 70,.int .u8 49] 3 3 Tryz.underlying30 Tryz.underlying5
 obtain⟨c0,c1⟩:=HT.o A (Yz _ _);clear hs hr cO kk ll;refine(callsIn_wide (n:=3)).1 ?_;refine callsIn_of_wp_marks Tryz.func41 rfl trivial ?_ rfl;refine wpIn_wide.2 ?_;simp only[Tryz.ntmps41,List.size_toArray,YI,Zc,Nat.reduceAdd,Nat.reduceSub,Array.replicate_succ,Array.replicate_zero,List.push_toArray,List.append_toArray,ZD,Zv];have hbX:Below A.heap.size A ((A.alloc (.cells #[.int .u8 67,.int .u8 70,.int .u8 49] 5 (3,4))).alloc (.cells #[.slice (some ⟨A.heap.size,0,none⟩) 3 3] 30)):=((Yz A.heap.size A).alloc (YA _) _).alloc (by rw[YB];omega) _;obtain⟨d0,d1⟩:=HT.o _ hbX
 have hLit:LitM ((A.alloc (.cells #[.int .u8 67,.int .u8 70,.int .u8 49] 5 (3,4))).alloc (.cells #[.slice (some ⟨A.heap.size,0,none⟩) 3 3] 30)) A.heap.size (.slice (some ⟨A.heap.size,0,none⟩) 3 3) [67,70,49]:=by
  refine⟨rfl,_,rfl,YA _,?_⟩;exact(Below.heap_alloc (A.alloc (.cells #[.int .u8 67,.int .u8 70,.int .u8 49] 5 (3,4))) _ A.heap.size (by rw[YB];omega)).trans (Zb A _)
 have hBox:Boxed ((A.alloc (.cells #[.int .u8 67,.int .u8 70,.int .u8 49] 5 (3,4))).alloc (.cells #[.slice (some ⟨A.heap.size,0,none⟩) 3 3] 30)) (A.heap.size+1) 30 (.slice (some ⟨A.heap.size,0,none⟩) 3 3):=by
  have:=Boxed.new (A.alloc (.cells #[.int .u8 67,.int .u8 70,.int .u8 49] 5 (3,4))) 30 (.slice (some ⟨A.heap.size,0,none⟩) 3 3);rwa[YB]at this
 go_wp2_with fail;generalize hX:((A.alloc (.cells #[.int .u8 67,.int .u8 70,.int .u8 49] 5 (3,4))).alloc (.cells #[.slice (some ⟨A.heap.size,0,none⟩) 3 3] 30))=X at *;clear hX Le;refine(UH.o _ (HS.o.kept hbX)).mono ?_;rintro e w1 ⟨⟨v1,rfl,o1⟩,aA⟩;obtain⟨a1,cap1,rfl,_,_⟩:=aM o1;have hbY:=ag aA (aj w1 (.cells #[.slice a1 (ep id fs).length cap1] 30));have hboxY:=Boxed.new w1 30 (.slice a1 (ep id fs).length cap1);have hltX:A.heap.size+1<X.heap.size:=hBox.lt;have hX1:=aA.size
 have hBX:Bx2 (w1.alloc (.cells #[.slice a1 (ep id fs).length cap1] 30)) A.heap.size (A.heap.size+1) w1.heap.size (.slice (some ⟨A.heap.size,0,none⟩) 3 3) (.slice a1 (ep id fs).length cap1) [67,70,49] (ep id fs):=by
  refine⟨(hbY.block (A.heap.size+1) hltX).trans hBox,hboxY,by omega,(fJ.kept (Or.inr hLit) hbY),Or.inl (aG.kept (bE o1 hbX.size) (aj w1 (.cells #[.slice a1 (ep id fs).length cap1] 30))),fun g hg h2=>?_,by omega,by omega⟩;have:=(World.ownsRow.lt o1 g h2).1;simp[Value.ownBlock]at hg
  omega
 have hbAY:Below A.heap.size A (w1.alloc (.cells #[.slice a1 (ep id fs).length cap1] 30)):=ag hbX hbY
 have zh:jaH ((ep id fs).length<=10100):=ae (by
  have h1:=gj ho (by omega) hz fs.length;rw[YK]at h1;have h2:=iF id (by omega);have h3:=iF fs.length (by omega);unfold ep;simp only[YC];omega)
 generalize hP0:ep id fs=P0 at *;have HE0:=ae hP0;clear hP0;go_upto_region 3 with fail
 clear aA o1 hbY hboxY hLit hBox hbX d0 d1 c0 c1 hX1;generalize hY:w1.alloc (.cells #[.slice a1 P0.length cap1] 30)=Y at *;generalize w1.heap.size=Bf at *;have fb:A.heap.size+1≠Bf:=hBX.2.2.1;generalize A.heap.size+1=Bb at *;clear hY hltX;have sk:=ae hBX;have jB:=ae hbAY;obtain⟨⟨q1,q2⟩,⟨q3,q4⟩⟩:=hBX.cells;clear hBX hbAY;have hup1:=tz rs.length;have hul1:=cC (n:=rs.length) (by omega);have hup2:=tz g;have hul2:=cC (n:=g) (by omega);have Qp:rs.length<9223372036854775808:=by omega
 have Kv:g<9223372036854775808:=by omega
 have HCN0:=ae jI.o;have HCN1:=ae (jI.o rs.length Qp);have HCN2:=ae (jI.o g Kv);generalize hP1:uv rs.length=P1 at *;generalize hP2:uv g=P2 at *;have UR:=ae hP1;have Xk:=ae hP2;clear hP1 hP2
 have Rk:jaH (∀ U,Below Y.heap.size Y U->Calls Tryz.prog 81 #[.int .i64 (rs.length:Int)] U fun e w'=>∃ v,e=.returned v/\Sv w' v (az .u8 (P1))/\Below Y.heap.size Y w'/\w'.cell? ⟨Bf,0,none⟩=some (.slice a1 P0.length cap1)):=ae (fun U hU=>by
  refine(HCN1.o U).mono ?_;rintro e w' ⟨⟨v,rfl,ho⟩,hb⟩;exact⟨v,rfl,ho.sv,ag hU hb,((sk.o.kept (ag hU hb)).cells.2).1⟩)
 go_cut [] from 15 (fun wx=>∃ v2,Bx2 wx A.heap.size Bb Bf (.slice (some ⟨A.heap.size,0,none⟩) 3 3) v2 [67,70,49] (P0++P1)/\Below A.heap.size A wx)
 case first =>
  refine wp_region_noPanic ?_
  go_region_law (first
   | (refine ki (by rfl) _ _ (by rfl) A.heap.size _ _ (P0) (P1) (by rfl) ?_ (by rfl) cQ.o hup1 ?_ ?_ ?_;exact(sk.o.kept aJ.o).2.2.2.2.1;(have:=zh.o;omega);exact YG jB.o.size aJ.o.size;intro v6 w6 o6 g6 e6;obtain⟨a6,cap6,mR,_,_⟩:=aM o6;rw[YC]at mR;subst mR;obtain⟨⟨f1,f2⟩,gy,gz⟩:=(sk.o.kept aJ.o).swap.app (YG jB.o.size aJ.o.size) o6 g6 e6;have vd:=ae gy.swap;have zd:=ae (gz);clear o6 g6 e6 gy gz)
   | (go_simp;go_at_call 81;refine(Rk.o _ ?_).mono ?_;exact ak (Yz Y.heap.size Y) 1;rintro e w5 ⟨v5,rfl,eo,bv,Xl⟩;have cQ:=ae eo;have aJ:=ae bv;clear eo bv;dsimp only)
   | fail)
  all_goals refine NoPanic.normal ?_
  all_goals (go_wp2_with fail;go_meet;exact⟨_,vd.o,(jB.o.trans (aJ.o.mono jB.o.size)).trans zd.o⟩)
 clear Rk sk jB q1 q2 q3 q4
 case rest =>
 obtain⟨v2,hBX,hbA⟩:=hcut;go_upto_region 4 with fail
 obtain⟨⟨q1,q2⟩,⟨q3,q4⟩⟩:=hBX.cells;obtain⟨a2,cap2,rfl⟩:=hBX.2.2.2.2.1.slice;have sk:=ae hBX;have jB:=ae hbA;clear hBX hbA;have hF1l:(P0++P1).length<=10110:=by have:=zh.o;rw[YC];omega
 generalize hF1:P0++P1=F1 at *
 have Xa:jaH (∀ U,Below wc.heap.size wc U->Calls Tryz.prog 81 #[.int .i64 (g:Int)] U fun e w'=>∃ v,e=.returned v/\Sv w' v (az .u8 (P2))/\Below wc.heap.size wc w'/\w'.cell? ⟨Bf,0,none⟩=some (.slice a2 F1.length cap2)):=ae (fun U hU=>by
  refine(HCN2.o U).mono ?_;rintro e w' ⟨⟨v,rfl,ho⟩,hb⟩;exact⟨v,rfl,ho.sv,ag hU hb,((sk.o.kept (ag hU hb)).cells.2).1⟩)
 go_cut [] from 15 (fun wx=>∃ v2,Bx2 wx A.heap.size Bb Bf (.slice (some ⟨A.heap.size,0,none⟩) 3 3) v2 [67,70,49] (F1++P2)/\Below A.heap.size A wx)
 case first =>
  refine wp_region_noPanic ?_
  go_region_law (first
   | (refine ki (by rfl) _ _ (by rfl) A.heap.size _ _ (F1) (P2) (by rfl) ?_ (by rfl) cQ.o hup2 ?_ ?_ ?_;exact(sk.o.kept aJ.o).2.2.2.2.1;(omega);exact YG jB.o.size aJ.o.size;intro v6 w6 o6 g6 e6;obtain⟨a6,cap6,mR,_,_⟩:=aM o6;rw[YC]at mR;subst mR;obtain⟨⟨f1,f2⟩,gy,gz⟩:=(sk.o.kept aJ.o).swap.app (YG jB.o.size aJ.o.size) o6 g6 e6;have vd:=ae gy.swap;have zd:=ae (gz);clear o6 g6 e6 gy gz)
   | (go_simp;go_at_call 81;refine(Xa.o _ ?_).mono ?_;exact ak (Yz wc.heap.size wc) 1;rintro e w5 ⟨v5,rfl,eo,bv,Xl⟩;have cQ:=ae eo;have aJ:=ae bv;clear eo bv;dsimp only)
   | fail)
  all_goals refine NoPanic.normal ?_
  all_goals (go_wp2_with fail;go_meet;exact⟨_,vd.o,(jB.o.trans (aJ.o.mono jB.o.size)).trans zd.o⟩)
 clear Xa sk jB q1 q2 q3 q4
 case rest =>
 obtain⟨v3,hBX,hbA⟩:=hcut;have hF2l:(F1++P2).length<=10120:=by rw[YC];omega
 generalize hF2:F1++P2=F2 at *;have sk:=ae hBX;have jB:=ae hbA;clear hBX hbA;have HCH:=ae (JR ra rs.length rcap g ew);go_wp2_with fail;refine(HCH.o _).mono ?_;rintro e w7 ⟨rfl,rfl⟩;go_wp2_with fail;have hbZ:Below wc.heap.size wc ((wc.alloc (.cells #[.slice ra rs.length rcap] 34)).alloc (.cells #[.int .i64 (g:Int)] 3)):=ag (aj _ _) (aj _ _);have hp1:Boxed ((wc.alloc (.cells #[.slice ra rs.length rcap] 34)).alloc (.cells #[.int .i64 (g:Int)] 3)) wc.heap.size 34 (.slice ra rs.length rcap):=(Boxed.new wc 34 _).alloc _
 have re:Boxed ((wc.alloc (.cells #[.slice ra rs.length rcap] 34)).alloc (.cells #[.int .i64 (g:Int)] 3)) (wc.heap.size+1) 3 (.int .i64 (g:Int)):=by
  have:=Boxed.new (wc.alloc (.cells #[.slice ra rs.length rcap] 34)) 3 (.int .i64 (g:Int));rwa[YB]at this
 have hBZ:=sk.o.kept hbZ;have hAZ:=ag jB.o hbZ;generalize (wc.alloc (.cells #[.slice ra rs.length rcap] 34)).alloc (.cells #[.int .i64 (g:Int)] 3)=Z at *;clear hbZ sk jB;generalize wc.heap.size+1=q at *;generalize wc.heap.size=p at *;obtain⟨PV,Rr,hseq⟩:=JT Uc.o pS ew gx 2 (by omega);have hseqZ:=hseq p q Z hp1.cell re.cell hp1.lt re.lt;have Rr:=ae Rr;have hpZ:=hp1.lt;have hqZ:=re.lt;have hAZs:=hAZ.size;clear hseq;refine wpIn_wide.1 (?_:Code.wpIn Fence.wide 3 _ _ _ _ _)
 refine wpIn_rangeFunc_ownF (F:=Fence.wide) (n:=3) rfl (by omega) (gf:=121) (lb:=#[.pointer (some ⟨p,0,none⟩),.pointer (some ⟨q,0,none⟩)]) rfl trivial (enters_of Tryz.func121 (by kernel_rfl) rfl) hseqZ (fun h k=>KC.trans h k) (fun W l o o' hl _ _ _=>⟨World.putObj_heap_other (show p≠l by omega),World.putObj_heap_other (show q≠l by omega)⟩) (Yz _ _) (fun _=>rfl)
  (fun pre W=>((∃ v1 v2,Bx2 W A.heap.size Bb Bf v1 v2 ([67,70,49]++pre.flatMap fun j=>fq fs (prt g rs j) fs.length) (F2++pre.flatMap fun j=>ftK fs (prt g rs j) fs.length))/\Boxed W p 34 (.slice ra rs.length rcap)/\Boxed W q 3 (.int .i64 (g:Int)))/\Below A.heap.size A W)
  (fun _ _ _=>False) ?hI (fun _ _ _ _ _ h _ _=>h) ?h0
  (fun j=>{ tmps:=#[(.agg #[.int .u32 (id:Int),.slice fa fs.length fcap]),(.slice ra rs.length rcap),(.int .i64 (g:Int)),(.pointer (some ⟨w.heap.size,0,none⟩)),undef,undef,(.slice none 0 0),(.pointer (some ⟨Bb,0,none⟩)),(.pointer (some ⟨Bf,0,none⟩)),(PV j),undef,undef,undef,undef,undef,u15,u16,u17,u18,u19,u20,u21,u22,u23,u24,u25,u26,u27,(.slice ra rs.length rcap),(.int .i64 (g:Int)),(.func (.func 121) #[] #[.pointer (some ⟨p,0,none⟩),.pointer (some ⟨q,0,none⟩)]),(PV j),u32,u33,u34,u35,u36,u37,u38,u39,u40,u41,u42,u43,u44,u45,u46,u47,u48,u49,u50,u51,u52,u53,u54,u55,u56,u57,u58,u59,u60,u61,u62,u63,u64,u65,u66,u67,u68,u69,u70,u71],defers:=[] }) ?assign ?body ?done ?stop
 case hI =>
  rintro pre X Y' row ⟨⟨⟨v1,v2,h1⟩,h2,h3⟩,h4⟩ hg hr;refine⟨⟨⟨v1,v2,h1.turned hg (fun r e=>(hr r e).2)⟩,?_,?_⟩,h4.grown hg h4.size (fun k e=>YG hAZs (hr k e).1)⟩
  ·refine h2.kept hg (fun e=>?_)
   obtain⟨_,o,ho,hc⟩:=hr _ e.symm;rw[show X.heap[p]?=_ from h2]at ho;cases ho
   cases hc
  ·refine h3.kept hg (fun e=>?_)
   obtain⟨_,o,ho,hc⟩:=hr _ e.symm;rw[show X.heap[q]?=_ from h3]at ho;cases ho
   cases hc
 case h0=>exact⟨⟨⟨_,_,by simpa using hBZ⟩,hp1,re⟩,hAZ⟩
 case assign =>
  intro l x W K hK;gi_wp2
  exact hK
 case body =>
  rintro l pre j W ⟨⟨⟨v1,v2,ze⟩,UL,KN⟩,Lp⟩ ar;have HT1:jaH (∀ U,Below A.heap.size A U->U.cell? ⟨w.heap.size,1,none⟩=some (.slice fa fs.length fcap)/\Sf U (.slice fa fs.length fcap) fs):=ae (fun U hU=>⟨(HT.o U hU).2,HS.o.kept hU⟩);have mO:=bZ g rs j;have Xm:(prt g rs j).length<=256:=by omega
  have Fu:=ae (fun k jJ=>eE (dK.part g j) hk Xm (k:=k) jJ);have WD:=ae (fun k (jJ:k<=fs.length)=>(pH Fu.o jJ).1);have uZ:=ae (fun k (jJ:k<=fs.length)=>(tc (dK.part g j) Xm Fu.o jJ).1);have co:=ae (fun k=>Ge (dK.part g j) Xm k);have Qv:=ae (fun k=>iY (dK.part g j) k);have Fv:jaH (∀ U,Below A.heap.size A U->Rv U (PV j) (prt g rs j)):=ae (fun U hU=>Rr.o U (HR.o.kept hU) j);have Kz:jaH (∀ r∈prt g rs j,r.length=fs.length):=ae (fun r hr=>ox (dK.part g j r hr).1);have HKN:jaH (∀ k (h:k<fs.length),lA fs k=fs[k].2.2.1):=ae (fun k h=>lR h);have Cg:=ae (mz fs (prt g rs j));have uV:=ae (pi fs (prt g rs j));have Yj:jaH (([67,70,49]++(pre++[j]).flatMap fun j=>fq fs (prt g rs j) fs.length)=([67,70,49]++pre.flatMap fun j=>fq fs (prt g rs j) fs.length)++fq fs (prt g rs j) fs.length):=ae (by simp[ZS]);have Gz:jaH ((F2++(pre++[j]).flatMap fun j=>ftK fs (prt g rs j) fs.length)=(F2++pre.flatMap fun j=>ftK fs (prt g rs j) fs.length)++ftK fs (prt g rs j) fs.length):=ae (by simp[ZS]);have hpre:pre.length<=256:=by have:=kI (n:=rs.length) ew pS;omega
  have hG1:([67,70,49]++pre.flatMap fun j=>fq fs (prt g rs j) fs.length).length<=50000000:=by
   have h1:=jw (m:=172800) (fun j=>YG (pH (fun k jJ=>eE (dK.part g j) hk (by rw[bZ];omega) jJ) (YA _)).1 (by omega)) pre;rw[YC];simp only[YI,Zc];have:172800*pre.length<=172800*256:=ZT _ hpre;omega
  have hG2:(F2++pre.flatMap fun j=>ftK fs (prt g rs j) fs.length).length<=500000:=by
   have h1:=jw (m:=1360) (fun j=>YG (tc (dK.part g j) (by rw[bZ];omega) (fun k jJ=>eE (dK.part g j) hk (by rw[bZ];omega) jJ) (YA _)).1 (by omega)) pre;rw[YC];have:1360*pre.length<=1360*256:=ZT _ hpre;omega
  have sk:=ae ze;have HPQ:=ae (And.intro UL KN);have jB:=ae Lp;obtain⟨jy,xz⟩:=HT1.o W Lp;clear ze UL KN Lp hseqZ hBZ hAZ ar mO xz Rr;generalize ([67,70,49]++pre.flatMap fun j=>fq fs (prt g rs j) fs.length)=G1 at *;generalize (F2++pre.flatMap fun j=>ftK fs (prt g rs j) fs.length)=G2 at *;generalize prt g rs j=PT at *;generalize PV j=pv at *;gi_wp2
  gi_loopw [35] (fun i wr=>∃(k:Nat) (v1 v2:Value),k<=fs.length/\i=.int .i64 (k:Int)/\Bx2 wr A.heap.size Bb Bf v1 v2 (G1++fq fs PT k) (G2++ftK fs PT k)/\(Boxed wr p 34 (.slice ra rs.length rcap)/\Boxed wr q 3 (.int .i64 (g:Int)))/\KeepsOthers W wr/\Below A.heap.size A wr) (fun i _=>fs.length-(intOf i).toNat)
  case atStart=>exact⟨0,v1,v2,by omega,rfl,by simpa [fq,ftK]using sk.o,HPQ.o,KeepsOthers.refl _,jB.o⟩
  case round =>
   obtain⟨k,u1,u2,te,rfl,ze,hpq,hko,Lp⟩:=hrel;have HBXr:=ae ze;have HPQr:=ae hpq;have HKOr:=ae hko;have HBAr:=ae Lp;clear ze hpq hko Lp;by_cases ar:k<fs.length
   ·have hlt':(k:Int)<(fs.length:Int):=by omega
    obtain⟨hd1,xz⟩:=HT1.o wr HBAr.o;obtain⟨bb,off,rfl,hb,x0,x1,x2,x3⟩:=xz.at ar;clear xz;have eZ:=Fu.o k ar;have gV:=WD.o k te;have ja:=uZ.o k te;have Qe:=HKN.o k ar;gi_wp2
    have Qk:jaH (∀ r∈PT,k<r.length):=ae (fun r hr=>by rw[Kz.o r hr];exact ar);rw[Qe]at eZ;have HBSk:jaH (fq fs PT (k+1)=fq fs PT k++dS fs[k].2.2.1 (bq PT k)):=ae (by rw[Cg.o,Qe]);have HFSk:jaH (ftK fs PT (k+1)=ftK fs PT k++(uv (dS fs[k].2.2.1 (bq PT k)).length++eS (bJ (bq PT k)))):=ae (by rw[uV.o,Qe]);clear Qe;generalize fs[k]=f at *;obtain⟨f0,f1,f2,f3⟩:=f;simp only at x0 x1 x2 x3 eZ HBSk HFSk ⊢;have aA:=aj wr (.cells #[.int .u32 (f0:Int),.string f1,.int .u8 (f2:Int),.bool f3] 81);obtain⟨_,_,z2,_⟩:=gN wr (.int .u32 (f0:Int)) (.string f1) (.int .u8 (f2:Int)) (.bool f3) 81;have bh:wr.heap.size<(wr.alloc (.cells #[.int .u32 (f0:Int),.string f1,.int .u8 (f2:Int),.bool f3] 81)).heap.size:=by rw[YB];omega
    generalize wr.alloc (.cells #[.int .u32 (f0:Int),.string f1,.int .u8 (f2:Int),.bool f3] 81)=R1 at *;have aN:=ae aA;clear aA x0 x1 x2 x3 hd1;refine⟨trivial,?_⟩;refine(CallsIn.inRound l (callsIn_wide.2 (pD (Fv.o R1 (ag HBAr.o aN.o)) (by omega) Qk.o))).mono ?_;rintro e R2 ⟨⟨vv,rfl,o2⟩,ay⟩;have fV:=o2.sv;have pU:jaH (∀ b,vv.ownBlock=some b->b<R2.heap.size):=ae (fun b hb=>(World.ownsRow.lt o2 b hb).2);obtain⟨av,capv,rfl,_,_⟩:=aM o2;have z2':=(ay.cell (p:=⟨wr.heap.size,2,none⟩) bh).trans z2;have aK:=ae (ag aN.o ay);have Cc:=ae fV;have hWC:=nG eZ;have fT:=ie eZ
    have Xf:0<(dS f2 (bq PT k)).length:=by
     unfold dS iD;rw[YC];split
     ·rw[YI]
      omega
     ·rw[Zj]
      omega
    have KL:=ae (xg fV pU.o (Qv.o k) f2);rw[hWC]at KL;obtain⟨t1,t2,t3⟩:=co.o k;have Xn:jaH (∀(U:World) (B:Nat) (u:Value),OwnV U B u (bq PT k)->Calls Tryz.prog 59 #[u] U fun e w'=>e=.returned (kU (bJ (bq PT k)))/\Below U.heap.size U w'):=ae (fun U B u hU=>qF hU.sv (Qv.o k) (by rw[bR];omega));have HOV:=ae o2;have QJ:=ae (fun U=>lT t1 t2 t3 U);obtain⟨t4,t5⟩:=qP t1 t2 t3;have t6:0<(eS (bJ (bq PT k))).length:=by unfold eS;simp only[YC,Zj];omega
    have hcu:=cC (n:=(dS f2 (bq PT k)).length) (by omega);have Ud:=tz (dS f2 (bq PT k)).length;have Ue:=ae (HCN0.o (dS f2 (bq PT k)).length (by omega));have hcll:=(ie eZ).1;have Xg:(bq PT k).length=PT.length:=bR _ _;clear hWC fT t1 t2 t3 t5 ay o2 fV z2 eZ;generalize hCM:dS f2 (bq PT k)=CM at *;generalize hSM:bJ (bq PT k)=SM at *;generalize hSB:eS SM=SB at *;generalize hUV:uv CM.length=UV at *;have HUV:=ae hUV;have WV:=ae hSB;have Qg:=ae hSM;have XY:=ae hCM;clear hCM hSM hSB hUV Xg;generalize hCS:bq PT k=CS at *;have HCS:=ae hCS;clear hCS;gi_wp2
    refine⟨trivial,?_⟩;refine(CallsIn.inRound l (callsIn_wide.2 KL.o)).mono ?_;rintro e R3 ⟨⟨vc,rfl,o3⟩,aO⟩;obtain⟨ac,capc,rfl,_,_⟩:=aM o3;have bT:=ae (ag aK.o aO);have dx:=ae o3;have QK:=HBXr.o.kept bT.o;have hba3:=ag HBAr.o bT.o;obtain⟨⟨q1,q2⟩,⟨q3,q4⟩⟩:=QK.cells;obtain⟨a1',cap1',rfl⟩:=QK.2.2.2.1.slice;obtain⟨a2',cap2',rfl⟩:=QK.2.2.2.2.1.slice;have KT:=ae QK;have Xo:=ae hba3;have HOV3:=ae (HOV.o.kept aO);clear QK hba3 o3 aO;have hg1l:(G1++fq fs PT k).length<=50200000:=by rw[YC];omega
    have hg2l:(G2++ftK fs PT k).length<=510000:=by rw[YC];omega
    generalize hM1:G1++fq fs PT k=M1 at *;generalize hM2:G2++ftK fs PT k=M2 at *;have QH:=ae hM1;have KJ:=ae hM2;clear hM1 hM2;gi_wp2_with (first | (gi_at_builtin;refine pG rfl _ _ rfl A.heap.size _ _ M1 CM rfl KT.o.2.2.2.1 rfl dx.o.sv Xf ?n3 ?n4 ?_))
    case n3=>omega
    case n4=>exact Xo.o.size
    intro vb4 R4 o4 g4 e4;generalize hN1:M1++CM=N1 at *;have Fj:=ae hN1;clear hN1;obtain⟨a4,cap4,hv4,_,_⟩:=aM o4;subst hv4;obtain⟨⟨y1,y2⟩,Xp,hbl4⟩:=KT.o.app Xo.o.size o4 g4 e4;have HPQ4:=ae (And.intro (KT.o.other (v':=.slice a4 N1.length cap4) g4 ((bT.o.block _ HPQr.o.1.lt).trans HPQr.o.1) (by decide) (by decide)) (KT.o.other (v':=.slice a4 N1.length cap4) g4 ((bT.o.block _ HPQr.o.2.lt).trans HPQr.o.2) (by decide) (by decide)));have HKO4:=ae ((HKOr.o.trans (dq bT.o)).trans (KT.o.keeps (v':=.slice a4 N1.length cap4) g4));have HBX4:=ae Xp;have HOV4:=ae (KT.o.keepV (v':=.slice a4 N1.length cap4) g4 HOV3.o (by decide) (by decide));have HBA4:=ae (Xo.o.trans hbl4);clear o4 g4 e4 hbl4 q1 q2 q3 q4;obtain⟨⟨q1,q2⟩,⟨q3,q4⟩⟩:=Xp.cells;clear Xp;gi_wp2
    have gA:=HBX4;have md:=HPQ4;have QL:=HOV4;have QM:=HKO4;have me:=HBA4;clear HBX4 HPQ4 HOV4 HKO4 HBA4 y1 y2;generalize R4.setCell ⟨Bb,0,none⟩ (.slice a4 N1.length cap4)=V4 at *;gi_cut [] from 72 (fun wx=>∃ v2,Bx2 wx A.heap.size Bb Bf (.slice a4 N1.length cap4) v2 N1 (M2++UV)/\(Boxed wx p 34 (.slice ra rs.length rcap)/\Boxed wx q 3 (.int .i64 (g:Int)))/\OwnV wx R1.heap.size (.slice av CS.length capv) CS/\KeepsOthers W wx/\Below A.heap.size A wx)
    case first =>
     refine wpIn_region_any (by kernel_rfl) ?_;change wpAnyIn _ _ _ _ _ _ _ _ _ V4.drew
     refine wpAnyIn_ready (rs:=[0,1]) (by kernel_rfl) (by simp) ?_;refine AllReadyIn.cons rfl (fun K hK=>?_) ?_
     ·have HK:=ae hK
      clear hK;go_simp
      refine HK.o _ _ ?_;clear HK K;try simp only[Act.put,YM,YJ,YL]
      refine wpAnyIn_ready (rs:=[1]) (by kernel_rfl) (by simp) ?_;refine AllReadyIn.cons rfl (fun K hK=>?_) ?_
      ·have HK:=ae hK
       clear hK;go_simp
       refine HK.o _ _ ?_;clear HK K;try simp only[Act.put,YM,YJ,YL]
       refine wpAnyIn_ready (rs:=[2]) (by kernel_rfl) (by simp) ?_;refine AllReadyIn.cons rfl (fun K hK=>?_) ?_
       ·have HK:=ae hK
        clear hK;go_simp
        refine HK.o _ _ ?_;clear HK K;try simp only[Act.put,YM,YJ,YL]
        refine wpAnyIn_ready (rs:=[3]) (by kernel_rfl) (by simp) ?_;refine AllReadyIn.cons rfl (fun K hK=>?_) ?_
        ·have HK:=ae hK
         clear hK;go_simp
         refine⟨trivial,?_⟩;refine(CallsIn.inRound l (callsIn_wide.2 (Ue.o V4.drew))).mono ?_;rintro e w5 ⟨⟨v5,rfl,o5⟩,hb5'⟩;have bv:Below V4.heap.size V4 w5:=(ak (Yz V4.heap.size V4) 1).trans hb5';obtain⟨⟨q1,q2⟩,⟨q3,q4⟩⟩:=(gA.o.kept bv).cells;have cQ:=ae o5;have aJ:=ae bv;clear o5 bv hb5';dsimp only
         refine HK.o _ _ ?_;clear HK K;try simp only[Act.put,YM,YJ,YL]
         refine wpAnyIn_ready (rs:=[4]) (by kernel_rfl) (by simp) ?_;refine AllReadyIn.cons rfl (fun K hK=>?_) ?_
         ·have HK:=ae hK
          clear hK;rw[Yy (by rfl)];refine cy _ _ rfl A.heap.size _ _ M2 UV rfl (gA.o.kept aJ.o).2.2.2.2.1 rfl cQ.o.sv Ud (by omega) (YG me.o.size aJ.o.size) ?_;intro v6 w6 o6 g6 e6;obtain⟨a6,cap6,mR,_,_⟩:=aM o6;rw[YC]at mR;subst mR;obtain⟨⟨f1,f2⟩,gy,gz⟩:=(gA.o.kept aJ.o).swap.app (YG me.o.size aJ.o.size) o6 g6 e6;have vd:=ae gy.swap;have zd:=ae gz;have jC:=ae g6;clear o6 g6 e6 gy gz;refine HK.o _ _ ?_;clear HK K;try simp only[Act.put,YM,YJ,YL]
          refine wpAnyIn_ready (rs:=[5]) (by kernel_rfl) (by simp) ?_;refine AllReadyIn.cons rfl (fun K hK=>?_) ?_
          ·have HK:=ae hK
           clear hK;go_simp
           refine HK.o _ _ ?_;clear HK K;try simp only[Act.put,YM,YJ,YL]
           refine wpAnyIn_done (by kernel_rfl) ?_ _;gi_wp2
           gi_meet
           exact⟨_,vd.o,⟨(gA.o.kept aJ.o).swap.other jC.o ((aJ.o.block _ md.o.1.lt).trans md.o.1) (by decide) (by decide),(gA.o.kept aJ.o).swap.other jC.o ((aJ.o.block _ md.o.2.lt).trans md.o.2) (by decide) (by decide)⟩,(gA.o.kept aJ.o).swap.keepV jC.o (OwnV.kept QL.o aJ.o) (by decide) (by decide),(QM.o.trans (dq aJ.o)).trans ((gA.o.kept aJ.o).swap.keeps jC.o),(me.o.trans (aJ.o.mono me.o.size)).trans zd.o⟩
          exact AllReadyIn.nil
         exact AllReadyIn.nil
        exact AllReadyIn.nil
       exact AllReadyIn.nil
      exact AllReadyIn.nil
     refine AllReadyIn.cons rfl (fun K hK=>?_) ?_
     ·have HK:=ae hK
      clear hK;go_simp
      refine HK.o _ _ ?_;clear HK K;try simp only[Act.put,YM,YJ,YL]
      refine wpAnyIn_ready (rs:=[0,2]) (by kernel_rfl) (by simp) ?_;refine AllReadyIn.cons rfl (fun K hK=>?_) ?_
      ·have HK:=ae hK
       clear hK;go_simp
       refine HK.o _ _ ?_;clear HK K;try simp only[Act.put,YM,YJ,YL]
       refine wpAnyIn_ready (rs:=[2]) (by kernel_rfl) (by simp) ?_;refine AllReadyIn.cons rfl (fun K hK=>?_) ?_
       ·have HK:=ae hK
        clear hK;go_simp
        refine HK.o _ _ ?_;clear HK K;try simp only[Act.put,YM,YJ,YL]
        refine wpAnyIn_ready (rs:=[3]) (by kernel_rfl) (by simp) ?_;refine AllReadyIn.cons rfl (fun K hK=>?_) ?_
        ·have HK:=ae hK
         clear hK;go_simp
         refine⟨trivial,?_⟩;refine(CallsIn.inRound l (callsIn_wide.2 (Ue.o V4.drew))).mono ?_;rintro e w5 ⟨⟨v5,rfl,o5⟩,hb5'⟩;have bv:Below V4.heap.size V4 w5:=(ak (Yz V4.heap.size V4) 1).trans hb5';obtain⟨⟨q1,q2⟩,⟨q3,q4⟩⟩:=(gA.o.kept bv).cells;have cQ:=ae o5;have aJ:=ae bv;clear o5 bv hb5';dsimp only
         refine HK.o _ _ ?_;clear HK K;try simp only[Act.put,YM,YJ,YL]
         refine wpAnyIn_ready (rs:=[4]) (by kernel_rfl) (by simp) ?_;refine AllReadyIn.cons rfl (fun K hK=>?_) ?_
         ·have HK:=ae hK
          clear hK;rw[Yy (by rfl)];refine cy _ _ rfl A.heap.size _ _ M2 UV rfl (gA.o.kept aJ.o).2.2.2.2.1 rfl cQ.o.sv Ud (by omega) (YG me.o.size aJ.o.size) ?_;intro v6 w6 o6 g6 e6;obtain⟨a6,cap6,mR,_,_⟩:=aM o6;rw[YC]at mR;subst mR;obtain⟨⟨f1,f2⟩,gy,gz⟩:=(gA.o.kept aJ.o).swap.app (YG me.o.size aJ.o.size) o6 g6 e6;have vd:=ae gy.swap;have zd:=ae gz;have jC:=ae g6;clear o6 g6 e6 gy gz;refine HK.o _ _ ?_;clear HK K;try simp only[Act.put,YM,YJ,YL]
          refine wpAnyIn_ready (rs:=[5]) (by kernel_rfl) (by simp) ?_;refine AllReadyIn.cons rfl (fun K hK=>?_) ?_
          ·have HK:=ae hK
           clear hK;go_simp
           refine HK.o _ _ ?_;clear HK K;try simp only[Act.put,YM,YJ,YL]
           refine wpAnyIn_done (by kernel_rfl) ?_ _;gi_wp2
           gi_meet
           exact⟨_,vd.o,⟨(gA.o.kept aJ.o).swap.other jC.o ((aJ.o.block _ md.o.1.lt).trans md.o.1) (by decide) (by decide),(gA.o.kept aJ.o).swap.other jC.o ((aJ.o.block _ md.o.2.lt).trans md.o.2) (by decide) (by decide)⟩,(gA.o.kept aJ.o).swap.keepV jC.o (OwnV.kept QL.o aJ.o) (by decide) (by decide),(QM.o.trans (dq aJ.o)).trans ((gA.o.kept aJ.o).swap.keeps jC.o),(me.o.trans (aJ.o.mono me.o.size)).trans zd.o⟩
          exact AllReadyIn.nil
         exact AllReadyIn.nil
        exact AllReadyIn.nil
       exact AllReadyIn.nil
      refine AllReadyIn.cons rfl (fun K hK=>?_) ?_
      ·have HK:=ae hK
       clear hK;go_simp
       refine HK.o _ _ ?_;clear HK K;try simp only[Act.put,YM,YJ,YL]
       refine wpAnyIn_ready (rs:=[0,3]) (by kernel_rfl) (by simp) ?_;refine AllReadyIn.cons rfl (fun K hK=>?_) ?_
       ·have HK:=ae hK
        clear hK;go_simp
        refine HK.o _ _ ?_;clear HK K;try simp only[Act.put,YM,YJ,YL]
        refine wpAnyIn_ready (rs:=[3]) (by kernel_rfl) (by simp) ?_;refine AllReadyIn.cons rfl (fun K hK=>?_) ?_
        ·have HK:=ae hK
         clear hK;go_simp
         refine⟨trivial,?_⟩;refine(CallsIn.inRound l (callsIn_wide.2 (Ue.o V4.drew))).mono ?_;rintro e w5 ⟨⟨v5,rfl,o5⟩,hb5'⟩;have bv:Below V4.heap.size V4 w5:=(ak (Yz V4.heap.size V4) 1).trans hb5';obtain⟨⟨q1,q2⟩,⟨q3,q4⟩⟩:=(gA.o.kept bv).cells;have cQ:=ae o5;have aJ:=ae bv;clear o5 bv hb5';dsimp only
         refine HK.o _ _ ?_;clear HK K;try simp only[Act.put,YM,YJ,YL]
         refine wpAnyIn_ready (rs:=[4]) (by kernel_rfl) (by simp) ?_;refine AllReadyIn.cons rfl (fun K hK=>?_) ?_
         ·have HK:=ae hK
          clear hK;rw[Yy (by rfl)];refine cy _ _ rfl A.heap.size _ _ M2 UV rfl (gA.o.kept aJ.o).2.2.2.2.1 rfl cQ.o.sv Ud (by omega) (YG me.o.size aJ.o.size) ?_;intro v6 w6 o6 g6 e6;obtain⟨a6,cap6,mR,_,_⟩:=aM o6;rw[YC]at mR;subst mR;obtain⟨⟨f1,f2⟩,gy,gz⟩:=(gA.o.kept aJ.o).swap.app (YG me.o.size aJ.o.size) o6 g6 e6;have vd:=ae gy.swap;have zd:=ae gz;have jC:=ae g6;clear o6 g6 e6 gy gz;refine HK.o _ _ ?_;clear HK K;try simp only[Act.put,YM,YJ,YL]
          refine wpAnyIn_ready (rs:=[5]) (by kernel_rfl) (by simp) ?_;refine AllReadyIn.cons rfl (fun K hK=>?_) ?_
          ·have HK:=ae hK
           clear hK;go_simp
           refine HK.o _ _ ?_;clear HK K;try simp only[Act.put,YM,YJ,YL]
           refine wpAnyIn_done (by kernel_rfl) ?_ _;gi_wp2
           gi_meet
           exact⟨_,vd.o,⟨(gA.o.kept aJ.o).swap.other jC.o ((aJ.o.block _ md.o.1.lt).trans md.o.1) (by decide) (by decide),(gA.o.kept aJ.o).swap.other jC.o ((aJ.o.block _ md.o.2.lt).trans md.o.2) (by decide) (by decide)⟩,(gA.o.kept aJ.o).swap.keepV jC.o (OwnV.kept QL.o aJ.o) (by decide) (by decide),(QM.o.trans (dq aJ.o)).trans ((gA.o.kept aJ.o).swap.keeps jC.o),(me.o.trans (aJ.o.mono me.o.size)).trans zd.o⟩
          exact AllReadyIn.nil
         exact AllReadyIn.nil
        exact AllReadyIn.nil
       refine AllReadyIn.cons rfl (fun K hK=>?_) ?_
       ·have HK:=ae hK
        clear hK;go_simp
        refine⟨trivial,?_⟩;refine(CallsIn.inRound l (callsIn_wide.2 (Ue.o V4.drew))).mono ?_;rintro e w5 ⟨⟨v5,rfl,o5⟩,hb5'⟩;have bv:Below V4.heap.size V4 w5:=(ak (Yz V4.heap.size V4) 1).trans hb5';obtain⟨⟨q1,q2⟩,⟨q3,q4⟩⟩:=(gA.o.kept bv).cells;have cQ:=ae o5;have aJ:=ae bv;clear o5 bv hb5';dsimp only
        refine HK.o _ _ ?_;clear HK K;try simp only[Act.put,YM,YJ,YL]
        refine wpAnyIn_ready (rs:=[0]) (by kernel_rfl) (by simp) ?_;refine AllReadyIn.cons rfl (fun K hK=>?_) ?_
        ·have HK:=ae hK
         clear hK;go_simp
         refine HK.o _ _ ?_;clear HK K;try simp only[Act.put,YM,YJ,YL]
         refine wpAnyIn_ready (rs:=[4]) (by kernel_rfl) (by simp) ?_;refine AllReadyIn.cons rfl (fun K hK=>?_) ?_
         ·have HK:=ae hK
          clear hK;rw[Yy (by rfl)];refine cy _ _ rfl A.heap.size _ _ M2 UV rfl (gA.o.kept aJ.o).2.2.2.2.1 rfl cQ.o.sv Ud (by omega) (YG me.o.size aJ.o.size) ?_;intro v6 w6 o6 g6 e6;obtain⟨a6,cap6,mR,_,_⟩:=aM o6;rw[YC]at mR;subst mR;obtain⟨⟨f1,f2⟩,gy,gz⟩:=(gA.o.kept aJ.o).swap.app (YG me.o.size aJ.o.size) o6 g6 e6;have vd:=ae gy.swap;have zd:=ae gz;have jC:=ae g6;clear o6 g6 e6 gy gz;refine HK.o _ _ ?_;clear HK K;try simp only[Act.put,YM,YJ,YL]
          refine wpAnyIn_ready (rs:=[5]) (by kernel_rfl) (by simp) ?_;refine AllReadyIn.cons rfl (fun K hK=>?_) ?_
          ·have HK:=ae hK
           clear hK;go_simp
           refine HK.o _ _ ?_;clear HK K;try simp only[Act.put,YM,YJ,YL]
           refine wpAnyIn_done (by kernel_rfl) ?_ _;gi_wp2
           gi_meet
           exact⟨_,vd.o,⟨(gA.o.kept aJ.o).swap.other jC.o ((aJ.o.block _ md.o.1.lt).trans md.o.1) (by decide) (by decide),(gA.o.kept aJ.o).swap.other jC.o ((aJ.o.block _ md.o.2.lt).trans md.o.2) (by decide) (by decide)⟩,(gA.o.kept aJ.o).swap.keepV jC.o (OwnV.kept QL.o aJ.o) (by decide) (by decide),(QM.o.trans (dq aJ.o)).trans ((gA.o.kept aJ.o).swap.keeps jC.o),(me.o.trans (aJ.o.mono me.o.size)).trans zd.o⟩
          exact AllReadyIn.nil
         exact AllReadyIn.nil
        exact AllReadyIn.nil
       exact AllReadyIn.nil
      exact AllReadyIn.nil
     exact AllReadyIn.nil
    case rest =>
    obtain⟨vf,ze,hpq,hov,hko,Lp⟩:=hcut;have hg3l:(M2++UV).length<=510010:=by rw[YC];omega
    generalize hM3:M2++UV=M3 at *;have Xq:=ae hM3;clear hM3;obtain⟨⟨q1,q2⟩,⟨q3,q4⟩⟩:=ze.cells;obtain⟨af,capf,rfl⟩:=ze.2.2.2.2.1.slice;have gS:=ae ze;have mS:=ae hpq;have Xr:=ae hov;have Uf:=ae hko;have mT:=ae Lp;clear ze hpq hov hko Lp gA md QL QM me;gi_wp2
    have XU:jaH (fs.length-(intOf (.int .i64 ((k:Int)+1))).toNat<fs.length-(intOf (.int .i64 (k:Int))).toNat):=ae (by simp[intOf];omega)
    have nt:jaH (∀(U:World) (x1 x2:Value),Bx2 U A.heap.size Bb Bf x1 x2 N1 (M3++SB)->Bx2 U A.heap.size Bb Bf x1 x2 (G1++fq fs PT (k+1)) (G2++ftK fs PT (k+1))):=ae (fun U x1 x2 h9=>by
     rw[← Fj.o,← QH.o,← Xq.o,← KJ.o]at h9;rw[HBSk.o,HFSk.o];simpa using h9)
    refine wpIn_region_any (by kernel_rfl) ?_;change wpAnyIn _ _ _ _ _ _ _ _ _ wc.drew
    refine wpAnyIn_ready (rs:=[0,1]) (by kernel_rfl) (by simp) ?_;refine AllReadyIn.cons rfl (fun K hK=>?_) ?_
    ·have HK:=ae hK
     clear hK;go_simp
     refine HK.o _ _ ?_;clear HK K;try simp only[Act.put,YM,YJ,YL]
     refine wpAnyIn_ready (rs:=[1]) (by kernel_rfl) (by simp) ?_;refine AllReadyIn.cons rfl (fun K hK=>?_) ?_
     ·have HK:=ae hK
      clear hK;go_simp
      refine HK.o _ _ ?_;clear HK K;try simp only[Act.put,YM,YJ,YL]
      refine wpAnyIn_ready (rs:=[2]) (by kernel_rfl) (by simp) ?_;refine AllReadyIn.cons rfl (fun K hK=>?_) ?_
      ·have HK:=ae hK
       clear hK;go_simp
       refine⟨trivial,?_⟩;refine(CallsIn.inRound l (callsIn_wide.2 (Xn.o wc.drew _ _ (OwnV.kept Xr.o (ak (Yz wc.heap.size wc) 1))))).mono ?_;rintro e w4 ⟨rfl,hb4'⟩;have bm:Below wc.heap.size wc w4:=(ak (Yz wc.heap.size wc) 1).trans hb4';obtain⟨⟨q1,q2⟩,⟨q3,q4⟩⟩:=(gS.o.kept bm).cells;have cA:=ae bm;clear bm hb4';dsimp only
       refine HK.o _ _ ?_;clear HK K;try simp only[Act.put,YM,YJ,YL]
       refine wpAnyIn_ready (rs:=[3]) (by kernel_rfl) (by simp) ?_;refine AllReadyIn.cons rfl (fun K hK=>?_) ?_
       ·have HK:=ae hK
        clear hK;go_simp
        refine⟨trivial,?_⟩;refine(CallsIn.inRound l (callsIn_wide.2 (QJ.o w4))).mono ?_;rintro e w5 ⟨⟨v5,rfl,o5⟩,hb5'⟩;have bv:Below wc.heap.size wc w5:=ag cA.o hb5';obtain⟨⟨q1,q2⟩,⟨q3,q4⟩⟩:=(gS.o.kept bv).cells;have cQ:=ae o5;have aJ:=ae bv;clear o5 bv hb5';dsimp only
        refine HK.o _ _ ?_;clear HK K;try simp only[Act.put,YM,YJ,YL]
        refine wpAnyIn_ready (rs:=[4]) (by kernel_rfl) (by simp) ?_;refine AllReadyIn.cons rfl (fun K hK=>?_) ?_
        ·have HK:=ae hK
         clear hK;rw[Yy (by rfl)];refine cy _ _ rfl A.heap.size _ _ M3 SB rfl (gS.o.kept aJ.o).2.2.2.2.1 rfl cQ.o.sv t6 (by omega) (YG mT.o.size aJ.o.size) ?_;intro v6 w6 o6 g6 e6;obtain⟨a6,cap6,mR,_,_⟩:=aM o6;rw[YC]at mR;subst mR;obtain⟨⟨f1,f2⟩,gy,gz⟩:=(gS.o.kept aJ.o).swap.app (YG mT.o.size aJ.o.size) o6 g6 e6;have vd:=ae gy.swap;have zd:=ae gz;have jC:=ae g6;clear o6 g6 e6 gy gz;refine HK.o _ _ ?_;clear HK K;try simp only[Act.put,YM,YJ,YL]
         refine wpAnyIn_ready (rs:=[5]) (by kernel_rfl) (by simp) ?_;refine AllReadyIn.cons rfl (fun K hK=>?_) ?_
         ·have HK:=ae hK
          clear hK;go_simp
          refine HK.o _ _ ?_;clear HK K;try simp only[Act.put,YM,YJ,YL]
          refine wpAnyIn_done (by kernel_rfl) ?_ _;gi_wp2
          go_roundw
          case rel =>
           have sP:k+1<=fs.length:=ar;have jJ:Value.int .i64 ((k:Int)+1)=Value.int .i64 ((k+1:Nat):Int):=by simp
           exact⟨k+1,_,_,sP,jJ,nt.o _ _ _ vd.o,⟨(gS.o.kept aJ.o).swap.other jC.o ((aJ.o.block _ mS.o.1.lt).trans mS.o.1) (by decide) (by decide),(gS.o.kept aJ.o).swap.other jC.o ((aJ.o.block _ mS.o.2.lt).trans mS.o.2) (by decide) (by decide)⟩,(Uf.o.trans (dq aJ.o)).trans ((gS.o.kept aJ.o).swap.keeps jC.o),(mT.o.trans (aJ.o.mono mT.o.size)).trans zd.o⟩
          case measure=>exact XU.o
         exact AllReadyIn.nil
        exact AllReadyIn.nil
       exact AllReadyIn.nil
      exact AllReadyIn.nil
     exact AllReadyIn.nil
    refine AllReadyIn.cons rfl (fun K hK=>?_) ?_
    ·have HK:=ae hK
     clear hK;go_simp
     refine HK.o _ _ ?_;clear HK K;try simp only[Act.put,YM,YJ,YL]
     refine wpAnyIn_ready (rs:=[0,2]) (by kernel_rfl) (by simp) ?_;refine AllReadyIn.cons rfl (fun K hK=>?_) ?_
     ·have HK:=ae hK
      clear hK;go_simp
      refine HK.o _ _ ?_;clear HK K;try simp only[Act.put,YM,YJ,YL]
      refine wpAnyIn_ready (rs:=[2]) (by kernel_rfl) (by simp) ?_;refine AllReadyIn.cons rfl (fun K hK=>?_) ?_
      ·have HK:=ae hK
       clear hK;go_simp
       refine⟨trivial,?_⟩;refine(CallsIn.inRound l (callsIn_wide.2 (Xn.o wc.drew _ _ (OwnV.kept Xr.o (ak (Yz wc.heap.size wc) 1))))).mono ?_;rintro e w4 ⟨rfl,hb4'⟩;have bm:Below wc.heap.size wc w4:=(ak (Yz wc.heap.size wc) 1).trans hb4';obtain⟨⟨q1,q2⟩,⟨q3,q4⟩⟩:=(gS.o.kept bm).cells;have cA:=ae bm;clear bm hb4';dsimp only
       refine HK.o _ _ ?_;clear HK K;try simp only[Act.put,YM,YJ,YL]
       refine wpAnyIn_ready (rs:=[3]) (by kernel_rfl) (by simp) ?_;refine AllReadyIn.cons rfl (fun K hK=>?_) ?_
       ·have HK:=ae hK
        clear hK;go_simp
        refine⟨trivial,?_⟩;refine(CallsIn.inRound l (callsIn_wide.2 (QJ.o w4))).mono ?_;rintro e w5 ⟨⟨v5,rfl,o5⟩,hb5'⟩;have bv:Below wc.heap.size wc w5:=ag cA.o hb5';obtain⟨⟨q1,q2⟩,⟨q3,q4⟩⟩:=(gS.o.kept bv).cells;have cQ:=ae o5;have aJ:=ae bv;clear o5 bv hb5';dsimp only
        refine HK.o _ _ ?_;clear HK K;try simp only[Act.put,YM,YJ,YL]
        refine wpAnyIn_ready (rs:=[4]) (by kernel_rfl) (by simp) ?_;refine AllReadyIn.cons rfl (fun K hK=>?_) ?_
        ·have HK:=ae hK
         clear hK;rw[Yy (by rfl)];refine cy _ _ rfl A.heap.size _ _ M3 SB rfl (gS.o.kept aJ.o).2.2.2.2.1 rfl cQ.o.sv t6 (by omega) (YG mT.o.size aJ.o.size) ?_;intro v6 w6 o6 g6 e6;obtain⟨a6,cap6,mR,_,_⟩:=aM o6;rw[YC]at mR;subst mR;obtain⟨⟨f1,f2⟩,gy,gz⟩:=(gS.o.kept aJ.o).swap.app (YG mT.o.size aJ.o.size) o6 g6 e6;have vd:=ae gy.swap;have zd:=ae gz;have jC:=ae g6;clear o6 g6 e6 gy gz;refine HK.o _ _ ?_;clear HK K;try simp only[Act.put,YM,YJ,YL]
         refine wpAnyIn_ready (rs:=[5]) (by kernel_rfl) (by simp) ?_;refine AllReadyIn.cons rfl (fun K hK=>?_) ?_
         ·have HK:=ae hK
          clear hK;go_simp
          refine HK.o _ _ ?_;clear HK K;try simp only[Act.put,YM,YJ,YL]
          refine wpAnyIn_done (by kernel_rfl) ?_ _;gi_wp2
          go_roundw
          case rel =>
           have sP:k+1<=fs.length:=ar;have jJ:Value.int .i64 ((k:Int)+1)=Value.int .i64 ((k+1:Nat):Int):=by simp
           exact⟨k+1,_,_,sP,jJ,nt.o _ _ _ vd.o,⟨(gS.o.kept aJ.o).swap.other jC.o ((aJ.o.block _ mS.o.1.lt).trans mS.o.1) (by decide) (by decide),(gS.o.kept aJ.o).swap.other jC.o ((aJ.o.block _ mS.o.2.lt).trans mS.o.2) (by decide) (by decide)⟩,(Uf.o.trans (dq aJ.o)).trans ((gS.o.kept aJ.o).swap.keeps jC.o),(mT.o.trans (aJ.o.mono mT.o.size)).trans zd.o⟩
          case measure=>exact XU.o
         exact AllReadyIn.nil
        exact AllReadyIn.nil
       exact AllReadyIn.nil
      exact AllReadyIn.nil
     refine AllReadyIn.cons rfl (fun K hK=>?_) ?_
     ·have HK:=ae hK
      clear hK;go_simp
      refine⟨trivial,?_⟩;refine(CallsIn.inRound l (callsIn_wide.2 (Xn.o wc.drew _ _ (OwnV.kept Xr.o (ak (Yz wc.heap.size wc) 1))))).mono ?_;rintro e w4 ⟨rfl,hb4'⟩;have bm:Below wc.heap.size wc w4:=(ak (Yz wc.heap.size wc) 1).trans hb4';obtain⟨⟨q1,q2⟩,⟨q3,q4⟩⟩:=(gS.o.kept bm).cells;have cA:=ae bm;clear bm hb4';dsimp only
      refine HK.o _ _ ?_;clear HK K;try simp only[Act.put,YM,YJ,YL]
      refine wpAnyIn_ready (rs:=[0,3]) (by kernel_rfl) (by simp) ?_;refine AllReadyIn.cons rfl (fun K hK=>?_) ?_
      ·have HK:=ae hK
       clear hK;go_simp
       refine HK.o _ _ ?_;clear HK K;try simp only[Act.put,YM,YJ,YL]
       refine wpAnyIn_ready (rs:=[3]) (by kernel_rfl) (by simp) ?_;refine AllReadyIn.cons rfl (fun K hK=>?_) ?_
       ·have HK:=ae hK
        clear hK;go_simp
        refine⟨trivial,?_⟩;refine(CallsIn.inRound l (callsIn_wide.2 (QJ.o w4))).mono ?_;rintro e w5 ⟨⟨v5,rfl,o5⟩,hb5'⟩;have bv:Below wc.heap.size wc w5:=ag cA.o hb5';obtain⟨⟨q1,q2⟩,⟨q3,q4⟩⟩:=(gS.o.kept bv).cells;have cQ:=ae o5;have aJ:=ae bv;clear o5 bv hb5';dsimp only
        refine HK.o _ _ ?_;clear HK K;try simp only[Act.put,YM,YJ,YL]
        refine wpAnyIn_ready (rs:=[4]) (by kernel_rfl) (by simp) ?_;refine AllReadyIn.cons rfl (fun K hK=>?_) ?_
        ·have HK:=ae hK
         clear hK;rw[Yy (by rfl)];refine cy _ _ rfl A.heap.size _ _ M3 SB rfl (gS.o.kept aJ.o).2.2.2.2.1 rfl cQ.o.sv t6 (by omega) (YG mT.o.size aJ.o.size) ?_;intro v6 w6 o6 g6 e6;obtain⟨a6,cap6,mR,_,_⟩:=aM o6;rw[YC]at mR;subst mR;obtain⟨⟨f1,f2⟩,gy,gz⟩:=(gS.o.kept aJ.o).swap.app (YG mT.o.size aJ.o.size) o6 g6 e6;have vd:=ae gy.swap;have zd:=ae gz;have jC:=ae g6;clear o6 g6 e6 gy gz;refine HK.o _ _ ?_;clear HK K;try simp only[Act.put,YM,YJ,YL]
         refine wpAnyIn_ready (rs:=[5]) (by kernel_rfl) (by simp) ?_;refine AllReadyIn.cons rfl (fun K hK=>?_) ?_
         ·have HK:=ae hK
          clear hK;go_simp
          refine HK.o _ _ ?_;clear HK K;try simp only[Act.put,YM,YJ,YL]
          refine wpAnyIn_done (by kernel_rfl) ?_ _;gi_wp2
          go_roundw
          case rel =>
           have sP:k+1<=fs.length:=ar;have jJ:Value.int .i64 ((k:Int)+1)=Value.int .i64 ((k+1:Nat):Int):=by simp
           exact⟨k+1,_,_,sP,jJ,nt.o _ _ _ vd.o,⟨(gS.o.kept aJ.o).swap.other jC.o ((aJ.o.block _ mS.o.1.lt).trans mS.o.1) (by decide) (by decide),(gS.o.kept aJ.o).swap.other jC.o ((aJ.o.block _ mS.o.2.lt).trans mS.o.2) (by decide) (by decide)⟩,(Uf.o.trans (dq aJ.o)).trans ((gS.o.kept aJ.o).swap.keeps jC.o),(mT.o.trans (aJ.o.mono mT.o.size)).trans zd.o⟩
          case measure=>exact XU.o
         exact AllReadyIn.nil
        exact AllReadyIn.nil
       exact AllReadyIn.nil
      refine AllReadyIn.cons rfl (fun K hK=>?_) ?_
      ·have HK:=ae hK
       clear hK;go_simp
       refine⟨trivial,?_⟩;refine(CallsIn.inRound l (callsIn_wide.2 (QJ.o w4))).mono ?_;rintro e w5 ⟨⟨v5,rfl,o5⟩,hb5'⟩;have bv:Below wc.heap.size wc w5:=ag cA.o hb5';obtain⟨⟨q1,q2⟩,⟨q3,q4⟩⟩:=(gS.o.kept bv).cells;have cQ:=ae o5;have aJ:=ae bv;clear o5 bv hb5';dsimp only
       refine HK.o _ _ ?_;clear HK K;try simp only[Act.put,YM,YJ,YL]
       refine wpAnyIn_ready (rs:=[0]) (by kernel_rfl) (by simp) ?_;refine AllReadyIn.cons rfl (fun K hK=>?_) ?_
       ·have HK:=ae hK
        clear hK;go_simp
        refine HK.o _ _ ?_;clear HK K;try simp only[Act.put,YM,YJ,YL]
        refine wpAnyIn_ready (rs:=[4]) (by kernel_rfl) (by simp) ?_;refine AllReadyIn.cons rfl (fun K hK=>?_) ?_
        ·have HK:=ae hK
         clear hK;rw[Yy (by rfl)];refine cy _ _ rfl A.heap.size _ _ M3 SB rfl (gS.o.kept aJ.o).2.2.2.2.1 rfl cQ.o.sv t6 (by omega) (YG mT.o.size aJ.o.size) ?_;intro v6 w6 o6 g6 e6;obtain⟨a6,cap6,mR,_,_⟩:=aM o6;rw[YC]at mR;subst mR;obtain⟨⟨f1,f2⟩,gy,gz⟩:=(gS.o.kept aJ.o).swap.app (YG mT.o.size aJ.o.size) o6 g6 e6;have vd:=ae gy.swap;have zd:=ae gz;have jC:=ae g6;clear o6 g6 e6 gy gz;refine HK.o _ _ ?_;clear HK K;try simp only[Act.put,YM,YJ,YL]
         refine wpAnyIn_ready (rs:=[5]) (by kernel_rfl) (by simp) ?_;refine AllReadyIn.cons rfl (fun K hK=>?_) ?_
         ·have HK:=ae hK
          clear hK;go_simp
          refine HK.o _ _ ?_;clear HK K;try simp only[Act.put,YM,YJ,YL]
          refine wpAnyIn_done (by kernel_rfl) ?_ _;gi_wp2
          go_roundw
          case rel =>
           have sP:k+1<=fs.length:=ar;have jJ:Value.int .i64 ((k:Int)+1)=Value.int .i64 ((k+1:Nat):Int):=by simp
           exact⟨k+1,_,_,sP,jJ,nt.o _ _ _ vd.o,⟨(gS.o.kept aJ.o).swap.other jC.o ((aJ.o.block _ mS.o.1.lt).trans mS.o.1) (by decide) (by decide),(gS.o.kept aJ.o).swap.other jC.o ((aJ.o.block _ mS.o.2.lt).trans mS.o.2) (by decide) (by decide)⟩,(Uf.o.trans (dq aJ.o)).trans ((gS.o.kept aJ.o).swap.keeps jC.o),(mT.o.trans (aJ.o.mono mT.o.size)).trans zd.o⟩
          case measure=>exact XU.o
         exact AllReadyIn.nil
        exact AllReadyIn.nil
       exact AllReadyIn.nil
      exact AllReadyIn.nil
     exact AllReadyIn.nil
    exact AllReadyIn.nil
   ·obtain rfl:k=fs.length:=by omega
    have eO:¬ ((fs.length:Nat):Int)<(fs.length:Int):=(by omega);gi_wp2
    refine⟨HKOr.o,⟨(show _=_ from HPQr.o.1).trans (show _=_ from HPQ.o.1).symm,(show _=_ from HPQr.o.2).trans (show _=_ from HPQ.o.2).symm⟩,⟨⟨u1,u2,?_⟩,HPQr.o.1,HPQr.o.2⟩,HBAr.o⟩;have h9:=HBXr.o;rw[← Yj.o,← Gz.o]at h9;exact h9
 case done =>
  rintro D ys W hD rfl ⟨⟨⟨v1,v2,ze⟩,UL,KN⟩,Lp⟩ hK
  have hG1:([67,70,49]++(List.range (nps g rs.length)).flatMap fun j=>fq fs (prt g rs j) fs.length).length<=50000000:=by
   have h1:=jw (m:=172800) (fun j=>YG (pH (fun k jJ=>eE (dK.part g j) hk (by rw[bZ];omega) jJ) (YA _)).1 (by omega)) (List.range (nps g rs.length));have h2:=kI (n:=rs.length) ew pS;rw[List.length_range]at h1;rw[YC];simp only[YI,Zc];have:172800*nps g rs.length<=172800*256:=ZT _ h2;omega
  have hG2:(F2++(List.range (nps g rs.length)).flatMap fun j=>ftK fs (prt g rs j) fs.length).length<=500000:=by
   have h1:=jw (m:=1360) (fun j=>YG (tc (dK.part g j) (by rw[bZ];omega) (fun k jJ=>eE (dK.part g j) hk (by rw[bZ];omega) jJ) (YA _)).1 (by omega)) (List.range (nps g rs.length));have h2:=kI (n:=rs.length) ew pS;rw[List.length_range]at h1;rw[YC];have:1360*nps g rs.length<=1360*256:=ZT _ h2;omega
  have hG3:0<(F2++(List.range (nps g rs.length)).flatMap fun j=>ftK fs (prt g rs j) fs.length).length:=by
   rw[← hF2,← hF1];simp only[YC];omega
  have yZ:jaH (dw id fs rs g=([67,70,49]++(List.range (nps g rs.length)).flatMap fun j=>fq fs (prt g rs j) fs.length)++(F2++(List.range (nps g rs.length)).flatMap fun j=>ftK fs (prt g rs j) fs.length)++le4 (F2++(List.range (nps g rs.length)).flatMap fun j=>ftK fs (prt g rs j) fs.length).length):=ae (by
   unfold dw kF il;rw[← hF2,← hF1,HE0.o,UR.o,Xk.o];simp only[YR];rfl)
  generalize ([67,70,49]++(List.range (nps g rs.length)).flatMap fun j=>fq fs (prt g rs j) fs.length)=G1 at *;generalize (F2++(List.range (nps g rs.length)).flatMap fun j=>ftK fs (prt g rs j) fs.length)=G2 at *;obtain⟨⟨q1,q2⟩,⟨q3,q4⟩⟩:=ze.cells;obtain⟨a8,cap8,rfl⟩:=ze.2.2.2.1.slice;obtain⟨a9,cap9,rfl⟩:=ze.2.2.2.2.1.slice;have sk:=ae ze;have jB:=ae Lp;have HK:=ae hK;have HL4:=ae (JO G2.length (by omega));clear ze Lp hK UL KN;go_wp2_with (first | (at_builtin;refine sK rfl _ _ rfl A.heap.size _ _ G1 G2 rfl sk.o.2.2.2.1 rfl sk.o.2.2.2.2.1.sv hG3 ?n1 ?n2 ?_))
  case n1=>omega
  case n2=>exact jB.o.size
  intro v10 w10 o10 g10 e10;obtain⟨a10,cap10,hv10,_,_⟩:=aM o10;subst hv10;obtain⟨⟨f1,f2⟩,QN,UY⟩:=sk.o.app jB.o.size o10 g10 e10;have hk10:=sk.o.keeps (v':=.slice a10 (G1++G2).length cap10) g10;have Ug:=ae QN;have Uh:=ae (jB.o.trans UY);have HK10:=ae (hk10.same D _ HK.o rfl);have hG12:(G1++G2).length<=50500000:=by rw[YC];omega
  generalize hGG:G1++G2=GG at *;clear o10 g10 e10 UY hk10 sk jB HK q1 q2 q3 q4;obtain⟨⟨q1,q2⟩,⟨q3,q4⟩⟩:=QN.cells;clear QN;go_wp2_with fail;generalize hV:w10.setCell ⟨Bb,0,none⟩ (.slice a10 GG.length cap10)=V at *;clear hV f1 f2
  have HC9:jaH (∀ U,Below V.heap.size V U->Calls Tryz.prog 85 #[.int .i64 (G2.length:Int)] U fun e w'=>∃ v,e=.returned v/\Sv w' v (az .u8 (le4 G2.length))/\Below V.heap.size V w'/\w'.cell? ⟨Bb,0,none⟩=some (.slice a10 GG.length cap10)/\w'.cell? ⟨Bf,0,none⟩=some (.slice a9 G2.length cap9)):=ae (fun U hU=>by
   refine(HL4.o U).mono ?_;rintro e w' ⟨⟨v,rfl,ho⟩,hb⟩;have h9:=(Ug.o.kept (ag hU hb)).cells;exact⟨v,rfl,ho.sv,ag hU hb,h9.1.1,h9.2.1⟩)
  have hL4:0<(le4 G2.length).length:=by simp[le4]
  have hL4':(le4 G2.length).length=4:=by simp[le4]
  generalize le4 G2.length=LL at *;refine wp_region_noPanic ?_
  go_region_law (first
   | (refine ki (by rfl) _ _ (by rfl) A.heap.size _ _ GG LL (by rfl) ?_ (by rfl) cQ.o hL4 ?_ ?_ ?_;exact(Ug.o.kept aJ.o).2.2.2.1;omega;exact YG Uh.o.size aJ.o.size;intro v6 w6 o6 g6 e6;have oe:=ae o6;have HK6:=ae ((Ug.o.kept aJ.o).2.2.2.1.deferred g6 (JS aJ.o HK10.o) rfl);have jA:=ae ((Uh.o.trans (aJ.o.mono Uh.o.size)).trans ((Ug.o.kept aJ.o).2.2.2.1.below g6 (YG Uh.o.size aJ.o.size)));clear o6 g6 e6)
   | (go_simp;go_at_call 85;refine(HC9.o _ ?_).mono ?_;exact ak (Yz V.heap.size V) 1;rintro e w5 ⟨v5,rfl,eo,bv,Xl,hc6⟩;have cQ:=ae eo;have aJ:=ae bv;clear eo bv;dsimp only)
   | fail)
  all_goals refine NoPanic.normal ?_
  all_goals go_wp2_with fail
  all_goals refine⟨by simp,.inl ⟨_,_,rfl,run_takeDeferred HK6.o,?_⟩⟩
  all_goals refine⟨_,results_tmp rfl _ _ _,⟨_,rfl,?_⟩,?_⟩
  all_goals first
   | exact ag bV.o (jA.o.trans (belowK_b (w:=Z) hAZs _ D _ _ hD HK6.o rfl rfl))
   | (rw[yZ.o];exact bE (ownsRow_putObj oe.o _ HK6.o rfl) bV.o.size)
 case stop =>
  rintro D c pre W _ _ h _;exact h.elim
theorem Ex(f:Fd){c:Cl}(hc:aI c)(w:World):Calls Tryz.prog 117 #[nM f,cp c] w fun e w'=>e=.returned (.int .i64 (oq f c:Int))/\Below w.heap.size w w':=by
 have HV:=ae (kr hc.val);obtain⟨i,n,k,nd⟩:=f;unfold nM;simp only;have Lq:∀ w,(binOp .eql 78 .nilIface .nilIface).run Tryz.prog w=.ok (.bool true) w:=fun w=>by kernel_rfl
 have re:∀ t v w,(binOp .eql 78 (.iface t v) .nilIface).run Tryz.prog w=.ok (.bool false) w:=fun t v w=>by kernel_rfl
 have HM:jaH (oq (i,n,k,nd) c=if c.1=0 then (if nd=true then 82 else 0) else if c.1≠k then 10 else if 64<c.2.2.length then 5 else 0):=ae rfl;generalize oq (i,n,k,nd) c=R at *;have bV:=ae (aj w (.cells #[.int .u32 (i:Int),.string n,.int .u8 (k:Int),.bool nd] 81));obtain⟨c0,c1,c2,c3⟩:=gN w (.int .u32 (i:Int)) (.string n) (.int .u8 (k:Int)) (.bool nd) 81;have hz:w.heap.size<(w.alloc (.cells #[.int .u32 (i:Int),.string n,.int .u8 (k:Int),.bool nd] 81)).heap.size:=by rw[YB];omega
 generalize hW:w.alloc (.cells #[.int .u32 (i:Int),.string n,.int .u8 (k:Int),.bool nd] 81)=W at *;have hs:=bx c.2.2;generalize hS:ai c.2.2=S at *
 have bg:(S.size:Int)<=64:=by
  rcases hc with rfl | ⟨m,rfl,_⟩ | ⟨m,rfl,_⟩ | ⟨m,rfl,h,_⟩
  ·rw[hs];decide
  ·rw[hs];simp
  ·rw[hs];simp
  ·rw[hs];simp only;omega
 have hlen2:¬ 64<c.2.2.length:=by omega
 have hvf:c.1=0/\cp c=.nilIface∨c.1≠0/\∃ t u,cp c=.iface t u:=by
  by_cases h0:c.1=0
  ·exact Or.inl ⟨h0,mh c h0⟩
  ·exact Or.inr ⟨h0,iP c h0⟩
 generalize c.2.1=cn at *;generalize c.2.2.length=cl at *;clear hS hs hc;generalize c.1=ck at *;generalize cp c=vc at *;rcases hvf with ⟨rfl,rfl⟩ | ⟨h0,t,u,rfl⟩
 ·rw[Yy rfl]at HM
  go_enter Tryz.func117,Tryz.ntmps117
  go_wp2_with fail;try rw[hW]
  clear hW;refine(HV.o _).mono ?_;rintro e w1 ⟨rfl,aA⟩;have d3:=(aA.cell (p:=⟨w.heap.size,3,none⟩) hz).trans c3;have aN:=ae (ag bV.o aA);have cG:=aA.size;have Cf:w.heap.size<w1.heap.size:=by omega
  clear aA c0 c1 c2 c3;cases nd
  ·rw[Yx (by simp)]at HM
   go_wp2_with fail;go_ret
   rw[HM.o];exact⟨rfl,aN.o.alloc aN.o.size _⟩
  ·rw[Yy rfl]at HM
   go_wp2_with fail;go_ret
   rw[HM.o];exact⟨rfl,aN.o.alloc aN.o.size _⟩
 ·rw[Yx h0]at HM
  go_enter Tryz.func117,Tryz.ntmps117
  go_wp2_with fail;try rw[hW]
  clear hW;refine(HV.o _).mono ?_;rintro e w1 ⟨rfl,aA⟩;have d2:=(aA.cell (p:=⟨w.heap.size,2,none⟩) hz).trans c2;have aN:=ae (ag bV.o aA);have cG:=aA.size;have Cf:w.heap.size<w1.heap.size:=by omega
  clear aA c0 c1 c2 c3;by_cases hk:ck=k
  ·subst hk
   rw[Yx (by simp),Yx hlen2]at HM;go_wp2_with fail;go_ret
   rw[HM.o];exact⟨rfl,aN.o.alloc aN.o.size _⟩
  ·rw[Yy hk]at HM
   have hk':((ck:Int) != (k:Int))=true:=by simp;omega
   clear hk;go_wp2_with fail;go_ret
   rw[HM.o];exact⟨rfl,aN.o.alloc aN.o.size _⟩
theorem Tb{w:World}{v rv:Value}{l:List Fd}{r:List Cl}(hs:Sf w v l)(hr:Sv w rv (aC r))(hf:∀ c∈r,aI c)(si:Nat):Calls Tryz.prog 78 #[.agg #[.int .u32 (si:Int),v],rv] w fun e w'=>e=.returned (.int .i64 (gW l r:Int))/\Below w.heap.size w w':=by
 obtain⟨a,cap,rfl,aV,bw⟩:=hs.form;obtain⟨ra,rcap,rfl,Qq,Qr⟩:=hr.form1;rw[ax]at *;have hrcm':rcap<=9223372036854775807:=by unfold maxLen at Qr;omega
 have cO:=aj w (.cells #[.int .u32 (si:Int),.slice a l.length cap] 25);have bV:=ae cO;have HS:=ae (hs.kept cO);have HR:=ae (hr.kept cO);have zk:=ae hf;obtain⟨c0,c1⟩:=aR w (.int .u32 (si:Int)) (.slice a l.length cap) 25;have hz:w.heap.size<(w.alloc (.cells #[.int .u32 (si:Int),.slice a l.length cap] 25)).heap.size:=by rw[YB];omega
 clear hs hr hf cO Qr;generalize hW:w.alloc (.cells #[.int .u32 (si:Int),.slice a l.length cap] 25)=W at *;by_cases fb:r.length≠l.length
 ·have HM:jaH (gW l r=1):=ae (Yy fb)
  have hne':((r.length:Int) != (l.length:Int))=true:=by simp only[bne_iff_ne];omega
  clear fb;go_enter Tryz.func78,Tryz.ntmps78
  go_wp2_with fail;go_ret
  rw[HM.o];refine⟨rfl,?_⟩;first | exact bV.o | (rw[hW];exact bV.o)
 ·have pS:r.length=l.length:=by omega
  have HM:jaH (gW l r=ot (l.drop 0) (r.drop 0)):=ae (Yx fb);have Kz:=ae pS;rw[pS]at Qq HR ⊢;generalize gW l r=R at *;clear fb pS;go_enter Tryz.func78,Tryz.ntmps78
  go_wp2_with fail;try rw[hW]
  clear hW;go_loopw [17] (fun i wr=>∃ k:Nat,k<=l.length/\i=.int .i64 (k:Int)/\R=ot (l.drop k) (r.drop k)/\Below W.heap.size W wr) (fun i _=>l.length-(intOf i).toNat)
  case atStart=>exact⟨0,by omega,rfl,HM.o,Yz _ _⟩
  case round =>
   obtain⟨k,hk,rfl,kJ,ao⟩:=hrel;have HF:=ae kJ;have HB:=ae ao;have bM:=ao.size;clear kJ ao HM;by_cases ar:k<l.length
   ·obtain⟨b,off,rfl,hb,x0,x1,x2,x3⟩:=(HS.o.kept HB.o).at ar
    have KG:k<r.length:=by have:=Kz.o;omega
    obtain⟨rb,roff,rfl,hrb,hrc⟩:=(HR.o.kept HB.o).at1 (cd KG);have HT:=ae (HF.o.trans (wf ar KG));have hlt':(k:Int)<(l.length:Int):=(by omega);have WO:(0:Int)<=(k:Int):=(by omega);have HMF:=ae (Ex l[k] (zk.o r[k] (YF KG)));generalize oq l[k] r[k]=Q at *;generalize TI:cp r[k]=vr at *
    have hvf:vr=.nilIface∨∃ t u,vr=.iface t u:=by
     rw[← TI];by_cases h0:r[k].1=0
     ·exact Or.inl (mh _ h0)
     ·exact Or.inr (iP _ h0)
    clear TI;generalize l[k]=f at *;obtain⟨f0,f1,f2,f3⟩:=f;unfold nM at HMF;simp only at *;have se:=aj wr (.cells #[.int .u32 (f0:Int),.string f1,.int .u8 (f2:Int),.bool f3] 81);have hrc':=(se.cell (p:=⟨rb,roff+k,none⟩) hrb).trans hrc;obtain⟨g0,g1,g2,g3⟩:=gN wr (.int .u32 (f0:Int)) (.string f1) (.int .u8 (f2:Int)) (.bool f3) 81;have aK:=ae (HB.o.trans (se.mono bM));have ll:(wr.alloc (.cells #[.int .u32 (f0:Int),.string f1,.int .u8 (f2:Int),.bool f3] 81)).heap.size=wr.heap.size+1:=YB _ _;clear se;rcases hvf with rfl | ⟨vt,vu,rfl⟩
    all_goals
     go_wp2_with fail;generalize hV:wr.alloc (.cells #[.int .u32 (f0:Int),.string f1,.int .u8 (f2:Int),.bool f3] 81)=V at *;clear hV x0 x1 x2 x3 hrc;have eG:jaH (∀ U W',Below V.heap.size V U->Below U.heap.size U W'->Below W.heap.size W W'):=ae (fun U W' h1 h2=>ag aK.o (ag h1 h2));go_region_with (first | (go_at_call 117;refine(HMF.o _).mono ?_;rintro e w2 ⟨rfl,ay⟩))
     all_goals
      have fW:=ae (eG.o _ _ (by first | exact(Yz _ _).drew | exact ak (Yz _ _) _ | exact Yz _ _) ay);clear ay hrc' g0 g1 g2 g3 c0 c1;by_cases hQ:Q=0
      ·rw[Yy hQ]at HT
       subst hQ;go_wp2_with fail;go_roundw
       case rel=>exact⟨k+1,by omega,by go_num,HT.o,fW.o⟩
       case measure=>simp[intOf];omega
      ·rw[Yx hQ]at HT
       have hQ':((Q:Int) != 0)=true:=by simp[hQ]
       clear hQ;go_wp2_with fail;go_ret
       rw[HT.o];exact⟨rfl,ag bV.o fW.o⟩
   ·obtain rfl:k=l.length:=by omega
    have eO:¬ ((l.length:Nat):Int)<(l.length:Int):=(by omega);have HT:=ae (HF.o.trans (zu l _));clear HF;go_wp2_with fail;go_ret
    rw[HT.o];exact⟨rfl,ag bV.o HB.o⟩
end Go.Proofs.YtpljdjmpamjkhaaGreatDoor
