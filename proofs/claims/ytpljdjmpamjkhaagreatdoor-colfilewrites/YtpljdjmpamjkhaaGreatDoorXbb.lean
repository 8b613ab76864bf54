import Derived.Test.YtpljdjmpamjkhaaGreatDoorXba
import Derived.Deep.CutRange
set_option linter.unusedVariables false
set_option linter.unusedSimpArgs false
set_option maxRecDepth 100000
set_option maxHeartbeats 8000000
namespace Go.Proofs.YtpljdjmpamjkhaaGreatDoor
open Go.RowKit Go.Lib Go.Shelf
attribute [local go_sem] Oper.semAt_some
theorem TM{w:World}{fv rv:Value}{fs:List Fd}{rs:List Row}{id g:Nat}(hs:Sf w fv fs)(hr:Rv w rv rs)(ho:∀ f∈fs,Okf f)(np:id<4294967296)(hl:fs.length<=8)(hz:szs fs<5000)(pE:rs.length<=256)(eS:1<=g)(ik:g<=64)
  (dC:jQ fs rs) (hk:∀ f∈fs,1<=f.2.2.1/\f.2.2.1<=3) :
  Calls Tryz.prog 41 #[.agg #[.int .u32 (id:Int),fv],rv,.int .i64 (g:Int)] w (dw w (ew id fs rs g)):=by
 obtain⟨fa,fcap,rfl,jb0,jb1⟩:=hs.form;obtain⟨ra,rcap,rfl,Vg,FI,hra⟩:=hr.form;have PD:jfp (∀ U:World,Sf U (.slice fa fs.length fcap) fs->Calls Tryz.prog 80 #[.agg #[.int .u32 (id:Int),.slice fa fs.length fcap]] U (dw U (dF id fs))):=ae (fun U h=>SH h ho (by omega) hz id np);have kP:=ae (fun n (hn:n<9223372036854775808)=>qc n hn);have dO:=am w (.cells #[.int .u32 (id:Int),.slice fa fs.length fcap] 25);have jW:=jdW w (.cells #[.int .u32 (id:Int),.slice fa fs.length fcap] 25);have jw:(w.alloc (.cells #[.int .u32 (id:Int),.slice fa fs.length fcap] 25)).heap.size=w.heap.size+1:=jdx _ _;have HS:=ae (hs.kept dO);have HR:=ae (hr.kept dO);have Ys:=ae hr;have ce:=ae dO
 have HT:jfp (∀ U,Below (w.alloc (.cells #[.int .u32 (id:Int),.slice fa fs.length fcap] 25)).heap.size (w.alloc (.cells #[.int .u32 (id:Int),.slice fa fs.length fcap] 25)) U->U.cell? ⟨w.heap.size,0,none⟩=some (.int .u32 (id:Int))/\U.cell? ⟨w.heap.size,1,none⟩=some (.slice fa fs.length fcap)):=ae (fun U hb=>by
  have hU:=(hb.block w.heap.size (by omega)).trans jW;constructor<;>(rw[ay hU];rfl))
 generalize hA:w.alloc (.cells #[.int .u32 (id:Int),.slice fa fs.length fcap] 25)=A at *;have qn:=ae jw
 have LM:(convert 30 30 (.slice (some ⟨A.heap.size,0,none⟩) 3 3)).run Tryz.prog (A.alloc (.cells #[.int .u8 67,.int .u8 70,.int .u8 49] 5))=.ok (.slice (some ⟨A.heap.size,0,none⟩) 3 3) (A.alloc (.cells #[.int .u8 67,.int .u8 70,.int .u8 49] 5 (3,4))) :=
  run_convert_bytes_const A 30 5 #[.int .u8 67,.int .u8 70,.int .u8 49] 3 3 Tryz.underlying30 Tryz.underlying5
 obtain⟨c0,c1⟩:=HT.o A (jdv _ _);clear hs hr dO jW jw;refine(callsIn_wide (n:=3)).1 ?_;refine callsIn_of_wp_marks Tryz.func41 rfl trivial ?_ rfl;refine wpIn_wide.2 ?_;simp only[Tryz.ntmps41,List.size_toArray,jdD,jdX,Nat.reduceAdd,Nat.reduceSub,Array.replicate_succ,Array.replicate_zero,List.push_toArray,List.append_toArray,jeu,jem];have hbX:Below A.heap.size A ((A.alloc (.cells #[.int .u8 67,.int .u8 70,.int .u8 49] 5 (3,4))).alloc (.cells #[.slice (some ⟨A.heap.size,0,none⟩) 3 3] 30)):=((jdv A.heap.size A).alloc (jdw _) _).alloc (by rw[jdx];omega) _;obtain⟨d0,d1⟩:=HT.o _ hbX
 have hLit:LitM ((A.alloc (.cells #[.int .u8 67,.int .u8 70,.int .u8 49] 5 (3,4))).alloc (.cells #[.slice (some ⟨A.heap.size,0,none⟩) 3 3] 30)) A.heap.size (.slice (some ⟨A.heap.size,0,none⟩) 3 3) [67,70,49]:=by
  refine⟨rfl,_,rfl,jdw _,?_⟩;exact(Below.heap_alloc (A.alloc (.cells #[.int .u8 67,.int .u8 70,.int .u8 49] 5 (3,4))) _ A.heap.size (by rw[jdx];omega)).trans (jdW A _)
 have hBox:Boxed ((A.alloc (.cells #[.int .u8 67,.int .u8 70,.int .u8 49] 5 (3,4))).alloc (.cells #[.slice (some ⟨A.heap.size,0,none⟩) 3 3] 30)) (A.heap.size+1) 30 (.slice (some ⟨A.heap.size,0,none⟩) 3 3):=by
  have:=Boxed.new (A.alloc (.cells #[.int .u8 67,.int .u8 70,.int .u8 49] 5 (3,4))) 30 (.slice (some ⟨A.heap.size,0,none⟩) 3 3);rwa[jdx]at this
 go_wp2_with fail;generalize hX:((A.alloc (.cells #[.int .u8 67,.int .u8 70,.int .u8 49] 5 (3,4))).alloc (.cells #[.slice (some ⟨A.heap.size,0,none⟩) 3 3] 30))=X at *;clear hX LM;refine(PD.o _ (HS.o.kept hbX)).mono ?_;rintro e w1 ⟨⟨v1,rfl,o1⟩,aH⟩;obtain⟨a1,cap1,rfl,_,_⟩:=aM o1;have hbY:=ai aH (am w1 (.cells #[.slice a1 (dF id fs).length cap1] 30));have hboxY:=Boxed.new w1 30 (.slice a1 (dF id fs).length cap1);have hltX:A.heap.size+1<X.heap.size:=hBox.lt;have hX1:=aH.size
 have hBX:Bx2 (w1.alloc (.cells #[.slice a1 (dF id fs).length cap1] 30)) A.heap.size (A.heap.size+1) w1.heap.size (.slice (some ⟨A.heap.size,0,none⟩) 3 3) (.slice a1 (dF id fs).length cap1) [67,70,49] (dF id fs):=by
  refine⟨(hbY.block (A.heap.size+1) hltX).trans hBox,hboxY,by omega,(fQ.kept (Or.inr hLit) hbY),Or.inl (aD.kept (be o1 hbX.size) (am w1 (.cells #[.slice a1 (dF id fs).length cap1] 30))),fun g hg h2=>?_,by omega,by omega⟩;have:=(World.ownsRow.lt o1 g h2).1;simp[Value.ownBlock]at hg
  omega
 have hbAY:Below A.heap.size A (w1.alloc (.cells #[.slice a1 (dF id fs).length cap1] 30)):=ai hbX hbY
 have rY:jfp ((dF id fs).length<=10100):=ae (by
  have h1:=fN ho (by omega) hz fs.length;rw[jdE]at h1;have h2:=gE id (by omega);have h3:=gE fs.length (by omega);unfold dF;simp only[jdy];omega)
 generalize hP0:dF id fs=P0 at *;have HE0:=ae hP0;clear hP0;go_upto_region 3 with fail
 clear aH o1 hbY hboxY hLit hBox hbX d0 d1 c0 c1 hX1;generalize hY:w1.alloc (.cells #[.slice a1 P0.length cap1] 30)=Y at *;generalize w1.heap.size=Bf at *;have fF:A.heap.size+1≠Bf:=hBX.2.2.1;generalize A.heap.size+1=Bb at *;clear hY hltX;have ms:=ae hBX;have fd:=ae hbAY;obtain⟨⟨q1,q2⟩,⟨q3,q4⟩⟩:=hBX.cells;clear hBX hbAY;have hup1:=mz rs.length;have hul1:=bM (n:=rs.length) (by omega);have hup2:=mz g;have hul2:=bM (n:=g) (by omega);have Yl:rs.length<9223372036854775808:=by omega
 have LH:g<9223372036854775808:=by omega
 have HCN0:=ae kP.o;have HCN1:=ae (kP.o rs.length Yl);have HCN2:=ae (kP.o g LH);generalize hP1:uv rs.length=P1 at *;generalize hP2:uv g=P2 at *;have Zw:=ae hP1;have HE2:=ae hP2;clear hP1 hP2
 have VP:jfp (∀ U,Below Y.heap.size Y U->Calls Tryz.prog 81 #[.int .i64 (rs.length:Int)] U fun e w'=>∃ v,e=.returned v/\Sv w' v (aF .u8 (P1))/\Below Y.heap.size Y w'/\w'.cell? ⟨Bf,0,none⟩=some (.slice a1 P0.length cap1)):=ae (fun U hU=>by
  refine(HCN1.o U).mono ?_;rintro e w' ⟨⟨v,rfl,ho⟩,hb⟩;exact⟨v,rfl,ho.sv,ai hU hb,((ms.o.kept (ai hU hb)).cells.2).1⟩)
 go_cut [] from 15 (fun wx=>∃ v2,Bx2 wx A.heap.size Bb Bf (.slice (some ⟨A.heap.size,0,none⟩) 3 3) v2 [67,70,49] (P0++P1)/\Below A.heap.size A wx)
 case first =>
  refine wp_region_noPanic ?_
  go_region_law (first
   | (refine lB (by rfl) _ _ (by rfl) A.heap.size _ _ (P0) (P1) (by rfl) ?_ (by rfl) dE.o hup1 ?_ ?_ ?_;exact(ms.o.kept aR.o).2.2.2.2.1;(have:=rY.o;omega);exact jdF fd.o.size aR.o.size;intro v6 w6 o6 g6 e6;obtain⟨a6,cap6,pd,_,_⟩:=aM o6;rw[jdy]at pd;subst pd;obtain⟨⟨f1,f2⟩,iE,iF⟩:=(ms.o.kept aR.o).swap.app (jdF fd.o.size aR.o.size) o6 g6 e6;have uV:=ae iE.swap;have Ce:=ae (iF);clear o6 g6 e6 iE iF)
   | (go_simp;go_at_call 81;refine(VP.o _ ?_).mono ?_;exact ap (jdv Y.heap.size Y) 1;rintro e w5 ⟨v5,rfl,fZ,bD,hc5⟩;have dE:=ae fZ;have aR:=ae bD;clear fZ bD;dsimp only)
   | fail)
  all_goals refine NoPanic.normal ?_
  all_goals (go_wp2_with fail;go_meet;exact⟨_,uV.o,(fd.o.trans (aR.o.mono fd.o.size)).trans Ce.o⟩)
 clear VP ms fd q1 q2 q3 q4
 case rest =>
 obtain⟨v2,hBX,hbA⟩:=hcut;go_upto_region 4 with fail
 obtain⟨⟨q1,q2⟩,⟨q3,q4⟩⟩:=hBX.cells;obtain⟨a2,cap2,rfl⟩:=hBX.2.2.2.2.1.slice;have ms:=ae hBX;have fd:=ae hbA;clear hBX hbA;have hF1l:(P0++P1).length<=10110:=by have:=rY.o;rw[jdy];omega
 generalize hF1:P0++P1=F1 at *
 have HC2:jfp (∀ U,Below wc.heap.size wc U->Calls Tryz.prog 81 #[.int .i64 (g:Int)] U fun e w'=>∃ v,e=.returned v/\Sv w' v (aF .u8 (P2))/\Below wc.heap.size wc w'/\w'.cell? ⟨Bf,0,none⟩=some (.slice a2 F1.length cap2)):=ae (fun U hU=>by
  refine(HCN2.o U).mono ?_;rintro e w' ⟨⟨v,rfl,ho⟩,hb⟩;exact⟨v,rfl,ho.sv,ai hU hb,((ms.o.kept (ai hU hb)).cells.2).1⟩)
 go_cut [] from 15 (fun wx=>∃ v2,Bx2 wx A.heap.size Bb Bf (.slice (some ⟨A.heap.size,0,none⟩) 3 3) v2 [67,70,49] (F1++P2)/\Below A.heap.size A wx)
 case first =>
  refine wp_region_noPanic ?_
  go_region_law (first
   | (refine lB (by rfl) _ _ (by rfl) A.heap.size _ _ (F1) (P2) (by rfl) ?_ (by rfl) dE.o hup2 ?_ ?_ ?_;exact(ms.o.kept aR.o).2.2.2.2.1;(omega);exact jdF fd.o.size aR.o.size;intro v6 w6 o6 g6 e6;obtain⟨a6,cap6,pd,_,_⟩:=aM o6;rw[jdy]at pd;subst pd;obtain⟨⟨f1,f2⟩,iE,iF⟩:=(ms.o.kept aR.o).swap.app (jdF fd.o.size aR.o.size) o6 g6 e6;have uV:=ae iE.swap;have Ce:=ae (iF);clear o6 g6 e6 iE iF)
   | (go_simp;go_at_call 81;refine(HC2.o _ ?_).mono ?_;exact ap (jdv wc.heap.size wc) 1;rintro e w5 ⟨v5,rfl,fZ,bD,hc5⟩;have dE:=ae fZ;have aR:=ae bD;clear fZ bD;dsimp only)
   | fail)
  all_goals refine NoPanic.normal ?_
  all_goals (go_wp2_with fail;go_meet;exact⟨_,uV.o,(fd.o.trans (aR.o.mono fd.o.size)).trans Ce.o⟩)
 clear HC2 ms fd q1 q2 q3 q4
 case rest =>
 obtain⟨v3,hBX,hbA⟩:=hcut;have hF2l:(F1++P2).length<=10120:=by rw[jdy];omega
 generalize hF2:F1++P2=F2 at *;have ms:=ae hBX;have fd:=ae hbA;clear hBX hbA;have HCH:=ae (NR ra rs.length rcap g eS);go_wp2_with fail;refine(HCH.o _).mono ?_;rintro e w7 ⟨rfl,rfl⟩;go_wp2_with fail;have hbZ:Below wc.heap.size wc ((wc.alloc (.cells #[.slice ra rs.length rcap] 34)).alloc (.cells #[.int .i64 (g:Int)] 3)):=ai (am _ _) (am _ _);have hp1:Boxed ((wc.alloc (.cells #[.slice ra rs.length rcap] 34)).alloc (.cells #[.int .i64 (g:Int)] 3)) wc.heap.size 34 (.slice ra rs.length rcap):=(Boxed.new wc 34 _).alloc _
 have se:Boxed ((wc.alloc (.cells #[.slice ra rs.length rcap] 34)).alloc (.cells #[.int .i64 (g:Int)] 3)) (wc.heap.size+1) 3 (.int .i64 (g:Int)):=by
  have:=Boxed.new (wc.alloc (.cells #[.slice ra rs.length rcap] 34)) 3 (.int .i64 (g:Int));rwa[jdx]at this
 have hBZ:=ms.o.kept hbZ;have hAZ:=ai fd.o hbZ;generalize (wc.alloc (.cells #[.slice ra rs.length rcap] 34)).alloc (.cells #[.int .i64 (g:Int)] 3)=Z at *;clear hbZ ms fd;generalize wc.heap.size+1=q at *;generalize wc.heap.size=p at *;obtain⟨PV,VW,hseq⟩:=NT Ys.o pE eS ik 2 (by omega);have hseqZ:=hseq p q Z hp1.cell se.cell hp1.lt se.lt;have VW:=ae VW;have hpZ:=hp1.lt;have hqZ:=se.lt;have hAZs:=hAZ.size;clear hseq;refine wpIn_wide.1 (?_:Code.wpIn Fence.wide 3 _ _ _ _ _)
 refine wpIn_rangeFunc_ownF (F:=Fence.wide) (n:=3) rfl (by omega) (gf:=121) (lb:=#[.pointer (some ⟨p,0,none⟩),.pointer (some ⟨q,0,none⟩)]) rfl trivial (enters_of Tryz.func121 (by kernel_rfl) rfl) hseqZ (fun h k=>KC.trans h k) (fun W l o o' hl _ _ _=>⟨World.putObj_heap_other (show p≠l by omega),World.putObj_heap_other (show q≠l by omega)⟩) (jdv _ _) (fun _=>rfl)
  (fun pre W=>((∃ v1 v2,Bx2 W A.heap.size Bb Bf v1 v2 ([67,70,49]++pre.flatMap fun j=>eN fs (prt g rs j) fs.length) (F2++pre.flatMap fun j=>ftK fs (prt g rs j) fs.length))/\Boxed W p 34 (.slice ra rs.length rcap)/\Boxed W q 3 (.int .i64 (g:Int)))/\Below A.heap.size A W)
  (fun _ _ _=>False) ?hI (fun _ _ _ _ _ h _ _=>h) ?h0
  (fun j=>{ tmps:=#[(.agg #[.int .u32 (id:Int),.slice fa fs.length fcap]),(.slice ra rs.length rcap),(.int .i64 (g:Int)),(.pointer (some ⟨w.heap.size,0,none⟩)),undef,undef,(.slice none 0 0),(.pointer (some ⟨Bb,0,none⟩)),(.pointer (some ⟨Bf,0,none⟩)),(PV j),undef,undef,undef,undef,undef,u15,u16,u17,u18,u19,u20,u21,u22,u23,u24,u25,u26,u27,(.slice ra rs.length rcap),(.int .i64 (g:Int)),(.func (.func 121) #[] #[.pointer (some ⟨p,0,none⟩),.pointer (some ⟨q,0,none⟩)]),(PV j),u32,u33,u34,u35,u36,u37,u38,u39,u40,u41,u42,u43,u44,u45,u46,u47,u48,u49,u50,u51,u52,u53,u54,u55,u56,u57,u58,u59,u60,u61,u62,u63,u64,u65,u66,u67,u68,u69,u70,u71],defers:=[] }) ?assign ?body ?done ?stop
 case hI =>
  rintro pre X Y' row ⟨⟨⟨v1,v2,h1⟩,h2,h3⟩,h4⟩ hg hr;refine⟨⟨⟨v1,v2,h1.turned hg (fun r e=>(hr r e).2)⟩,?_,?_⟩,h4.grown hg h4.size (fun k e=>jdF hAZs (hr k e).1)⟩
  ·refine h2.kept hg (fun e=>?_)
   obtain⟨_,o,ho,hc⟩:=hr _ e.symm;rw[show X.heap[p]?=_ from h2]at ho;cases ho
   cases hc
  ·refine h3.kept hg (fun e=>?_)
   obtain⟨_,o,ho,hc⟩:=hr _ e.symm;rw[show X.heap[q]?=_ from h3]at ho;cases ho
   cases hc
 case h0=>exact⟨⟨⟨_,_,by simpa using hBZ⟩,hp1,se⟩,hAZ⟩
 case assign =>
  intro l x W K hK;gi_wp2
  exact hK
 case body =>
  rintro l pre j W ⟨⟨⟨v1,v2,Cf⟩,VU,yC⟩,Aj⟩ aB;have HT1:jfp (∀ U,Below A.heap.size A U->U.cell? ⟨w.heap.size,1,none⟩=some (.slice fa fs.length fcap)/\Sf U (.slice fa fs.length fcap) fs):=ae (fun U hU=>⟨(HT.o U hU).2,HS.o.kept hU⟩);have kN:=bZ g rs j;have jb4:(prt g rs j).length<=256:=by omega
  have xH:=ae (fun k lq=>eX (dC.part g j) hk jb4 (k:=k) lq);have PE:=ae (fun k (lq:k<=fs.length)=>(ml xH.o lq).1);have LQ:=ae (fun k (lq:k<=fs.length)=>(oR (dC.part g j) jb4 xH.o lq).1);have cU:=ae (fun k=>Lr (dC.part g j) jb4 k);have PS:=ae (fun k=>mj (dC.part g j) k);have KE:jfp (∀ U,Below A.heap.size A U->Rv U (PV j) (prt g rs j)):=ae (fun U hU=>VW.o U (HR.o.kept hU) j);have Yb:jfp (∀ r∈prt g rs j,r.length=fs.length):=ae (fun r hr=>qy (dC.part g j r hr).1);have HKN:jfp (∀ k (h:k<fs.length),mb fs k=fs[k].2.2.1):=ae (fun k h=>mc h);have uK:=ae (me fs (prt g rs j));have tq:=ae (nR fs (prt g rs j));have HZ1:jfp (([67,70,49]++(pre++[j]).flatMap fun j=>eN fs (prt g rs j) fs.length)=([67,70,49]++pre.flatMap fun j=>eN fs (prt g rs j) fs.length)++eN fs (prt g rs j) fs.length):=ae (by simp[jeH]);have LU:jfp ((F2++(pre++[j]).flatMap fun j=>ftK fs (prt g rs j) fs.length)=(F2++pre.flatMap fun j=>ftK fs (prt g rs j) fs.length)++ftK fs (prt g rs j) fs.length):=ae (by simp[jeH]);have hpre:pre.length<=256:=by have:=ki (n:=rs.length) eS pE;omega
  have hG1:([67,70,49]++pre.flatMap fun j=>eN fs (prt g rs j) fs.length).length<=50000000:=by
   have h1:=iC (m:=172800) (fun j=>jdF (ml (fun k lq=>eX (dC.part g j) hk (by rw[bZ];omega) lq) (jdw _)).1 (by omega)) pre;rw[jdy];simp only[jdD,jdX];have:172800*pre.length<=172800*256:=jey _ hpre;omega
  have hG2:(F2++pre.flatMap fun j=>ftK fs (prt g rs j) fs.length).length<=500000:=by
   have h1:=iC (m:=1360) (fun j=>jdF (oR (dC.part g j) (by rw[bZ];omega) (fun k lq=>eX (dC.part g j) hk (by rw[bZ];omega) lq) (jdw _)).1 (by omega)) pre;rw[jdy];have:1360*pre.length<=1360*256:=jey _ hpre;omega
  have ms:=ae Cf;have HPQ:=ae (And.intro VU yC);have fd:=ae Aj;obtain⟨lp,Ak⟩:=HT1.o W Aj;clear Cf VU yC Aj hseqZ hBZ hAZ aB kN Ak VW;generalize ([67,70,49]++pre.flatMap fun j=>eN fs (prt g rs j) fs.length)=G1 at *;generalize (F2++pre.flatMap fun j=>ftK fs (prt g rs j) fs.length)=G2 at *;generalize prt g rs j=PT at *;generalize PV j=pv at *;gi_wp2
  gi_loopw [35] (fun i wr=>∃(k:Nat) (v1 v2:Value),k<=fs.length/\i=.int .i64 (k:Int)/\Bx2 wr A.heap.size Bb Bf v1 v2 (G1++eN fs PT k) (G2++ftK fs PT k)/\(Boxed wr p 34 (.slice ra rs.length rcap)/\Boxed wr q 3 (.int .i64 (g:Int)))/\KeepsOthers W wr/\Below A.heap.size A wr) (fun i _=>fs.length-(intOf i).toNat)
  case atStart=>exact⟨0,v1,v2,by omega,rfl,by simpa [eN,ftK]using ms.o,HPQ.o,KeepsOthers.refl _,fd.o⟩
  case round =>
   obtain⟨k,u1,u2,pC,rfl,Cf,hpq,hko,Aj⟩:=hrel;have HBXr:=ae Cf;have HPQr:=ae hpq;have HKOr:=ae hko;have HBAr:=ae Aj;clear Cf hpq hko Aj;by_cases aB:k<fs.length
   ·have hlt':(k:Int)<(fs.length:Int):=by omega
    obtain⟨hd1,Ak⟩:=HT1.o wr HBAr.o;obtain⟨bb,off,rfl,hb,x0,x1,x2,x3⟩:=Ak.at aB;clear Ak;have dW:=xH.o k aB;have fT:=PE.o k pC;have kj:=LQ.o k pC;have UB:=HKN.o k aB;gi_wp2
    have Km:jfp (∀ r∈PT,k<r.length):=ae (fun r hr=>by rw[Yb.o r hr];exact aB);rw[UB]at dW;have HBSk:jfp (eN fs PT (k+1)=eN fs PT k++eo fs[k].2.2.1 (cW PT k)):=ae (by rw[uK.o,UB]);have HFSk:jfp (ftK fs PT (k+1)=ftK fs PT k++(uv (eo fs[k].2.2.1 (cW PT k)).length++et (cA (cW PT k)))):=ae (by rw[tq.o,UB]);clear UB;generalize fs[k]=f at *;obtain⟨f0,f1,f2,f3⟩:=f;simp only at x0 x1 x2 x3 dW HBSk HFSk ⊢;have aH:=am wr (.cells #[.int .u32 (f0:Int),.string f1,.int .u8 (f2:Int),.bool f3] 81);obtain⟨_,_,z2,_⟩:=iU wr (.int .u32 (f0:Int)) (.string f1) (.int .u8 (f2:Int)) (.bool f3) 81;have bv:wr.heap.size<(wr.alloc (.cells #[.int .u32 (f0:Int),.string f1,.int .u8 (f2:Int),.bool f3] 81)).heap.size:=by rw[jdx];omega
    generalize wr.alloc (.cells #[.int .u32 (f0:Int),.string f1,.int .u8 (f2:Int),.bool f3] 81)=R1 at *;have aQ:=ae aH;clear aH x0 x1 x2 x3 hd1;refine⟨trivial,?_⟩;refine(CallsIn.inRound l (callsIn_wide.2 (Bq (KE.o R1 (ai HBAr.o aQ.o)) (by omega) Km.o))).mono ?_;rintro e R2 ⟨⟨vv,rfl,o2⟩,aE⟩;have iO:=o2.sv;have rT:jfp (∀ b,vv.ownBlock=some b->b<R2.heap.size):=ae (fun b hb=>(World.ownsRow.lt o2 b hb).2);obtain⟨av,capv,rfl,_,_⟩:=aM o2;have z2':=(aE.cell (p:=⟨wr.heap.size,2,none⟩) bv).trans z2;have aO:=ae (ai aQ.o aE);have FY:=ae iO;have hWC:=kp dW;have eQ:=iw dW
    have Wb:0<(eo f2 (cW PT k)).length:=by
     unfold eo dK;rw[jdy];split
     ·rw[jdD]
      omega
     ·rw[jd6]
      omega
    have PX:=ae (zK iO rT.o (PS.o k) f2);rw[hWC]at PX;obtain⟨t1,t2,t3⟩:=cU.o k;have jb5:jfp (∀(U:World) (B:Nat) (u:Value),OwnV U B u (cW PT k)->Calls Tryz.prog 59 #[u] U fun e w'=>e=.returned (ux (cA (cW PT k)))/\Below U.heap.size U w'):=ae (fun U B u hU=>zE hU.sv (PS.o k) (by rw[dr];omega));have HOV:=ae o2;have Vh:=ae (fun U=>nS t1 t2 t3 U);obtain⟨t4,t5⟩:=oQ t1 t2 t3;have t6:0<(et (cA (cW PT k))).length:=by unfold et;simp only[jdy,jd6];omega
    have Yp:=bM (n:=(eo f2 (cW PT k)).length) (by omega);have Yt:=mz (eo f2 (cW PT k)).length;have Yu:=ae (HCN0.o (eo f2 (cW PT k)).length (by omega));have hcll:=(iw dW).1;have hvl:(cW PT k).length=PT.length:=dr _ _;clear hWC eQ t1 t2 t3 t5 aE o2 iO z2 dW;generalize hCM:eo f2 (cW PT k)=CM at *;generalize hSM:cA (cW PT k)=SM at *;generalize hSB:et SM=SB at *;generalize hUV:uv CM.length=UV at *;have HUV:=ae hUV;have HSB:=ae hSB;have VQ:=ae hSM;have Ky:=ae hCM;clear hCM hSM hSB hUV hvl;generalize hCS:cW PT k=CS at *;have HCS:=ae hCS;clear hCS;gi_wp2
    refine⟨trivial,?_⟩;refine(CallsIn.inRound l (callsIn_wide.2 PX.o)).mono ?_;rintro e R3 ⟨⟨vc,rfl,o3⟩,aS⟩;obtain⟨ac,capc,rfl,_,_⟩:=aM o3;have bP:=ae (ai aO.o aS);have dh:=ae o3;have Vi:=HBXr.o.kept bP.o;have hba3:=ai HBAr.o bP.o;obtain⟨⟨q1,q2⟩,⟨q3,q4⟩⟩:=Vi.cells;obtain⟨a1',cap1',rfl⟩:=Vi.2.2.2.1.slice;obtain⟨a2',cap2',rfl⟩:=Vi.2.2.2.2.1.slice;have Qe:=ae Vi;have jb6:=ae hba3;have HOV3:=ae (HOV.o.kept aS);clear Vi hba3 o3 aS;have hg1l:(G1++eN fs PT k).length<=50200000:=by rw[jdy];omega
    have hg2l:(G2++ftK fs PT k).length<=510000:=by rw[jdy];omega
    generalize hM1:G1++eN fs PT k=M1 at *;generalize hM2:G2++ftK fs PT k=M2 at *;have Qa:=ae hM1;have KB:=ae hM2;clear hM1 hM2;gi_wp2_with (first | (gi_at_builtin;refine rH rfl _ _ rfl A.heap.size _ _ M1 CM rfl Qe.o.2.2.2.1 rfl dh.o.sv Wb ?n3 ?n4 ?_))
    case n3=>omega
    case n4=>exact jb6.o.size
    intro vb4 R4 o4 g4 e4;generalize hN1:M1++CM=N1 at *;have Kp:=ae hN1;clear hN1;obtain⟨a4,cap4,hv4,_,_⟩:=aM o4;subst hv4;obtain⟨⟨y1,y2⟩,jb7,hbl4⟩:=Qe.o.app jb6.o.size o4 g4 e4;have HPQ4:=ae (And.intro (Qe.o.other (v':=.slice a4 N1.length cap4) g4 ((bP.o.block _ HPQr.o.1.lt).trans HPQr.o.1) (by decide) (by decide)) (Qe.o.other (v':=.slice a4 N1.length cap4) g4 ((bP.o.block _ HPQr.o.2.lt).trans HPQr.o.2) (by decide) (by decide)));have HKO4:=ae ((HKOr.o.trans (eg bP.o)).trans (Qe.o.keeps (v':=.slice a4 N1.length cap4) g4));have HBX4:=ae jb7;have HOV4:=ae (Qe.o.keepV (v':=.slice a4 N1.length cap4) g4 HOV3.o (by decide) (by decide));have HBA4:=ae (jb6.o.trans hbl4);clear o4 g4 e4 hbl4 q1 q2 q3 q4;obtain⟨⟨q1,q2⟩,⟨q3,q4⟩⟩:=jb7.cells;clear jb7;gi_wp2
    have iG:=HBX4;have oe:=HPQ4;have Vj:=HOV4;have Vk:=HKO4;have ol:=HBA4;clear HBX4 HPQ4 HOV4 HKO4 HBA4 y1 y2;generalize R4.setCell ⟨Bb,0,none⟩ (.slice a4 N1.length cap4)=V4 at *;gi_cut [] from 72 (fun wx=>∃ v2,Bx2 wx A.heap.size Bb Bf (.slice a4 N1.length cap4) v2 N1 (M2++UV)/\(Boxed wx p 34 (.slice ra rs.length rcap)/\Boxed wx q 3 (.int .i64 (g:Int)))/\OwnV wx R1.heap.size (.slice av CS.length capv) CS/\KeepsOthers W wx/\Below A.heap.size A wx)
    case first =>
     refine wpIn_region_any (by kernel_rfl) ?_;change wpAnyIn _ _ _ _ _ _ _ _ _ V4.drew
     refine wpAnyIn_ready (rs:=[0,1]) (by kernel_rfl) (by simp) ?_;refine AllReadyIn.cons rfl (fun K hK=>?_) ?_
     ·have HK:=ae hK
      clear hK;go_simp
      refine HK.o _ _ ?_;clear HK K;try simp only[Act.put,jdJ,jdH,jdI]
      refine wpAnyIn_ready (rs:=[1]) (by kernel_rfl) (by simp) ?_;refine AllReadyIn.cons rfl (fun K hK=>?_) ?_
      ·have HK:=ae hK
       clear hK;go_simp
       refine HK.o _ _ ?_;clear HK K;try simp only[Act.put,jdJ,jdH,jdI]
       refine wpAnyIn_ready (rs:=[2]) (by kernel_rfl) (by simp) ?_;refine AllReadyIn.cons rfl (fun K hK=>?_) ?_
       ·have HK:=ae hK
        clear hK;go_simp
        refine HK.o _ _ ?_;clear HK K;try simp only[Act.put,jdJ,jdH,jdI]
        refine wpAnyIn_ready (rs:=[3]) (by kernel_rfl) (by simp) ?_;refine AllReadyIn.cons rfl (fun K hK=>?_) ?_
        ·have HK:=ae hK
         clear hK;go_simp
         refine⟨trivial,?_⟩;refine(CallsIn.inRound l (callsIn_wide.2 (Yu.o V4.drew))).mono ?_;rintro e w5 ⟨⟨v5,rfl,o5⟩,hb5'⟩;have bD:Below V4.heap.size V4 w5:=(ap (jdv V4.heap.size V4) 1).trans hb5';obtain⟨⟨q1,q2⟩,⟨q3,q4⟩⟩:=(iG.o.kept bD).cells;have dE:=ae o5;have aR:=ae bD;clear o5 bD hb5';dsimp only
         refine HK.o _ _ ?_;clear HK K;try simp only[Act.put,jdJ,jdH,jdI]
         refine wpAnyIn_ready (rs:=[4]) (by kernel_rfl) (by simp) ?_;refine AllReadyIn.cons rfl (fun K hK=>?_) ?_
         ·have HK:=ae hK
          clear hK;rw[jdu (by rfl)];refine df _ _ rfl A.heap.size _ _ M2 UV rfl (iG.o.kept aR.o).2.2.2.2.1 rfl dE.o.sv Yt (by omega) (jdF ol.o.size aR.o.size) ?_;intro v6 w6 o6 g6 e6;obtain⟨a6,cap6,pd,_,_⟩:=aM o6;rw[jdy]at pd;subst pd;obtain⟨⟨f1,f2⟩,iE,iF⟩:=(iG.o.kept aR.o).swap.app (jdF ol.o.size aR.o.size) o6 g6 e6;have uV:=ae iE.swap;have Ce:=ae iF;have kK:=ae g6;clear o6 g6 e6 iE iF;refine HK.o _ _ ?_;clear HK K;try simp only[Act.put,jdJ,jdH,jdI]
          refine wpAnyIn_ready (rs:=[5]) (by kernel_rfl) (by simp) ?_;refine AllReadyIn.cons rfl (fun K hK=>?_) ?_
          ·have HK:=ae hK
           clear hK;go_simp
           refine HK.o _ _ ?_;clear HK K;try simp only[Act.put,jdJ,jdH,jdI]
           refine wpAnyIn_done (by kernel_rfl) ?_ _;gi_wp2
           gi_meet
           exact⟨_,uV.o,⟨(iG.o.kept aR.o).swap.other kK.o ((aR.o.block _ oe.o.1.lt).trans oe.o.1) (by decide) (by decide),(iG.o.kept aR.o).swap.other kK.o ((aR.o.block _ oe.o.2.lt).trans oe.o.2) (by decide) (by decide)⟩,(iG.o.kept aR.o).swap.keepV kK.o (OwnV.kept Vj.o aR.o) (by decide) (by decide),(Vk.o.trans (eg aR.o)).trans ((iG.o.kept aR.o).swap.keeps kK.o),(ol.o.trans (aR.o.mono ol.o.size)).trans Ce.o⟩
          exact AllReadyIn.nil
         exact AllReadyIn.nil
        exact AllReadyIn.nil
       exact AllReadyIn.nil
      exact AllReadyIn.nil
     refine AllReadyIn.cons rfl (fun K hK=>?_) ?_
     ·have HK:=ae hK
      clear hK;go_simp
      refine HK.o _ _ ?_;clear HK K;try simp only[Act.put,jdJ,jdH,jdI]
      refine wpAnyIn_ready (rs:=[0,2]) (by kernel_rfl) (by simp) ?_;refine AllReadyIn.cons rfl (fun K hK=>?_) ?_
      ·have HK:=ae hK
       clear hK;go_simp
       refine HK.o _ _ ?_;clear HK K;try simp only[Act.put,jdJ,jdH,jdI]
       refine wpAnyIn_ready (rs:=[2]) (by kernel_rfl) (by simp) ?_;refine AllReadyIn.cons rfl (fun K hK=>?_) ?_
       ·have HK:=ae hK
        clear hK;go_simp
        refine HK.o _ _ ?_;clear HK K;try simp only[Act.put,jdJ,jdH,jdI]
        refine wpAnyIn_ready (rs:=[3]) (by kernel_rfl) (by simp) ?_;refine AllReadyIn.cons rfl (fun K hK=>?_) ?_
        ·have HK:=ae hK
         clear hK;go_simp
         refine⟨trivial,?_⟩;refine(CallsIn.inRound l (callsIn_wide.2 (Yu.o V4.drew))).mono ?_;rintro e w5 ⟨⟨v5,rfl,o5⟩,hb5'⟩;have bD:Below V4.heap.size V4 w5:=(ap (jdv V4.heap.size V4) 1).trans hb5';obtain⟨⟨q1,q2⟩,⟨q3,q4⟩⟩:=(iG.o.kept bD).cells;have dE:=ae o5;have aR:=ae bD;clear o5 bD hb5';dsimp only
         refine HK.o _ _ ?_;clear HK K;try simp only[Act.put,jdJ,jdH,jdI]
         refine wpAnyIn_ready (rs:=[4]) (by kernel_rfl) (by simp) ?_;refine AllReadyIn.cons rfl (fun K hK=>?_) ?_
         ·have HK:=ae hK
          clear hK;rw[jdu (by rfl)];refine df _ _ rfl A.heap.size _ _ M2 UV rfl (iG.o.kept aR.o).2.2.2.2.1 rfl dE.o.sv Yt (by omega) (jdF ol.o.size aR.o.size) ?_;intro v6 w6 o6 g6 e6;obtain⟨a6,cap6,pd,_,_⟩:=aM o6;rw[jdy]at pd;subst pd;obtain⟨⟨f1,f2⟩,iE,iF⟩:=(iG.o.kept aR.o).swap.app (jdF ol.o.size aR.o.size) o6 g6 e6;have uV:=ae iE.swap;have Ce:=ae iF;have kK:=ae g6;clear o6 g6 e6 iE iF;refine HK.o _ _ ?_;clear HK K;try simp only[Act.put,jdJ,jdH,jdI]
          refine wpAnyIn_ready (rs:=[5]) (by kernel_rfl) (by simp) ?_;refine AllReadyIn.cons rfl (fun K hK=>?_) ?_
          ·have HK:=ae hK
           clear hK;go_simp
           refine HK.o _ _ ?_;clear HK K;try simp only[Act.put,jdJ,jdH,jdI]
           refine wpAnyIn_done (by kernel_rfl) ?_ _;gi_wp2
           gi_meet
           exact⟨_,uV.o,⟨(iG.o.kept aR.o).swap.other kK.o ((aR.o.block _ oe.o.1.lt).trans oe.o.1) (by decide) (by decide),(iG.o.kept aR.o).swap.other kK.o ((aR.o.block _ oe.o.2.lt).trans oe.o.2) (by decide) (by decide)⟩,(iG.o.kept aR.o).swap.keepV kK.o (OwnV.kept Vj.o aR.o) (by decide) (by decide),(Vk.o.trans (eg aR.o)).trans ((iG.o.kept aR.o).swap.keeps kK.o),(ol.o.trans (aR.o.mono ol.o.size)).trans Ce.o⟩
          exact AllReadyIn.nil
         exact AllReadyIn.nil
        exact AllReadyIn.nil
       exact AllReadyIn.nil
      refine AllReadyIn.cons rfl (fun K hK=>?_) ?_
      ·have HK:=ae hK
       clear hK;go_simp
       refine HK.o _ _ ?_;clear HK K;try simp only[Act.put,jdJ,jdH,jdI]
       refine wpAnyIn_ready (rs:=[0,3]) (by kernel_rfl) (by simp) ?_;refine AllReadyIn.cons rfl (fun K hK=>?_) ?_
       ·have HK:=ae hK
        clear hK;go_simp
        refine HK.o _ _ ?_;clear HK K;try simp only[Act.put,jdJ,jdH,jdI]
        refine wpAnyIn_ready (rs:=[3]) (by kernel_rfl) (by simp) ?_;refine AllReadyIn.cons rfl (fun K hK=>?_) ?_
        ·have HK:=ae hK
         clear hK;go_simp
         refine⟨trivial,?_⟩;refine(CallsIn.inRound l (callsIn_wide.2 (Yu.o V4.drew))).mono ?_;rintro e w5 ⟨⟨v5,rfl,o5⟩,hb5'⟩;have bD:Below V4.heap.size V4 w5:=(ap (jdv V4.heap.size V4) 1).trans hb5';obtain⟨⟨q1,q2⟩,⟨q3,q4⟩⟩:=(iG.o.kept bD).cells;have dE:=ae o5;have aR:=ae bD;clear o5 bD hb5';dsimp only
         refine HK.o _ _ ?_;clear HK K;try simp only[Act.put,jdJ,jdH,jdI]
         refine wpAnyIn_ready (rs:=[4]) (by kernel_rfl) (by simp) ?_;refine AllReadyIn.cons rfl (fun K hK=>?_) ?_
         ·have HK:=ae hK
          clear hK;rw[jdu (by rfl)];refine df _ _ rfl A.heap.size _ _ M2 UV rfl (iG.o.kept aR.o).2.2.2.2.1 rfl dE.o.sv Yt (by omega) (jdF ol.o.size aR.o.size) ?_;intro v6 w6 o6 g6 e6;obtain⟨a6,cap6,pd,_,_⟩:=aM o6;rw[jdy]at pd;subst pd;obtain⟨⟨f1,f2⟩,iE,iF⟩:=(iG.o.kept aR.o).swap.app (jdF ol.o.size aR.o.size) o6 g6 e6;have uV:=ae iE.swap;have Ce:=ae iF;have kK:=ae g6;clear o6 g6 e6 iE iF;refine HK.o _ _ ?_;clear HK K;try simp only[Act.put,jdJ,jdH,jdI]
          refine wpAnyIn_ready (rs:=[5]) (by kernel_rfl) (by simp) ?_;refine AllReadyIn.cons rfl (fun K hK=>?_) ?_
          ·have HK:=ae hK
           clear hK;go_simp
           refine HK.o _ _ ?_;clear HK K;try simp only[Act.put,jdJ,jdH,jdI]
           refine wpAnyIn_done (by kernel_rfl) ?_ _;gi_wp2
           gi_meet
           exact⟨_,uV.o,⟨(iG.o.kept aR.o).swap.other kK.o ((aR.o.block _ oe.o.1.lt).trans oe.o.1) (by decide) (by decide),(iG.o.kept aR.o).swap.other kK.o ((aR.o.block _ oe.o.2.lt).trans oe.o.2) (by decide) (by decide)⟩,(iG.o.kept aR.o).swap.keepV kK.o (OwnV.kept Vj.o aR.o) (by decide) (by decide),(Vk.o.trans (eg aR.o)).trans ((iG.o.kept aR.o).swap.keeps kK.o),(ol.o.trans (aR.o.mono ol.o.size)).trans Ce.o⟩
          exact AllReadyIn.nil
         exact AllReadyIn.nil
        exact AllReadyIn.nil
       refine AllReadyIn.cons rfl (fun K hK=>?_) ?_
       ·have HK:=ae hK
        clear hK;go_simp
        refine⟨trivial,?_⟩;refine(CallsIn.inRound l (callsIn_wide.2 (Yu.o V4.drew))).mono ?_;rintro e w5 ⟨⟨v5,rfl,o5⟩,hb5'⟩;have bD:Below V4.heap.size V4 w5:=(ap (jdv V4.heap.size V4) 1).trans hb5';obtain⟨⟨q1,q2⟩,⟨q3,q4⟩⟩:=(iG.o.kept bD).cells;have dE:=ae o5;have aR:=ae bD;clear o5 bD hb5';dsimp only
        refine HK.o _ _ ?_;clear HK K;try simp only[Act.put,jdJ,jdH,jdI]
        refine wpAnyIn_ready (rs:=[0]) (by kernel_rfl) (by simp) ?_;refine AllReadyIn.cons rfl (fun K hK=>?_) ?_
        ·have HK:=ae hK
         clear hK;go_simp
         refine HK.o _ _ ?_;clear HK K;try simp only[Act.put,jdJ,jdH,jdI]
         refine wpAnyIn_ready (rs:=[4]) (by kernel_rfl) (by simp) ?_;refine AllReadyIn.cons rfl (fun K hK=>?_) ?_
         ·have HK:=ae hK
          clear hK;rw[jdu (by rfl)];refine df _ _ rfl A.heap.size _ _ M2 UV rfl (iG.o.kept aR.o).2.2.2.2.1 rfl dE.o.sv Yt (by omega) (jdF ol.o.size aR.o.size) ?_;intro v6 w6 o6 g6 e6;obtain⟨a6,cap6,pd,_,_⟩:=aM o6;rw[jdy]at pd;subst pd;obtain⟨⟨f1,f2⟩,iE,iF⟩:=(iG.o.kept aR.o).swap.app (jdF ol.o.size aR.o.size) o6 g6 e6;have uV:=ae iE.swap;have Ce:=ae iF;have kK:=ae g6;clear o6 g6 e6 iE iF;refine HK.o _ _ ?_;clear HK K;try simp only[Act.put,jdJ,jdH,jdI]
          refine wpAnyIn_ready (rs:=[5]) (by kernel_rfl) (by simp) ?_;refine AllReadyIn.cons rfl (fun K hK=>?_) ?_
          ·have HK:=ae hK
           clear hK;go_simp
           refine HK.o _ _ ?_;clear HK K;try simp only[Act.put,jdJ,jdH,jdI]
           refine wpAnyIn_done (by kernel_rfl) ?_ _;gi_wp2
           gi_meet
           exact⟨_,uV.o,⟨(iG.o.kept aR.o).swap.other kK.o ((aR.o.block _ oe.o.1.lt).trans oe.o.1) (by decide) (by decide),(iG.o.kept aR.o).swap.other kK.o ((aR.o.block _ oe.o.2.lt).trans oe.o.2) (by decide) (by decide)⟩,(iG.o.kept aR.o).swap.keepV kK.o (OwnV.kept Vj.o aR.o) (by decide) (by decide),(Vk.o.trans (eg aR.o)).trans ((iG.o.kept aR.o).swap.keeps kK.o),(ol.o.trans (aR.o.mono ol.o.size)).trans Ce.o⟩
          exact AllReadyIn.nil
         exact AllReadyIn.nil
        exact AllReadyIn.nil
       exact AllReadyIn.nil
      exact AllReadyIn.nil
     exact AllReadyIn.nil
    case rest =>
    obtain⟨vf,Cf,hpq,hov,hko,Aj⟩:=hcut;have hg3l:(M2++UV).length<=510010:=by rw[jdy];omega
    generalize hM3:M2++UV=M3 at *;have UO:=ae hM3;clear hM3;obtain⟨⟨q1,q2⟩,⟨q3,q4⟩⟩:=Cf.cells;obtain⟨af,capf,rfl⟩:=Cf.2.2.2.2.1.slice;have jc:=ae Cf;have pe:=ae hpq;have jb8:=ae hov;have Yv:=ae hko;have pf:=ae Aj;clear Cf hpq hov hko Aj iG oe Vj Vk ol;gi_wp2
    have HME:jfp (fs.length-(intOf (.int .i64 ((k:Int)+1))).toNat<fs.length-(intOf (.int .i64 (k:Int))).toNat):=ae (by simp[intOf];omega)
    have pH:jfp (∀(U:World) (x1 x2:Value),Bx2 U A.heap.size Bb Bf x1 x2 N1 (M3++SB)->Bx2 U A.heap.size Bb Bf x1 x2 (G1++eN fs PT (k+1)) (G2++ftK fs PT (k+1))):=ae (fun U x1 x2 h9=>by
     rw[← Kp.o,← Qa.o,← UO.o,← KB.o]at h9;rw[HBSk.o,HFSk.o];simpa using h9)
    refine wpIn_region_any (by kernel_rfl) ?_;change wpAnyIn _ _ _ _ _ _ _ _ _ wc.drew
    refine wpAnyIn_ready (rs:=[0,1]) (by kernel_rfl) (by simp) ?_;refine AllReadyIn.cons rfl (fun K hK=>?_) ?_
    ·have HK:=ae hK
     clear hK;go_simp
     refine HK.o _ _ ?_;clear HK K;try simp only[Act.put,jdJ,jdH,jdI]
     refine wpAnyIn_ready (rs:=[1]) (by kernel_rfl) (by simp) ?_;refine AllReadyIn.cons rfl (fun K hK=>?_) ?_
     ·have HK:=ae hK
      clear hK;go_simp
      refine HK.o _ _ ?_;clear HK K;try simp only[Act.put,jdJ,jdH,jdI]
      refine wpAnyIn_ready (rs:=[2]) (by kernel_rfl) (by simp) ?_;refine AllReadyIn.cons rfl (fun K hK=>?_) ?_
      ·have HK:=ae hK
       clear hK;go_simp
       refine⟨trivial,?_⟩;refine(CallsIn.inRound l (callsIn_wide.2 (jb5.o wc.drew _ _ (OwnV.kept jb8.o (ap (jdv wc.heap.size wc) 1))))).mono ?_;rintro e w4 ⟨rfl,hb4'⟩;have bK:Below wc.heap.size wc w4:=(ap (jdv wc.heap.size wc) 1).trans hb4';obtain⟨⟨q1,q2⟩,⟨q3,q4⟩⟩:=(jc.o.kept bK).cells;have cx:=ae bK;clear bK hb4';dsimp only
       refine HK.o _ _ ?_;clear HK K;try simp only[Act.put,jdJ,jdH,jdI]
       refine wpAnyIn_ready (rs:=[3]) (by kernel_rfl) (by simp) ?_;refine AllReadyIn.cons rfl (fun K hK=>?_) ?_
       ·have HK:=ae hK
        clear hK;go_simp
        refine⟨trivial,?_⟩;refine(CallsIn.inRound l (callsIn_wide.2 (Vh.o w4))).mono ?_;rintro e w5 ⟨⟨v5,rfl,o5⟩,hb5'⟩;have bD:Below wc.heap.size wc w5:=ai cx.o hb5';obtain⟨⟨q1,q2⟩,⟨q3,q4⟩⟩:=(jc.o.kept bD).cells;have dE:=ae o5;have aR:=ae bD;clear o5 bD hb5';dsimp only
        refine HK.o _ _ ?_;clear HK K;try simp only[Act.put,jdJ,jdH,jdI]
        refine wpAnyIn_ready (rs:=[4]) (by kernel_rfl) (by simp) ?_;refine AllReadyIn.cons rfl (fun K hK=>?_) ?_
        ·have HK:=ae hK
         clear hK;rw[jdu (by rfl)];refine df _ _ rfl A.heap.size _ _ M3 SB rfl (jc.o.kept aR.o).2.2.2.2.1 rfl dE.o.sv t6 (by omega) (jdF pf.o.size aR.o.size) ?_;intro v6 w6 o6 g6 e6;obtain⟨a6,cap6,pd,_,_⟩:=aM o6;rw[jdy]at pd;subst pd;obtain⟨⟨f1,f2⟩,iE,iF⟩:=(jc.o.kept aR.o).swap.app (jdF pf.o.size aR.o.size) o6 g6 e6;have uV:=ae iE.swap;have Ce:=ae iF;have kK:=ae g6;clear o6 g6 e6 iE iF;refine HK.o _ _ ?_;clear HK K;try simp only[Act.put,jdJ,jdH,jdI]
         refine wpAnyIn_ready (rs:=[5]) (by kernel_rfl) (by simp) ?_;refine AllReadyIn.cons rfl (fun K hK=>?_) ?_
         ·have HK:=ae hK
          clear hK;go_simp
          refine HK.o _ _ ?_;clear HK K;try simp only[Act.put,jdJ,jdH,jdI]
          refine wpAnyIn_done (by kernel_rfl) ?_ _;gi_wp2
          go_roundw
          case rel =>
           have qp:k+1<=fs.length:=aB;have lq:Value.int .i64 ((k:Int)+1)=Value.int .i64 ((k+1:Nat):Int):=by simp
           exact⟨k+1,_,_,qp,lq,pH.o _ _ _ uV.o,⟨(jc.o.kept aR.o).swap.other kK.o ((aR.o.block _ pe.o.1.lt).trans pe.o.1) (by decide) (by decide),(jc.o.kept aR.o).swap.other kK.o ((aR.o.block _ pe.o.2.lt).trans pe.o.2) (by decide) (by decide)⟩,(Yv.o.trans (eg aR.o)).trans ((jc.o.kept aR.o).swap.keeps kK.o),(pf.o.trans (aR.o.mono pf.o.size)).trans Ce.o⟩
          case measure=>exact HME.o
         exact AllReadyIn.nil
        exact AllReadyIn.nil
       exact AllReadyIn.nil
      exact AllReadyIn.nil
     exact AllReadyIn.nil
    refine AllReadyIn.cons rfl (fun K hK=>?_) ?_
    ·have HK:=ae hK
     clear hK;go_simp
     refine HK.o _ _ ?_;clear HK K;try simp only[Act.put,jdJ,jdH,jdI]
     refine wpAnyIn_ready (rs:=[0,2]) (by kernel_rfl) (by simp) ?_;refine AllReadyIn.cons rfl (fun K hK=>?_) ?_
     ·have HK:=ae hK
      clear hK;go_simp
      refine HK.o _ _ ?_;clear HK K;try simp only[Act.put,jdJ,jdH,jdI]
      refine wpAnyIn_ready (rs:=[2]) (by kernel_rfl) (by simp) ?_;refine AllReadyIn.cons rfl (fun K hK=>?_) ?_
      ·have HK:=ae hK
       clear hK;go_simp
       refine⟨trivial,?_⟩;refine(CallsIn.inRound l (callsIn_wide.2 (jb5.o wc.drew _ _ (OwnV.kept jb8.o (ap (jdv wc.heap.size wc) 1))))).mono ?_;rintro e w4 ⟨rfl,hb4'⟩;have bK:Below wc.heap.size wc w4:=(ap (jdv wc.heap.size wc) 1).trans hb4';obtain⟨⟨q1,q2⟩,⟨q3,q4⟩⟩:=(jc.o.kept bK).cells;have cx:=ae bK;clear bK hb4';dsimp only
       refine HK.o _ _ ?_;clear HK K;try simp only[Act.put,jdJ,jdH,jdI]
       refine wpAnyIn_ready (rs:=[3]) (by kernel_rfl) (by simp) ?_;refine AllReadyIn.cons rfl (fun K hK=>?_) ?_
       ·have HK:=ae hK
        clear hK;go_simp
        refine⟨trivial,?_⟩;refine(CallsIn.inRound l (callsIn_wide.2 (Vh.o w4))).mono ?_;rintro e w5 ⟨⟨v5,rfl,o5⟩,hb5'⟩;have bD:Below wc.heap.size wc w5:=ai cx.o hb5';obtain⟨⟨q1,q2⟩,⟨q3,q4⟩⟩:=(jc.o.kept bD).cells;have dE:=ae o5;have aR:=ae bD;clear o5 bD hb5';dsimp only
        refine HK.o _ _ ?_;clear HK K;try simp only[Act.put,jdJ,jdH,jdI]
        refine wpAnyIn_ready (rs:=[4]) (by kernel_rfl) (by simp) ?_;refine AllReadyIn.cons rfl (fun K hK=>?_) ?_
        ·have HK:=ae hK
         clear hK;rw[jdu (by rfl)];refine df _ _ rfl A.heap.size _ _ M3 SB rfl (jc.o.kept aR.o).2.2.2.2.1 rfl dE.o.sv t6 (by omega) (jdF pf.o.size aR.o.size) ?_;intro v6 w6 o6 g6 e6;obtain⟨a6,cap6,pd,_,_⟩:=aM o6;rw[jdy]at pd;subst pd;obtain⟨⟨f1,f2⟩,iE,iF⟩:=(jc.o.kept aR.o).swap.app (jdF pf.o.size aR.o.size) o6 g6 e6;have uV:=ae iE.swap;have Ce:=ae iF;have kK:=ae g6;clear o6 g6 e6 iE iF;refine HK.o _ _ ?_;clear HK K;try simp only[Act.put,jdJ,jdH,jdI]
         refine wpAnyIn_ready (rs:=[5]) (by kernel_rfl) (by simp) ?_;refine AllReadyIn.cons rfl (fun K hK=>?_) ?_
         ·have HK:=ae hK
          clear hK;go_simp
          refine HK.o _ _ ?_;clear HK K;try simp only[Act.put,jdJ,jdH,jdI]
          refine wpAnyIn_done (by kernel_rfl) ?_ _;gi_wp2
          go_roundw
          case rel =>
           have qp:k+1<=fs.length:=aB;have lq:Value.int .i64 ((k:Int)+1)=Value.int .i64 ((k+1:Nat):Int):=by simp
           exact⟨k+1,_,_,qp,lq,pH.o _ _ _ uV.o,⟨(jc.o.kept aR.o).swap.other kK.o ((aR.o.block _ pe.o.1.lt).trans pe.o.1) (by decide) (by decide),(jc.o.kept aR.o).swap.other kK.o ((aR.o.block _ pe.o.2.lt).trans pe.o.2) (by decide) (by decide)⟩,(Yv.o.trans (eg aR.o)).trans ((jc.o.kept aR.o).swap.keeps kK.o),(pf.o.trans (aR.o.mono pf.o.size)).trans Ce.o⟩
          case measure=>exact HME.o
         exact AllReadyIn.nil
        exact AllReadyIn.nil
       exact AllReadyIn.nil
      exact AllReadyIn.nil
     refine AllReadyIn.cons rfl (fun K hK=>?_) ?_
     ·have HK:=ae hK
      clear hK;go_simp
      refine⟨trivial,?_⟩;refine(CallsIn.inRound l (callsIn_wide.2 (jb5.o wc.drew _ _ (OwnV.kept jb8.o (ap (jdv wc.heap.size wc) 1))))).mono ?_;rintro e w4 ⟨rfl,hb4'⟩;have bK:Below wc.heap.size wc w4:=(ap (jdv wc.heap.size wc) 1).trans hb4';obtain⟨⟨q1,q2⟩,⟨q3,q4⟩⟩:=(jc.o.kept bK).cells;have cx:=ae bK;clear bK hb4';dsimp only
      refine HK.o _ _ ?_;clear HK K;try simp only[Act.put,jdJ,jdH,jdI]
      refine wpAnyIn_ready (rs:=[0,3]) (by kernel_rfl) (by simp) ?_;refine AllReadyIn.cons rfl (fun K hK=>?_) ?_
      ·have HK:=ae hK
       clear hK;go_simp
       refine HK.o _ _ ?_;clear HK K;try simp only[Act.put,jdJ,jdH,jdI]
       refine wpAnyIn_ready (rs:=[3]) (by kernel_rfl) (by simp) ?_;refine AllReadyIn.cons rfl (fun K hK=>?_) ?_
       ·have HK:=ae hK
        clear hK;go_simp
        refine⟨trivial,?_⟩;refine(CallsIn.inRound l (callsIn_wide.2 (Vh.o w4))).mono ?_;rintro e w5 ⟨⟨v5,rfl,o5⟩,hb5'⟩;have bD:Below wc.heap.size wc w5:=ai cx.o hb5';obtain⟨⟨q1,q2⟩,⟨q3,q4⟩⟩:=(jc.o.kept bD).cells;have dE:=ae o5;have aR:=ae bD;clear o5 bD hb5';dsimp only
        refine HK.o _ _ ?_;clear HK K;try simp only[Act.put,jdJ,jdH,jdI]
        refine wpAnyIn_ready (rs:=[4]) (by kernel_rfl) (by simp) ?_;refine AllReadyIn.cons rfl (fun K hK=>?_) ?_
        ·have HK:=ae hK
         clear hK;rw[jdu (by rfl)];refine df _ _ rfl A.heap.size _ _ M3 SB rfl (jc.o.kept aR.o).2.2.2.2.1 rfl dE.o.sv t6 (by omega) (jdF pf.o.size aR.o.size) ?_;intro v6 w6 o6 g6 e6;obtain⟨a6,cap6,pd,_,_⟩:=aM o6;rw[jdy]at pd;subst pd;obtain⟨⟨f1,f2⟩,iE,iF⟩:=(jc.o.kept aR.o).swap.app (jdF pf.o.size aR.o.size) o6 g6 e6;have uV:=ae iE.swap;have Ce:=ae iF;have kK:=ae g6;clear o6 g6 e6 iE iF;refine HK.o _ _ ?_;clear HK K;try simp only[Act.put,jdJ,jdH,jdI]
         refine wpAnyIn_ready (rs:=[5]) (by kernel_rfl) (by simp) ?_;refine AllReadyIn.cons rfl (fun K hK=>?_) ?_
         ·have HK:=ae hK
          clear hK;go_simp
          refine HK.o _ _ ?_;clear HK K;try simp only[Act.put,jdJ,jdH,jdI]
          refine wpAnyIn_done (by kernel_rfl) ?_ _;gi_wp2
          go_roundw
          case rel =>
           have qp:k+1<=fs.length:=aB;have lq:Value.int .i64 ((k:Int)+1)=Value.int .i64 ((k+1:Nat):Int):=by simp
           exact⟨k+1,_,_,qp,lq,pH.o _ _ _ uV.o,⟨(jc.o.kept aR.o).swap.other kK.o ((aR.o.block _ pe.o.1.lt).trans pe.o.1) (by decide) (by decide),(jc.o.kept aR.o).swap.other kK.o ((aR.o.block _ pe.o.2.lt).trans pe.o.2) (by decide) (by decide)⟩,(Yv.o.trans (eg aR.o)).trans ((jc.o.kept aR.o).swap.keeps kK.o),(pf.o.trans (aR.o.mono pf.o.size)).trans Ce.o⟩
          case measure=>exact HME.o
         exact AllReadyIn.nil
        exact AllReadyIn.nil
       exact AllReadyIn.nil
      refine AllReadyIn.cons rfl (fun K hK=>?_) ?_
      ·have HK:=ae hK
       clear hK;go_simp
       refine⟨trivial,?_⟩;refine(CallsIn.inRound l (callsIn_wide.2 (Vh.o w4))).mono ?_;rintro e w5 ⟨⟨v5,rfl,o5⟩,hb5'⟩;have bD:Below wc.heap.size wc w5:=ai cx.o hb5';obtain⟨⟨q1,q2⟩,⟨q3,q4⟩⟩:=(jc.o.kept bD).cells;have dE:=ae o5;have aR:=ae bD;clear o5 bD hb5';dsimp only
       refine HK.o _ _ ?_;clear HK K;try simp only[Act.put,jdJ,jdH,jdI]
       refine wpAnyIn_ready (rs:=[0]) (by kernel_rfl) (by simp) ?_;refine AllReadyIn.cons rfl (fun K hK=>?_) ?_
       ·have HK:=ae hK
        clear hK;go_simp
        refine HK.o _ _ ?_;clear HK K;try simp only[Act.put,jdJ,jdH,jdI]
        refine wpAnyIn_ready (rs:=[4]) (by kernel_rfl) (by simp) ?_;refine AllReadyIn.cons rfl (fun K hK=>?_) ?_
        ·have HK:=ae hK
         clear hK;rw[jdu (by rfl)];refine df _ _ rfl A.heap.size _ _ M3 SB rfl (jc.o.kept aR.o).2.2.2.2.1 rfl dE.o.sv t6 (by omega) (jdF pf.o.size aR.o.size) ?_;intro v6 w6 o6 g6 e6;obtain⟨a6,cap6,pd,_,_⟩:=aM o6;rw[jdy]at pd;subst pd;obtain⟨⟨f1,f2⟩,iE,iF⟩:=(jc.o.kept aR.o).swap.app (jdF pf.o.size aR.o.size) o6 g6 e6;have uV:=ae iE.swap;have Ce:=ae iF;have kK:=ae g6;clear o6 g6 e6 iE iF;refine HK.o _ _ ?_;clear HK K;try simp only[Act.put,jdJ,jdH,jdI]
         refine wpAnyIn_ready (rs:=[5]) (by kernel_rfl) (by simp) ?_;refine AllReadyIn.cons rfl (fun K hK=>?_) ?_
         ·have HK:=ae hK
          clear hK;go_simp
          refine HK.o _ _ ?_;clear HK K;try simp only[Act.put,jdJ,jdH,jdI]
          refine wpAnyIn_done (by kernel_rfl) ?_ _;gi_wp2
          go_roundw
          case rel =>
           have qp:k+1<=fs.length:=aB;have lq:Value.int .i64 ((k:Int)+1)=Value.int .i64 ((k+1:Nat):Int):=by simp
           exact⟨k+1,_,_,qp,lq,pH.o _ _ _ uV.o,⟨(jc.o.kept aR.o).swap.other kK.o ((aR.o.block _ pe.o.1.lt).trans pe.o.1) (by decide) (by decide),(jc.o.kept aR.o).swap.other kK.o ((aR.o.block _ pe.o.2.lt).trans pe.o.2) (by decide) (by decide)⟩,(Yv.o.trans (eg aR.o)).trans ((jc.o.kept aR.o).swap.keeps kK.o),(pf.o.trans (aR.o.mono pf.o.size)).trans Ce.o⟩
          case measure=>exact HME.o
         exact AllReadyIn.nil
        exact AllReadyIn.nil
       exact AllReadyIn.nil
      exact AllReadyIn.nil
     exact AllReadyIn.nil
    exact AllReadyIn.nil
   ·obtain rfl:k=fs.length:=by omega
    have gj:¬ ((fs.length:Nat):Int)<(fs.length:Int):=(by omega);gi_wp2
    refine⟨HKOr.o,⟨(show _=_ from HPQr.o.1).trans (show _=_ from HPQ.o.1).symm,(show _=_ from HPQr.o.2).trans (show _=_ from HPQ.o.2).symm⟩,⟨⟨u1,u2,?_⟩,HPQr.o.1,HPQr.o.2⟩,HBAr.o⟩;have h9:=HBXr.o;rw[← HZ1.o,← LU.o]at h9;exact h9
 case done =>
  rintro D ys W hD rfl ⟨⟨⟨v1,v2,Cf⟩,VU,yC⟩,Aj⟩ hK
  have hG1:([67,70,49]++(List.range (nps g rs.length)).flatMap fun j=>eN fs (prt g rs j) fs.length).length<=50000000:=by
   have h1:=iC (m:=172800) (fun j=>jdF (ml (fun k lq=>eX (dC.part g j) hk (by rw[bZ];omega) lq) (jdw _)).1 (by omega)) (List.range (nps g rs.length));have h2:=ki (n:=rs.length) eS pE;rw[jfi]at h1;rw[jdy];simp only[jdD,jdX];have:172800*nps g rs.length<=172800*256:=jey _ h2;omega
  have hG2:(F2++(List.range (nps g rs.length)).flatMap fun j=>ftK fs (prt g rs j) fs.length).length<=500000:=by
   have h1:=iC (m:=1360) (fun j=>jdF (oR (dC.part g j) (by rw[bZ];omega) (fun k lq=>eX (dC.part g j) hk (by rw[bZ];omega) lq) (jdw _)).1 (by omega)) (List.range (nps g rs.length));have h2:=ki (n:=rs.length) eS pE;rw[jfi]at h1;rw[jdy];have:1360*nps g rs.length<=1360*256:=jey _ h2;omega
  have hG3:0<(F2++(List.range (nps g rs.length)).flatMap fun j=>ftK fs (prt g rs j) fs.length).length:=by
   rw[← hF2,← hF1];simp only[jdy];omega
  have BZ:jfp (ew id fs rs g=([67,70,49]++(List.range (nps g rs.length)).flatMap fun j=>eN fs (prt g rs j) fs.length)++(F2++(List.range (nps g rs.length)).flatMap fun j=>ftK fs (prt g rs j) fs.length)++le4 (F2++(List.range (nps g rs.length)).flatMap fun j=>ftK fs (prt g rs j) fs.length).length):=ae (by
   unfold ew md ge;rw[← hF2,← hF1,HE0.o,Zw.o,HE2.o];simp only[jdL];rfl)
  generalize ([67,70,49]++(List.range (nps g rs.length)).flatMap fun j=>eN fs (prt g rs j) fs.length)=G1 at *;generalize (F2++(List.range (nps g rs.length)).flatMap fun j=>ftK fs (prt g rs j) fs.length)=G2 at *;obtain⟨⟨q1,q2⟩,⟨q3,q4⟩⟩:=Cf.cells;obtain⟨a8,cap8,rfl⟩:=Cf.2.2.2.1.slice;obtain⟨a9,cap9,rfl⟩:=Cf.2.2.2.2.1.slice;have ms:=ae Cf;have fd:=ae Aj;have HK:=ae hK;have HL4:=ae (NO G2.length (by omega));clear Cf Aj hK VU yC;go_wp2_with (first | (at_builtin;refine jI rfl _ _ rfl A.heap.size _ _ G1 G2 rfl ms.o.2.2.2.1 rfl ms.o.2.2.2.2.1.sv hG3 ?n1 ?n2 ?_))
  case n1=>omega
  case n2=>exact fd.o.size
  intro v10 w10 o10 g10 e10;obtain⟨a10,cap10,hv10,_,_⟩:=aM o10;subst hv10;obtain⟨⟨f1,f2⟩,Vl,ZC⟩:=ms.o.app fd.o.size o10 g10 e10;have hk10:=ms.o.keeps (v':=.slice a10 (G1++G2).length cap10) g10;have Qf:=ae Vl;have uL:=ae (fd.o.trans ZC);have HK10:=ae (hk10.same D _ HK.o rfl);have hG12:(G1++G2).length<=50500000:=by rw[jdy];omega
  generalize hGG:G1++G2=GG at *;clear o10 g10 e10 ZC hk10 ms fd HK q1 q2 q3 q4;obtain⟨⟨q1,q2⟩,⟨q3,q4⟩⟩:=Vl.cells;clear Vl;go_wp2_with fail;generalize hV:w10.setCell ⟨Bb,0,none⟩ (.slice a10 GG.length cap10)=V at *;clear hV f1 f2
  have HC9:jfp (∀ U,Below V.heap.size V U->Calls Tryz.prog 85 #[.int .i64 (G2.length:Int)] U fun e w'=>∃ v,e=.returned v/\Sv w' v (aF .u8 (le4 G2.length))/\Below V.heap.size V w'/\w'.cell? ⟨Bb,0,none⟩=some (.slice a10 GG.length cap10)/\w'.cell? ⟨Bf,0,none⟩=some (.slice a9 G2.length cap9)):=ae (fun U hU=>by
   refine(HL4.o U).mono ?_;rintro e w' ⟨⟨v,rfl,ho⟩,hb⟩;have h9:=(Qf.o.kept (ai hU hb)).cells;exact⟨v,rfl,ho.sv,ai hU hb,h9.1.1,h9.2.1⟩)
  have hL4:0<(le4 G2.length).length:=by simp[le4]
  have hL4':(le4 G2.length).length=4:=by simp[le4]
  generalize le4 G2.length=LL at *;refine wp_region_noPanic ?_
  go_region_law (first
   | (refine lB (by rfl) _ _ (by rfl) A.heap.size _ _ GG LL (by rfl) ?_ (by rfl) dE.o hL4 ?_ ?_ ?_;exact(Qf.o.kept aR.o).2.2.2.1;omega;exact jdF uL.o.size aR.o.size;intro v6 w6 o6 g6 e6;have mT:=ae o6;have HK6:=ae ((Qf.o.kept aR.o).2.2.2.1.deferred g6 (NS aR.o HK10.o) rfl);have ja:=ae ((uL.o.trans (aR.o.mono uL.o.size)).trans ((Qf.o.kept aR.o).2.2.2.1.below g6 (jdF uL.o.size aR.o.size)));clear o6 g6 e6)
   | (go_simp;go_at_call 85;refine(HC9.o _ ?_).mono ?_;exact ap (jdv V.heap.size V) 1;rintro e w5 ⟨v5,rfl,fZ,bD,hc5,hc6⟩;have dE:=ae fZ;have aR:=ae bD;clear fZ bD;dsimp only)
   | fail)
  all_goals refine NoPanic.normal ?_
  all_goals go_wp2_with fail
  all_goals refine⟨by simp,.inl ⟨_,_,rfl,run_takeDeferred HK6.o,?_⟩⟩
  all_goals refine⟨_,results_tmp rfl _ _ _,⟨_,rfl,?_⟩,?_⟩
  all_goals first
   | exact ai ce.o (ja.o.trans (belowK_b (w:=Z) hAZs _ D _ _ hD HK6.o rfl rfl))
   | (rw[BZ.o];exact be (ownsRow_putObj mT.o _ HK6.o rfl) ce.o.size)
 case stop =>
  rintro D c pre W _ _ h _;exact h.elim
end Go.Proofs.YtpljdjmpamjkhaaGreatDoor
