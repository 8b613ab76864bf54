import Derived.Test.YtpljdjmpamjkhaaGreatDoorSap
import Derived.Deep.CutRange
set_option linter.all false
set_option maxRecDepth 100000
set_option maxHeartbeats 8000000
namespace Go.Proofs.YtpljdjmpamjkhaaGreatDoor
open Tryz
open Go.RowKit Go.Lib Go.Shelf
attribute [local go_sem] Oper.semAt_some
def eU{F:Fence}{n:Nat}{P:Program}{md:Region.Mode}{ops:Array Oper}{Q:Exit->Act->World->Prop}{rs:List Nat}{fuel:Nat}{dd:Array Bool}{a:Act}{w:World}(hr:(Region.ready md ops dd==rs)=true)(dC:rs≠[])(h:AllReadyIn F n P md ops Q fuel dd a w rs):wpAnyIn F n P md ops Q (fuel+1) dd a w:=wpAnyIn_ready (eq_of_beq hr) dC h
def Vl{w:World}{fv rv:Value}{fs:List Fd}{rs:List Row}{id g:Nat}(hs:Sf w fv fs)(hr:Rv w rv rs)(ho:∀ f∈fs,Okf f)(pq:id<4294967296)(hl:fs.length<=8)(hz:szs fs<5000)(sj:rs.length<=256)(dP:1<=g)(fY:g<=64)
  (dh:gG fs rs) (hk:∀ f∈fs,1<=f.2.2.1/\f.2.2.1<=3) :
  Calls prog 41 #[.agg #[.int .u32 (id:Int),fv],rv,.int .i64 (g:Int)] w (ee w (dO id fs rs g)):=by
 obtain⟨fa,fcap,rfl,hfc1,hfc2⟩:=hs.form;obtain⟨ra,rcap,rfl,Rg,CT,hra⟩:=hr.form;have HPK:jgt (∀ U:World,Sf U (.slice fa fs.length fcap) fs->Calls prog 80 #[.agg #[.int .u32 (id:Int),.slice fa fs.length fcap]] U (ee U (eY id fs))):=ae (λU h=>TP h ho (by omega) hz id pq);have ix:=ae (λn (hn:n<9223372036854775808)=>pT n hn);have cy:=aj w (.cells #[.int .u32 (id:Int),.slice fa fs.length fcap] 25);have lC:=je2 w (.cells #[.int .u32 (id:Int),.slice fa fs.length fcap] 25);have lA:(w.alloc (.cells #[.int .u32 (id:Int),.slice fa fs.length fcap] 25)).heap.size=w.heap.size+1:=jeB _ _;have HS:=ae (hs.kept cy);have HR:=ae (hr.kept cy);have ni:=ae hr;have ce:=ae cy
 have HT:jgt (∀ U,Below (w.alloc (.cells #[.int .u32 (id:Int),.slice fa fs.length fcap] 25)).heap.size (w.alloc (.cells #[.int .u32 (id:Int),.slice fa fs.length fcap] 25)) U->U.cell? ⟨w.heap.size,0,none⟩=some (.int .u32 (id:Int))/\U.cell? ⟨w.heap.size,1,none⟩=some (.slice fa fs.length fcap)):=ae (λU hb=>by
  have hU:=(hb.block w.heap.size (by omega)).trans lC;constructor<;>(rw[an hU];rfl))
 generalize hA:w.alloc (.cells #[.int .u32 (id:Int),.slice fa fs.length fcap] 25)=A at *;have oM:=ae lA
 have KZ:(convert 30 30 (.slice (some ⟨A.heap.size,0,none⟩) 3 3)).run prog (A.alloc (.cells #[.int .u8 67,.int .u8 70,.int .u8 49] 5))=.ok (.slice (some ⟨A.heap.size,0,none⟩) 3 3) (A.alloc (.cells #[.int .u8 67,.int .u8 70,.int .u8 49] 5 (3,4))) :=
  run_convert_bytes_const A 30 5 #[.int .u8 67,.int .u8 70,.int .u8 49] 3 3 underlying30 underlying5
 obtain⟨c0,c1⟩:=HT.o A (jez _ _);clear hs hr cy lC lA;refine(callsIn_wide (n:=3)).1 ?_;refine callsIn_of_wp_marks func41 rfl trivial ?_ rfl;refine wpIn_wide.2 ?_;simp only[ntmps41,List.size_toArray,jeI,jeZ,Nat.reduceAdd,Nat.reduceSub,Array.replicate_succ,Array.replicate_zero,List.push_toArray,List.append_toArray,jfu,je5];have hbX:jgu A ((A.alloc (.cells #[.int .u8 67,.int .u8 70,.int .u8 49] 5 (3,4))).alloc (.cells #[.slice (some ⟨A.heap.size,0,none⟩) 3 3] 30)):=((jez A.heap.size A).alloc (jeA _) _).alloc (by rw[jeB];omega) _;obtain⟨d0,d1⟩:=HT.o _ hbX
 have hLit:LitM ((A.alloc (.cells #[.int .u8 67,.int .u8 70,.int .u8 49] 5 (3,4))).alloc (.cells #[.slice (some ⟨A.heap.size,0,none⟩) 3 3] 30)) A.heap.size (.slice (some ⟨A.heap.size,0,none⟩) 3 3) [67,70,49]:=by
  refine⟨rfl,_,rfl,jeA _,?_⟩;exact(Below.heap_alloc (A.alloc (.cells #[.int .u8 67,.int .u8 70,.int .u8 49] 5 (3,4))) _ A.heap.size (by rw[jeB];omega)).trans (je2 A _)
 have hBox:Boxed ((A.alloc (.cells #[.int .u8 67,.int .u8 70,.int .u8 49] 5 (3,4))).alloc (.cells #[.slice (some ⟨A.heap.size,0,none⟩) 3 3] 30)) (A.heap.size+1) 30 (.slice (some ⟨A.heap.size,0,none⟩) 3 3):=by
  have:=Boxed.new (A.alloc (.cells #[.int .u8 67,.int .u8 70,.int .u8 49] 5 (3,4))) 30 (.slice (some ⟨A.heap.size,0,none⟩) 3 3);rwa[jeB]at this
 go_wp2_with fail;generalize hX:((A.alloc (.cells #[.int .u8 67,.int .u8 70,.int .u8 49] 5 (3,4))).alloc (.cells #[.slice (some ⟨A.heap.size,0,none⟩) 3 3] 30))=X at *;clear hX KZ;refine(HPK.o _ (HS.o.kept hbX)).mono ?_;rintro e w1 ⟨⟨v1,rfl,o1⟩,az⟩;obtain⟨a1,cap1,rfl,_,_⟩:=aZ o1;have hbY:=ai az (aj w1 (.cells #[.slice a1 (eY id fs).length cap1] 30));have hboxY:=Boxed.new w1 30 (.slice a1 (eY id fs).length cap1);have hltX:A.heap.size+1<X.heap.size:=hBox.lt;have hX1:=az.size
 have hBX:Bx2 (w1.alloc (.cells #[.slice a1 (eY id fs).length cap1] 30)) A.heap.size (A.heap.size+1) w1.heap.size (.slice (some ⟨A.heap.size,0,none⟩) 3 3) (.slice a1 (eY id fs).length cap1) [67,70,49] (eY id fs):=by
  refine⟨(hbY.block (A.heap.size+1) hltX).trans hBox,hboxY,by omega,(gH.kept (Or.inr hLit) hbY),Or.inl (aM.kept (bL o1 hbX.size) (aj w1 (.cells #[.slice a1 (eY id fs).length cap1] 30))),λg hg h2=>?_,by omega,by omega⟩;have:=(World.ownsRow.lt o1 g h2).1;simp[Value.ownBlock]at hg
  omega
 have hbAY:jgu A (w1.alloc (.cells #[.slice a1 (eY id fs).length cap1] 30)):=ai hbX hbY
 have kS:jgt ((eY id fs).length<=10100):=ae (by
  have h1:=il ho (by omega) hz fs.length;rw[jeJ]at h1;have h2:=jJ id (by omega);have h3:=jJ fs.length (by omega);unfold eY;simp only[jeC];omega)
 generalize hP0:eY id fs=P0 at *;have Ri:=ae hP0;clear hP0;go_upto_region 3 with fail
 clear az o1 hbY hboxY hLit hBox hbX d0 d1 c0 c1 hX1;generalize hY:w1.alloc (.cells #[.slice a1 P0.length cap1] 30)=Y at *;generalize w1.heap.size=Bf at *;have dC:A.heap.size+1≠Bf:=hBX.2.2.1;generalize A.heap.size+1=Bb at *;clear hY hltX;have qm:=ae hBX;have fx:=ae hbAY;obtain⟨⟨q1,q2⟩,⟨q3,q4⟩⟩:=hBX.cells;clear hBX hbAY;have hup1:=wG rs.length;have hul1:=cG (n:=rs.length) (by omega);have hup2:=wG g;have hul2:=cG (n:=g) (by omega);have Gt:rs.length<9223372036854775808:=by omega
 have vY:g<9223372036854775808:=by omega
 have HCN0:=ae ix.o;have HCN1:=ae (ix.o rs.length Gt);have HCN2:=ae (ix.o g vY);generalize hP1:uv rs.length=P1 at *;generalize hP2:uv g=P2 at *;have Di:=ae hP1;have MN:=ae hP2;clear hP1 hP2
 have ME:jgt (∀ U,jgu Y U->Calls prog 81 #[.int .i64 (rs.length:Int)] U λe w'=>∃ v,e=.returned v/\Sv w' v (aA .u8 (P1))/\jgu Y w'/\w'.cell? ⟨Bf,0,none⟩=some (.slice a1 P0.length cap1)):=ae (λU hU=>by
  refine(HCN1.o U).mono ?_;rintro e w' ⟨⟨v,rfl,ho⟩,hb⟩;exact⟨v,rfl,ho.sv,ai hU hb,((qm.o.kept (ai hU hb)).cells.2).1⟩)
 go_cut [] from 15 (λwx=>∃ v2,Bx2 wx A.heap.size Bb Bf (.slice (some ⟨A.heap.size,0,none⟩) 3 3) v2 [67,70,49] (P0++P1)/\jgu A wx)
 case first =>
  refine wp_region_noPanic ?_
  go_region_law (first
   | (refine lx (by rfl) _ _ (by rfl) A.heap.size _ _ (P0) (P1) (by rfl) ?_ (by rfl) dK.o hup1 ?_ ?_ ?_;exact(qm.o.kept bq.o).2.2.2.2.1;(have:=kS.o;omega);exact jeK fx.o.size bq.o.size;intro v6 w6 o6 g6 e6;obtain⟨a6,cap6,Lp,_,_⟩:=aZ o6;rw[jeC]at Lp;subst Lp;obtain⟨⟨f1,f2⟩,yf,yg⟩:=(qm.o.kept bq.o).swap.app (jeK fx.o.size bq.o.size) o6 g6 e6;have XA:=ae yf.swap;have XL:=ae (yg);clear o6 g6 e6 yf yg)
   | (go_simp;go_at_call 81;refine(ME.o _ ?_).mono ?_;exact ak (jez Y.heap.size Y) 1;rintro e w5 ⟨v5,rfl,eQ,bQ,hc5⟩;have dK:=ae eQ;have bq:=ae bQ;clear eQ bQ;dsimp only)
   | fail)
  all_goals refine NoPanic.normal ?_
  all_goals (go_wp2_with fail;go_meet;exact⟨_,XA.o,(fx.o.trans (bq.o.mono fx.o.size)).trans XL.o⟩)
 clear ME qm fx q1 q2 q3 q4
 case rest =>
 obtain⟨v2,hBX,hbA⟩:=hcut;go_upto_region 4 with fail
 obtain⟨⟨q1,q2⟩,⟨q3,q4⟩⟩:=hBX.cells;obtain⟨a2,cap2,rfl⟩:=hBX.2.2.2.2.1.slice;have qm:=ae hBX;have fx:=ae hbA;clear hBX hbA;have hF1l:(P0++P1).length<=10110:=by have:=kS.o;rw[jeC];omega
 generalize hF1:P0++P1=F1 at *
 have CR:jgt (∀ U,jgu wc U->Calls prog 81 #[.int .i64 (g:Int)] U λe w'=>∃ v,e=.returned v/\Sv w' v (aA .u8 (P2))/\jgu wc w'/\w'.cell? ⟨Bf,0,none⟩=some (.slice a2 F1.length cap2)):=ae (λU hU=>by
  refine(HCN2.o U).mono ?_;rintro e w' ⟨⟨v,rfl,ho⟩,hb⟩;exact⟨v,rfl,ho.sv,ai hU hb,((qm.o.kept (ai hU hb)).cells.2).1⟩)
 go_cut [] from 15 (λwx=>∃ v2,Bx2 wx A.heap.size Bb Bf (.slice (some ⟨A.heap.size,0,none⟩) 3 3) v2 [67,70,49] (F1++P2)/\jgu A wx)
 case first =>
  refine wp_region_noPanic ?_
  go_region_law (first
   | (refine lx (by rfl) _ _ (by rfl) A.heap.size _ _ (F1) (P2) (by rfl) ?_ (by rfl) dK.o hup2 ?_ ?_ ?_;exact(qm.o.kept bq.o).2.2.2.2.1;(omega);exact jeK fx.o.size bq.o.size;intro v6 w6 o6 g6 e6;obtain⟨a6,cap6,Lp,_,_⟩:=aZ o6;rw[jeC]at Lp;subst Lp;obtain⟨⟨f1,f2⟩,yf,yg⟩:=(qm.o.kept bq.o).swap.app (jeK fx.o.size bq.o.size) o6 g6 e6;have XA:=ae yf.swap;have XL:=ae (yg);clear o6 g6 e6 yf yg)
   | (go_simp;go_at_call 81;refine(CR.o _ ?_).mono ?_;exact ak (jez wc.heap.size wc) 1;rintro e w5 ⟨v5,rfl,eQ,bQ,hc5⟩;have dK:=ae eQ;have bq:=ae bQ;clear eQ bQ;dsimp only)
   | fail)
  all_goals refine NoPanic.normal ?_
  all_goals (go_wp2_with fail;go_meet;exact⟨_,XA.o,(fx.o.trans (bq.o.mono fx.o.size)).trans XL.o⟩)
 clear CR qm fx q1 q2 q3 q4
 case rest =>
 obtain⟨v3,hBX,hbA⟩:=hcut;have hF2l:(F1++P2).length<=10120:=by rw[jeC];omega
 generalize hF2:F1++P2=F2 at *;have qm:=ae hBX;have fx:=ae hbA;clear hBX hbA;have HCH:=ae (Qa ra rs.length rcap g dP);go_wp2_with fail;refine(HCH.o _).mono ?_;rintro e w7 ⟨rfl,rfl⟩;go_wp2_with fail;have hbZ:jgu wc ((wc.alloc (.cells #[.slice ra rs.length rcap] 34)).alloc (.cells #[.int .i64 (g:Int)] 3)):=ai (aj _ _) (aj _ _);have Gg:Boxed ((wc.alloc (.cells #[.slice ra rs.length rcap] 34)).alloc (.cells #[.int .i64 (g:Int)] 3)) wc.heap.size 34 (.slice ra rs.length rcap):=(Boxed.new wc 34 _).alloc _
 have ng:Boxed ((wc.alloc (.cells #[.slice ra rs.length rcap] 34)).alloc (.cells #[.int .i64 (g:Int)] 3)) (wc.heap.size+1) 3 (.int .i64 (g:Int)):=by
  have:=Boxed.new (wc.alloc (.cells #[.slice ra rs.length rcap] 34)) 3 (.int .i64 (g:Int));rwa[jeB]at this
 have hBZ:=qm.o.kept hbZ;have hAZ:=ai fx.o hbZ;generalize (wc.alloc (.cells #[.slice ra rs.length rcap] 34)).alloc (.cells #[.int .i64 (g:Int)] 3)=Z at *;clear hbZ qm fx;generalize wc.heap.size+1=q at *;generalize wc.heap.size=p at *;obtain⟨PV,XE,hseq⟩:=Qc ni.o sj dP fY 2 (by omega);have hseqZ:=hseq p q Z Gg.cell ng.cell Gg.lt ng.lt;have XE:=ae XE;have hpZ:=Gg.lt;have hqZ:=ng.lt;have hAZs:=hAZ.size;clear hseq;refine wpIn_wide.1 (?_:Code.wpIn Fence.wide 3 _ _ _ _ _)
 refine wpIn_rangeFunc_ownF (F:=Fence.wide) (n:=3) rfl (by omega) (gf:=121) (lb:=#[.pointer (some ⟨p,0,none⟩),.pointer (some ⟨q,0,none⟩)]) rfl trivial (enters_of func121 (by kernel_rfl) rfl) hseqZ (λh k=>KC.trans h k) (λW l o o' hl _ _ _=>⟨World.putObj_heap_other (show p≠l by omega),World.putObj_heap_other (show q≠l by omega)⟩) (jez _ _) (λ_=>rfl)
  (λpre W=>((∃ v1 v2,Bx2 W A.heap.size Bb Bf v1 v2 ([67,70,49]++pre.flatMap λj=>gh fs (prt g rs j) fs.length) (F2++pre.flatMap λj=>ftK fs (prt g rs j) fs.length))/\Boxed W p 34 (.slice ra rs.length rcap)/\Boxed W q 3 (.int .i64 (g:Int)))/\jgu A W)
  (λ_ _ _=>False) ?hI (λ_ _ _ _ _ h _ _=>h) ?h0
  (λj=>{ tmps:=#[(.agg #[.int .u32 (id:Int),.slice fa fs.length fcap]),(.slice ra rs.length rcap),(.int .i64 (g:Int)),(.pointer (some ⟨w.heap.size,0,none⟩)),undef,undef,(.slice none 0 0),(.pointer (some ⟨Bb,0,none⟩)),(.pointer (some ⟨Bf,0,none⟩)),(PV j),undef,undef,undef,undef,undef,u15,u16,u17,u18,u19,u20,u21,u22,u23,u24,u25,u26,u27,(.slice ra rs.length rcap),(.int .i64 (g:Int)),(.func (.func 121) #[] #[.pointer (some ⟨p,0,none⟩),.pointer (some ⟨q,0,none⟩)]),(PV j),u32,u33,u34,u35,u36,u37,u38,u39,u40,u41,u42,u43,u44,u45,u46,u47,u48,u49,u50,u51,u52,u53,u54,u55,u56,u57,u58,u59,u60,u61,u62,u63,u64,u65,u66,u67,u68,u69,u70,u71],defers:=[] }) ?assign ?body ?done ?stop
 case hI =>
  rintro pre X Y' row ⟨⟨⟨v1,v2,h1⟩,h2,h3⟩,h4⟩ hg hr;refine⟨⟨⟨v1,v2,h1.turned hg (λr e=>(hr r e).2)⟩,?_,?_⟩,h4.grown hg h4.size (λk e=>jeK hAZs (hr k e).1)⟩
  ·refine h2.kept hg (λe=>?_)
   obtain⟨_,o,ho,hc⟩:=hr _ e.symm;rw[show X.heap[p]?=_ from h2]at ho;cases ho
   cases hc
  ·refine h3.kept hg (λe=>?_)
   obtain⟨_,o,ho,hc⟩:=hr _ e.symm;rw[show X.heap[q]?=_ from h3]at ho;cases ho
   cases hc
 case h0=>exact⟨⟨⟨_,_,by simpa using hBZ⟩,Gg,ng⟩,hAZ⟩
 case assign =>
  intro l x W K hK;gi_wp2
  exact hK
 case body =>
  rintro l pre j W ⟨⟨⟨v1,v2,sJ⟩,hbp,QY⟩,Lb⟩ ar;have HT1:jgt (∀ U,jgu A U->U.cell? ⟨w.heap.size,1,none⟩=some (.slice fa fs.length fcap)/\Sf U (.slice fa fs.length fcap) fs):=ae (λU hU=>⟨(HT.o U hU).2,HS.o.kept hU⟩);have mT:=bX g rs j;have jdj:(prt g rs j).length<=256:=by omega
  have Lm:=ae (λk mX=>fG (dh.part g j) hk jdj (k:=k) mX);have HBL:=ae (λk (mX:k<=fs.length)=>(rR Lm.o mX).1);have ql:=ae (λk (mX:k<=fs.length)=>(vW (dh.part g j) jdj Lm.o mX).1);have cF:=ae (λk=>Mk (dh.part g j) jdj k);have WL:=ae (λk=>fO (dh.part g j) k);have Ln:jgt (∀ U,jgu A U->Rv U (PV j) (prt g rs j)):=ae (λU hU=>XE.o U (HR.o.kept hU) j);have MH:jgt (∀ r∈prt g rs j,r.length=fs.length):=ae (λr hr=>ob (dh.part g j r hr).1);have HKN:jgt (∀ k (h:k<fs.length),mW fs k=fs[k].2.2.1):=ae (λk h=>nK h);have ze:=ae (oB fs (prt g rs j));have yq:=ae (rz fs (prt g rs j));have HZ1:jgt (([67,70,49]++(pre++[j]).flatMap λj=>gh fs (prt g rs j) fs.length)=([67,70,49]++pre.flatMap λj=>gh fs (prt g rs j) fs.length)++gh fs (prt g rs j) fs.length):=ae (by simp[jfH]);have Gw:jgt ((F2++(pre++[j]).flatMap λj=>ftK fs (prt g rs j) fs.length)=(F2++pre.flatMap λj=>ftK fs (prt g rs j) fs.length)++ftK fs (prt g rs j) fs.length):=ae (by simp[jfH]);have hpre:pre.length<=256:=by have:=iO (n:=rs.length) dP sj;omega
  have hG1:([67,70,49]++pre.flatMap λj=>gh fs (prt g rs j) fs.length).length<=50000000:=by
   have h1:=kI (m:=172800) (λj=>jeK (rR (λk mX=>fG (dh.part g j) hk (by rw[bX];omega) mX) (jeA _)).1 (by omega)) pre;rw[jeC];simp only[jeI,jeZ];have:172800*pre.length<=172800*256:=jfJ _ hpre;omega
  have hG2:(F2++pre.flatMap λj=>ftK fs (prt g rs j) fs.length).length<=500000:=by
   have h1:=kI (m:=1360) (λj=>jeK (vW (dh.part g j) (by rw[bX];omega) (λk mX=>fG (dh.part g j) hk (by rw[bX];omega) mX) (jeA _)).1 (by omega)) pre;rw[jeC];have:1360*pre.length<=1360*256:=jfJ _ hpre;omega
  have qm:=ae sJ;have HPQ:=ae (And.intro hbp QY);have fx:=ae Lb;obtain⟨ju,yc⟩:=HT1.o W Lb;clear sJ hbp QY Lb hseqZ hBZ hAZ ar mT yc XE;generalize ([67,70,49]++pre.flatMap λj=>gh fs (prt g rs j) fs.length)=G1 at *;generalize (F2++pre.flatMap λj=>ftK fs (prt g rs j) fs.length)=G2 at *;generalize prt g rs j=PT at *;generalize PV j=pv at *;gi_wp2
  gi_loopw [35] (λi wr=>∃(k:Nat) (v1 v2:Value),k<=fs.length/\i=.int .i64 (k:Int)/\Bx2 wr A.heap.size Bb Bf v1 v2 (G1++gh fs PT k) (G2++ftK fs PT k)/\(Boxed wr p 34 (.slice ra rs.length rcap)/\Boxed wr q 3 (.int .i64 (g:Int)))/\KeepsOthers W wr/\jgu A wr) (λi _=>fs.length-(intOf i).toNat)
  case atStart=>exact⟨0,v1,v2,by omega,rfl,by simpa [gh,ftK]using qm.o,HPQ.o,KeepsOthers.refl _,fx.o⟩
  case round =>
   obtain⟨k,u1,u2,uS,rfl,sJ,hpq,hko,Lb⟩:=hrel;have HBXr:=ae sJ;have HPQr:=ae hpq;have HKOr:=ae hko;have HBAr:=ae Lb;clear sJ hpq hko Lb;by_cases ar:k<fs.length
   ·have hlt':(k:Int)<(fs.length:Int):=by omega
    obtain⟨hd1,yc⟩:=HT1.o wr HBAr.o;obtain⟨bb,off,rfl,hb,x0,x1,x2,x3⟩:=yc.at ar;clear yc;have gl:=Lm.o k ar;have iV:=HBL.o k uS;have eI:=ql.o k uS;have CX:=HKN.o k ar;gi_wp2
    have Wy:jgt (∀ r∈PT,k<r.length):=ae (λr hr=>by rw[MH.o r hr];exact ar);rw[CX]at gl;have HBSk:jgt (gh fs PT (k+1)=gh fs PT k++es fs[k].2.2.1 (cx PT k)):=ae (by rw[ze.o,CX]);have HFSk:jgt (ftK fs PT (k+1)=ftK fs PT k++(uv (es fs[k].2.2.1 (cx PT k)).length++fQ (bO (cx PT k)))):=ae (by rw[yq.o,CX]);clear CX;generalize fs[k]=f at *;obtain⟨f0,f1,f2,f3⟩:=f;simp only at x0 x1 x2 x3 gl HBSk HFSk ⊢;have az:=aj wr (.cells #[.int .u32 (f0:Int),.string f1,.int .u8 (f2:Int),.bool f3] 81);obtain⟨_,_,z2,_⟩:=iM wr (.int .u32 (f0:Int)) (.string f1) (.int .u8 (f2:Int)) (.bool f3) 81;have aX:wr.heap.size<(wr.alloc (.cells #[.int .u32 (f0:Int),.string f1,.int .u8 (f2:Int),.bool f3] 81)).heap.size:=by rw[jeB];omega
    generalize wr.alloc (.cells #[.int .u32 (f0:Int),.string f1,.int .u8 (f2:Int),.bool f3] 81)=R1 at *;have aL:=ae az;clear az x0 x1 x2 x3 hd1;refine⟨trivial,?_⟩;refine(CallsIn.inRound l (callsIn_wide.2 (Cj (Ln.o R1 (ai HBAr.o aL.o)) (by omega) Wy.o))).mono ?_;rintro e R2 ⟨⟨vv,rfl,o2⟩,ap⟩;have iF:=o2.sv;have su:jgt (∀ b,vv.ownBlock=some b->b<R2.heap.size):=ae (λb hb=>(World.ownsRow.lt o2 b hb).2);obtain⟨av,capv,rfl,_,_⟩:=aZ o2;have z2':=(ap.cell (p:=⟨wr.heap.size,2,none⟩) aX).trans z2;have aG:=ae (ai aL.o ap);have MI:=ae iF;have hWC:=pG gl;have gV:=jh gl
    have Wu:0<(es f2 (cx PT k)).length:=by
     unfold es jH;rw[jeC];split
     ·rw[jeI]
      omega
     ·rw[je7]
      omega
    have Lk:=ae (Ar iF su.o (WL.o k) f2);rw[hWC]at Lk;obtain⟨t1,t2,t3⟩:=cF.o k;have HSTA:jgt (∀(U:World) (B:Nat) (u:Value),OwnV U B u (cx PT k)->Calls prog 59 #[u] U λe w'=>e=.returned (xz (bO (cx PT k)))/\jgu U w'):=ae (λU B u hU=>Ak hU.sv (WL.o k) (by rw[cK];omega));have HOV:=ae o2;have HSTT:=ae (λU=>nM t1 t2 t3 U);obtain⟨t4,t5⟩:=tD t1 t2 t3;have t6:0<(fQ (bO (cx PT k))).length:=by unfold fQ;simp only[jeC,je7];omega
    have hcu:=cG (n:=(es f2 (cx PT k)).length) (by omega);have hcup:=wG (es f2 (cx PT k)).length;have HCNT:=ae (HCN0.o (es f2 (cx PT k)).length (by omega));have hcll:=(jh gl).1;have hvl:(cx PT k).length=PT.length:=cK _ _;clear hWC gV t1 t2 t3 t5 ap o2 iF z2 gl;generalize hCM:es f2 (cx PT k)=CM at *;generalize hSM:bO (cx PT k)=SM at *;generalize hSB:fQ SM=SB at *;generalize hUV:uv CM.length=UV at *;have HUV:=ae hUV;have uU:=ae hSB;have Gk:=ae hSM;have HCM:=ae hCM;clear hCM hSM hSB hUV hvl;generalize hCS:cx PT k=CS at *;have HCS:=ae hCS;clear hCS;gi_wp2
    refine⟨trivial,?_⟩;refine(CallsIn.inRound l (callsIn_wide.2 Lk.o)).mono ?_;rintro e R3 ⟨⟨vc,rfl,o3⟩,aJ⟩;obtain⟨ac,capc,rfl,_,_⟩:=aZ o3;have aY:=ae (ai aG.o aJ);have dL:=ae o3;have Xa:=HBXr.o.kept aY.o;have hba3:=ai HBAr.o aY.o;obtain⟨⟨q1,q2⟩,⟨q3,q4⟩⟩:=Xa.cells;obtain⟨a1',cap1',rfl⟩:=Xa.2.2.2.1.slice;obtain⟨a2',cap2',rfl⟩:=Xa.2.2.2.2.1.slice;have Rj:=ae Xa;have jdk:=ae hba3;have HOV3:=ae (HOV.o.kept aJ);clear Xa hba3 o3 aJ;have hg1l:(G1++gh fs PT k).length<=50200000:=by rw[jeC];omega
    have hg2l:(G2++ftK fs PT k).length<=510000:=by rw[jeC];omega
    generalize hM1:G1++gh fs PT k=M1 at *;generalize hM2:G2++ftK fs PT k=M2 at *;have WZ:=ae hM1;have QX:=ae hM2;clear hM1 hM2;gi_wp2_with (first | (gi_at_builtin;refine rQ rfl _ _ rfl A.heap.size _ _ M1 CM rfl Rj.o.2.2.2.1 rfl dL.o.sv Wu ?n3 ?n4 ?_))
    case n3=>omega
    case n4=>exact jdk.o.size
    intro vb4 R4 o4 g4 e4;generalize hN1:M1++CM=N1 at *;have me:=ae hN1;clear hN1;obtain⟨a4,cap4,hv4,_,_⟩:=aZ o4;subst hv4;obtain⟨⟨y1,y2⟩,jdl,hbl4⟩:=Rj.o.app jdk.o.size o4 g4 e4;have HPQ4:=ae (And.intro (Rj.o.other (v':=.slice a4 N1.length cap4) g4 ((aY.o.block _ HPQr.o.1.lt).trans HPQr.o.1) (by decide) (by decide)) (Rj.o.other (v':=.slice a4 N1.length cap4) g4 ((aY.o.block _ HPQr.o.2.lt).trans HPQr.o.2) (by decide) (by decide)));have HKO4:=ae ((HKOr.o.trans (nP aY.o)).trans (Rj.o.keeps (v':=.slice a4 N1.length cap4) g4));have HBX4:=ae jdl;have HOV4:=ae (Rj.o.keepV (v':=.slice a4 N1.length cap4) g4 HOV3.o (by decide) (by decide));have HBA4:=ae (jdk.o.trans hbl4);clear o4 g4 e4 hbl4 q1 q2 q3 q4;obtain⟨⟨q1,q2⟩,⟨q3,q4⟩⟩:=jdl.cells;clear jdl;gi_wp2
    have Gy:=HBX4;have Xb:=HPQ4;have HOVV:=HOV4;have HKOV:=HKO4;have Xc:=HBA4;clear HBX4 HPQ4 HOV4 HKO4 HBA4 y1 y2;generalize R4.setCell ⟨Bb,0,none⟩ (.slice a4 N1.length cap4)=V4 at *;gi_cut [] from 72 (λwx=>∃ v2,Bx2 wx A.heap.size Bb Bf (.slice a4 N1.length cap4) v2 N1 (M2++UV)/\(Boxed wx p 34 (.slice ra rs.length rcap)/\Boxed wx q 3 (.int .i64 (g:Int)))/\OwnV wx R1.heap.size (.slice av CS.length capv) CS/\KeepsOthers W wx/\jgu A wx)
    case first =>
     refine wpIn_region_any (by kernel_rfl) ?_;change wpAnyIn _ _ _ _ _ _ _ _ _ V4.drew
     repeat' (first
      | (
        have HK:=ae hK;clear hK
        first
         | (
          rw[jey (by rfl)];refine ly _ _ rfl A.heap.size _ _ M2 UV rfl (Gy.o.kept bq.o).2.2.2.2.1 rfl dK.o.sv hcup (by omega) (jeK Xc.o.size bq.o.size) ?_;intro v6 w6 o6 g6 e6;obtain⟨a6,cap6,Lp,_,_⟩:=aZ o6;rw[jeC]at Lp;subst Lp;obtain⟨⟨f1,f2⟩,yf,yg⟩:=(Gy.o.kept bq.o).swap.app (jeK Xc.o.size bq.o.size) o6 g6 e6;have XA:=ae yf.swap;have XL:=ae yg;have AQ:=ae g6;clear o6 g6 e6 yf yg)
         | (
          go_simp
          refine⟨trivial,?_⟩;refine(CallsIn.inRound l (callsIn_wide.2 (HCNT.o V4.drew))).mono ?_;rintro e w5 ⟨⟨v5,rfl,o5⟩,hb5'⟩;have bQ:jgu V4 w5:=(ak (jez V4.heap.size V4) 1).trans hb5';obtain⟨⟨q1,q2⟩,⟨q3,q4⟩⟩:=(Gy.o.kept bQ).cells;have dK:=ae o5;have bq:=ae bQ;clear o5 bQ hb5';dsimp only)
         | go_simp
        refine HK.o _ _ ?_;clear HK K;try simp only[Act.put,jgr,jf6,jgn])
      | with_reducible exact AllReadyIn.nil
      | (
        with_reducible apply AllReadyIn.cons
        exact rfl;intro K hK)
      | refine eU (rs:=[0,1]) (by decide +kernel) (by simp) ?_
      | refine eU (rs:=[1]) (by decide +kernel) (by simp) ?_
      | refine eU (rs:=[2]) (by decide +kernel) (by simp) ?_
      | refine eU (rs:=[3]) (by decide +kernel) (by simp) ?_
      | refine eU (rs:=[4]) (by decide +kernel) (by simp) ?_
      | refine eU (rs:=[5]) (by decide +kernel) (by simp) ?_
      | refine eU (rs:=[0,2]) (by decide +kernel) (by simp) ?_
      | refine eU (rs:=[0,3]) (by decide +kernel) (by simp) ?_
      | refine eU (rs:=[0]) (by decide +kernel) (by simp) ?_)
     all_goals
      refine wpAnyIn_done (by kernel_rfl) ?_ _;gi_wp2
      gi_meet
      exact⟨_,XA.o,⟨(Gy.o.kept bq.o).swap.other AQ.o ((bq.o.block _ Xb.o.1.lt).trans Xb.o.1) (by decide) (by decide),(Gy.o.kept bq.o).swap.other AQ.o ((bq.o.block _ Xb.o.2.lt).trans Xb.o.2) (by decide) (by decide)⟩,(Gy.o.kept bq.o).swap.keepV AQ.o (OwnV.kept HOVV.o bq.o) (by decide) (by decide),(HKOV.o.trans (nP bq.o)).trans ((Gy.o.kept bq.o).swap.keeps AQ.o),(Xc.o.trans (bq.o.mono Xc.o.size)).trans XL.o⟩
    case rest =>
    obtain⟨vf,sJ,hpq,hov,hko,Lb⟩:=hcut;have hg3l:(M2++UV).length<=510010:=by rw[jeC];omega
    generalize hM3:M2++UV=M3 at *;have Rk:=ae hM3;clear hM3;obtain⟨⟨q1,q2⟩,⟨q3,q4⟩⟩:=sJ.cells;obtain⟨af,capf,rfl⟩:=sJ.2.2.2.2.1.slice;have Lq:=ae sJ;have jau:=ae hpq;have HOVW:=ae hov;have HKOW:=ae hko;have jav:=ae Lb;clear sJ hpq hov hko Lb Gy Xb HOVV HKOV Xc;gi_wp2
    have HME:jgt (fs.length-(intOf (.int .i64 ((k:Int)+1))).toNat<fs.length-(intOf (.int .i64 (k:Int))).toNat):=ae (by simp[intOf];omega)
    have yh:jgt (∀(U:World) (x1 x2:Value),Bx2 U A.heap.size Bb Bf x1 x2 N1 (M3++SB)->Bx2 U A.heap.size Bb Bf x1 x2 (G1++gh fs PT (k+1)) (G2++ftK fs PT (k+1))):=ae (λU x1 x2 h9=>by
     rw[<- me.o,<- WZ.o,<- Rk.o,<- QX.o]at h9;rw[HBSk.o,HFSk.o];simpa using h9)
    refine wpIn_region_any (by kernel_rfl) ?_;change wpAnyIn _ _ _ _ _ _ _ _ _ wc.drew
    repeat' (first
     | (
       have HK:=ae hK;clear hK
       first
        | (
         rw[jey (by rfl)];refine ly _ _ rfl A.heap.size _ _ M3 SB rfl (Lq.o.kept bq.o).2.2.2.2.1 rfl dK.o.sv t6 (by omega) (jeK jav.o.size bq.o.size) ?_;intro v6 w6 o6 g6 e6;obtain⟨a6,cap6,Lp,_,_⟩:=aZ o6;rw[jeC]at Lp;subst Lp;obtain⟨⟨f1,f2⟩,yf,yg⟩:=(Lq.o.kept bq.o).swap.app (jeK jav.o.size bq.o.size) o6 g6 e6;have XA:=ae yf.swap;have XL:=ae yg;have AQ:=ae g6;clear o6 g6 e6 yf yg)
        | (
         go_simp
         refine⟨trivial,?_⟩;refine(CallsIn.inRound l (callsIn_wide.2 (HSTA.o wc.drew _ _ (OwnV.kept HOVW.o (ak (jez wc.heap.size wc) 1))))).mono ?_;rintro e w4 ⟨rfl,hb4'⟩;have bD:jgu wc w4:=(ak (jez wc.heap.size wc) 1).trans hb4';obtain⟨⟨q1,q2⟩,⟨q3,q4⟩⟩:=(Lq.o.kept bD).cells;have cL:=ae bD;clear bD hb4';dsimp only)
        | (
         go_simp
         refine⟨trivial,?_⟩;refine(CallsIn.inRound l (callsIn_wide.2 (HSTT.o w4))).mono ?_;rintro e w5 ⟨⟨v5,rfl,o5⟩,hb5'⟩;have bQ:jgu wc w5:=ai cL.o hb5';obtain⟨⟨q1,q2⟩,⟨q3,q4⟩⟩:=(Lq.o.kept bQ).cells;have dK:=ae o5;have bq:=ae bQ;clear o5 bQ hb5';dsimp only)
        | go_simp
       refine HK.o _ _ ?_;clear HK K;try simp only[Act.put,jgr,jf6,jgn])
     | with_reducible exact AllReadyIn.nil
     | (
       with_reducible apply AllReadyIn.cons
       exact rfl;intro K hK)
     | refine eU (rs:=[0,1]) (by decide +kernel) (by simp) ?_
     | refine eU (rs:=[1]) (by decide +kernel) (by simp) ?_
     | refine eU (rs:=[2]) (by decide +kernel) (by simp) ?_
     | refine eU (rs:=[3]) (by decide +kernel) (by simp) ?_
     | refine eU (rs:=[4]) (by decide +kernel) (by simp) ?_
     | refine eU (rs:=[5]) (by decide +kernel) (by simp) ?_
     | refine eU (rs:=[0,2]) (by decide +kernel) (by simp) ?_
     | refine eU (rs:=[0,3]) (by decide +kernel) (by simp) ?_
     | refine eU (rs:=[0]) (by decide +kernel) (by simp) ?_
     | (
       refine wpAnyIn_done (by kernel_rfl) ?_ _;gi_wp2
       go_roundw
       case rel =>
        have yp:k+1<=fs.length:=ar;have mX:Value.int .i64 ((k:Int)+1)=Value.int .i64 ((k+1:Nat):Int):=by simp
        exact⟨k+1,_,_,yp,mX,yh.o _ _ _ XA.o,⟨(Lq.o.kept bq.o).swap.other AQ.o ((bq.o.block _ jau.o.1.lt).trans jau.o.1) (by decide) (by decide),(Lq.o.kept bq.o).swap.other AQ.o ((bq.o.block _ jau.o.2.lt).trans jau.o.2) (by decide) (by decide)⟩,(HKOW.o.trans (nP bq.o)).trans ((Lq.o.kept bq.o).swap.keeps AQ.o),(jav.o.trans (bq.o.mono jav.o.size)).trans XL.o⟩
       case measure=>exact HME.o))
   ·obtain rfl:k=fs.length:=by omega
    have ed:¬ ((fs.length:Nat):Int)<(fs.length:Int):=(by omega);gi_wp2
    refine⟨HKOr.o,⟨(show _=_ from HPQr.o.1).trans (show _=_ from HPQ.o.1).symm,(show _=_ from HPQr.o.2).trans (show _=_ from HPQ.o.2).symm⟩,⟨⟨u1,u2,?_⟩,HPQr.o.1,HPQr.o.2⟩,HBAr.o⟩;have h9:=HBXr.o;rw[<- HZ1.o,<- Gw.o]at h9;exact h9
 case done =>
  rintro D ys W hD rfl ⟨⟨⟨v1,v2,sJ⟩,hbp,QY⟩,Lb⟩ hK
  have hG1:([67,70,49]++(List.range (nps g rs.length)).flatMap λj=>gh fs (prt g rs j) fs.length).length<=50000000:=by
   have h1:=kI (m:=172800) (λj=>jeK (rR (λk mX=>fG (dh.part g j) hk (by rw[bX];omega) mX) (jeA _)).1 (by omega)) (List.range (nps g rs.length));have h2:=iO (n:=rs.length) dP sj;rw[jga]at h1;rw[jeC];simp only[jeI,jeZ];have:172800*nps g rs.length<=172800*256:=jfJ _ h2;omega
  have hG2:(F2++(List.range (nps g rs.length)).flatMap λj=>ftK fs (prt g rs j) fs.length).length<=500000:=by
   have h1:=kI (m:=1360) (λj=>jeK (vW (dh.part g j) (by rw[bX];omega) (λk mX=>fG (dh.part g j) hk (by rw[bX];omega) mX) (jeA _)).1 (by omega)) (List.range (nps g rs.length));have h2:=iO (n:=rs.length) dP sj;rw[jga]at h1;rw[jeC];have:1360*nps g rs.length<=1360*256:=jfJ _ h2;omega
  have hG3:0<(F2++(List.range (nps g rs.length)).flatMap λj=>ftK fs (prt g rs j) fs.length).length:=by
   rw[<- hF2,<- hF1];simp only[jeC];omega
  have CI:jgt (dO id fs rs g=([67,70,49]++(List.range (nps g rs.length)).flatMap λj=>gh fs (prt g rs j) fs.length)++(F2++(List.range (nps g rs.length)).flatMap λj=>ftK fs (prt g rs j) fs.length)++le4 (F2++(List.range (nps g rs.length)).flatMap λj=>ftK fs (prt g rs j) fs.length).length):=ae (by
   unfold dO lU jp;rw[<- hF2,<- hF1,Ri.o,Di.o,MN.o];simp only[jeQ];rfl)
  generalize ([67,70,49]++(List.range (nps g rs.length)).flatMap λj=>gh fs (prt g rs j) fs.length)=G1 at *;generalize (F2++(List.range (nps g rs.length)).flatMap λj=>ftK fs (prt g rs j) fs.length)=G2 at *;obtain⟨⟨q1,q2⟩,⟨q3,q4⟩⟩:=sJ.cells;obtain⟨a8,cap8,rfl⟩:=sJ.2.2.2.1.slice;obtain⟨a9,cap9,rfl⟩:=sJ.2.2.2.2.1.slice;have qm:=ae sJ;have fx:=ae Lb;have HK:=ae hK;have HL4:=ae (PX G2.length (by omega));clear sJ Lb hK hbp QY;go_wp2_with (first | (at_builtin;refine vz rfl _ _ rfl A.heap.size _ _ G1 G2 rfl qm.o.2.2.2.1 rfl qm.o.2.2.2.2.1.sv hG3 ?n1 ?n2 ?_))
  case n1=>omega
  case n2=>exact fx.o.size
  intro v10 w10 o10 g10 e10;obtain⟨a10,cap10,hv10,_,_⟩:=aZ o10;subst hv10;obtain⟨⟨f1,f2⟩,Xd,jbr⟩:=qm.o.app fx.o.size o10 g10 e10;have hk10:=qm.o.keeps (v':=.slice a10 (G1++G2).length cap10) g10;have oW:=ae Xd;have zh:=ae (fx.o.trans jbr);have HK10:=ae (hk10.same D _ HK.o rfl);have hG12:(G1++G2).length<=50500000:=by rw[jeC];omega
  generalize hGG:G1++G2=GG at *;clear o10 g10 e10 jbr hk10 qm fx HK q1 q2 q3 q4;obtain⟨⟨q1,q2⟩,⟨q3,q4⟩⟩:=Xd.cells;clear Xd;go_wp2_with fail;generalize hV:w10.setCell ⟨Bb,0,none⟩ (.slice a10 GG.length cap10)=V at *;clear hV f1 f2
  have HC9:jgt (∀ U,jgu V U->Calls prog 85 #[.int .i64 (G2.length:Int)] U λe w'=>∃ v,e=.returned v/\Sv w' v (aA .u8 (le4 G2.length))/\jgu V w'/\w'.cell? ⟨Bb,0,none⟩=some (.slice a10 GG.length cap10)/\w'.cell? ⟨Bf,0,none⟩=some (.slice a9 G2.length cap9)):=ae (λU hU=>by
   refine(HL4.o U).mono ?_;rintro e w' ⟨⟨v,rfl,ho⟩,hb⟩;have h9:=(oW.o.kept (ai hU hb)).cells;exact⟨v,rfl,ho.sv,ai hU hb,h9.1.1,h9.2.1⟩)
  have hL4:0<(le4 G2.length).length:=by simp[le4]
  have hL4':(le4 G2.length).length=4:=by simp[le4]
  generalize le4 G2.length=LL at *;refine wp_region_noPanic ?_
  go_region_law (first
   | (refine lx (by rfl) _ _ (by rfl) A.heap.size _ _ GG LL (by rfl) ?_ (by rfl) dK.o hL4 ?_ ?_ ?_;exact(oW.o.kept bq.o).2.2.2.1;omega;exact jeK zh.o.size bq.o.size;intro v6 w6 o6 g6 e6;have oJ:=ae o6;have HK6:=ae ((oW.o.kept bq.o).2.2.2.1.deferred g6 (Qb bq.o HK10.o) rfl);have fV:=ae ((zh.o.trans (bq.o.mono zh.o.size)).trans ((oW.o.kept bq.o).2.2.2.1.below g6 (jeK zh.o.size bq.o.size)));clear o6 g6 e6)
   | (go_simp;go_at_call 85;refine(HC9.o _ ?_).mono ?_;exact ak (jez V.heap.size V) 1;rintro e w5 ⟨v5,rfl,eQ,bQ,hc5,hc6⟩;have dK:=ae eQ;have bq:=ae bQ;clear eQ bQ;dsimp only)
   | fail)
  all_goals refine NoPanic.normal ?_
  all_goals go_wp2_with fail
  all_goals refine⟨by simp,.inl ⟨_,_,rfl,run_takeDeferred HK6.o,?_⟩⟩
  all_goals refine⟨_,results_tmp rfl _ _ _,⟨_,rfl,?_⟩,?_⟩
  all_goals first
   | exact ai ce.o (fV.o.trans (belowK_b (w:=Z) hAZs _ D _ _ hD HK6.o rfl rfl))
   | (rw[CI.o];exact bL (ownsRow_putObj oJ.o _ HK6.o rfl) ce.o.size)
 case stop =>
  rintro D c pre W _ _ h _;exact h.elim
def mC{w:World}{v:Value}{l:List Fd}(hs:Sf w v l)(si id:Nat):Calls prog 71 #[.agg #[.int .u32 (si:Int),v],.int .u32 (id:Int)] w λe w'=>e=.returned (.int .i64 (plz (dV l id)))/\jgu w w':=by
 obtain⟨a,cap,rfl,bg,bx⟩:=hs.form;have ce:=ae (aj w (.cells #[.int .u32 (si:Int),.slice a l.length cap] 25));have HS:=ae (hs.kept (aj w (.cells #[.int .u32 (si:Int),.slice a l.length cap] 25)));have HP:jgt (dV l id=iH id 0 (l.drop 0)):=ae rfl;generalize dV l id=P at *;clear hs;obtain⟨c0,c1⟩:=aS w (.int .u32 (si:Int)) (.slice a l.length cap) 25;generalize hW:w.alloc (.cells #[.int .u32 (si:Int),.slice a l.length cap] 25)=W at *;go_enter func71,ntmps71
 go_wp2_with fail;try rw[hW]
 clear hW;go_loopw [5] (λi wr=>∃ k:Nat,wr=W/\k<=l.length/\i=.int .i64 (k:Int)/\P=iH id k (l.drop k)) (λi _=>l.length-(intOf i).toNat)
 case atStart=>exact⟨0,rfl,by omega,rfl,HP.o⟩
 case round =>
  obtain⟨k,rfl,hk,rfl,fR⟩:=hrel;have HF:=ae fR;clear fR HP;by_cases ar:k<l.length
  ·obtain⟨b,off,rfl,hb,x0,x1,x2,x3⟩:=HS.o.at ar
   have HT:=ae (HF.o.trans (tW ar));have hlt':(k:Int)<(l.length:Int):=(by omega);generalize l[k]=f at *;obtain⟨f0,f1,f2,f3⟩:=f;simp only at *;by_cases hq:f0=id
   ·rw[jey hq]at HT
    have hq':((f0:Int)==(id:Int))=true:=by rw[hq];simp
    subst hq;go_wp2_with fail;go_ret
    rw[HT.o];exact⟨rfl,ce.o⟩
   ·rw[jex hq]at HT
    have hq':((f0:Int)==(id:Int))=false:=jeF.2 (by omega);clear hq;go_wp2_with fail;go_roundw
    case rel=>exact⟨k+1,trivial,by omega,by go_num,HT.o⟩
    case measure=>simp[intOf];omega
  ·obtain rfl:k=l.length:=by omega
   have ed:¬ ((l.length:Nat):Int)<(l.length:Int):=(by omega);have HT:=ae (HF.o.trans (wl l id));clear HF;go_wp2_with fail;go_ret
   rw[HT.o];exact⟨rfl,ce.o⟩
def Km(f:Fd){c:Cl}(hc:aI c)(w:World):Calls prog 117 #[pN f,cz c] w λe w'=>e=.returned (.int .i64 (qw f c:Int))/\jgu w w':=by
 have HV:=ae (ki hc.val);obtain⟨i,n,k,nd⟩:=f;unfold pN;simp only;have RN:∀ w,(binOp .eql 78 .nilIface .nilIface).run prog w=.ok (.bool true) w:=λw=>by kernel_rfl
 have ng:∀ t v w,(binOp .eql 78 (.iface t v) .nilIface).run prog w=.ok (.bool false) w:=λt v w=>by kernel_rfl
 have HM:jgt (qw (i,n,k,nd) c=if c.1=0 then (if nd=true then 82 else 0) else if c.1≠k then 10 else if 64<c.2.2.length then 5 else 0):=ae rfl;generalize qw (i,n,k,nd) c=R at *;have ce:=ae (aj w (.cells #[.int .u32 (i:Int),.string n,.int .u8 (k:Int),.bool nd] 81));obtain⟨c0,c1,c2,c3⟩:=iM w (.int .u32 (i:Int)) (.string n) (.int .u8 (k:Int)) (.bool nd) 81;have hz:w.heap.size<(w.alloc (.cells #[.int .u32 (i:Int),.string n,.int .u8 (k:Int),.bool nd] 81)).heap.size:=by rw[jeB];omega
 generalize hW:w.alloc (.cells #[.int .u32 (i:Int),.string n,.int .u8 (k:Int),.bool nd] 81)=W at *;have hs:=be c.2.2;generalize hS:bytesT c.2.2=S at *
 have bH:(S.size:Int)<=64:=by
  rcases hc with rfl | ⟨m,rfl,_⟩ | ⟨m,rfl,_⟩ | ⟨m,rfl,h,_⟩
  ·rw[hs];decide
  ·rw[hs];simp
  ·rw[hs];simp
  ·rw[hs];simp only;omega
 have hlen2:¬ 64<c.2.2.length:=by omega
 have hvf:c.1=0/\cz c=.nilIface∨c.1≠0/\∃ t u,cz c=.iface t u:=by
  by_cases h0:c.1=0
  ·exact Or.inl ⟨h0,od c h0⟩
  ·exact Or.inr ⟨h0,jU c h0⟩
 generalize c.2.1=cn at *;generalize c.2.2.length=cl at *;clear hS hs hc;generalize c.1=ck at *;generalize cz c=vc at *;rcases hvf with ⟨rfl,rfl⟩ | ⟨h0,t,u,rfl⟩
 ·rw[jey rfl]at HM
  go_enter func117,ntmps117
  go_wp2_with fail;try rw[hW]
  clear hW;refine(HV.o _).mono ?_;rintro e w1 ⟨rfl,az⟩;have d3:=(az.cell (p:=⟨w.heap.size,3,none⟩) hz).trans c3;have aL:=ae (ai ce.o az);have bW:=az.size;have sp:w.heap.size<w1.heap.size:=by omega
  clear az c0 c1 c2 c3;cases nd
  ·rw[jex (by simp)]at HM
   go_wp2_with fail;go_ret
   rw[HM.o];exact⟨rfl,aL.o.alloc aL.o.size _⟩
  ·rw[jey rfl]at HM
   go_wp2_with fail;go_ret
   rw[HM.o];exact⟨rfl,aL.o.alloc aL.o.size _⟩
 ·rw[jex h0]at HM
  go_enter func117,ntmps117
  go_wp2_with fail;try rw[hW]
  clear hW;refine(HV.o _).mono ?_;rintro e w1 ⟨rfl,az⟩;have d2:=(az.cell (p:=⟨w.heap.size,2,none⟩) hz).trans c2;have aL:=ae (ai ce.o az);have bW:=az.size;have sp:w.heap.size<w1.heap.size:=by omega
  clear az c0 c1 c2 c3;by_cases hk:ck=k
  ·subst hk
   rw[jex (by simp),jex hlen2]at HM;go_wp2_with fail;go_ret
   rw[HM.o];exact⟨rfl,aL.o.alloc aL.o.size _⟩
  ·rw[jey hk]at HM
   have hk':((ck:Int) != (k:Int))=true:=by simp;omega
   clear hk;go_wp2_with fail;go_ret
   rw[HM.o];exact⟨rfl,aL.o.alloc aL.o.size _⟩
def Zo{w:World}{v rv:Value}{l:List Fd}{r:List Cl}(hs:Sf w v l)(hr:Sv w rv (aE r))(hf:∀ c∈r,aI c)(si:Nat):Calls prog 78 #[.agg #[.int .u32 (si:Int),v],rv] w λe w'=>e=.returned (.int .i64 (iY l r:Int))/\jgu w w':=by
 obtain⟨a,cap,rfl,bg,bx⟩:=hs.form;obtain⟨ra,rcap,rfl,WE,WF⟩:=hr.form1;rw[ay]at *;have hrcm':rcap<=9223372036854775807:=by unfold maxLen at WF;omega
 have cy:=aj w (.cells #[.int .u32 (si:Int),.slice a l.length cap] 25);have ce:=ae cy;have HS:=ae (hs.kept cy);have HR:=ae (hr.kept cy);have GS:=ae hf;obtain⟨c0,c1⟩:=aS w (.int .u32 (si:Int)) (.slice a l.length cap) 25;have hz:w.heap.size<(w.alloc (.cells #[.int .u32 (si:Int),.slice a l.length cap] 25)).heap.size:=by rw[jeB];omega
 clear hs hr hf cy WF;generalize hW:w.alloc (.cells #[.int .u32 (si:Int),.slice a l.length cap] 25)=W at *;by_cases dC:r.length≠l.length
 ·have HM:jgt (iY l r=1):=ae (jey dC)
  have hne':((r.length:Int) != (l.length:Int))=true:=by simp only[bne_iff_ne];omega
  clear dC;go_enter func78,ntmps78
  go_wp2_with fail;go_ret
  rw[HM.o];refine⟨rfl,?_⟩;first | exact ce.o | (rw[hW];exact ce.o)
 ·have sj:r.length=l.length:=by omega
  have HM:jgt (iY l r=qx (l.drop 0) (r.drop 0)):=ae (jex dC);have MH:=ae sj;rw[sj]at WE HR ⊢;generalize iY l r=R at *;clear dC sj;go_enter func78,ntmps78
  go_wp2_with fail;try rw[hW]
  clear hW;go_loopw [17] (λi wr=>∃ k:Nat,k<=l.length/\i=.int .i64 (k:Int)/\R=qx (l.drop k) (r.drop k)/\jgu W wr) (λi _=>l.length-(intOf i).toNat)
  case atStart=>exact⟨0,by omega,rfl,HM.o,jez _ _⟩
  case round =>
   obtain⟨k,hk,rfl,fR,ao⟩:=hrel;have HF:=ae fR;have HB:=ae ao;have bF:=ao.size;clear fR ao HM;by_cases ar:k<l.length
   ·obtain⟨b,off,rfl,hb,x0,x1,x2,x3⟩:=(HS.o.kept HB.o).at ar
    have QT:k<r.length:=by have:=MH.o;omega
    obtain⟨rb,roff,rfl,hrb,hrc⟩:=(HR.o.kept HB.o).at1 (cw QT);have HT:=ae (HF.o.trans (zw ar QT));have hlt':(k:Int)<(l.length:Int):=(by omega);have jc3:(0:Int)<=(k:Int):=(by omega);have HMF:=ae (Km l[k] (GS.o r[k] (jeD QT)));generalize qw l[k] r[k]=Q at *;generalize ZV:cz r[k]=vr at *
    have hvf:vr=.nilIface∨∃ t u,vr=.iface t u:=by
     rw[<- ZV];by_cases h0:r[k].1=0
     ·exact Or.inl (od _ h0)
     ·exact Or.inr (jU _ h0)
    clear ZV;generalize l[k]=f at *;obtain⟨f0,f1,f2,f3⟩:=f;unfold pN at HMF;simp only at *;have oL:=aj wr (.cells #[.int .u32 (f0:Int),.string f1,.int .u8 (f2:Int),.bool f3] 81);have hrc':=(oL.cell (p:=⟨rb,roff+k,none⟩) hrb).trans hrc;obtain⟨g0,g1,g2,g3⟩:=iM wr (.int .u32 (f0:Int)) (.string f1) (.int .u8 (f2:Int)) (.bool f3) 81;have aG:=ae (HB.o.trans (oL.mono bF));have lA:(wr.alloc (.cells #[.int .u32 (f0:Int),.string f1,.int .u8 (f2:Int),.bool f3] 81)).heap.size=wr.heap.size+1:=jeB _ _;clear oL;rcases hvf with rfl | ⟨vt,vu,rfl⟩
    all_goals
     go_wp2_with fail;generalize hV:wr.alloc (.cells #[.int .u32 (f0:Int),.string f1,.int .u8 (f2:Int),.bool f3] 81)=V at *;clear hV x0 x1 x2 x3 hrc;have fI:jgt (∀ U W',jgu V U->jgu U W'->jgu W W'):=ae (λU W' h1 h2=>ai aG.o (ai h1 h2));go_region_with (first | (go_at_call 117;refine(HMF.o _).mono ?_;rintro e w2 ⟨rfl,ap⟩))
     all_goals
      have gU:=ae (fI.o _ _ (by first | exact(jez _ _).drew | exact ak (jez _ _) _ | exact jez _ _) ap);clear ap hrc' g0 g1 g2 g3 c0 c1;by_cases hQ:Q=0
      ·rw[jey hQ]at HT
       subst hQ;go_wp2_with fail;go_roundw
       case rel=>exact⟨k+1,by omega,by go_num,HT.o,gU.o⟩
       case measure=>simp[intOf];omega
      ·rw[jex hQ]at HT
       have hQ':((Q:Int) != 0)=true:=by simp[hQ]
       clear hQ;go_wp2_with fail;go_ret
       rw[HT.o];exact⟨rfl,ai ce.o gU.o⟩
   ·obtain rfl:k=l.length:=by omega
    have ed:¬ ((l.length:Nat):Int)<(l.length:Int):=(by omega);have HT:=ae (HF.o.trans (Dq l _));clear HF;go_wp2_with fail;go_ret
    rw[HT.o];exact⟨rfl,ai ce.o HB.o⟩
def Sv.toK{W:World}{v:Value}{l:List Nat}(h:Sv W v (aA .u8 l)):SvK W v l:=by
 obtain⟨a,cap,h1,h2,h3,h4,h5⟩:=h;rw[am]at *;refine⟨a,cap,h1,h2,h3,h4,λh0=>?_⟩;obtain⟨b,off,h6,h7,h8⟩:=h5 h0;exact⟨b,off,h6,h7,λj hj=>h8 j _ (bN hj)⟩
def Qd(id:Nat)(fs:List Fd):Bs (eY id fs):=by
 unfold eY;refine Bs.app (Bs.app gL gL) ?_;intro x hx;unfold jF at hx;obtain⟨f,_,hf⟩:=List.mem_flatMap.1 hx;unfold jb at hf;exact Bs.app (Bs.app (Bs.app (Bs.app gL gL) (wo _)) gL) gL x hf
def oF{id:Nat}{fs:List Fd}(hc:chk id fs=0):szs fs<5000/\fs.length<=8/\0<fs.length:=by
 obtain⟨hrise,h0,h8,hi0⟩:=qA hc
 have fR:fe [] fs=0:=by
  unfold chk at hc;rw[jex (by omega)]at hc;exact hc
 have hn:=qB fR
 have:∀ m:List Fd,(∀ f∈m,f.2.1.size<=16)->szs m<=16*m.length:=by
  intro m;induction m with
  | nil=>intro _;simp[szs]
  | cons x t ih =>
   intro hx;have h1:=ih (λf hf=>hx f (jfS _ hf));have h2:=hx x (List.mem_cons_self ..);unfold szs at *;simp only[je4,List.sum_cons,jeI];omega
 have:=this fs hn;omega
def Fv{id:Nat}{fs:List Fd}{rs:List Row}{g:Nat}(ho:∀ f∈fs,Okf f)(pq:id<4294967296)(hc:chk id fs=0)(sj:rs.length<=256)(dP:1<=g)(fY:g<=64)(dh:gG fs rs):(jp id fs rs g).length<=400000/\Bs (jp id fs rs g):=by
 obtain⟨hz,hl,_⟩:=oF hc;have hk:=gR hc;have h1:=il ho (by omega) hz fs.length;rw[jeJ]at h1;have h2:=jJ id (by omega);have h3:=jJ fs.length (by omega);have h4:=jJ rs.length (by omega);have h5:=jJ g (by omega)
 have GL:∀ j,(ftK fs (prt g rs j) fs.length).length<=1360/\Bs (ftK fs (prt g rs j) fs.length):=λj=>by
  have mT:(prt g rs j).length<=256:=by rw[bX];omega
  have:=vW (dh.part g j) mT (λk mX=>fG (dh.part g j) hk mT mX) (jeA _);exact⟨by omega,this.2⟩
 have h6:=kI (m:=1360) (λj=>(GL j).1) (List.range (nps g rs.length));have h7:=iO (n:=rs.length) dP sj;rw[jga]at h6;have h8:1360*nps g rs.length<=1360*256:=jfJ _ h7;have h9:(ftJ fs g rs (nps g rs.length)).length<=1360*nps g rs.length:=h6;unfold jp;refine⟨?_,Bs.app (Bs.app (Bs.app (Qd _ _) gL) gL) (Ck (λj=>(GL j).2) _)⟩;simp only[jeC];unfold eY;simp only[jeC];omega
def nR{id:Nat}{fs:List Fd}{rs:List Row}{g:Nat}(ho:∀ f∈fs,Okf f)(pq:id<4294967296)(hc:chk id fs=0)(sj:rs.length<=256)(dP:1<=g)(fY:g<=64)(dh:gG fs rs):(dO id fs rs g).length<=60000000/\Bs (dO id fs rs g):=by
 obtain⟨hz,hl,_⟩:=oF hc;have hk:=gR hc;obtain⟨f1,f2⟩:=Fv ho pq hc sj dP fY dh
 have sH:∀ j,(gh fs (prt g rs j) fs.length).length<=172800/\Bs (gh fs (prt g rs j) fs.length):=λj=>by
  have mT:(prt g rs j).length<=256:=by rw[bX];omega
  have:=rR (p:=prt g rs j) (λk mX=>fG (dh.part g j) hk mT mX) (jeA _);exact⟨by omega,this.2⟩
 have h6:=kI (m:=172800) (λj=>(sH j).1) (List.range (nps g rs.length));have h7:=iO (n:=rs.length) dP sj;rw[jga]at h6;have h8:172800*nps g rs.length<=172800*256:=jfJ _ h7;have h9:(oS fs g rs (nps g rs.length)).length<=172800*nps g rs.length:=h6;unfold dO lU;refine⟨?_,Bs.app (λx hx=>?_) (Bs.app (Bs.app (Ck (λj=>(sH j).2) _) f2) (tu _))⟩
 ·simp only[jeC,jeI,jeZ,le4]
  omega
 ·simp only[jeL,jgc,or_false]at hx
  omega
def rS{fs:List Fd}:∀{rs:List Row},nL fs rs=0->∀ r∈rs,iY fs r=0
 | [],_,r,hr=>by simp at hr
 | x::t,h,r,hr=>by
  unfold nL at h;by_cases h0:iY fs x=0
  ·rw[jey h0]at h
   rcases jeL.1 hr with rfl | hr
   ·exact h0
   ·exact rS h r hr
  ·rw[jex h0]at h
   exact absurd h h0
def Qe{fs:List Fd}{rs:List Row}{k:Nat}(h:k<rs.length):nL fs (rs.drop k)=if iY fs rs[k]=0 then nL fs (rs.drop (k+1)) else iY fs rs[k]:=by
 rw[je8 h];rfl
def Fw{w:World}{fv rv:Value}{fs:List Fd}{rs:List Row}{id:Nat}(hs:Sf w fv fs)(hr:Rv w rv rs)(hf:∀ r∈rs,∀ c∈r,aI c)(g:Int) :
  Calls prog 39 #[.agg #[.int .u32 (id:Int),fv],rv,.int .i64 g] w λe w'=>e=.returned (.int .i64 (eT id fs rs g:Int))/\jgu w w':=by
 obtain⟨fa,fcap,rfl,hfc1,hfc2⟩:=hs.form;obtain⟨ra,rcap,rfl,Rg,CT,hra⟩:=hr.form;have cy:=aj w (.cells #[.int .u32 (id:Int),.slice fa fs.length fcap] 25);have lC:=je2 w (.cells #[.int .u32 (id:Int),.slice fa fs.length fcap] 25);have lA:(w.alloc (.cells #[.int .u32 (id:Int),.slice fa fs.length fcap] 25)).heap.size=w.heap.size+1:=jeB _ _;have HS:=ae (hs.kept cy);have HR:=ae (hr.kept cy);have ce:=ae cy
 have HT:jgt (∀ U,Below (w.alloc (.cells #[.int .u32 (id:Int),.slice fa fs.length fcap] 25)).heap.size (w.alloc (.cells #[.int .u32 (id:Int),.slice fa fs.length fcap] 25)) U->U.cell? ⟨w.heap.size,0,none⟩=some (.int .u32 (id:Int))/\U.cell? ⟨w.heap.size,1,none⟩=some (.slice fa fs.length fcap)):=ae (λU hb=>by
  have hU:=(hb.block w.heap.size (by omega)).trans lC;constructor<;>(rw[an hU];rfl))
 have HF:=ae hf;generalize hA:w.alloc (.cells #[.int .u32 (id:Int),.slice fa fs.length fcap] 25)=A at *;clear hs hr cy lC hf lA;obtain⟨c0,c1⟩:=HT.o A (jez _ _);have HW:jgt (eT id fs rs g=if chk id fs≠0 then chk id fs else if g<1∨64<g then 1 else if 256<rs.length then 5 else nL fs rs):=ae rfl;generalize eT id fs rs g=FW at *;go_enter func39,ntmps39
 go_wp2_with fail;try rw[hA]
 clear hA;refine(Ap HS.o id).mono ?_;rintro e w1 ⟨rfl,az⟩;have aL:=ae az;clear az c0 c1;obtain⟨c0,c1⟩:=HT.o w1 aL.o;by_cases hc:chk id fs=0
 ·have hcz:(((chk id fs:Nat):Int) != 0)=false:=by simp[hc]
  have oN:jgt (FW=if g<1∨64<g then 1 else if 256<rs.length then 5 else nL fs rs):=ae (by rw[HW.o,jex (by omega)]);clear HW;generalize chk id fs=ck at *;by_cases dP:g<1
  ·have CL:jgt (FW=1):=ae (by rw[oN.o,jey (Or.inl dP)])
   go_wp2_with fail;go_ret
   exact⟨by rw[CL.o];rfl,ai ce.o aL.o⟩
  ·by_cases fY:64<g
   ·have CL:jgt (FW=1):=ae (by rw[oN.o,jey (Or.inr fY)])
    have hg2':g > 64:=fY;go_wp2_with fail;go_ret
    exact⟨by rw[CL.o];rfl,ai ce.o aL.o⟩
   ·have hg2':¬ g > 64:=fY
    have CL:jgt (FW=if 256<rs.length then 5 else nL fs rs):=ae (by rw[oN.o,jex (by omega)]);clear oN;by_cases hl:256<rs.length
    ·have XD:jgt (FW=5):=ae (by rw[CL.o,jey hl])
     have hl':(rs.length:Int) > 256:=(by omega);go_wp2_with fail;go_ret
     exact⟨by rw[XD.o];rfl,ai ce.o aL.o⟩
    ·have XD:jgt (FW=nL fs rs):=ae (by rw[CL.o,jex hl])
     have hl':¬ (rs.length:Int) > 256:=(by omega);clear CL;go_wp2_with fail;go_loopw [27] (λi wr=>∃ k:Nat,k<=rs.length/\i=.int .i64 (k:Int)/\nL fs rs=nL fs (rs.drop k)/\jgu A wr) (λi _=>rs.length-(intOf i).toNat)
     case atStart=>exact⟨0,by omega,rfl,rfl,aL.o⟩
     case round =>
      obtain⟨k,hk,rfl,fR,ao⟩:=hrel;have WD:=ae fR;have HB:=ae ao;clear fR ao;obtain⟨d0,d1⟩:=HT.o wr HB.o;by_cases ar:k<rs.length
      ·have hlt':(k:Int)<(rs.length:Int):=by omega
       obtain⟨bb,off,rw',rfl,hb,eP,iF⟩:=(HR.o.kept HB.o).at ar;obtain⟨a3,cap3,rfl,_,_⟩:=iF.form1;have cF:=ae (Qe (fs:=fs) ar);have CQ:=ae (Zo (HS.o.kept HB.o) iF (HF.o _ (jeD ar)) id);clear iF;generalize (aE rs[k]).length=nv at *;generalize iY fs rs[k]=fm at *;go_wp2_with fail;refine CQ.o.mono ?_;rintro e w5 ⟨rfl,bQ⟩;have bq:=ae (ai HB.o bQ);clear bQ d0 d1 eP;by_cases hm:fm=0
       ·subst hm
        have hmz:((((0:Nat)):Int) != 0)=false:=rfl;have jas:jgt (nL fs (rs.drop k)=nL fs (rs.drop (k+1))):=ae (by rw[cF.o,jey rfl]);clear cF;go_wp2_with fail;go_roundw
        case rel=>exact⟨k+1,by omega,by go_num,by rw[WD.o,jas.o],bq.o⟩
        case measure=>simp[intOf];omega
       ·have hmz:(((fm:Nat):Int) != 0)=true:=by simp[hm]
        have jas:jgt (FW=fm):=ae (by rw[XD.o,WD.o,cF.o,jex hm]);clear cF WD XD;go_wp2_with fail;go_ret
        exact⟨by rw[jas.o];rfl,ai ce.o bq.o⟩
      ·obtain rfl:k=rs.length:=by omega
       have ed:¬ ((rs.length:Nat):Int)<(rs.length:Int):=(by omega);have Ri:jgt (FW=0):=ae (by rw[XD.o,WD.o,jfg];rfl);clear WD XD;go_wp2_with fail;go_ret
       exact⟨by rw[Ri.o];rfl,ai ce.o HB.o⟩
 ·have hcz:(((chk id fs:Nat):Int) != 0)=true:=by simp[hc]
  have oN:jgt (FW=chk id fs):=ae (by rw[HW.o,jey hc]);clear HW;generalize chk id fs=ck at *;go_wp2_with fail;go_ret
  exact⟨by rw[oN.o];rfl,ai ce.o aL.o⟩
def nS{id:Nat}{fs:List Fd}{rs:List Row}{g:Int}(h:eT id fs rs g=0):chk id fs=0/\(1<=g/\g<=64)/\rs.length<=256/\nL fs rs=0:=by
 unfold eT at h;by_cases h1:chk id fs=0
 ·rw[jex (by omega)]at h
  by_cases h2:g<1∨64<g
  ·rw[jey h2]at h
   cases h
  ·rw[jex h2]at h
   by_cases h3:256<rs.length
   ·rw[jey h3]at h
    cases h
   ·rw[jex h3]at h
    exact⟨h1,by omega,by omega,h⟩
 ·rw[jey h1]at h
  exact absurd h h1
def nT{w:World}{fv rv:Value}{fs:List Fd}{rs:List Row}{id:Nat}(ht:Tab w)(hs:Sf w fv fs)(hr:Rv w rv rs)(ho:∀ f∈fs,Okf f)(pq:id<4294967296)(hf:∀ r∈rs,∀ c∈r,aI c)(g:Int) :
  Calls prog 12 #[.agg #[.int .u32 (id:Int),fv],rv,.int .i64 g] w λe w'=>(∃ v,e=.returned (.tuple #[v,.int .i64 ((dZ id fs rs g).2:Int)])/\aM w' w.heap.size v (dZ id fs rs g).1)/\jgu w w':=by
 obtain⟨fa,fcap,rfl,hfc1,hfc2⟩:=hs.form;obtain⟨ra,rcap,rfl,Rg,CT,hra⟩:=hr.form;have cy:=aj w (.cells #[.int .u32 (id:Int),.slice fa fs.length fcap] 25);have lC:=je2 w (.cells #[.int .u32 (id:Int),.slice fa fs.length fcap] 25);have lA:(w.alloc (.cells #[.int .u32 (id:Int),.slice fa fs.length fcap] 25)).heap.size=w.heap.size+1:=jeB _ _;have HS:=ae (hs.kept cy);have HR:=ae (hr.kept cy);have AP:=ae (ht.kept cy);have ce:=ae cy
 have HT:jgt (∀ U,Below (w.alloc (.cells #[.int .u32 (id:Int),.slice fa fs.length fcap] 25)).heap.size (w.alloc (.cells #[.int .u32 (id:Int),.slice fa fs.length fcap] 25)) U->U.cell? ⟨w.heap.size,0,none⟩=some (.int .u32 (id:Int))/\U.cell? ⟨w.heap.size,1,none⟩=some (.slice fa fs.length fcap)):=ae (λU hb=>by
  have hU:=(hb.block w.heap.size (by omega)).trans lC;constructor<;>(rw[an hU];rfl))
 have HF:=ae hf;have HO:=ae ho;generalize hA:w.alloc (.cells #[.int .u32 (id:Int),.slice fa fs.length fcap] 25)=A at *;clear hs hr cy lC hf lA ht ho;have CQ:=ae (Fw (id:=id) HS.o HR.o HF.o g);obtain⟨c0,c1⟩:=HT.o A (jez _ _);have HW:jgt (dZ id fs rs g=if eT id fs rs g≠0 then ([],eT id fs rs g) else if 65536<(bG (dO id fs rs g.toNat)).length then ([],4) else (bG (dO id fs rs g.toNat),0)):=ae rfl;generalize dZ id fs rs g=WM at *;go_enter func12,ntmps12
 go_wp2_with fail;try rw[hA]
 clear hA;refine CQ.o.mono ?_;rintro e w1 ⟨rfl,az⟩;have aL:=ae az;clear az c0 c1;obtain⟨c0,c1⟩:=HT.o w1 aL.o;by_cases hc:eT id fs rs g=0
 ·have hcz:(((eT id fs rs g:Nat):Int) != 0)=false:=by simp[hc]
  obtain⟨h1,⟨h2,h3⟩,h4,h5⟩:=nS hc;have dh:gG fs rs:=λr hr=>⟨rS h5 r hr,HF.o r hr⟩
  obtain⟨n,rfl⟩:∃ n:Nat,g=(n:Int):=⟨g.toNat,by omega⟩;rw[je3]at HW;obtain⟨hz,hl,_⟩:=oF h1;obtain⟨t1,t2⟩:=nR HO.o pq h1 h4 (show 1<=n by omega) (show n<=64 by omega) dh;have XJ:=ae (Vl (HS.o.kept aL.o) (HR.o.kept aL.o) HO.o pq hl hz h4 (show 1<=n by omega) (show n<=64 by omega) dh (gR h1));have oN:jgt (WM=if 65536<(bG (dO id fs rs n)).length then ([],4) else (bG (dO id fs rs n),0)):=ae (by rw[HW.o,jex (by omega)]);have MU:=ae t2;clear HW CQ h1 h2 h3 h5 dh t2;generalize eT id fs rs n=FW at *;generalize dO id fs rs n=TX at *;go_wp2_with fail;refine XJ.o.mono ?_;rintro e w2 ⟨⟨v2,rfl,o2⟩,ap⟩;have aG:=ae (ai aL.o ap);have HSL:=ae (EX (AP.o.kept aG.o) o2.sv.toK MU.o (by omega));clear o2 ap c0 c1;go_wp2_with fail;refine HSL.o.mono ?_;rintro e w3 ⟨⟨v3,rfl,o3⟩,aJ⟩;obtain⟨a3,cap3,rfl,_,_⟩:=aZ o3;have dL:=ae (bL o3 (jeK ce.o.size aG.o.size));have aY:=ae (ai aG.o aJ);clear o3 aJ;have eg:(bG TX).length<=60000004:=by rw[kh];omega
  generalize bG TX=ST at *;by_cases jdf:65536<ST.length
  ·have hbig':(ST.length:Int) > 65536:=by omega
   have CL:jgt (WM=([],4)):=ae (by rw[oN.o,jey jdf]);go_wp2_with fail;go_ret2
   exact⟨⟨_,by rw[CL.o];rfl,by rw[CL.o];exact aM.nil _ _⟩,ai ce.o aY.o⟩
  ·have hbig':¬ (ST.length:Int) > 65536:=by omega
   have CL:jgt (WM=(ST,0)):=ae (by rw[oN.o,jex jdf]);go_wp2_with fail;go_ret2
   exact⟨⟨_,by rw[CL.o];rfl,by rw[CL.o];exact dL.o⟩,ai ce.o aY.o⟩
 ·have hcz:(((eT id fs rs g:Nat):Int) != 0)=true:=by simp[hc]
  have oN:jgt (WM=([],eT id fs rs g)):=ae (by rw[HW.o,jey hc]);clear HW CQ;generalize eT id fs rs g=FW at *;go_wp2_with fail;go_ret2
  exact⟨⟨_,by rw[oN.o];rfl,by rw[oN.o];exact aM.nil _ _⟩,ai ce.o aL.o⟩
def Kn{w:World}{p f:Nat}{b:List Nat}(h:Rs w p b f)(hf:Er f)(k n:Nat)(hk:1<=k/\k<=3)(hn:n<=256) :
  Calls prog 263 #[.pointer (some ⟨p,0,none⟩),.int .u8 (k:Int),.int .i64 (n:Int)] w (Mj k n b p f w):=by
 obtain rfl | rfl | rfl:k=1∨k=2∨k=3:=by omega
 ·exact Vf h hf n hn
 ·exact Vg h hf n hn
 ·exact Vh h hf n hn
def CP(k n:Nat)(b:List Nat)(l:jgv)(f':Nat):Prop :=
 Er f'/\(f'=0->Col k l/\l.length=n)/\(f'≠0->l=[])/\∀ y,Col k y->y.length=n->b=es k y->f'=0/\l=y
def Fx{k:Nat}:∀{t:List Nat} {s:jgv},(∀ c∈s,gM k c)->∀ c∈gN t s,gM k c:=λ{t s} h=>(oq (P:=gM k) (Or.inl rfl) h).2
def Zp{k n:Nat}{b b1 b2:List Nat}{th:List Nat}{s:jgv}{f1 f2:Nat}(h1:RP (Nu n) (byH b n) 0 th b1 f1)(h2:RP (Nv k th.sum) (byT k b1) f1 s b2 f2)(hn:f2≠0):CP k n b [] f2:=by
 refine⟨h2.1,λh=>absurd h hn,λ_=>rfl,λy a1 a2 a3=>?_⟩;obtain⟨d1,d2,d3⟩:=h1.2.2 (cH y) (jI k y) rfl ⟨by rw[bf];exact a2,eL y⟩ ⟨y,a2,rfl,a3⟩;have ho:=DN y;obtain⟨e1,_⟩:=h2.2.2 (bP y) [] d1 ⟨by rw[d2,om],λc hc=>⟨a1.2.2 c (kp hc).1,(kp hc).2⟩⟩ ⟨by rw[d3];unfold jI;rw[ho],rfl⟩;exact absurd e1 hn
def Vm{k n:Nat}{b b1 b2:List Nat}{th:List Nat}{s:jgv}{f1:Nat}(hk:1<=k/\k<=3)(hn:n<=256)(h1:RP (Nu n) (byH b n) 0 th b1 f1)(h2:RP (Nv k th.sum) (byT k b1) f1 s b2 0):CP k n b (gN th s) 0:=by
 obtain⟨g1,g2⟩:=h2.2.1 rfl;obtain⟨_,g3⟩:=h1.2.1 g1;refine⟨er0,λ_=>⟨⟨hk,by rw[iu,g3.1];exact hn,Fx λc hc=>(g2.2 c hc).1⟩,by rw[iu,g3.1]⟩,λh=>absurd rfl h,λy a1 a2 a3=>⟨rfl,?_⟩⟩;obtain⟨d1,d2,d3⟩:=h1.2.2 (cH y) (jI k y) rfl ⟨by rw[bf];exact a2,eL y⟩ ⟨y,a2,rfl,a3⟩;have ho:=DN y;obtain⟨_,e2,_⟩:=h2.2.2 (bP y) [] d1 ⟨by rw[d2,om],λc hc=>⟨a1.2.2 c (kp hc).1,(kp hc).2⟩⟩ ⟨by rw[d3];unfold jI;rw[ho],rfl⟩;rw[d2,e2];exact pF a1.2.2
def Ko{w:World}{p:Nat}{b:List Nat}(h:Rs w p b 0)(k n:Nat)(hk:1<=k/\k<=3)(hn:n<=256) :
  Calls prog 235 #[.pointer (some ⟨p,0,none⟩),.int .u8 (k:Int),.int .i64 (n:Int)] w λr w'=>∃ l b' f',(∃ v,r=.returned v/\OwnV w' w.heap.size v l)/\Rs w' p b' f'/\CP k n b l f'/\Fr p w.heap.size w w':=by
 have ar:=h.lt;have HN:=ae (PS h er0 n hn);have WX:=ae (λb1 b2 th s f1 h1 h2=>Vm (k:=k) (n:=n) (b:=b) (b1:=b1) (b2:=b2) (th:=th) (s:=s) (f1:=f1) hk hn h1 h2);have HK:=ae hk;clear h hk;go_enter func235,ntmps235
 go_wp2_with fail;refine HN.o.mono ?_;rintro e w1 ⟨th,b1,f1,⟨v1,rfl,dM⟩,La,QZ,dr,Rf,cm⟩;have fX:=ae dM;have MU:=ae La;have iW:=ae dr;have HRP1:=ae Rf;have dN:=ae cm;have bW:=cm.size;have oU:th.sum<=256:=by have:=rL La;omega
 have HON:=ae (Vd (eS.sv dM) La (by omega));have HVA:=ae (Kn dr Rf.1 k th.sum HK.o oU)
 have Rc:jgt (∀ j,v1.ownBlock=some j->j<w1.heap.size/\j≠p):=ae (λj hj=>by
  have:=dM.lt j hj;exact⟨this.2,by omega⟩)
 clear dM La dr Rf cm;go_wp2_with fail;refine HON.o.mono ?_;rintro e w2 ⟨rfl,rfl⟩;go_wp2_with fail;refine HVA.o.mono ?_;rintro e w3 ⟨s,b3,f3,⟨v3,rfl,fy⟩,ln,hrp3,iC⟩;have dL:=ae fy;have nf:=ae ln;have jdm:=ae hrp3;have mU:=ae (dN.o.trans (iC.mono bW));have gy:=iC.size;have HT3:=ae ((eS.sv fX.o).keptFr Rc.o iC);obtain⟨a0,cap0,k0,k1,k2,k3,k4,k5,k6,k7,k8,k9,k10⟩:=ln.cells;clear fy ln hrp3 iC k0 k2 k3 k4 k5 k6 k7 k8 k9 k10;by_cases uT:f3=0
 ·subst uT
  have Xe:=ae (WX.o b1 b3 th s f1 HRP1.o jdm.o);obtain⟨g1,g2⟩:=jdm.o.2.1 rfl;have HSP:=ae (Kk HT3.o MU.o (by omega) (OwnV.sv dL.o) g2.1 (λc hc=>(g2.2 c hc).2));clear g1 g2;generalize gN th s=L at *;go_wp2_with fail;refine HSP.o.mono ?_;rintro e w4 ⟨⟨v4,rfl,gz⟩,bD⟩;have gT:=ae (bL (B:=w.heap.size) gz (by omega));have zc:=ae (nf.o.kept bD nf.o.lt);have ya:=ae (mU.o.trans (Fr.of_below (bD.mono (by omega))));clear gz bD;go_wp2_with fail;go_ret
  exact⟨L,_,0,⟨_,rfl,gT.o⟩,zc.o,Xe.o,ya.o⟩
 ·have dC:((f3:Int) != 0)=true:=by simpa using uT
  have Xe:=ae (Zp (k:=k) HRP1.o jdm.o uT);clear uT;go_wp2_with fail;go_ret
  exact⟨[],_,f3,⟨_,rfl,OwnV.nil _ _⟩,nf.o,Xe.o,mU.o⟩
def Cm{w:World}{vb vl:Value}{b:List Nat}{l:jgv}{k:Nat}(hb:Sv w vb (aA .u8 b))(h8:Bs b)(hs:Sv w vl (aE l))(fP:∀ k,vl.ownBlock=some k->k<w.heap.size)(hc:Col k l) :
  Calls prog 236 #[.int .u8 (k:Int),vb,vl] w λe w'=>e=.returned (.bool (decide (es k l=b)))/\jgu w w':=by
 have HW:=ae (Ar hs fP (λc hcc=>(hc.2.2 c hcc).fine) k);rw[pG hc]at HW;have HB:=ae hb;have H8:=ae h8;have HCB:=ae (jh hc).2;clear hb h8 hs fP hc;unfold Aq at HW;generalize es k l=cb at *;go_enter func236,ntmps236
 go_wp2_with fail;refine HW.o.mono ?_;rintro e w1 ⟨⟨v1,rfl,dM⟩,az⟩;have WH:=ae (oC dM.sv (HB.o.kept az) HCB.o H8.o);have aL:=ae az;clear dM az;go_wp2_with fail;refine WH.o.mono ?_;rintro e w2 ⟨rfl,rfl⟩;go_wp2_with fail;go_ret
 exact⟨rfl,aL.o⟩
def uK(k:Nat)(b:List Nat)(n:Int)(l:jgv)(er:Nat):Prop :=
 if 1<=k/\k<=3 then
  (if 0<=n/\n<=256 then (er=0/\ge k b n.toNat=some l)∨(er≠0/\Er er/\l=[]/\ge k b n.toNat=none) else er=1/\l=[])
 else er=10/\l=[]
def Vn(k:Nat)(b:List Nat)(n:Int)(w:World)(e:Ending)(w':World):Prop :=
 ∃(v:Value) (l:jgv) (er:Nat),e=.returned (.tuple #[v,.int .i64 (er:Int)])/\OwnV w' w.heap.size v l/\uK k b n l er/\jgu w w'
def Qf{k n:Nat}{b:List Nat}{l:jgv}{er:Nat}(hk:1<=k/\k<=3)(hn:n<=256)(h:(er=0/\ge k b n=some l)∨(er≠0/\Er er/\l=[]/\ge k b n=none)):uK k b (n:Int) l er:=by
 unfold uK;rw[jey hk,jey (by omega),je3];exact h
def Zq{k n:Nat}{b:List Nat}{l:jgv}{f':Nat}(hk:1<=k/\k<=3)(hn:n<=256)(hb:Bs b)(hc:CP k n b l f')(h:¬ (f'=0/\es k l=b)):ge k b n=none:=by
 cases e:ge k b n with
 | none=>rfl
 | some y =>
  obtain⟨h1,h2,h3⟩:=(lN hk hn hb).1 e;obtain⟨d1,d2⟩:=hc.2.2.2 y h1 h2 h3.symm;exact absurd ⟨d1,by rw[d2];exact h3⟩ h
def Kp{w:World}{vb:Value}{b:List Nat}(hb:Sv w vb (aA .u8 b))(h8:Bs b)(k n:Nat)(hk:1<=k/\k<=3)(hn:n<=256) :
  Calls prog 214 #[.int .u8 (k:Int),vb,.int .i64 (n:Int)] w (Vn k b (n:Int) w):=by
 have uU:=ae hb;have H8:=ae h8;have yY:=ae (iU k);rw[jeP hk]at yY;have cy:=hb;obtain⟨a,cap,rfl,bg,bx⟩:=hb.form1;rw[am]at *;have mY:¬ (n:Int)<0:=by omega
 have Gt:¬ (n:Int) > 256:=by omega
 have cF:jgt (Rs (w.alloc (.cells #[.slice a b.length cap,.int .i64 0] 271)) w.heap.size b 0):=ae (by
  refine⟨a,cap,EU _ _,cy.kept (aj w _),λh0 j hj=>?_,h8⟩;obtain⟨a',cap',e,_,_,_,h4⟩:=cy;rw[am]at e h4;simp only[Value.slice.injEq]at e;obtain⟨rfl,_,_⟩:=e;obtain⟨g,off,rfl,h5,_⟩:=h4 h0;cases hj
  exact h5)
 have hza:=jeB w (.cells #[.slice a b.length cap,.int .i64 0] 271);have HCO:=ae (Ko cF.o k n hk hn);have fx:=ae (aj w (.cells #[.slice a b.length cap,.int .i64 0] 271));have HK:=ae hk;have jbs:=ae (λl f' hc h=>Zq (k:=k) (n:=n) (b:=b) (l:=l) (f':=f') hk hn h8 hc h);have HTM:=ae (λl er h=>Qf (k:=k) (n:=n) (b:=b) (l:=l) (er:=er) hk hn h);have HIFF:=ae (λl=>(lN (k:=k) (n:=n) (b:=b) (l:=l) hk hn h8).2);clear hb cy h8 hk bg bx;go_enter func214,ntmps214
 go_wp2_with fail;refine(yY.o _).mono ?_;rintro e w1 ⟨rfl,rfl⟩;go_wp2_with fail;refine HCO.o.mono ?_;rintro e w2 ⟨l,b2,f2,⟨v2,rfl,eA⟩,cV,Wu,cM⟩;have ap:jgu w1 w2:=fx.o.trans (cM.below (jeA _) (by omega));have eb:=ae (bL (B:=w1.heap.size) eA (by omega));have fJ:=ae cV;have Xe:=ae Wu;have aG:=ae ap;have aX:=ap.size;have jt:=cV.lt;obtain⟨a0,cap0,k0,k1,k2,k3,k4,k5,k6,k7,k8,k9,k10⟩:=cV.cells;obtain⟨av,cv,rfl,_,_⟩:=aZ eA;have HV2:=ae (OwnV.sv eA);have Rc:=ae (λj hj=>(eA.lt j hj).2);clear eA cV Wu cM ap k0 k2 k3 k4 k5 k6 k7 k8 k9 k10;by_cases uT:f2=0
 ·subst uT
  obtain⟨gl,bH⟩:=Xe.o.2.1 rfl;have Lk:=ae (Cm (uU.o.kept aG.o) H8.o HV2.o Rc.o gl);have Lm:=ae gl;have QU:=ae bH;clear gl bH;by_cases heq:es k l=b
  ·rw[jeP heq]at Lk
   have Rl:=ae (HTM.o l 0 (Or.inl ⟨rfl,HIFF.o l ⟨Lm.o,QU.o,heq⟩⟩));clear heq;go_wp2_with fail;refine Lk.o.mono ?_;rintro e w3 ⟨rfl,aJ⟩;have dL:=ae (bv eb.o aJ);have aY:=ae (aG.o.trans (aJ.mono aX));have hk1':=(fJ.o.kept aJ jt).cells;obtain⟨a3,cap3,q0,q1,q2,q3,q4,q5,q6,q7,q8,q9,q10⟩:=hk1';clear aJ q0 q2 q3 q4 q5 q6 q7 q8 q9 q10 k1;go_wp2_with fail;go_ret2
   exact⟨_,l,0,rfl,dL.o,Rl.o,aY.o⟩
  ·rw[jeM heq]at Lk
   have Rl:=ae (HTM.o [] 40 (Or.inr ⟨by omega,vy,rfl,jbs.o l 0 Xe.o (λh=>heq h.2)⟩));clear heq;go_wp2_with fail;refine Lk.o.mono ?_;rintro e w3 ⟨rfl,aJ⟩;have aY:=ae (aG.o.trans (aJ.mono aX));have gy:=aJ.size;have nf:=ae (fJ.o.kept aJ jt);clear aJ k1;go_wp2_with fail;refine(bZ nf.o 40).mono ?_;rintro e w4 ⟨rfl,yb,pt⟩;rw[eC]at yb;have cL:=ae (aY.o.trans (pt.below (jeA _) (by omega)));obtain⟨a3,cap3,q0,q1,q2,q3,q4,q5,q6,q7,q8,q9,q10⟩:=yb.cells;clear yb pt q0 q2 q3 q4 q5 q6 q7 q8 q9 q10;go_wp2_with fail;go_quiet (fail)
   go_wp2_with fail;go_ret2
   exact⟨_,[],40,rfl,OwnV.nil _ _,Rl.o,cL.o.trans ⟨rfl,rfl,rfl,jeA _,λ_ _=>rfl⟩⟩
 ·have dC:((f2:Int) != 0)=true:=by simpa using uT
  have sn:((f2:Int)==0)=false:=by simpa using uT
  have Rl:=ae (HTM.o [] f2 (Or.inr ⟨uT,Xe.o.1,rfl,jbs.o l f2 Xe.o (λh=>uT h.1)⟩));clear uT;go_wp2_with fail;go_quiet (fail)
  go_wp2_with fail;go_ret2
  exact⟨_,[],f2,rfl,OwnV.nil _ _,Rl.o,aG.o.trans ⟨rfl,rfl,rfl,jeA _,λ_ _=>rfl⟩⟩
def Qg{w:World}{vb:Value}{b:List Nat}(hb:Sv w vb (aA .u8 b))(h8:Bs b)(k:Nat)(n:Int) :
  Calls prog 214 #[.int .u8 (k:Int),vb,.int .i64 n] w (Vn k b n w):=by
 by_cases hk:1<=k/\k<=3
 ·by_cases hn:0<=n/\n<=256
  ·obtain⟨m,rfl⟩:∃ m:Nat,n=(m:Int):=⟨n.toNat,by omega⟩
   exact Kp hb h8 k m hk (by omega)
  ·have yY:=ae (iU k)
   rw[jeP hk]at yY;have Rl:jgt (uK k b n [] 1):=ae (by unfold uK;rw[jey hk,jex hn];exact⟨rfl,rfl⟩);obtain⟨a,cap,rfl,_,_⟩:=hb.form1;clear hb h8 hk;by_cases h0:n<0
   ·clear hn
    go_enter func214,ntmps214
    go_wp2_with fail;refine(yY.o _).mono ?_;rintro e w1 ⟨rfl,rfl⟩;go_wp2_with fail;go_ret2
    exact⟨_,[],1,rfl,OwnV.nil _ _,Rl.o,jez _ _⟩
   ·have h1:n > 256:=by omega
    clear hn;go_enter func214,ntmps214
    go_wp2_with fail;refine(yY.o _).mono ?_;rintro e w1 ⟨rfl,rfl⟩;go_wp2_with fail;go_ret2
    exact⟨_,[],1,rfl,OwnV.nil _ _,Rl.o,jez _ _⟩
 ·have yY:=ae (iU k)
  rw[jeM hk]at yY;have Rl:jgt (uK k b n [] 10):=ae (by unfold uK;rw[jex hk];exact⟨rfl,rfl⟩);obtain⟨a,cap,rfl,_,_⟩:=hb.form1;clear hb h8 hk;go_enter func214,ntmps214
  go_wp2_with fail;refine(yY.o _).mono ?_;rintro e w1 ⟨rfl,rfl⟩;go_wp2_with fail;go_ret2
  exact⟨_,[],10,rfl,OwnV.nil _ _,Rl.o,jez _ _⟩
end Go.Proofs.YtpljdjmpamjkhaaGreatDoor
