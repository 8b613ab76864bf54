import Derived.Test.YtpljdjmpamjkhaaGreatDoorUaz
import Derived.Deep.CutRange
set_option linter.unusedVariables false
set_option linter.unusedSimpArgs false
set_option maxRecDepth 100000
set_option maxHeartbeats 8000000
namespace Go.Proofs.YtpljdjmpamjkhaaGreatDoor
open Go.RowKit Go.Lib Go.Shelf
attribute [local go_sem] Oper.semAt_some
theorem Tv{w:World}{fv rv:Value}{fs:List Fd}{rs:List Row}{id g:Nat}(hs:Sf w fv fs)(hr:Rv w rv rs)(ho:∀ f∈fs,Okf f)(na:id<4294967296)(hl:fs.length<=8)(hz:szs fs<5000)(pC:rs.length<=256)(eS:1<=g)(gM:g<=64)
  (dA:jQ fs rs) (hk:∀ f∈fs,1<=f.2.2.1/\f.2.2.1<=3) :
  Calls Tryz.prog 41 #[.agg #[.int .u32 (id:Int),fv],rv,.int .i64 (g:Int)] w (dw w (ex id fs rs g)):=by
 obtain⟨fa,fcap,rfl,jbK,jbL⟩:=hs.form;obtain⟨ra,rcap,rfl,XY,PP,hra⟩:=hr.form;have Pr:jfb (∀ U:World,Sf U (.slice fa fs.length fcap) fs->Calls Tryz.prog 80 #[.agg #[.int .u32 (id:Int),.slice fa fs.length fcap]] U (dw U (dB id fs))):=ae (fun U h=>Si h ho (by omega) hz id na);have mY:=ae (fun n (hn:n<9223372036854775808)=>qc n hn);have dY:=ak w (.cells #[.int .u32 (id:Int),.slice fa fs.length fcap] 25);have jU:=jdH w (.cells #[.int .u32 (id:Int),.slice fa fs.length fcap] 25);have jx:(w.alloc (.cells #[.int .u32 (id:Int),.slice fa fs.length fcap] 25)).heap.size=w.heap.size+1:=jdi _ _;have HS:=ae (hs.kept dY);have HR:=ae (hr.kept dY);have XZ:=ae hr;have cE:=ae dY
 have HT:jfb (∀ U,Below (w.alloc (.cells #[.int .u32 (id:Int),.slice fa fs.length fcap] 25)).heap.size (w.alloc (.cells #[.int .u32 (id:Int),.slice fa fs.length fcap] 25)) U->U.cell? ⟨w.heap.size,0,none⟩=some (.int .u32 (id:Int))/\U.cell? ⟨w.heap.size,1,none⟩=some (.slice fa fs.length fcap)):=ae (fun U hb=>by
  have hU:=(hb.block w.heap.size (by omega)).trans jU;constructor<;>(rw[ay hU];rfl))
 generalize hA:w.alloc (.cells #[.int .u32 (id:Int),.slice fa fs.length fcap] 25)=A at *;have rS:=ae jx
 have uL:(convert 30 30 (.slice (some ⟨A.heap.size,0,none⟩) 3 3)).run Tryz.prog (A.alloc (.cells #[.int .u8 67,.int .u8 70,.int .u8 49] 5))=.ok (.slice (some ⟨A.heap.size,0,none⟩) 3 3) (A.alloc (.cells #[.int .u8 67,.int .u8 70,.int .u8 49] 5 (3,4))) :=
  run_convert_bytes_const A 30 5 #[.int .u8 67,.int .u8 70,.int .u8 49] 3 3 Tryz.underlying30 Tryz.underlying5
 obtain⟨c0,c1⟩:=HT.o A (jdg _ _);clear hs hr dY jU jx;refine(callsIn_wide (n:=3)).1 ?_;refine callsIn_of_wp_marks Tryz.func41 rfl trivial ?_ rfl;refine wpIn_wide.2 ?_;simp only[Tryz.ntmps41,List.size_toArray,jdn,jdI,Nat.reduceAdd,Nat.reduceSub,Array.replicate_succ,Array.replicate_zero,List.push_toArray,List.append_toArray,jee,jd6];have hbX:Below A.heap.size A ((A.alloc (.cells #[.int .u8 67,.int .u8 70,.int .u8 49] 5 (3,4))).alloc (.cells #[.slice (some ⟨A.heap.size,0,none⟩) 3 3] 30)):=((jdg A.heap.size A).alloc (jdh _) _).alloc (by rw[jdi];omega) _;obtain⟨d0,d1⟩:=HT.o _ hbX
 have hLit:LitM ((A.alloc (.cells #[.int .u8 67,.int .u8 70,.int .u8 49] 5 (3,4))).alloc (.cells #[.slice (some ⟨A.heap.size,0,none⟩) 3 3] 30)) A.heap.size (.slice (some ⟨A.heap.size,0,none⟩) 3 3) [67,70,49]:=by
  refine⟨rfl,_,rfl,jdh _,?_⟩;exact(Below.heap_alloc (A.alloc (.cells #[.int .u8 67,.int .u8 70,.int .u8 49] 5 (3,4))) _ A.heap.size (by rw[jdi];omega)).trans (jdH A _)
 have hBox:Boxed ((A.alloc (.cells #[.int .u8 67,.int .u8 70,.int .u8 49] 5 (3,4))).alloc (.cells #[.slice (some ⟨A.heap.size,0,none⟩) 3 3] 30)) (A.heap.size+1) 30 (.slice (some ⟨A.heap.size,0,none⟩) 3 3):=by
  have:=Boxed.new (A.alloc (.cells #[.int .u8 67,.int .u8 70,.int .u8 49] 5 (3,4))) 30 (.slice (some ⟨A.heap.size,0,none⟩) 3 3);rwa[jdi]at this
 go_wp2_with fail;generalize hX:((A.alloc (.cells #[.int .u8 67,.int .u8 70,.int .u8 49] 5 (3,4))).alloc (.cells #[.slice (some ⟨A.heap.size,0,none⟩) 3 3] 30))=X at *;clear hX uL;refine(Pr.o _ (HS.o.kept hbX)).mono ?_;rintro e w1 ⟨⟨v1,rfl,o1⟩,aH⟩;obtain⟨a1,cap1,rfl,_,_⟩:=aN o1;have hbY:=ai aH (ak w1 (.cells #[.slice a1 (dB id fs).length cap1] 30));have hboxY:=Boxed.new w1 30 (.slice a1 (dB id fs).length cap1);have hltX:A.heap.size+1<X.heap.size:=hBox.lt;have hX1:=aH.size
 have hBX:Bx2 (w1.alloc (.cells #[.slice a1 (dB id fs).length cap1] 30)) A.heap.size (A.heap.size+1) w1.heap.size (.slice (some ⟨A.heap.size,0,none⟩) 3 3) (.slice a1 (dB id fs).length cap1) [67,70,49] (dB id fs):=by
  refine⟨(hbY.block (A.heap.size+1) hltX).trans hBox,hboxY,by omega,(fL.kept (Or.inr hLit) hbY),Or.inl (aD.kept (be o1 hbX.size) (ak w1 (.cells #[.slice a1 (dB id fs).length cap1] 30))),fun g hg h2=>?_,by omega,by omega⟩;have:=(World.ownsRow.lt o1 g h2).1;simp[Value.ownBlock]at hg
  omega
 have hbAY:Below A.heap.size A (w1.alloc (.cells #[.slice a1 (dB id fs).length cap1] 30)):=ai hbX hbY
 have rZ:jfb ((dB id fs).length<=10100):=ae (by
  have h1:=fI ho (by omega) hz fs.length;rw[jdp]at h1;have h2:=gq id (by omega);have h3:=gq fs.length (by omega);unfold dB;simp only[jdj];omega)
 generalize hP0:dB id fs=P0 at *;have HE0:=ae hP0;clear hP0;go_upto_region 3 with fail
 clear aH o1 hbY hboxY hLit hBox hbX d0 d1 c0 c1 hX1;generalize hY:w1.alloc (.cells #[.slice a1 P0.length cap1] 30)=Y at *;generalize w1.heap.size=Bf at *;have fQ:A.heap.size+1≠Bf:=hBX.2.2.1;generalize A.heap.size+1=Bb at *;clear hY hltX;have ml:=ae hBX;have eY:=ae hbAY;obtain⟨⟨q1,q2⟩,⟨q3,q4⟩⟩:=hBX.cells;clear hBX hbAY;have hup1:=mt rs.length;have hul1:=bJ (n:=rs.length) (by omega);have hup2:=mt g;have hul2:=bJ (n:=g) (by omega);have XS:rs.length<9223372036854775808:=by omega
 have Zi:g<9223372036854775808:=by omega
 have HCN0:=ae mY.o;have HCN1:=ae (mY.o rs.length XS);have HCN2:=ae (mY.o g Zi);generalize hP1:uv rs.length=P1 at *;generalize hP2:uv g=P2 at *;have Zk:=ae hP1;have HE2:=ae hP2;clear hP1 hP2
 have VA:jfb (∀ U,Below Y.heap.size Y U->Calls Tryz.prog 81 #[.int .i64 (rs.length:Int)] U fun e w'=>∃ v,e=.returned v/\Sv w' v (aF .u8 (P1))/\Below Y.heap.size Y w'/\w'.cell? ⟨Bf,0,none⟩=some (.slice a1 P0.length cap1)):=ae (fun U hU=>by
  refine(HCN1.o U).mono ?_;rintro e w' ⟨⟨v,rfl,ho⟩,hb⟩;exact⟨v,rfl,ho.sv,ai hU hb,((ml.o.kept (ai hU hb)).cells.2).1⟩)
 go_cut [] from 15 (fun wx=>∃ v2,Bx2 wx A.heap.size Bb Bf (.slice (some ⟨A.heap.size,0,none⟩) 3 3) v2 [67,70,49] (P0++P1)/\Below A.heap.size A wx)
 case first =>
  refine wp_region_noPanic ?_
  go_region_law (first
   | (refine lw (by rfl) _ _ (by rfl) A.heap.size _ _ (P0) (P1) (by rfl) ?_ (by rfl) dJ.o hup1 ?_ ?_ ?_;exact(ml.o.kept aS.o).2.2.2.2.1;(have:=rZ.o;omega);exact jdq eY.o.size aS.o.size;intro v6 w6 o6 g6 e6;obtain⟨a6,cap6,oY,_,_⟩:=aN o6;rw[jdj]at oY;subst oY;obtain⟨⟨f1,f2⟩,iA,iB⟩:=(ml.o.kept aS.o).swap.app (jdq eY.o.size aS.o.size) o6 g6 e6;have vD:=ae iA.swap;have Cm:=ae (iB);clear o6 g6 e6 iA iB)
   | (go_simp;go_at_call 81;refine(VA.o _ ?_).mono ?_;exact ar (jdg Y.heap.size Y) 1;rintro e w5 ⟨v5,rfl,fV,br,hc5⟩;have dJ:=ae fV;have aS:=ae br;clear fV br;dsimp only)
   | fail)
  all_goals refine NoPanic.normal ?_
  all_goals (go_wp2_with fail;go_meet;exact⟨_,vD.o,(eY.o.trans (aS.o.mono eY.o.size)).trans Cm.o⟩)
 clear VA ml eY q1 q2 q3 q4
 case rest =>
 obtain⟨v2,hBX,hbA⟩:=hcut;go_upto_region 4 with fail
 obtain⟨⟨q1,q2⟩,⟨q3,q4⟩⟩:=hBX.cells;obtain⟨a2,cap2,rfl⟩:=hBX.2.2.2.2.1.slice;have ml:=ae hBX;have eY:=ae hbA;clear hBX hbA;have hF1l:(P0++P1).length<=10110:=by have:=rZ.o;rw[jdj];omega
 generalize hF1:P0++P1=F1 at *
 have HC2:jfb (∀ U,Below wc.heap.size wc U->Calls Tryz.prog 81 #[.int .i64 (g:Int)] U fun e w'=>∃ v,e=.returned v/\Sv w' v (aF .u8 (P2))/\Below wc.heap.size wc w'/\w'.cell? ⟨Bf,0,none⟩=some (.slice a2 F1.length cap2)):=ae (fun U hU=>by
  refine(HCN2.o U).mono ?_;rintro e w' ⟨⟨v,rfl,ho⟩,hb⟩;exact⟨v,rfl,ho.sv,ai hU hb,((ml.o.kept (ai hU hb)).cells.2).1⟩)
 go_cut [] from 15 (fun wx=>∃ v2,Bx2 wx A.heap.size Bb Bf (.slice (some ⟨A.heap.size,0,none⟩) 3 3) v2 [67,70,49] (F1++P2)/\Below A.heap.size A wx)
 case first =>
  refine wp_region_noPanic ?_
  go_region_law (first
   | (refine lw (by rfl) _ _ (by rfl) A.heap.size _ _ (F1) (P2) (by rfl) ?_ (by rfl) dJ.o hup2 ?_ ?_ ?_;exact(ml.o.kept aS.o).2.2.2.2.1;(omega);exact jdq eY.o.size aS.o.size;intro v6 w6 o6 g6 e6;obtain⟨a6,cap6,oY,_,_⟩:=aN o6;rw[jdj]at oY;subst oY;obtain⟨⟨f1,f2⟩,iA,iB⟩:=(ml.o.kept aS.o).swap.app (jdq eY.o.size aS.o.size) o6 g6 e6;have vD:=ae iA.swap;have Cm:=ae (iB);clear o6 g6 e6 iA iB)
   | (go_simp;go_at_call 81;refine(HC2.o _ ?_).mono ?_;exact ar (jdg wc.heap.size wc) 1;rintro e w5 ⟨v5,rfl,fV,br,hc5⟩;have dJ:=ae fV;have aS:=ae br;clear fV br;dsimp only)
   | fail)
  all_goals refine NoPanic.normal ?_
  all_goals (go_wp2_with fail;go_meet;exact⟨_,vD.o,(eY.o.trans (aS.o.mono eY.o.size)).trans Cm.o⟩)
 clear HC2 ml eY q1 q2 q3 q4
 case rest =>
 obtain⟨v3,hBX,hbA⟩:=hcut;have hF2l:(F1++P2).length<=10120:=by rw[jdj];omega
 generalize hF2:F1++P2=F2 at *;have ml:=ae hBX;have eY:=ae hbA;clear hBX hbA;have HCH:=ae (NF ra rs.length rcap g eS);go_wp2_with fail;refine(HCH.o _).mono ?_;rintro e w7 ⟨rfl,rfl⟩;go_wp2_with fail;have hbZ:Below wc.heap.size wc ((wc.alloc (.cells #[.slice ra rs.length rcap] 34)).alloc (.cells #[.int .i64 (g:Int)] 3)):=ai (ak _ _) (ak _ _);have hp1:Boxed ((wc.alloc (.cells #[.slice ra rs.length rcap] 34)).alloc (.cells #[.int .i64 (g:Int)] 3)) wc.heap.size 34 (.slice ra rs.length rcap):=(Boxed.new wc 34 _).alloc _
 have sg:Boxed ((wc.alloc (.cells #[.slice ra rs.length rcap] 34)).alloc (.cells #[.int .i64 (g:Int)] 3)) (wc.heap.size+1) 3 (.int .i64 (g:Int)):=by
  have:=Boxed.new (wc.alloc (.cells #[.slice ra rs.length rcap] 34)) 3 (.int .i64 (g:Int));rwa[jdi]at this
 have hBZ:=ml.o.kept hbZ;have hAZ:=ai eY.o hbZ;generalize (wc.alloc (.cells #[.slice ra rs.length rcap] 34)).alloc (.cells #[.int .i64 (g:Int)] 3)=Z at *;clear hbZ ml eY;generalize wc.heap.size+1=q at *;generalize wc.heap.size=p at *;obtain⟨PV,VJ,hseq⟩:=NH XZ.o pC eS gM 2 (by omega);have hseqZ:=hseq p q Z hp1.cell sg.cell hp1.lt sg.lt;have VJ:=ae VJ;have hpZ:=hp1.lt;have hqZ:=sg.lt;have hAZs:=hAZ.size;clear hseq;refine wpIn_wide.1 (?_:Code.wpIn Fence.wide 3 _ _ _ _ _)
 refine wpIn_rangeFunc_ownF (F:=Fence.wide) (n:=3) rfl (by omega) (gf:=121) (lb:=#[.pointer (some ⟨p,0,none⟩),.pointer (some ⟨q,0,none⟩)]) rfl trivial (enters_of Tryz.func121 (by kernel_rfl) rfl) hseqZ (fun h k=>KC.trans h k) (fun W l o o' hl _ _ _=>⟨World.putObj_heap_other (show p≠l by omega),World.putObj_heap_other (show q≠l by omega)⟩) (jdg _ _) (fun _=>rfl)
  (fun pre W=>((∃ v1 v2,Bx2 W A.heap.size Bb Bf v1 v2 ([67,70,49]++pre.flatMap fun j=>eN fs (prt g rs j) fs.length) (F2++pre.flatMap fun j=>ftK fs (prt g rs j) fs.length))/\Boxed W p 34 (.slice ra rs.length rcap)/\Boxed W q 3 (.int .i64 (g:Int)))/\Below A.heap.size A W)
  (fun _ _ _=>False) ?hI (fun _ _ _ _ _ h _ _=>h) ?h0
  (fun j=>{ tmps:=#[(.agg #[.int .u32 (id:Int),.slice fa fs.length fcap]),(.slice ra rs.length rcap),(.int .i64 (g:Int)),(.pointer (some ⟨w.heap.size,0,none⟩)),undef,undef,(.slice none 0 0),(.pointer (some ⟨Bb,0,none⟩)),(.pointer (some ⟨Bf,0,none⟩)),(PV j),undef,undef,undef,undef,undef,u15,u16,u17,u18,u19,u20,u21,u22,u23,u24,u25,u26,u27,(.slice ra rs.length rcap),(.int .i64 (g:Int)),(.func (.func 121) #[] #[.pointer (some ⟨p,0,none⟩),.pointer (some ⟨q,0,none⟩)]),(PV j),u32,u33,u34,u35,u36,u37,u38,u39,u40,u41,u42,u43,u44,u45,u46,u47,u48,u49,u50,u51,u52,u53,u54,u55,u56,u57,u58,u59,u60,u61,u62,u63,u64,u65,u66,u67,u68,u69,u70,u71],defers:=[] }) ?assign ?body ?done ?stop
 case hI =>
  rintro pre X Y' row ⟨⟨⟨v1,v2,h1⟩,h2,h3⟩,h4⟩ hg hr;refine⟨⟨⟨v1,v2,h1.turned hg (fun r e=>(hr r e).2)⟩,?_,?_⟩,h4.grown hg h4.size (fun k e=>jdq hAZs (hr k e).1)⟩
  ·refine h2.kept hg (fun e=>?_)
   obtain⟨_,o,ho,hc⟩:=hr _ e.symm;rw[show X.heap[p]?=_ from h2]at ho;cases ho
   cases hc
  ·refine h3.kept hg (fun e=>?_)
   obtain⟨_,o,ho,hc⟩:=hr _ e.symm;rw[show X.heap[q]?=_ from h3]at ho;cases ho
   cases hc
 case h0=>exact⟨⟨⟨_,_,by simpa using hBZ⟩,hp1,sg⟩,hAZ⟩
 case assign =>
  intro l x W K hK;gi_wp2
  exact hK
 case body =>
  rintro l pre j W ⟨⟨⟨v1,v2,Cn⟩,VF,uP⟩,An⟩ aC;have UQ:jfb (∀ U,Below A.heap.size A U->U.cell? ⟨w.heap.size,1,none⟩=some (.slice fa fs.length fcap)/\Sf U (.slice fa fs.length fcap) fs):=ae (fun U hU=>⟨(HT.o U hU).2,HS.o.kept hU⟩);have kK:=bZ g rs j;have jbN:(prt g rs j).length<=256:=by omega
  have nj:=ae (fun k kG=>eX (dA.part g j) hk jbN (k:=k) kG);have Ps:=ae (fun k (kG:k<=fs.length)=>(me nj.o kG).1);have LG:=ae (fun k (kG:k<=fs.length)=>(oO (dA.part g j) jbN nj.o kG).1);have cT:=ae (fun k=>Lo (dA.part g j) jbN k);have PC:=ae (fun k=>md (dA.part g j) k);have KE:jfb (∀ U,Below A.heap.size A U->Rv U (PV j) (prt g rs j)):=ae (fun U hU=>VJ.o U (HR.o.kept hU) j);have XJ:jfb (∀ r∈prt g rs j,r.length=fs.length):=ae (fun r hr=>qy (dA.part g j r hr).1);have HKN:jfb (∀ k (h:k<fs.length),lV fs k=fs[k].2.2.1):=ae (fun k h=>lW h);have ur:=ae (lY fs (prt g rs j));have tu:=ae (nM fs (prt g rs j));have HZ1:jfb (([67,70,49]++(pre++[j]).flatMap fun j=>eN fs (prt g rs j) fs.length)=([67,70,49]++pre.flatMap fun j=>eN fs (prt g rs j) fs.length)++eN fs (prt g rs j) fs.length):=ae (by simp[jet]);have LM:jfb ((F2++(pre++[j]).flatMap fun j=>ftK fs (prt g rs j) fs.length)=(F2++pre.flatMap fun j=>ftK fs (prt g rs j) fs.length)++ftK fs (prt g rs j) fs.length):=ae (by simp[jet]);have hpre:pre.length<=256:=by have:=kg (n:=rs.length) eS pC;omega
  have hG1:([67,70,49]++pre.flatMap fun j=>eN fs (prt g rs j) fs.length).length<=50000000:=by
   have h1:=ix (m:=172800) (fun j=>jdq (me (fun k kG=>eX (dA.part g j) hk (by rw[bZ];omega) kG) (jdh _)).1 (by omega)) pre;rw[jdj];simp only[jdn,jdI];have:172800*pre.length<=172800*256:=jei _ hpre;omega
  have hG2:(F2++pre.flatMap fun j=>ftK fs (prt g rs j) fs.length).length<=500000:=by
   have h1:=ix (m:=1360) (fun j=>jdq (oO (dA.part g j) (by rw[bZ];omega) (fun k kG=>eX (dA.part g j) hk (by rw[bZ];omega) kG) (jdh _)).1 (by omega)) pre;rw[jdj];have:1360*pre.length<=1360*256:=jei _ hpre;omega
  have ml:=ae Cn;have HPQ:=ae (And.intro VF uP);have eY:=ae An;obtain⟨ly,xX⟩:=UQ.o W An;clear Cn VF uP An hseqZ hBZ hAZ aC kK xX VJ;generalize ([67,70,49]++pre.flatMap fun j=>eN fs (prt g rs j) fs.length)=G1 at *;generalize (F2++pre.flatMap fun j=>ftK fs (prt g rs j) fs.length)=G2 at *;generalize prt g rs j=PT at *;generalize PV j=pv at *;gi_wp2
  gi_loopw [35] (fun i wr=>∃(k:Nat) (v1 v2:Value),k<=fs.length/\i=.int .i64 (k:Int)/\Bx2 wr A.heap.size Bb Bf v1 v2 (G1++eN fs PT k) (G2++ftK fs PT k)/\(Boxed wr p 34 (.slice ra rs.length rcap)/\Boxed wr q 3 (.int .i64 (g:Int)))/\KeepsOthers W wr/\Below A.heap.size A wr) (fun i _=>fs.length-(intOf i).toNat)
  case atStart=>exact⟨0,v1,v2,by omega,rfl,by simpa [eN,ftK]using ml.o,HPQ.o,KeepsOthers.refl _,eY.o⟩
  case round =>
   obtain⟨k,u1,u2,pu,rfl,Cn,hpq,hko,An⟩:=hrel;have HBXr:=ae Cn;have HPQr:=ae hpq;have HKOr:=ae hko;have HBAr:=ae An;clear Cn hpq hko An;by_cases aC:k<fs.length
   ·have hlt':(k:Int)<(fs.length:Int):=by omega
    obtain⟨hd1,xX⟩:=UQ.o wr HBAr.o;obtain⟨bb,off,rfl,hb,x0,x1,x2,x3⟩:=xX.at aC;clear xX;have dV:=nj.o k aC;have fO:=Ps.o k pu;have jT:=LG.o k pu;have FU:=HKN.o k aC;gi_wp2
    have Kk:jfb (∀ r∈PT,k<r.length):=ae (fun r hr=>by rw[XJ.o r hr];exact aC);rw[FU]at dV;have HBSk:jfb (eN fs PT (k+1)=eN fs PT k++eo fs[k].2.2.1 (cV PT k)):=ae (by rw[ur.o,FU]);have HFSk:jfb (ftK fs PT (k+1)=ftK fs PT k++(uv (eo fs[k].2.2.1 (cV PT k)).length++ew (cy (cV PT k)))):=ae (by rw[tu.o,FU]);clear FU;generalize fs[k]=f at *;obtain⟨f0,f1,f2,f3⟩:=f;simp only at x0 x1 x2 x3 dV HBSk HFSk ⊢;have aH:=ak wr (.cells #[.int .u32 (f0:Int),.string f1,.int .u8 (f2:Int),.bool f3] 81);obtain⟨_,_,z2,_⟩:=iW wr (.int .u32 (f0:Int)) (.string f1) (.int .u8 (f2:Int)) (.bool f3) 81;have bn:wr.heap.size<(wr.alloc (.cells #[.int .u32 (f0:Int),.string f1,.int .u8 (f2:Int),.bool f3] 81)).heap.size:=by rw[jdi];omega
    generalize wr.alloc (.cells #[.int .u32 (f0:Int),.string f1,.int .u8 (f2:Int),.bool f3] 81)=R1 at *;have aR:=ae aH;clear aH x0 x1 x2 x3 hd1;refine⟨trivial,?_⟩;refine(CallsIn.inRound l (callsIn_wide.2 (Bu (KE.o R1 (ai HBAr.o aR.o)) (by omega) Kk.o))).mono ?_;rintro e R2 ⟨⟨vv,rfl,o2⟩,aE⟩;have ie:=o2.sv;have rT:jfb (∀ b,vv.ownBlock=some b->b<R2.heap.size):=ae (fun b hb=>(World.ownsRow.lt o2 b hb).2);obtain⟨av,capv,rfl,_,_⟩:=aN o2;have z2':=(aE.cell (p:=⟨wr.heap.size,2,none⟩) bn).trans z2;have aO:=ae (ai aR.o aE);have Ah:=ae ie;have hWC:=kl dV;have eQ:=io dV
    have VP:0<(eo f2 (cV PT k)).length:=by
     unfold eo dF;rw[jdj];split
     ·rw[jdn]
      omega
     ·rw[jdS]
      omega
    have KD:=ae (zN ie rT.o (PC.o k) f2);rw[hWC]at KD;obtain⟨t1,t2,t3⟩:=cT.o k;have jbO:jfb (∀(U:World) (B:Nat) (u:Value),OwnV U B u (cV PT k)->Calls Tryz.prog 59 #[u] U fun e w'=>e=.returned (uC (cy (cV PT k)))/\Below U.heap.size U w'):=ae (fun U B u hU=>zH hU.sv (PC.o k) (by rw[dr];omega));have HOV:=ae o2;have UR:=ae (fun U=>nN t1 t2 t3 U);obtain⟨t4,t5⟩:=oN t1 t2 t3;have t6:0<(ew (cy (cV PT k))).length:=by unfold ew;simp only[jdj,jdS];omega
    have XW:=bJ (n:=(eo f2 (cV PT k)).length) (by omega);have Ya:=mt (eo f2 (cV PT k)).length;have Yb:=ae (HCN0.o (eo f2 (cV PT k)).length (by omega));have hcll:=(io dV).1;have hvl:(cV PT k).length=PT.length:=dr _ _;clear hWC eQ t1 t2 t3 t5 aE o2 ie z2 dV;generalize hCM:eo f2 (cV PT k)=CM at *;generalize hSM:cy (cV PT k)=SM at *;generalize hSB:ew SM=SB at *;generalize hUV:uv CM.length=UV at *;have HUV:=ae hUV;have HSB:=ae hSB;have VB:=ae hSM;have Kx:=ae hCM;clear hCM hSM hSB hUV hvl;generalize hCS:cV PT k=CS at *;have HCS:=ae hCS;clear hCS;gi_wp2
    refine⟨trivial,?_⟩;refine(CallsIn.inRound l (callsIn_wide.2 KD.o)).mono ?_;rintro e R3 ⟨⟨vc,rfl,o3⟩,aQ⟩;obtain⟨ac,capc,rfl,_,_⟩:=aN o3;have bN:=ae (ai aO.o aQ);have cZ:=ae o3;have FH:=HBXr.o.kept bN.o;have hba3:=ai HBAr.o bN.o;obtain⟨⟨q1,q2⟩,⟨q3,q4⟩⟩:=FH.cells;obtain⟨a1',cap1',rfl⟩:=FH.2.2.2.1.slice;obtain⟨a2',cap2',rfl⟩:=FH.2.2.2.2.1.slice;have FI:=ae FH;have jbP:=ae hba3;have HOV3:=ae (HOV.o.kept aQ);clear FH hba3 o3 aQ;have hg1l:(G1++eN fs PT k).length<=50200000:=by rw[jdj];omega
    have hg2l:(G2++ftK fs PT k).length<=510000:=by rw[jdj];omega
    generalize hM1:G1++eN fs PT k=M1 at *;generalize hM2:G2++ftK fs PT k=M2 at *;have PM:=ae hM1;have KA:=ae hM2;clear hM1 hM2;gi_wp2_with (first | (gi_at_builtin;refine rH rfl _ _ rfl A.heap.size _ _ M1 CM rfl FI.o.2.2.2.1 rfl cZ.o.sv VP ?n3 ?n4 ?_))
    case n3=>omega
    case n4=>exact jbP.o.size
    intro vb4 R4 o4 g4 e4;generalize hN1:M1++CM=N1 at *;have Kn:=ae hN1;clear hN1;obtain⟨a4,cap4,hv4,_,_⟩:=aN o4;subst hv4;obtain⟨⟨y1,y2⟩,jbQ,hbl4⟩:=FI.o.app jbP.o.size o4 g4 e4;have HPQ4:=ae (And.intro (FI.o.other (v':=.slice a4 N1.length cap4) g4 ((bN.o.block _ HPQr.o.1.lt).trans HPQr.o.1) (by decide) (by decide)) (FI.o.other (v':=.slice a4 N1.length cap4) g4 ((bN.o.block _ HPQr.o.2.lt).trans HPQr.o.2) (by decide) (by decide)));have HKO4:=ae ((HKOr.o.trans (ee bN.o)).trans (FI.o.keeps (v':=.slice a4 N1.length cap4) g4));have HBX4:=ae jbQ;have HOV4:=ae (FI.o.keepV (v':=.slice a4 N1.length cap4) g4 HOV3.o (by decide) (by decide));have HBA4:=ae (jbP.o.trans hbl4);clear o4 g4 e4 hbl4 q1 q2 q3 q4;obtain⟨⟨q1,q2⟩,⟨q3,q4⟩⟩:=jbQ.cells;clear jbQ;gi_wp2
    have iC:=HBX4;have nY:=HPQ4;have US:=HOV4;have UT:=HKO4;have nZ:=HBA4;clear HBX4 HPQ4 HOV4 HKO4 HBA4 y1 y2;generalize R4.setCell ⟨Bb,0,none⟩ (.slice a4 N1.length cap4)=V4 at *;gi_cut [] from 72 (fun wx=>∃ v2,Bx2 wx A.heap.size Bb Bf (.slice a4 N1.length cap4) v2 N1 (M2++UV)/\(Boxed wx p 34 (.slice ra rs.length rcap)/\Boxed wx q 3 (.int .i64 (g:Int)))/\OwnV wx R1.heap.size (.slice av CS.length capv) CS/\KeepsOthers W wx/\Below A.heap.size A wx)
    case first =>
     refine wpIn_region_any (by kernel_rfl) ?_;change wpAnyIn _ _ _ _ _ _ _ _ _ V4.drew
     refine wpAnyIn_ready (rs:=[0,1]) (by kernel_rfl) (by simp) ?_;refine AllReadyIn.cons rfl (fun K hK=>?_) ?_
     ·have HK:=ae hK
      clear hK;go_simp
      refine HK.o _ _ ?_;clear HK K;try simp only[Act.put,jdv,jdr,jdu]
      refine wpAnyIn_ready (rs:=[1]) (by kernel_rfl) (by simp) ?_;refine AllReadyIn.cons rfl (fun K hK=>?_) ?_
      ·have HK:=ae hK
       clear hK;go_simp
       refine HK.o _ _ ?_;clear HK K;try simp only[Act.put,jdv,jdr,jdu]
       refine wpAnyIn_ready (rs:=[2]) (by kernel_rfl) (by simp) ?_;refine AllReadyIn.cons rfl (fun K hK=>?_) ?_
       ·have HK:=ae hK
        clear hK;go_simp
        refine HK.o _ _ ?_;clear HK K;try simp only[Act.put,jdv,jdr,jdu]
        refine wpAnyIn_ready (rs:=[3]) (by kernel_rfl) (by simp) ?_;refine AllReadyIn.cons rfl (fun K hK=>?_) ?_
        ·have HK:=ae hK
         clear hK;go_simp
         refine⟨trivial,?_⟩;refine(CallsIn.inRound l (callsIn_wide.2 (Yb.o V4.drew))).mono ?_;rintro e w5 ⟨⟨v5,rfl,o5⟩,hb5'⟩;have br:Below V4.heap.size V4 w5:=(ar (jdg V4.heap.size V4) 1).trans hb5';obtain⟨⟨q1,q2⟩,⟨q3,q4⟩⟩:=(iC.o.kept br).cells;have dJ:=ae o5;have aS:=ae br;clear o5 br hb5';dsimp only
         refine HK.o _ _ ?_;clear HK K;try simp only[Act.put,jdv,jdr,jdu]
         refine wpAnyIn_ready (rs:=[4]) (by kernel_rfl) (by simp) ?_;refine AllReadyIn.cons rfl (fun K hK=>?_) ?_
         ·have HK:=ae hK
          clear hK;rw[jdf (by rfl)];refine de _ _ rfl A.heap.size _ _ M2 UV rfl (iC.o.kept aS.o).2.2.2.2.1 rfl dJ.o.sv Ya (by omega) (jdq nZ.o.size aS.o.size) ?_;intro v6 w6 o6 g6 e6;obtain⟨a6,cap6,oY,_,_⟩:=aN o6;rw[jdj]at oY;subst oY;obtain⟨⟨f1,f2⟩,iA,iB⟩:=(iC.o.kept aS.o).swap.app (jdq nZ.o.size aS.o.size) o6 g6 e6;have vD:=ae iA.swap;have Cm:=ae iB;have kI:=ae g6;clear o6 g6 e6 iA iB;refine HK.o _ _ ?_;clear HK K;try simp only[Act.put,jdv,jdr,jdu]
          refine wpAnyIn_ready (rs:=[5]) (by kernel_rfl) (by simp) ?_;refine AllReadyIn.cons rfl (fun K hK=>?_) ?_
          ·have HK:=ae hK
           clear hK;go_simp
           refine HK.o _ _ ?_;clear HK K;try simp only[Act.put,jdv,jdr,jdu]
           refine wpAnyIn_done (by kernel_rfl) ?_ _;gi_wp2
           gi_meet
           exact⟨_,vD.o,⟨(iC.o.kept aS.o).swap.other kI.o ((aS.o.block _ nY.o.1.lt).trans nY.o.1) (by decide) (by decide),(iC.o.kept aS.o).swap.other kI.o ((aS.o.block _ nY.o.2.lt).trans nY.o.2) (by decide) (by decide)⟩,(iC.o.kept aS.o).swap.keepV kI.o (OwnV.kept US.o aS.o) (by decide) (by decide),(UT.o.trans (ee aS.o)).trans ((iC.o.kept aS.o).swap.keeps kI.o),(nZ.o.trans (aS.o.mono nZ.o.size)).trans Cm.o⟩
          exact AllReadyIn.nil
         exact AllReadyIn.nil
        exact AllReadyIn.nil
       exact AllReadyIn.nil
      exact AllReadyIn.nil
     refine AllReadyIn.cons rfl (fun K hK=>?_) ?_
     ·have HK:=ae hK
      clear hK;go_simp
      refine HK.o _ _ ?_;clear HK K;try simp only[Act.put,jdv,jdr,jdu]
      refine wpAnyIn_ready (rs:=[0,2]) (by kernel_rfl) (by simp) ?_;refine AllReadyIn.cons rfl (fun K hK=>?_) ?_
      ·have HK:=ae hK
       clear hK;go_simp
       refine HK.o _ _ ?_;clear HK K;try simp only[Act.put,jdv,jdr,jdu]
       refine wpAnyIn_ready (rs:=[2]) (by kernel_rfl) (by simp) ?_;refine AllReadyIn.cons rfl (fun K hK=>?_) ?_
       ·have HK:=ae hK
        clear hK;go_simp
        refine HK.o _ _ ?_;clear HK K;try simp only[Act.put,jdv,jdr,jdu]
        refine wpAnyIn_ready (rs:=[3]) (by kernel_rfl) (by simp) ?_;refine AllReadyIn.cons rfl (fun K hK=>?_) ?_
        ·have HK:=ae hK
         clear hK;go_simp
         refine⟨trivial,?_⟩;refine(CallsIn.inRound l (callsIn_wide.2 (Yb.o V4.drew))).mono ?_;rintro e w5 ⟨⟨v5,rfl,o5⟩,hb5'⟩;have br:Below V4.heap.size V4 w5:=(ar (jdg V4.heap.size V4) 1).trans hb5';obtain⟨⟨q1,q2⟩,⟨q3,q4⟩⟩:=(iC.o.kept br).cells;have dJ:=ae o5;have aS:=ae br;clear o5 br hb5';dsimp only
         refine HK.o _ _ ?_;clear HK K;try simp only[Act.put,jdv,jdr,jdu]
         refine wpAnyIn_ready (rs:=[4]) (by kernel_rfl) (by simp) ?_;refine AllReadyIn.cons rfl (fun K hK=>?_) ?_
         ·have HK:=ae hK
          clear hK;rw[jdf (by rfl)];refine de _ _ rfl A.heap.size _ _ M2 UV rfl (iC.o.kept aS.o).2.2.2.2.1 rfl dJ.o.sv Ya (by omega) (jdq nZ.o.size aS.o.size) ?_;intro v6 w6 o6 g6 e6;obtain⟨a6,cap6,oY,_,_⟩:=aN o6;rw[jdj]at oY;subst oY;obtain⟨⟨f1,f2⟩,iA,iB⟩:=(iC.o.kept aS.o).swap.app (jdq nZ.o.size aS.o.size) o6 g6 e6;have vD:=ae iA.swap;have Cm:=ae iB;have kI:=ae g6;clear o6 g6 e6 iA iB;refine HK.o _ _ ?_;clear HK K;try simp only[Act.put,jdv,jdr,jdu]
          refine wpAnyIn_ready (rs:=[5]) (by kernel_rfl) (by simp) ?_;refine AllReadyIn.cons rfl (fun K hK=>?_) ?_
          ·have HK:=ae hK
           clear hK;go_simp
           refine HK.o _ _ ?_;clear HK K;try simp only[Act.put,jdv,jdr,jdu]
           refine wpAnyIn_done (by kernel_rfl) ?_ _;gi_wp2
           gi_meet
           exact⟨_,vD.o,⟨(iC.o.kept aS.o).swap.other kI.o ((aS.o.block _ nY.o.1.lt).trans nY.o.1) (by decide) (by decide),(iC.o.kept aS.o).swap.other kI.o ((aS.o.block _ nY.o.2.lt).trans nY.o.2) (by decide) (by decide)⟩,(iC.o.kept aS.o).swap.keepV kI.o (OwnV.kept US.o aS.o) (by decide) (by decide),(UT.o.trans (ee aS.o)).trans ((iC.o.kept aS.o).swap.keeps kI.o),(nZ.o.trans (aS.o.mono nZ.o.size)).trans Cm.o⟩
          exact AllReadyIn.nil
         exact AllReadyIn.nil
        exact AllReadyIn.nil
       exact AllReadyIn.nil
      refine AllReadyIn.cons rfl (fun K hK=>?_) ?_
      ·have HK:=ae hK
       clear hK;go_simp
       refine HK.o _ _ ?_;clear HK K;try simp only[Act.put,jdv,jdr,jdu]
       refine wpAnyIn_ready (rs:=[0,3]) (by kernel_rfl) (by simp) ?_;refine AllReadyIn.cons rfl (fun K hK=>?_) ?_
       ·have HK:=ae hK
        clear hK;go_simp
        refine HK.o _ _ ?_;clear HK K;try simp only[Act.put,jdv,jdr,jdu]
        refine wpAnyIn_ready (rs:=[3]) (by kernel_rfl) (by simp) ?_;refine AllReadyIn.cons rfl (fun K hK=>?_) ?_
        ·have HK:=ae hK
         clear hK;go_simp
         refine⟨trivial,?_⟩;refine(CallsIn.inRound l (callsIn_wide.2 (Yb.o V4.drew))).mono ?_;rintro e w5 ⟨⟨v5,rfl,o5⟩,hb5'⟩;have br:Below V4.heap.size V4 w5:=(ar (jdg V4.heap.size V4) 1).trans hb5';obtain⟨⟨q1,q2⟩,⟨q3,q4⟩⟩:=(iC.o.kept br).cells;have dJ:=ae o5;have aS:=ae br;clear o5 br hb5';dsimp only
         refine HK.o _ _ ?_;clear HK K;try simp only[Act.put,jdv,jdr,jdu]
         refine wpAnyIn_ready (rs:=[4]) (by kernel_rfl) (by simp) ?_;refine AllReadyIn.cons rfl (fun K hK=>?_) ?_
         ·have HK:=ae hK
          clear hK;rw[jdf (by rfl)];refine de _ _ rfl A.heap.size _ _ M2 UV rfl (iC.o.kept aS.o).2.2.2.2.1 rfl dJ.o.sv Ya (by omega) (jdq nZ.o.size aS.o.size) ?_;intro v6 w6 o6 g6 e6;obtain⟨a6,cap6,oY,_,_⟩:=aN o6;rw[jdj]at oY;subst oY;obtain⟨⟨f1,f2⟩,iA,iB⟩:=(iC.o.kept aS.o).swap.app (jdq nZ.o.size aS.o.size) o6 g6 e6;have vD:=ae iA.swap;have Cm:=ae iB;have kI:=ae g6;clear o6 g6 e6 iA iB;refine HK.o _ _ ?_;clear HK K;try simp only[Act.put,jdv,jdr,jdu]
          refine wpAnyIn_ready (rs:=[5]) (by kernel_rfl) (by simp) ?_;refine AllReadyIn.cons rfl (fun K hK=>?_) ?_
          ·have HK:=ae hK
           clear hK;go_simp
           refine HK.o _ _ ?_;clear HK K;try simp only[Act.put,jdv,jdr,jdu]
           refine wpAnyIn_done (by kernel_rfl) ?_ _;gi_wp2
           gi_meet
           exact⟨_,vD.o,⟨(iC.o.kept aS.o).swap.other kI.o ((aS.o.block _ nY.o.1.lt).trans nY.o.1) (by decide) (by decide),(iC.o.kept aS.o).swap.other kI.o ((aS.o.block _ nY.o.2.lt).trans nY.o.2) (by decide) (by decide)⟩,(iC.o.kept aS.o).swap.keepV kI.o (OwnV.kept US.o aS.o) (by decide) (by decide),(UT.o.trans (ee aS.o)).trans ((iC.o.kept aS.o).swap.keeps kI.o),(nZ.o.trans (aS.o.mono nZ.o.size)).trans Cm.o⟩
          exact AllReadyIn.nil
         exact AllReadyIn.nil
        exact AllReadyIn.nil
       refine AllReadyIn.cons rfl (fun K hK=>?_) ?_
       ·have HK:=ae hK
        clear hK;go_simp
        refine⟨trivial,?_⟩;refine(CallsIn.inRound l (callsIn_wide.2 (Yb.o V4.drew))).mono ?_;rintro e w5 ⟨⟨v5,rfl,o5⟩,hb5'⟩;have br:Below V4.heap.size V4 w5:=(ar (jdg V4.heap.size V4) 1).trans hb5';obtain⟨⟨q1,q2⟩,⟨q3,q4⟩⟩:=(iC.o.kept br).cells;have dJ:=ae o5;have aS:=ae br;clear o5 br hb5';dsimp only
        refine HK.o _ _ ?_;clear HK K;try simp only[Act.put,jdv,jdr,jdu]
        refine wpAnyIn_ready (rs:=[0]) (by kernel_rfl) (by simp) ?_;refine AllReadyIn.cons rfl (fun K hK=>?_) ?_
        ·have HK:=ae hK
         clear hK;go_simp
         refine HK.o _ _ ?_;clear HK K;try simp only[Act.put,jdv,jdr,jdu]
         refine wpAnyIn_ready (rs:=[4]) (by kernel_rfl) (by simp) ?_;refine AllReadyIn.cons rfl (fun K hK=>?_) ?_
         ·have HK:=ae hK
          clear hK;rw[jdf (by rfl)];refine de _ _ rfl A.heap.size _ _ M2 UV rfl (iC.o.kept aS.o).2.2.2.2.1 rfl dJ.o.sv Ya (by omega) (jdq nZ.o.size aS.o.size) ?_;intro v6 w6 o6 g6 e6;obtain⟨a6,cap6,oY,_,_⟩:=aN o6;rw[jdj]at oY;subst oY;obtain⟨⟨f1,f2⟩,iA,iB⟩:=(iC.o.kept aS.o).swap.app (jdq nZ.o.size aS.o.size) o6 g6 e6;have vD:=ae iA.swap;have Cm:=ae iB;have kI:=ae g6;clear o6 g6 e6 iA iB;refine HK.o _ _ ?_;clear HK K;try simp only[Act.put,jdv,jdr,jdu]
          refine wpAnyIn_ready (rs:=[5]) (by kernel_rfl) (by simp) ?_;refine AllReadyIn.cons rfl (fun K hK=>?_) ?_
          ·have HK:=ae hK
           clear hK;go_simp
           refine HK.o _ _ ?_;clear HK K;try simp only[Act.put,jdv,jdr,jdu]
           refine wpAnyIn_done (by kernel_rfl) ?_ _;gi_wp2
           gi_meet
           exact⟨_,vD.o,⟨(iC.o.kept aS.o).swap.other kI.o ((aS.o.block _ nY.o.1.lt).trans nY.o.1) (by decide) (by decide),(iC.o.kept aS.o).swap.other kI.o ((aS.o.block _ nY.o.2.lt).trans nY.o.2) (by decide) (by decide)⟩,(iC.o.kept aS.o).swap.keepV kI.o (OwnV.kept US.o aS.o) (by decide) (by decide),(UT.o.trans (ee aS.o)).trans ((iC.o.kept aS.o).swap.keeps kI.o),(nZ.o.trans (aS.o.mono nZ.o.size)).trans Cm.o⟩
          exact AllReadyIn.nil
         exact AllReadyIn.nil
        exact AllReadyIn.nil
       exact AllReadyIn.nil
      exact AllReadyIn.nil
     exact AllReadyIn.nil
    case rest =>
    obtain⟨vf,Cn,hpq,hov,hko,An⟩:=hcut;have hg3l:(M2++UV).length<=510010:=by rw[jdj];omega
    generalize hM3:M2++UV=M3 at *;have Uw:=ae hM3;clear hM3;obtain⟨⟨q1,q2⟩,⟨q3,q4⟩⟩:=Cn.cells;obtain⟨af,capf,rfl⟩:=Cn.2.2.2.2.1.slice;have je:=ae Cn;have oZ:=ae hpq;have jbR:=ae hov;have Yc:=ae hko;have pb:=ae An;clear Cn hpq hov hko An iC nY US UT nZ;gi_wp2
    have HME:jfb (fs.length-(intOf (.int .i64 ((k:Int)+1))).toNat<fs.length-(intOf (.int .i64 (k:Int))).toNat):=ae (by simp[intOf];omega)
    have pF:jfb (∀(U:World) (x1 x2:Value),Bx2 U A.heap.size Bb Bf x1 x2 N1 (M3++SB)->Bx2 U A.heap.size Bb Bf x1 x2 (G1++eN fs PT (k+1)) (G2++ftK fs PT (k+1))):=ae (fun U x1 x2 h9=>by
     rw[← Kn.o,← PM.o,← Uw.o,← KA.o]at h9;rw[HBSk.o,HFSk.o];simpa using h9)
    refine wpIn_region_any (by kernel_rfl) ?_;change wpAnyIn _ _ _ _ _ _ _ _ _ wc.drew
    refine wpAnyIn_ready (rs:=[0,1]) (by kernel_rfl) (by simp) ?_;refine AllReadyIn.cons rfl (fun K hK=>?_) ?_
    ·have HK:=ae hK
     clear hK;go_simp
     refine HK.o _ _ ?_;clear HK K;try simp only[Act.put,jdv,jdr,jdu]
     refine wpAnyIn_ready (rs:=[1]) (by kernel_rfl) (by simp) ?_;refine AllReadyIn.cons rfl (fun K hK=>?_) ?_
     ·have HK:=ae hK
      clear hK;go_simp
      refine HK.o _ _ ?_;clear HK K;try simp only[Act.put,jdv,jdr,jdu]
      refine wpAnyIn_ready (rs:=[2]) (by kernel_rfl) (by simp) ?_;refine AllReadyIn.cons rfl (fun K hK=>?_) ?_
      ·have HK:=ae hK
       clear hK;go_simp
       refine⟨trivial,?_⟩;refine(CallsIn.inRound l (callsIn_wide.2 (jbO.o wc.drew _ _ (OwnV.kept jbR.o (ar (jdg wc.heap.size wc) 1))))).mono ?_;rintro e w4 ⟨rfl,hb4'⟩;have bw:Below wc.heap.size wc w4:=(ar (jdg wc.heap.size wc) 1).trans hb4';obtain⟨⟨q1,q2⟩,⟨q3,q4⟩⟩:=(je.o.kept bw).cells;have ce:=ae bw;clear bw hb4';dsimp only
       refine HK.o _ _ ?_;clear HK K;try simp only[Act.put,jdv,jdr,jdu]
       refine wpAnyIn_ready (rs:=[3]) (by kernel_rfl) (by simp) ?_;refine AllReadyIn.cons rfl (fun K hK=>?_) ?_
       ·have HK:=ae hK
        clear hK;go_simp
        refine⟨trivial,?_⟩;refine(CallsIn.inRound l (callsIn_wide.2 (UR.o w4))).mono ?_;rintro e w5 ⟨⟨v5,rfl,o5⟩,hb5'⟩;have br:Below wc.heap.size wc w5:=ai ce.o hb5';obtain⟨⟨q1,q2⟩,⟨q3,q4⟩⟩:=(je.o.kept br).cells;have dJ:=ae o5;have aS:=ae br;clear o5 br hb5';dsimp only
        refine HK.o _ _ ?_;clear HK K;try simp only[Act.put,jdv,jdr,jdu]
        refine wpAnyIn_ready (rs:=[4]) (by kernel_rfl) (by simp) ?_;refine AllReadyIn.cons rfl (fun K hK=>?_) ?_
        ·have HK:=ae hK
         clear hK;rw[jdf (by rfl)];refine de _ _ rfl A.heap.size _ _ M3 SB rfl (je.o.kept aS.o).2.2.2.2.1 rfl dJ.o.sv t6 (by omega) (jdq pb.o.size aS.o.size) ?_;intro v6 w6 o6 g6 e6;obtain⟨a6,cap6,oY,_,_⟩:=aN o6;rw[jdj]at oY;subst oY;obtain⟨⟨f1,f2⟩,iA,iB⟩:=(je.o.kept aS.o).swap.app (jdq pb.o.size aS.o.size) o6 g6 e6;have vD:=ae iA.swap;have Cm:=ae iB;have kI:=ae g6;clear o6 g6 e6 iA iB;refine HK.o _ _ ?_;clear HK K;try simp only[Act.put,jdv,jdr,jdu]
         refine wpAnyIn_ready (rs:=[5]) (by kernel_rfl) (by simp) ?_;refine AllReadyIn.cons rfl (fun K hK=>?_) ?_
         ·have HK:=ae hK
          clear hK;go_simp
          refine HK.o _ _ ?_;clear HK K;try simp only[Act.put,jdv,jdr,jdu]
          refine wpAnyIn_done (by kernel_rfl) ?_ _;gi_wp2
          go_roundw
          case rel =>
           have qr:k+1<=fs.length:=aC;have kG:Value.int .i64 ((k:Int)+1)=Value.int .i64 ((k+1:Nat):Int):=by simp
           exact⟨k+1,_,_,qr,kG,pF.o _ _ _ vD.o,⟨(je.o.kept aS.o).swap.other kI.o ((aS.o.block _ oZ.o.1.lt).trans oZ.o.1) (by decide) (by decide),(je.o.kept aS.o).swap.other kI.o ((aS.o.block _ oZ.o.2.lt).trans oZ.o.2) (by decide) (by decide)⟩,(Yc.o.trans (ee aS.o)).trans ((je.o.kept aS.o).swap.keeps kI.o),(pb.o.trans (aS.o.mono pb.o.size)).trans Cm.o⟩
          case measure=>exact HME.o
         exact AllReadyIn.nil
        exact AllReadyIn.nil
       exact AllReadyIn.nil
      exact AllReadyIn.nil
     exact AllReadyIn.nil
    refine AllReadyIn.cons rfl (fun K hK=>?_) ?_
    ·have HK:=ae hK
     clear hK;go_simp
     refine HK.o _ _ ?_;clear HK K;try simp only[Act.put,jdv,jdr,jdu]
     refine wpAnyIn_ready (rs:=[0,2]) (by kernel_rfl) (by simp) ?_;refine AllReadyIn.cons rfl (fun K hK=>?_) ?_
     ·have HK:=ae hK
      clear hK;go_simp
      refine HK.o _ _ ?_;clear HK K;try simp only[Act.put,jdv,jdr,jdu]
      refine wpAnyIn_ready (rs:=[2]) (by kernel_rfl) (by simp) ?_;refine AllReadyIn.cons rfl (fun K hK=>?_) ?_
      ·have HK:=ae hK
       clear hK;go_simp
       refine⟨trivial,?_⟩;refine(CallsIn.inRound l (callsIn_wide.2 (jbO.o wc.drew _ _ (OwnV.kept jbR.o (ar (jdg wc.heap.size wc) 1))))).mono ?_;rintro e w4 ⟨rfl,hb4'⟩;have bw:Below wc.heap.size wc w4:=(ar (jdg wc.heap.size wc) 1).trans hb4';obtain⟨⟨q1,q2⟩,⟨q3,q4⟩⟩:=(je.o.kept bw).cells;have ce:=ae bw;clear bw hb4';dsimp only
       refine HK.o _ _ ?_;clear HK K;try simp only[Act.put,jdv,jdr,jdu]
       refine wpAnyIn_ready (rs:=[3]) (by kernel_rfl) (by simp) ?_;refine AllReadyIn.cons rfl (fun K hK=>?_) ?_
       ·have HK:=ae hK
        clear hK;go_simp
        refine⟨trivial,?_⟩;refine(CallsIn.inRound l (callsIn_wide.2 (UR.o w4))).mono ?_;rintro e w5 ⟨⟨v5,rfl,o5⟩,hb5'⟩;have br:Below wc.heap.size wc w5:=ai ce.o hb5';obtain⟨⟨q1,q2⟩,⟨q3,q4⟩⟩:=(je.o.kept br).cells;have dJ:=ae o5;have aS:=ae br;clear o5 br hb5';dsimp only
        refine HK.o _ _ ?_;clear HK K;try simp only[Act.put,jdv,jdr,jdu]
        refine wpAnyIn_ready (rs:=[4]) (by kernel_rfl) (by simp) ?_;refine AllReadyIn.cons rfl (fun K hK=>?_) ?_
        ·have HK:=ae hK
         clear hK;rw[jdf (by rfl)];refine de _ _ rfl A.heap.size _ _ M3 SB rfl (je.o.kept aS.o).2.2.2.2.1 rfl dJ.o.sv t6 (by omega) (jdq pb.o.size aS.o.size) ?_;intro v6 w6 o6 g6 e6;obtain⟨a6,cap6,oY,_,_⟩:=aN o6;rw[jdj]at oY;subst oY;obtain⟨⟨f1,f2⟩,iA,iB⟩:=(je.o.kept aS.o).swap.app (jdq pb.o.size aS.o.size) o6 g6 e6;have vD:=ae iA.swap;have Cm:=ae iB;have kI:=ae g6;clear o6 g6 e6 iA iB;refine HK.o _ _ ?_;clear HK K;try simp only[Act.put,jdv,jdr,jdu]
         refine wpAnyIn_ready (rs:=[5]) (by kernel_rfl) (by simp) ?_;refine AllReadyIn.cons rfl (fun K hK=>?_) ?_
         ·have HK:=ae hK
          clear hK;go_simp
          refine HK.o _ _ ?_;clear HK K;try simp only[Act.put,jdv,jdr,jdu]
          refine wpAnyIn_done (by kernel_rfl) ?_ _;gi_wp2
          go_roundw
          case rel =>
           have qr:k+1<=fs.length:=aC;have kG:Value.int .i64 ((k:Int)+1)=Value.int .i64 ((k+1:Nat):Int):=by simp
           exact⟨k+1,_,_,qr,kG,pF.o _ _ _ vD.o,⟨(je.o.kept aS.o).swap.other kI.o ((aS.o.block _ oZ.o.1.lt).trans oZ.o.1) (by decide) (by decide),(je.o.kept aS.o).swap.other kI.o ((aS.o.block _ oZ.o.2.lt).trans oZ.o.2) (by decide) (by decide)⟩,(Yc.o.trans (ee aS.o)).trans ((je.o.kept aS.o).swap.keeps kI.o),(pb.o.trans (aS.o.mono pb.o.size)).trans Cm.o⟩
          case measure=>exact HME.o
         exact AllReadyIn.nil
        exact AllReadyIn.nil
       exact AllReadyIn.nil
      exact AllReadyIn.nil
     refine AllReadyIn.cons rfl (fun K hK=>?_) ?_
     ·have HK:=ae hK
      clear hK;go_simp
      refine⟨trivial,?_⟩;refine(CallsIn.inRound l (callsIn_wide.2 (jbO.o wc.drew _ _ (OwnV.kept jbR.o (ar (jdg wc.heap.size wc) 1))))).mono ?_;rintro e w4 ⟨rfl,hb4'⟩;have bw:Below wc.heap.size wc w4:=(ar (jdg wc.heap.size wc) 1).trans hb4';obtain⟨⟨q1,q2⟩,⟨q3,q4⟩⟩:=(je.o.kept bw).cells;have ce:=ae bw;clear bw hb4';dsimp only
      refine HK.o _ _ ?_;clear HK K;try simp only[Act.put,jdv,jdr,jdu]
      refine wpAnyIn_ready (rs:=[0,3]) (by kernel_rfl) (by simp) ?_;refine AllReadyIn.cons rfl (fun K hK=>?_) ?_
      ·have HK:=ae hK
       clear hK;go_simp
       refine HK.o _ _ ?_;clear HK K;try simp only[Act.put,jdv,jdr,jdu]
       refine wpAnyIn_ready (rs:=[3]) (by kernel_rfl) (by simp) ?_;refine AllReadyIn.cons rfl (fun K hK=>?_) ?_
       ·have HK:=ae hK
        clear hK;go_simp
        refine⟨trivial,?_⟩;refine(CallsIn.inRound l (callsIn_wide.2 (UR.o w4))).mono ?_;rintro e w5 ⟨⟨v5,rfl,o5⟩,hb5'⟩;have br:Below wc.heap.size wc w5:=ai ce.o hb5';obtain⟨⟨q1,q2⟩,⟨q3,q4⟩⟩:=(je.o.kept br).cells;have dJ:=ae o5;have aS:=ae br;clear o5 br hb5';dsimp only
        refine HK.o _ _ ?_;clear HK K;try simp only[Act.put,jdv,jdr,jdu]
        refine wpAnyIn_ready (rs:=[4]) (by kernel_rfl) (by simp) ?_;refine AllReadyIn.cons rfl (fun K hK=>?_) ?_
        ·have HK:=ae hK
         clear hK;rw[jdf (by rfl)];refine de _ _ rfl A.heap.size _ _ M3 SB rfl (je.o.kept aS.o).2.2.2.2.1 rfl dJ.o.sv t6 (by omega) (jdq pb.o.size aS.o.size) ?_;intro v6 w6 o6 g6 e6;obtain⟨a6,cap6,oY,_,_⟩:=aN o6;rw[jdj]at oY;subst oY;obtain⟨⟨f1,f2⟩,iA,iB⟩:=(je.o.kept aS.o).swap.app (jdq pb.o.size aS.o.size) o6 g6 e6;have vD:=ae iA.swap;have Cm:=ae iB;have kI:=ae g6;clear o6 g6 e6 iA iB;refine HK.o _ _ ?_;clear HK K;try simp only[Act.put,jdv,jdr,jdu]
         refine wpAnyIn_ready (rs:=[5]) (by kernel_rfl) (by simp) ?_;refine AllReadyIn.cons rfl (fun K hK=>?_) ?_
         ·have HK:=ae hK
          clear hK;go_simp
          refine HK.o _ _ ?_;clear HK K;try simp only[Act.put,jdv,jdr,jdu]
          refine wpAnyIn_done (by kernel_rfl) ?_ _;gi_wp2
          go_roundw
          case rel =>
           have qr:k+1<=fs.length:=aC;have kG:Value.int .i64 ((k:Int)+1)=Value.int .i64 ((k+1:Nat):Int):=by simp
           exact⟨k+1,_,_,qr,kG,pF.o _ _ _ vD.o,⟨(je.o.kept aS.o).swap.other kI.o ((aS.o.block _ oZ.o.1.lt).trans oZ.o.1) (by decide) (by decide),(je.o.kept aS.o).swap.other kI.o ((aS.o.block _ oZ.o.2.lt).trans oZ.o.2) (by decide) (by decide)⟩,(Yc.o.trans (ee aS.o)).trans ((je.o.kept aS.o).swap.keeps kI.o),(pb.o.trans (aS.o.mono pb.o.size)).trans Cm.o⟩
          case measure=>exact HME.o
         exact AllReadyIn.nil
        exact AllReadyIn.nil
       exact AllReadyIn.nil
      refine AllReadyIn.cons rfl (fun K hK=>?_) ?_
      ·have HK:=ae hK
       clear hK;go_simp
       refine⟨trivial,?_⟩;refine(CallsIn.inRound l (callsIn_wide.2 (UR.o w4))).mono ?_;rintro e w5 ⟨⟨v5,rfl,o5⟩,hb5'⟩;have br:Below wc.heap.size wc w5:=ai ce.o hb5';obtain⟨⟨q1,q2⟩,⟨q3,q4⟩⟩:=(je.o.kept br).cells;have dJ:=ae o5;have aS:=ae br;clear o5 br hb5';dsimp only
       refine HK.o _ _ ?_;clear HK K;try simp only[Act.put,jdv,jdr,jdu]
       refine wpAnyIn_ready (rs:=[0]) (by kernel_rfl) (by simp) ?_;refine AllReadyIn.cons rfl (fun K hK=>?_) ?_
       ·have HK:=ae hK
        clear hK;go_simp
        refine HK.o _ _ ?_;clear HK K;try simp only[Act.put,jdv,jdr,jdu]
        refine wpAnyIn_ready (rs:=[4]) (by kernel_rfl) (by simp) ?_;refine AllReadyIn.cons rfl (fun K hK=>?_) ?_
        ·have HK:=ae hK
         clear hK;rw[jdf (by rfl)];refine de _ _ rfl A.heap.size _ _ M3 SB rfl (je.o.kept aS.o).2.2.2.2.1 rfl dJ.o.sv t6 (by omega) (jdq pb.o.size aS.o.size) ?_;intro v6 w6 o6 g6 e6;obtain⟨a6,cap6,oY,_,_⟩:=aN o6;rw[jdj]at oY;subst oY;obtain⟨⟨f1,f2⟩,iA,iB⟩:=(je.o.kept aS.o).swap.app (jdq pb.o.size aS.o.size) o6 g6 e6;have vD:=ae iA.swap;have Cm:=ae iB;have kI:=ae g6;clear o6 g6 e6 iA iB;refine HK.o _ _ ?_;clear HK K;try simp only[Act.put,jdv,jdr,jdu]
         refine wpAnyIn_ready (rs:=[5]) (by kernel_rfl) (by simp) ?_;refine AllReadyIn.cons rfl (fun K hK=>?_) ?_
         ·have HK:=ae hK
          clear hK;go_simp
          refine HK.o _ _ ?_;clear HK K;try simp only[Act.put,jdv,jdr,jdu]
          refine wpAnyIn_done (by kernel_rfl) ?_ _;gi_wp2
          go_roundw
          case rel =>
           have qr:k+1<=fs.length:=aC;have kG:Value.int .i64 ((k:Int)+1)=Value.int .i64 ((k+1:Nat):Int):=by simp
           exact⟨k+1,_,_,qr,kG,pF.o _ _ _ vD.o,⟨(je.o.kept aS.o).swap.other kI.o ((aS.o.block _ oZ.o.1.lt).trans oZ.o.1) (by decide) (by decide),(je.o.kept aS.o).swap.other kI.o ((aS.o.block _ oZ.o.2.lt).trans oZ.o.2) (by decide) (by decide)⟩,(Yc.o.trans (ee aS.o)).trans ((je.o.kept aS.o).swap.keeps kI.o),(pb.o.trans (aS.o.mono pb.o.size)).trans Cm.o⟩
          case measure=>exact HME.o
         exact AllReadyIn.nil
        exact AllReadyIn.nil
       exact AllReadyIn.nil
      exact AllReadyIn.nil
     exact AllReadyIn.nil
    exact AllReadyIn.nil
   ·obtain rfl:k=fs.length:=by omega
    have gL:¬ ((fs.length:Nat):Int)<(fs.length:Int):=(by omega);gi_wp2
    refine⟨HKOr.o,⟨(show _=_ from HPQr.o.1).trans (show _=_ from HPQ.o.1).symm,(show _=_ from HPQr.o.2).trans (show _=_ from HPQ.o.2).symm⟩,⟨⟨u1,u2,?_⟩,HPQr.o.1,HPQr.o.2⟩,HBAr.o⟩;have h9:=HBXr.o;rw[← HZ1.o,← LM.o]at h9;exact h9
 case done =>
  rintro D ys W hD rfl ⟨⟨⟨v1,v2,Cn⟩,VF,uP⟩,An⟩ hK
  have hG1:([67,70,49]++(List.range (nps g rs.length)).flatMap fun j=>eN fs (prt g rs j) fs.length).length<=50000000:=by
   have h1:=ix (m:=172800) (fun j=>jdq (me (fun k kG=>eX (dA.part g j) hk (by rw[bZ];omega) kG) (jdh _)).1 (by omega)) (List.range (nps g rs.length));have h2:=kg (n:=rs.length) eS pC;rw[je4]at h1;rw[jdj];simp only[jdn,jdI];have:172800*nps g rs.length<=172800*256:=jei _ h2;omega
  have hG2:(F2++(List.range (nps g rs.length)).flatMap fun j=>ftK fs (prt g rs j) fs.length).length<=500000:=by
   have h1:=ix (m:=1360) (fun j=>jdq (oO (dA.part g j) (by rw[bZ];omega) (fun k kG=>eX (dA.part g j) hk (by rw[bZ];omega) kG) (jdh _)).1 (by omega)) (List.range (nps g rs.length));have h2:=kg (n:=rs.length) eS pC;rw[je4]at h1;rw[jdj];have:1360*nps g rs.length<=1360*256:=jei _ h2;omega
  have hG3:0<(F2++(List.range (nps g rs.length)).flatMap fun j=>ftK fs (prt g rs j) fs.length).length:=by
   rw[← hF2,← hF1];simp only[jdj];omega
  have Cg:jfb (ex id fs rs g=([67,70,49]++(List.range (nps g rs.length)).flatMap fun j=>eN fs (prt g rs j) fs.length)++(F2++(List.range (nps g rs.length)).flatMap fun j=>ftK fs (prt g rs j) fs.length)++le4 (F2++(List.range (nps g rs.length)).flatMap fun j=>ftK fs (prt g rs j) fs.length).length):=ae (by
   unfold ex lX fX;rw[← hF2,← hF1,HE0.o,Zk.o,HE2.o];simp only[jdw];rfl)
  generalize ([67,70,49]++(List.range (nps g rs.length)).flatMap fun j=>eN fs (prt g rs j) fs.length)=G1 at *;generalize (F2++(List.range (nps g rs.length)).flatMap fun j=>ftK fs (prt g rs j) fs.length)=G2 at *;obtain⟨⟨q1,q2⟩,⟨q3,q4⟩⟩:=Cn.cells;obtain⟨a8,cap8,rfl⟩:=Cn.2.2.2.1.slice;obtain⟨a9,cap9,rfl⟩:=Cn.2.2.2.2.1.slice;have ml:=ae Cn;have eY:=ae An;have HK:=ae hK;have HL4:=ae (NC G2.length (by omega));clear Cn An hK VF uP;go_wp2_with (first | (at_builtin;refine jH rfl _ _ rfl A.heap.size _ _ G1 G2 rfl ml.o.2.2.2.1 rfl ml.o.2.2.2.2.1.sv hG3 ?n1 ?n2 ?_))
  case n1=>omega
  case n2=>exact eY.o.size
  intro v10 w10 o10 g10 e10;obtain⟨a10,cap10,hv10,_,_⟩:=aN o10;subst hv10;obtain⟨⟨f1,f2⟩,UU,Zq⟩:=ml.o.app eY.o.size o10 g10 e10;have hk10:=ml.o.keeps (v':=.slice a10 (G1++G2).length cap10) g10;have PR:=ae UU;have uS:=ae (eY.o.trans Zq);have HK10:=ae (hk10.same D _ HK.o rfl);have hG12:(G1++G2).length<=50500000:=by rw[jdj];omega
  generalize hGG:G1++G2=GG at *;clear o10 g10 e10 Zq hk10 ml eY HK q1 q2 q3 q4;obtain⟨⟨q1,q2⟩,⟨q3,q4⟩⟩:=UU.cells;clear UU;go_wp2_with fail;generalize hV:w10.setCell ⟨Bb,0,none⟩ (.slice a10 GG.length cap10)=V at *;clear hV f1 f2
  have HC9:jfb (∀ U,Below V.heap.size V U->Calls Tryz.prog 85 #[.int .i64 (G2.length:Int)] U fun e w'=>∃ v,e=.returned v/\Sv w' v (aF .u8 (le4 G2.length))/\Below V.heap.size V w'/\w'.cell? ⟨Bb,0,none⟩=some (.slice a10 GG.length cap10)/\w'.cell? ⟨Bf,0,none⟩=some (.slice a9 G2.length cap9)):=ae (fun U hU=>by
   refine(HL4.o U).mono ?_;rintro e w' ⟨⟨v,rfl,ho⟩,hb⟩;have h9:=(PR.o.kept (ai hU hb)).cells;exact⟨v,rfl,ho.sv,ai hU hb,h9.1.1,h9.2.1⟩)
  have hL4:0<(le4 G2.length).length:=by simp[le4]
  have hL4':(le4 G2.length).length=4:=by simp[le4]
  generalize le4 G2.length=LL at *;refine wp_region_noPanic ?_
  go_region_law (first
   | (refine lw (by rfl) _ _ (by rfl) A.heap.size _ _ GG LL (by rfl) ?_ (by rfl) dJ.o hL4 ?_ ?_ ?_;exact(PR.o.kept aS.o).2.2.2.1;omega;exact jdq uS.o.size aS.o.size;intro v6 w6 o6 g6 e6;have ng:=ae o6;have HK6:=ae ((PR.o.kept aS.o).2.2.2.1.deferred g6 (NG aS.o HK10.o) rfl);have jc:=ae ((uS.o.trans (aS.o.mono uS.o.size)).trans ((PR.o.kept aS.o).2.2.2.1.below g6 (jdq uS.o.size aS.o.size)));clear o6 g6 e6)
   | (go_simp;go_at_call 85;refine(HC9.o _ ?_).mono ?_;exact ar (jdg V.heap.size V) 1;rintro e w5 ⟨v5,rfl,fV,br,hc5,hc6⟩;have dJ:=ae fV;have aS:=ae br;clear fV br;dsimp only)
   | fail)
  all_goals refine NoPanic.normal ?_
  all_goals go_wp2_with fail
  all_goals refine⟨by simp,.inl ⟨_,_,rfl,run_takeDeferred HK6.o,?_⟩⟩
  all_goals refine⟨_,results_tmp rfl _ _ _,⟨_,rfl,?_⟩,?_⟩
  all_goals first
   | exact ai cE.o (jc.o.trans (belowK_b (w:=Z) hAZs _ D _ _ hD HK6.o rfl rfl))
   | (rw[Cg.o];exact be (ownsRow_putObj ng.o _ HK6.o rfl) cE.o.size)
 case stop =>
  rintro D c pre W _ _ h _;exact h.elim
end Go.Proofs.YtpljdjmpamjkhaaGreatDoor
