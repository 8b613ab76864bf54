import Derived.Test.YtpljdjmpamjkhaaGreatDoorUbi
set_option linter.unusedVariables false
set_option linter.unusedSimpArgs false
set_option maxRecDepth 100000
set_option maxHeartbeats 4000000
namespace Go.Proofs.YtpljdjmpamjkhaaGreatDoor
open Go.RowKit Go.Lib
theorem Gro.stats{W:World}{B:Nat}{a b:Value}{rows:List Row}{sts:List Stt}(h:Gro W B (.agg #[a,b]) rows sts):Ss W b sts:=by
 obtain⟨R,rvs,vs,e,_,_,h3⟩:=h;simp only[Value.agg.injEq,Array.mk.injEq,List.cons.injEq,and_true]at e;obtain⟨_,rfl⟩:=e;exact jaM.ss (B:=B) h3
theorem jaT(a b c:Bool)(w:World):(Instr.index 123 (.agg #[.bool a,.bool b,.bool c]) (.int .u8 2)).run Tryz.prog w=.ok (.bool c) w:=by
 cases a<;>cases b<;>cases c<;>kernel_rfl
def yu(fs:List Fd)(t:PT)(g:Gr):Bool:=jau (oU fs g.2 t) 2
def jK(fs:List Fd)(t:PT)(gs:List Gr):List Row:=(gs.filter (yu fs t)).flatMap fun g=>mM fs t g.1
def iL(fs:List Fd)(t:PT)(gs:List Gr):Nat:=(gs.filter (yu fs t)).length
theorem JR{fs:List Fd}{t:PT}{gs:List Gr}{k:Nat}(h:k<gs.length):jK fs t (gs.take (k+1))=jK fs t (gs.take k)++(if yu fs t gs[k]=true then mM fs t gs[k].1 else []):=by
 unfold jK;rw[jdx h,jeU,jet];cases hm:yu fs t gs[k]<;>simp[je5,hm]
theorem JS{fs:List Fd}{t:PT}{gs:List Gr}{k:Nat}(h:k<gs.length):iL fs t (gs.take (k+1))=iL fs t (gs.take k)+(if yu fs t gs[k]=true then 1 else 0):=by
 unfold iL;rw[jdx h,jeU,jdj];cases hm:yu fs t gs[k]<;>simp[je5,hm]
theorem zX(fs:List Fd)(t:PT):∀ gs:List Gr,(jK fs t gs).length<=(bQ gs).length
 | []=>jdh _
 | g::gs=>by
  have h:=zX fs t gs;have h2:=xz fs t g.1;unfold jK bQ at *;rw[je5];split
  ·simp only[jeA,jdj,jdQ,jeB]
   omega
  ·simp only[jdQ,jeB,jdj]
   omega
theorem NZ(fs:List Fd)(t:PT)(gs:List Gr):iL fs t gs<=gs.length:=jeR _ _
theorem JT{w:World}{B fp id op f:Nat}{fv kv:Value}{fs:List Fd}{gs:List Gr}{c:Cl}{ks:List PT}(h:Fil w B fp id fv gs)(xX:Sf w fv fs)
  (hk:sQ w kv ks) (FP:∀ U rv r,Below w.heap.size w U->Sv U rv (aJ r)->(∀ x∈r,aV x)->Calls Tryz.prog 113 #[.agg #[.int .u8 (op:Int),.int .u32 (f:Int),.int .u8 (c.1:Int),.int .i64 c.2.1,.string (am c.2.2),kv],.agg #[.int .u32 (id:Int),fv],rv] U fun e w'=>e=.returned (.int .u8 (jr fs r (.node op f c ks):Int))/\Below U.heap.size U w')
  (hmay:∀ U rv sts,Below w.heap.size w U->Ss U rv sts->(∀ s∈sts,Oks s)->Calls Tryz.prog 66 #[.agg #[.int .u8 (op:Int),.int .u32 (f:Int),.int .u8 (c.1:Int),.int .i64 c.2.1,.string (am c.2.2),kv],.agg #[.int .u32 (id:Int),fv],rv] U fun e w'=>e=.returned (b3V (oU fs sts (.node op f c ks)))/\Below U.heap.size U w') (hr:∀ r∈bQ gs,r.length<=1000/\∀ x∈r,aV x) (Co:(bQ gs).length<=1000) (Ye:gs.length<=100000) (iM:∀ g∈gs,∀ s∈g.2,Oks s) (k:Int) (N:Nat) (RR:List Row) (hN0:k=0->N=iL fs (.node op f c ks) gs/\RR=jK fs (.node op f c ks) gs) (hN1:k≠0->N=0/\RR=[])
  (PW:∀ U,Below w.heap.size w U->Calls Tryz.prog 65 #[.agg #[.int .u8 (op:Int),.int .u32 (f:Int),.int .u8 (c.1:Int),.int .i64 c.2.1,.string (am c.2.2),kv],.agg #[.int .u32 (id:Int),fv]] U fun e w'=>e=.returned (.int .i64 k)/\Below U.heap.size U w') :
  Calls Tryz.prog 28 #[.pointer (some ⟨fp,0,none⟩),.agg #[.int .u8 (op:Int),.int .u32 (f:Int),.int .u8 (c.1:Int),.int .i64 c.2.1,.string (am c.2.2),kv]] w
   fun e w'=>(∃ v l,e=.returned (.tuple #[v,.int .i64 (N:Int)])/\Ow w' w.heap.size v l/\l.map Prod.snd=RR)/\Below w.heap.size w w':=by
 obtain⟨gv,xs,h1,h2,h3,h4⟩:=h;obtain⟨ga,gc,rfl,hgc,hgm⟩:=bG h3;obtain⟨fa,fc,rfl,_,_⟩:=xX.form;obtain⟨ka,kc,rfl,_,_⟩:=hk.form;have FN:=(Array.getElem?_eq_some_iff.1 h1).1;have aH:=ak w (.cells #[.int .u8 (op:Int),.int .u32 (f:Int),.int .u8 (c.1:Int),.int .i64 c.2.1,.string (am c.2.2),.slice ka ks.length kc] 63);obtain⟨p0,p1,p2,p3,p4,p5⟩:=sR w (.int .u8 (op:Int)) (.int .u32 (f:Int)) (.int .u8 (c.1:Int)) (.int .i64 c.2.1) (.string (am c.2.2)) (.slice ka ks.length kc) 63;have cY:(w.alloc (.cells #[.int .u8 (op:Int),.int .u32 (f:Int),.int .u8 (c.1:Int),.int .i64 c.2.1,.string (am c.2.2),.slice ka ks.length kc] 63)).heap.size=w.heap.size+1:=jdi _ _;generalize hA:w.alloc (.cells #[.int .u8 (op:Int),.int .u32 (f:Int),.int .u8 (c.1:Int),.int .i64 c.2.1,.string (am c.2.2),.slice ka ks.length kc] 63)=A at *
 have HT:jfb (∀ U,Below A.heap.size A U->U.cell? ⟨fp,0,none⟩=some (.int .u32 (id:Int))/\U.cell? ⟨fp,1,none⟩=some (.slice fa fs.length fc)/\U.cell? ⟨fp,2,none⟩=some (.slice ga gs.length gc) /\
   U.cell? ⟨w.heap.size,0,none⟩=some (.int .u8 (op:Int))/\U.cell? ⟨w.heap.size,1,none⟩=some (.int .u32 (f:Int))/\U.cell? ⟨w.heap.size,2,none⟩=some (.int .u8 (c.1:Int))/\U.cell? ⟨w.heap.size,3,none⟩=some (.int .i64 c.2.1)/\U.cell? ⟨w.heap.size,4,none⟩=some (.string (am c.2.2))/\U.cell? ⟨w.heap.size,5,none⟩=some (.slice ka ks.length kc)):=ae (fun U hU=>by
  have hfU:=(hU.block fp (by omega)).trans ((aH.block fp FN).trans h1);refine⟨by rw[ay hfU];rfl,by rw[ay hfU];rfl,by rw[ay hfU];rfl,?_,?_,?_,?_,?_,?_⟩
  ·exact(hU.cell (p:=⟨w.heap.size,0,none⟩) (by show w.heap.size<_;omega)).trans p0
  ·exact(hU.cell (p:=⟨w.heap.size,1,none⟩) (by show w.heap.size<_;omega)).trans p1
  ·exact(hU.cell (p:=⟨w.heap.size,2,none⟩) (by show w.heap.size<_;omega)).trans p2
  ·exact(hU.cell (p:=⟨w.heap.size,3,none⟩) (by show w.heap.size<_;omega)).trans p3
  ·exact(hU.cell (p:=⟨w.heap.size,4,none⟩) (by show w.heap.size<_;omega)).trans p4
  ·exact(hU.cell (p:=⟨w.heap.size,5,none⟩) (by show w.heap.size<_;omega)).trans p5)
 have HG:jfb (∀ j (hj:j<gs.length),∃ G R va vn vc,ga=some ⟨G,0,none⟩/\∀ U,Below A.heap.size A U->U.cell? ⟨G,j*2,none⟩=some (.slice (some ⟨R,0,none⟩) gs[j].1.length gs[j].1.length)/\U.cell? ⟨G,j*2+1,none⟩=some (.slice va vn vc)/\Gro U B (.agg #[.slice (some ⟨R,0,none⟩) gs[j].1.length gs[j].1.length,.slice va vn vc]) gs[j].1 gs[j].2):=ae (fun j hj=>by
  obtain⟨a,b,e1,e2,e3⟩:=h4 j hj;obtain⟨R,rfl,g1,g2,⟨va,vn,vc,rfl⟩,g4⟩:=e3.rows;obtain⟨G,rfl,_,hG,ly⟩:=gZ h3 e1;obtain⟨_,e,_,_,kF⟩:=gZ h3 e2;cases e
  refine⟨G,R,va,vn,vc,rfl,fun U hU=>?_⟩;have hb:=aH.trans (hU.mono aH.size);exact⟨(hb.cell (p:=⟨G,j*2,none⟩) hG).trans (by rw[jdP];exact ly),(hb.cell (p:=⟨G,j*2+1,none⟩) hG).trans (by rw[jdP j];exact kF),e3.turn fun q _ _ _ k2 _ _ _=>hb.block q k2⟩)
 have nf:jfb (∀ U,Below A.heap.size A U->Calls Tryz.prog 65 #[.agg #[.int .u8 (op:Int),.int .u32 (f:Int),.int .u8 (c.1:Int),.int .i64 c.2.1,.string (am c.2.2),.slice ka ks.length kc],.agg #[.int .u32 (id:Int),.slice fa fs.length fc]] U fun e w'=>e=.returned (.int .i64 k)/\Below A.heap.size A w'):=ae (fun U hU=>by
  refine(PW U (aH.trans (hU.mono aH.size))).mono ?_;rintro e w' ⟨rfl,hb⟩;exact⟨rfl,ai hU hb⟩)
 have HMY:jfb (∀ U rv sts,Below A.heap.size A U->Ss U rv sts->(∀ s∈sts,Oks s)->Calls Tryz.prog 66 #[.agg #[.int .u8 (op:Int),.int .u32 (f:Int),.int .u8 (c.1:Int),.int .i64 c.2.1,.string (am c.2.2),.slice ka ks.length kc],.agg #[.int .u32 (id:Int),.slice fa fs.length fc],rv] U
   fun e w'=>e=.returned (b3V (oU fs sts (.node op f c ks)))/\Below U.heap.size U w'):=ae (fun U rv sts hU hs hos=>by
  have hb:=aH.trans (hU.mono aH.size);exact hmay U rv sts hb hs hos)
 have PB:jfb (∀ U a b j (hj:j<gs.length),Below A.heap.size A U->Gro U B (.agg #[a,b]) gs[j].1 gs[j].2->Calls Tryz.prog 67 #[.pointer (some ⟨fp,0,none⟩),.agg #[a,b],.agg #[.int .u8 (op:Int),.int .u32 (f:Int),.int .u8 (c.1:Int),.int .i64 c.2.1,.string (am c.2.2),.slice ka ks.length kc]] U
   fun e w'=>(∃ v l,e=.returned v/\Ow w' U.heap.size v l/\l.map Prod.snd=mM fs (.node op f c ks) gs[j].1)/\Below U.heap.size U w'):=ae (fun U a b j hj hU hg=>by
  have hb:=aH.trans (hU.mono aH.size);have h5:=mh hj;have h6:=ff gs (j+1);rw[h5,jdj]at h6;exact BQ ((hb.block fp FN).trans h1) (xX.kept hb) hg (hk.kept hb) (fun U2 rv2 r2 hU2=>FP U2 rv2 r2 (hb.trans (hU2.mono hb.size))) (fun r hh=>hr r (Fa hj hh)) (by omega))
 have HN0:=ae hN0;have Kn:=ae hN1;have cT:=ae (fun j (hj:j<gs.length)=>iM _ (jdl hj));have nr:=ae aH;have sj:=ae (fun j (hj:j<gs.length)=>JR (fs:=fs) (t:=.node op f c ks) hj);have HNT:=ae (fun j (hj:j<gs.length)=>JS (fs:=fs) (t:=.node op f c ks) hj);have HMG:jfb (∀ g:Gr,yu fs (.node op f c ks) g=(oU fs g.2 (.node op f c ks)).2.2):=ae (fun g=>rfl);have XJ:=ae (fun j=>jdq (zX fs (.node op f c ks) (gs.take j)) (ff gs j));have HNL:=ae (fun j=>jdq (NZ fs (.node op f c ks) (gs.take j)) (show (gs.take j).length<=gs.length by rw[jdo];omega));have HRA:jfb (jK fs (.node op f c ks) (gs.take gs.length)=jK fs (.node op f c ks) gs):=ae (by rw[jdp]);have LT:jfb (iL fs (.node op f c ks) (gs.take gs.length)=iL fs (.node op f c ks) gs):=ae (by rw[jdp]);have XZ:jfb (jK fs (.node op f c ks) (gs.take 0)=[]):=ae rfl;have HNZ:jfb (iL fs (.node op f c ks) (gs.take 0)=0):=ae rfl;have HHL:=ae (fun rows=>xz fs (.node op f c ks) rows);generalize (PT.node op f c ks)=T at *;have PX:=ae Co;clear h1 h2 h3 h4 xX hk FP hmay hr Co iM PW aH hN0 hN1 p0 p1 p2 p3 p4 p5;obtain⟨c0,c1,c2,d0,d1,d2,d3,d4,d5⟩:=HT.o A (jdg _ _);have HZ1:=ae cY;clear cY;generalize c.1=k0 at *;generalize c.2.1=k1 at *;generalize am c.2.2=k2 at *;go_enter Tryz.func28,Tryz.ntmps28
 go_upto_region 1 with fail
 try rw[hA]
 clear hA;go_cut [16] from 46 (fun v wx=>v=.bool (k != 0)/\Below A.heap.size A wx)
 case first =>
  refine wp_region_noPanic ?_
  go_region_law (first
   | (go_simp;go_at_call 65;refine(nf.o _ ?_).mono ?_;exact ar (jdg A.heap.size A) _;rintro e w1 ⟨rfl,aH⟩;have aR:=ae aH;clear aH;dsimp only)
   | fail)
  all_goals refine NoPanic.normal ?_
  all_goals go_wp2_with fail
  all_goals go_meet
  all_goals exact⟨rfl,aR.o⟩
 case rest =>
 obtain⟨rfl,FQ⟩:=hcut;obtain⟨w1,hw1⟩:∃ w1,w1=wc:=⟨_,rfl⟩;subst hw1;have aR:=ae FQ;clear FQ;clear c0 c1 c2 d0 d1 d2 d3 d4 d5 nf;by_cases qm:k=0
 ·have hkz:(k != 0)=false:=by simp[qm]
  rw[hkz];obtain⟨hNe,hRe⟩:=HN0.o qm;have Qj:=ae hNe;have XG:=ae hRe;clear hNe hRe HN0 Kn;obtain⟨c0,c1,c2,_⟩:=HT.o w1 aR.o;go_wp2_with fail;go_loopw [6,7,22] (fun o n i wr=>∃(j:Nat) (l:List (Value×Row)),j<=gs.length/\i=.int .i64 (j:Int)/\n=.int .i64 ((iL fs T (gs.take j):Nat):Int)/\Ow wr A.heap.size o l/\l.map Prod.snd=jK fs T (gs.take j)/\Below A.heap.size A wr) (fun _ _ i _=>gs.length-(intOf i).toNat)
  case atStart=>exact⟨0,[],by omega,rfl,by rw[HNZ.o];rfl,Ow.nil _ _,XZ.o.symm,aR.o⟩
  case round =>
   obtain⟨j,l,hj,rfl,rfl,how,vE,az⟩:=hrel;have HO:=ae how;have HB:=ae az;have tz:=ae vE;have bP:=az.size
   have Am:l.length<=1000:=by
    have h1:=jdm List.length vE;have h2:=XJ.o j;have h3:=PX.o;rw[jdk]at h1;omega
   obtain⟨la,lc,rfl,Za,BZ,_⟩:=how.form;clear how az vE c0 c1 c2;by_cases aC:j<gs.length
   ·have hlt':(j:Int)<(gs.length:Int):=by omega
    obtain⟨G,R,va,vn,vc,rfl,jb4⟩:=HG.o j aC;obtain⟨ca,cb,hgro⟩:=jb4 wr HB.o;have hbA:=HB.o.alloc bP (.cells #[.slice (some ⟨R,0,none⟩) gs[j].1.length gs[j].1.length,.slice va vn vc] 109);have Ae:=ak wr (.cells #[.slice (some ⟨R,0,none⟩) gs[j].1.length gs[j].1.length,.slice va vn vc] 109);obtain⟨q0,q1⟩:=bF wr (.slice (some ⟨R,0,none⟩) gs[j].1.length gs[j].1.length) (.slice va vn vc) 109;have yD:(wr.alloc (.cells #[.slice (some ⟨R,0,none⟩) gs[j].1.length gs[j].1.length,.slice va vn vc] 109)).heap.size=wr.heap.size+1:=jdi _ _;have HZQ:=ae yD;have nm:=ae (HO.o.kept Ae);have eY:=ae hbA;have HGC:=ae jb4;have HRJ:=ae (sj.o j aC);have HNJ:=ae (HNT.o j aC);have HMJ:=ae (HMG.o gs[j]);have HNJ2:=ae (HNL.o (j+1))
    have HQ:jfb (∀ U,Below (wr.alloc (.cells #[.slice (some ⟨R,0,none⟩) gs[j].1.length gs[j].1.length,.slice va vn vc] 109)).heap.size (wr.alloc (.cells #[.slice (some ⟨R,0,none⟩) gs[j].1.length gs[j].1.length,.slice va vn vc] 109)) U->U.cell? ⟨wr.heap.size,0,none⟩=some (.slice (some ⟨R,0,none⟩) gs[j].1.length gs[j].1.length)/\U.cell? ⟨wr.heap.size,1,none⟩=some (.slice va vn vc)):=ae (fun U hU =>
     ⟨(hU.cell (p:=⟨wr.heap.size,0,none⟩) (by show wr.heap.size<_;omega)).trans q0,(hU.cell (p:=⟨wr.heap.size,1,none⟩) (by show wr.heap.size<_;omega)).trans q1⟩)
    obtain⟨c0,c1,c2,d0,d1,d2,d3,d4,d5⟩:=HT.o _ eY.o;obtain⟨M,hM⟩:∃ M,oU fs gs[j].2 T=M:=⟨_,rfl⟩;rw[hM]at HMJ
    have HMC:jfb (∀ U,Below (wr.alloc (.cells #[.slice (some ⟨R,0,none⟩) gs[j].1.length gs[j].1.length,.slice va vn vc] 109)).heap.size (wr.alloc (.cells #[.slice (some ⟨R,0,none⟩) gs[j].1.length gs[j].1.length,.slice va vn vc] 109)) U->Calls Tryz.prog 66 #[.agg #[.int .u8 (op:Int),.int .u32 (f:Int),.int .u8 (k0:Int),.int .i64 k1,.string k2,.slice ka ks.length kc],.agg #[.int .u32 (id:Int),.slice fa fs.length fc],.slice va vn vc] U
      fun e w'=>e=.returned (.agg #[.bool M.1,.bool M.2.1,.bool M.2.2])/\Below (wr.alloc (.cells #[.slice (some ⟨R,0,none⟩) gs[j].1.length gs[j].1.length,.slice va vn vc] 109)).heap.size (wr.alloc (.cells #[.slice (some ⟨R,0,none⟩) gs[j].1.length gs[j].1.length,.slice va vn vc] 109)) w'):=ae (fun U hU=>by
     have hbU:=eY.o.trans (hU.mono eY.o.size);obtain⟨_,_,hg⟩:=HGC.o U hbU;refine(HMY.o U _ gs[j].2 hbU hg.stats (cT.o j aC)).mono ?_;rintro e w' ⟨rfl,hb⟩;rw[hM];exact⟨rfl,ai hU hb⟩)
    clear hM hgro jb4 hbA Ae yD q0 q1 ca cb HO;obtain⟨ca,cb,_⟩:=HGC.o wr HB.o;go_upto_region 8 with fail
    generalize hWA:wr.alloc (.cells #[.slice (some ⟨R,0,none⟩) gs[j].1.length gs[j].1.length,.slice va vn vc] 109)=WA at *;obtain⟨e0,e1⟩:=HQ.o WA (jdg _ _);have hix:∀ w,(Instr.index 123 (.agg #[.bool M.1,.bool M.2.1,.bool M.2.2]) (.int .u8 2)).run Tryz.prog w=.ok (.bool M.2.2) w:=jaT _ _ _;go_cut [34] from 46 (fun v wx=>v=.bool M.2.2/\Below WA.heap.size WA wx)
    case first =>
     refine wp_region_noPanic ?_
     go_region_law (first
      | (go_simp;go_at_call 66;refine(HMC.o _ ?_).mono ?_;exact ar (jdg WA.heap.size WA) _;rintro e w5 ⟨rfl,br⟩;have aS:=ae br;clear br;dsimp only)
      | fail)
     all_goals refine NoPanic.normal ?_
     all_goals go_wp2_with fail
     all_goals go_meet
     all_goals exact⟨rfl,aS.o⟩
    case rest =>
    obtain⟨rfl,FQ⟩:=hcut;obtain⟨w5,hw5⟩:∃ w5,w5=wc:=⟨_,rfl⟩;subst hw5;have aS:=ae FQ;have PY:=ae (eY.o.trans (FQ.mono eY.o.size));have dJ:=ae (nm.o.kept FQ);obtain⟨f0,f1⟩:=HQ.o w5 FQ;have vk:=FQ.size;clear FQ hix e0 e1 ca cb c0 c1 c2 d0 d1 d2 d3 d4 d5 HMC nm;obtain⟨m1,m2,m3⟩:=M;simp only at *;have FB:=PY.o.size;cases m3 with
    | false =>
     have jb5:jfb (jK fs T (gs.take (j+1))=jK fs T (gs.take j)):=ae (by rw[HRJ.o,HMJ.o];simp);have Yk:jfb (iL fs T (gs.take (j+1))=iL fs T (gs.take j)):=ae (by rw[HNJ.o,HMJ.o];simp);go_wp2_with fail;go_roundw
     case rel=>exact⟨j+1,l,by omega,by go_num,by rw[Yk.o],dJ.o,by rw[jb5.o,tz.o],PY.o⟩
     case measure=>simp[intOf];omega
    | true =>
     have jb5:jfb (jK fs T (gs.take (j+1))=jK fs T (gs.take j)++mM fs T gs[j].1):=ae (by rw[HRJ.o,HMJ.o];simp);have Yk:jfb (iL fs T (gs.take (j+1))=iL fs T (gs.take j)+1):=ae (by rw[HNJ.o,HMJ.o];simp);have hnl:iL fs T (gs.take j)<=100000:=by have h1:=HNJ2.o;have h2:=Yk.o;omega
     obtain⟨cn,FF⟩:∃ cn,iL fs T (gs.take j)=cn:=⟨_,rfl⟩;have mY:=ae FF;rw[FF]at hnl ⊢;clear FF;obtain⟨_,_,Zx⟩:=HGC.o w5 PY.o;have Ch:=ae (PB.o w5 _ _ j aC PY.o Zx);obtain⟨_,_,_,d0,d1,d2,d3,d4,d5⟩:=HT.o w5 PY.o;have HHL2:=ae (HHL.o gs[j].1)
     have HGL:jfb (gs[j].1.length<=1000):=ae (by
      have h5:=mh aC;have h6:=ff gs (j+1);have h7:=PX.o;rw[h5,jdj]at h6;omega)
     clear Zx;go_wp2_with fail;refine Ch.o.mono ?_;rintro e w6 ⟨⟨v6,l6,rfl,Ag,Vc⟩,dP⟩;have ng:=ae (dJ.o.kept dP);have Zw:=ae Ag;have HSN6:=ae Vc;have jc:=ae (PY.o.trans (dP.mono FB));have hz7:=dP.size;obtain⟨va6,vc6,rfl,_,_⟩:=bG Ag.1;clear dP Ag Vc Ch dJ;go_wp2_with (first | (at_builtin;refine jI rfl _ _ rfl A.heap.size _ _ l l6 rfl ng.o rfl Zw.o.sv ?c1 ?c2 ?c3 ?_))
     case c1=>exact fun x hx=>(Zw.o.2 x hx).of_le FB
     case c2 =>
      have h1:=jdm List.length HSN6.o;have h2:=HHL2.o;have h3:=HGL.o;rw[jdk]at h1;omega
     case c3=>omega
     intro v' w7 o7 b7;have iy:=ae o7;have ic:=ae (jc.o.trans b7);clear o7 b7;go_wp2_with fail;go_roundw
     case rel=>exact⟨j+1,_,by omega,by go_num,by rw[Yk.o,mY.o];go_num,iy.o,by rw[jb5.o,jdC,tz.o,HSN6.o],ic.o⟩
     case measure=>simp[intOf];omega
   ·obtain rfl:j=gs.length:=by omega
    have gL:¬ ((gs.length:Nat):Int)<(gs.length:Int):=(by omega);have FE:w.heap.size<=A.heap.size:=by have:=HZ1.o;omega
    have FM:jfb (l.map Prod.snd=RR):=ae (by rw[tz.o,HRA.o,XG.o]);have FO:jfb (iL fs T (gs.take gs.length)=N):=ae (by rw[LT.o,Qj.o]);rw[FO.o];go_wp2_with fail;go_ret2
    first | exact⟨⟨_,_,rfl,HO.o.low FE,FM.o⟩,ai nr.o HB.o⟩ | exact⟨⟨_,rfl,_,HO.o.low FE,FM.o⟩,ai nr.o HB.o⟩
 ·have hkz:(k != 0)=true:=by simp[qm]
  rw[hkz];obtain⟨hNe,hRe⟩:=Kn.o qm;have XG:=ae hRe;have FE:w.heap.size<=A.heap.size:=by have:=HZ1.o;omega
  subst hNe;clear hRe;go_wp2_with fail;go_ret2
  first | exact⟨⟨_,[],rfl,Ow.nil _ _,XG.o.symm⟩,ai nr.o aR.o⟩ | exact⟨⟨_,rfl,[],Ow.nil _ _,XG.o.symm⟩,ai nr.o aR.o⟩
theorem hO.low'{W:World}{B B':Nat}{v:Value}{l:Row}(h:hO W B v l)(hB:B'<=B):hO W B' v l:=zR h hB
def Oc(W:World)(B:Nat)(v:Value)(l:List (Value×Row)):Prop:=W.ownsRow B 58 1 v l.length (l.map Prod.fst)/\∀ x∈l,hO W B x.1 x.2
theorem Oc.nil(W:World)(B:Nat):Oc W B (.slice none 0 0) []:=⟨jd8 _ _ _ _,fun x hx=>by simp at hx⟩
theorem Oc.kept{W W':World}{B:Nat}{v:Value}{l:List (Value×Row)}(h:Oc W B v l)(hb:Below W.heap.size W W'):Oc W' B v l:=⟨bI h.1 hb,fun x hx=>(h.2 x hx).kept hb⟩
theorem Oc.form{W:World}{B:Nat}{v:Value}{l:List (Value×Row)}(h:Oc W B v l):∃ a cap,v=.slice a l.length cap/\l.length<=cap/\cap<=maxLen/\(a=none->cap=0):=by
 rcases h.1 with ⟨h0,⟨h1,h2⟩ | ⟨g,cap,cur,h1,h2,h3,h4,h5,_⟩⟩
 ·exact⟨none,0,by rw[h1,h2],by omega,by unfold maxLen;omega,fun _=>rfl⟩
 ·exact⟨_,cap,h1,h4,h5,fun e=>by cases e⟩
theorem Oc.at{W:World}{B:Nat}{a:Option Addr}{n cap:Nat}{l:List (Value×Row)}(h:Oc W B (.slice a n cap) l){k:Nat}(hk:k<l.length) :
  ∃ g,a=some ⟨g,0,none⟩/\g<W.heap.size/\W.cell? ⟨g,k,none⟩=some l[k].1/\hO W B l[k].1 l[k].2:=by
 rcases h with ⟨⟨h0,⟨h1,h2⟩ | ⟨g,cap',cur,h1,h2,h3,h4,h5,h6,h7⟩⟩,hr⟩
 ·omega
 ·simp only[Value.slice.injEq]at h1
  obtain⟨rfl,rfl,rfl⟩:=h1;refine⟨g,rfl,(Array.getElem?_eq_some_iff.1 h3).1,?_,(hr _ (jdl hk))⟩;have hj:(l.map Prod.fst)[k]?=some l[k].1:=by simp[hk]
  simp only[World.cell?,h3];rw[← h7]at hj;have aC:=(List.getElem?_eq_some_iff.1 hj).1;rw[jdo]at aC;rw[List.getElem?_take_of_lt (by omega)]at hj;simpa using hj
theorem Oc.sr{W:World}{B:Nat}{v:Value}{l:List (Value×Row)}(h:Oc W B v l):Sr W v (l.map Prod.snd):=by
 obtain⟨a,cap,rfl,h1,h2,h3⟩:=h.form;refine⟨a,cap,by rw[jdk],by rw[jdk];exact h1,h2,fun h0=>?_⟩;rw[jdk]at h0;obtain⟨g,e,h4,_⟩:=h.at h0;refine⟨g,0,e,h4,fun j hj=>?_⟩;rw[jdk]at hj;obtain⟨g',e',h5,h6,h7⟩:=h.at hj;obtain rfl:g=g':=by rw[e]at e';cases e';rfl
 refine⟨_,by rw[jdK];exact h6,?_⟩;have:=h7.sc;simpa using this
theorem BR{w:World}(ty:TypeId)(base:Nat)(v vx:Value)(l0 l:List (Value×Row))(aA:Oc w base v l0)(ft:Sv w vx (l.map Prod.fst))(hr:∀ x∈l,hO w base x.1 x.2)(hbytes:l0.length+l.length<=1000000)(aI:base<=w.heap.size) :
  ∃ v' w',(Builtin.append_ #[26,26] ty #[v,vx]).run Tryz.prog w=.ok v' w'/\Oc w' base v' (l0++l)/\Below base w w':=by
 obtain⟨i0,hi,cm,hz1',bn⟩:=jdA jaK;obtain⟨ad,cap,rfl,h1,h2,h3,h4⟩:=ft;rw[jdk]at *
 have one:∀ x∈l.map Prod.fst,x.oneCell'=true:=fun x hx=>by
  obtain⟨y,hy,rfl⟩:=jdE.1 hx;obtain⟨a,n,c,e⟩:=eP (hr y hy);rw[e];rfl
 cases ad with
 | none =>
  have hc:=h3 rfl;subst hc;have hl:l=[]:=jdF (by omega);subst hl;have hr:=jeJ (P:=Tryz.prog) (w:=w) base 26 ty 58 i0 1 Tryz.underlying26 hi v l0.length (l0.map Prod.fst) aA.1;refine⟨v,w,hr,by rw[jdB];exact aA,jdg _ _⟩
 | some ad =>
  obtain⟨v',w',FG,o1,g1,_,e1⟩:=run_append_own_at (P:=Tryz.prog) w base 26 ty 58 i0 (.slice none 0 0) 1 24 Tryz.underlying26 hi cm hz1' bn rfl (by decide) v l0.length (l0.map Prod.fst) aA.1 ad l.length cap (l.map Prod.fst) (by rw[jdk];omega)
   (fun j u hu=>by
    have hj:j<l.length:=by
     have:=(List.getElem?_eq_some_iff.1 hu).1;rwa[jdk]at this
    obtain⟨b,off,h5,_,h6⟩:=h4 (by omega);cases h5
    rw[pI];exact h6 j u hu) one (by unfold maxLen;omega) (by omega) aI
  have keep:∀ y:Value×Row,hO w base y.1 y.2->hO w' base y.1 y.2:=fun y hy =>
   bY hy fun k hk=>g1.block k (aM hy hk).2.1 (fun e=>fM hy aA.1 (by decide) hk e.symm)
  refine⟨v',w',FG,⟨?_,fun y hy=>?_⟩,(jdg base w).grown g1 aI (fun k hk=>(aA.1.lt k hk).1)⟩
  ·rw[jdj,jdC]
   exact o1
  ·rcases jdO.1 hy with hy | hy
   ·exact keep y (aA.2 y hy)
   ·exact keep y (hr y hy)
theorem Fg{w:World}{o:Oper}{a:Act}{K:Act->World->Prop}{Q:Exit->Act->World->Prop}(s x:Operand)
  (ho:o.op=.call { callee:=.builtin .append,args:=#[s,x],argTypes:=#[26,26] })
  (base:Nat) (v vx:Value) (l0 l:List (Value×Row)) (hs:a.eval s=v) (aA:Oc w base v l0) (hx:a.eval x=vx) (ft:Sv w vx (l.map Prod.fst)) (hr:∀ x∈l,hO w base x.1 x.2) (hbytes:l0.length+l.length<=1000000) (aI:base<=w.heap.size)
  (h:∀ v' w',Oc w' base v' (l0++l)->Below base w w'->K (a.put o.dst v') w'):Oper.wp Tryz.prog o a w K Q:=by
 obtain⟨v',w',hr,h2,h3⟩:=BR o.type base v vx l0 l aA ft hr hbytes aI;unfold Oper.wp execOp;simp only[ho,resolve,invoke,builtin,Sem.run_bind,Sem.run_pure,Result.andThen_ok,jes,jdQ,jed,hs,hx,hr];exact h v' w' h2 h3
theorem uE{w:World}{ops:Array Oper}{rest:List Oper}{o:Oper}{a:Act}{Q:Exit->Act->World->Prop}(eg:o.guard=none)(s x:Operand)
  (ho:o.op=.call { callee:=.builtin .append,args:=#[s,x],argTypes:=#[26,26] })
  (base:Nat) (v vx:Value) (l0 l:List (Value×Row)) (hs:a.eval s=v) (aA:Oc w base v l0) (hx:a.eval x=vx) (ft:Sv w vx (l.map Prod.fst)) (hr:∀ x∈l,hO w base x.1 x.2) (hbytes:l0.length+l.length<=1000000) (aI:base<=w.heap.size)
  (h:∀ v' w',Oc w' base v' (l0++l)->Below base w w'->wpList Tryz.prog ops Q rest (a.put o.dst v') w') :
  wpList Tryz.prog ops Q (o::rest) a w :=
 wpList_plain eg fun K hK=>Fg s x ho base v vx l0 l hs aA hx ft hr hbytes aI fun v' w' h1 h2=>hK _ _ (h v' w' h1 h2)
theorem TQ{w:World}{v:Value}{rs:List Row}(hs:Rv w v rs)(hf:∀ r∈rs,∀ c∈r,aV c)(hl:rs.length<=1000)(Am:∀ r∈rs,r.length<=600) :
  Calls Tryz.prog 34 #[v] w fun e w'=>(∃ v' l,e=.returned v'/\Oc w' w.heap.size v' l/\l.map Prod.snd=rs)/\Below w.heap.size w w':=by
 have HS:=ae hs;have HF:=ae hf;have HLL:=ae Am;obtain⟨a,cap,rfl,aY,hcm',_⟩:=hs.form;clear hs hf Am;go_enter Tryz.func34,Tryz.ntmps34
 go_wp2_with fail;go_loopw [3,4] (fun o i wr=>∃(j:Nat) (l:List (Value×Row)),j<=rs.length/\i=.int .i64 (j:Int)/\Oc wr w.heap.size o l/\l.map Prod.snd=rs.take j/\Below w.heap.size w wr) (fun _ i _=>rs.length-(intOf i).toNat)
 case atStart=>exact⟨0,[],by omega,rfl,Oc.nil _ _,rfl,jdg _ _⟩
 case round =>
  obtain⟨j,l,hj,rfl,how,vE,az⟩:=hrel;have HO:=ae how;have HB:=ae az;have tz:=ae vE;have bP:=az.size;have Am:l.length=j:=by have:=jdm List.length vE;rw[jdk,jdo]at this;omega
  clear how az vE;by_cases aC:j<rs.length
  ·obtain⟨g,off,rv,rfl,hg,bq,LQ⟩:=(HS.o.kept HB.o).at aC
   have hlt':(j:Int)<(rs.length:Int):=(by omega);have nh:jfb (rs.take (j+1)=rs.take j++[rs[j]]):=ae (jdx aC);have UX:=ae (zB LQ (HF.o _ (jdl aC)) (HLL.o _ (jdl aC)));generalize rs[j]=r at *;obtain⟨ra,rc,rfl,_,_⟩:=LQ.form1;rw[aG]at *;have HLJ:=ae Am;clear LQ Am;go_wp2_with fail;refine UX.o.mono ?_;rintro e w1 ⟨⟨rv',rfl,eI⟩,aH⟩;have fC:=ae eI;have HOW1:=ae (HO.o.kept aH);have aR:=ae (HB.o.trans (aH.mono bP));have cY:=aH.size;obtain⟨ra',rc',rfl,_,_⟩:=bG eI;have mY:=ae (aL w1 (.slice ra' r.length rc') 58);clear aH eI;go_wp2_with (first | (at_builtin;refine uE rfl _ _ rfl w.heap.size _ _ l [(.slice ra' r.length rc',r)] rfl (HOW1.o.kept (ak _ _)) rfl (BC mY.o (by rw[jdi];omega)) ?c1 ?c2 ?c3 ?_))
   case c1 =>
    intro x hx;rw[jd5.1 hx];exact(fC.o.kept (ak _ _)).low' bP
   case c2=>have:=HLJ.o;simp only[jdS];omega
   case c3=>rw[jdi];omega
   intro v' w5 o5 b5;have dJ:=ae o5;have aS:=ae ((aR.o.alloc (jdq bP cY) _).trans b5);clear o5 b5;go_wp2_with fail;go_roundw
   case rel=>exact⟨j+1,_,by omega,by go_num,dJ.o,by rw[nh.o,jdC,tz.o];rfl,aS.o⟩
   case measure=>simp[intOf];omega
  ·obtain rfl:j=rs.length:=by omega
   rw[jdp]at tz;have gL:¬ ((rs.length:Nat):Int)<(rs.length:Int):=(by omega);go_wp2_with fail;go_ret
   first | exact⟨⟨_,_,rfl,HO.o,tz.o⟩,HB.o⟩ | exact⟨⟨_,rfl,_,HO.o,tz.o⟩,HB.o⟩
theorem aV.bsA{c:Cl}(h:aV c):Bs c.2.2:=h.okc.2.2
theorem TR(w:World)(l:Row)(hl:l.length<=256):OwnV (w.alloc (.cells (aJ l).toArray 78)) w.heap.size (.slice (some ⟨w.heap.size,0,none⟩) l.length l.length) l :=
 jer (e:=78) (size:=1) w (aJ l).toArray l.length (base:=w.heap.size) (jdh _) (by unfold maxLen;omega) (by simp[aJ])
theorem jaU(w:World)(l:Row)(hl:l.length<=256):hO (w.alloc (.cells (iJ l).toArray 52)) w.heap.size (.slice (some ⟨w.heap.size,0,none⟩) l.length l.length) l :=
 jer (e:=52) (size:=3) w (iJ l).toArray l.length (base:=w.heap.size) (jdh _) (by unfold maxLen;omega) (by simp[qA])
theorem TS(W:World):let W3:=W.alloc (.cells #[.iface 2 (.int .i64 1),.iface 9 (.string ⟨#[97]⟩)] 78);let W4:=W3.alloc (.cells #[.iface 2 (.int .i64 2),.nilIface] 78)
  Rv (W4.alloc (.cells #[.slice (some ⟨W.heap.size,0,none⟩) 2 2,.slice (some ⟨W.heap.size+1,0,none⟩) 2 2] 79)) (.slice (some ⟨W.heap.size+1+1,0,none⟩) 2 2) rA/\Below W.heap.size W (W4.alloc (.cells #[.slice (some ⟨W.heap.size,0,none⟩) 2 2,.slice (some ⟨W.heap.size+1,0,none⟩) 2 2] 79)):=by
 intro W3 W4;have h3:OwnV W3 W.heap.size (.slice (some ⟨W.heap.size,0,none⟩) 2 2) rA1:=TR W rA1 (by decide);have h4:OwnV W4 W3.heap.size (.slice (some ⟨W3.heap.size,0,none⟩) 2 2) rA2:=TR W3 rA2 (by decide);have z3:W3.heap.size=W.heap.size+1:=jdi _ _;have z4:W4.heap.size=W.heap.size+1+1:=by show (W3.alloc _).heap.size=_;rw[jdi,z3]
 rw[z3]at h4;have b3:Below W3.heap.size W3 W4:=ak _ _;have b4:=ak W4 (.cells #[.slice (some ⟨W.heap.size,0,none⟩) 2 2,.slice (some ⟨W.heap.size+1,0,none⟩) 2 2] 79);obtain⟨c0,c1⟩:=bF W4 (.slice (some ⟨W.heap.size,0,none⟩) 2 2) (.slice (some ⟨W.heap.size+1,0,none⟩) 2 2) 79;have z5:(W4.alloc (.cells #[.slice (some ⟨W.heap.size,0,none⟩) 2 2,.slice (some ⟨W.heap.size+1,0,none⟩) 2 2] 79)).heap.size=W.heap.size+3:=by rw[jdi,z4]
 refine⟨⟨_,2,rfl,jdh _,by unfold maxLen;omega,fun e=>(by cases e),fun _=>⟨W.heap.size+1+1,0,rfl,by omega,fun j hj=>?_⟩⟩,?_⟩
 ·rw[z4]at c0 c1
  have Qd:j<2:=hj;obtain rfl | rfl:j=0∨j=1:=by omega
  ·exact⟨_,c0,((h3.kept b3).kept b4).sv⟩
  ·exact⟨_,c1,(h4.kept b4).sv⟩
 ·exact(((jdg _ _).alloc (jdh _) _).alloc (by rw[z3];omega) _).alloc (by rw[z4];omega) _
theorem rL(W:World):sQ W (.slice none 0 0) []:=⟨none,0,rfl,jdh _,by unfold maxLen;omega,fun h=>by simp at h⟩
theorem Lv{fs:List Fd}{p:List Row}(h:jQ fs p):∀ s∈(grp fs p).2,Oks s:=fun s hs=>by
 obtain⟨i,_,rfl⟩:=jdE.1 hs;have:=kz (md h i);exact⟨this.1.okc,this.2.okc⟩
def gsA:List Gr:=[grp fB [rA1],grp fB [rA2]]
theorem Xw:bQ gsA=rA:=rfl
theorem oksA:∀ g∈gsA,∀ s∈g.2,Oks s:=fun g hg=>by
 have gM:g=grp fB [rA1]∨g=grp fB [rA2]:=by simpa [gsA]using hg
 rcases gM with rfl | rfl
 ·exact Lv fun r hr=>pt r (by rw[jd5.1 hr];simp[rA])
 ·exact Lv fun r hr=>pt r (by rw[jd5.1 hr];simp[rA])
theorem YN:gsA.filter (yu fB pA)=[grp fB [rA2]]:=by
 have h1:yu fB pA (grp fB [rA1])=false:=mayA1;have h2:yu fB pA (grp fB [rA2])=true:=mayA2;unfold gsA;simp[je5,h1,h2]
theorem jaV:iL fB pA gsA=1:=by unfold iL;rw[YN];rfl
theorem jaW:jK fB pA gsA=[rA2]:=by
 unfold jK;rw[YN]
 have h:mM fB pA [rA2]=[rA2]:=by
  unfold mM TP;rw[je5,jaS];rfl
 show [grp fB [rA2]].flatMap _=_
 simp only[jeA,List.flatMap_nil,jdB];exact h
theorem jaX:Okp pA:=⟨by omega,by omega,⟨by decide,⟨by decide,by decide⟩,fun x hx=>by simp at hx⟩,trivial⟩
theorem lenpA:Len pA:=⟨by decide,trivial⟩
end Go.Proofs.YtpljdjmpamjkhaaGreatDoor
