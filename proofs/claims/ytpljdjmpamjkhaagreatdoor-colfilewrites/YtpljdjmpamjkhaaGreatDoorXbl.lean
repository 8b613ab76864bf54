import Derived.Test.YtpljdjmpamjkhaaGreatDoorXbk
set_option linter.unusedVariables false
set_option linter.unusedSimpArgs false
set_option maxRecDepth 100000
set_option maxHeartbeats 4000000
namespace Go.Proofs.YtpljdjmpamjkhaaGreatDoor
open Go.RowKit Go.Lib
theorem Gro.stats{W:World}{B:Nat}{a b:Value}{rows:List Row}{sts:List Stt}(h:Gro W B (.agg #[a,b]) rows sts):Ss W b sts:=by
 obtain⟨R,rvs,vs,e,_,_,h3⟩:=h;simp only[Value.agg.injEq,Array.mk.injEq,List.cons.injEq,and_true]at e;obtain⟨_,rfl⟩:=e;exact jaU.ss (B:=B) h3
theorem ja1(a b c:Bool)(w:World):(Instr.index 123 (.agg #[.bool a,.bool b,.bool c]) (.int .u8 2)).run Tryz.prog w=.ok (.bool c) w:=by
 cases a<;>cases b<;>cases c<;>kernel_rfl
def yq(fs:List Fd)(t:PT)(g:Gr):Bool:=jaD (oX fs g.2 t) 2
def jJ(fs:List Fd)(t:PT)(gs:List Gr):List Row:=(gs.filter (yq fs t)).flatMap fun g=>mR fs t g.1
def iM(fs:List Fd)(t:PT)(gs:List Gr):Nat:=(gs.filter (yq fs t)).length
theorem JX{fs:List Fd}{t:PT}{gs:List Gr}{k:Nat}(h:k<gs.length):jJ fs t (gs.take (k+1))=jJ fs t (gs.take k)++(if yq fs t gs[k]=true then mR fs t gs[k].1 else []):=by
 unfold jJ;rw[jdM h,je6,jeH];cases hm:yq fs t gs[k]<;>simp[jfj,hm]
theorem JY{fs:List Fd}{t:PT}{gs:List Gr}{k:Nat}(h:k<gs.length):iM fs t (gs.take (k+1))=iM fs t (gs.take k)+(if yq fs t gs[k]=true then 1 else 0):=by
 unfold iM;rw[jdM h,je6,jdy];cases hm:yq fs t gs[k]<;>simp[jfj,hm]
theorem zT(fs:List Fd)(t:PT):∀ gs:List Gr,(jJ fs t gs).length<=(cp gs).length
 | []=>jdw _
 | g::gs=>by
  have h:=zT fs t gs;have h2:=xu fs t g.1;unfold jJ cp at *;rw[jfj];split
  ·simp only[jeQ,jdy,jd5,jeR]
   omega
  ·simp only[jd5,jeR,jdy]
   omega
theorem Po(fs:List Fd)(t:PT)(gs:List Gr):iM fs t gs<=gs.length:=je4 _ _
theorem JZ{w:World}{B fp id op f:Nat}{fv kv:Value}{fs:List Fd}{gs:List Gr}{c:Cl}{ks:List PT}(h:Fil w B fp id fv gs)(Ak:Sf w fv fs)
  (hk:sO w kv ks) (FS:∀ U rv r,Below w.heap.size w U->Sv U rv (aI r)->(∀ x∈r,aT x)->Calls Tryz.prog 113 #[.agg #[.int .u8 (op:Int),.int .u32 (f:Int),.int .u8 (c.1:Int),.int .i64 c.2.1,.string (ak c.2.2),kv],.agg #[.int .u32 (id:Int),fv],rv] U fun e w'=>e=.returned (.int .u8 (jp fs r (.node op f c ks):Int))/\Below U.heap.size U w')
  (hmay:∀ U rv sts,Below w.heap.size w U->Ss U rv sts->(∀ s∈sts,Oks s)->Calls Tryz.prog 66 #[.agg #[.int .u8 (op:Int),.int .u32 (f:Int),.int .u8 (c.1:Int),.int .i64 c.2.1,.string (ak c.2.2),kv],.agg #[.int .u32 (id:Int),fv],rv] U fun e w'=>e=.returned (b3V (oX fs sts (.node op f c ks)))/\Below U.heap.size U w') (hr:∀ r∈cp gs,r.length<=1000/\∀ x∈r,aT x) (Ch:(cp gs).length<=1000) (Yx:gs.length<=100000) (kJ:∀ g∈gs,∀ s∈g.2,Oks s) (k:Int) (N:Nat) (RR:List Row) (hN0:k=0->N=iM fs (.node op f c ks) gs/\RR=jJ fs (.node op f c ks) gs) (hN1:k≠0->N=0/\RR=[])
  (Qk:∀ U,Below w.heap.size w U->Calls Tryz.prog 65 #[.agg #[.int .u8 (op:Int),.int .u32 (f:Int),.int .u8 (c.1:Int),.int .i64 c.2.1,.string (ak c.2.2),kv],.agg #[.int .u32 (id:Int),fv]] U fun e w'=>e=.returned (.int .i64 k)/\Below U.heap.size U w') :
  Calls Tryz.prog 28 #[.pointer (some ⟨fp,0,none⟩),.agg #[.int .u8 (op:Int),.int .u32 (f:Int),.int .u8 (c.1:Int),.int .i64 c.2.1,.string (ak c.2.2),kv]] w
   fun e w'=>(∃ v l,e=.returned (.tuple #[v,.int .i64 (N:Int)])/\Ow w' w.heap.size v l/\l.map Prod.snd=RR)/\Below w.heap.size w w':=by
 obtain⟨gv,xs,h1,h2,h3,h4⟩:=h;obtain⟨ga,gc,rfl,hgc,hgm⟩:=bI h3;obtain⟨fa,fc,rfl,_,_⟩:=Ak.form;obtain⟨ka,kc,rfl,_,_⟩:=hk.form;have KH:=(Array.getElem?_eq_some_iff.1 h1).1;have aH:=am w (.cells #[.int .u8 (op:Int),.int .u32 (f:Int),.int .u8 (c.1:Int),.int .i64 c.2.1,.string (ak c.2.2),.slice ka ks.length kc] 63);obtain⟨p0,p1,p2,p3,p4,p5⟩:=sP w (.int .u8 (op:Int)) (.int .u32 (f:Int)) (.int .u8 (c.1:Int)) (.int .i64 c.2.1) (.string (ak c.2.2)) (.slice ka ks.length kc) 63;have cP:(w.alloc (.cells #[.int .u8 (op:Int),.int .u32 (f:Int),.int .u8 (c.1:Int),.int .i64 c.2.1,.string (ak c.2.2),.slice ka ks.length kc] 63)).heap.size=w.heap.size+1:=jdx _ _;generalize hA:w.alloc (.cells #[.int .u8 (op:Int),.int .u32 (f:Int),.int .u8 (c.1:Int),.int .i64 c.2.1,.string (ak c.2.2),.slice ka ks.length kc] 63)=A at *
 have HT:jfp (∀ U,Below A.heap.size A U->U.cell? ⟨fp,0,none⟩=some (.int .u32 (id:Int))/\U.cell? ⟨fp,1,none⟩=some (.slice fa fs.length fc)/\U.cell? ⟨fp,2,none⟩=some (.slice ga gs.length gc) /\
   U.cell? ⟨w.heap.size,0,none⟩=some (.int .u8 (op:Int))/\U.cell? ⟨w.heap.size,1,none⟩=some (.int .u32 (f:Int))/\U.cell? ⟨w.heap.size,2,none⟩=some (.int .u8 (c.1:Int))/\U.cell? ⟨w.heap.size,3,none⟩=some (.int .i64 c.2.1)/\U.cell? ⟨w.heap.size,4,none⟩=some (.string (ak c.2.2))/\U.cell? ⟨w.heap.size,5,none⟩=some (.slice ka ks.length kc)):=ae (fun U hU=>by
  have hfU:=(hU.block fp (by omega)).trans ((aH.block fp KH).trans h1);refine⟨by rw[ay hfU];rfl,by rw[ay hfU];rfl,by rw[ay hfU];rfl,?_,?_,?_,?_,?_,?_⟩
  ·exact(hU.cell (p:=⟨w.heap.size,0,none⟩) (by show w.heap.size<_;omega)).trans p0
  ·exact(hU.cell (p:=⟨w.heap.size,1,none⟩) (by show w.heap.size<_;omega)).trans p1
  ·exact(hU.cell (p:=⟨w.heap.size,2,none⟩) (by show w.heap.size<_;omega)).trans p2
  ·exact(hU.cell (p:=⟨w.heap.size,3,none⟩) (by show w.heap.size<_;omega)).trans p3
  ·exact(hU.cell (p:=⟨w.heap.size,4,none⟩) (by show w.heap.size<_;omega)).trans p4
  ·exact(hU.cell (p:=⟨w.heap.size,5,none⟩) (by show w.heap.size<_;omega)).trans p5)
 have HG:jfp (∀ j (hj:j<gs.length),∃ G R va vn vc,ga=some ⟨G,0,none⟩/\∀ U,Below A.heap.size A U->U.cell? ⟨G,j*2,none⟩=some (.slice (some ⟨R,0,none⟩) gs[j].1.length gs[j].1.length)/\U.cell? ⟨G,j*2+1,none⟩=some (.slice va vn vc)/\Gro U B (.agg #[.slice (some ⟨R,0,none⟩) gs[j].1.length gs[j].1.length,.slice va vn vc]) gs[j].1 gs[j].2):=ae (fun j hj=>by
  obtain⟨a,b,e1,e2,e3⟩:=h4 j hj;obtain⟨R,rfl,g1,g2,⟨va,vn,vc,rfl⟩,g4⟩:=e3.rows;obtain⟨G,rfl,_,hG,lp⟩:=ij h3 e1;obtain⟨_,e,_,_,jT⟩:=ij h3 e2;cases e
  refine⟨G,R,va,vn,vc,rfl,fun U hU=>?_⟩;have hb:=aH.trans (hU.mono aH.size);exact⟨(hb.cell (p:=⟨G,j*2,none⟩) hG).trans (by rw[jd4];exact lp),(hb.cell (p:=⟨G,j*2+1,none⟩) hG).trans (by rw[jd4 j];exact jT),e3.turn fun q _ _ _ k2 _ _ _=>hb.block q k2⟩)
 have nk:jfp (∀ U,Below A.heap.size A U->Calls Tryz.prog 65 #[.agg #[.int .u8 (op:Int),.int .u32 (f:Int),.int .u8 (c.1:Int),.int .i64 c.2.1,.string (ak c.2.2),.slice ka ks.length kc],.agg #[.int .u32 (id:Int),.slice fa fs.length fc]] U fun e w'=>e=.returned (.int .i64 k)/\Below A.heap.size A w'):=ae (fun U hU=>by
  refine(Qk U (aH.trans (hU.mono aH.size))).mono ?_;rintro e w' ⟨rfl,hb⟩;exact⟨rfl,ai hU hb⟩)
 have HMY:jfp (∀ U rv sts,Below A.heap.size A U->Ss U rv sts->(∀ s∈sts,Oks s)->Calls Tryz.prog 66 #[.agg #[.int .u8 (op:Int),.int .u32 (f:Int),.int .u8 (c.1:Int),.int .i64 c.2.1,.string (ak c.2.2),.slice ka ks.length kc],.agg #[.int .u32 (id:Int),.slice fa fs.length fc],rv] U
   fun e w'=>e=.returned (b3V (oX fs sts (.node op f c ks)))/\Below U.heap.size U w'):=ae (fun U rv sts hU hs hos=>by
  have hb:=aH.trans (hU.mono aH.size);exact hmay U rv sts hb hs hos)
 have Cb:jfp (∀ U a b j (hj:j<gs.length),Below A.heap.size A U->Gro U B (.agg #[a,b]) gs[j].1 gs[j].2->Calls Tryz.prog 67 #[.pointer (some ⟨fp,0,none⟩),.agg #[a,b],.agg #[.int .u8 (op:Int),.int .u32 (f:Int),.int .u8 (c.1:Int),.int .i64 c.2.1,.string (ak c.2.2),.slice ka ks.length kc]] U
   fun e w'=>(∃ v l,e=.returned v/\Ow w' U.heap.size v l/\l.map Prod.snd=mR fs (.node op f c ks) gs[j].1)/\Below U.heap.size U w'):=ae (fun U a b j hj hU hg=>by
  have hb:=aH.trans (hU.mono aH.size);have h5:=mq hj;have h6:=fo gs (j+1);rw[h5,jdy]at h6;exact BJ ((hb.block fp KH).trans h1) (Ak.kept hb) hg (hk.kept hb) (fun U2 rv2 r2 hU2=>FS U2 rv2 r2 (hb.trans (hU2.mono hb.size))) (fun r hh=>hr r (EZ hj hh)) (by omega))
 have HN0:=ae hN0;have Kp:=ae hN1;have cU:=ae (fun j (hj:j<gs.length)=>kJ _ (jdA hj));have nA:=ae aH;have sg:=ae (fun j (hj:j<gs.length)=>JX (fs:=fs) (t:=.node op f c ks) hj);have HNT:=ae (fun j (hj:j<gs.length)=>JY (fs:=fs) (t:=.node op f c ks) hj);have HMG:jfp (∀ g:Gr,yq fs (.node op f c ks) g=(oX fs g.2 (.node op f c ks)).2.2):=ae (fun g=>rfl);have Yb:=ae (fun j=>jdF (zT fs (.node op f c ks) (gs.take j)) (fo gs j));have HNL:=ae (fun j=>jdF (Po fs (.node op f c ks) (gs.take j)) (show (gs.take j).length<=gs.length by rw[jdC];omega));have HRA:jfp (jJ fs (.node op f c ks) (gs.take gs.length)=jJ fs (.node op f c ks) gs):=ae (by rw[jdE]);have Ma:jfp (iM fs (.node op f c ks) (gs.take gs.length)=iM fs (.node op f c ks) gs):=ae (by rw[jdE]);have Ys:jfp (jJ fs (.node op f c ks) (gs.take 0)=[]):=ae rfl;have HNZ:jfp (iM fs (.node op f c ks) (gs.take 0)=0):=ae rfl;have HHL:=ae (fun rows=>xu fs (.node op f c ks) rows);generalize (PT.node op f c ks)=T at *;have Ql:=ae Ch;clear h1 h2 h3 h4 Ak hk FS hmay hr Ch kJ Qk aH hN0 hN1 p0 p1 p2 p3 p4 p5;obtain⟨c0,c1,c2,d0,d1,d2,d3,d4,d5⟩:=HT.o A (jdv _ _);have HZ1:=ae cP;clear cP;generalize c.1=k0 at *;generalize c.2.1=k1 at *;generalize ak c.2.2=k2 at *;go_enter Tryz.func28,Tryz.ntmps28
 go_upto_region 1 with fail
 try rw[hA]
 clear hA;go_cut [16] from 46 (fun v wx=>v=.bool (k != 0)/\Below A.heap.size A wx)
 case first =>
  refine wp_region_noPanic ?_
  go_region_law (first
   | (go_simp;go_at_call 65;refine(nk.o _ ?_).mono ?_;exact ap (jdv A.heap.size A) _;rintro e w1 ⟨rfl,aH⟩;have aQ:=ae aH;clear aH;dsimp only)
   | fail)
  all_goals refine NoPanic.normal ?_
  all_goals go_wp2_with fail
  all_goals go_meet
  all_goals exact⟨rfl,aQ.o⟩
 case rest =>
 obtain⟨rfl,An⟩:=hcut;obtain⟨w1,hw1⟩:∃ w1,w1=wc:=⟨_,rfl⟩;subst hw1;have aQ:=ae An;clear An;clear c0 c1 c2 d0 d1 d2 d3 d4 d5 nk;by_cases ql:k=0
 ·have hkz:(k != 0)=false:=by simp[ql]
  rw[hkz];obtain⟨hNe,hRe⟩:=HN0.o ql;have Qx:=ae hNe;have XY:=ae hRe;clear hNe hRe HN0 Kp;obtain⟨c0,c1,c2,_⟩:=HT.o w1 aQ.o;go_wp2_with fail;go_loopw [6,7,22] (fun o n i wr=>∃(j:Nat) (l:List (Value×Row)),j<=gs.length/\i=.int .i64 (j:Int)/\n=.int .i64 ((iM fs T (gs.take j):Nat):Int)/\Ow wr A.heap.size o l/\l.map Prod.snd=jJ fs T (gs.take j)/\Below A.heap.size A wr) (fun _ _ i _=>gs.length-(intOf i).toNat)
  case atStart=>exact⟨0,[],by omega,rfl,by rw[HNZ.o];rfl,Ow.nil _ _,Ys.o.symm,aQ.o⟩
  case round =>
   obtain⟨j,l,hj,rfl,rfl,how,uW,az⟩:=hrel;have HO:=ae how;have HB:=ae az;have tw:=ae uW;have bF:=az.size
   have mU:l.length<=1000:=by
    have h1:=jdB List.length uW;have h2:=Yb.o j;have h3:=Ql.o;rw[jdz]at h1;omega
   obtain⟨la,lc,rfl,UL,Aa,_⟩:=how.form;clear how az uW c0 c1 c2;by_cases aB:j<gs.length
   ·have hlt':(j:Int)<(gs.length:Int):=by omega
    obtain⟨G,R,va,vn,vc,rfl,jcl⟩:=HG.o j aB;obtain⟨ca,cb,hgro⟩:=jcl wr HB.o;have hbA:=HB.o.alloc bF (.cells #[.slice (some ⟨R,0,none⟩) gs[j].1.length gs[j].1.length,.slice va vn vc] 109);have Ad:=am wr (.cells #[.slice (some ⟨R,0,none⟩) gs[j].1.length gs[j].1.length,.slice va vn vc] 109);obtain⟨q0,q1⟩:=bx wr (.slice (some ⟨R,0,none⟩) gs[j].1.length gs[j].1.length) (.slice va vn vc) 109;have yA:(wr.alloc (.cells #[.slice (some ⟨R,0,none⟩) gs[j].1.length gs[j].1.length,.slice va vn vc] 109)).heap.size=wr.heap.size+1:=jdx _ _;have HZQ:=ae yA;have nw:=ae (HO.o.kept Ad);have fd:=ae hbA;have HGC:=ae jcl;have HRJ:=ae (sg.o j aB);have HNJ:=ae (HNT.o j aB);have HMJ:=ae (HMG.o gs[j]);have HNJ2:=ae (HNL.o (j+1))
    have HQ:jfp (∀ U,Below (wr.alloc (.cells #[.slice (some ⟨R,0,none⟩) gs[j].1.length gs[j].1.length,.slice va vn vc] 109)).heap.size (wr.alloc (.cells #[.slice (some ⟨R,0,none⟩) gs[j].1.length gs[j].1.length,.slice va vn vc] 109)) U->U.cell? ⟨wr.heap.size,0,none⟩=some (.slice (some ⟨R,0,none⟩) gs[j].1.length gs[j].1.length)/\U.cell? ⟨wr.heap.size,1,none⟩=some (.slice va vn vc)):=ae (fun U hU =>
     ⟨(hU.cell (p:=⟨wr.heap.size,0,none⟩) (by show wr.heap.size<_;omega)).trans q0,(hU.cell (p:=⟨wr.heap.size,1,none⟩) (by show wr.heap.size<_;omega)).trans q1⟩)
    obtain⟨c0,c1,c2,d0,d1,d2,d3,d4,d5⟩:=HT.o _ fd.o;obtain⟨M,hM⟩:∃ M,oX fs gs[j].2 T=M:=⟨_,rfl⟩;rw[hM]at HMJ
    have HMC:jfp (∀ U,Below (wr.alloc (.cells #[.slice (some ⟨R,0,none⟩) gs[j].1.length gs[j].1.length,.slice va vn vc] 109)).heap.size (wr.alloc (.cells #[.slice (some ⟨R,0,none⟩) gs[j].1.length gs[j].1.length,.slice va vn vc] 109)) U->Calls Tryz.prog 66 #[.agg #[.int .u8 (op:Int),.int .u32 (f:Int),.int .u8 (k0:Int),.int .i64 k1,.string k2,.slice ka ks.length kc],.agg #[.int .u32 (id:Int),.slice fa fs.length fc],.slice va vn vc] U
      fun e w'=>e=.returned (.agg #[.bool M.1,.bool M.2.1,.bool M.2.2])/\Below (wr.alloc (.cells #[.slice (some ⟨R,0,none⟩) gs[j].1.length gs[j].1.length,.slice va vn vc] 109)).heap.size (wr.alloc (.cells #[.slice (some ⟨R,0,none⟩) gs[j].1.length gs[j].1.length,.slice va vn vc] 109)) w'):=ae (fun U hU=>by
     have hbU:=fd.o.trans (hU.mono fd.o.size);obtain⟨_,_,hg⟩:=HGC.o U hbU;refine(HMY.o U _ gs[j].2 hbU hg.stats (cU.o j aB)).mono ?_;rintro e w' ⟨rfl,hb⟩;rw[hM];exact⟨rfl,ai hU hb⟩)
    clear hM hgro jcl hbA Ad yA q0 q1 ca cb HO;obtain⟨ca,cb,_⟩:=HGC.o wr HB.o;go_upto_region 8 with fail
    generalize hWA:wr.alloc (.cells #[.slice (some ⟨R,0,none⟩) gs[j].1.length gs[j].1.length,.slice va vn vc] 109)=WA at *;obtain⟨e0,e1⟩:=HQ.o WA (jdv _ _);have hix:∀ w,(Instr.index 123 (.agg #[.bool M.1,.bool M.2.1,.bool M.2.2]) (.int .u8 2)).run Tryz.prog w=.ok (.bool M.2.2) w:=ja1 _ _ _;go_cut [34] from 46 (fun v wx=>v=.bool M.2.2/\Below WA.heap.size WA wx)
    case first =>
     refine wp_region_noPanic ?_
     go_region_law (first
      | (go_simp;go_at_call 66;refine(HMC.o _ ?_).mono ?_;exact ap (jdv WA.heap.size WA) _;rintro e w5 ⟨rfl,bD⟩;have aR:=ae bD;clear bD;dsimp only)
      | fail)
     all_goals refine NoPanic.normal ?_
     all_goals go_wp2_with fail
     all_goals go_meet
     all_goals exact⟨rfl,aR.o⟩
    case rest =>
    obtain⟨rfl,An⟩:=hcut;obtain⟨w5,ZQ⟩:∃ w5,w5=wc:=⟨_,rfl⟩;subst ZQ;have aR:=ae An;have Qm:=ae (fd.o.trans (An.mono fd.o.size));have dE:=ae (nw.o.kept An);obtain⟨f0,f1⟩:=HQ.o w5 An;have uF:=An.size;clear An hix e0 e1 ca cb c0 c1 c2 d0 d1 d2 d3 d4 d5 HMC nw;obtain⟨m1,m2,m3⟩:=M;simp only at *;have FD:=Qm.o.size;cases m3 with
    | false =>
     have jcm:jfp (jJ fs T (gs.take (j+1))=jJ fs T (gs.take j)):=ae (by rw[HRJ.o,HMJ.o];simp);have YD:jfp (iM fs T (gs.take (j+1))=iM fs T (gs.take j)):=ae (by rw[HNJ.o,HMJ.o];simp);go_wp2_with fail;go_roundw
     case rel=>exact⟨j+1,l,by omega,by go_num,by rw[YD.o],dE.o,by rw[jcm.o,tw.o],Qm.o⟩
     case measure=>simp[intOf];omega
    | true =>
     have jcm:jfp (jJ fs T (gs.take (j+1))=jJ fs T (gs.take j)++mR fs T gs[j].1):=ae (by rw[HRJ.o,HMJ.o];simp);have YD:jfp (iM fs T (gs.take (j+1))=iM fs T (gs.take j)+1):=ae (by rw[HNJ.o,HMJ.o];simp);have hnl:iM fs T (gs.take j)<=100000:=by have h1:=HNJ2.o;have h2:=YD.o;omega
     obtain⟨cn,zY⟩:∃ cn,iM fs T (gs.take j)=cn:=⟨_,rfl⟩;have kP:=ae zY;rw[zY]at hnl ⊢;clear zY;obtain⟨_,_,ZI⟩:=HGC.o w5 Qm.o;have Ca:=ae (Cb.o w5 _ _ j aB Qm.o ZI);obtain⟨_,_,_,d0,d1,d2,d3,d4,d5⟩:=HT.o w5 Qm.o;have HHL2:=ae (HHL.o gs[j].1)
     have HGL:jfp (gs[j].1.length<=1000):=ae (by
      have h5:=mq aB;have h6:=fo gs (j+1);have h7:=Ql.o;rw[h5,jdy]at h6;omega)
     clear ZI;go_wp2_with fail;refine Ca.o.mono ?_;rintro e w6 ⟨⟨v6,l6,rfl,Cq,hsn6⟩,ey⟩;have mT:=ae (dE.o.kept ey);have ZH:=ae Cq;have HSN6:=ae hsn6;have ja:=ae (Qm.o.trans (ey.mono FD));have hz7:=ey.size;obtain⟨va6,vc6,rfl,_,_⟩:=bI Cq.1;clear ey Cq hsn6 Ca dE;go_wp2_with (first | (at_builtin;refine gL rfl _ _ rfl A.heap.size _ _ l l6 rfl mT.o rfl ZH.o.sv ?c1 ?c2 ?c3 ?_))
     case c1=>exact fun x hx=>(ZH.o.2 x hx).of_le FD
     case c2 =>
      have h1:=jdB List.length HSN6.o;have h2:=HHL2.o;have h3:=HGL.o;rw[jdz]at h1;omega
     case c3=>omega
     intro v' w7 o7 b7;have iD:=ae o7;have io:=ae (ja.o.trans b7);clear o7 b7;go_wp2_with fail;go_roundw
     case rel=>exact⟨j+1,_,by omega,by go_num,by rw[YD.o,kP.o];go_num,iD.o,by rw[jcm.o,jdQ,tw.o,HSN6.o],io.o⟩
     case measure=>simp[intOf];omega
   ·obtain rfl:j=gs.length:=by omega
    have gj:¬ ((gs.length:Nat):Int)<(gs.length:Int):=(by omega);have FG:w.heap.size<=A.heap.size:=by have:=HZ1.o;omega
    have FQ:jfp (l.map Prod.snd=RR):=ae (by rw[tw.o,HRA.o,XY.o]);have FR:jfp (iM fs T (gs.take gs.length)=N):=ae (by rw[Ma.o,Qx.o]);rw[FR.o];go_wp2_with fail;go_ret2
    first | exact⟨⟨_,_,rfl,HO.o.low FG,FQ.o⟩,ai nA.o HB.o⟩ | exact⟨⟨_,rfl,_,HO.o.low FG,FQ.o⟩,ai nA.o HB.o⟩
 ·have hkz:(k != 0)=true:=by simp[ql]
  rw[hkz];obtain⟨hNe,hRe⟩:=Kp.o ql;have XY:=ae hRe;have FG:w.heap.size<=A.heap.size:=by have:=HZ1.o;omega
  subst hNe;clear hRe;go_wp2_with fail;go_ret2
  first | exact⟨⟨_,[],rfl,Ow.nil _ _,XY.o.symm⟩,ai nA.o aQ.o⟩ | exact⟨⟨_,rfl,[],Ow.nil _ _,XY.o.symm⟩,ai nA.o aQ.o⟩
theorem fH.low'{W:World}{B B':Nat}{v:Value}{l:Row}(h:fH W B v l)(hB:B'<=B):fH W B' v l:=zO h hB
def Oc(W:World)(B:Nat)(v:Value)(l:List (Value×Row)):Prop:=W.ownsRow B 58 1 v l.length (l.map Prod.fst)/\∀ x∈l,fH W B x.1 x.2
theorem Oc.nil(W:World)(B:Nat):Oc W B (.slice none 0 0) []:=⟨jeo _ _ _ _,fun x hx=>by simp at hx⟩
theorem Oc.kept{W W':World}{B:Nat}{v:Value}{l:List (Value×Row)}(h:Oc W B v l)(hb:Below W.heap.size W W'):Oc W' B v l:=⟨bL h.1 hb,fun x hx=>(h.2 x hx).kept hb⟩
theorem Oc.form{W:World}{B:Nat}{v:Value}{l:List (Value×Row)}(h:Oc W B v l):∃ a cap,v=.slice a l.length cap/\l.length<=cap/\cap<=maxLen/\(a=none->cap=0):=by
 rcases h.1 with ⟨h0,⟨h1,h2⟩ | ⟨g,cap,cur,h1,h2,h3,h4,h5,_⟩⟩
 ·exact⟨none,0,by rw[h1,h2],by omega,by unfold maxLen;omega,fun _=>rfl⟩
 ·exact⟨_,cap,h1,h4,h5,fun e=>by cases e⟩
theorem Oc.at{W:World}{B:Nat}{a:Option Addr}{n cap:Nat}{l:List (Value×Row)}(h:Oc W B (.slice a n cap) l){k:Nat}(hk:k<l.length) :
  ∃ g,a=some ⟨g,0,none⟩/\g<W.heap.size/\W.cell? ⟨g,k,none⟩=some l[k].1/\fH W B l[k].1 l[k].2:=by
 rcases h with ⟨⟨h0,⟨h1,h2⟩ | ⟨g,cap',cur,h1,h2,h3,h4,h5,h6,h7⟩⟩,hr⟩
 ·omega
 ·simp only[Value.slice.injEq]at h1
  obtain⟨rfl,rfl,rfl⟩:=h1;refine⟨g,rfl,(Array.getElem?_eq_some_iff.1 h3).1,?_,(hr _ (jdA hk))⟩;have hj:(l.map Prod.fst)[k]?=some l[k].1:=by simp[hk]
  simp only[World.cell?,h3];rw[← h7]at hj;have aB:=(List.getElem?_eq_some_iff.1 hj).1;rw[jdC]at aB;rw[List.getElem?_take_of_lt (by omega)]at hj;simpa using hj
theorem Oc.sr{W:World}{B:Nat}{v:Value}{l:List (Value×Row)}(h:Oc W B v l):Sr W v (l.map Prod.snd):=by
 obtain⟨a,cap,rfl,h1,h2,h3⟩:=h.form;refine⟨a,cap,by rw[jdz],by rw[jdz];exact h1,h2,fun h0=>?_⟩;rw[jdz]at h0;obtain⟨g,e,h4,_⟩:=h.at h0;refine⟨g,0,e,h4,fun j hj=>?_⟩;rw[jdz]at hj;obtain⟨g',e',h5,h6,h7⟩:=h.at hj;obtain rfl:g=g':=by rw[e]at e';cases e';rfl
 refine⟨_,by rw[jdZ];exact h6,?_⟩;have:=h7.sc;simpa using this
theorem BK{w:World}(ty:TypeId)(base:Nat)(v vx:Value)(l0 l:List (Value×Row))(aA:Oc w base v l0)(fG:Sv w vx (l.map Prod.fst))(hr:∀ x∈l,fH w base x.1 x.2)(hbytes:l0.length+l.length<=1000000)(aJ:base<=w.heap.size) :
  ∃ v' w',(Builtin.append_ #[26,26] ty #[v,vx]).run Tryz.prog w=.ok v' w'/\Oc w' base v' (l0++l)/\Below base w w':=by
 obtain⟨i0,hi,ct,hz1',bv⟩:=jdP jaS;obtain⟨ad,cap,rfl,h1,h2,h3,h4⟩:=fG;rw[jdz]at *
 have one:∀ x∈l.map Prod.fst,x.oneCell'=true:=fun x hx=>by
  obtain⟨y,hy,rfl⟩:=jdR.1 hx;obtain⟨a,n,c,e⟩:=eP (hr y hy);rw[e];rfl
 cases ad with
 | none =>
  have hc:=h3 rfl;subst hc;have hl:l=[]:=jdV (by omega);subst hl;have hr:=je9 (P:=Tryz.prog) (w:=w) base 26 ty 58 i0 1 Tryz.underlying26 hi v l0.length (l0.map Prod.fst) aA.1;refine⟨v,w,hr,by rw[jdT];exact aA,jdv _ _⟩
 | some ad =>
  obtain⟨v',w',FH,o1,g1,_,e1⟩:=run_append_own_at (P:=Tryz.prog) w base 26 ty 58 i0 (.slice none 0 0) 1 24 Tryz.underlying26 hi ct hz1' bv rfl (by decide) v l0.length (l0.map Prod.fst) aA.1 ad l.length cap (l.map Prod.fst) (by rw[jdz];omega)
   (fun j u hu=>by
    have hj:j<l.length:=by
     have:=(List.getElem?_eq_some_iff.1 hu).1;rwa[jdz]at this
    obtain⟨b,off,h5,_,h6⟩:=h4 (by omega);cases h5
    rw[nh];exact h6 j u hu) one (by unfold maxLen;omega) (by omega) aJ
  have keep:∀ y:Value×Row,fH w base y.1 y.2->fH w' base y.1 y.2:=fun y hy =>
   cm hy fun k hk=>g1.block k (aN hy hk).2.1 (fun e=>fR hy aA.1 (by decide) hk e.symm)
  refine⟨v',w',FH,⟨?_,fun y hy=>?_⟩,(jdv base w).grown g1 aJ (fun k hk=>(aA.1.lt k hk).1)⟩
  ·rw[jdy,jdQ]
   exact o1
  ·rcases jd2.1 hy with hy | hy
   ·exact keep y (aA.2 y hy)
   ·exact keep y (hr y hy)
theorem Ff{w:World}{o:Oper}{a:Act}{K:Act->World->Prop}{Q:Exit->Act->World->Prop}(s x:Operand)
  (ho:o.op=.call { callee:=.builtin .append,args:=#[s,x],argTypes:=#[26,26] })
  (base:Nat) (v vx:Value) (l0 l:List (Value×Row)) (hs:a.eval s=v) (aA:Oc w base v l0) (hx:a.eval x=vx) (fG:Sv w vx (l.map Prod.fst)) (hr:∀ x∈l,fH w base x.1 x.2) (hbytes:l0.length+l.length<=1000000) (aJ:base<=w.heap.size)
  (h:∀ v' w',Oc w' base v' (l0++l)->Below base w w'->K (a.put o.dst v') w'):Oper.wp Tryz.prog o a w K Q:=by
 obtain⟨v',w',hr,h2,h3⟩:=BK o.type base v vx l0 l aA fG hr hbytes aJ;unfold Oper.wp execOp;simp only[ho,resolve,invoke,builtin,Sem.run_bind,Sem.run_pure,Result.andThen_ok,jeJ,jd5,jes,hs,hx,hr];exact h v' w' h2 h3
theorem yr{w:World}{ops:Array Oper}{o:Oper}{a:Act}{K:Act->World->Prop}{Q:Exit->Act->World->Prop}{E:Prop}(ex:o.guard=none)(s x:Operand)
  (ho:o.op=.call { callee:=.builtin .append,args:=#[s,x],argTypes:=#[26,26] })
  (base:Nat) (v vx:Value) (l0 l:List (Value×Row)) (hs:a.eval s=v) (aA:Oc w base v l0) (hx:a.eval x=vx) (fG:Sv w vx (l.map Prod.fst)) (hr:∀ x∈l,fH w base x.1 x.2) (hbytes:l0.length+l.length<=1000000) (aJ:base<=w.heap.size)
  (h:∀ v' w',Oc w' base v' (l0++l)->Below base w w'->K (a.put o.dst v') w') :
  if Region.wanted o (yielded ops a.tmps)=true then Oper.wp Tryz.prog o a w K Q else E:=by
 have hw:Region.wanted o (yielded ops a.tmps)=true:=by simp[Region.wanted,ex]
 rw[jdu hw];exact Ff s x ho base v vx l0 l hs aA hx fG hr hbytes aJ h
theorem XN{r:Row}(h:∀ c∈r,aT c):r.map bm=r:=by
 conv=>rhs;rw[← jev r]
 exact jeq fun c hc=>Mj (h c hc)
theorem Pp{w:World}{v:Value}{rs:List Row}(hs:Sr w v rs)(hf:∀ r∈rs,∀ c∈r,aT c)(hl:rs.length<=1000)(mU:∀ r∈rs,r.length<=600) :
  Calls Tryz.prog 13 #[v] w fun e w'=>(∃ v' l,e=.returned v'/\Ow w' w.heap.size v' l/\l.map Prod.snd=rs)/\Below w.heap.size w w':=by
 have HS:=ae hs;have HF:=ae hf;have HLL:=ae mU;obtain⟨a,cap,rfl,aW,bw⟩:=hs.form;have hcm':cap<=9223372036854775807:=by unfold maxLen at bw;omega
 clear hs bw hf mU;go_enter Tryz.func13,Tryz.ntmps13
 go_wp2_with fail;go_loopw [3,4] (fun o i wr=>∃(j:Nat) (l:List (Value×Row)),j<=rs.length/\i=.int .i64 (j:Int)/\Ow wr w.heap.size o l/\l.map Prod.snd=rs.take j/\Below w.heap.size w wr) (fun _ i _=>rs.length-(intOf i).toNat)
 case atStart=>exact⟨0,[],by omega,rfl,Ow.nil _ _,rfl,jdv _ _⟩
 case round =>
  obtain⟨j,l,hj,rfl,how,uW,az⟩:=hrel;have HO:=ae how;have HB:=ae az;have tw:=ae uW;have bF:=az.size;have mU:l.length=j:=by have:=jdB List.length uW;rw[jdz,jdC]at this;omega
  clear how az uW;by_cases aB:j<rs.length
  ·obtain⟨g,off,rv,rfl,hg,br,Cu⟩:=(HS.o.kept HB.o).at aB
   have hlt':(j:Int)<(rs.length:Int):=(by omega);have lE:jfp (rs.take (j+1)=rs.take j++[rs[j]]):=ae (jdM aB);have KG:=ae (QT Cu (fun c hc=>(HF.o _ (jdA aB) c hc).okc) (HLL.o _ (jdA aB)));rw[XN (HF.o _ (jdA aB))]at KG;generalize rs[j]=r at *;obtain⟨ra,rc,rfl,_,_⟩:=Cu.form;have HLJ:=ae mU;clear Cu mU;go_wp2_with fail;refine KG.o.mono ?_;rintro e w1 ⟨⟨rv',rfl,eH⟩,aH⟩;have eY:=ae eH;have HOW1:=ae (HO.o.kept aH);have aQ:=ae (HB.o.trans (aH.mono bF));have cP:=aH.size;obtain⟨ra',rc',rfl,_,_⟩:=bI eH;have kP:=ae (aK w1 (.slice ra' r.length rc') 79);clear aH eH;go_wp2_with (first | (at_builtin;refine gL rfl _ _ rfl w.heap.size _ _ l [(.slice ra' r.length rc',r)] rfl (HOW1.o.kept (am _ _)) rfl (uR kP.o (by rw[jdx];omega)) ?c1 ?c2 ?c3 ?_))
   case c1 =>
    intro x hx;rw[jef.1 hx];exact(eY.o.kept (am _ _)).of_le bF
   case c2=>have:=HLJ.o;simp only[jd6];omega
   case c3=>rw[jdx];omega
   intro v' w5 o5 b5;have dE:=ae o5;have aR:=ae ((aQ.o.alloc (jdF bF cP) _).trans b5);clear o5 b5;go_wp2_with fail;go_roundw
   case rel=>exact⟨j+1,_,by omega,by go_num,dE.o,by rw[lE.o,jdQ,tw.o];rfl,aR.o⟩
   case measure=>simp[intOf];omega
  ·obtain rfl:j=rs.length:=by omega
   rw[jdE]at tw;have gj:¬ ((rs.length:Nat):Int)<(rs.length:Int):=(by omega);go_wp2_with fail;go_ret
   first | exact⟨⟨_,_,rfl,HO.o,tw.o⟩,HB.o⟩ | exact⟨⟨_,rfl,_,HO.o,tw.o⟩,HB.o⟩
theorem aT.bsA{c:Cl}(h:aT c):Bs c.2.2:=h.okc.2.2
theorem Sc.take{W:World}{a:Option Addr}{n cap:Nat}{l:Row}(h:Sc W (.slice a n cap) l){k:Nat}(hk:k<=l.length):Sc W (.slice a k cap) (l.take k):=by
 obtain⟨a',cap',e,h1,h2,h4⟩:=h;simp only[Value.slice.injEq]at e;obtain⟨rfl,_,rfl⟩:=e;have hl:(l.take k).length=k:=by rw[jdC];omega
 refine⟨a,cap,by rw[hl],by omega,h2,fun h0=>?_⟩;obtain⟨b,off,h5,h6,h7⟩:=h4 (by omega);refine⟨b,off,h5,h6,fun j x hx=>h7 j x ?_⟩;have e:gx l=gx (l.take k)++gx (l.drop k):=by rw[← qA,jeP]
 have hj:=(List.getElem?_eq_some_iff.1 hx).1;rw[e,List.getElem?_append_left hj];exact hx
def Zd(l:List (Value×Row)):Prop:=l.length<=300/\∀ x∈l,x.2.length<=20/\∀ c∈x.2,aT c
theorem Fg{w:World}{v:Value}{rs:List Row}(hs:Sr w v rs)(ho:∀ r∈rs,∀ c∈r,Okc c) :
  Calls Tryz.prog 11 #[v] w fun e w'=>(∃ v' l,e=.returned v'/\Oc w' w.heap.size v' l/\Zd l)/\Below w.heap.size w w':=by
 have HS:=ae hs;have HO:=ae ho;obtain⟨a,cap,rfl,aW,bw⟩:=hs.form;have hcm':cap<=9223372036854775807:=by unfold maxLen at bw;omega
 clear hs bw ho;go_enter Tryz.func11,Tryz.ntmps11
 go_wp2_with fail;go_loopw [3,4] (fun o i wr=>∃(j:Nat) (l:List (Value×Row)),j<=rs.length/\j<=300/\i=.int .i64 (j:Int)/\Oc wr w.heap.size o l/\l.length=j/\Zd l/\Below w.heap.size w wr) (fun _ i _=>rs.length-(intOf i).toNat)
 case atStart=>exact⟨0,[],by omega,by omega,rfl,Oc.nil _ _,rfl,⟨by simp,fun x hx=>by simp at hx⟩,jdv _ _⟩
 case round =>
  obtain⟨j,l,hj,hj3,rfl,how,mU,hf10,az⟩:=hrel;have FO:=ae how;have HB:=ae az;have Gb:=ae hf10;have HLJ:=ae mU;have bF:=az.size;obtain⟨la,lc,rfl,UL,Aa,_⟩:=how.form;clear how az hf10 mU;by_cases aB:j<rs.length
  ·have hlt':(j:Int)<(rs.length:Int):=by omega
   by_cases h3:j<300
   ·have h3':(j:Int)<300:=by omega
    obtain⟨g,off,rv,rfl,hg,br,Cu⟩:=(HS.o.kept HB.o).at aB;have Vt:=ae (HO.o _ (jdA aB));generalize rs[j]=r at *;obtain⟨ra,rc,rfl,Vg,FI⟩:=Cu.form;have hrc2':rc<=9223372036854775807:=by unfold maxLen at FI;omega
    obtain⟨m,hm⟩:∃ m,min r.length 20=m:=⟨_,rfl⟩;have hml:m<=r.length:=(by omega);have hm20:m<=20:=(by omega);have Qi:min (r.length:Int) 20=(m:Int):=(by omega);have hm0:(0:Int)<=(m:Int):=(by omega);have hmc:(m:Int)<=(rc:Int):=(by omega);have Qy:((m:Nat):Int).toNat=m:=(by omega);have kJ:=Cu.take hml
    have QA:jfp (∀ U,Below wr.heap.size wr U->Calls Tryz.prog 38 #[.slice ra m rc] U fun e w'=>∃ ra' rc',e=.returned (.slice ra' m rc')/\fH w' wr.heap.size (.slice ra' m rc') ((r.take m).map bm)/\Below wr.heap.size wr w'/\Oc w' w.heap.size (.slice la l.length lc) l/\Below w.heap.size w w'/\∀ o,(w'.alloc o).heap.size=w'.heap.size+1):=ae (fun U hU=>by
     refine(Gt (kJ.kept hU) (by rw[jdC];omega)).mono ?_;rintro e w' ⟨⟨v',rfl,ho'⟩,hb'⟩;have aE:=ai hU hb';have bR:((r.take m).map bm).length=m:=by rw[jdz,jdC];omega
     obtain⟨ra',rc',rfl,_,_⟩:=bI ho';rw[bR];have eZ:=fH.low' ho' hU.size;rw[bR]at eZ;exact⟨ra',rc',rfl,eZ,aE,FO.o.kept aE,HB.o.trans (aE.mono bF),fun o=>jdx _ _⟩)
    have ng:jfp (((r.take m).map bm).length<=20/\∀ c∈(r.take m).map bm,aT c):=ae ⟨by rw[jdz,jdC];omega,fun c hc=>by
     obtain⟨x,hx,rfl⟩:=jdR.1 hc;exact fV (Vt.o x (jek hx))⟩
    generalize (r.take m).map bm=r2 at *;clear Cu kJ hm;go_upto_region 5 with fail
    refine wp_region_noPanic ?_
    go_region_law (first
     | (refine yr (by rfl) _ _ (by rfl) w.heap.size _ _ l [(.slice ra' m rc',r2)] (by rfl) ?_ (by rfl) ?_ ?_ ?_ ?_ ?_;exact dE.o.kept (am _ _);exact uR (aK _ _ _) (by rw[jdx];omega);(intro x hx;rw[jef.1 hx];exact(tv.o.kept (am _ _)).low' bF);(have:=HLJ.o;simp only[jd6];omega);(rw[jdx];have:=aR.o.size;omega);intro v6 w6 o6 b6;have mT:=ae o6;have ja:=ae ((aR.o.alloc aR.o.size _).trans b6);clear o6 b6;dsimp only)
     | (go_simp;go_at_call 38;refine(QA.o _ ?_).mono ?_;exact ap (jdv wr.heap.size wr) _;rintro e w5 ⟨ra',rc',rfl,fZ,bD,hl5,ZQ,uF⟩;have tv:=ae fZ;have aR:=ae ZQ;have dE:=ae hl5;clear fZ bD hl5 ZQ;dsimp only)
     | fail)
    all_goals refine NoPanic.normal ?_
    all_goals go_wp2_with fail
    all_goals go_roundw
    all_goals first
     | (simp[intOf];omega)
     | refine⟨j+1,_,by omega,by omega,by go_num,mT.o,by rw[jdy,HLJ.o];rfl,⟨by rw[jdy,HLJ.o];simp only[jd6];omega,fun x hx=>?_⟩,ja.o⟩
    all_goals rcases jd2.1 hx with hx | hx
    all_goals first
     | exact Gb.o.2 x hx
     | (rw[jef.1 hx];exact ng.o)
   ·have h3':¬ (j:Int)<300:=by omega
    go_wp2_with fail;go_ret
    first | exact⟨⟨_,_,rfl,FO.o,Gb.o⟩,HB.o⟩ | exact⟨⟨_,rfl,_,FO.o,Gb.o⟩,HB.o⟩
  ·have gj:¬ (j:Int)<(rs.length:Int):=by omega
   go_wp2_with fail;go_ret
   first | exact⟨⟨_,_,rfl,FO.o,Gb.o⟩,HB.o⟩ | exact⟨⟨_,rfl,_,FO.o,Gb.o⟩,HB.o⟩
theorem Uj(w:World)(l:Row)(hl:l.length<=256):OwnV (w.alloc (.cells (aI l).toArray 78)) w.heap.size (.slice (some ⟨w.heap.size,0,none⟩) l.length l.length) l :=
 jeG (e:=78) (size:=1) w (aI l).toArray l.length (base:=w.heap.size) (jdw _) (by unfold maxLen;omega) (by simp[aI])
theorem ja2(w:World)(l:Row)(hl:l.length<=256):fH (w.alloc (.cells (gx l).toArray 52)) w.heap.size (.slice (some ⟨w.heap.size,0,none⟩) l.length l.length) l :=
 jeG (e:=52) (size:=3) w (gx l).toArray l.length (base:=w.heap.size) (jdw _) (by unfold maxLen;omega) (by simp[mx])
theorem Uk(W:World):let W3:=W.alloc (.cells #[.iface 2 (.int .i64 1),.iface 9 (.string ⟨#[97]⟩)] 78);let W4:=W3.alloc (.cells #[.iface 2 (.int .i64 2),.nilIface] 78)
  Rv (W4.alloc (.cells #[.slice (some ⟨W.heap.size,0,none⟩) 2 2,.slice (some ⟨W.heap.size+1,0,none⟩) 2 2] 79)) (.slice (some ⟨W.heap.size+1+1,0,none⟩) 2 2) rA/\Below W.heap.size W (W4.alloc (.cells #[.slice (some ⟨W.heap.size,0,none⟩) 2 2,.slice (some ⟨W.heap.size+1,0,none⟩) 2 2] 79)):=by
 intro W3 W4;have h3:OwnV W3 W.heap.size (.slice (some ⟨W.heap.size,0,none⟩) 2 2) rA1:=Uj W rA1 (by decide);have h4:OwnV W4 W3.heap.size (.slice (some ⟨W3.heap.size,0,none⟩) 2 2) rA2:=Uj W3 rA2 (by decide);have z3:W3.heap.size=W.heap.size+1:=jdx _ _;have z4:W4.heap.size=W.heap.size+1+1:=by show (W3.alloc _).heap.size=_;rw[jdx,z3]
 rw[z3]at h4;have b3:Below W3.heap.size W3 W4:=am _ _;have b4:=am W4 (.cells #[.slice (some ⟨W.heap.size,0,none⟩) 2 2,.slice (some ⟨W.heap.size+1,0,none⟩) 2 2] 79);obtain⟨c0,c1⟩:=bx W4 (.slice (some ⟨W.heap.size,0,none⟩) 2 2) (.slice (some ⟨W.heap.size+1,0,none⟩) 2 2) 79;have z5:(W4.alloc (.cells #[.slice (some ⟨W.heap.size,0,none⟩) 2 2,.slice (some ⟨W.heap.size+1,0,none⟩) 2 2] 79)).heap.size=W.heap.size+3:=by rw[jdx,z4]
 refine⟨⟨_,2,rfl,jdw _,by unfold maxLen;omega,fun e=>(by cases e),fun _=>⟨W.heap.size+1+1,0,rfl,by omega,fun j hj=>?_⟩⟩,?_⟩
 ·rw[z4]at c0 c1
  have LN:j<2:=hj;obtain rfl | rfl:j=0∨j=1:=by omega
  ·exact⟨_,c0,((h3.kept b3).kept b4).sv⟩
  ·exact⟨_,c1,(h4.kept b4).sv⟩
 ·exact(((jdv _ _).alloc (jdw _) _).alloc (by rw[z3];omega) _).alloc (by rw[z4];omega) _
theorem rL(W:World):sO W (.slice none 0 0) []:=⟨none,0,rfl,jdw _,by unfold maxLen;omega,fun h=>by simp at h⟩
theorem LA{fs:List Fd}{p:List Row}(h:jQ fs p):∀ s∈(grp fs p).2,Oks s:=fun s hs=>by
 obtain⟨i,_,rfl⟩:=jdR.1 hs;have:=kD (mj h i);exact⟨this.1.okc,this.2.okc⟩
def gsA:List Gr:=[grp fE [rA1],grp fE [rA2]]
theorem XO:cp gsA=rA:=rfl
theorem oksA:∀ g∈gsA,∀ s∈g.2,Oks s:=fun g hg=>by
 have ik:g=grp fE [rA1]∨g=grp fE [rA2]:=by simpa [gsA]using hg
 rcases ik with rfl | rfl
 ·exact LA fun r hr=>pw r (by rw[jef.1 hr];simp[rA])
 ·exact LA fun r hr=>pw r (by rw[jef.1 hr];simp[rA])
theorem Ze:gsA.filter (yq fE pA)=[grp fE [rA2]]:=by
 have h1:yq fE pA (grp fE [rA1])=false:=mayA1;have h2:yq fE pA (grp fE [rA2])=true:=mayA2;unfold gsA;simp[jfj,h1,h2]
theorem ja3:iM fE pA gsA=1:=by unfold iM;rw[Ze];rfl
theorem ja4:jJ fE pA gsA=[rA2]:=by
 unfold jJ;rw[Ze]
 have h:mR fE pA [rA2]=[rA2]:=by
  unfold mR Ui;rw[jfj,ja0];rfl
 show [grp fE [rA2]].flatMap _=_
 simp only[jeQ,List.flatMap_nil,jdT];exact h
theorem ja5:Okp pA:=⟨by omega,by omega,⟨by decide,⟨by decide,by decide⟩,fun x hx=>by simp at hx⟩,trivial⟩
theorem lenpA:Len pA:=⟨by decide,trivial⟩
end Go.Proofs.YtpljdjmpamjkhaaGreatDoor
