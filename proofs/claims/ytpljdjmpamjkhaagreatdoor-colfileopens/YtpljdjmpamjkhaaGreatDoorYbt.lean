import Derived.Test.YtpljdjmpamjkhaaGreatDoorYbs
import Derived.Test.YtpljdjmpamjkhaaGreatDoorYbm
import Derived.Test.YtpljdjmpamjkhaaGreatDoorYbj
import Derived.Test.YtpljdjmpamjkhaaGreatDoorYbq
import Derived.Test.YtpljdjmpamjkhaaGreatDoorYap
import Derived.Test.YtpljdjmpamjkhaaGreatDoorYao
set_option linter.unusedVariables false
set_option linter.unusedSimpArgs false
set_option maxRecDepth 100000
set_option maxHeartbeats 4000000
namespace Go.Proofs.YtpljdjmpamjkhaaGreatDoor
open Go.RowKit Go.Lib
theorem Gro.stats{W:World}{B:Nat}{a b:Value}{rows:List Row}{sts:List Stt}(h:Gro W B (.agg #[a,b]) rows sts):Ss W b sts:=by
 obtain⟨R,rvs,vs,e,_,_,h3⟩:=h;simp only[Value.agg.injEq,Array.mk.injEq,List.cons.injEq,and_true]at e;obtain⟨_,rfl⟩:=e;exact Xo.ss (B:=B) h3
theorem Xv(a b c:Bool)(w:World):(Instr.index 123 (.agg #[.bool a,.bool b,.bool c]) (.int .u8 2)).run Tryz.prog w=.ok (.bool c) w:=by
 cases a<;>cases b<;>cases c<;>kernel_rfl
def xX(fs:List Fd)(t:PT)(g:Gr):Bool:=W6 (oG fs g.2 t) 2
def jD(fs:List Fd)(t:PT)(gs:List Gr):List Row:=(gs.filter (xX fs t)).flatMap fun g=>mD fs t g.1
def iJ(fs:List Fd)(t:PT)(gs:List Gr):Nat:=(gs.filter (xX fs t)).length
theorem GY{fs:List Fd}{t:PT}{gs:List Gr}{k:Nat}(h:k<gs.length):jD fs t (gs.take (k+1))=jD fs t (gs.take k)++(if xX fs t gs[k]=true then mD fs t gs[k].1 else []):=by
 unfold jD;rw[Z5 h,jbi,jaV];cases hm:xX fs t gs[k]<;>simp[jbt,hm]
theorem GZ{fs:List Fd}{t:PT}{gs:List Gr}{k:Nat}(h:k<gs.length):iJ fs t (gs.take (k+1))=iJ fs t (gs.take k)+(if xX fs t gs[k]=true then 1 else 0):=by
 unfold iJ;rw[Z5 h,jbi,ZT];cases hm:xX fs t gs[k]<;>simp[jbt,hm]
theorem zB(fs:List Fd)(t:PT):∀ gs:List Gr,(jD fs t gs).length<=(bP gs).length
 | []=>ZR _
 | g::gs=>by
  have h:=zB fs t gs;have h2:=wY fs t g.1;unfold jD bP at *;rw[jbt];split
  ·simp only[ja2,ZT,jal,ja3]
   omega
  ·simp only[jal,ja3,ZT]
   omega
theorem LZ(fs:List Fd)(t:PT)(gs:List Gr):iJ fs t gs<=gs.length:=jbf _ _
theorem G0{w:World}{B fp id op f:Nat}{fv kv:Value}{fs:List Fd}{gs:List Gr}{c:Cl}{ks:List PT}(h:Fil w B fp id fv gs)(xB:Sf w fv fs)
  (hk:sk w kv ks) (EJ:∀ U rv r,Below w.heap.size w U->Sv U rv (aI r)->(∀ x∈r,aU x)->Calls Tryz.prog 113 #[.agg #[.int .u8 (op:Int),.int .u32 (f:Int),.int .u8 (c.1:Int),.int .i64 c.2.1,.string (am c.2.2),kv],.agg #[.int .u32 (id:Int),fv],rv] U fun e w'=>e=.returned (.int .u8 (jk fs r (.node op f c ks):Int))/\Below U.heap.size U w')
  (hmay:∀ U rv sts,Below w.heap.size w U->Ss U rv sts->(∀ s∈sts,Oks s)->Calls Tryz.prog 66 #[.agg #[.int .u8 (op:Int),.int .u32 (f:Int),.int .u8 (c.1:Int),.int .i64 c.2.1,.string (am c.2.2),kv],.agg #[.int .u32 (id:Int),fv],rv] U fun e w'=>e=.returned (b3V (oG fs sts (.node op f c ks)))/\Below U.heap.size U w') (hr:∀ r∈bP gs,r.length<=1000/\∀ x∈r,aU x) (BE:(bP gs).length<=1000) (UZ:gs.length<=100000) (iK:∀ g∈gs,∀ s∈g.2,Oks s) (k:Int) (N:Nat) (RR:List Row) (hN0:k=0->N=iJ fs (.node op f c ks) gs/\RR=jD fs (.node op f c ks) gs) (hN1:k≠0->N=0/\RR=[])
  (ML:∀ U,Below w.heap.size w U->Calls Tryz.prog 65 #[.agg #[.int .u8 (op:Int),.int .u32 (f:Int),.int .u8 (c.1:Int),.int .i64 c.2.1,.string (am c.2.2),kv],.agg #[.int .u32 (id:Int),fv]] U fun e w'=>e=.returned (.int .i64 k)/\Below U.heap.size U w') :
  Calls Tryz.prog 28 #[.pointer (some ⟨fp,0,none⟩),.agg #[.int .u8 (op:Int),.int .u32 (f:Int),.int .u8 (c.1:Int),.int .i64 c.2.1,.string (am c.2.2),kv]] w
   fun e w'=>(∃ v l,e=.returned (.tuple #[v,.int .i64 (N:Int)])/\Ow w' w.heap.size v l/\l.map Prod.snd=RR)/\Below w.heap.size w w':=by
 obtain⟨gv,xs,h1,h2,h3,h4⟩:=h;obtain⟨ga,gc,rfl,hgc,hgm⟩:=bF h3;obtain⟨fa,fc,rfl,_,_⟩:=xB.form;obtain⟨ka,kc,rfl,_,_⟩:=hk.form;have EH:=(Array.getElem?_eq_some_iff.1 h1).1;have aG:=ak w (.cells #[.int .u8 (op:Int),.int .u32 (f:Int),.int .u8 (c.1:Int),.int .i64 c.2.1,.string (am c.2.2),.slice ka ks.length kc] 63);obtain⟨p0,p1,p2,p3,p4,p5⟩:=sp w (.int .u8 (op:Int)) (.int .u32 (f:Int)) (.int .u8 (c.1:Int)) (.int .i64 c.2.1) (.string (am c.2.2)) (.slice ka ks.length kc) 63;have cW:(w.alloc (.cells #[.int .u8 (op:Int),.int .u32 (f:Int),.int .u8 (c.1:Int),.int .i64 c.2.1,.string (am c.2.2),.slice ka ks.length kc] 63)).heap.size=w.heap.size+1:=ZS _ _;generalize hA:w.alloc (.cells #[.int .u8 (op:Int),.int .u32 (f:Int),.int .u8 (c.1:Int),.int .i64 c.2.1,.string (am c.2.2),.slice ka ks.length kc] 63)=A at *
 have HT:Hid (∀ U,Below A.heap.size A U->U.cell? ⟨fp,0,none⟩=some (.int .u32 (id:Int))/\U.cell? ⟨fp,1,none⟩=some (.slice fa fs.length fc)/\U.cell? ⟨fp,2,none⟩=some (.slice ga gs.length gc) /\
   U.cell? ⟨w.heap.size,0,none⟩=some (.int .u8 (op:Int))/\U.cell? ⟨w.heap.size,1,none⟩=some (.int .u32 (f:Int))/\U.cell? ⟨w.heap.size,2,none⟩=some (.int .u8 (c.1:Int))/\U.cell? ⟨w.heap.size,3,none⟩=some (.int .i64 c.2.1)/\U.cell? ⟨w.heap.size,4,none⟩=some (.string (am c.2.2))/\U.cell? ⟨w.heap.size,5,none⟩=some (.slice ka ks.length kc)):=ae (fun U hU=>by
  have hfU:=(hU.block fp (by omega)).trans ((aG.block fp EH).trans h1);refine⟨by rw[ax hfU];rfl,by rw[ax hfU];rfl,by rw[ax hfU];rfl,?_,?_,?_,?_,?_,?_⟩
  ·exact(hU.cell (p:=⟨w.heap.size,0,none⟩) (by show w.heap.size<_;omega)).trans p0
  ·exact(hU.cell (p:=⟨w.heap.size,1,none⟩) (by show w.heap.size<_;omega)).trans p1
  ·exact(hU.cell (p:=⟨w.heap.size,2,none⟩) (by show w.heap.size<_;omega)).trans p2
  ·exact(hU.cell (p:=⟨w.heap.size,3,none⟩) (by show w.heap.size<_;omega)).trans p3
  ·exact(hU.cell (p:=⟨w.heap.size,4,none⟩) (by show w.heap.size<_;omega)).trans p4
  ·exact(hU.cell (p:=⟨w.heap.size,5,none⟩) (by show w.heap.size<_;omega)).trans p5)
 have HG:Hid (∀ j (hj:j<gs.length),∃ G R va vn vc,ga=some ⟨G,0,none⟩/\∀ U,Below A.heap.size A U->U.cell? ⟨G,j*2,none⟩=some (.slice (some ⟨R,0,none⟩) gs[j].1.length gs[j].1.length)/\U.cell? ⟨G,j*2+1,none⟩=some (.slice va vn vc)/\Gro U B (.agg #[.slice (some ⟨R,0,none⟩) gs[j].1.length gs[j].1.length,.slice va vn vc]) gs[j].1 gs[j].2):=ae (fun j hj=>by
  obtain⟨a,b,e1,e2,e3⟩:=h4 j hj;obtain⟨R,rfl,g1,g2,⟨va,vn,vc,rfl⟩,g4⟩:=e3.rows;obtain⟨G,rfl,_,hG,lp⟩:=gX h3 e1;obtain⟨_,e,_,_,kx⟩:=gX h3 e2;cases e
  refine⟨G,R,va,vn,vc,rfl,fun U hU=>?_⟩;have hb:=aG.trans (hU.mono aG.size);exact⟨(hb.cell (p:=⟨G,j*2,none⟩) hG).trans (by rw[jak];exact lp),(hb.cell (p:=⟨G,j*2+1,none⟩) hG).trans (by rw[jak j];exact kx),e3.turn fun q _ _ _ k2 _ _ _=>hb.block q k2⟩)
 have mT:Hid (∀ U,Below A.heap.size A U->Calls Tryz.prog 65 #[.agg #[.int .u8 (op:Int),.int .u32 (f:Int),.int .u8 (c.1:Int),.int .i64 c.2.1,.string (am c.2.2),.slice ka ks.length kc],.agg #[.int .u32 (id:Int),.slice fa fs.length fc]] U fun e w'=>e=.returned (.int .i64 k)/\Below A.heap.size A w'):=ae (fun U hU=>by
  refine(ML U (aG.trans (hU.mono aG.size))).mono ?_;rintro e w' ⟨rfl,hb⟩;exact⟨rfl,ai hU hb⟩)
 have HMY:Hid (∀ U rv sts,Below A.heap.size A U->Ss U rv sts->(∀ s∈sts,Oks s)->Calls Tryz.prog 66 #[.agg #[.int .u8 (op:Int),.int .u32 (f:Int),.int .u8 (c.1:Int),.int .i64 c.2.1,.string (am c.2.2),.slice ka ks.length kc],.agg #[.int .u32 (id:Int),.slice fa fs.length fc],rv] U
   fun e w'=>e=.returned (b3V (oG fs sts (.node op f c ks)))/\Below U.heap.size U w'):=ae (fun U rv sts hU hs hos=>by
  have hb:=aG.trans (hU.mono aG.size);exact hmay U rv sts hb hs hos)
 have Mv:Hid (∀ U a b j (hj:j<gs.length),Below A.heap.size A U->Gro U B (.agg #[a,b]) gs[j].1 gs[j].2->Calls Tryz.prog 67 #[.pointer (some ⟨fp,0,none⟩),.agg #[a,b],.agg #[.int .u8 (op:Int),.int .u32 (f:Int),.int .u8 (c.1:Int),.int .i64 c.2.1,.string (am c.2.2),.slice ka ks.length kc]] U
   fun e w'=>(∃ v l,e=.returned v/\Ow w' U.heap.size v l/\l.map Prod.snd=mD fs (.node op f c ks) gs[j].1)/\Below U.heap.size U w'):=ae (fun U a b j hj hU hg=>by
  have hb:=aG.trans (hU.mono aG.size);have h5:=lZ hj;have h6:=eZ gs (j+1);rw[h5,ZT]at h6;exact Be ((hb.block fp EH).trans h1) (xB.kept hb) hg (hk.kept hb) (fun U2 rv2 r2 hU2=>EJ U2 rv2 r2 (hb.trans (hU2.mono hb.size))) (fun r hh=>hr r (D5 hj hh)) (by omega))
 have ZK:=ae hN0;have Hn:=ae hN1;have cP:=ae (fun j (hj:j<gs.length)=>iK _ (ZV hj));have m9:=ae aG;have rL:=ae (fun j (hj:j<gs.length)=>GY (fs:=fs) (t:=.node op f c ks) hj);have HNT:=ae (fun j (hj:j<gs.length)=>GZ (fs:=fs) (t:=.node op f c ks) hj);have HMG:Hid (∀ g:Gr,xX fs (.node op f c ks) g=(oG fs g.2 (.node op f c ks)).2.2):=ae (fun g=>rfl);have UD:=ae (fun j=>ZZ (zB fs (.node op f c ks) (gs.take j)) (eZ gs j));have Zq:=ae (fun j=>ZZ (LZ fs (.node op f c ks) (gs.take j)) (show (gs.take j).length<=gs.length by rw[ZX];omega));have Zo:Hid (jD fs (.node op f c ks) (gs.take gs.length)=jD fs (.node op f c ks) gs):=ae (by rw[ZY]);have Kd:Hid (iJ fs (.node op f c ks) (gs.take gs.length)=iJ fs (.node op f c ks) gs):=ae (by rw[ZY]);have UT:Hid (jD fs (.node op f c ks) (gs.take 0)=[]):=ae rfl;have HNZ:Hid (iJ fs (.node op f c ks) (gs.take 0)=0):=ae rfl;have HHL:=ae (fun rows=>wY fs (.node op f c ks) rows);generalize (PT.node op f c ks)=T at *;have MM:=ae BE;clear h1 h2 h3 h4 xB hk EJ hmay hr BE iK ML aG hN0 hN1 p0 p1 p2 p3 p4 p5;obtain⟨c0,c1,c2,d0,d1,d2,d3,d4,d5⟩:=HT.out A (ZQ _ _);have ZD:=ae cW;clear cW;generalize c.1=k0 at *;generalize c.2.1=k1 at *;generalize am c.2.2=k2 at *;go_enter Tryz.func28,Tryz.ntmps28
 go_upto_region 1 with fail
 try rw[hA]
 clear hA;go_cut [16] from 46 (fun v wx=>v=.bool (k != 0)/\Below A.heap.size A wx)
 case first =>
  refine wp_region_noPanic ?_
  go_region_law (first
   | (go_simp;go_at_call 65;refine(mT.out _ ?_).mono ?_;exact below_drewN (ZQ A.heap.size A) _;rintro e w1 ⟨rfl,aG⟩;have aQ:=ae aG;clear aG;dsimp only)
   | fail)
  all_goals refine NoPanic.normal ?_
  all_goals go_wp2_with fail
  all_goals go_meet
  all_goals exact⟨rfl,aQ.out⟩
 case rest =>
 obtain⟨rfl,EK⟩:=hcut;obtain⟨w1,Zh⟩:∃ w1,w1=wc:=⟨_,rfl⟩;subst Zh;have aQ:=ae EK;clear EK;clear c0 c1 c2 d0 d1 d2 d3 d4 d5 mT;by_cases pY:k=0
 ·have hkz:(k != 0)=false:=by simp[pY]
  rw[hkz];obtain⟨hNe,hRe⟩:=ZK.out pY;have MY:=ae hNe;have UA:=ae hRe;clear hNe hRe ZK Hn;obtain⟨c0,c1,c2,_⟩:=HT.out w1 aQ.out;go_wp2_with fail;go_loopw [6,7,22] (fun o n i wr=>∃(j:Nat) (l:List (Value×Row)),j<=gs.length/\i=.int .i64 (j:Int)/\n=.int .i64 ((iJ fs T (gs.take j):Nat):Int)/\Ow wr A.heap.size o l/\l.map Prod.snd=jD fs T (gs.take j)/\Below A.heap.size A wr) (fun _ _ i _=>gs.length-(intOf i).toNat)
  case atStart=>exact⟨0,[],by omega,rfl,by rw[HNZ.out];rfl,Ow.nil _ _,UT.out.symm,aQ.out⟩
  case round =>
   obtain⟨j,l,hj,rfl,rfl,how,uJ,ay⟩:=hrel;have HO:=ae how;have HB:=ae ay;have sY:=ae uJ;have bO:=ay.size
   have zQ:l.length<=1000:=by
    have h1:=congrArg List.length uJ;have h2:=UD.out j;have h3:=MM.out;rw[ZU]at h1;omega
   obtain⟨la,lc,rfl,VM,Bo,_⟩:=how.form;clear how ay uJ c0 c1 c2;by_cases aB:j<gs.length
   ·have hlt':(j:Int)<(gs.length:Int):=by omega
    obtain⟨G,R,va,vn,vc,rfl,YG⟩:=HG.out j aB;obtain⟨ca,cb,hgro⟩:=YG wr HB.out;have hbA:=HB.out.alloc bO (.cells #[.slice (some ⟨R,0,none⟩) gs[j].1.length gs[j].1.length,.slice va vn vc] 109);have zI:=ak wr (.cells #[.slice (some ⟨R,0,none⟩) gs[j].1.length gs[j].1.length,.slice va vn vc] 109);obtain⟨q0,q1⟩:=bE wr (.slice (some ⟨R,0,none⟩) gs[j].1.length gs[j].1.length) (.slice va vn vc) 109;have yg:(wr.alloc (.cells #[.slice (some ⟨R,0,none⟩) gs[j].1.length gs[j].1.length,.slice va vn vc] 109)).heap.size=wr.heap.size+1:=ZS _ _;have HZQ:=ae yg;have m6:=ae (HO.out.kept zI);have eW:=ae hbA;have HGC:=ae YG;have HRJ:=ae (rL.out j aB);have HNJ:=ae (HNT.out j aB);have HMJ:=ae (HMG.out gs[j]);have HNJ2:=ae (Zq.out (j+1))
    have HQ:Hid (∀ U,Below (wr.alloc (.cells #[.slice (some ⟨R,0,none⟩) gs[j].1.length gs[j].1.length,.slice va vn vc] 109)).heap.size (wr.alloc (.cells #[.slice (some ⟨R,0,none⟩) gs[j].1.length gs[j].1.length,.slice va vn vc] 109)) U->U.cell? ⟨wr.heap.size,0,none⟩=some (.slice (some ⟨R,0,none⟩) gs[j].1.length gs[j].1.length)/\U.cell? ⟨wr.heap.size,1,none⟩=some (.slice va vn vc)):=ae (fun U hU =>
     ⟨(hU.cell (p:=⟨wr.heap.size,0,none⟩) (by show wr.heap.size<_;omega)).trans q0,(hU.cell (p:=⟨wr.heap.size,1,none⟩) (by show wr.heap.size<_;omega)).trans q1⟩)
    obtain⟨c0,c1,c2,d0,d1,d2,d3,d4,d5⟩:=HT.out _ eW.out;obtain⟨M,hM⟩:∃ M,oG fs gs[j].2 T=M:=⟨_,rfl⟩;rw[hM]at HMJ
    have HMC:Hid (∀ U,Below (wr.alloc (.cells #[.slice (some ⟨R,0,none⟩) gs[j].1.length gs[j].1.length,.slice va vn vc] 109)).heap.size (wr.alloc (.cells #[.slice (some ⟨R,0,none⟩) gs[j].1.length gs[j].1.length,.slice va vn vc] 109)) U->Calls Tryz.prog 66 #[.agg #[.int .u8 (op:Int),.int .u32 (f:Int),.int .u8 (k0:Int),.int .i64 k1,.string k2,.slice ka ks.length kc],.agg #[.int .u32 (id:Int),.slice fa fs.length fc],.slice va vn vc] U
      fun e w'=>e=.returned (.agg #[.bool M.1,.bool M.2.1,.bool M.2.2])/\Below (wr.alloc (.cells #[.slice (some ⟨R,0,none⟩) gs[j].1.length gs[j].1.length,.slice va vn vc] 109)).heap.size (wr.alloc (.cells #[.slice (some ⟨R,0,none⟩) gs[j].1.length gs[j].1.length,.slice va vn vc] 109)) w'):=ae (fun U hU=>by
     have hbU:=eW.out.trans (hU.mono eW.out.size);obtain⟨_,_,hg⟩:=HGC.out U hbU;refine(HMY.out U _ gs[j].2 hbU hg.stats (cP.out j aB)).mono ?_;rintro e w' ⟨rfl,hb⟩;rw[hM];exact⟨rfl,ai hU hb⟩)
    clear hM hgro YG hbA zI yg q0 q1 ca cb HO;obtain⟨ca,cb,_⟩:=HGC.out wr HB.out;go_upto_region 8 with fail
    generalize hWA:wr.alloc (.cells #[.slice (some ⟨R,0,none⟩) gs[j].1.length gs[j].1.length,.slice va vn vc] 109)=WA at *;obtain⟨e0,e1⟩:=HQ.out WA (ZQ _ _);have hix:∀ w,(Instr.index 123 (.agg #[.bool M.1,.bool M.2.1,.bool M.2.2]) (.int .u8 2)).run Tryz.prog w=.ok (.bool M.2.2) w:=Xv _ _ _;go_cut [34] from 46 (fun v wx=>v=.bool M.2.2/\Below WA.heap.size WA wx)
    case first =>
     refine wp_region_noPanic ?_
     go_region_law (first
      | (go_simp;go_at_call 66;refine(HMC.out _ ?_).mono ?_;exact below_drewN (ZQ WA.heap.size WA) _;rintro e w5 ⟨rfl,bq⟩;have aR:=ae bq;clear bq;dsimp only)
      | fail)
     all_goals refine NoPanic.normal ?_
     all_goals go_wp2_with fail
     all_goals go_meet
     all_goals exact⟨rfl,aR.out⟩
    case rest =>
    obtain⟨rfl,EK⟩:=hcut;obtain⟨w5,hw5⟩:∃ w5,w5=wc:=⟨_,rfl⟩;subst hw5;have aR:=ae EK;have MN:=ae (eW.out.trans (EK.mono eW.out.size));have dH:=ae (m6.out.kept EK);obtain⟨f0,f1⟩:=HQ.out w5 EK;have uG:=EK.size;clear EK hix e0 e1 ca cb c0 c1 c2 d0 d1 d2 d3 d4 d5 HMC m6;obtain⟨m1,m2,m3⟩:=M;simp only at *;have Ew:=MN.out.size;cases m3 with
    | false =>
     have YH:Hid (jD fs T (gs.take (j+1))=jD fs T (gs.take j)):=ae (by rw[HRJ.out,HMJ.out];simp);have U6:Hid (iJ fs T (gs.take (j+1))=iJ fs T (gs.take j)):=ae (by rw[HNJ.out,HMJ.out];simp);go_wp2_with fail;go_roundw
     case rel=>exact⟨j+1,l,by omega,by go_num,by rw[U6.out],dH.out,by rw[YH.out,sY.out],MN.out⟩
     case measure=>simp[intOf];omega
    | true =>
     have YH:Hid (jD fs T (gs.take (j+1))=jD fs T (gs.take j)++mD fs T gs[j].1):=ae (by rw[HRJ.out,HMJ.out];simp);have U6:Hid (iJ fs T (gs.take (j+1))=iJ fs T (gs.take j)+1):=ae (by rw[HNJ.out,HMJ.out];simp);have hnl:iJ fs T (gs.take j)<=100000:=by have h1:=HNJ2.out;have h2:=U6.out;omega
     obtain⟨cn,EA⟩:∃ cn,iJ fs T (gs.take j)=cn:=⟨_,rfl⟩;have mP:=ae EA;rw[EA]at hnl ⊢;clear EA;obtain⟨_,_,Wa⟩:=HGC.out w5 MN.out;have Bx:=ae (Mv.out w5 _ _ j aB MN.out Wa);obtain⟨_,_,_,d0,d1,d2,d3,d4,d5⟩:=HT.out w5 MN.out;have HHL2:=ae (HHL.out gs[j].1)
     have ZL:Hid (gs[j].1.length<=1000):=ae (by
      have h5:=lZ aB;have h6:=eZ gs (j+1);have h7:=MM.out;rw[h5,ZT]at h6;omega)
     clear Wa;go_wp2_with fail;refine Bx.out.mono ?_;rintro e w6 ⟨⟨v6,l6,rfl,zK,Sa⟩,dN⟩;have mU:=ae (dH.out.kept dN);have V9:=ae zK;have HSN6:=ae Sa;have i5:=ae (MN.out.trans (dN.mono Ew));have hz7:=dN.size;obtain⟨va6,vc6,rfl,_,_⟩:=bF zK.1;clear dN zK Sa Bx dH;go_wp2_with (first | (at_builtin;refine jB rfl _ _ rfl A.heap.size _ _ l l6 rfl mU.out rfl V9.out.sv ?c1 ?c2 ?c3 ?_))
     case c1=>exact fun x hx=>(V9.out.2 x hx).of_le Ew
     case c2 =>
      have h1:=congrArg List.length HSN6.out;have h2:=HHL2.out;have h3:=ZL.out;rw[ZU]at h1;omega
     case c3=>omega
     intro v' w7 o7 b7;have iw:=ae o7;have ia:=ae (i5.out.trans b7);clear o7 b7;go_wp2_with fail;go_roundw
     case rel=>exact⟨j+1,_,by omega,by go_num,by rw[U6.out,mP.out];go_num,iw.out,by rw[YH.out,Z8,sY.out,HSN6.out],ia.out⟩
     case measure=>simp[intOf];omega
   ·obtain rfl:j=gs.length:=by omega
    have gJ:¬ ((gs.length:Nat):Int)<(gs.length:Int):=by omega
    have Ez:w.heap.size<=A.heap.size:=by have:=ZD.out;omega
    have EG:Hid (l.map Prod.snd=RR):=ae (by rw[sY.out,Zo.out,UA.out]);have EI:Hid (iJ fs T (gs.take gs.length)=N):=ae (by rw[Kd.out,MY.out]);rw[EI.out];go_wp2_with fail;go_ret2
    first | exact⟨⟨_,_,rfl,HO.out.low Ez,EG.out⟩,ai m9.out HB.out⟩ | exact⟨⟨_,rfl,_,HO.out.low Ez,EG.out⟩,ai m9.out HB.out⟩
 ·have hkz:(k != 0)=true:=by simp[pY]
  rw[hkz];obtain⟨hNe,hRe⟩:=Hn.out pY;have UA:=ae hRe;have Ez:w.heap.size<=A.heap.size:=by have:=ZD.out;omega
  subst hNe;clear hRe;go_wp2_with fail;go_ret2
  first | exact⟨⟨_,[],rfl,Ow.nil _ _,UA.out.symm⟩,ai m9.out aQ.out⟩ | exact⟨⟨_,rfl,[],Ow.nil _ _,UA.out.symm⟩,ai m9.out aQ.out⟩
theorem gY.low'{W:World}{B B':Nat}{v:Value}{l:Row}(h:gY W B v l)(hB:B'<=B):gY W B' v l:=zv h hB
def Oc(W:World)(B:Nat)(v:Value)(l:List (Value×Row)):Prop:=W.ownsRow B 58 1 v l.length (l.map Prod.fst)/\∀ x∈l,gY W B x.1 x.2
theorem Oc.nil(W:World)(B:Nat):Oc W B (.slice none 0 0) []:=⟨jaB _ _ _ _,fun x hx=>by simp at hx⟩
theorem Oc.kept{W W':World}{B:Nat}{v:Value}{l:List (Value×Row)}(h:Oc W B v l)(hb:Below W.heap.size W W'):Oc W' B v l:=⟨bH h.1 hb,fun x hx=>(h.2 x hx).kept hb⟩
theorem Oc.form{W:World}{B:Nat}{v:Value}{l:List (Value×Row)}(h:Oc W B v l):∃ a cap,v=.slice a l.length cap/\l.length<=cap/\cap<=maxLen/\(a=none->cap=0):=by
 rcases h.1 with ⟨h0,⟨h1,h2⟩ | ⟨g,cap,cur,h1,h2,h3,h4,h5,_⟩⟩
 ·exact⟨none,0,by rw[h1,h2],by omega,by unfold maxLen;omega,fun _=>rfl⟩
 ·exact⟨_,cap,h1,h4,h5,fun e=>by cases e⟩
theorem Oc.at{W:World}{B:Nat}{a:Option Addr}{n cap:Nat}{l:List (Value×Row)}(h:Oc W B (.slice a n cap) l){k:Nat}(hk:k<l.length) :
  ∃ g,a=some ⟨g,0,none⟩/\g<W.heap.size/\W.cell? ⟨g,k,none⟩=some l[k].1/\gY W B l[k].1 l[k].2:=by
 rcases h with ⟨⟨h0,⟨h1,h2⟩ | ⟨g,cap',cur,h1,h2,h3,h4,h5,h6,h7⟩⟩,hr⟩
 ·omega
 ·simp only[Value.slice.injEq]at h1
  obtain⟨rfl,rfl,rfl⟩:=h1;refine⟨g,rfl,(Array.getElem?_eq_some_iff.1 h3).1,?_,(hr _ (ZV hk))⟩;have hj:(l.map Prod.fst)[k]?=some l[k].1:=by simp[hk]
  simp only[World.cell?,h3];rw[← h7]at hj;have aB:=(List.getElem?_eq_some_iff.1 hj).1;rw[ZX]at aB;rw[List.getElem?_take_of_lt (by omega)]at hj;simpa using hj
theorem Oc.sr{W:World}{B:Nat}{v:Value}{l:List (Value×Row)}(h:Oc W B v l):Sr W v (l.map Prod.snd):=by
 obtain⟨a,cap,rfl,h1,h2,h3⟩:=h.form;refine⟨a,cap,by rw[ZU],by rw[ZU];exact h1,h2,fun h0=>?_⟩;rw[ZU]at h0;obtain⟨g,e,h4,_⟩:=h.at h0;refine⟨g,0,e,h4,fun j hj=>?_⟩;rw[ZU]at hj;obtain⟨g',e',h5,h6,h7⟩:=h.at hj;obtain rfl:g=g':=by rw[e]at e';cases e';rfl
 refine⟨_,by rw[jaf];exact h6,?_⟩;have:=h7.sc;simpa using this
theorem Bh{w:World}(ty:TypeId)(base:Nat)(v vx:Value)(l0 l:List (Value×Row))(az:Oc w base v l0)(fo:Sv w vx (l.map Prod.fst))(hr:∀ x∈l,gY w base x.1 x.2)(hbytes:l0.length+l.length<=1000000)(aH:base<=w.heap.size) :
  ∃ v' w',(Builtin.append_ #[26,26] ty #[v,vx]).run Tryz.prog w=.ok v' w'/\Oc w' base v' (l0++l)/\Below base w w':=by
 obtain⟨i0,hi,ce,hz1',bm⟩:=info_parts Xm;obtain⟨ad,cap,rfl,h1,h2,h3,h4⟩:=fo;rw[ZU]at *
 have one:∀ x∈l.map Prod.fst,x.oneCell'=true:=fun x hx=>by
  obtain⟨y,hy,rfl⟩:=jaa.1 hx;obtain⟨a,n,c,e⟩:=eN (hr y hy);rw[e];rfl
 cases ad with
 | none =>
  have hc:=h3 rfl;subst hc;have hl:l=[]:=jab (by omega);subst hl;have hr:=run_append_owned_none (P:=Tryz.prog) (w:=w) base 26 ty 58 i0 1 Tryz.underlying26 hi v l0.length (l0.map Prod.fst) az.1;refine⟨v,w,hr,by rw[Z7];exact az,ZQ _ _⟩
 | some ad =>
  obtain⟨v',w',EB,o1,g1,_,e1⟩:=run_append_own_at (P:=Tryz.prog) w base 26 ty 58 i0 (.slice none 0 0) 1 24 Tryz.underlying26 hi ce hz1' bm rfl (by decide) v l0.length (l0.map Prod.fst) az.1 ad l.length cap (l.map Prod.fst) (by rw[ZU];omega)
   (fun j u hu=>by
    have hj:j<l.length:=by
     have:=(List.getElem?_eq_some_iff.1 hu).1;rwa[ZU]at this
    obtain⟨b,off,h5,_,h6⟩:=h4 (by omega);cases h5
    rw[pp];exact h6 j u hu) one (by unfold maxLen;omega) (by omega) aH
  have keep:∀ y:Value×Row,gY w base y.1 y.2->gY w' base y.1 y.2:=fun y hy =>
   bX hy fun k hk=>g1.block k (aL hy hk).2.1 (fun e=>fK hy az.1 (by decide) hk e.symm)
  refine⟨v',w',EB,⟨?_,fun y hy=>?_⟩,(ZQ base w).grown g1 aH (fun k hk=>(az.1.lt k hk).1)⟩
  ·rw[ZT,Z8]
   exact o1
  ·rcases jaj.1 hy with hy | hy
   ·exact keep y (az.2 y hy)
   ·exact keep y (hr y hy)
theorem Ea{w:World}{o:Oper}{a:Act}{K:Act->World->Prop}{Q:Exit->Act->World->Prop}(s x:Operand)
  (ho:o.op=.call { callee:=.builtin .append,args:=#[s,x],argTypes:=#[26,26] })
  (base:Nat) (v vx:Value) (l0 l:List (Value×Row)) (hs:a.eval s=v) (az:Oc w base v l0) (hx:a.eval x=vx) (fo:Sv w vx (l.map Prod.fst)) (hr:∀ x∈l,gY w base x.1 x.2) (hbytes:l0.length+l.length<=1000000) (aH:base<=w.heap.size)
  (h:∀ v' w',Oc w' base v' (l0++l)->Below base w w'->K (a.put o.dst v') w'):Oper.wp Tryz.prog o a w K Q:=by
 obtain⟨v',w',hr,h2,h3⟩:=Bh o.type base v vx l0 l az fo hr hbytes aH;unfold Oper.wp execOp;simp only[ho,resolve,invoke,builtin,Sem.run_bind,Sem.run_pure,Result.andThen_ok,jaU,jal,jaG,hs,hx,hr];exact h v' w' h2 h3
theorem ud{w:World}{ops:Array Oper}{rest:List Oper}{o:Oper}{a:Act}{Q:Exit->Act->World->Prop}(ee:o.guard=none)(s x:Operand)
  (ho:o.op=.call { callee:=.builtin .append,args:=#[s,x],argTypes:=#[26,26] })
  (base:Nat) (v vx:Value) (l0 l:List (Value×Row)) (hs:a.eval s=v) (az:Oc w base v l0) (hx:a.eval x=vx) (fo:Sv w vx (l.map Prod.fst)) (hr:∀ x∈l,gY w base x.1 x.2) (hbytes:l0.length+l.length<=1000000) (aH:base<=w.heap.size)
  (h:∀ v' w',Oc w' base v' (l0++l)->Below base w w'->wpList Tryz.prog ops Q rest (a.put o.dst v') w') :
  wpList Tryz.prog ops Q (o::rest) a w :=
 wpList_plain ee fun K hK=>Ea s x ho base v vx l0 l hs az hx fo hr hbytes aH fun v' w' h1 h2=>hK _ _ (h v' w' h1 h2)
theorem QY{w:World}{v:Value}{rs:List Row}(hs:Rv w v rs)(hf:∀ r∈rs,∀ c∈r,aU c)(hl:rs.length<=1000)(zQ:∀ r∈rs,r.length<=600) :
  Calls Tryz.prog 34 #[v] w fun e w'=>(∃ v' l,e=.returned v'/\Oc w' w.heap.size v' l/\l.map Prod.snd=rs)/\Below w.heap.size w w':=by
 have HS:=ae hs;have HF:=ae hf;have ZJ:=ae zQ;obtain⟨a,cap,rfl,aX,hcm',_⟩:=hs.form;clear hs hf zQ;go_enter Tryz.func34,Tryz.ntmps34
 go_wp2_with fail;go_loopw [3,4] (fun o i wr=>∃(j:Nat) (l:List (Value×Row)),j<=rs.length/\i=.int .i64 (j:Int)/\Oc wr w.heap.size o l/\l.map Prod.snd=rs.take j/\Below w.heap.size w wr) (fun _ i _=>rs.length-(intOf i).toNat)
 case atStart=>exact⟨0,[],by omega,rfl,Oc.nil _ _,rfl,ZQ _ _⟩
 case round =>
  obtain⟨j,l,hj,rfl,how,uJ,ay⟩:=hrel;have HO:=ae how;have HB:=ae ay;have sY:=ae uJ;have bO:=ay.size;have zQ:l.length=j:=by have:=congrArg List.length uJ;rw[ZU,ZX]at this;omega
  clear how ay uJ;by_cases aB:j<rs.length
  ·obtain⟨g,off,rv,rfl,hg,bo,Ka⟩:=(HS.out.kept HB.out).at aB
   have hlt':(j:Int)<(rs.length:Int):=by omega
   have mV:Hid (rs.take (j+1)=rs.take j++[rs[j]]):=ae (Z5 aB);have R5:=ae (zc Ka (HF.out _ (ZV aB)) (ZJ.out _ (ZV aB)));generalize rs[j]=r at *;obtain⟨ra,rc,rfl,_,_⟩:=Ka.form1;rw[aF]at *;have HLJ:=ae zQ;clear Ka zQ;go_wp2_with fail;refine R5.out.mono ?_;rintro e w1 ⟨⟨rv',rfl,eG⟩,aG⟩;have fA:=ae eG;have HOW1:=ae (HO.out.kept aG);have aQ:=ae (HB.out.trans (aG.mono bO));have cW:=aG.size;obtain⟨ra',rc',rfl,_,_⟩:=bF eG;have mP:=ae (aK w1 (.slice ra' r.length rc') 58);clear aG eG;go_wp2_with (first | (at_builtin;refine ud rfl _ _ rfl w.heap.size _ _ l [(.slice ra' r.length rc',r)] rfl (HOW1.out.kept (ak _ _)) rfl (A1 mP.out (by rw[ZS];omega)) ?c1 ?c2 ?c3 ?_))
   case c1 =>
    intro x hx;rw[jay.1 hx];exact(fA.out.kept (ak _ _)).low' bO
   case c2=>have:=HLJ.out;simp only[jan];omega
   case c3=>rw[ZS];omega
   intro v' w5 o5 b5;have dH:=ae o5;have aR:=ae ((aQ.out.alloc (ZZ bO cW) _).trans b5);clear o5 b5;go_wp2_with fail;go_roundw
   case rel=>exact⟨j+1,_,by omega,by go_num,dH.out,by rw[mV.out,Z8,sY.out];rfl,aR.out⟩
   case measure=>simp[intOf];omega
  ·obtain rfl:j=rs.length:=by omega
   rw[ZY]at sY;have gJ:¬ ((rs.length:Nat):Int)<(rs.length:Int):=by omega
   go_wp2_with fail;go_ret
   first | exact⟨⟨_,_,rfl,HO.out,sY.out⟩,HB.out⟩ | exact⟨⟨_,rfl,_,HO.out,sY.out⟩,HB.out⟩
theorem aU.bsA{c:Cl}(h:aU c):Bs c.2.2:=h.okc.2.2
theorem QZ(w:World)(l:Row)(hl:l.length<=256):OwnV (w.alloc (.cells (aI l).toArray 78)) w.heap.size (.slice (some ⟨w.heap.size,0,none⟩) l.length l.length) l :=
 jaT (e:=78) (size:=1) w (aI l).toArray l.length (base:=w.heap.size) (ZR _) (by unfold maxLen;omega) (by simp[aI])
theorem Xw(w:World)(l:Row)(hl:l.length<=256):gY (w.alloc (.cells (iH l).toArray 52)) w.heap.size (.slice (some ⟨w.heap.size,0,none⟩) l.length l.length) l :=
 jaT (e:=52) (size:=3) w (iH l).toArray l.length (base:=w.heap.size) (ZR _) (by unfold maxLen;omega) (by simp[qi])
theorem Q0(W:World):let W3:=W.alloc (.cells #[.iface 2 (.int .i64 1),.iface 9 (.string ⟨#[97]⟩)] 78);let W4:=W3.alloc (.cells #[.iface 2 (.int .i64 2),.nilIface] 78)
  Rv (W4.alloc (.cells #[.slice (some ⟨W.heap.size,0,none⟩) 2 2,.slice (some ⟨W.heap.size+1,0,none⟩) 2 2] 79)) (.slice (some ⟨W.heap.size+1+1,0,none⟩) 2 2) rA/\Below W.heap.size W (W4.alloc (.cells #[.slice (some ⟨W.heap.size,0,none⟩) 2 2,.slice (some ⟨W.heap.size+1,0,none⟩) 2 2] 79)):=by
 intro W3 W4;have h3:OwnV W3 W.heap.size (.slice (some ⟨W.heap.size,0,none⟩) 2 2) rA1:=QZ W rA1 (by decide);have h4:OwnV W4 W3.heap.size (.slice (some ⟨W3.heap.size,0,none⟩) 2 2) rA2:=QZ W3 rA2 (by decide);have z3:W3.heap.size=W.heap.size+1:=ZS _ _;have z4:W4.heap.size=W.heap.size+1+1:=by show (W3.alloc _).heap.size=_;rw[ZS,z3]
 rw[z3]at h4;have b3:Below W3.heap.size W3 W4:=ak _ _;have b4:=ak W4 (.cells #[.slice (some ⟨W.heap.size,0,none⟩) 2 2,.slice (some ⟨W.heap.size+1,0,none⟩) 2 2] 79);obtain⟨c0,c1⟩:=bE W4 (.slice (some ⟨W.heap.size,0,none⟩) 2 2) (.slice (some ⟨W.heap.size+1,0,none⟩) 2 2) 79;have z5:(W4.alloc (.cells #[.slice (some ⟨W.heap.size,0,none⟩) 2 2,.slice (some ⟨W.heap.size+1,0,none⟩) 2 2] 79)).heap.size=W.heap.size+3:=by rw[ZS,z4]
 refine⟨⟨_,2,rfl,ZR _,by unfold maxLen;omega,fun e=>(by cases e),fun _=>⟨W.heap.size+1+1,0,rfl,by omega,fun j hj=>?_⟩⟩,?_⟩
 ·rw[z4]at c0 c1
  have MS:j<2:=hj;obtain rfl | rfl:j=0∨j=1:=by omega
  ·exact⟨_,c0,((h3.kept b3).kept b4).sv⟩
  ·exact⟨_,c1,(h4.kept b4).sv⟩
 ·exact(((ZQ _ _).alloc (ZR _) _).alloc (by rw[z3];omega) _).alloc (by rw[z4];omega) _
theorem rp(W:World):sk W (.slice none 0 0) []:=⟨none,0,rfl,ZR _,by unfold maxLen;omega,fun h=>by simp at h⟩
theorem JT{fs:List Fd}{p:List Row}(h:jJ fs p):∀ s∈(grp fs p).2,Oks s:=fun s hs=>by
 obtain⟨i,_,rfl⟩:=jaa.1 hs;have:=kp (lV h i);exact⟨this.1.okc,this.2.okc⟩
def gsA:List Gr:=[grp fy [rA1],grp fy [rA2]]
theorem Uq:bP gsA=rA:=rfl
theorem oksA:∀ g∈gsA,∀ s∈g.2,Oks s:=fun g hg=>by
 have gK:g=grp fy [rA1]∨g=grp fy [rA2]:=by simpa [gsA]using hg
 rcases gK with rfl | rfl
 ·exact JT fun r hr=>pb r (by rw[jay.1 hr];simp[rA])
 ·exact JT fun r hr=>pb r (by rw[jay.1 hr];simp[rA])
theorem Vz:gsA.filter (xX fy pA)=[grp fy [rA2]]:=by
 have h1:xX fy pA (grp fy [rA1])=false:=mayA1;have h2:xX fy pA (grp fy [rA2])=true:=mayA2;unfold gsA;simp[jbt,h1,h2]
theorem Xx:iJ fy pA gsA=1:=by unfold iJ;rw[Vz];rfl
theorem Xy:jD fy pA gsA=[rA2]:=by
 unfold jD;rw[Vz]
 have h:mD fy pA [rA2]=[rA2]:=by
  unfold mD QX;rw[jbt,Xu];rfl
 show [grp fy [rA2]].flatMap _=_
 simp only[ja2,List.flatMap_nil,Z7];exact h
theorem Xz:Okp pA:=⟨by omega,by omega,⟨by decide,⟨by decide,by decide⟩,fun x hx=>by simp at hx⟩,trivial⟩
theorem lenpA:Len pA:=⟨by decide,trivial⟩
end Go.Proofs.YtpljdjmpamjkhaaGreatDoor
