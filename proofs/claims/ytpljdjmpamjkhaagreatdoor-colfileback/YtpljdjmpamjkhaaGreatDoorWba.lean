import Derived.Test.YtpljdjmpamjkhaaGreatDoorWay
import Derived.Test.YtpljdjmpamjkhaaGreatDoorWaz
import Derived.Test.YtpljdjmpamjkhaaGreatDoorCards
import Derived.Test.YtpljdjmpamjkhaaGreatDoorTie
import Derived.LaidMore
set_option linter.unusedVariables false
set_option linter.unusedSimpArgs false
set_option maxRecDepth 100000
set_option maxHeartbeats 20000000
namespace Go.Proofs.YtpljdjmpamjkhaaGreatDoor
namespace BackLaw
open Go.RowKit Go.Lib
theorem UD(a b:Int)(c d:Bool)(e f:Int)(s:ByteArray)(g h:Int)(t:ByteArray)(w:World):(binOp .eql 54 (.agg #[.int .i64 a,.int .i64 b,.bool c,.bool d,.int .u8 e,.int .i64 f,.string s,.int .u8 g,.int .i64 h,.string t]) (.agg #[.int .i64 a,.int .i64 b,.bool c,.bool d,.int .u8 e,.int .i64 f,.string s,.int .u8 g,.int .i64 h,.string t])).run Tryz.prog w=.ok (.bool true) w:=by
 simp[go_sem]
theorem TC{n g:Nat}(hg:1<=g)(gx:g<=64)(hn:n<=1000):wrap64 ((wrap64 (wrap64 ((n:Int)+(g:Int))-1)).tdiv (g:Int))=((nps g n:Nat):Int):=by
 have e1:wrap64 ((n:Int)+(g:Int))=(n:Int)+g:=by unfold wrap64;omega
 have e2:wrap64 ((n:Int)+(g:Int)-1)=((n+g-1:Nat):Int):=by unfold wrap64;omega
 have e3:((n+g-1:Nat):Int).tdiv (g:Int)=((nps g n:Nat):Int):=by
  unfold nps;exact(Int.ofNat_tdiv _ _)
 have e4:nps g n<=n+g-1:=Nat.div_le_self _ _;rw[e1,e2,e3];unfold wrap64;omega
theorem walk{w:World}(ht:Tab w){fv v:Value}{fs:List Fd}{rs:List Row}(hs:Sf w fv fs)(ho:∀ f∈fs,Okf f)(id:Nat)(nl:id<4294967296)(hr:Sr w v rs)(hro:∀ x∈rs,∀ c∈x,Okc c)(g at_:Int) :
  Calls Tryz.prog 4 #[.agg #[.int .u32 (id:Int),fv],v,.int .i64 g,.int .i64 at_] w fun e w'=>e=.returned (.bool true)/\Below w.heap.size w w':=by
 obtain⟨fa,fc,rfl,_,_⟩:=hs.form;obtain⟨a,cap,rfl,_,_⟩:=hr.form;have cO:=aj w (.cells #[.int .u32 (id:Int),.slice fa fs.length fc] 25);obtain⟨x0,x1⟩:=aR w (.int .u32 (id:Int)) (.slice fa fs.length fc) 25;have bN:(w.alloc (.cells #[.int .u32 (id:Int),.slice fa fs.length fc] 25)).heap.size=w.heap.size+1:=YB _ _;have xx:=ae (ht.kept cO);have HS:=ae (hs.kept cO);have HR:=ae (hr.kept cO);have bV:=ae cO;have QZ:=ae hro;have HO:=ae ho;generalize hA:w.alloc (.cells #[.int .u32 (id:Int),.slice fa fs.length fc] 25)=A at *
 have HQ:jaH (∀ U,Below A.heap.size A U->U.cell? ⟨w.heap.size,0,none⟩=some (.int .u32 (id:Int))/\U.cell? ⟨w.heap.size,1,none⟩=some (.slice fa fs.length fc)):=ae (fun U hU =>
  ⟨(hU.cell (p:=⟨w.heap.size,0,none⟩) (by show w.heap.size<_;omega)).trans x0,(hU.cell (p:=⟨w.heap.size,1,none⟩) (by show w.heap.size<_;omega)).trans x1⟩)
 have HAL:=ae (BR xx.o);clear ht hs hr cO hro ho bN x0 x1;go_enter Tryz.func4,Tryz.ntmps4
 go_wp2_with fail;try rw[hA]
 clear hA;refine HAL.o.mono ?_;rintro e w1 ⟨rfl,aA⟩;have aN:=ae aA;obtain⟨c0,c1⟩:=HQ.o w1 aA;have HG:=ae (Jd (HS.o.kept aA) id);clear aA HAL;go_wp2_with fail;refine HG.o.mono ?_;rintro e w2 ⟨⟨gr,rfl,KV⟩,ay⟩;have aK:=ae (ag aN.o ay);clear ay KV c0 c1 HG;cases gr with
 | true =>
  go_wp2_with fail;go_ret
  exact⟨rfl,ag bV.o aK.o⟩
 | false =>
 obtain⟨c0,c1⟩:=HQ.o w2 aK.o;have oo:=ae (yM (HS.o.kept aK.o) id);go_wp2_with fail;refine oo.o.mono ?_;rintro e w3 ⟨rfl,aO⟩;have bT:=ae (ag aK.o aO);clear aO c0 c1 oo;by_cases ek:chk id fs=0
 case neg =>
  have hckb:(((chk id fs:Nat):Int) != 0)=true:=by simp[ek]
  go_wp2_with fail;go_ret
  exact⟨rfl,ag bV.o bT.o⟩
 have hckb:(((chk id fs:Nat):Int) != 0)=false:=by simp[ek]
 have oo:=ae ek;clear ek;go_upto_region 5 with fail
 go_cut [2] from 118 (fun v wx=>∃ G:Nat,v=.int .i64 (G:Int)/\1<=G/\G<=64/\Below A.heap.size A wx)
 case first =>
  go_wp2_with fail;go_meet
  refine⟨(1+g % 64).toNat,?_,?_,?_,bT.o⟩
  ·refine YE (Value.int IntKind.i64) ?_
   rw[Zr,Int.tmod_eq_emod_of_nonneg (by omega)];simp only[wrap64,Zy];omega
  ·omega
  ·omega
 case rest =>
 obtain⟨G,rfl,hG1,hG2,ao⟩:=hcut;obtain⟨w4,hw4⟩:∃ w4,w4=wc:=⟨_,rfl⟩;subst hw4;have cA:=ae ao;obtain⟨c0,c1⟩:=HQ.o w4 ao;have zk:=ae (EZ (HR.o.kept ao) (HS.o.kept ao) QZ.o id 60);clear ao;go_wp2_with fail;refine zk.o.mono ?_;rintro e w5 ⟨⟨v5,l5,rfl,eo,gD⟩,bv⟩;have aJ:=ae (ag cA.o bv);have dK:=gD.fit;have h60:(l5.map Prod.snd).length<=60:=by rw[YD];exact gD.2.1
 have pS:∀ r∈l5.map Prod.snd,r.length<=20:=fun r hr=>by
  obtain⟨x,hx,rfl⟩:=YS.1 hr;exact(gD.1.2 x hx).1
 have om:=ae eo.sr;obtain⟨a5,c5,rfl,_,_⟩:=om.o.form;generalize l5.map Prod.snd=rows at *;have rk:=ae dK;have Kz:=ae pS;clear bv eo gD dK pS c0 c1 zk QZ;have hwm:=pM (g:=G) HO.o nl oo.o (show rows.length<=60 by omega) hG1 hG2 rk.o;have KO:=lX (g:=G) HO.o nl oo.o (show rows.length<=256 by omega) hG1 hG2 rk.o;have Cs:=nZ (g:=G) HO.o nl oo.o (show rows.length<=60 by omega) hG1 hG2 rk.o;have HT8:=ae KO.2
 have H13:jaH (∀ U,Below w5.heap.size w5 U->Calls Tryz.prog 13 #[.slice a5 rows.length c5] U fun e w'=>∃ b c,e=.returned (.slice b rows.length c)/\Rv w' (.slice b rows.length c) rows/\Below w5.heap.size w5 w'):=ae (fun U hU=>by
  refine(Ko (om.o.kept hU) (fun r hr=>(rk.o r hr).2) (by omega) (fun r hr=>by have:=Kz.o r hr;omega)).mono ?_;rintro e w' ⟨⟨v',l',rfl,how',hsn'⟩,hb'⟩;have hrv':=how'.rv;rw[hsn']at hrv';obtain⟨a',c',rfl,_⟩:=hrv'.form;exact⟨a',c',rfl,hrv',ag hU hb'⟩)
 have H12:jaH (∀ U b c,Below w5.heap.size w5 U->Rv U (.slice b rows.length c) rows->Calls Tryz.prog 12 #[.agg #[.int .u32 (id:Int),.slice fa fs.length fc],.slice b rows.length c,.int .i64 (G:Int)] U fun e w'=>∃ p q,e=.returned (.tuple #[.slice p (br (dw id fs rows G)).length q,.int .i64 0])/\Sv w' (.slice p (br (dw id fs rows G)).length q) (az .u8 (br (dw id fs rows G)))/\Below w5.heap.size w5 w'):=ae (fun U b c hU oh=>by
  have h:=lZ (xx.o.kept (ag aJ.o hU)) (HS.o.kept (ag aJ.o hU)) oh HO.o nl (fun r hr=>(rk.o r hr).2) (G:Int);rw[hwm]at h;refine h.mono ?_;rintro e w' ⟨⟨v',rfl,how'⟩,hb'⟩;have hsv':=how'.sv;obtain⟨a',c',rfl,_,_⟩:=bf how';exact⟨a',c',rfl,hsv',ag hU hb'⟩)
 have lB:=pN (g:=G) HO.o nl (fun r hr=>(rk.o r hr).2) hwm;have cz:=Bk fs (g:=G) (by omega) rows;have Cv:Bs (br (dw id fs rows G)):=HT8.o.seal;have gV:(br (dw id fs rows G)).length<=80000000:=by rw[iX];have:=KO.1;omega
 have Ve:((List.range (nps G rows.length)).map fun i=>grp fs (prt G rows i)).length=nps G rows.length:=by rw[YD,List.length_range]
 have HQ5:jaH (∀ U,Below w5.heap.size w5 U->U.cell? ⟨w.heap.size,0,none⟩=some (.int .u32 (id:Int))/\U.cell? ⟨w.heap.size,1,none⟩=some (.slice fa fs.length fc)):=ae (fun U hU=>HQ.o U (ag aJ.o hU));obtain⟨c0,c1⟩:=HQ5.o w5 (Yz _ _);have Cg:=ae Cv;have HOPM:=ae lB;have Ci:=ae cz;have HBLN:=ae gV;have HGL:=ae Ve;have XJ:=ae (And.intro hG1 hG2);clear hwm KO Cs Cv lB cz gV Ve HT8 hG1 hG2;generalize ((List.range (nps G rows.length)).map fun i=>grp fs (prt G rows i))=gs at *;generalize br (dw id fs rows G)=b at *;go_upto_region 7 with fail
 go_cut [10,11] from 118 (fun v8 v9 wx=>∃ p q,v8=.slice p b.length q/\v9=.int .i64 0/\Sv wx (.slice p b.length q) (az .u8 b)/\Below w5.heap.size w5 wx)
 case first =>
  generalize rows.length=nr at *;refine wp_region_noPanic ?_
  go_region_law (first
   | (go_simp;go_at_call 13;refine(H13.o _ ?_).mono ?_;exact ak (Yz w5.heap.size w5) _;rintro e y1 ⟨b1,d1,rfl,QU,uR⟩;obtain⟨q0,q1⟩:=HQ5.o y1 uR;have QV:=ae QU;have Cq:=ae uR;clear QU uR;dsimp only)
   | (go_simp;go_at_call 12;refine(H12.o _ _ _ ?_ ?_).mono ?_;(first | exact Cq.o | exact ak Cq.o _);(first | exact QV.o | exact QV.o.kept (ak (Yz y1.heap.size y1) _));rintro e y2 ⟨p2,q2,rfl,cP,vW⟩;have eP:=ae cP;have Lc:=ae vW;clear cP vW;dsimp only)
   | fail)
  all_goals refine NoPanic.normal ?_
  all_goals go_wp2_with fail
  all_goals go_meet
  all_goals exact⟨_,_,rfl,rfl,eP.o,Lc.o⟩
 case rest =>
 obtain⟨p,q,rfl,rfl,fV,pY⟩:=hcut;obtain⟨w6,hw6⟩:∃ w6,w6=wc:=⟨_,rfl⟩;subst hw6;have HB56:=ae pY;have jA:=ae (ag aJ.o pY);have lp:=ae (oa (xx.o.kept jA.o) fV Cg.o HBLN.o);clear fV pY c0 c1 H12 H13;go_wp2_with fail;refine lp.o.mono ?_;rintro e w7 ⟨⟨c,hc,_⟩ | ⟨id',fs',g',gs',fp,fv,ho',rfl,sV,Lt⟩,jK⟩
 ·rw[HOPM.o]at hc;cases hc
 rw[HOPM.o]at ho';simp only[Except.ok.injEq,Prod.mk.injEq]at ho';obtain⟨rfl,rfl,rfl,rfl⟩:=ho';have pX:=ae sV;have yW:=ae Lt;have HB57:=ae (ag HB56.o jK);have pT:=ae (ag jA.o jK);have Rp:=ae (om.o.kept HB57.o);have Ln:=ae (HS.o.kept pT.o);obtain⟨c0,c1⟩:=HQ.o w7 pT.o;have qa:=Ci.o;have Xt:rows.length<=60:=by omega
 have hra:∀ r∈aZ gs,r.length<=1000:=fun r hr=>by rw[qa]at hr;have:=Kz.o r hr;omega
 have hrt:(aZ gs).length<=1000:=by rw[qa];omega
 have HRA:=ae hra;have HRT:=ae hrt;have hflen:=(mD oo.o).2.1
 have H19:jaH (∀ U,Below w7.heap.size w7 U->Calls Tryz.prog 19 #[.pointer (some ⟨fp,0,none⟩)] U fun e w'=>∃ a c,e=.returned (.agg #[.int .u32 (id:Int),.slice a fs.length c])/\Sf w' (.slice a fs.length c) fs/\Below w7.heap.size w7 w'/\w'.cell? ⟨w.heap.size,0,none⟩=some (.int .u32 (id:Int))/\w'.cell? ⟨w.heap.size,1,none⟩=some (.slice fa fs.length fc)):=ae (fun U hU=>by
  refine(yQ (pX.o.kept hU) (yW.o.kept hU).sf (by omega)).mono ?_;rintro e w' ⟨⟨v',rfl,how'⟩,hb'⟩;obtain⟨a',c',rfl,_,_⟩:=bf how';have ay:=ag hU hb';obtain⟨q0,q1⟩:=HQ.o w' (ag pT.o ay);exact⟨a',c',rfl,how'.sf,ay,q0,q1⟩)
 have H18:jaH (∀ U a' c',Below w7.heap.size w7 U->Sf U (.slice a' fs.length c') fs->Calls Tryz.prog 18 #[.agg #[.int .u32 (id:Int),.slice a' fs.length c'],.agg #[.int .u32 (id:Int),.slice fa fs.length fc]] U fun e w'=>e=.returned (.bool true)/\Below w7.heap.size w7 w'):=ae (fun U a' c' hU hsf'=>by
  refine(BS hsf' (HS.o.kept (ag pT.o hU)) id id).mono ?_;rintro e w' ⟨rfl,hb'⟩;exact⟨by simp,ag hU hb'⟩)
 have H20:jaH (∀ U,Below w7.heap.size w7 U->Calls Tryz.prog 20 #[.pointer (some ⟨fp,0,none⟩)] U fun e w'=>e=.returned (.int .i64 (rows.length:Int))/\Below w7.heap.size w7 w'):=ae (fun U hU=>by
  refine(uG (pX.o.kept hU) (by have:=HRT.o;omega)).mono ?_;rintro e w' ⟨rfl,hb'⟩;exact⟨by rw[qa],ag hU hb'⟩)
 have H21:jaH (∀ U,Below w7.heap.size w7 U->Calls Tryz.prog 21 #[.pointer (some ⟨fp,0,none⟩)] U fun e w'=>e=.returned (.int .i64 ((nps G rows.length:Nat):Int))/\Below w7.heap.size w7 w'):=ae (fun U hU=>by
  refine(pL (pX.o.kept hU)).mono ?_;rintro e w' ⟨rfl,rfl⟩;exact⟨by rw[HGL.o],hU⟩)
 have H23:jaH (∀ U,Below w7.heap.size w7 U->Calls Tryz.prog 23 #[.pointer (some ⟨fp,0,none⟩)] U fun e w'=>∃ a c,e=.returned (.slice a rows.length c)/\Rv w' (.slice a rows.length c) rows/\Below w7.heap.size w7 w'):=ae (fun U hU=>by
  refine(xn (pX.o.kept hU) HRA.o (by have:=HRT.o;omega)).mono ?_;rintro e w' ⟨⟨v',l',rfl,how',hsn'⟩,hb'⟩;have hrv':=how'.rv;rw[hsn',qa]at hrv';obtain⟨a',c',rfl,_⟩:=hrv'.form;exact⟨a',c',rfl,hrv',ag hU hb'⟩)
 have H22:jaH (∀ U a' c',Below w7.heap.size w7 U->Rv U (.slice a' rows.length c') rows->Calls Tryz.prog 22 #[.slice a' rows.length c',.slice a5 rows.length c5] U fun e w'=>e=.returned (.bool true)/\Below w7.heap.size w7 w'):=ae (fun U a' c' hU hrv'=>by
  refine(Ty hrv' (Rp.o.kept hU) (fun r hr=>(rk.o r hr).2) (fun r hr=>(rk.o r hr).2) (by omega) (fun r hr=>by have:=Kz.o r hr;omega)).mono ?_;rintro e w' ⟨rfl,hb'⟩;exact⟨by simp,ag hU hb'⟩)
 have hquo:=TC XJ.o.1 XJ.o.2 (show rows.length<=1000 by omega);have Us:jaH (∀ U,Below w7.heap.size w7 U->U.cell? ⟨w.heap.size,0,none⟩=some (.int .u32 (id:Int))/\U.cell? ⟨w.heap.size,1,none⟩=some (.slice fa fs.length fc)):=ae (fun U hU=>HQ.o U (ag pT.o hU));have HNR:=ae Xt;have HNRE:jaH (∃ n,n=rows.length):=ae ⟨_,rfl⟩;have hgn:¬ (G:Int)=0:=by have:=XJ.o;omega
 have hgn2:((G:Int)==0)=false:=YN.2 hgn;clear sV Lt qa hra hrt lp jK Xt;go_upto_region 11 with fail
 go_cut [86] from 118 (fun v8 wx=>v8=.bool false/\Below w7.heap.size w7 wx)
 case first =>
  clear c0 c1;obtain⟨c0,c1⟩:=Us.o w7 (Yz _ _);generalize nps G rows.length=ng at *;generalize rows.length=nr at *;generalize fs.length=nf at *;have uK:=Us.o w7 (Yz _ _);refine wp_region_noPanic ?_
  go_region_held (fun w'=>w'.cell? ⟨w.heap.size,0,none⟩=some (.int .u32 (id:Int))/\w'.cell? ⟨w.heap.size,1,none⟩=some (.slice fa nf fc)) (first | assumption | go_keep) (first
   | (go_at_call 19;refine(H19.o _ ?_).mono ?_;(first | exact(Yz _ _).drew | exact ak (Yz _ _) _);rintro e y1 ⟨aa,cc,rfl,hsf1,uR,q0,q1⟩;have sP:=Us.o y1 uR;have HSF1:=ae hsf1;have Cq:=ae uR;clear hsf1 uR q0 q1)
   | (go_at_call 18;refine(H18.o _ _ _ ?_ ?_).mono ?_;(first | exact Cq.o | exact ak Cq.o _);(first | exact HSF1.o | exact HSF1.o.kept (ak (Yz y1.heap.size y1) _));rintro e y2 ⟨rfl,vW⟩;have jJ:=Us.o y2 vW;have Lc:=ae vW;clear vW)
   | (go_at_call 20;refine(H20.o _ ?_).mono ?_;(first | exact Lc.o | exact ak Lc.o _);rintro e y3 ⟨rfl,XK⟩;have UT:=Us.o y3 XK;have HBZ3:=ae XK;clear XK)
   | (go_at_call 21;refine(H21.o _ ?_).mono ?_;(first | exact HBZ3.o | exact ak HBZ3.o _);rintro e y4 ⟨rfl,XL⟩;have hk4:=Us.o y4 XL;have HBZ4:=ae XL;clear XL)
   | (go_at_call 23;refine(H23.o _ ?_).mono ?_;(first | exact HBZ4.o | exact ak HBZ4.o _);rintro e y5 ⟨aa5,cc5,rfl,hrv5,XM⟩;have hk5:=Us.o y5 XM;have HRV5:=ae hrv5;have HBZ5:=ae XM;clear hrv5 XM)
   | (go_at_call 22;refine(H22.o _ _ _ ?_ ?_).mono ?_;(first | exact HBZ5.o | exact ak HBZ5.o _);(first | exact HRV5.o | exact HRV5.o.kept (ak (Yz y5.heap.size y5) _));rintro e y6 ⟨rfl,XN⟩;have Lm:=Us.o y6 XN;have HBZ6:=ae XN;clear XN))
  all_goals refine NoPanic.normal ?_
  all_goals go_wp2_with fail
  all_goals go_meet
  all_goals exact⟨rfl,HBZ6.o⟩
 case rest =>
 obtain⟨rfl,pY⟩:=hcut;obtain⟨w8,hw8⟩:∃ w8,w8=wc:=⟨_,rfl⟩;subst hw8;have uL:=ae (ag pT.o pY);have UM:=ae (pX.o.kept pY);have Cp:=ae (yW.o.kept pY);have HS8:=ae (Rp.o.kept pY);clear pY c0 c1 H18 H19 H20 H21 H22 H23 Us hquo HQ5;obtain⟨c0,c1⟩:=HQ.o w8 uL.o;have uZ:=ae hflen;by_cases XO:at_<0∨(fs.length:Int)<=at_
 ·have co:=ae (Fc UM.o Cp.o.sf at_ XO)
  have hz:kU stZ=.agg #[.int .i64 0,.int .i64 0,.bool false,.bool false,.int .u8 0,.int .i64 0,.string ⟨#[]⟩,.int .u8 0,.int .i64 0,.string ⟨#[]⟩]:=rfl;rw[hz]at co;have XT:=UD 0 0 false false 0 0 ⟨#[]⟩ 0 0 ⟨#[]⟩;clear hz;go_wp2_with fail;refine co.o.mono ?_;rintro e w9 ⟨rfl,sR⟩;have KA:=ae (ag uL.o sR);clear c0 c1;have fV:=sR.size;have c1':∀ o,(w9.alloc o).cell? ⟨w.heap.size,1,none⟩=some (.slice fa fs.length fc):=fun o=>(HQ.o _ (KA.o.alloc KA.o.size o)).2
  have Uq:=ae (KA.o.alloc KA.o.size (.cells #[.int .i64 0,.int .i64 0,.bool false,.bool false,.int .u8 0,.int .i64 0,.string ⟨#[]⟩,.int .u8 0,.int .i64 0,.string ⟨#[]⟩] 54));clear sR fV;rcases XO with hneg | eO
  ·clear c1'
   go_wp2_with fail;go_ret
   exact⟨rfl,ag bV.o Uq.o⟩
  ·have mP:¬ at_<0:=by omega
   have c1'':=c1' (.cells #[.int .i64 0,.int .i64 0,.bool false,.bool false,.int .u8 0,.int .i64 0,.string ⟨#[]⟩,.int .u8 0,.int .i64 0,.string ⟨#[]⟩] 54);clear c1';go_wp2_with fail;go_ret
   exact⟨rfl,ag bV.o Uq.o⟩
 ·obtain⟨k,rfl⟩:=jap (show 0<=at_ by omega)
  have te:k<fs.length:=by omega
  have mP:¬ (k:Int)<0:=by omega
  have Qp:¬ (fs.length:Int)<=(k:Int):=by omega
  have hkr:∀ r∈rows,k<r.length:=fun r hr=>by rw[ox (rk.o r hr).1];exact te
  have iq:=Fe UM.o Cp.o.sf k te (by rw[Ci.o];exact hkr) (by rw[Ci.o];exact fun r hr=>(rk.o r hr).2) HRT.o;rw[Ci.o]at iq;have eZ:=eE (k:=k) rk.o (fS oo.o) (by have:=HNR.o;omega) te;have sg:=Fa (iY rk.o k) (Kt eZ);have Ll:=ae (iY rk.o k);have HKR:=ae hkr;have fT:(bq rows k).length=rows.length:=bR _ _
  have HRS:jaH (∀ U v,Sc U v (bq rows k)->Calls Tryz.prog 25 #[v] U fun e w'=>e=.returned (kU (bJ (bq rows k)))/\Below U.heap.size U w'):=ae (fun U v hU=>by
   have h:=yU hU Ll.o (by have:=HNR.o;omega);rw[sg]at h;exact h)
  have mH:=ae fT;clear XO hkr eZ sg fT;generalize bJ (bq rows k)=st at *;obtain⟨sr,sn,ss,sh,slo,shi⟩:=st;simp only[kU]at iq HRS;have co:=ae iq;clear iq;go_wp2_with fail;refine co.o.mono ?_;rintro e w9 ⟨rfl,sR⟩;have KA:=ae (ag uL.o sR);have HS9:=ae (HS8.o.kept sR);clear c0 c1 sR co;have Uq:=ae (KA.o.alloc KA.o.size (.cells #[.int .i64 sr,.int .i64 sn,.bool ss,.bool sh,.int .u8 (slo.1:Int),.int .i64 slo.2.1,.string (ai slo.2.2),.int .u8 (shi.1:Int),.int .i64 shi.2.1,.string (ai shi.2.2)] 54));have hzs:Stb (w9.alloc (.cells #[.int .i64 sr,.int .i64 sn,.bool ss,.bool sh,.int .u8 (slo.1:Int),.int .i64 slo.2.1,.string (ai slo.2.2),.int .u8 (shi.1:Int),.int .i64 shi.2.1,.string (ai shi.2.2)] 54)) w9.heap.size ⟨sr,sn,ss,sh,slo,shi⟩:=Stb.new w9 ⟨sr,sn,ss,sh,slo,shi⟩;have HZS:=ae hzs;have uX:=ae (HS9.o.kept (aj w9 (.cells #[.int .i64 sr,.int .i64 sn,.bool ss,.bool sh,.int .u8 (slo.1:Int),.int .i64 slo.2.1,.string (ai slo.2.2),.int .u8 (shi.1:Int),.int .i64 shi.2.1,.string (ai shi.2.2)] 54)));have c1':=(HQ.o _ Uq.o).2;clear hzs;go_upto_region 16 with fail
  generalize hV:w9.alloc (.cells #[.int .i64 sr,.int .i64 sn,.bool ss,.bool sh,.int .u8 (slo.1:Int),.int .i64 slo.2.1,.string (ai slo.2.2),.int .u8 (shi.1:Int),.int .i64 shi.2.1,.string (ai shi.2.2)] 54)=V at *;generalize w9.heap.size=q9 at *;clear hV c1'
  have Ym:jaH (∀ U,Below V.heap.size V U->U.cell? ⟨q9,0,none⟩=some (.int .i64 sr)/\U.cell? ⟨q9,1,none⟩=some (.int .i64 sn)/\U.cell? ⟨q9,2,none⟩=some (.bool ss)/\U.cell? ⟨q9,3,none⟩=some (.bool sh)/\U.cell? ⟨q9,4,none⟩=some (.int .u8 (slo.1:Int))/\U.cell? ⟨q9,5,none⟩=some (.int .i64 slo.2.1)/\U.cell? ⟨q9,6,none⟩=some (.string (ai slo.2.2))/\U.cell? ⟨q9,7,none⟩=some (.int .u8 (shi.1:Int))/\U.cell? ⟨q9,8,none⟩=some (.int .i64 shi.2.1)/\U.cell? ⟨q9,9,none⟩=some (.string (ai shi.2.2))):=ae (fun U hU=>by
   obtain⟨_,⟨t0,t1,t2,t3⟩,⟨t4,t5,t6⟩,t7,t8,t9⟩:=(HZS.o.kept hU).at;simp only[YY]at t0 t1 t2 t3 t4 t5 t6 t7 t8 t9;exact⟨t0,t1,t2,t3,t4,t5,t6,t7,t8,t9⟩)
  have H26:jaH (∀ U,Below V.heap.size V U->Calls Tryz.prog 26 #[.slice a5 rows.length c5,.int .i64 (k:Int)] U fun e w'=>∃ a c,e=.returned (.slice a rows.length c)/\Sc w' (.slice a rows.length c) (bq rows k)/\Below V.heap.size V w'):=ae (fun U hU=>by
   refine(sN (uX.o.kept hU) (by have:=HNR.o;omega) HKR.o).mono ?_;rintro e w' ⟨⟨v',rfl,how'⟩,hb'⟩;have uO:=how'.sc;obtain⟨a',c',rfl,_,_⟩:=bf how';rw[mH.o]at uO ⊢;exact⟨a',c',rfl,uO,ag hU hb'⟩)
  have H25:jaH (∀ U a c,Below V.heap.size V U->Sc U (.slice a rows.length c) (bq rows k)->Calls Tryz.prog 25 #[.slice a rows.length c] U fun e w'=>e=.returned (.agg #[.int .i64 sr,.int .i64 sn,.bool ss,.bool sh,.int .u8 (slo.1:Int),.int .i64 slo.2.1,.string (ai slo.2.2),.int .u8 (shi.1:Int),.int .i64 shi.2.1,.string (ai shi.2.2)])/\Below V.heap.size V w'):=ae (fun U a c hU uO=>(HRS.o U _ uO).mono fun e w' h=>⟨h.1,ag hU h.2⟩);have hq54:=UD sr sn ss sh (slo.1:Int) slo.2.1 (ai slo.2.2) (shi.1:Int) shi.2.1 (ai shi.2.2);generalize rows.length=nr at *;obtain⟨t0,t1,t2,t3,t4,t5,t6,t7,t8,t9⟩:=Ym.o V (Yz _ _);refine wp_region_noPanic ?_
  go_region_law (first
   | (go_simp;go_at_call 26;refine(H26.o _ ?_).mono ?_;exact ak (Yz V.heap.size V) _;rintro e y1 ⟨aa,cc,rfl,hsc1,uR⟩;obtain⟨t0,t1,t2,t3,t4,t5,t6,t7,t8,t9⟩:=Ym.o y1 uR;have HSC1:=ae hsc1;have Cq:=ae uR;clear hsc1 uR;dsimp only)
   | (go_simp;go_at_call 25;refine(H25.o _ _ _ ?_ ?_).mono ?_;(first | exact Cq.o | exact ak Cq.o _);(first | exact HSC1.o | exact HSC1.o.kept (ak (Yz y1.heap.size y1) _));rintro e y2 ⟨rfl,vW⟩;obtain⟨t0,t1,t2,t3,t4,t5,t6,t7,t8,t9⟩:=Ym.o y2 vW;have Lc:=ae vW;clear vW;dsimp only)
   | fail)
  all_goals refine NoPanic.normal ?_
  all_goals go_wp2_with fail
  all_goals go_ret
  all_goals exact⟨rfl,ag bV.o (ag Uq.o Lc.o)⟩
end BackLaw
open Go.RowKit Go.Lib
abbrev BU : List (String × DataW Unit) := [("catchment/crc.halves", Rows.laid_catchment_crc_halves)]
def Wu:List Int:=[0,498536548,997073096,651767980,1994146192,1802195444,1303535960,1342533948,3988292384,4027552580,3604390888,3412177804,2607071920,2262029012,2685067896,3183342108]
theorem Gt : Tryz.prog.globalNamed "catchment/crc.halves" = some 0 := by kernel_rfl
theorem TD:(Tryz.prog.globals[0]?).map (·.type)=some 245:=by kernel_rfl
theorem TE:Tryz.prog.cellsOf 22=1:=by kernel_rfl
theorem PX:Tryz.prog.cellsOf 245=16:=by kernel_rfl
theorem Wv:∀ i,i<16->Wu.getD i 0=((ez 4 i:Nat):Int):=by decide +kernel
theorem TF{W:World}(h:laidMetH Tryz.prog BU W):Tab W:=by
 rw[MakeChecks.laidMetH_plain _ _ _ (by kernel_rfl)]at h;have hT : TabIs Tryz.prog W "catchment/crc.halves" .u32 Wu := tabIs_of_head Gt TD Tryz.underlying245 Tryz.underlying22 TE PX h
 have hc:∀ i:Nat,i<16->W.cell? ⟨0,i,none⟩=some (.int .u32 ((ez 4 i:Nat):Int)):=fun i hi=>by
  have:=hT.cell Gt i (by simpa [Wu]using hi);rw[this,Wv i hi]
 refine⟨?_,hc⟩;have h0:=hc 0 (by omega);rcases Zw W.heap.size with hz | hz
 ·exfalso
  unfold World.cell? at h0;simp[hz]at h0
 ·exact hz
theorem PY(os:Os)(args:Array Value):laidMetH Tryz.prog BU ((World.doorLaid Tryz.prog 400 os).forCall (fun _ _=>0) ⟨#[],args,[]⟩).memory :=
 laidMetH_of_parts3 (fuel:=8) (laidMet_of_run' 8 (by kernel_rfl) (by kernel_rfl)) (by kernel_rfl) (by kernel_rfl)
open Go
theorem pP:joinedFacts Tryz.prog 4 Tryz.f4 Rows.colfileBackSpec Rows.colfileBackRow=true:=by
 unfold joinedFacts;simp only[Bool.and_eq_true];and_intros
 all_goals (as_aux_lemma=>kernel_rfl)
end Go.Proofs.YtpljdjmpamjkhaaGreatDoor
