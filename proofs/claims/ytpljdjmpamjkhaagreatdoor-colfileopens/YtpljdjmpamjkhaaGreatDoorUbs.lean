import Derived.Test.YtpljdjmpamjkhaaGreatDoorUbo
import Derived.Test.YtpljdjmpamjkhaaGreatDoorUbp
import Derived.Test.YtpljdjmpamjkhaaGreatDoorUbq
import Derived.Test.YtpljdjmpamjkhaaGreatDoorUbr
set_option linter.unusedVariables false
set_option linter.unusedSimpArgs false
set_option maxRecDepth 100000
set_option maxHeartbeats 8000000
namespace Go.Proofs.YtpljdjmpamjkhaaGreatDoor
open Go.RowKit Go.Lib
def T2(W:World)(B:Nat)(vb vf:Value)(lb lf:List Nat):Prop:=fL W B vb lb/\aD W B vf lf/\nD vb vf
theorem T2.kept{W W':World}{B:Nat}{vb vf:Value}{lb lf:List Nat}(h:T2 W B vb vf lb lf)(hb:Below W.heap.size W W'):T2 W' B vb vf lb lf:=⟨h.1.kept hb,h.2.1.kept hb,h.2.2⟩
theorem T2.addB{W W':World}{B:Nat}{vb vb' vf:Value}{lb lb' lf:List Nat}(h:T2 W B vb vf lb lf)(ho:aD W' B vb' lb')(hg:W.grownBy W' vb.ownBlock)(he:vb'.ownBlock=vb.ownBlock∨vb'.ownBlock=some W.heap.size)(hB:B<=W.heap.size):T2 W' B vb' vf lb' lf/\Below B W W' :=
 ⟨⟨.inl ho,World.ownsRow.kept h.2.1 hg h.2.2.symm.ne,h.2.2.grow he (fun k hk=>(World.ownsRow.lt h.2.1 k hk).2)⟩,(jdg B W).grown hg hB (fun k hk=>(h.1.lt k hk).1)⟩
theorem T2.addF{W W':World}{B:Nat}{vb vf vf':Value}{lb lf lf':List Nat}(h:T2 W B vb vf lb lf)(ho:aD W' B vf' lf')(hg:W.grownBy W' vf.ownBlock)(he:vf'.ownBlock=vf.ownBlock∨vf'.ownBlock=some W.heap.size)(hB:B<=W.heap.size):T2 W' B vb vf' lb lf'/\Below B W W' :=
 ⟨⟨h.1.grown hg h.2.2.ne,ho,(h.2.2.symm.grow he (fun k hk=>(h.1.lt k hk).2)).symm⟩,(jdg B W).grown hg hB (fun k hk=>(World.ownsRow.lt h.2.1 k hk).1)⟩
def T3(W:World)(B Bg:Nat)(vb vf vg:Value)(lb lf:List Nat)(xs:List Value)(n:Nat):Prop:=T2 W B vb vf lb lf/\W.ownsRow Bg 26 1 vg n xs
theorem T3.kept{W W':World}{B Bg n:Nat}{vb vf vg:Value}{lb lf:List Nat}{xs:List Value}(h:T3 W B Bg vb vf vg lb lf xs n)(hb:Below W.heap.size W W'):T3 W' B Bg vb vf vg lb lf xs n:=⟨h.1.kept hb,bI h.2 hb⟩
theorem mN{W W':World}{row:Option Nat}{Bg n e size:Nat}{vg:Value}{xs:List Value}(he:e≠5)(h:W.ownsRow Bg e size vg n xs)(hg:W.grownBy W' row)(hr:∀ k,row=some k->∃ cur fz,W.heap[k]?=some (.cells cur 5 fz)):W'.ownsRow Bg e size vg n xs :=
 bY h fun k hk=>hg.block k (aM h hk).2.1 (fun e'=>by
  obtain⟨_,_,c,h1⟩:=aM h hk;obtain⟨cur,fz,h2⟩:=hr k e'.symm;rw[h1]at h2;cases h2
  exact he rfl)
theorem T3.addB{W W':World}{B Bg n:Nat}{vb vb' vf vg:Value}{lb lb' lf:List Nat}{xs:List Value}(h:T3 W B Bg vb vf vg lb lf xs n)(ho:aD W' B vb' lb')(hg:W.grownBy W' vb.ownBlock)(he:vb'.ownBlock=vb.ownBlock∨vb'.ownBlock=some W.heap.size)(hB:B<=W.heap.size):T3 W' B Bg vb' vf vg lb' lf xs n/\Below B W W' :=
 ⟨⟨(h.1.addB ho hg he hB).1,mN (by decide) h.2 hg (fun k hk=>h.1.1.block k hk)⟩,(h.1.addB ho hg he hB).2⟩
theorem T3.addF{W W':World}{B Bg n:Nat}{vb vf vf' vg:Value}{lb lf lf':List Nat}{xs:List Value}(h:T3 W B Bg vb vf vg lb lf xs n)(ho:aD W' B vf' lf')(hg:W.grownBy W' vf.ownBlock)(he:vf'.ownBlock=vf.ownBlock∨vf'.ownBlock=some W.heap.size)(hB:B<=W.heap.size):T3 W' B Bg vb vf' vg lb lf' xs n/\Below B W W' :=
 ⟨⟨(h.1.addF ho hg he hB).1,mN (by decide) h.2 hg (fun k hk=>fL.block (.inl h.1.2.1) k hk)⟩,(h.1.addF ho hg he hB).2⟩
theorem Uf(cs:List Cl):(cy cs).some=false->(cy cs).high=false:=by
 unfold cy;split
 ·exact fun _=>rfl
 ·exact fun h=>by cases h
theorem Ph{fs:List Fd}{p:List Row}{k:Nat}(h:Col (lV fs k) (cV p k)):∀ c∈cV p k,c.1=lV fs k∨c=nul:=fun c hc=>by
 rcases h.2.2 c hc with e | ⟨hk,n,e,_⟩ | ⟨hk,n,e,_⟩ | ⟨hk,n,e,_⟩
 ·exact .inr e
 ·rw[e,hk];exact .inl rfl
 ·rw[e,hk];exact .inl rfl
 ·rw[e,hk];exact .inl rfl
theorem Ug(k:Nat)(l:List Cl):0<(eo k l).length:=by
 unfold eo dF;rw[jdj];split<;>simp only[jdn]<;>omega
theorem Pi{fs:List Fd}{rs:List Row}{g:Nat}(jT:fs.length<=8)(hk:∀ f∈fs,1<=f.2.2.1/\f.2.2.1<=3)(pC:rs.length<=256)(eS:1<=g)(dA:jQ fs rs){j k:Nat}(hj:j<=256)(pu:k<=fs.length) :
  (ir fs g rs j).length+(eN fs (prt g rs j) k).length<=50000000/\(ftJ fs g rs j).length+(ftK fs (prt g rs j) k).length<=400000:=by
 have kK:∀ j,(prt g rs j).length<=256:=fun j=>by rw[bZ];omega
 have dV:∀ j k,k<fs.length->Col (lV fs k) (cV (prt g rs j) k):=fun j k h=>eX (dA.part g j) hk (kK j) h
 have h1:∀ j,(eN fs (prt g rs j) fs.length).length<=172800:=fun j=>by have:=(me (dV j) (jdh _)).1;omega
 have h2:∀ j,(ftK fs (prt g rs j) fs.length).length<=1360:=fun j=>by have:=(oO (dA.part g j) (kK j) (dV j) (jdh _)).1;omega
 have h3:=ix h1 (List.range j);have h4:=ix h2 (List.range j);rw[je4]at h3 h4;have h5:=(me (dV j) pu).1;have h6:=(oO (dA.part g j) (kK j) (dV j) pu).1;have h7:172800*j<=172800*256:=jei _ hj;have h8:1360*j<=1360*256:=jei _ hj;have h9:(ir fs g rs j).length<=172800*j:=h3;have nk:(ftJ fs g rs j).length<=1360*j:=h4;constructor<;>omega
theorem jaZ(u:Nat)(h:u<1000000)(w:World):(binOp .quo 3 (.int .i64 (u:Int)) (.int .i64 256)).run Tryz.prog w=.ok (.int .i64 ((u / 256:Nat):Int)) w:=by
 have hqd:IntKind.i64.wrap ((u:Int).tdiv 256)=((u / 256:Nat):Int):=by
  rw[Int.tdiv_eq_ediv_of_nonneg (by omega),jdR];omega
 rw[← hqd];first | rfl | (simp[go_sem];done) | (simp[binOp,go_sem];done)
theorem Pj{w:World}{o:Oper}{a:Act}{K:Act->World->Prop}{Q:Exit->Act->World->Prop}(x:Operand)
  (ho:o.op=.binOp .quo 3 x (.const (.int .i64 256)) 3) (u:Nat) (hu:u<1000000) (hx:a.eval x=.int .i64 (u:Int)) (h:K (a.put o.dst (.int .i64 ((u / 256:Nat):Int))) w):Oper.wp Tryz.prog o a w K Q:=by
 have hq:=jaZ u hu w;have hc:a.eval (.const (.int .i64 256))=.int .i64 256:=rfl;have hg:(eqGuard BinOp.quo 3 x (Operand.const (.int .i64 256)) (.int .i64 (u:Int)) (.int .i64 256)).run Tryz.prog w=.ok () w:=rfl;unfold Oper.wp execOp;simp only[ho,Sem.run_bind,Sem.run_pure,Result.andThen_ok,hx,hc,hg,hq];exact h
theorem xE{w:World}{fv v:Value}{fs:List Fd}{rs:List Row}{id:Nat}(hs:Sf w fv fs)(hr:Sr w v rs)(ho:∀ f∈fs,Okf f)(na:id<4294967296)(hf:∀ r∈rs,∀ c∈r,aV c)(hl:rs.length<=1000)(g:Int) :
  Calls Tryz.prog 14 #[.agg #[.int .u32 (id:Int),fv],v,.int .i64 g] w fun e w'=>(∃ v',e=.returned (.tuple #[v',.int .i64 ((bU id fs rs g).2:Int)])/\aD w' w.heap.size v' (bU id fs rs g).1)/\Below w.heap.size w w':=by
 obtain⟨fa,fc,rfl,jbK,jbL⟩:=hs.form;obtain⟨a,cap,rfl,aY,bx⟩:=hr.form;have dY:=ak w (.cells #[.int .u32 (id:Int),.slice fa fs.length fc] 25);obtain⟨x0,x1⟩:=bF w (.int .u32 (id:Int)) (.slice fa fs.length fc) 25;have cm:(w.alloc (.cells #[.int .u32 (id:Int),.slice fa fs.length fc] 25)).heap.size=w.heap.size+1:=jdi _ _;have HS:=ae (hs.kept dY);have HR:=ae (hr.kept dY);have cE:=ae dY;have HF:=ae hf;have HO:=ae ho;have HZ0:=ae cm;generalize hA:w.alloc (.cells #[.int .u32 (id:Int),.slice fa fs.length fc] 25)=A at *
 have HQ:jfb (∀ U,Below A.heap.size A U->U.cell? ⟨w.heap.size,0,none⟩=some (.int .u32 (id:Int))/\U.cell? ⟨w.heap.size,1,none⟩=some (.slice fa fs.length fc)):=ae (fun U hU =>
  ⟨(hU.cell (p:=⟨w.heap.size,0,none⟩) (by show w.heap.size<_;omega)).trans x0,(hU.cell (p:=⟨w.heap.size,1,none⟩) (by show w.heap.size<_;omega)).trans x1⟩)
 have Cr:jfb (dU id fs rs g=if chk id fs≠0 then chk id fs else if g<1∨64<g then 1 else if 256<rs.length then 5 else kB fs rs):=ae rfl;have ZQ:jfb (∀ f,dU id fs rs g=f->f≠0->bU id fs rs g=([],f)):=ae (fun f e h=>by unfold bU;rw[e,jdf h]);have HWZ:jfb (dU id fs rs g=0->bU id fs rs g=if 65536<(bL (ex id fs rs g.toNat)).length then ([],4) else (bL (ex id fs rs g.toNat),0)):=ae (fun e=>by unfold bU;rw[e,jde (by simp)]);obtain⟨WM,hWM⟩:∃ WM,bU id fs rs g=WM:=⟨_,rfl⟩;rw[hWM]at ZQ HWZ ⊢;obtain⟨FW,hFW⟩:∃ FW,dU id fs rs g=FW:=⟨_,rfl⟩;rw[hFW]at Cr ZQ HWZ;have nf:=ae (BF HS.o id);obtain⟨c0,c1⟩:=HQ.o A (jdg _ _);clear hs hr dY hf ho cm x0 x1 hWM hFW;go_enter Tryz.func14,Tryz.ntmps14
 go_wp2_with fail;try rw[hA]
 clear hA;refine nf.o.mono ?_;rintro e w1 ⟨rfl,aH⟩;have aR:=ae aH;clear aH nf c0 c1;by_cases dR:chk id fs=0
 case neg =>
  have hckb:(((chk id fs:Nat):Int) != 0)=true:=by simp[dR]
  have xY:=ae (ZQ.o (chk id fs) (by rw[Cr.o,jdf dR]) dR);go_wp2_with fail;go_ret2
  rw[xY.o];exact⟨⟨_,rfl,aD.nil _ _⟩,ai cE.o aR.o⟩
 have hckb:(((chk id fs:Nat):Int) != 0)=false:=by simp[dR]
 have nf:=ae dR;rw[jde (by omega)]at Cr;by_cases eS:g<1
 ·have xY:=ae (ZQ.o 1 (by rw[Cr.o,jdf (Or.inl eS)]) (by omega))
  go_wp2_with fail;go_ret2
  rw[xY.o];exact⟨⟨_,rfl,aD.nil _ _⟩,ai cE.o aR.o⟩
 by_cases gM:g > 64
 ·have xY:=ae (ZQ.o 1 (by rw[Cr.o,jdf (Or.inr gM)]) (by omega))
  go_wp2_with fail;go_ret2
  rw[xY.o];exact⟨⟨_,rfl,aD.nil _ _⟩,ai cE.o aR.o⟩
 rw[jde (by omega)]at Cr;by_cases hl256:(rs.length:Int) > 256
 ·have xY:=ae (ZQ.o 5 (by rw[Cr.o,jdf (by omega)]) (by omega))
  go_wp2_with fail;go_ret2
  rw[xY.o];exact⟨⟨_,rfl,aD.nil _ _⟩,ai cE.o aR.o⟩
 rw[jde (by omega)]at Cr;clear dR;go_wp2_with fail;go_loopw [8,9] (fun e i wr=>∃ k:Nat,k<=rs.length/\i=.int .i64 (k:Int)/\kB fs rs=kB fs (rs.drop k)/\Below A.heap.size A wr) (fun _ i _=>rs.length-(intOf i).toNat)
 case atStart=>exact⟨0,by omega,rfl,rfl,aR.o⟩
 case round =>
  obtain⟨k,hk,rfl,lz,az⟩:=hrel;have LE:=ae lz;have HB:=ae az;clear lz;obtain⟨c0,c1⟩:=HQ.o wr az;by_cases aC:k<rs.length
  ·have hlt':(k:Int)<(rs.length:Int):=by omega
   obtain⟨gb,off,rv,rfl,PA,bq,LQ⟩:=(HR.o.kept az).at aC;obtain⟨ra,rc,rfl,_,_⟩:=LQ.form;have cT:=ae (zQ (fs:=fs) aC)
   have VO:jfb (∀ U,Below wr.heap.size wr U->Calls Tryz.prog 43 #[.agg #[.int .u32 (id:Int),.slice fa fs.length fc],.slice ra rs[k].length rc] U fun e w'=>e=.returned (.int .i64 (jL fs rs[k]:Int))/\Below wr.heap.size wr w'):=ae (fun U hU=>by
    refine(GY (HS.o.kept (az.trans (hU.mono az.size))) (LQ.kept hU) id).mono ?_;rintro e w' ⟨rfl,hb⟩;exact⟨rfl,ai hU hb⟩)
   generalize jL fs rs[k]=fm at *;generalize rs[k].length=rl at *;go_upto_region 11 with fail
   go_cut [8] from 134 (fun v wx=>v=.int .i64 (fm:Int)/\Below wr.heap.size wr wx)
   case first =>
    refine wp_region_noPanic ?_
    go_region_law (first
     | (go_simp;go_at_call 43;refine(VO.o _ ?_).mono ?_;exact ar (jdg wr.heap.size wr) _;rintro e w5 ⟨rfl,br⟩;have aS:=ae br;clear br;dsimp only)
     | fail)
    all_goals refine NoPanic.normal ?_
    all_goals go_wp2_with fail
    all_goals go_meet
    all_goals exact⟨rfl,aS.o⟩
   case rest =>
   obtain⟨rfl,FQ⟩:=hcut;obtain⟨w5,hw5⟩:∃ w5,w5=wc:=⟨_,rfl⟩;subst hw5;have aS:=ae (az.trans (FQ.mono az.size));clear FQ c0 c1 bq LQ az VO;by_cases hm:fm=0
   ·have hmz:((fm:Int) != 0)=false:=by simp[hm]
    have PO:jfb (kB fs (rs.drop k)=kB fs (rs.drop (k+1))):=ae (by rw[cT.o,jdf hm]);clear cT;go_wp2_with fail;go_roundw
    case rel=>exact⟨k+1,by omega,by go_num,by rw[LE.o,PO.o],aS.o⟩
    case measure=>simp[intOf];omega
   ·have hmz:((fm:Int) != 0)=true:=by simp[hm]
    have xY:=ae (ZQ.o fm (by rw[Cr.o,LE.o,cT.o,jde hm]) hm);go_wp2_with fail;go_ret2
    rw[xY.o];exact⟨⟨_,rfl,aD.nil _ _⟩,ai cE.o aS.o⟩
  ·obtain rfl:k=rs.length:=by omega
   have gL:¬ ((rs.length:Nat):Int)<(rs.length:Int):=(by omega);have hfz:kB fs rs=0:=by have h:=LE.o;rw[jeb]at h;exact h
   have HWM:=ae (HWZ.o (by rw[Cr.o,hfz]));obtain⟨gn,rfl⟩:=jeS (show 0<=g by omega);rw[jdM]at HWM;have Qc:1<=gn:=(by omega);have Yx:gn<=64:=(by omega);have pC:rs.length<=256:=(by omega);have dA:jQ fs rs:=fun r hr=>⟨mg hfz r hr,HF.o r hr⟩
   have ja4:=ae dA;obtain⟨vk,hfl8,hfl0⟩:=mH nf.o;have FV:=gY nf.o;have XU:=ae FV;have rZ:=ae (fun j k (hj:j<=256) (pu:k<=fs.length)=>Pi (g:=gn) hfl8 FV pC Qc dA hj pu);have UK:=ae (mf (g:=gn) HO.o na nf.o pC Qc Yx dA)
   have jct:jfb ((dB id fs).length<=400000):=ae (by
    have h:=(rI (g:=gn) HO.o na nf.o pC Qc Yx dA).1;unfold fX at h;simp only[jdj]at h;omega)
   have HFTL:=ae (rI (g:=gn) HO.o na nf.o pC Qc Yx dA);have hN:=kg (n:=rs.length) Qc pC;obtain⟨w5,hw5⟩:∃ w5,w5=wr:=⟨_,rfl⟩;subst hw5;have hz:=az.size;have fO:=dt w5 (.cells #[.int .u8 67,.int .u8 70,.int .u8 49] 5 (3,4))
   have uL:(convert 30 30 (.slice (some ⟨w5.heap.size,0,none⟩) 3 3)).run Tryz.prog (w5.alloc (.cells #[.int .u8 67,.int .u8 70,.int .u8 49] 5))=.ok (.slice (some ⟨w5.heap.size,0,none⟩) 3 3) (w5.alloc (.cells #[.int .u8 67,.int .u8 70,.int .u8 49] 5 (3,4))) :=
    run_convert_bytes_const w5 30 5 #[.int .u8 67,.int .u8 70,.int .u8 49] 3 3 Tryz.underlying30 Tryz.underlying5
   have xF:fL (w5.alloc (.cells #[.int .u8 67,.int .u8 70,.int .u8 49] 5 (3,4))) A.heap.size (.slice (some ⟨w5.heap.size,0,none⟩) 3 3) [67,70,49]:=Or.inr ⟨rfl,_,rfl,hz,jdH _ _⟩;have ni:=ae xF;have hBL:=az.alloc hz (.cells #[.int .u8 67,.int .u8 70,.int .u8 49] 5 (3,4));have Ps:=ae hBL;have HSZL:jfb (w5.heap.size<(w5.alloc (.cells #[.int .u8 67,.int .u8 70,.int .u8 49] 5 (3,4))).heap.size):=ae (by rw[jdi];omega);have Pr:=ae (Ft (HS.o.kept hBL) HO.o (by omega) vk id na);obtain⟨c0',c1'⟩:=HQ.o _ hBL;clear c0 c1 az fO xF hBL dA FV LE Cr HWZ ZQ;go_wp2_with fail;refine Pr.o.mono ?_;rintro e w6 ⟨⟨v6,rfl,o6⟩,dP⟩;have hBW6:=ai Ps.o dP
   have ht6:T2 w6 A.heap.size (.slice (some ⟨w5.heap.size,0,none⟩) 3 3) v6 [67,70,49] (dB id fs):=⟨ni.o.kept dP,be o6 Ps.o.size,fun q hq nc=>by
    have h1:=(World.ownsRow.lt o6 q nc).1;have h2:=HSZL.o;simp only[Value.ownBlock,jeq,Option.some.injEq]at hq;omega⟩
   have HT6:=ae ht6;have jc:=ae hBW6;have hwrL:IntKind.u64.wrap (rs.length:Int)=(rs.length:Int):=by rw[jdL];omega
   have hwrG:IntKind.u64.wrap (gn:Int)=(gn:Int):=by rw[jdL];omega
   have Cu:=ae (bD rs.length (by omega));have Fv:=ae (bD gn (by omega));clear hBW6 ht6 o6 dP Pr uL c0' c1' ni;have Yf:=bJ (n:=rs.length) (by omega);have hu2:=bJ (n:=gn) (by omega);go_wp2_with fail;refine(Cu.o _).mono ?_;rintro e w7 ⟨⟨v7,rfl,o7⟩,jk⟩;have HT7:=ae (HT6.o.kept jk);have ic:=ae (ai jc.o jk);have Qh:=ae o7.sv;clear o7 jk HT6;go_wp2_with (first | (at_builtin;refine aU rfl _ _ rfl A.heap.size _ _ (dB id fs) (uv rs.length) rfl ?qa1 rfl ?qb1 ?qc1 ?qd1 ?_))
   case qa1=>exact HT7.o.2.1
   case qb1=>exact Qh.o
   case qc1=>have:=jct.o;omega
   case qd1=>exact ic.o.size
   intro v8 w8 o8 b8 g8 e8;have h8:=HT7.o.addF o8 g8 e8 ic.o.size;have HT8:=ae h8.1;have qo:=ae (ic.o.trans h8.2);clear o8 b8 g8 e8 h8 HT7 Qh;go_wp2_with fail;refine(Fv.o _).mono ?_;rintro e w9 ⟨⟨v9,rfl,o9⟩,pB⟩;have HT9:=ae (HT8.o.kept pB);have pD:=ae (ai qo.o pB);have HS9:=ae o9.sv;clear o9 pB HT8;go_wp2_with (first | (at_builtin;refine aU rfl _ _ rfl A.heap.size _ _ (dB id fs++uv rs.length) (uv gn) rfl ?qa2 rfl ?qb2 ?qc2 ?qd2 ?_))
   case qa2=>exact HT9.o.2.1
   case qb2=>exact HS9.o
   case qc2=>have:=jct.o;rw[jdj];omega
   case qd2=>exact pD.o.size
   intro v10 w10 o10 b10 g10 e10;have nk:=HT9.o.addF o10 g10 e10 pD.o.size;have HT10:=ae nk.1;have uS:=ae (pD.o.trans nk.2);clear o10 b10 g10 e10 nk HT9 HS9;have HGR:=ae (uH HR.o uS.o hl Qc Yx);obtain⟨N,hNN⟩:∃ N,nps gn rs.length=N:=⟨_,rfl⟩;have HNN:=ae hNN;rw[hNN]at hN;clear hNN;go_wp2_with fail;refine HGR.o.mono ?_;rintro e w11 ⟨⟨vg,gs,rfl,hog,Pp,vE⟩,Qb⟩
   have Ye:gs.length=N:=by
    have h:=jdm List.length vE;rw[jdk]at h;unfold Ja at h;rw[jdk,je4]at h;rw[h];exact HNN.o
   have HGJ:jfb (∀ j (h:j<gs.length),Sr A gs[j].1 (prt gn rs j)):=ae (fun j h=>by
    have h1:=Pp gs[j] (jdl h);have h2:(gs.map Prod.snd)[j]?=(Ja gn rs)[j]?:=by rw[vE]
    have h3:gs[j].2=prt gn rs j:=by
     unfold Ja at h2;rw[List.getElem?_map,List.getElem?_eq_getElem h,List.getElem?_map,List.getElem?_range (by have:=HNN.o;omega)]at h2;simpa using h2
    rw[← h3];exact h1)
   obtain⟨ag,cg,rfl,hcg1,hcg2⟩:=bG hog
   have HT11:jfb (T3 w11 A.heap.size w10.heap.size (.slice (some ⟨w5.heap.size,0,none⟩) 3 3) v10 (.slice ag gs.length cg) [67,70,49] (dB id fs++uv rs.length++uv gn) (gs.map Prod.fst) gs.length):=ae ⟨by
    have h:=HT10.o.kept Qb;rw[jdw];first | exact h | (rw[jdw]at h;exact h),hog⟩
   have Yo:=ae (ai uS.o Qb);have HGL:=ae Ye;clear hog Pp vE Qb HGR HT10 Ye;have HJ0:jfb (ir fs gn rs 0=[]/\ftJ fs gn rs 0=[]):=ae ⟨rfl,rfl⟩;obtain⟨F0,hF0⟩:∃ F0,dB id fs++uv rs.length++uv gn=F0:=⟨_,rfl⟩;rw[hF0]at HT11;have Qm:=ae hF0;have HF0L:jfb (F0.length<=400020):=ae (by rw[← hF0];simp only[jdj];have:=jct.o;omega);clear hF0;go_wp2_with fail;go_loopw [10,11,13] (fun vb vf i wr=>∃ j:Nat,j<=gs.length/\i=.int .i64 (j:Int)/\T3 wr A.heap.size w10.heap.size vb vf (.slice ag gs.length cg) ([67,70,49]++ir fs gn rs j) (F0++ftJ fs gn rs j) (gs.map Prod.fst) gs.length/\Below A.heap.size A wr) (fun _ _ i _=>gs.length-(intOf i).toNat)
   case atStart=>exact⟨0,by omega,rfl,by rw[HJ0.o.1,HJ0.o.2,jdB,jdB];exact HT11.o,Yo.o⟩
   case round =>
    obtain⟨j,hj,rfl,ht3,az⟩:=hrel;have LW:=ae ht3;have HBJ:=ae az;clear ht3 az;by_cases hjt:j<gs.length
    ·have hjt':(j:Int)<(gs.length:Int):=by omega
     go_wp2_with fail;go_loopw [10,11,14] (fun vb vf i wx=>∃ k:Nat,k<=fs.length/\i=.int .i64 (k:Int)/\T3 wx A.heap.size w10.heap.size vb vf (.slice ag gs.length cg) ([67,70,49]++ir fs gn rs j++eN fs (prt gn rs j) k) (F0++ftJ fs gn rs j++ftK fs (prt gn rs j) k) (gs.map Prod.fst) gs.length/\Below A.heap.size A wx) (fun _ _ i _=>fs.length-(intOf i).toNat)
     case atStart =>
      refine⟨0,by omega,rfl,?_,HBJ.o⟩;have e1:eN fs (prt gn rs j) 0=[]:=rfl;have e2:ftK fs (prt gn rs j) 0=[]:=rfl;rw[e1,e2,jdB,jdB];exact LW.o
     case round =>
      obtain⟨k,hk,rfl,Vl,az⟩:=hrel;have HT4:=ae Vl;have HBK:=ae az;obtain⟨c0,c1⟩:=HQ.o wr az;have bP:=az.size;by_cases hkt:k<fs.length
      ·have hkt':(k:Int)<(fs.length:Int):=by omega
       have FN:=ja4.o.part gn j;have kK:=bZ gn rs j;obtain⟨p,hp⟩:∃ p,prt gn rs j=p:=⟨_,rfl⟩;have Yy:=lY fs (prt gn rs j) k;have Yz:=nM fs (prt gn rs j) k;have ut:=rZ.o j k (by have:=HGL.o;omega) (by omega);have Pp:=(HGJ.o j hjt).kept az;have HP:=ae hp;rw[hp]at FN kK Yy Yz ut Pp HT4;clear hp;have dV:Col (lV fs k) (cV p k):=eX FN XU.o (by omega) hkt;have Vs:=lW hkt;obtain⟨G,hag,_,hG,hgc⟩:=gZ HT4.o.2 (i:=j) (x:=gs[j].1) (by simp[hjt]);obtain⟨xa,xc,hxe,_,_⟩:=Pp.form;obtain⟨fb,foff,rfl,hfb,f0,f1,f2,f3⟩:=(HS.o.kept az).at hkt;have HV:=ae (uG Pp (by omega) (k:=k) (fun r hr=>by have:=qy (FN r hr).1;omega));rw[hxe]at hgc HV;obtain⟨q,hq⟩:∃ q,fs[k].2.2.1=q:=⟨_,rfl⟩;rw[hq]at Vs f2;have LO:1<=q/\q<=3:=by have:=XU.o _ (jdl hkt);rw[hq]at this;exact this
       have hwq:IntKind.i64.wrap (q:Int)=(q:Int):=by rw[jdR];omega
       rw[Vs]at dV Yy Yz;have nj:=ae dV;have HFP:=ae FN;have ur:=ae Yy;have tu:=ae Yz;have Ce:=ae ut;obtain⟨cs,Kf⟩:∃ cs,cV p k=cs:=⟨_,rfl⟩;have hp64:p.length<=64:=(by omega);have eQ:(cV p k).length<=64:=by rw[dr];exact hp64
       clear kK;have Ch:=ae (md FN k)
       have HKD:jfb (∀ c∈cV p k,c.1=q∨c=nul):=ae (by
        have h:=Ph (fs:=fs) (p:=p) (k:=k) (by rw[Vs];exact dV);rw[Vs]at h;exact h)
       rw[Kf]at eQ HV nj ur tu Ch HKD;subst hag;clear Vl Pp hxe FN dV Yy Yz ut Vs hq Kf az f0 f1 f3;go_wp2_with fail;refine HV.o.mono ?_;rintro e w12 ⟨⟨v12,rfl,o12⟩,pd⟩;have HT12:=ae (HT4.o.kept pd);have Cp:=ae (ai HBK.o pd);have jcu:=ae o12;obtain⟨xa2,xc2,rfl,_,_⟩:=bG o12;obtain⟨c0',c1'⟩:=HQ.o w12 Cp.o;have f2':=(pd.cell (p:=⟨fb,foff+k*4+2,none⟩) hfb).trans f2;have HW:=ae (BV (jcu.o.sc) (fun c hc=>(Ch.o c hc).wide) (by omega) q (by omega));rw[kl nj.o]at HW;clear o12 pd HV HT4 c0 c1 f2 hgc;go_wp2_with fail;refine HW.o.mono ?_;rintro e w13 ⟨⟨v13,rfl,o13⟩,KH⟩;have Vt:=ae (HT12.o.kept KH);have Vi:=ae (ai Cp.o KH);have HC13:=ae (jcu.o.kept KH);have VP:=Ug q cs;have hcz:=(io nj.o).1;have LX:=o13.sv;simp only at LX;obtain⟨CB,hCB⟩:∃ CB,eo q cs=CB:=⟨_,rfl⟩;have Ql:=ae hCB;obtain⟨LB,hLB⟩:∃ LB,[67,70,49]++ir fs gn rs j++eN fs p k=LB:=⟨_,rfl⟩;obtain⟨LF,hLF⟩:∃ LF,F0++ftJ fs gn rs j++ftK fs p k=LF:=⟨_,rfl⟩;have hlb:LB.length<=50000010:=by rw[← hLB];simp only[jdj,jdn,jdI];have:=Ce.o;omega
       have hlf:LF.length<=1000000:=by rw[← hLF];simp only[jdj];have:=Ce.o;have:=HF0L.o;omega
       rw[hCB]at VP hcz LX o13;rw[hLB,hLF]at Vt;have HLB:=ae hLB;have HLF:=ae hLF;obtain⟨xb,xcb,rfl,_,_⟩:=bG o13;have HS13:=ae LX;clear o13 KH HW HT12 jcu c0' c1' f2' hCB hLB hLF LX;go_wp2_with (first | (at_builtin;refine jH rfl _ _ rfl A.heap.size _ _ LB CB rfl ?qa3 rfl ?qb3 ?qp3 ?qc3 ?qd3 ?_))
       case qa3=>exact Vt.o.1.1
       case qb3=>exact HS13.o
       case qp3=>exact VP
       case qc3=>omega
       case qd3=>exact Vi.o.size
       intro v14 w14 o14 g14 e14;have h14:=Vt.o.addB o14 g14 e14 Vi.o.size;have HC14:=ae (mN (by decide) HC13.o g14 (fun k hk=>Vt.o.1.1.block k hk));have HT14:=ae h14.1;have jb7:=ae (Vi.o.trans h14.2);have hwC:IntKind.u64.wrap (CB.length:Int)=(CB.length:Int):=by rw[jdL];omega
       have Kz:=ae (bD CB.length (by omega));have YQ:=bJ (n:=CB.length) (by omega);clear o14 g14 e14 h14 HC13 Vt HS13;go_wp2_with fail;refine(Kz.o _).mono ?_;rintro e w15 ⟨⟨v15,rfl,o15⟩,YA⟩;have YB:=ae (HT14.o.kept YA);have jcv:=ae (ai jb7.o YA);have HC15:jfb (hO w15 _ _ cs):=ae (bI HC14.o YA);have HS15:=ae o15.sv;clear o15 YA HT14 HC14;go_wp2_with (first | (at_builtin;refine aU rfl _ _ rfl A.heap.size _ _ LF (uv CB.length) rfl ?qa4 rfl ?qb4 ?qc4 ?qd4 ?_))
       case qa4=>exact YB.o.1.2.1
       case qb4=>exact HS15.o
       case qc4=>omega
       case qd4=>exact jcv.o.size
       intro v16 w16 o16 b16 g16 e16;have h16:=YB.o.addF o16 g16 e16 jcv.o.size;have HC16:jfb (hO w16 _ _ cs):=ae (mN (by decide) HC15.o g16 (fun k hk=>fL.block (.inl YB.o.1.2.1) k hk));have HT16:=ae h16.1;have HB16:=ae (jcv.o.trans h16.2);have Vu:=ae (BW HC16.o.sc Ch.o (by omega));have Zd:=JX Ch.o HKD.o;rw[Zd]at Vu;obtain⟨sf1,sf2⟩:=kz Ch.o;obtain⟨sn,sn1,sn2⟩:=lh cs;have cT:=ae (xB sf1 sf2 ⟨sn,sn1,by omega⟩ (Uf cs));have ft:=(oN sf1 sf2 ⟨sn,sn1,by omega⟩).1;obtain⟨SM,hSM⟩:∃ SM,cy cs=SM:=⟨_,rfl⟩;rw[hSM]at Vu cT ft;have VB:=ae hSM;unfold uC at Vu cT;clear o16 b16 g16 e16 h16 YB HC15 HS15 Zd sf1 sf2 sn1 hSM;go_wp2_with fail;refine Vu.o.mono ?_;rintro e w17 ⟨rfl,jcw⟩;have HT17:=ae (HT16.o.kept jcw);have HB17:=ae (ai HB16.o jcw);clear jcw HT16 Vu HC16;go_wp2_with fail;refine(cT.o _).mono ?_;rintro e w18 ⟨⟨v18,rfl,o18⟩,jcx⟩;have jcy:=ae (HT17.o.kept jcx);have jcz:=ae (ai HB17.o jcx);have HS18:=ae o18.sv;clear o18 jcx HT17 cT;go_wp2_with (first | (at_builtin;refine aU rfl _ _ rfl A.heap.size _ _ (LF++uv CB.length) (ew SM) rfl ?qa5 rfl ?qb5 ?qc5 ?qd5 ?_))
       case qa5=>exact jcy.o.1.2.1
       case qb5=>exact HS18.o
       case qc5=>rw[jdj];omega
       case qd5=>exact jcz.o.size
       intro v19 w19 o19 b19 g19 e19;have h19:=jcy.o.addF o19 g19 e19 jcz.o.size;have HT19:=ae h19.1;have HB19:=ae (jcz.o.trans h19.2);have HEB:jfb ([67,70,49]++ir fs gn rs j++eN fs (prt gn rs j) (k+1)=LB++CB):=ae (by rw[HP.o,ur.o,Ql.o,← HLB.o,← jdw]);have HEF:jfb (F0++ftJ fs gn rs j++ftK fs (prt gn rs j) (k+1)=LF++uv CB.length++ew SM):=ae (by rw[HP.o,tu.o,Ql.o,VB.o,← HLF.o];simp only[jdw]);clear o19 b19 g19 e19 h19 jcy HS18;go_wp2_with fail;go_roundw
       case rel=>exact⟨k+1,by omega,by go_num,by rw[HEB.o,HEF.o];first | exact HT19.o | simpa only[jdw]using HT19.o,HB19.o⟩
       case measure=>simp[intOf];omega
      ·obtain rfl:k=fs.length:=by omega
       have hge2:¬ ((fs.length:Nat):Int)<(fs.length:Int):=(by omega);have HEB:jfb ([67,70,49]++ir fs gn rs (j+1)=[67,70,49]++ir fs gn rs j++eN fs (prt gn rs j) fs.length):=ae (by rw[sX,jdw]);have HEF:jfb (F0++ftJ fs gn rs (j+1)=F0++ftJ fs gn rs j++ftK fs (prt gn rs j) fs.length):=ae (by rw[xe,jdw]);clear Vl az;go_wp2_with fail;go_roundw
       case rel=>exact⟨j+1,by omega,by go_num,by rw[HEB.o,HEF.o];exact HT4.o,HBK.o⟩
       case measure=>simp[intOf];omega
    ·have hjn:j=N:=by have:=HGL.o;omega
     have hgej:¬ (j:Int)<(gs.length:Int):=(by omega);obtain⟨LB,hLB⟩:∃ LB,[67,70,49]++ir fs gn rs j=LB:=⟨_,rfl⟩;obtain⟨LF,hLF⟩:∃ LF,F0++ftJ fs gn rs j=LF:=⟨_,rfl⟩;have LY:fX id fs rs gn=LF:=by rw[← hLF,hjn,← Qm.o,← HNN.o];rfl
     have Vv:ex id fs rs gn=LB++LF++le4 LF.length:=by
      have hb:ir fs gn rs (nps gn rs.length)=ir fs gn rs j:=by rw[HNN.o,hjn]
      show [67,70,49]++(ir fs gn rs (nps gn rs.length)++fX id fs rs gn++le4 (fX id fs rs gn).length)=_
      rw[LY,hb,← hLB];simp only[jdw]
     have ut:=UK.o;rw[Vv]at ut
     have Zr:LB.length+LF.length+4<=60000000:=by
      have h:=ut.1;simp only[jdj,le4,jdn,jdI]at h;omega
     have FN:0<LF.length:=by
      have h1:=mt id;rw[← LY];unfold fX dB;simp only[jdj];omega
     have hlf:=HFTL.o.1;rw[LY]at hlf;rw[hLB,hLF]at LW;have Zl:=ae Vv;have Ci:=ae ut.2;clear hLB hLF LY Vv ut hjn;have hsvF:=LW.o.1.2.1.sv;obtain⟨af,cf,rfl,_,_⟩:=bG LW.o.1.2.1;have LS:=ae hsvF;clear hsvF;go_wp2_with (first | (at_builtin;refine jH rfl _ _ rfl A.heap.size _ _ LB LF rfl ?qa6 rfl ?qb6 ?qp6 ?qc6 ?qd6 ?_))
     case qa6=>exact LW.o.1.1
     case qb6=>exact LS.o
     try (case qp6=>exact FN)
     case qc6=>omega
     case qd6=>exact HBJ.o.size
     intro v20 w20 o20 g20 e20;have h20:=LW.o.addB o20 g20 e20 HBJ.o.size;have HO20:jfb (aD w20 A.heap.size v20 (LB++LF++(le4 LF.length).take 0)):=ae (by simpa using o20);have HB20:=ae (HBJ.o.trans h20.2);obtain⟨L,hL⟩:∃ L,LF.length=L:=⟨_,rfl⟩;have HLL:=ae hL;rw[hL]at HO20;have hL9:L<1000000:=(by omega)
     have PG:jfb (∀ m,m<4->(le4 L).take (m+1)=(le4 L).take m++[L / 256 ^ m % 256]/\L / 256 ^ (m+1)=L / 256 ^ m / 256):=ae (fun m hm=>by
      refine⟨?_,by rw[Nat.pow_succ,je7]⟩;obtain rfl | rfl | rfl | rfl:m=0∨m=1∨m=2∨m=3:=by omega
      all_goals simp[le4])
     clear o20 g20 e20 h20 LW LS hL;go_wp2_with fail;go_loopw [10,18,19] (fun vb n i wx=>∃ m:Nat,m<=4/\i=.int .i64 (m:Int)/\n=.int .i64 ((L / 256 ^ m:Nat):Int)/\aD wx A.heap.size vb (LB++LF++(le4 L).take m)/\Below A.heap.size A wx) (fun _ _ i _=>4-(intOf i).toNat)
     case atStart=>exact⟨0,by omega,rfl,by simp[HLL.o],HO20.o,HB20.o⟩
     case round =>
      obtain⟨m,hm,rfl,rfl,how,az⟩:=hrel;have UY:=ae how;have HBM:=ae az;have bP:=az.size;clear how az;by_cases hm4:m<4
      ·have hm4':(m:Int)<4:=by omega
       obtain⟨hd1,hd2⟩:=PG.o m hm4;have HD1:=ae hd1;have yI:=ae hd2;have oV:=Nat.div_le_self L (256 ^ m);generalize L / 256 ^ m=u at *;have hw8:IntKind.u8.wrap (u:Int)=((u % 256:Nat):Int):=by rw[IntKind.wrap_u8];omega
       have hdv:(u:Int) / 256=((u / 256:Nat):Int):=(by omega);have XD:((le4 L).take m).length<=4:=by rw[jdo];simp[le4];omega
       have Zg:=ae (cF wr (u % 256));clear hd1 hd2;go_wp2_with (first | (at_builtin;refine aU rfl _ _ rfl A.heap.size _ _ (LB++LF++(le4 L).take m) [u % 256] rfl ?qa7 rfl ?qb7 ?qc7 ?qd7 ?_))
       case qa7=>exact UY.o.kept (ak _ _)
       case qb7=>exact Zg.o.sv
       case qc7=>simp only[jdj,jdS];omega
       case qd7=>rw[jdi];omega
       intro v21 w21 o21 b21 g21 e21;have HO21:=ae o21;have HB21:=ae ((HBM.o.alloc bP _).trans b21);clear o21 b21 g21 e21;go_wp2_with fail;refine Pj _ rfl u (by omega) rfl ?_;apply_assumption
       try simp only[Act.put,jdv,jdr,jdu]
       go_wp2_with fail;go_roundw
       case rel=>exact⟨m+1,by omega,by go_num,by rw[yI.o],by rw[HD1.o,← jdw];first | exact HO21.o | simpa only[jdw]using HO21.o,HB21.o⟩
       case measure=>simp[intOf];omega
      ·obtain rfl:m=4:=by omega
       have hge4:¬ ((4:Nat):Int)<4:=(by omega);have Yu:LB++LF++(le4 L).take 4=ex id fs rs gn:=by rw[Zl.o,HLL.o];rfl
       rw[Yu]at UY;have Qn:(ex id fs rs gn).length<=100000000:=by have:=UK.o.1;omega
       have Zs:=ae (nT UY.o.sv.toK UK.o.2 Qn);obtain⟨SE,hSE⟩:∃ SE,bL (ex id fs rs gn)=SE:=⟨_,rfl⟩;rw[hSE]at Zs HWM;clear Yu Qn hSE;go_wp2_with fail;refine Zs.o.mono ?_;rintro e w22 ⟨⟨v22,rfl,o22⟩,hb22⟩;have HO22:=ae o22;have HB22:=ae (ai HBM.o hb22);have FE:w.heap.size<=wr.heap.size:=by have:=HZ0.o;omega
       obtain⟨a22,c22,rfl,_,_⟩:=bG o22;clear o22 hb22 Zs UY;by_cases PJ:(SE.length:Int) > 65536
       ·have xY:jfb (WM=([],4)):=ae (by rw[HWM.o,jdf (by omega)])
        go_wp2_with fail;go_ret2
        rw[xY.o];exact⟨⟨_,rfl,aD.nil _ _⟩,ai cE.o HB22.o⟩
       ·have xY:jfb (WM=(SE,0)):=ae (by rw[HWM.o,jde (by omega)])
        go_wp2_with fail;go_ret2
        rw[xY.o];exact⟨⟨_,rfl,be HO22.o FE⟩,ai cE.o HB22.o⟩
theorem uk{w:World}{v:Value}{l:List Nat}(hs:SvK w v l)(h8:Bs l)(hl:l.length<=100000000) :
  Calls Tryz.prog 33 #[v] w fun e w'=>(∃ u,e=.returned (.tuple #[u,.bool (et l).isSome])/\SvK w' u ((et l).getD []))/\Below w.heap.size w w':=by
 have HS:=ae hs;have H8:=ae h8;obtain⟨a,cap,rfl,h1,h2⟩:=hs.form;have oW:l.length<=9223372036854775807:=by omega
 by_cases h4:l.length<4
 ·rw[tV h4]
  have aC:(l.length:Int)<4:=by omega
  have hl4:l.length<=4:=by omega
  clear hs h8 h1 h2 h4 HS H8 oW;generalize l.length=L at *;go_enter Tryz.func33,Tryz.ntmps33
  go_wp2_with fail;go_quiet (fail)
  go_wp2_with fail;go_ret2
  exact⟨⟨_,rfl,SvK.nil _⟩,ar (jdg _ _) _⟩
 ·obtain⟨n,hn⟩:∃ n,l.length=n+4:=⟨l.length-4,by omega⟩
  have FU:n<=l.length:=by omega
  obtain⟨ad,rfl⟩:∃ ad,a=some ad:=by
   obtain⟨a',c',e1,_,_,_,h5⟩:=hs;simp only[Value.slice.injEq]at e1;obtain⟨rfl,_,_⟩:=e1;obtain⟨b,off,h6,_⟩:=h5 (by omega);exact⟨_,h6⟩
  have hA:=hs.take FU;have HA:=ae hA
  have iG:jfb (et l=if bL (l.take n)=l then some (l.take n) else none):=by
   show _=_
   unfold et;rw[hn,je9];simp
  have bR:(l.take n).length<=100000000:=by rw[jdo];omega
  have HSE:=ae (nT (hA.kept (jdg w.heap.size w).drew) (h8.take n) bR);have ur:=ae (h8.take n).seal;have Cf:=ae (uZ ur.o h8);have Ze:=ae (fun(W:World) (h:Below w.heap.size w W)=>(HS.o.kept h).conv H8.o);have HCS:=ae (fun(W:World) (u:Value) (h:SvK W u (bL (l.take n)))=>h.conv ur.o);unfold txt at Ze HCS;have Zj:n<=cap:=by omega
  obtain⟨L,hL⟩:∃ L,l.length=L:=⟨_,rfl⟩;have aC:¬ (L:Int)<4:=by omega
  have jJ:(4:Int)<=(L:Int):=by omega
  have hdec:decide ((L:Int)<4)=false:=jds aC;have Kj:IntKind.i64.wrap ((L:Int)-4)=(L:Int)-4:=by rw[jdR];omega
  have aH:(0:Int)<=(L:Int)-4:=by omega
  have aE:(L:Int)-4<=(cap:Int):=by omega
  have aQ:((L:Int)-4).toNat=n:=by omega
  have Zb:(0:Int)<=(n:Int):=by omega
  have hcap0:¬ cap=0:=by omega
  have hnc:(n:Int)<=(cap:Int):=by omega
  have hL9:L<=100000004:=by omega
  rw[hL]at HS Ze ⊢;have Kf:=Ze.o w.drew (jdg _ _).drew;generalize et l=R at *;generalize bL (l.take n)=M at *;generalize l.take n=m at *;clear hs h8 h1 h2 hA oW bR hL hn FU h4 hl;go_enter Tryz.func33,Tryz.ntmps33
  go_wp2_with fail;refine wp_region_noPanic ?_;go_region_held (fun w'=>(convert 30 9 (.slice (some ad) L cap)).run Tryz.prog w'=.ok (.string ⟨(l.map Nat.toUInt8).toArray⟩) w') (first | assumption | go_keep) (first | (go_at_call 32;refine HSE.o.mono ?_;rintro e w2 ⟨⟨u2,rfl,o2⟩,aE⟩;have uL:=HCS.o _ _ o2.svK;have kG:=Ze.o _ ((jdg _ _).drew.trans aE);clear o2))
  refine NoPanic.normal ?_;have aO:=ae ((jdg w.heap.size w).drew.trans aE);have BX:=ae (HA.o.kept aO.o);rw[Cf.o];clear uL kG Kf Ze HCS Cf HSE aE;by_cases nX:M=l
  ·have HR:jfb (R=some m):=by show _=_;rw[iG.o,jdf nX]
   rw[jdy nX];clear nX iG;go_wp2_with fail;go_ret2
   rw[HR.o];exact⟨⟨_,rfl,BX.o⟩,aO.o⟩
  ·have HR:jfb (R=none):=by show _=_;rw[iG.o,jde nX]
   rw[jds nX];clear nX iG;go_wp2_with fail;go_ret2
   rw[HR.o];exact⟨⟨_,rfl,SvK.nil _⟩,aO.o⟩
end Go.Proofs.YtpljdjmpamjkhaaGreatDoor
