import Derived.Test.YtpljdjmpamjkhaaGreatDoorYbv
import Derived.Test.YtpljdjmpamjkhaaGreatDoorYbf
import Derived.Test.YtpljdjmpamjkhaaGreatDoorYbh
import Derived.Test.YtpljdjmpamjkhaaGreatDoorYby
import Derived.Test.YtpljdjmpamjkhaaGreatDoorYbz
import Derived.Test.YtpljdjmpamjkhaaGreatDoorYca
import Derived.Test.YtpljdjmpamjkhaaGreatDoorYcb
import Derived.Test.YtpljdjmpamjkhaaGreatDoorYbp
import Derived.Lib.SlBytesConst
set_option linter.unusedVariables false
set_option linter.unusedSimpArgs false
set_option maxRecDepth 100000
set_option maxHeartbeats 8000000
namespace Go.Proofs.YtpljdjmpamjkhaaGreatDoor
open Go.RowKit Go.Lib
def T2(W:World)(B:Nat)(vb vf:Value)(lb lf:List Nat):Prop:=fJ W B vb lb/\aC W B vf lf/\nk vb vf
theorem T2.kept{W W':World}{B:Nat}{vb vf:Value}{lb lf:List Nat}(h:T2 W B vb vf lb lf)(hb:Below W.heap.size W W'):T2 W' B vb vf lb lf:=⟨h.1.kept hb,h.2.1.kept hb,h.2.2⟩
theorem T2.addB{W W':World}{B:Nat}{vb vb' vf:Value}{lb lb' lf:List Nat}(h:T2 W B vb vf lb lf)(ho:aC W' B vb' lb')(hg:W.grownBy W' vb.ownBlock)(he:vb'.ownBlock=vb.ownBlock∨vb'.ownBlock=some W.heap.size)(hB:B<=W.heap.size):T2 W' B vb' vf lb' lf/\Below B W W' :=
 ⟨⟨.inl ho,World.ownsRow.kept h.2.1 hg h.2.2.symm.ne,h.2.2.grow he (fun k hk=>(World.ownsRow.lt h.2.1 k hk).2)⟩,(ZQ B W).grown hg hB (fun k hk=>(h.1.lt k hk).1)⟩
theorem T2.addF{W W':World}{B:Nat}{vb vf vf':Value}{lb lf lf':List Nat}(h:T2 W B vb vf lb lf)(ho:aC W' B vf' lf')(hg:W.grownBy W' vf.ownBlock)(he:vf'.ownBlock=vf.ownBlock∨vf'.ownBlock=some W.heap.size)(hB:B<=W.heap.size):T2 W' B vb vf' lb lf'/\Below B W W' :=
 ⟨⟨h.1.grown hg h.2.2.ne,ho,(h.2.2.symm.grow he (fun k hk=>(h.1.lt k hk).2)).symm⟩,(ZQ B W).grown hg hB (fun k hk=>(World.ownsRow.lt h.2.1 k hk).1)⟩
def T3(W:World)(B Bg:Nat)(vb vf vg:Value)(lb lf:List Nat)(xs:List Value)(n:Nat):Prop:=T2 W B vb vf lb lf/\W.ownsRow Bg 26 1 vg n xs
theorem T3.kept{W W':World}{B Bg n:Nat}{vb vf vg:Value}{lb lf:List Nat}{xs:List Value}(h:T3 W B Bg vb vf vg lb lf xs n)(hb:Below W.heap.size W W'):T3 W' B Bg vb vf vg lb lf xs n:=⟨h.1.kept hb,bH h.2 hb⟩
theorem mE{W W':World}{row:Option Nat}{Bg n e size:Nat}{vg:Value}{xs:List Value}(he:e≠5)(h:W.ownsRow Bg e size vg n xs)(hg:W.grownBy W' row)(hr:∀ k,row=some k->∃ cur fz,W.heap[k]?=some (.cells cur 5 fz)):W'.ownsRow Bg e size vg n xs :=
 bX h fun k hk=>hg.block k (aL h hk).2.1 (fun e'=>by
  obtain⟨_,_,c,h1⟩:=aL h hk;obtain⟨cur,fz,h2⟩:=hr k e'.symm;rw[h1]at h2;cases h2
  exact he rfl)
theorem T3.addB{W W':World}{B Bg n:Nat}{vb vb' vf vg:Value}{lb lb' lf:List Nat}{xs:List Value}(h:T3 W B Bg vb vf vg lb lf xs n)(ho:aC W' B vb' lb')(hg:W.grownBy W' vb.ownBlock)(he:vb'.ownBlock=vb.ownBlock∨vb'.ownBlock=some W.heap.size)(hB:B<=W.heap.size):T3 W' B Bg vb' vf vg lb' lf xs n/\Below B W W' :=
 ⟨⟨(h.1.addB ho hg he hB).1,mE (by decide) h.2 hg (fun k hk=>h.1.1.block k hk)⟩,(h.1.addB ho hg he hB).2⟩
theorem T3.addF{W W':World}{B Bg n:Nat}{vb vf vf' vg:Value}{lb lf lf':List Nat}{xs:List Value}(h:T3 W B Bg vb vf vg lb lf xs n)(ho:aC W' B vf' lf')(hg:W.grownBy W' vf.ownBlock)(he:vf'.ownBlock=vf.ownBlock∨vf'.ownBlock=some W.heap.size)(hB:B<=W.heap.size):T3 W' B Bg vb vf' vg lb lf' xs n/\Below B W W' :=
 ⟨⟨(h.1.addF ho hg he hB).1,mE (by decide) h.2 hg (fun k hk=>fJ.block (.inl h.1.2.1) k hk)⟩,(h.1.addF ho hg he hB).2⟩
theorem Rb(cs:List Cl):(ct cs).some=false->(ct cs).high=false:=by
 unfold ct;split
 ·exact fun _=>rfl
 ·exact fun h=>by cases h
theorem Mc{fs:List Fd}{p:List Row}{k:Nat}(h:Col (lO fs k) (cT p k)):∀ c∈cT p k,c.1=lO fs k∨c=nul:=fun c hc=>by
 rcases h.2.2 c hc with e | ⟨hk,n,e,_⟩ | ⟨hk,n,e,_⟩ | ⟨hk,n,e,_⟩
 ·exact .inr e
 ·rw[e,hk];exact .inl rfl
 ·rw[e,hk];exact .inl rfl
 ·rw[e,hk];exact .inl rfl
theorem Rc(k:Nat)(l:List Cl):0<(em k l).length:=by
 unfold em dD;rw[ZT];split<;>simp only[ZW]<;>omega
theorem Md{fs:List Fd}{rs:List Row}{g:Nat}(jM:fs.length<=8)(hk:∀ f∈fs,1<=f.2.2.1/\f.2.2.1<=3)(ph:rs.length<=256)(eQ:1<=g)(dy:jJ fs rs){j k:Nat}(hj:j<=256)(pd:k<=fs.length) :
  (ip fs g rs j).length+(eL fs (prt g rs j) k).length<=50000000/\(ftJ fs g rs j).length+(ftK fs (prt g rs j) k).length<=400000:=by
 have kD:∀ j,(prt g rs j).length<=256:=fun j=>by rw[bY];omega
 have dT:∀ j k,k<fs.length->Col (lO fs k) (cT (prt g rs j) k):=fun j k h=>eV (dy.part g j) hk (kD j) h
 have h1:∀ j,(eL fs (prt g rs j) fs.length).length<=172800:=fun j=>by have:=(lW (dT j) (ZR _)).1;omega
 have h2:∀ j,(ftK fs (prt g rs j) fs.length).length<=1360:=fun j=>by have:=(ow (dy.part g j) (kD j) (dT j) (ZR _)).1;omega
 have h3:=iv h1 (List.range j);have h4:=iv h2 (List.range j);rw[jbs]at h3 h4;have h5:=(lW (dT j) pd).1;have h6:=(ow (dy.part g j) (kD j) (dT j) pd).1;have h7:172800*j<=172800*256:=jaL _ hj;have h8:1360*j<=1360*256:=jaL _ hj;have h9:(ip fs g rs j).length<=172800*j:=h3;have mY:(ftJ fs g rs j).length<=1360*j:=h4;constructor<;>omega
theorem XB(u:Nat)(h:u<1000000)(w:World):(binOp .quo 3 (.int .i64 (u:Int)) (.int .i64 256)).run Tryz.prog w=.ok (.int .i64 ((u / 256:Nat):Int)) w:=by
 have hqd:IntKind.i64.wrap ((u:Int).tdiv 256)=((u / 256:Nat):Int):=by
  rw[Int.tdiv_eq_ediv_of_nonneg (by omega),jam];omega
 rw[← hqd];first | rfl | (simp[go_sem];done) | (simp[binOp,go_sem];done)
theorem Me{w:World}{o:Oper}{a:Act}{K:Act->World->Prop}{Q:Exit->Act->World->Prop}(x:Operand)
  (ho:o.op=.binOp .quo 3 x (.const (.int .i64 256)) 3) (u:Nat) (hu:u<1000000) (hx:a.eval x=.int .i64 (u:Int)) (h:K (a.put o.dst (.int .i64 ((u / 256:Nat):Int))) w):Oper.wp Tryz.prog o a w K Q:=by
 have hq:=XB u hu w;have hc:a.eval (.const (.int .i64 256))=.int .i64 256:=rfl;have hg:(eqGuard BinOp.quo 3 x (Operand.const (.int .i64 256)) (.int .i64 (u:Int)) (.int .i64 256)).run Tryz.prog w=.ok () w:=rfl;unfold Oper.wp execOp;simp only[ho,Sem.run_bind,Sem.run_pure,Result.andThen_ok,hx,hc,hg,hq];exact h
theorem xg{w:World}{fv v:Value}{fs:List Fd}{rs:List Row}{id:Nat}(hs:Sf w fv fs)(hr:Sr w v rs)(ho:∀ f∈fs,Okf f)(mR:id<4294967296)(hf:∀ r∈rs,∀ c∈r,aU c)(hl:rs.length<=1000)(g:Int) :
  Calls Tryz.prog 14 #[.agg #[.int .u32 (id:Int),fv],v,.int .i64 g] w fun e w'=>(∃ v',e=.returned (.tuple #[v',.int .i64 ((bT id fs rs g).2:Int)])/\aC w' w.heap.size v' (bT id fs rs g).1)/\Below w.heap.size w w':=by
 obtain⟨fa,fc,rfl,Ym,Yn⟩:=hs.form;obtain⟨a,cap,rfl,aX,bw⟩:=hr.form;have dW:=ak w (.cells #[.int .u32 (id:Int),.slice fa fs.length fc] 25);obtain⟨x0,x1⟩:=bE w (.int .u32 (id:Int)) (.slice fa fs.length fc) 25;have ce:(w.alloc (.cells #[.int .u32 (id:Int),.slice fa fs.length fc] 25)).heap.size=w.heap.size+1:=ZS _ _;have HS:=ae (hs.kept dW);have HR:=ae (hr.kept dW);have cC:=ae dW;have HF:=ae hf;have HO:=ae ho;have X8:=ae ce;generalize hA:w.alloc (.cells #[.int .u32 (id:Int),.slice fa fs.length fc] 25)=A at *
 have HQ:Hid (∀ U,Below A.heap.size A U->U.cell? ⟨w.heap.size,0,none⟩=some (.int .u32 (id:Int))/\U.cell? ⟨w.heap.size,1,none⟩=some (.slice fa fs.length fc)):=ae (fun U hU =>
  ⟨(hU.cell (p:=⟨w.heap.size,0,none⟩) (by show w.heap.size<_;omega)).trans x0,(hU.cell (p:=⟨w.heap.size,1,none⟩) (by show w.heap.size<_;omega)).trans x1⟩)
 have BI:Hid (dS id fs rs g=if chk id fs≠0 then chk id fs else if g<1∨64<g then 1 else if 256<rs.length then 5 else kr fs rs):=ae rfl;have Wt:Hid (∀ f,dS id fs rs g=f->f≠0->bT id fs rs g=([],f)):=ae (fun f e h=>by unfold bT;rw[e,if_pos h]);have HWZ:Hid (dS id fs rs g=0->bT id fs rs g=if 65536<(bK (et id fs rs g.toNat)).length then ([],4) else (bK (et id fs rs g.toNat),0)):=ae (fun e=>by unfold bT;rw[e,if_neg (by simp)]);obtain⟨WM,hWM⟩:∃ WM,bT id fs rs g=WM:=⟨_,rfl⟩;rw[hWM]at Wt HWZ ⊢;obtain⟨FW,hFW⟩:∃ FW,dS id fs rs g=FW:=⟨_,rfl⟩;rw[hFW]at BI Wt HWZ;have mT:=ae (A5 HS.out id);obtain⟨c0,c1⟩:=HQ.out A (ZQ _ _);clear hs hr dW hf ho ce x0 x1 hWM hFW;go_enter Tryz.func14,Tryz.ntmps14
 go_wp2_with fail;try rw[hA]
 clear hA;refine mT.out.mono ?_;rintro e w1 ⟨rfl,aG⟩;have aQ:=ae aG;clear aG mT c0 c1;by_cases dP:chk id fs=0
 case neg =>
  have hckb:(((chk id fs:Nat):Int) != 0)=true:=by simp[dP]
  have xC:=ae (Wt.out (chk id fs) (by rw[BI.out,if_pos dP]) dP);go_wp2_with fail;go_ret2
  rw[xC.out];exact⟨⟨_,rfl,aC.nil _ _⟩,ai cC.out aQ.out⟩
 have hckb:(((chk id fs:Nat):Int) != 0)=false:=by simp[dP]
 have mT:=ae dP;rw[if_neg (by omega)]at BI;by_cases eQ:g<1
 ·have xC:=ae (Wt.out 1 (by rw[BI.out,if_pos (Or.inl eQ)]) (by omega))
  go_wp2_with fail;go_ret2
  rw[xC.out];exact⟨⟨_,rfl,aC.nil _ _⟩,ai cC.out aQ.out⟩
 by_cases gK:g > 64
 ·have xC:=ae (Wt.out 1 (by rw[BI.out,if_pos (Or.inr gK)]) (by omega))
  go_wp2_with fail;go_ret2
  rw[xC.out];exact⟨⟨_,rfl,aC.nil _ _⟩,ai cC.out aQ.out⟩
 rw[if_neg (by omega)]at BI;by_cases hl256:(rs.length:Int) > 256
 ·have xC:=ae (Wt.out 5 (by rw[BI.out,if_pos (by omega)]) (by omega))
  go_wp2_with fail;go_ret2
  rw[xC.out];exact⟨⟨_,rfl,aC.nil _ _⟩,ai cC.out aQ.out⟩
 rw[if_neg (by omega)]at BI;clear dP;go_wp2_with fail;go_loopw [8,9] (fun e i wr=>∃ k:Nat,k<=rs.length/\i=.int .i64 (k:Int)/\kr fs rs=kr fs (rs.drop k)/\Below A.heap.size A wr) (fun _ i _=>rs.length-(intOf i).toNat)
 case atStart=>exact⟨0,by omega,rfl,rfl,aQ.out⟩
 case round =>
  obtain⟨k,hk,rfl,lq,ay⟩:=hrel;have J1:=ae lq;have HB:=ae ay;clear lq;obtain⟨c0,c1⟩:=HQ.out wr ay;by_cases aB:k<rs.length
  ·have hlt':(k:Int)<(rs.length:Int):=by omega
   obtain⟨gb,off,rv,rfl,Mu,bo,Ka⟩:=(HR.out.kept ay).at aB;obtain⟨ra,rc,rfl,_,_⟩:=Ka.form;have cP:=ae (zu (fs:=fs) aB)
   have SZ:Hid (∀ U,Below wr.heap.size wr U->Calls Tryz.prog 43 #[.agg #[.int .u32 (id:Int),.slice fa fs.length fc],.slice ra rs[k].length rc] U fun e w'=>e=.returned (.int .i64 (jE fs rs[k]:Int))/\Below wr.heap.size wr w'):=ae (fun U hU=>by
    refine(FG (HS.out.kept (ay.trans (hU.mono ay.size))) (Ka.kept hU) id).mono ?_;rintro e w' ⟨rfl,hb⟩;exact⟨rfl,ai hU hb⟩)
   generalize jE fs rs[k]=fm at *;generalize rs[k].length=rl at *;go_upto_region 11 with fail
   go_cut [8] from 134 (fun v wx=>v=.int .i64 (fm:Int)/\Below wr.heap.size wr wx)
   case first =>
    refine wp_region_noPanic ?_
    go_region_law (first
     | (go_simp;go_at_call 43;refine(SZ.out _ ?_).mono ?_;exact below_drewN (ZQ wr.heap.size wr) _;rintro e w5 ⟨rfl,bq⟩;have aR:=ae bq;clear bq;dsimp only)
     | fail)
    all_goals refine NoPanic.normal ?_
    all_goals go_wp2_with fail
    all_goals go_meet
    all_goals exact⟨rfl,aR.out⟩
   case rest =>
   obtain⟨rfl,EK⟩:=hcut;obtain⟨w5,hw5⟩:∃ w5,w5=wc:=⟨_,rfl⟩;subst hw5;have aR:=ae (ay.trans (EK.mono ay.size));clear EK c0 c1 bo Ka ay SZ;by_cases hm:fm=0
   ·have Yu:((fm:Int) != 0)=false:=by simp[hm]
    have MF:Hid (kr fs (rs.drop k)=kr fs (rs.drop (k+1))):=ae (by rw[cP.out,if_pos hm]);clear cP;go_wp2_with fail;go_roundw
    case rel=>exact⟨k+1,by omega,by go_num,by rw[J1.out,MF.out],aR.out⟩
    case measure=>simp[intOf];omega
   ·have Yu:((fm:Int) != 0)=true:=by simp[hm]
    have xC:=ae (Wt.out fm (by rw[BI.out,J1.out,cP.out,if_neg hm]) hm);go_wp2_with fail;go_ret2
    rw[xC.out];exact⟨⟨_,rfl,aC.nil _ _⟩,ai cC.out aR.out⟩
  ·obtain rfl:k=rs.length:=by omega
   have gJ:¬ ((rs.length:Nat):Int)<(rs.length:Int):=by omega
   have hfz:kr fs rs=0:=by have h:=J1.out;rw[jaE]at h;exact h
   have HWM:=ae (HWZ.out (by rw[BI.out,hfz]));obtain⟨gn,rfl⟩:=jbg (show 0<=g by omega);rw[jah]at HWM;have MR:1<=gn:=by omega
   have Vj:gn<=64:=by omega
   have ph:rs.length<=256:=by omega
   have dy:jJ fs rs:=fun r hr=>⟨lY hfz r hr,HF.out r hr⟩
   have XG:=ae dy;obtain⟨uG,hfl8,hfl0⟩:=my mT.out;have EP:=gW mT.out;have UO:=ae EP;have rH:=ae (fun j k (hj:j<=256) (pd:k<=fs.length)=>Md (g:=gn) hfl8 EP ph MR dy hj pd);have RM:=ae (lX (g:=gn) HO.out mR mT.out ph MR Vj dy)
   have Y5:Hid ((dz id fs).length<=400000):=ae (by
    have h:=(rh (g:=gn) HO.out mR mT.out ph MR Vj dy).1;unfold fV at h;simp only[ZT]at h;omega)
   have HFTL:=ae (rh (g:=gn) HO.out mR mT.out ph MR Vj dy);have hN:=jW (n:=rs.length) MR ph;obtain⟨w5,hw5⟩:∃ w5,w5=wr:=⟨_,rfl⟩;subst hw5;have hz:=ay.size;have fM:=dq w5 (.cells #[.int .u8 67,.int .u8 70,.int .u8 49] 5 (3,4))
   have uk:(convert 30 30 (.slice (some ⟨w5.heap.size,0,none⟩) 3 3)).run Tryz.prog (w5.alloc (.cells #[.int .u8 67,.int .u8 70,.int .u8 49] 5))=.ok (.slice (some ⟨w5.heap.size,0,none⟩) 3 3) (w5.alloc (.cells #[.int .u8 67,.int .u8 70,.int .u8 49] 5 (3,4))) :=
    run_convert_bytes_const w5 30 5 #[.int .u8 67,.int .u8 70,.int .u8 49] 3 3 Tryz.underlying30 Tryz.underlying5
   have xh:fJ (w5.alloc (.cells #[.int .u8 67,.int .u8 70,.int .u8 49] 5 (3,4))) A.heap.size (.slice (some ⟨w5.heap.size,0,none⟩) 3 3) [67,70,49]:=Or.inr ⟨rfl,_,rfl,hz,heap_alloc_new _ _⟩;have mW:=ae xh;have hBL:=ay.alloc hz (.cells #[.int .u8 67,.int .u8 70,.int .u8 49] 5 (3,4));have Mm:=ae hBL;have HSZL:Hid (w5.heap.size<(w5.alloc (.cells #[.int .u8 67,.int .u8 70,.int .u8 49] 5 (3,4))).heap.size):=ae (by rw[ZS];omega);have Ml:=ae (El (HS.out.kept hBL) HO.out (by omega) uG id mR);obtain⟨c0',c1'⟩:=HQ.out _ hBL;clear c0 c1 ay fM xh hBL dy EP J1 BI HWZ Wt;go_wp2_with fail;refine Ml.out.mono ?_;rintro e w6 ⟨⟨v6,rfl,o6⟩,dN⟩;have hBW6:=ai Mm.out dN
   have ht6:T2 w6 A.heap.size (.slice (some ⟨w5.heap.size,0,none⟩) 3 3) v6 [67,70,49] (dz id fs):=⟨mW.out.kept dN,aZ o6 Mm.out.size,fun q hq mS=>by
    have h1:=(World.ownsRow.lt o6 q mS).1;have h2:=HSZL.out;simp only[Value.ownBlock,jaS,Option.some.injEq]at hq;omega⟩
   have HT6:=ae ht6;have i5:=ae hBW6;have hwrL:IntKind.u64.wrap (rs.length:Int)=(rs.length:Int):=by rw[jag];omega
   have hwrG:IntKind.u64.wrap (gn:Int)=(gn:Int):=by rw[jag];omega
   have BM:=ae (bC rs.length (by omega));have En:=ae (bC gn (by omega));clear hBW6 ht6 o6 dN Ml uk c0' c1' mW;have U0:=bI (n:=rs.length) (by omega);have hu2:=bI (n:=gn) (by omega);go_wp2_with fail;refine(BM.out _).mono ?_;rintro e w7 ⟨⟨v7,rfl,o7⟩,jd⟩;have ZN:=ae (HT6.out.kept jd);have ia:=ae (ai i5.out jd);have MW:=ae o7.sv;clear o7 jd HT6;go_wp2_with (first | (at_builtin;refine aT rfl _ _ rfl A.heap.size _ _ (dz id fs) (uv rs.length) rfl ?qa1 rfl ?qb1 ?qc1 ?qd1 ?_))
   case qa1=>exact ZN.out.2.1
   case qb1=>exact MW.out
   case qc1=>have:=Y5.out;omega
   case qd1=>exact ia.out.size
   intro v8 w8 o8 b8 g8 e8;have h8:=ZN.out.addF o8 g8 e8 ia.out.size;have HT8:=ae h8.1;have p6:=ae (ia.out.trans h8.2);clear o8 b8 g8 e8 h8 ZN MW;go_wp2_with fail;refine(En.out _).mono ?_;rintro e w9 ⟨⟨v9,rfl,o9⟩,pg⟩;have HT9:=ae (HT8.out.kept pg);have pi:=ae (ai p6.out pg);have HS9:=ae o9.sv;clear o9 pg HT8;go_wp2_with (first | (at_builtin;refine aT rfl _ _ rfl A.heap.size _ _ (dz id fs++uv rs.length) (uv gn) rfl ?qa2 rfl ?qb2 ?qc2 ?qd2 ?_))
   case qa2=>exact HT9.out.2.1
   case qb2=>exact HS9.out
   case qc2=>have:=Y5.out;rw[ZT];omega
   case qd2=>exact pi.out.size
   intro v10 w10 o10 b10 g10 e10;have mY:=HT9.out.addF o10 g10 e10 pi.out.size;have HT10:=ae mY.1;have ux:=ae (pi.out.trans mY.2);clear o10 b10 g10 e10 mY HT9 HS9;have HGR:=ae (ug HR.out ux.out hl MR Vj);obtain⟨N,hNN⟩:∃ N,nps gn rs.length=N:=⟨_,rfl⟩;have HNN:=ae hNN;rw[hNN]at hN;clear hNN;go_wp2_with fail;refine HGR.out.mono ?_;rintro e w11 ⟨⟨vg,gs,rfl,hog,Mj,uJ⟩,MQ⟩
   have UZ:gs.length=N:=by
    have h:=congrArg List.length uJ;rw[ZU]at h;unfold Ge at h;rw[ZU,jbs]at h;rw[h];exact HNN.out
   have HGJ:Hid (∀ j (h:j<gs.length),Sr A gs[j].1 (prt gn rs j)):=ae (fun j h=>by
    have h1:=Mj gs[j] (ZV h);have h2:(gs.map Prod.snd)[j]?=(Ge gn rs)[j]?:=by rw[uJ]
    have h3:gs[j].2=prt gn rs j:=by
     unfold Ge at h2;rw[List.getElem?_map,List.getElem?_eq_getElem h,List.getElem?_map,List.getElem?_range (by have:=HNN.out;omega)]at h2;simpa using h2
    rw[← h3];exact h1)
   obtain⟨ag,cg,rfl,hcg1,hcg2⟩:=bF hog
   have HT11:Hid (T3 w11 A.heap.size w10.heap.size (.slice (some ⟨w5.heap.size,0,none⟩) 3 3) v10 (.slice ag gs.length cg) [67,70,49] (dz id fs++uv rs.length++uv gn) (gs.map Prod.fst) gs.length):=ae ⟨by
    have h:=HT10.out.kept MQ;rw[Z4];first | exact h | (rw[Z4]at h;exact h),hog⟩
   have Va:=ae (ai ux.out MQ);have ZL:=ae UZ;clear hog Mj uJ MQ HGR HT10 UZ;have Yy:Hid (ip fs gn rs 0=[]/\ftJ fs gn rs 0=[]):=ae ⟨rfl,rfl⟩;obtain⟨F0,hF0⟩:∃ F0,dz id fs++uv rs.length++uv gn=F0:=⟨_,rfl⟩;rw[hF0]at HT11;have M4:=ae hF0;have HF0L:Hid (F0.length<=400020):=ae (by rw[← hF0];simp only[ZT];have:=Y5.out;omega);clear hF0;go_wp2_with fail;go_loopw [10,11,13] (fun vb vf i wr=>∃ j:Nat,j<=gs.length/\i=.int .i64 (j:Int)/\T3 wr A.heap.size w10.heap.size vb vf (.slice ag gs.length cg) ([67,70,49]++ip fs gn rs j) (F0++ftJ fs gn rs j) (gs.map Prod.fst) gs.length/\Below A.heap.size A wr) (fun _ _ i _=>gs.length-(intOf i).toNat)
   case atStart=>exact⟨0,by omega,rfl,by rw[Yy.out.1,Yy.out.2,Z7,Z7];exact HT11.out,Va.out⟩
   case round =>
    obtain⟨j,hj,rfl,ht3,ay⟩:=hrel;have Kg:=ae ht3;have HBJ:=ae ay;clear ht3 ay;by_cases hjt:j<gs.length
    ·have hjt':(j:Int)<(gs.length:Int):=by omega
     go_wp2_with fail;go_loopw [10,11,14] (fun vb vf i wx=>∃ k:Nat,k<=fs.length/\i=.int .i64 (k:Int)/\T3 wx A.heap.size w10.heap.size vb vf (.slice ag gs.length cg) ([67,70,49]++ip fs gn rs j++eL fs (prt gn rs j) k) (F0++ftJ fs gn rs j++ftK fs (prt gn rs j) k) (gs.map Prod.fst) gs.length/\Below A.heap.size A wx) (fun _ _ i _=>fs.length-(intOf i).toNat)
     case atStart =>
      refine⟨0,by omega,rfl,?_,HBJ.out⟩;have e1:eL fs (prt gn rs j) 0=[]:=rfl;have e2:ftK fs (prt gn rs j) 0=[]:=rfl;rw[e1,e2,Z7,Z7];exact Kg.out
     case round =>
      obtain⟨k,hk,rfl,Sm,ay⟩:=hrel;have HT4:=ae Sm;have HBK:=ae ay;obtain⟨c0,c1⟩:=HQ.out wr ay;have bO:=ay.size;by_cases hkt:k<fs.length
      ·have hkt':(k:Int)<(fs.length:Int):=by omega
       have EH:=XG.out.part gn j;have kD:=bY gn rs j;obtain⟨p,hp⟩:∃ p,prt gn rs j=p:=⟨_,rfl⟩;have Vk:=lR fs (prt gn rs j) k;have Vl:=nz fs (prt gn rs j) k;have tT:=rH.out j k (by have:=ZL.out;omega) (by omega);have Mj:=(HGJ.out j hjt).kept ay;have HP:=ae hp;rw[hp]at EH kD Vk Vl tT Mj HT4;clear hp;have dT:Col (lO fs k) (cT p k):=eV EH UO.out (by omega) hkt;have Sy:=lP hkt;obtain⟨G,hag,_,hG,hgc⟩:=gX HT4.out.2 (i:=j) (x:=gs[j].1) (by simp[hjt]);obtain⟨xa,xc,hxe,_,_⟩:=Mj.form;obtain⟨fb,foff,rfl,hfb,f0,f1,f2,f3⟩:=(HS.out.kept ay).at hkt;have HV:=ae (uf Mj (by omega) (k:=k) (fun r hr=>by have:=qg (EH r hr).1;omega));rw[hxe]at hgc HV;obtain⟨q,hq⟩:∃ q,fs[k].2.2.1=q:=⟨_,rfl⟩;rw[hq]at Sy f2;have J8:1<=q/\q<=3:=by have:=UO.out _ (ZV hkt);rw[hq]at this;exact this
       have hwq:IntKind.i64.wrap (q:Int)=(q:Int):=by rw[jam];omega
       rw[Sy]at dT Vk Vl;have mX:=ae dT;have HFP:=ae EH;have tS:=ae Vk;have sV:=ae Vl;have Bu:=ae tT;obtain⟨cs,Hf⟩:∃ cs,cT p k=cs:=⟨_,rfl⟩;have hp64:p.length<=64:=by omega
       have eO:(cT p k).length<=64:=by rw[dp];exact hp64
       clear kD;have Bx:=ae (lV EH k)
       have HKD:Hid (∀ c∈cT p k,c.1=q∨c=nul):=ae (by
        have h:=Mc (fs:=fs) (p:=p) (k:=k) (by rw[Sy];exact dT);rw[Sy]at h;exact h)
       rw[Hf]at eO HV mX tS sV Bx HKD;subst hag;clear Sm Mj hxe EH dT Vk Vl tT Sy hq Hf ay f0 f1 f3;go_wp2_with fail;refine HV.out.mono ?_;rintro e w12 ⟨⟨v12,rfl,o12⟩,oN⟩;have HT12:=ae (HT4.out.kept oN);have BF:=ae (ai HBK.out oN);have Y6:=ae o12;obtain⟨xa2,xc2,rfl,_,_⟩:=bF o12;obtain⟨c0',c1'⟩:=HQ.out w12 BF.out;have f2':=(oN.cell (p:=⟨fb,foff+k*4+2,none⟩) hfb).trans f2;have HW:=ae (Bk (Y6.out.sc) (fun c hc=>(Bx.out c hc).wide) (by omega) q (by omega));rw[kb mX.out]at HW;clear o12 oN HV HT4 c0 c1 f2 hgc;go_wp2_with fail;refine HW.out.mono ?_;rintro e w13 ⟨⟨v13,rfl,o13⟩,Jf⟩;have Sz:=ae (HT12.out.kept Jf);have Si:=ae (ai BF.out Jf);have HC13:=ae (Y6.out.kept Jf);have S0:=Rc q cs;have hcz:=(il mX.out).1;have Kh:=o13.sv;simp only at Kh;obtain⟨CB,hCB⟩:∃ CB,em q cs=CB:=⟨_,rfl⟩;have M0:=ae hCB;obtain⟨LB,hLB⟩:∃ LB,[67,70,49]++ip fs gn rs j++eL fs p k=LB:=⟨_,rfl⟩;obtain⟨LF,hLF⟩:∃ LF,F0++ftJ fs gn rs j++ftK fs p k=LF:=⟨_,rfl⟩;have hlb:LB.length<=50000010:=by rw[← hLB];simp only[ZT,ZW,jad];have:=Bu.out;omega
       have hlf:LF.length<=1000000:=by rw[← hLF];simp only[ZT];have:=Bu.out;have:=HF0L.out;omega
       rw[hCB]at S0 hcz Kh o13;rw[hLB,hLF]at Sz;have HLB:=ae hLB;have Yz:=ae hLF;obtain⟨xb,xcb,rfl,_,_⟩:=bF o13;have HS13:=ae Kh;clear o13 Jf HW HT12 Y6 c0' c1' f2' hCB hLB hLF Kh;go_wp2_with (first | (at_builtin;refine jA rfl _ _ rfl A.heap.size _ _ LB CB rfl ?qa3 rfl ?qb3 ?qp3 ?qc3 ?qd3 ?_))
       case qa3=>exact Sz.out.1.1
       case qb3=>exact HS13.out
       case qp3=>exact S0
       case qc3=>omega
       case qd3=>exact Si.out.size
       intro v14 w14 o14 g14 e14;have h14:=Sz.out.addB o14 g14 e14 Si.out.size;have HC14:=ae (mE (by decide) HC13.out g14 (fun k hk=>Sz.out.1.1.block k hk));have HT14:=ae h14.1;have YJ:=ae (Si.out.trans h14.2);have hwC:IntKind.u64.wrap (CB.length:Int)=(CB.length:Int):=by rw[jag];omega
       have Hz:=ae (bC CB.length (by omega));have VC:=bI (n:=CB.length) (by omega);clear o14 g14 e14 h14 HC13 Sz HS13;go_wp2_with fail;refine(Hz.out _).mono ?_;rintro e w15 ⟨⟨v15,rfl,o15⟩,Vm⟩;have Vn:=ae (HT14.out.kept Vm);have Y7:=ae (ai YJ.out Vm);have HC15:Hid (gY w15 _ _ cs):=ae (bH HC14.out Vm);have HS15:=ae o15.sv;clear o15 Vm HT14 HC14;go_wp2_with (first | (at_builtin;refine aT rfl _ _ rfl A.heap.size _ _ LF (uv CB.length) rfl ?qa4 rfl ?qb4 ?qc4 ?qd4 ?_))
       case qa4=>exact Vn.out.1.2.1
       case qb4=>exact HS15.out
       case qc4=>omega
       case qd4=>exact Y7.out.size
       intro v16 w16 o16 b16 g16 e16;have h16:=Vn.out.addF o16 g16 e16 Y7.out.size;have HC16:Hid (gY w16 _ _ cs):=ae (mE (by decide) HC15.out g16 (fun k hk=>fJ.block (.inl Vn.out.1.2.1) k hk));have HT16:=ae h16.1;have HB16:=ae (Y7.out.trans h16.2);have SA:=ae (Bl HC16.out.sc Bx.out (by omega));have VP:=G7 Bx.out HKD.out;rw[VP]at SA;obtain⟨sf1,sf2⟩:=kp Bx.out;obtain⟨sn,sn1,sn2⟩:=kU cs;have cP:=ae (xd sf1 sf2 ⟨sn,sn1,by omega⟩ (Rb cs));have fo:=(ov sf1 sf2 ⟨sn,sn1,by omega⟩).1;obtain⟨SM,hSM⟩:∃ SM,ct cs=SM:=⟨_,rfl⟩;rw[hSM]at SA cP fo;have SK:=ae hSM;unfold ua at SA cP;clear o16 b16 g16 e16 h16 Vn HC15 HS15 VP sf1 sf2 sn1 hSM;go_wp2_with fail;refine SA.out.mono ?_;rintro e w17 ⟨rfl,Y8⟩;have HT17:=ae (HT16.out.kept Y8);have HB17:=ae (ai HB16.out Y8);clear Y8 HT16 SA HC16;go_wp2_with fail;refine(cP.out _).mono ?_;rintro e w18 ⟨⟨v18,rfl,o18⟩,Y9⟩;have Za:=ae (HT17.out.kept Y9);have Zb:=ae (ai HB17.out Y9);have HS18:=ae o18.sv;clear o18 Y9 HT17 cP;go_wp2_with (first | (at_builtin;refine aT rfl _ _ rfl A.heap.size _ _ (LF++uv CB.length) (es SM) rfl ?qa5 rfl ?qb5 ?qc5 ?qd5 ?_))
       case qa5=>exact Za.out.1.2.1
       case qb5=>exact HS18.out
       case qc5=>rw[ZT];omega
       case qd5=>exact Zb.out.size
       intro v19 w19 o19 b19 g19 e19;have h19:=Za.out.addF o19 g19 e19 Zb.out.size;have HT19:=ae h19.1;have HB19:=ae (Zb.out.trans h19.2);have HEB:Hid ([67,70,49]++ip fs gn rs j++eL fs (prt gn rs j) (k+1)=LB++CB):=ae (by rw[HP.out,tS.out,M0.out,← HLB.out,← Z4]);have Zz:Hid (F0++ftJ fs gn rs j++ftK fs (prt gn rs j) (k+1)=LF++uv CB.length++es SM):=ae (by rw[HP.out,sV.out,M0.out,SK.out,← Yz.out];simp only[Z4]);clear o19 b19 g19 e19 h19 Za HS18;go_wp2_with fail;go_roundw
       case rel=>exact⟨k+1,by omega,by go_num,by rw[HEB.out,Zz.out];first | exact HT19.out | simpa only[Z4]using HT19.out,HB19.out⟩
       case measure=>simp[intOf];omega
      ·obtain rfl:k=fs.length:=by omega
       have hge2:¬ ((fs.length:Nat):Int)<(fs.length:Int):=by omega
       have HEB:Hid ([67,70,49]++ip fs gn rs (j+1)=[67,70,49]++ip fs gn rs j++eL fs (prt gn rs j) fs.length):=ae (by rw[sE,Z4]);have Zz:Hid (F0++ftJ fs gn rs (j+1)=F0++ftJ fs gn rs j++ftK fs (prt gn rs j) fs.length):=ae (by rw[wF,Z4]);clear Sm ay;go_wp2_with fail;go_roundw
       case rel=>exact⟨j+1,by omega,by go_num,by rw[HEB.out,Zz.out];exact HT4.out,HBK.out⟩
       case measure=>simp[intOf];omega
    ·have hjn:j=N:=by have:=ZL.out;omega
     have hgej:¬ (j:Int)<(gs.length:Int):=by omega
     obtain⟨LB,hLB⟩:∃ LB,[67,70,49]++ip fs gn rs j=LB:=⟨_,rfl⟩;obtain⟨LF,hLF⟩:∃ LF,F0++ftJ fs gn rs j=LF:=⟨_,rfl⟩;have Ki:fV id fs rs gn=LF:=by rw[← hLF,hjn,← M4.out,← HNN.out];rfl
     have SC:et id fs rs gn=LB++LF++le4 LF.length:=by
      have hb:ip fs gn rs (nps gn rs.length)=ip fs gn rs j:=by rw[HNN.out,hjn]
      show [67,70,49]++(ip fs gn rs (nps gn rs.length)++fV id fs rs gn++le4 (fV id fs rs gn).length)=_
      rw[Ki,hb,← hLB];simp only[Z4]
     have tT:=RM.out;rw[SC]at tT
     have V3:LB.length+LF.length+4<=60000000:=by
      have h:=tT.1;simp only[ZT,le4,ZW,jad]at h;omega
     have EH:0<LF.length:=by
      have h1:=mg id;rw[← Ki];unfold fV dz;simp only[ZT];omega
     have hlf:=HFTL.out.1;rw[Ki]at hlf;rw[hLB,hLF]at Kg;have VX:=ae SC;have Bz:=ae tT.2;clear hLB hLF Ki SC tT hjn;have hsvF:=Kg.out.1.2.1.sv;obtain⟨af,cf,rfl,_,_⟩:=bF Kg.out.1.2.1;have Kc:=ae hsvF;clear hsvF;go_wp2_with (first | (at_builtin;refine jA rfl _ _ rfl A.heap.size _ _ LB LF rfl ?qa6 rfl ?qb6 ?qp6 ?qc6 ?qd6 ?_))
     case qa6=>exact Kg.out.1.1
     case qb6=>exact Kc.out
     try (case qp6=>exact EH)
     case qc6=>omega
     case qd6=>exact HBJ.out.size
     intro v20 w20 o20 g20 e20;have h20:=Kg.out.addB o20 g20 e20 HBJ.out.size;have HO20:Hid (aC w20 A.heap.size v20 (LB++LF++(le4 LF.length).take 0)):=ae (by simpa using o20);have HB20:=ae (HBJ.out.trans h20.2);obtain⟨L,hL⟩:∃ L,LF.length=L:=⟨_,rfl⟩;have ZJ:=ae hL;rw[hL]at HO20;have hL9:L<1000000:=by omega
     have Mz:Hid (∀ m,m<4->(le4 L).take (m+1)=(le4 L).take m++[L / 256 ^ m % 256]/\L / 256 ^ (m+1)=L / 256 ^ m / 256):=ae (fun m hm=>by
      refine⟨?_,by rw[Nat.pow_succ,jbv]⟩;obtain rfl | rfl | rfl | rfl:m=0∨m=1∨m=2∨m=3:=by omega
      all_goals simp[le4])
     clear o20 g20 e20 h20 Kg Kc hL;go_wp2_with fail;go_loopw [10,18,19] (fun vb n i wx=>∃ m:Nat,m<=4/\i=.int .i64 (m:Int)/\n=.int .i64 ((L / 256 ^ m:Nat):Int)/\aC wx A.heap.size vb (LB++LF++(le4 L).take m)/\Below A.heap.size A wx) (fun _ _ i _=>4-(intOf i).toNat)
     case atStart=>exact⟨0,by omega,rfl,by simp[ZJ.out],HO20.out,HB20.out⟩
     case round =>
      obtain⟨m,hm,rfl,rfl,how,ay⟩:=hrel;have R6:=ae how;have HBM:=ae ay;have bO:=ay.size;clear how ay;by_cases X2:m<4
      ·have hm4':(m:Int)<4:=by omega
       obtain⟨hd1,hd2⟩:=Mz.out m X2;have HD1:=ae hd1;have yl:=ae hd2;have oH:=Nat.div_le_self L (256 ^ m);generalize L / 256 ^ m=u at *;have hw8:IntKind.u8.wrap (u:Int)=((u % 256:Nat):Int):=by rw[IntKind.wrap_u8];omega
       have hdv:(u:Int) / 256=((u / 256:Nat):Int):=by omega
       have Ux:((le4 L).take m).length<=4:=by rw[ZX];simp[le4];omega
       have VS:=ae (cD wr (u % 256));clear hd1 hd2;go_wp2_with (first | (at_builtin;refine aT rfl _ _ rfl A.heap.size _ _ (LB++LF++(le4 L).take m) [u % 256] rfl ?qa7 rfl ?qb7 ?qc7 ?qd7 ?_))
       case qa7=>exact R6.out.kept (ak _ _)
       case qb7=>exact VS.out.sv
       case qc7=>simp only[ZT,jan];omega
       case qd7=>rw[ZS];omega
       intro v21 w21 o21 b21 g21 e21;have HO21:=ae o21;have HB21:=ae ((HBM.out.alloc bO _).trans b21);clear o21 b21 g21 e21;go_wp2_with fail;refine Me _ rfl u (by omega) rfl ?_;apply_assumption
       try simp only[Act.put,Z3,Z0,Z2]
       go_wp2_with fail;go_roundw
       case rel=>exact⟨m+1,by omega,by go_num,by rw[yl.out],by rw[HD1.out,← Z4];first | exact HO21.out | simpa only[Z4]using HO21.out,HB21.out⟩
       case measure=>simp[intOf];omega
      ·obtain rfl:m=4:=by omega
       have hge4:¬ ((4:Nat):Int)<4:=by omega
       have Vg:LB++LF++(le4 L).take 4=et id fs rs gn:=by rw[VX.out,ZJ.out];rfl
       rw[Vg]at R6;have M5:(et id fs rs gn).length<=100000000:=by have:=RM.out.1;omega
       have V5:=ae (nG R6.out.sv.toK RM.out.2 M5);obtain⟨SE,hSE⟩:∃ SE,bK (et id fs rs gn)=SE:=⟨_,rfl⟩;rw[hSE]at V5 HWM;clear Vg M5 hSE;go_wp2_with fail;refine V5.out.mono ?_;rintro e w22 ⟨⟨v22,rfl,o22⟩,hb22⟩;have HO22:=ae o22;have HB22:=ae (ai HBM.out hb22);have Ez:w.heap.size<=wr.heap.size:=by have:=X8.out;omega
       obtain⟨a22,c22,rfl,_,_⟩:=bF o22;clear o22 hb22 V5 R6;by_cases MC:(SE.length:Int) > 65536
       ·have xC:Hid (WM=([],4)):=ae (by rw[HWM.out,if_pos (by omega)])
        go_wp2_with fail;go_ret2
        rw[xC.out];exact⟨⟨_,rfl,aC.nil _ _⟩,ai cC.out HB22.out⟩
       ·have xC:Hid (WM=(SE,0)):=ae (by rw[HWM.out,if_neg (by omega)])
        go_wp2_with fail;go_ret2
        rw[xC.out];exact⟨⟨_,rfl,aZ HO22.out Ez⟩,ai cC.out HB22.out⟩
end Go.Proofs.YtpljdjmpamjkhaaGreatDoor
