import Derived.Test.YtpljdjmpamjkhaaGreatDoorXbq
import Derived.Test.YtpljdjmpamjkhaaGreatDoorXbr
import Derived.Test.YtpljdjmpamjkhaaGreatDoorXbs
import Derived.Test.YtpljdjmpamjkhaaGreatDoorXbt
import Derived.Test.YtpljdjmpamjkhaaGreatDoorCards
import Derived.Test.YtpljdjmpamjkhaaGreatDoorTie
import Derived.LaidMore
set_option linter.unusedVariables false
set_option linter.unusedSimpArgs false
set_option maxRecDepth 100000
set_option maxHeartbeats 20000000
namespace Go.Proofs.YtpljdjmpamjkhaaGreatDoor
open Go.RowKit Go.Lib
def T2(W:World)(B:Nat)(vb vf:Value)(lb lf:List Nat):Prop:=fQ W B vb lb/\aD W B vf lf/\nI vb vf
theorem T2.kept{W W':World}{B:Nat}{vb vf:Value}{lb lf:List Nat}(h:T2 W B vb vf lb lf)(hb:Below W.heap.size W W'):T2 W' B vb vf lb lf:=⟨h.1.kept hb,h.2.1.kept hb,h.2.2⟩
theorem T2.addB{W W':World}{B:Nat}{vb vb' vf:Value}{lb lb' lf:List Nat}(h:T2 W B vb vf lb lf)(ho:aD W' B vb' lb')(hg:W.grownBy W' vb.ownBlock)(he:vb'.ownBlock=vb.ownBlock∨vb'.ownBlock=some W.heap.size)(hB:B<=W.heap.size):T2 W' B vb' vf lb' lf/\Below B W W' :=
 ⟨⟨.inl ho,World.ownsRow.kept h.2.1 hg h.2.2.symm.ne,h.2.2.grow he (fun k hk=>(World.ownsRow.lt h.2.1 k hk).2)⟩,(jdv B W).grown hg hB (fun k hk=>(h.1.lt k hk).1)⟩
theorem T2.addF{W W':World}{B:Nat}{vb vf vf':Value}{lb lf lf':List Nat}(h:T2 W B vb vf lb lf)(ho:aD W' B vf' lf')(hg:W.grownBy W' vf.ownBlock)(he:vf'.ownBlock=vf.ownBlock∨vf'.ownBlock=some W.heap.size)(hB:B<=W.heap.size):T2 W' B vb vf' lb lf'/\Below B W W' :=
 ⟨⟨h.1.grown hg h.2.2.ne,ho,(h.2.2.symm.grow he (fun k hk=>(h.1.lt k hk).2)).symm⟩,(jdv B W).grown hg hB (fun k hk=>(World.ownsRow.lt h.2.1 k hk).1)⟩
def T3(W:World)(B Bg:Nat)(vb vf vg:Value)(lb lf:List Nat)(xs:List Value)(n:Nat):Prop:=T2 W B vb vf lb lf/\W.ownsRow Bg 26 1 vg n xs
theorem T3.kept{W W':World}{B Bg n:Nat}{vb vf vg:Value}{lb lf:List Nat}{xs:List Value}(h:T3 W B Bg vb vf vg lb lf xs n)(hb:Below W.heap.size W W'):T3 W' B Bg vb vf vg lb lf xs n:=⟨h.1.kept hb,bL h.2 hb⟩
theorem mS{W W':World}{row:Option Nat}{Bg n e size:Nat}{vg:Value}{xs:List Value}(he:e≠5)(h:W.ownsRow Bg e size vg n xs)(hg:W.grownBy W' row)(hr:∀ k,row=some k->∃ cur fz,W.heap[k]?=some (.cells cur 5 fz)):W'.ownsRow Bg e size vg n xs :=
 cm h fun k hk=>hg.block k (aN h hk).2.1 (fun e'=>by
  obtain⟨_,_,c,h1⟩:=aN h hk;obtain⟨cur,fz,h2⟩:=hr k e'.symm;rw[h1]at h2;cases h2
  exact he rfl)
theorem T3.addB{W W':World}{B Bg n:Nat}{vb vb' vf vg:Value}{lb lb' lf:List Nat}{xs:List Value}(h:T3 W B Bg vb vf vg lb lf xs n)(ho:aD W' B vb' lb')(hg:W.grownBy W' vb.ownBlock)(he:vb'.ownBlock=vb.ownBlock∨vb'.ownBlock=some W.heap.size)(hB:B<=W.heap.size):T3 W' B Bg vb' vf vg lb' lf xs n/\Below B W W' :=
 ⟨⟨(h.1.addB ho hg he hB).1,mS (by decide) h.2 hg (fun k hk=>h.1.1.block k hk)⟩,(h.1.addB ho hg he hB).2⟩
theorem T3.addF{W W':World}{B Bg n:Nat}{vb vf vf' vg:Value}{lb lf lf':List Nat}{xs:List Value}(h:T3 W B Bg vb vf vg lb lf xs n)(ho:aD W' B vf' lf')(hg:W.grownBy W' vf.ownBlock)(he:vf'.ownBlock=vf.ownBlock∨vf'.ownBlock=some W.heap.size)(hB:B<=W.heap.size):T3 W' B Bg vb vf' vg lb lf' xs n/\Below B W W' :=
 ⟨⟨(h.1.addF ho hg he hB).1,mS (by decide) h.2 hg (fun k hk=>fQ.block (.inl h.1.2.1) k hk)⟩,(h.1.addF ho hg he hB).2⟩
theorem Uv(cs:List Cl):(cA cs).some=false->(cA cs).high=false:=by
 unfold cA;split
 ·exact fun _=>rfl
 ·exact fun h=>by cases h
theorem Px{fs:List Fd}{p:List Row}{k:Nat}(h:Col (mb fs k) (cW p k)):∀ c∈cW p k,c.1=mb fs k∨c=nul:=fun c hc=>by
 rcases h.2.2 c hc with e | ⟨hk,n,e,_⟩ | ⟨hk,n,e,_⟩ | ⟨hk,n,e,_⟩
 ·exact .inr e
 ·rw[e,hk];exact .inl rfl
 ·rw[e,hk];exact .inl rfl
 ·rw[e,hk];exact .inl rfl
theorem Uw(k:Nat)(l:List Cl):0<(eo k l).length:=by
 unfold eo dK;rw[jdy];split<;>simp only[jdD]<;>omega
theorem Py{fs:List Fd}{rs:List Row}{g:Nat}(kj:fs.length<=8)(hk:∀ f∈fs,1<=f.2.2.1/\f.2.2.1<=3)(pE:rs.length<=256)(eS:1<=g)(dC:jQ fs rs){j k:Nat}(hj:j<=256)(pC:k<=fs.length) :
  (iy fs g rs j).length+(eN fs (prt g rs j) k).length<=50000000/\(ftJ fs g rs j).length+(ftK fs (prt g rs j) k).length<=400000:=by
 have kN:∀ j,(prt g rs j).length<=256:=fun j=>by rw[bZ];omega
 have dW:∀ j k,k<fs.length->Col (mb fs k) (cW (prt g rs j) k):=fun j k h=>eX (dC.part g j) hk (kN j) h
 have h1:∀ j,(eN fs (prt g rs j) fs.length).length<=172800:=fun j=>by have:=(ml (dW j) (jdw _)).1;omega
 have h2:∀ j,(ftK fs (prt g rs j) fs.length).length<=1360:=fun j=>by have:=(oR (dC.part g j) (kN j) (dW j) (jdw _)).1;omega
 have h3:=iC h1 (List.range j);have h4:=iC h2 (List.range j);rw[jfi]at h3 h4;have h5:=(ml (dW j) pC).1;have h6:=(oR (dC.part g j) (kN j) (dW j) pC).1;have h7:172800*j<=172800*256:=jey _ hj;have h8:1360*j<=1360*256:=jey _ hj;have h9:(iy fs g rs j).length<=172800*j:=h3;have no:(ftJ fs g rs j).length<=1360*j:=h4;constructor<;>omega
theorem ja7(u:Nat)(h:u<1000000)(w:World):(binOp .quo 3 (.int .i64 (u:Int)) (.int .i64 256)).run Tryz.prog w=.ok (.int .i64 ((u / 256:Nat):Int)) w:=by
 have hqd:IntKind.i64.wrap ((u:Int).tdiv 256)=((u / 256:Nat):Int):=by
  rw[Int.tdiv_eq_ediv_of_nonneg (by omega),jd7];omega
 rw[← hqd];first | rfl | (simp[go_sem];done) | (simp[binOp,go_sem];done)
theorem Pz{w:World}{o:Oper}{a:Act}{K:Act->World->Prop}{Q:Exit->Act->World->Prop}(x:Operand)
  (ho:o.op=.binOp .quo 3 x (.const (.int .i64 256)) 3) (u:Nat) (hu:u<1000000) (hx:a.eval x=.int .i64 (u:Int)) (h:K (a.put o.dst (.int .i64 ((u / 256:Nat):Int))) w):Oper.wp Tryz.prog o a w K Q:=by
 have hq:=ja7 u hu w;have hc:a.eval (.const (.int .i64 256))=.int .i64 256:=rfl;have hg:(eqGuard BinOp.quo 3 x (Operand.const (.int .i64 256)) (.int .i64 (u:Int)) (.int .i64 256)).run Tryz.prog w=.ok () w:=rfl;unfold Oper.wp execOp;simp only[ho,Sem.run_bind,Sem.run_pure,Result.andThen_ok,hx,hc,hg,hq];exact h
theorem xz{w:World}{fv v:Value}{fs:List Fd}{rs:List Row}{id:Nat}(hs:Sf w fv fs)(hr:Sr w v rs)(ho:∀ f∈fs,Okf f)(np:id<4294967296)(hf:∀ r∈rs,∀ c∈r,aT c)(hl:rs.length<=1000)(g:Int) :
  Calls Tryz.prog 14 #[.agg #[.int .u32 (id:Int),fv],v,.int .i64 g] w fun e w'=>(∃ v',e=.returned (.tuple #[v',.int .i64 ((bT id fs rs g).2:Int)])/\aD w' w.heap.size v' (bT id fs rs g).1)/\Below w.heap.size w w':=by
 obtain⟨fa,fc,rfl,jb0,jb1⟩:=hs.form;obtain⟨a,cap,rfl,aW,bw⟩:=hr.form;have dO:=am w (.cells #[.int .u32 (id:Int),.slice fa fs.length fc] 25);obtain⟨x0,x1⟩:=bx w (.int .u32 (id:Int)) (.slice fa fs.length fc) 25;have ct:(w.alloc (.cells #[.int .u32 (id:Int),.slice fa fs.length fc] 25)).heap.size=w.heap.size+1:=jdx _ _;have HS:=ae (hs.kept dO);have HR:=ae (hr.kept dO);have ce:=ae dO;have HF:=ae hf;have HO:=ae ho;have HZ0:=ae ct;generalize hA:w.alloc (.cells #[.int .u32 (id:Int),.slice fa fs.length fc] 25)=A at *
 have HQ:jfp (∀ U,Below A.heap.size A U->U.cell? ⟨w.heap.size,0,none⟩=some (.int .u32 (id:Int))/\U.cell? ⟨w.heap.size,1,none⟩=some (.slice fa fs.length fc)):=ae (fun U hU =>
  ⟨(hU.cell (p:=⟨w.heap.size,0,none⟩) (by show w.heap.size<_;omega)).trans x0,(hU.cell (p:=⟨w.heap.size,1,none⟩) (by show w.heap.size<_;omega)).trans x1⟩)
 have Ck:jfp (dV id fs rs g=if chk id fs≠0 then chk id fs else if g<1∨64<g then 1 else if 256<rs.length then 5 else kF fs rs):=ae rfl;have HWN:jfp (∀ f,dV id fs rs g=f->f≠0->bT id fs rs g=([],f)):=ae (fun f e h=>by unfold bT;rw[e,jdu h]);have HWZ:jfp (dV id fs rs g=0->bT id fs rs g=if 65536<(bX (ew id fs rs g.toNat)).length then ([],4) else (bX (ew id fs rs g.toNat),0)):=ae (fun e=>by unfold bT;rw[e,jdt (by simp)]);obtain⟨WM,hWM⟩:∃ WM,bT id fs rs g=WM:=⟨_,rfl⟩;rw[hWM]at HWN HWZ ⊢;obtain⟨FW,hFW⟩:∃ FW,dV id fs rs g=FW:=⟨_,rfl⟩;rw[hFW]at Ck HWN HWZ;have nk:=ae (BB HS.o id);obtain⟨c0,c1⟩:=HQ.o A (jdv _ _);clear hs hr dO hf ho ct x0 x1 hWM hFW;go_enter Tryz.func14,Tryz.ntmps14
 go_wp2_with fail;try rw[hA]
 clear hA;refine nk.o.mono ?_;rintro e w1 ⟨rfl,aH⟩;have aQ:=ae aH;clear aH nk c0 c1;by_cases ek:chk id fs=0
 case neg =>
  have hckb:(((chk id fs:Nat):Int) != 0)=true:=by simp[ek]
  have xT:=ae (HWN.o (chk id fs) (by rw[Ck.o,jdu ek]) ek);go_wp2_with fail;go_ret2
  rw[xT.o];exact⟨⟨_,rfl,aD.nil _ _⟩,ai ce.o aQ.o⟩
 have hckb:(((chk id fs:Nat):Int) != 0)=false:=by simp[ek]
 have nk:=ae ek;rw[jdt (by omega)]at Ck;by_cases eS:g<1
 ·have xT:=ae (HWN.o 1 (by rw[Ck.o,jdu (Or.inl eS)]) (by omega))
  go_wp2_with fail;go_ret2
  rw[xT.o];exact⟨⟨_,rfl,aD.nil _ _⟩,ai ce.o aQ.o⟩
 by_cases ik:g > 64
 ·have xT:=ae (HWN.o 1 (by rw[Ck.o,jdu (Or.inr ik)]) (by omega))
  go_wp2_with fail;go_ret2
  rw[xT.o];exact⟨⟨_,rfl,aD.nil _ _⟩,ai ce.o aQ.o⟩
 rw[jdt (by omega)]at Ck;by_cases hl256:(rs.length:Int) > 256
 ·have xT:=ae (HWN.o 5 (by rw[Ck.o,jdu (by omega)]) (by omega))
  go_wp2_with fail;go_ret2
  rw[xT.o];exact⟨⟨_,rfl,aD.nil _ _⟩,ai ce.o aQ.o⟩
 rw[jdt (by omega)]at Ck;clear ek;go_wp2_with fail;go_loopw [8,9] (fun e i wr=>∃ k:Nat,k<=rs.length/\i=.int .i64 (k:Int)/\kF fs rs=kF fs (rs.drop k)/\Below A.heap.size A wr) (fun _ i _=>rs.length-(intOf i).toNat)
 case atStart=>exact⟨0,by omega,rfl,rfl,aQ.o⟩
 case round =>
  obtain⟨k,hk,rfl,kL,az⟩:=hrel;have LP:=ae kL;have HB:=ae az;clear kL;obtain⟨c0,c1⟩:=HQ.o wr az;by_cases aB:k<rs.length
  ·have hlt':(k:Int)<(rs.length:Int):=by omega
   obtain⟨gb,off,rv,rfl,PR,br,Cu⟩:=(HR.o.kept az).at aB;obtain⟨ra,rc,rfl,_,_⟩:=Cu.form;have cU:=ae (zN (fs:=fs) aB)
   have Gb:jfp (∀ U,Below wr.heap.size wr U->Calls Tryz.prog 43 #[.agg #[.int .u32 (id:Int),.slice fa fs.length fc],.slice ra rs[k].length rc] U fun e w'=>e=.returned (.int .i64 (jK fs rs[k]:Int))/\Below wr.heap.size wr w'):=ae (fun U hU=>by
    refine(Hc (HS.o.kept (az.trans (hU.mono az.size))) (Cu.kept hU) id).mono ?_;rintro e w' ⟨rfl,hb⟩;exact⟨rfl,ai hU hb⟩)
   generalize jK fs rs[k]=fm at *;generalize rs[k].length=rl at *;go_upto_region 11 with fail
   go_cut [8] from 134 (fun v wx=>v=.int .i64 (fm:Int)/\Below wr.heap.size wr wx)
   case first =>
    refine wp_region_noPanic ?_
    go_region_law (first
     | (go_simp;go_at_call 43;refine(Gb.o _ ?_).mono ?_;exact ap (jdv wr.heap.size wr) _;rintro e w5 ⟨rfl,bD⟩;have aR:=ae bD;clear bD;dsimp only)
     | fail)
    all_goals refine NoPanic.normal ?_
    all_goals go_wp2_with fail
    all_goals go_meet
    all_goals exact⟨rfl,aR.o⟩
   case rest =>
   obtain⟨rfl,An⟩:=hcut;obtain⟨w5,ZQ⟩:∃ w5,w5=wc:=⟨_,rfl⟩;subst ZQ;have aR:=ae (az.trans (An.mono az.size));clear An c0 c1 br Cu az Gb;by_cases hm:fm=0
   ·have hmz:((fm:Int) != 0)=false:=by simp[hm]
    have Qc:jfp (kF fs (rs.drop k)=kF fs (rs.drop (k+1))):=ae (by rw[cU.o,jdu hm]);clear cU;go_wp2_with fail;go_roundw
    case rel=>exact⟨k+1,by omega,by go_num,by rw[LP.o,Qc.o],aR.o⟩
    case measure=>simp[intOf];omega
   ·have hmz:((fm:Int) != 0)=true:=by simp[hm]
    have xT:=ae (HWN.o fm (by rw[Ck.o,LP.o,cU.o,jdt hm]) hm);go_wp2_with fail;go_ret2
    rw[xT.o];exact⟨⟨_,rfl,aD.nil _ _⟩,ai ce.o aR.o⟩
  ·obtain rfl:k=rs.length:=by omega
   have gj:¬ ((rs.length:Nat):Int)<(rs.length:Int):=(by omega);have hfz:kF fs rs=0:=by have h:=LP.o;rw[jer]at h;exact h
   have HWM:=ae (HWZ.o (by rw[Ck.o,hfz]));obtain⟨gn,rfl⟩:=jeY (show 0<=g by omega);rw[jd1]at HWM;have Qq:1<=gn:=(by omega);have YO:gn<=64:=(by omega);have pE:rs.length<=256:=(by omega);have dC:jQ fs rs:=fun r hr=>⟨mo hfz r hr,HF.o r hr⟩
   have jbg:=ae dC;obtain⟨uF,hfl8,hfl0⟩:=oS nk.o;have FV:=ig nk.o;have Yn:=ae FV;have rY:=ae (fun j k (hj:j<=256) (pC:k<=fs.length)=>Py (g:=gn) hfl8 FV pE Qq dC hj pC);have Vb:=ae (mn (g:=gn) HO.o np nk.o pE Qq YO dC)
   have jcK:jfp ((dF id fs).length<=400000):=ae (by
    have h:=(rI (g:=gn) HO.o np nk.o pE Qq YO dC).1;unfold ge at h;simp only[jdy]at h;omega)
   have HFTL:=ae (rI (g:=gn) HO.o np nk.o pE Qq YO dC);have hN:=ki (n:=rs.length) Qq pE;obtain⟨w5,ZQ⟩:∃ w5,w5=wr:=⟨_,rfl⟩;subst ZQ;have hz:=az.size;have fT:=dt w5 (.cells #[.int .u8 67,.int .u8 70,.int .u8 49] 5 (3,4))
   have LM:(convert 30 30 (.slice (some ⟨w5.heap.size,0,none⟩) 3 3)).run Tryz.prog (w5.alloc (.cells #[.int .u8 67,.int .u8 70,.int .u8 49] 5))=.ok (.slice (some ⟨w5.heap.size,0,none⟩) 3 3) (w5.alloc (.cells #[.int .u8 67,.int .u8 70,.int .u8 49] 5 (3,4))) :=
    run_convert_bytes_const w5 30 5 #[.int .u8 67,.int .u8 70,.int .u8 49] 3 3 Tryz.underlying30 Tryz.underlying5
   have xA:fQ (w5.alloc (.cells #[.int .u8 67,.int .u8 70,.int .u8 49] 5 (3,4))) A.heap.size (.slice (some ⟨w5.heap.size,0,none⟩) 3 3) [67,70,49]:=Or.inr ⟨rfl,_,rfl,hz,jdW _ _⟩;have nl:=ae xA;have hBL:=az.alloc hz (.cells #[.int .u8 67,.int .u8 70,.int .u8 49] 5 (3,4));have PE:=ae hBL;have HSZL:jfp (w5.heap.size<(w5.alloc (.cells #[.int .u8 67,.int .u8 70,.int .u8 49] 5 (3,4))).heap.size):=ae (by rw[jdx];omega);have PD:=ae (Fu (HS.o.kept hBL) HO.o (by omega) uF id np);obtain⟨c0',c1'⟩:=HQ.o _ hBL;clear c0 c1 az fT xA hBL dC FV LP Ck HWZ HWN;go_wp2_with fail;refine PD.o.mono ?_;rintro e w6 ⟨⟨v6,rfl,o6⟩,ey⟩;have hBW6:=ai PE.o ey
   have ht6:T2 w6 A.heap.size (.slice (some ⟨w5.heap.size,0,none⟩) 3 3) v6 [67,70,49] (dF id fs):=⟨nl.o.kept ey,be o6 PE.o.size,fun q hq nj=>by
    have h1:=(World.ownsRow.lt o6 q nj).1;have h2:=HSZL.o;simp only[Value.ownBlock,jeF,Option.some.injEq]at hq;omega⟩
   have HT6:=ae ht6;have ja:=ae hBW6;have hwrL:IntKind.u64.wrap (rs.length:Int)=(rs.length:Int):=by rw[jd0];omega
   have hwrG:IntKind.u64.wrap (gn:Int)=(gn:Int):=by rw[jd0];omega
   have Co:=ae (bG rs.length (by omega));have Fx:=ae (bG gn (by omega));clear hBW6 ht6 o6 ey PD LM c0' c1' nl;have Yy:=bM (n:=rs.length) (by omega);have hu2:=bM (n:=gn) (by omega);go_wp2_with fail;refine(Co.o _).mono ?_;rintro e w7 ⟨⟨v7,rfl,o7⟩,ji⟩;have HT7:=ae (HT6.o.kept ji);have io:=ae (ai ja.o ji);have Qv:=ae o7.sv;clear o7 ji HT6;go_wp2_with (first | (at_builtin;refine aV rfl _ _ rfl A.heap.size _ _ (dF id fs) (uv rs.length) rfl ?qa1 rfl ?qb1 ?qc1 ?qd1 ?_))
   case qa1=>exact HT7.o.2.1
   case qb1=>exact Qv.o
   case qc1=>have:=jcK.o;omega
   case qd1=>exact io.o.size
   intro v8 w8 o8 b8 g8 e8;have h8:=HT7.o.addF o8 g8 e8 io.o.size;have HT8:=ae h8.1;have xD:=ae (io.o.trans h8.2);clear o8 b8 g8 e8 h8 HT7 Qv;go_wp2_with fail;refine(Fx.o _).mono ?_;rintro e w9 ⟨⟨v9,rfl,o9⟩,pD⟩;have HT9:=ae (HT8.o.kept pD);have pF:=ae (ai xD.o pD);have HS9:=ae o9.sv;clear o9 pD HT8;go_wp2_with (first | (at_builtin;refine aV rfl _ _ rfl A.heap.size _ _ (dF id fs++uv rs.length) (uv gn) rfl ?qa2 rfl ?qb2 ?qc2 ?qd2 ?_))
   case qa2=>exact HT9.o.2.1
   case qb2=>exact HS9.o
   case qc2=>have:=jcK.o;rw[jdy];omega
   case qd2=>exact pF.o.size
   intro v10 w10 o10 b10 g10 e10;have no:=HT9.o.addF o10 g10 e10 pF.o.size;have HT10:=ae no.1;have uL:=ae (pF.o.trans no.2);clear o10 b10 g10 e10 no HT9 HS9;have HGR:=ae (uB HR.o uL.o hl Qq YO);obtain⟨N,hNN⟩:∃ N,nps gn rs.length=N:=⟨_,rfl⟩;have HNN:=ae hNN;rw[hNN]at hN;clear hNN;go_wp2_with fail;refine HGR.o.mono ?_;rintro e w11 ⟨⟨vg,gs,rfl,hog,PB,uW⟩,Qp⟩
   have Yx:gs.length=N:=by
    have h:=jdB List.length uW;rw[jdz]at h;unfold Je at h;rw[jdz,jfi]at h;rw[h];exact HNN.o
   have HGJ:jfp (∀ j (h:j<gs.length),Sr A gs[j].1 (prt gn rs j)):=ae (fun j h=>by
    have h1:=PB gs[j] (jdA h);have h2:(gs.map Prod.snd)[j]?=(Je gn rs)[j]?:=by rw[uW]
    have h3:gs[j].2=prt gn rs j:=by
     unfold Je at h2;rw[List.getElem?_map,List.getElem?_eq_getElem h,List.getElem?_map,List.getElem?_range (by have:=HNN.o;omega)]at h2;simpa using h2
    rw[← h3];exact h1)
   obtain⟨ag,cg,rfl,hcg1,hcg2⟩:=bI hog
   have HT11:jfp (T3 w11 A.heap.size w10.heap.size (.slice (some ⟨w5.heap.size,0,none⟩) 3 3) v10 (.slice ag gs.length cg) [67,70,49] (dF id fs++uv rs.length++uv gn) (gs.map Prod.fst) gs.length):=ae ⟨by
    have h:=HT10.o.kept Qp;rw[jdL];first | exact h | (rw[jdL]at h;exact h),hog⟩
   have YF:=ae (ai uL.o Qp);have HGL:=ae Yx;clear hog PB uW Qp HGR HT10 Yx;have HJ0:jfp (iy fs gn rs 0=[]/\ftJ fs gn rs 0=[]):=ae ⟨rfl,rfl⟩;obtain⟨F0,hF0⟩:∃ F0,dF id fs++uv rs.length++uv gn=F0:=⟨_,rfl⟩;rw[hF0]at HT11;have QC:=ae hF0;have HF0L:jfp (F0.length<=400020):=ae (by rw[← hF0];simp only[jdy];have:=jcK.o;omega);clear hF0;go_wp2_with fail;go_loopw [10,11,13] (fun vb vf i wr=>∃ j:Nat,j<=gs.length/\i=.int .i64 (j:Int)/\T3 wr A.heap.size w10.heap.size vb vf (.slice ag gs.length cg) ([67,70,49]++iy fs gn rs j) (F0++ftJ fs gn rs j) (gs.map Prod.fst) gs.length/\Below A.heap.size A wr) (fun _ _ i _=>gs.length-(intOf i).toNat)
   case atStart=>exact⟨0,by omega,rfl,by rw[HJ0.o.1,HJ0.o.2,jdT,jdT];exact HT11.o,YF.o⟩
   case round =>
    obtain⟨j,hj,rfl,ht3,az⟩:=hrel;have Md:=ae ht3;have HBJ:=ae az;clear ht3 az;by_cases hjt:j<gs.length
    ·have hjt':(j:Int)<(gs.length:Int):=by omega
     go_wp2_with fail;go_loopw [10,11,14] (fun vb vf i wx=>∃ k:Nat,k<=fs.length/\i=.int .i64 (k:Int)/\T3 wx A.heap.size w10.heap.size vb vf (.slice ag gs.length cg) ([67,70,49]++iy fs gn rs j++eN fs (prt gn rs j) k) (F0++ftJ fs gn rs j++ftK fs (prt gn rs j) k) (gs.map Prod.fst) gs.length/\Below A.heap.size A wx) (fun _ _ i _=>fs.length-(intOf i).toNat)
     case atStart =>
      refine⟨0,by omega,rfl,?_,HBJ.o⟩;have e1:eN fs (prt gn rs j) 0=[]:=rfl;have e2:ftK fs (prt gn rs j) 0=[]:=rfl;rw[e1,e2,jdT,jdT];exact Md.o
     case round =>
      obtain⟨k,hk,rfl,VB,az⟩:=hrel;have HT4:=ae VB;have HBK:=ae az;obtain⟨c0,c1⟩:=HQ.o wr az;have bF:=az.size;by_cases hkt:k<fs.length
      ·have hkt':(k:Int)<(fs.length:Int):=by omega
       have KH:=jbg.o.part gn j;have kN:=bZ gn rs j;obtain⟨p,hp⟩:∃ p,prt gn rs j=p:=⟨_,rfl⟩;have YP:=me fs (prt gn rs j) k;have YQ:=nR fs (prt gn rs j) k;have uk:=rY.o j k (by have:=HGL.o;omega) (by omega);have PB:=(HGJ.o j hjt).kept az;have HP:=ae hp;rw[hp]at KH kN YP YQ uk PB HT4;clear hp;have dW:Col (mb fs k) (cW p k):=eX KH Yn.o (by omega) hkt;have VI:=mc hkt;obtain⟨G,hag,_,hG,hgc⟩:=ij HT4.o.2 (i:=j) (x:=gs[j].1) (by simp[hjt]);obtain⟨xa,xc,hxe,_,_⟩:=PB.form;obtain⟨fb,foff,rfl,hfb,f0,f1,f2,f3⟩:=(HS.o.kept az).at hkt;have HV:=ae (uA PB (by omega) (k:=k) (fun r hr=>by have:=qy (KH r hr).1;omega));rw[hxe]at hgc HV;obtain⟨q,hq⟩:∃ q,fs[k].2.2.1=q:=⟨_,rfl⟩;rw[hq]at VI f2;have LW:1<=q/\q<=3:=by have:=Yn.o _ (jdA hkt);rw[hq]at this;exact this
       have hwq:IntKind.i64.wrap (q:Int)=(q:Int):=by rw[jd7];omega
       rw[VI]at dW YP YQ;have xH:=ae dW;have HFP:=ae KH;have uK:=ae YP;have tq:=ae YQ;have BX:=ae uk;obtain⟨cs,PG⟩:∃ cs,cW p k=cs:=⟨_,rfl⟩;have hp64:p.length<=64:=(by omega);have eQ:(cW p k).length<=64:=by rw[dr];exact hp64
       clear kN;have Ca:=ae (mj KH k)
       have HKD:jfp (∀ c∈cW p k,c.1=q∨c=nul):=ae (by
        have h:=Px (fs:=fs) (p:=p) (k:=k) (by rw[VI];exact dW);rw[VI]at h;exact h)
       rw[PG]at eQ HV xH uK tq Ca HKD;subst hag;clear VB PB hxe KH dW YP YQ uk VI hq PG az f0 f1 f3;go_wp2_with fail;refine HV.o.mono ?_;rintro e w12 ⟨⟨v12,rfl,o12⟩,pg⟩;have HT12:=ae (HT4.o.kept pg);have Ci:=ae (ai HBK.o pg);have jcL:=ae o12;obtain⟨xa2,xc2,rfl,_,_⟩:=bI o12;obtain⟨c0',c1'⟩:=HQ.o w12 Ci.o;have f2':=(pg.cell (p:=⟨fb,foff+k*4+2,none⟩) hfb).trans f2;have HW:=ae (BO (jcL.o.sc) (fun c hc=>(Ca.o c hc).wide) (by omega) q (by omega));rw[kp xH.o]at HW;clear o12 pg HV HT4 c0 c1 f2 hgc;go_wp2_with fail;refine HW.o.mono ?_;rintro e w13 ⟨⟨v13,rfl,o13⟩,KL⟩;have VJ:=ae (HT12.o.kept KL);have Vy:=ae (ai Ci.o KL);have HC13:=ae (jcL.o.kept KL);have Wb:=Uw q cs;have hcz:=(iw xH.o).1;have Me:=o13.sv;simp only at Me;obtain⟨CB,hCB⟩:∃ CB,eo q cs=CB:=⟨_,rfl⟩;have QB:=ae hCB;obtain⟨LB,hLB⟩:∃ LB,[67,70,49]++iy fs gn rs j++eN fs p k=LB:=⟨_,rfl⟩;obtain⟨LF,hLF⟩:∃ LF,F0++ftJ fs gn rs j++ftK fs p k=LF:=⟨_,rfl⟩;have hlb:LB.length<=50000010:=by rw[← hLB];simp only[jdy,jdD,jdX];have:=BX.o;omega
       have hlf:LF.length<=1000000:=by rw[← hLF];simp only[jdy];have:=BX.o;have:=HF0L.o;omega
       rw[hCB]at Wb hcz Me o13;rw[hLB,hLF]at VJ;have HLB:=ae hLB;have HLF:=ae hLF;obtain⟨xb,xcb,rfl,_,_⟩:=bI o13;have HS13:=ae Me;clear o13 KL HW HT12 jcL c0' c1' f2' hCB hLB hLF Me;go_wp2_with (first | (at_builtin;refine jI rfl _ _ rfl A.heap.size _ _ LB CB rfl ?qa3 rfl ?qb3 ?qp3 ?qc3 ?qd3 ?_))
       case qa3=>exact VJ.o.1.1
       case qb3=>exact HS13.o
       case qp3=>exact Wb
       case qc3=>omega
       case qd3=>exact Vy.o.size
       intro v14 w14 o14 g14 e14;have h14:=VJ.o.addB o14 g14 e14 Vy.o.size;have HC14:=ae (mS (by decide) HC13.o g14 (fun k hk=>VJ.o.1.1.block k hk));have HT14:=ae h14.1;have jco:=ae (Vy.o.trans h14.2);have hwC:IntKind.u64.wrap (CB.length:Int)=(CB.length:Int):=by rw[jd0];omega
       have KA:=ae (bG CB.length (by omega));have Zh:=bM (n:=CB.length) (by omega);clear o14 g14 e14 h14 HC13 VJ HS13;go_wp2_with fail;refine(KA.o _).mono ?_;rintro e w15 ⟨⟨v15,rfl,o15⟩,YR⟩;have YS:=ae (HT14.o.kept YR);have jcM:=ae (ai jco.o YR);have HC15:jfp (fH w15 _ _ cs):=ae (bL HC14.o YR);have HS15:=ae o15.sv;clear o15 YR HT14 HC14;go_wp2_with (first | (at_builtin;refine aV rfl _ _ rfl A.heap.size _ _ LF (uv CB.length) rfl ?qa4 rfl ?qb4 ?qc4 ?qd4 ?_))
       case qa4=>exact YS.o.1.2.1
       case qb4=>exact HS15.o
       case qc4=>omega
       case qd4=>exact jcM.o.size
       intro v16 w16 o16 b16 g16 e16;have h16:=YS.o.addF o16 g16 e16 jcM.o.size;have HC16:jfp (fH w16 _ _ cs):=ae (mS (by decide) HC15.o g16 (fun k hk=>fQ.block (.inl YS.o.1.2.1) k hk));have HT16:=ae h16.1;have HB16:=ae (jcM.o.trans h16.2);have VK:=ae (BQ HC16.o.sc Ca.o (by omega));have Zs:=Kd Ca.o HKD.o;rw[Zs]at VK;obtain⟨sf1,sf2⟩:=kD Ca.o;obtain⟨sn,sn1,sn2⟩:=ll cs;have cU:=ae (xw sf1 sf2 ⟨sn,sn1,by omega⟩ (Uv cs));have fG:=(oQ sf1 sf2 ⟨sn,sn1,by omega⟩).1;obtain⟨SM,hSM⟩:∃ SM,cA cs=SM:=⟨_,rfl⟩;rw[hSM]at VK cU fG;have VQ:=ae hSM;unfold ux at VK cU;clear o16 b16 g16 e16 h16 YS HC15 HS15 Zs sf1 sf2 sn1 hSM;go_wp2_with fail;refine VK.o.mono ?_;rintro e w17 ⟨rfl,jcN⟩;have HT17:=ae (HT16.o.kept jcN);have HB17:=ae (ai HB16.o jcN);clear jcN HT16 VK HC16;go_wp2_with fail;refine(cU.o _).mono ?_;rintro e w18 ⟨⟨v18,rfl,o18⟩,jcO⟩;have jcP:=ae (HT17.o.kept jcO);have jcQ:=ae (ai HB17.o jcO);have HS18:=ae o18.sv;clear o18 jcO HT17 cU;go_wp2_with (first | (at_builtin;refine aV rfl _ _ rfl A.heap.size _ _ (LF++uv CB.length) (et SM) rfl ?qa5 rfl ?qb5 ?qc5 ?qd5 ?_))
       case qa5=>exact jcP.o.1.2.1
       case qb5=>exact HS18.o
       case qc5=>rw[jdy];omega
       case qd5=>exact jcQ.o.size
       intro v19 w19 o19 b19 g19 e19;have h19:=jcP.o.addF o19 g19 e19 jcQ.o.size;have HT19:=ae h19.1;have HB19:=ae (jcQ.o.trans h19.2);have HEB:jfp ([67,70,49]++iy fs gn rs j++eN fs (prt gn rs j) (k+1)=LB++CB):=ae (by rw[HP.o,uK.o,QB.o,← HLB.o,← jdL]);have HEF:jfp (F0++ftJ fs gn rs j++ftK fs (prt gn rs j) (k+1)=LF++uv CB.length++et SM):=ae (by rw[HP.o,tq.o,QB.o,VQ.o,← HLF.o];simp only[jdL]);clear o19 b19 g19 e19 h19 jcP HS18;go_wp2_with fail;go_roundw
       case rel=>exact⟨k+1,by omega,by go_num,by rw[HEB.o,HEF.o];first | exact HT19.o | simpa only[jdL]using HT19.o,HB19.o⟩
       case measure=>simp[intOf];omega
      ·obtain rfl:k=fs.length:=by omega
       have hge2:¬ ((fs.length:Nat):Int)<(fs.length:Int):=(by omega);have HEB:jfp ([67,70,49]++iy fs gn rs (j+1)=[67,70,49]++iy fs gn rs j++eN fs (prt gn rs j) fs.length):=ae (by rw[sV,jdL]);have HEF:jfp (F0++ftJ fs gn rs (j+1)=F0++ftJ fs gn rs j++ftK fs (prt gn rs j) fs.length):=ae (by rw[wW,jdL]);clear VB az;go_wp2_with fail;go_roundw
       case rel=>exact⟨j+1,by omega,by go_num,by rw[HEB.o,HEF.o];exact HT4.o,HBK.o⟩
       case measure=>simp[intOf];omega
    ·have hjn:j=N:=by have:=HGL.o;omega
     have hgej:¬ (j:Int)<(gs.length:Int):=(by omega);obtain⟨LB,hLB⟩:∃ LB,[67,70,49]++iy fs gn rs j=LB:=⟨_,rfl⟩;obtain⟨LF,hLF⟩:∃ LF,F0++ftJ fs gn rs j=LF:=⟨_,rfl⟩;have Mf:ge id fs rs gn=LF:=by rw[← hLF,hjn,← QC.o,← HNN.o];rfl
     have VL:ew id fs rs gn=LB++LF++le4 LF.length:=by
      have hb:iy fs gn rs (nps gn rs.length)=iy fs gn rs j:=by rw[HNN.o,hjn]
      show [67,70,49]++(iy fs gn rs (nps gn rs.length)++ge id fs rs gn++le4 (ge id fs rs gn).length)=_
      rw[Mf,hb,← hLB];simp only[jdL]
     have uk:=Vb.o;rw[VL]at uk
     have ZD:LB.length+LF.length+4<=60000000:=by
      have h:=uk.1;simp only[jdy,le4,jdD,jdX]at h;omega
     have KH:0<LF.length:=by
      have h1:=mz id;rw[← Mf];unfold ge dF;simp only[jdy];omega
     have hlf:=HFTL.o.1;rw[Mf]at hlf;rw[hLB,hLF]at Md;have Zx:=ae VL;have xQ:=ae uk.2;clear hLB hLF Mf VL uk hjn;have hsvF:=Md.o.1.2.1.sv;obtain⟨af,cf,rfl,_,_⟩:=bI Md.o.1.2.1;have LZ:=ae hsvF;clear hsvF;go_wp2_with (first | (at_builtin;refine jI rfl _ _ rfl A.heap.size _ _ LB LF rfl ?qa6 rfl ?qb6 ?qp6 ?qc6 ?qd6 ?_))
     case qa6=>exact Md.o.1.1
     case qb6=>exact LZ.o
     try (case qp6=>exact KH)
     case qc6=>omega
     case qd6=>exact HBJ.o.size
     intro v20 w20 o20 g20 e20;have h20:=Md.o.addB o20 g20 e20 HBJ.o.size;have HO20:jfp (aD w20 A.heap.size v20 (LB++LF++(le4 LF.length).take 0)):=ae (by simpa using o20);have HB20:=ae (HBJ.o.trans h20.2);obtain⟨L,hL⟩:∃ L,LF.length=L:=⟨_,rfl⟩;have HLL:=ae hL;rw[hL]at HO20;have hL9:L<1000000:=(by omega)
     have PY:jfp (∀ m,m<4->(le4 L).take (m+1)=(le4 L).take m++[L / 256 ^ m % 256]/\L / 256 ^ (m+1)=L / 256 ^ m / 256):=ae (fun m hm=>by
      refine⟨?_,by rw[Nat.pow_succ,jfm]⟩;obtain rfl | rfl | rfl | rfl:m=0∨m=1∨m=2∨m=3:=by omega
      all_goals simp[le4])
     clear o20 g20 e20 h20 Md LZ hL;go_wp2_with fail;go_loopw [10,18,19] (fun vb n i wx=>∃ m:Nat,m<=4/\i=.int .i64 (m:Int)/\n=.int .i64 ((L / 256 ^ m:Nat):Int)/\aD wx A.heap.size vb (LB++LF++(le4 L).take m)/\Below A.heap.size A wx) (fun _ _ i _=>4-(intOf i).toNat)
     case atStart=>exact⟨0,by omega,rfl,by simp[HLL.o],HO20.o,HB20.o⟩
     case round =>
      obtain⟨m,hm,rfl,rfl,how,az⟩:=hrel;have FO:=ae how;have HBM:=ae az;have bF:=az.size;clear how az;by_cases hm4:m<4
      ·have hm4':(m:Int)<4:=by omega
       obtain⟨hd1,hd2⟩:=PY.o m hm4;have HD1:=ae hd1;have yG:=ae hd2;have pB:=Nat.div_le_self L (256 ^ m);generalize L / 256 ^ m=u at *;have hw8:IntKind.u8.wrap (u:Int)=((u % 256:Nat):Int):=by rw[IntKind.wrap_u8];omega
       have hdv:(u:Int) / 256=((u / 256:Nat):Int):=(by omega);have XV:((le4 L).take m).length<=4:=by rw[jdC];simp[le4];omega
       have Zu:=ae (cG wr (u % 256));clear hd1 hd2;go_wp2_with (first | (at_builtin;refine aV rfl _ _ rfl A.heap.size _ _ (LB++LF++(le4 L).take m) [u % 256] rfl ?qa7 rfl ?qb7 ?qc7 ?qd7 ?_))
       case qa7=>exact FO.o.kept (am _ _)
       case qb7=>exact Zu.o.sv
       case qc7=>simp only[jdy,jd6];omega
       case qd7=>rw[jdx];omega
       intro v21 w21 o21 b21 g21 e21;have HO21:=ae o21;have HB21:=ae ((HBM.o.alloc bF _).trans b21);clear o21 b21 g21 e21;go_wp2_with fail;refine Pz _ rfl u (by omega) rfl ?_;apply_assumption
       try simp only[Act.put,jdJ,jdH,jdI]
       go_wp2_with fail;go_roundw
       case rel=>exact⟨m+1,by omega,by go_num,by rw[yG.o],by rw[HD1.o,← jdL];first | exact HO21.o | simpa only[jdL]using HO21.o,HB21.o⟩
       case measure=>simp[intOf];omega
      ·obtain rfl:m=4:=by omega
       have hge4:¬ ((4:Nat):Int)<4:=(by omega);have YL:LB++LF++(le4 L).take 4=ew id fs rs gn:=by rw[Zx.o,HLL.o];rfl
       rw[YL]at FO;have QD:(ew id fs rs gn).length<=100000000:=by have:=Vb.o.1;omega
       have HSL:=ae (Ft FO.o.sv.toK Vb.o.2 QD);obtain⟨SE,hSE⟩:∃ SE,bX (ew id fs rs gn)=SE:=⟨_,rfl⟩;rw[hSE]at HSL HWM;clear YL QD hSE;go_wp2_with fail;refine HSL.o.mono ?_;rintro e w22 ⟨⟨v22,rfl,o22⟩,hb22⟩;have HO22:=ae o22;have HB22:=ae (ai HBM.o hb22);have FG:w.heap.size<=wr.heap.size:=by have:=HZ0.o;omega
       obtain⟨a22,c22,rfl,_,_⟩:=bI o22;clear o22 hb22 HSL FO;by_cases Yr:(SE.length:Int) > 65536
       ·have xT:jfp (WM=([],4)):=ae (by rw[HWM.o,jdu (by omega)])
        go_wp2_with fail;go_ret2
        rw[xT.o];exact⟨⟨_,rfl,aD.nil _ _⟩,ai ce.o HB22.o⟩
       ·have xT:jfp (WM=(SE,0)):=ae (by rw[HWM.o,jdt (by omega)])
        go_wp2_with fail;go_ret2
        rw[xT.o];exact⟨⟨_,rfl,be HO22.o FG⟩,ai ce.o HB22.o⟩
namespace WritesLaw
theorem walk{w:World}(ht:Tab w){fv v:Value}{fs:List Fd}{rs:List Row}(hs:Sf w fv fs)(ho:∀ f∈fs,Okf f)(id:Nat)(np:id<4294967296)(hr:Sr w v rs)(hro:∀ x∈rs,∀ c∈x,Okc c)(g:Int) :
  Calls Tryz.prog 3 #[.agg #[.int .u32 (id:Int),fv],v,.int .i64 g] w fun e w'=>e=.returned (.bool true)/\Below w.heap.size w w':=by
 obtain⟨fa,fc,rfl,_,_⟩:=hs.form;obtain⟨a,cap,rfl,_,_⟩:=hr.form;have dO:=am w (.cells #[.int .u32 (id:Int),.slice fa fs.length fc] 25);obtain⟨x0,x1⟩:=bx w (.int .u32 (id:Int)) (.slice fa fs.length fc) 25;have ct:(w.alloc (.cells #[.int .u32 (id:Int),.slice fa fs.length fc] 25)).heap.size=w.heap.size+1:=jdx _ _;have xQ:=ae (ht.kept dO);have HS:=ae (hs.kept dO);have HR:=ae (hr.kept dO);have ce:=ae dO;have Wg:=ae hro;have HO:=ae ho;generalize hA:w.alloc (.cells #[.int .u32 (id:Int),.slice fa fs.length fc] 25)=A at *
 have HQ:jfp (∀ U,Below A.heap.size A U->U.cell? ⟨w.heap.size,0,none⟩=some (.int .u32 (id:Int))/\U.cell? ⟨w.heap.size,1,none⟩=some (.slice fa fs.length fc)):=ae (fun U hU =>
  ⟨(hU.cell (p:=⟨w.heap.size,0,none⟩) (by show w.heap.size<_;omega)).trans x0,(hU.cell (p:=⟨w.heap.size,1,none⟩) (by show w.heap.size<_;omega)).trans x1⟩)
 have HAL:=ae (Fi xQ.o);clear ht hs hr dO hro ho ct x0 x1;go_enter Tryz.func3,Tryz.ntmps3
 go_wp2_with fail;try rw[hA]
 clear hA;refine HAL.o.mono ?_;rintro e w1 ⟨rfl,aH⟩;have aQ:=ae aH;obtain⟨c0,c1⟩:=HQ.o w1 aH;have HG:=ae (MY (HS.o.kept aH) id);clear aH HAL;go_wp2_with fail;refine HG.o.mono ?_;rintro e w2 ⟨⟨gr,rfl,Qh⟩,aE⟩;have aO:=ae (ai aQ.o aE);clear aE Qh c0 c1 HG;cases gr with
 | true =>
  go_wp2_with fail;go_ret
  exact⟨rfl,ai ce.o aO.o⟩
 | false =>
 have KG:=ae (Fg (HR.o.kept aO.o) Wg.o);go_wp2_with fail;refine KG.o.mono ?_;rintro e w3 ⟨⟨v3,l3,rfl,fA,gS⟩,aS⟩;have bP:=ae (ai aO.o aS)
 have Vp:∀ r∈l3.map Prod.snd,r.length<=20/\∀ c∈r,aT c:=fun r hr=>by
  obtain⟨x,hx,rfl⟩:=jdR.1 hr;exact gS.2 x hx
 have bR:(l3.map Prod.snd).length<=300:=by rw[jdz];exact gS.1
 have YT:=fA.sr;generalize l3.map Prod.snd=rows at *;have Cb:=ae Vp;obtain⟨a3,c3,rfl,_,_⟩:=YT.form
 have H13:jfp (∀ U,Below w3.heap.size w3 U->Calls Tryz.prog 13 #[.slice a3 rows.length c3] U fun e w'=>∃ b c,e=.returned (.slice b rows.length c)/\Rv w' (.slice b rows.length c) rows/\Below w3.heap.size w3 w'):=ae (fun U hU=>by
  refine(Pp (YT.kept hU) (fun r hr=>(Cb.o r hr).2) (by omega) (fun r hr=>by have:=(Cb.o r hr).1;omega)).mono ?_;rintro e w' ⟨⟨v',l',rfl,how',hsn'⟩,hb'⟩;have hrv':=how'.rv;rw[hsn']at hrv';obtain⟨a',c',rfl,_⟩:=hrv'.form;exact⟨a',c',rfl,hrv',ai hU hb'⟩)
 have H12:jfp (∀ U b c,Below w3.heap.size w3 U->Rv U (.slice b rows.length c) rows->Calls Tryz.prog 12 #[.agg #[.int .u32 (id:Int),.slice fa fs.length fc],.slice b rows.length c,.int .i64 g] U fun e w'=>∃ p q,e=.returned (.tuple #[.slice p (bT id fs rows g).1.length q,.int .i64 ((bT id fs rows g).2:Int)])/\Sv w' (.slice p (bT id fs rows g).1.length q) (aF .u8 (bT id fs rows g).1)/\Below w3.heap.size w3 w'):=ae (fun U b c hU xS=>by
  refine(nW (xQ.o.kept (ai bP.o hU)) (HS.o.kept (ai bP.o hU)) xS HO.o np (fun r hr=>(Cb.o r hr).2) g).mono ?_;rintro e w' ⟨⟨v',rfl,how'⟩,hb'⟩;have hsv':=how'.sv;obtain⟨a',c',rfl,_,_⟩:=bI how';exact⟨a',c',rfl,hsv',ai hU hb'⟩)
 have H14:jfp (∀ U,Below w3.heap.size w3 U->Calls Tryz.prog 14 #[.agg #[.int .u32 (id:Int),.slice fa fs.length fc],.slice a3 rows.length c3,.int .i64 g] U fun e w'=>(∃ v',e=.returned (.tuple #[v',.int .i64 ((bT id fs rows g).2:Int)])/\aD w' U.heap.size v' (bT id fs rows g).1)/\Below U.heap.size U w'):=ae (fun U hU =>
  xz (HS.o.kept (ai bP.o hU)) (YT.kept hU) HO.o np (fun r hr=>(Cb.o r hr).2) (by omega) g)
 have uK:jfp (Bs (bT id fs rows g).1):=ae (by
  unfold bT;split
  ·exact fun x hx=>by simp at hx
  ·next h0 =>
   split
   ·exact fun x hx=>by simp at hx
   ·obtain⟨hc,⟨eS,ik⟩,hl,kL⟩:=lm (Decidable.not_not.1 h0)
    exact(mn HO.o np hc hl (by omega) (by omega) (fun r hh=>⟨mo kL r hh,(Cb.o r hh).2⟩)).2.seal)
 generalize bT id fs rows g=WM at *;obtain⟨wb,we⟩:=WM;simp only at H12 H14 uK;have HQ3:jfp (∀ U,Below w3.heap.size w3 U->U.cell? ⟨w.heap.size,0,none⟩=some (.int .u32 (id:Int))/\U.cell? ⟨w.heap.size,1,none⟩=some (.slice fa fs.length fc)):=ae (fun U hU=>HQ.o U (ai bP.o hU));obtain⟨c0,c1⟩:=HQ3.o w3 (jdv _ _);clear aS fA gS Vp YT KG;generalize rows.length=nr at *;go_upto_region 6 with fail
 go_cut [8,9] from 43 (fun v8 v9 wx=>∃ p q,v8=.slice p wb.length q/\v9=.int .i64 (we:Int)/\Sv wx (.slice p wb.length q) (aF .u8 wb)/\Below w3.heap.size w3 wx)
 case first =>
  refine wp_region_noPanic ?_
  go_region_law (first
   | (go_simp;go_at_call 13;refine(H13.o _ ?_).mono ?_;exact ap (jdv w3.heap.size w3) _;rintro e y1 ⟨b1,d1,rfl,Vq,jcR⟩;obtain⟨q0,q1⟩:=HQ3.o y1 jcR;have Vr:=ae Vq;have HBZ1:=ae jcR;clear Vq jcR;dsimp only)
   | (go_simp;go_at_call 12;refine(H12.o _ _ _ ?_ ?_).mono ?_;(first | exact HBZ1.o | exact ap HBZ1.o _);(first | exact Vr.o | exact Vr.o.kept (ap (jdv y1.heap.size y1) _));rintro e y2 ⟨p2,q2,rfl,dN,hbz2⟩;have gl:=ae dN;have HBZ2:=ae hbz2;clear dN hbz2;dsimp only)
   | fail)
  all_goals refine NoPanic.normal ?_
  all_goals go_wp2_with fail
  all_goals go_meet
  all_goals exact⟨_,_,rfl,rfl,gl.o,HBZ2.o⟩
 case rest =>
 obtain⟨p,q,rfl,rfl,iO,An⟩:=hcut;obtain⟨w4,hw4⟩:∃ w4,w4=wc:=⟨_,rfl⟩;subst hw4;have FY:=ae iO;have cx:=ae An;clear iO An c0 c1;obtain⟨c0,c1⟩:=HQ3.o w4 cx.o;have H14':=ae (H14.o w4 cx.o);go_wp2_with fail;refine H14'.o.mono ?_;rintro e w5 ⟨⟨v5,rfl,o5⟩,bD⟩;have lp:=(FY.o.kept bD).conv uK.o;have jT:=o5.sv.conv uK.o;have aR:=ae (ai bP.o (ai cx.o bD));obtain⟨a5,c5,rfl,_,_⟩:=bI o5;unfold txt at lp jT;clear o5 bD H14';go_wp2_with fail;go_ret
 exact⟨rfl,ai ce.o aR.o⟩
end WritesLaw
abbrev Fv : List (String × DataW Unit) := [("catchment/crc.halves", Rows.laid_catchment_crc_halves)]
def ja8:List Int:=[0,498536548,997073096,651767980,1994146192,1802195444,1303535960,1342533948,3988292384,4027552580,3604390888,3412177804,2607071920,2262029012,2685067896,3183342108]
theorem LG : Tryz.prog.globalNamed "catchment/crc.halves" = some 0 := by kernel_rfl
theorem XS:(Tryz.prog.globals[0]?).map (·.type)=some 245:=by kernel_rfl
theorem XT:Tryz.prog.cellsOf 22=1:=by kernel_rfl
theorem Ux:Tryz.prog.cellsOf 245=16:=by kernel_rfl
theorem ja9:∀ i,i<16->ja8.getD i 0=((ez 4 i:Nat):Int):=by decide +kernel
theorem XU{W:World}(h:laidMetH Tryz.prog Fv W):Tab W:=by
 rw[MakeChecks.laidMetH_plain _ _ _ (by kernel_rfl)]at h;have hT : TabIs Tryz.prog W "catchment/crc.halves" .u32 ja8 := tabIs_of_head LG XS Tryz.underlying245 Tryz.underlying22 XT Ux h
 have hc:∀ i:Nat,i<16->W.cell? ⟨0,i,none⟩=some (.int .u32 ((ez 4 i:Nat):Int)):=fun i hi=>by
  have:=hT.cell LG i (by simpa [ja8]using hi);rw[this,ja9 i hi]
 refine⟨?_,hc⟩;have h0:=hc 0 (by omega);rcases jel W.heap.size with hz | hz
 ·exfalso
  unfold World.cell? at h0;simp[hz]at h0
 ·exact hz
theorem Uy(os:Os)(args:Array Value):laidMetH Tryz.prog Fv ((World.doorLaid Tryz.prog 400 os).forCall (fun _ _=>0) ⟨#[],args,[]⟩).memory :=
 laidMetH_of_parts3 (fuel:=8) (laidMet_of_run' 8 (by kernel_rfl) (by kernel_rfl)) (by kernel_rfl) (by kernel_rfl)
open Go
theorem oY:joinedFacts Tryz.prog 3 Tryz.f3 Rows.colfileWritesSpec Rows.colfileWritesRow=true:=by
 unfold joinedFacts;simp only[Bool.and_eq_true];and_intros
 all_goals (as_aux_lemma=>kernel_rfl)
end Go.Proofs.YtpljdjmpamjkhaaGreatDoor
