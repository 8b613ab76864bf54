import Derived.Test.YtpljdjmpamjkhaaGreatDoorQav
import Derived.Test.YtpljdjmpamjkhaaGreatDoorQax
import Derived.Test.YtpljdjmpamjkhaaGreatDoorQay
import Derived.Test.YtpljdjmpamjkhaaGreatDoorCards
import Derived.Test.YtpljdjmpamjkhaaGreatDoorTie
import Derived.LaidMore
set_option linter.unusedVariables false
set_option linter.unusedSimpArgs false
set_option maxRecDepth 100000
set_option maxHeartbeats 20000000
namespace Go.Proofs.YtpljdjmpamjkhaaGreatDoor
open Go.RowKit Go.Lib
def T2(W:World)(B:Nat)(vb vf:Value)(lb lf:List Nat):Prop:=fT W B vb lb/\aD W B vf lf/\nQ vb vf
theorem T2.kept{W W':World}{B:Nat}{vb vf:Value}{lb lf:List Nat}(h:T2 W B vb vf lb lf)(hb:Below W.heap.size W W'):T2 W' B vb vf lb lf:=⟨h.1.kept hb,h.2.1.kept hb,h.2.2⟩
theorem T2.addB{W W':World}{B:Nat}{vb vb' vf:Value}{lb lb' lf:List Nat}(h:T2 W B vb vf lb lf)(ho:aD W' B vb' lb')(hg:W.grownBy W' vb.ownBlock)(he:vb'.ownBlock=vb.ownBlock∨vb'.ownBlock=some W.heap.size)(hB:B<=W.heap.size):T2 W' B vb' vf lb' lf/\Below B W W' :=
 ⟨⟨.inl ho,World.ownsRow.kept h.2.1 hg h.2.2.symm.ne,h.2.2.grow he (fun k hk=>(World.ownsRow.lt h.2.1 k hk).2)⟩,(jej B W).grown hg hB (fun k hk=>(h.1.lt k hk).1)⟩
theorem T2.addF{W W':World}{B:Nat}{vb vf vf':Value}{lb lf lf':List Nat}(h:T2 W B vb vf lb lf)(ho:aD W' B vf' lf')(hg:W.grownBy W' vf.ownBlock)(he:vf'.ownBlock=vf.ownBlock∨vf'.ownBlock=some W.heap.size)(hB:B<=W.heap.size):T2 W' B vb vf' lb lf'/\Below B W W' :=
 ⟨⟨h.1.grown hg h.2.2.ne,ho,(h.2.2.symm.grow he (fun k hk=>(h.1.lt k hk).2)).symm⟩,(jej B W).grown hg hB (fun k hk=>(World.ownsRow.lt h.2.1 k hk).1)⟩
def T3(W:World)(B Bg:Nat)(vb vf vg:Value)(lb lf:List Nat)(xs:List Value)(n:Nat):Prop:=T2 W B vb vf lb lf/\W.ownsRow Bg 26 1 vg n xs
theorem T3.kept{W W':World}{B Bg n:Nat}{vb vf vg:Value}{lb lf:List Nat}{xs:List Value}(h:T3 W B Bg vb vf vg lb lf xs n)(hb:Below W.heap.size W W'):T3 W' B Bg vb vf vg lb lf xs n:=⟨h.1.kept hb,bJ h.2 hb⟩
theorem na{W W':World}{row:Option Nat}{Bg n e size:Nat}{vg:Value}{xs:List Value}(he:e≠5)(h:W.ownsRow Bg e size vg n xs)(hg:W.grownBy W' row)(hr:∀ k,row=some k->∃ cur fz,W.heap[k]?=some (.cells cur 5 fz)):W'.ownsRow Bg e size vg n xs :=
 bX h fun k hk=>hg.block k (aM h hk).2.1 (fun e'=>by
  obtain⟨_,_,c,h1⟩:=aM h hk;obtain⟨cur,fz,h2⟩:=hr k e'.symm;rw[h1]at h2;cases h2
  exact he rfl)
theorem T3.addB{W W':World}{B Bg n:Nat}{vb vb' vf vg:Value}{lb lb' lf:List Nat}{xs:List Value}(h:T3 W B Bg vb vf vg lb lf xs n)(ho:aD W' B vb' lb')(hg:W.grownBy W' vb.ownBlock)(he:vb'.ownBlock=vb.ownBlock∨vb'.ownBlock=some W.heap.size)(hB:B<=W.heap.size):T3 W' B Bg vb' vf vg lb' lf xs n/\Below B W W' :=
 ⟨⟨(h.1.addB ho hg he hB).1,na (by decide) h.2 hg (fun k hk=>h.1.1.block k hk)⟩,(h.1.addB ho hg he hB).2⟩
theorem T3.addF{W W':World}{B Bg n:Nat}{vb vf vf' vg:Value}{lb lf lf':List Nat}{xs:List Value}(h:T3 W B Bg vb vf vg lb lf xs n)(ho:aD W' B vf' lf')(hg:W.grownBy W' vf.ownBlock)(he:vf'.ownBlock=vf.ownBlock∨vf'.ownBlock=some W.heap.size)(hB:B<=W.heap.size):T3 W' B Bg vb vf' vg lb lf' xs n/\Below B W W' :=
 ⟨⟨(h.1.addF ho hg he hB).1,na (by decide) h.2 hg (fun k hk=>fT.block (.inl h.1.2.1) k hk)⟩,(h.1.addF ho hg he hB).2⟩
theorem Vi(cs:List Cl):(cA cs).some=false->(cA cs).high=false:=by
 unfold cA;split
 ·exact fun _=>rfl
 ·exact fun h=>by cases h
theorem Qj{fs:List Fd}{p:List Row}{k:Nat}(h:Col (mj fs k) (cY p k)):∀ c∈cY p k,c.1=mj fs k∨c=nul:=fun c hc=>by
 rcases h.2.2 c hc with e | ⟨hk,n,e,_⟩ | ⟨hk,n,e,_⟩ | ⟨hk,n,e,_⟩
 ·exact .inr e
 ·rw[e,hk];exact .inl rfl
 ·rw[e,hk];exact .inl rfl
 ·rw[e,hk];exact .inl rfl
theorem Vj(k:Nat)(l:List Cl):0<(ey k l).length:=by
 unfold ey dO;rw[jem];split<;>simp only[jer]<;>omega
theorem Qk{fs:List Fd}{rs:List Row}{g:Nat}(jH:fs.length<=8)(hk:∀ f∈fs,1<=f.2.2.1/\f.2.2.1<=3)(nD:rs.length<=256)(eZ:1<=g)(dq:jR fs rs){j k:Nat}(hj:j<=256)(oF:k<=fs.length) :
  (iD fs g rs j).length+(eU fs (prt g rs j) k).length<=50000000/\(ftJ fs g rs j).length+(ftK fs (prt g rs j) k).length<=400000:=by
 have kV:∀ j,(prt g rs j).length<=256:=fun j=>by rw[cm];omega
 have ec:∀ j k,k<fs.length->Col (mj fs k) (cY (prt g rs j) k):=fun j k h=>fq (dq.part g j) hk (kV j) h
 have h1:∀ j,(eU fs (prt g rs j) fs.length).length<=172800:=fun j=>by have:=(mu (ec j) (jek _)).1;omega
 have h2:∀ j,(ftK fs (prt g rs j) fs.length).length<=1360:=fun j=>by have:=(pj (dq.part g j) (kV j) (ec j) (jek _)).1;omega
 have h3:=iH h1 (List.range j);have h4:=iH h2 (List.range j);rw[jf7]at h3 h4;have h5:=(mu (ec j) oF).1;have h6:=(pj (dq.part g j) (kV j) (ec j) oF).1;have h7:172800*j<=172800*256:=jfm _ hj;have h8:1360*j<=1360*256:=jfm _ hj;have h9:(iD fs g rs j).length<=172800*j:=h3;have nB:(ftJ fs g rs j).length<=1360*j:=h4;constructor<;>omega
theorem jbT(u:Nat)(h:u<1000000)(w:World):(binOp .quo 3 (.int .i64 (u:Int)) (.int .i64 256)).run Tryz.prog w=.ok (.int .i64 ((u / 256:Nat):Int)) w:=by
 have hqd:IntKind.i64.wrap ((u:Int).tdiv 256)=((u / 256:Nat):Int):=by
  rw[Int.tdiv_eq_ediv_of_nonneg (by omega),jeV];omega
 rw[← hqd];first | rfl | (simp[go_sem];done) | (simp[binOp,go_sem];done)
theorem Ql{w:World}{o:Oper}{a:Act}{K:Act->World->Prop}{Q:Exit->Act->World->Prop}(x:Operand)
  (ho:o.op=.binOp .quo 3 x (.const (.int .i64 256)) 3) (u:Nat) (hu:u<1000000) (hx:a.eval x=.int .i64 (u:Int)) (h:K (a.put o.dst (.int .i64 ((u / 256:Nat):Int))) w):Oper.wp Tryz.prog o a w K Q:=by
 have hq:=jbT u hu w;have hc:a.eval (.const (.int .i64 256))=.int .i64 256:=rfl;have hg:(eqGuard BinOp.quo 3 x (Operand.const (.int .i64 256)) (.int .i64 (u:Int)) (.int .i64 256)).run Tryz.prog w=.ok () w:=rfl;unfold Oper.wp execOp;simp only[ho,Sem.run_bind,Sem.run_pure,Result.andThen_ok,hx,hc,hg,hq];exact h
theorem ye{w:World}{fv v:Value}{fs:List Fd}{rs:List Row}{id:Nat}(hs:Sf w fv fs)(hr:Sr w v rs)(ho:∀ f∈fs,Okf f)(lM:id<4294967296)(hf:∀ r∈rs,∀ c∈r,aT c)(hl:rs.length<=1000)(g:Int) :
  Calls Tryz.prog 14 #[.agg #[.int .u32 (id:Int),fv],v,.int .i64 g] w fun e w'=>(∃ v',e=.returned (.tuple #[v',.int .i64 ((bW id fs rs g).2:Int)])/\aD w' w.heap.size v' (bW id fs rs g).1)/\Below w.heap.size w w':=by
 obtain⟨fa,fc,rfl,jcG,jcH⟩:=hs.form;obtain⟨a,cap,rfl,aW,bC⟩:=hr.form;have dL:=ak w (.cells #[.int .u32 (id:Int),.slice fa fs.length fc] 25);obtain⟨x0,x1⟩:=bx w (.int .u32 (id:Int)) (.slice fa fs.length fc) 25;have ch:(w.alloc (.cells #[.int .u32 (id:Int),.slice fa fs.length fc] 25)).heap.size=w.heap.size+1:=jel _ _;have HS:=ae (hs.kept dL);have HR:=ae (hr.kept dL);have ce:=ae dL;have HF:=ae hf;have HO:=ae ho;have WQ:=ae ch;generalize hA:w.alloc (.cells #[.int .u32 (id:Int),.slice fa fs.length fc] 25)=A at *
 have HQ:jgf (∀ U,Below A.heap.size A U->U.cell? ⟨w.heap.size,0,none⟩=some (.int .u32 (id:Int))/\U.cell? ⟨w.heap.size,1,none⟩=some (.slice fa fs.length fc)):=ae (fun U hU =>
  ⟨(hU.cell (p:=⟨w.heap.size,0,none⟩) (by show w.heap.size<_;omega)).trans x0,(hU.cell (p:=⟨w.heap.size,1,none⟩) (by show w.heap.size<_;omega)).trans x1⟩)
 have Dg:jgf (eb id fs rs g=if chk id fs≠0 then chk id fs else if g<1∨64<g then 1 else if 256<rs.length then 5 else kL fs rs):=ae rfl;have HWN:jgf (∀ f,eb id fs rs g=f->f≠0->bW id fs rs g=([],f)):=ae (fun f e h=>by unfold bW;rw[e,jei h]);have HWZ:jgf (eb id fs rs g=0->bW id fs rs g=if 65536<(bE (dy id fs rs g.toNat)).length then ([],4) else (bE (dy id fs rs g.toNat),0)):=ae (fun e=>by unfold bW;rw[e,jeh (by simp)]);obtain⟨WM,hWM⟩:∃ WM,bW id fs rs g=WM:=⟨_,rfl⟩;rw[hWM]at HWN HWZ ⊢;obtain⟨FW,hFW⟩:∃ FW,eb id fs rs g=FW:=⟨_,rfl⟩;rw[hFW]at Dg HWN HWZ;have lA:=ae (sg HS.o id);obtain⟨c0,c1⟩:=HQ.o A (jej _ _);clear hs hr dL hf ho ch x0 x1 hWM hFW;go_enter Tryz.func14,Tryz.ntmps14
 go_wp2_with fail;try rw[hA]
 clear hA;refine lA.o.mono ?_;rintro e w1 ⟨rfl,aH⟩;have aP:=ae aH;clear aH lA c0 c1;by_cases dN:chk id fs=0
 case neg =>
  have jdr:(((chk id fs:Nat):Int) != 0)=true:=by simp[dN]
  have yE:=ae (HWN.o (chk id fs) (by rw[Dg.o,jei dN]) dN);go_wp2_with fail;go_ret2
  rw[yE.o];exact⟨⟨_,rfl,aD.nil _ _⟩,ai ce.o aP.o⟩
 have jdr:(((chk id fs:Nat):Int) != 0)=false:=by simp[dN]
 have lA:=ae dN;rw[jeh (by omega)]at Dg;by_cases eZ:g<1
 ·have yE:=ae (HWN.o 1 (by rw[Dg.o,jei (Or.inl eZ)]) (by omega))
  go_wp2_with fail;go_ret2
  rw[yE.o];exact⟨⟨_,rfl,aD.nil _ _⟩,ai ce.o aP.o⟩
 by_cases gY:g > 64
 ·have yE:=ae (HWN.o 1 (by rw[Dg.o,jei (Or.inr gY)]) (by omega))
  go_wp2_with fail;go_ret2
  rw[yE.o];exact⟨⟨_,rfl,aD.nil _ _⟩,ai ce.o aP.o⟩
 rw[jeh (by omega)]at Dg;by_cases hl256:(rs.length:Int) > 256
 ·have yE:=ae (HWN.o 5 (by rw[Dg.o,jei (by omega)]) (by omega))
  go_wp2_with fail;go_ret2
  rw[yE.o];exact⟨⟨_,rfl,aD.nil _ _⟩,ai ce.o aP.o⟩
 rw[jeh (by omega)]at Dg;clear dN;go_wp2_with fail;go_loopw [8,9] (fun e i wr=>∃ k:Nat,k<=rs.length/\i=.int .i64 (k:Int)/\kL fs rs=kL fs (rs.drop k)/\Below A.heap.size A wr) (fun _ i _=>rs.length-(intOf i).toNat)
 case atStart=>exact⟨0,by omega,rfl,rfl,aP.o⟩
 case round =>
  obtain⟨k,hk,rfl,kT,az⟩:=hrel;have GJ:=ae kT;have HB:=ae az;clear kT;obtain⟨c0,c1⟩:=HQ.o wr az;by_cases aB:k<rs.length
  ·have hlt':(k:Int)<(rs.length:Int):=by omega
   obtain⟨gb,off,rv,rfl,QB,bn,yB⟩:=(HR.o.kept az).at aB;obtain⟨ra,rc,rfl,_,_⟩:=yB.form;have cP:=ae (AA (fs:=fs) aB)
   have AX:jgf (∀ U,Below wr.heap.size wr U->Calls Tryz.prog 43 #[.agg #[.int .u32 (id:Int),.slice fa fs.length fc],.slice ra rs[k].length rc] U fun e w'=>e=.returned (.int .i64 (iO fs rs[k]:Int))/\Below wr.heap.size wr w'):=ae (fun U hU=>by
    refine(xu (HS.o.kept (az.trans (hU.mono az.size))) (yB.kept hU) id).mono ?_;rintro e w' ⟨rfl,hb⟩;exact⟨rfl,ai hU hb⟩)
   generalize iO fs rs[k]=fm at *;generalize rs[k].length=rl at *;go_upto_region 11 with fail
   go_cut [8] from 134 (fun v wx=>v=.int .i64 (fm:Int)/\Below wr.heap.size wr wx)
   case first =>
    refine wp_region_noPanic ?_
    go_region_law (first
     | (go_simp;go_at_call 43;refine(AX.o _ ?_).mono ?_;exact ar (jej wr.heap.size wr) _;rintro e w5 ⟨rfl,bD⟩;have aQ:=ae bD;clear bD;dsimp only)
     | fail)
    all_goals refine NoPanic.normal ?_
    all_goals go_wp2_with fail
    all_goals go_meet
    all_goals exact⟨rfl,aQ.o⟩
   case rest =>
   obtain⟨rfl,tY⟩:=hcut;obtain⟨w5,Xa⟩:∃ w5,w5=wc:=⟨_,rfl⟩;subst Xa;have aQ:=ae (az.trans (tY.mono az.size));clear tY c0 c1 bn yB az AX;by_cases hm:fm=0
   ·have hmz:((fm:Int) != 0)=false:=by simp[hm]
    have QL:jgf (kL fs (rs.drop k)=kL fs (rs.drop (k+1))):=ae (by rw[cP.o,jei hm]);clear cP;go_wp2_with fail;go_roundw
    case rel=>exact⟨k+1,by omega,by go_num,by rw[GJ.o,QL.o],aQ.o⟩
    case measure=>simp[intOf];omega
   ·have hmz:((fm:Int) != 0)=true:=by simp[hm]
    have yE:=ae (HWN.o fm (by rw[Dg.o,GJ.o,cP.o,jeh hm]) hm);go_wp2_with fail;go_ret2
    rw[yE.o];exact⟨⟨_,rfl,aD.nil _ _⟩,ai ce.o aQ.o⟩
  ·obtain rfl:k=rs.length:=by omega
   have gi:¬ ((rs.length:Nat):Int)<(rs.length:Int):=(by omega);have hfz:kL fs rs=0:=by have h:=GJ.o;rw[jfg]at h;exact h
   have HWM:=ae (HWZ.o (by rw[Dg.o,hfz]));obtain⟨gn,rfl⟩:=jfx (show 0<=g by omega);rw[jeQ]at HWM;have QZ:1<=gn:=(by omega);have ZG:gn<=64:=(by omega);have nD:rs.length<=256:=(by omega);have dq:jR fs rs:=fun r hr=>⟨mv hfz r hr,HF.o r hr⟩
   have CO:=ae dq;obtain⟨tU,hfl8,hfl0⟩:=mU lA.o;have GH:=ip lA.o;have Zd:=ae GH;have sL:=ae (fun j k (hj:j<=256) (oF:k<=fs.length)=>Qk (g:=gn) hfl8 GH nD QZ dq hj oF);have VO:=ae (kO (g:=gn) HO.o lM lA.o nD QZ ZG dq)
   have jds:jgf ((dH id fs).length<=400000):=ae (by
    have h:=(rZ (g:=gn) HO.o lM lA.o nD QZ ZG dq).1;unfold gm at h;simp only[jem]at h;omega)
   have HFTL:=ae (rZ (g:=gn) HO.o lM lA.o nD QZ ZG dq);have hN:=kr (n:=rs.length) QZ nD;obtain⟨w5,Xa⟩:∃ w5,w5=wr:=⟨_,rfl⟩;subst Xa;have hz:=az.size;have fK:=cF w5 (.cells #[.int .u8 67,.int .u8 70,.int .u8 49] 5 (3,4))
   have vL:(convert 30 30 (.slice (some ⟨w5.heap.size,0,none⟩) 3 3)).run Tryz.prog (w5.alloc (.cells #[.int .u8 67,.int .u8 70,.int .u8 49] 5))=.ok (.slice (some ⟨w5.heap.size,0,none⟩) 3 3) (w5.alloc (.cells #[.int .u8 67,.int .u8 70,.int .u8 49] 5 (3,4))) :=
    run_convert_bytes_const w5 30 5 #[.int .u8 67,.int .u8 70,.int .u8 49] 3 3 Tryz.underlying30 Tryz.underlying5
   have yf:fT (w5.alloc (.cells #[.int .u8 67,.int .u8 70,.int .u8 49] 5 (3,4))) A.heap.size (.slice (some ⟨w5.heap.size,0,none⟩) 3 3) [67,70,49]:=Or.inr ⟨rfl,_,rfl,hz,jeK _ _⟩;have nz:=ae yf;have hBL:=az.alloc hz (.cells #[.int .u8 67,.int .u8 70,.int .u8 49] 5 (3,4));have Qs:=ae hBL;have HSZL:jgf (w5.heap.size<(w5.alloc (.cells #[.int .u8 67,.int .u8 70,.int .u8 49] 5 (3,4))).heap.size):=ae (by rw[jel];omega);have Qr:=ae (Gh (HS.o.kept hBL) HO.o (by omega) tU id lM);obtain⟨c0',c1'⟩:=HQ.o _ hBL;clear c0 c1 az fK yf hBL dq GH GJ Dg HWZ HWN;go_wp2_with fail;refine Qr.o.mono ?_;rintro e w6 ⟨⟨v6,rfl,o6⟩,dW⟩;have hBW6:=ai Qs.o dW
   have ht6:T2 w6 A.heap.size (.slice (some ⟨w5.heap.size,0,none⟩) 3 3) v6 [67,70,49] (dH id fs):=⟨nz.o.kept dW,bg o6 Qs.o.size,fun q hq nw=>by
    have h1:=(World.ownsRow.lt o6 q nw).1;have h2:=HSZL.o;simp only[Value.ownBlock,jfu,Option.some.injEq]at hq;omega⟩
   have HT6:=ae ht6;have gW:=ae hBW6;have hwrL:IntKind.u64.wrap (rs.length:Int)=(rs.length:Int):=by rw[jeP];omega
   have hwrG:IntKind.u64.wrap (gn:Int)=(gn:Int):=by rw[jeP];omega
   have Dj:=ae (bK rs.length (by omega));have Gj:=ae (bK gn (by omega));clear hBW6 ht6 o6 dW Qr vL c0' c1' nz;have Zo:=bO (n:=rs.length) (by omega);have hu2:=bO (n:=gn) (by omega);go_wp2_with fail;refine(Dj.o _).mono ?_;rintro e w7 ⟨⟨v7,rfl,o7⟩,iR⟩;have HT7:=ae (HT6.o.kept iR);have ir:=ae (ai gW.o iR);have Lc:=ae o7.sv;clear o7 iR HT6;go_wp2_with (first | (at_builtin;refine aV rfl _ _ rfl A.heap.size _ _ (dH id fs) (uv rs.length) rfl ?qa1 rfl ?qb1 ?qc1 ?qd1 ?_))
   case qa1=>exact HT7.o.2.1
   case qb1=>exact Lc.o
   case qc1=>have:=jds.o;omega
   case qd1=>exact ir.o.size
   intro v8 w8 o8 b8 g8 e8;have h8:=HT7.o.addF o8 g8 e8 ir.o.size;have Wi:=ae h8.1;have qD:=ae (ir.o.trans h8.2);clear o8 b8 g8 e8 h8 HT7 Lc;go_wp2_with fail;refine(Gj.o _).mono ?_;rintro e w9 ⟨⟨v9,rfl,o9⟩,pS⟩;have HT9:=ae (Wi.o.kept pS);have ny:=ae (ai qD.o pS);have HS9:=ae o9.sv;clear o9 pS Wi;go_wp2_with (first | (at_builtin;refine aV rfl _ _ rfl A.heap.size _ _ (dH id fs++uv rs.length) (uv gn) rfl ?qa2 rfl ?qb2 ?qc2 ?qd2 ?_))
   case qa2=>exact HT9.o.2.1
   case qb2=>exact HS9.o
   case qc2=>have:=jds.o;rw[jem];omega
   case qd2=>exact ny.o.size
   intro v10 w10 o10 b10 g10 e10;have nB:=HT9.o.addF o10 g10 e10 ny.o.size;have HT10:=ae nB.1;have vR:=ae (ny.o.trans nB.2);clear o10 b10 g10 e10 nB HT9 HS9;have HGR:=ae (vH HR.o vR.o hl QZ ZG);obtain⟨N,hNN⟩:∃ N,nps gn rs.length=N:=⟨_,rfl⟩;have HNN:=ae hNN;rw[hNN]at hN;clear hNN;go_wp2_with fail;refine HGR.o.mono ?_;rintro e w11 ⟨⟨vg,gs,rfl,hog,Qq,sR⟩,QY⟩
   have Zn:gs.length=N:=by
    have h:=jep List.length sR;rw[jen]at h;unfold JL at h;rw[jen,jf7]at h;rw[h];exact HNN.o
   have HGJ:jgf (∀ j (h:j<gs.length),Sr A gs[j].1 (prt gn rs j)):=ae (fun j h=>by
    have h1:=Qq gs[j] (jeo h);have h2:(gs.map Prod.snd)[j]?=(JL gn rs)[j]?:=by rw[sR]
    have h3:gs[j].2=prt gn rs j:=by
     unfold JL at h2;rw[List.getElem?_map,List.getElem?_eq_getElem h,List.getElem?_map,List.getElem?_range (by have:=HNN.o;omega)]at h2;simpa using h2
    rw[← h3];exact h1)
   obtain⟨ag,cg,rfl,hcg1,hcg2⟩:=be hog
   have HT11:jgf (T3 w11 A.heap.size w10.heap.size (.slice (some ⟨w5.heap.size,0,none⟩) 3 3) v10 (.slice ag gs.length cg) [67,70,49] (dH id fs++uv rs.length++uv gn) (gs.map Prod.fst) gs.length):=ae ⟨by
    have h:=HT10.o.kept QY;rw[jez];first | exact h | (rw[jez]at h;exact h),hog⟩
   have Zx:=ae (ai vR.o QY);have HGL:=ae Zn;clear hog Qq sR QY HGR HT10 Zn;have HJ0:jgf (iD fs gn rs 0=[]/\ftJ fs gn rs 0=[]):=ae ⟨rfl,rfl⟩;obtain⟨F0,hF0⟩:∃ F0,dH id fs++uv rs.length++uv gn=F0:=⟨_,rfl⟩;rw[hF0]at HT11;have Rl:=ae hF0;have HF0L:jgf (F0.length<=400020):=ae (by rw[← hF0];simp only[jem];have:=jds.o;omega);clear hF0;go_wp2_with fail;go_loopw [10,11,13] (fun vb vf i wr=>∃ j:Nat,j<=gs.length/\i=.int .i64 (j:Int)/\T3 wr A.heap.size w10.heap.size vb vf (.slice ag gs.length cg) ([67,70,49]++iD fs gn rs j) (F0++ftJ fs gn rs j) (gs.map Prod.fst) gs.length/\Below A.heap.size A wr) (fun _ _ i _=>gs.length-(intOf i).toNat)
   case atStart=>exact⟨0,by omega,rfl,by rw[HJ0.o.1,HJ0.o.2,jeG,jeG];exact HT11.o,Zx.o⟩
   case round =>
    obtain⟨j,hj,rfl,ht3,az⟩:=hrel;have MK:=ae ht3;have HBJ:=ae az;clear ht3 az;by_cases hjt:j<gs.length
    ·have hjt':(j:Int)<(gs.length:Int):=by omega
     go_wp2_with fail;go_loopw [10,11,14] (fun vb vf i wx=>∃ k:Nat,k<=fs.length/\i=.int .i64 (k:Int)/\T3 wx A.heap.size w10.heap.size vb vf (.slice ag gs.length cg) ([67,70,49]++iD fs gn rs j++eU fs (prt gn rs j) k) (F0++ftJ fs gn rs j++ftK fs (prt gn rs j) k) (gs.map Prod.fst) gs.length/\Below A.heap.size A wx) (fun _ _ i _=>fs.length-(intOf i).toNat)
     case atStart =>
      refine⟨0,by omega,rfl,?_,HBJ.o⟩;have e1:eU fs (prt gn rs j) 0=[]:=rfl;have e2:ftK fs (prt gn rs j) 0=[]:=rfl;rw[e1,e2,jeG,jeG];exact MK.o
     case round =>
      obtain⟨k,hk,rfl,Wo,az⟩:=hrel;have HT4:=ae Wo;have HBK:=ae az;obtain⟨c0,c1⟩:=HQ.o wr az;have bH:=az.size;by_cases hkt:k<fs.length
      ·have hkt':(k:Int)<(fs.length:Int):=by omega
       have Gz:=CO.o.part gn j;have kV:=cm gn rs j;obtain⟨p,hp⟩:∃ p,prt gn rs j=p:=⟨_,rfl⟩;have ZH:=mo fs (prt gn rs j) k;have ZI:=nZ fs (prt gn rs j) k;have uV:=sL.o j k (by have:=HGL.o;omega) (by omega);have Qq:=(HGJ.o j hjt).kept az;have HP:=ae hp;rw[hp]at Gz kV ZH ZI uV Qq HT4;clear hp;have ec:Col (mj fs k) (cY p k):=fq Gz Zd.o (by omega) hkt;have Wv:=ml hkt;obtain⟨G,hag,_,hG,hgc⟩:=iq HT4.o.2 (i:=j) (x:=gs[j].1) (by simp[hjt]);obtain⟨xa,xc,hxe,_,_⟩:=Qq.form;obtain⟨fb,foff,rfl,hfb,f0,f1,f2,f3⟩:=(HS.o.kept az).at hkt;have HV:=ae (vG Qq (by omega) (k:=k) (fun r hr=>by have:=qO (Gz r hr).1;omega));rw[hxe]at hgc HV;obtain⟨q,hq⟩:∃ q,fs[k].2.2.1=q:=⟨_,rfl⟩;rw[hq]at Wv f2;have MD:1<=q/\q<=3:=by have:=Zd.o _ (jeo hkt);rw[hq]at this;exact this
       have hwq:IntKind.i64.wrap (q:Int)=(q:Int):=by rw[jeV];omega
       rw[Wv]at ec ZH ZI;have nA:=ae ec;have HFP:=ae Gz;have sO:=ae ZH;have tT:=ae ZI;have CU:=ae uV;obtain⟨cs,KS⟩:∃ cs,cY p k=cs:=⟨_,rfl⟩;have hp64:p.length<=64:=(by omega);have eX:(cY p k).length<=64:=by rw[dx];exact hp64
       clear kV;have CX:=ae (mt Gz k)
       have HKD:jgf (∀ c∈cY p k,c.1=q∨c=nul):=ae (by
        have h:=Qj (fs:=fs) (p:=p) (k:=k) (by rw[Wv];exact ec);rw[Wv]at h;exact h)
       rw[KS]at eX HV nA sO tT CX HKD;subst hag;clear Wo Qq hxe Gz ec ZH ZI uV Wv hq KS az f0 f1 f3;go_wp2_with fail;refine HV.o.mono ?_;rintro e w12 ⟨⟨v12,rfl,o12⟩,pC⟩;have HT12:=ae (HT4.o.kept pC);have De:=ae (ai HBK.o pC);have jdt:=ae o12;obtain⟨xa2,xc2,rfl,_,_⟩:=be o12;obtain⟨c0',c1'⟩:=HQ.o w12 De.o;have f2':=(pC.cell (p:=⟨fb,foff+k*4+2,none⟩) hfb).trans f2;have HW:=ae (CE (jdt.o.sc) (fun c hc=>(CX.o c hc).wide) (by omega) q (by omega));rw[kx nA.o]at HW;clear o12 pC HV HT4 c0 c1 f2 hgc;go_wp2_with fail;refine HW.o.mono ?_;rintro e w13 ⟨⟨v13,rfl,o13⟩,Lw⟩;have Ww:=ae (HT12.o.kept Lw);have Wl:=ae (ai De.o Lw);have HC13:=ae (jdt.o.kept Lw);have WU:=Vj q cs;have hcz:=(iB nA.o).1;have MN:=o13.sv;simp only at MN;obtain⟨CB,hCB⟩:∃ CB,ey q cs=CB:=⟨_,rfl⟩;have Rk:=ae hCB;obtain⟨LB,hLB⟩:∃ LB,[67,70,49]++iD fs gn rs j++eU fs p k=LB:=⟨_,rfl⟩;obtain⟨LF,hLF⟩:∃ LF,F0++ftJ fs gn rs j++ftK fs p k=LF:=⟨_,rfl⟩;have hlb:LB.length<=50000010:=by rw[← hLB];simp only[jem,jer,jeL];have:=CU.o;omega
       have hlf:LF.length<=1000000:=by rw[← hLF];simp only[jem];have:=CU.o;have:=HF0L.o;omega
       rw[hCB]at WU hcz MN o13;rw[hLB,hLF]at Ww;have HLB:=ae hLB;have HLF:=ae hLF;obtain⟨xb,xcb,rfl,_,_⟩:=be o13;have HS13:=ae MN;clear o13 Lw HW HT12 jdt c0' c1' f2' hCB hLB hLF MN;go_wp2_with (first | (at_builtin;refine jS rfl _ _ rfl A.heap.size _ _ LB CB rfl ?qa3 rfl ?qb3 ?qp3 ?qc3 ?qd3 ?_))
       case qa3=>exact Ww.o.1.1
       case qb3=>exact HS13.o
       case qp3=>exact WU
       case qc3=>omega
       case qd3=>exact Wl.o.size
       intro v14 w14 o14 g14 e14;have h14:=Ww.o.addB o14 g14 e14 Wl.o.size;have HC14:=ae (na (by decide) HC13.o g14 (fun k hk=>Ww.o.1.1.block k hk));have HT14:=ae h14.1;have jc5:=ae (Wl.o.trans h14.2);have hwC:IntKind.u64.wrap (CB.length:Int)=(CB.length:Int):=by rw[jeP];omega
       have Ln:=ae (bK CB.length (by omega));have ZZ:=bO (n:=CB.length) (by omega);clear o14 g14 e14 h14 HC13 Ww HS13;go_wp2_with fail;refine(Ln.o _).mono ?_;rintro e w15 ⟨⟨v15,rfl,o15⟩,ZJ⟩;have ZK:=ae (HT14.o.kept ZJ);have jdu:=ae (ai jc5.o ZJ);have HC15:jgf (ex w15 _ _ cs):=ae (bJ HC14.o ZJ);have HS15:=ae o15.sv;clear o15 ZJ HT14 HC14;go_wp2_with (first | (at_builtin;refine aV rfl _ _ rfl A.heap.size _ _ LF (uv CB.length) rfl ?qa4 rfl ?qb4 ?qc4 ?qd4 ?_))
       case qa4=>exact ZK.o.1.2.1
       case qb4=>exact HS15.o
       case qc4=>omega
       case qd4=>exact jdu.o.size
       intro v16 w16 o16 b16 g16 e16;have h16:=ZK.o.addF o16 g16 e16 jdu.o.size;have HC16:jgf (ex w16 _ _ cs):=ae (na (by decide) HC15.o g16 (fun k hk=>fT.block (.inl ZK.o.1.2.1) k hk));have HT16:=ae h16.1;have HB16:=ae (jdu.o.trans h16.2);have Wx:=ae (CF HC16.o.sc CX.o (by omega));have hse:=KJ CX.o HKD.o;rw[hse]at Wx;obtain⟨sf1,sf2⟩:=kJ CX.o;obtain⟨sn,sn1,sn2⟩:=lw cs;have cP:=ae (yb sf1 sf2 ⟨sn,sn1,by omega⟩ (Vi cs));have eN:=(pi sf1 sf2 ⟨sn,sn1,by omega⟩).1;obtain⟨SM,hSM⟩:∃ SM,cA cs=SM:=⟨_,rfl⟩;rw[hSM]at Wx cP eN;have WH:=ae hSM;unfold vC at Wx cP;clear o16 b16 g16 e16 h16 ZK HC15 HS15 hse sf1 sf2 sn1 hSM;go_wp2_with fail;refine Wx.o.mono ?_;rintro e w17 ⟨rfl,jdv⟩;have HT17:=ae (HT16.o.kept jdv);have HB17:=ae (ai HB16.o jdv);clear jdv HT16 Wx HC16;go_wp2_with fail;refine(cP.o _).mono ?_;rintro e w18 ⟨⟨v18,rfl,o18⟩,jdw⟩;have jdx:=ae (HT17.o.kept jdw);have jdy:=ae (ai HB17.o jdw);have HS18:=ae o18.sv;clear o18 jdw HT17 cP;go_wp2_with (first | (at_builtin;refine aV rfl _ _ rfl A.heap.size _ _ (LF++uv CB.length) (eD SM) rfl ?qa5 rfl ?qb5 ?qc5 ?qd5 ?_))
       case qa5=>exact jdx.o.1.2.1
       case qb5=>exact HS18.o
       case qc5=>rw[jem];omega
       case qd5=>exact jdy.o.size
       intro v19 w19 o19 b19 g19 e19;have h19:=jdx.o.addF o19 g19 e19 jdy.o.size;have HT19:=ae h19.1;have HB19:=ae (jdy.o.trans h19.2);have HEB:jgf ([67,70,49]++iD fs gn rs j++eU fs (prt gn rs j) (k+1)=LB++CB):=ae (by rw[HP.o,sO.o,Rk.o,← HLB.o,← jez]);have HEF:jgf (F0++ftJ fs gn rs j++ftK fs (prt gn rs j) (k+1)=LF++uv CB.length++eD SM):=ae (by rw[HP.o,tT.o,Rk.o,WH.o,← HLF.o];simp only[jez]);clear o19 b19 g19 e19 h19 jdx HS18;go_wp2_with fail;go_roundw
       case rel=>exact⟨k+1,by omega,by go_num,by rw[HEB.o,HEF.o];first | exact HT19.o | simpa only[jez]using HT19.o,HB19.o⟩
       case measure=>simp[intOf];omega
      ·obtain rfl:k=fs.length:=by omega
       have hge2:¬ ((fs.length:Nat):Int)<(fs.length:Int):=(by omega);have HEB:jgf ([67,70,49]++iD fs gn rs (j+1)=[67,70,49]++iD fs gn rs j++eU fs (prt gn rs j) fs.length):=ae (by rw[tA,jez]);have HEF:jgf (F0++ftJ fs gn rs (j+1)=F0++ftJ fs gn rs j++ftK fs (prt gn rs j) fs.length):=ae (by rw[xH,jez]);clear Wo az;go_wp2_with fail;go_roundw
       case rel=>exact⟨j+1,by omega,by go_num,by rw[HEB.o,HEF.o];exact HT4.o,HBK.o⟩
       case measure=>simp[intOf];omega
    ·have hjn:j=N:=by have:=HGL.o;omega
     have hgej:¬ (j:Int)<(gs.length:Int):=(by omega);obtain⟨LB,hLB⟩:∃ LB,[67,70,49]++iD fs gn rs j=LB:=⟨_,rfl⟩;obtain⟨LF,hLF⟩:∃ LF,F0++ftJ fs gn rs j=LF:=⟨_,rfl⟩;have MO:gm id fs rs gn=LF:=by rw[← hLF,hjn,← Rl.o,← HNN.o];rfl
     have Wy:dy id fs rs gn=LB++LF++le4 LF.length:=by
      have hb:iD fs gn rs (nps gn rs.length)=iD fs gn rs j:=by rw[HNN.o,hjn]
      show [67,70,49]++(iD fs gn rs (nps gn rs.length)++gm id fs rs gn++le4 (gm id fs rs gn).length)=_
      rw[MO,hb,← hLB];simp only[jez]
     have uV:=VO.o;rw[Wy]at uV
     have jay:LB.length+LF.length+4<=60000000:=by
      have h:=uV.1;simp only[jem,le4,jer,jeL]at h;omega
     have Gz:0<LF.length:=by
      have h1:=mG id;rw[← MO];unfold gm dH;simp only[jem];omega
     have hlf:=HFTL.o.1;rw[MO]at hlf;rw[hLB,hLF]at MK;have HTX:=ae Wy;have yo:=ae uV.2;clear hLB hLF MO Wy uV hjn;have hsvF:=MK.o.1.2.1.sv;obtain⟨af,cf,rfl,_,_⟩:=be MK.o.1.2.1;have MG:=ae hsvF;clear hsvF;go_wp2_with (first | (at_builtin;refine jS rfl _ _ rfl A.heap.size _ _ LB LF rfl ?qa6 rfl ?qb6 ?qp6 ?qc6 ?qd6 ?_))
     case qa6=>exact MK.o.1.1
     case qb6=>exact MG.o
     try (case qp6=>exact Gz)
     case qc6=>omega
     case qd6=>exact HBJ.o.size
     intro v20 w20 o20 g20 e20;have h20:=MK.o.addB o20 g20 e20 HBJ.o.size;have HO20:jgf (aD w20 A.heap.size v20 (LB++LF++(le4 LF.length).take 0)):=ae (by simpa using o20);have HB20:=ae (HBJ.o.trans h20.2);obtain⟨L,hL⟩:∃ L,LF.length=L:=⟨_,rfl⟩;have HLL:=ae hL;rw[hL]at HO20;have hL9:L<1000000:=(by omega)
     have QF:jgf (∀ m,m<4->(le4 L).take (m+1)=(le4 L).take m++[L / 256 ^ m % 256]/\L / 256 ^ (m+1)=L / 256 ^ m / 256):=ae (fun m hm=>by
      refine⟨?_,by rw[Nat.pow_succ,jga]⟩;obtain rfl | rfl | rfl | rfl:m=0∨m=1∨m=2∨m=3:=by omega
      all_goals simp[le4])
     clear o20 g20 e20 h20 MK MG hL;go_wp2_with fail;go_loopw [10,18,19] (fun vb n i wx=>∃ m:Nat,m<=4/\i=.int .i64 (m:Int)/\n=.int .i64 ((L / 256 ^ m:Nat):Int)/\aD wx A.heap.size vb (LB++LF++(le4 L).take m)/\Below A.heap.size A wx) (fun _ _ i _=>4-(intOf i).toNat)
     case atStart=>exact⟨0,by omega,rfl,by simp[HLL.o],HO20.o,HB20.o⟩
     case round =>
      obtain⟨m,hm,rfl,rfl,how,az⟩:=hrel;have wo:=ae how;have HBM:=ae az;have bH:=az.size;clear how az;by_cases hm4:m<4
      ·have hm4':(m:Int)<4:=by omega
       obtain⟨hd1,hd2⟩:=QF.o m hm4;have HD1:=ae hd1;have zt:=ae hd2;have pt:=Nat.div_le_self L (256 ^ m);generalize L / 256 ^ m=u at *;have hw8:IntKind.u8.wrap (u:Int)=((u % 256:Nat):Int):=by rw[IntKind.wrap_u8];omega
       have hdv:(u:Int) / 256=((u / 256:Nat):Int):=(by omega);have YL:((le4 L).take m).length<=4:=by rw[jeq];simp[le4];omega
       have HLO:=ae (cH wr (u % 256));clear hd1 hd2;go_wp2_with (first | (at_builtin;refine aV rfl _ _ rfl A.heap.size _ _ (LB++LF++(le4 L).take m) [u % 256] rfl ?qa7 rfl ?qb7 ?qc7 ?qd7 ?_))
       case qa7=>exact wo.o.kept (ak _ _)
       case qb7=>exact HLO.o.sv
       case qc7=>simp only[jem,jeS];omega
       case qd7=>rw[jel];omega
       intro v21 w21 o21 b21 g21 e21;have HO21:=ae o21;have HB21:=ae ((HBM.o.alloc bH _).trans b21);clear o21 b21 g21 e21;go_wp2_with fail;refine Ql _ rfl u (by omega) rfl ?_;apply_assumption
       try simp only[Act.put,jey,jew,jex]
       go_wp2_with fail;go_roundw
       case rel=>exact⟨m+1,by omega,by go_num,by rw[zt.o],by rw[HD1.o,← jez];first | exact HO21.o | simpa only[jez]using HO21.o,HB21.o⟩
       case measure=>simp[intOf];omega
      ·obtain rfl:m=4:=by omega
       have hge4:¬ ((4:Nat):Int)<4:=(by omega);have ZD:LB++LF++(le4 L).take 4=dy id fs rs gn:=by rw[HTX.o,HLL.o];rfl
       rw[ZD]at wo;have Lr:(dy id fs rs gn).length<=100000000:=by have:=VO.o.1;omega
       have HSL:=ae (ow wo.o.sv.toK VO.o.2 Lr);obtain⟨SE,hSE⟩:∃ SE,bE (dy id fs rs gn)=SE:=⟨_,rfl⟩;rw[hSE]at HSL HWM;clear ZD Lr hSE;go_wp2_with fail;refine HSL.o.mono ?_;rintro e w22 ⟨⟨v22,rfl,o22⟩,hb22⟩;have HO22:=ae o22;have HB22:=ae (ai HBM.o hb22);have yn:w.heap.size<=wr.heap.size:=by have:=WQ.o;omega
       obtain⟨a22,c22,rfl,_,_⟩:=be o22;clear o22 hb22 HSL wo;by_cases QI:(SE.length:Int) > 65536
       ·have yE:jgf (WM=([],4)):=ae (by rw[HWM.o,jei (by omega)])
        go_wp2_with fail;go_ret2
        rw[yE.o];exact⟨⟨_,rfl,aD.nil _ _⟩,ai ce.o HB22.o⟩
       ·have yE:jgf (WM=(SE,0)):=ae (by rw[HWM.o,jeh (by omega)])
        go_wp2_with fail;go_ret2
        rw[yE.o];exact⟨⟨_,rfl,bg HO22.o yn⟩,ai ce.o HB22.o⟩
theorem ox{w:World}{v:Value}{l:List Nat}(hs:SvK w v l)(h8:Bs l)(hl:l.length<=100000000) :
  Calls Tryz.prog 33 #[v] w fun e w'=>(∃ u,e=.returned (.tuple #[u,.bool (eC l).isSome])/\SvK w' u ((eC l).getD []))/\Below w.heap.size w w':=by
 have HS:=ae hs;have H8:=ae h8;obtain⟨a,cap,rfl,h1,h2⟩:=hs.form;have oD:l.length<=9223372036854775807:=by omega
 by_cases h4:l.length<4
 ·rw[uC h4]
  have aB:(l.length:Int)<4:=by omega
  have hl4:l.length<=4:=by omega
  clear hs h8 h1 h2 h4 HS H8 oD;generalize l.length=L at *;go_enter Tryz.func33,Tryz.ntmps33
  go_wp2_with fail;go_quiet (fail)
  go_wp2_with fail;go_ret2
  exact⟨⟨_,rfl,SvK.nil _⟩,ar (jej _ _) _⟩
 ·obtain⟨n,hn⟩:∃ n,l.length=n+4:=⟨l.length-4,by omega⟩
  have GF:n<=l.length:=by omega
  obtain⟨ad,rfl⟩:∃ ad,a=some ad:=by
   obtain⟨a',c',e1,_,_,_,h5⟩:=hs;simp only[Value.slice.injEq]at e1;obtain⟨rfl,_,_⟩:=e1;obtain⟨b,off,h6,_⟩:=h5 (by omega);exact⟨_,h6⟩
  have hA:=hs.take GF;have HA:=ae hA
  have iT:jgf (eC l=if bE (l.take n)=l then some (l.take n) else none):=by
   show _=_
   unfold eC;rw[hn,jgc];simp
  have bR:(l.take n).length<=100000000:=by rw[jeq];omega
  have HSE:=ae (ow (hA.kept (jej w.heap.size w).drew) (h8.take n) bR);have sO:=ae (h8.take n).seal;have CV:=ae (vY sO.o h8);have HCV:=ae (fun(W:World) (h:Below w.heap.size w W)=>(HS.o.kept h).conv H8.o);have HCS:=ae (fun(W:World) (u:Value) (h:SvK W u (bE (l.take n)))=>h.conv sO.o);unfold txt at HCV HCS;have jaq:n<=cap:=by omega
  obtain⟨L,hL⟩:∃ L,l.length=L:=⟨_,rfl⟩;have aB:¬ (L:Int)<4:=by omega
  have jT:(4:Int)<=(L:Int):=by omega
  have hdec:decide ((L:Int)<4)=false:=jeu aB;have KW:IntKind.i64.wrap ((L:Int)-4)=(L:Int)-4:=by rw[jeV];omega
  have aH:(0:Int)<=(L:Int)-4:=by omega
  have aE:(L:Int)-4<=(cap:Int):=by omega
  have aS:((L:Int)-4).toNat=n:=by omega
  have Zb:(0:Int)<=(n:Int):=by omega
  have hcap0:¬ cap=0:=by omega
  have hnc:(n:Int)<=(cap:Int):=by omega
  have hL9:L<=100000004:=by omega
  rw[hL]at HS HCV ⊢;have KS:=HCV.o w.drew (jej _ _).drew;generalize eC l=R at *;generalize bE (l.take n)=M at *;generalize l.take n=m at *;clear hs h8 h1 h2 hA oD bR hL hn GF h4 hl;go_enter Tryz.func33,Tryz.ntmps33
  go_wp2_with fail;refine wp_region_noPanic ?_;go_region_held (fun w'=>(convert 30 9 (.slice (some ad) L cap)).run Tryz.prog w'=.ok (.string ⟨(l.map Nat.toUInt8).toArray⟩) w') (first | assumption | go_keep) (first | (go_at_call 32;refine HSE.o.mono ?_;rintro e w2 ⟨⟨u2,rfl,o2⟩,aE⟩;have vL:=HCS.o _ _ o2.svK;have kQ:=HCV.o _ ((jej _ _).drew.trans aE);clear o2))
  refine NoPanic.normal ?_;have aN:=ae ((jej w.heap.size w).drew.trans aE);have CI:=ae (HA.o.kept aN.o);rw[CV.o];clear vL kQ KS HCV HCS CV HSE aE;by_cases oH:M=l
  ·have HR:jgf (R=some m):=by show _=_;rw[iT.o,jei oH]
   rw[jeB oH];clear oH iT;go_wp2_with fail;go_ret2
   rw[HR.o];exact⟨⟨_,rfl,CI.o⟩,aN.o⟩
  ·have HR:jgf (R=none):=by show _=_;rw[iT.o,jeh oH]
   rw[jeu oH];clear oH iT;go_wp2_with fail;go_ret2
   rw[HR.o];exact⟨⟨_,rfl,SvK.nil _⟩,aN.o⟩
theorem Vk{b:List Nat}{id g:Nat}{fs:List Fd}{gs:List Gr}(h8:Bs b)(h:jB b=.ok (id,fs,g,gs)) :
  chk id fs=0/\id<4294967296/\(∀ f∈fs,Okf f)/\1<=g/\g<=64/\(bT gs).length<=256/\FI fs (bT gs)/\bW id fs (bT gs) (g:Int)=(b,0):=by
 unfold jB at h;split at h
 ·cases h
 ·next t ht =>
  split at h
  ·split at h
   ·cases h
   ·next x hx =>
    split at h
    ·next hw =>
     cases h
     obtain⟨q1,q2,q3,q4,q5,q6,q7,_⟩:=uK (b:=t.drop 3) (fun y hy=>(mX ht h8).1 y (jfS hy)) hx;exact⟨q1,q2,q3,q4,q5,q6,q7,hw⟩
    ·cases h
  ·cases h
theorem oC(b:List Nat):jB b=match eC b with
  | none=>.error 101
  | some t=>if t.take 3=[67,70,49] then (match iW (t.drop 3)with
    | none=>.error 102
    | some x=>if bW x.1 x.2.1 (bT x.2.2.2) x.2.2.1=(b,0) then .ok x else .error 102) else .error 100:=rfl
theorem KL{b:List Nat}(h:eC b=none):jB b=.error 101:=by rw[oC,h]
theorem Qm{b t:List Nat}(h:eC b=some t)(h3:t.take 3≠[67,70,49]):jB b=.error 100:=by
 rw[oC,h];simp only;rw[jeh h3]
theorem KM{b t:List Nat}{c:Nat}(h:eC b=some t)(h3:t.take 3=[67,70,49])(he:jB b=.error c):c=102:=by
 rw[oC,h]at he;simp only at he;rw[jei h3]at he;split at he
 ·cases he;rfl
 ·split at he
  ·cases he
  ·cases he;rfl
theorem Qn{b:List Nat}{x:Nat×List Fd×Nat×List Gr}(h:jB b=.ok x):∃ t,eC b=some t/\t.take 3=[67,70,49]:=by
 unfold jB at h;split at h
 ·cases h
 ·next t ht =>
  split at h
  ·next h3=>exact⟨t,ht,h3⟩
  ·cases h
theorem Qo{id:Nat}{fs:List Fd}{rows:List Row}{g:Int}(ho:∀ f∈fs,Okf f)(lM:id<4294967296)(hf:∀ r∈rows,∀ c∈r,aT c):Bs (bW id fs rows g).1:=by
 unfold bW;split
 ·exact fun x hx=>by simp at hx
 ·next h0 =>
  split
  ·exact fun x hx=>by simp at hx
  ·obtain⟨hc,⟨eZ,gY⟩,hl,kT⟩:=lx (Decidable.not_not.1 h0)
   exact(kO ho lM hc hl (by omega) (by omega) (fun r hh=>⟨mv kT r hh,hf r hh⟩)).2.seal
namespace OpensLaw
theorem walk{w:World}(ht:Tab w){v:Value}{b0:List Nat}(hs:Sv w v (aF .u8 b0))(h8:Bs b0)(s:Bool) :
  Calls Tryz.prog 6 #[v,.bool s] w fun e w'=>e=.returned (.bool true)/\Below w.heap.size w w':=by
 obtain⟨a0,cap0,rfl,hcp0,hcm0⟩:=hs.form1;rw[ap]at *;have hcm0':cap0<=9223372036854775807:=by unfold maxLen at hcm0;omega
 have HT:=ae ht;have HS:=ae hs;have H8:=ae h8;have HAL:=ae (uM ht);clear ht hs h8 hcm0;go_enter Tryz.func6,Tryz.ntmps6
 go_wp2_with fail;refine HAL.o.mono ?_;rintro e w1 ⟨rfl,aH⟩;have aP:=ae aH;have VU:=ae (HT.o.kept aH);have ja:=ae (HS.o.kept aH);clear aH HAL HT HS;by_cases QI:(b0.length:Int) > 20000
 ·go_wp2_with fail
  go_ret
  exact⟨rfl,aP.o⟩
 have kW:b0.length<=20000:=by omega
 go_upto_if 18 with fail
 go_cut [0] from 91 (fun v wx=>∃ a cap b,v=.slice a b.length cap/\Sv wx (.slice a b.length cap) (aF .u8 b)/\Bs b/\b.length<=20004/\Below w.heap.size w wx/\Tab wx)
 case first =>
  cases s with
  | false =>
   go_wp2_with fail;go_meet
   exact⟨a0,cap0,b0,rfl,ja.o,H8.o,by omega,aP.o,VU.o⟩
  | true =>
   have HSL:=ae (ow ja.o.toK H8.o (by omega));go_wp2_with fail;refine HSL.o.mono ?_;rintro e w2 ⟨⟨v2,rfl,o2⟩,aE⟩;have gX:=o2.sv;obtain⟨a2,c2,rfl,_,_⟩:=be o2;have yk:=ae gX;have aN:=ae (ai aP.o aE);have Bc:=ae (VU.o.kept aE);clear o2 gX aE HSL;go_wp2_with fail;go_meet
   exact⟨a2,c2,bE b0,rfl,yk.o,H8.o.seal,by rw[jh];omega,aN.o,Bc.o⟩
 case rest =>
 obtain⟨a,cap,b,rfl,gX,kR,fK,az,jdz⟩:=hcut;obtain⟨w2,pR⟩:∃ w2,w2=wc:=⟨_,rfl⟩;subst pR;have yk:=ae gX;have aN:=ae az;have Bc:=ae jdz;have iT:=ae (qy jdz gX kR (by omega));have qD:=ae kR;clear gX kR az jdz ja VU QI;go_wp2_with fail;refine iT.o.mono ?_;rintro e w3 ⟨⟨c,WL,rfl⟩ | ⟨id,fs,g,gs,fp,fv,iY,rfl,vS,Rp⟩,aS⟩
 ·have bN:=ae (ai aN.o aS)
  have Bi:=ae (ox (yk.o.kept aS).toK qD.o (by omega));have YZ:=ae WL;clear aS WL iT;go_wp2_with fail;refine Bi.o.mono ?_;rintro e w4 ⟨⟨u,rfl,su⟩,bG⟩;have cp:=ae (ai bN.o bG);cases Dp:eC b with
  | none =>
   have hce:c=101:=by have h:=YZ.o;rw[KL Dp]at h;cases h;rfl
   subst hce;clear su bG Bi;simp only[Option.isSome];go_wp2_with fail;go_ret
   exact⟨rfl,cp.o⟩
  | some t =>
   rw[Dp]at su;simp only[Option.getD,Option.isSome]at *;obtain⟨t8,tl⟩:=mX Dp qD.o;obtain⟨au,cu,rfl,VN,VR⟩:=su.toS.form1;rw[ap]at *;have hcu2':cu<=9223372036854775807:=by unfold maxLen at VR;omega
   by_cases h3:t.take 3=[67,70,49]
   ·have hce:=KM Dp h3 YZ.o
    subst hce;have hl3:3<=t.length:=by have:=jep List.length h3;rw[jeq]at this;simp at this;omega
    have gV:=Sv.take su.toS (k:=3) (by rw[ap];exact hl3);rw[fU,h3]at gV;have vL:=gV.conv (by intro x hx;simp at hx;omega);unfold txt at vL;obtain⟨Y,hY⟩:∃ Y,([67,70,49]:List Nat).map Nat.toUInt8=Y:=⟨_,rfl⟩;have hbe:(Y==[67,70,49])=true:=by rw[← hY];rfl
    rw[hY]at vL;have nc:¬ (t.length:Int)<3:=(by omega);have oE:¬ cu=0:=(by omega);have Lk:(3:Int)<=(cu:Int):=(by omega);clear su bG Bi gV h3 t8 tl Dp hY;go_wp2_with fail;go_ret
    exact⟨rfl,cp.o⟩
   ·have hce:c=100:=by have h:=YZ.o;rw[Qm Dp h3]at h;cases h;rfl
    subst hce;by_cases nc:(t.length:Int)<3
    ·clear su bG Bi t8 tl Dp h3
     go_wp2_with fail;go_ret
     exact⟨rfl,cp.o⟩
    ·have gV:=Sv.take su.toS (k:=3) (by rw[ap];omega)
     rw[fU]at gV;have ht8:Bs (t.take 3):=fun x hx=>t8 x (je2 hx)
     have vL:=gV.conv ht8;have oE:¬ cu=0:=(by omega);have Lk:(3:Int)<=(cu:Int):=(by omega);unfold txt at vL;have hbe:=vY ht8 (b:=[67,70,49]) (by intro x hx;simp at hx;omega);rw[jeu h3]at hbe;obtain⟨Y,hY⟩:∃ Y,(t.take 3).map Nat.toUInt8=Y:=⟨_,rfl⟩;rw[hY]at vL hbe;have hbe2:(Y==[67,70,49])=false:=hbe;clear su bG Bi gV h3 t8 tl Dp hY ht8 hbe;go_wp2_with fail;go_ret
     exact⟨rfl,cp.o⟩
 ·obtain⟨dN,lM,ho,eZ,gY,yh,jaY,KW⟩:=Vk qD.o iY
  obtain⟨t,Dp,h3⟩:=Qn iY;have jH:=(mU dN).2.1;have bN:=ae (ai aN.o aS);have jdA:=ae (yk.o.kept aS);have Bi:=ae (ox jdA.o.toK qD.o (by omega));have yr:=ae vS;have yi:=ae Rp;have HO:=ae ho;have nA:=ae jaY;have Lq:=ae KW;clear aS vS Rp ho jaY KW iY iT yk dN;go_wp2_with fail;refine Bi.o.mono ?_;rintro e w4 ⟨⟨u,rfl,su⟩,bG⟩;rw[Dp]at su ⊢;simp only[Option.getD,Option.isSome]at *;obtain⟨t8,tl⟩:=mX Dp qD.o;obtain⟨au,cu,rfl,VN,VR⟩:=su.toS.form1;rw[ap]at *;have hcu2':cu<=9223372036854775807:=by unfold maxLen at VR;omega
  have hl3:3<=t.length:=by have:=jep List.length h3;rw[jeq]at this;simp at this;omega
  have gV:=Sv.take su.toS (k:=3) (by rw[ap];exact hl3);rw[fU,h3]at gV;have vL:=gV.conv (by intro x hx;simp at hx;omega);unfold txt at vL;obtain⟨Y,hY⟩:∃ Y,([67,70,49]:List Nat).map Nat.toUInt8=Y:=⟨_,rfl⟩;have hbe:(Y==[67,70,49])=true:=by rw[← hY];rfl
  rw[hY]at vL;have nc:¬ (t.length:Int)<3:=by omega
  have oE:¬ cu=0:=by omega
  have Lk:(3:Int)<=(cu:Int):=by omega
  have cp:=ae (ai bN.o bG);have HSV4:=ae (jdA.o.kept bG);have yy:=ae (yr.o.kept bG);have HOF4:=ae (yi.o.kept bG);have QH:=ae (AE yy.o (fun r hr=>by have:=(nA.o r hr).1;omega) (by omega));clear su bG Bi gV h3 t8 tl Dp hY yr yi jdA;go_wp2_with fail;refine QH.o.mono ?_;rintro e w5 ⟨⟨v5,l5,rfl,o5,hsn5⟩,bD⟩;have ZL:=o5.rv;rw[hsn5]at ZL;have Re:=ae (UT ZL (fun r hr=>(nA.o r hr).2) (by omega) (fun r hr=>by have:=(nA.o r hr).1;omega));have aQ:=ae (ai cp.o bD);have HSV5:=ae (HSV4.o.kept bD);have yz:=ae (yy.o.kept bD);have HOF5:=ae (HOF4.o.kept bD);obtain⟨a5,c5,rfl,_⟩:=ZL.form;clear bD o5 hsn5 ZL QH HSV4 yy HOF4;go_wp2_with fail;refine Re.o.mono ?_;rintro e w6 ⟨⟨v6,l6,rfl,o6,Wf⟩,dW⟩;have ZM:=o6.sr;rw[Wf]at ZM;have gW:=ae (ai aQ.o dW);have Zw:=ae (HSV5.o.kept dW);have GO:=ae (yz.o.kept dW);have HOF6:=ae (HOF5.o.kept dW);obtain⟨a6,c6,rfl,_,_⟩:=ZM.form;have H20:jgf (∀ U,Below w6.heap.size w6 U->Calls Tryz.prog 20 #[.pointer (some ⟨fp,0,none⟩)] U fun e w'=>e=.returned (.int .i64 ((bT gs).length:Int))/\Below U.heap.size U w'):=ae (fun U hU=>xY (GO.o.kept hU) (by omega))
  have H19:jgf (∀ U,Below w6.heap.size w6 U->Calls Tryz.prog 19 #[.pointer (some ⟨fp,0,none⟩)] U fun e w'=>∃ a c,e=.returned (.agg #[.int .u32 (id:Int),.slice a fs.length c])/\Sf w' (.slice a fs.length c) fs/\Below U.heap.size U w'):=ae (fun U hU=>by
   refine(Cy (GO.o.kept hU) ((HOF6.o.sf).kept hU) (by omega)).mono ?_;rintro e w' ⟨⟨v',rfl,how'⟩,hb'⟩;have hsf':=how'.sf;obtain⟨a',c',rfl,_,_⟩:=hsf'.form;exact⟨a',c',rfl,hsf',hb'⟩)
  have H14:jgf (∀ U a c (k:Nat),Below w6.heap.size w6 U->Sf U (.slice a fs.length c) fs->Calls Tryz.prog 14 #[.agg #[.int .u32 (id:Int),.slice a fs.length c],.slice a6 (bT gs).length c6,.int .i64 (k:Int)] U fun e w'=>(∃ v',e=.returned (.tuple #[v',.int .i64 ((bW id fs (bT gs) (k:Int)).2:Int)])/\aD w' U.heap.size v' (bW id fs (bT gs) (k:Int)).1)/\Below U.heap.size U w'):=ae (fun U a c k hU yD =>
   ye yD (ZM.kept hU) HO.o lM (fun r hr=>(nA.o r hr).2) (by omega) k)
  have sO:jgf (∀ k:Nat,Bs (bW id fs (bT gs) (k:Int)).1):=ae (fun k=>Qo HO.o lM (fun r hr=>(nA.o r hr).2));clear dW o6 Wf ZM Re HSV5 yz HOF5 GO HOF6 nA;generalize bT gs=rs at *;go_wp2_with fail;go_loopw [10] (fun i wr=>∃(k:Nat),i=.int .i64 (k:Int)/\1<=k/\k<=g/\Below w6.heap.size w6 wr) (fun i _=>65-(intOf i).toNat)
  case atStart=>exact⟨1,rfl,by omega,by omega,jej _ _⟩
  case round =>
   obtain⟨k,rfl,qA,hkg,az⟩:=hrel;have pt:(k:Int)<=64:=(by omega);have HB:=ae az;have H19':=ae (H19.o wr HB.o);clear az;go_wp2_with fail;refine H19'.o.mono ?_;rintro e x1 ⟨a7,c7,rfl,hsf7,hbx1⟩;have HBX1:=ae (ai HB.o hbx1);have H14':=ae (H14.o x1 a7 c7 k HBX1.o hsf7);have zj:=sO.o k;have hwg:k=g->bW id fs rs (k:Int)=(b,0):=fun h=>by rw[h];exact Lq.o
   clear hbx1 hsf7 H19';generalize bW id fs rs (k:Int)=WM at *;obtain⟨wb,we⟩:=WM;simp only at zj H14';go_wp2_with fail;refine H14'.o.mono ?_;rintro e x2 ⟨⟨v8,rfl,o8⟩,hbx2⟩;have Wz:=ae (ai HBX1.o hbx2);have hcv1:=o8.sv.conv zj;have Zp:=(Zw.o.kept Wz.o).conv qD.o;unfold txt at hcv1 Zp;have vP:=vY zj qD.o;obtain⟨a8,c8,rfl,_,_⟩:=be o8;clear hbx2 o8 H14';by_cases hwe:(we:Int)=0
   ·by_cases heq:wb=b
    ·have H20':=ae (H20.o x2 Wz.o)
     rw[jeB heq]at vP;subst heq;clear zj hwg;generalize List.map Nat.toUInt8 wb=Z at *;go_wp2_with fail;refine H20'.o.mono ?_;rintro e x3 ⟨rfl,Gv⟩;have Gw:=ae (ai gW.o (ai Wz.o Gv));clear Gv H20';go_wp2_with fail;go_ret
     exact⟨rfl,Gw.o⟩
    ·rw[jeu heq]at vP
     have GF:k≠g:=fun h=>by have:=hwg h;simp only[Prod.mk.injEq]at this;exact heq this.1
     generalize wb.map Nat.toUInt8=X at *;generalize b.map Nat.toUInt8=Z at *;go_wp2_with fail;go_roundw
     case rel=>exact⟨k+1,by go_num,by omega,by omega,Wz.o⟩
     case measure=>simp[intOf];omega
   ·have GF:k≠g:=fun h=>by have:=hwg h;simp only[Prod.mk.injEq]at this;exact hwe (by rw[this.2];rfl)
    clear hcv1 Zp vP;go_wp2_with fail;go_roundw
    case rel=>exact⟨k+1,by go_num,by omega,by omega,Wz.o⟩
    case measure=>simp[intOf];omega
end OpensLaw
def Vl(fs:List Fd)(most:Nat)(l:List (Value×Row)):Prop:=UU l/\l.length<=most/\∀ x∈l,iO fs x.2=0
theorem Vl.fit{fs:List Fd}{most:Nat}{l:List (Value×Row)}(h:Vl fs most l):jR fs (l.map Prod.snd):=fun r hr=>by
 obtain⟨x,hx,rfl⟩:=jeF.1 hr;exact⟨h.2.2 x hx,(h.1.2 x hx).2⟩
def Ocb(W:World)(B B2:Nat)(v:Value)(l:List (Value×Row)):Prop:=W.ownsRow B 58 1 v l.length (l.map Prod.fst)/\∀ x∈l,ex W B2 x.1 x.2
theorem Ocb.nil(W:World)(B B2:Nat):Ocb W B B2 (.slice none 0 0) []:=⟨jfb _ _ _ _,fun x hx=>by simp at hx⟩
theorem Ocb.kept{W W':World}{B B2:Nat}{v:Value}{l:List (Value×Row)}(h:Ocb W B B2 v l)(hb:Below W.heap.size W W'):Ocb W' B B2 v l:=⟨bJ h.1 hb,fun x hx=>(h.2 x hx).kept hb⟩
theorem Ocb.oc{W:World}{B B2 B':Nat}{v:Value}{l:List (Value×Row)}(h:Ocb W B B2 v l)(h1:B'<=B)(h2:B'<=B2):Oc W B' v l:=⟨tI h.1 h1,fun x hx=>ex.low' (h.2 x hx) h2⟩
theorem zd{w:World}(ty:TypeId)(base base2:Nat)(v vx:Value)(l0 l:List (Value×Row))(aA:Ocb w base base2 v l0)(eN:Sv w vx (l.map Prod.fst))(hr:∀ x∈l,ex w base2 x.1 x.2)(hbytes:l0.length+l.length<=1000000)(aI:base<=w.heap.size) :
  ∃ v' w',(Builtin.append_ #[26,26] ty #[v,vx]).run Tryz.prog w=.ok v' w'/\Ocb w' base base2 v' (l0++l)/\Below base w w':=by
 obtain⟨i0,hi,ch,hz1',bv⟩:=jeD UB;obtain⟨ad,cap,rfl,h1,h2,h3,h4⟩:=eN;rw[jen]at *
 have one:∀ x∈l.map Prod.fst,x.oneCell'=true:=fun x hx=>by
  obtain⟨y,hy,rfl⟩:=jeF.1 hx;obtain⟨a,n,c,e⟩:=eA (hr y hy);rw[e];rfl
 cases ad with
 | none =>
  have hc:=h3 rfl;subst hc;have hl:l=[]:=jeI (by omega);subst hl;have hr:=jfI (P:=Tryz.prog) (w:=w) base 26 ty 58 i0 1 Tryz.underlying26 hi v l0.length (l0.map Prod.fst) aA.1;refine⟨v,w,hr,by rw[jeG];exact aA,jej _ _⟩
 | some ad =>
  obtain⟨v',w',zu,o1,g1,_,e1⟩:=run_append_own_at (P:=Tryz.prog) w base 26 ty 58 i0 (.slice none 0 0) 1 24 Tryz.underlying26 hi ch hz1' bv rfl (by decide) v l0.length (l0.map Prod.fst) aA.1 ad l.length cap (l.map Prod.fst) (by rw[jen];omega)
   (fun j u hu=>by
    have hj:j<l.length:=by
     have:=(List.getElem?_eq_some_iff.1 hu).1;rwa[jen]at this
    obtain⟨b,off,h5,_,h6⟩:=h4 (by omega);cases h5
    rw[lR];exact h6 j u hu) one (by unfold maxLen;omega) (by omega) aI
  have keep:∀ y:Value×Row,ex w base2 y.1 y.2->ex w' base2 y.1 y.2:=fun y hy =>
   bX hy fun k hk=>g1.block k (aM hy hk).2.1 (fun e=>eV hy aA.1 (by decide) hk e.symm)
  refine⟨v',w',zu,⟨?_,fun y hy=>?_⟩,(jej base w).grown g1 aI (fun k hk=>(aA.1.lt k hk).1)⟩
  ·rw[jem,jeE]
   exact o1
  ·rcases jeN.1 hy with hy | hy
   ·exact keep y (aA.2 y hy)
   ·exact keep y (hr y hy)
theorem CG{w:World}{o:Oper}{a:Act}{K:Act->World->Prop}{Q:Exit->Act->World->Prop}(s x:Operand)
  (ho:o.op=.call { callee:=.builtin .append,args:=#[s,x],argTypes:=#[26,26] })
  (base base2:Nat) (v vx:Value) (l0 l:List (Value×Row)) (hs:a.eval s=v) (aA:Ocb w base base2 v l0) (hx:a.eval x=vx) (eN:Sv w vx (l.map Prod.fst)) (hr:∀ x∈l,ex w base2 x.1 x.2) (hbytes:l0.length+l.length<=1000000) (aI:base<=w.heap.size)
  (h:∀ v' w',Ocb w' base base2 v' (l0++l)->Below base w w'->K (a.put o.dst v') w'):Oper.wp Tryz.prog o a w K Q:=by
 obtain⟨v',w',hr,h2,h3⟩:=zd o.type base base2 v vx l0 l aA eN hr hbytes aI;unfold Oper.wp execOp;simp only[ho,resolve,invoke,builtin,Sem.run_bind,Sem.run_pure,Result.andThen_ok,jfs,jeT,je8,hs,hx,hr];exact h v' w' h2 h3
theorem tP{w:World}{ops:Array Oper}{rest:List Oper}{o:Oper}{a:Act}{Q:Exit->Act->World->Prop}(dY:o.guard=none)(s x:Operand)
  (ho:o.op=.call { callee:=.builtin .append,args:=#[s,x],argTypes:=#[26,26] })
  (base base2:Nat) (v vx:Value) (l0 l:List (Value×Row)) (hs:a.eval s=v) (aA:Ocb w base base2 v l0) (hx:a.eval x=vx) (eN:Sv w vx (l.map Prod.fst)) (hr:∀ x∈l,ex w base2 x.1 x.2) (hbytes:l0.length+l.length<=1000000) (aI:base<=w.heap.size)
  (h:∀ v' w',Ocb w' base base2 v' (l0++l)->Below base w w'->wpList Tryz.prog ops Q rest (a.put o.dst v') w') :
  wpList Tryz.prog ops Q (o::rest) a w :=
 wpList_plain dY fun K hK=>CG s x ho base base2 v vx l0 l hs aA hx eN hr hbytes aI fun v' w' h1 h2=>hK _ _ (h v' w' h1 h2)
theorem KN{w:World}{v fv:Value}{fs:List Fd}{rs:List Row}(hs:Sr w v rs)(hf:Sf w fv fs)(ho:∀ r∈rs,∀ c∈r,Okc c)(id:Nat)(most:Nat) :
  Calls Tryz.prog 16 #[.agg #[.int .u32 (id:Int),fv],v,.int .i64 (most:Int)] w fun e w'=>(∃ v' l,e=.returned v'/\Oc w' w.heap.size v' l/\Vl fs most l)/\Below w.heap.size w w':=by
 obtain⟨fa,fc,rfl,_,_⟩:=hf.form;obtain⟨a,cap,rfl,_,_⟩:=hs.form;have dL:=ak w (.cells #[.int .u32 (id:Int),.slice fa fs.length fc] 25);obtain⟨x0,x1⟩:=bx w (.int .u32 (id:Int)) (.slice fa fs.length fc) 25;have ch:(w.alloc (.cells #[.int .u32 (id:Int),.slice fa fs.length fc] 25)).heap.size=w.heap.size+1:=jel _ _;generalize hA:w.alloc (.cells #[.int .u32 (id:Int),.slice fa fs.length fc] 25)=A at *
 have HT:jgf (∀ U,Below A.heap.size A U->U.cell? ⟨w.heap.size,0,none⟩=some (.int .u32 (id:Int))/\U.cell? ⟨w.heap.size,1,none⟩=some (.slice fa fs.length fc)):=ae (fun U hU =>
  ⟨(hU.cell (p:=⟨w.heap.size,0,none⟩) (by show w.heap.size<_;omega)).trans x0,(hU.cell (p:=⟨w.heap.size,1,none⟩) (by show w.heap.size<_;omega)).trans x1⟩)
 have GP:=ae (FX (hs.kept dL) ho);have HS:=ae (hf.kept dL);have ce:=ae dL;have WQ:=ae ch;clear hs hf ho dL x0 x1 ch;go_enter Tryz.func16,Tryz.ntmps16
 go_wp2_with fail;try rw[hA]
 clear hA;refine GP.o.mono ?_;rintro e w1 ⟨⟨v1,rs2,rfl,ei,dh⟩,aH⟩;have eO:=ae ei;have aP:=ae aH;have gp:=ae dh;obtain⟨a1,c1,rfl,lK,ke,_⟩:=ei.form;have hc2':c1<=9223372036854775807:=by unfold maxLen at ke;omega
 have nD:=dh.1;clear ei aH dh;go_wp2_with fail;go_loopw [7,9] (fun o i wr=>∃(j:Nat) (l:List (Value×Row)),j<=rs2.length/\i=.int .i64 (j:Int)/\Ocb wr w1.heap.size A.heap.size o l/\l.length<=j/\l.length<=most/\(∀ x∈l,(x.2.length<=20/\∀ c∈x.2,aT c)/\iO fs x.2=0)/\Below w1.heap.size w1 wr) (fun _ i _=>rs2.length-(intOf i).toNat)
 case atStart=>exact⟨0,[],by omega,rfl,Ocb.nil _ _ _,by simp,by simp,fun x hx=>by simp at hx,jej _ _⟩
 case round =>
  obtain⟨j,l,hj,rfl,how,hlj,hlm,jH,az⟩:=hrel;have wo:=ae how;have HB:=ae (ai aP.o az);have HBR:=ae az;have zr:=ae jH;have bH:=(ai aP.o az).size;have jdB:=az.size;obtain⟨la,lc,rfl,Rf,hl2'⟩:=be how.1;clear how az jH;by_cases aB:j<rs2.length
  ·have hlt':(j:Int)<(rs2.length:Int):=by omega
   by_cases hm:l.length<most
   ·have hm':(l.length:Int)<(most:Int):=by omega
    obtain⟨g,rfl,hg,bn,MM⟩:=(eO.o.kept HBR.o).at aB;obtain⟨d0,d1⟩:=HT.o wr HB.o;have HRJ:=ae (gp.o.2 _ (jeo aB));obtain⟨ra,rc,uU,QM,Da⟩:=be MM
    have AX:jgf (∀ U,Below wr.heap.size wr U->Calls Tryz.prog 43 #[.agg #[.int .u32 (id:Int),.slice fa fs.length fc],.slice ra rs2[j].2.length rc] U fun e w'=>e=.returned (.int .i64 (iO fs rs2[j].2:Int))/\Below wr.heap.size wr w'):=ae (fun U hU=>by
     have h1:=MM.sc.kept hU;rw[uU]at h1;refine(xu (HS.o.kept (HB.o.trans (hU.mono bH))) h1 id).mono ?_;rintro e w' ⟨rfl,hb⟩;exact⟨rfl,ai hU hb⟩)
    rw[uU]at bn MM;have ML:=ae MM;have HCE:jgf (∀ U,Below wr.heap.size wr U->U.cell? ⟨g,j,none⟩=some (.slice ra rs2[j].2.length rc)):=ae (fun U hU=>(hU.cell (p:=⟨g,j,none⟩) hg).trans bn);obtain⟨F,hF⟩:∃ F,iO fs rs2[j].2=F:=⟨_,rfl⟩;rw[hF]at AX;have GJ:=ae hF;clear MM uU hF;generalize rs2[j].2=r at *;go_upto_region 6 with fail
    go_cut [30] from 39 (fun v wx=>v=.bool ((F:Int)==0)/\Below wr.heap.size wr wx)
    case first =>
     refine wp_region_noPanic ?_
     go_region_law (first
      | (go_simp;go_at_call 43;refine(AX.o _ ?_).mono ?_;exact ar (jej wr.heap.size wr) _;rintro e w5 ⟨rfl,bD⟩;have aQ:=ae bD;clear bD;dsimp only)
      | fail)
     all_goals refine NoPanic.normal ?_
     all_goals go_wp2_with fail
     all_goals go_meet
     all_goals exact⟨rfl,aQ.o⟩
    case rest =>
    obtain⟨rfl,tY⟩:=hcut;obtain⟨w5,Xa⟩:∃ w5,w5=wc:=⟨_,rfl⟩;subst Xa;have aQ:=ae tY;have tU:=tY.size;have df:=ae (wo.o.kept tY);have sG:=ae (ML.o.kept tY);have dN:=HCE.o w5 tY;clear tY bn d0 d1 wo ML AX HCE;by_cases hF0:F=0
    ·have hFz:((F:Int)==0)=true:=by rw[hF0];rfl
     have kf:=ae (aK w5 (.slice ra r.length rc) 58);go_wp2_with (first | (at_builtin;refine tP rfl _ _ rfl w1.heap.size A.heap.size _ _ l [(.slice ra r.length rc,r)] rfl (df.o.kept (ak _ _)) rfl (pn kf.o (by rw[jel];omega)) ?c1 ?c2 ?c3 ?_))
     case c1 =>
      intro x hx;rw[jeX.1 hx];exact(sG.o.kept (ak _ _)).low' (jek _)
     case c2=>simp only[jeS];omega
     case c3=>rw[jel];omega
     intro v' w6 o6 b6;have my:=ae o6;have gW:=ae (((HBR.o.trans (aQ.o.mono jdB)).alloc (jet jdB tU) _).trans b6);clear o6 b6;go_wp2_with fail;go_roundw
     case rel =>
      refine⟨j+1,_,by omega,by go_num,my.o,by rw[jem];simp only[jeS];omega,by rw[jem];simp only[jeS];omega,fun x hx=>?_,gW.o⟩;rcases jeN.1 hx with hx | hx
      ·exact zr.o x hx
      ·rw[jeX.1 hx];exact⟨HRJ.o,GJ.o.trans hF0⟩
     case measure=>simp[intOf];omega
    ·have hFz:((F:Int)==0)=false:=by simp;omega
     have gW:=ae (HBR.o.trans (aQ.o.mono jdB));go_wp2_with fail;go_roundw
     case rel=>exact⟨j+1,l,by omega,by go_num,df.o,by omega,hlm,zr.o,gW.o⟩
     case measure=>simp[intOf];omega
   ·have hm':¬ (l.length:Int)<(most:Int):=by omega
    have Zs:w.heap.size<=A.heap.size:=by have:=WQ.o;omega
    have yn:w.heap.size<=w1.heap.size:=jet Zs aP.o.size;have WB:jgf (Vl fs most l):=ae ⟨⟨by omega,fun x hx=>(zr.o x hx).1⟩,hlm,fun x hx=>(zr.o x hx).2⟩;go_wp2_with fail;go_ret
    first | exact⟨⟨_,_,rfl,wo.o.oc yn Zs,WB.o⟩,ai ce.o HB.o⟩ | exact⟨⟨_,rfl,_,wo.o.oc yn Zs,WB.o⟩,ai ce.o HB.o⟩
  ·have gi:¬ (j:Int)<(rs2.length:Int):=by omega
   have Zs:w.heap.size<=A.heap.size:=by have:=WQ.o;omega
   have yn:w.heap.size<=w1.heap.size:=jet Zs aP.o.size;have WB:jgf (Vl fs most l):=ae ⟨⟨by omega,fun x hx=>(zr.o x hx).1⟩,hlm,fun x hx=>(zr.o x hx).2⟩;go_wp2_with fail;go_ret
   first | exact⟨⟨_,_,rfl,wo.o.oc yn Zs,WB.o⟩,ai ce.o HB.o⟩ | exact⟨⟨_,rfl,_,wo.o.oc yn Zs,WB.o⟩,ai ce.o HB.o⟩
namespace SpoiltLaw
theorem jbU(a b:Nat)(ha:a<256)(hb:b<256):bits .xor .u8 (a:Int) (b:Int)=((a ^^^ b:Nat):Int):=by
 exact u8_xor_nat a b ha hb
theorem walk{w:World}(ht:Tab w){fv v:Value}{fs:List Fd}{rs:List Row}(hs:Sf w fv fs)(ho:∀ f∈fs,Okf f)(id:Nat)(lM:id<4294967296)(hr:Sr w v rs)(hro:∀ x∈rs,∀ c∈x,Okc c)(g at_:Int)(by_:Nat)(Be:by_<256)(cut:Int) :
  Calls Tryz.prog 7 #[.agg #[.int .u32 (id:Int),fv],v,.int .i64 g,.int .i64 at_,.int .u8 (by_:Int),.int .i64 cut] w fun e w'=>e=.returned (.bool true)/\Below w.heap.size w w':=by
 obtain⟨fa,fc,rfl,_,_⟩:=hs.form;obtain⟨a,cap,rfl,_,_⟩:=hr.form;have dL:=ak w (.cells #[.int .u32 (id:Int),.slice fa fs.length fc] 25);obtain⟨x0,x1⟩:=bx w (.int .u32 (id:Int)) (.slice fa fs.length fc) 25;have ch:(w.alloc (.cells #[.int .u32 (id:Int),.slice fa fs.length fc] 25)).heap.size=w.heap.size+1:=jel _ _;have yo:=ae (ht.kept dL);have HS:=ae (hs.kept dL);have HR:=ae (hr.kept dL);have ce:=ae dL;have Bi:=ae hro;have HO:=ae ho;generalize hA:w.alloc (.cells #[.int .u32 (id:Int),.slice fa fs.length fc] 25)=A at *
 have HQ:jgf (∀ U,Below A.heap.size A U->U.cell? ⟨w.heap.size,0,none⟩=some (.int .u32 (id:Int))/\U.cell? ⟨w.heap.size,1,none⟩=some (.slice fa fs.length fc)):=ae (fun U hU =>
  ⟨(hU.cell (p:=⟨w.heap.size,0,none⟩) (by show w.heap.size<_;omega)).trans x0,(hU.cell (p:=⟨w.heap.size,1,none⟩) (by show w.heap.size<_;omega)).trans x1⟩)
 have HAL:=ae (uM yo.o);clear ht hs hr dL hro ho ch x0 x1;go_enter Tryz.func7,Tryz.ntmps7
 go_wp2_with fail;try rw[hA]
 clear hA;refine HAL.o.mono ?_;rintro e w1 ⟨rfl,aH⟩;have aP:=ae aH;obtain⟨c0,c1⟩:=HQ.o w1 aH;have HG:=ae (NN (HS.o.kept aH) id);clear aH HAL;go_wp2_with fail;refine HG.o.mono ?_;rintro e w2 ⟨⟨gr,rfl,QQ⟩,aE⟩;have aN:=ae (ai aP.o aE);clear aE QQ c0 c1 HG;cases gr with
 | true =>
  go_wp2_with fail;go_ret
  exact⟨rfl,ai ce.o aN.o⟩
 | false =>
 obtain⟨c0,c1⟩:=HQ.o w2 aN.o;have lA:=ae (sg (HS.o.kept aN.o) id);go_wp2_with fail;refine lA.o.mono ?_;rintro e w3 ⟨rfl,aS⟩;have bN:=ae (ai aN.o aS);clear aS c0 c1 lA;by_cases dN:chk id fs=0
 case neg =>
  have jdr:(((chk id fs:Nat):Int) != 0)=true:=by simp[dN]
  go_wp2_with fail;go_ret
  exact⟨rfl,ai ce.o bN.o⟩
 have jdr:(((chk id fs:Nat):Int) != 0)=false:=by simp[dN]
 have lA:=ae dN;clear dN;go_upto_region 5 with fail
 go_cut [2] from 84 (fun v wx=>∃ G:Nat,v=.int .i64 (G:Int)/\1<=G/\G<=64/\Below A.heap.size A wx)
 case first =>
  go_wp2_with fail;go_meet
  refine⟨(1+g % 64).toNat,?_,?_,?_,bN.o⟩
  ·refine jep (Value.int IntKind.i64) ?_
   rw[jeP,Int.tmod_eq_emod_of_nonneg (by omega)];simp only[wrap64,jeV];omega
  ·omega
  ·omega
 case rest =>
 obtain⟨G,rfl,hG1,hG2,az⟩:=hcut;obtain⟨w4,hw4⟩:∃ w4,w4=wc:=⟨_,rfl⟩;subst hw4;have cp:=ae az;obtain⟨c0,c1⟩:=HQ.o w4 az;have GL:=ae (KN (HR.o.kept az) (HS.o.kept az) Bi.o id 40);clear az;go_wp2_with fail;refine GL.o.mono ?_;rintro e w5 ⟨⟨v5,l5,rfl,fD,iS⟩,bD⟩;have aQ:=ae (ai cp.o bD);have dq:=iS.fit;have h40:(l5.map Prod.snd).length<=40:=by rw[jen];exact iS.2.1
 have nD:∀ r∈l5.map Prod.snd,r.length<=20:=fun r hr=>by
  obtain⟨x,hx,rfl⟩:=jeF.1 hr;exact(iS.1.2 x hx).1
 have qF:=ae fD.sr;obtain⟨a5,c5,rfl,_,_⟩:=qF.o.form;generalize l5.map Prod.snd=rows at *;have CO:=ae dq;have Vt:=ae nD;clear bD fD iS dq nD c0 c1 GL Bi;have hwm:=sj (g:=G) HO.o lM lA.o (show rows.length<=60 by omega) hG1 hG2 CO.o;have Lr:=kO (g:=G) HO.o lM lA.o (show rows.length<=256 by omega) hG1 hG2 CO.o;have Dk:=qx (g:=G) HO.o lM lA.o (show rows.length<=60 by omega) hG1 hG2 CO.o;have Wi:=ae Lr.2;have hTl:(dy id fs rows G).length<=65536:=by rw[jh]at Dk;omega
 have H13:jgf (∀ U,Below w5.heap.size w5 U->Calls Tryz.prog 13 #[.slice a5 rows.length c5] U fun e w'=>∃ b c,e=.returned (.slice b rows.length c)/\Rv w' (.slice b rows.length c) rows/\Below w5.heap.size w5 w'):=ae (fun U hU=>by
  refine(Qb (qF.o.kept hU) (fun r hr=>(CO.o r hr).2) (by omega) (fun r hr=>by have:=Vt.o r hr;omega)).mono ?_;rintro e w' ⟨⟨v',l',rfl,how',hsn'⟩,hb'⟩;have hrv':=how'.rv;rw[hsn']at hrv';obtain⟨a',c',rfl,_⟩:=hrv'.form;exact⟨a',c',rfl,hrv',ai hU hb'⟩)
 have H12:jgf (∀ U b c,Below w5.heap.size w5 U->Rv U (.slice b rows.length c) rows->Calls Tryz.prog 12 #[.agg #[.int .u32 (id:Int),.slice fa fs.length fc],.slice b rows.length c,.int .i64 (G:Int)] U fun e w'=>∃ p q,e=.returned (.tuple #[.slice p (bE (dy id fs rows G)).length q,.int .i64 0])/\Sv w' (.slice p (bE (dy id fs rows G)).length q) (aF .u8 (bE (dy id fs rows G)))/\Below w5.heap.size w5 w'):=ae (fun U b c hU uU=>by
  have h:=oq (yo.o.kept (ai aQ.o hU)) (HS.o.kept (ai aQ.o hU)) uU HO.o lM (fun r hr=>(CO.o r hr).2) (G:Int);rw[hwm]at h;refine h.mono ?_;rintro e w' ⟨⟨v',rfl,how'⟩,hb'⟩;have hsv':=how'.sv;obtain⟨a',c',rfl,_,_⟩:=be how';exact⟨a',c',rfl,hsv',ai hU hb'⟩)
 have nJ:=xG (dy id fs rows G);have fK:(bE (dy id fs rows G)).length<=80000000:=by omega
 have zj:=Wi.o.seal;have HQ5:jgf (∀ U,Below w5.heap.size w5 U->U.cell? ⟨w.heap.size,0,none⟩=some (.int .u32 (id:Int))/\U.cell? ⟨w.heap.size,1,none⟩=some (.slice fa fs.length fc)):=ae (fun U hU=>HQ.o U (ai aQ.o hU));obtain⟨c0,c1⟩:=HQ5.o w5 (jej _ _);have sO:=ae zj;clear hwm Lr Dk zj;generalize dy id fs rows G=T at *;generalize bE T=b at *;generalize rows.length=nr at *;go_upto_region 7 with fail
 go_cut [14,15] from 84 (fun v8 v9 wx=>∃ p q,v8=.slice p b.length q/\v9=.int .i64 0/\Sv wx (.slice p b.length q) (aF .u8 b)/\Below w5.heap.size w5 wx)
 case first =>
  refine wp_region_noPanic ?_
  go_region_law (first
   | (go_simp;go_at_call 13;refine(H13.o _ ?_).mono ?_;exact ar (jej w5.heap.size w5) _;rintro e y1 ⟨b1,d1,rfl,Wc,jdC⟩;obtain⟨q0,q1⟩:=HQ5.o y1 jdC;have Wd:=ae Wc;have HBZ1:=ae jdC;clear Wc jdC;dsimp only)
   | (go_simp;go_at_call 12;refine(H12.o _ _ _ ?_ ?_).mono ?_;(first | exact HBZ1.o | exact ar HBZ1.o _);(first | exact Wd.o | exact Wd.o.kept (ar (jej y1.heap.size y1) _));rintro e y2 ⟨p2,q2,rfl,dR,hbz2⟩;have gj:=ae dR;have HBZ2:=ae hbz2;clear dR hbz2;dsimp only)
   | fail)
  all_goals refine NoPanic.normal ?_
  all_goals go_wp2_with fail
  all_goals go_meet
  all_goals exact⟨_,_,rfl,rfl,gj.o,HBZ2.o⟩
 case rest =>
 obtain⟨p,q,rfl,rfl,gX,tY⟩:=hcut;obtain⟨w6,hw6⟩:∃ w6,w6=wc:=⟨_,rfl⟩;subst hw6;have gW:=ae (ai aQ.o tY);have oK:=ae (ox gX.toK sO.o (by omega));clear gX tY c0 c1 H12 H13 HQ HQ5;go_wp2_with fail;refine oK.o.mono ?_;rintro e w7 ⟨⟨u,rfl,su⟩,iR⟩;rw[nJ]at su ⊢;simp only[Option.getD,Option.isSome]at *;have ir:=ae (ai gW.o iR);have HN:=ae (qQ w7);have Lc:=ae (su.kept (cF w7 (.cells #[] 5)));obtain⟨au,cu,rfl,_,_⟩:=su.toS.form1;rw[ap]at *;clear su iR oK;go_wp2_with (first | (at_builtin;refine dC rfl _ _ rfl w7.heap.size _ _ [] T rfl ?q1 rfl ?q2 ?c1 ?c2 ?_))
 case q1=>exact HN.o
 case q2=>exact Lc.o
 case c1=>simp;omega
 case c2=>rw[jel];omega
 intro v8 w8 o8 b8;have Qv:=ae o8;have fX:=ae ((cF w7 (.cells #[] 5)).trans b8);obtain⟨a8,c8,rfl,hc81,hc82⟩:=be o8;clear o8 b8 HN Lc;go_upto_region 12 with fail
 go_cut [61] from 84 (fun v wx=>v=.bool (decide (0<=at_/\at_<(T.length:Int)))/\wx=w8)
 case first =>
  by_cases h1:0<=at_
  ·by_cases h2:at_<(T.length:Int)
   ·go_wp2_with fail
    go_meet
    exact⟨jep Value.bool (jeB (p:=0<=at_/\at_<(T.length:Int)) ⟨h1,h2⟩).symm,rfl⟩
   ·go_wp2_with fail
    go_meet
    exact⟨jep Value.bool (jeu (p:=0<=at_/\at_<(T.length:Int)) (by omega)).symm,rfl⟩
  ·go_wp2_with fail
   go_meet
   exact⟨jep Value.bool (jeu (p:=0<=at_/\at_<(T.length:Int)) (by omega)).symm,rfl⟩
 case rest =>
 obtain⟨rfl,hwx⟩:=hcut;subst hwx;go_upto_if 61 with fail
 go_cut [18,61] from 84 (fun v _ wx=>∃ a T2 c,v=.slice a T2.length c/\T2.length<=65536/\Bs T2/\T2.length<=c/\c<=maxLen/\aD wx w7.heap.size (.slice a T2.length c) T2/\Below w7.heap.size w7 wx)
 case first =>
  by_cases kg:0<=at_/\at_<(T.length:Int)
  ·rw[jeB kg]
   obtain⟨k,rfl⟩:=jfx kg.1;have oF:k<T.length:=(by omega);have hkl':(k:Int)<(T.length:Int):=kg.2;obtain⟨gb,cap8,hv,hBg,Mx⟩:=Qv.o.form (by omega);simp only[Value.slice.injEq]at hv;obtain⟨rfl,_,rfl⟩:=hv;have dN:=Qv.o.at oF;have hk8:=Wi.o _ (jeo oF);have hx:=jbU T[k] by_ hk8 Be;have hz8:T[k] ^^^ by_<256:=jfY (n:=8) hk8 Be;have cP:=ae (Qv.o.stored k (T[k] ^^^ by_))
   have Zf:jgf (Bs (T.set k (T[k] ^^^ by_))):=ae (fun x hx=>by
    rcases jgd hx with h | h
    ·exact Wi.o x h
    ·rw[h];exact hz8)
   have CL:jgf ((T.set k (T[k] ^^^ by_)).length=T.length):=ae (jfD ..);have aN:=ae (fX.o.setCell (p:=⟨gb,k,none⟩) hBg (.int .u8 ((T[k] ^^^ by_:Nat):Int)));generalize T.set k (T[k] ^^^ by_)=T2 at *;generalize T[k] ^^^ by_=z at *;generalize T[k]=u at *;clear kg;go_wp2_with fail;go_meet
   refine⟨some ⟨gb,0,none⟩,T2,c8,by rw[CL.o],by have:=CL.o;omega,Zf.o,by have:=CL.o;omega,hc82,?_,aN.o⟩;have:=cP.o;rw[← CL.o]at this;exact this
  ·rw[jeu kg]
   clear kg;go_wp2_with fail;go_meet
   exact⟨_,T,_,rfl,hTl,Wi.o,hc81,hc82,Qv.o,fX.o⟩
 case rest =>
 obtain⟨a9,T2,c9,rfl,hT2,hT28,hc91,hc92,how,az⟩:=hcut;obtain⟨w9,hw9⟩:∃ w9,w9=wc:=⟨_,rfl⟩;subst hw9;have ny:=ae (ai ir.o az);have HTB9:=ae (yo.o.kept ny.o);have yk:=ae how.sv;have HT28:=ae hT28;have hc93:c9<=9223372036854775807:=by unfold maxLen at hc92;omega
 have GE:=ae (OpensLaw.walk HTB9.o yk.o HT28.o true);clear hT28 how az Qv fX Wi;by_cases h1:0<=cut
 ·by_cases h2:cut<(T2.length:Int)
  ·obtain⟨k,rfl⟩:=jfx h1
   have gV:=Sv.take yk.o (k:=k) (by rw[ap];omega);rw[fU]at gV;have h8:Bs (T2.take k):=fun x hx=>HT28.o x (je2 hx)
   have HCUT:=ae (OpensLaw.walk HTB9.o gV h8 true);have hkc:(k:Int)<=(c9:Int):=(by omega);have oE:¬ c9=0:=(by omega);clear gV h8 GE;go_wp2_with fail;refine HCUT.o.mono ?_;rintro e wz ⟨rfl,CQ⟩;have tW:=ae (ai ce.o (ai ny.o CQ));clear CQ HCUT;go_wp2_with fail;go_ret
   exact⟨rfl,tW.o⟩
  ·go_wp2_with fail
   refine GE.o.mono ?_;rintro e wz ⟨rfl,CQ⟩;have tW:=ae (ai ce.o (ai ny.o CQ));clear CQ GE;go_wp2_with fail;go_ret
   exact⟨rfl,tW.o⟩
 ·go_wp2_with fail
  refine GE.o.mono ?_;rintro e wz ⟨rfl,CQ⟩;have tW:=ae (ai ce.o (ai ny.o CQ));clear CQ GE;go_wp2_with fail;go_ret
  exact⟨rfl,tW.o⟩
end SpoiltLaw
abbrev Gi : List (String × DataW Unit) := [("catchment/crc.halves", Rows.laid_catchment_crc_halves)]
def jbV:List Int:=[0,498536548,997073096,651767980,1994146192,1802195444,1303535960,1342533948,3988292384,4027552580,3604390888,3412177804,2607071920,2262029012,2685067896,3183342108]
theorem Ms : Tryz.prog.globalNamed "catchment/crc.halves" = some 0 := by kernel_rfl
theorem YI:(Tryz.prog.globals[0]?).map (·.type)=some 245:=by kernel_rfl
theorem YJ:Tryz.prog.cellsOf 22=1:=by kernel_rfl
theorem Vm:Tryz.prog.cellsOf 245=16:=by kernel_rfl
theorem jbW:∀ i,i<16->jbV.getD i 0=((eE 4 i:Nat):Int):=by decide +kernel
theorem YK{W:World}(h:laidMetH Tryz.prog Gi W):Tab W:=by
 rw[MakeChecks.laidMetH_plain _ _ _ (by kernel_rfl)]at h;have hT : TabIs Tryz.prog W "catchment/crc.halves" .u32 jbV := tabIs_of_head Ms YI Tryz.underlying245 Tryz.underlying22 YJ Vm h
 have hc:∀ i:Nat,i<16->W.cell? ⟨0,i,none⟩=some (.int .u32 ((eE 4 i:Nat):Int)):=fun i hi=>by
  have:=hT.cell Ms i (by simpa [jbV]using hi);rw[this,jbW i hi]
 refine⟨?_,hc⟩;have h0:=hc 0 (by omega);rcases jfa W.heap.size with hz | hz
 ·exfalso
  unfold World.cell? at h0;simp[hz]at h0
 ·exact hz
theorem Vn(os:Os)(args:Array Value):laidMetH Tryz.prog Gi ((World.doorLaid Tryz.prog 400 os).forCall (fun _ _=>0) ⟨#[],args,[]⟩).memory :=
 laidMetH_of_parts3 (fuel:=8) (laidMet_of_run' 8 (by kernel_rfl) (by kernel_rfl)) (by kernel_rfl) (by kernel_rfl)
open Go
theorem pr:joinedFacts Tryz.prog 7 Tryz.f7 Rows.colfileSpoiltSpec Rows.colfileSpoiltRow=true:=by
 unfold joinedFacts;simp only[Bool.and_eq_true];and_intros
 all_goals (as_aux_lemma=>kernel_rfl)
end Go.Proofs.YtpljdjmpamjkhaaGreatDoor
