import Derived.Test.YtpljdjmpamjkhaaGreatDoorVbd
import Derived.Test.YtpljdjmpamjkhaaGreatDoorCards
import Derived.Test.YtpljdjmpamjkhaaGreatDoorTie
import Derived.LaidMore
set_option linter.unusedVariables false
set_option linter.unusedSimpArgs false
set_option maxRecDepth 100000
set_option maxHeartbeats 20000000
namespace Go.Proofs.YtpljdjmpamjkhaaGreatDoor
namespace SpoiltLaw
open Go.RowKit Go.Lib
theorem jbU(a b:Nat)(ha:a<256)(hb:b<256):bits .xor .u8 (a:Int) (b:Int)=((a ^^^ b:Nat):Int):=by
 exact u8_xor_nat a b ha hb
theorem walk{w:World}(ht:Tab w){fv v:Value}{fs:List Fd}{rs:List Row}(hs:Sf w fv fs)(ho:∀ f∈fs,Okf f)(id:Nat)(lM:id<4294967296)(hr:Sr w v rs)(hro:∀ x∈rs,∀ c∈x,Okc c)(g at_:Int)(by_:Nat)(Be:by_<256)(cut:Int) :
  Calls Tryz.prog 7 #[.agg #[.int .u32 (id:Int),fv],v,.int .i64 g,.int .i64 at_,.int .u8 (by_:Int),.int .i64 cut] w λe w'=>e=.returned (.bool true)/\Below w.heap.size w w':=by
 obtain⟨fa,fc,rfl,_,_⟩:=hs.form;obtain⟨a,cap,rfl,_,_⟩:=hr.form;have dL:=ak w (.cells #[.int .u32 (id:Int),.slice fa fs.length fc] 25);obtain⟨x0,x1⟩:=bx w (.int .u32 (id:Int)) (.slice fa fs.length fc) 25;have ch:(w.alloc (.cells #[.int .u32 (id:Int),.slice fa fs.length fc] 25)).heap.size=w.heap.size+1:=jel _ _;have yo:=ae (ht.kept dL);have HS:=ae (hs.kept dL);have HR:=ae (hr.kept dL);have ce:=ae dL;have Bi:=ae hro;have HO:=ae ho;generalize hA:w.alloc (.cells #[.int .u32 (id:Int),.slice fa fs.length fc] 25)=A at *
 have HQ:jgf (∀ U,Below A.heap.size A U->U.cell? ⟨w.heap.size,0,none⟩=some (.int .u32 (id:Int))/\U.cell? ⟨w.heap.size,1,none⟩=some (.slice fa fs.length fc)):=ae (λU hU =>
  ⟨(hU.cell (p:=⟨w.heap.size,0,none⟩) (by show w.heap.size<_;omega)).trans x0,(hU.cell (p:=⟨w.heap.size,1,none⟩) (by show w.heap.size<_;omega)).trans x1⟩)
 have HAL:=ae (uM yo.o);clear ht hs hr dL hro ho ch x0 x1;go_enter Tryz.func7,Tryz.ntmps7
 go_wp2_with fail;try rw[hA]
 clear hA;refine HAL.o.mono ?_;rintro e w1 ⟨rfl,aH⟩;have aP:=ae aH;obtain⟨c0,c1⟩:=HQ.o w1 aH;have HG:=ae (NN (HS.o.kept aH) id);clear aH HAL;go_wp2_with fail;refine HG.o.mono ?_;rintro e w2 ⟨⟨gr,rfl,QQ⟩,aE⟩;have aN:=ae (ai aP.o aE);clear aE QQ c0 c1 HG;cases gr with
 | true =>
  go_wp2_with fail;go_ret
  exact⟨rfl,ai ce.o aN.o⟩
 | false =>
 obtain⟨c0,c1⟩:=HQ.o w2 aN.o;have lA:=ae (sg (HS.o.kept aN.o) id);go_wp2_with fail;refine lA.o.mono ?_;rintro e w3 ⟨rfl,aS⟩;have bN:=ae (ai aN.o aS);clear aS c0 c1 lA;by_cases dN:chk id fs=0
 case neg =>
  have jdr:(((chk id fs:Nat):Int) != 0)=true:=by simp[dN]
  go_wp2_with fail;go_ret
  exact⟨rfl,ai ce.o bN.o⟩
 have jdr:(((chk id fs:Nat):Int) != 0)=false:=by simp[dN]
 have lA:=ae dN;clear dN;go_upto_region 5 with fail
 go_cut [2] from 84 (λv wx=>∃ G:Nat,v=.int .i64 (G:Int)/\1<=G/\G<=64/\Below A.heap.size A wx)
 case first =>
  go_wp2_with fail;go_meet
  refine⟨(1+g % 64).toNat,?_,?_,?_,bN.o⟩
  ·refine jep (Value.int IntKind.i64) ?_
   rw[jeP,Int.tmod_eq_emod_of_nonneg (by omega)];simp only[wrap64,jeV];omega
  ·omega
  ·omega
 case rest =>
 obtain⟨G,rfl,hG1,hG2,az⟩:=hcut;obtain⟨w4,hw4⟩:∃ w4,w4=wc:=⟨_,rfl⟩;subst hw4;have cp:=ae az;obtain⟨c0,c1⟩:=HQ.o w4 az;have GL:=ae (KN (HR.o.kept az) (HS.o.kept az) Bi.o id 40);clear az;go_wp2_with fail;refine GL.o.mono ?_;rintro e w5 ⟨⟨v5,l5,rfl,fD,iS⟩,bD⟩;have aQ:=ae (ai cp.o bD);have dq:=iS.fit;have h40:(l5.map Prod.snd).length<=40:=by rw[jen];exact iS.2.1
 have nD:∀ r∈l5.map Prod.snd,r.length<=20:=λr hr=>by
  obtain⟨x,hx,rfl⟩:=jeF.1 hr;exact(iS.1.2 x hx).1
 have qF:=ae fD.sr;obtain⟨a5,c5,rfl,_,_⟩:=qF.o.form;generalize l5.map Prod.snd=rows at *;have CO:=ae dq;have Vt:=ae nD;clear bD fD iS dq nD c0 c1 GL Bi;have hwm:=sj (g:=G) HO.o lM lA.o (show rows.length<=60 by omega) hG1 hG2 CO.o;have Lr:=kO (g:=G) HO.o lM lA.o (show rows.length<=256 by omega) hG1 hG2 CO.o;have Dk:=qx (g:=G) HO.o lM lA.o (show rows.length<=60 by omega) hG1 hG2 CO.o;have Wi:=ae Lr.2;have hTl:(dy id fs rows G).length<=65536:=by rw[jh]at Dk;omega
 have H13:jgf (∀ U,Below w5.heap.size w5 U->Calls Tryz.prog 13 #[.slice a5 rows.length c5] U λe w'=>∃ b c,e=.returned (.slice b rows.length c)/\Rv w' (.slice b rows.length c) rows/\Below w5.heap.size w5 w'):=ae (λU hU=>by
  refine(Qb (qF.o.kept hU) (λr hr=>(CO.o r hr).2) (by omega) (λr hr=>by have:=Vt.o r hr;omega)).mono ?_;rintro e w' ⟨⟨v',l',rfl,how',hsn'⟩,hb'⟩;have hrv':=how'.rv;rw[hsn']at hrv';obtain⟨a',c',rfl,_⟩:=hrv'.form;exact⟨a',c',rfl,hrv',ai hU hb'⟩)
 have H12:jgf (∀ U b c,Below w5.heap.size w5 U->Rv U (.slice b rows.length c) rows->Calls Tryz.prog 12 #[.agg #[.int .u32 (id:Int),.slice fa fs.length fc],.slice b rows.length c,.int .i64 (G:Int)] U λe w'=>∃ p q,e=.returned (.tuple #[.slice p (bE (dy id fs rows G)).length q,.int .i64 0])/\Sv w' (.slice p (bE (dy id fs rows G)).length q) (aF .u8 (bE (dy id fs rows G)))/\Below w5.heap.size w5 w'):=ae (λU b c hU uU=>by
  have h:=oq (yo.o.kept (ai aQ.o hU)) (HS.o.kept (ai aQ.o hU)) uU HO.o lM (λr hr=>(CO.o r hr).2) (G:Int);rw[hwm]at h;refine h.mono ?_;rintro e w' ⟨⟨v',rfl,how'⟩,hb'⟩;have hsv':=how'.sv;obtain⟨a',c',rfl,_,_⟩:=be how';exact⟨a',c',rfl,hsv',ai hU hb'⟩)
 have nJ:=xG (dy id fs rows G);have fK:(bE (dy id fs rows G)).length<=80000000:=by omega
 have zj:=Wi.o.seal;have HQ5:jgf (∀ U,Below w5.heap.size w5 U->U.cell? ⟨w.heap.size,0,none⟩=some (.int .u32 (id:Int))/\U.cell? ⟨w.heap.size,1,none⟩=some (.slice fa fs.length fc)):=ae (λU hU=>HQ.o U (ai aQ.o hU));obtain⟨c0,c1⟩:=HQ5.o w5 (jej _ _);have sO:=ae zj;clear hwm Lr Dk zj;generalize dy id fs rows G=T at *;generalize bE T=b at *;generalize rows.length=nr at *;go_upto_region 7 with fail
 go_cut [14,15] from 84 (λv8 v9 wx=>∃ p q,v8=.slice p b.length q/\v9=.int .i64 0/\Sv wx (.slice p b.length q) (aF .u8 b)/\Below w5.heap.size w5 wx)
 case first =>
  refine wp_region_noPanic ?_
  go_region_law (first
   | (go_simp;go_at_call 13;refine(H13.o _ ?_).mono ?_;exact ar (jej w5.heap.size w5) _;rintro e y1 ⟨b1,d1,rfl,Wc,jdC⟩;obtain⟨q0,q1⟩:=HQ5.o y1 jdC;have Wd:=ae Wc;have HBZ1:=ae jdC;clear Wc jdC;dsimp only)
   | (go_simp;go_at_call 12;refine(H12.o _ _ _ ?_ ?_).mono ?_;(first | exact HBZ1.o | exact ar HBZ1.o _);(first | exact Wd.o | exact Wd.o.kept (ar (jej y1.heap.size y1) _));rintro e y2 ⟨p2,q2,rfl,dR,hbz2⟩;have gj:=ae dR;have HBZ2:=ae hbz2;clear dR hbz2;dsimp only)
   | fail)
  all_goals refine NoPanic.normal ?_
  all_goals go_wp2_with fail
  all_goals go_meet
  all_goals exact⟨_,_,rfl,rfl,gj.o,HBZ2.o⟩
 case rest =>
 obtain⟨p,q,rfl,rfl,gX,tY⟩:=hcut;obtain⟨w6,hw6⟩:∃ w6,w6=wc:=⟨_,rfl⟩;subst hw6;have gW:=ae (ai aQ.o tY);have oK:=ae (ox gX.toK sO.o (by omega));clear gX tY c0 c1 H12 H13 HQ HQ5;go_wp2_with fail;refine oK.o.mono ?_;rintro e w7 ⟨⟨u,rfl,su⟩,iR⟩;rw[nJ]at su ⊢;simp only[Option.getD,Option.isSome]at *;have ir:=ae (ai gW.o iR);have HN:=ae (qQ w7);have Lc:=ae (su.kept (cF w7 (.cells #[] 5)));obtain⟨au,cu,rfl,_,_⟩:=su.toS.form1;rw[ap]at *;clear su iR oK;go_wp2_with (first | (at_builtin;refine dC rfl _ _ rfl w7.heap.size _ _ [] T rfl ?q1 rfl ?q2 ?c1 ?c2 ?_))
 case q1=>exact HN.o
 case q2=>exact Lc.o
 case c1=>simp;omega
 case c2=>rw[jel];omega
 intro v8 w8 o8 b8;have Qv:=ae o8;have fX:=ae ((cF w7 (.cells #[] 5)).trans b8);obtain⟨a8,c8,rfl,hc81,hc82⟩:=be o8;clear o8 b8 HN Lc;go_upto_region 12 with fail
 go_cut [61] from 84 (λv wx=>v=.bool (decide (0<=at_/\at_<(T.length:Int)))/\wx=w8)
 case first =>
  by_cases h1:0<=at_
  ·by_cases h2:at_<(T.length:Int)
   ·go_wp2_with fail
    go_meet
    exact⟨jep Value.bool (jeB (p:=0<=at_/\at_<(T.length:Int)) ⟨h1,h2⟩).symm,rfl⟩
   ·go_wp2_with fail
    go_meet
    exact⟨jep Value.bool (jeu (p:=0<=at_/\at_<(T.length:Int)) (by omega)).symm,rfl⟩
  ·go_wp2_with fail
   go_meet
   exact⟨jep Value.bool (jeu (p:=0<=at_/\at_<(T.length:Int)) (by omega)).symm,rfl⟩
 case rest =>
 obtain⟨rfl,hwx⟩:=hcut;subst hwx;go_upto_if 61 with fail
 go_cut [18,61] from 84 (λv _ wx=>∃ a T2 c,v=.slice a T2.length c/\T2.length<=65536/\Bs T2/\T2.length<=c/\c<=maxLen/\aD wx w7.heap.size (.slice a T2.length c) T2/\Below w7.heap.size w7 wx)
 case first =>
  by_cases kg:0<=at_/\at_<(T.length:Int)
  ·rw[jeB kg]
   obtain⟨k,rfl⟩:=jfx kg.1;have oF:k<T.length:=(by omega);have hkl':(k:Int)<(T.length:Int):=kg.2;obtain⟨gb,cap8,hv,hBg,Mx⟩:=Qv.o.form (by omega);simp only[Value.slice.injEq]at hv;obtain⟨rfl,_,rfl⟩:=hv;have dN:=Qv.o.at oF;have hk8:=Wi.o _ (jeo oF);have hx:=jbU T[k] by_ hk8 Be;have hz8:T[k] ^^^ by_<256:=jfY (n:=8) hk8 Be;have cP:=ae (Qv.o.stored k (T[k] ^^^ by_))
   have Zf:jgf (Bs (T.set k (T[k] ^^^ by_))):=ae (λx hx=>by
    rcases jgd hx with h | h
    ·exact Wi.o x h
    ·rw[h];exact hz8)
   have CL:jgf ((T.set k (T[k] ^^^ by_)).length=T.length):=ae (jfD ..);have aN:=ae (fX.o.setCell (p:=⟨gb,k,none⟩) hBg (.int .u8 ((T[k] ^^^ by_:Nat):Int)));generalize T.set k (T[k] ^^^ by_)=T2 at *;generalize T[k] ^^^ by_=z at *;generalize T[k]=u at *;clear kg;go_wp2_with fail;go_meet
   refine⟨some ⟨gb,0,none⟩,T2,c8,by rw[CL.o],by have:=CL.o;omega,Zf.o,by have:=CL.o;omega,hc82,?_,aN.o⟩;have:=cP.o;rw[← CL.o]at this;exact this
  ·rw[jeu kg]
   clear kg;go_wp2_with fail;go_meet
   exact⟨_,T,_,rfl,hTl,Wi.o,hc81,hc82,Qv.o,fX.o⟩
 case rest =>
 obtain⟨a9,T2,c9,rfl,hT2,hT28,hc91,hc92,how,az⟩:=hcut;obtain⟨w9,hw9⟩:∃ w9,w9=wc:=⟨_,rfl⟩;subst hw9;have ny:=ae (ai ir.o az);have HTB9:=ae (yo.o.kept ny.o);have yk:=ae how.sv;have HT28:=ae hT28;have hc93:c9<=9223372036854775807:=by unfold maxLen at hc92;omega
 have GE:=ae (OpensLaw.walk HTB9.o yk.o HT28.o true);clear hT28 how az Qv fX Wi;by_cases h1:0<=cut
 ·by_cases h2:cut<(T2.length:Int)
  ·obtain⟨k,rfl⟩:=jfx h1
   have gV:=Sv.take yk.o (k:=k) (by rw[ap];omega);rw[fU]at gV;have h8:Bs (T2.take k):=λx hx=>HT28.o x (je2 hx)
   have HCUT:=ae (OpensLaw.walk HTB9.o gV h8 true);have hkc:(k:Int)<=(c9:Int):=(by omega);have oE:¬ c9=0:=(by omega);clear gV h8 GE;go_wp2_with fail;refine HCUT.o.mono ?_;rintro e wz ⟨rfl,CQ⟩;have tW:=ae (ai ce.o (ai ny.o CQ));clear CQ HCUT;go_wp2_with fail;go_ret
   exact⟨rfl,tW.o⟩
  ·go_wp2_with fail
   refine GE.o.mono ?_;rintro e wz ⟨rfl,CQ⟩;have tW:=ae (ai ce.o (ai ny.o CQ));clear CQ GE;go_wp2_with fail;go_ret
   exact⟨rfl,tW.o⟩
 ·go_wp2_with fail
  refine GE.o.mono ?_;rintro e wz ⟨rfl,CQ⟩;have tW:=ae (ai ce.o (ai ny.o CQ));clear CQ GE;go_wp2_with fail;go_ret
  exact⟨rfl,tW.o⟩
end SpoiltLaw
open Go.RowKit Go.Lib
abbrev Gi : List (String × DataW Unit) := [("catchment/crc.halves", Rows.laid_catchment_crc_halves)]
def jbV:List Int:=[0,498536548,997073096,651767980,1994146192,1802195444,1303535960,1342533948,3988292384,4027552580,3604390888,3412177804,2607071920,2262029012,2685067896,3183342108]
theorem Ms : Tryz.prog.globalNamed "catchment/crc.halves" = some 0 := by kernel_rfl
theorem YI:(Tryz.prog.globals[0]?).map (·.type)=some 245:=by kernel_rfl
theorem YJ:Tryz.prog.cellsOf 22=1:=by kernel_rfl
theorem Vm:Tryz.prog.cellsOf 245=16:=by kernel_rfl
theorem jbW:∀ i,i<16->jbV.getD i 0=((eE 4 i:Nat):Int):=by decide +kernel
theorem YK{W:World}(h:laidMetH Tryz.prog Gi W):Tab W:=by
 rw[MakeChecks.laidMetH_plain _ _ _ (by kernel_rfl)]at h;have hT : TabIs Tryz.prog W "catchment/crc.halves" .u32 jbV := tabIs_of_head Ms YI Tryz.underlying245 Tryz.underlying22 YJ Vm h
 have hc:∀ i:Nat,i<16->W.cell? ⟨0,i,none⟩=some (.int .u32 ((eE 4 i:Nat):Int)):=λi hi=>by
  have:=hT.cell Ms i (by simpa [jbV]using hi);rw[this,jbW i hi]
 refine⟨?_,hc⟩;have h0:=hc 0 (by omega);rcases jfa W.heap.size with hz | hz
 ·exfalso
  unfold World.cell? at h0;simp[hz]at h0
 ·exact hz
theorem Vn(os:Os)(args:Array Value):laidMetH Tryz.prog Gi ((World.doorLaid Tryz.prog 400 os).forCall (λ_ _=>0) ⟨#[],args,[]⟩).memory :=
 laidMetH_of_parts3 (fuel:=8) (laidMet_of_run' 8 (by kernel_rfl) (by kernel_rfl)) (by kernel_rfl) (by kernel_rfl)
open Go
theorem pr:joinedFacts Tryz.prog 7 Tryz.f7 Rows.colfileSpoiltSpec Rows.colfileSpoiltRow=true:=by
 unfold joinedFacts;simp only[Bool.and_eq_true];and_intros
 all_goals (as_aux_lemma=>kernel_rfl)
end Go.Proofs.YtpljdjmpamjkhaaGreatDoor
