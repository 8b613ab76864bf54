import Derived.Test.YtpljdjmpamjkhaaGreatDoorQau
set_option linter.unusedVariables false
set_option linter.unusedSimpArgs false
set_option maxRecDepth 100000
set_option maxHeartbeats 8000000
namespace Go.Proofs.YtpljdjmpamjkhaaGreatDoor
open Go.RowKit Go.Lib
theorem UW(w:World)(l:Row)(hl:l.length<=256):OwnV (w.alloc (.cells (aJ l).toArray 78)) w.heap.size (.slice (some ⟨w.heap.size,0,none⟩) l.length l.length) l :=
 jfv (e:=78) (size:=1) w (aJ l).toArray l.length (base:=w.heap.size) (jek _) (by unfold maxLen;omega) (by simp[aJ])
theorem jbO(w:World)(l:Row)(hl:l.length<=256):ex (w.alloc (.cells (gA l).toArray 52)) w.heap.size (.slice (some ⟨w.heap.size,0,none⟩) l.length l.length) l :=
 jfv (e:=52) (size:=3) w (gA l).toArray l.length (base:=w.heap.size) (jek _) (by unfold maxLen;omega) (by simp[mE])
theorem UX(W:World):let W3:=W.alloc (.cells #[.iface 2 (.int .i64 1),.iface 9 (.string ⟨#[97]⟩)] 78);let W4:=W3.alloc (.cells #[.iface 2 (.int .i64 2),.nilIface] 78)
  Rv (W4.alloc (.cells #[.slice (some ⟨W.heap.size,0,none⟩) 2 2,.slice (some ⟨W.heap.size+1,0,none⟩) 2 2] 79)) (.slice (some ⟨W.heap.size+1+1,0,none⟩) 2 2) rA/\Below W.heap.size W (W4.alloc (.cells #[.slice (some ⟨W.heap.size,0,none⟩) 2 2,.slice (some ⟨W.heap.size+1,0,none⟩) 2 2] 79)):=by
 intro W3 W4;have h3:OwnV W3 W.heap.size (.slice (some ⟨W.heap.size,0,none⟩) 2 2) rA1:=UW W rA1 (by decide);have h4:OwnV W4 W3.heap.size (.slice (some ⟨W3.heap.size,0,none⟩) 2 2) rA2:=UW W3 rA2 (by decide);have z3:W3.heap.size=W.heap.size+1:=jel _ _;have z4:W4.heap.size=W.heap.size+1+1:=by show (W3.alloc _).heap.size=_;rw[jel,z3]
 rw[z3]at h4;have b3:Below W3.heap.size W3 W4:=ak _ _;have b4:=ak W4 (.cells #[.slice (some ⟨W.heap.size,0,none⟩) 2 2,.slice (some ⟨W.heap.size+1,0,none⟩) 2 2] 79);obtain⟨c0,c1⟩:=bx W4 (.slice (some ⟨W.heap.size,0,none⟩) 2 2) (.slice (some ⟨W.heap.size+1,0,none⟩) 2 2) 79;have z5:(W4.alloc (.cells #[.slice (some ⟨W.heap.size,0,none⟩) 2 2,.slice (some ⟨W.heap.size+1,0,none⟩) 2 2] 79)).heap.size=W.heap.size+3:=by rw[jel,z4]
 refine⟨⟨_,2,rfl,jek _,by unfold maxLen;omega,fun e=>(by cases e),fun _=>⟨W.heap.size+1+1,0,rfl,by omega,fun j hj=>?_⟩⟩,?_⟩
 ·rw[z4]at c0 c1
  have Mw:j<2:=hj;obtain rfl | rfl:j=0∨j=1:=by omega
  ·exact⟨_,c0,((h3.kept b3).kept b4).sv⟩
  ·exact⟨_,c1,(h4.kept b4).sv⟩
 ·exact(((jej _ _).alloc (jek _) _).alloc (by rw[z3];omega) _).alloc (by rw[z4];omega) _
theorem sk(W:World):tp W (.slice none 0 0) []:=⟨none,0,rfl,jek _,by unfold maxLen;omega,fun h=>by simp at h⟩
theorem Mo{fs:List Fd}{p:List Row}(h:jR fs p):∀ s∈(grp fs p).2,Oks s:=fun s hs=>by
 obtain⟨i,_,rfl⟩:=jeF.1 hs;have:=kJ (mt h i);exact⟨this.1.okc,this.2.okc⟩
def gsA:List Gr:=[grp fI [rA1],grp fI [rA2]]
theorem YE:bT gsA=rA:=rfl
theorem oksA:∀ g∈gsA,∀ s∈g.2,Oks s:=fun g hg=>by
 have gY:g=grp fI [rA1]∨g=grp fI [rA2]:=by simpa [gsA]using hg
 rcases gY with rfl | rfl
 ·exact Mo fun r hr=>pP r (by rw[jeX.1 hr];simp[rA])
 ·exact Mo fun r hr=>pP r (by rw[jeX.1 hr];simp[rA])
theorem ZW:gsA.filter (za fI pA)=[grp fI [rA2]]:=by
 have h1:za fI pA (grp fI [rA1])=false:=mayA1;have h2:za fI pA (grp fI [rA2])=true:=mayA2;unfold gsA;simp[jf8,h1,h2]
theorem jbP:iX fI pA gsA=1:=by unfold iX;rw[ZW];rfl
theorem jbQ:jU fI pA gsA=[rA2]:=by
 unfold jU;rw[ZW]
 have h:mZ fI pA [rA2]=[rA2]:=by
  unfold mZ US;rw[jf8,jbM];rfl
 show [grp fI [rA2]].flatMap _=_
 simp only[jfG,List.flatMap_nil,jeG];exact h
theorem jbR:Okp pA:=⟨by omega,by omega,⟨by decide,⟨by decide,by decide⟩,fun x hx=>by simp at hx⟩,trivial⟩
theorem lenpA:Len pA:=⟨by decide,trivial⟩
theorem Qc{w:World}{b off op f:Nat}{c:Cl}{kv:Value}(nJ:op=1)(hn:gU w b off op f c kv)(iY:Okc c)(u:Bool)(st:Stt)(gV:Oks st) :
  Calls Tryz.prog 194 #[.agg #[.bool false,.bool u,.bool false],.pointer (some ⟨b,off,none⟩),.agg #[.int .i64 st.rows,.int .i64 st.nulls,.bool st.some,.bool st.high,.int .u8 (st.lo.1:Int),.int .i64 st.lo.2.1,.string (am st.lo.2.2),.int .u8 (st.hi.1:Int),.int .i64 st.hi.2.1,.string (am st.hi.2.2)]] w fun e w'=>e=.returned (b3V (nk u op c st))/\Below w.heap.size w w':=by
 have iT:=ae nJ;clear nJ;have HO:=ae iY;have cP:=ae gV;have dh:=Flg.new w (false,u,false);have aH:=ak w (.cells #[.bool false,.bool u,.bool false] 123);have s1:(w.alloc (.cells #[.bool false,.bool u,.bool false] 123)).heap.size=w.heap.size+1:=jel _ _;simp only at dh;generalize hA:w.alloc (.cells #[.bool false,.bool u,.bool false] 123)=A at *;have dG:=Stb.new A st;have aE:=ak A (.cells #[.int .i64 st.rows,.int .i64 st.nulls,.bool st.some,.bool st.high,.int .u8 (st.lo.1:Int),.int .i64 st.lo.2.1,.string (am st.lo.2.2),.int .u8 (st.hi.1:Int),.int .i64 st.hi.2.1,.string (am st.hi.2.2)] 54);have s2:(A.alloc (.cells #[.int .i64 st.rows,.int .i64 st.nulls,.bool st.some,.bool st.high,.int .u8 (st.lo.1:Int),.int .i64 st.lo.2.1,.string (am st.lo.2.2),.int .u8 (st.hi.1:Int),.int .i64 st.hi.2.1,.string (am st.hi.2.2)] 54)).heap.size=A.heap.size+1:=jel _ _;generalize hB:A.alloc (.cells #[.int .i64 st.rows,.int .i64 st.nulls,.bool st.some,.bool st.high,.int .u8 (st.lo.1:Int),.int .i64 st.lo.2.1,.string (am st.lo.2.2),.int .u8 (st.hi.1:Int),.int .i64 st.hi.2.1,.string (am st.hi.2.2)] 54)=B at *;have iJ:=Flg.new B (false,false,false);have aS:=ak B (.cells #[.bool false,.bool false,.bool false] 123);simp only at iJ;generalize hC:B.alloc (.cells #[.bool false,.bool false,.bool false] 123)=C at *;have s12:B.heap.size=w.heap.size+1+1:=by omega
 have hws:TH w C b off op f c kv u st:=by
  refine⟨ai (ai aH aE) aS,(dh.kept aE).kept aS,?_,by rw[← s12];exact iJ,((hn.kept aH).kept aE).kept aS⟩;rw[← s1];have q:=dG;unfold Stb at *;rw[aS.block _ ((Array.getElem?_eq_some_iff.1 q).1)];exact q
 have HW0:=ae hws;obtain⟨lC,eZ,gY,hg3,dL,x0,x1,x2,x3,x4,x5⟩:=hws;clear hn iY gV dh dG iJ aH aE aS lC eZ gY hg3;go_enter Tryz.func194,Tryz.ntmps194
 go_wp2_with fail;clear hA hB hC;refine(pd HO.o _).mono ?_;rintro e w1 ⟨rfl,hb⟩;have AY:=ae (HW0.o.kept hb);clear hb x0 x1 x2 x3 x4 x5 dL HW0
 have HQ:jgf (∀ X,TH w X b off op f c kv u st->(X.cell? ⟨w.heap.size+1,3,none⟩=some (.bool st.high)/\X.cell? ⟨w.heap.size+1,4,none⟩=some (.int .u8 (st.lo.1:Int))/\X.cell? ⟨w.heap.size+1,5,none⟩=some (.int .i64 st.lo.2.1)/\X.cell? ⟨w.heap.size+1,6,none⟩=some (.string (am st.lo.2.2))/\X.cell? ⟨w.heap.size+1,7,none⟩=some (.int .u8 (st.hi.1:Int))/\X.cell? ⟨w.heap.size+1,8,none⟩=some (.int .i64 st.hi.2.1)/\X.cell? ⟨w.heap.size+1,9,none⟩=some (.string (am st.hi.2.2)))/\X.cell? ⟨b,off,none⟩=some (.int .u8 (op:Int))):=ae (fun X h=>by
  obtain⟨_,⟨_,_,_,a4⟩,⟨a5,a6,a7⟩,a8,a9,a10⟩:=h.2.2.1.at;simp only[jeO]at *;exact⟨⟨a4,a5,a6,a7,a8,a9,a10⟩,h.2.2.2.2.2.1⟩)
 obtain⟨⟨z3,z4,z5,z6,z7,z8,z9⟩,zo⟩:=HQ.o _ AY.o;clear s1 s2 s12;go_wp2_with fail;refine(pd cP.o.1 _).mono ?_;rintro e w2 ⟨rfl,hb⟩;have nI:=ae (AY.o.kept hb);clear hb z3 z4 z5 z6 z7 z8 z9 zo AY;obtain⟨⟨z3,z4,z5,z6,z7,z8,z9⟩,zo⟩:=HQ.o _ nI.o;go_wp2_with fail;refine(kH (fZ HO.o).val (fZ cP.o.1).val _).mono ?_;rintro e w3 ⟨rfl,hb⟩;have zv:=ae (nI.o.kept hb);clear hb z3 z4 z5 z6 z7 z8 z9 zo nI;obtain⟨⟨z3,z4,z5,z6,z7,z8,z9⟩,zo⟩:=HQ.o _ zv.o;obtain⟨m,hm⟩:∃ m,m=cW (bq c) (bq st.lo):=⟨_,rfl⟩;rw[show cv ((bq c).1:Int) (bq c).2.1 (am (bq c).2.2) ((bq st.lo).1:Int) (bq st.lo).2.1 (am (bq st.lo).2.2)=m from hm.symm];have HM:=ae hm;clear hm;go_wp2_with fail;refine(pd cP.o.2 _).mono ?_;rintro e w4 ⟨rfl,hb⟩;have WX:=ae (zv.o.kept hb);clear hb z3 z4 z5 z6 z7 z8 z9 zo zv;obtain⟨⟨z3,z4,z5,z6,z7,z8,z9⟩,zo⟩:=HQ.o _ WX.o;go_wp2_with fail;refine(kH (fZ HO.o).val (fZ cP.o.2).val _).mono ?_;rintro e w5 ⟨rfl,hb⟩;have HW5:=ae (WX.o.kept hb);clear hb z3 z4 z5 z6 z7 z8 z9 zo WX;obtain⟨⟨z3,z4,z5,z6,z7,z8,z9⟩,zo⟩:=HQ.o _ HW5.o;obtain⟨M,hM⟩:∃ m,m=cW (bq c) (bq st.hi):=⟨_,rfl⟩;rw[show cv ((bq c).1:Int) (bq c).2.1 (am (bq c).2.2) ((bq st.hi).1:Int) (bq st.hi).2.1 (am (bq st.hi).2.2)=M from hM.symm];have HMM:=ae hM;clear hM z4 z5 z6 z7 z8 z9 HQ;obtain⟨⟨p0,p1,p2⟩,⟨t0,t1,t2⟩,hpz⟩:=HW5.o.2.1.facts;obtain⟨⟨r0,r1,r2⟩,⟨v0,v1,v2⟩,hrz⟩:=HW5.o.2.2.2.1.facts;have nH:=ae HW5.o.1;have HU:=ae (NV (fZ HO.o));have H1:=ae (jbr u c st);have H2:=ae (jbs u c st);have H3:=ae (jbt u c st);have H4:=ae (jbu u c st);have H5:=ae (jbv u op c st);rw[← HM.o,← HMM.o]at H1 H2 H3;generalize st.high=hi at *;generalize tn (bq c)=uc at *;obtain⟨R,hR⟩:∃ R,R=nk u op c st:=⟨_,rfl⟩;have HR:=ae hR;clear hR;by_cases h1:op=1
 ·subst h1
  clear H4 H5 HR H2 H3;obtain hmc | hmc | hmc:m<0∨m=0∨0<m:=by omega
  ·have G1:jgf (decide (0<=m)=false/\decide (m=0)=false/\decide (0<m)=false):=ae (by refine⟨?_,?_,?_⟩<;>simp<;>omega)
   have k1:(m==0)=false:=jev.2 (by omega);have k2:¬ m>=0:=(by omega);have k3:¬ 0<m:=(by omega);clear hmc;cases hi
   ·skip
    go_wp2_with fail;refine bodyPost_ret (v:=.agg #[.bool true,.bool u,.bool false]) (by simp[results,Tryz.results194,go_sem,r0,r1,r2]<;>omega) rfl ⟨?_,set3 ((nH.o.setCell (p:=⟨w.heap.size,2,none⟩) (jek _) _).setCell (p:=⟨w.heap.size,0,none⟩) (jek _) _) (by omega) _ _ _⟩;simp only[H1.o,G1.o.1,G1.o.2.1];rfl
   ·obtain hMc | hMc | hMc:M<0∨M=0∨0<M:=by omega
    ·have G2:jgf (decide (0<=M)=false/\decide (M=0)=false/\decide (0<M)=false):=ae (by refine⟨?_,?_,?_⟩<;>simp<;>omega)
     have l1:(M==0)=false:=jev.2 (by omega);have l2:¬ M>=0:=(by omega);have l3:¬ 0<M:=(by omega);clear hMc;go_wp2_with fail;refine bodyPost_ret (v:=.agg #[.bool true,.bool u,.bool false]) (by simp[results,Tryz.results194,go_sem,r0,r1,r2]<;>omega) rfl ⟨?_,set3 ((nH.o.setCell (p:=⟨w.heap.size,2,none⟩) (jek _) _).setCell (p:=⟨w.heap.size,0,none⟩) (jek _) _) (by omega) _ _ _⟩;simp only[H1.o,G1.o.1,G1.o.2.1,G2.o.2.1,G2.o.2.2];rfl
    ·have G2:jgf (decide (0<=M)=true/\decide (M=0)=true/\decide (0<M)=false):=ae (by refine⟨?_,?_,?_⟩<;>simp<;>omega)
     subst hMc;go_wp2_with fail;refine bodyPost_ret (v:=.agg #[.bool true,.bool u,.bool false]) (by simp[results,Tryz.results194,go_sem,r0,r1,r2]<;>omega) rfl ⟨?_,set3 ((nH.o.setCell (p:=⟨w.heap.size,2,none⟩) (jek _) _).setCell (p:=⟨w.heap.size,0,none⟩) (jek _) _) (by omega) _ _ _⟩;simp only[H1.o,G1.o.1,G1.o.2.1,G2.o.2.1,G2.o.2.2];rfl
    ·have G2:jgf (decide (0<=M)=true/\decide (M=0)=false/\decide (0<M)=true):=ae (by refine⟨?_,?_,?_⟩<;>simp<;>omega)
     have l1:(M==0)=false:=jev.2 (by omega);have l2:M>=0:=(by omega);have l3:0<M:=(by omega);clear hMc;go_wp2_with fail;refine bodyPost_ret (v:=.agg #[.bool true,.bool u,.bool false]) (by simp[results,Tryz.results194,go_sem,r0,r1,r2]<;>omega) rfl ⟨?_,set3 ((nH.o.setCell (p:=⟨w.heap.size,2,none⟩) (jek _) _).setCell (p:=⟨w.heap.size,0,none⟩) (jek _) _) (by omega) _ _ _⟩;simp only[H1.o,G1.o.1,G1.o.2.1,G2.o.2.1,G2.o.2.2];rfl
  ·have G1:jgf (decide (0<=m)=true/\decide (m=0)=true/\decide (0<m)=false):=ae (by refine⟨?_,?_,?_⟩<;>simp<;>omega)
   subst hmc;cases hi
   ·skip
    go_wp2_with fail;refine bodyPost_ret (v:=.agg #[.bool true,.bool u,.bool true]) (by simp[results,Tryz.results194,go_sem,r0,r1,r2]<;>omega) rfl ⟨?_,set3 ((nH.o.setCell (p:=⟨w.heap.size,2,none⟩) (jek _) _).setCell (p:=⟨w.heap.size,0,none⟩) (jek _) _) (by omega) _ _ _⟩;simp only[H1.o,G1.o.1,G1.o.2.1];rfl
   ·obtain hMc | hMc | hMc:M<0∨M=0∨0<M:=by omega
    ·have G2:jgf (decide (0<=M)=false/\decide (M=0)=false/\decide (0<M)=false):=ae (by refine⟨?_,?_,?_⟩<;>simp<;>omega)
     have l1:(M==0)=false:=jev.2 (by omega);have l2:¬ M>=0:=(by omega);have l3:¬ 0<M:=(by omega);clear hMc;go_wp2_with fail;refine bodyPost_ret (v:=.agg #[.bool true,.bool u,.bool true]) (by simp[results,Tryz.results194,go_sem,r0,r1,r2]<;>omega) rfl ⟨?_,set3 ((nH.o.setCell (p:=⟨w.heap.size,2,none⟩) (jek _) _).setCell (p:=⟨w.heap.size,0,none⟩) (jek _) _) (by omega) _ _ _⟩;simp only[H1.o,G1.o.1,G1.o.2.1,G2.o.2.1,G2.o.2.2];rfl
    ·have G2:jgf (decide (0<=M)=true/\decide (M=0)=true/\decide (0<M)=false):=ae (by refine⟨?_,?_,?_⟩<;>simp<;>omega)
     subst hMc;go_wp2_with fail;have GM:=HW5.o.2.1.set 2 (by omega);have Dc:Below w.heap.size w (w5.setCell ⟨w.heap.size,2,none⟩ (.bool true)):=nH.o.setCell (p:=⟨w.heap.size,2,none⟩) (jek _) (.bool true)
     have WE:Flg (w5.setCell ⟨w.heap.size,2,none⟩ (.bool true)) (w.heap.size+1+1) (false,false,false):=by
      have q:=HW5.o.2.2.2.1;unfold Flg at *;rw[heap_setCell_other w5 ⟨w.heap.size,2,none⟩ (w.heap.size+1+1) _ (show w.heap.size+1+1≠w.heap.size by omega)];exact q
     have My:=ae GM;have zi:=ae WE;have mz:=ae Dc;clear GM WE Dc p0 p1 p2 t0 t1 t2 r0 r1 r2 v0 v1 v2 z3 zo;refine(HU.o _).mono ?_;rintro e w6 ⟨rfl,dW⟩;obtain⟨⟨p0,p1,p2⟩,⟨t0,t1,t2⟩,_⟩:=(My.o.kept dW).facts;obtain⟨⟨r0,r1,r2⟩,⟨v0,v1,v2⟩,_⟩:=(zi.o.kept dW).facts;have gW:=ae (ai mz.o dW);clear dW;simp only[setB,Nat.reduceEqDiff,if_true,if_false]at p0 p1 p2;go_wp2_with fail;refine bodyPost_ret (v:=.agg #[.bool (!uc),.bool u,.bool true]) (by simp[results,Tryz.results194,go_sem,r0,r1,r2]<;>omega) rfl ⟨?_,set3 (gW.o.setCell (p:=⟨w.heap.size,0,none⟩) (jek _) _) (by omega) _ _ _⟩;simp only[H1.o,G1.o.1,G1.o.2.1,G2.o.2.1,G2.o.2.2];rfl
    ·have G2:jgf (decide (0<=M)=true/\decide (M=0)=false/\decide (0<M)=true):=ae (by refine⟨?_,?_,?_⟩<;>simp<;>omega)
     have l1:(M==0)=false:=jev.2 (by omega);have l2:M>=0:=(by omega);have l3:0<M:=(by omega);clear hMc;go_wp2_with fail;refine bodyPost_ret (v:=.agg #[.bool true,.bool u,.bool false]) (by simp[results,Tryz.results194,go_sem,r0,r1,r2]<;>omega) rfl ⟨?_,set3 ((nH.o.setCell (p:=⟨w.heap.size,2,none⟩) (jek _) _).setCell (p:=⟨w.heap.size,0,none⟩) (jek _) _) (by omega) _ _ _⟩;simp only[H1.o,G1.o.1,G1.o.2.1,G2.o.2.1,G2.o.2.2];rfl
  ·have G1:jgf (decide (0<=m)=true/\decide (m=0)=false/\decide (0<m)=true):=ae (by refine⟨?_,?_,?_⟩<;>simp<;>omega)
   have k1:(m==0)=false:=jev.2 (by omega);have k2:m>=0:=(by omega);have k3:0<m:=(by omega);clear hmc;cases hi
   ·skip
    go_wp2_with fail;refine bodyPost_ret (v:=.agg #[.bool true,.bool u,.bool true]) (by simp[results,Tryz.results194,go_sem,r0,r1,r2]<;>omega) rfl ⟨?_,set3 ((nH.o.setCell (p:=⟨w.heap.size,2,none⟩) (jek _) _).setCell (p:=⟨w.heap.size,0,none⟩) (jek _) _) (by omega) _ _ _⟩;simp only[H1.o,G1.o.1,G1.o.2.1];rfl
   ·obtain hMc | hMc | hMc:M<0∨M=0∨0<M:=by omega
    ·have G2:jgf (decide (0<=M)=false/\decide (M=0)=false/\decide (0<M)=false):=ae (by refine⟨?_,?_,?_⟩<;>simp<;>omega)
     have l1:(M==0)=false:=jev.2 (by omega);have l2:¬ M>=0:=(by omega);have l3:¬ 0<M:=(by omega);clear hMc;go_wp2_with fail;refine bodyPost_ret (v:=.agg #[.bool true,.bool u,.bool true]) (by simp[results,Tryz.results194,go_sem,r0,r1,r2]<;>omega) rfl ⟨?_,set3 ((nH.o.setCell (p:=⟨w.heap.size,2,none⟩) (jek _) _).setCell (p:=⟨w.heap.size,0,none⟩) (jek _) _) (by omega) _ _ _⟩;simp only[H1.o,G1.o.1,G1.o.2.1,G2.o.2.1,G2.o.2.2];rfl
    ·have G2:jgf (decide (0<=M)=true/\decide (M=0)=true/\decide (0<M)=false):=ae (by refine⟨?_,?_,?_⟩<;>simp<;>omega)
     subst hMc;go_wp2_with fail;refine bodyPost_ret (v:=.agg #[.bool true,.bool u,.bool true]) (by simp[results,Tryz.results194,go_sem,r0,r1,r2]<;>omega) rfl ⟨?_,set3 ((nH.o.setCell (p:=⟨w.heap.size,2,none⟩) (jek _) _).setCell (p:=⟨w.heap.size,0,none⟩) (jek _) _) (by omega) _ _ _⟩;simp only[H1.o,G1.o.1,G1.o.2.1,G2.o.2.1,G2.o.2.2];rfl
    ·have G2:jgf (decide (0<=M)=true/\decide (M=0)=false/\decide (0<M)=true):=ae (by refine⟨?_,?_,?_⟩<;>simp<;>omega)
     have l1:(M==0)=false:=jev.2 (by omega);have l2:M>=0:=(by omega);have l3:0<M:=(by omega);clear hMc;go_wp2_with fail;refine bodyPost_ret (v:=.agg #[.bool true,.bool u,.bool false]) (by simp[results,Tryz.results194,go_sem,r0,r1,r2]<;>omega) rfl ⟨?_,set3 ((nH.o.setCell (p:=⟨w.heap.size,2,none⟩) (jek _) _).setCell (p:=⟨w.heap.size,0,none⟩) (jek _) _) (by omega) _ _ _⟩;simp only[H1.o,G1.o.1,G1.o.2.1,G2.o.2.1,G2.o.2.2];rfl
 exact absurd iT.o h1
theorem vF{w:World}{q si b off op f:Nat}{c:Cl}{kv fv rv:Value}{l:List Fd}{r:List Stt}(nJ:op=1)(hr:tH w q si fv rv l r)(hn:gU w b off op f c kv)(iY:Okc c)(lO:∀ x∈r,Oks x) :
  Calls Tryz.prog 160 #[.pointer (some ⟨q,0,none⟩),.pointer (some ⟨b,off,none⟩)] w fun e w'=>e=.returned (b3V (kI l r op f c))/\Below w.heap.size w w':=by
 have iT:=ae nJ;clear nJ;have HO:=ae iY;have np:=ae lO;have Zv:=ae (fun h=>FA (l:=l) (r:=r) (op:=op) (f:=f) (c:=c) h);have VK:=ae (fun(j:Nat) h hj=>FB (l:=l) (r:=r) (op:=op) (f:=f) (c:=c) (j:=j) h hj);have CI:=ae (fun(j:Nat) h hj=>PJ (l:=l) (r:=r) (op:=op) (f:=f) (c:=c) (j:=j) h hj);generalize kI l r op f c=R at *;have dh:=Flg.new w (false,false,false);have aH:=ak w (.cells #[.bool false,.bool false,.bool false] 123);simp only at dh;have aP:=ae aH;have HR:=ae (hr.kept aH);have HN:=ae (hn.kept aH);have gp:=ae dh;have jG:(w.alloc (.cells #[.bool false,.bool false,.bool false] 123)).heap.size=w.heap.size+1:=jel _ _;have qG:=ae jG;generalize hA:w.alloc (.cells #[.bool false,.bool false,.bool false] 123)=A at *;clear hr hn dh aH iY lO jG;have sL:=ae (fun(U:World) (hU:Below A.heap.size A U)=>tk (HR.o.2.2.2.2.1.kept hU) si f);obtain⟨Rn,y0,y1,y2,yD,gX⟩:=HR.o;obtain⟨dL,x0,x1,x2,x3,x4,x5⟩:=HN.o;obtain⟨fa,fcap,rfl,hfc,WP⟩:=yD.form;obtain⟨ra,rcap,rfl,hrc,hrm⟩:=gX.form;clear yD gX;have hr0:∀ s:bQ (fun x=>Below A.heap.size A x),s.w.cell? ⟨q,0,none⟩=some (.int .u32 (si:Int)):=fun s=>(s.ok.cell (p:=⟨q,0,none⟩) Rn).trans y0
 have Bh:∀ s:bQ (fun x=>Below A.heap.size A x),s.w.cell? ⟨q,1,none⟩=some (.slice fa l.length fcap):=fun s=>(s.ok.cell (p:=⟨q,1,none⟩) Rn).trans y1
 have CK:∀ s:bQ (fun x=>Below A.heap.size A x),s.w.cell? ⟨b,off+1,none⟩=some (.int .u32 (f:Int)):=fun s=>(s.ok.cell (p:=⟨b,off+1,none⟩) dL).trans x1
 haveI:Nonempty (bQ (fun x=>Below A.heap.size A x)):=⟨bQ.mk A (jej _ _)⟩
 go_enter Tryz.func160,Tryz.ntmps160
 go_wp2_with fail;refine cz (S:=fun x=>Below A.heap.size A x) (by kernel_rfl) (by kernel_rfl) (by first | exact(jej _ _).drew | (rw[hA];exact(jej _ _).drew)) ?_;repeat (go_big_quiet_step ((go_at_call 193;exact(sL.o _ (bQ.ok _)).mono (fun e w' h=>⟨h.1,bQ.mk w' (ai (bQ.ok _) h.2),rfl⟩))))
 refine wpQuiet_nil ?_;rintro _ ⟨s2,rfl⟩;obtain⟨w2,pR⟩:∃ x,x=s2.w:=⟨_,rfl⟩;have aE:=s2.ok;rw[← pR]at aE ⊢;have aN:=ae (ai aP.o aE);have jn:=ae (HR.o.kept aE);have GA:=ae (HN.o.kept aE);have gP:=ae (gp.o.kept aE);have MB:jgf (w.heap.size<w2.heap.size):=ae (by have:=aE.size;have:=qG.o;omega);clear pR aE hr0 Bh CK x0 x1 x2 x3 x4 x5 y0 y1 y2 HR HN gp hA Rn dL;obtain⟨⟨p0,p1,p2⟩,⟨t0,t1,t2⟩,_⟩:=gP.o.facts;cases hp:iV l f with
 | none =>
  have HA:=ae (Zv.o hp);simp only[Option.isSome_none,Option.getD_none];clear hp Zv VK CI;go_wp2_with fail;refine bodyPost_ret (v:=.agg #[.bool true,.bool true,.bool true]) (by simp[results,Tryz.results160,go_sem,p0,p1,p2]) rfl ⟨?_,set3 aN.o (jek _) _ _ _⟩;rw[HA.o];rfl
 | some j =>
  simp only[Option.isSome_some,Option.getD_some];by_cases hj:j<r.length
  ·have HA:=ae (CI.o j hp hj)
   obtain⟨Rn,y0,y1,y2,_,gX⟩:=jn.o;have hj':¬ (j:Int)>=(r.length:Int):=(by omega);have Mw:(j:Int)<(r.length:Int):=(by omega);obtain⟨rb,roff,rfl,gV⟩:=gX.at hj;have HOS:=ae (np.o r[j] (jeo hj));generalize r[j]=st at *;have VV:=ae gV;obtain⟨srows,snulls,ssome,shigh,slo,shi⟩:=st;have hst':=gV;obtain⟨hrb,⟨d0,d1,d2,d3⟩,⟨d4,d5,d6⟩,d7,d8,d9⟩:=hst';simp only at d0 d1 d2 d3 d4 d5 d6 d7 d8 d9;have bN:=ae (ai aN.o (ak w2 (.cells #[.int .i64 srows,.int .i64 snulls,.bool ssome,.bool shigh,.int .u8 (slo.1:Int),.int .i64 slo.2.1,.string (am slo.2.2),.int .u8 (shi.1:Int),.int .i64 shi.2.1,.string (am shi.2.2)] 54)));have aS:=ak w2 (.cells #[.int .i64 srows,.int .i64 snulls,.bool ssome,.bool shigh,.int .u8 (slo.1:Int),.int .i64 slo.2.1,.string (am slo.2.2),.int .u8 (shi.1:Int),.int .i64 shi.2.1,.string (am shi.2.2)] 54);have hS3:=Stb.new w2 (⟨srows,snulls,ssome,shigh,slo,shi⟩:Stt);simp only at hS3;have HN3:=ae (GA.o.kept aS);have qE:=ae (gP.o.kept aS);have s3:(w2.alloc (.cells #[.int .i64 srows,.int .i64 snulls,.bool ssome,.bool shigh,.int .u8 (slo.1:Int),.int .i64 slo.2.1,.string (am slo.2.2),.int .u8 (shi.1:Int),.int .i64 shi.2.1,.string (am shi.2.2)] 54)).heap.size=w2.heap.size+1:=jel _ _;have nF:=ae hS3;generalize hE:w2.alloc (.cells #[.int .i64 srows,.int .i64 snulls,.bool ssome,.bool shigh,.int .u8 (slo.1:Int),.int .i64 slo.2.1,.string (am slo.2.2),.int .u8 (shi.1:Int),.int .i64 shi.2.1,.string (am shi.2.2)] 54)=E at *;have HEZ:jgf (E.heap.size=w2.heap.size+1):=ae s3;clear gX gV hp Zv VK CI np aS s3 hS3;obtain⟨dL,x0,x1,x2,x3,x4,x5⟩:=HN3.o;obtain⟨_,⟨e0,e1,e2,e3⟩,⟨e4,e5,e6⟩,e7,e8,e9⟩:=nF.o.at;simp only[jeO]at e0 e1 e2 e3 e4 e5 e6 e7 e8 e9;obtain⟨⟨p0',p1',p2'⟩,⟨t0',t1',t2'⟩,_⟩:=qE.o.facts;by_cases h5:op=5
   ·exact absurd h5 (by rw[iT.o];omega)
   ·have n5:((op:Int)==5)=false:=jev.2 (by omega)
    have HAX:jgf (R=if ssome=true then nk (decide (0<snulls)) op c (⟨srows,snulls,ssome,shigh,slo,shi⟩:Stt) else (false,decide (0<snulls),false)):=ae (by rw[HA.o];unfold Jv;rw[jeh h5]);clear HA h5;have hfF:=Flg.new E (false,decide (0<snulls),false);have hbF:=ak E (.cells #[.bool false,.bool (decide (0<snulls)),.bool false] 123);simp only at hfF;have sF:(E.alloc (.cells #[.bool false,.bool (decide (0<snulls)),.bool false] 123)).heap.size=E.heap.size+1:=jel _ _;have Rc:=ae hfF;have HNF:=ae (HN3.o.kept hbF);have vM:jgf (∀ X,Below (E.alloc (.cells #[.bool false,.bool (decide (0<snulls)),.bool false] 123)).heap.size (E.alloc (.cells #[.bool false,.bool (decide (0<snulls)),.bool false] 123)) X->Jz X w2.heap.size 0 (⟨srows,snulls,ssome,shigh,slo,shi⟩:Stt)/\Flg X w.heap.size (false,false,false)/\Flg X E.heap.size (false,decide (0<snulls),false)):=ae (fun X h=>⟨(nF.o.at.kept hbF).kept h,(qE.o.kept hbF).kept h,Rc.o.kept h⟩);have cp:=ae (ai bN.o hbF);obtain⟨⟨_,⟨g0,g1,g2,g3⟩,⟨g4,g5,g6⟩,g7,g8,g9⟩,hfg,hfh⟩:=vM.o _ (jej _ _);simp only[jeO]at g0 g1 g2 g3 g4 g5 g6 g7 g8 g9;obtain⟨⟨u0,u1,u2⟩,⟨s0,s1,s2'⟩,_⟩:=hfg.facts;obtain⟨⟨v0,v1,v2⟩,⟨q0',q1',q2'⟩,hvz⟩:=hfh.facts;clear hfF hbF sF hfg hfh;have HEW:jgf (w.heap.size<E.heap.size):=ae (by have:=MB.o;have:=HEZ.o;omega);have fJ:¬ E.heap.size=w.heap.size:=by have:=HEW.o;omega
    have zq:¬ w.heap.size=E.heap.size:=by have:=HEW.o;omega
    cases ssome
    ·have HAX':jgf (R=(false,decide (0<snulls),false)):=ae (by rw[HAX.o];rfl)
     go_wp2_with fail;have yh:∀(X:World) (o:Obj) (i:Nat),w.heap.size<X.heap.size->(X.alloc o).cell? ⟨w.heap.size,i,none⟩=X.cell? ⟨w.heap.size,i,none⟩:=fun X o i h=>(ak X o).cell h
     have hew:=HEW.o;have Lm:=set3 bN.o (jek _) (.bool false) (.bool (decide (0<snulls))) (.bool false);refine bodyPost_ret (v:=.agg #[.bool false,.bool (decide (0<snulls)),.bool false]) (by simp[results,Tryz.results160,go_sem,yh,hew,p0',p1',p2']) rfl ⟨?_,Lm.alloc Lm.size _⟩;rw[HAX'.o];rfl
    ·have HAX':jgf (R=nk (decide (0<snulls)) op c ⟨srows,snulls,true,shigh,slo,shi⟩):=ae (by rw[HAX.o];rfl)
     have HC:=ae (fun(U:World) (hU:Below (E.alloc (.cells #[.bool false,.bool (decide (0<snulls)),.bool false] 123)).heap.size (E.alloc (.cells #[.bool false,.bool (decide (0<snulls)),.bool false] 123)) U)=>Qc iT.o (HNF.o.kept hU) HO.o (decide (0<snulls)) ⟨srows,snulls,true,shigh,slo,shi⟩ HOS.o);simp only at HC;generalize nk (decide (0<snulls)) op c ⟨srows,snulls,true,shigh,slo,shi⟩=WM at *;clear HAX;go_wp2_with fail;refine(HC.o _ (jej _ _)).mono ?_;rintro e w5 ⟨rfl,bD⟩;obtain⟨_,hfg,hfh⟩:=vM.o _ bD;have aQ:=ae (ai cp.o bD);clear bD u0 u1 u2 s0 s1 s2' v0 v1 v2 q0' q1' q2' g0 g1 g2 g3 g4 g5 g6 g7 g8 g9 hE e0 e1 e2 e3 e4 e5 e6 e7 e8 e9 p0' p1' p2' t0' t1' t2' x0 x1 x2 x3 x4 x5 hvz;obtain⟨⟨u0,u1,u2⟩,⟨s0,s1,s2'⟩,_⟩:=hfg.facts;obtain⟨⟨v0,v1,v2⟩,⟨q0',q1',q2'⟩,hvz⟩:=hfh.facts;clear hfg hfh;unfold b3V;go_wp2_with fail;refine bodyPost_ret (v:=.agg #[.bool WM.1,.bool WM.2.1,.bool WM.2.2]) (by simp[results,Tryz.results160,go_sem,u0,u1,u2,fJ,zq]) rfl ⟨?_,set3 (set3 aQ.o (by have:=HEW.o;omega) _ _ _) (jek _) _ _ _⟩;rw[HAX'.o];rfl
  ·have HA:=ae (VK.o j hp hj)
   obtain⟨_,y0,y1,y2,_,gX⟩:=jn.o;have hj':(j:Int)>=(r.length:Int):=(by omega);clear hp Zv VK CI gX;go_wp2_with fail;refine bodyPost_ret (v:=.agg #[.bool true,.bool true,.bool true]) (by simp[results,Tryz.results160,go_sem,p0,p1,p2]) rfl ⟨?_,set3 aN.o (jek _) _ _ _⟩;rw[HA.o];rfl
theorem UY{q si:Nat}{fv rv:Value}{l:List Fd}{r:List Stt}(lO:∀ x∈r,Oks x){op f:Nat}{c:Cl}{ks:List PT}(nJ:op=1)(iY:Okp (.node op f c ks))(w:World)(b off:Nat)(hr:tH w q si fv rv l r)(oM:jP w b off (.node op f c ks)) :
  Calls Tryz.prog 112 #[.pointer (some ⟨q,0,none⟩),.pointer (some ⟨b,off,none⟩)] w fun e w'=>e=.returned (b3V (pq l r (.node op f c ks)))/\Below w.heap.size w w':=by
 have iT:=ae nJ;clear nJ;have np:=ae lO;simp only[Okp]at iY;obtain⟨_,_,MM,GC⟩:=iY;have ML:=ae MM;have Mz:=ae GC.get;have Zi:=ae hr;obtain⟨a,cap,Lu,Lv⟩:=oM.open;have HN0:=ae Lu;have HK0:=ae Lv;have dh:=Flg.new w (false,false,false);have aH:=ak w (.cells #[.bool false,.bool false,.bool false] 123);simp only at dh;have sA:(w.alloc (.cells #[.bool false,.bool false,.bool false] 123)).heap.size=w.heap.size+1:=jel _ _;have lN:=ae sA;generalize hA:w.alloc (.cells #[.bool false,.bool false,.bool false] 123)=A at *;have gp:=ae dh;have aP:=ae aH;have sI:=Lu.kept aH;obtain⟨_,_,Lt,hkc,Wg⟩:=Lv.form;simp only[Value.slice.injEq]at Lt;obtain⟨rfl,_,rfl⟩:=Lt;have hkm':ks.length<=9223372036854775807:=by unfold maxLen at Wg;omega
 obtain⟨dL,x0,x1,x2,x3,x4,x5⟩:=sI;clear hr oM Lu Lv MM GC lO Wg dh aH sA;have HD:jgf (pq l r (.node op f c ks)=if op=6 then mayAnd l r ks (false,false,true) else if op=7 then mayOr l r ks (true,false,false) else if op=8 then mayNot l r ks else kI l r op f c):=ae (by simp only[pq]);generalize pq l r (.node op f c ks)=R at *;have h6:¬ op=6:=by rw[iT.o];omega
 have h7:¬ op=7:=by rw[iT.o];omega
 have h8:¬ op=8:=by rw[iT.o];omega
 have n6:((op:Int)==6)=false:=jev.2 (by omega);have n7:((op:Int)==7)=false:=jev.2 (by omega);rw[jeh h6,jeh h7]at HD;obtain⟨⟨p0,p1,p2⟩,⟨t0,t1,t2⟩,hpz⟩:=gp.o.facts;have n8:((op:Int)==8)=false:=jev.2 (by omega);rw[jeh h8]at HD;clear h6 h7 h8;have HC:=ae (vF iT.o (Zi.o.kept aP.o) (HN0.o.kept aP.o) ML.o np.o);generalize kI l r op f c=ev at *;obtain⟨ev0,ev1,ev2⟩:=ev;go_enter Tryz.func112,Tryz.ntmps112
 go_wp2_with fail;refine HC.o.mono ?_;rintro e w2 ⟨rfl,aE⟩;have aN:=ae (ai aP.o aE);have gP:=ae (gp.o.kept aE);obtain⟨⟨r0,r1,r2⟩,⟨s0,s1,s2⟩,_⟩:=gP.o.facts;clear aE p0 p1 p2 t0 t1 t2 hA;unfold b3V;go_wp2_with fail;refine bodyPost_ret (v:=.agg #[.bool ev0,.bool ev1,.bool ev2]) (by simp[results,Tryz.results112,go_sem,r0,r1,r2]) rfl ⟨?_,set3 aN.o (jek _) _ _ _⟩;rw[HD.o];rfl
theorem may1{w:World}{op f si:Nat}{c:Cl}{ks:List PT}{kv fv rv:Value}{l:List Fd}{r:List Stt}(nJ:op=1)(hk:tp w kv ks)(iY:Okp (.node op f c ks))(hs:Sf w fv l)(hv:Ss w rv r)(lO:∀ x∈r,Oks x) :
  Calls Tryz.prog 66 #[.agg #[.int .u8 (op:Int),.int .u32 (f:Int),.int .u8 (c.1:Int),.int .i64 c.2.1,.string (am c.2.2),kv],.agg #[.int .u32 (si:Int),fv],rv] w fun e w'=>e=.returned (b3V (pq l r (.node op f c ks)))/\Below w.heap.size w w':=by
 have HC:=ae (fun(U:World) (b off q:Nat) hr hl=>UY (q:=q) (si:=si) (fv:=fv) (rv:=rv) (l:=l) lO nJ iY U b off hr hl);have iT:=ae nJ;clear nJ;have HK:=ae hk;have HS:=ae hs;have HV:=ae hv;generalize pq l r (.node op f c ks)=R at *;obtain⟨R0,R1,R2⟩:=R;obtain⟨ka,kcap,rfl,_,_⟩:=hk.form;obtain⟨fa,fcap,rfl,_,_⟩:=hs.form;obtain⟨ra,rcap,rfl,_,_⟩:=hv.form;clear hk hs hv iY lO;have hn:=xB w op f c (.slice ka ks.length kcap);have aH:=ak w (.cells #[.int .u8 (op:Int),.int .u32 (f:Int),.int .u8 (c.1:Int),.int .i64 c.2.1,.string (am c.2.2),.slice ka ks.length kcap] 63);generalize hA:w.alloc (.cells #[.int .u8 (op:Int),.int .u32 (f:Int),.int .u8 (c.1:Int),.int .i64 c.2.1,.string (am c.2.2),.slice ka ks.length kcap] 63)=A at *;have aE:=ak A (.cells #[.int .u32 (si:Int),.slice fa l.length fcap] 25);obtain⟨e0,e1⟩:=bx A (.int .u32 (si:Int)) (.slice fa l.length fcap) 25;have hzA:A.heap.size<(A.alloc (.cells #[.int .u32 (si:Int),.slice fa l.length fcap] 25)).heap.size:=by rw[jel];omega
 generalize hB:A.alloc (.cells #[.int .u32 (si:Int),.slice fa l.length fcap] 25)=B at *;have aS:=ak B (.cells #[.bool false,.bool false,.bool false] 123);have iJ:=Flg.new B (false,false,false);simp only at iJ;have g0:=(aS.cell (p:=⟨A.heap.size,0,none⟩) hzA).trans e0;have g1:=(aS.cell (p:=⟨A.heap.size,1,none⟩) hzA).trans e1;generalize hC:B.alloc (.cells #[.bool false,.bool false,.bool false] 123)=C at *;have bG:=ak C (.cells #[.int .u32 (si:Int),.slice fa l.length fcap,.slice ra r.length rcap] 175);obtain⟨k0,k1,k2⟩:=dB C (.int .u32 (si:Int)) (.slice fa l.length fcap) (.slice ra r.length rcap) 175;have hz:C.heap.size<(C.alloc (.cells #[.int .u32 (si:Int),.slice fa l.length fcap,.slice ra r.length rcap] 175)).heap.size:=by rw[jel];omega
 generalize hD:C.alloc (.cells #[.int .u32 (si:Int),.slice fa l.length fcap,.slice ra r.length rcap] 175)=D at *;have lC:Below w.heap.size w D:=ai (ai (ai aH aE) aS) bG;have Bi:jgf (tH D C.heap.size si (.slice fa l.length fcap) (.slice ra r.length rcap) l r):=ae ⟨hz,k0,k1,k2,HS.o.kept lC,HV.o.kept lC⟩;have sD:jgf (jP D w.heap.size 0 (.node op f c ks)):=ae (jP.shut (((hn.kept aE).kept aS).kept bG) (HK.o.kept lC));have nH:=ae lC;have WY:=ae (iJ.kept bG);have tW:jgf (w.heap.size<=B.heap.size):=ae (by have:=aH.size;have:=aE.size;omega);clear hn aH aE aS bG lC k0 k1 k2 hz iJ;go_enter Tryz.func66,Tryz.ntmps66
 go_wp2_with fail;refine(HC.o _ _ _ _ Bi.o sD.o).mono ?_;rintro e w2 ⟨rfl,aE⟩;have aN:=ae (ai nH.o aE);obtain⟨⟨r0,r1,r2⟩,⟨s0,s1,s2⟩,_⟩:=(WY.o.kept aE).facts;clear aE hA hB hC hD e0 e1 g0 g1;unfold b3V;go_wp2_with fail;refine bodyPost_ret (v:=.agg #[.bool R0,.bool R1,.bool R2]) (by simp[results,Tryz.results66,go_sem,r0,r1,r2]) rfl ⟨?_,set3 aN.o tW.o _ _ _⟩;rfl
theorem held1{w:World}{b off op f:Nat}{c x:Cl}{kv:Value}(nJ:op=1)(hn:gU w b off op f c kv)(iY:Okc c)(hl:c.2.2.length<=300)(hf:aT x):Calls Tryz.prog 222 #[.pointer (some ⟨b,off,none⟩),da x] w fun e w'=>e=.returned (.int .u8 (TE op c x:Int))/\Below w.heap.size w w':=by
 have iT:=ae nJ;clear nJ;have HF:=ae hf;have HO:=ae iY;have HL:=ae hl;have HN:=ae hn;obtain⟨dL,x0,x1,x2,x3,x4,x5⟩:=hn;clear hf iY hl;go_enter Tryz.func222,Tryz.ntmps222
 go_wp2_with fail;refine(pd HO.o _).mono ?_;rintro e w1 ⟨rfl,aH⟩;have aP:=ae aH;clear x0 x1 x2 x3 x4 x5 dL;have La:=ae (HN.o.kept aH);clear aH HN;go_wp2_with fail;refine(kH HF.o.val (fZ HO.o).val _).mono ?_;rintro e w2 ⟨rfl,aE⟩;have aN:=ae (ai aP.o aE);obtain⟨dL,x0,x1,x2,x3,x4,x5⟩:=La.o.kept aE;clear aE aP La;obtain⟨m,hm⟩:∃ m,m=cW x (bq c):=⟨_,rfl⟩;have oD:cv (x.1:Int) x.2.1 (am x.2.2) ((bq c).1:Int) (bq c).2.1 (am (bq c).2.2)=m:=hm.symm;rw[oD];have HM:=ae hm;clear hm oD;by_cases h1:op=1
 ·subst h1
  go_wp2_with fail;refine(Ma _ _).mono ?_;rintro e w3 ⟨rfl,rfl⟩;go_wp2_with fail;go_ret
  refine⟨?_,aN.o⟩;rw[HM.o];rfl
 exact absurd iT.o h1
theorem ya{w:World}{q si b off op f:Nat}{c:Cl}{kv fv rv:Value}{l:List Fd}{r:List Cl}(nJ:op=1)(hr:Ao w q si fv rv l r)(hn:gU w b off op f c kv)(iY:Okc c)(hl:c.2.2.length<=300)(lO:∀ x∈r,aT x) :
  Calls Tryz.prog 196 #[.pointer (some ⟨q,0,none⟩),.pointer (some ⟨b,off,none⟩)] w fun e w'=>e=.returned (.int .u8 (pM l r op f c:Int))/\Below w.heap.size w w':=by
 have iT:=ae nJ;clear nJ;have HR:=ae hr;have HN:=ae hn;have HO:=ae iY;have HL:=ae hl;have np:=ae lO;have sL:=ae (fun(U:World) (hU:Below w.heap.size w U)=>tk (hr.2.2.2.2.1.kept hU) si f);have Zv:=ae (fun h=>Jw (l:=l) (r:=r) (op:=op) (f:=f) (c:=c) h);have VK:=ae (fun(j:Nat) h hj=>Jy (l:=l) (r:=r) (op:=op) (f:=f) (c:=c) (j:=j) h hj);have CI:=ae (fun(j:Nat) h hj=>TG (l:=l) (r:=r) (op:=op) (f:=f) (c:=c) (j:=j) h hj);generalize pM l r op f c=R at *;obtain⟨Rn,y0,y1,y2,yD,gX⟩:=hr;obtain⟨dL,x0,x1,x2,x3,x4,x5⟩:=hn;obtain⟨fa,fcap,rfl,hfc,WP⟩:=yD.form;obtain⟨ra,rcap,rfl,hrc,hrm⟩:=gX.form1;rw[aG]at *;clear yD gX iY hl lO;have hr0:∀ s:bQ (fun x=>Below w.heap.size w x),s.w.cell? ⟨q,0,none⟩=some (.int .u32 (si:Int)):=fun s=>(s.ok.cell (p:=⟨q,0,none⟩) Rn).trans y0
 have Bh:∀ s:bQ (fun x=>Below w.heap.size w x),s.w.cell? ⟨q,1,none⟩=some (.slice fa l.length fcap):=fun s=>(s.ok.cell (p:=⟨q,1,none⟩) Rn).trans y1
 have CK:∀ s:bQ (fun x=>Below w.heap.size w x),s.w.cell? ⟨b,off+1,none⟩=some (.int .u32 (f:Int)):=fun s=>(s.ok.cell (p:=⟨b,off+1,none⟩) dL).trans x1
 haveI:Nonempty (bQ (fun x=>Below w.heap.size w x)):=⟨bQ.mk w (jej _ _)⟩
 go_enter Tryz.func196,Tryz.ntmps196
 go_wp2_with fail;refine cz (S:=fun x=>Below w.heap.size w x) (by kernel_rfl) (by kernel_rfl) (jej _ _).drew ?_;repeat (go_big_quiet_step ((go_at_call 193;exact(sL.o _ (bQ.ok _)).mono (fun e w' h=>⟨h.1,bQ.mk w' (ai (bQ.ok _) h.2),rfl⟩))))
 refine wpQuiet_nil ?_;rintro _ ⟨s2,rfl⟩;obtain⟨w2,pR⟩:∃ x,x=s2.w:=⟨_,rfl⟩;have aE:=s2.ok;rw[← pR]at aE ⊢;have aN:=ae aE;have jn:=ae (HR.o.kept aE);have GA:=ae (HN.o.kept aE);have bv:=aE.size;clear pR aE hr0 Bh CK x0 x1 x2 x3 x4 x5 y0 y1 y2 HR HN;cases hp:iV l f with
 | none =>
  have HA:=ae (Zv.o hp);simp only[Option.isSome_none,Option.getD_none];clear hp Zv VK CI;go_wp2_with fail;go_ret
  rw[HA.o];exact⟨rfl,aN.o⟩
 | some j =>
  simp only[Option.isSome_some,Option.getD_some];by_cases hj:j<r.length
  ·have HA:=ae (CI.o j hp hj)
   obtain⟨_,y0,y1,y2,_,gX⟩:=jn.o;have hj':¬ (j:Int)>=(r.length:Int):=(by omega);have Mw:(j:Int)<(r.length:Int):=(by omega);obtain⟨rb,roff,rfl,hrb,z⟩:=gX.at1 (cQ hj);have HF:=ae (np.o r[j] (jeo hj));generalize r[j]=x at *;have yk:=ae gX;clear gX hp Zv VK CI np;go_wp2_with fail;refine(LZ HF.o _).mono ?_;rintro e w3 ⟨rfl,rfl⟩;have HNK:=GA.o;obtain⟨hb0',x0,x1,x2,x3,x4,x5⟩:=HNK;by_cases h5:op=5
   ·subst h5
    go_wp2_with fail;refine(Ma _ _).mono ?_;rintro e w4 ⟨rfl,rfl⟩;go_wp2_with fail;go_ret
    refine⟨?_,aN.o⟩;rw[HA.o];unfold EF;rw[jei rfl];have e1:((x.1:Int)==0)=decide (x.1=0):=by rw[jfN];simp
    rw[e1];rfl
   ·have n5:((op:Int)==5)=false:=jev.2 (by omega)
    by_cases hx:x.1=0
    ·have hx':((x.1:Int)==0)=true:=by rw[hx];rfl
     have HA':jgf (R=1):=ae (by rw[HA.o];unfold EF;rw[jeh h5,jei hx]);clear h5 hx;go_wp2_with fail;go_ret
     rw[HA'.o];exact⟨rfl,aN.o⟩
    ·have hx':((x.1:Int)==0)=false:=jev.2 (by omega)
     have HA':jgf (R=TE op c x):=ae (by rw[HA.o];unfold EF;rw[jeh h5,jeh hx]);clear h5 hx;go_wp2_with fail;refine(held1 iT.o GA.o HO.o HL.o HF.o).mono ?_;rintro e w4 ⟨rfl,bG⟩;have cp:=ae bG;clear bG;go_wp2_with fail;go_ret
     rw[HA'.o];exact⟨rfl,ai aN.o cp.o⟩
  ·have HA:=ae (VK.o j hp hj)
   obtain⟨_,y0,y1,y2,_,gX⟩:=jn.o;have hj':(j:Int)>=(r.length:Int):=(by omega);clear hp Zv VK CI gX;go_wp2_with fail;go_ret
   rw[HA.o];exact⟨rfl,aN.o⟩
theorem YF{q si:Nat}{fv rv:Value}{l:List Fd}{r:List Cl}(lO:∀ x∈r,aT x){op f:Nat}{c:Cl}{ks:List PT}(nJ:op=1)(iY:Okp (.node op f c ks))(bR:Len (.node op f c ks))(w:World)(b off:Nat)(hr:Ao w q si fv rv l r)(oM:jP w b off (.node op f c ks)) :
  Calls Tryz.prog 161 #[.pointer (some ⟨q,0,none⟩),.pointer (some ⟨b,off,none⟩)] w fun e w'=>e=.returned (.int .u8 (jA l r (.node op f c ks):Int))/\Below w.heap.size w w':=by
 have iT:=ae nJ;clear nJ;have np:=ae lO;have HR:=ae hr;simp only[Okp]at iY;simp only[Len]at bR;obtain⟨_,_,MM,GC⟩:=iY;obtain⟨hl,hlks⟩:=bR;have ML:=ae MM;have Mz:=ae GC.get;have HL:=ae hl;have HLK:=ae hlks.get;obtain⟨a,cap,sI,oN⟩:=oM.open;have HN:=ae sI;have HK:=ae oN;have hkf:=oN.form;obtain⟨_,_,Lt,hkc,Wg⟩:=hkf;simp only[Value.slice.injEq]at Lt;obtain⟨rfl,_,rfl⟩:=Lt;have hkm':ks.length<=9223372036854775807:=by unfold maxLen at Wg;omega
 obtain⟨dL,x0,x1,x2,x3,x4,x5⟩:=sI;clear hr oM oN MM GC hl hlks lO Wg;have HD:jgf (jA l r (.node op f c ks)=if op=6 then evalAnd l r ks 2 else if op=7 then evalOr l r ks 0 else if op=8 then evalNot l r ks else pM l r op f c):=ae (by simp only[jA]);generalize jA l r (.node op f c ks)=R at *;have h6:¬ op=6:=by rw[iT.o];omega
 have h7:¬ op=7:=by rw[iT.o];omega
 have h8:¬ op=8:=by rw[iT.o];omega
 have n6:((op:Int)==6)=false:=jev.2 (by omega);have n7:((op:Int)==7)=false:=jev.2 (by omega);rw[jeh h6,jeh h7]at HD;have n8:((op:Int)==8)=false:=jev.2 (by omega);rw[jeh h8]at HD;clear h6 h7 h8;go_enter Tryz.func161,Tryz.ntmps161
 go_wp2_with fail;refine(ya iT.o HR.o HN.o ML.o HL.o np.o).mono ?_;rintro e w2 ⟨rfl,aE⟩;have aN:=ae aE;clear aE;go_wp2_with fail;go_ret
 rw[HD.o];exact⟨rfl,aN.o⟩
theorem eval1{w:World}{op f si:Nat}{c:Cl}{ks:List PT}{kv fv rv:Value}{l:List Fd}{r:List Cl}(nJ:op=1)(hk:tp w kv ks)(iY:Okp (.node op f c ks))(bR:Len (.node op f c ks))(hs:Sf w fv l)(hv:Sv w rv (aJ r))(lO:∀ x∈r,aT x) :
  Calls Tryz.prog 113 #[.agg #[.int .u8 (op:Int),.int .u32 (f:Int),.int .u8 (c.1:Int),.int .i64 c.2.1,.string (am c.2.2),kv],.agg #[.int .u32 (si:Int),fv],rv] w fun e w'=>e=.returned (.int .u8 (jA l r (.node op f c ks):Int))/\Below w.heap.size w w':=by
 have HC:=ae (fun(U:World) (b off q:Nat) hr hl=>YF (q:=q) (si:=si) (fv:=fv) (rv:=rv) (l:=l) lO nJ iY bR U b off hr hl);have iT:=ae nJ;clear nJ;have HK:=ae hk;have HS:=ae hs;have HV:=ae hv;generalize jA l r (.node op f c ks)=R at *;obtain⟨ka,kcap,rfl,_,_⟩:=hk.form;obtain⟨fa,fcap,rfl,_,_⟩:=hs.form;obtain⟨ra,rcap,rfl,_,_⟩:=hv.form1;clear hk hs hv iY bR lO;have hn:=xB w op f c (.slice ka ks.length kcap);have aH:=ak w (.cells #[.int .u8 (op:Int),.int .u32 (f:Int),.int .u8 (c.1:Int),.int .i64 c.2.1,.string (am c.2.2),.slice ka ks.length kcap] 63);generalize hA:w.alloc (.cells #[.int .u8 (op:Int),.int .u32 (f:Int),.int .u8 (c.1:Int),.int .i64 c.2.1,.string (am c.2.2),.slice ka ks.length kcap] 63)=A at *;have aE:=ak A (.cells #[.int .u32 (si:Int),.slice fa l.length fcap] 25);obtain⟨e0,e1⟩:=bx A (.int .u32 (si:Int)) (.slice fa l.length fcap) 25;generalize hB:A.alloc (.cells #[.int .u32 (si:Int),.slice fa l.length fcap] 25)=B at *;have aS:=ak B (.cells #[.int .u32 (si:Int),.slice fa l.length fcap,.slice ra (aJ r).length rcap] 216);obtain⟨g0,g1,g2⟩:=dB B (.int .u32 (si:Int)) (.slice fa l.length fcap) (.slice ra (aJ r).length rcap) 216;have hz:B.heap.size<(B.alloc (.cells #[.int .u32 (si:Int),.slice fa l.length fcap,.slice ra (aJ r).length rcap] 216)).heap.size:=by rw[jel];omega
 generalize hC:B.alloc (.cells #[.int .u32 (si:Int),.slice fa l.length fcap,.slice ra (aJ r).length rcap] 216)=C at *;have lC:Below w.heap.size w C:=ai (ai aH aE) aS;have Bi:jgf (Ao C B.heap.size si (.slice fa l.length fcap) (.slice ra (aJ r).length rcap) l r):=ae ⟨hz,g0,g1,g2,HS.o.kept lC,HV.o.kept lC⟩;have sD:jgf (jP C w.heap.size 0 (.node op f c ks)):=ae (jP.shut ((hn.kept aE).kept aS) (HK.o.kept lC));have nH:=ae lC;clear hn aH aE aS lC g0 g1 g2 hz;go_enter Tryz.func113,Tryz.ntmps113
 go_wp2_with fail;refine(HC.o _ _ _ _ Bi.o sD.o).mono ?_;rintro e w2 ⟨rfl,aE⟩;have aN:=ae aE;clear aE;go_wp2_with fail;go_ret
 exact⟨rfl,ai nH.o aN.o⟩
theorem YG{w:World}{b off op f si:Nat}{c:Cl}{a:Option Addr}{n cap:Nat}{fv:Value}{l:List Fd}(nJ:op=1)(hn:gU w b off op f c (.slice a n cap))(hs:Sf w fv l)(iY:Okc c):Calls Tryz.prog 154 #[.pointer (some ⟨b,off,none⟩),.agg #[.int .u32 (si:Int),fv]] w fun e w'=>e=.returned (.int .i64 (ov l op f c n))/\Below w.heap.size w w':=by
 have iT:=ae nJ;clear nJ;obtain⟨fa,fcap,rfl,hfc,WP⟩:=hs.form;have aH:=ak w (.cells #[.int .u32 (si:Int),.slice fa l.length fcap] 25);have aP:=ae aH;obtain⟨e0,e1⟩:=bx w (.int .u32 (si:Int)) (.slice fa l.length fcap) 25;have HS:=ae (hs.kept aH);have HN:=ae (hn.kept aH);have HO:=ae iY;generalize hA:w.alloc (.cells #[.int .u32 (si:Int),.slice fa l.length fcap] 25)=A at *;clear aH hs hn iY;obtain⟨dL,x0,x1,x2,x3,x4,x5⟩:=HN.o;have HD:jgf (ov l op f c n=if 1<=op/\op<=5 then ffM l op f c n else if 6<=op/\op<=8 then fkM op f c n else 90):=ae rfl;generalize ov l op f c n=R at *;by_cases h5:1<=op/\op<=5
 ·rw[jei h5]at HD
  have HC:=ae (fun(U:World) (hU:Below A.heap.size A U)=>tL (si:=si) (HN.o.kept hU) (HS.o.kept hU) HO.o);generalize ffM l op f c n=R2 at *;have h:=iT.o
  all_goals
   clear iT;subst h;clear h5;go_enter Tryz.func154,Tryz.ntmps154
   go_wp2_with fail;try rw[hA]
   refine(HC.o _ (jej _ _)).mono ?_;rintro e w2 ⟨rfl,aE⟩;have aN:=ae (ai aP.o aE);clear aE;go_wp2_with fail;go_ret
   rw[HD.o];exact⟨rfl,aN.o⟩
 ·exact absurd (show 1<=op/\op<=5 by rw[iT.o];omega) h5
theorem FY{si:Nat}{fv:Value}{l:List Fd}{op f:Nat}{c:Cl}{ks:List PT}(nJ:op=1)(We:ks=[])(iY:Okp (.node op f c ks))(w:World)(b off:Nat)(hs:Sf w fv l)(oM:jP w b off (.node op f c ks)) :
  Calls Tryz.prog 111 #[.pointer (some ⟨b,off,none⟩),.agg #[.int .u32 (si:Int),fv]] w fun e w'=>e=.returned (.int .i64 (mY l (.node op f c ks)))/\Below w.heap.size w w':=by
 have iT:=ae nJ;have Zq:=ae We;clear nJ We;simp only[Okp]at iY;obtain⟨_,_,MM,GC⟩:=iY;have ML:=ae MM;have Mz:=ae GC.get;obtain⟨fa,fcap,rfl,hfc,WP⟩:=hs.form;have aH:=ak w (.cells #[.int .u32 (si:Int),.slice fa l.length fcap] 25);have aP:=ae aH;obtain⟨e0,e1⟩:=bx w (.int .u32 (si:Int)) (.slice fa l.length fcap) 25;have hz:w.heap.size<(w.alloc (.cells #[.int .u32 (si:Int),.slice fa l.length fcap] 25)).heap.size:=by rw[jel];omega
 have HS:=ae (hs.kept aH);obtain⟨a,cap,sI,oN⟩:=(jP.kept aH _ _ _ oM).open;generalize hA:w.alloc (.cells #[.int .u32 (si:Int),.slice fa l.length fcap] 25)=A at *;have HN:=ae sI;have HK:=ae oN;have hkf:=oN.form;obtain⟨_,_,Lt,hkc,Wg⟩:=hkf;simp only[Value.slice.injEq]at Lt;obtain⟨rfl,_,rfl⟩:=Lt;have hkm':ks.length<=9223372036854775807:=by unfold maxLen at Wg;omega
 clear aH hs oM sI oN MM GC Wg;have HD:jgf (mY l (.node op f c ks)=if ov l op f c ks.length≠0 then ov l op f c ks.length else firstAll l ks):=ae (by simp only[mY]);generalize mY l (.node op f c ks)=R at *;have HC:=ae (fun(U:World) (hU:Below A.heap.size A U)=>YG iT.o (si:=si) (HN.o.kept hU) (HS.o.kept hU) ML.o);generalize ov l op f c ks.length=e1v at *;go_enter Tryz.func111,Tryz.ntmps111
 go_wp2_with fail;try rw[hA]
 refine(HC.o _ (jej _ _)).mono ?_;rintro e w2 ⟨rfl,aE⟩;have aN:=ae aE;have GA:=ae (HN.o.kept aE);have g0:=(aE.cell (p:=⟨w.heap.size,0,none⟩) hz).trans e0;have g1:=(aE.cell (p:=⟨w.heap.size,1,none⟩) hz).trans e1;have bv:=jeH hz aE.size;have hzA:=aE.size;clear aE e0 e1 hA;by_cases h0:e1v=0
 ·subst h0
  rw[jeh (by simp)]at HD;have HD':jgf (R=firstAll l (ks.drop 0)):=HD;clear HD;obtain⟨dL,x0,x1,x2,x3,x4,x5⟩:=GA.o;go_wp2_with fail;clear x0 x1 x2 x3 x4 x5;go_loopw [19] (fun i wr=>∃ k:Nat,k<=ks.length/\i=.int .i64 (k:Int)/\R=firstAll l (ks.drop k)/\Below w2.heap.size w2 wr) (fun i _=>ks.length-(intOf i).toNat)
  case atStart=>exact⟨0,by omega,rfl,HD'.o,jej _ _⟩
  case round =>
   obtain⟨k,hk,rfl,kT,az⟩:=hrel;have HF:=ae kT;have HB:=ae az;have bH:=az.size;clear kT az HD';by_cases aB:k<ks.length
   ·exact absurd aB (by rw[Zq.o];simp)
   ·obtain rfl:k=ks.length:=by omega
    have gi:¬ ((ks.length:Nat):Int)<(ks.length:Int):=(by omega);have HT:=ae (HF.o.trans Cw);clear HF;go_wp2_with fail;go_ret
    rw[HT.o];exact⟨rfl,ai aP.o (ai aN.o HB.o)⟩
 ·rw[jei h0]at HD
  have h0':(e1v != 0)=true:=by simpa using h0
  clear h0;go_wp2_with fail;go_ret
  rw[HD.o];exact⟨rfl,ai aP.o aN.o⟩
theorem room1{op f:Nat}{c:Cl}{ks:List PT}(We:ks=[])(w:World)(b off m d:Nat)(hm:m<100)(hd:d<100)(oM:jP w b off (.node op f c ks)):Calls Tryz.prog 110 #[.pointer (some ⟨b,off,none⟩),.int .i64 (m:Int),.int .i64 (d:Int)] w (FV w (.node op f c ks) m d):=by
 have Zq:=ae We;clear We;obtain⟨a,cap,sI,oN⟩:=oM.open;have HK:=ae oN;have hkf:=oN.form;obtain⟨_,_,Lt,hkc,Wg⟩:=hkf;simp only[Value.slice.injEq]at Lt;obtain⟨rfl,_,rfl⟩:=Lt;have hkm':ks.length<=9223372036854775807:=by unfold maxLen at Wg;omega
 clear oM oN Wg;obtain⟨dL,x0,x1,x2,x3,x4,x5⟩:=sI;have HP0:jgf (∀ w',m=0∨d=0->w'=w->FV w (.node op f c ks) m d (.returned (.int .i64 (-1))) w'):=ae (fun w' h hw=>⟨⟨-1,rfl,by omega,by omega,fun _ _ _ _ h1 h2=>by omega⟩,hw⟩);by_cases hm0:m=0
 ·subst hm0
  go_enter Tryz.func110,Tryz.ntmps110
  go_wp2_with fail;go_ret
  exact HP0.o _ (by simp) rfl
 have hm0':((m:Int)==0)=false:=jev.2 (by omega);by_cases hd0:d=0
 ·subst hd0
  go_enter Tryz.func110,Tryz.ntmps110
  go_wp2_with fail;go_ret
  exact HP0.o _ (by simp) rfl
 have hd0':((d:Int)==0)=false:=jev.2 (by omega);have HMD:jgf (0<m/\0<d/\m<100/\d<100):=ae ⟨by omega,by omega,hm,hd⟩;clear HP0;go_enter Tryz.func110,Tryz.ntmps110
 go_wp2_with fail;go_loopw [1,21] (fun s i wr=>∃ k n:Nat,k<=ks.length/\i=.int .i64 (k:Int)/\s=.int .i64 (n:Int)/\n<100/\(k=0->(n:Int)=(m:Int)-1)/\wr=w) (fun _ i _=>ks.length-(intOf i).toNat)
 case atStart=>exact⟨0,m-1,by omega,rfl,by congr 1;omega,by omega,fun _=>by omega,rfl⟩
 case round =>
  obtain⟨k,n,hk,rfl,rfl,hn,qI,rfl⟩:=hrel;have HN0:=ae qI;clear qI;by_cases aB:k<ks.length
  ·exact absurd aB (by rw[Zq.o];simp)
  ·obtain rfl:k=ks.length:=by omega
   have gi:¬ ((ks.length:Nat):Int)<(ks.length:Int):=(by omega);go_wp2_with fail;go_ret
   exact⟨⟨(n:Int),rfl,by omega,by omega,fun op' f' c' h _ _=>HN0.o (by simp only[PT.node.injEq]at h;rw[h.2.2.2];rfl)⟩,rfl⟩
theorem jbS{w:World}{op f si:Nat}{c:Cl}{ks:List PT}{kv fv:Value}{l:List Fd}(nJ:op=1)(We:ks=[])(hk:tp w kv ks)(iY:Okp (.node op f c ks))(hs:Sf w fv l) :
  Calls Tryz.prog 65 #[.agg #[.int .u8 (op:Int),.int .u32 (f:Int),.int .u8 (c.1:Int),.int .i64 c.2.1,.string (am c.2.2),kv],.agg #[.int .u32 (si:Int),fv]] w (PX w l (.node op f c ks)):=by
 have iT:=ae nJ;have Zq:=ae We;clear nJ We;have HK:=ae hk;have HS:=ae hs;have HO:=ae iY;obtain⟨ka,kcap,rfl,_,_⟩:=hk.form;obtain⟨fa,fcap,rfl,_,_⟩:=hs.form;clear hk hs iY;have hn:=xB w op f c (.slice ka ks.length kcap);have aH:=ak w (.cells #[.int .u8 (op:Int),.int .u32 (f:Int),.int .u8 (c.1:Int),.int .i64 c.2.1,.string (am c.2.2),.slice ka ks.length kcap] 63);generalize hA:w.alloc (.cells #[.int .u8 (op:Int),.int .u32 (f:Int),.int .u8 (c.1:Int),.int .i64 c.2.1,.string (am c.2.2),.slice ka ks.length kcap] 63)=A at *;have aE:=ak A (.cells #[.int .u32 (si:Int),.slice fa l.length fcap] 25);obtain⟨e0,e1⟩:=bx A (.int .u32 (si:Int)) (.slice fa l.length fcap) 25;generalize hB:A.alloc (.cells #[.int .u32 (si:Int),.slice fa l.length fcap] 25)=B at *;have lC:Below w.heap.size w B:=ai aH aE;have sD:jgf (jP B w.heap.size 0 (.node op f c ks)):=ae (jP.shut (hn.kept aE) (HK.o.kept lC));have Zf:=ae (HS.o.kept lC);have nH:=ae lC;clear hn aH aE lC;go_enter Tryz.func65,Tryz.ntmps65
 go_wp2_with fail;refine(room1 Zq.o _ _ _ 32 8 (by omega) (by omega) sD.o).mono ?_;rintro e w2 ⟨⟨z,rfl,cK,bv,iN⟩,rfl⟩;have HZ3:=ae iN;clear iN;by_cases hz:z<0
 ·go_wp2_with fail
  go_ret
  exact⟨⟨90,rfl,fun op' f' c' h=>by have:=HZ3.o op' f' c' h (by omega) (by omega);omega⟩,nH.o⟩
 ·go_wp2_with fail
  refine(FY iT.o Zq.o HO.o _ _ _ Zf.o sD.o).mono ?_;rintro e w3 ⟨rfl,aS⟩;have bN:=ae aS;clear aS;go_wp2_with fail;go_ret
  exact⟨⟨_,rfl,fun _ _ _ _=>rfl⟩,ai nH.o bN.o⟩
theorem xor8{a b:Nat}(ha:a<256)(hb:b<256):bits .xor .u8 (a:Int) (b:Int)=((a ^^^ b:Nat):Int):=u8_xor_nat a b ha hb
theorem uM{w:World}(ht:Tab w):Calls Tryz.prog 9 #[] w fun e w'=>e=.returned (.bool true)/\Below w.heap.size w w':=by
 have HT:=ae ht;clear ht;go_enter Tryz.func9,Tryz.ntmps9
 go_wp2_with fail;refine(PY _).mono ?_;rintro e w1 ⟨⟨v1,rfl,o1⟩,aH⟩;obtain⟨a1,c1,rfl,_,_⟩:=be o1;simp only[show fI.length=2 from rfl]at *;have aE:=ak w1 (.cells #[.int .u32 1,.slice a1 2 c1] 25);have bv:(w1.alloc (.cells #[.int .u32 1,.slice a1 2 c1] 25)).heap.size=w1.heap.size+1:=jel _ _;obtain⟨x0,x1⟩:=bx w1 (.int .u32 1) (.slice a1 2 c1) 25;obtain⟨uU,fK⟩:=UX (w1.alloc (.cells #[.int .u32 1,.slice a1 2 c1] 25));rw[bv]at uU fK;have pC:=ai aH aE;have De:=ae (ai pC (fK.mono (Nat.le_of_eq bv)));have HW:=ae (oq (HT.o.kept De.o) ((o1.sf.kept aE).kept (fK.mono (Nat.le_of_eq bv))) uU okA (show (1:Nat)<4294967296 by omega) (fun r hr=>(pP r hr).2) 1);rw[UR]at HW;simp only at HW;have HTW:=ae (HT.o.kept De.o);clear aH aE uU fK pC o1 bv;go_wp2_with fail;refine HW.o.mono ?_;rintro e w6 ⟨⟨v6,rfl,o6⟩,dW⟩;have my:=ae o6;have HT6:=ae (HTW.o.kept dW);have gW:=ae (ai De.o dW);have jc4:=o6.sv;obtain⟨a6,c6,rfl,_,_⟩:=be o6;have iT:=ae (qy HT6.o jc4 bsA (by have:=jbK.2;omega));have Zw:=ae jc4;clear dW o6 jc4 HW HTW De x0 x1;go_wp2_with fail;refine iT.o.mono ?_;rintro e w7 ⟨⟨c,hc,_⟩ | ⟨id,fs,g,gs,fp,fv,ho,rfl,vS,Rp⟩,iR⟩
 ·rw[ZV]at hc;cases hc
 rw[ZV]at ho;simp only[Except.ok.injEq,Prod.mk.injEq]at ho;obtain⟨rfl,rfl,rfl,rfl⟩:=ho;have yr:jgf (Fil w7 w6.heap.size fp 1 fv gsA):=ae vS;have yi:=ae Rp;have ir:=ae (ai gW.o iR);have HT7:=ae (HT6.o.kept iR);have HSV7:=ae (Zw.o.kept iR);have Bi:=ae (xY yr.o (by rw[YE];decide));rw[YE]at Bi;simp only[show (rA.length:Int)=2 from rfl]at Bi;clear vS Rp iR iT Zw;go_wp2_with fail;refine Bi.o.mono ?_;rintro e w8 ⟨rfl,kR⟩;have HF8:=ae (yr.o.kept kR);have Wh:=ae (yi.o.kept kR);have qD:=ae (ai ir.o kR);have Wi:=ae (HT7.o.kept kR);have HSV8:=ae (HSV7.o.kept kR);have sM:=ae (Ct HF8.o);simp only[show (gsA.length:Int)=2 from rfl]at sM;clear kR Bi yr yi HT7 HSV7;go_wp2_with fail;refine sM.o.mono ?_;rintro e w8' ⟨rfl,rfl⟩;clear sM
 have GL:=ae (KF (op:=1) (f:=1) (c:=(1,2,[])) (ks:=[]) HF8.o Wh.o.sf (sk _) (fun U rv r hU gX hfi=>eval1 rfl (sk U) jbR lenpA (Wh.o.sf.kept hU) gX hfi) (fun U rv sts hU hss hos=>may1 rfl (sk U) jbR (Wh.o.sf.kept hU) hss hos) (fun r hr=>by
  rw[YE]at hr;exact⟨by have:=qO (pP r hr).1;rw[this];decide,(pP r hr).2⟩) (by rw[YE];decide) (by decide) oksA 0 1 [rA2] (fun _=>⟨jbP.symm,jbQ.symm⟩) (fun h=>absurd rfl h) (fun U hU=>by
  refine(jbS (op:=1) (f:=1) (c:=(1,2,[])) (ks:=[]) (si:=1) rfl rfl (sk U) jbR (Wh.o.sf.kept hU)).mono ?_;rintro e w' ⟨⟨n,rfl,hn⟩,hb⟩;have Za:=hn 1 1 (1,2,[]) rfl;rw[Za];exact⟨by rw[show mY fI (.node 1 1 (1,2,[]) [])=0 from jbL],hb⟩))
 simp only[ew]at GL;go_wp2_with fail;refine GL.o.mono ?_;rintro e w9 ⟨⟨v9,l9,rfl,YT,hsn9⟩,pS⟩
 obtain⟨rv,rfl⟩:∃ rv,l9=[(rv,rA2)]:=by
  match l9,hsn9 with
  | [(rv,r)],h =>
   have:r=rA2:=by simpa using h
   exact⟨rv,by rw[this]⟩
 obtain⟨a9,c9,rfl,_,_⟩:=YT.form;obtain⟨g9,rfl,hg9,Wj,Wk⟩:=YT.at (k:=0) (show 0<1 by omega);simp only[jer,jeL,jeO,jfZ]at *;obtain⟨ra9,rc9,rfl,_,_⟩:=be Wk;simp only[show rA2.length=2 from rfl]at *;have HR9:=ae Wk;have HCE:=ae Wj;have ny:=ae (ai qD.o pS);have HT9:=ae (Wi.o.kept pS);have HSV9:=ae (HSV8.o.kept pS);have HG9:=ae hg9;have Dm:=ae (cF w9 (.cells #[] 5));have CL:=ae (qQ w9);have pV:=ae (HSV9.o.kept Dm.o);have Qp:=jbK;clear pS YT hsn9 Wk Wj hg9 GL HSV8 Wi HF8 Wh;go_wp2_with (first | (at_builtin;refine aV rfl _ _ rfl w9.heap.size _ _ [] bA rfl ?q1 rfl ?q2 ?k1 ?k2 ?_))
 case q1=>exact CL.o
 case q2=>exact pV.o
 case k1=>simp only[jeL];omega
 case k2=>rw[jel];omega
 intro v10 w10 o10 b10 _ _;have jaP:=Dm.o.trans b10;obtain⟨g,cap,rfl,hBg,Mx⟩:=o10.form (by omega);obtain⟨dN,lO⟩:=o10.at Qp.1;have hx5:=bsA _ (jeo Qp.1);have WT:bits .xor .u8 ((bA[5]'Qp.1:Nat):Int) 1=((bA[5]'Qp.1 ^^^ 1:Nat):Int):=xor8 (b:=1) hx5 (by omega);have cP:=ae (o10.stored 5 (bA[5]'Qp.1 ^^^ 1));have hB11:Below w9.heap.size w9 (w10.setCell ⟨g,5,none⟩ (.int .u8 ((bA[5]'Qp.1 ^^^ 1:Nat):Int))):=jaP.setCell hBg _;have Zx:=ae hB11
 have HX8:jgf (Bs (bA.set 5 (bA[5]'Qp.1 ^^^ 1))):=ae (fun x hx=>by
  rcases jgd hx with h | rfl
  ·exact bsA x h
  ·have:bA[5]'Qp.1 ^^^ 1<2 ^ 8:=jfY hx5 (by omega)
   omega)
 have HTU:=ae turnA;have Qs:jgf ((bA.set 5 (bA[5]'Qp.1 ^^^ 1)).length=bA.length):=ae jfD;have HOP2:=ae (qy (HT9.o.kept hB11) cP.o.sv HX8.o (by rw[Qs.o];omega));have hlt5:(5:Int)<(bA.length:Int):=by omega
 clear Dm CL pV o10 b10 jaP hB11;generalize bA.set 5 (bA[5]'Qp.1 ^^^ 1)=bB at *;generalize bA[5]'Qp.1 ^^^ 1=z at *;generalize bA[5]'Qp.1=y at *;go_wp2_with fail;refine HOP2.o.mono ?_;rintro e w12 ⟨⟨c,hc,rfl⟩ | ⟨id,fs,g',gs,fp',fv',ho,_⟩,pC⟩
 case inr=>rw[HTU.o]at ho;cases ho
 rw[HTU.o]at hc;obtain rfl:101=c:=by simpa using hc
 have Zy:=Zx.o.trans (pC.mono Zx.o.size);have bn:=(Zy.cell (p:=⟨g9,0,none⟩) HG9.o).trans HCE.o;have ki:=HR9.o.kept Zy;have De:=ae (ai ny.o Zy);have HC2:=ae (Aj ki.sv Cx (by decide));clear pC Zy hc HOP2 ki;go_wp2_with fail;refine HC2.o.mono ?_;rintro e w13 ⟨⟨v13,rfl,o13⟩,Lw⟩;have Wl:=ae (ai De.o Lw);have fK:=ak w13 (.cells #[.int .u8 1,.int .i64 2,.string ⟨#[]⟩,.int .u8 0,.int .i64 0,.string ⟨#[]⟩] 52);have yf:ex (w13.alloc (.cells #[.int .u8 1,.int .i64 2,.string ⟨#[]⟩,.int .u8 0,.int .i64 0,.string ⟨#[]⟩] 52)) w13.heap.size (.slice (some ⟨w13.heap.size,0,none⟩) 2 2) rA2:=jbO w13 rA2 (by decide);have Gm:=ae (EB (o13.sc.kept fK) yf.sc (fun c hc=>(Cx c hc).bsA) (fun c hc=>(Cx c hc).bsA));obtain⟨a13,c13,rfl,_,_⟩:=be o13;have HBL2:=ae (ai Wl.o fK);simp only[show rA2.length=2 from rfl,decide_true]at *;clear o13 Lw fK yf HC2 bn;go_wp2_with fail;refine Gm.o.mono ?_;rintro e w14 ⟨rfl,hb14⟩;have jc5:=ae (ai HBL2.o hb14);clear hb14;go_wp2_with fail;go_ret
 exact⟨rfl,jc5.o⟩
theorem FZ{s:List Nat}(c:Nat)(n:Int)(hc:(c:Int)≠1)(ke:(c:Int)≠2)(hl:s.length<=64)(h8:Bs s)(w:World) :
  Calls Tryz.prog 91 #[.agg #[.int .u8 (c:Int),.int .i64 n,.string (am s)]] w (dA w (uv s.length++s)):=by
 have HE:=ae (rO h8);have KW:IntKind.u64.wrap (s.length:Int)=(s.length:Int):=by rw[jeP];omega
 have jG:(am s).size=s.length:=bi s;have HV:=ae (bK s.length (by omega));have vK:=bO (n:=s.length) (by omega);have h1:((c:Int)==1)=false:=jev.2 hc;have h2:((c:Int)==2)=false:=jev.2 ke;obtain⟨x0,x1,x2⟩:=dB w (.int .u8 (c:Int)) (.int .i64 n) (.string (am s)) 52;have hz:w.heap.size<(w.alloc (.cells #[.int .u8 (c:Int),.int .i64 n,.string (am s)] 52)).heap.size:=by rw[jel];omega
 have ce:=ae (ak w (.cells #[.int .u8 (c:Int),.int .i64 n,.string (am s)] 52));generalize hW:w.alloc (.cells #[.int .u8 (c:Int),.int .i64 n,.string (am s)] 52)=W at *
 have et:jgf (∀ n W',Below W.heap.size (W.drewN n) W'->W'.cell? ⟨w.heap.size,2,none⟩=some (.string (am s))/\Below W.heap.size W W'/\W.heap.size<=W'.heap.size):=ae (fun n W' h=>by
  have hb':Below W.heap.size W W':=(ar (jej _ _) n).trans h;exact⟨(hb'.cell (p:=⟨w.heap.size,2,none⟩) hz).trans x2,hb',hb'.size⟩)
 generalize hP:uv s.length=P at *;have hPp:0<P.length:=by rw[← hP];exact mG _
 clear hP hc ke h8;go_enter Tryz.func91,Tryz.ntmps91
 go_wp2_with fail;try rw[hW]
 clear hW
 go_region_held3 (fun w'=>w'.cell? ⟨w.heap.size,2,none⟩=some (.string (am s))) (go_keep) (first
  | (go_at_call 45;refine(HV.o _).mono ?_;rintro e w2 ⟨⟨v2,rfl,cB⟩,aE⟩;obtain⟨Lj,oD,hm3⟩:=et.o _ _ aE;have Lo:=ae oD;have dz:=ae cB;clear aE oD cB)
  | (refine nj (by rfl) _ _ (by rfl) W.heap.size _ P (am s) (by rfl) ?_ (by rfl) ?_ ?_ ?_;exact(bg dz.o (by simp));omega;omega;intro v3 w3 o3 b3;have sN:=(b3.cell (p:=⟨w.heap.size,2,none⟩) hz).trans Lj;have dd:=ae o3;have bN:=ae (Lo.o.trans b3);clear o3 b3))
 all_goals go_wp2_with fail
 all_goals go_ret
 all_goals rw[HE.o]at dd
 all_goals exact⟨⟨_,rfl,bg dd.o ce.o.size⟩,ai ce.o bN.o⟩
theorem Qd{n:Int}(h:I64 n)(w:World):Calls Tryz.prog 91 #[.agg #[.int .u8 1,.int .i64 n,.string ⟨#[]⟩]] w (dA w (wv n)):=by
 have HV:=ae (du h);obtain⟨x0,x1,x2⟩:=dB w (.int .u8 1) (.int .i64 n) (.string ⟨#[]⟩) 52;have ce:=ae (ak w (.cells #[.int .u8 1,.int .i64 n,.string ⟨#[]⟩] 52));go_enter Tryz.func91,Tryz.ntmps91
 go_wp2_with fail;refine(HV.o _).mono ?_;rintro e w1 ⟨⟨v1,rfl,o1⟩,aH⟩;have HO:=ae o1;have HB:=ae aH;clear o1 aH;go_wp2_with fail;go_ret
 exact⟨⟨_,rfl,bg HO.o ce.o.size⟩,ai ce.o HB.o⟩
theorem Qe{n:Nat}(h:n<2)(w:World):Calls Tryz.prog 91 #[.agg #[.int .u8 2,.int .i64 (n:Int),.string ⟨#[]⟩]] w (dA w [n]):=by
 obtain⟨x0,x1,x2⟩:=dB w (.int .u8 2) (.int .i64 (n:Int)) (.string ⟨#[]⟩) 52;have KW:IntKind.u8.wrap (n:Int)=(n:Int):=by rw[IntKind.wrap_u8];omega
 have ce:=ae (ak w (.cells #[.int .u8 2,.int .i64 (n:Int),.string ⟨#[]⟩] 52));have HL:=ae (cH (w.alloc (.cells #[.int .u8 2,.int .i64 (n:Int),.string ⟨#[]⟩] 52)) n);have aP:=ae (ak (w.alloc (.cells #[.int .u8 2,.int .i64 (n:Int),.string ⟨#[]⟩] 52)) (.cells #[.int .u8 (n:Int)] 5));have hz:(w.alloc (.cells #[.int .u8 2,.int .i64 (n:Int),.string ⟨#[]⟩] 52)).heap.size=w.heap.size+1:=jel _ _;go_enter Tryz.func91,Tryz.ntmps91
 go_wp2_with fail;go_ret
 have H1:=bg HL.o ce.o.size;rw[hz]at H1;exact⟨⟨_,rfl,H1⟩,ai ce.o aP.o⟩
theorem Ga{c:Cl}(h:aT c)(w:World):Calls Tryz.prog 91 #[.agg #[.int .u8 (c.1:Int),.int .i64 c.2.1,.string (am c.2.2)]] w (dA w (gJ c)):=by
 rcases h with rfl | ⟨n,rfl,h1⟩ | ⟨n,rfl,h1⟩ | ⟨s,rfl,h1,h2⟩
 ·have:=FZ (s:=[]) 0 0 (by decide) (by decide) (by simp) (fun x hx=>by simp at hx) w
  exact this
 ·have:=Qd h1 w
  exact this
 ·have:=Qe h1 w
  have e:gJ ((2,(n:Int),[]):Cl)=[n]:=by
   unfold gJ;rw[jeh (by simp),jei (by simp)];simp only;congr 1
   omega
  rw[e];exact this
 ·have:=FZ (s:=s) 3 0 (by decide) (by decide) h1 h2 w
  exact this
theorem yb{st:Stt}(h1:aT st.lo)(h2:aT st.hi)(hn:∃ n:Nat,st.nulls=(n:Int)/\n<=1000000)(hsh:st.some=false->st.high=false)(w:World):Calls Tryz.prog 48 #[vC st] w (dA w (eD st)):=by
 obtain⟨n,hn,Mt⟩:=hn;obtain⟨r,nu,so,hi,lo,hh⟩:=st;simp only at hn h1 h2 hsh;subst hn;have HC:=ae (bK n (by omega));have HL:=ae (Ga h1);have HH:=ae (Ga h2);have Rf:=mr h1;have AO:=mr h2;have hu:=bO (n:=n) (by omega);have KW:IntKind.u64.wrap (n:Int)=(n:Int):=by rw[jeP];omega
 have HE:jgf (eD ⟨r,(n:Int),so,hi,lo,hh⟩=uv n++[yR ⟨r,(n:Int),so,hi,lo,hh⟩]++((if so=true then gJ lo else [])++(if hi=true then gJ hh else []))):=ae (by unfold eD;rw[jeQ]);have HFG:jgf (yR ⟨r,(n:Int),so,hi,lo,hh⟩=(if so=true then 1 else 0)+(if hi=true then 2 else 0)):=ae rfl;rw[HFG.o]at HE;clear HFG;obtain⟨SB,hSB⟩:∃ SB,eD ⟨r,(n:Int),so,hi,lo,hh⟩=SB:=⟨_,rfl⟩;rw[hSB]at HE ⊢;clear hSB;unfold vC;have ce:=ae (ak w (.cells #[.int .i64 r,.int .i64 (n:Int),.bool so,.bool hi,.int .u8 (lo.1:Int),.int .i64 lo.2.1,.string (am lo.2.2),.int .u8 (hh.1:Int),.int .i64 hh.2.1,.string (am hh.2.2)] 54));have hz:w.heap.size<(w.alloc (.cells #[.int .i64 r,.int .i64 (n:Int),.bool so,.bool hi,.int .u8 (lo.1:Int),.int .i64 lo.2.1,.string (am lo.2.2),.int .u8 (hh.1:Int),.int .i64 hh.2.1,.string (am hh.2.2)] 54)).heap.size:=by rw[jel];omega
 have kh:=jeK w (.cells #[.int .i64 r,.int .i64 (n:Int),.bool so,.bool hi,.int .u8 (lo.1:Int),.int .i64 lo.2.1,.string (am lo.2.2),.int .u8 (hh.1:Int),.int .i64 hh.2.1,.string (am hh.2.2)] 54);generalize hW:w.alloc (.cells #[.int .i64 r,.int .i64 (n:Int),.bool so,.bool hi,.int .u8 (lo.1:Int),.int .i64 lo.2.1,.string (am lo.2.2),.int .u8 (hh.1:Int),.int .i64 hh.2.1,.string (am hh.2.2)] 54)=W at *;generalize lo.1=l0 at *;generalize lo.2.1=l1 at *;generalize am lo.2.2=l2 at *;generalize hh.1=h0 at *;generalize hh.2.1=h1' at *;generalize am hh.2.2=h2' at *;generalize gJ lo=BL at *;generalize gJ hh=BH at *
 have HT:jgf (∀ U,Below W.heap.size W U->U.cell? ⟨w.heap.size,1,none⟩=some (.int .i64 (n:Int))/\U.cell? ⟨w.heap.size,2,none⟩=some (.bool so)/\U.cell? ⟨w.heap.size,3,none⟩=some (.bool hi)/\U.cell? ⟨w.heap.size,4,none⟩=some (.int .u8 (l0:Int))/\U.cell? ⟨w.heap.size,5,none⟩=some (.int .i64 l1)/\U.cell? ⟨w.heap.size,6,none⟩=some (.string l2)/\U.cell? ⟨w.heap.size,7,none⟩=some (.int .u8 (h0:Int))/\U.cell? ⟨w.heap.size,8,none⟩=some (.int .i64 h1')/\U.cell? ⟨w.heap.size,9,none⟩=some (.string h2')):=ae (fun U hb=>by
  have hU:=(hb.block w.heap.size hz).trans kh;refine⟨?_,?_,?_,?_,?_,?_,?_,?_,?_⟩<;>(rw[ay hU];rfl))
 clear kh;have HZW:=ae hz;generalize uv n=P at *;obtain⟨x1,x2,x3,x4,x5,x6,x7,x8,x9⟩:=HT.o W (jej _ _);go_enter Tryz.func48,Tryz.ntmps48
 go_wp2_with fail;try rw[hW]
 clear hW;refine(HC.o _).mono ?_;rintro e w1 ⟨⟨v1,rfl,o1⟩,aH⟩;have eO:jgf (aD w1 W.heap.size v1 P):=ae o1;have aP:=ae aH;clear o1 aH x1 x2 x3 x4 x5 x6 x7 x8 x9;obtain⟨x1,x2,x3,x4,x5,x6,x7,x8,x9⟩:=HT.o w1 aP.o;have cK:=aP.o.size;obtain⟨pa,pc,rfl,_,_⟩:=be eO.o;cases so with
 | false =>
  have KY:=hsh rfl;subst KY;go_wp2_with (first | (at_builtin;refine aV rfl _ _ rfl W.heap.size _ _ P [0] rfl ?qa1 rfl ?qb1 ?c1 ?c2 ?_))
  case qa1=>exact(eO.o.kept (ak _ _))
  case qb1=>exact(cH w1 0).sv
  case c1=>simp only[jeS];omega
  case c2=>rw[jel];omega
  intro v2 w2 o2 b2 _ _;have dz:=ae o2;have aN:=ae ((aP.o.alloc cK _).trans b2);clear o2 b2;go_wp2_with fail;go_ret
  have HQ:aD w2 W.heap.size v2 SB:=by rw[HE.o];simpa using dz.o
  exact⟨⟨_,rfl,bg HQ (by omega)⟩,ai ce.o aN.o⟩
 | true =>
  cases hi with
  | true =>
   go_wp2_with (first | (at_builtin;refine aV rfl _ _ rfl W.heap.size _ _ P [3] rfl ?qa2 rfl ?qb2 ?c1 ?c2 ?_))
   case qa2=>exact(eO.o.kept (ak _ _))
   case qb2=>exact(cH w1 3).sv
   case c1=>simp only[jeS];omega
   case c2=>rw[jel];omega
   intro v2 w2 o2 b2 _ _;have dz:=ae o2;have aN:=ae ((aP.o.alloc cK _).trans b2);clear o2 b2 x1 x2 x3 x4 x5 x6 x7 x8 x9;obtain⟨x1,x2,x3,x4,x5,x6,x7,x8,x9⟩:=HT.o w2 aN.o;go_wp2_with fail;refine(HL.o _).mono ?_;rintro e w3 ⟨⟨v3,rfl,o3⟩,aS⟩;have dd:=ae o3;have Ln:=ae (dz.o.kept aS);have bN:=ae (ai aN.o aS);have iN:=bN.o.size;clear o3 aS x1 x2 x3 x4 x5 x6 x7 x8 x9 dz;obtain⟨x1,x2,x3,x4,x5,x6,x7,x8,x9⟩:=HT.o w3 bN.o;go_wp2_with (first | (at_builtin;refine aV rfl _ _ rfl W.heap.size _ _ (P++[3]) BL rfl ?qa3 rfl ?qb3 ?c3 ?c4 ?_))
   case qa3=>exact Ln.o
   case qb3=>exact dd.o.sv
   case c3=>simp only[jer,jeL,jem];omega
   case c4=>exact iN
   intro v4 w4 o4 b4 _ _;have eY:=ae o4;have cp:=ae (bN.o.trans b4);clear o4 b4 x1 x2 x3 x4 x5 x6 x7 x8 x9;obtain⟨x1,x2,x3,x4,x5,x6,x7,x8,x9⟩:=HT.o w4 cp.o;go_wp2_with fail;refine(HH.o _).mono ?_;rintro e w5 ⟨⟨v5,rfl,o5⟩,bD⟩;have df:=ae o5;have HP5:=ae (eY.o.kept bD);have aQ:=ae (ai cp.o bD);have tU:=aQ.o.size;clear o5 bD x1 x2 x3 x4 x5 x6 x7 x8 x9 eY;go_wp2_with (first | (at_builtin;refine aV rfl _ _ rfl W.heap.size _ _ (P++3::BL) BH rfl ?qa4 rfl ?qb4 ?c5 ?c6 ?_))
   case qa4=>exact HP5.o
   case qb4=>exact df.o.sv
   case c5=>simp only[jer,jem];omega
   case c6=>exact tU
   intro v6 w6 o6 b6 _ _;have my:=ae o6;have gW:=ae (aQ.o.trans b6);clear o6 b6;go_wp2_with fail;go_ret
   have HQ:aD w6 W.heap.size v6 SB:=by rw[HE.o];simpa using my.o
   exact⟨⟨_,rfl,bg HQ (by omega)⟩,ai ce.o gW.o⟩
  | false =>
   go_wp2_with (first | (at_builtin;refine aV rfl _ _ rfl W.heap.size _ _ P [1] rfl ?qa5 rfl ?qb5 ?c1 ?c2 ?_))
   case qa5=>exact(eO.o.kept (ak _ _))
   case qb5=>exact(cH w1 1).sv
   case c1=>simp only[jeS];omega
   case c2=>rw[jel];omega
   intro v2 w2 o2 b2 _ _;have dz:=ae o2;have aN:=ae ((aP.o.alloc cK _).trans b2);clear o2 b2 x1 x2 x3 x4 x5 x6 x7 x8 x9;obtain⟨x1,x2,x3,x4,x5,x6,x7,x8,x9⟩:=HT.o w2 aN.o;go_wp2_with fail;refine(HL.o _).mono ?_;rintro e w3 ⟨⟨v3,rfl,o3⟩,aS⟩;have dd:=ae o3;have Ln:=ae (dz.o.kept aS);have bN:=ae (ai aN.o aS);have iN:=bN.o.size;clear o3 aS x1 x2 x3 x4 x5 x6 x7 x8 x9 dz;go_wp2_with (first | (at_builtin;refine aV rfl _ _ rfl W.heap.size _ _ (P++[1]) BL rfl ?qa6 rfl ?qb6 ?c3 ?c4 ?_))
   case qa6=>exact Ln.o
   case qb6=>exact dd.o.sv
   case c3=>simp only[jer,jeL,jem];omega
   case c4=>exact iN
   intro v4 w4 o4 b4 _ _;have eY:=ae o4;have cp:=ae (bN.o.trans b4);clear o4 b4;go_wp2_with fail;go_ret
   have HQ:aD w4 W.heap.size v4 SB:=by rw[HE.o];simpa using eY.o
   exact⟨⟨_,rfl,bg HQ (by omega)⟩,ai ce.o cp.o⟩
end Go.Proofs.YtpljdjmpamjkhaaGreatDoor
