import Derived.Test.YtpljdjmpamjkhaaGreatDoorXbk
set_option linter.unusedVariables false
set_option linter.unusedSimpArgs false
set_option maxRecDepth 100000
set_option maxHeartbeats 8000000
namespace Go.Proofs.YtpljdjmpamjkhaaGreatDoor
open Go.RowKit Go.Lib
theorem Pq{w:World}{b off op f:Nat}{c:Cl}{kv:Value}(oV:op=1)(hn:gR w b off op f c kv)(jx:Okc c)(u:Bool)(st:Stt)(kJ:Oks st) :
  Calls Tryz.prog 194 #[.agg #[.bool false,.bool u,.bool false],.pointer (some ⟨b,off,none⟩),.agg #[.int .i64 st.rows,.int .i64 st.nulls,.bool st.some,.bool st.high,.int .u8 (st.lo.1:Int),.int .i64 st.lo.2.1,.string (ak st.lo.2.2),.int .u8 (st.hi.1:Int),.int .i64 st.hi.2.1,.string (ak st.hi.2.2)]] w fun e w'=>e=.returned (b3V (na u op c st))/\Below w.heap.size w w':=by
 have kl:=ae oV;clear oV;have HO:=ae jx;have cU:=ae kJ;have dv:=Flg.new w (false,u,false);have aH:=am w (.cells #[.bool false,.bool u,.bool false] 123);have s1:(w.alloc (.cells #[.bool false,.bool u,.bool false] 123)).heap.size=w.heap.size+1:=jdx _ _;simp only at dv;generalize hA:w.alloc (.cells #[.bool false,.bool u,.bool false] 123)=A at *;have dD:=Stb.new A st;have aE:=am A (.cells #[.int .i64 st.rows,.int .i64 st.nulls,.bool st.some,.bool st.high,.int .u8 (st.lo.1:Int),.int .i64 st.lo.2.1,.string (ak st.lo.2.2),.int .u8 (st.hi.1:Int),.int .i64 st.hi.2.1,.string (ak st.hi.2.2)] 54);have s2:(A.alloc (.cells #[.int .i64 st.rows,.int .i64 st.nulls,.bool st.some,.bool st.high,.int .u8 (st.lo.1:Int),.int .i64 st.lo.2.1,.string (ak st.lo.2.2),.int .u8 (st.hi.1:Int),.int .i64 st.hi.2.1,.string (ak st.hi.2.2)] 54)).heap.size=A.heap.size+1:=jdx _ _;generalize hB:A.alloc (.cells #[.int .i64 st.rows,.int .i64 st.nulls,.bool st.some,.bool st.high,.int .u8 (st.lo.1:Int),.int .i64 st.lo.2.1,.string (ak st.lo.2.2),.int .u8 (st.hi.1:Int),.int .i64 st.hi.2.1,.string (ak st.hi.2.2)] 54)=B at *;have gS:=Flg.new B (false,false,false);have aS:=am B (.cells #[.bool false,.bool false,.bool false] 123);simp only at gS;generalize hC:B.alloc (.cells #[.bool false,.bool false,.bool false] 123)=C at *;have s12:B.heap.size=w.heap.size+1+1:=by omega
 have hws:SX w C b off op f c kv u st:=by
  refine⟨ai (ai aH aE) aS,(dv.kept aE).kept aS,?_,by rw[← s12];exact gS,((hn.kept aH).kept aE).kept aS⟩;rw[← s1];have q:=dD;unfold Stb at *;rw[aS.block _ ((Array.getElem?_eq_some_iff.1 q).1)];exact q
 have HW0:=ae hws;obtain⟨lu,eS,ik,hg3,dO,x0,x1,x2,x3,x4,x5⟩:=hws;clear hn jx kJ dv dD gS aH aE aS lu eS ik hg3;go_enter Tryz.func194,Tryz.ntmps194
 go_wp2_with fail;clear hA hB hC;refine(oL HO.o _).mono ?_;rintro e w1 ⟨rfl,hb⟩;have Ah:=ae (HW0.o.kept hb);clear hb x0 x1 x2 x3 x4 x5 dO HW0
 have HQ:jfp (∀ X,SX w X b off op f c kv u st->(X.cell? ⟨w.heap.size+1,3,none⟩=some (.bool st.high)/\X.cell? ⟨w.heap.size+1,4,none⟩=some (.int .u8 (st.lo.1:Int))/\X.cell? ⟨w.heap.size+1,5,none⟩=some (.int .i64 st.lo.2.1)/\X.cell? ⟨w.heap.size+1,6,none⟩=some (.string (ak st.lo.2.2))/\X.cell? ⟨w.heap.size+1,7,none⟩=some (.int .u8 (st.hi.1:Int))/\X.cell? ⟨w.heap.size+1,8,none⟩=some (.int .i64 st.hi.2.1)/\X.cell? ⟨w.heap.size+1,9,none⟩=some (.string (ak st.hi.2.2)))/\X.cell? ⟨b,off,none⟩=some (.int .u8 (op:Int))):=ae (fun X h=>by
  obtain⟨_,⟨_,_,_,a4⟩,⟨a5,a6,a7⟩,a8,a9,a10⟩:=h.2.2.1.at;simp only[jdZ]at *;exact⟨⟨a4,a5,a6,a7,a8,a9,a10⟩,h.2.2.2.2.2.1⟩)
 obtain⟨⟨z3,z4,z5,z6,z7,z8,z9⟩,zo⟩:=HQ.o _ Ah.o;clear s1 s2 s12;go_wp2_with fail;refine(oL cU.o.1 _).mono ?_;rintro e w2 ⟨rfl,hb⟩;have nB:=ae (Ah.o.kept hb);clear hb z3 z4 z5 z6 z7 z8 z9 zo Ah;obtain⟨⟨z3,z4,z5,z6,z7,z8,z9⟩,zo⟩:=HQ.o _ nB.o;go_wp2_with fail;refine(kB (fV HO.o).val (fV cU.o.1).val _).mono ?_;rintro e w3 ⟨rfl,hb⟩;have yI:=ae (nB.o.kept hb);clear hb z3 z4 z5 z6 z7 z8 z9 zo nB;obtain⟨⟨z3,z4,z5,z6,z7,z8,z9⟩,zo⟩:=HQ.o _ yI.o;obtain⟨m,hm⟩:∃ m,m=cT (bm c) (bm st.lo):=⟨_,rfl⟩;rw[show cv ((bm c).1:Int) (bm c).2.1 (ak (bm c).2.2) ((bm st.lo).1:Int) (bm st.lo).2.1 (ak (bm st.lo).2.2)=m from hm.symm];have HM:=ae hm;clear hm;go_wp2_with fail;refine(oL cU.o.2 _).mono ?_;rintro e w4 ⟨rfl,hb⟩;have Wd:=ae (yI.o.kept hb);clear hb z3 z4 z5 z6 z7 z8 z9 zo yI;obtain⟨⟨z3,z4,z5,z6,z7,z8,z9⟩,zo⟩:=HQ.o _ Wd.o;go_wp2_with fail;refine(kB (fV HO.o).val (fV cU.o.2).val _).mono ?_;rintro e w5 ⟨rfl,hb⟩;have HW5:=ae (Wd.o.kept hb);clear hb z3 z4 z5 z6 z7 z8 z9 zo Wd;obtain⟨⟨z3,z4,z5,z6,z7,z8,z9⟩,zo⟩:=HQ.o _ HW5.o;obtain⟨M,hM⟩:∃ m,m=cT (bm c) (bm st.hi):=⟨_,rfl⟩;rw[show cv ((bm c).1:Int) (bm c).2.1 (ak (bm c).2.2) ((bm st.hi).1:Int) (bm st.hi).2.1 (ak (bm st.hi).2.2)=M from hM.symm];have HMM:=ae hM;clear hM z4 z5 z6 z7 z8 z9 HQ;obtain⟨⟨p0,p1,p2⟩,⟨t0,t1,t2⟩,hpz⟩:=HW5.o.2.1.facts;obtain⟨⟨r0,r1,r2⟩,⟨v0,v1,v2⟩,hrz⟩:=HW5.o.2.2.2.1.facts;have nA:=ae HW5.o.1;have HU:=ae (Nj (fV HO.o));have H1:=ae (jaE u c st);have H2:=ae (jaF u c st);have H3:=ae (jaG u c st);have H4:=ae (jaH u c st);have H5:=ae (jaI u op c st);rw[← HM.o,← HMM.o]at H1 H2 H3;generalize st.high=hi at *;generalize sN (bm c)=uc at *;obtain⟨R,hR⟩:∃ R,R=na u op c st:=⟨_,rfl⟩;have HR:=ae hR;clear hR;by_cases h1:op=1
 ·subst h1
  clear H4 H5 HR H2 H3;obtain hmc | hmc | hmc:m<0∨m=0∨0<m:=by omega
  ·have G1:jfp (decide (0<=m)=false/\decide (m=0)=false/\decide (0<m)=false):=ae (by refine⟨?_,?_,?_⟩<;>simp<;>omega)
   have k1:(m==0)=false:=jdG.2 (by omega);have k2:¬ m>=0:=(by omega);have k3:¬ 0<m:=(by omega);clear hmc;cases hi
   ·skip
    go_wp2_with fail;refine bodyPost_ret (v:=.agg #[.bool true,.bool u,.bool false]) (by simp[results,Tryz.results194,go_sem,r0,r1,r2]<;>omega) rfl ⟨?_,set3 ((nA.o.setCell (p:=⟨w.heap.size,2,none⟩) (jdw _) _).setCell (p:=⟨w.heap.size,0,none⟩) (jdw _) _) (by omega) _ _ _⟩;simp only[H1.o,G1.o.1,G1.o.2.1];rfl
   ·obtain hMc | hMc | hMc:M<0∨M=0∨0<M:=by omega
    ·have G2:jfp (decide (0<=M)=false/\decide (M=0)=false/\decide (0<M)=false):=ae (by refine⟨?_,?_,?_⟩<;>simp<;>omega)
     have l1:(M==0)=false:=jdG.2 (by omega);have l2:¬ M>=0:=(by omega);have l3:¬ 0<M:=(by omega);clear hMc;go_wp2_with fail;refine bodyPost_ret (v:=.agg #[.bool true,.bool u,.bool false]) (by simp[results,Tryz.results194,go_sem,r0,r1,r2]<;>omega) rfl ⟨?_,set3 ((nA.o.setCell (p:=⟨w.heap.size,2,none⟩) (jdw _) _).setCell (p:=⟨w.heap.size,0,none⟩) (jdw _) _) (by omega) _ _ _⟩;simp only[H1.o,G1.o.1,G1.o.2.1,G2.o.2.1,G2.o.2.2];rfl
    ·have G2:jfp (decide (0<=M)=true/\decide (M=0)=true/\decide (0<M)=false):=ae (by refine⟨?_,?_,?_⟩<;>simp<;>omega)
     subst hMc;go_wp2_with fail;refine bodyPost_ret (v:=.agg #[.bool true,.bool u,.bool false]) (by simp[results,Tryz.results194,go_sem,r0,r1,r2]<;>omega) rfl ⟨?_,set3 ((nA.o.setCell (p:=⟨w.heap.size,2,none⟩) (jdw _) _).setCell (p:=⟨w.heap.size,0,none⟩) (jdw _) _) (by omega) _ _ _⟩;simp only[H1.o,G1.o.1,G1.o.2.1,G2.o.2.1,G2.o.2.2];rfl
    ·have G2:jfp (decide (0<=M)=true/\decide (M=0)=false/\decide (0<M)=true):=ae (by refine⟨?_,?_,?_⟩<;>simp<;>omega)
     have l1:(M==0)=false:=jdG.2 (by omega);have l2:M>=0:=(by omega);have l3:0<M:=(by omega);clear hMc;go_wp2_with fail;refine bodyPost_ret (v:=.agg #[.bool true,.bool u,.bool false]) (by simp[results,Tryz.results194,go_sem,r0,r1,r2]<;>omega) rfl ⟨?_,set3 ((nA.o.setCell (p:=⟨w.heap.size,2,none⟩) (jdw _) _).setCell (p:=⟨w.heap.size,0,none⟩) (jdw _) _) (by omega) _ _ _⟩;simp only[H1.o,G1.o.1,G1.o.2.1,G2.o.2.1,G2.o.2.2];rfl
  ·have G1:jfp (decide (0<=m)=true/\decide (m=0)=true/\decide (0<m)=false):=ae (by refine⟨?_,?_,?_⟩<;>simp<;>omega)
   subst hmc;cases hi
   ·skip
    go_wp2_with fail;refine bodyPost_ret (v:=.agg #[.bool true,.bool u,.bool true]) (by simp[results,Tryz.results194,go_sem,r0,r1,r2]<;>omega) rfl ⟨?_,set3 ((nA.o.setCell (p:=⟨w.heap.size,2,none⟩) (jdw _) _).setCell (p:=⟨w.heap.size,0,none⟩) (jdw _) _) (by omega) _ _ _⟩;simp only[H1.o,G1.o.1,G1.o.2.1];rfl
   ·obtain hMc | hMc | hMc:M<0∨M=0∨0<M:=by omega
    ·have G2:jfp (decide (0<=M)=false/\decide (M=0)=false/\decide (0<M)=false):=ae (by refine⟨?_,?_,?_⟩<;>simp<;>omega)
     have l1:(M==0)=false:=jdG.2 (by omega);have l2:¬ M>=0:=(by omega);have l3:¬ 0<M:=(by omega);clear hMc;go_wp2_with fail;refine bodyPost_ret (v:=.agg #[.bool true,.bool u,.bool true]) (by simp[results,Tryz.results194,go_sem,r0,r1,r2]<;>omega) rfl ⟨?_,set3 ((nA.o.setCell (p:=⟨w.heap.size,2,none⟩) (jdw _) _).setCell (p:=⟨w.heap.size,0,none⟩) (jdw _) _) (by omega) _ _ _⟩;simp only[H1.o,G1.o.1,G1.o.2.1,G2.o.2.1,G2.o.2.2];rfl
    ·have G2:jfp (decide (0<=M)=true/\decide (M=0)=true/\decide (0<M)=false):=ae (by refine⟨?_,?_,?_⟩<;>simp<;>omega)
     subst hMc;go_wp2_with fail;have Gc:=HW5.o.2.1.set 2 (by omega);have Cf:Below w.heap.size w (w5.setCell ⟨w.heap.size,2,none⟩ (.bool true)):=nA.o.setCell (p:=⟨w.heap.size,2,none⟩) (jdw _) (.bool true)
     have VN:Flg (w5.setCell ⟨w.heap.size,2,none⟩ (.bool true)) (w.heap.size+1+1) (false,false,false):=by
      have q:=HW5.o.2.2.2.1;unfold Flg at *;rw[heap_setCell_other w5 ⟨w.heap.size,2,none⟩ (w.heap.size+1+1) _ (show w.heap.size+1+1≠w.heap.size by omega)];exact q
     have LR:=ae Gc;have yy:=ae VN;have ms:=ae Cf;clear Gc VN Cf p0 p1 p2 t0 t1 t2 r0 r1 r2 v0 v1 v2 z3 zo;refine(HU.o _).mono ?_;rintro e w6 ⟨rfl,ey⟩;obtain⟨⟨p0,p1,p2⟩,⟨t0,t1,t2⟩,_⟩:=(LR.o.kept ey).facts;obtain⟨⟨r0,r1,r2⟩,⟨v0,v1,v2⟩,_⟩:=(yy.o.kept ey).facts;have ja:=ae (ai ms.o ey);clear ey;simp only[setB,Nat.reduceEqDiff,if_true,if_false]at p0 p1 p2;go_wp2_with fail;refine bodyPost_ret (v:=.agg #[.bool (!uc),.bool u,.bool true]) (by simp[results,Tryz.results194,go_sem,r0,r1,r2]<;>omega) rfl ⟨?_,set3 (ja.o.setCell (p:=⟨w.heap.size,0,none⟩) (jdw _) _) (by omega) _ _ _⟩;simp only[H1.o,G1.o.1,G1.o.2.1,G2.o.2.1,G2.o.2.2];rfl
    ·have G2:jfp (decide (0<=M)=true/\decide (M=0)=false/\decide (0<M)=true):=ae (by refine⟨?_,?_,?_⟩<;>simp<;>omega)
     have l1:(M==0)=false:=jdG.2 (by omega);have l2:M>=0:=(by omega);have l3:0<M:=(by omega);clear hMc;go_wp2_with fail;refine bodyPost_ret (v:=.agg #[.bool true,.bool u,.bool false]) (by simp[results,Tryz.results194,go_sem,r0,r1,r2]<;>omega) rfl ⟨?_,set3 ((nA.o.setCell (p:=⟨w.heap.size,2,none⟩) (jdw _) _).setCell (p:=⟨w.heap.size,0,none⟩) (jdw _) _) (by omega) _ _ _⟩;simp only[H1.o,G1.o.1,G1.o.2.1,G2.o.2.1,G2.o.2.2];rfl
  ·have G1:jfp (decide (0<=m)=true/\decide (m=0)=false/\decide (0<m)=true):=ae (by refine⟨?_,?_,?_⟩<;>simp<;>omega)
   have k1:(m==0)=false:=jdG.2 (by omega);have k2:m>=0:=(by omega);have k3:0<m:=(by omega);clear hmc;cases hi
   ·skip
    go_wp2_with fail;refine bodyPost_ret (v:=.agg #[.bool true,.bool u,.bool true]) (by simp[results,Tryz.results194,go_sem,r0,r1,r2]<;>omega) rfl ⟨?_,set3 ((nA.o.setCell (p:=⟨w.heap.size,2,none⟩) (jdw _) _).setCell (p:=⟨w.heap.size,0,none⟩) (jdw _) _) (by omega) _ _ _⟩;simp only[H1.o,G1.o.1,G1.o.2.1];rfl
   ·obtain hMc | hMc | hMc:M<0∨M=0∨0<M:=by omega
    ·have G2:jfp (decide (0<=M)=false/\decide (M=0)=false/\decide (0<M)=false):=ae (by refine⟨?_,?_,?_⟩<;>simp<;>omega)
     have l1:(M==0)=false:=jdG.2 (by omega);have l2:¬ M>=0:=(by omega);have l3:¬ 0<M:=(by omega);clear hMc;go_wp2_with fail;refine bodyPost_ret (v:=.agg #[.bool true,.bool u,.bool true]) (by simp[results,Tryz.results194,go_sem,r0,r1,r2]<;>omega) rfl ⟨?_,set3 ((nA.o.setCell (p:=⟨w.heap.size,2,none⟩) (jdw _) _).setCell (p:=⟨w.heap.size,0,none⟩) (jdw _) _) (by omega) _ _ _⟩;simp only[H1.o,G1.o.1,G1.o.2.1,G2.o.2.1,G2.o.2.2];rfl
    ·have G2:jfp (decide (0<=M)=true/\decide (M=0)=true/\decide (0<M)=false):=ae (by refine⟨?_,?_,?_⟩<;>simp<;>omega)
     subst hMc;go_wp2_with fail;refine bodyPost_ret (v:=.agg #[.bool true,.bool u,.bool true]) (by simp[results,Tryz.results194,go_sem,r0,r1,r2]<;>omega) rfl ⟨?_,set3 ((nA.o.setCell (p:=⟨w.heap.size,2,none⟩) (jdw _) _).setCell (p:=⟨w.heap.size,0,none⟩) (jdw _) _) (by omega) _ _ _⟩;simp only[H1.o,G1.o.1,G1.o.2.1,G2.o.2.1,G2.o.2.2];rfl
    ·have G2:jfp (decide (0<=M)=true/\decide (M=0)=false/\decide (0<M)=true):=ae (by refine⟨?_,?_,?_⟩<;>simp<;>omega)
     have l1:(M==0)=false:=jdG.2 (by omega);have l2:M>=0:=(by omega);have l3:0<M:=(by omega);clear hMc;go_wp2_with fail;refine bodyPost_ret (v:=.agg #[.bool true,.bool u,.bool false]) (by simp[results,Tryz.results194,go_sem,r0,r1,r2]<;>omega) rfl ⟨?_,set3 ((nA.o.setCell (p:=⟨w.heap.size,2,none⟩) (jdw _) _).setCell (p:=⟨w.heap.size,0,none⟩) (jdw _) _) (by omega) _ _ _⟩;simp only[H1.o,G1.o.1,G1.o.2.1,G2.o.2.1,G2.o.2.2];rfl
 exact absurd kl.o h1
theorem uz{w:World}{q si b off op f:Nat}{c:Cl}{kv fv rv:Value}{l:List Fd}{r:List Stt}(oV:op=1)(hr:td w q si fv rv l r)(hn:gR w b off op f c kv)(jx:Okc c)(lH:∀ x∈r,Oks x) :
  Calls Tryz.prog 160 #[.pointer (some ⟨q,0,none⟩),.pointer (some ⟨b,off,none⟩)] w fun e w'=>e=.returned (b3V (kC l r op f c))/\Below w.heap.size w w':=by
 have kl:=ae oV;clear oV;have HO:=ae jx;have ng:=ae lH;have YE:=ae (fun h=>EK (l:=l) (r:=r) (op:=op) (f:=f) (c:=c) h);have UY:=ae (fun(j:Nat) h hj=>EL (l:=l) (r:=r) (op:=op) (f:=f) (c:=c) (j:=j) h hj);have Fw:=ae (fun(j:Nat) h hj=>NZ (l:=l) (r:=r) (op:=op) (f:=f) (c:=c) (j:=j) h hj);generalize kC l r op f c=R at *;have dv:=Flg.new w (false,false,false);have aH:=am w (.cells #[.bool false,.bool false,.bool false] 123);simp only at dv;have aQ:=ae aH;have HR:=ae (hr.kept aH);have HN:=ae (hn.kept aH);have gp:=ae dv;have jw:(w.alloc (.cells #[.bool false,.bool false,.bool false] 123)).heap.size=w.heap.size+1:=jdx _ _;have qn:=ae jw;generalize hA:w.alloc (.cells #[.bool false,.bool false,.bool false] 123)=A at *;clear hr hn dv aH jx lH jw;have rY:=ae (fun(U:World) (hU:Below A.heap.size A U)=>sL (HR.o.2.2.2.2.1.kept hU) si f);obtain⟨QF,y0,y1,y2,Ak,iO⟩:=HR.o;obtain⟨dO,x0,x1,x2,x3,x4,x5⟩:=HN.o;obtain⟨fa,fcap,rfl,hfc,VX⟩:=Ak.form;obtain⟨ra,rcap,rfl,hrc,hrm⟩:=iO.form;clear Ak iO;have ZP:∀ s:bO (fun x=>Below A.heap.size A x),s.w.cell? ⟨q,0,none⟩=some (.int .u32 (si:Int)):=fun s=>(s.ok.cell (p:=⟨q,0,none⟩) QF).trans y0
 have Am:∀ s:bO (fun x=>Below A.heap.size A x),s.w.cell? ⟨q,1,none⟩=some (.slice fa l.length fcap):=fun s=>(s.ok.cell (p:=⟨q,1,none⟩) QF).trans y1
 have BT:∀ s:bO (fun x=>Below A.heap.size A x),s.w.cell? ⟨b,off+1,none⟩=some (.int .u32 (f:Int)):=fun s=>(s.ok.cell (p:=⟨b,off+1,none⟩) dO).trans x1
 haveI:Nonempty (bO (fun x=>Below A.heap.size A x)):=⟨bO.mk A (jdv _ _)⟩
 go_enter Tryz.func160,Tryz.ntmps160
 go_wp2_with fail;refine cz (S:=fun x=>Below A.heap.size A x) (by kernel_rfl) (by kernel_rfl) (by first | exact(jdv _ _).drew | (rw[hA];exact(jdv _ _).drew)) ?_;repeat (go_big_quiet_step ((go_at_call 193;exact(rY.o _ (bO.ok _)).mono (fun e w' h=>⟨h.1,bO.mk w' (ai (bO.ok _) h.2),rfl⟩))))
 refine wpQuiet_nil ?_;rintro _ ⟨s2,rfl⟩;obtain⟨w2,qs⟩:∃ x,x=s2.w:=⟨_,rfl⟩;have aE:=s2.ok;rw[← qs]at aE ⊢;have aO:=ae (ai aQ.o aE);have jb:=ae (HR.o.kept aE);have FR:=ae (HN.o.kept aE);have gM:=ae (gp.o.kept aE);have LU:jfp (w.heap.size<w2.heap.size):=ae (by have:=aE.size;have:=qn.o;omega);clear qs aE ZP Am BT x0 x1 x2 x3 x4 x5 y0 y1 y2 HR HN gp hA QF dO;obtain⟨⟨p0,p1,p2⟩,⟨t0,t1,t2⟩,_⟩:=gM.o.facts;cases hp:iL l f with
 | none =>
  have HA:=ae (YE.o hp);simp only[Option.isSome_none,Option.getD_none];clear hp YE UY Fw;go_wp2_with fail;refine bodyPost_ret (v:=.agg #[.bool true,.bool true,.bool true]) (by simp[results,Tryz.results160,go_sem,p0,p1,p2]) rfl ⟨?_,set3 aO.o (jdw _) _ _ _⟩;rw[HA.o];rfl
 | some j =>
  simp only[Option.isSome_some,Option.getD_some];by_cases hj:j<r.length
  ·have HA:=ae (Fw.o j hp hj)
   obtain⟨QF,y0,y1,y2,_,iO⟩:=jb.o;have hj':¬ (j:Int)>=(r.length:Int):=(by omega);have LN:(j:Int)<(r.length:Int):=(by omega);obtain⟨rb,roff,rfl,kJ⟩:=iO.at hj;have HOS:=ae (ng.o r[j] (jdA hj));generalize r[j]=st at *;have Vh:=ae kJ;obtain⟨srows,snulls,ssome,shigh,slo,shi⟩:=st;have hst':=kJ;obtain⟨hrb,⟨d0,d1,d2,d3⟩,⟨d4,d5,d6⟩,d7,d8,d9⟩:=hst';simp only at d0 d1 d2 d3 d4 d5 d6 d7 d8 d9;have bP:=ae (ai aO.o (am w2 (.cells #[.int .i64 srows,.int .i64 snulls,.bool ssome,.bool shigh,.int .u8 (slo.1:Int),.int .i64 slo.2.1,.string (ak slo.2.2),.int .u8 (shi.1:Int),.int .i64 shi.2.1,.string (ak shi.2.2)] 54)));have aS:=am w2 (.cells #[.int .i64 srows,.int .i64 snulls,.bool ssome,.bool shigh,.int .u8 (slo.1:Int),.int .i64 slo.2.1,.string (ak slo.2.2),.int .u8 (shi.1:Int),.int .i64 shi.2.1,.string (ak shi.2.2)] 54);have hS3:=Stb.new w2 (⟨srows,snulls,ssome,shigh,slo,shi⟩:Stt);simp only at hS3;have HN3:=ae (FR.o.kept aS);have qm:=ae (gM.o.kept aS);have s3:(w2.alloc (.cells #[.int .i64 srows,.int .i64 snulls,.bool ssome,.bool shigh,.int .u8 (slo.1:Int),.int .i64 slo.2.1,.string (ak slo.2.2),.int .u8 (shi.1:Int),.int .i64 shi.2.1,.string (ak shi.2.2)] 54)).heap.size=w2.heap.size+1:=jdx _ _;have ny:=ae hS3;generalize hE:w2.alloc (.cells #[.int .i64 srows,.int .i64 snulls,.bool ssome,.bool shigh,.int .u8 (slo.1:Int),.int .i64 slo.2.1,.string (ak slo.2.2),.int .u8 (shi.1:Int),.int .i64 shi.2.1,.string (ak shi.2.2)] 54)=E at *;have HEZ:jfp (E.heap.size=w2.heap.size+1):=ae s3;clear iO kJ hp YE UY Fw ng aS s3 hS3;obtain⟨dO,x0,x1,x2,x3,x4,x5⟩:=HN3.o;obtain⟨_,⟨e0,e1,e2,e3⟩,⟨e4,e5,e6⟩,e7,e8,e9⟩:=ny.o.at;simp only[jdZ]at e0 e1 e2 e3 e4 e5 e6 e7 e8 e9;obtain⟨⟨p0',p1',p2'⟩,⟨t0',t1',t2'⟩,_⟩:=qm.o.facts;by_cases h5:op=5
   ·exact absurd h5 (by rw[kl.o];omega)
   ·have n5:((op:Int)==5)=false:=jdG.2 (by omega)
    have HAX:jfp (R=if ssome=true then na (decide (0<snulls)) op c (⟨srows,snulls,ssome,shigh,slo,shi⟩:Stt) else (false,decide (0<snulls),false)):=ae (by rw[HA.o];unfold Ho;rw[jdt h5]);clear HA h5;have hfF:=Flg.new E (false,decide (0<snulls),false);have hbF:=am E (.cells #[.bool false,.bool (decide (0<snulls)),.bool false] 123);simp only at hfF;have sF:(E.alloc (.cells #[.bool false,.bool (decide (0<snulls)),.bool false] 123)).heap.size=E.heap.size+1:=jdx _ _;have Qt:=ae hfF;have HNF:=ae (HN3.o.kept hbF);have uG:jfp (∀ X,Below (E.alloc (.cells #[.bool false,.bool (decide (0<snulls)),.bool false] 123)).heap.size (E.alloc (.cells #[.bool false,.bool (decide (0<snulls)),.bool false] 123)) X->Hr X w2.heap.size 0 (⟨srows,snulls,ssome,shigh,slo,shi⟩:Stt)/\Flg X w.heap.size (false,false,false)/\Flg X E.heap.size (false,decide (0<snulls),false)):=ae (fun X h=>⟨(ny.o.at.kept hbF).kept h,(qm.o.kept hbF).kept h,Qt.o.kept h⟩);have cx:=ae (ai bP.o hbF);obtain⟨⟨_,⟨g0,g1,g2,g3⟩,⟨g4,g5,g6⟩,g7,g8,g9⟩,hfg,hfh⟩:=uG.o _ (jdv _ _);simp only[jdZ]at g0 g1 g2 g3 g4 g5 g6 g7 g8 g9;obtain⟨⟨u0,u1,u2⟩,⟨s0,s1,s2'⟩,_⟩:=hfg.facts;obtain⟨⟨v0,v1,v2⟩,⟨q0',q1',q2'⟩,hvz⟩:=hfh.facts;clear hfF hbF sF hfg hfh;have HEW:jfp (w.heap.size<E.heap.size):=ae (by have:=LU.o;have:=HEZ.o;omega);have fF:¬ E.heap.size=w.heap.size:=by have:=HEW.o;omega
    have yF:¬ w.heap.size=E.heap.size:=by have:=HEW.o;omega
    cases ssome
    ·have HAX':jfp (R=(false,decide (0<snulls),false)):=ae (by rw[HAX.o];rfl)
     go_wp2_with fail;have xN:∀(X:World) (o:Obj) (i:Nat),w.heap.size<X.heap.size->(X.alloc o).cell? ⟨w.heap.size,i,none⟩=X.cell? ⟨w.heap.size,i,none⟩:=fun X o i h=>(am X o).cell h
     have hew:=HEW.o;have Kz:=set3 bP.o (jdw _) (.bool false) (.bool (decide (0<snulls))) (.bool false);refine bodyPost_ret (v:=.agg #[.bool false,.bool (decide (0<snulls)),.bool false]) (by simp[results,Tryz.results160,go_sem,xN,hew,p0',p1',p2']) rfl ⟨?_,Kz.alloc Kz.size _⟩;rw[HAX'.o];rfl
    ·have HAX':jfp (R=na (decide (0<snulls)) op c ⟨srows,snulls,true,shigh,slo,shi⟩):=ae (by rw[HAX.o];rfl)
     have HC:=ae (fun(U:World) (hU:Below (E.alloc (.cells #[.bool false,.bool (decide (0<snulls)),.bool false] 123)).heap.size (E.alloc (.cells #[.bool false,.bool (decide (0<snulls)),.bool false] 123)) U)=>Pq kl.o (HNF.o.kept hU) HO.o (decide (0<snulls)) ⟨srows,snulls,true,shigh,slo,shi⟩ HOS.o);simp only at HC;generalize na (decide (0<snulls)) op c ⟨srows,snulls,true,shigh,slo,shi⟩=WM at *;clear HAX;go_wp2_with fail;refine(HC.o _ (jdv _ _)).mono ?_;rintro e w5 ⟨rfl,bD⟩;obtain⟨_,hfg,hfh⟩:=uG.o _ bD;have aR:=ae (ai cx.o bD);clear bD u0 u1 u2 s0 s1 s2' v0 v1 v2 q0' q1' q2' g0 g1 g2 g3 g4 g5 g6 g7 g8 g9 hE e0 e1 e2 e3 e4 e5 e6 e7 e8 e9 p0' p1' p2' t0' t1' t2' x0 x1 x2 x3 x4 x5 hvz;obtain⟨⟨u0,u1,u2⟩,⟨s0,s1,s2'⟩,_⟩:=hfg.facts;obtain⟨⟨v0,v1,v2⟩,⟨q0',q1',q2'⟩,hvz⟩:=hfh.facts;clear hfg hfh;unfold b3V;go_wp2_with fail;refine bodyPost_ret (v:=.agg #[.bool WM.1,.bool WM.2.1,.bool WM.2.2]) (by simp[results,Tryz.results160,go_sem,u0,u1,u2,fF,yF]) rfl ⟨?_,set3 (set3 aR.o (by have:=HEW.o;omega) _ _ _) (jdw _) _ _ _⟩;rw[HAX'.o];rfl
  ·have HA:=ae (UY.o j hp hj)
   obtain⟨_,y0,y1,y2,_,iO⟩:=jb.o;have hj':(j:Int)>=(r.length:Int):=(by omega);clear hp YE UY Fw iO;go_wp2_with fail;refine bodyPost_ret (v:=.agg #[.bool true,.bool true,.bool true]) (by simp[results,Tryz.results160,go_sem,p0,p1,p2]) rfl ⟨?_,set3 aO.o (jdw _) _ _ _⟩;rw[HA.o];rfl
theorem Ul{q si:Nat}{fv rv:Value}{l:List Fd}{r:List Stt}(lH:∀ x∈r,Oks x){op f:Nat}{c:Cl}{ks:List PT}(oV:op=1)(jx:Okp (.node op f c ks))(w:World)(b off:Nat)(hr:td w q si fv rv l r)(oo:jG w b off (.node op f c ks)) :
  Calls Tryz.prog 112 #[.pointer (some ⟨q,0,none⟩),.pointer (some ⟨b,off,none⟩)] w fun e w'=>e=.returned (b3V (oX l r (.node op f c ks)))/\Below w.heap.size w w':=by
 have kl:=ae oV;clear oV;have ng:=ae lH;simp only[Okp]at jx;obtain⟨_,_,ZR,FT⟩:=jx;have Vt:=ae ZR;have LS:=ae FT.get;have Ys:=ae hr;obtain⟨a,cap,KI,KJ⟩:=oo.open;have HN0:=ae KI;have HK0:=ae KJ;have dv:=Flg.new w (false,false,false);have aH:=am w (.cells #[.bool false,.bool false,.bool false] 123);simp only at dv;have sA:(w.alloc (.cells #[.bool false,.bool false,.bool false] 123)).heap.size=w.heap.size+1:=jdx _ _;have lF:=ae sA;generalize hA:w.alloc (.cells #[.bool false,.bool false,.bool false] 123)=A at *;have gp:=ae dv;have aQ:=ae aH;have rV:=KI.kept aH;obtain⟨_,_,KF,hkc,Vu⟩:=KJ.form;simp only[Value.slice.injEq]at KF;obtain⟨rfl,_,rfl⟩:=KF;have hkm':ks.length<=9223372036854775807:=by unfold maxLen at Vu;omega
 obtain⟨dO,x0,x1,x2,x3,x4,x5⟩:=rV;clear hr oo KI KJ ZR FT lH Vu dv aH sA;have HD:jfp (oX l r (.node op f c ks)=if op=6 then mayAnd l r ks (false,false,true) else if op=7 then mayOr l r ks (true,false,false) else if op=8 then mayNot l r ks else kC l r op f c):=ae (by simp only[oX]);generalize oX l r (.node op f c ks)=R at *;have h6:¬ op=6:=by rw[kl.o];omega
 have h7:¬ op=7:=by rw[kl.o];omega
 have h8:¬ op=8:=by rw[kl.o];omega
 have n6:((op:Int)==6)=false:=jdG.2 (by omega);have n7:((op:Int)==7)=false:=jdG.2 (by omega);rw[jdt h6,jdt h7]at HD;obtain⟨⟨p0,p1,p2⟩,⟨t0,t1,t2⟩,hpz⟩:=gp.o.facts;have n8:((op:Int)==8)=false:=jdG.2 (by omega);rw[jdt h8]at HD;clear h6 h7 h8;have HC:=ae (uz kl.o (Ys.o.kept aQ.o) (HN0.o.kept aQ.o) Vt.o ng.o);generalize kC l r op f c=ev at *;obtain⟨ev0,ev1,ev2⟩:=ev;go_enter Tryz.func112,Tryz.ntmps112
 go_wp2_with fail;refine HC.o.mono ?_;rintro e w2 ⟨rfl,aE⟩;have aO:=ae (ai aQ.o aE);have gM:=ae (gp.o.kept aE);obtain⟨⟨r0,r1,r2⟩,⟨s0,s1,s2⟩,_⟩:=gM.o.facts;clear aE p0 p1 p2 t0 t1 t2 hA;unfold b3V;go_wp2_with fail;refine bodyPost_ret (v:=.agg #[.bool ev0,.bool ev1,.bool ev2]) (by simp[results,Tryz.results112,go_sem,r0,r1,r2]) rfl ⟨?_,set3 aO.o (jdw _) _ _ _⟩;rw[HD.o];rfl
theorem may1{w:World}{op f si:Nat}{c:Cl}{ks:List PT}{kv fv rv:Value}{l:List Fd}{r:List Stt}(oV:op=1)(hk:sO w kv ks)(jx:Okp (.node op f c ks))(hs:Sf w fv l)(hv:Ss w rv r)(lH:∀ x∈r,Oks x) :
  Calls Tryz.prog 66 #[.agg #[.int .u8 (op:Int),.int .u32 (f:Int),.int .u8 (c.1:Int),.int .i64 c.2.1,.string (ak c.2.2),kv],.agg #[.int .u32 (si:Int),fv],rv] w fun e w'=>e=.returned (b3V (oX l r (.node op f c ks)))/\Below w.heap.size w w':=by
 have HC:=ae (fun(U:World) (b off q:Nat) hr hl=>Ul (q:=q) (si:=si) (fv:=fv) (rv:=rv) (l:=l) lH oV jx U b off hr hl);have kl:=ae oV;clear oV;have HK:=ae hk;have HS:=ae hs;have HV:=ae hv;generalize oX l r (.node op f c ks)=R at *;obtain⟨R0,R1,R2⟩:=R;obtain⟨ka,kcap,rfl,_,_⟩:=hk.form;obtain⟨fa,fcap,rfl,_,_⟩:=hs.form;obtain⟨ra,rcap,rfl,_,_⟩:=hv.form;clear hk hs hv jx lH;have hn:=wR w op f c (.slice ka ks.length kcap);have aH:=am w (.cells #[.int .u8 (op:Int),.int .u32 (f:Int),.int .u8 (c.1:Int),.int .i64 c.2.1,.string (ak c.2.2),.slice ka ks.length kcap] 63);generalize hA:w.alloc (.cells #[.int .u8 (op:Int),.int .u32 (f:Int),.int .u8 (c.1:Int),.int .i64 c.2.1,.string (ak c.2.2),.slice ka ks.length kcap] 63)=A at *;have aE:=am A (.cells #[.int .u32 (si:Int),.slice fa l.length fcap] 25);obtain⟨e0,e1⟩:=bx A (.int .u32 (si:Int)) (.slice fa l.length fcap) 25;have hzA:A.heap.size<(A.alloc (.cells #[.int .u32 (si:Int),.slice fa l.length fcap] 25)).heap.size:=by rw[jdx];omega
 generalize hB:A.alloc (.cells #[.int .u32 (si:Int),.slice fa l.length fcap] 25)=B at *;have aS:=am B (.cells #[.bool false,.bool false,.bool false] 123);have gS:=Flg.new B (false,false,false);simp only at gS;have g0:=(aS.cell (p:=⟨A.heap.size,0,none⟩) hzA).trans e0;have g1:=(aS.cell (p:=⟨A.heap.size,1,none⟩) hzA).trans e1;generalize hC:B.alloc (.cells #[.bool false,.bool false,.bool false] 123)=C at *;have bK:=am C (.cells #[.int .u32 (si:Int),.slice fa l.length fcap,.slice ra r.length rcap] 175);obtain⟨k0,k1,k2⟩:=dx C (.int .u32 (si:Int)) (.slice fa l.length fcap) (.slice ra r.length rcap) 175;have hz:C.heap.size<(C.alloc (.cells #[.int .u32 (si:Int),.slice fa l.length fcap,.slice ra r.length rcap] 175)).heap.size:=by rw[jdx];omega
 generalize hD:C.alloc (.cells #[.int .u32 (si:Int),.slice fa l.length fcap,.slice ra r.length rcap] 175)=D at *;have lu:Below w.heap.size w D:=ai (ai (ai aH aE) aS) bK;have Wg:jfp (td D C.heap.size si (.slice fa l.length fcap) (.slice ra r.length rcap) l r):=ae ⟨hz,k0,k1,k2,HS.o.kept lu,HV.o.kept lu⟩;have rS:jfp (jG D w.heap.size 0 (.node op f c ks)):=ae (jG.shut (((hn.kept aE).kept aS).kept bK) (HK.o.kept lu));have nA:=ae lu;have We:=ae (gS.kept bK);have yE:jfp (w.heap.size<=B.heap.size):=ae (by have:=aH.size;have:=aE.size;omega);clear hn aH aE aS bK lu k0 k1 k2 hz gS;go_enter Tryz.func66,Tryz.ntmps66
 go_wp2_with fail;refine(HC.o _ _ _ _ Wg.o rS.o).mono ?_;rintro e w2 ⟨rfl,aE⟩;have aO:=ae (ai nA.o aE);obtain⟨⟨r0,r1,r2⟩,⟨s0,s1,s2⟩,_⟩:=(We.o.kept aE).facts;clear aE hA hB hC hD e0 e1 g0 g1;unfold b3V;go_wp2_with fail;refine bodyPost_ret (v:=.agg #[.bool R0,.bool R1,.bool R2]) (by simp[results,Tryz.results66,go_sem,r0,r1,r2]) rfl ⟨?_,set3 aO.o yE.o _ _ _⟩;rfl
theorem held1{w:World}{b off op f:Nat}{c x:Cl}{kv:Value}(oV:op=1)(hn:gR w b off op f c kv)(jx:Okc c)(hl:c.2.2.length<=300)(hf:aT x):Calls Tryz.prog 222 #[.pointer (some ⟨b,off,none⟩),cY x] w fun e w'=>e=.returned (.int .u8 (SU op c x:Int))/\Below w.heap.size w w':=by
 have kl:=ae oV;clear oV;have HF:=ae hf;have HO:=ae jx;have HL:=ae hl;have HN:=ae hn;obtain⟨dO,x0,x1,x2,x3,x4,x5⟩:=hn;clear hf jx hl;go_enter Tryz.func222,Tryz.ntmps222
 go_wp2_with fail;refine(oL HO.o _).mono ?_;rintro e w1 ⟨rfl,aH⟩;have aQ:=ae aH;clear x0 x1 x2 x3 x4 x5 dO;have Kp:=ae (HN.o.kept aH);clear aH HN;go_wp2_with fail;refine(kB HF.o.val (fV HO.o).val _).mono ?_;rintro e w2 ⟨rfl,aE⟩;have aO:=ae (ai aQ.o aE);obtain⟨dO,x0,x1,x2,x3,x4,x5⟩:=Kp.o.kept aE;clear aE aQ Kp;obtain⟨m,hm⟩:∃ m,m=cT x (bm c):=⟨_,rfl⟩;have py:cv (x.1:Int) x.2.1 (ak x.2.2) ((bm c).1:Int) (bm c).2.1 (ak (bm c).2.2)=m:=hm.symm;rw[py];have HM:=ae hm;clear hm py;by_cases h1:op=1
 ·subst h1
  go_wp2_with fail;refine(Ll _ _).mono ?_;rintro e w3 ⟨rfl,rfl⟩;go_wp2_with fail;go_ret
  refine⟨?_,aO.o⟩;rw[HM.o];rfl
 exact absurd kl.o h1
theorem xv{w:World}{q si b off op f:Nat}{c:Cl}{kv fv rv:Value}{l:List Fd}{r:List Cl}(oV:op=1)(hr:zD w q si fv rv l r)(hn:gR w b off op f c kv)(jx:Okc c)(hl:c.2.2.length<=300)(lH:∀ x∈r,aT x) :
  Calls Tryz.prog 196 #[.pointer (some ⟨q,0,none⟩),.pointer (some ⟨b,off,none⟩)] w fun e w'=>e=.returned (.int .u8 (pr l r op f c:Int))/\Below w.heap.size w w':=by
 have kl:=ae oV;clear oV;have HR:=ae hr;have HN:=ae hn;have HO:=ae jx;have HL:=ae hl;have ng:=ae lH;have rY:=ae (fun(U:World) (hU:Below w.heap.size w U)=>sL (hr.2.2.2.2.1.kept hU) si f);have YE:=ae (fun h=>Hp (l:=l) (r:=r) (op:=op) (f:=f) (c:=c) h);have UY:=ae (fun(j:Nat) h hj=>Hq (l:=l) (r:=r) (op:=op) (f:=f) (c:=c) (j:=j) h hj);have Fw:=ae (fun(j:Nat) h hj=>SW (l:=l) (r:=r) (op:=op) (f:=f) (c:=c) (j:=j) h hj);generalize pr l r op f c=R at *;obtain⟨QF,y0,y1,y2,Ak,iO⟩:=hr;obtain⟨dO,x0,x1,x2,x3,x4,x5⟩:=hn;obtain⟨fa,fcap,rfl,hfc,VX⟩:=Ak.form;obtain⟨ra,rcap,rfl,hrc,hrm⟩:=iO.form1;rw[aG]at *;clear Ak iO jx hl lH;have ZP:∀ s:bO (fun x=>Below w.heap.size w x),s.w.cell? ⟨q,0,none⟩=some (.int .u32 (si:Int)):=fun s=>(s.ok.cell (p:=⟨q,0,none⟩) QF).trans y0
 have Am:∀ s:bO (fun x=>Below w.heap.size w x),s.w.cell? ⟨q,1,none⟩=some (.slice fa l.length fcap):=fun s=>(s.ok.cell (p:=⟨q,1,none⟩) QF).trans y1
 have BT:∀ s:bO (fun x=>Below w.heap.size w x),s.w.cell? ⟨b,off+1,none⟩=some (.int .u32 (f:Int)):=fun s=>(s.ok.cell (p:=⟨b,off+1,none⟩) dO).trans x1
 haveI:Nonempty (bO (fun x=>Below w.heap.size w x)):=⟨bO.mk w (jdv _ _)⟩
 go_enter Tryz.func196,Tryz.ntmps196
 go_wp2_with fail;refine cz (S:=fun x=>Below w.heap.size w x) (by kernel_rfl) (by kernel_rfl) (jdv _ _).drew ?_;repeat (go_big_quiet_step ((go_at_call 193;exact(rY.o _ (bO.ok _)).mono (fun e w' h=>⟨h.1,bO.mk w' (ai (bO.ok _) h.2),rfl⟩))))
 refine wpQuiet_nil ?_;rintro _ ⟨s2,rfl⟩;obtain⟨w2,qs⟩:∃ x,x=s2.w:=⟨_,rfl⟩;have aE:=s2.ok;rw[← qs]at aE ⊢;have aO:=ae aE;have jb:=ae (HR.o.kept aE);have FR:=ae (HN.o.kept aE);have bv:=aE.size;clear qs aE ZP Am BT x0 x1 x2 x3 x4 x5 y0 y1 y2 HR HN;cases hp:iL l f with
 | none =>
  have HA:=ae (YE.o hp);simp only[Option.isSome_none,Option.getD_none];clear hp YE UY Fw;go_wp2_with fail;go_ret
  rw[HA.o];exact⟨rfl,aO.o⟩
 | some j =>
  simp only[Option.isSome_some,Option.getD_some];by_cases hj:j<r.length
  ·have HA:=ae (Fw.o j hp hj)
   obtain⟨_,y0,y1,y2,_,iO⟩:=jb.o;have hj':¬ (j:Int)>=(r.length:Int):=(by omega);have LN:(j:Int)<(r.length:Int):=(by omega);obtain⟨rb,roff,rfl,hrb,z⟩:=iO.at1 (cN hj);have HF:=ae (ng.o r[j] (jdA hj));generalize r[j]=x at *;have FY:=ae iO;clear iO hp YE UY Fw ng;go_wp2_with fail;refine(Lk HF.o _).mono ?_;rintro e w3 ⟨rfl,rfl⟩;have HNK:=FR.o;obtain⟨hb0',x0,x1,x2,x3,x4,x5⟩:=HNK;by_cases h5:op=5
   ·subst h5
    go_wp2_with fail;refine(Ll _ _).mono ?_;rintro e w4 ⟨rfl,rfl⟩;go_wp2_with fail;go_ret
    refine⟨?_,aO.o⟩;rw[HA.o];unfold DN;rw[jdu rfl];have e1:((x.1:Int)==0)=decide (x.1=0):=by rw[jeX];simp
    rw[e1];rfl
   ·have n5:((op:Int)==5)=false:=jdG.2 (by omega)
    by_cases hx:x.1=0
    ·have hx':((x.1:Int)==0)=true:=by rw[hx];rfl
     have HA':jfp (R=1):=ae (by rw[HA.o];unfold DN;rw[jdt h5,jdu hx]);clear h5 hx;go_wp2_with fail;go_ret
     rw[HA'.o];exact⟨rfl,aO.o⟩
    ·have hx':((x.1:Int)==0)=false:=jdG.2 (by omega)
     have HA':jfp (R=SU op c x):=ae (by rw[HA.o];unfold DN;rw[jdt h5,jdt hx]);clear h5 hx;go_wp2_with fail;refine(held1 kl.o FR.o HO.o HL.o HF.o).mono ?_;rintro e w4 ⟨rfl,bK⟩;have cx:=ae bK;clear bK;go_wp2_with fail;go_ret
     rw[HA'.o];exact⟨rfl,ai aO.o cx.o⟩
  ·have HA:=ae (UY.o j hp hj)
   obtain⟨_,y0,y1,y2,_,iO⟩:=jb.o;have hj':(j:Int)>=(r.length:Int):=(by omega);clear hp YE UY Fw iO;go_wp2_with fail;go_ret
   rw[HA.o];exact⟨rfl,aO.o⟩
theorem XP{q si:Nat}{fv rv:Value}{l:List Fd}{r:List Cl}(lH:∀ x∈r,aT x){op f:Nat}{c:Cl}{ks:List PT}(oV:op=1)(jx:Okp (.node op f c ks))(bR:Len (.node op f c ks))(w:World)(b off:Nat)(hr:zD w q si fv rv l r)(oo:jG w b off (.node op f c ks)) :
  Calls Tryz.prog 161 #[.pointer (some ⟨q,0,none⟩),.pointer (some ⟨b,off,none⟩)] w fun e w'=>e=.returned (.int .u8 (jp l r (.node op f c ks):Int))/\Below w.heap.size w w':=by
 have kl:=ae oV;clear oV;have ng:=ae lH;have HR:=ae hr;simp only[Okp]at jx;simp only[Len]at bR;obtain⟨_,_,ZR,FT⟩:=jx;obtain⟨hl,hlks⟩:=bR;have Vt:=ae ZR;have LS:=ae FT.get;have HL:=ae hl;have HLK:=ae hlks.get;obtain⟨a,cap,rV,oq⟩:=oo.open;have HN:=ae rV;have HK:=ae oq;have hkf:=oq.form;obtain⟨_,_,KF,hkc,Vu⟩:=hkf;simp only[Value.slice.injEq]at KF;obtain⟨rfl,_,rfl⟩:=KF;have hkm':ks.length<=9223372036854775807:=by unfold maxLen at Vu;omega
 obtain⟨dO,x0,x1,x2,x3,x4,x5⟩:=rV;clear hr oo oq ZR FT hl hlks lH Vu;have HD:jfp (jp l r (.node op f c ks)=if op=6 then evalAnd l r ks 2 else if op=7 then evalOr l r ks 0 else if op=8 then evalNot l r ks else pr l r op f c):=ae (by simp only[jp]);generalize jp l r (.node op f c ks)=R at *;have h6:¬ op=6:=by rw[kl.o];omega
 have h7:¬ op=7:=by rw[kl.o];omega
 have h8:¬ op=8:=by rw[kl.o];omega
 have n6:((op:Int)==6)=false:=jdG.2 (by omega);have n7:((op:Int)==7)=false:=jdG.2 (by omega);rw[jdt h6,jdt h7]at HD;have n8:((op:Int)==8)=false:=jdG.2 (by omega);rw[jdt h8]at HD;clear h6 h7 h8;go_enter Tryz.func161,Tryz.ntmps161
 go_wp2_with fail;refine(xv kl.o HR.o HN.o Vt.o HL.o ng.o).mono ?_;rintro e w2 ⟨rfl,aE⟩;have aO:=ae aE;clear aE;go_wp2_with fail;go_ret
 rw[HD.o];exact⟨rfl,aO.o⟩
theorem eval1{w:World}{op f si:Nat}{c:Cl}{ks:List PT}{kv fv rv:Value}{l:List Fd}{r:List Cl}(oV:op=1)(hk:sO w kv ks)(jx:Okp (.node op f c ks))(bR:Len (.node op f c ks))(hs:Sf w fv l)(hv:Sv w rv (aI r))(lH:∀ x∈r,aT x) :
  Calls Tryz.prog 113 #[.agg #[.int .u8 (op:Int),.int .u32 (f:Int),.int .u8 (c.1:Int),.int .i64 c.2.1,.string (ak c.2.2),kv],.agg #[.int .u32 (si:Int),fv],rv] w fun e w'=>e=.returned (.int .u8 (jp l r (.node op f c ks):Int))/\Below w.heap.size w w':=by
 have HC:=ae (fun(U:World) (b off q:Nat) hr hl=>XP (q:=q) (si:=si) (fv:=fv) (rv:=rv) (l:=l) lH oV jx bR U b off hr hl);have kl:=ae oV;clear oV;have HK:=ae hk;have HS:=ae hs;have HV:=ae hv;generalize jp l r (.node op f c ks)=R at *;obtain⟨ka,kcap,rfl,_,_⟩:=hk.form;obtain⟨fa,fcap,rfl,_,_⟩:=hs.form;obtain⟨ra,rcap,rfl,_,_⟩:=hv.form1;clear hk hs hv jx bR lH;have hn:=wR w op f c (.slice ka ks.length kcap);have aH:=am w (.cells #[.int .u8 (op:Int),.int .u32 (f:Int),.int .u8 (c.1:Int),.int .i64 c.2.1,.string (ak c.2.2),.slice ka ks.length kcap] 63);generalize hA:w.alloc (.cells #[.int .u8 (op:Int),.int .u32 (f:Int),.int .u8 (c.1:Int),.int .i64 c.2.1,.string (ak c.2.2),.slice ka ks.length kcap] 63)=A at *;have aE:=am A (.cells #[.int .u32 (si:Int),.slice fa l.length fcap] 25);obtain⟨e0,e1⟩:=bx A (.int .u32 (si:Int)) (.slice fa l.length fcap) 25;generalize hB:A.alloc (.cells #[.int .u32 (si:Int),.slice fa l.length fcap] 25)=B at *;have aS:=am B (.cells #[.int .u32 (si:Int),.slice fa l.length fcap,.slice ra (aI r).length rcap] 216);obtain⟨g0,g1,g2⟩:=dx B (.int .u32 (si:Int)) (.slice fa l.length fcap) (.slice ra (aI r).length rcap) 216;have hz:B.heap.size<(B.alloc (.cells #[.int .u32 (si:Int),.slice fa l.length fcap,.slice ra (aI r).length rcap] 216)).heap.size:=by rw[jdx];omega
 generalize hC:B.alloc (.cells #[.int .u32 (si:Int),.slice fa l.length fcap,.slice ra (aI r).length rcap] 216)=C at *;have lu:Below w.heap.size w C:=ai (ai aH aE) aS;have Wg:jfp (zD C B.heap.size si (.slice fa l.length fcap) (.slice ra (aI r).length rcap) l r):=ae ⟨hz,g0,g1,g2,HS.o.kept lu,HV.o.kept lu⟩;have rS:jfp (jG C w.heap.size 0 (.node op f c ks)):=ae (jG.shut ((hn.kept aE).kept aS) (HK.o.kept lu));have nA:=ae lu;clear hn aH aE aS lu g0 g1 g2 hz;go_enter Tryz.func113,Tryz.ntmps113
 go_wp2_with fail;refine(HC.o _ _ _ _ Wg.o rS.o).mono ?_;rintro e w2 ⟨rfl,aE⟩;have aO:=ae aE;clear aE;go_wp2_with fail;go_ret
 exact⟨rfl,ai nA.o aO.o⟩
theorem XQ{w:World}{b off op f si:Nat}{c:Cl}{a:Option Addr}{n cap:Nat}{fv:Value}{l:List Fd}(oV:op=1)(hn:gR w b off op f c (.slice a n cap))(hs:Sf w fv l)(jx:Okc c):Calls Tryz.prog 154 #[.pointer (some ⟨b,off,none⟩),.agg #[.int .u32 (si:Int),fv]] w fun e w'=>e=.returned (.int .i64 (nY l op f c n))/\Below w.heap.size w w':=by
 have kl:=ae oV;clear oV;obtain⟨fa,fcap,rfl,hfc,VX⟩:=hs.form;have aH:=am w (.cells #[.int .u32 (si:Int),.slice fa l.length fcap] 25);have aQ:=ae aH;obtain⟨e0,e1⟩:=bx w (.int .u32 (si:Int)) (.slice fa l.length fcap) 25;have HS:=ae (hs.kept aH);have HN:=ae (hn.kept aH);have HO:=ae jx;generalize hA:w.alloc (.cells #[.int .u32 (si:Int),.slice fa l.length fcap] 25)=A at *;clear aH hs hn jx;obtain⟨dO,x0,x1,x2,x3,x4,x5⟩:=HN.o;have HD:jfp (nY l op f c n=if 1<=op/\op<=5 then ffM l op f c n else if 6<=op/\op<=8 then fkM op f c n else 90):=ae rfl;generalize nY l op f c n=R at *;by_cases h5:1<=op/\op<=5
 ·rw[jdu h5]at HD
  have HC:=ae (fun(U:World) (hU:Below A.heap.size A U)=>ti (si:=si) (HN.o.kept hU) (HS.o.kept hU) HO.o);generalize ffM l op f c n=R2 at *;have h:=kl.o
  all_goals
   clear kl;subst h;clear h5;go_enter Tryz.func154,Tryz.ntmps154
   go_wp2_with fail;try rw[hA]
   refine(HC.o _ (jdv _ _)).mono ?_;rintro e w2 ⟨rfl,aE⟩;have aO:=ae (ai aQ.o aE);clear aE;go_wp2_with fail;go_ret
   rw[HD.o];exact⟨rfl,aO.o⟩
 ·exact absurd (show 1<=op/\op<=5 by rw[kl.o];omega) h5
theorem Fh{si:Nat}{fv:Value}{l:List Fd}{op f:Nat}{c:Cl}{ks:List PT}(oV:op=1)(Vs:ks=[])(jx:Okp (.node op f c ks))(w:World)(b off:Nat)(hs:Sf w fv l)(oo:jG w b off (.node op f c ks)) :
  Calls Tryz.prog 111 #[.pointer (some ⟨b,off,none⟩),.agg #[.int .u32 (si:Int),fv]] w fun e w'=>e=.returned (.int .i64 (mQ l (.node op f c ks)))/\Below w.heap.size w w':=by
 have kl:=ae oV;have YA:=ae Vs;clear oV Vs;simp only[Okp]at jx;obtain⟨_,_,ZR,FT⟩:=jx;have Vt:=ae ZR;have LS:=ae FT.get;obtain⟨fa,fcap,rfl,hfc,VX⟩:=hs.form;have aH:=am w (.cells #[.int .u32 (si:Int),.slice fa l.length fcap] 25);have aQ:=ae aH;obtain⟨e0,e1⟩:=bx w (.int .u32 (si:Int)) (.slice fa l.length fcap) 25;have hz:w.heap.size<(w.alloc (.cells #[.int .u32 (si:Int),.slice fa l.length fcap] 25)).heap.size:=by rw[jdx];omega
 have HS:=ae (hs.kept aH);obtain⟨a,cap,rV,oq⟩:=(jG.kept aH _ _ _ oo).open;generalize hA:w.alloc (.cells #[.int .u32 (si:Int),.slice fa l.length fcap] 25)=A at *;have HN:=ae rV;have HK:=ae oq;have hkf:=oq.form;obtain⟨_,_,KF,hkc,Vu⟩:=hkf;simp only[Value.slice.injEq]at KF;obtain⟨rfl,_,rfl⟩:=KF;have hkm':ks.length<=9223372036854775807:=by unfold maxLen at Vu;omega
 clear aH hs oo rV oq ZR FT Vu;have HD:jfp (mQ l (.node op f c ks)=if nY l op f c ks.length≠0 then nY l op f c ks.length else firstAll l ks):=ae (by simp only[mQ]);generalize mQ l (.node op f c ks)=R at *;have HC:=ae (fun(U:World) (hU:Below A.heap.size A U)=>XQ kl.o (si:=si) (HN.o.kept hU) (HS.o.kept hU) Vt.o);generalize nY l op f c ks.length=e1v at *;go_enter Tryz.func111,Tryz.ntmps111
 go_wp2_with fail;try rw[hA]
 refine(HC.o _ (jdv _ _)).mono ?_;rintro e w2 ⟨rfl,aE⟩;have aO:=ae aE;have FR:=ae (HN.o.kept aE);have g0:=(aE.cell (p:=⟨w.heap.size,0,none⟩) hz).trans e0;have g1:=(aE.cell (p:=⟨w.heap.size,1,none⟩) hz).trans e1;have bv:=jdS hz aE.size;have hzA:=aE.size;clear aE e0 e1 hA;by_cases h0:e1v=0
 ·subst h0
  rw[jdt (by simp)]at HD;have HD':jfp (R=firstAll l (ks.drop 0)):=HD;clear HD;obtain⟨dO,x0,x1,x2,x3,x4,x5⟩:=FR.o;go_wp2_with fail;clear x0 x1 x2 x3 x4 x5;go_loopw [19] (fun i wr=>∃ k:Nat,k<=ks.length/\i=.int .i64 (k:Int)/\R=firstAll l (ks.drop k)/\Below w2.heap.size w2 wr) (fun i _=>ks.length-(intOf i).toNat)
  case atStart=>exact⟨0,by omega,rfl,HD'.o,jdv _ _⟩
  case round =>
   obtain⟨k,hk,rfl,kL,az⟩:=hrel;have HF:=ae kL;have HB:=ae az;have bF:=az.size;clear kL az HD';by_cases aB:k<ks.length
   ·exact absurd aB (by rw[YA.o];simp)
   ·obtain rfl:k=ks.length:=by omega
    have gj:¬ ((ks.length:Nat):Int)<(ks.length:Int):=(by omega);have HT:=ae (HF.o.trans BG);clear HF;go_wp2_with fail;go_ret
    rw[HT.o];exact⟨rfl,ai aQ.o (ai aO.o HB.o)⟩
 ·rw[jdu h0]at HD
  have h0':(e1v != 0)=true:=by simpa using h0
  clear h0;go_wp2_with fail;go_ret
  rw[HD.o];exact⟨rfl,ai aQ.o aO.o⟩
theorem room1{op f:Nat}{c:Cl}{ks:List PT}(Vs:ks=[])(w:World)(b off m d:Nat)(hm:m<100)(hd:d<100)(oo:jG w b off (.node op f c ks)):Calls Tryz.prog 110 #[.pointer (some ⟨b,off,none⟩),.int .i64 (m:Int),.int .i64 (d:Int)] w (Fe w (.node op f c ks) m d):=by
 have YA:=ae Vs;clear Vs;obtain⟨a,cap,rV,oq⟩:=oo.open;have HK:=ae oq;have hkf:=oq.form;obtain⟨_,_,KF,hkc,Vu⟩:=hkf;simp only[Value.slice.injEq]at KF;obtain⟨rfl,_,rfl⟩:=KF;have hkm':ks.length<=9223372036854775807:=by unfold maxLen at Vu;omega
 clear oo oq Vu;obtain⟨dO,x0,x1,x2,x3,x4,x5⟩:=rV;have HP0:jfp (∀ w',m=0∨d=0->w'=w->Fe w (.node op f c ks) m d (.returned (.int .i64 (-1))) w'):=ae (fun w' h hw=>⟨⟨-1,rfl,by omega,by omega,fun _ _ _ _ h1 h2=>by omega⟩,hw⟩);by_cases hm0:m=0
 ·subst hm0
  go_enter Tryz.func110,Tryz.ntmps110
  go_wp2_with fail;go_ret
  exact HP0.o _ (by simp) rfl
 have hm0':((m:Int)==0)=false:=jdG.2 (by omega);by_cases hd0:d=0
 ·subst hd0
  go_enter Tryz.func110,Tryz.ntmps110
  go_wp2_with fail;go_ret
  exact HP0.o _ (by simp) rfl
 have hd0':((d:Int)==0)=false:=jdG.2 (by omega);have HMD:jfp (0<m/\0<d/\m<100/\d<100):=ae ⟨by omega,by omega,hm,hd⟩;clear HP0;go_enter Tryz.func110,Tryz.ntmps110
 go_wp2_with fail;go_loopw [1,21] (fun s i wr=>∃ k n:Nat,k<=ks.length/\i=.int .i64 (k:Int)/\s=.int .i64 (n:Int)/\n<100/\(k=0->(n:Int)=(m:Int)-1)/\wr=w) (fun _ i _=>ks.length-(intOf i).toNat)
 case atStart=>exact⟨0,m-1,by omega,rfl,by congr 1;omega,by omega,fun _=>by omega,rfl⟩
 case round =>
  obtain⟨k,n,hk,rfl,rfl,hn,qq,rfl⟩:=hrel;have HN0:=ae qq;clear qq;by_cases aB:k<ks.length
  ·exact absurd aB (by rw[YA.o];simp)
  ·obtain rfl:k=ks.length:=by omega
   have gj:¬ ((ks.length:Nat):Int)<(ks.length:Int):=(by omega);go_wp2_with fail;go_ret
   exact⟨⟨(n:Int),rfl,by omega,by omega,fun op' f' c' h _ _=>HN0.o (by simp only[PT.node.injEq]at h;rw[h.2.2.2];rfl)⟩,rfl⟩
theorem ja6{w:World}{op f si:Nat}{c:Cl}{ks:List PT}{kv fv:Value}{l:List Fd}(oV:op=1)(Vs:ks=[])(hk:sO w kv ks)(jx:Okp (.node op f c ks))(hs:Sf w fv l) :
  Calls Tryz.prog 65 #[.agg #[.int .u8 (op:Int),.int .u32 (f:Int),.int .u8 (c.1:Int),.int .i64 c.2.1,.string (ak c.2.2),kv],.agg #[.int .u32 (si:Int),fv]] w (Pk w l (.node op f c ks)):=by
 have kl:=ae oV;have YA:=ae Vs;clear oV Vs;have HK:=ae hk;have HS:=ae hs;have HO:=ae jx;obtain⟨ka,kcap,rfl,_,_⟩:=hk.form;obtain⟨fa,fcap,rfl,_,_⟩:=hs.form;clear hk hs jx;have hn:=wR w op f c (.slice ka ks.length kcap);have aH:=am w (.cells #[.int .u8 (op:Int),.int .u32 (f:Int),.int .u8 (c.1:Int),.int .i64 c.2.1,.string (ak c.2.2),.slice ka ks.length kcap] 63);generalize hA:w.alloc (.cells #[.int .u8 (op:Int),.int .u32 (f:Int),.int .u8 (c.1:Int),.int .i64 c.2.1,.string (ak c.2.2),.slice ka ks.length kcap] 63)=A at *;have aE:=am A (.cells #[.int .u32 (si:Int),.slice fa l.length fcap] 25);obtain⟨e0,e1⟩:=bx A (.int .u32 (si:Int)) (.slice fa l.length fcap) 25;generalize hB:A.alloc (.cells #[.int .u32 (si:Int),.slice fa l.length fcap] 25)=B at *;have lu:Below w.heap.size w B:=ai aH aE;have rS:jfp (jG B w.heap.size 0 (.node op f c ks)):=ae (jG.shut (hn.kept aE) (HK.o.kept lu));have HSB:=ae (HS.o.kept lu);have nA:=ae lu;clear hn aH aE lu;go_enter Tryz.func65,Tryz.ntmps65
 go_wp2_with fail;refine(room1 YA.o _ _ _ 32 8 (by omega) (by omega) rS.o).mono ?_;rintro e w2 ⟨⟨z,rfl,cP,bv,iH⟩,rfl⟩;have HZ3:=ae iH;clear iH;by_cases hz:z<0
 ·go_wp2_with fail
  go_ret
  exact⟨⟨90,rfl,fun op' f' c' h=>by have:=HZ3.o op' f' c' h (by omega) (by omega);omega⟩,nA.o⟩
 ·go_wp2_with fail
  refine(Fh kl.o YA.o HO.o _ _ _ HSB.o rS.o).mono ?_;rintro e w3 ⟨rfl,aS⟩;have bP:=ae aS;clear aS;go_wp2_with fail;go_ret
  exact⟨⟨_,rfl,fun _ _ _ _=>rfl⟩,ai nA.o bP.o⟩
end Go.Proofs.YtpljdjmpamjkhaaGreatDoor
