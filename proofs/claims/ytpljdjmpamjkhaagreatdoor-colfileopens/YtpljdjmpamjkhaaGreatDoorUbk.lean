import Derived.Test.YtpljdjmpamjkhaaGreatDoorUbi
set_option linter.unusedVariables false
set_option linter.unusedSimpArgs false
set_option maxRecDepth 100000
set_option maxHeartbeats 8000000
namespace Go.Proofs.YtpljdjmpamjkhaaGreatDoor
open Go.RowKit Go.Lib
theorem Pa{w:World}{b off op f:Nat}{c:Cl}{kv:Value}(oS:op=1)(hn:gJ w b off op f c kv)(jy:Okc c)(u:Bool)(st:Stt)(iM:Oks st) :
  Calls Tryz.prog 194 #[.agg #[.bool false,.bool u,.bool false],.pointer (some ⟨b,off,none⟩),.agg #[.int .i64 st.rows,.int .i64 st.nulls,.bool st.some,.bool st.high,.int .u8 (st.lo.1:Int),.int .i64 st.lo.2.1,.string (am st.lo.2.2),.int .u8 (st.hi.1:Int),.int .i64 st.hi.2.1,.string (am st.hi.2.2)]] w fun e w'=>e=.returned (b3V (mV u op c st))/\Below w.heap.size w w':=by
 have iG:=ae oS;clear oS;have HO:=ae jy;have cT:=ae iM;have dv:=Flg.new w (false,u,false);have aH:=ak w (.cells #[.bool false,.bool u,.bool false] 123);have s1:(w.alloc (.cells #[.bool false,.bool u,.bool false] 123)).heap.size=w.heap.size+1:=jdi _ _;simp only at dv;generalize hA:w.alloc (.cells #[.bool false,.bool u,.bool false] 123)=A at *;have dO:=Stb.new A st;have aE:=ak A (.cells #[.int .i64 st.rows,.int .i64 st.nulls,.bool st.some,.bool st.high,.int .u8 (st.lo.1:Int),.int .i64 st.lo.2.1,.string (am st.lo.2.2),.int .u8 (st.hi.1:Int),.int .i64 st.hi.2.1,.string (am st.hi.2.2)] 54);have s2:(A.alloc (.cells #[.int .i64 st.rows,.int .i64 st.nulls,.bool st.some,.bool st.high,.int .u8 (st.lo.1:Int),.int .i64 st.lo.2.1,.string (am st.lo.2.2),.int .u8 (st.hi.1:Int),.int .i64 st.hi.2.1,.string (am st.hi.2.2)] 54)).heap.size=A.heap.size+1:=jdi _ _;generalize hB:A.alloc (.cells #[.int .i64 st.rows,.int .i64 st.nulls,.bool st.some,.bool st.high,.int .u8 (st.lo.1:Int),.int .i64 st.lo.2.1,.string (am st.lo.2.2),.int .u8 (st.hi.1:Int),.int .i64 st.hi.2.1,.string (am st.hi.2.2)] 54)=B at *;have iz:=Flg.new B (false,false,false);have aQ:=ak B (.cells #[.bool false,.bool false,.bool false] 123);simp only at iz;generalize hC:B.alloc (.cells #[.bool false,.bool false,.bool false] 123)=C at *;have s12:B.heap.size=w.heap.size+1+1:=by omega
 have hws:SC w C b off op f c kv u st:=by
  refine⟨ai (ai aH aE) aQ,(dv.kept aE).kept aQ,?_,by rw[← s12];exact iz,((hn.kept aH).kept aE).kept aQ⟩;rw[← s1];have q:=dO;unfold Stb at *;rw[aQ.block _ ((Array.getElem?_eq_some_iff.1 q).1)];exact q
 have HW0:=ae hws;obtain⟨lm,eS,gM,hg3,dY,x0,x1,x2,x3,x4,x5⟩:=hws;clear hn jy iM dv dO iz aH aE aQ lm eS gM hg3;go_enter Tryz.func194,Tryz.ntmps194
 go_wp2_with fail;clear hA hB hC;refine(oI HO.o _).mono ?_;rintro e w1 ⟨rfl,hb⟩;have Ak:=ae (HW0.o.kept hb);clear hb x0 x1 x2 x3 x4 x5 dY HW0
 have HQ:jfb (∀ X,SC w X b off op f c kv u st->(X.cell? ⟨w.heap.size+1,3,none⟩=some (.bool st.high)/\X.cell? ⟨w.heap.size+1,4,none⟩=some (.int .u8 (st.lo.1:Int))/\X.cell? ⟨w.heap.size+1,5,none⟩=some (.int .i64 st.lo.2.1)/\X.cell? ⟨w.heap.size+1,6,none⟩=some (.string (am st.lo.2.2))/\X.cell? ⟨w.heap.size+1,7,none⟩=some (.int .u8 (st.hi.1:Int))/\X.cell? ⟨w.heap.size+1,8,none⟩=some (.int .i64 st.hi.2.1)/\X.cell? ⟨w.heap.size+1,9,none⟩=some (.string (am st.hi.2.2)))/\X.cell? ⟨b,off,none⟩=some (.int .u8 (op:Int))):=ae (fun X h=>by
  obtain⟨_,⟨_,_,_,a4⟩,⟨a5,a6,a7⟩,a8,a9,a10⟩:=h.2.2.1.at;simp only[jdK]at *;exact⟨⟨a4,a5,a6,a7,a8,a9,a10⟩,h.2.2.2.2.2.1⟩)
 obtain⟨⟨z3,z4,z5,z6,z7,z8,z9⟩,zo⟩:=HQ.o _ Ak.o;clear s1 s2 s12;go_wp2_with fail;refine(oI cT.o.1 _).mono ?_;rintro e w2 ⟨rfl,hb⟩;have nt:=ae (Ak.o.kept hb);clear hb z3 z4 z5 z6 z7 z8 z9 zo Ak;obtain⟨⟨z3,z4,z5,z6,z7,z8,z9⟩,zo⟩:=HQ.o _ nt.o;go_wp2_with fail;refine(kw (iS HO.o).val (iS cT.o.1).val _).mono ?_;rintro e w3 ⟨rfl,hb⟩;have yJ:=ae (nt.o.kept hb);clear hb z3 z4 z5 z6 z7 z8 z9 zo nt;obtain⟨⟨z3,z4,z5,z6,z7,z8,z9⟩,zo⟩:=HQ.o _ yJ.o;obtain⟨m,hm⟩:∃ m,m=cQ (cp c) (cp st.lo):=⟨_,rfl⟩;rw[show cv ((cp c).1:Int) (cp c).2.1 (am (cp c).2.2) ((cp st.lo).1:Int) (cp st.lo).2.1 (am (cp st.lo).2.2)=m from hm.symm];have HM:=ae hm;clear hm;go_wp2_with fail;refine(oI cT.o.2 _).mono ?_;rintro e w4 ⟨rfl,hb⟩;have VR:=ae (yJ.o.kept hb);clear hb z3 z4 z5 z6 z7 z8 z9 zo yJ;obtain⟨⟨z3,z4,z5,z6,z7,z8,z9⟩,zo⟩:=HQ.o _ VR.o;go_wp2_with fail;refine(kw (iS HO.o).val (iS cT.o.2).val _).mono ?_;rintro e w5 ⟨rfl,hb⟩;have HW5:=ae (VR.o.kept hb);clear hb z3 z4 z5 z6 z7 z8 z9 zo VR;obtain⟨⟨z3,z4,z5,z6,z7,z8,z9⟩,zo⟩:=HQ.o _ HW5.o;obtain⟨M,hM⟩:∃ m,m=cQ (cp c) (cp st.hi):=⟨_,rfl⟩;rw[show cv ((cp c).1:Int) (cp c).2.1 (am (cp c).2.2) ((cp st.hi).1:Int) (cp st.hi).2.1 (am (cp st.hi).2.2)=M from hM.symm];have HMM:=ae hM;clear hM z4 z5 z6 z7 z8 z9 HQ;obtain⟨⟨p0,p1,p2⟩,⟨t0,t1,t2⟩,hpz⟩:=HW5.o.2.1.facts;obtain⟨⟨r0,r1,r2⟩,⟨v0,v1,v2⟩,hrz⟩:=HW5.o.2.2.2.1.facts;have nr:=ae HW5.o.1;have HU:=ae (MV (iS HO.o));have H1:=ae (jav u c st);have H2:=ae (jaw u c st);have H3:=ae (jax u c st);have H4:=ae (jay u c st);have H5:=ae (jaz u op c st);rw[← HM.o,← HMM.o]at H1 H2 H3;generalize st.high=hi at *;generalize sP (cp c)=uc at *;obtain⟨R,hR⟩:∃ R,R=mV u op c st:=⟨_,rfl⟩;have HR:=ae hR;clear hR;by_cases h1:op=1
 ·subst h1
  clear H4 H5 HR H2 H3;obtain hmc | hmc | hmc:m<0∨m=0∨0<m:=by omega
  ·have G1:jfb (decide (0<=m)=false/\decide (m=0)=false/\decide (0<m)=false):=ae (by refine⟨?_,?_,?_⟩<;>simp<;>omega)
   have k1:(m==0)=false:=jdt.2 (by omega);have k2:¬ m>=0:=(by omega);have k3:¬ 0<m:=(by omega);clear hmc;cases hi
   ·skip
    go_wp2_with fail;refine bodyPost_ret (v:=.agg #[.bool true,.bool u,.bool false]) (by simp[results,Tryz.results194,go_sem,r0,r1,r2]<;>omega) rfl ⟨?_,set3 ((nr.o.setCell (p:=⟨w.heap.size,2,none⟩) (jdh _) _).setCell (p:=⟨w.heap.size,0,none⟩) (jdh _) _) (by omega) _ _ _⟩;simp only[H1.o,G1.o.1,G1.o.2.1];rfl
   ·obtain hMc | hMc | hMc:M<0∨M=0∨0<M:=by omega
    ·have G2:jfb (decide (0<=M)=false/\decide (M=0)=false/\decide (0<M)=false):=ae (by refine⟨?_,?_,?_⟩<;>simp<;>omega)
     have l1:(M==0)=false:=jdt.2 (by omega);have l2:¬ M>=0:=(by omega);have l3:¬ 0<M:=(by omega);clear hMc;go_wp2_with fail;refine bodyPost_ret (v:=.agg #[.bool true,.bool u,.bool false]) (by simp[results,Tryz.results194,go_sem,r0,r1,r2]<;>omega) rfl ⟨?_,set3 ((nr.o.setCell (p:=⟨w.heap.size,2,none⟩) (jdh _) _).setCell (p:=⟨w.heap.size,0,none⟩) (jdh _) _) (by omega) _ _ _⟩;simp only[H1.o,G1.o.1,G1.o.2.1,G2.o.2.1,G2.o.2.2];rfl
    ·have G2:jfb (decide (0<=M)=true/\decide (M=0)=true/\decide (0<M)=false):=ae (by refine⟨?_,?_,?_⟩<;>simp<;>omega)
     subst hMc;go_wp2_with fail;refine bodyPost_ret (v:=.agg #[.bool true,.bool u,.bool false]) (by simp[results,Tryz.results194,go_sem,r0,r1,r2]<;>omega) rfl ⟨?_,set3 ((nr.o.setCell (p:=⟨w.heap.size,2,none⟩) (jdh _) _).setCell (p:=⟨w.heap.size,0,none⟩) (jdh _) _) (by omega) _ _ _⟩;simp only[H1.o,G1.o.1,G1.o.2.1,G2.o.2.1,G2.o.2.2];rfl
    ·have G2:jfb (decide (0<=M)=true/\decide (M=0)=false/\decide (0<M)=true):=ae (by refine⟨?_,?_,?_⟩<;>simp<;>omega)
     have l1:(M==0)=false:=jdt.2 (by omega);have l2:M>=0:=(by omega);have l3:0<M:=(by omega);clear hMc;go_wp2_with fail;refine bodyPost_ret (v:=.agg #[.bool true,.bool u,.bool false]) (by simp[results,Tryz.results194,go_sem,r0,r1,r2]<;>omega) rfl ⟨?_,set3 ((nr.o.setCell (p:=⟨w.heap.size,2,none⟩) (jdh _) _).setCell (p:=⟨w.heap.size,0,none⟩) (jdh _) _) (by omega) _ _ _⟩;simp only[H1.o,G1.o.1,G1.o.2.1,G2.o.2.1,G2.o.2.2];rfl
  ·have G1:jfb (decide (0<=m)=true/\decide (m=0)=true/\decide (0<m)=false):=ae (by refine⟨?_,?_,?_⟩<;>simp<;>omega)
   subst hmc;cases hi
   ·skip
    go_wp2_with fail;refine bodyPost_ret (v:=.agg #[.bool true,.bool u,.bool true]) (by simp[results,Tryz.results194,go_sem,r0,r1,r2]<;>omega) rfl ⟨?_,set3 ((nr.o.setCell (p:=⟨w.heap.size,2,none⟩) (jdh _) _).setCell (p:=⟨w.heap.size,0,none⟩) (jdh _) _) (by omega) _ _ _⟩;simp only[H1.o,G1.o.1,G1.o.2.1];rfl
   ·obtain hMc | hMc | hMc:M<0∨M=0∨0<M:=by omega
    ·have G2:jfb (decide (0<=M)=false/\decide (M=0)=false/\decide (0<M)=false):=ae (by refine⟨?_,?_,?_⟩<;>simp<;>omega)
     have l1:(M==0)=false:=jdt.2 (by omega);have l2:¬ M>=0:=(by omega);have l3:¬ 0<M:=(by omega);clear hMc;go_wp2_with fail;refine bodyPost_ret (v:=.agg #[.bool true,.bool u,.bool true]) (by simp[results,Tryz.results194,go_sem,r0,r1,r2]<;>omega) rfl ⟨?_,set3 ((nr.o.setCell (p:=⟨w.heap.size,2,none⟩) (jdh _) _).setCell (p:=⟨w.heap.size,0,none⟩) (jdh _) _) (by omega) _ _ _⟩;simp only[H1.o,G1.o.1,G1.o.2.1,G2.o.2.1,G2.o.2.2];rfl
    ·have G2:jfb (decide (0<=M)=true/\decide (M=0)=true/\decide (0<M)=false):=ae (by refine⟨?_,?_,?_⟩<;>simp<;>omega)
     subst hMc;go_wp2_with fail;have FZ:=HW5.o.2.1.set 2 (by omega);have Cn:Below w.heap.size w (w5.setCell ⟨w.heap.size,2,none⟩ (.bool true)):=nr.o.setCell (p:=⟨w.heap.size,2,none⟩) (jdh _) (.bool true)
     have Vy:Flg (w5.setCell ⟨w.heap.size,2,none⟩ (.bool true)) (w.heap.size+1+1) (false,false,false):=by
      have q:=HW5.o.2.2.2.1;unfold Flg at *;rw[heap_setCell_other w5 ⟨w.heap.size,2,none⟩ (w.heap.size+1+1) _ (show w.heap.size+1+1≠w.heap.size by omega)];exact q
     have LH:=ae FZ;have yA:=ae Vy;have ml:=ae Cn;clear FZ Vy Cn p0 p1 p2 t0 t1 t2 r0 r1 r2 v0 v1 v2 z3 zo;refine(HU.o _).mono ?_;rintro e w6 ⟨rfl,dP⟩;obtain⟨⟨p0,p1,p2⟩,⟨t0,t1,t2⟩,_⟩:=(LH.o.kept dP).facts;obtain⟨⟨r0,r1,r2⟩,⟨v0,v1,v2⟩,_⟩:=(yA.o.kept dP).facts;have jc:=ae (ai ml.o dP);clear dP;simp only[setB,Nat.reduceEqDiff,if_true,if_false]at p0 p1 p2;go_wp2_with fail;refine bodyPost_ret (v:=.agg #[.bool (!uc),.bool u,.bool true]) (by simp[results,Tryz.results194,go_sem,r0,r1,r2]<;>omega) rfl ⟨?_,set3 (jc.o.setCell (p:=⟨w.heap.size,0,none⟩) (jdh _) _) (by omega) _ _ _⟩;simp only[H1.o,G1.o.1,G1.o.2.1,G2.o.2.1,G2.o.2.2];rfl
    ·have G2:jfb (decide (0<=M)=true/\decide (M=0)=false/\decide (0<M)=true):=ae (by refine⟨?_,?_,?_⟩<;>simp<;>omega)
     have l1:(M==0)=false:=jdt.2 (by omega);have l2:M>=0:=(by omega);have l3:0<M:=(by omega);clear hMc;go_wp2_with fail;refine bodyPost_ret (v:=.agg #[.bool true,.bool u,.bool false]) (by simp[results,Tryz.results194,go_sem,r0,r1,r2]<;>omega) rfl ⟨?_,set3 ((nr.o.setCell (p:=⟨w.heap.size,2,none⟩) (jdh _) _).setCell (p:=⟨w.heap.size,0,none⟩) (jdh _) _) (by omega) _ _ _⟩;simp only[H1.o,G1.o.1,G1.o.2.1,G2.o.2.1,G2.o.2.2];rfl
  ·have G1:jfb (decide (0<=m)=true/\decide (m=0)=false/\decide (0<m)=true):=ae (by refine⟨?_,?_,?_⟩<;>simp<;>omega)
   have k1:(m==0)=false:=jdt.2 (by omega);have k2:m>=0:=(by omega);have k3:0<m:=(by omega);clear hmc;cases hi
   ·skip
    go_wp2_with fail;refine bodyPost_ret (v:=.agg #[.bool true,.bool u,.bool true]) (by simp[results,Tryz.results194,go_sem,r0,r1,r2]<;>omega) rfl ⟨?_,set3 ((nr.o.setCell (p:=⟨w.heap.size,2,none⟩) (jdh _) _).setCell (p:=⟨w.heap.size,0,none⟩) (jdh _) _) (by omega) _ _ _⟩;simp only[H1.o,G1.o.1,G1.o.2.1];rfl
   ·obtain hMc | hMc | hMc:M<0∨M=0∨0<M:=by omega
    ·have G2:jfb (decide (0<=M)=false/\decide (M=0)=false/\decide (0<M)=false):=ae (by refine⟨?_,?_,?_⟩<;>simp<;>omega)
     have l1:(M==0)=false:=jdt.2 (by omega);have l2:¬ M>=0:=(by omega);have l3:¬ 0<M:=(by omega);clear hMc;go_wp2_with fail;refine bodyPost_ret (v:=.agg #[.bool true,.bool u,.bool true]) (by simp[results,Tryz.results194,go_sem,r0,r1,r2]<;>omega) rfl ⟨?_,set3 ((nr.o.setCell (p:=⟨w.heap.size,2,none⟩) (jdh _) _).setCell (p:=⟨w.heap.size,0,none⟩) (jdh _) _) (by omega) _ _ _⟩;simp only[H1.o,G1.o.1,G1.o.2.1,G2.o.2.1,G2.o.2.2];rfl
    ·have G2:jfb (decide (0<=M)=true/\decide (M=0)=true/\decide (0<M)=false):=ae (by refine⟨?_,?_,?_⟩<;>simp<;>omega)
     subst hMc;go_wp2_with fail;refine bodyPost_ret (v:=.agg #[.bool true,.bool u,.bool true]) (by simp[results,Tryz.results194,go_sem,r0,r1,r2]<;>omega) rfl ⟨?_,set3 ((nr.o.setCell (p:=⟨w.heap.size,2,none⟩) (jdh _) _).setCell (p:=⟨w.heap.size,0,none⟩) (jdh _) _) (by omega) _ _ _⟩;simp only[H1.o,G1.o.1,G1.o.2.1,G2.o.2.1,G2.o.2.2];rfl
    ·have G2:jfb (decide (0<=M)=true/\decide (M=0)=false/\decide (0<M)=true):=ae (by refine⟨?_,?_,?_⟩<;>simp<;>omega)
     have l1:(M==0)=false:=jdt.2 (by omega);have l2:M>=0:=(by omega);have l3:0<M:=(by omega);clear hMc;go_wp2_with fail;refine bodyPost_ret (v:=.agg #[.bool true,.bool u,.bool false]) (by simp[results,Tryz.results194,go_sem,r0,r1,r2]<;>omega) rfl ⟨?_,set3 ((nr.o.setCell (p:=⟨w.heap.size,2,none⟩) (jdh _) _).setCell (p:=⟨w.heap.size,0,none⟩) (jdh _) _) (by omega) _ _ _⟩;simp only[H1.o,G1.o.1,G1.o.2.1,G2.o.2.1,G2.o.2.2];rfl
 exact absurd iG.o h1
theorem uF{w:World}{q si b off op f:Nat}{c:Cl}{kv fv rv:Value}{l:List Fd}{r:List Stt}(oS:op=1)(hr:tg w q si fv rv l r)(hn:gJ w b off op f c kv)(jy:Okc c)(lC:∀ x∈r,Oks x) :
  Calls Tryz.prog 160 #[.pointer (some ⟨q,0,none⟩),.pointer (some ⟨b,off,none⟩)] w fun e w'=>e=.returned (b3V (kx l r op f c))/\Below w.heap.size w w':=by
 have iG:=ae oS;clear oS;have HO:=ae jy;have np:=ae lC;have Yl:=ae (fun h=>EN (l:=l) (r:=r) (op:=op) (f:=f) (c:=c) h);have UG:=ae (fun(j:Nat) h hj=>EO (l:=l) (r:=r) (op:=op) (f:=f) (c:=c) (j:=j) h hj);have BX:=ae (fun(j:Nat) h hj=>NN (l:=l) (r:=r) (op:=op) (f:=f) (c:=c) (j:=j) h hj);generalize kx l r op f c=R at *;have dv:=Flg.new w (false,false,false);have aH:=ak w (.cells #[.bool false,.bool false,.bool false] 123);simp only at dv;have aR:=ae aH;have HR:=ae (hr.kept aH);have HN:=ae (hn.kept aH);have gg:=ae dv;have jx:(w.alloc (.cells #[.bool false,.bool false,.bool false] 123)).heap.size=w.heap.size+1:=jdi _ _;have rS:=ae jx;generalize hA:w.alloc (.cells #[.bool false,.bool false,.bool false] 123)=A at *;clear hr hn dv aH jy lC jx;have rZ:=ae (fun(U:World) (hU:Below A.heap.size A U)=>sN (HR.o.2.2.2.2.1.kept hU) si f);obtain⟨Qp,y0,y1,y2,xX,ie⟩:=HR.o;obtain⟨dY,x0,x1,x2,x3,x4,x5⟩:=HN.o;obtain⟨fa,fcap,rfl,hfc,VK⟩:=xX.form;obtain⟨ra,rcap,rfl,hrc,hrm⟩:=ie.form;clear xX ie;have ZG:∀ s:bM (fun x=>Below A.heap.size A x),s.w.cell? ⟨q,0,none⟩=some (.int .u32 (si:Int)):=fun s=>(s.ok.cell (p:=⟨q,0,none⟩) Qp).trans y0
 have As:∀ s:bM (fun x=>Below A.heap.size A x),s.w.cell? ⟨q,1,none⟩=some (.slice fa l.length fcap):=fun s=>(s.ok.cell (p:=⟨q,1,none⟩) Qp).trans y1
 have Cb:∀ s:bM (fun x=>Below A.heap.size A x),s.w.cell? ⟨b,off+1,none⟩=some (.int .u32 (f:Int)):=fun s=>(s.ok.cell (p:=⟨b,off+1,none⟩) dY).trans x1
 haveI:Nonempty (bM (fun x=>Below A.heap.size A x)):=⟨bM.mk A (jdg _ _)⟩
 go_enter Tryz.func160,Tryz.ntmps160
 go_wp2_with fail;refine cx (S:=fun x=>Below A.heap.size A x) (by kernel_rfl) (by kernel_rfl) (by first | exact(jdg _ _).drew | (rw[hA];exact(jdg _ _).drew)) ?_;repeat (go_big_quiet_step ((go_at_call 193;exact(rZ.o _ (bM.ok _)).mono (fun e w' h=>⟨h.1,bM.mk w' (ai (bM.ok _) h.2),rfl⟩))))
 refine wpQuiet_nil ?_;rintro _ ⟨s2,rfl⟩;obtain⟨w2,py⟩:∃ x,x=s2.w:=⟨_,rfl⟩;have aE:=s2.ok;rw[← py]at aE ⊢;have aO:=ae (ai aR.o aE);have jd:=ae (HR.o.kept aE);have FO:=ae (HN.o.kept aE);have gD:=ae (gg.o.kept aE);have LM:jfb (w.heap.size<w2.heap.size):=ae (by have:=aE.size;have:=rS.o;omega);clear py aE ZG As Cb x0 x1 x2 x3 x4 x5 y0 y1 y2 HR HN gg hA Qp dY;obtain⟨⟨p0,p1,p2⟩,⟨t0,t1,t2⟩,_⟩:=gD.o.facts;cases hp:iI l f with
 | none =>
  have HA:=ae (Yl.o hp);simp only[Option.isSome_none,Option.getD_none];clear hp Yl UG BX;go_wp2_with fail;refine bodyPost_ret (v:=.agg #[.bool true,.bool true,.bool true]) (by simp[results,Tryz.results160,go_sem,p0,p1,p2]) rfl ⟨?_,set3 aO.o (jdh _) _ _ _⟩;rw[HA.o];rfl
 | some j =>
  simp only[Option.isSome_some,Option.getD_some];by_cases hj:j<r.length
  ·have HA:=ae (BX.o j hp hj)
   obtain⟨Qp,y0,y1,y2,_,ie⟩:=jd.o;have hj':¬ (j:Int)>=(r.length:Int):=(by omega);have Qd:(j:Int)<(r.length:Int):=(by omega);obtain⟨rb,roff,rfl,iM⟩:=ie.at hj;have HOS:=ae (np.o r[j] (jdl hj));generalize r[j]=st at *;have UR:=ae iM;obtain⟨srows,snulls,ssome,shigh,slo,shi⟩:=st;have hst':=iM;obtain⟨hrb,⟨d0,d1,d2,d3⟩,⟨d4,d5,d6⟩,d7,d8,d9⟩:=hst';simp only at d0 d1 d2 d3 d4 d5 d6 d7 d8 d9;have bN:=ae (ai aO.o (ak w2 (.cells #[.int .i64 srows,.int .i64 snulls,.bool ssome,.bool shigh,.int .u8 (slo.1:Int),.int .i64 slo.2.1,.string (am slo.2.2),.int .u8 (shi.1:Int),.int .i64 shi.2.1,.string (am shi.2.2)] 54)));have aQ:=ak w2 (.cells #[.int .i64 srows,.int .i64 snulls,.bool ssome,.bool shigh,.int .u8 (slo.1:Int),.int .i64 slo.2.1,.string (am slo.2.2),.int .u8 (shi.1:Int),.int .i64 shi.2.1,.string (am shi.2.2)] 54);have hS3:=Stb.new w2 (⟨srows,snulls,ssome,shigh,slo,shi⟩:Stt);simp only at hS3;have HN3:=ae (FO.o.kept aQ);have qp:=ae (gD.o.kept aQ);have s3:(w2.alloc (.cells #[.int .i64 srows,.int .i64 snulls,.bool ssome,.bool shigh,.int .u8 (slo.1:Int),.int .i64 slo.2.1,.string (am slo.2.2),.int .u8 (shi.1:Int),.int .i64 shi.2.1,.string (am shi.2.2)] 54)).heap.size=w2.heap.size+1:=jdi _ _;have no:=ae hS3;generalize hE:w2.alloc (.cells #[.int .i64 srows,.int .i64 snulls,.bool ssome,.bool shigh,.int .u8 (slo.1:Int),.int .i64 slo.2.1,.string (am slo.2.2),.int .u8 (shi.1:Int),.int .i64 shi.2.1,.string (am shi.2.2)] 54)=E at *;have HEZ:jfb (E.heap.size=w2.heap.size+1):=ae s3;clear ie iM hp Yl UG BX np aQ s3 hS3;obtain⟨dY,x0,x1,x2,x3,x4,x5⟩:=HN3.o;obtain⟨_,⟨e0,e1,e2,e3⟩,⟨e4,e5,e6⟩,e7,e8,e9⟩:=no.o.at;simp only[jdK]at e0 e1 e2 e3 e4 e5 e6 e7 e8 e9;obtain⟨⟨p0',p1',p2'⟩,⟨t0',t1',t2'⟩,_⟩:=qp.o.facts;by_cases h5:op=5
   ·exact absurd h5 (by rw[iG.o];omega)
   ·have n5:((op:Int)==5)=false:=jdt.2 (by omega)
    have HAX:jfb (R=if ssome=true then mV (decide (0<snulls)) op c (⟨srows,snulls,ssome,shigh,slo,shi⟩:Stt) else (false,decide (0<snulls),false)):=ae (by rw[HA.o];unfold Hk;rw[jde h5]);clear HA h5;have hfF:=Flg.new E (false,decide (0<snulls),false);have hbF:=ak E (.cells #[.bool false,.bool (decide (0<snulls)),.bool false] 123);simp only at hfF;have sF:(E.alloc (.cells #[.bool false,.bool (decide (0<snulls)),.bool false] 123)).heap.size=E.heap.size+1:=jdi _ _;have Qf:=ae hfF;have HNF:=ae (HN3.o.kept hbF);have uM:jfb (∀ X,Below (E.alloc (.cells #[.bool false,.bool (decide (0<snulls)),.bool false] 123)).heap.size (E.alloc (.cells #[.bool false,.bool (decide (0<snulls)),.bool false] 123)) X->Hn X w2.heap.size 0 (⟨srows,snulls,ssome,shigh,slo,shi⟩:Stt)/\Flg X w.heap.size (false,false,false)/\Flg X E.heap.size (false,decide (0<snulls),false)):=ae (fun X h=>⟨(no.o.at.kept hbF).kept h,(qp.o.kept hbF).kept h,Qf.o.kept h⟩);have ce:=ae (ai bN.o hbF);obtain⟨⟨_,⟨g0,g1,g2,g3⟩,⟨g4,g5,g6⟩,g7,g8,g9⟩,hfg,hfh⟩:=uM.o _ (jdg _ _);simp only[jdK]at g0 g1 g2 g3 g4 g5 g6 g7 g8 g9;obtain⟨⟨u0,u1,u2⟩,⟨s0,s1,s2'⟩,_⟩:=hfg.facts;obtain⟨⟨v0,v1,v2⟩,⟨q0',q1',q2'⟩,hvz⟩:=hfh.facts;clear hfF hbF sF hfg hfh;have HEW:jfb (w.heap.size<E.heap.size):=ae (by have:=LM.o;have:=HEZ.o;omega);have fQ:¬ E.heap.size=w.heap.size:=by have:=HEW.o;omega
    have yH:¬ w.heap.size=E.heap.size:=by have:=HEW.o;omega
    cases ssome
    ·have HAX':jfb (R=(false,decide (0<snulls),false)):=ae (by rw[HAX.o];rfl)
     go_wp2_with fail;have xH:∀(X:World) (o:Obj) (i:Nat),w.heap.size<X.heap.size->(X.alloc o).cell? ⟨w.heap.size,i,none⟩=X.cell? ⟨w.heap.size,i,none⟩:=fun X o i h=>(ak X o).cell h
     have hew:=HEW.o;have Ky:=set3 bN.o (jdh _) (.bool false) (.bool (decide (0<snulls))) (.bool false);refine bodyPost_ret (v:=.agg #[.bool false,.bool (decide (0<snulls)),.bool false]) (by simp[results,Tryz.results160,go_sem,xH,hew,p0',p1',p2']) rfl ⟨?_,Ky.alloc Ky.size _⟩;rw[HAX'.o];rfl
    ·have HAX':jfb (R=mV (decide (0<snulls)) op c ⟨srows,snulls,true,shigh,slo,shi⟩):=ae (by rw[HAX.o];rfl)
     have HC:=ae (fun(U:World) (hU:Below (E.alloc (.cells #[.bool false,.bool (decide (0<snulls)),.bool false] 123)).heap.size (E.alloc (.cells #[.bool false,.bool (decide (0<snulls)),.bool false] 123)) U)=>Pa iG.o (HNF.o.kept hU) HO.o (decide (0<snulls)) ⟨srows,snulls,true,shigh,slo,shi⟩ HOS.o);simp only at HC;generalize mV (decide (0<snulls)) op c ⟨srows,snulls,true,shigh,slo,shi⟩=WM at *;clear HAX;go_wp2_with fail;refine(HC.o _ (jdg _ _)).mono ?_;rintro e w5 ⟨rfl,br⟩;obtain⟨_,hfg,hfh⟩:=uM.o _ br;have aS:=ae (ai ce.o br);clear br u0 u1 u2 s0 s1 s2' v0 v1 v2 q0' q1' q2' g0 g1 g2 g3 g4 g5 g6 g7 g8 g9 hE e0 e1 e2 e3 e4 e5 e6 e7 e8 e9 p0' p1' p2' t0' t1' t2' x0 x1 x2 x3 x4 x5 hvz;obtain⟨⟨u0,u1,u2⟩,⟨s0,s1,s2'⟩,_⟩:=hfg.facts;obtain⟨⟨v0,v1,v2⟩,⟨q0',q1',q2'⟩,hvz⟩:=hfh.facts;clear hfg hfh;unfold b3V;go_wp2_with fail;refine bodyPost_ret (v:=.agg #[.bool WM.1,.bool WM.2.1,.bool WM.2.2]) (by simp[results,Tryz.results160,go_sem,u0,u1,u2,fQ,yH]) rfl ⟨?_,set3 (set3 aS.o (by have:=HEW.o;omega) _ _ _) (jdh _) _ _ _⟩;rw[HAX'.o];rfl
  ·have HA:=ae (UG.o j hp hj)
   obtain⟨_,y0,y1,y2,_,ie⟩:=jd.o;have hj':(j:Int)>=(r.length:Int):=(by omega);clear hp Yl UG BX ie;go_wp2_with fail;refine bodyPost_ret (v:=.agg #[.bool true,.bool true,.bool true]) (by simp[results,Tryz.results160,go_sem,p0,p1,p2]) rfl ⟨?_,set3 aO.o (jdh _) _ _ _⟩;rw[HA.o];rfl
theorem TT{q si:Nat}{fv rv:Value}{l:List Fd}{r:List Stt}(lC:∀ x∈r,Oks x){op f:Nat}{c:Cl}{ks:List PT}(oS:op=1)(jy:Okp (.node op f c ks))(w:World)(b off:Nat)(hr:tg w q si fv rv l r)(ol:jF w b off (.node op f c ks)) :
  Calls Tryz.prog 112 #[.pointer (some ⟨q,0,none⟩),.pointer (some ⟨b,off,none⟩)] w fun e w'=>e=.returned (b3V (oU l r (.node op f c ks)))/\Below w.heap.size w w':=by
 have iG:=ae oS;clear oS;have np:=ae lC;simp only[Okp]at jy;obtain⟨_,_,ZH,FR⟩:=jy;have Ym:=ae ZH;have LJ:=ae FR.get;have XZ:=ae hr;obtain⟨a,cap,KF,KG⟩:=ol.open;have HN0:=ae KF;have HK0:=ae KG;have dv:=Flg.new w (false,false,false);have aH:=ak w (.cells #[.bool false,.bool false,.bool false] 123);simp only at dv;have sA:(w.alloc (.cells #[.bool false,.bool false,.bool false] 123)).heap.size=w.heap.size+1:=jdi _ _;have lA:=ae sA;generalize hA:w.alloc (.cells #[.bool false,.bool false,.bool false] 123)=A at *;have gg:=ae dv;have aR:=ae aH;have rV:=KF.kept aH;obtain⟨_,_,Vd,hkc,Ve⟩:=KG.form;simp only[Value.slice.injEq]at Vd;obtain⟨rfl,_,rfl⟩:=Vd;have hkm':ks.length<=9223372036854775807:=by unfold maxLen at Ve;omega
 obtain⟨dY,x0,x1,x2,x3,x4,x5⟩:=rV;clear hr ol KF KG ZH FR lC Ve dv aH sA;have HD:jfb (oU l r (.node op f c ks)=if op=6 then mayAnd l r ks (false,false,true) else if op=7 then mayOr l r ks (true,false,false) else if op=8 then mayNot l r ks else kx l r op f c):=ae (by simp only[oU]);generalize oU l r (.node op f c ks)=R at *;have h6:¬ op=6:=by rw[iG.o];omega
 have h7:¬ op=7:=by rw[iG.o];omega
 have h8:¬ op=8:=by rw[iG.o];omega
 have n6:((op:Int)==6)=false:=jdt.2 (by omega);have n7:((op:Int)==7)=false:=jdt.2 (by omega);rw[jde h6,jde h7]at HD;obtain⟨⟨p0,p1,p2⟩,⟨t0,t1,t2⟩,hpz⟩:=gg.o.facts;have n8:((op:Int)==8)=false:=jdt.2 (by omega);rw[jde h8]at HD;clear h6 h7 h8;have HC:=ae (uF iG.o (XZ.o.kept aR.o) (HN0.o.kept aR.o) Ym.o np.o);generalize kx l r op f c=ev at *;obtain⟨ev0,ev1,ev2⟩:=ev;go_enter Tryz.func112,Tryz.ntmps112
 go_wp2_with fail;refine HC.o.mono ?_;rintro e w2 ⟨rfl,aE⟩;have aO:=ae (ai aR.o aE);have gD:=ae (gg.o.kept aE);obtain⟨⟨r0,r1,r2⟩,⟨s0,s1,s2⟩,_⟩:=gD.o.facts;clear aE p0 p1 p2 t0 t1 t2 hA;unfold b3V;go_wp2_with fail;refine bodyPost_ret (v:=.agg #[.bool ev0,.bool ev1,.bool ev2]) (by simp[results,Tryz.results112,go_sem,r0,r1,r2]) rfl ⟨?_,set3 aO.o (jdh _) _ _ _⟩;rw[HD.o];rfl
theorem may1{w:World}{op f si:Nat}{c:Cl}{ks:List PT}{kv fv rv:Value}{l:List Fd}{r:List Stt}(oS:op=1)(hk:sQ w kv ks)(jy:Okp (.node op f c ks))(hs:Sf w fv l)(hv:Ss w rv r)(lC:∀ x∈r,Oks x) :
  Calls Tryz.prog 66 #[.agg #[.int .u8 (op:Int),.int .u32 (f:Int),.int .u8 (c.1:Int),.int .i64 c.2.1,.string (am c.2.2),kv],.agg #[.int .u32 (si:Int),fv],rv] w fun e w'=>e=.returned (b3V (oU l r (.node op f c ks)))/\Below w.heap.size w w':=by
 have HC:=ae (fun(U:World) (b off q:Nat) hr hl=>TT (q:=q) (si:=si) (fv:=fv) (rv:=rv) (l:=l) lC oS jy U b off hr hl);have iG:=ae oS;clear oS;have HK:=ae hk;have HS:=ae hs;have HV:=ae hv;generalize oU l r (.node op f c ks)=R at *;obtain⟨R0,R1,R2⟩:=R;obtain⟨ka,kcap,rfl,_,_⟩:=hk.form;obtain⟨fa,fcap,rfl,_,_⟩:=hs.form;obtain⟨ra,rcap,rfl,_,_⟩:=hv.form;clear hk hs hv jy lC;have hn:=wW w op f c (.slice ka ks.length kcap);have aH:=ak w (.cells #[.int .u8 (op:Int),.int .u32 (f:Int),.int .u8 (c.1:Int),.int .i64 c.2.1,.string (am c.2.2),.slice ka ks.length kcap] 63);generalize hA:w.alloc (.cells #[.int .u8 (op:Int),.int .u32 (f:Int),.int .u8 (c.1:Int),.int .i64 c.2.1,.string (am c.2.2),.slice ka ks.length kcap] 63)=A at *;have aE:=ak A (.cells #[.int .u32 (si:Int),.slice fa l.length fcap] 25);obtain⟨e0,e1⟩:=bF A (.int .u32 (si:Int)) (.slice fa l.length fcap) 25;have hzA:A.heap.size<(A.alloc (.cells #[.int .u32 (si:Int),.slice fa l.length fcap] 25)).heap.size:=by rw[jdi];omega
 generalize hB:A.alloc (.cells #[.int .u32 (si:Int),.slice fa l.length fcap] 25)=B at *;have aQ:=ak B (.cells #[.bool false,.bool false,.bool false] 123);have iz:=Flg.new B (false,false,false);simp only at iz;have g0:=(aQ.cell (p:=⟨A.heap.size,0,none⟩) hzA).trans e0;have g1:=(aQ.cell (p:=⟨A.heap.size,1,none⟩) hzA).trans e1;generalize hC:B.alloc (.cells #[.bool false,.bool false,.bool false] 123)=C at *;have bw:=ak C (.cells #[.int .u32 (si:Int),.slice fa l.length fcap,.slice ra r.length rcap] 175);obtain⟨k0,k1,k2⟩:=dH C (.int .u32 (si:Int)) (.slice fa l.length fcap) (.slice ra r.length rcap) 175;have hz:C.heap.size<(C.alloc (.cells #[.int .u32 (si:Int),.slice fa l.length fcap,.slice ra r.length rcap] 175)).heap.size:=by rw[jdi];omega
 generalize hD:C.alloc (.cells #[.int .u32 (si:Int),.slice fa l.length fcap,.slice ra r.length rcap] 175)=D at *;have lm:Below w.heap.size w D:=ai (ai (ai aH aE) aQ) bw;have FS:jfb (tg D C.heap.size si (.slice fa l.length fcap) (.slice ra r.length rcap) l r):=ae ⟨hz,k0,k1,k2,HS.o.kept lm,HV.o.kept lm⟩;have rR:jfb (jF D w.heap.size 0 (.node op f c ks)):=ae (jF.shut (((hn.kept aE).kept aQ).kept bw) (HK.o.kept lm));have nr:=ae lm;have VS:=ae (iz.kept bw);have yG:jfb (w.heap.size<=B.heap.size):=ae (by have:=aH.size;have:=aE.size;omega);clear hn aH aE aQ bw lm k0 k1 k2 hz iz;go_enter Tryz.func66,Tryz.ntmps66
 go_wp2_with fail;refine(HC.o _ _ _ _ FS.o rR.o).mono ?_;rintro e w2 ⟨rfl,aE⟩;have aO:=ae (ai nr.o aE);obtain⟨⟨r0,r1,r2⟩,⟨s0,s1,s2⟩,_⟩:=(VS.o.kept aE).facts;clear aE hA hB hC hD e0 e1 g0 g1;unfold b3V;go_wp2_with fail;refine bodyPost_ret (v:=.agg #[.bool R0,.bool R1,.bool R2]) (by simp[results,Tryz.results66,go_sem,r0,r1,r2]) rfl ⟨?_,set3 aO.o yG.o _ _ _⟩;rfl
theorem held1{w:World}{b off op f:Nat}{c x:Cl}{kv:Value}(oS:op=1)(hn:gJ w b off op f c kv)(jy:Okc c)(hl:c.2.2.length<=300)(hf:aV x):Calls Tryz.prog 222 #[.pointer (some ⟨b,off,none⟩),dh x] w fun e w'=>e=.returned (.int .u8 (Sy op c x:Int))/\Below w.heap.size w w':=by
 have iG:=ae oS;clear oS;have HF:=ae hf;have HO:=ae jy;have HL:=ae hl;have HN:=ae hn;obtain⟨dY,x0,x1,x2,x3,x4,x5⟩:=hn;clear hf jy hl;go_enter Tryz.func222,Tryz.ntmps222
 go_wp2_with fail;refine(oI HO.o _).mono ?_;rintro e w1 ⟨rfl,aH⟩;have aR:=ae aH;clear x0 x1 x2 x3 x4 x5 dY;have Kn:=ae (HN.o.kept aH);clear aH HN;go_wp2_with fail;refine(kw HF.o.val (iS HO.o).val _).mono ?_;rintro e w2 ⟨rfl,aE⟩;have aO:=ae (ai aR.o aE);obtain⟨dY,x0,x1,x2,x3,x4,x5⟩:=Kn.o.kept aE;clear aE aR Kn;obtain⟨m,hm⟩:∃ m,m=cQ x (cp c):=⟨_,rfl⟩;have oW:cv (x.1:Int) x.2.1 (am x.2.2) ((cp c).1:Int) (cp c).2.1 (am (cp c).2.2)=m:=hm.symm;rw[oW];have HM:=ae hm;clear hm oW;by_cases h1:op=1
 ·subst h1
  go_wp2_with fail;refine(Li _ _).mono ?_;rintro e w3 ⟨rfl,rfl⟩;go_wp2_with fail;go_ret
  refine⟨?_,aO.o⟩;rw[HM.o];rfl
 exact absurd iG.o h1
theorem xA{w:World}{q si b off op f:Nat}{c:Cl}{kv fv rv:Value}{l:List Fd}{r:List Cl}(oS:op=1)(hr:zG w q si fv rv l r)(hn:gJ w b off op f c kv)(jy:Okc c)(hl:c.2.2.length<=300)(lC:∀ x∈r,aV x) :
  Calls Tryz.prog 196 #[.pointer (some ⟨q,0,none⟩),.pointer (some ⟨b,off,none⟩)] w fun e w'=>e=.returned (.int .u8 (pp l r op f c:Int))/\Below w.heap.size w w':=by
 have iG:=ae oS;clear oS;have HR:=ae hr;have HN:=ae hn;have HO:=ae jy;have HL:=ae hl;have np:=ae lC;have rZ:=ae (fun(U:World) (hU:Below w.heap.size w U)=>sN (hr.2.2.2.2.1.kept hU) si f);have Yl:=ae (fun h=>Hl (l:=l) (r:=r) (op:=op) (f:=f) (c:=c) h);have UG:=ae (fun(j:Nat) h hj=>Hm (l:=l) (r:=r) (op:=op) (f:=f) (c:=c) (j:=j) h hj);have BX:=ae (fun(j:Nat) h hj=>SA (l:=l) (r:=r) (op:=op) (f:=f) (c:=c) (j:=j) h hj);generalize pp l r op f c=R at *;obtain⟨Qp,y0,y1,y2,xX,ie⟩:=hr;obtain⟨dY,x0,x1,x2,x3,x4,x5⟩:=hn;obtain⟨fa,fcap,rfl,hfc,VK⟩:=xX.form;obtain⟨ra,rcap,rfl,hrc,hrm⟩:=ie.form1;rw[aG]at *;clear xX ie jy hl lC;have ZG:∀ s:bM (fun x=>Below w.heap.size w x),s.w.cell? ⟨q,0,none⟩=some (.int .u32 (si:Int)):=fun s=>(s.ok.cell (p:=⟨q,0,none⟩) Qp).trans y0
 have As:∀ s:bM (fun x=>Below w.heap.size w x),s.w.cell? ⟨q,1,none⟩=some (.slice fa l.length fcap):=fun s=>(s.ok.cell (p:=⟨q,1,none⟩) Qp).trans y1
 have Cb:∀ s:bM (fun x=>Below w.heap.size w x),s.w.cell? ⟨b,off+1,none⟩=some (.int .u32 (f:Int)):=fun s=>(s.ok.cell (p:=⟨b,off+1,none⟩) dY).trans x1
 haveI:Nonempty (bM (fun x=>Below w.heap.size w x)):=⟨bM.mk w (jdg _ _)⟩
 go_enter Tryz.func196,Tryz.ntmps196
 go_wp2_with fail;refine cx (S:=fun x=>Below w.heap.size w x) (by kernel_rfl) (by kernel_rfl) (jdg _ _).drew ?_;repeat (go_big_quiet_step ((go_at_call 193;exact(rZ.o _ (bM.ok _)).mono (fun e w' h=>⟨h.1,bM.mk w' (ai (bM.ok _) h.2),rfl⟩))))
 refine wpQuiet_nil ?_;rintro _ ⟨s2,rfl⟩;obtain⟨w2,py⟩:∃ x,x=s2.w:=⟨_,rfl⟩;have aE:=s2.ok;rw[← py]at aE ⊢;have aO:=ae aE;have jd:=ae (HR.o.kept aE);have FO:=ae (HN.o.kept aE);have bn:=aE.size;clear py aE ZG As Cb x0 x1 x2 x3 x4 x5 y0 y1 y2 HR HN;cases hp:iI l f with
 | none =>
  have HA:=ae (Yl.o hp);simp only[Option.isSome_none,Option.getD_none];clear hp Yl UG BX;go_wp2_with fail;go_ret
  rw[HA.o];exact⟨rfl,aO.o⟩
 | some j =>
  simp only[Option.isSome_some,Option.getD_some];by_cases hj:j<r.length
  ·have HA:=ae (BX.o j hp hj)
   obtain⟨_,y0,y1,y2,_,ie⟩:=jd.o;have hj':¬ (j:Int)>=(r.length:Int):=(by omega);have Qd:(j:Int)<(r.length:Int):=(by omega);obtain⟨rb,roff,rfl,hrb,z⟩:=ie.at1 (cM hj);have HF:=ae (np.o r[j] (jdl hj));generalize r[j]=x at *;have Ah:=ae ie;clear ie hp Yl UG BX np;go_wp2_with fail;refine(Lh HF.o _).mono ?_;rintro e w3 ⟨rfl,rfl⟩;have HNK:=FO.o;obtain⟨hb0',x0,x1,x2,x3,x4,x5⟩:=HNK;by_cases h5:op=5
   ·subst h5
    go_wp2_with fail;refine(Li _ _).mono ?_;rintro e w4 ⟨rfl,rfl⟩;go_wp2_with fail;go_ret
    refine⟨?_,aO.o⟩;rw[HA.o];unfold DR;rw[jdf rfl];have e1:((x.1:Int)==0)=decide (x.1=0):=by rw[jeI];simp
    rw[e1];rfl
   ·have n5:((op:Int)==5)=false:=jdt.2 (by omega)
    by_cases hx:x.1=0
    ·have hx':((x.1:Int)==0)=true:=by rw[hx];rfl
     have HA':jfb (R=1):=ae (by rw[HA.o];unfold DR;rw[jde h5,jdf hx]);clear h5 hx;go_wp2_with fail;go_ret
     rw[HA'.o];exact⟨rfl,aO.o⟩
    ·have hx':((x.1:Int)==0)=false:=jdt.2 (by omega)
     have HA':jfb (R=Sy op c x):=ae (by rw[HA.o];unfold DR;rw[jde h5,jde hx]);clear h5 hx;go_wp2_with fail;refine(held1 iG.o FO.o HO.o HL.o HF.o).mono ?_;rintro e w4 ⟨rfl,bw⟩;have ce:=ae bw;clear bw;go_wp2_with fail;go_ret
     rw[HA'.o];exact⟨rfl,ai aO.o ce.o⟩
  ·have HA:=ae (UG.o j hp hj)
   obtain⟨_,y0,y1,y2,_,ie⟩:=jd.o;have hj':(j:Int)>=(r.length:Int):=(by omega);clear hp Yl UG BX ie;go_wp2_with fail;go_ret
   rw[HA.o];exact⟨rfl,aO.o⟩
theorem Xx{q si:Nat}{fv rv:Value}{l:List Fd}{r:List Cl}(lC:∀ x∈r,aV x){op f:Nat}{c:Cl}{ks:List PT}(oS:op=1)(jy:Okp (.node op f c ks))(bR:Len (.node op f c ks))(w:World)(b off:Nat)(hr:zG w q si fv rv l r)(ol:jF w b off (.node op f c ks)) :
  Calls Tryz.prog 161 #[.pointer (some ⟨q,0,none⟩),.pointer (some ⟨b,off,none⟩)] w fun e w'=>e=.returned (.int .u8 (jr l r (.node op f c ks):Int))/\Below w.heap.size w w':=by
 have iG:=ae oS;clear oS;have np:=ae lC;have HR:=ae hr;simp only[Okp]at jy;simp only[Len]at bR;obtain⟨_,_,ZH,FR⟩:=jy;obtain⟨hl,hlks⟩:=bR;have Ym:=ae ZH;have LJ:=ae FR.get;have HL:=ae hl;have HLK:=ae hlks.get;obtain⟨a,cap,rV,om⟩:=ol.open;have HN:=ae rV;have HK:=ae om;have hkf:=om.form;obtain⟨_,_,Vd,hkc,Ve⟩:=hkf;simp only[Value.slice.injEq]at Vd;obtain⟨rfl,_,rfl⟩:=Vd;have hkm':ks.length<=9223372036854775807:=by unfold maxLen at Ve;omega
 obtain⟨dY,x0,x1,x2,x3,x4,x5⟩:=rV;clear hr ol om ZH FR hl hlks lC Ve;have HD:jfb (jr l r (.node op f c ks)=if op=6 then evalAnd l r ks 2 else if op=7 then evalOr l r ks 0 else if op=8 then evalNot l r ks else pp l r op f c):=ae (by simp only[jr]);generalize jr l r (.node op f c ks)=R at *;have h6:¬ op=6:=by rw[iG.o];omega
 have h7:¬ op=7:=by rw[iG.o];omega
 have h8:¬ op=8:=by rw[iG.o];omega
 have n6:((op:Int)==6)=false:=jdt.2 (by omega);have n7:((op:Int)==7)=false:=jdt.2 (by omega);rw[jde h6,jde h7]at HD;have n8:((op:Int)==8)=false:=jdt.2 (by omega);rw[jde h8]at HD;clear h6 h7 h8;go_enter Tryz.func161,Tryz.ntmps161
 go_wp2_with fail;refine(xA iG.o HR.o HN.o Ym.o HL.o np.o).mono ?_;rintro e w2 ⟨rfl,aE⟩;have aO:=ae aE;clear aE;go_wp2_with fail;go_ret
 rw[HD.o];exact⟨rfl,aO.o⟩
theorem eval1{w:World}{op f si:Nat}{c:Cl}{ks:List PT}{kv fv rv:Value}{l:List Fd}{r:List Cl}(oS:op=1)(hk:sQ w kv ks)(jy:Okp (.node op f c ks))(bR:Len (.node op f c ks))(hs:Sf w fv l)(hv:Sv w rv (aJ r))(lC:∀ x∈r,aV x) :
  Calls Tryz.prog 113 #[.agg #[.int .u8 (op:Int),.int .u32 (f:Int),.int .u8 (c.1:Int),.int .i64 c.2.1,.string (am c.2.2),kv],.agg #[.int .u32 (si:Int),fv],rv] w fun e w'=>e=.returned (.int .u8 (jr l r (.node op f c ks):Int))/\Below w.heap.size w w':=by
 have HC:=ae (fun(U:World) (b off q:Nat) hr hl=>Xx (q:=q) (si:=si) (fv:=fv) (rv:=rv) (l:=l) lC oS jy bR U b off hr hl);have iG:=ae oS;clear oS;have HK:=ae hk;have HS:=ae hs;have HV:=ae hv;generalize jr l r (.node op f c ks)=R at *;obtain⟨ka,kcap,rfl,_,_⟩:=hk.form;obtain⟨fa,fcap,rfl,_,_⟩:=hs.form;obtain⟨ra,rcap,rfl,_,_⟩:=hv.form1;clear hk hs hv jy bR lC;have hn:=wW w op f c (.slice ka ks.length kcap);have aH:=ak w (.cells #[.int .u8 (op:Int),.int .u32 (f:Int),.int .u8 (c.1:Int),.int .i64 c.2.1,.string (am c.2.2),.slice ka ks.length kcap] 63);generalize hA:w.alloc (.cells #[.int .u8 (op:Int),.int .u32 (f:Int),.int .u8 (c.1:Int),.int .i64 c.2.1,.string (am c.2.2),.slice ka ks.length kcap] 63)=A at *;have aE:=ak A (.cells #[.int .u32 (si:Int),.slice fa l.length fcap] 25);obtain⟨e0,e1⟩:=bF A (.int .u32 (si:Int)) (.slice fa l.length fcap) 25;generalize hB:A.alloc (.cells #[.int .u32 (si:Int),.slice fa l.length fcap] 25)=B at *;have aQ:=ak B (.cells #[.int .u32 (si:Int),.slice fa l.length fcap,.slice ra (aJ r).length rcap] 216);obtain⟨g0,g1,g2⟩:=dH B (.int .u32 (si:Int)) (.slice fa l.length fcap) (.slice ra (aJ r).length rcap) 216;have hz:B.heap.size<(B.alloc (.cells #[.int .u32 (si:Int),.slice fa l.length fcap,.slice ra (aJ r).length rcap] 216)).heap.size:=by rw[jdi];omega
 generalize hC:B.alloc (.cells #[.int .u32 (si:Int),.slice fa l.length fcap,.slice ra (aJ r).length rcap] 216)=C at *;have lm:Below w.heap.size w C:=ai (ai aH aE) aQ;have FS:jfb (zG C B.heap.size si (.slice fa l.length fcap) (.slice ra (aJ r).length rcap) l r):=ae ⟨hz,g0,g1,g2,HS.o.kept lm,HV.o.kept lm⟩;have rR:jfb (jF C w.heap.size 0 (.node op f c ks)):=ae (jF.shut ((hn.kept aE).kept aQ) (HK.o.kept lm));have nr:=ae lm;clear hn aH aE aQ lm g0 g1 g2 hz;go_enter Tryz.func113,Tryz.ntmps113
 go_wp2_with fail;refine(HC.o _ _ _ _ FS.o rR.o).mono ?_;rintro e w2 ⟨rfl,aE⟩;have aO:=ae aE;clear aE;go_wp2_with fail;go_ret
 exact⟨rfl,ai nr.o aO.o⟩
theorem Xy{w:World}{b off op f si:Nat}{c:Cl}{a:Option Addr}{n cap:Nat}{fv:Value}{l:List Fd}(oS:op=1)(hn:gJ w b off op f c (.slice a n cap))(hs:Sf w fv l)(jy:Okc c):Calls Tryz.prog 154 #[.pointer (some ⟨b,off,none⟩),.agg #[.int .u32 (si:Int),fv]] w fun e w'=>e=.returned (.int .i64 (nS l op f c n))/\Below w.heap.size w w':=by
 have iG:=ae oS;clear oS;obtain⟨fa,fcap,rfl,hfc,VK⟩:=hs.form;have aH:=ak w (.cells #[.int .u32 (si:Int),.slice fa l.length fcap] 25);have aR:=ae aH;obtain⟨e0,e1⟩:=bF w (.int .u32 (si:Int)) (.slice fa l.length fcap) 25;have HS:=ae (hs.kept aH);have HN:=ae (hn.kept aH);have HO:=ae jy;generalize hA:w.alloc (.cells #[.int .u32 (si:Int),.slice fa l.length fcap] 25)=A at *;clear aH hs hn jy;obtain⟨dY,x0,x1,x2,x3,x4,x5⟩:=HN.o;have HD:jfb (nS l op f c n=if 1<=op/\op<=5 then ffM l op f c n else if 6<=op/\op<=8 then fkM op f c n else 90):=ae rfl;generalize nS l op f c n=R at *;by_cases h5:1<=op/\op<=5
 ·rw[jdf h5]at HD
  have HC:=ae (fun(U:World) (hU:Below A.heap.size A U)=>tk (si:=si) (HN.o.kept hU) (HS.o.kept hU) HO.o);generalize ffM l op f c n=R2 at *;have h:=iG.o
  all_goals
   clear iG;subst h;clear h5;go_enter Tryz.func154,Tryz.ntmps154
   go_wp2_with fail;try rw[hA]
   refine(HC.o _ (jdg _ _)).mono ?_;rintro e w2 ⟨rfl,aE⟩;have aO:=ae (ai aR.o aE);clear aE;go_wp2_with fail;go_ret
   rw[HD.o];exact⟨rfl,aO.o⟩
 ·exact absurd (show 1<=op/\op<=5 by rw[iG.o];omega) h5
theorem Fh{si:Nat}{fv:Value}{l:List Fd}{op f:Nat}{c:Cl}{ks:List PT}(oS:op=1)(Vb:ks=[])(jy:Okp (.node op f c ks))(w:World)(b off:Nat)(hs:Sf w fv l)(ol:jF w b off (.node op f c ks)) :
  Calls Tryz.prog 111 #[.pointer (some ⟨b,off,none⟩),.agg #[.int .u32 (si:Int),fv]] w fun e w'=>e=.returned (.int .i64 (mL l (.node op f c ks)))/\Below w.heap.size w w':=by
 have iG:=ae oS;have Yh:=ae Vb;clear oS Vb;simp only[Okp]at jy;obtain⟨_,_,ZH,FR⟩:=jy;have Ym:=ae ZH;have LJ:=ae FR.get;obtain⟨fa,fcap,rfl,hfc,VK⟩:=hs.form;have aH:=ak w (.cells #[.int .u32 (si:Int),.slice fa l.length fcap] 25);have aR:=ae aH;obtain⟨e0,e1⟩:=bF w (.int .u32 (si:Int)) (.slice fa l.length fcap) 25;have hz:w.heap.size<(w.alloc (.cells #[.int .u32 (si:Int),.slice fa l.length fcap] 25)).heap.size:=by rw[jdi];omega
 have HS:=ae (hs.kept aH);obtain⟨a,cap,rV,om⟩:=(jF.kept aH _ _ _ ol).open;generalize hA:w.alloc (.cells #[.int .u32 (si:Int),.slice fa l.length fcap] 25)=A at *;have HN:=ae rV;have HK:=ae om;have hkf:=om.form;obtain⟨_,_,Vd,hkc,Ve⟩:=hkf;simp only[Value.slice.injEq]at Vd;obtain⟨rfl,_,rfl⟩:=Vd;have hkm':ks.length<=9223372036854775807:=by unfold maxLen at Ve;omega
 clear aH hs ol rV om ZH FR Ve;have HD:jfb (mL l (.node op f c ks)=if nS l op f c ks.length≠0 then nS l op f c ks.length else firstAll l ks):=ae (by simp only[mL]);generalize mL l (.node op f c ks)=R at *;have HC:=ae (fun(U:World) (hU:Below A.heap.size A U)=>Xy iG.o (si:=si) (HN.o.kept hU) (HS.o.kept hU) Ym.o);generalize nS l op f c ks.length=e1v at *;go_enter Tryz.func111,Tryz.ntmps111
 go_wp2_with fail;try rw[hA]
 refine(HC.o _ (jdg _ _)).mono ?_;rintro e w2 ⟨rfl,aE⟩;have aO:=ae aE;have FO:=ae (HN.o.kept aE);have g0:=(aE.cell (p:=⟨w.heap.size,0,none⟩) hz).trans e0;have g1:=(aE.cell (p:=⟨w.heap.size,1,none⟩) hz).trans e1;have bn:=jdD hz aE.size;have hzA:=aE.size;clear aE e0 e1 hA;by_cases h0:e1v=0
 ·subst h0
  rw[jde (by simp)]at HD;have HD':jfb (R=firstAll l (ks.drop 0)):=HD;clear HD;obtain⟨dY,x0,x1,x2,x3,x4,x5⟩:=FO.o;go_wp2_with fail;clear x0 x1 x2 x3 x4 x5;go_loopw [19] (fun i wr=>∃ k:Nat,k<=ks.length/\i=.int .i64 (k:Int)/\R=firstAll l (ks.drop k)/\Below w2.heap.size w2 wr) (fun i _=>ks.length-(intOf i).toNat)
  case atStart=>exact⟨0,by omega,rfl,HD'.o,jdg _ _⟩
  case round =>
   obtain⟨k,hk,rfl,lz,az⟩:=hrel;have HF:=ae lz;have HB:=ae az;have bP:=az.size;clear lz az HD';by_cases aC:k<ks.length
   ·exact absurd aC (by rw[Yh.o];simp)
   ·obtain rfl:k=ks.length:=by omega
    have gL:¬ ((ks.length:Nat):Int)<(ks.length:Int):=(by omega);have HT:=ae (HF.o.trans BM);clear HF;go_wp2_with fail;go_ret
    rw[HT.o];exact⟨rfl,ai aR.o (ai aO.o HB.o)⟩
 ·rw[jdf h0]at HD
  have h0':(e1v != 0)=true:=by simpa using h0
  clear h0;go_wp2_with fail;go_ret
  rw[HD.o];exact⟨rfl,ai aR.o aO.o⟩
theorem room1{op f:Nat}{c:Cl}{ks:List PT}(Vb:ks=[])(w:World)(b off m d:Nat)(hm:m<100)(hd:d<100)(ol:jF w b off (.node op f c ks)):Calls Tryz.prog 110 #[.pointer (some ⟨b,off,none⟩),.int .i64 (m:Int),.int .i64 (d:Int)] w (Ff w (.node op f c ks) m d):=by
 have Yh:=ae Vb;clear Vb;obtain⟨a,cap,rV,om⟩:=ol.open;have HK:=ae om;have hkf:=om.form;obtain⟨_,_,Vd,hkc,Ve⟩:=hkf;simp only[Value.slice.injEq]at Vd;obtain⟨rfl,_,rfl⟩:=Vd;have hkm':ks.length<=9223372036854775807:=by unfold maxLen at Ve;omega
 clear ol om Ve;obtain⟨dY,x0,x1,x2,x3,x4,x5⟩:=rV;have HP0:jfb (∀ w',m=0∨d=0->w'=w->Ff w (.node op f c ks) m d (.returned (.int .i64 (-1))) w'):=ae (fun w' h hw=>⟨⟨-1,rfl,by omega,by omega,fun _ _ _ _ h1 h2=>by omega⟩,hw⟩);by_cases hm0:m=0
 ·subst hm0
  go_enter Tryz.func110,Tryz.ntmps110
  go_wp2_with fail;go_ret
  exact HP0.o _ (by simp) rfl
 have hm0':((m:Int)==0)=false:=jdt.2 (by omega);by_cases hd0:d=0
 ·subst hd0
  go_enter Tryz.func110,Tryz.ntmps110
  go_wp2_with fail;go_ret
  exact HP0.o _ (by simp) rfl
 have hd0':((d:Int)==0)=false:=jdt.2 (by omega);have HMD:jfb (0<m/\0<d/\m<100/\d<100):=ae ⟨by omega,by omega,hm,hd⟩;clear HP0;go_enter Tryz.func110,Tryz.ntmps110
 go_wp2_with fail;go_loopw [1,21] (fun s i wr=>∃ k n:Nat,k<=ks.length/\i=.int .i64 (k:Int)/\s=.int .i64 (n:Int)/\n<100/\(k=0->(n:Int)=(m:Int)-1)/\wr=w) (fun _ i _=>ks.length-(intOf i).toNat)
 case atStart=>exact⟨0,m-1,by omega,rfl,by congr 1;omega,by omega,fun _=>by omega,rfl⟩
 case round =>
  obtain⟨k,n,hk,rfl,rfl,hn,qs,rfl⟩:=hrel;have HN0:=ae qs;clear qs;by_cases aC:k<ks.length
  ·exact absurd aC (by rw[Yh.o];simp)
  ·obtain rfl:k=ks.length:=by omega
   have gL:¬ ((ks.length:Nat):Int)<(ks.length:Int):=(by omega);go_wp2_with fail;go_ret
   exact⟨⟨(n:Int),rfl,by omega,by omega,fun op' f' c' h _ _=>HN0.o (by simp only[PT.node.injEq]at h;rw[h.2.2.2];rfl)⟩,rfl⟩
theorem jaY{w:World}{op f si:Nat}{c:Cl}{ks:List PT}{kv fv:Value}{l:List Fd}(oS:op=1)(Vb:ks=[])(hk:sQ w kv ks)(jy:Okp (.node op f c ks))(hs:Sf w fv l) :
  Calls Tryz.prog 65 #[.agg #[.int .u8 (op:Int),.int .u32 (f:Int),.int .u8 (c.1:Int),.int .i64 c.2.1,.string (am c.2.2),kv],.agg #[.int .u32 (si:Int),fv]] w (NW w l (.node op f c ks)):=by
 have iG:=ae oS;have Yh:=ae Vb;clear oS Vb;have HK:=ae hk;have HS:=ae hs;have HO:=ae jy;obtain⟨ka,kcap,rfl,_,_⟩:=hk.form;obtain⟨fa,fcap,rfl,_,_⟩:=hs.form;clear hk hs jy;have hn:=wW w op f c (.slice ka ks.length kcap);have aH:=ak w (.cells #[.int .u8 (op:Int),.int .u32 (f:Int),.int .u8 (c.1:Int),.int .i64 c.2.1,.string (am c.2.2),.slice ka ks.length kcap] 63);generalize hA:w.alloc (.cells #[.int .u8 (op:Int),.int .u32 (f:Int),.int .u8 (c.1:Int),.int .i64 c.2.1,.string (am c.2.2),.slice ka ks.length kcap] 63)=A at *;have aE:=ak A (.cells #[.int .u32 (si:Int),.slice fa l.length fcap] 25);obtain⟨e0,e1⟩:=bF A (.int .u32 (si:Int)) (.slice fa l.length fcap) 25;generalize hB:A.alloc (.cells #[.int .u32 (si:Int),.slice fa l.length fcap] 25)=B at *;have lm:Below w.heap.size w B:=ai aH aE;have rR:jfb (jF B w.heap.size 0 (.node op f c ks)):=ae (jF.shut (hn.kept aE) (HK.o.kept lm));have HSB:=ae (HS.o.kept lm);have nr:=ae lm;clear hn aH aE lm;go_enter Tryz.func65,Tryz.ntmps65
 go_wp2_with fail;refine(room1 Yh.o _ _ _ 32 8 (by omega) (by omega) rR.o).mono ?_;rintro e w2 ⟨⟨z,rfl,cY,bn,iD⟩,rfl⟩;have HZ3:=ae iD;clear iD;by_cases hz:z<0
 ·go_wp2_with fail
  go_ret
  exact⟨⟨90,rfl,fun op' f' c' h=>by have:=HZ3.o op' f' c' h (by omega) (by omega);omega⟩,nr.o⟩
 ·go_wp2_with fail
  refine(Fh iG.o Yh.o HO.o _ _ _ HSB.o rR.o).mono ?_;rintro e w3 ⟨rfl,aQ⟩;have bN:=ae aQ;clear aQ;go_wp2_with fail;go_ret
  exact⟨⟨_,rfl,fun _ _ _ _=>rfl⟩,ai nr.o bN.o⟩
end Go.Proofs.YtpljdjmpamjkhaaGreatDoor
