import Derived.Test.YtpljdjmpamjkhaaGreatDoorYbj
import Derived.Test.YtpljdjmpamjkhaaGreatDoorYas
import Derived.Test.YtpljdjmpamjkhaaGreatDoorYbs
set_option linter.unusedVariables false
set_option linter.unusedSimpArgs false
set_option maxRecDepth 100000
set_option maxHeartbeats 8000000
namespace Go.Proofs.YtpljdjmpamjkhaaGreatDoor
open Go.RowKit Go.Lib
theorem L5{w:World}{b off op f:Nat}{c:Cl}{kv:Value}(oE:op=1)(hn:gH w b off op f c kv)(jr:Okc c)(u:Bool)(st:Stt)(iK:Oks st) :
  Calls Tryz.prog 194 #[.agg #[.bool false,.bool u,.bool false],.pointer (some ⟨b,off,none⟩),.agg #[.int .i64 st.rows,.int .i64 st.nulls,.bool st.some,.bool st.high,.int .u8 (st.lo.1:Int),.int .i64 st.lo.2.1,.string (am st.lo.2.2),.int .u8 (st.hi.1:Int),.int .i64 st.hi.2.1,.string (am st.hi.2.2)]] w fun e w'=>e=.returned (b3V (mM u op c st))/\Below w.heap.size w w':=by
 have iE:=ae oE;clear oE;have HO:=ae jr;have cP:=ae iK;have dt:=Flg.new w (false,u,false);have aG:=ak w (.cells #[.bool false,.bool u,.bool false] 123);have s1:(w.alloc (.cells #[.bool false,.bool u,.bool false] 123)).heap.size=w.heap.size+1:=ZS _ _;simp only at dt;generalize hA:w.alloc (.cells #[.bool false,.bool u,.bool false] 123)=A at *;have dM:=Stb.new A st;have aD:=ak A (.cells #[.int .i64 st.rows,.int .i64 st.nulls,.bool st.some,.bool st.high,.int .u8 (st.lo.1:Int),.int .i64 st.lo.2.1,.string (am st.lo.2.2),.int .u8 (st.hi.1:Int),.int .i64 st.hi.2.1,.string (am st.hi.2.2)] 54);have s2:(A.alloc (.cells #[.int .i64 st.rows,.int .i64 st.nulls,.bool st.some,.bool st.high,.int .u8 (st.lo.1:Int),.int .i64 st.lo.2.1,.string (am st.lo.2.2),.int .u8 (st.hi.1:Int),.int .i64 st.hi.2.1,.string (am st.hi.2.2)] 54)).heap.size=A.heap.size+1:=ZS _ _;generalize hB:A.alloc (.cells #[.int .i64 st.rows,.int .i64 st.nulls,.bool st.some,.bool st.high,.int .u8 (st.lo.1:Int),.int .i64 st.lo.2.1,.string (am st.lo.2.2),.int .u8 (st.hi.1:Int),.int .i64 st.hi.2.1,.string (am st.hi.2.2)] 54)=B at *;have ix:=Flg.new B (false,false,false);have aP:=ak B (.cells #[.bool false,.bool false,.bool false] 123);simp only at ix;generalize hC:B.alloc (.cells #[.bool false,.bool false,.bool false] 123)=C at *;have s12:B.heap.size=w.heap.size+1+1:=by omega
 have hws:PW w C b off op f c kv u st:=by
  refine⟨ai (ai aG aD) aP,(dt.kept aD).kept aP,?_,by rw[← s12];exact ix,((hn.kept aG).kept aD).kept aP⟩;rw[← s1];have q:=dM;unfold Stb at *;rw[aP.block _ ((Array.getElem?_eq_some_iff.1 q).1)];exact q
 have ZA:=ae hws;obtain⟨kY,eQ,gK,hg3,dW,x0,x1,x2,x3,x4,x5⟩:=hws;clear hn jr iK dt dM ix aG aD aP kY eQ gK hg3;go_enter Tryz.func194,Tryz.ntmps194
 go_wp2_with fail;clear hA hB hC;refine(ol HO.out _).mono ?_;rintro e w1 ⟨rfl,hb⟩;have zO:=ae (ZA.out.kept hb);clear hb x0 x1 x2 x3 x4 x5 dW ZA
 have HQ:Hid (∀ X,PW w X b off op f c kv u st->(X.cell? ⟨w.heap.size+1,3,none⟩=some (.bool st.high)/\X.cell? ⟨w.heap.size+1,4,none⟩=some (.int .u8 (st.lo.1:Int))/\X.cell? ⟨w.heap.size+1,5,none⟩=some (.int .i64 st.lo.2.1)/\X.cell? ⟨w.heap.size+1,6,none⟩=some (.string (am st.lo.2.2))/\X.cell? ⟨w.heap.size+1,7,none⟩=some (.int .u8 (st.hi.1:Int))/\X.cell? ⟨w.heap.size+1,8,none⟩=some (.int .i64 st.hi.2.1)/\X.cell? ⟨w.heap.size+1,9,none⟩=some (.string (am st.hi.2.2)))/\X.cell? ⟨b,off,none⟩=some (.int .u8 (op:Int))):=ae (fun X h=>by
  obtain⟨_,⟨_,_,_,a4⟩,⟨a5,a6,a7⟩,a8,a9,a10⟩:=h.2.2.1.at;simp only[jaf]at *;exact⟨⟨a4,a5,a6,a7,a8,a9,a10⟩,h.2.2.2.2.2.1⟩)
 obtain⟨⟨z3,z4,z5,z6,z7,z8,z9⟩,zo⟩:=HQ.out _ zO.out;clear s1 s2 s12;go_wp2_with fail;refine(ol cP.out.1 _).mono ?_;rintro e w2 ⟨rfl,hb⟩;have na:=ae (zO.out.kept hb);clear hb z3 z4 z5 z6 z7 z8 z9 zo zO;obtain⟨⟨z3,z4,z5,z6,z7,z8,z9⟩,zo⟩:=HQ.out _ na.out;go_wp2_with fail;refine(kn (iQ HO.out).val (iQ cP.out.1).val _).mono ?_;rintro e w3 ⟨rfl,hb⟩;have ym:=ae (na.out.kept hb);clear hb z3 z4 z5 z6 z7 z8 z9 zo na;obtain⟨⟨z3,z4,z5,z6,z7,z8,z9⟩,zo⟩:=HQ.out _ ym.out;obtain⟨m,hm⟩:∃ m,m=cO (ch c) (ch st.lo):=⟨_,rfl⟩;rw[show cv ((ch c).1:Int) (ch c).2.1 (am (ch c).2.2) ((ch st.lo).1:Int) (ch st.lo).2.1 (am (ch st.lo).2.2)=m from hm.symm];have HM:=ae hm;clear hm;go_wp2_with fail;refine(ol cP.out.2 _).mono ?_;rintro e w4 ⟨rfl,hb⟩;have S2:=ae (ym.out.kept hb);clear hb z3 z4 z5 z6 z7 z8 z9 zo ym;obtain⟨⟨z3,z4,z5,z6,z7,z8,z9⟩,zo⟩:=HQ.out _ S2.out;go_wp2_with fail;refine(kn (iQ HO.out).val (iQ cP.out.2).val _).mono ?_;rintro e w5 ⟨rfl,hb⟩;have ZM:=ae (S2.out.kept hb);clear hb z3 z4 z5 z6 z7 z8 z9 zo S2;obtain⟨⟨z3,z4,z5,z6,z7,z8,z9⟩,zo⟩:=HQ.out _ ZM.out;obtain⟨M,hM⟩:∃ m,m=cO (ch c) (ch st.hi):=⟨_,rfl⟩;rw[show cv ((ch c).1:Int) (ch c).2.1 (am (ch c).2.2) ((ch st.hi).1:Int) (ch st.hi).2.1 (am (ch st.hi).2.2)=M from hM.symm];have HMM:=ae hM;clear hM z4 z5 z6 z7 z8 z9 HQ;obtain⟨⟨p0,p1,p2⟩,⟨t0,t1,t2⟩,hpz⟩:=ZM.out.2.1.facts;obtain⟨⟨r0,r1,r2⟩,⟨v0,v1,v2⟩,hrz⟩:=ZM.out.2.2.2.1.facts;have m9:=ae ZM.out.1;have HU:=ae (K7 (iQ HO.out));have H1:=ae (W7 u c st);have H2:=ae (W8 u c st);have H3:=ae (W9 u c st);have H4:=ae (Xa u c st);have H5:=ae (Xb u op c st);rw[← HM.out,← HMM.out]at H1 H2 H3;generalize st.high=hi at *;generalize sj (ch c)=uc at *;obtain⟨R,hR⟩:∃ R,R=mM u op c st:=⟨_,rfl⟩;have HR:=ae hR;clear hR;by_cases h1:op=1
 ·subst h1
  clear H4 H5 HR H2 H3;obtain hmc | hmc | hmc:m<0∨m=0∨0<m:=by omega
  ·have G1:Hid (decide (0<=m)=false/\decide (m=0)=false/\decide (0<m)=false):=ae (by refine⟨?_,?_,?_⟩<;>simp<;>omega)
   have k1:(m==0)=false:=Z1.2 (by omega);have k2:¬ m>=0:=by omega
   have k3:¬ 0<m:=by omega
   clear hmc;cases hi
   ·skip
    go_wp2_with fail;refine bodyPost_ret (v:=.agg #[.bool true,.bool u,.bool false]) (by simp[results,Tryz.results194,go_sem,r0,r1,r2]<;>omega) rfl ⟨?_,set3 ((m9.out.setCell (p:=⟨w.heap.size,2,none⟩) (ZR _) _).setCell (p:=⟨w.heap.size,0,none⟩) (ZR _) _) (by omega) _ _ _⟩;simp only[H1.out,G1.out.1,G1.out.2.1];rfl
   ·obtain hMc | hMc | hMc:M<0∨M=0∨0<M:=by omega
    ·have G2:Hid (decide (0<=M)=false/\decide (M=0)=false/\decide (0<M)=false):=ae (by refine⟨?_,?_,?_⟩<;>simp<;>omega)
     have l1:(M==0)=false:=Z1.2 (by omega);have l2:¬ M>=0:=by omega
     have l3:¬ 0<M:=by omega
     clear hMc;go_wp2_with fail;refine bodyPost_ret (v:=.agg #[.bool true,.bool u,.bool false]) (by simp[results,Tryz.results194,go_sem,r0,r1,r2]<;>omega) rfl ⟨?_,set3 ((m9.out.setCell (p:=⟨w.heap.size,2,none⟩) (ZR _) _).setCell (p:=⟨w.heap.size,0,none⟩) (ZR _) _) (by omega) _ _ _⟩;simp only[H1.out,G1.out.1,G1.out.2.1,G2.out.2.1,G2.out.2.2];rfl
    ·have G2:Hid (decide (0<=M)=true/\decide (M=0)=true/\decide (0<M)=false):=ae (by refine⟨?_,?_,?_⟩<;>simp<;>omega)
     subst hMc;go_wp2_with fail;refine bodyPost_ret (v:=.agg #[.bool true,.bool u,.bool false]) (by simp[results,Tryz.results194,go_sem,r0,r1,r2]<;>omega) rfl ⟨?_,set3 ((m9.out.setCell (p:=⟨w.heap.size,2,none⟩) (ZR _) _).setCell (p:=⟨w.heap.size,0,none⟩) (ZR _) _) (by omega) _ _ _⟩;simp only[H1.out,G1.out.1,G1.out.2.1,G2.out.2.1,G2.out.2.2];rfl
    ·have G2:Hid (decide (0<=M)=true/\decide (M=0)=false/\decide (0<M)=true):=ae (by refine⟨?_,?_,?_⟩<;>simp<;>omega)
     have l1:(M==0)=false:=Z1.2 (by omega);have l2:M>=0:=by omega
     have l3:0<M:=by omega
     clear hMc;go_wp2_with fail;refine bodyPost_ret (v:=.agg #[.bool true,.bool u,.bool false]) (by simp[results,Tryz.results194,go_sem,r0,r1,r2]<;>omega) rfl ⟨?_,set3 ((m9.out.setCell (p:=⟨w.heap.size,2,none⟩) (ZR _) _).setCell (p:=⟨w.heap.size,0,none⟩) (ZR _) _) (by omega) _ _ _⟩;simp only[H1.out,G1.out.1,G1.out.2.1,G2.out.2.1,G2.out.2.2];rfl
  ·have G1:Hid (decide (0<=m)=true/\decide (m=0)=true/\decide (0<m)=false):=ae (by refine⟨?_,?_,?_⟩<;>simp<;>omega)
   subst hmc;cases hi
   ·skip
    go_wp2_with fail;refine bodyPost_ret (v:=.agg #[.bool true,.bool u,.bool true]) (by simp[results,Tryz.results194,go_sem,r0,r1,r2]<;>omega) rfl ⟨?_,set3 ((m9.out.setCell (p:=⟨w.heap.size,2,none⟩) (ZR _) _).setCell (p:=⟨w.heap.size,0,none⟩) (ZR _) _) (by omega) _ _ _⟩;simp only[H1.out,G1.out.1,G1.out.2.1];rfl
   ·obtain hMc | hMc | hMc:M<0∨M=0∨0<M:=by omega
    ·have G2:Hid (decide (0<=M)=false/\decide (M=0)=false/\decide (0<M)=false):=ae (by refine⟨?_,?_,?_⟩<;>simp<;>omega)
     have l1:(M==0)=false:=Z1.2 (by omega);have l2:¬ M>=0:=by omega
     have l3:¬ 0<M:=by omega
     clear hMc;go_wp2_with fail;refine bodyPost_ret (v:=.agg #[.bool true,.bool u,.bool true]) (by simp[results,Tryz.results194,go_sem,r0,r1,r2]<;>omega) rfl ⟨?_,set3 ((m9.out.setCell (p:=⟨w.heap.size,2,none⟩) (ZR _) _).setCell (p:=⟨w.heap.size,0,none⟩) (ZR _) _) (by omega) _ _ _⟩;simp only[H1.out,G1.out.1,G1.out.2.1,G2.out.2.1,G2.out.2.2];rfl
    ·have G2:Hid (decide (0<=M)=true/\decide (M=0)=true/\decide (0<M)=false):=ae (by refine⟨?_,?_,?_⟩<;>simp<;>omega)
     subst hMc;go_wp2_with fail;have ES:=ZM.out.2.1.set 2 (by omega);have BD:Below w.heap.size w (w5.setCell ⟨w.heap.size,2,none⟩ (.bool true)):=m9.out.setCell (p:=⟨w.heap.size,2,none⟩) (ZR _) (.bool true)
     have SG:Flg (w5.setCell ⟨w.heap.size,2,none⟩ (.bool true)) (w.heap.size+1+1) (false,false,false):=by
      have q:=ZM.out.2.2.2.1;unfold Flg at *;rw[heap_setCell_other w5 ⟨w.heap.size,2,none⟩ (w.heap.size+1+1) _ (show w.heap.size+1+1≠w.heap.size by omega)];exact q
     have J3:=ae ES;have yd:=ae SG;have l8:=ae BD;clear ES SG BD p0 p1 p2 t0 t1 t2 r0 r1 r2 v0 v1 v2 z3 zo;refine(HU.out _).mono ?_;rintro e w6 ⟨rfl,dN⟩;obtain⟨⟨p0,p1,p2⟩,⟨t0,t1,t2⟩,_⟩:=(J3.out.kept dN).facts;obtain⟨⟨r0,r1,r2⟩,⟨v0,v1,v2⟩,_⟩:=(yd.out.kept dN).facts;have i5:=ae (ai l8.out dN);clear dN;simp only[setB,Nat.reduceEqDiff,if_true,if_false]at p0 p1 p2;go_wp2_with fail;refine bodyPost_ret (v:=.agg #[.bool (!uc),.bool u,.bool true]) (by simp[results,Tryz.results194,go_sem,r0,r1,r2]<;>omega) rfl ⟨?_,set3 (i5.out.setCell (p:=⟨w.heap.size,0,none⟩) (ZR _) _) (by omega) _ _ _⟩;simp only[H1.out,G1.out.1,G1.out.2.1,G2.out.2.1,G2.out.2.2];rfl
    ·have G2:Hid (decide (0<=M)=true/\decide (M=0)=false/\decide (0<M)=true):=ae (by refine⟨?_,?_,?_⟩<;>simp<;>omega)
     have l1:(M==0)=false:=Z1.2 (by omega);have l2:M>=0:=by omega
     have l3:0<M:=by omega
     clear hMc;go_wp2_with fail;refine bodyPost_ret (v:=.agg #[.bool true,.bool u,.bool false]) (by simp[results,Tryz.results194,go_sem,r0,r1,r2]<;>omega) rfl ⟨?_,set3 ((m9.out.setCell (p:=⟨w.heap.size,2,none⟩) (ZR _) _).setCell (p:=⟨w.heap.size,0,none⟩) (ZR _) _) (by omega) _ _ _⟩;simp only[H1.out,G1.out.1,G1.out.2.1,G2.out.2.1,G2.out.2.2];rfl
  ·have G1:Hid (decide (0<=m)=true/\decide (m=0)=false/\decide (0<m)=true):=ae (by refine⟨?_,?_,?_⟩<;>simp<;>omega)
   have k1:(m==0)=false:=Z1.2 (by omega);have k2:m>=0:=by omega
   have k3:0<m:=by omega
   clear hmc;cases hi
   ·skip
    go_wp2_with fail;refine bodyPost_ret (v:=.agg #[.bool true,.bool u,.bool true]) (by simp[results,Tryz.results194,go_sem,r0,r1,r2]<;>omega) rfl ⟨?_,set3 ((m9.out.setCell (p:=⟨w.heap.size,2,none⟩) (ZR _) _).setCell (p:=⟨w.heap.size,0,none⟩) (ZR _) _) (by omega) _ _ _⟩;simp only[H1.out,G1.out.1,G1.out.2.1];rfl
   ·obtain hMc | hMc | hMc:M<0∨M=0∨0<M:=by omega
    ·have G2:Hid (decide (0<=M)=false/\decide (M=0)=false/\decide (0<M)=false):=ae (by refine⟨?_,?_,?_⟩<;>simp<;>omega)
     have l1:(M==0)=false:=Z1.2 (by omega);have l2:¬ M>=0:=by omega
     have l3:¬ 0<M:=by omega
     clear hMc;go_wp2_with fail;refine bodyPost_ret (v:=.agg #[.bool true,.bool u,.bool true]) (by simp[results,Tryz.results194,go_sem,r0,r1,r2]<;>omega) rfl ⟨?_,set3 ((m9.out.setCell (p:=⟨w.heap.size,2,none⟩) (ZR _) _).setCell (p:=⟨w.heap.size,0,none⟩) (ZR _) _) (by omega) _ _ _⟩;simp only[H1.out,G1.out.1,G1.out.2.1,G2.out.2.1,G2.out.2.2];rfl
    ·have G2:Hid (decide (0<=M)=true/\decide (M=0)=true/\decide (0<M)=false):=ae (by refine⟨?_,?_,?_⟩<;>simp<;>omega)
     subst hMc;go_wp2_with fail;refine bodyPost_ret (v:=.agg #[.bool true,.bool u,.bool true]) (by simp[results,Tryz.results194,go_sem,r0,r1,r2]<;>omega) rfl ⟨?_,set3 ((m9.out.setCell (p:=⟨w.heap.size,2,none⟩) (ZR _) _).setCell (p:=⟨w.heap.size,0,none⟩) (ZR _) _) (by omega) _ _ _⟩;simp only[H1.out,G1.out.1,G1.out.2.1,G2.out.2.1,G2.out.2.2];rfl
    ·have G2:Hid (decide (0<=M)=true/\decide (M=0)=false/\decide (0<M)=true):=ae (by refine⟨?_,?_,?_⟩<;>simp<;>omega)
     have l1:(M==0)=false:=Z1.2 (by omega);have l2:M>=0:=by omega
     have l3:0<M:=by omega
     clear hMc;go_wp2_with fail;refine bodyPost_ret (v:=.agg #[.bool true,.bool u,.bool false]) (by simp[results,Tryz.results194,go_sem,r0,r1,r2]<;>omega) rfl ⟨?_,set3 ((m9.out.setCell (p:=⟨w.heap.size,2,none⟩) (ZR _) _).setCell (p:=⟨w.heap.size,0,none⟩) (ZR _) _) (by omega) _ _ _⟩;simp only[H1.out,G1.out.1,G1.out.2.1,G2.out.2.1,G2.out.2.2];rfl
 exact absurd iE.out h1
theorem ue{w:World}{q si b off op f:Nat}{c:Cl}{kv fv rv:Value}{l:List Fd}{r:List Stt}(oE:op=1)(hr:sM w q si fv rv l r)(hn:gH w b off op f c kv)(jr:Okc c)(lv:∀ x∈r,Oks x) :
  Calls Tryz.prog 160 #[.pointer (some ⟨q,0,none⟩),.pointer (some ⟨b,off,none⟩)] w fun e w'=>e=.returned (b3V (ko l r op f c))/\Below w.heap.size w w':=by
 have iE:=ae oE;clear oE;have HO:=ae jr;have m8:=ae lv;have U7:=ae (fun h=>DS (l:=l) (r:=r) (op:=op) (f:=f) (c:=c) h);have RH:=ae (fun(j:Nat) h hj=>DT (l:=l) (r:=r) (op:=op) (f:=f) (c:=c) (j:=j) h hj);have Bm:=ae (fun(j:Nat) h hj=>LN (l:=l) (r:=r) (op:=op) (f:=f) (c:=c) (j:=j) h hj);generalize ko l r op f c=R at *;have dt:=Flg.new w (false,false,false);have aG:=ak w (.cells #[.bool false,.bool false,.bool false] 123);simp only at dt;have aQ:=ae aG;have HR:=ae (hr.kept aG);have HN:=ae (hn.kept aG);have gd:=ae dt;have jq:(w.alloc (.cells #[.bool false,.bool false,.bool false] 123)).heap.size=w.heap.size+1:=ZS _ _;have rz:=ae jq;generalize hA:w.alloc (.cells #[.bool false,.bool false,.bool false] 123)=A at *;clear hr hn dt aG jr lv jq;have rH:=ae (fun(U:World) (hU:Below A.heap.size A U)=>se (HR.out.2.2.2.2.1.kept hU) si f);obtain⟨M7,y0,y1,y2,xB,ib⟩:=HR.out;obtain⟨dW,x0,x1,x2,x3,x4,x5⟩:=HN.out;obtain⟨fa,fcap,rfl,hfc,SV⟩:=xB.form;obtain⟨ra,rcap,rfl,hrc,hrm⟩:=ib.form;clear xB ib;have Wj:∀ s:bL (fun x=>Below A.heap.size A x),s.w.cell? ⟨q,0,none⟩=some (.int .u32 (si:Int)):=fun s=>(s.ok.cell (p:=⟨q,0,none⟩) M7).trans y0
 have zV:∀ s:bL (fun x=>Below A.heap.size A x),s.w.cell? ⟨q,1,none⟩=some (.slice fa l.length fcap):=fun s=>(s.ok.cell (p:=⟨q,1,none⟩) M7).trans y1
 have Bq:∀ s:bL (fun x=>Below A.heap.size A x),s.w.cell? ⟨b,off+1,none⟩=some (.int .u32 (f:Int)):=fun s=>(s.ok.cell (p:=⟨b,off+1,none⟩) dW).trans x1
 haveI:Nonempty (bL (fun x=>Below A.heap.size A x)):=⟨bL.mk A (ZQ _ _)⟩
 go_enter Tryz.func160,Tryz.ntmps160
 go_wp2_with fail;refine cp (S:=fun x=>Below A.heap.size A x) (by kernel_rfl) (by kernel_rfl) (by first | exact(ZQ _ _).drew | (rw[hA];exact(ZQ _ _).drew)) ?_;repeat (go_big_quiet_step ((go_at_call 193;exact(rH.out _ (bL.ok _)).mono (fun e w' h=>⟨h.1,bL.mk w' (ai (bL.ok _) h.2),rfl⟩))))
 refine wpQuiet_nil ?_;rintro _ ⟨s2,rfl⟩;obtain⟨w2,pf⟩:∃ x,x=s2.w:=⟨_,rfl⟩;have aD:=s2.ok;rw[← pf]at aD ⊢;have aN:=ae (ai aQ.out aD);have i6:=ae (HR.out.kept aD);have EI:=ae (HN.out.kept aD);have gB:=ae (gd.out.kept aD);have J6:Hid (w.heap.size<w2.heap.size):=ae (by have:=aD.size;have:=rz.out;omega);clear pf aD Wj zV Bq x0 x1 x2 x3 x4 x5 y0 y1 y2 HR HN gd hA M7 dW;obtain⟨⟨p0,p1,p2⟩,⟨t0,t1,t2⟩,_⟩:=gB.out.facts;cases hp:iG l f with
 | none =>
  have HA:=ae (U7.out hp);simp only[Option.isSome_none,Option.getD_none];clear hp U7 RH Bm;go_wp2_with fail;refine bodyPost_ret (v:=.agg #[.bool true,.bool true,.bool true]) (by simp[results,Tryz.results160,go_sem,p0,p1,p2]) rfl ⟨?_,set3 aN.out (ZR _) _ _ _⟩;rw[HA.out];rfl
 | some j =>
  simp only[Option.isSome_some,Option.getD_some];by_cases hj:j<r.length
  ·have HA:=ae (Bm.out j hp hj)
   obtain⟨M7,y0,y1,y2,_,ib⟩:=i6.out;have hj':¬ (j:Int)>=(r.length:Int):=by omega
   have MS:(j:Int)<(r.length:Int):=by omega
   obtain⟨rb,roff,rfl,iK⟩:=ib.at hj;have HOS:=ae (m8.out r[j] (ZV hj));generalize r[j]=st at *;have RV:=ae iK;obtain⟨srows,snulls,ssome,shigh,slo,shi⟩:=st;have hst':=iK;obtain⟨hrb,⟨d0,d1,d2,d3⟩,⟨d4,d5,d6⟩,d7,d8,d9⟩:=hst';simp only at d0 d1 d2 d3 d4 d5 d6 d7 d8 d9;have bM:=ae (ai aN.out (ak w2 (.cells #[.int .i64 srows,.int .i64 snulls,.bool ssome,.bool shigh,.int .u8 (slo.1:Int),.int .i64 slo.2.1,.string (am slo.2.2),.int .u8 (shi.1:Int),.int .i64 shi.2.1,.string (am shi.2.2)] 54)));have aP:=ak w2 (.cells #[.int .i64 srows,.int .i64 snulls,.bool ssome,.bool shigh,.int .u8 (slo.1:Int),.int .i64 slo.2.1,.string (am slo.2.2),.int .u8 (shi.1:Int),.int .i64 shi.2.1,.string (am shi.2.2)] 54);have hS3:=Stb.new w2 (⟨srows,snulls,ssome,shigh,slo,shi⟩:Stt);simp only at hS3;have HN3:=ae (EI.out.kept aP);have p7:=ae (gB.out.kept aP);have s3:(w2.alloc (.cells #[.int .i64 srows,.int .i64 snulls,.bool ssome,.bool shigh,.int .u8 (slo.1:Int),.int .i64 slo.2.1,.string (am slo.2.2),.int .u8 (shi.1:Int),.int .i64 shi.2.1,.string (am shi.2.2)] 54)).heap.size=w2.heap.size+1:=ZS _ _;have m7:=ae hS3;generalize hE:w2.alloc (.cells #[.int .i64 srows,.int .i64 snulls,.bool ssome,.bool shigh,.int .u8 (slo.1:Int),.int .i64 slo.2.1,.string (am slo.2.2),.int .u8 (shi.1:Int),.int .i64 shi.2.1,.string (am shi.2.2)] 54)=E at *;have HEZ:Hid (E.heap.size=w2.heap.size+1):=ae s3;clear ib iK hp U7 RH Bm m8 aP s3 hS3;obtain⟨dW,x0,x1,x2,x3,x4,x5⟩:=HN3.out;obtain⟨_,⟨e0,e1,e2,e3⟩,⟨e4,e5,e6⟩,e7,e8,e9⟩:=m7.out.at;simp only[jaf]at e0 e1 e2 e3 e4 e5 e6 e7 e8 e9;obtain⟨⟨p0',p1',p2'⟩,⟨t0',t1',t2'⟩,_⟩:=p7.out.facts;by_cases h5:op=5
   ·exact absurd h5 (by rw[iE.out];omega)
   ·have n5:((op:Int)==5)=false:=Z1.2 (by omega)
    have HAX:Hid (R=if ssome=true then mM (decide (0<snulls)) op c (⟨srows,snulls,ssome,shigh,slo,shi⟩:Stt) else (false,decide (0<snulls),false)):=ae (by rw[HA.out];unfold FU;rw[if_neg h5]);clear HA h5;have hfF:=Flg.new E (false,decide (0<snulls),false);have hbF:=ak E (.cells #[.bool false,.bool (decide (0<snulls)),.bool false] 123);simp only at hfF;have sF:(E.alloc (.cells #[.bool false,.bool (decide (0<snulls)),.bool false] 123)).heap.size=E.heap.size+1:=ZS _ _;have MU:=ae hfF;have HNF:=ae (HN3.out.kept hbF);have um:Hid (∀ X,Below (E.alloc (.cells #[.bool false,.bool (decide (0<snulls)),.bool false] 123)).heap.size (E.alloc (.cells #[.bool false,.bool (decide (0<snulls)),.bool false] 123)) X->FY X w2.heap.size 0 (⟨srows,snulls,ssome,shigh,slo,shi⟩:Stt)/\Flg X w.heap.size (false,false,false)/\Flg X E.heap.size (false,decide (0<snulls),false)):=ae (fun X h=>⟨(m7.out.at.kept hbF).kept h,(p7.out.kept hbF).kept h,MU.out.kept h⟩);have b9:=ae (ai bM.out hbF);obtain⟨⟨_,⟨g0,g1,g2,g3⟩,⟨g4,g5,g6⟩,g7,g8,g9⟩,hfg,hfh⟩:=um.out _ (ZQ _ _);simp only[jaf]at g0 g1 g2 g3 g4 g5 g6 g7 g8 g9;obtain⟨⟨u0,u1,u2⟩,⟨s0,s1,s2'⟩,_⟩:=hfg.facts;obtain⟨⟨v0,v1,v2⟩,⟨q0',q1',q2'⟩,hvz⟩:=hfh.facts;clear hfF hbF sF hfg hfh;have HEW:Hid (w.heap.size<E.heap.size):=ae (by have:=J6.out;have:=HEZ.out;omega);have fO:¬ E.heap.size=w.heap.size:=by have:=HEW.out;omega
    have yk:¬ w.heap.size=E.heap.size:=by have:=HEW.out;omega
    cases ssome
    ·have HAX':Hid (R=(false,decide (0<snulls),false)):=ae (by rw[HAX.out];rfl)
     go_wp2_with fail;have xk:∀(X:World) (o:Obj) (i:Nat),w.heap.size<X.heap.size->(X.alloc o).cell? ⟨w.heap.size,i,none⟩=X.cell? ⟨w.heap.size,i,none⟩:=fun X o i h=>(ak X o).cell h
     have hew:=HEW.out;have Hy:=set3 bM.out (ZR _) (.bool false) (.bool (decide (0<snulls))) (.bool false);refine bodyPost_ret (v:=.agg #[.bool false,.bool (decide (0<snulls)),.bool false]) (by simp[results,Tryz.results160,go_sem,xk,hew,p0',p1',p2']) rfl ⟨?_,Hy.alloc Hy.size _⟩;rw[HAX'.out];rfl
    ·have HAX':Hid (R=mM (decide (0<snulls)) op c ⟨srows,snulls,true,shigh,slo,shi⟩):=ae (by rw[HAX.out];rfl)
     have HC:=ae (fun(U:World) (hU:Below (E.alloc (.cells #[.bool false,.bool (decide (0<snulls)),.bool false] 123)).heap.size (E.alloc (.cells #[.bool false,.bool (decide (0<snulls)),.bool false] 123)) U)=>L5 iE.out (HNF.out.kept hU) HO.out (decide (0<snulls)) ⟨srows,snulls,true,shigh,slo,shi⟩ HOS.out);simp only at HC;generalize mM (decide (0<snulls)) op c ⟨srows,snulls,true,shigh,slo,shi⟩=WM at *;clear HAX;go_wp2_with fail;refine(HC.out _ (ZQ _ _)).mono ?_;rintro e w5 ⟨rfl,bq⟩;obtain⟨_,hfg,hfh⟩:=um.out _ bq;have aR:=ae (ai b9.out bq);clear bq u0 u1 u2 s0 s1 s2' v0 v1 v2 q0' q1' q2' g0 g1 g2 g3 g4 g5 g6 g7 g8 g9 hE e0 e1 e2 e3 e4 e5 e6 e7 e8 e9 p0' p1' p2' t0' t1' t2' x0 x1 x2 x3 x4 x5 hvz;obtain⟨⟨u0,u1,u2⟩,⟨s0,s1,s2'⟩,_⟩:=hfg.facts;obtain⟨⟨v0,v1,v2⟩,⟨q0',q1',q2'⟩,hvz⟩:=hfh.facts;clear hfg hfh;unfold b3V;go_wp2_with fail;refine bodyPost_ret (v:=.agg #[.bool WM.1,.bool WM.2.1,.bool WM.2.2]) (by simp[results,Tryz.results160,go_sem,u0,u1,u2,fO,yk]) rfl ⟨?_,set3 (set3 aR.out (by have:=HEW.out;omega) _ _ _) (ZR _) _ _ _⟩;rw[HAX'.out];rfl
  ·have HA:=ae (RH.out j hp hj)
   obtain⟨_,y0,y1,y2,_,ib⟩:=i6.out;have hj':(j:Int)>=(r.length:Int):=by omega
   clear hp U7 RH Bm ib;go_wp2_with fail;refine bodyPost_ret (v:=.agg #[.bool true,.bool true,.bool true]) (by simp[results,Tryz.results160,go_sem,p0,p1,p2]) rfl ⟨?_,set3 aN.out (ZR _) _ _ _⟩;rw[HA.out];rfl
theorem Q1{q si:Nat}{fv rv:Value}{l:List Fd}{r:List Stt}(lv:∀ x∈r,Oks x){op f:Nat}{c:Cl}{ks:List PT}(oE:op=1)(jr:Okp (.node op f c ks))(w:World)(b off:Nat)(hr:sM w q si fv rv l r)(nO:jy w b off (.node op f c ks)) :
  Calls Tryz.prog 112 #[.pointer (some ⟨q,0,none⟩),.pointer (some ⟨b,off,none⟩)] w fun e w'=>e=.returned (b3V (oG l r (.node op f c ks)))/\Below w.heap.size w w':=by
 have iE:=ae oE;clear oE;have m8:=ae lv;simp only[Okp]at jr;obtain⟨_,_,Wk,EL⟩:=jr;have U8:=ae Wk;have J4:=ae EL.get;have UT:=ae hr;obtain⟨a,cap,Jd,Je⟩:=nO.open;have ZK:=ae Jd;have HK0:=ae Je;have dt:=Flg.new w (false,false,false);have aG:=ak w (.cells #[.bool false,.bool false,.bool false] 123);simp only at dt;have sA:(w.alloc (.cells #[.bool false,.bool false,.bool false] 123)).heap.size=w.heap.size+1:=ZS _ _;have lr:=ae sA;generalize hA:w.alloc (.cells #[.bool false,.bool false,.bool false] 123)=A at *;have gd:=ae dt;have aQ:=ae aG;have rD:=Jd.kept aG;obtain⟨_,_,Sb,hkc,Sd⟩:=Je.form;simp only[Value.slice.injEq]at Sb;obtain⟨rfl,_,rfl⟩:=Sb;have hkm':ks.length<=9223372036854775807:=by unfold maxLen at Sd;omega
 obtain⟨dW,x0,x1,x2,x3,x4,x5⟩:=rD;clear hr nO Jd Je Wk EL lv Sd dt aG sA;have HD:Hid (oG l r (.node op f c ks)=if op=6 then mayAnd l r ks (false,false,true) else if op=7 then mayOr l r ks (true,false,false) else if op=8 then mayNot l r ks else ko l r op f c):=ae (by simp only[oG]);generalize oG l r (.node op f c ks)=R at *;have h6:¬ op=6:=by rw[iE.out];omega
 have h7:¬ op=7:=by rw[iE.out];omega
 have h8:¬ op=8:=by rw[iE.out];omega
 have n6:((op:Int)==6)=false:=Z1.2 (by omega);have n7:((op:Int)==7)=false:=Z1.2 (by omega);rw[if_neg h6,if_neg h7]at HD;obtain⟨⟨p0,p1,p2⟩,⟨t0,t1,t2⟩,hpz⟩:=gd.out.facts;have n8:((op:Int)==8)=false:=Z1.2 (by omega);rw[if_neg h8]at HD;clear h6 h7 h8;have HC:=ae (ue iE.out (UT.out.kept aQ.out) (ZK.out.kept aQ.out) U8.out m8.out);generalize ko l r op f c=ev at *;obtain⟨ev0,ev1,ev2⟩:=ev;go_enter Tryz.func112,Tryz.ntmps112
 go_wp2_with fail;refine HC.out.mono ?_;rintro e w2 ⟨rfl,aD⟩;have aN:=ae (ai aQ.out aD);have gB:=ae (gd.out.kept aD);obtain⟨⟨r0,r1,r2⟩,⟨s0,s1,s2⟩,_⟩:=gB.out.facts;clear aD p0 p1 p2 t0 t1 t2 hA;unfold b3V;go_wp2_with fail;refine bodyPost_ret (v:=.agg #[.bool ev0,.bool ev1,.bool ev2]) (by simp[results,Tryz.results112,go_sem,r0,r1,r2]) rfl ⟨?_,set3 aN.out (ZR _) _ _ _⟩;rw[HD.out];rfl
theorem may1{w:World}{op f si:Nat}{c:Cl}{ks:List PT}{kv fv rv:Value}{l:List Fd}{r:List Stt}(oE:op=1)(hk:sk w kv ks)(jr:Okp (.node op f c ks))(hs:Sf w fv l)(hv:Ss w rv r)(lv:∀ x∈r,Oks x) :
  Calls Tryz.prog 66 #[.agg #[.int .u8 (op:Int),.int .u32 (f:Int),.int .u8 (c.1:Int),.int .i64 c.2.1,.string (am c.2.2),kv],.agg #[.int .u32 (si:Int),fv],rv] w fun e w'=>e=.returned (b3V (oG l r (.node op f c ks)))/\Below w.heap.size w w':=by
 have HC:=ae (fun(U:World) (b off q:Nat) hr hl=>Q1 (q:=q) (si:=si) (fv:=fv) (rv:=rv) (l:=l) lv oE jr U b off hr hl);have iE:=ae oE;clear oE;have HK:=ae hk;have HS:=ae hs;have HV:=ae hv;generalize oG l r (.node op f c ks)=R at *;obtain⟨R0,R1,R2⟩:=R;obtain⟨ka,kcap,rfl,_,_⟩:=hk.form;obtain⟨fa,fcap,rfl,_,_⟩:=hs.form;obtain⟨ra,rcap,rfl,_,_⟩:=hv.form;clear hk hs hv jr lv;have hn:=ws w op f c (.slice ka ks.length kcap);have aG:=ak w (.cells #[.int .u8 (op:Int),.int .u32 (f:Int),.int .u8 (c.1:Int),.int .i64 c.2.1,.string (am c.2.2),.slice ka ks.length kcap] 63);generalize hA:w.alloc (.cells #[.int .u8 (op:Int),.int .u32 (f:Int),.int .u8 (c.1:Int),.int .i64 c.2.1,.string (am c.2.2),.slice ka ks.length kcap] 63)=A at *;have aD:=ak A (.cells #[.int .u32 (si:Int),.slice fa l.length fcap] 25);obtain⟨e0,e1⟩:=bE A (.int .u32 (si:Int)) (.slice fa l.length fcap) 25;have hzA:A.heap.size<(A.alloc (.cells #[.int .u32 (si:Int),.slice fa l.length fcap] 25)).heap.size:=by rw[ZS];omega
 generalize hB:A.alloc (.cells #[.int .u32 (si:Int),.slice fa l.length fcap] 25)=B at *;have aP:=ak B (.cells #[.bool false,.bool false,.bool false] 123);have ix:=Flg.new B (false,false,false);simp only at ix;have g0:=(aP.cell (p:=⟨A.heap.size,0,none⟩) hzA).trans e0;have g1:=(aP.cell (p:=⟨A.heap.size,1,none⟩) hzA).trans e1;generalize hC:B.alloc (.cells #[.bool false,.bool false,.bool false] 123)=C at *;have bv:=ak C (.cells #[.int .u32 (si:Int),.slice fa l.length fcap,.slice ra r.length rcap] 175);obtain⟨k0,k1,k2⟩:=dF C (.int .u32 (si:Int)) (.slice fa l.length fcap) (.slice ra r.length rcap) 175;have hz:C.heap.size<(C.alloc (.cells #[.int .u32 (si:Int),.slice fa l.length fcap,.slice ra r.length rcap] 175)).heap.size:=by rw[ZS];omega
 generalize hD:C.alloc (.cells #[.int .u32 (si:Int),.slice fa l.length fcap,.slice ra r.length rcap] 175)=D at *;have kY:Below w.heap.size w D:=ai (ai (ai aG aD) aP) bv;have EM:Hid (sM D C.heap.size si (.slice fa l.length fcap) (.slice ra r.length rcap) l r):=ae ⟨hz,k0,k1,k2,HS.out.kept kY,HV.out.kept kY⟩;have ry:Hid (jy D w.heap.size 0 (.node op f c ks)):=ae (jy.shut (((hn.kept aD).kept aP).kept bv) (HK.out.kept kY));have m9:=ae kY;have S4:=ae (ix.kept bv);have yj:Hid (w.heap.size<=B.heap.size):=ae (by have:=aG.size;have:=aD.size;omega);clear hn aG aD aP bv kY k0 k1 k2 hz ix;go_enter Tryz.func66,Tryz.ntmps66
 go_wp2_with fail;refine(HC.out _ _ _ _ EM.out ry.out).mono ?_;rintro e w2 ⟨rfl,aD⟩;have aN:=ae (ai m9.out aD);obtain⟨⟨r0,r1,r2⟩,⟨s0,s1,s2⟩,_⟩:=(S4.out.kept aD).facts;clear aD hA hB hC hD e0 e1 g0 g1;unfold b3V;go_wp2_with fail;refine bodyPost_ret (v:=.agg #[.bool R0,.bool R1,.bool R2]) (by simp[results,Tryz.results66,go_sem,r0,r1,r2]) rfl ⟨?_,set3 aN.out yj.out _ _ _⟩;rfl
theorem held1{w:World}{b off op f:Nat}{c x:Cl}{kv:Value}(oE:op=1)(hn:gH w b off op f c kv)(jr:Okc c)(hl:c.2.2.length<=300)(hf:aU x):Calls Tryz.prog 222 #[.pointer (some ⟨b,off,none⟩),de x] w fun e w'=>e=.returned (.int .u8 (PR op c x:Int))/\Below w.heap.size w w':=by
 have iE:=ae oE;clear oE;have HF:=ae hf;have HO:=ae jr;have HL:=ae hl;have HN:=ae hn;obtain⟨dW,x0,x1,x2,x3,x4,x5⟩:=hn;clear hf jr hl;go_enter Tryz.func222,Tryz.ntmps222
 go_wp2_with fail;refine(ol HO.out _).mono ?_;rintro e w1 ⟨rfl,aG⟩;have aQ:=ae aG;clear x0 x1 x2 x3 x4 x5 dW;have Hn:=ae (HN.out.kept aG);clear aG HN;go_wp2_with fail;refine(kn HF.out.val (iQ HO.out).val _).mono ?_;rintro e w2 ⟨rfl,aD⟩;have aN:=ae (ai aQ.out aD);obtain⟨dW,x0,x1,x2,x3,x4,x5⟩:=Hn.out.kept aD;clear aD aQ Hn;obtain⟨m,hm⟩:∃ m,m=cO x (ch c):=⟨_,rfl⟩;have oI:cv (x.1:Int) x.2.1 (am x.2.2) ((ch c).1:Int) (ch c).2.1 (am (ch c).2.2)=m:=hm.symm;rw[oI];have HM:=ae hm;clear hm oI;by_cases h1:op=1
 ·subst h1
  go_wp2_with fail;refine(JG _ _).mono ?_;rintro e w3 ⟨rfl,rfl⟩;go_wp2_with fail;go_ret
  refine⟨?_,aN.out⟩;rw[HM.out];rfl
 exact absurd iE.out h1
theorem wZ{w:World}{q si b off op f:Nat}{c:Cl}{kv fv rv:Value}{l:List Fd}{r:List Cl}(oE:op=1)(hr:zh w q si fv rv l r)(hn:gH w b off op f c kv)(jr:Okc c)(hl:c.2.2.length<=300)(lv:∀ x∈r,aU x) :
  Calls Tryz.prog 196 #[.pointer (some ⟨q,0,none⟩),.pointer (some ⟨b,off,none⟩)] w fun e w'=>e=.returned (.int .u8 (oX l r op f c:Int))/\Below w.heap.size w w':=by
 have iE:=ae oE;clear oE;have HR:=ae hr;have HN:=ae hn;have HO:=ae jr;have HL:=ae hl;have m8:=ae lv;have rH:=ae (fun(U:World) (hU:Below w.heap.size w U)=>se (hr.2.2.2.2.1.kept hU) si f);have U7:=ae (fun h=>FV (l:=l) (r:=r) (op:=op) (f:=f) (c:=c) h);have RH:=ae (fun(j:Nat) h hj=>FX (l:=l) (r:=r) (op:=op) (f:=f) (c:=c) (j:=j) h hj);have Bm:=ae (fun(j:Nat) h hj=>PU (l:=l) (r:=r) (op:=op) (f:=f) (c:=c) (j:=j) h hj);generalize oX l r op f c=R at *;obtain⟨M7,y0,y1,y2,xB,ib⟩:=hr;obtain⟨dW,x0,x1,x2,x3,x4,x5⟩:=hn;obtain⟨fa,fcap,rfl,hfc,SV⟩:=xB.form;obtain⟨ra,rcap,rfl,hrc,hrm⟩:=ib.form1;rw[aF]at *;clear xB ib jr hl lv;have Wj:∀ s:bL (fun x=>Below w.heap.size w x),s.w.cell? ⟨q,0,none⟩=some (.int .u32 (si:Int)):=fun s=>(s.ok.cell (p:=⟨q,0,none⟩) M7).trans y0
 have zV:∀ s:bL (fun x=>Below w.heap.size w x),s.w.cell? ⟨q,1,none⟩=some (.slice fa l.length fcap):=fun s=>(s.ok.cell (p:=⟨q,1,none⟩) M7).trans y1
 have Bq:∀ s:bL (fun x=>Below w.heap.size w x),s.w.cell? ⟨b,off+1,none⟩=some (.int .u32 (f:Int)):=fun s=>(s.ok.cell (p:=⟨b,off+1,none⟩) dW).trans x1
 haveI:Nonempty (bL (fun x=>Below w.heap.size w x)):=⟨bL.mk w (ZQ _ _)⟩
 go_enter Tryz.func196,Tryz.ntmps196
 go_wp2_with fail;refine cp (S:=fun x=>Below w.heap.size w x) (by kernel_rfl) (by kernel_rfl) (ZQ _ _).drew ?_;repeat (go_big_quiet_step ((go_at_call 193;exact(rH.out _ (bL.ok _)).mono (fun e w' h=>⟨h.1,bL.mk w' (ai (bL.ok _) h.2),rfl⟩))))
 refine wpQuiet_nil ?_;rintro _ ⟨s2,rfl⟩;obtain⟨w2,pf⟩:∃ x,x=s2.w:=⟨_,rfl⟩;have aD:=s2.ok;rw[← pf]at aD ⊢;have aN:=ae aD;have i6:=ae (HR.out.kept aD);have EI:=ae (HN.out.kept aD);have bm:=aD.size;clear pf aD Wj zV Bq x0 x1 x2 x3 x4 x5 y0 y1 y2 HR HN;cases hp:iG l f with
 | none =>
  have HA:=ae (U7.out hp);simp only[Option.isSome_none,Option.getD_none];clear hp U7 RH Bm;go_wp2_with fail;go_ret
  rw[HA.out];exact⟨rfl,aN.out⟩
 | some j =>
  simp only[Option.isSome_some,Option.getD_some];by_cases hj:j<r.length
  ·have HA:=ae (Bm.out j hp hj)
   obtain⟨_,y0,y1,y2,_,ib⟩:=i6.out;have hj':¬ (j:Int)>=(r.length:Int):=by omega
   have MS:(j:Int)<(r.length:Int):=by omega
   obtain⟨rb,roff,rfl,hrb,z⟩:=ib.at1 (cK hj);have HF:=ae (m8.out r[j] (ZV hj));generalize r[j]=x at *;have zL:=ae ib;clear ib hp U7 RH Bm m8;go_wp2_with fail;refine(JF HF.out _).mono ?_;rintro e w3 ⟨rfl,rfl⟩;have HNK:=EI.out;obtain⟨hb0',x0,x1,x2,x3,x4,x5⟩:=HNK;by_cases h5:op=5
   ·subst h5
    go_wp2_with fail;refine(JG _ _).mono ?_;rintro e w4 ⟨rfl,rfl⟩;go_wp2_with fail;go_ret
    refine⟨?_,aN.out⟩;rw[HA.out];unfold Da;rw[if_pos rfl];have e1:((x.1:Int)==0)=decide (x.1=0):=by rw[jba];simp
    rw[e1];rfl
   ·have n5:((op:Int)==5)=false:=Z1.2 (by omega)
    by_cases hx:x.1=0
    ·have hx':((x.1:Int)==0)=true:=by rw[hx];rfl
     have HA':Hid (R=1):=ae (by rw[HA.out];unfold Da;rw[if_neg h5,if_pos hx]);clear h5 hx;go_wp2_with fail;go_ret
     rw[HA'.out];exact⟨rfl,aN.out⟩
    ·have hx':((x.1:Int)==0)=false:=Z1.2 (by omega)
     have HA':Hid (R=PR op c x):=ae (by rw[HA.out];unfold Da;rw[if_neg h5,if_neg hx]);clear h5 hx;go_wp2_with fail;refine(held1 iE.out EI.out HO.out HL.out HF.out).mono ?_;rintro e w4 ⟨rfl,bv⟩;have b9:=ae bv;clear bv;go_wp2_with fail;go_ret
     rw[HA'.out];exact⟨rfl,ai aN.out b9.out⟩
  ·have HA:=ae (RH.out j hp hj)
   obtain⟨_,y0,y1,y2,_,ib⟩:=i6.out;have hj':(j:Int)>=(r.length:Int):=by omega
   clear hp U7 RH Bm ib;go_wp2_with fail;go_ret
   rw[HA.out];exact⟨rfl,aN.out⟩
theorem Ur{q si:Nat}{fv rv:Value}{l:List Fd}{r:List Cl}(lv:∀ x∈r,aU x){op f:Nat}{c:Cl}{ks:List PT}(oE:op=1)(jr:Okp (.node op f c ks))(bQ:Len (.node op f c ks))(w:World)(b off:Nat)(hr:zh w q si fv rv l r)(nO:jy w b off (.node op f c ks)) :
  Calls Tryz.prog 161 #[.pointer (some ⟨q,0,none⟩),.pointer (some ⟨b,off,none⟩)] w fun e w'=>e=.returned (.int .u8 (jk l r (.node op f c ks):Int))/\Below w.heap.size w w':=by
 have iE:=ae oE;clear oE;have m8:=ae lv;have HR:=ae hr;simp only[Okp]at jr;simp only[Len]at bQ;obtain⟨_,_,Wk,EL⟩:=jr;obtain⟨hl,hlks⟩:=bQ;have U8:=ae Wk;have J4:=ae EL.get;have HL:=ae hl;have HLK:=ae hlks.get;obtain⟨a,cap,rD,nP⟩:=nO.open;have HN:=ae rD;have HK:=ae nP;have Yx:=nP.form;obtain⟨_,_,Sb,hkc,Sd⟩:=Yx;simp only[Value.slice.injEq]at Sb;obtain⟨rfl,_,rfl⟩:=Sb;have hkm':ks.length<=9223372036854775807:=by unfold maxLen at Sd;omega
 obtain⟨dW,x0,x1,x2,x3,x4,x5⟩:=rD;clear hr nO nP Wk EL hl hlks lv Sd;have HD:Hid (jk l r (.node op f c ks)=if op=6 then evalAnd l r ks 2 else if op=7 then evalOr l r ks 0 else if op=8 then evalNot l r ks else oX l r op f c):=ae (by simp only[jk]);generalize jk l r (.node op f c ks)=R at *;have h6:¬ op=6:=by rw[iE.out];omega
 have h7:¬ op=7:=by rw[iE.out];omega
 have h8:¬ op=8:=by rw[iE.out];omega
 have n6:((op:Int)==6)=false:=Z1.2 (by omega);have n7:((op:Int)==7)=false:=Z1.2 (by omega);rw[if_neg h6,if_neg h7]at HD;have n8:((op:Int)==8)=false:=Z1.2 (by omega);rw[if_neg h8]at HD;clear h6 h7 h8;go_enter Tryz.func161,Tryz.ntmps161
 go_wp2_with fail;refine(wZ iE.out HR.out HN.out U8.out HL.out m8.out).mono ?_;rintro e w2 ⟨rfl,aD⟩;have aN:=ae aD;clear aD;go_wp2_with fail;go_ret
 rw[HD.out];exact⟨rfl,aN.out⟩
theorem eval1{w:World}{op f si:Nat}{c:Cl}{ks:List PT}{kv fv rv:Value}{l:List Fd}{r:List Cl}(oE:op=1)(hk:sk w kv ks)(jr:Okp (.node op f c ks))(bQ:Len (.node op f c ks))(hs:Sf w fv l)(hv:Sv w rv (aI r))(lv:∀ x∈r,aU x) :
  Calls Tryz.prog 113 #[.agg #[.int .u8 (op:Int),.int .u32 (f:Int),.int .u8 (c.1:Int),.int .i64 c.2.1,.string (am c.2.2),kv],.agg #[.int .u32 (si:Int),fv],rv] w fun e w'=>e=.returned (.int .u8 (jk l r (.node op f c ks):Int))/\Below w.heap.size w w':=by
 have HC:=ae (fun(U:World) (b off q:Nat) hr hl=>Ur (q:=q) (si:=si) (fv:=fv) (rv:=rv) (l:=l) lv oE jr bQ U b off hr hl);have iE:=ae oE;clear oE;have HK:=ae hk;have HS:=ae hs;have HV:=ae hv;generalize jk l r (.node op f c ks)=R at *;obtain⟨ka,kcap,rfl,_,_⟩:=hk.form;obtain⟨fa,fcap,rfl,_,_⟩:=hs.form;obtain⟨ra,rcap,rfl,_,_⟩:=hv.form1;clear hk hs hv jr bQ lv;have hn:=ws w op f c (.slice ka ks.length kcap);have aG:=ak w (.cells #[.int .u8 (op:Int),.int .u32 (f:Int),.int .u8 (c.1:Int),.int .i64 c.2.1,.string (am c.2.2),.slice ka ks.length kcap] 63);generalize hA:w.alloc (.cells #[.int .u8 (op:Int),.int .u32 (f:Int),.int .u8 (c.1:Int),.int .i64 c.2.1,.string (am c.2.2),.slice ka ks.length kcap] 63)=A at *;have aD:=ak A (.cells #[.int .u32 (si:Int),.slice fa l.length fcap] 25);obtain⟨e0,e1⟩:=bE A (.int .u32 (si:Int)) (.slice fa l.length fcap) 25;generalize hB:A.alloc (.cells #[.int .u32 (si:Int),.slice fa l.length fcap] 25)=B at *;have aP:=ak B (.cells #[.int .u32 (si:Int),.slice fa l.length fcap,.slice ra (aI r).length rcap] 216);obtain⟨g0,g1,g2⟩:=dF B (.int .u32 (si:Int)) (.slice fa l.length fcap) (.slice ra (aI r).length rcap) 216;have hz:B.heap.size<(B.alloc (.cells #[.int .u32 (si:Int),.slice fa l.length fcap,.slice ra (aI r).length rcap] 216)).heap.size:=by rw[ZS];omega
 generalize hC:B.alloc (.cells #[.int .u32 (si:Int),.slice fa l.length fcap,.slice ra (aI r).length rcap] 216)=C at *;have kY:Below w.heap.size w C:=ai (ai aG aD) aP;have EM:Hid (zh C B.heap.size si (.slice fa l.length fcap) (.slice ra (aI r).length rcap) l r):=ae ⟨hz,g0,g1,g2,HS.out.kept kY,HV.out.kept kY⟩;have ry:Hid (jy C w.heap.size 0 (.node op f c ks)):=ae (jy.shut ((hn.kept aD).kept aP) (HK.out.kept kY));have m9:=ae kY;clear hn aG aD aP kY g0 g1 g2 hz;go_enter Tryz.func113,Tryz.ntmps113
 go_wp2_with fail;refine(HC.out _ _ _ _ EM.out ry.out).mono ?_;rintro e w2 ⟨rfl,aD⟩;have aN:=ae aD;clear aD;go_wp2_with fail;go_ret
 exact⟨rfl,ai m9.out aN.out⟩
theorem Us{w:World}{b off op f si:Nat}{c:Cl}{a:Option Addr}{n cap:Nat}{fv:Value}{l:List Fd}(oE:op=1)(hn:gH w b off op f c (.slice a n cap))(hs:Sf w fv l)(jr:Okc c):Calls Tryz.prog 154 #[.pointer (some ⟨b,off,none⟩),.agg #[.int .u32 (si:Int),fv]] w fun e w'=>e=.returned (.int .i64 (nF l op f c n))/\Below w.heap.size w w':=by
 have iE:=ae oE;clear oE;obtain⟨fa,fcap,rfl,hfc,SV⟩:=hs.form;have aG:=ak w (.cells #[.int .u32 (si:Int),.slice fa l.length fcap] 25);have aQ:=ae aG;obtain⟨e0,e1⟩:=bE w (.int .u32 (si:Int)) (.slice fa l.length fcap) 25;have HS:=ae (hs.kept aG);have HN:=ae (hn.kept aG);have HO:=ae jr;generalize hA:w.alloc (.cells #[.int .u32 (si:Int),.slice fa l.length fcap] 25)=A at *;clear aG hs hn jr;obtain⟨dW,x0,x1,x2,x3,x4,x5⟩:=HN.out;have HD:Hid (nF l op f c n=if 1<=op/\op<=5 then ffM l op f c n else if 6<=op/\op<=8 then fkM op f c n else 90):=ae rfl;generalize nF l op f c n=R at *;by_cases h5:1<=op/\op<=5
 ·rw[if_pos h5]at HD
  have HC:=ae (fun(U:World) (hU:Below A.heap.size A U)=>sP (si:=si) (HN.out.kept hU) (HS.out.kept hU) HO.out);generalize ffM l op f c n=R2 at *;have h:=iE.out
  all_goals
   clear iE;subst h;clear h5;go_enter Tryz.func154,Tryz.ntmps154
   go_wp2_with fail;try rw[hA]
   refine(HC.out _ (ZQ _ _)).mono ?_;rintro e w2 ⟨rfl,aD⟩;have aN:=ae (ai aQ.out aD);clear aD;go_wp2_with fail;go_ret
   rw[HD.out];exact⟨rfl,aN.out⟩
 ·exact absurd (show 1<=op/\op<=5 by rw[iE.out];omega) h5
theorem Eb{si:Nat}{fv:Value}{l:List Fd}{op f:Nat}{c:Cl}{ks:List PT}(oE:op=1)(R9:ks=[])(jr:Okp (.node op f c ks))(w:World)(b off:Nat)(hs:Sf w fv l)(nO:jy w b off (.node op f c ks)) :
  Calls Tryz.prog 111 #[.pointer (some ⟨b,off,none⟩),.agg #[.int .u32 (si:Int),fv]] w fun e w'=>e=.returned (.int .i64 (mC l (.node op f c ks)))/\Below w.heap.size w w':=by
 have iE:=ae oE;have U3:=ae R9;clear oE R9;simp only[Okp]at jr;obtain⟨_,_,Wk,EL⟩:=jr;have U8:=ae Wk;have J4:=ae EL.get;obtain⟨fa,fcap,rfl,hfc,SV⟩:=hs.form;have aG:=ak w (.cells #[.int .u32 (si:Int),.slice fa l.length fcap] 25);have aQ:=ae aG;obtain⟨e0,e1⟩:=bE w (.int .u32 (si:Int)) (.slice fa l.length fcap) 25;have hz:w.heap.size<(w.alloc (.cells #[.int .u32 (si:Int),.slice fa l.length fcap] 25)).heap.size:=by rw[ZS];omega
 have HS:=ae (hs.kept aG);obtain⟨a,cap,rD,nP⟩:=(jy.kept aG _ _ _ nO).open;generalize hA:w.alloc (.cells #[.int .u32 (si:Int),.slice fa l.length fcap] 25)=A at *;have HN:=ae rD;have HK:=ae nP;have Yx:=nP.form;obtain⟨_,_,Sb,hkc,Sd⟩:=Yx;simp only[Value.slice.injEq]at Sb;obtain⟨rfl,_,rfl⟩:=Sb;have hkm':ks.length<=9223372036854775807:=by unfold maxLen at Sd;omega
 clear aG hs nO rD nP Wk EL Sd;have HD:Hid (mC l (.node op f c ks)=if nF l op f c ks.length≠0 then nF l op f c ks.length else firstAll l ks):=ae (by simp only[mC]);generalize mC l (.node op f c ks)=R at *;have HC:=ae (fun(U:World) (hU:Below A.heap.size A U)=>Us iE.out (si:=si) (HN.out.kept hU) (HS.out.kept hU) U8.out);generalize nF l op f c ks.length=e1v at *;go_enter Tryz.func111,Tryz.ntmps111
 go_wp2_with fail;try rw[hA]
 refine(HC.out _ (ZQ _ _)).mono ?_;rintro e w2 ⟨rfl,aD⟩;have aN:=ae aD;have EI:=ae (HN.out.kept aD);have g0:=(aD.cell (p:=⟨w.heap.size,0,none⟩) hz).trans e0;have g1:=(aD.cell (p:=⟨w.heap.size,1,none⟩) hz).trans e1;have bm:=Z9 hz aD.size;have hzA:=aD.size;clear aD e0 e1 hA;by_cases h0:e1v=0
 ·subst h0
  rw[if_neg (by simp)]at HD;have HD':Hid (R=firstAll l (ks.drop 0)):=HD;clear HD;obtain⟨dW,x0,x1,x2,x3,x4,x5⟩:=EI.out;go_wp2_with fail;clear x0 x1 x2 x3 x4 x5;go_loopw [19] (fun i wr=>∃ k:Nat,k<=ks.length/\i=.int .i64 (k:Int)/\R=firstAll l (ks.drop k)/\Below w2.heap.size w2 wr) (fun i _=>ks.length-(intOf i).toNat)
  case atStart=>exact⟨0,by omega,rfl,HD'.out,ZQ _ _⟩
  case round =>
   obtain⟨k,hk,rfl,lq,ay⟩:=hrel;have HF:=ae lq;have HB:=ae ay;have bO:=ay.size;clear lq ay HD';by_cases aB:k<ks.length
   ·exact absurd aB (by rw[U3.out];simp)
   ·obtain rfl:k=ks.length:=by omega
    have gJ:¬ ((ks.length:Nat):Int)<(ks.length:Int):=by omega
    have HT:=ae (HF.out.trans Ba);clear HF;go_wp2_with fail;go_ret
    rw[HT.out];exact⟨rfl,ai aQ.out (ai aN.out HB.out)⟩
 ·rw[if_pos h0]at HD
  have h0':(e1v != 0)=true:=by simpa using h0
  clear h0;go_wp2_with fail;go_ret
  rw[HD.out];exact⟨rfl,ai aQ.out aN.out⟩
theorem room1{op f:Nat}{c:Cl}{ks:List PT}(R9:ks=[])(w:World)(b off m d:Nat)(hm:m<100)(hd:d<100)(nO:jy w b off (.node op f c ks)):Calls Tryz.prog 110 #[.pointer (some ⟨b,off,none⟩),.int .i64 (m:Int),.int .i64 (d:Int)] w (D9 w (.node op f c ks) m d):=by
 have U3:=ae R9;clear R9;obtain⟨a,cap,rD,nP⟩:=nO.open;have HK:=ae nP;have Yx:=nP.form;obtain⟨_,_,Sb,hkc,Sd⟩:=Yx;simp only[Value.slice.injEq]at Sb;obtain⟨rfl,_,rfl⟩:=Sb;have hkm':ks.length<=9223372036854775807:=by unfold maxLen at Sd;omega
 clear nO nP Sd;obtain⟨dW,x0,x1,x2,x3,x4,x5⟩:=rD;have XH:Hid (∀ w',m=0∨d=0->w'=w->D9 w (.node op f c ks) m d (.returned (.int .i64 (-1))) w'):=ae (fun w' h hw=>⟨⟨-1,rfl,by omega,by omega,fun _ _ _ _ h1 h2=>by omega⟩,hw⟩);by_cases Zg:m=0
 ·subst Zg
  go_enter Tryz.func110,Tryz.ntmps110
  go_wp2_with fail;go_ret
  exact XH.out _ (by simp) rfl
 have hm0':((m:Int)==0)=false:=Z1.2 (by omega);by_cases hd0:d=0
 ·subst hd0
  go_enter Tryz.func110,Tryz.ntmps110
  go_wp2_with fail;go_ret
  exact XH.out _ (by simp) rfl
 have hd0':((d:Int)==0)=false:=Z1.2 (by omega);have HMD:Hid (0<m/\0<d/\m<100/\d<100):=ae ⟨by omega,by omega,hm,hd⟩;clear XH;go_enter Tryz.func110,Tryz.ntmps110
 go_wp2_with fail;go_loopw [1,21] (fun s i wr=>∃ k n:Nat,k<=ks.length/\i=.int .i64 (k:Int)/\s=.int .i64 (n:Int)/\n<100/\(k=0->(n:Int)=(m:Int)-1)/\wr=w) (fun _ i _=>ks.length-(intOf i).toNat)
 case atStart=>exact⟨0,m-1,by omega,rfl,by congr 1;omega,by omega,fun _=>by omega,rfl⟩
 case round =>
  obtain⟨k,n,hk,rfl,rfl,hn,qa,rfl⟩:=hrel;have ZK:=ae qa;clear qa;by_cases aB:k<ks.length
  ·exact absurd aB (by rw[U3.out];simp)
  ·obtain rfl:k=ks.length:=by omega
   have gJ:¬ ((ks.length:Nat):Int)<(ks.length:Int):=by omega
   go_wp2_with fail;go_ret
   exact⟨⟨(n:Int),rfl,by omega,by omega,fun op' f' c' h _ _=>ZK.out (by simp only[PT.node.injEq]at h;rw[h.2.2.2];rfl)⟩,rfl⟩
theorem XA{w:World}{op f si:Nat}{c:Cl}{ks:List PT}{kv fv:Value}{l:List Fd}(oE:op=1)(R9:ks=[])(hk:sk w kv ks)(jr:Okp (.node op f c ks))(hs:Sf w fv l) :
  Calls Tryz.prog 65 #[.agg #[.int .u8 (op:Int),.int .u32 (f:Int),.int .u8 (c.1:Int),.int .i64 c.2.1,.string (am c.2.2),kv],.agg #[.int .u32 (si:Int),fv]] w (LW w l (.node op f c ks)):=by
 have iE:=ae oE;have U3:=ae R9;clear oE R9;have HK:=ae hk;have HS:=ae hs;have HO:=ae jr;obtain⟨ka,kcap,rfl,_,_⟩:=hk.form;obtain⟨fa,fcap,rfl,_,_⟩:=hs.form;clear hk hs jr;have hn:=ws w op f c (.slice ka ks.length kcap);have aG:=ak w (.cells #[.int .u8 (op:Int),.int .u32 (f:Int),.int .u8 (c.1:Int),.int .i64 c.2.1,.string (am c.2.2),.slice ka ks.length kcap] 63);generalize hA:w.alloc (.cells #[.int .u8 (op:Int),.int .u32 (f:Int),.int .u8 (c.1:Int),.int .i64 c.2.1,.string (am c.2.2),.slice ka ks.length kcap] 63)=A at *;have aD:=ak A (.cells #[.int .u32 (si:Int),.slice fa l.length fcap] 25);obtain⟨e0,e1⟩:=bE A (.int .u32 (si:Int)) (.slice fa l.length fcap) 25;generalize hB:A.alloc (.cells #[.int .u32 (si:Int),.slice fa l.length fcap] 25)=B at *;have kY:Below w.heap.size w B:=ai aG aD;have ry:Hid (jy B w.heap.size 0 (.node op f c ks)):=ae (jy.shut (hn.kept aD) (HK.out.kept kY));have Ya:=ae (HS.out.kept kY);have m9:=ae kY;clear hn aG aD kY;go_enter Tryz.func65,Tryz.ntmps65
 go_wp2_with fail;refine(room1 U3.out _ _ _ 32 8 (by omega) (by omega) ry.out).mono ?_;rintro e w2 ⟨⟨z,rfl,cW,bm,iB⟩,rfl⟩;have HZ3:=ae iB;clear iB;by_cases hz:z<0
 ·go_wp2_with fail
  go_ret
  exact⟨⟨90,rfl,fun op' f' c' h=>by have:=HZ3.out op' f' c' h (by omega) (by omega);omega⟩,m9.out⟩
 ·go_wp2_with fail
  refine(Eb iE.out U3.out HO.out _ _ _ Ya.out ry.out).mono ?_;rintro e w3 ⟨rfl,aP⟩;have bM:=ae aP;clear aP;go_wp2_with fail;go_ret
  exact⟨⟨_,rfl,fun _ _ _ _=>rfl⟩,ai m9.out bM.out⟩
end Go.Proofs.YtpljdjmpamjkhaaGreatDoor
