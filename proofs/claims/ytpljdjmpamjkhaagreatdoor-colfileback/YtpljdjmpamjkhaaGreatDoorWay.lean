import Derived.Test.YtpljdjmpamjkhaaGreatDoorWax
set_option linter.unusedVariables false
set_option linter.unusedSimpArgs false
set_option maxRecDepth 100000
set_option maxHeartbeats 8000000
namespace Go.Proofs.YtpljdjmpamjkhaaGreatDoor
open Go.RowKit Go.Lib
theorem Kq{w:World}{b off op f:Nat}{c:Cl}{kv:Value}(lB:op=1)(hn:fH w b off op f c kv)(iZ:Okc c)(u:Bool)(st:Stt)(iq:Oks st) :
  Calls Tryz.prog 194 #[.agg #[.bool false,.bool u,.bool false],.pointer (some ⟨b,off,none⟩),.agg #[.int .i64 st.rows,.int .i64 st.nulls,.bool st.some,.bool st.high,.int .u8 (st.lo.1:Int),.int .i64 st.lo.2.1,.string (ai st.lo.2.2),.int .u8 (st.hi.1:Int),.int .i64 st.hi.2.1,.string (ai st.hi.2.2)]] w fun e w'=>e=.returned (b3V (lw u op c st))/\Below w.heap.size w w':=by
 have lp:=ae lB;clear lB;have HO:=ae iZ;have co:=ae iq;have cB:=Flg.new w (false,u,false);have aA:=aj w (.cells #[.bool false,.bool u,.bool false] 123);have s1:(w.alloc (.cells #[.bool false,.bool u,.bool false] 123)).heap.size=w.heap.size+1:=YB _ _;simp only at cB;generalize hA:w.alloc (.cells #[.bool false,.bool u,.bool false] 123)=A at *;have cK:=Stb.new A st;have ay:=aj A (.cells #[.int .i64 st.rows,.int .i64 st.nulls,.bool st.some,.bool st.high,.int .u8 (st.lo.1:Int),.int .i64 st.lo.2.1,.string (ai st.lo.2.2),.int .u8 (st.hi.1:Int),.int .i64 st.hi.2.1,.string (ai st.hi.2.2)] 54);have s2:(A.alloc (.cells #[.int .i64 st.rows,.int .i64 st.nulls,.bool st.some,.bool st.high,.int .u8 (st.lo.1:Int),.int .i64 st.lo.2.1,.string (ai st.lo.2.2),.int .u8 (st.hi.1:Int),.int .i64 st.hi.2.1,.string (ai st.hi.2.2)] 54)).heap.size=A.heap.size+1:=YB _ _;generalize hB:A.alloc (.cells #[.int .i64 st.rows,.int .i64 st.nulls,.bool st.some,.bool st.high,.int .u8 (st.lo.1:Int),.int .i64 st.lo.2.1,.string (ai st.lo.2.2),.int .u8 (st.hi.1:Int),.int .i64 st.hi.2.1,.string (ai st.hi.2.2)] 54)=B at *;have gC:=Flg.new B (false,false,false);have aO:=aj B (.cells #[.bool false,.bool false,.bool false] 123);simp only at gC;generalize hC:B.alloc (.cells #[.bool false,.bool false,.bool false] 123)=C at *;have s12:B.heap.size=w.heap.size+1+1:=by omega
 have hws:Nw w C b off op f c kv u st:=by
  refine⟨ag (ag aA ay) aO,(cB.kept ay).kept aO,?_,by rw[← s12];exact gC,((hn.kept aA).kept ay).kept aO⟩;rw[← s1];have q:=cK;unfold Stb at *;rw[aO.block _ ((Array.getElem?_eq_some_iff.1 q).1)];exact q
 have Yh:=ae hws;obtain⟨lE,ew,gx,hg3,cO,x0,x1,x2,x3,x4,x5⟩:=hws;clear hn iZ iq cB cK gC aA ay aO lE ew gx hg3;go_enter Tryz.func194,Tryz.ntmps194
 go_wp2_with fail;clear hA hB hC;refine(mx HO.o _).mono ?_;rintro e w1 ⟨rfl,hb⟩;have zl:=ae (Yh.o.kept hb);clear hb x0 x1 x2 x3 x4 x5 cO Yh
 have HQ:jaH (∀ X,Nw w X b off op f c kv u st->(X.cell? ⟨w.heap.size+1,3,none⟩=some (.bool st.high)/\X.cell? ⟨w.heap.size+1,4,none⟩=some (.int .u8 (st.lo.1:Int))/\X.cell? ⟨w.heap.size+1,5,none⟩=some (.int .i64 st.lo.2.1)/\X.cell? ⟨w.heap.size+1,6,none⟩=some (.string (ai st.lo.2.2))/\X.cell? ⟨w.heap.size+1,7,none⟩=some (.int .u8 (st.hi.1:Int))/\X.cell? ⟨w.heap.size+1,8,none⟩=some (.int .i64 st.hi.2.1)/\X.cell? ⟨w.heap.size+1,9,none⟩=some (.string (ai st.hi.2.2)))/\X.cell? ⟨b,off,none⟩=some (.int .u8 (op:Int))):=ae (fun X h=>by
  obtain⟨_,⟨_,_,_,a4⟩,⟨a5,a6,a7⟩,a8,a9,a10⟩:=h.2.2.1.at;simp only[YY]at *;exact⟨⟨a4,a5,a6,a7,a8,a9,a10⟩,h.2.2.2.2.2.1⟩)
 obtain⟨⟨z3,z4,z5,z6,z7,z8,z9⟩,zo⟩:=HQ.o _ zl.o;clear s1 s2 s12;go_wp2_with fail;refine(mx co.o.1 _).mono ?_;rintro e w2 ⟨rfl,hb⟩;have mI:=ae (zl.o.kept hb);clear hb z3 z4 z5 z6 z7 z8 z9 zo zl;obtain⟨⟨z3,z4,z5,z6,z7,z8,z9⟩,zo⟩:=HQ.o _ mI.o;go_wp2_with fail;refine(jr (eH HO.o).val (eH co.o.1).val _).mono ?_;rintro e w3 ⟨rfl,hb⟩;have zf:=ae (mI.o.kept hb);clear hb z3 z4 z5 z6 z7 z8 z9 zo mI;obtain⟨⟨z3,z4,z5,z6,z7,z8,z9⟩,zo⟩:=HQ.o _ zf.o;obtain⟨m,hm⟩:∃ m,m=ch (aQ c) (aQ st.lo):=⟨_,rfl⟩;rw[show cv ((aQ c).1:Int) (aQ c).2.1 (ai (aQ c).2.2) ((aQ st.lo).1:Int) (aQ st.lo).2.1 (ai (aQ st.lo).2.2)=m from hm.symm];have HM:=ae hm;clear hm;go_wp2_with fail;refine(mx co.o.2 _).mono ?_;rintro e w4 ⟨rfl,hb⟩;have RA:=ae (zf.o.kept hb);clear hb z3 z4 z5 z6 z7 z8 z9 zo zf;obtain⟨⟨z3,z4,z5,z6,z7,z8,z9⟩,zo⟩:=HQ.o _ RA.o;go_wp2_with fail;refine(jr (eH HO.o).val (eH co.o.2).val _).mono ?_;rintro e w5 ⟨rfl,hb⟩;have Yu:=ae (RA.o.kept hb);clear hb z3 z4 z5 z6 z7 z8 z9 zo RA;obtain⟨⟨z3,z4,z5,z6,z7,z8,z9⟩,zo⟩:=HQ.o _ Yu.o;obtain⟨M,hM⟩:∃ m,m=ch (aQ c) (aQ st.hi):=⟨_,rfl⟩;rw[show cv ((aQ c).1:Int) (aQ c).2.1 (ai (aQ c).2.2) ((aQ st.hi).1:Int) (aQ st.hi).2.1 (ai (aQ st.hi).2.2)=M from hM.symm];have HMM:=ae hM;clear hM z4 z5 z6 z7 z8 z9 HQ;obtain⟨⟨p0,p1,p2⟩,⟨t0,t1,t2⟩,hpz⟩:=Yu.o.2.1.facts;obtain⟨⟨r0,r1,r2⟩,⟨v0,v1,v2⟩,hrz⟩:=Yu.o.2.2.2.1.facts;have jb:=ae Yu.o.1;have HU:=ae (Jl (eH HO.o));have H1:=ae (VS u c st);have H2:=ae (VT u c st);have H3:=ae (VU u c st);have H4:=ae (VV u c st);have H5:=ae (VW u op c st);rw[← HM.o,← HMM.o]at H1 H2 H3;generalize st.high=hi at *;generalize qA (aQ c)=uc at *;obtain⟨R,hR⟩:∃ R,R=lw u op c st:=⟨_,rfl⟩;have HR:=ae hR;clear hR;by_cases h1:op=1
 ·subst h1
  clear H4 H5 HR H2 H3;obtain Yt | Yt | Yt:m<0∨m=0∨0<m:=by omega
  ·have G1:jaH (decide (0<=m)=false/\decide (m=0)=false/\decide (0<m)=false):=ae (by refine⟨?_,?_,?_⟩<;>simp<;>omega)
   have k1:(m==0)=false:=YN.2 (by omega);have k2:¬ m>=0:=(by omega);have k3:¬ 0<m:=(by omega);clear Yt;cases hi
   ·skip
    go_wp2_with fail;refine bodyPost_ret (v:=.agg #[.bool true,.bool u,.bool false]) (by simp[results,Tryz.results194,go_sem,r0,r1,r2]<;>omega) rfl ⟨?_,set3 ((jb.o.setCell (p:=⟨w.heap.size,2,none⟩) (YA _) _).setCell (p:=⟨w.heap.size,0,none⟩) (YA _) _) (by omega) _ _ _⟩;simp only[H1.o,G1.o.1,G1.o.2.1];rfl
   ·obtain hMc | hMc | hMc:M<0∨M=0∨0<M:=by omega
    ·have G2:jaH (decide (0<=M)=false/\decide (M=0)=false/\decide (0<M)=false):=ae (by refine⟨?_,?_,?_⟩<;>simp<;>omega)
     have l1:(M==0)=false:=YN.2 (by omega);have l2:¬ M>=0:=(by omega);have l3:¬ 0<M:=(by omega);clear hMc;go_wp2_with fail;refine bodyPost_ret (v:=.agg #[.bool true,.bool u,.bool false]) (by simp[results,Tryz.results194,go_sem,r0,r1,r2]<;>omega) rfl ⟨?_,set3 ((jb.o.setCell (p:=⟨w.heap.size,2,none⟩) (YA _) _).setCell (p:=⟨w.heap.size,0,none⟩) (YA _) _) (by omega) _ _ _⟩;simp only[H1.o,G1.o.1,G1.o.2.1,G2.o.2.1,G2.o.2.2];rfl
    ·have G2:jaH (decide (0<=M)=true/\decide (M=0)=true/\decide (0<M)=false):=ae (by refine⟨?_,?_,?_⟩<;>simp<;>omega)
     subst hMc;go_wp2_with fail;refine bodyPost_ret (v:=.agg #[.bool true,.bool u,.bool false]) (by simp[results,Tryz.results194,go_sem,r0,r1,r2]<;>omega) rfl ⟨?_,set3 ((jb.o.setCell (p:=⟨w.heap.size,2,none⟩) (YA _) _).setCell (p:=⟨w.heap.size,0,none⟩) (YA _) _) (by omega) _ _ _⟩;simp only[H1.o,G1.o.1,G1.o.2.1,G2.o.2.1,G2.o.2.2];rfl
    ·have G2:jaH (decide (0<=M)=true/\decide (M=0)=false/\decide (0<M)=true):=ae (by refine⟨?_,?_,?_⟩<;>simp<;>omega)
     have l1:(M==0)=false:=YN.2 (by omega);have l2:M>=0:=(by omega);have l3:0<M:=(by omega);clear hMc;go_wp2_with fail;refine bodyPost_ret (v:=.agg #[.bool true,.bool u,.bool false]) (by simp[results,Tryz.results194,go_sem,r0,r1,r2]<;>omega) rfl ⟨?_,set3 ((jb.o.setCell (p:=⟨w.heap.size,2,none⟩) (YA _) _).setCell (p:=⟨w.heap.size,0,none⟩) (YA _) _) (by omega) _ _ _⟩;simp only[H1.o,G1.o.1,G1.o.2.1,G2.o.2.1,G2.o.2.2];rfl
  ·have G1:jaH (decide (0<=m)=true/\decide (m=0)=true/\decide (0<m)=false):=ae (by refine⟨?_,?_,?_⟩<;>simp<;>omega)
   subst Yt;cases hi
   ·skip
    go_wp2_with fail;refine bodyPost_ret (v:=.agg #[.bool true,.bool u,.bool true]) (by simp[results,Tryz.results194,go_sem,r0,r1,r2]<;>omega) rfl ⟨?_,set3 ((jb.o.setCell (p:=⟨w.heap.size,2,none⟩) (YA _) _).setCell (p:=⟨w.heap.size,0,none⟩) (YA _) _) (by omega) _ _ _⟩;simp only[H1.o,G1.o.1,G1.o.2.1];rfl
   ·obtain hMc | hMc | hMc:M<0∨M=0∨0<M:=by omega
    ·have G2:jaH (decide (0<=M)=false/\decide (M=0)=false/\decide (0<M)=false):=ae (by refine⟨?_,?_,?_⟩<;>simp<;>omega)
     have l1:(M==0)=false:=YN.2 (by omega);have l2:¬ M>=0:=(by omega);have l3:¬ 0<M:=(by omega);clear hMc;go_wp2_with fail;refine bodyPost_ret (v:=.agg #[.bool true,.bool u,.bool true]) (by simp[results,Tryz.results194,go_sem,r0,r1,r2]<;>omega) rfl ⟨?_,set3 ((jb.o.setCell (p:=⟨w.heap.size,2,none⟩) (YA _) _).setCell (p:=⟨w.heap.size,0,none⟩) (YA _) _) (by omega) _ _ _⟩;simp only[H1.o,G1.o.1,G1.o.2.1,G2.o.2.1,G2.o.2.2];rfl
    ·have G2:jaH (decide (0<=M)=true/\decide (M=0)=true/\decide (0<M)=false):=ae (by refine⟨?_,?_,?_⟩<;>simp<;>omega)
     subst hMc;go_wp2_with fail;have Cz:=Yu.o.2.1.set 2 (by omega);have ze:Below w.heap.size w (w5.setCell ⟨w.heap.size,2,none⟩ (.bool true)):=jb.o.setCell (p:=⟨w.heap.size,2,none⟩) (YA _) (.bool true)
     have Rh:Flg (w5.setCell ⟨w.heap.size,2,none⟩ (.bool true)) (w.heap.size+1+1) (false,false,false):=by
      have q:=Yu.o.2.2.2.1;unfold Flg at *;rw[heap_setCell_other w5 ⟨w.heap.size,2,none⟩ (w.heap.size+1+1) _ (show w.heap.size+1+1≠w.heap.size by omega)];exact q
     have Qu:=ae Cz;have Cu:=ae Rh;have sk:=ae ze;clear Cz Rh ze p0 p1 p2 t0 t1 t2 r0 r1 r2 v0 v1 v2 z3 zo;refine(HU.o _).mono ?_;rintro e w6 ⟨rfl,dP⟩;obtain⟨⟨p0,p1,p2⟩,⟨t0,t1,t2⟩,_⟩:=(Qu.o.kept dP).facts;obtain⟨⟨r0,r1,r2⟩,⟨v0,v1,v2⟩,_⟩:=(Cu.o.kept dP).facts;have jA:=ae (ag sk.o dP);clear dP;simp only[setB,Nat.reduceEqDiff,if_true,if_false]at p0 p1 p2;go_wp2_with fail;refine bodyPost_ret (v:=.agg #[.bool (!uc),.bool u,.bool true]) (by simp[results,Tryz.results194,go_sem,r0,r1,r2]<;>omega) rfl ⟨?_,set3 (jA.o.setCell (p:=⟨w.heap.size,0,none⟩) (YA _) _) (by omega) _ _ _⟩;simp only[H1.o,G1.o.1,G1.o.2.1,G2.o.2.1,G2.o.2.2];rfl
    ·have G2:jaH (decide (0<=M)=true/\decide (M=0)=false/\decide (0<M)=true):=ae (by refine⟨?_,?_,?_⟩<;>simp<;>omega)
     have l1:(M==0)=false:=YN.2 (by omega);have l2:M>=0:=(by omega);have l3:0<M:=(by omega);clear hMc;go_wp2_with fail;refine bodyPost_ret (v:=.agg #[.bool true,.bool u,.bool false]) (by simp[results,Tryz.results194,go_sem,r0,r1,r2]<;>omega) rfl ⟨?_,set3 ((jb.o.setCell (p:=⟨w.heap.size,2,none⟩) (YA _) _).setCell (p:=⟨w.heap.size,0,none⟩) (YA _) _) (by omega) _ _ _⟩;simp only[H1.o,G1.o.1,G1.o.2.1,G2.o.2.1,G2.o.2.2];rfl
  ·have G1:jaH (decide (0<=m)=true/\decide (m=0)=false/\decide (0<m)=true):=ae (by refine⟨?_,?_,?_⟩<;>simp<;>omega)
   have k1:(m==0)=false:=YN.2 (by omega);have k2:m>=0:=(by omega);have k3:0<m:=(by omega);clear Yt;cases hi
   ·skip
    go_wp2_with fail;refine bodyPost_ret (v:=.agg #[.bool true,.bool u,.bool true]) (by simp[results,Tryz.results194,go_sem,r0,r1,r2]<;>omega) rfl ⟨?_,set3 ((jb.o.setCell (p:=⟨w.heap.size,2,none⟩) (YA _) _).setCell (p:=⟨w.heap.size,0,none⟩) (YA _) _) (by omega) _ _ _⟩;simp only[H1.o,G1.o.1,G1.o.2.1];rfl
   ·obtain hMc | hMc | hMc:M<0∨M=0∨0<M:=by omega
    ·have G2:jaH (decide (0<=M)=false/\decide (M=0)=false/\decide (0<M)=false):=ae (by refine⟨?_,?_,?_⟩<;>simp<;>omega)
     have l1:(M==0)=false:=YN.2 (by omega);have l2:¬ M>=0:=(by omega);have l3:¬ 0<M:=(by omega);clear hMc;go_wp2_with fail;refine bodyPost_ret (v:=.agg #[.bool true,.bool u,.bool true]) (by simp[results,Tryz.results194,go_sem,r0,r1,r2]<;>omega) rfl ⟨?_,set3 ((jb.o.setCell (p:=⟨w.heap.size,2,none⟩) (YA _) _).setCell (p:=⟨w.heap.size,0,none⟩) (YA _) _) (by omega) _ _ _⟩;simp only[H1.o,G1.o.1,G1.o.2.1,G2.o.2.1,G2.o.2.2];rfl
    ·have G2:jaH (decide (0<=M)=true/\decide (M=0)=true/\decide (0<M)=false):=ae (by refine⟨?_,?_,?_⟩<;>simp<;>omega)
     subst hMc;go_wp2_with fail;refine bodyPost_ret (v:=.agg #[.bool true,.bool u,.bool true]) (by simp[results,Tryz.results194,go_sem,r0,r1,r2]<;>omega) rfl ⟨?_,set3 ((jb.o.setCell (p:=⟨w.heap.size,2,none⟩) (YA _) _).setCell (p:=⟨w.heap.size,0,none⟩) (YA _) _) (by omega) _ _ _⟩;simp only[H1.o,G1.o.1,G1.o.2.1,G2.o.2.1,G2.o.2.2];rfl
    ·have G2:jaH (decide (0<=M)=true/\decide (M=0)=false/\decide (0<M)=true):=ae (by refine⟨?_,?_,?_⟩<;>simp<;>omega)
     have l1:(M==0)=false:=YN.2 (by omega);have l2:M>=0:=(by omega);have l3:0<M:=(by omega);clear hMc;go_wp2_with fail;refine bodyPost_ret (v:=.agg #[.bool true,.bool u,.bool false]) (by simp[results,Tryz.results194,go_sem,r0,r1,r2]<;>omega) rfl ⟨?_,set3 ((jb.o.setCell (p:=⟨w.heap.size,2,none⟩) (YA _) _).setCell (p:=⟨w.heap.size,0,none⟩) (YA _) _) (by omega) _ _ _⟩;simp only[H1.o,G1.o.1,G1.o.2.1,G2.o.2.1,G2.o.2.2];rfl
 exact absurd lp.o h1
theorem sM{w:World}{q si b off op f:Nat}{c:Cl}{kv fv rv:Value}{l:List Fd}{r:List Stt}(lB:op=1)(hr:qQ w q si fv rv l r)(hn:fH w b off op f c kv)(iZ:Okc c)(kK:∀ x∈r,Oks x) :
  Calls Tryz.prog 160 #[.pointer (some ⟨q,0,none⟩),.pointer (some ⟨b,off,none⟩)] w fun e w'=>e=.returned (b3V (js l r op f c))/\Below w.heap.size w w':=by
 have lp:=ae lB;clear lB;have HO:=ae iZ;have lz:=ae kK;have Up:=ae (fun h=>Bv (l:=l) (r:=r) (op:=op) (f:=f) (c:=c) h);have QA:=ae (fun(j:Nat) h hj=>Bw (l:=l) (r:=r) (op:=op) (f:=f) (c:=c) (j:=j) h hj);have BV:=ae (fun(j:Nat) h hj=>Ka (l:=l) (r:=r) (op:=op) (f:=f) (c:=c) (j:=j) h hj);generalize js l r op f c=R at *;have cB:=Flg.new w (false,false,false);have aA:=aj w (.cells #[.bool false,.bool false,.bool false] 123);simp only at cB;have aN:=ae aA;have HR:=ae (hr.kept aA);have HN:=ae (hn.kept aA);have eB:=ae cB;have ll:(w.alloc (.cells #[.bool false,.bool false,.bool false] 123)).heap.size=w.heap.size+1:=YB _ _;have uX:=ae ll;generalize hA:w.alloc (.cells #[.bool false,.bool false,.bool false] 123)=A at *;clear hr hn cB aA iZ kK ll;have zh:=ae (fun(U:World) (hU:Below A.heap.size A U)=>qy (HR.o.2.2.2.2.1.kept hU) si f);obtain⟨Lq,y0,y1,y2,xz,fV⟩:=HR.o;obtain⟨cO,x0,x1,x2,x3,x4,x5⟩:=HN.o;obtain⟨fa,fcap,rfl,hfc,Ru⟩:=xz.form;obtain⟨ra,rcap,rfl,hrc,hrm⟩:=fV.form;clear xz fV;have hr0:∀ s:aW (fun x=>Below A.heap.size A x),s.w.cell? ⟨q,0,none⟩=some (.int .u32 (si:Int)):=fun s=>(s.ok.cell (p:=⟨q,0,none⟩) Lq).trans y0
 have xB:∀ s:aW (fun x=>Below A.heap.size A x),s.w.cell? ⟨q,1,none⟩=some (.slice fa l.length fcap):=fun s=>(s.ok.cell (p:=⟨q,1,none⟩) Lq).trans y1
 have vO:∀ s:aW (fun x=>Below A.heap.size A x),s.w.cell? ⟨b,off+1,none⟩=some (.int .u32 (f:Int)):=fun s=>(s.ok.cell (p:=⟨b,off+1,none⟩) cO).trans x1
 haveI:Nonempty (aW (fun x=>Below A.heap.size A x)):=⟨aW.mk A (Yz _ _)⟩
 go_enter Tryz.func160,Tryz.ntmps160
 go_wp2_with fail;refine bD (S:=fun x=>Below A.heap.size A x) (by kernel_rfl) (by kernel_rfl) (by first | exact(Yz _ _).drew | (rw[hA];exact(Yz _ _).drew)) ?_;repeat (go_big_quiet_step ((go_at_call 193;exact(zh.o _ (aW.ok _)).mono (fun e w' h=>⟨h.1,aW.mk w' (ag (aW.ok _) h.2),rfl⟩))))
 refine wpQuiet_nil ?_;rintro _ ⟨s2,rfl⟩;obtain⟨w2,np⟩:∃ x,x=s2.w:=⟨_,rfl⟩;have ay:=s2.ok;rw[← np]at ay ⊢;have aK:=ae (ag aN.o ay);have jF:=ae (HR.o.kept ay);have Cm:=ae (HN.o.kept ay);have eT:=ae (eB.o.kept ay);have Gz:jaH (w.heap.size<w2.heap.size):=ae (by have:=ay.size;have:=uX.o;omega);clear np ay hr0 xB vO x0 x1 x2 x3 x4 x5 y0 y1 y2 HR HN eB hA Lq cO;obtain⟨⟨p0,p1,p2⟩,⟨t0,t1,t2⟩,_⟩:=eT.o.facts;cases hp:gF l f with
 | none =>
  have HA:=ae (Up.o hp);simp only[Option.isSome_none,Option.getD_none];clear hp Up QA BV;go_wp2_with fail;refine bodyPost_ret (v:=.agg #[.bool true,.bool true,.bool true]) (by simp[results,Tryz.results160,go_sem,p0,p1,p2]) rfl ⟨?_,set3 aK.o (YA _) _ _ _⟩;rw[HA.o];rfl
 | some j =>
  simp only[Option.isSome_some,Option.getD_some];by_cases hj:j<r.length
  ·have HA:=ae (BV.o j hp hj)
   obtain⟨Lq,y0,y1,y2,_,fV⟩:=jF.o;have hj':¬ (j:Int)>=(r.length:Int):=(by omega);have Uj:(j:Int)<(r.length:Int):=(by omega);obtain⟨rb,roff,rfl,iq⟩:=fV.at hj;have HOS:=ae (lz.o r[j] (YF hj));generalize r[j]=st at *;have QJ:=ae iq;obtain⟨srows,snulls,ssome,shigh,slo,shi⟩:=st;have hst':=iq;obtain⟨hrb,⟨d0,d1,d2,d3⟩,⟨d4,d5,d6⟩,d7,d8,d9⟩:=hst';simp only at d0 d1 d2 d3 d4 d5 d6 d7 d8 d9;have bT:=ae (ag aK.o (aj w2 (.cells #[.int .i64 srows,.int .i64 snulls,.bool ssome,.bool shigh,.int .u8 (slo.1:Int),.int .i64 slo.2.1,.string (ai slo.2.2),.int .u8 (shi.1:Int),.int .i64 shi.2.1,.string (ai shi.2.2)] 54)));have aO:=aj w2 (.cells #[.int .i64 srows,.int .i64 snulls,.bool ssome,.bool shigh,.int .u8 (slo.1:Int),.int .i64 slo.2.1,.string (ai slo.2.2),.int .u8 (shi.1:Int),.int .i64 shi.2.1,.string (ai shi.2.2)] 54);have hS3:=Stb.new w2 (⟨srows,snulls,ssome,shigh,slo,shi⟩:Stt);simp only at hS3;have HN3:=ae (Cm.o.kept aO);have og:=ae (eT.o.kept aO);have s3:(w2.alloc (.cells #[.int .i64 srows,.int .i64 snulls,.bool ssome,.bool shigh,.int .u8 (slo.1:Int),.int .i64 slo.2.1,.string (ai slo.2.2),.int .u8 (shi.1:Int),.int .i64 shi.2.1,.string (ai shi.2.2)] 54)).heap.size=w2.heap.size+1:=YB _ _;have lC:=ae hS3;generalize hE:w2.alloc (.cells #[.int .i64 srows,.int .i64 snulls,.bool ssome,.bool shigh,.int .u8 (slo.1:Int),.int .i64 slo.2.1,.string (ai slo.2.2),.int .u8 (shi.1:Int),.int .i64 shi.2.1,.string (ai shi.2.2)] 54)=E at *;have HEZ:jaH (E.heap.size=w2.heap.size+1):=ae s3;clear fV iq hp Up QA BV lz aO s3 hS3;obtain⟨cO,x0,x1,x2,x3,x4,x5⟩:=HN3.o;obtain⟨_,⟨e0,e1,e2,e3⟩,⟨e4,e5,e6⟩,e7,e8,e9⟩:=lC.o.at;simp only[YY]at e0 e1 e2 e3 e4 e5 e6 e7 e8 e9;obtain⟨⟨p0',p1',p2'⟩,⟨t0',t1',t2'⟩,_⟩:=og.o.facts;by_cases h5:op=5
   ·exact absurd h5 (by rw[lp.o];omega)
   ·have n5:((op:Int)==5)=false:=YN.2 (by omega)
    have HAX:jaH (R=if ssome=true then lw (decide (0<snulls)) op c (⟨srows,snulls,ssome,shigh,slo,shi⟩:Stt) else (false,decide (0<snulls),false)):=ae (by rw[HA.o];unfold DL;rw[Yx h5]);clear HA h5;have hfF:=Flg.new E (false,decide (0<snulls),false);have hbF:=aj E (.cells #[.bool false,.bool (decide (0<snulls)),.bool false] 123);simp only at hfF;have sF:(E.alloc (.cells #[.bool false,.bool (decide (0<snulls)),.bool false] 123)).heap.size=E.heap.size+1:=YB _ _;have Lg:=ae hfF;have HNF:=ae (HN3.o.kept hbF);have vP:jaH (∀ X,Below (E.alloc (.cells #[.bool false,.bool (decide (0<snulls)),.bool false] 123)).heap.size (E.alloc (.cells #[.bool false,.bool (decide (0<snulls)),.bool false] 123)) X->DO X w2.heap.size 0 (⟨srows,snulls,ssome,shigh,slo,shi⟩:Stt)/\Flg X w.heap.size (false,false,false)/\Flg X E.heap.size (false,decide (0<snulls),false)):=ae (fun X h=>⟨(lC.o.at.kept hbF).kept h,(og.o.kept hbF).kept h,Lg.o.kept h⟩);have cA:=ae (ag bT.o hbF);obtain⟨⟨_,⟨g0,g1,g2,g3⟩,⟨g4,g5,g6⟩,g7,g8,g9⟩,hfg,hfh⟩:=vP.o _ (Yz _ _);simp only[YY]at g0 g1 g2 g3 g4 g5 g6 g7 g8 g9;obtain⟨⟨u0,u1,u2⟩,⟨s0,s1,s2'⟩,_⟩:=hfg.facts;obtain⟨⟨v0,v1,v2⟩,⟨q0',q1',q2'⟩,hvz⟩:=hfh.facts;clear hfF hbF sF hfg hfh;have HEW:jaH (w.heap.size<E.heap.size):=ae (by have:=Gz.o;have:=HEZ.o;omega);have fb:¬ E.heap.size=w.heap.size:=by have:=HEW.o;omega
    have vR:¬ w.heap.size=E.heap.size:=by have:=HEW.o;omega
    cases ssome
    ·have HAX':jaH (R=(false,decide (0<snulls),false)):=ae (by rw[HAX.o];rfl)
     go_wp2_with fail;have qa:∀(X:World) (o:Obj) (i:Nat),w.heap.size<X.heap.size->(X.alloc o).cell? ⟨w.heap.size,i,none⟩=X.cell? ⟨w.heap.size,i,none⟩:=fun X o i h=>(aj X o).cell h
     have hew:=HEW.o;have Fp:=set3 bT.o (YA _) (.bool false) (.bool (decide (0<snulls))) (.bool false);refine bodyPost_ret (v:=.agg #[.bool false,.bool (decide (0<snulls)),.bool false]) (by simp[results,Tryz.results160,go_sem,qa,hew,p0',p1',p2']) rfl ⟨?_,Fp.alloc Fp.size _⟩;rw[HAX'.o];rfl
    ·have HAX':jaH (R=lw (decide (0<snulls)) op c ⟨srows,snulls,true,shigh,slo,shi⟩):=ae (by rw[HAX.o];rfl)
     have HC:=ae (fun(U:World) (hU:Below (E.alloc (.cells #[.bool false,.bool (decide (0<snulls)),.bool false] 123)).heap.size (E.alloc (.cells #[.bool false,.bool (decide (0<snulls)),.bool false] 123)) U)=>Kq lp.o (HNF.o.kept hU) HO.o (decide (0<snulls)) ⟨srows,snulls,true,shigh,slo,shi⟩ HOS.o);simp only at HC;generalize lw (decide (0<snulls)) op c ⟨srows,snulls,true,shigh,slo,shi⟩=WM at *;clear HAX;go_wp2_with fail;refine(HC.o _ (Yz _ _)).mono ?_;rintro e w5 ⟨rfl,bv⟩;obtain⟨_,hfg,hfh⟩:=vP.o _ bv;have aJ:=ae (ag cA.o bv);clear bv u0 u1 u2 s0 s1 s2' v0 v1 v2 q0' q1' q2' g0 g1 g2 g3 g4 g5 g6 g7 g8 g9 hE e0 e1 e2 e3 e4 e5 e6 e7 e8 e9 p0' p1' p2' t0' t1' t2' x0 x1 x2 x3 x4 x5 hvz;obtain⟨⟨u0,u1,u2⟩,⟨s0,s1,s2'⟩,_⟩:=hfg.facts;obtain⟨⟨v0,v1,v2⟩,⟨q0',q1',q2'⟩,hvz⟩:=hfh.facts;clear hfg hfh;unfold b3V;go_wp2_with fail;refine bodyPost_ret (v:=.agg #[.bool WM.1,.bool WM.2.1,.bool WM.2.2]) (by simp[results,Tryz.results160,go_sem,u0,u1,u2,fb,vR]) rfl ⟨?_,set3 (set3 aJ.o (by have:=HEW.o;omega) _ _ _) (YA _) _ _ _⟩;rw[HAX'.o];rfl
  ·have HA:=ae (QA.o j hp hj)
   obtain⟨_,y0,y1,y2,_,fV⟩:=jF.o;have hj':(j:Int)>=(r.length:Int):=(by omega);clear hp Up QA BV fV;go_wp2_with fail;refine bodyPost_ret (v:=.agg #[.bool true,.bool true,.bool true]) (by simp[results,Tryz.results160,go_sem,p0,p1,p2]) rfl ⟨?_,set3 aK.o (YA _) _ _ _⟩;rw[HA.o];rfl
theorem PP{q si:Nat}{fv rv:Value}{l:List Fd}{r:List Stt}(kK:∀ x∈r,Oks x){op f:Nat}{c:Cl}{ks:List PT}(lB:op=1)(iZ:Okp (.node op f c ks))(w:World)(b off:Nat)(hr:qQ w q si fv rv l r)(mf:iy w b off (.node op f c ks)) :
  Calls Tryz.prog 112 #[.pointer (some ⟨q,0,none⟩),.pointer (some ⟨b,off,none⟩)] w fun e w'=>e=.returned (b3V (mM l r (.node op f c ks)))/\Below w.heap.size w w':=by
 have lp:=ae lB;clear lB;have lz:=ae kK;simp only[Okp]at iZ;obtain⟨_,_,GF,Co⟩:=iZ;have RD:=ae GF;have Lj:=ae Co.get;have Uc:=ae hr;obtain⟨a,cap,Fx,Fy⟩:=mf.open;have Yr:=ae Fx;have HK0:=ae Fy;have cB:=Flg.new w (false,false,false);have aA:=aj w (.cells #[.bool false,.bool false,.bool false] 123);simp only at cB;have sA:(w.alloc (.cells #[.bool false,.bool false,.bool false] 123)).heap.size=w.heap.size+1:=YB _ _;have kj:=ae sA;generalize hA:w.alloc (.cells #[.bool false,.bool false,.bool false] 123)=A at *;have eB:=ae cB;have aN:=ae aA;have pZ:=Fx.kept aA;obtain⟨_,_,Fw,hkc,QY⟩:=Fy.form;simp only[Value.slice.injEq]at Fw;obtain⟨rfl,_,rfl⟩:=Fw;have hkm':ks.length<=9223372036854775807:=by unfold maxLen at QY;omega
 obtain⟨cO,x0,x1,x2,x3,x4,x5⟩:=pZ;clear hr mf Fx Fy GF Co kK QY cB aA sA;have HD:jaH (mM l r (.node op f c ks)=if op=6 then mayAnd l r ks (false,false,true) else if op=7 then mayOr l r ks (true,false,false) else if op=8 then mayNot l r ks else js l r op f c):=ae (by simp only[mM]);generalize mM l r (.node op f c ks)=R at *;have h6:¬ op=6:=by rw[lp.o];omega
 have h7:¬ op=7:=by rw[lp.o];omega
 have h8:¬ op=8:=by rw[lp.o];omega
 have n6:((op:Int)==6)=false:=YN.2 (by omega);have n7:((op:Int)==7)=false:=YN.2 (by omega);rw[Yx h6,Yx h7]at HD;obtain⟨⟨p0,p1,p2⟩,⟨t0,t1,t2⟩,hpz⟩:=eB.o.facts;have n8:((op:Int)==8)=false:=YN.2 (by omega);rw[Yx h8]at HD;clear h6 h7 h8;have HC:=ae (sM lp.o (Uc.o.kept aN.o) (Yr.o.kept aN.o) RD.o lz.o);generalize js l r op f c=ev at *;obtain⟨ev0,ev1,ev2⟩:=ev;go_enter Tryz.func112,Tryz.ntmps112
 go_wp2_with fail;refine HC.o.mono ?_;rintro e w2 ⟨rfl,ay⟩;have aK:=ae (ag aN.o ay);have eT:=ae (eB.o.kept ay);obtain⟨⟨r0,r1,r2⟩,⟨s0,s1,s2⟩,_⟩:=eT.o.facts;clear ay p0 p1 p2 t0 t1 t2 hA;unfold b3V;go_wp2_with fail;refine bodyPost_ret (v:=.agg #[.bool ev0,.bool ev1,.bool ev2]) (by simp[results,Tryz.results112,go_sem,r0,r1,r2]) rfl ⟨?_,set3 aK.o (YA _) _ _ _⟩;rw[HD.o];rfl
theorem may1{w:World}{op f si:Nat}{c:Cl}{ks:List PT}{kv fv rv:Value}{l:List Fd}{r:List Stt}(lB:op=1)(hk:qB w kv ks)(iZ:Okp (.node op f c ks))(hs:Sf w fv l)(hv:Ss w rv r)(kK:∀ x∈r,Oks x) :
  Calls Tryz.prog 66 #[.agg #[.int .u8 (op:Int),.int .u32 (f:Int),.int .u8 (c.1:Int),.int .i64 c.2.1,.string (ai c.2.2),kv],.agg #[.int .u32 (si:Int),fv],rv] w fun e w'=>e=.returned (b3V (mM l r (.node op f c ks)))/\Below w.heap.size w w':=by
 have HC:=ae (fun(U:World) (b off q:Nat) hr hl=>PP (q:=q) (si:=si) (fv:=fv) (rv:=rv) (l:=l) kK lB iZ U b off hr hl);have lp:=ae lB;clear lB;have HK:=ae hk;have HS:=ae hs;have HV:=ae hv;generalize mM l r (.node op f c ks)=R at *;obtain⟨R0,R1,R2⟩:=R;obtain⟨ka,kcap,rfl,_,_⟩:=hk.form;obtain⟨fa,fcap,rfl,_,_⟩:=hs.form;obtain⟨ra,rcap,rfl,_,_⟩:=hv.form;clear hk hs hv iZ kK;have hn:=uf w op f c (.slice ka ks.length kcap);have aA:=aj w (.cells #[.int .u8 (op:Int),.int .u32 (f:Int),.int .u8 (c.1:Int),.int .i64 c.2.1,.string (ai c.2.2),.slice ka ks.length kcap] 63);generalize hA:w.alloc (.cells #[.int .u8 (op:Int),.int .u32 (f:Int),.int .u8 (c.1:Int),.int .i64 c.2.1,.string (ai c.2.2),.slice ka ks.length kcap] 63)=A at *;have ay:=aj A (.cells #[.int .u32 (si:Int),.slice fa l.length fcap] 25);obtain⟨e0,e1⟩:=aR A (.int .u32 (si:Int)) (.slice fa l.length fcap) 25;have hzA:A.heap.size<(A.alloc (.cells #[.int .u32 (si:Int),.slice fa l.length fcap] 25)).heap.size:=by rw[YB];omega
 generalize hB:A.alloc (.cells #[.int .u32 (si:Int),.slice fa l.length fcap] 25)=B at *;have aO:=aj B (.cells #[.bool false,.bool false,.bool false] 123);have gC:=Flg.new B (false,false,false);simp only at gC;have g0:=(aO.cell (p:=⟨A.heap.size,0,none⟩) hzA).trans e0;have g1:=(aO.cell (p:=⟨A.heap.size,1,none⟩) hzA).trans e1;generalize hC:B.alloc (.cells #[.bool false,.bool false,.bool false] 123)=C at *;have bm:=aj C (.cells #[.int .u32 (si:Int),.slice fa l.length fcap,.slice ra r.length rcap] 175);obtain⟨k0,k1,k2⟩:=dC C (.int .u32 (si:Int)) (.slice fa l.length fcap) (.slice ra r.length rcap) 175;have hz:C.heap.size<(C.alloc (.cells #[.int .u32 (si:Int),.slice fa l.length fcap,.slice ra r.length rcap] 175)).heap.size:=by rw[YB];omega
 generalize hD:C.alloc (.cells #[.int .u32 (si:Int),.slice fa l.length fcap,.slice ra r.length rcap] 175)=D at *;have lE:Below w.heap.size w D:=ag (ag (ag aA ay) aO) bm;have QZ:jaH (qQ D C.heap.size si (.slice fa l.length fcap) (.slice ra r.length rcap) l r):=ae ⟨hz,k0,k1,k2,HS.o.kept lE,HV.o.kept lE⟩;have yX:jaH (iy D w.heap.size 0 (.node op f c ks)):=ae (iy.shut (((hn.kept ay).kept aO).kept bm) (HK.o.kept lE));have jb:=ae lE;have Yp:=ae (gC.kept bm);have Uq:jaH (w.heap.size<=B.heap.size):=ae (by have:=aA.size;have:=ay.size;omega);clear hn aA ay aO bm lE k0 k1 k2 hz gC;go_enter Tryz.func66,Tryz.ntmps66
 go_wp2_with fail;refine(HC.o _ _ _ _ QZ.o yX.o).mono ?_;rintro e w2 ⟨rfl,ay⟩;have aK:=ae (ag jb.o ay);obtain⟨⟨r0,r1,r2⟩,⟨s0,s1,s2⟩,_⟩:=(Yp.o.kept ay).facts;clear ay hA hB hC hD e0 e1 g0 g1;unfold b3V;go_wp2_with fail;refine bodyPost_ret (v:=.agg #[.bool R0,.bool R1,.bool R2]) (by simp[results,Tryz.results66,go_sem,r0,r1,r2]) rfl ⟨?_,set3 aK.o Uq.o _ _ _⟩;rfl
theorem held1{w:World}{b off op f:Nat}{c x:Cl}{kv:Value}(lB:op=1)(hn:fH w b off op f c kv)(iZ:Okc c)(hl:c.2.2.length<=300)(hf:aI x):Calls Tryz.prog 222 #[.pointer (some ⟨b,off,none⟩),cp x] w fun e w'=>e=.returned (.int .u8 (Nq op c x:Int))/\Below w.heap.size w w':=by
 have lp:=ae lB;clear lB;have HF:=ae hf;have HO:=ae iZ;have HL:=ae hl;have HN:=ae hn;obtain⟨cO,x0,x1,x2,x3,x4,x5⟩:=hn;clear hf iZ hl;go_enter Tryz.func222,Tryz.ntmps222
 go_wp2_with fail;refine(mx HO.o _).mono ?_;rintro e w1 ⟨rfl,aA⟩;have aN:=ae aA;clear x0 x1 x2 x3 x4 x5 cO;have Fj:=ae (HN.o.kept aA);clear aA HN;go_wp2_with fail;refine(jr HF.o.val (eH HO.o).val _).mono ?_;rintro e w2 ⟨rfl,ay⟩;have aK:=ae (ag aN.o ay);obtain⟨cO,x0,x1,x2,x3,x4,x5⟩:=Fj.o.kept ay;clear ay aN Fj;obtain⟨m,hm⟩:∃ m,m=ch x (aQ c):=⟨_,rfl⟩;have uS:cv (x.1:Int) x.2.1 (ai x.2.2) ((aQ c).1:Int) (aQ c).2.1 (ai (aQ c).2.2)=m:=hm.symm;rw[uS];have HM:=ae hm;clear hm uS;by_cases h1:op=1
 ·subst h1
  go_wp2_with fail;refine(FX _ _).mono ?_;rintro e w3 ⟨rfl,rfl⟩;go_wp2_with fail;go_ret
  refine⟨?_,aK.o⟩;rw[HM.o];rfl
 exact absurd lp.o h1
theorem uI{w:World}{q si b off op f:Nat}{c:Cl}{kv fv rv:Value}{l:List Fd}{r:List Cl}(lB:op=1)(hr:wZ w q si fv rv l r)(hn:fH w b off op f c kv)(iZ:Okc c)(hl:c.2.2.length<=300)(kK:∀ x∈r,aI x) :
  Calls Tryz.prog 196 #[.pointer (some ⟨q,0,none⟩),.pointer (some ⟨b,off,none⟩)] w fun e w'=>e=.returned (.int .u8 (ni l r op f c:Int))/\Below w.heap.size w w':=by
 have lp:=ae lB;clear lB;have HR:=ae hr;have HN:=ae hn;have HO:=ae iZ;have HL:=ae hl;have lz:=ae kK;have zh:=ae (fun(U:World) (hU:Below w.heap.size w U)=>qy (hr.2.2.2.2.1.kept hU) si f);have Up:=ae (fun h=>DM (l:=l) (r:=r) (op:=op) (f:=f) (c:=c) h);have QA:=ae (fun(j:Nat) h hj=>DN (l:=l) (r:=r) (op:=op) (f:=f) (c:=c) (j:=j) h hj);have BV:=ae (fun(j:Nat) h hj=>Ns (l:=l) (r:=r) (op:=op) (f:=f) (c:=c) (j:=j) h hj);generalize ni l r op f c=R at *;obtain⟨Lq,y0,y1,y2,xz,fV⟩:=hr;obtain⟨cO,x0,x1,x2,x3,x4,x5⟩:=hn;obtain⟨fa,fcap,rfl,hfc,Ru⟩:=xz.form;obtain⟨ra,rcap,rfl,hrc,hrm⟩:=fV.form1;rw[ax]at *;clear xz fV iZ hl kK;have hr0:∀ s:aW (fun x=>Below w.heap.size w x),s.w.cell? ⟨q,0,none⟩=some (.int .u32 (si:Int)):=fun s=>(s.ok.cell (p:=⟨q,0,none⟩) Lq).trans y0
 have xB:∀ s:aW (fun x=>Below w.heap.size w x),s.w.cell? ⟨q,1,none⟩=some (.slice fa l.length fcap):=fun s=>(s.ok.cell (p:=⟨q,1,none⟩) Lq).trans y1
 have vO:∀ s:aW (fun x=>Below w.heap.size w x),s.w.cell? ⟨b,off+1,none⟩=some (.int .u32 (f:Int)):=fun s=>(s.ok.cell (p:=⟨b,off+1,none⟩) cO).trans x1
 haveI:Nonempty (aW (fun x=>Below w.heap.size w x)):=⟨aW.mk w (Yz _ _)⟩
 go_enter Tryz.func196,Tryz.ntmps196
 go_wp2_with fail;refine bD (S:=fun x=>Below w.heap.size w x) (by kernel_rfl) (by kernel_rfl) (Yz _ _).drew ?_;repeat (go_big_quiet_step ((go_at_call 193;exact(zh.o _ (aW.ok _)).mono (fun e w' h=>⟨h.1,aW.mk w' (ag (aW.ok _) h.2),rfl⟩))))
 refine wpQuiet_nil ?_;rintro _ ⟨s2,rfl⟩;obtain⟨w2,np⟩:∃ x,x=s2.w:=⟨_,rfl⟩;have ay:=s2.ok;rw[← np]at ay ⊢;have aK:=ae ay;have jF:=ae (HR.o.kept ay);have Cm:=ae (HN.o.kept ay);have bh:=ay.size;clear np ay hr0 xB vO x0 x1 x2 x3 x4 x5 y0 y1 y2 HR HN;cases hp:gF l f with
 | none =>
  have HA:=ae (Up.o hp);simp only[Option.isSome_none,Option.getD_none];clear hp Up QA BV;go_wp2_with fail;go_ret
  rw[HA.o];exact⟨rfl,aK.o⟩
 | some j =>
  simp only[Option.isSome_some,Option.getD_some];by_cases hj:j<r.length
  ·have HA:=ae (BV.o j hp hj)
   obtain⟨_,y0,y1,y2,_,fV⟩:=jF.o;have hj':¬ (j:Int)>=(r.length:Int):=(by omega);have Uj:(j:Int)<(r.length:Int):=(by omega);obtain⟨rb,roff,rfl,hrb,z⟩:=fV.at1 (cd hj);have HF:=ae (lz.o r[j] (YF hj));generalize r[j]=x at *;have Cc:=ae fV;clear fV hp Up QA BV lz;go_wp2_with fail;refine(FV HF.o _).mono ?_;rintro e w3 ⟨rfl,rfl⟩;have HNK:=Cm.o;obtain⟨hb0',x0,x1,x2,x3,x4,x5⟩:=HNK;by_cases h5:op=5
   ·subst h5
    go_wp2_with fail;refine(FX _ _).mono ?_;rintro e w4 ⟨rfl,rfl⟩;go_wp2_with fail;go_ret
    refine⟨?_,aK.o⟩;rw[HA.o];unfold Au;rw[Yy rfl];have e1:((x.1:Int)==0)=decide (x.1=0):=by rw[jaj];simp
    rw[e1];rfl
   ·have n5:((op:Int)==5)=false:=YN.2 (by omega)
    by_cases hx:x.1=0
    ·have hx':((x.1:Int)==0)=true:=by rw[hx];rfl
     have HA':jaH (R=1):=ae (by rw[HA.o];unfold Au;rw[Yx h5,Yy hx]);clear h5 hx;go_wp2_with fail;go_ret
     rw[HA'.o];exact⟨rfl,aK.o⟩
    ·have hx':((x.1:Int)==0)=false:=YN.2 (by omega)
     have HA':jaH (R=Nq op c x):=ae (by rw[HA.o];unfold Au;rw[Yx h5,Yx hx]);clear h5 hx;go_wp2_with fail;refine(held1 lp.o Cm.o HO.o HL.o HF.o).mono ?_;rintro e w4 ⟨rfl,bm⟩;have cA:=ae bm;clear bm;go_wp2_with fail;go_ret
     rw[HA'.o];exact⟨rfl,ag aK.o cA.o⟩
  ·have HA:=ae (QA.o j hp hj)
   obtain⟨_,y0,y1,y2,_,fV⟩:=jF.o;have hj':(j:Int)>=(r.length:Int):=(by omega);clear hp Up QA BV fV;go_wp2_with fail;go_ret
   rw[HA.o];exact⟨rfl,aK.o⟩
theorem TA{q si:Nat}{fv rv:Value}{l:List Fd}{r:List Cl}(kK:∀ x∈r,aI x){op f:Nat}{c:Cl}{ks:List PT}(lB:op=1)(iZ:Okp (.node op f c ks))(bg:Len (.node op f c ks))(w:World)(b off:Nat)(hr:wZ w q si fv rv l r)(mf:iy w b off (.node op f c ks)) :
  Calls Tryz.prog 161 #[.pointer (some ⟨q,0,none⟩),.pointer (some ⟨b,off,none⟩)] w fun e w'=>e=.returned (.int .u8 (ii l r (.node op f c ks):Int))/\Below w.heap.size w w':=by
 have lp:=ae lB;clear lB;have lz:=ae kK;have HR:=ae hr;simp only[Okp]at iZ;simp only[Len]at bg;obtain⟨_,_,GF,Co⟩:=iZ;obtain⟨hl,hlks⟩:=bg;have RD:=ae GF;have Lj:=ae Co.get;have HL:=ae hl;have HLK:=ae hlks.get;obtain⟨a,cap,pZ,mg⟩:=mf.open;have HN:=ae pZ;have HK:=ae mg;have Xv:=mg.form;obtain⟨_,_,Fw,hkc,QY⟩:=Xv;simp only[Value.slice.injEq]at Fw;obtain⟨rfl,_,rfl⟩:=Fw;have hkm':ks.length<=9223372036854775807:=by unfold maxLen at QY;omega
 obtain⟨cO,x0,x1,x2,x3,x4,x5⟩:=pZ;clear hr mf mg GF Co hl hlks kK QY;have HD:jaH (ii l r (.node op f c ks)=if op=6 then evalAnd l r ks 2 else if op=7 then evalOr l r ks 0 else if op=8 then evalNot l r ks else ni l r op f c):=ae (by simp only[ii]);generalize ii l r (.node op f c ks)=R at *;have h6:¬ op=6:=by rw[lp.o];omega
 have h7:¬ op=7:=by rw[lp.o];omega
 have h8:¬ op=8:=by rw[lp.o];omega
 have n6:((op:Int)==6)=false:=YN.2 (by omega);have n7:((op:Int)==7)=false:=YN.2 (by omega);rw[Yx h6,Yx h7]at HD;have n8:((op:Int)==8)=false:=YN.2 (by omega);rw[Yx h8]at HD;clear h6 h7 h8;go_enter Tryz.func161,Tryz.ntmps161
 go_wp2_with fail;refine(uI lp.o HR.o HN.o RD.o HL.o lz.o).mono ?_;rintro e w2 ⟨rfl,ay⟩;have aK:=ae ay;clear ay;go_wp2_with fail;go_ret
 rw[HD.o];exact⟨rfl,aK.o⟩
theorem eval1{w:World}{op f si:Nat}{c:Cl}{ks:List PT}{kv fv rv:Value}{l:List Fd}{r:List Cl}(lB:op=1)(hk:qB w kv ks)(iZ:Okp (.node op f c ks))(bg:Len (.node op f c ks))(hs:Sf w fv l)(hv:Sv w rv (aC r))(kK:∀ x∈r,aI x) :
  Calls Tryz.prog 113 #[.agg #[.int .u8 (op:Int),.int .u32 (f:Int),.int .u8 (c.1:Int),.int .i64 c.2.1,.string (ai c.2.2),kv],.agg #[.int .u32 (si:Int),fv],rv] w fun e w'=>e=.returned (.int .u8 (ii l r (.node op f c ks):Int))/\Below w.heap.size w w':=by
 have HC:=ae (fun(U:World) (b off q:Nat) hr hl=>TA (q:=q) (si:=si) (fv:=fv) (rv:=rv) (l:=l) kK lB iZ bg U b off hr hl);have lp:=ae lB;clear lB;have HK:=ae hk;have HS:=ae hs;have HV:=ae hv;generalize ii l r (.node op f c ks)=R at *;obtain⟨ka,kcap,rfl,_,_⟩:=hk.form;obtain⟨fa,fcap,rfl,_,_⟩:=hs.form;obtain⟨ra,rcap,rfl,_,_⟩:=hv.form1;clear hk hs hv iZ bg kK;have hn:=uf w op f c (.slice ka ks.length kcap);have aA:=aj w (.cells #[.int .u8 (op:Int),.int .u32 (f:Int),.int .u8 (c.1:Int),.int .i64 c.2.1,.string (ai c.2.2),.slice ka ks.length kcap] 63);generalize hA:w.alloc (.cells #[.int .u8 (op:Int),.int .u32 (f:Int),.int .u8 (c.1:Int),.int .i64 c.2.1,.string (ai c.2.2),.slice ka ks.length kcap] 63)=A at *;have ay:=aj A (.cells #[.int .u32 (si:Int),.slice fa l.length fcap] 25);obtain⟨e0,e1⟩:=aR A (.int .u32 (si:Int)) (.slice fa l.length fcap) 25;generalize hB:A.alloc (.cells #[.int .u32 (si:Int),.slice fa l.length fcap] 25)=B at *;have aO:=aj B (.cells #[.int .u32 (si:Int),.slice fa l.length fcap,.slice ra (aC r).length rcap] 216);obtain⟨g0,g1,g2⟩:=dC B (.int .u32 (si:Int)) (.slice fa l.length fcap) (.slice ra (aC r).length rcap) 216;have hz:B.heap.size<(B.alloc (.cells #[.int .u32 (si:Int),.slice fa l.length fcap,.slice ra (aC r).length rcap] 216)).heap.size:=by rw[YB];omega
 generalize hC:B.alloc (.cells #[.int .u32 (si:Int),.slice fa l.length fcap,.slice ra (aC r).length rcap] 216)=C at *;have lE:Below w.heap.size w C:=ag (ag aA ay) aO;have QZ:jaH (wZ C B.heap.size si (.slice fa l.length fcap) (.slice ra (aC r).length rcap) l r):=ae ⟨hz,g0,g1,g2,HS.o.kept lE,HV.o.kept lE⟩;have yX:jaH (iy C w.heap.size 0 (.node op f c ks)):=ae (iy.shut ((hn.kept ay).kept aO) (HK.o.kept lE));have jb:=ae lE;clear hn aA ay aO lE g0 g1 g2 hz;go_enter Tryz.func113,Tryz.ntmps113
 go_wp2_with fail;refine(HC.o _ _ _ _ QZ.o yX.o).mono ?_;rintro e w2 ⟨rfl,ay⟩;have aK:=ae ay;clear ay;go_wp2_with fail;go_ret
 exact⟨rfl,ag jb.o aK.o⟩
theorem TB{w:World}{b off op f si:Nat}{c:Cl}{a:Option Addr}{n cap:Nat}{fv:Value}{l:List Fd}(lB:op=1)(hn:fH w b off op f c (.slice a n cap))(hs:Sf w fv l)(iZ:Okc c):Calls Tryz.prog 154 #[.pointer (some ⟨b,off,none⟩),.agg #[.int .u32 (si:Int),fv]] w fun e w'=>e=.returned (.int .i64 (mc l op f c n))/\Below w.heap.size w w':=by
 have lp:=ae lB;clear lB;obtain⟨fa,fcap,rfl,hfc,Ru⟩:=hs.form;have aA:=aj w (.cells #[.int .u32 (si:Int),.slice fa l.length fcap] 25);have aN:=ae aA;obtain⟨e0,e1⟩:=aR w (.int .u32 (si:Int)) (.slice fa l.length fcap) 25;have HS:=ae (hs.kept aA);have HN:=ae (hn.kept aA);have HO:=ae iZ;generalize hA:w.alloc (.cells #[.int .u32 (si:Int),.slice fa l.length fcap] 25)=A at *;clear aA hs hn iZ;obtain⟨cO,x0,x1,x2,x3,x4,x5⟩:=HN.o;have HD:jaH (mc l op f c n=if 1<=op/\op<=5 then ffM l op f c n else if 6<=op/\op<=8 then fkM op f c n else 90):=ae rfl;generalize mc l op f c n=R at *;by_cases h5:1<=op/\op<=5
 ·rw[Yy h5]at HD
  have HC:=ae (fun(U:World) (hU:Below A.heap.size A U)=>qU (si:=si) (HN.o.kept hU) (HS.o.kept hU) HO.o);generalize ffM l op f c n=R2 at *;have h:=lp.o
  all_goals
   clear lp;subst h;clear h5;go_enter Tryz.func154,Tryz.ntmps154
   go_wp2_with fail;try rw[hA]
   refine(HC.o _ (Yz _ _)).mono ?_;rintro e w2 ⟨rfl,ay⟩;have aK:=ae (ag aN.o ay);clear ay;go_wp2_with fail;go_ret
   rw[HD.o];exact⟨rfl,aK.o⟩
 ·exact absurd (show 1<=op/\op<=5 by rw[lp.o];omega) h5
theorem BQ{si:Nat}{fv:Value}{l:List Fd}{op f:Nat}{c:Cl}{ks:List PT}(lB:op=1)(QX:ks=[])(iZ:Okp (.node op f c ks))(w:World)(b off:Nat)(hs:Sf w fv l)(mf:iy w b off (.node op f c ks)) :
  Calls Tryz.prog 111 #[.pointer (some ⟨b,off,none⟩),.agg #[.int .u32 (si:Int),fv]] w fun e w'=>e=.returned (.int .i64 (li l (.node op f c ks)))/\Below w.heap.size w w':=by
 have lp:=ae lB;have QR:=ae QX;clear lB QX;simp only[Okp]at iZ;obtain⟨_,_,GF,Co⟩:=iZ;have RD:=ae GF;have Lj:=ae Co.get;obtain⟨fa,fcap,rfl,hfc,Ru⟩:=hs.form;have aA:=aj w (.cells #[.int .u32 (si:Int),.slice fa l.length fcap] 25);have aN:=ae aA;obtain⟨e0,e1⟩:=aR w (.int .u32 (si:Int)) (.slice fa l.length fcap) 25;have hz:w.heap.size<(w.alloc (.cells #[.int .u32 (si:Int),.slice fa l.length fcap] 25)).heap.size:=by rw[YB];omega
 have HS:=ae (hs.kept aA);obtain⟨a,cap,pZ,mg⟩:=(iy.kept aA _ _ _ mf).open;generalize hA:w.alloc (.cells #[.int .u32 (si:Int),.slice fa l.length fcap] 25)=A at *;have HN:=ae pZ;have HK:=ae mg;have Xv:=mg.form;obtain⟨_,_,Fw,hkc,QY⟩:=Xv;simp only[Value.slice.injEq]at Fw;obtain⟨rfl,_,rfl⟩:=Fw;have hkm':ks.length<=9223372036854775807:=by unfold maxLen at QY;omega
 clear aA hs mf pZ mg GF Co QY;have HD:jaH (li l (.node op f c ks)=if mc l op f c ks.length≠0 then mc l op f c ks.length else firstAll l ks):=ae (by simp only[li]);generalize li l (.node op f c ks)=R at *;have HC:=ae (fun(U:World) (hU:Below A.heap.size A U)=>TB lp.o (si:=si) (HN.o.kept hU) (HS.o.kept hU) RD.o);generalize mc l op f c ks.length=e1v at *;go_enter Tryz.func111,Tryz.ntmps111
 go_wp2_with fail;try rw[hA]
 refine(HC.o _ (Yz _ _)).mono ?_;rintro e w2 ⟨rfl,ay⟩;have aK:=ae ay;have Cm:=ae (HN.o.kept ay);have g0:=(ay.cell (p:=⟨w.heap.size,0,none⟩) hz).trans e0;have g1:=(ay.cell (p:=⟨w.heap.size,1,none⟩) hz).trans e1;have bh:=Za hz ay.size;have hzA:=ay.size;clear ay e0 e1 hA;by_cases h0:e1v=0
 ·subst h0
  rw[Yx (by simp)]at HD;have HD':jaH (R=firstAll l (ks.drop 0)):=HD;clear HD;obtain⟨cO,x0,x1,x2,x3,x4,x5⟩:=Cm.o;go_wp2_with fail;clear x0 x1 x2 x3 x4 x5;go_loopw [19] (fun i wr=>∃ k:Nat,k<=ks.length/\i=.int .i64 (k:Int)/\R=firstAll l (ks.drop k)/\Below w2.heap.size w2 wr) (fun i _=>ks.length-(intOf i).toNat)
  case atStart=>exact⟨0,by omega,rfl,HD'.o,Yz _ _⟩
  case round =>
   obtain⟨k,hk,rfl,kJ,ao⟩:=hrel;have HF:=ae kJ;have HB:=ae ao;have bM:=ao.size;clear kJ ao HD';by_cases ar:k<ks.length
   ·exact absurd ar (by rw[QR.o];simp)
   ·obtain rfl:k=ks.length:=by omega
    have eO:¬ ((ks.length:Nat):Int)<(ks.length:Int):=(by omega);have HT:=ae (HF.o.trans yO);clear HF;go_wp2_with fail;go_ret
    rw[HT.o];exact⟨rfl,ag aN.o (ag aK.o HB.o)⟩
 ·rw[Yy h0]at HD
  have h0':(e1v != 0)=true:=by simpa using h0
  clear h0;go_wp2_with fail;go_ret
  rw[HD.o];exact⟨rfl,ag aN.o aK.o⟩
theorem room1{op f:Nat}{c:Cl}{ks:List PT}(QX:ks=[])(w:World)(b off m d:Nat)(hm:m<100)(hd:d<100)(mf:iy w b off (.node op f c ks)):Calls Tryz.prog 110 #[.pointer (some ⟨b,off,none⟩),.int .i64 (m:Int),.int .i64 (d:Int)] w (BO w (.node op f c ks) m d):=by
 have QR:=ae QX;clear QX;obtain⟨a,cap,pZ,mg⟩:=mf.open;have HK:=ae mg;have Xv:=mg.form;obtain⟨_,_,Fw,hkc,QY⟩:=Xv;simp only[Value.slice.injEq]at Fw;obtain⟨rfl,_,rfl⟩:=Fw;have hkm':ks.length<=9223372036854775807:=by unfold maxLen at QY;omega
 clear mf mg QY;obtain⟨cO,x0,x1,x2,x3,x4,x5⟩:=pZ;have HP0:jaH (∀ w',m=0∨d=0->w'=w->BO w (.node op f c ks) m d (.returned (.int .i64 (-1))) w'):=ae (fun w' h hw=>⟨⟨-1,rfl,by omega,by omega,fun _ _ _ _ h1 h2=>by omega⟩,hw⟩);by_cases WE:m=0
 ·subst WE
  go_enter Tryz.func110,Tryz.ntmps110
  go_wp2_with fail;go_ret
  exact HP0.o _ (by simp) rfl
 have hm0':((m:Int)==0)=false:=YN.2 (by omega);by_cases hd0:d=0
 ·subst hd0
  go_enter Tryz.func110,Tryz.ntmps110
  go_wp2_with fail;go_ret
  exact HP0.o _ (by simp) rfl
 have hd0':((d:Int)==0)=false:=YN.2 (by omega);have HMD:jaH (0<m/\0<d/\m<100/\d<100):=ae ⟨by omega,by omega,hm,hd⟩;clear HP0;go_enter Tryz.func110,Tryz.ntmps110
 go_wp2_with fail;go_loopw [1,21] (fun s i wr=>∃ k n:Nat,k<=ks.length/\i=.int .i64 (k:Int)/\s=.int .i64 (n:Int)/\n<100/\(k=0->(n:Int)=(m:Int)-1)/\wr=w) (fun _ i _=>ks.length-(intOf i).toNat)
 case atStart=>exact⟨0,m-1,by omega,rfl,by congr 1;omega,by omega,fun _=>by omega,rfl⟩
 case round =>
  obtain⟨k,n,hk,rfl,rfl,hn,mP,rfl⟩:=hrel;have Yr:=ae mP;clear mP;by_cases ar:k<ks.length
  ·exact absurd ar (by rw[QR.o];simp)
  ·obtain rfl:k=ks.length:=by omega
   have eO:¬ ((ks.length:Nat):Int)<(ks.length:Int):=(by omega);go_wp2_with fail;go_ret
   exact⟨⟨(n:Int),rfl,by omega,by omega,fun op' f' c' h _ _=>Yr.o (by simp only[PT.node.injEq]at h;rw[h.2.2.2];rfl)⟩,rfl⟩
theorem Wt{w:World}{op f si:Nat}{c:Cl}{ks:List PT}{kv fv:Value}{l:List Fd}(lB:op=1)(QX:ks=[])(hk:qB w kv ks)(iZ:Okp (.node op f c ks))(hs:Sf w fv l) :
  Calls Tryz.prog 65 #[.agg #[.int .u8 (op:Int),.int .u32 (f:Int),.int .u8 (c.1:Int),.int .i64 c.2.1,.string (ai c.2.2),kv],.agg #[.int .u32 (si:Int),fv]] w (Kk w l (.node op f c ks)):=by
 have lp:=ae lB;have QR:=ae QX;clear lB QX;have HK:=ae hk;have HS:=ae hs;have HO:=ae iZ;obtain⟨ka,kcap,rfl,_,_⟩:=hk.form;obtain⟨fa,fcap,rfl,_,_⟩:=hs.form;clear hk hs iZ;have hn:=uf w op f c (.slice ka ks.length kcap);have aA:=aj w (.cells #[.int .u8 (op:Int),.int .u32 (f:Int),.int .u8 (c.1:Int),.int .i64 c.2.1,.string (ai c.2.2),.slice ka ks.length kcap] 63);generalize hA:w.alloc (.cells #[.int .u8 (op:Int),.int .u32 (f:Int),.int .u8 (c.1:Int),.int .i64 c.2.1,.string (ai c.2.2),.slice ka ks.length kcap] 63)=A at *;have ay:=aj A (.cells #[.int .u32 (si:Int),.slice fa l.length fcap] 25);obtain⟨e0,e1⟩:=aR A (.int .u32 (si:Int)) (.slice fa l.length fcap) 25;generalize hB:A.alloc (.cells #[.int .u32 (si:Int),.slice fa l.length fcap] 25)=B at *;have lE:Below w.heap.size w B:=ag aA ay;have yX:jaH (iy B w.heap.size 0 (.node op f c ks)):=ae (iy.shut (hn.kept ay) (HK.o.kept lE));have WV:=ae (HS.o.kept lE);have jb:=ae lE;clear hn aA ay lE;go_enter Tryz.func65,Tryz.ntmps65
 go_wp2_with fail;refine(room1 QR.o _ _ _ 32 8 (by omega) (by omega) yX.o).mono ?_;rintro e w2 ⟨⟨z,rfl,cG,bh,jE⟩,rfl⟩;have HZ3:=ae jE;clear jE;by_cases hz:z<0
 ·go_wp2_with fail
  go_ret
  exact⟨⟨90,rfl,fun op' f' c' h=>by have:=HZ3.o op' f' c' h (by omega) (by omega);omega⟩,jb.o⟩
 ·go_wp2_with fail
  refine(BQ lp.o QR.o HO.o _ _ _ WV.o yX.o).mono ?_;rintro e w3 ⟨rfl,aO⟩;have bT:=ae aO;clear aO;go_wp2_with fail;go_ret
  exact⟨⟨_,rfl,fun _ _ _ _=>rfl⟩,ag jb.o bT.o⟩
theorem xor8{a b:Nat}(ha:a<256)(hb:b<256):bits .xor .u8 (a:Int) (b:Int)=((a ^^^ b:Nat):Int):=u8_xor_nat a b ha hb
theorem BR{w:World}(ht:Tab w):Calls Tryz.prog 9 #[] w fun e w'=>e=.returned (.bool true)/\Below w.heap.size w w':=by
 have HT:=ae ht;clear ht;go_enter Tryz.func9,Tryz.ntmps9
 go_wp2_with fail;refine(Kl _).mono ?_;rintro e w1 ⟨⟨v1,rfl,o1⟩,aA⟩;obtain⟨a1,c1,rfl,_,_⟩:=bf o1;simp only[show eA.length=2 from rfl]at *;have ay:=aj w1 (.cells #[.int .u32 1,.slice a1 2 c1] 25);have bh:(w1.alloc (.cells #[.int .u32 1,.slice a1 2 c1] 25)).heap.size=w1.heap.size+1:=YB _ _;obtain⟨x0,x1⟩:=aR w1 (.int .u32 1) (.slice a1 2 c1) 25;obtain⟨oh,gV⟩:=PO (w1.alloc (.cells #[.int .u32 1,.slice a1 2 c1] 25));rw[bh]at oh gV;have Ra:=ag aA ay;have La:=ae (ag Ra (gV.mono (Nat.le_of_eq bh)));have HW:=ae (lZ (HT.o.kept La.o) ((o1.sf.kept ay).kept (gV.mono (Nat.le_of_eq bh))) oh okA (show (1:Nat)<4294967296 by omega) (fun r hr=>(nk r hr).2) 1);rw[PI]at HW;simp only at HW;have HTW:=ae (HT.o.kept La.o);clear aA ay oh gV Ra o1 bh;go_wp2_with fail;refine HW.o.mono ?_;rintro e w6 ⟨⟨v6,rfl,o6⟩,dP⟩;have oe:=ae o6;have HT6:=ae (HTW.o.kept dP);have jA:=ae (ag La.o dP);have XH:=o6.sv;obtain⟨a6,c6,rfl,_,_⟩:=bf o6;have lp:=ae (oa HT6.o XH bsA (by have:=Wl.2;omega));have HSV6:=ae XH;clear dP o6 XH HW HTW La x0 x1;go_wp2_with fail;refine lp.o.mono ?_;rintro e w7 ⟨⟨c,hc,_⟩ | ⟨id,fs,g,gs,fp,fv,ho,rfl,sV,Lt⟩,jK⟩
 ·rw[UA]at hc;cases hc
 rw[UA]at ho;simp only[Except.ok.injEq,Prod.mk.injEq]at ho;obtain⟨rfl,rfl,rfl,rfl⟩:=ho;have pX:jaH (Fil w7 w6.heap.size fp 1 fv gsA):=ae sV;have yW:=ae Lt;have pT:=ae (ag jA.o jK);have HT7:=ae (HT6.o.kept jK);have HSV7:=ae (HSV6.o.kept jK);have QZ:=ae (uG pX.o (by rw[Tz];decide));rw[Tz]at QZ;simp only[show (rA.length:Int)=2 from rfl]at QZ;clear sV Lt jK lp HSV6;go_wp2_with fail;refine QZ.o.mono ?_;rintro e w8 ⟨rfl,lm⟩;have UM:=ae (pX.o.kept lm);have Cp:=ae (yW.o.kept lm);have uL:=ae (ag pT.o lm);have HT8:=ae (HT7.o.kept lm);have HSV8:=ae (HSV7.o.kept lm);have qe:=ae (pL UM.o);simp only[show (gsA.length:Int)=2 from rfl]at qe;clear lm QZ pX yW HT7 HSV7;go_wp2_with fail;refine qe.o.mono ?_;rintro e w8' ⟨rfl,rfl⟩;clear qe
 have zk:=ae (EY (op:=1) (f:=1) (c:=(1,2,[])) (ks:=[]) UM.o Cp.o.sf (pO _) (fun U rv r hU fV QT=>eval1 rfl (pO U) Ws lenpA (Cp.o.sf.kept hU) fV QT) (fun U rv sts hU hss hos=>may1 rfl (pO U) Ws (Cp.o.sf.kept hU) hss hos) (fun r hr=>by
  rw[Tz]at hr;exact⟨by have:=ox (nk r hr).1;rw[this];decide,(nk r hr).2⟩) (by rw[Tz];decide) (by decide) oksA 0 1 [rA2] (fun _=>⟨Wq.symm,Wr.symm⟩) (fun h=>absurd rfl h) (fun U hU=>by
  refine(Wt (op:=1) (f:=1) (c:=(1,2,[])) (ks:=[]) (si:=1) rfl rfl (pO U) Ws (Cp.o.sf.kept hU)).mono ?_;rintro e w' ⟨⟨n,rfl,hn⟩,hb⟩;have Qp:=hn 1 1 (1,2,[]) rfl;rw[Qp];exact⟨by rw[show li eA (.node 1 1 (1,2,[]) [])=0 from Wm],hb⟩))
 simp only[dr]at zk;go_wp2_with fail;refine zk.o.mono ?_;rintro e w9 ⟨⟨v9,l9,rfl,TN,hsn9⟩,sR⟩
 obtain⟨rv,rfl⟩:∃ rv,l9=[(rv,rA2)]:=by
  match l9,hsn9 with
  | [(rv,r)],h =>
   have:r=rA2:=by simpa using h
   exact⟨rv,by rw[this]⟩
 obtain⟨a9,c9,rfl,_,_⟩:=TN.form;obtain⟨g9,rfl,hg9,Rb,Rc⟩:=TN.at (k:=0) (show 0<1 by omega);simp only[YI,Zc,YY,jar]at *;obtain⟨ra9,rc9,rfl,_,_⟩:=bf Rc;simp only[show rA2.length=2 from rfl]at *;have HR9:=ae Rc;have XW:=ae Rb;have KA:=ae (ag uL.o sR);have HT9:=ae (HT8.o.kept sR);have HSV9:=ae (HSV8.o.kept sR);have HG9:=ae hg9;have Rq:=ae (dN w9 (.cells #[] 5));have Gu:=ae (tn w9);have qg:=ae (HSV9.o.kept Rq.o);have Ku:=Wl;clear sR TN hsn9 Rc Rb hg9 zk HSV8 HT8 UM Cp;go_wp2_with (first | (at_builtin;refine ea rfl _ _ rfl w9.heap.size _ _ [] bA rfl ?q1 rfl ?q2 ?k1 ?k2 ?_))
 case q1=>exact Gu.o
 case q2=>exact qg.o
 case k1=>simp only[Zc];omega
 case k2=>rw[YB];omega
 intro v10 w10 o10 b10 _ _;have Vl:=Rq.o.trans b10;obtain⟨g,cap,rfl,hBg,Qf⟩:=o10.form (by omega);obtain⟨ek,kK⟩:=o10.at Ku.1;have hx5:=bsA _ (YF Ku.1);have hxx:bits .xor .u8 ((bA[5]'Ku.1:Nat):Int) 1=((bA[5]'Ku.1 ^^^ 1:Nat):Int):=xor8 (b:=1) hx5 (by omega);have co:=ae (o10.stored 5 (bA[5]'Ku.1 ^^^ 1));have hB11:Below w9.heap.size w9 (w10.setCell ⟨g,5,none⟩ (.int .u8 ((bA[5]'Ku.1 ^^^ 1:Nat):Int))):=Vl.setCell hBg _;have HB11:=ae hB11
 have HX8:jaH (Bs (bA.set 5 (bA[5]'Ku.1 ^^^ 1))):=ae (fun x hx=>by
  rcases List.mem_or_eq_of_mem_set hx with h | rfl
  ·exact bsA x h
  ·have:bA[5]'Ku.1 ^^^ 1<2 ^ 8:=jaB hx5 (by omega)
   omega)
 have HTU:=ae turnA;have WD:jaH ((bA.set 5 (bA[5]'Ku.1 ^^^ 1)).length=bA.length):=ae jak;have HOP2:=ae (oa (HT9.o.kept hB11) co.o.sv HX8.o (by rw[WD.o];omega));have hlt5:(5:Int)<(bA.length:Int):=by omega
 clear Rq Gu qg o10 b10 Vl hB11;generalize bA.set 5 (bA[5]'Ku.1 ^^^ 1)=bB at *;generalize bA[5]'Ku.1 ^^^ 1=z at *;generalize bA[5]'Ku.1=y at *;go_wp2_with fail;refine HOP2.o.mono ?_;rintro e w12 ⟨⟨c,hc,rfl⟩ | ⟨id,fs,g',gs,fp',fv',ho,_⟩,Ra⟩
 case inr=>rw[HTU.o]at ho;cases ho
 rw[HTU.o]at hc;obtain rfl:101=c:=by simpa using hc
 have Ur:=HB11.o.trans (Ra.mono HB11.o.size);have bn:=(Ur.cell (p:=⟨g9,0,none⟩) HG9.o).trans XW.o;have iO:=HR9.o.kept Ur;have La:=ae (ag KA.o Ur);have Xa:=ae (wU iO.sv yP (by decide));clear Ra Ur hc HOP2 iO;go_wp2_with fail;refine Xa.o.mono ?_;rintro e w13 ⟨⟨v13,rfl,o13⟩,hb13⟩;have HB13:=ae (ag La.o hb13);have gV:=aj w13 (.cells #[.int .u8 1,.int .i64 2,.string ⟨#[]⟩,.int .u8 0,.int .i64 0,.string ⟨#[]⟩] 52);have QW:dB (w13.alloc (.cells #[.int .u8 1,.int .i64 2,.string ⟨#[]⟩,.int .u8 0,.int .i64 0,.string ⟨#[]⟩] 52)) w13.heap.size (.slice (some ⟨w13.heap.size,0,none⟩) 2 2) rA2:=Wp w13 rA2 (by decide);have Gw:=ae (rK (o13.sc.kept gV) QW.sc (fun c hc=>(yP c hc).bsA) (fun c hc=>(yP c hc).bsA));obtain⟨a13,c13,rfl,_,_⟩:=bf o13;have HBL2:=ae (ag HB13.o gV);simp only[show rA2.length=2 from rfl,decide_true]at *;clear o13 hb13 gV QW Xa bn;go_wp2_with fail;refine Gw.o.mono ?_;rintro e w14 ⟨rfl,hb14⟩;have HB14:=ae (ag HBL2.o hb14);clear hb14;go_wp2_with fail;go_ret
 exact⟨rfl,HB14.o⟩
def PQ(fs:List Fd)(most:Nat)(l:List (Value×Row)):Prop:=PM l/\l.length<=most/\∀ x∈l,gW fs x.2=0
theorem PQ.fit{fs:List Fd}{most:Nat}{l:List (Value×Row)}(h:PQ fs most l):jv fs (l.map Prod.snd):=fun r hr=>by
 obtain⟨x,hx,rfl⟩:=YS.1 hr;exact⟨h.2.2 x hx,(h.1.2 x hx).2⟩
def Ocb(W:World)(B B2:Nat)(v:Value)(l:List (Value×Row)):Prop:=W.ownsRow B 58 1 v l.length (l.map Prod.fst)/\∀ x∈l,dB W B2 x.1 x.2
theorem Ocb.nil(W:World)(B B2:Nat):Ocb W B B2 (.slice none 0 0) []:=⟨Zx _ _ _ _,fun x hx=>by simp at hx⟩
theorem Ocb.kept{W W':World}{B B2:Nat}{v:Value}{l:List (Value×Row)}(h:Ocb W B B2 v l)(hb:Below W.heap.size W W'):Ocb W' B B2 v l:=⟨bP h.1 hb,fun x hx=>(h.2 x hx).kept hb⟩
theorem Ocb.oc{W:World}{B B2 B':Nat}{v:Value}{l:List (Value×Row)}(h:Ocb W B B2 v l)(h1:B'<=B)(h2:B'<=B2):Oc W B' v l:=⟨qR h.1 h1,fun x hx=>dB.low' (h.2 x hx) h2⟩
theorem vM{w:World}(ty:TypeId)(base base2:Nat)(v vx:Value)(l0 l:List (Value×Row))(aw:Ocb w base base2 v l0)(et:Sv w vx (l.map Prod.fst))(hr:∀ x∈l,dB w base2 x.1 x.2)(hbytes:l0.length+l.length<=1000000)(aD:base<=w.heap.size) :
  ∃ v' w',(Builtin.append_ #[26,26] ty #[v,vx]).run Tryz.prog w=.ok v' w'/\Ocb w' base base2 v' (l0++l)/\Below base w w':=by
 obtain⟨i0,hi,bN,hz1',bh⟩:=YW Pr;obtain⟨ad,cap,rfl,h1,h2,h3,h4⟩:=et;rw[YD]at *
 have one:∀ x∈l.map Prod.fst,x.oneCell'=true:=fun x hx=>by
  obtain⟨y,hy,rfl⟩:=YS.1 hx;obtain⟨a,n,c,e⟩:=du (hr y hy);rw[e];rfl
 cases ad with
 | none =>
  have hc:=h3 rfl;subst hc;have hl:l=[]:=YU (by omega);subst hl;have hr:=jae (P:=Tryz.prog) (w:=w) base 26 ty 58 i0 1 Tryz.underlying26 hi v l0.length (l0.map Prod.fst) aw.1;refine⟨v,w,hr,by rw[YZ];exact aw,Yz _ _⟩
 | some ad =>
  obtain⟨v',w',vT,o1,g1,_,e1⟩:=run_append_own_at (P:=Tryz.prog) w base 26 ty 58 i0 (.slice none 0 0) 1 24 Tryz.underlying26 hi bN hz1' bh rfl (by decide) v l0.length (l0.map Prod.fst) aw.1 ad l.length cap (l.map Prod.fst) (by rw[YD];omega)
   (fun j u hu=>by
    have hj:j<l.length:=by
     have:=(List.getElem?_eq_some_iff.1 hu).1;rwa[YD]at this
    obtain⟨b,off,h5,_,h6⟩:=h4 (by omega);cases h5
    rw[kq];exact h6 j u hu) one (by unfold maxLen;omega) (by omega) aD
  have keep:∀ y:Value×Row,dB w base2 y.1 y.2->dB w' base2 y.1 y.2:=fun y hy =>
   bF hy fun k hk=>g1.block k (aE hy hk).2.1 (fun e=>dU hy aw.1 (by decide) hk e.symm)
  refine⟨v',w',vT,⟨?_,fun y hy=>?_⟩,(Yz base w).grown g1 aD (fun k hk=>(aw.1.lt k hk).1)⟩
  ·rw[YC,YX]
   exact o1
  ·rcases Zg.1 hy with hy | hy
   ·exact keep y (aw.2 y hy)
   ·exact keep y (hr y hy)
theorem yT{w:World}{o:Oper}{a:Act}{K:Act->World->Prop}{Q:Exit->Act->World->Prop}(s x:Operand)
  (ho:o.op=.call { callee:=.builtin .append,args:=#[s,x],argTypes:=#[26,26] })
  (base base2:Nat) (v vx:Value) (l0 l:List (Value×Row)) (hs:a.eval s=v) (aw:Ocb w base base2 v l0) (hx:a.eval x=vx) (et:Sv w vx (l.map Prod.fst)) (hr:∀ x∈l,dB w base2 x.1 x.2) (hbytes:l0.length+l.length<=1000000) (aD:base<=w.heap.size)
  (h:∀ v' w',Ocb w' base base2 v' (l0++l)->Below base w w'->K (a.put o.dst v') w'):Oper.wp Tryz.prog o a w K Q:=by
 obtain⟨v',w',hr,h2,h3⟩:=vM o.type base base2 v vx l0 l aw et hr hbytes aD;unfold Oper.wp execOp;simp only[ho,resolve,invoke,builtin,Sem.run_bind,Sem.run_pure,Result.andThen_ok,ZP,Zh,Zs,hs,hx,hr];exact h v' w' h2 h3
theorem qV{w:World}{ops:Array Oper}{rest:List Oper}{o:Oper}{a:Act}{Q:Exit->Act->World->Prop}(dO:o.guard=none)(s x:Operand)
  (ho:o.op=.call { callee:=.builtin .append,args:=#[s,x],argTypes:=#[26,26] })
  (base base2:Nat) (v vx:Value) (l0 l:List (Value×Row)) (hs:a.eval s=v) (aw:Ocb w base base2 v l0) (hx:a.eval x=vx) (et:Sv w vx (l.map Prod.fst)) (hr:∀ x∈l,dB w base2 x.1 x.2) (hbytes:l0.length+l.length<=1000000) (aD:base<=w.heap.size)
  (h:∀ v' w',Ocb w' base base2 v' (l0++l)->Below base w w'->wpList Tryz.prog ops Q rest (a.put o.dst v') w') :
  wpList Tryz.prog ops Q (o::rest) a w :=
 wpList_plain dO fun K hK=>yT s x ho base base2 v vx l0 l hs aw hx et hr hbytes aD fun v' w' h1 h2=>hK _ _ (h v' w' h1 h2)
theorem EZ{w:World}{v fv:Value}{fs:List Fd}{rs:List Row}(hs:Sr w v rs)(hf:Sf w fv fs)(ho:∀ r∈rs,∀ c∈r,Okc c)(id:Nat)(most:Nat) :
  Calls Tryz.prog 16 #[.agg #[.int .u32 (id:Int),fv],v,.int .i64 (most:Int)] w fun e w'=>(∃ v' l,e=.returned v'/\Oc w' w.heap.size v' l/\PQ fs most l)/\Below w.heap.size w w':=by
 obtain⟨fa,fc,rfl,_,_⟩:=hf.form;obtain⟨a,cap,rfl,_,_⟩:=hs.form;have cO:=aj w (.cells #[.int .u32 (id:Int),.slice fa fs.length fc] 25);obtain⟨x0,x1⟩:=aR w (.int .u32 (id:Int)) (.slice fa fs.length fc) 25;have bN:(w.alloc (.cells #[.int .u32 (id:Int),.slice fa fs.length fc] 25)).heap.size=w.heap.size+1:=YB _ _;generalize hA:w.alloc (.cells #[.int .u32 (id:Int),.slice fa fs.length fc] 25)=A at *
 have HT:jaH (∀ U,Below A.heap.size A U->U.cell? ⟨w.heap.size,0,none⟩=some (.int .u32 (id:Int))/\U.cell? ⟨w.heap.size,1,none⟩=some (.slice fa fs.length fc)):=ae (fun U hU =>
  ⟨(hU.cell (p:=⟨w.heap.size,0,none⟩) (by show w.heap.size<_;omega)).trans x0,(hU.cell (p:=⟨w.heap.size,1,none⟩) (by show w.heap.size<_;omega)).trans x1⟩)
 have CB:=ae (BP (hs.kept cO) ho);have HS:=ae (hf.kept cO);have bV:=ae cO;have Rx:=ae bN;clear hs hf ho cO x0 x1 bN;go_enter Tryz.func16,Tryz.ntmps16
 go_wp2_with fail;try rw[hA]
 clear hA;refine CB.o.mono ?_;rintro e w1 ⟨⟨v1,rs2,rfl,dI,cB⟩,aA⟩;have fK:=ae dI;have aN:=ae aA;have eB:=ae cB;obtain⟨a1,c1,rfl,jy,jH,_⟩:=dI.form;have hc2':c1<=9223372036854775807:=by unfold maxLen at jH;omega
 have pS:=cB.1;clear dI aA cB;go_wp2_with fail;go_loopw [7,9] (fun o i wr=>∃(j:Nat) (l:List (Value×Row)),j<=rs2.length/\i=.int .i64 (j:Int)/\Ocb wr w1.heap.size A.heap.size o l/\l.length<=j/\l.length<=most/\(∀ x∈l,(x.2.length<=20/\∀ c∈x.2,aI c)/\gW fs x.2=0)/\Below w1.heap.size w1 wr) (fun _ i _=>rs2.length-(intOf i).toNat)
 case atStart=>exact⟨0,[],by omega,rfl,Ocb.nil _ _ _,by simp,by simp,fun x hx=>by simp at hx,Yz _ _⟩
 case round =>
  obtain⟨j,l,hj,rfl,how,hlj,Yo,ja,ao⟩:=hrel;have vU:=ae how;have HB:=ae (ag aN.o ao);have HBR:=ae ao;have uZ:=ae ja;have bM:=(ag aN.o ao).size;have XI:=ao.size;obtain⟨la,lc,rfl,Qn,hl2'⟩:=bf how.1;clear how ao ja;by_cases ar:j<rs2.length
  ·have hlt':(j:Int)<(rs2.length:Int):=by omega
   by_cases hm:l.length<most
   ·have hm':(l.length:Int)<(most:Int):=by omega
    obtain⟨g,rfl,hg,bn,GF⟩:=(fK.o.kept HBR.o).at ar;obtain⟨d0,d1⟩:=HT.o wr HB.o;have HRJ:=ae (eB.o.2 _ (YF ar));obtain⟨ra,rc,oh,KS,zc⟩:=bf GF
    have Ch:jaH (∀ U,Below wr.heap.size wr U->Calls Tryz.prog 43 #[.agg #[.int .u32 (id:Int),.slice fa fs.length fc],.slice ra rs2[j].2.length rc] U fun e w'=>e=.returned (.int .i64 (gW fs rs2[j].2:Int))/\Below wr.heap.size wr w'):=ae (fun U hU=>by
     have h1:=GF.sc.kept hU;rw[oh]at h1;refine(Dy (HS.o.kept (HB.o.trans (hU.mono bM))) h1 id).mono ?_;rintro e w' ⟨rfl,hb⟩;exact⟨rfl,ag hU hb⟩)
    rw[oh]at bn GF;have RD:=ae GF;have XW:jaH (∀ U,Below wr.heap.size wr U->U.cell? ⟨g,j,none⟩=some (.slice ra rs2[j].2.length rc)):=ae (fun U hU=>(hU.cell (p:=⟨g,j,none⟩) hg).trans bn);obtain⟨F,hF⟩:∃ F,gW fs rs2[j].2=F:=⟨_,rfl⟩;rw[hF]at Ch;have Qo:=ae hF;clear GF oh hF;generalize rs2[j].2=r at *;go_upto_region 6 with fail
    go_cut [30] from 39 (fun v wx=>v=.bool ((F:Int)==0)/\Below wr.heap.size wr wx)
    case first =>
     refine wp_region_noPanic ?_
     go_region_law (first
      | (go_simp;go_at_call 43;refine(Ch.o _ ?_).mono ?_;exact ak (Yz wr.heap.size wr) _;rintro e w5 ⟨rfl,bv⟩;have aJ:=ae bv;clear bv;dsimp only)
      | fail)
     all_goals refine NoPanic.normal ?_
     all_goals go_wp2_with fail
     all_goals go_meet
     all_goals exact⟨rfl,aJ.o⟩
    case rest =>
    obtain⟨rfl,pY⟩:=hcut;obtain⟨w5,Ys⟩:∃ w5,w5=wc:=⟨_,rfl⟩;subst Ys;have aJ:=ae pY;have zi:=pY.size;have cQ:=ae (vU.o.kept pY);have pW:=ae (RD.o.kept pY);have ek:=XW.o w5 pY;clear pY bn d0 d1 vU RD Ch XW;by_cases hF0:F=0
    ·have hFz:((F:Int)==0)=true:=by rw[hF0];rfl
     have jI:=ae (aX w5 (.slice ra r.length rc) 58);go_wp2_with (first | (at_builtin;refine qV rfl _ _ rfl w1.heap.size A.heap.size _ _ l [(.slice ra r.length rc,r)] rfl (cQ.o.kept (aj _ _)) rfl (mF jI.o (by rw[YB];omega)) ?c1 ?c2 ?c3 ?_))
     case c1 =>
      intro x hx;rw[Zl.1 hx];exact(pW.o.kept (aj _ _)).low' (YA _)
     case c2=>simp only[Zj];omega
     case c3=>rw[YB];omega
     intro v' w6 o6 b6;have oe:=ae o6;have jA:=ae (((HBR.o.trans (aJ.o.mono XI)).alloc (YG XI zi) _).trans b6);clear o6 b6;go_wp2_with fail;go_roundw
     case rel =>
      refine⟨j+1,_,by omega,by go_num,oe.o,by rw[YC];simp only[Zj];omega,by rw[YC];simp only[Zj];omega,fun x hx=>?_,jA.o⟩;rcases Zg.1 hx with hx | hx
      ·exact uZ.o x hx
      ·rw[Zl.1 hx];exact⟨HRJ.o,Qo.o.trans hF0⟩
     case measure=>simp[intOf];omega
    ·have hFz:((F:Int)==0)=false:=by simp;omega
     have jA:=ae (HBR.o.trans (aJ.o.mono XI));go_wp2_with fail;go_roundw
     case rel=>exact⟨j+1,l,by omega,by go_num,cQ.o,by omega,Yo,uZ.o,jA.o⟩
     case measure=>simp[intOf];omega
   ·have hm':¬ (l.length:Int)<(most:Int):=by omega
    have Um:w.heap.size<=A.heap.size:=by have:=Rx.o;omega
    have Cf:w.heap.size<=w1.heap.size:=YG Um aN.o.size;have Rd:jaH (PQ fs most l):=ae ⟨⟨by omega,fun x hx=>(uZ.o x hx).1⟩,Yo,fun x hx=>(uZ.o x hx).2⟩;go_wp2_with fail;go_ret
    first | exact⟨⟨_,_,rfl,vU.o.oc Cf Um,Rd.o⟩,ag bV.o HB.o⟩ | exact⟨⟨_,rfl,_,vU.o.oc Cf Um,Rd.o⟩,ag bV.o HB.o⟩
  ·have eO:¬ (j:Int)<(rs2.length:Int):=by omega
   have Um:w.heap.size<=A.heap.size:=by have:=Rx.o;omega
   have Cf:w.heap.size<=w1.heap.size:=YG Um aN.o.size;have Rd:jaH (PQ fs most l):=ae ⟨⟨by omega,fun x hx=>(uZ.o x hx).1⟩,Yo,fun x hx=>(uZ.o x hx).2⟩;go_wp2_with fail;go_ret
   first | exact⟨⟨_,_,rfl,vU.o.oc Cf Um,Rd.o⟩,ag bV.o HB.o⟩ | exact⟨⟨_,rfl,_,vU.o.oc Cf Um,Rd.o⟩,ag bV.o HB.o⟩
end Go.Proofs.YtpljdjmpamjkhaaGreatDoor
