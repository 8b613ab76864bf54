/- The leaf of a predicate that asks for equality: what May, Eval and Check say of it. -/
import Derived.Test.YtpljdjmpamjkhaaGreatDoorZbi
import Derived.Test.YtpljdjmpamjkhaaGreatDoorZas
import Derived.Test.YtpljdjmpamjkhaaGreatDoorZbr
set_option linter.unusedVariables false
set_option linter.unusedSimpArgs false
set_option maxRecDepth 100000
set_option maxHeartbeats 8000000
namespace Go.Proofs.YtpljdjmpamjkhaaGreatDoor
open Go.RowKit Go.Lib
theorem withSome1 {w:World} {b off op f:Nat} {c:Cl} {kv:Value} (hop:op=1) (hn:NodeAt w b off op f c kv) (hok:Okc c) (u:Bool) (st:Stt) (hst:Oks st) :
  Calls Tryz.prog 194 #[.agg #[.bool false,.bool u,.bool false],.pointer (some ⟨b,off,none⟩),.agg #[.int .i64 st.rows,.int .i64 st.nulls,.bool st.some,.bool st.high,.int .u8 (st.lo.1:Int),.int .i64 st.lo.2.1,.string (bytesT st.lo.2.2),.int .u8 (st.hi.1:Int),.int .i64 st.hi.2.1,.string (bytesT st.hi.2.2)]] w fun e w'=>e=.returned (b3V (withM u op c st))/\Below w.heap.size w w':=by
 have HOP:=hidden hop
 clear hop
 have HO:=hidden hok
 have HST:=hidden hst
 have hf1:=Flg.new w (false,u,false)
 have hb1:=below_one w (.cells #[.bool false,.bool u,.bool false] 123)
 have s1:(w.alloc (.cells #[.bool false,.bool u,.bool false] 123)).heap.size=w.heap.size+1:=World.size_alloc _ _
 simp only at hf1
 generalize hA:w.alloc (.cells #[.bool false,.bool u,.bool false] 123)=A at *
 have hf2:=Stb.new A st
 have hb2:=below_one A (.cells #[.int .i64 st.rows,.int .i64 st.nulls,.bool st.some,.bool st.high,.int .u8 (st.lo.1:Int),.int .i64 st.lo.2.1,.string (bytesT st.lo.2.2),.int .u8 (st.hi.1:Int),.int .i64 st.hi.2.1,.string (bytesT st.hi.2.2)] 54)
 have s2:(A.alloc (.cells #[.int .i64 st.rows,.int .i64 st.nulls,.bool st.some,.bool st.high,.int .u8 (st.lo.1:Int),.int .i64 st.lo.2.1,.string (bytesT st.lo.2.2),.int .u8 (st.hi.1:Int),.int .i64 st.hi.2.1,.string (bytesT st.hi.2.2)] 54)).heap.size=A.heap.size+1:=World.size_alloc _ _
 generalize hB:A.alloc (.cells #[.int .i64 st.rows,.int .i64 st.nulls,.bool st.some,.bool st.high,.int .u8 (st.lo.1:Int),.int .i64 st.lo.2.1,.string (bytesT st.lo.2.2),.int .u8 (st.hi.1:Int),.int .i64 st.hi.2.1,.string (bytesT st.hi.2.2)] 54)=B at *
 have hf3:=Flg.new B (false,false,false)
 have hb3:=below_one B (.cells #[.bool false,.bool false,.bool false] 123)
 simp only at hf3
 generalize hC:B.alloc (.cells #[.bool false,.bool false,.bool false] 123)=C at *
 have s12:B.heap.size=w.heap.size+1+1:=by omega
 have hws:WsIn w C b off op f c kv u st:=by
  refine ⟨below_then (below_then hb1 hb2) hb3,(hf1.kept hb2).kept hb3,?_,by rw [← s12];exact hf3,((hn.kept hb1).kept hb2).kept hb3⟩
  rw [← s1]
  have q:=hf2
  unfold Stb at *
  rw [hb3.block _ ((Array.getElem?_eq_some_iff.1 q).1)]
  exact q
 have HW0:=hidden hws
 obtain ⟨hbw,hg1,hg2,hg3,hb0,x0,x1,x2,x3,x4,x5⟩:=hws
 clear hn hok hst hf1 hf2 hf3 hb1 hb2 hb3 hbw hg1 hg2 hg3
 go_enter Tryz.func194,Tryz.ntmps194
 go_wp2_with fail
 clear hA hB hC
 refine (bound_any HO.out _).mono ?_
 rintro e w1 ⟨rfl,hb⟩
 have HW1:=hidden (HW0.out.kept hb)
 clear hb x0 x1 x2 x3 x4 x5 hb0 HW0
 have HQ:Hid (∀ X,WsIn w X b off op f c kv u st->(X.cell? ⟨w.heap.size+1,3,none⟩=some (.bool st.high)/\X.cell? ⟨w.heap.size+1,4,none⟩=some (.int .u8 (st.lo.1:Int))/\X.cell? ⟨w.heap.size+1,5,none⟩=some (.int .i64 st.lo.2.1)/\X.cell? ⟨w.heap.size+1,6,none⟩=some (.string (bytesT st.lo.2.2))/\X.cell? ⟨w.heap.size+1,7,none⟩=some (.int .u8 (st.hi.1:Int))/\X.cell? ⟨w.heap.size+1,8,none⟩=some (.int .i64 st.hi.2.1)/\X.cell? ⟨w.heap.size+1,9,none⟩=some (.string (bytesT st.hi.2.2)))/\X.cell? ⟨b,off,none⟩=some (.int .u8 (op:Int))):=hidden (fun X h=>by
  obtain ⟨_,⟨_,_,_,a4⟩,⟨a5,a6,a7⟩,a8,a9,a10⟩:=h.2.2.1.at
  simp only [Nat.zero_add] at *
  exact ⟨⟨a4,a5,a6,a7,a8,a9,a10⟩,h.2.2.2.2.2.1⟩)
 obtain ⟨⟨z3,z4,z5,z6,z7,z8,z9⟩,zo⟩:=HQ.out _ HW1.out
 clear s1 s2 s12
 go_wp2_with fail
 refine (bound_any HST.out.1 _).mono ?_
 rintro e w2 ⟨rfl,hb⟩
 have HW2:=hidden (HW1.out.kept hb)
 clear hb z3 z4 z5 z6 z7 z8 z9 zo HW1
 obtain ⟨⟨z3,z4,z5,z6,z7,z8,z9⟩,zo⟩:=HQ.out _ HW2.out
 go_wp2_with fail
 refine (compare_cv (fixC_fine HO.out).val (fixC_fine HST.out.1).val _).mono ?_
 rintro e w3 ⟨rfl,hb⟩
 have HW3:=hidden (HW2.out.kept hb)
 clear hb z3 z4 z5 z6 z7 z8 z9 zo HW2
 obtain ⟨⟨z3,z4,z5,z6,z7,z8,z9⟩,zo⟩:=HQ.out _ HW3.out
 obtain ⟨m,hm⟩:∃ m,m=cmpC (fixC c) (fixC st.lo):=⟨_,rfl⟩
 rw [show cv ((fixC c).1:Int) (fixC c).2.1 (bytesT (fixC c).2.2) ((fixC st.lo).1:Int) (fixC st.lo).2.1 (bytesT (fixC st.lo).2.2)=m from hm.symm]
 have HM:=hidden hm
 clear hm
 go_wp2_with fail
 refine (bound_any HST.out.2 _).mono ?_
 rintro e w4 ⟨rfl,hb⟩
 have HW4:=hidden (HW3.out.kept hb)
 clear hb z3 z4 z5 z6 z7 z8 z9 zo HW3
 obtain ⟨⟨z3,z4,z5,z6,z7,z8,z9⟩,zo⟩:=HQ.out _ HW4.out
 go_wp2_with fail
 refine (compare_cv (fixC_fine HO.out).val (fixC_fine HST.out.2).val _).mono ?_
 rintro e w5 ⟨rfl,hb⟩
 have HW5:=hidden (HW4.out.kept hb)
 clear hb z3 z4 z5 z6 z7 z8 z9 zo HW4
 obtain ⟨⟨z3,z4,z5,z6,z7,z8,z9⟩,zo⟩:=HQ.out _ HW5.out
 obtain ⟨M,hM⟩:∃ m,m=cmpC (fixC c) (fixC st.hi):=⟨_,rfl⟩
 rw [show cv ((fixC c).1:Int) (fixC c).2.1 (bytesT (fixC c).2.2) ((fixC st.hi).1:Int) (fixC st.hi).2.1 (bytesT (fixC st.hi).2.2)=M from hM.symm]
 have HMM:=hidden hM
 clear hM z4 z5 z6 z7 z8 z9 HQ
 obtain ⟨⟨p0,p1,p2⟩,⟨t0,t1,t2⟩,hpz⟩:=HW5.out.2.1.facts
 obtain ⟨⟨r0,r1,r2⟩,⟨v0,v1,v2⟩,hrz⟩:=HW5.out.2.2.2.1.facts
 have HBW:=hidden HW5.out.1
 have HU:=hidden (uncut_any (fixC_fine HO.out))
 have H1:=hidden (withM1 u c st)
 have H2:=hidden (withM2 u c st)
 have H3:=hidden (withM3 u c st)
 have H4:=hidden (withM4 u c st)
 have H5:=hidden (withM5 u op c st)
 rw [← HM.out,← HMM.out] at H1 H2 H3
 generalize st.high=hi at *
 generalize uncutM (fixC c)=uc at *
 obtain ⟨R,hR⟩:∃ R,R=withM u op c st:=⟨_,rfl⟩
 have HR:=hidden hR
 clear hR
 by_cases h1:op=1
 ·subst h1
  clear H4 H5 HR H2 H3
  obtain hmc | hmc | hmc:m<0∨m=0∨0<m:=by omega
  ·have G1:Hid (decide (0<=m)=false/\decide (m=0)=false/\decide (0<m)=false):=hidden (by refine ⟨?_,?_,?_⟩<;>simp<;>omega)
   have k1:(m==0)=false:=beq_eq_false_iff_ne.2 (by omega)
   have k2:¬ m>=0:=by omega
   have k3:¬ 0<m:=by omega
   clear hmc
   cases hi
   ·skip
    go_wp2_with fail
    refine bodyPost_ret (v:=.agg #[.bool true,.bool u,.bool false]) (by simp [results,Tryz.results194,go_sem,r0,r1,r2]<;>omega) rfl ⟨?_,set3 ((HBW.out.setCell (p:=⟨w.heap.size,2,none⟩) (Nat.le_refl _) _).setCell (p:=⟨w.heap.size,0,none⟩) (Nat.le_refl _) _) (by omega) _ _ _⟩
    simp only [H1.out,G1.out.1,G1.out.2.1]
    rfl
   ·obtain hMc | hMc | hMc:M<0∨M=0∨0<M:=by omega
    ·have G2:Hid (decide (0<=M)=false/\decide (M=0)=false/\decide (0<M)=false):=hidden (by refine ⟨?_,?_,?_⟩<;>simp<;>omega)
     have l1:(M==0)=false:=beq_eq_false_iff_ne.2 (by omega)
     have l2:¬ M>=0:=by omega
     have l3:¬ 0<M:=by omega
     clear hMc
     go_wp2_with fail
     refine bodyPost_ret (v:=.agg #[.bool true,.bool u,.bool false]) (by simp [results,Tryz.results194,go_sem,r0,r1,r2]<;>omega) rfl ⟨?_,set3 ((HBW.out.setCell (p:=⟨w.heap.size,2,none⟩) (Nat.le_refl _) _).setCell (p:=⟨w.heap.size,0,none⟩) (Nat.le_refl _) _) (by omega) _ _ _⟩
     simp only [H1.out,G1.out.1,G1.out.2.1,G2.out.2.1,G2.out.2.2]
     rfl
    ·have G2:Hid (decide (0<=M)=true/\decide (M=0)=true/\decide (0<M)=false):=hidden (by refine ⟨?_,?_,?_⟩<;>simp<;>omega)
     subst hMc
     go_wp2_with fail
     refine bodyPost_ret (v:=.agg #[.bool true,.bool u,.bool false]) (by simp [results,Tryz.results194,go_sem,r0,r1,r2]<;>omega) rfl ⟨?_,set3 ((HBW.out.setCell (p:=⟨w.heap.size,2,none⟩) (Nat.le_refl _) _).setCell (p:=⟨w.heap.size,0,none⟩) (Nat.le_refl _) _) (by omega) _ _ _⟩
     simp only [H1.out,G1.out.1,G1.out.2.1,G2.out.2.1,G2.out.2.2]
     rfl
    ·have G2:Hid (decide (0<=M)=true/\decide (M=0)=false/\decide (0<M)=true):=hidden (by refine ⟨?_,?_,?_⟩<;>simp<;>omega)
     have l1:(M==0)=false:=beq_eq_false_iff_ne.2 (by omega)
     have l2:M>=0:=by omega
     have l3:0<M:=by omega
     clear hMc
     go_wp2_with fail
     refine bodyPost_ret (v:=.agg #[.bool true,.bool u,.bool false]) (by simp [results,Tryz.results194,go_sem,r0,r1,r2]<;>omega) rfl ⟨?_,set3 ((HBW.out.setCell (p:=⟨w.heap.size,2,none⟩) (Nat.le_refl _) _).setCell (p:=⟨w.heap.size,0,none⟩) (Nat.le_refl _) _) (by omega) _ _ _⟩
     simp only [H1.out,G1.out.1,G1.out.2.1,G2.out.2.1,G2.out.2.2]
     rfl
  ·have G1:Hid (decide (0<=m)=true/\decide (m=0)=true/\decide (0<m)=false):=hidden (by refine ⟨?_,?_,?_⟩<;>simp<;>omega)
   subst hmc
   cases hi
   ·skip
    go_wp2_with fail
    refine bodyPost_ret (v:=.agg #[.bool true,.bool u,.bool true]) (by simp [results,Tryz.results194,go_sem,r0,r1,r2]<;>omega) rfl ⟨?_,set3 ((HBW.out.setCell (p:=⟨w.heap.size,2,none⟩) (Nat.le_refl _) _).setCell (p:=⟨w.heap.size,0,none⟩) (Nat.le_refl _) _) (by omega) _ _ _⟩
    simp only [H1.out,G1.out.1,G1.out.2.1]
    rfl
   ·obtain hMc | hMc | hMc:M<0∨M=0∨0<M:=by omega
    ·have G2:Hid (decide (0<=M)=false/\decide (M=0)=false/\decide (0<M)=false):=hidden (by refine ⟨?_,?_,?_⟩<;>simp<;>omega)
     have l1:(M==0)=false:=beq_eq_false_iff_ne.2 (by omega)
     have l2:¬ M>=0:=by omega
     have l3:¬ 0<M:=by omega
     clear hMc
     go_wp2_with fail
     refine bodyPost_ret (v:=.agg #[.bool true,.bool u,.bool true]) (by simp [results,Tryz.results194,go_sem,r0,r1,r2]<;>omega) rfl ⟨?_,set3 ((HBW.out.setCell (p:=⟨w.heap.size,2,none⟩) (Nat.le_refl _) _).setCell (p:=⟨w.heap.size,0,none⟩) (Nat.le_refl _) _) (by omega) _ _ _⟩
     simp only [H1.out,G1.out.1,G1.out.2.1,G2.out.2.1,G2.out.2.2]
     rfl
    ·have G2:Hid (decide (0<=M)=true/\decide (M=0)=true/\decide (0<M)=false):=hidden (by refine ⟨?_,?_,?_⟩<;>simp<;>omega)
     subst hMc
     go_wp2_with fail
     have hx1:=HW5.out.2.1.set 2 (by omega)
     have hbx:Below w.heap.size w (w5.setCell ⟨w.heap.size,2,none⟩ (.bool true)):=HBW.out.setCell (p:=⟨w.heap.size,2,none⟩) (Nat.le_refl _) (.bool true)
     have hx2:Flg (w5.setCell ⟨w.heap.size,2,none⟩ (.bool true)) (w.heap.size+1+1) (false,false,false):=by
      have q:=HW5.out.2.2.2.1
      unfold Flg at *
      rw [heap_setCell_other w5 ⟨w.heap.size,2,none⟩ (w.heap.size+1+1) _ (show w.heap.size+1+1≠w.heap.size by omega)]
      exact q
     have HX1:=hidden hx1
     have HX2:=hidden hx2
     have HBX:=hidden hbx
     clear hx1 hx2 hbx p0 p1 p2 t0 t1 t2 r0 r1 r2 v0 v1 v2 z3 zo
     refine (HU.out _).mono ?_
     rintro e w6 ⟨rfl,hb6⟩
     obtain ⟨⟨p0,p1,p2⟩,⟨t0,t1,t2⟩,_⟩:=(HX1.out.kept hb6).facts
     obtain ⟨⟨r0,r1,r2⟩,⟨v0,v1,v2⟩,_⟩:=(HX2.out.kept hb6).facts
     have HB6:=hidden (below_then HBX.out hb6)
     clear hb6
     simp only [setB,Nat.reduceEqDiff,if_true,if_false] at p0 p1 p2
     go_wp2_with fail
     refine bodyPost_ret (v:=.agg #[.bool (!uc),.bool u,.bool true]) (by simp [results,Tryz.results194,go_sem,r0,r1,r2]<;>omega) rfl ⟨?_,set3 (HB6.out.setCell (p:=⟨w.heap.size,0,none⟩) (Nat.le_refl _) _) (by omega) _ _ _⟩
     simp only [H1.out,G1.out.1,G1.out.2.1,G2.out.2.1,G2.out.2.2]
     rfl
    ·have G2:Hid (decide (0<=M)=true/\decide (M=0)=false/\decide (0<M)=true):=hidden (by refine ⟨?_,?_,?_⟩<;>simp<;>omega)
     have l1:(M==0)=false:=beq_eq_false_iff_ne.2 (by omega)
     have l2:M>=0:=by omega
     have l3:0<M:=by omega
     clear hMc
     go_wp2_with fail
     refine bodyPost_ret (v:=.agg #[.bool true,.bool u,.bool false]) (by simp [results,Tryz.results194,go_sem,r0,r1,r2]<;>omega) rfl ⟨?_,set3 ((HBW.out.setCell (p:=⟨w.heap.size,2,none⟩) (Nat.le_refl _) _).setCell (p:=⟨w.heap.size,0,none⟩) (Nat.le_refl _) _) (by omega) _ _ _⟩
     simp only [H1.out,G1.out.1,G1.out.2.1,G2.out.2.1,G2.out.2.2]
     rfl
  ·have G1:Hid (decide (0<=m)=true/\decide (m=0)=false/\decide (0<m)=true):=hidden (by refine ⟨?_,?_,?_⟩<;>simp<;>omega)
   have k1:(m==0)=false:=beq_eq_false_iff_ne.2 (by omega)
   have k2:m>=0:=by omega
   have k3:0<m:=by omega
   clear hmc
   cases hi
   ·skip
    go_wp2_with fail
    refine bodyPost_ret (v:=.agg #[.bool true,.bool u,.bool true]) (by simp [results,Tryz.results194,go_sem,r0,r1,r2]<;>omega) rfl ⟨?_,set3 ((HBW.out.setCell (p:=⟨w.heap.size,2,none⟩) (Nat.le_refl _) _).setCell (p:=⟨w.heap.size,0,none⟩) (Nat.le_refl _) _) (by omega) _ _ _⟩
    simp only [H1.out,G1.out.1,G1.out.2.1]
    rfl
   ·obtain hMc | hMc | hMc:M<0∨M=0∨0<M:=by omega
    ·have G2:Hid (decide (0<=M)=false/\decide (M=0)=false/\decide (0<M)=false):=hidden (by refine ⟨?_,?_,?_⟩<;>simp<;>omega)
     have l1:(M==0)=false:=beq_eq_false_iff_ne.2 (by omega)
     have l2:¬ M>=0:=by omega
     have l3:¬ 0<M:=by omega
     clear hMc
     go_wp2_with fail
     refine bodyPost_ret (v:=.agg #[.bool true,.bool u,.bool true]) (by simp [results,Tryz.results194,go_sem,r0,r1,r2]<;>omega) rfl ⟨?_,set3 ((HBW.out.setCell (p:=⟨w.heap.size,2,none⟩) (Nat.le_refl _) _).setCell (p:=⟨w.heap.size,0,none⟩) (Nat.le_refl _) _) (by omega) _ _ _⟩
     simp only [H1.out,G1.out.1,G1.out.2.1,G2.out.2.1,G2.out.2.2]
     rfl
    ·have G2:Hid (decide (0<=M)=true/\decide (M=0)=true/\decide (0<M)=false):=hidden (by refine ⟨?_,?_,?_⟩<;>simp<;>omega)
     subst hMc
     go_wp2_with fail
     refine bodyPost_ret (v:=.agg #[.bool true,.bool u,.bool true]) (by simp [results,Tryz.results194,go_sem,r0,r1,r2]<;>omega) rfl ⟨?_,set3 ((HBW.out.setCell (p:=⟨w.heap.size,2,none⟩) (Nat.le_refl _) _).setCell (p:=⟨w.heap.size,0,none⟩) (Nat.le_refl _) _) (by omega) _ _ _⟩
     simp only [H1.out,G1.out.1,G1.out.2.1,G2.out.2.1,G2.out.2.2]
     rfl
    ·have G2:Hid (decide (0<=M)=true/\decide (M=0)=false/\decide (0<M)=true):=hidden (by refine ⟨?_,?_,?_⟩<;>simp<;>omega)
     have l1:(M==0)=false:=beq_eq_false_iff_ne.2 (by omega)
     have l2:M>=0:=by omega
     have l3:0<M:=by omega
     clear hMc
     go_wp2_with fail
     refine bodyPost_ret (v:=.agg #[.bool true,.bool u,.bool false]) (by simp [results,Tryz.results194,go_sem,r0,r1,r2]<;>omega) rfl ⟨?_,set3 ((HBW.out.setCell (p:=⟨w.heap.size,2,none⟩) (Nat.le_refl _) _).setCell (p:=⟨w.heap.size,0,none⟩) (Nat.le_refl _) _) (by omega) _ _ _⟩
     simp only [H1.out,G1.out.1,G1.out.2.1,G2.out.2.1,G2.out.2.2]
     rfl
 exact absurd HOP.out h1
theorem answersOfField1 {w:World} {q si b off op f:Nat} {c:Cl} {kv fv rv:Value} {l:List Fd} {r:List Stt} (hop:op=1) (hr:RowsOf w q si fv rv l r) (hn:NodeAt w b off op f c kv) (hok:Okc c) (hfr:∀ x∈r,Oks x) :
  Calls Tryz.prog 160 #[.pointer (some ⟨q,0,none⟩),.pointer (some ⟨b,off,none⟩)] w fun e w'=>e=.returned (b3V (mleafM l r op f c))/\Below w.heap.size w w':=by
 have HOP:=hidden hop
 clear hop
 have HO:=hidden hok
 have HFR:=hidden hfr
 have HA0:=hidden (fun h=>mleafM_none (l:=l) (r:=r) (op:=op) (f:=f) (c:=c) h)
 have HA1:=hidden (fun (j:Nat) h hj=>mleafM_past (l:=l) (r:=r) (op:=op) (f:=f) (c:=c) (j:=j) h hj)
 have HA2:=hidden (fun (j:Nat) h hj=>mleafM_at (l:=l) (r:=r) (op:=op) (f:=f) (c:=c) (j:=j) h hj)
 generalize mleafM l r op f c=R at *
 have hf1:=Flg.new w (false,false,false)
 have hb1:=below_one w (.cells #[.bool false,.bool false,.bool false] 123)
 simp only at hf1
 have HB1:=hidden hb1
 have HR:=hidden (hr.kept hb1)
 have HN:=hidden (hn.kept hb1)
 have HF1:=hidden hf1
 have hsz:(w.alloc (.cells #[.bool false,.bool false,.bool false] 123)).heap.size=w.heap.size+1:=World.size_alloc _ _
 have HSZ:=hidden hsz
 generalize hA:w.alloc (.cells #[.bool false,.bool false,.bool false] 123)=A at *
 clear hr hn hf1 hb1 hok hfr hsz
 have HPL:=hidden (fun (U:World) (hU:Below A.heap.size A U)=>place_any (HR.out.2.2.2.2.1.kept hU) si f)
 obtain ⟨hq0,y0,y1,y2,hsf,hsv⟩:=HR.out
 obtain ⟨hb0,x0,x1,x2,x3,x4,x5⟩:=HN.out
 obtain ⟨fa,fcap,rfl,hfc,hfm⟩:=hsf.form
 obtain ⟨ra,rcap,rfl,hrc,hrm⟩:=hsv.form
 clear hsf hsv
 have hr0:∀ s:SubW (fun x=>Below A.heap.size A x),s.w.cell? ⟨q,0,none⟩=some (.int .u32 (si:Int)):=fun s=>(s.ok.cell (p:=⟨q,0,none⟩) hq0).trans y0
 have hr1:∀ s:SubW (fun x=>Below A.heap.size A x),s.w.cell? ⟨q,1,none⟩=some (.slice fa l.length fcap):=fun s=>(s.ok.cell (p:=⟨q,1,none⟩) hq0).trans y1
 have hr2:∀ s:SubW (fun x=>Below A.heap.size A x),s.w.cell? ⟨b,off+1,none⟩=some (.int .u32 (f:Int)):=fun s=>(s.ok.cell (p:=⟨b,off+1,none⟩) hb0).trans x1
 haveI:Nonempty (SubW (fun x=>Below A.heap.size A x)):=⟨SubW.mk A (Below.refl _ _)⟩
 go_enter Tryz.func160,Tryz.ntmps160
 go_wp2_with fail
 refine wp_region_still (S:=fun x=>Below A.heap.size A x) (by kernel_rfl) (by kernel_rfl) (by first | exact (Below.refl _ _).drew | (rw [hA];exact (Below.refl _ _).drew)) ?_
 repeat (go_big_quiet_step ((go_at_call 193;exact (HPL.out _ (SubW.ok _)).mono (fun e w' h=>⟨h.1,SubW.mk w' (below_then (SubW.ok _) h.2),rfl⟩))))
 refine wpQuiet_nil ?_
 rintro _ ⟨s2,rfl⟩
 obtain ⟨w2,hw2⟩:∃ x,x=s2.w:=⟨_,rfl⟩
 have hb2:=s2.ok
 rw [← hw2] at hb2 ⊢
 have HB2:=hidden (below_then HB1.out hb2)
 have HR2:=hidden (HR.out.kept hb2)
 have HN2:=hidden (HN.out.kept hb2)
 have HF2:=hidden (HF1.out.kept hb2)
 have HZ2:Hid (w.heap.size<w2.heap.size):=hidden (by have:=hb2.size;have:=HSZ.out;omega)
 clear hw2 hb2 hr0 hr1 hr2 x0 x1 x2 x3 x4 x5 y0 y1 y2 HR HN HF1 hA hq0 hb0
 obtain ⟨⟨p0,p1,p2⟩,⟨t0,t1,t2⟩,_⟩:=HF2.out.facts
 cases hp:place l f with
 | none =>
  have HA:=hidden (HA0.out hp)
  simp only [Option.isSome_none,Option.getD_none]
  clear hp HA0 HA1 HA2
  go_wp2_with fail
  refine bodyPost_ret (v:=.agg #[.bool true,.bool true,.bool true]) (by simp [results,Tryz.results160,go_sem,p0,p1,p2]) rfl ⟨?_,set3 HB2.out (Nat.le_refl _) _ _ _⟩
  rw [HA.out]
  rfl
 | some j =>
  simp only [Option.isSome_some,Option.getD_some]
  by_cases hj:j<r.length
  ·have HA:=hidden (HA2.out j hp hj)
   obtain ⟨hq0,y0,y1,y2,_,hsv⟩:=HR2.out
   have hj':¬ (j:Int)>=(r.length:Int):=by omega
   have hj2:(j:Int)<(r.length:Int):=by omega
   obtain ⟨rb,roff,rfl,hst⟩:=hsv.at hj
   have HOS:=hidden (HFR.out r[j] (List.getElem_mem hj))
   generalize r[j]=st at *
   have HSTT:=hidden hst
   obtain ⟨srows,snulls,ssome,shigh,slo,shi⟩:=st
   have hst':=hst
   obtain ⟨hrb,⟨d0,d1,d2,d3⟩,⟨d4,d5,d6⟩,d7,d8,d9⟩:=hst'
   simp only at d0 d1 d2 d3 d4 d5 d6 d7 d8 d9
   have HB3:=hidden (below_then HB2.out (below_one w2 (.cells #[.int .i64 srows,.int .i64 snulls,.bool ssome,.bool shigh,.int .u8 (slo.1:Int),.int .i64 slo.2.1,.string (bytesT slo.2.2),.int .u8 (shi.1:Int),.int .i64 shi.2.1,.string (bytesT shi.2.2)] 54)))
   have hb3:=below_one w2 (.cells #[.int .i64 srows,.int .i64 snulls,.bool ssome,.bool shigh,.int .u8 (slo.1:Int),.int .i64 slo.2.1,.string (bytesT slo.2.2),.int .u8 (shi.1:Int),.int .i64 shi.2.1,.string (bytesT shi.2.2)] 54)
   have hS3:=Stb.new w2 (⟨srows,snulls,ssome,shigh,slo,shi⟩:Stt)
   simp only at hS3
   have HN3:=hidden (HN2.out.kept hb3)
   have HF3:=hidden (HF2.out.kept hb3)
   have s3:(w2.alloc (.cells #[.int .i64 srows,.int .i64 snulls,.bool ssome,.bool shigh,.int .u8 (slo.1:Int),.int .i64 slo.2.1,.string (bytesT slo.2.2),.int .u8 (shi.1:Int),.int .i64 shi.2.1,.string (bytesT shi.2.2)] 54)).heap.size=w2.heap.size+1:=World.size_alloc _ _
   have HS3:=hidden hS3
   generalize hE:w2.alloc (.cells #[.int .i64 srows,.int .i64 snulls,.bool ssome,.bool shigh,.int .u8 (slo.1:Int),.int .i64 slo.2.1,.string (bytesT slo.2.2),.int .u8 (shi.1:Int),.int .i64 shi.2.1,.string (bytesT shi.2.2)] 54)=E at *
   have HEZ:Hid (E.heap.size=w2.heap.size+1):=hidden s3
   clear hsv hst hp HA0 HA1 HA2 HFR hb3 s3 hS3
   obtain ⟨hb0,x0,x1,x2,x3,x4,x5⟩:=HN3.out
   obtain ⟨_,⟨e0,e1,e2,e3⟩,⟨e4,e5,e6⟩,e7,e8,e9⟩:=HS3.out.at
   simp only [Nat.zero_add] at e0 e1 e2 e3 e4 e5 e6 e7 e8 e9
   obtain ⟨⟨p0',p1',p2'⟩,⟨t0',t1',t2'⟩,_⟩:=HF3.out.facts
   by_cases h5:op=5
   ·exact absurd h5 (by rw [HOP.out];omega)
   ·have n5:((op:Int)==5)=false:=beq_eq_false_iff_ne.2 (by omega)
    have HAX:Hid (R=if ssome=true then withM (decide (0<snulls)) op c (⟨srows,snulls,ssome,shigh,slo,shi⟩:Stt) else (false,decide (0<snulls),false)):=hidden (by rw [HA.out];unfold mleafX;rw [if_neg h5])
    clear HA h5
    have hfF:=Flg.new E (false,decide (0<snulls),false)
    have hbF:=below_one E (.cells #[.bool false,.bool (decide (0<snulls)),.bool false] 123)
    simp only at hfF
    have sF:(E.alloc (.cells #[.bool false,.bool (decide (0<snulls)),.bool false] 123)).heap.size=E.heap.size+1:=World.size_alloc _ _
    have HFF:=hidden hfF
    have HNF:=hidden (HN3.out.kept hbF)
    have HS4:Hid (∀ X,Below (E.alloc (.cells #[.bool false,.bool (decide (0<snulls)),.bool false] 123)).heap.size (E.alloc (.cells #[.bool false,.bool (decide (0<snulls)),.bool false] 123)) X->StAt X w2.heap.size 0 (⟨srows,snulls,ssome,shigh,slo,shi⟩:Stt)/\Flg X w.heap.size (false,false,false)/\Flg X E.heap.size (false,decide (0<snulls),false)):=hidden (fun X h=>⟨(HS3.out.at.kept hbF).kept h,(HF3.out.kept hbF).kept h,HFF.out.kept h⟩)
    have HB4:=hidden (below_then HB3.out hbF)
    obtain ⟨⟨_,⟨g0,g1,g2,g3⟩,⟨g4,g5,g6⟩,g7,g8,g9⟩,hfg,hfh⟩:=HS4.out _ (Below.refl _ _)
    simp only [Nat.zero_add] at g0 g1 g2 g3 g4 g5 g6 g7 g8 g9
    obtain ⟨⟨u0,u1,u2⟩,⟨s0,s1,s2'⟩,_⟩:=hfg.facts
    obtain ⟨⟨v0,v1,v2⟩,⟨q0',q1',q2'⟩,hvz⟩:=hfh.facts
    clear hfF hbF sF hfg hfh
    have HEW:Hid (w.heap.size<E.heap.size):=hidden (by have:=HZ2.out;have:=HEZ.out;omega)
    have hne:¬ E.heap.size=w.heap.size:=by have:=HEW.out;omega
    have hne2:¬ w.heap.size=E.heap.size:=by have:=HEW.out;omega
    cases ssome
    ·have HAX':Hid (R=(false,decide (0<snulls),false)):=hidden (by rw [HAX.out];rfl)
     go_wp2_with fail
     have hal:∀ (X:World) (o:Obj) (i:Nat),w.heap.size<X.heap.size->(X.alloc o).cell? ⟨w.heap.size,i,none⟩=X.cell? ⟨w.heap.size,i,none⟩:=fun X o i h=>(below_one X o).cell h
     have hew:=HEW.out
     have hset:=set3 HB3.out (Nat.le_refl _) (.bool false) (.bool (decide (0<snulls))) (.bool false)
     refine bodyPost_ret (v:=.agg #[.bool false,.bool (decide (0<snulls)),.bool false]) (by simp [results,Tryz.results160,go_sem,hal,hew,p0',p1',p2']) rfl ⟨?_,hset.alloc hset.size _⟩
     rw [HAX'.out]
     rfl
    ·have HAX':Hid (R=withM (decide (0<snulls)) op c ⟨srows,snulls,true,shigh,slo,shi⟩):=hidden (by rw [HAX.out];rfl)
     have HC:=hidden (fun (U:World) (hU:Below (E.alloc (.cells #[.bool false,.bool (decide (0<snulls)),.bool false] 123)).heap.size (E.alloc (.cells #[.bool false,.bool (decide (0<snulls)),.bool false] 123)) U)=>withSome1 HOP.out (HNF.out.kept hU) HO.out (decide (0<snulls)) ⟨srows,snulls,true,shigh,slo,shi⟩ HOS.out)
     simp only at HC
     generalize withM (decide (0<snulls)) op c ⟨srows,snulls,true,shigh,slo,shi⟩=WM at *
     clear HAX
     go_wp2_with fail
     refine (HC.out _ (Below.refl _ _)).mono ?_
     rintro e w5 ⟨rfl,hb5⟩
     obtain ⟨_,hfg,hfh⟩:=HS4.out _ hb5
     have HB5:=hidden (below_then HB4.out hb5)
     clear hb5 u0 u1 u2 s0 s1 s2' v0 v1 v2 q0' q1' q2' g0 g1 g2 g3 g4 g5 g6 g7 g8 g9 hE e0 e1 e2 e3 e4 e5 e6 e7 e8 e9 p0' p1' p2' t0' t1' t2' x0 x1 x2 x3 x4 x5 hvz
     obtain ⟨⟨u0,u1,u2⟩,⟨s0,s1,s2'⟩,_⟩:=hfg.facts
     obtain ⟨⟨v0,v1,v2⟩,⟨q0',q1',q2'⟩,hvz⟩:=hfh.facts
     clear hfg hfh
     unfold b3V
     go_wp2_with fail
     refine bodyPost_ret (v:=.agg #[.bool WM.1,.bool WM.2.1,.bool WM.2.2]) (by simp [results,Tryz.results160,go_sem,u0,u1,u2,hne,hne2]) rfl ⟨?_,set3 (set3 HB5.out (by have:=HEW.out;omega) _ _ _) (Nat.le_refl _) _ _ _⟩
     rw [HAX'.out]
     rfl
  ·have HA:=hidden (HA1.out j hp hj)
   obtain ⟨_,y0,y1,y2,_,hsv⟩:=HR2.out
   have hj':(j:Int)>=(r.length:Int):=by omega
   clear hp HA0 HA1 HA2 hsv
   go_wp2_with fail
   refine bodyPost_ret (v:=.agg #[.bool true,.bool true,.bool true]) (by simp [results,Tryz.results160,go_sem,p0,p1,p2]) rfl ⟨?_,set3 HB2.out (Nat.le_refl _) _ _ _⟩
   rw [HA.out]
   rfl
theorem answers1 {q si:Nat} {fv rv:Value} {l:List Fd} {r:List Stt} (hfr:∀ x∈r,Oks x) {op f:Nat} {c:Cl} {ks:List PT} (hop:op=1) (hok:Okp (.node op f c ks)) (w:World) (b off:Nat) (hr:RowsOf w q si fv rv l r) (hlies:Lies w b off (.node op f c ks)) :
  Calls Tryz.prog 112 #[.pointer (some ⟨q,0,none⟩),.pointer (some ⟨b,off,none⟩)] w fun e w'=>e=.returned (b3V (mayM l r (.node op f c ks)))/\Below w.heap.size w w':=by
 have HOP:=hidden hop
 clear hop
 have HFR:=hidden hfr
 simp only [Okp] at hok
 obtain ⟨_,_,hoc,hoks⟩:=hok
 have HOC:=hidden hoc
 have HOK:=hidden hoks.get
 have HR0:=hidden hr
 obtain ⟨a,cap,hnode0,hkids0⟩:=hlies.open
 have HN0:=hidden hnode0
 have HK0:=hidden hkids0
 have hf1:=Flg.new w (false,false,false)
 have hb1:=below_one w (.cells #[.bool false,.bool false,.bool false] 123)
 simp only at hf1
 have sA:(w.alloc (.cells #[.bool false,.bool false,.bool false] 123)).heap.size=w.heap.size+1:=World.size_alloc _ _
 have HSA:=hidden sA
 generalize hA:w.alloc (.cells #[.bool false,.bool false,.bool false] 123)=A at *
 have HF1:=hidden hf1
 have HB1:=hidden hb1
 have hnode:=hnode0.kept hb1
 obtain ⟨_,_,hke,hkc,hkm⟩:=hkids0.form
 simp only [Value.slice.injEq] at hke
 obtain ⟨rfl,_,rfl⟩:=hke
 have hkm':ks.length<=9223372036854775807:=by unfold maxLen at hkm;omega
 obtain ⟨hb0,x0,x1,x2,x3,x4,x5⟩:=hnode
 clear hr hlies hnode0 hkids0 hoc hoks hfr hkm hf1 hb1 sA
 have HD:Hid (mayM l r (.node op f c ks)=if op=6 then mayAnd l r ks (false,false,true) else if op=7 then mayOr l r ks (true,false,false) else if op=8 then mayNot l r ks else mleafM l r op f c):=hidden (by simp only [mayM])
 generalize mayM l r (.node op f c ks)=R at *
 have h6:¬ op=6:=by rw [HOP.out];omega
 have h7:¬ op=7:=by rw [HOP.out];omega
 have h8:¬ op=8:=by rw [HOP.out];omega
 have n6:((op:Int)==6)=false:=beq_eq_false_iff_ne.2 (by omega)
 have n7:((op:Int)==7)=false:=beq_eq_false_iff_ne.2 (by omega)
 rw [if_neg h6,if_neg h7] at HD
 obtain ⟨⟨p0,p1,p2⟩,⟨t0,t1,t2⟩,hpz⟩:=HF1.out.facts
 have n8:((op:Int)==8)=false:=beq_eq_false_iff_ne.2 (by omega)
 rw [if_neg h8] at HD
 clear h6 h7 h8
 have HC:=hidden (answersOfField1 HOP.out (HR0.out.kept HB1.out) (HN0.out.kept HB1.out) HOC.out HFR.out)
 generalize mleafM l r op f c=ev at *
 obtain ⟨ev0,ev1,ev2⟩:=ev
 go_enter Tryz.func112,Tryz.ntmps112
 go_wp2_with fail
 refine HC.out.mono ?_
 rintro e w2 ⟨rfl,hb2⟩
 have HB2:=hidden (below_then HB1.out hb2)
 have HF2:=hidden (HF1.out.kept hb2)
 obtain ⟨⟨r0,r1,r2⟩,⟨s0,s1,s2⟩,_⟩:=HF2.out.facts
 clear hb2 p0 p1 p2 t0 t1 t2 hA
 unfold b3V
 go_wp2_with fail
 refine bodyPost_ret (v:=.agg #[.bool ev0,.bool ev1,.bool ev2]) (by simp [results,Tryz.results112,go_sem,r0,r1,r2]) rfl ⟨?_,set3 HB2.out (Nat.le_refl _) _ _ _⟩
 rw [HD.out]
 rfl
theorem may1 {w:World} {op f si:Nat} {c:Cl} {ks:List PT} {kv fv rv:Value} {l:List Fd} {r:List Stt} (hop:op=1) (hk:Kids w kv ks) (hok:Okp (.node op f c ks)) (hs:Sf w fv l) (hv:Ss w rv r) (hfr:∀ x∈r,Oks x) :
  Calls Tryz.prog 66 #[.agg #[.int .u8 (op:Int),.int .u32 (f:Int),.int .u8 (c.1:Int),.int .i64 c.2.1,.string (bytesT c.2.2),kv],.agg #[.int .u32 (si:Int),fv],rv] w fun e w'=>e=.returned (b3V (mayM l r (.node op f c ks)))/\Below w.heap.size w w':=by
 have HC:=hidden (fun (U:World) (b off q:Nat) hr hl=>answers1 (q:=q) (si:=si) (fv:=fv) (rv:=rv) (l:=l) hfr hop hok U b off hr hl)
 have HOP:=hidden hop
 clear hop
 have HK:=hidden hk
 have HS:=hidden hs
 have HV:=hidden hv
 generalize mayM l r (.node op f c ks)=R at *
 obtain ⟨R0,R1,R2⟩:=R
 obtain ⟨ka,kcap,rfl,_,_⟩:=hk.form
 obtain ⟨fa,fcap,rfl,_,_⟩:=hs.form
 obtain ⟨ra,rcap,rfl,_,_⟩:=hv.form
 clear hk hs hv hok hfr
 have hn:=node_new w op f c (.slice ka ks.length kcap)
 have hb1:=below_one w (.cells #[.int .u8 (op:Int),.int .u32 (f:Int),.int .u8 (c.1:Int),.int .i64 c.2.1,.string (bytesT c.2.2),.slice ka ks.length kcap] 63)
 generalize hA:w.alloc (.cells #[.int .u8 (op:Int),.int .u32 (f:Int),.int .u8 (c.1:Int),.int .i64 c.2.1,.string (bytesT c.2.2),.slice ka ks.length kcap] 63)=A at *
 have hb2:=below_one A (.cells #[.int .u32 (si:Int),.slice fa l.length fcap] 25)
 obtain ⟨e0,e1⟩:=cell_new2 A (.int .u32 (si:Int)) (.slice fa l.length fcap) 25
 have hzA:A.heap.size<(A.alloc (.cells #[.int .u32 (si:Int),.slice fa l.length fcap] 25)).heap.size:=by rw [World.size_alloc];omega
 generalize hB:A.alloc (.cells #[.int .u32 (si:Int),.slice fa l.length fcap] 25)=B at *
 have hb3:=below_one B (.cells #[.bool false,.bool false,.bool false] 123)
 have hf3:=Flg.new B (false,false,false)
 simp only at hf3
 have g0:=(hb3.cell (p:=⟨A.heap.size,0,none⟩) hzA).trans e0
 have g1:=(hb3.cell (p:=⟨A.heap.size,1,none⟩) hzA).trans e1
 generalize hC:B.alloc (.cells #[.bool false,.bool false,.bool false] 123)=C at *
 have hb4:=below_one C (.cells #[.int .u32 (si:Int),.slice fa l.length fcap,.slice ra r.length rcap] 175)
 obtain ⟨k0,k1,k2⟩:=cell_new3 C (.int .u32 (si:Int)) (.slice fa l.length fcap) (.slice ra r.length rcap) 175
 have hz:C.heap.size<(C.alloc (.cells #[.int .u32 (si:Int),.slice fa l.length fcap,.slice ra r.length rcap] 175)).heap.size:=by rw [World.size_alloc];omega
 generalize hD:C.alloc (.cells #[.int .u32 (si:Int),.slice fa l.length fcap,.slice ra r.length rcap] 175)=D at *
 have hbw:Below w.heap.size w D:=below_then (below_then (below_then hb1 hb2) hb3) hb4
 have HRO:Hid (RowsOf D C.heap.size si (.slice fa l.length fcap) (.slice ra r.length rcap) l r):=hidden ⟨hz,k0,k1,k2,HS.out.kept hbw,HV.out.kept hbw⟩
 have HLI:Hid (Lies D w.heap.size 0 (.node op f c ks)):=hidden (Lies.shut (((hn.kept hb2).kept hb3).kept hb4) (HK.out.kept hbw))
 have HBW:=hidden hbw
 have HFB:=hidden (hf3.kept hb4)
 have HBZ:Hid (w.heap.size<=B.heap.size):=hidden (by have:=hb1.size;have:=hb2.size;omega)
 clear hn hb1 hb2 hb3 hb4 hbw k0 k1 k2 hz hf3
 go_enter Tryz.func66,Tryz.ntmps66
 go_wp2_with fail
 refine (HC.out _ _ _ _ HRO.out HLI.out).mono ?_
 rintro e w2 ⟨rfl,hb2⟩
 have HB2:=hidden (below_then HBW.out hb2)
 obtain ⟨⟨r0,r1,r2⟩,⟨s0,s1,s2⟩,_⟩:=(HFB.out.kept hb2).facts
 clear hb2 hA hB hC hD e0 e1 g0 g1
 unfold b3V
 go_wp2_with fail
 refine bodyPost_ret (v:=.agg #[.bool R0,.bool R1,.bool R2]) (by simp [results,Tryz.results66,go_sem,r0,r1,r2]) rfl ⟨?_,set3 HB2.out HBZ.out _ _ _⟩
 rfl
theorem held1 {w:World} {b off op f:Nat} {c x:Cl} {kv:Value} (hop:op=1) (hn:NodeAt w b off op f c kv) (hok:Okc c) (hl:c.2.2.length<=300) (hf:Fine x):Calls Tryz.prog 222 #[.pointer (some ⟨b,off,none⟩),valC x] w fun e w'=>e=.returned (.int .u8 (heldM op c x:Int))/\Below w.heap.size w w':=by
 have HOP:=hidden hop
 clear hop
 have HF:=hidden hf
 have HO:=hidden hok
 have HL:=hidden hl
 have HN:=hidden hn
 obtain ⟨hb0,x0,x1,x2,x3,x4,x5⟩:=hn
 clear hf hok hl
 go_enter Tryz.func222,Tryz.ntmps222
 go_wp2_with fail
 refine (bound_any HO.out _).mono ?_
 rintro e w1 ⟨rfl,hb1⟩
 have HB1:=hidden hb1
 clear x0 x1 x2 x3 x4 x5 hb0
 have HN1:=hidden (HN.out.kept hb1)
 clear hb1 HN
 go_wp2_with fail
 refine (compare_cv HF.out.val (fixC_fine HO.out).val _).mono ?_
 rintro e w2 ⟨rfl,hb2⟩
 have HB2:=hidden (below_then HB1.out hb2)
 obtain ⟨hb0,x0,x1,x2,x3,x4,x5⟩:=HN1.out.kept hb2
 clear hb2 HB1 HN1
 obtain ⟨m,hm⟩:∃ m,m=cmpC x (fixC c):=⟨_,rfl⟩
 have hm2:cv (x.1:Int) x.2.1 (bytesT x.2.2) ((fixC c).1:Int) (fixC c).2.1 (bytesT (fixC c).2.2)=m:=hm.symm
 rw [hm2]
 have HM:=hidden hm
 clear hm hm2
 by_cases h1:op=1
 ·subst h1
  go_wp2_with fail
  refine (isN_any _ _).mono ?_
  rintro e w3 ⟨rfl,rfl⟩
  go_wp2_with fail
  go_ret
  refine ⟨?_,HB2.out⟩
  rw [HM.out]
  rfl
 exact absurd HOP.out h1
theorem answerOfField1 {w:World} {q si b off op f:Nat} {c:Cl} {kv fv rv:Value} {l:List Fd} {r:List Cl} (hop:op=1) (hr:RowOf w q si fv rv l r) (hn:NodeAt w b off op f c kv) (hok:Okc c) (hl:c.2.2.length<=300) (hfr:∀ x∈r,Fine x) :
  Calls Tryz.prog 196 #[.pointer (some ⟨q,0,none⟩),.pointer (some ⟨b,off,none⟩)] w fun e w'=>e=.returned (.int .u8 (leafM l r op f c:Int))/\Below w.heap.size w w':=by
 have HOP:=hidden hop
 clear hop
 have HR:=hidden hr
 have HN:=hidden hn
 have HO:=hidden hok
 have HL:=hidden hl
 have HFR:=hidden hfr
 have HPL:=hidden (fun (U:World) (hU:Below w.heap.size w U)=>place_any (hr.2.2.2.2.1.kept hU) si f)
 have HA0:=hidden (fun h=>leafM_none (l:=l) (r:=r) (op:=op) (f:=f) (c:=c) h)
 have HA1:=hidden (fun (j:Nat) h hj=>leafM_past (l:=l) (r:=r) (op:=op) (f:=f) (c:=c) (j:=j) h hj)
 have HA2:=hidden (fun (j:Nat) h hj=>leafM_at (l:=l) (r:=r) (op:=op) (f:=f) (c:=c) (j:=j) h hj)
 generalize leafM l r op f c=R at *
 obtain ⟨hq0,y0,y1,y2,hsf,hsv⟩:=hr
 obtain ⟨hb0,x0,x1,x2,x3,x4,x5⟩:=hn
 obtain ⟨fa,fcap,rfl,hfc,hfm⟩:=hsf.form
 obtain ⟨ra,rcap,rfl,hrc,hrm⟩:=hsv.form1
 rw [vvals_length] at *
 clear hsf hsv hok hl hfr
 have hr0:∀ s:SubW (fun x=>Below w.heap.size w x),s.w.cell? ⟨q,0,none⟩=some (.int .u32 (si:Int)):=fun s=>(s.ok.cell (p:=⟨q,0,none⟩) hq0).trans y0
 have hr1:∀ s:SubW (fun x=>Below w.heap.size w x),s.w.cell? ⟨q,1,none⟩=some (.slice fa l.length fcap):=fun s=>(s.ok.cell (p:=⟨q,1,none⟩) hq0).trans y1
 have hr2:∀ s:SubW (fun x=>Below w.heap.size w x),s.w.cell? ⟨b,off+1,none⟩=some (.int .u32 (f:Int)):=fun s=>(s.ok.cell (p:=⟨b,off+1,none⟩) hb0).trans x1
 haveI:Nonempty (SubW (fun x=>Below w.heap.size w x)):=⟨SubW.mk w (Below.refl _ _)⟩
 go_enter Tryz.func196,Tryz.ntmps196
 go_wp2_with fail
 refine wp_region_still (S:=fun x=>Below w.heap.size w x) (by kernel_rfl) (by kernel_rfl) (Below.refl _ _).drew ?_
 repeat (go_big_quiet_step ((go_at_call 193;exact (HPL.out _ (SubW.ok _)).mono (fun e w' h=>⟨h.1,SubW.mk w' (below_then (SubW.ok _) h.2),rfl⟩))))
 refine wpQuiet_nil ?_
 rintro _ ⟨s2,rfl⟩
 obtain ⟨w2,hw2⟩:∃ x,x=s2.w:=⟨_,rfl⟩
 have hb2:=s2.ok
 rw [← hw2] at hb2 ⊢
 have HB2:=hidden hb2
 have HR2:=hidden (HR.out.kept hb2)
 have HN2:=hidden (HN.out.kept hb2)
 have hz2:=hb2.size
 clear hw2 hb2 hr0 hr1 hr2 x0 x1 x2 x3 x4 x5 y0 y1 y2 HR HN
 cases hp:place l f with
 | none =>
  have HA:=hidden (HA0.out hp)
  simp only [Option.isSome_none,Option.getD_none]
  clear hp HA0 HA1 HA2
  go_wp2_with fail
  go_ret
  rw [HA.out]
  exact ⟨rfl,HB2.out⟩
 | some j =>
  simp only [Option.isSome_some,Option.getD_some]
  by_cases hj:j<r.length
  ·have HA:=hidden (HA2.out j hp hj)
   obtain ⟨_,y0,y1,y2,_,hsv⟩:=HR2.out
   have hj':¬ (j:Int)>=(r.length:Int):=by omega
   have hj2:(j:Int)<(r.length:Int):=by omega
   obtain ⟨rb,roff,rfl,hrb,z⟩:=hsv.at1 (vvals_get hj)
   have HF:=hidden (HFR.out r[j] (List.getElem_mem hj))
   generalize r[j]=x at *
   have HSV:=hidden hsv
   clear hsv hp HA0 HA1 HA2 HFR
   go_wp2_with fail
   refine (KindOfC HF.out _).mono ?_
   rintro e w3 ⟨rfl,rfl⟩
   have HNK:=HN2.out
   obtain ⟨hb0',x0,x1,x2,x3,x4,x5⟩:=HNK
   by_cases h5:op=5
   ·subst h5
    go_wp2_with fail
    refine (isN_any _ _).mono ?_
    rintro e w4 ⟨rfl,rfl⟩
    go_wp2_with fail
    go_ret
    refine ⟨?_,HB2.out⟩
    rw [HA.out]
    unfold leafX
    rw [if_pos rfl]
    have e1:((x.1:Int)==0)=decide (x.1=0):=by rw [Bool.eq_iff_iff];simp
    rw [e1]
    rfl
   ·have n5:((op:Int)==5)=false:=beq_eq_false_iff_ne.2 (by omega)
    by_cases hx:x.1=0
    ·have hx':((x.1:Int)==0)=true:=by rw [hx];rfl
     have HA':Hid (R=1):=hidden (by rw [HA.out];unfold leafX;rw [if_neg h5,if_pos hx])
     clear h5 hx
     go_wp2_with fail
     go_ret
     rw [HA'.out]
     exact ⟨rfl,HB2.out⟩
    ·have hx':((x.1:Int)==0)=false:=beq_eq_false_iff_ne.2 (by omega)
     have HA':Hid (R=heldM op c x):=hidden (by rw [HA.out];unfold leafX;rw [if_neg h5,if_neg hx])
     clear h5 hx
     go_wp2_with fail
     refine (held1 HOP.out HN2.out HO.out HL.out HF.out).mono ?_
     rintro e w4 ⟨rfl,hb4⟩
     have HB4:=hidden hb4
     clear hb4
     go_wp2_with fail
     go_ret
     rw [HA'.out]
     exact ⟨rfl,below_then HB2.out HB4.out⟩
  ·have HA:=hidden (HA1.out j hp hj)
   obtain ⟨_,y0,y1,y2,_,hsv⟩:=HR2.out
   have hj':(j:Int)>=(r.length:Int):=by omega
   clear hp HA0 HA1 HA2 hsv
   go_wp2_with fail
   go_ret
   rw [HA.out]
   exact ⟨rfl,HB2.out⟩
theorem answer1 {q si:Nat} {fv rv:Value} {l:List Fd} {r:List Cl} (hfr:∀ x∈r,Fine x) {op f:Nat} {c:Cl} {ks:List PT} (hop:op=1) (hok:Okp (.node op f c ks)) (hlen:Len (.node op f c ks)) (w:World) (b off:Nat) (hr:RowOf w q si fv rv l r) (hlies:Lies w b off (.node op f c ks)) :
  Calls Tryz.prog 161 #[.pointer (some ⟨q,0,none⟩),.pointer (some ⟨b,off,none⟩)] w fun e w'=>e=.returned (.int .u8 (evalM l r (.node op f c ks):Int))/\Below w.heap.size w w':=by
 have HOP:=hidden hop
 clear hop
 have HFR:=hidden hfr
 have HR:=hidden hr
 simp only [Okp] at hok
 simp only [Len] at hlen
 obtain ⟨_,_,hoc,hoks⟩:=hok
 obtain ⟨hl,hlks⟩:=hlen
 have HOC:=hidden hoc
 have HOK:=hidden hoks.get
 have HL:=hidden hl
 have HLK:=hidden hlks.get
 obtain ⟨a,cap,hnode,hkids⟩:=hlies.open
 have HN:=hidden hnode
 have HK:=hidden hkids
 have hkf:=hkids.form
 obtain ⟨_,_,hke,hkc,hkm⟩:=hkf
 simp only [Value.slice.injEq] at hke
 obtain ⟨rfl,_,rfl⟩:=hke
 have hkm':ks.length<=9223372036854775807:=by unfold maxLen at hkm;omega
 obtain ⟨hb0,x0,x1,x2,x3,x4,x5⟩:=hnode
 clear hr hlies hkids hoc hoks hl hlks hfr hkm
 have HD:Hid (evalM l r (.node op f c ks)=if op=6 then evalAnd l r ks 2 else if op=7 then evalOr l r ks 0 else if op=8 then evalNot l r ks else leafM l r op f c):=hidden (by simp only [evalM])
 generalize evalM l r (.node op f c ks)=R at *
 have h6:¬ op=6:=by rw [HOP.out];omega
 have h7:¬ op=7:=by rw [HOP.out];omega
 have h8:¬ op=8:=by rw [HOP.out];omega
 have n6:((op:Int)==6)=false:=beq_eq_false_iff_ne.2 (by omega)
 have n7:((op:Int)==7)=false:=beq_eq_false_iff_ne.2 (by omega)
 rw [if_neg h6,if_neg h7] at HD
 have n8:((op:Int)==8)=false:=beq_eq_false_iff_ne.2 (by omega)
 rw [if_neg h8] at HD
 clear h6 h7 h8
 go_enter Tryz.func161,Tryz.ntmps161
 go_wp2_with fail
 refine (answerOfField1 HOP.out HR.out HN.out HOC.out HL.out HFR.out).mono ?_
 rintro e w2 ⟨rfl,hb2⟩
 have HB2:=hidden hb2
 clear hb2
 go_wp2_with fail
 go_ret
 rw [HD.out]
 exact ⟨rfl,HB2.out⟩
theorem eval1 {w:World} {op f si:Nat} {c:Cl} {ks:List PT} {kv fv rv:Value} {l:List Fd} {r:List Cl} (hop:op=1) (hk:Kids w kv ks) (hok:Okp (.node op f c ks)) (hlen:Len (.node op f c ks)) (hs:Sf w fv l) (hv:Sv w rv (vvals r)) (hfr:∀ x∈r,Fine x) :
  Calls Tryz.prog 113 #[.agg #[.int .u8 (op:Int),.int .u32 (f:Int),.int .u8 (c.1:Int),.int .i64 c.2.1,.string (bytesT c.2.2),kv],.agg #[.int .u32 (si:Int),fv],rv] w fun e w'=>e=.returned (.int .u8 (evalM l r (.node op f c ks):Int))/\Below w.heap.size w w':=by
 have HC:=hidden (fun (U:World) (b off q:Nat) hr hl=>answer1 (q:=q) (si:=si) (fv:=fv) (rv:=rv) (l:=l) hfr hop hok hlen U b off hr hl)
 have HOP:=hidden hop
 clear hop
 have HK:=hidden hk
 have HS:=hidden hs
 have HV:=hidden hv
 generalize evalM l r (.node op f c ks)=R at *
 obtain ⟨ka,kcap,rfl,_,_⟩:=hk.form
 obtain ⟨fa,fcap,rfl,_,_⟩:=hs.form
 obtain ⟨ra,rcap,rfl,_,_⟩:=hv.form1
 clear hk hs hv hok hlen hfr
 have hn:=node_new w op f c (.slice ka ks.length kcap)
 have hb1:=below_one w (.cells #[.int .u8 (op:Int),.int .u32 (f:Int),.int .u8 (c.1:Int),.int .i64 c.2.1,.string (bytesT c.2.2),.slice ka ks.length kcap] 63)
 generalize hA:w.alloc (.cells #[.int .u8 (op:Int),.int .u32 (f:Int),.int .u8 (c.1:Int),.int .i64 c.2.1,.string (bytesT c.2.2),.slice ka ks.length kcap] 63)=A at *
 have hb2:=below_one A (.cells #[.int .u32 (si:Int),.slice fa l.length fcap] 25)
 obtain ⟨e0,e1⟩:=cell_new2 A (.int .u32 (si:Int)) (.slice fa l.length fcap) 25
 generalize hB:A.alloc (.cells #[.int .u32 (si:Int),.slice fa l.length fcap] 25)=B at *
 have hb3:=below_one B (.cells #[.int .u32 (si:Int),.slice fa l.length fcap,.slice ra (vvals r).length rcap] 216)
 obtain ⟨g0,g1,g2⟩:=cell_new3 B (.int .u32 (si:Int)) (.slice fa l.length fcap) (.slice ra (vvals r).length rcap) 216
 have hz:B.heap.size<(B.alloc (.cells #[.int .u32 (si:Int),.slice fa l.length fcap,.slice ra (vvals r).length rcap] 216)).heap.size:=by rw [World.size_alloc];omega
 generalize hC:B.alloc (.cells #[.int .u32 (si:Int),.slice fa l.length fcap,.slice ra (vvals r).length rcap] 216)=C at *
 have hbw:Below w.heap.size w C:=below_then (below_then hb1 hb2) hb3
 have HRO:Hid (RowOf C B.heap.size si (.slice fa l.length fcap) (.slice ra (vvals r).length rcap) l r):=hidden ⟨hz,g0,g1,g2,HS.out.kept hbw,HV.out.kept hbw⟩
 have HLI:Hid (Lies C w.heap.size 0 (.node op f c ks)):=hidden (Lies.shut ((hn.kept hb2).kept hb3) (HK.out.kept hbw))
 have HBW:=hidden hbw
 clear hn hb1 hb2 hb3 hbw g0 g1 g2 hz
 go_enter Tryz.func113,Tryz.ntmps113
 go_wp2_with fail
 refine (HC.out _ _ _ _ HRO.out HLI.out).mono ?_
 rintro e w2 ⟨rfl,hb2⟩
 have HB2:=hidden hb2
 clear hb2
 go_wp2_with fail
 go_ret
 exact ⟨rfl,below_then HBW.out HB2.out⟩
theorem pfault1 {w:World} {b off op f si:Nat} {c:Cl} {a:Option Addr} {n cap:Nat} {fv:Value} {l:List Fd} (hop:op=1) (hn:NodeAt w b off op f c (.slice a n cap)) (hs:Sf w fv l) (hok:Okc c):Calls Tryz.prog 154 #[.pointer (some ⟨b,off,none⟩),.agg #[.int .u32 (si:Int),fv]] w fun e w'=>e=.returned (.int .i64 (faultN l op f c n))/\Below w.heap.size w w':=by
 have HOP:=hidden hop
 clear hop
 obtain ⟨fa,fcap,rfl,hfc,hfm⟩:=hs.form
 have hb1:=below_one w (.cells #[.int .u32 (si:Int),.slice fa l.length fcap] 25)
 have HB1:=hidden hb1
 obtain ⟨e0,e1⟩:=cell_new2 w (.int .u32 (si:Int)) (.slice fa l.length fcap) 25
 have HS:=hidden (hs.kept hb1)
 have HN:=hidden (hn.kept hb1)
 have HO:=hidden hok
 generalize hA:w.alloc (.cells #[.int .u32 (si:Int),.slice fa l.length fcap] 25)=A at *
 clear hb1 hs hn hok
 obtain ⟨hb0,x0,x1,x2,x3,x4,x5⟩:=HN.out
 have HD:Hid (faultN l op f c n=if 1<=op/\op<=5 then ffM l op f c n else if 6<=op/\op<=8 then fkM op f c n else 90):=hidden rfl
 generalize faultN l op f c n=R at *
 by_cases h5:1<=op/\op<=5
 ·rw [if_pos h5] at HD
  have HC:=hidden (fun (U:World) (hU:Below A.heap.size A U)=>faultOfField_any (si:=si) (HN.out.kept hU) (HS.out.kept hU) HO.out)
  generalize ffM l op f c n=R2 at *
  have h:=HOP.out
  all_goals
   clear HOP
   subst h
   clear h5
   go_enter Tryz.func154,Tryz.ntmps154
   go_wp2_with fail
   try rw [hA]
   refine (HC.out _ (Below.refl _ _)).mono ?_
   rintro e w2 ⟨rfl,hb2⟩
   have HB2:=hidden (below_then HB1.out hb2)
   clear hb2
   go_wp2_with fail
   go_ret
   rw [HD.out]
   exact ⟨rfl,HB2.out⟩
 ·exact absurd (show 1<=op/\op<=5 by rw [HOP.out];omega) h5
theorem firstFault1 {si:Nat} {fv:Value} {l:List Fd} {op f:Nat} {c:Cl} {ks:List PT} (hop:op=1) (hks:ks=[]) (hok:Okp (.node op f c ks)) (w:World) (b off:Nat) (hs:Sf w fv l) (hlies:Lies w b off (.node op f c ks)) :
  Calls Tryz.prog 111 #[.pointer (some ⟨b,off,none⟩),.agg #[.int .u32 (si:Int),fv]] w fun e w'=>e=.returned (.int .i64 (firstM l (.node op f c ks)))/\Below w.heap.size w w':=by
 have HOP:=hidden hop
 have HKS:=hidden hks
 clear hop hks
 simp only [Okp] at hok
 obtain ⟨_,_,hoc,hoks⟩:=hok
 have HOC:=hidden hoc
 have HOK:=hidden hoks.get
 obtain ⟨fa,fcap,rfl,hfc,hfm⟩:=hs.form
 have hb1:=below_one w (.cells #[.int .u32 (si:Int),.slice fa l.length fcap] 25)
 have HB1:=hidden hb1
 obtain ⟨e0,e1⟩:=cell_new2 w (.int .u32 (si:Int)) (.slice fa l.length fcap) 25
 have hz:w.heap.size<(w.alloc (.cells #[.int .u32 (si:Int),.slice fa l.length fcap] 25)).heap.size:=by rw [World.size_alloc];omega
 have HS:=hidden (hs.kept hb1)
 obtain ⟨a,cap,hnode,hkids⟩:=(Lies.kept hb1 _ _ _ hlies).open
 generalize hA:w.alloc (.cells #[.int .u32 (si:Int),.slice fa l.length fcap] 25)=A at *
 have HN:=hidden hnode
 have HK:=hidden hkids
 have hkf:=hkids.form
 obtain ⟨_,_,hke,hkc,hkm⟩:=hkf
 simp only [Value.slice.injEq] at hke
 obtain ⟨rfl,_,rfl⟩:=hke
 have hkm':ks.length<=9223372036854775807:=by unfold maxLen at hkm;omega
 clear hb1 hs hlies hnode hkids hoc hoks hkm
 have HD:Hid (firstM l (.node op f c ks)=if faultN l op f c ks.length≠0 then faultN l op f c ks.length else firstAll l ks):=hidden (by simp only [firstM])
 generalize firstM l (.node op f c ks)=R at *
 have HC:=hidden (fun (U:World) (hU:Below A.heap.size A U)=>pfault1 HOP.out (si:=si) (HN.out.kept hU) (HS.out.kept hU) HOC.out)
 generalize faultN l op f c ks.length=e1v at *
 go_enter Tryz.func111,Tryz.ntmps111
 go_wp2_with fail
 try rw [hA]
 refine (HC.out _ (Below.refl _ _)).mono ?_
 rintro e w2 ⟨rfl,hb2⟩
 have HB2:=hidden hb2
 have HN2:=hidden (HN.out.kept hb2)
 have g0:=(hb2.cell (p:=⟨w.heap.size,0,none⟩) hz).trans e0
 have g1:=(hb2.cell (p:=⟨w.heap.size,1,none⟩) hz).trans e1
 have hz2:=Nat.lt_of_lt_of_le hz hb2.size
 have hzA:=hb2.size
 clear hb2 e0 e1 hA
 by_cases h0:e1v=0
 ·subst h0
  rw [if_neg (by simp)] at HD
  have HD':Hid (R=firstAll l (ks.drop 0)):=HD
  clear HD
  obtain ⟨hb0,x0,x1,x2,x3,x4,x5⟩:=HN2.out
  go_wp2_with fail
  clear x0 x1 x2 x3 x4 x5
  go_loopw [19] (fun i wr=>∃ k:Nat,k<=ks.length/\i=.int .i64 (k:Int)/\R=firstAll l (ks.drop k)/\Below w2.heap.size w2 wr) (fun i _=>ks.length-(intOf i).toNat)
  case atStart=>exact ⟨0,by omega,rfl,HD'.out,Below.refl _ _⟩
  case round =>
   obtain ⟨k,hk,rfl,hfe,hbel⟩:=hrel
   have HF:=hidden hfe
   have HB:=hidden hbel
   have hzr:=hbel.size
   clear hfe hbel HD'
   by_cases hlt:k<ks.length
   ·exact absurd hlt (by rw [HKS.out];simp)
   ·obtain rfl:k=ks.length:=by omega
    have hge:¬ ((ks.length:Nat):Int)<(ks.length:Int):=by omega
    have HT:=hidden (HF.out.trans firstAll_end)
    clear HF
    go_wp2_with fail
    go_ret
    rw [HT.out]
    exact ⟨rfl,below_then HB1.out (below_then HB2.out HB.out)⟩
 ·rw [if_pos h0] at HD
  have h0':(e1v != 0)=true:=by simpa using h0
  clear h0
  go_wp2_with fail
  go_ret
  rw [HD.out]
  exact ⟨rfl,below_then HB1.out HB2.out⟩
theorem room1 {op f:Nat} {c:Cl} {ks:List PT} (hks:ks=[]) (w:World) (b off m d:Nat) (hm:m<100) (hd:d<100) (hlies:Lies w b off (.node op f c ks)):Calls Tryz.prog 110 #[.pointer (some ⟨b,off,none⟩),.int .i64 (m:Int),.int .i64 (d:Int)] w (RoomPost w (.node op f c ks) m d):=by
 have HKS:=hidden hks
 clear hks
 obtain ⟨a,cap,hnode,hkids⟩:=hlies.open
 have HK:=hidden hkids
 have hkf:=hkids.form
 obtain ⟨_,_,hke,hkc,hkm⟩:=hkf
 simp only [Value.slice.injEq] at hke
 obtain ⟨rfl,_,rfl⟩:=hke
 have hkm':ks.length<=9223372036854775807:=by unfold maxLen at hkm;omega
 clear hlies hkids hkm
 obtain ⟨hb0,x0,x1,x2,x3,x4,x5⟩:=hnode
 have HP0:Hid (∀ w',m=0∨d=0->w'=w->RoomPost w (.node op f c ks) m d (.returned (.int .i64 (-1))) w'):=hidden (fun w' h hw=>⟨⟨-1,rfl,by omega,by omega,fun _ _ _ _ h1 h2=>by omega⟩,hw⟩)
 by_cases hm0:m=0
 ·subst hm0
  go_enter Tryz.func110,Tryz.ntmps110
  go_wp2_with fail
  go_ret
  exact HP0.out _ (by simp) rfl
 have hm0':((m:Int)==0)=false:=beq_eq_false_iff_ne.2 (by omega)
 by_cases hd0:d=0
 ·subst hd0
  go_enter Tryz.func110,Tryz.ntmps110
  go_wp2_with fail
  go_ret
  exact HP0.out _ (by simp) rfl
 have hd0':((d:Int)==0)=false:=beq_eq_false_iff_ne.2 (by omega)
 have HMD:Hid (0<m/\0<d/\m<100/\d<100):=hidden ⟨by omega,by omega,hm,hd⟩
 clear HP0
 go_enter Tryz.func110,Tryz.ntmps110
 go_wp2_with fail
 go_loopw [1,21] (fun s i wr=>∃ k n:Nat,k<=ks.length/\i=.int .i64 (k:Int)/\s=.int .i64 (n:Int)/\n<100/\(k=0->(n:Int)=(m:Int)-1)/\wr=w) (fun _ i _=>ks.length-(intOf i).toNat)
 case atStart=>exact ⟨0,m-1,by omega,rfl,by congr 1;omega,by omega,fun _=>by omega,rfl⟩
 case round =>
  obtain ⟨k,n,hk,rfl,rfl,hn,hn0,rfl⟩:=hrel
  have HN0:=hidden hn0
  clear hn0
  by_cases hlt:k<ks.length
  ·exact absurd hlt (by rw [HKS.out];simp)
  ·obtain rfl:k=ks.length:=by omega
   have hge:¬ ((ks.length:Nat):Int)<(ks.length:Int):=by omega
   go_wp2_with fail
   go_ret
   exact ⟨⟨(n:Int),rfl,by omega,by omega,fun op' f' c' h _ _=>HN0.out (by simp only [PT.node.injEq] at h;rw [h.2.2.2];rfl)⟩,rfl⟩
theorem check1 {w:World} {op f si:Nat} {c:Cl} {ks:List PT} {kv fv:Value} {l:List Fd} (hop:op=1) (hks:ks=[]) (hk:Kids w kv ks) (hok:Okp (.node op f c ks)) (hs:Sf w fv l) :
  Calls Tryz.prog 65 #[.agg #[.int .u8 (op:Int),.int .u32 (f:Int),.int .u8 (c.1:Int),.int .i64 c.2.1,.string (bytesT c.2.2),kv],.agg #[.int .u32 (si:Int),fv]] w (CheckPost w l (.node op f c ks)):=by
 have HOP:=hidden hop
 have HKS:=hidden hks
 clear hop hks
 have HK:=hidden hk
 have HS:=hidden hs
 have HO:=hidden hok
 obtain ⟨ka,kcap,rfl,_,_⟩:=hk.form
 obtain ⟨fa,fcap,rfl,_,_⟩:=hs.form
 clear hk hs hok
 have hn:=node_new w op f c (.slice ka ks.length kcap)
 have hb1:=below_one w (.cells #[.int .u8 (op:Int),.int .u32 (f:Int),.int .u8 (c.1:Int),.int .i64 c.2.1,.string (bytesT c.2.2),.slice ka ks.length kcap] 63)
 generalize hA:w.alloc (.cells #[.int .u8 (op:Int),.int .u32 (f:Int),.int .u8 (c.1:Int),.int .i64 c.2.1,.string (bytesT c.2.2),.slice ka ks.length kcap] 63)=A at *
 have hb2:=below_one A (.cells #[.int .u32 (si:Int),.slice fa l.length fcap] 25)
 obtain ⟨e0,e1⟩:=cell_new2 A (.int .u32 (si:Int)) (.slice fa l.length fcap) 25
 generalize hB:A.alloc (.cells #[.int .u32 (si:Int),.slice fa l.length fcap] 25)=B at *
 have hbw:Below w.heap.size w B:=below_then hb1 hb2
 have HLI:Hid (Lies B w.heap.size 0 (.node op f c ks)):=hidden (Lies.shut (hn.kept hb2) (HK.out.kept hbw))
 have HSB:=hidden (HS.out.kept hbw)
 have HBW:=hidden hbw
 clear hn hb1 hb2 hbw
 go_enter Tryz.func65,Tryz.ntmps65
 go_wp2_with fail
 refine (room1 HKS.out _ _ _ 32 8 (by omega) (by omega) HLI.out).mono ?_
 rintro e w2 ⟨⟨z,rfl,hz1,hz2,hz3⟩,rfl⟩
 have HZ3:=hidden hz3
 clear hz3
 by_cases hz:z<0
 ·go_wp2_with fail
  go_ret
  exact ⟨⟨90,rfl,fun op' f' c' h=>by have:=HZ3.out op' f' c' h (by omega) (by omega);omega⟩,HBW.out⟩
 ·go_wp2_with fail
  refine (firstFault1 HOP.out HKS.out HO.out _ _ _ HSB.out HLI.out).mono ?_
  rintro e w3 ⟨rfl,hb3⟩
  have HB3:=hidden hb3
  clear hb3
  go_wp2_with fail
  go_ret
  exact ⟨⟨_,rfl,fun _ _ _ _=>rfl⟩,below_then HBW.out HB3.out⟩
end Go.Proofs.YtpljdjmpamjkhaaGreatDoor
