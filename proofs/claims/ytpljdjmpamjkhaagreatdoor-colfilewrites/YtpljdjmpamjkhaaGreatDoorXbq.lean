import Derived.Test.YtpljdjmpamjkhaaGreatDoorXbp
set_option linter.unusedVariables false
set_option linter.unusedSimpArgs false
set_option maxRecDepth 100000
set_option maxHeartbeats 16000000
namespace Go.Proofs.YtpljdjmpamjkhaaGreatDoor
open Go.RowKit Go.Lib
theorem ln{B:Nat}{a w w2:World}(h:Below B a w)(h2:Below w.heap.size w w2)(hB:B<=w.heap.size:=by omega):Below B a w2:=h.trans (h2.mono hB)
theorem jS.keptB{W W':World}{B B':Nat}{a b c d:Value}{L1 L2:List Nat}{L3:List Int}{L4:List (List Nat)}(h:jS W B a b c d L1 L2 L3 L4)(hb:Below B' W W')(hl:∀(x:Value) k,x=a∨x=b∨x=c∨x=d->x.ownBlock=some k->k<B'):jS W' B a b c d L1 L2 L3 L4:=by
 have key:∀{e n:Nat} {v:Value} {xs:List Value},W.ownsRow B e 1 v n xs->(∀ k,v.ownBlock=some k->k<B')->W'.ownsRow B e 1 v n xs:=fun{e n v xs} h hv=>by
  obtain⟨h0,h | ⟨g,cap,cur,rfl,h2,h3,h4⟩⟩:=h
  ·exact⟨h0,Or.inl h⟩
  ·exact⟨h0,Or.inr ⟨g,cap,cur,rfl,h2,(hb.block g (hv g rfl)).trans h3,h4⟩⟩
 exact⟨key h.1 (fun k=>hl a k (by simp)),key h.2.1 (fun k=>hl b k (by simp)),key h.2.2.1 (fun k=>hl c k (by simp)),key h.2.2.2.1 (fun k=>hl d k (by simp)),h.2.2.2.2⟩
theorem uf(w:World)(v:Value)(t n:Nat)(h:w.heap.size=n):(w.alloc (.cells #[v] t)).cell? ⟨n,0,none⟩=some v:=by
 subst h;exact aK _ _ _
theorem BO{w:World}{v:Value}{l:List (Nat×Int×List Nat)}(hs:Sc w v l)(hf:∀ c∈l,zU c)(hl:l.length<=600)(k:Nat)(hk:k<256) :
  Calls Tryz.prog 47 #[.int .i64 (k:Int),v] w (sZ (dU k l) w):=by
 have HS:=ae hs;have HF:=ae hf;obtain⟨a,cap,rfl,aW,bw⟩:=hs.form;have hcm':cap<=9223372036854775807:=by unfold maxLen at bw;omega
 by_cases LY:1<=k/\k<=3
 ·have qp:¬ (k:Int)<1:=by omega
  have lq:¬ (k:Int) > 3:=by omega
  have ZW:=ae (fun(c:Nat×Int×List Nat) (hc:c∈l) (h:c.1≠0/\c.1≠k)=>ue (k:=k) (l:=l) (fun h2=>by
   rcases h2.2.2 c hc with e | e
   ·exact h.1 e
   ·exact h.2 e))
  have VA:=ae (fun(h:∀ c∈l,c.1=0∨c.1=k) (h2:¬ (l.length<=256/\∀ c∈l,c.2.2.length<=64))=>Fq (k:=k) (l:=l) ⟨LY.1,LY.2,h⟩ h2);have Ai:=ae (fun(h:∀ c∈l,c.1=0∨c.1=k) (h1:l.length<=256) (h2:∀ c∈l,c.2.2.length<=64)=>(⟨LY,h1,fun c hc=>((hf c hc).fine (h2 c hc)).cellk (h c hc)⟩:Col k l));have HWC:=ae (fun h=>kp (k:=k) (l:=l) h);clear hs hf bw;generalize dU k l=WC at *;go_enter Tryz.func47,Tryz.ntmps47
  go_wp2_with fail;go_loopw [6] (fun i wr=>∃ j:Nat,j<=l.length/\i=.int .i64 (j:Int)/\(∀ c∈l.take j,c.1=0∨c.1=k)/\Below w.heap.size w wr) (fun i _=>l.length-(intOf i).toNat)
  case atStart=>exact⟨0,by omega,rfl,fun c hc=>by simp at hc,jdv _ _⟩
  case round =>
   obtain⟨j,hj,rfl,cX,az⟩:=hrel;have HA:=ae cX;have HB:=ae az;have bF:=az.size;clear cX az;by_cases aB:j<l.length
   ·obtain⟨g,off,rfl,hg,c0,c1,c2⟩:=(HS.o.kept HB.o).at aB
    have hlt':(j:Int)<(l.length:Int):=(by omega);have HM:=ae (jdA aB)
    have HT:jfp (∀ c,c∈l.take (j+1)->c∈l.take j∨c=l[j]):=ae (fun c hc=>by
     rw[jdM aB]at hc;rcases jd2.1 hc with h | h
     ·exact Or.inl h
     ·exact Or.inr (by simpa using h))
    have Qw:=(HF.o l[j] (jdA aB)).parts.1;rw[dJ]at c2;have Cs:jfp (∀ o,Below w.heap.size w (wr.alloc o)):=ae (fun o=>HB.o.alloc bF o);generalize l[j]=c at *;obtain⟨ck,cn,cs⟩:=c;simp only at *;by_cases h0:((ck:Int) != 0)=true
    ·by_cases h1:((ck:Int) != (k:Int))=true
     ·have HE:jfp (WC=([],10)):=ae (ZW.o _ HM.o (by
       have a1:(ck:Int)≠0:=by simpa using h0
       have a2:(ck:Int)≠(k:Int):=by simpa using h1
       exact⟨by simp only;omega,by simp only;omega⟩))
      go_wp2_with fail;go_ret2
      rw[HE.o];exact⟨⟨_,rfl,aD.nil _ _⟩,Cs.o _⟩
     ·have h1':((ck:Int) != (k:Int))=false:=by simpa using h1
      have nk:jfp (ck=k):=ae (by have:(ck:Int)=(k:Int):=(by simpa using h1);omega);clear h1;go_wp2_with fail;go_roundw
      case rel=>exact⟨j+1,by omega,by go_num,fun c hc=>(HT.o c hc).elim (HA.o c) (fun e=>by rw[e];exact Or.inr nk.o),Cs.o _⟩
      case measure=>simp[intOf];omega
    ·have h0':((ck:Int) != 0)=false:=by simpa using h0
     have nk:jfp (ck=0):=ae (by have:(ck:Int)=0:=(by simpa using h0);omega);clear h0;go_wp2_with fail;go_roundw
     case rel=>exact⟨j+1,by omega,by go_num,fun c hc=>(HT.o c hc).elim (HA.o c) (fun e=>by rw[e];exact Or.inl nk.o),Cs.o _⟩
     case measure=>simp[intOf];omega
   ·obtain rfl:j=l.length:=by omega
    rw[jdE]at HA;have gj:¬ ((l.length:Nat):Int)<(l.length:Int):=(by omega);by_cases Fy:l.length<=256
    ·have h256':¬ (l.length:Int) > 256:=by omega
     generalize wr=W1 at *;go_wp2_with fail;go_loopw [8,9,10,11,12,13] (fun q1 q2 q3 q4 nu i wr=>∃ j:Nat,j<=l.length/\i=.int .i64 (j:Int)/\nu=.bool (decide (0∈bN (l.take j)))/\(∀ c∈l.take j,c.2.2.length<=64)/\jS wr w.heap.size q1 q2 q3 q4 (bN (l.take j)) (tr4 (l.take j)) (wh4 (l.take j)) (wd4 (l.take j))/\Below w.heap.size w wr) (fun _ _ _ _ _ i _=>l.length-(intOf i).toNat)
     case atStart=>exact⟨0,by omega,rfl,rfl,fun c hc=>by simp at hc,jS.nil _ _,HB.o⟩
     case round =>
      obtain⟨j,hj,rfl,rfl,ZK,ZX,az⟩:=hrel;have HSH:=ae ZK;have Qn:=ae ZX;have aO:=ae az;have bv:=az.size;clear ZK ZX az;by_cases aB:j<l.length
      ·obtain⟨g,off,rfl,hg,c0,c1,c2⟩:=(HS.o.kept aO.o).at aB
       have hlt':(j:Int)<(l.length:Int):=(by omega);have HM:=ae (jdA aB)
       have HT:jfp (∀ c,c∈l.take (j+1)->c∈l.take j∨c=l[j]):=ae (fun c hc=>by
        rw[jdM aB]at hc;rcases jd2.1 hc with h | h
        ·exact Or.inl h
        ·exact Or.inr (by simpa using h))
       have PS:=ae (HF.o l[j] (jdA aB));have Qw:=PS.o.parts.1;rw[dJ]at c2;have HN4:=ae (fun h0=>Pt aB h0);have uG:=ae (fun h0=>Pu aB h0);have hln:=Un l j;obtain⟨hln1,hln2,hln3,hln4⟩:=hln;have Cs:jfp (∀ o,Below w.heap.size w (wr.alloc o)):=ae (fun o=>aO.o.alloc bv o);have jw:(ak l[j].2.2).size=l[j].2.2.length:=bg _;have qn:=ae jw;clear jw;generalize l[j]=c at *;obtain⟨ck,cn,cs⟩:=c;simp only at *;by_cases kM:cs.length<=64
       ·have h64':¬ ((ak cs).size:Int) > 64:=by rw[qn.o];omega
        have HSH':jfp (∀ c∈l.take (j+1),c.2.2.length<=64):=ae (fun c hc=>(HT.o c hc).elim (HSH.o c) (fun e=>by rw[e];exact kM));clear kM;by_cases h0:ck=0
        ·obtain⟨e1,e2,e3,e4⟩:=HN4.o h0
         have QI:=ae (And.intro e1 (And.intro e2 (And.intro e3 e4)));have HDT:jfp (decide (0∈bN (l.take (j+1)))=true):=ae (jdO (by rw[e1];simp));clear e1 e2 e3 e4 uG HN4;subst h0;have Ck:=ae (Qn.o.kept (am wr (.cells #[.int .u8 0,.int .i64 cn,.string (ak cs)] 52)));have hzA:=jdx wr (.cells #[.int .u8 0,.int .i64 cn,.string (ak cs)] 52);generalize bN (l.take j)=L1 at *;generalize tr4 (l.take j)=L2 at *;generalize wh4 (l.take j)=L3 at *;generalize wd4 (l.take j)=L4 at *;generalize decide (0∈L1)=nul0 at *;go_wp2_with (first | (at_builtin;refine iZ rfl _ _ rfl w.heap.size _ _ 0 L1 rfl (Ck.o.1.kept (am _ _)) rfl (uf _ _ _ _ hzA) (by omega) ?c2 ?_))
         case c2=>first | omega | (rw[jdx];omega)
         intro v5 w5 o5 g5 n5;have BU:=ae ((Ck.o.kept (am _ _)).g1 o5 g5 (by simpa [jdx]using n5));have aR:=ae (((Cs.o (.cells #[.int .u8 0,.int .i64 cn,.string (ak cs)] 52)).alloc (by omega) _).grown g5 (by rw[jdx];omega) (fun k hk=>(Ck.o.1.lt k hk).1));clear o5 g5 n5;go_wp2_with fail;go_roundw
         case rel=>exact⟨j+1,by omega,by go_num,by rw[HDT.o],HSH'.o,by rw[QI.o.1,QI.o.2.1,QI.o.2.2.1,QI.o.2.2.2];exact BU.o,aR.o⟩
         case measure=>simp[intOf];omega
        ·skip
         have hne0:((ck:Int)==0)=false:=jdG.2 (by omega);obtain⟨e1,e2,e3,e4⟩:=uG.o h0;have QI:=ae (And.intro e1 (And.intro e2 (And.intro e3 e4)));have HDT:jfp (decide (0∈bN (l.take (j+1)))=decide (0∈bN (l.take j))):=ae (by rw[e1];simp);clear e1 e2 e3 e4 uG HN4 h0;have Ck:=ae (Qn.o.kept (am wr (.cells #[.int .u8 (ck:Int),.int .i64 cn,.string (ak cs)] 52)));have hzA:=jdx wr (.cells #[.int .u8 (ck:Int),.int .i64 cn,.string (ak cs)] 52);have HCB0:jfp ((wr.alloc (.cells #[.int .u8 (ck:Int),.int .i64 cn,.string (ak cs)] 52)).heap[wr.heap.size]?=some (.cells #[.int .u8 (ck:Int),.int .i64 cn,.string (ak cs)] 52 (0,0))):=ae (jdW _ _)
         have jcs:jfp (∀ x:Value,x=u8∨x=u9∨x=u10∨x=u11->some wr.heap.size≠x.ownBlock):=ae (fun x hx e=>by
          rcases hx with rfl | rfl | rfl | rfl
          ·have:=(Qn.o.1.lt _ e.symm).2;omega
          ·have:=(Qn.o.2.1.lt _ e.symm).2;omega
          ·have:=(Qn.o.2.2.1.lt _ e.symm).2;omega
          ·have:=(Qn.o.2.2.2.1.lt _ e.symm).2;omega)
         generalize decide (0∈bN (l.take j))=nul0 at *;generalize bN (l.take j)=L1 at *;generalize tr4 (l.take j)=L2 at *;generalize wh4 (l.take j)=L3 at *;generalize wd4 (l.take j)=L4 at *;have hconv:IntKind.u64.wrap cn=(xy cn:Int):=Kb cn;generalize hU:xy cn=U at *;clear hU;go_wp2_with (first | (at_builtin;refine iZ rfl _ _ rfl w.heap.size _ _ 1 L1 rfl (Ck.o.1.kept (am _ _)) rfl (uf _ _ _ _ hzA) (by omega) ?c2 ?_))
         case c2=>first | omega | (rw[jdx];omega)
         intro v5 w5 o5 g5 n5;have BU:=ae ((Ck.o.kept (am _ _)).g1 o5 g5 (by simpa [jdx]using n5));have bD:Below w.heap.size w w5:=((Cs.o (.cells #[.int .u8 (ck:Int),.int .i64 cn,.string (ak cs)] 52)).alloc (by omega) _).grown g5 (by rw[jdx];omega) (fun k hk=>(Ck.o.1.lt k hk).1);have uF:=g5.size;rw[jdx,hzA]at uF;have hC5:w5.heap[wr.heap.size]?=some (.cells #[.int .u8 (ck:Int),.int .i64 cn,.string (ak cs)] 52 (0,0)):=(g5.block _ (by rw[jdx];omega) (jcs.o _ (by simp))).trans (((am _ _).block _ (by omega)).trans HCB0.o);have hc51:w5.cell? ⟨wr.heap.size,1,none⟩=some (.int .i64 cn):=by rw[ay hC5];rfl
         have aR:=ae bD;have HC5:=ae hC5;have hzz5:=bD.size;clear o5 g5 n5 bD hC5 c0 c1 c2;go_wp2_with (first | (at_builtin;refine mr rfl _ _ rfl w.heap.size _ _ cn L3 rfl (BU.o.2.2.1.kept (am _ _)) rfl (aK _ _ _) (by omega) ?c3 ?_))
         case c3=>first | omega | (rw[jdx];omega)
         intro v6 w6 o6 g6;have QG:=ae ((BU.o.kept (am _ _)).g3 o6 g6);have ey:Below w.heap.size w w6:=(aR.o.alloc hzz5 _).grown g6 (by rw[jdx];omega) (fun k hk=>(Qn.o.2.2.1.lt k hk).1);have FD:=g6.size;rw[jdx]at FD;have hC6:w6.heap[wr.heap.size]?=some (.cells #[.int .u8 (ck:Int),.int .i64 cn,.string (ak cs)] 52 (0,0)):=(g6.block _ (by rw[jdx];omega) (jcs.o _ (by simp))).trans (((am _ _).block _ (by omega)).trans HC5.o);have hc61:w6.cell? ⟨wr.heap.size,1,none⟩=some (.int .i64 cn):=by rw[ay hC6];rfl
         have ja:=ae ey;have HC6:=ae hC6;have hzz6:=ey.size;clear o6 g6 ey hC6 hc51;go_wp2_with (first | (at_builtin;refine iZ rfl _ _ rfl w.heap.size _ _ U L2 rfl (QG.o.2.1.kept (am _ _)) rfl (aK _ _ _) (by omega) ?c4 ?_))
         case c4=>first | omega | (rw[jdx];omega)
         intro v7 w7 o7 g7 n7;have Zp:=ae ((QG.o.kept (am _ _)).g2 o7 g7 (by simpa [jdx]using n7));have ji:Below w.heap.size w w7:=(ja.o.alloc hzz6 _).grown g7 (by rw[jdx];omega) (fun k hk=>(Qn.o.2.1.lt k hk).1);have hz7:=g7.size;rw[jdx]at hz7;have hC7:w7.heap[wr.heap.size]?=some (.cells #[.int .u8 (ck:Int),.int .i64 cn,.string (ak cs)] 52 (0,0)):=(g7.block _ (by rw[jdx];omega) (jcs.o _ (by simp))).trans (((am _ _).block _ (by omega)).trans HC6.o);have hc72:w7.cell? ⟨wr.heap.size,2,none⟩=some (.string (ak cs)):=by rw[ay hC7];rfl
         have io:=ae ji;have hzz7:=ji.size;clear o7 g7 n7 ji hC7 hc61;go_wp2_with (first | (at_builtin;refine rO rfl _ _ rfl w.heap.size _ _ cs L4 rfl (Zp.o.2.2.2.1.kept (am _ _)) rfl (aK _ _ _) (by omega) ?c5 ?_))
         case c5=>first | omega | (rw[jdx];omega)
         intro v8 w8 o8 g8;have HF8:=ae ((Zp.o.kept (am _ _)).g4 o8 g8);have xD:=ae ((io.o.alloc hzz7 _).grown g8 (by rw[jdx];omega) (fun k hk=>(Qn.o.2.2.2.1.lt k hk).1));clear o8 g8;go_wp2_with fail;go_roundw
         case rel=>exact⟨j+1,by omega,by go_num,by rw[HDT.o],HSH'.o,by rw[QI.o.1,QI.o.2.1,QI.o.2.2.1,QI.o.2.2.2];exact HF8.o,xD.o⟩
         case measure=>simp[intOf];omega
       ·have h64':((ak cs).size:Int) > 64:=by rw[qn.o];omega
        have HE:jfp (WC=([],5)):=ae (VA.o HA.o (fun h=>kM (h.2 _ HM.o)));clear kM;go_wp2_with fail;go_ret2
        rw[HE.o];exact⟨⟨_,rfl,aD.nil _ _⟩,Cs.o _⟩
      ·skip
       obtain rfl:j=l.length:=by omega
       rw[jdE]at HSH Qn;rw[jdE];have hge2:¬ ((l.length:Nat):Int)<(l.length:Int):=(by omega);have dW:=Ai.o HA.o Fy HSH.o;have xT:=ae (HWC.o dW);have hhd:=(sE (l:=l) Fy).1;have hol:=ia l;have HHN:=ae (Ei (l:=l));have HHY:=ae (zJ (l:=l));have HTT:=ae (dY l);have kN:=jt (dY l) (by rw[bn];exact Fy);have Ky:jfp (eo k l=dK l++gB k l):=rfl;have HT1:=ae (vV l);have FK:=ae (vW l);have Md:=ae (vX l);have VS:=ae dW.2.2;have FV:=dW.1;clear Ai HWC dW ZW VA;by_cases h0:0∈bN l
       ·rw[jdO h0]
        have HHB:=ae (HHY.o h0);clear h0 HHN HHY;have Kq:=ae (Qn.o.kept (am wr (.cells #[.int .u8 0] 5)));have hzA:=jdx wr (.cells #[.int .u8 0] 5);have We:=ae (Kq.o.kept (am _ (.cells #[.int .u8 1] 5)));have hzB:=jdx (wr.alloc (.cells #[.int .u8 0] 5)) (.cells #[.int .u8 1] 5);have gm:=ae ((aO.o.alloc bv (.cells #[.int .u8 0] 5)).alloc (by omega) (.cells #[.int .u8 1] 5));have FX:=ae (cG (wr.alloc (.cells #[.int .u8 0] 5)) 1);rw[hzA]at FX;have HFLG:=ae (tk We.o.1.sv (fun x hx=>by have:=HTT.o x hx;omega));generalize hPK:bi (bN l) 1=PK at *;clear hPK;go_wp2_with fail;refine HFLG.o.mono ?_;rintro e w1 ⟨⟨v1,rfl,o1⟩,aH⟩;have eY:=ae o1;have Zn:=ae (FX.o.kept aH);have Ca:=ae (We.o.kept aH);have cP:=aH.size;have aQ:=ae (gm.o.trans (aH.mono (by omega)));clear o1 aH;go_wp2_with (first | (at_builtin;refine ax rfl _ _ rfl (wr.heap.size+1) _ _ [1] PK rfl Zn.o rfl eY.o.sv ?a1 ?a2 ?_))
        case a1=>simp;omega
        case a2=>omega
        intro vb wx ob bb;have xR:jfp (aD wx w.heap.size vb (dK l)):=ae (by rw[HHB.o];exact ob.low (by omega))
        have Wf:jfp (jS wx w.heap.size _ _ _ _ (bN l) (tr4 l) (wh4 l) (wd4 l)):=ae (by
         have hq:=Qn.o
         have gS:∀ x:Value,(∃ k,x.ownBlock=some k/\¬ k<wr.heap.size+1)->x=u8∨x=u9∨x=u10∨x=u11->False:=fun x ⟨k,hk,hn⟩ hx=>by
          rcases hx with rfl | rfl | rfl | rfl
          ·have:=(hq.1.lt _ hk).2;omega
          ·have:=(hq.2.1.lt _ hk).2;omega
          ·have:=(hq.2.2.1.lt _ hk).2;omega
          ·have:=(hq.2.2.2.1.lt _ hk).2;omega
         exact jS.keptB Ca.o bb (fun x k hx hk=>by
          rcases jdY k (wr.heap.size+1)with h | h
          ·exact h
          ·exact(gS x ⟨k,hk,by omega⟩ hx).elim))
        have ms:=ae (aQ.o.trans (bb.mono (by omega)));have Yq:=ms.o.size;clear ob bb Kq We Ca gm aQ Zn eY FX HFLG;obtain rfl | rfl | rfl:k=1∨k=2∨k=3:=by omega
        ·have jj:=iS VS.o
         have fT:=gI jj.1 (by rw[jdz];omega);have xG:=ae (jv Wf.o.2.2.1.sv jj.1);have Cm:(wh4 l).length<=256:=by unfold wh4;rw[jdz];omega
         rw[kg Cm]at xG;have HT1':jfp (gB 1 l=cQ (wh4 l)):=ae HT1.o;have hbl':(cQ (wh4 l)).length<=5131:=fT;clear jj fT;generalize cQ (wh4 l)=BS at *;go_wp2_with fail;refine xG.o.mono ?_;rintro e wy ⟨⟨vy,rfl,oy⟩,FN⟩;have HVY:=ae (xR.o.kept FN);have HOY:=ae oy;have Ct:=ae (ms.o.trans (FN.mono Yq));have hzy:=Ct.o.size;clear oy FN;go_wp2_with (first | (at_builtin;refine ax rfl _ _ rfl w.heap.size _ _ (dK l) BS rfl HVY.o rfl HOY.o.sv ?b1 ?b2 ?_))
         case b1=>omega
         case b2=>omega
         intro vz wz oz bz;have yD:=ae oz;have yE:=ae (Ct.o.trans bz);clear oz bz;go_wp2_with fail;go_ret2
         rw[xT.o,Ky.o,HT1'.o];exact⟨⟨_,rfl,yD.o⟩,yE.o⟩
        ·have jj:=fM VS.o
         have fT:=jt jj.1 (by rw[jdz];omega);have VB:=LC VS.o
         have xG:=ae (tk Wf.o.2.1.sv (fun x hx=>by
          rw[VB]at hx;have:=jj.1 x hx;omega))
         rw[VB]at xG;clear jj VB;have HT2':=ae FK.o;generalize bi ((bS l).map fun c=>c.2.1.toNat) 1=BS at *;go_wp2_with fail;refine xG.o.mono ?_;rintro e wy ⟨⟨vy,rfl,oy⟩,FN⟩;have HVY:=ae (xR.o.kept FN);have HOY:=ae oy;have Ct:=ae (ms.o.trans (FN.mono Yq));have hzy:=Ct.o.size;clear oy FN;go_wp2_with (first | (at_builtin;refine ax rfl _ _ rfl w.heap.size _ _ (dK l) BS rfl HVY.o rfl HOY.o.sv ?b1 ?b2 ?_))
         case b1=>omega
         case b2=>omega
         intro vz wz oz bz;have yD:=ae oz;have yE:=ae (Ct.o.trans bz);clear oz bz;go_wp2_with fail;go_ret2
         rw[xT.o,Ky.o,HT2'.o];exact⟨⟨_,rfl,yD.o⟩,yE.o⟩
        ·have jj:=gO VS.o
         have hwz:=mF jj.1 (by rw[jdz];omega);have rQ:=ae jj.1;have Cm:(wd4 l).length<=256:=by unfold wd4;rw[jdz];omega
         have HT3':jfp (gB 3 l=eL (wd4 l)):=ae Md.o;have YK:jfp (eL (wd4 l)=if (dj (wd4 l)).length<(plain (wd4 l)).length then dj (wd4 l) else plain (wd4 l)):=rfl;have tz:jfp (Ts (wd4 l)):=ae jj.1;clear jj Md HT1 FK rQ hwz;have VV:=Wf.o.2.2.2.1;have YI:=ae VV;clear VV;generalize hWW:wd4 l=WW at *;clear hWW;have uE:(tuq WW).length<=256:=by have:=fL WW;omega
         have rY:jfp (plain WW=[0]++fC WW):=rfl;have rS:jfp (dj WW=[1]++uv (tuq WW).length++fC (tuq WW)++cQ (cL WW)):=ae (by unfold dj;simp);have htx1:=nT tz.o Cm;have YL:=nT (ly tz.o) uE;have VU:=gI (ed Cm) (by rw[bV];exact Cm);have no:=bM (n:=(tuq WW).length) (by omega);have PU:=ae (ud YI.o.sv Cm (fun s hs=>(tz.o s hs).2));go_wp2_with fail;refine PU.o.mono ?_;rintro e wu ⟨⟨vu,rfl,ou⟩,UM⟩;have HVU:=ae (xR.o.kept UM);have HWU:=ae (YI.o.kept UM);have HOU:=ae ou;have HBU:=ae (ms.o.trans (UM.mono Yq));have hzu:=HBU.o.size;have HPG:=ae (fun(x:List Nat) (hx:x∈WW)=>kV (jf.2 hx));obtain⟨au,cu,rfl,Yp,VC⟩:=aM ou;obtain⟨aw,cw,hvw,An,VD⟩:=aM HWU.o;subst hvw;have hcum':cu<=9223372036854775807:=by unfold maxLen at VC;omega
         have hcwm':cw<=9223372036854775807:=by unfold maxLen at VD;omega
         have VE:jfp (∀ s∈WW,Bs s):=ae (fun s hs=>(tz.o s hs).2);have jcw:jfp (∀ s∈tuq WW,Bs s):=ae (fun s hs=>VE.o s (jf.1 hs));clear ou UM VC VD;have HPT:jfp (cL WW=WW.map fun s=>(plT (tuq WW) s:Int)):=rfl;have HTQ:=ae (ly tz.o);have HPI:=ae (ed Cm);have jcx:(cL WW).length<=256:=by rw[bV];exact Cm
         generalize cL WW=PT at *;generalize hTU:tuq WW=TU at *;clear hTU;go_wp2_with fail;go_loopw [19,20] (fun o i wq=>∃ j:Nat,j<=WW.length/\i=.int .i64 (j:Int)/\bC wq wu.heap.size o ((WW.take j).map fun s=>(plT TU s:Int))/\Below wu.heap.size wu wq) (fun _ i _=>WW.length-(intOf i).toNat)
         case atStart=>exact⟨0,by omega,rfl,bC.nil _ _,jdv _ _⟩
         case round =>
          obtain⟨j,hj,rfl,aA,az⟩:=hrel;have HO:=ae aA;have pb:=ae az;have yA:=az.size;clear aA az;by_cases aB:j<WW.length
          ·have hlt':(j:Int)<(WW.length:Int):=by omega
           obtain⟨gw,offw,jcy,hgw,KM⟩:=HWU.o.sv.at1 (cM aB);subst jcy;rw[dJ]at KM;have HCW:=ae KM;obtain⟨hp1,Qd⟩:=HPG.o WW[j] (jdA aB);have Fx:=ae Qd
           have lE:jfp ((WW.take (j+1)).map (fun s=>(plT TU s:Int))=(WW.take j).map (fun s=>(plT TU s:Int))++[(plT TU WW[j]:Int)]):=ae (by
            rw[jdM aB,jdQ];rfl)
           have hlen':((WW.take j).map fun s=>(plT TU s:Int)).length<=100000:=by rw[jdz,jdC];omega
           have HPN:=ae (fun(q:Nat) (h:q<TU.length) (hq:q<plT TU WW[j])=>Kc h hq);have jcz:=ae (VE.o WW[j] (jdA aB));clear KM Qd;generalize WW[j]=x at *;generalize ((WW.take j).map fun s=>(plT TU s:Int))=LL at *;generalize hpz:plT TU x=pz at *;clear hpz;generalize wr=WR9 at *;go_wp2_with fail;go_loopw [21] (fun i wq2=>∃ q:Nat,q<=pz/\i=.int .i64 (q:Int)/\Below WR9.heap.size WR9 wq2) (fun i _=>pz-(intOf i).toNat)
           case atStart=>exact⟨0,by omega,rfl,jdv _ _⟩
           case round =>
            obtain⟨q,hq,rfl,om⟩:=hrel;have pF:=ae om;have Yf:=om.size;clear om;have YM:q<TU.length:=(by omega);have hqu':(q:Int)<(TU.length:Int):=(by omega);obtain⟨gu,offu,jcA,hgu,KN⟩:=HOU.o.sv.at1 (cM YM);cases jcA
            rw[dJ]at KN;have jbQ:=(pF.o.cell (p:=⟨gu,offu+q,none⟩) (jdS hgu yA)).trans ((pb.o.cell (p:=⟨gu,offu+q,none⟩) hgu).trans KN);have hcw1:=(pF.o.cell (p:=⟨gw,offw+j,none⟩) (jdS hgw yA)).trans ((pb.o.cell (p:=⟨gw,offw+j,none⟩) hgw).trans HCW.o);have jcB:=ae (jcw.o TU[q] (jdA YM));have jcC:=ae (HPN.o q YM)
            have jcD:jfp (q=pz->TU[q]=x):=ae (fun e=>by
             have:=Fx.o;subst e;rw[List.getElem?_eq_getElem YM]at this;exact Option.some.inj this)
            have fd:jfp (∀ n z,Below wu.heap.size wu ((wr.drewN n).alloc (.cells #[.int .i64 z] 2))):=ae (fun n z=>(ap (pb.o.trans (pF.o.mono yA)) n).alloc (by show wu.heap.size<=wr.heap.size;omega) _);have Ku:jfp (∀ n z,wu.heap.size<=((wr.drewN n).alloc (.cells #[.int .i64 z] 2)).heap.size):=ae (fun n z=>by rw[jdx];show wu.heap.size<=wr.heap.size+1;omega);have nw:jfp (∀ n z,bC ((wr.drewN n).alloc (.cells #[.int .i64 z] 2)) wu.heap.size _ LL):=ae (fun n z=>((HO.o.kept pF.o).kept (ap (jdv _ _) n)).kept (am _ _));clear KN;generalize TU[q]=y at *;by_cases YN:q=pz
            ·have Kv:=jcD.o YN
             subst Kv;have HQZ:=ae YN;clear YN;go_wp2_with fail;go_quiet (fail)
             go_wp2_with (first | (at_builtin;refine aY rfl _ _ rfl wu.heap.size _ _ (q:Int) LL rfl (nw.o _ (q:Int)) rfl (aK _ _ _) hlen' ?f3 ?_))
             case f3=>first | omega | exact Ku.o _ _
             intro v7 w7 o7 b7;rw[HQZ.o]at o7;have iD:=ae o7;have io:=ae ((fd.o _ (q:Int)).trans b7);clear o7 b7;go_wp2_with fail;go_roundw
             case rel=>exact⟨j+1,by omega,by go_num,by rw[lE.o];exact iD.o,io.o⟩
             case measure=>simp[intOf];omega
            ·have fF:=jcC.o (by omega)
             have Kv:((ak y).toList==(ak x).toList)=false:=by
              rw[bE,bE];exact jdG.2 (fun e=>fF (by rw[← ft jcB.o,← ft jcz.o,e]))
             have uL:=ae (ap pF.o);have nj:q+1<=pz:=(by omega);clear fF YN;go_wp2_with fail;go_quiet (fail)
             go_wp2_with fail;go_roundw
             case rel=>exact⟨q+1,nj,by go_num,uL.o _⟩
             case measure=>simp[intOf];omega
          ·obtain rfl:j=WW.length:=by omega
           rw[jdE,← HPT.o]at HO;have hge3:¬ ((WW.length:Nat):Int)<(WW.length:Int):=(by omega);have HV9:=ae (HVU.o.kept pb.o);have HW9:=ae (HWU.o.kept pb.o);have HU9:=ae (HOU.o.kept pb.o);have pF:=ae (HBU.o.trans (pb.o.mono hzu));generalize wr=WR9 at *;have HLa:=ae (cG WR9 0);have HBa:=ae (am WR9 (.cells #[.int .u8 0] 5));have hza:=jdx WR9 (.cells #[.int .u8 0] 5);have HTa:=ae (jR (HW9.o.kept HBa.o).sv Cm tz.o);generalize plain WW=PLN at *;generalize dj WW=LST at *;generalize hTX1:fC WW=TX1 at *;clear hTX1;go_wp2_with fail;refine HTa.o.mono ?_;rintro e wa ⟨⟨va,rfl,oa⟩,Aj⟩;have HOa:=ae oa;have HLb:=ae (HLa.o.kept Aj);have HBab:=ae (HBa.o.trans (Aj.mono (by omega)));have hzb:=HBab.o.size;clear oa Aj;go_wp2_with (first | (at_builtin;refine ax rfl _ _ rfl WR9.heap.size _ _ [0] TX1 rfl HLb.o rfl HOa.o.sv ?g1 ?g2 ?_))
           case g1=>simp;omega
           case g2=>omega
           intro vc wc oc bc;have oc':aD wc WR9.heap.size vc PLN:=by rw[rY.o];exact oc
           have Vt:=ae oc';have HBc:=ae (HBab.o.trans bc);have HVc:=ae (HV9.o.kept HBc.o);have HUc:=ae (HU9.o.kept HBc.o);have HPc:=ae (HO.o.kept HBc.o);have HB9c:=ae (ln pF.o HBc.o);obtain⟨ac,cc,rfl⟩:=oc'.len;have hzc:=HBc.o.size;clear oc oc' bc HLa HBa HTa HOa HLb HBab;have HLd:=ae (cG wc 1);have HBd:=ae (am wc (.cells #[.int .u8 1] 5));have hzd:=jdx wc (.cells #[.int .u8 1] 5);have jcE:=ae (bG TU.length (by omega));generalize hUV:uv TU.length=UV at *;clear hUV;go_wp2_with fail;refine(jcE.o _).mono ?_;rintro e wd ⟨⟨vd,rfl,od⟩,nt⟩;have HOd:=ae od;have HLe:=ae (HLd.o.kept nt);have HBde:=ae (HBd.o.trans (nt.mono (by omega)));have hze:=HBde.o.size;clear od nt;go_wp2_with (first | (at_builtin;refine ax rfl _ _ rfl wc.heap.size _ _ [1] UV rfl HLe.o rfl HOd.o.sv ?i1 ?i2 ?_))
           case i1=>simp;omega
           case i2=>omega
           intro vf wf of bf;have Ab:=ae of;have HBf:=ae (HBde.o.trans bf);have hzf:=HBf.o.size;have HTf:=ae (jR (HUc.o.kept HBf.o).sv uE HTQ.o);generalize hTX2:fC TU=TX2 at *;clear hTX2 of bf HLd HBd HOd HLe HBde;go_wp2_with fail;refine HTf.o.mono ?_;rintro e wg ⟨⟨vg,rfl,og⟩,hbg⟩;have HOg:=ae og;have HFg:=ae (Ab.o.kept hbg);have HBg:=ae (HBf.o.trans (hbg.mono hzf));have hzg:=HBg.o.size;have Yw:jfp ((1::UV).length+TX2.length<=140737488355328):=ae (by rw[jdD];omega);clear og hbg;go_wp2_with (first | (at_builtin;refine ax rfl _ _ rfl wc.heap.size _ _ (1::UV) TX2 rfl HFg.o rfl HOg.o.sv Yw.o hzg ?_))
           intro vh wh oh bh;have oh':aD wh wc.heap.size vh (1::(UV++TX2)):=oh;have HOH:=ae oh';clear oh';have HBh:=ae (HBg.o.trans bh);have hzh:=HBh.o.size;have HBEp:=ae (jv (HPc.o.kept HBh.o).sv HPI.o);rw[kg jcx]at HBEp;generalize hBP:cQ PT=BP at *;clear hBP oh bh;go_wp2_with fail;refine HBEp.o.mono ?_;rintro e wi ⟨⟨vi,rfl,oi⟩,hbi⟩;have HOi:=ae oi;have HHi:=ae (HOH.o.kept hbi);have HBi:=ae (HBh.o.trans (hbi.mono hzh));have hzi:=HBi.o.size;have HK1:jfp ((1::(UV++TX2)).length+BP.length<=140737488355328):=ae (by rw[jdD,jdy];omega);clear oi hbi;go_wp2_with (first | (at_builtin;refine ax rfl _ _ rfl wc.heap.size _ _ (1::(UV++TX2)) BP rfl HHi.o rfl HOi.o.sv HK1.o hzi ?_))
           intro vj wj oj bj;have oj':aD wj wc.heap.size vj LST:=by rw[rS.o];simpa using oj
           have HOJ:=ae oj';have HBj:=ae (HBi.o.trans bj);have hzj:=HBj.o.size;have HCj:=ae (Vt.o.kept HBj.o);have HVj:=ae (HVc.o.kept HBj.o);have HB9j:=ae (ln HB9c.o HBj.o);have VF:=HB9j.o.size;obtain⟨aj,cj,rfl⟩:=oj'.len;have hlst:LST.length<=40000:=by rw[rS.o];simp;omega
           have hpln:PLN.length<=40000:=by rw[rY.o];simp;omega
           have HL1a:jfp ((dK l).length+LST.length<=140737488355328):=ae (by omega);have HL1b:jfp ((dK l).length+PLN.length<=140737488355328):=ae (by omega);clear oj oj' bj;by_cases rW:LST.length<PLN.length
           ·have hless':(LST.length:Int)<(PLN.length:Int):=by omega
            rw[jdu rW]at YK;clear rW;go_wp2_with (first | (at_builtin;refine ax rfl _ _ rfl w.heap.size _ _ (dK l) LST rfl HVj.o rfl HOJ.o.sv HL1a.o VF ?_))
            intro vz wz oz bz;have yD:=ae oz;have yE:=ae (HB9j.o.trans bz);clear oz bz;go_wp2_with fail;go_ret2
            rw[xT.o,Ky.o,HT3'.o,YK.o];exact⟨⟨_,rfl,yD.o⟩,yE.o⟩
           ·have hless':¬ (LST.length:Int)<(PLN.length:Int):=by omega
            rw[jdt rW]at YK;clear rW;go_wp2_with (first | (at_builtin;refine ax rfl _ _ rfl w.heap.size _ _ (dK l) PLN rfl HVj.o rfl HCj.o.sv HL1b.o VF ?_))
            intro vz wz oz bz;have yD:=ae oz;have yE:=ae (HB9j.o.trans bz);clear oz bz;go_wp2_with fail;go_ret2
            rw[xT.o,Ky.o,HT3'.o,YK.o];exact⟨⟨_,rfl,yD.o⟩,yE.o⟩
       ·rw[jdK h0]
        have HHB:=ae (HHN.o h0);clear h0 HHN HHY;have Wf:=ae (Qn.o.kept (am wr (.cells #[.int .u8 0] 5)));have hzA:=jdx wr (.cells #[.int .u8 0] 5);have xR:jfp (aD (wr.alloc (.cells #[.int .u8 0] 5)) w.heap.size (.slice (some ⟨wr.heap.size,0,none⟩) 1 1) (dK l)):=ae (by rw[HHB.o];exact(cG wr 0).low bv);have ms:=ae (aO.o.alloc bv (.cells #[.int .u8 0] 5));have Yq:=ms.o.size;obtain⟨wx,hwx⟩:∃ wx,wr.alloc (.cells #[.int .u8 0] 5)=wx:=⟨_,rfl⟩;rw[hwx]at Wf xR ms Yq;have HWX:=ae hwx;clear hwx;obtain rfl | rfl | rfl:k=1∨k=2∨k=3:=by omega
        ·have jj:=iS VS.o
         have fT:=gI jj.1 (by rw[jdz];omega);have xG:=ae (jv Wf.o.2.2.1.sv jj.1);have Cm:(wh4 l).length<=256:=by unfold wh4;rw[jdz];omega
         rw[kg Cm]at xG;have HT1':jfp (gB 1 l=cQ (wh4 l)):=ae HT1.o;have hbl':(cQ (wh4 l)).length<=5131:=fT;clear jj fT;generalize cQ (wh4 l)=BS at *;go_wp2_with fail;rw[HWX.o];refine xG.o.mono ?_;rintro e wy ⟨⟨vy,rfl,oy⟩,FN⟩;have HVY:=ae (xR.o.kept FN);have HOY:=ae oy;have Ct:=ae (ms.o.trans (FN.mono Yq));have hzy:=Ct.o.size;clear oy FN;go_wp2_with (first | (at_builtin;refine ax rfl _ _ rfl w.heap.size _ _ (dK l) BS rfl HVY.o rfl HOY.o.sv ?b1 ?b2 ?_))
         case b1=>omega
         case b2=>omega
         intro vz wz oz bz;have yD:=ae oz;have yE:=ae (Ct.o.trans bz);clear oz bz;go_wp2_with fail;go_ret2
         rw[xT.o,Ky.o,HT1'.o];exact⟨⟨_,rfl,yD.o⟩,yE.o⟩
        ·have jj:=fM VS.o
         have fT:=jt jj.1 (by rw[jdz];omega);have VB:=LC VS.o
         have xG:=ae (tk Wf.o.2.1.sv (fun x hx=>by
          rw[VB]at hx;have:=jj.1 x hx;omega))
         rw[VB]at xG;clear jj VB;have HT2':=ae FK.o;generalize bi ((bS l).map fun c=>c.2.1.toNat) 1=BS at *;go_wp2_with fail;rw[HWX.o];refine xG.o.mono ?_;rintro e wy ⟨⟨vy,rfl,oy⟩,FN⟩;have HVY:=ae (xR.o.kept FN);have HOY:=ae oy;have Ct:=ae (ms.o.trans (FN.mono Yq));have hzy:=Ct.o.size;clear oy FN;go_wp2_with (first | (at_builtin;refine ax rfl _ _ rfl w.heap.size _ _ (dK l) BS rfl HVY.o rfl HOY.o.sv ?b1 ?b2 ?_))
         case b1=>omega
         case b2=>omega
         intro vz wz oz bz;have yD:=ae oz;have yE:=ae (Ct.o.trans bz);clear oz bz;go_wp2_with fail;go_ret2
         rw[xT.o,Ky.o,HT2'.o];exact⟨⟨_,rfl,yD.o⟩,yE.o⟩
        ·have jj:=gO VS.o
         have hwz:=mF jj.1 (by rw[jdz];omega);have rQ:=ae jj.1;have Cm:(wd4 l).length<=256:=by unfold wd4;rw[jdz];omega
         have HT3':jfp (gB 3 l=eL (wd4 l)):=ae Md.o;have YK:jfp (eL (wd4 l)=if (dj (wd4 l)).length<(plain (wd4 l)).length then dj (wd4 l) else plain (wd4 l)):=rfl;have tz:jfp (Ts (wd4 l)):=ae jj.1;clear jj Md HT1 FK rQ hwz;have VV:=Wf.o.2.2.2.1;have YI:=ae VV;clear VV;generalize hWW:wd4 l=WW at *;clear hWW;have uE:(tuq WW).length<=256:=by have:=fL WW;omega
         have rY:jfp (plain WW=[0]++fC WW):=rfl;have rS:jfp (dj WW=[1]++uv (tuq WW).length++fC (tuq WW)++cQ (cL WW)):=ae (by unfold dj;simp);have htx1:=nT tz.o Cm;have YL:=nT (ly tz.o) uE;have VU:=gI (ed Cm) (by rw[bV];exact Cm);have no:=bM (n:=(tuq WW).length) (by omega);have PU:=ae (ud YI.o.sv Cm (fun s hs=>(tz.o s hs).2));go_wp2_with fail;rw[HWX.o];refine PU.o.mono ?_;rintro e wu ⟨⟨vu,rfl,ou⟩,UM⟩;have HVU:=ae (xR.o.kept UM);have HWU:=ae (YI.o.kept UM);have HOU:=ae ou;have HBU:=ae (ms.o.trans (UM.mono Yq));have hzu:=HBU.o.size;have HPG:=ae (fun(x:List Nat) (hx:x∈WW)=>kV (jf.2 hx));obtain⟨au,cu,rfl,Yp,VC⟩:=aM ou;obtain⟨aw,cw,hvw,An,VD⟩:=aM HWU.o;subst hvw;have hcum':cu<=9223372036854775807:=by unfold maxLen at VC;omega
         have hcwm':cw<=9223372036854775807:=by unfold maxLen at VD;omega
         have VE:jfp (∀ s∈WW,Bs s):=ae (fun s hs=>(tz.o s hs).2);have jcw:jfp (∀ s∈tuq WW,Bs s):=ae (fun s hs=>VE.o s (jf.1 hs));clear ou UM VC VD;have HPT:jfp (cL WW=WW.map fun s=>(plT (tuq WW) s:Int)):=rfl;have HTQ:=ae (ly tz.o);have HPI:=ae (ed Cm);have jcx:(cL WW).length<=256:=by rw[bV];exact Cm
         generalize cL WW=PT at *;generalize hTU:tuq WW=TU at *;clear hTU;go_wp2_with fail;go_loopw [19,20] (fun o i wq=>∃ j:Nat,j<=WW.length/\i=.int .i64 (j:Int)/\bC wq wu.heap.size o ((WW.take j).map fun s=>(plT TU s:Int))/\Below wu.heap.size wu wq) (fun _ i _=>WW.length-(intOf i).toNat)
         case atStart=>exact⟨0,by omega,rfl,bC.nil _ _,jdv _ _⟩
         case round =>
          obtain⟨j,hj,rfl,aA,az⟩:=hrel;have HO:=ae aA;have pb:=ae az;have yA:=az.size;clear aA az;by_cases aB:j<WW.length
          ·have hlt':(j:Int)<(WW.length:Int):=by omega
           obtain⟨gw,offw,jcy,hgw,KM⟩:=HWU.o.sv.at1 (cM aB);subst jcy;rw[dJ]at KM;have HCW:=ae KM;obtain⟨hp1,Qd⟩:=HPG.o WW[j] (jdA aB);have Fx:=ae Qd
           have lE:jfp ((WW.take (j+1)).map (fun s=>(plT TU s:Int))=(WW.take j).map (fun s=>(plT TU s:Int))++[(plT TU WW[j]:Int)]):=ae (by
            rw[jdM aB,jdQ];rfl)
           have hlen':((WW.take j).map fun s=>(plT TU s:Int)).length<=100000:=by rw[jdz,jdC];omega
           have HPN:=ae (fun(q:Nat) (h:q<TU.length) (hq:q<plT TU WW[j])=>Kc h hq);have jcz:=ae (VE.o WW[j] (jdA aB));clear KM Qd;generalize WW[j]=x at *;generalize ((WW.take j).map fun s=>(plT TU s:Int))=LL at *;generalize hpz:plT TU x=pz at *;clear hpz;generalize wr=WR9 at *;go_wp2_with fail;go_loopw [21] (fun i wq2=>∃ q:Nat,q<=pz/\i=.int .i64 (q:Int)/\Below WR9.heap.size WR9 wq2) (fun i _=>pz-(intOf i).toNat)
           case atStart=>exact⟨0,by omega,rfl,jdv _ _⟩
           case round =>
            obtain⟨q,hq,rfl,om⟩:=hrel;have pF:=ae om;have Yf:=om.size;clear om;have YM:q<TU.length:=(by omega);have hqu':(q:Int)<(TU.length:Int):=(by omega);obtain⟨gu,offu,jcA,hgu,KN⟩:=HOU.o.sv.at1 (cM YM);cases jcA
            rw[dJ]at KN;have jbQ:=(pF.o.cell (p:=⟨gu,offu+q,none⟩) (jdS hgu yA)).trans ((pb.o.cell (p:=⟨gu,offu+q,none⟩) hgu).trans KN);have hcw1:=(pF.o.cell (p:=⟨gw,offw+j,none⟩) (jdS hgw yA)).trans ((pb.o.cell (p:=⟨gw,offw+j,none⟩) hgw).trans HCW.o);have jcB:=ae (jcw.o TU[q] (jdA YM));have jcC:=ae (HPN.o q YM)
            have jcD:jfp (q=pz->TU[q]=x):=ae (fun e=>by
             have:=Fx.o;subst e;rw[List.getElem?_eq_getElem YM]at this;exact Option.some.inj this)
            have fd:jfp (∀ n z,Below wu.heap.size wu ((wr.drewN n).alloc (.cells #[.int .i64 z] 2))):=ae (fun n z=>(ap (pb.o.trans (pF.o.mono yA)) n).alloc (by show wu.heap.size<=wr.heap.size;omega) _);have Ku:jfp (∀ n z,wu.heap.size<=((wr.drewN n).alloc (.cells #[.int .i64 z] 2)).heap.size):=ae (fun n z=>by rw[jdx];show wu.heap.size<=wr.heap.size+1;omega);have nw:jfp (∀ n z,bC ((wr.drewN n).alloc (.cells #[.int .i64 z] 2)) wu.heap.size _ LL):=ae (fun n z=>((HO.o.kept pF.o).kept (ap (jdv _ _) n)).kept (am _ _));clear KN;generalize TU[q]=y at *;by_cases YN:q=pz
            ·have Kv:=jcD.o YN
             subst Kv;have HQZ:=ae YN;clear YN;go_wp2_with fail;go_quiet (fail)
             go_wp2_with (first | (at_builtin;refine aY rfl _ _ rfl wu.heap.size _ _ (q:Int) LL rfl (nw.o _ (q:Int)) rfl (aK _ _ _) hlen' ?f3 ?_))
             case f3=>first | omega | exact Ku.o _ _
             intro v7 w7 o7 b7;rw[HQZ.o]at o7;have iD:=ae o7;have io:=ae ((fd.o _ (q:Int)).trans b7);clear o7 b7;go_wp2_with fail;go_roundw
             case rel=>exact⟨j+1,by omega,by go_num,by rw[lE.o];exact iD.o,io.o⟩
             case measure=>simp[intOf];omega
            ·have fF:=jcC.o (by omega)
             have Kv:((ak y).toList==(ak x).toList)=false:=by
              rw[bE,bE];exact jdG.2 (fun e=>fF (by rw[← ft jcB.o,← ft jcz.o,e]))
             have uL:=ae (ap pF.o);have nj:q+1<=pz:=(by omega);clear fF YN;go_wp2_with fail;go_quiet (fail)
             go_wp2_with fail;go_roundw
             case rel=>exact⟨q+1,nj,by go_num,uL.o _⟩
             case measure=>simp[intOf];omega
          ·obtain rfl:j=WW.length:=by omega
           rw[jdE,← HPT.o]at HO;have hge3:¬ ((WW.length:Nat):Int)<(WW.length:Int):=(by omega);have HV9:=ae (HVU.o.kept pb.o);have HW9:=ae (HWU.o.kept pb.o);have HU9:=ae (HOU.o.kept pb.o);have pF:=ae (HBU.o.trans (pb.o.mono hzu));generalize wr=WR9 at *;have HLa:=ae (cG WR9 0);have HBa:=ae (am WR9 (.cells #[.int .u8 0] 5));have hza:=jdx WR9 (.cells #[.int .u8 0] 5);have HTa:=ae (jR (HW9.o.kept HBa.o).sv Cm tz.o);generalize plain WW=PLN at *;generalize dj WW=LST at *;generalize hTX1:fC WW=TX1 at *;clear hTX1;go_wp2_with fail;refine HTa.o.mono ?_;rintro e wa ⟨⟨va,rfl,oa⟩,Aj⟩;have HOa:=ae oa;have HLb:=ae (HLa.o.kept Aj);have HBab:=ae (HBa.o.trans (Aj.mono (by omega)));have hzb:=HBab.o.size;clear oa Aj;go_wp2_with (first | (at_builtin;refine ax rfl _ _ rfl WR9.heap.size _ _ [0] TX1 rfl HLb.o rfl HOa.o.sv ?g1 ?g2 ?_))
           case g1=>simp;omega
           case g2=>omega
           intro vc wc oc bc;have oc':aD wc WR9.heap.size vc PLN:=by rw[rY.o];exact oc
           have Vt:=ae oc';have HBc:=ae (HBab.o.trans bc);have HVc:=ae (HV9.o.kept HBc.o);have HUc:=ae (HU9.o.kept HBc.o);have HPc:=ae (HO.o.kept HBc.o);have HB9c:=ae (ln pF.o HBc.o);obtain⟨ac,cc,rfl⟩:=oc'.len;have hzc:=HBc.o.size;clear oc oc' bc HLa HBa HTa HOa HLb HBab;have HLd:=ae (cG wc 1);have HBd:=ae (am wc (.cells #[.int .u8 1] 5));have hzd:=jdx wc (.cells #[.int .u8 1] 5);have jcE:=ae (bG TU.length (by omega));generalize hUV:uv TU.length=UV at *;clear hUV;go_wp2_with fail;refine(jcE.o _).mono ?_;rintro e wd ⟨⟨vd,rfl,od⟩,nt⟩;have HOd:=ae od;have HLe:=ae (HLd.o.kept nt);have HBde:=ae (HBd.o.trans (nt.mono (by omega)));have hze:=HBde.o.size;clear od nt;go_wp2_with (first | (at_builtin;refine ax rfl _ _ rfl wc.heap.size _ _ [1] UV rfl HLe.o rfl HOd.o.sv ?i1 ?i2 ?_))
           case i1=>simp;omega
           case i2=>omega
           intro vf wf of bf;have Ab:=ae of;have HBf:=ae (HBde.o.trans bf);have hzf:=HBf.o.size;have HTf:=ae (jR (HUc.o.kept HBf.o).sv uE HTQ.o);generalize hTX2:fC TU=TX2 at *;clear hTX2 of bf HLd HBd HOd HLe HBde;go_wp2_with fail;refine HTf.o.mono ?_;rintro e wg ⟨⟨vg,rfl,og⟩,hbg⟩;have HOg:=ae og;have HFg:=ae (Ab.o.kept hbg);have HBg:=ae (HBf.o.trans (hbg.mono hzf));have hzg:=HBg.o.size;have Yw:jfp ((1::UV).length+TX2.length<=140737488355328):=ae (by rw[jdD];omega);clear og hbg;go_wp2_with (first | (at_builtin;refine ax rfl _ _ rfl wc.heap.size _ _ (1::UV) TX2 rfl HFg.o rfl HOg.o.sv Yw.o hzg ?_))
           intro vh wh oh bh;have oh':aD wh wc.heap.size vh (1::(UV++TX2)):=oh;have HOH:=ae oh';clear oh';have HBh:=ae (HBg.o.trans bh);have hzh:=HBh.o.size;have HBEp:=ae (jv (HPc.o.kept HBh.o).sv HPI.o);rw[kg jcx]at HBEp;generalize hBP:cQ PT=BP at *;clear hBP oh bh;go_wp2_with fail;refine HBEp.o.mono ?_;rintro e wi ⟨⟨vi,rfl,oi⟩,hbi⟩;have HOi:=ae oi;have HHi:=ae (HOH.o.kept hbi);have HBi:=ae (HBh.o.trans (hbi.mono hzh));have hzi:=HBi.o.size;have HK1:jfp ((1::(UV++TX2)).length+BP.length<=140737488355328):=ae (by rw[jdD,jdy];omega);clear oi hbi;go_wp2_with (first | (at_builtin;refine ax rfl _ _ rfl wc.heap.size _ _ (1::(UV++TX2)) BP rfl HHi.o rfl HOi.o.sv HK1.o hzi ?_))
           intro vj wj oj bj;have oj':aD wj wc.heap.size vj LST:=by rw[rS.o];simpa using oj
           have HOJ:=ae oj';have HBj:=ae (HBi.o.trans bj);have hzj:=HBj.o.size;have HCj:=ae (Vt.o.kept HBj.o);have HVj:=ae (HVc.o.kept HBj.o);have HB9j:=ae (ln HB9c.o HBj.o);have VF:=HB9j.o.size;obtain⟨aj,cj,rfl⟩:=oj'.len;have hlst:LST.length<=40000:=by rw[rS.o];simp;omega
           have hpln:PLN.length<=40000:=by rw[rY.o];simp;omega
           have HL1a:jfp ((dK l).length+LST.length<=140737488355328):=ae (by omega);have HL1b:jfp ((dK l).length+PLN.length<=140737488355328):=ae (by omega);clear oj oj' bj;by_cases rW:LST.length<PLN.length
           ·have hless':(LST.length:Int)<(PLN.length:Int):=by omega
            rw[jdu rW]at YK;clear rW;go_wp2_with (first | (at_builtin;refine ax rfl _ _ rfl w.heap.size _ _ (dK l) LST rfl HVj.o rfl HOJ.o.sv HL1a.o VF ?_))
            intro vz wz oz bz;have yD:=ae oz;have yE:=ae (HB9j.o.trans bz);clear oz bz;go_wp2_with fail;go_ret2
            rw[xT.o,Ky.o,HT3'.o,YK.o];exact⟨⟨_,rfl,yD.o⟩,yE.o⟩
           ·have hless':¬ (LST.length:Int)<(PLN.length:Int):=by omega
            rw[jdt rW]at YK;clear rW;go_wp2_with (first | (at_builtin;refine ax rfl _ _ rfl w.heap.size _ _ (dK l) PLN rfl HVj.o rfl HCj.o.sv HL1b.o VF ?_))
            intro vz wz oz bz;have yD:=ae oz;have yE:=ae (HB9j.o.trans bz);clear oz bz;go_wp2_with fail;go_ret2
            rw[xT.o,Ky.o,HT3'.o,YK.o];exact⟨⟨_,rfl,yD.o⟩,yE.o⟩
    ·have h256':(l.length:Int) > 256:=by omega
     have HE:jfp (WC=([],5)):=ae (VA.o HA.o (fun h=>Fy h.1));clear Fy;go_wp2_with fail;go_ret2
     rw[HE.o];exact⟨⟨_,rfl,aD.nil _ _⟩,HB.o⟩
 ·have HE:jfp (dU k l=([],10)):=ae (ue (fun h=>LY ⟨h.1,h.2.1⟩))
  clear hs hf bw;by_cases ql:(k:Int)<1
  ·clear LY
   go_enter Tryz.func47,Tryz.ntmps47
   go_wp2_with fail;go_ret2
   rw[HE.o];exact⟨⟨_,rfl,aD.nil _ _⟩,jdv _ _⟩
  ·have hk4:(k:Int) > 3:=by omega
   clear LY;go_enter Tryz.func47,Tryz.ntmps47
   go_wp2_with fail;go_ret2
   rw[HE.o];exact⟨⟨_,rfl,aD.nil _ _⟩,jdv _ _⟩
end Go.Proofs.YtpljdjmpamjkhaaGreatDoor
