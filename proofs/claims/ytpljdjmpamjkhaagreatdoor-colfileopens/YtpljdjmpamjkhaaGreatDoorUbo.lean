import Derived.Test.YtpljdjmpamjkhaaGreatDoorUbn
set_option linter.unusedVariables false
set_option linter.unusedSimpArgs false
set_option maxRecDepth 100000
set_option maxHeartbeats 16000000
namespace Go.Proofs.YtpljdjmpamjkhaaGreatDoor
open Go.RowKit Go.Lib
theorem lj{B:Nat}{a w w2:World}(h:Below B a w)(h2:Below w.heap.size w w2)(hB:B<=w.heap.size:=by omega):Below B a w2:=h.trans (h2.mono hB)
theorem jS.keptB{W W':World}{B B':Nat}{a b c d:Value}{L1 L2:List Nat}{L3:List Int}{L4:List (List Nat)}(h:jS W B a b c d L1 L2 L3 L4)(hb:Below B' W W')(hl:∀(x:Value) k,x=a∨x=b∨x=c∨x=d->x.ownBlock=some k->k<B'):jS W' B a b c d L1 L2 L3 L4:=by
 have key:∀{e n:Nat} {v:Value} {xs:List Value},W.ownsRow B e 1 v n xs->(∀ k,v.ownBlock=some k->k<B')->W'.ownsRow B e 1 v n xs:=fun{e n v xs} h hv=>by
  obtain⟨h0,h | ⟨g,cap,cur,rfl,h2,h3,h4⟩⟩:=h
  ·exact⟨h0,Or.inl h⟩
  ·exact⟨h0,Or.inr ⟨g,cap,cur,rfl,h2,(hb.block g (hv g rfl)).trans h3,h4⟩⟩
 exact⟨key h.1 (fun k=>hl a k (by simp)),key h.2.1 (fun k=>hl b k (by simp)),key h.2.2.1 (fun k=>hl c k (by simp)),key h.2.2.2.1 (fun k=>hl d k (by simp)),h.2.2.2.2⟩
theorem ui(w:World)(v:Value)(t n:Nat)(h:w.heap.size=n):(w.alloc (.cells #[v] t)).cell? ⟨n,0,none⟩=some v:=by
 subst h;exact aL _ _ _
theorem BV{w:World}{v:Value}{l:List (Nat×Int×List Nat)}(hs:Sc w v l)(hf:∀ c∈l,zY c)(hl:l.length<=600)(k:Nat)(hk:k<256) :
  Calls Tryz.prog 47 #[.int .i64 (k:Int),v] w (tc (dS k l) w):=by
 have HS:=ae hs;have HF:=ae hf;obtain⟨a,cap,rfl,aY,bx⟩:=hs.form;have hcm':cap<=9223372036854775807:=by unfold maxLen at bx;omega
 by_cases LR:1<=k/\k<=3
 ·have qr:¬ (k:Int)<1:=by omega
  have kG:¬ (k:Int) > 3:=by omega
  have ZM:=ae (fun(c:Nat×Int×List Nat) (hc:c∈l) (h:c.1≠0/\c.1≠k)=>uh (k:=k) (l:=l) (fun h2=>by
   rcases h2.2.2 c hc with e | e
   ·exact h.1 e
   ·exact h.2 e))
  have Vk:=ae (fun(h:∀ c∈l,c.1=0∨c.1=k) (h2:¬ (l.length<=256/\∀ c∈l,c.2.2.length<=64))=>Fq (k:=k) (l:=l) ⟨LR.1,LR.2,h⟩ h2);have Al:=ae (fun(h:∀ c∈l,c.1=0∨c.1=k) (h1:l.length<=256) (h2:∀ c∈l,c.2.2.length<=64)=>(⟨LR,h1,fun c hc=>((hf c hc).fine (h2 c hc)).cellk (h c hc)⟩:Col k l));have HWC:=ae (fun h=>kl (k:=k) (l:=l) h);clear hs hf bx;generalize dS k l=WC at *;go_enter Tryz.func47,Tryz.ntmps47
  go_wp2_with fail;go_loopw [6] (fun i wr=>∃ j:Nat,j<=l.length/\i=.int .i64 (j:Int)/\(∀ c∈l.take j,c.1=0∨c.1=k)/\Below w.heap.size w wr) (fun i _=>l.length-(intOf i).toNat)
  case atStart=>exact⟨0,by omega,rfl,fun c hc=>by simp at hc,jdg _ _⟩
  case round =>
   obtain⟨j,hj,rfl,cW,az⟩:=hrel;have HA:=ae cW;have HB:=ae az;have bP:=az.size;clear cW az;by_cases aC:j<l.length
   ·obtain⟨g,off,rfl,hg,c0,c1,c2⟩:=(HS.o.kept HB.o).at aC
    have hlt':(j:Int)<(l.length:Int):=(by omega);have HM:=ae (jdl aC)
    have HT:jfb (∀ c,c∈l.take (j+1)->c∈l.take j∨c=l[j]):=ae (fun c hc=>by
     rw[jdx aC]at hc;rcases jdO.1 hc with h | h
     ·exact Or.inl h
     ·exact Or.inr (by simpa using h))
    have Kw:=(HF.o l[j] (jdl aC)).parts.1;rw[en]at c2;have Cx:jfb (∀ o,Below w.heap.size w (wr.alloc o)):=ae (fun o=>HB.o.alloc bP o);generalize l[j]=c at *;obtain⟨ck,cn,cs⟩:=c;simp only at *;by_cases h0:((ck:Int) != 0)=true
    ·by_cases h1:((ck:Int) != (k:Int))=true
     ·have HE:jfb (WC=([],10)):=ae (ZM.o _ HM.o (by
       have a1:(ck:Int)≠0:=by simpa using h0
       have a2:(ck:Int)≠(k:Int):=by simpa using h1
       exact⟨by simp only;omega,by simp only;omega⟩))
      go_wp2_with fail;go_ret2
      rw[HE.o];exact⟨⟨_,rfl,aD.nil _ _⟩,Cx.o _⟩
     ·have h1':((ck:Int) != (k:Int))=false:=by simpa using h1
      have nf:jfb (ck=k):=ae (by have:(ck:Int)=(k:Int):=(by simpa using h1);omega);clear h1;go_wp2_with fail;go_roundw
      case rel=>exact⟨j+1,by omega,by go_num,fun c hc=>(HT.o c hc).elim (HA.o c) (fun e=>by rw[e];exact Or.inr nf.o),Cx.o _⟩
      case measure=>simp[intOf];omega
    ·have h0':((ck:Int) != 0)=false:=by simpa using h0
     have nf:jfb (ck=0):=ae (by have:(ck:Int)=0:=(by simpa using h0);omega);clear h0;go_wp2_with fail;go_roundw
     case rel=>exact⟨j+1,by omega,by go_num,fun c hc=>(HT.o c hc).elim (HA.o c) (fun e=>by rw[e];exact Or.inl nf.o),Cx.o _⟩
     case measure=>simp[intOf];omega
   ·obtain rfl:j=l.length:=by omega
    rw[jdp]at HA;have gL:¬ ((l.length:Nat):Int)<(l.length:Int):=(by omega);by_cases Fw:l.length<=256
    ·have h256':¬ (l.length:Int) > 256:=by omega
     generalize wr=W1 at *;go_wp2_with fail;go_loopw [8,9,10,11,12,13] (fun q1 q2 q3 q4 nu i wr=>∃ j:Nat,j<=l.length/\i=.int .i64 (j:Int)/\nu=.bool (decide (0∈bK (l.take j)))/\(∀ c∈l.take j,c.2.2.length<=64)/\jS wr w.heap.size q1 q2 q3 q4 (bK (l.take j)) (tr4 (l.take j)) (wh4 (l.take j)) (wd4 (l.take j))/\Below w.heap.size w wr) (fun _ _ _ _ _ i _=>l.length-(intOf i).toNat)
     case atStart=>exact⟨0,by omega,rfl,rfl,fun c hc=>by simp at hc,jS.nil _ _,HB.o⟩
     case round =>
      obtain⟨j,hj,rfl,rfl,Zz,ZN,az⟩:=hrel;have HSH:=ae Zz;have PZ:=ae ZN;have aO:=ae az;have bn:=az.size;clear Zz ZN az;by_cases aC:j<l.length
      ·obtain⟨g,off,rfl,hg,c0,c1,c2⟩:=(HS.o.kept aO.o).at aC
       have hlt':(j:Int)<(l.length:Int):=(by omega);have HM:=ae (jdl aC)
       have HT:jfb (∀ c,c∈l.take (j+1)->c∈l.take j∨c=l[j]):=ae (fun c hc=>by
        rw[jdx aC]at hc;rcases jdO.1 hc with h | h
        ·exact Or.inl h
        ·exact Or.inr (by simpa using h))
       have PC:=ae (HF.o l[j] (jdl aC));have Kw:=PC.o.parts.1;rw[en]at c2;have HN4:=ae (fun h0=>Pd aC h0);have uM:=ae (fun h0=>Pe aC h0);have hln:=TW l j;obtain⟨hln1,hln2,hln3,hln4⟩:=hln;have Cx:jfb (∀ o,Below w.heap.size w (wr.alloc o)):=ae (fun o=>aO.o.alloc bn o);have jx:(am l[j].2.2).size=l[j].2.2.length:=bm _;have rS:=ae jx;clear jx;generalize l[j]=c at *;obtain⟨ck,cn,cs⟩:=c;simp only at *;by_cases kJ:cs.length<=64
       ·have h64':¬ ((am cs).size:Int) > 64:=by rw[rS.o];omega
        have HSH':jfb (∀ c∈l.take (j+1),c.2.2.length<=64):=ae (fun c hc=>(HT.o c hc).elim (HSH.o c) (fun e=>by rw[e];exact kJ));clear kJ;by_cases h0:ck=0
        ·obtain⟨e1,e2,e3,e4⟩:=HN4.o h0
         have Qt:=ae (And.intro e1 (And.intro e2 (And.intro e3 e4)));have HDT:jfb (decide (0∈bK (l.take (j+1)))=true):=ae (jdy (by rw[e1];simp));clear e1 e2 e3 e4 uM HN4;subst h0;have Cr:=ae (PZ.o.kept (ak wr (.cells #[.int .u8 0,.int .i64 cn,.string (am cs)] 52)));have hzA:=jdi wr (.cells #[.int .u8 0,.int .i64 cn,.string (am cs)] 52);generalize bK (l.take j)=L1 at *;generalize tr4 (l.take j)=L2 at *;generalize wh4 (l.take j)=L3 at *;generalize wd4 (l.take j)=L4 at *;generalize decide (0∈L1)=nul0 at *;go_wp2_with (first | (at_builtin;refine jb rfl _ _ rfl w.heap.size _ _ 0 L1 rfl (Cr.o.1.kept (ak _ _)) rfl (ui _ _ _ _ hzA) (by omega) ?c2 ?_))
         case c2=>first | omega | (rw[jdi];omega)
         intro v5 w5 o5 g5 n5;have xU:=ae ((Cr.o.kept (ak _ _)).g1 o5 g5 (by simpa [jdi]using n5));have aS:=ae (((Cx.o (.cells #[.int .u8 0,.int .i64 cn,.string (am cs)] 52)).alloc (by omega) _).grown g5 (by rw[jdi];omega) (fun k hk=>(Cr.o.1.lt k hk).1));clear o5 g5 n5;go_wp2_with fail;go_roundw
         case rel=>exact⟨j+1,by omega,by go_num,by rw[HDT.o],HSH'.o,by rw[Qt.o.1,Qt.o.2.1,Qt.o.2.2.1,Qt.o.2.2.2];exact xU.o,aS.o⟩
         case measure=>simp[intOf];omega
        ·skip
         have hne0:((ck:Int)==0)=false:=jdt.2 (by omega);obtain⟨e1,e2,e3,e4⟩:=uM.o h0;have Qt:=ae (And.intro e1 (And.intro e2 (And.intro e3 e4)));have HDT:jfb (decide (0∈bK (l.take (j+1)))=decide (0∈bK (l.take j))):=ae (by rw[e1];simp);clear e1 e2 e3 e4 uM HN4 h0;have Cr:=ae (PZ.o.kept (ak wr (.cells #[.int .u8 (ck:Int),.int .i64 cn,.string (am cs)] 52)));have hzA:=jdi wr (.cells #[.int .u8 (ck:Int),.int .i64 cn,.string (am cs)] 52);have HCB0:jfb ((wr.alloc (.cells #[.int .u8 (ck:Int),.int .i64 cn,.string (am cs)] 52)).heap[wr.heap.size]?=some (.cells #[.int .u8 (ck:Int),.int .i64 cn,.string (am cs)] 52 (0,0))):=ae (jdH _ _)
         have jcb:jfb (∀ x:Value,x=u8∨x=u9∨x=u10∨x=u11->some wr.heap.size≠x.ownBlock):=ae (fun x hx e=>by
          rcases hx with rfl | rfl | rfl | rfl
          ·have:=(PZ.o.1.lt _ e.symm).2;omega
          ·have:=(PZ.o.2.1.lt _ e.symm).2;omega
          ·have:=(PZ.o.2.2.1.lt _ e.symm).2;omega
          ·have:=(PZ.o.2.2.2.1.lt _ e.symm).2;omega)
         generalize decide (0∈bK (l.take j))=nul0 at *;generalize bK (l.take j)=L1 at *;generalize tr4 (l.take j)=L2 at *;generalize wh4 (l.take j)=L3 at *;generalize wd4 (l.take j)=L4 at *;have hconv:IntKind.u64.wrap cn=(xD cn:Int):=JV cn;generalize hU:xD cn=U at *;clear hU;go_wp2_with (first | (at_builtin;refine jb rfl _ _ rfl w.heap.size _ _ 1 L1 rfl (Cr.o.1.kept (ak _ _)) rfl (ui _ _ _ _ hzA) (by omega) ?c2 ?_))
         case c2=>first | omega | (rw[jdi];omega)
         intro v5 w5 o5 g5 n5;have xU:=ae ((Cr.o.kept (ak _ _)).g1 o5 g5 (by simpa [jdi]using n5));have br:Below w.heap.size w w5:=((Cx.o (.cells #[.int .u8 (ck:Int),.int .i64 cn,.string (am cs)] 52)).alloc (by omega) _).grown g5 (by rw[jdi];omega) (fun k hk=>(Cr.o.1.lt k hk).1);have vk:=g5.size;rw[jdi,hzA]at vk;have hC5:w5.heap[wr.heap.size]?=some (.cells #[.int .u8 (ck:Int),.int .i64 cn,.string (am cs)] 52 (0,0)):=(g5.block _ (by rw[jdi];omega) (jcb.o _ (by simp))).trans (((ak _ _).block _ (by omega)).trans HCB0.o);have hc51:w5.cell? ⟨wr.heap.size,1,none⟩=some (.int .i64 cn):=by rw[ay hC5];rfl
         have aS:=ae br;have HC5:=ae hC5;have hzz5:=br.size;clear o5 g5 n5 br hC5 c0 c1 c2;go_wp2_with (first | (at_builtin;refine mj rfl _ _ rfl w.heap.size _ _ cn L3 rfl (xU.o.2.2.1.kept (ak _ _)) rfl (aL _ _ _) (by omega) ?c3 ?_))
         case c3=>first | omega | (rw[jdi];omega)
         intro v6 w6 o6 g6;have Gb:=ae ((xU.o.kept (ak _ _)).g3 o6 g6);have dP:Below w.heap.size w w6:=(aS.o.alloc hzz5 _).grown g6 (by rw[jdi];omega) (fun k hk=>(PZ.o.2.2.1.lt k hk).1);have FB:=g6.size;rw[jdi]at FB;have hC6:w6.heap[wr.heap.size]?=some (.cells #[.int .u8 (ck:Int),.int .i64 cn,.string (am cs)] 52 (0,0)):=(g6.block _ (by rw[jdi];omega) (jcb.o _ (by simp))).trans (((ak _ _).block _ (by omega)).trans HC5.o);have hc61:w6.cell? ⟨wr.heap.size,1,none⟩=some (.int .i64 cn):=by rw[ay hC6];rfl
         have jc:=ae dP;have HC6:=ae hC6;have hzz6:=dP.size;clear o6 g6 dP hC6 hc51;go_wp2_with (first | (at_builtin;refine jb rfl _ _ rfl w.heap.size _ _ U L2 rfl (Gb.o.2.1.kept (ak _ _)) rfl (aL _ _ _) (by omega) ?c4 ?_))
         case c4=>first | omega | (rw[jdi];omega)
         intro v7 w7 o7 g7 n7;have YZ:=ae ((Gb.o.kept (ak _ _)).g2 o7 g7 (by simpa [jdi]using n7));have jk:Below w.heap.size w w7:=(jc.o.alloc hzz6 _).grown g7 (by rw[jdi];omega) (fun k hk=>(PZ.o.2.1.lt k hk).1);have hz7:=g7.size;rw[jdi]at hz7;have hC7:w7.heap[wr.heap.size]?=some (.cells #[.int .u8 (ck:Int),.int .i64 cn,.string (am cs)] 52 (0,0)):=(g7.block _ (by rw[jdi];omega) (jcb.o _ (by simp))).trans (((ak _ _).block _ (by omega)).trans HC6.o);have hc72:w7.cell? ⟨wr.heap.size,2,none⟩=some (.string (am cs)):=by rw[ay hC7];rfl
         have ic:=ae jk;have hzz7:=jk.size;clear o7 g7 n7 jk hC7 hc61;go_wp2_with (first | (at_builtin;refine rO rfl _ _ rfl w.heap.size _ _ cs L4 rfl (YZ.o.2.2.2.1.kept (ak _ _)) rfl (aL _ _ _) (by omega) ?c5 ?_))
         case c5=>first | omega | (rw[jdi];omega)
         intro v8 w8 o8 g8;have HF8:=ae ((YZ.o.kept (ak _ _)).g4 o8 g8);have qo:=ae ((ic.o.alloc hzz7 _).grown g8 (by rw[jdi];omega) (fun k hk=>(PZ.o.2.2.2.1.lt k hk).1));clear o8 g8;go_wp2_with fail;go_roundw
         case rel=>exact⟨j+1,by omega,by go_num,by rw[HDT.o],HSH'.o,by rw[Qt.o.1,Qt.o.2.1,Qt.o.2.2.1,Qt.o.2.2.2];exact HF8.o,qo.o⟩
         case measure=>simp[intOf];omega
       ·have h64':((am cs).size:Int) > 64:=by rw[rS.o];omega
        have HE:jfb (WC=([],5)):=ae (Vk.o HA.o (fun h=>kJ (h.2 _ HM.o)));clear kJ;go_wp2_with fail;go_ret2
        rw[HE.o];exact⟨⟨_,rfl,aD.nil _ _⟩,Cx.o _⟩
      ·skip
       obtain rfl:j=l.length:=by omega
       rw[jdp]at HSH PZ;rw[jdp];have hge2:¬ ((l.length:Nat):Int)<(l.length:Int):=(by omega);have dV:=Al.o HA.o Fw HSH.o;have xY:=ae (HWC.o dV);have hhd:=(sH (l:=l) Fw).1;have hol:=gU l;have HHN:=ae (El (l:=l));have HHY:=ae (zM (l:=l));have HTT:=ae (dW l);have kK:=ju (dW l) (by rw[bi];exact Fw);have Kx:jfb (eo k l=dF l++gl k l):=rfl;have UQ:=ae (wn l);have Ao:=ae (wo l);have LW:=ae (ws l);have VD:=ae dV.2.2;have FV:=dV.1;clear Al HWC dV ZM Vk;by_cases h0:0∈bK l
       ·rw[jdy h0]
        have HHB:=ae (HHY.o h0);clear h0 HHN HHY;have Ko:=ae (PZ.o.kept (ak wr (.cells #[.int .u8 0] 5)));have hzA:=jdi wr (.cells #[.int .u8 0] 5);have VS:=ae (Ko.o.kept (ak _ (.cells #[.int .u8 1] 5)));have hzB:=jdi (wr.alloc (.cells #[.int .u8 0] 5)) (.cells #[.int .u8 1] 5);have ge:=ae ((aO.o.alloc bn (.cells #[.int .u8 0] 5)).alloc (by omega) (.cells #[.int .u8 1] 5));have FX:=ae (cF (wr.alloc (.cells #[.int .u8 0] 5)) 1);rw[hzA]at FX;have HFLG:=ae (tn VS.o.1.sv (fun x hx=>by have:=HTT.o x hx;omega));generalize hPK:bg (bK l) 1=PK at *;clear hPK;go_wp2_with fail;refine HFLG.o.mono ?_;rintro e w1 ⟨⟨v1,rfl,o1⟩,aH⟩;have fC:=ae o1;have YX:=ae (FX.o.kept aH);have Ch:=ae (VS.o.kept aH);have cY:=aH.size;have aR:=ae (ge.o.trans (aH.mono (by omega)));clear o1 aH;go_wp2_with (first | (at_builtin;refine ax rfl _ _ rfl (wr.heap.size+1) _ _ [1] PK rfl YX.o rfl fC.o.sv ?a1 ?a2 ?_))
        case a1=>simp;omega
        case a2=>omega
        intro vb wx ob bb;have xW:jfb (aD wx w.heap.size vb (dF l)):=ae (by rw[HHB.o];exact ob.low (by omega))
        have VT:jfb (jS wx w.heap.size _ _ _ _ (bK l) (tr4 l) (wh4 l) (wd4 l)):=ae (by
         have hq:=PZ.o
         have iz:∀ x:Value,(∃ k,x.ownBlock=some k/\¬ k<wr.heap.size+1)->x=u8∨x=u9∨x=u10∨x=u11->False:=fun x ⟨k,hk,hn⟩ hx=>by
          rcases hx with rfl | rfl | rfl | rfl
          ·have:=(hq.1.lt _ hk).2;omega
          ·have:=(hq.2.1.lt _ hk).2;omega
          ·have:=(hq.2.2.1.lt _ hk).2;omega
          ·have:=(hq.2.2.2.1.lt _ hk).2;omega
         exact jS.keptB Ch.o bb (fun x k hx hk=>by
          rcases jdJ k (wr.heap.size+1)with h | h
          ·exact h
          ·exact(iz x ⟨k,hk,by omega⟩ hx).elim))
        have ml:=ae (aR.o.trans (bb.mono (by omega)));have XX:=ml.o.size;clear ob bb Ko VS Ch ge aR YX fC FX HFLG;obtain rfl | rfl | rfl:k=1∨k=2∨k=3:=by omega
        ·have jl:=iU VD.o
         have fO:=gz jl.1 (by rw[jdk];omega);have xL:=ae (jw VT.o.2.2.1.sv jl.1);have Cs:(wh4 l).length<=256:=by unfold wh4;rw[jdk];omega
         rw[kb Cs]at xL;have HT1':jfb (gl 1 l=cP (wh4 l)):=ae UQ.o;have hbl':(cP (wh4 l)).length<=5131:=fO;clear jl fO;generalize cP (wh4 l)=BS at *;go_wp2_with fail;refine xL.o.mono ?_;rintro e wy ⟨⟨vy,rfl,oy⟩,FK⟩;have HVY:=ae (xW.o.kept FK);have HOY:=ae oy;have Cy:=ae (ml.o.trans (FK.mono XX));have hzy:=Cy.o.size;clear oy FK;go_wp2_with (first | (at_builtin;refine ax rfl _ _ rfl w.heap.size _ _ (dF l) BS rfl HVY.o rfl HOY.o.sv ?b1 ?b2 ?_))
         case b1=>omega
         case b2=>omega
         intro vz wz oz bz;have yF:=ae oz;have yG:=ae (Cy.o.trans bz);clear oz bz;go_wp2_with fail;go_ret2
         rw[xY.o,Kx.o,HT1'.o];exact⟨⟨_,rfl,yF.o⟩,yG.o⟩
        ·have jl:=fH VD.o
         have fO:=ju jl.1 (by rw[jdk];omega);have Vl:=Lw VD.o
         have xL:=ae (tn VT.o.2.1.sv (fun x hx=>by
          rw[Vl]at hx;have:=jl.1 x hx;omega))
         rw[Vl]at xL;clear jl Vl;have HT2':=ae Ao.o;generalize bg ((bT l).map fun c=>c.2.1.toNat) 1=BS at *;go_wp2_with fail;refine xL.o.mono ?_;rintro e wy ⟨⟨vy,rfl,oy⟩,FK⟩;have HVY:=ae (xW.o.kept FK);have HOY:=ae oy;have Cy:=ae (ml.o.trans (FK.mono XX));have hzy:=Cy.o.size;clear oy FK;go_wp2_with (first | (at_builtin;refine ax rfl _ _ rfl w.heap.size _ _ (dF l) BS rfl HVY.o rfl HOY.o.sv ?b1 ?b2 ?_))
         case b1=>omega
         case b2=>omega
         intro vz wz oz bz;have yF:=ae oz;have yG:=ae (Cy.o.trans bz);clear oz bz;go_wp2_with fail;go_ret2
         rw[xY.o,Kx.o,HT2'.o];exact⟨⟨_,rfl,yF.o⟩,yG.o⟩
        ·have jl:=gG VD.o
         have hwz:=mz jl.1 (by rw[jdk];omega);have rQ:=ae jl.1;have Cs:(wd4 l).length<=256:=by unfold wd4;rw[jdk];omega
         have HT3':jfb (gl 3 l=eL (wd4 l)):=ae LW.o;have Yt:jfb (eL (wd4 l)=if (dj (wd4 l)).length<(plain (wd4 l)).length then dj (wd4 l) else plain (wd4 l)):=rfl;have tA:jfb (Ts (wd4 l)):=ae jl.1;clear jl LW UQ Ao rQ hwz;have VI:=VT.o.2.2.2.1;have Yr:=ae VI;clear VI;generalize hWW:wd4 l=WW at *;clear hWW;have uK:(tuq WW).length<=256:=by have:=fG WW;omega
         have rZ:jfb (plain WW=[0]++fA WW):=rfl;have rR:jfb (dj WW=[1]++uv (tuq WW).length++fA (tuq WW)++cP (cK WW)):=ae (by unfold dj;simp);have htx1:=nO tA.o Cs;have Yu:=nO (lr tA.o) uK;have VF:=gz (eb Cs) (by rw[bV];exact Cs);have nk:=bJ (n:=(tuq WW).length) (by omega);have PD:=ae (ug Yr.o.sv Cs (fun s hs=>(tA.o s hs).2));go_wp2_with fail;refine PD.o.mono ?_;rintro e wu ⟨⟨vu,rfl,ou⟩,Uu⟩;have HVU:=ae (xW.o.kept Uu);have HWU:=ae (Yr.o.kept Uu);have HOU:=ae ou;have HBU:=ae (ml.o.trans (Uu.mono XX));have hzu:=HBU.o.size;have HPG:=ae (fun(x:List Nat) (hx:x∈WW)=>kS (jh.2 hx));obtain⟨au,cu,rfl,XW,Vm⟩:=aN ou;obtain⟨aw,cw,hvw,FQ,Vn⟩:=aN HWU.o;subst hvw;have hcum':cu<=9223372036854775807:=by unfold maxLen at Vm;omega
         have hcwm':cw<=9223372036854775807:=by unfold maxLen at Vn;omega
         have Vo:jfb (∀ s∈WW,Bs s):=ae (fun s hs=>(tA.o s hs).2);have jcf:jfb (∀ s∈tuq WW,Bs s):=ae (fun s hs=>Vo.o s (jh.1 hs));clear ou Uu Vm Vn;have HPT:jfb (cK WW=WW.map fun s=>(plT (tuq WW) s:Int)):=rfl;have HTQ:=ae (lr tA.o);have HPI:=ae (eb Cs);have jcg:(cK WW).length<=256:=by rw[bV];exact Cs
         generalize cK WW=PT at *;generalize hTU:tuq WW=TU at *;clear hTU;go_wp2_with fail;go_loopw [19,20] (fun o i wq=>∃ j:Nat,j<=WW.length/\i=.int .i64 (j:Int)/\bv wq wu.heap.size o ((WW.take j).map fun s=>(plT TU s:Int))/\Below wu.heap.size wu wq) (fun _ i _=>WW.length-(intOf i).toNat)
         case atStart=>exact⟨0,by omega,rfl,bv.nil _ _,jdg _ _⟩
         case round =>
          obtain⟨j,hj,rfl,aA,az⟩:=hrel;have HO:=ae aA;have oX:=ae az;have yD:=az.size;clear aA az;by_cases aC:j<WW.length
          ·have hlt':(j:Int)<(WW.length:Int):=by omega
           obtain⟨gw,offw,jch,hgw,KI⟩:=HWU.o.sv.at1 (cL aC);subst jch;rw[en]at KI;have HCW:=ae KI;obtain⟨hp1,PQ⟩:=HPG.o WW[j] (jdl aC);have Fv:=ae PQ
           have nh:jfb ((WW.take (j+1)).map (fun s=>(plT TU s:Int))=(WW.take j).map (fun s=>(plT TU s:Int))++[(plT TU WW[j]:Int)]):=ae (by
            rw[jdx aC,jdC];rfl)
           have hlen':((WW.take j).map fun s=>(plT TU s:Int)).length<=100000:=by rw[jdk,jdo];omega
           have HPN:=ae (fun(q:Nat) (h:q<TU.length) (hq:q<plT TU WW[j])=>JW h hq);have jci:=ae (Vo.o WW[j] (jdl aC));clear KI PQ;generalize WW[j]=x at *;generalize ((WW.take j).map fun s=>(plT TU s:Int))=LL at *;generalize hpz:plT TU x=pz at *;clear hpz;generalize wr=WR9 at *;go_wp2_with fail;go_loopw [21] (fun i wq2=>∃ q:Nat,q<=pz/\i=.int .i64 (q:Int)/\Below WR9.heap.size WR9 wq2) (fun i _=>pz-(intOf i).toNat)
           case atStart=>exact⟨0,by omega,rfl,jdg _ _⟩
           case round =>
            obtain⟨q,hq,rfl,oe⟩:=hrel;have pD:=ae oe;have XN:=oe.size;clear oe;have Yv:q<TU.length:=(by omega);have hqu':(q:Int)<(TU.length:Int):=(by omega);obtain⟨gu,offu,jcj,hgu,KJ⟩:=HOU.o.sv.at1 (cL Yv);cases jcj
            rw[en]at KJ;have UJ:=(pD.o.cell (p:=⟨gu,offu+q,none⟩) (jdD hgu yD)).trans ((oX.o.cell (p:=⟨gu,offu+q,none⟩) hgu).trans KJ);have hcw1:=(pD.o.cell (p:=⟨gw,offw+j,none⟩) (jdD hgw yD)).trans ((oX.o.cell (p:=⟨gw,offw+j,none⟩) hgw).trans HCW.o);have jck:=ae (jcf.o TU[q] (jdl Yv));have jcl:=ae (HPN.o q Yv)
            have jcm:jfb (q=pz->TU[q]=x):=ae (fun e=>by
             have:=Fv.o;subst e;rw[List.getElem?_eq_getElem Yv]at this;exact Option.some.inj this)
            have eY:jfb (∀ n z,Below wu.heap.size wu ((wr.drewN n).alloc (.cells #[.int .i64 z] 2))):=ae (fun n z=>(ar (oX.o.trans (pD.o.mono yD)) n).alloc (by show wu.heap.size<=wr.heap.size;omega) _);have Ks:jfb (∀ n z,wu.heap.size<=((wr.drewN n).alloc (.cells #[.int .i64 z] 2)).heap.size):=ae (fun n z=>by rw[jdi];show wu.heap.size<=wr.heap.size+1;omega);have nm:jfb (∀ n z,bv ((wr.drewN n).alloc (.cells #[.int .i64 z] 2)) wu.heap.size _ LL):=ae (fun n z=>((HO.o.kept pD.o).kept (ar (jdg _ _) n)).kept (ak _ _));clear KJ;generalize TU[q]=y at *;by_cases Yw:q=pz
            ·have Kt:=jcm.o Yw
             subst Kt;have HQZ:=ae Yw;clear Yw;go_wp2_with fail;go_quiet (fail)
             go_wp2_with (first | (at_builtin;refine aX rfl _ _ rfl wu.heap.size _ _ (q:Int) LL rfl (nm.o _ (q:Int)) rfl (aL _ _ _) hlen' ?f3 ?_))
             case f3=>first | omega | exact Ks.o _ _
             intro v7 w7 o7 b7;rw[HQZ.o]at o7;have iy:=ae o7;have ic:=ae ((eY.o _ (q:Int)).trans b7);clear o7 b7;go_wp2_with fail;go_roundw
             case rel=>exact⟨j+1,by omega,by go_num,by rw[nh.o];exact iy.o,ic.o⟩
             case measure=>simp[intOf];omega
            ·have fQ:=jcl.o (by omega)
             have Kt:((am y).toList==(am x).toList)=false:=by
              rw[bC,bC];exact jdt.2 (fun e=>fQ (by rw[← fo jck.o,← fo jci.o,e]))
             have uS:=ae (ar pD.o);have nc:q+1<=pz:=(by omega);clear fQ Yw;go_wp2_with fail;go_quiet (fail)
             go_wp2_with fail;go_roundw
             case rel=>exact⟨q+1,nc,by go_num,uS.o _⟩
             case measure=>simp[intOf];omega
          ·obtain rfl:j=WW.length:=by omega
           rw[jdp,← HPT.o]at HO;have hge3:¬ ((WW.length:Nat):Int)<(WW.length:Int):=(by omega);have HV9:=ae (HVU.o.kept oX.o);have HW9:=ae (HWU.o.kept oX.o);have HU9:=ae (HOU.o.kept oX.o);have pD:=ae (HBU.o.trans (oX.o.mono hzu));generalize wr=WR9 at *;have HLa:=ae (cF WR9 0);have HBa:=ae (ak WR9 (.cells #[.int .u8 0] 5));have hza:=jdi WR9 (.cells #[.int .u8 0] 5);have HTa:=ae (jR (HW9.o.kept HBa.o).sv Cs tA.o);generalize plain WW=PLN at *;generalize dj WW=LST at *;generalize hTX1:fA WW=TX1 at *;clear hTX1;go_wp2_with fail;refine HTa.o.mono ?_;rintro e wa ⟨⟨va,rfl,oa⟩,An⟩;have HOa:=ae oa;have HLb:=ae (HLa.o.kept An);have HBab:=ae (HBa.o.trans (An.mono (by omega)));have hzb:=HBab.o.size;clear oa An;go_wp2_with (first | (at_builtin;refine ax rfl _ _ rfl WR9.heap.size _ _ [0] TX1 rfl HLb.o rfl HOa.o.sv ?g1 ?g2 ?_))
           case g1=>simp;omega
           case g2=>omega
           intro vc wc oc bc;have oc':aD wc WR9.heap.size vc PLN:=by rw[rZ.o];exact oc
           have Ym:=ae oc';have HBc:=ae (HBab.o.trans bc);have HVc:=ae (HV9.o.kept HBc.o);have HUc:=ae (HU9.o.kept HBc.o);have HPc:=ae (HO.o.kept HBc.o);have HB9c:=ae (lj pD.o HBc.o);obtain⟨ac,cc,rfl⟩:=oc'.len;have hzc:=HBc.o.size;clear oc oc' bc HLa HBa HTa HOa HLb HBab;have HLd:=ae (cF wc 1);have HBd:=ae (ak wc (.cells #[.int .u8 1] 5));have hzd:=jdi wc (.cells #[.int .u8 1] 5);have jcn:=ae (bD TU.length (by omega));generalize hUV:uv TU.length=UV at *;clear hUV;go_wp2_with fail;refine(jcn.o _).mono ?_;rintro e wd ⟨⟨vd,rfl,od⟩,nl⟩;have HOd:=ae od;have HLe:=ae (HLd.o.kept nl);have HBde:=ae (HBd.o.trans (nl.mono (by omega)));have hze:=HBde.o.size;clear od nl;go_wp2_with (first | (at_builtin;refine ax rfl _ _ rfl wc.heap.size _ _ [1] UV rfl HLe.o rfl HOd.o.sv ?i1 ?i2 ?_))
           case i1=>simp;omega
           case i2=>omega
           intro vf wf of bf;have xI:=ae of;have HBf:=ae (HBde.o.trans bf);have hzf:=HBf.o.size;have HTf:=ae (jR (HUc.o.kept HBf.o).sv uK HTQ.o);generalize hTX2:fA TU=TX2 at *;clear hTX2 of bf HLd HBd HOd HLe HBde;go_wp2_with fail;refine HTf.o.mono ?_;rintro e wg ⟨⟨vg,rfl,og⟩,hbg⟩;have HOg:=ae og;have HFg:=ae (xI.o.kept hbg);have HBg:=ae (HBf.o.trans (hbg.mono hzf));have hzg:=HBg.o.size;have Yd:jfb ((1::UV).length+TX2.length<=140737488355328):=ae (by rw[jdn];omega);clear og hbg;go_wp2_with (first | (at_builtin;refine ax rfl _ _ rfl wc.heap.size _ _ (1::UV) TX2 rfl HFg.o rfl HOg.o.sv Yd.o hzg ?_))
           intro vh wh oh bh;have oh':aD wh wc.heap.size vh (1::(UV++TX2)):=oh;have HOH:=ae oh';clear oh';have HBh:=ae (HBg.o.trans bh);have hzh:=HBh.o.size;have HBEp:=ae (jw (HPc.o.kept HBh.o).sv HPI.o);rw[kb jcg]at HBEp;generalize hBP:cP PT=BP at *;clear hBP oh bh;go_wp2_with fail;refine HBEp.o.mono ?_;rintro e wi ⟨⟨vi,rfl,oi⟩,hbi⟩;have HOi:=ae oi;have HHi:=ae (HOH.o.kept hbi);have HBi:=ae (HBh.o.trans (hbi.mono hzh));have hzi:=HBi.o.size;have HK1:jfb ((1::(UV++TX2)).length+BP.length<=140737488355328):=ae (by rw[jdn,jdj];omega);clear oi hbi;go_wp2_with (first | (at_builtin;refine ax rfl _ _ rfl wc.heap.size _ _ (1::(UV++TX2)) BP rfl HHi.o rfl HOi.o.sv HK1.o hzi ?_))
           intro vj wj oj bj;have oj':aD wj wc.heap.size vj LST:=by rw[rR.o];simpa using oj
           have HOJ:=ae oj';have HBj:=ae (HBi.o.trans bj);have hzj:=HBj.o.size;have HCj:=ae (Ym.o.kept HBj.o);have HVj:=ae (HVc.o.kept HBj.o);have HB9j:=ae (lj HB9c.o HBj.o);have Vp:=HB9j.o.size;obtain⟨aj,cj,rfl⟩:=oj'.len;have hlst:LST.length<=40000:=by rw[rR.o];simp;omega
           have hpln:PLN.length<=40000:=by rw[rZ.o];simp;omega
           have HL1a:jfb ((dF l).length+LST.length<=140737488355328):=ae (by omega);have HL1b:jfb ((dF l).length+PLN.length<=140737488355328):=ae (by omega);clear oj oj' bj;by_cases rW:LST.length<PLN.length
           ·have hless':(LST.length:Int)<(PLN.length:Int):=by omega
            rw[jdf rW]at Yt;clear rW;go_wp2_with (first | (at_builtin;refine ax rfl _ _ rfl w.heap.size _ _ (dF l) LST rfl HVj.o rfl HOJ.o.sv HL1a.o Vp ?_))
            intro vz wz oz bz;have yF:=ae oz;have yG:=ae (HB9j.o.trans bz);clear oz bz;go_wp2_with fail;go_ret2
            rw[xY.o,Kx.o,HT3'.o,Yt.o];exact⟨⟨_,rfl,yF.o⟩,yG.o⟩
           ·have hless':¬ (LST.length:Int)<(PLN.length:Int):=by omega
            rw[jde rW]at Yt;clear rW;go_wp2_with (first | (at_builtin;refine ax rfl _ _ rfl w.heap.size _ _ (dF l) PLN rfl HVj.o rfl HCj.o.sv HL1b.o Vp ?_))
            intro vz wz oz bz;have yF:=ae oz;have yG:=ae (HB9j.o.trans bz);clear oz bz;go_wp2_with fail;go_ret2
            rw[xY.o,Kx.o,HT3'.o,Yt.o];exact⟨⟨_,rfl,yF.o⟩,yG.o⟩
       ·rw[jds h0]
        have HHB:=ae (HHN.o h0);clear h0 HHN HHY;have VT:=ae (PZ.o.kept (ak wr (.cells #[.int .u8 0] 5)));have hzA:=jdi wr (.cells #[.int .u8 0] 5);have xW:jfb (aD (wr.alloc (.cells #[.int .u8 0] 5)) w.heap.size (.slice (some ⟨wr.heap.size,0,none⟩) 1 1) (dF l)):=ae (by rw[HHB.o];exact(cF wr 0).low bn);have ml:=ae (aO.o.alloc bn (.cells #[.int .u8 0] 5));have XX:=ml.o.size;obtain⟨wx,hwx⟩:∃ wx,wr.alloc (.cells #[.int .u8 0] 5)=wx:=⟨_,rfl⟩;rw[hwx]at VT xW ml XX;have HWX:=ae hwx;clear hwx;obtain rfl | rfl | rfl:k=1∨k=2∨k=3:=by omega
        ·have jl:=iU VD.o
         have fO:=gz jl.1 (by rw[jdk];omega);have xL:=ae (jw VT.o.2.2.1.sv jl.1);have Cs:(wh4 l).length<=256:=by unfold wh4;rw[jdk];omega
         rw[kb Cs]at xL;have HT1':jfb (gl 1 l=cP (wh4 l)):=ae UQ.o;have hbl':(cP (wh4 l)).length<=5131:=fO;clear jl fO;generalize cP (wh4 l)=BS at *;go_wp2_with fail;rw[HWX.o];refine xL.o.mono ?_;rintro e wy ⟨⟨vy,rfl,oy⟩,FK⟩;have HVY:=ae (xW.o.kept FK);have HOY:=ae oy;have Cy:=ae (ml.o.trans (FK.mono XX));have hzy:=Cy.o.size;clear oy FK;go_wp2_with (first | (at_builtin;refine ax rfl _ _ rfl w.heap.size _ _ (dF l) BS rfl HVY.o rfl HOY.o.sv ?b1 ?b2 ?_))
         case b1=>omega
         case b2=>omega
         intro vz wz oz bz;have yF:=ae oz;have yG:=ae (Cy.o.trans bz);clear oz bz;go_wp2_with fail;go_ret2
         rw[xY.o,Kx.o,HT1'.o];exact⟨⟨_,rfl,yF.o⟩,yG.o⟩
        ·have jl:=fH VD.o
         have fO:=ju jl.1 (by rw[jdk];omega);have Vl:=Lw VD.o
         have xL:=ae (tn VT.o.2.1.sv (fun x hx=>by
          rw[Vl]at hx;have:=jl.1 x hx;omega))
         rw[Vl]at xL;clear jl Vl;have HT2':=ae Ao.o;generalize bg ((bT l).map fun c=>c.2.1.toNat) 1=BS at *;go_wp2_with fail;rw[HWX.o];refine xL.o.mono ?_;rintro e wy ⟨⟨vy,rfl,oy⟩,FK⟩;have HVY:=ae (xW.o.kept FK);have HOY:=ae oy;have Cy:=ae (ml.o.trans (FK.mono XX));have hzy:=Cy.o.size;clear oy FK;go_wp2_with (first | (at_builtin;refine ax rfl _ _ rfl w.heap.size _ _ (dF l) BS rfl HVY.o rfl HOY.o.sv ?b1 ?b2 ?_))
         case b1=>omega
         case b2=>omega
         intro vz wz oz bz;have yF:=ae oz;have yG:=ae (Cy.o.trans bz);clear oz bz;go_wp2_with fail;go_ret2
         rw[xY.o,Kx.o,HT2'.o];exact⟨⟨_,rfl,yF.o⟩,yG.o⟩
        ·have jl:=gG VD.o
         have hwz:=mz jl.1 (by rw[jdk];omega);have rQ:=ae jl.1;have Cs:(wd4 l).length<=256:=by unfold wd4;rw[jdk];omega
         have HT3':jfb (gl 3 l=eL (wd4 l)):=ae LW.o;have Yt:jfb (eL (wd4 l)=if (dj (wd4 l)).length<(plain (wd4 l)).length then dj (wd4 l) else plain (wd4 l)):=rfl;have tA:jfb (Ts (wd4 l)):=ae jl.1;clear jl LW UQ Ao rQ hwz;have VI:=VT.o.2.2.2.1;have Yr:=ae VI;clear VI;generalize hWW:wd4 l=WW at *;clear hWW;have uK:(tuq WW).length<=256:=by have:=fG WW;omega
         have rZ:jfb (plain WW=[0]++fA WW):=rfl;have rR:jfb (dj WW=[1]++uv (tuq WW).length++fA (tuq WW)++cP (cK WW)):=ae (by unfold dj;simp);have htx1:=nO tA.o Cs;have Yu:=nO (lr tA.o) uK;have VF:=gz (eb Cs) (by rw[bV];exact Cs);have nk:=bJ (n:=(tuq WW).length) (by omega);have PD:=ae (ug Yr.o.sv Cs (fun s hs=>(tA.o s hs).2));go_wp2_with fail;rw[HWX.o];refine PD.o.mono ?_;rintro e wu ⟨⟨vu,rfl,ou⟩,Uu⟩;have HVU:=ae (xW.o.kept Uu);have HWU:=ae (Yr.o.kept Uu);have HOU:=ae ou;have HBU:=ae (ml.o.trans (Uu.mono XX));have hzu:=HBU.o.size;have HPG:=ae (fun(x:List Nat) (hx:x∈WW)=>kS (jh.2 hx));obtain⟨au,cu,rfl,XW,Vm⟩:=aN ou;obtain⟨aw,cw,hvw,FQ,Vn⟩:=aN HWU.o;subst hvw;have hcum':cu<=9223372036854775807:=by unfold maxLen at Vm;omega
         have hcwm':cw<=9223372036854775807:=by unfold maxLen at Vn;omega
         have Vo:jfb (∀ s∈WW,Bs s):=ae (fun s hs=>(tA.o s hs).2);have jcf:jfb (∀ s∈tuq WW,Bs s):=ae (fun s hs=>Vo.o s (jh.1 hs));clear ou Uu Vm Vn;have HPT:jfb (cK WW=WW.map fun s=>(plT (tuq WW) s:Int)):=rfl;have HTQ:=ae (lr tA.o);have HPI:=ae (eb Cs);have jcg:(cK WW).length<=256:=by rw[bV];exact Cs
         generalize cK WW=PT at *;generalize hTU:tuq WW=TU at *;clear hTU;go_wp2_with fail;go_loopw [19,20] (fun o i wq=>∃ j:Nat,j<=WW.length/\i=.int .i64 (j:Int)/\bv wq wu.heap.size o ((WW.take j).map fun s=>(plT TU s:Int))/\Below wu.heap.size wu wq) (fun _ i _=>WW.length-(intOf i).toNat)
         case atStart=>exact⟨0,by omega,rfl,bv.nil _ _,jdg _ _⟩
         case round =>
          obtain⟨j,hj,rfl,aA,az⟩:=hrel;have HO:=ae aA;have oX:=ae az;have yD:=az.size;clear aA az;by_cases aC:j<WW.length
          ·have hlt':(j:Int)<(WW.length:Int):=by omega
           obtain⟨gw,offw,jch,hgw,KI⟩:=HWU.o.sv.at1 (cL aC);subst jch;rw[en]at KI;have HCW:=ae KI;obtain⟨hp1,PQ⟩:=HPG.o WW[j] (jdl aC);have Fv:=ae PQ
           have nh:jfb ((WW.take (j+1)).map (fun s=>(plT TU s:Int))=(WW.take j).map (fun s=>(plT TU s:Int))++[(plT TU WW[j]:Int)]):=ae (by
            rw[jdx aC,jdC];rfl)
           have hlen':((WW.take j).map fun s=>(plT TU s:Int)).length<=100000:=by rw[jdk,jdo];omega
           have HPN:=ae (fun(q:Nat) (h:q<TU.length) (hq:q<plT TU WW[j])=>JW h hq);have jci:=ae (Vo.o WW[j] (jdl aC));clear KI PQ;generalize WW[j]=x at *;generalize ((WW.take j).map fun s=>(plT TU s:Int))=LL at *;generalize hpz:plT TU x=pz at *;clear hpz;generalize wr=WR9 at *;go_wp2_with fail;go_loopw [21] (fun i wq2=>∃ q:Nat,q<=pz/\i=.int .i64 (q:Int)/\Below WR9.heap.size WR9 wq2) (fun i _=>pz-(intOf i).toNat)
           case atStart=>exact⟨0,by omega,rfl,jdg _ _⟩
           case round =>
            obtain⟨q,hq,rfl,oe⟩:=hrel;have pD:=ae oe;have XN:=oe.size;clear oe;have Yv:q<TU.length:=(by omega);have hqu':(q:Int)<(TU.length:Int):=(by omega);obtain⟨gu,offu,jcj,hgu,KJ⟩:=HOU.o.sv.at1 (cL Yv);cases jcj
            rw[en]at KJ;have UJ:=(pD.o.cell (p:=⟨gu,offu+q,none⟩) (jdD hgu yD)).trans ((oX.o.cell (p:=⟨gu,offu+q,none⟩) hgu).trans KJ);have hcw1:=(pD.o.cell (p:=⟨gw,offw+j,none⟩) (jdD hgw yD)).trans ((oX.o.cell (p:=⟨gw,offw+j,none⟩) hgw).trans HCW.o);have jck:=ae (jcf.o TU[q] (jdl Yv));have jcl:=ae (HPN.o q Yv)
            have jcm:jfb (q=pz->TU[q]=x):=ae (fun e=>by
             have:=Fv.o;subst e;rw[List.getElem?_eq_getElem Yv]at this;exact Option.some.inj this)
            have eY:jfb (∀ n z,Below wu.heap.size wu ((wr.drewN n).alloc (.cells #[.int .i64 z] 2))):=ae (fun n z=>(ar (oX.o.trans (pD.o.mono yD)) n).alloc (by show wu.heap.size<=wr.heap.size;omega) _);have Ks:jfb (∀ n z,wu.heap.size<=((wr.drewN n).alloc (.cells #[.int .i64 z] 2)).heap.size):=ae (fun n z=>by rw[jdi];show wu.heap.size<=wr.heap.size+1;omega);have nm:jfb (∀ n z,bv ((wr.drewN n).alloc (.cells #[.int .i64 z] 2)) wu.heap.size _ LL):=ae (fun n z=>((HO.o.kept pD.o).kept (ar (jdg _ _) n)).kept (ak _ _));clear KJ;generalize TU[q]=y at *;by_cases Yw:q=pz
            ·have Kt:=jcm.o Yw
             subst Kt;have HQZ:=ae Yw;clear Yw;go_wp2_with fail;go_quiet (fail)
             go_wp2_with (first | (at_builtin;refine aX rfl _ _ rfl wu.heap.size _ _ (q:Int) LL rfl (nm.o _ (q:Int)) rfl (aL _ _ _) hlen' ?f3 ?_))
             case f3=>first | omega | exact Ks.o _ _
             intro v7 w7 o7 b7;rw[HQZ.o]at o7;have iy:=ae o7;have ic:=ae ((eY.o _ (q:Int)).trans b7);clear o7 b7;go_wp2_with fail;go_roundw
             case rel=>exact⟨j+1,by omega,by go_num,by rw[nh.o];exact iy.o,ic.o⟩
             case measure=>simp[intOf];omega
            ·have fQ:=jcl.o (by omega)
             have Kt:((am y).toList==(am x).toList)=false:=by
              rw[bC,bC];exact jdt.2 (fun e=>fQ (by rw[← fo jck.o,← fo jci.o,e]))
             have uS:=ae (ar pD.o);have nc:q+1<=pz:=(by omega);clear fQ Yw;go_wp2_with fail;go_quiet (fail)
             go_wp2_with fail;go_roundw
             case rel=>exact⟨q+1,nc,by go_num,uS.o _⟩
             case measure=>simp[intOf];omega
          ·obtain rfl:j=WW.length:=by omega
           rw[jdp,← HPT.o]at HO;have hge3:¬ ((WW.length:Nat):Int)<(WW.length:Int):=(by omega);have HV9:=ae (HVU.o.kept oX.o);have HW9:=ae (HWU.o.kept oX.o);have HU9:=ae (HOU.o.kept oX.o);have pD:=ae (HBU.o.trans (oX.o.mono hzu));generalize wr=WR9 at *;have HLa:=ae (cF WR9 0);have HBa:=ae (ak WR9 (.cells #[.int .u8 0] 5));have hza:=jdi WR9 (.cells #[.int .u8 0] 5);have HTa:=ae (jR (HW9.o.kept HBa.o).sv Cs tA.o);generalize plain WW=PLN at *;generalize dj WW=LST at *;generalize hTX1:fA WW=TX1 at *;clear hTX1;go_wp2_with fail;refine HTa.o.mono ?_;rintro e wa ⟨⟨va,rfl,oa⟩,An⟩;have HOa:=ae oa;have HLb:=ae (HLa.o.kept An);have HBab:=ae (HBa.o.trans (An.mono (by omega)));have hzb:=HBab.o.size;clear oa An;go_wp2_with (first | (at_builtin;refine ax rfl _ _ rfl WR9.heap.size _ _ [0] TX1 rfl HLb.o rfl HOa.o.sv ?g1 ?g2 ?_))
           case g1=>simp;omega
           case g2=>omega
           intro vc wc oc bc;have oc':aD wc WR9.heap.size vc PLN:=by rw[rZ.o];exact oc
           have Ym:=ae oc';have HBc:=ae (HBab.o.trans bc);have HVc:=ae (HV9.o.kept HBc.o);have HUc:=ae (HU9.o.kept HBc.o);have HPc:=ae (HO.o.kept HBc.o);have HB9c:=ae (lj pD.o HBc.o);obtain⟨ac,cc,rfl⟩:=oc'.len;have hzc:=HBc.o.size;clear oc oc' bc HLa HBa HTa HOa HLb HBab;have HLd:=ae (cF wc 1);have HBd:=ae (ak wc (.cells #[.int .u8 1] 5));have hzd:=jdi wc (.cells #[.int .u8 1] 5);have jcn:=ae (bD TU.length (by omega));generalize hUV:uv TU.length=UV at *;clear hUV;go_wp2_with fail;refine(jcn.o _).mono ?_;rintro e wd ⟨⟨vd,rfl,od⟩,nl⟩;have HOd:=ae od;have HLe:=ae (HLd.o.kept nl);have HBde:=ae (HBd.o.trans (nl.mono (by omega)));have hze:=HBde.o.size;clear od nl;go_wp2_with (first | (at_builtin;refine ax rfl _ _ rfl wc.heap.size _ _ [1] UV rfl HLe.o rfl HOd.o.sv ?i1 ?i2 ?_))
           case i1=>simp;omega
           case i2=>omega
           intro vf wf of bf;have xI:=ae of;have HBf:=ae (HBde.o.trans bf);have hzf:=HBf.o.size;have HTf:=ae (jR (HUc.o.kept HBf.o).sv uK HTQ.o);generalize hTX2:fA TU=TX2 at *;clear hTX2 of bf HLd HBd HOd HLe HBde;go_wp2_with fail;refine HTf.o.mono ?_;rintro e wg ⟨⟨vg,rfl,og⟩,hbg⟩;have HOg:=ae og;have HFg:=ae (xI.o.kept hbg);have HBg:=ae (HBf.o.trans (hbg.mono hzf));have hzg:=HBg.o.size;have Yd:jfb ((1::UV).length+TX2.length<=140737488355328):=ae (by rw[jdn];omega);clear og hbg;go_wp2_with (first | (at_builtin;refine ax rfl _ _ rfl wc.heap.size _ _ (1::UV) TX2 rfl HFg.o rfl HOg.o.sv Yd.o hzg ?_))
           intro vh wh oh bh;have oh':aD wh wc.heap.size vh (1::(UV++TX2)):=oh;have HOH:=ae oh';clear oh';have HBh:=ae (HBg.o.trans bh);have hzh:=HBh.o.size;have HBEp:=ae (jw (HPc.o.kept HBh.o).sv HPI.o);rw[kb jcg]at HBEp;generalize hBP:cP PT=BP at *;clear hBP oh bh;go_wp2_with fail;refine HBEp.o.mono ?_;rintro e wi ⟨⟨vi,rfl,oi⟩,hbi⟩;have HOi:=ae oi;have HHi:=ae (HOH.o.kept hbi);have HBi:=ae (HBh.o.trans (hbi.mono hzh));have hzi:=HBi.o.size;have HK1:jfb ((1::(UV++TX2)).length+BP.length<=140737488355328):=ae (by rw[jdn,jdj];omega);clear oi hbi;go_wp2_with (first | (at_builtin;refine ax rfl _ _ rfl wc.heap.size _ _ (1::(UV++TX2)) BP rfl HHi.o rfl HOi.o.sv HK1.o hzi ?_))
           intro vj wj oj bj;have oj':aD wj wc.heap.size vj LST:=by rw[rR.o];simpa using oj
           have HOJ:=ae oj';have HBj:=ae (HBi.o.trans bj);have hzj:=HBj.o.size;have HCj:=ae (Ym.o.kept HBj.o);have HVj:=ae (HVc.o.kept HBj.o);have HB9j:=ae (lj HB9c.o HBj.o);have Vp:=HB9j.o.size;obtain⟨aj,cj,rfl⟩:=oj'.len;have hlst:LST.length<=40000:=by rw[rR.o];simp;omega
           have hpln:PLN.length<=40000:=by rw[rZ.o];simp;omega
           have HL1a:jfb ((dF l).length+LST.length<=140737488355328):=ae (by omega);have HL1b:jfb ((dF l).length+PLN.length<=140737488355328):=ae (by omega);clear oj oj' bj;by_cases rW:LST.length<PLN.length
           ·have hless':(LST.length:Int)<(PLN.length:Int):=by omega
            rw[jdf rW]at Yt;clear rW;go_wp2_with (first | (at_builtin;refine ax rfl _ _ rfl w.heap.size _ _ (dF l) LST rfl HVj.o rfl HOJ.o.sv HL1a.o Vp ?_))
            intro vz wz oz bz;have yF:=ae oz;have yG:=ae (HB9j.o.trans bz);clear oz bz;go_wp2_with fail;go_ret2
            rw[xY.o,Kx.o,HT3'.o,Yt.o];exact⟨⟨_,rfl,yF.o⟩,yG.o⟩
           ·have hless':¬ (LST.length:Int)<(PLN.length:Int):=by omega
            rw[jde rW]at Yt;clear rW;go_wp2_with (first | (at_builtin;refine ax rfl _ _ rfl w.heap.size _ _ (dF l) PLN rfl HVj.o rfl HCj.o.sv HL1b.o Vp ?_))
            intro vz wz oz bz;have yF:=ae oz;have yG:=ae (HB9j.o.trans bz);clear oz bz;go_wp2_with fail;go_ret2
            rw[xY.o,Kx.o,HT3'.o,Yt.o];exact⟨⟨_,rfl,yF.o⟩,yG.o⟩
    ·have h256':(l.length:Int) > 256:=by omega
     have HE:jfb (WC=([],5)):=ae (Vk.o HA.o (fun h=>Fw h.1));clear Fw;go_wp2_with fail;go_ret2
     rw[HE.o];exact⟨⟨_,rfl,aD.nil _ _⟩,HB.o⟩
 ·have HE:jfb (dS k l=([],10)):=ae (uh (fun h=>LR ⟨h.1,h.2.1⟩))
  clear hs hf bx;by_cases qm:(k:Int)<1
  ·clear LR
   go_enter Tryz.func47,Tryz.ntmps47
   go_wp2_with fail;go_ret2
   rw[HE.o];exact⟨⟨_,rfl,aD.nil _ _⟩,jdg _ _⟩
  ·have hk4:(k:Int) > 3:=by omega
   clear LR;go_enter Tryz.func47,Tryz.ntmps47
   go_wp2_with fail;go_ret2
   rw[HE.o];exact⟨⟨_,rfl,aD.nil _ _⟩,jdg _ _⟩
end Go.Proofs.YtpljdjmpamjkhaaGreatDoor
