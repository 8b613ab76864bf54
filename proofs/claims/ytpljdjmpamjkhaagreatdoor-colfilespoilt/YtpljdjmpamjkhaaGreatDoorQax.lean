import Derived.Test.YtpljdjmpamjkhaaGreatDoorQaw
set_option linter.unusedVariables false
set_option linter.unusedSimpArgs false
set_option maxRecDepth 100000
set_option maxHeartbeats 16000000
namespace Go.Proofs.YtpljdjmpamjkhaaGreatDoor
open Go.RowKit Go.Lib
theorem ly{B:Nat}{a w w2:World}(h:Below B a w)(h2:Below w.heap.size w w2)(hB:B<=w.heap.size:=by omega):Below B a w2:=h.trans (h2.mono hB)
theorem kb.keptB{W W':World}{B B':Nat}{a b c d:Value}{L1 L2:List Nat}{L3:List Int}{L4:List (List Nat)}(h:kb W B a b c d L1 L2 L3 L4)(hb:Below B' W W')(hl:∀(x:Value) k,x=a∨x=b∨x=c∨x=d->x.ownBlock=some k->k<B'):kb W' B a b c d L1 L2 L3 L4:=by
 have key:∀{e n:Nat} {v:Value} {xs:List Value},W.ownsRow B e 1 v n xs->(∀ k,v.ownBlock=some k->k<B')->W'.ownsRow B e 1 v n xs:=fun{e n v xs} h hv=>by
  obtain⟨h0,h | ⟨g,cap,cur,rfl,h2,h3,h4⟩⟩:=h
  ·exact⟨h0,Or.inl h⟩
  ·exact⟨h0,Or.inr ⟨g,cap,cur,rfl,h2,(hb.block g (hv g rfl)).trans h3,h4⟩⟩
 exact⟨key h.1 (fun k=>hl a k (by simp)),key h.2.1 (fun k=>hl b k (by simp)),key h.2.2.1 (fun k=>hl c k (by simp)),key h.2.2.2.1 (fun k=>hl d k (by simp)),h.2.2.2.2⟩
theorem uP(w:World)(v:Value)(t n:Nat)(h:w.heap.size=n):(w.alloc (.cells #[v] t)).cell? ⟨n,0,none⟩=some v:=by
 subst h;exact aK _ _ _
theorem CE{w:World}{v:Value}{l:List (Nat×Int×List Nat)}(hs:Sc w v l)(hf:∀ c∈l,AH c)(hl:l.length<=600)(k:Nat)(hk:k<256) :
  Calls Tryz.prog 47 #[.int .i64 (k:Int),v] w (tE (dZ k l) w):=by
 have HS:=ae hs;have HF:=ae hf;obtain⟨a,cap,rfl,aW,bC⟩:=hs.form;have hcm':cap<=9223372036854775807:=by unfold maxLen at bC;omega
 by_cases MF:1<=k/\k<=3
 ·have qA:¬ (k:Int)<1:=by omega
  have kQ:¬ (k:Int) > 3:=by omega
  have jaT:=ae (fun(c:Nat×Int×List Nat) (hc:c∈l) (h:c.1≠0/\c.1≠k)=>uO (k:=k) (l:=l) (fun h2=>by
   rcases h2.2.2 c hc with e | e
   ·exact h.1 e
   ·exact h.2 e))
  have Wn:=ae (fun(h:∀ c∈l,c.1=0∨c.1=k) (h2:¬ (l.length<=256/\∀ c∈l,c.2.2.length<=64))=>Gf (k:=k) (l:=l) ⟨MF.1,MF.2,h⟩ h2);have AZ:=ae (fun(h:∀ c∈l,c.1=0∨c.1=k) (h1:l.length<=256) (h2:∀ c∈l,c.2.2.length<=64)=>(⟨MF,h1,fun c hc=>((hf c hc).fine (h2 c hc)).cellk (h c hc)⟩:Col k l));have HWC:=ae (fun h=>kx (k:=k) (l:=l) h);clear hs hf bC;generalize dZ k l=WC at *;go_enter Tryz.func47,Tryz.ntmps47
  go_wp2_with fail;go_loopw [6] (fun i wr=>∃ j:Nat,j<=l.length/\i=.int .i64 (j:Int)/\(∀ c∈l.take j,c.1=0∨c.1=k)/\Below w.heap.size w wr) (fun i _=>l.length-(intOf i).toNat)
  case atStart=>exact⟨0,by omega,rfl,fun c hc=>by simp at hc,jej _ _⟩
  case round =>
   obtain⟨j,hj,rfl,cZ,az⟩:=hrel;have HA:=ae cZ;have HB:=ae az;have bH:=az.size;clear cZ az;by_cases aB:j<l.length
   ·obtain⟨g,off,rfl,hg,c0,c1,c2⟩:=(HS.o.kept HB.o).at aB
    have hlt':(j:Int)<(l.length:Int):=(by omega);have HM:=ae (jeo aB)
    have HT:jgf (∀ c,c∈l.take (j+1)->c∈l.take j∨c=l[j]):=ae (fun c hc=>by
     rw[jeA aB]at hc;rcases jeN.1 hc with h | h
     ·exact Or.inl h
     ·exact Or.inr (by simpa using h))
    have Lk:=(HF.o l[j] (jeo aB)).parts.1;rw[dM]at c2;have Dm:jgf (∀ o,Below w.heap.size w (wr.alloc o)):=ae (fun o=>HB.o.alloc bH o);generalize l[j]=c at *;obtain⟨ck,cn,cs⟩:=c;simp only at *;by_cases h0:((ck:Int) != 0)=true
    ·by_cases h1:((ck:Int) != (k:Int))=true
     ·have HE:jgf (WC=([],10)):=ae (jaT.o _ HM.o (by
       have a1:(ck:Int)≠0:=by simpa using h0
       have a2:(ck:Int)≠(k:Int):=by simpa using h1
       exact⟨by simp only;omega,by simp only;omega⟩))
      go_wp2_with fail;go_ret2
      rw[HE.o];exact⟨⟨_,rfl,aD.nil _ _⟩,Dm.o _⟩
     ·have h1':((ck:Int) != (k:Int))=false:=by simpa using h1
      have lA:jgf (ck=k):=ae (by have:(ck:Int)=(k:Int):=(by simpa using h1);omega);clear h1;go_wp2_with fail;go_roundw
      case rel=>exact⟨j+1,by omega,by go_num,fun c hc=>(HT.o c hc).elim (HA.o c) (fun e=>by rw[e];exact Or.inr lA.o),Dm.o _⟩
      case measure=>simp[intOf];omega
    ·have h0':((ck:Int) != 0)=false:=by simpa using h0
     have lA:jgf (ck=0):=ae (by have:(ck:Int)=0:=(by simpa using h0);omega);clear h0;go_wp2_with fail;go_roundw
     case rel=>exact⟨j+1,by omega,by go_num,fun c hc=>(HT.o c hc).elim (HA.o c) (fun e=>by rw[e];exact Or.inl lA.o),Dm.o _⟩
     case measure=>simp[intOf];omega
   ·obtain rfl:j=l.length:=by omega
    rw[jes]at HA;have gi:¬ ((l.length:Nat):Int)<(l.length:Int):=(by omega);by_cases Gk:l.length<=256
    ·have h256':¬ (l.length:Int) > 256:=by omega
     generalize wr=W1 at *;go_wp2_with fail;go_loopw [8,9,10,11,12,13] (fun q1 q2 q3 q4 nu i wr=>∃ j:Nat,j<=l.length/\i=.int .i64 (j:Int)/\nu=.bool (decide (0∈bP (l.take j)))/\(∀ c∈l.take j,c.2.2.length<=64)/\kb wr w.heap.size q1 q2 q3 q4 (bP (l.take j)) (tr4 (l.take j)) (wh4 (l.take j)) (wd4 (l.take j))/\Below w.heap.size w wr) (fun _ _ _ _ _ i _=>l.length-(intOf i).toNat)
     case atStart=>exact⟨0,by omega,rfl,rfl,fun c hc=>by simp at hc,kb.nil _ _,HB.o⟩
     case round =>
      obtain⟨j,hj,rfl,rfl,hsh,jaU,az⟩:=hrel;have HSH:=ae hsh;have QW:=ae jaU;have aN:=ae az;have bv:=az.size;clear hsh jaU az;by_cases aB:j<l.length
      ·obtain⟨g,off,rfl,hg,c0,c1,c2⟩:=(HS.o.kept aN.o).at aB
       have hlt':(j:Int)<(l.length:Int):=(by omega);have HM:=ae (jeo aB)
       have HT:jgf (∀ c,c∈l.take (j+1)->c∈l.take j∨c=l[j]):=ae (fun c hc=>by
        rw[jeA aB]at hc;rcases jeN.1 hc with h | h
        ·exact Or.inl h
        ·exact Or.inr (by simpa using h))
       have QC:=ae (HF.o l[j] (jeo aB));have Lk:=QC.o.parts.1;rw[dM]at c2;have HN4:=ae (fun h0=>Qf aB h0);have vM:=ae (fun h0=>Qg aB h0);have hln:=Va l j;obtain⟨hln1,hln2,hln3,hln4⟩:=hln;have Dm:jgf (∀ o,Below w.heap.size w (wr.alloc o)):=ae (fun o=>aN.o.alloc bv o);have jG:(am l[j].2.2).size=l[j].2.2.length:=bi _;have qG:=ae jG;clear jG;generalize l[j]=c at *;obtain⟨ck,cn,cs⟩:=c;simp only at *;by_cases kU:cs.length<=64
       ·have h64':¬ ((am cs).size:Int) > 64:=by rw[qG.o];omega
        have HSH':jgf (∀ c∈l.take (j+1),c.2.2.length<=64):=ae (fun c hc=>(HT.o c hc).elim (HSH.o c) (fun e=>by rw[e];exact kU));clear kU;by_cases h0:ck=0
        ·obtain⟨e1,e2,e3,e4⟩:=HN4.o h0
         have Rq:=ae (And.intro e1 (And.intro e2 (And.intro e3 e4)));have HDT:jgf (decide (0∈bP (l.take (j+1)))=true):=ae (jeB (by rw[e1];simp));clear e1 e2 e3 e4 vM HN4;subst h0;have Dg:=ae (QW.o.kept (ak wr (.cells #[.int .u8 0,.int .i64 cn,.string (am cs)] 52)));have hzA:=jel wr (.cells #[.int .u8 0,.int .i64 cn,.string (am cs)] 52);generalize bP (l.take j)=L1 at *;generalize tr4 (l.take j)=L2 at *;generalize wh4 (l.take j)=L3 at *;generalize wd4 (l.take j)=L4 at *;generalize decide (0∈L1)=nul0 at *;go_wp2_with (first | (at_builtin;refine jm rfl _ _ rfl w.heap.size _ _ 0 L1 rfl (Dg.o.1.kept (ak _ _)) rfl (uP _ _ _ _ hzA) (by omega) ?c2 ?_))
         case c2=>first | omega | (rw[jel];omega)
         intro v5 w5 o5 g5 n5;have yz:=ae ((Dg.o.kept (ak _ _)).g1 o5 g5 (by simpa [jel]using n5));have aQ:=ae (((Dm.o (.cells #[.int .u8 0,.int .i64 cn,.string (am cs)] 52)).alloc (by omega) _).grown g5 (by rw[jel];omega) (fun k hk=>(Dg.o.1.lt k hk).1));clear o5 g5 n5;go_wp2_with fail;go_roundw
         case rel=>exact⟨j+1,by omega,by go_num,by rw[HDT.o],HSH'.o,by rw[Rq.o.1,Rq.o.2.1,Rq.o.2.2.1,Rq.o.2.2.2];exact yz.o,aQ.o⟩
         case measure=>simp[intOf];omega
        ·skip
         have hne0:((ck:Int)==0)=false:=jev.2 (by omega);obtain⟨e1,e2,e3,e4⟩:=vM.o h0;have Rq:=ae (And.intro e1 (And.intro e2 (And.intro e3 e4)));have HDT:jgf (decide (0∈bP (l.take (j+1)))=decide (0∈bP (l.take j))):=ae (by rw[e1];simp);clear e1 e2 e3 e4 vM HN4 h0;have Dg:=ae (QW.o.kept (ak wr (.cells #[.int .u8 (ck:Int),.int .i64 cn,.string (am cs)] 52)));have hzA:=jel wr (.cells #[.int .u8 (ck:Int),.int .i64 cn,.string (am cs)] 52);have HCB0:jgf ((wr.alloc (.cells #[.int .u8 (ck:Int),.int .i64 cn,.string (am cs)] 52)).heap[wr.heap.size]?=some (.cells #[.int .u8 (ck:Int),.int .i64 cn,.string (am cs)] 52 (0,0))):=ae (jeK _ _)
         have jc9:jgf (∀ x:Value,x=u8∨x=u9∨x=u10∨x=u11->some wr.heap.size≠x.ownBlock):=ae (fun x hx e=>by
          rcases hx with rfl | rfl | rfl | rfl
          ·have:=(QW.o.1.lt _ e.symm).2;omega
          ·have:=(QW.o.2.1.lt _ e.symm).2;omega
          ·have:=(QW.o.2.2.1.lt _ e.symm).2;omega
          ·have:=(QW.o.2.2.2.1.lt _ e.symm).2;omega)
         generalize decide (0∈bP (l.take j))=nul0 at *;generalize bP (l.take j)=L1 at *;generalize tr4 (l.take j)=L2 at *;generalize wh4 (l.take j)=L3 at *;generalize wd4 (l.take j)=L4 at *;have hconv:IntKind.u64.wrap cn=(yd cn:Int):=KH cn;generalize hU:yd cn=U at *;clear hU;go_wp2_with (first | (at_builtin;refine jm rfl _ _ rfl w.heap.size _ _ 1 L1 rfl (Dg.o.1.kept (ak _ _)) rfl (uP _ _ _ _ hzA) (by omega) ?c2 ?_))
         case c2=>first | omega | (rw[jel];omega)
         intro v5 w5 o5 g5 n5;have yz:=ae ((Dg.o.kept (ak _ _)).g1 o5 g5 (by simpa [jel]using n5));have bD:Below w.heap.size w w5:=((Dm.o (.cells #[.int .u8 (ck:Int),.int .i64 cn,.string (am cs)] 52)).alloc (by omega) _).grown g5 (by rw[jel];omega) (fun k hk=>(Dg.o.1.lt k hk).1);have tU:=g5.size;rw[jel,hzA]at tU;have hC5:w5.heap[wr.heap.size]?=some (.cells #[.int .u8 (ck:Int),.int .i64 cn,.string (am cs)] 52 (0,0)):=(g5.block _ (by rw[jel];omega) (jc9.o _ (by simp))).trans (((ak _ _).block _ (by omega)).trans HCB0.o);have hc51:w5.cell? ⟨wr.heap.size,1,none⟩=some (.int .i64 cn):=by rw[ay hC5];rfl
         have aQ:=ae bD;have HC5:=ae hC5;have hzz5:=bD.size;clear o5 g5 n5 bD hC5 c0 c1 c2;go_wp2_with (first | (at_builtin;refine mx rfl _ _ rfl w.heap.size _ _ cn L3 rfl (yz.o.2.2.1.kept (ak _ _)) rfl (aK _ _ _) (by omega) ?c3 ?_))
         case c3=>first | omega | (rw[jel];omega)
         intro v6 w6 o6 g6;have GO:=ae ((yz.o.kept (ak _ _)).g3 o6 g6);have dW:Below w.heap.size w w6:=(aQ.o.alloc hzz5 _).grown g6 (by rw[jel];omega) (fun k hk=>(QW.o.2.2.1.lt k hk).1);have Gq:=g6.size;rw[jel]at Gq;have hC6:w6.heap[wr.heap.size]?=some (.cells #[.int .u8 (ck:Int),.int .i64 cn,.string (am cs)] 52 (0,0)):=(g6.block _ (by rw[jel];omega) (jc9.o _ (by simp))).trans (((ak _ _).block _ (by omega)).trans HC5.o);have hc61:w6.cell? ⟨wr.heap.size,1,none⟩=some (.int .i64 cn):=by rw[ay hC6];rfl
         have gW:=ae dW;have HC6:=ae hC6;have hzz6:=dW.size;clear o6 g6 dW hC6 hc51;go_wp2_with (first | (at_builtin;refine jm rfl _ _ rfl w.heap.size _ _ U L2 rfl (GO.o.2.1.kept (ak _ _)) rfl (aK _ _ _) (by omega) ?c4 ?_))
         case c4=>first | omega | (rw[jel];omega)
         intro v7 w7 o7 g7 n7;have HF7:=ae ((GO.o.kept (ak _ _)).g2 o7 g7 (by simpa [jel]using n7));have iR:Below w.heap.size w w7:=(gW.o.alloc hzz6 _).grown g7 (by rw[jel];omega) (fun k hk=>(QW.o.2.1.lt k hk).1);have hz7:=g7.size;rw[jel]at hz7;have hC7:w7.heap[wr.heap.size]?=some (.cells #[.int .u8 (ck:Int),.int .i64 cn,.string (am cs)] 52 (0,0)):=(g7.block _ (by rw[jel];omega) (jc9.o _ (by simp))).trans (((ak _ _).block _ (by omega)).trans HC6.o);have hc72:w7.cell? ⟨wr.heap.size,2,none⟩=some (.string (am cs)):=by rw[ay hC7];rfl
         have ir:=ae iR;have hzz7:=iR.size;clear o7 g7 n7 iR hC7 hc61;go_wp2_with (first | (at_builtin;refine sw rfl _ _ rfl w.heap.size _ _ cs L4 rfl (HF7.o.2.2.2.1.kept (ak _ _)) rfl (aK _ _ _) (by omega) ?c5 ?_))
         case c5=>first | omega | (rw[jel];omega)
         intro v8 w8 o8 g8;have HF8:=ae ((HF7.o.kept (ak _ _)).g4 o8 g8);have qD:=ae ((ir.o.alloc hzz7 _).grown g8 (by rw[jel];omega) (fun k hk=>(QW.o.2.2.2.1.lt k hk).1));clear o8 g8;go_wp2_with fail;go_roundw
         case rel=>exact⟨j+1,by omega,by go_num,by rw[HDT.o],HSH'.o,by rw[Rq.o.1,Rq.o.2.1,Rq.o.2.2.1,Rq.o.2.2.2];exact HF8.o,qD.o⟩
         case measure=>simp[intOf];omega
       ·have h64':((am cs).size:Int) > 64:=by rw[qG.o];omega
        have HE:jgf (WC=([],5)):=ae (Wn.o HA.o (fun h=>kU (h.2 _ HM.o)));clear kU;go_wp2_with fail;go_ret2
        rw[HE.o];exact⟨⟨_,rfl,aD.nil _ _⟩,Dm.o _⟩
      ·skip
       obtain rfl:j=l.length:=by omega
       rw[jes]at HSH QW;rw[jes];have hge2:¬ ((l.length:Nat):Int)<(l.length:Int):=(by omega);have ec:=AZ.o HA.o Gk HSH.o;have yE:=ae (HWC.o ec);have hhd:=(ta (l:=l) Gk).1;have hol:=ik l;have HHN:=ae (EZ (l:=l));have HHY:=ae (Aw (l:=l));have HTT:=ae (ee l);have kV:=jD (ee l) (by rw[br];exact Gk);have Ll:jgf (ey k l=dO l++gE k l):=rfl;have VU:=ae (wX l);have Bc:=ae (wY l);have MK:=ae (wZ l);have WJ:=ae ec.2.2;have GH:=ec.1;clear AZ HWC ec jaT Wn;by_cases h0:0∈bP l
       ·rw[jeB h0]
        have HHB:=ae (HHY.o h0);clear h0 HHN HHY;have Lb:=ae (QW.o.kept (ak wr (.cells #[.int .u8 0] 5)));have hzA:=jel wr (.cells #[.int .u8 0] 5);have WY:=ae (Lb.o.kept (ak _ (.cells #[.int .u8 1] 5)));have hzB:=jel (wr.alloc (.cells #[.int .u8 0] 5)) (.cells #[.int .u8 1] 5);have fX:=ae ((aN.o.alloc bv (.cells #[.int .u8 0] 5)).alloc (by omega) (.cells #[.int .u8 1] 5));have GI:=ae (cH (wr.alloc (.cells #[.int .u8 0] 5)) 1);rw[hzA]at GI;have HFLG:=ae (tN WY.o.1.sv (fun x hx=>by have:=HTT.o x hx;omega));generalize hPK:bm (bP l) 1=PK at *;clear hPK;go_wp2_with fail;refine HFLG.o.mono ?_;rintro e w1 ⟨⟨v1,rfl,o1⟩,aH⟩;have eO:=ae o1;have HL1:=ae (GI.o.kept aH);have CX:=ae (WY.o.kept aH);have cK:=aH.size;have aP:=ae (fX.o.trans (aH.mono (by omega)));clear o1 aH;go_wp2_with (first | (at_builtin;refine ax rfl _ _ rfl (wr.heap.size+1) _ _ [1] PK rfl HL1.o rfl eO.o.sv ?a1 ?a2 ?_))
        case a1=>simp;omega
        case a2=>omega
        intro vb wx ob bb;have yC:jgf (aD wx w.heap.size vb (dO l)):=ae (by rw[HHB.o];exact ob.low (by omega))
        have WZ:jgf (kb wx w.heap.size _ _ _ _ (bP l) (tr4 l) (wh4 l) (wd4 l)):=ae (by
         have hq:=QW.o
         have iJ:∀ x:Value,(∃ k,x.ownBlock=some k/\¬ k<wr.heap.size+1)->x=u8∨x=u9∨x=u10∨x=u11->False:=fun x ⟨k,hk,hn⟩ hx=>by
          rcases hx with rfl | rfl | rfl | rfl
          ·have:=(hq.1.lt _ hk).2;omega
          ·have:=(hq.2.1.lt _ hk).2;omega
          ·have:=(hq.2.2.1.lt _ hk).2;omega
          ·have:=(hq.2.2.2.1.lt _ hk).2;omega
         exact kb.keptB CX.o bb (fun x k hx hk=>by
          rcases jeM k (wr.heap.size+1)with h | h
          ·exact h
          ·exact(iJ x ⟨k,hk,by omega⟩ hx).elim))
        have mz:=ae (aP.o.trans (bb.mono (by omega)));have Zh:=mz.o.size;clear ob bb Lb WY CX fX aP HL1 eO GI HFLG;obtain rfl | rfl | rfl:k=1∨k=2∨k=3:=by omega
        ·have ju:=je WJ.o
         have fK:=gL ju.1 (by rw[jen];omega);have yp:=ae (jF WZ.o.2.2.1.sv ju.1);have Dh:(wh4 l).length<=256:=by unfold wh4;rw[jen];omega
         rw[kp Dh]at yp;have HT1':jgf (gE 1 l=cV (wh4 l)):=ae VU.o;have hbl':(cV (wh4 l)).length<=5131:=fK;clear ju fK;generalize cV (wh4 l)=BS at *;go_wp2_with fail;refine yp.o.mono ?_;rintro e wy ⟨⟨vy,rfl,oy⟩,Be⟩;have HVY:=ae (yC.o.kept Be);have HOY:=ae oy;have Dn:=ae (mz.o.trans (Be.mono Zh));have hzy:=Dn.o.size;clear oy Be;go_wp2_with (first | (at_builtin;refine ax rfl _ _ rfl w.heap.size _ _ (dO l) BS rfl HVY.o rfl HOY.o.sv ?b1 ?b2 ?_))
         case b1=>omega
         case b2=>omega
         intro vz wz oz bz;have zp:=ae oz;have tW:=ae (Dn.o.trans bz);clear oz bz;go_wp2_with fail;go_ret2
         rw[yE.o,Ll.o,HT1'.o];exact⟨⟨_,rfl,zp.o⟩,tW.o⟩
        ·have ju:=fP WJ.o
         have fK:=jD ju.1 (by rw[jen];omega);have Wo:=Mp WJ.o
         have yp:=ae (tN WZ.o.2.1.sv (fun x hx=>by
          rw[Wo]at hx;have:=ju.1 x hx;omega))
         rw[Wo]at yp;clear ju Wo;have HT2':=ae Bc.o;generalize bm ((bV l).map fun c=>c.2.1.toNat) 1=BS at *;go_wp2_with fail;refine yp.o.mono ?_;rintro e wy ⟨⟨vy,rfl,oy⟩,Be⟩;have HVY:=ae (yC.o.kept Be);have HOY:=ae oy;have Dn:=ae (mz.o.trans (Be.mono Zh));have hzy:=Dn.o.size;clear oy Be;go_wp2_with (first | (at_builtin;refine ax rfl _ _ rfl w.heap.size _ _ (dO l) BS rfl HVY.o rfl HOY.o.sv ?b1 ?b2 ?_))
         case b1=>omega
         case b2=>omega
         intro vz wz oz bz;have zp:=ae oz;have tW:=ae (Dn.o.trans bz);clear oz bz;go_wp2_with fail;go_ret2
         rw[yE.o,Ll.o,HT2'.o];exact⟨⟨_,rfl,zp.o⟩,tW.o⟩
        ·have ju:=gR WJ.o
         have hwz:=mM ju.1 (by rw[jen];omega);have sC:=ae ju.1;have Dh:(wd4 l).length<=256:=by unfold wd4;rw[jen];omega
         have HT3':jgf (gE 3 l=eS (wd4 l)):=ae MK.o;have ZC:jgf (eS (wd4 l)=if (dt (wd4 l)).length<(plain (wd4 l)).length then dt (wd4 l) else plain (wd4 l)):=rfl;have tZ:jgf (Ts (wd4 l)):=ae ju.1;clear ju MK VU Bc sC hwz;have WN:=WZ.o.2.2.2.1;have ZA:=ae WN;clear WN;generalize hWW:wd4 l=WW at *;clear hWW;have vK:(tuq WW).length<=256:=by have:=fO WW;omega
         have sL:jgf (plain WW=[0]++fH WW):=rfl;have sD:jgf (dt WW=[1]++uv (tuq WW).length++fH (tuq WW)++cV (cN WW)):=ae (by unfold dt;simp);have htx1:=ol tZ.o Dh;have ZD:=ol (lG tZ.o) vK;have WK:=gL (en Dh) (by rw[bY];exact Dh);have nB:=bO (n:=(tuq WW).length) (by omega);have QD:=ae (uN ZA.o.sv Dh (fun s hs=>(tZ.o s hs).2));go_wp2_with fail;refine QD.o.mono ?_;rintro e wu ⟨⟨vu,rfl,ou⟩,Vz⟩;have HVU:=ae (yC.o.kept Vz);have HWU:=ae (ZA.o.kept Vz);have HOU:=ae ou;have HBU:=ae (mz.o.trans (Vz.mono Zh));have hzu:=HBU.o.size;have HPG:=ae (fun(x:List Nat) (hx:x∈WW)=>lj (jr.2 hx));obtain⟨au,cu,rfl,Zg,Wp⟩:=aO ou;obtain⟨aw,cw,hvw,tY,Wq⟩:=aO HWU.o;subst hvw;have hcum':cu<=9223372036854775807:=by unfold maxLen at Wp;omega
         have hcwm':cw<=9223372036854775807:=by unfold maxLen at Wq;omega
         have Wr:jgf (∀ s∈WW,Bs s):=ae (fun s hs=>(tZ.o s hs).2);have jdd:jgf (∀ s∈tuq WW,Bs s):=ae (fun s hs=>Wr.o s (jr.1 hs));clear ou Vz Wp Wq;have HPT:jgf (cN WW=WW.map fun s=>(plT (tuq WW) s:Int)):=rfl;have HTQ:=ae (lG tZ.o);have HPI:=ae (en Dh);have jde:(cN WW).length<=256:=by rw[bY];exact Dh
         generalize cN WW=PT at *;generalize hTU:tuq WW=TU at *;clear hTU;go_wp2_with fail;go_loopw [19,20] (fun o i wq=>∃ j:Nat,j<=WW.length/\i=.int .i64 (j:Int)/\bF wq wu.heap.size o ((WW.take j).map fun s=>(plT TU s:Int))/\Below wu.heap.size wu wq) (fun _ i _=>WW.length-(intOf i).toNat)
         case atStart=>exact⟨0,by omega,rfl,bF.nil _ _,jej _ _⟩
         case round =>
          obtain⟨j,hj,rfl,aA,az⟩:=hrel;have HO:=ae aA;have pu:=ae az;have zl:=az.size;clear aA az;by_cases aB:j<WW.length
          ·have hlt':(j:Int)<(WW.length:Int):=by omega
           obtain⟨gw,offw,jdf,hgw,Lx⟩:=HWU.o.sv.at1 (cO aB);subst jdf;rw[dM]at Lx;have HCW:=ae Lx;obtain⟨hp1,QN⟩:=HPG.o WW[j] (jeo aB);have Gj:=ae QN
           have lz:jgf ((WW.take (j+1)).map (fun s=>(plT TU s:Int))=(WW.take j).map (fun s=>(plT TU s:Int))++[(plT TU WW[j]:Int)]):=ae (by
            rw[jeA aB,jeE];rfl)
           have hlen':((WW.take j).map fun s=>(plT TU s:Int)).length<=100000:=by rw[jen,jeq];omega
           have HPN:=ae (fun(q:Nat) (h:q<TU.length) (hq:q<plT TU WW[j])=>KI h hq);have jdg:=ae (Wr.o WW[j] (jeo aB));clear Lx QN;generalize WW[j]=x at *;generalize ((WW.take j).map fun s=>(plT TU s:Int))=LL at *;generalize hpz:plT TU x=pz at *;clear hpz;generalize wr=WR9 at *;go_wp2_with fail;go_loopw [21] (fun i wq2=>∃ q:Nat,q<=pz/\i=.int .i64 (q:Int)/\Below WR9.heap.size WR9 wq2) (fun i _=>pz-(intOf i).toNat)
           case atStart=>exact⟨0,by omega,rfl,jej _ _⟩
           case round =>
            obtain⟨q,hq,rfl,oL⟩:=hrel;have ny:=ae oL;have YU:=oL.size;clear oL;have ZE:q<TU.length:=(by omega);have hqu':(q:Int)<(TU.length:Int):=(by omega);obtain⟨gu,offu,jdh,hgu,Ly⟩:=HOU.o.sv.at1 (cO ZE);cases jdh
            rw[dM]at Ly;have VN:=(ny.o.cell (p:=⟨gu,offu+q,none⟩) (jeH hgu zl)).trans ((pu.o.cell (p:=⟨gu,offu+q,none⟩) hgu).trans Ly);have hcw1:=(ny.o.cell (p:=⟨gw,offw+j,none⟩) (jeH hgw zl)).trans ((pu.o.cell (p:=⟨gw,offw+j,none⟩) hgw).trans HCW.o);have jdi:=ae (jdd.o TU[q] (jeo ZE));have jdj:=ae (HPN.o q ZE)
            have jdk:jgf (q=pz->TU[q]=x):=ae (fun e=>by
             have:=Gj.o;subst e;rw[List.getElem?_eq_getElem ZE]at this;exact Option.some.inj this)
            have fx:jgf (∀ n z,Below wu.heap.size wu ((wr.drewN n).alloc (.cells #[.int .i64 z] 2))):=ae (fun n z=>(ar (pu.o.trans (ny.o.mono zl)) n).alloc (by show wu.heap.size<=wr.heap.size;omega) _);have Lg:jgf (∀ n z,wu.heap.size<=((wr.drewN n).alloc (.cells #[.int .i64 z] 2)).heap.size):=ae (fun n z=>by rw[jel];show wu.heap.size<=wr.heap.size+1;omega);have nE:jgf (∀ n z,bF ((wr.drewN n).alloc (.cells #[.int .i64 z] 2)) wu.heap.size _ LL):=ae (fun n z=>((HO.o.kept ny.o).kept (ar (jej _ _) n)).kept (ak _ _));clear Ly;generalize TU[q]=y at *;by_cases ZF:q=pz
            ·have Lh:=jdk.o ZF
             subst Lh;have HQZ:=ae ZF;clear ZF;go_wp2_with fail;go_quiet (fail)
             go_wp2_with (first | (at_builtin;refine aY rfl _ _ rfl wu.heap.size _ _ (q:Int) LL rfl (nE.o _ (q:Int)) rfl (aK _ _ _) hlen' ?f3 ?_))
             case f3=>first | omega | exact Lg.o _ _
             intro v7 w7 o7 b7;rw[HQZ.o]at o7;have iI:=ae o7;have ir:=ae ((fx.o _ (q:Int)).trans b7);clear o7 b7;go_wp2_with fail;go_roundw
             case rel=>exact⟨j+1,by omega,by go_num,by rw[lz.o];exact iI.o,ir.o⟩
             case measure=>simp[intOf];omega
            ·have fJ:=jdj.o (by omega)
             have Lh:((am y).toList==(am x).toList)=false:=by
              rw[bI,bI];exact jev.2 (fun e=>fJ (by rw[← fE jdi.o,← fE jdg.o,e]))
             have vR:=ae (ar ny.o);have nw:q+1<=pz:=(by omega);clear fJ ZF;go_wp2_with fail;go_quiet (fail)
             go_wp2_with fail;go_roundw
             case rel=>exact⟨q+1,nw,by go_num,vR.o _⟩
             case measure=>simp[intOf];omega
          ·obtain rfl:j=WW.length:=by omega
           rw[jes,← HPT.o]at HO;have hge3:¬ ((WW.length:Nat):Int)<(WW.length:Int):=(by omega);have HV9:=ae (HVU.o.kept pu.o);have HW9:=ae (HWU.o.kept pu.o);have HU9:=ae (HOU.o.kept pu.o);have ny:=ae (HBU.o.trans (pu.o.mono hzu));generalize wr=WR9 at *;have HLa:=ae (cH WR9 0);have HBa:=ae (ak WR9 (.cells #[.int .u8 0] 5));have hza:=jel WR9 (.cells #[.int .u8 0] 5);have HTa:=ae (jZ (HW9.o.kept HBa.o).sv Dh tZ.o);generalize plain WW=PLN at *;generalize dt WW=LST at *;generalize hTX1:fH WW=TX1 at *;clear hTX1;go_wp2_with fail;refine HTa.o.mono ?_;rintro e wa ⟨⟨va,rfl,oa⟩,Ba⟩;have HOa:=ae oa;have HLb:=ae (HLa.o.kept Ba);have HBab:=ae (HBa.o.trans (Ba.mono (by omega)));have hzb:=HBab.o.size;clear oa Ba;go_wp2_with (first | (at_builtin;refine ax rfl _ _ rfl WR9.heap.size _ _ [0] TX1 rfl HLb.o rfl HOa.o.sv ?g1 ?g2 ?_))
           case g1=>simp;omega
           case g2=>omega
           intro vc wc oc bc;have oc':aD wc WR9.heap.size vc PLN:=by rw[sL.o];exact oc
           have ML:=ae oc';have HBc:=ae (HBab.o.trans bc);have HVc:=ae (HV9.o.kept HBc.o);have HUc:=ae (HU9.o.kept HBc.o);have HPc:=ae (HO.o.kept HBc.o);have HB9c:=ae (ly ny.o HBc.o);obtain⟨ac,cc,rfl⟩:=oc'.len;have hzc:=HBc.o.size;clear oc oc' bc HLa HBa HTa HOa HLb HBab;have HLd:=ae (cH wc 1);have HBd:=ae (ak wc (.cells #[.int .u8 1] 5));have hzd:=jel wc (.cells #[.int .u8 1] 5);have jdl:=ae (bK TU.length (by omega));generalize hUV:uv TU.length=UV at *;clear hUV;go_wp2_with fail;refine(jdl.o _).mono ?_;rintro e wd ⟨⟨vd,rfl,od⟩,nC⟩;have HOd:=ae od;have HLe:=ae (HLd.o.kept nC);have HBde:=ae (HBd.o.trans (nC.mono (by omega)));have hze:=HBde.o.size;clear od nC;go_wp2_with (first | (at_builtin;refine ax rfl _ _ rfl wc.heap.size _ _ [1] UV rfl HLe.o rfl HOd.o.sv ?i1 ?i2 ?_))
           case i1=>simp;omega
           case i2=>omega
           intro vf wf of bf;have yi:=ae of;have HBf:=ae (HBde.o.trans bf);have hzf:=HBf.o.size;have HTf:=ae (jZ (HUc.o.kept HBf.o).sv vK HTQ.o);generalize hTX2:fH TU=TX2 at *;clear hTX2 of bf HLd HBd HOd HLe HBde;go_wp2_with fail;refine HTf.o.mono ?_;rintro e wg ⟨⟨vg,rfl,og⟩,hbg⟩;have HOg:=ae og;have HFg:=ae (yi.o.kept hbg);have HBg:=ae (HBf.o.trans (hbg.mono hzf));have hzg:=HBg.o.size;have Zm:jgf ((1::UV).length+TX2.length<=140737488355328):=ae (by rw[jer];omega);clear og hbg;go_wp2_with (first | (at_builtin;refine ax rfl _ _ rfl wc.heap.size _ _ (1::UV) TX2 rfl HFg.o rfl HOg.o.sv Zm.o hzg ?_))
           intro vh wh oh bh;have oh':aD wh wc.heap.size vh (1::(UV++TX2)):=oh;have HOH:=ae oh';clear oh';have HBh:=ae (HBg.o.trans bh);have hzh:=HBh.o.size;have HBEp:=ae (jF (HPc.o.kept HBh.o).sv HPI.o);rw[kp jde]at HBEp;generalize hBP:cV PT=BP at *;clear hBP oh bh;go_wp2_with fail;refine HBEp.o.mono ?_;rintro e wi ⟨⟨vi,rfl,oi⟩,hbi⟩;have HOi:=ae oi;have HHi:=ae (HOH.o.kept hbi);have HBi:=ae (HBh.o.trans (hbi.mono hzh));have hzi:=HBi.o.size;have HK1:jgf ((1::(UV++TX2)).length+BP.length<=140737488355328):=ae (by rw[jer,jem];omega);clear oi hbi;go_wp2_with (first | (at_builtin;refine ax rfl _ _ rfl wc.heap.size _ _ (1::(UV++TX2)) BP rfl HHi.o rfl HOi.o.sv HK1.o hzi ?_))
           intro vj wj oj bj;have oj':aD wj wc.heap.size vj LST:=by rw[sD.o];simpa using oj
           have HOJ:=ae oj';have HBj:=ae (HBi.o.trans bj);have hzj:=HBj.o.size;have HCj:=ae (ML.o.kept HBj.o);have HVj:=ae (HVc.o.kept HBj.o);have HB9j:=ae (ly HB9c.o HBj.o);have Ws:=HB9j.o.size;obtain⟨aj,cj,rfl⟩:=oj'.len;have hlst:LST.length<=40000:=by rw[sD.o];simp;omega
           have hpln:PLN.length<=40000:=by rw[sL.o];simp;omega
           have HL1a:jgf ((dO l).length+LST.length<=140737488355328):=ae (by omega);have HL1b:jgf ((dO l).length+PLN.length<=140737488355328):=ae (by omega);clear oj oj' bj;by_cases sJ:LST.length<PLN.length
           ·have hless':(LST.length:Int)<(PLN.length:Int):=by omega
            rw[jei sJ]at ZC;clear sJ;go_wp2_with (first | (at_builtin;refine ax rfl _ _ rfl w.heap.size _ _ (dO l) LST rfl HVj.o rfl HOJ.o.sv HL1a.o Ws ?_))
            intro vz wz oz bz;have zp:=ae oz;have tW:=ae (HB9j.o.trans bz);clear oz bz;go_wp2_with fail;go_ret2
            rw[yE.o,Ll.o,HT3'.o,ZC.o];exact⟨⟨_,rfl,zp.o⟩,tW.o⟩
           ·have hless':¬ (LST.length:Int)<(PLN.length:Int):=by omega
            rw[jeh sJ]at ZC;clear sJ;go_wp2_with (first | (at_builtin;refine ax rfl _ _ rfl w.heap.size _ _ (dO l) PLN rfl HVj.o rfl HCj.o.sv HL1b.o Ws ?_))
            intro vz wz oz bz;have zp:=ae oz;have tW:=ae (HB9j.o.trans bz);clear oz bz;go_wp2_with fail;go_ret2
            rw[yE.o,Ll.o,HT3'.o,ZC.o];exact⟨⟨_,rfl,zp.o⟩,tW.o⟩
       ·rw[jeu h0]
        have HHB:=ae (HHN.o h0);clear h0 HHN HHY;have WZ:=ae (QW.o.kept (ak wr (.cells #[.int .u8 0] 5)));have hzA:=jel wr (.cells #[.int .u8 0] 5);have yC:jgf (aD (wr.alloc (.cells #[.int .u8 0] 5)) w.heap.size (.slice (some ⟨wr.heap.size,0,none⟩) 1 1) (dO l)):=ae (by rw[HHB.o];exact(cH wr 0).low bv);have mz:=ae (aN.o.alloc bv (.cells #[.int .u8 0] 5));have Zh:=mz.o.size;obtain⟨wx,hwx⟩:∃ wx,wr.alloc (.cells #[.int .u8 0] 5)=wx:=⟨_,rfl⟩;rw[hwx]at WZ yC mz Zh;have HWX:=ae hwx;clear hwx;obtain rfl | rfl | rfl:k=1∨k=2∨k=3:=by omega
        ·have ju:=je WJ.o
         have fK:=gL ju.1 (by rw[jen];omega);have yp:=ae (jF WZ.o.2.2.1.sv ju.1);have Dh:(wh4 l).length<=256:=by unfold wh4;rw[jen];omega
         rw[kp Dh]at yp;have HT1':jgf (gE 1 l=cV (wh4 l)):=ae VU.o;have hbl':(cV (wh4 l)).length<=5131:=fK;clear ju fK;generalize cV (wh4 l)=BS at *;go_wp2_with fail;rw[HWX.o];refine yp.o.mono ?_;rintro e wy ⟨⟨vy,rfl,oy⟩,Be⟩;have HVY:=ae (yC.o.kept Be);have HOY:=ae oy;have Dn:=ae (mz.o.trans (Be.mono Zh));have hzy:=Dn.o.size;clear oy Be;go_wp2_with (first | (at_builtin;refine ax rfl _ _ rfl w.heap.size _ _ (dO l) BS rfl HVY.o rfl HOY.o.sv ?b1 ?b2 ?_))
         case b1=>omega
         case b2=>omega
         intro vz wz oz bz;have zp:=ae oz;have tW:=ae (Dn.o.trans bz);clear oz bz;go_wp2_with fail;go_ret2
         rw[yE.o,Ll.o,HT1'.o];exact⟨⟨_,rfl,zp.o⟩,tW.o⟩
        ·have ju:=fP WJ.o
         have fK:=jD ju.1 (by rw[jen];omega);have Wo:=Mp WJ.o
         have yp:=ae (tN WZ.o.2.1.sv (fun x hx=>by
          rw[Wo]at hx;have:=ju.1 x hx;omega))
         rw[Wo]at yp;clear ju Wo;have HT2':=ae Bc.o;generalize bm ((bV l).map fun c=>c.2.1.toNat) 1=BS at *;go_wp2_with fail;rw[HWX.o];refine yp.o.mono ?_;rintro e wy ⟨⟨vy,rfl,oy⟩,Be⟩;have HVY:=ae (yC.o.kept Be);have HOY:=ae oy;have Dn:=ae (mz.o.trans (Be.mono Zh));have hzy:=Dn.o.size;clear oy Be;go_wp2_with (first | (at_builtin;refine ax rfl _ _ rfl w.heap.size _ _ (dO l) BS rfl HVY.o rfl HOY.o.sv ?b1 ?b2 ?_))
         case b1=>omega
         case b2=>omega
         intro vz wz oz bz;have zp:=ae oz;have tW:=ae (Dn.o.trans bz);clear oz bz;go_wp2_with fail;go_ret2
         rw[yE.o,Ll.o,HT2'.o];exact⟨⟨_,rfl,zp.o⟩,tW.o⟩
        ·have ju:=gR WJ.o
         have hwz:=mM ju.1 (by rw[jen];omega);have sC:=ae ju.1;have Dh:(wd4 l).length<=256:=by unfold wd4;rw[jen];omega
         have HT3':jgf (gE 3 l=eS (wd4 l)):=ae MK.o;have ZC:jgf (eS (wd4 l)=if (dt (wd4 l)).length<(plain (wd4 l)).length then dt (wd4 l) else plain (wd4 l)):=rfl;have tZ:jgf (Ts (wd4 l)):=ae ju.1;clear ju MK VU Bc sC hwz;have WN:=WZ.o.2.2.2.1;have ZA:=ae WN;clear WN;generalize hWW:wd4 l=WW at *;clear hWW;have vK:(tuq WW).length<=256:=by have:=fO WW;omega
         have sL:jgf (plain WW=[0]++fH WW):=rfl;have sD:jgf (dt WW=[1]++uv (tuq WW).length++fH (tuq WW)++cV (cN WW)):=ae (by unfold dt;simp);have htx1:=ol tZ.o Dh;have ZD:=ol (lG tZ.o) vK;have WK:=gL (en Dh) (by rw[bY];exact Dh);have nB:=bO (n:=(tuq WW).length) (by omega);have QD:=ae (uN ZA.o.sv Dh (fun s hs=>(tZ.o s hs).2));go_wp2_with fail;rw[HWX.o];refine QD.o.mono ?_;rintro e wu ⟨⟨vu,rfl,ou⟩,Vz⟩;have HVU:=ae (yC.o.kept Vz);have HWU:=ae (ZA.o.kept Vz);have HOU:=ae ou;have HBU:=ae (mz.o.trans (Vz.mono Zh));have hzu:=HBU.o.size;have HPG:=ae (fun(x:List Nat) (hx:x∈WW)=>lj (jr.2 hx));obtain⟨au,cu,rfl,Zg,Wp⟩:=aO ou;obtain⟨aw,cw,hvw,tY,Wq⟩:=aO HWU.o;subst hvw;have hcum':cu<=9223372036854775807:=by unfold maxLen at Wp;omega
         have hcwm':cw<=9223372036854775807:=by unfold maxLen at Wq;omega
         have Wr:jgf (∀ s∈WW,Bs s):=ae (fun s hs=>(tZ.o s hs).2);have jdd:jgf (∀ s∈tuq WW,Bs s):=ae (fun s hs=>Wr.o s (jr.1 hs));clear ou Vz Wp Wq;have HPT:jgf (cN WW=WW.map fun s=>(plT (tuq WW) s:Int)):=rfl;have HTQ:=ae (lG tZ.o);have HPI:=ae (en Dh);have jde:(cN WW).length<=256:=by rw[bY];exact Dh
         generalize cN WW=PT at *;generalize hTU:tuq WW=TU at *;clear hTU;go_wp2_with fail;go_loopw [19,20] (fun o i wq=>∃ j:Nat,j<=WW.length/\i=.int .i64 (j:Int)/\bF wq wu.heap.size o ((WW.take j).map fun s=>(plT TU s:Int))/\Below wu.heap.size wu wq) (fun _ i _=>WW.length-(intOf i).toNat)
         case atStart=>exact⟨0,by omega,rfl,bF.nil _ _,jej _ _⟩
         case round =>
          obtain⟨j,hj,rfl,aA,az⟩:=hrel;have HO:=ae aA;have pu:=ae az;have zl:=az.size;clear aA az;by_cases aB:j<WW.length
          ·have hlt':(j:Int)<(WW.length:Int):=by omega
           obtain⟨gw,offw,jdf,hgw,Lx⟩:=HWU.o.sv.at1 (cO aB);subst jdf;rw[dM]at Lx;have HCW:=ae Lx;obtain⟨hp1,QN⟩:=HPG.o WW[j] (jeo aB);have Gj:=ae QN
           have lz:jgf ((WW.take (j+1)).map (fun s=>(plT TU s:Int))=(WW.take j).map (fun s=>(plT TU s:Int))++[(plT TU WW[j]:Int)]):=ae (by
            rw[jeA aB,jeE];rfl)
           have hlen':((WW.take j).map fun s=>(plT TU s:Int)).length<=100000:=by rw[jen,jeq];omega
           have HPN:=ae (fun(q:Nat) (h:q<TU.length) (hq:q<plT TU WW[j])=>KI h hq);have jdg:=ae (Wr.o WW[j] (jeo aB));clear Lx QN;generalize WW[j]=x at *;generalize ((WW.take j).map fun s=>(plT TU s:Int))=LL at *;generalize hpz:plT TU x=pz at *;clear hpz;generalize wr=WR9 at *;go_wp2_with fail;go_loopw [21] (fun i wq2=>∃ q:Nat,q<=pz/\i=.int .i64 (q:Int)/\Below WR9.heap.size WR9 wq2) (fun i _=>pz-(intOf i).toNat)
           case atStart=>exact⟨0,by omega,rfl,jej _ _⟩
           case round =>
            obtain⟨q,hq,rfl,oL⟩:=hrel;have ny:=ae oL;have YU:=oL.size;clear oL;have ZE:q<TU.length:=(by omega);have hqu':(q:Int)<(TU.length:Int):=(by omega);obtain⟨gu,offu,jdh,hgu,Ly⟩:=HOU.o.sv.at1 (cO ZE);cases jdh
            rw[dM]at Ly;have VN:=(ny.o.cell (p:=⟨gu,offu+q,none⟩) (jeH hgu zl)).trans ((pu.o.cell (p:=⟨gu,offu+q,none⟩) hgu).trans Ly);have hcw1:=(ny.o.cell (p:=⟨gw,offw+j,none⟩) (jeH hgw zl)).trans ((pu.o.cell (p:=⟨gw,offw+j,none⟩) hgw).trans HCW.o);have jdi:=ae (jdd.o TU[q] (jeo ZE));have jdj:=ae (HPN.o q ZE)
            have jdk:jgf (q=pz->TU[q]=x):=ae (fun e=>by
             have:=Gj.o;subst e;rw[List.getElem?_eq_getElem ZE]at this;exact Option.some.inj this)
            have fx:jgf (∀ n z,Below wu.heap.size wu ((wr.drewN n).alloc (.cells #[.int .i64 z] 2))):=ae (fun n z=>(ar (pu.o.trans (ny.o.mono zl)) n).alloc (by show wu.heap.size<=wr.heap.size;omega) _);have Lg:jgf (∀ n z,wu.heap.size<=((wr.drewN n).alloc (.cells #[.int .i64 z] 2)).heap.size):=ae (fun n z=>by rw[jel];show wu.heap.size<=wr.heap.size+1;omega);have nE:jgf (∀ n z,bF ((wr.drewN n).alloc (.cells #[.int .i64 z] 2)) wu.heap.size _ LL):=ae (fun n z=>((HO.o.kept ny.o).kept (ar (jej _ _) n)).kept (ak _ _));clear Ly;generalize TU[q]=y at *;by_cases ZF:q=pz
            ·have Lh:=jdk.o ZF
             subst Lh;have HQZ:=ae ZF;clear ZF;go_wp2_with fail;go_quiet (fail)
             go_wp2_with (first | (at_builtin;refine aY rfl _ _ rfl wu.heap.size _ _ (q:Int) LL rfl (nE.o _ (q:Int)) rfl (aK _ _ _) hlen' ?f3 ?_))
             case f3=>first | omega | exact Lg.o _ _
             intro v7 w7 o7 b7;rw[HQZ.o]at o7;have iI:=ae o7;have ir:=ae ((fx.o _ (q:Int)).trans b7);clear o7 b7;go_wp2_with fail;go_roundw
             case rel=>exact⟨j+1,by omega,by go_num,by rw[lz.o];exact iI.o,ir.o⟩
             case measure=>simp[intOf];omega
            ·have fJ:=jdj.o (by omega)
             have Lh:((am y).toList==(am x).toList)=false:=by
              rw[bI,bI];exact jev.2 (fun e=>fJ (by rw[← fE jdi.o,← fE jdg.o,e]))
             have vR:=ae (ar ny.o);have nw:q+1<=pz:=(by omega);clear fJ ZF;go_wp2_with fail;go_quiet (fail)
             go_wp2_with fail;go_roundw
             case rel=>exact⟨q+1,nw,by go_num,vR.o _⟩
             case measure=>simp[intOf];omega
          ·obtain rfl:j=WW.length:=by omega
           rw[jes,← HPT.o]at HO;have hge3:¬ ((WW.length:Nat):Int)<(WW.length:Int):=(by omega);have HV9:=ae (HVU.o.kept pu.o);have HW9:=ae (HWU.o.kept pu.o);have HU9:=ae (HOU.o.kept pu.o);have ny:=ae (HBU.o.trans (pu.o.mono hzu));generalize wr=WR9 at *;have HLa:=ae (cH WR9 0);have HBa:=ae (ak WR9 (.cells #[.int .u8 0] 5));have hza:=jel WR9 (.cells #[.int .u8 0] 5);have HTa:=ae (jZ (HW9.o.kept HBa.o).sv Dh tZ.o);generalize plain WW=PLN at *;generalize dt WW=LST at *;generalize hTX1:fH WW=TX1 at *;clear hTX1;go_wp2_with fail;refine HTa.o.mono ?_;rintro e wa ⟨⟨va,rfl,oa⟩,Ba⟩;have HOa:=ae oa;have HLb:=ae (HLa.o.kept Ba);have HBab:=ae (HBa.o.trans (Ba.mono (by omega)));have hzb:=HBab.o.size;clear oa Ba;go_wp2_with (first | (at_builtin;refine ax rfl _ _ rfl WR9.heap.size _ _ [0] TX1 rfl HLb.o rfl HOa.o.sv ?g1 ?g2 ?_))
           case g1=>simp;omega
           case g2=>omega
           intro vc wc oc bc;have oc':aD wc WR9.heap.size vc PLN:=by rw[sL.o];exact oc
           have ML:=ae oc';have HBc:=ae (HBab.o.trans bc);have HVc:=ae (HV9.o.kept HBc.o);have HUc:=ae (HU9.o.kept HBc.o);have HPc:=ae (HO.o.kept HBc.o);have HB9c:=ae (ly ny.o HBc.o);obtain⟨ac,cc,rfl⟩:=oc'.len;have hzc:=HBc.o.size;clear oc oc' bc HLa HBa HTa HOa HLb HBab;have HLd:=ae (cH wc 1);have HBd:=ae (ak wc (.cells #[.int .u8 1] 5));have hzd:=jel wc (.cells #[.int .u8 1] 5);have jdl:=ae (bK TU.length (by omega));generalize hUV:uv TU.length=UV at *;clear hUV;go_wp2_with fail;refine(jdl.o _).mono ?_;rintro e wd ⟨⟨vd,rfl,od⟩,nC⟩;have HOd:=ae od;have HLe:=ae (HLd.o.kept nC);have HBde:=ae (HBd.o.trans (nC.mono (by omega)));have hze:=HBde.o.size;clear od nC;go_wp2_with (first | (at_builtin;refine ax rfl _ _ rfl wc.heap.size _ _ [1] UV rfl HLe.o rfl HOd.o.sv ?i1 ?i2 ?_))
           case i1=>simp;omega
           case i2=>omega
           intro vf wf of bf;have yi:=ae of;have HBf:=ae (HBde.o.trans bf);have hzf:=HBf.o.size;have HTf:=ae (jZ (HUc.o.kept HBf.o).sv vK HTQ.o);generalize hTX2:fH TU=TX2 at *;clear hTX2 of bf HLd HBd HOd HLe HBde;go_wp2_with fail;refine HTf.o.mono ?_;rintro e wg ⟨⟨vg,rfl,og⟩,hbg⟩;have HOg:=ae og;have HFg:=ae (yi.o.kept hbg);have HBg:=ae (HBf.o.trans (hbg.mono hzf));have hzg:=HBg.o.size;have Zm:jgf ((1::UV).length+TX2.length<=140737488355328):=ae (by rw[jer];omega);clear og hbg;go_wp2_with (first | (at_builtin;refine ax rfl _ _ rfl wc.heap.size _ _ (1::UV) TX2 rfl HFg.o rfl HOg.o.sv Zm.o hzg ?_))
           intro vh wh oh bh;have oh':aD wh wc.heap.size vh (1::(UV++TX2)):=oh;have HOH:=ae oh';clear oh';have HBh:=ae (HBg.o.trans bh);have hzh:=HBh.o.size;have HBEp:=ae (jF (HPc.o.kept HBh.o).sv HPI.o);rw[kp jde]at HBEp;generalize hBP:cV PT=BP at *;clear hBP oh bh;go_wp2_with fail;refine HBEp.o.mono ?_;rintro e wi ⟨⟨vi,rfl,oi⟩,hbi⟩;have HOi:=ae oi;have HHi:=ae (HOH.o.kept hbi);have HBi:=ae (HBh.o.trans (hbi.mono hzh));have hzi:=HBi.o.size;have HK1:jgf ((1::(UV++TX2)).length+BP.length<=140737488355328):=ae (by rw[jer,jem];omega);clear oi hbi;go_wp2_with (first | (at_builtin;refine ax rfl _ _ rfl wc.heap.size _ _ (1::(UV++TX2)) BP rfl HHi.o rfl HOi.o.sv HK1.o hzi ?_))
           intro vj wj oj bj;have oj':aD wj wc.heap.size vj LST:=by rw[sD.o];simpa using oj
           have HOJ:=ae oj';have HBj:=ae (HBi.o.trans bj);have hzj:=HBj.o.size;have HCj:=ae (ML.o.kept HBj.o);have HVj:=ae (HVc.o.kept HBj.o);have HB9j:=ae (ly HB9c.o HBj.o);have Ws:=HB9j.o.size;obtain⟨aj,cj,rfl⟩:=oj'.len;have hlst:LST.length<=40000:=by rw[sD.o];simp;omega
           have hpln:PLN.length<=40000:=by rw[sL.o];simp;omega
           have HL1a:jgf ((dO l).length+LST.length<=140737488355328):=ae (by omega);have HL1b:jgf ((dO l).length+PLN.length<=140737488355328):=ae (by omega);clear oj oj' bj;by_cases sJ:LST.length<PLN.length
           ·have hless':(LST.length:Int)<(PLN.length:Int):=by omega
            rw[jei sJ]at ZC;clear sJ;go_wp2_with (first | (at_builtin;refine ax rfl _ _ rfl w.heap.size _ _ (dO l) LST rfl HVj.o rfl HOJ.o.sv HL1a.o Ws ?_))
            intro vz wz oz bz;have zp:=ae oz;have tW:=ae (HB9j.o.trans bz);clear oz bz;go_wp2_with fail;go_ret2
            rw[yE.o,Ll.o,HT3'.o,ZC.o];exact⟨⟨_,rfl,zp.o⟩,tW.o⟩
           ·have hless':¬ (LST.length:Int)<(PLN.length:Int):=by omega
            rw[jeh sJ]at ZC;clear sJ;go_wp2_with (first | (at_builtin;refine ax rfl _ _ rfl w.heap.size _ _ (dO l) PLN rfl HVj.o rfl HCj.o.sv HL1b.o Ws ?_))
            intro vz wz oz bz;have zp:=ae oz;have tW:=ae (HB9j.o.trans bz);clear oz bz;go_wp2_with fail;go_ret2
            rw[yE.o,Ll.o,HT3'.o,ZC.o];exact⟨⟨_,rfl,zp.o⟩,tW.o⟩
    ·have h256':(l.length:Int) > 256:=by omega
     have HE:jgf (WC=([],5)):=ae (Wn.o HA.o (fun h=>Gk h.1));clear Gk;go_wp2_with fail;go_ret2
     rw[HE.o];exact⟨⟨_,rfl,aD.nil _ _⟩,HB.o⟩
 ·have HE:jgf (dZ k l=([],10)):=ae (uO (fun h=>MF ⟨h.1,h.2.1⟩))
  clear hs hf bC;by_cases qB:(k:Int)<1
  ·clear MF
   go_enter Tryz.func47,Tryz.ntmps47
   go_wp2_with fail;go_ret2
   rw[HE.o];exact⟨⟨_,rfl,aD.nil _ _⟩,jej _ _⟩
  ·have hk4:(k:Int) > 3:=by omega
   clear MF;go_enter Tryz.func47,Tryz.ntmps47
   go_wp2_with fail;go_ret2
   rw[HE.o];exact⟨⟨_,rfl,aD.nil _ _⟩,jej _ _⟩
theorem Gg{w:World}{v:Value}{l:List Nat}(hs:SvK w v l)(h8:Bs l)(c:Nat)(hc:c<4294967296) :
  Calls Tryz.prog 75 #[.int .u32 (c:Int),v] w fun e w'=>e=.returned (.int .u32 ((nt c l:Nat):Int))/\w'=w:=by
 obtain⟨a,cap,rfl,h1,h2,_,eX⟩:=hs;have oD:l.length<=9223372036854775807:=by unfold maxLen at h2;omega
 have HC:=ae eX;have H8:=ae h8;have WI:bits .xor .u32 (c:Int) 4294967295=((c ^^^ 4294967295:Nat):Int):=u32_xor_nat c 4294967295 hc (by omega);have zg:c ^^^ 4294967295<4294967296:=kK hc (by omega);have HE:jgf (nt c l=run (c ^^^ 4294967295) l ^^^ 4294967295):=ae rfl;generalize nt c l=R at *;generalize c ^^^ 4294967295=s0 at *;clear eX h8 h1 h2;go_enter Tryz.func75,Tryz.ntmps75
 go_wp2_with fail;go_loopw [0,5] (fun st i w'=>w'=w/\∃ k:Nat,k<=l.length/\i=.int .i64 (k:Int)/\st=.int .u32 ((run s0 (l.take k):Nat):Int)) (fun _ i _=>l.length-(intOf i).toNat)
 case atStart=>exact⟨rfl,0,by omega,rfl,rfl⟩
 case round =>
  obtain⟨rfl,k,hk,rfl,rfl⟩:=hrel;by_cases aB:k<l.length
  ·obtain⟨b,off,rfl,hb,bn⟩:=HC.o (by omega)
   have dN:=bn k aB;have hx8:=H8.o.get aB;have eN:run s0 (l.take k)<4294967296:=tw zg (H8.o.take k);have HN:jgf (run s0 (l.take (k+1))=eE 8 (run s0 (l.take k) ^^^ l[k])):=ae (EW aB);clear bn;generalize l[k]=x at *;generalize run s0 (l.take k)=s at *;have WT:=u32_xor_nat s x eN (by omega);have zf:s ^^^ x<4294967296:=kK eN (by omega);generalize s ^^^ x=y at *;go_wp2_with fail;go_loopw [0,6] (fun st i w'=>w'=wr/\∃ j:Nat,j<=8/\i=.int .i64 (j:Int)/\st=.int .u32 ((eE j y:Nat):Int)) (fun _ i _=>8-(intOf i).toNat)
   case atStart=>exact⟨rfl,0,by omega,rfl,rfl⟩
   case round =>
    obtain⟨rfl,j,hj,rfl,rfl⟩:=hrel;by_cases Rb:j<8
    ·have hzl:eE j y<4294967296:=rK j zf
     have HSt:=ae (Pg j y);generalize eE j y=z at *
     have hand:bits .and .u32 (z:Int) 1=((z % 2:Nat):Int):=by
      have:=u32_and_nat z 1 hzl (by omega);rw[nat_mask1]at this;exact this
     have hdv:(z:Int) / 2=((z / 2:Nat):Int):=(by omega);have hxp:=u32_xor_nat (z / 2) 3988292384 (by omega) (by omega);have hjj:(j:Int)<8:=(by omega);by_cases hr:z % 2=1
     ·have gj:jgf (stp z=z / 2 ^^^ 3988292384):=by show _=_;unfold stp;rw[jei hr]
      rw[hr]at hand;have hxp':bits .xor .u32 ((z / 2:Nat):Int) 3988292384=((z / 2 ^^^ 3988292384:Nat):Int):=hxp;clear hxp hr;generalize z / 2 ^^^ 3988292384=q at *;generalize z / 2=h at *;go_wp2_with fail;go_roundw
      case rel=>exact⟨trivial,j+1,by omega,by go_num,by rw[HSt.o,gj.o]⟩
      case measure=>simp[intOf];omega
     ·have hr0:z % 2=0:=by omega
      have gj:jgf (stp z=z / 2):=by show _=_;unfold stp;rw[jeh hr,Nat.xor_zero]
      rw[hr0]at hand;clear hxp hr hr0;generalize z / 2=h at *;go_wp2_with fail;go_roundw
      case rel=>exact⟨trivial,j+1,by omega,by go_num,by rw[HSt.o,gj.o]⟩
      case measure=>simp[intOf];omega
    ·obtain rfl:j=8:=by omega
     obtain⟨Z,hZ⟩:∃ Z,run s0 (l.take (k+1))=Z:=⟨_,rfl⟩;rw[← HN.o,hZ];have HZ:=ae hZ;clear HN hZ;go_wp2_with fail;go_roundw
     case rel=>exact⟨trivial,k+1,by omega,by go_num,by rw[HZ.o]⟩
     case measure=>simp[intOf];omega
  ·obtain rfl:k=l.length:=by omega
   rw[jes];have eN:run s0 l<4294967296:=tw zg H8.o;have WT:=u32_xor_nat (run s0 l) 4294967295 eN (by omega);rw[← HE.o]at WT;have hxx':bits .xor .u32 ((run s0 l:Nat):Int) 4294967295=(R:Int):=WT;clear WT;generalize run s0 l=s at *;go_wp2_with fail;go_ret
   exact⟨rfl,rfl⟩
def tO:Nat->Nat->List Nat
 | 0,_=>[]
 | k+1,c=>tO k c++[c / 256 ^ k % 256]
theorem Vb(c:Nat):tO 4 c=le4 c:=by
 simp[tO,le4]
theorem uQ:∀ k c,(tO k c).length=k
 | 0,_=>rfl
 | k+1,c=>by rw[tO,jem,uQ k c];rfl
theorem Vc(w:World)(d:Nat):aD (w.alloc (.cells #[.int .u8 (d:Int)] 5)) w.heap.size (.slice (some ⟨w.heap.size,0,none⟩) 1 1) [d]:=oO w [d] (by unfold maxLen;simp)
theorem ow{w:World}{v:Value}{l:List Nat}(hs:SvK w v l)(h8:Bs l)(hl:l.length<=100000000) :
  Calls Tryz.prog 32 #[v] w (dA w (bE l)):=by
 have HS:=ae hs;have H8:=ae h8;have HE:jgf (bE l=l++tO 4 (nt 0 l)):=by show _=_;rw[Vb];rfl
 have hc:=vX (c:=0) (by omega) h8;have HM:=ae (fun(W:World) (h:SvK W v l)=>Gg h H8.o 0 (by omega));obtain⟨a,cap,rfl,h1,h2⟩:=hs.form;clear hs h8 h1 h2;generalize nt 0 l=c at *;have HN:=ae (aD.nil w w.heap.size);go_enter Tryz.func32,Tryz.ntmps32
 go_wp2_with (first | (at_builtin;refine dC rfl _ _ rfl w.heap.size _ _ [] l rfl ?q1 rfl ?q2 ?c1 ?c2 ?_))
 case q1=>exact HN.o
 case q2=>exact HS.o
 case c1=>simp;omega
 case c2=>omega
 intro v1 w1 o1 aH;have o1':aD w1 w.heap.size v1 l:=o1;have eO:=ae o1';have aP:=ae aH;have QJ:=ae (HM.o w1 (HS.o.kept aH));clear o1 o1' aH;go_wp2_with fail;refine QJ.o.mono ?_;rintro e w2 ⟨rfl,rfl⟩;go_wp2_with fail;go_loopw [3,4,5] (fun out s i wr=>∃ k:Nat,k<=4/\i=.int .i64 (k:Int)/\s=.int .u32 ((c / 256 ^ k:Nat):Int)/\aD wr w.heap.size out (l++tO k c)/\Below w.heap.size w wr) (fun _ _ i _=>4-(intOf i).toNat)
 case atStart=>exact⟨0,by omega,rfl,by simp,by rw[tO,jeG];exact eO.o,aP.o⟩
 case round =>
  obtain⟨k,hk,rfl,rfl,how,az⟩:=hrel;have HB:=ae az;have jG:=az.size;by_cases aB:k<4
  ·have GH:(k:Int)<4:=by omega
   have hq:((c / 256 ^ k:Nat):Int) / 256=((c / 256 ^ k / 256:Nat):Int):=(by omega);have hw8:=EX (c / 256 ^ k);have HD:jgf (l++tO (k+1) c=l++tO k c++[c / 256 ^ k % 256]):=by show _=_;rw[tO,jez]
   have HQ:jgf (c / 256 ^ (k+1)=c / 256 ^ k / 256):=by show _=_;rw[Nat.pow_succ,jga]
   have hzl:c / 256 ^ k<4294967296:=jf4 (Nat.div_le_self _ _) hc;have CU:jgf ((l++tO k c).length<=100000004):=by show _<=_;rw[jem,uQ];omega
   have HL:=ae (Vc wr (c / 256 ^ k % 256));have HO:=ae (how.kept (cF wr (.cells #[.int .u8 ((c / 256 ^ k % 256:Nat):Int)] 5)));have fx:=ae (HB.o.trans ((cF wr (.cells #[.int .u8 ((c / 256 ^ k % 256:Nat):Int)] 5)).mono jG));have HD':=HD;generalize l++tO k c=m at *;generalize c / 256 ^ k % 256=d at *;generalize c / 256 ^ k / 256=z2 at *;generalize c / 256 ^ k=z at *;clear how az;go_wp2_with (first | (at_builtin;refine dC rfl _ _ rfl w.heap.size _ _ m [d] rfl ?q3 rfl ?q4 ?c3 ?c4 ?_))
   case q3=>exact HO.o
   case q4=>exact HL.o.svK
   case c3=>have:=CU.o;simp;omega
   case c4=>rw[jel];omega
   intro v3 w3 o3 aS;rw[← HD.o]at o3;have dd:=ae o3;have bN:=ae (fx.o.trans aS);clear o3 aS;go_wp2_with fail;go_roundw
   case rel=>exact⟨k+1,by omega,by go_num,by rw[HQ.o],dd.o,bN.o⟩
   case measure=>simp[intOf];omega
  ·obtain rfl:k=4:=by omega
   rw[← HE.o]at how;have HO:=ae how;clear how az;generalize c / 256 ^ 4=z at *;go_wp2_with fail;go_ret
   exact⟨⟨_,rfl,HO.o⟩,HB.o⟩
end Go.Proofs.YtpljdjmpamjkhaaGreatDoor
