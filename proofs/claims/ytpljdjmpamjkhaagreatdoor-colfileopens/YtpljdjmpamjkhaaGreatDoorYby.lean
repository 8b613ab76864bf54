import Derived.Test.YtpljdjmpamjkhaaGreatDoorYbx
set_option linter.unusedVariables false
set_option linter.unusedSimpArgs false
set_option maxRecDepth 100000
set_option maxHeartbeats 16000000
namespace Go.Proofs.YtpljdjmpamjkhaaGreatDoor
open Go.RowKit Go.Lib
theorem kW{B:Nat}{a w w2:World}(h:Below B a w)(h2:Below w.heap.size w w2)(hB:B<=w.heap.size:=by omega):Below B a w2:=h.trans (h2.mono hB)
theorem jL.keptB{W W':World}{B B':Nat}{a b c d:Value}{L1 L2:List Nat}{L3:List Int}{L4:List (List Nat)}(h:jL W B a b c d L1 L2 L3 L4)(hb:Below B' W W')(hl:∀(x:Value) k,x=a∨x=b∨x=c∨x=d->x.ownBlock=some k->k<B'):jL W' B a b c d L1 L2 L3 L4:=by
 have key:∀{e n:Nat} {v:Value} {xs:List Value},W.ownsRow B e 1 v n xs->(∀ k,v.ownBlock=some k->k<B')->W'.ownsRow B e 1 v n xs:=fun{e n v xs} h hv=>by
  obtain⟨h0,h | ⟨g,cap,cur,rfl,h2,h3,h4⟩⟩:=h
  ·exact⟨h0,Or.inl h⟩
  ·exact⟨h0,Or.inr ⟨g,cap,cur,rfl,h2,(hb.block g (hv g rfl)).trans h3,h4⟩⟩
 exact⟨key h.1 (fun k=>hl a k (by simp)),key h.2.1 (fun k=>hl b k (by simp)),key h.2.2.1 (fun k=>hl c k (by simp)),key h.2.2.2.1 (fun k=>hl d k (by simp)),h.2.2.2.2⟩
theorem tM(w:World)(v:Value)(t n:Nat)(h:w.heap.size=n):(w.alloc (.cells #[v] t)).cell? ⟨n,0,none⟩=some v:=by
 subst h;exact aK _ _ _
theorem Bk{w:World}{v:Value}{l:List (Nat×Int×List Nat)}(hs:Sc w v l)(hf:∀ c∈l,zC c)(hl:l.length<=600)(k:Nat)(hk:k<256) :
  Calls Tryz.prog 47 #[.int .i64 (k:Int),v] w (sJ (dQ k l) w):=by
 have HS:=ae hs;have HF:=ae hf;obtain⟨a,cap,rfl,aX,bw⟩:=hs.form;have hcm':cap<=9223372036854775807:=by unfold maxLen at bw;omega
 by_cases Kb:1<=k/\k<=3
 ·have p9:¬ (k:Int)<1:=by omega
  have kz:¬ (k:Int) > 3:=by omega
  have Wp:=ae (fun(c:Nat×Int×List Nat) (hc:c∈l) (h:c.1≠0/\c.1≠k)=>tL (k:=k) (l:=l) (fun h2=>by
   rcases h2.2.2 c hc with e | e
   ·exact h.1 e
   ·exact h.2 e))
  have Sk:=ae (fun(h:∀ c∈l,c.1=0∨c.1=k) (h2:¬ (l.length<=256/\∀ c∈l,c.2.2.length<=64))=>Ej (k:=k) (l:=l) ⟨Kb.1,Kb.2,h⟩ h2);have zP:=ae (fun(h:∀ c∈l,c.1=0∨c.1=k) (h1:l.length<=256) (h2:∀ c∈l,c.2.2.length<=64)=>(⟨Kb,h1,fun c hc=>((hf c hc).fine (h2 c hc)).cellk (h c hc)⟩:Col k l));have HWC:=ae (fun h=>kb (k:=k) (l:=l) h);clear hs hf bw;generalize dQ k l=WC at *;go_enter Tryz.func47,Tryz.ntmps47
  go_wp2_with fail;go_loopw [6] (fun i wr=>∃ j:Nat,j<=l.length/\i=.int .i64 (j:Int)/\(∀ c∈l.take j,c.1=0∨c.1=k)/\Below w.heap.size w wr) (fun i _=>l.length-(intOf i).toNat)
  case atStart=>exact⟨0,by omega,rfl,fun c hc=>by simp at hc,ZQ _ _⟩
  case round =>
   obtain⟨j,hj,rfl,cU,ay⟩:=hrel;have HA:=ae cU;have HB:=ae ay;have bO:=ay.size;clear cU ay;by_cases aB:j<l.length
   ·obtain⟨g,off,rfl,hg,c0,c1,c2⟩:=(HS.out.kept HB.out).at aB
    have hlt':(j:Int)<(l.length:Int):=by omega
    have HM:=ae (ZV aB)
    have HT:Hid (∀ c,c∈l.take (j+1)->c∈l.take j∨c=l[j]):=ae (fun c hc=>by
     rw[Z5 aB]at hc;rcases jaj.1 hc with h | h
     ·exact Or.inl h
     ·exact Or.inr (by simpa using h))
    have Hw:=(HF.out l[j] (ZV aB)).parts.1;rw[ek]at c2;have BQ:Hid (∀ o,Below w.heap.size w (wr.alloc o)):=ae (fun o=>HB.out.alloc bO o);generalize l[j]=c at *;obtain⟨ck,cn,cs⟩:=c;simp only at *;by_cases h0:((ck:Int) != 0)=true
    ·by_cases h1:((ck:Int) != (k:Int))=true
     ·have HE:Hid (WC=([],10)):=ae (Wp.out _ HM.out (by
       have a1:(ck:Int)≠0:=by simpa using h0
       have a2:(ck:Int)≠(k:Int):=by simpa using h1
       exact⟨by simp only;omega,by simp only;omega⟩))
      go_wp2_with fail;go_ret2
      rw[HE.out];exact⟨⟨_,rfl,aC.nil _ _⟩,BQ.out _⟩
     ·have h1':((ck:Int) != (k:Int))=false:=by simpa using h1
      have mT:Hid (ck=k):=ae (by have:(ck:Int)=(k:Int):=(by simpa using h1);omega);clear h1;go_wp2_with fail;go_roundw
      case rel=>exact⟨j+1,by omega,by go_num,fun c hc=>(HT.out c hc).elim (HA.out c) (fun e=>by rw[e];exact Or.inr mT.out),BQ.out _⟩
      case measure=>simp[intOf];omega
    ·have h0':((ck:Int) != 0)=false:=by simpa using h0
     have mT:Hid (ck=0):=ae (by have:(ck:Int)=0:=(by simpa using h0);omega);clear h0;go_wp2_with fail;go_roundw
     case rel=>exact⟨j+1,by omega,by go_num,fun c hc=>(HT.out c hc).elim (HA.out c) (fun e=>by rw[e];exact Or.inl mT.out),BQ.out _⟩
     case measure=>simp[intOf];omega
   ·obtain rfl:j=l.length:=by omega
    rw[ZY]at HA;have gJ:¬ ((l.length:Nat):Int)<(l.length:Int):=by omega
    by_cases Eo:l.length<=256
    ·have h256':¬ (l.length:Int) > 256:=by omega
     generalize wr=W1 at *;go_wp2_with fail;go_loopw [8,9,10,11,12,13] (fun q1 q2 q3 q4 nu i wr=>∃ j:Nat,j<=l.length/\i=.int .i64 (j:Int)/\nu=.bool (decide (0∈bJ (l.take j)))/\(∀ c∈l.take j,c.2.2.length<=64)/\jL wr w.heap.size q1 q2 q3 q4 (bJ (l.take j)) (tr4 (l.take j)) (wh4 (l.take j)) (wd4 (l.take j))/\Below w.heap.size w wr) (fun _ _ _ _ _ i _=>l.length-(intOf i).toNat)
     case atStart=>exact⟨0,by omega,rfl,rfl,fun c hc=>by simp at hc,jL.nil _ _,HB.out⟩
     case round =>
      obtain⟨j,hj,rfl,rfl,Wc,Wq,ay⟩:=hrel;have Zt:=ae Wc;have MO:=ae Wq;have aN:=ae ay;have bm:=ay.size;clear Wc Wq ay;by_cases aB:j<l.length
      ·obtain⟨g,off,rfl,hg,c0,c1,c2⟩:=(HS.out.kept aN.out).at aB
       have hlt':(j:Int)<(l.length:Int):=by omega
       have HM:=ae (ZV aB)
       have HT:Hid (∀ c,c∈l.take (j+1)->c∈l.take j∨c=l[j]):=ae (fun c hc=>by
        rw[Z5 aB]at hc;rcases jaj.1 hc with h | h
        ·exact Or.inl h
        ·exact Or.inr (by simpa using h))
       have Mw:=ae (HF.out l[j] (ZV aB));have Hw:=Mw.out.parts.1;rw[ek]at c2;have HN4:=ae (fun h0=>L8 aB h0);have um:=ae (fun h0=>L9 aB h0);have hln:=Q3 l j;obtain⟨hln1,hln2,hln3,hln4⟩:=hln;have BQ:Hid (∀ o,Below w.heap.size w (wr.alloc o)):=ae (fun o=>aN.out.alloc bm o);have jq:(am l[j].2.2).size=l[j].2.2.length:=bi _;have rz:=ae jq;clear jq;generalize l[j]=c at *;obtain⟨ck,cn,cs⟩:=c;simp only at *;by_cases kC:cs.length<=64
       ·have h64':¬ ((am cs).size:Int) > 64:=by rw[rz.out];omega
        have HSH':Hid (∀ c∈l.take (j+1),c.2.2.length<=64):=ae (fun c hc=>(HT.out c hc).elim (Zt.out c) (fun e=>by rw[e];exact kC));clear kC;by_cases h0:ck=0
        ·obtain⟨e1,e2,e3,e4⟩:=HN4.out h0
         have Nb:=ae (And.intro e1 (And.intro e2 (And.intro e3 e4)));have HDT:Hid (decide (0∈bJ (l.take (j+1)))=true):=ae (decide_eq_true (by rw[e1];simp));clear e1 e2 e3 e4 um HN4;subst h0;have BI:=ae (MO.out.kept (ak wr (.cells #[.int .u8 0,.int .i64 cn,.string (am cs)] 52)));have hzA:=ZS wr (.cells #[.int .u8 0,.int .i64 cn,.string (am cs)] 52);generalize bJ (l.take j)=L1 at *;generalize tr4 (l.take j)=L2 at *;generalize wh4 (l.take j)=L3 at *;generalize wd4 (l.take j)=L4 at *;generalize decide (0∈L1)=nul0 at *;go_wp2_with (first | (at_builtin;refine iZ rfl _ _ rfl w.heap.size _ _ 0 L1 rfl (BI.out.1.kept (ak _ _)) rfl (tM _ _ _ _ hzA) (by omega) ?c2 ?_))
         case c2=>first | omega | (rw[ZS];omega)
         intro v5 w5 o5 g5 n5;have xy:=ae ((BI.out.kept (ak _ _)).g1 o5 g5 (by simpa [ZS]using n5));have aR:=ae (((BQ.out (.cells #[.int .u8 0,.int .i64 cn,.string (am cs)] 52)).alloc (by omega) _).grown g5 (by rw[ZS];omega) (fun k hk=>(BI.out.1.lt k hk).1));clear o5 g5 n5;go_wp2_with fail;go_roundw
         case rel=>exact⟨j+1,by omega,by go_num,by rw[HDT.out],HSH'.out,by rw[Nb.out.1,Nb.out.2.1,Nb.out.2.2.1,Nb.out.2.2.2];exact xy.out,aR.out⟩
         case measure=>simp[intOf];omega
        ·skip
         have hne0:((ck:Int)==0)=false:=Z1.2 (by omega);obtain⟨e1,e2,e3,e4⟩:=um.out h0;have Nb:=ae (And.intro e1 (And.intro e2 (And.intro e3 e4)));have HDT:Hid (decide (0∈bJ (l.take (j+1)))=decide (0∈bJ (l.take j))):=ae (by rw[e1];simp);clear e1 e2 e3 e4 um HN4 h0;have BI:=ae (MO.out.kept (ak wr (.cells #[.int .u8 (ck:Int),.int .i64 cn,.string (am cs)] 52)));have hzA:=ZS wr (.cells #[.int .u8 (ck:Int),.int .i64 cn,.string (am cs)] 52);have HCB0:Hid ((wr.alloc (.cells #[.int .u8 (ck:Int),.int .i64 cn,.string (am cs)] 52)).heap[wr.heap.size]?=some (.cells #[.int .u8 (ck:Int),.int .i64 cn,.string (am cs)] 52 (0,0))):=ae (heap_alloc_new _ _)
         have YN:Hid (∀ x:Value,x=u8∨x=u9∨x=u10∨x=u11->some wr.heap.size≠x.ownBlock):=ae (fun x hx e=>by
          rcases hx with rfl | rfl | rfl | rfl
          ·have:=(MO.out.1.lt _ e.symm).2;omega
          ·have:=(MO.out.2.1.lt _ e.symm).2;omega
          ·have:=(MO.out.2.2.1.lt _ e.symm).2;omega
          ·have:=(MO.out.2.2.2.1.lt _ e.symm).2;omega)
         generalize decide (0∈bJ (l.take j))=nul0 at *;generalize bJ (l.take j)=L1 at *;generalize tr4 (l.take j)=L2 at *;generalize wh4 (l.take j)=L3 at *;generalize wd4 (l.take j)=L4 at *;have hconv:IntKind.u64.wrap cn=(xf cn:Int):=G5 cn;generalize hU:xf cn=U at *;clear hU;go_wp2_with (first | (at_builtin;refine iZ rfl _ _ rfl w.heap.size _ _ 1 L1 rfl (BI.out.1.kept (ak _ _)) rfl (tM _ _ _ _ hzA) (by omega) ?c2 ?_))
         case c2=>first | omega | (rw[ZS];omega)
         intro v5 w5 o5 g5 n5;have xy:=ae ((BI.out.kept (ak _ _)).g1 o5 g5 (by simpa [ZS]using n5));have bq:Below w.heap.size w w5:=((BQ.out (.cells #[.int .u8 (ck:Int),.int .i64 cn,.string (am cs)] 52)).alloc (by omega) _).grown g5 (by rw[ZS];omega) (fun k hk=>(BI.out.1.lt k hk).1);have uG:=g5.size;rw[ZS,hzA]at uG;have hC5:w5.heap[wr.heap.size]?=some (.cells #[.int .u8 (ck:Int),.int .i64 cn,.string (am cs)] 52 (0,0)):=(g5.block _ (by rw[ZS];omega) (YN.out _ (by simp))).trans (((ak _ _).block _ (by omega)).trans HCB0.out);have hc51:w5.cell? ⟨wr.heap.size,1,none⟩=some (.int .i64 cn):=by rw[ax hC5];rfl
         have aR:=ae bq;have HC5:=ae hC5;have hzz5:=bq.size;clear o5 g5 n5 bq hC5 c0 c1 c2;go_wp2_with (first | (at_builtin;refine l7 rfl _ _ rfl w.heap.size _ _ cn L3 rfl (xy.out.2.2.1.kept (ak _ _)) rfl (aK _ _ _) (by omega) ?c3 ?_))
         case c3=>first | omega | (rw[ZS];omega)
         intro v6 w6 o6 g6;have EU:=ae ((xy.out.kept (ak _ _)).g3 o6 g6);have dN:Below w.heap.size w w6:=(aR.out.alloc hzz5 _).grown g6 (by rw[ZS];omega) (fun k hk=>(MO.out.2.2.1.lt k hk).1);have Ew:=g6.size;rw[ZS]at Ew;have hC6:w6.heap[wr.heap.size]?=some (.cells #[.int .u8 (ck:Int),.int .i64 cn,.string (am cs)] 52 (0,0)):=(g6.block _ (by rw[ZS];omega) (YN.out _ (by simp))).trans (((ak _ _).block _ (by omega)).trans HC5.out);have hc61:w6.cell? ⟨wr.heap.size,1,none⟩=some (.int .i64 cn):=by rw[ax hC6];rfl
         have i5:=ae dN;have HC6:=ae hC6;have hzz6:=dN.size;clear o6 g6 dN hC6 hc51;go_wp2_with (first | (at_builtin;refine iZ rfl _ _ rfl w.heap.size _ _ U L2 rfl (EU.out.2.1.kept (ak _ _)) rfl (aK _ _ _) (by omega) ?c4 ?_))
         case c4=>first | omega | (rw[ZS];omega)
         intro v7 w7 o7 g7 n7;have VL:=ae ((EU.out.kept (ak _ _)).g2 o7 g7 (by simpa [ZS]using n7));have jd:Below w.heap.size w w7:=(i5.out.alloc hzz6 _).grown g7 (by rw[ZS];omega) (fun k hk=>(MO.out.2.1.lt k hk).1);have hz7:=g7.size;rw[ZS]at hz7;have hC7:w7.heap[wr.heap.size]?=some (.cells #[.int .u8 (ck:Int),.int .i64 cn,.string (am cs)] 52 (0,0)):=(g7.block _ (by rw[ZS];omega) (YN.out _ (by simp))).trans (((ak _ _).block _ (by omega)).trans HC6.out);have hc72:w7.cell? ⟨wr.heap.size,2,none⟩=some (.string (am cs)):=by rw[ax hC7];rfl
         have ia:=ae jd;have hzz7:=jd.size;clear o7 g7 n7 jd hC7 hc61;go_wp2_with (first | (at_builtin;refine rt rfl _ _ rfl w.heap.size _ _ cs L4 rfl (VL.out.2.2.2.1.kept (ak _ _)) rfl (aK _ _ _) (by omega) ?c5 ?_))
         case c5=>first | omega | (rw[ZS];omega)
         intro v8 w8 o8 g8;have XQ:=ae ((VL.out.kept (ak _ _)).g4 o8 g8);have p6:=ae ((ia.out.alloc hzz7 _).grown g8 (by rw[ZS];omega) (fun k hk=>(MO.out.2.2.2.1.lt k hk).1));clear o8 g8;go_wp2_with fail;go_roundw
         case rel=>exact⟨j+1,by omega,by go_num,by rw[HDT.out],HSH'.out,by rw[Nb.out.1,Nb.out.2.1,Nb.out.2.2.1,Nb.out.2.2.2];exact XQ.out,p6.out⟩
         case measure=>simp[intOf];omega
       ·have h64':((am cs).size:Int) > 64:=by rw[rz.out];omega
        have HE:Hid (WC=([],5)):=ae (Sk.out HA.out (fun h=>kC (h.2 _ HM.out)));clear kC;go_wp2_with fail;go_ret2
        rw[HE.out];exact⟨⟨_,rfl,aC.nil _ _⟩,BQ.out _⟩
      ·skip
       obtain rfl:j=l.length:=by omega
       rw[ZY]at Zt MO;rw[ZY];have hge2:¬ ((l.length:Nat):Int)<(l.length:Int):=by omega
       have dT:=zP.out HA.out Eo Zt.out;have xC:=ae (HWC.out dT);have hhd:=(rV (l:=l) Eo).1;have hol:=gS l;have HHN:=ae (Du (l:=l));have HHY:=ae (zp (l:=l));have HTT:=ae (dU l);have kD:=jn (dU l) (by rw[bg];exact Eo);have Hx:Hid (em k l=dD l++gi k l):=rfl;have RU:=ae (vG l);have zS:=ae (vH l);have Kg:=ae (vI l);have SN:=ae dT.2.2;have EP:=dT.1;clear zP HWC dT Wp Sk;by_cases h0:0∈bJ l
       ·rw[decide_eq_true h0]
        have Yb:=ae (HHY.out h0);clear h0 HHN HHY;have Ho:=ae (MO.out.kept (ak wr (.cells #[.int .u8 0] 5)));have hzA:=ZS wr (.cells #[.int .u8 0] 5);have S4:=ae (Ho.out.kept (ak _ (.cells #[.int .u8 1] 5)));have hzB:=ZS (wr.alloc (.cells #[.int .u8 0] 5)) (.cells #[.int .u8 1] 5);have fZ:=ae ((aN.out.alloc bm (.cells #[.int .u8 0] 5)).alloc (by omega) (.cells #[.int .u8 1] 5));have EQ:=ae (cD (wr.alloc (.cells #[.int .u8 0] 5)) 1);rw[hzA]at EQ;have HFLG:=ae (sR S4.out.1.sv (fun x hx=>by have:=HTT.out x hx;omega));generalize hPK:be (bJ l) 1=PK at *;clear hPK;go_wp2_with fail;refine HFLG.out.mono ?_;rintro e w1 ⟨⟨v1,rfl,o1⟩,aG⟩;have fA:=ae o1;have VJ:=ae (EQ.out.kept aG);have Bx:=ae (S4.out.kept aG);have cW:=aG.size;have aQ:=ae (fZ.out.trans (aG.mono (by omega)));clear o1 aG;go_wp2_with (first | (at_builtin;refine ar rfl _ _ rfl (wr.heap.size+1) _ _ [1] PK rfl VJ.out rfl fA.out.sv ?a1 ?a2 ?_))
        case a1=>simp;omega
        case a2=>omega
        intro vb wx ob bb;have xA:Hid (aC wx w.heap.size vb (dD l)):=ae (by rw[Yb.out];exact ob.low (by omega))
        have S5:Hid (jL wx w.heap.size _ _ _ _ (bJ l) (tr4 l) (wh4 l) (wd4 l)):=ae (by
         have hq:=MO.out
         have ix:∀ x:Value,(∃ k,x.ownBlock=some k/\¬ k<wr.heap.size+1)->x=u8∨x=u9∨x=u10∨x=u11->False:=fun x ⟨k,hk,hn⟩ hx=>by
          rcases hx with rfl | rfl | rfl | rfl
          ·have:=(hq.1.lt _ hk).2;omega
          ·have:=(hq.2.1.lt _ hk).2;omega
          ·have:=(hq.2.2.1.lt _ hk).2;omega
          ·have:=(hq.2.2.2.1.lt _ hk).2;omega
         exact jL.keptB Bx.out bb (fun x k hx hk=>by
          rcases jae k (wr.heap.size+1)with h | h
          ·exact h
          ·exact(ix x ⟨k,hk,by omega⟩ hx).elim))
        have l8:=ae (aQ.out.trans (bb.mono (by omega)));have UR:=l8.out.size;clear ob bb Ho S4 Bx fZ aQ VJ fA EQ HFLG;obtain rfl | rfl | rfl:k=1∨k=2∨k=3:=by omega
        ·have je:=iS SN.out
         have fM:=gx je.1 (by rw[ZU];omega);have xo:=ae (jp S5.out.2.2.1.sv je.1);have BJ:(wh4 l).length<=256:=by unfold wh4;rw[ZU];omega
         rw[jT BJ]at xo;have HT1':Hid (gi 1 l=cN (wh4 l)):=ae RU.out;have hbl':(cN (wh4 l)).length<=5131:=fM;clear je fM;generalize cN (wh4 l)=BS at *;go_wp2_with fail;refine xo.out.mono ?_;rintro e wy ⟨⟨vy,rfl,oy⟩,EF⟩;have YO:=ae (xA.out.kept EF);have YP:=ae oy;have BR:=ae (l8.out.trans (EF.mono UR));have hzy:=BR.out.size;clear oy EF;go_wp2_with (first | (at_builtin;refine ar rfl _ _ rfl w.heap.size _ _ (dD l) BS rfl YO.out rfl YP.out.sv ?b1 ?b2 ?_))
         case b1=>omega
         case b2=>omega
         intro vz wz oz bz;have yi:=ae oz;have yj:=ae (BR.out.trans bz);clear oz bz;go_wp2_with fail;go_ret2
         rw[xC.out,Hx.out,HT1'.out];exact⟨⟨_,rfl,yi.out⟩,yj.out⟩
        ·have je:=fF SN.out
         have fM:=jn je.1 (by rw[ZU];omega);have Sm:=JU SN.out
         have xo:=ae (sR S5.out.2.1.sv (fun x hx=>by
          rw[Sm]at hx;have:=je.1 x hx;omega))
         rw[Sm]at xo;clear je Sm;have HT2':=ae zS.out;generalize be ((bS l).map fun c=>c.2.1.toNat) 1=BS at *;go_wp2_with fail;refine xo.out.mono ?_;rintro e wy ⟨⟨vy,rfl,oy⟩,EF⟩;have YO:=ae (xA.out.kept EF);have YP:=ae oy;have BR:=ae (l8.out.trans (EF.mono UR));have hzy:=BR.out.size;clear oy EF;go_wp2_with (first | (at_builtin;refine ar rfl _ _ rfl w.heap.size _ _ (dD l) BS rfl YO.out rfl YP.out.sv ?b1 ?b2 ?_))
         case b1=>omega
         case b2=>omega
         intro vz wz oz bz;have yi:=ae oz;have yj:=ae (BR.out.trans bz);clear oz bz;go_wp2_with fail;go_ret2
         rw[xC.out,Hx.out,HT2'.out];exact⟨⟨_,rfl,yi.out⟩,yj.out⟩
        ·have je:=gE SN.out
         have hwz:=mq je.1 (by rw[ZU];omega);have rx:=ae je.1;have BJ:(wd4 l).length<=256:=by unfold wd4;rw[ZU];omega
         have HT3':Hid (gi 3 l=eJ (wd4 l)):=ae Kg.out;have Vf:Hid (eJ (wd4 l)=if (dh (wd4 l)).length<(plain (wd4 l)).length then dh (wd4 l) else plain (wd4 l)):=rfl;have sZ:Hid (Ts (wd4 l)):=ae je.1;clear je Kg RU zS rx hwz;have SS:=S5.out.2.2.2.1;have Vd:=ae SS;clear SS;generalize hWW:wd4 l=WW at *;clear hWW;have uj:(tuq WW).length<=256:=by have:=fE WW;omega
         have rH:Hid (plain WW=[0]++fx WW):=rfl;have ry:Hid (dh WW=[1]++uv (tuq WW).length++fx (tuq WW)++cN (cI WW)):=ae (by unfold dh;simp);have htx1:=nB sZ.out BJ;have Vg:=nB (li sZ.out) uj;have SP:=gx (dZ BJ) (by rw[bU];exact BJ);have mY:=bI (n:=(tuq WW).length) (by omega);have Mx:=ae (tK Vd.out.sv BJ (fun s hs=>(sZ.out s hs).2));go_wp2_with fail;refine Mx.out.mono ?_;rintro e wu ⟨⟨vu,rfl,ou⟩,Rq⟩;have HVU:=ae (xA.out.kept Rq);have YQ:=ae (Vd.out.kept Rq);have HOU:=ae ou;have YL:=ae (l8.out.trans (Rq.mono UR));have hzu:=YL.out.size;have HPG:=ae (fun(x:List Nat) (hx:x∈WW)=>kL (ja.2 hx));obtain⟨au,cu,rfl,UQ,Sn⟩:=aM ou;obtain⟨aw,cw,hvw,EK,So⟩:=aM YQ.out;subst hvw;have hcum':cu<=9223372036854775807:=by unfold maxLen at Sn;omega
         have hcwm':cw<=9223372036854775807:=by unfold maxLen at So;omega
         have Sp:Hid (∀ s∈WW,Bs s):=ae (fun s hs=>(sZ.out s hs).2);have YR:Hid (∀ s∈tuq WW,Bs s):=ae (fun s hs=>Sp.out s (ja.1 hs));clear ou Rq Sn So;have HPT:Hid (cI WW=WW.map fun s=>(plT (tuq WW) s:Int)):=rfl;have HTQ:=ae (li sZ.out);have HPI:=ae (dZ BJ);have YS:(cI WW).length<=256:=by rw[bU];exact BJ
         generalize cI WW=PT at *;generalize hTU:tuq WW=TU at *;clear hTU;go_wp2_with fail;go_loopw [19,20] (fun o i wq=>∃ j:Nat,j<=WW.length/\i=.int .i64 (j:Int)/\br wq wu.heap.size o ((WW.take j).map fun s=>(plT TU s:Int))/\Below wu.heap.size wu wq) (fun _ i _=>WW.length-(intOf i).toNat)
         case atStart=>exact⟨0,by omega,rfl,br.nil _ _,ZQ _ _⟩
         case round =>
          obtain⟨j,hj,rfl,az,ay⟩:=hrel;have HO:=ae az;have oJ:=ae ay;have yg:=ay.size;clear az ay;by_cases aB:j<WW.length
          ·have hlt':(j:Int)<(WW.length:Int):=by omega
           obtain⟨gw,offw,YT,hgw,Jg⟩:=YQ.out.sv.at1 (cJ aB);subst YT;rw[ek]at Jg;have HCW:=ae Jg;obtain⟨ZC,MH⟩:=HPG.out WW[j] (ZV aB);have En:=ae MH
           have mV:Hid ((WW.take (j+1)).map (fun s=>(plT TU s:Int))=(WW.take j).map (fun s=>(plT TU s:Int))++[(plT TU WW[j]:Int)]):=ae (by
            rw[Z5 aB,Z8];rfl)
           have hlen':((WW.take j).map fun s=>(plT TU s:Int)).length<=100000:=by rw[ZU,ZX];omega
           have HPN:=ae (fun(q:Nat) (h:q<TU.length) (hq:q<plT TU WW[j])=>G6 h hq);have YU:=ae (Sp.out WW[j] (ZV aB));clear Jg MH;generalize WW[j]=x at *;generalize ((WW.take j).map fun s=>(plT TU s:Int))=LL at *;generalize hpz:plT TU x=pz at *;clear hpz;generalize wr=WR9 at *;go_wp2_with fail;go_loopw [21] (fun i wq2=>∃ q:Nat,q<=pz/\i=.int .i64 (q:Int)/\Below WR9.heap.size WR9 wq2) (fun i _=>pz-(intOf i).toNat)
           case atStart=>exact⟨0,by omega,rfl,ZQ _ _⟩
           case round =>
            obtain⟨q,hq,rfl,nN⟩:=hrel;have pi:=ae nN;have UH:=nN.size;clear nN;have Vh:q<TU.length:=by omega
            have hqu':(q:Int)<(TU.length:Int):=by omega
            obtain⟨gu,offu,YV,Zy,Jh⟩:=HOU.out.sv.at1 (cJ Vh);cases YV
            rw[ek]at Jh;have RK:=(pi.out.cell (p:=⟨gu,offu+q,none⟩) (Z9 Zy yg)).trans ((oJ.out.cell (p:=⟨gu,offu+q,none⟩) Zy).trans Jh);have hcw1:=(pi.out.cell (p:=⟨gw,offw+j,none⟩) (Z9 hgw yg)).trans ((oJ.out.cell (p:=⟨gw,offw+j,none⟩) hgw).trans HCW.out);have YW:=ae (YR.out TU[q] (ZV Vh));have YX:=ae (HPN.out q Vh)
            have YY:Hid (q=pz->TU[q]=x):=ae (fun e=>by
             have:=En.out;subst e;rw[List.getElem?_eq_getElem Vh]at this;exact Option.some.inj this)
            have eW:Hid (∀ n z,Below wu.heap.size wu ((wr.drewN n).alloc (.cells #[.int .i64 z] 2))):=ae (fun n z=>(below_drewN (oJ.out.trans (pi.out.mono yg)) n).alloc (by show wu.heap.size<=wr.heap.size;omega) _);have Hs:Hid (∀ n z,wu.heap.size<=((wr.drewN n).alloc (.cells #[.int .i64 z] 2)).heap.size):=ae (fun n z=>by rw[ZS];show wu.heap.size<=wr.heap.size+1;omega);have m6:Hid (∀ n z,br ((wr.drewN n).alloc (.cells #[.int .i64 z] 2)) wu.heap.size _ LL):=ae (fun n z=>((HO.out.kept pi.out).kept (below_drewN (ZQ _ _) n)).kept (ak _ _));clear Jh;generalize TU[q]=y at *;by_cases Vi:q=pz
            ·have Ht:=YY.out Vi
             subst Ht;have HQZ:=ae Vi;clear Vi;go_wp2_with fail;go_quiet (fail)
             go_wp2_with (first | (at_builtin;refine aW rfl _ _ rfl wu.heap.size _ _ (q:Int) LL rfl (m6.out _ (q:Int)) rfl (aK _ _ _) hlen' ?f3 ?_))
             case f3=>first | omega | exact Hs.out _ _
             intro v7 w7 o7 b7;rw[HQZ.out]at o7;have iw:=ae o7;have ia:=ae ((eW.out _ (q:Int)).trans b7);clear o7 b7;go_wp2_with fail;go_roundw
             case rel=>exact⟨j+1,by omega,by go_num,by rw[mV.out];exact iw.out,ia.out⟩
             case measure=>simp[intOf];omega
            ·have fO:=YX.out (by omega)
             have Ht:((am y).toList==(am x).toList)=false:=by
              rw[bx,bx];exact Z1.2 (fun e=>fO (by rw[← ff YW.out,← ff YU.out,e]))
             have ux:=ae (below_drewN pi.out);have mS:q+1<=pz:=by omega
             clear fO Vi;go_wp2_with fail;go_quiet (fail)
             go_wp2_with fail;go_roundw
             case rel=>exact⟨q+1,mS,by go_num,ux.out _⟩
             case measure=>simp[intOf];omega
          ·obtain rfl:j=WW.length:=by omega
           rw[ZY,← HPT.out]at HO;have hge3:¬ ((WW.length:Nat):Int)<(WW.length:Int):=by omega
           have HV9:=ae (HVU.out.kept oJ.out);have HW9:=ae (YQ.out.kept oJ.out);have HU9:=ae (HOU.out.kept oJ.out);have pi:=ae (YL.out.trans (oJ.out.mono hzu));generalize wr=WR9 at *;have HLa:=ae (cD WR9 0);have HBa:=ae (ak WR9 (.cells #[.int .u8 0] 5));have hza:=ZS WR9 (.cells #[.int .u8 0] 5);have HTa:=ae (jK (HW9.out.kept HBa.out).sv BJ sZ.out);generalize plain WW=PLN at *;generalize dh WW=LST at *;generalize hTX1:fx WW=TX1 at *;clear hTX1;go_wp2_with fail;refine HTa.out.mono ?_;rintro e wa ⟨⟨va,rfl,oa⟩,zR⟩;have HOa:=ae oa;have HLb:=ae (HLa.out.kept zR);have HBab:=ae (HBa.out.trans (zR.mono (by omega)));have hzb:=HBab.out.size;clear oa zR;go_wp2_with (first | (at_builtin;refine ar rfl _ _ rfl WR9.heap.size _ _ [0] TX1 rfl HLb.out rfl HOa.out.sv ?g1 ?g2 ?_))
           case g1=>simp;omega
           case g2=>omega
           intro vc wc oc bc;have oc':aC wc WR9.heap.size vc PLN:=by rw[rH.out];exact oc
           have U8:=ae oc';have HBc:=ae (HBab.out.trans bc);have HVc:=ae (HV9.out.kept HBc.out);have HUc:=ae (HU9.out.kept HBc.out);have HPc:=ae (HO.out.kept HBc.out);have HB9c:=ae (kW pi.out HBc.out);obtain⟨ac,cc,rfl⟩:=oc'.len;have hzc:=HBc.out.size;clear oc oc' bc HLa HBa HTa HOa HLb HBab;have HLd:=ae (cD wc 1);have HBd:=ae (ak wc (.cells #[.int .u8 1] 5));have hzd:=ZS wc (.cells #[.int .u8 1] 5);have YZ:=ae (bC TU.length (by omega));generalize hUV:uv TU.length=UV at *;clear hUV;go_wp2_with fail;refine(YZ.out _).mono ?_;rintro e wd ⟨⟨vd,rfl,od⟩,mZ⟩;have HOd:=ae od;have HLe:=ae (HLd.out.kept mZ);have HBde:=ae (HBd.out.trans (mZ.mono (by omega)));have hze:=HBde.out.size;clear od mZ;go_wp2_with (first | (at_builtin;refine ar rfl _ _ rfl wc.heap.size _ _ [1] UV rfl HLe.out rfl HOd.out.sv ?i1 ?i2 ?_))
           case i1=>simp;omega
           case i2=>omega
           intro vf wf of bf;have xl:=ae of;have HBf:=ae (HBde.out.trans bf);have hzf:=HBf.out.size;have HTf:=ae (jK (HUc.out.kept HBf.out).sv uj HTQ.out);generalize hTX2:fx TU=TX2 at *;clear hTX2 of bf HLd HBd HOd HLe HBde;go_wp2_with fail;refine HTf.out.mono ?_;rintro e wg ⟨⟨vg,rfl,og⟩,Y0⟩;have HOg:=ae og;have HFg:=ae (xl.out.kept Y0);have HBg:=ae (HBf.out.trans (Y0.mono hzf));have hzg:=HBg.out.size;have UY:Hid ((1::UV).length+TX2.length<=140737488355328):=ae (by rw[ZW];omega);clear og Y0;go_wp2_with (first | (at_builtin;refine ar rfl _ _ rfl wc.heap.size _ _ (1::UV) TX2 rfl HFg.out rfl HOg.out.sv UY.out hzg ?_))
           intro vh wh oh bh;have oh':aC wh wc.heap.size vh (1::(UV++TX2)):=oh;have HOH:=ae oh';clear oh';have HBh:=ae (HBg.out.trans bh);have hzh:=HBh.out.size;have HBEp:=ae (jp (HPc.out.kept HBh.out).sv HPI.out);rw[jT YS]at HBEp;generalize hBP:cN PT=BP at *;clear hBP oh bh;go_wp2_with fail;refine HBEp.out.mono ?_;rintro e wi ⟨⟨vi,rfl,oi⟩,Y1⟩;have HOi:=ae oi;have HHi:=ae (HOH.out.kept Y1);have HBi:=ae (HBh.out.trans (Y1.mono hzh));have hzi:=HBi.out.size;have ZB:Hid ((1::(UV++TX2)).length+BP.length<=140737488355328):=ae (by rw[ZW,ZT];omega);clear oi Y1;go_wp2_with (first | (at_builtin;refine ar rfl _ _ rfl wc.heap.size _ _ (1::(UV++TX2)) BP rfl HHi.out rfl HOi.out.sv ZB.out hzi ?_))
           intro vj wj oj bj;have oj':aC wj wc.heap.size vj LST:=by rw[ry.out];simpa using oj
           have HOJ:=ae oj';have HBj:=ae (HBi.out.trans bj);have hzj:=HBj.out.size;have HCj:=ae (U8.out.kept HBj.out);have HVj:=ae (HVc.out.kept HBj.out);have HB9j:=ae (kW HB9c.out HBj.out);have Sq:=HB9j.out.size;obtain⟨aj,cj,rfl⟩:=oj'.len;have hlst:LST.length<=40000:=by rw[ry.out];simp;omega
           have hpln:PLN.length<=40000:=by rw[rH.out];simp;omega
           have HL1a:Hid ((dD l).length+LST.length<=140737488355328):=ae (by omega);have HL1b:Hid ((dD l).length+PLN.length<=140737488355328):=ae (by omega);clear oj oj' bj;by_cases rE:LST.length<PLN.length
           ·have hless':(LST.length:Int)<(PLN.length:Int):=by omega
            rw[if_pos rE]at Vf;clear rE;go_wp2_with (first | (at_builtin;refine ar rfl _ _ rfl w.heap.size _ _ (dD l) LST rfl HVj.out rfl HOJ.out.sv HL1a.out Sq ?_))
            intro vz wz oz bz;have yi:=ae oz;have yj:=ae (HB9j.out.trans bz);clear oz bz;go_wp2_with fail;go_ret2
            rw[xC.out,Hx.out,HT3'.out,Vf.out];exact⟨⟨_,rfl,yi.out⟩,yj.out⟩
           ·have hless':¬ (LST.length:Int)<(PLN.length:Int):=by omega
            rw[if_neg rE]at Vf;clear rE;go_wp2_with (first | (at_builtin;refine ar rfl _ _ rfl w.heap.size _ _ (dD l) PLN rfl HVj.out rfl HCj.out.sv HL1b.out Sq ?_))
            intro vz wz oz bz;have yi:=ae oz;have yj:=ae (HB9j.out.trans bz);clear oz bz;go_wp2_with fail;go_ret2
            rw[xC.out,Hx.out,HT3'.out,Vf.out];exact⟨⟨_,rfl,yi.out⟩,yj.out⟩
       ·rw[decide_eq_false h0]
        have Yb:=ae (HHN.out h0);clear h0 HHN HHY;have S5:=ae (MO.out.kept (ak wr (.cells #[.int .u8 0] 5)));have hzA:=ZS wr (.cells #[.int .u8 0] 5);have xA:Hid (aC (wr.alloc (.cells #[.int .u8 0] 5)) w.heap.size (.slice (some ⟨wr.heap.size,0,none⟩) 1 1) (dD l)):=ae (by rw[Yb.out];exact(cD wr 0).low bm);have l8:=ae (aN.out.alloc bm (.cells #[.int .u8 0] 5));have UR:=l8.out.size;obtain⟨wx,hwx⟩:∃ wx,wr.alloc (.cells #[.int .u8 0] 5)=wx:=⟨_,rfl⟩;rw[hwx]at S5 xA l8 UR;have HWX:=ae hwx;clear hwx;obtain rfl | rfl | rfl:k=1∨k=2∨k=3:=by omega
        ·have je:=iS SN.out
         have fM:=gx je.1 (by rw[ZU];omega);have xo:=ae (jp S5.out.2.2.1.sv je.1);have BJ:(wh4 l).length<=256:=by unfold wh4;rw[ZU];omega
         rw[jT BJ]at xo;have HT1':Hid (gi 1 l=cN (wh4 l)):=ae RU.out;have hbl':(cN (wh4 l)).length<=5131:=fM;clear je fM;generalize cN (wh4 l)=BS at *;go_wp2_with fail;rw[HWX.out];refine xo.out.mono ?_;rintro e wy ⟨⟨vy,rfl,oy⟩,EF⟩;have YO:=ae (xA.out.kept EF);have YP:=ae oy;have BR:=ae (l8.out.trans (EF.mono UR));have hzy:=BR.out.size;clear oy EF;go_wp2_with (first | (at_builtin;refine ar rfl _ _ rfl w.heap.size _ _ (dD l) BS rfl YO.out rfl YP.out.sv ?b1 ?b2 ?_))
         case b1=>omega
         case b2=>omega
         intro vz wz oz bz;have yi:=ae oz;have yj:=ae (BR.out.trans bz);clear oz bz;go_wp2_with fail;go_ret2
         rw[xC.out,Hx.out,HT1'.out];exact⟨⟨_,rfl,yi.out⟩,yj.out⟩
        ·have je:=fF SN.out
         have fM:=jn je.1 (by rw[ZU];omega);have Sm:=JU SN.out
         have xo:=ae (sR S5.out.2.1.sv (fun x hx=>by
          rw[Sm]at hx;have:=je.1 x hx;omega))
         rw[Sm]at xo;clear je Sm;have HT2':=ae zS.out;generalize be ((bS l).map fun c=>c.2.1.toNat) 1=BS at *;go_wp2_with fail;rw[HWX.out];refine xo.out.mono ?_;rintro e wy ⟨⟨vy,rfl,oy⟩,EF⟩;have YO:=ae (xA.out.kept EF);have YP:=ae oy;have BR:=ae (l8.out.trans (EF.mono UR));have hzy:=BR.out.size;clear oy EF;go_wp2_with (first | (at_builtin;refine ar rfl _ _ rfl w.heap.size _ _ (dD l) BS rfl YO.out rfl YP.out.sv ?b1 ?b2 ?_))
         case b1=>omega
         case b2=>omega
         intro vz wz oz bz;have yi:=ae oz;have yj:=ae (BR.out.trans bz);clear oz bz;go_wp2_with fail;go_ret2
         rw[xC.out,Hx.out,HT2'.out];exact⟨⟨_,rfl,yi.out⟩,yj.out⟩
        ·have je:=gE SN.out
         have hwz:=mq je.1 (by rw[ZU];omega);have rx:=ae je.1;have BJ:(wd4 l).length<=256:=by unfold wd4;rw[ZU];omega
         have HT3':Hid (gi 3 l=eJ (wd4 l)):=ae Kg.out;have Vf:Hid (eJ (wd4 l)=if (dh (wd4 l)).length<(plain (wd4 l)).length then dh (wd4 l) else plain (wd4 l)):=rfl;have sZ:Hid (Ts (wd4 l)):=ae je.1;clear je Kg RU zS rx hwz;have SS:=S5.out.2.2.2.1;have Vd:=ae SS;clear SS;generalize hWW:wd4 l=WW at *;clear hWW;have uj:(tuq WW).length<=256:=by have:=fE WW;omega
         have rH:Hid (plain WW=[0]++fx WW):=rfl;have ry:Hid (dh WW=[1]++uv (tuq WW).length++fx (tuq WW)++cN (cI WW)):=ae (by unfold dh;simp);have htx1:=nB sZ.out BJ;have Vg:=nB (li sZ.out) uj;have SP:=gx (dZ BJ) (by rw[bU];exact BJ);have mY:=bI (n:=(tuq WW).length) (by omega);have Mx:=ae (tK Vd.out.sv BJ (fun s hs=>(sZ.out s hs).2));go_wp2_with fail;rw[HWX.out];refine Mx.out.mono ?_;rintro e wu ⟨⟨vu,rfl,ou⟩,Rq⟩;have HVU:=ae (xA.out.kept Rq);have YQ:=ae (Vd.out.kept Rq);have HOU:=ae ou;have YL:=ae (l8.out.trans (Rq.mono UR));have hzu:=YL.out.size;have HPG:=ae (fun(x:List Nat) (hx:x∈WW)=>kL (ja.2 hx));obtain⟨au,cu,rfl,UQ,Sn⟩:=aM ou;obtain⟨aw,cw,hvw,EK,So⟩:=aM YQ.out;subst hvw;have hcum':cu<=9223372036854775807:=by unfold maxLen at Sn;omega
         have hcwm':cw<=9223372036854775807:=by unfold maxLen at So;omega
         have Sp:Hid (∀ s∈WW,Bs s):=ae (fun s hs=>(sZ.out s hs).2);have YR:Hid (∀ s∈tuq WW,Bs s):=ae (fun s hs=>Sp.out s (ja.1 hs));clear ou Rq Sn So;have HPT:Hid (cI WW=WW.map fun s=>(plT (tuq WW) s:Int)):=rfl;have HTQ:=ae (li sZ.out);have HPI:=ae (dZ BJ);have YS:(cI WW).length<=256:=by rw[bU];exact BJ
         generalize cI WW=PT at *;generalize hTU:tuq WW=TU at *;clear hTU;go_wp2_with fail;go_loopw [19,20] (fun o i wq=>∃ j:Nat,j<=WW.length/\i=.int .i64 (j:Int)/\br wq wu.heap.size o ((WW.take j).map fun s=>(plT TU s:Int))/\Below wu.heap.size wu wq) (fun _ i _=>WW.length-(intOf i).toNat)
         case atStart=>exact⟨0,by omega,rfl,br.nil _ _,ZQ _ _⟩
         case round =>
          obtain⟨j,hj,rfl,az,ay⟩:=hrel;have HO:=ae az;have oJ:=ae ay;have yg:=ay.size;clear az ay;by_cases aB:j<WW.length
          ·have hlt':(j:Int)<(WW.length:Int):=by omega
           obtain⟨gw,offw,YT,hgw,Jg⟩:=YQ.out.sv.at1 (cJ aB);subst YT;rw[ek]at Jg;have HCW:=ae Jg;obtain⟨ZC,MH⟩:=HPG.out WW[j] (ZV aB);have En:=ae MH
           have mV:Hid ((WW.take (j+1)).map (fun s=>(plT TU s:Int))=(WW.take j).map (fun s=>(plT TU s:Int))++[(plT TU WW[j]:Int)]):=ae (by
            rw[Z5 aB,Z8];rfl)
           have hlen':((WW.take j).map fun s=>(plT TU s:Int)).length<=100000:=by rw[ZU,ZX];omega
           have HPN:=ae (fun(q:Nat) (h:q<TU.length) (hq:q<plT TU WW[j])=>G6 h hq);have YU:=ae (Sp.out WW[j] (ZV aB));clear Jg MH;generalize WW[j]=x at *;generalize ((WW.take j).map fun s=>(plT TU s:Int))=LL at *;generalize hpz:plT TU x=pz at *;clear hpz;generalize wr=WR9 at *;go_wp2_with fail;go_loopw [21] (fun i wq2=>∃ q:Nat,q<=pz/\i=.int .i64 (q:Int)/\Below WR9.heap.size WR9 wq2) (fun i _=>pz-(intOf i).toNat)
           case atStart=>exact⟨0,by omega,rfl,ZQ _ _⟩
           case round =>
            obtain⟨q,hq,rfl,nN⟩:=hrel;have pi:=ae nN;have UH:=nN.size;clear nN;have Vh:q<TU.length:=by omega
            have hqu':(q:Int)<(TU.length:Int):=by omega
            obtain⟨gu,offu,YV,Zy,Jh⟩:=HOU.out.sv.at1 (cJ Vh);cases YV
            rw[ek]at Jh;have RK:=(pi.out.cell (p:=⟨gu,offu+q,none⟩) (Z9 Zy yg)).trans ((oJ.out.cell (p:=⟨gu,offu+q,none⟩) Zy).trans Jh);have hcw1:=(pi.out.cell (p:=⟨gw,offw+j,none⟩) (Z9 hgw yg)).trans ((oJ.out.cell (p:=⟨gw,offw+j,none⟩) hgw).trans HCW.out);have YW:=ae (YR.out TU[q] (ZV Vh));have YX:=ae (HPN.out q Vh)
            have YY:Hid (q=pz->TU[q]=x):=ae (fun e=>by
             have:=En.out;subst e;rw[List.getElem?_eq_getElem Vh]at this;exact Option.some.inj this)
            have eW:Hid (∀ n z,Below wu.heap.size wu ((wr.drewN n).alloc (.cells #[.int .i64 z] 2))):=ae (fun n z=>(below_drewN (oJ.out.trans (pi.out.mono yg)) n).alloc (by show wu.heap.size<=wr.heap.size;omega) _);have Hs:Hid (∀ n z,wu.heap.size<=((wr.drewN n).alloc (.cells #[.int .i64 z] 2)).heap.size):=ae (fun n z=>by rw[ZS];show wu.heap.size<=wr.heap.size+1;omega);have m6:Hid (∀ n z,br ((wr.drewN n).alloc (.cells #[.int .i64 z] 2)) wu.heap.size _ LL):=ae (fun n z=>((HO.out.kept pi.out).kept (below_drewN (ZQ _ _) n)).kept (ak _ _));clear Jh;generalize TU[q]=y at *;by_cases Vi:q=pz
            ·have Ht:=YY.out Vi
             subst Ht;have HQZ:=ae Vi;clear Vi;go_wp2_with fail;go_quiet (fail)
             go_wp2_with (first | (at_builtin;refine aW rfl _ _ rfl wu.heap.size _ _ (q:Int) LL rfl (m6.out _ (q:Int)) rfl (aK _ _ _) hlen' ?f3 ?_))
             case f3=>first | omega | exact Hs.out _ _
             intro v7 w7 o7 b7;rw[HQZ.out]at o7;have iw:=ae o7;have ia:=ae ((eW.out _ (q:Int)).trans b7);clear o7 b7;go_wp2_with fail;go_roundw
             case rel=>exact⟨j+1,by omega,by go_num,by rw[mV.out];exact iw.out,ia.out⟩
             case measure=>simp[intOf];omega
            ·have fO:=YX.out (by omega)
             have Ht:((am y).toList==(am x).toList)=false:=by
              rw[bx,bx];exact Z1.2 (fun e=>fO (by rw[← ff YW.out,← ff YU.out,e]))
             have ux:=ae (below_drewN pi.out);have mS:q+1<=pz:=by omega
             clear fO Vi;go_wp2_with fail;go_quiet (fail)
             go_wp2_with fail;go_roundw
             case rel=>exact⟨q+1,mS,by go_num,ux.out _⟩
             case measure=>simp[intOf];omega
          ·obtain rfl:j=WW.length:=by omega
           rw[ZY,← HPT.out]at HO;have hge3:¬ ((WW.length:Nat):Int)<(WW.length:Int):=by omega
           have HV9:=ae (HVU.out.kept oJ.out);have HW9:=ae (YQ.out.kept oJ.out);have HU9:=ae (HOU.out.kept oJ.out);have pi:=ae (YL.out.trans (oJ.out.mono hzu));generalize wr=WR9 at *;have HLa:=ae (cD WR9 0);have HBa:=ae (ak WR9 (.cells #[.int .u8 0] 5));have hza:=ZS WR9 (.cells #[.int .u8 0] 5);have HTa:=ae (jK (HW9.out.kept HBa.out).sv BJ sZ.out);generalize plain WW=PLN at *;generalize dh WW=LST at *;generalize hTX1:fx WW=TX1 at *;clear hTX1;go_wp2_with fail;refine HTa.out.mono ?_;rintro e wa ⟨⟨va,rfl,oa⟩,zR⟩;have HOa:=ae oa;have HLb:=ae (HLa.out.kept zR);have HBab:=ae (HBa.out.trans (zR.mono (by omega)));have hzb:=HBab.out.size;clear oa zR;go_wp2_with (first | (at_builtin;refine ar rfl _ _ rfl WR9.heap.size _ _ [0] TX1 rfl HLb.out rfl HOa.out.sv ?g1 ?g2 ?_))
           case g1=>simp;omega
           case g2=>omega
           intro vc wc oc bc;have oc':aC wc WR9.heap.size vc PLN:=by rw[rH.out];exact oc
           have U8:=ae oc';have HBc:=ae (HBab.out.trans bc);have HVc:=ae (HV9.out.kept HBc.out);have HUc:=ae (HU9.out.kept HBc.out);have HPc:=ae (HO.out.kept HBc.out);have HB9c:=ae (kW pi.out HBc.out);obtain⟨ac,cc,rfl⟩:=oc'.len;have hzc:=HBc.out.size;clear oc oc' bc HLa HBa HTa HOa HLb HBab;have HLd:=ae (cD wc 1);have HBd:=ae (ak wc (.cells #[.int .u8 1] 5));have hzd:=ZS wc (.cells #[.int .u8 1] 5);have YZ:=ae (bC TU.length (by omega));generalize hUV:uv TU.length=UV at *;clear hUV;go_wp2_with fail;refine(YZ.out _).mono ?_;rintro e wd ⟨⟨vd,rfl,od⟩,mZ⟩;have HOd:=ae od;have HLe:=ae (HLd.out.kept mZ);have HBde:=ae (HBd.out.trans (mZ.mono (by omega)));have hze:=HBde.out.size;clear od mZ;go_wp2_with (first | (at_builtin;refine ar rfl _ _ rfl wc.heap.size _ _ [1] UV rfl HLe.out rfl HOd.out.sv ?i1 ?i2 ?_))
           case i1=>simp;omega
           case i2=>omega
           intro vf wf of bf;have xl:=ae of;have HBf:=ae (HBde.out.trans bf);have hzf:=HBf.out.size;have HTf:=ae (jK (HUc.out.kept HBf.out).sv uj HTQ.out);generalize hTX2:fx TU=TX2 at *;clear hTX2 of bf HLd HBd HOd HLe HBde;go_wp2_with fail;refine HTf.out.mono ?_;rintro e wg ⟨⟨vg,rfl,og⟩,Y0⟩;have HOg:=ae og;have HFg:=ae (xl.out.kept Y0);have HBg:=ae (HBf.out.trans (Y0.mono hzf));have hzg:=HBg.out.size;have UY:Hid ((1::UV).length+TX2.length<=140737488355328):=ae (by rw[ZW];omega);clear og Y0;go_wp2_with (first | (at_builtin;refine ar rfl _ _ rfl wc.heap.size _ _ (1::UV) TX2 rfl HFg.out rfl HOg.out.sv UY.out hzg ?_))
           intro vh wh oh bh;have oh':aC wh wc.heap.size vh (1::(UV++TX2)):=oh;have HOH:=ae oh';clear oh';have HBh:=ae (HBg.out.trans bh);have hzh:=HBh.out.size;have HBEp:=ae (jp (HPc.out.kept HBh.out).sv HPI.out);rw[jT YS]at HBEp;generalize hBP:cN PT=BP at *;clear hBP oh bh;go_wp2_with fail;refine HBEp.out.mono ?_;rintro e wi ⟨⟨vi,rfl,oi⟩,Y1⟩;have HOi:=ae oi;have HHi:=ae (HOH.out.kept Y1);have HBi:=ae (HBh.out.trans (Y1.mono hzh));have hzi:=HBi.out.size;have ZB:Hid ((1::(UV++TX2)).length+BP.length<=140737488355328):=ae (by rw[ZW,ZT];omega);clear oi Y1;go_wp2_with (first | (at_builtin;refine ar rfl _ _ rfl wc.heap.size _ _ (1::(UV++TX2)) BP rfl HHi.out rfl HOi.out.sv ZB.out hzi ?_))
           intro vj wj oj bj;have oj':aC wj wc.heap.size vj LST:=by rw[ry.out];simpa using oj
           have HOJ:=ae oj';have HBj:=ae (HBi.out.trans bj);have hzj:=HBj.out.size;have HCj:=ae (U8.out.kept HBj.out);have HVj:=ae (HVc.out.kept HBj.out);have HB9j:=ae (kW HB9c.out HBj.out);have Sq:=HB9j.out.size;obtain⟨aj,cj,rfl⟩:=oj'.len;have hlst:LST.length<=40000:=by rw[ry.out];simp;omega
           have hpln:PLN.length<=40000:=by rw[rH.out];simp;omega
           have HL1a:Hid ((dD l).length+LST.length<=140737488355328):=ae (by omega);have HL1b:Hid ((dD l).length+PLN.length<=140737488355328):=ae (by omega);clear oj oj' bj;by_cases rE:LST.length<PLN.length
           ·have hless':(LST.length:Int)<(PLN.length:Int):=by omega
            rw[if_pos rE]at Vf;clear rE;go_wp2_with (first | (at_builtin;refine ar rfl _ _ rfl w.heap.size _ _ (dD l) LST rfl HVj.out rfl HOJ.out.sv HL1a.out Sq ?_))
            intro vz wz oz bz;have yi:=ae oz;have yj:=ae (HB9j.out.trans bz);clear oz bz;go_wp2_with fail;go_ret2
            rw[xC.out,Hx.out,HT3'.out,Vf.out];exact⟨⟨_,rfl,yi.out⟩,yj.out⟩
           ·have hless':¬ (LST.length:Int)<(PLN.length:Int):=by omega
            rw[if_neg rE]at Vf;clear rE;go_wp2_with (first | (at_builtin;refine ar rfl _ _ rfl w.heap.size _ _ (dD l) PLN rfl HVj.out rfl HCj.out.sv HL1b.out Sq ?_))
            intro vz wz oz bz;have yi:=ae oz;have yj:=ae (HB9j.out.trans bz);clear oz bz;go_wp2_with fail;go_ret2
            rw[xC.out,Hx.out,HT3'.out,Vf.out];exact⟨⟨_,rfl,yi.out⟩,yj.out⟩
    ·have h256':(l.length:Int) > 256:=by omega
     have HE:Hid (WC=([],5)):=ae (Sk.out HA.out (fun h=>Eo h.1));clear Eo;go_wp2_with fail;go_ret2
     rw[HE.out];exact⟨⟨_,rfl,aC.nil _ _⟩,HB.out⟩
 ·have HE:Hid (dQ k l=([],10)):=ae (tL (fun h=>Kb ⟨h.1,h.2.1⟩))
  clear hs hf bw;by_cases pY:(k:Int)<1
  ·clear Kb
   go_enter Tryz.func47,Tryz.ntmps47
   go_wp2_with fail;go_ret2
   rw[HE.out];exact⟨⟨_,rfl,aC.nil _ _⟩,ZQ _ _⟩
  ·have hk4:(k:Int) > 3:=by omega
   clear Kb;go_enter Tryz.func47,Tryz.ntmps47
   go_wp2_with fail;go_ret2
   rw[HE.out];exact⟨⟨_,rfl,aC.nil _ _⟩,ZQ _ _⟩
end Go.Proofs.YtpljdjmpamjkhaaGreatDoor
