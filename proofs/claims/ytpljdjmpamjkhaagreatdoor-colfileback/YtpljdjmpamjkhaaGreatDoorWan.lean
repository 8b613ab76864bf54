import Derived.Test.YtpljdjmpamjkhaaGreatDoorWam
set_option linter.unusedVariables false
set_option linter.unusedSimpArgs false
set_option maxRecDepth 100000
set_option maxHeartbeats 8000000
namespace Go.Proofs.YtpljdjmpamjkhaaGreatDoor
open Go.RowKit Go.Lib
theorem pp{c:Cl}(h:aI c):(iA c).length<=74:=by
 have hl:=h.size;unfold iA;split
 ·rcases h with rfl | ⟨n,rfl,h1⟩ | ⟨n,rfl,h1⟩ | ⟨s,rfl,h1,h2⟩<;>first | (have:=gL h1;unfold wv at this;simp only;omega) | (simp_all [nul])
 ·split
  ·simp
  ·have:=cC (n:=c.2.2.length) (by omega)
   rw[YC];omega
theorem SR(st:Stt):AB st<4:=by unfold AB;split<;>split<;>omega
theorem lT{st:Stt}(h1:aI st.lo)(h2:aI st.hi)(hn:∃ n:Nat,st.nulls=(n:Int)/\n<=1000000)(w:World):Calls Tryz.prog 84 #[kU st] w (dJ w (eS st)):=by
 obtain⟨n,hn,Kv⟩:=hn;obtain⟨r,nu,so,hi,lo,hh⟩:=st;simp only at hn h1 h2;subst hn;have HC0:=ae (nS n (by omega));have Rt:=ae (AH ⟨r,(n:Int),so,hi,lo,hh⟩);have HL0:=ae (AG h1);have Yc:=ae (AG h2);have Qn:=pp h1;have yV:=pp h2;have hu:=cC (n:=n) (by omega);have HE:jaH (eS ⟨r,(n:Int),so,hi,lo,hh⟩=uv n++[AB ⟨r,(n:Int),so,hi,lo,hh⟩]++((if so=true then iA lo else [])++(if hi=true then iA hh else []))):=ae (by unfold eS;rw[Ze]);unfold kU at Rt ⊢;have bV:=ae (aj w (.cells #[.int .i64 r,.int .i64 (n:Int),.bool so,.bool hi,.int .u8 (lo.1:Int),.int .i64 lo.2.1,.string (ai lo.2.2),.int .u8 (hh.1:Int),.int .i64 hh.2.1,.string (ai hh.2.2)] 54));have hz:w.heap.size<(w.alloc (.cells #[.int .i64 r,.int .i64 (n:Int),.bool so,.bool hi,.int .u8 (lo.1:Int),.int .i64 lo.2.1,.string (ai lo.2.2),.int .u8 (hh.1:Int),.int .i64 hh.2.1,.string (ai hh.2.2)] 54)).heap.size:=by rw[YB];omega
 have kk:=Zb w (.cells #[.int .i64 r,.int .i64 (n:Int),.bool so,.bool hi,.int .u8 (lo.1:Int),.int .i64 lo.2.1,.string (ai lo.2.2),.int .u8 (hh.1:Int),.int .i64 hh.2.1,.string (ai hh.2.2)] 54);generalize hW:w.alloc (.cells #[.int .i64 r,.int .i64 (n:Int),.bool so,.bool hi,.int .u8 (lo.1:Int),.int .i64 lo.2.1,.string (ai lo.2.2),.int .u8 (hh.1:Int),.int .i64 hh.2.1,.string (ai hh.2.2)] 54)=W at *;generalize lo.1=l0 at *;generalize lo.2.1=l1 at *;generalize ai lo.2.2=l2 at *;generalize hh.1=h0 at *;generalize hh.2.1=h1' at *;generalize ai hh.2.2=h2' at *
 have HT:jaH (∀ U,Below W.heap.size W U->U.cell? ⟨w.heap.size,0,none⟩=some (.int .i64 r)/\U.cell? ⟨w.heap.size,1,none⟩=some (.int .i64 (n:Int))/\U.cell? ⟨w.heap.size,2,none⟩=some (.bool so)/\U.cell? ⟨w.heap.size,3,none⟩=some (.bool hi)/\U.cell? ⟨w.heap.size,4,none⟩=some (.int .u8 (l0:Int))/\U.cell? ⟨w.heap.size,5,none⟩=some (.int .i64 l1)/\U.cell? ⟨w.heap.size,6,none⟩=some (.string l2)/\U.cell? ⟨w.heap.size,7,none⟩=some (.int .u8 (h0:Int))/\U.cell? ⟨w.heap.size,8,none⟩=some (.int .i64 h1')/\U.cell? ⟨w.heap.size,9,none⟩=some (.string h2')):=ae (fun U hb=>by
  have hU:=(hb.block w.heap.size hz).trans kk;refine⟨?_,?_,?_,?_,?_,?_,?_,?_,?_,?_⟩<;>(rw[an hU];rfl))
 clear kk
 have HC:jaH (∀ U,Below W.heap.size W U->Calls Tryz.prog 81 #[.int .i64 (n:Int)] U fun e w'=>∃ v,e=.returned v/\aG w' W.heap.size v (uv n)/\Below U.heap.size U w'/\Below W.heap.size W w'/\(w'.cell? ⟨w.heap.size,0,none⟩=some (.int .i64 r)/\w'.cell? ⟨w.heap.size,1,none⟩=some (.int .i64 (n:Int))/\w'.cell? ⟨w.heap.size,2,none⟩=some (.bool so)/\w'.cell? ⟨w.heap.size,3,none⟩=some (.bool hi)/\w'.cell? ⟨w.heap.size,4,none⟩=some (.int .u8 (l0:Int))/\w'.cell? ⟨w.heap.size,5,none⟩=some (.int .i64 l1)/\w'.cell? ⟨w.heap.size,6,none⟩=some (.string l2)/\w'.cell? ⟨w.heap.size,7,none⟩=some (.int .u8 (h0:Int))/\w'.cell? ⟨w.heap.size,8,none⟩=some (.int .i64 h1')/\w'.cell? ⟨w.heap.size,9,none⟩=some (.string h2'))):=ae (fun U hU=>by
  refine(HC0.o U).mono ?_;rintro e w' ⟨⟨v,rfl,ho⟩,hb⟩;have ay:=ag hU hb;exact⟨v,rfl,bE ho hU.size,hb,ay,HT.o _ ay⟩)
 have HF:jaH (∀ U,Below W.heap.size W U->Calls Tryz.prog 132 #[.agg #[.int .i64 r,.int .i64 (n:Int),.bool so,.bool hi,.int .u8 (l0:Int),.int .i64 l1,.string l2,.int .u8 (h0:Int),.int .i64 h1',.string h2']] U fun e w'=>e=.returned (.int .u8 (AB ⟨r,(n:Int),so,hi,lo,hh⟩:Int))/\Below U.heap.size U w'/\Below W.heap.size W w'/\(w'.cell? ⟨w.heap.size,0,none⟩=some (.int .i64 r)/\w'.cell? ⟨w.heap.size,1,none⟩=some (.int .i64 (n:Int))/\w'.cell? ⟨w.heap.size,2,none⟩=some (.bool so)/\w'.cell? ⟨w.heap.size,3,none⟩=some (.bool hi)/\w'.cell? ⟨w.heap.size,4,none⟩=some (.int .u8 (l0:Int))/\w'.cell? ⟨w.heap.size,5,none⟩=some (.int .i64 l1)/\w'.cell? ⟨w.heap.size,6,none⟩=some (.string l2)/\w'.cell? ⟨w.heap.size,7,none⟩=some (.int .u8 (h0:Int))/\w'.cell? ⟨w.heap.size,8,none⟩=some (.int .i64 h1')/\w'.cell? ⟨w.heap.size,9,none⟩=some (.string h2'))):=ae (fun U hU=>by
  refine(Rt.o U).mono ?_;rintro e w' ⟨rfl,hb⟩;have ay:=ag hU hb;exact⟨rfl,hb,ay,HT.o _ ay⟩)
 clear HC0 Rt;generalize AB ⟨r,(n:Int),so,hi,lo,hh⟩=fg at *;generalize uv n=P at *;obtain⟨x0,x1,x2,x3,x4,x5,x6,x7,x8,x9⟩:=HT.o W (Yz _ _);go_enter Tryz.func84,Tryz.ntmps84
 go_wp2_with fail;try rw[hW]
 clear hW;have hBW:Below W.heap.size W W:=Yz _ _
 go_region_held3 (fun w'=>w'.cell? ⟨w.heap.size,0,none⟩=some (.int .i64 r)/\w'.cell? ⟨w.heap.size,1,none⟩=some (.int .i64 (n:Int))/\w'.cell? ⟨w.heap.size,2,none⟩=some (.bool so)/\w'.cell? ⟨w.heap.size,3,none⟩=some (.bool hi)/\w'.cell? ⟨w.heap.size,4,none⟩=some (.int .u8 (l0:Int))/\w'.cell? ⟨w.heap.size,5,none⟩=some (.int .i64 l1)/\w'.cell? ⟨w.heap.size,6,none⟩=some (.string l2)/\w'.cell? ⟨w.heap.size,7,none⟩=some (.int .u8 (h0:Int))/\w'.cell? ⟨w.heap.size,8,none⟩=some (.int .i64 h1')/\w'.cell? ⟨w.heap.size,9,none⟩=some (.string h2')) (first | (refine⟨?_,?_,?_,?_,?_,?_,?_,?_,?_,?_⟩<;>assumption) | go_keep) (first
  | (go_at_call 81;refine(HC.o _ ?_).mono ?_;(first | exact ak hBW _ | exact ak Ft _ | exact Ft);rintro e w2 ⟨v2,rfl,ex,ay,Qx,⟨y0,y1,y2,y3,y4,y5,y6,y7,y8,y9⟩⟩;have ec:=ae ex;clear ex)
  | (go_at_call 132;refine(HF.o _ ?_).mono ?_;(first | exact ak Qx _ | exact Qx);rintro e w3 ⟨rfl,aO,Ft,⟨z0,z1,z2,z3,z4,z5,z6,z7,z8,z9⟩⟩;have dx:=ae (ec.o.kept aO);clear ec aO)
  | (go_at_call 132;refine(HF.o _ ?_).mono ?_;(first | exact ak hBW _ | exact ak Qx _ | exact Qx);rintro e w3 ⟨rfl,aO,Ft,⟨z0,z1,z2,z3,z4,z5,z6,z7,z8,z9⟩⟩)
  | (refine tZ (by rfl) _ _ (by rfl) W.heap.size _ _ P [fg] (by rfl) ?_ (by rfl) ?_ ?_ ?_ ?_;exact dx.o.kept (aj _ _);exact(gl _ fg).sv;(simp only[Zj];omega);exact YG Ft.size (po (YA _) _);intro v4 w4 o4 b4 g4 e4;have bm:=(Ft.alloc Ft.size _).trans b4;obtain⟨q0,q1,q2,q3,q4,q5,q6,q7,q8,q9⟩:=HT.o _ bm;have fU:=ae o4;have cA:=ae bm;clear g4 e4 b4 bm o4)
  | fail)
 clear y0 y1 y2 y3 y4 y5 y6 y7 y8 y9 z0 z1 z2 z3 z4 z5 z6 z7 z8 z9 x0 x1 x2 x3 x4 x5 x6 x7 x8 x9 ay Qx Ft HC HF dx;have hPl:P.length<=10:=hu
 have yZ:jaH (∀(so' hi':Bool) v' w',so=so'->hi=hi'->aG w' W.heap.size v' (P++[fg]++(if so'=true then iA lo else [])++(if hi'=true then iA hh else []))->Below W.heap.size W w'->dJ w (eS ⟨r,(n:Int),so,hi,lo,hh⟩) (.returned v') w'):=ae (fun so' hi' v' w' e1 e2 ho hb=>by
  rw[HE.o,e1,e2];refine⟨⟨_,rfl,bE ?_ bV.o.size⟩,ag bV.o hb⟩;have h9:=ho;rw[YR]at h9;exact h9)
 have hx:(so=true∨so=false):=by cases so<;>simp
 rcases hx with Qy | Qy
 all_goals (have hy:(hi=true∨hi=false):=by cases hi<;>simp)
 all_goals rcases hy with KB | KB
 ·rw[Qy]at q2
  rw[KB]at q3;go_wp2_with fail;refine(HL0.o _).mono ?_;rintro e w5 ⟨⟨v5,rfl,o5⟩,bv⟩;have cQ:=ae (fU.o.kept bv);have om:=ae o5.sv;have aJ:=ae (ag cA.o bv);clear o5 bv q0 q1 q2 q3 q4 q5 q6 q7 q8 q9;go_wp2_with (first | (at_builtin;refine ea rfl _ _ rfl W.heap.size _ _ (P++[fg]) (iA lo) rfl cQ.o rfl om.o ?d1a ?d1b ?_))
  case d1a=>simp only[YC,Zj];omega
  case d1b=>exact aJ.o.size
  intro v6 w6 o6 b6 _ _;have dP:=aJ.o.trans b6;obtain⟨q0,q1,q2,q3,q4,q5,q6,q7,q8,q9⟩:=HT.o _ dP;have oe:jaH (aG w6 W.heap.size v6 (P++[fg]++iA lo)):=ae (by simpa using o6);have jA:=ae dP;clear o6 b6 dP;rw[KB]at q3;go_wp2_with fail;refine(Yc.o _).mono ?_;rintro e w7 ⟨⟨v7,rfl,o7⟩,jK⟩;have qY:=ae (oe.o.kept jK);have Rp:=ae o7.sv;have pT:=ae (ag jA.o jK);clear o7 jK q0 q1 q2 q3 q4 q5 q6 q7 q8 q9;go_wp2_with (first | (at_builtin;refine ea rfl _ _ rfl W.heap.size _ _ (P++[fg]++iA lo) (iA hh) rfl qY.o rfl Rp.o ?d2a ?d2b ?_))
  case d2a=>simp only[YC,Zj];omega
  case d2b=>exact pT.o.size
  intro v8 w8 o8 b8 _ _;have lm:=pT.o.trans b8;obtain⟨q0,q1,q2,q3,q4,q5,q6,q7,q8,q9⟩:=HT.o _ lm;have HO8:jaH (aG w8 W.heap.size v8 (P++[fg]++iA lo++iA hh)):=ae (by simpa using o8);have uL:=ae lm;clear o8 b8 lm;go_wp2_with fail;go_ret
  refine yZ.o true true _ _ Qy KB ?_ uL.o;have h9:=HO8.o;simpa using h9
 ·rw[Qy]at q2
  rw[KB]at q3;go_wp2_with fail;refine(HL0.o _).mono ?_;rintro e w5 ⟨⟨v5,rfl,o5⟩,bv⟩;have cQ:=ae (fU.o.kept bv);have om:=ae o5.sv;have aJ:=ae (ag cA.o bv);clear o5 bv q0 q1 q2 q3 q4 q5 q6 q7 q8 q9;go_wp2_with (first | (at_builtin;refine ea rfl _ _ rfl W.heap.size _ _ (P++[fg]) (iA lo) rfl cQ.o rfl om.o ?d3a ?d3b ?_))
  case d3a=>simp only[YC,Zj];omega
  case d3b=>exact aJ.o.size
  intro v6 w6 o6 b6 _ _;have dP:=aJ.o.trans b6;obtain⟨q0,q1,q2,q3,q4,q5,q6,q7,q8,q9⟩:=HT.o _ dP;have oe:jaH (aG w6 W.heap.size v6 (P++[fg]++iA lo)):=ae (by simpa using o6);have jA:=ae dP;clear o6 b6 dP;rw[KB]at q3;go_wp2_with fail;go_ret
  refine yZ.o true false _ _ Qy KB ?_ jA.o;have h9:=oe.o;simpa using h9
 ·rw[Qy]at q2
  rw[KB]at q3;go_wp2_with fail;refine(Yc.o _).mono ?_;rintro e w5 ⟨⟨v5,rfl,o5⟩,bv⟩;have cQ:=ae (fU.o.kept bv);have om:=ae o5.sv;have aJ:=ae (ag cA.o bv);clear o5 bv q0 q1 q2 q3 q4 q5 q6 q7 q8 q9;go_wp2_with (first | (at_builtin;refine ea rfl _ _ rfl W.heap.size _ _ (P++[fg]) (iA hh) rfl cQ.o rfl om.o ?d4a ?d4b ?_))
  case d4a=>simp only[YC,Zj];omega
  case d4b=>exact aJ.o.size
  intro v6 w6 o6 b6 _ _;have dP:=aJ.o.trans b6;obtain⟨q0,q1,q2,q3,q4,q5,q6,q7,q8,q9⟩:=HT.o _ dP;have oe:jaH (aG w6 W.heap.size v6 (P++[fg]++iA hh)):=ae (by simpa using o6);have jA:=ae dP;clear o6 b6 dP;go_wp2_with fail;go_ret
  refine yZ.o false true _ _ Qy KB ?_ jA.o;have h9:=oe.o;simpa using h9
 ·rw[Qy]at q2
  rw[KB]at q3;go_wp2_with fail;go_ret
  refine yZ.o false false _ _ Qy KB ?_ cA.o;have h9:=fU.o;simpa using h9
theorem mA{w:World}{va vb:Value}{a b:List Nat}(ha:Sv w va (az .u8 a))(hb:Sv w vb (az .u8 b))(h8:Bs a)(h9:Bs b) :
  Calls Tryz.prog 92 #[va,vb] w fun e w'=>e=.returned (.bool (decide (a=b)))/\w'=w:=by
 have TU:=ha.conv h8;have Ri:=hb.conv h9;have HE:=ae (Lz h8 h9);clear ha hb;unfold txt at TU Ri;generalize a.map Nat.toUInt8=x at *;generalize b.map Nat.toUInt8=y at *;go_enter Tryz.func92,Tryz.ntmps92
 go_wp2_with fail;go_ret
 refine⟨?_,rfl⟩
 have e:(x==y)=decide (a=b):=by
  by_cases h:a=b
  ·rw[YT h,HE.o.2 h]
   simp
  ·rw[YO h]
   simp
   exact fun e=>h (HE.o.1 e)
 rw[← e];rfl
theorem JD(k:IntKind)(c:Nat)(t:List Nat):az k (c::t)=.int k (c:Int)::az k t:=rfl
theorem Sv.uncons{W:World}{v:Value}{c:Nat}{t:List Nat}(h:Sv W v (az .u8 (c::t))) :
  ∃ g off cap,v=.slice (some ⟨g,off,none⟩) (t.length+1) cap/\t.length+1<=cap/\cap<=maxLen/\g<W.heap.size/\W.cell? ⟨g,off,none⟩=some (.int .u8 (c:Int)) /\
   (∀ j (h:j<t.length),W.cell? ⟨g,off+1+j,none⟩=some (.int .u8 (t[j]:Int))) /\
   ∃ A,(if cap=1 then (some ⟨g,off,none⟩:Option Addr) else some ⟨g,off+1,none⟩)=A/\Sv W (.slice A t.length (cap-1)) (az .u8 t):=by
 have h0:=h;obtain⟨a,cap,rfl,h1,h2,h3,h4⟩:=h;rw[am,YI]at *;obtain⟨g,off,rfl,h5,h6⟩:=h4 (by omega);refine⟨g,off,cap,rfl,h1,h2,h5,by simpa using h6 0 _ rfl,fun j hj=>?_,?_⟩
 ·have:=h6 (j+1) _ (bG (k:=.u8) (l:=c::t) (j:=j+1) (by simpa using hj))
  rw[show off+1+j=off+(j+1) by omega,this];simp
 ·obtain⟨A,hA,hSA⟩:=yi h0 (k:=1) (by rw[am];simp)
  refine⟨A,hA,?_⟩;rw[JD]at hSA;simpa using hSA
theorem AK{w:World}{vb vl:Value}{c:Nat}{t:List Nat}{l:List Int}(hb:Sv w vb (az .u8 (c::t)))(h8:Bs (c::t))(hc:c<=4)(hs:Sv w vl (aH l))(hl:l.length<=256)(hi:Is l) :
  Calls Tryz.prog 309 #[vb,vl] w fun e w'=>e=.returned (.bool (decide (jf c l=t)))/\Below w.heap.size w w':=by
 have HEn:=ae (Ds hs hi c (by omega));have KD:jaH (Bs t):=fun x hx=>h8 x (by simp[hx])
 have Qz:=ae (eK c hi hl).2;have vS:c<=4/\l.length<=256:=⟨hc,hl⟩;have HEM:jaH (Sk c l=jf c l):=Yy vS;rw[YT vS]at HEn;obtain⟨g,off,cap,rfl,h1,h2,h3,h4,_,A,hA,hSA⟩:=hb.uncons;have kj:=ae hSA;have bw:cap<=9223372036854775807:=by unfold maxLen at h2;omega
 clear hb hs hi hSA h8 vS h2;go_enter Tryz.func309,Tryz.ntmps309
 go_wp2_with fail;refine HEn.o.mono ?_;rintro e w1 ⟨⟨v1,rfl,dI⟩,aA⟩;rw[HEM.o]at dI;have fK:=ae dI;have aN:=ae aA;clear dI aA;go_wp2_with fail;refine(mA fK.o.sv (kj.o.kept aN.o) Qz.o KD.o).mono ?_;rintro e w2 ⟨rfl,rfl⟩;go_wp2_with fail;go_ret
 exact⟨rfl,aN.o⟩
theorem NJ{c n:Nat}{t:List Nat}{l:List Int}(hc:c<=4)(hn:n<=256)(h:ap (rdC c n) (fin c t) t=.ok (l,[])):aS (c::t) (n:Int)=(l,0):=by
 rw[wR]at h;unfold aS;rw[Yy (by omega)];simp only;rw[Yx (by omega),Ze];cases hr:lu c n t with
 | ok m=>rw[hr]at h;simp at h;rw[h]
 | error e=>rw[hr]at h;simp at h
theorem JE{c n e:Nat}{t:List Nat}(hc:c<=4)(hn:n<=256)(h:ap (rdC c n) (fin c t) t=.error e):aS (c::t) (n:Int)=([],e):=by
 rw[wR]at h;unfold aS;rw[Yy (by omega)];simp only;rw[Yx (by omega),Ze];cases hr:lu c n t with
 | ok m=>rw[hr]at h;simp at h
 | error e=>rw[hr]at h;simp at h;rw[h]
theorem AL(w:World)(o:Obj):(w.alloc o).heap[w.heap.size]?=some o:=by
 unfold World.alloc;simp only[Array.getElem?_push_size]
theorem dN(w:World)(o:Obj):Below w.heap.size w (w.alloc o):=(Yz _ _).alloc (YA _) _
def ju(r:List Int×Nat)(w:World)(e:Ending)(w':World):Prop:=(∃ v,e=.returned (.tuple #[v,.int .i64 (r.2:Int)])/\bU w' w.heap.size v r.1)/\Below w.heap.size w w'
theorem NK{w:World}{vb:Value}(n:Int)(hn:¬ (0<=n/\n<=256)):Calls Tryz.prog 296 #[vb,.int .i64 n] w (ju ([],1) w):=by
 by_cases h0:n<0
 ·clear hn
  go_enter Tryz.func296,Tryz.ntmps296
  go_wp2_with fail;go_ret2
  exact⟨⟨_,rfl,bU.nil _ _⟩,Yz _ _⟩
 ·have h1:n > 256:=by omega
  clear hn;go_enter Tryz.func296,Tryz.ntmps296
  go_wp2_with fail;go_ret2
  exact⟨⟨_,rfl,bU.nil _ _⟩,Yz _ _⟩
theorem JF{w:World}{vb:Value}(hb:Sv w vb [])(n:Int)(hn:0<=n/\n<=256):Calls Tryz.prog 296 #[vb,.int .i64 n] w (ju ([],30) w):=by
 obtain⟨a,cap,rfl,_⟩:=hb;have h0:¬ n<0:=by omega
 have h1:¬ n > 256:=by omega
 clear hn;go_enter Tryz.func296,Tryz.ntmps296
 go_wp2_with fail;go_ret2
 exact⟨⟨_,rfl,bU.nil _ _⟩,Yz _ _⟩
theorem Ed{w:World}{vb:Value}{c:Nat}{t:List Nat}(hb:Sv w vb (az .u8 (c::t)))(h8:Bs (c::t))(hc:4<c)(n:Int)(hn:0<=n/\n<=256):Calls Tryz.prog 296 #[vb,.int .i64 n] w (ju ([],50) w):=by
 obtain⟨g,off,cap,rfl,h1,h2,h3,h4,_⟩:=hb.uncons;have h5:¬ n<0:=by omega
 have h6:¬ n > 256:=by omega
 have h7:(c:Int)>=5:=by omega
 have h9:=h8 c (by simp);have bw:cap<=9223372036854775807:=by unfold maxLen at h2;omega
 have bg:(((t.length+1:Nat):Int)==0)=false:=YN.2 (by omega);clear hn hb h8 h2;go_enter Tryz.func296,Tryz.ntmps296
 go_wp2_with fail;go_ret2
 exact⟨⟨_,rfl,bU.nil _ _⟩,Yz _ _⟩
theorem JG{w:World}{vb:Value}{c:Nat}{t:List Nat}(hb:Sv w vb (az .u8 (c::t)))(h8:Bs (c::t))(hc:c<=4)(n:Nat)(hn:n<=256):Calls Tryz.prog 296 #[vb,.int .i64 (n:Int)] w (ju (aS (c::t) (n:Int)) w):=by
 have WV:=ae hb;have H8:=ae h8;obtain⟨g,off,cap,rfl,h1,h2,h3,h4,h4b,A,hA,hSA⟩:=hb.uncons;have kj:=ae hSA;have h5:¬ (n:Int)<0:=by omega
 have h6:¬ (n:Int) > 256:=by omega
 have h7:¬ (c:Int)>=5:=by omega
 have bw:cap<=9223372036854775807:=by unfold maxLen at h2;omega
 have bg:(((t.length+1:Nat):Int)==0)=false:=YN.2 (by omega)
 have co:jaH (StC 333 (w.alloc (.cells #[.slice A t.length (cap-1),.int .i64 0] 333)) w.heap.size t 0):=ae (by
  have hh:(w.alloc (.cells #[.slice A t.length (cap-1),.int .i64 0] 333)).heap[w.heap.size]?=some (.cells #[.slice A t.length (cap-1),.int .i64 0] 333 (0,0)):=by
   exact AL _ _
  have Cv:Bs t:=fun x hx=>h8 x (by simp[hx])
  by_cases aV:cap=1
  ·rw[Yy aV]at hA
   subst hA;exact⟨g,off,cap-1,hh,h3,by omega,by omega,Cv,fun j hj=>by omega⟩
  ·rw[Yx aV]at hA
   subst hA;exact⟨g,off+1,cap-1,hh,h3,by omega,by omega,Cv,fun j hj=>((dN w _).cell (p:=⟨g,off+1+j,none⟩) h3).trans (h4b j hj)⟩)
 have HG:jaH (dp (ap (rdC c n) (fin c t) t) (ap (rdC c n) (fin c t)) t 0):=⟨fun _=>rfl,fun h=>absurd rfl h⟩;have Lj:=ae (fun l h=>NJ (c:=c) (n:=n) (t:=t) (l:=l) hc hn h);have HER:=ae (fun e h=>JE (c:=c) (n:=n) (t:=t) (e:=e) hc hn h);have yX:=ae (MW (fun r h=>MJ c t [] h) co.o hn hc HG.o);generalize ap (rdC c n) (fin c t) t=D at *;generalize aS (c::t) (n:Int)=R at *;clear hb h8 h2 hSA h4b HG;go_enter Tryz.func296,Tryz.ntmps296
 go_wp2_with fail;refine yX.o.mono ?_;rintro e w2 ⟨l,b2,f2,⟨v2,rfl,ex⟩,Ld,yV,cP,gx,cK⟩;have ec:=ae ex;have Rj:=ae Ld;have eP:=ae cP;have Fk:=ae gx;have ay:Below w.heap.size w w2:=(dN w _).trans (cK.below (YA _) (by rw[YB];omega));have aK:=ae ay;have bh:=ay.size;have ir:=cP.lt;clear ex Ld cP gx cK ay;go_wp2_with fail;refine(FU eP.o).mono ?_;rintro e w3 ⟨rfl,jX,gC⟩;have aO:Below w.heap.size w w3:=aK.o.trans (gC.below (YA _) bh);have dx:=ae (ec.o.fr gC (by rw[YB];omega));have bT:=ae aO;have jE:=aO.size
 have TS:jaH ((orf f2 (if b2.length=0 then 0 else 32)=0->D=if jf c l=t then .ok (l,[]) else .error 40)/\(orf f2 (if b2.length=0 then 0 else 32)≠0->D=.error (orf f2 (if b2.length=0 then 0 else 32)))):=ae (by
  obtain⟨q1,q2⟩:=Fk.o;by_cases hf:f2=0
  ·subst hf
   rw[dY];have q3:=q1 rfl;unfold fin at q3;by_cases gV:b2.length=0
   ·rw[Yy gV]at q3 ⊢
    exact⟨fun _=>q3,fun e=>absurd rfl e⟩
   ·rw[Yx gV]at q3 ⊢
    exact⟨fun e=>by omega,fun _=>q3⟩
  ·rw[dA hf]
   exact⟨fun e=>absurd e hf,q2⟩)
 generalize orf f2 (if b2.length=0 then 0 else 32)=f3 at *;have lC:=ae jX;obtain⟨G,O,C,k0,k1,k2,k3,k4,k5,k6,k7,k8,k9⟩:=jX.cells;clear jX gC aO k0 k2 k3 k4 k5 k6 k7 k8 k9;have Ya:=ae (dx.o.low (show w.heap.size<=(w.alloc (.cells #[.slice A t.length (cap-1),.int .i64 0] 333)).heap.size by rw[YB];omega));by_cases tg:((f3:Int)==0)=true
 ·have hf0':f3=0:=by simpa using tg
  have hD:=TS.o.1 hf0';subst hf0';have KL:=ae (AK (WV.o.kept bT.o) H8.o hc dx.o.sv (by omega) Rj.o);by_cases hw:jf c l=t
  ·rw[Yy hw]at hD
   rw[YT hw]at KL;have HR:=ae (Lj.o l hD);clear hD hw tg;go_wp2_with fail;refine KL.o.mono ?_;rintro e w4 ⟨rfl,bm⟩;obtain⟨G',O',C',j0,j1,j2,j3,j4,j5,j6,j7,j8,j9⟩:=(lC.o.kept bm lC.o.lt).cells;have cA:=ae (bT.o.trans (bm.mono jE));have fU:=ae (Ya.o.kept bm);clear bm j0 j2 j3 j4 j5 j6 j7 j8 j9 k1;go_wp2_with fail;go_ret2
   rw[HR.o];exact⟨⟨_,rfl,fU.o⟩,cA.o⟩
  ·rw[Yx hw]at hD
   rw[YO hw]at KL;have HR:=ae (HER.o 40 hD);clear hD hw tg;go_wp2_with fail;refine KL.o.mono ?_;rintro e w4 ⟨rfl,bm⟩;have vP:=ae (lC.o.kept bm lC.o.lt);have cA:=ae (bT.o.trans (bm.mono jE));have Kx:=cA.o.size;clear bm k1;go_wp2_with fail;refine(cE vP.o 40).mono ?_;rintro e w5 ⟨rfl,lD,gD⟩;rw[dY]at lD;obtain⟨G',O',C',j0,j1,j2,j3,j4,j5,j6,j7,j8,j9⟩:=lD.cells;have aJ:=ae (cA.o.trans (gD.below (YA _) Kx));clear lD gD j0 j2 j3 j4 j5 j6 j7 j8 j9;go_wp2_with fail;go_quiet (fail)
   go_wp2_with fail;go_ret2
   rw[HR.o];exact⟨⟨_,rfl,bU.nil _ _⟩,ak aJ.o _⟩
 ·have hff:((f3:Int)==0)=false:=by simpa using tg
  have TT:((f3:Int) != 0)=true:=by simpa using tg
  have hD:=TS.o.2 (fun e=>tg (by simp[e]));have HR:=ae (HER.o f3 hD);clear hD tg;go_wp2_with fail;go_quiet (fail)
  go_wp2_with fail;go_ret2
  rw[HR.o];exact⟨⟨_,rfl,bU.nil _ _⟩,ak bT.o _⟩
theorem AM{w:World}{vb:Value}{b:List Nat}(hb:Sv w vb (az .u8 b))(h8:Bs b)(n:Int):Calls Tryz.prog 296 #[vb,.int .i64 n] w (ju (aS b n) w):=by
 by_cases hn:0<=n/\n<=256
 ·cases b with
  | nil =>
   have e:aS [] n=([],30):=by unfold aS;rw[Yy hn]
   rw[e];exact JF hb n hn
  | cons c t =>
   by_cases hc:c<=4
   ·obtain⟨m,rfl⟩:=jap hn.1
    exact JG hb h8 hc m (by omega)
   ·have e:aS (c::t) n=([],50):=by unfold aS;rw[Yy hn];simp only;rw[Yy (by omega)]
    rw[e];exact Ed hb h8 (by omega) n hn
 ·have e:aS b n=([],1):=by unfold aS;rw[Yx hn]
  rw[e];exact NK n hn
def SvK(W:World)(v:Value)(l:List Nat):Prop :=
 ∃ a cap,v=.slice a l.length cap/\l.length<=cap/\cap<=maxLen/\(a=none->cap=0) /\
  (0<l.length->∃ b off,a=some ⟨b,off,none⟩/\b<W.heap.size/\∀ j (h:j<l.length),W.cell? ⟨b,off+j,none⟩=some (.int .u8 (l[j]:Int)))
theorem SvK.kept{W W':World}{v:Value}{l:List Nat}(h:SvK W v l)(hb:Below W.heap.size W W'):SvK W' v l:=by
 obtain⟨a,cap,rfl,h1,h2,h3,h4⟩:=h;refine⟨a,cap,rfl,h1,h2,h3,fun h0=>?_⟩;obtain⟨b,off,rfl,h5,h6⟩:=h4 h0;exact⟨b,off,rfl,Za h5 hb.size,fun j hj=>(hb.cell (p:=⟨b,off+j,none⟩) h5).trans (h6 j hj)⟩
theorem SvK.of_own{W:World}{B e n:Nat}{v:Value}{l:List Nat}(h:W.ownsRow B e 1 v n (az .u8 l)):SvK W v l:=by
 have hl:l.length=n:=by have:=h.1;simpa [az]using this
 obtain⟨_,h1⟩:=id h;rcases h1 with ⟨rfl,rfl⟩ | ⟨g,cap,cur,rfl,hb,hg,h4,h5,_⟩
 ·exact⟨none,0,by rw[hl],by omega,by unfold maxLen;omega,fun _=>rfl,fun h0=>by omega⟩
 ·refine⟨_,cap,by rw[hl],by omega,h5,fun h=>(by cases h),fun _=>⟨g,0,rfl,(Array.getElem?_eq_some_iff.1 hg).1,fun j hj=>?_⟩⟩
  have:=h.cells (g:=g) rfl j _ (bG hj);rw[oz]at this;rwa[YY]
theorem SvK.form{W:World}{v:Value}{l:List Nat}(h:SvK W v l):∃ a cap,v=.slice a l.length cap/\l.length<=cap/\cap<=maxLen:=by
 obtain⟨a,cap,h0,h1,h2,_⟩:=h;exact⟨a,cap,h0,h1,h2⟩
theorem SvK.take{W:World}{a:Option Addr}{n cap:Nat}{l:List Nat}(h:SvK W (.slice a n cap) l){k:Nat}(hk:k<=l.length):SvK W (.slice a k cap) (l.take k):=by
 obtain⟨a',c,h1,h2,h3,h4,h5⟩:=h;simp only[Value.slice.injEq]at h1;obtain⟨rfl,_,rfl⟩:=h1;have hl:(l.take k).length=k:=by rw[YH];omega
 refine⟨_,cap,by rw[hl],by omega,h3,h4,fun h0=>?_⟩;obtain⟨b',off',h6,h7,h8⟩:=h5 (by omega);refine⟨b',off',h6,h7,fun j hj=>?_⟩;rw[h8 j (by omega),List.getElem_take]
theorem SvK.conv{W:World}{v:Value}{l:List Nat}(h:SvK W v l)(h8:Bs l):(convert 30 9 v).run Tryz.prog W=.ok (txt l) W:=by
 obtain⟨a,cap,rfl,h1,h2,_,h3⟩:=h;rcases Zw l.length with h0 | hp
 ·obtain rfl:l=[]:=YU h0
  first
   | exact run_convert_bytes_back_empty W 30 9 5 a cap Tryz.underlying30 Tryz.underlying5 Tryz.underlying9
   | (cases a<;>rfl)
   | (cases a<;>kernel_rfl)
 ·obtain⟨b,off,rfl,h4,h5⟩:=h3 hp
  have:=run_convert_bytes_back W 30 9 5 ⟨b,off,none⟩ cap (l.map Nat.toUInt8) Tryz.underlying30 Tryz.underlying5 Tryz.underlying9 (fun j hj=>by
   have hj':j<l.length:=by simpa using hj
   rw[kq,h5 j hj'];have h9:=h8 l[j] (YF hj');congr 2
   simp[ZF h9])
  rw[YD]at this;exact this
theorem NL{x y:Nat}(hx:x<256)(hy:y<256)(h:x.toUInt8=y.toUInt8):x=y:=by
 have:=YE UInt8.toNat h;simpa [ZF hx,ZF hy]using this
theorem uq:∀{a b:List Nat},Bs a->Bs b->a.map Nat.toUInt8=b.map Nat.toUInt8->a=b
 | [],[],_,_,_=>rfl
 | [],_::_,_,_,h=>by simp at h
 | _::_,[],_,_,h=>by simp at h
 | x::a,y::b,ha,hb,h=>by
  simp only[Zh,List.cons.injEq]at h;rw[NL (ha x (by simp)) (hb y (by simp)) h.1,uq (fun z hz=>ha z (by simp[hz])) (fun z hz=>hb z (by simp[hz])) h.2]
theorem aG.svK{W:World}{B:Nat}{v:Value}{bs:List Nat}(h:aG W B v bs):SvK W v bs:=SvK.of_own h
theorem aG.form{W:World}{B:Nat}{v:Value}{bs:List Nat}(h:aG W B v bs)(hp:0<bs.length):∃ g cap,v=.slice (some ⟨g,0,none⟩) bs.length cap/\B<=g/\g<W.heap.size:=by
 obtain⟨hl,h1⟩:=id h;rcases h1 with ⟨rfl,h0⟩ | ⟨g,cap,cur,rfl,hb,hg,h4⟩
 ·omega
 ·exact⟨g,cap,rfl,hb,(Array.getElem?_eq_some_iff.1 hg).1⟩
theorem aG.at{W:World}{B g n cap:Nat}{bs:List Nat}(h:aG W B (.slice (some ⟨g,0,none⟩) n cap) bs){j:Nat}(hj:j<bs.length):W.cell? ⟨g,j,none⟩=some (.int .u8 (bs[j]:Int))/\W.frozen? ⟨g,j,none⟩=false:=by
 have hn:n=bs.length:=by
  obtain⟨a,cap,h1,_⟩:=h.svK;simp only[Value.slice.injEq]at h1;exact h1.2.1
 subst hn;unfold aG at h;exact⟨(h.cellAt j (by omega)).trans (bG hj),h.frozenAt j⟩
theorem aG.stored{W:World}{B g n cap:Nat}{bs:List Nat}(h:aG W B (.slice (some ⟨g,0,none⟩) n cap) bs)(j c:Nat):aG (W.setCell ⟨g,j,none⟩ (.int .u8 (c:Int))) B (.slice (some ⟨g,0,none⟩) n cap) (bs.set j c):=by
 have hn:n=bs.length:=by
  obtain⟨a,cap,h1,_⟩:=h.svK;simp only[Value.slice.injEq]at h1;exact h1.2.1
 subst hn;unfold aG at *;have:=(h.stored j (.int .u8 (c:Int))).1;rw[kp]at this;rw[jak];exact this
theorem gp{w:World}{ops:Array Oper}{rest:List Oper}{o:Oper}{a:Act}{Q:Exit->Act->World->Prop}(dO:o.guard=none)(s x:Operand)
  (ho:o.op=.call { callee:=.builtin .append,args:=#[s,x],argTypes:=#[30,30] })
  (base:Nat) (v vx:Value) (l0 l:List Nat) (hs:a.eval s=v) (aw:aG w base v l0) (hx:a.eval x=vx) (et:SvK w vx l)
  (hbytes:l0.length+l.length<=140737488355328) (aD:base<=w.heap.size)
  (h:∀ v' w',aG w' base v' (l0++l)->Below base w w'->wpList Tryz.prog ops Q rest (a.put o.dst v') w') :
  wpList Tryz.prog ops Q (o::rest) a w:=by
 obtain⟨i0,hi,bN,hz1',bh⟩:=YW lF;unfold aG at *;obtain⟨ad,cap,rfl,h1,h2,h3,h4⟩:=et;cases ad with
 | none =>
  have hc:=h3 rfl;subst hc;have hl:l=[]:=YU (by omega);subst hl;refine wpList_plain dO fun K hK=>?_
  have hr:=jae (P:=Tryz.prog) (w:=w) base 30 o.type 5 i0 1 Tryz.underlying30 hi v l0.length (az .u8 l0) aw;unfold Oper.wp execOp;simp only[ho,resolve,invoke,builtin,Sem.run_bind,Sem.run_pure,Result.andThen_ok,ZP,Zh,Zs,hs,hx,hr,Zc];refine hK _ _ (h v w ?_ (Yz _ _));rw[YZ];exact aw
 | some ad =>
  refine ZI (w:=w) dO s x 30 ho base 5 i0 (.int .u8 0) 1 1 Tryz.underlying30 hi bN hz1' bh rfl (by decide) v l0.length (az .u8 l0) hs aw ad l.length cap (az .u8 l) hx (by rw[am];omega) ?_ (iH _ _) (by unfold maxLen;omega) (by omega) aD ?_
  ·intro j u hu
   have hj:j<l.length:=by
    have:=(List.getElem?_eq_some_iff.1 hu).1;rwa[am]at this
   obtain⟨b,off,h5,_,h6⟩:=h4 (by omega);cases h5
   rw[kq,h6 j hj];rw[bG hj]at hu;exact hu
  ·intro v' w' o1 g1 _ _
   refine h v' w' ?_ ((Yz base w).grown g1 aD (fun k hk=>(aw.lt k hk).1));rw[dL,YC];exact o1
def Tab(W:World):Prop:=0<W.heap.size/\∀ i:Nat,i<16->W.cell? ⟨0,i,none⟩=some (.int .u32 ((ez 4 i:Nat):Int))
theorem Tab.kept{W W':World}(h:Tab W)(hb:Below W.heap.size W W'):Tab W' :=
 ⟨Za h.1 hb.size,fun i hi=>(hb.cell (p:=⟨0,i,none⟩) h.1).trans (h.2 i hi)⟩
theorem AN{w:World}(ht:Tab w)(s:Nat)(hs:s<4294967296):Calls Tryz.prog 165 #[.int .u32 (s:Int)] w fun e w'=>e=.returned (.int .u32 ((ez 4 s:Nat):Int))/\w'=w:=by
 have hc:=ht.2 (s % 16) (Nat.mod_lt _ (by omega));have Fm:=Jy 4 s;have ar:=ta 4 (c:=s % 16) (by omega);have hx:=u32_xor_nat (s / 16) (ez 4 (s % 16)) (by omega) ar;rw[Nat.xor_comm,← Fm]at hx;clear Fm;obtain⟨r,hr⟩:∃ r,s % 16=r:=⟨_,rfl⟩;obtain⟨q,hq⟩:∃ q,s / 16=q:=⟨_,rfl⟩;have hr16:r<16:=by omega
 have ha:bits .and .u32 (s:Int) 15=(r:Int):=by
  have:=u32_and_nat s 15 hs (by omega);rw[nat_mask4,hr]at this;exact this
 have od:(s:Int) / 16=(q:Int):=by omega
 rw[hr]at hc hx;rw[hq]at hx;generalize ez 4 r=t at *;generalize ez 4 s=u at *;clear hr hq;go_enter Tryz.func165,Tryz.ntmps165
 go_wp2_with fail;go_ret
 exact⟨rfl,rfl⟩
theorem NM{c:Nat}{l:List Nat}{k:Nat}(h:k<l.length):run c (l.take (k+1))=byt (run c (l.take k)) l[k]:=by
 rw[YP h,NH]
theorem Bs.get{l:List Nat}(h:Bs l){k:Nat}(hk:k<l.length):l[k]<256:=h _ (YF hk)
theorem Bs.le4(s:Nat):Bs (le4 s):=qI s
theorem Bs.seal{b:List Nat}(h:Bs b):Bs (br b):=h.append (Bs.le4 _)
theorem NN{w:World}{v:Value}{l:List Nat}(ht:Tab w)(hs:SvK w v l)(h8:Bs l)(c:Nat)(hc:c<4294967296) :
  Calls Tryz.prog 118 #[.int .u32 (c:Int),v] w fun e w'=>e=.returned (.int .u32 ((qH c l:Nat):Int))/\w'=w:=by
 obtain⟨a,cap,rfl,h1,h2,_,fT⟩:=hs;have uS:l.length<=9223372036854775807:=by unfold maxLen at h2;omega
 have HC:=ae fT;have H8:=ae h8;have HT:=ae ht
 have TL:bits .xor .u32 IntKind.u32.max (c:Int)=((c ^^^ 4294967295:Nat):Int):=by
  have:=u32_xor_nat 4294967295 c (by omega) hc;rw[Nat.xor_comm]at this;exact this
 have Gv:c ^^^ 4294967295<4294967296:=lQ hc (by omega);have HE:jaH (qH c l=run (c ^^^ 4294967295) l ^^^ 4294967295):=ae rfl;have HE:=HE;generalize qH c l=R at *;generalize c ^^^ 4294967295=s0 at *;clear fT h8 ht h1 h2;go_enter Tryz.func118,Tryz.ntmps118
 go_wp2_with fail;go_loopw [5,12] (fun st i w'=>w'=w/\∃ k:Nat,k<=l.length/\i=.int .i64 (k:Int)/\st=.int .u32 ((run s0 (l.take k):Nat):Int)) (fun _ i _=>l.length-(intOf i).toNat)
 case atStart=>exact⟨rfl,0,by omega,rfl,rfl⟩
 case round =>
  obtain⟨rfl,k,hk,rfl,rfl⟩:=hrel;by_cases ar:k<l.length
  ·obtain⟨b,off,rfl,hb,bn⟩:=HC.o (by omega)
   have ek:=bn k ar;have hx8:=H8.o.get ar;have et:run s0 (l.take k)<4294967296:=yq Gv (H8.o.take k)
   have HN:jaH (run s0 (l.take (k+1))=ez 4 (ez 4 (run s0 (l.take k) ^^^ l[k]))):=by
    show _=_
    rw[NM ar];exact ph 4 4 _
   clear bn;generalize l[k]=x at *;generalize run s0 (l.take k)=s at *;have hxx:=u32_xor_nat s x et (by omega);have BX:s ^^^ x<4294967296:=lQ et (by omega);generalize s ^^^ x=y at *;have hy1:ez 4 y<4294967296:=ta 4 BX;go_wp2_with fail;refine(AN HT.o y BX).mono ?_;rintro e w1 ⟨rfl,rfl⟩;generalize ez 4 y=y1 at *;go_wp2_with fail;refine(AN HT.o y1 hy1).mono ?_;rintro e w2 ⟨rfl,rfl⟩;generalize ez 4 y1=y2 at *;go_wp2_with fail;go_roundw
   case rel=>exact⟨trivial,k+1,by omega,by go_num,by rw[HN.o]⟩
   case measure=>simp[intOf];omega
  ·obtain rfl:k=l.length:=by omega
   rw[YK];have et:run s0 l<4294967296:=yq Gv H8.o;have hxx:=u32_xor_nat 4294967295 (run s0 l) (by omega) et;rw[Nat.xor_comm,← HE.o]at hxx;have hxx':bits .xor .u32 IntKind.u32.max ((run s0 l:Nat):Int)=(R:Int):=hxx;clear hxx;generalize run s0 l=s at *;go_wp2_with fail;go_ret
   exact⟨rfl,rfl⟩
theorem SS{w:World}{v:Value}{l:List Nat}(ht:Tab w)(hs:SvK w v l)(h8:Bs l) :
  Calls Tryz.prog 79 #[v] w fun e w'=>e=.returned (.int .u32 ((qH 0 l:Nat):Int))/\w'=w:=by
 have HM:=ae (NN ht hs h8 0 (by omega));obtain⟨a,cap,rfl,h1,h2⟩:=hs.form;clear hs h8 ht;generalize qH 0 l=R at *;go_enter Tryz.func79,Tryz.ntmps79
 go_wp2_with fail;refine HM.o.mono ?_;rintro e w1 ⟨rfl,rfl⟩;go_wp2_with fail;go_ret
 exact⟨rfl,rfl⟩
theorem Gc(x:Nat):IntKind.u8.wrap ((x:Nat):Int)=((x % 256:Nat):Int):=by rw[IntKind.wrap_u8];omega
theorem AO{w:World}{v:Value}{l:List Nat}(ht:Tab w)(hs:SvK w v l)(h8:Bs l)(hl:l.length<=100000000) :
  Calls Tryz.prog 40 #[v] w (dJ w (br l)):=by
 have HO:=ae (SS ht hs h8);have HS:=ae hs;have HE:jaH (br l=l++le4 (qH 0 l)):=ae rfl;have hc:=yr (c:=0) (by omega) h8;obtain⟨a,cap,rfl,h1,h2⟩:=hs.form;clear hs h8 ht h1 h2;generalize qH 0 l=c at *;have re:(c:Int) / 256=((c / 256:Nat):Int):=by omega
 have od:(c:Int) / 65536=((c / 65536:Nat):Int):=by omega
 have KM:(c:Int) / 16777216=((c / 16777216:Nat):Int):=by omega
 have HD:jaH (le4 c=[c % 256,c / 256 % 256,c / 65536 % 256,c / 16777216 % 256]):=ae rfl;have g0:=Gc c;have g1:=Gc (c / 256);have g2:=Gc (c / 65536);have g3:=Gc (c / 16777216);generalize c / 256=c1 at *;generalize c / 65536=c2 at *;generalize c / 16777216=c3 at *;generalize c % 256=d0 at *;generalize c1 % 256=d1 at *;generalize c2 % 256=d2 at *;generalize c3 % 256=d3 at *;obtain⟨i0,hi,bN,hz1',bh⟩:=YW lF;go_enter Tryz.func40,Tryz.ntmps40
 go_wp2_with fail;refine HO.o.mono ?_;rintro e w1 ⟨rfl,rfl⟩;go_wp2_with (first | (refine wpList_make_own _ rfl _ _ 30 rfl w1.heap.size 5 i0 (.int .u8 0) 1 Tryz.underlying30 hi bN hz1' .i64 .i64 _ (l.length+4) rfl rfl ?m1 ?m2 ?m3 ?m4 ?_))
 case m1=>first | rfl | omega
 case m2=>rw[bh];omega
 case m3=>unfold maxLen;omega
 case m4=>omega
 intro w2 ex gx;have ay:Below w1.heap.size w1 w2:=(Yz _ _).grown gx (YA _) (fun k hk=>by cases hk);have ho2':aG w2 w1.heap.size (.slice (some ⟨w1.heap.size,0,none⟩) 0 (l.length+4)) []:=ex;have ec:=ae ho2';have aK:=ae ay;have eP:=ae (HS.o.kept ay);have ll:=ay.size;clear ex gx ay ho2';go_wp2_with (first | (at_builtin;refine gp rfl _ _ rfl w1.heap.size _ _ [] l rfl ec.o rfl eP.o ?c1 ?c2 ?_))
 case c1=>simp;omega
 case c2=>omega
 intro v3 w3 o3 aO;have dx:=ae o3;have bT:=ae (aK.o.trans aO);have hsz3:=aO.size;clear o3 aO;have Fq:jaH (aG (w3.alloc (.cells #[.int .u8 (d0:Int),.int .u8 (d1:Int),.int .u8 (d2:Int),.int .u8 (d3:Int)] 5)) w3.heap.size (.slice (some ⟨w3.heap.size,0,none⟩) 4 4) [d0,d1,d2,d3]):=ae (wj w3 [d0,d1,d2,d3] (by unfold maxLen;simp));have fU:=ae (dx.o.kept (dN w3 (.cells #[.int .u8 (d0:Int),.int .u8 (d1:Int),.int .u8 (d2:Int),.int .u8 (d3:Int)] 5)));go_wp2_with (first | (at_builtin;refine gp rfl _ _ rfl w1.heap.size _ _ ([]++l) [d0,d1,d2,d3] rfl ?q1 rfl ?q2 ?c3 ?c4 ?_))
 case q1=>exact fU.o
 case q2=>exact Fq.o.svK
 case c3=>simp;omega
 case c4=>rw[YB];omega
 intro v5 w5 o5 bv;try rw[ZD]at o5
 rw[← HD.o,← HE.o]at o5;have cQ:=ae o5;have aJ:=ae (bT.o.trans (((dN w3 (.cells #[.int .u8 (d0:Int),.int .u8 (d1:Int),.int .u8 (d2:Int),.int .u8 (d3:Int)] 5)).mono (by omega)).trans bv));clear o5 bv;go_wp2_with fail;go_ret
 exact⟨⟨_,rfl,cQ.o⟩,aJ.o⟩
theorem SU{a b:List Nat}(ha:Bs a)(hb:Bs b):(a.map Nat.toUInt8==b.map Nat.toUInt8)=decide (a=b):=by
 rw[jaj];simp only[beq_iff_eq,Zu];exact⟨uq ha hb,fun h=>by rw[h]⟩
theorem Ee{w:World}{v u:Value}{a b:List Nat}(ha:SvK w v a)(hb:SvK w u b)(ha8:Bs a)(lm:Bs b) :
  Calls Tryz.prog 92 #[v,u] w fun e w'=>e=.returned (.bool (decide (a=b)))/\w'=w:=by
 have jy:=ha.conv ha8;have jH:=hb.conv lm;have HE:=ae (SU ha8 lm);obtain⟨a1,cap1,rfl,_,_⟩:=ha.form;obtain⟨a2,cap2,rfl,_,_⟩:=hb.form;unfold txt at jy jH;generalize a.map Nat.toUInt8=x at *;generalize b.map Nat.toUInt8=y at *;generalize decide (a=b)=t at *;clear ha hb ha8 lm;go_enter Tryz.func92,Tryz.ntmps92
 go_wp2_with fail;go_ret
 refine⟨?_,rfl⟩;rw[← HE.o];simp
theorem Ef{w:World}{v:Value}{l:List Nat}(hs:SvK w v l)(hl:l.length<=100000000) :
  Calls Tryz.prog 93 #[v] w (dJ w l):=by
 have HS:=ae hs;obtain⟨ad,cap,rfl,h1,h2,h3,_⟩:=hs;cases ad with
 | none =>
  have hc:=h3 rfl;subst hc;have sQ:l=[]:=YU (by omega);subst sQ;have hq:(binOp .eql 30 (.slice none 0 0) (.slice none 0 0)).run Tryz.prog w=.ok (.bool true) w:=jam w 30 5 none 0 0 0 0 Tryz.underlying30;go_enter Tryz.func93,Tryz.ntmps93
  go_wp2_with fail;go_ret
  exact⟨⟨_,rfl,aG.nil _ _⟩,Yz _ _⟩
 | some ad =>
  have HN:=ae (tn w);have eP:=ae (HS.o.kept (dN w (.cells #[] 5)));clear h3;have hq:(binOp .eql 30 (.slice (some ad) l.length cap) (.slice none 0 0)).run Tryz.prog w=.ok (.bool false) w:=jam w 30 5 (some ad) l.length cap 0 0 Tryz.underlying30;go_enter Tryz.func93,Tryz.ntmps93
  go_wp2_with (first | (at_builtin;refine gp rfl _ _ rfl w.heap.size _ _ [] l rfl ?q1 rfl ?q2 ?c1 ?c2 ?_))
  case q1=>exact HN.o
  case q2=>exact eP.o
  case c1=>simp;omega
  case c2=>rw[YB];omega
  intro v3 w3 o3 aO;have dx:=ae o3;have bT:=ae ((dN w (.cells #[] 5)).trans aO);clear o3 aO;go_wp2_with fail;go_ret
  exact⟨⟨_,rfl,dx.o⟩,bT.o⟩
def VY(w:World)(o:Option (List Nat))(e:Ending)(w':World):Prop:=(∃ v,e=.returned (.tuple #[v,.bool o.isSome])/\aG w' w.heap.size v (o.getD []))/\Below w.heap.size w w'
theorem AP{l:List Nat}(h:l.length<4):ik l=none:=by
 unfold ik;rw[Yx (by omega)]
theorem NO{w:World}{v:Value}{l:List Nat}(ht:Tab w)(hs:SvK w v l)(h8:Bs l)(hl:l.length<=100000000) :
  Calls Tryz.prog 51 #[v] w (VY w (ik l)):=by
 have HS:=ae hs;obtain⟨a,cap,rfl,h1,h2⟩:=hs.form;have uS:l.length<=9223372036854775807:=by omega
 by_cases h4:l.length<4
 ·rw[AP h4]
  have ar:(l.length:Int)-4<0:=by omega
  clear hs h8 ht h1 h2;go_enter Tryz.func51,Tryz.ntmps51
  go_wp2_with fail;go_ret2
  exact⟨⟨_,rfl,aG.nil _ _⟩,Yz _ _⟩
 ·obtain⟨n,hn⟩:∃ n,l.length=n+4:=⟨l.length-4,by omega⟩
  have mP:¬ (n:Int)<0:=by omega
  have Qe:n<=l.length:=by omega
  have hA:=hs.take Qe;have HA:=ae hA;have H8:=ae h8;have H8t:=ae (h8.take n);have HSE:=ae (AO ht hA (h8.take n) (by rw[YH];omega))
  have lp:jaH (ik l=if br (l.take n)=l then some (l.take n) else none):=by
   show _=_
   unfold ik;rw[hn,Nat.add_sub_cancel];simp
  have ob:(l.length:Int)-4=(n:Int):=by omega
  have bg:(l.take n).length<=100000000:=by rw[YH];omega
  have hncap:n<=cap:=by omega
  rw[hn]at HS;rw[hn];clear hs h8 ht h1 h2 hA uS;have H8s:=ae H8t.o.seal;generalize ik l=R at *;generalize l.take n=m at *;go_enter Tryz.func51,Tryz.ntmps51
  go_wp2_with fail;refine HSE.o.mono ?_;rintro e w1 ⟨⟨v1,rfl,o1⟩,aA⟩;have UR:=ae (Ee (HS.o.kept aA) o1.svK H8.o H8s.o);have QA:=ae (HA.o.kept aA);have aN:=ae aA;clear o1 aA;by_cases vS:br m=l
  ·rw[vS,YT rfl]at UR
   have HR:jaH (R=some m):=by show _=_;rw[lp.o,Yy vS]
   clear vS lp H8s;go_wp2_with fail;refine UR.o.mono ?_;rintro e w2 ⟨rfl,rfl⟩;go_wp2_with fail;refine(Ef QA.o bg).mono ?_;rintro e w3 ⟨⟨v3,rfl,o3⟩,aO⟩;have dx:=ae o3;have bT:=ae aO;clear o3 aO;go_wp2_with fail;go_ret2
   rw[HR.o];refine⟨⟨_,rfl,?_⟩,ag aN.o bT.o⟩;exact dx.o.low aN.o.size
  ·rw[YO (fun h=>vS h.symm)]at UR
   have HR:jaH (R=none):=by show _=_;rw[lp.o,Yx vS]
   clear vS lp H8s;go_wp2_with fail;refine UR.o.mono ?_;rintro e w2 ⟨rfl,rfl⟩;go_wp2_with fail;go_ret2
   rw[HR.o];exact⟨⟨_,rfl,aG.nil _ _⟩,aN.o⟩
theorem qJ{w:World}{ops:Array Oper}{rest:List Oper}{o:Oper}{a:Act}{Q:Exit->Act->World->Prop}(dO:o.guard=none)(s x:Operand)
  (ho:o.op=.call { callee:=.builtin .append,args:=#[s,x],argTypes:=#[30,30] })
  (base:Nat) (v vx:Value) (l0 l:List Nat) (hs:a.eval s=v) (aw:aG w base v l0) (hx:a.eval x=vx) (et:Sv w vx (az .u8 l))
  (hbytes:l0.length+l.length<=140737488355328) (aD:base<=w.heap.size)
  (h:∀ v' w',aG w' base v' (l0++l)->w.grownBy w' v.ownBlock->wpList Tryz.prog ops Q rest (a.put o.dst v') w') :
  wpList Tryz.prog ops Q (o::rest) a w:=by
 obtain⟨i0,hi,bN,hz1',bh⟩:=YW lF;unfold aG at *;obtain⟨ad,cap,rfl,h1,h2,h3,h4⟩:=et;rw[am]at *;cases ad with
 | none =>
  have hc:=h3 rfl;subst hc;have hl:l=[]:=YU (by omega);subst hl;refine wpList_plain dO fun K hK=>?_
  have hr:=jae (P:=Tryz.prog) (w:=w) base 30 o.type 5 i0 1 Tryz.underlying30 hi v l0.length (az .u8 l0) aw;unfold Oper.wp execOp;simp only[ho,resolve,invoke,builtin,Sem.run_bind,Sem.run_pure,Result.andThen_ok,ZP,Zh,Zs,hs,hx,hr,Zc];refine hK _ _ (h v w ?_ ⟨rfl,rfl,rfl,YA _,fun _ _ _=>rfl⟩);rw[YZ];exact aw
 | some ad =>
  refine ZI (w:=w) dO s x 30 ho base 5 i0 (.int .u8 0) 1 1 Tryz.underlying30 hi bN hz1' bh rfl (by decide) v l0.length (az .u8 l0) hs aw ad l.length cap (az .u8 l) hx (by rw[am];omega) ?_ (iH _ _) (by unfold maxLen;omega) (by omega) aD ?_
  ·intro j u hu
   have hj:j<l.length:=by
    have:=(List.getElem?_eq_some_iff.1 hu).1;rwa[am]at this
   obtain⟨b,off,h5,_,h6⟩:=h4 (by omega);cases h5
   rw[kq];exact h6 j u hu
  ·intro v' w' o1 g1 _ _
   refine h v' w' ?_ g1;rw[dL,YC];exact o1
def Gs(W:World)(g:Nat)(v:Value)(bs:List Nat):Prop:=W.heap[g]?=some (.cells #[v] 30 (0,0))/\aG W (g+1) v bs
theorem Gs.lt{W:World}{g:Nat}{v:Value}{bs:List Nat}(h:Gs W g v bs):g<W.heap.size:=(Array.getElem?_eq_some_iff.1 h.1).1
theorem Gs.kept{W W':World}{g:Nat}{v:Value}{bs:List Nat}(h:Gs W g v bs)(hb:Below W.heap.size W W'):Gs W' g v bs:=⟨(hb.block g h.lt).trans h.1,h.2.kept hb⟩
def SV(w:World)(g:Nat)(v:Value)(bs:List Nat)(e:Ending)(w':World):Prop :=
 e=.returned (.tuple #[])/\(∃ v',Gs w' g v' bs)/\Below g w w'/\∀ k,k<w.heap.size->k≠g->v.ownBlock≠some k->w'.heap[k]?=w.heap[k]?
def io(w:World)(g:Nat)(bs:List Nat)(e:Ending)(w':World):Prop:=e=.returned (.tuple #[])/\(∃ v',Gs w' g v' bs)/\Below g w w'
theorem eb{w:World}{g:Nat}{v vp:Value}{bs ps:List Nat}(h:Gs w g v bs)(hp:Sv w vp (az .u8 ps))(hl:bs.length+ps.length<=1000000) :
  Calls Tryz.prog 168 #[vp,.pointer (some ⟨g,0,none⟩)] w (SV w g v (bs++ps)):=by
 have ar:=h.lt;have HG:=ae h;have HP:=ae hp;have hc:w.cell? ⟨g,0,none⟩=some v:=by rw[an h.1];rfl
 have hfz:w.frozen? ⟨g,0,none⟩=false:=by simp[World.frozen?,h.1]
 clear h hp;go_enter Tryz.func168,Tryz.ntmps168
 go_wp2_with (first | (at_builtin;refine qJ rfl _ _ rfl (g+1) _ _ bs ps rfl HG.o.2 rfl HP.o ?c1 ?c2 ?_))
 case c1=>omega
 case c2=>omega
 intro v' w1 o1 g1
 have fb:some g≠v.ownBlock:=fun e=>by
  have:=(HG.o.2.lt g e.symm).1;omega
 have hh:w1.heap[g]?=some (.cells #[v] 30 (0,0)):=(g1.block g ar fb).trans HG.o.1;have jy:w1.cell? ⟨g,0,none⟩=some v:=by rw[an hh];rfl
 have hfz1:w1.frozen? ⟨g,0,none⟩=false:=by simp[World.frozen?,hh]
 obtain⟨a1,c1,rfl⟩:=o1.len;have fK:=ae o1;have rg:=ae g1;have HH:=ae hh;clear o1 g1 hh hc hfz;go_wp2_with fail;go_end0
 have Fp:=ce HH.o 0 (.slice a1 (bs++ps).length c1);rw[← YC];refine⟨rfl,⟨_,Fp,?_⟩,?_,?_⟩
 ·have:=Fr.own (p:=g) ((Fr.refl g w1.heap.size w1).set 0 (.slice a1 (bs++ps).length c1)) fK.o (by omega)
  exact this
 ·exact((Yz g w).grown rg.o (by omega) (fun k hk=>by have:=(HG.o.2.lt k hk).1;omega)).setCell (YA _) _
 ·intro k hk hkg hkv
  rw[Below.heap_setCell _ _ _ _ hkg];exact rg.o.block k hk (fun e=>hkv e.symm)
theorem NP{w:World}{p q:Value}{bs:List Nat}
  (H:∀ W,Gs W w.heap.size (.slice none 0 0) []->Below w.heap.size w W->Calls Tryz.prog 124 #[.func (.func 168) #[] #[.pointer (some ⟨w.heap.size,0,none⟩)],p,q] W (io W w.heap.size bs)) :
  Calls Tryz.prog 123 #[.func (.func 124) #[] #[p,q]] w (dJ w bs):=by
 have HH:=ae H;clear H;go_enter Tryz.func123,Tryz.ntmps123
 go_wp2_with fail;refine(HH.o _ ?g1 ?g2).mono ?_
 case g1=>exact⟨Zb _ _,aG.nil _ _⟩
 case g2=>exact aj _ _
 rintro e w1 ⟨rfl,⟨v1,ew⟩,aA⟩;have jy:w1.cell? ⟨w.heap.size,0,none⟩=some v1:=by rw[an ew.1];rfl
 have rg:=ae ew;have aN:=ae ((aj w (.cells #[.slice none 0 0] 30)).trans aA);clear ew aA;go_wp2_with fail;go_ret
 exact⟨⟨_,rfl,rg.o.2.low (by omega)⟩,aN.o⟩
theorem NQ{w:World}{p:Value}{bs:List Nat}
  (H:∀ W,Gs W w.heap.size (.slice none 0 0) []->Below w.heap.size w W->Calls Tryz.prog 205 #[.func (.func 168) #[] #[.pointer (some ⟨w.heap.size,0,none⟩)],p] W (io W w.heap.size bs)) :
  Calls Tryz.prog 123 #[.func (.func 205) #[] #[p]] w (dJ w bs):=by
 have HH:=ae H;clear H;go_enter Tryz.func123,Tryz.ntmps123
 go_wp2_with fail;refine(HH.o _ ?g1 ?g2).mono ?_
 case g1=>exact⟨Zb _ _,aG.nil _ _⟩
 case g2=>exact aj _ _
 rintro e w1 ⟨rfl,⟨v1,ew⟩,aA⟩;have jy:w1.cell? ⟨w.heap.size,0,none⟩=some v1:=by rw[an ew.1];rfl
 have rg:=ae ew;have aN:=ae ((aj w (.cells #[.slice none 0 0] 30)).trans aA);clear ew aA;go_wp2_with fail;go_ret
 exact⟨⟨_,rfl,rg.o.2.low (by omega)⟩,aN.o⟩
theorem NR{w:World}{p q:Value}{bs:List Nat}
  (H:∀ W,Gs W w.heap.size (.slice none 0 0) []->Below w.heap.size w W->Calls Tryz.prog 210 #[.func (.func 168) #[] #[.pointer (some ⟨w.heap.size,0,none⟩)],p,q] W (io W w.heap.size bs)) :
  Calls Tryz.prog 123 #[.func (.func 210) #[] #[p,q]] w (dJ w bs):=by
 have HH:=ae H;clear H;go_enter Tryz.func123,Tryz.ntmps123
 go_wp2_with fail;refine(HH.o _ ?g1 ?g2).mono ?_
 case g1=>exact⟨Zb _ _,aG.nil _ _⟩
 case g2=>exact aj _ _
 rintro e w1 ⟨rfl,⟨v1,ew⟩,aA⟩;have jy:w1.cell? ⟨w.heap.size,0,none⟩=some v1:=by rw[an ew.1];rfl
 have rg:=ae ew;have aN:=ae ((aj w (.cells #[.slice none 0 0] 30)).trans aA);clear ew aA;go_wp2_with fail;go_ret
 exact⟨⟨_,rfl,rg.o.2.low (by omega)⟩,aN.o⟩
theorem JH{w w':World}{B e size n g cap:Nat}{xs:List Value}(h:w.ownsRow B e size (.slice (some ⟨g,0,none⟩) n cap) n xs)(hb:w'.heap[g]?=w.heap[g]?):w'.ownsRow B e size (.slice (some ⟨g,0,none⟩) n cap) n xs:=by
 obtain⟨h0,h | ⟨g',cap',cur,h1,h2,h3,h4⟩⟩:=h
 ·exact⟨h0,Or.inl h⟩
 ·cases h1
  exact⟨h0,Or.inr ⟨g,cap,cur,rfl,h2,hb.trans h3,h4⟩⟩
theorem sI{l:List (Nat×Int×List Nat)}{j:Nat}(h:j<l.length):cD (l.take (j+1))=cD (l.take j)++[if l[j].1=0 then 0 else 1]:=by
 unfold cD;rw[YP h,YX];rfl
theorem NS{l:List (Nat×Int×List Nat)}(h:¬ 0∈cD l):iD l=[0]:=Yx h
theorem JI{l:List (Nat×Int×List Nat)}(h:0∈cD l):iD l=[1]++aY (cD l) 1:=Yy h
theorem rQ{l:List Nat}(h:∀ x∈l,x<2)(hl:l.length<=256):(aY l 1).length<=32:=by
 rw[dM h hl];unfold by8;omega
theorem yx{w:World}{g:Nat}{v vl:Value}{bs:List Nat}{l:List (Nat×Int×List Nat)}(hg:Gs w g v bs)(Cv:bs.length<=100000)(hs:Sv w vl (aC l))(hl:l.length<=256) :
  Calls Tryz.prog 125 #[.func (.func 168) #[] #[.pointer (some ⟨g,0,none⟩)],vl] w (io w g (bs++iD l)):=by
 obtain⟨i0,hi,bN,hz1',bh⟩:=YW qk;have HG:=ae hg;have zb:=hg.lt;have HS:=ae hs;obtain⟨a,cap,rfl,aV,bw⟩:=hs.form1;rw[ax]at *;have hcm':cap<=9223372036854775807:=by unfold maxLen at bw;omega
 have H2:=ae (eg l);have HSH:=ae (rQ (eg l) (by rw[aT];exact hl));have HN:=ae (NS (l:=l));have HY:=ae (JI (l:=l));obtain⟨D,hD⟩:∃ D,cD l=D:=⟨_,rfl⟩;have hDl:D.length=l.length:=by rw[← hD,aT]
 have QB:jaH (∀ k (h:k<l.length),D[k]?=some (if l[k].1=0 then 0 else 1)):=ae (fun k h=>by rw[← hD];simp[cD,h]);rw[hD]at H2 HSH HN HY;have HD:=ae hD;have ln:=ae hDl;clear hs bw hD hDl hg;go_enter Tryz.func125,Tryz.ntmps125
 go_wp2_with (first | (refine ZJ _ rfl _ _ 142 rfl w.heap.size 92 i0 (.int .u64 0) 1 Tryz.underlying142 hi bN hz1' .i64 .i64 _ _ l.length rfl rfl ?m1 ?m2 ?m3 ?m4 ?m5 ?_))
 case m1=>rfl
 case m2=>rfl
 case m3=>rw[bh];omega
 case m4=>unfold maxLen;omega
 case m5=>omega
 intro w4 fC gH;have bm:Below w.heap.size w w4:=(Yz _ _).grown gH (YA _) (fun k hk=>by cases hk)
 have ho4':w4.ownsRow w.heap.size 92 1 (.slice (some ⟨w.heap.size,0,none⟩) l.length l.length) l.length (az .u64 (fill D 0)):=by
  rw[mv,ln.o,← iV];simpa using fC
 have fU:=ae ho4';have cA:=ae bm;clear fC gH bm ho4';go_wp2_with fail;go_loopw [5,13] (fun o i wr=>∃ k:Nat,o=.bool (decide (0∈cD (l.take k)))/\i=.int .i64 (k:Int)/\k<=l.length/\wr.ownsRow w.heap.size 92 1 (.slice (some ⟨w.heap.size,0,none⟩) l.length l.length) l.length (az .u64 (fill D k))/\Below w.heap.size w wr) (fun _ i _=>l.length-(intOf i).toNat)
 case atStart=>exact⟨0,rfl,rfl,by omega,fU.o,cA.o⟩
 case round =>
  obtain⟨k,rfl,rfl,hk,how,ao⟩:=hrel;have HB:=ae ao;have HO:=ae how;have bM:=ao.size;clear ao how;by_cases ar:k<l.length
  ·have hkD:k<D.length:=by rw[ln.o];exact ar
   have hval:D[k]=if l[k].1=0 then 0 else 1:=by
    have:=QB.o k ar;rw[List.getElem?_eq_getElem hkD]at this;exact Option.some.inj this
   obtain⟨b,off,rfl,hb,ek⟩:=(HS.o.kept HB.o).at1 (cd ar);have ja:k<(fill D k).length:=by rw[jT (by omega)];exact hkD
   have uV:=ae (oS hkD);have sj:=ae (sI ar);have HVF:=ae (iP l[k]);have HVN:=ae (mh l[k]);have eo:=HO.o;have Ca:=(eo.cellAt k (by omega)).trans (bG ja);have Cb:=eo.frozenAt k;have hST:=eo.stored k (.int .u64 (D[k]:Int));rw[kp,uV.o]at hST;have co:=ae hST;have Qf:=(eo.lt w.heap.size rfl).2;clear hST eo;generalize l[k]=c at *;generalize (fill D k)[k]=y at *;generalize D[k]=z at *;by_cases h0:c.1=0
   ·rw[HVN.o h0]at ek
    rw[Yy h0]at hval sj;subst hval;have HFl:jaH (decide (0∈cD (l.take (k+1)))=true):=ae (YT (by rw[sj.o];simp));clear HVF HVN h0;have KD:=ae (uj false);generalize decide (0∈cD (l.take k))=fl at *;cases fl
    ·go_wp2_with fail
     refine(KD.o _).mono ?_;rintro e w5 ⟨rfl,rfl⟩;go_wp2_with fail;go_roundw
     case rel=>exact⟨k+1,by rw[HFl.o],by go_num,by omega,co.o.1,cH HB.o (YA _) _⟩
     case measure=>simp[intOf];omega
    ·go_wp2_with fail
     refine(KD.o _).mono ?_;rintro e w5 ⟨rfl,rfl⟩;go_wp2_with fail;go_roundw
     case rel=>exact⟨k+1,by rw[HFl.o],by go_num,by omega,co.o.1,cH HB.o (YA _) _⟩
     case measure=>simp[intOf];omega
   ·obtain⟨tt,uu,hvv⟩:=HVF.o h0
    rw[hvv]at ek;rw[Yx h0]at hval sj;subst hval;have HFl:jaH (decide (0∈cD (l.take (k+1)))=decide (0∈cD (l.take k))):=ae (by rw[sj.o];simp);clear HVF HVN h0 hvv;have KD:=ae (uj true);generalize decide (0∈cD (l.take k))=fl at *;cases fl
    ·go_wp2_with fail
     refine(KD.o _).mono ?_;rintro e w5 ⟨rfl,rfl⟩;go_wp2_with fail;go_roundw
     case rel=>exact⟨k+1,by rw[HFl.o],by go_num,by omega,co.o.1,cH HB.o (YA _) _⟩
     case measure=>simp[intOf];omega
    ·go_wp2_with fail
     refine(KD.o _).mono ?_;rintro e w5 ⟨rfl,rfl⟩;go_wp2_with fail;go_roundw
     case rel=>exact⟨k+1,by rw[HFl.o],by go_num,by omega,co.o.1,cH HB.o (YA _) _⟩
     case measure=>simp[intOf];omega
  ·obtain rfl:k=l.length:=by omega
   have e:fill D l.length=D:=by
    have:=oR D;rwa[ln.o]at this
   rw[e]at HO;rw[YK,HD.o];have HGr:=ae (HG.o.kept HB.o);clear e;by_cases h0:0∈D
   ·rw[YT h0]
    have HHB:=ae (HY.o h0);have Cr:=ae (eb (HGr.o.kept (aj wr (.cells #[.int .u8 1] 5))) (gl wr 1).sv (by simp;omega));have cG:(wr.alloc (.cells #[.int .u8 1] 5)).heap.size=wr.heap.size+1:=YB _ _;clear HN HY h0;go_wp2_with fail;refine Cr.o.mono ?_;rintro e w6 ⟨rfl,⟨v6,GB⟩,dP,Lm⟩;have Qf:=(HO.o.lt w.heap.size rfl).2
    have xw:em w6 w.heap.size (.slice (some ⟨w.heap.size,0,none⟩) l.length l.length) D:=by
     unfold em;rw[ln.o];refine JH (bP HO.o (aj wr (.cells #[.int .u8 1] 5))) (Lm w.heap.size (by omega) (by omega) (fun e=>?_));have:=(HG.o.2.lt w.heap.size e).2;omega
    have Fi:=dP.size;have jC:=ae GB;have jA:=ae ((HB.o.mono (YV zb)).trans (((aj wr (.cells #[.int .u8 1] 5)).mono (by omega)).trans dP));have WW:=ae (xa xw.sv H2.o);clear GB dP Lm xw;go_wp2_with fail;refine WW.o.mono ?_;rintro e w7 ⟨⟨v7,rfl,TM⟩,jK⟩;have HP7:=ae (eb (jC.o.kept jK) TM.sv (by have:=HSH.o;simp;omega));have pT:=ae (jA.o.trans (jK.mono (by omega)));clear TM jK;go_wp2_with fail;refine HP7.o.mono ?_;rintro e w8 ⟨rfl,⟨v8,WX⟩,lm,_⟩;rw[YR]at WX;have Yb:=ae WX;have uL:=ae (pT.o.trans lm);clear WX lm;go_wp2_with fail;go_end0
    rw[HHB.o];exact⟨rfl,⟨_,Yb.o⟩,uL.o⟩
   ·rw[YO h0]
    have HHB:=ae (HN.o h0);have Cr:=ae (eb (HGr.o.kept (aj wr (.cells #[.int .u8 0] 5))) (gl wr 0).sv (by simp;omega));have cG:(wr.alloc (.cells #[.int .u8 0] 5)).heap.size=wr.heap.size+1:=YB _ _;clear HN HY h0;go_wp2_with fail;refine Cr.o.mono ?_;rintro e w6 ⟨rfl,⟨v6,GB⟩,dP,Lm⟩;have jC:=ae GB;have jA:=ae ((HB.o.mono (YV zb)).trans (((aj wr (.cells #[.int .u8 0] 5)).mono (by omega)).trans dP));clear GB dP Lm;go_wp2_with fail;go_end0
    rw[HHB.o];exact⟨rfl,⟨_,jC.o⟩,jA.o⟩
def cI(z:Value)(l:List Value)(i:Nat):List Value:=l.take i++List.replicate (l.length-i) z
theorem kY(z:Value)(l:List Value):cI z l 0=List.replicate l.length z:=by simp[cI]
theorem mB(z:Value)(l:List Value):cI z l l.length=l:=by simp[cI]
theorem gq{z:Value}{l:List Value}{i:Nat}(h:i<=l.length):(cI z l i).length=l.length:=by simp[cI];omega
theorem kH{z:Value}{l:List Value}{i:Nat}(h:i<l.length):(cI z l i).set i l[i]=cI z l (i+1):=by
 unfold cI
 rw[List.set_append_right _ _ (by simp;omega),YH,ZG (by omega),jai,show l.length-i=(l.length-(i+1))+1 by omega,
  List.replicate_succ,YJ,YP h,YR]
 rfl
theorem Sv.keptB{W W':World}{B:Nat}{v:Value}{xs:List Value}(h:Sv W v xs)(hv:∀ k,v.ownBlock=some k->k<B)(hb:Below B W W'):Sv W' v xs:=by
 obtain⟨a,cap,rfl,h1,h2,h3,h4⟩:=h;refine⟨a,cap,rfl,h1,h2,h3,fun h0=>?_⟩;obtain⟨b,off,rfl,h5,h6⟩:=h4 h0;have hb':b<B:=hv b rfl;exact⟨b,off,rfl,Za h5 hb.size,fun j x hj=>(hb.cell (p:=⟨b,off+j,none⟩) hb').trans (h6 j x hj)⟩
theorem qK(W:World)(o:Obj):Below W.heap.size W (W.drew.alloc o):=by
 have h1:Below W.heap.size W W.drew:=⟨rfl,rfl,rfl,YA _,fun _ _=>rfl⟩;exact h1.alloc (YA _) _
theorem Eg{s:List Nat}(hb:Bs s)(hl:s.length<=140737488355328)(W:World):∃ g cap W',(convert 9 30 (.string (ai s))).run Tryz.prog W=.ok (.slice (some ⟨g,0,none⟩) s.length cap) W'/\Sv W' (.slice (some ⟨g,0,none⟩) s.length cap) (az .u8 s)/\Below W.heap.size W W'/\W'.heap.size=W.heap.size+1:=by
 have hr:=run_bytes_of_string (P:=Tryz.prog) W 9 30 5 (ai s) Tryz.underlying9 Tryz.underlying30 Tryz.underlying5;rw[bx]at hr;refine⟨_,_,_,hr,?_,qK _ _,?_⟩
 ·have eO:=grownCap_ge W s.length 0 5
  have ob:=grownCap_le_maxLen W s.length 0 5 (by unfold maxLen;omega);refine⟨_,_,by rw[am],by rw[am];exact eO,ob,fun e=>by(cases e),fun h0=>⟨_,_,rfl,by rw[YB];show W.heap.size<W.heap.size+1;omega,fun j x hj=>?_⟩⟩
  have hj':j<s.length:=by
   have:=(List.getElem?_eq_some_iff.1 hj).1;rwa[am]at this
  rw[bG hj']at hj;have hh:(W.drew.alloc (.cells (bytesRow (ai s) (grownCap W s.length 0 5)) 5 ((bytesRow (ai s) (grownCap W s.length 0 5)).size,(bytesRow (ai s) (grownCap W s.length 0 5)).size+1))).heap[W.heap.size]?=some (.cells (bytesRow (ai s) (grownCap W s.length 0 5)) 5 ((bytesRow (ai s) (grownCap W s.length 0 5)).size,(bytesRow (ai s) (grownCap W s.length 0 5)).size+1)):=Zb W.drew _;rw[YY,an hh,← hj];unfold bytesRow ai;have hx:s[j]<256:=hb _ (YF hj');rw[Array.getElem?_append_left (by simpa using hj')];simp[hj',ZF hx]
 ·rw[YB]
  rfl
theorem pq{l:List Int}(hi:Is l)(hl:l.length<=256):(dm l).length<=5131:=(iT hi hl).1
theorem AQ{w:World}{v:Value}{l:List Int}(hs:Sv w v (aH l))(hl:l.length<=256)(hi:Is l):Calls Tryz.prog 231 #[v] w (dJ w (cnt l)):=by
 have HB:=ae (qG hs hl hi);have bg:=pq hi hl;have jI:jaH (cnt l=uv (dm l).length++dm l):=rfl;clear hs hi;generalize cnt l=cn at *;generalize dm l=bs at *;have sO:=cC (n:=bs.length) (by omega);have HP:=ae (cU bs.length (by omega));go_enter Tryz.func231,Tryz.ntmps231
 go_wp2_with fail;refine HB.o.mono ?_;rintro e w1 ⟨⟨v1,rfl,dI⟩,aA⟩;have fK:=ae dI;have aN:=ae aA;have cG:=aA.size;obtain⟨a1,c1,rfl⟩:=dI.len;clear dI aA;go_wp2_with fail;refine(HP.o _).mono ?_;rintro e w2 ⟨⟨v2,rfl,ex⟩,ay⟩;have ec:=ae (ex.low cG);have aK:=ae ay;have bh:=ay.size;clear ex ay;go_wp2_with (first | (at_builtin;refine aB rfl _ _ rfl w.heap.size _ _ (uv bs.length) bs rfl ec.o rfl (fK.o.kept aK.o).sv ?c1 ?c2 ?_))
 case c1=>omega
 case c2=>omega
 intro v4 w4 o4 b4;have fU:=ae o4;have cA:=ae ((aN.o.trans (aK.o.mono cG)).trans b4);clear o4 b4;go_wp2_with fail;go_ret
 rw[jI.o];exact⟨⟨_,rfl,fU.o⟩,cA.o⟩
end Go.Proofs.YtpljdjmpamjkhaaGreatDoor
