import Derived.Test.YtpljdjmpamjkhaaGreatDoorXap
set_option linter.unusedVariables false
set_option linter.unusedSimpArgs false
set_option maxRecDepth 100000
set_option maxHeartbeats 4000000
namespace Go.Proofs.YtpljdjmpamjkhaaGreatDoor
open Go.RowKit Go.Lib
def Far(w w':World):Prop:=∀(p T:Nat) (cs:Array Value),T≠5->w.heap[p]?=some (.cells cs T (0,0))->w'.heap[p]?=some (.cells cs T (0,0))
theorem Uu{w w':World}{B:Nat}{v:Value}{l:List Nat}(aA:aD w B v l)(hg:w.grownBy w' v.ownBlock):Far w w':=by
 intro p T cs hT hp;have aB:p<w.heap.size:=(Array.getElem?_eq_some_iff.1 hp).1;rw[hg.block p aB ?_]
 ·exact hp
 ·intro he
  rcases aA.2 with ⟨rfl,_⟩ | ⟨g,cap,cur,rfl,_,h3,_⟩
  ·simp[Value.ownBlock]at he
  ·simp only[Value.ownBlock,Option.some.injEq]at he
   subst he;rw[hp]at h3;simp at h3
   exact hT h3.2
theorem Far.refl(w:World):Far w w:=fun _ _ _ _ h=>h
theorem Far.of_below{w w':World}(h:Below w.heap.size w w'):Far w w':=fun p T cs _ hp=>(h.block p (Array.getElem?_eq_some_iff.1 hp).1).trans hp
theorem Far.trans{a b c:World}(h:Far a b)(h2:Far b c):Far a c:=fun p T cs hT hp=>h2 p T cs hT (h p T cs hT hp)
theorem ei{w:World}{ops:Array Oper}{rest:List Oper}{o:Oper}{a:Act}{Q:Exit->Act->World->Prop}(ex:o.guard=none)(s x:Operand)
  (ho:o.op=.call { callee:=.builtin .append,args:=#[s,x],argTypes:=#[30,30] })
  (base:Nat) (v vx:Value) (l0 l:List Nat) (hs:a.eval s=v) (aA:aD w base v l0) (hx:a.eval x=vx) (fG:Sv w vx (aF .u8 l))
  (hbytes:l0.length+l.length<=140737488355328) (aJ:base<=w.heap.size)
  (h:∀ v' w',aD w' base v' (l0++l)->Below base w w'->Far w w'->wpList Tryz.prog ops Q rest (a.put o.dst v') w') :
  wpList Tryz.prog ops Q (o::rest) a w:=by
 obtain⟨i0,hi,ct,hz1',bv⟩:=jdP jk;have VH:=aA;unfold aD at *;obtain⟨ad,cap,rfl,h1,h2,h3,h4⟩:=fG;rw[ar]at *;cases ad with
 | none =>
  have hc:=h3 rfl;subst hc;have hl:l=[]:=jdV (by omega);subst hl;refine wpList_plain ex fun K hK=>?_
  have hr:=je9 (P:=Tryz.prog) (w:=w) base 30 o.type 5 i0 1 Tryz.underlying30 hi v l0.length (aF .u8 l0) aA;unfold Oper.wp execOp;simp only[ho,resolve,invoke,builtin,Sem.run_bind,Sem.run_pure,Result.andThen_ok,jeJ,jd5,jes,hs,hx,hr,jdX];refine hK _ _ (h v w ?_ (jdv _ _) (Far.refl _));rw[jdT];exact aA
 | some ad =>
  refine jeb (w:=w) ex s x 30 ho base 5 i0 (.int .u8 0) 1 1 Tryz.underlying30 hi ct hz1' bv rfl (by decide) v l0.length (aF .u8 l0) hs aA ad l.length cap (aF .u8 l) hx (by rw[ar];omega) ?_ (fU _ _) (by unfold maxLen;omega) (by omega) aJ ?_
  ·intro j u hu
   have hj:j<l.length:=by
    have:=(List.getElem?_eq_some_iff.1 hu).1;rwa[ar]at this
   obtain⟨b,off,h5,_,h6⟩:=h4 (by omega);cases h5
   rw[nh];exact h6 j u hu
  ·intro v' w' o1 g1 _ _
   refine h v' w' ?_ ((jdv base w).grown g1 aJ (fun k hk=>(aA.lt k hk).1)) (Uu VH g1);rw[cd,jdy];exact o1
theorem qj{w:World}{ops:Array Oper}{rest:List Oper}{o:Oper}{a:Act}{Q:Exit->Act->World->Prop}(ex:o.guard=none)(s x:Operand)
  (ho:o.op=.call { callee:=.builtin .append,args:=#[s,x],argTypes:=#[30,9] })
  (base:Nat) (v:Value) (l0:List Nat) (z:ByteArray) (hs:a.eval s=v) (aA:aD w base v l0) (hx:a.eval x=.string z)
  (hbytes:l0.length+z.size<=140737488355328) (aJ:base<=w.heap.size)
  (h:∀ v' w',aD w' base v' (l0++da z)->Below base w w'->Far w w'->wpList Tryz.prog ops Q rest (a.put o.dst v') w') :
  wpList Tryz.prog ops Q (o::rest) a w:=by
 obtain⟨i0,hi,ct,hz1',bv⟩:=jdP jk;have VH:=aA;unfold aD at *;refine wpList_append_own_string (w:=w) ex s x 30 9 ho base 5 i0 Tryz.underlying30 Tryz.underlying9 hi ct hz1' bv v l0.length (aF .u8 l0) hs aA z hx (by unfold maxLen;omega) (by exact hbytes) aJ ?_;intro v' w' o1 g1 _;refine h v' w' ?_ ((jdv base w).grown g1 aJ (fun k hk=>(aA.lt k hk).1)) (Uu VH g1)
 have e:strCells z=aF .u8 (da z):=by
  unfold strCells aF da;rw[ByteArray.toList_eq];simp[jd8,Function.comp_def]
 rw[e]at o1;rw[cd,jdy,iQ];exact o1
theorem zX{B:Nat}{w:World}(h:B<=w.heap.size)(o:Obj):B<=(w.alloc o).heap.size:=by rw[jdx];omega
theorem Fu{w:World}{v:Value}{l:List Fd}(hs:Sf w v l)(ho:∀ f∈l,Okf f)(hl:l.length<=100)(hz:szs l<5000)(id:Nat)(np:id<4294967296) :
  Calls Tryz.prog 44 #[.agg #[.int .u32 (id:Int),v]] w (dw w (dF id l)):=by
 obtain⟨a,cap,rfl,aW,bw⟩:=hs.form;have LS:=ae ho;have HP:jfp (dF id l=uv id++uv l.length++gV l):=ae rfl;have rY:=ae (fN ho hl hz);have qn:=ae (fun k=>pp (k:=k) hz);have PQ:=ae (bG id (by omega));have Yo:=ae (bG l.length (by omega));have u1:=gE id (by omega);have u2:=gE l.length (by omega);have dO:=am w (.cells #[.int .u32 (id:Int),.slice a l.length cap] 25);have FG:w.heap.size<(w.alloc (.cells #[.int .u32 (id:Int),.slice a l.length cap] 25)).heap.size:=by rw[jdx];omega
 have HT:jfp (∀ U,Below (w.alloc (.cells #[.int .u32 (id:Int),.slice a l.length cap] 25)).heap.size (w.alloc (.cells #[.int .u32 (id:Int),.slice a l.length cap] 25)) U->Sf U (.slice a l.length cap) l/\U.cell? ⟨w.heap.size,0,none⟩=some (.int .u32 (id:Int))/\U.cell? ⟨w.heap.size,1,none⟩=some (.slice a l.length cap)):=ae (fun U h=>by
  obtain⟨c0,c1⟩:=bx w (.int .u32 (id:Int)) (.slice a l.length cap) 25;exact⟨(hs.kept dO).kept h,(h.cell (p:=⟨w.heap.size,0,none⟩) FG).trans c0,(h.cell (p:=⟨w.heap.size,1,none⟩) FG).trans c1⟩)
 have ce:=ae dO;clear hs dO ho;generalize hW:w.alloc (.cells #[.int .u32 (id:Int),.slice a l.length cap] 25)=W at *;obtain⟨_,c0,c1⟩:=HT.o W (jdv _ _);generalize uv id=p1 at *;generalize uv l.length=p2 at *;go_enter Tryz.func44,Tryz.ntmps44
 go_wp2_with fail;try rw[hW]
 clear hW;refine(PQ.o _).mono ?_;rintro e w1 ⟨⟨v1,rfl,o1⟩,aH⟩;have eY:=ae o1;have LR:=ae aH;clear o1 aH c0 c1;obtain⟨_,c0,c1⟩:=HT.o _ LR.o;go_wp2_with fail;refine(Yo.o _).mono ?_;rintro e w2 ⟨⟨v2,rfl,o2⟩,aE⟩;have HO1k:=ae (eY.o.kept aE);have du:=ae o2.sv;have yy:=ae (ai LR.o aE);clear o2 aE c0 c1;go_wp2_with (first | (at_builtin;refine ax rfl _ _ rfl W.heap.size _ _ p1 p2 rfl HO1k.o rfl du.o ?d1 ?d2 ?_))
 case d1=>omega
 case d2=>exact yy.o.size
 intro v3 w3 o3 aS;have dh:=ae o3;have US:=ae (yy.o.trans aS);clear o3 aS;obtain⟨_,c0,c1⟩:=HT.o _ US.o;go_wp2_with fail;clear c0 c1;go_loopw [3,4] (fun b i wr=>∃ k:Nat,k<=l.length/\i=.int .i64 (k:Int)/\aD wr W.heap.size b (p1++p2++gV (l.take k))/\Below W.heap.size W wr) (fun _ i _=>l.length-(intOf i).toNat)
 case atStart=>exact⟨0,by omega,rfl,by simpa [gV]using dh.o,US.o⟩
 case round =>
  obtain⟨k,hk,rfl,aA,az⟩:=hrel;have HO:=ae aA;have HB:=ae az;have bF:=az.size;clear aA az;by_cases aB:k<l.length
  ·obtain⟨b,off,rfl,hb,x0,x1,x2,x3⟩:=(HT.o _ HB.o).1.at aB
   have hlt':(k:Int)<(l.length:Int):=(by omega);have cU:=ae (mB aB);have jx:=LS.o _ (jdA aB);have jw:=qn.o k aB;have hplen:=rY.o k;have HPF:jfp (iq l[k]=uv l[k].1++uv l[k].2.1.size++da l[k].2.1++uv l[k].2.2.1++uv (eU l[k].2.2.2)):=ae rfl;generalize iq l[k]=PF at *;generalize gV (l.take k)=PL at *;generalize l[k]=f at *;obtain⟨f0,f1,f2,f3⟩:=f;have dv:f0<4294967296:=jx.1;have dD:f2<256:=jx.2;simp only at *;have Ah:=ae (bG f0 (by omega));have nB:=ae (bG f1.size (by omega));have yI:=ae (bG f2 (by omega));have g1:=gE f0 (by omega);have g2:=gE f1.size (by omega);have g3:=gE f2 (by omega);have hnl:=iQ f1;have HFG:jfp (uv (eU f3)=[eU f3]):=ae (vJ (by unfold eU;split<;>omega));rw[HFG.o]at HPF;generalize uv f0=q1 at *;generalize uv f1.size=q2 at *;generalize uv f2=q3 at *;have q0:=(HT.o _ HB.o).2.2;have PI:w.heap.size<wr.heap.size:=jdS FG bF;have qt:=am wr (.cells #[.int .u32 (f0:Int),.string f1,.int .u8 (f2:Int),.bool f3] 81);have hh0:(wr.alloc (.cells #[.int .u32 (f0:Int),.string f1,.int .u8 (f2:Int),.bool f3] 81)).heap[wr.heap.size]?=some (.cells #[.int .u32 (f0:Int),.string f1,.int .u8 (f2:Int),.bool f3] 81):=jdW wr (.cells #[.int .u32 (f0:Int),.string f1,.int .u8 (f2:Int),.bool f3] 81)
   have HF:jfp (∀ U,Far (wr.alloc (.cells #[.int .u32 (f0:Int),.string f1,.int .u8 (f2:Int),.bool f3] 81)) U->U.cell? ⟨wr.heap.size,0,none⟩=some (.int .u32 (f0:Int))/\U.cell? ⟨wr.heap.size,1,none⟩=some (.string f1)/\U.cell? ⟨wr.heap.size,2,none⟩=some (.int .u8 (f2:Int))/\U.cell? ⟨wr.heap.size,3,none⟩=some (.bool f3)):=ae (fun U h=>by
    have hh:=h _ _ _ (by omega) hh0;exact⟨by rw[ay hh];rfl,by rw[ay hh];rfl,by rw[ay hh];rfl,by rw[ay hh];rfl⟩)
   have HXN:=ae (ai HB.o qt);have Ac:=ae (HO.o.kept qt);clear qt HO jx hh0;generalize hV:wr.alloc (.cells #[.int .u32 (f0:Int),.string f1,.int .u8 (f2:Int),.bool f3] 81)=V at *;obtain⟨y0,y1,y2,y3⟩:=HF.o V (Far.refl _);go_wp2_with fail;try rw[hV]
   clear hV;refine(Ah.o _).mono ?_;rintro e w5 ⟨⟨v5,rfl,o5⟩,bD⟩;have HN5:=ae (Ac.o.kept bD);have rZ:=ae o5.sv;have HY5:=ae (Far.of_below bD);have Qz:=ae (ai HXN.o bD);clear o5 bD x0 x1 x2 x3 y0 y1 y2 y3 q0;go_wp2_with (first | (at_builtin;refine ei rfl _ _ rfl W.heap.size _ _ (p1++p2++PL) q1 rfl HN5.o rfl rZ.o ?d3 ?d4 ?_))
   case d3=>first | (simp only[jdy];omega) | (simp;omega) | omega
   case d4=>exact Qz.o.size
   intro v6 w6 o6 ey Qu;have mT:jfp (aD w6 W.heap.size v6 (p1++p2++PL++q1)):=ae (by simpa using o6);have HY6:=ae (HY5.o.trans Qu);have uV:=ae (Qz.o.trans ey);clear o6 ey Qu;obtain⟨y0,y1,y2,y3⟩:=HF.o _ HY6.o;go_wp2_with fail;refine(nB.o _).mono ?_;rintro e w7 ⟨⟨v7,rfl,o7⟩,ji⟩;have HN7:=ae (mT.o.kept ji);have Qv:=ae o7.sv;have HY7:=ae (HY6.o.trans (Far.of_below ji));have HX7:=ae (ai uV.o ji);clear o7 ji y0 y1 y2 y3;go_wp2_with (first | (at_builtin;refine ei rfl _ _ rfl W.heap.size _ _ (p1++p2++PL++q1) q2 rfl HN7.o rfl Qv.o ?d5 ?d6 ?_))
   case d5=>first | (simp only[jdy];omega) | (simp;omega) | omega
   case d6=>exact HX7.o.size
   intro v8 w8 o8 lD hf8;have HO8:jfp (aD w8 W.heap.size v8 (p1++p2++PL++q1++q2)):=ae (by simpa using o8);have HY8:=ae (HY7.o.trans hf8);have HX8:=ae (HX7.o.trans lD);clear o8 lD hf8;obtain⟨y0,y1,y2,y3⟩:=HF.o _ HY8.o;go_wp2_with (first | (at_builtin;refine qj rfl _ _ rfl W.heap.size _ (p1++p2++PL++q1++q2) f1 rfl HO8.o rfl ?d7 ?d8 ?_))
   case d7=>first | (simp only[jdy];omega) | (simp;omega) | omega
   case d8=>exact HX8.o.size
   intro v9 w9 o9 pD hf9;have UJ:jfp (aD w9 W.heap.size v9 (p1++p2++PL++q1++q2++da f1)):=ae (by simpa using o9);have HY9:=ae (HY8.o.trans hf9);have HX9:=ae (HX8.o.trans pD);clear o9 pD hf9 y0 y1 y2 y3;obtain⟨y0,y1,y2,y3⟩:=HF.o _ HY9.o;go_wp2_with fail;refine(yI.o _).mono ?_;rintro e w10 ⟨⟨v10,rfl,o10⟩,Cj⟩;have HN10:=ae (UJ.o.kept Cj);have HS10:=ae o10.sv;have HY10:=ae (HY9.o.trans (Far.of_below Cj));have HX10:=ae (ai HX9.o Cj);clear o10 Cj y0 y1 y2 y3;go_wp2_with (first | (at_builtin;refine ei rfl _ _ rfl W.heap.size _ _ (p1++p2++PL++q1++q2++da f1) q3 rfl HN10.o rfl HS10.o ?d9 ?e1 ?_))
   case d9=>first | (simp only[jdy];omega) | (simp;omega) | omega
   case e1=>exact HX10.o.size
   intro v11 w11 o11 Qp hf11;have YJ:jfp (aD w11 W.heap.size v11 (p1++p2++PL++q1++q2++da f1++q3)):=ae (by simpa using o11);have HY11:=ae (HY10.o.trans hf11);have FU:=ae (HX10.o.trans Qp);clear o11 Qp hf11;obtain⟨y0,y1,y2,y3⟩:=HF.o _ HY11.o;have nl:jfp (∀ x:Nat,aD (w11.alloc (.cells #[.int .u8 (x:Int)] 5)) w11.heap.size (.slice (some ⟨w11.heap.size,0,none⟩) 1 1) [x]):=ae (fun x=>ot w11 [x] (by unfold maxLen;simp));cases f3
   ·have rR:aD (w11.alloc (.cells #[.int .u8 0] 5)) w11.heap.size (.slice (some ⟨w11.heap.size,0,none⟩) 1 1) [0]:=nl.o 0
    have Zo:=ae rR.sv;have jcH:=ae (YJ.o.kept (am w11 (.cells #[.int .u8 0] 5)));clear rR;go_wp2_with (first | (at_builtin;refine ei rfl _ _ rfl W.heap.size _ _ (p1++p2++PL++q1++q2++da f1++q3) [0] rfl ?z1 rfl ?z2 ?e2 ?e3 ?_))
    case z1=>exact jcH.o
    case z2=>exact Zo.o
    case e2=>first | (simp only[jdy,jd6];omega) | (simp;omega) | omega
    case e3=>first | exact zX FU.o.size _ | (have:=FU.o.size;omega)
    intro v12 w12 o12 pg hf12;have jcI:jfp (aD w12 W.heap.size v12 (p1++p2++(PL++(q1++q2++da f1++q3++[eU false])))):=ae (by simpa [eU]using o12);have jcJ:=ae ((FU.o.alloc FU.o.size _).trans pg);clear o12 pg hf12 y0 y1 y2 y3;go_wp2_with fail;go_roundw
    case rel=>exact⟨k+1,by omega,by go_num,by rw[cU.o,HPF.o];exact jcI.o,jcJ.o⟩
    case measure=>simp[intOf];omega
   ·have rR:aD (w11.alloc (.cells #[.int .u8 1] 5)) w11.heap.size (.slice (some ⟨w11.heap.size,0,none⟩) 1 1) [1]:=nl.o 1
    have Zo:=ae rR.sv;have jcH:=ae (YJ.o.kept (am w11 (.cells #[.int .u8 1] 5)));clear rR;go_wp2_with (first | (at_builtin;refine ei rfl _ _ rfl W.heap.size _ _ (p1++p2++PL++q1++q2++da f1++q3) [1] rfl ?z3 rfl ?z4 ?e4 ?e5 ?_))
    case z3=>exact jcH.o
    case z4=>exact Zo.o
    case e4=>first | (simp only[jdy,jd6];omega) | (simp;omega) | omega
    case e5=>first | exact zX FU.o.size _ | (have:=FU.o.size;omega)
    intro v12 w12 o12 pg hf12;have jcI:jfp (aD w12 W.heap.size v12 (p1++p2++(PL++(q1++q2++da f1++q3++[eU true])))):=ae (by simpa [eU]using o12);have jcJ:=ae ((FU.o.alloc FU.o.size _).trans pg);clear o12 pg hf12 y0 y1 y2 y3;go_wp2_with fail;go_roundw
    case rel=>exact⟨k+1,by omega,by go_num,by rw[cU.o,HPF.o];exact jcI.o,jcJ.o⟩
    case measure=>simp[intOf];omega
  ·obtain rfl:k=l.length:=by omega
   have gj:¬ ((l.length:Nat):Int)<(l.length:Int):=(by omega);rw[jdE]at HO;have q0:=(HT.o _ HB.o).2.2;go_wp2_with fail;go_ret
   rw[HP.o];exact⟨⟨_,rfl,be HO.o ce.o.size⟩,ai ce.o HB.o⟩
end Go.Proofs.YtpljdjmpamjkhaaGreatDoor
