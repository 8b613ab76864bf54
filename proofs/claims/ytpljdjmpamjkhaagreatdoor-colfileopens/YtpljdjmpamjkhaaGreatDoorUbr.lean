import Derived.Test.YtpljdjmpamjkhaaGreatDoorUao
set_option linter.unusedVariables false
set_option linter.unusedSimpArgs false
set_option maxRecDepth 100000
set_option maxHeartbeats 4000000
namespace Go.Proofs.YtpljdjmpamjkhaaGreatDoor
open Go.RowKit Go.Lib
def Far(w w':World):Prop:=∀(p T:Nat) (cs:Array Value),T≠5->w.heap[p]?=some (.cells cs T (0,0))->w'.heap[p]?=some (.cells cs T (0,0))
theorem Ue{w w':World}{B:Nat}{v:Value}{l:List Nat}(aA:aD w B v l)(hg:w.grownBy w' v.ownBlock):Far w w':=by
 intro p T cs hT hp;have aC:p<w.heap.size:=(Array.getElem?_eq_some_iff.1 hp).1;rw[hg.block p aC ?_]
 ·exact hp
 ·intro he
  rcases aA.2 with ⟨rfl,_⟩ | ⟨g,cap,cur,rfl,_,h3,_⟩
  ·simp[Value.ownBlock]at he
  ·simp only[Value.ownBlock,Option.some.injEq]at he
   subst he;rw[hp]at h3;simp at h3
   exact hT h3.2
theorem Far.refl(w:World):Far w w:=fun _ _ _ _ h=>h
theorem Far.of_below{w w':World}(h:Below w.heap.size w w'):Far w w':=fun p T cs _ hp=>(h.block p (Array.getElem?_eq_some_iff.1 hp).1).trans hp
theorem Far.trans{a b c:World}(h:Far a b)(h2:Far b c):Far a c:=fun p T cs hT hp=>h2 p T cs hT (h p T cs hT hp)
theorem ef{w:World}{ops:Array Oper}{rest:List Oper}{o:Oper}{a:Act}{Q:Exit->Act->World->Prop}(eg:o.guard=none)(s x:Operand)
  (ho:o.op=.call { callee:=.builtin .append,args:=#[s,x],argTypes:=#[30,30] })
  (base:Nat) (v vx:Value) (l0 l:List Nat) (hs:a.eval s=v) (aA:aD w base v l0) (hx:a.eval x=vx) (ft:Sv w vx (aF .u8 l))
  (hbytes:l0.length+l.length<=140737488355328) (aI:base<=w.heap.size)
  (h:∀ v' w',aD w' base v' (l0++l)->Below base w w'->Far w w'->wpList Tryz.prog ops Q rest (a.put o.dst v') w') :
  wpList Tryz.prog ops Q (o::rest) a w:=by
 obtain⟨i0,hi,cm,hz1',bn⟩:=jdA jm;have Vr:=aA;unfold aD at *;obtain⟨ad,cap,rfl,h1,h2,h3,h4⟩:=ft;rw[ap]at *;cases ad with
 | none =>
  have hc:=h3 rfl;subst hc;have hl:l=[]:=jdF (by omega);subst hl;refine wpList_plain eg fun K hK=>?_
  have hr:=jeJ (P:=Tryz.prog) (w:=w) base 30 o.type 5 i0 1 Tryz.underlying30 hi v l0.length (aF .u8 l0) aA;unfold Oper.wp execOp;simp only[ho,resolve,invoke,builtin,Sem.run_bind,Sem.run_pure,Result.andThen_ok,jes,jdQ,jed,hs,hx,hr,jdI];refine hK _ _ (h v w ?_ (jdg _ _) (Far.refl _));rw[jdB];exact aA
 | some ad =>
  refine jdU (w:=w) eg s x 30 ho base 5 i0 (.int .u8 0) 1 1 Tryz.underlying30 hi cm hz1' bn rfl (by decide) v l0.length (aF .u8 l0) hs aA ad l.length cap (aF .u8 l) hx (by rw[ap];omega) ?_ (fR _ _) (by unfold maxLen;omega) (by omega) aI ?_
  ·intro j u hu
   have hj:j<l.length:=by
    have:=(List.getElem?_eq_some_iff.1 hu).1;rwa[ap]at this
   obtain⟨b,off,h5,_,h6⟩:=h4 (by omega);cases h5
   rw[pI];exact h6 j u hu
  ·intro v' w' o1 g1 _ _
   refine h v' w' ?_ ((jdg base w).grown g1 aI (fun k hk=>(aA.lt k hk).1)) (Ue Vr g1);rw[cd,jdj];exact o1
theorem qk{w:World}{ops:Array Oper}{rest:List Oper}{o:Oper}{a:Act}{Q:Exit->Act->World->Prop}(eg:o.guard=none)(s x:Operand)
  (ho:o.op=.call { callee:=.builtin .append,args:=#[s,x],argTypes:=#[30,9] })
  (base:Nat) (v:Value) (l0:List Nat) (z:ByteArray) (hs:a.eval s=v) (aA:aD w base v l0) (hx:a.eval x=.string z)
  (hbytes:l0.length+z.size<=140737488355328) (aI:base<=w.heap.size)
  (h:∀ v' w',aD w' base v' (l0++df z)->Below base w w'->Far w w'->wpList Tryz.prog ops Q rest (a.put o.dst v') w') :
  wpList Tryz.prog ops Q (o::rest) a w:=by
 obtain⟨i0,hi,cm,hz1',bn⟩:=jdA jm;have Vr:=aA;unfold aD at *;refine wpList_append_own_string (w:=w) eg s x 30 9 ho base 5 i0 Tryz.underlying30 Tryz.underlying9 hi cm hz1' bn v l0.length (aF .u8 l0) hs aA z hx (by unfold maxLen;omega) (by exact hbytes) aI ?_;intro v' w' o1 g1 _;refine h v' w' ?_ ((jdg base w).grown g1 aI (fun k hk=>(aA.lt k hk).1)) (Ue Vr g1)
 have e:strCells z=aF .u8 (df z):=by
  unfold strCells aF df;rw[ByteArray.toList_eq];simp[jdT,Function.comp_def]
 rw[e]at o1;rw[cd,jdj,iR];exact o1
theorem Ab{B:Nat}{w:World}(h:B<=w.heap.size)(o:Obj):B<=(w.alloc o).heap.size:=by rw[jdi];omega
theorem Ft{w:World}{v:Value}{l:List Fd}(hs:Sf w v l)(ho:∀ f∈l,Okf f)(hl:l.length<=100)(hz:szs l<5000)(id:Nat)(na:id<4294967296) :
  Calls Tryz.prog 44 #[.agg #[.int .u32 (id:Int),v]] w (dw w (dB id l)):=by
 obtain⟨a,cap,rfl,aY,bx⟩:=hs.form;have LJ:=ae ho;have HP:jfb (dB id l=uv id++uv l.length++gO l):=ae rfl;have rZ:=ae (fI ho hl hz);have rS:=ae (fun k=>pn (k:=k) hz);have Pz:=ae (bD id (by omega));have XV:=ae (bD l.length (by omega));have u1:=gq id (by omega);have u2:=gq l.length (by omega);have dY:=ak w (.cells #[.int .u32 (id:Int),.slice a l.length cap] 25);have FE:w.heap.size<(w.alloc (.cells #[.int .u32 (id:Int),.slice a l.length cap] 25)).heap.size:=by rw[jdi];omega
 have HT:jfb (∀ U,Below (w.alloc (.cells #[.int .u32 (id:Int),.slice a l.length cap] 25)).heap.size (w.alloc (.cells #[.int .u32 (id:Int),.slice a l.length cap] 25)) U->Sf U (.slice a l.length cap) l/\U.cell? ⟨w.heap.size,0,none⟩=some (.int .u32 (id:Int))/\U.cell? ⟨w.heap.size,1,none⟩=some (.slice a l.length cap)):=ae (fun U h=>by
  obtain⟨c0,c1⟩:=bF w (.int .u32 (id:Int)) (.slice a l.length cap) 25;exact⟨(hs.kept dY).kept h,(h.cell (p:=⟨w.heap.size,0,none⟩) FE).trans c0,(h.cell (p:=⟨w.heap.size,1,none⟩) FE).trans c1⟩)
 have cE:=ae dY;clear hs dY ho;generalize hW:w.alloc (.cells #[.int .u32 (id:Int),.slice a l.length cap] 25)=W at *;obtain⟨_,c0,c1⟩:=HT.o W (jdg _ _);generalize uv id=p1 at *;generalize uv l.length=p2 at *;go_enter Tryz.func44,Tryz.ntmps44
 go_wp2_with fail;try rw[hW]
 clear hW;refine(Pz.o _).mono ?_;rintro e w1 ⟨⟨v1,rfl,o1⟩,aH⟩;have fC:=ae o1;have LH:=ae aH;clear o1 aH c0 c1;obtain⟨_,c0,c1⟩:=HT.o _ LH.o;go_wp2_with fail;refine(XV.o _).mono ?_;rintro e w2 ⟨⟨v2,rfl,o2⟩,aE⟩;have HO1k:=ae (fC.o.kept aE);have du:=ae o2.sv;have yA:=ae (ai LH.o aE);clear o2 aE c0 c1;go_wp2_with (first | (at_builtin;refine ax rfl _ _ rfl W.heap.size _ _ p1 p2 rfl HO1k.o rfl du.o ?d1 ?d2 ?_))
 case d1=>omega
 case d2=>exact yA.o.size
 intro v3 w3 o3 aQ;have cZ:=ae o3;have UB:=ae (yA.o.trans aQ);clear o3 aQ;obtain⟨_,c0,c1⟩:=HT.o _ UB.o;go_wp2_with fail;clear c0 c1;go_loopw [3,4] (fun b i wr=>∃ k:Nat,k<=l.length/\i=.int .i64 (k:Int)/\aD wr W.heap.size b (p1++p2++gO (l.take k))/\Below W.heap.size W wr) (fun _ i _=>l.length-(intOf i).toNat)
 case atStart=>exact⟨0,by omega,rfl,by simpa [gO]using cZ.o,UB.o⟩
 case round =>
  obtain⟨k,hk,rfl,aA,az⟩:=hrel;have HO:=ae aA;have HB:=ae az;have bP:=az.size;clear aA az;by_cases aC:k<l.length
  ·obtain⟨b,off,rfl,hb,x0,x1,x2,x3⟩:=(HT.o _ HB.o).1.at aC
   have hlt':(k:Int)<(l.length:Int):=(by omega);have cT:=ae (mv aC);have jy:=LJ.o _ (jdl aC);have jx:=rS.o k aC;have hplen:=rZ.o k;have HPF:jfb (ij l[k]=uv l[k].1++uv l[k].2.1.size++df l[k].2.1++uv l[k].2.2.1++uv (eU l[k].2.2.2)):=ae rfl;generalize ij l[k]=PF at *;generalize gO (l.take k)=PL at *;generalize l[k]=f at *;obtain⟨f0,f1,f2,f3⟩:=f;have dv:f0<4294967296:=jy.1;have dO:f2<256:=jy.2;simp only at *;have Ak:=ae (bD f0 (by omega));have nt:=ae (bD f1.size (by omega));have yJ:=ae (bD f2 (by omega));have g1:=gq f0 (by omega);have g2:=gq f1.size (by omega);have g3:=gq f2 (by omega);have hnl:=iR f1;have HFG:jfb (uv (eU f3)=[eU f3]):=ae (vQ (by unfold eU;split<;>omega));rw[HFG.o]at HPF;generalize uv f0=q1 at *;generalize uv f1.size=q2 at *;generalize uv f2=q3 at *;have q0:=(HT.o _ HB.o).2.2;have Pu:w.heap.size<wr.heap.size:=jdD FE bP;have qt:=ak wr (.cells #[.int .u32 (f0:Int),.string f1,.int .u8 (f2:Int),.bool f3] 81);have hh0:(wr.alloc (.cells #[.int .u32 (f0:Int),.string f1,.int .u8 (f2:Int),.bool f3] 81)).heap[wr.heap.size]?=some (.cells #[.int .u32 (f0:Int),.string f1,.int .u8 (f2:Int),.bool f3] 81):=jdH wr (.cells #[.int .u32 (f0:Int),.string f1,.int .u8 (f2:Int),.bool f3] 81)
   have HF:jfb (∀ U,Far (wr.alloc (.cells #[.int .u32 (f0:Int),.string f1,.int .u8 (f2:Int),.bool f3] 81)) U->U.cell? ⟨wr.heap.size,0,none⟩=some (.int .u32 (f0:Int))/\U.cell? ⟨wr.heap.size,1,none⟩=some (.string f1)/\U.cell? ⟨wr.heap.size,2,none⟩=some (.int .u8 (f2:Int))/\U.cell? ⟨wr.heap.size,3,none⟩=some (.bool f3)):=ae (fun U h=>by
    have hh:=h _ _ _ (by omega) hh0;exact⟨by rw[ay hh];rfl,by rw[ay hh];rfl,by rw[ay hh];rfl,by rw[ay hh];rfl⟩)
   have HXN:=ae (ai HB.o qt);have Ad:=ae (HO.o.kept qt);clear qt HO jy hh0;generalize hV:wr.alloc (.cells #[.int .u32 (f0:Int),.string f1,.int .u8 (f2:Int),.bool f3] 81)=V at *;obtain⟨y0,y1,y2,y3⟩:=HF.o V (Far.refl _);go_wp2_with fail;try rw[hV]
   clear hV;refine(Ak.o _).mono ?_;rintro e w5 ⟨⟨v5,rfl,o5⟩,br⟩;have HN5:=ae (Ad.o.kept br);have sd:=ae o5.sv;have HY5:=ae (Far.of_below br);have Qk:=ae (ai HXN.o br);clear o5 br x0 x1 x2 x3 y0 y1 y2 y3 q0;go_wp2_with (first | (at_builtin;refine ef rfl _ _ rfl W.heap.size _ _ (p1++p2++PL) q1 rfl HN5.o rfl sd.o ?d3 ?d4 ?_))
   case d3=>first | (simp only[jdj];omega) | (simp;omega) | omega
   case d4=>exact Qk.o.size
   intro v6 w6 o6 dP Qg;have ng:jfb (aD w6 W.heap.size v6 (p1++p2++PL++q1)):=ae (by simpa using o6);have HY6:=ae (HY5.o.trans Qg);have vD:=ae (Qk.o.trans dP);clear o6 dP Qg;obtain⟨y0,y1,y2,y3⟩:=HF.o _ HY6.o;go_wp2_with fail;refine(nt.o _).mono ?_;rintro e w7 ⟨⟨v7,rfl,o7⟩,jk⟩;have HN7:=ae (ng.o.kept jk);have Qh:=ae o7.sv;have HY7:=ae (HY6.o.trans (Far.of_below jk));have HX7:=ae (ai vD.o jk);clear o7 jk y0 y1 y2 y3;go_wp2_with (first | (at_builtin;refine ef rfl _ _ rfl W.heap.size _ _ (p1++p2++PL++q1) q2 rfl HN7.o rfl Qh.o ?d5 ?d6 ?_))
   case d5=>first | (simp only[jdj];omega) | (simp;omega) | omega
   case d6=>exact HX7.o.size
   intro v8 w8 o8 kH hf8;have HO8:jfb (aD w8 W.heap.size v8 (p1++p2++PL++q1++q2)):=ae (by simpa using o8);have HY8:=ae (HY7.o.trans hf8);have HX8:=ae (HX7.o.trans kH);clear o8 kH hf8;obtain⟨y0,y1,y2,y3⟩:=HF.o _ HY8.o;go_wp2_with (first | (at_builtin;refine qk rfl _ _ rfl W.heap.size _ (p1++p2++PL++q1++q2) f1 rfl HO8.o rfl ?d7 ?d8 ?_))
   case d7=>first | (simp only[jdj];omega) | (simp;omega) | omega
   case d8=>exact HX8.o.size
   intro v9 w9 o9 pB hf9;have Us:jfb (aD w9 W.heap.size v9 (p1++p2++PL++q1++q2++df f1)):=ae (by simpa using o9);have HY9:=ae (HY8.o.trans hf9);have HX9:=ae (HX8.o.trans pB);clear o9 pB hf9 y0 y1 y2 y3;obtain⟨y0,y1,y2,y3⟩:=HF.o _ HY9.o;go_wp2_with fail;refine(yJ.o _).mono ?_;rintro e w10 ⟨⟨v10,rfl,o10⟩,Cq⟩;have HN10:=ae (Us.o.kept Cq);have HS10:=ae o10.sv;have HY10:=ae (HY9.o.trans (Far.of_below Cq));have HX10:=ae (ai HX9.o Cq);clear o10 Cq y0 y1 y2 y3;go_wp2_with (first | (at_builtin;refine ef rfl _ _ rfl W.heap.size _ _ (p1++p2++PL++q1++q2++df f1) q3 rfl HN10.o rfl HS10.o ?d9 ?e1 ?_))
   case d9=>first | (simp only[jdj];omega) | (simp;omega) | omega
   case e1=>exact HX10.o.size
   intro v11 w11 o11 Qb hf11;have Ys:jfb (aD w11 W.heap.size v11 (p1++p2++PL++q1++q2++df f1++q3)):=ae (by simpa using o11);have HY11:=ae (HY10.o.trans hf11);have FT:=ae (HX10.o.trans Qb);clear o11 Qb hf11;obtain⟨y0,y1,y2,y3⟩:=HF.o _ HY11.o;have ni:jfb (∀ x:Nat,aD (w11.alloc (.cells #[.int .u8 (x:Int)] 5)) w11.heap.size (.slice (some ⟨w11.heap.size,0,none⟩) 1 1) [x]):=ae (fun x=>oo w11 [x] (by unfold maxLen;simp));cases f3
   ·have qn:aD (w11.alloc (.cells #[.int .u8 0] 5)) w11.heap.size (.slice (some ⟨w11.heap.size,0,none⟩) 1 1) [0]:=ni.o 0
    have YY:=ae qn.sv;have jcq:=ae (Ys.o.kept (ak w11 (.cells #[.int .u8 0] 5)));clear qn;go_wp2_with (first | (at_builtin;refine ef rfl _ _ rfl W.heap.size _ _ (p1++p2++PL++q1++q2++df f1++q3) [0] rfl ?z1 rfl ?z2 ?e2 ?e3 ?_))
    case z1=>exact jcq.o
    case z2=>exact YY.o
    case e2=>first | (simp only[jdj,jdS];omega) | (simp;omega) | omega
    case e3=>first | exact Ab FT.o.size _ | (have:=FT.o.size;omega)
    intro v12 w12 o12 pd hf12;have jcr:jfb (aD w12 W.heap.size v12 (p1++p2++(PL++(q1++q2++df f1++q3++[eU false])))):=ae (by simpa [eU]using o12);have jcs:=ae ((FT.o.alloc FT.o.size _).trans pd);clear o12 pd hf12 y0 y1 y2 y3;go_wp2_with fail;go_roundw
    case rel=>exact⟨k+1,by omega,by go_num,by rw[cT.o,HPF.o];exact jcr.o,jcs.o⟩
    case measure=>simp[intOf];omega
   ·have qn:aD (w11.alloc (.cells #[.int .u8 1] 5)) w11.heap.size (.slice (some ⟨w11.heap.size,0,none⟩) 1 1) [1]:=ni.o 1
    have YY:=ae qn.sv;have jcq:=ae (Ys.o.kept (ak w11 (.cells #[.int .u8 1] 5)));clear qn;go_wp2_with (first | (at_builtin;refine ef rfl _ _ rfl W.heap.size _ _ (p1++p2++PL++q1++q2++df f1++q3) [1] rfl ?z3 rfl ?z4 ?e4 ?e5 ?_))
    case z3=>exact jcq.o
    case z4=>exact YY.o
    case e4=>first | (simp only[jdj,jdS];omega) | (simp;omega) | omega
    case e5=>first | exact Ab FT.o.size _ | (have:=FT.o.size;omega)
    intro v12 w12 o12 pd hf12;have jcr:jfb (aD w12 W.heap.size v12 (p1++p2++(PL++(q1++q2++df f1++q3++[eU true])))):=ae (by simpa [eU]using o12);have jcs:=ae ((FT.o.alloc FT.o.size _).trans pd);clear o12 pd hf12 y0 y1 y2 y3;go_wp2_with fail;go_roundw
    case rel=>exact⟨k+1,by omega,by go_num,by rw[cT.o,HPF.o];exact jcr.o,jcs.o⟩
    case measure=>simp[intOf];omega
  ·obtain rfl:k=l.length:=by omega
   have gL:¬ ((l.length:Nat):Int)<(l.length:Int):=(by omega);rw[jdp]at HO;have q0:=(HT.o _ HB.o).2.2;go_wp2_with fail;go_ret
   rw[HP.o];exact⟨⟨_,rfl,be HO.o cE.o.size⟩,ai cE.o HB.o⟩
end Go.Proofs.YtpljdjmpamjkhaaGreatDoor
