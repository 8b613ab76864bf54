import Derived.Test.YtpljdjmpamjkhaaGreatDoorYau
import Derived.Test.YtpljdjmpamjkhaaGreatDoorYca
import Derived.Test.YtpljdjmpamjkhaaGreatDoorYaq
set_option linter.unusedVariables false
set_option linter.unusedSimpArgs false
set_option maxRecDepth 100000
set_option maxHeartbeats 4000000
namespace Go.Proofs.YtpljdjmpamjkhaaGreatDoor
open Go.RowKit Go.Lib
theorem JV:∀(r:List Cl) (m:Cl),fX m r∈m::r
 | [],m=>by simp[fX]
 | x::r,m=>by
  unfold fX;have:=JV r (if cO x m<0 then x else m);rcases Z6.1 this with h | h
  ·rw[h]
   split
   ·simp
   ·simp
  ·simp[h]
theorem JW:∀(r:List Cl) (m:Cl),eC m r∈m::r
 | [],m=>by simp[eC]
 | x::r,m=>by
  unfold eC;have:=JW r (if 0<cO x m then x else m);rcases Z6.1 this with h | h
  ·rw[h]
   split
   ·simp
   ·simp
  ·simp[h]
theorem G7{cs:List Cl}{k:Nat}(hf:∀ c∈cs,aU c)(hk:∀ c∈cs,c.1=k∨c=nul):fL cs=ct cs:=by
 have J7:∀ c∈aY cs,aU c/\c.1=k:=fun c hc=>by
  unfold aY at hc;obtain⟨h1,h2⟩:=jbq.1 hc;refine⟨hf c h1,?_⟩;rcases hk c h1 with h | h
  ·exact h
  ·rw[h]at h2
   simp[nul]at h2
 unfold fL ct;cases hn:aY cs with
 | nil=>simp[soM]
 | cons x r =>
  rw[hn]at J7;have M8:=J7 _ (JV r x);have ZP:=J7 _ (JW r x);rw[if_neg (by simp[soM])];show (if (fX x r).1=3 then _ else _)=_
  rw[M8.2];have e1:(leM (x::r))=fX x r:=rfl;have e2:(moM (x::r))=eC x r:=rfl;rw[e1,e2];show _=(⟨cs.length,(cs.length:Int)-((x::r).length:Nat),true,(gp (eC x r) ((x::r).all eK)).2,nw (fX x r) ((x::r).all eK),(gp (eC x r) ((x::r).all eK)).1⟩:Stt)
  by_cases h3:k=3
  ·rw[if_pos h3]
   have dP:ckM (x::r)=(x::r).all eK:=by
    unfold ckM;rw[jba,List.all_eq_true,List.all_eq_true];constructor
    ·intro h c hc
     have:=h c hc;have h4:=(J7 c hc).2;rw[h4,h3]at this;simpa using this
    ·intro h c hc
     rw[h c hc];simp
   rw[dP];subst h3
   have Yu:(fX x r).2.1=0/\(eC x r).2.1=0:=by
    constructor
    ·rcases M8.1 with h | ⟨n,h,_⟩ | ⟨n,h,_⟩ | ⟨s,h,_⟩
     ·rw[h];rfl
     ·have:=M8.2;rw[h]at this;simp at this
     ·have:=M8.2;rw[h]at this;simp at this
     ·rw[h]
    ·rcases ZP.1 with h | ⟨n,h,_⟩ | ⟨n,h,_⟩ | ⟨s,h,_⟩
     ·rw[h];rfl
     ·have:=ZP.2;rw[h]at this;simp at this
     ·have:=ZP.2;rw[h]at this;simp at this
     ·rw[h]
   have el:∀ cl,nw (fX x r) cl=if cl=false then (3,0,[]) else (3,0,nb (bV (lb (am (fX x r).2.2)) 4)):=fun cl=>by
    unfold nw;rw[M8.2,Yu.1];cases cl
    ·rw[if_pos ⟨rfl,rfl⟩,if_pos rfl]
    ·rw[if_neg (by simp),if_neg (by simp)]
   have eh:∀ cl,gp (eC x r) cl=match gG (lb (am (eC x r).2.2)) 4 with
    | none=>(nul,false)
    | some a=>if cl=true then ((3,0,nb a),true) else (nul,false):=fun cl=>by
    unfold gp;rw[if_pos ZP.2];cases gG (lb (am (eC x r).2.2)) 4<;>rfl
   rw[el,eh,M8.2,ZP.2,Yu.1,Yu.2,← wn];cases hc:(x::r).all eK
   ·rw[if_pos rfl,if_pos rfl]
    cases gG (lb (am (eC x r).2.2)) 4<;>rfl
   ·rw[if_neg (by simp),if_neg (by simp)]
    cases gG (lb (am (eC x r).2.2)) 4<;>rfl
  ·rw[if_neg h3]
   have ht:(fX x r).2.2=[]:=by
    rcases M8.1 with h | ⟨n,h,_⟩ | ⟨n,h,_⟩ | ⟨s,h,_⟩
    ·rw[h];rfl
    ·rw[h]
    ·rw[h]
    ·have:=M8.2;rw[h]at this;exact absurd this.symm h3
   have el:∀ cl,nw (fX x r) cl=fX x r:=fun cl=>by
    unfold nw;rw[if_neg (fun h=>h3 (M8.2.symm.trans h.1)),ht];have h0:lb (am ([]:List Nat))=[]:=rfl;rw[h0];have h1:nb (bV [] 4)=[]:=by simp[bV,nb]
    rw[h1,← ht]
   have eh:∀ cl,gp (eC x r) cl=(eC x r,true):=fun cl=>by
    unfold gp;rw[if_neg (fun h=>h3 (ZP.2.symm.trans h))]
   rw[el,eh]
def Far(w w':World):Prop:=∀(p T:Nat) (cs:Array Value),T≠5->w.heap[p]?=some (.cells cs T (0,0))->w'.heap[p]?=some (.cells cs T (0,0))
theorem Ra{w w':World}{B:Nat}{v:Value}{l:List Nat}(az:aC w B v l)(hg:w.grownBy w' v.ownBlock):Far w w':=by
 intro p T cs hT hp;have aB:p<w.heap.size:=(Array.getElem?_eq_some_iff.1 hp).1;rw[hg.block p aB ?_]
 ·exact hp
 ·intro he
  rcases az.2 with ⟨rfl,_⟩ | ⟨g,cap,cur,rfl,_,h3,_⟩
  ·simp[Value.ownBlock]at he
  ·simp only[Value.ownBlock,Option.some.injEq]at he
   subst he;rw[hp]at h3;simp at h3
   exact hT h3.2
theorem Far.refl(w:World):Far w w:=fun _ _ _ _ h=>h
theorem Far.of_below{w w':World}(h:Below w.heap.size w w'):Far w w':=fun p T cs _ hp=>(h.block p (Array.getElem?_eq_some_iff.1 hp).1).trans hp
theorem Far.trans{a b c:World}(h:Far a b)(h2:Far b c):Far a c:=fun p T cs hT hp=>h2 p T cs hT (h p T cs hT hp)
theorem ed{w:World}{ops:Array Oper}{rest:List Oper}{o:Oper}{a:Act}{Q:Exit->Act->World->Prop}(ee:o.guard=none)(s x:Operand)
  (ho:o.op=.call { callee:=.builtin .append,args:=#[s,x],argTypes:=#[30,30] })
  (base:Nat) (v vx:Value) (l0 l:List Nat) (hs:a.eval s=v) (az:aC w base v l0) (hx:a.eval x=vx) (fo:Sv w vx (aE .u8 l))
  (hbytes:l0.length+l.length<=140737488355328) (aH:base<=w.heap.size)
  (h:∀ v' w',aC w' base v' (l0++l)->Below base w w'->Far w w'->wpList Tryz.prog ops Q rest (a.put o.dst v') w') :
  wpList Tryz.prog ops Q (o::rest) a w:=by
 obtain⟨i0,hi,ce,hz1',bm⟩:=info_parts jf;have Sw:=az;unfold aC at *;obtain⟨ad,cap,rfl,h1,h2,h3,h4⟩:=fo;rw[ap]at *;cases ad with
 | none =>
  have hc:=h3 rfl;subst hc;have hl:l=[]:=jab (by omega);subst hl;refine wpList_plain ee fun K hK=>?_
  have hr:=run_append_owned_none (P:=Tryz.prog) (w:=w) base 30 o.type 5 i0 1 Tryz.underlying30 hi v l0.length (aE .u8 l0) az;unfold Oper.wp execOp;simp only[ho,resolve,invoke,builtin,Sem.run_bind,Sem.run_pure,Result.andThen_ok,jaU,jal,jaG,hs,hx,hr,jad];refine hK _ _ (h v w ?_ (ZQ _ _) (Far.refl _));rw[Z7];exact az
 | some ad =>
  refine wpList_append_own_at (w:=w) ee s x 30 ho base 5 i0 (.int .u8 0) 1 1 Tryz.underlying30 hi ce hz1' bm rfl (by decide) v l0.length (aE .u8 l0) hs az ad l.length cap (aE .u8 l) hx (by rw[ap];omega) ?_ (fP _ _) (by unfold maxLen;omega) (by omega) aH ?_
  ·intro j u hu
   have hj:j<l.length:=by
    have:=(List.getElem?_eq_some_iff.1 hu).1;rwa[ap]at this
   obtain⟨b,off,h5,_,h6⟩:=h4 (by omega);cases h5
   rw[pp];exact h6 j u hu
  ·intro v' w' o1 g1 _ _
   refine h v' w' ?_ ((ZQ base w).grown g1 aH (fun k hk=>(az.lt k hk).1)) (Ra Sw g1);rw[bZ,ZT];exact o1
theorem pW{w:World}{ops:Array Oper}{rest:List Oper}{o:Oper}{a:Act}{Q:Exit->Act->World->Prop}(ee:o.guard=none)(s x:Operand)
  (ho:o.op=.call { callee:=.builtin .append,args:=#[s,x],argTypes:=#[30,9] })
  (base:Nat) (v:Value) (l0:List Nat) (z:ByteArray) (hs:a.eval s=v) (az:aC w base v l0) (hx:a.eval x=.string z)
  (hbytes:l0.length+z.size<=140737488355328) (aH:base<=w.heap.size)
  (h:∀ v' w',aC w' base v' (l0++dd z)->Below base w w'->Far w w'->wpList Tryz.prog ops Q rest (a.put o.dst v') w') :
  wpList Tryz.prog ops Q (o::rest) a w:=by
 obtain⟨i0,hi,ce,hz1',bm⟩:=info_parts jf;have Sw:=az;unfold aC at *;refine wpList_append_own_string (w:=w) ee s x 30 9 ho base 5 i0 Tryz.underlying30 Tryz.underlying9 hi ce hz1' bm v l0.length (aE .u8 l0) hs az z hx (by unfold maxLen;omega) (by exact hbytes) aH ?_;intro v' w' o1 g1 _;refine h v' w' ?_ ((ZQ base w).grown g1 aH (fun k hk=>(az.lt k hk).1)) (Ra Sw g1)
 have e:strCells z=aE .u8 (dd z):=by
  unfold strCells aE dd;rw[ByteArray.toList_eq];simp[jao,Function.comp_def]
 rw[e]at o1;rw[bZ,ZT,iP];exact o1
theorem zF{B:Nat}{w:World}(h:B<=w.heap.size)(o:Obj):B<=(w.alloc o).heap.size:=by rw[ZS];omega
theorem El{w:World}{v:Value}{l:List Fd}(hs:Sf w v l)(ho:∀ f∈l,Okf f)(hl:l.length<=100)(hz:szs l<5000)(id:Nat)(mR:id<4294967296) :
  Calls Tryz.prog 44 #[.agg #[.int .u32 (id:Int),v]] w (du w (dz id l)):=by
 obtain⟨a,cap,rfl,aX,bw⟩:=hs.form;have J4:=ae ho;have HP:Hid (dz id l=uv id++uv l.length++gM l):=ae rfl;have rH:=ae (fG ho hl hz);have rz:=ae (fun k=>oV (k:=k) hz);have Mt:=ae (bC id (by omega));have UP:=ae (bC l.length (by omega));have u1:=gm id (by omega);have u2:=gm l.length (by omega);have dW:=ak w (.cells #[.int .u32 (id:Int),.slice a l.length cap] 25);have Ez:w.heap.size<(w.alloc (.cells #[.int .u32 (id:Int),.slice a l.length cap] 25)).heap.size:=by rw[ZS];omega
 have HT:Hid (∀ U,Below (w.alloc (.cells #[.int .u32 (id:Int),.slice a l.length cap] 25)).heap.size (w.alloc (.cells #[.int .u32 (id:Int),.slice a l.length cap] 25)) U->Sf U (.slice a l.length cap) l/\U.cell? ⟨w.heap.size,0,none⟩=some (.int .u32 (id:Int))/\U.cell? ⟨w.heap.size,1,none⟩=some (.slice a l.length cap)):=ae (fun U h=>by
  obtain⟨c0,c1⟩:=bE w (.int .u32 (id:Int)) (.slice a l.length cap) 25;exact⟨(hs.kept dW).kept h,(h.cell (p:=⟨w.heap.size,0,none⟩) Ez).trans c0,(h.cell (p:=⟨w.heap.size,1,none⟩) Ez).trans c1⟩)
 have cC:=ae dW;clear hs dW ho;generalize hW:w.alloc (.cells #[.int .u32 (id:Int),.slice a l.length cap] 25)=W at *;obtain⟨_,c0,c1⟩:=HT.out W (ZQ _ _);generalize uv id=p1 at *;generalize uv l.length=p2 at *;go_enter Tryz.func44,Tryz.ntmps44
 go_wp2_with fail;try rw[hW]
 clear hW;refine(Mt.out _).mono ?_;rintro e w1 ⟨⟨v1,rfl,o1⟩,aG⟩;have fA:=ae o1;have J3:=ae aG;clear o1 aG c0 c1;obtain⟨_,c0,c1⟩:=HT.out _ J3.out;go_wp2_with fail;refine(UP.out _).mono ?_;rintro e w2 ⟨⟨v2,rfl,o2⟩,aD⟩;have HO1k:=ae (fA.out.kept aD);have dr:=ae o2.sv;have yd:=ae (ai J3.out aD);clear o2 aD c0 c1;go_wp2_with (first | (at_builtin;refine ar rfl _ _ rfl W.heap.size _ _ p1 p2 rfl HO1k.out rfl dr.out ?d1 ?d2 ?_))
 case d1=>omega
 case d2=>exact yd.out.size
 intro v3 w3 o3 aP;have cX:=ae o3;have RA:=ae (yd.out.trans aP);clear o3 aP;obtain⟨_,c0,c1⟩:=HT.out _ RA.out;go_wp2_with fail;clear c0 c1;go_loopw [3,4] (fun b i wr=>∃ k:Nat,k<=l.length/\i=.int .i64 (k:Int)/\aC wr W.heap.size b (p1++p2++gM (l.take k))/\Below W.heap.size W wr) (fun _ i _=>l.length-(intOf i).toNat)
 case atStart=>exact⟨0,by omega,rfl,by simpa [gM]using cX.out,RA.out⟩
 case round =>
  obtain⟨k,hk,rfl,az,ay⟩:=hrel;have HO:=ae az;have HB:=ae ay;have bO:=ay.size;clear az ay;by_cases aB:k<l.length
  ·obtain⟨b,off,rfl,hb,x0,x1,x2,x3⟩:=(HT.out _ HB.out).1.at aB
   have hlt':(k:Int)<(l.length:Int):=by omega
   have cP:=ae (mj aB);have jr:=J4.out _ (ZV aB);have jq:=rz.out k aB;have hplen:=rH.out k;have Zp:Hid (ie l[k]=uv l[k].1++uv l[k].2.1.size++dd l[k].2.1++uv l[k].2.2.1++uv (eS l[k].2.2.2)):=ae rfl;generalize ie l[k]=PF at *;generalize gM (l.take k)=PL at *;generalize l[k]=f at *;obtain⟨f0,f1,f2,f3⟩:=f;have dt:f0<4294967296:=jr.1;have dM:f2<256:=jr.2;simp only at *;have zO:=ae (bC f0 (by omega));have na:=ae (bC f1.size (by omega));have ym:=ae (bC f2 (by omega));have g1:=gm f0 (by omega);have g2:=gm f1.size (by omega);have g3:=gm f2 (by omega);have hnl:=iP f1;have HFG:Hid (uv (eS f3)=[eS f3]):=ae (uV (by unfold eS;split<;>omega));rw[HFG.out]at Zp;generalize uv f0=q1 at *;generalize uv f1.size=q2 at *;generalize uv f2=q3 at *;have q0:=(HT.out _ HB.out).2.2;have Mo:w.heap.size<wr.heap.size:=Z9 Ez bO;have qb:=ak wr (.cells #[.int .u32 (f0:Int),.string f1,.int .u8 (f2:Int),.bool f3] 81);have ZH:(wr.alloc (.cells #[.int .u32 (f0:Int),.string f1,.int .u8 (f2:Int),.bool f3] 81)).heap[wr.heap.size]?=some (.cells #[.int .u32 (f0:Int),.string f1,.int .u8 (f2:Int),.bool f3] 81):=heap_alloc_new wr (.cells #[.int .u32 (f0:Int),.string f1,.int .u8 (f2:Int),.bool f3] 81)
   have HF:Hid (∀ U,Far (wr.alloc (.cells #[.int .u32 (f0:Int),.string f1,.int .u8 (f2:Int),.bool f3] 81)) U->U.cell? ⟨wr.heap.size,0,none⟩=some (.int .u32 (f0:Int))/\U.cell? ⟨wr.heap.size,1,none⟩=some (.string f1)/\U.cell? ⟨wr.heap.size,2,none⟩=some (.int .u8 (f2:Int))/\U.cell? ⟨wr.heap.size,3,none⟩=some (.bool f3)):=ae (fun U h=>by
    have hh:=h _ _ _ (by omega) ZH;exact⟨by rw[ax hh];rfl,by rw[ax hh];rfl,by rw[ax hh];rfl,by rw[ax hh];rfl⟩)
   have HXN:=ae (ai HB.out qb);have zH:=ae (HO.out.kept qb);clear qb HO jr ZH;generalize hV:wr.alloc (.cells #[.int .u32 (f0:Int),.string f1,.int .u8 (f2:Int),.bool f3] 81)=V at *;obtain⟨y0,y1,y2,y3⟩:=HF.out V (Far.refl _);go_wp2_with fail;try rw[hV]
   clear hV;refine(zO.out _).mono ?_;rintro e w5 ⟨⟨v5,rfl,o5⟩,bq⟩;have HN5:=ae (zH.out.kept bq);have rI:=ae o5.sv;have HY5:=ae (Far.of_below bq);have MZ:=ae (ai HXN.out bq);clear o5 bq x0 x1 x2 x3 y0 y1 y2 y3 q0;go_wp2_with (first | (at_builtin;refine ed rfl _ _ rfl W.heap.size _ _ (p1++p2++PL) q1 rfl HN5.out rfl rI.out ?d3 ?d4 ?_))
   case d3=>first | (simp only[ZT];omega) | (simp;omega) | omega
   case d4=>exact MZ.out.size
   intro v6 w6 o6 dN MV;have mU:Hid (aC w6 W.heap.size v6 (p1++p2++PL++q1)):=ae (by simpa using o6);have HY6:=ae (HY5.out.trans MV);have uI:=ae (MZ.out.trans dN);clear o6 dN MV;obtain⟨y0,y1,y2,y3⟩:=HF.out _ HY6.out;go_wp2_with fail;refine(na.out _).mono ?_;rintro e w7 ⟨⟨v7,rfl,o7⟩,jd⟩;have HN7:=ae (mU.out.kept jd);have MW:=ae o7.sv;have HY7:=ae (HY6.out.trans (Far.of_below jd));have HX7:=ae (ai uI.out jd);clear o7 jd y0 y1 y2 y3;go_wp2_with (first | (at_builtin;refine ed rfl _ _ rfl W.heap.size _ _ (p1++p2++PL++q1) q2 rfl HN7.out rfl MW.out ?d5 ?d6 ?_))
   case d5=>first | (simp only[ZT];omega) | (simp;omega) | omega
   case d6=>exact HX7.out.size
   intro v8 w8 o8 kA XP;have XM:Hid (aC w8 W.heap.size v8 (p1++p2++PL++q1++q2)):=ae (by simpa using o8);have HY8:=ae (HY7.out.trans XP);have X5:=ae (HX7.out.trans kA);clear o8 kA XP;obtain⟨y0,y1,y2,y3⟩:=HF.out _ HY8.out;go_wp2_with (first | (at_builtin;refine pW rfl _ _ rfl W.heap.size _ (p1++p2++PL++q1++q2) f1 rfl XM.out rfl ?d7 ?d8 ?_))
   case d7=>first | (simp only[ZT];omega) | (simp;omega) | omega
   case d8=>exact X5.out.size
   intro v9 w9 o9 pg hf9;have Ro:Hid (aC w9 W.heap.size v9 (p1++p2++PL++q1++q2++dd f1)):=ae (by simpa using o9);have HY9:=ae (HY8.out.trans hf9);have HX9:=ae (X5.out.trans pg);clear o9 pg hf9 y0 y1 y2 y3;obtain⟨y0,y1,y2,y3⟩:=HF.out _ HY9.out;go_wp2_with fail;refine(ym.out _).mono ?_;rintro e w10 ⟨⟨v10,rfl,o10⟩,BG⟩;have HN10:=ae (Ro.out.kept BG);have HS10:=ae o10.sv;have HY10:=ae (HY9.out.trans (Far.of_below BG));have HX10:=ae (ai HX9.out BG);clear o10 BG y0 y1 y2 y3;go_wp2_with (first | (at_builtin;refine ed rfl _ _ rfl W.heap.size _ _ (p1++p2++PL++q1++q2++dd f1) q3 rfl HN10.out rfl HS10.out ?d9 ?e1 ?_))
   case d9=>first | (simp only[ZT];omega) | (simp;omega) | omega
   case e1=>exact HX10.out.size
   intro v11 w11 o11 MQ hf11;have Ve:Hid (aC w11 W.heap.size v11 (p1++p2++PL++q1++q2++dd f1++q3)):=ae (by simpa using o11);have HY11:=ae (HY10.out.trans hf11);have EN:=ae (HX10.out.trans MQ);clear o11 MQ hf11;obtain⟨y0,y1,y2,y3⟩:=HF.out _ HY11.out;have mW:Hid (∀ x:Nat,aC (w11.alloc (.cells #[.int .u8 (x:Int)] 5)) w11.heap.size (.slice (some ⟨w11.heap.size,0,none⟩) 1 1) [x]):=ae (fun x=>nQ w11 [x] (by unfold maxLen;simp));cases f3
   ·have pZ:aC (w11.alloc (.cells #[.int .u8 0] 5)) w11.heap.size (.slice (some ⟨w11.heap.size,0,none⟩) 1 1) [0]:=mW.out 0
    have VK:=ae pZ.sv;have Y2:=ae (Ve.out.kept (ak w11 (.cells #[.int .u8 0] 5)));clear pZ;go_wp2_with (first | (at_builtin;refine ed rfl _ _ rfl W.heap.size _ _ (p1++p2++PL++q1++q2++dd f1++q3) [0] rfl ?z1 rfl ?z2 ?e2 ?e3 ?_))
    case z1=>exact Y2.out
    case z2=>exact VK.out
    case e2=>first | (simp only[ZT,jan];omega) | (simp;omega) | omega
    case e3=>first | exact zF EN.out.size _ | (have:=EN.out.size;omega)
    intro v12 w12 o12 oN hf12;have Y3:Hid (aC w12 W.heap.size v12 (p1++p2++(PL++(q1++q2++dd f1++q3++[eS false])))):=ae (by simpa [eS]using o12);have Y4:=ae ((EN.out.alloc EN.out.size _).trans oN);clear o12 oN hf12 y0 y1 y2 y3;go_wp2_with fail;go_roundw
    case rel=>exact⟨k+1,by omega,by go_num,by rw[cP.out,Zp.out];exact Y3.out,Y4.out⟩
    case measure=>simp[intOf];omega
   ·have pZ:aC (w11.alloc (.cells #[.int .u8 1] 5)) w11.heap.size (.slice (some ⟨w11.heap.size,0,none⟩) 1 1) [1]:=mW.out 1
    have VK:=ae pZ.sv;have Y2:=ae (Ve.out.kept (ak w11 (.cells #[.int .u8 1] 5)));clear pZ;go_wp2_with (first | (at_builtin;refine ed rfl _ _ rfl W.heap.size _ _ (p1++p2++PL++q1++q2++dd f1++q3) [1] rfl ?z3 rfl ?z4 ?e4 ?e5 ?_))
    case z3=>exact Y2.out
    case z4=>exact VK.out
    case e4=>first | (simp only[ZT,jan];omega) | (simp;omega) | omega
    case e5=>first | exact zF EN.out.size _ | (have:=EN.out.size;omega)
    intro v12 w12 o12 oN hf12;have Y3:Hid (aC w12 W.heap.size v12 (p1++p2++(PL++(q1++q2++dd f1++q3++[eS true])))):=ae (by simpa [eS]using o12);have Y4:=ae ((EN.out.alloc EN.out.size _).trans oN);clear o12 oN hf12 y0 y1 y2 y3;go_wp2_with fail;go_roundw
    case rel=>exact⟨k+1,by omega,by go_num,by rw[cP.out,Zp.out];exact Y3.out,Y4.out⟩
    case measure=>simp[intOf];omega
  ·obtain rfl:k=l.length:=by omega
   have gJ:¬ ((l.length:Nat):Int)<(l.length:Int):=by omega
   rw[ZY]at HO;have q0:=(HT.out _ HB.out).2.2;go_wp2_with fail;go_ret
   rw[HP.out];exact⟨⟨_,rfl,aZ HO.out cC.out.size⟩,ai cC.out HB.out⟩
end Go.Proofs.YtpljdjmpamjkhaaGreatDoor
