import Derived.Test.YtpljdjmpamjkhaaGreatDoorXbe
set_option linter.unusedVariables false
set_option linter.unusedSimpArgs false
set_option maxRecDepth 100000
set_option maxHeartbeats 4000000
namespace Go.Proofs.YtpljdjmpamjkhaaGreatDoor
open Go.RowKit Go.Lib
theorem TT:(Tryz.prog.info? 109).map (fun i=>(i.zero,i.size,i.bytes))=some (some (.agg #[.slice none 0 0,.slice none 0 0]),2,48):=by kernel_rfl
theorem yo{w:World}{ops:Array Oper}{o:Oper}{a:Act}{K:Act->World->Prop}{Q:Exit->Act->World->Prop}{E:Prop}(ex:o.guard=none)(s x:Operand)
  (ho:o.op=.call { callee:=.builtin .append,args:=#[s,x],argTypes:=#[103,103] })
  (base:Nat) (v:Value) (g:Nat) (z1 z2:Value) (n:Nat) (xs:List Value) (hs:a.eval s=v) (aA:w.ownsRow base 109 2 v n xs) (hx:a.eval x=.slice (some ⟨g,0,none⟩) 1 1)
  (hc:w.heap[g]?=some (.cells #[z1,z2] 109 (0,0))) (h1:z1.oneCell'=true) (h2:z2.oneCell'=true) (hbytes:n<=100000) (aJ:base<=w.heap.size)
  (h:∀ v' w',w'.ownsRow base 109 2 v' (n+1) (xs++[z1,z2])->w.grownBy w' v.ownBlock->(v'.ownBlock=v.ownBlock∨v'.ownBlock=some w.heap.size)->K (a.put o.dst v') w') :
  if Region.wanted o (yielded ops a.tmps)=true then Oper.wp Tryz.prog o a w K Q else E:=by
 obtain⟨i0,hi,ct,hz1',bv⟩:=jdP TT
 refine iX ex s x 103 ho base 109 i0 (.agg #[.slice none 0 0,.slice none 0 0]) 2 48 Tryz.underlying103 hi ct hz1' bv rfl (by decide) v n xs hs aA ⟨g,0,none⟩ 1 1 [z1,z2] hx rfl ?_ (fun u hu=>by
  simp only[jdN,jfc,or_false]at hu;rcases hu with rfl | rfl
  ·exact h1
  ·exact h2) (by unfold maxLen;omega) (by omega) aJ h
 intro j u hu;rw[mv];rw[ay hc];simpa using hu
def Fil(W:World)(B fp id:Nat)(fv:Value)(gs:List Gr):Prop :=
 ∃ gv xs,W.heap[fp]?=some (.cells #[.int .u32 (id:Int),fv,gv] 105 (0,0))/\B<=fp/\W.ownsRow B 109 2 gv gs.length xs /\
  ∀ j (h:j<gs.length),∃ a b,xs[2*j]?=some a/\xs[2*j+1]?=some b/\Gro W B (.agg #[a,b]) gs[j].1 gs[j].2
theorem Gro.turn{W W':World}{B:Nat}{v:Value}{rows:List Row}{sts:List Stt}(h:Gro W B v rows sts)(hb:∀ k cur e,B<=k->k<W.heap.size->e≠105->e≠109->W.heap[k]?=some (.cells cur e (0,0))->W'.heap[k]?=W.heap[k]?):Gro W' B v rows sts:=by
 obtain⟨R,rvs,vs,rfl,h1,h2,h3⟩:=h
 have key:∀{e:TypeId} {size n:Nat} {v:Value} {xs:List Value},W.ownsRow B e size v n xs->e≠105->e≠109->W'.ownsRow B e size v n xs:=fun{e size n v xs} ho e1 e2=>cm ho fun k hk=>by
  obtain⟨a,b,cur,hc⟩:=aN ho hk;exact hb k cur e a b e1 e2 hc
 refine⟨R,rvs,vs,rfl,key h1 (by decide) (by decide),fun i hi=>?_,key h3 (by decide) (by decide)⟩;obtain⟨rv,e1,e2⟩:=h2 i hi;exact⟨rv,e1,key e2 (by decide) (by decide)⟩
theorem Gro.low{W:World}{B B':Nat}{v:Value}{rows:List Row}{sts:List Stt}(h:Gro W B v rows sts)(hB:B'<=B):Gro W B' v rows sts:=by
 obtain⟨R,rvs,vs,rfl,h1,h2,h3⟩:=h;have lo:∀{e:TypeId} {size n:Nat} {v:Value} {xs:List Value},W.ownsRow B e size v n xs->W.ownsRow B' e size v n xs:=fun{e size n v xs} h=>⟨h.1,h.2.imp id fun⟨g,cap,cur,hv,hb,r⟩=>⟨g,cap,cur,hv,jdF hB hb,r⟩⟩
 exact⟨R,rvs,vs,rfl,lo h1,fun i hi=>by obtain⟨rv,e1,e2⟩:=h2 i hi;exact⟨rv,e1,lo e2⟩,lo h3⟩
theorem Gro.parts{W:World}{B:Nat}{v:Value}{rows:List Row}{sts:List Stt}(h:Gro W B v rows sts):∃ z1 z2,v=.agg #[z1,z2]/\z1.oneCell'=true/\z2.oneCell'=true:=by
 obtain⟨R,rvs,vs,rfl,h1,h2,h3⟩:=h;obtain⟨a,m,c,rfl⟩:=eP h3;exact⟨_,_,rfl,rfl,rfl⟩
theorem Fil.turn{W W':World}{B fp id:Nat}{fv:Value}{gs:List Gr}(h:Fil W B fp id fv gs)(hb:∀ k,B<=k->k<W.heap.size->W'.heap[k]?=W.heap[k]?):Fil W' B fp id fv gs:=by
 obtain⟨gv,xs,h1,h2,h3,h4⟩:=h;refine⟨gv,xs,(hb fp h2 (Array.getElem?_eq_some_iff.1 h1).1).trans h1,h2,cm h3 fun k hk=>?_,fun j hj=>?_⟩
 ·obtain⟨a,b,_⟩:=aN h3 hk
  exact hb k a b
 ·obtain⟨a,b,e1,e2,e3⟩:=h4 j hj
  exact⟨a,b,e1,e2,e3.turn fun k _ _ k1 k2 _ _ _=>hb k k1 k2⟩
theorem Fil.kept{W W':World}{B fp id:Nat}{fv:Value}{gs:List Gr}(h:Fil W B fp id fv gs)(hb:Below W.heap.size W W'):Fil W' B fp id fv gs:=h.turn fun k _ hk=>hb.block k hk
theorem Fil.add{W W':World}{B fp id:Nat}{fv gv gv' z1 z2:Value}{xs:List Value}{gs:List Gr}{g:Gr}(h1:W.heap[fp]?=some (.cells #[.int .u32 (id:Int),fv,gv] 105 (0,0)))(h2:B<=fp)(h3:W.ownsRow B 109 2 gv gs.length xs)
  (h4:∀ j (h:j<gs.length),∃ a b,xs[2*j]?=some a/\xs[2*j+1]?=some b/\Gro W B (.agg #[a,b]) gs[j].1 gs[j].2) (hg:Gro W B (.agg #[z1,z2]) g.1 g.2)
  (ho:W'.ownsRow B 109 2 gv' (gs.length+1) (xs++[z1,z2])) (Qh:W.grownBy W' gv.ownBlock) (he:gv'.ownBlock=gv.ownBlock∨gv'.ownBlock=some W.heap.size) :
  Fil (W'.setCell ⟨fp,2,none⟩ gv') B fp id fv (gs++[g])/\Below B W (W'.setCell ⟨fp,2,none⟩ gv')/\W'.cell? ⟨fp,2,none⟩=some gv/\W'.frozen? ⟨fp,2,none⟩=false:=by
 have kj:fp<W.heap.size:=(Array.getElem?_eq_some_iff.1 h1).1
 have hfv:gv.ownBlock≠some fp:=fun e=>by
  obtain⟨_,_,c,hc⟩:=aN h3 e;rw[h1]at hc;cases hc
 have hf':W'.heap[fp]?=some (.cells #[.int .u32 (id:Int),fv,gv] 105 (0,0)):=(Qh.block fp kj (fun e=>hfv e.symm)).trans h1
 have hfv':gv'.ownBlock≠some fp:=fun e=>by
  rcases he with e1 | e1
  ·exact hfv (e1.symm.trans e)
  ·rw[e1]at e
   cases e
   exact absurd kj (Nat.lt_irrefl _)
 have hn:∀ k,k≠fp->(W'.setCell ⟨fp,2,none⟩ gv').heap[k]?=W'.heap[k]?:=fun k hk=>Below.heap_setCell _ _ _ _ (by simpa using hk)
 have bR:=h3.1
 have turned:∀{v:Value} {rows:List Row} {sts:List Stt},Gro W B v rows sts->Gro (W'.setCell ⟨fp,2,none⟩ gv') B v rows sts:=fun{v rows sts} hh=>hh.turn fun k cur e k1 k2 e1 e2 hc=>by
  have hkf:k≠fp:=by
   rintro rfl;rw[h1]at hc;cases hc
   exact e1 rfl
  rw[hn k hkf];refine Qh.block k k2 (fun e'=>?_);obtain⟨_,_,c',hc'⟩:=aN h3 e'.symm;rw[hc]at hc';cases hc'
  exact e2 rfl
 refine⟨⟨gv',xs++[z1,z2],?_,h2,?_,fun j hj=>?_⟩,⟨Qh.os,Qh.tape,Qh.output,jdF Qh.size (by simp[World.setCell]),fun k hk=>?_⟩,by rw[ay hf'];rfl,by simp[World.frozen?,hf']⟩
 ·rw[dy hf']
  rfl
 ·rw[jdy]
  exact cm ho fun k hk=>hn k (fun e=>hfv' (e ▸ hk))
 ·rw[jdy]at hj
  simp only[jdD,jdX]at hj;by_cases uS:j<gs.length
  ·obtain⟨a,b,e1,e2,e3⟩:=h4 j uS
   refine⟨a,b,by rw[List.getElem?_append_left (by omega)];exact e1,by rw[List.getElem?_append_left (by omega)];exact e2,?_⟩;rw[jfl uS];exact turned e3
  ·obtain rfl:j=gs.length:=by omega
   refine⟨z1,z2,?_,?_,?_⟩
   ·rw[List.getElem?_append_right (by omega),show 2*gs.length-xs.length=0 by omega]
    rfl
   ·rw[List.getElem?_append_right (by omega),show 2*gs.length+1-xs.length=1 by omega]
    rfl
   ·rw[List.getElem_append_right (jdw _)]
    simp only[jeW,je7];exact turned hg
 ·rw[hn k (by omega)]
  refine Qh.block k (by omega) (fun e=>?_);have:=(aN h3 e.symm).1;omega
theorem bI{W:World}{B:Nat}{e:TypeId}{size n:Nat}{v:Value}{xs:List Value}(h:W.ownsRow B e size v n xs):∃ a c,v=.slice a n c/\n<=c/\c<=9223372036854775807:=by
 rcases h with ⟨h0,⟨h1,h2⟩ | ⟨g,cap,cur,h1,h2,h3,h4,h5,_⟩⟩
 ·exact⟨none,0,by rw[h1,h2],by omega,by omega⟩
 ·exact⟨_,cap,h1,h4,by unfold maxLen at h5;omega⟩
theorem ij{W:World}{B:Nat}{e:TypeId}{size n m c:Nat}{a:Option Addr}{xs:List Value}(h:W.ownsRow B e size (.slice a m c) n xs){i:Nat}{x:Value}(hx:xs[i]?=some x) :
  ∃ g,a=some ⟨g,0,none⟩/\B<=g/\g<W.heap.size/\W.cell? ⟨g,i,none⟩=some x:=by
 have aB:=(List.getElem?_eq_some_iff.1 hx).1;rcases h with ⟨h0,⟨h1,h2⟩ | ⟨g,cap',cur,h1,h2,h3,h4,h5,h6,h7⟩⟩
 ·subst h2
  simp at h0
  rw[h0]at aB;simp at aB
 ·simp only[Value.slice.injEq]at h1
  obtain⟨rfl,rfl,rfl⟩:=h1;refine⟨g,rfl,h2,(Array.getElem?_eq_some_iff.1 h3).1,?_⟩;simp only[World.cell?,h3];rw[← h7]at hx;have Aa:=(List.getElem?_eq_some_iff.1 hx).1;rw[jdC]at Aa;rw[List.getElem?_take_of_lt (by omega)]at hx;simpa using hx
def Ow(W:World)(B:Nat)(v:Value)(l:List (Value×Row)):Prop:=W.ownsRow B 79 1 v l.length (l.map Prod.fst)/\∀ x∈l,OwnV W B x.1 x.2
theorem Ow.nil(W:World)(B:Nat):Ow W B (.slice none 0 0) []:=⟨jeo _ _ _ _,fun x hx=>by simp at hx⟩
theorem Ow.kept{W W':World}{B:Nat}{v:Value}{l:List (Value×Row)}(h:Ow W B v l)(hb:Below W.heap.size W W'):Ow W' B v l:=⟨bL h.1 hb,fun x hx=>(h.2 x hx).kept hb⟩
theorem Ow.low{W:World}{B B':Nat}{v:Value}{l:List (Value×Row)}(h:Ow W B v l)(hB:B'<=B):Ow W B' v l:=⟨zO h.1 hB,fun x hx=>(h.2 x hx).of_le hB⟩
theorem Ow.form{W:World}{B:Nat}{v:Value}{l:List (Value×Row)}(h:Ow W B v l):∃ a cap,v=.slice a l.length cap/\l.length<=cap/\cap<=maxLen/\(a=none->cap=0):=by
 rcases h.1 with ⟨h0,⟨h1,h2⟩ | ⟨g,cap,cur,h1,h2,h3,h4,h5,_⟩⟩
 ·exact⟨none,0,by rw[h1,h2],by omega,by unfold maxLen;omega,fun _=>rfl⟩
 ·exact⟨_,cap,h1,h4,h5,fun e=>by cases e⟩
theorem Ow.at{W:World}{B:Nat}{a:Option Addr}{n cap:Nat}{l:List (Value×Row)}(h:Ow W B (.slice a n cap) l){k:Nat}(hk:k<l.length) :
  ∃ g,a=some ⟨g,0,none⟩/\g<W.heap.size/\W.cell? ⟨g,k,none⟩=some l[k].1/\OwnV W B l[k].1 l[k].2:=by
 rcases h with ⟨⟨h0,⟨h1,h2⟩ | ⟨g,cap',cur,h1,h2,h3,h4,h5,h6,h7⟩⟩,hr⟩
 ·omega
 ·simp only[Value.slice.injEq]at h1
  obtain⟨rfl,rfl,rfl⟩:=h1;refine⟨g,rfl,(Array.getElem?_eq_some_iff.1 h3).1,?_,(hr _ (jdA hk))⟩;have hj:(l.map Prod.fst)[k]?=some l[k].1:=by simp[hk]
  simp only[World.cell?,h3];rw[← h7]at hj;have aB:=(List.getElem?_eq_some_iff.1 hj).1;rw[jdC]at aB;rw[List.getElem?_take_of_lt (by omega)]at hj;simpa using hj
theorem Ow.sv{W:World}{B:Nat}{v:Value}{l:List (Value×Row)}(h:Ow W B v l):Sv W v (l.map Prod.fst):=by
 have:=Sv.of_own h.1;exact this
theorem Ow.rv{W:World}{B:Nat}{v:Value}{l:List (Value×Row)}(h:Ow W B v l):Rv W v (l.map Prod.snd):=by
 obtain⟨a,cap,rfl,h1,h2,h3⟩:=h.form;refine⟨a,cap,by rw[jdz],by rw[jdz];exact h1,h2,h3,fun h0=>?_⟩;rw[jdz]at h0;obtain⟨g,e,h4,_⟩:=h.at h0;refine⟨g,0,e,h4,fun j hj=>?_⟩;rw[jdz]at hj;obtain⟨g',e',h5,h6,h7⟩:=h.at hj;obtain rfl:g=g':=by rw[e]at e';cases e';rfl
 refine⟨_,by rw[jdZ];exact h6,?_⟩;have:=h7.sv;simpa using this
theorem uR{W:World}{g:Nat}{z:Value}(hc:W.cell? ⟨g,0,none⟩=some z)(hg:g<W.heap.size):Sv W (.slice (some ⟨g,0,none⟩) 1 1) [z] :=
 ⟨_,1,rfl,jdw _,by unfold maxLen;omega,fun e=>(by cases e),fun _=>⟨g,0,rfl,hg,fun j x hx=>by
  cases j with
  | zero =>
   simp only[List.getElem?_cons_zero,Option.some.injEq]at hx;rw[← hx];exact hc
  | succ j=>simp at hx⟩⟩
theorem Bz{w:World}(ty:TypeId)(base:Nat)(v vx:Value)(l0 l:List (Value×Row))(aA:Ow w base v l0)(fG:Sv w vx (l.map Prod.fst))(hr:∀ x∈l,OwnV w base x.1 x.2)(hbytes:l0.length+l.length<=1000000)(aJ:base<=w.heap.size) :
  ∃ v' w',(Builtin.append_ #[34,34] ty #[v,vx]).run Tryz.prog w=.ok v' w'/\Ow w' base v' (l0++l)/\Below base w w':=by
 obtain⟨i0,hi,ct,hz1',bv⟩:=jdP Lt;obtain⟨ad,cap,rfl,h1,h2,h3,h4⟩:=fG;rw[jdz]at *
 have one:∀ x∈l.map Prod.fst,x.oneCell'=true:=fun x hx=>by
  obtain⟨y,hy,rfl⟩:=jdR.1 hx;obtain⟨a,n,c,e⟩:=eP (hr y hy);rw[e];rfl
 cases ad with
 | none =>
  have hc:=h3 rfl;subst hc;have hl:l=[]:=jdV (by omega);subst hl;have hr:=je9 (P:=Tryz.prog) (w:=w) base 34 ty 79 i0 1 Tryz.underlying34 hi v l0.length (l0.map Prod.fst) aA.1;refine⟨v,w,hr,by rw[jdT];exact aA,jdv _ _⟩
 | some ad =>
  obtain⟨v',w',FH,o1,g1,_,e1⟩:=run_append_own_at (P:=Tryz.prog) w base 34 ty 79 i0 (.slice none 0 0) 1 24 Tryz.underlying34 hi ct hz1' bv rfl (by decide) v l0.length (l0.map Prod.fst) aA.1 ad l.length cap (l.map Prod.fst) (by rw[jdz];omega)
   (fun j u hu=>by
    have hj:j<l.length:=by
     have:=(List.getElem?_eq_some_iff.1 hu).1;rwa[jdz]at this
    obtain⟨b,off,h5,_,h6⟩:=h4 (by omega);cases h5
    rw[nh];exact h6 j u hu) one (by unfold maxLen;omega) (by omega) aJ
  have keep:∀ y:Value×Row,OwnV w base y.1 y.2->OwnV w' base y.1 y.2:=fun y hy =>
   cm hy fun k hk=>g1.block k (aN hy hk).2.1 (fun e=>fR hy aA.1 (by decide) hk e.symm)
  refine⟨v',w',FH,⟨?_,fun y hy=>?_⟩,(jdv base w).grown g1 aJ (fun k hk=>(aA.1.lt k hk).1)⟩
  ·rw[jdy,jdQ]
   exact o1
  ·rcases jd2.1 hy with hy | hy
   ·exact keep y (aA.2 y hy)
   ·exact keep y (hr y hy)
theorem EQ{w:World}{o:Oper}{a:Act}{K:Act->World->Prop}{Q:Exit->Act->World->Prop}(s x:Operand)
  (ho:o.op=.call { callee:=.builtin .append,args:=#[s,x],argTypes:=#[34,34] })
  (base:Nat) (v vx:Value) (l0 l:List (Value×Row)) (hs:a.eval s=v) (aA:Ow w base v l0) (hx:a.eval x=vx) (fG:Sv w vx (l.map Prod.fst)) (hr:∀ x∈l,OwnV w base x.1 x.2) (hbytes:l0.length+l.length<=1000000) (aJ:base<=w.heap.size)
  (h:∀ v' w',Ow w' base v' (l0++l)->Below base w w'->K (a.put o.dst v') w'):Oper.wp Tryz.prog o a w K Q:=by
 obtain⟨v',w',hr,h2,h3⟩:=Bz o.type base v vx l0 l aA fG hr hbytes aJ;unfold Oper.wp execOp;simp only[ho,resolve,invoke,builtin,Sem.run_bind,Sem.run_pure,Result.andThen_ok,jeJ,jd5,jes,hs,hx,hr];exact h v' w' h2 h3
theorem gL{w:World}{ops:Array Oper}{rest:List Oper}{o:Oper}{a:Act}{Q:Exit->Act->World->Prop}(ex:o.guard=none)(s x:Operand)
  (ho:o.op=.call { callee:=.builtin .append,args:=#[s,x],argTypes:=#[34,34] })
  (base:Nat) (v vx:Value) (l0 l:List (Value×Row)) (hs:a.eval s=v) (aA:Ow w base v l0) (hx:a.eval x=vx) (fG:Sv w vx (l.map Prod.fst)) (hr:∀ x∈l,OwnV w base x.1 x.2) (hbytes:l0.length+l.length<=1000000) (aJ:base<=w.heap.size)
  (h:∀ v' w',Ow w' base v' (l0++l)->Below base w w'->wpList Tryz.prog ops Q rest (a.put o.dst v') w') :
  wpList Tryz.prog ops Q (o::rest) a w :=
 wpList_plain ex fun K hK=>EQ s x ho base v vx l0 l hs aA hx fG hr hbytes aJ fun v' w' h1 h2=>hK _ _ (h v' w' h1 h2)
theorem Lu{fs:List Fd}{g tot:Nat}{s:S3}:∀ j:Nat,(fiJ fs g tot s j).2.1.length<=s.1.length
 | 0=>jdw _
 | j+1=>jdF (EO (jdw _)).2.2.1 (Lu j)
theorem JE{fs:List Fd}{g tot:Nat}{s:S3}{m j:Nat}(h:j<=m)(hf:(fiJ fs g tot s j).2.2.2=true):(fiJ fs g tot s m).2.2.2=true:=by
 cases e:(fiJ fs g tot s m).2.2.2 with
 | true=>rfl
 | false =>
  rw[qb h e]at hf;cases hf
theorem ER{fs:List Fd}{g tot:Nat}{s:S3}:∀ j:Nat,(fiJ fs g tot s j).1.length=j
 | 0=>rfl
 | j+1=>by
  show (_++[_]).length=_
  rw[jdy,ER j];rfl
def mO(W:World)(B fp id:Nat)(fv gv:Value)(xs:List Value)(gs:List Gr):Prop :=
 W.heap[fp]?=some (.cells #[.int .u32 (id:Int),fv,gv] 105 (0,0))/\B<=fp/\W.ownsRow B 109 2 gv gs.length xs /\
  ∀ j (h:j<gs.length),∃ a b,xs[2*j]?=some a/\xs[2*j+1]?=some b/\Gro W B (.agg #[a,b]) gs[j].1 gs[j].2
theorem mO.fil{W:World}{B fp id:Nat}{fv gv:Value}{xs:List Value}{gs:List Gr}(h:mO W B fp id fv gv xs gs):Fil W B fp id fv gs:=⟨gv,xs,h⟩
theorem mO.turn{W W':World}{B fp id:Nat}{fv gv:Value}{xs:List Value}{gs:List Gr}(h:mO W B fp id fv gv xs gs)(hb:∀ k,B<=k->k<W.heap.size->W'.heap[k]?=W.heap[k]?):mO W' B fp id fv gv xs gs:=by
 obtain⟨h1,h2,h3,h4⟩:=h;refine⟨(hb fp h2 (Array.getElem?_eq_some_iff.1 h1).1).trans h1,h2,cm h3 fun k hk=>?_,fun j hj=>?_⟩
 ·obtain⟨a,b,_⟩:=aN h3 hk
  exact hb k a b
 ·obtain⟨a,b,e1,e2,e3⟩:=h4 j hj
  exact⟨a,b,e1,e2,e3.turn fun k _ _ k1 k2 _ _ _=>hb k k1 k2⟩
theorem mO.kept{W W':World}{B fp id:Nat}{fv gv:Value}{xs:List Value}{gs:List Gr}(h:mO W B fp id fv gv xs gs)(hb:Below W.heap.size W W'):mO W' B fp id fv gv xs gs:=h.turn fun k _ hk=>hb.block k hk
theorem mO.frp{W W':World}{B fp id p:Nat}{fv gv:Value}{xs:List Value}{gs:List Gr}(h:mO W B fp id fv gv xs gs)(hf:Fr p W.heap.size W W')(hp:p<B):mO W' B fp id fv gv xs gs:=h.turn fun k hB hk=>hf.block k hk (by omega)
theorem mO.lt{W:World}{B fp id:Nat}{fv gv:Value}{xs:List Value}{gs:List Gr}(h:mO W B fp id fv gv xs gs):fp<W.heap.size:=(Array.getElem?_eq_some_iff.1 h.1).1
theorem mO.cell{W:World}{B fp id:Nat}{fv gv:Value}{xs:List Value}{gs:List Gr}(h:mO W B fp id fv gv xs gs):W.cell? ⟨fp,2,none⟩=some gv:=by
 rw[ay h.1];rfl
theorem Fil.low{W:World}{B B' fp id:Nat}{fv:Value}{gs:List Gr}(h:Fil W B fp id fv gs)(hB:B'<=B):Fil W B' fp id fv gs:=by
 obtain⟨gv,xs,h1,h2,h3,h4⟩:=h;refine⟨gv,xs,h1,jdF hB h2,⟨h3.1,h3.2.imp (fun x=>x) fun⟨g,cap,cur,hv,hb,r⟩=>⟨g,cap,cur,hv,jdF hB hb,r⟩⟩,fun j hj=>?_⟩;obtain⟨a,b,e1,e2,e3⟩:=h4 j hj;exact⟨a,b,e1,e2,e3.low hB⟩
theorem JF{w:World}{p:Nat}{c f:List Nat}(h:R3 w p c f false){fv:Value}{fs:List Fd}(hs:Sf w fv fs)(hw:∀ i,fv.ownBlock=some i->i<p)(hk:∀ x∈fs,1<=x.2.2.1/\x.2.2.1<=3)(id:Nat)(kj:fs.length<=8)(eQ:c.length<=100000000) :
  Calls Tryz.prog 97 #[.pointer (some ⟨p,0,none⟩),.agg #[.int .u32 (id:Int),fv]] w fun r w'=>∃ fp,r=.returned (.tuple #[.pointer (some ⟨fp,0,none⟩),.int .i64 (gi 1 64 (dI f):Int)])/\(∃ c' f',R3 w' p c' f' (ie fs c f).2.2.2)/\((ie fs c f).2.2.2=false->Fil w' w.heap.size fp id fv (ie fs c f).1)/\Fr p w.heap.size w w':=by
 have aB:=h.lt;have Ah:=ae (fun(U:World) (hU:R3 U p c f false)=>qh hU 0 256 (by omega) (by omega));have nB:=ae (fun(U:World) (fl:Bool) (hU:R3 U p c (dI f) fl)=>qh hU 1 64 (by omega) (by omega));have Cv:=rq 0 256 f;have hv2:=rq 1 64 (dI f);have Zu:=ae (fun h=>Lp (lo:=1) (hi:=64) (b:=dI f) h);have HE:jfp (ie fs c f=fiJ fs (gi 1 64 (dI f)) (gi 0 256 f) (c,dI (dI f),mf 0 256 f || mf 1 64 (dI f)) (nps (gi 1 64 (dI f)) (gi 0 256 f))):=ae rfl;rw[HE.o];clear HE;generalize gi 0 256 f=tot at *;generalize gi 1 64 (dI f)=g at *;obtain⟨bd1,hbd1⟩:∃ b,mf 0 256 f=b:=⟨_,rfl⟩;obtain⟨bd2,hbd2⟩:∃ b,mf 1 64 (dI f)=b:=⟨_,rfl⟩;simp only[hbd1,hbd2,Bool.false_or]at Ah nB Zu ⊢;clear hbd1 hbd2;have HJL:=ae (fun j=>Lu (fs:=fs) (g:=g) (tot:=tot) (s:=(c,dI (dI f),bd1 || bd2)) j);have Yw:=ae (fun j=>ER (fs:=fs) (g:=g) (tot:=tot) (s:=(c,dI (dI f),bd1 || bd2)) j);have HJS:=ae (fun m j (hj:j<=m)=>JE (fs:=fs) (g:=g) (tot:=tot) (s:=(c,dI (dI f),bd1 || bd2)) hj);have HJ0:jfp (fiJ fs g tot (c,dI (dI f),bd1 || bd2) 0=([],(c,dI (dI f),bd1 || bd2))):=ae rfl;have HJN:jfp (∀ j,fiJ fs g tot (c,dI (dI f),bd1 || bd2) (j+1)=((fiJ fs g tot (c,dI (dI f),bd1 || bd2) j).1++[((grK fs (min (tot-j*g) g) (fiJ fs g tot (c,dI (dI f),bd1 || bd2) j).2 fs.length).1,(grK fs (min (tot-j*g) g) (fiJ fs g tot (c,dI (dI f),bd1 || bd2) j).2 fs.length).2.1)],(grK fs (min (tot-j*g) g) (fiJ fs g tot (c,dI (dI f),bd1 || bd2) j).2 fs.length).2.2)):=ae (fun j=>rfl);obtain⟨J,hJ⟩:∃ J,fiJ fs g tot (c,dI (dI f),bd1 || bd2)=J:=⟨_,rfl⟩;rw[hJ]at HJL Yw HJS HJ0 HJN ⊢;clear hJ;have Wc:=ae (fun(hg:0<g) (j:Nat)=>kH (n:=tot) (j:=j) hg);generalize nps g tot=N at *;obtain⟨a,cap,rfl,aW,bw⟩:=hs.form;have aH:=am w (.cells #[.int .u32 (id:Int),.slice a fs.length cap] 25);obtain⟨x0,x1⟩:=bx w (.int .u32 (id:Int)) (.slice a fs.length cap) 25;have aE:=am (w.alloc (.cells #[.int .u32 (id:Int),.slice a fs.length cap] 25)) (.cells #[.int .u32 (id:Int),.slice a fs.length cap,.slice none 0 0] 105);have hA0:w.heap.size<(w.alloc (.cells #[.int .u32 (id:Int),.slice a fs.length cap] 25)).heap.size:=by rw[jdx];omega
 have sA:((w.alloc (.cells #[.int .u32 (id:Int),.slice a fs.length cap] 25)).alloc (.cells #[.int .u32 (id:Int),.slice a fs.length cap,.slice none 0 0] 105)).heap.size=w.heap.size+2:=by rw[jdx,jdx]
 have x2:((w.alloc (.cells #[.int .u32 (id:Int),.slice a fs.length cap] 25)).alloc (.cells #[.int .u32 (id:Int),.slice a fs.length cap,.slice none 0 0] 105)).heap[w.heap.size+1]?=some (.cells #[.int .u32 (id:Int),.slice a fs.length cap,.slice none 0 0] 105 (0,0)):=by
  have:=jdW (w.alloc (.cells #[.int .u32 (id:Int),.slice a fs.length cap] 25)) (.cells #[.int .u32 (id:Int),.slice a fs.length cap,.slice none 0 0] 105);rwa[jdx]at this
 have x3:=(aE.cell (p:=⟨w.heap.size,1,none⟩) hA0).trans x1;have x4:=(aE.cell (p:=⟨w.heap.size,0,none⟩) hA0).trans x0;have hAb:Below w.heap.size w ((w.alloc (.cells #[.int .u32 (id:Int),.slice a fs.length cap] 25)).alloc (.cells #[.int .u32 (id:Int),.slice a fs.length cap,.slice none 0 0] 105)):=ai aH aE;have HR:=ae (h.kept hAb aB);have HS:=ae (hs.keptW hw (hAb.mono (by omega)));have Zt:=ae hAb;have lF:=ae sA;have yy:=ae x2;have US:=ae x3;have HX4:=ae x4;have FX:=ae aB;clear h hs aH aE hAb sA x2 hA0 x3 x4;go_enter Tryz.func97,Tryz.ntmps97
 go_upto_region 2 with fail
 generalize (w.alloc (.cells #[.int .u32 (id:Int),.slice a fs.length cap] 25)).alloc (.cells #[.int .u32 (id:Int),.slice a fs.length cap,.slice none 0 0] 105)=A at *;go_wp2_with fail;refine(Ah.o _ HR.o).mono ?_;rintro e w1 ⟨rfl,Am,dv⟩;have sg:=ae Am;have gp:=ae dv;clear Am dv;go_wp2_with fail;refine(nB.o _ _ sg.o).mono ?_;rintro e w2 ⟨rfl,BT,dD⟩;have jb:=ae BT;have gM:=ae (gp.o.trans (dD.mono gp.o.size));clear BT dD;go_wp2_with fail;have We:=ae (gM.o.mono (show w.heap.size+1<=A.heap.size by have:=lF.o;omega));have HK:=ae hk
 have Wf:jfp (mO w2 (w.heap.size+1) (w.heap.size+1) id (.slice a fs.length cap) (.slice none 0 0) [] []):=ae
  ⟨(gM.o.block (w.heap.size+1) (by have:=lF.o;omega) (by omega)).trans yy.o,jdw _,jeo _ _ _ _,fun j hj=>by simp at hj⟩
 have tu:jfp (∀ j,(J j).2.2.2=false->1<=g):=ae (fun j hj=>by
  apply Zu.o
  cases bd2
  ·rfl
  ·have h0:(J 0).2.2.2=true:=by rw[HJ0.o];simp
   rw[HJS.o j 0 (jeh _) h0]at hj;cases hj)
 clear hk;go_loopw [7] (fun i wr=>∃(j:Nat) (gv:Value) (xs:List Value),i=.int .i64 ((tot-j*g:Nat):Int)/\j<=N/\mO wr (w.heap.size+1) (w.heap.size+1) id (.slice a fs.length cap) gv xs (J j).1/\R3 wr p (J j).2.1 (J j).2.2.1 (J j).2.2.2/\Fr p (w.heap.size+1) A wr) (fun i _=>(intOf i).toNat)
 case atStart =>
  refine⟨0,.slice none 0 0,[],by simp,jeh _,?_,?_,We.o⟩
  ·rw[HJ0.o];exact Wf.o
  ·rw[HJ0.o];exact jb.o
 case round =>
  obtain⟨j,gv,xs,rfl,hjN,hx,hr,hf⟩:=hrel;have HX:=ae hx;have HR:=ae hr;have HF:=ae hf;obtain⟨_,_,_,_,⟨_,_,r2⟩,⟨_,_,r3⟩,_,_⟩:=hr.cells;have mU:tot-j*g<=256:=by omega
  generalize hlf:tot-j*g=left at *;have HLF:=ae hlf;clear hlf;by_cases hp:0<left
  ·have hp':(left:Int) > 0:=by omega
   cases rU:(J j).2.2.2
   ·rw[rU]at r2
    have eS:1<=g:=tu.o j rU;obtain⟨m,hm⟩:∃ m,min left g=m:=⟨_,rfl⟩;have Qi:min (left:Int) (g:Int)=(m:Int):=(by omega);have Kx:1<=m/\m<=64:=(by omega);have hml:m<=left:=(by omega);have hJN:=HJN.o j;have hJl:=HJL.o j;have hJ1:=Yw.o j;have hLF:=HLF.o;rw[hLF,hm]at hJN;obtain⟨⟨gs0,c0,f0,fl0⟩,hJj⟩:∃ x,J j=x:=⟨_,rfl⟩;rw[hJj]at hJN hJl hJ1 hx hr rU;simp only at hJN hJl hJ1 hx hr rU;subst rU;obtain⟨KK,hKK⟩:∃ KK,grK fs m (c0,f0,false) fs.length=KK:=⟨_,rfl⟩;rw[hKK]at hJN;have HJS1:=ae hJN;have HX:=ae hx;have HR:=ae hr;have Ak:∀ U,Below wr.heap.size wr U->Sf U (.slice a fs.length cap) fs:=fun U hU=>(HS.o.keptW hw (HF.o.below (jdw p) (by omega))).kept hU
    have hBA:w.heap.size+1<=A.heap.size:=by have:=lF.o;omega
    have hBr:w.heap.size+1<wr.heap.size:=hx.lt
    have HGC:jfp (∀ U:World,Below wr.heap.size wr U->Calls Tryz.prog 142 #[.pointer (some ⟨p,0,none⟩),.agg #[.int .u32 (id:Int),.slice a fs.length cap],.int .i64 (m:Int)] U fun e w'=>∃ z1 z2,e=.returned (.agg #[z1,z2])/\(z1.oneCell'=true/\z2.oneCell'=true)/\Gro w' (w.heap.size+1) (.agg #[z1,z2]) KK.1 KK.2.1 /\
      R3 w' p KK.2.2.1 KK.2.2.2.1 KK.2.2.2.2/\mO w' (w.heap.size+1) (w.heap.size+1) id (.slice a fs.length cap) gv xs gs0/\Fr p (w.heap.size+1) A w'/\w'.cell? ⟨w.heap.size+1,2,none⟩=some gv/\(∀ o,(w'.alloc o).cell? ⟨w.heap.size+1,2,none⟩=some gv)/\w.heap.size+1<=w'.heap.size):=ae (fun U hU=>by
     have hzU:=hU.size;refine(EP (HR.o.kept hU HR.o.lt) (Ak U hU) hw HK.o id m Kx kj (jdF hJl eQ)).mono ?_;rintro e w' ⟨⟨v,rfl,Qh⟩,hr',hf'⟩;rw[hKK]at Qh hr';obtain⟨z1,z2,rfl,cP,bv⟩:=Qh.parts;have hx':=(HX.o.kept hU).frp hf' (by omega);exact⟨z1,z2,rfl,⟨cP,bv⟩,Qh.low (by omega),hr',hx',(HF.o.then (hU.mono (by omega))).trans (hf'.mono (by omega)),hx'.cell,fun o=>((am _ o).cell hx'.lt).trans hx'.cell,by have:=hx'.lt;omega⟩)
    have hgv:∃ ga gn gc,gv=.slice ga gn gc:=eP hx.2.2.1;obtain⟨ga,gn,gc,rfl⟩:=hgv;have jT:=hx.cell;have kL:wr.frozen? ⟨w.heap.size+1,2,none⟩=false:=by simp[World.frozen?,hx.1]
    have Qw:wr.cell? ⟨w.heap.size,0,none⟩=some (.int .u32 (id:Int)):=(World.cell?_of_block (a:=⟨w.heap.size,0,none⟩) (HF.o.block w.heap.size (by omega) (by omega))).trans HX4.o;have hc4:wr.cell? ⟨w.heap.size,1,none⟩=some (.slice a fs.length cap):=(World.cell?_of_block (a:=⟨w.heap.size,1,none⟩) (HF.o.block w.heap.size (by omega) (by omega))).trans US.o
    have Yx:gs0.length<=100000:=by
     have h1:j<=j*g:=Nat.le_mul_of_pos_right j (by omega);omega
    have lE:jfp (tot-(j+1)*g=left-m/\j+1<=N):=ae (by
     rw[jd9];refine⟨by omega,?_⟩;exact(Wc.o (by omega) j).2 (by omega))
    clear hx hr hf hm hJN hJl hJ1 hLF hJj hKK Ak HX HF HR;go_upto_region 6 with fail
    try rw[Qi]
    refine wp_region_noPanic ?_
    go_region_law (first
     | (refine yo (by rfl) _ _ (by rfl) (w.heap.size+1) _ _ z1 z2 gs0.length xs (by rfl) ?_ (by rfl) ?_ cP bv Yx ?_ ?_;exact bL Qz.o.2.2.1 (am _ _);exact jdW _ _;(rw[jdx];omega);intro v6 w6 o6 g6 e6;have hx6:=Qz.o.kept (am w5 (.cells #[z1,z2] 109));obtain⟨⟨gv7,xs7,ZJ⟩,ey,hc6,hc7⟩:=Fil.add (g:=(KK.1,KK.2.1)) hx6.1 hx6.2.1 hx6.2.2.1 hx6.2.2.2 (PW.o.turn (fun k _ _ _ k2 _ _ _=>(am w5 (.cells #[z1,z2] 109)).block k k2)) o6 g6 e6;obtain⟨va7,vn7,vc7,rfl⟩:=eP o6;have FP:jfp (mO _ (w.heap.size+1) (w.heap.size+1) id (.slice a fs.length cap) gv7 xs7 (gs0++[(KK.1,KK.2.1)])):=ae ZJ;have Gd:=ae ((tv.o.kept (am _ _) tv.o.lt).kept ey (by omega));have QG:=ae ((BU.o.then ((am _ _).mono uF)).trans (Fr.of_below ey));clear o6 g6 e6 ZJ ey hx6)
     | (go_simp;go_at_call 142;refine(HGC.o _ ?_).mono ?_;exact ap (jdv wr.heap.size wr) _;rintro e w5 ⟨z1,z2,rfl,⟨cP,bv⟩,ZI,QE,hx5,jV,hc5,ha5,uF⟩;have PW:=ae ZI;have tv:=ae QE;have Qz:=ae hx5;have BU:=ae jV;clear ZI QE hx5 jV;dsimp only)
     | fail)
    all_goals refine NoPanic.normal ?_
    all_goals
     go_wp2_with fail;go_roundw
     case rel =>
      refine⟨j+1,gv7,xs7,?_,lE.o.2,?_,?_,QG.o⟩
      ·rw[lE.o.1]
       congr 1
       omega
      ·rw[HJS1.o];exact FP.o
      ·rw[HJS1.o];exact Gd.o
     case measure=>simp[intOf];omega
   ·rw[rU]at r2
    have HD:jfp ((J N).2.2.2=true):=ae (HJS.o N j hjN rU);have pI:=ae (show R3 wr p (J j).2.1 (J j).2.2.1 true from rU ▸ hr);have Qt:=ae ((Fr.of_below Zt.o).trans (hf.mono (Nat.le_succ _)));clear hx hr hf rU;go_wp2_with fail;go_ret2
    rw[HD.o];exact⟨w.heap.size+1,rfl,⟨_,_,pI.o⟩,(fun h=>by cases h),Qt.o⟩
  ·have hp':¬ (left:Int) > 0:=by omega
   have HD:jfp ((J N).2.2.2=(J j).2.2.2/\((J N).2.2.2=false->j=N)):=ae (by
    cases rU:(J j).2.2.2
    ·have eS:=tu.o j rU
     have e:j=N:=by
      have h1:=Wc.o (by omega) j;have h2:=HLF.o;rcases jdY j N with h3 | h3
      ·have:=h1.1 h3
       omega
      ·omega
     subst e;exact⟨rU,fun _=>rfl⟩
    ·have e:=HJS.o N j hjN rU
     exact⟨e,fun h=>by rw[e]at h;cases h⟩)
   have Qt:=ae ((Fr.of_below Zt.o).trans (hf.mono (Nat.le_succ _)));have pI:=ae hr;have HXF:=ae (hx.fil.low (Nat.le_succ _));clear hx hr hf r2 r3;go_wp2_with fail;go_ret2
   refine⟨w.heap.size+1,rfl,⟨_,_,by rw[HD.o.1];exact pI.o⟩,fun h=>?_,Qt.o⟩;have e:=HD.o.2 h;subst e;exact HXF.o
def Lv(fs:List Fd)(rs:List Row):Prop:=∀ r∈rs,r.length=fs.length/\∀ c∈r,aT c
theorem te{fs:List Fd}{n:Nat}{cols:List (List Cl)}(hw:Whl fs n cols)(hc:cols.length=fs.length):Lv fs (fP n cols):=by
 intro r hr;obtain⟨i,hi,rfl⟩:=jdR.1 hr;refine⟨by rw[jdz];exact hc,fun c bw=>?_⟩;obtain⟨l,hl,rfl⟩:=jdR.1 bw;obtain⟨k,hk,rfl⟩:=List.mem_iff_getElem.1 hl;obtain⟨h1,h2⟩:=hw k hk;have aB:i<cols[k].length:=by rw[h2];simpa using hi
 rw[List.getD_eq_getElem?_getD,List.getElem?_eq_getElem aB];exact(h1.2.2 _ (jdA aB)).fine
theorem Pd{fs:List Fd}{n:Nat}{s:S3}(hn:n<=64)(hk:∀ f∈fs,1<=f.2.2.1/\f.2.2.1<=3)(hb:Bs s.1)(h:(grK fs n s fs.length).2.2.2.2=false) :
  ∃ p,((grK fs n s fs.length).1,(grK fs n s fs.length).2.1)=grp fs p/\p.length=n/\Lv fs p/\Bs (grK fs n s fs.length).2.2.1:=by
 obtain⟨cols,h1,h2,h3,h4,h5⟩:=NB hn hk hb (jdw _) h;refine⟨fP n cols,?_,gH _ _,te h2 h1,h5⟩;unfold grp;rw[h3,h4];congr 1
 apply List.ext_getElem?
 intro i;rw[List.getElem?_map,List.getElem?_map];by_cases hi:i<fs.length
 ·rw[List.getElem?_range hi,List.getElem?_eq_getElem (by omega)]
  simp only[jeF];rw[DU (by omega) (h2 i (by omega)).2]
 ·rw[List.getElem?_eq_none (by omega),List.getElem?_eq_none (by simp;omega)]
  rfl
theorem zQ{fs:List Fd}{g tot:Nat}{s:S3}(hg:g<=64)(hk:∀ f∈fs,1<=f.2.2.1/\f.2.2.1<=3)(hb:Bs s.1):∀ j:Nat,(fiJ fs g tot s j).2.2.2=false ->
  ∃ L:List (List Row),(fiJ fs g tot s j).1=L.map (grp fs)/\L.length=j/\(∀ i (h:i<L.length),L[i].length=min (tot-i*g) g)/\(∀ p∈L,Lv fs p)/\Bs (fiJ fs g tot s j).2.1
 | 0,h=>⟨[],rfl,rfl,fun i h=>by simp at h,fun p hp=>by simp at hp,hb⟩
 | j+1,h=>by
  have h0:(fiJ fs g tot s j).2.2.2=false:=qb (Nat.le_succ j) h;obtain⟨L,h1,h2,h3,h4,h5⟩:=zQ hg hk hb j h0;obtain⟨p,e1,e2,e3,e4⟩:=Pd (n:=min (tot-j*g) g) (by omega) hk h5 h;refine⟨L++[p],?_,by simp[h2],?_,?_,e4⟩
  ·show (fiJ fs g tot s j).1++[_]=_
   rw[e1,h1,jdQ];rfl
  ·intro i hi
   rcases jdY i L.length with h6 | h6
   ·rw[jfl h6]
    exact h3 i h6
   ·obtain rfl:i=L.length:=by simp at hi;omega
    rw[List.getElem_append_right (jdw _)];simp only[jeW,je7];rw[e2,h2]
  ·intro q hq
   rcases jd2.1 hq with hq | hq
   ·exact h4 q hq
   ·rw[jef.1 hq]
    exact e3
theorem qi{g tot:Nat}{L:List (List Row)}(h:∀ i (h:i<L.length),L[i].length=min (tot-i*g) g):∀ j,j<=L.length->j*g<=tot->(L.take j).flatten.length=j*g
 | 0,_,_=>by simp
 | j+1,hj,hg=>by
  rw[jdM (by omega),je8,jdy,qi h j (by omega) (by rw[jd9]at hg;omega)];simp only[jeR,List.flatten_nil,jdT];rw[h j (by omega),jd9];rw[jd9]at hg;omega
theorem TV{g tot:Nat}(hg:0<g){L:List (List Row)}(h:∀ i (h:i<L.length),L[i].length=min (tot-i*g) g)(hL:L.length=nps g tot){j:Nat}(hj:j<L.length):prt g L.flatten j=L[j]:=by
 have aB:j*g<tot:=(kH hg).1 (by omega)
 have e:L.flatten=(L.take j).flatten++(L[j]++(L.drop (j+1)).flatten):=by
  conv=>lhs;rw[← jeP j L,je8,jec hj,jeR]
 have hf:=qi h j (by omega) (by omega);unfold prt;rw[e,← hf,jed];have hl:=h j hj;by_cases hc:(j+1)*g<tot
 ·have:L[j].length=g:=by rw[hl];rw[jd9]at hc;omega
  rw[← this,jet]
 ·have hn:¬ j+1<nps g tot:=fun h2=>hc ((kH hg).1 h2)
  have:L.drop (j+1)=[]:=jfa (by omega);rw[this,List.flatten_nil,jdT];exact jee (by omega)
theorem JG{g tot:Nat}(hg:0<g){L:List (List Row)}(h:∀ i (h:i<L.length),L[i].length=min (tot-i*g) g)(hL:L.length=nps g tot):L.flatten.length=tot:=by
 rcases jel L.length with h0 | h0
 ·have:L=[]:=jdV h0
  subst this;have:¬ 0<nps g tot:=by rw[← hL];simp
  rw[kH hg]at this;simp
  omega
 ·have hj:L.length-1<L.length:=by omega
  have aB:(L.length-1)*g<tot:=(kH hg).1 (by omega);have hf:=qi h (L.length-1) (by omega) (by omega);have hn:¬ L.length<nps g tot:=by omega
  rw[kH hg]at hn
  have e:L.flatten=(L.take (L.length-1)).flatten++(L[L.length-1]++(L.drop (L.length-1+1)).flatten):=by
   conv=>lhs;rw[← jeP (L.length-1) L,je8,jec hj,jeR]
  have hd:L.drop (L.length-1+1)=[]:=jfa (by omega);rw[e,jdy,hf,hd,List.flatten_nil,jdT,h _ hj]
  have:L.length*g=(L.length-1)*g+g:=by
   conv=>lhs;rw[show L.length=L.length-1+1 by omega,jd9,jeB]
  omega
theorem es{α β : Type}{d:List Nat->Except Nat (α×List Nat)}{f:α->List Nat->Except Nat (β×List Nat)}{b r:List Nat}{y:β}(h:aC d f b=.ok (y,r)):∃ x s,d b=.ok (x,s)/\f x s=.ok (y,r):=by
 cases hd:d b with
 | error e=>rw[cE hd]at h;cases h
 | ok q =>
  obtain⟨x,s⟩:=q;rw[cZ hd]at h;exact⟨x,s,rfl,h⟩
theorem xl{room n:Nat}{b r:List Nat}(h:ir room b=.ok (n,r)):n<=room:=by
 unfold ir at h;split at h
 ·cases h
 ·split at h
  ·cases h
  ·next h1 =>
   simp only[Except.ok.injEq,Prod.mk.injEq]at h;omega
theorem TW{b r:List Nat}{f:Fd}(h:uo b=.ok (f,r)):Okf f:=by
 unfold uo at h;obtain⟨i,s1,e1,h⟩:=es h;obtain⟨t,s2,e2,h⟩:=es h;obtain⟨k,s3,e3,h⟩:=es h;obtain⟨n,s4,e4,h⟩:=es h;simp only[Except.ok.injEq,Prod.mk.injEq]at h;obtain⟨rfl,_⟩:=h;have h1:=xl e1;have h3:=xl e3;exact⟨by show i<_;omega,by show k<_;omega⟩
theorem zR:∀{n:Nat} {b r:List Nat} {l:List Fd},kU n b=.ok (l,r)->∀ f∈l,Okf f
 | 0,b,r,l,h=>by
  simp only[kU,Except.ok.injEq,Prod.mk.injEq]at h;obtain⟨rfl,_⟩:=h;intro f hf;simp at hf
 | n+1,b,r,l,h=>by
  unfold kU at h;obtain⟨l1,s1,e1,h⟩:=es h;obtain⟨f1,s2,e2,h⟩:=es h;simp only[Except.ok.injEq,Prod.mk.injEq]at h;obtain⟨rfl,_⟩:=h;intro f hf;rcases jd2.1 hf with hf | hf
  ·exact zR e1 f hf
  ·rw[jef.1 hf]
   exact TW e2
theorem ub{b r:List Nat}{id:Nat}{fs:List Fd}(h:db b=.ok ((id,fs),r)):chk id fs=0/\id<4294967296/\∀ f∈fs,Okf f:=by
 unfold db at h;obtain⟨q,s1,e1,h⟩:=es h;unfold CL at e1;obtain⟨i,s2,e2,e1⟩:=es e1;obtain⟨n,s3,e3,e1⟩:=es e1;obtain⟨l,s4,e4,e1⟩:=es e1;simp only[Except.ok.injEq,Prod.mk.injEq]at e1;obtain⟨rfl,rfl⟩:=e1;have h2:=xl e2;by_cases hc:chk i l=0
 ·rw[jdu hc]at h
  simp only[Except.ok.injEq,Prod.mk.injEq]at h;obtain⟨⟨rfl,rfl⟩,_⟩:=h;exact⟨hc,by omega,zR e4⟩
 ·rw[jdt hc]at h
  cases h
theorem ES{b:List Nat}(hb:Bs b){id g:Nat}{fs:List Fd}{gs:List Gr}(h:jr b=some (id,fs,g,gs)) :
  chk id fs=0/\id<4294967296/\(∀ f∈fs,Okf f)/\1<=g/\g<=64/\(cp gs).length<=256/\Lv fs (cp gs)/\gs=(List.range (nps g (cp gs).length)).map fun i=>grp fs (prt g (cp gs) i):=by
 unfold jr at h;split at h
 ·cases h
 ·split at h
  ·cases h
  ·split at h
   ·cases h
   ·next id' fs' r hu =>
    split at h
    ·cases h
    ·next hn =>
     simp only[Option.some.injEq,Prod.mk.injEq]at h;obtain⟨rfl,rfl,hg,rfl⟩:=h;obtain⟨hc,hi,ho⟩:=ub hu;have hk:=ig hc;have kj:=Bool.eq_false_iff.2 hn;have hs:=kj;unfold ie at hs;have kJ:=qb (jeh _) hs;simp only[fiJ,Bool.or_eq_false_iff]at kJ;have eS:=Lp kJ.2;have ik:=rq 1 64 (dI r);obtain⟨L,h1,h2,h3,h4,h5⟩:=zQ ik hk (hb.take _) _ hs;have ht:=JG (by omega) h3 h2
     have cX:cp (ie fs' (b.take (b.length-4-leN (b.drop (b.length-4)))) r).1=L.flatten:=by
      unfold ie cp;rw[h1,jd8];congr 1
      exact List.map_id'' (fun _=>rfl) _
     rw[cX,← hg];have Kh:=rq 0 256 r;refine⟨hc,hi,ho,eS,ik,by omega,?_,?_⟩
     ·intro x hx
      obtain⟨p,hp,hxp⟩:=List.mem_flatten.1 hx;exact h4 p hp x hxp
     ·unfold ie
      rw[h1,ht];apply List.ext_getElem?
      intro i;rw[List.getElem?_map,List.getElem?_map];by_cases Qr:i<L.length
      ·rw[List.getElem?_eq_getElem Qr,List.getElem?_range (by omega)]
       simp only[jeF];rw[TV (by omega) h3 h2 Qr]
      ·rw[List.getElem?_eq_none (by omega),List.getElem?_eq_none (by simp;omega)]
       rfl
end Go.Proofs.YtpljdjmpamjkhaaGreatDoor
