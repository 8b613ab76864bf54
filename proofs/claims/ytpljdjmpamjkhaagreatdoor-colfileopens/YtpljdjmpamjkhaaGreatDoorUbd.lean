import Derived.Test.YtpljdjmpamjkhaaGreatDoorUbc
set_option linter.unusedVariables false
set_option linter.unusedSimpArgs false
set_option maxRecDepth 100000
set_option maxHeartbeats 4000000
namespace Go.Proofs.YtpljdjmpamjkhaaGreatDoor
open Go.RowKit Go.Lib
theorem iZ{w:World}{ops:Array Oper}{o:Oper}{a:Act}{K:Act->World->Prop}{Q:Exit->Act->World->Prop}{E:Prop}(eg:o.guard=none)(s x:Operand)(t:TypeId)
  (ho:o.op=.call { callee:=.builtin .append,args:=#[s,x],argTypes:=#[t,t] })
  (base:Nat) (e:TypeId) (i:TypeInfo) (z:Value) (size bytes:Nat) (ht:Tryz.prog.underlying t=some (.slice e)) (hi:Tryz.prog.info? e=some i) (hz:i.zero=some z)
  (Aj:i.size=size) (FK:i.bytes=bytes) (hzs:z.cells.size=size) (jx:0<size)
  (v:Value) (n:Nat) (xs:List Value) (hs:a.eval s=v) (aA:w.ownsRow base e size v n xs)
  (ad:Addr) (m c:Nat) (news:List Value) (hx:a.eval x=.slice (some ad) m c) (hl:news.length=m*size) (hnews:∀ j u,news[j]?=some u->w.cell? (ad.add j)=some u) (h1:∀ u∈news,u.oneCell'=true)
  (h63:n+m<=maxLen) (hbytes:(n+m)*bytes<=140737488355328) (aI:base<=w.heap.size)
  (h:∀ v' w',w'.ownsRow base e size v' (n+m) (xs++news)->w.grownBy w' v.ownBlock->(v'.ownBlock=v.ownBlock∨v'.ownBlock=some w.heap.size)->K (a.put o.dst v') w') :
  if Region.wanted o (yielded ops a.tmps)=true then Oper.wp Tryz.prog o a w K Q else E:=by
 have hw:Region.wanted o (yielded ops a.tmps)=true:=by simp[Region.wanted,eg]
 rw[jdf hw];obtain⟨v',w',hr,o1,g1,_,e1⟩:=run_append_own_at (P:=Tryz.prog) w base t o.type e i z size bytes ht hi hz Aj FK hzs jx v n xs aA ad m c news hl hnews h1 h63 hbytes aI;unfold Oper.wp execOp;simp only[ho,resolve,invoke,builtin,Sem.run_bind,Sem.run_pure,Result.andThen_ok,jes,jdQ,jed,hs,hx,hr];exact h v' w' o1 g1 e1
theorem bY{W W':World}{B:Nat}{e:TypeId}{size n:Nat}{v:Value}{xs:List Value}(h:W.ownsRow B e size v n xs)(hb:∀ k,v.ownBlock=some k->W'.heap[k]?=W.heap[k]?):W'.ownsRow B e size v n xs:=by
 refine⟨h.1,?_⟩;rcases h.2 with hn | ⟨g,cap,cur,rfl,h1,h2,r⟩
 ·exact .inl hn
 ·exact .inr ⟨g,cap,cur,rfl,h1,(hb g rfl).trans h2,r⟩
theorem aM{W:World}{B:Nat}{e:TypeId}{size n:Nat}{v:Value}{xs:List Value}(h:W.ownsRow B e size v n xs){k:Nat}(hk:v.ownBlock=some k):B<=k/\k<W.heap.size/\∃ cur,W.heap[k]?=some (.cells cur e (0,0)):=by
 rcases h.2 with ⟨rfl,_⟩ | ⟨g,cap,cur,rfl,h1,h2,r⟩
 ·cases hk
 ·cases hk
  exact⟨h1,(Array.getElem?_eq_some_iff.1 h2).1,cur,h2⟩
theorem fM{W:World}{B B':Nat}{e e':TypeId}{size size' n n':Nat}{v v':Value}{xs xs':List Value}(h:W.ownsRow B e size v n xs)(h':W.ownsRow B' e' size' v' n' xs')(he:e≠e'){k:Nat}(hk:v.ownBlock=some k):v'.ownBlock≠some k:=by
 intro hk';obtain⟨_,_,c,h1⟩:=aM h hk;obtain⟨_,_,c',h2⟩:=aM h' hk';rw[h1]at h2;cases h2
 exact he rfl
structure Grm (W:World) (B q R n:Nat) (rvs:List Value) (rows:List Row) (vs:Value) (sts:List Stt):Prop where
 box:W.heap[q]?=some (.cells #[.slice (some ⟨R,0,none⟩) n n,vs] 109 (0,0))
 hq:B<=q
 row:W.ownsRow B 79 1 (.slice (some ⟨R,0,none⟩) n n) n rvs
 len:rows.length=n
 own:∀ i (h:i<rows.length),∃ rv,rvs[i]?=some rv/\OwnV W B rv rows[i]
 apart:∀(i j:Nat) (ri rj:Value) (b:Nat),i≠j->rvs[i]?=some ri->rvs[j]?=some rj->ri.ownBlock=some b->rj.ownBlock≠some b
 st:W.ownsRow B 54 10 vs sts.length (sts.flatMap celS)
section
variable {W W':World} {B q R n:Nat} {rvs:List Value} {rows:List Row} {vs:Value} {sts:List Stt}
theorem Grm.lt(h:Grm W B q R n rvs rows vs sts):q<W.heap.size:=(Array.getElem?_eq_some_iff.1 h.box).1
theorem Grm.turn(h:Grm W B q R n rvs rows vs sts)(hb:∀ k,B<=k->k<W.heap.size->W'.heap[k]?=W.heap[k]?):Grm W' B q R n rvs rows vs sts:=by
 refine⟨(hb q h.hq h.lt).trans h.box,h.hq,bY h.row fun k hk=>?_,h.len,fun i hi=>?_,h.apart,bY h.st fun k hk=>?_⟩
 ·obtain⟨a,b,_⟩:=aM h.row hk
  exact hb k a b
 ·obtain⟨rv,h1,h2⟩:=h.own i hi
  exact⟨rv,h1,bY h2 fun k hk=>by obtain⟨a,b,_⟩:=aM h2 hk;exact hb k a b⟩
 ·obtain⟨a,b,_⟩:=aM h.st hk
  exact hb k a b
theorem Grm.kept(h:Grm W B q R n rvs rows vs sts)(hb:Below W.heap.size W W'):Grm W' B q R n rvs rows vs sts:=h.turn fun k _ hk=>hb.block k hk
theorem Grm.frp(h:Grm W B q R n rvs rows vs sts){p:Nat}(hf:Fr p W.heap.size W W')(hp:p<B):Grm W' B q R n rvs rows vs sts:=h.turn fun k hB hk=>hf.block k hk (by omega)
theorem Grm.low(h:Grm W B q R n rvs rows vs sts){B':Nat}(hB:B'<=B):Grm W B' q R n rvs rows vs sts :=
 have lo:∀{e size n:Nat} {v:Value} {xs:List Value},W.ownsRow B e size v n xs->W.ownsRow B' e size v n xs:=fun{e size n v xs} h=>⟨h.1,h.2.imp id fun⟨g,cap,cur,hv,hb,r⟩=>⟨g,cap,cur,hv,jdq hB hb,r⟩⟩
 ⟨h.box,jdq hB h.hq,lo h.row,h.len,fun i hi=>by obtain⟨rv,h1,h2⟩:=h.own i hi;exact⟨rv,h1,lo h2⟩,h.apart,lo h.st⟩
theorem Grm.cells(h:Grm W B q R n rvs rows vs sts):W.cell? ⟨q,0,none⟩=some (.slice (some ⟨R,0,none⟩) n n)/\W.cell? ⟨q,1,none⟩=some vs/\W.frozen? ⟨q,0,none⟩=false/\W.frozen? ⟨q,1,none⟩=false :=
 ⟨by rw[ay h.box];rfl,by rw[ay h.box];rfl,by simp[World.frozen?,h.box],by simp[World.frozen?,h.box]⟩
theorem Grm.addStat(h:Grm W B q R n rvs rows vs sts){vs':Value}{s:Stt}(ho:W'.ownsRow B 54 10 vs' (sts.length+1) (sts.flatMap celS++celS s))(hg:W.grownBy W' vs.ownBlock)(he:vs'.ownBlock=vs.ownBlock∨vs'.ownBlock=some W.heap.size) :
  Grm (W'.setCell ⟨q,1,none⟩ vs') B q R n rvs rows vs' (sts++[s])/\Below B W (W'.setCell ⟨q,1,none⟩ vs')/\(W'.cell? ⟨q,1,none⟩=some vs/\W'.frozen? ⟨q,1,none⟩=false) /\
   ∀(v:Value) (l:List Cl),OwnV W B v l->OwnV (W'.setCell ⟨q,1,none⟩ vs') B v l:=by
 have hqv:vs.ownBlock≠some q:=fun e=>by
  obtain⟨_,_,c,hc⟩:=aM h.st e;rw[h.box]at hc;cases hc
 have hq':W'.heap[q]?=some (.cells #[.slice (some ⟨R,0,none⟩) n n,vs] 109 (0,0)):=(hg.block q h.lt (fun e=>hqv e.symm)).trans h.box
 have hqv':vs'.ownBlock≠some q:=fun e=>by
  rcases he with e1 | e1
  ·exact hqv (e1.symm.trans e)
  ·rw[e1]at e
   cases e
   exact absurd h.lt (Nat.lt_irrefl _)
 have hn:∀ k,k≠q->(W'.setCell ⟨q,1,none⟩ vs').heap[k]?=W'.heap[k]?:=fun k hk=>Below.heap_setCell _ _ _ _ (by simpa using hk)
 have key:∀{e size m:Nat} {v:Value} {xs:List Value},W.ownsRow B e size v m xs->e≠54->e≠109->(W'.setCell ⟨q,1,none⟩ vs').ownsRow B e size v m xs:=fun{e size m v xs} ho' h1 h2=>bY ho' fun k hk=>by
  obtain⟨k1,k2,c,hc⟩:=aM ho' hk
  have hkq:k≠q:=by
   rintro rfl;rw[h.box]at hc;cases hc
   exact h2 rfl
  rw[hn k hkq];exact hg.block k k2 (fun e'=>fM ho' h.st h1 hk e'.symm)
 refine⟨⟨?_,h.hq,key h.row (by decide) (by decide),h.len,fun i hi=>?_,h.apart,?_⟩,⟨hg.os,hg.tape,hg.output,jdq hg.size (by simp[World.setCell]),fun k hk=>?_⟩,⟨by rw[ay hq'];rfl,by simp[World.frozen?,hq']⟩,fun v l hv=>key hv (by decide) (by decide)⟩
 ·rw[cO hq']
  rfl
 ·obtain⟨rv,h1,h2⟩:=h.own i hi
  exact⟨rv,h1,key h2 (by decide) (by decide)⟩
 ·rw[jet,jdj]
  simp only[jdn,jdI,jeA,List.flatMap_nil,jdB];exact bY ho fun k hk=>hn k (fun e=>hqv' (e ▸ hk))
 ·rw[hn k (by have:=h.hq;omega)]
  refine hg.block k (by have:=h.lt;have:=h.hq;omega) (fun e=>?_);have:=(aM h.st e.symm).1;omega
theorem Grm.addCell(h:Grm W B q R n rvs rows vs sts){j:Nat}(hj:j<rows.length){rv rv':Value}{x:Cl}(Ar:rvs[j]?=some rv)(ho:OwnV W' B rv' (rows[j]++[x]))(hg:W.grownBy W' rv.ownBlock)(he:rv'.ownBlock=rv.ownBlock∨rv'.ownBlock=some W.heap.size) :
  Grm (W'.setCell ⟨R,j,none⟩ rv') B q R n (rvs.set j rv') (rows.set j (rows[j]++[x])) vs sts/\Below B W (W'.setCell ⟨R,j,none⟩ rv')/\(W'.cell? ⟨R,j,none⟩=some rv/\W'.frozen? ⟨R,j,none⟩=false/\W'.cell? ⟨q,0,none⟩=some (.slice (some ⟨R,0,none⟩) n n)) /\
   ∀(v:Value) (l:List Cl),OwnV W B v l->(∀ b,rv.ownBlock=some b->v.ownBlock≠some b)->OwnV (W'.setCell ⟨R,j,none⟩ rv') B v l:=by
 obtain⟨rv0,e0,jV⟩:=h.own j hj;rw[Ar]at e0;cases e0
 obtain⟨hR1,hR2,cR,hcR⟩:=aM (k:=R) h.row rfl;have hRrv:rv.ownBlock≠some R:=fun e=>fM jV h.row (by decide) e rfl
 have hRrv':rv'.ownBlock≠some R:=fun e=>by
  rcases he with e1 | e1
  ·exact hRrv (e1.symm.trans e)
  ·rw[e1]at e
   cases e
   exact absurd hR2 (Nat.lt_irrefl _)
 have hqrv:rv.ownBlock≠some q:=fun e=>by
  obtain⟨_,_,c,hc⟩:=aM jV e;rw[h.box]at hc;cases hc
 have hqR:q≠R:=by
  rintro rfl;rw[h.box]at hcR;cases hcR
 have hn:∀ k,k≠R->(W'.setCell ⟨R,j,none⟩ rv').heap[k]?=W'.heap[k]?:=fun k hk=>Below.heap_setCell _ _ _ _ (by simpa using hk)
 have hrow':W'.ownsRow B 79 1 (.slice (some ⟨R,0,none⟩) n n) n rvs:=bY h.row fun k hk=>by
  cases hk
  exact hg.block R hR2 (fun e=>hRrv e.symm)
 have bR:=h.len
 have key:∀ i (hi:i<rows.length) ri,i≠j->rvs[i]?=some ri->OwnV W B ri rows[i]->OwnV (W'.setCell ⟨R,j,none⟩ rv') B ri rows[i]:=fun i hi ri Pw Cv hoi=>bY hoi fun k hk=>by
  obtain⟨_,k2,_⟩:=aM hoi hk
  have hkR:k≠R:=by
   rintro rfl;exact fM hoi h.row (by decide) hk rfl
  rw[hn k hkR];exact hg.block k k2 (fun e=>h.apart i j ri rv k Pw Cv Ar hk e.symm)
 refine⟨⟨?_,h.hq,(hrow'.stored j rv').1,by rw[jeC];exact bR,fun i hi=>?_,fun i i' ri ri' b hii Cv hri' hb=>?_,bY h.st fun k hk=>?_⟩,⟨hg.os,hg.tape,hg.output,jdq hg.size (by simp[World.setCell]),fun k hk=>?_⟩,⟨?_,hrow'.frozenAt j,by rw[ay ((hg.block q h.lt (fun e=>hqrv e.symm)).trans h.box)];rfl⟩,fun v l hv hd=>bY hv fun k hk=>?_⟩
 ·rw[hn q hqR]
  exact(hg.block q h.lt (fun e=>hqrv e.symm)).trans h.box
 ·rw[jeC]at hi
  by_cases Pw:i=j
  ·subst Pw
   have hlr:i<rvs.length:=(List.getElem?_eq_some_iff.1 Ar).1;refine⟨rv',by rw[List.getElem?_set_self hlr],?_⟩;rw[List.getElem_set_self];exact bY ho fun k hk=>hn k (fun e=>hRrv' (e ▸ hk))
  ·obtain⟨ri,h1,h2⟩:=h.own i hi
   refine⟨ri,by rw[List.getElem?_set_ne (Ne.symm Pw)];exact h1,?_⟩;rw[List.getElem_set_ne (Ne.symm Pw)];exact key i hi ri Pw h1 h2
 ·have hlr:j<rvs.length:=(List.getElem?_eq_some_iff.1 Ar).1
  have old:∀ m rm,rvs[m]?=some rm->m<rows.length:=fun m rm hm=>by
   have:=(List.getElem?_eq_some_iff.1 hm).1;have h1:=h.row.1;omega
  have fresh:∀ m rm k,m≠j->rvs[m]?=some rm->rm.ownBlock=some k->rv'.ownBlock≠some k:=fun m rm k hmj hm hk e=>by
   obtain⟨r0,h1,h2⟩:=h.own m (old m rm hm);rw[hm]at h1;cases h1
   rcases he with e1 | e1
   ·exact h.apart m j rm rv k hmj hm Ar hk (e1.symm.trans e)
   ·rw[e1]at e
    cases e
    exact absurd (aM h2 hk).2.1 (Nat.lt_irrefl _)
  by_cases Pw:i=j
  ·subst Pw
   rw[List.getElem?_set_self hlr]at Cv;cases Cv
   rw[List.getElem?_set_ne hii]at hri';intro e;exact fresh i' ri' b (Ne.symm hii) hri' e hb
  ·rw[List.getElem?_set_ne (Ne.symm Pw)]at Cv
   by_cases hij':i'=j
   ·subst hij'
    rw[List.getElem?_set_self hlr]at hri';cases hri'
    exact fresh i ri b Pw Cv hb
   ·rw[List.getElem?_set_ne (Ne.symm hij')]at hri'
    exact h.apart i i' ri ri' b hii Cv hri' hb
 ·obtain⟨_,k2,_⟩:=aM h.st hk
  have hkR:k≠R:=by
   rintro rfl;exact fM h.st h.row (by decide) hk rfl
  rw[hn k hkR];exact hg.block k k2 (fun e=>fM h.st jV (by decide) hk e.symm)
 ·rw[hn k (by omega)]
  refine hg.block k (by omega) (fun e=>?_);have:=(aM jV e.symm).1;omega
 ·have h1:=h.row.1
  rw[hrow'.cellAt j (by omega)];exact Ar
 ·obtain⟨_,k2,_⟩:=aM hv hk
  have hkR:k≠R:=by
   rintro rfl;exact fM hv h.row (by decide) hk rfl
  rw[hn k hkR];exact hg.block k k2 (fun e=>hd k e.symm hk)
end
theorem Lp:(Tryz.prog.info? 79).map (fun i=>(i.zero,i.size,i.bytes))=some (some (.slice none 0 0),1,24):=by kernel_rfl
theorem eO(rs:List Row)(l:List Cl):(psh rs l).length=rs.length:=by simp[psh]
theorem oP{rs:List Row}{l:List Cl}{i:Nat}(h:i<rs.length):(psh rs l)[i]'(by rw[eO];exact h)=rs[i]++(l[i]?).toList:=by simp[psh]
theorem Xh(rs:List Row):psh rs []=rs:=by
 apply List.ext_getElem (eO _ _)
 intro i h1 h2;rw[oP h2];simp
theorem Tz{rs:List Row}{l:List Cl}{j:Nat}(h1:j<rs.length)(h2:j<l.length):(psh rs (l.take j)).set j ((psh rs (l.take j))[j]'(by rw[eO];exact h1)++[l[j]])=psh rs (l.take (j+1)):=by
 apply List.ext_getElem (by simp[eO])
 intro i h3 h4;rw[eO]at h4;rw[oP h4];by_cases e:i=j
 ·subst e
  rw[List.getElem_set_self]
  have e:(psh rs (l.take i))[i]'(by rw[eO];exact h1)=rs[i]:=by
   rw[oP (l:=l.take i) h1];simp[List.getElem?_take]
  rw[e];simp[List.getElem?_take,h2]
 ·rw[List.getElem_set_ne (Ne.symm e),oP h4]
  congr 2
  simp only[List.getElem?_take];by_cases h5:i<j
  ·rw[jdf h5,jdf (by omega)]
  ·rw[jde h5,jde (by omega)]
theorem NP{k n:Nat}{s:S3}(hk:1<=k/\k<=3)(hn:n<=64)(hb:Bs s.1):(∀ x∈(iu k n s).1,aV x)/\(iu k n s).1.length<=n:=by
 unfold iu;simp only;cases h:gm k (s.1.take (gd 0 s.1.length s.2.1)) n with
 | none=>exact⟨fun x hx=>by simp at hx,by simp⟩
 | some l =>
  obtain⟨h1,h2,_⟩:=(lQ hk (by omega) (hb.take _)).1 h;exact⟨fun x hx=>(h1.2.2 x hx).fine,by simp[h2]⟩
theorem TA(k n:Nat)(s:S3):(iu k n s).2.1.length<=s.1.length:=by
 unfold iu;simp only[jdN];omega
theorem TB(l:List Cl)(s:S3):(qa l s).1=s.1:=by
 unfold qa;split<;>rfl
theorem EP{fs:List Fd}{n:Nat}{s:S3}:∀{k:Nat},k<=fs.length->(grK fs n s k).1.length=n/\(grK fs n s k).2.1.length=k/\(grK fs n s k).2.2.1.length<=s.1.length/\∀ r∈(grK fs n s k).1,r.length<=k:=by
 intro k;induction k with
 | zero=>exact fun _=>⟨by simp[xf],rfl,jdh _,fun r hr=>by rw[xf]at hr;simp only[List.mem_replicate]at hr;rw[hr.2];exact jdh _⟩
 | succ k ih =>
  intro h;obtain⟨h1,h2,h3,h4⟩:=ih (by omega);rw[rt (by omega)];unfold grS;refine⟨by simp only[eO];exact h1,by simp[h2],?_,?_⟩
  ·simp only
   rw[TB];exact jdq (TA _ _ _) h3
  ·simp only
   intro r hr;obtain⟨i,hi,rfl⟩:=List.getElem_of_mem hr;have hi':=hi;rw[eO]at hi';rw[oP hi',jdj];have:=h4 _ (jdl hi');have h5:∀ o:Option Cl,o.toList.length<=1:=fun o=>by cases o<;>simp
   have:=h5 ((iu fs[k].2.2.1 n (grK fs n s k).2.2).1[i]?);omega
theorem eP{W:World}{B:Nat}{e:TypeId}{size n:Nat}{v:Value}{xs:List Value}(h:W.ownsRow B e size v n xs):∃ a m c,v=.slice a m c:=by
 rcases h.2 with ⟨h,_⟩ | ⟨_,_,_,h,_⟩
 ·exact⟨_,_,_,h⟩
 ·exact⟨_,_,_,h⟩
theorem yp{w:World}{ops:Array Oper}{o:Oper}{a:Act}{K:Act->World->Prop}{Q:Exit->Act->World->Prop}{E:Prop}(eg:o.guard=none)(s x:Operand)
  (ho:o.op=.call { callee:=.builtin .append,args:=#[s,x],argTypes:=#[107,107] })
  (base:Nat) (v:Value) (g:Nat) (z:Stt) (l0:List Stt) (hs:a.eval s=v) (aA:w.ownsRow base 54 10 v l0.length (l0.flatMap celS)) (hx:a.eval x=.slice (some ⟨g,0,none⟩) 1 1)
  (hc:Stb w g z) (hbytes:l0.length<=100000) (aI:base<=w.heap.size)
  (h:∀ v' w',w'.ownsRow base 54 10 v' (l0.length+1) (l0.flatMap celS++celS z)->w.grownBy w' v.ownBlock->(v'.ownBlock=v.ownBlock∨v'.ownBlock=some w.heap.size)->K (a.put o.dst v') w') :
  if Region.wanted o (yielded ops a.tmps)=true then Oper.wp Tryz.prog o a w K Q else E:=by
 obtain⟨i0,hi,cm,hz1',bn⟩:=jdA jaL
 refine iZ eg s x 107 ho base 54 i0 (.agg #[.int .i64 0,.int .i64 0,.bool false,.bool false,.int .u8 0,.int .i64 0,.string ⟨#[]⟩,.int .u8 0,.int .i64 0,.string ⟨#[]⟩]) 10 88 Tryz.underlying107 hi cm hz1' bn rfl (by decide) v l0.length (l0.flatMap celS) hs aA ⟨g,0,none⟩ 1 1 (celS z) hx rfl ?_ (fun u hu=>by
  unfold celS at hu;simp only[jdz,jeY,or_false]at hu;rcases hu with rfl | rfl | rfl | rfl | rfl | rfl | rfl | rfl | rfl | rfl<;>rfl) (by unfold maxLen;omega) (by omega) aI h
 intro j u hu;rw[mq];unfold Stb at hc;rw[ay hc];unfold celS at hu;simpa using hu
theorem yq{w:World}{ops:Array Oper}{o:Oper}{a:Act}{K:Act->World->Prop}{Q:Exit->Act->World->Prop}{E:Prop}(eg:o.guard=none)(s x:Operand)
  (ho:o.op=.call { callee:=.builtin .append,args:=#[s,x],argTypes:=#[79,79] })
  (base:Nat) (v:Value) (g:Nat) (z:Cl) (l0:List Cl) (hs:a.eval s=v) (aA:OwnV w base v l0) (hx:a.eval x=.slice (some ⟨g,0,none⟩) 1 1)
  (hc:w.cell? ⟨g,0,none⟩=some (dh z)) (hbytes:l0.length<=100000) (aI:base<=w.heap.size)
  (h:∀ v' w',OwnV w' base v' (l0++[z])->w.grownBy w' v.ownBlock->(v'.ownBlock=v.ownBlock∨v'.ownBlock=some w.heap.size)->K (a.put o.dst v') w') :
  if Region.wanted o (yielded ops a.tmps)=true then Oper.wp Tryz.prog o a w K Q else E:=by
 obtain⟨i0,hi,cm,hz1',bn⟩:=jdA vL;have hvc:=aG l0
 refine iZ eg s x 79 ho base 78 i0 .nilIface 1 16 Tryz.underlying79 hi cm hz1' bn rfl (by decide) v l0.length (aJ l0) hs aA ⟨g,0,none⟩ 1 1 [dh z] hx rfl ?_ (fun u hu=>by
  simp only[jdz,jeY,or_false]at hu;subst hu;rcases xp z with e | ⟨_,_,e⟩<;>rw[e]<;>rfl) (by unfold maxLen;omega) (by omega) aI ?_
 ·intro j u hu
  cases j with
  | zero =>
   rw[mq];simpa [hc]using hu
  | succ j=>simp at hu
 ·intro v' w' o1 g1 e1
  refine h v' w' ?_ g1 e1;unfold OwnV;rw[jdj];have:aJ (l0++[z])=aJ l0++[dh z]:=by simp[aJ]
  rw[this];exact o1
def Gro(W:World)(B:Nat)(v:Value)(rows:List Row)(sts:List Stt):Prop :=
 ∃ R rvs vs,v=.agg #[.slice (some ⟨R,0,none⟩) rows.length rows.length,vs]/\W.ownsRow B 79 1 (.slice (some ⟨R,0,none⟩) rows.length rows.length) rows.length rvs /\
  (∀ i (h:i<rows.length),∃ rv,rvs[i]?=some rv/\OwnV W B rv rows[i])/\W.ownsRow B 54 10 vs sts.length (sts.flatMap celS)
theorem Grm.gro{W:World}{B q R n:Nat}{rvs:List Value}{rows:List Row}{vs:Value}{sts:List Stt}(h:Grm W B q R n rvs rows vs sts):Gro W B (.agg #[.slice (some ⟨R,0,none⟩) n n,vs]) rows sts:=by
 obtain⟨_,_,h1,h2,h3,_,h4⟩:=h;subst h2;exact⟨R,rvs,vs,rfl,h1,h3,h4⟩
theorem Sf.keptW{W W':World}{B:Nat}{v:Value}{l:List Fd}(h:Sf W v l)(hv:∀ k,v.ownBlock=some k->k<B)(hb:Below B W W'):Sf W' v l:=by
 obtain⟨a,cap,rfl,h2,h3,h0,h4⟩:=h;refine⟨a,cap,rfl,h2,h3,h0,fun h0=>?_⟩;obtain⟨b,off,rfl,h6,h7⟩:=h4 h0;have hb':b<B:=hv b rfl;exact⟨b,off,rfl,jdD h6 hb.size,fun j x hj=>(hb.cell (p:=⟨b,off+j,none⟩) hb').trans (h7 j x hj)⟩
theorem EQ{w:World}{p:Nat}{c f:List Nat}{fl:Bool}(h:R3 w p c f fl){fv:Value}{fs:List Fd}(hs:Sf w fv fs)(hw:∀ i,fv.ownBlock=some i->i<p)(hk:∀ x∈fs,1<=x.2.2.1/\x.2.2.1<=3)(id n:Nat)(hn:1<=n/\n<=64)(jT:fs.length<=8)(eQ:c.length<=100000000) :
  Calls Tryz.prog 142 #[.pointer (some ⟨p,0,none⟩),.agg #[.int .u32 (id:Int),fv],.int .i64 (n:Int)] w fun r w'=>(∃ v,r=.returned v/\Gro w' w.heap.size v (grK fs n (c,f,fl) fs.length).1 (grK fs n (c,f,fl) fs.length).2.1)/\R3 w' p (grK fs n (c,f,fl) fs.length).2.2.1 (grK fs n (c,f,fl) fs.length).2.2.2.1 (grK fs n (c,f,fl) fs.length).2.2.2.2/\Fr p w.heap.size w w':=by
 obtain⟨i0,hi,cm,hz1',bn⟩:=jdA Lp;have aC:=h.lt;have HGR:=ae (fun k (hk:k<=fs.length)=>EP (fs:=fs) (n:=n) (s:=(c,f,fl)) hk);have HGS:=ae (fun k (hk:k<fs.length)=>rt hk n (c,f,fl));have HG0:=ae (xf fs n (c,f,fl));obtain⟨G,hG⟩:∃ G,grK fs n (c,f,fl)=G:=⟨_,rfl⟩;rw[hG]at HGR HGS HG0 ⊢;clear hG;obtain⟨a,cap,rfl,aY,bx⟩:=hs.form;have aH:=ak w (.cells #[.int .u32 (id:Int),.slice a fs.length cap] 25);have aE:=ak (w.alloc (.cells #[.int .u32 (id:Int),.slice a fs.length cap] 25)) (.cells #[.slice none 0 0,.slice none 0 0] 109);obtain⟨x0,x1⟩:=bF w (.int .u32 (id:Int)) (.slice a fs.length cap) 25;have hA0:w.heap.size<(w.alloc (.cells #[.int .u32 (id:Int),.slice a fs.length cap] 25)).heap.size:=by rw[jdi];omega
 have sA:((w.alloc (.cells #[.int .u32 (id:Int),.slice a fs.length cap] 25)).alloc (.cells #[.slice none 0 0,.slice none 0 0] 109)).heap.size=w.heap.size+2:=by rw[jdi,jdi]
 have x2:((w.alloc (.cells #[.int .u32 (id:Int),.slice a fs.length cap] 25)).alloc (.cells #[.slice none 0 0,.slice none 0 0] 109)).heap[w.heap.size+1]?=some (.cells #[.slice none 0 0,.slice none 0 0] 109 (0,0)):=by
  have:=jdH (w.alloc (.cells #[.int .u32 (id:Int),.slice a fs.length cap] 25)) (.cells #[.slice none 0 0,.slice none 0 0] 109);rwa[jdi]at this
 have x3:((w.alloc (.cells #[.int .u32 (id:Int),.slice a fs.length cap] 25)).alloc (.cells #[.slice none 0 0,.slice none 0 0] 109)).cell? ⟨w.heap.size,1,none⟩=some (.slice a fs.length cap):=(aE.cell (p:=⟨w.heap.size,1,none⟩) hA0).trans x1;have hAb:Below w.heap.size w ((w.alloc (.cells #[.int .u32 (id:Int),.slice a fs.length cap] 25)).alloc (.cells #[.slice none 0 0,.slice none 0 0] 109)):=ai aH aE;have HR:=ae (h.kept hAb aC);have HS:=ae (hs.keptW hw (hAb.mono (by omega)));have Zf:=ae hAb;have lA:=ae sA;have yA:=ae x2;clear h hs aH aE x0 x1 hAb sA x2 hA0;generalize hA:(w.alloc (.cells #[.int .u32 (id:Int),.slice a fs.length cap] 25)).alloc (.cells #[.slice none 0 0,.slice none 0 0] 109)=A at *;go_enter Tryz.func142,Tryz.ntmps142
 go_wp2_with (first | (refine jek _ rfl _ _ 34 rfl A.heap.size 79 i0 (.slice none 0 0) 1 Tryz.underlying34 hi cm hz1' .i64 .i64 _ _ n rfl rfl ?m1 ?m2 ?m3 ?m4 ?m5 ?_))
 case m1=>rfl
 case m2=>rfl
 case m3=>first | omega | (rw[bn];omega)
 case m4=>unfold maxLen;omega
 try (case m5=>omega)
 intro w4 gF iN;have bw:Below A.heap.size A w4:=(jdg _ _).grown iN (jdh _) (fun k hk=>by cases hk);have Kq:A.heap.size<w4.heap.size:=(gF.lt A.heap.size rfl).2
 have ho4':w4.ownsRow A.heap.size 79 1 (.slice (some ⟨A.heap.size,0,none⟩) n n) n (List.replicate n (.slice none 0 0)):=by
  rw[← jeK];simpa using gF
 have br:=ak w4 (.cells #[.slice (some ⟨A.heap.size,0,none⟩) n n,.slice none 0 0] 109)
 have hG5:Grm (w4.alloc (.cells #[.slice (some ⟨A.heap.size,0,none⟩) n n,.slice none 0 0] 109)) A.heap.size w4.heap.size A.heap.size n (List.replicate n (.slice none 0 0)) (List.replicate n []) (.slice none 0 0) [] :=
  ⟨jdH w4 _,bw.size,bI ho4' br,List.length_replicate,fun i hi=>⟨.slice none 0 0,by simp at hi;simp[hi],by simp only[List.getElem_replicate];exact OwnV.nil _ _⟩,(fun i j ri rj b Pw Cv hrj hb=>by
   rw[List.getElem?_replicate]at Cv;split at Cv
   ·cases Cv
    cases hb
   ·cases Cv),jd8 _ _ _ _⟩
 have Up:Below A.heap.size A (w4.alloc (.cells #[.slice (some ⟨A.heap.size,0,none⟩) n n,.slice none 0 0] 109)):=ai bw br;have PE:=ae hG5;have uR:=ae (HR.o.kept Up HR.o.lt);have sd:=ae (HS.o.kept Up);have aS:=ae Up;have hc5:=(Up.cell (p:=⟨w.heap.size,1,none⟩) (by rw[lA.o];simp)).trans x3;have hqA:A.heap.size<w4.heap.size:=Kq;clear gF iN bw ho4' br hG5 Up hA x3;go_upto_region 2 with fail
 generalize w4.alloc (.cells #[.slice (some ⟨A.heap.size,0,none⟩) n n,.slice none 0 0] 109)=W5 at *;have HK:=ae hk;have hcl5:∃ u,W5.cell? ⟨w.heap.size,1,none⟩=some u:=⟨_,hc5⟩;clear hk hcl5;have HZQ:=ae hqA;generalize w4.heap.size=q at *;clear Kq;have LC:p<A.heap.size:=by have:=lA.o;omega
 go_wp2_with fail;go_loopw [19] (fun i wr=>∃(k:Nat) (rvs:List Value) (vs:Value),i=.int .i64 (k:Int)/\k<=fs.length/\Grm wr A.heap.size q A.heap.size n rvs (G k).1 vs (G k).2.1/\R3 wr p (G k).2.2.1 (G k).2.2.2.1 (G k).2.2.2.2/\Fr p A.heap.size A wr) (fun i _=>fs.length-(intOf i).toNat)
 case atStart =>
  refine⟨0,List.replicate n (.slice none 0 0),.slice none 0 0,rfl,by omega,?_,?_,Fr.of_below aS.o⟩
  ·rw[HG0.o];exact PE.o
  ·rw[HG0.o];exact uR.o
 case round =>
  obtain⟨k,rvs,vs,rfl,hk,hg,hr,hf⟩:=hrel;have HG:=ae hg;have HR:=ae hr;have HF:=ae hf
  have hvs:∃ va vn vc,vs=.slice va vn vc:=by
   rcases hg.st.2 with ⟨h,_⟩ | ⟨_,_,_,h,_⟩
   ·exact⟨_,_,_,h⟩
   ·exact⟨_,_,_,h⟩
  obtain⟨va,vn,vc,rfl⟩:=hvs;obtain⟨y0,y1,y2,y3⟩:=hg.cells;have iD:=hf.size;have hqr:=hg.lt;have UX:=ae (HGR.o k hk);clear hg hr;by_cases jJ:k<fs.length
  ·obtain⟨b,off,rfl,hb,z0,z1,z2,z3⟩:=(HS.o.keptW hw (hf.below (jdh p) (by omega))).at jJ
   have HGK:=ae (HGS.o k jJ);have XU:=ae (HK.o fs[k] (jdl jJ));have HCF:=ae (NP (n:=n) (s:=(G k).2.2) XU.o hn.2 HR.o.bs.1);have pw:jfb ((G k).2.2.1.length<=100000000):=ae (jdq UX.o.2.2.1 eQ);have VH:=ae (fun(U:World) (hU:R3 U p (G k).2.2.1 (G k).2.2.2.1 (G k).2.2.2.2)=>NM hU fs[k].2.2.1 n XU.o hn.2 pw.o);have VE:=ak wr (.cells #[.int .u32 (fs[k].1:Int),.string fs[k].2.1,.int .u8 (fs[k].2.2.1:Int),.bool fs[k].2.2.2] 81);have HRZ:=ae (HR.o.kept VE HR.o.lt);have HGZ:=ae (HG.o.kept VE);have HFZ:=ae (HF.o.then (VE.mono iD));have hlt2':(k:Int)<(fs.length:Int):=(by omega);clear hf VE;generalize fs[k]=fk at *;obtain⟨f1,f2,f3,f4⟩:=fk;simp only at *;have hbZ:∀ o,(wr.alloc o).heap.size=wr.heap.size+1:=fun o=>jdi _ _
   go_wp2_with fail;generalize wr.alloc (.cells #[.int .u32 (f1:Int),.string f2,.int .u8 (f3:Int),.bool f4] 81)=Z at *;refine(VH.o _ HRZ.o).mono ?_;rintro e w1 ⟨v,rfl,eI,As,dv⟩;have hgk:G (k+1)=(psh (G k).1 (iu f3 n (G k).2.2).1,(G k).2.1++[cy (iu f3 n (G k).2.2).1],qa (iu f3 n (G k).2.2).1 (iu f3 n (G k).2.2).2):=HGK.o;generalize iu f3 n (G k).2.2=cr at *;obtain⟨l,c1,b1,fl1⟩:=cr;simp only at *;have HGN:=ae hgk;generalize G k=gk at *;obtain⟨rows,sts,s0⟩:=gk;simp only at *;have tw:=ae (HGZ.o.frp dv LC);have gg:=ae (HFZ.o.trans (dv.mono HFZ.o.size));have cY:=HFZ.o.size;have fC:=ae (OwnV.of_le eI cY);have sj:=ae As
   have HD1:jfb (∀(i:Nat) (ri:Value),rvs[i]?=some ri->∀ b,ri.ownBlock=some b->v.ownBlock≠some b):=ae (fun i ri hi b hb e=>by
    have hl:=(List.getElem?_eq_some_iff.1 hi).1;have h1:=HGZ.o.row.1;have h2:=HGZ.o.len;obtain⟨rv,e1,e2⟩:=HGZ.o.own i (by omega);rw[hi]at e1;cases e1
    have:=(aM e2 hb).2.1;have:=(aM eI e).1;omega)
   obtain⟨va1,vn1,vc1,rfl⟩:∃ va vn vc,v=.slice va vn vc:=by
    rcases eI.2 with ⟨h,_⟩ | ⟨_,_,_,h,_⟩
    ·exact⟨_,_,_,h⟩
    ·exact⟨_,_,_,h⟩
   obtain⟨st,iM⟩:∃ st,cy l=st:=⟨_,rfl⟩;obtain⟨S,hS⟩:∃ S,qa l (c1,b1,fl1)=S:=⟨_,rfl⟩
   have cT:jfb (∀ U:World,Below w1.heap.size w1 U->Calls Tryz.prog 182 #[.pointer (some ⟨p,0,none⟩),.slice va1 vn1 vc1] U fun e w'=>e=.returned (.agg #[.int .i64 st.rows,.int .i64 st.nulls,.bool st.some,.bool st.high,.int .u8 (st.lo.1:Int),.int .i64 st.lo.2.1,.string (am st.lo.2.2),.int .u8 (st.hi.1:Int),.int .i64 st.hi.2.1,.string (am st.hi.2.2)]) /\
     R3 w' p S.1 S.2.1 S.2.2/\Grm w' A.heap.size q A.heap.size n rvs rows (.slice va vn vc) sts/\Fr p A.heap.size A w'/\OwnV w' A.heap.size (.slice va1 vn1 vc1) l/\w'.cell? ⟨q,1,none⟩=some (.slice va vn vc)/\A.heap.size<=w'.heap.size/\∀ o,(w'.alloc o).cell? ⟨q,1,none⟩=some (.slice va vn vc)):=ae (fun U hU=>by
    refine(EM (sj.o.kept hU sj.o.lt) (fC.o.sv.kept hU) HCF.o.1 (by have:=HCF.o.2;omega)).mono ?_;rintro e w' ⟨rfl,hr,hf⟩;rw[hS]at hr;rw[iM];have hzU:=hU.size;have hfa:=(gg.o.then (hU.mono gg.o.size)).trans (hf.mono (jdq gg.o.size hzU));have hg:=(tw.o.kept hU).frp hf LC;exact⟨rfl,hr,hg,hfa,Fr.own hf (fC.o.kept hU) LC,hg.cells.2.1,hfa.size,fun o=>((ak _ o).cell hg.lt).trans hg.cells.2.1⟩)
   rw[iM,hS]at HGN;obtain⟨y0,y1,y2,y3⟩:=tw.o.cells;have Ke:=gg.o.size;have pC:sts.length<=100000:=by have:=UX.o.2.1;omega
   clear hgk HGK eI As dv VH HRZ HGZ HFZ HG HR HF z0 z1 z2 z3 iM hS;go_upto_region 6 with fail
   go_cut [] from 58 (fun wx=>∃ va6 vn6 vc6,Grm wx A.heap.size q A.heap.size n rvs rows (.slice va6 vn6 vc6) (sts++[st])/\R3 wx p S.1 S.2.1 S.2.2/\Fr p A.heap.size A wx/\OwnV wx A.heap.size (.slice va1 vn1 vc1) l)
   case first =>
    refine wp_region_noPanic ?_
    go_region_law (first
     | (refine yp (by rfl) _ _ (by rfl) A.heap.size _ _ st sts (by rfl) ?_ (by rfl) ?_ pC ?_ ?_;exact bI PE.o.st (ak _ _);exact Stb.new _ st;(rw[jdi];omega);intro v6 w6 o6 g6 e6;obtain⟨LP,dP,⟨hc6,hc7⟩,UH⟩:=(PE.o.kept (ak _ _)).addStat o6 g6 e6;obtain⟨va6,vn6,vc6,rfl⟩:=eP o6;have kI:=ae LP;have Ga:=ae ((uR.o.kept (ak _ _) uR.o.lt).kept dP LC);have Gb:=ae ((xU.o.then ((ak _ _).mono xU.o.size)).trans (Fr.of_below dP));have Zw:=ae (UH _ _ (OwnV.kept HV5.o (ak _ _)));clear o6 g6 e6 LP dP UH)
     | (go_simp;go_at_call 182;refine(cT.o _ ?_).mono ?_;exact ar (jdg w1.heap.size w1) _;rintro e w5 ⟨rfl,Qo,Zx,jz,hv5,hc5,vk,ha5⟩;have uR:=ae Qo;have PE:=ae Zx;have xU:=ae jz;have HV5:=ae hv5;clear Qo Zx jz hv5;dsimp only)
     | fail)
    all_goals refine NoPanic.normal ?_
    all_goals go_wp2_with fail
    all_goals go_meet
    all_goals exact⟨_,_,_,kI.o,Ga.o,Gb.o,Zw.o⟩
   case rest =>
   obtain⟨va6,vn6,vc6,LP,UP,Qg,oY⟩:=hcut;have HD6:=ae (fun(i:Nat) (ri:Value) (hi:rvs[i]?=some ri)=>HD1.o i ri hi);obtain⟨aq,cq,hvq,sg,nc⟩:=oY.sv.form1;rw[aG]at hvq sg;cases hvq
   have kI:=ae LP;have Ga:=ae UP;have Gb:=ae Qg;have Zw:=ae oY;have hrn:rows.length=n:=UX.o.1;have hln:l.length<=n:=HCF.o.2;have hq2':vc1<=9223372036854775807:=by unfold maxLen at nc;omega
   clear LP UP Qg oY tw sj gg fC HD1 cT y0 y1 y2 y3 nc;go_wp2_with fail;go_loopw [38] (fun i wx=>∃(j:Nat) (rvs2:List Value),i=.int .i64 (j:Int)/\j<=l.length/\Grm wx A.heap.size q A.heap.size n rvs2 (psh rows (l.take j)) (.slice va6 vn6 vc6) (sts++[st])/\R3 wx p S.1 S.2.1 S.2.2/\Fr p A.heap.size A wx/\OwnV wx A.heap.size (.slice va1 l.length vc1) l/\∀ i,j<=i->∀ ri:Value,rvs2[i]?=some ri->∀ b,ri.ownBlock=some b->(Value.slice va1 l.length vc1).ownBlock≠some b) (fun i _=>l.length-(intOf i).toNat)
   case atStart =>
    refine⟨0,rvs,rfl,by omega,?_,Ga.o,Gb.o,Zw.o,fun i _ ri hi=>HD6.o i ri hi⟩;rw[jeF,Xh];exact kI.o
   case round =>
    obtain⟨j,rvs2,rfl,hj,hg,hr,hf,hv,hd⟩:=hrel;have HG:=ae hg;have HR:=ae hr;have HF:=ae hf;have HV:=ae hv;have HD:=ae hd;obtain⟨y0,y1,y2,y3⟩:=hg.cells;have hqx:=hg.lt;have hax:=hf.size;by_cases mO:j<l.length
    ·have hjr:j<(psh rows (l.take j)).length:=by rw[eO];omega
     obtain⟨rv,Ar,how⟩:=hg.own j hjr;obtain⟨b2,off2,hq5,aE,Kf⟩:=hv.sv.at1 (cM mO);obtain⟨ra,rn,rc,rfl⟩:=eP how;have hcr:=(hg.row.cellAt j (by omega)).trans Ar;have lC:=hg.row.frozenAt j;have FY:jfb (∀ o,Below wr.heap.size wr (wr.alloc o).drew):=ae (fun o=>(ak wr o).drew);have xH:∀ o,(wr.alloc o).cell? ⟨q,0,none⟩=some (.slice (some ⟨A.heap.size,0,none⟩) n n):=fun o=>((ak wr o).cell hqx).trans y0
     have hRl:A.heap.size<wr.heap.size:=(aM (k:=A.heap.size) hg.row rfl).2.1;have har:∀ o,(wr.alloc o).cell? ⟨A.heap.size,j,none⟩=some (.slice ra rn rc):=fun o=>((ak wr o).cell hRl).trans hcr
     have UY:=ae how;have HPS:=ae (Tz (rs:=rows) (l:=l) (j:=j) (by omega) mO);have HRV:=ae Ar;have rX:(j:Int)<(l.length:Int):=(by omega);have hjn:(j:Int)<(n:Int):=(by omega)
     have hbt:((psh rows (l.take j))[j]).length<=100000:=by
      rw[oP (by omega),jdj];have h5:∀ o:Option Cl,o.toList.length<=1:=fun o=>by cases o<;>simp
      have:=h5 ((l.take j)[j]?);have:=UX.o.2.2.2 _ (jdl (show j<rows.length by omega));omega
     clear hg hr hf hv hd how Ar y1 y3;generalize hrw:(psh rows (l.take j))[j]=row at *;have XG:=ae hrw;clear hrw;rcases xp l[j]with h0 | ⟨tt,uu,h0⟩
     all_goals
      rw[h0]at Kf;have H0:=ae h0;clear h0;generalize hxj:l[j]=xj at *;have HXJ:=ae hxj;clear hxj;subst hq5;go_upto_region 10 with fail
      refine wp_region_noPanic ?_
      go_region_law (first
       | (refine yq (by rfl) _ _ (by rfl) A.heap.size _ _ xj row (by rfl) ?_ (by rfl) ?_ hbt ?_ ?_;exact OwnV.kept UY.o (FY.o _);(rw[H0.o];show (wr.alloc _).cell? _=_;rw[ay (jdH _ _)];rfl);(show A.heap.size<=(wr.alloc _).heap.size;rw[jdi];omega);intro v6 w6 o6 g6 e6;have o6':OwnV w6 A.heap.size v6 ((psh rows (l.take j))[j]++[xj]):=(by rw[XG.o];exact o6);obtain⟨LP,dP,⟨hc6,hc7,hc8⟩,UH⟩:=(HG.o.kept (FY.o _)).addCell hjr HRV.o o6' g6 e6;obtain⟨va7,vn7,vc7,rfl⟩:=eP o6;have kI:=ae LP;have Ga:=ae ((HR.o.kept (FY.o _) HR.o.lt).kept dP LC);have Gb:=ae ((HF.o.then ((FY.o _).mono HF.o.size)).trans (Fr.of_below dP));have Zw:=ae (UH _ _ (OwnV.kept HV.o (FY.o _)) (fun b hb=>HD.o j (jdh j) _ HRV.o b hb));clear o6 o6' g6 e6 LP dP UH)
       | fail)
     all_goals
      refine NoPanic.normal ?_;go_wp2_with fail;go_roundw
      case rel =>
       refine⟨j+1,rvs2.set j (.slice va7 vn7 vc7),by go_num,by omega,?_,Ga.o,Gb.o,Zw.o,fun i hi ri Cv=>?_⟩
       ·rw[← HPS.o,← XG.o]
        exact kI.o
       ·rw[List.getElem?_set_ne (by omega)]at Cv
        exact HD.o i (by omega) ri Cv
      case measure=>simp[intOf];omega
    ·obtain rfl:j=l.length:=by omega
     have gL:¬ ((l.length:Nat):Int)<(l.length:Int):=(by omega);clear hg hr hf hv hd y0 y1 y2 y3;have HGG:=ae HG.o;rw[jdp]at HGG;go_wp2_with fail;go_roundw
     case rel =>
      refine⟨k+1,rvs2,.slice va6 vn6 vc6,by go_num,by omega,?_,?_,HF.o⟩
      ·rw[HGN.o];exact HGG.o
      ·rw[HGN.o];exact HR.o
     case measure=>simp[intOf];omega
  ·obtain rfl:k=fs.length:=by omega
   have gL:¬ ((fs.length:Nat):Int)<(fs.length:Int):=(by omega);have hsa:=lA.o;have jbU:¬ w.heap.size+1=p:=(by omega);have hT:wr.heap[w.heap.size+1]?=some (.cells #[.slice none 0 0,.slice none 0 0] 109 (0,0)):=(hf.block _ (by omega) jbU).trans yA.o;have t0:wr.cell? ⟨w.heap.size+1,0,none⟩=some (.slice none 0 0):=by rw[ay hT];rfl
   have t1:wr.cell? ⟨w.heap.size+1,1,none⟩=some (.slice none 0 0):=by rw[ay hT];rfl
   have t2:wr.frozen? ⟨w.heap.size+1,0,none⟩=false:=by simp[World.frozen?,hT]
   have t3:wr.frozen? ⟨w.heap.size+1,1,none⟩=false:=by simp[World.frozen?,hT]
   have hqa:A.heap.size<=q:=HG.o.hq;have yH:¬ q=w.heap.size+1:=(by omega);have hne3:¬ w.heap.size+1=q:=(by omega);have hfa:Fr p w.heap.size w wr:=(Fr.of_below Zf.o).trans (hf.mono (by omega));have Cw:=fq (fq (jdg w.heap.size wr) (show w.heap.size<=w.heap.size+1 by omega) 0 (.slice (some ⟨A.heap.size,0,none⟩) n n)) (show w.heap.size<=w.heap.size+1 by omega) 1 (.slice va vn vc);have pG:=ae (HR.o.kept Cw aC);have Qf:=ae (hfa.trans (Fr.of_below Cw))
   have HGF:=ae ((HG.o.turn (W':=(wr.setCell ⟨w.heap.size+1,0,none⟩ (.slice (some ⟨A.heap.size,0,none⟩) n n)).setCell ⟨w.heap.size+1,1,none⟩ (.slice va vn vc)) (fun j hj _=>by
    rw[Below.heap_setCell _ _ _ _ (by simp;omega),Below.heap_setCell _ _ _ _ (by simp;omega)])).low (show w.heap.size<=A.heap.size by omega)).gro
   clear hf hT hfa Cw yA hsa;go_wp2_with fail;refine bodyPost_ret (v:=.agg #[.slice (some ⟨A.heap.size,0,none⟩) n n,.slice va vn vc]) (by simp[results,Tryz.results142,go_sem,t0,t1,t2,t3,jbU,yH,hne3]) rfl ⟨⟨_,rfl,HGF.o⟩,pG.o,Qf.o⟩
theorem TC:(Tryz.prog.info? 109).map (fun i=>(i.zero,i.size,i.bytes))=some (some (.agg #[.slice none 0 0,.slice none 0 0]),2,48):=by kernel_rfl
theorem yr{w:World}{ops:Array Oper}{o:Oper}{a:Act}{K:Act->World->Prop}{Q:Exit->Act->World->Prop}{E:Prop}(eg:o.guard=none)(s x:Operand)
  (ho:o.op=.call { callee:=.builtin .append,args:=#[s,x],argTypes:=#[103,103] })
  (base:Nat) (v:Value) (g:Nat) (z1 z2:Value) (n:Nat) (xs:List Value) (hs:a.eval s=v) (aA:w.ownsRow base 109 2 v n xs) (hx:a.eval x=.slice (some ⟨g,0,none⟩) 1 1)
  (hc:w.heap[g]?=some (.cells #[z1,z2] 109 (0,0))) (h1:z1.oneCell'=true) (h2:z2.oneCell'=true) (hbytes:n<=100000) (aI:base<=w.heap.size)
  (h:∀ v' w',w'.ownsRow base 109 2 v' (n+1) (xs++[z1,z2])->w.grownBy w' v.ownBlock->(v'.ownBlock=v.ownBlock∨v'.ownBlock=some w.heap.size)->K (a.put o.dst v') w') :
  if Region.wanted o (yielded ops a.tmps)=true then Oper.wp Tryz.prog o a w K Q else E:=by
 obtain⟨i0,hi,cm,hz1',bn⟩:=jdA TC
 refine iZ eg s x 103 ho base 109 i0 (.agg #[.slice none 0 0,.slice none 0 0]) 2 48 Tryz.underlying103 hi cm hz1' bn rfl (by decide) v n xs hs aA ⟨g,0,none⟩ 1 1 [z1,z2] hx rfl ?_ (fun u hu=>by
  simp only[jdz,jeY,or_false]at hu;rcases hu with rfl | rfl
  ·exact h1
  ·exact h2) (by unfold maxLen;omega) (by omega) aI h
 intro j u hu;rw[mq];rw[ay hc];simpa using hu
def Fil(W:World)(B fp id:Nat)(fv:Value)(gs:List Gr):Prop :=
 ∃ gv xs,W.heap[fp]?=some (.cells #[.int .u32 (id:Int),fv,gv] 105 (0,0))/\B<=fp/\W.ownsRow B 109 2 gv gs.length xs /\
  ∀ j (h:j<gs.length),∃ a b,xs[2*j]?=some a/\xs[2*j+1]?=some b/\Gro W B (.agg #[a,b]) gs[j].1 gs[j].2
theorem Gro.turn{W W':World}{B:Nat}{v:Value}{rows:List Row}{sts:List Stt}(h:Gro W B v rows sts)(hb:∀ k cur e,B<=k->k<W.heap.size->e≠105->e≠109->W.heap[k]?=some (.cells cur e (0,0))->W'.heap[k]?=W.heap[k]?):Gro W' B v rows sts:=by
 obtain⟨R,rvs,vs,rfl,h1,h2,h3⟩:=h
 have key:∀{e:TypeId} {size n:Nat} {v:Value} {xs:List Value},W.ownsRow B e size v n xs->e≠105->e≠109->W'.ownsRow B e size v n xs:=fun{e size n v xs} ho e1 e2=>bY ho fun k hk=>by
  obtain⟨a,b,cur,hc⟩:=aM ho hk;exact hb k cur e a b e1 e2 hc
 refine⟨R,rvs,vs,rfl,key h1 (by decide) (by decide),fun i hi=>?_,key h3 (by decide) (by decide)⟩;obtain⟨rv,e1,e2⟩:=h2 i hi;exact⟨rv,e1,key e2 (by decide) (by decide)⟩
theorem Gro.low{W:World}{B B':Nat}{v:Value}{rows:List Row}{sts:List Stt}(h:Gro W B v rows sts)(hB:B'<=B):Gro W B' v rows sts:=by
 obtain⟨R,rvs,vs,rfl,h1,h2,h3⟩:=h;have lo:∀{e:TypeId} {size n:Nat} {v:Value} {xs:List Value},W.ownsRow B e size v n xs->W.ownsRow B' e size v n xs:=fun{e size n v xs} h=>⟨h.1,h.2.imp id fun⟨g,cap,cur,hv,hb,r⟩=>⟨g,cap,cur,hv,jdq hB hb,r⟩⟩
 exact⟨R,rvs,vs,rfl,lo h1,fun i hi=>by obtain⟨rv,e1,e2⟩:=h2 i hi;exact⟨rv,e1,lo e2⟩,lo h3⟩
theorem Gro.parts{W:World}{B:Nat}{v:Value}{rows:List Row}{sts:List Stt}(h:Gro W B v rows sts):∃ z1 z2,v=.agg #[z1,z2]/\z1.oneCell'=true/\z2.oneCell'=true:=by
 obtain⟨R,rvs,vs,rfl,h1,h2,h3⟩:=h;obtain⟨a,m,c,rfl⟩:=eP h3;exact⟨_,_,rfl,rfl,rfl⟩
theorem Fil.turn{W W':World}{B fp id:Nat}{fv:Value}{gs:List Gr}(h:Fil W B fp id fv gs)(hb:∀ k,B<=k->k<W.heap.size->W'.heap[k]?=W.heap[k]?):Fil W' B fp id fv gs:=by
 obtain⟨gv,xs,h1,h2,h3,h4⟩:=h;refine⟨gv,xs,(hb fp h2 (Array.getElem?_eq_some_iff.1 h1).1).trans h1,h2,bY h3 fun k hk=>?_,fun j hj=>?_⟩
 ·obtain⟨a,b,_⟩:=aM h3 hk
  exact hb k a b
 ·obtain⟨a,b,e1,e2,e3⟩:=h4 j hj
  exact⟨a,b,e1,e2,e3.turn fun k _ _ k1 k2 _ _ _=>hb k k1 k2⟩
theorem Fil.kept{W W':World}{B fp id:Nat}{fv:Value}{gs:List Gr}(h:Fil W B fp id fv gs)(hb:Below W.heap.size W W'):Fil W' B fp id fv gs:=h.turn fun k _ hk=>hb.block k hk
theorem Fil.add{W W':World}{B fp id:Nat}{fv gv gv' z1 z2:Value}{xs:List Value}{gs:List Gr}{g:Gr}(h1:W.heap[fp]?=some (.cells #[.int .u32 (id:Int),fv,gv] 105 (0,0)))(h2:B<=fp)(h3:W.ownsRow B 109 2 gv gs.length xs)
  (h4:∀ j (h:j<gs.length),∃ a b,xs[2*j]?=some a/\xs[2*j+1]?=some b/\Gro W B (.agg #[a,b]) gs[j].1 gs[j].2) (hg:Gro W B (.agg #[z1,z2]) g.1 g.2)
  (ho:W'.ownsRow B 109 2 gv' (gs.length+1) (xs++[z1,z2])) (UZ:W.grownBy W' gv.ownBlock) (he:gv'.ownBlock=gv.ownBlock∨gv'.ownBlock=some W.heap.size) :
  Fil (W'.setCell ⟨fp,2,none⟩ gv') B fp id fv (gs++[g])/\Below B W (W'.setCell ⟨fp,2,none⟩ gv')/\W'.cell? ⟨fp,2,none⟩=some gv/\W'.frozen? ⟨fp,2,none⟩=false:=by
 have jT:fp<W.heap.size:=(Array.getElem?_eq_some_iff.1 h1).1
 have hfv:gv.ownBlock≠some fp:=fun e=>by
  obtain⟨_,_,c,hc⟩:=aM h3 e;rw[h1]at hc;cases hc
 have hf':W'.heap[fp]?=some (.cells #[.int .u32 (id:Int),fv,gv] 105 (0,0)):=(UZ.block fp jT (fun e=>hfv e.symm)).trans h1
 have hfv':gv'.ownBlock≠some fp:=fun e=>by
  rcases he with e1 | e1
  ·exact hfv (e1.symm.trans e)
  ·rw[e1]at e
   cases e
   exact absurd jT (Nat.lt_irrefl _)
 have hn:∀ k,k≠fp->(W'.setCell ⟨fp,2,none⟩ gv').heap[k]?=W'.heap[k]?:=fun k hk=>Below.heap_setCell _ _ _ _ (by simpa using hk)
 have bR:=h3.1
 have turned:∀{v:Value} {rows:List Row} {sts:List Stt},Gro W B v rows sts->Gro (W'.setCell ⟨fp,2,none⟩ gv') B v rows sts:=fun{v rows sts} hh=>hh.turn fun k cur e k1 k2 e1 e2 hc=>by
  have hkf:k≠fp:=by
   rintro rfl;rw[h1]at hc;cases hc
   exact e1 rfl
  rw[hn k hkf];refine UZ.block k k2 (fun e'=>?_);obtain⟨_,_,c',hc'⟩:=aM h3 e'.symm;rw[hc]at hc';cases hc'
  exact e2 rfl
 refine⟨⟨gv',xs++[z1,z2],?_,h2,?_,fun j hj=>?_⟩,⟨UZ.os,UZ.tape,UZ.output,jdq UZ.size (by simp[World.setCell]),fun k hk=>?_⟩,by rw[ay hf'];rfl,by simp[World.frozen?,hf']⟩
 ·rw[cO hf']
  rfl
 ·rw[jdj]
  exact bY ho fun k hk=>hn k (fun e=>hfv' (e ▸ hk))
 ·rw[jdj]at hj
  simp only[jdn,jdI]at hj;by_cases rX:j<gs.length
  ·obtain⟨a,b,e1,e2,e3⟩:=h4 j rX
   refine⟨a,b,by rw[List.getElem?_append_left (by omega)];exact e1,by rw[List.getElem?_append_left (by omega)];exact e2,?_⟩;rw[je6 rX];exact turned e3
  ·obtain rfl:j=gs.length:=by omega
   refine⟨z1,z2,?_,?_,?_⟩
   ·rw[List.getElem?_append_right (by omega),show 2*gs.length-xs.length=0 by omega]
    rfl
   ·rw[List.getElem?_append_right (by omega),show 2*gs.length+1-xs.length=1 by omega]
    rfl
   ·rw[List.getElem_append_right (jdh _)]
    simp only[jeH,jeV];exact turned hg
 ·rw[hn k (by omega)]
  refine UZ.block k (by omega) (fun e=>?_);have:=(aM h3 e.symm).1;omega
end Go.Proofs.YtpljdjmpamjkhaaGreatDoor
