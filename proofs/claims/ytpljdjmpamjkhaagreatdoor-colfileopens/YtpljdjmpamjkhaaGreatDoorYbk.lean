import Derived.Test.YtpljdjmpamjkhaaGreatDoorYbj
import Derived.Test.YtpljdjmpamjkhaaGreatDoorYaq
set_option linter.unusedVariables false
set_option linter.unusedSimpArgs false
namespace Go.Proofs.YtpljdjmpamjkhaaGreatDoor
open Go.RowKit Go.Lib
theorem iX{w:World}{ops:Array Oper}{o:Oper}{a:Act}{K:Act->World->Prop}{Q:Exit->Act->World->Prop}{E:Prop}(ee:o.guard=none)(s x:Operand)(t:TypeId)
  (ho:o.op=.call { callee:=.builtin .append,args:=#[s,x],argTypes:=#[t,t] })
  (base:Nat) (e:TypeId) (i:TypeInfo) (z:Value) (size bytes:Nat) (ht:Tryz.prog.underlying t=some (.slice e)) (hi:Tryz.prog.info? e=some i) (hz:i.zero=some z)
  (zN:i.size=size) (EF:i.bytes=bytes) (hzs:z.cells.size=size) (jq:0<size)
  (v:Value) (n:Nat) (xs:List Value) (hs:a.eval s=v) (az:w.ownsRow base e size v n xs)
  (ad:Addr) (m c:Nat) (news:List Value) (hx:a.eval x=.slice (some ad) m c) (hl:news.length=m*size) (hnews:∀ j u,news[j]?=some u->w.cell? (ad.add j)=some u) (h1:∀ u∈news,u.oneCell'=true)
  (h63:n+m<=maxLen) (hbytes:(n+m)*bytes<=140737488355328) (aH:base<=w.heap.size)
  (h:∀ v' w',w'.ownsRow base e size v' (n+m) (xs++news)->w.grownBy w' v.ownBlock->(v'.ownBlock=v.ownBlock∨v'.ownBlock=some w.heap.size)->K (a.put o.dst v') w') :
  if Region.wanted o (yielded ops a.tmps)=true then Oper.wp Tryz.prog o a w K Q else E:=by
 have hw:Region.wanted o (yielded ops a.tmps)=true:=by simp[Region.wanted,ee]
 rw[if_pos hw];obtain⟨v',w',hr,o1,g1,_,e1⟩:=run_append_own_at (P:=Tryz.prog) w base t o.type e i z size bytes ht hi hz zN EF hzs jq v n xs az ad m c news hl hnews h1 h63 hbytes aH;unfold Oper.wp execOp;simp only[ho,resolve,invoke,builtin,Sem.run_bind,Sem.run_pure,Result.andThen_ok,jaU,jal,jaG,hs,hx,hr];exact h v' w' o1 g1 e1
theorem bX{W W':World}{B:Nat}{e:TypeId}{size n:Nat}{v:Value}{xs:List Value}(h:W.ownsRow B e size v n xs)(hb:∀ k,v.ownBlock=some k->W'.heap[k]?=W.heap[k]?):W'.ownsRow B e size v n xs:=by
 refine⟨h.1,?_⟩;rcases h.2 with hn | ⟨g,cap,cur,rfl,h1,h2,r⟩
 ·exact .inl hn
 ·exact .inr ⟨g,cap,cur,rfl,h1,(hb g rfl).trans h2,r⟩
theorem aL{W:World}{B:Nat}{e:TypeId}{size n:Nat}{v:Value}{xs:List Value}(h:W.ownsRow B e size v n xs){k:Nat}(hk:v.ownBlock=some k):B<=k/\k<W.heap.size/\∃ cur,W.heap[k]?=some (.cells cur e (0,0)):=by
 rcases h.2 with ⟨rfl,_⟩ | ⟨g,cap,cur,rfl,h1,h2,r⟩
 ·cases hk
 ·cases hk
  exact⟨h1,(Array.getElem?_eq_some_iff.1 h2).1,cur,h2⟩
theorem fK{W:World}{B B':Nat}{e e':TypeId}{size size' n n':Nat}{v v':Value}{xs xs':List Value}(h:W.ownsRow B e size v n xs)(h':W.ownsRow B' e' size' v' n' xs')(he:e≠e'){k:Nat}(hk:v.ownBlock=some k):v'.ownBlock≠some k:=by
 intro hk';obtain⟨_,_,c,h1⟩:=aL h hk;obtain⟨_,_,c',h2⟩:=aL h' hk';rw[h1]at h2;cases h2
 exact he rfl
structure Grm (W:World) (B q R n:Nat) (rvs:List Value) (rows:List Row) (vs:Value) (sts:List Stt):Prop where
 box:W.heap[q]?=some (.cells #[.slice (some ⟨R,0,none⟩) n n,vs] 109 (0,0))
 hq:B<=q
 row:W.ownsRow B 79 1 (.slice (some ⟨R,0,none⟩) n n) n rvs
 len:rows.length=n
 own:∀ i (h:i<rows.length),∃ rv,rvs[i]?=some rv/\OwnV W B rv rows[i]
 apart:∀(i j:Nat) (ri rj:Value) (b:Nat),i≠j->rvs[i]?=some ri->rvs[j]?=some rj->ri.ownBlock=some b->rj.ownBlock≠some b
 st:W.ownsRow B 54 10 vs sts.length (sts.flatMap celS)
section
variable {W W':World} {B q R n:Nat} {rvs:List Value} {rows:List Row} {vs:Value} {sts:List Stt}
theorem Grm.lt(h:Grm W B q R n rvs rows vs sts):q<W.heap.size:=(Array.getElem?_eq_some_iff.1 h.box).1
theorem Grm.turn(h:Grm W B q R n rvs rows vs sts)(hb:∀ k,B<=k->k<W.heap.size->W'.heap[k]?=W.heap[k]?):Grm W' B q R n rvs rows vs sts:=by
 refine⟨(hb q h.hq h.lt).trans h.box,h.hq,bX h.row fun k hk=>?_,h.len,fun i hi=>?_,h.apart,bX h.st fun k hk=>?_⟩
 ·obtain⟨a,b,_⟩:=aL h.row hk
  exact hb k a b
 ·obtain⟨rv,h1,h2⟩:=h.own i hi
  exact⟨rv,h1,bX h2 fun k hk=>by obtain⟨a,b,_⟩:=aL h2 hk;exact hb k a b⟩
 ·obtain⟨a,b,_⟩:=aL h.st hk
  exact hb k a b
theorem Grm.kept(h:Grm W B q R n rvs rows vs sts)(hb:Below W.heap.size W W'):Grm W' B q R n rvs rows vs sts:=h.turn fun k _ hk=>hb.block k hk
theorem Grm.frp(h:Grm W B q R n rvs rows vs sts){p:Nat}(hf:Fr p W.heap.size W W')(hp:p<B):Grm W' B q R n rvs rows vs sts:=h.turn fun k hB hk=>hf.block k hk (by omega)
theorem Grm.low(h:Grm W B q R n rvs rows vs sts){B':Nat}(hB:B'<=B):Grm W B' q R n rvs rows vs sts :=
 have lo:∀{e size n:Nat} {v:Value} {xs:List Value},W.ownsRow B e size v n xs->W.ownsRow B' e size v n xs:=fun{e size n v xs} h=>⟨h.1,h.2.imp id fun⟨g,cap,cur,hv,hb,r⟩=>⟨g,cap,cur,hv,ZZ hB hb,r⟩⟩
 ⟨h.box,ZZ hB h.hq,lo h.row,h.len,fun i hi=>by obtain⟨rv,h1,h2⟩:=h.own i hi;exact⟨rv,h1,lo h2⟩,h.apart,lo h.st⟩
theorem Grm.cells(h:Grm W B q R n rvs rows vs sts):W.cell? ⟨q,0,none⟩=some (.slice (some ⟨R,0,none⟩) n n)/\W.cell? ⟨q,1,none⟩=some vs/\W.frozen? ⟨q,0,none⟩=false/\W.frozen? ⟨q,1,none⟩=false :=
 ⟨by rw[ax h.box];rfl,by rw[ax h.box];rfl,by simp[World.frozen?,h.box],by simp[World.frozen?,h.box]⟩
theorem Grm.addStat(h:Grm W B q R n rvs rows vs sts){vs':Value}{s:Stt}(ho:W'.ownsRow B 54 10 vs' (sts.length+1) (sts.flatMap celS++celS s))(hg:W.grownBy W' vs.ownBlock)(he:vs'.ownBlock=vs.ownBlock∨vs'.ownBlock=some W.heap.size) :
  Grm (W'.setCell ⟨q,1,none⟩ vs') B q R n rvs rows vs' (sts++[s])/\Below B W (W'.setCell ⟨q,1,none⟩ vs')/\(W'.cell? ⟨q,1,none⟩=some vs/\W'.frozen? ⟨q,1,none⟩=false) /\
   ∀(v:Value) (l:List Cl),OwnV W B v l->OwnV (W'.setCell ⟨q,1,none⟩ vs') B v l:=by
 have hqv:vs.ownBlock≠some q:=fun e=>by
  obtain⟨_,_,c,hc⟩:=aL h.st e;rw[h.box]at hc;cases hc
 have hq':W'.heap[q]?=some (.cells #[.slice (some ⟨R,0,none⟩) n n,vs] 109 (0,0)):=(hg.block q h.lt (fun e=>hqv e.symm)).trans h.box
 have hqv':vs'.ownBlock≠some q:=fun e=>by
  rcases he with e1 | e1
  ·exact hqv (e1.symm.trans e)
  ·rw[e1]at e
   cases e
   exact absurd h.lt (Nat.lt_irrefl _)
 have hn:∀ k,k≠q->(W'.setCell ⟨q,1,none⟩ vs').heap[k]?=W'.heap[k]?:=fun k hk=>Below.heap_setCell _ _ _ _ (by simpa using hk)
 have key:∀{e size m:Nat} {v:Value} {xs:List Value},W.ownsRow B e size v m xs->e≠54->e≠109->(W'.setCell ⟨q,1,none⟩ vs').ownsRow B e size v m xs:=fun{e size m v xs} ho' h1 h2=>bX ho' fun k hk=>by
  obtain⟨k1,k2,c,hc⟩:=aL ho' hk
  have hkq:k≠q:=by
   rintro rfl;rw[h.box]at hc;cases hc
   exact h2 rfl
  rw[hn k hkq];exact hg.block k k2 (fun e'=>fK ho' h.st h1 hk e'.symm)
 refine⟨⟨?_,h.hq,key h.row (by decide) (by decide),h.len,fun i hi=>?_,h.apart,?_⟩,⟨hg.os,hg.tape,hg.output,ZZ hg.size (by simp[World.setCell]),fun k hk=>?_⟩,⟨by rw[ax hq'];rfl,by simp[World.frozen?,hq']⟩,fun v l hv=>key hv (by decide) (by decide)⟩
 ·rw[cM hq']
  rfl
 ·obtain⟨rv,h1,h2⟩:=h.own i hi
  exact⟨rv,h1,key h2 (by decide) (by decide)⟩
 ·rw[jaV,ZT]
  simp only[ZW,jad,ja2,List.flatMap_nil,Z7];exact bX ho fun k hk=>hn k (fun e=>hqv' (e ▸ hk))
 ·rw[hn k (by have:=h.hq;omega)]
  refine hg.block k (by have:=h.lt;have:=h.hq;omega) (fun e=>?_);have:=(aL h.st e.symm).1;omega
theorem Grm.addCell(h:Grm W B q R n rvs rows vs sts){j:Nat}(hj:j<rows.length){rv rv':Value}{x:Cl}(zU:rvs[j]?=some rv)(ho:OwnV W' B rv' (rows[j]++[x]))(hg:W.grownBy W' rv.ownBlock)(he:rv'.ownBlock=rv.ownBlock∨rv'.ownBlock=some W.heap.size) :
  Grm (W'.setCell ⟨R,j,none⟩ rv') B q R n (rvs.set j rv') (rows.set j (rows[j]++[x])) vs sts/\Below B W (W'.setCell ⟨R,j,none⟩ rv')/\(W'.cell? ⟨R,j,none⟩=some rv/\W'.frozen? ⟨R,j,none⟩=false/\W'.cell? ⟨q,0,none⟩=some (.slice (some ⟨R,0,none⟩) n n)) /\
   ∀(v:Value) (l:List Cl),OwnV W B v l->(∀ b,rv.ownBlock=some b->v.ownBlock≠some b)->OwnV (W'.setCell ⟨R,j,none⟩ rv') B v l:=by
 obtain⟨rv0,e0,jO⟩:=h.own j hj;rw[zU]at e0;cases e0
 obtain⟨hR1,hR2,cR,hcR⟩:=aL (k:=R) h.row rfl;have hRrv:rv.ownBlock≠some R:=fun e=>fK jO h.row (by decide) e rfl
 have hRrv':rv'.ownBlock≠some R:=fun e=>by
  rcases he with e1 | e1
  ·exact hRrv (e1.symm.trans e)
  ·rw[e1]at e
   cases e
   exact absurd hR2 (Nat.lt_irrefl _)
 have hqrv:rv.ownBlock≠some q:=fun e=>by
  obtain⟨_,_,c,hc⟩:=aL jO e;rw[h.box]at hc;cases hc
 have hqR:q≠R:=by
  rintro rfl;rw[h.box]at hcR;cases hcR
 have hn:∀ k,k≠R->(W'.setCell ⟨R,j,none⟩ rv').heap[k]?=W'.heap[k]?:=fun k hk=>Below.heap_setCell _ _ _ _ (by simpa using hk)
 have hrow':W'.ownsRow B 79 1 (.slice (some ⟨R,0,none⟩) n n) n rvs:=bX h.row fun k hk=>by
  cases hk
  exact hg.block R hR2 (fun e=>hRrv e.symm)
 have bQ:=h.len
 have key:∀ i (hi:i<rows.length) ri,i≠j->rvs[i]?=some ri->OwnV W B ri rows[i]->OwnV (W'.setCell ⟨R,j,none⟩ rv') B ri rows[i]:=fun i hi ri Mq BN hoi=>bX hoi fun k hk=>by
  obtain⟨_,k2,_⟩:=aL hoi hk
  have hkR:k≠R:=by
   rintro rfl;exact fK hoi h.row (by decide) hk rfl
  rw[hn k hkR];exact hg.block k k2 (fun e=>h.apart i j ri rv k Mq BN zU hk e.symm)
 refine⟨⟨?_,h.hq,(hrow'.stored j rv').1,by rw[ja4];exact bQ,fun i hi=>?_,fun i i' ri ri' b hii BN hri' hb=>?_,bX h.st fun k hk=>?_⟩,⟨hg.os,hg.tape,hg.output,ZZ hg.size (by simp[World.setCell]),fun k hk=>?_⟩,⟨?_,hrow'.frozenAt j,by rw[ax ((hg.block q h.lt (fun e=>hqrv e.symm)).trans h.box)];rfl⟩,fun v l hv hd=>bX hv fun k hk=>?_⟩
 ·rw[hn q hqR]
  exact(hg.block q h.lt (fun e=>hqrv e.symm)).trans h.box
 ·rw[ja4]at hi
  by_cases Mq:i=j
  ·subst Mq
   have hlr:i<rvs.length:=(List.getElem?_eq_some_iff.1 zU).1;refine⟨rv',by rw[List.getElem?_set_self hlr],?_⟩;rw[List.getElem_set_self];exact bX ho fun k hk=>hn k (fun e=>hRrv' (e ▸ hk))
  ·obtain⟨ri,h1,h2⟩:=h.own i hi
   refine⟨ri,by rw[List.getElem?_set_ne (Ne.symm Mq)];exact h1,?_⟩;rw[List.getElem_set_ne (Ne.symm Mq)];exact key i hi ri Mq h1 h2
 ·have hlr:j<rvs.length:=(List.getElem?_eq_some_iff.1 zU).1
  have old:∀ m rm,rvs[m]?=some rm->m<rows.length:=fun m rm hm=>by
   have:=(List.getElem?_eq_some_iff.1 hm).1;have h1:=h.row.1;omega
  have fresh:∀ m rm k,m≠j->rvs[m]?=some rm->rm.ownBlock=some k->rv'.ownBlock≠some k:=fun m rm k hmj hm hk e=>by
   obtain⟨r0,h1,h2⟩:=h.own m (old m rm hm);rw[hm]at h1;cases h1
   rcases he with e1 | e1
   ·exact h.apart m j rm rv k hmj hm zU hk (e1.symm.trans e)
   ·rw[e1]at e
    cases e
    exact absurd (aL h2 hk).2.1 (Nat.lt_irrefl _)
  by_cases Mq:i=j
  ·subst Mq
   rw[List.getElem?_set_self hlr]at BN;cases BN
   rw[List.getElem?_set_ne hii]at hri';intro e;exact fresh i' ri' b (Ne.symm hii) hri' e hb
  ·rw[List.getElem?_set_ne (Ne.symm Mq)]at BN
   by_cases hij':i'=j
   ·subst hij'
    rw[List.getElem?_set_self hlr]at hri';cases hri'
    exact fresh i ri b Mq BN hb
   ·rw[List.getElem?_set_ne (Ne.symm hij')]at hri'
    exact h.apart i i' ri ri' b hii BN hri' hb
 ·obtain⟨_,k2,_⟩:=aL h.st hk
  have hkR:k≠R:=by
   rintro rfl;exact fK h.st h.row (by decide) hk rfl
  rw[hn k hkR];exact hg.block k k2 (fun e=>fK h.st jO (by decide) hk e.symm)
 ·rw[hn k (by omega)]
  refine hg.block k (by omega) (fun e=>?_);have:=(aL jO e.symm).1;omega
 ·have h1:=h.row.1
  rw[hrow'.cellAt j (by omega)];exact zU
 ·obtain⟨_,k2,_⟩:=aL hv hk
  have hkR:k≠R:=by
   rintro rfl;exact fK hv h.row (by decide) hk rfl
  rw[hn k hkR];exact hg.block k k2 (fun e=>hd k e.symm hk)
end
end Go.Proofs.YtpljdjmpamjkhaaGreatDoor
