import Derived.Test.YtpljdjmpamjkhaaGreatDoorSar
set_option linter.all false
set_option maxRecDepth 100000
set_option maxHeartbeats 4000000
namespace Go.Proofs.YtpljdjmpamjkhaaGreatDoor
open Tryz
open Go.RowKit Go.Lib
def iQ{w:World}{ops:Array Oper}{o:Oper}{a:Act}{K:Act->World->Prop}{Q:Exit->Act->World->Prop}{E:Prop}(ef:o.guard=none)(s x:Operand)(t:TypeId)
  (ho:o.op=.call { callee:=.builtin .append,args:=#[s,x],argTypes:=#[t,t] })
  (base:Nat) (e:TypeId) (i:TypeInfo) (z:Value) (size bytes:Nat) (ht:prog.underlying t=some (.slice e)) (hi:prog.info? e=some i) (hz:i.zero=some z)
  (AR:i.size=size) (hby:i.bytes=bytes) (hzs:z.cells.size=size) (lA:0<size)
  (v:Value) (n:Nat) (xs:List Value) (hs:a.eval s=v) (ax:w.ownsRow base e size v n xs)
  (ad:Addr) (m c:Nat) (news:List Value) (hx:a.eval x=.slice (some ad) m c) (hl:news.length=m*size) (hnews:∀ j u,news[j]?=some u->w.cell? (ad.add j)=some u) (h1:∀ u∈news,u.oneCell'=true)
  (h63:n+m<=maxLen) (hbytes:(n+m)*bytes<=140737488355328) (aF:base<=w.heap.size)
  (h:∀ v' w',w'.ownsRow base e size v' (n+m) (xs++news)->w.grownBy w' v.ownBlock->(v'.ownBlock=v.ownBlock∨v'.ownBlock=some w.heap.size)->K (a.put o.dst v') w') :
  if Region.wanted o (yielded ops a.tmps)=true then Oper.wp prog o a w K Q else E:=by
 have hw:Region.wanted o (yielded ops a.tmps)=true:=by simp[Region.wanted,ef]
 rw[jey hw];obtain⟨v',w',hr,o1,g1,_,e1⟩:=run_append_own_at (P:=prog) w base t o.type e i z size bytes ht hi hz AR hby hzs lA v n xs ax ad m c news hl hnews h1 h63 hbytes aF;unfold Oper.wp execOp;simp only[ho,resolve,invoke,builtin,Sem.run_bind,Sem.run_pure,Result.andThen_ok,jfN,je4,jfr,hs,hx,hr];exact h v' w' o1 g1 e1
def bT{W W':World}{B:Nat}{e:TypeId}{size n:Nat}{v:Value}{xs:List Value}(h:W.ownsRow B e size v n xs)(hb:∀ k,v.ownBlock=some k->W'.heap[k]?=W.heap[k]?):W'.ownsRow B e size v n xs:=by
 refine⟨h.1,?_⟩;rcases h.2 with hn | ⟨g,cap,cur,rfl,h1,h2,r⟩
 ·exact .inl hn
 ·exact .inr ⟨g,cap,cur,rfl,h1,(hb g rfl).trans h2,r⟩
def aN{W:World}{B:Nat}{e:TypeId}{size n:Nat}{v:Value}{xs:List Value}(h:W.ownsRow B e size v n xs){k:Nat}(hk:v.ownBlock=some k):B<=k/\k<W.heap.size/\∃ cur,W.heap[k]?=some (.cells cur e (0,0)):=by
 rcases h.2 with ⟨rfl,_⟩ | ⟨g,cap,cur,rfl,h1,h2,r⟩
 ·cases hk
 ·cases hk
  exact⟨h1,(Array.getElem?_eq_some_iff.1 h2).1,cur,h2⟩
def ey{W:World}{B B':Nat}{e e':TypeId}{size size' n n':Nat}{v v':Value}{xs xs':List Value}(h:W.ownsRow B e size v n xs)(h':W.ownsRow B' e' size' v' n' xs')(he:e≠e'){k:Nat}(hk:v.ownBlock=some k):v'.ownBlock≠some k:=by
 intro hk';obtain⟨_,_,c,h1⟩:=aN h hk;obtain⟨_,_,c',h2⟩:=aN h' hk';rw[h1]at h2;cases h2
 exact he rfl
structure Grm (W:World) (B q R n:Nat) (rvs:List Value) (rows:List Row) (vs:Value) (sts:List Stt):Prop where
 box:W.heap[q]?=some (.cells #[.slice (some ⟨R,0,none⟩) n n,vs] 109 (0,0))
 hq:B<=q
 row:W.ownsRow B 79 1 (.slice (some ⟨R,0,none⟩) n n) n rvs
 len:rows.length=n
 own:∀ i (h:i<rows.length),∃ rv,rvs[i]?=some rv/\OwnV W B rv rows[i]
 apart:∀(i j:Nat) (ri rj:Value) (b:Nat),i≠j->rvs[i]?=some ri->rvs[j]?=some rj->ri.ownBlock=some b->rj.ownBlock≠some b
 st:W.ownsRow B 54 10 vs sts.length (sts.flatMap celS)
section
variable {W W':World} {B q R n:Nat} {rvs:List Value} {rows:List Row} {vs:Value} {sts:List Stt}
def Grm.lt(h:Grm W B q R n rvs rows vs sts):q<W.heap.size:=(Array.getElem?_eq_some_iff.1 h.box).1
def Grm.turn(h:Grm W B q R n rvs rows vs sts)(hb:∀ k,B<=k->k<W.heap.size->W'.heap[k]?=W.heap[k]?):Grm W' B q R n rvs rows vs sts:=by
 refine⟨(hb q h.hq h.lt).trans h.box,h.hq,bT h.row λk hk=>?_,h.len,λi hi=>?_,h.apart,bT h.st λk hk=>?_⟩
 ·obtain⟨a,b,_⟩:=aN h.row hk
  exact hb k a b
 ·obtain⟨rv,h1,h2⟩:=h.own i hi
  exact⟨rv,h1,bT h2 λk hk=>by obtain⟨a,b,_⟩:=aN h2 hk;exact hb k a b⟩
 ·obtain⟨a,b,_⟩:=aN h.st hk
  exact hb k a b
def Grm.kept(h:Grm W B q R n rvs rows vs sts)(hb:jgu W W'):Grm W' B q R n rvs rows vs sts:=h.turn λk _ hk=>hb.block k hk
def Grm.frp(h:Grm W B q R n rvs rows vs sts){p:Nat}(hf:Fr p W.heap.size W W')(hp:p<B):Grm W' B q R n rvs rows vs sts:=h.turn λk hB hk=>hf.block k hk (by omega)
def Grm.low(h:Grm W B q R n rvs rows vs sts){B':Nat}(hB:B'<=B):Grm W B' q R n rvs rows vs sts :=
 have lo:∀{e size n:Nat} {v:Value} {xs:List Value},W.ownsRow B e size v n xs->W.ownsRow B' e size v n xs:=λ{e size n v xs} h=>⟨h.1,h.2.imp id λ⟨g,cap,cur,hv,hb,r⟩=>⟨g,cap,cur,hv,jeK hB hb,r⟩⟩
 ⟨h.box,jeK hB h.hq,lo h.row,h.len,λi hi=>by obtain⟨rv,h1,h2⟩:=h.own i hi;exact⟨rv,h1,lo h2⟩,h.apart,lo h.st⟩
def Grm.cells(h:Grm W B q R n rvs rows vs sts):W.cell? ⟨q,0,none⟩=some (.slice (some ⟨R,0,none⟩) n n)/\W.cell? ⟨q,1,none⟩=some vs/\W.frozen? ⟨q,0,none⟩=false/\W.frozen? ⟨q,1,none⟩=false :=
 ⟨by rw[an h.box];rfl,by rw[an h.box];rfl,by simp[World.frozen?,h.box],by simp[World.frozen?,h.box]⟩
def Grm.addStat(h:Grm W B q R n rvs rows vs sts){vs':Value}{s:Stt}(ho:W'.ownsRow B 54 10 vs' (sts.length+1) (sts.flatMap celS++celS s))(hg:W.grownBy W' vs.ownBlock)(he:vs'.ownBlock=vs.ownBlock∨vs'.ownBlock=some W.heap.size) :
  Grm (W'.setCell ⟨q,1,none⟩ vs') B q R n rvs rows vs' (sts++[s])/\Below B W (W'.setCell ⟨q,1,none⟩ vs')/\(W'.cell? ⟨q,1,none⟩=some vs/\W'.frozen? ⟨q,1,none⟩=false) /\
   ∀(v:Value) (l:List Cl),OwnV W B v l->OwnV (W'.setCell ⟨q,1,none⟩ vs') B v l:=by
 have hqv:vs.ownBlock≠some q:=λe=>by
  obtain⟨_,_,c,hc⟩:=aN h.st e;rw[h.box]at hc;cases hc
 have hq':W'.heap[q]?=some (.cells #[.slice (some ⟨R,0,none⟩) n n,vs] 109 (0,0)):=(hg.block q h.lt (λe=>hqv e.symm)).trans h.box
 have hqv':vs'.ownBlock≠some q:=λe=>by
  rcases he with e1 | e1
  ·exact hqv (e1.symm.trans e)
  ·rw[e1]at e
   cases e
   exact absurd h.lt (Nat.lt_irrefl _)
 have hn:∀ k,k≠q->(W'.setCell ⟨q,1,none⟩ vs').heap[k]?=W'.heap[k]?:=λk hk=>Below.heap_setCell _ _ _ _ (by simpa using hk)
 have key:∀{e size m:Nat} {v:Value} {xs:List Value},W.ownsRow B e size v m xs->e≠54->e≠109->(W'.setCell ⟨q,1,none⟩ vs').ownsRow B e size v m xs:=λ{e size m v xs} ho' h1 h2=>bT ho' λk hk=>by
  obtain⟨k1,k2,c,hc⟩:=aN ho' hk
  have hkq:k≠q:=by
   rintro rfl;rw[h.box]at hc;cases hc
   exact h2 rfl
  rw[hn k hkq];exact hg.block k k2 (λe'=>ey ho' h.st h1 hk e'.symm)
 refine⟨⟨?_,h.hq,key h.row (by decide) (by decide),h.len,λi hi=>?_,h.apart,?_⟩,⟨hg.os,hg.tape,hg.output,jeK hg.size (by simp[World.setCell]),λk hk=>?_⟩,⟨by rw[an hq'];rfl,by simp[World.frozen?,hq']⟩,λv l hv=>key hv (by decide) (by decide)⟩
 ·rw[cQ hq']
  rfl
 ·obtain⟨rv,h1,h2⟩:=h.own i hi
  exact⟨rv,h1,key h2 (by decide) (by decide)⟩
 ·rw[jfH,jeC]
  simp only[jeI,jeZ,jfQ,List.flatMap_nil,jeS];exact bT ho λk hk=>hn k (λe=>hqv' (e ▸ hk))
 ·rw[hn k (by have:=h.hq;omega)]
  refine hg.block k (by have:=h.lt;have:=h.hq;omega) (λe=>?_);have:=(aN h.st e.symm).1;omega
def Grm.addCell(h:Grm W B q R n rvs rows vs sts){j:Nat}(hj:j<rows.length){rv rv':Value}{x:Cl}(uW:rvs[j]?=some rv)(ho:OwnV W' B rv' (rows[j]++[x]))(hg:W.grownBy W' rv.ownBlock)(he:rv'.ownBlock=rv.ownBlock∨rv'.ownBlock=some W.heap.size) :
  Grm (W'.setCell ⟨R,j,none⟩ rv') B q R n (rvs.set j rv') (rows.set j (rows[j]++[x])) vs sts/\Below B W (W'.setCell ⟨R,j,none⟩ rv')/\(W'.cell? ⟨R,j,none⟩=some rv/\W'.frozen? ⟨R,j,none⟩=false/\W'.cell? ⟨q,0,none⟩=some (.slice (some ⟨R,0,none⟩) n n)) /\
   ∀(v:Value) (l:List Cl),OwnV W B v l->(∀ b,rv.ownBlock=some b->v.ownBlock≠some b)->OwnV (W'.setCell ⟨R,j,none⟩ rv') B v l:=by
 obtain⟨rv0,e0,ft⟩:=h.own j hj;rw[uW]at e0;cases e0
 obtain⟨hR1,hR2,cR,hcR⟩:=aN (k:=R) h.row rfl;have hRrv:rv.ownBlock≠some R:=λe=>ey ft h.row (by decide) e rfl
 have hRrv':rv'.ownBlock≠some R:=λe=>by
  rcases he with e1 | e1
  ·exact hRrv (e1.symm.trans e)
  ·rw[e1]at e
   cases e
   exact absurd hR2 (Nat.lt_irrefl _)
 have hqrv:rv.ownBlock≠some q:=λe=>by
  obtain⟨_,_,c,hc⟩:=aN ft e;rw[h.box]at hc;cases hc
 have hqR:q≠R:=by
  rintro rfl;rw[h.box]at hcR;cases hcR
 have hn:∀ k,k≠R->(W'.setCell ⟨R,j,none⟩ rv').heap[k]?=W'.heap[k]?:=λk hk=>Below.heap_setCell _ _ _ _ (by simpa using hk)
 have hrow':W'.ownsRow B 79 1 (.slice (some ⟨R,0,none⟩) n n) n rvs:=bT h.row λk hk=>by
  cases hk
  exact hg.block R hR2 (λe=>hRrv e.symm)
 have bH:=h.len
 have key:∀ i (hi:i<rows.length) ri,i≠j->rvs[i]?=some ri->OwnV W B ri rows[i]->OwnV (W'.setCell ⟨R,j,none⟩ rv') B ri rows[i]:=λi hi ri QR Gi hoi=>bT hoi λk hk=>by
  obtain⟨_,k2,_⟩:=aN hoi hk
  have hkR:k≠R:=by
   rintro rfl;exact ey hoi h.row (by decide) hk rfl
  rw[hn k hkR];exact hg.block k k2 (λe=>h.apart i j ri rv k QR Gi uW hk e.symm)
 refine⟨⟨?_,h.hq,(hrow'.stored j rv').1,by rw[jf7];exact bH,λi hi=>?_,λi i' ri ri' b hii Gi hri' hb=>?_,bT h.st λk hk=>?_⟩,⟨hg.os,hg.tape,hg.output,jeK hg.size (by simp[World.setCell]),λk hk=>?_⟩,⟨?_,hrow'.frozenAt j,by rw[an ((hg.block q h.lt (λe=>hqrv e.symm)).trans h.box)];rfl⟩,λv l hv hd=>bT hv λk hk=>?_⟩
 ·rw[hn q hqR]
  exact(hg.block q h.lt (λe=>hqrv e.symm)).trans h.box
 ·rw[jf7]at hi
  by_cases QR:i=j
  ·subst QR
   have hlr:i<rvs.length:=(List.getElem?_eq_some_iff.1 uW).1;refine⟨rv',by rw[List.getElem?_set_self hlr],?_⟩;rw[List.getElem_set_self];exact bT ho λk hk=>hn k (λe=>hRrv' (e ▸ hk))
  ·obtain⟨ri,h1,h2⟩:=h.own i hi
   refine⟨ri,by rw[List.getElem?_set_ne (Ne.symm QR)];exact h1,?_⟩;rw[List.getElem_set_ne (Ne.symm QR)];exact key i hi ri QR h1 h2
 ·have hlr:j<rvs.length:=(List.getElem?_eq_some_iff.1 uW).1
  have old:∀ m rm,rvs[m]?=some rm->m<rows.length:=λm rm hm=>by
   have:=(List.getElem?_eq_some_iff.1 hm).1;have h1:=h.row.1;omega
  have fresh:∀ m rm k,m≠j->rvs[m]?=some rm->rm.ownBlock=some k->rv'.ownBlock≠some k:=λm rm k hmj hm hk e=>by
   obtain⟨r0,h1,h2⟩:=h.own m (old m rm hm);rw[hm]at h1;cases h1
   rcases he with e1 | e1
   ·exact h.apart m j rm rv k hmj hm uW hk (e1.symm.trans e)
   ·rw[e1]at e
    cases e
    exact absurd (aN h2 hk).2.1 (Nat.lt_irrefl _)
  by_cases QR:i=j
  ·subst QR
   rw[List.getElem?_set_self hlr]at Gi;cases Gi
   rw[List.getElem?_set_ne hii]at hri';intro e;exact fresh i' ri' b (Ne.symm hii) hri' e hb
  ·rw[List.getElem?_set_ne (Ne.symm QR)]at Gi
   by_cases hij':i'=j
   ·subst hij'
    rw[List.getElem?_set_self hlr]at hri';cases hri'
    exact fresh i ri b QR Gi hb
   ·rw[List.getElem?_set_ne (Ne.symm hij')]at hri'
    exact h.apart i i' ri ri' b hii Gi hri' hb
 ·obtain⟨_,k2,_⟩:=aN h.st hk
  have hkR:k≠R:=by
   rintro rfl;exact ey h.st h.row (by decide) hk rfl
  rw[hn k hkR];exact hg.block k k2 (λe=>ey h.st ft (by decide) hk e.symm)
 ·rw[hn k (by omega)]
  refine hg.block k (by omega) (λe=>?_);have:=(aN ft e.symm).1;omega
 ·have h1:=h.row.1
  rw[hrow'.cellAt j (by omega)];exact uW
 ·obtain⟨_,k2,_⟩:=aN hv hk
  have hkR:k≠R:=by
   rintro rfl;exact ey hv h.row (by decide) hk rfl
  rw[hn k hkR];exact hg.block k k2 (λe=>hd k e.symm hk)
end
def Mm:(prog.info? 79).map (λi=>(i.zero,i.size,i.bytes))=some (some (.slice none 0 0),1,24):=by kernel_rfl
def ez(rs:List Row)(l:List Cl):(psh rs l).length=rs.length:=by simp[psh]
def oG{rs:List Row}{l:List Cl}{i:Nat}(h:i<rs.length):(psh rs l)[i]'(by rw[ez];exact h)=rs[i]++(l[i]?).toList:=by simp[psh]
def Zu(rs:List Row):psh rs []=rs:=by
 apply List.ext_getElem (ez _ _)
 intro i h1 h2;rw[oG h2];simp
def Vq{rs:List Row}{l:List Cl}{j:Nat}(h1:j<rs.length)(h2:j<l.length):(psh rs (l.take j)).set j ((psh rs (l.take j))[j]'(by rw[ez];exact h1)++[l[j]])=psh rs (l.take (j+1)):=by
 apply List.ext_getElem (by simp[ez])
 intro i h3 h4;rw[ez]at h4;rw[oG h4];by_cases e:i=j
 ·subst e
  rw[List.getElem_set_self]
  have e:(psh rs (l.take i))[i]'(by rw[ez];exact h1)=rs[i]:=by
   rw[oG (l:=l.take i) h1];simp[List.getElem?_take]
  rw[e];simp[List.getElem?_take,h2]
 ·rw[List.getElem_set_ne (Ne.symm e),oG h4]
  congr 2
  simp only[List.getElem?_take];by_cases h5:i<j
  ·rw[jey h5,jey (by omega)]
  ·rw[jex h5,jex (by omega)]
def Qm{k n:Nat}{s:S3}(hk:1<=k/\k<=3)(hn:n<=64)(hb:Bs s.1):(∀ x∈(ip k n s).1,aI x)/\(ip k n s).1.length<=n:=by
 unfold ip;simp only;cases h:ge k (s.1.take (fU 0 s.1.length s.2.1)) n with
 | none=>exact⟨λx hx=>by simp at hx,by simp⟩
 | some l =>
  obtain⟨h1,h2,_⟩:=(lN hk (by omega) (hb.take _)).1 h;exact⟨λx hx=>(h1.2.2 x hx).fine,by simp[h2]⟩
def Vr(k n:Nat)(s:S3):(ip k n s).2.1.length<=s.1.length:=by
 unfold ip;simp only[jeX];omega
def Vs(l:List Cl)(s:S3):(pR l s).1=s.1:=by
 unfold pR;split<;>rfl
def FD{fs:List Fd}{n:Nat}{s:S3}:∀{k:Nat},k<=fs.length->(grK fs n s k).1.length=n/\(grK fs n s k).2.1.length=k/\(grK fs n s k).2.2.1.length<=s.1.length/\∀ r∈(grK fs n s k).1,r.length<=k:=by
 intro k;induction k with
 | zero=>exact λ_=>⟨by simp[xG],rfl,jeA _,λr hr=>by rw[xG]at hr;simp only[List.mem_replicate]at hr;rw[hr.2];exact jeA _⟩
 | succ k ih =>
  intro h;obtain⟨h1,h2,h3,h4⟩:=ih (by omega);rw[rC (by omega)];unfold grS;refine⟨by simp only[ez];exact h1,by simp[h2],?_,?_⟩
  ·simp only
   rw[Vs];exact jeK (Vr _ _ _) h3
  ·simp only
   intro r hr;obtain⟨i,hi,rfl⟩:=List.getElem_of_mem hr;have hi':=hi;rw[ez]at hi';rw[oG hi',jeC];have:=h4 _ (jeD hi');have h5:∀ o:Option Cl,o.toList.length<=1:=λo=>by cases o<;>simp
   have:=h5 ((ip fs[k].2.2.1 n (grK fs n s k).2.2).1[i]?);omega
def dI{W:World}{B:Nat}{e:TypeId}{size n:Nat}{v:Value}{xs:List Value}(h:W.ownsRow B e size v n xs):∃ a m c,v=.slice a m c:=by
 rcases h.2 with ⟨h,_⟩ | ⟨_,_,_,h,_⟩
 ·exact⟨_,_,_,h⟩
 ·exact⟨_,_,_,h⟩
def yN{w:World}{ops:Array Oper}{o:Oper}{a:Act}{K:Act->World->Prop}{Q:Exit->Act->World->Prop}{E:Prop}(ef:o.guard=none)(s x:Operand)
  (ho:o.op=.call { callee:=.builtin .append,args:=#[s,x],argTypes:=#[107,107] })
  (base:Nat) (v:Value) (g:Nat) (z:Stt) (l0:List Stt) (hs:a.eval s=v) (ax:w.ownsRow base 54 10 v l0.length (l0.flatMap celS)) (hx:a.eval x=.slice (some ⟨g,0,none⟩) 1 1)
  (hc:Stb w g z) (hbytes:l0.length<=100000) (aF:base<=w.heap.size)
  (h:∀ v' w',w'.ownsRow base 54 10 v' (l0.length+1) (l0.flatMap celS++celS z)->w.grownBy w' v.ownBlock->(v'.ownBlock=v.ownBlock∨v'.ownBlock=some w.heap.size)->K (a.put o.dst v') w') :
  if Region.wanted o (yielded ops a.tmps)=true then Oper.wp prog o a w K Q else E:=by
 obtain⟨i0,hi,bR,hz1',aX⟩:=jeT Vp
 refine iQ ef s x 107 ho base 54 i0 (.agg #[.int .i64 0,.int .i64 0,.bool false,.bool false,.int .u8 0,.int .i64 0,.string ⟨#[]⟩,.int .u8 0,.int .i64 0,.string ⟨#[]⟩]) 10 88 underlying107 hi bR hz1' aX rfl (by decide) v l0.length (l0.flatMap celS) hs ax ⟨g,0,none⟩ 1 1 (celS z) hx rfl ?_ (λu hu=>by
  unfold celS at hu;simp only[jeL,jgc,or_false]at hu;rcases hu with rfl | rfl | rfl | rfl | rfl | rfl | rfl | rfl | rfl | rfl<;>rfl) (by unfold maxLen;omega) (by omega) aF h
 intro j u hu;rw[oP];unfold Stb at hc;rw[an hc];unfold celS at hu;simpa using hu
def yO{w:World}{ops:Array Oper}{o:Oper}{a:Act}{K:Act->World->Prop}{Q:Exit->Act->World->Prop}{E:Prop}(ef:o.guard=none)(s x:Operand)
  (ho:o.op=.call { callee:=.builtin .append,args:=#[s,x],argTypes:=#[79,79] })
  (base:Nat) (v:Value) (g:Nat) (z:Cl) (l0:List Cl) (hs:a.eval s=v) (ax:OwnV w base v l0) (hx:a.eval x=.slice (some ⟨g,0,none⟩) 1 1)
  (hc:w.cell? ⟨g,0,none⟩=some (cz z)) (hbytes:l0.length<=100000) (aF:base<=w.heap.size)
  (h:∀ v' w',OwnV w' base v' (l0++[z])->w.grownBy w' v.ownBlock->(v'.ownBlock=v.ownBlock∨v'.ownBlock=some w.heap.size)->K (a.put o.dst v') w') :
  if Region.wanted o (yielded ops a.tmps)=true then Oper.wp prog o a w K Q else E:=by
 obtain⟨i0,hi,bR,hz1',aX⟩:=jeT wB;have hvc:=ay l0
 refine iQ ef s x 79 ho base 78 i0 .nilIface 1 16 underlying79 hi bR hz1' aX rfl (by decide) v l0.length (aE l0) hs ax ⟨g,0,none⟩ 1 1 [cz z] hx rfl ?_ (λu hu=>by
  simp only[jeL,jgc,or_false]at hu;subst hu;rcases xP z with e | ⟨_,_,e⟩<;>rw[e]<;>rfl) (by unfold maxLen;omega) (by omega) aF ?_
 ·intro j u hu
  cases j with
  | zero =>
   rw[oP];simpa [hc]using hu
  | succ j=>simp at hu
 ·intro v' w' o1 g1 e1
  refine h v' w' ?_ g1 e1;unfold OwnV;rw[jeC];have:aE (l0++[z])=aE l0++[cz z]:=by simp[aE]
  rw[this];exact o1
def Gro(W:World)(B:Nat)(v:Value)(rows:List Row)(sts:List Stt):Prop :=
 ∃ R rvs vs,v=.agg #[.slice (some ⟨R,0,none⟩) rows.length rows.length,vs]/\W.ownsRow B 79 1 (.slice (some ⟨R,0,none⟩) rows.length rows.length) rows.length rvs /\
  (∀ i (h:i<rows.length),∃ rv,rvs[i]?=some rv/\OwnV W B rv rows[i])/\W.ownsRow B 54 10 vs sts.length (sts.flatMap celS)
def Grm.gro{W:World}{B q R n:Nat}{rvs:List Value}{rows:List Row}{vs:Value}{sts:List Stt}(h:Grm W B q R n rvs rows vs sts):Gro W B (.agg #[.slice (some ⟨R,0,none⟩) n n,vs]) rows sts:=by
 obtain⟨_,_,h1,h2,h3,_,h4⟩:=h;subst h2;exact⟨R,rvs,vs,rfl,h1,h3,h4⟩
def Sf.keptW{W W':World}{B:Nat}{v:Value}{l:List Fd}(h:Sf W v l)(hv:∀ k,v.ownBlock=some k->k<B)(hb:Below B W W'):Sf W' v l:=by
 obtain⟨a,cap,rfl,h2,h3,h0,h4⟩:=h;refine⟨a,cap,rfl,h2,h3,h0,λh0=>?_⟩;obtain⟨b,off,rfl,h6,h7⟩:=h4 h0;have hb':b<B:=hv b rfl;exact⟨b,off,rfl,jeY h6 hb.size,λj x hj=>(hb.cell (p:=⟨b,off+j,none⟩) hb').trans (h7 j x hj)⟩
def FE{w:World}{p:Nat}{c f:List Nat}{fl:Bool}(h:R3 w p c f fl){fv:Value}{fs:List Fd}(hs:Sf w fv fs)(hw:∀ i,fv.ownBlock=some i->i<p)(hk:∀ x∈fs,1<=x.2.2.1/\x.2.2.1<=3)(id n:Nat)(hn:1<=n/\n<=64)(eI:fs.length<=8)(gV:c.length<=100000000) :
  Calls prog 142 #[.pointer (some ⟨p,0,none⟩),.agg #[.int .u32 (id:Int),fv],.int .i64 (n:Int)] w λr w'=>(∃ v,r=.returned v/\Gro w' w.heap.size v (grK fs n (c,f,fl) fs.length).1 (grK fs n (c,f,fl) fs.length).2.1)/\R3 w' p (grK fs n (c,f,fl) fs.length).2.2.1 (grK fs n (c,f,fl) fs.length).2.2.2.1 (grK fs n (c,f,fl) fs.length).2.2.2.2/\Fr p w.heap.size w w':=by
 obtain⟨i0,hi,bR,hz1',aX⟩:=jeT Mm;have ar:=h.lt;have HGR:=ae (λk (hk:k<=fs.length)=>FD (fs:=fs) (n:=n) (s:=(c,f,fl)) hk);have HGS:=ae (λk (hk:k<fs.length)=>rC hk n (c,f,fl));have HG0:=ae (xG fs n (c,f,fl));obtain⟨G,hG⟩:∃ G,grK fs n (c,f,fl)=G:=⟨_,rfl⟩;rw[hG]at HGR HGS HG0 ⊢;clear hG;obtain⟨a,cap,rfl,bg,bx⟩:=hs.form;have az:=aj w (.cells #[.int .u32 (id:Int),.slice a fs.length cap] 25);have ap:=aj (w.alloc (.cells #[.int .u32 (id:Int),.slice a fs.length cap] 25)) (.cells #[.slice none 0 0,.slice none 0 0] 109);obtain⟨x0,x1⟩:=aS w (.int .u32 (id:Int)) (.slice a fs.length cap) 25;have hA0:w.heap.size<(w.alloc (.cells #[.int .u32 (id:Int),.slice a fs.length cap] 25)).heap.size:=by rw[jeB];omega
 have sA:((w.alloc (.cells #[.int .u32 (id:Int),.slice a fs.length cap] 25)).alloc (.cells #[.slice none 0 0,.slice none 0 0] 109)).heap.size=w.heap.size+2:=by rw[jeB,jeB]
 have x2:((w.alloc (.cells #[.int .u32 (id:Int),.slice a fs.length cap] 25)).alloc (.cells #[.slice none 0 0,.slice none 0 0] 109)).heap[w.heap.size+1]?=some (.cells #[.slice none 0 0,.slice none 0 0] 109 (0,0)):=by
  have:=je2 (w.alloc (.cells #[.int .u32 (id:Int),.slice a fs.length cap] 25)) (.cells #[.slice none 0 0,.slice none 0 0] 109);rwa[jeB]at this
 have x3:((w.alloc (.cells #[.int .u32 (id:Int),.slice a fs.length cap] 25)).alloc (.cells #[.slice none 0 0,.slice none 0 0] 109)).cell? ⟨w.heap.size,1,none⟩=some (.slice a fs.length cap):=(ap.cell (p:=⟨w.heap.size,1,none⟩) hA0).trans x1;have hAb:jgu w ((w.alloc (.cells #[.int .u32 (id:Int),.slice a fs.length cap] 25)).alloc (.cells #[.slice none 0 0,.slice none 0 0] 109)):=ai az ap;have HR:=ae (h.kept hAb ar);have HS:=ae (hs.keptW hw (hAb.mono (by omega)));have HAB:=ae hAb;have jD:=ae sA;have GN:=ae x2;clear h hs az ap x0 x1 hAb sA x2 hA0;generalize hA:(w.alloc (.cells #[.int .u32 (id:Int),.slice a fs.length cap] 25)).alloc (.cells #[.slice none 0 0,.slice none 0 0] 109)=A at *;go_enter func142,ntmps142
 go_wp2_with (first | (refine jft _ rfl _ _ 34 rfl A.heap.size 79 i0 (.slice none 0 0) 1 underlying34 hi bR hz1' .i64 .i64 _ _ n rfl rfl ?m1 ?m2 ?m3 ?m4 ?m5 ?_))
 case m1=>rfl
 case m2=>rfl
 case m3=>first | omega | (rw[aX];omega)
 case m4=>unfold maxLen;omega
 try (case m5=>omega)
 intro w4 gz iE;have bD:jgu A w4:=(jez _ _).grown iE (jeA _) (λk hk=>by cases hk);have Lf:A.heap.size<w4.heap.size:=(gz.lt A.heap.size rfl).2
 have ho4':w4.ownsRow A.heap.size 79 1 (.slice (some ⟨A.heap.size,0,none⟩) n n) n (List.replicate n (.slice none 0 0)):=by
  rw[<- jfZ];simpa using gz
 have bQ:=aj w4 (.cells #[.slice (some ⟨A.heap.size,0,none⟩) n n,.slice none 0 0] 109)
 have hG5:Grm (w4.alloc (.cells #[.slice (some ⟨A.heap.size,0,none⟩) n n,.slice none 0 0] 109)) A.heap.size w4.heap.size A.heap.size n (List.replicate n (.slice none 0 0)) (List.replicate n []) (.slice none 0 0) [] :=
  ⟨je2 w4 _,bD.size,bv ho4' bQ,List.length_replicate,λi hi=>⟨.slice none 0 0,by simp at hi;simp[hi],by simp only[List.getElem_replicate];exact OwnV.nil _ _⟩,(λi j ri rj b QR Gi hrj hb=>by
   rw[List.getElem?_replicate]at Gi;split at Gi
   ·cases Gi
    cases hb
   ·cases Gi),jfh _ _ _ _⟩
 have Wx:jgu A (w4.alloc (.cells #[.slice (some ⟨A.heap.size,0,none⟩) n n,.slice none 0 0] 109)):=ai bD bQ;have QV:=ae hG5;have sy:=ae (HR.o.kept Wx HR.o.lt);have oK:=ae (HS.o.kept Wx);have bq:=ae Wx;have hc5:=(Wx.cell (p:=⟨w.heap.size,1,none⟩) (by rw[jD.o];simp)).trans x3;have hqA:A.heap.size<w4.heap.size:=Lf;clear gz iE bD ho4' bQ hG5 Wx hA x3;go_upto_region 2 with fail
 generalize w4.alloc (.cells #[.slice (some ⟨A.heap.size,0,none⟩) n n,.slice none 0 0] 109)=W5 at *;have HK:=ae hk;have hcl5:∃ u,W5.cell? ⟨w.heap.size,1,none⟩=some u:=⟨_,hc5⟩;clear hk hcl5;have HZQ:=ae hqA;generalize w4.heap.size=q at *;clear Lf;have hap:p<A.heap.size:=by have:=jD.o;omega
 go_wp2_with fail;go_loopw [19] (λi wr=>∃(k:Nat) (rvs:List Value) (vs:Value),i=.int .i64 (k:Int)/\k<=fs.length/\Grm wr A.heap.size q A.heap.size n rvs (G k).1 vs (G k).2.1/\R3 wr p (G k).2.2.1 (G k).2.2.2.1 (G k).2.2.2.2/\Fr p A.heap.size A wr) (λi _=>fs.length-(intOf i).toNat)
 case atStart =>
  refine⟨0,List.replicate n (.slice none 0 0),.slice none 0 0,rfl,by omega,?_,?_,Fr.of_below bq.o⟩
  ·rw[HG0.o];exact QV.o
  ·rw[HG0.o];exact sy.o
 case round =>
  obtain⟨k,rvs,vs,rfl,hk,hg,hr,hf⟩:=hrel;have HG:=ae hg;have HR:=ae hr;have HF:=ae hf
  have hvs:∃ va vn vc,vs=.slice va vn vc:=by
   rcases hg.st.2 with ⟨h,_⟩ | ⟨_,_,_,h,_⟩
   ·exact⟨_,_,_,h⟩
   ·exact⟨_,_,_,h⟩
  obtain⟨va,vn,vc,rfl⟩:=hvs;obtain⟨y0,y1,y2,y3⟩:=hg.cells;have gy:=hf.size;have hqr:=hg.lt;have GT:=ae (HGR.o k hk);clear hg hr;by_cases jt:k<fs.length
  ·obtain⟨b,off,rfl,hb,z0,z1,z2,z3⟩:=(HS.o.keptW hw (hf.below (jeA p) (by omega))).at jt
   have HGK:=ae (HGS.o k jt);have HKK:=ae (HK.o fs[k] (jeD jt));have MW:=ae (Qm (n:=n) (s:=(G k).2.2) HKK.o hn.2 HR.o.bs.1);have mH:jgt ((G k).2.2.1.length<=100000000):=ae (jeK GT.o.2.2.1 gV);have GQ:=ae (λ(U:World) (hU:R3 U p (G k).2.2.1 (G k).2.2.2.1 (G k).2.2.2.2)=>Qi hU fs[k].2.2.1 n HKK.o hn.2 mH.o);have mK:=aj wr (.cells #[.int .u32 (fs[k].1:Int),.string fs[k].2.1,.int .u8 (fs[k].2.2.1:Int),.bool fs[k].2.2.2] 81);have XM:=ae (HR.o.kept mK HR.o.lt);have HGZ:=ae (HG.o.kept mK);have HFZ:=ae (HF.o.then (mK.mono gy));have hlt2':(k:Int)<(fs.length:Int):=(by omega);clear hf mK;generalize fs[k]=fk at *;obtain⟨f1,f2,f3,f4⟩:=fk;simp only at *;have hbZ:∀ o,(wr.alloc o).heap.size=wr.heap.size+1:=λo=>jeB _ _
   go_wp2_with fail;generalize wr.alloc (.cells #[.int .u32 (f1:Int),.string f2,.int .u8 (f3:Int),.bool f4] 81)=Z at *;refine(GQ.o _ XM.o).mono ?_;rintro e w1 ⟨v,rfl,dM,mh,cm⟩;have hgk:G (k+1)=(psh (G k).1 (ip f3 n (G k).2.2).1,(G k).2.1++[bO (ip f3 n (G k).2.2).1],pR (ip f3 n (G k).2.2).1 (ip f3 n (G k).2.2).2):=HGK.o;generalize ip f3 n (G k).2.2=cr at *;obtain⟨l,c1,b1,fl1⟩:=cr;simp only at *;have HGN:=ae hgk;generalize G k=gk at *;obtain⟨rows,sts,s0⟩:=gk;simp only at *;have tR:=ae (HGZ.o.frp cm hap);have dN:=ae (HFZ.o.trans (cm.mono HFZ.o.size));have bW:=HFZ.o.size;have fX:=ae (OwnV.of_le dM bW);have jw:=ae mh
   have HD1:jgt (∀(i:Nat) (ri:Value),rvs[i]?=some ri->∀ b,ri.ownBlock=some b->v.ownBlock≠some b):=ae (λi ri hi b hb e=>by
    have hl:=(List.getElem?_eq_some_iff.1 hi).1;have h1:=HGZ.o.row.1;have h2:=HGZ.o.len;obtain⟨rv,e1,e2⟩:=HGZ.o.own i (by omega);rw[hi]at e1;cases e1
    have:=(aN e2 hb).2.1;have:=(aN dM e).1;omega)
   obtain⟨va1,vn1,vc1,rfl⟩:∃ va vn vc,v=.slice va vn vc:=by
    rcases dM.2 with ⟨h,_⟩ | ⟨_,_,_,h,_⟩
    ·exact⟨_,_,_,h⟩
    ·exact⟨_,_,_,h⟩
   obtain⟨st,gx⟩:∃ st,bO l=st:=⟨_,rfl⟩;obtain⟨S,hS⟩:∃ S,pR l (c1,b1,fl1)=S:=⟨_,rfl⟩
   have cF:jgt (∀ U:World,jgu w1 U->Calls prog 182 #[.pointer (some ⟨p,0,none⟩),.slice va1 vn1 vc1] U λe w'=>e=.returned (.agg #[.int .i64 st.rows,.int .i64 st.nulls,.bool st.some,.bool st.high,.int .u8 (st.lo.1:Int),.int .i64 st.lo.2.1,.string (bytesT st.lo.2.2),.int .u8 (st.hi.1:Int),.int .i64 st.hi.2.1,.string (bytesT st.hi.2.2)]) /\
     R3 w' p S.1 S.2.1 S.2.2/\Grm w' A.heap.size q A.heap.size n rvs rows (.slice va vn vc) sts/\Fr p A.heap.size A w'/\OwnV w' A.heap.size (.slice va1 vn1 vc1) l/\w'.cell? ⟨q,1,none⟩=some (.slice va vn vc)/\A.heap.size<=w'.heap.size/\∀ o,(w'.alloc o).cell? ⟨q,1,none⟩=some (.slice va vn vc)):=ae (λU hU=>by
    refine(FA (jw.o.kept hU jw.o.lt) (fX.o.sv.kept hU) MW.o.1 (by have:=MW.o.2;omega)).mono ?_;rintro e w' ⟨rfl,hr,hf⟩;rw[hS]at hr;rw[gx];have hzU:=hU.size;have XN:=(dN.o.then (hU.mono dN.o.size)).trans (hf.mono (jeK dN.o.size hzU));have hg:=(tR.o.kept hU).frp hf hap;exact⟨rfl,hr,hg,XN,Fr.own hf (fX.o.kept hU) hap,hg.cells.2.1,XN.size,λo=>((aj _ o).cell hg.lt).trans hg.cells.2.1⟩)
   rw[gx,hS]at HGN;obtain⟨y0,y1,y2,y3⟩:=tR.o.cells;have se:=dN.o.size;have sj:sts.length<=100000:=by have:=GT.o.2.1;omega
   clear hgk HGK dM mh cm GQ XM HGZ HFZ HG HR HF z0 z1 z2 z3 gx hS;go_upto_region 6 with fail
   go_cut [] from 58 (λwx=>∃ va6 vn6 vc6,Grm wx A.heap.size q A.heap.size n rvs rows (.slice va6 vn6 vc6) (sts++[st])/\R3 wx p S.1 S.2.1 S.2.2/\Fr p A.heap.size A wx/\OwnV wx A.heap.size (.slice va1 vn1 vc1) l)
   case first =>
    refine wp_region_noPanic ?_
    go_region_law (first
     | (refine yN (by rfl) _ _ (by rfl) A.heap.size _ _ st sts (by rfl) ?_ (by rfl) ?_ sj ?_ ?_;exact bv QV.o.st (aj _ _);exact Stb.new _ st;(rw[jeB];omega);intro v6 w6 o6 g6 e6;obtain⟨MQ,ct,⟨hc6,hc7⟩,WT⟩:=(QV.o.kept (aj _ _)).addStat o6 g6 e6;obtain⟨va6,vn6,vc6,rfl⟩:=dI o6;have AQ:=ae MQ;have Re:=ae ((sy.o.kept (aj _ _) sy.o.lt).kept ct hap);have MV:=ae ((Gp.o.then ((aj _ _).mono Gp.o.size)).trans (Fr.of_below ct));have Xf:=ae (WT _ _ (OwnV.kept HV5.o (aj _ _)));clear o6 g6 e6 MQ ct WT)
     | (go_simp;go_at_call 182;refine(cF.o _ ?_).mono ?_;exact ak (jez w1.heap.size w1) _;rintro e w5 ⟨rfl,RO,hg5,iX,hv5,hc5,sk,ha5⟩;have sy:=ae RO;have QV:=ae hg5;have Gp:=ae iX;have HV5:=ae hv5;clear RO hg5 iX hv5;dsimp only)
     | fail)
    all_goals refine NoPanic.normal ?_
    all_goals go_wp2_with fail
    all_goals go_meet
    all_goals exact⟨_,_,_,AQ.o,Re.o,MV.o,Xf.o⟩
   case rest =>
   obtain⟨va6,vn6,vc6,MQ,RQ,Ld,Lp⟩:=hcut;have HD6:=ae (λ(i:Nat) (ri:Value) (hi:rvs[i]?=some ri)=>HD1.o i ri hi);obtain⟨aq,cq,hvq,ng,nc⟩:=Lp.sv.form1;rw[ay]at hvq ng;cases hvq
   have AQ:=ae MQ;have Re:=ae RQ;have MV:=ae Ld;have Xf:=ae Lp;have hrn:rows.length=n:=GT.o.1;have hln:l.length<=n:=MW.o.2;have hq2':vc1<=9223372036854775807:=by unfold maxLen at nc;omega
   clear MQ RQ Ld Lp tR jw dN fX HD1 cF y0 y1 y2 y3 nc;go_wp2_with fail;go_loopw [38] (λi wx=>∃(j:Nat) (rvs2:List Value),i=.int .i64 (j:Int)/\j<=l.length/\Grm wx A.heap.size q A.heap.size n rvs2 (psh rows (l.take j)) (.slice va6 vn6 vc6) (sts++[st])/\R3 wx p S.1 S.2.1 S.2.2/\Fr p A.heap.size A wx/\OwnV wx A.heap.size (.slice va1 l.length vc1) l/\∀ i,j<=i->∀ ri:Value,rvs2[i]?=some ri->∀ b,ri.ownBlock=some b->(Value.slice va1 l.length vc1).ownBlock≠some b) (λi _=>l.length-(intOf i).toNat)
   case atStart =>
    refine⟨0,rvs,rfl,by omega,?_,Re.o,MV.o,Xf.o,λi _ ri hi=>HD6.o i ri hi⟩;rw[jfW,Zu];exact AQ.o
   case round =>
    obtain⟨j,rvs2,rfl,hj,hg,hr,hf,hv,hd⟩:=hrel;have HG:=ae hg;have HR:=ae hr;have HF:=ae hf;have HV:=ae hv;have HD:=ae hd;obtain⟨y0,y1,y2,y3⟩:=hg.cells;have hqx:=hg.lt;have hax:=hf.size;by_cases jcZ:j<l.length
    ·have hjr:j<(psh rows (l.take j)).length:=by rw[ez];omega
     obtain⟨rv,uW,how⟩:=hg.own j hjr;obtain⟨b2,off2,hq5,ap,CZ⟩:=hv.sv.at1 (cw jcZ);obtain⟨ra,rn,rc,rfl⟩:=dI how;have GU:=(hg.row.cellAt j (by omega)).trans uW;have dA:=hg.row.frozenAt j;have Df:jgt (∀ o,jgu wr (wr.alloc o).drew):=ae (λo=>(aj wr o).drew);have rZ:∀ o,(wr.alloc o).cell? ⟨q,0,none⟩=some (.slice (some ⟨A.heap.size,0,none⟩) n n):=λo=>((aj wr o).cell hqx).trans y0
     have hRl:A.heap.size<wr.heap.size:=(aN (k:=A.heap.size) hg.row rfl).2.1;have har:∀ o,(wr.alloc o).cell? ⟨A.heap.size,j,none⟩=some (.slice ra rn rc):=λo=>((aj wr o).cell hRl).trans GU
     have sL:=ae how;have HPS:=ae (Vq (rs:=rows) (l:=l) (j:=j) (by omega) jcZ);have HRV:=ae uW;have vG:(j:Int)<(l.length:Int):=(by omega);have hjn:(j:Int)<(n:Int):=(by omega)
     have hbt:((psh rows (l.take j))[j]).length<=100000:=by
      rw[oG (by omega),jeC];have h5:∀ o:Option Cl,o.toList.length<=1:=λo=>by cases o<;>simp
      have:=h5 ((l.take j)[j]?);have:=GT.o.2.2.2 _ (jeD (show j<rows.length by omega));omega
     clear hg hr hf hv hd how uW y1 y3;generalize hrw:(psh rows (l.take j))[j]=row at *;have ZY:=ae hrw;clear hrw;rcases xP l[j]with h0 | ⟨tt,uu,h0⟩
     all_goals
      rw[h0]at CZ;have H0:=ae h0;clear h0;generalize hxj:l[j]=xj at *;have HXJ:=ae hxj;clear hxj;subst hq5;go_upto_region 10 with fail
      refine wp_region_noPanic ?_
      go_region_law (first
       | (refine yO (by rfl) _ _ (by rfl) A.heap.size _ _ xj row (by rfl) ?_ (by rfl) ?_ hbt ?_ ?_;exact OwnV.kept sL.o (Df.o _);(rw[H0.o];show (wr.alloc _).cell? _=_;rw[an (je2 _ _)];rfl);(show A.heap.size<=(wr.alloc _).heap.size;rw[jeB];omega);intro v6 w6 o6 g6 e6;have o6':OwnV w6 A.heap.size v6 ((psh rows (l.take j))[j]++[xj]):=(by rw[ZY.o];exact o6);obtain⟨MQ,ct,⟨hc6,hc7,hc8⟩,WT⟩:=(HG.o.kept (Df.o _)).addCell hjr HRV.o o6' g6 e6;obtain⟨va7,vn7,vc7,rfl⟩:=dI o6;have AQ:=ae MQ;have Re:=ae ((HR.o.kept (Df.o _) HR.o.lt).kept ct hap);have MV:=ae ((HF.o.then ((Df.o _).mono HF.o.size)).trans (Fr.of_below ct));have Xf:=ae (WT _ _ (OwnV.kept HV.o (Df.o _)) (λb hb=>HD.o j (jeA j) _ HRV.o b hb));clear o6 o6' g6 e6 MQ ct WT)
       | fail)
     all_goals
      refine NoPanic.normal ?_;go_wp2_with fail;go_roundw
      case rel =>
       refine⟨j+1,rvs2.set j (.slice va7 vn7 vc7),by go_num,by omega,?_,Re.o,MV.o,Xf.o,λi hi ri Gi=>?_⟩
       ·rw[<- HPS.o,<- ZY.o]
        exact AQ.o
       ·rw[List.getElem?_set_ne (by omega)]at Gi
        exact HD.o i (by omega) ri Gi
      case measure=>simp[intOf];omega
    ·obtain rfl:j=l.length:=by omega
     have ed:¬ ((l.length:Nat):Int)<(l.length:Int):=(by omega);clear hg hr hf hv hd y0 y1 y2 y3;have HGG:=ae HG.o;rw[jeJ]at HGG;go_wp2_with fail;go_roundw
     case rel =>
      refine⟨k+1,rvs2,.slice va6 vn6 vc6,by go_num,by omega,?_,?_,HF.o⟩
      ·rw[HGN.o];exact HGG.o
      ·rw[HGN.o];exact HR.o
     case measure=>simp[intOf];omega
  ·obtain rfl:k=fs.length:=by omega
   have ed:¬ ((fs.length:Nat):Int)<(fs.length:Int):=(by omega);have hsa:=jD.o;have jdn:¬ w.heap.size+1=p:=(by omega);have hT:wr.heap[w.heap.size+1]?=some (.cells #[.slice none 0 0,.slice none 0 0] 109 (0,0)):=(hf.block _ (by omega) jdn).trans GN.o;have t0:wr.cell? ⟨w.heap.size+1,0,none⟩=some (.slice none 0 0):=by rw[an hT];rfl
   have t1:wr.cell? ⟨w.heap.size+1,1,none⟩=some (.slice none 0 0):=by rw[an hT];rfl
   have t2:wr.frozen? ⟨w.heap.size+1,0,none⟩=false:=by simp[World.frozen?,hT]
   have t3:wr.frozen? ⟨w.heap.size+1,1,none⟩=false:=by simp[World.frozen?,hT]
   have hqa:A.heap.size<=q:=HG.o.hq;have sn:¬ q=w.heap.size+1:=(by omega);have hne3:¬ w.heap.size+1=q:=(by omega);have XN:Fr p w.heap.size w wr:=(Fr.of_below HAB.o).trans (hf.mono (by omega));have zb:=fd (fd (jez w.heap.size wr) (show w.heap.size<=w.heap.size+1 by omega) 0 (.slice (some ⟨A.heap.size,0,none⟩) n n)) (show w.heap.size<=w.heap.size+1 by omega) 1 (.slice va vn vc);have pu:=ae (HR.o.kept zb ar);have RI:=ae (XN.trans (Fr.of_below zb))
   have HGF:=ae ((HG.o.turn (W':=(wr.setCell ⟨w.heap.size+1,0,none⟩ (.slice (some ⟨A.heap.size,0,none⟩) n n)).setCell ⟨w.heap.size+1,1,none⟩ (.slice va vn vc)) (λj hj _=>by
    rw[Below.heap_setCell _ _ _ _ (by simp;omega),Below.heap_setCell _ _ _ _ (by simp;omega)])).low (show w.heap.size<=A.heap.size by omega)).gro
   clear hf hT XN zb GN hsa;go_wp2_with fail;refine bodyPost_ret (v:=.agg #[.slice (some ⟨A.heap.size,0,none⟩) n n,.slice va vn vc]) (by simp[results,results142,go_sem,t0,t1,t2,t3,jdn,sn,hne3]) rfl ⟨⟨_,rfl,HGF.o⟩,pu.o,RI.o⟩
def Vt:(prog.info? 109).map (λi=>(i.zero,i.size,i.bytes))=some (some (.agg #[.slice none 0 0,.slice none 0 0]),2,48):=by kernel_rfl
def yP{w:World}{ops:Array Oper}{o:Oper}{a:Act}{K:Act->World->Prop}{Q:Exit->Act->World->Prop}{E:Prop}(ef:o.guard=none)(s x:Operand)
  (ho:o.op=.call { callee:=.builtin .append,args:=#[s,x],argTypes:=#[103,103] })
  (base:Nat) (v:Value) (g:Nat) (z1 z2:Value) (n:Nat) (xs:List Value) (hs:a.eval s=v) (ax:w.ownsRow base 109 2 v n xs) (hx:a.eval x=.slice (some ⟨g,0,none⟩) 1 1)
  (hc:w.heap[g]?=some (.cells #[z1,z2] 109 (0,0))) (h1:z1.oneCell'=true) (h2:z2.oneCell'=true) (hbytes:n<=100000) (aF:base<=w.heap.size)
  (h:∀ v' w',w'.ownsRow base 109 2 v' (n+1) (xs++[z1,z2])->w.grownBy w' v.ownBlock->(v'.ownBlock=v.ownBlock∨v'.ownBlock=some w.heap.size)->K (a.put o.dst v') w') :
  if Region.wanted o (yielded ops a.tmps)=true then Oper.wp prog o a w K Q else E:=by
 obtain⟨i0,hi,bR,hz1',aX⟩:=jeT Vt
 refine iQ ef s x 103 ho base 109 i0 (.agg #[.slice none 0 0,.slice none 0 0]) 2 48 underlying103 hi bR hz1' aX rfl (by decide) v n xs hs ax ⟨g,0,none⟩ 1 1 [z1,z2] hx rfl ?_ (λu hu=>by
  simp only[jeL,jgc,or_false]at hu;rcases hu with rfl | rfl
  ·exact h1
  ·exact h2) (by unfold maxLen;omega) (by omega) aF h
 intro j u hu;rw[oP];rw[an hc];simpa using hu
def Fil(W:World)(B fp id:Nat)(fv:Value)(gs:List Gr):Prop :=
 ∃ gv xs,W.heap[fp]?=some (.cells #[.int .u32 (id:Int),fv,gv] 105 (0,0))/\B<=fp/\W.ownsRow B 109 2 gv gs.length xs /\
  ∀ j (h:j<gs.length),∃ a b,xs[2*j]?=some a/\xs[2*j+1]?=some b/\Gro W B (.agg #[a,b]) gs[j].1 gs[j].2
def Gro.turn{W W':World}{B:Nat}{v:Value}{rows:List Row}{sts:List Stt}(h:Gro W B v rows sts)(hb:∀ k cur e,B<=k->k<W.heap.size->e≠105->e≠109->W.heap[k]?=some (.cells cur e (0,0))->W'.heap[k]?=W.heap[k]?):Gro W' B v rows sts:=by
 obtain⟨R,rvs,vs,rfl,h1,h2,h3⟩:=h
 have key:∀{e:TypeId} {size n:Nat} {v:Value} {xs:List Value},W.ownsRow B e size v n xs->e≠105->e≠109->W'.ownsRow B e size v n xs:=λ{e size n v xs} ho e1 e2=>bT ho λk hk=>by
  obtain⟨a,b,cur,hc⟩:=aN ho hk;exact hb k cur e a b e1 e2 hc
 refine⟨R,rvs,vs,rfl,key h1 (by decide) (by decide),λi hi=>?_,key h3 (by decide) (by decide)⟩;obtain⟨rv,e1,e2⟩:=h2 i hi;exact⟨rv,e1,key e2 (by decide) (by decide)⟩
def Gro.low{W:World}{B B':Nat}{v:Value}{rows:List Row}{sts:List Stt}(h:Gro W B v rows sts)(hB:B'<=B):Gro W B' v rows sts:=by
 obtain⟨R,rvs,vs,rfl,h1,h2,h3⟩:=h;have lo:∀{e:TypeId} {size n:Nat} {v:Value} {xs:List Value},W.ownsRow B e size v n xs->W.ownsRow B' e size v n xs:=λ{e size n v xs} h=>⟨h.1,h.2.imp id λ⟨g,cap,cur,hv,hb,r⟩=>⟨g,cap,cur,hv,jeK hB hb,r⟩⟩
 exact⟨R,rvs,vs,rfl,lo h1,λi hi=>by obtain⟨rv,e1,e2⟩:=h2 i hi;exact⟨rv,e1,lo e2⟩,lo h3⟩
def Gro.parts{W:World}{B:Nat}{v:Value}{rows:List Row}{sts:List Stt}(h:Gro W B v rows sts):∃ z1 z2,v=.agg #[z1,z2]/\z1.oneCell'=true/\z2.oneCell'=true:=by
 obtain⟨R,rvs,vs,rfl,h1,h2,h3⟩:=h;obtain⟨a,m,c,rfl⟩:=dI h3;exact⟨_,_,rfl,rfl,rfl⟩
def Fil.turn{W W':World}{B fp id:Nat}{fv:Value}{gs:List Gr}(h:Fil W B fp id fv gs)(hb:∀ k,B<=k->k<W.heap.size->W'.heap[k]?=W.heap[k]?):Fil W' B fp id fv gs:=by
 obtain⟨gv,xs,h1,h2,h3,h4⟩:=h;refine⟨gv,xs,(hb fp h2 (Array.getElem?_eq_some_iff.1 h1).1).trans h1,h2,bT h3 λk hk=>?_,λj hj=>?_⟩
 ·obtain⟨a,b,_⟩:=aN h3 hk
  exact hb k a b
 ·obtain⟨a,b,e1,e2,e3⟩:=h4 j hj
  exact⟨a,b,e1,e2,e3.turn λk _ _ k1 k2 _ _ _=>hb k k1 k2⟩
def Fil.kept{W W':World}{B fp id:Nat}{fv:Value}{gs:List Gr}(h:Fil W B fp id fv gs)(hb:jgu W W'):Fil W' B fp id fv gs:=h.turn λk _ hk=>hb.block k hk
def Fil.add{W W':World}{B fp id:Nat}{fv gv gv' z1 z2:Value}{xs:List Value}{gs:List Gr}{g:Gr}(h1:W.heap[fp]?=some (.cells #[.int .u32 (id:Int),fv,gv] 105 (0,0)))(h2:B<=fp)(h3:W.ownsRow B 109 2 gv gs.length xs)
  (h4:∀ j (h:j<gs.length),∃ a b,xs[2*j]?=some a/\xs[2*j+1]?=some b/\Gro W B (.agg #[a,b]) gs[j].1 gs[j].2) (hg:Gro W B (.agg #[z1,z2]) g.1 g.2)
  (ho:W'.ownsRow B 109 2 gv' (gs.length+1) (xs++[z1,z2])) (Rm:W.grownBy W' gv.ownBlock) (he:gv'.ownBlock=gv.ownBlock∨gv'.ownBlock=some W.heap.size) :
  Fil (W'.setCell ⟨fp,2,none⟩ gv') B fp id fv (gs++[g])/\Below B W (W'.setCell ⟨fp,2,none⟩ gv')/\W'.cell? ⟨fp,2,none⟩=some gv/\W'.frozen? ⟨fp,2,none⟩=false:=by
 have eI:fp<W.heap.size:=(Array.getElem?_eq_some_iff.1 h1).1
 have hfv:gv.ownBlock≠some fp:=λe=>by
  obtain⟨_,_,c,hc⟩:=aN h3 e;rw[h1]at hc;cases hc
 have hf':W'.heap[fp]?=some (.cells #[.int .u32 (id:Int),fv,gv] 105 (0,0)):=(Rm.block fp eI (λe=>hfv e.symm)).trans h1
 have hfv':gv'.ownBlock≠some fp:=λe=>by
  rcases he with e1 | e1
  ·exact hfv (e1.symm.trans e)
  ·rw[e1]at e
   cases e
   exact absurd eI (Nat.lt_irrefl _)
 have hn:∀ k,k≠fp->(W'.setCell ⟨fp,2,none⟩ gv').heap[k]?=W'.heap[k]?:=λk hk=>Below.heap_setCell _ _ _ _ (by simpa using hk)
 have bH:=h3.1
 have turned:∀{v:Value} {rows:List Row} {sts:List Stt},Gro W B v rows sts->Gro (W'.setCell ⟨fp,2,none⟩ gv') B v rows sts:=λ{v rows sts} hh=>hh.turn λk cur e k1 k2 e1 e2 hc=>by
  have hkf:k≠fp:=by
   rintro rfl;rw[h1]at hc;cases hc
   exact e1 rfl
  rw[hn k hkf];refine Rm.block k k2 (λe'=>?_);obtain⟨_,_,c',hc'⟩:=aN h3 e'.symm;rw[hc]at hc';cases hc'
  exact e2 rfl
 refine⟨⟨gv',xs++[z1,z2],?_,h2,?_,λj hj=>?_⟩,⟨Rm.os,Rm.tape,Rm.output,jeK Rm.size (by simp[World.setCell]),λk hk=>?_⟩,by rw[an hf'];rfl,by simp[World.frozen?,hf']⟩
 ·rw[cQ hf']
  rfl
 ·rw[jeC]
  exact bT ho λk hk=>hn k (λe=>hfv' (e ▸ hk))
 ·rw[jeC]at hj
  simp only[jeI,jeZ]at hj;by_cases vG:j<gs.length
  ·obtain⟨a,b,e1,e2,e3⟩:=h4 j vG
   refine⟨a,b,by rw[List.getElem?_append_left (by omega)];exact e1,by rw[List.getElem?_append_left (by omega)];exact e2,?_⟩;rw[jgp vG];exact turned e3
  ·obtain rfl:j=gs.length:=by omega
   refine⟨z1,z2,?_,?_,?_⟩
   ·rw[List.getElem?_append_right (by omega),show 2*gs.length-xs.length=0 by omega]
    rfl
   ·rw[List.getElem?_append_right (by omega),show 2*gs.length+1-xs.length=1 by omega]
    rfl
   ·rw[List.getElem_append_right (jeA _)]
    simp only[jf4,jfY];exact turned hg
 ·rw[hn k (by omega)]
  refine Rm.block k (by omega) (λe=>?_);have:=(aN h3 e.symm).1;omega
def bn{W:World}{B:Nat}{e:TypeId}{size n:Nat}{v:Value}{xs:List Value}(h:W.ownsRow B e size v n xs):∃ a c,v=.slice a n c/\n<=c/\c<=9223372036854775807:=by
 rcases h with ⟨h0,⟨h1,h2⟩ | ⟨g,cap,cur,h1,h2,h3,h4,h5,_⟩⟩
 ·exact⟨none,0,by rw[h1,h2],by omega,by omega⟩
 ·exact⟨_,cap,h1,h4,by unfold maxLen at h5;omega⟩
def gS{W:World}{B:Nat}{e:TypeId}{size n m c:Nat}{a:Option Addr}{xs:List Value}(h:W.ownsRow B e size (.slice a m c) n xs){i:Nat}{x:Value}(hx:xs[i]?=some x) :
  ∃ g,a=some ⟨g,0,none⟩/\B<=g/\g<W.heap.size/\W.cell? ⟨g,i,none⟩=some x:=by
 have ar:=(List.getElem?_eq_some_iff.1 hx).1;rcases h with ⟨h0,⟨h1,h2⟩ | ⟨g,cap',cur,h1,h2,h3,h4,h5,h6,h7⟩⟩
 ·subst h2
  simp at h0
  rw[h0]at ar;simp at ar
 ·simp only[Value.slice.injEq]at h1
  obtain⟨rfl,rfl,rfl⟩:=h1;refine⟨g,rfl,h2,(Array.getElem?_eq_some_iff.1 h3).1,?_⟩;simp only[World.cell?,h3];rw[<- h7]at hx;have qs:=(List.getElem?_eq_some_iff.1 hx).1;rw[jeH]at qs;rw[List.getElem?_take_of_lt (by omega)]at hx;simpa using hx
def Ow(W:World)(B:Nat)(v:Value)(l:List (Value×Row)):Prop:=W.ownsRow B 79 1 v l.length (l.map Prod.fst)/\∀ x∈l,OwnV W B x.1 x.2
def Ow.nil(W:World)(B:Nat):Ow W B (.slice none 0 0) []:=⟨jfh _ _ _ _,λx hx=>by simp at hx⟩
def Ow.kept{W W':World}{B:Nat}{v:Value}{l:List (Value×Row)}(h:Ow W B v l)(hb:jgu W W'):Ow W' B v l:=⟨bv h.1 hb,λx hx=>(h.2 x hx).kept hb⟩
def Ow.low{W:World}{B B':Nat}{v:Value}{l:List (Value×Row)}(h:Ow W B v l)(hB:B'<=B):Ow W B' v l:=⟨tE h.1 hB,λx hx=>(h.2 x hx).of_le hB⟩
def Ow.form{W:World}{B:Nat}{v:Value}{l:List (Value×Row)}(h:Ow W B v l):∃ a cap,v=.slice a l.length cap/\l.length<=cap/\cap<=maxLen/\(a=none->cap=0):=by
 rcases h.1 with ⟨h0,⟨h1,h2⟩ | ⟨g,cap,cur,h1,h2,h3,h4,h5,_⟩⟩
 ·exact⟨none,0,by rw[h1,h2],by omega,by unfold maxLen;omega,λ_=>rfl⟩
 ·exact⟨_,cap,h1,h4,h5,λe=>by cases e⟩
def Ow.at{W:World}{B:Nat}{a:Option Addr}{n cap:Nat}{l:List (Value×Row)}(h:Ow W B (.slice a n cap) l){k:Nat}(hk:k<l.length) :
  ∃ g,a=some ⟨g,0,none⟩/\g<W.heap.size/\W.cell? ⟨g,k,none⟩=some l[k].1/\OwnV W B l[k].1 l[k].2:=by
 rcases h with ⟨⟨h0,⟨h1,h2⟩ | ⟨g,cap',cur,h1,h2,h3,h4,h5,h6,h7⟩⟩,hr⟩
 ·omega
 ·simp only[Value.slice.injEq]at h1
  obtain⟨rfl,rfl,rfl⟩:=h1;refine⟨g,rfl,(Array.getElem?_eq_some_iff.1 h3).1,?_,(hr _ (jeD hk))⟩;have hj:(l.map Prod.fst)[k]?=some l[k].1:=by simp[hk]
  simp only[World.cell?,h3];rw[<- h7]at hj;have ar:=(List.getElem?_eq_some_iff.1 hj).1;rw[jeH]at ar;rw[List.getElem?_take_of_lt (by omega)]at hj;simpa using hj
def Ow.sv{W:World}{B:Nat}{v:Value}{l:List (Value×Row)}(h:Ow W B v l):Sv W v (l.map Prod.fst):=by
 have:=Sv.of_own h.1;exact this
def Ow.rv{W:World}{B:Nat}{v:Value}{l:List (Value×Row)}(h:Ow W B v l):Rv W v (l.map Prod.snd):=by
 obtain⟨a,cap,rfl,h1,h2,h3⟩:=h.form;refine⟨a,cap,by rw[jeE],by rw[jeE];exact h1,h2,h3,λh0=>?_⟩;rw[jeE]at h0;obtain⟨g,e,h4,_⟩:=h.at h0;refine⟨g,0,e,h4,λj hj=>?_⟩;rw[jeE]at hj;obtain⟨g',e',h5,h6,h7⟩:=h.at hj;obtain rfl:g=g':=by rw[e]at e';cases e';rfl
 refine⟨_,by rw[jeU];exact h6,?_⟩;have:=h7.sv;simpa using this
def lm{W:World}{g:Nat}{z:Value}(hc:W.cell? ⟨g,0,none⟩=some z)(hg:g<W.heap.size):Sv W (.slice (some ⟨g,0,none⟩) 1 1) [z] :=
 ⟨_,1,rfl,jeA _,by unfold maxLen;omega,λe=>(by cases e),λ_=>⟨g,0,rfl,hg,λj x hx=>by
  cases j with
  | zero =>
   simp only[List.getElem?_cons_zero,Option.some.injEq]at hx;rw[<- hx];exact hc
  | succ j=>simp at hx⟩⟩
def Cs{w:World}(ty:TypeId)(base:Nat)(v vx:Value)(l0 l:List (Value×Row))(ax:Ow w base v l0)(eg:Sv w vx (l.map Prod.fst))(hr:∀ x∈l,OwnV w base x.1 x.2)(hbytes:l0.length+l.length<=1000000)(aF:base<=w.heap.size) :
  ∃ v' w',(Builtin.append_ #[34,34] ty #[v,vx]).run prog w=.ok v' w'/\Ow w' base v' (l0++l)/\Below base w w':=by
 obtain⟨i0,hi,bR,hz1',aX⟩:=jeT Mm;obtain⟨ad,cap,rfl,h1,h2,h3,h4⟩:=eg;rw[jeE]at *
 have one:∀ x∈l.map Prod.fst,x.oneCell'=true:=λx hx=>by
  obtain⟨y,hy,rfl⟩:=jeN.1 hx;obtain⟨a,n,c,e⟩:=dI (hr y hy);rw[e];rfl
 cases ad with
 | none =>
  have hc:=h3 rfl;subst hc;have hl:l=[]:=jeW (by omega);subst hl;have hr:=jgb (P:=prog) (w:=w) base 34 ty 79 i0 1 underlying34 hi v l0.length (l0.map Prod.fst) ax.1;refine⟨v,w,hr,by rw[jeS];exact ax,jez _ _⟩
 | some ad =>
  obtain⟨v',w',vP,o1,g1,_,e1⟩:=run_append_own_at (P:=prog) w base 34 ty 79 i0 (.slice none 0 0) 1 24 underlying34 hi bR hz1' aX rfl (by decide) v l0.length (l0.map Prod.fst) ax.1 ad l.length cap (l.map Prod.fst) (by rw[jeE];omega)
   (λj u hu=>by
    have hj:j<l.length:=by
     have:=(List.getElem?_eq_some_iff.1 hu).1;rwa[jeE]at this
    obtain⟨b,off,h5,_,h6⟩:=h4 (by omega);cases h5
    rw[kP];exact h6 j u hu) one (by unfold maxLen;omega) (by omega) aF
  have keep:∀ y:Value×Row,OwnV w base y.1 y.2->OwnV w' base y.1 y.2:=λy hy =>
   bT hy λk hk=>g1.block k (aN hy hk).2.1 (λe=>ey hy ax.1 (by decide) hk e.symm)
  refine⟨v',w',vP,⟨?_,λy hy=>?_⟩,(jez base w).grown g1 aF (λk hk=>(ax.1.lt k hk).1)⟩
  ·rw[jeC,jeR]
   exact o1
  ·rcases je1.1 hy with hy | hy
   ·exact keep y (ax.2 y hy)
   ·exact keep y (hr y hy)
def FF{w:World}{o:Oper}{a:Act}{K:Act->World->Prop}{Q:Exit->Act->World->Prop}(s x:Operand)
  (ho:o.op=.call { callee:=.builtin .append,args:=#[s,x],argTypes:=#[34,34] })
  (base:Nat) (v vx:Value) (l0 l:List (Value×Row)) (hs:a.eval s=v) (ax:Ow w base v l0) (hx:a.eval x=vx) (eg:Sv w vx (l.map Prod.fst)) (hr:∀ x∈l,OwnV w base x.1 x.2) (hbytes:l0.length+l.length<=1000000) (aF:base<=w.heap.size)
  (h:∀ v' w',Ow w' base v' (l0++l)->Below base w w'->K (a.put o.dst v') w'):Oper.wp prog o a w K Q:=by
 obtain⟨v',w',hr,h2,h3⟩:=Cs o.type base v vx l0 l ax eg hr hbytes aF;unfold Oper.wp execOp;simp only[ho,resolve,invoke,builtin,Sem.run_bind,Sem.run_pure,Result.andThen_ok,jfN,je4,jfr,hs,hx,hr];exact h v' w' h2 h3
def gw{w:World}{ops:Array Oper}{rest:List Oper}{o:Oper}{a:Act}{Q:Exit->Act->World->Prop}(ef:o.guard=none)(s x:Operand)
  (ho:o.op=.call { callee:=.builtin .append,args:=#[s,x],argTypes:=#[34,34] })
  (base:Nat) (v vx:Value) (l0 l:List (Value×Row)) (hs:a.eval s=v) (ax:Ow w base v l0) (hx:a.eval x=vx) (eg:Sv w vx (l.map Prod.fst)) (hr:∀ x∈l,OwnV w base x.1 x.2) (hbytes:l0.length+l.length<=1000000) (aF:base<=w.heap.size)
  (h:∀ v' w',Ow w' base v' (l0++l)->Below base w w'->wpList prog ops Q rest (a.put o.dst v') w') :
  wpList prog ops Q (o::rest) a w :=
 wpList_plain ef λK hK=>FF s x ho base v vx l0 l hs ax hx eg hr hbytes aF λv' w' h1 h2=>hK _ _ (h v' w' h1 h2)
def Mn{fs:List Fd}{g tot:Nat}{s:S3}:∀ j:Nat,(fiJ fs g tot s j).2.1.length<=s.1.length
 | 0=>jeA _
 | j+1=>jeK (FD (jeA _)).2.2.1 (Mn j)
def Kv{fs:List Fd}{g tot:Nat}{s:S3}{m j:Nat}(h:j<=m)(hf:(fiJ fs g tot s j).2.2.2=true):(fiJ fs g tot s m).2.2.2=true:=by
 cases e:(fiJ fs g tot s m).2.2.2 with
 | true=>rfl
 | false =>
  rw[pS h e]at hf;cases hf
def FG{fs:List Fd}{g tot:Nat}{s:S3}:∀ j:Nat,(fiJ fs g tot s j).1.length=j
 | 0=>rfl
 | j+1=>by
  show (_++[_]).length=_
  rw[jeC,FG j];rfl
def mE(W:World)(B fp id:Nat)(fv gv:Value)(xs:List Value)(gs:List Gr):Prop :=
 W.heap[fp]?=some (.cells #[.int .u32 (id:Int),fv,gv] 105 (0,0))/\B<=fp/\W.ownsRow B 109 2 gv gs.length xs /\
  ∀ j (h:j<gs.length),∃ a b,xs[2*j]?=some a/\xs[2*j+1]?=some b/\Gro W B (.agg #[a,b]) gs[j].1 gs[j].2
def mE.fil{W:World}{B fp id:Nat}{fv gv:Value}{xs:List Value}{gs:List Gr}(h:mE W B fp id fv gv xs gs):Fil W B fp id fv gs:=⟨gv,xs,h⟩
def mE.turn{W W':World}{B fp id:Nat}{fv gv:Value}{xs:List Value}{gs:List Gr}(h:mE W B fp id fv gv xs gs)(hb:∀ k,B<=k->k<W.heap.size->W'.heap[k]?=W.heap[k]?):mE W' B fp id fv gv xs gs:=by
 obtain⟨h1,h2,h3,h4⟩:=h;refine⟨(hb fp h2 (Array.getElem?_eq_some_iff.1 h1).1).trans h1,h2,bT h3 λk hk=>?_,λj hj=>?_⟩
 ·obtain⟨a,b,_⟩:=aN h3 hk
  exact hb k a b
 ·obtain⟨a,b,e1,e2,e3⟩:=h4 j hj
  exact⟨a,b,e1,e2,e3.turn λk _ _ k1 k2 _ _ _=>hb k k1 k2⟩
def mE.kept{W W':World}{B fp id:Nat}{fv gv:Value}{xs:List Value}{gs:List Gr}(h:mE W B fp id fv gv xs gs)(hb:jgu W W'):mE W' B fp id fv gv xs gs:=h.turn λk _ hk=>hb.block k hk
def mE.frp{W W':World}{B fp id p:Nat}{fv gv:Value}{xs:List Value}{gs:List Gr}(h:mE W B fp id fv gv xs gs)(hf:Fr p W.heap.size W W')(hp:p<B):mE W' B fp id fv gv xs gs:=h.turn λk hB hk=>hf.block k hk (by omega)
def mE.lt{W:World}{B fp id:Nat}{fv gv:Value}{xs:List Value}{gs:List Gr}(h:mE W B fp id fv gv xs gs):fp<W.heap.size:=(Array.getElem?_eq_some_iff.1 h.1).1
def mE.cell{W:World}{B fp id:Nat}{fv gv:Value}{xs:List Value}{gs:List Gr}(h:mE W B fp id fv gv xs gs):W.cell? ⟨fp,2,none⟩=some gv:=by
 rw[an h.1];rfl
def Fil.low{W:World}{B B' fp id:Nat}{fv:Value}{gs:List Gr}(h:Fil W B fp id fv gs)(hB:B'<=B):Fil W B' fp id fv gs:=by
 obtain⟨gv,xs,h1,h2,h3,h4⟩:=h;refine⟨gv,xs,h1,jeK hB h2,⟨h3.1,h3.2.imp (λx=>x) λ⟨g,cap,cur,hv,hb,r⟩=>⟨g,cap,cur,hv,jeK hB hb,r⟩⟩,λj hj=>?_⟩;obtain⟨a,b,e1,e2,e3⟩:=h4 j hj;exact⟨a,b,e1,e2,e3.low hB⟩
def Kw{w:World}{p:Nat}{c f:List Nat}(h:R3 w p c f false){fv:Value}{fs:List Fd}(hs:Sf w fv fs)(hw:∀ i,fv.ownBlock=some i->i<p)(hk:∀ x∈fs,1<=x.2.2.1/\x.2.2.1<=3)(id:Nat)(eI:fs.length<=8)(gV:c.length<=100000000) :
  Calls prog 97 #[.pointer (some ⟨p,0,none⟩),.agg #[.int .u32 (id:Int),fv]] w λr w'=>∃ fp,r=.returned (.tuple #[.pointer (some ⟨fp,0,none⟩),.int .i64 (fU 1 64 (db f):Int)])/\(∃ c' f',R3 w' p c' f' (gQ fs c f).2.2.2)/\((gQ fs c f).2.2.2=false->Fil w' w.heap.size fp id fv (gQ fs c f).1)/\Fr p w.heap.size w w':=by
 have ar:=h.lt;have Dg:=ae (λ(U:World) (hU:R3 U p c f false)=>pY hU 0 256 (by omega) (by omega));have oN:=ae (λ(U:World) (fl:Bool) (hU:R3 U p c (db f) fl)=>pY hU 1 64 (by omega) (by omega));have Dk:=rB 0 256 f;have hv2:=rB 1 64 (db f);have XG:=ae (λh=>Mh (lo:=1) (hi:=64) (b:=db f) h);have HE:jgt (gQ fs c f=fiJ fs (fU 1 64 (db f)) (fU 0 256 f) (c,db (db f),lV 0 256 f || lV 1 64 (db f)) (nps (fU 1 64 (db f)) (fU 0 256 f))):=ae rfl;rw[HE.o];clear HE;generalize fU 0 256 f=tot at *;generalize fU 1 64 (db f)=g at *;obtain⟨bd1,hbd1⟩:∃ b,lV 0 256 f=b:=⟨_,rfl⟩;obtain⟨bd2,hbd2⟩:∃ b,lV 1 64 (db f)=b:=⟨_,rfl⟩;simp only[hbd1,hbd2,Bool.false_or]at Dg oN XG ⊢;clear hbd1 hbd2;have HJL:=ae (λj=>Mn (fs:=fs) (g:=g) (tot:=tot) (s:=(c,db (db f),bd1 || bd2)) j);have HJ1:=ae (λj=>FG (fs:=fs) (g:=g) (tot:=tot) (s:=(c,db (db f),bd1 || bd2)) j);have HJS:=ae (λm j (hj:j<=m)=>Kv (fs:=fs) (g:=g) (tot:=tot) (s:=(c,db (db f),bd1 || bd2)) hj);have HJ0:jgt (fiJ fs g tot (c,db (db f),bd1 || bd2) 0=([],(c,db (db f),bd1 || bd2))):=ae rfl;have HJN:jgt (∀ j,fiJ fs g tot (c,db (db f),bd1 || bd2) (j+1)=((fiJ fs g tot (c,db (db f),bd1 || bd2) j).1++[((grK fs (min (tot-j*g) g) (fiJ fs g tot (c,db (db f),bd1 || bd2) j).2 fs.length).1,(grK fs (min (tot-j*g) g) (fiJ fs g tot (c,db (db f),bd1 || bd2) j).2 fs.length).2.1)],(grK fs (min (tot-j*g) g) (fiJ fs g tot (c,db (db f),bd1 || bd2) j).2 fs.length).2.2)):=ae (λj=>rfl);obtain⟨J,hJ⟩:∃ J,fiJ fs g tot (c,db (db f),bd1 || bd2)=J:=⟨_,rfl⟩;rw[hJ]at HJL HJ1 HJS HJ0 HJN ⊢;clear hJ;have XK:=ae (λ(hg:0<g) (j:Nat)=>kH (n:=tot) (j:=j) hg);generalize nps g tot=N at *;obtain⟨a,cap,rfl,bg,bx⟩:=hs.form;have az:=aj w (.cells #[.int .u32 (id:Int),.slice a fs.length cap] 25);obtain⟨x0,x1⟩:=aS w (.int .u32 (id:Int)) (.slice a fs.length cap) 25;have ap:=aj (w.alloc (.cells #[.int .u32 (id:Int),.slice a fs.length cap] 25)) (.cells #[.int .u32 (id:Int),.slice a fs.length cap,.slice none 0 0] 105);have hA0:w.heap.size<(w.alloc (.cells #[.int .u32 (id:Int),.slice a fs.length cap] 25)).heap.size:=by rw[jeB];omega
 have sA:((w.alloc (.cells #[.int .u32 (id:Int),.slice a fs.length cap] 25)).alloc (.cells #[.int .u32 (id:Int),.slice a fs.length cap,.slice none 0 0] 105)).heap.size=w.heap.size+2:=by rw[jeB,jeB]
 have x2:((w.alloc (.cells #[.int .u32 (id:Int),.slice a fs.length cap] 25)).alloc (.cells #[.int .u32 (id:Int),.slice a fs.length cap,.slice none 0 0] 105)).heap[w.heap.size+1]?=some (.cells #[.int .u32 (id:Int),.slice a fs.length cap,.slice none 0 0] 105 (0,0)):=by
  have:=je2 (w.alloc (.cells #[.int .u32 (id:Int),.slice a fs.length cap] 25)) (.cells #[.int .u32 (id:Int),.slice a fs.length cap,.slice none 0 0] 105);rwa[jeB]at this
 have x3:=(ap.cell (p:=⟨w.heap.size,1,none⟩) hA0).trans x1;have x4:=(ap.cell (p:=⟨w.heap.size,0,none⟩) hA0).trans x0;have hAb:jgu w ((w.alloc (.cells #[.int .u32 (id:Int),.slice a fs.length cap] 25)).alloc (.cells #[.int .u32 (id:Int),.slice a fs.length cap,.slice none 0 0] 105)):=ai az ap;have HR:=ae (h.kept hAb ar);have HS:=ae (hs.keptW hw (hAb.mono (by omega)));have HAB:=ae hAb;have jD:=ae sA;have GN:=ae x2;have HX3:=ae x3;have HX4:=ae x4;have HLT:=ae ar;clear h hs az ap hAb sA x2 hA0 x3 x4;go_enter func97,ntmps97
 go_upto_region 2 with fail
 generalize (w.alloc (.cells #[.int .u32 (id:Int),.slice a fs.length cap] 25)).alloc (.cells #[.int .u32 (id:Int),.slice a fs.length cap,.slice none 0 0] 105)=A at *;go_wp2_with fail;refine(Dg.o _ HR.o).mono ?_;rintro e w1 ⟨rfl,mh,cm⟩;have jw:=ae mh;have dN:=ae cm;clear mh cm;go_wp2_with fail;refine(oN.o _ _ jw.o).mono ?_;rintro e w2 ⟨rfl,qt,cM⟩;have fZ:=ae qt;have eW:=ae (dN.o.trans (cM.mono dN.o.size));clear qt cM;go_wp2_with fail;have XO:=ae (eW.o.mono (show w.heap.size+1<=A.heap.size by have:=jD.o;omega));have HK:=ae hk
 have HFX:jgt (mE w2 (w.heap.size+1) (w.heap.size+1) id (.slice a fs.length cap) (.slice none 0 0) [] []):=ae
  ⟨(eW.o.block (w.heap.size+1) (by have:=jD.o;omega) (by omega)).trans GN.o,jeA _,jfh _ _ _ _,λj hj=>by simp at hj⟩
 have tR:jgt (∀ j,(J j).2.2.2=false->1<=g):=ae (λj hj=>by
  apply XG.o
  cases bd2
  ·rfl
  ·have h0:(J 0).2.2.2=true:=by rw[HJ0.o];simp
   rw[HJS.o j 0 (jfl _) h0]at hj;cases hj)
 clear hk;go_loopw [7] (λi wr=>∃(j:Nat) (gv:Value) (xs:List Value),i=.int .i64 ((tot-j*g:Nat):Int)/\j<=N/\mE wr (w.heap.size+1) (w.heap.size+1) id (.slice a fs.length cap) gv xs (J j).1/\R3 wr p (J j).2.1 (J j).2.2.1 (J j).2.2.2/\Fr p (w.heap.size+1) A wr) (λi _=>(intOf i).toNat)
 case atStart =>
  refine⟨0,.slice none 0 0,[],by simp,jfl _,?_,?_,XO.o⟩
  ·rw[HJ0.o];exact HFX.o
  ·rw[HJ0.o];exact fZ.o
 case round =>
  obtain⟨j,gv,xs,rfl,hjN,hx,hr,hf⟩:=hrel;have HX:=ae hx;have HR:=ae hr;have HF:=ae hf;obtain⟨_,_,_,_,⟨_,_,r2⟩,⟨_,_,r3⟩,_,_⟩:=hr.cells;have jE:tot-j*g<=256:=by omega
  generalize hlf:tot-j*g=left at *;have HLF:=ae hlf;clear hlf;by_cases hp:0<left
  ·have hp':(left:Int) > 0:=by omega
   cases tS:(J j).2.2.2
   ·rw[tS]at r2
    have dP:1<=g:=tR.o j tS;obtain⟨m,hm⟩:∃ m,min left g=m:=⟨_,rfl⟩;have Rn:min (left:Int) (g:Int)=(m:Int):=(by omega);have CY:1<=m/\m<=64:=(by omega);have hml:m<=left:=(by omega);have hJN:=HJN.o j;have hJl:=HJL.o j;have hJ1:=HJ1.o j;have hLF:=HLF.o;rw[hLF,hm]at hJN;obtain⟨⟨gs0,c0,f0,fl0⟩,hJj⟩:∃ x,J j=x:=⟨_,rfl⟩;rw[hJj]at hJN hJl hJ1 hx hr tS;simp only at hJN hJl hJ1 hx hr tS;subst tS;obtain⟨KK,hKK⟩:∃ KK,grK fs m (c0,f0,false) fs.length=KK:=⟨_,rfl⟩;rw[hKK]at hJN;have HJS1:=ae hJN;have HX:=ae hx;have HR:=ae hr;have yc:∀ U,jgu wr U->Sf U (.slice a fs.length cap) fs:=λU hU=>(HS.o.keptW hw (HF.o.below (jeA p) (by omega))).kept hU
    have hBA:w.heap.size+1<=A.heap.size:=by have:=jD.o;omega
    have hBr:w.heap.size+1<wr.heap.size:=hx.lt
    have Xg:jgt (∀ U:World,jgu wr U->Calls prog 142 #[.pointer (some ⟨p,0,none⟩),.agg #[.int .u32 (id:Int),.slice a fs.length cap],.int .i64 (m:Int)] U λe w'=>∃ z1 z2,e=.returned (.agg #[z1,z2])/\(z1.oneCell'=true/\z2.oneCell'=true)/\Gro w' (w.heap.size+1) (.agg #[z1,z2]) KK.1 KK.2.1 /\
      R3 w' p KK.2.2.1 KK.2.2.2.1 KK.2.2.2.2/\mE w' (w.heap.size+1) (w.heap.size+1) id (.slice a fs.length cap) gv xs gs0/\Fr p (w.heap.size+1) A w'/\w'.cell? ⟨w.heap.size+1,2,none⟩=some gv/\(∀ o,(w'.alloc o).cell? ⟨w.heap.size+1,2,none⟩=some gv)/\w.heap.size+1<=w'.heap.size):=ae (λU hU=>by
     have hzU:=hU.size;refine(FE (HR.o.kept hU HR.o.lt) (yc U hU) hw HK.o id m CY eI (jeK hJl gV)).mono ?_;rintro e w' ⟨⟨v,rfl,Rm⟩,hr',hf'⟩;rw[hKK]at Rm hr';obtain⟨z1,z2,rfl,bW,aX⟩:=Rm.parts;have hx':=(HX.o.kept hU).frp hf' (by omega);exact⟨z1,z2,rfl,⟨bW,aX⟩,Rm.low (by omega),hr',hx',(HF.o.then (hU.mono (by omega))).trans (hf'.mono (by omega)),hx'.cell,λo=>((aj _ o).cell hx'.lt).trans hx'.cell,by have:=hx'.lt;omega⟩)
    have hgv:∃ ga gn gc,gv=.slice ga gn gc:=dI hx.2.2.1;obtain⟨ga,gn,gc,rfl⟩:=hgv;have jv:=hx.cell;have fR:wr.frozen? ⟨w.heap.size+1,2,none⟩=false:=by simp[World.frozen?,hx.1]
    have Gx:wr.cell? ⟨w.heap.size,0,none⟩=some (.int .u32 (id:Int)):=(World.cell?_of_block (a:=⟨w.heap.size,0,none⟩) (HF.o.block w.heap.size (by omega) (by omega))).trans HX4.o;have hc4:wr.cell? ⟨w.heap.size,1,none⟩=some (.slice a fs.length cap):=(World.cell?_of_block (a:=⟨w.heap.size,1,none⟩) (HF.o.block w.heap.size (by omega) (by omega))).trans HX3.o
    have XP:gs0.length<=100000:=by
     have h1:j<=j*g:=Nat.le_mul_of_pos_right j (by omega);omega
    have mf:jgt (tot-(j+1)*g=left-m/\j+1<=N):=ae (by
     rw[jfd];refine⟨by omega,?_⟩;exact(XK.o (by omega) j).2 (by omega))
    clear hx hr hf hm hJN hJl hJ1 hLF hJj hKK yc HX HF HR;go_upto_region 6 with fail
    try rw[Rn]
    refine wp_region_noPanic ?_
    go_region_law (first
     | (refine yP (by rfl) _ _ (by rfl) (w.heap.size+1) _ _ z1 z2 gs0.length xs (by rfl) ?_ (by rfl) ?_ bW aX XP ?_ ?_;exact bv HX5.o.2.2.1 (aj _ _);exact je2 _ _;(rw[jeB];omega);intro v6 w6 o6 g6 e6;have hx6:=HX5.o.kept (aj w5 (.cells #[z1,z2] 109));obtain⟨⟨gv7,xs7,jbz⟩,ct,hc6,hc7⟩:=Fil.add (g:=(KK.1,KK.2.1)) hx6.1 hx6.2.1 hx6.2.2.1 hx6.2.2.2 (QV.o.turn (λk _ _ _ k2 _ _ _=>(aj w5 (.cells #[z1,z2] 109)).block k k2)) o6 g6 e6;obtain⟨va7,vn7,vc7,rfl⟩:=dI o6;have zi:jgt (mE _ (w.heap.size+1) (w.heap.size+1) id (.slice a fs.length cap) gv7 xs7 (gs0++[(KK.1,KK.2.1)])):=ae jbz;have Re:=ae ((sy.o.kept (aj _ _) sy.o.lt).kept ct (by omega));have MV:=ae ((Gp.o.then ((aj _ _).mono sk)).trans (Fr.of_below ct));clear o6 g6 e6 jbz ct hx6)
     | (go_simp;go_at_call 142;refine(Xg.o _ ?_).mono ?_;exact ak (jez wr.heap.size wr) _;rintro e w5 ⟨z1,z2,rfl,⟨bW,aX⟩,hg5,RO,hx5,iX,hc5,ha5,sk⟩;have QV:=ae hg5;have sy:=ae RO;have HX5:=ae hx5;have Gp:=ae iX;clear hg5 RO hx5 iX;dsimp only)
     | fail)
    all_goals refine NoPanic.normal ?_
    all_goals
     go_wp2_with fail;go_roundw
     case rel =>
      refine⟨j+1,gv7,xs7,?_,mf.o.2,?_,?_,MV.o⟩
      ·rw[mf.o.1]
       congr 1
       omega
      ·rw[HJS1.o];exact zi.o
      ·rw[HJS1.o];exact Re.o
     case measure=>simp[intOf];omega
   ·rw[tS]at r2
    have HD:jgt ((J N).2.2.2=true):=ae (HJS.o N j hjN tS);have pu:=ae (show R3 wr p (J j).2.1 (J j).2.2.1 true from tS ▸ hr);have RI:=ae ((Fr.of_below HAB.o).trans (hf.mono (Nat.le_succ _)));clear hx hr hf tS;go_wp2_with fail;go_ret2
    rw[HD.o];exact⟨w.heap.size+1,rfl,⟨_,_,pu.o⟩,(λh=>by cases h),RI.o⟩
  ·have hp':¬ (left:Int) > 0:=by omega
   have HD:jgt ((J N).2.2.2=(J j).2.2.2/\((J N).2.2.2=false->j=N)):=ae (by
    cases tS:(J j).2.2.2
    ·have dP:=tR.o j tS
     have e:j=N:=by
      have h1:=XK.o (by omega) j;have h2:=HLF.o;rcases je0 j N with h3 | h3
      ·have:=h1.1 h3
       omega
      ·omega
     subst e;exact⟨tS,λ_=>rfl⟩
    ·have e:=HJS.o N j hjN tS
     exact⟨e,λh=>by rw[e]at h;cases h⟩)
   have RI:=ae ((Fr.of_below HAB.o).trans (hf.mono (Nat.le_succ _)));have pu:=ae hr;have HXF:=ae (hx.fil.low (Nat.le_succ _));clear hx hr hf r2 r3;go_wp2_with fail;go_ret2
   refine⟨w.heap.size+1,rfl,⟨_,_,by rw[HD.o.1];exact pu.o⟩,λh=>?_,RI.o⟩;have e:=HD.o.2 h;subst e;exact HXF.o
end Go.Proofs.YtpljdjmpamjkhaaGreatDoor
