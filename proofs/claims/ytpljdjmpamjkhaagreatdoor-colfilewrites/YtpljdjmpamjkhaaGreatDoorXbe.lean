import Derived.Test.YtpljdjmpamjkhaaGreatDoorXbd
set_option linter.unusedVariables false
set_option linter.unusedSimpArgs false
set_option maxRecDepth 100000
set_option maxHeartbeats 4000000
namespace Go.Proofs.YtpljdjmpamjkhaaGreatDoor
open Go.ChangeShapes Go.WideShapes Go.ChangeAt Go.RowKit Go.Lib Go.Joins
theorem jaS:(Tryz.prog.info? 58).map (fun i=>(i.zero,i.size,i.bytes))=some (some (.slice none 0 0),1,24):=by kernel_rfl
theorem jaT:(Tryz.prog.info? 54).map (fun i=>(i.zero,i.size,i.bytes))=some (some (.agg #[.int .i64 0,.int .i64 0,.bool false,.bool false,.int .u8 0,.int .i64 0,.string ⟨#[]⟩,.int .u8 0,.int .i64 0,.string ⟨#[]⟩]),10,88):=by kernel_rfl
def Sr(W:World)(v:Value)(rs:List (List Cl)):Prop :=
 ∃ a cap,v=.slice a rs.length cap/\rs.length<=cap/\cap<=maxLen/\(0<rs.length->∃ b off,a=some ⟨b,off,none⟩/\b<W.heap.size/\∀ j (h:j<rs.length),∃ rv,W.cell? ⟨b,off+j,none⟩=some rv/\Sc W rv rs[j])
theorem Sr.kept{W W':World}{v:Value}{rs:List (List Cl)}(h:Sr W v rs)(hb:Below W.heap.size W W'):Sr W' v rs:=by
 obtain⟨a,cap,h1,h2,h3,h4⟩:=h;refine⟨a,cap,h1,h2,h3,fun h0=>?_⟩;obtain⟨b,off,h5,h6,h7⟩:=h4 h0;refine⟨b,off,h5,jdS h6 hb.size,fun j hj=>?_⟩;obtain⟨rv,h8,h9⟩:=h7 j hj;exact⟨rv,(hb.cell (p:=⟨b,off+j,none⟩) h6).trans h8,h9.kept hb⟩
theorem Sr.form{W:World}{v:Value}{rs:List (List Cl)}(h:Sr W v rs):∃ a cap,v=.slice a rs.length cap/\rs.length<=cap/\cap<=maxLen:=by
 obtain⟨a,cap,h1,h2,h3,_⟩:=h;exact⟨a,cap,h1,h2,h3⟩
theorem Sr.at{W:World}{a:Option Addr}{n cap:Nat}{rs:List (List Cl)}(h:Sr W (.slice a n cap) rs){k:Nat}(hk:k<rs.length) :
  ∃ b off rv,a=some ⟨b,off,none⟩/\b<W.heap.size/\W.cell? ⟨b,off+k,none⟩=some rv/\Sc W rv rs[k]:=by
 obtain⟨a',cap',e,h1,h2,h4⟩:=h;simp only[Value.slice.injEq]at e;obtain⟨rfl,_,_⟩:=e;obtain⟨b,off,rfl,h5,h6⟩:=h4 (by omega);obtain⟨rv,h7,h8⟩:=h6 k hk;exact⟨b,off,rv,rfl,h5,h7,h8⟩
theorem Pb{H:Type}{enc:TypeId×Value->H}{W:World}{spare:Nat->Bool}{held:Bool}{a:Option Addr}{len cap:Nat}{d:DataW H}{p:List MemPlace}
  (h:DataW.Trod enc Tryz.prog W 0 spare held 26 (.slice a len cap) d p):∃ l:List (List Cl),Sr W (.slice a len cap) l/\∀ x∈l,∀ c∈x,Okc c:=by
 obtain⟨fuel,hf⟩:=h;rcases Deep.open_slice Tryz.underlying26 hf with ⟨h1,_⟩ | ⟨a1,l1,c1,m,n,D,Pl,h1,_,hlc,hm,hmm,_,hcells⟩
 ·simp[Value.cells]at h1
  obtain⟨rfl,rfl,rfl⟩:=h1;exact⟨[],⟨none,0,rfl,jdw _,by unfold maxLen;omega,fun h=>by simp at h⟩,fun x hx=>by simp at hx⟩
 ·simp[Value.cells]at h1
  obtain⟨rfl,rfl,rfl⟩:=h1;have cells58:Tryz.prog.cellsOf 58=1:=by kernel_rfl
  rw[cells58]at hcells;have hlm:len<=m:=by rw[hmm];split<;>omega
  have Vn:∀ i,i<len->∃ x:List Cl,(∀ c∈x,Okc c)/\∃ rv,W.cell? (a1.add i)=some rv/\Sc W rv x:=by
   intro i hi;obtain⟨cs,hc,ht⟩:=hcells i (by omega);rw[jeV]at hc;obtain⟨c0,rfl,e0⟩:=Pa hc;rcases DataW.trod_slice Tryz.underlying58 ht with ⟨h1,_⟩ | ⟨a',len',cap',elems,rest,n',Zq,h1,_⟩
   ·simp at h1
    subst h1;exact⟨[],fun c hc=>by simp at hc,_,e0,none,0,rfl,jdw _,by unfold maxLen;omega,fun h=>by simp at h⟩
   ·simp at h1
    subst h1;obtain⟨x,hx,hox⟩:=JC (d:=_) (p:=_) ⟨_,ht⟩;exact⟨x,hox,_,e0,hx⟩
  obtain⟨f,dD⟩:=Deep.choose_lt Vn;have mU:((List.range len).map f).length=len:=by simp
  refine⟨(List.range len).map f,⟨some a1,cap,by rw[mU],by rw[mU];omega,by omega,fun h0=>?_⟩,?_⟩
  ·rw[mU]at h0
   obtain⟨b,off,spot⟩:=a1
   have FM:spot=none:=by
    obtain⟨_,rv,h1,_⟩:=dD 0 (by omega);have:=World.cell?_spot h1;simpa [Addr.add]using this
   subst FM
   have hb:b<W.heap.size:=by
    obtain⟨cs,hc,_⟩:=hcells 0 (by omega);have:=World.cells?_block hc (by omega);simpa [Addr.add]using this
   refine⟨b,off,rfl,hb,fun j hj=>?_⟩;have LN:j<len:=by rwa[mU]at hj
   obtain⟨_,rv,h1,h2⟩:=dD j LN;rw[nh]at h1;exact⟨rv,h1,by simpa using h2⟩
  ·intro x hx
   obtain⟨i,hi,rfl⟩:=jdR.1 hx;exact(dD i (by simpa using hi)).1
theorem zO{W:World}{B B' e size n:Nat}{v:Value}{xs:List Value}(h:W.ownsRow B e size v n xs)(hb:B'<=B):W.ownsRow B' e size v n xs:=by
 rcases h with ⟨h0,h1 | ⟨g,cap,cur,rfl,h2,h3⟩⟩
 ·exact⟨h0,.inl h1⟩
 ·exact⟨h0,.inr ⟨g,cap,cur,rfl,jdF hb h2,h3⟩⟩
def rJ(l:List Stt):List Value:=l.flatMap celS
theorem rK:∀ l:List Stt,(rJ l).length=l.length*10
 | []=>rfl
 | c::t=>by
  show (celS c++rJ t).length=_
  rw[jdy,rK t,jdD];simp[celS]
  omega
theorem zP:∀{l:List Stt} {j:Nat} (h:j<l.length) {i:Nat} (hi:i<10),(rJ l)[j*10+i]?=(celS l[j])[i]?
 | c::t,0,h,i,hi=>by
  show (celS c++rJ t)[0*10+i]?=_
  rw[List.getElem?_append_left (by simp[celS];omega)];simp
 | c::t,j+1,h,i,hi=>by
  have ih:=zP (l:=t) (j:=j) (by simpa using h) hi;show (celS c++rJ t)[(j+1)*10+i]?=_
  rw[List.getElem?_append_right (by simp[celS];omega)];simp only[celS,jdD,jdX];rw[show (j+1)*10+i-(0+1+1+1+1+1+1+1+1+1+1)=j*10+i by omega,ih];rfl
def jaU(W:World)(B:Nat)(v:Value)(l:List Stt):Prop:=W.ownsRow B 54 10 v l.length (rJ l)
theorem jaU.ss{W:World}{B:Nat}{v:Value}{l:List Stt}(h:jaU W B v l):Ss W v l:=by
 rcases h with ⟨h0,⟨rfl,h1⟩ | ⟨g,cap,cur,rfl,h2,h3,h4,h5,h6,h7⟩⟩
 ·refine⟨none,0,by rw[h1],by omega,by unfold maxLen;omega,fun h=>by omega⟩
 ·refine⟨_,cap,rfl,h4,h5,fun _=>⟨g,0,rfl,fun j hj=>?_⟩⟩
  have hc:∀ i,i<10->W.cell? ⟨g,0+j*10+i,none⟩=(celS l[j])[i]?:=fun i hi=>by
   rw[jdZ,← zP hj hi];have aB:j*10+i<(rJ l).length:=by rw[rK];omega
   obtain⟨x,hx⟩:∃ x,(rJ l)[j*10+i]?=some x:=⟨_,List.getElem?_eq_getElem aB⟩;rw[hx];simp only[World.cell?,h3];have LN:(rJ l)[j*10+i]?=some x:=by rw[hx]
   rw[← h7]at LN;have jU:=(List.getElem?_eq_some_iff.1 LN).1;rw[jdC]at jU;rw[List.getElem?_take_of_lt (by omega)]at LN;simpa using LN
  exact⟨(Array.getElem?_eq_some_iff.1 h3).1,⟨hc 0 (by omega),hc 1 (by omega),hc 2 (by omega),hc 3 (by omega)⟩,⟨hc 4 (by omega),hc 5 (by omega),hc 6 (by omega)⟩,hc 7 (by omega),hc 8 (by omega),hc 9 (by omega)⟩
theorem iX{w:World}{ops:Array Oper}{o:Oper}{a:Act}{K:Act->World->Prop}{Q:Exit->Act->World->Prop}{E:Prop}(ex:o.guard=none)(s x:Operand)(t:TypeId)
  (ho:o.op=.call { callee:=.builtin .append,args:=#[s,x],argTypes:=#[t,t] })
  (base:Nat) (e:TypeId) (i:TypeInfo) (z:Value) (size bytes:Nat) (ht:Tryz.prog.underlying t=some (.slice e)) (hi:Tryz.prog.info? e=some i) (hz:i.zero=some z)
  (Ag:i.size=size) (FN:i.bytes=bytes) (hzs:z.cells.size=size) (jw:0<size)
  (v:Value) (n:Nat) (xs:List Value) (hs:a.eval s=v) (aA:w.ownsRow base e size v n xs)
  (ad:Addr) (m c:Nat) (news:List Value) (hx:a.eval x=.slice (some ad) m c) (hl:news.length=m*size) (hnews:∀ j u,news[j]?=some u->w.cell? (ad.add j)=some u) (h1:∀ u∈news,u.oneCell'=true)
  (h63:n+m<=maxLen) (hbytes:(n+m)*bytes<=140737488355328) (aJ:base<=w.heap.size)
  (h:∀ v' w',w'.ownsRow base e size v' (n+m) (xs++news)->w.grownBy w' v.ownBlock->(v'.ownBlock=v.ownBlock∨v'.ownBlock=some w.heap.size)->K (a.put o.dst v') w') :
  if Region.wanted o (yielded ops a.tmps)=true then Oper.wp Tryz.prog o a w K Q else E:=by
 have hw:Region.wanted o (yielded ops a.tmps)=true:=by simp[Region.wanted,ex]
 rw[jdu hw];obtain⟨v',w',hr,o1,g1,_,e1⟩:=run_append_own_at (P:=Tryz.prog) w base t o.type e i z size bytes ht hi hz Ag FN hzs jw v n xs aA ad m c news hl hnews h1 h63 hbytes aJ;unfold Oper.wp execOp;simp only[ho,resolve,invoke,builtin,Sem.run_bind,Sem.run_pure,Result.andThen_ok,jeJ,jd5,jes,hs,hx,hr];exact h v' w' o1 g1 e1
theorem cm{W W':World}{B:Nat}{e:TypeId}{size n:Nat}{v:Value}{xs:List Value}(h:W.ownsRow B e size v n xs)(hb:∀ k,v.ownBlock=some k->W'.heap[k]?=W.heap[k]?):W'.ownsRow B e size v n xs:=by
 refine⟨h.1,?_⟩;rcases h.2 with hn | ⟨g,cap,cur,rfl,h1,h2,r⟩
 ·exact .inl hn
 ·exact .inr ⟨g,cap,cur,rfl,h1,(hb g rfl).trans h2,r⟩
theorem aN{W:World}{B:Nat}{e:TypeId}{size n:Nat}{v:Value}{xs:List Value}(h:W.ownsRow B e size v n xs){k:Nat}(hk:v.ownBlock=some k):B<=k/\k<W.heap.size/\∃ cur,W.heap[k]?=some (.cells cur e (0,0)):=by
 rcases h.2 with ⟨rfl,_⟩ | ⟨g,cap,cur,rfl,h1,h2,r⟩
 ·cases hk
 ·cases hk
  exact⟨h1,(Array.getElem?_eq_some_iff.1 h2).1,cur,h2⟩
theorem fR{W:World}{B B':Nat}{e e':TypeId}{size size' n n':Nat}{v v':Value}{xs xs':List Value}(h:W.ownsRow B e size v n xs)(h':W.ownsRow B' e' size' v' n' xs')(he:e≠e'){k:Nat}(hk:v.ownBlock=some k):v'.ownBlock≠some k:=by
 intro hk';obtain⟨_,_,c,h1⟩:=aN h hk;obtain⟨_,_,c',h2⟩:=aN h' hk';rw[h1]at h2;cases h2
 exact he rfl
structure Grm (W:World) (B q R n:Nat) (rvs:List Value) (rows:List Row) (vs:Value) (sts:List Stt):Prop where
 box:W.heap[q]?=some (.cells #[.slice (some ⟨R,0,none⟩) n n,vs] 109 (0,0))
 hq:B<=q
 row:W.ownsRow B 79 1 (.slice (some ⟨R,0,none⟩) n n) n rvs
 len:rows.length=n
 own:∀ i (h:i<rows.length),∃ rv,rvs[i]?=some rv/\OwnV W B rv rows[i]
 apart:∀(i j:Nat) (ri rj:Value) (b:Nat),i≠j->rvs[i]?=some ri->rvs[j]?=some rj->ri.ownBlock=some b->rj.ownBlock≠some b
 st:W.ownsRow B 54 10 vs sts.length (sts.flatMap celS)
section
variable {W W':World} {B q R n:Nat} {rvs:List Value} {rows:List Row} {vs:Value} {sts:List Stt}
theorem Grm.lt(h:Grm W B q R n rvs rows vs sts):q<W.heap.size:=(Array.getElem?_eq_some_iff.1 h.box).1
theorem Grm.turn(h:Grm W B q R n rvs rows vs sts)(hb:∀ k,B<=k->k<W.heap.size->W'.heap[k]?=W.heap[k]?):Grm W' B q R n rvs rows vs sts:=by
 refine⟨(hb q h.hq h.lt).trans h.box,h.hq,cm h.row fun k hk=>?_,h.len,fun i hi=>?_,h.apart,cm h.st fun k hk=>?_⟩
 ·obtain⟨a,b,_⟩:=aN h.row hk
  exact hb k a b
 ·obtain⟨rv,h1,h2⟩:=h.own i hi
  exact⟨rv,h1,cm h2 fun k hk=>by obtain⟨a,b,_⟩:=aN h2 hk;exact hb k a b⟩
 ·obtain⟨a,b,_⟩:=aN h.st hk
  exact hb k a b
theorem Grm.kept(h:Grm W B q R n rvs rows vs sts)(hb:Below W.heap.size W W'):Grm W' B q R n rvs rows vs sts:=h.turn fun k _ hk=>hb.block k hk
theorem Grm.frp(h:Grm W B q R n rvs rows vs sts){p:Nat}(hf:Fr p W.heap.size W W')(hp:p<B):Grm W' B q R n rvs rows vs sts:=h.turn fun k hB hk=>hf.block k hk (by omega)
theorem Grm.low(h:Grm W B q R n rvs rows vs sts){B':Nat}(hB:B'<=B):Grm W B' q R n rvs rows vs sts :=
 have lo:∀{e size n:Nat} {v:Value} {xs:List Value},W.ownsRow B e size v n xs->W.ownsRow B' e size v n xs:=fun{e size n v xs} h=>⟨h.1,h.2.imp id fun⟨g,cap,cur,hv,hb,r⟩=>⟨g,cap,cur,hv,jdF hB hb,r⟩⟩
 ⟨h.box,jdF hB h.hq,lo h.row,h.len,fun i hi=>by obtain⟨rv,h1,h2⟩:=h.own i hi;exact⟨rv,h1,lo h2⟩,h.apart,lo h.st⟩
theorem Grm.cells(h:Grm W B q R n rvs rows vs sts):W.cell? ⟨q,0,none⟩=some (.slice (some ⟨R,0,none⟩) n n)/\W.cell? ⟨q,1,none⟩=some vs/\W.frozen? ⟨q,0,none⟩=false/\W.frozen? ⟨q,1,none⟩=false :=
 ⟨by rw[ay h.box];rfl,by rw[ay h.box];rfl,by simp[World.frozen?,h.box],by simp[World.frozen?,h.box]⟩
theorem Grm.addStat(h:Grm W B q R n rvs rows vs sts){vs':Value}{s:Stt}(ho:W'.ownsRow B 54 10 vs' (sts.length+1) (sts.flatMap celS++celS s))(hg:W.grownBy W' vs.ownBlock)(he:vs'.ownBlock=vs.ownBlock∨vs'.ownBlock=some W.heap.size) :
  Grm (W'.setCell ⟨q,1,none⟩ vs') B q R n rvs rows vs' (sts++[s])/\Below B W (W'.setCell ⟨q,1,none⟩ vs')/\(W'.cell? ⟨q,1,none⟩=some vs/\W'.frozen? ⟨q,1,none⟩=false) /\
   ∀(v:Value) (l:List Cl),OwnV W B v l->OwnV (W'.setCell ⟨q,1,none⟩ vs') B v l:=by
 have hqv:vs.ownBlock≠some q:=fun e=>by
  obtain⟨_,_,c,hc⟩:=aN h.st e;rw[h.box]at hc;cases hc
 have hq':W'.heap[q]?=some (.cells #[.slice (some ⟨R,0,none⟩) n n,vs] 109 (0,0)):=(hg.block q h.lt (fun e=>hqv e.symm)).trans h.box
 have hqv':vs'.ownBlock≠some q:=fun e=>by
  rcases he with e1 | e1
  ·exact hqv (e1.symm.trans e)
  ·rw[e1]at e
   cases e
   exact absurd h.lt (Nat.lt_irrefl _)
 have hn:∀ k,k≠q->(W'.setCell ⟨q,1,none⟩ vs').heap[k]?=W'.heap[k]?:=fun k hk=>Below.heap_setCell _ _ _ _ (by simpa using hk)
 have key:∀{e size m:Nat} {v:Value} {xs:List Value},W.ownsRow B e size v m xs->e≠54->e≠109->(W'.setCell ⟨q,1,none⟩ vs').ownsRow B e size v m xs:=fun{e size m v xs} ho' h1 h2=>cm ho' fun k hk=>by
  obtain⟨k1,k2,c,hc⟩:=aN ho' hk
  have hkq:k≠q:=by
   rintro rfl;rw[h.box]at hc;cases hc
   exact h2 rfl
  rw[hn k hkq];exact hg.block k k2 (fun e'=>fR ho' h.st h1 hk e'.symm)
 refine⟨⟨?_,h.hq,key h.row (by decide) (by decide),h.len,fun i hi=>?_,h.apart,?_⟩,⟨hg.os,hg.tape,hg.output,jdF hg.size (by simp[World.setCell]),fun k hk=>?_⟩,⟨by rw[ay hq'];rfl,by simp[World.frozen?,hq']⟩,fun v l hv=>key hv (by decide) (by decide)⟩
 ·rw[dy hq']
  rfl
 ·obtain⟨rv,h1,h2⟩:=h.own i hi
  exact⟨rv,h1,key h2 (by decide) (by decide)⟩
 ·rw[jeH,jdy]
  simp only[jdD,jdX,jeQ,List.flatMap_nil,jdT];exact cm ho fun k hk=>hn k (fun e=>hqv' (e ▸ hk))
 ·rw[hn k (by have:=h.hq;omega)]
  refine hg.block k (by have:=h.lt;have:=h.hq;omega) (fun e=>?_);have:=(aN h.st e.symm).1;omega
theorem Grm.addCell(h:Grm W B q R n rvs rows vs sts){j:Nat}(hj:j<rows.length){rv rv':Value}{x:Cl}(xS:rvs[j]?=some rv)(ho:OwnV W' B rv' (rows[j]++[x]))(hg:W.grownBy W' rv.ownBlock)(he:rv'.ownBlock=rv.ownBlock∨rv'.ownBlock=some W.heap.size) :
  Grm (W'.setCell ⟨R,j,none⟩ rv') B q R n (rvs.set j rv') (rows.set j (rows[j]++[x])) vs sts/\Below B W (W'.setCell ⟨R,j,none⟩ rv')/\(W'.cell? ⟨R,j,none⟩=some rv/\W'.frozen? ⟨R,j,none⟩=false/\W'.cell? ⟨q,0,none⟩=some (.slice (some ⟨R,0,none⟩) n n)) /\
   ∀(v:Value) (l:List Cl),OwnV W B v l->(∀ b,rv.ownBlock=some b->v.ownBlock≠some b)->OwnV (W'.setCell ⟨R,j,none⟩ rv') B v l:=by
 obtain⟨rv0,e0,jX⟩:=h.own j hj;rw[xS]at e0;cases e0
 obtain⟨hR1,hR2,cR,hcR⟩:=aN (k:=R) h.row rfl;have hRrv:rv.ownBlock≠some R:=fun e=>fR jX h.row (by decide) e rfl
 have hRrv':rv'.ownBlock≠some R:=fun e=>by
  rcases he with e1 | e1
  ·exact hRrv (e1.symm.trans e)
  ·rw[e1]at e
   cases e
   exact absurd hR2 (Nat.lt_irrefl _)
 have hqrv:rv.ownBlock≠some q:=fun e=>by
  obtain⟨_,_,c,hc⟩:=aN jX e;rw[h.box]at hc;cases hc
 have hqR:q≠R:=by
  rintro rfl;rw[h.box]at hcR;cases hcR
 have hn:∀ k,k≠R->(W'.setCell ⟨R,j,none⟩ rv').heap[k]?=W'.heap[k]?:=fun k hk=>Below.heap_setCell _ _ _ _ (by simpa using hk)
 have hrow':W'.ownsRow B 79 1 (.slice (some ⟨R,0,none⟩) n n) n rvs:=cm h.row fun k hk=>by
  cases hk
  exact hg.block R hR2 (fun e=>hRrv e.symm)
 have bR:=h.len
 have key:∀ i (hi:i<rows.length) ri,i≠j->rvs[i]?=some ri->OwnV W B ri rows[i]->OwnV (W'.setCell ⟨R,j,none⟩ rv') B ri rows[i]:=fun i hi ri PN Cp hoi=>cm hoi fun k hk=>by
  obtain⟨_,k2,_⟩:=aN hoi hk
  have hkR:k≠R:=by
   rintro rfl;exact fR hoi h.row (by decide) hk rfl
  rw[hn k hkR];exact hg.block k k2 (fun e=>h.apart i j ri rv k PN Cp xS hk e.symm)
 refine⟨⟨?_,h.hq,(hrow'.stored j rv').1,by rw[jeS];exact bR,fun i hi=>?_,fun i i' ri ri' b hii Cp hri' hb=>?_,cm h.st fun k hk=>?_⟩,⟨hg.os,hg.tape,hg.output,jdF hg.size (by simp[World.setCell]),fun k hk=>?_⟩,⟨?_,hrow'.frozenAt j,by rw[ay ((hg.block q h.lt (fun e=>hqrv e.symm)).trans h.box)];rfl⟩,fun v l hv hd=>cm hv fun k hk=>?_⟩
 ·rw[hn q hqR]
  exact(hg.block q h.lt (fun e=>hqrv e.symm)).trans h.box
 ·rw[jeS]at hi
  by_cases PN:i=j
  ·subst PN
   have hlr:i<rvs.length:=(List.getElem?_eq_some_iff.1 xS).1;refine⟨rv',by rw[List.getElem?_set_self hlr],?_⟩;rw[List.getElem_set_self];exact cm ho fun k hk=>hn k (fun e=>hRrv' (e ▸ hk))
  ·obtain⟨ri,h1,h2⟩:=h.own i hi
   refine⟨ri,by rw[List.getElem?_set_ne (Ne.symm PN)];exact h1,?_⟩;rw[List.getElem_set_ne (Ne.symm PN)];exact key i hi ri PN h1 h2
 ·have hlr:j<rvs.length:=(List.getElem?_eq_some_iff.1 xS).1
  have old:∀ m rm,rvs[m]?=some rm->m<rows.length:=fun m rm hm=>by
   have:=(List.getElem?_eq_some_iff.1 hm).1;have h1:=h.row.1;omega
  have fresh:∀ m rm k,m≠j->rvs[m]?=some rm->rm.ownBlock=some k->rv'.ownBlock≠some k:=fun m rm k hmj hm hk e=>by
   obtain⟨r0,h1,h2⟩:=h.own m (old m rm hm);rw[hm]at h1;cases h1
   rcases he with e1 | e1
   ·exact h.apart m j rm rv k hmj hm xS hk (e1.symm.trans e)
   ·rw[e1]at e
    cases e
    exact absurd (aN h2 hk).2.1 (Nat.lt_irrefl _)
  by_cases PN:i=j
  ·subst PN
   rw[List.getElem?_set_self hlr]at Cp;cases Cp
   rw[List.getElem?_set_ne hii]at hri';intro e;exact fresh i' ri' b (Ne.symm hii) hri' e hb
  ·rw[List.getElem?_set_ne (Ne.symm PN)]at Cp
   by_cases hij':i'=j
   ·subst hij'
    rw[List.getElem?_set_self hlr]at hri';cases hri'
    exact fresh i ri b PN Cp hb
   ·rw[List.getElem?_set_ne (Ne.symm hij')]at hri'
    exact h.apart i i' ri ri' b hii Cp hri' hb
 ·obtain⟨_,k2,_⟩:=aN h.st hk
  have hkR:k≠R:=by
   rintro rfl;exact fR h.st h.row (by decide) hk rfl
  rw[hn k hkR];exact hg.block k k2 (fun e=>fR h.st jX (by decide) hk e.symm)
 ·rw[hn k (by omega)]
  refine hg.block k (by omega) (fun e=>?_);have:=(aN jX e.symm).1;omega
 ·have h1:=h.row.1
  rw[hrow'.cellAt j (by omega)];exact xS
 ·obtain⟨_,k2,_⟩:=aN hv hk
  have hkR:k≠R:=by
   rintro rfl;exact fR hv h.row (by decide) hk rfl
  rw[hn k hkR];exact hg.block k k2 (fun e=>hd k e.symm hk)
end
theorem Lt:(Tryz.prog.info? 79).map (fun i=>(i.zero,i.size,i.bytes))=some (some (.slice none 0 0),1,24):=by kernel_rfl
theorem eO(rs:List Row)(l:List Cl):(psh rs l).length=rs.length:=by simp[psh]
theorem oT{rs:List Row}{l:List Cl}{i:Nat}(h:i<rs.length):(psh rs l)[i]'(by rw[eO];exact h)=rs[i]++(l[i]?).toList:=by simp[psh]
theorem Xz(rs:List Row):psh rs []=rs:=by
 apply List.ext_getElem (eO _ _)
 intro i h1 h2;rw[oT h2];simp
theorem TQ{rs:List Row}{l:List Cl}{j:Nat}(h1:j<rs.length)(h2:j<l.length):(psh rs (l.take j)).set j ((psh rs (l.take j))[j]'(by rw[eO];exact h1)++[l[j]])=psh rs (l.take (j+1)):=by
 apply List.ext_getElem (by simp[eO])
 intro i h3 h4;rw[eO]at h4;rw[oT h4];by_cases e:i=j
 ·subst e
  rw[List.getElem_set_self]
  have e:(psh rs (l.take i))[i]'(by rw[eO];exact h1)=rs[i]:=by
   rw[oT (l:=l.take i) h1];simp[List.getElem?_take]
  rw[e];simp[List.getElem?_take,h2]
 ·rw[List.getElem_set_ne (Ne.symm e),oT h4]
  congr 2
  simp only[List.getElem?_take];by_cases h5:i<j
  ·rw[jdu h5,jdu (by omega)]
  ·rw[jdt h5,jdt (by omega)]
theorem Pc{k n:Nat}{s:S3}(hk:1<=k/\k<=3)(hn:n<=64)(hb:Bs s.1):(∀ x∈(iz k n s).1,aT x)/\(iz k n s).1.length<=n:=by
 unfold iz;simp only;cases h:gC k (s.1.take (gi 0 s.1.length s.2.1)) n with
 | none=>exact⟨fun x hx=>by simp at hx,by simp⟩
 | some l =>
  obtain⟨h1,h2,_⟩:=(lU hk (by omega) (hb.take _)).1 h;exact⟨fun x hx=>(h1.2.2 x hx).fine,by simp[h2]⟩
theorem TR(k n:Nat)(s:S3):(iz k n s).2.1.length<=s.1.length:=by
 unfold iz;simp only[jd3];omega
theorem TS(l:List Cl)(s:S3):(qa l s).1=s.1:=by
 unfold qa;split<;>rfl
theorem EO{fs:List Fd}{n:Nat}{s:S3}:∀{k:Nat},k<=fs.length->(grK fs n s k).1.length=n/\(grK fs n s k).2.1.length=k/\(grK fs n s k).2.2.1.length<=s.1.length/\∀ r∈(grK fs n s k).1,r.length<=k:=by
 intro k;induction k with
 | zero=>exact fun _=>⟨by simp[wX],rfl,jdw _,fun r hr=>by rw[wX]at hr;simp only[List.mem_replicate]at hr;rw[hr.2];exact jdw _⟩
 | succ k ih =>
  intro h;obtain⟨h1,h2,h3,h4⟩:=ih (by omega);rw[rr (by omega)];unfold grS;refine⟨by simp only[eO];exact h1,by simp[h2],?_,?_⟩
  ·simp only
   rw[TS];exact jdF (TR _ _ _) h3
  ·simp only
   intro r hr;obtain⟨i,hi,rfl⟩:=List.getElem_of_mem hr;have hi':=hi;rw[eO]at hi';rw[oT hi',jdy];have:=h4 _ (jdA hi');have h5:∀ o:Option Cl,o.toList.length<=1:=fun o=>by cases o<;>simp
   have:=h5 ((iz fs[k].2.2.1 n (grK fs n s k).2.2).1[i]?);omega
theorem eP{W:World}{B:Nat}{e:TypeId}{size n:Nat}{v:Value}{xs:List Value}(h:W.ownsRow B e size v n xs):∃ a m c,v=.slice a m c:=by
 rcases h.2 with ⟨h,_⟩ | ⟨_,_,_,h,_⟩
 ·exact⟨_,_,_,h⟩
 ·exact⟨_,_,_,h⟩
theorem ym{w:World}{ops:Array Oper}{o:Oper}{a:Act}{K:Act->World->Prop}{Q:Exit->Act->World->Prop}{E:Prop}(ex:o.guard=none)(s x:Operand)
  (ho:o.op=.call { callee:=.builtin .append,args:=#[s,x],argTypes:=#[107,107] })
  (base:Nat) (v:Value) (g:Nat) (z:Stt) (l0:List Stt) (hs:a.eval s=v) (aA:w.ownsRow base 54 10 v l0.length (l0.flatMap celS)) (hx:a.eval x=.slice (some ⟨g,0,none⟩) 1 1)
  (hc:Stb w g z) (hbytes:l0.length<=100000) (aJ:base<=w.heap.size)
  (h:∀ v' w',w'.ownsRow base 54 10 v' (l0.length+1) (l0.flatMap celS++celS z)->w.grownBy w' v.ownBlock->(v'.ownBlock=v.ownBlock∨v'.ownBlock=some w.heap.size)->K (a.put o.dst v') w') :
  if Region.wanted o (yielded ops a.tmps)=true then Oper.wp Tryz.prog o a w K Q else E:=by
 obtain⟨i0,hi,ct,hz1',bv⟩:=jdP jaT
 refine iX ex s x 107 ho base 54 i0 (.agg #[.int .i64 0,.int .i64 0,.bool false,.bool false,.int .u8 0,.int .i64 0,.string ⟨#[]⟩,.int .u8 0,.int .i64 0,.string ⟨#[]⟩]) 10 88 Tryz.underlying107 hi ct hz1' bv rfl (by decide) v l0.length (l0.flatMap celS) hs aA ⟨g,0,none⟩ 1 1 (celS z) hx rfl ?_ (fun u hu=>by
  unfold celS at hu;simp only[jdN,jfc,or_false]at hu;rcases hu with rfl | rfl | rfl | rfl | rfl | rfl | rfl | rfl | rfl | rfl<;>rfl) (by unfold maxLen;omega) (by omega) aJ h
 intro j u hu;rw[mv];unfold Stb at hc;rw[ay hc];unfold celS at hu;simpa using hu
theorem yn{w:World}{ops:Array Oper}{o:Oper}{a:Act}{K:Act->World->Prop}{Q:Exit->Act->World->Prop}{E:Prop}(ex:o.guard=none)(s x:Operand)
  (ho:o.op=.call { callee:=.builtin .append,args:=#[s,x],argTypes:=#[79,79] })
  (base:Nat) (v:Value) (g:Nat) (z:Cl) (l0:List Cl) (hs:a.eval s=v) (aA:OwnV w base v l0) (hx:a.eval x=.slice (some ⟨g,0,none⟩) 1 1)
  (hc:w.cell? ⟨g,0,none⟩=some (cY z)) (hbytes:l0.length<=100000) (aJ:base<=w.heap.size)
  (h:∀ v' w',OwnV w' base v' (l0++[z])->w.grownBy w' v.ownBlock->(v'.ownBlock=v.ownBlock∨v'.ownBlock=some w.heap.size)->K (a.put o.dst v') w') :
  if Region.wanted o (yielded ops a.tmps)=true then Oper.wp Tryz.prog o a w K Q else E:=by
 obtain⟨i0,hi,ct,hz1',bv⟩:=jdP vE;have hvc:=aG l0
 refine iX ex s x 79 ho base 78 i0 .nilIface 1 16 Tryz.underlying79 hi ct hz1' bv rfl (by decide) v l0.length (aI l0) hs aA ⟨g,0,none⟩ 1 1 [cY z] hx rfl ?_ (fun u hu=>by
  simp only[jdN,jfc,or_false]at hu;subst hu;rcases xk z with e | ⟨_,_,e⟩<;>rw[e]<;>rfl) (by unfold maxLen;omega) (by omega) aJ ?_
 ·intro j u hu
  cases j with
  | zero =>
   rw[mv];simpa [hc]using hu
  | succ j=>simp at hu
 ·intro v' w' o1 g1 e1
  refine h v' w' ?_ g1 e1;unfold OwnV;rw[jdy];have:aI (l0++[z])=aI l0++[cY z]:=by simp[aI]
  rw[this];exact o1
def Gro(W:World)(B:Nat)(v:Value)(rows:List Row)(sts:List Stt):Prop :=
 ∃ R rvs vs,v=.agg #[.slice (some ⟨R,0,none⟩) rows.length rows.length,vs]/\W.ownsRow B 79 1 (.slice (some ⟨R,0,none⟩) rows.length rows.length) rows.length rvs /\
  (∀ i (h:i<rows.length),∃ rv,rvs[i]?=some rv/\OwnV W B rv rows[i])/\W.ownsRow B 54 10 vs sts.length (sts.flatMap celS)
theorem Grm.gro{W:World}{B q R n:Nat}{rvs:List Value}{rows:List Row}{vs:Value}{sts:List Stt}(h:Grm W B q R n rvs rows vs sts):Gro W B (.agg #[.slice (some ⟨R,0,none⟩) n n,vs]) rows sts:=by
 obtain⟨_,_,h1,h2,h3,_,h4⟩:=h;subst h2;exact⟨R,rvs,vs,rfl,h1,h3,h4⟩
theorem Sf.keptW{W W':World}{B:Nat}{v:Value}{l:List Fd}(h:Sf W v l)(hv:∀ k,v.ownBlock=some k->k<B)(hb:Below B W W'):Sf W' v l:=by
 obtain⟨a,cap,rfl,h2,h3,h0,h4⟩:=h;refine⟨a,cap,rfl,h2,h3,h0,fun h0=>?_⟩;obtain⟨b,off,rfl,h6,h7⟩:=h4 h0;have hb':b<B:=hv b rfl;exact⟨b,off,rfl,jdS h6 hb.size,fun j x hj=>(hb.cell (p:=⟨b,off+j,none⟩) hb').trans (h7 j x hj)⟩
theorem EP{w:World}{p:Nat}{c f:List Nat}{fl:Bool}(h:R3 w p c f fl){fv:Value}{fs:List Fd}(hs:Sf w fv fs)(hw:∀ i,fv.ownBlock=some i->i<p)(hk:∀ x∈fs,1<=x.2.2.1/\x.2.2.1<=3)(id n:Nat)(hn:1<=n/\n<=64)(kj:fs.length<=8)(eQ:c.length<=100000000) :
  Calls Tryz.prog 142 #[.pointer (some ⟨p,0,none⟩),.agg #[.int .u32 (id:Int),fv],.int .i64 (n:Int)] w fun r w'=>(∃ v,r=.returned v/\Gro w' w.heap.size v (grK fs n (c,f,fl) fs.length).1 (grK fs n (c,f,fl) fs.length).2.1)/\R3 w' p (grK fs n (c,f,fl) fs.length).2.2.1 (grK fs n (c,f,fl) fs.length).2.2.2.1 (grK fs n (c,f,fl) fs.length).2.2.2.2/\Fr p w.heap.size w w':=by
 obtain⟨i0,hi,ct,hz1',bv⟩:=jdP Lt;have aB:=h.lt;have HGR:=ae (fun k (hk:k<=fs.length)=>EO (fs:=fs) (n:=n) (s:=(c,f,fl)) hk);have HGS:=ae (fun k (hk:k<fs.length)=>rr hk n (c,f,fl));have HG0:=ae (wX fs n (c,f,fl));obtain⟨G,hG⟩:∃ G,grK fs n (c,f,fl)=G:=⟨_,rfl⟩;rw[hG]at HGR HGS HG0 ⊢;clear hG;obtain⟨a,cap,rfl,aW,bw⟩:=hs.form;have aH:=am w (.cells #[.int .u32 (id:Int),.slice a fs.length cap] 25);have aE:=am (w.alloc (.cells #[.int .u32 (id:Int),.slice a fs.length cap] 25)) (.cells #[.slice none 0 0,.slice none 0 0] 109);obtain⟨x0,x1⟩:=bx w (.int .u32 (id:Int)) (.slice a fs.length cap) 25;have hA0:w.heap.size<(w.alloc (.cells #[.int .u32 (id:Int),.slice a fs.length cap] 25)).heap.size:=by rw[jdx];omega
 have sA:((w.alloc (.cells #[.int .u32 (id:Int),.slice a fs.length cap] 25)).alloc (.cells #[.slice none 0 0,.slice none 0 0] 109)).heap.size=w.heap.size+2:=by rw[jdx,jdx]
 have x2:((w.alloc (.cells #[.int .u32 (id:Int),.slice a fs.length cap] 25)).alloc (.cells #[.slice none 0 0,.slice none 0 0] 109)).heap[w.heap.size+1]?=some (.cells #[.slice none 0 0,.slice none 0 0] 109 (0,0)):=by
  have:=jdW (w.alloc (.cells #[.int .u32 (id:Int),.slice a fs.length cap] 25)) (.cells #[.slice none 0 0,.slice none 0 0] 109);rwa[jdx]at this
 have x3:((w.alloc (.cells #[.int .u32 (id:Int),.slice a fs.length cap] 25)).alloc (.cells #[.slice none 0 0,.slice none 0 0] 109)).cell? ⟨w.heap.size,1,none⟩=some (.slice a fs.length cap):=(aE.cell (p:=⟨w.heap.size,1,none⟩) hA0).trans x1;have hAb:Below w.heap.size w ((w.alloc (.cells #[.int .u32 (id:Int),.slice a fs.length cap] 25)).alloc (.cells #[.slice none 0 0,.slice none 0 0] 109)):=ai aH aE;have HR:=ae (h.kept hAb aB);have HS:=ae (hs.keptW hw (hAb.mono (by omega)));have Zt:=ae hAb;have lF:=ae sA;have yy:=ae x2;clear h hs aH aE x0 x1 hAb sA x2 hA0;generalize hA:(w.alloc (.cells #[.int .u32 (id:Int),.slice a fs.length cap] 25)).alloc (.cells #[.slice none 0 0,.slice none 0 0] 109)=A at *;go_enter Tryz.func142,Tryz.ntmps142
 go_wp2_with (first | (refine jeA _ rfl _ _ 34 rfl A.heap.size 79 i0 (.slice none 0 0) 1 Tryz.underlying34 hi ct hz1' .i64 .i64 _ _ n rfl rfl ?m1 ?m2 ?m3 ?m4 ?m5 ?_))
 case m1=>rfl
 case m2=>rfl
 case m3=>first | omega | (rw[bv];omega)
 case m4=>unfold maxLen;omega
 try (case m5=>omega)
 intro w4 gN iN;have bK:Below A.heap.size A w4:=(jdv _ _).grown iN (jdw _) (fun k hk=>by cases hk);have Ks:A.heap.size<w4.heap.size:=(gN.lt A.heap.size rfl).2
 have ho4':w4.ownsRow A.heap.size 79 1 (.slice (some ⟨A.heap.size,0,none⟩) n n) n (List.replicate n (.slice none 0 0)):=by
  rw[← jeZ];simpa using gN
 have bD:=am w4 (.cells #[.slice (some ⟨A.heap.size,0,none⟩) n n,.slice none 0 0] 109)
 have hG5:Grm (w4.alloc (.cells #[.slice (some ⟨A.heap.size,0,none⟩) n n,.slice none 0 0] 109)) A.heap.size w4.heap.size A.heap.size n (List.replicate n (.slice none 0 0)) (List.replicate n []) (.slice none 0 0) [] :=
  ⟨jdW w4 _,bK.size,bL ho4' bD,List.length_replicate,fun i hi=>⟨.slice none 0 0,by simp at hi;simp[hi],by simp only[List.getElem_replicate];exact OwnV.nil _ _⟩,(fun i j ri rj b PN Cp hrj hb=>by
   rw[List.getElem?_replicate]at Cp;split at Cp
   ·cases Cp
    cases hb
   ·cases Cp),jeo _ _ _ _⟩
 have UG:Below A.heap.size A (w4.alloc (.cells #[.slice (some ⟨A.heap.size,0,none⟩) n n,.slice none 0 0] 109)):=ai bK bD;have PW:=ae hG5;have tv:=ae (HR.o.kept UG HR.o.lt);have rZ:=ae (HS.o.kept UG);have aR:=ae UG;have hc5:=(UG.cell (p:=⟨w.heap.size,1,none⟩) (by rw[lF.o];simp)).trans x3;have hqA:A.heap.size<w4.heap.size:=Ks;clear gN iN bK ho4' bD hG5 UG hA x3;go_upto_region 2 with fail
 generalize w4.alloc (.cells #[.slice (some ⟨A.heap.size,0,none⟩) n n,.slice none 0 0] 109)=W5 at *;have HK:=ae hk;have hcl5:∃ u,W5.cell? ⟨w.heap.size,1,none⟩=some u:=⟨_,hc5⟩;clear hk hcl5;have HZQ:=ae hqA;generalize w4.heap.size=q at *;clear Ks;have LK:p<A.heap.size:=by have:=lF.o;omega
 go_wp2_with fail;go_loopw [19] (fun i wr=>∃(k:Nat) (rvs:List Value) (vs:Value),i=.int .i64 (k:Int)/\k<=fs.length/\Grm wr A.heap.size q A.heap.size n rvs (G k).1 vs (G k).2.1/\R3 wr p (G k).2.2.1 (G k).2.2.2.1 (G k).2.2.2.2/\Fr p A.heap.size A wr) (fun i _=>fs.length-(intOf i).toNat)
 case atStart =>
  refine⟨0,List.replicate n (.slice none 0 0),.slice none 0 0,rfl,by omega,?_,?_,Fr.of_below aR.o⟩
  ·rw[HG0.o];exact PW.o
  ·rw[HG0.o];exact tv.o
 case round =>
  obtain⟨k,rvs,vs,rfl,hk,hg,hr,hf⟩:=hrel;have HG:=ae hg;have HR:=ae hr;have HF:=ae hf
  have hvs:∃ va vn vc,vs=.slice va vn vc:=by
   rcases hg.st.2 with ⟨h,_⟩ | ⟨_,_,_,h,_⟩
   ·exact⟨_,_,_,h⟩
   ·exact⟨_,_,_,h⟩
  obtain⟨va,vn,vc,rfl⟩:=hvs;obtain⟨y0,y1,y2,y3⟩:=hg.cells;have iH:=hf.size;have hqr:=hg.lt;have KG:=ae (HGR.o k hk);clear hg hr;by_cases jU:k<fs.length
  ·obtain⟨b,off,rfl,hb,z0,z1,z2,z3⟩:=(HS.o.keptW hw (hf.below (jdw p) (by omega))).at jU
   have HGK:=ae (HGS.o k jU);have Yn:=ae (HK.o fs[k] (jdA jU));have HCF:=ae (Pc (n:=n) (s:=(G k).2.2) Yn.o hn.2 HR.o.bs.1);have qr:jfp ((G k).2.2.1.length<=100000000):=ae (jdF KG.o.2.2.1 eQ);have QA:=ae (fun(U:World) (hU:R3 U p (G k).2.2.1 (G k).2.2.2.1 (G k).2.2.2.2)=>NY hU fs[k].2.2.1 n Yn.o hn.2 qr.o);have VT:=am wr (.cells #[.int .u32 (fs[k].1:Int),.string fs[k].2.1,.int .u8 (fs[k].2.2.1:Int),.bool fs[k].2.2.2] 81);have HRZ:=ae (HR.o.kept VT HR.o.lt);have HGZ:=ae (HG.o.kept VT);have HFZ:=ae (HF.o.then (VT.mono iH));have hlt2':(k:Int)<(fs.length:Int):=(by omega);clear hf VT;generalize fs[k]=fk at *;obtain⟨f1,f2,f3,f4⟩:=fk;simp only at *;have hbZ:∀ o,(wr.alloc o).heap.size=wr.heap.size+1:=fun o=>jdx _ _
   go_wp2_with fail;generalize wr.alloc (.cells #[.int .u32 (f1:Int),.string f2,.int .u8 (f3:Int),.bool f4] 81)=Z at *;refine(QA.o _ HRZ.o).mono ?_;rintro e w1 ⟨v,rfl,eH,Am,dv⟩;have hgk:G (k+1)=(psh (G k).1 (iz f3 n (G k).2.2).1,(G k).2.1++[cA (iz f3 n (G k).2.2).1],qa (iz f3 n (G k).2.2).1 (iz f3 n (G k).2.2).2):=HGK.o;generalize iz f3 n (G k).2.2=cr at *;obtain⟨l,c1,b1,fl1⟩:=cr;simp only at *;have HGN:=ae hgk;generalize G k=gk at *;obtain⟨rows,sts,s0⟩:=gk;simp only at *;have tu:=ae (HGZ.o.frp dv LK);have gp:=ae (HFZ.o.trans (dv.mono HFZ.o.size));have cP:=HFZ.o.size;have eY:=ae (OwnV.of_le eH cP);have sg:=ae Am
   have HD1:jfp (∀(i:Nat) (ri:Value),rvs[i]?=some ri->∀ b,ri.ownBlock=some b->v.ownBlock≠some b):=ae (fun i ri hi b hb e=>by
    have hl:=(List.getElem?_eq_some_iff.1 hi).1;have h1:=HGZ.o.row.1;have h2:=HGZ.o.len;obtain⟨rv,e1,e2⟩:=HGZ.o.own i (by omega);rw[hi]at e1;cases e1
    have:=(aN e2 hb).2.1;have:=(aN eH e).1;omega)
   obtain⟨va1,vn1,vc1,rfl⟩:∃ va vn vc,v=.slice va vn vc:=by
    rcases eH.2 with ⟨h,_⟩ | ⟨_,_,_,h,_⟩
    ·exact⟨_,_,_,h⟩
    ·exact⟨_,_,_,h⟩
   obtain⟨st,kJ⟩:∃ st,cA l=st:=⟨_,rfl⟩;obtain⟨S,hS⟩:∃ S,qa l (c1,b1,fl1)=S:=⟨_,rfl⟩
   have cU:jfp (∀ U:World,Below w1.heap.size w1 U->Calls Tryz.prog 182 #[.pointer (some ⟨p,0,none⟩),.slice va1 vn1 vc1] U fun e w'=>e=.returned (.agg #[.int .i64 st.rows,.int .i64 st.nulls,.bool st.some,.bool st.high,.int .u8 (st.lo.1:Int),.int .i64 st.lo.2.1,.string (ak st.lo.2.2),.int .u8 (st.hi.1:Int),.int .i64 st.hi.2.1,.string (ak st.hi.2.2)]) /\
     R3 w' p S.1 S.2.1 S.2.2/\Grm w' A.heap.size q A.heap.size n rvs rows (.slice va vn vc) sts/\Fr p A.heap.size A w'/\OwnV w' A.heap.size (.slice va1 vn1 vc1) l/\w'.cell? ⟨q,1,none⟩=some (.slice va vn vc)/\A.heap.size<=w'.heap.size/\∀ o,(w'.alloc o).cell? ⟨q,1,none⟩=some (.slice va vn vc)):=ae (fun U hU=>by
    refine(EJ (sg.o.kept hU sg.o.lt) (eY.o.sv.kept hU) HCF.o.1 (by have:=HCF.o.2;omega)).mono ?_;rintro e w' ⟨rfl,hr,hf⟩;rw[hS]at hr;rw[kJ];have hzU:=hU.size;have hfa:=(gp.o.then (hU.mono gp.o.size)).trans (hf.mono (jdF gp.o.size hzU));have hg:=(tu.o.kept hU).frp hf LK;exact⟨rfl,hr,hg,hfa,Fr.own hf (eY.o.kept hU) LK,hg.cells.2.1,hfa.size,fun o=>((am _ o).cell hg.lt).trans hg.cells.2.1⟩)
   rw[kJ,hS]at HGN;obtain⟨y0,y1,y2,y3⟩:=tu.o.cells;have Ki:=gp.o.size;have pE:sts.length<=100000:=by have:=KG.o.2.1;omega
   clear hgk HGK eH Am dv QA HRZ HGZ HFZ HG HR HF z0 z1 z2 z3 kJ hS;go_upto_region 6 with fail
   go_cut [] from 58 (fun wx=>∃ va6 vn6 vc6,Grm wx A.heap.size q A.heap.size n rvs rows (.slice va6 vn6 vc6) (sts++[st])/\R3 wx p S.1 S.2.1 S.2.2/\Fr p A.heap.size A wx/\OwnV wx A.heap.size (.slice va1 vn1 vc1) l)
   case first =>
    refine wp_region_noPanic ?_
    go_region_law (first
     | (refine ym (by rfl) _ _ (by rfl) A.heap.size _ _ st sts (by rfl) ?_ (by rfl) ?_ pE ?_ ?_;exact bL PW.o.st (am _ _);exact Stb.new _ st;(rw[jdx];omega);intro v6 w6 o6 g6 e6;obtain⟨LX,ey,⟨hc6,hc7⟩,UZ⟩:=(PW.o.kept (am _ _)).addStat o6 g6 e6;obtain⟨va6,vn6,vc6,rfl⟩:=eP o6;have kK:=ae LX;have Gd:=ae ((tv.o.kept (am _ _) tv.o.lt).kept ey LK);have QG:=ae ((BU.o.then ((am _ _).mono BU.o.size)).trans (Fr.of_below ey));have ZH:=ae (UZ _ _ (OwnV.kept HV5.o (am _ _)));clear o6 g6 e6 LX ey UZ)
     | (go_simp;go_at_call 182;refine(cU.o _ ?_).mono ?_;exact ap (jdv w1.heap.size w1) _;rintro e w5 ⟨rfl,QE,ZI,jV,hv5,hc5,uF,ha5⟩;have tv:=ae QE;have PW:=ae ZI;have BU:=ae jV;have HV5:=ae hv5;clear QE ZI jV hv5;dsimp only)
     | fail)
    all_goals refine NoPanic.normal ?_
    all_goals go_wp2_with fail
    all_goals go_meet
    all_goals exact⟨_,_,_,kK.o,Gd.o,QG.o,ZH.o⟩
   case rest =>
   obtain⟨va6,vn6,vc6,LX,Vf,Qu,pd⟩:=hcut;have HD6:=ae (fun(i:Nat) (ri:Value) (hi:rvs[i]?=some ri)=>HD1.o i ri hi);obtain⟨aq,cq,hvq,se,nj⟩:=pd.sv.form1;rw[aG]at hvq se;cases hvq
   have kK:=ae LX;have Gd:=ae Vf;have QG:=ae Qu;have ZH:=ae pd;have hrn:rows.length=n:=KG.o.1;have hln:l.length<=n:=HCF.o.2;have hq2':vc1<=9223372036854775807:=by unfold maxLen at nj;omega
   clear LX Vf Qu pd tu sg gp eY HD1 cU y0 y1 y2 y3 nj;go_wp2_with fail;go_loopw [38] (fun i wx=>∃(j:Nat) (rvs2:List Value),i=.int .i64 (j:Int)/\j<=l.length/\Grm wx A.heap.size q A.heap.size n rvs2 (psh rows (l.take j)) (.slice va6 vn6 vc6) (sts++[st])/\R3 wx p S.1 S.2.1 S.2.2/\Fr p A.heap.size A wx/\OwnV wx A.heap.size (.slice va1 l.length vc1) l/\∀ i,j<=i->∀ ri:Value,rvs2[i]?=some ri->∀ b,ri.ownBlock=some b->(Value.slice va1 l.length vc1).ownBlock≠some b) (fun i _=>l.length-(intOf i).toNat)
   case atStart =>
    refine⟨0,rvs,rfl,by omega,?_,Gd.o,QG.o,ZH.o,fun i _ ri hi=>HD6.o i ri hi⟩;rw[jeU,Xz];exact kK.o
   case round =>
    obtain⟨j,rvs2,rfl,hj,hg,hr,hf,hv,hd⟩:=hrel;have HG:=ae hg;have HR:=ae hr;have HF:=ae hf;have HV:=ae hv;have HD:=ae hd;obtain⟨y0,y1,y2,y3⟩:=hg.cells;have hqx:=hg.lt;have hax:=hf.size;by_cases oZ:j<l.length
    ·have hjr:j<(psh rows (l.take j)).length:=by rw[eO];omega
     obtain⟨rv,xS,how⟩:=hg.own j hjr;obtain⟨b2,off2,hq5,aE,PG⟩:=hv.sv.at1 (cN oZ);obtain⟨ra,rn,rc,rfl⟩:=eP how;have hcr:=(hg.row.cellAt j (by omega)).trans xS;have lH:=hg.row.frozenAt j;have FZ:jfp (∀ o,Below wr.heap.size wr (wr.alloc o).drew):=ae (fun o=>(am wr o).drew);have xN:∀ o,(wr.alloc o).cell? ⟨q,0,none⟩=some (.slice (some ⟨A.heap.size,0,none⟩) n n):=fun o=>((am wr o).cell hqx).trans y0
     have hRl:A.heap.size<wr.heap.size:=(aN (k:=A.heap.size) hg.row rfl).2.1;have har:∀ o,(wr.alloc o).cell? ⟨A.heap.size,j,none⟩=some (.slice ra rn rc):=fun o=>((am wr o).cell hRl).trans hcr
     have FO:=ae how;have HPS:=ae (TQ (rs:=rows) (l:=l) (j:=j) (by omega) oZ);have HRV:=ae xS;have uS:(j:Int)<(l.length:Int):=(by omega);have hjn:(j:Int)<(n:Int):=(by omega)
     have hbt:((psh rows (l.take j))[j]).length<=100000:=by
      rw[oT (by omega),jdy];have h5:∀ o:Option Cl,o.toList.length<=1:=fun o=>by cases o<;>simp
      have:=h5 ((l.take j)[j]?);have:=KG.o.2.2.2 _ (jdA (show j<rows.length by omega));omega
     clear hg hr hf hv hd how xS y1 y3;generalize hrw:(psh rows (l.take j))[j]=row at *;have XY:=ae hrw;clear hrw;rcases xk l[j]with h0 | ⟨tt,uu,h0⟩
     all_goals
      rw[h0]at PG;have H0:=ae h0;clear h0;generalize hxj:l[j]=xj at *;have HXJ:=ae hxj;clear hxj;subst hq5;go_upto_region 10 with fail
      refine wp_region_noPanic ?_
      go_region_law (first
       | (refine yn (by rfl) _ _ (by rfl) A.heap.size _ _ xj row (by rfl) ?_ (by rfl) ?_ hbt ?_ ?_;exact OwnV.kept FO.o (FZ.o _);(rw[H0.o];show (wr.alloc _).cell? _=_;rw[ay (jdW _ _)];rfl);(show A.heap.size<=(wr.alloc _).heap.size;rw[jdx];omega);intro v6 w6 o6 g6 e6;have o6':OwnV w6 A.heap.size v6 ((psh rows (l.take j))[j]++[xj]):=(by rw[XY.o];exact o6);obtain⟨LX,ey,⟨hc6,hc7,hc8⟩,UZ⟩:=(HG.o.kept (FZ.o _)).addCell hjr HRV.o o6' g6 e6;obtain⟨va7,vn7,vc7,rfl⟩:=eP o6;have kK:=ae LX;have Gd:=ae ((HR.o.kept (FZ.o _) HR.o.lt).kept ey LK);have QG:=ae ((HF.o.then ((FZ.o _).mono HF.o.size)).trans (Fr.of_below ey));have ZH:=ae (UZ _ _ (OwnV.kept HV.o (FZ.o _)) (fun b hb=>HD.o j (jdw j) _ HRV.o b hb));clear o6 o6' g6 e6 LX ey UZ)
       | fail)
     all_goals
      refine NoPanic.normal ?_;go_wp2_with fail;go_roundw
      case rel =>
       refine⟨j+1,rvs2.set j (.slice va7 vn7 vc7),by go_num,by omega,?_,Gd.o,QG.o,ZH.o,fun i hi ri Cp=>?_⟩
       ·rw[← HPS.o,← XY.o]
        exact kK.o
       ·rw[List.getElem?_set_ne (by omega)]at Cp
        exact HD.o i (by omega) ri Cp
      case measure=>simp[intOf];omega
    ·obtain rfl:j=l.length:=by omega
     have gj:¬ ((l.length:Nat):Int)<(l.length:Int):=(by omega);clear hg hr hf hv hd y0 y1 y2 y3;have HGG:=ae HG.o;rw[jdE]at HGG;go_wp2_with fail;go_roundw
     case rel =>
      refine⟨k+1,rvs2,.slice va6 vn6 vc6,by go_num,by omega,?_,?_,HF.o⟩
      ·rw[HGN.o];exact HGG.o
      ·rw[HGN.o];exact HR.o
     case measure=>simp[intOf];omega
  ·obtain rfl:k=fs.length:=by omega
   have gj:¬ ((fs.length:Nat):Int)<(fs.length:Int):=(by omega);have hsa:=lF.o;have jcb:¬ w.heap.size+1=p:=(by omega);have hT:wr.heap[w.heap.size+1]?=some (.cells #[.slice none 0 0,.slice none 0 0] 109 (0,0)):=(hf.block _ (by omega) jcb).trans yy.o;have t0:wr.cell? ⟨w.heap.size+1,0,none⟩=some (.slice none 0 0):=by rw[ay hT];rfl
   have t1:wr.cell? ⟨w.heap.size+1,1,none⟩=some (.slice none 0 0):=by rw[ay hT];rfl
   have t2:wr.frozen? ⟨w.heap.size+1,0,none⟩=false:=by simp[World.frozen?,hT]
   have t3:wr.frozen? ⟨w.heap.size+1,1,none⟩=false:=by simp[World.frozen?,hT]
   have hqa:A.heap.size<=q:=HG.o.hq;have yF:¬ q=w.heap.size+1:=(by omega);have hne3:¬ w.heap.size+1=q:=(by omega);have hfa:Fr p w.heap.size w wr:=(Fr.of_below Zt.o).trans (hf.mono (by omega));have PJ:=fy (fy (jdv w.heap.size wr) (show w.heap.size<=w.heap.size+1 by omega) 0 (.slice (some ⟨A.heap.size,0,none⟩) n n)) (show w.heap.size<=w.heap.size+1 by omega) 1 (.slice va vn vc);have pI:=ae (HR.o.kept PJ aB);have Qt:=ae (hfa.trans (Fr.of_below PJ))
   have HGF:=ae ((HG.o.turn (W':=(wr.setCell ⟨w.heap.size+1,0,none⟩ (.slice (some ⟨A.heap.size,0,none⟩) n n)).setCell ⟨w.heap.size+1,1,none⟩ (.slice va vn vc)) (fun j hj _=>by
    rw[Below.heap_setCell _ _ _ _ (by simp;omega),Below.heap_setCell _ _ _ _ (by simp;omega)])).low (show w.heap.size<=A.heap.size by omega)).gro
   clear hf hT hfa PJ yy hsa;go_wp2_with fail;refine bodyPost_ret (v:=.agg #[.slice (some ⟨A.heap.size,0,none⟩) n n,.slice va vn vc]) (by simp[results,Tryz.results142,go_sem,t0,t1,t2,t3,jcb,yF,hne3]) rfl ⟨⟨_,rfl,HGF.o⟩,pI.o,Qt.o⟩
end Go.Proofs.YtpljdjmpamjkhaaGreatDoor
