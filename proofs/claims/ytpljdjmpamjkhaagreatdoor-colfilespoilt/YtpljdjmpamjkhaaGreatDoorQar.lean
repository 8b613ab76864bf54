import Derived.Test.YtpljdjmpamjkhaaGreatDoorQaq
set_option linter.unusedVariables false
set_option linter.unusedSimpArgs false
set_option maxRecDepth 100000
set_option maxHeartbeats 4000000
namespace Go.Proofs.YtpljdjmpamjkhaaGreatDoor
open Go.ChangeShapes Go.WideShapes Go.ChangeAt Go.RowKit Go.Lib Go.Joins
theorem UB:(Tryz.prog.info? 58).map (fun i=>(i.zero,i.size,i.bytes))=some (some (.slice none 0 0),1,24):=by kernel_rfl
theorem jbF:(Tryz.prog.info? 54).map (fun i=>(i.zero,i.size,i.bytes))=some (some (.agg #[.int .i64 0,.int .i64 0,.bool false,.bool false,.int .u8 0,.int .i64 0,.string ⟨#[]⟩,.int .u8 0,.int .i64 0,.string ⟨#[]⟩]),10,88):=by kernel_rfl
def Sr(W:World)(v:Value)(rs:List (List Cl)):Prop :=
 ∃ a cap,v=.slice a rs.length cap/\rs.length<=cap/\cap<=maxLen/\(0<rs.length->∃ b off,a=some ⟨b,off,none⟩/\b<W.heap.size/\∀ j (h:j<rs.length),∃ rv,W.cell? ⟨b,off+j,none⟩=some rv/\Sc W rv rs[j])
theorem Sr.kept{W W':World}{v:Value}{rs:List (List Cl)}(h:Sr W v rs)(hb:Below W.heap.size W W'):Sr W' v rs:=by
 obtain⟨a,cap,h1,h2,h3,h4⟩:=h;refine⟨a,cap,h1,h2,h3,fun h0=>?_⟩;obtain⟨b,off,h5,h6,h7⟩:=h4 h0;refine⟨b,off,h5,jeH h6 hb.size,fun j hj=>?_⟩;obtain⟨rv,h8,h9⟩:=h7 j hj;exact⟨rv,(hb.cell (p:=⟨b,off+j,none⟩) h6).trans h8,h9.kept hb⟩
theorem Sr.form{W:World}{v:Value}{rs:List (List Cl)}(h:Sr W v rs):∃ a cap,v=.slice a rs.length cap/\rs.length<=cap/\cap<=maxLen:=by
 obtain⟨a,cap,h1,h2,h3,_⟩:=h;exact⟨a,cap,h1,h2,h3⟩
theorem Sr.at{W:World}{a:Option Addr}{n cap:Nat}{rs:List (List Cl)}(h:Sr W (.slice a n cap) rs){k:Nat}(hk:k<rs.length) :
  ∃ b off rv,a=some ⟨b,off,none⟩/\b<W.heap.size/\W.cell? ⟨b,off+k,none⟩=some rv/\Sc W rv rs[k]:=by
 obtain⟨a',cap',e,h1,h2,h4⟩:=h;simp only[Value.slice.injEq]at e;obtain⟨rfl,_,_⟩:=e;obtain⟨b,off,rfl,h5,h6⟩:=h4 (by omega);obtain⟨rv,h7,h8⟩:=h6 k hk;exact⟨b,off,rv,rfl,h5,h7,h8⟩
theorem PN{H:Type}{enc:TypeId×Value->H}{W:World}{spare:Nat->Bool}{held:Bool}{a:Option Addr}{len cap:Nat}{d:DataW H}{p:List MemPlace}
  (h:DataW.Trod enc Tryz.prog W 0 spare held 26 (.slice a len cap) d p):∃ l:List (List Cl),Sr W (.slice a len cap) l/\∀ x∈l,∀ c∈x,Okc c:=by
 obtain⟨fuel,hf⟩:=h;rcases Deep.open_slice Tryz.underlying26 hf with ⟨h1,_⟩ | ⟨a1,l1,c1,m,n,D,Pl,h1,_,hlc,hm,hmm,_,hcells⟩
 ·simp[Value.cells]at h1
  obtain⟨rfl,rfl,rfl⟩:=h1;exact⟨[],⟨none,0,rfl,jek _,by unfold maxLen;omega,fun h=>by simp at h⟩,fun x hx=>by simp at hx⟩
 ·simp[Value.cells]at h1
  obtain⟨rfl,rfl,rfl⟩:=h1;have cells58:Tryz.prog.cellsOf 58=1:=by kernel_rfl
  rw[cells58]at hcells;have hlm:len<=m:=by rw[hmm];split<;>omega
  have Wa:∀ i,i<len->∃ x:List Cl,(∀ c∈x,Okc c)/\∃ rv,W.cell? (a1.add i)=some rv/\Sc W rv x:=by
   intro i hi;obtain⟨cs,hc,ht⟩:=hcells i (by omega);rw[jfL]at hc;obtain⟨c0,rfl,e0⟩:=PM hc;rcases DataW.trod_slice Tryz.underlying58 ht with ⟨h1,_⟩ | ⟨a',len',cap',elems,rest,n',Zb,h1,_⟩
   ·simp at h1
    subst h1;exact⟨[],fun c hc=>by simp at hc,_,e0,none,0,rfl,jek _,by unfold maxLen;omega,fun h=>by simp at h⟩
   ·simp at h1
    subst h1;obtain⟨x,hx,hox⟩:=Kj (d:=_) (p:=_) ⟨_,ht⟩;exact⟨x,hox,_,e0,hx⟩
  obtain⟨f,dG⟩:=Deep.choose_lt Wa;have kW:((List.range len).map f).length=len:=by simp
  refine⟨(List.range len).map f,⟨some a1,cap,by rw[kW],by rw[kW];omega,by omega,fun h0=>?_⟩,?_⟩
  ·rw[kW]at h0
   obtain⟨b,off,spot⟩:=a1
   have Gx:spot=none:=by
    obtain⟨_,rv,h1,_⟩:=dG 0 (by omega);have:=World.cell?_spot h1;simpa [Addr.add]using this
   subst Gx
   have hb:b<W.heap.size:=by
    obtain⟨cs,hc,_⟩:=hcells 0 (by omega);have:=World.cells?_block hc (by omega);simpa [Addr.add]using this
   refine⟨b,off,rfl,hb,fun j hj=>?_⟩;have Mw:j<len:=by rwa[kW]at hj
   obtain⟨_,rv,h1,h2⟩:=dG j Mw;rw[lR]at h1;exact⟨rv,h1,by simpa using h2⟩
  ·intro x hx
   obtain⟨i,hi,rfl⟩:=jeF.1 hx;exact(dG i (by simpa using hi)).1
theorem tI{W:World}{B B' e size n:Nat}{v:Value}{xs:List Value}(h:W.ownsRow B e size v n xs)(hb:B'<=B):W.ownsRow B' e size v n xs:=by
 rcases h with ⟨h0,h1 | ⟨g,cap,cur,rfl,h2,h3⟩⟩
 ·exact⟨h0,.inl h1⟩
 ·exact⟨h0,.inr ⟨g,cap,cur,rfl,jet hb h2,h3⟩⟩
def sd(l:List Stt):List Value:=l.flatMap celS
theorem se:∀ l:List Stt,(sd l).length=l.length*10
 | []=>rfl
 | c::t=>by
  show (celS c++sd t).length=_
  rw[jem,se t,jer];simp[celS]
  omega
theorem AB:∀{l:List Stt} {j:Nat} (h:j<l.length) {i:Nat} (hi:i<10),(sd l)[j*10+i]?=(celS l[j])[i]?
 | c::t,0,h,i,hi=>by
  show (celS c++sd t)[0*10+i]?=_
  rw[List.getElem?_append_left (by simp[celS];omega)];simp
 | c::t,j+1,h,i,hi=>by
  have ih:=AB (l:=t) (j:=j) (by simpa using h) hi;show (celS c++sd t)[(j+1)*10+i]?=_
  rw[List.getElem?_append_right (by simp[celS];omega)];simp only[celS,jer,jeL];rw[show (j+1)*10+i-(0+1+1+1+1+1+1+1+1+1+1)=j*10+i by omega,ih];rfl
def jbG(W:World)(B:Nat)(v:Value)(l:List Stt):Prop:=W.ownsRow B 54 10 v l.length (sd l)
theorem jbG.ss{W:World}{B:Nat}{v:Value}{l:List Stt}(h:jbG W B v l):Ss W v l:=by
 rcases h with ⟨h0,⟨rfl,h1⟩ | ⟨g,cap,cur,rfl,h2,h3,h4,h5,h6,h7⟩⟩
 ·refine⟨none,0,by rw[h1],by omega,by unfold maxLen;omega,fun h=>by omega⟩
 ·refine⟨_,cap,rfl,h4,h5,fun _=>⟨g,0,rfl,fun j hj=>?_⟩⟩
  have hc:∀ i,i<10->W.cell? ⟨g,0+j*10+i,none⟩=(celS l[j])[i]?:=fun i hi=>by
   rw[jeO,← AB hj hi];have aB:j*10+i<(sd l).length:=by rw[se];omega
   obtain⟨x,hx⟩:∃ x,(sd l)[j*10+i]?=some x:=⟨_,List.getElem?_eq_getElem aB⟩;rw[hx];simp only[World.cell?,h3];have Mw:(sd l)[j*10+i]?=some x:=by rw[hx]
   rw[← h7]at Mw;have jT:=(List.getElem?_eq_some_iff.1 Mw).1;rw[jeq]at jT;rw[List.getElem?_take_of_lt (by omega)]at Mw;simpa using Mw
  exact⟨(Array.getElem?_eq_some_iff.1 h3).1,⟨hc 0 (by omega),hc 1 (by omega),hc 2 (by omega),hc 3 (by omega)⟩,⟨hc 4 (by omega),hc 5 (by omega),hc 6 (by omega)⟩,hc 7 (by omega),hc 8 (by omega),hc 9 (by omega)⟩
theorem jk{w:World}{ops:Array Oper}{o:Oper}{a:Act}{K:Act->World->Prop}{Q:Exit->Act->World->Prop}{E:Prop}(dY:o.guard=none)(s x:Operand)(t:TypeId)
  (ho:o.op=.call { callee:=.builtin .append,args:=#[s,x],argTypes:=#[t,t] })
  (base:Nat) (e:TypeId) (i:TypeInfo) (z:Value) (size bytes:Nat) (ht:Tryz.prog.underlying t=some (.slice e)) (hi:Tryz.prog.info? e=some i) (hz:i.zero=some z)
  (AW:i.size=size) (Be:i.bytes=bytes) (hzs:z.cells.size=size) (jG:0<size)
  (v:Value) (n:Nat) (xs:List Value) (hs:a.eval s=v) (aA:w.ownsRow base e size v n xs)
  (ad:Addr) (m c:Nat) (news:List Value) (hx:a.eval x=.slice (some ad) m c) (hl:news.length=m*size) (hnews:∀ j u,news[j]?=some u->w.cell? (ad.add j)=some u) (h1:∀ u∈news,u.oneCell'=true)
  (h63:n+m<=maxLen) (hbytes:(n+m)*bytes<=140737488355328) (aI:base<=w.heap.size)
  (h:∀ v' w',w'.ownsRow base e size v' (n+m) (xs++news)->w.grownBy w' v.ownBlock->(v'.ownBlock=v.ownBlock∨v'.ownBlock=some w.heap.size)->K (a.put o.dst v') w') :
  if Region.wanted o (yielded ops a.tmps)=true then Oper.wp Tryz.prog o a w K Q else E:=by
 have hw:Region.wanted o (yielded ops a.tmps)=true:=by simp[Region.wanted,dY]
 rw[jei hw];obtain⟨v',w',hr,o1,g1,_,e1⟩:=run_append_own_at (P:=Tryz.prog) w base t o.type e i z size bytes ht hi hz AW Be hzs jG v n xs aA ad m c news hl hnews h1 h63 hbytes aI;unfold Oper.wp execOp;simp only[ho,resolve,invoke,builtin,Sem.run_bind,Sem.run_pure,Result.andThen_ok,jfs,jeT,je8,hs,hx,hr];exact h v' w' o1 g1 e1
theorem bX{W W':World}{B:Nat}{e:TypeId}{size n:Nat}{v:Value}{xs:List Value}(h:W.ownsRow B e size v n xs)(hb:∀ k,v.ownBlock=some k->W'.heap[k]?=W.heap[k]?):W'.ownsRow B e size v n xs:=by
 refine⟨h.1,?_⟩;rcases h.2 with hn | ⟨g,cap,cur,rfl,h1,h2,r⟩
 ·exact .inl hn
 ·exact .inr ⟨g,cap,cur,rfl,h1,(hb g rfl).trans h2,r⟩
theorem aM{W:World}{B:Nat}{e:TypeId}{size n:Nat}{v:Value}{xs:List Value}(h:W.ownsRow B e size v n xs){k:Nat}(hk:v.ownBlock=some k):B<=k/\k<W.heap.size/\∃ cur,W.heap[k]?=some (.cells cur e (0,0)):=by
 rcases h.2 with ⟨rfl,_⟩ | ⟨g,cap,cur,rfl,h1,h2,r⟩
 ·cases hk
 ·cases hk
  exact⟨h1,(Array.getElem?_eq_some_iff.1 h2).1,cur,h2⟩
theorem eV{W:World}{B B':Nat}{e e':TypeId}{size size' n n':Nat}{v v':Value}{xs xs':List Value}(h:W.ownsRow B e size v n xs)(h':W.ownsRow B' e' size' v' n' xs')(he:e≠e'){k:Nat}(hk:v.ownBlock=some k):v'.ownBlock≠some k:=by
 intro hk';obtain⟨_,_,c,h1⟩:=aM h hk;obtain⟨_,_,c',h2⟩:=aM h' hk';rw[h1]at h2;cases h2
 exact he rfl
structure Grm (W:World) (B q R n:Nat) (rvs:List Value) (rows:List Row) (vs:Value) (sts:List Stt):Prop where
 box:W.heap[q]?=some (.cells #[.slice (some ⟨R,0,none⟩) n n,vs] 109 (0,0))
 hq:B<=q
 row:W.ownsRow B 79 1 (.slice (some ⟨R,0,none⟩) n n) n rvs
 len:rows.length=n
 own:∀ i (h:i<rows.length),∃ rv,rvs[i]?=some rv/\OwnV W B rv rows[i]
 apart:∀(i j:Nat) (ri rj:Value) (b:Nat),i≠j->rvs[i]?=some ri->rvs[j]?=some rj->ri.ownBlock=some b->rj.ownBlock≠some b
 st:W.ownsRow B 54 10 vs sts.length (sts.flatMap celS)
section
variable {W W':World} {B q R n:Nat} {rvs:List Value} {rows:List Row} {vs:Value} {sts:List Stt}
theorem Grm.lt(h:Grm W B q R n rvs rows vs sts):q<W.heap.size:=(Array.getElem?_eq_some_iff.1 h.box).1
theorem Grm.turn(h:Grm W B q R n rvs rows vs sts)(hb:∀ k,B<=k->k<W.heap.size->W'.heap[k]?=W.heap[k]?):Grm W' B q R n rvs rows vs sts:=by
 refine⟨(hb q h.hq h.lt).trans h.box,h.hq,bX h.row fun k hk=>?_,h.len,fun i hi=>?_,h.apart,bX h.st fun k hk=>?_⟩
 ·obtain⟨a,b,_⟩:=aM h.row hk
  exact hb k a b
 ·obtain⟨rv,h1,h2⟩:=h.own i hi
  exact⟨rv,h1,bX h2 fun k hk=>by obtain⟨a,b,_⟩:=aM h2 hk;exact hb k a b⟩
 ·obtain⟨a,b,_⟩:=aM h.st hk
  exact hb k a b
theorem Grm.kept(h:Grm W B q R n rvs rows vs sts)(hb:Below W.heap.size W W'):Grm W' B q R n rvs rows vs sts:=h.turn fun k _ hk=>hb.block k hk
theorem Grm.frp(h:Grm W B q R n rvs rows vs sts){p:Nat}(hf:Fr p W.heap.size W W')(hp:p<B):Grm W' B q R n rvs rows vs sts:=h.turn fun k hB hk=>hf.block k hk (by omega)
theorem Grm.low(h:Grm W B q R n rvs rows vs sts){B':Nat}(hB:B'<=B):Grm W B' q R n rvs rows vs sts :=
 have lo:∀{e size n:Nat} {v:Value} {xs:List Value},W.ownsRow B e size v n xs->W.ownsRow B' e size v n xs:=fun{e size n v xs} h=>⟨h.1,h.2.imp id fun⟨g,cap,cur,hv,hb,r⟩=>⟨g,cap,cur,hv,jet hB hb,r⟩⟩
 ⟨h.box,jet hB h.hq,lo h.row,h.len,fun i hi=>by obtain⟨rv,h1,h2⟩:=h.own i hi;exact⟨rv,h1,lo h2⟩,h.apart,lo h.st⟩
theorem Grm.cells(h:Grm W B q R n rvs rows vs sts):W.cell? ⟨q,0,none⟩=some (.slice (some ⟨R,0,none⟩) n n)/\W.cell? ⟨q,1,none⟩=some vs/\W.frozen? ⟨q,0,none⟩=false/\W.frozen? ⟨q,1,none⟩=false :=
 ⟨by rw[ay h.box];rfl,by rw[ay h.box];rfl,by simp[World.frozen?,h.box],by simp[World.frozen?,h.box]⟩
theorem Grm.addStat(h:Grm W B q R n rvs rows vs sts){vs':Value}{s:Stt}(ho:W'.ownsRow B 54 10 vs' (sts.length+1) (sts.flatMap celS++celS s))(hg:W.grownBy W' vs.ownBlock)(he:vs'.ownBlock=vs.ownBlock∨vs'.ownBlock=some W.heap.size) :
  Grm (W'.setCell ⟨q,1,none⟩ vs') B q R n rvs rows vs' (sts++[s])/\Below B W (W'.setCell ⟨q,1,none⟩ vs')/\(W'.cell? ⟨q,1,none⟩=some vs/\W'.frozen? ⟨q,1,none⟩=false) /\
   ∀(v:Value) (l:List Cl),OwnV W B v l->OwnV (W'.setCell ⟨q,1,none⟩ vs') B v l:=by
 have hqv:vs.ownBlock≠some q:=fun e=>by
  obtain⟨_,_,c,hc⟩:=aM h.st e;rw[h.box]at hc;cases hc
 have hq':W'.heap[q]?=some (.cells #[.slice (some ⟨R,0,none⟩) n n,vs] 109 (0,0)):=(hg.block q h.lt (fun e=>hqv e.symm)).trans h.box
 have hqv':vs'.ownBlock≠some q:=fun e=>by
  rcases he with e1 | e1
  ·exact hqv (e1.symm.trans e)
  ·rw[e1]at e
   cases e
   exact absurd h.lt (Nat.lt_irrefl _)
 have hn:∀ k,k≠q->(W'.setCell ⟨q,1,none⟩ vs').heap[k]?=W'.heap[k]?:=fun k hk=>Below.heap_setCell _ _ _ _ (by simpa using hk)
 have key:∀{e size m:Nat} {v:Value} {xs:List Value},W.ownsRow B e size v m xs->e≠54->e≠109->(W'.setCell ⟨q,1,none⟩ vs').ownsRow B e size v m xs:=fun{e size m v xs} ho' h1 h2=>bX ho' fun k hk=>by
  obtain⟨k1,k2,c,hc⟩:=aM ho' hk
  have hkq:k≠q:=by
   rintro rfl;rw[h.box]at hc;cases hc
   exact h2 rfl
  rw[hn k hkq];exact hg.block k k2 (fun e'=>eV ho' h.st h1 hk e'.symm)
 refine⟨⟨?_,h.hq,key h.row (by decide) (by decide),h.len,fun i hi=>?_,h.apart,?_⟩,⟨hg.os,hg.tape,hg.output,jet hg.size (by simp[World.setCell]),fun k hk=>?_⟩,⟨by rw[ay hq'];rfl,by simp[World.frozen?,hq']⟩,fun v l hv=>key hv (by decide) (by decide)⟩
 ·rw[cU hq']
  rfl
 ·obtain⟨rv,h1,h2⟩:=h.own i hi
  exact⟨rv,h1,key h2 (by decide) (by decide)⟩
 ·rw[jfw,jem]
  simp only[jer,jeL,jfG,List.flatMap_nil,jeG];exact bX ho fun k hk=>hn k (fun e=>hqv' (e ▸ hk))
 ·rw[hn k (by have:=h.hq;omega)]
  refine hg.block k (by have:=h.lt;have:=h.hq;omega) (fun e=>?_);have:=(aM h.st e.symm).1;omega
theorem Grm.addCell(h:Grm W B q R n rvs rows vs sts){j:Nat}(hj:j<rows.length){rv rv':Value}{x:Cl}(uU:rvs[j]?=some rv)(ho:OwnV W' B rv' (rows[j]++[x]))(hg:W.grownBy W' rv.ownBlock)(he:rv'.ownBlock=rv.ownBlock∨rv'.ownBlock=some W.heap.size) :
  Grm (W'.setCell ⟨R,j,none⟩ rv') B q R n (rvs.set j rv') (rows.set j (rows[j]++[x])) vs sts/\Below B W (W'.setCell ⟨R,j,none⟩ rv')/\(W'.cell? ⟨R,j,none⟩=some rv/\W'.frozen? ⟨R,j,none⟩=false/\W'.cell? ⟨q,0,none⟩=some (.slice (some ⟨R,0,none⟩) n n)) /\
   ∀(v:Value) (l:List Cl),OwnV W B v l->(∀ b,rv.ownBlock=some b->v.ownBlock≠some b)->OwnV (W'.setCell ⟨R,j,none⟩ rv') B v l:=by
 obtain⟨rv0,e0,ki⟩:=h.own j hj;rw[uU]at e0;cases e0
 obtain⟨hR1,hR2,cR,hcR⟩:=aM (k:=R) h.row rfl;have hRrv:rv.ownBlock≠some R:=fun e=>eV ki h.row (by decide) e rfl
 have hRrv':rv'.ownBlock≠some R:=fun e=>by
  rcases he with e1 | e1
  ·exact hRrv (e1.symm.trans e)
  ·rw[e1]at e
   cases e
   exact absurd hR2 (Nat.lt_irrefl _)
 have hqrv:rv.ownBlock≠some q:=fun e=>by
  obtain⟨_,_,c,hc⟩:=aM ki e;rw[h.box]at hc;cases hc
 have hqR:q≠R:=by
  rintro rfl;rw[h.box]at hcR;cases hcR
 have hn:∀ k,k≠R->(W'.setCell ⟨R,j,none⟩ rv').heap[k]?=W'.heap[k]?:=fun k hk=>Below.heap_setCell _ _ _ _ (by simpa using hk)
 have hrow':W'.ownsRow B 79 1 (.slice (some ⟨R,0,none⟩) n n) n rvs:=bX h.row fun k hk=>by
  cases hk
  exact hg.block R hR2 (fun e=>hRrv e.symm)
 have bR:=h.len
 have key:∀ i (hi:i<rows.length) ri,i≠j->rvs[i]?=some ri->OwnV W B ri rows[i]->OwnV (W'.setCell ⟨R,j,none⟩ rv') B ri rows[i]:=fun i hi ri Qx Dl hoi=>bX hoi fun k hk=>by
  obtain⟨_,k2,_⟩:=aM hoi hk
  have hkR:k≠R:=by
   rintro rfl;exact eV hoi h.row (by decide) hk rfl
  rw[hn k hkR];exact hg.block k k2 (fun e=>h.apart i j ri rv k Qx Dl uU hk e.symm)
 refine⟨⟨?_,h.hq,(hrow'.stored j rv').1,by rw[jfD];exact bR,fun i hi=>?_,fun i i' ri ri' b hii Dl hri' hb=>?_,bX h.st fun k hk=>?_⟩,⟨hg.os,hg.tape,hg.output,jet hg.size (by simp[World.setCell]),fun k hk=>?_⟩,⟨?_,hrow'.frozenAt j,by rw[ay ((hg.block q h.lt (fun e=>hqrv e.symm)).trans h.box)];rfl⟩,fun v l hv hd=>bX hv fun k hk=>?_⟩
 ·rw[hn q hqR]
  exact(hg.block q h.lt (fun e=>hqrv e.symm)).trans h.box
 ·rw[jfD]at hi
  by_cases Qx:i=j
  ·subst Qx
   have hlr:i<rvs.length:=(List.getElem?_eq_some_iff.1 uU).1;refine⟨rv',by rw[List.getElem?_set_self hlr],?_⟩;rw[List.getElem_set_self];exact bX ho fun k hk=>hn k (fun e=>hRrv' (e ▸ hk))
  ·obtain⟨ri,h1,h2⟩:=h.own i hi
   refine⟨ri,by rw[List.getElem?_set_ne (Ne.symm Qx)];exact h1,?_⟩;rw[List.getElem_set_ne (Ne.symm Qx)];exact key i hi ri Qx h1 h2
 ·have hlr:j<rvs.length:=(List.getElem?_eq_some_iff.1 uU).1
  have old:∀ m rm,rvs[m]?=some rm->m<rows.length:=fun m rm hm=>by
   have:=(List.getElem?_eq_some_iff.1 hm).1;have h1:=h.row.1;omega
  have fresh:∀ m rm k,m≠j->rvs[m]?=some rm->rm.ownBlock=some k->rv'.ownBlock≠some k:=fun m rm k hmj hm hk e=>by
   obtain⟨r0,h1,h2⟩:=h.own m (old m rm hm);rw[hm]at h1;cases h1
   rcases he with e1 | e1
   ·exact h.apart m j rm rv k hmj hm uU hk (e1.symm.trans e)
   ·rw[e1]at e
    cases e
    exact absurd (aM h2 hk).2.1 (Nat.lt_irrefl _)
  by_cases Qx:i=j
  ·subst Qx
   rw[List.getElem?_set_self hlr]at Dl;cases Dl
   rw[List.getElem?_set_ne hii]at hri';intro e;exact fresh i' ri' b (Ne.symm hii) hri' e hb
  ·rw[List.getElem?_set_ne (Ne.symm Qx)]at Dl
   by_cases hij':i'=j
   ·subst hij'
    rw[List.getElem?_set_self hlr]at hri';cases hri'
    exact fresh i ri b Qx Dl hb
   ·rw[List.getElem?_set_ne (Ne.symm hij')]at hri'
    exact h.apart i i' ri ri' b hii Dl hri' hb
 ·obtain⟨_,k2,_⟩:=aM h.st hk
  have hkR:k≠R:=by
   rintro rfl;exact eV h.st h.row (by decide) hk rfl
  rw[hn k hkR];exact hg.block k k2 (fun e=>eV h.st ki (by decide) hk e.symm)
 ·rw[hn k (by omega)]
  refine hg.block k (by omega) (fun e=>?_);have:=(aM ki e.symm).1;omega
 ·have h1:=h.row.1
  rw[hrow'.cellAt j (by omega)];exact uU
 ·obtain⟨_,k2,_⟩:=aM hv hk
  have hkR:k≠R:=by
   rintro rfl;exact eV hv h.row (by decide) hk rfl
  rw[hn k hkR];exact hg.block k k2 (fun e=>hd k e.symm hk)
end
theorem Mi:(Tryz.prog.info? 79).map (fun i=>(i.zero,i.size,i.bytes))=some (some (.slice none 0 0),1,24):=by kernel_rfl
theorem eW(rs:List Row)(l:List Cl):(psh rs l).length=rs.length:=by simp[psh]
theorem pm{rs:List Row}{l:List Cl}{i:Nat}(h:i<rs.length):(psh rs l)[i]'(by rw[eW];exact h)=rs[i]++(l[i]?).toList:=by simp[psh]
theorem Yo(rs:List Row):psh rs []=rs:=by
 apply List.ext_getElem (eW _ _)
 intro i h1 h2;rw[pm h2];simp
theorem UC{rs:List Row}{l:List Cl}{j:Nat}(h1:j<rs.length)(h2:j<l.length):(psh rs (l.take j)).set j ((psh rs (l.take j))[j]'(by rw[eW];exact h1)++[l[j]])=psh rs (l.take (j+1)):=by
 apply List.ext_getElem (by simp[eW])
 intro i h3 h4;rw[eW]at h4;rw[pm h4];by_cases e:i=j
 ·subst e
  rw[List.getElem_set_self]
  have e:(psh rs (l.take i))[i]'(by rw[eW];exact h1)=rs[i]:=by
   rw[pm (l:=l.take i) h1];simp[List.getElem?_take]
  rw[e];simp[List.getElem?_take,h2]
 ·rw[List.getElem_set_ne (Ne.symm e),pm h4]
  congr 2
  simp only[List.getElem?_take];by_cases h5:i<j
  ·rw[jei h5,jei (by omega)]
  ·rw[jeh h5,jeh (by omega)]
theorem PO{k n:Nat}{s:S3}(hk:1<=k/\k<=3)(hn:n<=64)(hb:Bs s.1):(∀ x∈(iE k n s).1,aT x)/\(iE k n s).1.length<=n:=by
 unfold iE;simp only;cases h:gF k (s.1.take (gy 0 s.1.length s.2.1)) n with
 | none=>exact⟨fun x hx=>by simp at hx,by simp⟩
 | some l =>
  obtain⟨h1,h2,_⟩:=(md hk (by omega) (hb.take _)).1 h;exact⟨fun x hx=>(h1.2.2 x hx).fine,by simp[h2]⟩
theorem UD(k n:Nat)(s:S3):(iE k n s).2.1.length<=s.1.length:=by
 unfold iE;simp only[jeR];omega
theorem UE(l:List Cl)(s:S3):(qo l s).1=s.1:=by
 unfold qo;split<;>rfl
theorem FE{fs:List Fd}{n:Nat}{s:S3}:∀{k:Nat},k<=fs.length->(grK fs n s k).1.length=n/\(grK fs n s k).2.1.length=k/\(grK fs n s k).2.2.1.length<=s.1.length/\∀ r∈(grK fs n s k).1,r.length<=k:=by
 intro k;induction k with
 | zero=>exact fun _=>⟨by simp[xI],rfl,jek _,fun r hr=>by rw[xI]at hr;simp only[List.mem_replicate]at hr;rw[hr.2];exact jek _⟩
 | succ k ih =>
  intro h;obtain⟨h1,h2,h3,h4⟩:=ih (by omega);rw[rN (by omega)];unfold grS;refine⟨by simp only[eW];exact h1,by simp[h2],?_,?_⟩
  ·simp only
   rw[UE];exact jet (UD _ _ _) h3
  ·simp only
   intro r hr;obtain⟨i,hi,rfl⟩:=List.getElem_of_mem hr;have hi':=hi;rw[eW]at hi';rw[pm hi',jem];have:=h4 _ (jeo hi');have h5:∀ o:Option Cl,o.toList.length<=1:=fun o=>by cases o<;>simp
   have:=h5 ((iE fs[k].2.2.1 n (grK fs n s k).2.2).1[i]?);omega
theorem eA{W:World}{B:Nat}{e:TypeId}{size n:Nat}{v:Value}{xs:List Value}(h:W.ownsRow B e size v n xs):∃ a m c,v=.slice a m c:=by
 rcases h.2 with ⟨h,_⟩ | ⟨_,_,_,h,_⟩
 ·exact⟨_,_,_,h⟩
 ·exact⟨_,_,_,h⟩
theorem yW{w:World}{ops:Array Oper}{o:Oper}{a:Act}{K:Act->World->Prop}{Q:Exit->Act->World->Prop}{E:Prop}(dY:o.guard=none)(s x:Operand)
  (ho:o.op=.call { callee:=.builtin .append,args:=#[s,x],argTypes:=#[107,107] })
  (base:Nat) (v:Value) (g:Nat) (z:Stt) (l0:List Stt) (hs:a.eval s=v) (aA:w.ownsRow base 54 10 v l0.length (l0.flatMap celS)) (hx:a.eval x=.slice (some ⟨g,0,none⟩) 1 1)
  (hc:Stb w g z) (hbytes:l0.length<=100000) (aI:base<=w.heap.size)
  (h:∀ v' w',w'.ownsRow base 54 10 v' (l0.length+1) (l0.flatMap celS++celS z)->w.grownBy w' v.ownBlock->(v'.ownBlock=v.ownBlock∨v'.ownBlock=some w.heap.size)->K (a.put o.dst v') w') :
  if Region.wanted o (yielded ops a.tmps)=true then Oper.wp Tryz.prog o a w K Q else E:=by
 obtain⟨i0,hi,ch,hz1',bv⟩:=jeD jbF
 refine jk dY s x 107 ho base 54 i0 (.agg #[.int .i64 0,.int .i64 0,.bool false,.bool false,.int .u8 0,.int .i64 0,.string ⟨#[]⟩,.int .u8 0,.int .i64 0,.string ⟨#[]⟩]) 10 88 Tryz.underlying107 hi ch hz1' bv rfl (by decide) v l0.length (l0.flatMap celS) hs aA ⟨g,0,none⟩ 1 1 (celS z) hx rfl ?_ (fun u hu=>by
  unfold celS at hu;simp only[jeC,jf2,or_false]at hu;rcases hu with rfl | rfl | rfl | rfl | rfl | rfl | rfl | rfl | rfl | rfl<;>rfl) (by unfold maxLen;omega) (by omega) aI h
 intro j u hu;rw[mC];unfold Stb at hc;rw[ay hc];unfold celS at hu;simpa using hu
theorem yX{w:World}{ops:Array Oper}{o:Oper}{a:Act}{K:Act->World->Prop}{Q:Exit->Act->World->Prop}{E:Prop}(dY:o.guard=none)(s x:Operand)
  (ho:o.op=.call { callee:=.builtin .append,args:=#[s,x],argTypes:=#[79,79] })
  (base:Nat) (v:Value) (g:Nat) (z:Cl) (l0:List Cl) (hs:a.eval s=v) (aA:OwnV w base v l0) (hx:a.eval x=.slice (some ⟨g,0,none⟩) 1 1)
  (hc:w.cell? ⟨g,0,none⟩=some (da z)) (hbytes:l0.length<=100000) (aI:base<=w.heap.size)
  (h:∀ v' w',OwnV w' base v' (l0++[z])->w.grownBy w' v.ownBlock->(v'.ownBlock=v.ownBlock∨v'.ownBlock=some w.heap.size)->K (a.put o.dst v') w') :
  if Region.wanted o (yielded ops a.tmps)=true then Oper.wp Tryz.prog o a w K Q else E:=by
 obtain⟨i0,hi,ch,hz1',bv⟩:=jeD wG;have hvc:=aG l0
 refine jk dY s x 79 ho base 78 i0 .nilIface 1 16 Tryz.underlying79 hi ch hz1' bv rfl (by decide) v l0.length (aJ l0) hs aA ⟨g,0,none⟩ 1 1 [da z] hx rfl ?_ (fun u hu=>by
  simp only[jeC,jf2,or_false]at hu;subst hu;rcases xR z with e | ⟨_,_,e⟩<;>rw[e]<;>rfl) (by unfold maxLen;omega) (by omega) aI ?_
 ·intro j u hu
  cases j with
  | zero =>
   rw[mC];simpa [hc]using hu
  | succ j=>simp at hu
 ·intro v' w' o1 g1 e1
  refine h v' w' ?_ g1 e1;unfold OwnV;rw[jem];have:aJ (l0++[z])=aJ l0++[da z]:=by simp[aJ]
  rw[this];exact o1
def Gro(W:World)(B:Nat)(v:Value)(rows:List Row)(sts:List Stt):Prop :=
 ∃ R rvs vs,v=.agg #[.slice (some ⟨R,0,none⟩) rows.length rows.length,vs]/\W.ownsRow B 79 1 (.slice (some ⟨R,0,none⟩) rows.length rows.length) rows.length rvs /\
  (∀ i (h:i<rows.length),∃ rv,rvs[i]?=some rv/\OwnV W B rv rows[i])/\W.ownsRow B 54 10 vs sts.length (sts.flatMap celS)
theorem Grm.gro{W:World}{B q R n:Nat}{rvs:List Value}{rows:List Row}{vs:Value}{sts:List Stt}(h:Grm W B q R n rvs rows vs sts):Gro W B (.agg #[.slice (some ⟨R,0,none⟩) n n,vs]) rows sts:=by
 obtain⟨_,_,h1,h2,h3,_,h4⟩:=h;subst h2;exact⟨R,rvs,vs,rfl,h1,h3,h4⟩
theorem Sf.keptW{W W':World}{B:Nat}{v:Value}{l:List Fd}(h:Sf W v l)(hv:∀ k,v.ownBlock=some k->k<B)(hb:Below B W W'):Sf W' v l:=by
 obtain⟨a,cap,rfl,h2,h3,h0,h4⟩:=h;refine⟨a,cap,rfl,h2,h3,h0,fun h0=>?_⟩;obtain⟨b,off,rfl,h6,h7⟩:=h4 h0;have hb':b<B:=hv b rfl;exact⟨b,off,rfl,jeH h6 hb.size,fun j x hj=>(hb.cell (p:=⟨b,off+j,none⟩) hb').trans (h7 j x hj)⟩
theorem FF{w:World}{p:Nat}{c f:List Nat}{fl:Bool}(h:R3 w p c f fl){fv:Value}{fs:List Fd}(hs:Sf w fv fs)(hw:∀ i,fv.ownBlock=some i->i<p)(hk:∀ x∈fs,1<=x.2.2.1/\x.2.2.1<=3)(id n:Nat)(hn:1<=n/\n<=64)(jH:fs.length<=8)(eX:c.length<=100000000) :
  Calls Tryz.prog 142 #[.pointer (some ⟨p,0,none⟩),.agg #[.int .u32 (id:Int),fv],.int .i64 (n:Int)] w fun r w'=>(∃ v,r=.returned v/\Gro w' w.heap.size v (grK fs n (c,f,fl) fs.length).1 (grK fs n (c,f,fl) fs.length).2.1)/\R3 w' p (grK fs n (c,f,fl) fs.length).2.2.1 (grK fs n (c,f,fl) fs.length).2.2.2.1 (grK fs n (c,f,fl) fs.length).2.2.2.2/\Fr p w.heap.size w w':=by
 obtain⟨i0,hi,ch,hz1',bv⟩:=jeD Mi;have aB:=h.lt;have HGR:=ae (fun k (hk:k<=fs.length)=>FE (fs:=fs) (n:=n) (s:=(c,f,fl)) hk);have HGS:=ae (fun k (hk:k<fs.length)=>rN hk n (c,f,fl));have HG0:=ae (xI fs n (c,f,fl));obtain⟨G,hG⟩:∃ G,grK fs n (c,f,fl)=G:=⟨_,rfl⟩;rw[hG]at HGR HGS HG0 ⊢;clear hG;obtain⟨a,cap,rfl,aW,bC⟩:=hs.form;have aH:=ak w (.cells #[.int .u32 (id:Int),.slice a fs.length cap] 25);have aE:=ak (w.alloc (.cells #[.int .u32 (id:Int),.slice a fs.length cap] 25)) (.cells #[.slice none 0 0,.slice none 0 0] 109);obtain⟨x0,x1⟩:=bx w (.int .u32 (id:Int)) (.slice a fs.length cap) 25;have hA0:w.heap.size<(w.alloc (.cells #[.int .u32 (id:Int),.slice a fs.length cap] 25)).heap.size:=by rw[jel];omega
 have sA:((w.alloc (.cells #[.int .u32 (id:Int),.slice a fs.length cap] 25)).alloc (.cells #[.slice none 0 0,.slice none 0 0] 109)).heap.size=w.heap.size+2:=by rw[jel,jel]
 have x2:((w.alloc (.cells #[.int .u32 (id:Int),.slice a fs.length cap] 25)).alloc (.cells #[.slice none 0 0,.slice none 0 0] 109)).heap[w.heap.size+1]?=some (.cells #[.slice none 0 0,.slice none 0 0] 109 (0,0)):=by
  have:=jeK (w.alloc (.cells #[.int .u32 (id:Int),.slice a fs.length cap] 25)) (.cells #[.slice none 0 0,.slice none 0 0] 109);rwa[jel]at this
 have x3:((w.alloc (.cells #[.int .u32 (id:Int),.slice a fs.length cap] 25)).alloc (.cells #[.slice none 0 0,.slice none 0 0] 109)).cell? ⟨w.heap.size,1,none⟩=some (.slice a fs.length cap):=(aE.cell (p:=⟨w.heap.size,1,none⟩) hA0).trans x1;have hAb:Below w.heap.size w ((w.alloc (.cells #[.int .u32 (id:Int),.slice a fs.length cap] 25)).alloc (.cells #[.slice none 0 0,.slice none 0 0] 109)):=ai aH aE;have HR:=ae (h.kept hAb aB);have HS:=ae (hs.keptW hw (hAb.mono (by omega)));have HAB:=ae hAb;have lN:=ae sA;have zi:=ae x2;clear h hs aH aE x0 x1 hAb sA x2 hA0;generalize hA:(w.alloc (.cells #[.int .u32 (id:Int),.slice a fs.length cap] 25)).alloc (.cells #[.slice none 0 0,.slice none 0 0] 109)=A at *;go_enter Tryz.func142,Tryz.ntmps142
 go_wp2_with (first | (refine jfo _ rfl _ _ 34 rfl A.heap.size 79 i0 (.slice none 0 0) 1 Tryz.underlying34 hi ch hz1' .i64 .i64 _ _ n rfl rfl ?m1 ?m2 ?m3 ?m4 ?m5 ?_))
 case m1=>rfl
 case m2=>rfl
 case m3=>first | omega | (rw[bv];omega)
 case m4=>unfold maxLen;omega
 try (case m5=>omega)
 intro w4 gQ iZ;have bG:Below A.heap.size A w4:=(jej _ _).grown iZ (jek _) (fun k hk=>by cases hk);have Le:A.heap.size<w4.heap.size:=(gQ.lt A.heap.size rfl).2
 have ho4':w4.ownsRow A.heap.size 79 1 (.slice (some ⟨A.heap.size,0,none⟩) n n) n (List.replicate n (.slice none 0 0)):=by
  rw[← jfO];simpa using gQ
 have bD:=ak w4 (.cells #[.slice (some ⟨A.heap.size,0,none⟩) n n,.slice none 0 0] 109)
 have hG5:Grm (w4.alloc (.cells #[.slice (some ⟨A.heap.size,0,none⟩) n n,.slice none 0 0] 109)) A.heap.size w4.heap.size A.heap.size n (List.replicate n (.slice none 0 0)) (List.replicate n []) (.slice none 0 0) [] :=
  ⟨jeK w4 _,bG.size,bJ ho4' bD,List.length_replicate,fun i hi=>⟨.slice none 0 0,by simp at hi;simp[hi],by simp only[List.getElem_replicate];exact OwnV.nil _ _⟩,(fun i j ri rj b Qx Dl hrj hb=>by
   rw[List.getElem?_replicate]at Dl;split at Dl
   ·cases Dl
    cases hb
   ·cases Dl),jfb _ _ _ _⟩
 have Vu:Below A.heap.size A (w4.alloc (.cells #[.slice (some ⟨A.heap.size,0,none⟩) n n,.slice none 0 0] 109)):=ai bG bD;have QE:=ae hG5;have sG:=ae (HR.o.kept Vu HR.o.lt);have qF:=ae (HS.o.kept Vu);have aQ:=ae Vu;have hc5:=(Vu.cell (p:=⟨w.heap.size,1,none⟩) (by rw[lN.o];simp)).trans x3;have hqA:A.heap.size<w4.heap.size:=Le;clear gQ iZ bG ho4' bD hG5 Vu hA x3;go_upto_region 2 with fail
 generalize w4.alloc (.cells #[.slice (some ⟨A.heap.size,0,none⟩) n n,.slice none 0 0] 109)=W5 at *;have HK:=ae hk;have hcl5:∃ u,W5.cell? ⟨w.heap.size,1,none⟩=some u:=⟨_,hc5⟩;clear hk hcl5;have HZQ:=ae hqA;generalize w4.heap.size=q at *;clear Le;have Mv:p<A.heap.size:=by have:=lN.o;omega
 go_wp2_with fail;go_loopw [19] (fun i wr=>∃(k:Nat) (rvs:List Value) (vs:Value),i=.int .i64 (k:Int)/\k<=fs.length/\Grm wr A.heap.size q A.heap.size n rvs (G k).1 vs (G k).2.1/\R3 wr p (G k).2.2.1 (G k).2.2.2.1 (G k).2.2.2.2/\Fr p A.heap.size A wr) (fun i _=>fs.length-(intOf i).toNat)
 case atStart =>
  refine⟨0,List.replicate n (.slice none 0 0),.slice none 0 0,rfl,by omega,?_,?_,Fr.of_below aQ.o⟩
  ·rw[HG0.o];exact QE.o
  ·rw[HG0.o];exact sG.o
 case round =>
  obtain⟨k,rvs,vs,rfl,hk,hg,hr,hf⟩:=hrel;have HG:=ae hg;have HR:=ae hr;have HF:=ae hf
  have hvs:∃ va vn vc,vs=.slice va vn vc:=by
   rcases hg.st.2 with ⟨h,_⟩ | ⟨_,_,_,h,_⟩
   ·exact⟨_,_,_,h⟩
   ·exact⟨_,_,_,h⟩
  obtain⟨va,vn,vc,rfl⟩:=hvs;obtain⟨y0,y1,y2,y3⟩:=hg.cells;have iN:=hf.size;have hqr:=hg.lt;have GP:=ae (HGR.o k hk);clear hg hr;by_cases jT:k<fs.length
  ·obtain⟨b,off,rfl,hb,z0,z1,z2,z3⟩:=(HS.o.keptW hw (hf.below (jek p) (by omega))).at jT
   have HGK:=ae (HGS.o k jT);have Zd:=ae (HK.o fs[k] (jeo jT));have HCF:=ae (PO (n:=n) (s:=(G k).2.2) Zd.o hn.2 HR.o.bs.1);have pQ:jgf ((G k).2.2.1.length<=100000000):=ae (jet GP.o.2.2.1 eX);have Rj:=ae (fun(U:World) (hU:R3 U p (G k).2.2.1 (G k).2.2.2.1 (G k).2.2.2.2)=>PI hU fs[k].2.2.1 n Zd.o hn.2 pQ.o);have CQ:=ak wr (.cells #[.int .u32 (fs[k].1:Int),.string fs[k].2.1,.int .u8 (fs[k].2.2.1:Int),.bool fs[k].2.2.2] 81);have HRZ:=ae (HR.o.kept CQ HR.o.lt);have HGZ:=ae (HG.o.kept CQ);have HFZ:=ae (HF.o.then (CQ.mono iN));have hlt2':(k:Int)<(fs.length:Int):=(by omega);clear hf CQ;generalize fs[k]=fk at *;obtain⟨f1,f2,f3,f4⟩:=fk;simp only at *;have hbZ:∀ o,(wr.alloc o).heap.size=wr.heap.size+1:=fun o=>jel _ _
   go_wp2_with fail;generalize wr.alloc (.cells #[.int .u32 (f1:Int),.string f2,.int .u8 (f3:Int),.bool f4] 81)=Z at *;refine(Rj.o _ HRZ.o).mono ?_;rintro e w1 ⟨v,rfl,ei,Bh,dh⟩;have hgk:G (k+1)=(psh (G k).1 (iE f3 n (G k).2.2).1,(G k).2.1++[cA (iE f3 n (G k).2.2).1],qo (iE f3 n (G k).2.2).1 (iE f3 n (G k).2.2).2):=HGK.o;generalize iE f3 n (G k).2.2=cr at *;obtain⟨l,c1,b1,fl1⟩:=cr;simp only at *;have HGN:=ae hgk;generalize G k=gk at *;obtain⟨rows,sts,s0⟩:=gk;simp only at *;have tX:=ae (HGZ.o.frp dh Mv);have gp:=ae (HFZ.o.trans (dh.mono HFZ.o.size));have cK:=HFZ.o.size;have eO:=ae (OwnV.of_le ei cK);have sP:=ae Bh
   have HD1:jgf (∀(i:Nat) (ri:Value),rvs[i]?=some ri->∀ b,ri.ownBlock=some b->v.ownBlock≠some b):=ae (fun i ri hi b hb e=>by
    have hl:=(List.getElem?_eq_some_iff.1 hi).1;have h1:=HGZ.o.row.1;have h2:=HGZ.o.len;obtain⟨rv,e1,e2⟩:=HGZ.o.own i (by omega);rw[hi]at e1;cases e1
    have:=(aM e2 hb).2.1;have:=(aM ei e).1;omega)
   obtain⟨va1,vn1,vc1,rfl⟩:∃ va vn vc,v=.slice va vn vc:=by
    rcases ei.2 with ⟨h,_⟩ | ⟨_,_,_,h,_⟩
    ·exact⟨_,_,_,h⟩
    ·exact⟨_,_,_,h⟩
   obtain⟨st,gV⟩:∃ st,cA l=st:=⟨_,rfl⟩;obtain⟨S,hS⟩:∃ S,qo l (c1,b1,fl1)=S:=⟨_,rfl⟩
   have cP:jgf (∀ U:World,Below w1.heap.size w1 U->Calls Tryz.prog 182 #[.pointer (some ⟨p,0,none⟩),.slice va1 vn1 vc1] U fun e w'=>e=.returned (.agg #[.int .i64 st.rows,.int .i64 st.nulls,.bool st.some,.bool st.high,.int .u8 (st.lo.1:Int),.int .i64 st.lo.2.1,.string (am st.lo.2.2),.int .u8 (st.hi.1:Int),.int .i64 st.hi.2.1,.string (am st.hi.2.2)]) /\
     R3 w' p S.1 S.2.1 S.2.2/\Grm w' A.heap.size q A.heap.size n rvs rows (.slice va vn vc) sts/\Fr p A.heap.size A w'/\OwnV w' A.heap.size (.slice va1 vn1 vc1) l/\w'.cell? ⟨q,1,none⟩=some (.slice va vn vc)/\A.heap.size<=w'.heap.size/\∀ o,(w'.alloc o).cell? ⟨q,1,none⟩=some (.slice va vn vc)):=ae (fun U hU=>by
    refine(Fz (sP.o.kept hU sP.o.lt) (eO.o.sv.kept hU) HCF.o.1 (by have:=HCF.o.2;omega)).mono ?_;rintro e w' ⟨rfl,hr,hf⟩;rw[hS]at hr;rw[gV];have hzU:=hU.size;have hfa:=(gp.o.then (hU.mono gp.o.size)).trans (hf.mono (jet gp.o.size hzU));have hg:=(tX.o.kept hU).frp hf Mv;exact⟨rfl,hr,hg,hfa,Fr.own hf (eO.o.kept hU) Mv,hg.cells.2.1,hfa.size,fun o=>((ak _ o).cell hg.lt).trans hg.cells.2.1⟩)
   rw[gV,hS]at HGN;obtain⟨y0,y1,y2,y3⟩:=tX.o.cells;have KR:=gp.o.size;have nD:sts.length<=100000:=by have:=GP.o.2.1;omega
   clear hgk HGK ei Bh dh Rj HRZ HGZ HFZ HG HR HF z0 z1 z2 z3 gV hS;go_upto_region 6 with fail
   go_cut [] from 58 (fun wx=>∃ va6 vn6 vc6,Grm wx A.heap.size q A.heap.size n rvs rows (.slice va6 vn6 vc6) (sts++[st])/\R3 wx p S.1 S.2.1 S.2.2/\Fr p A.heap.size A wx/\OwnV wx A.heap.size (.slice va1 vn1 vc1) l)
   case first =>
    refine wp_region_noPanic ?_
    go_region_law (first
     | (refine yW (by rfl) _ _ (by rfl) A.heap.size _ _ st sts (by rfl) ?_ (by rfl) ?_ nD ?_ ?_;exact bJ QE.o.st (ak _ _);exact Stb.new _ st;(rw[jel];omega);intro v6 w6 o6 g6 e6;obtain⟨ME,dW,⟨hc6,hc7⟩,VL⟩:=(QE.o.kept (ak _ _)).addStat o6 g6 e6;obtain⟨va6,vn6,vc6,rfl⟩:=eA o6;have kS:=ae ME;have GN:=ae ((sG.o.kept (ak _ _) sG.o.lt).kept dW Mv);have GO:=ae ((yz.o.then ((ak _ _).mono yz.o.size)).trans (Fr.of_below dW));have HV6:=ae (VL _ _ (OwnV.kept HV5.o (ak _ _)));clear o6 g6 e6 ME dW VL)
     | (go_simp;go_at_call 182;refine(cP.o _ ?_).mono ?_;exact ar (jej w1.heap.size w1) _;rintro e w5 ⟨rfl,Rm,hg5,iS,hv5,hc5,tU,ha5⟩;have sG:=ae Rm;have QE:=ae hg5;have yz:=ae iS;have HV5:=ae hv5;clear Rm hg5 iS hv5;dsimp only)
     | fail)
    all_goals refine NoPanic.normal ?_
    all_goals go_wp2_with fail
    all_goals go_meet
    all_goals exact⟨_,_,_,kS.o,GN.o,GO.o,HV6.o⟩
   case rest =>
   obtain⟨va6,vn6,vc6,ME,VT,Rd,pw⟩:=hcut;have HD6:=ae (fun(i:Nat) (ri:Value) (hi:rvs[i]?=some ri)=>HD1.o i ri hi);obtain⟨aq,cq,hvq,sN,nw⟩:=pw.sv.form1;rw[aG]at hvq sN;cases hvq
   have kS:=ae ME;have GN:=ae VT;have GO:=ae Rd;have HV6:=ae pw;have hrn:rows.length=n:=GP.o.1;have hln:l.length<=n:=HCF.o.2;have hq2':vc1<=9223372036854775807:=by unfold maxLen at nw;omega
   clear ME VT Rd pw tX sP gp eO HD1 cP y0 y1 y2 y3 nw;go_wp2_with fail;go_loopw [38] (fun i wx=>∃(j:Nat) (rvs2:List Value),i=.int .i64 (j:Int)/\j<=l.length/\Grm wx A.heap.size q A.heap.size n rvs2 (psh rows (l.take j)) (.slice va6 vn6 vc6) (sts++[st])/\R3 wx p S.1 S.2.1 S.2.2/\Fr p A.heap.size A wx/\OwnV wx A.heap.size (.slice va1 l.length vc1) l/\∀ i,j<=i->∀ ri:Value,rvs2[i]?=some ri->∀ b,ri.ownBlock=some b->(Value.slice va1 l.length vc1).ownBlock≠some b) (fun i _=>l.length-(intOf i).toNat)
   case atStart =>
    refine⟨0,rvs,rfl,by omega,?_,GN.o,GO.o,HV6.o,fun i _ ri hi=>HD6.o i ri hi⟩;rw[jfK,Yo];exact kS.o
   case round =>
    obtain⟨j,rvs2,rfl,hj,hg,hr,hf,hv,hd⟩:=hrel;have HG:=ae hg;have HR:=ae hr;have HF:=ae hf;have HV:=ae hv;have HD:=ae hd;obtain⟨y0,y1,y2,y3⟩:=hg.cells;have hqx:=hg.lt;have hax:=hf.size;by_cases nc:j<l.length
    ·have hjr:j<(psh rows (l.take j)).length:=by rw[eW];omega
     obtain⟨rv,uU,how⟩:=hg.own j hjr;obtain⟨b2,off2,hq5,aE,KS⟩:=hv.sv.at1 (cQ nc);obtain⟨ra,rn,rc,rfl⟩:=eA how;have hcr:=(hg.row.cellAt j (by omega)).trans uU;have lO:=hg.row.frozenAt j;have GK:jgf (∀ o,Below wr.heap.size wr (wr.alloc o).drew):=ae (fun o=>(ak wr o).drew);have yh:∀ o,(wr.alloc o).cell? ⟨q,0,none⟩=some (.slice (some ⟨A.heap.size,0,none⟩) n n):=fun o=>((ak wr o).cell hqx).trans y0
     have hRl:A.heap.size<wr.heap.size:=(aM (k:=A.heap.size) hg.row rfl).2.1;have har:∀ o,(wr.alloc o).cell? ⟨A.heap.size,j,none⟩=some (.slice ra rn rc):=fun o=>((ak wr o).cell hRl).trans hcr
     have wo:=ae how;have HPS:=ae (UC (rs:=rows) (l:=l) (j:=j) (by omega) nc);have HRV:=ae uU;have tR:(j:Int)<(l.length:Int):=(by omega);have hjn:(j:Int)<(n:Int):=(by omega)
     have hbt:((psh rows (l.take j))[j]).length<=100000:=by
      rw[pm (by omega),jem];have h5:∀ o:Option Cl,o.toList.length<=1:=fun o=>by cases o<;>simp
      have:=h5 ((l.take j)[j]?);have:=GP.o.2.2.2 _ (jeo (show j<rows.length by omega));omega
     clear hg hr hf hv hd how uU y1 y3;generalize hrw:(psh rows (l.take j))[j]=row at *;have YO:=ae hrw;clear hrw;rcases xR l[j]with h0 | ⟨tt,uu,h0⟩
     all_goals
      rw[h0]at KS;have H0:=ae h0;clear h0;generalize hxj:l[j]=xj at *;have HXJ:=ae hxj;clear hxj;subst hq5;go_upto_region 10 with fail
      refine wp_region_noPanic ?_
      go_region_law (first
       | (refine yX (by rfl) _ _ (by rfl) A.heap.size _ _ xj row (by rfl) ?_ (by rfl) ?_ hbt ?_ ?_;exact OwnV.kept wo.o (GK.o _);(rw[H0.o];show (wr.alloc _).cell? _=_;rw[ay (jeK _ _)];rfl);(show A.heap.size<=(wr.alloc _).heap.size;rw[jel];omega);intro v6 w6 o6 g6 e6;have o6':OwnV w6 A.heap.size v6 ((psh rows (l.take j))[j]++[xj]):=(by rw[YO.o];exact o6);obtain⟨ME,dW,⟨hc6,hc7,hc8⟩,VL⟩:=(HG.o.kept (GK.o _)).addCell hjr HRV.o o6' g6 e6;obtain⟨va7,vn7,vc7,rfl⟩:=eA o6;have kS:=ae ME;have GN:=ae ((HR.o.kept (GK.o _) HR.o.lt).kept dW Mv);have GO:=ae ((HF.o.then ((GK.o _).mono HF.o.size)).trans (Fr.of_below dW));have HV6:=ae (VL _ _ (OwnV.kept HV.o (GK.o _)) (fun b hb=>HD.o j (jek j) _ HRV.o b hb));clear o6 o6' g6 e6 ME dW VL)
       | fail)
     all_goals
      refine NoPanic.normal ?_;go_wp2_with fail;go_roundw
      case rel =>
       refine⟨j+1,rvs2.set j (.slice va7 vn7 vc7),by go_num,by omega,?_,GN.o,GO.o,HV6.o,fun i hi ri Dl=>?_⟩
       ·rw[← HPS.o,← YO.o]
        exact kS.o
       ·rw[List.getElem?_set_ne (by omega)]at Dl
        exact HD.o i (by omega) ri Dl
      case measure=>simp[intOf];omega
    ·obtain rfl:j=l.length:=by omega
     have gi:¬ ((l.length:Nat):Int)<(l.length:Int):=(by omega);clear hg hr hf hv hd y0 y1 y2 y3;have HGG:=ae HG.o;rw[jes]at HGG;go_wp2_with fail;go_roundw
     case rel =>
      refine⟨k+1,rvs2,.slice va6 vn6 vc6,by go_num,by omega,?_,?_,HF.o⟩
      ·rw[HGN.o];exact HGG.o
      ·rw[HGN.o];exact HR.o
     case measure=>simp[intOf];omega
  ·obtain rfl:k=fs.length:=by omega
   have gi:¬ ((fs.length:Nat):Int)<(fs.length:Int):=(by omega);have hsa:=lN.o;have jcQ:¬ w.heap.size+1=p:=(by omega);have hT:wr.heap[w.heap.size+1]?=some (.cells #[.slice none 0 0,.slice none 0 0] 109 (0,0)):=(hf.block _ (by omega) jcQ).trans zi.o;have t0:wr.cell? ⟨w.heap.size+1,0,none⟩=some (.slice none 0 0):=by rw[ay hT];rfl
   have t1:wr.cell? ⟨w.heap.size+1,1,none⟩=some (.slice none 0 0):=by rw[ay hT];rfl
   have t2:wr.frozen? ⟨w.heap.size+1,0,none⟩=false:=by simp[World.frozen?,hT]
   have t3:wr.frozen? ⟨w.heap.size+1,1,none⟩=false:=by simp[World.frozen?,hT]
   have hqa:A.heap.size<=q:=HG.o.hq;have zq:¬ q=w.heap.size+1:=(by omega);have hne3:¬ w.heap.size+1=q:=(by omega);have hfa:Fr p w.heap.size w wr:=(Fr.of_below HAB.o).trans (hf.mono (by omega));have zj:=fF (fF (jej w.heap.size wr) (show w.heap.size<=w.heap.size+1 by omega) 0 (.slice (some ⟨A.heap.size,0,none⟩) n n)) (show w.heap.size<=w.heap.size+1 by omega) 1 (.slice va vn vc);have oK:=ae (HR.o.kept zj aB);have Rc:=ae (hfa.trans (Fr.of_below zj))
   have HGF:=ae ((HG.o.turn (W':=(wr.setCell ⟨w.heap.size+1,0,none⟩ (.slice (some ⟨A.heap.size,0,none⟩) n n)).setCell ⟨w.heap.size+1,1,none⟩ (.slice va vn vc)) (fun j hj _=>by
    rw[Below.heap_setCell _ _ _ _ (by simp;omega),Below.heap_setCell _ _ _ _ (by simp;omega)])).low (show w.heap.size<=A.heap.size by omega)).gro
   clear hf hT hfa zj zi hsa;go_wp2_with fail;refine bodyPost_ret (v:=.agg #[.slice (some ⟨A.heap.size,0,none⟩) n n,.slice va vn vc]) (by simp[results,Tryz.results142,go_sem,t0,t1,t2,t3,jcQ,zq,hne3]) rfl ⟨⟨_,rfl,HGF.o⟩,oK.o,Rc.o⟩
theorem UF:(Tryz.prog.info? 109).map (fun i=>(i.zero,i.size,i.bytes))=some (some (.agg #[.slice none 0 0,.slice none 0 0]),2,48):=by kernel_rfl
theorem yY{w:World}{ops:Array Oper}{o:Oper}{a:Act}{K:Act->World->Prop}{Q:Exit->Act->World->Prop}{E:Prop}(dY:o.guard=none)(s x:Operand)
  (ho:o.op=.call { callee:=.builtin .append,args:=#[s,x],argTypes:=#[103,103] })
  (base:Nat) (v:Value) (g:Nat) (z1 z2:Value) (n:Nat) (xs:List Value) (hs:a.eval s=v) (aA:w.ownsRow base 109 2 v n xs) (hx:a.eval x=.slice (some ⟨g,0,none⟩) 1 1)
  (hc:w.heap[g]?=some (.cells #[z1,z2] 109 (0,0))) (h1:z1.oneCell'=true) (h2:z2.oneCell'=true) (hbytes:n<=100000) (aI:base<=w.heap.size)
  (h:∀ v' w',w'.ownsRow base 109 2 v' (n+1) (xs++[z1,z2])->w.grownBy w' v.ownBlock->(v'.ownBlock=v.ownBlock∨v'.ownBlock=some w.heap.size)->K (a.put o.dst v') w') :
  if Region.wanted o (yielded ops a.tmps)=true then Oper.wp Tryz.prog o a w K Q else E:=by
 obtain⟨i0,hi,ch,hz1',bv⟩:=jeD UF
 refine jk dY s x 103 ho base 109 i0 (.agg #[.slice none 0 0,.slice none 0 0]) 2 48 Tryz.underlying103 hi ch hz1' bv rfl (by decide) v n xs hs aA ⟨g,0,none⟩ 1 1 [z1,z2] hx rfl ?_ (fun u hu=>by
  simp only[jeC,jf2,or_false]at hu;rcases hu with rfl | rfl
  ·exact h1
  ·exact h2) (by unfold maxLen;omega) (by omega) aI h
 intro j u hu;rw[mC];rw[ay hc];simpa using hu
def Fil(W:World)(B fp id:Nat)(fv:Value)(gs:List Gr):Prop :=
 ∃ gv xs,W.heap[fp]?=some (.cells #[.int .u32 (id:Int),fv,gv] 105 (0,0))/\B<=fp/\W.ownsRow B 109 2 gv gs.length xs /\
  ∀ j (h:j<gs.length),∃ a b,xs[2*j]?=some a/\xs[2*j+1]?=some b/\Gro W B (.agg #[a,b]) gs[j].1 gs[j].2
theorem Gro.turn{W W':World}{B:Nat}{v:Value}{rows:List Row}{sts:List Stt}(h:Gro W B v rows sts)(hb:∀ k cur e,B<=k->k<W.heap.size->e≠105->e≠109->W.heap[k]?=some (.cells cur e (0,0))->W'.heap[k]?=W.heap[k]?):Gro W' B v rows sts:=by
 obtain⟨R,rvs,vs,rfl,h1,h2,h3⟩:=h
 have key:∀{e:TypeId} {size n:Nat} {v:Value} {xs:List Value},W.ownsRow B e size v n xs->e≠105->e≠109->W'.ownsRow B e size v n xs:=fun{e size n v xs} ho e1 e2=>bX ho fun k hk=>by
  obtain⟨a,b,cur,hc⟩:=aM ho hk;exact hb k cur e a b e1 e2 hc
 refine⟨R,rvs,vs,rfl,key h1 (by decide) (by decide),fun i hi=>?_,key h3 (by decide) (by decide)⟩;obtain⟨rv,e1,e2⟩:=h2 i hi;exact⟨rv,e1,key e2 (by decide) (by decide)⟩
theorem Gro.low{W:World}{B B':Nat}{v:Value}{rows:List Row}{sts:List Stt}(h:Gro W B v rows sts)(hB:B'<=B):Gro W B' v rows sts:=by
 obtain⟨R,rvs,vs,rfl,h1,h2,h3⟩:=h;have lo:∀{e:TypeId} {size n:Nat} {v:Value} {xs:List Value},W.ownsRow B e size v n xs->W.ownsRow B' e size v n xs:=fun{e size n v xs} h=>⟨h.1,h.2.imp id fun⟨g,cap,cur,hv,hb,r⟩=>⟨g,cap,cur,hv,jet hB hb,r⟩⟩
 exact⟨R,rvs,vs,rfl,lo h1,fun i hi=>by obtain⟨rv,e1,e2⟩:=h2 i hi;exact⟨rv,e1,lo e2⟩,lo h3⟩
theorem Gro.parts{W:World}{B:Nat}{v:Value}{rows:List Row}{sts:List Stt}(h:Gro W B v rows sts):∃ z1 z2,v=.agg #[z1,z2]/\z1.oneCell'=true/\z2.oneCell'=true:=by
 obtain⟨R,rvs,vs,rfl,h1,h2,h3⟩:=h;obtain⟨a,m,c,rfl⟩:=eA h3;exact⟨_,_,rfl,rfl,rfl⟩
theorem Fil.turn{W W':World}{B fp id:Nat}{fv:Value}{gs:List Gr}(h:Fil W B fp id fv gs)(hb:∀ k,B<=k->k<W.heap.size->W'.heap[k]?=W.heap[k]?):Fil W' B fp id fv gs:=by
 obtain⟨gv,xs,h1,h2,h3,h4⟩:=h;refine⟨gv,xs,(hb fp h2 (Array.getElem?_eq_some_iff.1 h1).1).trans h1,h2,bX h3 fun k hk=>?_,fun j hj=>?_⟩
 ·obtain⟨a,b,_⟩:=aM h3 hk
  exact hb k a b
 ·obtain⟨a,b,e1,e2,e3⟩:=h4 j hj
  exact⟨a,b,e1,e2,e3.turn fun k _ _ k1 k2 _ _ _=>hb k k1 k2⟩
theorem Fil.kept{W W':World}{B fp id:Nat}{fv:Value}{gs:List Gr}(h:Fil W B fp id fv gs)(hb:Below W.heap.size W W'):Fil W' B fp id fv gs:=h.turn fun k _ hk=>hb.block k hk
theorem Fil.add{W W':World}{B fp id:Nat}{fv gv gv' z1 z2:Value}{xs:List Value}{gs:List Gr}{g:Gr}(h1:W.heap[fp]?=some (.cells #[.int .u32 (id:Int),fv,gv] 105 (0,0)))(h2:B<=fp)(h3:W.ownsRow B 109 2 gv gs.length xs)
  (h4:∀ j (h:j<gs.length),∃ a b,xs[2*j]?=some a/\xs[2*j+1]?=some b/\Gro W B (.agg #[a,b]) gs[j].1 gs[j].2) (hg:Gro W B (.agg #[z1,z2]) g.1 g.2)
  (ho:W'.ownsRow B 109 2 gv' (gs.length+1) (xs++[z1,z2])) (QQ:W.grownBy W' gv.ownBlock) (he:gv'.ownBlock=gv.ownBlock∨gv'.ownBlock=some W.heap.size) :
  Fil (W'.setCell ⟨fp,2,none⟩ gv') B fp id fv (gs++[g])/\Below B W (W'.setCell ⟨fp,2,none⟩ gv')/\W'.cell? ⟨fp,2,none⟩=some gv/\W'.frozen? ⟨fp,2,none⟩=false:=by
 have jH:fp<W.heap.size:=(Array.getElem?_eq_some_iff.1 h1).1
 have hfv:gv.ownBlock≠some fp:=fun e=>by
  obtain⟨_,_,c,hc⟩:=aM h3 e;rw[h1]at hc;cases hc
 have hf':W'.heap[fp]?=some (.cells #[.int .u32 (id:Int),fv,gv] 105 (0,0)):=(QQ.block fp jH (fun e=>hfv e.symm)).trans h1
 have hfv':gv'.ownBlock≠some fp:=fun e=>by
  rcases he with e1 | e1
  ·exact hfv (e1.symm.trans e)
  ·rw[e1]at e
   cases e
   exact absurd jH (Nat.lt_irrefl _)
 have hn:∀ k,k≠fp->(W'.setCell ⟨fp,2,none⟩ gv').heap[k]?=W'.heap[k]?:=fun k hk=>Below.heap_setCell _ _ _ _ (by simpa using hk)
 have bR:=h3.1
 have turned:∀{v:Value} {rows:List Row} {sts:List Stt},Gro W B v rows sts->Gro (W'.setCell ⟨fp,2,none⟩ gv') B v rows sts:=fun{v rows sts} hh=>hh.turn fun k cur e k1 k2 e1 e2 hc=>by
  have hkf:k≠fp:=by
   rintro rfl;rw[h1]at hc;cases hc
   exact e1 rfl
  rw[hn k hkf];refine QQ.block k k2 (fun e'=>?_);obtain⟨_,_,c',hc'⟩:=aM h3 e'.symm;rw[hc]at hc';cases hc'
  exact e2 rfl
 refine⟨⟨gv',xs++[z1,z2],?_,h2,?_,fun j hj=>?_⟩,⟨QQ.os,QQ.tape,QQ.output,jet QQ.size (by simp[World.setCell]),fun k hk=>?_⟩,by rw[ay hf'];rfl,by simp[World.frozen?,hf']⟩
 ·rw[cU hf']
  rfl
 ·rw[jem]
  exact bX ho fun k hk=>hn k (fun e=>hfv' (e ▸ hk))
 ·rw[jem]at hj
  simp only[jer,jeL]at hj;by_cases tR:j<gs.length
  ·obtain⟨a,b,e1,e2,e3⟩:=h4 j tR
   refine⟨a,b,by rw[List.getElem?_append_left (by omega)];exact e1,by rw[List.getElem?_append_left (by omega)];exact e2,?_⟩;rw[jf9 tR];exact turned e3
  ·obtain rfl:j=gs.length:=by omega
   refine⟨z1,z2,?_,?_,?_⟩
   ·rw[List.getElem?_append_right (by omega),show 2*gs.length-xs.length=0 by omega]
    rfl
   ·rw[List.getElem?_append_right (by omega),show 2*gs.length+1-xs.length=1 by omega]
    rfl
   ·rw[List.getElem_append_right (jek _)]
    simp only[jfM,jfZ];exact turned hg
 ·rw[hn k (by omega)]
  refine QQ.block k (by omega) (fun e=>?_);have:=(aM h3 e.symm).1;omega
theorem be{W:World}{B:Nat}{e:TypeId}{size n:Nat}{v:Value}{xs:List Value}(h:W.ownsRow B e size v n xs):∃ a c,v=.slice a n c/\n<=c/\c<=9223372036854775807:=by
 rcases h with ⟨h0,⟨h1,h2⟩ | ⟨g,cap,cur,h1,h2,h3,h4,h5,_⟩⟩
 ·exact⟨none,0,by rw[h1,h2],by omega,by omega⟩
 ·exact⟨_,cap,h1,h4,by unfold maxLen at h5;omega⟩
theorem iq{W:World}{B:Nat}{e:TypeId}{size n m c:Nat}{a:Option Addr}{xs:List Value}(h:W.ownsRow B e size (.slice a m c) n xs){i:Nat}{x:Value}(hx:xs[i]?=some x) :
  ∃ g,a=some ⟨g,0,none⟩/\B<=g/\g<W.heap.size/\W.cell? ⟨g,i,none⟩=some x:=by
 have aB:=(List.getElem?_eq_some_iff.1 hx).1;rcases h with ⟨h0,⟨h1,h2⟩ | ⟨g,cap',cur,h1,h2,h3,h4,h5,h6,h7⟩⟩
 ·subst h2
  simp at h0
  rw[h0]at aB;simp at aB
 ·simp only[Value.slice.injEq]at h1
  obtain⟨rfl,rfl,rfl⟩:=h1;refine⟨g,rfl,h2,(Array.getElem?_eq_some_iff.1 h3).1,?_⟩;simp only[World.cell?,h3];rw[← h7]at hx;have AO:=(List.getElem?_eq_some_iff.1 hx).1;rw[jeq]at AO;rw[List.getElem?_take_of_lt (by omega)]at hx;simpa using hx
def Ow(W:World)(B:Nat)(v:Value)(l:List (Value×Row)):Prop:=W.ownsRow B 79 1 v l.length (l.map Prod.fst)/\∀ x∈l,OwnV W B x.1 x.2
theorem Ow.nil(W:World)(B:Nat):Ow W B (.slice none 0 0) []:=⟨jfb _ _ _ _,fun x hx=>by simp at hx⟩
theorem Ow.kept{W W':World}{B:Nat}{v:Value}{l:List (Value×Row)}(h:Ow W B v l)(hb:Below W.heap.size W W'):Ow W' B v l:=⟨bJ h.1 hb,fun x hx=>(h.2 x hx).kept hb⟩
theorem Ow.low{W:World}{B B':Nat}{v:Value}{l:List (Value×Row)}(h:Ow W B v l)(hB:B'<=B):Ow W B' v l:=⟨tI h.1 hB,fun x hx=>(h.2 x hx).of_le hB⟩
theorem Ow.form{W:World}{B:Nat}{v:Value}{l:List (Value×Row)}(h:Ow W B v l):∃ a cap,v=.slice a l.length cap/\l.length<=cap/\cap<=maxLen/\(a=none->cap=0):=by
 rcases h.1 with ⟨h0,⟨h1,h2⟩ | ⟨g,cap,cur,h1,h2,h3,h4,h5,_⟩⟩
 ·exact⟨none,0,by rw[h1,h2],by omega,by unfold maxLen;omega,fun _=>rfl⟩
 ·exact⟨_,cap,h1,h4,h5,fun e=>by cases e⟩
theorem Ow.at{W:World}{B:Nat}{a:Option Addr}{n cap:Nat}{l:List (Value×Row)}(h:Ow W B (.slice a n cap) l){k:Nat}(hk:k<l.length) :
  ∃ g,a=some ⟨g,0,none⟩/\g<W.heap.size/\W.cell? ⟨g,k,none⟩=some l[k].1/\OwnV W B l[k].1 l[k].2:=by
 rcases h with ⟨⟨h0,⟨h1,h2⟩ | ⟨g,cap',cur,h1,h2,h3,h4,h5,h6,h7⟩⟩,hr⟩
 ·omega
 ·simp only[Value.slice.injEq]at h1
  obtain⟨rfl,rfl,rfl⟩:=h1;refine⟨g,rfl,(Array.getElem?_eq_some_iff.1 h3).1,?_,(hr _ (jeo hk))⟩;have hj:(l.map Prod.fst)[k]?=some l[k].1:=by simp[hk]
  simp only[World.cell?,h3];rw[← h7]at hj;have aB:=(List.getElem?_eq_some_iff.1 hj).1;rw[jeq]at aB;rw[List.getElem?_take_of_lt (by omega)]at hj;simpa using hj
theorem Ow.sv{W:World}{B:Nat}{v:Value}{l:List (Value×Row)}(h:Ow W B v l):Sv W v (l.map Prod.fst):=by
 have:=Sv.of_own h.1;exact this
theorem Ow.rv{W:World}{B:Nat}{v:Value}{l:List (Value×Row)}(h:Ow W B v l):Rv W v (l.map Prod.snd):=by
 obtain⟨a,cap,rfl,h1,h2,h3⟩:=h.form;refine⟨a,cap,by rw[jen],by rw[jen];exact h1,h2,h3,fun h0=>?_⟩;rw[jen]at h0;obtain⟨g,e,h4,_⟩:=h.at h0;refine⟨g,0,e,h4,fun j hj=>?_⟩;rw[jen]at hj;obtain⟨g',e',h5,h6,h7⟩:=h.at hj;obtain rfl:g=g':=by rw[e]at e';cases e';rfl
 refine⟨_,by rw[jeO];exact h6,?_⟩;have:=h7.sv;simpa using this
theorem pn{W:World}{g:Nat}{z:Value}(hc:W.cell? ⟨g,0,none⟩=some z)(hg:g<W.heap.size):Sv W (.slice (some ⟨g,0,none⟩) 1 1) [z] :=
 ⟨_,1,rfl,jek _,by unfold maxLen;omega,fun e=>(by cases e),fun _=>⟨g,0,rfl,hg,fun j x hx=>by
  cases j with
  | zero =>
   simp only[List.getElem?_cons_zero,Option.some.injEq]at hx;rw[← hx];exact hc
  | succ j=>simp at hx⟩⟩
theorem Cr{w:World}(ty:TypeId)(base:Nat)(v vx:Value)(l0 l:List (Value×Row))(aA:Ow w base v l0)(eN:Sv w vx (l.map Prod.fst))(hr:∀ x∈l,OwnV w base x.1 x.2)(hbytes:l0.length+l.length<=1000000)(aI:base<=w.heap.size) :
  ∃ v' w',(Builtin.append_ #[34,34] ty #[v,vx]).run Tryz.prog w=.ok v' w'/\Ow w' base v' (l0++l)/\Below base w w':=by
 obtain⟨i0,hi,ch,hz1',bv⟩:=jeD Mi;obtain⟨ad,cap,rfl,h1,h2,h3,h4⟩:=eN;rw[jen]at *
 have one:∀ x∈l.map Prod.fst,x.oneCell'=true:=fun x hx=>by
  obtain⟨y,hy,rfl⟩:=jeF.1 hx;obtain⟨a,n,c,e⟩:=eA (hr y hy);rw[e];rfl
 cases ad with
 | none =>
  have hc:=h3 rfl;subst hc;have hl:l=[]:=jeI (by omega);subst hl;have hr:=jfI (P:=Tryz.prog) (w:=w) base 34 ty 79 i0 1 Tryz.underlying34 hi v l0.length (l0.map Prod.fst) aA.1;refine⟨v,w,hr,by rw[jeG];exact aA,jej _ _⟩
 | some ad =>
  obtain⟨v',w',zu,o1,g1,_,e1⟩:=run_append_own_at (P:=Tryz.prog) w base 34 ty 79 i0 (.slice none 0 0) 1 24 Tryz.underlying34 hi ch hz1' bv rfl (by decide) v l0.length (l0.map Prod.fst) aA.1 ad l.length cap (l.map Prod.fst) (by rw[jen];omega)
   (fun j u hu=>by
    have hj:j<l.length:=by
     have:=(List.getElem?_eq_some_iff.1 hu).1;rwa[jen]at this
    obtain⟨b,off,h5,_,h6⟩:=h4 (by omega);cases h5
    rw[lR];exact h6 j u hu) one (by unfold maxLen;omega) (by omega) aI
  have keep:∀ y:Value×Row,OwnV w base y.1 y.2->OwnV w' base y.1 y.2:=fun y hy =>
   bX hy fun k hk=>g1.block k (aM hy hk).2.1 (fun e=>eV hy aA.1 (by decide) hk e.symm)
  refine⟨v',w',zu,⟨?_,fun y hy=>?_⟩,(jej base w).grown g1 aI (fun k hk=>(aA.1.lt k hk).1)⟩
  ·rw[jem,jeE]
   exact o1
  ·rcases jeN.1 hy with hy | hy
   ·exact keep y (aA.2 y hy)
   ·exact keep y (hr y hy)
theorem FG{w:World}{o:Oper}{a:Act}{K:Act->World->Prop}{Q:Exit->Act->World->Prop}(s x:Operand)
  (ho:o.op=.call { callee:=.builtin .append,args:=#[s,x],argTypes:=#[34,34] })
  (base:Nat) (v vx:Value) (l0 l:List (Value×Row)) (hs:a.eval s=v) (aA:Ow w base v l0) (hx:a.eval x=vx) (eN:Sv w vx (l.map Prod.fst)) (hr:∀ x∈l,OwnV w base x.1 x.2) (hbytes:l0.length+l.length<=1000000) (aI:base<=w.heap.size)
  (h:∀ v' w',Ow w' base v' (l0++l)->Below base w w'->K (a.put o.dst v') w'):Oper.wp Tryz.prog o a w K Q:=by
 obtain⟨v',w',hr,h2,h3⟩:=Cr o.type base v vx l0 l aA eN hr hbytes aI;unfold Oper.wp execOp;simp only[ho,resolve,invoke,builtin,Sem.run_bind,Sem.run_pure,Result.andThen_ok,jfs,jeT,je8,hs,hx,hr];exact h v' w' h2 h3
theorem gO{w:World}{ops:Array Oper}{rest:List Oper}{o:Oper}{a:Act}{Q:Exit->Act->World->Prop}(dY:o.guard=none)(s x:Operand)
  (ho:o.op=.call { callee:=.builtin .append,args:=#[s,x],argTypes:=#[34,34] })
  (base:Nat) (v vx:Value) (l0 l:List (Value×Row)) (hs:a.eval s=v) (aA:Ow w base v l0) (hx:a.eval x=vx) (eN:Sv w vx (l.map Prod.fst)) (hr:∀ x∈l,OwnV w base x.1 x.2) (hbytes:l0.length+l.length<=1000000) (aI:base<=w.heap.size)
  (h:∀ v' w',Ow w' base v' (l0++l)->Below base w w'->wpList Tryz.prog ops Q rest (a.put o.dst v') w') :
  wpList Tryz.prog ops Q (o::rest) a w :=
 wpList_plain dY fun K hK=>FG s x ho base v vx l0 l hs aA hx eN hr hbytes aI fun v' w' h1 h2=>hK _ _ (h v' w' h1 h2)
theorem Mj{fs:List Fd}{g tot:Nat}{s:S3}:∀ j:Nat,(fiJ fs g tot s j).2.1.length<=s.1.length
 | 0=>jek _
 | j+1=>jet (FE (jek _)).2.2.1 (Mj j)
theorem Kl{fs:List Fd}{g tot:Nat}{s:S3}{m j:Nat}(h:j<=m)(hf:(fiJ fs g tot s j).2.2.2=true):(fiJ fs g tot s m).2.2.2=true:=by
 cases e:(fiJ fs g tot s m).2.2.2 with
 | true=>rfl
 | false =>
  rw[qp h e]at hf;cases hf
theorem FH{fs:List Fd}{g tot:Nat}{s:S3}:∀ j:Nat,(fiJ fs g tot s j).1.length=j
 | 0=>rfl
 | j+1=>by
  show (_++[_]).length=_
  rw[jem,FH j];rfl
def mV(W:World)(B fp id:Nat)(fv gv:Value)(xs:List Value)(gs:List Gr):Prop :=
 W.heap[fp]?=some (.cells #[.int .u32 (id:Int),fv,gv] 105 (0,0))/\B<=fp/\W.ownsRow B 109 2 gv gs.length xs /\
  ∀ j (h:j<gs.length),∃ a b,xs[2*j]?=some a/\xs[2*j+1]?=some b/\Gro W B (.agg #[a,b]) gs[j].1 gs[j].2
theorem mV.fil{W:World}{B fp id:Nat}{fv gv:Value}{xs:List Value}{gs:List Gr}(h:mV W B fp id fv gv xs gs):Fil W B fp id fv gs:=⟨gv,xs,h⟩
theorem mV.turn{W W':World}{B fp id:Nat}{fv gv:Value}{xs:List Value}{gs:List Gr}(h:mV W B fp id fv gv xs gs)(hb:∀ k,B<=k->k<W.heap.size->W'.heap[k]?=W.heap[k]?):mV W' B fp id fv gv xs gs:=by
 obtain⟨h1,h2,h3,h4⟩:=h;refine⟨(hb fp h2 (Array.getElem?_eq_some_iff.1 h1).1).trans h1,h2,bX h3 fun k hk=>?_,fun j hj=>?_⟩
 ·obtain⟨a,b,_⟩:=aM h3 hk
  exact hb k a b
 ·obtain⟨a,b,e1,e2,e3⟩:=h4 j hj
  exact⟨a,b,e1,e2,e3.turn fun k _ _ k1 k2 _ _ _=>hb k k1 k2⟩
theorem mV.kept{W W':World}{B fp id:Nat}{fv gv:Value}{xs:List Value}{gs:List Gr}(h:mV W B fp id fv gv xs gs)(hb:Below W.heap.size W W'):mV W' B fp id fv gv xs gs:=h.turn fun k _ hk=>hb.block k hk
theorem mV.frp{W W':World}{B fp id p:Nat}{fv gv:Value}{xs:List Value}{gs:List Gr}(h:mV W B fp id fv gv xs gs)(hf:Fr p W.heap.size W W')(hp:p<B):mV W' B fp id fv gv xs gs:=h.turn fun k hB hk=>hf.block k hk (by omega)
theorem mV.lt{W:World}{B fp id:Nat}{fv gv:Value}{xs:List Value}{gs:List Gr}(h:mV W B fp id fv gv xs gs):fp<W.heap.size:=(Array.getElem?_eq_some_iff.1 h.1).1
theorem mV.cell{W:World}{B fp id:Nat}{fv gv:Value}{xs:List Value}{gs:List Gr}(h:mV W B fp id fv gv xs gs):W.cell? ⟨fp,2,none⟩=some gv:=by
 rw[ay h.1];rfl
theorem Fil.low{W:World}{B B' fp id:Nat}{fv:Value}{gs:List Gr}(h:Fil W B fp id fv gs)(hB:B'<=B):Fil W B' fp id fv gs:=by
 obtain⟨gv,xs,h1,h2,h3,h4⟩:=h;refine⟨gv,xs,h1,jet hB h2,⟨h3.1,h3.2.imp (fun x=>x) fun⟨g,cap,cur,hv,hb,r⟩=>⟨g,cap,cur,hv,jet hB hb,r⟩⟩,fun j hj=>?_⟩;obtain⟨a,b,e1,e2,e3⟩:=h4 j hj;exact⟨a,b,e1,e2,e3.low hB⟩
theorem Km{w:World}{p:Nat}{c f:List Nat}(h:R3 w p c f false){fv:Value}{fs:List Fd}(hs:Sf w fv fs)(hw:∀ i,fv.ownBlock=some i->i<p)(hk:∀ x∈fs,1<=x.2.2.1/\x.2.2.1<=3)(id:Nat)(jH:fs.length<=8)(eX:c.length<=100000000) :
  Calls Tryz.prog 97 #[.pointer (some ⟨p,0,none⟩),.agg #[.int .u32 (id:Int),fv]] w fun r w'=>∃ fp,r=.returned (.tuple #[.pointer (some ⟨fp,0,none⟩),.int .i64 (gy 1 64 (dK f):Int)])/\(∃ c' f',R3 w' p c' f' (io fs c f).2.2.2)/\((io fs c f).2.2.2=false->Fil w' w.heap.size fp id fv (io fs c f).1)/\Fr p w.heap.size w w':=by
 have aB:=h.lt;have AY:=ae (fun(U:World) (hU:R3 U p c f false)=>qv hU 0 256 (by omega) (by omega));have nI:=ae (fun(U:World) (fl:Bool) (hU:R3 U p c (dK f) fl)=>qv hU 1 64 (by omega) (by omega));have Do:=rM 0 256 f;have hv2:=rM 1 64 (dK f);have HLO:=ae (fun h=>Me (lo:=1) (hi:=64) (b:=dK f) h);have HE:jgf (io fs c f=fiJ fs (gy 1 64 (dK f)) (gy 0 256 f) (c,dK (dK f),mq 0 256 f || mq 1 64 (dK f)) (nps (gy 1 64 (dK f)) (gy 0 256 f))):=ae rfl;rw[HE.o];clear HE;generalize gy 0 256 f=tot at *;generalize gy 1 64 (dK f)=g at *;obtain⟨bd1,hbd1⟩:∃ b,mq 0 256 f=b:=⟨_,rfl⟩;obtain⟨bd2,hbd2⟩:∃ b,mq 1 64 (dK f)=b:=⟨_,rfl⟩;simp only[hbd1,hbd2,Bool.false_or]at AY nI HLO ⊢;clear hbd1 hbd2;have HJL:=ae (fun j=>Mj (fs:=fs) (g:=g) (tot:=tot) (s:=(c,dK (dK f),bd1 || bd2)) j);have Zm:=ae (fun j=>FH (fs:=fs) (g:=g) (tot:=tot) (s:=(c,dK (dK f),bd1 || bd2)) j);have HJS:=ae (fun m j (hj:j<=m)=>Kl (fs:=fs) (g:=g) (tot:=tot) (s:=(c,dK (dK f),bd1 || bd2)) hj);have HJ0:jgf (fiJ fs g tot (c,dK (dK f),bd1 || bd2) 0=([],(c,dK (dK f),bd1 || bd2))):=ae rfl;have HJN:jgf (∀ j,fiJ fs g tot (c,dK (dK f),bd1 || bd2) (j+1)=((fiJ fs g tot (c,dK (dK f),bd1 || bd2) j).1++[((grK fs (min (tot-j*g) g) (fiJ fs g tot (c,dK (dK f),bd1 || bd2) j).2 fs.length).1,(grK fs (min (tot-j*g) g) (fiJ fs g tot (c,dK (dK f),bd1 || bd2) j).2 fs.length).2.1)],(grK fs (min (tot-j*g) g) (fiJ fs g tot (c,dK (dK f),bd1 || bd2) j).2 fs.length).2.2)):=ae (fun j=>rfl);obtain⟨J,hJ⟩:∃ J,fiJ fs g tot (c,dK (dK f),bd1 || bd2)=J:=⟨_,rfl⟩;rw[hJ]at HJL Zm HJS HJ0 HJN ⊢;clear hJ;have WV:=ae (fun(hg:0<g) (j:Nat)=>kN (n:=tot) (j:=j) hg);generalize nps g tot=N at *;obtain⟨a,cap,rfl,aW,bC⟩:=hs.form;have aH:=ak w (.cells #[.int .u32 (id:Int),.slice a fs.length cap] 25);obtain⟨x0,x1⟩:=bx w (.int .u32 (id:Int)) (.slice a fs.length cap) 25;have aE:=ak (w.alloc (.cells #[.int .u32 (id:Int),.slice a fs.length cap] 25)) (.cells #[.int .u32 (id:Int),.slice a fs.length cap,.slice none 0 0] 105);have hA0:w.heap.size<(w.alloc (.cells #[.int .u32 (id:Int),.slice a fs.length cap] 25)).heap.size:=by rw[jel];omega
 have sA:((w.alloc (.cells #[.int .u32 (id:Int),.slice a fs.length cap] 25)).alloc (.cells #[.int .u32 (id:Int),.slice a fs.length cap,.slice none 0 0] 105)).heap.size=w.heap.size+2:=by rw[jel,jel]
 have x2:((w.alloc (.cells #[.int .u32 (id:Int),.slice a fs.length cap] 25)).alloc (.cells #[.int .u32 (id:Int),.slice a fs.length cap,.slice none 0 0] 105)).heap[w.heap.size+1]?=some (.cells #[.int .u32 (id:Int),.slice a fs.length cap,.slice none 0 0] 105 (0,0)):=by
  have:=jeK (w.alloc (.cells #[.int .u32 (id:Int),.slice a fs.length cap] 25)) (.cells #[.int .u32 (id:Int),.slice a fs.length cap,.slice none 0 0] 105);rwa[jel]at this
 have x3:=(aE.cell (p:=⟨w.heap.size,1,none⟩) hA0).trans x1;have x4:=(aE.cell (p:=⟨w.heap.size,0,none⟩) hA0).trans x0;have hAb:Below w.heap.size w ((w.alloc (.cells #[.int .u32 (id:Int),.slice a fs.length cap] 25)).alloc (.cells #[.int .u32 (id:Int),.slice a fs.length cap,.slice none 0 0] 105)):=ai aH aE;have HR:=ae (h.kept hAb aB);have HS:=ae (hs.keptW hw (hAb.mono (by omega)));have HAB:=ae hAb;have lN:=ae sA;have zi:=ae x2;have VF:=ae x3;have HX4:=ae x4;have GI:=ae aB;clear h hs aH aE hAb sA x2 hA0 x3 x4;go_enter Tryz.func97,Tryz.ntmps97
 go_upto_region 2 with fail
 generalize (w.alloc (.cells #[.int .u32 (id:Int),.slice a fs.length cap] 25)).alloc (.cells #[.int .u32 (id:Int),.slice a fs.length cap,.slice none 0 0] 105)=A at *;go_wp2_with fail;refine(AY.o _ HR.o).mono ?_;rintro e w1 ⟨rfl,Bh,dh⟩;have sP:=ae Bh;have gp:=ae dh;clear Bh dh;go_wp2_with fail;refine(nI.o _ _ sP.o).mono ?_;rintro e w2 ⟨rfl,CK,dG⟩;have jn:=ae CK;have gP:=ae (gp.o.trans (dG.mono gp.o.size));clear CK dG;go_wp2_with fail;have WY:=ae (gP.o.mono (show w.heap.size+1<=A.heap.size by have:=lN.o;omega));have HK:=ae hk
 have WZ:jgf (mV w2 (w.heap.size+1) (w.heap.size+1) id (.slice a fs.length cap) (.slice none 0 0) [] []):=ae
  ⟨(gP.o.block (w.heap.size+1) (by have:=lN.o;omega) (by omega)).trans zi.o,jek _,jfb _ _ _ _,fun j hj=>by simp at hj⟩
 have tX:jgf (∀ j,(J j).2.2.2=false->1<=g):=ae (fun j hj=>by
  apply HLO.o
  cases bd2
  ·rfl
  ·have h0:(J 0).2.2.2=true:=by rw[HJ0.o];simp
   rw[HJS.o j 0 (je6 _) h0]at hj;cases hj)
 clear hk;go_loopw [7] (fun i wr=>∃(j:Nat) (gv:Value) (xs:List Value),i=.int .i64 ((tot-j*g:Nat):Int)/\j<=N/\mV wr (w.heap.size+1) (w.heap.size+1) id (.slice a fs.length cap) gv xs (J j).1/\R3 wr p (J j).2.1 (J j).2.2.1 (J j).2.2.2/\Fr p (w.heap.size+1) A wr) (fun i _=>(intOf i).toNat)
 case atStart =>
  refine⟨0,.slice none 0 0,[],by simp,je6 _,?_,?_,WY.o⟩
  ·rw[HJ0.o];exact WZ.o
  ·rw[HJ0.o];exact jn.o
 case round =>
  obtain⟨j,gv,xs,rfl,hjN,hx,hr,hf⟩:=hrel;have HX:=ae hx;have HR:=ae hr;have HF:=ae hf;obtain⟨_,_,_,_,⟨_,_,r2⟩,⟨_,_,r3⟩,_,_⟩:=hr.cells;have kW:tot-j*g<=256:=by omega
  generalize hlf:tot-j*g=left at *;have HLF:=ae hlf;clear hlf;by_cases hp:0<left
  ·have hp':(left:Int) > 0:=by omega
   cases sH:(J j).2.2.2
   ·rw[sH]at r2
    have eZ:1<=g:=tX.o j sH;obtain⟨m,hm⟩:∃ m,min left g=m:=⟨_,rfl⟩;have QR:min (left:Int) (g:Int)=(m:Int):=(by omega);have Lj:1<=m/\m<=64:=(by omega);have hml:m<=left:=(by omega);have hJN:=HJN.o j;have hJl:=HJL.o j;have hJ1:=Zm.o j;have hLF:=HLF.o;rw[hLF,hm]at hJN;obtain⟨⟨gs0,c0,f0,fl0⟩,hJj⟩:∃ x,J j=x:=⟨_,rfl⟩;rw[hJj]at hJN hJl hJ1 hx hr sH;simp only at hJN hJl hJ1 hx hr sH;subst sH;obtain⟨KK,hKK⟩:∃ KK,grK fs m (c0,f0,false) fs.length=KK:=⟨_,rfl⟩;rw[hKK]at hJN;have HJS1:=ae hJN;have HX:=ae hx;have HR:=ae hr;have yD:∀ U,Below wr.heap.size wr U->Sf U (.slice a fs.length cap) fs:=fun U hU=>(HS.o.keptW hw (HF.o.below (jek p) (by omega))).kept hU
    have hBA:w.heap.size+1<=A.heap.size:=by have:=lN.o;omega
    have hBr:w.heap.size+1<wr.heap.size:=hx.lt
    have HGC:jgf (∀ U:World,Below wr.heap.size wr U->Calls Tryz.prog 142 #[.pointer (some ⟨p,0,none⟩),.agg #[.int .u32 (id:Int),.slice a fs.length cap],.int .i64 (m:Int)] U fun e w'=>∃ z1 z2,e=.returned (.agg #[z1,z2])/\(z1.oneCell'=true/\z2.oneCell'=true)/\Gro w' (w.heap.size+1) (.agg #[z1,z2]) KK.1 KK.2.1 /\
      R3 w' p KK.2.2.1 KK.2.2.2.1 KK.2.2.2.2/\mV w' (w.heap.size+1) (w.heap.size+1) id (.slice a fs.length cap) gv xs gs0/\Fr p (w.heap.size+1) A w'/\w'.cell? ⟨w.heap.size+1,2,none⟩=some gv/\(∀ o,(w'.alloc o).cell? ⟨w.heap.size+1,2,none⟩=some gv)/\w.heap.size+1<=w'.heap.size):=ae (fun U hU=>by
     have hzU:=hU.size;refine(FF (HR.o.kept hU HR.o.lt) (yD U hU) hw HK.o id m Lj jH (jet hJl eX)).mono ?_;rintro e w' ⟨⟨v,rfl,QQ⟩,hr',hf'⟩;rw[hKK]at QQ hr';obtain⟨z1,z2,rfl,cK,bv⟩:=QQ.parts;have hx':=(HX.o.kept hU).frp hf' (by omega);exact⟨z1,z2,rfl,⟨cK,bv⟩,QQ.low (by omega),hr',hx',(HF.o.then (hU.mono (by omega))).trans (hf'.mono (by omega)),hx'.cell,fun o=>((ak _ o).cell hx'.lt).trans hx'.cell,by have:=hx'.lt;omega⟩)
    have hgv:∃ ga gn gc,gv=.slice ga gn gc:=eA hx.2.2.1;obtain⟨ga,gn,gc,rfl⟩:=hgv;have ke:=hx.cell;have kT:wr.frozen? ⟨w.heap.size+1,2,none⟩=false:=by simp[World.frozen?,hx.1]
    have Lk:wr.cell? ⟨w.heap.size,0,none⟩=some (.int .u32 (id:Int)):=(World.cell?_of_block (a:=⟨w.heap.size,0,none⟩) (HF.o.block w.heap.size (by omega) (by omega))).trans HX4.o;have hc4:wr.cell? ⟨w.heap.size,1,none⟩=some (.slice a fs.length cap):=(World.cell?_of_block (a:=⟨w.heap.size,1,none⟩) (HF.o.block w.heap.size (by omega) (by omega))).trans VF.o
    have Zn:gs0.length<=100000:=by
     have h1:j<=j*g:=Nat.le_mul_of_pos_right j (by omega);omega
    have lz:jgf (tot-(j+1)*g=left-m/\j+1<=N):=ae (by
     rw[jeZ];refine⟨by omega,?_⟩;exact(WV.o (by omega) j).2 (by omega))
    clear hx hr hf hm hJN hJl hJ1 hLF hJj hKK yD HX HF HR;go_upto_region 6 with fail
    try rw[QR]
    refine wp_region_noPanic ?_
    go_region_law (first
     | (refine yY (by rfl) _ _ (by rfl) (w.heap.size+1) _ _ z1 z2 gs0.length xs (by rfl) ?_ (by rfl) ?_ cK bv Zn ?_ ?_;exact bJ Ri.o.2.2.1 (ak _ _);exact jeK _ _;(rw[jel];omega);intro v6 w6 o6 g6 e6;have hx6:=Ri.o.kept (ak w5 (.cells #[z1,z2] 109));obtain⟨⟨gv7,xs7,jaF⟩,dW,hc6,hc7⟩:=Fil.add (g:=(KK.1,KK.2.1)) hx6.1 hx6.2.1 hx6.2.2.1 hx6.2.2.2 (QE.o.turn (fun k _ _ _ k2 _ _ _=>(ak w5 (.cells #[z1,z2] 109)).block k k2)) o6 g6 e6;obtain⟨va7,vn7,vc7,rfl⟩:=eA o6;have yr:jgf (mV _ (w.heap.size+1) (w.heap.size+1) id (.slice a fs.length cap) gv7 xs7 (gs0++[(KK.1,KK.2.1)])):=ae jaF;have GN:=ae ((sG.o.kept (ak _ _) sG.o.lt).kept dW (by omega));have GO:=ae ((yz.o.then ((ak _ _).mono tU)).trans (Fr.of_below dW));clear o6 g6 e6 jaF dW hx6)
     | (go_simp;go_at_call 142;refine(HGC.o _ ?_).mono ?_;exact ar (jej wr.heap.size wr) _;rintro e w5 ⟨z1,z2,rfl,⟨cK,bv⟩,hg5,Rm,hx5,iS,hc5,ha5,tU⟩;have QE:=ae hg5;have sG:=ae Rm;have Ri:=ae hx5;have yz:=ae iS;clear hg5 Rm hx5 iS;dsimp only)
     | fail)
    all_goals refine NoPanic.normal ?_
    all_goals
     go_wp2_with fail;go_roundw
     case rel =>
      refine⟨j+1,gv7,xs7,?_,lz.o.2,?_,?_,GO.o⟩
      ·rw[lz.o.1]
       congr 1
       omega
      ·rw[HJS1.o];exact yr.o
      ·rw[HJS1.o];exact GN.o
     case measure=>simp[intOf];omega
   ·rw[sH]at r2
    have HD:jgf ((J N).2.2.2=true):=ae (HJS.o N j hjN sH);have oK:=ae (show R3 wr p (J j).2.1 (J j).2.2.1 true from sH ▸ hr);have Rc:=ae ((Fr.of_below HAB.o).trans (hf.mono (Nat.le_succ _)));clear hx hr hf sH;go_wp2_with fail;go_ret2
    rw[HD.o];exact⟨w.heap.size+1,rfl,⟨_,_,oK.o⟩,(fun h=>by cases h),Rc.o⟩
  ·have hp':¬ (left:Int) > 0:=by omega
   have HD:jgf ((J N).2.2.2=(J j).2.2.2/\((J N).2.2.2=false->j=N)):=ae (by
    cases sH:(J j).2.2.2
    ·have eZ:=tX.o j sH
     have e:j=N:=by
      have h1:=WV.o (by omega) j;have h2:=HLF.o;rcases jeM j N with h3 | h3
      ·have:=h1.1 h3
       omega
      ·omega
     subst e;exact⟨sH,fun _=>rfl⟩
    ·have e:=HJS.o N j hjN sH
     exact⟨e,fun h=>by rw[e]at h;cases h⟩)
   have Rc:=ae ((Fr.of_below HAB.o).trans (hf.mono (Nat.le_succ _)));have oK:=ae hr;have HXF:=ae (hx.fil.low (Nat.le_succ _));clear hx hr hf r2 r3;go_wp2_with fail;go_ret2
   refine⟨w.heap.size+1,rfl,⟨_,_,by rw[HD.o.1];exact oK.o⟩,fun h=>?_,Rc.o⟩;have e:=HD.o.2 h;subst e;exact HXF.o
end Go.Proofs.YtpljdjmpamjkhaaGreatDoor
