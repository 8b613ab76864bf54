/- Rows: lists of lists of cells, and lists of statistics of the call's own; rows opened out of a reading. A group as it grows: rows of the call's own, statistics of its own. -/
import Derived.Test.YtpljdjmpamjkhaaGreatDoorZbi
import Derived.Test.YtpljdjmpamjkhaaGreatDoorZaq
set_option linter.unusedVariables false
set_option linter.unusedSimpArgs false
set_option maxRecDepth 100000
namespace Go.Proofs.YtpljdjmpamjkhaaGreatDoor
open Go.ChangeShapes Go.WideShapes Go.ChangeAt Go.RowKit Go.Lib Go.Joins
theorem info58:(Tryz.prog.info? 58).map (fun i=>(i.zero,i.size,i.bytes))=some (some (.slice none 0 0),1,24):=by kernel_rfl
theorem info54:(Tryz.prog.info? 54).map (fun i=>(i.zero,i.size,i.bytes))=some (some (.agg #[.int .i64 0,.int .i64 0,.bool false,.bool false,.int .u8 0,.int .i64 0,.string ⟨#[]⟩,.int .u8 0,.int .i64 0,.string ⟨#[]⟩]),10,88):=by kernel_rfl
def Sr (W:World) (v:Value) (rs:List (List Cl)):Prop :=
 ∃ a cap,v=.slice a rs.length cap/\rs.length<=cap/\cap<=maxLen/\(0<rs.length->∃ b off,a=some ⟨b,off,none⟩/\b<W.heap.size/\∀ j (h:j<rs.length),∃ rv,W.cell? ⟨b,off+j,none⟩=some rv/\Sc W rv rs[j])
theorem Sr.kept {W W':World} {v:Value} {rs:List (List Cl)} (h:Sr W v rs) (hb:Below W.heap.size W W'):Sr W' v rs:=by
 obtain ⟨a,cap,h1,h2,h3,h4⟩:=h
 refine ⟨a,cap,h1,h2,h3,fun h0=>?_⟩
 obtain ⟨b,off,h5,h6,h7⟩:=h4 h0
 refine ⟨b,off,h5,Nat.lt_of_lt_of_le h6 hb.size,fun j hj=>?_⟩
 obtain ⟨rv,h8,h9⟩:=h7 j hj
 exact ⟨rv,(hb.cell (p:=⟨b,off+j,none⟩) h6).trans h8,h9.kept hb⟩
theorem Sr.form {W:World} {v:Value} {rs:List (List Cl)} (h:Sr W v rs):∃ a cap,v=.slice a rs.length cap/\rs.length<=cap/\cap<=maxLen:=by
 obtain ⟨a,cap,h1,h2,h3,_⟩:=h
 exact ⟨a,cap,h1,h2,h3⟩
theorem Sr.at {W:World} {a:Option Addr} {n cap:Nat} {rs:List (List Cl)} (h:Sr W (.slice a n cap) rs) {k:Nat} (hk:k<rs.length) :
  ∃ b off rv,a=some ⟨b,off,none⟩/\b<W.heap.size/\W.cell? ⟨b,off+k,none⟩=some rv/\Sc W rv rs[k]:=by
 obtain ⟨a',cap',e,h1,h2,h4⟩:=h
 simp only [Value.slice.injEq] at e
 obtain ⟨rfl,_,_⟩:=e
 obtain ⟨b,off,rfl,h5,h6⟩:=h4 (by omega)
 obtain ⟨rv,h7,h8⟩:=h6 k hk
 exact ⟨b,off,rv,rfl,h5,h7,h8⟩
theorem open_rows {H:Type} {enc:TypeId×Value->H} {W:World} {spare:Nat->Bool} {held:Bool} {a:Option Addr} {len cap:Nat} {d:DataW H} {p:List MemPlace}
  (h:DataW.Trod enc Tryz.prog W 0 spare held 26 (.slice a len cap) d p):∃ l:List (List Cl),Sr W (.slice a len cap) l/\∀ x∈l,∀ c∈x,Okc c:=by
 obtain ⟨fuel,hf⟩:=h
 rcases Deep.open_slice Tryz.underlying26 hf with ⟨h1,_⟩ | ⟨a1,l1,c1,m,n,D,Pl,h1,_,hlc,hm,hmm,_,hcells⟩
 ·simp [Value.cells] at h1
  obtain ⟨rfl,rfl,rfl⟩:=h1
  exact ⟨[],⟨none,0,rfl,Nat.le_refl _,by unfold maxLen;omega,fun h=>by simp at h⟩,fun x hx=>by simp at hx⟩
 ·simp [Value.cells] at h1
  obtain ⟨rfl,rfl,rfl⟩:=h1
  have cells58:Tryz.prog.cellsOf 58=1:=by kernel_rfl
  rw [cells58] at hcells
  have hlm:len<=m:=by rw [hmm];split<;>omega
  have hone:∀ i,i<len->∃ x:List Cl,(∀ c∈x,Okc c)/\∃ rv,W.cell? (a1.add i)=some rv/\Sc W rv x:=by
   intro i hi
   obtain ⟨cs,hc,ht⟩:=hcells i (by omega)
   rw [Nat.mul_one] at hc
   obtain ⟨c0,rfl,e0⟩:=cells_one hc
   rcases DataW.trod_slice Tryz.underlying58 ht with ⟨h1,_⟩ | ⟨a',len',cap',elems,rest,n',hnn,h1,_⟩
   ·simp at h1
    subst h1
    exact ⟨[],fun c hc=>by simp at hc,_,e0,none,0,rfl,Nat.le_refl _,by unfold maxLen;omega,fun h=>by simp at h⟩
   ·simp at h1
    subst h1
    obtain ⟨x,hx,hox⟩:=open_cells (d:=_) (p:=_) ⟨_,ht⟩
    exact ⟨x,hox,_,e0,hx⟩
  obtain ⟨f,hf2⟩:=Deep.choose_lt hone
  have hll:((List.range len).map f).length=len:=by simp
  refine ⟨(List.range len).map f,⟨some a1,cap,by rw [hll],by rw [hll];omega,by omega,fun h0=>?_⟩,?_⟩
  ·rw [hll] at h0
   obtain ⟨b,off,spot⟩:=a1
   have hspot:spot=none:=by
    obtain ⟨_,rv,h1,_⟩:=hf2 0 (by omega)
    have:=World.cell?_spot h1
    simpa [Addr.add] using this
   subst hspot
   have hb:b<W.heap.size:=by
    obtain ⟨cs,hc,_⟩:=hcells 0 (by omega)
    have:=World.cells?_block hc (by omega)
    simpa [Addr.add] using this
   refine ⟨b,off,rfl,hb,fun j hj=>?_⟩
   have hj2:j<len:=by rwa [hll] at hj
   obtain ⟨_,rv,h1,h2⟩:=hf2 j hj2
   rw [addj] at h1
   exact ⟨rv,h1,by simpa using h2⟩
  ·intro x hx
   obtain ⟨i,hi,rfl⟩:=List.mem_map.1 hx
   exact (hf2 i (by simpa using hi)).1
theorem own_lower {W:World} {B B' e size n:Nat} {v:Value} {xs:List Value} (h:W.ownsRow B e size v n xs) (hb:B'<=B):W.ownsRow B' e size v n xs:=by
 rcases h with ⟨h0,h1 | ⟨g,cap,cur,rfl,h2,h3⟩⟩
 ·exact ⟨h0,.inl h1⟩
 ·exact ⟨h0,.inr ⟨g,cap,cur,rfl,Nat.le_trans hb h2,h3⟩⟩
def svals (l:List Stt):List Value:=l.flatMap celS
theorem svals_length:∀ l:List Stt,(svals l).length=l.length*10
 | []=>rfl
 | c::t=>by
  show (celS c++svals t).length=_
  rw [List.length_append,svals_length t,List.length_cons]
  simp [celS]
  omega
theorem svals_get:∀ {l:List Stt} {j:Nat} (h:j<l.length) {i:Nat} (hi:i<10),(svals l)[j*10+i]?=(celS l[j])[i]?
 | c::t,0,h,i,hi=>by
  show (celS c++svals t)[0*10+i]?=_
  rw [List.getElem?_append_left (by simp [celS];omega)]
  simp
 | c::t,j+1,h,i,hi=>by
  have ih:=svals_get (l:=t) (j:=j) (by simpa using h) hi
  show (celS c++svals t)[(j+1)*10+i]?=_
  rw [List.getElem?_append_right (by simp [celS];omega)]
  simp only [celS,List.length_cons,List.length_nil]
  rw [show (j+1)*10+i-(0+1+1+1+1+1+1+1+1+1+1)=j*10+i by omega,ih]
  rfl
def OwnT (W:World) (B:Nat) (v:Value) (l:List Stt):Prop:=W.ownsRow B 54 10 v l.length (svals l)
theorem OwnT.ss {W:World} {B:Nat} {v:Value} {l:List Stt} (h:OwnT W B v l):Ss W v l:=by
 rcases h with ⟨h0,⟨rfl,h1⟩ | ⟨g,cap,cur,rfl,h2,h3,h4,h5,h6,h7⟩⟩
 ·refine ⟨none,0,by rw [h1],by omega,by unfold maxLen;omega,fun h=>by omega⟩
 ·refine ⟨_,cap,rfl,h4,h5,fun _=>⟨g,0,rfl,fun j hj=>?_⟩⟩
  have hc:∀ i,i<10->W.cell? ⟨g,0+j*10+i,none⟩=(celS l[j])[i]?:=fun i hi=>by
   rw [Nat.zero_add,← svals_get hj hi]
   have hlt:j*10+i<(svals l).length:=by rw [svals_length];omega
   obtain ⟨x,hx⟩:∃ x,(svals l)[j*10+i]?=some x:=⟨_,List.getElem?_eq_getElem hlt⟩
   rw [hx]
   simp only [World.cell?,h3]
   have hj2:(svals l)[j*10+i]?=some x:=by rw [hx]
   rw [← h7] at hj2
   have hlt2:=(List.getElem?_eq_some_iff.1 hj2).1
   rw [List.length_take] at hlt2
   rw [List.getElem?_take_of_lt (by omega)] at hj2
   simpa using hj2
  exact ⟨(Array.getElem?_eq_some_iff.1 h3).1,⟨hc 0 (by omega),hc 1 (by omega),hc 2 (by omega),hc 3 (by omega)⟩,⟨hc 4 (by omega),hc 5 (by omega),hc 6 (by omega)⟩,hc 7 (by omega),hc 8 (by omega),hc 9 (by omega)⟩
end Go.Proofs.YtpljdjmpamjkhaaGreatDoor
set_option linter.unusedVariables false
set_option linter.unusedSimpArgs false
namespace Go.Proofs.YtpljdjmpamjkhaaGreatDoor
open Go.RowKit Go.Lib
theorem step_append_ownG {w:World} {ops:Array Oper} {o:Oper} {a:Act} {K:Act->World->Prop} {Q:Exit->Act->World->Prop} {E:Prop} (hgd:o.guard=none) (s x:Operand) (t:TypeId)
  (ho:o.op=.call { callee:=.builtin .append,args:=#[s,x],argTypes:=#[t,t] })
  (base:Nat) (e:TypeId) (i:TypeInfo) (z:Value) (size bytes:Nat) (ht:Tryz.prog.underlying t=some (.slice e)) (hi:Tryz.prog.info? e=some i) (hz:i.zero=some z)
  (hsize:i.size=size) (hby:i.bytes=bytes) (hzs:z.cells.size=size) (hsz:0<size)
  (v:Value) (n:Nat) (xs:List Value) (hs:a.eval s=v) (hown:w.ownsRow base e size v n xs)
  (ad:Addr) (m c:Nat) (news:List Value) (hx:a.eval x=.slice (some ad) m c) (hl:news.length=m*size) (hnews:∀ j u,news[j]?=some u->w.cell? (ad.add j)=some u) (h1:∀ u∈news,u.oneCell'=true)
  (h63:n+m<=maxLen) (hbytes:(n+m)*bytes<=140737488355328) (hbase:base<=w.heap.size)
  (h:∀ v' w',w'.ownsRow base e size v' (n+m) (xs++news)->w.grownBy w' v.ownBlock->(v'.ownBlock=v.ownBlock∨v'.ownBlock=some w.heap.size)->K (a.put o.dst v') w') :
  if Region.wanted o (yielded ops a.tmps)=true then Oper.wp Tryz.prog o a w K Q else E:=by
 have hw:Region.wanted o (yielded ops a.tmps)=true:=by simp [Region.wanted,hgd]
 rw [if_pos hw]
 obtain ⟨v',w',hr,o1,g1,_,e1⟩:=run_append_own_at (P:=Tryz.prog) w base t o.type e i z size bytes ht hi hz hsize hby hzs hsz v n xs hown ad m c news hl hnews h1 h63 hbytes hbase
 unfold Oper.wp execOp
 simp only [ho,resolve,invoke,builtin,Sem.run_bind,Sem.run_pure,Result.andThen_ok,List.map_toArray,List.map_cons,List.map_nil,hs,hx,hr]
 exact h v' w' o1 g1 e1
theorem ownG_same {W W':World} {B:Nat} {e:TypeId} {size n:Nat} {v:Value} {xs:List Value} (h:W.ownsRow B e size v n xs) (hb:∀ k,v.ownBlock=some k->W'.heap[k]?=W.heap[k]?):W'.ownsRow B e size v n xs:=by
 refine ⟨h.1,?_⟩
 rcases h.2 with hn | ⟨g,cap,cur,rfl,h1,h2,r⟩
 ·exact .inl hn
 ·exact .inr ⟨g,cap,cur,rfl,h1,(hb g rfl).trans h2,r⟩
theorem ownG_block {W:World} {B:Nat} {e:TypeId} {size n:Nat} {v:Value} {xs:List Value} (h:W.ownsRow B e size v n xs) {k:Nat} (hk:v.ownBlock=some k):B<=k/\k<W.heap.size/\∃ cur,W.heap[k]?=some (.cells cur e (0,0)):=by
 rcases h.2 with ⟨rfl,_⟩ | ⟨g,cap,cur,rfl,h1,h2,r⟩
 ·cases hk
 ·cases hk
  exact ⟨h1,(Array.getElem?_eq_some_iff.1 h2).1,cur,h2⟩
theorem ownG_types {W:World} {B B':Nat} {e e':TypeId} {size size' n n':Nat} {v v':Value} {xs xs':List Value} (h:W.ownsRow B e size v n xs) (h':W.ownsRow B' e' size' v' n' xs') (he:e≠e') {k:Nat} (hk:v.ownBlock=some k):v'.ownBlock≠some k:=by
 intro hk'
 obtain ⟨_,_,c,h1⟩:=ownG_block h hk
 obtain ⟨_,_,c',h2⟩:=ownG_block h' hk'
 rw [h1] at h2
 cases h2
 exact he rfl
structure Grm (W:World) (B q R n:Nat) (rvs:List Value) (rows:List Row) (vs:Value) (sts:List Stt):Prop where
 box:W.heap[q]?=some (.cells #[.slice (some ⟨R,0,none⟩) n n,vs] 109 (0,0))
 hq:B<=q
 row:W.ownsRow B 79 1 (.slice (some ⟨R,0,none⟩) n n) n rvs
 len:rows.length=n
 own:∀ i (h:i<rows.length),∃ rv,rvs[i]?=some rv/\OwnV W B rv rows[i]
 apart:∀ (i j:Nat) (ri rj:Value) (b:Nat),i≠j->rvs[i]?=some ri->rvs[j]?=some rj->ri.ownBlock=some b->rj.ownBlock≠some b
 st:W.ownsRow B 54 10 vs sts.length (sts.flatMap celS)
section
variable {W W':World} {B q R n:Nat} {rvs:List Value} {rows:List Row} {vs:Value} {sts:List Stt}
theorem Grm.lt (h:Grm W B q R n rvs rows vs sts):q<W.heap.size:=(Array.getElem?_eq_some_iff.1 h.box).1
theorem Grm.turn (h:Grm W B q R n rvs rows vs sts) (hb:∀ k,B<=k->k<W.heap.size->W'.heap[k]?=W.heap[k]?):Grm W' B q R n rvs rows vs sts:=by
 refine ⟨(hb q h.hq h.lt).trans h.box,h.hq,ownG_same h.row fun k hk=>?_,h.len,fun i hi=>?_,h.apart,ownG_same h.st fun k hk=>?_⟩
 ·obtain ⟨a,b,_⟩:=ownG_block h.row hk
  exact hb k a b
 ·obtain ⟨rv,h1,h2⟩:=h.own i hi
  exact ⟨rv,h1,ownG_same h2 fun k hk=>by obtain ⟨a,b,_⟩:=ownG_block h2 hk;exact hb k a b⟩
 ·obtain ⟨a,b,_⟩:=ownG_block h.st hk
  exact hb k a b
theorem Grm.kept (h:Grm W B q R n rvs rows vs sts) (hb:Below W.heap.size W W'):Grm W' B q R n rvs rows vs sts:=h.turn fun k _ hk=>hb.block k hk
theorem Grm.frp (h:Grm W B q R n rvs rows vs sts) {p:Nat} (hf:Fr p W.heap.size W W') (hp:p<B):Grm W' B q R n rvs rows vs sts:=h.turn fun k hB hk=>hf.block k hk (by omega)
theorem Grm.low (h:Grm W B q R n rvs rows vs sts) {B':Nat} (hB:B'<=B):Grm W B' q R n rvs rows vs sts :=
 have lo:∀ {e size n:Nat} {v:Value} {xs:List Value},W.ownsRow B e size v n xs->W.ownsRow B' e size v n xs:=fun {e size n v xs} h=>⟨h.1,h.2.imp id fun ⟨g,cap,cur,hv,hb,r⟩=>⟨g,cap,cur,hv,Nat.le_trans hB hb,r⟩⟩
 ⟨h.box,Nat.le_trans hB h.hq,lo h.row,h.len,fun i hi=>by obtain ⟨rv,h1,h2⟩:=h.own i hi;exact ⟨rv,h1,lo h2⟩,h.apart,lo h.st⟩
theorem Grm.cells (h:Grm W B q R n rvs rows vs sts):W.cell? ⟨q,0,none⟩=some (.slice (some ⟨R,0,none⟩) n n)/\W.cell? ⟨q,1,none⟩=some vs/\W.frozen? ⟨q,0,none⟩=false/\W.frozen? ⟨q,1,none⟩=false :=
 ⟨by rw [cell_block h.box];rfl,by rw [cell_block h.box];rfl,by simp [World.frozen?,h.box],by simp [World.frozen?,h.box]⟩
theorem Grm.addStat (h:Grm W B q R n rvs rows vs sts) {vs':Value} {s:Stt} (ho:W'.ownsRow B 54 10 vs' (sts.length+1) (sts.flatMap celS++celS s)) (hg:W.grownBy W' vs.ownBlock) (he:vs'.ownBlock=vs.ownBlock∨vs'.ownBlock=some W.heap.size) :
  Grm (W'.setCell ⟨q,1,none⟩ vs') B q R n rvs rows vs' (sts++[s])/\Below B W (W'.setCell ⟨q,1,none⟩ vs')/\(W'.cell? ⟨q,1,none⟩=some vs/\W'.frozen? ⟨q,1,none⟩=false) /\
   ∀ (v:Value) (l:List Cl),OwnV W B v l->OwnV (W'.setCell ⟨q,1,none⟩ vs') B v l:=by
 have hqv:vs.ownBlock≠some q:=fun e=>by
  obtain ⟨_,_,c,hc⟩:=ownG_block h.st e
  rw [h.box] at hc
  cases hc
 have hq':W'.heap[q]?=some (.cells #[.slice (some ⟨R,0,none⟩) n n,vs] 109 (0,0)):=(hg.block q h.lt (fun e=>hqv e.symm)).trans h.box
 have hqv':vs'.ownBlock≠some q:=fun e=>by
  rcases he with e1 | e1
  ·exact hqv (e1.symm.trans e)
  ·rw [e1] at e
   cases e
   exact absurd h.lt (Nat.lt_irrefl _)
 have hn:∀ k,k≠q->(W'.setCell ⟨q,1,none⟩ vs').heap[k]?=W'.heap[k]?:=fun k hk=>Below.heap_setCell _ _ _ _ (by simpa using hk)
 have key:∀ {e size m:Nat} {v:Value} {xs:List Value},W.ownsRow B e size v m xs->e≠54->e≠109->(W'.setCell ⟨q,1,none⟩ vs').ownsRow B e size v m xs:=fun {e size m v xs} ho' h1 h2=>ownG_same ho' fun k hk=>by
  obtain ⟨k1,k2,c,hc⟩:=ownG_block ho' hk
  have hkq:k≠q:=by
   rintro rfl
   rw [h.box] at hc
   cases hc
   exact h2 rfl
  rw [hn k hkq]
  exact hg.block k k2 (fun e'=>ownG_types ho' h.st h1 hk e'.symm)
 refine ⟨⟨?_,h.hq,key h.row (by decide) (by decide),h.len,fun i hi=>?_,h.apart,?_⟩,⟨hg.os,hg.tape,hg.output,Nat.le_trans hg.size (by simp [World.setCell]),fun k hk=>?_⟩,⟨by rw [cell_block hq'];rfl,by simp [World.frozen?,hq']⟩,fun v l hv=>key hv (by decide) (by decide)⟩
 ·rw [heap_setC hq']
  rfl
 ·obtain ⟨rv,h1,h2⟩:=h.own i hi
  exact ⟨rv,h1,key h2 (by decide) (by decide)⟩
 ·rw [List.flatMap_append,List.length_append]
  simp only [List.length_cons,List.length_nil,List.flatMap_cons,List.flatMap_nil,List.append_nil]
  exact ownG_same ho fun k hk=>hn k (fun e=>hqv' (e ▸ hk))
 ·rw [hn k (by have:=h.hq;omega)]
  refine hg.block k (by have:=h.lt;have:=h.hq;omega) (fun e=>?_)
  have:=(ownG_block h.st e.symm).1
  omega
theorem Grm.addCell (h:Grm W B q R n rvs rows vs sts) {j:Nat} (hj:j<rows.length) {rv rv':Value} {x:Cl} (hrv:rvs[j]?=some rv) (ho:OwnV W' B rv' (rows[j]++[x])) (hg:W.grownBy W' rv.ownBlock) (he:rv'.ownBlock=rv.ownBlock∨rv'.ownBlock=some W.heap.size) :
  Grm (W'.setCell ⟨R,j,none⟩ rv') B q R n (rvs.set j rv') (rows.set j (rows[j]++[x])) vs sts/\Below B W (W'.setCell ⟨R,j,none⟩ rv')/\(W'.cell? ⟨R,j,none⟩=some rv/\W'.frozen? ⟨R,j,none⟩=false/\W'.cell? ⟨q,0,none⟩=some (.slice (some ⟨R,0,none⟩) n n)) /\
   ∀ (v:Value) (l:List Cl),OwnV W B v l->(∀ b,rv.ownBlock=some b->v.ownBlock≠some b)->OwnV (W'.setCell ⟨R,j,none⟩ rv') B v l:=by
 obtain ⟨rv0,e0,hrow⟩:=h.own j hj
 rw [hrv] at e0
 cases e0
 obtain ⟨hR1,hR2,cR,hcR⟩:=ownG_block (k:=R) h.row rfl
 have hRrv:rv.ownBlock≠some R:=fun e=>ownG_types hrow h.row (by decide) e rfl
 have hRrv':rv'.ownBlock≠some R:=fun e=>by
  rcases he with e1 | e1
  ·exact hRrv (e1.symm.trans e)
  ·rw [e1] at e
   cases e
   exact absurd hR2 (Nat.lt_irrefl _)
 have hqrv:rv.ownBlock≠some q:=fun e=>by
  obtain ⟨_,_,c,hc⟩:=ownG_block hrow e
  rw [h.box] at hc
  cases hc
 have hqR:q≠R:=by
  rintro rfl
  rw [h.box] at hcR
  cases hcR
 have hn:∀ k,k≠R->(W'.setCell ⟨R,j,none⟩ rv').heap[k]?=W'.heap[k]?:=fun k hk=>Below.heap_setCell _ _ _ _ (by simpa using hk)
 have hrow':W'.ownsRow B 79 1 (.slice (some ⟨R,0,none⟩) n n) n rvs:=ownG_same h.row fun k hk=>by
  cases hk
  exact hg.block R hR2 (fun e=>hRrv e.symm)
 have hlen:=h.len
 have key:∀ i (hi:i<rows.length) ri,i≠j->rvs[i]?=some ri->OwnV W B ri rows[i]->OwnV (W'.setCell ⟨R,j,none⟩ rv') B ri rows[i]:=fun i hi ri hij hri hoi=>ownG_same hoi fun k hk=>by
  obtain ⟨_,k2,_⟩:=ownG_block hoi hk
  have hkR:k≠R:=by
   rintro rfl
   exact ownG_types hoi h.row (by decide) hk rfl
  rw [hn k hkR]
  exact hg.block k k2 (fun e=>h.apart i j ri rv k hij hri hrv hk e.symm)
 refine ⟨⟨?_,h.hq,(hrow'.stored j rv').1,by rw [List.length_set];exact hlen,fun i hi=>?_,fun i i' ri ri' b hii hri hri' hb=>?_,ownG_same h.st fun k hk=>?_⟩,⟨hg.os,hg.tape,hg.output,Nat.le_trans hg.size (by simp [World.setCell]),fun k hk=>?_⟩,⟨?_,hrow'.frozenAt j,by rw [cell_block ((hg.block q h.lt (fun e=>hqrv e.symm)).trans h.box)];rfl⟩,fun v l hv hd=>ownG_same hv fun k hk=>?_⟩
 ·rw [hn q hqR]
  exact (hg.block q h.lt (fun e=>hqrv e.symm)).trans h.box
 ·rw [List.length_set] at hi
  by_cases hij:i=j
  ·subst hij
   have hlr:i<rvs.length:=(List.getElem?_eq_some_iff.1 hrv).1
   refine ⟨rv',by rw [List.getElem?_set_self hlr],?_⟩
   rw [List.getElem_set_self]
   exact ownG_same ho fun k hk=>hn k (fun e=>hRrv' (e ▸ hk))
  ·obtain ⟨ri,h1,h2⟩:=h.own i hi
   refine ⟨ri,by rw [List.getElem?_set_ne (Ne.symm hij)];exact h1,?_⟩
   rw [List.getElem_set_ne (Ne.symm hij)]
   exact key i hi ri hij h1 h2
 ·have hlr:j<rvs.length:=(List.getElem?_eq_some_iff.1 hrv).1
  have old:∀ m rm,rvs[m]?=some rm->m<rows.length:=fun m rm hm=>by
   have:=(List.getElem?_eq_some_iff.1 hm).1
   have h1:=h.row.1
   omega
  have fresh:∀ m rm k,m≠j->rvs[m]?=some rm->rm.ownBlock=some k->rv'.ownBlock≠some k:=fun m rm k hmj hm hk e=>by
   obtain ⟨r0,h1,h2⟩:=h.own m (old m rm hm)
   rw [hm] at h1
   cases h1
   rcases he with e1 | e1
   ·exact h.apart m j rm rv k hmj hm hrv hk (e1.symm.trans e)
   ·rw [e1] at e
    cases e
    exact absurd (ownG_block h2 hk).2.1 (Nat.lt_irrefl _)
  by_cases hij:i=j
  ·subst hij
   rw [List.getElem?_set_self hlr] at hri
   cases hri
   rw [List.getElem?_set_ne hii] at hri'
   intro e
   exact fresh i' ri' b (Ne.symm hii) hri' e hb
  ·rw [List.getElem?_set_ne (Ne.symm hij)] at hri
   by_cases hij':i'=j
   ·subst hij'
    rw [List.getElem?_set_self hlr] at hri'
    cases hri'
    exact fresh i ri b hij hri hb
   ·rw [List.getElem?_set_ne (Ne.symm hij')] at hri'
    exact h.apart i i' ri ri' b hii hri hri' hb
 ·obtain ⟨_,k2,_⟩:=ownG_block h.st hk
  have hkR:k≠R:=by
   rintro rfl
   exact ownG_types h.st h.row (by decide) hk rfl
  rw [hn k hkR]
  exact hg.block k k2 (fun e=>ownG_types h.st hrow (by decide) hk e.symm)
 ·rw [hn k (by omega)]
  refine hg.block k (by omega) (fun e=>?_)
  have:=(ownG_block hrow e.symm).1
  omega
 ·have h1:=h.row.1
  rw [hrow'.cellAt j (by omega)]
  exact hrv
 ·obtain ⟨_,k2,_⟩:=ownG_block hv hk
  have hkR:k≠R:=by
   rintro rfl
   exact ownG_types hv h.row (by decide) hk rfl
  rw [hn k hkR]
  exact hg.block k k2 (fun e=>hd k e.symm hk)
end
end Go.Proofs.YtpljdjmpamjkhaaGreatDoor
