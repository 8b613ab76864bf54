import Derived.Test.YtpljdjmpamjkhaaGreatDoorXat
import Derived.Test.YtpljdjmpamjkhaaGreatDoorXap
set_option linter.unusedVariables false
set_option linter.unusedSimpArgs false
set_option maxRecDepth 100000
set_option maxHeartbeats 8000000
namespace Go.Proofs.YtpljdjmpamjkhaaGreatDoor
open Go.RowKit Go.Lib
abbrev Row:=List Cl
def cW(rs:List Row)(k:Nat):List Cl:=rs.map fun r=>r.getD k nul
def mb(fs:List Fd)(k:Nat):Nat:=(fs.map fun f=>f.2.2.1).getD k 0
theorem mc{fs:List Fd}{k:Nat}(h:k<fs.length):mb fs k=fs[k].2.2.1:=by
 unfold mb;rw[List.getD_eq_getElem?_getD,List.getElem?_map,List.getElem?_eq_getElem h];rfl
theorem dr(rs:List Row)(k:Nat):(cW rs k).length=rs.length:=jdz _
def gG(c:Cl):List Nat:=if c.1=1 then uv (zigzag c.2.1) else if c.1=2 then [(c.2.1 % 256).toNat] else uv c.2.2.length++c.2.2
def yh(st:Stt):Nat:=(if st.some=true then 1 else 0)+(if st.high=true then 2 else 0)
def et(st:Stt):List Nat:=uv st.nulls.toNat++[yh st]++((if st.some=true then gG st.lo else [])++(if st.high=true then gG st.hi else []))
def nps(g n:Nat):Nat:=(n+g-1) / g
def prt(g:Nat)(rs:List Row)(j:Nat):List Row:=(rs.drop (j*g)).take g
def Je(g:Nat)(rs:List Row):List (List Row):=(List.range (nps g rs.length)).map (prt g rs)
def eN(fs:List Fd)(p:List Row)(k:Nat):List Nat:=(List.range k).flatMap fun i=>eo (mb fs i) (cW p i)
def ftK(fs:List Fd)(p:List Row)(k:Nat):List Nat:=(List.range k).flatMap fun i=>uv (eo (mb fs i) (cW p i)).length++et (cA (cW p i))
def iy(fs:List Fd)(g:Nat)(rs:List Row)(j:Nat):List Nat:=(List.range j).flatMap fun i=>eN fs (prt g rs i) fs.length
def ftJ(fs:List Fd)(g:Nat)(rs:List Row)(j:Nat):List Nat:=(List.range j).flatMap fun i=>ftK fs (prt g rs i) fs.length
def ge(id:Nat)(fs:List Fd)(rs:List Row)(g:Nat):List Nat:=dF id fs++uv rs.length++uv g++ftJ fs g rs (nps g rs.length)
def md(id:Nat)(fs:List Fd)(rs:List Row)(g:Nat):List Nat:=iy fs g rs (nps g rs.length)++ge id fs rs g++le4 (ge id fs rs g).length
def ew(id:Nat)(fs:List Fd)(rs:List Row)(g:Nat):List Nat:=[67,70,49]++md id fs rs g
theorem me(fs:List Fd)(p:List Row)(k:Nat):eN fs p (k+1)=eN fs p k++eo (mb fs k) (cW p k):=by
 unfold eN;rw[jeN,jeH];simp
theorem nR(fs:List Fd)(p:List Row)(k:Nat):ftK fs p (k+1)=ftK fs p k++(uv (eo (mb fs k) (cW p k)).length++et (cA (cW p k))):=by
 unfold ftK;rw[jeN,jeH];simp
theorem sV(fs:List Fd)(g:Nat)(rs:List Row)(j:Nat):iy fs g rs (j+1)=iy fs g rs j++eN fs (prt g rs j) fs.length:=by
 unfold iy;rw[jeN,jeH];simp
theorem wW(fs:List Fd)(g:Nat)(rs:List Row)(j:Nat):ftJ fs g rs (j+1)=ftJ fs g rs j++ftK fs (prt g rs j) fs.length:=by
 unfold ftJ;rw[jeN,jeH];simp
def kF(fs:List Fd):List Row->Nat
 | []=>0
 | r::t=>if jK fs r=0 then kF fs t else jK fs r
def dV(id:Nat)(fs:List Fd)(rs:List Row)(g:Int):Nat :=
 if chk id fs≠0 then chk id fs else if g<1∨64<g then 1 else if 256<rs.length then 5 else kF fs rs
def bT(id:Nat)(fs:List Fd)(rs:List Row)(g:Int):List Nat×Nat :=
 if dV id fs rs g≠0 then ([],dV id fs rs g) else if 65536<(bX (ew id fs rs g.toNat)).length then ([],4) else (bX (ew id fs rs g.toNat),0)
abbrev S3:=List Nat×List Nat×Bool
def mf(lo hi:Nat)(b:List Nat):Bool:=!decide ((gt b).2.2=0/\lo<=(gt b).1/\(gt b).1<=hi)
def gi(lo hi:Nat)(b:List Nat):Nat:=if mf lo hi b=true then 0 else (gt b).1
def dI(b:List Nat):List Nat:=b.drop (gt b).2.1
theorem rq(lo hi:Nat)(b:List Nat):gi lo hi b<=hi:=by
 unfold gi mf;split
 ·omega
 ·next h =>
  simp only[Bool.not_eq_true',je0,Decidable.not_not]at h;exact h.2.2
theorem Lp{lo hi:Nat}{b:List Nat}(h:mf lo hi b=false):lo<=gi lo hi b:=by
 unfold gi;rw[jdt (by rw[h];decide)];unfold mf at h;simp only[Bool.not_eq_false',jei]at h;exact h.2.1
theorem pZ{lo hi n:Nat}(h1:lo<=n)(h2:n<=hi)(h3:n<18446744073709551616)(r:List Nat):mf lo hi (uv n++r)=false/\gi lo hi (uv n++r)=n/\dI (uv n++r)=r:=by
 have hg:=mA n h3 r
 have hb:mf lo hi (uv n++r)=false:=by
  unfold mf;rw[hg];simp[h1,h2]
 refine⟨hb,?_,?_⟩
 ·unfold gi
  rw[hb,hg];rfl
 ·unfold dI
  rw[hg,jed]
def iz(k n:Nat)(s:S3):List Cl×S3 :=
 ((gC k (s.1.take (gi 0 s.1.length s.2.1)) n).getD [],
  (s.1.drop (gi 0 s.1.length s.2.1),dI s.2.1,(s.2.2 || mf 0 s.1.length s.2.1) || (gC k (s.1.take (gi 0 s.1.length s.2.1)) n).isNone))
def qa(l:List Cl)(s:S3):S3:=if (et (cA l)).isPrefixOf s.2.1=true then (s.1,s.2.1.drop (et (cA l)).length,s.2.2) else (s.1,s.2.1,true)
def psh(rs:List Row)(l:List Cl):List Row:=rs.mapIdx fun i r=>r++(l[i]?).toList
def grS(n:Nat)(st:List Row×List Stt×S3)(f:Fd):List Row×List Stt×S3 :=
 (psh st.1 (iz f.2.2.1 n st.2.2).1,st.2.1++[cA (iz f.2.2.1 n st.2.2).1],qa (iz f.2.2.1 n st.2.2).1 (iz f.2.2.1 n st.2.2).2)
def grK(fs:List Fd)(n:Nat)(s:S3)(k:Nat):List Row×List Stt×S3:=(fs.take k).foldl (grS n) (List.replicate n [],[],s)
theorem wX(fs:List Fd)(n:Nat)(s:S3):grK fs n s 0=(List.replicate n [],[],s):=rfl
theorem rr{fs:List Fd}{k:Nat}(h:k<fs.length)(n:Nat)(s:S3):grK fs n s (k+1)=grS n (grK fs n s k) fs[k]:=by
 unfold grK;rw[jdM h,List.foldl_append];rfl
abbrev Gr:=List Row×List Stt
def fiJ(fs:List Fd)(g tot:Nat)(s:S3):Nat->List Gr×S3
 | 0=>([],s)
 | j+1=>((fiJ fs g tot s j).1++[((grK fs (min (tot-j*g) g) (fiJ fs g tot s j).2 fs.length).1,(grK fs (min (tot-j*g) g) (fiJ fs g tot s j).2 fs.length).2.1)],
   (grK fs (min (tot-j*g) g) (fiJ fs g tot s j).2 fs.length).2.2)
def ie(fs:List Fd)(c r:List Nat):List Gr×S3 :=
 fiJ fs (gi 1 64 (dI r)) (gi 0 256 r) (c,dI (dI r),mf 0 256 r || mf 1 64 (dI r)) (nps (gi 1 64 (dI r)) (gi 0 256 r))
def jr(b:List Nat):Option (Nat×List Fd×Nat×List Gr) :=
 if b.length<4 then none else
 if b.length-4<leN (b.drop (b.length-4)) then none else
 match db ((b.take (b.length-4)).drop (b.length-4-leN (b.drop (b.length-4))))with
 | .error _=>none
 | .ok ((id,fs),r)=>if (ie fs (b.take (b.length-4-leN (b.drop (b.length-4)))) r).2.2.2=true then none
  else some (id,fs,gi 1 64 (dI r),(ie fs (b.take (b.length-4-leN (b.drop (b.length-4)))) r).1)
def cp(gs:List Gr):List Row:=(gs.map Prod.fst).flatten
def rt(b:List Nat):Except Nat (Nat×List Fd×Nat×List Gr) :=
 match jq b with
 | none=>.error 101
 | some t=>if t.take 3=[67,70,49] then (match jr (t.drop 3)with
   | none=>.error 102
   | some x=>if bT x.1 x.2.1 (cp x.2.2.2) x.2.2.1=(b,0) then .ok x else .error 102) else .error 100
theorem tS{l:List Cl}{s:S3}(h:(qa l s).2.2=false):s.2.2=false/\s.2.1=et (cA l)++(qa l s).2.1/\(qa l s).1=s.1:=by
 unfold qa at *;split at h
 ·next hp =>
  rw[jdu hp];refine⟨h,?_,rfl⟩;obtain⟨t,ht⟩:=jeI.1 hp;show _=_++List.drop _ _
  rw[← ht,jed]
 ·cases h
theorem Xj{l:List Cl}{c b:List Nat}{fl:Bool}:qa l (c,et (cA l)++b,fl)=(c,b,fl):=by
 unfold qa;rw[jdu (jeI.2 ⟨b,rfl⟩),jed]
theorem tT{k n:Nat}{s:S3}(h:(iz k n s).2.2.2=false):s.2.2=false/\∃ l c,(iz k n s).1=l/\gC k c n=some l/\s.1=c++(iz k n s).2.1:=by
 unfold iz at *;simp only[Bool.or_eq_false_iff]at h;refine⟨h.1.1,?_⟩;cases hr:gC k (s.1.take (gi 0 s.1.length s.2.1)) n with
 | none=>rw[hr]at h;simp at h
 | some l=>exact⟨l,_,rfl,hr,(jeP _ _).symm⟩
theorem wY{n:Nat}{st:List Row×List Stt×S3}{f:Fd}(h:(grS n st f).2.2.2.2=false):st.2.2.2.2=false/\(iz f.2.2.1 n st.2.2).2.2.2=false:=by
 unfold grS at h;have h1:=(tS h).1;exact⟨(tT h1).1,h1⟩
theorem tU{n:Nat}:∀{fs:List Fd} {st:List Row×List Stt×S3},(fs.foldl (grS n) st).2.2.2.2=false->st.2.2.2.2=false
 | [],_,h=>h
 | f::t,st,h=>(wY (tU (fs:=t) h)).1
theorem Jf{fs:List Fd}{n:Nat}{s:S3}{k:Nat}(h:(grK fs n s k).2.2.2.2=false):s.2.2=false:=tU (st:=(List.replicate n [],[],s)) h
theorem qb{fs:List Fd}{g tot:Nat}{s:S3}:∀{m j:Nat},j<=m->(fiJ fs g tot s m).2.2.2=false->(fiJ fs g tot s j).2.2.2=false:=by
 intro m;induction m with
 | zero =>
  intro j hj h;obtain rfl:j=0:=by omega
  exact h
 | succ m ih =>
  intro j hj h;rcases jdY m j with h1 | h1
  ·obtain rfl:j=m+1:=by omega
   exact h
  ·exact ih h1 (Jf (k:=fs.length) h)
def fP(n:Nat)(cols:List (List Cl)):List Row:=(List.range n).map fun i=>cols.map fun l=>l.getD i nul
theorem wZ(n:Nat):fP n []=List.replicate n []:=by
 unfold fP;apply List.ext_getElem?
 intro i;by_cases h:i<n
 ·simp[h]
 ·simp[h]
theorem gH(n:Nat)(cols:List (List Cl)):(fP n cols).length=n:=by simp[fP]
theorem mK{n:Nat}{cols:List (List Cl)}{i:Nat}(h:i<n):(fP n cols)[i]?=some (cols.map fun l=>l.getD i nul):=by
 unfold fP;simp[h]
theorem xd{n:Nat}{cols:List (List Cl)}{l:List Cl}(h:l.length=n):psh (fP n cols) l=fP n (cols++[l]):=by
 unfold psh;apply List.ext_getElem?
 intro i;rw[List.getElem?_mapIdx];by_cases hi:i<n
 ·rw[mK hi,mK hi,List.getElem?_eq_getElem (by omega)]
  simp[List.getD_eq_getElem?_getD,List.getElem?_eq_getElem (show i<l.length by omega)]
 ·rw[List.getElem?_eq_none (l:=fP n cols) (by rw[gH];omega),List.getElem?_eq_none (l:=fP n (cols++[l])) (by rw[gH];omega)]
  rfl
theorem DU{n:Nat}{cols:List (List Cl)}{k:Nat}(hk:k<cols.length)(h:cols[k].length=n):cW (fP n cols) k=cols[k]:=by
 unfold cW;apply List.ext_getElem?
 intro i;rw[List.getElem?_map];by_cases hi:i<n
 ·rw[mK hi,List.getElem?_eq_getElem (show i<cols[k].length by omega)]
  simp[List.getD_eq_getElem?_getD,List.getElem?_eq_getElem hk,List.getElem?_eq_getElem (show i<cols[k].length by omega)]
 ·rw[List.getElem?_eq_none (by rw[gH];omega),List.getElem?_eq_none (by omega)]
  rfl
theorem DV{p:List Row}{m:Nat}(h:∀ r∈p,r.length=m):fP p.length ((List.range m).map (cW p))=p:=by
 apply List.ext_getElem?
 intro i;by_cases hi:i<p.length
 ·rw[mK hi,List.getElem?_eq_getElem hi,jd8]
  congr 1
  have hm:=h _ (jdA hi);apply List.ext_getElem?
  intro k;rw[List.getElem?_map];by_cases hk:k<m
  ·rw[List.getElem?_range hk,List.getElem?_eq_getElem (by omega)]
   simp[cW,List.getD_eq_getElem?_getD,List.getElem?_eq_getElem hi,List.getElem?_eq_getElem (show k<p[i].length by omega)]
  ·rw[List.getElem?_eq_none (by simp;omega),List.getElem?_eq_none (by omega)]
   rfl
 ·rw[List.getElem?_eq_none (by rw[gH];omega),List.getElem?_eq_none (by omega)]
def Whl(fs:List Fd)(n:Nat)(cols:List (List Cl)):Prop:=∀ i (h:i<cols.length),Col (mb fs i) cols[i]/\cols[i].length=n
theorem NB{fs:List Fd}{n:Nat}{s:S3}(hn:n<=64)(hk:∀ f∈fs,1<=f.2.2.1/\f.2.2.1<=3)(hb:Bs s.1):∀{k:Nat},k<=fs.length->(grK fs n s k).2.2.2.2=false ->
  ∃ cols,cols.length=k/\Whl fs n cols/\(grK fs n s k).1=fP n cols/\(grK fs n s k).2.1=cols.map cA/\Bs (grK fs n s k).2.2.1:=by
 intro k;induction k with
 | zero=>exact fun _ _=>⟨[],rfl,fun i h=>by simp at h,(wZ n).symm,rfl,hb⟩
 | succ k ih =>
  intro pC h;rw[rr (by omega)]at h ⊢;obtain⟨h1,h2⟩:=wY h;obtain⟨cols,hc,hw,hr,hs,xO⟩:=ih (by omega) h1;obtain⟨_,l,c,e1,e2,e3⟩:=tT h2;have VO:Bs c:=fun x hx=>xO x (by rw[e3];exact List.mem_append_left _ hx)
  have FV:=hk _ (jdA (show k<fs.length by omega));obtain⟨q1,q2,_⟩:=(lU FV (by omega) VO).1 e2;refine⟨cols++[l],by simp[hc],?_,?_,?_,?_⟩
  ·intro i hi
   rcases jdY i cols.length with h3 | h3
   ·rw[jfl h3]
    exact hw i h3
   ·obtain rfl:i=cols.length:=by simp at hi;omega
    rw[List.getElem_append_right (jdw _)];simp only[jeW,je7];rw[hc,mc (by omega)];exact⟨q1,q2⟩
  ·unfold grS
   simp only[e1,hr];exact xd q2
  ·unfold grS
   simp only[e1,hs,jdQ,jd5,jes]
  ·have h4:=(tS (l:=(iz fs[k].2.2.1 n (grK fs n s k).2.2).1) (s:=(iz fs[k].2.2.1 n (grK fs n s k).2.2).2) h).2.2
   unfold grS;simp only;rw[h4];exact fun x hx=>xO x (by rw[e3];exact List.mem_append_right _ hx)
theorem qc(n:Nat)(hn:n<9223372036854775808)(w:World):Calls Tryz.prog 81 #[.int .i64 (n:Int)] w (dw w (uv n)):=by
 have HV:=ae (dM n (by omega));have UE:IntKind.u64.wrap (n:Int)=(n:Int):=by rw[jd0];omega
 go_enter Tryz.func81,Tryz.ntmps81
 go_wp2_with fail;refine(HV.o _).mono ?_;rintro e w1 ⟨⟨v1,rfl,o1⟩,aH⟩;go_wp2_with fail;go_ret
 exact⟨⟨_,rfl,o1⟩,aH⟩
theorem ru{l:List Nat}(h:Bs l):da (ak l)=l:=by
 unfold da;rw[bE];exact ft h
theorem DW{s:List Nat}(c:Nat)(n:Int)(hc:(c:Int)≠1)(jT:(c:Int)≠2)(hl:s.length<=64)(h8:Bs s)(w:World) :
  Calls Tryz.prog 133 #[.agg #[.int .u8 (c:Int),.int .i64 n,.string (ak s)]] w (dw w (uv s.length++s)):=by
 have HE:=ae (ru h8);have jw:(ak s).size=s.length:=bg s;have HV:=ae (qc s.length (by omega));have uE:=bM (n:=s.length) (by omega);have h1:((c:Int)==1)=false:=jdG.2 hc;have h2:((c:Int)==2)=false:=jdG.2 jT;obtain⟨x0,x1,x2⟩:=dx w (.int .u8 (c:Int)) (.int .i64 n) (.string (ak s)) 52;have hz:w.heap.size<(w.alloc (.cells #[.int .u8 (c:Int),.int .i64 n,.string (ak s)] 52)).heap.size:=by rw[jdx];omega
 have ce:=ae (am w (.cells #[.int .u8 (c:Int),.int .i64 n,.string (ak s)] 52));generalize hW:w.alloc (.cells #[.int .u8 (c:Int),.int .i64 n,.string (ak s)] 52)=W at *
 have em:jfp (∀ n W',Below W.heap.size (W.drewN n) W'->W'.cell? ⟨w.heap.size,2,none⟩=some (.string (ak s))/\Below W.heap.size W W'/\W.heap.size<=W'.heap.size):=ae (fun n W' h=>by
  have hb':Below W.heap.size W W':=(ap (jdv _ _) n).trans h;exact⟨(hb'.cell (p:=⟨w.heap.size,2,none⟩) hz).trans x2,hb',hb'.size⟩)
 generalize hP:uv s.length=P at *;have hPp:0<P.length:=by rw[← hP];exact mz _
 clear hP hc jT h8;go_enter Tryz.func133,Tryz.ntmps133
 go_wp2_with fail;try rw[hW]
 clear hW
 go_region_held3 (fun w'=>w'.cell? ⟨w.heap.size,2,none⟩=some (.string (ak s))) (go_keep) (first
  | (go_at_call 81;refine(HV.o _).mono ?_;rintro e w2 ⟨⟨v2,rfl,cB⟩,aE⟩;obtain⟨Kx,py,hm3⟩:=em.o _ _ aE;have KB:=ae py;have du:=ae cB;clear aE py cB)
  | (refine mZ (by rfl) _ _ (by rfl) W.heap.size _ P (ak s) (by rfl) ?_ (by rfl) ?_ ?_ ?_;exact(be du.o (by simp));omega;omega;intro v3 w3 o3 b3;have se:=(b3.cell (p:=⟨w.heap.size,2,none⟩) hz).trans Kx;have dh:=ae o3;have bP:=ae (KB.o.trans b3);clear o3 b3))
 all_goals go_wp2_with fail
 all_goals go_ret
 all_goals rw[HE.o]at dh
 all_goals exact⟨⟨_,rfl,be dh.o ce.o.size⟩,ai ce.o bP.o⟩
theorem NC{n:Int}(h:I64 n)(w:World):Calls Tryz.prog 133 #[.agg #[.int .u8 1,.int .i64 n,.string ⟨#[]⟩]] w (dw w (wv n)):=by
 have HV:=ae (ic h);obtain⟨x0,x1,x2⟩:=dx w (.int .u8 1) (.int .i64 n) (.string ⟨#[]⟩) 52;have ce:=ae (am w (.cells #[.int .u8 1,.int .i64 n,.string ⟨#[]⟩] 52));go_enter Tryz.func133,Tryz.ntmps133
 go_wp2_with fail;refine(HV.o _).mono ?_;rintro e w1 ⟨⟨v1,rfl,o1⟩,aH⟩;have HO:=ae o1;have HB:=ae aH;clear o1 aH;go_wp2_with fail;go_ret
 exact⟨⟨_,rfl,be HO.o ce.o.size⟩,ai ce.o HB.o⟩
theorem ND{n:Nat}(h:n<2)(w:World):Calls Tryz.prog 133 #[.agg #[.int .u8 2,.int .i64 (n:Int),.string ⟨#[]⟩]] w (dw w [n]):=by
 obtain⟨x0,x1,x2⟩:=dx w (.int .u8 2) (.int .i64 (n:Int)) (.string ⟨#[]⟩) 52;have UE:IntKind.u8.wrap (n:Int)=(n:Int):=by rw[IntKind.wrap_u8];omega
 have ce:=ae (am w (.cells #[.int .u8 2,.int .i64 (n:Int),.string ⟨#[]⟩] 52));have HL:=ae (cG (w.alloc (.cells #[.int .u8 2,.int .i64 (n:Int),.string ⟨#[]⟩] 52)) n);have aQ:=ae (am (w.alloc (.cells #[.int .u8 2,.int .i64 (n:Int),.string ⟨#[]⟩] 52)) (.cells #[.int .u8 (n:Int)] 5));have hz:(w.alloc (.cells #[.int .u8 2,.int .i64 (n:Int),.string ⟨#[]⟩] 52)).heap.size=w.heap.size+1:=jdx _ _;go_enter Tryz.func133,Tryz.ntmps133
 go_wp2_with fail;go_ret
 have H1:=be HL.o ce.o.size;rw[hz]at H1;exact⟨⟨_,rfl,H1⟩,ai ce.o aQ.o⟩
theorem DX{c:Cl}(h:aT c)(w:World):Calls Tryz.prog 133 #[.agg #[.int .u8 (c.1:Int),.int .i64 c.2.1,.string (ak c.2.2)]] w (dw w (gG c)):=by
 rcases h with rfl | ⟨n,rfl,h1⟩ | ⟨n,rfl,h1⟩ | ⟨s,rfl,h1,h2⟩
 ·have:=DW (s:=[]) 0 0 (by decide) (by decide) (by simp) (fun x hx=>by simp at hx) w
  exact this
 ·have:=NC h1 w
  exact this
 ·have:=ND h1 w
  have e:gG ((2,(n:Int),[]):Cl)=[n]:=by
   unfold gG;rw[jdt (by simp),jdu (by simp)];simp only;congr 1
   omega
  rw[e];exact this
 ·have:=DW (s:=s) 3 0 (by decide) (by decide) h1 h2 w
  exact this
theorem DY(st:Stt)(w:World):Calls Tryz.prog 132 #[ux st] w fun e w'=>e=.returned (.int .u8 (yh st:Int))/\Below w.heap.size w w':=by
 obtain⟨r,n,so,hi,lo,hh⟩:=st;unfold ux yh
 have hc:∀ i,i<10->(w.alloc (.cells #[.int .i64 r,.int .i64 n,.bool so,.bool hi,.int .u8 (lo.1:Int),.int .i64 lo.2.1,.string (ak lo.2.2),.int .u8 (hh.1:Int),.int .i64 hh.2.1,.string (ak hh.2.2)] 54)).cell? ⟨w.heap.size,i,none⟩=(celS ⟨r,n,so,hi,lo,hh⟩)[i]?:=fun i hi=>by
  rw[ay (jdW w _)];simp[celS]
 have c2:=hc 2 (by omega);have c3:=hc 3 (by omega);simp only[celS,List.getElem?_cons_succ,List.getElem?_cons_zero]at c2 c3;have HB:=ae (am w (.cells #[.int .i64 r,.int .i64 n,.bool so,.bool hi,.int .u8 (lo.1:Int),.int .i64 lo.2.1,.string (ak lo.2.2),.int .u8 (hh.1:Int),.int .i64 hh.2.1,.string (ak hh.2.2)] 54));clear hc;cases so<;>cases hi
 all_goals
  go_enter Tryz.func132,Tryz.ntmps132
  go_wp2_with fail;go_ret
  exact⟨by first | rfl | kernel_rfl,HB.o⟩
theorem zI{w:World}{v:Value}{l:List Fd}(hs:Sf w v l)(id:Nat):Calls Tryz.prog 77 #[.agg #[.int .u32 (id:Int),v]] w fun e w'=>e=.returned (.int .i64 (chk id l:Int))/\Below w.heap.size w w':=by
 obtain⟨a,cap,rfl,aW,bw⟩:=hs.form;have ce:=ae (am w (.cells #[.int .u32 (id:Int),.slice a l.length cap] 25));have HS:=ae (hs.kept (am w (.cells #[.int .u32 (id:Int),.slice a l.length cap] 25)));obtain⟨c0,c1⟩:=bx w (.int .u32 (id:Int)) (.slice a l.length cap) 25;have hz:w.heap.size<(w.alloc (.cells #[.int .u32 (id:Int),.slice a l.length cap] 25)).heap.size:=by rw[jdx];omega
 clear hs;by_cases h1:id=0∨l.length=0∨8<l.length
 ·have HR:jfp (chk id l=1):=ae (jdu h1)
  clear c0 c1 hz HS;by_cases q1:id=0
  ·subst q1
   go_enter Tryz.func77,Tryz.ntmps77
   go_wp2_with fail;go_ret
   rw[HR.o];exact⟨rfl,ce.o⟩
  ·have q1':((id:Int)==0)=false:=by simp[q1]
   by_cases q2:l.length=0
   ·have q2':((l.length:Int)==0)=true:=by simp[q2]
    clear h1 q1 q2;go_enter Tryz.func77,Tryz.ntmps77
    go_wp2_with fail;go_ret
    rw[HR.o];exact⟨rfl,ce.o⟩
   ·have q2':((l.length:Int)==0)=false:=by simp[q2]
    have q3:(l.length:Int) > 8:=(by omega);clear h1 q1 q2;go_enter Tryz.func77,Tryz.ntmps77
    go_wp2_with fail;go_ret
    rw[HR.o];exact⟨rfl,ce.o⟩
 ·have HR:jfp (chk id l=fe (l.take 0) (l.drop 0)):=ae (jdt h1)
  have q1':((id:Int)==0)=false:=jdG.2 (by omega);have q2':((l.length:Int)==0)=false:=jdG.2 (by omega);have q3:¬ (l.length:Int) > 8:=by omega
  have hl8:l.length<=8:=by omega
  clear h1;generalize hW:w.alloc (.cells #[.int .u32 (id:Int),.slice a l.length cap] 25)=W at *;go_enter Tryz.func77,Tryz.ntmps77
  go_wp2_with fail;try rw[hW]
  clear hW;go_loopw [24] (fun i wr=>∃ k:Nat,k<=l.length/\i=.int .i64 (k:Int)/\chk id l=fe (l.take k) (l.drop k)/\Below W.heap.size W wr) (fun i _=>l.length-(intOf i).toNat)
  case atStart=>exact⟨0,by omega,rfl,HR.o,jdv _ _⟩
  case round =>
   obtain⟨k,hk,rfl,kL,az⟩:=hrel;have HF:=ae kL;have HB:=ae az;have bF:=az.size;clear kL az HR;by_cases aB:k<l.length
   ·obtain⟨b,off,rfl,hb,x0,x1,x2,x3⟩:=(HS.o.kept HB.o).at aB
    have HT:=ae (HF.o.trans (KQ aB));have hlt':(k:Int)<(l.length:Int):=(by omega);have hkc:(k:Int)<=(cap:Int):=(by omega);have jbE:(0:Int)<=(k:Int):=(by omega);have hktn:((k:Int)).toNat=k:=(by omega);have hdcap:¬ cap=0:=(by omega);have cU:=ae (HS.o.take (k:=k) (by omega));generalize l[k]=f at *;obtain⟨f0,f1,f2,f3⟩:=f;simp only at *;have d1:=(HB.o.cell (p:=⟨w.heap.size,1,none⟩) hz).trans c1;have qt:=am wr (.cells #[.int .u32 (f0:Int),.string f1,.int .u8 (f2:Int),.bool f3] 81);have e1:=(qt.cell (p:=⟨w.heap.size,1,none⟩) (jdS hz bF)).trans d1;obtain⟨g0,g1,g2,g3⟩:=iU wr (.int .u32 (f0:Int)) (.string f1) (.int .u8 (f2:Int)) (.bool f3) 81;have aO:=ae (HB.o.trans (qt.mono bF));have Kq:=ae (fun m=>Hg (wK ((cU.o.kept HB.o).kept qt) m) (f0,f1,f2,f3));unfold pX at Kq;simp only at Kq;generalize gg (l.take k) (f0,f1,f2,f3)=R at *;have jw:(wr.alloc (.cells #[.int .u32 (f0:Int),.string f1,.int .u8 (f2:Int),.bool f3] 81)).heap.size=wr.heap.size+1:=jdx _ _;clear qt;go_wp2_with fail;generalize hV:wr.alloc (.cells #[.int .u32 (f0:Int),.string f1,.int .u8 (f2:Int),.bool f3] 81)=V at *;clear hV x0 x1 x2 x3
    have em:jfp (∀ n W',Below V.heap.size (V.drewN n) W'->(W'.cell? ⟨w.heap.size,1,none⟩=some (.slice (some ⟨b,off,none⟩) l.length cap)/\W'.cell? ⟨wr.heap.size,0,none⟩=some (.int .u32 (f0:Int))/\W'.cell? ⟨wr.heap.size,1,none⟩=some (.string f1)/\W'.cell? ⟨wr.heap.size,2,none⟩=some (.int .u8 (f2:Int))/\W'.cell? ⟨wr.heap.size,3,none⟩=some (.bool f3))/\Below W.heap.size W W'):=ae (fun n W' h=>by
     have hb':Below V.heap.size V W':=(ap (jdv _ _) n).trans h;exact⟨⟨(hb'.cell (p:=⟨w.heap.size,1,none⟩) (show w.heap.size<_ by omega)).trans e1,(hb'.cell (p:=⟨wr.heap.size,0,none⟩) (show wr.heap.size<_ by omega)).trans g0,(hb'.cell (p:=⟨wr.heap.size,1,none⟩) (show wr.heap.size<_ by omega)).trans g1,(hb'.cell (p:=⟨wr.heap.size,2,none⟩) (show wr.heap.size<_ by omega)).trans g2,(hb'.cell (p:=⟨wr.heap.size,3,none⟩) (show wr.heap.size<_ by omega)).trans g3⟩,aO.o.trans (hb'.mono aO.o.size)⟩)
    go_region_held3 (fun w'=>w'.cell? ⟨w.heap.size,1,none⟩=some (.slice (some ⟨b,off,none⟩) l.length cap)/\w'.cell? ⟨wr.heap.size,0,none⟩=some (.int .u32 (f0:Int))/\w'.cell? ⟨wr.heap.size,1,none⟩=some (.string f1)/\w'.cell? ⟨wr.heap.size,2,none⟩=some (.int .u8 (f2:Int))/\w'.cell? ⟨wr.heap.size,3,none⟩=some (.bool f3)) (first | assumption | go_keep) (first | (go_at_call 116;refine(Kq.o _).mono ?_;rintro e w2 ⟨rfl,aE⟩;obtain⟨FV,xO⟩:=em.o _ _ aE;have gm:=ae xO;clear xO aE))
    clear FV e1 g0 g1 g2 g3 d1 c0 c1;by_cases hR:R=0
    ·rw[jdu hR]at HT
     subst hR;go_wp2_with fail;go_roundw
     case rel=>exact⟨k+1,by omega,by go_num,HT.o,gm.o⟩
     case measure=>simp[intOf];omega
    ·rw[jdt hR]at HT
     have hR':((R:Int) != 0)=true:=by simp[hR]
     clear hR;go_wp2_with fail;go_ret
     rw[HT.o];exact⟨rfl,ai ce.o gm.o⟩
   ·obtain rfl:k=l.length:=by omega
    have gj:¬ ((l.length:Nat):Int)<(l.length:Int):=(by omega);have HT:=ae (HF.o.trans (QM l));clear HF;go_wp2_with fail;go_ret
    rw[HT.o];exact⟨rfl,ai ce.o HB.o⟩
theorem lA{w:World}{ops:Array Oper}{o:Oper}{a:Act}{K:Act->World->Prop}{Q:Exit->Act->World->Prop}{E:Prop}(ex:o.guard=none)(s x:Operand)
  (ho:o.op=.call { callee:=.builtin .append,args:=#[s,x],argTypes:=#[23,23] })
  (base B2:Nat) (v vx:Value) (l0 l:List Fd) (hs:a.eval s=v) (aA:fD w base v l0) (hx:a.eval x=vx) (fG:fD w B2 vx l) (hp:0<l.length)
  (hbytes:l0.length+l.length<=100000) (aJ:base<=w.heap.size)
  (h:∀ v' w',fD w' base v' (l0++l)->Below base w w'->K (a.put o.dst v') w') :
  if Region.wanted o (yielded ops a.tmps)=true then Oper.wp Tryz.prog o a w K Q else E:=by
 obtain⟨i0,hi,ct,hz1',bv⟩:=jdP jaz;unfold fD at fG;obtain⟨g,cap,rfl,hB,hg⟩:=World.ownsRow.form fG hp;have hc:∀ j u,(fx l)[j]?=some u->w.cell? ((⟨g,0,none⟩:Addr).add j)=some u:=fun j u hj=>fG.cells (g:=g) rfl j u hj
 unfold fD at aA;refine step_append_lies (P:=Tryz.prog) w ex s x 23 ho base 81 i0 (.agg #[.int .u32 0,.string ⟨#[]⟩,.int .u8 0,.bool false]) 4 32 Tryz.underlying23 hi ct hz1' bv rfl (by decide) v l0.length (fx l0) hs aA ⟨g,0,none⟩ l.length cap (fx l) hx (by rw[jP]) hc (yd _) hp (by unfold maxLen;omega) (by omega) aJ _ rfl ?_;intro g' cap' w' o1 g1 _ _;refine h _ w' ?_ ((jdv base w).grown g1 aJ (fun k hk=>(aA.lt k hk).1));unfold fD;rw[AU,jdy];exact o1
theorem rx{B:Nat}{w:World}(h:B<=w.heap.size)(o:Obj):B<=(w.alloc o).heap.size:=by rw[jdx];omega
theorem qd{w w1:World}{B p:Nat}(h:Below B w w1)(hp:B<=p)(x y:Value):Below B w ((w1.setCell ⟨p,0,none⟩ x).setCell ⟨p,1,none⟩ y):=(h.setCell hp _).setCell hp _
theorem DZ{w1:World}{B p:Nat}{v:Value}{l:List Fd}(h:fD w1 B v l)(hp:p<B)(x y:Value):fD ((w1.setCell ⟨p,0,none⟩ x).setCell ⟨p,1,none⟩ y) B v l :=
 Fr.own (((Fr.refl p w1.heap.size w1).set 0 x).set 1 y) h hp
theorem mg{c:Cl}(h:aT c):(gG c).length<=74:=by
 have hl:=h.size;unfold gG;split
 ·rcases h with rfl | ⟨n,rfl,h1⟩ | ⟨n,rfl,h1⟩ | ⟨s,rfl,h1,h2⟩<;>first | (have:=fq h1;unfold wv at this;simp only;omega) | (simp_all [nul])
 ·split
  ·simp
  ·have:=bM (n:=c.2.2.length) (by omega)
   rw[jdy];omega
theorem Xk(st:Stt):yh st<4:=by unfold yh;split<;>split<;>omega
theorem nS{st:Stt}(h1:aT st.lo)(h2:aT st.hi)(hn:∃ n:Nat,st.nulls=(n:Int)/\n<=1000000)(w:World):Calls Tryz.prog 84 #[ux st] w (dw w (et st)):=by
 obtain⟨n,hn,LH⟩:=hn;obtain⟨r,nu,so,hi,lo,hh⟩:=st;simp only at hn h1 h2;subst hn;have HC0:=ae (qc n (by omega));have QC:=ae (DY ⟨r,(n:Int),so,hi,lo,hh⟩);have Zo:=ae (DX h1);have HH0:=ae (DX h2);have UL:=mg h1;have Aa:=mg h2;have hu:=bM (n:=n) (by omega);have HE:jfp (et ⟨r,(n:Int),so,hi,lo,hh⟩=uv n++[yh ⟨r,(n:Int),so,hi,lo,hh⟩]++((if so=true then gG lo else [])++(if hi=true then gG hh else []))):=ae (by unfold et;rw[jd1]);unfold ux at QC ⊢;have ce:=ae (am w (.cells #[.int .i64 r,.int .i64 (n:Int),.bool so,.bool hi,.int .u8 (lo.1:Int),.int .i64 lo.2.1,.string (ak lo.2.2),.int .u8 (hh.1:Int),.int .i64 hh.2.1,.string (ak hh.2.2)] 54));have hz:w.heap.size<(w.alloc (.cells #[.int .i64 r,.int .i64 (n:Int),.bool so,.bool hi,.int .u8 (lo.1:Int),.int .i64 lo.2.1,.string (ak lo.2.2),.int .u8 (hh.1:Int),.int .i64 hh.2.1,.string (ak hh.2.2)] 54)).heap.size:=by rw[jdx];omega
 have jW:=jdW w (.cells #[.int .i64 r,.int .i64 (n:Int),.bool so,.bool hi,.int .u8 (lo.1:Int),.int .i64 lo.2.1,.string (ak lo.2.2),.int .u8 (hh.1:Int),.int .i64 hh.2.1,.string (ak hh.2.2)] 54);generalize hW:w.alloc (.cells #[.int .i64 r,.int .i64 (n:Int),.bool so,.bool hi,.int .u8 (lo.1:Int),.int .i64 lo.2.1,.string (ak lo.2.2),.int .u8 (hh.1:Int),.int .i64 hh.2.1,.string (ak hh.2.2)] 54)=W at *;generalize lo.1=l0 at *;generalize lo.2.1=l1 at *;generalize ak lo.2.2=l2 at *;generalize hh.1=h0 at *;generalize hh.2.1=h1' at *;generalize ak hh.2.2=h2' at *
 have HT:jfp (∀ U,Below W.heap.size W U->U.cell? ⟨w.heap.size,0,none⟩=some (.int .i64 r)/\U.cell? ⟨w.heap.size,1,none⟩=some (.int .i64 (n:Int))/\U.cell? ⟨w.heap.size,2,none⟩=some (.bool so)/\U.cell? ⟨w.heap.size,3,none⟩=some (.bool hi)/\U.cell? ⟨w.heap.size,4,none⟩=some (.int .u8 (l0:Int))/\U.cell? ⟨w.heap.size,5,none⟩=some (.int .i64 l1)/\U.cell? ⟨w.heap.size,6,none⟩=some (.string l2)/\U.cell? ⟨w.heap.size,7,none⟩=some (.int .u8 (h0:Int))/\U.cell? ⟨w.heap.size,8,none⟩=some (.int .i64 h1')/\U.cell? ⟨w.heap.size,9,none⟩=some (.string h2')):=ae (fun U hb=>by
  have hU:=(hb.block w.heap.size hz).trans jW;refine⟨?_,?_,?_,?_,?_,?_,?_,?_,?_,?_⟩<;>(rw[ay hU];rfl))
 clear jW
 have HC:jfp (∀ U,Below W.heap.size W U->Calls Tryz.prog 81 #[.int .i64 (n:Int)] U fun e w'=>∃ v,e=.returned v/\aD w' W.heap.size v (uv n)/\Below U.heap.size U w'/\Below W.heap.size W w'/\(w'.cell? ⟨w.heap.size,0,none⟩=some (.int .i64 r)/\w'.cell? ⟨w.heap.size,1,none⟩=some (.int .i64 (n:Int))/\w'.cell? ⟨w.heap.size,2,none⟩=some (.bool so)/\w'.cell? ⟨w.heap.size,3,none⟩=some (.bool hi)/\w'.cell? ⟨w.heap.size,4,none⟩=some (.int .u8 (l0:Int))/\w'.cell? ⟨w.heap.size,5,none⟩=some (.int .i64 l1)/\w'.cell? ⟨w.heap.size,6,none⟩=some (.string l2)/\w'.cell? ⟨w.heap.size,7,none⟩=some (.int .u8 (h0:Int))/\w'.cell? ⟨w.heap.size,8,none⟩=some (.int .i64 h1')/\w'.cell? ⟨w.heap.size,9,none⟩=some (.string h2'))):=ae (fun U hU=>by
  refine(HC0.o U).mono ?_;rintro e w' ⟨⟨v,rfl,ho⟩,hb⟩;have aE:=ai hU hb;exact⟨v,rfl,be ho hU.size,hb,aE,HT.o _ aE⟩)
 have HF:jfp (∀ U,Below W.heap.size W U->Calls Tryz.prog 132 #[.agg #[.int .i64 r,.int .i64 (n:Int),.bool so,.bool hi,.int .u8 (l0:Int),.int .i64 l1,.string l2,.int .u8 (h0:Int),.int .i64 h1',.string h2']] U fun e w'=>e=.returned (.int .u8 (yh ⟨r,(n:Int),so,hi,lo,hh⟩:Int))/\Below U.heap.size U w'/\Below W.heap.size W w'/\(w'.cell? ⟨w.heap.size,0,none⟩=some (.int .i64 r)/\w'.cell? ⟨w.heap.size,1,none⟩=some (.int .i64 (n:Int))/\w'.cell? ⟨w.heap.size,2,none⟩=some (.bool so)/\w'.cell? ⟨w.heap.size,3,none⟩=some (.bool hi)/\w'.cell? ⟨w.heap.size,4,none⟩=some (.int .u8 (l0:Int))/\w'.cell? ⟨w.heap.size,5,none⟩=some (.int .i64 l1)/\w'.cell? ⟨w.heap.size,6,none⟩=some (.string l2)/\w'.cell? ⟨w.heap.size,7,none⟩=some (.int .u8 (h0:Int))/\w'.cell? ⟨w.heap.size,8,none⟩=some (.int .i64 h1')/\w'.cell? ⟨w.heap.size,9,none⟩=some (.string h2'))):=ae (fun U hU=>by
  refine(QC.o U).mono ?_;rintro e w' ⟨rfl,hb⟩;have aE:=ai hU hb;exact⟨rfl,hb,aE,HT.o _ aE⟩)
 clear HC0 QC;generalize yh ⟨r,(n:Int),so,hi,lo,hh⟩=fg at *;generalize uv n=P at *;obtain⟨x0,x1,x2,x3,x4,x5,x6,x7,x8,x9⟩:=HT.o W (jdv _ _);go_enter Tryz.func84,Tryz.ntmps84
 go_wp2_with fail;try rw[hW]
 clear hW;have hBW:Below W.heap.size W W:=jdv _ _
 go_region_held3 (fun w'=>w'.cell? ⟨w.heap.size,0,none⟩=some (.int .i64 r)/\w'.cell? ⟨w.heap.size,1,none⟩=some (.int .i64 (n:Int))/\w'.cell? ⟨w.heap.size,2,none⟩=some (.bool so)/\w'.cell? ⟨w.heap.size,3,none⟩=some (.bool hi)/\w'.cell? ⟨w.heap.size,4,none⟩=some (.int .u8 (l0:Int))/\w'.cell? ⟨w.heap.size,5,none⟩=some (.int .i64 l1)/\w'.cell? ⟨w.heap.size,6,none⟩=some (.string l2)/\w'.cell? ⟨w.heap.size,7,none⟩=some (.int .u8 (h0:Int))/\w'.cell? ⟨w.heap.size,8,none⟩=some (.int .i64 h1')/\w'.cell? ⟨w.heap.size,9,none⟩=some (.string h2')) (first | (refine⟨?_,?_,?_,?_,?_,?_,?_,?_,?_,?_⟩<;>assumption) | go_keep) (first
  | (go_at_call 81;refine(HC.o _ ?_).mono ?_;(first | exact ap hBW _ | exact ap KD _ | exact KD);rintro e w2 ⟨v2,rfl,eZ,aE,UW,⟨y0,y1,y2,y3,y4,y5,y6,y7,y8,y9⟩⟩;have du:=ae eZ;clear eZ)
  | (go_at_call 132;refine(HF.o _ ?_).mono ?_;(first | exact ap UW _ | exact UW);rintro e w3 ⟨rfl,aS,KD,⟨z0,z1,z2,z3,z4,z5,z6,z7,z8,z9⟩⟩;have dh:=ae (du.o.kept aS);clear du aS)
  | (go_at_call 132;refine(HF.o _ ?_).mono ?_;(first | exact ap hBW _ | exact ap UW _ | exact UW);rintro e w3 ⟨rfl,aS,KD,⟨z0,z1,z2,z3,z4,z5,z6,z7,z8,z9⟩⟩)
  | (refine wM (by rfl) _ _ (by rfl) W.heap.size _ _ P [fg] (by rfl) ?_ (by rfl) ?_ ?_ ?_ ?_;exact dh.o.kept (am _ _);exact(cG _ fg).sv;(simp only[jd6];omega);exact jdF KD.size (rx (jdw _) _);intro v4 w4 o4 b4 g4 e4;have bK:=(KD.alloc KD.size _).trans b4;obtain⟨q0,q1,q2,q3,q4,q5,q6,q7,q8,q9⟩:=HT.o _ bK;have eR:=ae o4;have cx:=ae bK;clear g4 e4 b4 bK o4)
  | fail)
 clear y0 y1 y2 y3 y4 y5 y6 y7 y8 y9 z0 z1 z2 z3 z4 z5 z6 z7 z8 z9 x0 x1 x2 x3 x4 x5 x6 x7 x8 x9 aE UW KD HC HF dh;have hPl:P.length<=10:=hu
 have BZ:jfp (∀(so' hi':Bool) v' w',so=so'->hi=hi'->aD w' W.heap.size v' (P++[fg]++(if so'=true then gG lo else [])++(if hi'=true then gG hh else []))->Below W.heap.size W w'->dw w (et ⟨r,(n:Int),so,hi,lo,hh⟩) (.returned v') w'):=ae (fun so' hi' v' w' e1 e2 ho hb=>by
  rw[HE.o,e1,e2];refine⟨⟨_,rfl,be ?_ ce.o.size⟩,ai ce.o hb⟩;have h9:=ho;rw[jdL]at h9;exact h9)
 have hx:(so=true∨so=false):=by cases so<;>simp
 rcases hx with UX | UX
 all_goals (have hy:(hi=true∨hi=false):=by cases hi<;>simp)
 all_goals rcases hy with Kn | Kn
 ·rw[UX]at q2
  rw[Kn]at q3;go_wp2_with fail;refine(Zo.o _).mono ?_;rintro e w5 ⟨⟨v5,rfl,o5⟩,bD⟩;have dE:=ae (eR.o.kept bD);have rZ:=ae o5.sv;have aR:=ae (ai cx.o bD);clear o5 bD q0 q1 q2 q3 q4 q5 q6 q7 q8 q9;go_wp2_with (first | (at_builtin;refine aV rfl _ _ rfl W.heap.size _ _ (P++[fg]) (gG lo) rfl dE.o rfl rZ.o ?d1a ?d1b ?_))
  case d1a=>simp only[jdy,jd6];omega
  case d1b=>exact aR.o.size
  intro v6 w6 o6 b6 _ _;have ey:=aR.o.trans b6;obtain⟨q0,q1,q2,q3,q4,q5,q6,q7,q8,q9⟩:=HT.o _ ey;have mT:jfp (aD w6 W.heap.size v6 (P++[fg]++gG lo)):=ae (by simpa using o6);have ja:=ae ey;clear o6 b6 ey;rw[Kn]at q3;go_wp2_with fail;refine(HH0.o _).mono ?_;rintro e w7 ⟨⟨v7,rfl,o7⟩,ji⟩;have iD:=ae (mT.o.kept ji);have Qv:=ae o7.sv;have io:=ae (ai ja.o ji);clear o7 ji q0 q1 q2 q3 q4 q5 q6 q7 q8 q9;go_wp2_with (first | (at_builtin;refine aV rfl _ _ rfl W.heap.size _ _ (P++[fg]++gG lo) (gG hh) rfl iD.o rfl Qv.o ?d2a ?d2b ?_))
  case d2a=>simp only[jdy,jd6];omega
  case d2b=>exact io.o.size
  intro v8 w8 o8 b8 _ _;have lD:=io.o.trans b8;obtain⟨q0,q1,q2,q3,q4,q5,q6,q7,q8,q9⟩:=HT.o _ lD;have HO8:jfp (aD w8 W.heap.size v8 (P++[fg]++gG lo++gG hh)):=ae (by simpa using o8);have xD:=ae lD;clear o8 b8 lD;go_wp2_with fail;go_ret
  refine BZ.o true true _ _ UX Kn ?_ xD.o;have h9:=HO8.o;simpa using h9
 ·rw[UX]at q2
  rw[Kn]at q3;go_wp2_with fail;refine(Zo.o _).mono ?_;rintro e w5 ⟨⟨v5,rfl,o5⟩,bD⟩;have dE:=ae (eR.o.kept bD);have rZ:=ae o5.sv;have aR:=ae (ai cx.o bD);clear o5 bD q0 q1 q2 q3 q4 q5 q6 q7 q8 q9;go_wp2_with (first | (at_builtin;refine aV rfl _ _ rfl W.heap.size _ _ (P++[fg]) (gG lo) rfl dE.o rfl rZ.o ?d3a ?d3b ?_))
  case d3a=>simp only[jdy,jd6];omega
  case d3b=>exact aR.o.size
  intro v6 w6 o6 b6 _ _;have ey:=aR.o.trans b6;obtain⟨q0,q1,q2,q3,q4,q5,q6,q7,q8,q9⟩:=HT.o _ ey;have mT:jfp (aD w6 W.heap.size v6 (P++[fg]++gG lo)):=ae (by simpa using o6);have ja:=ae ey;clear o6 b6 ey;rw[Kn]at q3;go_wp2_with fail;go_ret
  refine BZ.o true false _ _ UX Kn ?_ ja.o;have h9:=mT.o;simpa using h9
 ·rw[UX]at q2
  rw[Kn]at q3;go_wp2_with fail;refine(HH0.o _).mono ?_;rintro e w5 ⟨⟨v5,rfl,o5⟩,bD⟩;have dE:=ae (eR.o.kept bD);have rZ:=ae o5.sv;have aR:=ae (ai cx.o bD);clear o5 bD q0 q1 q2 q3 q4 q5 q6 q7 q8 q9;go_wp2_with (first | (at_builtin;refine aV rfl _ _ rfl W.heap.size _ _ (P++[fg]) (gG hh) rfl dE.o rfl rZ.o ?d4a ?d4b ?_))
  case d4a=>simp only[jdy,jd6];omega
  case d4b=>exact aR.o.size
  intro v6 w6 o6 b6 _ _;have ey:=aR.o.trans b6;obtain⟨q0,q1,q2,q3,q4,q5,q6,q7,q8,q9⟩:=HT.o _ ey;have mT:jfp (aD w6 W.heap.size v6 (P++[fg]++gG hh)):=ae (by simpa using o6);have ja:=ae ey;clear o6 b6 ey;go_wp2_with fail;go_ret
  refine BZ.o false true _ _ UX Kn ?_ ja.o;have h9:=mT.o;simpa using h9
 ·rw[UX]at q2
  rw[Kn]at q3;go_wp2_with fail;go_ret
  refine BZ.o false false _ _ UX Kn ?_ cx.o;have h9:=eR.o;simpa using h9
end Go.Proofs.YtpljdjmpamjkhaaGreatDoor
