import Derived.Test.YtpljdjmpamjkhaaGreatDoorUas
import Derived.Test.YtpljdjmpamjkhaaGreatDoorUao
set_option linter.unusedVariables false
set_option linter.unusedSimpArgs false
set_option maxRecDepth 100000
set_option maxHeartbeats 8000000
namespace Go.Proofs.YtpljdjmpamjkhaaGreatDoor
open Go.RowKit Go.Lib
abbrev Row:=List Cl
def cV(rs:List Row)(k:Nat):List Cl:=rs.map fun r=>r.getD k nul
def lV(fs:List Fd)(k:Nat):Nat:=(fs.map fun f=>f.2.2.1).getD k 0
theorem lW{fs:List Fd}{k:Nat}(h:k<fs.length):lV fs k=fs[k].2.2.1:=by
 unfold lV;rw[List.getD_eq_getElem?_getD,List.getElem?_map,List.getElem?_eq_getElem h];rfl
theorem dr(rs:List Row)(k:Nat):(cV rs k).length=rs.length:=jdk _
def gx(c:Cl):List Nat:=if c.1=1 then uv (zigzag c.2.1) else if c.1=2 then [(c.2.1 % 256).toNat] else uv c.2.2.length++c.2.2
def yk(st:Stt):Nat:=(if st.some=true then 1 else 0)+(if st.high=true then 2 else 0)
def ew(st:Stt):List Nat:=uv st.nulls.toNat++[yk st]++((if st.some=true then gx st.lo else [])++(if st.high=true then gx st.hi else []))
def nps(g n:Nat):Nat:=(n+g-1) / g
def prt(g:Nat)(rs:List Row)(j:Nat):List Row:=(rs.drop (j*g)).take g
def Ja(g:Nat)(rs:List Row):List (List Row):=(List.range (nps g rs.length)).map (prt g rs)
def eN(fs:List Fd)(p:List Row)(k:Nat):List Nat:=(List.range k).flatMap fun i=>eo (lV fs i) (cV p i)
def ftK(fs:List Fd)(p:List Row)(k:Nat):List Nat:=(List.range k).flatMap fun i=>uv (eo (lV fs i) (cV p i)).length++ew (cy (cV p i))
def ir(fs:List Fd)(g:Nat)(rs:List Row)(j:Nat):List Nat:=(List.range j).flatMap fun i=>eN fs (prt g rs i) fs.length
def ftJ(fs:List Fd)(g:Nat)(rs:List Row)(j:Nat):List Nat:=(List.range j).flatMap fun i=>ftK fs (prt g rs i) fs.length
def fX(id:Nat)(fs:List Fd)(rs:List Row)(g:Nat):List Nat:=dB id fs++uv rs.length++uv g++ftJ fs g rs (nps g rs.length)
def lX(id:Nat)(fs:List Fd)(rs:List Row)(g:Nat):List Nat:=ir fs g rs (nps g rs.length)++fX id fs rs g++le4 (fX id fs rs g).length
def ex(id:Nat)(fs:List Fd)(rs:List Row)(g:Nat):List Nat:=[67,70,49]++lX id fs rs g
theorem lY(fs:List Fd)(p:List Row)(k:Nat):eN fs p (k+1)=eN fs p k++eo (lV fs k) (cV p k):=by
 unfold eN;rw[jey,jet];simp
theorem nM(fs:List Fd)(p:List Row)(k:Nat):ftK fs p (k+1)=ftK fs p k++(uv (eo (lV fs k) (cV p k)).length++ew (cy (cV p k))):=by
 unfold ftK;rw[jey,jet];simp
theorem sX(fs:List Fd)(g:Nat)(rs:List Row)(j:Nat):ir fs g rs (j+1)=ir fs g rs j++eN fs (prt g rs j) fs.length:=by
 unfold ir;rw[jey,jet];simp
theorem xe(fs:List Fd)(g:Nat)(rs:List Row)(j:Nat):ftJ fs g rs (j+1)=ftJ fs g rs j++ftK fs (prt g rs j) fs.length:=by
 unfold ftJ;rw[jey,jet];simp
def kB(fs:List Fd):List Row->Nat
 | []=>0
 | r::t=>if jL fs r=0 then kB fs t else jL fs r
def dU(id:Nat)(fs:List Fd)(rs:List Row)(g:Int):Nat :=
 if chk id fs≠0 then chk id fs else if g<1∨64<g then 1 else if 256<rs.length then 5 else kB fs rs
def bU(id:Nat)(fs:List Fd)(rs:List Row)(g:Int):List Nat×Nat :=
 if dU id fs rs g≠0 then ([],dU id fs rs g) else if 65536<(bL (ex id fs rs g.toNat)).length then ([],4) else (bL (ex id fs rs g.toNat),0)
abbrev S3:=List Nat×List Nat×Bool
def lZ(lo hi:Nat)(b:List Nat):Bool:=!decide ((gt b).2.2=0/\lo<=(gt b).1/\(gt b).1<=hi)
def gd(lo hi:Nat)(b:List Nat):Nat:=if lZ lo hi b=true then 0 else (gt b).1
def dE(b:List Nat):List Nat:=b.drop (gt b).2.1
theorem rr(lo hi:Nat)(b:List Nat):gd lo hi b<=hi:=by
 unfold gd lZ;split
 ·omega
 ·next h =>
  simp only[Bool.not_eq_true',jeL,Decidable.not_not]at h;exact h.2.2
theorem Lm{lo hi:Nat}{b:List Nat}(h:lZ lo hi b=false):lo<=gd lo hi b:=by
 unfold gd;rw[jde (by rw[h];decide)];unfold lZ at h;simp only[Bool.not_eq_false',jd2]at h;exact h.2.1
theorem pZ{lo hi n:Nat}(h1:lo<=n)(h2:n<=hi)(h3:n<18446744073709551616)(r:List Nat):lZ lo hi (uv n++r)=false/\gd lo hi (uv n++r)=n/\dE (uv n++r)=r:=by
 have hg:=mu n h3 r
 have hb:lZ lo hi (uv n++r)=false:=by
  unfold lZ;rw[hg];simp[h1,h2]
 refine⟨hb,?_,?_⟩
 ·unfold gd
  rw[hb,hg];rfl
 ·unfold dE
  rw[hg,jdY]
def iu(k n:Nat)(s:S3):List Cl×S3 :=
 ((gm k (s.1.take (gd 0 s.1.length s.2.1)) n).getD [],
  (s.1.drop (gd 0 s.1.length s.2.1),dE s.2.1,(s.2.2 || lZ 0 s.1.length s.2.1) || (gm k (s.1.take (gd 0 s.1.length s.2.1)) n).isNone))
def qa(l:List Cl)(s:S3):S3:=if (ew (cy l)).isPrefixOf s.2.1=true then (s.1,s.2.1.drop (ew (cy l)).length,s.2.2) else (s.1,s.2.1,true)
def psh(rs:List Row)(l:List Cl):List Row:=rs.mapIdx fun i r=>r++(l[i]?).toList
def grS(n:Nat)(st:List Row×List Stt×S3)(f:Fd):List Row×List Stt×S3 :=
 (psh st.1 (iu f.2.2.1 n st.2.2).1,st.2.1++[cy (iu f.2.2.1 n st.2.2).1],qa (iu f.2.2.1 n st.2.2).1 (iu f.2.2.1 n st.2.2).2)
def grK(fs:List Fd)(n:Nat)(s:S3)(k:Nat):List Row×List Stt×S3:=(fs.take k).foldl (grS n) (List.replicate n [],[],s)
theorem xf(fs:List Fd)(n:Nat)(s:S3):grK fs n s 0=(List.replicate n [],[],s):=rfl
theorem rt{fs:List Fd}{k:Nat}(h:k<fs.length)(n:Nat)(s:S3):grK fs n s (k+1)=grS n (grK fs n s k) fs[k]:=by
 unfold grK;rw[jdx h,List.foldl_append];rfl
abbrev Gr:=List Row×List Stt
def fiJ(fs:List Fd)(g tot:Nat)(s:S3):Nat->List Gr×S3
 | 0=>([],s)
 | j+1=>((fiJ fs g tot s j).1++[((grK fs (min (tot-j*g) g) (fiJ fs g tot s j).2 fs.length).1,(grK fs (min (tot-j*g) g) (fiJ fs g tot s j).2 fs.length).2.1)],
   (grK fs (min (tot-j*g) g) (fiJ fs g tot s j).2 fs.length).2.2)
def gX(fs:List Fd)(c r:List Nat):List Gr×S3 :=
 fiJ fs (gd 1 64 (dE r)) (gd 0 256 r) (c,dE (dE r),lZ 0 256 r || lZ 1 64 (dE r)) (nps (gd 1 64 (dE r)) (gd 0 256 r))
def iK(b:List Nat):Option (Nat×List Fd×Nat×List Gr) :=
 if b.length<4 then none else
 if b.length-4<leN (b.drop (b.length-4)) then none else
 match da ((b.take (b.length-4)).drop (b.length-4-leN (b.drop (b.length-4))))with
 | .error _=>none
 | .ok ((id,fs),r)=>if (gX fs (b.take (b.length-4-leN (b.drop (b.length-4)))) r).2.2.2=true then none
  else some (id,fs,gd 1 64 (dE r),(gX fs (b.take (b.length-4-leN (b.drop (b.length-4)))) r).1)
def bQ(gs:List Gr):List Row:=(gs.map Prod.fst).flatten
def js(b:List Nat):Except Nat (Nat×List Fd×Nat×List Gr) :=
 match et b with
 | none=>.error 101
 | some t=>if t.take 3=[67,70,49] then (match iK (t.drop 3)with
   | none=>.error 102
   | some x=>if bU x.1 x.2.1 (bQ x.2.2.2) x.2.2.1=(b,0) then .ok x else .error 102) else .error 100
theorem tS{l:List Cl}{s:S3}(h:(qa l s).2.2=false):s.2.2=false/\s.2.1=ew (cy l)++(qa l s).2.1/\(qa l s).1=s.1:=by
 unfold qa at *;split at h
 ·next hp =>
  rw[jdf hp];refine⟨h,?_,rfl⟩;obtain⟨t,ht⟩:=jeu.1 hp;show _=_++List.drop _ _
  rw[← ht,jdY]
 ·cases h
theorem WT{l:List Cl}{c b:List Nat}{fl:Bool}:qa l (c,ew (cy l)++b,fl)=(c,b,fl):=by
 unfold qa;rw[jdf (jeu.2 ⟨b,rfl⟩),jdY]
theorem tT{k n:Nat}{s:S3}(h:(iu k n s).2.2.2=false):s.2.2=false/\∃ l c,(iu k n s).1=l/\gm k c n=some l/\s.1=c++(iu k n s).2.1:=by
 unfold iu at *;simp only[Bool.or_eq_false_iff]at h;refine⟨h.1.1,?_⟩;cases hr:gm k (s.1.take (gd 0 s.1.length s.2.1)) n with
 | none=>rw[hr]at h;simp at h
 | some l=>exact⟨l,_,rfl,hr,(jeD _ _).symm⟩
theorem xg{n:Nat}{st:List Row×List Stt×S3}{f:Fd}(h:(grS n st f).2.2.2.2=false):st.2.2.2.2=false/\(iu f.2.2.1 n st.2.2).2.2.2=false:=by
 unfold grS at h;have h1:=(tS h).1;exact⟨(tT h1).1,h1⟩
theorem tU{n:Nat}:∀{fs:List Fd} {st:List Row×List Stt×S3},(fs.foldl (grS n) st).2.2.2.2=false->st.2.2.2.2=false
 | [],_,h=>h
 | f::t,st,h=>(xg (tU (fs:=t) h)).1
theorem Jb{fs:List Fd}{n:Nat}{s:S3}{k:Nat}(h:(grK fs n s k).2.2.2.2=false):s.2.2=false:=tU (st:=(List.replicate n [],[],s)) h
theorem qb{fs:List Fd}{g tot:Nat}{s:S3}:∀{m j:Nat},j<=m->(fiJ fs g tot s m).2.2.2=false->(fiJ fs g tot s j).2.2.2=false:=by
 intro m;induction m with
 | zero =>
  intro j hj h;obtain rfl:j=0:=by omega
  exact h
 | succ m ih =>
  intro j hj h;rcases jdJ m j with h1 | h1
  ·obtain rfl:j=m+1:=by omega
   exact h
  ·exact ih h1 (Jb (k:=fs.length) h)
def fK(n:Nat)(cols:List (List Cl)):List Row:=(List.range n).map fun i=>cols.map fun l=>l.getD i nul
theorem xh(n:Nat):fK n []=List.replicate n []:=by
 unfold fK;apply List.ext_getElem?
 intro i;by_cases h:i<n
 ·simp[h]
 ·simp[h]
theorem gy(n:Nat)(cols:List (List Cl)):(fK n cols).length=n:=by simp[fK]
theorem mE{n:Nat}{cols:List (List Cl)}{i:Nat}(h:i<n):(fK n cols)[i]?=some (cols.map fun l=>l.getD i nul):=by
 unfold fK;simp[h]
theorem xi{n:Nat}{cols:List (List Cl)}{l:List Cl}(h:l.length=n):psh (fK n cols) l=fK n (cols++[l]):=by
 unfold psh;apply List.ext_getElem?
 intro i;rw[List.getElem?_mapIdx];by_cases hi:i<n
 ·rw[mE hi,mE hi,List.getElem?_eq_getElem (by omega)]
  simp[List.getD_eq_getElem?_getD,List.getElem?_eq_getElem (show i<l.length by omega)]
 ·rw[List.getElem?_eq_none (l:=fK n cols) (by rw[gy];omega),List.getElem?_eq_none (l:=fK n (cols++[l])) (by rw[gy];omega)]
  rfl
theorem DY{n:Nat}{cols:List (List Cl)}{k:Nat}(hk:k<cols.length)(h:cols[k].length=n):cV (fK n cols) k=cols[k]:=by
 unfold cV;apply List.ext_getElem?
 intro i;rw[List.getElem?_map];by_cases hi:i<n
 ·rw[mE hi,List.getElem?_eq_getElem (show i<cols[k].length by omega)]
  simp[List.getD_eq_getElem?_getD,List.getElem?_eq_getElem hk,List.getElem?_eq_getElem (show i<cols[k].length by omega)]
 ·rw[List.getElem?_eq_none (by rw[gy];omega),List.getElem?_eq_none (by omega)]
  rfl
theorem DZ{p:List Row}{m:Nat}(h:∀ r∈p,r.length=m):fK p.length ((List.range m).map (cV p))=p:=by
 apply List.ext_getElem?
 intro i;by_cases hi:i<p.length
 ·rw[mE hi,List.getElem?_eq_getElem hi,jdT]
  congr 1
  have hm:=h _ (jdl hi);apply List.ext_getElem?
  intro k;rw[List.getElem?_map];by_cases hk:k<m
  ·rw[List.getElem?_range hk,List.getElem?_eq_getElem (by omega)]
   simp[cV,List.getD_eq_getElem?_getD,List.getElem?_eq_getElem hi,List.getElem?_eq_getElem (show k<p[i].length by omega)]
  ·rw[List.getElem?_eq_none (by simp;omega),List.getElem?_eq_none (by omega)]
   rfl
 ·rw[List.getElem?_eq_none (by rw[gy];omega),List.getElem?_eq_none (by omega)]
def Whl(fs:List Fd)(n:Nat)(cols:List (List Cl)):Prop:=∀ i (h:i<cols.length),Col (lV fs i) cols[i]/\cols[i].length=n
theorem Nl{fs:List Fd}{n:Nat}{s:S3}(hn:n<=64)(hk:∀ f∈fs,1<=f.2.2.1/\f.2.2.1<=3)(hb:Bs s.1):∀{k:Nat},k<=fs.length->(grK fs n s k).2.2.2.2=false ->
  ∃ cols,cols.length=k/\Whl fs n cols/\(grK fs n s k).1=fK n cols/\(grK fs n s k).2.1=cols.map cy/\Bs (grK fs n s k).2.2.1:=by
 intro k;induction k with
 | zero=>exact fun _ _=>⟨[],rfl,fun i h=>by simp at h,(xh n).symm,rfl,hb⟩
 | succ k ih =>
  intro pu h;rw[rt (by omega)]at h ⊢;obtain⟨h1,h2⟩:=xg h;obtain⟨cols,hc,hw,hr,hs,xS⟩:=ih (by omega) h1;obtain⟨_,l,c,e1,e2,e3⟩:=tT h2;have Vz:Bs c:=fun x hx=>xS x (by rw[e3];exact List.mem_append_left _ hx)
  have FV:=hk _ (jdl (show k<fs.length by omega));obtain⟨q1,q2,_⟩:=(lQ FV (by omega) Vz).1 e2;refine⟨cols++[l],by simp[hc],?_,?_,?_,?_⟩
  ·intro i hi
   rcases jdJ i cols.length with h3 | h3
   ·rw[je6 h3]
    exact hw i h3
   ·obtain rfl:i=cols.length:=by simp at hi;omega
    rw[List.getElem_append_right (jdh _)];simp only[jeH,jeV];rw[hc,lW (by omega)];exact⟨q1,q2⟩
  ·unfold grS
   simp only[e1,hr];exact xi q2
  ·unfold grS
   simp only[e1,hs,jdC,jdQ,jed]
  ·have h4:=(tS (l:=(iu fs[k].2.2.1 n (grK fs n s k).2.2).1) (s:=(iu fs[k].2.2.1 n (grK fs n s k).2.2).2) h).2.2
   unfold grS;simp only;rw[h4];exact fun x hx=>xS x (by rw[e3];exact List.mem_append_right _ hx)
theorem qc(n:Nat)(hn:n<9223372036854775808)(w:World):Calls Tryz.prog 81 #[.int .i64 (n:Int)] w (dw w (uv n)):=by
 have HV:=ae (dI n (by omega));have Kj:IntKind.u64.wrap (n:Int)=(n:Int):=by rw[jdL];omega
 go_enter Tryz.func81,Tryz.ntmps81
 go_wp2_with fail;refine(HV.o _).mono ?_;rintro e w1 ⟨⟨v1,rfl,o1⟩,aH⟩;go_wp2_with fail;go_ret
 exact⟨⟨_,rfl,o1⟩,aH⟩
theorem ru{l:List Nat}(h:Bs l):df (am l)=l:=by
 unfold df;rw[bC];exact fo h
theorem Ea{s:List Nat}(c:Nat)(n:Int)(hc:(c:Int)≠1)(kF:(c:Int)≠2)(hl:s.length<=64)(h8:Bs s)(w:World) :
  Calls Tryz.prog 133 #[.agg #[.int .u8 (c:Int),.int .i64 n,.string (am s)]] w (dw w (uv s.length++s)):=by
 have HE:=ae (ru h8);have jx:(am s).size=s.length:=bm s;have HV:=ae (qc s.length (by omega));have uK:=bJ (n:=s.length) (by omega);have h1:((c:Int)==1)=false:=jdt.2 hc;have h2:((c:Int)==2)=false:=jdt.2 kF;obtain⟨x0,x1,x2⟩:=dH w (.int .u8 (c:Int)) (.int .i64 n) (.string (am s)) 52;have hz:w.heap.size<(w.alloc (.cells #[.int .u8 (c:Int),.int .i64 n,.string (am s)] 52)).heap.size:=by rw[jdi];omega
 have cE:=ae (ak w (.cells #[.int .u8 (c:Int),.int .i64 n,.string (am s)] 52));generalize hW:w.alloc (.cells #[.int .u8 (c:Int),.int .i64 n,.string (am s)] 52)=W at *
 have em:jfb (∀ n W',Below W.heap.size (W.drewN n) W'->W'.cell? ⟨w.heap.size,2,none⟩=some (.string (am s))/\Below W.heap.size W W'/\W.heap.size<=W'.heap.size):=ae (fun n W' h=>by
  have hb':Below W.heap.size W W':=(ar (jdg _ _) n).trans h;exact⟨(hb'.cell (p:=⟨w.heap.size,2,none⟩) hz).trans x2,hb',hb'.size⟩)
 generalize hP:uv s.length=P at *;have hPp:0<P.length:=by rw[← hP];exact mt _
 clear hP hc kF h8;go_enter Tryz.func133,Tryz.ntmps133
 go_wp2_with fail;try rw[hW]
 clear hW
 go_region_held3 (fun w'=>w'.cell? ⟨w.heap.size,2,none⟩=some (.string (am s))) (go_keep) (first
  | (go_at_call 81;refine(HV.o _).mono ?_;rintro e w2 ⟨⟨v2,rfl,cz⟩,aE⟩;obtain⟨Kv,oW,hm3⟩:=em.o _ _ aE;have KA:=ae oW;have du:=ae cz;clear aE oW cz)
  | (refine mU (by rfl) _ _ (by rfl) W.heap.size _ P (am s) (by rfl) ?_ (by rfl) ?_ ?_ ?_;exact(be du.o (by simp));omega;omega;intro v3 w3 o3 b3;have sg:=(b3.cell (p:=⟨w.heap.size,2,none⟩) hz).trans Kv;have cZ:=ae o3;have bN:=ae (KA.o.trans b3);clear o3 b3))
 all_goals go_wp2_with fail
 all_goals go_ret
 all_goals rw[HE.o]at cZ
 all_goals exact⟨⟨_,rfl,be cZ.o cE.o.size⟩,ai cE.o bN.o⟩
theorem Nm{n:Int}(h:I64 n)(w:World):Calls Tryz.prog 133 #[.agg #[.int .u8 1,.int .i64 n,.string ⟨#[]⟩]] w (dw w (wv n)):=by
 have HV:=ae (gW h);obtain⟨x0,x1,x2⟩:=dH w (.int .u8 1) (.int .i64 n) (.string ⟨#[]⟩) 52;have cE:=ae (ak w (.cells #[.int .u8 1,.int .i64 n,.string ⟨#[]⟩] 52));go_enter Tryz.func133,Tryz.ntmps133
 go_wp2_with fail;refine(HV.o _).mono ?_;rintro e w1 ⟨⟨v1,rfl,o1⟩,aH⟩;have HO:=ae o1;have HB:=ae aH;clear o1 aH;go_wp2_with fail;go_ret
 exact⟨⟨_,rfl,be HO.o cE.o.size⟩,ai cE.o HB.o⟩
theorem Nn{n:Nat}(h:n<2)(w:World):Calls Tryz.prog 133 #[.agg #[.int .u8 2,.int .i64 (n:Int),.string ⟨#[]⟩]] w (dw w [n]):=by
 obtain⟨x0,x1,x2⟩:=dH w (.int .u8 2) (.int .i64 (n:Int)) (.string ⟨#[]⟩) 52;have Kj:IntKind.u8.wrap (n:Int)=(n:Int):=by rw[IntKind.wrap_u8];omega
 have cE:=ae (ak w (.cells #[.int .u8 2,.int .i64 (n:Int),.string ⟨#[]⟩] 52));have HL:=ae (cF (w.alloc (.cells #[.int .u8 2,.int .i64 (n:Int),.string ⟨#[]⟩] 52)) n);have aR:=ae (ak (w.alloc (.cells #[.int .u8 2,.int .i64 (n:Int),.string ⟨#[]⟩] 52)) (.cells #[.int .u8 (n:Int)] 5));have hz:(w.alloc (.cells #[.int .u8 2,.int .i64 (n:Int),.string ⟨#[]⟩] 52)).heap.size=w.heap.size+1:=jdi _ _;go_enter Tryz.func133,Tryz.ntmps133
 go_wp2_with fail;go_ret
 have H1:=be HL.o cE.o.size;rw[hz]at H1;exact⟨⟨_,rfl,H1⟩,ai cE.o aR.o⟩
theorem Eb{c:Cl}(h:aV c)(w:World):Calls Tryz.prog 133 #[.agg #[.int .u8 (c.1:Int),.int .i64 c.2.1,.string (am c.2.2)]] w (dw w (gx c)):=by
 rcases h with rfl | ⟨n,rfl,h1⟩ | ⟨n,rfl,h1⟩ | ⟨s,rfl,h1,h2⟩
 ·have:=Ea (s:=[]) 0 0 (by decide) (by decide) (by simp) (fun x hx=>by simp at hx) w
  exact this
 ·have:=Nm h1 w
  exact this
 ·have:=Nn h1 w
  have e:gx ((2,(n:Int),[]):Cl)=[n]:=by
   unfold gx;rw[jde (by simp),jdf (by simp)];simp only;congr 1
   omega
  rw[e];exact this
 ·have:=Ea (s:=s) 3 0 (by decide) (by decide) h1 h2 w
  exact this
theorem Ec(st:Stt)(w:World):Calls Tryz.prog 132 #[uC st] w fun e w'=>e=.returned (.int .u8 (yk st:Int))/\Below w.heap.size w w':=by
 obtain⟨r,n,so,hi,lo,hh⟩:=st;unfold uC yk
 have hc:∀ i,i<10->(w.alloc (.cells #[.int .i64 r,.int .i64 n,.bool so,.bool hi,.int .u8 (lo.1:Int),.int .i64 lo.2.1,.string (am lo.2.2),.int .u8 (hh.1:Int),.int .i64 hh.2.1,.string (am hh.2.2)] 54)).cell? ⟨w.heap.size,i,none⟩=(celS ⟨r,n,so,hi,lo,hh⟩)[i]?:=fun i hi=>by
  rw[ay (jdH w _)];simp[celS]
 have c2:=hc 2 (by omega);have c3:=hc 3 (by omega);simp only[celS,List.getElem?_cons_succ,List.getElem?_cons_zero]at c2 c3;have HB:=ae (ak w (.cells #[.int .i64 r,.int .i64 n,.bool so,.bool hi,.int .u8 (lo.1:Int),.int .i64 lo.2.1,.string (am lo.2.2),.int .u8 (hh.1:Int),.int .i64 hh.2.1,.string (am hh.2.2)] 54));clear hc;cases so<;>cases hi
 all_goals
  go_enter Tryz.func132,Tryz.ntmps132
  go_wp2_with fail;go_ret
  exact⟨by first | rfl | kernel_rfl,HB.o⟩
theorem zL{w:World}{v:Value}{l:List Fd}(hs:Sf w v l)(id:Nat):Calls Tryz.prog 77 #[.agg #[.int .u32 (id:Int),v]] w fun e w'=>e=.returned (.int .i64 (chk id l:Int))/\Below w.heap.size w w':=by
 obtain⟨a,cap,rfl,aY,bx⟩:=hs.form;have cE:=ae (ak w (.cells #[.int .u32 (id:Int),.slice a l.length cap] 25));have HS:=ae (hs.kept (ak w (.cells #[.int .u32 (id:Int),.slice a l.length cap] 25)));obtain⟨c0,c1⟩:=bF w (.int .u32 (id:Int)) (.slice a l.length cap) 25;have hz:w.heap.size<(w.alloc (.cells #[.int .u32 (id:Int),.slice a l.length cap] 25)).heap.size:=by rw[jdi];omega
 clear hs;by_cases h1:id=0∨l.length=0∨8<l.length
 ·have HR:jfb (chk id l=1):=ae (jdf h1)
  clear c0 c1 hz HS;by_cases q1:id=0
  ·subst q1
   go_enter Tryz.func77,Tryz.ntmps77
   go_wp2_with fail;go_ret
   rw[HR.o];exact⟨rfl,cE.o⟩
  ·have q1':((id:Int)==0)=false:=by simp[q1]
   by_cases q2:l.length=0
   ·have q2':((l.length:Int)==0)=true:=by simp[q2]
    clear h1 q1 q2;go_enter Tryz.func77,Tryz.ntmps77
    go_wp2_with fail;go_ret
    rw[HR.o];exact⟨rfl,cE.o⟩
   ·have q2':((l.length:Int)==0)=false:=by simp[q2]
    have q3:(l.length:Int) > 8:=(by omega);clear h1 q1 q2;go_enter Tryz.func77,Tryz.ntmps77
    go_wp2_with fail;go_ret
    rw[HR.o];exact⟨rfl,cE.o⟩
 ·have HR:jfb (chk id l=fe (l.take 0) (l.drop 0)):=ae (jde h1)
  have q1':((id:Int)==0)=false:=jdt.2 (by omega);have q2':((l.length:Int)==0)=false:=jdt.2 (by omega);have q3:¬ (l.length:Int) > 8:=by omega
  have hl8:l.length<=8:=by omega
  clear h1;generalize hW:w.alloc (.cells #[.int .u32 (id:Int),.slice a l.length cap] 25)=W at *;go_enter Tryz.func77,Tryz.ntmps77
  go_wp2_with fail;try rw[hW]
  clear hW;go_loopw [24] (fun i wr=>∃ k:Nat,k<=l.length/\i=.int .i64 (k:Int)/\chk id l=fe (l.take k) (l.drop k)/\Below W.heap.size W wr) (fun i _=>l.length-(intOf i).toNat)
  case atStart=>exact⟨0,by omega,rfl,HR.o,jdg _ _⟩
  case round =>
   obtain⟨k,hk,rfl,lz,az⟩:=hrel;have HF:=ae lz;have HB:=ae az;have bP:=az.size;clear lz az HR;by_cases aC:k<l.length
   ·obtain⟨b,off,rfl,hb,x0,x1,x2,x3⟩:=(HS.o.kept HB.o).at aC
    have HT:=ae (HF.o.trans (KN aC));have hlt':(k:Int)<(l.length:Int):=(by omega);have hkc:(k:Int)<=(cap:Int):=(by omega);have jbr:(0:Int)<=(k:Int):=(by omega);have hktn:((k:Int)).toNat=k:=(by omega);have hdcap:¬ cap=0:=(by omega);have cT:=ae (HS.o.take (k:=k) (by omega));generalize l[k]=f at *;obtain⟨f0,f1,f2,f3⟩:=f;simp only at *;have d1:=(HB.o.cell (p:=⟨w.heap.size,1,none⟩) hz).trans c1;have qt:=ak wr (.cells #[.int .u32 (f0:Int),.string f1,.int .u8 (f2:Int),.bool f3] 81);have e1:=(qt.cell (p:=⟨w.heap.size,1,none⟩) (jdD hz bP)).trans d1;obtain⟨g0,g1,g2,g3⟩:=iW wr (.int .u32 (f0:Int)) (.string f1) (.int .u8 (f2:Int)) (.bool f3) 81;have aO:=ae (HB.o.trans (qt.mono bP));have Ko:=ae (fun m=>Hc (wP ((cT.o.kept HB.o).kept qt) m) (f0,f1,f2,f3));unfold pW at Ko;simp only at Ko;generalize fY (l.take k) (f0,f1,f2,f3)=R at *;have jx:(wr.alloc (.cells #[.int .u32 (f0:Int),.string f1,.int .u8 (f2:Int),.bool f3] 81)).heap.size=wr.heap.size+1:=jdi _ _;clear qt;go_wp2_with fail;generalize hV:wr.alloc (.cells #[.int .u32 (f0:Int),.string f1,.int .u8 (f2:Int),.bool f3] 81)=V at *;clear hV x0 x1 x2 x3
    have em:jfb (∀ n W',Below V.heap.size (V.drewN n) W'->(W'.cell? ⟨w.heap.size,1,none⟩=some (.slice (some ⟨b,off,none⟩) l.length cap)/\W'.cell? ⟨wr.heap.size,0,none⟩=some (.int .u32 (f0:Int))/\W'.cell? ⟨wr.heap.size,1,none⟩=some (.string f1)/\W'.cell? ⟨wr.heap.size,2,none⟩=some (.int .u8 (f2:Int))/\W'.cell? ⟨wr.heap.size,3,none⟩=some (.bool f3))/\Below W.heap.size W W'):=ae (fun n W' h=>by
     have hb':Below V.heap.size V W':=(ar (jdg _ _) n).trans h;exact⟨⟨(hb'.cell (p:=⟨w.heap.size,1,none⟩) (show w.heap.size<_ by omega)).trans e1,(hb'.cell (p:=⟨wr.heap.size,0,none⟩) (show wr.heap.size<_ by omega)).trans g0,(hb'.cell (p:=⟨wr.heap.size,1,none⟩) (show wr.heap.size<_ by omega)).trans g1,(hb'.cell (p:=⟨wr.heap.size,2,none⟩) (show wr.heap.size<_ by omega)).trans g2,(hb'.cell (p:=⟨wr.heap.size,3,none⟩) (show wr.heap.size<_ by omega)).trans g3⟩,aO.o.trans (hb'.mono aO.o.size)⟩)
    go_region_held3 (fun w'=>w'.cell? ⟨w.heap.size,1,none⟩=some (.slice (some ⟨b,off,none⟩) l.length cap)/\w'.cell? ⟨wr.heap.size,0,none⟩=some (.int .u32 (f0:Int))/\w'.cell? ⟨wr.heap.size,1,none⟩=some (.string f1)/\w'.cell? ⟨wr.heap.size,2,none⟩=some (.int .u8 (f2:Int))/\w'.cell? ⟨wr.heap.size,3,none⟩=some (.bool f3)) (first | assumption | go_keep) (first | (go_at_call 116;refine(Ko.o _).mono ?_;rintro e w2 ⟨rfl,aE⟩;obtain⟨FV,xS⟩:=em.o _ _ aE;have ge:=ae xS;clear xS aE))
    clear FV e1 g0 g1 g2 g3 d1 c0 c1;by_cases hR:R=0
    ·rw[jdf hR]at HT
     subst hR;go_wp2_with fail;go_roundw
     case rel=>exact⟨k+1,by omega,by go_num,HT.o,ge.o⟩
     case measure=>simp[intOf];omega
    ·rw[jde hR]at HT
     have hR':((R:Int) != 0)=true:=by simp[hR]
     clear hR;go_wp2_with fail;go_ret
     rw[HT.o];exact⟨rfl,ai cE.o ge.o⟩
   ·obtain rfl:k=l.length:=by omega
    have gL:¬ ((l.length:Nat):Int)<(l.length:Int):=(by omega);have HT:=ae (HF.o.trans (Qx l));clear HF;go_wp2_with fail;go_ret
    rw[HT.o];exact⟨rfl,ai cE.o HB.o⟩
theorem Jc{w:World}{v:Value}{l:List Fd}(hs:Sf w v l)(hl:l.length<=1000) :
  Calls Tryz.prog 55 #[v] w fun e w'=>(∃ v',e=.returned v'/\dT w' w.heap.size v' l)/\Below w.heap.size w w':=by
 have HS:=ae hs;obtain⟨ad,cap,rfl,h1,h2,h3,_⟩:=hs;cases ad with
 | none =>
  have hc:=h3 rfl;subst hc;have qn:l=[]:=jdF (by omega);subst qn;have hq:(binOp .eql 23 (.slice none 0 0) (.slice none 0 0)).run Tryz.prog w=.ok (.bool true) w:=jeM w 23 81 none 0 0 0 0 Tryz.underlying23;go_enter Tryz.func55,Tryz.ntmps55
  go_wp2_with fail;go_ret
  exact⟨⟨_,rfl,dT.nil _ _⟩,jdg _ _⟩
 | some ad =>
  have HN:jfb (dT (w.alloc (.cells #[] 81)) w.heap.size (.slice (some ⟨w.heap.size,0,none⟩) 0 0) []):=ae (pX w [] (by unfold maxLen;simp));have gE:=ae (HS.o.kept (ak w (.cells #[] 81)));clear h3;have hq:(binOp .eql 23 (.slice (some ad) l.length cap) (.slice none 0 0)).run Tryz.prog w=.ok (.bool false) w:=jeM w 23 81 (some ad) l.length cap 0 0 Tryz.underlying23;go_enter Tryz.func55,Tryz.ntmps55
  go_wp2_with (first | (at_builtin;refine sM rfl _ _ rfl w.heap.size _ _ [] l rfl ?q1 rfl ?q2 ?c1 ?c2 ?_))
  case q1=>exact HN.o
  case q2=>exact gE.o
  case c1=>simp;omega
  case c2=>rw[jdi];omega
  intro v3 w3 o3 aQ;have cZ:=ae o3;have bN:=ae ((ak w (.cells #[] 81)).trans aQ);clear o3 aQ;go_wp2_with fail;go_ret
  exact⟨⟨_,rfl,cZ.o⟩,bN.o⟩
theorem lv{w:World}{ops:Array Oper}{o:Oper}{a:Act}{K:Act->World->Prop}{Q:Exit->Act->World->Prop}{E:Prop}(eg:o.guard=none)(s x:Operand)
  (ho:o.op=.call { callee:=.builtin .append,args:=#[s,x],argTypes:=#[23,23] })
  (base B2:Nat) (v vx:Value) (l0 l:List Fd) (hs:a.eval s=v) (aA:dT w base v l0) (hx:a.eval x=vx) (ft:dT w B2 vx l) (hp:0<l.length)
  (hbytes:l0.length+l.length<=100000) (aI:base<=w.heap.size)
  (h:∀ v' w',dT w' base v' (l0++l)->Below base w w'->K (a.put o.dst v') w') :
  if Region.wanted o (yielded ops a.tmps)=true then Oper.wp Tryz.prog o a w K Q else E:=by
 obtain⟨i0,hi,cm,hz1',bn⟩:=jdA Sa;unfold dT at ft;obtain⟨g,cap,rfl,hB,hg⟩:=World.ownsRow.form ft hp;have hc:∀ j u,(eD l)[j]?=some u->w.cell? ((⟨g,0,none⟩:Addr).add j)=some u:=fun j u hj=>ft.cells (g:=g) rfl j u hj
 unfold dT at aA;refine step_append_lies (P:=Tryz.prog) w eg s x 23 ho base 81 i0 (.agg #[.int .u32 0,.string ⟨#[]⟩,.int .u8 0,.bool false]) 4 32 Tryz.underlying23 hi cm hz1' bn rfl (by decide) v l0.length (eD l0) hs aA ⟨g,0,none⟩ l.length cap (eD l) hx (by rw[iq]) hc (pm _) hp (by unfold maxLen;omega) (by omega) aI _ rfl ?_;intro g' cap' w' o1 g1 _ _;refine h _ w' ?_ ((jdg base w).grown g1 aI (fun k hk=>(aA.lt k hk).1));unfold dT;rw[qY,jdj];exact o1
theorem rx{B:Nat}{w:World}(h:B<=w.heap.size)(o:Obj):B<=(w.alloc o).heap.size:=by rw[jdi];omega
theorem qd{w w1:World}{B p:Nat}(h:Below B w w1)(hp:B<=p)(x y:Value):Below B w ((w1.setCell ⟨p,0,none⟩ x).setCell ⟨p,1,none⟩ y):=(h.setCell hp _).setCell hp _
theorem Ed{w1:World}{B p:Nat}{v:Value}{l:List Fd}(h:dT w1 B v l)(hp:p<B)(x y:Value):dT ((w1.setCell ⟨p,0,none⟩ x).setCell ⟨p,1,none⟩ y) B v l :=
 Fr.own (((Fr.refl p w1.heap.size w1).set 0 x).set 1 y) h hp
theorem mb{c:Cl}(h:aV c):(gx c).length<=74:=by
 have hl:=h.size;unfold gx;split
 ·rcases h with rfl | ⟨n,rfl,h1⟩ | ⟨n,rfl,h1⟩ | ⟨s,rfl,h1,h2⟩<;>first | (have:=fh h1;unfold wv at this;simp only;omega) | (simp_all [nul])
 ·split
  ·simp
  ·have:=bJ (n:=c.2.2.length) (by omega)
   rw[jdj];omega
theorem WU(st:Stt):yk st<4:=by unfold yk;split<;>split<;>omega
theorem nN{st:Stt}(h1:aV st.lo)(h2:aV st.hi)(hn:∃ n:Nat,st.nulls=(n:Int)/\n<=1000000)(w:World):Calls Tryz.prog 84 #[uC st] w (dw w (ew st)):=by
 obtain⟨n,hn,Zi⟩:=hn;obtain⟨r,nu,so,hi,lo,hh⟩:=st;simp only at hn h1 h2;subst hn;have HC0:=ae (qc n (by omega));have Qm:=ae (Ec ⟨r,(n:Int),so,hi,lo,hh⟩);have YY:=ae (Eb h1);have HH0:=ae (Eb h2);have Za:=mb h1;have BZ:=mb h2;have hu:=bJ (n:=n) (by omega);have HE:jfb (ew ⟨r,(n:Int),so,hi,lo,hh⟩=uv n++[yk ⟨r,(n:Int),so,hi,lo,hh⟩]++((if so=true then gx lo else [])++(if hi=true then gx hh else []))):=ae (by unfold ew;rw[jdM]);unfold uC at Qm ⊢;have cE:=ae (ak w (.cells #[.int .i64 r,.int .i64 (n:Int),.bool so,.bool hi,.int .u8 (lo.1:Int),.int .i64 lo.2.1,.string (am lo.2.2),.int .u8 (hh.1:Int),.int .i64 hh.2.1,.string (am hh.2.2)] 54));have hz:w.heap.size<(w.alloc (.cells #[.int .i64 r,.int .i64 (n:Int),.bool so,.bool hi,.int .u8 (lo.1:Int),.int .i64 lo.2.1,.string (am lo.2.2),.int .u8 (hh.1:Int),.int .i64 hh.2.1,.string (am hh.2.2)] 54)).heap.size:=by rw[jdi];omega
 have jU:=jdH w (.cells #[.int .i64 r,.int .i64 (n:Int),.bool so,.bool hi,.int .u8 (lo.1:Int),.int .i64 lo.2.1,.string (am lo.2.2),.int .u8 (hh.1:Int),.int .i64 hh.2.1,.string (am hh.2.2)] 54);generalize hW:w.alloc (.cells #[.int .i64 r,.int .i64 (n:Int),.bool so,.bool hi,.int .u8 (lo.1:Int),.int .i64 lo.2.1,.string (am lo.2.2),.int .u8 (hh.1:Int),.int .i64 hh.2.1,.string (am hh.2.2)] 54)=W at *;generalize lo.1=l0 at *;generalize lo.2.1=l1 at *;generalize am lo.2.2=l2 at *;generalize hh.1=h0 at *;generalize hh.2.1=h1' at *;generalize am hh.2.2=h2' at *
 have HT:jfb (∀ U,Below W.heap.size W U->U.cell? ⟨w.heap.size,0,none⟩=some (.int .i64 r)/\U.cell? ⟨w.heap.size,1,none⟩=some (.int .i64 (n:Int))/\U.cell? ⟨w.heap.size,2,none⟩=some (.bool so)/\U.cell? ⟨w.heap.size,3,none⟩=some (.bool hi)/\U.cell? ⟨w.heap.size,4,none⟩=some (.int .u8 (l0:Int))/\U.cell? ⟨w.heap.size,5,none⟩=some (.int .i64 l1)/\U.cell? ⟨w.heap.size,6,none⟩=some (.string l2)/\U.cell? ⟨w.heap.size,7,none⟩=some (.int .u8 (h0:Int))/\U.cell? ⟨w.heap.size,8,none⟩=some (.int .i64 h1')/\U.cell? ⟨w.heap.size,9,none⟩=some (.string h2')):=ae (fun U hb=>by
  have hU:=(hb.block w.heap.size hz).trans jU;refine⟨?_,?_,?_,?_,?_,?_,?_,?_,?_,?_⟩<;>(rw[ay hU];rfl))
 clear jU
 have HC:jfb (∀ U,Below W.heap.size W U->Calls Tryz.prog 81 #[.int .i64 (n:Int)] U fun e w'=>∃ v,e=.returned v/\aD w' W.heap.size v (uv n)/\Below U.heap.size U w'/\Below W.heap.size W w'/\(w'.cell? ⟨w.heap.size,0,none⟩=some (.int .i64 r)/\w'.cell? ⟨w.heap.size,1,none⟩=some (.int .i64 (n:Int))/\w'.cell? ⟨w.heap.size,2,none⟩=some (.bool so)/\w'.cell? ⟨w.heap.size,3,none⟩=some (.bool hi)/\w'.cell? ⟨w.heap.size,4,none⟩=some (.int .u8 (l0:Int))/\w'.cell? ⟨w.heap.size,5,none⟩=some (.int .i64 l1)/\w'.cell? ⟨w.heap.size,6,none⟩=some (.string l2)/\w'.cell? ⟨w.heap.size,7,none⟩=some (.int .u8 (h0:Int))/\w'.cell? ⟨w.heap.size,8,none⟩=some (.int .i64 h1')/\w'.cell? ⟨w.heap.size,9,none⟩=some (.string h2'))):=ae (fun U hU=>by
  refine(HC0.o U).mono ?_;rintro e w' ⟨⟨v,rfl,ho⟩,hb⟩;have aE:=ai hU hb;exact⟨v,rfl,be ho hU.size,hb,aE,HT.o _ aE⟩)
 have HF:jfb (∀ U,Below W.heap.size W U->Calls Tryz.prog 132 #[.agg #[.int .i64 r,.int .i64 (n:Int),.bool so,.bool hi,.int .u8 (l0:Int),.int .i64 l1,.string l2,.int .u8 (h0:Int),.int .i64 h1',.string h2']] U fun e w'=>e=.returned (.int .u8 (yk ⟨r,(n:Int),so,hi,lo,hh⟩:Int))/\Below U.heap.size U w'/\Below W.heap.size W w'/\(w'.cell? ⟨w.heap.size,0,none⟩=some (.int .i64 r)/\w'.cell? ⟨w.heap.size,1,none⟩=some (.int .i64 (n:Int))/\w'.cell? ⟨w.heap.size,2,none⟩=some (.bool so)/\w'.cell? ⟨w.heap.size,3,none⟩=some (.bool hi)/\w'.cell? ⟨w.heap.size,4,none⟩=some (.int .u8 (l0:Int))/\w'.cell? ⟨w.heap.size,5,none⟩=some (.int .i64 l1)/\w'.cell? ⟨w.heap.size,6,none⟩=some (.string l2)/\w'.cell? ⟨w.heap.size,7,none⟩=some (.int .u8 (h0:Int))/\w'.cell? ⟨w.heap.size,8,none⟩=some (.int .i64 h1')/\w'.cell? ⟨w.heap.size,9,none⟩=some (.string h2'))):=ae (fun U hU=>by
  refine(Qm.o U).mono ?_;rintro e w' ⟨rfl,hb⟩;have aE:=ai hU hb;exact⟨rfl,hb,aE,HT.o _ aE⟩)
 clear HC0 Qm;generalize yk ⟨r,(n:Int),so,hi,lo,hh⟩=fg at *;generalize uv n=P at *;obtain⟨x0,x1,x2,x3,x4,x5,x6,x7,x8,x9⟩:=HT.o W (jdg _ _);go_enter Tryz.func84,Tryz.ntmps84
 go_wp2_with fail;try rw[hW]
 clear hW;have hBW:Below W.heap.size W W:=jdg _ _
 go_region_held3 (fun w'=>w'.cell? ⟨w.heap.size,0,none⟩=some (.int .i64 r)/\w'.cell? ⟨w.heap.size,1,none⟩=some (.int .i64 (n:Int))/\w'.cell? ⟨w.heap.size,2,none⟩=some (.bool so)/\w'.cell? ⟨w.heap.size,3,none⟩=some (.bool hi)/\w'.cell? ⟨w.heap.size,4,none⟩=some (.int .u8 (l0:Int))/\w'.cell? ⟨w.heap.size,5,none⟩=some (.int .i64 l1)/\w'.cell? ⟨w.heap.size,6,none⟩=some (.string l2)/\w'.cell? ⟨w.heap.size,7,none⟩=some (.int .u8 (h0:Int))/\w'.cell? ⟨w.heap.size,8,none⟩=some (.int .i64 h1')/\w'.cell? ⟨w.heap.size,9,none⟩=some (.string h2')) (first | (refine⟨?_,?_,?_,?_,?_,?_,?_,?_,?_,?_⟩<;>assumption) | go_keep) (first
  | (go_at_call 81;refine(HC.o _ ?_).mono ?_;(first | exact ar hBW _ | exact ar KB _ | exact KB);rintro e w2 ⟨v2,rfl,fx,aE,UE,⟨y0,y1,y2,y3,y4,y5,y6,y7,y8,y9⟩⟩;have du:=ae fx;clear fx)
  | (go_at_call 132;refine(HF.o _ ?_).mono ?_;(first | exact ar UE _ | exact UE);rintro e w3 ⟨rfl,aQ,KB,⟨z0,z1,z2,z3,z4,z5,z6,z7,z8,z9⟩⟩;have cZ:=ae (du.o.kept aQ);clear du aQ)
  | (go_at_call 132;refine(HF.o _ ?_).mono ?_;(first | exact ar hBW _ | exact ar UE _ | exact UE);rintro e w3 ⟨rfl,aQ,KB,⟨z0,z1,z2,z3,z4,z5,z6,z7,z8,z9⟩⟩)
  | (refine wR (by rfl) _ _ (by rfl) W.heap.size _ _ P [fg] (by rfl) ?_ (by rfl) ?_ ?_ ?_ ?_;exact cZ.o.kept (ak _ _);exact(cF _ fg).sv;(simp only[jdS];omega);exact jdq KB.size (rx (jdh _) _);intro v4 w4 o4 b4 g4 e4;have bw:=(KB.alloc KB.size _).trans b4;obtain⟨q0,q1,q2,q3,q4,q5,q6,q7,q8,q9⟩:=HT.o _ bw;have eR:=ae o4;have ce:=ae bw;clear g4 e4 b4 bw o4)
  | fail)
 clear y0 y1 y2 y3 y4 y5 y6 y7 y8 y9 z0 z1 z2 z3 z4 z5 z6 z7 z8 z9 x0 x1 x2 x3 x4 x5 x6 x7 x8 x9 aE UE KB HC HF cZ;have hPl:P.length<=10:=hu
 have Cg:jfb (∀(so' hi':Bool) v' w',so=so'->hi=hi'->aD w' W.heap.size v' (P++[fg]++(if so'=true then gx lo else [])++(if hi'=true then gx hh else []))->Below W.heap.size W w'->dw w (ew ⟨r,(n:Int),so,hi,lo,hh⟩) (.returned v') w'):=ae (fun so' hi' v' w' e1 e2 ho hb=>by
  rw[HE.o,e1,e2];refine⟨⟨_,rfl,be ?_ cE.o.size⟩,ai cE.o hb⟩;have h9:=ho;rw[jdw]at h9;exact h9)
 have hx:(so=true∨so=false):=by cases so<;>simp
 rcases hx with UF | UF
 all_goals (have hy:(hi=true∨hi=false):=by cases hi<;>simp)
 all_goals rcases hy with Kl | Kl
 ·rw[UF]at q2
  rw[Kl]at q3;go_wp2_with fail;refine(YY.o _).mono ?_;rintro e w5 ⟨⟨v5,rfl,o5⟩,br⟩;have dJ:=ae (eR.o.kept br);have sd:=ae o5.sv;have aS:=ae (ai ce.o br);clear o5 br q0 q1 q2 q3 q4 q5 q6 q7 q8 q9;go_wp2_with (first | (at_builtin;refine aU rfl _ _ rfl W.heap.size _ _ (P++[fg]) (gx lo) rfl dJ.o rfl sd.o ?d1a ?d1b ?_))
  case d1a=>simp only[jdj,jdS];omega
  case d1b=>exact aS.o.size
  intro v6 w6 o6 b6 _ _;have dP:=aS.o.trans b6;obtain⟨q0,q1,q2,q3,q4,q5,q6,q7,q8,q9⟩:=HT.o _ dP;have ng:jfb (aD w6 W.heap.size v6 (P++[fg]++gx lo)):=ae (by simpa using o6);have jc:=ae dP;clear o6 b6 dP;rw[Kl]at q3;go_wp2_with fail;refine(HH0.o _).mono ?_;rintro e w7 ⟨⟨v7,rfl,o7⟩,jk⟩;have iy:=ae (ng.o.kept jk);have Qh:=ae o7.sv;have ic:=ae (ai jc.o jk);clear o7 jk q0 q1 q2 q3 q4 q5 q6 q7 q8 q9;go_wp2_with (first | (at_builtin;refine aU rfl _ _ rfl W.heap.size _ _ (P++[fg]++gx lo) (gx hh) rfl iy.o rfl Qh.o ?d2a ?d2b ?_))
  case d2a=>simp only[jdj,jdS];omega
  case d2b=>exact ic.o.size
  intro v8 w8 o8 b8 _ _;have kH:=ic.o.trans b8;obtain⟨q0,q1,q2,q3,q4,q5,q6,q7,q8,q9⟩:=HT.o _ kH;have HO8:jfb (aD w8 W.heap.size v8 (P++[fg]++gx lo++gx hh)):=ae (by simpa using o8);have qo:=ae kH;clear o8 b8 kH;go_wp2_with fail;go_ret
  refine Cg.o true true _ _ UF Kl ?_ qo.o;have h9:=HO8.o;simpa using h9
 ·rw[UF]at q2
  rw[Kl]at q3;go_wp2_with fail;refine(YY.o _).mono ?_;rintro e w5 ⟨⟨v5,rfl,o5⟩,br⟩;have dJ:=ae (eR.o.kept br);have sd:=ae o5.sv;have aS:=ae (ai ce.o br);clear o5 br q0 q1 q2 q3 q4 q5 q6 q7 q8 q9;go_wp2_with (first | (at_builtin;refine aU rfl _ _ rfl W.heap.size _ _ (P++[fg]) (gx lo) rfl dJ.o rfl sd.o ?d3a ?d3b ?_))
  case d3a=>simp only[jdj,jdS];omega
  case d3b=>exact aS.o.size
  intro v6 w6 o6 b6 _ _;have dP:=aS.o.trans b6;obtain⟨q0,q1,q2,q3,q4,q5,q6,q7,q8,q9⟩:=HT.o _ dP;have ng:jfb (aD w6 W.heap.size v6 (P++[fg]++gx lo)):=ae (by simpa using o6);have jc:=ae dP;clear o6 b6 dP;rw[Kl]at q3;go_wp2_with fail;go_ret
  refine Cg.o true false _ _ UF Kl ?_ jc.o;have h9:=ng.o;simpa using h9
 ·rw[UF]at q2
  rw[Kl]at q3;go_wp2_with fail;refine(HH0.o _).mono ?_;rintro e w5 ⟨⟨v5,rfl,o5⟩,br⟩;have dJ:=ae (eR.o.kept br);have sd:=ae o5.sv;have aS:=ae (ai ce.o br);clear o5 br q0 q1 q2 q3 q4 q5 q6 q7 q8 q9;go_wp2_with (first | (at_builtin;refine aU rfl _ _ rfl W.heap.size _ _ (P++[fg]) (gx hh) rfl dJ.o rfl sd.o ?d4a ?d4b ?_))
  case d4a=>simp only[jdj,jdS];omega
  case d4b=>exact aS.o.size
  intro v6 w6 o6 b6 _ _;have dP:=aS.o.trans b6;obtain⟨q0,q1,q2,q3,q4,q5,q6,q7,q8,q9⟩:=HT.o _ dP;have ng:jfb (aD w6 W.heap.size v6 (P++[fg]++gx hh)):=ae (by simpa using o6);have jc:=ae dP;clear o6 b6 dP;go_wp2_with fail;go_ret
  refine Cg.o false true _ _ UF Kl ?_ jc.o;have h9:=ng.o;simpa using h9
 ·rw[UF]at q2
  rw[Kl]at q3;go_wp2_with fail;go_ret
  refine Cg.o false false _ _ UF Kl ?_ ce.o;have h9:=eR.o;simpa using h9
end Go.Proofs.YtpljdjmpamjkhaaGreatDoor
