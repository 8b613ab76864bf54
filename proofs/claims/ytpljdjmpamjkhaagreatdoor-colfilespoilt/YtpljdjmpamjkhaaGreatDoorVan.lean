import Derived.Test.YtpljdjmpamjkhaaGreatDoorVam
set_option linter.unusedVariables false
set_option linter.unusedSimpArgs false
set_option maxRecDepth 100000
set_option maxHeartbeats 8000000
namespace Go.Proofs.YtpljdjmpamjkhaaGreatDoor
open Go.RowKit Go.Lib
abbrev Row:=List Cl
def cY(rs:List Row)(k:Nat):List Cl:=rs.map λr=>r.getD k nul
def mj(fs:List Fd)(k:Nat):Nat:=(fs.map λf=>f.2.2.1).getD k 0
theorem ml{fs:List Fd}{k:Nat}(h:k<fs.length):mj fs k=fs[k].2.2.1:=by
 unfold mj;rw[List.getD_eq_getElem?_getD,List.getElem?_map,List.getElem?_eq_getElem h];rfl
theorem dx(rs:List Row)(k:Nat):(cY rs k).length=rs.length:=jen _
def gJ(c:Cl):List Nat:=if c.1=1 then uv (zigzag c.2.1) else if c.1=2 then [(c.2.1 % 256).toNat] else uv c.2.2.length++c.2.2
def yR(st:Stt):Nat:=(if st.some=true then 1 else 0)+(if st.high=true then 2 else 0)
def eD(st:Stt):List Nat:=uv st.nulls.toNat++[yR st]++((if st.some=true then gJ st.lo else [])++(if st.high=true then gJ st.hi else []))
def nps(g n:Nat):Nat:=(n+g-1) / g
def prt(g:Nat)(rs:List Row)(j:Nat):List Row:=(rs.drop (j*g)).take g
def JL(g:Nat)(rs:List Row):List (List Row):=(List.range (nps g rs.length)).map (prt g rs)
def eU(fs:List Fd)(p:List Row)(k:Nat):List Nat:=(List.range k).flatMap λi=>ey (mj fs i) (cY p i)
def ftK(fs:List Fd)(p:List Row)(k:Nat):List Nat:=(List.range k).flatMap λi=>uv (ey (mj fs i) (cY p i)).length++eD (cA (cY p i))
def iD(fs:List Fd)(g:Nat)(rs:List Row)(j:Nat):List Nat:=(List.range j).flatMap λi=>eU fs (prt g rs i) fs.length
def ftJ(fs:List Fd)(g:Nat)(rs:List Row)(j:Nat):List Nat:=(List.range j).flatMap λi=>ftK fs (prt g rs i) fs.length
def gm(id:Nat)(fs:List Fd)(rs:List Row)(g:Nat):List Nat:=dH id fs++uv rs.length++uv g++ftJ fs g rs (nps g rs.length)
def mn(id:Nat)(fs:List Fd)(rs:List Row)(g:Nat):List Nat:=iD fs g rs (nps g rs.length)++gm id fs rs g++le4 (gm id fs rs g).length
def dy(id:Nat)(fs:List Fd)(rs:List Row)(g:Nat):List Nat:=[67,70,49]++mn id fs rs g
theorem mo(fs:List Fd)(p:List Row)(k:Nat):eU fs p (k+1)=eU fs p k++ey (mj fs k) (cY p k):=by
 unfold eU;rw[jfC,jfw];simp
theorem nZ(fs:List Fd)(p:List Row)(k:Nat):ftK fs p (k+1)=ftK fs p k++(uv (ey (mj fs k) (cY p k)).length++eD (cA (cY p k))):=by
 unfold ftK;rw[jfC,jfw];simp
theorem tA(fs:List Fd)(g:Nat)(rs:List Row)(j:Nat):iD fs g rs (j+1)=iD fs g rs j++eU fs (prt g rs j) fs.length:=by
 unfold iD;rw[jfC,jfw];simp
theorem xH(fs:List Fd)(g:Nat)(rs:List Row)(j:Nat):ftJ fs g rs (j+1)=ftJ fs g rs j++ftK fs (prt g rs j) fs.length:=by
 unfold ftJ;rw[jfC,jfw];simp
def kL(fs:List Fd):List Row->Nat
 | []=>0
 | r::t=>if iO fs r=0 then kL fs t else iO fs r
def eb(id:Nat)(fs:List Fd)(rs:List Row)(g:Int):Nat :=
 if chk id fs≠0 then chk id fs else if g<1∨64<g then 1 else if 256<rs.length then 5 else kL fs rs
def bW(id:Nat)(fs:List Fd)(rs:List Row)(g:Int):List Nat×Nat :=
 if eb id fs rs g≠0 then ([],eb id fs rs g) else if 65536<(bE (dy id fs rs g.toNat)).length then ([],4) else (bE (dy id fs rs g.toNat),0)
abbrev S3:=List Nat×List Nat×Bool
def mq(lo hi:Nat)(b:List Nat):Bool:=!decide ((gt b).2.2=0/\lo<=(gt b).1/\(gt b).1<=hi)
def gy(lo hi:Nat)(b:List Nat):Nat:=if mq lo hi b=true then 0 else (gt b).1
def dK(b:List Nat):List Nat:=b.drop (gt b).2.1
theorem rM(lo hi:Nat)(b:List Nat):gy lo hi b<=hi:=by
 unfold gy mq;split
 ·omega
 ·next h =>
  simp only[Bool.not_eq_true',jfP,Decidable.not_not]at h;exact h.2.2
theorem Me{lo hi:Nat}{b:List Nat}(h:mq lo hi b=false):lo<=gy lo hi b:=by
 unfold gy;rw[jeh (by rw[h];decide)];unfold mq at h;simp only[Bool.not_eq_false',je7]at h;exact h.2.1
theorem qn{lo hi n:Nat}(h1:lo<=n)(h2:n<=hi)(h3:n<18446744073709551616)(r:List Nat):mq lo hi (uv n++r)=false/\gy lo hi (uv n++r)=n/\dK (uv n++r)=r:=by
 have hg:=mH n h3 r
 have hb:mq lo hi (uv n++r)=false:=by
  unfold mq;rw[hg];simp[h1,h2]
 refine⟨hb,?_,?_⟩
 ·unfold gy
  rw[hb,hg];rfl
 ·unfold dK
  rw[hg,je3]
def iE(k n:Nat)(s:S3):List Cl×S3 :=
 ((gF k (s.1.take (gy 0 s.1.length s.2.1)) n).getD [],
  (s.1.drop (gy 0 s.1.length s.2.1),dK s.2.1,(s.2.2 || mq 0 s.1.length s.2.1) || (gF k (s.1.take (gy 0 s.1.length s.2.1)) n).isNone))
def qo(l:List Cl)(s:S3):S3:=if (eD (cA l)).isPrefixOf s.2.1=true then (s.1,s.2.1.drop (eD (cA l)).length,s.2.2) else (s.1,s.2.1,true)
def psh(rs:List Row)(l:List Cl):List Row:=rs.mapIdx λi r=>r++(l[i]?).toList
def grS(n:Nat)(st:List Row×List Stt×S3)(f:Fd):List Row×List Stt×S3 :=
 (psh st.1 (iE f.2.2.1 n st.2.2).1,st.2.1++[cA (iE f.2.2.1 n st.2.2).1],qo (iE f.2.2.1 n st.2.2).1 (iE f.2.2.1 n st.2.2).2)
def grK(fs:List Fd)(n:Nat)(s:S3)(k:Nat):List Row×List Stt×S3:=(fs.take k).foldl (grS n) (List.replicate n [],[],s)
theorem xI(fs:List Fd)(n:Nat)(s:S3):grK fs n s 0=(List.replicate n [],[],s):=rfl
theorem rN{fs:List Fd}{k:Nat}(h:k<fs.length)(n:Nat)(s:S3):grK fs n s (k+1)=grS n (grK fs n s k) fs[k]:=by
 unfold grK;rw[jeA h,List.foldl_append];rfl
abbrev Gr:=List Row×List Stt
def fiJ(fs:List Fd)(g tot:Nat)(s:S3):Nat->List Gr×S3
 | 0=>([],s)
 | j+1=>((fiJ fs g tot s j).1++[((grK fs (min (tot-j*g) g) (fiJ fs g tot s j).2 fs.length).1,(grK fs (min (tot-j*g) g) (fiJ fs g tot s j).2 fs.length).2.1)],
   (grK fs (min (tot-j*g) g) (fiJ fs g tot s j).2 fs.length).2.2)
def io(fs:List Fd)(c r:List Nat):List Gr×S3 :=
 fiJ fs (gy 1 64 (dK r)) (gy 0 256 r) (c,dK (dK r),mq 0 256 r || mq 1 64 (dK r)) (nps (gy 1 64 (dK r)) (gy 0 256 r))
def iW(b:List Nat):Option (Nat×List Fd×Nat×List Gr) :=
 if b.length<4 then none else
 if b.length-4<leN (b.drop (b.length-4)) then none else
 match di ((b.take (b.length-4)).drop (b.length-4-leN (b.drop (b.length-4))))with
 | .error _=>none
 | .ok ((id,fs),r)=>if (io fs (b.take (b.length-4-leN (b.drop (b.length-4)))) r).2.2.2=true then none
  else some (id,fs,gy 1 64 (dK r),(io fs (b.take (b.length-4-leN (b.drop (b.length-4)))) r).1)
def bT(gs:List Gr):List Row:=(gs.map Prod.fst).flatten
def jB(b:List Nat):Except Nat (Nat×List Fd×Nat×List Gr) :=
 match eC b with
 | none=>.error 101
 | some t=>if t.take 3=[67,70,49] then (match iW (t.drop 3)with
   | none=>.error 102
   | some x=>if bW x.1 x.2.1 (bT x.2.2.2) x.2.2.1=(b,0) then .ok x else .error 102) else .error 100
theorem uz{l:List Cl}{s:S3}(h:(qo l s).2.2=false):s.2.2=false/\s.2.1=eD (cA l)++(qo l s).2.1/\(qo l s).1=s.1:=by
 unfold qo at *;split at h
 ·next hp =>
  rw[jei hp];refine⟨h,?_,rfl⟩;obtain⟨t,ht⟩:=jfy.1 hp;show _=_++List.drop _ _
  rw[← ht,je3]
 ·cases h
theorem XZ{l:List Cl}{c b:List Nat}{fl:Bool}:qo l (c,eD (cA l)++b,fl)=(c,b,fl):=by
 unfold qo;rw[jei (jfy.2 ⟨b,rfl⟩),je3]
theorem uA{k n:Nat}{s:S3}(h:(iE k n s).2.2.2=false):s.2.2=false/\∃ l c,(iE k n s).1=l/\gF k c n=some l/\s.1=c++(iE k n s).2.1:=by
 unfold iE at *;simp only[Bool.or_eq_false_iff]at h;refine⟨h.1.1,?_⟩;cases hr:gF k (s.1.take (gy 0 s.1.length s.2.1)) n with
 | none=>rw[hr]at h;simp at h
 | some l=>exact⟨l,_,rfl,hr,(jfF _ _).symm⟩
theorem xJ{n:Nat}{st:List Row×List Stt×S3}{f:Fd}(h:(grS n st f).2.2.2.2=false):st.2.2.2.2=false/\(iE f.2.2.1 n st.2.2).2.2.2=false:=by
 unfold grS at h;have h1:=(uz h).1;exact⟨(uA h1).1,h1⟩
theorem uB{n:Nat}:∀{fs:List Fd} {st:List Row×List Stt×S3},(fs.foldl (grS n) st).2.2.2.2=false->st.2.2.2.2=false
 | [],_,h=>h
 | f::t,st,h=>(xJ (uB (fs:=t) h)).1
theorem JM{fs:List Fd}{n:Nat}{s:S3}{k:Nat}(h:(grK fs n s k).2.2.2.2=false):s.2.2=false:=uB (st:=(List.replicate n [],[],s)) h
theorem qp{fs:List Fd}{g tot:Nat}{s:S3}:∀{m j:Nat},j<=m->(fiJ fs g tot s m).2.2.2=false->(fiJ fs g tot s j).2.2.2=false:=by
 intro m;induction m with
 | zero =>
  intro j hj h;obtain rfl:j=0:=by omega
  exact h
 | succ m ih =>
  intro j hj h;rcases jeM m j with h1 | h1
  ·obtain rfl:j=m+1:=by omega
   exact h
  ·exact ih h1 (JM (k:=fs.length) h)
def fS(n:Nat)(cols:List (List Cl)):List Row:=(List.range n).map λi=>cols.map λl=>l.getD i nul
theorem xK(n:Nat):fS n []=List.replicate n []:=by
 unfold fS;apply List.ext_getElem?
 intro i;by_cases h:i<n
 ·simp[h]
 ·simp[h]
theorem gK(n:Nat)(cols:List (List Cl)):(fS n cols).length=n:=by simp[fS]
theorem mR{n:Nat}{cols:List (List Cl)}{i:Nat}(h:i<n):(fS n cols)[i]?=some (cols.map λl=>l.getD i nul):=by
 unfold fS;simp[h]
theorem xL{n:Nat}{cols:List (List Cl)}{l:List Cl}(h:l.length=n):psh (fS n cols) l=fS n (cols++[l]):=by
 unfold psh;apply List.ext_getElem?
 intro i;rw[List.getElem?_mapIdx];by_cases hi:i<n
 ·rw[mR hi,mR hi,List.getElem?_eq_getElem (by omega)]
  simp[List.getD_eq_getElem?_getD,List.getElem?_eq_getElem (show i<l.length by omega)]
 ·rw[List.getElem?_eq_none (l:=fS n cols) (by rw[gK];omega),List.getElem?_eq_none (l:=fS n (cols++[l])) (by rw[gK];omega)]
  rfl
theorem EM{n:Nat}{cols:List (List Cl)}{k:Nat}(hk:k<cols.length)(h:cols[k].length=n):cY (fS n cols) k=cols[k]:=by
 unfold cY;apply List.ext_getElem?
 intro i;rw[List.getElem?_map];by_cases hi:i<n
 ·rw[mR hi,List.getElem?_eq_getElem (show i<cols[k].length by omega)]
  simp[List.getD_eq_getElem?_getD,List.getElem?_eq_getElem hk,List.getElem?_eq_getElem (show i<cols[k].length by omega)]
 ·rw[List.getElem?_eq_none (by rw[gK];omega),List.getElem?_eq_none (by omega)]
  rfl
theorem EN{p:List Row}{m:Nat}(h:∀ r∈p,r.length=m):fS p.length ((List.range m).map (cY p))=p:=by
 apply List.ext_getElem?
 intro i;by_cases hi:i<p.length
 ·rw[mR hi,List.getElem?_eq_getElem hi,jeW]
  congr 1
  have hm:=h _ (jeo hi);apply List.ext_getElem?
  intro k;rw[List.getElem?_map];by_cases hk:k<m
  ·rw[List.getElem?_range hk,List.getElem?_eq_getElem (by omega)]
   simp[cY,List.getD_eq_getElem?_getD,List.getElem?_eq_getElem hi,List.getElem?_eq_getElem (show k<p[i].length by omega)]
  ·rw[List.getElem?_eq_none (by simp;omega),List.getElem?_eq_none (by omega)]
   rfl
 ·rw[List.getElem?_eq_none (by rw[gK];omega),List.getElem?_eq_none (by omega)]
def Whl(fs:List Fd)(n:Nat)(cols:List (List Cl)):Prop:=∀ i (h:i<cols.length),Col (mj fs i) cols[i]/\cols[i].length=n
theorem Pj{fs:List Fd}{n:Nat}{s:S3}(hn:n<=64)(hk:∀ f∈fs,1<=f.2.2.1/\f.2.2.1<=3)(hb:Bs s.1):∀{k:Nat},k<=fs.length->(grK fs n s k).2.2.2.2=false ->
  ∃ cols,cols.length=k/\Whl fs n cols/\(grK fs n s k).1=fS n cols/\(grK fs n s k).2.1=cols.map cA/\Bs (grK fs n s k).2.2.1:=by
 intro k;induction k with
 | zero=>exact λ_ _=>⟨[],rfl,λi h=>by simp at h,(xK n).symm,rfl,hb⟩
 | succ k ih =>
  intro oF h;rw[rN (by omega)]at h ⊢;obtain⟨h1,h2⟩:=xJ h;obtain⟨cols,hc,hw,hr,hs,yx⟩:=ih (by omega) h1;obtain⟨_,l,c,e1,e2,e3⟩:=uA h2;have WF:Bs c:=λx hx=>yx x (by rw[e3];exact List.mem_append_left _ hx)
  have GH:=hk _ (jeo (show k<fs.length by omega));obtain⟨q1,q2,_⟩:=(md GH (by omega) WF).1 e2;refine⟨cols++[l],by simp[hc],?_,?_,?_,?_⟩
  ·intro i hi
   rcases jeM i cols.length with h3 | h3
   ·rw[jf9 h3]
    exact hw i h3
   ·obtain rfl:i=cols.length:=by simp at hi;omega
    rw[List.getElem_append_right (jek _)];simp only[jfM,jfZ];rw[hc,ml (by omega)];exact⟨q1,q2⟩
  ·unfold grS
   simp only[e1,hr];exact xL q2
  ·unfold grS
   simp only[e1,hs,jeE,jeT,je8]
  ·have h4:=(uz (l:=(iE fs[k].2.2.1 n (grK fs n s k).2.2).1) (s:=(iE fs[k].2.2.1 n (grK fs n s k).2.2).2) h).2.2
   unfold grS;simp only;rw[h4];exact λx hx=>yx x (by rw[e3];exact List.mem_append_right _ hx)
theorem qq(n:Nat)(hn:n<9223372036854775808)(w:World):Calls Tryz.prog 81 #[.int .i64 (n:Int)] w (dA w (uv n)):=by
 have HV:=ae (dQ n (by omega));have KW:IntKind.u64.wrap (n:Int)=(n:Int):=by rw[jeP];omega
 go_enter Tryz.func81,Tryz.ntmps81
 go_wp2_with fail;refine(HV.o _).mono ?_;rintro e w1 ⟨⟨v1,rfl,o1⟩,aH⟩;go_wp2_with fail;go_ret
 exact⟨⟨_,rfl,o1⟩,aH⟩
theorem rO{l:List Nat}(h:Bs l):de (am l)=l:=by
 unfold de;rw[bI];exact fE h
theorem EO{s:List Nat}(c:Nat)(n:Int)(hc:(c:Int)≠1)(ke:(c:Int)≠2)(hl:s.length<=64)(h8:Bs s)(w:World) :
  Calls Tryz.prog 133 #[.agg #[.int .u8 (c:Int),.int .i64 n,.string (am s)]] w (dA w (uv s.length++s)):=by
 have HE:=ae (rO h8);have jG:(am s).size=s.length:=bi s;have HV:=ae (qq s.length (by omega));have vK:=bO (n:=s.length) (by omega);have h1:((c:Int)==1)=false:=jev.2 hc;have h2:((c:Int)==2)=false:=jev.2 ke;obtain⟨x0,x1,x2⟩:=dB w (.int .u8 (c:Int)) (.int .i64 n) (.string (am s)) 52;have hz:w.heap.size<(w.alloc (.cells #[.int .u8 (c:Int),.int .i64 n,.string (am s)] 52)).heap.size:=by rw[jel];omega
 have ce:=ae (ak w (.cells #[.int .u8 (c:Int),.int .i64 n,.string (am s)] 52));generalize hW:w.alloc (.cells #[.int .u8 (c:Int),.int .i64 n,.string (am s)] 52)=W at *
 have et:jgf (∀ n W',Below W.heap.size (W.drewN n) W'->W'.cell? ⟨w.heap.size,2,none⟩=some (.string (am s))/\Below W.heap.size W W'/\W.heap.size<=W'.heap.size):=ae (λn W' h=>by
  have hb':Below W.heap.size W W':=(ar (jej _ _) n).trans h;exact⟨(hb'.cell (p:=⟨w.heap.size,2,none⟩) hz).trans x2,hb',hb'.size⟩)
 generalize hP:uv s.length=P at *;have hPp:0<P.length:=by rw[← hP];exact mG _
 clear hP hc ke h8;go_enter Tryz.func133,Tryz.ntmps133
 go_wp2_with fail;try rw[hW]
 clear hW
 go_region_held3 (λw'=>w'.cell? ⟨w.heap.size,2,none⟩=some (.string (am s))) (go_keep) (first
  | (go_at_call 81;refine(HV.o _).mono ?_;rintro e w2 ⟨⟨v2,rfl,cB⟩,aE⟩;obtain⟨Lj,oD,hm3⟩:=et.o _ _ aE;have Lo:=ae oD;have dz:=ae cB;clear aE oD cB)
  | (refine nj (by rfl) _ _ (by rfl) W.heap.size _ P (am s) (by rfl) ?_ (by rfl) ?_ ?_ ?_;exact(bg dz.o (by simp));omega;omega;intro v3 w3 o3 b3;have sN:=(b3.cell (p:=⟨w.heap.size,2,none⟩) hz).trans Lj;have dd:=ae o3;have bN:=ae (Lo.o.trans b3);clear o3 b3))
 all_goals go_wp2_with fail
 all_goals go_ret
 all_goals rw[HE.o]at dd
 all_goals exact⟨⟨_,rfl,bg dd.o ce.o.size⟩,ai ce.o bN.o⟩
theorem Pk{n:Int}(h:I64 n)(w:World):Calls Tryz.prog 133 #[.agg #[.int .u8 1,.int .i64 n,.string ⟨#[]⟩]] w (dA w (wv n)):=by
 have HV:=ae (im h);obtain⟨x0,x1,x2⟩:=dB w (.int .u8 1) (.int .i64 n) (.string ⟨#[]⟩) 52;have ce:=ae (ak w (.cells #[.int .u8 1,.int .i64 n,.string ⟨#[]⟩] 52));go_enter Tryz.func133,Tryz.ntmps133
 go_wp2_with fail;refine(HV.o _).mono ?_;rintro e w1 ⟨⟨v1,rfl,o1⟩,aH⟩;have HO:=ae o1;have HB:=ae aH;clear o1 aH;go_wp2_with fail;go_ret
 exact⟨⟨_,rfl,bg HO.o ce.o.size⟩,ai ce.o HB.o⟩
theorem Pm{n:Nat}(h:n<2)(w:World):Calls Tryz.prog 133 #[.agg #[.int .u8 2,.int .i64 (n:Int),.string ⟨#[]⟩]] w (dA w [n]):=by
 obtain⟨x0,x1,x2⟩:=dB w (.int .u8 2) (.int .i64 (n:Int)) (.string ⟨#[]⟩) 52;have KW:IntKind.u8.wrap (n:Int)=(n:Int):=by rw[IntKind.wrap_u8];omega
 have ce:=ae (ak w (.cells #[.int .u8 2,.int .i64 (n:Int),.string ⟨#[]⟩] 52));have HL:=ae (cH (w.alloc (.cells #[.int .u8 2,.int .i64 (n:Int),.string ⟨#[]⟩] 52)) n);have aP:=ae (ak (w.alloc (.cells #[.int .u8 2,.int .i64 (n:Int),.string ⟨#[]⟩] 52)) (.cells #[.int .u8 (n:Int)] 5));have hz:(w.alloc (.cells #[.int .u8 2,.int .i64 (n:Int),.string ⟨#[]⟩] 52)).heap.size=w.heap.size+1:=jel _ _;go_enter Tryz.func133,Tryz.ntmps133
 go_wp2_with fail;go_ret
 have H1:=bg HL.o ce.o.size;rw[hz]at H1;exact⟨⟨_,rfl,H1⟩,ai ce.o aP.o⟩
theorem EP{c:Cl}(h:aT c)(w:World):Calls Tryz.prog 133 #[.agg #[.int .u8 (c.1:Int),.int .i64 c.2.1,.string (am c.2.2)]] w (dA w (gJ c)):=by
 rcases h with rfl | ⟨n,rfl,h1⟩ | ⟨n,rfl,h1⟩ | ⟨s,rfl,h1,h2⟩
 ·have:=EO (s:=[]) 0 0 (by decide) (by decide) (by simp) (λx hx=>by simp at hx) w
  exact this
 ·have:=Pk h1 w
  exact this
 ·have:=Pm h1 w
  have e:gJ ((2,(n:Int),[]):Cl)=[n]:=by
   unfold gJ;rw[jeh (by simp),jei (by simp)];simp only;congr 1
   omega
  rw[e];exact this
 ·have:=EO (s:=s) 3 0 (by decide) (by decide) h1 h2 w
  exact this
theorem EQ(st:Stt)(w:World):Calls Tryz.prog 132 #[vC st] w λe w'=>e=.returned (.int .u8 (yR st:Int))/\Below w.heap.size w w':=by
 obtain⟨r,n,so,hi,lo,hh⟩:=st;unfold vC yR
 have hc:∀ i,i<10->(w.alloc (.cells #[.int .i64 r,.int .i64 n,.bool so,.bool hi,.int .u8 (lo.1:Int),.int .i64 lo.2.1,.string (am lo.2.2),.int .u8 (hh.1:Int),.int .i64 hh.2.1,.string (am hh.2.2)] 54)).cell? ⟨w.heap.size,i,none⟩=(celS ⟨r,n,so,hi,lo,hh⟩)[i]?:=λi hi=>by
  rw[ay (jeK w _)];simp[celS]
 have c2:=hc 2 (by omega);have c3:=hc 3 (by omega);simp only[celS,List.getElem?_cons_succ,List.getElem?_cons_zero]at c2 c3;have HB:=ae (ak w (.cells #[.int .i64 r,.int .i64 n,.bool so,.bool hi,.int .u8 (lo.1:Int),.int .i64 lo.2.1,.string (am lo.2.2),.int .u8 (hh.1:Int),.int .i64 hh.2.1,.string (am hh.2.2)] 54));clear hc;cases so<;>cases hi
 all_goals
  go_enter Tryz.func132,Tryz.ntmps132
  go_wp2_with fail;go_ret
  exact⟨by first | rfl | kernel_rfl,HB.o⟩
theorem Av{w:World}{v:Value}{l:List Fd}(hs:Sf w v l)(id:Nat):Calls Tryz.prog 77 #[.agg #[.int .u32 (id:Int),v]] w λe w'=>e=.returned (.int .i64 (chk id l:Int))/\Below w.heap.size w w':=by
 obtain⟨a,cap,rfl,aW,bC⟩:=hs.form;have ce:=ae (ak w (.cells #[.int .u32 (id:Int),.slice a l.length cap] 25));have HS:=ae (hs.kept (ak w (.cells #[.int .u32 (id:Int),.slice a l.length cap] 25)));obtain⟨c0,c1⟩:=bx w (.int .u32 (id:Int)) (.slice a l.length cap) 25;have hz:w.heap.size<(w.alloc (.cells #[.int .u32 (id:Int),.slice a l.length cap] 25)).heap.size:=by rw[jel];omega
 clear hs;by_cases h1:id=0∨l.length=0∨8<l.length
 ·have HR:jgf (chk id l=1):=ae (jei h1)
  clear c0 c1 hz HS;by_cases q1:id=0
  ·subst q1
   go_enter Tryz.func77,Tryz.ntmps77
   go_wp2_with fail;go_ret
   rw[HR.o];exact⟨rfl,ce.o⟩
  ·have q1':((id:Int)==0)=false:=by simp[q1]
   by_cases q2:l.length=0
   ·have q2':((l.length:Int)==0)=true:=by simp[q2]
    clear h1 q1 q2;go_enter Tryz.func77,Tryz.ntmps77
    go_wp2_with fail;go_ret
    rw[HR.o];exact⟨rfl,ce.o⟩
   ·have q2':((l.length:Int)==0)=false:=by simp[q2]
    have q3:(l.length:Int) > 8:=(by omega);clear h1 q1 q2;go_enter Tryz.func77,Tryz.ntmps77
    go_wp2_with fail;go_ret
    rw[HR.o];exact⟨rfl,ce.o⟩
 ·have HR:jgf (chk id l=fe (l.take 0) (l.drop 0)):=ae (jeh h1)
  have q1':((id:Int)==0)=false:=jev.2 (by omega);have q2':((l.length:Int)==0)=false:=jev.2 (by omega);have q3:¬ (l.length:Int) > 8:=by omega
  have hl8:l.length<=8:=by omega
  clear h1;generalize hW:w.alloc (.cells #[.int .u32 (id:Int),.slice a l.length cap] 25)=W at *;go_enter Tryz.func77,Tryz.ntmps77
  go_wp2_with fail;try rw[hW]
  clear hW;go_loopw [24] (λi wr=>∃ k:Nat,k<=l.length/\i=.int .i64 (k:Int)/\chk id l=fe (l.take k) (l.drop k)/\Below W.heap.size W wr) (λi _=>l.length-(intOf i).toNat)
  case atStart=>exact⟨0,by omega,rfl,HR.o,jej _ _⟩
  case round =>
   obtain⟨k,hk,rfl,kT,az⟩:=hrel;have HF:=ae kT;have HB:=ae az;have bH:=az.size;clear kT az HR;by_cases aB:k<l.length
   ·obtain⟨b,off,rfl,hb,x0,x1,x2,x3⟩:=(HS.o.kept HB.o).at aB
    have HT:=ae (HF.o.trans (LC aB));have hlt':(k:Int)<(l.length:Int):=(by omega);have hkc:(k:Int)<=(cap:Int):=(by omega);have jco:(0:Int)<=(k:Int):=(by omega);have hktn:((k:Int)).toNat=k:=(by omega);have hdcap:¬ cap=0:=(by omega);have cP:=ae (HS.o.take (k:=k) (by omega));generalize l[k]=f at *;obtain⟨f0,f1,f2,f3⟩:=f;simp only at *;have d1:=(HB.o.cell (p:=⟨w.heap.size,1,none⟩) hz).trans c1;have qJ:=ak wr (.cells #[.int .u32 (f0:Int),.string f1,.int .u8 (f2:Int),.bool f3] 81);have e1:=(qJ.cell (p:=⟨w.heap.size,1,none⟩) (jeH hz bH)).trans d1;obtain⟨g0,g1,g2,g3⟩:=jg wr (.int .u32 (f0:Int)) (.string f1) (.int .u8 (f2:Int)) (.bool f3) 81;have aN:=ae (HB.o.trans (qJ.mono bH));have Lb:=ae (λm=>Jn (xt ((cP.o.kept HB.o).kept qJ) m) (f0,f1,f2,f3));unfold qk at Lb;simp only at Lb;generalize gq (l.take k) (f0,f1,f2,f3)=R at *;have jG:(wr.alloc (.cells #[.int .u32 (f0:Int),.string f1,.int .u8 (f2:Int),.bool f3] 81)).heap.size=wr.heap.size+1:=jel _ _;clear qJ;go_wp2_with fail;generalize hV:wr.alloc (.cells #[.int .u32 (f0:Int),.string f1,.int .u8 (f2:Int),.bool f3] 81)=V at *;clear hV x0 x1 x2 x3
    have et:jgf (∀ n W',Below V.heap.size (V.drewN n) W'->(W'.cell? ⟨w.heap.size,1,none⟩=some (.slice (some ⟨b,off,none⟩) l.length cap)/\W'.cell? ⟨wr.heap.size,0,none⟩=some (.int .u32 (f0:Int))/\W'.cell? ⟨wr.heap.size,1,none⟩=some (.string f1)/\W'.cell? ⟨wr.heap.size,2,none⟩=some (.int .u8 (f2:Int))/\W'.cell? ⟨wr.heap.size,3,none⟩=some (.bool f3))/\Below W.heap.size W W'):=ae (λn W' h=>by
     have hb':Below V.heap.size V W':=(ar (jej _ _) n).trans h;exact⟨⟨(hb'.cell (p:=⟨w.heap.size,1,none⟩) (show w.heap.size<_ by omega)).trans e1,(hb'.cell (p:=⟨wr.heap.size,0,none⟩) (show wr.heap.size<_ by omega)).trans g0,(hb'.cell (p:=⟨wr.heap.size,1,none⟩) (show wr.heap.size<_ by omega)).trans g1,(hb'.cell (p:=⟨wr.heap.size,2,none⟩) (show wr.heap.size<_ by omega)).trans g2,(hb'.cell (p:=⟨wr.heap.size,3,none⟩) (show wr.heap.size<_ by omega)).trans g3⟩,aN.o.trans (hb'.mono aN.o.size)⟩)
    go_region_held3 (λw'=>w'.cell? ⟨w.heap.size,1,none⟩=some (.slice (some ⟨b,off,none⟩) l.length cap)/\w'.cell? ⟨wr.heap.size,0,none⟩=some (.int .u32 (f0:Int))/\w'.cell? ⟨wr.heap.size,1,none⟩=some (.string f1)/\w'.cell? ⟨wr.heap.size,2,none⟩=some (.int .u8 (f2:Int))/\w'.cell? ⟨wr.heap.size,3,none⟩=some (.bool f3)) (first | assumption | go_keep) (first | (go_at_call 116;refine(Lb.o _).mono ?_;rintro e w2 ⟨rfl,aE⟩;obtain⟨GH,yx⟩:=et.o _ _ aE;have fX:=ae yx;clear yx aE))
    clear GH e1 g0 g1 g2 g3 d1 c0 c1;by_cases hR:R=0
    ·rw[jei hR]at HT
     subst hR;go_wp2_with fail;go_roundw
     case rel=>exact⟨k+1,by omega,by go_num,HT.o,fX.o⟩
     case measure=>simp[intOf];omega
    ·rw[jeh hR]at HT
     have hR':((R:Int) != 0)=true:=by simp[hR]
     clear hR;go_wp2_with fail;go_ret
     rw[HT.o];exact⟨rfl,ai ce.o fX.o⟩
   ·obtain rfl:k=l.length:=by omega
    have gi:¬ ((l.length:Nat):Int)<(l.length:Int):=(by omega);have HT:=ae (HF.o.trans (Rx l));clear HF;go_wp2_with fail;go_ret
    rw[HT.o];exact⟨rfl,ai ce.o HB.o⟩
theorem JN{w:World}{v:Value}{l:List Fd}(hs:Sf w v l)(hl:l.length<=1000) :
  Calls Tryz.prog 55 #[v] w λe w'=>(∃ v',e=.returned v'/\ea w' w.heap.size v' l)/\Below w.heap.size w w':=by
 have HS:=ae hs;obtain⟨ad,cap,rfl,h1,h2,h3,_⟩:=hs;cases ad with
 | none =>
  have hc:=h3 rfl;subst hc;have qC:l=[]:=jeI (by omega);subst qC;have hq:(binOp .eql 23 (.slice none 0 0) (.slice none 0 0)).run Tryz.prog w=.ok (.bool true) w:=jfQ w 23 81 none 0 0 0 0 Tryz.underlying23;go_enter Tryz.func55,Tryz.ntmps55
  go_wp2_with fail;go_ret
  exact⟨⟨_,rfl,ea.nil _ _⟩,jej _ _⟩
 | some ad =>
  have HN:jgf (ea (w.alloc (.cells #[] 81)) w.heap.size (.slice (some ⟨w.heap.size,0,none⟩) 0 0) []):=ae (ql w [] (by unfold maxLen;simp));have gj:=ae (HS.o.kept (ak w (.cells #[] 81)));clear h3;have hq:(binOp .eql 23 (.slice (some ad) l.length cap) (.slice none 0 0)).run Tryz.prog w=.ok (.bool false) w:=jfQ w 23 81 (some ad) l.length cap 0 0 Tryz.underlying23;go_enter Tryz.func55,Tryz.ntmps55
  go_wp2_with (first | (at_builtin;refine tj rfl _ _ rfl w.heap.size _ _ [] l rfl ?q1 rfl ?q2 ?c1 ?c2 ?_))
  case q1=>exact HN.o
  case q2=>exact gj.o
  case c1=>simp;omega
  case c2=>rw[jel];omega
  intro v3 w3 o3 aS;have dd:=ae o3;have bN:=ae ((ak w (.cells #[] 81)).trans aS);clear o3 aS;go_wp2_with fail;go_ret
  exact⟨⟨_,rfl,dd.o⟩,bN.o⟩
theorem lI{w:World}{ops:Array Oper}{o:Oper}{a:Act}{K:Act->World->Prop}{Q:Exit->Act->World->Prop}{E:Prop}(dY:o.guard=none)(s x:Operand)
  (ho:o.op=.call { callee:=.builtin .append,args:=#[s,x],argTypes:=#[23,23] })
  (base B2:Nat) (v vx:Value) (l0 l:List Fd) (hs:a.eval s=v) (aA:ea w base v l0) (hx:a.eval x=vx) (eN:ea w B2 vx l) (hp:0<l.length)
  (hbytes:l0.length+l.length<=100000) (aI:base<=w.heap.size)
  (h:∀ v' w',ea w' base v' (l0++l)->Below base w w'->K (a.put o.dst v') w') :
  if Region.wanted o (yielded ops a.tmps)=true then Oper.wp Tryz.prog o a w K Q else E:=by
 obtain⟨i0,hi,ch,hz1',bv⟩:=jeD Tn;unfold ea at eN;obtain⟨g,cap,rfl,hB,hg⟩:=World.ownsRow.form eN hp;have hc:∀ j u,(eJ l)[j]?=some u->w.cell? ((⟨g,0,none⟩:Addr).add j)=some u:=λj u hj=>eN.cells (g:=g) rfl j u hj
 unfold ea at aA;refine step_append_lies (P:=Tryz.prog) w dY s x 23 ho base 81 i0 (.agg #[.int .u32 0,.string ⟨#[]⟩,.int .u8 0,.bool false]) 4 32 Tryz.underlying23 hi ch hz1' bv rfl (by decide) v l0.length (eJ l0) hs aA ⟨g,0,none⟩ l.length cap (eJ l) hx (by rw[gh]) hc (pJ _) hp (by unfold maxLen;omega) (by omega) aI _ rfl ?_;intro g' cap' w' o1 g1 _ _;refine h _ w' ?_ ((jej base w).grown g1 aI (λk hk=>(aA.lt k hk).1));unfold ea;rw[rD,jem];exact o1
theorem rP{B:Nat}{w:World}(h:B<=w.heap.size)(o:Obj):B<=(w.alloc o).heap.size:=by rw[jel];omega
theorem qr{w w1:World}{B p:Nat}(h:Below B w w1)(hp:B<=p)(x y:Value):Below B w ((w1.setCell ⟨p,0,none⟩ x).setCell ⟨p,1,none⟩ y):=(h.setCell hp _).setCell hp _
theorem ER{w1:World}{B p:Nat}{v:Value}{l:List Fd}(h:ea w1 B v l)(hp:p<B)(x y:Value):ea ((w1.setCell ⟨p,0,none⟩ x).setCell ⟨p,1,none⟩ y) B v l :=
 Fr.own (((Fr.refl p w1.heap.size w1).set 0 x).set 1 y) h hp
theorem mr{c:Cl}(h:aT c):(gJ c).length<=74:=by
 have hl:=h.size;unfold gJ;split
 ·rcases h with rfl | ⟨n,rfl,h1⟩ | ⟨n,rfl,h1⟩ | ⟨s,rfl,h1,h2⟩<;>first | (have:=fC h1;unfold wv at this;simp only;omega) | (simp_all [nul])
 ·split
  ·simp
  ·have:=bO (n:=c.2.2.length) (by omega)
   rw[jem];omega
theorem Ya(st:Stt):yR st<4:=by unfold yR;split<;>split<;>omega
theorem oe{st:Stt}(h1:aT st.lo)(h2:aT st.hi)(hn:∃ n:Nat,st.nulls=(n:Int)/\n<=1000000)(w:World):Calls Tryz.prog 84 #[vC st] w (dA w (eD st)):=by
 obtain⟨n,hn,Mt⟩:=hn;obtain⟨r,nu,so,hi,lo,hh⟩:=st;simp only at hn h1 h2;subst hn;have HC0:=ae (qq n (by omega));have Rl:=ae (EQ ⟨r,(n:Int),so,hi,lo,hh⟩);have HL0:=ae (EP h1);have HH0:=ae (EP h2);have Rf:=mr h1;have AO:=mr h2;have hu:=bO (n:=n) (by omega);have HE:jgf (eD ⟨r,(n:Int),so,hi,lo,hh⟩=uv n++[yR ⟨r,(n:Int),so,hi,lo,hh⟩]++((if so=true then gJ lo else [])++(if hi=true then gJ hh else []))):=ae (by unfold eD;rw[jeQ]);unfold vC at Rl ⊢;have ce:=ae (ak w (.cells #[.int .i64 r,.int .i64 (n:Int),.bool so,.bool hi,.int .u8 (lo.1:Int),.int .i64 lo.2.1,.string (am lo.2.2),.int .u8 (hh.1:Int),.int .i64 hh.2.1,.string (am hh.2.2)] 54));have hz:w.heap.size<(w.alloc (.cells #[.int .i64 r,.int .i64 (n:Int),.bool so,.bool hi,.int .u8 (lo.1:Int),.int .i64 lo.2.1,.string (am lo.2.2),.int .u8 (hh.1:Int),.int .i64 hh.2.1,.string (am hh.2.2)] 54)).heap.size:=by rw[jel];omega
 have kh:=jeK w (.cells #[.int .i64 r,.int .i64 (n:Int),.bool so,.bool hi,.int .u8 (lo.1:Int),.int .i64 lo.2.1,.string (am lo.2.2),.int .u8 (hh.1:Int),.int .i64 hh.2.1,.string (am hh.2.2)] 54);generalize hW:w.alloc (.cells #[.int .i64 r,.int .i64 (n:Int),.bool so,.bool hi,.int .u8 (lo.1:Int),.int .i64 lo.2.1,.string (am lo.2.2),.int .u8 (hh.1:Int),.int .i64 hh.2.1,.string (am hh.2.2)] 54)=W at *;generalize lo.1=l0 at *;generalize lo.2.1=l1 at *;generalize am lo.2.2=l2 at *;generalize hh.1=h0 at *;generalize hh.2.1=h1' at *;generalize am hh.2.2=h2' at *
 have HT:jgf (∀ U,Below W.heap.size W U->U.cell? ⟨w.heap.size,0,none⟩=some (.int .i64 r)/\U.cell? ⟨w.heap.size,1,none⟩=some (.int .i64 (n:Int))/\U.cell? ⟨w.heap.size,2,none⟩=some (.bool so)/\U.cell? ⟨w.heap.size,3,none⟩=some (.bool hi)/\U.cell? ⟨w.heap.size,4,none⟩=some (.int .u8 (l0:Int))/\U.cell? ⟨w.heap.size,5,none⟩=some (.int .i64 l1)/\U.cell? ⟨w.heap.size,6,none⟩=some (.string l2)/\U.cell? ⟨w.heap.size,7,none⟩=some (.int .u8 (h0:Int))/\U.cell? ⟨w.heap.size,8,none⟩=some (.int .i64 h1')/\U.cell? ⟨w.heap.size,9,none⟩=some (.string h2')):=ae (λU hb=>by
  have hU:=(hb.block w.heap.size hz).trans kh;refine⟨?_,?_,?_,?_,?_,?_,?_,?_,?_,?_⟩<;>(rw[ay hU];rfl))
 clear kh
 have HC:jgf (∀ U,Below W.heap.size W U->Calls Tryz.prog 81 #[.int .i64 (n:Int)] U λe w'=>∃ v,e=.returned v/\aD w' W.heap.size v (uv n)/\Below U.heap.size U w'/\Below W.heap.size W w'/\(w'.cell? ⟨w.heap.size,0,none⟩=some (.int .i64 r)/\w'.cell? ⟨w.heap.size,1,none⟩=some (.int .i64 (n:Int))/\w'.cell? ⟨w.heap.size,2,none⟩=some (.bool so)/\w'.cell? ⟨w.heap.size,3,none⟩=some (.bool hi)/\w'.cell? ⟨w.heap.size,4,none⟩=some (.int .u8 (l0:Int))/\w'.cell? ⟨w.heap.size,5,none⟩=some (.int .i64 l1)/\w'.cell? ⟨w.heap.size,6,none⟩=some (.string l2)/\w'.cell? ⟨w.heap.size,7,none⟩=some (.int .u8 (h0:Int))/\w'.cell? ⟨w.heap.size,8,none⟩=some (.int .i64 h1')/\w'.cell? ⟨w.heap.size,9,none⟩=some (.string h2'))):=ae (λU hU=>by
  refine(HC0.o U).mono ?_;rintro e w' ⟨⟨v,rfl,ho⟩,hb⟩;have aE:=ai hU hb;exact⟨v,rfl,bg ho hU.size,hb,aE,HT.o _ aE⟩)
 have HF:jgf (∀ U,Below W.heap.size W U->Calls Tryz.prog 132 #[.agg #[.int .i64 r,.int .i64 (n:Int),.bool so,.bool hi,.int .u8 (l0:Int),.int .i64 l1,.string l2,.int .u8 (h0:Int),.int .i64 h1',.string h2']] U λe w'=>e=.returned (.int .u8 (yR ⟨r,(n:Int),so,hi,lo,hh⟩:Int))/\Below U.heap.size U w'/\Below W.heap.size W w'/\(w'.cell? ⟨w.heap.size,0,none⟩=some (.int .i64 r)/\w'.cell? ⟨w.heap.size,1,none⟩=some (.int .i64 (n:Int))/\w'.cell? ⟨w.heap.size,2,none⟩=some (.bool so)/\w'.cell? ⟨w.heap.size,3,none⟩=some (.bool hi)/\w'.cell? ⟨w.heap.size,4,none⟩=some (.int .u8 (l0:Int))/\w'.cell? ⟨w.heap.size,5,none⟩=some (.int .i64 l1)/\w'.cell? ⟨w.heap.size,6,none⟩=some (.string l2)/\w'.cell? ⟨w.heap.size,7,none⟩=some (.int .u8 (h0:Int))/\w'.cell? ⟨w.heap.size,8,none⟩=some (.int .i64 h1')/\w'.cell? ⟨w.heap.size,9,none⟩=some (.string h2'))):=ae (λU hU=>by
  refine(Rl.o U).mono ?_;rintro e w' ⟨rfl,hb⟩;have aE:=ai hU hb;exact⟨rfl,hb,aE,HT.o _ aE⟩)
 clear HC0 Rl;generalize yR ⟨r,(n:Int),so,hi,lo,hh⟩=fg at *;generalize uv n=P at *;obtain⟨x0,x1,x2,x3,x4,x5,x6,x7,x8,x9⟩:=HT.o W (jej _ _);go_enter Tryz.func84,Tryz.ntmps84
 go_wp2_with fail;try rw[hW]
 clear hW;have hBW:Below W.heap.size W W:=jej _ _
 go_region_held3 (λw'=>w'.cell? ⟨w.heap.size,0,none⟩=some (.int .i64 r)/\w'.cell? ⟨w.heap.size,1,none⟩=some (.int .i64 (n:Int))/\w'.cell? ⟨w.heap.size,2,none⟩=some (.bool so)/\w'.cell? ⟨w.heap.size,3,none⟩=some (.bool hi)/\w'.cell? ⟨w.heap.size,4,none⟩=some (.int .u8 (l0:Int))/\w'.cell? ⟨w.heap.size,5,none⟩=some (.int .i64 l1)/\w'.cell? ⟨w.heap.size,6,none⟩=some (.string l2)/\w'.cell? ⟨w.heap.size,7,none⟩=some (.int .u8 (h0:Int))/\w'.cell? ⟨w.heap.size,8,none⟩=some (.int .i64 h1')/\w'.cell? ⟨w.heap.size,9,none⟩=some (.string h2')) (first | (refine⟨?_,?_,?_,?_,?_,?_,?_,?_,?_,?_⟩<;>assumption) | go_keep) (first
  | (go_at_call 81;refine(HC.o _ ?_).mono ?_;(first | exact ar hBW _ | exact ar Lp _ | exact Lp);rintro e w2 ⟨v2,rfl,ft,aE,VI,⟨y0,y1,y2,y3,y4,y5,y6,y7,y8,y9⟩⟩;have dz:=ae ft;clear ft)
  | (go_at_call 132;refine(HF.o _ ?_).mono ?_;(first | exact ar VI _ | exact VI);rintro e w3 ⟨rfl,aS,Lp,⟨z0,z1,z2,z3,z4,z5,z6,z7,z8,z9⟩⟩;have dd:=ae (dz.o.kept aS);clear dz aS)
  | (go_at_call 132;refine(HF.o _ ?_).mono ?_;(first | exact ar hBW _ | exact ar VI _ | exact VI);rintro e w3 ⟨rfl,aS,Lp,⟨z0,z1,z2,z3,z4,z5,z6,z7,z8,z9⟩⟩)
  | (refine xw (by rfl) _ _ (by rfl) W.heap.size _ _ P [fg] (by rfl) ?_ (by rfl) ?_ ?_ ?_ ?_;exact dd.o.kept (ak _ _);exact(cH _ fg).sv;(simp only[jeS];omega);exact jet Lp.size (rP (jek _) _);intro v4 w4 o4 b4 g4 e4;have bG:=(Lp.alloc Lp.size _).trans b4;obtain⟨q0,q1,q2,q3,q4,q5,q6,q7,q8,q9⟩:=HT.o _ bG;have eY:=ae o4;have cp:=ae bG;clear g4 e4 b4 bG o4)
  | fail)
 clear y0 y1 y2 y3 y4 y5 y6 y7 y8 y9 z0 z1 z2 z3 z4 z5 z6 z7 z8 z9 x0 x1 x2 x3 x4 x5 x6 x7 x8 x9 aE VI Lp HC HF dd;have hPl:P.length<=10:=hu
 have CW:jgf (∀(so' hi':Bool) v' w',so=so'->hi=hi'->aD w' W.heap.size v' (P++[fg]++(if so'=true then gJ lo else [])++(if hi'=true then gJ hh else []))->Below W.heap.size W w'->dA w (eD ⟨r,(n:Int),so,hi,lo,hh⟩) (.returned v') w'):=ae (λso' hi' v' w' e1 e2 ho hb=>by
  rw[HE.o,e1,e2];refine⟨⟨_,rfl,bg ?_ ce.o.size⟩,ai ce.o hb⟩;have h9:=ho;rw[jez]at h9;exact h9)
 have hx:(so=true∨so=false):=by cases so<;>simp
 rcases hx with VJ | VJ
 all_goals (have hy:(hi=true∨hi=false):=by cases hi<;>simp)
 all_goals rcases hy with KY | KY
 ·rw[VJ]at q2
  rw[KY]at q3;go_wp2_with fail;refine(HL0.o _).mono ?_;rintro e w5 ⟨⟨v5,rfl,o5⟩,bD⟩;have df:=ae (eY.o.kept bD);have qF:=ae o5.sv;have aQ:=ae (ai cp.o bD);clear o5 bD q0 q1 q2 q3 q4 q5 q6 q7 q8 q9;go_wp2_with (first | (at_builtin;refine aV rfl _ _ rfl W.heap.size _ _ (P++[fg]) (gJ lo) rfl df.o rfl qF.o ?d1a ?d1b ?_))
  case d1a=>simp only[jem,jeS];omega
  case d1b=>exact aQ.o.size
  intro v6 w6 o6 b6 _ _;have dW:=aQ.o.trans b6;obtain⟨q0,q1,q2,q3,q4,q5,q6,q7,q8,q9⟩:=HT.o _ dW;have my:jgf (aD w6 W.heap.size v6 (P++[fg]++gJ lo)):=ae (by simpa using o6);have gW:=ae dW;clear o6 b6 dW;rw[KY]at q3;go_wp2_with fail;refine(HH0.o _).mono ?_;rintro e w7 ⟨⟨v7,rfl,o7⟩,iR⟩;have iI:=ae (my.o.kept iR);have Lc:=ae o7.sv;have ir:=ae (ai gW.o iR);clear o7 iR q0 q1 q2 q3 q4 q5 q6 q7 q8 q9;go_wp2_with (first | (at_builtin;refine aV rfl _ _ rfl W.heap.size _ _ (P++[fg]++gJ lo) (gJ hh) rfl iI.o rfl Lc.o ?d2a ?d2b ?_))
  case d2a=>simp only[jem,jeS];omega
  case d2b=>exact ir.o.size
  intro v8 w8 o8 b8 _ _;have kR:=ir.o.trans b8;obtain⟨q0,q1,q2,q3,q4,q5,q6,q7,q8,q9⟩:=HT.o _ kR;have Qv:jgf (aD w8 W.heap.size v8 (P++[fg]++gJ lo++gJ hh)):=ae (by simpa using o8);have qD:=ae kR;clear o8 b8 kR;go_wp2_with fail;go_ret
  refine CW.o true true _ _ VJ KY ?_ qD.o;have h9:=Qv.o;simpa using h9
 ·rw[VJ]at q2
  rw[KY]at q3;go_wp2_with fail;refine(HL0.o _).mono ?_;rintro e w5 ⟨⟨v5,rfl,o5⟩,bD⟩;have df:=ae (eY.o.kept bD);have qF:=ae o5.sv;have aQ:=ae (ai cp.o bD);clear o5 bD q0 q1 q2 q3 q4 q5 q6 q7 q8 q9;go_wp2_with (first | (at_builtin;refine aV rfl _ _ rfl W.heap.size _ _ (P++[fg]) (gJ lo) rfl df.o rfl qF.o ?d3a ?d3b ?_))
  case d3a=>simp only[jem,jeS];omega
  case d3b=>exact aQ.o.size
  intro v6 w6 o6 b6 _ _;have dW:=aQ.o.trans b6;obtain⟨q0,q1,q2,q3,q4,q5,q6,q7,q8,q9⟩:=HT.o _ dW;have my:jgf (aD w6 W.heap.size v6 (P++[fg]++gJ lo)):=ae (by simpa using o6);have gW:=ae dW;clear o6 b6 dW;rw[KY]at q3;go_wp2_with fail;go_ret
  refine CW.o true false _ _ VJ KY ?_ gW.o;have h9:=my.o;simpa using h9
 ·rw[VJ]at q2
  rw[KY]at q3;go_wp2_with fail;refine(HH0.o _).mono ?_;rintro e w5 ⟨⟨v5,rfl,o5⟩,bD⟩;have df:=ae (eY.o.kept bD);have qF:=ae o5.sv;have aQ:=ae (ai cp.o bD);clear o5 bD q0 q1 q2 q3 q4 q5 q6 q7 q8 q9;go_wp2_with (first | (at_builtin;refine aV rfl _ _ rfl W.heap.size _ _ (P++[fg]) (gJ hh) rfl df.o rfl qF.o ?d4a ?d4b ?_))
  case d4a=>simp only[jem,jeS];omega
  case d4b=>exact aQ.o.size
  intro v6 w6 o6 b6 _ _;have dW:=aQ.o.trans b6;obtain⟨q0,q1,q2,q3,q4,q5,q6,q7,q8,q9⟩:=HT.o _ dW;have my:jgf (aD w6 W.heap.size v6 (P++[fg]++gJ hh)):=ae (by simpa using o6);have gW:=ae dW;clear o6 b6 dW;go_wp2_with fail;go_ret
  refine CW.o false true _ _ VJ KY ?_ gW.o;have h9:=my.o;simpa using h9
 ·rw[VJ]at q2
  rw[KY]at q3;go_wp2_with fail;go_ret
  refine CW.o false false _ _ VJ KY ?_ cp.o;have h9:=eY.o;simpa using h9
theorem pf{w:World}{va vb:Value}{a b:List Nat}(ha:Sv w va (aF .u8 a))(hb:Sv w vb (aF .u8 b))(h8:Bs a)(h9:Bs b) :
  Calls Tryz.prog 92 #[va,vb] w λe w'=>e=.returned (.bool (decide (a=b)))/\w'=w:=by
 have Zc:=ha.conv h8;have WF:=hb.conv h9;have HE:=ae (Rz h8 h9);clear ha hb;unfold txt at Zc WF;generalize a.map Nat.toUInt8=x at *;generalize b.map Nat.toUInt8=y at *;go_enter Tryz.func92,Tryz.ntmps92
 go_wp2_with fail;go_ret
 refine⟨?_,rfl⟩
 have e:(x==y)=decide (a=b):=by
  by_cases h:a=b
  ·rw[jeB h,HE.o.2 h]
   simp
  ·rw[jeu h]
   simp
   exact λe=>h (HE.o.1 e)
 rw[← e];rfl
theorem Pn(k:IntKind)(c:Nat)(t:List Nat):aF k (c::t)=.int k (c:Int)::aF k t:=rfl
theorem Sv.uncons{W:World}{v:Value}{c:Nat}{t:List Nat}(h:Sv W v (aF .u8 (c::t))) :
  ∃ g off cap,v=.slice (some ⟨g,off,none⟩) (t.length+1) cap/\t.length+1<=cap/\cap<=maxLen/\g<W.heap.size/\W.cell? ⟨g,off,none⟩=some (.int .u8 (c:Int)) /\
   (∀ j (h:j<t.length),W.cell? ⟨g,off+1+j,none⟩=some (.int .u8 (t[j]:Int))) /\
   ∃ A,(if cap=1 then (some ⟨g,off,none⟩:Option Addr) else some ⟨g,off+1,none⟩)=A/\Sv W (.slice A t.length (cap-1)) (aF .u8 t):=by
 have h0:=h;obtain⟨a,cap,rfl,h1,h2,h3,h4⟩:=h;rw[ap,jer]at *;obtain⟨g,off,rfl,h5,h6⟩:=h4 (by omega);refine⟨g,off,cap,rfl,h1,h2,h5,by simpa using h6 0 _ rfl,λj hj=>?_,?_⟩
 ·have:=h6 (j+1) _ (bU (k:=.u8) (l:=c::t) (j:=j+1) (by simpa using hj))
  rw[show off+1+j=off+(j+1) by omega,this];simp
 ·obtain⟨A,hA,hSA⟩:=BN h0 (k:=1) (by rw[ap];simp)
  refine⟨A,hA,?_⟩;rw[Pn]at hSA;simpa using hSA
theorem ES{w:World}{vb vl:Value}{c:Nat}{t:List Nat}{l:List Int}(hb:Sv w vb (aF .u8 (c::t)))(h8:Bs (c::t))(hc:c<=4)(hs:Sv w vl (aL l))(hl:l.length<=256)(hi:Is l) :
  Calls Tryz.prog 309 #[vb,vl] w λe w'=>e=.returned (.bool (decide (iv c l=t)))/\Below w.heap.size w w':=by
 have HEn:=ae (Jd hs hi c (by omega));have Qw:jgf (Bs t):=λx hx=>h8 x (by simp[hx])
 have yp:=ae (eI c hi hl).2;have oH:c<=4/\l.length<=256:=⟨hc,hl⟩;have HEM:jgf (En c l=iv c l):=jei oH;rw[jeB oH]at HEn;obtain⟨g,off,cap,rfl,h1,h2,h3,h4,_,A,hA,hSA⟩:=hb.uncons;have lN:=ae hSA;have bC:cap<=9223372036854775807:=by unfold maxLen at h2;omega
 clear hb hs hi hSA h8 oH h2;go_enter Tryz.func309,Tryz.ntmps309
 go_wp2_with fail;refine HEn.o.mono ?_;rintro e w1 ⟨⟨v1,rfl,ei⟩,aH⟩;rw[HEM.o]at ei;have eO:=ae ei;have aP:=ae aH;clear ei aH;go_wp2_with fail;refine(pf eO.o.sv (lN.o.kept aP.o) yp.o Qw.o).mono ?_;rintro e w2 ⟨rfl,rfl⟩;go_wp2_with fail;go_ret
 exact⟨rfl,aP.o⟩
theorem TV{c n:Nat}{t:List Nat}{l:List Int}(hc:c<=4)(hn:n<=256)(h:aC (rdC c n) (fin c t) t=.ok (l,[])):bw (c::t) (n:Int)=(l,0):=by
 rw[Af]at h;unfold bw;rw[jei (by omega)];simp only;rw[jeh (by omega),jeQ];cases hr:nh c n t with
 | ok m=>rw[hr]at h;simp at h;rw[h]
 | error e=>rw[hr]at h;simp at h
theorem Po{c n e:Nat}{t:List Nat}(hc:c<=4)(hn:n<=256)(h:aC (rdC c n) (fin c t) t=.error e):bw (c::t) (n:Int)=([],e):=by
 rw[Af]at h;unfold bw;rw[jei (by omega)];simp only;rw[jeh (by omega),jeQ];cases hr:nh c n t with
 | ok m=>rw[hr]at h;simp at h
 | error e=>rw[hr]at h;simp at h;rw[h]
theorem ET(w:World)(o:Obj):(w.alloc o).heap[w.heap.size]?=some o:=by
 unfold World.alloc;simp only[Array.getElem?_push_size]
theorem cF(w:World)(o:Obj):Below w.heap.size w (w.alloc o):=(jej _ _).alloc (jek _) _
def kM(r:List Int×Nat)(w:World)(e:Ending)(w':World):Prop:=(∃ v,e=.returned (.tuple #[v,.int .i64 (r.2:Int)])/\bF w' w.heap.size v r.1)/\Below w.heap.size w w'
theorem TW{w:World}{vb:Value}(n:Int)(hn:¬ (0<=n/\n<=256)):Calls Tryz.prog 296 #[vb,.int .i64 n] w (kM ([],1) w):=by
 by_cases h0:n<0
 ·clear hn
  go_enter Tryz.func296,Tryz.ntmps296
  go_wp2_with fail;go_ret2
  exact⟨⟨_,rfl,bF.nil _ _⟩,jej _ _⟩
 ·have h1:n > 256:=by omega
  clear hn;go_enter Tryz.func296,Tryz.ntmps296
  go_wp2_with fail;go_ret2
  exact⟨⟨_,rfl,bF.nil _ _⟩,jej _ _⟩
theorem Pp{w:World}{vb:Value}(hb:Sv w vb [])(n:Int)(hn:0<=n/\n<=256):Calls Tryz.prog 296 #[vb,.int .i64 n] w (kM ([],30) w):=by
 obtain⟨a,cap,rfl,_⟩:=hb;have h0:¬ n<0:=by omega
 have h1:¬ n > 256:=by omega
 clear hn;go_enter Tryz.func296,Tryz.ntmps296
 go_wp2_with fail;go_ret2
 exact⟨⟨_,rfl,bF.nil _ _⟩,jej _ _⟩
theorem JO{w:World}{vb:Value}{c:Nat}{t:List Nat}(hb:Sv w vb (aF .u8 (c::t)))(h8:Bs (c::t))(hc:4<c)(n:Int)(hn:0<=n/\n<=256):Calls Tryz.prog 296 #[vb,.int .i64 n] w (kM ([],50) w):=by
 obtain⟨g,off,cap,rfl,h1,h2,h3,h4,_⟩:=hb.uncons;have h5:¬ n<0:=by omega
 have h6:¬ n > 256:=by omega
 have h7:(c:Int)>=5:=by omega
 have h9:=h8 c (by simp);have bC:cap<=9223372036854775807:=by unfold maxLen at h2;omega
 have bR:(((t.length+1:Nat):Int)==0)=false:=jev.2 (by omega);clear hn hb h8 h2;go_enter Tryz.func296,Tryz.ntmps296
 go_wp2_with fail;go_ret2
 exact⟨⟨_,rfl,bF.nil _ _⟩,jej _ _⟩
theorem Pq{w:World}{vb:Value}{c:Nat}{t:List Nat}(hb:Sv w vb (aF .u8 (c::t)))(h8:Bs (c::t))(hc:c<=4)(n:Nat)(hn:n<=256):Calls Tryz.prog 296 #[vb,.int .i64 (n:Int)] w (kM (bw (c::t) (n:Int)) w):=by
 have Zf:=ae hb;have H8:=ae h8;obtain⟨g,off,cap,rfl,h1,h2,h3,h4,h4b,A,hA,hSA⟩:=hb.uncons;have lN:=ae hSA;have h5:¬ (n:Int)<0:=by omega
 have h6:¬ (n:Int) > 256:=by omega
 have h7:¬ (c:Int)>=5:=by omega
 have bC:cap<=9223372036854775807:=by unfold maxLen at h2;omega
 have bR:(((t.length+1:Nat):Int)==0)=false:=jev.2 (by omega)
 have cP:jgf (StC 333 (w.alloc (.cells #[.slice A t.length (cap-1),.int .i64 0] 333)) w.heap.size t 0):=ae (by
  have hh:(w.alloc (.cells #[.slice A t.length (cap-1),.int .i64 0] 333)).heap[w.heap.size]?=some (.cells #[.slice A t.length (cap-1),.int .i64 0] 333 (0,0)):=by
   exact ET _ _
  have zj:Bs t:=λx hx=>h8 x (by simp[hx])
  by_cases aW:cap=1
  ·rw[jei aW]at hA
   subst hA;exact⟨g,off,cap-1,hh,h3,by omega,by omega,zj,λj hj=>by omega⟩
  ·rw[jeh aW]at hA
   subst hA;exact⟨g,off+1,cap-1,hh,h3,by omega,by omega,zj,λj hj=>((cF w _).cell (p:=⟨g,off+1+j,none⟩) h3).trans (h4b j hj)⟩)
 have HG:jgf (eo (aC (rdC c n) (fin c t) t) (aC (rdC c n) (fin c t)) t 0):=⟨λ_=>rfl,λh=>absurd rfl h⟩;have Mz:=ae (λl h=>TV (c:=c) (n:=n) (t:=t) (l:=l) hc hn h);have HER:=ae (λe h=>Po (c:=c) (n:=n) (t:=t) (e:=e) hc hn h);have sD:=ae (Tm (λr h=>SZ c t [] h) cP.o hn hc HG.o);generalize aC (rdC c n) (fin c t) t=D at *;generalize bw (c::t) (n:Int)=R at *;clear hb h8 h2 hSA h4b HG;go_enter Tryz.func296,Tryz.ntmps296
 go_wp2_with fail;refine sD.o.mono ?_;rintro e w2 ⟨l,b2,f2,⟨v2,rfl,ft⟩,Ra,AO,dR,gY,dG⟩;have dz:=ae ft;have sK:=ae Ra;have gj:=ae dR;have Ld:=ae gY;have aE:Below w.heap.size w w2:=(cF w _).trans (dG.below (jek _) (by rw[jel];omega));have aN:=ae aE;have bv:=aE.size;have jT:=dR.lt;clear ft Ra dR gY dG aE;go_wp2_with fail;refine(LY gj.o).mono ?_;rintro e w3 ⟨rfl,lB,iJ⟩;have aS:Below w.heap.size w w3:=aN.o.trans (iJ.below (jek _) bv);have dd:=ae (dz.o.fr iJ (by rw[jel];omega));have bN:=ae aS;have iN:=aS.size
 have YY:jgf ((orf f2 (if b2.length=0 then 0 else 32)=0->D=if iv c l=t then .ok (l,[]) else .error 40)/\(orf f2 (if b2.length=0 then 0 else 32)≠0->D=.error (orf f2 (if b2.length=0 then 0 else 32)))):=ae (by
  obtain⟨q1,q2⟩:=Ld.o;by_cases hf:f2=0
  ·subst hf
   rw[fh];have q3:=q1 rfl;unfold fin at q3;by_cases fK:b2.length=0
   ·rw[jei fK]at q3 ⊢
    exact⟨λ_=>q3,λe=>absurd rfl e⟩
   ·rw[jeh fK]at q3 ⊢
    exact⟨λe=>by omega,λ_=>q3⟩
  ·rw[eH hf]
   exact⟨λe=>absurd e hf,q2⟩)
 generalize orf f2 (if b2.length=0 then 0 else 32)=f3 at *;have nF:=ae lB;obtain⟨G,O,C,k0,k1,k2,k3,k4,k5,k6,k7,k8,k9⟩:=lB.cells;clear lB iJ aS k0 k2 k3 k4 k5 k6 k7 k8 k9;have HLO:=ae (dd.o.low (show w.heap.size<=(w.alloc (.cells #[.slice A t.length (cap-1),.int .i64 0] 333)).heap.size by rw[jel];omega));by_cases wl:((f3:Int)==0)=true
 ·have hf0':f3=0:=by simpa using wl
  have hD:=YY.o.1 hf0';subst hf0';have Lq:=ae (ES (Zf.o.kept bN.o) H8.o hc dd.o.sv (by omega) sK.o);by_cases hw:iv c l=t
  ·rw[jei hw]at hD
   rw[jeB hw]at Lq;have HR:=ae (Mz.o l hD);clear hD hw wl;go_wp2_with fail;refine Lq.o.mono ?_;rintro e w4 ⟨rfl,bG⟩;obtain⟨G',O',C',j0,j1,j2,j3,j4,j5,j6,j7,j8,j9⟩:=(nF.o.kept bG nF.o.lt).cells;have cp:=ae (bN.o.trans (bG.mono iN));have eY:=ae (HLO.o.kept bG);clear bG j0 j2 j3 j4 j5 j6 j7 j8 j9 k1;go_wp2_with fail;go_ret2
   rw[HR.o];exact⟨⟨_,rfl,eY.o⟩,cp.o⟩
  ·rw[jeh hw]at hD
   rw[jeu hw]at Lq;have HR:=ae (HER.o 40 hD);clear hD hw wl;go_wp2_with fail;refine Lq.o.mono ?_;rintro e w4 ⟨rfl,bG⟩;have vM:=ae (nF.o.kept bG nF.o.lt);have cp:=ae (bN.o.trans (bG.mono iN));have KR:=cp.o.size;clear bG k1;go_wp2_with fail;refine(dv vM.o 40).mono ?_;rintro e w5 ⟨rfl,nG,iS⟩;rw[fh]at nG;obtain⟨G',O',C',j0,j1,j2,j3,j4,j5,j6,j7,j8,j9⟩:=nG.cells;have aQ:=ae (cp.o.trans (iS.below (jek _) KR));clear nG iS j0 j2 j3 j4 j5 j6 j7 j8 j9;go_wp2_with fail;go_quiet (fail)
   go_wp2_with fail;go_ret2
   rw[HR.o];exact⟨⟨_,rfl,bF.nil _ _⟩,ar aQ.o _⟩
 ·have hff:((f3:Int)==0)=false:=by simpa using wl
  have Zb:((f3:Int) != 0)=true:=by simpa using wl
  have hD:=YY.o.2 (λe=>wl (by simp[e]));have HR:=ae (HER.o f3 hD);clear hD wl;go_wp2_with fail;go_quiet (fail)
  go_wp2_with fail;go_ret2
  rw[HR.o];exact⟨⟨_,rfl,bF.nil _ _⟩,ar bN.o _⟩
theorem EU{w:World}{vb:Value}{b:List Nat}(hb:Sv w vb (aF .u8 b))(h8:Bs b)(n:Int):Calls Tryz.prog 296 #[vb,.int .i64 n] w (kM (bw b n) w):=by
 by_cases hn:0<=n/\n<=256
 ·cases b with
  | nil =>
   have e:bw [] n=([],30):=by unfold bw;rw[jei hn]
   rw[e];exact Pp hb n hn
  | cons c t =>
   by_cases hc:c<=4
   ·obtain⟨m,rfl⟩:=jfx hn.1
    exact Pq hb h8 hc m (by omega)
   ·have e:bw (c::t) n=([],50):=by unfold bw;rw[jei hn];simp only;rw[jei (by omega)]
    rw[e];exact JO hb h8 (by omega) n hn
 ·have e:bw b n=([],1):=by unfold bw;rw[jeh hn]
  rw[e];exact TW n hn
def SvK(W:World)(v:Value)(l:List Nat):Prop :=
 ∃ a cap,v=.slice a l.length cap/\l.length<=cap/\cap<=maxLen/\(a=none->cap=0) /\
  (0<l.length->∃ b off,a=some ⟨b,off,none⟩/\b<W.heap.size/\∀ j (h:j<l.length),W.cell? ⟨b,off+j,none⟩=some (.int .u8 (l[j]:Int)))
theorem SvK.kept{W W':World}{v:Value}{l:List Nat}(h:SvK W v l)(hb:Below W.heap.size W W'):SvK W' v l:=by
 obtain⟨a,cap,rfl,h1,h2,h3,h4⟩:=h;refine⟨a,cap,rfl,h1,h2,h3,λh0=>?_⟩;obtain⟨b,off,rfl,h5,h6⟩:=h4 h0;exact⟨b,off,rfl,jeH h5 hb.size,λj hj=>(hb.cell (p:=⟨b,off+j,none⟩) h5).trans (h6 j hj)⟩
theorem SvK.nil(W:World):SvK W (.slice none 0 0) []:=⟨none,0,rfl,jek _,by unfold maxLen;omega,λ_=>rfl,λh=>by simp at h⟩
theorem SvK.of_own{W:World}{B e n:Nat}{v:Value}{l:List Nat}(h:W.ownsRow B e 1 v n (aF .u8 l)):SvK W v l:=by
 have hl:l.length=n:=by have:=h.1;simpa [aF]using this
 obtain⟨_,h1⟩:=id h;rcases h1 with ⟨rfl,rfl⟩ | ⟨g,cap,cur,rfl,hb,hg,h4,h5,_⟩
 ·exact⟨none,0,by rw[hl],by omega,by unfold maxLen;omega,λ_=>rfl,λh0=>by omega⟩
 ·refine⟨_,cap,by rw[hl],by omega,h5,λh=>(by cases h),λ_=>⟨g,0,rfl,(Array.getElem?_eq_some_iff.1 hg).1,λj hj=>?_⟩⟩
  have:=h.cells (g:=g) rfl j _ (bU hj);rw[mC]at this;rwa[jeO]
theorem SvK.form{W:World}{v:Value}{l:List Nat}(h:SvK W v l):∃ a cap,v=.slice a l.length cap/\l.length<=cap/\cap<=maxLen:=by
 obtain⟨a,cap,h0,h1,h2,_⟩:=h;exact⟨a,cap,h0,h1,h2⟩
theorem SvK.take{W:World}{a:Option Addr}{n cap:Nat}{l:List Nat}(h:SvK W (.slice a n cap) l){k:Nat}(hk:k<=l.length):SvK W (.slice a k cap) (l.take k):=by
 obtain⟨a',c,h1,h2,h3,h4,h5⟩:=h;simp only[Value.slice.injEq]at h1;obtain⟨rfl,_,rfl⟩:=h1;have hl:(l.take k).length=k:=by rw[jeq];omega
 refine⟨_,cap,by rw[hl],by omega,h3,h4,λh0=>?_⟩;obtain⟨b',off',h6,h7,h8⟩:=h5 (by omega);refine⟨b',off',h6,h7,λj hj=>?_⟩;rw[h8 j (by omega),List.getElem_take]
theorem SvK.conv{W:World}{v:Value}{l:List Nat}(h:SvK W v l)(h8:Bs l):(convert 30 9 v).run Tryz.prog W=.ok (txt l) W:=by
 obtain⟨a,cap,rfl,h1,h2,_,h3⟩:=h;rcases jfa l.length with h0 | hp
 ·obtain rfl:l=[]:=jeI h0
  first
   | exact run_convert_bytes_back_empty W 30 9 5 a cap Tryz.underlying30 Tryz.underlying5 Tryz.underlying9
   | (cases a<;>rfl)
   | (cases a<;>kernel_rfl)
 ·obtain⟨b,off,rfl,h4,h5⟩:=h3 hp
  have:=run_convert_bytes_back W 30 9 5 ⟨b,off,none⟩ cap (l.map Nat.toUInt8) Tryz.underlying30 Tryz.underlying5 Tryz.underlying9 (λj hj=>by
   have hj':j<l.length:=by simpa using hj
   rw[lR,h5 j hj'];have h9:=h8 l[j] (jeo hj');congr 2
   simp[jfd h9])
  rw[jen]at this;exact this
theorem TY{x y:Nat}(hx:x<256)(hy:y<256)(h:x.toUInt8=y.toUInt8):x=y:=by
 have:=jep UInt8.toNat h;simpa [jfd hx,jfd hy]using this
theorem xM:∀{a b:List Nat},Bs a->Bs b->a.map Nat.toUInt8=b.map Nat.toUInt8->a=b
 | [],[],_,_,_=>rfl
 | [],_::_,_,_,h=>by simp at h
 | _::_,[],_,_,h=>by simp at h
 | x::a,y::b,ha,hb,h=>by
  simp only[jeT,List.cons.injEq]at h;rw[TY (ha x (by simp)) (hb y (by simp)) h.1,xM (λz hz=>ha z (by simp[hz])) (λz hz=>hb z (by simp[hz])) h.2]
theorem aD.svK{W:World}{B:Nat}{v:Value}{bs:List Nat}(h:aD W B v bs):SvK W v bs:=SvK.of_own h
theorem aD.form{W:World}{B:Nat}{v:Value}{bs:List Nat}(h:aD W B v bs)(hp:0<bs.length):∃ g cap,v=.slice (some ⟨g,0,none⟩) bs.length cap/\B<=g/\g<W.heap.size:=by
 obtain⟨hl,h1⟩:=id h;rcases h1 with ⟨rfl,h0⟩ | ⟨g,cap,cur,rfl,hb,hg,h4⟩
 ·omega
 ·exact⟨g,cap,rfl,hb,(Array.getElem?_eq_some_iff.1 hg).1⟩
theorem aD.at{W:World}{B g n cap:Nat}{bs:List Nat}(h:aD W B (.slice (some ⟨g,0,none⟩) n cap) bs){j:Nat}(hj:j<bs.length):W.cell? ⟨g,j,none⟩=some (.int .u8 (bs[j]:Int))/\W.frozen? ⟨g,j,none⟩=false:=by
 have hn:n=bs.length:=by
  obtain⟨a,cap,h1,_⟩:=h.svK;simp only[Value.slice.injEq]at h1;exact h1.2.1
 subst hn;unfold aD at h;exact⟨(h.cellAt j (by omega)).trans (bU hj),h.frozenAt j⟩
theorem aD.stored{W:World}{B g n cap:Nat}{bs:List Nat}(h:aD W B (.slice (some ⟨g,0,none⟩) n cap) bs)(j c:Nat):aD (W.setCell ⟨g,j,none⟩ (.int .u8 (c:Int))) B (.slice (some ⟨g,0,none⟩) n cap) (bs.set j c):=by
 have hn:n=bs.length:=by
  obtain⟨a,cap,h1,_⟩:=h.svK;simp only[Value.slice.injEq]at h1;exact h1.2.1
 subst hn;unfold aD at *;have:=(h.stored j (.int .u8 (c:Int))).1;rw[ku]at this;rw[jfD];exact this
theorem dC{w:World}{ops:Array Oper}{rest:List Oper}{o:Oper}{a:Act}{Q:Exit->Act->World->Prop}(dY:o.guard=none)(s x:Operand)
  (ho:o.op=.call { callee:=.builtin .append,args:=#[s,x],argTypes:=#[30,30] })
  (base:Nat) (v vx:Value) (l0 l:List Nat) (hs:a.eval s=v) (aA:aD w base v l0) (hx:a.eval x=vx) (eN:SvK w vx l)
  (hbytes:l0.length+l.length<=140737488355328) (aI:base<=w.heap.size)
  (h:∀ v' w',aD w' base v' (l0++l)->Below base w w'->wpList Tryz.prog ops Q rest (a.put o.dst v') w') :
  wpList Tryz.prog ops Q (o::rest) a w:=by
 obtain⟨i0,hi,ch,hz1',bv⟩:=jeD jv;unfold aD at *;obtain⟨ad,cap,rfl,h1,h2,h3,h4⟩:=eN;cases ad with
 | none =>
  have hc:=h3 rfl;subst hc;have hl:l=[]:=jeI (by omega);subst hl;refine wpList_plain dY λK hK=>?_
  have hr:=jfI (P:=Tryz.prog) (w:=w) base 30 o.type 5 i0 1 Tryz.underlying30 hi v l0.length (aF .u8 l0) aA;unfold Oper.wp execOp;simp only[ho,resolve,invoke,builtin,Sem.run_bind,Sem.run_pure,Result.andThen_ok,jfs,jeT,je8,hs,hx,hr,jeL];refine hK _ _ (h v w ?_ (jej _ _));rw[jeG];exact aA
 | some ad =>
  refine jeY (w:=w) dY s x 30 ho base 5 i0 (.int .u8 0) 1 1 Tryz.underlying30 hi ch hz1' bv rfl (by decide) v l0.length (aF .u8 l0) hs aA ad l.length cap (aF .u8 l) hx (by rw[ap];omega) ?_ (fY _ _) (by unfold maxLen;omega) (by omega) aI ?_
  ·intro j u hu
   have hj:j<l.length:=by
    have:=(List.getElem?_eq_some_iff.1 hu).1;rwa[ap]at this
   obtain⟨b,off,h5,_,h6⟩:=h4 (by omega);cases h5
   rw[lR,h6 j hj];rw[bU hj]at hu;exact hu
  ·intro v' w' o1 g1 _ _
   refine h v' w' ?_ ((jej base w).grown g1 aI (λk hk=>(aA.lt k hk).1));rw[ct,jem];exact o1
def Tab(W:World):Prop:=0<W.heap.size/\∀ i:Nat,i<16->W.cell? ⟨0,i,none⟩=some (.int .u32 ((eE 4 i:Nat):Int))
theorem Tab.kept{W W':World}(h:Tab W)(hb:Below W.heap.size W W'):Tab W' :=
 ⟨jeH h.1 hb.size,λi hi=>(hb.cell (p:=⟨0,i,none⟩) h.1).trans (h.2 i hi)⟩
theorem EV{w:World}(ht:Tab w)(s:Nat)(hs:s<4294967296):Calls Tryz.prog 165 #[.int .u32 (s:Int)] w λe w'=>e=.returned (.int .u32 ((eE 4 s:Nat):Int))/\w'=w:=by
 have hc:=ht.2 (s % 16) (Nat.mod_lt _ (by omega));have vO:=Ph 4 s;have aB:=rK 4 (c:=s % 16) (by omega);have hx:=u32_xor_nat (s / 16) (eE 4 (s % 16)) (by omega) aB;rw[Nat.xor_comm,← vO]at hx;clear vO;obtain⟨r,hr⟩:∃ r,s % 16=r:=⟨_,rfl⟩;obtain⟨q,hq⟩:∃ q,s / 16=q:=⟨_,rfl⟩;have hr16:r<16:=by omega
 have ha:bits .and .u32 (s:Int) 15=(r:Int):=by
  have:=u32_and_nat s 15 hs (by omega);rw[nat_mask4,hr]at this;exact this
 have nw:(s:Int) / 16=(q:Int):=by omega
 rw[hr]at hc hx;rw[hq]at hx;generalize eE 4 r=t at *;generalize eE 4 s=u at *;clear hr hq;go_enter Tryz.func165,Tryz.ntmps165
 go_wp2_with fail;go_ret
 exact⟨rfl,rfl⟩
theorem EW{c:Nat}{l:List Nat}{k:Nat}(h:k<l.length):run c (l.take (k+1))=byt (run c (l.take k)) l[k]:=by
 rw[jeA h,TS]
theorem Bs.get{l:List Nat}(h:Bs l){k:Nat}(hk:k<l.length):l[k]<256:=h _ (jeo hk)
theorem Bs.le4(s:Nat):Bs (le4 s):=tz s
theorem Bs.seal{b:List Nat}(h:Bs b):Bs (bE b):=h.append (Bs.le4 _)
theorem TZ{w:World}{v:Value}{l:List Nat}(ht:Tab w)(hs:SvK w v l)(h8:Bs l)(c:Nat)(hc:c<4294967296) :
  Calls Tryz.prog 118 #[.int .u32 (c:Int),v] w λe w'=>e=.returned (.int .u32 ((nt c l:Nat):Int))/\w'=w:=by
 obtain⟨a,cap,rfl,h1,h2,_,eX⟩:=hs;have oD:l.length<=9223372036854775807:=by unfold maxLen at h2;omega
 have HC:=ae eX;have H8:=ae h8;have HT:=ae ht
 have WI:bits .xor .u32 IntKind.u32.max (c:Int)=((c ^^^ 4294967295:Nat):Int):=by
  have:=u32_xor_nat 4294967295 c (by omega) hc;rw[Nat.xor_comm]at this;exact this
 have zg:c ^^^ 4294967295<4294967296:=kK hc (by omega);have HE:jgf (nt c l=run (c ^^^ 4294967295) l ^^^ 4294967295):=ae rfl;have HE:=HE;generalize nt c l=R at *;generalize c ^^^ 4294967295=s0 at *;clear eX h8 ht h1 h2;go_enter Tryz.func118,Tryz.ntmps118
 go_wp2_with fail;go_loopw [5,12] (λst i w'=>w'=w/\∃ k:Nat,k<=l.length/\i=.int .i64 (k:Int)/\st=.int .u32 ((run s0 (l.take k):Nat):Int)) (λ_ i _=>l.length-(intOf i).toNat)
 case atStart=>exact⟨rfl,0,by omega,rfl,rfl⟩
 case round =>
  obtain⟨rfl,k,hk,rfl,rfl⟩:=hrel;by_cases aB:k<l.length
  ·obtain⟨b,off,rfl,hb,bn⟩:=HC.o (by omega)
   have dN:=bn k aB;have hx8:=H8.o.get aB;have eN:run s0 (l.take k)<4294967296:=tw zg (H8.o.take k)
   have HN:jgf (run s0 (l.take (k+1))=eE 4 (eE 4 (run s0 (l.take k) ^^^ l[k]))):=by
    show _=_
    rw[EW aB];exact nY 4 4 _
   clear bn;generalize l[k]=x at *;generalize run s0 (l.take k)=s at *;have WT:=u32_xor_nat s x eN (by omega);have zf:s ^^^ x<4294967296:=kK eN (by omega);generalize s ^^^ x=y at *;have hy1:eE 4 y<4294967296:=rK 4 zf;go_wp2_with fail;refine(EV HT.o y zf).mono ?_;rintro e w1 ⟨rfl,rfl⟩;generalize eE 4 y=y1 at *;go_wp2_with fail;refine(EV HT.o y1 hy1).mono ?_;rintro e w2 ⟨rfl,rfl⟩;generalize eE 4 y1=y2 at *;go_wp2_with fail;go_roundw
   case rel=>exact⟨trivial,k+1,by omega,by go_num,by rw[HN.o]⟩
   case measure=>simp[intOf];omega
  ·obtain rfl:k=l.length:=by omega
   rw[jes];have eN:run s0 l<4294967296:=tw zg H8.o;have WT:=u32_xor_nat 4294967295 (run s0 l) (by omega) eN;rw[Nat.xor_comm,← HE.o]at WT;have hxx':bits .xor .u32 IntKind.u32.max ((run s0 l:Nat):Int)=(R:Int):=WT;clear WT;generalize run s0 l=s at *;go_wp2_with fail;go_ret
   exact⟨rfl,rfl⟩
theorem Yb{w:World}{v:Value}{l:List Nat}(ht:Tab w)(hs:SvK w v l)(h8:Bs l) :
  Calls Tryz.prog 79 #[v] w λe w'=>e=.returned (.int .u32 ((nt 0 l:Nat):Int))/\w'=w:=by
 have HM:=ae (TZ ht hs h8 0 (by omega));obtain⟨a,cap,rfl,h1,h2⟩:=hs.form;clear hs h8 ht;generalize nt 0 l=R at *;go_enter Tryz.func79,Tryz.ntmps79
 go_wp2_with fail;refine HM.o.mono ?_;rintro e w1 ⟨rfl,rfl⟩;go_wp2_with fail;go_ret
 exact⟨rfl,rfl⟩
end Go.Proofs.YtpljdjmpamjkhaaGreatDoor
