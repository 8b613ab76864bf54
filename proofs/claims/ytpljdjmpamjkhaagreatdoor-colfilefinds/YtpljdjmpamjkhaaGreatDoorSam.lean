import Derived.Test.YtpljdjmpamjkhaaGreatDoorSal
set_option linter.all false
set_option maxRecDepth 100000
set_option maxHeartbeats 8000000
namespace Go.Proofs.YtpljdjmpamjkhaaGreatDoor
open Tryz
open Go.RowKit Go.Lib
abbrev Row:=List Cl
def cx(rs:List Row)(k:Nat):List Cl:=rs.map λr=>r.getD k nul
def mW(fs:List Fd)(k:Nat):Nat:=(fs.map λf=>f.2.2.1).getD k 0
def nK{fs:List Fd}{k:Nat}(h:k<fs.length):mW fs k=fs[k].2.2.1:=by
 unfold mW;rw[List.getD_eq_getElem?_getD,List.getElem?_map,List.getElem?_eq_getElem h];rfl
def cK(rs:List Row)(k:Nat):(cx rs k).length=rs.length:=jeE _
def jC(c:Cl):List Nat:=if c.1=1 then uv (zigzag c.2.1) else if c.1=2 then [(c.2.1 % 256).toNat] else uv c.2.2.length++c.2.2
def EK(st:Stt):Nat:=(if st.some=true then 1 else 0)+(if st.high=true then 2 else 0)
def fQ(st:Stt):List Nat:=uv st.nulls.toNat++[EK st]++((if st.some=true then jC st.lo else [])++(if st.high=true then jC st.hi else []))
def nps(g n:Nat):Nat:=(n+g-1) / g
def prt(g:Nat)(rs:List Row)(j:Nat):List Row:=(rs.drop (j*g)).take g
def xF(g:Nat)(rs:List Row):List (List Row):=(List.range (nps g rs.length)).map (prt g rs)
def gh(fs:List Fd)(p:List Row)(k:Nat):List Nat:=(List.range k).flatMap λi=>es (mW fs i) (cx p i)
def ftK(fs:List Fd)(p:List Row)(k:Nat):List Nat:=(List.range k).flatMap λi=>uv (es (mW fs i) (cx p i)).length++fQ (bO (cx p i))
def oS(fs:List Fd)(g:Nat)(rs:List Row)(j:Nat):List Nat:=(List.range j).flatMap λi=>gh fs (prt g rs i) fs.length
def ftJ(fs:List Fd)(g:Nat)(rs:List Row)(j:Nat):List Nat:=(List.range j).flatMap λi=>ftK fs (prt g rs i) fs.length
def jp(id:Nat)(fs:List Fd)(rs:List Row)(g:Nat):List Nat:=eY id fs++uv rs.length++uv g++ftJ fs g rs (nps g rs.length)
def lU(id:Nat)(fs:List Fd)(rs:List Row)(g:Nat):List Nat:=oS fs g rs (nps g rs.length)++jp id fs rs g++le4 (jp id fs rs g).length
def dO(id:Nat)(fs:List Fd)(rs:List Row)(g:Nat):List Nat:=[67,70,49]++lU id fs rs g
def oB(fs:List Fd)(p:List Row)(k:Nat):gh fs p (k+1)=gh fs p k++es (mW fs k) (cx p k):=by
 unfold gh;rw[jfL,jfH];simp
def rz(fs:List Fd)(p:List Row)(k:Nat):ftK fs p (k+1)=ftK fs p k++(uv (es (mW fs k) (cx p k)).length++fQ (bO (cx p k))):=by
 unfold ftK;rw[jfL,jfH];simp
def Ao(fs:List Fd)(g:Nat)(rs:List Row)(j:Nat):oS fs g rs (j+1)=oS fs g rs j++gh fs (prt g rs j) fs.length:=by
 unfold oS;rw[jfL,jfH];simp
def EL(fs:List Fd)(g:Nat)(rs:List Row)(j:Nat):ftJ fs g rs (j+1)=ftJ fs g rs j++ftK fs (prt g rs j) fs.length:=by
 unfold ftJ;rw[jfL,jfH];simp
def nL(fs:List Fd):List Row->Nat
 | []=>0
 | r::t=>if iY fs r=0 then nL fs t else iY fs r
def eT(id:Nat)(fs:List Fd)(rs:List Row)(g:Int):Nat :=
 if chk id fs≠0 then chk id fs else if g<1∨64<g then 1 else if 256<rs.length then 5 else nL fs rs
def dZ(id:Nat)(fs:List Fd)(rs:List Row)(g:Int):List Nat×Nat :=
 if eT id fs rs g≠0 then ([],eT id fs rs g) else if 65536<(bG (dO id fs rs g.toNat)).length then ([],4) else (bG (dO id fs rs g.toNat),0)
abbrev S3:=List Nat×List Nat×Bool
def lV(lo hi:Nat)(b:List Nat):Bool:=!decide ((gt b).2.2=0/\lo<=(gt b).1/\(gt b).1<=hi)
def fU(lo hi:Nat)(b:List Nat):Nat:=if lV lo hi b=true then 0 else (gt b).1
def db(b:List Nat):List Nat:=b.drop (gt b).2.1
def rB(lo hi:Nat)(b:List Nat):fU lo hi b<=hi:=by
 unfold fU lV;split
 ·omega
 ·next h =>
  simp only[Bool.not_eq_true',jfU,Decidable.not_not]at h;exact h.2.2
def Mh{lo hi:Nat}{b:List Nat}(h:lV lo hi b=false):lo<=fU lo hi b:=by
 unfold fU;rw[jex (by rw[h];decide)];unfold lV at h;simp only[Bool.not_eq_false',jfb]at h;exact h.2.1
def pQ{lo hi n:Nat}(h1:lo<=n)(h2:n<=hi)(h3:n<18446744073709551616)(r:List Nat):lV lo hi (uv n++r)=false/\fU lo hi (uv n++r)=n/\db (uv n++r)=r:=by
 have hg:=mr n h3 r
 have hb:lV lo hi (uv n++r)=false:=by
  unfold lV;rw[hg];simp[h1,h2]
 refine⟨hb,?_,?_⟩
 ·unfold fU
  rw[hb,hg];rfl
 ·unfold db
  rw[hg,jfc]
def ip(k n:Nat)(s:S3):List Cl×S3 :=
 ((ge k (s.1.take (fU 0 s.1.length s.2.1)) n).getD [],
  (s.1.drop (fU 0 s.1.length s.2.1),db s.2.1,(s.2.2 || lV 0 s.1.length s.2.1) || (ge k (s.1.take (fU 0 s.1.length s.2.1)) n).isNone))
def pR(l:List Cl)(s:S3):S3:=if (fQ (bO l)).isPrefixOf s.2.1=true then (s.1,s.2.1.drop (fQ (bO l)).length,s.2.2) else (s.1,s.2.1,true)
def psh(rs:List Row)(l:List Cl):List Row:=rs.mapIdx λi r=>r++(l[i]?).toList
def grS(n:Nat)(st:List Row×List Stt×S3)(f:Fd):List Row×List Stt×S3 :=
 (psh st.1 (ip f.2.2.1 n st.2.2).1,st.2.1++[bO (ip f.2.2.1 n st.2.2).1],pR (ip f.2.2.1 n st.2.2).1 (ip f.2.2.1 n st.2.2).2)
def grK(fs:List Fd)(n:Nat)(s:S3)(k:Nat):List Row×List Stt×S3:=(fs.take k).foldl (grS n) (List.replicate n [],[],s)
def xG(fs:List Fd)(n:Nat)(s:S3):grK fs n s 0=(List.replicate n [],[],s):=rfl
def rC{fs:List Fd}{k:Nat}(h:k<fs.length)(n:Nat)(s:S3):grK fs n s (k+1)=grS n (grK fs n s k) fs[k]:=by
 unfold grK;rw[jeO h,List.foldl_append];rfl
abbrev Gr:=List Row×List Stt
def fiJ(fs:List Fd)(g tot:Nat)(s:S3):Nat->List Gr×S3
 | 0=>([],s)
 | j+1=>((fiJ fs g tot s j).1++[((grK fs (min (tot-j*g) g) (fiJ fs g tot s j).2 fs.length).1,(grK fs (min (tot-j*g) g) (fiJ fs g tot s j).2 fs.length).2.1)],
   (grK fs (min (tot-j*g) g) (fiJ fs g tot s j).2 fs.length).2.2)
def gQ(fs:List Fd)(c r:List Nat):List Gr×S3 :=
 fiJ fs (fU 1 64 (db r)) (fU 0 256 r) (c,db (db r),lV 0 256 r || lV 1 64 (db r)) (nps (fU 1 64 (db r)) (fU 0 256 r))
def jq(b:List Nat):Option (Nat×List Fd×Nat×List Gr) :=
 if b.length<4 then none else
 if b.length-4<leN (b.drop (b.length-4)) then none else
 match cD ((b.take (b.length-4)).drop (b.length-4-leN (b.drop (b.length-4))))with
 | .error _=>none
 | .ok ((id,fs),r)=>if (gQ fs (b.take (b.length-4-leN (b.drop (b.length-4)))) r).2.2.2=true then none
  else some (id,fs,fU 1 64 (db r),(gQ fs (b.take (b.length-4-leN (b.drop (b.length-4)))) r).1)
def bJ(gs:List Gr):List Row:=(gs.map Prod.fst).flatten
def rD(b:List Nat):Except Nat (Nat×List Fd×Nat×List Gr) :=
 match jo b with
 | none=>.error 101
 | some t=>if t.take 3=[67,70,49] then (match jq (t.drop 3)with
   | none=>.error 102
   | some x=>if dZ x.1 x.2.1 (bJ x.2.2.2) x.2.2.1=(b,0) then .ok x else .error 102) else .error 100
def uB{l:List Cl}{s:S3}(h:(pR l s).2.2=false):s.2.2=false/\s.2.1=fQ (bO l)++(pR l s).2.1/\(pR l s).1=s.1:=by
 unfold pR at *;split at h
 ·next hp =>
  rw[jey hp];refine⟨h,?_,rfl⟩;obtain⟨t,ht⟩:=jfP.1 hp;show _=_++List.drop _ _
  rw[<- ht,jfc]
 ·cases h
def Ze{l:List Cl}{c b:List Nat}{fl:Bool}:pR l (c,fQ (bO l)++b,fl)=(c,b,fl):=by
 unfold pR;rw[jey (jfP.2 ⟨b,rfl⟩),jfc]
def uC{k n:Nat}{s:S3}(h:(ip k n s).2.2.2=false):s.2.2=false/\∃ l c,(ip k n s).1=l/\ge k c n=some l/\s.1=c++(ip k n s).2.1:=by
 unfold ip at *;simp only[Bool.or_eq_false_iff]at h;refine⟨h.1.1,?_⟩;cases hr:ge k (s.1.take (fU 0 s.1.length s.2.1)) n with
 | none=>rw[hr]at h;simp at h
 | some l=>exact⟨l,_,rfl,hr,(jfz _ _).symm⟩
def xH{n:Nat}{st:List Row×List Stt×S3}{f:Fd}(h:(grS n st f).2.2.2.2=false):st.2.2.2.2=false/\(ip f.2.2.1 n st.2.2).2.2.2=false:=by
 unfold grS at h;have h1:=(uB h).1;exact⟨(uC h1).1,h1⟩
def uD{n:Nat}:∀{fs:List Fd} {st:List Row×List Stt×S3},(fs.foldl (grS n) st).2.2.2.2=false->st.2.2.2.2=false
 | [],_,h=>h
 | f::t,st,h=>(xH (uD (fs:=t) h)).1
def JT{fs:List Fd}{n:Nat}{s:S3}{k:Nat}(h:(grK fs n s k).2.2.2.2=false):s.2.2=false:=uD (st:=(List.replicate n [],[],s)) h
def pS{fs:List Fd}{g tot:Nat}{s:S3}:∀{m j:Nat},j<=m->(fiJ fs g tot s m).2.2.2=false->(fiJ fs g tot s j).2.2.2=false:=by
 intro m;induction m with
 | zero =>
  intro j hj h;obtain rfl:j=0:=by omega
  exact h
 | succ m ih =>
  intro j hj h;rcases je0 m j with h1 | h1
  ·obtain rfl:j=m+1:=by omega
   exact h
  ·exact ih h1 (JT (k:=fs.length) h)
def fF(n:Nat)(cols:List (List Cl)):List Row:=(List.range n).map λi=>cols.map λl=>l.getD i nul
def xI(n:Nat):fF n []=List.replicate n []:=by
 unfold fF;apply List.ext_getElem?
 intro i;by_cases h:i<n
 ·simp[h]
 ·simp[h]
def gi(n:Nat)(cols:List (List Cl)):(fF n cols).length=n:=by simp[fF]
def mz{n:Nat}{cols:List (List Cl)}{i:Nat}(h:i<n):(fF n cols)[i]?=some (cols.map λl=>l.getD i nul):=by
 unfold fF;simp[h]
def xJ{n:Nat}{cols:List (List Cl)}{l:List Cl}(h:l.length=n):psh (fF n cols) l=fF n (cols++[l]):=by
 unfold psh;apply List.ext_getElem?
 intro i;rw[List.getElem?_mapIdx];by_cases hi:i<n
 ·rw[mz hi,mz hi,List.getElem?_eq_getElem (by omega)]
  simp[List.getD_eq_getElem?_getD,List.getElem?_eq_getElem (show i<l.length by omega)]
 ·rw[List.getElem?_eq_none (l:=fF n cols) (by rw[gi];omega),List.getElem?_eq_none (l:=fF n (cols++[l])) (by rw[gi];omega)]
  rfl
def EM{n:Nat}{cols:List (List Cl)}{k:Nat}(hk:k<cols.length)(h:cols[k].length=n):cx (fF n cols) k=cols[k]:=by
 unfold cx;apply List.ext_getElem?
 intro i;rw[List.getElem?_map];by_cases hi:i<n
 ·rw[mz hi,List.getElem?_eq_getElem (show i<cols[k].length by omega)]
  simp[List.getD_eq_getElem?_getD,List.getElem?_eq_getElem hk,List.getElem?_eq_getElem (show i<cols[k].length by omega)]
 ·rw[List.getElem?_eq_none (by rw[gi];omega),List.getElem?_eq_none (by omega)]
  rfl
def EN{p:List Row}{m:Nat}(h:∀ r∈p,r.length=m):fF p.length ((List.range m).map (cx p))=p:=by
 apply List.ext_getElem?
 intro i;by_cases hi:i<p.length
 ·rw[mz hi,List.getElem?_eq_getElem hi,jfa]
  congr 1
  have hm:=h _ (jeD hi);apply List.ext_getElem?
  intro k;rw[List.getElem?_map];by_cases hk:k<m
  ·rw[List.getElem?_range hk,List.getElem?_eq_getElem (by omega)]
   simp[cx,List.getD_eq_getElem?_getD,List.getElem?_eq_getElem hi,List.getElem?_eq_getElem (show k<p[i].length by omega)]
  ·rw[List.getElem?_eq_none (by simp;omega),List.getElem?_eq_none (by omega)]
   rfl
 ·rw[List.getElem?_eq_none (by rw[gi];omega),List.getElem?_eq_none (by omega)]
def Whl(fs:List Fd)(n:Nat)(cols:List (List Cl)):Prop:=∀ i (h:i<cols.length),Col (mW fs i) cols[i]/\cols[i].length=n
def PG{fs:List Fd}{n:Nat}{s:S3}(hn:n<=64)(hk:∀ f∈fs,1<=f.2.2.1/\f.2.2.1<=3)(hb:Bs s.1):∀{k:Nat},k<=fs.length->(grK fs n s k).2.2.2.2=false ->
  ∃ cols,cols.length=k/\Whl fs n cols/\(grK fs n s k).1=fF n cols/\(grK fs n s k).2.1=cols.map bO/\Bs (grK fs n s k).2.2.1:=by
 intro k;induction k with
 | zero=>exact λ_ _=>⟨[],rfl,λi h=>by simp at h,(xI n).symm,rfl,hb⟩
 | succ k ih =>
  intro uS h;rw[rC (by omega)]at h ⊢;obtain⟨h1,h2⟩:=xH h;obtain⟨cols,hc,hw,hr,hs,sd⟩:=ih (by omega) h1;obtain⟨_,l,c,e1,e2,e3⟩:=uC h2;have RC:Bs c:=λx hx=>sd x (by rw[e3];exact List.mem_append_left _ hx)
  have GM:=hk _ (jeD (show k<fs.length by omega));obtain⟨q1,q2,_⟩:=(lN GM (by omega) RC).1 e2;refine⟨cols++[l],by simp[hc],?_,?_,?_,?_⟩
  ·intro i hi
   rcases je0 i cols.length with h3 | h3
   ·rw[jgp h3]
    exact hw i h3
   ·obtain rfl:i=cols.length:=by simp at hi;omega
    rw[List.getElem_append_right (jeA _)];simp only[jf4,jfY];rw[hc,nK (by omega)];exact⟨q1,q2⟩
  ·unfold grS
   simp only[e1,hr];exact xJ q2
  ·unfold grS
   simp only[e1,hs,jeR,je4,jfr]
  ·have h4:=(uB (l:=(ip fs[k].2.2.1 n (grK fs n s k).2.2).1) (s:=(ip fs[k].2.2.1 n (grK fs n s k).2.2).2) h).2.2
   unfold grS;simp only;rw[h4];exact λx hx=>sd x (by rw[e3];exact List.mem_append_right _ hx)
def pT(n:Nat)(hn:n<9223372036854775808)(w:World):Calls prog 81 #[.int .i64 (n:Int)] w (ee w (uv n)):=by
 have HV:=ae (de n (by omega));have RG:IntKind.u64.wrap (n:Int)=(n:Int):=by rw[jfm];omega
 go_enter func81,ntmps81
 go_wp2_with fail;refine(HV.o _).mono ?_;rintro e w1 ⟨⟨v1,rfl,o1⟩,az⟩;go_wp2_with fail;go_ret
 exact⟨⟨_,rfl,o1⟩,az⟩
def Cb{l:List Nat}(h:Bs l):ei (bytesT l)=l:=by
 unfold ei;rw[dE];exact kU h
def EO{s:List Nat}(c:Nat)(n:Int)(hc:(c:Int)≠1)(jv:(c:Int)≠2)(hl:s.length<=64)(h8:Bs s)(w:World) :
  Calls prog 133 #[.agg #[.int .u8 (c:Int),.int .i64 n,.string (bytesT s)]] w (ee w (uv s.length++s)):=by
 have HE:=ae (Cb h8);have lA:(bytesT s).size=s.length:=be s;have HV:=ae (pT s.length (by omega));have QN:=cG (n:=s.length) (by omega);have h1:((c:Int)==1)=false:=jeF.2 hc;have h2:((c:Int)==2)=false:=jeF.2 jv;obtain⟨x0,x1,x2⟩:=cO w (.int .u8 (c:Int)) (.int .i64 n) (.string (bytesT s)) 52;have hz:w.heap.size<(w.alloc (.cells #[.int .u8 (c:Int),.int .i64 n,.string (bytesT s)] 52)).heap.size:=by rw[jeB];omega
 have ce:=ae (aj w (.cells #[.int .u8 (c:Int),.int .i64 n,.string (bytesT s)] 52));generalize hW:w.alloc (.cells #[.int .u8 (c:Int),.int .i64 n,.string (bytesT s)] 52)=W at *
 have fI:jgt (∀ n W',Below W.heap.size (W.drewN n) W'->W'.cell? ⟨w.heap.size,2,none⟩=some (.string (bytesT s))/\jgu W W'/\W.heap.size<=W'.heap.size):=ae (λn W' h=>by
  have hb':jgu W W':=(ak (jez _ _) n).trans h;exact⟨(hb'.cell (p:=⟨w.heap.size,2,none⟩) hz).trans x2,hb',hb'.size⟩)
 generalize hP:uv s.length=P at *;have hPp:0<P.length:=by rw[<- hP];exact wG _
 clear hP hc jv h8;go_enter func133,ntmps133
 go_wp2_with fail;try rw[hW]
 clear hW
 go_region_held3 (λw'=>w'.cell? ⟨w.heap.size,2,none⟩=some (.string (bytesT s))) (go_keep) (first
  | (go_at_call 81;refine(HV.o _).mono ?_;rintro e w2 ⟨⟨v2,rfl,gj⟩,ap⟩;obtain⟨CY,vH,hm3⟩:=fI.o _ _ ap;have QX:=ae vH;have eb:=ae gj;clear ap vH gj)
  | (refine vk (by rfl) _ _ (by rfl) W.heap.size _ P (bytesT s) (by rfl) ?_ (by rfl) ?_ ?_ ?_;exact(bL eb.o (by simp));omega;omega;intro v3 w3 o3 b3;have ng:=(b3.cell (p:=⟨w.heap.size,2,none⟩) hz).trans CY;have dL:=ae o3;have aY:=ae (QX.o.trans b3);clear o3 b3))
 all_goals go_wp2_with fail
 all_goals go_ret
 all_goals rw[HE.o]at dL
 all_goals exact⟨⟨_,rfl,bL dL.o ce.o.size⟩,ai ce.o aY.o⟩
def PH{n:Int}(h:I64 n)(w:World):Calls prog 133 #[.agg #[.int .u8 1,.int .i64 n,.string ⟨#[]⟩]] w (ee w (wv n)):=by
 have HV:=ae (gP h);obtain⟨x0,x1,x2⟩:=cO w (.int .u8 1) (.int .i64 n) (.string ⟨#[]⟩) 52;have ce:=ae (aj w (.cells #[.int .u8 1,.int .i64 n,.string ⟨#[]⟩] 52));go_enter func133,ntmps133
 go_wp2_with fail;refine(HV.o _).mono ?_;rintro e w1 ⟨⟨v1,rfl,o1⟩,az⟩;have HO:=ae o1;have HB:=ae az;clear o1 az;go_wp2_with fail;go_ret
 exact⟨⟨_,rfl,bL HO.o ce.o.size⟩,ai ce.o HB.o⟩
def PI{n:Nat}(h:n<2)(w:World):Calls prog 133 #[.agg #[.int .u8 2,.int .i64 (n:Int),.string ⟨#[]⟩]] w (ee w [n]):=by
 obtain⟨x0,x1,x2⟩:=cO w (.int .u8 2) (.int .i64 (n:Int)) (.string ⟨#[]⟩) 52;have RG:IntKind.u8.wrap (n:Int)=(n:Int):=by rw[IntKind.wrap_u8];omega
 have ce:=ae (aj w (.cells #[.int .u8 2,.int .i64 (n:Int),.string ⟨#[]⟩] 52));have HL:=ae (io (w.alloc (.cells #[.int .u8 2,.int .i64 (n:Int),.string ⟨#[]⟩] 52)) n);have aL:=ae (aj (w.alloc (.cells #[.int .u8 2,.int .i64 (n:Int),.string ⟨#[]⟩] 52)) (.cells #[.int .u8 (n:Int)] 5));have hz:(w.alloc (.cells #[.int .u8 2,.int .i64 (n:Int),.string ⟨#[]⟩] 52)).heap.size=w.heap.size+1:=jeB _ _;go_enter func133,ntmps133
 go_wp2_with fail;go_ret
 have H1:=bL HL.o ce.o.size;rw[hz]at H1;exact⟨⟨_,rfl,H1⟩,ai ce.o aL.o⟩
def EP{c:Cl}(h:aI c)(w:World):Calls prog 133 #[.agg #[.int .u8 (c.1:Int),.int .i64 c.2.1,.string (bytesT c.2.2)]] w (ee w (jC c)):=by
 rcases h with rfl | ⟨n,rfl,h1⟩ | ⟨n,rfl,h1⟩ | ⟨s,rfl,h1,h2⟩
 ·have:=EO (s:=[]) 0 0 (by decide) (by decide) (by simp) (λx hx=>by simp at hx) w
  exact this
 ·have:=PH h1 w
  exact this
 ·have:=PI h1 w
  have e:jC ((2,(n:Int),[]):Cl)=[n]:=by
   unfold jC;rw[jex (by simp),jey (by simp)];simp only;congr 1
   omega
  rw[e];exact this
 ·have:=EO (s:=s) 3 0 (by decide) (by decide) h1 h2 w
  exact this
def EQ(st:Stt)(w:World):Calls prog 132 #[xz st] w λe w'=>e=.returned (.int .u8 (EK st:Int))/\jgu w w':=by
 obtain⟨r,n,so,hi,lo,hh⟩:=st;unfold xz EK
 have hc:∀ i,i<10->(w.alloc (.cells #[.int .i64 r,.int .i64 n,.bool so,.bool hi,.int .u8 (lo.1:Int),.int .i64 lo.2.1,.string (bytesT lo.2.2),.int .u8 (hh.1:Int),.int .i64 hh.2.1,.string (bytesT hh.2.2)] 54)).cell? ⟨w.heap.size,i,none⟩=(celS ⟨r,n,so,hi,lo,hh⟩)[i]?:=λi hi=>by
  rw[an (je2 w _)];simp[celS]
 have c2:=hc 2 (by omega);have c3:=hc 3 (by omega);simp only[celS,List.getElem?_cons_succ,List.getElem?_cons_zero]at c2 c3;have HB:=ae (aj w (.cells #[.int .i64 r,.int .i64 n,.bool so,.bool hi,.int .u8 (lo.1:Int),.int .i64 lo.2.1,.string (bytesT lo.2.2),.int .u8 (hh.1:Int),.int .i64 hh.2.1,.string (bytesT hh.2.2)] 54));clear hc;cases so<;>cases hi
 all_goals
  go_enter func132,ntmps132
  go_wp2_with fail;go_ret
  exact⟨by first | rfl | kernel_rfl,HB.o⟩
def Ap{w:World}{v:Value}{l:List Fd}(hs:Sf w v l)(id:Nat):Calls prog 77 #[.agg #[.int .u32 (id:Int),v]] w λe w'=>e=.returned (.int .i64 (chk id l:Int))/\jgu w w':=by
 obtain⟨a,cap,rfl,bg,bx⟩:=hs.form;have ce:=ae (aj w (.cells #[.int .u32 (id:Int),.slice a l.length cap] 25));have HS:=ae (hs.kept (aj w (.cells #[.int .u32 (id:Int),.slice a l.length cap] 25)));obtain⟨c0,c1⟩:=aS w (.int .u32 (id:Int)) (.slice a l.length cap) 25;have hz:w.heap.size<(w.alloc (.cells #[.int .u32 (id:Int),.slice a l.length cap] 25)).heap.size:=by rw[jeB];omega
 clear hs;by_cases h1:id=0∨l.length=0∨8<l.length
 ·have HR:jgt (chk id l=1):=ae (jey h1)
  clear c0 c1 hz HS;by_cases q1:id=0
  ·subst q1
   go_enter func77,ntmps77
   go_wp2_with fail;go_ret
   rw[HR.o];exact⟨rfl,ce.o⟩
  ·have q1':((id:Int)==0)=false:=by simp[q1]
   by_cases q2:l.length=0
   ·have q2':((l.length:Int)==0)=true:=by simp[q2]
    clear h1 q1 q2;go_enter func77,ntmps77
    go_wp2_with fail;go_ret
    rw[HR.o];exact⟨rfl,ce.o⟩
   ·have q2':((l.length:Int)==0)=false:=by simp[q2]
    have q3:(l.length:Int) > 8:=(by omega);clear h1 q1 q2;go_enter func77,ntmps77
    go_wp2_with fail;go_ret
    rw[HR.o];exact⟨rfl,ce.o⟩
 ·have HR:jgt (chk id l=fe (l.take 0) (l.drop 0)):=ae (jex h1)
  have q1':((id:Int)==0)=false:=jeF.2 (by omega);have q2':((l.length:Int)==0)=false:=jeF.2 (by omega);have q3:¬ (l.length:Int) > 8:=by omega
  have hl8:l.length<=8:=by omega
  clear h1;generalize hW:w.alloc (.cells #[.int .u32 (id:Int),.slice a l.length cap] 25)=W at *;go_enter func77,ntmps77
  go_wp2_with fail;try rw[hW]
  clear hW;go_loopw [24] (λi wr=>∃ k:Nat,k<=l.length/\i=.int .i64 (k:Int)/\chk id l=fe (l.take k) (l.drop k)/\jgu W wr) (λi _=>l.length-(intOf i).toNat)
  case atStart=>exact⟨0,by omega,rfl,HR.o,jez _ _⟩
  case round =>
   obtain⟨k,hk,rfl,fR,ao⟩:=hrel;have HF:=ae fR;have HB:=ae ao;have bF:=ao.size;clear fR ao HR;by_cases ar:k<l.length
   ·obtain⟨b,off,rfl,hb,x0,x1,x2,x3⟩:=(HS.o.kept HB.o).at ar
    have HT:=ae (HF.o.trans (LF ar));have hlt':(k:Int)<(l.length:Int):=(by omega);have Lh:(k:Int)<=(cap:Int):=(by omega);have jc3:(0:Int)<=(k:Int):=(by omega);have hktn:((k:Int)).toNat=k:=(by omega);have hdcap:¬ cap=0:=(by omega);have cF:=ae (HS.o.take (k:=k) (by omega));generalize l[k]=f at *;obtain⟨f0,f1,f2,f3⟩:=f;simp only at *;have d1:=(HB.o.cell (p:=⟨w.heap.size,1,none⟩) hz).trans c1;have oL:=aj wr (.cells #[.int .u32 (f0:Int),.string f1,.int .u8 (f2:Int),.bool f3] 81);have e1:=(oL.cell (p:=⟨w.heap.size,1,none⟩) (jeY hz bF)).trans d1;obtain⟨g0,g1,g2,g3⟩:=iM wr (.int .u32 (f0:Int)) (.string f1) (.int .u8 (f2:Int)) (.bool f3) 81;have aG:=ae (HB.o.trans (oL.mono bF));have RJ:=ae (λm=>Jt (xe ((cF.o.kept HB.o).kept oL) m) (f0,f1,f2,f3));unfold pN at RJ;simp only at RJ;generalize fS (l.take k) (f0,f1,f2,f3)=R at *;have lA:(wr.alloc (.cells #[.int .u32 (f0:Int),.string f1,.int .u8 (f2:Int),.bool f3] 81)).heap.size=wr.heap.size+1:=jeB _ _;clear oL;go_wp2_with fail;generalize hV:wr.alloc (.cells #[.int .u32 (f0:Int),.string f1,.int .u8 (f2:Int),.bool f3] 81)=V at *;clear hV x0 x1 x2 x3
    have fI:jgt (∀ n W',Below V.heap.size (V.drewN n) W'->(W'.cell? ⟨w.heap.size,1,none⟩=some (.slice (some ⟨b,off,none⟩) l.length cap)/\W'.cell? ⟨wr.heap.size,0,none⟩=some (.int .u32 (f0:Int))/\W'.cell? ⟨wr.heap.size,1,none⟩=some (.string f1)/\W'.cell? ⟨wr.heap.size,2,none⟩=some (.int .u8 (f2:Int))/\W'.cell? ⟨wr.heap.size,3,none⟩=some (.bool f3))/\jgu W W'):=ae (λn W' h=>by
     have hb':jgu V W':=(ak (jez _ _) n).trans h;exact⟨⟨(hb'.cell (p:=⟨w.heap.size,1,none⟩) (show w.heap.size<_ by omega)).trans e1,(hb'.cell (p:=⟨wr.heap.size,0,none⟩) (show wr.heap.size<_ by omega)).trans g0,(hb'.cell (p:=⟨wr.heap.size,1,none⟩) (show wr.heap.size<_ by omega)).trans g1,(hb'.cell (p:=⟨wr.heap.size,2,none⟩) (show wr.heap.size<_ by omega)).trans g2,(hb'.cell (p:=⟨wr.heap.size,3,none⟩) (show wr.heap.size<_ by omega)).trans g3⟩,aG.o.trans (hb'.mono aG.o.size)⟩)
    go_region_held3 (λw'=>w'.cell? ⟨w.heap.size,1,none⟩=some (.slice (some ⟨b,off,none⟩) l.length cap)/\w'.cell? ⟨wr.heap.size,0,none⟩=some (.int .u32 (f0:Int))/\w'.cell? ⟨wr.heap.size,1,none⟩=some (.string f1)/\w'.cell? ⟨wr.heap.size,2,none⟩=some (.int .u8 (f2:Int))/\w'.cell? ⟨wr.heap.size,3,none⟩=some (.bool f3)) (first | assumption | go_keep) (first | (go_at_call 116;refine(RJ.o _).mono ?_;rintro e w2 ⟨rfl,ap⟩;obtain⟨GM,sd⟩:=fI.o _ _ ap;have gU:=ae sd;clear sd ap))
    clear GM e1 g0 g1 g2 g3 d1 c0 c1;by_cases hR:R=0
    ·rw[jey hR]at HT
     subst hR;go_wp2_with fail;go_roundw
     case rel=>exact⟨k+1,by omega,by go_num,HT.o,gU.o⟩
     case measure=>simp[intOf];omega
    ·rw[jex hR]at HT
     have hR':((R:Int) != 0)=true:=by simp[hR]
     clear hR;go_wp2_with fail;go_ret
     rw[HT.o];exact⟨rfl,ai ce.o gU.o⟩
   ·obtain rfl:k=l.length:=by omega
    have ed:¬ ((l.length:Nat):Int)<(l.length:Int):=(by omega);have HT:=ae (HF.o.trans (Sa l));clear HF;go_wp2_with fail;go_ret
    rw[HT.o];exact⟨rfl,ai ce.o HB.o⟩
def yI{w:World}{ops:Array Oper}{o:Oper}{a:Act}{K:Act->World->Prop}{Q:Exit->Act->World->Prop}{E:Prop}(ef:o.guard=none)(s x:Operand)
  (ho:o.op=.call { callee:=.builtin .append,args:=#[s,x],argTypes:=#[23,23] })
  (base B2:Nat) (v vx:Value) (l0 l:List Fd) (hs:a.eval s=v) (ax:fh w base v l0) (hx:a.eval x=vx) (eg:fh w B2 vx l) (hp:0<l.length)
  (hbytes:l0.length+l.length<=100000) (aF:base<=w.heap.size)
  (h:∀ v' w',fh w' base v' (l0++l)->Below base w w'->K (a.put o.dst v') w') :
  if Region.wanted o (yielded ops a.tmps)=true then Oper.wp prog o a w K Q else E:=by
 obtain⟨i0,hi,bR,hz1',aX⟩:=jeT jcb;unfold fh at eg;obtain⟨g,cap,rfl,hB,hg⟩:=World.ownsRow.form eg hp;have hc:∀ j u,(eZ l)[j]?=some u->w.cell? ((⟨g,0,none⟩:Addr).add j)=some u:=λj u hj=>eg.cells (g:=g) rfl j u hj
 unfold fh at ax;refine step_append_lies (P:=prog) w ef s x 23 ho base 81 i0 (.agg #[.int .u32 0,.string ⟨#[]⟩,.int .u8 0,.bool false]) 4 32 underlying23 hi bR hz1' aX rfl (by decide) v l0.length (eZ l0) hs ax ⟨g,0,none⟩ l.length cap (eZ l) hx (by rw[jS]) hc (yC _) hp (by unfold maxLen;omega) (by omega) aF _ rfl ?_;intro g' cap' w' o1 g1 _ _;refine h _ w' ?_ ((jez base w).grown g1 aF (λk hk=>(ax.lt k hk).1));unfold fh;rw[BI,jeC];exact o1
def ER{B:Nat}{w:World}(h:B<=w.heap.size)(o:Obj):B<=(w.alloc o).heap.size:=by rw[jeB];omega
def pU{w w1:World}{B p:Nat}(h:Below B w w1)(hp:B<=p)(x y:Value):Below B w ((w1.setCell ⟨p,0,none⟩ x).setCell ⟨p,1,none⟩ y):=(h.setCell hp _).setCell hp _
def ES{w1:World}{B p:Nat}{v:Value}{l:List Fd}(h:fh w1 B v l)(hp:p<B)(x y:Value):fh ((w1.setCell ⟨p,0,none⟩ x).setCell ⟨p,1,none⟩ y) B v l :=
 Fr.own (((Fr.refl p w1.heap.size w1).set 0 x).set 1 y) h hp
def rE{c:Cl}(h:aI c):(jC c).length<=74:=by
 have hl:=h.size;unfold jC;split
 ·rcases h with rfl | ⟨n,rfl,h1⟩ | ⟨n,rfl,h1⟩ | ⟨s,rfl,h1,h2⟩<;>first | (have:=iJ h1;unfold wv at this;simp only;omega) | (simp_all [nul])
 ·split
  ·simp
  ·have:=cG (n:=c.2.2.length) (by omega)
   rw[jeC];omega
def Zf(st:Stt):EK st<4:=by unfold EK;split<;>split<;>omega
def nM{st:Stt}(h1:aI st.lo)(h2:aI st.hi)(hn:∃ n:Nat,st.nulls=(n:Int)/\n<=1000000)(w:World):Calls prog 84 #[xz st] w (ee w (fQ st)):=by
 obtain⟨n,hn,vY⟩:=hn;obtain⟨r,nu,so,hi,lo,hh⟩:=st;simp only at hn h1 h2;subst hn;have RM:=ae (pT n (by omega));have XF:=ae (EQ ⟨r,(n:Int),so,hi,lo,hh⟩);have HL0:=ae (EP h1);have HH0:=ae (EP h2);have De:=rE h1;have qs:=rE h2;have hu:=cG (n:=n) (by omega);have HE:jgt (fQ ⟨r,(n:Int),so,hi,lo,hh⟩=uv n++[EK ⟨r,(n:Int),so,hi,lo,hh⟩]++((if so=true then jC lo else [])++(if hi=true then jC hh else []))):=ae (by unfold fQ;rw[je3]);unfold xz at XF ⊢;have ce:=ae (aj w (.cells #[.int .i64 r,.int .i64 (n:Int),.bool so,.bool hi,.int .u8 (lo.1:Int),.int .i64 lo.2.1,.string (bytesT lo.2.2),.int .u8 (hh.1:Int),.int .i64 hh.2.1,.string (bytesT hh.2.2)] 54));have hz:w.heap.size<(w.alloc (.cells #[.int .i64 r,.int .i64 (n:Int),.bool so,.bool hi,.int .u8 (lo.1:Int),.int .i64 lo.2.1,.string (bytesT lo.2.2),.int .u8 (hh.1:Int),.int .i64 hh.2.1,.string (bytesT hh.2.2)] 54)).heap.size:=by rw[jeB];omega
 have lC:=je2 w (.cells #[.int .i64 r,.int .i64 (n:Int),.bool so,.bool hi,.int .u8 (lo.1:Int),.int .i64 lo.2.1,.string (bytesT lo.2.2),.int .u8 (hh.1:Int),.int .i64 hh.2.1,.string (bytesT hh.2.2)] 54);generalize hW:w.alloc (.cells #[.int .i64 r,.int .i64 (n:Int),.bool so,.bool hi,.int .u8 (lo.1:Int),.int .i64 lo.2.1,.string (bytesT lo.2.2),.int .u8 (hh.1:Int),.int .i64 hh.2.1,.string (bytesT hh.2.2)] 54)=W at *;generalize lo.1=l0 at *;generalize lo.2.1=l1 at *;generalize bytesT lo.2.2=l2 at *;generalize hh.1=h0 at *;generalize hh.2.1=h1' at *;generalize bytesT hh.2.2=h2' at *
 have HT:jgt (∀ U,jgu W U->U.cell? ⟨w.heap.size,0,none⟩=some (.int .i64 r)/\U.cell? ⟨w.heap.size,1,none⟩=some (.int .i64 (n:Int))/\U.cell? ⟨w.heap.size,2,none⟩=some (.bool so)/\U.cell? ⟨w.heap.size,3,none⟩=some (.bool hi)/\U.cell? ⟨w.heap.size,4,none⟩=some (.int .u8 (l0:Int))/\U.cell? ⟨w.heap.size,5,none⟩=some (.int .i64 l1)/\U.cell? ⟨w.heap.size,6,none⟩=some (.string l2)/\U.cell? ⟨w.heap.size,7,none⟩=some (.int .u8 (h0:Int))/\U.cell? ⟨w.heap.size,8,none⟩=some (.int .i64 h1')/\U.cell? ⟨w.heap.size,9,none⟩=some (.string h2')):=ae (λU hb=>by
  have hU:=(hb.block w.heap.size hz).trans lC;refine⟨?_,?_,?_,?_,?_,?_,?_,?_,?_,?_⟩<;>(rw[an hU];rfl))
 clear lC
 have HC:jgt (∀ U,jgu W U->Calls prog 81 #[.int .i64 (n:Int)] U λe w'=>∃ v,e=.returned v/\aM w' W.heap.size v (uv n)/\jgu U w'/\jgu W w'/\(w'.cell? ⟨w.heap.size,0,none⟩=some (.int .i64 r)/\w'.cell? ⟨w.heap.size,1,none⟩=some (.int .i64 (n:Int))/\w'.cell? ⟨w.heap.size,2,none⟩=some (.bool so)/\w'.cell? ⟨w.heap.size,3,none⟩=some (.bool hi)/\w'.cell? ⟨w.heap.size,4,none⟩=some (.int .u8 (l0:Int))/\w'.cell? ⟨w.heap.size,5,none⟩=some (.int .i64 l1)/\w'.cell? ⟨w.heap.size,6,none⟩=some (.string l2)/\w'.cell? ⟨w.heap.size,7,none⟩=some (.int .u8 (h0:Int))/\w'.cell? ⟨w.heap.size,8,none⟩=some (.int .i64 h1')/\w'.cell? ⟨w.heap.size,9,none⟩=some (.string h2'))):=ae (λU hU=>by
  refine(RM.o U).mono ?_;rintro e w' ⟨⟨v,rfl,ho⟩,hb⟩;have ap:=ai hU hb;exact⟨v,rfl,bL ho hU.size,hb,ap,HT.o _ ap⟩)
 have HF:jgt (∀ U,jgu W U->Calls prog 132 #[.agg #[.int .i64 r,.int .i64 (n:Int),.bool so,.bool hi,.int .u8 (l0:Int),.int .i64 l1,.string l2,.int .u8 (h0:Int),.int .i64 h1',.string h2']] U λe w'=>e=.returned (.int .u8 (EK ⟨r,(n:Int),so,hi,lo,hh⟩:Int))/\jgu U w'/\jgu W w'/\(w'.cell? ⟨w.heap.size,0,none⟩=some (.int .i64 r)/\w'.cell? ⟨w.heap.size,1,none⟩=some (.int .i64 (n:Int))/\w'.cell? ⟨w.heap.size,2,none⟩=some (.bool so)/\w'.cell? ⟨w.heap.size,3,none⟩=some (.bool hi)/\w'.cell? ⟨w.heap.size,4,none⟩=some (.int .u8 (l0:Int))/\w'.cell? ⟨w.heap.size,5,none⟩=some (.int .i64 l1)/\w'.cell? ⟨w.heap.size,6,none⟩=some (.string l2)/\w'.cell? ⟨w.heap.size,7,none⟩=some (.int .u8 (h0:Int))/\w'.cell? ⟨w.heap.size,8,none⟩=some (.int .i64 h1')/\w'.cell? ⟨w.heap.size,9,none⟩=some (.string h2'))):=ae (λU hU=>by
  refine(XF.o U).mono ?_;rintro e w' ⟨rfl,hb⟩;have ap:=ai hU hb;exact⟨rfl,hb,ap,HT.o _ ap⟩)
 clear RM XF;generalize EK ⟨r,(n:Int),so,hi,lo,hh⟩=fg at *;generalize uv n=P at *;obtain⟨x0,x1,x2,x3,x4,x5,x6,x7,x8,x9⟩:=HT.o W (jez _ _);go_enter func84,ntmps84
 go_wp2_with fail;try rw[hW]
 clear hW;have hBW:jgu W W:=jez _ _
 go_region_held3 (λw'=>w'.cell? ⟨w.heap.size,0,none⟩=some (.int .i64 r)/\w'.cell? ⟨w.heap.size,1,none⟩=some (.int .i64 (n:Int))/\w'.cell? ⟨w.heap.size,2,none⟩=some (.bool so)/\w'.cell? ⟨w.heap.size,3,none⟩=some (.bool hi)/\w'.cell? ⟨w.heap.size,4,none⟩=some (.int .u8 (l0:Int))/\w'.cell? ⟨w.heap.size,5,none⟩=some (.int .i64 l1)/\w'.cell? ⟨w.heap.size,6,none⟩=some (.string l2)/\w'.cell? ⟨w.heap.size,7,none⟩=some (.int .u8 (h0:Int))/\w'.cell? ⟨w.heap.size,8,none⟩=some (.int .i64 h1')/\w'.cell? ⟨w.heap.size,9,none⟩=some (.string h2')) (first | (refine⟨?_,?_,?_,?_,?_,?_,?_,?_,?_,?_⟩<;>assumption) | go_keep) (first
  | (go_at_call 81;refine(HC.o _ ?_).mono ?_;(first | exact ak hBW _ | exact ak Lj _ | exact Lj);rintro e w2 ⟨v2,rfl,eA,ap,WQ,⟨y0,y1,y2,y3,y4,y5,y6,y7,y8,y9⟩⟩;have eb:=ae eA;clear eA)
  | (go_at_call 132;refine(HF.o _ ?_).mono ?_;(first | exact ak WQ _ | exact WQ);rintro e w3 ⟨rfl,aJ,Lj,⟨z0,z1,z2,z3,z4,z5,z6,z7,z8,z9⟩⟩;have dL:=ae (eb.o.kept aJ);clear eb aJ)
  | (go_at_call 132;refine(HF.o _ ?_).mono ?_;(first | exact ak hBW _ | exact ak WQ _ | exact WQ);rintro e w3 ⟨rfl,aJ,Lj,⟨z0,z1,z2,z3,z4,z5,z6,z7,z8,z9⟩⟩)
  | (refine xg (by rfl) _ _ (by rfl) W.heap.size _ _ P [fg] (by rfl) ?_ (by rfl) ?_ ?_ ?_ ?_;exact dL.o.kept (aj _ _);exact(io _ fg).sv;(simp only[je7];omega);exact jeK Lj.size (ER (jeA _) _);intro v4 w4 o4 b4 g4 e4;have bD:=(Lj.alloc Lj.size _).trans b4;obtain⟨q0,q1,q2,q3,q4,q5,q6,q7,q8,q9⟩:=HT.o _ bD;have gT:=ae o4;have cL:=ae bD;clear g4 e4 b4 bD o4)
  | fail)
 clear y0 y1 y2 y3 y4 y5 y6 y7 y8 y9 z0 z1 z2 z3 z4 z5 z6 z7 z8 z9 x0 x1 x2 x3 x4 x5 x6 x7 x8 x9 ap WQ Lj HC HF dL;have hPl:P.length<=10:=hu
 have CI:jgt (∀(so' hi':Bool) v' w',so=so'->hi=hi'->aM w' W.heap.size v' (P++[fg]++(if so'=true then jC lo else [])++(if hi'=true then jC hh else []))->jgu W w'->ee w (fQ ⟨r,(n:Int),so,hi,lo,hh⟩) (.returned v') w'):=ae (λso' hi' v' w' e1 e2 ho hb=>by
  rw[HE.o,e1,e2];refine⟨⟨_,rfl,bL ?_ ce.o.size⟩,ai ce.o hb⟩;have h9:=ho;rw[jeQ]at h9;exact h9)
 have hx:(so=true∨so=false):=by cases so<;>simp
 rcases hx with MO | MO
 all_goals (have hy:(hi=true∨hi=false):=by cases hi<;>simp)
 all_goals rcases hy with AM | AM
 ·rw[MO]at q2
  rw[AM]at q3;go_wp2_with fail;refine(HL0.o _).mono ?_;rintro e w5 ⟨⟨v5,rfl,o5⟩,bQ⟩;have dK:=ae (gT.o.kept bQ);have oK:=ae o5.sv;have bq:=ae (ai cL.o bQ);clear o5 bQ q0 q1 q2 q3 q4 q5 q6 q7 q8 q9;go_wp2_with (first | (at_builtin;refine eE rfl _ _ rfl W.heap.size _ _ (P++[fg]) (jC lo) rfl dK.o rfl oK.o ?d1a ?d1b ?_))
  case d1a=>simp only[jeC,je7];omega
  case d1b=>exact bq.o.size
  intro v6 w6 o6 b6 _ _;have ct:=bq.o.trans b6;obtain⟨q0,q1,q2,q3,q4,q5,q6,q7,q8,q9⟩:=HT.o _ ct;have oJ:jgt (aM w6 W.heap.size v6 (P++[fg]++jC lo)):=ae (by simpa using o6);have fV:=ae ct;clear o6 b6 ct;rw[AM]at q3;go_wp2_with fail;refine(HH0.o _).mono ?_;rintro e w7 ⟨⟨v7,rfl,o7⟩,gJ⟩;have oV:=ae (oJ.o.kept gJ);have QS:=ae o7.sv;have jK:=ae (ai fV.o gJ);clear o7 gJ q0 q1 q2 q3 q4 q5 q6 q7 q8 q9;go_wp2_with (first | (at_builtin;refine eE rfl _ _ rfl W.heap.size _ _ (P++[fg]++jC lo) (jC hh) rfl oV.o rfl QS.o ?d2a ?d2b ?_))
  case d2a=>simp only[jeC,je7];omega
  case d2b=>exact jK.o.size
  intro v8 w8 o8 b8 _ _;have kO:=jK.o.trans b8;obtain⟨q0,q1,q2,q3,q4,q5,q6,q7,q8,q9⟩:=HT.o _ kO;have AL:jgt (aM w8 W.heap.size v8 (P++[fg]++jC lo++jC hh)):=ae (by simpa using o8);have xZ:=ae kO;clear o8 b8 kO;go_wp2_with fail;go_ret
  refine CI.o true true _ _ MO AM ?_ xZ.o;have h9:=AL.o;simpa using h9
 ·rw[MO]at q2
  rw[AM]at q3;go_wp2_with fail;refine(HL0.o _).mono ?_;rintro e w5 ⟨⟨v5,rfl,o5⟩,bQ⟩;have dK:=ae (gT.o.kept bQ);have oK:=ae o5.sv;have bq:=ae (ai cL.o bQ);clear o5 bQ q0 q1 q2 q3 q4 q5 q6 q7 q8 q9;go_wp2_with (first | (at_builtin;refine eE rfl _ _ rfl W.heap.size _ _ (P++[fg]) (jC lo) rfl dK.o rfl oK.o ?d3a ?d3b ?_))
  case d3a=>simp only[jeC,je7];omega
  case d3b=>exact bq.o.size
  intro v6 w6 o6 b6 _ _;have ct:=bq.o.trans b6;obtain⟨q0,q1,q2,q3,q4,q5,q6,q7,q8,q9⟩:=HT.o _ ct;have oJ:jgt (aM w6 W.heap.size v6 (P++[fg]++jC lo)):=ae (by simpa using o6);have fV:=ae ct;clear o6 b6 ct;rw[AM]at q3;go_wp2_with fail;go_ret
  refine CI.o true false _ _ MO AM ?_ fV.o;have h9:=oJ.o;simpa using h9
 ·rw[MO]at q2
  rw[AM]at q3;go_wp2_with fail;refine(HH0.o _).mono ?_;rintro e w5 ⟨⟨v5,rfl,o5⟩,bQ⟩;have dK:=ae (gT.o.kept bQ);have oK:=ae o5.sv;have bq:=ae (ai cL.o bQ);clear o5 bQ q0 q1 q2 q3 q4 q5 q6 q7 q8 q9;go_wp2_with (first | (at_builtin;refine eE rfl _ _ rfl W.heap.size _ _ (P++[fg]) (jC hh) rfl dK.o rfl oK.o ?d4a ?d4b ?_))
  case d4a=>simp only[jeC,je7];omega
  case d4b=>exact bq.o.size
  intro v6 w6 o6 b6 _ _;have ct:=bq.o.trans b6;obtain⟨q0,q1,q2,q3,q4,q5,q6,q7,q8,q9⟩:=HT.o _ ct;have oJ:jgt (aM w6 W.heap.size v6 (P++[fg]++jC hh)):=ae (by simpa using o6);have fV:=ae ct;clear o6 b6 ct;go_wp2_with fail;go_ret
  refine CI.o false true _ _ MO AM ?_ fV.o;have h9:=oJ.o;simpa using h9
 ·rw[MO]at q2
  rw[AM]at q3;go_wp2_with fail;go_ret
  refine CI.o false false _ _ MO AM ?_ cL.o;have h9:=gT.o;simpa using h9
def oC{w:World}{va vb:Value}{a b:List Nat}(ha:Sv w va (aA .u8 a))(hb:Sv w vb (aA .u8 b))(h8:Bs a)(h9:Bs b) :
  Calls prog 92 #[va,vb] w λe w'=>e=.returned (.bool (decide (a=b)))/\w'=w:=by
 have Xw:=ha.conv h8;have RC:=hb.conv h9;have HE:=ae (Sb h8 h9);clear ha hb;unfold txt at Xw RC;generalize a.map Nat.toUInt8=x at *;generalize b.map Nat.toUInt8=y at *;go_enter func92,ntmps92
 go_wp2_with fail;go_ret
 refine⟨?_,rfl⟩
 have e:(x==y)=decide (a=b):=by
  by_cases h:a=b
  ·rw[jeP h,HE.o.2 h]
   simp
  ·rw[jeM h]
   simp
   exact λe=>h (HE.o.1 e)
 rw[<- e];rfl
def PJ(k:IntKind)(c:Nat)(t:List Nat):aA k (c::t)=.int k (c:Int)::aA k t:=rfl
def Sv.uncons{W:World}{v:Value}{c:Nat}{t:List Nat}(h:Sv W v (aA .u8 (c::t))) :
  ∃ g off cap,v=.slice (some ⟨g,off,none⟩) (t.length+1) cap/\t.length+1<=cap/\cap<=maxLen/\g<W.heap.size/\W.cell? ⟨g,off,none⟩=some (.int .u8 (c:Int)) /\
   (∀ j (h:j<t.length),W.cell? ⟨g,off+1+j,none⟩=some (.int .u8 (t[j]:Int))) /\
   ∃ A,(if cap=1 then (some ⟨g,off,none⟩:Option Addr) else some ⟨g,off+1,none⟩)=A/\Sv W (.slice A t.length (cap-1)) (aA .u8 t):=by
 have h0:=h;obtain⟨a,cap,rfl,h1,h2,h3,h4⟩:=h;rw[am,jeI]at *;obtain⟨g,off,rfl,h5,h6⟩:=h4 (by omega);refine⟨g,off,cap,rfl,h1,h2,h5,by simpa using h6 0 _ rfl,λj hj=>?_,?_⟩
 ·have:=h6 (j+1) _ (bN (k:=.u8) (l:=c::t) (j:=j+1) (by simpa using hj))
  rw[show off+1+j=off+(j+1) by omega,this];simp
 ·obtain⟨A,hA,hSA⟩:=BG h0 (k:=1) (by rw[am];simp)
  refine⟨A,hA,?_⟩;rw[PJ]at hSA;simpa using hSA
def ET{w:World}{vb vl:Value}{c:Nat}{t:List Nat}{l:List Int}(hb:Sv w vb (aA .u8 (c::t)))(h8:Bs (c::t))(hc:c<=4)(hs:Sv w vl (aO l))(hl:l.length<=256)(hi:Is l) :
  Calls prog 309 #[vb,vl] w λe w'=>e=.returned (.bool (decide (km c l=t)))/\jgu w w':=by
 have HEn:=ae (Jj hs hi c (by omega));have QP:jgt (Bs t):=λx hx=>h8 x (by simp[hx])
 have WR:=ae (fM c hi hl).2;have zg:c<=4/\l.length<=256:=⟨hc,hl⟩;have HEM:jgt (Yy c l=km c l):=jey zg;rw[jeP zg]at HEn;obtain⟨g,off,cap,rfl,h1,h2,h3,h4,_,A,hA,hSA⟩:=hb.uncons;have jD:=ae hSA;have bx:cap<=9223372036854775807:=by unfold maxLen at h2;omega
 clear hb hs hi hSA h8 zg h2;go_enter func309,ntmps309
 go_wp2_with fail;refine HEn.o.mono ?_;rintro e w1 ⟨⟨v1,rfl,dM⟩,az⟩;rw[HEM.o]at dM;have fX:=ae dM;have aL:=ae az;clear dM az;go_wp2_with fail;refine(oC fX.o.sv (jD.o.kept aL.o) WR.o QP.o).mono ?_;rintro e w2 ⟨rfl,rfl⟩;go_wp2_with fail;go_ret
 exact⟨rfl,aL.o⟩
def UH{c n:Nat}{t:List Nat}{l:List Int}(hc:c<=4)(hn:n<=256)(h:aw (rdC c n) (fin c t) t=.ok (l,[])):aU (c::t) (n:Int)=(l,0):=by
 rw[zZ]at h;unfold aU;rw[jey (by omega)];simp only;rw[jex (by omega),je3];cases hr:mN c n t with
 | ok m=>rw[hr]at h;simp at h;rw[h]
 | error e=>rw[hr]at h;simp at h
def PK{c n e:Nat}{t:List Nat}(hc:c<=4)(hn:n<=256)(h:aw (rdC c n) (fin c t) t=.error e):aU (c::t) (n:Int)=([],e):=by
 rw[zZ]at h;unfold aU;rw[jey (by omega)];simp only;rw[jex (by omega),je3];cases hr:mN c n t with
 | ok m=>rw[hr]at h;simp at h
 | error e=>rw[hr]at h;simp at h;rw[h]
def EU(w:World)(o:Obj):(w.alloc o).heap[w.heap.size]?=some o:=by
 unfold World.alloc;simp only[Array.getElem?_push_size]
def en(w:World)(o:Obj):jgu w (w.alloc o):=(jez _ _).alloc (jeA _) _
def kG(r:List Int×Nat)(w:World)(e:Ending)(w':World):Prop:=(∃ v,e=.returned (.tuple #[v,.int .i64 (r.2:Int)])/\co w' w.heap.size v r.1)/\jgu w w'
def UI{w:World}{vb:Value}(n:Int)(hn:¬ (0<=n/\n<=256)):Calls prog 296 #[vb,.int .i64 n] w (kG ([],1) w):=by
 by_cases h0:n<0
 ·clear hn
  go_enter func296,ntmps296
  go_wp2_with fail;go_ret2
  exact⟨⟨_,rfl,co.nil _ _⟩,jez _ _⟩
 ·have h1:n > 256:=by omega
  clear hn;go_enter func296,ntmps296
  go_wp2_with fail;go_ret2
  exact⟨⟨_,rfl,co.nil _ _⟩,jez _ _⟩
def PM{w:World}{vb:Value}(hb:Sv w vb [])(n:Int)(hn:0<=n/\n<=256):Calls prog 296 #[vb,.int .i64 n] w (kG ([],30) w):=by
 obtain⟨a,cap,rfl,_⟩:=hb;have h0:¬ n<0:=by omega
 have h1:¬ n > 256:=by omega
 clear hn;go_enter func296,ntmps296
 go_wp2_with fail;go_ret2
 exact⟨⟨_,rfl,co.nil _ _⟩,jez _ _⟩
def JU{w:World}{vb:Value}{c:Nat}{t:List Nat}(hb:Sv w vb (aA .u8 (c::t)))(h8:Bs (c::t))(hc:4<c)(n:Int)(hn:0<=n/\n<=256):Calls prog 296 #[vb,.int .i64 n] w (kG ([],50) w):=by
 obtain⟨g,off,cap,rfl,h1,h2,h3,h4,_⟩:=hb.uncons;have h5:¬ n<0:=by omega
 have h6:¬ n > 256:=by omega
 have h7:(c:Int)>=5:=by omega
 have h9:=h8 c (by simp);have bx:cap<=9223372036854775807:=by unfold maxLen at h2;omega
 have bH:(((t.length+1:Nat):Int)==0)=false:=jeF.2 (by omega);clear hn hb h8 h2;go_enter func296,ntmps296
 go_wp2_with fail;go_ret2
 exact⟨⟨_,rfl,co.nil _ _⟩,jez _ _⟩
def PN{w:World}{vb:Value}{c:Nat}{t:List Nat}(hb:Sv w vb (aA .u8 (c::t)))(h8:Bs (c::t))(hc:c<=4)(n:Nat)(hn:n<=256):Calls prog 296 #[vb,.int .i64 (n:Int)] w (kG (aU (c::t) (n:Int)) w):=by
 have uU:=ae hb;have H8:=ae h8;obtain⟨g,off,cap,rfl,h1,h2,h3,h4,h4b,A,hA,hSA⟩:=hb.uncons;have jD:=ae hSA;have h5:¬ (n:Int)<0:=by omega
 have h6:¬ (n:Int) > 256:=by omega
 have h7:¬ (c:Int)>=5:=by omega
 have bx:cap<=9223372036854775807:=by unfold maxLen at h2;omega
 have bH:(((t.length+1:Nat):Int)==0)=false:=jeF.2 (by omega)
 have cF:jgt (StC 333 (w.alloc (.cells #[.slice A t.length (cap-1),.int .i64 0] 333)) w.heap.size t 0):=ae (by
  have hh:(w.alloc (.cells #[.slice A t.length (cap-1),.int .i64 0] 333)).heap[w.heap.size]?=some (.cells #[.slice A t.length (cap-1),.int .i64 0] 333 (0,0)):=by
   exact EU _ _
  have zb:Bs t:=λx hx=>h8 x (by simp[hx])
  by_cases bg:cap=1
  ·rw[jey bg]at hA
   subst hA;exact⟨g,off,cap-1,hh,h3,by omega,by omega,zb,λj hj=>by omega⟩
  ·rw[jex bg]at hA
   subst hA;exact⟨g,off+1,cap-1,hh,h3,by omega,by omega,zb,λj hj=>((en w _).cell (p:=⟨g,off+1+j,none⟩) h3).trans (h4b j hj)⟩)
 have HG:jgt (dy (aw (rdC c n) (fin c t) t) (aw (rdC c n) (fin c t)) t 0):=⟨λ_=>rfl,λh=>absurd rfl h⟩;have mZ:=ae (λl h=>UH (c:=c) (n:=n) (t:=t) (l:=l) hc hn h);have HER:=ae (λe h=>PK (c:=c) (n:=n) (t:=t) (e:=e) hc hn h);have za:=ae (TJ (λr h=>Tw c t [] h) cF.o hn hc HG.o);generalize aw (rdC c n) (fin c t) t=D at *;generalize aU (c::t) (n:Int)=R at *;clear hb h8 h2 hSA h4b HG;go_enter func296,ntmps296
 go_wp2_with fail;refine za.o.mono ?_;rintro e w2 ⟨l,b2,f2,⟨v2,rfl,eA⟩,MF,qs,cV,fY,cM⟩;have eb:=ae eA;have MD:=ae MF;have fJ:=ae cV;have Le:=ae fY;have ap:jgu w w2:=(en w _).trans (cM.below (jeA _) (by rw[jeB];omega));have aG:=ae ap;have aX:=ap.size;have jt:=cV.lt;clear eA MF cV fY cM ap;go_wp2_with fail;refine(Ma fJ.o).mono ?_;rintro e w3 ⟨rfl,ln,iC⟩;have aJ:jgu w w3:=aG.o.trans (iC.below (jeA _) aX);have dL:=ae (eb.o.fr iC (by rw[jeB];omega));have aY:=ae aJ;have gy:=aJ.size
 have HG3:jgt ((orf f2 (if b2.length=0 then 0 else 32)=0->D=if km c l=t then .ok (l,[]) else .error 40)/\(orf f2 (if b2.length=0 then 0 else 32)≠0->D=.error (orf f2 (if b2.length=0 then 0 else 32)))):=ae (by
  obtain⟨q1,q2⟩:=Le.o;by_cases hf:f2=0
  ·subst hf
   rw[eC];have q3:=q1 rfl;unfold fin at q3;by_cases iV:b2.length=0
   ·rw[jey iV]at q3 ⊢
    exact⟨λ_=>q3,λe=>absurd rfl e⟩
   ·rw[jex iV]at q3 ⊢
    exact⟨λe=>by omega,λ_=>q3⟩
  ·rw[dW hf]
   exact⟨λe=>absurd e hf,q2⟩)
 generalize orf f2 (if b2.length=0 then 0 else 32)=f3 at *;have nf:=ae ln;obtain⟨G,O,C,k0,k1,k2,k3,k4,k5,k6,k7,k8,k9⟩:=ln.cells;clear ln iC aJ k0 k2 k3 k4 k5 k6 k7 k8 k9;have XG:=ae (dL.o.low (show w.heap.size<=(w.alloc (.cells #[.slice A t.length (cap-1),.int .i64 0] 333)).heap.size by rw[jeB];omega));by_cases uT:((f3:Int)==0)=true
 ·have hf0':f3=0:=by simpa using uT
  have hD:=HG3.o.1 hf0';subst hf0';have Lk:=ae (ET (uU.o.kept aY.o) H8.o hc dL.o.sv (by omega) MD.o);by_cases hw:km c l=t
  ·rw[jey hw]at hD
   rw[jeP hw]at Lk;have HR:=ae (mZ.o l hD);clear hD hw uT;go_wp2_with fail;refine Lk.o.mono ?_;rintro e w4 ⟨rfl,bD⟩;obtain⟨G',O',C',j0,j1,j2,j3,j4,j5,j6,j7,j8,j9⟩:=(nf.o.kept bD nf.o.lt).cells;have cL:=ae (aY.o.trans (bD.mono gy));have gT:=ae (XG.o.kept bD);clear bD j0 j2 j3 j4 j5 j6 j7 j8 j9 k1;go_wp2_with fail;go_ret2
   rw[HR.o];exact⟨⟨_,rfl,gT.o⟩,cL.o⟩
  ·rw[jex hw]at hD
   rw[jeM hw]at Lk;have HR:=ae (HER.o 40 hD);clear hD hw uT;go_wp2_with fail;refine Lk.o.mono ?_;rintro e w4 ⟨rfl,bD⟩;have zc:=ae (nf.o.kept bD nf.o.lt);have cL:=ae (aY.o.trans (bD.mono gy));have se:=cL.o.size;clear bD k1;go_wp2_with fail;refine(cI zc.o 40).mono ?_;rintro e w5 ⟨rfl,kT,iX⟩;rw[eC]at kT;obtain⟨G',O',C',j0,j1,j2,j3,j4,j5,j6,j7,j8,j9⟩:=kT.cells;have bq:=ae (cL.o.trans (iX.below (jeA _) se));clear kT iX j0 j2 j3 j4 j5 j6 j7 j8 j9;go_wp2_with fail;go_quiet (fail)
   go_wp2_with fail;go_ret2
   rw[HR.o];exact⟨⟨_,rfl,co.nil _ _⟩,ak bq.o _⟩
 ·have hff:((f3:Int)==0)=false:=by simpa using uT
  have hnn:((f3:Int) != 0)=true:=by simpa using uT
  have hD:=HG3.o.2 (λe=>uT (by simp[e]));have HR:=ae (HER.o f3 hD);clear hD uT;go_wp2_with fail;go_quiet (fail)
  go_wp2_with fail;go_ret2
  rw[HR.o];exact⟨⟨_,rfl,co.nil _ _⟩,ak aY.o _⟩
def EV{w:World}{vb:Value}{b:List Nat}(hb:Sv w vb (aA .u8 b))(h8:Bs b)(n:Int):Calls prog 296 #[vb,.int .i64 n] w (kG (aU b n) w):=by
 by_cases hn:0<=n/\n<=256
 ·cases b with
  | nil =>
   have e:aU [] n=([],30):=by unfold aU;rw[jey hn]
   rw[e];exact PM hb n hn
  | cons c t =>
   by_cases hc:c<=4
   ·obtain⟨m,rfl⟩:=jf8 hn.1
    exact PN hb h8 hc m (by omega)
   ·have e:aU (c::t) n=([],50):=by unfold aU;rw[jey hn];simp only;rw[jey (by omega)]
    rw[e];exact JU hb h8 (by omega) n hn
 ·have e:aU b n=([],1):=by unfold aU;rw[jex hn]
  rw[e];exact UI n hn
def SvK(W:World)(v:Value)(l:List Nat):Prop :=
 ∃ a cap,v=.slice a l.length cap/\l.length<=cap/\cap<=maxLen/\(a=none->cap=0) /\
  (0<l.length->∃ b off,a=some ⟨b,off,none⟩/\b<W.heap.size/\∀ j (h:j<l.length),W.cell? ⟨b,off+j,none⟩=some (.int .u8 (l[j]:Int)))
def SvK.kept{W W':World}{v:Value}{l:List Nat}(h:SvK W v l)(hb:jgu W W'):SvK W' v l:=by
 obtain⟨a,cap,rfl,h1,h2,h3,h4⟩:=h;refine⟨a,cap,rfl,h1,h2,h3,λh0=>?_⟩;obtain⟨b,off,rfl,h5,h6⟩:=h4 h0;exact⟨b,off,rfl,jeY h5 hb.size,λj hj=>(hb.cell (p:=⟨b,off+j,none⟩) h5).trans (h6 j hj)⟩
def SvK.of_own{W:World}{B e n:Nat}{v:Value}{l:List Nat}(h:W.ownsRow B e 1 v n (aA .u8 l)):SvK W v l:=by
 have hl:l.length=n:=by have:=h.1;simpa [aA]using this
 obtain⟨_,h1⟩:=id h;rcases h1 with ⟨rfl,rfl⟩ | ⟨g,cap,cur,rfl,hb,hg,h4,h5,_⟩
 ·exact⟨none,0,by rw[hl],by omega,by unfold maxLen;omega,λ_=>rfl,λh0=>by omega⟩
 ·refine⟨_,cap,by rw[hl],by omega,h5,λh=>(by cases h),λ_=>⟨g,0,rfl,(Array.getElem?_eq_some_iff.1 hg).1,λj hj=>?_⟩⟩
  have:=h.cells (g:=g) rfl j _ (bN hj);rw[oP]at this;rwa[jeU]
def SvK.form{W:World}{v:Value}{l:List Nat}(h:SvK W v l):∃ a cap,v=.slice a l.length cap/\l.length<=cap/\cap<=maxLen:=by
 obtain⟨a,cap,h0,h1,h2,_⟩:=h;exact⟨a,cap,h0,h1,h2⟩
def SvK.take{W:World}{a:Option Addr}{n cap:Nat}{l:List Nat}(h:SvK W (.slice a n cap) l){k:Nat}(hk:k<=l.length):SvK W (.slice a k cap) (l.take k):=by
 obtain⟨a',c,h1,h2,h3,h4,h5⟩:=h;simp only[Value.slice.injEq]at h1;obtain⟨rfl,_,rfl⟩:=h1;have hl:(l.take k).length=k:=by rw[jeH];omega
 refine⟨_,cap,by rw[hl],by omega,h3,h4,λh0=>?_⟩;obtain⟨b',off',h6,h7,h8⟩:=h5 (by omega);refine⟨b',off',h6,h7,λj hj=>?_⟩;rw[h8 j (by omega),List.getElem_take]
def SvK.conv{W:World}{v:Value}{l:List Nat}(h:SvK W v l)(h8:Bs l):(convert 30 9 v).run prog W=.ok (txt l) W:=by
 obtain⟨a,cap,rfl,h1,h2,_,h3⟩:=h;rcases jfs l.length with h0 | hp
 ·obtain rfl:l=[]:=jeW h0
  first
   | exact run_convert_bytes_back_empty W 30 9 5 a cap underlying30 underlying5 underlying9
   | (cases a<;>rfl)
   | (cases a<;>kernel_rfl)
 ·obtain⟨b,off,rfl,h4,h5⟩:=h3 hp
  have:=run_convert_bytes_back W 30 9 5 ⟨b,off,none⟩ cap (l.map Nat.toUInt8) underlying30 underlying5 underlying9 (λj hj=>by
   have hj':j<l.length:=by simpa using hj
   rw[kP,h5 j hj'];have h9:=h8 l[j] (jeD hj');congr 2
   simp[jfA h9])
  rw[jeE]at this;exact this
def UJ{x y:Nat}(hx:x<256)(hy:y<256)(h:x.toUInt8=y.toUInt8):x=y:=by
 have:=jeG UInt8.toNat h;simpa [jfA hx,jfA hy]using this
def xK:∀{a b:List Nat},Bs a->Bs b->a.map Nat.toUInt8=b.map Nat.toUInt8->a=b
 | [],[],_,_,_=>rfl
 | [],_::_,_,_,h=>by simp at h
 | _::_,[],_,_,h=>by simp at h
 | x::a,y::b,ha,hb,h=>by
  simp only[je4,List.cons.injEq]at h;rw[UJ (ha x (by simp)) (hb y (by simp)) h.1,xK (λz hz=>ha z (by simp[hz])) (λz hz=>hb z (by simp[hz])) h.2]
def aM.svK{W:World}{B:Nat}{v:Value}{bs:List Nat}(h:aM W B v bs):SvK W v bs:=SvK.of_own h
def aM.form{W:World}{B:Nat}{v:Value}{bs:List Nat}(h:aM W B v bs)(hp:0<bs.length):∃ g cap,v=.slice (some ⟨g,0,none⟩) bs.length cap/\B<=g/\g<W.heap.size:=by
 obtain⟨hl,h1⟩:=id h;rcases h1 with ⟨rfl,h0⟩ | ⟨g,cap,cur,rfl,hb,hg,h4⟩
 ·omega
 ·exact⟨g,cap,rfl,hb,(Array.getElem?_eq_some_iff.1 hg).1⟩
def aM.at{W:World}{B g n cap:Nat}{bs:List Nat}(h:aM W B (.slice (some ⟨g,0,none⟩) n cap) bs){j:Nat}(hj:j<bs.length):W.cell? ⟨g,j,none⟩=some (.int .u8 (bs[j]:Int))/\W.frozen? ⟨g,j,none⟩=false:=by
 have hn:n=bs.length:=by
  obtain⟨a,cap,h1,_⟩:=h.svK;simp only[Value.slice.injEq]at h1;exact h1.2.1
 subst hn;unfold aM at h;exact⟨(h.cellAt j (by omega)).trans (bN hj),h.frozenAt j⟩
def aM.stored{W:World}{B g n cap:Nat}{bs:List Nat}(h:aM W B (.slice (some ⟨g,0,none⟩) n cap) bs)(j c:Nat):aM (W.setCell ⟨g,j,none⟩ (.int .u8 (c:Int))) B (.slice (some ⟨g,0,none⟩) n cap) (bs.set j c):=by
 have hn:n=bs.length:=by
  obtain⟨a,cap,h1,_⟩:=h.svK;simp only[Value.slice.injEq]at h1;exact h1.2.1
 subst hn;unfold aM at *;have:=(h.stored j (.int .u8 (c:Int))).1;rw[lH]at this;rw[jf7];exact this
def iq{w:World}{ops:Array Oper}{rest:List Oper}{o:Oper}{a:Act}{Q:Exit->Act->World->Prop}(ef:o.guard=none)(s x:Operand)
  (ho:o.op=.call { callee:=.builtin .append,args:=#[s,x],argTypes:=#[30,30] })
  (base:Nat) (v vx:Value) (l0 l:List Nat) (hs:a.eval s=v) (ax:aM w base v l0) (hx:a.eval x=vx) (eg:SvK w vx l)
  (hbytes:l0.length+l.length<=140737488355328) (aF:base<=w.heap.size)
  (h:∀ v' w',aM w' base v' (l0++l)->Below base w w'->wpList prog ops Q rest (a.put o.dst v') w') :
  wpList prog ops Q (o::rest) a w:=by
 obtain⟨i0,hi,bR,hz1',aX⟩:=jeT nl;unfold aM at *;obtain⟨ad,cap,rfl,h1,h2,h3,h4⟩:=eg;cases ad with
 | none =>
  have hc:=h3 rfl;subst hc;have hl:l=[]:=jeW (by omega);subst hl;refine wpList_plain ef λK hK=>?_
  have hr:=jgb (P:=prog) (w:=w) base 30 o.type 5 i0 1 underlying30 hi v l0.length (aA .u8 l0) ax;unfold Oper.wp execOp;simp only[ho,resolve,invoke,builtin,Sem.run_bind,Sem.run_pure,Result.andThen_ok,jfN,je4,jfr,hs,hx,hr,jeZ];refine hK _ _ (h v w ?_ (jez _ _));rw[jeS];exact ax
 | some ad =>
  refine jfw (w:=w) ef s x 30 ho base 5 i0 (.int .u8 0) 1 1 underlying30 hi bR hz1' aX rfl (by decide) v l0.length (aA .u8 l0) hs ax ad l.length cap (aA .u8 l) hx (by rw[am];omega) ?_ (jM _ _) (by unfold maxLen;omega) (by omega) aF ?_
  ·intro j u hu
   have hj:j<l.length:=by
    have:=(List.getElem?_eq_some_iff.1 hu).1;rwa[am]at this
   obtain⟨b,off,h5,_,h6⟩:=h4 (by omega);cases h5
   rw[kP,h6 j hj];rw[bN hj]at hu;exact hu
  ·intro v' w' o1 g1 _ _
   refine h v' w' ?_ ((jez base w).grown g1 aF (λk hk=>(ax.lt k hk).1));rw[ek,jeC];exact o1
def Tab(W:World):Prop:=0<W.heap.size/\∀ i:Nat,i<16->W.cell? ⟨0,i,none⟩=some (.int .u32 ((fo 4 i:Nat):Int))
def Tab.kept{W W':World}(h:Tab W)(hb:jgu W W'):Tab W' :=
 ⟨jeY h.1 hb.size,λi hi=>(hb.cell (p:=⟨0,i,none⟩) h.1).trans (h.2 i hi)⟩
def EW{w:World}(ht:Tab w)(s:Nat)(hs:s<4294967296):Calls prog 165 #[.int .u32 (s:Int)] w λe w'=>e=.returned (.int .u32 ((fo 4 s:Nat):Int))/\w'=w:=by
 have hc:=ht.2 (s % 16) (Nat.mod_lt _ (by omega));have gA:=PD 4 s;have ar:=vV 4 (c:=s % 16) (by omega);have hx:=u32_xor_nat (s / 16) (fo 4 (s % 16)) (by omega) ar;rw[Nat.xor_comm,<- gA]at hx;clear gA;obtain⟨r,hr⟩:∃ r,s % 16=r:=⟨_,rfl⟩;obtain⟨q,hq⟩:∃ q,s / 16=q:=⟨_,rfl⟩;have hr16:r<16:=by omega
 have ha:bits .and .u32 (s:Int) 15=(r:Int):=by
  have:=u32_and_nat s 15 hs (by omega);rw[nat_mask4,hr]at this;exact this
 have nc:(s:Int) / 16=(q:Int):=by omega
 rw[hr]at hc hx;rw[hq]at hx;generalize fo 4 r=t at *;generalize fo 4 s=u at *;clear hr hq;go_enter func165,ntmps165
 go_wp2_with fail;go_ret
 exact⟨rfl,rfl⟩
def UK{c:Nat}{l:List Nat}{k:Nat}(h:k<l.length):run c (l.take (k+1))=byt (run c (l.take k)) l[k]:=by
 rw[jeO h,UF]
def Bs.get{l:List Nat}(h:Bs l){k:Nat}(hk:k<l.length):l[k]<256:=h _ (jeD hk)
def Bs.le4(s:Nat):Bs (le4 s):=tu s
def Bs.seal{b:List Nat}(h:Bs b):Bs (bG b):=h.append (Bs.le4 _)
def UL{w:World}{v:Value}{l:List Nat}(ht:Tab w)(hs:SvK w v l)(h8:Bs l)(c:Nat)(hc:c<4294967296) :
  Calls prog 118 #[.int .u32 (c:Int),v] w λe w'=>e=.returned (.int .u32 ((ts c l:Nat):Int))/\w'=w:=by
 obtain⟨a,cap,rfl,h1,h2,_,gV⟩:=hs;have vH:l.length<=9223372036854775807:=by unfold maxLen at h2;omega
 have HC:=ae gV;have H8:=ae h8;have HT:=ae ht
 have ZZ:bits .xor .u32 IntKind.u32.max (c:Int)=((c ^^^ 4294967295:Nat):Int):=by
  have:=u32_xor_nat 4294967295 c (by omega) hc;rw[Nat.xor_comm]at this;exact this
 have Da:c ^^^ 4294967295<4294967296:=nJ hc (by omega);have HE:jgt (ts c l=run (c ^^^ 4294967295) l ^^^ 4294967295):=ae rfl;have HE:=HE;generalize ts c l=R at *;generalize c ^^^ 4294967295=s0 at *;clear gV h8 ht h1 h2;go_enter func118,ntmps118
 go_wp2_with fail;go_loopw [5,12] (λst i w'=>w'=w/\∃ k:Nat,k<=l.length/\i=.int .i64 (k:Int)/\st=.int .u32 ((run s0 (l.take k):Nat):Int)) (λ_ i _=>l.length-(intOf i).toNat)
 case atStart=>exact⟨rfl,0,by omega,rfl,rfl⟩
 case round =>
  obtain⟨rfl,k,hk,rfl,rfl⟩:=hrel;by_cases ar:k<l.length
  ·obtain⟨b,off,rfl,hb,bC⟩:=HC.o (by omega)
   have eP:=bC k ar;have hx8:=H8.o.get ar;have eg:run s0 (l.take k)<4294967296:=BV Da (H8.o.take k)
   have HN:jgt (run s0 (l.take (k+1))=fo 4 (fo 4 (run s0 (l.take k) ^^^ l[k]))):=by
    show _=_
    rw[UK ar];exact ry 4 4 _
   clear bC;generalize l[k]=x at *;generalize run s0 (l.take k)=s at *;have hxx:=u32_xor_nat s x eg (by omega);have Gj:s ^^^ x<4294967296:=nJ eg (by omega);generalize s ^^^ x=y at *;have hy1:fo 4 y<4294967296:=vV 4 Gj;go_wp2_with fail;refine(EW HT.o y Gj).mono ?_;rintro e w1 ⟨rfl,rfl⟩;generalize fo 4 y=y1 at *;go_wp2_with fail;refine(EW HT.o y1 hy1).mono ?_;rintro e w2 ⟨rfl,rfl⟩;generalize fo 4 y1=y2 at *;go_wp2_with fail;go_roundw
   case rel=>exact⟨trivial,k+1,by omega,by go_num,by rw[HN.o]⟩
   case measure=>simp[intOf];omega
  ·obtain rfl:k=l.length:=by omega
   rw[jeJ];have eg:run s0 l<4294967296:=BV Da H8.o;have hxx:=u32_xor_nat 4294967295 (run s0 l) (by omega) eg;rw[Nat.xor_comm,<- HE.o]at hxx;have hxx':bits .xor .u32 IntKind.u32.max ((run s0 l:Nat):Int)=(R:Int):=hxx;clear hxx;generalize run s0 l=s at *;go_wp2_with fail;go_ret
   exact⟨rfl,rfl⟩
def Zg{w:World}{v:Value}{l:List Nat}(ht:Tab w)(hs:SvK w v l)(h8:Bs l) :
  Calls prog 79 #[v] w λe w'=>e=.returned (.int .u32 ((ts 0 l:Nat):Int))/\w'=w:=by
 have HM:=ae (UL ht hs h8 0 (by omega));obtain⟨a,cap,rfl,h1,h2⟩:=hs.form;clear hs h8 ht;generalize ts 0 l=R at *;go_enter func79,ntmps79
 go_wp2_with fail;refine HM.o.mono ?_;rintro e w1 ⟨rfl,rfl⟩;go_wp2_with fail;go_ret
 exact⟨rfl,rfl⟩
def Mi(x:Nat):IntKind.u8.wrap ((x:Nat):Int)=((x % 256:Nat):Int):=by rw[IntKind.wrap_u8];omega
def EX{w:World}{v:Value}{l:List Nat}(ht:Tab w)(hs:SvK w v l)(h8:Bs l)(hl:l.length<=100000000) :
  Calls prog 40 #[v] w (ee w (bG l)):=by
 have HO:=ae (Zg ht hs h8);have HS:=ae hs;have HE:jgt (bG l=l++le4 (ts 0 l)):=ae rfl;have hc:=BW (c:=0) (by omega) h8;obtain⟨a,cap,rfl,h1,h2⟩:=hs.form;clear hs h8 ht h1 h2;generalize ts 0 l=c at *;have ng:(c:Int) / 256=((c / 256:Nat):Int):=by omega
 have nc:(c:Int) / 65536=((c / 65536:Nat):Int):=by omega
 have Ll:(c:Int) / 16777216=((c / 16777216:Nat):Int):=by omega
 have HD:jgt (le4 c=[c % 256,c / 256 % 256,c / 65536 % 256,c / 16777216 % 256]):=ae rfl;have g0:=Mi c;have g1:=Mi (c / 256);have g2:=Mi (c / 65536);have g3:=Mi (c / 16777216);generalize c / 256=c1 at *;generalize c / 65536=c2 at *;generalize c / 16777216=c3 at *;generalize c % 256=d0 at *;generalize c1 % 256=d1 at *;generalize c2 % 256=d2 at *;generalize c3 % 256=d3 at *;obtain⟨i0,hi,bR,hz1',aX⟩:=jeT nl;go_enter func40,ntmps40
 go_wp2_with fail;refine HO.o.mono ?_;rintro e w1 ⟨rfl,rfl⟩;go_wp2_with (first | (refine wpList_make_own _ rfl _ _ 30 rfl w1.heap.size 5 i0 (.int .u8 0) 1 underlying30 hi bR hz1' .i64 .i64 _ (l.length+4) rfl rfl ?m1 ?m2 ?m3 ?m4 ?_))
 case m1=>first | rfl | omega
 case m2=>rw[aX];omega
 case m3=>unfold maxLen;omega
 case m4=>omega
 intro w2 eA fY;have ap:jgu w1 w2:=(jez _ _).grown fY (jeA _) (λk hk=>by cases hk);have ho2':aM w2 w1.heap.size (.slice (some ⟨w1.heap.size,0,none⟩) 0 (l.length+4)) []:=eA;have eb:=ae ho2';have aG:=ae ap;have fJ:=ae (HS.o.kept ap);have lA:=ap.size;clear eA fY ap ho2';go_wp2_with (first | (at_builtin;refine iq rfl _ _ rfl w1.heap.size _ _ [] l rfl eb.o rfl fJ.o ?c1 ?c2 ?_))
 case c1=>simp;omega
 case c2=>omega
 intro v3 w3 o3 aJ;have dL:=ae o3;have aY:=ae (aG.o.trans aJ);have hsz3:=aJ.size;clear o3 aJ;have QW:jgt (aM (w3.alloc (.cells #[.int .u8 (d0:Int),.int .u8 (d1:Int),.int .u8 (d2:Int),.int .u8 (d3:Int)] 5)) w3.heap.size (.slice (some ⟨w3.heap.size,0,none⟩) 4 4) [d0,d1,d2,d3]):=ae (zz w3 [d0,d1,d2,d3] (by unfold maxLen;simp));have gT:=ae (dL.o.kept (en w3 (.cells #[.int .u8 (d0:Int),.int .u8 (d1:Int),.int .u8 (d2:Int),.int .u8 (d3:Int)] 5)));go_wp2_with (first | (at_builtin;refine iq rfl _ _ rfl w1.heap.size _ _ ([]++l) [d0,d1,d2,d3] rfl ?q1 rfl ?q2 ?c3 ?c4 ?_))
 case q1=>exact gT.o
 case q2=>exact QW.o.svK
 case c3=>simp;omega
 case c4=>rw[jeB];omega
 intro v5 w5 o5 bQ;try rw[jfu]at o5
 rw[<- HD.o,<- HE.o]at o5;have dK:=ae o5;have bq:=ae (aY.o.trans (((en w3 (.cells #[.int .u8 (d0:Int),.int .u8 (d1:Int),.int .u8 (d2:Int),.int .u8 (d3:Int)] 5)).mono (by omega)).trans bQ));clear o5 bQ;go_wp2_with fail;go_ret
 exact⟨⟨_,rfl,dK.o⟩,bq.o⟩
def Zh{a b:List Nat}(ha:Bs a)(hb:Bs b):(a.map Nat.toUInt8==b.map Nat.toUInt8)=decide (a=b):=by
 rw[jfK];simp only[beq_iff_eq,jfb];exact⟨xK ha hb,λh=>by rw[h]⟩
def JV{w:World}{v u:Value}{a b:List Nat}(ha:SvK w v a)(hb:SvK w u b)(ha8:Bs a)(kO:Bs b) :
  Calls prog 92 #[v,u] w λe w'=>e=.returned (.bool (decide (a=b)))/\w'=w:=by
 have ju:=ha.conv ha8;have jv:=hb.conv kO;have HE:=ae (Zh ha8 kO);obtain⟨a1,cap1,rfl,_,_⟩:=ha.form;obtain⟨a2,cap2,rfl,_,_⟩:=hb.form;unfold txt at ju jv;generalize a.map Nat.toUInt8=x at *;generalize b.map Nat.toUInt8=y at *;generalize decide (a=b)=t at *;clear ha hb ha8 kO;go_enter func92,ntmps92
 go_wp2_with fail;go_ret
 refine⟨?_,rfl⟩;rw[<- HE.o];simp
def JW{w:World}{v:Value}{l:List Nat}(hs:SvK w v l)(hl:l.length<=100000000) :
  Calls prog 93 #[v] w (ee w l):=by
 have HS:=ae hs;obtain⟨ad,cap,rfl,h1,h2,h3,_⟩:=hs;cases ad with
 | none =>
  have hc:=h3 rfl;subst hc;have tN:l=[]:=jeW (by omega);subst tN;have hq:(binOp .eql 30 (.slice none 0 0) (.slice none 0 0)).run prog w=.ok (.bool true) w:=jgo w 30 5 none 0 0 0 0 underlying30;go_enter func93,ntmps93
  go_wp2_with fail;go_ret
  exact⟨⟨_,rfl,aM.nil _ _⟩,jez _ _⟩
 | some ad =>
  have HN:=ae (wy w);have fJ:=ae (HS.o.kept (en w (.cells #[] 5)));clear h3;have hq:(binOp .eql 30 (.slice (some ad) l.length cap) (.slice none 0 0)).run prog w=.ok (.bool false) w:=jgo w 30 5 (some ad) l.length cap 0 0 underlying30;go_enter func93,ntmps93
  go_wp2_with (first | (at_builtin;refine iq rfl _ _ rfl w.heap.size _ _ [] l rfl ?q1 rfl ?q2 ?c1 ?c2 ?_))
  case q1=>exact HN.o
  case q2=>exact fJ.o
  case c1=>simp;omega
  case c2=>rw[jeB];omega
  intro v3 w3 o3 aJ;have dL:=ae o3;have aY:=ae ((en w (.cells #[] 5)).trans aJ);clear o3 aJ;go_wp2_with fail;go_ret
  exact⟨⟨_,rfl,dL.o⟩,aY.o⟩
def jch(w:World)(o:Option (List Nat))(e:Ending)(w':World):Prop:=(∃ v,e=.returned (.tuple #[v,.bool o.isSome])/\aM w' w.heap.size v (o.getD []))/\jgu w w'
def EY{l:List Nat}(h:l.length<4):jo l=none:=by
 unfold jo;rw[jex (by omega)]
def UM{w:World}{v:Value}{l:List Nat}(ht:Tab w)(hs:SvK w v l)(h8:Bs l)(hl:l.length<=100000000) :
  Calls prog 51 #[v] w (jch w (jo l)):=by
 have HS:=ae hs;obtain⟨a,cap,rfl,h1,h2⟩:=hs.form;have vH:l.length<=9223372036854775807:=by omega
 by_cases h4:l.length<4
 ·rw[EY h4]
  have ar:(l.length:Int)-4<0:=by omega
  clear hs h8 ht h1 h2;go_enter func51,ntmps51
  go_wp2_with fail;go_ret2
  exact⟨⟨_,rfl,aM.nil _ _⟩,jez _ _⟩
 ·obtain⟨n,hn⟩:∃ n,l.length=n+4:=⟨l.length-4,by omega⟩
  have mY:¬ (n:Int)<0:=by omega
  have CX:n<=l.length:=by omega
  have hA:=hs.take CX;have HA:=ae hA;have H8:=ae h8;have H8t:=ae (h8.take n);have HSE:=ae (EX ht hA (h8.take n) (by rw[jeH];omega))
  have AU:jgt (jo l=if bG (l.take n)=l then some (l.take n) else none):=by
   show _=_
   unfold jo;rw[hn,Nat.add_sub_cancel];simp
  have oT:(l.length:Int)-4=(n:Int):=by omega
  have bH:(l.take n).length<=100000000:=by rw[jeH];omega
  have hncap:n<=cap:=by omega
  rw[hn]at HS;rw[hn];clear hs h8 ht h1 h2 hA vH;have H8s:=ae H8t.o.seal;generalize jo l=R at *;generalize l.take n=m at *;go_enter func51,ntmps51
  go_wp2_with fail;refine HSE.o.mono ?_;rintro e w1 ⟨⟨v1,rfl,o1⟩,az⟩;have Di:=ae (JV (HS.o.kept az) o1.svK H8.o H8s.o);have Gu:=ae (HA.o.kept az);have aL:=ae az;clear o1 az;by_cases zg:bG m=l
  ·rw[zg,jeP rfl]at Di
   have HR:jgt (R=some m):=by show _=_;rw[AU.o,jey zg]
   clear zg AU H8s;go_wp2_with fail;refine Di.o.mono ?_;rintro e w2 ⟨rfl,rfl⟩;go_wp2_with fail;refine(JW Gu.o bH).mono ?_;rintro e w3 ⟨⟨v3,rfl,o3⟩,aJ⟩;have dL:=ae o3;have aY:=ae aJ;clear o3 aJ;go_wp2_with fail;go_ret2
   rw[HR.o];refine⟨⟨_,rfl,?_⟩,ai aL.o aY.o⟩;exact dL.o.low aL.o.size
  ·rw[jeM (λh=>zg h.symm)]at Di
   have HR:jgt (R=none):=by show _=_;rw[AU.o,jex zg]
   clear zg AU H8s;go_wp2_with fail;refine Di.o.mono ?_;rintro e w2 ⟨rfl,rfl⟩;go_wp2_with fail;go_ret2
   rw[HR.o];exact⟨⟨_,rfl,aM.nil _ _⟩,aL.o⟩
end Go.Proofs.YtpljdjmpamjkhaaGreatDoor
