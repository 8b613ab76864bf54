import Derived.Test.YtpljdjmpamjkhaaGreatDoorSap
set_option linter.all false
set_option maxRecDepth 100000
set_option maxHeartbeats 8000000
namespace Go.Proofs.YtpljdjmpamjkhaaGreatDoor
open Tryz
open Go.RowKit Go.Lib
def Mo(fs:List Fd)(rs:List Row):Prop:=∀ r∈rs,r.length=fs.length/\∀ c∈r,aI c
def tG{fs:List Fd}{n:Nat}{cols:List (List Cl)}(hw:Whl fs n cols)(hc:cols.length=fs.length):Mo fs (fF n cols):=by
 intro r hr;obtain⟨i,hi,rfl⟩:=jeN.1 hr;refine⟨by rw[jeE];exact hc,λc bx=>?_⟩;obtain⟨l,hl,rfl⟩:=jeN.1 bx;obtain⟨k,hk,rfl⟩:=List.mem_iff_getElem.1 hl;obtain⟨h1,h2⟩:=hw k hk;have ar:i<cols[k].length:=by rw[h2];simpa using hi
 rw[List.getD_eq_getElem?_getD,List.getElem?_eq_getElem ar];exact(h1.2.2 _ (jeD ar)).fine
def Qn{fs:List Fd}{n:Nat}{s:S3}(hn:n<=64)(hk:∀ f∈fs,1<=f.2.2.1/\f.2.2.1<=3)(hb:Bs s.1)(h:(grK fs n s fs.length).2.2.2.2=false) :
  ∃ p,((grK fs n s fs.length).1,(grK fs n s fs.length).2.1)=grp fs p/\p.length=n/\Mo fs p/\Bs (grK fs n s fs.length).2.2.1:=by
 obtain⟨cols,h1,h2,h3,h4,h5⟩:=PG hn hk hb (jeA _) h;refine⟨fF n cols,?_,gi _ _,tG h2 h1,h5⟩;unfold grp;rw[h3,h4];congr 1
 apply List.ext_getElem?
 intro i;rw[List.getElem?_map,List.getElem?_map];by_cases hi:i<fs.length
 ·rw[List.getElem?_range hi,List.getElem?_eq_getElem (by omega)]
  simp only[jfC];rw[EM (by omega) (h2 i (by omega)).2]
 ·rw[List.getElem?_eq_none (by omega),List.getElem?_eq_none (by simp;omega)]
  rfl
def Ay{fs:List Fd}{g tot:Nat}{s:S3}(hg:g<=64)(hk:∀ f∈fs,1<=f.2.2.1/\f.2.2.1<=3)(hb:Bs s.1):∀ j:Nat,(fiJ fs g tot s j).2.2.2=false ->
  ∃ L:List (List Row),(fiJ fs g tot s j).1=L.map (grp fs)/\L.length=j/\(∀ i (h:i<L.length),L[i].length=min (tot-i*g) g)/\(∀ p∈L,Mo fs p)/\Bs (fiJ fs g tot s j).2.1
 | 0,h=>⟨[],rfl,rfl,λi h=>by simp at h,λp hp=>by simp at hp,hb⟩
 | j+1,h=>by
  have h0:(fiJ fs g tot s j).2.2.2=false:=pS (Nat.le_succ j) h;obtain⟨L,h1,h2,h3,h4,h5⟩:=Ay hg hk hb j h0;obtain⟨p,e1,e2,e3,e4⟩:=Qn (n:=min (tot-j*g) g) (by omega) hk h5 h;refine⟨L++[p],?_,by simp[h2],?_,?_,e4⟩
  ·show (fiJ fs g tot s j).1++[_]=_
   rw[e1,h1,jeR];rfl
  ·intro i hi
   rcases je0 i L.length with h6 | h6
   ·rw[jgp h6]
    exact h3 i h6
   ·obtain rfl:i=L.length:=by simp at hi;omega
    rw[List.getElem_append_right (jeA _)];simp only[jf4,jfY];rw[e2,h2]
  ·intro q hq
   rcases je1.1 hq with hq | hq
   ·exact h4 q hq
   ·rw[je9.1 hq]
    exact e3
def qe{g tot:Nat}{L:List (List Row)}(h:∀ i (h:i<L.length),L[i].length=min (tot-i*g) g):∀ j,j<=L.length->j*g<=tot->(L.take j).flatten.length=j*g
 | 0,_,_=>by simp
 | j+1,hj,hg=>by
  rw[jeO (by omega),jgg,jeC,qe h j (by omega) (by rw[jfd]at hg;omega)];simp only[jfO,List.flatten_nil,jeS];rw[h j (by omega),jfd];rw[jfd]at hg;omega
def Vu{g tot:Nat}(hg:0<g){L:List (List Row)}(h:∀ i (h:i<L.length),L[i].length=min (tot-i*g) g)(hL:L.length=nps g tot){j:Nat}(hj:j<L.length):prt g L.flatten j=L[j]:=by
 have ar:j*g<tot:=(kH hg).1 (by omega)
 have e:L.flatten=(L.take j).flatten++(L[j]++(L.drop (j+1)).flatten):=by
  conv=>lhs;rw[<- jfz j L,jgg,je8 hj,jfO]
 have hf:=qe h j (by omega) (by omega);unfold prt;rw[e,<- hf,jfc];have hl:=h j hj;by_cases hc:(j+1)*g<tot
 ·have:L[j].length=g:=by rw[hl];rw[jfd]at hc;omega
  rw[<- this,jfo]
 ·have hn:¬ j+1<nps g tot:=λh2=>hc ((kH hg).1 h2)
  have:L.drop (j+1)=[]:=jfM (by omega);rw[this,List.flatten_nil,jeS];exact jfi (by omega)
def Kx{g tot:Nat}(hg:0<g){L:List (List Row)}(h:∀ i (h:i<L.length),L[i].length=min (tot-i*g) g)(hL:L.length=nps g tot):L.flatten.length=tot:=by
 rcases jfs L.length with h0 | h0
 ·have:L=[]:=jeW h0
  subst this;have:¬ 0<nps g tot:=by rw[<- hL];simp
  rw[kH hg]at this;simp
  omega
 ·have hj:L.length-1<L.length:=by omega
  have ar:(L.length-1)*g<tot:=(kH hg).1 (by omega);have hf:=qe h (L.length-1) (by omega) (by omega);have hn:¬ L.length<nps g tot:=by omega
  rw[kH hg]at hn
  have e:L.flatten=(L.take (L.length-1)).flatten++(L[L.length-1]++(L.drop (L.length-1+1)).flatten):=by
   conv=>lhs;rw[<- jfz (L.length-1) L,jgg,je8 hj,jfO]
  have hd:L.drop (L.length-1+1)=[]:=jfM (by omega);rw[e,jeC,hf,hd,List.flatten_nil,jeS,h _ hj]
  have:L.length*g=(L.length-1)*g+g:=by
   conv=>lhs;rw[show L.length=L.length-1+1 by omega,jfd,jfT]
  omega
def dJ{α β : Type}{d:List Nat->Except Nat (α×List Nat)}{f:α->List Nat->Except Nat (β×List Nat)}{b r:List Nat}{y:β}(h:aw d f b=.ok (y,r)):∃ x s,d b=.ok (x,s)/\f x s=.ok (y,r):=by
 cases hd:d b with
 | error e=>rw[bY hd]at h;cases h
 | ok q =>
  obtain⟨x,s⟩:=q;rw[cB hd]at h;exact⟨x,s,rfl,h⟩
def xQ{room n:Nat}{b r:List Nat}(h:gY room b=.ok (n,r)):n<=room:=by
 unfold gY at h;split at h
 ·cases h
 ·split at h
  ·cases h
  ·next h1 =>
   simp only[Except.ok.injEq,Prod.mk.injEq]at h;omega
def Vv{b r:List Nat}{f:Fd}(h:uZ b=.ok (f,r)):Okf f:=by
 unfold uZ at h;obtain⟨i,s1,e1,h⟩:=dJ h;obtain⟨t,s2,e2,h⟩:=dJ h;obtain⟨k,s3,e3,h⟩:=dJ h;obtain⟨n,s4,e4,h⟩:=dJ h;simp only[Except.ok.injEq,Prod.mk.injEq]at h;obtain⟨rfl,_⟩:=h;have h1:=xQ e1;have h3:=xQ e3;exact⟨by show i<_;omega,by show k<_;omega⟩
def Az:∀{n:Nat} {b r:List Nat} {l:List Fd},kY n b=.ok (l,r)->∀ f∈l,Okf f
 | 0,b,r,l,h=>by
  simp only[kY,Except.ok.injEq,Prod.mk.injEq]at h;obtain⟨rfl,_⟩:=h;intro f hf;simp at hf
 | n+1,b,r,l,h=>by
  unfold kY at h;obtain⟨l1,s1,e1,h⟩:=dJ h;obtain⟨f1,s2,e2,h⟩:=dJ h;simp only[Except.ok.injEq,Prod.mk.injEq]at h;obtain⟨rfl,_⟩:=h;intro f hf;rcases je1.1 hf with hf | hf
  ·exact Az e1 f hf
  ·rw[je9.1 hf]
   exact Vv e2
def uN{b r:List Nat}{id:Nat}{fs:List Fd}(h:cD b=.ok ((id,fs),r)):chk id fs=0/\id<4294967296/\∀ f∈fs,Okf f:=by
 unfold cD at h;obtain⟨q,s1,e1,h⟩:=dJ h;unfold Dy at e1;obtain⟨i,s2,e2,e1⟩:=dJ e1;obtain⟨n,s3,e3,e1⟩:=dJ e1;obtain⟨l,s4,e4,e1⟩:=dJ e1;simp only[Except.ok.injEq,Prod.mk.injEq]at e1;obtain⟨rfl,rfl⟩:=e1;have h2:=xQ e2;by_cases hc:chk i l=0
 ·rw[jey hc]at h
  simp only[Except.ok.injEq,Prod.mk.injEq]at h;obtain⟨⟨rfl,rfl⟩,_⟩:=h;exact⟨hc,by omega,Az e4⟩
 ·rw[jex hc]at h
  cases h
def FH{b:List Nat}(hb:Bs b){id g:Nat}{fs:List Fd}{gs:List Gr}(h:jq b=some (id,fs,g,gs)) :
  chk id fs=0/\id<4294967296/\(∀ f∈fs,Okf f)/\1<=g/\g<=64/\(bJ gs).length<=256/\Mo fs (bJ gs)/\gs=(List.range (nps g (bJ gs).length)).map λi=>grp fs (prt g (bJ gs) i):=by
 unfold jq at h;split at h
 ·cases h
 ·split at h
  ·cases h
  ·split at h
   ·cases h
   ·next id' fs' r hu =>
    split at h
    ·cases h
    ·next hn =>
     simp only[Option.some.injEq,Prod.mk.injEq]at h;obtain⟨rfl,rfl,hg,rfl⟩:=h;obtain⟨hc,hi,ho⟩:=uN hu;have hk:=gR hc;have eI:=Bool.eq_false_iff.2 hn;have hs:=eI;unfold gQ at hs;have gx:=pS (jfl _) hs;simp only[fiJ,Bool.or_eq_false_iff]at gx;have dP:=Mh gx.2;have fY:=rB 1 64 (db r);obtain⟨L,h1,h2,h3,h4,h5⟩:=Ay fY hk (hb.take _) _ hs;have ht:=Kx (by omega) h3 h2
     have ch:bJ (gQ fs' (b.take (b.length-4-leN (b.drop (b.length-4)))) r).1=L.flatten:=by
      unfold gQ bJ;rw[h1,jfa];congr 1
      exact List.map_id'' (λ_=>rfl) _
     rw[ch,<- hg];have La:=rB 0 256 r;refine⟨hc,hi,ho,dP,fY,by omega,?_,?_⟩
     ·intro x hx
      obtain⟨p,hp,hxp⟩:=List.mem_flatten.1 hx;exact h4 p hp x hxp
     ·unfold gQ
      rw[h1,ht];apply List.ext_getElem?
      intro i;rw[List.getElem?_map,List.getElem?_map];by_cases MF:i<L.length
      ·rw[List.getElem?_eq_getElem MF,List.getElem?_range (by omega)]
       simp only[jfC];rw[Vu (by omega) h3 h2 MF]
      ·rw[List.getElem?_eq_none (by omega),List.getElem?_eq_none (by simp;omega)]
       rfl
def St(T:Nat)(W:World)(p:Nat)(b:List Nat)(f:Nat):Prop :=
 ∃ a cap,W.heap[p]?=some (.cells #[.slice a b.length cap,.int .i64 (f:Int)] T (0,0))/\b.length<=cap/\cap<=maxLen/\Bs b/\(a=none->cap=0) /\
  (0<b.length->∃ g off,a=some ⟨g,off,none⟩/\g<p/\∀ j (h:j<b.length),W.cell? ⟨g,off+j,none⟩=some (.int .u8 (b[j]:Int)))
def St.bs{T:Nat}{W:World}{p:Nat}{b:List Nat}{f:Nat}(h:St T W p b f):Bs b:=by obtain⟨_,_,_,_,_,h,_⟩:=h;exact h
def St.lt{T:Nat}{W:World}{p:Nat}{b:List Nat}{f:Nat}(h:St T W p b f):p<W.heap.size:=by obtain⟨_,_,h,_⟩:=h;exact(Array.getElem?_eq_some_iff.1 h).1
def St.kept{T:Nat}{W W':World}{p B:Nat}{b:List Nat}{f:Nat}(h:St T W p b f)(hb:Below B W W')(hp:p<B):St T W' p b f:=by
 obtain⟨a,cap,h1,h2,h3,h4,h5,h6⟩:=h;refine⟨a,cap,(hb.block p hp).trans h1,h2,h3,h4,h5,λh0=>?_⟩;obtain⟨g,off,e,hg,hc⟩:=h6 h0;exact⟨g,off,e,hg,λj hj=>(hb.cell (p:=⟨g,off+j,none⟩) (show g<B by omega)).trans (hc j hj)⟩
def St.cells{T:Nat}{W:World}{p:Nat}{b:List Nat}{f:Nat}(h:St T W p b f) :
  ∃ a cap,W.cell? ⟨p,0,none⟩=some (.slice a b.length cap)/\W.cell? ⟨p,1,none⟩=some (.int .i64 (f:Int))/\W.frozen? ⟨p,0,none⟩=false/\W.frozen? ⟨p,1,none⟩=false /\
   b.length<=cap/\cap<=9223372036854775807/\Sv W (.slice a b.length cap) (aA .u8 b)/\(a=none->cap=0) /\
   (∀ f':Nat,St T (W.setCell ⟨p,1,none⟩ (.int .i64 (f':Int))) p b f') /\
   (∀ A k,k<=b.length->(k=b.length->(A=none->cap-k=0))->(k<b.length->∃ g off,a=some ⟨g,off,none⟩/\A=some ⟨g,off+k,none⟩)->St T (W.setCell ⟨p,0,none⟩ (.slice A (b.length-k) (cap-k))) p (b.drop k) f):=by
 have ar:=h.lt;obtain⟨a,cap,h1,h2,h3,h4,h5,h6⟩:=h
 have iF:Sv W (.slice a b.length cap) (aA .u8 b):=by
  refine⟨a,cap,by rw[am],by rw[am];omega,h3,h5,λh0=>?_⟩;rw[am]at h0;obtain⟨g,off,e,hg,hc⟩:=h6 h0;refine⟨g,off,e,by omega,λj x hj=>?_⟩
  have hj':j<b.length:=by
   have:=(List.getElem?_eq_some_iff.1 hj).1;rwa[am]at this
  rw[bN hj']at hj;rw[hc j hj'];exact hj
 refine⟨a,cap,by rw[an h1];rfl,by rw[an h1];rfl,by simp[World.frozen?,h1],by simp[World.frozen?,h1],h2,by unfold maxLen at h3;omega,iF,h5,λf'=>?_,λA k hk hA0 hA1=>?_⟩
 ·refine⟨a,cap,by rw[aT h1];rfl,h2,h3,h4,h5,λh0=>?_⟩
  obtain⟨g,off,e,hg,hc⟩:=h6 h0;refine⟨g,off,e,hg,λj hj=>?_⟩;rw[World.cell?_of_block (w:=W) (Below.heap_setCell _ _ _ _ (show g≠p by omega))];exact hc j hj
 ·have hl:(b.drop k).length=b.length-k:=jeX
  refine⟨A,cap-k,by rw[aT h1,hl];rfl,by omega,by omega,h4.drop k,λhA=>?_,λh0=>?_⟩
  ·rcases je0 k b.length with ar | ed
   ·obtain⟨g,off,_,e2⟩:=hA1 ar
    rw[hA]at e2;cases e2
   ·exact hA0 (by omega) hA
  ·have ar:k<b.length:=by omega
   obtain⟨g,off,e1,e2⟩:=hA1 ar;obtain⟨g',off',e,hg,hc⟩:=h6 (by omega);rw[e1]at e;simp only[Option.some.injEq,Addr.mk.injEq,and_true]at e;obtain⟨rfl,rfl⟩:=e;refine⟨g,off+k,e2,hg,λj hj=>?_⟩;rw[World.cell?_of_block (w:=W) (Below.heap_setCell _ _ _ _ (show g≠p by omega)),jfG,hc (k+j) (by omega)];simp
def mF{w:World}{p f:Nat}{b:List Nat}(h:St 200 w p b f)(e:Nat) :
  Calls prog 140 #[.pointer (some ⟨p,0,none⟩),.int .i64 (e:Int)] w λr w'=>r=.returned (.tuple #[])/\St 200 w' p b (orf f e)/\Fr p w.heap.size w w':=by
 have HS:=ae h;obtain⟨a,cap,h0,h1,h2,h3,h4,h5,h6,h7,h8,h9⟩:=h.cells;have H8:=ae (h8 e);have HF:=ae ((Fr.refl p w.heap.size w).set 1 (.int .i64 (e:Int)));clear h h6 h8 h9;by_cases hf:((f:Int)==0)=true
 ·have hf':f=0:=by simpa using hf
  have HO:jgt (orf f e=e):=by show _=_;unfold orf;rw[jey hf']
  clear hf';go_enter func140,ntmps140
  go_wp2_with fail;go_end0
  rw[HO.o];exact⟨rfl,H8.o,HF.o⟩
 ·have hff:((f:Int)==0)=false:=by simpa using hf
  have HO:jgt (orf f e=f):=by show _=_;unfold orf;rw[jex (λe=>hf (by simp[e]))]
  clear hf;go_enter func140,ntmps140
  go_wp2_with fail;go_end0
  rw[HO.o];exact⟨rfl,HS.o,Fr.refl _ _ _⟩
def Ky(T:Nat){α : Type}(m:List Nat->Except Nat (α×List Nat))(val:α->Value)(ok:α->Prop)(p:Nat)(b:List Nat)(f:Nat)(w:World)(r:Ending)(w':World):Prop :=
 ∃(x:α) (b':List Nat) (f':Nat),r=.returned (val x)/\ok x/\St T w' p b' f'/\Rds m b f x b' f'/\Fr p w.heap.size w w'
def FI{room:Nat}{l:List Nat}{f:Nat}(hc:(gt l).2.2≠0):Rds (gY room) l f 0 l (orf f (gt l).2.2):=by
 have h:=Bj (room:=room) (l:=l) (f:=f);rw[jey (Or.inl hc),jey (Or.inl hc),jey hc]at h;exact h
def Ct{room:Nat}{l:List Nat}{f:Nat}(hc:(gt l).2.2=0)(hn:room<(gt l).1):Rds (gY room) l f 0 l (orf f 40):=by
 have h:=Bj (room:=room) (l:=l) (f:=f);rw[jey (Or.inr hn),jey (Or.inr hn),jex (show ¬ (gt l).2.2≠0 by omega),jey hn]at h;exact h
def Kz{room:Nat}{l:List Nat}{f:Nat}(hc:(gt l).2.2=0)(hn:¬ room<(gt l).1):Rds (gY room) l f (gt l).1 (l.drop (gt l).2.1) f:=by
 have h:=Bj (room:=room) (l:=l) (f:=f);have h2:¬ ((gt l).2.2≠0∨room<(gt l).1):=by omega
 rw[jex h2,jex h2,jex (show ¬ (gt l).2.2≠0 by omega),jex hn,show (if f=0 then 0 else f)=f by split<;>omega]at h;exact h
def Zv{b:List Nat}(h:(gt b).2.2=0)(hb:Bs b):0<(gt b).2.1/\(gt b).2.1<=b.length:=by
 obtain⟨n,u,c,hg⟩:∃ n u c,gt b=(n,u,c):=⟨_,_,_,rfl⟩;rw[hg]at h ⊢;simp only at h;subst h;obtain⟨_,h2,h3⟩:=Sn hb hg;have:=wG n;have h4:=jeG List.length h2;simp only[jeC,jeX]at h4;simp only;omega
def iR{w:World}{p f:Nat}{b:List Nat}(h:St 200 w p b f)(room:Nat)(hroom:room<18446744073709551616) :
  Calls prog 178 #[.pointer (some ⟨p,0,none⟩),.int .u64 (room:Int)] w (Ky 200 (gY room) (λx=>.int .u64 ((x:Nat):Int)) (λx=>x<=room) p b f w):=by
 have HS:=ae h;have HB:=ae h.bs;have jw:=ae (FI (room:=room) (l:=b) (f:=f));have fZ:=ae (Ct (room:=room) (l:=b) (f:=f));have jL:=ae (Kz (room:=room) (l:=b) (f:=f));obtain⟨a,cap,h0,h1,h2,h3,h4,h5,h6,h7,h8,h9⟩:=h.cells;obtain⟨g1,g2,g3,g4⟩:=fK b;have HG:=ae (Bk HB.o h6);have HU:=ae (λe=>Zv (b:=b) e HB.o);have MI:=ae h6;have H9:=ae h9;clear h h6 h8 h9 g3;generalize gt b=x at *;obtain⟨n,u,c⟩:=x;simp only at *;unfold kQ at HG;by_cases hc:c=0
 ·subst hc
  by_cases hn:room<n
  ·have hn':(n:Int) > (room:Int):=by omega
   have HR:=ae (fZ.o rfl hn);clear jw fZ jL;go_enter func178,ntmps178
   go_wp2_with fail;refine HG.o.mono ?_;rintro e w1 ⟨rfl,rfl⟩;go_wp2_with fail;refine(mF HS.o 40).mono ?_;rintro e w2 ⟨rfl,cV,cM⟩;have fJ:=ae cV;clear cV;go_wp2_with fail;go_ret
   exact⟨0,b,_,rfl,jfl _,fJ.o,HR.o,cM⟩
  ·have hn':¬ (n:Int) > (room:Int):=by omega
   have HR:=ae (jL.o rfl hn);clear jw fZ jL;obtain⟨hu1,hu2⟩:=HU.o rfl;have iV:0<b.length:=(by omega)
   obtain⟨g,off,ha⟩:∃ g off,a=some ⟨g,off,none⟩:=by
    obtain⟨a',cap',e,_,_,_,hx⟩:=MI.o;simp only[Value.slice.injEq]at e;obtain⟨b',off',e2,_⟩:=hx (by rw[am];exact iV);exact⟨b',off',e.1.trans e2⟩
   subst ha;obtain⟨A,hA⟩:∃ A,(if cap=u then (some ⟨g,off,none⟩:Option Addr) else some ⟨g,off+u,none⟩)=A:=⟨_,rfl⟩
   have cF:=ae (H9.o A u hu2 (λhk hA'=>by
    rw[hA']at hA;split at hA<;>cases hA) (λhk=>⟨g,off,rfl,by rw[<- hA,jex (by omega)]⟩))
   have iy:=ae ((Fr.refl p w.heap.size w).set 0 (.slice A (b.length-u) (cap-u)));clear iV;go_enter func178,ntmps178
   go_wp2_with fail;refine HG.o.mono ?_;rintro e w1 ⟨rfl,rfl⟩;go_wp2_with fail;go_ret
   exact⟨n,b.drop u,f,rfl,by omega,cF.o,HR.o,iy.o⟩
 ·have hnz:n=0:=by omega
  subst hnz;have hc':((c:Int) != 0)=true:=by simp[hc]
  have hn':¬ (0:Int) > (room:Int):=by omega
  have HR:=ae (jw.o hc);clear hc jw fZ jL;go_enter func178,ntmps178
  go_wp2_with fail;refine HG.o.mono ?_;rintro e w1 ⟨rfl,rfl⟩;go_wp2_with fail;refine(mF HS.o c).mono ?_;rintro e w2 ⟨rfl,cV,cM⟩;have fJ:=ae cV;clear cV;go_wp2_with fail;go_ret
  exact⟨0,b,_,rfl,jfl _,fJ.o,HR.o,cM⟩
def xR{n:Nat}{l:List Nat}{f:Nat}(h:l.length<n):Rds (textR n) l f (bytesT []) l (orf f 30):=by
 refine⟨λh0=>?_,λh0=>by unfold orf;rw[jex h0]⟩;unfold textR orf;rw[jey h,jey h0,jex (by omega)]
def FJ{n:Nat}{l:List Nat}{f:Nat}(h:¬ l.length<n):Rds (textR n) l f (bytesT (l.take n)) (l.drop n) f:=by
 refine⟨λh0=>?_,λ_=>rfl⟩;unfold textR;rw[jex h,jey h0]
def Vw{w:World}{p f:Nat}{b:List Nat}(h:St 200 w p b f) :
  Calls prog 212 #[.pointer (some ⟨p,0,none⟩)] w (Ky 200 (So 16) (λs=>.string s) (λs=>s.size<=16) p b f w):=by
 have HN:=ae (iR h 16 (by omega));clear h;go_enter func212,ntmps212
 go_wp2_with fail;refine HN.o.mono ?_;rintro e w1 ⟨n,b1,f1,rfl,hn,dr,mh,cm⟩;have iW:=ae dr;have jw:=ae mh;have dN:=ae cm;have aL:=ae dr.bs;obtain⟨a,cap,h0,h1,h2,h3,h4,h5,h6,h7,h8,h9⟩:=dr.cells;have MI:=ae h6;have H9:=ae h9;have H7:=ae h7;clear dr mh cm h6 h8 h9 h7 HN;by_cases hsh:b1.length<n
 ·have hsh':(n:Int) > (b1.length:Int):=by omega
  have HT:=ae (jw.o.bind (xR (f:=f1) hsh));go_wp2_with fail;refine(mF iW.o 30).mono ?_;rintro e w2 ⟨rfl,cV,cM⟩;have fJ:=ae cV;have eW:=ae (dN.o.trans (cM.mono dN.o.size));clear cV cM;go_wp2_with fail;go_ret
  exact⟨bytesT [],b1,_,rfl,by show (bytesT []).size<=16;rw[be];simp,fJ.o,HT.o,eW.o⟩
 ·have hsh':¬ (n:Int) > (b1.length:Int):=by omega
  have HT:=ae (jw.o.bind (FJ (f:=f1) hsh));have KZ:=(MI.o.take (k:=n) (by rw[am];omega));have e1:(aA .u8 b1).take n=aA .u8 (b1.take n):=by simp[aA,jf3]
  rw[e1]at KZ;have hcv2:=KZ.conv (aL.o.take n);rw[gB]at hcv2;have HLT:jgt ((bytesT (b1.take n)).size<=16):=ae (by rw[be,jeH];omega);have hncap:(n:Int)<=(cap:Int):=by omega
  have hnlen:(n:Int)<=(b1.length:Int):=by omega
  have hnn:(0:Int)<=(n:Int):=by omega
  have hnt:((n:Int)).toNat=n:=by omega
  clear KZ e1;generalize bytesT (b1.take n)=TX at *;rcases jfs b1.length with hz | hp
  ·have mY:n=0:=by omega
   subst mY;cases a with
   | none =>
    have sE:=H7.o rfl;subst sE;have gx:=(H9.o none 0 (by omega) (λ_ _=>rfl) (λh=>by omega));rw[hz]at gx;have cF:=ae gx;have eW:=ae (dN.o.set 0 (.slice none 0 0));clear gx;go_wp2_with fail;go_ret
    exact⟨TX,b1.drop 0,f1,rfl,HLT.o,cF.o,HT.o,eW.o⟩
   | some ad =>
    have gx:=(H9.o (some ad) 0 (by omega) (λ_ hA'=>by cases hA') (λh=>by omega));rw[hz]at gx;have cF:=ae gx;have eW:=ae (dN.o.set 0 (.slice (some ad) 0 cap));clear gx;go_wp2_with fail;go_ret
    exact⟨TX,b1.drop 0,f1,rfl,HLT.o,cF.o,HT.o,eW.o⟩
  ·obtain⟨g,off,ha⟩:∃ g off,a=some ⟨g,off,none⟩:=by
    obtain⟨a',cap',e,_,_,_,hx⟩:=MI.o;simp only[Value.slice.injEq]at e;obtain⟨b',off',e2,_⟩:=hx (by rw[am];exact hp);exact⟨b',off',e.1.trans e2⟩
   subst ha;obtain⟨A,hA⟩:∃ A,(if cap=n then (some ⟨g,off,none⟩:Option Addr) else some ⟨g,off+n,none⟩)=A:=⟨_,rfl⟩
   have cF:=ae (H9.o A n (by omega) (λhk hA'=>by
    rw[hA']at hA;split at hA<;>cases hA) (λhk=>⟨g,off,rfl,by rw[<- hA,jex (by omega)]⟩))
   have eW:=ae (dN.o.set 0 (.slice A (b1.length-n) (cap-n)));go_wp2_with fail;go_ret
   exact⟨TX,b1.drop n,f1,rfl,HLT.o,cF.o,HT.o,eW.o⟩
def Mid(w:World)(p:Nat)(W:World)(b:List Nat)(f:Nat)(x0 x1 x2 x3:Value):Prop :=
 St 200 W p b f/\p<w.heap.size/\W.heap[w.heap.size]?=some (.cells #[.int .u32 0,.string ⟨#[]⟩,.int .u8 0,.bool false] 81 (0,0)) /\
 W.heap[w.heap.size+1]?=some (.cells #[x0,x1,x2,x3] 81 (0,0))/\Fr p w.heap.size w W
def Mid.begin{w:World}{p f:Nat}{b:List Nat}(h:St 200 w p b f) :
  Mid w p ((w.alloc (.cells #[.int .u32 0,.string ⟨#[]⟩,.int .u8 0,.bool false] 81)).alloc (.cells #[.int .u32 0,.string ⟨#[]⟩,.int .u8 0,.bool false] 81)) b f (.int .u32 0) (.string ⟨#[]⟩) (.int .u8 0) (.bool false):=by
 have hbW:=((jez w.heap.size w).alloc (jeA _) (.cells #[.int .u32 0,.string ⟨#[]⟩,.int .u8 0,.bool false] 81)).alloc (by rw[jeB];omega) (.cells #[.int .u32 0,.string ⟨#[]⟩,.int .u8 0,.bool false] 81);have bR:(w.alloc (.cells #[.int .u32 0,.string ⟨#[]⟩,.int .u8 0,.bool false] 81)).heap.size=w.heap.size+1:=jeB _ _;have az:=aj (w.alloc (.cells #[.int .u32 0,.string ⟨#[]⟩,.int .u8 0,.bool false] 81)) (.cells #[.int .u32 0,.string ⟨#[]⟩,.int .u8 0,.bool false] 81);have hh0:=je2 w (.cells #[.int .u32 0,.string ⟨#[]⟩,.int .u8 0,.bool false] 81);have hh:=je2 (w.alloc (.cells #[.int .u32 0,.string ⟨#[]⟩,.int .u8 0,.bool false] 81)) (.cells #[.int .u32 0,.string ⟨#[]⟩,.int .u8 0,.bool false] 81);rw[bR]at hh;exact⟨h.kept hbW h.lt,h.lt,(az.block w.heap.size (by omega)).trans hh0,hh,Fr.of_below hbW⟩
def Mid.call{w W W':World}{p f f':Nat}{b b':List Nat}{x0 x1 x2 x3:Value}(h:Mid w p W b f x0 x1 x2 x3)(hs:St 200 W' p b' f')(hf:Fr p W.heap.size W W'):Mid w p W' b' f' x0 x1 x2 x3:=by
 obtain⟨h1,h2,h3,h4,h5⟩:=h;have l3:=(Array.getElem?_eq_some_iff.1 h3).1;have l4:=(Array.getElem?_eq_some_iff.1 h4).1;exact⟨hs,h2,(hf.block _ l3 (by omega)).trans h3,(hf.block _ l4 (by omega)).trans h4,h5.trans (hf.mono (by omega))⟩
def Mid.facts{w W:World}{p f:Nat}{b:List Nat}{x0 x1 x2 x3:Value}(h:Mid w p W b f x0 x1 x2 x3) :
  (W.cell? ⟨w.heap.size+1,0,none⟩=some x0/\W.cell? ⟨w.heap.size+1,1,none⟩=some x1/\W.cell? ⟨w.heap.size+1,2,none⟩=some x2/\W.cell? ⟨w.heap.size+1,3,none⟩=some x3) /\
  (W.frozen? ⟨w.heap.size+1,0,none⟩=false/\W.frozen? ⟨w.heap.size+1,1,none⟩=false/\W.frozen? ⟨w.heap.size+1,2,none⟩=false/\W.frozen? ⟨w.heap.size+1,3,none⟩=false) /\
  (W.cell? ⟨w.heap.size,0,none⟩=some (.int .u32 0)/\W.cell? ⟨w.heap.size,1,none⟩=some (.string ⟨#[]⟩)/\W.cell? ⟨w.heap.size,2,none⟩=some (.int .u8 0)/\W.cell? ⟨w.heap.size,3,none⟩=some (.bool false)) /\
  (W.frozen? ⟨w.heap.size,0,none⟩=false/\W.frozen? ⟨w.heap.size,1,none⟩=false/\W.frozen? ⟨w.heap.size,2,none⟩=false/\W.frozen? ⟨w.heap.size,3,none⟩=false):=by
 obtain⟨h1,h2,h3,h4,h5⟩:=h;refine⟨⟨?_,?_,?_,?_⟩,⟨?_,?_,?_,?_⟩,⟨?_,?_,?_,?_⟩,⟨?_,?_,?_,?_⟩⟩<;>first | (rw[an h4];rfl) | (rw[an h3];rfl) | (simp[World.frozen?,h4];done) | (simp[World.frozen?,h3];done)
def Mid.keep{w W:World}{p f:Nat}{b:List Nat}{x0 x1 x2 x3:Value}(h:Mid w p W b f x0 x1 x2 x3)(j:Nat)(v:Value) :
  St 200 (W.setCell ⟨w.heap.size+1,j,none⟩ v) p b f/\(W.setCell ⟨w.heap.size+1,j,none⟩ v).heap[w.heap.size]?=some (.cells #[.int .u32 0,.string ⟨#[]⟩,.int .u8 0,.bool false] 81 (0,0))/\Fr p w.heap.size w (W.setCell ⟨w.heap.size+1,j,none⟩ v):=by
 obtain⟨h1,h2,h3,h4,h5⟩:=h;have hb:Below (w.heap.size+1) W (W.setCell ⟨w.heap.size+1,j,none⟩ v):=(jez (w.heap.size+1) W).setCell (show w.heap.size+1<=w.heap.size+1 from jeA _) _;exact⟨h1.kept hb (by omega),(hb.block _ (by omega)).trans h3,h5.then (hb.mono (by omega))⟩
def Mid.set0{w W:World}{p f:Nat}{b:List Nat}{x0 x1 x2 x3:Value}(h:Mid w p W b f x0 x1 x2 x3)(v:Value):Mid w p (W.setCell ⟨w.heap.size+1,0,none⟩ v) b f v x1 x2 x3 :=
 ⟨(h.keep 0 v).1,h.2.1,(h.keep 0 v).2.1,by rw[aT h.2.2.2.1];rfl,(h.keep 0 v).2.2⟩
def Mid.set1{w W:World}{p f:Nat}{b:List Nat}{x0 x1 x2 x3:Value}(h:Mid w p W b f x0 x1 x2 x3)(v:Value):Mid w p (W.setCell ⟨w.heap.size+1,1,none⟩ v) b f x0 v x2 x3 :=
 ⟨(h.keep 1 v).1,h.2.1,(h.keep 1 v).2.1,by rw[aT h.2.2.2.1];rfl,(h.keep 1 v).2.2⟩
def Mid.set2{w W:World}{p f:Nat}{b:List Nat}{x0 x1 x2 x3:Value}(h:Mid w p W b f x0 x1 x2 x3)(v:Value):Mid w p (W.setCell ⟨w.heap.size+1,2,none⟩ v) b f x0 x1 v x3 :=
 ⟨(h.keep 2 v).1,h.2.1,(h.keep 2 v).2.1,by rw[aT h.2.2.2.1];rfl,(h.keep 2 v).2.2⟩
def Mid.set3{w W:World}{p f:Nat}{b:List Nat}{x0 x1 x2 x3:Value}(h:Mid w p W b f x0 x1 x2 x3)(v:Value):Mid w p (W.setCell ⟨w.heap.size+1,3,none⟩ v) b f x0 x1 x2 v :=
 ⟨(h.keep 3 v).1,h.2.1,(h.keep 3 v).2.1,by rw[aT h.2.2.2.1];rfl,(h.keep 3 v).2.2⟩
def Mid.done{w W:World}{p f:Nat}{b:List Nat}{x0 x1 x2 x3:Value}(h:Mid w p W b f x0 x1 x2 x3)(y0 y1 y2 y3:Value) :
  St 200 ((((W.setCell ⟨w.heap.size,0,none⟩ y0).setCell ⟨w.heap.size,1,none⟩ y1).setCell ⟨w.heap.size,2,none⟩ y2).setCell ⟨w.heap.size,3,none⟩ y3) p b f /\
  Fr p w.heap.size w ((((W.setCell ⟨w.heap.size,0,none⟩ y0).setCell ⟨w.heap.size,1,none⟩ y1).setCell ⟨w.heap.size,2,none⟩ y2).setCell ⟨w.heap.size,3,none⟩ y3):=by
 obtain⟨h1,h2,h3,h4,h5⟩:=h
 have hb:Below w.heap.size W ((((W.setCell ⟨w.heap.size,0,none⟩ y0).setCell ⟨w.heap.size,1,none⟩ y1).setCell ⟨w.heap.size,2,none⟩ y2).setCell ⟨w.heap.size,3,none⟩ y3) :=
  have oT:w.heap.size<=w.heap.size:=jeA _;((((jez w.heap.size W).setCell (p:=⟨w.heap.size,0,none⟩) oT _).setCell (p:=⟨w.heap.size,1,none⟩) oT _).setCell (p:=⟨w.heap.size,2,none⟩) oT _).setCell (p:=⟨w.heap.size,3,none⟩) oT _
 exact⟨h1.kept hb h2,h5.then hb⟩
def Zw{b b1 b2 b3 b4:List Nat}{f f1 f2 f3 f4 i k n:Nat}{s:ByteArray}(h1:Rds (gY 4294967295) b f i b1 f1)(h2:Rds (So 16) b1 f1 s b2 f2)(h3:Rds (gY 255) b2 f2 k b3 f3)(h4:Rds (gY 1) b3 f3 n b4 f4) :
  Rds uZ b f (i,s,k,decide (n=1)) b4 f4 :=
 h1.bind (h2.bind (h3.bind (h4.bind (Rds.pure (i,s,k,decide (n=1)) b4 f4))))
def Qo{w:World}{p f:Nat}{b:List Nat}(h:St 200 w p b f) :
  Calls prog 179 #[.pointer (some ⟨p,0,none⟩)] w (Ky 200 uZ pN (λx=>Okf x/\x.2.1.size<=16) p b f w):=by
 have HM:=ae (Mid.begin h);have bR:(w.alloc (.cells #[.int .u32 0,.string ⟨#[]⟩,.int .u8 0,.bool false] 81)).heap.size=w.heap.size+1:=jeB _ _;clear h;generalize hW:(w.alloc (.cells #[.int .u32 0,.string ⟨#[]⟩,.int .u8 0,.bool false] 81)).alloc (.cells #[.int .u32 0,.string ⟨#[]⟩,.int .u8 0,.bool false] 81)=W at *;go_enter func179,ntmps179
 go_wp2_with fail;try rw[hW]
 clear hW bR;refine(iR HM.o.1 4294967295 (by omega)).mono ?_;rintro e w1 ⟨i,b1,f1,rfl,hi,dr,mh,cm⟩;have WZ:=ae (HM.o.call dr cm);have jw:=ae mh;have HI:=ae hi;have hi':i<4294967296:=by omega
 obtain⟨⟨c0,c1,c2,c3⟩,⟨z0,z1,z2,z3⟩,_,_⟩:=WZ.o.facts;clear dr mh cm hi HM;go_wp2_with fail;have QX:=ae (WZ.o.set0 (.int .u32 (i:Int)));clear WZ c0 c1 c2 c3 z0 z1 z2 z3;generalize hX:w1.setCell ⟨w.heap.size+1,0,none⟩ (.int .u32 (i:Int))=X at *;try rw[hX]
 clear hX;refine(Vw QX.o.1).mono ?_;rintro e w2 ⟨s,b2,f2,rfl,hs,cV,qt,cM⟩;have Rk:=ae (QX.o.call cV cM);have fZ:=ae qt;have HS:=ae hs;obtain⟨⟨c0,c1,c2,c3⟩,⟨z0,z1,z2,z3⟩,_,_⟩:=Rk.o.facts;clear cV qt cM hs QX;go_wp2_with fail;have HM4:=ae (Rk.o.set1 (.string s));clear Rk c0 c1 c2 c3 z0 z1 z2 z3;generalize hX:w2.setCell ⟨w.heap.size+1,1,none⟩ (.string s)=Y at *;try rw[hX]
 clear hX;refine(iR HM4.o.1 255 (by omega)).mono ?_;rintro e w3 ⟨k,b3,f3,rfl,hk,ln,hr3,iC⟩;have HM5:=ae (HM4.o.call ln iC);have jL:=ae hr3;have HK:=ae hk;have hk':k<256:=by omega
 obtain⟨⟨c0,c1,c2,c3⟩,⟨z0,z1,z2,z3⟩,_,_⟩:=HM5.o.facts;clear ln hr3 iC hk HM4;go_wp2_with fail;have HM6:=ae (HM5.o.set2 (.int .u8 (k:Int)));clear HM5 c0 c1 c2 c3 z0 z1 z2 z3;generalize hX:w3.setCell ⟨w.heap.size+1,2,none⟩ (.int .u8 (k:Int))=Z at *;try rw[hX]
 clear hX;refine(iR HM6.o.1 1 (by omega)).mono ?_;rintro e w4 ⟨n,b4,f4,rfl,hn,yb,hr4,pt⟩;have HM7:=ae (HM6.o.call yb pt);have pu:=ae (Zw jw.o fZ.o jL.o hr4);obtain⟨⟨c0,c1,c2,c3⟩,⟨z0,z1,z2,z3⟩,⟨y0,y1,y2,y3⟩,⟨u0,u1,u2,u3⟩⟩:=HM7.o.facts;clear yb hr4 pt hn HM6
 have hq:((n:Int)==1)=decide (n=1):=by
  by_cases h:n=1
  ·subst h;rfl
  ·rw[jeM h];exact jeF.2 (by omega)
 have HQ:=ae hq;clear hq;go_wp2_with fail;rw[HQ.o];obtain⟨d1,d2⟩:=(HM7.o.set3 (.bool (decide (n=1)))).done (.int .u32 (i:Int)) (.string s) (.int .u8 (k:Int)) (.bool (decide (n=1)));refine bodyPost_ret (v:=pN (i,s,k,decide (n=1))) (by simp[results,results179,go_sem,pN,y0,y1,y2,y3]) rfl ?_;exact⟨_,_,_,rfl,⟨⟨by have:=HI.o;show i<4294967296;omega,by have:=HK.o;show k<256;omega⟩,HS.o⟩,d1,pu.o,d2⟩
def Sch(w:World)(p:Nat)(W:World)(b:List Nat)(f:Nat)(x0 x1:Value):Prop :=
 St 200 W p b f/\p<w.heap.size/\W.heap[w.heap.size]?=some (.cells #[.int .u32 0,.slice none 0 0] 25 (0,0)) /\
 W.heap[w.heap.size+1]?=some (.cells #[x0,x1] 25 (0,0))/\Fr p w.heap.size w W
def Sch.begin{w:World}{p f:Nat}{b:List Nat}(h:St 200 w p b f) :
  Sch w p ((w.alloc (.cells #[.int .u32 0,.slice none 0 0] 25)).alloc (.cells #[.int .u32 0,.slice none 0 0] 25)) b f (.int .u32 0) (.slice none 0 0):=by
 have hbW:=((jez w.heap.size w).alloc (jeA _) (.cells #[.int .u32 0,.slice none 0 0] 25)).alloc (by rw[jeB];omega) (.cells #[.int .u32 0,.slice none 0 0] 25);have bR:(w.alloc (.cells #[.int .u32 0,.slice none 0 0] 25)).heap.size=w.heap.size+1:=jeB _ _;have az:=aj (w.alloc (.cells #[.int .u32 0,.slice none 0 0] 25)) (.cells #[.int .u32 0,.slice none 0 0] 25);have hh0:=je2 w (.cells #[.int .u32 0,.slice none 0 0] 25);have hh:=je2 (w.alloc (.cells #[.int .u32 0,.slice none 0 0] 25)) (.cells #[.int .u32 0,.slice none 0 0] 25);rw[bR]at hh;exact⟨h.kept hbW h.lt,h.lt,(az.block w.heap.size (by omega)).trans hh0,hh,Fr.of_below hbW⟩
def Sch.call{w W W':World}{p f f':Nat}{b b':List Nat}{x0 x1:Value}(h:Sch w p W b f x0 x1)(hs:St 200 W' p b' f')(hf:Fr p W.heap.size W W'):Sch w p W' b' f' x0 x1:=by
 obtain⟨h1,h2,h3,h4,h5⟩:=h;have l3:=(Array.getElem?_eq_some_iff.1 h3).1;have l4:=(Array.getElem?_eq_some_iff.1 h4).1;exact⟨hs,h2,(hf.block _ l3 (by omega)).trans h3,(hf.block _ l4 (by omega)).trans h4,h5.trans (hf.mono (by omega))⟩
def Sch.size{w W:World}{p f:Nat}{b:List Nat}{x0 x1:Value}(h:Sch w p W b f x0 x1):w.heap.size+2<=W.heap.size:=(Array.getElem?_eq_some_iff.1 h.2.2.2.1).1
def Sch.kept{w W W':World}{p f:Nat}{b:List Nat}{x0 x1:Value}(h:Sch w p W b f x0 x1)(hb:Below (w.heap.size+2) W W'):Sch w p W' b f x0 x1:=by
 obtain⟨h1,h2,h3,h4,h5⟩:=h;exact⟨h1.kept hb (by omega),h2,(hb.block _ (by omega)).trans h3,(hb.block _ (by omega)).trans h4,h5.then (hb.mono (by omega))⟩
def Sch.facts{w W:World}{p f:Nat}{b:List Nat}{x0 x1:Value}(h:Sch w p W b f x0 x1) :
  (W.cell? ⟨w.heap.size+1,0,none⟩=some x0/\W.cell? ⟨w.heap.size+1,1,none⟩=some x1) /\
  (W.frozen? ⟨w.heap.size+1,0,none⟩=false/\W.frozen? ⟨w.heap.size+1,1,none⟩=false) /\
  (W.cell? ⟨w.heap.size,0,none⟩=some (.int .u32 0)/\W.cell? ⟨w.heap.size,1,none⟩=some (.slice none 0 0)) /\
  (W.frozen? ⟨w.heap.size,0,none⟩=false/\W.frozen? ⟨w.heap.size,1,none⟩=false):=by
 obtain⟨h1,h2,h3,h4,h5⟩:=h;refine⟨⟨?_,?_⟩,⟨?_,?_⟩,⟨?_,?_⟩,⟨?_,?_⟩⟩<;>first | (rw[an h4];rfl) | (rw[an h3];rfl) | (simp[World.frozen?,h4];done) | (simp[World.frozen?,h3];done)
def Sch.keep{w W:World}{p f:Nat}{b:List Nat}{x0 x1:Value}(h:Sch w p W b f x0 x1)(j:Nat)(v:Value) :
  St 200 (W.setCell ⟨w.heap.size+1,j,none⟩ v) p b f/\(W.setCell ⟨w.heap.size+1,j,none⟩ v).heap[w.heap.size]?=some (.cells #[.int .u32 0,.slice none 0 0] 25 (0,0))/\Fr p w.heap.size w (W.setCell ⟨w.heap.size+1,j,none⟩ v):=by
 obtain⟨h1,h2,h3,h4,h5⟩:=h;have hb:Below (w.heap.size+1) W (W.setCell ⟨w.heap.size+1,j,none⟩ v):=(jez (w.heap.size+1) W).setCell (show w.heap.size+1<=w.heap.size+1 from jeA _) _;exact⟨h1.kept hb (by omega),(hb.block _ (by omega)).trans h3,h5.then (hb.mono (by omega))⟩
def Sch.set0{w W:World}{p f:Nat}{b:List Nat}{x0 x1:Value}(h:Sch w p W b f x0 x1)(v:Value):Sch w p (W.setCell ⟨w.heap.size+1,0,none⟩ v) b f v x1 :=
 ⟨(h.keep 0 v).1,h.2.1,(h.keep 0 v).2.1,by rw[aT h.2.2.2.1];rfl,(h.keep 0 v).2.2⟩
def Sch.set1{w W:World}{p f:Nat}{b:List Nat}{x0 x1:Value}(h:Sch w p W b f x0 x1)(v:Value):Sch w p (W.setCell ⟨w.heap.size+1,1,none⟩ v) b f x0 v :=
 ⟨(h.keep 1 v).1,h.2.1,(h.keep 1 v).2.1,by rw[aT h.2.2.2.1];rfl,(h.keep 1 v).2.2⟩
def Sch.done{w W:World}{p f:Nat}{b:List Nat}{x0 x1:Value}(h:Sch w p W b f x0 x1)(y0 y1:Value) :
  St 200 ((W.setCell ⟨w.heap.size,0,none⟩ y0).setCell ⟨w.heap.size,1,none⟩ y1) p b f/\Fr p w.heap.size w ((W.setCell ⟨w.heap.size,0,none⟩ y0).setCell ⟨w.heap.size,1,none⟩ y1):=by
 obtain⟨h1,h2,h3,h4,h5⟩:=h;have hb:=pU (jez w.heap.size W) (jeA w.heap.size) y0 y1;exact⟨h1.kept hb h2,h5.then hb⟩
def Vx{k:Nat}{b b1 b2:List Nat}{f f1 f2:Nat}{x:List Fd}{y:Fd}(h1:Rds (kY k) b f x b1 f1)(h2:Rds uZ b1 f1 y b2 f2):Rds (kY (k+1)) b f (x++[y]) b2 f2 :=
 h1.bind (h2.bind (Rds.pure (x++[y]) b2 f2))
def Zx(p:Nat)(b:List Nat)(f:Nat)(w:World)(r:Ending)(w':World):Prop :=
 ∃(id:Nat) (l:List Fd) (v:Value) (b':List Nat) (f':Nat),r=.returned (.agg #[.int .u32 (id:Int),v])/\fh w' w.heap.size v l/\id<4294967296/\l.length<=8/\(∀ y∈l,Okf y/\y.2.1.size<=16) /\
  St 200 w' p b' f'/\Rds Dy b f (id,l) b' f'/\Fr p w.heap.size w w'
def Zy{b b1 b2 b3:List Nat}{f f1 f2 f3 i n:Nat}{l:List Fd}(h1:Rds (gY 4294967295) b f i b1 f1)(h2:Rds (gY 8) b1 f1 n b2 f2)(h3:Rds (kY n) b2 f2 l b3 f3):Rds Dy b f (i,l) b3 f3 :=
 h1.bind (h2.bind (h3.bind (Rds.pure (i,l) b3 f3)))
def Vy{w1:World}{B p:Nat}{v:Value}{l:List Fd}(h:fh w1 B v l)(hp:p<B)(j:Nat)(x:Value):fh (w1.setCell ⟨p,j,none⟩ x) B v l :=
 Fr.own ((Fr.refl p w1.heap.size w1).set j x) h hp
def uO{P:Program}{md:Region.Mode}{ops:Array Oper}{Q:Exit->Act->World->Prop}{rs:List Nat}{fuel:Nat}{dd:Array Bool}{a:Act}{w:World}(hr:(Region.ready md ops dd==rs)=true)(dC:rs≠[])(h:AllReady P md ops Q fuel dd a w rs):wpAny P md ops Q (fuel+1) dd a w:=wpAny_ready (eq_of_beq hr) dC h
def KA{w:World}{p f:Nat}{b:List Nat}(h:St 200 w p b f) :
  Calls prog 139 #[.pointer (some ⟨p,0,none⟩)] w (Zx p b f w):=by
 have HM:=ae (Sch.begin h);have bR:(w.alloc (.cells #[.int .u32 0,.slice none 0 0] 25)).heap.size=w.heap.size+1:=jeB _ _;clear h;generalize hW:(w.alloc (.cells #[.int .u32 0,.slice none 0 0] 25)).alloc (.cells #[.int .u32 0,.slice none 0 0] 25)=W at *;go_enter func139,ntmps139
 go_wp2_with fail;try rw[hW]
 clear hW bR;refine(iR HM.o.1 4294967295 (by omega)).mono ?_;rintro e w1 ⟨i,b1,f1,rfl,hi,dr,mh,cm⟩;have WZ:=ae (HM.o.call dr cm);have jw:=ae mh;have HI:=ae hi;have hi':i<4294967296:=by omega
 obtain⟨⟨c0,c1⟩,⟨z0,z1⟩,_,_⟩:=WZ.o.facts;clear dr mh cm hi HM;go_wp2_with fail;have QX:=ae (WZ.o.set0 (.int .u32 (i:Int)));clear WZ c0 c1 z0 z1;generalize hX:w1.setCell ⟨w.heap.size+1,0,none⟩ (.int .u32 (i:Int))=X at *;try rw[hX]
 clear hX;refine(iR QX.o.1 8 (by omega)).mono ?_;rintro e w2 ⟨n,b2,f2,rfl,hn,cV,qt,cM⟩;have Rk:=ae (QX.o.call cV cM);have fZ:=ae qt;clear cV qt cM QX;go_wp2_with fail;go_loopw [10] (λi' wr=>∃(k:Nat) (x:List Fd) (bk:List Nat) (fk:Nat) (a:Option Addr) (cap:Nat),k<=n/\i'=.int .u64 (k:Int)/\Sch w p wr bk fk (.int .u32 (i:Int)) (.slice a k cap)/\fh wr (w.heap.size+2) (.slice a k cap) x/\x.length=k/\(∀ y∈x,Okf y/\y.2.1.size<=16)/\Rds (kY k) b2 f2 x bk fk) (λi' _=>n-(intOf i').toNat)
 case atStart=>exact⟨0,[],b2,f2,none,0,by omega,rfl,Rk.o,fh.nil _ _,rfl,(λ_ h=>absurd h (by simp)),Rds.pure [] b2 f2⟩
 case round =>
  obtain⟨k,x,bk,fk,a,cap,hk,rfl,Ro,ax,Xy,dD,hrk⟩:=hrel;have HM4:=ae Ro;have HO:=ae ax;have HXL:=ae Xy;have mZ:=ae dD;have HRK:=ae hrk;clear ax Xy dD hrk;by_cases ar:k<n
  ·have hlt':(k:Int)<(n:Int):=by omega
   have hwk:IntKind.u64.wrap ((k:Int)+1)=((k+1:Nat):Int):=by rw[jfm];omega
   obtain⟨⟨c0,c1⟩,⟨z0,z1⟩,_,_⟩:=Ro.facts;have oM:=ae Ro.size;clear Ro
   have mH:jgt (∀ m,Calls prog 179 #[.pointer (some ⟨p,0,none⟩)] (wr.drewN m) λe w'=>∃(y0:Nat) (y1:ByteArray) (y2:Nat) (y3:Bool) (b':List Nat) (f':Nat),e=.returned (.agg #[.int .u32 (y0:Int),.string y1,.int .u8 (y2:Int),.bool y3])/\(Okf (y0,y1,y2,y3)/\y1.size<=16)/\Sch w p w' b' f' (.int .u32 (i:Int)) (.slice a k cap)/\Rds uZ bk fk (y0,y1,y2,y3) b' f'/\fh w' (w.heap.size+2) (.slice a k cap) x/\w.heap.size+2<=w'.heap.size/\w'.cell? ⟨w.heap.size+1,1,none⟩=some (.slice a k cap)/\(w'.alloc (.cells #[.int .u32 (y0:Int),.string y1,.int .u8 (y2:Int),.bool y3] 81)).cell? ⟨w.heap.size+1,1,none⟩=some (.slice a k cap)):=ae (λm=>by
    have sH:jgu wr (wr.drewN m):=ak (jez wr.heap.size wr) m;refine(Qo (HM4.o.1.kept sH HM4.o.1.lt)).mono ?_;rintro e w' ⟨⟨y0,y1,y2,y3⟩,b',f',rfl,hy,hs',hr',hf'⟩;have cM:Fr p wr.heap.size wr w':=(Fr.of_below sH).trans (hf'.mono sH.size);have hm:=HM4.o.call hs' cM;obtain⟨⟨d0,d1⟩,⟨e0,e1⟩,_,_⟩:=hm.facts;have hp2:=HM4.o.2.1;exact⟨y0,y1,y2,y3,b',f',rfl,hy,hm,hr',Fr.own cM HO.o (by omega),hm.size,d1,((aj w' _).cell (p:=⟨w.heap.size+1,1,none⟩) (by have:=hm.size;show w.heap.size+1<_;omega)).trans d1⟩)
   have HAP:jgt (∀ y b' f' w6 w7 v7,Sch w p w6 b' f' (.int .u32 (i:Int)) (.slice a k cap)->fh w7 (w.heap.size+2) v7 (x++[y])->Below (w.heap.size+2) w6 w7->∃ a7 cap7,v7=.slice a7 (k+1) cap7/\Sch w p w7 b' f' (.int .u32 (i:Int)) (.slice a k cap)/\(w7.cell? ⟨w.heap.size+1,1,none⟩=some (.slice a k cap)/\w7.frozen? ⟨w.heap.size+1,1,none⟩=false)):=ae (λy b' f' w6 w7 v7 hm o7 gJ=>by
    obtain⟨a7,cap7,hv,_,_⟩:=aZ o7;rw[jeC,je7,HXL.o]at hv;have hm7:=hm.kept gJ;obtain⟨⟨d0,d1⟩,⟨e0,e1⟩,_,_⟩:=hm7.facts;exact⟨a7,cap7,hv,hm7,d1,e1⟩)
   have RE:jgt (∀ y:Fd,x.length+[y].length<=100000):=ae (λy=>by rw[je7,HXL.o];omega);clear c0 z0 z1;go_wp2_with fail;refine wp_region_any (by kernel_rfl) ?_;change wpAny _ _ _ _ _ _ _ wr.drew
   refine wpAny_take (i := 0) (oi := { dst := some 12, op := Op.fieldAddr 25 (Operand.tmp 3) 1, type := 0, pos := "pack.go:64", after := #[], guard := none }) (v := ?_) rfl (by kernel_rfl) (by kernel_rfl) (by kernel_rfl) (λ_ _ _ h => h) (Or.inl ⟨by rfl, ?_⟩) ?_;rotate_left
   ·intro w9
    first | (go_simp;done) | (go_simp;with_reducible rfl)
   try simp only[Act.put,jgr,jf6,jgn]
   refine wpAny_take (i := 2) (oi := { dst := some 14, op := Op.move (Operand.tmp 0), type := 198, pos := "pack.go:64", after := #[], guard := none }) (v := ?_) rfl (by kernel_rfl) (by kernel_rfl) (by kernel_rfl) (λ_ _ _ h => h) (Or.inl ⟨by rfl, ?_⟩) ?_;rotate_left
   ·intro w9
    first | (go_simp;done) | (go_simp;with_reducible rfl)
   try simp only[Act.put,jgr,jf6,jgn]
   repeat' (first
    | (
      have HK:=ae hK;clear hK
      first
       | (
        refine yI (by rfl) _ _ (by rfl) (w.heap.size+2) w6.heap.size _ _ x [(y0,y1,y2,y3)] (by rfl) ?_ (by rfl) ?_ ?_ ?_ ?_ ?_
        ·exact oJ.o.kept (aj _ _)
        ·exact YG w6 (y0,y1,y2,y3)
        ·exact Nat.zero_lt_succ _
        ·exact RE.o _
        ·exact ER Dd _
        intro v7 w7 o7 b7;obtain⟨a7,cap7,rfl,hm7,jaz,z1⟩:=HAP.o _ _ _ _ _ _ (HM6.o.kept ((jez _ _).alloc Dd _)) o7 b7;have oV:=ae o7;have HM7:=ae hm7;clear o7 b7 hm7)
       | (
        go_simp
        refine(mH.o 1).mono ?_;rintro e w6 ⟨y0,y1,y2,y3,b6,f6,rfl,hy,hm6,RQ,o6,Dd,GM,hkk2⟩;have HY:=ae hy;have HM6:=ae hm6;have Re:=ae RQ;have oJ:=ae o6;clear hy hm6 RQ o6;go_wp2_with fail)
       | go_simp
      refine HK.o _ _ ?_;clear HK K;try simp only[Act.put,jgr,jf6,jgn])
    | with_reducible exact AllReady.nil
    | (
      with_reducible apply AllReady.cons
      exact rfl;intro K hK)
    | refine uO (rs:=[1,3]) (by decide +kernel) (by simp) ?_
    | refine uO (rs:=[3]) (by decide +kernel) (by simp) ?_
    | refine uO (rs:=[4]) (by decide +kernel) (by simp) ?_
    | refine uO (rs:=[5]) (by decide +kernel) (by simp) ?_
    | refine uO (rs:=[6]) (by decide +kernel) (by simp) ?_
    | refine uO (rs:=[7]) (by decide +kernel) (by simp) ?_
    | refine uO (rs:=[1,4]) (by decide +kernel) (by simp) ?_
    | refine uO (rs:=[1]) (by decide +kernel) (by simp) ?_
    | (
      refine wpAny_done (by kernel_rfl) ?_ _;go_wp2_with fail;exact⟨⟨k+1,x++[(y0,y1,y2,y3)],b6,f6,a7,cap7,by omega,rfl,HM7.o.set1 (.slice a7 (k+1) cap7),Vy oV.o (by omega) _ _,by rw[jeC,je7,HXL.o],λy hy=>(je1.1 hy).elim (mZ.o y) (λh=>by rw[je9]at h;rw[h];exact HY.o),Vx HRK.o Re.o⟩,by simp only[intOf];omega⟩))
  ·obtain⟨⟨c0,c1⟩,⟨z0,z1⟩,⟨d0,d1⟩,⟨y0,y1⟩⟩:=Ro.facts
   obtain rfl:k=n:=by omega
   have hlt':¬ (k:Int)<(k:Int):=(by omega);clear Ro;go_wp2_with fail;obtain⟨e1,e2⟩:=HM4.o.done (.int .u32 (i:Int)) (.slice a k cap);refine bodyPost_ret (v:=.agg #[.int .u32 (i:Int),.slice a k cap]) (by simp[results,results139,go_sem,d0,d1]) rfl ?_;exact⟨i,x,_,bk,fk,rfl,(ES HO.o (by omega) _ _).low (by omega),by have:=HI.o;omega,by have:=HXL.o;omega,mZ.o,e1,Zy jw.o fZ.o HRK.o,e2⟩
def FK(a:List Fd)(f:Fd):(f.1<=eB a)↔(f.1=0∨(0<a.length/\f.1<=eB a)):=by
 constructor
 ·intro h
  rcases jfs a.length with h0 | h0
  ·rw[jeW h0]at h
   left
   simpa [eB]using h
  ·exact Or.inr ⟨h0,h⟩
 ·rintro(h | h)
  ·omega
  ·exact h.2
def FL{l:List Fd}{k m:Nat}(hm:k=m+1)(h:m<l.length):eB (l.take k)=l[m].1:=by
 subst hm;exact GX h
def Cu{w:World}{v:Value}{l:List Fd}(hs:Sf w v l)(id:Nat):Calls prog 15 #[.agg #[.int .u32 (id:Int),v]] w λe w'=>e=.returned (.int .i64 (chk id l:Int))/\jgu w w':=by
 obtain⟨a,cap,rfl,bg,bx⟩:=hs.form;have ce:=ae (aj w (.cells #[.int .u32 (id:Int),.slice a l.length cap] 25));have HS:=ae (hs.kept (aj w (.cells #[.int .u32 (id:Int),.slice a l.length cap] 25)));obtain⟨c0,c1⟩:=aS w (.int .u32 (id:Int)) (.slice a l.length cap) 25;have hz:w.heap.size<(w.alloc (.cells #[.int .u32 (id:Int),.slice a l.length cap] 25)).heap.size:=by rw[jeB];omega
 clear hs;by_cases h1:id=0∨l.length=0∨8<l.length
 ·have HR:jgt (chk id l=1):=ae (jey h1)
  clear c0 c1 hz HS;by_cases q1:id=0
  ·subst q1
   go_enter func15,ntmps15
   go_wp2_with fail;go_ret
   rw[HR.o];exact⟨rfl,ce.o⟩
  ·have q1':((id:Int)==0)=false:=by simp[q1]
   by_cases q2:l.length=0
   ·have q2':((l.length:Int)==0)=true:=by simp[q2]
    clear h1 q1 q2;go_enter func15,ntmps15
    go_wp2_with fail;go_ret
    rw[HR.o];exact⟨rfl,ce.o⟩
   ·have q2':((l.length:Int)==0)=false:=by simp[q2]
    have q3:(l.length:Int) > 8:=(by omega);clear h1 q1 q2;go_enter func15,ntmps15
    go_wp2_with fail;go_ret
    rw[HR.o];exact⟨rfl,ce.o⟩
 ·have HR:jgt (chk id l=fe (l.take 0) (l.drop 0)):=ae (jex h1)
  have q1':((id:Int)==0)=false:=jeF.2 (by omega);have q2':((l.length:Int)==0)=false:=jeF.2 (by omega);have q3:¬ (l.length:Int) > 8:=by omega
  have hl8:l.length<=8:=by omega
  clear h1;generalize chk id l=CH at *;generalize hW:w.alloc (.cells #[.int .u32 (id:Int),.slice a l.length cap] 25)=W at *;go_enter func15,ntmps15
  go_wp2_with fail;try rw[hW]
  clear hW;go_loopw [3] (λi wr=>∃ k:Nat,k<=l.length/\i=.int .i64 (k:Int)/\CH=fe (l.take k) (l.drop k)/\jgu W wr) (λi _=>l.length-(intOf i).toNat)
  case atStart=>exact⟨0,by omega,rfl,HR.o,jez _ _⟩
  case round =>
   obtain⟨k,hk,rfl,fR,ao⟩:=hrel;have HF:=ae fR;have HB:=ae ao;have bF:=ao.size;clear fR ao HR;by_cases ar:k<l.length
   ·obtain⟨b,off,rfl,hb,x0,x1,x2,x3⟩:=(HS.o.kept HB.o).at ar
    have HT:=ae (HF.o.trans (LF ar));have hlt':(k:Int)<(l.length:Int):=(by omega);have Lh:(k:Int)<=(cap:Int):=(by omega);have jc3:(0:Int)<=(k:Int):=(by omega);have hktn:((k:Int)).toNat=k:=(by omega);have hdcap:¬ cap=0:=(by omega);have cF:=ae (HS.o.take (k:=k) (by omega));have gA:(l.take k).length=k:=by rw[jeH];omega
    generalize hf:l[k]=f at *;obtain⟨f0,f1,f2,f3⟩:=f;have lF:jgt (fS (l.take k) (f0,f1,f2,f3)=if f0<=eB (l.take k) then 81 else if free (l.take k) f1=false then 80 else if kW f2=false then 10 else if (f3 != decide ((l.take k).length=0))=true∨((l.take k).length=0/\f2=2) then 82 else 0):=ae rfl;rw[gA]at lF;simp only at *;have d1:=(HB.o.cell (p:=⟨w.heap.size,1,none⟩) hz).trans c1;have oL:=aj wr (.cells #[.int .u32 (f0:Int),.string f1,.int .u8 (f2:Int),.bool f3] 81);have e1:=(oL.cell (p:=⟨w.heap.size,1,none⟩) (jeY hz bF)).trans d1;obtain⟨g0,g1,g2,g3⟩:=iM wr (.int .u32 (f0:Int)) (.string f1) (.int .u8 (f2:Int)) (.bool f3) 81;have aG:=ae (HB.o.trans (oL.mono bF));have lA:wr.heap.size<(wr.alloc (.cells #[.int .u32 (f0:Int),.string f1,.int .u8 (f2:Int),.bool f3] 81)).heap.size:=by rw[jeB];omega
    have iw:=ae ((cF.o.kept HB.o).kept oL);have RT:jgt (∀ U,Below (wr.alloc (.cells #[.int .u32 (f0:Int),.string f1,.int .u8 (f2:Int),.bool f3] 81)).heap.size (wr.alloc (.cells #[.int .u32 (f0:Int),.string f1,.int .u8 (f2:Int),.bool f3] 81)) U->Calls prog 50 #[.slice (some ⟨b,off,none⟩) k cap,.string f1] U λe w'=>e=.returned (.bool (oO (l.take k) f1))/\w'=U):=ae (λU hU=>YJ (iw.o.kept hU) f1);generalize hV:wr.alloc (.cells #[.int .u32 (f0:Int),.string f1,.int .u8 (f2:Int),.bool f3] 81)=V at *;have fI:jgt (∀ w',jgu V w'->(w'.cell? ⟨w.heap.size,1,none⟩=some (.slice (some ⟨b,off,none⟩) l.length cap)/\w'.cell? ⟨wr.heap.size,1,none⟩=some (.string f1))/\w'.cell? ⟨wr.heap.size,2,none⟩=some (.int .u8 (f2:Int))/\w'.cell? ⟨wr.heap.size,3,none⟩=some (.bool f3)):=ae (λw' h=>⟨⟨(h.cell (p:=⟨w.heap.size,1,none⟩) (show w.heap.size<_ by omega)).trans e1,(h.cell (p:=⟨wr.heap.size,1,none⟩) lA).trans g1⟩,(h.cell (p:=⟨wr.heap.size,2,none⟩) lA).trans g2,(h.cell (p:=⟨wr.heap.size,3,none⟩) lA).trans g3⟩)
    have yu:jgt (∀ U,jgu V U->Calls prog 49 #[.string f1] U λe w'=>e=.returned (.bool (named f1))/\jgu V w'/\(w'.cell? ⟨w.heap.size,1,none⟩=some (.slice (some ⟨b,off,none⟩) l.length cap)/\w'.cell? ⟨wr.heap.size,1,none⟩=some (.string f1))):=ae (λU hU=>(Pi f1 U).mono (by
     rintro e w2 ⟨rfl,ap⟩;have aJ:=ai hU ap;exact⟨rfl,aJ,(fI.o _ aJ).1⟩))
    have jbB:free (l.take k) f1=(named f1 && !oO (l.take k) f1):=rfl;have lp:=ae jbB;have HID:=ae (FK (l.take k) (f0,f1,f2,f3));rw[gA]at HID
    have yh:jgt (∀ m,k=m+1->∃ la:Nat,eB (l.take k)=la/\V.cell? ⟨b,off+m*4,none⟩=some (.int .u32 (la:Int))):=ae (λm hm=>by
     obtain⟨b',off',hbe,_,y0,_⟩:=(HS.o.kept aG.o).at (k:=m) (by omega);cases hbe
     exact⟨_,FL hm (by omega),y0⟩)
    clear jbB oL g1 g2 g3 hf gA iw cF c0 c1;generalize fS (l.take k) (f0,f1,f2,f3)=R at *;by_cases bR:f0=0
    ·have hR:R=81:=by rw[lF.o,jey (HID.o.2 (Or.inl bR))]
     have hz0':((f0:Int)==0)=true:=by rw[bR];rfl
     rw[hR,jex (by omega)]at HT;clear hR lF HID bR yh;go_wp2_with fail;try rw[hV]
     clear hV;go_quiet (fail)
     go_wp2_with fail;go_ret
     rw[HT.o];exact⟨rfl,ak (ai ce.o aG.o) _⟩
    ·have hz0':((f0:Int)==0)=false:=jeF.2 (by omega)
     by_cases Gq:0<k/\f0<=eB (l.take k)
     ·have hR:R=81:=by rw[lF.o,jey (HID.o.2 (Or.inr Gq))]
      obtain⟨vL,oT⟩:=Gq;obtain⟨m,hm⟩:∃ m,k=m+1:=⟨k-1,by omega⟩;obtain⟨la,QM,gV⟩:=yh.o m hm;rw[QM]at oT;have t1:decide ((k:Int) > 0)=true:=jeP (by omega);have t1':(k:Int) > 0:=(by omega);have t1n:decide (0<k)=true:=jeP (by omega);have t1m:0<k:=(by omega);have t2:IntKind.i64.wrap ((k:Int)-1)=(m:Int):=by rw[jfq];omega
      have t3:(0:Int)<=(m:Int):=(by omega);have t4:(m:Int)<(l.length:Int):=(by omega);have t5:((m:Int)).toNat=m:=(by omega);have t6:decide ((f0:Int)<=(la:Int))=true:=jeP (by omega);have t6':(f0:Int)<=(la:Int):=(by omega);have t7:(k:Int)-1=(m:Int):=(by omega);rw[hR,jex (by omega)]at HT;clear hR lF HID bR yh hm QM vL oT;go_wp2_with fail;try rw[hV]
      clear hV;go_quiet (fail)
      go_wp2_with fail;go_ret
      rw[HT.o];exact⟨rfl,ak (ai ce.o aG.o) _⟩
     ·rw[jex (λh=>by rcases HID.o.1 h with h | h;(· exact bR h);(· exact Gq h))]at lF
      have WG:decide ((k:Int) > 0)=false/\k=0∨decide ((k:Int) > 0)=true/\∃ m la:Nat,k=m+1/\¬ f0<=la/\V.cell? ⟨b,off+m*4,none⟩=some (.int .u32 (la:Int)):=by
       by_cases vL:k=0
       ·exact Or.inl ⟨jeM (by omega),vL⟩
       ·obtain⟨m,hm⟩:∃ m,k=m+1:=⟨k-1,by omega⟩
        obtain⟨la,QM,gV⟩:=yh.o m hm;exact Or.inr ⟨jeP (by omega),m,la,hm,λh=>Gq ⟨by omega,by rw[QM];exact h⟩,gV⟩
      have HK0:jgt (decide (k=0)=((k:Int)==0)):=ae (by
       by_cases h:k=0
       ·rw[jeP h,h];rfl
       ·rw[jeM h,jeF.2 (by omega)])
      clear Gq bR HID yh;rcases WG with ⟨t1,vL⟩ | ⟨t1,m,la,hm,oT,gV⟩
      ·have t1':¬ (k:Int) > 0:=by omega
       have t1n:decide (0<k)=false:=jeM (by omega);have t1m:¬ 0<k:=(by omega);have HKZ:=ae vL;clear vL;go_wp2_with fail;try rw[hV]
       clear hV;go_quiet (fail)
       obtain⟨⟨_,g1⟩,_⟩:=fI.o V (jez _ _);go_wp2_with fail;cases hnm:named f1 with
       | false =>
        rw[hnm]at yu lp;have hR:R=80:=by rw[lF.o,lp.o];rfl
        rw[hR,jex (by omega)]at HT;clear hR lF hnm;have ng:∀ s:aB (λx=>jgu V x),s.w.cell? ⟨wr.heap.size,1,none⟩=some (.string f1):=λs=>(fI.o s.w s.ok).1.2
        have nc:∀ s:aB (λx=>jgu V x),s.w.cell? ⟨w.heap.size,1,none⟩=some (.slice (some ⟨b,off,none⟩) l.length cap):=λs=>(fI.o s.w s.ok).1.1
        haveI:Nonempty (aB (λx=>jgu V x)):=⟨aB.mk V (jez _ _)⟩
        refine aP (S:=λx=>jgu V x) (by kernel_rfl) (by kernel_rfl) (ak (jez _ _) _).drew ?_;repeat (go_big_quiet_step (first | (go_at_call 49;exact(yu.o _ (aB.ok _)).mono (λe w' h=>⟨h.1,aB.mk w' h.2.1,rfl⟩)) | (go_at_call 50;exact(RT.o _ (aB.ok _)).mono (λe w' h=>⟨h.1,_,h.2⟩))))
        refine wpQuiet_nil ?_;rintro _ ⟨s2,rfl⟩;obtain⟨w2,nX⟩:∃ x,x=s2.w:=⟨_,rfl⟩;have ap:=s2.ok;rw[<- nX]at ap ⊢;have gU:=ae ap;clear nX ap ng nc;go_wp2_with fail;go_ret
        rw[HT.o];exact⟨rfl,by first | exact ai (ai ce.o aG.o) gU.o | exact ak (ai (ai ce.o aG.o) gU.o) _⟩
       | true =>
        rw[hnm]at yu lp;clear hnm;cases hha:oO (l.take k) f1 with
        | true =>
         rw[hha]at RT lp;have hR:R=80:=by rw[lF.o,lp.o];rfl
         rw[hR,jex (by omega)]at HT;clear hR lF hha;have ng:∀ s:aB (λx=>jgu V x),s.w.cell? ⟨wr.heap.size,1,none⟩=some (.string f1):=λs=>(fI.o s.w s.ok).1.2
         have nc:∀ s:aB (λx=>jgu V x),s.w.cell? ⟨w.heap.size,1,none⟩=some (.slice (some ⟨b,off,none⟩) l.length cap):=λs=>(fI.o s.w s.ok).1.1
         haveI:Nonempty (aB (λx=>jgu V x)):=⟨aB.mk V (jez _ _)⟩
         refine aP (S:=λx=>jgu V x) (by kernel_rfl) (by kernel_rfl) (ak (jez _ _) _).drew ?_;repeat (go_big_quiet_step (first | (go_at_call 49;exact(yu.o _ (aB.ok _)).mono (λe w' h=>⟨h.1,aB.mk w' h.2.1,rfl⟩)) | (go_at_call 50;exact(RT.o _ (aB.ok _)).mono (λe w' h=>⟨h.1,_,h.2⟩))))
         refine wpQuiet_nil ?_;rintro _ ⟨s2,rfl⟩;obtain⟨w2,nX⟩:∃ x,x=s2.w:=⟨_,rfl⟩;have ap:=s2.ok;rw[<- nX]at ap ⊢;have gU:=ae ap;clear nX ap ng nc;go_wp2_with fail;go_ret
         rw[HT.o];exact⟨rfl,by first | exact ai (ai ce.o aG.o) gU.o | exact ak (ai (ai ce.o aG.o) gU.o) _⟩
        | false =>
         rw[hha]at RT lp;rw[lp.o,jex (by simp)]at lF;clear hha;have ng:∀ s:aB (λx=>jgu V x),s.w.cell? ⟨wr.heap.size,1,none⟩=some (.string f1):=λs=>(fI.o s.w s.ok).1.2
         have nc:∀ s:aB (λx=>jgu V x),s.w.cell? ⟨w.heap.size,1,none⟩=some (.slice (some ⟨b,off,none⟩) l.length cap):=λs=>(fI.o s.w s.ok).1.1
         haveI:Nonempty (aB (λx=>jgu V x)):=⟨aB.mk V (jez _ _)⟩
         refine aP (S:=λx=>jgu V x) (by kernel_rfl) (by kernel_rfl) (ak (jez _ _) _).drew ?_;repeat (go_big_quiet_step (first | (go_at_call 49;exact(yu.o _ (aB.ok _)).mono (λe w' h=>⟨h.1,aB.mk w' h.2.1,rfl⟩)) | (go_at_call 50;exact(RT.o _ (aB.ok _)).mono (λe w' h=>⟨h.1,_,h.2⟩))))
         refine wpQuiet_nil ?_;rintro _ ⟨s2,rfl⟩;obtain⟨w2,nX⟩:∃ x,x=s2.w:=⟨_,rfl⟩;have ap:=s2.ok;rw[<- nX]at ap ⊢;have gU:=ae ap;clear nX ap ng nc;obtain⟨_,y2,y3⟩:=fI.o _ gU.o;by_cases vZ:kW f2=false
         ·rw[jey vZ]at lF
          rw[lF.o,jex (by omega)]at HT
          have hkd':f2=0∨3<f2:=by
           unfold kW at vZ;have:=of_decide_eq_false vZ;omega
          clear lF vZ;rcases hkd' with q | q
          ·have q1:(f2:Int)<1:=by omega
           clear q;go_wp2_with fail;go_ret
           rw[HT.o];exact⟨rfl,by first | exact ai (ai ce.o aG.o) gU.o | exact ak (ai (ai ce.o aG.o) gU.o) _⟩
          ·have q1:¬ (f2:Int)<1:=by omega
           have q2:(f2:Int) > 3:=(by omega);clear q;go_wp2_with fail;go_ret
           rw[HT.o];exact⟨rfl,by first | exact ai (ai ce.o aG.o) gU.o | exact ak (ai (ai ce.o aG.o) gU.o) _⟩
         ·rw[jex vZ]at lF
          have hkd':1<=f2/\f2<=3:=by
           unfold kW at vZ;simpa using vZ
          have q1:¬ (f2:Int)<1:=(by omega);have q2:¬ (f2:Int) > 3:=(by omega);clear vZ hkd';have t0:((k:Int)==0)=true:=by rw[HKZ.o];rfl
          cases f3
          ·have hR:R=82:=by rw[lF.o,jey (Or.inl (by rw[HKZ.o];rfl))]
           rw[hR,jex (by omega)]at HT;clear hR lF;go_wp2_with fail;go_ret
           rw[HT.o];exact⟨rfl,by first | exact ai (ai ce.o aG.o) gU.o | exact ak (ai (ai ce.o aG.o) gU.o) _⟩
          ·by_cases h2:f2=2
           ·have hR:R=82:=by rw[lF.o,jey (Or.inr ⟨HKZ.o,h2⟩)]
            have h2':((f2:Int)==2)=true:=by rw[h2];rfl
            rw[hR,jex (by omega)]at HT;clear hR lF h2;go_wp2_with fail;go_ret
            rw[HT.o];exact⟨rfl,by first | exact ai (ai ce.o aG.o) gU.o | exact ak (ai (ai ce.o aG.o) gU.o) _⟩
           ·have hR:R=0:=by rw[lF.o,jex (λh=>by rcases h with h | ⟨_,h⟩;(· rw[HKZ.o]at h;cases h);(· exact h2 h))]
            have h2':((f2:Int)==2)=false:=jeF.2 (by omega);rw[jey hR]at HT;clear hR lF h2;go_wp2_with fail;go_roundw
            case rel=>exact⟨k+1,by omega,by go_num,HT.o,by first | exact ai aG.o gU.o | exact ak (ai aG.o gU.o) _⟩
            case measure=>simp[intOf];omega
      ·have t1':(k:Int) > 0:=by omega
       have t1n:decide (0<k)=true:=jeP (by omega);have t1m:0<k:=(by omega);have t2:IntKind.i64.wrap ((k:Int)-1)=(m:Int):=by rw[jfq];omega
       have t3:(0:Int)<=(m:Int):=(by omega);have t4:(m:Int)<(l.length:Int):=(by omega);have t5:((m:Int)).toNat=m:=(by omega);have t6:decide ((f0:Int)<=(la:Int))=false:=jeM (by omega);have t6':¬ (f0:Int)<=(la:Int):=(by omega);have t7:(k:Int)-1=(m:Int):=(by omega);clear hm oT;go_wp2_with fail;try rw[hV]
       clear hV;go_quiet (fail)
       obtain⟨⟨_,g1⟩,_⟩:=fI.o V (jez _ _);go_wp2_with fail;cases hnm:named f1 with
       | false =>
        rw[hnm]at yu lp;have hR:R=80:=by rw[lF.o,lp.o];rfl
        rw[hR,jex (by omega)]at HT;clear hR lF hnm;have ng:∀ s:aB (λx=>jgu V x),s.w.cell? ⟨wr.heap.size,1,none⟩=some (.string f1):=λs=>(fI.o s.w s.ok).1.2
        have nc:∀ s:aB (λx=>jgu V x),s.w.cell? ⟨w.heap.size,1,none⟩=some (.slice (some ⟨b,off,none⟩) l.length cap):=λs=>(fI.o s.w s.ok).1.1
        haveI:Nonempty (aB (λx=>jgu V x)):=⟨aB.mk V (jez _ _)⟩
        refine aP (S:=λx=>jgu V x) (by kernel_rfl) (by kernel_rfl) (ak (jez _ _) _).drew ?_;repeat (go_big_quiet_step (first | (go_at_call 49;exact(yu.o _ (aB.ok _)).mono (λe w' h=>⟨h.1,aB.mk w' h.2.1,rfl⟩)) | (go_at_call 50;exact(RT.o _ (aB.ok _)).mono (λe w' h=>⟨h.1,_,h.2⟩))))
        refine wpQuiet_nil ?_;rintro _ ⟨s2,rfl⟩;obtain⟨w2,nX⟩:∃ x,x=s2.w:=⟨_,rfl⟩;have ap:=s2.ok;rw[<- nX]at ap ⊢;have gU:=ae ap;clear nX ap ng nc;go_wp2_with fail;go_ret
        rw[HT.o];exact⟨rfl,by first | exact ai (ai ce.o aG.o) gU.o | exact ak (ai (ai ce.o aG.o) gU.o) _⟩
       | true =>
        rw[hnm]at yu lp;clear hnm;cases hha:oO (l.take k) f1 with
        | true =>
         rw[hha]at RT lp;have hR:R=80:=by rw[lF.o,lp.o];rfl
         rw[hR,jex (by omega)]at HT;clear hR lF hha;have ng:∀ s:aB (λx=>jgu V x),s.w.cell? ⟨wr.heap.size,1,none⟩=some (.string f1):=λs=>(fI.o s.w s.ok).1.2
         have nc:∀ s:aB (λx=>jgu V x),s.w.cell? ⟨w.heap.size,1,none⟩=some (.slice (some ⟨b,off,none⟩) l.length cap):=λs=>(fI.o s.w s.ok).1.1
         haveI:Nonempty (aB (λx=>jgu V x)):=⟨aB.mk V (jez _ _)⟩
         refine aP (S:=λx=>jgu V x) (by kernel_rfl) (by kernel_rfl) (ak (jez _ _) _).drew ?_;repeat (go_big_quiet_step (first | (go_at_call 49;exact(yu.o _ (aB.ok _)).mono (λe w' h=>⟨h.1,aB.mk w' h.2.1,rfl⟩)) | (go_at_call 50;exact(RT.o _ (aB.ok _)).mono (λe w' h=>⟨h.1,_,h.2⟩))))
         refine wpQuiet_nil ?_;rintro _ ⟨s2,rfl⟩;obtain⟨w2,nX⟩:∃ x,x=s2.w:=⟨_,rfl⟩;have ap:=s2.ok;rw[<- nX]at ap ⊢;have gU:=ae ap;clear nX ap ng nc;go_wp2_with fail;go_ret
         rw[HT.o];exact⟨rfl,by first | exact ai (ai ce.o aG.o) gU.o | exact ak (ai (ai ce.o aG.o) gU.o) _⟩
        | false =>
         rw[hha]at RT lp;rw[lp.o,jex (by simp)]at lF;clear hha;have ng:∀ s:aB (λx=>jgu V x),s.w.cell? ⟨wr.heap.size,1,none⟩=some (.string f1):=λs=>(fI.o s.w s.ok).1.2
         have nc:∀ s:aB (λx=>jgu V x),s.w.cell? ⟨w.heap.size,1,none⟩=some (.slice (some ⟨b,off,none⟩) l.length cap):=λs=>(fI.o s.w s.ok).1.1
         haveI:Nonempty (aB (λx=>jgu V x)):=⟨aB.mk V (jez _ _)⟩
         refine aP (S:=λx=>jgu V x) (by kernel_rfl) (by kernel_rfl) (ak (jez _ _) _).drew ?_;repeat (go_big_quiet_step (first | (go_at_call 49;exact(yu.o _ (aB.ok _)).mono (λe w' h=>⟨h.1,aB.mk w' h.2.1,rfl⟩)) | (go_at_call 50;exact(RT.o _ (aB.ok _)).mono (λe w' h=>⟨h.1,_,h.2⟩))))
         refine wpQuiet_nil ?_;rintro _ ⟨s2,rfl⟩;obtain⟨w2,nX⟩:∃ x,x=s2.w:=⟨_,rfl⟩;have ap:=s2.ok;rw[<- nX]at ap ⊢;have gU:=ae ap;clear nX ap ng nc;obtain⟨_,y2,y3⟩:=fI.o _ gU.o;by_cases vZ:kW f2=false
         ·rw[jey vZ]at lF
          rw[lF.o,jex (by omega)]at HT
          have hkd':f2=0∨3<f2:=by
           unfold kW at vZ;have:=of_decide_eq_false vZ;omega
          clear lF vZ;rcases hkd' with q | q
          ·have q1:(f2:Int)<1:=by omega
           clear q;go_wp2_with fail;go_ret
           rw[HT.o];exact⟨rfl,by first | exact ai (ai ce.o aG.o) gU.o | exact ak (ai (ai ce.o aG.o) gU.o) _⟩
          ·have q1:¬ (f2:Int)<1:=by omega
           have q2:(f2:Int) > 3:=(by omega);clear q;go_wp2_with fail;go_ret
           rw[HT.o];exact⟨rfl,by first | exact ai (ai ce.o aG.o) gU.o | exact ak (ai (ai ce.o aG.o) gU.o) _⟩
         ·rw[jex vZ]at lF
          have hkd':1<=f2/\f2<=3:=by
           unfold kW at vZ;simpa using vZ
          have q1:¬ (f2:Int)<1:=(by omega);have q2:¬ (f2:Int) > 3:=(by omega);clear vZ hkd';have t0:((k:Int)==0)=false:=jeF.2 (by omega);cases f3
          ·have hR:R=0:=by rw[lF.o,jex (λh=>by rcases h with h | ⟨h,_⟩;(· rw[jeM (show ¬ k=0 by omega)]at h;cases h);(· omega))]
           rw[jey hR]at HT;clear hR lF;go_wp2_with fail;go_roundw
           case rel=>exact⟨k+1,by omega,by go_num,HT.o,by first | exact ai aG.o gU.o | exact ak (ai aG.o gU.o) _⟩
           case measure=>simp[intOf];omega
          ·have hR:R=82:=by rw[lF.o,jey (Or.inl (by rw[jeM (show ¬ k=0 by omega)];rfl))]
           rw[hR,jex (by omega)]at HT;clear hR lF;go_wp2_with fail;go_ret
           rw[HT.o];exact⟨rfl,by first | exact ai (ai ce.o aG.o) gU.o | exact ak (ai (ai ce.o aG.o) gU.o) _⟩
   ·obtain rfl:k=l.length:=by omega
    have ed:¬ ((l.length:Nat):Int)<(l.length:Int):=(by omega);have HT:=ae (HF.o.trans (Sa l));clear HF;have d1:=(HB.o.cell (p:=⟨w.heap.size,1,none⟩) hz).trans c1;go_wp2_with fail;go_ret
    rw[HT.o];exact⟨rfl,ai ce.o HB.o⟩
def RawSt(T:Nat)(W:World)(p:Nat)(b:List Nat)(f:Nat)(a:Option Addr)(cap:Nat):Prop :=
 W.heap[p]?=some (.cells #[.slice a b.length cap,.int .i64 (f:Int)] T (0,0))/\b.length<=cap/\cap<=maxLen/\Bs b/\(a=none->cap=0) /\
  (0<b.length->∃ g off,a=some ⟨g,off,none⟩/\g<p/\∀ j (h:j<b.length),W.cell? ⟨g,off+j,none⟩=some (.int .u8 (b[j]:Int)))
def St.cells2{T:Nat}{W:World}{p:Nat}{b:List Nat}{f:Nat}(h:St T W p b f) :
  ∃ a cap,W.cell? ⟨p,0,none⟩=some (.slice a b.length cap)/\W.cell? ⟨p,1,none⟩=some (.int .i64 (f:Int))/\W.frozen? ⟨p,0,none⟩=false/\W.frozen? ⟨p,1,none⟩=false /\
   b.length<=cap/\cap<=9223372036854775807/\Sv W (.slice a b.length cap) (aA .u8 b)/\(a=none->cap=0)/\RawSt T W p b f a cap:=by
 have ar:=h.lt;obtain⟨a,cap,h1,h2,h3,h4,h5,h6⟩:=h
 have iF:Sv W (.slice a b.length cap) (aA .u8 b):=by
  refine⟨a,cap,by rw[am],by rw[am];omega,h3,h5,λh0=>?_⟩;rw[am]at h0;obtain⟨g,off,e,hg,hc⟩:=h6 h0;refine⟨g,off,e,by omega,λj x hj=>?_⟩
  have hj':j<b.length:=by
   have:=(List.getElem?_eq_some_iff.1 hj).1;rwa[am]at this
  rw[bN hj']at hj;rw[hc j hj'];exact hj
 exact⟨a,cap,by rw[an h1];rfl,by rw[an h1];rfl,by simp[World.frozen?,h1],by simp[World.frozen?,h1],h2,by unfold maxLen at h3;omega,iF,h5,h1,h2,h3,h4,h5,h6⟩
def FM{b b1:List Nat}{f i:Nat}{l:List Fd}(h:Rds Dy b f (i,l) b1 0):Rds cD b f (i,l) b1 (chk i l) :=
 h.bind ⟨λ_=>rfl,λh=>absurd rfl h⟩
end Go.Proofs.YtpljdjmpamjkhaaGreatDoor
