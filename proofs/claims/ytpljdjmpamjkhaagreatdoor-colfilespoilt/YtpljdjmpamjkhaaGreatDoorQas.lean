import Derived.Test.YtpljdjmpamjkhaaGreatDoorQao
set_option linter.unusedVariables false
set_option linter.unusedSimpArgs false
set_option maxRecDepth 100000
set_option maxHeartbeats 4000000
namespace Go.Proofs.YtpljdjmpamjkhaaGreatDoor
open Go.RowKit Go.Lib
def FI(fs:List Fd)(rs:List Row):Prop:=∀ r∈rs,r.length=fs.length/\∀ c∈r,aT c
theorem tJ{fs:List Fd}{n:Nat}{cols:List (List Cl)}(hw:Whl fs n cols)(hc:cols.length=fs.length):FI fs (fS n cols):=by
 intro r hr;obtain⟨i,hi,rfl⟩:=jeF.1 hr;refine⟨by rw[jen];exact hc,fun c bC=>?_⟩;obtain⟨l,hl,rfl⟩:=jeF.1 bC;obtain⟨k,hk,rfl⟩:=List.mem_iff_getElem.1 hl;obtain⟨h1,h2⟩:=hw k hk;have aB:i<cols[k].length:=by rw[h2];simpa using hi
 rw[List.getD_eq_getElem?_getD,List.getElem?_eq_getElem aB];exact(h1.2.2 _ (jeo aB)).fine
theorem PP{fs:List Fd}{n:Nat}{s:S3}(hn:n<=64)(hk:∀ f∈fs,1<=f.2.2.1/\f.2.2.1<=3)(hb:Bs s.1)(h:(grK fs n s fs.length).2.2.2.2=false) :
  ∃ p,((grK fs n s fs.length).1,(grK fs n s fs.length).2.1)=grp fs p/\p.length=n/\FI fs p/\Bs (grK fs n s fs.length).2.2.1:=by
 obtain⟨cols,h1,h2,h3,h4,h5⟩:=Pj hn hk hb (jek _) h;refine⟨fS n cols,?_,gK _ _,tJ h2 h1,h5⟩;unfold grp;rw[h3,h4];congr 1
 apply List.ext_getElem?
 intro i;rw[List.getElem?_map,List.getElem?_map];by_cases hi:i<fs.length
 ·rw[List.getElem?_range hi,List.getElem?_eq_getElem (by omega)]
  simp only[jfu];rw[EM (by omega) (h2 i (by omega)).2]
 ·rw[List.getElem?_eq_none (by omega),List.getElem?_eq_none (by simp;omega)]
  rfl
theorem AC{fs:List Fd}{g tot:Nat}{s:S3}(hg:g<=64)(hk:∀ f∈fs,1<=f.2.2.1/\f.2.2.1<=3)(hb:Bs s.1):∀ j:Nat,(fiJ fs g tot s j).2.2.2=false ->
  ∃ L:List (List Row),(fiJ fs g tot s j).1=L.map (grp fs)/\L.length=j/\(∀ i (h:i<L.length),L[i].length=min (tot-i*g) g)/\(∀ p∈L,FI fs p)/\Bs (fiJ fs g tot s j).2.1
 | 0,h=>⟨[],rfl,rfl,fun i h=>by simp at h,fun p hp=>by simp at hp,hb⟩
 | j+1,h=>by
  have h0:(fiJ fs g tot s j).2.2.2=false:=qp (Nat.le_succ j) h;obtain⟨L,h1,h2,h3,h4,h5⟩:=AC hg hk hb j h0;obtain⟨p,e1,e2,e3,e4⟩:=PP (n:=min (tot-j*g) g) (by omega) hk h5 h;refine⟨L++[p],?_,by simp[h2],?_,?_,e4⟩
  ·show (fiJ fs g tot s j).1++[_]=_
   rw[e1,h1,jeE];rfl
  ·intro i hi
   rcases jeM i L.length with h6 | h6
   ·rw[jf9 h6]
    exact h3 i h6
   ·obtain rfl:i=L.length:=by simp at hi;omega
    rw[List.getElem_append_right (jek _)];simp only[jfM,jfZ];rw[e2,h2]
  ·intro q hq
   rcases jeN.1 hq with hq | hq
   ·exact h4 q hq
   ·rw[jeX.1 hq]
    exact e3
theorem qw{g tot:Nat}{L:List (List Row)}(h:∀ i (h:i<L.length),L[i].length=min (tot-i*g) g):∀ j,j<=L.length->j*g<=tot->(L.take j).flatten.length=j*g
 | 0,_,_=>by simp
 | j+1,hj,hg=>by
  rw[jeA (by omega),jf0,jem,qw h j (by omega) (by rw[jeZ]at hg;omega)];simp only[jfH,List.flatten_nil,jeG];rw[h j (by omega),jeZ];rw[jeZ]at hg;omega
theorem UG{g tot:Nat}(hg:0<g){L:List (List Row)}(h:∀ i (h:i<L.length),L[i].length=min (tot-i*g) g)(hL:L.length=nps g tot){j:Nat}(hj:j<L.length):prt g L.flatten j=L[j]:=by
 have aB:j*g<tot:=(kN hg).1 (by omega)
 have e:L.flatten=(L.take j).flatten++(L[j]++(L.drop (j+1)).flatten):=by
  conv=>lhs;rw[← jfF j L,jf0,je1 hj,jfH]
 have hf:=qw h j (by omega) (by omega);unfold prt;rw[e,← hf,je3];have hl:=h j hj;by_cases hc:(j+1)*g<tot
 ·have:L[j].length=g:=by rw[hl];rw[jeZ]at hc;omega
  rw[← this,jfh]
 ·have hn:¬ j+1<nps g tot:=fun h2=>hc ((kN hg).1 h2)
  have:L.drop (j+1)=[]:=jf1 (by omega);rw[this,List.flatten_nil,jeG];exact je4 (by omega)
theorem Kn{g tot:Nat}(hg:0<g){L:List (List Row)}(h:∀ i (h:i<L.length),L[i].length=min (tot-i*g) g)(hL:L.length=nps g tot):L.flatten.length=tot:=by
 rcases jfa L.length with h0 | h0
 ·have:L=[]:=jeI h0
  subst this;have:¬ 0<nps g tot:=by rw[← hL];simp
  rw[kN hg]at this;simp
  omega
 ·have hj:L.length-1<L.length:=by omega
  have aB:(L.length-1)*g<tot:=(kN hg).1 (by omega);have hf:=qw h (L.length-1) (by omega) (by omega);have hn:¬ L.length<nps g tot:=by omega
  rw[kN hg]at hn
  have e:L.flatten=(L.take (L.length-1)).flatten++(L[L.length-1]++(L.drop (L.length-1+1)).flatten):=by
   conv=>lhs;rw[← jfF (L.length-1) L,jf0,je1 hj,jfH]
  have hd:L.drop (L.length-1+1)=[]:=jf1 (by omega);rw[e,jem,hf,hd,List.flatten_nil,jeG,h _ hj]
  have:L.length*g=(L.length-1)*g+g:=by
   conv=>lhs;rw[show L.length=L.length-1+1 by omega,jeZ,jfp]
  omega
theorem eB{α β : Type}{d:List Nat->Except Nat (α×List Nat)}{f:α->List Nat->Except Nat (β×List Nat)}{b r:List Nat}{y:β}(h:aC d f b=.ok (y,r)):∃ x s,d b=.ok (x,s)/\f x s=.ok (y,r):=by
 cases hd:d b with
 | error e=>rw[cE hd]at h;cases h
 | ok q =>
  obtain⟨x,s⟩:=q;rw[db hd]at h;exact⟨x,s,rfl,h⟩
theorem xS{room n:Nat}{b r:List Nat}(h:iy room b=.ok (n,r)):n<=room:=by
 unfold iy at h;split at h
 ·cases h
 ·split at h
  ·cases h
  ·next h1 =>
   simp only[Except.ok.injEq,Prod.mk.injEq]at h;omega
theorem UH{b r:List Nat}{f:Fd}(h:uX b=.ok (f,r)):Okf f:=by
 unfold uX at h;obtain⟨i,s1,e1,h⟩:=eB h;obtain⟨t,s2,e2,h⟩:=eB h;obtain⟨k,s3,e3,h⟩:=eB h;obtain⟨n,s4,e4,h⟩:=eB h;simp only[Except.ok.injEq,Prod.mk.injEq]at h;obtain⟨rfl,_⟩:=h;have h1:=xS e1;have h3:=xS e3;exact⟨by show i<_;omega,by show k<_;omega⟩
theorem AD:∀{n:Nat} {b r:List Nat} {l:List Fd},li n b=.ok (l,r)->∀ f∈l,Okf f
 | 0,b,r,l,h=>by
  simp only[li,Except.ok.injEq,Prod.mk.injEq]at h;obtain⟨rfl,_⟩:=h;intro f hf;simp at hf
 | n+1,b,r,l,h=>by
  unfold li at h;obtain⟨l1,s1,e1,h⟩:=eB h;obtain⟨f1,s2,e2,h⟩:=eB h;simp only[Except.ok.injEq,Prod.mk.injEq]at h;obtain⟨rfl,_⟩:=h;intro f hf;rcases jeN.1 hf with hf | hf
  ·exact AD e1 f hf
  ·rw[jeX.1 hf]
   exact UH e2
theorem uJ{b r:List Nat}{id:Nat}{fs:List Fd}(h:di b=.ok ((id,fs),r)):chk id fs=0/\id<4294967296/\∀ f∈fs,Okf f:=by
 unfold di at h;obtain⟨q,s1,e1,h⟩:=eB h;unfold DD at e1;obtain⟨i,s2,e2,e1⟩:=eB e1;obtain⟨n,s3,e3,e1⟩:=eB e1;obtain⟨l,s4,e4,e1⟩:=eB e1;simp only[Except.ok.injEq,Prod.mk.injEq]at e1;obtain⟨rfl,rfl⟩:=e1;have h2:=xS e2;by_cases hc:chk i l=0
 ·rw[jei hc]at h
  simp only[Except.ok.injEq,Prod.mk.injEq]at h;obtain⟨⟨rfl,rfl⟩,_⟩:=h;exact⟨hc,by omega,AD e4⟩
 ·rw[jeh hc]at h
  cases h
theorem uK{b:List Nat}(hb:Bs b){id g:Nat}{fs:List Fd}{gs:List Gr}(h:iW b=some (id,fs,g,gs)) :
  chk id fs=0/\id<4294967296/\(∀ f∈fs,Okf f)/\1<=g/\g<=64/\(bT gs).length<=256/\FI fs (bT gs)/\gs=(List.range (nps g (bT gs).length)).map fun i=>grp fs (prt g (bT gs) i):=by
 unfold iW at h;split at h
 ·cases h
 ·split at h
  ·cases h
  ·split at h
   ·cases h
   ·next id' fs' r hu =>
    split at h
    ·cases h
    ·next hn =>
     simp only[Option.some.injEq,Prod.mk.injEq]at h;obtain⟨rfl,rfl,hg,rfl⟩:=h;obtain⟨hc,hi,ho⟩:=uJ hu;have hk:=ip hc;have jH:=Bool.eq_false_iff.2 hn;have hs:=jH;unfold io at hs;have gV:=qp (je6 _) hs;simp only[fiJ,Bool.or_eq_false_iff]at gV;have eZ:=Me gV.2;have gY:=rM 1 64 (dK r);obtain⟨L,h1,h2,h3,h4,h5⟩:=AC gY hk (hb.take _) _ hs;have ht:=Kn (by omega) h3 h2
     have cZ:bT (io fs' (b.take (b.length-4-leN (b.drop (b.length-4)))) r).1=L.flatten:=by
      unfold io bT;rw[h1,jeW];congr 1
      exact List.map_id'' (fun _=>rfl) _
     rw[cZ,← hg];have KQ:=rM 0 256 r;refine⟨hc,hi,ho,eZ,gY,by omega,?_,?_⟩
     ·intro x hx
      obtain⟨p,hp,hxp⟩:=List.mem_flatten.1 hx;exact h4 p hp x hxp
     ·unfold io
      rw[h1,ht];apply List.ext_getElem?
      intro i;rw[List.getElem?_map,List.getElem?_map];by_cases Ra:i<L.length
      ·rw[List.getElem?_eq_getElem Ra,List.getElem?_range (by omega)]
       simp only[jfu];rw[UG (by omega) h3 h2 Ra]
      ·rw[List.getElem?_eq_none (by omega),List.getElem?_eq_none (by simp;omega)]
       rfl
def St(T:Nat)(W:World)(p:Nat)(b:List Nat)(f:Nat):Prop :=
 ∃ a cap,W.heap[p]?=some (.cells #[.slice a b.length cap,.int .i64 (f:Int)] T (0,0))/\b.length<=cap/\cap<=maxLen/\Bs b/\(a=none->cap=0) /\
  (0<b.length->∃ g off,a=some ⟨g,off,none⟩/\g<p/\∀ j (h:j<b.length),W.cell? ⟨g,off+j,none⟩=some (.int .u8 (b[j]:Int)))
theorem St.bs{T:Nat}{W:World}{p:Nat}{b:List Nat}{f:Nat}(h:St T W p b f):Bs b:=by obtain⟨_,_,_,_,_,h,_⟩:=h;exact h
theorem St.lt{T:Nat}{W:World}{p:Nat}{b:List Nat}{f:Nat}(h:St T W p b f):p<W.heap.size:=by obtain⟨_,_,h,_⟩:=h;exact(Array.getElem?_eq_some_iff.1 h).1
theorem St.kept{T:Nat}{W W':World}{p B:Nat}{b:List Nat}{f:Nat}(h:St T W p b f)(hb:Below B W W')(hp:p<B):St T W' p b f:=by
 obtain⟨a,cap,h1,h2,h3,h4,h5,h6⟩:=h;refine⟨a,cap,(hb.block p hp).trans h1,h2,h3,h4,h5,fun h0=>?_⟩;obtain⟨g,off,e,hg,hc⟩:=h6 h0;exact⟨g,off,e,hg,fun j hj=>(hb.cell (p:=⟨g,off+j,none⟩) (show g<B by omega)).trans (hc j hj)⟩
theorem St.cells{T:Nat}{W:World}{p:Nat}{b:List Nat}{f:Nat}(h:St T W p b f) :
  ∃ a cap,W.cell? ⟨p,0,none⟩=some (.slice a b.length cap)/\W.cell? ⟨p,1,none⟩=some (.int .i64 (f:Int))/\W.frozen? ⟨p,0,none⟩=false/\W.frozen? ⟨p,1,none⟩=false /\
   b.length<=cap/\cap<=9223372036854775807/\Sv W (.slice a b.length cap) (aF .u8 b)/\(a=none->cap=0) /\
   (∀ f':Nat,St T (W.setCell ⟨p,1,none⟩ (.int .i64 (f':Int))) p b f') /\
   (∀ A k,k<=b.length->(k=b.length->(A=none->cap-k=0))->(k<b.length->∃ g off,a=some ⟨g,off,none⟩/\A=some ⟨g,off+k,none⟩)->St T (W.setCell ⟨p,0,none⟩ (.slice A (b.length-k) (cap-k))) p (b.drop k) f):=by
 have aB:=h.lt;obtain⟨a,cap,h1,h2,h3,h4,h5,h6⟩:=h
 have gX:Sv W (.slice a b.length cap) (aF .u8 b):=by
  refine⟨a,cap,by rw[ap],by rw[ap];omega,h3,h5,fun h0=>?_⟩;rw[ap]at h0;obtain⟨g,off,e,hg,hc⟩:=h6 h0;refine⟨g,off,e,by omega,fun j x hj=>?_⟩
  have hj':j<b.length:=by
   have:=(List.getElem?_eq_some_iff.1 hj).1;rwa[ap]at this
  rw[bU hj']at hj;rw[hc j hj'];exact hj
 refine⟨a,cap,by rw[ay h1];rfl,by rw[ay h1];rfl,by simp[World.frozen?,h1],by simp[World.frozen?,h1],h2,by unfold maxLen at h3;omega,gX,h5,fun f'=>?_,fun A k hk hA0 hA1=>?_⟩
 ·refine⟨a,cap,by rw[cM h1];rfl,h2,h3,h4,h5,fun h0=>?_⟩
  obtain⟨g,off,e,hg,hc⟩:=h6 h0;refine⟨g,off,e,hg,fun j hj=>?_⟩;rw[World.cell?_of_block (w:=W) (Below.heap_setCell _ _ _ _ (show g≠p by omega))];exact hc j hj
 ·have hl:(b.drop k).length=b.length-k:=jeR
  refine⟨A,cap-k,by rw[cM h1,hl];rfl,by omega,by omega,h4.drop k,fun hA=>?_,fun h0=>?_⟩
  ·rcases jeM k b.length with aB | gi
   ·obtain⟨g,off,_,e2⟩:=hA1 aB
    rw[hA]at e2;cases e2
   ·exact hA0 (by omega) hA
  ·have aB:k<b.length:=by omega
   obtain⟨g,off,e1,e2⟩:=hA1 aB;obtain⟨g',off',e,hg,hc⟩:=h6 (by omega);rw[e1]at e;simp only[Option.some.injEq,Addr.mk.injEq,and_true]at e;obtain⟨rfl,rfl⟩:=e;refine⟨g,off+k,e2,hg,fun j hj=>?_⟩;rw[World.cell?_of_block (w:=W) (Below.heap_setCell _ _ _ _ (show g≠p by omega)),jfr,hc (k+j) (by omega)];simp
theorem mW{w:World}{p f:Nat}{b:List Nat}(h:St 200 w p b f)(e:Nat) :
  Calls Tryz.prog 140 #[.pointer (some ⟨p,0,none⟩),.int .i64 (e:Int)] w fun r w'=>r=.returned (.tuple #[])/\St 200 w' p b (orf f e)/\Fr p w.heap.size w w':=by
 have HS:=ae h;obtain⟨a,cap,h0,h1,h2,h3,h4,h5,h6,h7,h8,h9⟩:=h.cells;have H8:=ae (h8 e);have HF:=ae ((Fr.refl p w.heap.size w).set 1 (.int .i64 (e:Int)));clear h h6 h8 h9;by_cases hf:((f:Int)==0)=true
 ·have hf':f=0:=by simpa using hf
  have HO:jgf (orf f e=e):=by show _=_;unfold orf;rw[jei hf']
  clear hf';go_enter Tryz.func140,Tryz.ntmps140
  go_wp2_with fail;go_end0
  rw[HO.o];exact⟨rfl,H8.o,HF.o⟩
 ·have hff:((f:Int)==0)=false:=by simpa using hf
  have HO:jgf (orf f e=f):=by show _=_;unfold orf;rw[jeh (fun e=>hf (by simp[e]))]
  clear hf;go_enter Tryz.func140,Tryz.ntmps140
  go_wp2_with fail;go_end0
  rw[HO.o];exact⟨rfl,HS.o,Fr.refl _ _ _⟩
def Ko(T:Nat){α : Type}(m:List Nat->Except Nat (α×List Nat))(val:α->Value)(ok:α->Prop)(p:Nat)(b:List Nat)(f:Nat)(w:World)(r:Ending)(w':World):Prop :=
 ∃(x:α) (b':List Nat) (f':Nat),r=.returned (val x)/\ok x/\St T w' p b' f'/\Rds m b f x b' f'/\Fr p w.heap.size w w'
theorem FK{room:Nat}{l:List Nat}{f:Nat}(hc:(gt l).2.2≠0):Rds (iy room) l f 0 l (orf f (gt l).2.2):=by
 have h:=Bz (room:=room) (l:=l) (f:=f);rw[jei (Or.inl hc),jei (Or.inl hc),jei hc]at h;exact h
theorem Cs{room:Nat}{l:List Nat}{f:Nat}(hc:(gt l).2.2=0)(hn:room<(gt l).1):Rds (iy room) l f 0 l (orf f 40):=by
 have h:=Bz (room:=room) (l:=l) (f:=f);rw[jei (Or.inr hn),jei (Or.inr hn),jeh (show ¬ (gt l).2.2≠0 by omega),jei hn]at h;exact h
theorem Kp{room:Nat}{l:List Nat}{f:Nat}(hc:(gt l).2.2=0)(hn:¬ room<(gt l).1):Rds (iy room) l f (gt l).1 (l.drop (gt l).2.1) f:=by
 have h:=Bz (room:=room) (l:=l) (f:=f);have h2:¬ ((gt l).2.2≠0∨room<(gt l).1):=by omega
 rw[jeh h2,jeh h2,jeh (show ¬ (gt l).2.2≠0 by omega),jeh hn,show (if f=0 then 0 else f)=f by split<;>omega]at h;exact h
theorem Yp{b:List Nat}(h:(gt b).2.2=0)(hb:Bs b):0<(gt b).2.1/\(gt b).2.1<=b.length:=by
 obtain⟨n,u,c,hg⟩:∃ n u c,gt b=(n,u,c):=⟨_,_,_,rfl⟩;rw[hg]at h ⊢;simp only at h;subst h;obtain⟨_,h2,h3⟩:=RM hb hg;have:=mG n;have h4:=jep List.length h2;simp only[jem,jeR]at h4;simp only;omega
theorem jl{w:World}{p f:Nat}{b:List Nat}(h:St 200 w p b f)(room:Nat)(hroom:room<18446744073709551616) :
  Calls Tryz.prog 178 #[.pointer (some ⟨p,0,none⟩),.int .u64 (room:Int)] w (Ko 200 (iy room) (fun x=>.int .u64 ((x:Nat):Int)) (fun x=>x<=room) p b f w):=by
 have HS:=ae h;have HB:=ae h.bs;have sP:=ae (FK (room:=room) (l:=b) (f:=f));have jn:=ae (Cs (room:=room) (l:=b) (f:=f));have sQ:=ae (Kp (room:=room) (l:=b) (f:=f));obtain⟨a,cap,h0,h1,h2,h3,h4,h5,h6,h7,h8,h9⟩:=h.cells;obtain⟨g1,g2,g3,g4⟩:=gd b;have HG:=ae (BA HB.o h6);have HU:=ae (fun e=>Yp (b:=b) e HB.o);have yk:=ae h6;have H9:=ae h9;clear h h6 h8 h9 g3;generalize gt b=x at *;obtain⟨n,u,c⟩:=x;simp only at *;unfold kX at HG;by_cases hc:c=0
 ·subst hc
  by_cases hn:room<n
  ·have hn':(n:Int) > (room:Int):=by omega
   have HR:=ae (jn.o rfl hn);clear sP jn sQ;go_enter Tryz.func178,Tryz.ntmps178
   go_wp2_with fail;refine HG.o.mono ?_;rintro e w1 ⟨rfl,rfl⟩;go_wp2_with fail;refine(mW HS.o 40).mono ?_;rintro e w2 ⟨rfl,dR,dG⟩;have gj:=ae dR;clear dR;go_wp2_with fail;go_ret
   exact⟨0,b,_,rfl,je6 _,gj.o,HR.o,dG⟩
  ·have hn':¬ (n:Int) > (room:Int):=by omega
   have HR:=ae (sQ.o rfl hn);clear sP jn sQ;obtain⟨Zo,hu2⟩:=HU.o rfl;have fK:0<b.length:=(by omega)
   obtain⟨g,off,ha⟩:∃ g off,a=some ⟨g,off,none⟩:=by
    obtain⟨a',cap',e,_,_,_,hx⟩:=yk.o;simp only[Value.slice.injEq]at e;obtain⟨b',off',e2,_⟩:=hx (by rw[ap];exact fK);exact⟨b',off',e.1.trans e2⟩
   subst ha;obtain⟨A,hA⟩:∃ A,(if cap=u then (some ⟨g,off,none⟩:Option Addr) else some ⟨g,off+u,none⟩)=A:=⟨_,rfl⟩
   have cP:=ae (H9.o A u hu2 (fun hk hA'=>by
    rw[hA']at hA;split at hA<;>cases hA) (fun hk=>⟨g,off,rfl,by rw[← hA,jeh (by omega)]⟩))
   have np:=ae ((Fr.refl p w.heap.size w).set 0 (.slice A (b.length-u) (cap-u)));clear fK;go_enter Tryz.func178,Tryz.ntmps178
   go_wp2_with fail;refine HG.o.mono ?_;rintro e w1 ⟨rfl,rfl⟩;go_wp2_with fail;go_ret
   exact⟨n,b.drop u,f,rfl,by omega,cP.o,HR.o,np.o⟩
 ·have hnz:n=0:=by omega
  subst hnz;have hc':((c:Int) != 0)=true:=by simp[hc]
  have hn':¬ (0:Int) > (room:Int):=by omega
  have HR:=ae (sP.o hc);clear hc sP jn sQ;go_enter Tryz.func178,Tryz.ntmps178
  go_wp2_with fail;refine HG.o.mono ?_;rintro e w1 ⟨rfl,rfl⟩;go_wp2_with fail;refine(mW HS.o c).mono ?_;rintro e w2 ⟨rfl,dR,dG⟩;have gj:=ae dR;clear dR;go_wp2_with fail;go_ret
  exact⟨0,b,_,rfl,je6 _,gj.o,HR.o,dG⟩
theorem xT{n:Nat}{l:List Nat}{f:Nat}(h:l.length<n):Rds (textR n) l f (am []) l (orf f 30):=by
 refine⟨fun h0=>?_,fun h0=>by unfold orf;rw[jeh h0]⟩;unfold textR orf;rw[jei h,jei h0,jeh (by omega)]
theorem FM{n:Nat}{l:List Nat}{f:Nat}(h:¬ l.length<n):Rds (textR n) l f (am (l.take n)) (l.drop n) f:=by
 refine⟨fun h0=>?_,fun _=>rfl⟩;unfold textR;rw[jeh h,jei h0]
theorem UI{w:World}{p f:Nat}{b:List Nat}(h:St 200 w p b f) :
  Calls Tryz.prog 212 #[.pointer (some ⟨p,0,none⟩)] w (Ko 200 (RN 16) (fun s=>.string s) (fun s=>s.size<=16) p b f w):=by
 have HN:=ae (jl h 16 (by omega));clear h;go_enter Tryz.func212,Tryz.ntmps212
 go_wp2_with fail;refine HN.o.mono ?_;rintro e w1 ⟨n,b1,f1,rfl,hn,eg,Bh,dh⟩;have ja:=ae eg;have sP:=ae Bh;have gp:=ae dh;have aP:=ae eg.bs;obtain⟨a,cap,h0,h1,h2,h3,h4,h5,h6,h7,h8,h9⟩:=eg.cells;have yk:=ae h6;have H9:=ae h9;have H7:=ae h7;clear eg Bh dh h6 h8 h9 h7 HN;by_cases hsh:b1.length<n
 ·have hsh':(n:Int) > (b1.length:Int):=by omega
  have HT:=ae (sP.o.bind (xT (f:=f1) hsh));go_wp2_with fail;refine(mW ja.o 30).mono ?_;rintro e w2 ⟨rfl,dR,dG⟩;have gj:=ae dR;have gP:=ae (gp.o.trans (dG.mono gp.o.size));clear dR dG;go_wp2_with fail;go_ret
  exact⟨am [],b1,_,rfl,by show (am []).size<=16;rw[bi];simp,gj.o,HT.o,gP.o⟩
 ·have hsh':¬ (n:Int) > (b1.length:Int):=by omega
  have HT:=ae (sP.o.bind (FM (f:=f1) hsh));have vL:=(yk.o.take (k:=n) (by rw[ap];omega));have e1:(aF .u8 b1).take n=aF .u8 (b1.take n):=by simp[aF,jfJ]
  rw[e1]at vL;have Zp:=vL.conv (aP.o.take n);rw[dM]at Zp;have GI:jgf ((am (b1.take n)).size<=16):=ae (by rw[bi,jeq];omega);have jaq:(n:Int)<=(cap:Int):=by omega
  have hnlen:(n:Int)<=(b1.length:Int):=by omega
  have Zb:(0:Int)<=(n:Int):=by omega
  have hnt:((n:Int)).toNat=n:=by omega
  clear vL e1;generalize am (b1.take n)=TX at *;rcases jfa b1.length with hz | hp
  ·have qI:n=0:=by omega
   subst qI;cases a with
   | none =>
    have oE:=H7.o rfl;subst oE;have gV:=(H9.o none 0 (by omega) (fun _ _=>rfl) (fun h=>by omega));rw[hz]at gV;have cP:=ae gV;have gP:=ae (gp.o.set 0 (.slice none 0 0));clear gV;go_wp2_with fail;go_ret
    exact⟨TX,b1.drop 0,f1,rfl,GI.o,cP.o,HT.o,gP.o⟩
   | some ad =>
    have gV:=(H9.o (some ad) 0 (by omega) (fun _ hA'=>by cases hA') (fun h=>by omega));rw[hz]at gV;have cP:=ae gV;have gP:=ae (gp.o.set 0 (.slice (some ad) 0 cap));clear gV;go_wp2_with fail;go_ret
    exact⟨TX,b1.drop 0,f1,rfl,GI.o,cP.o,HT.o,gP.o⟩
  ·obtain⟨g,off,ha⟩:∃ g off,a=some ⟨g,off,none⟩:=by
    obtain⟨a',cap',e,_,_,_,hx⟩:=yk.o;simp only[Value.slice.injEq]at e;obtain⟨b',off',e2,_⟩:=hx (by rw[ap];exact hp);exact⟨b',off',e.1.trans e2⟩
   subst ha;obtain⟨A,hA⟩:∃ A,(if cap=n then (some ⟨g,off,none⟩:Option Addr) else some ⟨g,off+n,none⟩)=A:=⟨_,rfl⟩
   have cP:=ae (H9.o A n (by omega) (fun hk hA'=>by
    rw[hA']at hA;split at hA<;>cases hA) (fun hk=>⟨g,off,rfl,by rw[← hA,jeh (by omega)]⟩))
   have gP:=ae (gp.o.set 0 (.slice A (b1.length-n) (cap-n)));go_wp2_with fail;go_ret
   exact⟨TX,b1.drop n,f1,rfl,GI.o,cP.o,HT.o,gP.o⟩
def Mid(w:World)(p:Nat)(W:World)(b:List Nat)(f:Nat)(x0 x1 x2 x3:Value):Prop :=
 St 200 W p b f/\p<w.heap.size/\W.heap[w.heap.size]?=some (.cells #[.int .u32 0,.string ⟨#[]⟩,.int .u8 0,.bool false] 81 (0,0)) /\
 W.heap[w.heap.size+1]?=some (.cells #[x0,x1,x2,x3] 81 (0,0))/\Fr p w.heap.size w W
theorem Mid.begin{w:World}{p f:Nat}{b:List Nat}(h:St 200 w p b f) :
  Mid w p ((w.alloc (.cells #[.int .u32 0,.string ⟨#[]⟩,.int .u8 0,.bool false] 81)).alloc (.cells #[.int .u32 0,.string ⟨#[]⟩,.int .u8 0,.bool false] 81)) b f (.int .u32 0) (.string ⟨#[]⟩) (.int .u8 0) (.bool false):=by
 have hbW:=((jej w.heap.size w).alloc (jek _) (.cells #[.int .u32 0,.string ⟨#[]⟩,.int .u8 0,.bool false] 81)).alloc (by rw[jel];omega) (.cells #[.int .u32 0,.string ⟨#[]⟩,.int .u8 0,.bool false] 81);have ch:(w.alloc (.cells #[.int .u32 0,.string ⟨#[]⟩,.int .u8 0,.bool false] 81)).heap.size=w.heap.size+1:=jel _ _;have aH:=ak (w.alloc (.cells #[.int .u32 0,.string ⟨#[]⟩,.int .u8 0,.bool false] 81)) (.cells #[.int .u32 0,.string ⟨#[]⟩,.int .u8 0,.bool false] 81);have hh0:=jeK w (.cells #[.int .u32 0,.string ⟨#[]⟩,.int .u8 0,.bool false] 81);have hh:=jeK (w.alloc (.cells #[.int .u32 0,.string ⟨#[]⟩,.int .u8 0,.bool false] 81)) (.cells #[.int .u32 0,.string ⟨#[]⟩,.int .u8 0,.bool false] 81);rw[ch]at hh;exact⟨h.kept hbW h.lt,h.lt,(aH.block w.heap.size (by omega)).trans hh0,hh,Fr.of_below hbW⟩
theorem Mid.call{w W W':World}{p f f':Nat}{b b':List Nat}{x0 x1 x2 x3:Value}(h:Mid w p W b f x0 x1 x2 x3)(hs:St 200 W' p b' f')(hf:Fr p W.heap.size W W'):Mid w p W' b' f' x0 x1 x2 x3:=by
 obtain⟨h1,h2,h3,h4,h5⟩:=h;have l3:=(Array.getElem?_eq_some_iff.1 h3).1;have l4:=(Array.getElem?_eq_some_iff.1 h4).1;exact⟨hs,h2,(hf.block _ l3 (by omega)).trans h3,(hf.block _ l4 (by omega)).trans h4,h5.trans (hf.mono (by omega))⟩
theorem Mid.facts{w W:World}{p f:Nat}{b:List Nat}{x0 x1 x2 x3:Value}(h:Mid w p W b f x0 x1 x2 x3) :
  (W.cell? ⟨w.heap.size+1,0,none⟩=some x0/\W.cell? ⟨w.heap.size+1,1,none⟩=some x1/\W.cell? ⟨w.heap.size+1,2,none⟩=some x2/\W.cell? ⟨w.heap.size+1,3,none⟩=some x3) /\
  (W.frozen? ⟨w.heap.size+1,0,none⟩=false/\W.frozen? ⟨w.heap.size+1,1,none⟩=false/\W.frozen? ⟨w.heap.size+1,2,none⟩=false/\W.frozen? ⟨w.heap.size+1,3,none⟩=false) /\
  (W.cell? ⟨w.heap.size,0,none⟩=some (.int .u32 0)/\W.cell? ⟨w.heap.size,1,none⟩=some (.string ⟨#[]⟩)/\W.cell? ⟨w.heap.size,2,none⟩=some (.int .u8 0)/\W.cell? ⟨w.heap.size,3,none⟩=some (.bool false)) /\
  (W.frozen? ⟨w.heap.size,0,none⟩=false/\W.frozen? ⟨w.heap.size,1,none⟩=false/\W.frozen? ⟨w.heap.size,2,none⟩=false/\W.frozen? ⟨w.heap.size,3,none⟩=false):=by
 obtain⟨h1,h2,h3,h4,h5⟩:=h;refine⟨⟨?_,?_,?_,?_⟩,⟨?_,?_,?_,?_⟩,⟨?_,?_,?_,?_⟩,⟨?_,?_,?_,?_⟩⟩<;>first | (rw[ay h4];rfl) | (rw[ay h3];rfl) | (simp[World.frozen?,h4];done) | (simp[World.frozen?,h3];done)
theorem Mid.keep{w W:World}{p f:Nat}{b:List Nat}{x0 x1 x2 x3:Value}(h:Mid w p W b f x0 x1 x2 x3)(j:Nat)(v:Value) :
  St 200 (W.setCell ⟨w.heap.size+1,j,none⟩ v) p b f/\(W.setCell ⟨w.heap.size+1,j,none⟩ v).heap[w.heap.size]?=some (.cells #[.int .u32 0,.string ⟨#[]⟩,.int .u8 0,.bool false] 81 (0,0))/\Fr p w.heap.size w (W.setCell ⟨w.heap.size+1,j,none⟩ v):=by
 obtain⟨h1,h2,h3,h4,h5⟩:=h;have hb:Below (w.heap.size+1) W (W.setCell ⟨w.heap.size+1,j,none⟩ v):=(jej (w.heap.size+1) W).setCell (show w.heap.size+1<=w.heap.size+1 from jek _) _;exact⟨h1.kept hb (by omega),(hb.block _ (by omega)).trans h3,h5.then (hb.mono (by omega))⟩
theorem Mid.set0{w W:World}{p f:Nat}{b:List Nat}{x0 x1 x2 x3:Value}(h:Mid w p W b f x0 x1 x2 x3)(v:Value):Mid w p (W.setCell ⟨w.heap.size+1,0,none⟩ v) b f v x1 x2 x3 :=
 ⟨(h.keep 0 v).1,h.2.1,(h.keep 0 v).2.1,by rw[cM h.2.2.2.1];rfl,(h.keep 0 v).2.2⟩
theorem Mid.set1{w W:World}{p f:Nat}{b:List Nat}{x0 x1 x2 x3:Value}(h:Mid w p W b f x0 x1 x2 x3)(v:Value):Mid w p (W.setCell ⟨w.heap.size+1,1,none⟩ v) b f x0 v x2 x3 :=
 ⟨(h.keep 1 v).1,h.2.1,(h.keep 1 v).2.1,by rw[cM h.2.2.2.1];rfl,(h.keep 1 v).2.2⟩
theorem Mid.set2{w W:World}{p f:Nat}{b:List Nat}{x0 x1 x2 x3:Value}(h:Mid w p W b f x0 x1 x2 x3)(v:Value):Mid w p (W.setCell ⟨w.heap.size+1,2,none⟩ v) b f x0 x1 v x3 :=
 ⟨(h.keep 2 v).1,h.2.1,(h.keep 2 v).2.1,by rw[cM h.2.2.2.1];rfl,(h.keep 2 v).2.2⟩
theorem Mid.set3{w W:World}{p f:Nat}{b:List Nat}{x0 x1 x2 x3:Value}(h:Mid w p W b f x0 x1 x2 x3)(v:Value):Mid w p (W.setCell ⟨w.heap.size+1,3,none⟩ v) b f x0 x1 x2 v :=
 ⟨(h.keep 3 v).1,h.2.1,(h.keep 3 v).2.1,by rw[cM h.2.2.2.1];rfl,(h.keep 3 v).2.2⟩
theorem Mid.done{w W:World}{p f:Nat}{b:List Nat}{x0 x1 x2 x3:Value}(h:Mid w p W b f x0 x1 x2 x3)(y0 y1 y2 y3:Value) :
  St 200 ((((W.setCell ⟨w.heap.size,0,none⟩ y0).setCell ⟨w.heap.size,1,none⟩ y1).setCell ⟨w.heap.size,2,none⟩ y2).setCell ⟨w.heap.size,3,none⟩ y3) p b f /\
  Fr p w.heap.size w ((((W.setCell ⟨w.heap.size,0,none⟩ y0).setCell ⟨w.heap.size,1,none⟩ y1).setCell ⟨w.heap.size,2,none⟩ y2).setCell ⟨w.heap.size,3,none⟩ y3):=by
 obtain⟨h1,h2,h3,h4,h5⟩:=h
 have hb:Below w.heap.size W ((((W.setCell ⟨w.heap.size,0,none⟩ y0).setCell ⟨w.heap.size,1,none⟩ y1).setCell ⟨w.heap.size,2,none⟩ y2).setCell ⟨w.heap.size,3,none⟩ y3) :=
  have pt:w.heap.size<=w.heap.size:=jek _;((((jej w.heap.size W).setCell (p:=⟨w.heap.size,0,none⟩) pt _).setCell (p:=⟨w.heap.size,1,none⟩) pt _).setCell (p:=⟨w.heap.size,2,none⟩) pt _).setCell (p:=⟨w.heap.size,3,none⟩) pt _
 exact⟨h1.kept hb h2,h5.then hb⟩
theorem Yq{b b1 b2 b3 b4:List Nat}{f f1 f2 f3 f4 i k n:Nat}{s:ByteArray}(h1:Rds (iy 4294967295) b f i b1 f1)(h2:Rds (RN 16) b1 f1 s b2 f2)(h3:Rds (iy 255) b2 f2 k b3 f3)(h4:Rds (iy 1) b3 f3 n b4 f4) :
  Rds uX b f (i,s,k,decide (n=1)) b4 f4 :=
 h1.bind (h2.bind (h3.bind (h4.bind (Rds.pure (i,s,k,decide (n=1)) b4 f4))))
theorem PQ{w:World}{p f:Nat}{b:List Nat}(h:St 200 w p b f) :
  Calls Tryz.prog 179 #[.pointer (some ⟨p,0,none⟩)] w (Ko 200 uX qk (fun x=>Okf x/\x.2.1.size<=16) p b f w):=by
 have HM:=ae (Mid.begin h);have ch:(w.alloc (.cells #[.int .u32 0,.string ⟨#[]⟩,.int .u8 0,.bool false] 81)).heap.size=w.heap.size+1:=jel _ _;clear h;generalize hW:(w.alloc (.cells #[.int .u32 0,.string ⟨#[]⟩,.int .u8 0,.bool false] 81)).alloc (.cells #[.int .u32 0,.string ⟨#[]⟩,.int .u8 0,.bool false] 81)=W at *;go_enter Tryz.func179,Tryz.ntmps179
 go_wp2_with fail;try rw[hW]
 clear hW ch;refine(jl HM.o.1 4294967295 (by omega)).mono ?_;rintro e w1 ⟨i,b1,f1,rfl,hi,eg,Bh,dh⟩;have QJ:=ae (HM.o.call eg dh);have sP:=ae Bh;have HI:=ae hi;have hi':i<4294967296:=by omega
 obtain⟨⟨c0,c1,c2,c3⟩,⟨z0,z1,z2,z3⟩,_,_⟩:=QJ.o.facts;clear eg Bh dh hi HM;go_wp2_with fail;have Lo:=ae (QJ.o.set0 (.int .u32 (i:Int)));clear QJ c0 c1 c2 c3 z0 z1 z2 z3;generalize hX:w1.setCell ⟨w.heap.size+1,0,none⟩ (.int .u32 (i:Int))=X at *;try rw[hX]
 clear hX;refine(UI Lo.o.1).mono ?_;rintro e w2 ⟨s,b2,f2,rfl,hs,dR,CK,dG⟩;have VB:=ae (Lo.o.call dR dG);have jn:=ae CK;have HS:=ae hs;obtain⟨⟨c0,c1,c2,c3⟩,⟨z0,z1,z2,z3⟩,_,_⟩:=VB.o.facts;clear dR CK dG hs Lo;go_wp2_with fail;have Qy:=ae (VB.o.set1 (.string s));clear VB c0 c1 c2 c3 z0 z1 z2 z3;generalize hX:w2.setCell ⟨w.heap.size+1,1,none⟩ (.string s)=Y at *;try rw[hX]
 clear hX;refine(jl Qy.o.1 255 (by omega)).mono ?_;rintro e w3 ⟨k,b3,f3,rfl,hk,lB,hr3,iJ⟩;have HM5:=ae (Qy.o.call lB iJ);have sQ:=ae hr3;have HK:=ae hk;have hk':k<256:=by omega
 obtain⟨⟨c0,c1,c2,c3⟩,⟨z0,z1,z2,z3⟩,_,_⟩:=HM5.o.facts;clear lB hr3 iJ hk Qy;go_wp2_with fail;have HM6:=ae (HM5.o.set2 (.int .u8 (k:Int)));clear HM5 c0 c1 c2 c3 z0 z1 z2 z3;generalize hX:w3.setCell ⟨w.heap.size+1,2,none⟩ (.int .u8 (k:Int))=Z at *;try rw[hX]
 clear hX;refine(jl HM6.o.1 1 (by omega)).mono ?_;rintro e w4 ⟨n,b4,f4,rfl,hn,ym,hr4,pT⟩;have HM7:=ae (HM6.o.call ym pT);have oK:=ae (Yq sP.o jn.o sQ.o hr4);obtain⟨⟨c0,c1,c2,c3⟩,⟨z0,z1,z2,z3⟩,⟨y0,y1,y2,y3⟩,⟨u0,u1,u2,u3⟩⟩:=HM7.o.facts;clear ym hr4 pT hn HM6
 have hq:((n:Int)==1)=decide (n=1):=by
  by_cases h:n=1
  ·subst h;rfl
  ·rw[jeu h];exact jev.2 (by omega)
 have HQ:=ae hq;clear hq;go_wp2_with fail;rw[HQ.o];obtain⟨d1,d2⟩:=(HM7.o.set3 (.bool (decide (n=1)))).done (.int .u32 (i:Int)) (.string s) (.int .u8 (k:Int)) (.bool (decide (n=1)));refine bodyPost_ret (v:=qk (i,s,k,decide (n=1))) (by simp[results,Tryz.results179,go_sem,qk,y0,y1,y2,y3]) rfl ?_;exact⟨_,_,_,rfl,⟨⟨by have:=HI.o;show i<4294967296;omega,by have:=HK.o;show k<256;omega⟩,HS.o⟩,d1,oK.o,d2⟩
def Sch(w:World)(p:Nat)(W:World)(b:List Nat)(f:Nat)(x0 x1:Value):Prop :=
 St 200 W p b f/\p<w.heap.size/\W.heap[w.heap.size]?=some (.cells #[.int .u32 0,.slice none 0 0] 25 (0,0)) /\
 W.heap[w.heap.size+1]?=some (.cells #[x0,x1] 25 (0,0))/\Fr p w.heap.size w W
theorem Sch.begin{w:World}{p f:Nat}{b:List Nat}(h:St 200 w p b f) :
  Sch w p ((w.alloc (.cells #[.int .u32 0,.slice none 0 0] 25)).alloc (.cells #[.int .u32 0,.slice none 0 0] 25)) b f (.int .u32 0) (.slice none 0 0):=by
 have hbW:=((jej w.heap.size w).alloc (jek _) (.cells #[.int .u32 0,.slice none 0 0] 25)).alloc (by rw[jel];omega) (.cells #[.int .u32 0,.slice none 0 0] 25);have ch:(w.alloc (.cells #[.int .u32 0,.slice none 0 0] 25)).heap.size=w.heap.size+1:=jel _ _;have aH:=ak (w.alloc (.cells #[.int .u32 0,.slice none 0 0] 25)) (.cells #[.int .u32 0,.slice none 0 0] 25);have hh0:=jeK w (.cells #[.int .u32 0,.slice none 0 0] 25);have hh:=jeK (w.alloc (.cells #[.int .u32 0,.slice none 0 0] 25)) (.cells #[.int .u32 0,.slice none 0 0] 25);rw[ch]at hh;exact⟨h.kept hbW h.lt,h.lt,(aH.block w.heap.size (by omega)).trans hh0,hh,Fr.of_below hbW⟩
theorem Sch.call{w W W':World}{p f f':Nat}{b b':List Nat}{x0 x1:Value}(h:Sch w p W b f x0 x1)(hs:St 200 W' p b' f')(hf:Fr p W.heap.size W W'):Sch w p W' b' f' x0 x1:=by
 obtain⟨h1,h2,h3,h4,h5⟩:=h;have l3:=(Array.getElem?_eq_some_iff.1 h3).1;have l4:=(Array.getElem?_eq_some_iff.1 h4).1;exact⟨hs,h2,(hf.block _ l3 (by omega)).trans h3,(hf.block _ l4 (by omega)).trans h4,h5.trans (hf.mono (by omega))⟩
theorem Sch.size{w W:World}{p f:Nat}{b:List Nat}{x0 x1:Value}(h:Sch w p W b f x0 x1):w.heap.size+2<=W.heap.size:=(Array.getElem?_eq_some_iff.1 h.2.2.2.1).1
theorem Sch.kept{w W W':World}{p f:Nat}{b:List Nat}{x0 x1:Value}(h:Sch w p W b f x0 x1)(hb:Below (w.heap.size+2) W W'):Sch w p W' b f x0 x1:=by
 obtain⟨h1,h2,h3,h4,h5⟩:=h;exact⟨h1.kept hb (by omega),h2,(hb.block _ (by omega)).trans h3,(hb.block _ (by omega)).trans h4,h5.then (hb.mono (by omega))⟩
theorem Sch.facts{w W:World}{p f:Nat}{b:List Nat}{x0 x1:Value}(h:Sch w p W b f x0 x1) :
  (W.cell? ⟨w.heap.size+1,0,none⟩=some x0/\W.cell? ⟨w.heap.size+1,1,none⟩=some x1) /\
  (W.frozen? ⟨w.heap.size+1,0,none⟩=false/\W.frozen? ⟨w.heap.size+1,1,none⟩=false) /\
  (W.cell? ⟨w.heap.size,0,none⟩=some (.int .u32 0)/\W.cell? ⟨w.heap.size,1,none⟩=some (.slice none 0 0)) /\
  (W.frozen? ⟨w.heap.size,0,none⟩=false/\W.frozen? ⟨w.heap.size,1,none⟩=false):=by
 obtain⟨h1,h2,h3,h4,h5⟩:=h;refine⟨⟨?_,?_⟩,⟨?_,?_⟩,⟨?_,?_⟩,⟨?_,?_⟩⟩<;>first | (rw[ay h4];rfl) | (rw[ay h3];rfl) | (simp[World.frozen?,h4];done) | (simp[World.frozen?,h3];done)
theorem Sch.keep{w W:World}{p f:Nat}{b:List Nat}{x0 x1:Value}(h:Sch w p W b f x0 x1)(j:Nat)(v:Value) :
  St 200 (W.setCell ⟨w.heap.size+1,j,none⟩ v) p b f/\(W.setCell ⟨w.heap.size+1,j,none⟩ v).heap[w.heap.size]?=some (.cells #[.int .u32 0,.slice none 0 0] 25 (0,0))/\Fr p w.heap.size w (W.setCell ⟨w.heap.size+1,j,none⟩ v):=by
 obtain⟨h1,h2,h3,h4,h5⟩:=h;have hb:Below (w.heap.size+1) W (W.setCell ⟨w.heap.size+1,j,none⟩ v):=(jej (w.heap.size+1) W).setCell (show w.heap.size+1<=w.heap.size+1 from jek _) _;exact⟨h1.kept hb (by omega),(hb.block _ (by omega)).trans h3,h5.then (hb.mono (by omega))⟩
theorem Sch.set0{w W:World}{p f:Nat}{b:List Nat}{x0 x1:Value}(h:Sch w p W b f x0 x1)(v:Value):Sch w p (W.setCell ⟨w.heap.size+1,0,none⟩ v) b f v x1 :=
 ⟨(h.keep 0 v).1,h.2.1,(h.keep 0 v).2.1,by rw[cM h.2.2.2.1];rfl,(h.keep 0 v).2.2⟩
theorem Sch.set1{w W:World}{p f:Nat}{b:List Nat}{x0 x1:Value}(h:Sch w p W b f x0 x1)(v:Value):Sch w p (W.setCell ⟨w.heap.size+1,1,none⟩ v) b f x0 v :=
 ⟨(h.keep 1 v).1,h.2.1,(h.keep 1 v).2.1,by rw[cM h.2.2.2.1];rfl,(h.keep 1 v).2.2⟩
theorem Sch.done{w W:World}{p f:Nat}{b:List Nat}{x0 x1:Value}(h:Sch w p W b f x0 x1)(y0 y1:Value) :
  St 200 ((W.setCell ⟨w.heap.size,0,none⟩ y0).setCell ⟨w.heap.size,1,none⟩ y1) p b f/\Fr p w.heap.size w ((W.setCell ⟨w.heap.size,0,none⟩ y0).setCell ⟨w.heap.size,1,none⟩ y1):=by
 obtain⟨h1,h2,h3,h4,h5⟩:=h;have hb:=qr (jej w.heap.size W) (jek w.heap.size) y0 y1;exact⟨h1.kept hb h2,h5.then hb⟩
theorem xU{k:Nat}{b b1 b2:List Nat}{f f1 f2:Nat}{x:List Fd}{y:Fd}(h1:Rds (li k) b f x b1 f1)(h2:Rds uX b1 f1 y b2 f2):Rds (li (k+1)) b f (x++[y]) b2 f2 :=
 h1.bind (h2.bind (Rds.pure (x++[y]) b2 f2))
def Yr(p:Nat)(b:List Nat)(f:Nat)(w:World)(r:Ending)(w':World):Prop :=
 ∃(id:Nat) (l:List Fd) (v:Value) (b':List Nat) (f':Nat),r=.returned (.agg #[.int .u32 (id:Int),v])/\ea w' w.heap.size v l/\id<4294967296/\l.length<=8/\(∀ y∈l,Okf y/\y.2.1.size<=16) /\
  St 200 w' p b' f'/\Rds DD b f (id,l) b' f'/\Fr p w.heap.size w w'
theorem Ys{b b1 b2 b3:List Nat}{f f1 f2 f3 i n:Nat}{l:List Fd}(h1:Rds (iy 4294967295) b f i b1 f1)(h2:Rds (iy 8) b1 f1 n b2 f2)(h3:Rds (li n) b2 f2 l b3 f3):Rds DD b f (i,l) b3 f3 :=
 h1.bind (h2.bind (h3.bind (Rds.pure (i,l) b3 f3)))
theorem xV{w1:World}{B p:Nat}{v:Value}{l:List Fd}(h:ea w1 B v l)(hp:p<B)(j:Nat)(x:Value):ea (w1.setCell ⟨p,j,none⟩ x) B v l :=
 Fr.own ((Fr.refl p w1.heap.size w1).set j x) h hp
theorem Kq{w:World}{p f:Nat}{b:List Nat}(h:St 200 w p b f) :
  Calls Tryz.prog 139 #[.pointer (some ⟨p,0,none⟩)] w (Yr p b f w):=by
 have HM:=ae (Sch.begin h);have ch:(w.alloc (.cells #[.int .u32 0,.slice none 0 0] 25)).heap.size=w.heap.size+1:=jel _ _;clear h;generalize hW:(w.alloc (.cells #[.int .u32 0,.slice none 0 0] 25)).alloc (.cells #[.int .u32 0,.slice none 0 0] 25)=W at *;go_enter Tryz.func139,Tryz.ntmps139
 go_wp2_with fail;try rw[hW]
 clear hW ch;refine(jl HM.o.1 4294967295 (by omega)).mono ?_;rintro e w1 ⟨i,b1,f1,rfl,hi,eg,Bh,dh⟩;have QJ:=ae (HM.o.call eg dh);have sP:=ae Bh;have HI:=ae hi;have hi':i<4294967296:=by omega
 obtain⟨⟨c0,c1⟩,⟨z0,z1⟩,_,_⟩:=QJ.o.facts;clear eg Bh dh hi HM;go_wp2_with fail;have Lo:=ae (QJ.o.set0 (.int .u32 (i:Int)));clear QJ c0 c1 z0 z1;generalize hX:w1.setCell ⟨w.heap.size+1,0,none⟩ (.int .u32 (i:Int))=X at *;try rw[hX]
 clear hX;refine(jl Lo.o.1 8 (by omega)).mono ?_;rintro e w2 ⟨n,b2,f2,rfl,hn,dR,CK,dG⟩;have VB:=ae (Lo.o.call dR dG);have jn:=ae CK;clear dR CK dG Lo;go_wp2_with fail;go_loopw [10] (fun i' wr=>∃(k:Nat) (x:List Fd) (bk:List Nat) (fk:Nat) (a:Option Addr) (cap:Nat),k<=n/\i'=.int .u64 (k:Int)/\Sch w p wr bk fk (.int .u32 (i:Int)) (.slice a k cap)/\ea wr (w.heap.size+2) (.slice a k cap) x/\x.length=k/\(∀ y∈x,Okf y/\y.2.1.size<=16)/\Rds (li k) b2 f2 x bk fk) (fun i' _=>n-(intOf i').toNat)
 case atStart=>exact⟨0,[],b2,f2,none,0,by omega,rfl,VB.o,ea.nil _ _,rfl,(fun _ h=>absurd h (by simp)),Rds.pure [] b2 f2⟩
 case round =>
  obtain⟨k,x,bk,fk,a,cap,hk,rfl,QS,aA,hxl,iY,hrk⟩:=hrel;have Qy:=ae QS;have HO:=ae aA;have HXL:=ae hxl;have Mz:=ae iY;have HRK:=ae hrk;clear aA hxl iY hrk;by_cases aB:k<n
  ·have hlt':(k:Int)<(n:Int):=by omega
   have hwk:IntKind.u64.wrap ((k:Int)+1)=((k+1:Nat):Int):=by rw[jeP];omega
   obtain⟨⟨c0,c1⟩,⟨z0,z1⟩,_,_⟩:=QS.facts;have qG:=ae QS.size;clear QS
   have pQ:jgf (∀ m,Calls Tryz.prog 179 #[.pointer (some ⟨p,0,none⟩)] (wr.drewN m) fun e w'=>∃(y0:Nat) (y1:ByteArray) (y2:Nat) (y3:Bool) (b':List Nat) (f':Nat),e=.returned (.agg #[.int .u32 (y0:Int),.string y1,.int .u8 (y2:Int),.bool y3])/\(Okf (y0,y1,y2,y3)/\y1.size<=16)/\Sch w p w' b' f' (.int .u32 (i:Int)) (.slice a k cap)/\Rds uX bk fk (y0,y1,y2,y3) b' f'/\ea w' (w.heap.size+2) (.slice a k cap) x/\w.heap.size+2<=w'.heap.size/\w'.cell? ⟨w.heap.size+1,1,none⟩=some (.slice a k cap)/\(w'.alloc (.cells #[.int .u32 (y0:Int),.string y1,.int .u8 (y2:Int),.bool y3] 81)).cell? ⟨w.heap.size+1,1,none⟩=some (.slice a k cap)):=ae (fun m=>by
    have nC:Below wr.heap.size wr (wr.drewN m):=ar (jej wr.heap.size wr) m;refine(PQ (Qy.o.1.kept nC Qy.o.1.lt)).mono ?_;rintro e w' ⟨⟨y0,y1,y2,y3⟩,b',f',rfl,hy,hs',hr',hf'⟩;have dG:Fr p wr.heap.size wr w':=(Fr.of_below nC).trans (hf'.mono nC.size);have hm:=Qy.o.call hs' dG;obtain⟨⟨d0,d1⟩,⟨e0,e1⟩,_,_⟩:=hm.facts;have QN:=Qy.o.2.1;exact⟨y0,y1,y2,y3,b',f',rfl,hy,hm,hr',Fr.own dG HO.o (by omega),hm.size,d1,((ak w' _).cell (p:=⟨w.heap.size+1,1,none⟩) (by have:=hm.size;show w.heap.size+1<_;omega)).trans d1⟩)
   have HAP:jgf (∀ y b' f' w6 w7 v7,Sch w p w6 b' f' (.int .u32 (i:Int)) (.slice a k cap)->ea w7 (w.heap.size+2) v7 (x++[y])->Below (w.heap.size+2) w6 w7->∃ a7 cap7,v7=.slice a7 (k+1) cap7/\Sch w p w7 b' f' (.int .u32 (i:Int)) (.slice a k cap)/\(w7.cell? ⟨w.heap.size+1,1,none⟩=some (.slice a k cap)/\w7.frozen? ⟨w.heap.size+1,1,none⟩=false)):=ae (fun y b' f' w6 w7 v7 hm o7 iR=>by
    obtain⟨a7,cap7,hv,_,_⟩:=aO o7;rw[jem,jeS,HXL.o]at hv;have Wb:=hm.kept iR;obtain⟨⟨d0,d1⟩,⟨e0,e1⟩,_,_⟩:=Wb.facts;exact⟨a7,cap7,hv,Wb,d1,e1⟩)
   have CL:jgf (∀ y:Fd,x.length+[y].length<=100000):=ae (fun y=>by rw[jeS,HXL.o];omega);clear c0 z0 z1;go_wp2_with fail;refine wp_region_any (by kernel_rfl) ?_;change wpAny _ _ _ _ _ _ _ wr.drew
   refine wpAny_take (i := 0) (oi := { dst := some 12, op := Op.fieldAddr 25 (Operand.tmp 3) 1, type := 0, pos := "pack.go:64", after := #[], guard := none }) (v := ?_) rfl (by kernel_rfl) (by kernel_rfl) (by kernel_rfl) (fun _ _ _ h => h) (Or.inl ⟨by rfl, ?_⟩) ?_;rotate_left
   ·intro w9
    first | (go_simp;done) | (go_simp;with_reducible rfl)
   try simp only[Act.put,jey,jew,jex]
   refine wpAny_take (i := 2) (oi := { dst := some 14, op := Op.move (Operand.tmp 0), type := 198, pos := "pack.go:64", after := #[], guard := none }) (v := ?_) rfl (by kernel_rfl) (by kernel_rfl) (by kernel_rfl) (fun _ _ _ h => h) (Or.inl ⟨by rfl, ?_⟩) ?_;rotate_left
   ·intro w9
    first | (go_simp;done) | (go_simp;with_reducible rfl)
   try simp only[Act.put,jey,jew,jex]
   refine wpAny_ready (rs:=[1,3]) (by kernel_rfl) (by simp) ?_;refine AllReady.cons (o := { dst := some 13, op := Op.load 23 (Operand.tmp 12), type := 23, pos := "pack.go:64", after := #[{ on := 0, ground := Ground.data }], guard := none }) rfl (fun K hK => ?_) ?_
   ·have HK:=ae hK
    clear hK;go_simp
    refine HK.o _ _ ?_;clear HK K;try simp only[Act.put,jey,jew,jex]
    refine wpAny_ready (rs:=[3]) (by kernel_rfl) (by simp) ?_;refine AllReady.cons (o := { dst := some 15, op := Op.call { callee := Callee.value (Operand.func 179), args := #[Operand.tmp 14], argTypes := #[198] }, type := 81, pos := "pack.go:64", after := #[{ on := 2, ground := Ground.data }], guard := none }) rfl (fun K hK => ?_) ?_
    ·have HK:=ae hK
     clear hK;go_simp
     refine(pQ.o 1).mono ?_;rintro e w6 ⟨y0,y1,y2,y3,b6,f6,rfl,hy,hm6,VT,o6,yl,GH,hkk2⟩;have HY:=ae hy;have HM6:=ae hm6;have GN:=ae VT;have my:=ae o6;clear hy hm6 VT o6;go_wp2_with fail;refine HK.o _ _ ?_;clear HK K;try simp only[Act.put,jey,jew,jex]
     refine wpAny_ready (rs:=[4]) (by kernel_rfl) (by simp) ?_;refine AllReady.cons (o := { dst := some 16, op := Op.buildSlice 23 1 #[(0, Operand.tmp 15)], type := 23, pos := "pack.go:64", after := #[{ on := 3, ground := Ground.data }], guard := none }) rfl (fun K hK => ?_) ?_
     ·have HK:=ae hK
      clear hK;go_simp
      refine HK.o _ _ ?_;clear HK K;try simp only[Act.put,jey,jew,jex]
      refine wpAny_ready (rs:=[5]) (by kernel_rfl) (by simp) ?_;refine AllReady.cons (o := { dst := some 17, op := Op.call { callee := Callee.builtin Builtin.append, args := #[Operand.tmp 13, Operand.tmp 16], argTypes := #[23, 23] }, type := 23, pos := "pack.go:64", after := #[{ on := 1, ground := Ground.data }, { on := 4, ground := Ground.data }, { on := 3, ground := Ground.chain }], guard := none }) rfl (fun K hK => ?_) ?_
      ·have HK:=ae hK
       clear hK;refine lI (by rfl) _ _ (by rfl) (w.heap.size+2) w6.heap.size _ _ x [(y0,y1,y2,y3)] (by rfl) ?_ (by rfl) ?_ ?_ ?_ ?_ ?_
       ·exact my.o.kept (ak _ _)
       ·exact BR w6 (y0,y1,y2,y3)
       ·exact Nat.zero_lt_succ _
       ·exact CL.o _
       ·exact rP yl _
       intro v7 w7 o7 b7;obtain⟨a7,cap7,rfl,Wb,hkk7,z1⟩:=HAP.o _ _ _ _ _ _ (HM6.o.kept ((jej _ _).alloc yl _)) o7 b7;have iI:=ae o7;have HM7:=ae Wb;clear o7 b7 Wb;refine HK.o _ _ ?_;clear HK K;try simp only[Act.put,jey,jew,jex]
       refine wpAny_ready (rs:=[6]) (by kernel_rfl) (by simp) ?_;refine AllReady.cons (o := { dst := some 18, op := Op.fieldAddr 25 (Operand.tmp 3) 1, type := 0, pos := "pack.go:64", after := #[{ on := 0, ground := Ground.phase }, { on := 1, ground := Ground.phase }, { on := 2, ground := Ground.phase }, { on := 3, ground := Ground.phase }, { on := 4, ground := Ground.phase }, { on := 5, ground := Ground.phase }], guard := none }) rfl (fun K hK => ?_) ?_
       ·have HK:=ae hK
        clear hK;go_simp
        refine HK.o _ _ ?_;clear HK K;try simp only[Act.put,jey,jew,jex]
        refine wpAny_ready (rs:=[7]) (by kernel_rfl) (by simp) ?_;refine AllReady.cons (o := { dst := none, op := Op.store 23 (Operand.tmp 18) (Operand.tmp 17), type := 0, pos := "pack.go:64", after := #[{ on := 6, ground := Ground.data }, { on := 5, ground := Ground.data }, { on := 5, ground := Ground.chain }, { on := 0, ground := Ground.phase }, { on := 1, ground := Ground.phase }, { on := 2, ground := Ground.phase }, { on := 3, ground := Ground.phase }, { on := 4, ground := Ground.phase }, { on := 5, ground := Ground.phase }], guard := none }) rfl (fun K hK => ?_) ?_
        ·have HK:=ae hK
         clear hK;go_simp
         refine HK.o _ _ ?_;clear HK K;try simp only[Act.put,jey,jew,jex]
         refine wpAny_done (by kernel_rfl) ?_ _;go_wp2_with fail;exact⟨⟨k+1,x++[(y0,y1,y2,y3)],b6,f6,a7,cap7,by omega,rfl,HM7.o.set1 (.slice a7 (k+1) cap7),xV iI.o (by omega) _ _,by rw[jem,jeS,HXL.o],fun y hy=>(jeN.1 hy).elim (Mz.o y) (fun h=>by rw[jeX]at h;rw[h];exact HY.o),xU HRK.o GN.o⟩,by simp only[intOf];omega⟩
        exact AllReady.nil
       exact AllReady.nil
      exact AllReady.nil
     exact AllReady.nil
    exact AllReady.nil
   refine AllReady.cons (o := { dst := some 15, op := Op.call { callee := Callee.value (Operand.func 179), args := #[Operand.tmp 14], argTypes := #[198] }, type := 81, pos := "pack.go:64", after := #[{ on := 2, ground := Ground.data }], guard := none }) rfl (fun K hK => ?_) ?_
   ·have HK:=ae hK
    clear hK;go_simp
    refine(pQ.o 1).mono ?_;rintro e w6 ⟨y0,y1,y2,y3,b6,f6,rfl,hy,hm6,VT,o6,yl,GH,hkk2⟩;have HY:=ae hy;have HM6:=ae hm6;have GN:=ae VT;have my:=ae o6;clear hy hm6 VT o6;go_wp2_with fail;refine HK.o _ _ ?_;clear HK K;try simp only[Act.put,jey,jew,jex]
    refine wpAny_ready (rs:=[1,4]) (by kernel_rfl) (by simp) ?_;refine AllReady.cons (o := { dst := some 13, op := Op.load 23 (Operand.tmp 12), type := 23, pos := "pack.go:64", after := #[{ on := 0, ground := Ground.data }], guard := none }) rfl (fun K hK => ?_) ?_
    ·have HK:=ae hK
     clear hK;go_simp
     refine HK.o _ _ ?_;clear HK K;try simp only[Act.put,jey,jew,jex]
     refine wpAny_ready (rs:=[4]) (by kernel_rfl) (by simp) ?_;refine AllReady.cons (o := { dst := some 16, op := Op.buildSlice 23 1 #[(0, Operand.tmp 15)], type := 23, pos := "pack.go:64", after := #[{ on := 3, ground := Ground.data }], guard := none }) rfl (fun K hK => ?_) ?_
     ·have HK:=ae hK
      clear hK;go_simp
      refine HK.o _ _ ?_;clear HK K;try simp only[Act.put,jey,jew,jex]
      refine wpAny_ready (rs:=[5]) (by kernel_rfl) (by simp) ?_;refine AllReady.cons (o := { dst := some 17, op := Op.call { callee := Callee.builtin Builtin.append, args := #[Operand.tmp 13, Operand.tmp 16], argTypes := #[23, 23] }, type := 23, pos := "pack.go:64", after := #[{ on := 1, ground := Ground.data }, { on := 4, ground := Ground.data }, { on := 3, ground := Ground.chain }], guard := none }) rfl (fun K hK => ?_) ?_
      ·have HK:=ae hK
       clear hK;refine lI (by rfl) _ _ (by rfl) (w.heap.size+2) w6.heap.size _ _ x [(y0,y1,y2,y3)] (by rfl) ?_ (by rfl) ?_ ?_ ?_ ?_ ?_
       ·exact my.o.kept (ak _ _)
       ·exact BR w6 (y0,y1,y2,y3)
       ·exact Nat.zero_lt_succ _
       ·exact CL.o _
       ·exact rP yl _
       intro v7 w7 o7 b7;obtain⟨a7,cap7,rfl,Wb,hkk7,z1⟩:=HAP.o _ _ _ _ _ _ (HM6.o.kept ((jej _ _).alloc yl _)) o7 b7;have iI:=ae o7;have HM7:=ae Wb;clear o7 b7 Wb;refine HK.o _ _ ?_;clear HK K;try simp only[Act.put,jey,jew,jex]
       refine wpAny_ready (rs:=[6]) (by kernel_rfl) (by simp) ?_;refine AllReady.cons (o := { dst := some 18, op := Op.fieldAddr 25 (Operand.tmp 3) 1, type := 0, pos := "pack.go:64", after := #[{ on := 0, ground := Ground.phase }, { on := 1, ground := Ground.phase }, { on := 2, ground := Ground.phase }, { on := 3, ground := Ground.phase }, { on := 4, ground := Ground.phase }, { on := 5, ground := Ground.phase }], guard := none }) rfl (fun K hK => ?_) ?_
       ·have HK:=ae hK
        clear hK;go_simp
        refine HK.o _ _ ?_;clear HK K;try simp only[Act.put,jey,jew,jex]
        refine wpAny_ready (rs:=[7]) (by kernel_rfl) (by simp) ?_;refine AllReady.cons (o := { dst := none, op := Op.store 23 (Operand.tmp 18) (Operand.tmp 17), type := 0, pos := "pack.go:64", after := #[{ on := 6, ground := Ground.data }, { on := 5, ground := Ground.data }, { on := 5, ground := Ground.chain }, { on := 0, ground := Ground.phase }, { on := 1, ground := Ground.phase }, { on := 2, ground := Ground.phase }, { on := 3, ground := Ground.phase }, { on := 4, ground := Ground.phase }, { on := 5, ground := Ground.phase }], guard := none }) rfl (fun K hK => ?_) ?_
        ·have HK:=ae hK
         clear hK;go_simp
         refine HK.o _ _ ?_;clear HK K;try simp only[Act.put,jey,jew,jex]
         refine wpAny_done (by kernel_rfl) ?_ _;go_wp2_with fail;exact⟨⟨k+1,x++[(y0,y1,y2,y3)],b6,f6,a7,cap7,by omega,rfl,HM7.o.set1 (.slice a7 (k+1) cap7),xV iI.o (by omega) _ _,by rw[jem,jeS,HXL.o],fun y hy=>(jeN.1 hy).elim (Mz.o y) (fun h=>by rw[jeX]at h;rw[h];exact HY.o),xU HRK.o GN.o⟩,by simp only[intOf];omega⟩
        exact AllReady.nil
       exact AllReady.nil
      exact AllReady.nil
     exact AllReady.nil
    refine AllReady.cons (o := { dst := some 16, op := Op.buildSlice 23 1 #[(0, Operand.tmp 15)], type := 23, pos := "pack.go:64", after := #[{ on := 3, ground := Ground.data }], guard := none }) rfl (fun K hK => ?_) ?_
    ·have HK:=ae hK
     clear hK;go_simp
     refine HK.o _ _ ?_;clear HK K;try simp only[Act.put,jey,jew,jex]
     refine wpAny_ready (rs:=[1]) (by kernel_rfl) (by simp) ?_;refine AllReady.cons (o := { dst := some 13, op := Op.load 23 (Operand.tmp 12), type := 23, pos := "pack.go:64", after := #[{ on := 0, ground := Ground.data }], guard := none }) rfl (fun K hK => ?_) ?_
     ·have HK:=ae hK
      clear hK;go_simp
      refine HK.o _ _ ?_;clear HK K;try simp only[Act.put,jey,jew,jex]
      refine wpAny_ready (rs:=[5]) (by kernel_rfl) (by simp) ?_;refine AllReady.cons (o := { dst := some 17, op := Op.call { callee := Callee.builtin Builtin.append, args := #[Operand.tmp 13, Operand.tmp 16], argTypes := #[23, 23] }, type := 23, pos := "pack.go:64", after := #[{ on := 1, ground := Ground.data }, { on := 4, ground := Ground.data }, { on := 3, ground := Ground.chain }], guard := none }) rfl (fun K hK => ?_) ?_
      ·have HK:=ae hK
       clear hK;refine lI (by rfl) _ _ (by rfl) (w.heap.size+2) w6.heap.size _ _ x [(y0,y1,y2,y3)] (by rfl) ?_ (by rfl) ?_ ?_ ?_ ?_ ?_
       ·exact my.o.kept (ak _ _)
       ·exact BR w6 (y0,y1,y2,y3)
       ·exact Nat.zero_lt_succ _
       ·exact CL.o _
       ·exact rP yl _
       intro v7 w7 o7 b7;obtain⟨a7,cap7,rfl,Wb,hkk7,z1⟩:=HAP.o _ _ _ _ _ _ (HM6.o.kept ((jej _ _).alloc yl _)) o7 b7;have iI:=ae o7;have HM7:=ae Wb;clear o7 b7 Wb;refine HK.o _ _ ?_;clear HK K;try simp only[Act.put,jey,jew,jex]
       refine wpAny_ready (rs:=[6]) (by kernel_rfl) (by simp) ?_;refine AllReady.cons (o := { dst := some 18, op := Op.fieldAddr 25 (Operand.tmp 3) 1, type := 0, pos := "pack.go:64", after := #[{ on := 0, ground := Ground.phase }, { on := 1, ground := Ground.phase }, { on := 2, ground := Ground.phase }, { on := 3, ground := Ground.phase }, { on := 4, ground := Ground.phase }, { on := 5, ground := Ground.phase }], guard := none }) rfl (fun K hK => ?_) ?_
       ·have HK:=ae hK
        clear hK;go_simp
        refine HK.o _ _ ?_;clear HK K;try simp only[Act.put,jey,jew,jex]
        refine wpAny_ready (rs:=[7]) (by kernel_rfl) (by simp) ?_;refine AllReady.cons (o := { dst := none, op := Op.store 23 (Operand.tmp 18) (Operand.tmp 17), type := 0, pos := "pack.go:64", after := #[{ on := 6, ground := Ground.data }, { on := 5, ground := Ground.data }, { on := 5, ground := Ground.chain }, { on := 0, ground := Ground.phase }, { on := 1, ground := Ground.phase }, { on := 2, ground := Ground.phase }, { on := 3, ground := Ground.phase }, { on := 4, ground := Ground.phase }, { on := 5, ground := Ground.phase }], guard := none }) rfl (fun K hK => ?_) ?_
        ·have HK:=ae hK
         clear hK;go_simp
         refine HK.o _ _ ?_;clear HK K;try simp only[Act.put,jey,jew,jex]
         refine wpAny_done (by kernel_rfl) ?_ _;go_wp2_with fail;exact⟨⟨k+1,x++[(y0,y1,y2,y3)],b6,f6,a7,cap7,by omega,rfl,HM7.o.set1 (.slice a7 (k+1) cap7),xV iI.o (by omega) _ _,by rw[jem,jeS,HXL.o],fun y hy=>(jeN.1 hy).elim (Mz.o y) (fun h=>by rw[jeX]at h;rw[h];exact HY.o),xU HRK.o GN.o⟩,by simp only[intOf];omega⟩
        exact AllReady.nil
       exact AllReady.nil
      exact AllReady.nil
     exact AllReady.nil
    exact AllReady.nil
   exact AllReady.nil
  ·obtain⟨⟨c0,c1⟩,⟨z0,z1⟩,⟨d0,d1⟩,⟨y0,y1⟩⟩:=QS.facts
   obtain rfl:k=n:=by omega
   have hlt':¬ (k:Int)<(k:Int):=(by omega);clear QS;go_wp2_with fail;obtain⟨e1,e2⟩:=Qy.o.done (.int .u32 (i:Int)) (.slice a k cap);refine bodyPost_ret (v:=.agg #[.int .u32 (i:Int),.slice a k cap]) (by simp[results,Tryz.results139,go_sem,d0,d1]) rfl ?_;exact⟨i,x,_,bk,fk,rfl,(ER HO.o (by omega) _ _).low (by omega),by have:=HI.o;omega,by have:=HXL.o;omega,Mz.o,e1,Ys sP.o jn.o HRK.o,e2⟩
end Go.Proofs.YtpljdjmpamjkhaaGreatDoor
