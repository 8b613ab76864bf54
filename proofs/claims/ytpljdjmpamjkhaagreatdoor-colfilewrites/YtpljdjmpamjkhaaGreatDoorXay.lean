import Derived.Test.YtpljdjmpamjkhaaGreatDoorXax
import Derived.Laws.CopyOwn
set_option linter.unusedVariables false
set_option linter.unusedSimpArgs false
set_option maxRecDepth 100000
set_option maxHeartbeats 4000000
namespace Go.Proofs.YtpljdjmpamjkhaaGreatDoor
open Go.Lib
def Er(f:Nat):Prop:=f=0∨f=30∨f=31∨f=32∨f=40∨f=50
theorem Er.orf{f e:Nat}(h:Er f)(h2:Er e):Er (orf f e):=by
 unfold YtpljdjmpamjkhaaGreatDoor.orf;split
 ·exact h2
 ·exact h
theorem bH{f e:Nat}(h:orf f e=0):f=0/\e=0:=by
 unfold orf at h;split at h
 ·next h1=>exact⟨h1,h⟩
 ·next h1=>exact absurd h h1
def Es{α : Type}(d:List Nat->Except Nat (α×List Nat)):Prop:=∀ b e,d b=.error e->Er e
theorem Es.bind{α β : Type}{d:List Nat->Except Nat (α×List Nat)}{f:α->List Nat->Except Nat (β×List Nat)}(h1:Es d)(h2:∀ x,Es (f x)):Es (aC d f):=by
 intro b e h;unfold aC at h;split at h
 ·next x r _=>exact h2 x r e h
 ·next e' he =>
  cases h
  exact h1 b _ he
theorem Es.ok{α : Type}{x:List Nat->α×List Nat}:Es (fun r=>(.ok (x r):Except Nat (α×List Nat))):=fun b e h=>by cases h
theorem Es.err{α : Type}{e:Nat}(h:Er e):Es (fun _=>(.error e:Except Nat (α×List Nat))):=fun b e' h'=>by cases h';exact h
theorem Es.ite{α : Type}{c:Prop}[Decidable c]{d1 d2:List Nat->Except Nat (α×List Nat)}(h1:Es d1)(h2:¬ c->Es d2):Es (if c then d1 else d2):=by
 split
 ·exact h1
 ·next h=>exact h2 h
theorem Et(b:List Nat):Er (gt b).2.2:=by
 obtain⟨_,_,_,h | ⟨h | h,_⟩⟩:=fW b
 ·exact Or.inl h
 ·exact Or.inr (Or.inl h)
 ·exact Or.inr (Or.inr (Or.inl h))
theorem Eu:Es wh:=fun b e h=>by
 unfold wh at h;split at h
 ·cases h
 ·cases h
  exact Et b
theorem Bo:Es num:=fun b e h=>by
 unfold num at h;split at h
 ·cases h
 ·cases h
  exact Et b
theorem Jp{b:List Nat}{n w:Nat}(hn:n<=256)(hw:w<=64):Er (unE b n w):=by
 unfold unE;rw[jdu (by omega)];split
 ·exact Or.inl rfl
 ·exact Or.inr (Or.inr (Or.inr (Or.inr (Or.inl rfl))))
theorem Tv{n w:Nat}(hn:n<=256)(hw:w<=64):Es (pkd n w):=fun b e h=>by
 unfold pkd at h;split at h
 ·cases h
  exact Or.inr (Or.inl rfl)
 ·split at h
  ·cases h
   exact Or.inr (Or.inr (Or.inr (Or.inl rfl)))
  ·split at h
   ·cases h
   ·cases h
    exact Jp hn hw
theorem uy:Er 40:=Or.inr (Or.inr (Or.inr (Or.inr (Or.inl rfl))))
theorem er32:Er 32:=Or.inr (Or.inr (Or.inr (Or.inl rfl)))
theorem Xo:Er 30:=Or.inr (Or.inl rfl)
theorem er50:Er 50:=Or.inr (Or.inr (Or.inr (Or.inr (Or.inr rfl))))
theorem er0:Er 0:=Or.inl rfl
theorem Tw:∀ n,Es (rd0 n)
 | 0=>fun b e h=>by cases h
 | n+1=>by
  have:=(Eu).bind (f:=fun x=>aC (rd0 n) (fun l r=>.ok (x::l,r))) (fun x=>(Tw n).bind (fun l=>Es.ok));exact this
theorem Tx:∀ n last,Es (rd1 n last)
 | 0,_=>fun b e h=>by cases h
 | n+1,last=>by
  have:=(Eu).bind (f:=fun d=>aC (rd1 n (w64 (last+d))) (fun l r=>.ok (w64 (last+d)::l,r))) (fun d=>(Tx n _).bind (fun l=>Es.ok));exact this
theorem Ty:∀ f n,Es (rd2 f n)
 | 0,_=>fun b e h=>by cases h
 | f+1,n=>fun b e h=>by
  unfold rd2 at h;split at h
  ·cases h
  ·exact(Eu.bind (fun x=>Bo.bind (fun k=>Es.ite (Es.err uy) (fun _=>(Ty f (n-k)).bind (fun l=>Es.ok))))) b e h
theorem Tz:∀ m last,Es (rdU m last)
 | 0,_=>fun b e h=>by cases h
 | m+1,last=>fun b e h=>by
  unfold rdU at h;exact(Bo.bind (fun d=>Es.ite (Es.err uy) (fun _=>(Tz m _).bind (fun l=>Es.ok)))) b e h
theorem jaL{n:Nat}(hn:n<=256):Es (rd3 n):=fun b e h=>by
 unfold rd3 at h;refine(Bo.bind (fun many=>Es.ite (Es.err uy) (fun hm=>Es.ite Es.ok (fun h0=>Eu.bind (fun x=>(Tz _ x).bind (fun u=>(Tv hn ?_).bind (fun p r e he=>?_))))))) b e h
 ·rw[eK]
  have:many-1<2 ^ 64:=by
   have:(2:Nat) ^ 64=18446744073709551616:=by decide
   omega
  exact this
 ·unfold picked at he
  split at he
  ·cases he
  ·cases he
   exact uy
theorem jaM{n:Nat}(hn:n<=256):Es (rd4 n):=fun b e h=>by
 unfold rd4 at h;split at h
 ·cases h
 ·exact(Eu.bind (fun x=>Bo.bind (fun w=>Es.ite (Es.err uy) (fun hw=>(Tv hn (by omega)).bind (fun p=>Es.ok))))) b e h
theorem jaN{c n:Nat}(hn:n<=256):Es (rdC c n):=by
 unfold rdC;split
 ·exact Tw n
 ·exact Tx n 0
 ·exact Ty n n
 ·exact jaL hn
 ·exact jaM hn
theorem rz{b:List Nat}{n:Nat}(hn:n<=256):Er (bq b n).2:=by
 unfold bq;rw[jdu (by omega)];split
 ·exact Xo
 ·next c t =>
  split
  ·exact er50
  ·split
   ·exact er0
   ·next e he =>
    unfold mX at he;split at he
    ·next e' he' =>
     cases he
     exact jaN (by omega) _ _ he'
    ·split at he
     ·split at he
      ·cases he
      ·cases he
       exact uy
     ·cases he
      exact er32
theorem qg{b:List Nat}{n:Nat}(hb:Bs b)(hn:n<=256):Is (bq b n).1/\(bq b n).1.length<=n:=by
 by_cases h:(bq b n).2=0
 ·obtain⟨h1,h2⟩:=iT hb h
  exact⟨h2,by omega⟩
 ·have:(bq b n).1=[]:=by
   unfold bq at h ⊢;rw[jdu (by omega)]at h ⊢;split
   ·rfl
   ·next c t =>
    split
    ·rfl
    ·next h4 =>
     simp only[jdt h4]at h;split
     ·next l hl =>
      rw[hl]at h;exact absurd rfl h
     ·rfl
  rw[this];exact⟨fun x hx=>by simp at hx,by simp⟩
def RP{α : Type}(Ok:α->Prop)(G:α->List Nat->Prop)(f:Nat)(x:α)(b':List Nat)(f':Nat):Prop :=
 Er f'/\(f'=0->f=0/\Ok x)/\∀ y r,f=0->Ok y->G y r->f'=0/\x=y/\b'=r
def Ni(n:Nat)(l:List Int):Prop:=l.length=n/\Is l
def Nt(n:Nat)(l:List (List Nat)):Prop:=l.length=n/\Ts l
theorem gK{a r:List Nat}(f:Nat):tkB a.length (a++r)=a/\tkR a.length (a++r)=r/\tkF a.length (a++r) f=f:=by
 have h:¬ (a++r).length<a.length:=by rw[jdy];omega
 refine⟨?_,?_,?_⟩
 ·unfold tkB;rw[jdt h,jet]
 ·unfold tkR;rw[jdt h,jed]
 ·unfold tkF;rw[jdt h]
theorem Bp{c:Nat}{b:List Nat}{f:Nat}(h:Er f):Er (tkF c b f):=by
 unfold tkF;split
 ·exact h.orf Xo
 ·exact h
theorem rB{c:Nat}{b:List Nat}{f:Nat}(h:tkF c b f=0):f=0/\¬ b.length<c:=by
 unfold tkF at h;split at h
 ·have:=(bH h).2
  omega
 ·next h1=>exact⟨h,h1⟩
theorem Jq{b:List Nat}{f n:Nat}(hb:Bs b)(hn:n<=256)(hf:Er f) :
  RP (Ni n) (fun l r=>b=cnt l++r) f (bq (tkB (gt b).1 (b.drop (gt b).2.1)) n).1 (tkR (gt b).1 (b.drop (gt b).2.1)) (orf (tkF (gt b).1 (b.drop (gt b).2.1) (orf f (gt b).2.2)) (bq (tkB (gt b).1 (b.drop (gt b).2.1)) n).2):=by
 refine⟨(Bp (hf.orf (Et b))).orf (rz hn),fun h=>?_,fun l r h0 hl hg=>?_⟩
 ·obtain⟨h1,h2⟩:=bH h
  obtain⟨h3,h4⟩:=iT (ta (hb.drop _)) h2;exact⟨(bH (rB h1).1).1,by omega,h4⟩
 ·obtain⟨UL,Aa⟩:=hl
  have hs:=(ke Aa (by omega)).1
  have uT:gt b=((cQ l).length,(uv (cQ l).length).length,0):=by
   rw[hg];unfold cnt;rw[jdL];exact mA _ (by omega) _
  have hd:b.drop (uv (cQ l).length).length=cQ l++r:=by
   rw[hg];unfold cnt;rw[jdL,jed]
  have PZ:=kb Aa (by omega);rw[UL]at PZ;rw[uT];simp only;rw[hd,(gK (a:=cQ l) (r:=r) 0).1,(gK (a:=cQ l) (r:=r) 0).2.1,(gK (a:=cQ l) (r:=r) (orf f 0)).2.2,PZ,h0];exact⟨rfl,rfl,rfl⟩
open Go.RowKit
theorem Sv.keptFr{W W':World}{p B:Nat}{v:Value}{xs:List Value}(h:Sv W v xs)(hv:∀ k,v.ownBlock=some k->k<B/\k≠p)(hf:Fr p B W W'):Sv W' v xs:=by
 obtain⟨a,cap,rfl,h1,h2,h3,h4⟩:=h;refine⟨a,cap,rfl,h1,h2,h3,fun h0=>?_⟩;obtain⟨b,off,rfl,h5,h6⟩:=h4 h0;have hb:=hv b rfl;exact⟨b,off,rfl,jdS h5 hf.size,fun j x hj=>(World.cell?_of_block (w:=W) (a:=⟨b,off+j,none⟩) (hf.block b hb.1 hb.2)).trans (h6 j x hj)⟩
def LI(sz:List Int)(b1:List Nat)(f1 j:Nat)(l:List (List Nat))(bj:List Nat)(fj:Nat):Prop :=
 l.length=j/\Ts l/\Er fj/\(fj=0->f1=0)/\∀ y r,f1=0->Ts y->ec y=sz->b1=y.flatten++r->fj=0/\l=y.take j/\bj=(y.drop j).flatten++r
theorem LI.start{sz:List Int}{b1:List Nat}{f1:Nat}(hf:Er f1):LI sz b1 f1 0 [] b1 f1 :=
 ⟨rfl,fun s hs=>by simp at hs,hf,fun h=>h,fun y r h1 _ _ h4=>⟨h1,by simp,by simpa using h4⟩⟩
theorem Xp{c:Nat}{b:List Nat}:(tkB c b).length<=c:=by
 unfold tkB;split
 ·simp
 ·rw[jdC];omega
theorem LI.step{sz:List Int}{b1:List Nat}{f1 j:Nat}{l:List (List Nat)}{bj:List Nat}{fj:Nat}(h:LI sz b1 f1 j l bj fj)(hb:Bs bj)(hj:j<sz.length)(h0:0<=sz[j])(kM:sz[j]<=64) :
  LI sz b1 f1 (j+1) (l++[tkB sz[j].toNat bj]) (tkR sz[j].toNat bj) (tkF sz[j].toNat bj fj):=by
 obtain⟨h1,h2,h3,h4,h5⟩:=h;have hl:=Xp (c:=sz[j].toNat) (b:=bj);refine⟨by simp[h1],fun s hs=>?_,Bp h3,fun h=>h4 (rB h).1,fun y r a1 a2 a3 a4=>?_⟩
 ·rcases jd2.1 hs with hs | hs
  ·exact h2 s hs
  ·have:s=tkB sz[j].toNat bj:=by simpa using hs
   subst this;exact⟨by omega,ta hb⟩
 ·obtain⟨c1,c2,c3⟩:=h5 y r a1 a2 a3 a4
  have hy:j<y.length:=by rw[← a3,bJ]at hj;exact hj
  have hz:sz[j]=(y[j].length:Int):=by
   have:(ec y)[j]?=some (y[j].length:Int):=by simp[ec,hy]
   rw[a3,List.getElem?_eq_getElem hj]at this;exact Option.some.inj this
  have hd:y.drop j=y[j]::y.drop (j+1):=jec hy;rw[hd,jeR,jdL]at c3;rw[hz,jd1,c3,(gK (a:=y[j]) fj).1,(gK (a:=y[j]) fj).2.1,(gK (a:=y[j]) fj).2.2,c2,jdM hy];exact⟨c1,rfl,rfl⟩
theorem LI.bad{sz:List Int}{b b1 bz:List Nat}{f f1 j n:Nat}{l:List (List Nat)}{bj:List Nat}{fj:Nat}(hc:RP (Ni n) (fun l r=>b=cnt l++r) f sz b1 f1)(h:LI sz b1 f1 j l bj fj)(hj:j<sz.length)(hw:sz[j]<0∨64<sz[j]) :
  RP (Nt n) (fun l r=>b=fC l++r) f [] bz (orf fj 40):=by
 obtain⟨h1,h2,h3,h4,h5⟩:=h;refine⟨h3.orf uy,fun h=>absurd (bH h).2 (by omega),fun y r a1 a2 a3=>?_⟩;obtain⟨d1,d2,d3⟩:=hc.2.2 (ec y) (y.flatten++r) a1 ⟨by rw[bJ];exact a2.1,gZ a2.2⟩ (by rw[a3];unfold fC;rw[jdL]);have hy:j<y.length:=by rw[d2,bJ]at hj;exact hj
 have hz:sz[j]=(y[j].length:Int):=by
  have:(ec y)[j]?=some (y[j].length:Int):=by simp[ec,hy]
  rw[← d2,List.getElem?_eq_getElem hj]at this;exact Option.some.inj this
 have:=(a2.2 _ (jdA hy)).1;omega
theorem LI.done{sz:List Int}{b b1:List Nat}{f f1 n:Nat}{l:List (List Nat)}{bj:List Nat}{fj:Nat}(hc:RP (Ni n) (fun l r=>b=cnt l++r) f sz b1 f1)(h:LI sz b1 f1 sz.length l bj fj) :
  RP (Nt n) (fun l r=>b=fC l++r) f l bj fj:=by
 obtain⟨h1,h2,h3,h4,h5⟩:=h;refine⟨h3,fun h=>?_,fun y r a1 a2 a3=>?_⟩
 ·obtain⟨e1,e2⟩:=hc.2.1 (h4 h)
  exact⟨e1,by rw[h1];exact e2.1,h2⟩
 ·obtain⟨d1,d2,d3⟩:=hc.2.2 (ec y) (y.flatten++r) a1 ⟨by rw[bJ];exact a2.1,gZ a2.2⟩ (by rw[a3];unfold fC;rw[jdL])
  obtain⟨c1,c2,c3⟩:=h5 y r d1 a2.2 d2.symm d3;have yv:sz.length=y.length:=by rw[d2,bJ]
  rw[yv]at c2 c3;rw[jdE]at c2;rw[jer]at c3;exact⟨c1,c2,by simpa using c3⟩
def TA(n:Nat)(G:List (List Nat)->List Nat->Prop)(p f:Nat)(w:World)(r:Ending)(w':World):Prop :=
 ∃ l b' f',(∃ v,r=.returned v/\eF w' w.heap.size v l)/\Ts l/\l.length<=n/\Rs w' p b' f'/\RP (Nt n) G f l b' f'/\Fr p w.heap.size w w'
theorem Ev{w:World}{p f:Nat}{b:List Nat}(h:Rs w p b f)(hf:Er f)(n:Nat)(hn:n<=256) :
  Calls Tryz.prog 298 #[.pointer (some ⟨p,0,none⟩),.int .i64 (n:Int)] w (TA n (fun l r=>b=fC l++r) p f w):=by
 have aB:=h.lt;have kP:=ae (qf h n);have KE:=ae (Jq h.bs hn hf);have LZ:=ae (qg (ta (c:=(gt b).1) (h.bs.drop (gt b).2.1)) hn);clear h;generalize (bq (tkB (gt b).1 (b.drop (gt b).2.1)) n).1=sz at *;generalize (orf (tkF (gt b).1 (b.drop (gt b).2.1) (orf f (gt b).2.2)) (bq (tkB (gt b).1 (b.drop (gt b).2.1)) n).2)=f1 at *;generalize tkR (gt b).1 (b.drop (gt b).2.1)=b1 at *;have hszl:=LZ.o.2;go_enter Tryz.func298,Tryz.ntmps298
 go_wp2_with fail;refine kP.o.mono ?_;rintro e w1 ⟨⟨v1,rfl,eH⟩,ea,dv⟩;have jy:=ae ea;have gp:=ae dv;have cP:=dv.size;have PQ:=ae eH.sv
 have xR:jfp (∀ k,v1.ownBlock=some k->k<w1.heap.size/\k≠p):=ae (fun k hk=>by
  have:=eH.lt k hk;exact⟨this.2,by omega⟩)
 obtain⟨a1,c1,rfl,lp,xI⟩:=aM eH;have hcm1':c1<=9223372036854775807:=by unfold maxLen at xI;omega
 clear ea dv eH xI;go_wp2_with fail;go_loopw [5,12] (fun o i wr=>∃(j:Nat) (l:List (List Nat)) (bj:List Nat) (fj:Nat),j<=sz.length/\i=.int .i64 (j:Int)/\eF wr w1.heap.size o l/\LI sz b1 f1 j l bj fj/\Rs wr p bj fj/\Fr p w1.heap.size w1 wr) (fun _ i _=>sz.length-(intOf i).toNat)
 case atStart=>exact⟨0,[],b1,f1,by omega,rfl,eF.nil _ _,LI.start KE.o.1,jy.o,Fr.refl _ _ _⟩
 case round =>
  obtain⟨j,l,bj,fj,hj,rfl,aA,hli,hsj,hfj⟩:=hrel;have HO:=ae aA;have rS:=ae hli;have HSJ:=ae hsj;have HFJ:=ae hfj;have bF:=hfj.size;have mU:l.length=j:=hli.1;clear aA hli hsj hfj;by_cases uS:j<sz.length
  ·obtain⟨g,off,rfl,hg,br⟩:=(PQ.o.keptFr xR.o HFJ.o).at uS
   have cU:=ae (rS.o.step HSJ.o.bs uS);have ts:=ae (fun bz hw=>rS.o.bad (bz:=bz) KE.o uS hw);have hjl':(j:Int)<(sz.length:Int):=(by omega);generalize sz[j]=z at *;by_cases ct:z<0
   ·go_wp2_with fail
    refine(cF HSJ.o 40).mono ?_;rintro e w3 ⟨rfl,lr,gS⟩;have ny:=ae lr;have qm:=ae (gp.o.trans ((HFJ.o.trans (gS.mono bF)).mono cP));clear lr gS;go_wp2_with fail;go_ret
    exact⟨[],_,_,⟨_,rfl,eF.nil _ _⟩,fun s hs=>by simp at hs,by simp,ny.o,ts.o _ (Or.inl ct),qm.o⟩
   ·by_cases hz64:z > 64
    ·go_wp2_with fail
     refine(cF HSJ.o 40).mono ?_;rintro e w3 ⟨rfl,lr,gS⟩;have ny:=ae lr;have qm:=ae (gp.o.trans ((HFJ.o.trans (gS.mono bF)).mono cP));clear lr gS;go_wp2_with fail;go_ret
     exact⟨[],_,_,⟨_,rfl,eF.nil _ _⟩,fun s hs=>by simp at hs,by simp,ny.o,ts.o _ (Or.inr (by omega)),qm.o⟩
    ·obtain⟨zn,rfl⟩:∃ zn:Nat,z=(zn:Int):=⟨z.toNat,by omega⟩
     have HST':=ae (cU.o (by omega) (by omega));rw[jd1]at HST';have rP:=ae (oP HSJ.o zn (by omega));have xQ:=ae (ta (c:=zn) HSJ.o.bs);clear cU ts;generalize tkB zn bj=tb at *;generalize tkR zn bj=tr at *;generalize tkF zn bj fj=tf at *;go_wp2_with fail;refine rP.o.mono ?_;rintro e w3 ⟨⟨v3,rfl,hv3⟩,lr,gS⟩;have LM:=hv3.conv xQ.o;have ny:=ae lr;have qm:=ae (HFJ.o.trans (gS.mono bF));have iH:=gS.size;have dh:jfp (eF w3 w1.heap.size _ l):=ae (gS.own HO.o (by omega));clear lr gS hv3;unfold txt at LM;have hlen':l.length<=100000:=(by omega);go_wp2_with (first | (at_builtin;refine bY rfl _ _ rfl w1.heap.size _ _ tb l rfl (dh.o.kept (am _ _)) rfl (aK _ _ _) hlen' ?c2 ?_))
     case c2=>first | omega | (rw[jdx];omega)
     intro v' w4 o4 b4;have eR:=ae o4;have bK:=((am w3 (.cells #[txt tb] 9)).mono (show w1.heap.size<=w3.heap.size by omega)).trans b4;have uG:=ae (ny.o.kept bK (by omega));have Cr:=ae (qm.o.then bK);clear o4 b4 bK;go_wp2_with fail;go_roundw
     case rel=>exact⟨j+1,l++[tb],tr,tf,by omega,by go_num,eR.o,HST'.o,uG.o,Cr.o⟩
     case measure=>simp[intOf];omega
  ·have:j=sz.length:=by omega
   subst this;have HDN:=ae (rS.o.done KE.o);have rQ:=ae rS.o.2.1;have gj:¬ ((sz.length:Nat):Int)<(sz.length:Int):=(by omega);have Kq:=ae (gp.o.trans (HFJ.o.mono cP));go_wp2_with fail;go_ret
   exact⟨l,bj,fj,⟨_,rfl,be HO.o cP⟩,rQ.o,by omega,HSJ.o,HDN.o,Kq.o⟩
def byP(b:List Nat)(l:List (List Nat))(r:List Nat):Prop:=b=uv (tuq l).length++(fC (tuq l)++cQ (cL l))/\r=[]
theorem Ew{b r:List Nat}{y:List (List Nat)}{n:Nat}(hn:n<=256)(hy:Nt n y)(hg:byP b y r):gt b=((tuq y).length,(uv (tuq y).length).length,0)/\b.drop (uv (tuq y).length).length=fC (tuq y)++cQ (cL y)/\(tuq y).length<=n:=by
 have hl:=fL y;have h1:=hy.1;refine⟨?_,?_,by omega⟩
 ·rw[hg.1]
  exact mA _ (by omega) _
 ·rw[hg.1,jed]
theorem TB{b bz:List Nat}{f n:Nat}(hn:n<=256)(hf:Er f)(h:n<(gt b).1):RP (Nt n) (byP b) f [] bz (orf (orf f (gt b).2.2) 40):=by
 refine⟨(hf.orf (Et b)).orf uy,fun h=>absurd (bH h).2 (by omega),fun y r a1 a2 a3=>?_⟩;obtain⟨h1,h2,h3⟩:=Ew hn a2 a3;rw[h1]at h;exact absurd h (by simp only;omega)
theorem Ex{b:List Nat}{f n:Nat}{u:List (List Nat)}{b2:List Nat}{f2:Nat}(hn:n<=256)(hc:RP (Nt (gt b).1) (fun l r=>b.drop (gt b).2.1=fC l++r) (orf f (gt b).2.2) u b2 f2){y:List (List Nat)}{r:List Nat}(h0:f=0)(hy:Nt n y)(hg:byP b y r) :
  f2=0/\u=tuq y/\bq b2 n=(cL y,0):=by
 obtain⟨h1,h2,h3⟩:=Ew hn hy hg;rw[h1]at hc;simp only at hc;rw[h2,h0]at hc;obtain⟨d1,d2,d3⟩:=hc.2.2 (tuq y) (cQ (cL y)) rfl ⟨rfl,ly hy.2⟩ rfl;have hb:=kb (ed (l:=y) (by have:=hy.1;omega)) (by rw[bV];have:=hy.1;omega);rw[bV,hy.1]at hb;exact⟨d1,d2,by rw[d3];exact hb⟩
theorem Xq{b bz:List Nat}{f n j:Nat}{u:List (List Nat)}{b2:List Nat}{f2:Nat}(hn:n<=256)(hc:RP (Nt (gt b).1) (fun l r=>b.drop (gt b).2.1=fC l++r) (orf f (gt b).2.2) u b2 f2)
  (hj:j<(bq b2 n).1.length) (hw:(bq b2 n).1[j]<0∨(u.length:Int)<=(bq b2 n).1[j]):RP (Nt n) (byP b) f [] bz (orf (orf f2 (bq b2 n).2) 40):=by
 refine⟨(hc.1.orf (rz hn)).orf uy,fun h=>absurd (bH h).2 (by omega),fun y r a1 a2 a3=>?_⟩;obtain⟨h1,h2,h3⟩:=Ex hn hc a1 a2 a3
 have hm:∀ q∈(bq b2 n).1,q∈cL y:=fun q hq=>by
  rw[h3]at hq;exact hq
 have:=pQ _ (hm _ (jdA hj));rw[← h2]at this;omega
theorem TC{b:List Nat}{f n:Nat}{u:List (List Nat)}{b2:List Nat}{f2:Nat}(hn:n<=256)(aE:Bs b2)(hu:Ts u)(hc:RP (Nt (gt b).1) (fun l r=>b.drop (gt b).2.1=fC l++r) (orf f (gt b).2.2) u b2 f2)
  (cX:∀ q∈(bq b2 n).1,0<=q/\q<(u.length:Int)):RP (Nt n) (byP b) f ((bq b2 n).1.map fun q=>u.getD q.toNat []) [] (orf f2 (bq b2 n).2):=by
 refine⟨hc.1.orf (rz hn),fun h=>?_,fun y r a1 a2 a3=>?_⟩
 ·obtain⟨h1,h2⟩:=bH h
  obtain⟨h3,h4⟩:=hc.2.1 h1;obtain⟨h5,h6⟩:=iT aE h2;refine⟨(bH h3).1,by rw[jdz];omega,fun s hs=>?_⟩;obtain⟨q,hq,rfl⟩:=jdR.1 hs;have nj:=cX q hq;have aB:q.toNat<u.length:=by omega
  rw[List.getD_eq_getElem?_getD,List.getElem?_eq_getElem aB];exact hu _ (jdA aB)
 ·obtain⟨h1,h2,h3⟩:=Ex hn hc a1 a2 a3
  rw[h3,h1,h2];exact⟨rfl,qI y,a3.2.symm⟩
theorem Xr{u:List (List Nat)}(hu:Ts u)(q:Nat):(u.getD q []).length<=64/\Bs (u.getD q []):=by
 rcases jdY q u.length with h | h
 ·rw[List.getD_eq_getElem?_getD,List.getElem?_eq_getElem h]
  exact hu _ (jdA h)
 ·rw[List.getD_eq_getElem?_getD,List.getElem?_eq_none h]
  exact⟨by simp,fun x hx=>by simp at hx⟩
theorem rC{w:World}{p f:Nat}{b:List Nat}(h:Rs w p b f)(hf:Er f)(n:Nat)(hn:n<=256) :
  Calls Tryz.prog 297 #[.pointer (some ⟨p,0,none⟩),.int .i64 (n:Int)] w (TA n (byP b) p f w):=by
 have aB:=h.lt;have HN:=ae (tW h);have g1:=(fW b).1;have HMANY:=ae (fun bz h=>TB (b:=b) (bz:=bz) (f:=f) hn hf h);have ts:=ae (fun bz j u b2 f2 hc hj hw=>Xq (b:=b) (bz:=bz) (f:=f) (j:=j) (u:=u) (b2:=b2) (f2:=f2) hn hc hj hw);have Zz:=ae (fun u b2 f2 aE hu hc cX=>TC (b:=b) (f:=f) (u:=u) (b2:=b2) (f2:=f2) hn aE hu hc cX);have Zw:=ae (hf.orf (Et b));clear h;generalize (gt b).1=c at *;generalize b.drop (gt b).2.1=b1 at *;generalize orf f (gt b).2.2=f1 at *;go_enter Tryz.func297,Tryz.ntmps297
 go_wp2_with fail;refine HN.o.mono ?_;rintro e w1 ⟨rfl,ea,dv⟩;have jy:=ae ea;have gp:=ae dv;have cP:=dv.size;clear ea dv;by_cases hmany:n<c
 ·have hm':(c:Int) > (n:Int):=by omega
  go_wp2_with fail;refine(cF jy.o 40).mono ?_;rintro e w2 ⟨rfl,dN,dD⟩;have gl:=ae dN;have gM:=ae (gp.o.trans (dD.mono cP));clear dN dD;go_wp2_with fail;go_ret
  exact⟨[],_,_,⟨_,rfl,eF.nil _ _⟩,fun s hs=>by simp at hs,by simp,gl.o,HMANY.o _ hmany,gM.o⟩
 ·have hm':¬ (c:Int) > (n:Int):=by omega
  have HL:=ae (Ev jy.o Zw.o c (by omega));go_wp2_with fail;refine HL.o.mono ?_;rintro e w2 ⟨u,b2,f2,⟨v2,rfl,eZ⟩,Kg,uE,dN,hrp2,dD⟩;have du:=ae eZ;have rQ:=ae Kg;have HRP2:=ae hrp2;have gM:=ae (gp.o.trans (dD.mono cP));have bv:=dD.size;have aO:=ae dN.bs;have LO:=ae (nf dN n);have LZ:=ae (qg dN.bs hn);have HU2:=ae eZ.sv;obtain⟨au,cu,rfl,Yp,hcmu⟩:=aM eZ;have hcmu':cu<=9223372036854775807:=by unfold maxLen at hcmu;omega
  have HUB:jfp (∀ k,(Value.slice au u.length cu).ownBlock=some k->k<w2.heap.size/\k≠p):=ae (fun k hk=>by
   have:=eZ.lt k hk;exact⟨this.2,by omega⟩)
  clear eZ Kg dN hrp2 dD hcmu;have HBAD2:=ae (fun bz j hj hw=>ts.o bz j u b2 f2 HRP2.o hj hw);have jbT:=ae (fun cX=>Zz.o u b2 f2 aO.o rQ.o HRP2.o cX);clear ts Zz;generalize (bq b2 n).1=pl at *;generalize orf f2 (bq b2 n).2=f3 at *;have hpll:=LZ.o.2;go_wp2_with fail;refine LO.o.mono ?_;rintro e w3 ⟨⟨v3,rfl,fA⟩,lr,gS⟩;have ny:=ae lr;have qm:=ae (gM.o.trans (gS.mono (jdF cP bv)));have iH:=gS.size;have HU3:=ae (HU2.o.keptFr HUB.o gS);have HV3:=ae fA.sv;have xR:jfp (∀ k,v3.ownBlock=some k->k<w3.heap.size):=ae (fun k hk=>(fA.lt k hk).2);have HUB3:jfp (∀ k,(Value.slice au u.length cu).ownBlock=some k->k<w3.heap.size):=ae (fun k hk=>by have:=(HUB.o k hk).1;omega);obtain⟨a3,c3,rfl,Qw,jbj⟩:=aM fA;have hcm3':c3<=9223372036854775807:=by unfold maxLen at jbj;omega
  clear fA lr gS jbj;go_wp2_with fail;go_loopw [7,26] (fun o i wr=>∃ j:Nat,j<=pl.length/\i=.int .i64 (j:Int)/\eF wr w3.heap.size o ((pl.take j).map fun q=>u.getD q.toNat [])/\(∀ q∈pl.take j,0<=q/\q<(u.length:Int))/\Below w3.heap.size w3 wr) (fun _ i _=>pl.length-(intOf i).toNat)
  case atStart=>exact⟨0,by omega,rfl,eF.nil _ _,fun q hq=>by simp at hq,jdv _ _⟩
  case round =>
   obtain⟨j,hj,rfl,aA,cX,az⟩:=hrel;have HO:=ae aA;have jbU:=ae cX;have xG:=ae az;have bF:=az.size;have FA:=ae (ny.o.kept az ny.o.lt);clear aA cX az;by_cases uS:j<pl.length
   ·obtain⟨g,off,rfl,hg,br⟩:=(HV3.o.keptB xR.o xG.o).at uS
    have FZ:=ae (fun bz hw=>HBAD2.o bz j uS hw);have hjl':(j:Int)<(pl.length:Int):=(by omega);have rP:jfp (pl.take (j+1)=pl.take j++[pl[j]]):=ae (jdM uS);generalize pl[j]=z at *;by_cases ct:z<0
    ·go_wp2_with fail
     refine(cF FA.o 40).mono ?_;rintro e w4 ⟨rfl,xF,pG⟩;have uG:=ae xF;have Cr:=ae (qm.o.trans ((Fr.of_below (xG.o.mono (show w.heap.size<=w3.heap.size by omega))).trans (pG.mono (by omega))));clear xF pG;go_wp2_with fail;go_ret
     exact⟨[],_,_,⟨_,rfl,eF.nil _ _⟩,fun s hs=>by simp at hs,by simp,uG.o,FZ.o _ (Or.inl ct),Cr.o⟩
    ·by_cases hzu:z>=(u.length:Int)
     ·go_wp2_with fail
      refine(cF FA.o 40).mono ?_;rintro e w4 ⟨rfl,xF,pG⟩;have uG:=ae xF;have Cr:=ae (qm.o.trans ((Fr.of_below (xG.o.mono (show w.heap.size<=w3.heap.size by omega))).trans (pG.mono (by omega))));clear xF pG;go_wp2_with fail;go_ret
      exact⟨[],_,_,⟨_,rfl,eF.nil _ _⟩,fun s hs=>by simp at hs,by simp,uG.o,FZ.o _ (Or.inr hzu),Cr.o⟩
     ·obtain⟨zn,rfl⟩:∃ zn:Nat,z=(zn:Int):=⟨z.toNat,by omega⟩
      have hzn:zn<u.length:=(by omega);obtain⟨gu,offu,rfl,hgu,hcu2⟩:=(HU3.o.keptB HUB3.o xG.o).at1 (cM hzn);have ex:u.getD zn []=u[zn]:=by rw[List.getD_eq_getElem?_getD,List.getElem?_eq_getElem hzn];rfl
      have lE:jfp ((pl.take (j+1)).map (fun q=>u.getD q.toNat [])=((pl.take j).map fun q=>u.getD q.toNat [])++[u[zn]]):=ae (by
       rw[rP.o,jdQ,jd5,jes,jd1,ex])
      have Ma:jfp (∀ q∈pl.take (j+1),0<=q/\q<(u.length:Int)):=ae (fun q hq=>by
       rw[rP.o]at hq;rcases jd2.1 hq with hq | hq
       ·exact jbU.o q hq
       ·have:q=(zn:Int):=by simpa using hq
        omega)
      have hlen':((pl.take j).map fun q=>u.getD q.toNat []).length<=100000:=by rw[jdz,jdC];omega
      rw[dJ]at hcu2;clear FZ rP ex;generalize ((pl.take j).map fun q=>u.getD q.toNat [])=L at *;generalize u[zn]=x at *;go_wp2_with (first | (at_builtin;refine bY rfl _ _ rfl w3.heap.size _ _ x L rfl (HO.o.kept (am _ _)) rfl (aK _ _ _) hlen' ?c2 ?_))
      case c2=>first | omega | (rw[jdx];omega)
      intro v' w5 o5 b5;have dE:=ae o5;have aR:=ae ((xG.o.alloc bF (.cells #[txt x] 9)).trans b5);clear o5 b5;go_wp2_with fail;go_roundw
      case rel=>exact⟨j+1,by omega,by go_num,by rw[lE.o];exact dE.o,Ma.o,aR.o⟩
      case measure=>simp[intOf];omega
   ·have:j=pl.length:=by omega
    subst this;rw[jdE]at HO jbU;have HDN:=ae (jbT.o jbU.o);have gj:¬ ((pl.length:Nat):Int)<(pl.length:Int):=(by omega);have Kq:=ae (qm.o.trans (Fr.of_below (p:=p) (xG.o.mono (show w.heap.size<=w3.heap.size by omega))))
    have Vb:jfp (Ts (pl.map fun q=>u.getD q.toNat [])):=ae (fun s hs=>by
     obtain⟨q,_,rfl⟩:=jdR.1 hs;exact Xr rQ.o q.toNat)
    have mU:(pl.map fun q=>u.getD q.toNat []).length<=n:=by rw[jdz];omega
    generalize (pl.map fun q=>u.getD q.toNat [])=L at *;go_wp2_with fail;go_ret
    exact⟨L,[],f3,⟨_,rfl,be HO.o (by omega)⟩,Vb.o,mU,FA.o,HDN.o,Kq.o⟩
def byW(b:List Nat)(l:List (List Nat))(r:List Nat):Prop:=b=eL l/\r=[]
theorem Jr{w:World}{p f:Nat}{b:List Nat}(h:Rs w p b f)(hf:Er f)(n:Nat)(hn:n<=256) :
  Calls Tryz.prog 279 #[.pointer (some ⟨p,0,none⟩),.int .i64 (n:Int)] w (TA n (byW b) p f w):=by
 have HC:=ae (xh h)
 have hef:Er (chF b f):=by
  unfold chF;split
  ·exact hf.orf Xo
  ·split
   ·exact hf
   ·exact hf.orf uy
 have HEF:=ae hef
 have VN:chX b<=1:=by
  unfold chX;split
  ·omega
  ·split<;>omega
 have Ah:jfp (chX b=1->∀ l b' f',RP (Nt n) (byP b.tail) (chF b f) l b' f'->RP (Nt n) (byW b) f l b' f'):=ae (fun hx l b' f' hr=>by
  obtain⟨r1,r2,r3⟩:=hr;cases b with
  | nil=>simp[chX]at hx
  | cons x t =>
   have Gc:x=1:=by
    unfold chX at hx;simp only at hx;split at hx<;>omega
   subst Gc;have hcf:chF (1::t) f=f:=by simp[chF]
   rw[hcf]at r2 r3;refine⟨r1,r2,fun y r a1 a2 a3=>r3 y r a1 a2 ⟨?_,a3.2⟩⟩;have h3:=a3.1;unfold eL at h3;split at h3
   ·unfold dj at h3
    simpa using h3
   ·unfold plain at h3
    simp at h3)
 have HW0:jfp (chX b≠1->∀ l b' f',RP (Nt n) (fun l r=>b.tail=fC l++r) (chF b f) l b' f'->RP (Nt n) (byW b) f l b' f'):=ae (fun hx l b' f' hr=>by
  obtain⟨r1,r2,r3⟩:=hr;refine⟨r1,fun h=>?_,fun y r a1 a2 a3=>?_⟩
  ·obtain⟨e1,e2⟩:=r2 h
   refine⟨?_,e2⟩;unfold chF at e1;split at e1
   ·exact(bH e1).1
   ·split at e1
    ·exact e1
    ·exact(bH e1).1
  ·have h3:=a3.1
   unfold eL at h3;split at h3
   ·unfold dj at h3
    rw[h3]at hx;exact absurd rfl hx
   ·unfold plain at h3
    have hcf:chF b f=f:=by rw[h3];simp[chF]
    have ht:b.tail=fC y:=by rw[h3];rfl
    rw[hcf]at r3;have:=r3 y [] a1 a2 (by show b.tail=fC y++[];rw[ht,jdT]);rw[a3.2];exact this)
 clear h;generalize chX b=x at *;generalize chF b f=f1 at *;by_cases hx:x=1
 ·have nB:=ae (Ah.o hx)
  clear Ah HW0;subst hx;go_enter Tryz.func279,Tryz.ntmps279
  go_wp2_with fail;refine HC.o.mono ?_;rintro e w1 ⟨rfl,ea,dv⟩;have gp:=ae dv;have cP:=dv.size;have HT:=ae (rC ea HEF.o n hn);clear ea dv;go_wp2_with fail;refine HT.o.mono ?_;rintro e w2 ⟨l,b2,f2,⟨v2,rfl,eZ⟩,Kg,mU,dN,hrp,dD⟩;have du:=ae (be eZ cP);have rQ:=ae Kg;have gl:=ae dN;have KE:=ae (nB.o l b2 f2 hrp);have gM:=ae (gp.o.trans (dD.mono cP));clear eZ Kg dN hrp dD;go_wp2_with fail;go_ret
  exact⟨l,b2,f2,⟨_,rfl,du.o⟩,rQ.o,mU,gl.o,KE.o,gM.o⟩
 ·have nB:=ae (HW0.o hx)
  clear Ah HW0;obtain rfl:x=0:=by omega
  go_enter Tryz.func279,Tryz.ntmps279
  go_wp2_with fail;refine HC.o.mono ?_;rintro e w1 ⟨rfl,ea,dv⟩;have gp:=ae dv;have cP:=dv.size;have HT:=ae (Ev ea HEF.o n hn);clear ea dv;go_wp2_with fail;refine HT.o.mono ?_;rintro e w2 ⟨l,b2,f2,⟨v2,rfl,eZ⟩,Kg,mU,dN,hrp,dD⟩;have du:=ae (be eZ cP);have rQ:=ae Kg;have gl:=ae dN;have KE:=ae (nB.o l b2 f2 hrp);have gM:=ae (gp.o.trans (dD.mono cP));clear eZ Kg dN hrp dD;go_wp2_with fail;go_ret
  exact⟨l,b2,f2,⟨_,rfl,du.o⟩,rQ.o,mU,gl.o,KE.o,gM.o⟩
def nV(n m:Nat):List Value:=List.replicate m (.int .u64 1)++List.replicate (n-m) (.int .u64 0)
theorem tY{n m:Nat}(h:m<=n):(nV n m).length=n:=by simp[nV];omega
theorem Ey{n m c:Nat}(h:m+c<=n):splice (nV n m) m (List.replicate c (.int .u64 1))=nV n (m+c):=by
 unfold splice nV
 have h1:(List.replicate m (Value.int .u64 1)++List.replicate (n-m) (Value.int .u64 0)).take m=List.replicate m (Value.int .u64 1):=by
  rw[List.take_append_of_le_length (by simp)];exact jee (by simp)
 have h2:(List.replicate m (Value.int .u64 1)++List.replicate (n-m) (Value.int .u64 0)).drop (m+(List.replicate c (Value.int .u64 1)).length)=List.replicate (n-(m+c)) (Value.int .u64 0):=by
  rw[List.drop_append,jfa (by simp)];simp
  omega
 rw[h1,h2,← jdL,List.replicate_append_replicate]
theorem Ez(n:Nat)(hn:n<=256)(w:World):Calls Tryz.prog 295 #[.int .u64 1,.int .u64 (n:Int)] w fun e w'=>e=.returned (.tuple #[.int .u64 0,.int .u64 (n:Int)])/\w'=w:=by
 have:=Any.bits_Mul WI 1 n (by omega) (by omega) w;have h1:1*n / 18446744073709551616=0:=by omega
 have h2:1*n % 18446744073709551616=n:=by omega
 rw[h1,h2]at this;exact this
theorem jaO:(Tryz.prog.info? 92).map (·.size)=some 1:=by kernel_rfl
theorem EA{W:World}{T n m sl dl sc dc c:Nat}{ad:Addr}(jX:W.heap[T]?=some (.cells (nV n m).toArray 92 (0,0)))(hc:c=Nat.min sl dl)(dC:m+c<=n)(jbW:∀ j,j<c->W.cell? (ad.add j)=some (.int .u64 1)) :
  ∃ W',(Builtin.copy_ #[142,142] 3 #[.slice (some ⟨T,m,none⟩) dl dc,.slice (some ad) sl sc]).run Tryz.prog W=.ok (.int .i64 (c:Int)) W'/\W'.heap[T]?=some (.cells (nV n (m+c)).toArray 92 (0,0))/\Below T W W'/\W'.heap.size=W.heap.size:=by
 have hl:(List.replicate c (Value.int .u64 1)).length=c:=List.length_replicate
 have FH:=run_copy_row (P:=Tryz.prog) W 142 142 3 92 T m dl dc ad sl sc (nV n m).toArray 92 (List.replicate c (.int .u64 1)) Tryz.underlying142 jaO jX (by rw[hl];exact hc) (fun j v hj=>by
  rw[List.getElem?_replicate]at hj;split at hj
  ·next h =>
   cases hj
   exact jbW j h
  ·cases hj) (by rw[hl];simp[tY (show m<=n by omega)];exact dC) (fun v hv=>by rw[jff hv];rfl)
 have hs:=Ey dC;unfold splice at hs;rw[hl]at FH hs;rw[← jdL]at hs;simp only[List.toList_toArray]at FH;rw[hs]at FH;refine⟨_,FH,?_,below_setRow (jdv _ _) (jdw _) _,by simp[World.setRow]⟩;exact setRow_heap W T _ _ 92 _ jX
theorem Js{w:World}{g:Nat}(hc:w.cell? ⟨g,0,none⟩=some (.int .u64 1))(n:Nat)(hn:n<=256) :
  Calls Tryz.prog 277 #[.slice (some ⟨g,0,none⟩) 1 1,.int .i64 (n:Int)] w fun e w'=>(∃ v,e=.returned v/\dH w' w.heap.size v (List.replicate n 1))/\Below w.heap.size w w':=by
 obtain⟨i0,hi,ct,hz1',bv⟩:=jdP pM;have HC:=ae hc;have hg:=World.block_lt_of_cell? w _ hc;simp only at hg;have HM:=ae (Ez n hn);have Zq:¬ (n:Int)<0:=by omega
 have Yr:¬ (n:Int) > 9223372036854775807:=by omega
 clear hc;go_enter Tryz.func277,Tryz.ntmps277
 go_wp2_with fail;refine(HM.o _).mono ?_;rintro e w1 ⟨rfl,rfl⟩;go_wp2_with (first | (refine jeA _ rfl _ _ 142 rfl w1.heap.size 92 i0 (.int .u64 0) 1 Tryz.underlying142 hi ct hz1' .i64 .i64 _ _ n rfl rfl ?m1 ?m2 ?m3 ?m4 ?m5 ?_))
 case m1=>rfl
 case m2=>rfl
 case m3=>rw[bv];omega
 case m4=>unfold maxLen;omega
 case m5=>omega
 intro w4 gN iN;have bK:Below w1.heap.size w1 w4:=(jdv _ _).grown iN (jdw _) (fun k hk=>by cases hk)
 have jX:w4.heap[w1.heap.size]?=some (.cells (nV n 0).toArray 92 (0,0)):=by
  obtain⟨h0,⟨h,_⟩ | ⟨g',cap',cur,h1,h2,h3,h4,h5,h6,h7⟩⟩:=gN
  ·cases h
  ·cases h1
   rw[h3]
   have e1:cur=(nV n 0).toArray:=by
    apply Array.toList_inj.1
    rw[jee (by simp;omega)]at h7;rw[h7,jeZ];simp[nV]
   rw[e1]
 have Ve:=(bK.cell (p:=⟨g,0,none⟩) hg).trans HC.o
 obtain⟨w5,Wb,QE,bD,uF⟩:=EA (c:=Nat.min 1 n) (sl:=1) (dl:=n) (sc:=1) (dc:=n) (ad:=⟨g,0,none⟩) jX rfl (by have:=Nat.min_le_right 1 n;show 0+min 1 n<=n;omega) (fun j hj=>by
  have:j=0:=by have:=Nat.min_le_left 1 n;have h:j<min 1 n:=hj;omega
  subst this;rw[mv];exact Ve)
 rw[jdZ]at QE;have tv:=ae QE;have aR:=ae (bK.trans bD);have Qy:Nat.min 1 n<=n:=Nat.min_le_right 1 n
 have hmn1:n=0∨1<=Nat.min 1 n:=by
  rcases jel n with h | h
  ·exact Or.inl h
  ·right
   show 1<=min 1 n
   omega
 have HMN:=ae hmn1;clear gN iN bK jX Ve QE bD uF hmn1;generalize Nat.min 1 n=mm at *;go_wp2_with fail;go_loopw [8] (fun i wr=>∃ m:Nat,i=.int .i64 (m:Int)/\m<=n/\(n=0∨1<=m)/\wr.heap[w1.heap.size]?=some (.cells (nV n m).toArray 92 (0,0))/\Below w1.heap.size w1 wr) (fun i _=>n-(intOf i).toNat)
 case atStart=>exact⟨mm,rfl,Qy,HMN.o,tv.o,aR.o⟩
 case round =>
  obtain⟨m,rfl,hm,Kx,jX,az⟩:=hrel;have HR:=ae jX;have HB:=ae az;have Qa:=ae Kx;clear jX az Kx Wb;by_cases aB:m<n
  ·have hm0:1<=m:=by have:=Qa.o;omega
   have hlt':(m:Int)<(n:Int):=(by omega);have hRd:wr.drew.heap[w1.heap.size]?=some (.cells (nV n m).toArray 92 (0,0)):=HR.o;have hBd:Below w1.heap.size wr wr.drew:=⟨rfl,rfl,rfl,jdw _,fun _ _=>rfl⟩
   obtain⟨w6,Wb,Vf,ey,FD⟩:=EA (W:=wr.drew) (c:=Nat.min m (n-m)) (sl:=m) (dl:=n-m) (sc:=n) (dc:=n-m) (ad:=⟨w1.heap.size,0,none⟩) hRd rfl (by show m+min m (n-m)<=n;omega) (fun j hj=>by
    have h:j<min m (n-m):=hj;rw[mv,ay hRd];unfold nV;rw[List.getElem?_toArray,List.getElem?_append_left (by rw[List.length_replicate];omega),List.getElem?_replicate,jdu (by omega)])
   have lp:1<=Nat.min m (n-m):=by show 1<=min m (n-m);omega
   have jT:m+Nat.min m (n-m)<=n:=by show m+min m (n-m)<=n;omega
   have Gd:=ae Vf;have ja:=ae ((HB.o.trans hBd).trans ey);have fF:¬ n=m:=(by omega);clear Vf ey FD hRd hBd;generalize Nat.min m (n-m)=c at *;have hwrap:IntKind.i64.wrap ((m:Int)+(c:Int))=(m:Int)+(c:Int):=by rw[jd7];omega
   go_wp2_with fail;go_region
   go_wp2_with fail;go_roundw
   case rel=>exact⟨m+c,by go_num,jT,Or.inr (by omega),Gd.o,ja.o⟩
   case measure=>simp[intOf];omega
  ·obtain rfl:m=n:=by omega
   have HO:jfp (dH wr w1.heap.size (.slice (some ⟨w1.heap.size,0,none⟩) m m) (List.replicate m 1)):=ae (by
    unfold dH;refine⟨by rw[ar];simp,Or.inr ⟨w1.heap.size,m,(nV m m).toArray,by simp,jdw _,HR.o,by simp,by unfold maxLen;omega,by simp[tY (jdw m)],?_⟩⟩;have:nV m m=aF .u64 (List.replicate m 1):=by simp[nV,aF]
    rw[this];simp[aF])
   have gj:¬ ((m:Nat):Int)<(m:Int):=(by omega);go_wp2_with fail;go_ret
   exact⟨⟨_,rfl,HO.o⟩,HB.o⟩
def Nu(n:Nat)(l:List Nat):Prop:=l.length=n/\∀ x∈l,x<2
def byH(b:List Nat)(n:Nat)(x r:List Nat):Prop:=∃ l:List (Nat×Int×List Nat),l.length=n/\x=bN l/\b=dK l++r
theorem NK{b:List Nat}{f n:Nat}(hf:Er f)(hn:n<=256)(hx:chX b=1):RP (Nu n) (byH b n) f (unR (tkB (by8 n) b.tail) n 1) (tkR (by8 n) b.tail) (orf (tkF (by8 n) b.tail (chF b f)) (unE (tkB (by8 n) b.tail) n 1)):=by
 have hb:∃ t,b=1::t/\chF b f=f:=by
  cases b with
  | nil=>simp[chX]at hx
  | cons x t =>
   have:x=1:=by
    unfold chX at hx;simp only at hx;split at hx<;>omega
   subst this;exact⟨t,rfl,by simp[chF]⟩
 obtain⟨t,rfl,hcf⟩:=hb;rw[hcf,List.tail_cons];refine⟨(Bp hf).orf (show Er (unE _ n ((1:Nat):Int)) from Jp hn (by omega)),fun h=>?_,fun y r a1 a2 a3=>?_⟩
 ·obtain⟨h1,h2⟩:=bH h
  exact⟨(rB h1).1,kW h2⟩
 ·obtain⟨l,rfl,rfl,a6⟩:=a3
  unfold dK at a6;split at a6
  ·have h2:=dY l
   have hl:=eI h2 (by rw[bn];exact hn);have PZ:=oF h2 (by rw[bn];exact hn);rw[bn]at hl PZ;have ht:t=bi (bN l) 1++r:=by simpa using a6
   rw[ht,← hl,(gK (a:=bi (bN l) 1) f).1,(gK (a:=bi (bN l) 1) f).2.1,(gK (a:=bi (bN l) 1) f).2.2,PZ.1,PZ.2,a1];exact⟨rfl,rfl,rfl⟩
  ·simp at a6
theorem Jt{b:List Nat}{f n:Nat}(hf:Er f)(hn:n<=256)(hx:chX b≠1):RP (Nu n) (byH b n) f (List.replicate n 1) b.tail (chF b f):=by
 have hef:Er (chF b f)/\(chF b f=0->f=0):=by
  unfold chF;split
  ·exact⟨hf.orf Xo,fun h=>(bH h).1⟩
  ·split
   ·exact⟨hf,fun h=>h⟩
   ·exact⟨hf.orf uy,fun h=>(bH h).1⟩
 refine⟨hef.1,fun h=>⟨hef.2 h,by simp,fun x hx=>by have:=jff hx;omega⟩,fun y r a1 a2 a3=>?_⟩;obtain⟨l,rfl,rfl,a6⟩:=a3;unfold dK at a6;split at a6
 ·rw[a6]at hx
  exact absurd rfl hx
 ·next h0 =>
  have hcf:chF b f=f:=by rw[a6];simp[chF]
  rw[hcf,a6];exact⟨a1,(vU h0).symm,rfl⟩
theorem NL{w:World}{p f:Nat}{b:List Nat}(h:Rs w p b f)(hf:Er f)(n:Nat)(hn:n<=256) :
  Calls Tryz.prog 262 #[.pointer (some ⟨p,0,none⟩),.int .i64 (n:Int)] w fun r w'=>∃ l b' f',(∃ v,r=.returned v/\dH w' w.heap.size v l)/\(∀ x∈l,x<2)/\l.length<=n/\Rs w' p b' f'/\RP (Nu n) (byH b n) f l b' f'/\Fr p w.heap.size w w':=by
 have HC:=ae (xh h);have aB:=h.lt;have H1:=ae (fun hx=>NK (b:=b) hf hn hx);have H0:=ae (fun hx=>Jt (b:=b) hf hn hx)
 have VN:chX b<=1:=by
  unfold chX;split
  ·omega
  ·split<;>omega
 clear h;generalize chX b=x at *;generalize chF b f=f1 at *;generalize b.tail=b1 at *;by_cases hx:x=1
 ·have HR:=ae (H1.o hx)
  clear H1 H0;subst hx;go_enter Tryz.func262,Tryz.ntmps262
  go_wp2_with fail;refine HC.o.mono ?_;rintro e w1 ⟨rfl,ea,dv⟩;have gp:=ae dv;have cP:=dv.size;have HP:=ae (tX ea n hn);clear ea dv;go_wp2_with fail;refine HP.o.mono ?_;rintro e w2 ⟨⟨v2,rfl,eZ⟩,dN,dD⟩;have du:=ae (be eZ cP);have gl:=ae dN;have gM:=ae (gp.o.trans (dD.mono cP));clear eZ dN dD
  have ZA:(∀ x∈unR (tkB (by8 n) b1) n 1,x<2)/\(unR (tkB (by8 n) b1) n 1).length<=n:=by
   by_cases h0:unE (tkB (by8 n) b1) n 1=0
   ·exact⟨(kW h0).2,Nat.le_of_eq (kW h0).1⟩
   ·rw[wm h0]
    exact⟨fun x hx=>by simp at hx,by simp⟩
  have LZ:=ae ZA;clear ZA;go_wp2_with fail;go_ret
  exact⟨_,_,_,⟨_,rfl,du.o⟩,LZ.o.1,LZ.o.2,gl.o,HR.o,gM.o⟩
 ·have HR:=ae (H0.o hx)
  clear H1 H0;obtain rfl:x=0:=by omega
  go_enter Tryz.func262,Tryz.ntmps262
  go_wp2_with fail;refine HC.o.mono ?_;rintro e w1 ⟨rfl,ea,dv⟩;have gp:=ae dv;have cP:=dv.size;have jy:=ae ea;have HP:=ae (Js (aK w1 (.int .u64 1) 92) n hn);have bv:=jdx w1 (.cells #[.int .u64 1] 92);have aQ:=ae (am w1 (.cells #[.int .u64 1] 92));clear ea dv;go_wp2_with fail;refine HP.o.mono ?_;rintro e w2 ⟨⟨v2,rfl,eZ⟩,aE⟩;have du:=ae (be (B:=w.heap.size) eZ (by omega));have aS:=aQ.o.trans (aE.mono (by omega));have gl:=ae (jy.o.kept aS jy.o.lt);have gM:=ae (gp.o.trans (Fr.of_below (aS.mono cP)));clear eZ aE aS;go_wp2_with fail;go_ret
  exact⟨_,_,_,⟨_,rfl,du.o⟩,fun x hx=>by have:=jff hx;omega,by simp,gl.o,HR.o,gM.o⟩
theorem pu{l:List Nat}{k:Nat}(h:k<l.length):(l.take (k+1)).sum=(l.take k).sum+l[k]:=by
 rw[jdM h,List.sum_append];simp
theorem rD:∀{l:List Nat},(∀ x∈l,x<2)->l.sum<=l.length
 | [],_=>by simp
 | x::t,h=>by
  have ih:=rD (l:=t) fun y hy=>h y (by simp[hy])
  have:=h x (by simp);rw[List.sum_cons,jdD];omega
theorem TD{w:World}{v:Value}{l:List Nat}(hs:Sv w v (aF .u64 l))(h2:∀ x∈l,x<2)(hl:l.length<=256) :
  Calls Tryz.prog 264 #[v] w fun e w'=>e=.returned (.int .i64 (l.sum:Int))/\w'=w:=by
 have HS:=ae hs;have H2:=ae h2;obtain⟨a,cap,rfl,aW,bw⟩:=hs.form1;rw[ar]at *;have hcm':cap<=9223372036854775807:=by unfold maxLen at bw;omega
 clear hs h2 bw;go_enter Tryz.func264,Tryz.ntmps264
 go_wp2_with fail;go_loopw [3,8] (fun o i wr=>∃ k:Nat,k<=l.length/\o=.int .i64 ((l.take k).sum:Int)/\i=.int .i64 (k:Int)/\wr=w) (fun _ i _=>l.length-(intOf i).toNat)
 case atStart=>exact⟨0,by omega,rfl,rfl,rfl⟩
 case round =>
  obtain⟨k,hk,rfl,rfl,rfl⟩:=hrel
  have nZ:(l.take k).sum<=256:=by
   have:=rD (l:=l.take k) fun x hx=>H2.o x (jek hx)
   rw[jdC]at this;omega
  by_cases aB:k<l.length
  ·obtain⟨b,off,rfl,hb,ek⟩:=HS.o.at1 (bU aB)
   have HT:=ae (pu aB);have hx:=H2.o l[k] (jdA aB);have hlt':(k:Int)<(l.length:Int):=(by omega);generalize l[k]=x at *;generalize (l.take k).sum=s at *;go_wp2_with fail;go_roundw
   case rel=>exact⟨k+1,by omega,by rw[HT.o];go_num,by go_num,trivial⟩
   case measure=>simp[intOf];omega
  ·obtain rfl:k=l.length:=by omega
   rw[jdE];have gj:¬ ((l.length:Nat):Int)<(l.length:Int):=(by omega);go_wp2_with fail;go_ret
   exact⟨rfl,rfl⟩
end Go.Proofs.YtpljdjmpamjkhaaGreatDoor
