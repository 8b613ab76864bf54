import Derived.Test.YtpljdjmpamjkhaaGreatDoorWao
import Derived.Laws.CopyOwn
set_option linter.unusedVariables false
set_option linter.unusedSimpArgs false
set_option maxRecDepth 100000
set_option maxHeartbeats 4000000
namespace Go.Proofs.YtpljdjmpamjkhaaGreatDoor
open Go.Lib
def Er(f:Nat):Prop:=f=0∨f=30∨f=31∨f=32∨f=40∨f=50
theorem Er.orf{f e:Nat}(h:Er f)(h2:Er e):Er (orf f e):=by
 unfold YtpljdjmpamjkhaaGreatDoor.orf;split
 ·exact h2
 ·exact h
theorem be{f e:Nat}(h:orf f e=0):f=0/\e=0:=by
 unfold orf at h;split at h
 ·next h1=>exact⟨h1,h⟩
 ·next h1=>exact absurd h h1
def Es{α : Type}(d:List Nat->Except Nat (α×List Nat)):Prop:=∀ b e,d b=.error e->Er e
theorem Es.bind{α β : Type}{d:List Nat->Except Nat (α×List Nat)}{f:α->List Nat->Except Nat (β×List Nat)}(h1:Es d)(h2:∀ x,Es (f x)):Es (ap d f):=by
 intro b e h;unfold ap at h;split at h
 ·next x r _=>exact h2 x r e h
 ·next e' he =>
  cases h
  exact h1 b _ he
theorem Es.ok{α : Type}{x:List Nat->α×List Nat}:Es (fun r=>(.ok (x r):Except Nat (α×List Nat))):=fun b e h=>by cases h
theorem Es.err{α : Type}{e:Nat}(h:Er e):Es (fun _=>(.error e:Except Nat (α×List Nat))):=fun b e' h'=>by cases h';exact h
theorem Es.ite{α : Type}{c:Prop}[Decidable c]{d1 d2:List Nat->Except Nat (α×List Nat)}(h1:Es d1)(h2:¬ c->Es d2):Es (if c then d1 else d2):=by
 split
 ·exact h1
 ·next h=>exact h2 h
theorem AZ(b:List Nat):Er (gt b).2.2:=by
 obtain⟨_,_,_,h | ⟨h | h,_⟩⟩:=eI b
 ·exact Or.inl h
 ·exact Or.inr (Or.inl h)
 ·exact Or.inr (Or.inr (Or.inl h))
theorem Ba:Es wh:=fun b e h=>by
 unfold wh at h;split at h
 ·cases h
 ·cases h
  exact AZ b
theorem yC:Es num:=fun b e h=>by
 unfold num at h;split at h
 ·cases h
 ·cases h
  exact AZ b
theorem Em{b:List Nat}{n w:Nat}(hn:n<=256)(hw:w<=64):Er (unE b n w):=by
 unfold unE;rw[Yy (by omega)];split
 ·exact Or.inl rfl
 ·exact Or.inr (Or.inr (Or.inr (Or.inr (Or.inl rfl))))
theorem NW{n w:Nat}(hn:n<=256)(hw:w<=64):Es (pkd n w):=fun b e h=>by
 unfold pkd at h;split at h
 ·cases h
  exact Or.inr (Or.inl rfl)
 ·split at h
  ·cases h
   exact Or.inr (Or.inr (Or.inr (Or.inl rfl)))
  ·split at h
   ·cases h
   ·cases h
    exact Em hn hw
theorem sJ:Er 40:=Or.inr (Or.inr (Or.inr (Or.inr (Or.inl rfl))))
theorem er32:Er 32:=Or.inr (Or.inr (Or.inr (Or.inl rfl)))
theorem SW:Er 30:=Or.inr (Or.inl rfl)
theorem er50:Er 50:=Or.inr (Or.inr (Or.inr (Or.inr (Or.inr rfl))))
theorem er0:Er 0:=Or.inl rfl
theorem NX:∀ n,Es (rd0 n)
 | 0=>fun b e h=>by cases h
 | n+1=>by
  have:=(Ba).bind (f:=fun x=>ap (rd0 n) (fun l r=>.ok (x::l,r))) (fun x=>(NX n).bind (fun l=>Es.ok));exact this
theorem NY:∀ n last,Es (rd1 n last)
 | 0,_=>fun b e h=>by cases h
 | n+1,last=>by
  have:=(Ba).bind (f:=fun d=>ap (rd1 n (w64 (last+d))) (fun l r=>.ok (w64 (last+d)::l,r))) (fun d=>(NY n _).bind (fun l=>Es.ok));exact this
theorem NZ:∀ f n,Es (rd2 f n)
 | 0,_=>fun b e h=>by cases h
 | f+1,n=>fun b e h=>by
  unfold rd2 at h;split at h
  ·cases h
  ·exact(Ba.bind (fun x=>yC.bind (fun k=>Es.ite (Es.err sJ) (fun _=>(NZ f (n-k)).bind (fun l=>Es.ok))))) b e h
theorem Pa:∀ m last,Es (rdU m last)
 | 0,_=>fun b e h=>by cases h
 | m+1,last=>fun b e h=>by
  unfold rdU at h;exact(yC.bind (fun d=>Es.ite (Es.err sJ) (fun _=>(Pa m _).bind (fun l=>Es.ok)))) b e h
theorem VZ{n:Nat}(hn:n<=256):Es (rd3 n):=fun b e h=>by
 unfold rd3 at h;refine(yC.bind (fun many=>Es.ite (Es.err sJ) (fun hm=>Es.ite Es.ok (fun h0=>Ba.bind (fun x=>(Pa _ x).bind (fun u=>(NW hn ?_).bind (fun p r e he=>?_))))))) b e h
 ·rw[eJ]
  have:many-1<2 ^ 64:=by
   have:(2:Nat) ^ 64=18446744073709551616:=by decide
   omega
  exact this
 ·unfold picked at he
  split at he
  ·cases he
  ·cases he
   exact sJ
theorem Wa{n:Nat}(hn:n<=256):Es (rd4 n):=fun b e h=>by
 unfold rd4 at h;split at h
 ·cases h
 ·exact(Ba.bind (fun x=>yC.bind (fun w=>Es.ite (Es.err sJ) (fun hw=>(NW hn (by omega)).bind (fun p=>Es.ok))))) b e h
theorem Wb{c n:Nat}(hn:n<=256):Es (rdC c n):=by
 unfold rdC;split
 ·exact NX n
 ·exact NY n 0
 ·exact NZ n n
 ·exact VZ hn
 ·exact Wa hn
theorem pu{b:List Nat}{n:Nat}(hn:n<=256):Er (aS b n).2:=by
 unfold aS;rw[Yy (by omega)];split
 ·exact SW
 ·next c t =>
  split
  ·exact er50
  ·split
   ·exact er0
   ·next e he =>
    unfold lu at he;split at he
    ·next e' he' =>
     cases he
     exact Wb (by omega) _ _ he'
    ·split at he
     ·split at he
      ·cases he
      ·cases he
       exact sJ
     ·cases he
      exact er32
theorem nW{b:List Nat}{n:Nat}(hb:Bs b)(hn:n<=256):Is (aS b n).1/\(aS b n).1.length<=n:=by
 by_cases h:(aS b n).2=0
 ·obtain⟨h1,h2⟩:=gM hb h
  exact⟨h2,by omega⟩
 ·have:(aS b n).1=[]:=by
   unfold aS at h ⊢;rw[Yy (by omega)]at h ⊢;split
   ·rfl
   ·next c t =>
    split
    ·rfl
    ·next h4 =>
     simp only[Yx h4]at h;split
     ·next l hl =>
      rw[hl]at h;exact absurd rfl h
     ·rfl
  rw[this];exact⟨fun x hx=>by simp at hx,by simp⟩
def RP{α : Type}(Ok:α->Prop)(G:α->List Nat->Prop)(f:Nat)(x:α)(b':List Nat)(f':Nat):Prop :=
 Er f'/\(f'=0->f=0/\Ok x)/\∀ y r,f=0->Ok y->G y r->f'=0/\x=y/\b'=r
def Ni(n:Nat)(l:List Int):Prop:=l.length=n/\Is l
def Nt(n:Nat)(l:List (List Nat)):Prop:=l.length=n/\Ts l
theorem fA{a r:List Nat}(f:Nat):tkB a.length (a++r)=a/\tkR a.length (a++r)=r/\tkF a.length (a++r) f=f:=by
 have h:¬ (a++r).length<a.length:=by rw[YC];omega
 refine⟨?_,?_,?_⟩
 ·unfold tkB;rw[Yx h,ZB]
 ·unfold tkR;rw[Yx h,Zn]
 ·unfold tkF;rw[Yx h]
theorem yD{c:Nat}{b:List Nat}{f:Nat}(h:Er f):Er (tkF c b f):=by
 unfold tkF;split
 ·exact h.orf SW
 ·exact h
theorem pw{c:Nat}{b:List Nat}{f:Nat}(h:tkF c b f=0):f=0/\¬ b.length<c:=by
 unfold tkF at h;split at h
 ·have:=(be h).2
  omega
 ·next h1=>exact⟨h,h1⟩
theorem En{b:List Nat}{f n:Nat}(hb:Bs b)(hn:n<=256)(hf:Er f) :
  RP (Ni n) (fun l r=>b=cnt l++r) f (aS (tkB (gt b).1 (b.drop (gt b).2.1)) n).1 (tkR (gt b).1 (b.drop (gt b).2.1)) (orf (tkF (gt b).1 (b.drop (gt b).2.1) (orf f (gt b).2.2)) (aS (tkB (gt b).1 (b.drop (gt b).2.1)) n).2):=by
 refine⟨(yD (hf.orf (AZ b))).orf (pu hn),fun h=>?_,fun l r h0 hl hg=>?_⟩
 ·obtain⟨h1,h2⟩:=be h
  obtain⟨h3,h4⟩:=gM (qN (hb.drop _)) h2;exact⟨(be (pw h1).1).1,by omega,h4⟩
 ·obtain⟨Qn,yV⟩:=hl
  have hs:=(iT yV (by omega)).1
  have Ct:gt b=((dm l).length,(uv (dm l).length).length,0):=by
   rw[hg];unfold cnt;rw[YR];exact kP _ (by omega) _
  have hd:b.drop (uv (dm l).length).length=dm l++r:=by
   rw[hg];unfold cnt;rw[YR,Zn]
  have KP:=iS yV (by omega);rw[Qn]at KP;rw[Ct];simp only;rw[hd,(fA (a:=dm l) (r:=r) 0).1,(fA (a:=dm l) (r:=r) 0).2.1,(fA (a:=dm l) (r:=r) (orf f 0)).2.2,KP,h0];exact⟨rfl,rfl,rfl⟩
open Go.RowKit
theorem Sv.keptFr{W W':World}{p B:Nat}{v:Value}{xs:List Value}(h:Sv W v xs)(hv:∀ k,v.ownBlock=some k->k<B/\k≠p)(hf:Fr p B W W'):Sv W' v xs:=by
 obtain⟨a,cap,rfl,h1,h2,h3,h4⟩:=h;refine⟨a,cap,rfl,h1,h2,h3,fun h0=>?_⟩;obtain⟨b,off,rfl,h5,h6⟩:=h4 h0;have hb:=hv b rfl;exact⟨b,off,rfl,Za h5 hf.size,fun j x hj=>(World.cell?_of_block (w:=W) (a:=⟨b,off+j,none⟩) (hf.block b hb.1 hb.2)).trans (h6 j x hj)⟩
def LI(sz:List Int)(b1:List Nat)(f1 j:Nat)(l:List (List Nat))(bj:List Nat)(fj:Nat):Prop :=
 l.length=j/\Ts l/\Er fj/\(fj=0->f1=0)/\∀ y r,f1=0->Ts y->gh y=sz->b1=y.flatten++r->fj=0/\l=y.take j/\bj=(y.drop j).flatten++r
theorem LI.start{sz:List Int}{b1:List Nat}{f1:Nat}(hf:Er f1):LI sz b1 f1 0 [] b1 f1 :=
 ⟨rfl,fun s hs=>by simp at hs,hf,fun h=>h,fun y r h1 _ _ h4=>⟨h1,by simp,by simpa using h4⟩⟩
theorem SX{c:Nat}{b:List Nat}:(tkB c b).length<=c:=by
 unfold tkB;split
 ·simp
 ·rw[YH];omega
theorem LI.step{sz:List Int}{b1:List Nat}{f1 j:Nat}{l:List (List Nat)}{bj:List Nat}{fj:Nat}(h:LI sz b1 f1 j l bj fj)(hb:Bs bj)(hj:j<sz.length)(h0:0<=sz[j])(ol:sz[j]<=64) :
  LI sz b1 f1 (j+1) (l++[tkB sz[j].toNat bj]) (tkR sz[j].toNat bj) (tkF sz[j].toNat bj fj):=by
 obtain⟨h1,h2,h3,h4,h5⟩:=h;have hl:=SX (c:=sz[j].toNat) (b:=bj);refine⟨by simp[h1],fun s hs=>?_,yD h3,fun h=>h4 (pw h).1,fun y r a1 a2 a3 a4=>?_⟩
 ·rcases Zg.1 hs with hs | hs
  ·exact h2 s hs
  ·have:s=tkB sz[j].toNat bj:=by simpa using hs
   subst this;exact⟨by omega,qN hb⟩
 ·obtain⟨c1,c2,c3⟩:=h5 y r a1 a2 a3 a4
  have hy:j<y.length:=by rw[← a3,bK]at hj;exact hj
  have hz:sz[j]=(y[j].length:Int):=by
   have:(gh y)[j]?=some (y[j].length:Int):=by simp[gh,hy]
   rw[a3,List.getElem?_eq_getElem hj]at this;exact Option.some.inj this
  have hd:y.drop j=y[j]::y.drop (j+1):=Zz hy;rw[hd,jab,YR]at c3;rw[hz,Ze,c3,(fA (a:=y[j]) fj).1,(fA (a:=y[j]) fj).2.1,(fA (a:=y[j]) fj).2.2,c2,YP hy];exact⟨c1,rfl,rfl⟩
theorem LI.bad{sz:List Int}{b b1 bz:List Nat}{f f1 j n:Nat}{l:List (List Nat)}{bj:List Nat}{fj:Nat}(hc:RP (Ni n) (fun l r=>b=cnt l++r) f sz b1 f1)(h:LI sz b1 f1 j l bj fj)(hj:j<sz.length)(hw:sz[j]<0∨64<sz[j]) :
  RP (Nt n) (fun l r=>b=iw l++r) f [] bz (orf fj 40):=by
 obtain⟨h1,h2,h3,h4,h5⟩:=h;refine⟨h3.orf sJ,fun h=>absurd (be h).2 (by omega),fun y r a1 a2 a3=>?_⟩;obtain⟨d1,d2,d3⟩:=hc.2.2 (gh y) (y.flatten++r) a1 ⟨by rw[bK];exact a2.1,iU a2.2⟩ (by rw[a3];unfold iw;rw[YR]);have hy:j<y.length:=by rw[d2,bK]at hj;exact hj
 have hz:sz[j]=(y[j].length:Int):=by
  have:(gh y)[j]?=some (y[j].length:Int):=by simp[gh,hy]
  rw[← d2,List.getElem?_eq_getElem hj]at this;exact Option.some.inj this
 have:=(a2.2 _ (YF hy)).1;omega
theorem LI.done{sz:List Int}{b b1:List Nat}{f f1 n:Nat}{l:List (List Nat)}{bj:List Nat}{fj:Nat}(hc:RP (Ni n) (fun l r=>b=cnt l++r) f sz b1 f1)(h:LI sz b1 f1 sz.length l bj fj) :
  RP (Nt n) (fun l r=>b=iw l++r) f l bj fj:=by
 obtain⟨h1,h2,h3,h4,h5⟩:=h;refine⟨h3,fun h=>?_,fun y r a1 a2 a3=>?_⟩
 ·obtain⟨e1,e2⟩:=hc.2.1 (h4 h)
  exact⟨e1,by rw[h1];exact e2.1,h2⟩
 ·obtain⟨d1,d2,d3⟩:=hc.2.2 (gh y) (y.flatten++r) a1 ⟨by rw[bK];exact a2.1,iU a2.2⟩ (by rw[a3];unfold iw;rw[YR])
  obtain⟨c1,c2,c3⟩:=h5 y r d1 a2.2 d2.symm d3;have BX:sz.length=y.length:=by rw[d2,bK]
  rw[BX]at c2 c3;rw[YK]at c2;rw[ZO]at c3;exact⟨c1,c2,by simpa using c3⟩
def Pb(n:Nat)(G:List (List Nat)->List Nat->Prop)(p f:Nat)(w:World)(r:Ending)(w':World):Prop :=
 ∃ l b' f',(∃ v,r=.returned v/\ij w' w.heap.size v l)/\Ts l/\l.length<=n/\Rs w' p b' f'/\RP (Nt n) G f l b' f'/\Fr p w.heap.size w w'
theorem Bc{w:World}{p f:Nat}{b:List Nat}(h:Rs w p b f)(hf:Er f)(n:Nat)(hn:n<=256) :
  Calls Tryz.prog 298 #[.pointer (some ⟨p,0,none⟩),.int .i64 (n:Int)] w (Pb n (fun l r=>b=iw l++r) p f w):=by
 have ar:=h.lt;have jI:=ae (nV h n);have Fv:=ae (En h.bs hn hf);have Ln:=ae (nW (qN (c:=(gt b).1) (h.bs.drop (gt b).2.1)) hn);clear h;generalize (aS (tkB (gt b).1 (b.drop (gt b).2.1)) n).1=sz at *;generalize (orf (tkF (gt b).1 (b.drop (gt b).2.1) (orf f (gt b).2.2)) (aS (tkB (gt b).1 (b.drop (gt b).2.1)) n).2)=f1 at *;generalize tkR (gt b).1 (b.drop (gt b).2.1)=b1 at *;have hszl:=Ln.o.2;go_enter Tryz.func298,Tryz.ntmps298
 go_wp2_with fail;refine jI.o.mono ?_;rintro e w1 ⟨⟨v1,rfl,dI⟩,da,cB⟩;have gI:=ae da;have eB:=ae cB;have cG:=cB.size;have Qt:=ae dI.sv
 have KQ:jaH (∀ k,v1.ownBlock=some k->k<w1.heap.size/\k≠p):=ae (fun k hk=>by
  have:=dI.lt k hk;exact⟨this.2,by omega⟩)
 obtain⟨a1,c1,rfl,jy,pV⟩:=aM dI;have hcm1':c1<=9223372036854775807:=by unfold maxLen at pV;omega
 clear da cB dI pV;go_wp2_with fail;go_loopw [5,12] (fun o i wr=>∃(j:Nat) (l:List (List Nat)) (bj:List Nat) (fj:Nat),j<=sz.length/\i=.int .i64 (j:Int)/\ij wr w1.heap.size o l/\LI sz b1 f1 j l bj fj/\Rs wr p bj fj/\Fr p w1.heap.size w1 wr) (fun _ i _=>sz.length-(intOf i).toNat)
 case atStart=>exact⟨0,[],b1,f1,by omega,rfl,ij.nil _ _,LI.start Fv.o.1,gI.o,Fr.refl _ _ _⟩
 case round =>
  obtain⟨j,l,bj,fj,hj,rfl,aw,hli,hsj,hfj⟩:=hrel;have HO:=ae aw;have yX:=ae hli;have Yg:=ae hsj;have HFJ:=ae hfj;have bM:=hfj.size;have jD:l.length=j:=hli.1;clear aw hli hsj hfj;by_cases td:j<sz.length
  ·obtain⟨g,off,rfl,hg,bn⟩:=(Qt.o.keptFr KQ.o HFJ.o).at td
   have co:=ae (yX.o.step Yg.o.bs td);have qZ:=ae (fun bz hw=>yX.o.bad (bz:=bz) Fv.o td hw);have hjl':(j:Int)<(sz.length:Int):=(by omega);generalize sz[j]=z at *;by_cases bN:z<0
   ·go_wp2_with fail
    refine(bS Yg.o 40).mono ?_;rintro e w3 ⟨rfl,jX,gC⟩;have lC:=ae jX;have og:=ae (eB.o.trans ((HFJ.o.trans (gC.mono bM)).mono cG));clear jX gC;go_wp2_with fail;go_ret
    exact⟨[],_,_,⟨_,rfl,ij.nil _ _⟩,fun s hs=>by simp at hs,by simp,lC.o,qZ.o _ (Or.inl bN),og.o⟩
   ·by_cases hz64:z > 64
    ·go_wp2_with fail
     refine(bS Yg.o 40).mono ?_;rintro e w3 ⟨rfl,jX,gC⟩;have lC:=ae jX;have og:=ae (eB.o.trans ((HFJ.o.trans (gC.mono bM)).mono cG));clear jX gC;go_wp2_with fail;go_ret
     exact⟨[],_,_,⟨_,rfl,ij.nil _ _⟩,fun s hs=>by simp at hs,by simp,lC.o,qZ.o _ (Or.inr (by omega)),og.o⟩
    ·obtain⟨zn,rfl⟩:∃ zn:Nat,z=(zn:Int):=⟨z.toNat,by omega⟩
     have HST':=ae (co.o (by omega) (by omega));rw[Ze]at HST';have qc:=ae (mC Yg.o zn (by omega));have xx:=ae (qN (c:=zn) Yg.o.bs);clear co qZ;generalize tkB zn bj=tb at *;generalize tkR zn bj=tr at *;generalize tkF zn bj fj=tf at *;go_wp2_with fail;refine qc.o.mono ?_;rintro e w3 ⟨⟨v3,rfl,hv3⟩,jX,gC⟩;have Le:=hv3.conv xx.o;have lC:=ae jX;have og:=ae (HFJ.o.trans (gC.mono bM));have jE:=gC.size;have dx:jaH (ij w3 w1.heap.size _ l):=ae (gC.own HO.o (by omega));clear jX gC hv3;unfold txt at Le;have hlen':l.length<=100000:=(by omega);go_wp2_with (first | (at_builtin;refine iz rfl _ _ rfl w1.heap.size _ _ tb l rfl (dx.o.kept (aj _ _)) rfl (aX _ _ _) hlen' ?c2 ?_))
     case c2=>first | omega | (rw[YB];omega)
     intro v' w4 o4 b4;have fU:=ae o4;have bm:=((aj w3 (.cells #[txt tb] 9)).mono (show w1.heap.size<=w3.heap.size by omega)).trans b4;have vP:=ae (lC.o.kept bm (by omega));have zj:=ae (og.o.then bm);clear o4 b4 bm;go_wp2_with fail;go_roundw
     case rel=>exact⟨j+1,l++[tb],tr,tf,by omega,by go_num,fU.o,HST'.o,vP.o,zj.o⟩
     case measure=>simp[intOf];omega
  ·have:j=sz.length:=by omega
   subst this;have HDN:=ae (yX.o.done Fv.o);have sj:=ae yX.o.2.1;have eO:¬ ((sz.length:Nat):Int)<(sz.length:Int):=(by omega);have Lh:=ae (eB.o.trans (HFJ.o.mono cG));go_wp2_with fail;go_ret
   exact⟨l,bj,fj,⟨_,rfl,bE HO.o cG⟩,sj.o,by omega,Yg.o,HDN.o,Lh.o⟩
def byP(b:List Nat)(l:List (List Nat))(r:List Nat):Prop:=b=uv (tuq l).length++(iw (tuq l)++dm (dR l))/\r=[]
theorem Bd{b r:List Nat}{y:List (List Nat)}{n:Nat}(hn:n<=256)(hy:Nt n y)(hg:byP b y r):gt b=((tuq y).length,(uv (tuq y).length).length,0)/\b.drop (uv (tuq y).length).length=iw (tuq y)++dm (dR y)/\(tuq y).length<=n:=by
 have hl:=jh y;have h1:=hy.1;refine⟨?_,?_,by omega⟩
 ·rw[hg.1]
  exact kP _ (by omega) _
 ·rw[hg.1,Zn]
theorem Pc{b bz:List Nat}{f n:Nat}(hn:n<=256)(hf:Er f)(h:n<(gt b).1):RP (Nt n) (byP b) f [] bz (orf (orf f (gt b).2.2) 40):=by
 refine⟨(hf.orf (AZ b)).orf sJ,fun h=>absurd (be h).2 (by omega),fun y r a1 a2 a3=>?_⟩;obtain⟨h1,h2,h3⟩:=Bd hn a2 a3;rw[h1]at h;exact absurd h (by simp only;omega)
theorem Be{b:List Nat}{f n:Nat}{u:List (List Nat)}{b2:List Nat}{f2:Nat}(hn:n<=256)(hc:RP (Nt (gt b).1) (fun l r=>b.drop (gt b).2.1=iw l++r) (orf f (gt b).2.2) u b2 f2){y:List (List Nat)}{r:List Nat}(h0:f=0)(hy:Nt n y)(hg:byP b y r) :
  f2=0/\u=tuq y/\aS b2 n=(dR y,0):=by
 obtain⟨h1,h2,h3⟩:=Bd hn hy hg;rw[h1]at hc;simp only at hc;rw[h2,h0]at hc;obtain⟨d1,d2,d3⟩:=hc.2.2 (tuq y) (dm (dR y)) rfl ⟨rfl,qq hy.2⟩ rfl;have hb:=iS (ia (l:=y) (by have:=hy.1;omega)) (by rw[cZ];have:=hy.1;omega);rw[cZ,hy.1]at hb;exact⟨d1,d2,by rw[d3];exact hb⟩
theorem SY{b bz:List Nat}{f n j:Nat}{u:List (List Nat)}{b2:List Nat}{f2:Nat}(hn:n<=256)(hc:RP (Nt (gt b).1) (fun l r=>b.drop (gt b).2.1=iw l++r) (orf f (gt b).2.2) u b2 f2)
  (hj:j<(aS b2 n).1.length) (hw:(aS b2 n).1[j]<0∨(u.length:Int)<=(aS b2 n).1[j]):RP (Nt n) (byP b) f [] bz (orf (orf f2 (aS b2 n).2) 40):=by
 refine⟨(hc.1.orf (pu hn)).orf sJ,fun h=>absurd (be h).2 (by omega),fun y r a1 a2 a3=>?_⟩;obtain⟨h1,h2,h3⟩:=Be hn hc a1 a2 a3
 have hm:∀ q∈(aS b2 n).1,q∈dR y:=fun q hq=>by
  rw[h3]at hq;exact hq
 have:=nE _ (hm _ (YF hj));rw[← h2]at this;omega
theorem Pd{b:List Nat}{f n:Nat}{u:List (List Nat)}{b2:List Nat}{f2:Nat}(hn:n<=256)(ay:Bs b2)(hu:Ts u)(hc:RP (Nt (gt b).1) (fun l r=>b.drop (gt b).2.1=iw l++r) (orf f (gt b).2.2) u b2 f2)
  (cz:∀ q∈(aS b2 n).1,0<=q/\q<(u.length:Int)):RP (Nt n) (byP b) f ((aS b2 n).1.map fun q=>u.getD q.toNat []) [] (orf f2 (aS b2 n).2):=by
 refine⟨hc.1.orf (pu hn),fun h=>?_,fun y r a1 a2 a3=>?_⟩
 ·obtain⟨h1,h2⟩:=be h
  obtain⟨h3,h4⟩:=hc.2.1 h1;obtain⟨h5,h6⟩:=gM ay h2;refine⟨(be h3).1,by rw[YD];omega,fun s hs=>?_⟩;obtain⟨q,hq,rfl⟩:=YS.1 hs;have od:=cz q hq;have ar:q.toNat<u.length:=by omega
  rw[List.getD_eq_getElem?_getD,List.getElem?_eq_getElem ar];exact hu _ (YF ar)
 ·obtain⟨h1,h2,h3⟩:=Be hn hc a1 a2 a3
  rw[h3,h1,h2];exact⟨rfl,oN y,a3.2.symm⟩
theorem SZ{u:List (List Nat)}(hu:Ts u)(q:Nat):(u.getD q []).length<=64/\Bs (u.getD q []):=by
 rcases Zd q u.length with h | h
 ·rw[List.getD_eq_getElem?_getD,List.getElem?_eq_getElem h]
  exact hu _ (YF h)
 ·rw[List.getD_eq_getElem?_getD,List.getElem?_eq_none h]
  exact⟨by simp,fun x hx=>by simp at hx⟩
theorem py{w:World}{p f:Nat}{b:List Nat}(h:Rs w p b f)(hf:Er f)(n:Nat)(hn:n<=256) :
  Calls Tryz.prog 297 #[.pointer (some ⟨p,0,none⟩),.int .i64 (n:Int)] w (Pb n (byP b) p f w):=by
 have ar:=h.lt;have HN:=ae (rS h);have g1:=(eI b).1;have HMANY:=ae (fun bz h=>Pc (b:=b) (bz:=bz) (f:=f) hn hf h);have qZ:=ae (fun bz j u b2 f2 hc hj hw=>SY (b:=b) (bz:=bz) (f:=f) (j:=j) (u:=u) (b2:=b2) (f2:=f2) hn hc hj hw);have UU:=ae (fun u b2 f2 ay hu hc cz=>Pd (b:=b) (f:=f) (u:=u) (b2:=b2) (f2:=f2) hn ay hu hc cz);have UR:=ae (hf.orf (AZ b));clear h;generalize (gt b).1=c at *;generalize b.drop (gt b).2.1=b1 at *;generalize orf f (gt b).2.2=f1 at *;go_enter Tryz.func297,Tryz.ntmps297
 go_wp2_with fail;refine HN.o.mono ?_;rintro e w1 ⟨rfl,da,cB⟩;have gI:=ae da;have eB:=ae cB;have cG:=cB.size;clear da cB;by_cases hmany:n<c
 ·have hm':(c:Int) > (n:Int):=by omega
  go_wp2_with fail;refine(bS gI.o 40).mono ?_;rintro e w2 ⟨rfl,cP,cK⟩;have eP:=ae cP;have eT:=ae (eB.o.trans (cK.mono cG));clear cP cK;go_wp2_with fail;go_ret
  exact⟨[],_,_,⟨_,rfl,ij.nil _ _⟩,fun s hs=>by simp at hs,by simp,eP.o,HMANY.o _ hmany,eT.o⟩
 ·have hm':¬ (c:Int) > (n:Int):=by omega
  have HL:=ae (Bc gI.o UR.o c (by omega));go_wp2_with fail;refine HL.o.mono ?_;rintro e w2 ⟨u,b2,f2,⟨v2,rfl,ex⟩,Cs,Kw,cP,hrp2,cK⟩;have ec:=ae ex;have sj:=ae Cs;have HRP2:=ae hrp2;have eT:=ae (eB.o.trans (cK.mono cG));have bh:=cK.size;have aK:=ae cP.bs;have Gu:=ae (ly cP n);have Ln:=ae (nW cP.bs hn);have HU2:=ae ex.sv;obtain⟨au,cu,rfl,hcu,hcmu⟩:=aM ex;have hcmu':cu<=9223372036854775807:=by unfold maxLen at hcmu;omega
  have HUB:jaH (∀ k,(Value.slice au u.length cu).ownBlock=some k->k<w2.heap.size/\k≠p):=ae (fun k hk=>by
   have:=ex.lt k hk;exact⟨this.2,by omega⟩)
  clear ex Cs cP hrp2 cK hcmu;have HBAD2:=ae (fun bz j hj hw=>qZ.o bz j u b2 f2 HRP2.o hj hw);have Xb:=ae (fun cz=>UU.o u b2 f2 aK.o sj.o HRP2.o cz);clear qZ UU;generalize (aS b2 n).1=pl at *;generalize orf f2 (aS b2 n).2=f3 at *;have hpll:=Ln.o.2;go_wp2_with fail;refine Gu.o.mono ?_;rintro e w3 ⟨⟨v3,rfl,eR⟩,jX,gC⟩;have lC:=ae jX;have og:=ae (eT.o.trans (gC.mono (YG cG bh)));have jE:=gC.size;have HU3:=ae (HU2.o.keptFr HUB.o gC);have WQ:=ae eR.sv;have KQ:jaH (∀ k,v3.ownBlock=some k->k<w3.heap.size):=ae (fun k hk=>(eR.lt k hk).2);have HUB3:jaH (∀ k,(Value.slice au u.length cu).ownBlock=some k->k<w3.heap.size):=ae (fun k hk=>by have:=(HUB.o k hk).1;omega);obtain⟨a3,c3,rfl,TZ,WF⟩:=aM eR;have hcm3':c3<=9223372036854775807:=by unfold maxLen at WF;omega
  clear eR jX gC WF;go_wp2_with fail;go_loopw [7,26] (fun o i wr=>∃ j:Nat,j<=pl.length/\i=.int .i64 (j:Int)/\ij wr w3.heap.size o ((pl.take j).map fun q=>u.getD q.toNat [])/\(∀ q∈pl.take j,0<=q/\q<(u.length:Int))/\Below w3.heap.size w3 wr) (fun _ i _=>pl.length-(intOf i).toNat)
  case atStart=>exact⟨0,by omega,rfl,ij.nil _ _,fun q hq=>by simp at hq,Yz _ _⟩
  case round =>
   obtain⟨j,hj,rfl,aw,cz,ao⟩:=hrel;have HO:=ae aw;have Ci:=ae cz;have Qz:=ae ao;have bM:=ao.size;have Gw:=ae (lC.o.kept ao lC.o.lt);clear aw cz ao;by_cases td:j<pl.length
   ·obtain⟨g,off,rfl,hg,bn⟩:=(WQ.o.keptB KQ.o Qz.o).at td
    have Cx:=ae (fun bz hw=>HBAD2.o bz j td hw);have hjl':(j:Int)<(pl.length:Int):=(by omega);have qc:jaH (pl.take (j+1)=pl.take j++[pl[j]]):=ae (YP td);generalize pl[j]=z at *;by_cases bN:z<0
    ·go_wp2_with fail
     refine(bS Gw.o 40).mono ?_;rintro e w4 ⟨rfl,uN,no⟩;have vP:=ae uN;have zj:=ae (og.o.trans ((Fr.of_below (Qz.o.mono (show w.heap.size<=w3.heap.size by omega))).trans (no.mono (by omega))));clear uN no;go_wp2_with fail;go_ret
     exact⟨[],_,_,⟨_,rfl,ij.nil _ _⟩,fun s hs=>by simp at hs,by simp,vP.o,Cx.o _ (Or.inl bN),zj.o⟩
    ·by_cases hzu:z>=(u.length:Int)
     ·go_wp2_with fail
      refine(bS Gw.o 40).mono ?_;rintro e w4 ⟨rfl,uN,no⟩;have vP:=ae uN;have zj:=ae (og.o.trans ((Fr.of_below (Qz.o.mono (show w.heap.size<=w3.heap.size by omega))).trans (no.mono (by omega))));clear uN no;go_wp2_with fail;go_ret
      exact⟨[],_,_,⟨_,rfl,ij.nil _ _⟩,fun s hs=>by simp at hs,by simp,vP.o,Cx.o _ (Or.inr hzu),zj.o⟩
     ·obtain⟨zn,rfl⟩:∃ zn:Nat,z=(zn:Int):=⟨z.toNat,by omega⟩
      have hzn:zn<u.length:=(by omega);obtain⟨gu,offu,rfl,hgu,hcu2⟩:=(HU3.o.keptB HUB3.o Qz.o).at1 (fI hzn);have dO:u.getD zn []=u[zn]:=by rw[List.getD_eq_getElem?_getD,List.getElem?_eq_getElem hzn];rfl
      have jz:jaH ((pl.take (j+1)).map (fun q=>u.getD q.toNat [])=((pl.take j).map fun q=>u.getD q.toNat [])++[u[zn]]):=ae (by
       rw[qc.o,YX,Zh,Zs,Ze,dO])
      have GC:jaH (∀ q∈pl.take (j+1),0<=q/\q<(u.length:Int)):=ae (fun q hq=>by
       rw[qc.o]at hq;rcases Zg.1 hq with hq | hq
       ·exact Ci.o q hq
       ·have:q=(zn:Int):=by simpa using hq
        omega)
      have hlen':((pl.take j).map fun q=>u.getD q.toNat []).length<=100000:=by rw[YD,YH];omega
      rw[fD]at hcu2;clear Cx qc dO;generalize ((pl.take j).map fun q=>u.getD q.toNat [])=L at *;generalize u[zn]=x at *;go_wp2_with (first | (at_builtin;refine iz rfl _ _ rfl w3.heap.size _ _ x L rfl (HO.o.kept (aj _ _)) rfl (aX _ _ _) hlen' ?c2 ?_))
      case c2=>first | omega | (rw[YB];omega)
      intro v' w5 o5 b5;have cQ:=ae o5;have aJ:=ae ((Qz.o.alloc bM (.cells #[txt x] 9)).trans b5);clear o5 b5;go_wp2_with fail;go_roundw
      case rel=>exact⟨j+1,by omega,by go_num,by rw[jz.o];exact cQ.o,GC.o,aJ.o⟩
      case measure=>simp[intOf];omega
   ·have:j=pl.length:=by omega
    subst this;rw[YK]at HO Ci;have HDN:=ae (Xb.o Ci.o);have eO:¬ ((pl.length:Nat):Int)<(pl.length:Int):=(by omega);have Lh:=ae (og.o.trans (Fr.of_below (p:=p) (Qz.o.mono (show w.heap.size<=w3.heap.size by omega))))
    have WZ:jaH (Ts (pl.map fun q=>u.getD q.toNat [])):=ae (fun s hs=>by
     obtain⟨q,_,rfl⟩:=YS.1 hs;exact SZ sj.o q.toNat)
    have jD:(pl.map fun q=>u.getD q.toNat []).length<=n:=by rw[YD];omega
    generalize (pl.map fun q=>u.getD q.toNat [])=L at *;go_wp2_with fail;go_ret
    exact⟨L,[],f3,⟨_,rfl,bE HO.o (by omega)⟩,WZ.o,jD,Gw.o,HDN.o,Lh.o⟩
def byW(b:List Nat)(l:List (List Nat))(r:List Nat):Prop:=b=fE l/\r=[]
theorem Eo{w:World}{p f:Nat}{b:List Nat}(h:Rs w p b f)(hf:Er f)(n:Nat)(hn:n<=256) :
  Calls Tryz.prog 279 #[.pointer (some ⟨p,0,none⟩),.int .i64 (n:Int)] w (Pb n (byW b) p f w):=by
 have HC:=ae (uw h)
 have hef:Er (chF b f):=by
  unfold chF;split
  ·exact hf.orf SW
  ·split
   ·exact hf
   ·exact hf.orf sJ
 have HEF:=ae hef
 have Rh:chX b<=1:=by
  unfold chX;split
  ·omega
  ·split<;>omega
 have zl:jaH (chX b=1->∀ l b' f',RP (Nt n) (byP b.tail) (chF b f) l b' f'->RP (Nt n) (byW b) f l b' f'):=ae (fun hx l b' f' hr=>by
  obtain⟨r1,r2,r3⟩:=hr;cases b with
  | nil=>simp[chX]at hx
  | cons x t =>
   have Cz:x=1:=by
    unfold chX at hx;simp only at hx;split at hx<;>omega
   subst Cz;have Xc:chF (1::t) f=f:=by simp[chF]
   rw[Xc]at r2 r3;refine⟨r1,r2,fun y r a1 a2 a3=>r3 y r a1 a2 ⟨?_,a3.2⟩⟩;have h3:=a3.1;unfold fE at h3;split at h3
   ·unfold eV at h3
    simpa using h3
   ·unfold plain at h3
    simp at h3)
 have Yh:jaH (chX b≠1->∀ l b' f',RP (Nt n) (fun l r=>b.tail=iw l++r) (chF b f) l b' f'->RP (Nt n) (byW b) f l b' f'):=ae (fun hx l b' f' hr=>by
  obtain⟨r1,r2,r3⟩:=hr;refine⟨r1,fun h=>?_,fun y r a1 a2 a3=>?_⟩
  ·obtain⟨e1,e2⟩:=r2 h
   refine⟨?_,e2⟩;unfold chF at e1;split at e1
   ·exact(be e1).1
   ·split at e1
    ·exact e1
    ·exact(be e1).1
  ·have h3:=a3.1
   unfold fE at h3;split at h3
   ·unfold eV at h3
    rw[h3]at hx;exact absurd rfl hx
   ·unfold plain at h3
    have Xc:chF b f=f:=by rw[h3];simp[chF]
    have ht:b.tail=iw y:=by rw[h3];rfl
    rw[Xc]at r3;have:=r3 y [] a1 a2 (by show b.tail=iw y++[];rw[ht,YZ]);rw[a3.2];exact this)
 clear h;generalize chX b=x at *;generalize chF b f=f1 at *;by_cases hx:x=1
 ·have mI:=ae (zl.o hx)
  clear zl Yh;subst hx;go_enter Tryz.func279,Tryz.ntmps279
  go_wp2_with fail;refine HC.o.mono ?_;rintro e w1 ⟨rfl,da,cB⟩;have eB:=ae cB;have cG:=cB.size;have HT:=ae (py da HEF.o n hn);clear da cB;go_wp2_with fail;refine HT.o.mono ?_;rintro e w2 ⟨l,b2,f2,⟨v2,rfl,ex⟩,Cs,jD,cP,XS,cK⟩;have ec:=ae (bE ex cG);have sj:=ae Cs;have eP:=ae cP;have Fv:=ae (mI.o l b2 f2 XS);have eT:=ae (eB.o.trans (cK.mono cG));clear ex Cs cP XS cK;go_wp2_with fail;go_ret
  exact⟨l,b2,f2,⟨_,rfl,ec.o⟩,sj.o,jD,eP.o,Fv.o,eT.o⟩
 ·have mI:=ae (Yh.o hx)
  clear zl Yh;obtain rfl:x=0:=by omega
  go_enter Tryz.func279,Tryz.ntmps279
  go_wp2_with fail;refine HC.o.mono ?_;rintro e w1 ⟨rfl,da,cB⟩;have eB:=ae cB;have cG:=cB.size;have HT:=ae (Bc da HEF.o n hn);clear da cB;go_wp2_with fail;refine HT.o.mono ?_;rintro e w2 ⟨l,b2,f2,⟨v2,rfl,ex⟩,Cs,jD,cP,XS,cK⟩;have ec:=ae (bE ex cG);have sj:=ae Cs;have eP:=ae cP;have Fv:=ae (mI.o l b2 f2 XS);have eT:=ae (eB.o.trans (cK.mono cG));clear ex Cs cP XS cK;go_wp2_with fail;go_ret
  exact⟨l,b2,f2,⟨_,rfl,ec.o⟩,sj.o,jD,eP.o,Fv.o,eT.o⟩
def lV(n m:Nat):List Value:=List.replicate m (.int .u64 1)++List.replicate (n-m) (.int .u64 0)
theorem rU{n m:Nat}(h:m<=n):(lV n m).length=n:=by simp[lV];omega
theorem Bg{n m c:Nat}(h:m+c<=n):splice (lV n m) m (List.replicate c (.int .u64 1))=lV n (m+c):=by
 unfold splice lV
 have h1:(List.replicate m (Value.int .u64 1)++List.replicate (n-m) (Value.int .u64 0)).take m=List.replicate m (Value.int .u64 1):=by
  rw[List.take_append_of_le_length (by simp)];exact Zo (by simp)
 have h2:(List.replicate m (Value.int .u64 1)++List.replicate (n-m) (Value.int .u64 0)).drop (m+(List.replicate c (Value.int .u64 1)).length)=List.replicate (n-(m+c)) (Value.int .u64 0):=by
  rw[List.drop_append,jau (by simp)];simp
  omega
 rw[h1,h2,← YR,List.replicate_append_replicate]
theorem Bh(n:Nat)(hn:n<=256)(w:World):Calls Tryz.prog 295 #[.int .u64 1,.int .u64 (n:Int)] w fun e w'=>e=.returned (.tuple #[.int .u64 0,.int .u64 (n:Int)])/\w'=w:=by
 have:=Any.bits_Mul Si 1 n (by omega) (by omega) w;have h1:1*n / 18446744073709551616=0:=by omega
 have h2:1*n % 18446744073709551616=n:=by omega
 rw[h1,h2]at this;exact this
theorem Wc:(Tryz.prog.info? 92).map (·.size)=some 1:=by kernel_rfl
theorem Bi{W:World}{T n m sl dl sc dc c:Nat}{ad:Addr}(iO:W.heap[T]?=some (.cells (lV n m).toArray 92 (0,0)))(hc:c=Nat.min sl dl)(dK:m+c<=n)(Xd:∀ j,j<c->W.cell? (ad.add j)=some (.int .u64 1)) :
  ∃ W',(Builtin.copy_ #[142,142] 3 #[.slice (some ⟨T,m,none⟩) dl dc,.slice (some ad) sl sc]).run Tryz.prog W=.ok (.int .i64 (c:Int)) W'/\W'.heap[T]?=some (.cells (lV n (m+c)).toArray 92 (0,0))/\Below T W W'/\W'.heap.size=W.heap.size:=by
 have hl:(List.replicate c (Value.int .u64 1)).length=c:=List.length_replicate
 have vT:=run_copy_row (P:=Tryz.prog) W 142 142 3 92 T m dl dc ad sl sc (lV n m).toArray 92 (List.replicate c (.int .u64 1)) Tryz.underlying142 Wc iO (by rw[hl];exact hc) (fun j v hj=>by
  rw[List.getElem?_replicate]at hj;split at hj
  ·next h =>
   cases hj
   exact Xd j h
  ·cases hj) (by rw[hl];simp[rU (show m<=n by omega)];exact dK) (fun v hv=>by rw[jay hv];rfl)
 have hs:=Bg dK;unfold splice at hs;rw[hl]at vT hs;rw[← YR]at hs;simp only[List.toList_toArray]at vT;rw[hs]at vT;refine⟨_,vT,?_,below_setRow (Yz _ _) (YA _) _,by simp[World.setRow]⟩;exact setRow_heap W T _ _ 92 _ iO
theorem Ep{w:World}{g:Nat}(hc:w.cell? ⟨g,0,none⟩=some (.int .u64 1))(n:Nat)(hn:n<=256) :
  Calls Tryz.prog 277 #[.slice (some ⟨g,0,none⟩) 1 1,.int .i64 (n:Int)] w fun e w'=>(∃ v,e=.returned v/\em w' w.heap.size v (List.replicate n 1))/\Below w.heap.size w w':=by
 obtain⟨i0,hi,bN,hz1',bh⟩:=YW qk;have HC:=ae hc;have hg:=World.block_lt_of_cell? w _ hc;simp only at hg;have HM:=ae (Bh n hn);have TT:¬ (n:Int)<0:=by omega
 have Xe:¬ (n:Int) > 9223372036854775807:=by omega
 clear hc;go_enter Tryz.func277,Tryz.ntmps277
 go_wp2_with fail;refine(HM.o _).mono ?_;rintro e w1 ⟨rfl,rfl⟩;go_wp2_with (first | (refine ZJ _ rfl _ _ 142 rfl w1.heap.size 92 i0 (.int .u64 0) 1 Tryz.underlying142 hi bN hz1' .i64 .i64 _ _ n rfl rfl ?m1 ?m2 ?m3 ?m4 ?m5 ?_))
 case m1=>rfl
 case m2=>rfl
 case m3=>rw[bh];omega
 case m4=>unfold maxLen;omega
 case m5=>omega
 intro w4 fC gH;have bm:Below w1.heap.size w1 w4:=(Yz _ _).grown gH (YA _) (fun k hk=>by cases hk)
 have iO:w4.heap[w1.heap.size]?=some (.cells (lV n 0).toArray 92 (0,0)):=by
  obtain⟨h0,⟨h,_⟩ | ⟨g',cap',cur,h1,h2,h3,h4,h5,h6,h7⟩⟩:=fC
  ·cases h
  ·cases h1
   rw[h3]
   have e1:cur=(lV n 0).toArray:=by
    apply Array.toList_inj.1
    rw[Zo (by simp;omega)]at h7;rw[h7,jal];simp[lV]
   rw[e1]
 have QG:=(bm.cell (p:=⟨g,0,none⟩) hg).trans HC.o
 obtain⟨w5,Xf,Lo,bv,zi⟩:=Bi (c:=Nat.min 1 n) (sl:=1) (dl:=n) (sc:=1) (dc:=n) (ad:=⟨g,0,none⟩) iO rfl (by have:=Nat.min_le_right 1 n;show 0+min 1 n<=n;omega) (fun j hj=>by
  have:j=0:=by have:=Nat.min_le_left 1 n;have h:j<min 1 n:=hj;omega
  subst this;rw[oz];exact QG)
 rw[YY]at Lo;have pW:=ae Lo;have aJ:=ae (bm.trans bv);have Li:Nat.min 1 n<=n:=Nat.min_le_right 1 n
 have hmn1:n=0∨1<=Nat.min 1 n:=by
  rcases Zw n with h | h
  ·exact Or.inl h
  ·right
   show 1<=min 1 n
   omega
 have HMN:=ae hmn1;clear fC gH bm iO QG Lo bv zi hmn1;generalize Nat.min 1 n=mm at *;go_wp2_with fail;go_loopw [8] (fun i wr=>∃ m:Nat,i=.int .i64 (m:Int)/\m<=n/\(n=0∨1<=m)/\wr.heap[w1.heap.size]?=some (.cells (lV n m).toArray 92 (0,0))/\Below w1.heap.size w1 wr) (fun i _=>n-(intOf i).toNat)
 case atStart=>exact⟨mm,rfl,Li,HMN.o,pW.o,aJ.o⟩
 case round =>
  obtain⟨m,rfl,hm,Ua,iO,ao⟩:=hrel;have HR:=ae iO;have HB:=ae ao;have QH:=ae Ua;clear iO ao Ua Xf;by_cases ar:m<n
  ·have WE:1<=m:=by have:=QH.o;omega
   have hlt':(m:Int)<(n:Int):=(by omega);have hRd:wr.drew.heap[w1.heap.size]?=some (.cells (lV n m).toArray 92 (0,0)):=HR.o;have hBd:Below w1.heap.size wr wr.drew:=⟨rfl,rfl,rfl,YA _,fun _ _=>rfl⟩
   obtain⟨w6,Xf,QI,dP,Fi⟩:=Bi (W:=wr.drew) (c:=Nat.min m (n-m)) (sl:=m) (dl:=n-m) (sc:=n) (dc:=n-m) (ad:=⟨w1.heap.size,0,none⟩) hRd rfl (by show m+min m (n-m)<=n;omega) (fun j hj=>by
    have h:j<min m (n-m):=hj;rw[oz,an hRd];unfold lV;rw[List.getElem?_toArray,List.getElem?_append_left (by rw[List.length_replicate];omega),List.getElem?_replicate,Yy (by omega)])
   have jy:1<=Nat.min m (n-m):=by show 1<=min m (n-m);omega
   have jH:m+Nat.min m (n-m)<=n:=by show m+min m (n-m)<=n;omega
   have CA:=ae QI;have jA:=ae ((HB.o.trans hBd).trans dP);have fb:¬ n=m:=(by omega);clear QI dP Fi hRd hBd;generalize Nat.min m (n-m)=c at *;have hwrap:IntKind.i64.wrap ((m:Int)+(c:Int))=(m:Int)+(c:Int):=by rw[Zy];omega
   go_wp2_with fail;go_region
   go_wp2_with fail;go_roundw
   case rel=>exact⟨m+c,by go_num,jH,Or.inr (by omega),CA.o,jA.o⟩
   case measure=>simp[intOf];omega
  ·obtain rfl:m=n:=by omega
   have HO:jaH (em wr w1.heap.size (.slice (some ⟨w1.heap.size,0,none⟩) m m) (List.replicate m 1)):=ae (by
    unfold em;refine⟨by rw[am];simp,Or.inr ⟨w1.heap.size,m,(lV m m).toArray,by simp,YA _,HR.o,by simp,by unfold maxLen;omega,by simp[rU (YA m)],?_⟩⟩;have:lV m m=az .u64 (List.replicate m 1):=by simp[lV,az]
    rw[this];simp[az])
   have eO:¬ ((m:Nat):Int)<(m:Int):=(by omega);go_wp2_with fail;go_ret
   exact⟨⟨_,rfl,HO.o⟩,HB.o⟩
def Nu(n:Nat)(l:List Nat):Prop:=l.length=n/\∀ x∈l,x<2
def byH(b:List Nat)(n:Nat)(x r:List Nat):Prop:=∃ l:List (Nat×Int×List Nat),l.length=n/\x=cD l/\b=iD l++r
theorem JK{b:List Nat}{f n:Nat}(hf:Er f)(hn:n<=256)(hx:chX b=1):RP (Nu n) (byH b n) f (unR (tkB (by8 n) b.tail) n 1) (tkR (by8 n) b.tail) (orf (tkF (by8 n) b.tail (chF b f)) (unE (tkB (by8 n) b.tail) n 1)):=by
 have hb:∃ t,b=1::t/\chF b f=f:=by
  cases b with
  | nil=>simp[chX]at hx
  | cons x t =>
   have:x=1:=by
    unfold chX at hx;simp only at hx;split at hx<;>omega
   subst this;exact⟨t,rfl,by simp[chF]⟩
 obtain⟨t,rfl,Xc⟩:=hb;rw[Xc,List.tail_cons];refine⟨(yD hf).orf (show Er (unE _ n ((1:Nat):Int)) from Em hn (by omega)),fun h=>?_,fun y r a1 a2 a3=>?_⟩
 ·obtain⟨h1,h2⟩:=be h
  exact⟨(pw h1).1,jS h2⟩
 ·obtain⟨l,rfl,rfl,a6⟩:=a3
  unfold iD at a6;split at a6
  ·have h2:=eg l
   have hl:=dM h2 (by rw[aT];exact hn);have KP:=ms h2 (by rw[aT];exact hn);rw[aT]at hl KP;have ht:t=aY (cD l) 1++r:=by simpa using a6
   rw[ht,← hl,(fA (a:=aY (cD l) 1) f).1,(fA (a:=aY (cD l) 1) f).2.1,(fA (a:=aY (cD l) 1) f).2.2,KP.1,KP.2,a1];exact⟨rfl,rfl,rfl⟩
  ·simp at a6
theorem Et{b:List Nat}{f n:Nat}(hf:Er f)(hn:n<=256)(hx:chX b≠1):RP (Nu n) (byH b n) f (List.replicate n 1) b.tail (chF b f):=by
 have hef:Er (chF b f)/\(chF b f=0->f=0):=by
  unfold chF;split
  ·exact⟨hf.orf SW,fun h=>(be h).1⟩
  ·split
   ·exact⟨hf,fun h=>h⟩
   ·exact⟨hf.orf sJ,fun h=>(be h).1⟩
 refine⟨hef.1,fun h=>⟨hef.2 h,by simp,fun x hx=>by have:=jay hx;omega⟩,fun y r a1 a2 a3=>?_⟩;obtain⟨l,rfl,rfl,a6⟩:=a3;unfold iD at a6;split at a6
 ·rw[a6]at hx
  exact absurd rfl hx
 ·next h0 =>
  have Xc:chF b f=f:=by rw[a6];simp[chF]
  rw[Xc,a6];exact⟨a1,(tJ h0).symm,rfl⟩
theorem JL{w:World}{p f:Nat}{b:List Nat}(h:Rs w p b f)(hf:Er f)(n:Nat)(hn:n<=256) :
  Calls Tryz.prog 262 #[.pointer (some ⟨p,0,none⟩),.int .i64 (n:Int)] w fun r w'=>∃ l b' f',(∃ v,r=.returned v/\em w' w.heap.size v l)/\(∀ x∈l,x<2)/\l.length<=n/\Rs w' p b' f'/\RP (Nu n) (byH b n) f l b' f'/\Fr p w.heap.size w w':=by
 have HC:=ae (uw h);have ar:=h.lt;have H1:=ae (fun hx=>JK (b:=b) hf hn hx);have H0:=ae (fun hx=>Et (b:=b) hf hn hx)
 have Rh:chX b<=1:=by
  unfold chX;split
  ·omega
  ·split<;>omega
 clear h;generalize chX b=x at *;generalize chF b f=f1 at *;generalize b.tail=b1 at *;by_cases hx:x=1
 ·have HR:=ae (H1.o hx)
  clear H1 H0;subst hx;go_enter Tryz.func262,Tryz.ntmps262
  go_wp2_with fail;refine HC.o.mono ?_;rintro e w1 ⟨rfl,da,cB⟩;have eB:=ae cB;have cG:=cB.size;have HP:=ae (rT da n hn);clear da cB;go_wp2_with fail;refine HP.o.mono ?_;rintro e w2 ⟨⟨v2,rfl,ex⟩,cP,cK⟩;have ec:=ae (bE ex cG);have eP:=ae cP;have eT:=ae (eB.o.trans (cK.mono cG));clear ex cP cK
  have UW:(∀ x∈unR (tkB (by8 n) b1) n 1,x<2)/\(unR (tkB (by8 n) b1) n 1).length<=n:=by
   by_cases h0:unE (tkB (by8 n) b1) n 1=0
   ·exact⟨(jS h0).2,Nat.le_of_eq (jS h0).1⟩
   ·rw[tM h0]
    exact⟨fun x hx=>by simp at hx,by simp⟩
  have Ln:=ae UW;clear UW;go_wp2_with fail;go_ret
  exact⟨_,_,_,⟨_,rfl,ec.o⟩,Ln.o.1,Ln.o.2,eP.o,HR.o,eT.o⟩
 ·have HR:=ae (H0.o hx)
  clear H1 H0;obtain rfl:x=0:=by omega
  go_enter Tryz.func262,Tryz.ntmps262
  go_wp2_with fail;refine HC.o.mono ?_;rintro e w1 ⟨rfl,da,cB⟩;have eB:=ae cB;have cG:=cB.size;have gI:=ae da;have HP:=ae (Ep (aX w1 (.int .u64 1) 92) n hn);have bh:=YB w1 (.cells #[.int .u64 1] 92);have aN:=ae (aj w1 (.cells #[.int .u64 1] 92));clear da cB;go_wp2_with fail;refine HP.o.mono ?_;rintro e w2 ⟨⟨v2,rfl,ex⟩,ay⟩;have ec:=ae (bE (B:=w.heap.size) ex (by omega));have aO:=aN.o.trans (ay.mono (by omega));have eP:=ae (gI.o.kept aO gI.o.lt);have eT:=ae (eB.o.trans (Fr.of_below (aO.mono cG)));clear ex ay aO;go_wp2_with fail;go_ret
  exact⟨_,_,_,⟨_,rfl,ec.o⟩,fun x hx=>by have:=jay hx;omega,by simp,eP.o,HR.o,eT.o⟩
theorem nj{l:List Nat}{k:Nat}(h:k<l.length):(l.take (k+1)).sum=(l.take k).sum+l[k]:=by
 rw[YP h,List.sum_append];simp
theorem pB:∀{l:List Nat},(∀ x∈l,x<2)->l.sum<=l.length
 | [],_=>by simp
 | x::t,h=>by
  have ih:=pB (l:=t) fun y hy=>h y (by simp[hy])
  have:=h x (by simp);rw[List.sum_cons,YI];omega
theorem Pe{w:World}{v:Value}{l:List Nat}(hs:Sv w v (az .u64 l))(h2:∀ x∈l,x<2)(hl:l.length<=256) :
  Calls Tryz.prog 264 #[v] w fun e w'=>e=.returned (.int .i64 (l.sum:Int))/\w'=w:=by
 have HS:=ae hs;have H2:=ae h2;obtain⟨a,cap,rfl,aV,bw⟩:=hs.form1;rw[am]at *;have hcm':cap<=9223372036854775807:=by unfold maxLen at bw;omega
 clear hs h2 bw;go_enter Tryz.func264,Tryz.ntmps264
 go_wp2_with fail;go_loopw [3,8] (fun o i wr=>∃ k:Nat,k<=l.length/\o=.int .i64 ((l.take k).sum:Int)/\i=.int .i64 (k:Int)/\wr=w) (fun _ i _=>l.length-(intOf i).toNat)
 case atStart=>exact⟨0,by omega,rfl,rfl,rfl⟩
 case round =>
  obtain⟨k,hk,rfl,rfl,rfl⟩:=hrel
  have mQ:(l.take k).sum<=256:=by
   have:=pB (l:=l.take k) fun x hx=>H2.o x (ZA hx)
   rw[YH]at this;omega
  by_cases ar:k<l.length
  ·obtain⟨b,off,rfl,hb,ek⟩:=HS.o.at1 (bG ar)
   have HT:=ae (nj ar);have hx:=H2.o l[k] (YF ar);have hlt':(k:Int)<(l.length:Int):=(by omega);generalize l[k]=x at *;generalize (l.take k).sum=s at *;go_wp2_with fail;go_roundw
   case rel=>exact⟨k+1,by omega,by rw[HT.o];go_num,by go_num,trivial⟩
   case measure=>simp[intOf];omega
  ·obtain rfl:k=l.length:=by omega
   rw[YK];have eO:¬ ((l.length:Nat):Int)<(l.length:Int):=(by omega);go_wp2_with fail;go_ret
   exact⟨rfl,rfl⟩
def Nv(k n:Nat)(l:List (Nat×Int×List Nat)):Prop:=l.length=n/\∀ c∈l,fN k c/\c.1≠0
def byT(k:Nat)(b:List Nat)(l:List (Nat×Int×List Nat))(r:List Nat):Prop:=b=iE k l/\r=[]
theorem ux{l:List (Nat×Int×List Nat)}(h:∀ c∈l,c.1≠0):bH l=l:=by
 unfold bH;rw[List.filter_eq_self];intro c hc;simpa using h c hc
theorem Pf{f:Nat}{b:List Nat}(h:Er f):Er (orf f (if b.length=0 then 0 else 32)):=by
 refine h.orf ?_;split
 ·exact er0
 ·exact er32
theorem Wd{b:List Nat}{f n:Nat}(hb:Bs b)(hf:Er f)(hn:n<=256):RP (Nv 1 n) (byT 1 b) f ((aS b n).1.map fun z=>(1,z,[])) [] (orf f (aS b n).2):=by
 refine⟨hf.orf (pu hn),fun h=>?_,fun y r a1 a2 a3=>?_⟩
 ·obtain⟨h1,h2⟩:=be h
  obtain⟨h3,h4⟩:=gM hb h2;refine⟨h1,by rw[YD];omega,fun c hc=>?_⟩;obtain⟨z,hz,rfl⟩:=YS.1 hc;exact⟨Or.inr (Or.inl ⟨rfl,z,rfl,h4 z hz⟩),by simp⟩
 ·have ho:=ux fun c hc=>(a2.2 c hc).2
  have qd:=kz fun c hc=>(a2.2 c hc).1
  rw[ho]at qd;have ay:b=dm (y.map fun c=>c.2.1):=by rw[a3.1,yb,ho]
  have KP:=iS qd.1 (by rw[YD];have:=a2.1;omega);rw[YD,a2.1]at KP;rw[ay,KP,a1,a3.2];exact⟨rfl,qd.2,rfl⟩
theorem We{b:List Nat}{f n:Nat}(hf:Er f)(hn:n<=256):RP (Nv 2 n) (byT 2 b) f ((unR (tkB (by8 n) b) n 1).map fun(x:Nat)=>(2,(x:Int),[])) (tkR (by8 n) b) (orf (orf (tkF (by8 n) b f) (unE (tkB (by8 n) b) n 1)) (if (tkR (by8 n) b).length=0 then 0 else 32)):=by
 refine⟨Pf ((yD hf).orf (show Er (unE _ n ((1:Nat):Int)) from Em hn (by omega))),fun h=>?_,fun y r a1 a2 a3=>?_⟩
 ·obtain⟨h1,h2⟩:=be (be h).1
  obtain⟨h3,h4⟩:=jS h2;refine⟨(pw h1).1,by rw[YD];exact h3,fun c hc=>?_⟩;obtain⟨z,hz,rfl⟩:=YS.1 hc;exact⟨Or.inr (Or.inr (Or.inl ⟨rfl,z,rfl,h4 z hz⟩)),by simp⟩
 ·have ho:=ux fun c hc=>(a2.2 c hc).2
  have qd:=ic fun c hc=>(a2.2 c hc).1
  rw[ho]at qd;have ay:b=aY (y.map fun c=>c.2.1.toNat) 1++[]:=by rw[a3.1,yc,ho,YZ]
  have hm:(y.map fun c=>c.2.1.toNat).length<=256:=by rw[YD];have:=a2.1;omega
  have hl:=dM qd.1 hm;have KP:=ms qd.1 hm;rw[YD,a2.1]at hl KP;rw[ay,← hl,(fA (a:=aY (y.map fun c=>c.2.1.toNat) 1) (r:=[]) f).1,(fA (a:=aY (y.map fun c=>c.2.1.toNat) 1) (r:=[]) f).2.1,(fA (a:=aY (y.map fun c=>c.2.1.toNat) 1) (r:=[]) f).2.2,KP.1,KP.2,a1,a3.2];exact⟨rfl,qd.2,rfl⟩
theorem Wf{b b1:List Nat}{f f1 n:Nat}{l:List (List Nat)}(h:RP (Nt n) (byW b) f l b1 f1):RP (Nv 3 n) (byT 3 b) f (l.map fun s=>(3,0,s)) b1 (orf f1 (if b1.length=0 then 0 else 32)):=by
 obtain⟨r1,r2,r3⟩:=h;refine⟨Pf r1,fun h=>?_,fun y r a1 a2 a3=>?_⟩
 ·obtain⟨h1,h2,h3⟩:=r2 (be h).1
  refine⟨h1,by rw[YD];exact h2,fun c hc=>?_⟩;obtain⟨s,hs,rfl⟩:=YS.1 hc;exact⟨Or.inr (Or.inr (Or.inr ⟨rfl,s,rfl,h3 s hs⟩)),by simp⟩
 ·have ho:=ux fun c hc=>(a2.2 c hc).2
  have qd:=jj fun c hc=>(a2.2 c hc).1
  rw[ho]at qd;obtain⟨d1,d2,d3⟩:=r3 (y.map fun c=>c.2.2) [] a1 ⟨by rw[YD];exact a2.1,qd.1⟩ ⟨by rw[a3.1,yd,ho],rfl⟩;rw[d2,d3,d1,a3.2];exact⟨rfl,qd.2,rfl⟩
def Gd(k n:Nat)(b:List Nat)(p f:Nat)(w:World)(r:Ending)(w':World):Prop :=
 ∃ l b' f',(∃ v,r=.returned v/\OwnV w' w.heap.size v l)/\Rs w' p b' f'/\RP (Nv k n) (byT k b) f l b' f'/\Fr p w.heap.size w w'
theorem Pg{w:World}{p f:Nat}{b:List Nat}(h:Rs w p b f)(hf:Er f)(n:Nat)(hn:n<=256) :
  Calls Tryz.prog 263 #[.pointer (some ⟨p,0,none⟩),.int .u8 1,.int .i64 (n:Int)] w (Gd 1 n b p f w):=by
 have ar:=h.lt;have HN:=ae (ly h n);have Fv:=ae (Wd h.bs hf hn);have Ln:=ae (nW h.bs hn);clear h;generalize (aS b n).1=L at *;generalize orf f (aS b n).2=f1 at *;have jD:=Ln.o.2;go_enter Tryz.func263,Tryz.ntmps263
 go_wp2_with fail;refine HN.o.mono ?_;rintro e w1 ⟨⟨v1,rfl,dI⟩,da,cB⟩;have gI:=ae da;have eB:=ae cB;have cG:=cB.size;have Qt:=ae (Sv.of_own dI);have KQ:jaH (∀ j,v1.ownBlock=some j->j<w1.heap.size):=ae (fun j hj=>(dI.lt j hj).2);obtain⟨a1,c1,rfl,jy,pV⟩:=aM dI;have hcm1':c1<=9223372036854775807:=by unfold maxLen at pV;omega
 clear da cB dI pV;go_wp2_with fail;go_loopw [7,21] (fun o i wr=>∃ j:Nat,j<=L.length/\i=.int .i64 (j:Int)/\OwnV wr w1.heap.size o ((L.take j).map (fun z=>((1,z,[]):Nat×Int×List Nat)))/\Below w1.heap.size w1 wr) (fun _ i _=>L.length-(intOf i).toNat)
 case atStart=>exact⟨0,by omega,rfl,OwnV.nil _ _,Yz _ _⟩
 case round =>
  obtain⟨j,hj,rfl,aw,ao⟩:=hrel;have HO:=ae aw;have HB:=ae ao;have bM:=ao.size;clear aw ao;by_cases td:j<L.length
  ·obtain⟨g,off,rfl,hg,bn⟩:=(Qt.o.keptB KQ.o HB.o).at1 (mw td)
   have hjl':(j:Int)<(L.length:Int):=(by omega)
   have jz:jaH ((L.take (j+1)).map (fun z=>((1,z,[]):Nat×Int×List Nat))=(L.take j).map (fun z=>((1,z,[]):Nat×Int×List Nat))++[(fun z=>((1,z,[]):Nat×Int×List Nat)) L[j]]):=ae (by
    rw[YP td,YX];rfl)
   have hlen':((L.take j).map (fun z=>((1,z,[]):Nat×Int×List Nat))).length<=100000:=by rw[YD,YH];omega
   generalize L[j]=z at *;generalize (L.take j).map (fun z=>((1,z,[]):Nat×Int×List Nat))=LL at *;go_wp2_with (first | (at_builtin;refine df rfl _ _ rfl w1.heap.size _ _ (1,z,[]) LL rfl (HO.o.kept (aj _ _)) rfl (aX _ _ _) hlen' ?c2 ?_))
   case c2=>first | omega | (rw[YB];omega)
   intro v' w5 o5 b5;have cQ:=ae o5;have aJ:=ae ((HB.o.alloc bM _).trans b5);clear o5 b5;go_wp2_with fail;go_roundw
   case rel=>exact⟨j+1,by omega,by go_num,by rw[jz.o];exact cQ.o,aJ.o⟩
   case measure=>simp[intOf];omega
  ·obtain rfl:j=L.length:=by omega
   rw[YK]at HO;have eO:¬ ((L.length:Nat):Int)<(L.length:Int):=(by omega);have Gw:=ae (gI.o.kept HB.o gI.o.lt);have lz:=ae (eB.o.trans (Fr.of_below (p:=p) (HB.o.mono cG)));generalize L.map (fun z=>((1,z,[]):Nat×Int×List Nat))=X at *;go_wp2_with fail;refine(ut Gw.o).mono ?_;rintro e w5 ⟨rfl,lD,gD⟩;have cQ:jaH (OwnV w5 w1.heap.size _ X):=ae (gD.own HO.o (by omega));have om:=ae lD;have Gx:=ae (lz.o.trans (gD.mono (by omega)));clear lD gD;go_wp2_with fail;go_ret
   exact⟨X,_,_,⟨_,rfl,bE cQ.o cG⟩,om.o,(by rw[show orf f1 (if ([]:List Nat).length=0 then 0 else 32)=f1 by unfold orf;split<;>simp_all];exact Fv.o),Gx.o⟩
theorem Ph{w:World}{p f:Nat}{b:List Nat}(h:Rs w p b f)(hf:Er f)(n:Nat)(hn:n<=256) :
  Calls Tryz.prog 263 #[.pointer (some ⟨p,0,none⟩),.int .u8 2,.int .i64 (n:Int)] w (Gd 2 n b p f w):=by
 have ar:=h.lt;have HN:=ae (rT h n hn);have Fv:=ae (We (b:=b) hf hn)
 have Ln:jaH ((∀ x∈unR (tkB (by8 n) b) n 1,x<2)/\(unR (tkB (by8 n) b) n 1).length<=n):=ae (by
  by_cases h0:unE (tkB (by8 n) b) n 1=0
  ·exact⟨(jS h0).2,Nat.le_of_eq (jS h0).1⟩
  ·rw[tM h0]
   exact⟨fun x hx=>by simp at hx,by simp⟩)
 clear h;generalize unR (tkB (by8 n) b) n 1=L at *;generalize orf (tkF (by8 n) b f) (unE (tkB (by8 n) b) n 1)=f1 at *;generalize tkR (by8 n) b=b1 at *;have jD:=Ln.o.2;go_enter Tryz.func263,Tryz.ntmps263
 go_wp2_with fail;refine HN.o.mono ?_;rintro e w1 ⟨⟨v1,rfl,dI⟩,da,cB⟩;have gI:=ae da;have eB:=ae cB;have cG:=cB.size;have Qt:=ae (Sv.of_own dI);have KQ:jaH (∀ j,v1.ownBlock=some j->j<w1.heap.size):=ae (fun j hj=>(dI.lt j hj).2);obtain⟨a1,c1,rfl,jy,pV⟩:=aM dI;have hcm1':c1<=9223372036854775807:=by unfold maxLen at pV;omega
 clear da cB dI pV;go_wp2_with fail;go_loopw [7,37] (fun o i wr=>∃ j:Nat,j<=L.length/\i=.int .i64 (j:Int)/\OwnV wr w1.heap.size o ((L.take j).map (fun(x:Nat)=>((2,(x:Int),[]):Nat×Int×List Nat)))/\Below w1.heap.size w1 wr) (fun _ i _=>L.length-(intOf i).toNat)
 case atStart=>exact⟨0,by omega,rfl,OwnV.nil _ _,Yz _ _⟩
 case round =>
  obtain⟨j,hj,rfl,aw,ao⟩:=hrel;have HO:=ae aw;have HB:=ae ao;have bM:=ao.size;clear aw ao;by_cases td:j<L.length
  ·obtain⟨g,off,rfl,hg,bn⟩:=(Qt.o.keptB KQ.o HB.o).at1 (bG td)
   have hjl':(j:Int)<(L.length:Int):=(by omega)
   have jz:jaH ((L.take (j+1)).map (fun(x:Nat)=>((2,(x:Int),[]):Nat×Int×List Nat))=(L.take j).map (fun(x:Nat)=>((2,(x:Int),[]):Nat×Int×List Nat))++[(fun(x:Nat)=>((2,(x:Int),[]):Nat×Int×List Nat)) L[j]]):=ae (by
    rw[YP td,YX];rfl)
   have hlen':((L.take j).map (fun(x:Nat)=>((2,(x:Int),[]):Nat×Int×List Nat))).length<=100000:=by rw[YD,YH];omega
   have Rh:=Ln.o.1 L[j] (YF td);generalize L[j]=x at *;generalize (L.take j).map (fun(x:Nat)=>((2,(x:Int),[]):Nat×Int×List Nat))=LL at *;obtain rfl | rfl:x=0∨x=1:=by omega
   ·skip
    go_wp2_with (first | (at_builtin;refine df rfl _ _ rfl w1.heap.size _ _ (2,((0:Nat):Int),[]) LL rfl (HO.o.kept (aj _ _)) rfl (aX _ _ _) hlen' ?c2 ?_))
    case c2=>first | omega | (rw[YB];omega)
    intro v' w5 o5 b5;have cQ:=ae o5;have aJ:=ae ((HB.o.alloc bM _).trans b5);clear o5 b5;go_wp2_with fail;go_roundw
    case rel=>exact⟨j+1,by omega,by go_num,by rw[jz.o];exact cQ.o,aJ.o⟩
    case measure=>simp[intOf];omega
   ·skip
    go_wp2_with (first | (at_builtin;refine df rfl _ _ rfl w1.heap.size _ _ (2,((1:Nat):Int),[]) LL rfl (HO.o.kept (aj _ _)) rfl (aX _ _ _) hlen' ?c2 ?_))
    case c2=>first | omega | (rw[YB];omega)
    intro v' w5 o5 b5;have cQ:=ae o5;have aJ:=ae ((HB.o.alloc bM _).trans b5);clear o5 b5;go_wp2_with fail;go_roundw
    case rel=>exact⟨j+1,by omega,by go_num,by rw[jz.o];exact cQ.o,aJ.o⟩
    case measure=>simp[intOf];omega
  ·obtain rfl:j=L.length:=by omega
   rw[YK]at HO;have eO:¬ ((L.length:Nat):Int)<(L.length:Int):=(by omega);have Gw:=ae (gI.o.kept HB.o gI.o.lt);have lz:=ae (eB.o.trans (Fr.of_below (p:=p) (HB.o.mono cG)));generalize L.map (fun(x:Nat)=>((2,(x:Int),[]):Nat×Int×List Nat))=X at *;go_wp2_with fail;refine(ut Gw.o).mono ?_;rintro e w5 ⟨rfl,lD,gD⟩;have cQ:jaH (OwnV w5 w1.heap.size _ X):=ae (gD.own HO.o (by omega));have om:=ae lD;have Gx:=ae (lz.o.trans (gD.mono (by omega)));clear lD gD;go_wp2_with fail;go_ret
   exact⟨X,_,_,⟨_,rfl,bE cQ.o cG⟩,om.o,Fv.o,Gx.o⟩
theorem Pi{w:World}{p f:Nat}{b:List Nat}(h:Rs w p b f)(hf:Er f)(n:Nat)(hn:n<=256) :
  Calls Tryz.prog 263 #[.pointer (some ⟨p,0,none⟩),.int .u8 3,.int .i64 (n:Int)] w (Gd 3 n b p f w):=by
 have ar:=h.lt;have HN:=ae (Eo h hf n hn);clear h;go_enter Tryz.func263,Tryz.ntmps263
 go_wp2_with fail;refine HN.o.mono ?_;rintro e w1 ⟨L,b1,f1,⟨v1,rfl,dI⟩,Cs,jD,da,KR,cB⟩;have Fv:=ae (Wf KR);clear Cs KR;have gI:=ae da;have eB:=ae cB;have cG:=cB.size;have Qt:=ae (Sv.of_own dI);have KQ:jaH (∀ j,v1.ownBlock=some j->j<w1.heap.size):=ae (fun j hj=>(dI.lt j hj).2);obtain⟨a1,c1,rfl,jy,pV⟩:=aM dI;have hcm1':c1<=9223372036854775807:=by unfold maxLen at pV;omega
 clear da cB dI pV;go_wp2_with fail;go_loopw [7,54] (fun o i wr=>∃ j:Nat,j<=L.length/\i=.int .i64 (j:Int)/\OwnV wr w1.heap.size o ((L.take j).map (fun s=>((3,0,s):Nat×Int×List Nat)))/\Below w1.heap.size w1 wr) (fun _ i _=>L.length-(intOf i).toNat)
 case atStart=>exact⟨0,by omega,rfl,OwnV.nil _ _,Yz _ _⟩
 case round =>
  obtain⟨j,hj,rfl,aw,ao⟩:=hrel;have HO:=ae aw;have HB:=ae ao;have bM:=ao.size;clear aw ao;by_cases td:j<L.length
  ·obtain⟨g,off,rfl,hg,bn⟩:=(Qt.o.keptB KQ.o HB.o).at1 (fI td)
   have hjl':(j:Int)<(L.length:Int):=(by omega)
   have jz:jaH ((L.take (j+1)).map (fun s=>((3,0,s):Nat×Int×List Nat))=(L.take j).map (fun s=>((3,0,s):Nat×Int×List Nat))++[(fun s=>((3,0,s):Nat×Int×List Nat)) L[j]]):=ae (by
    rw[YP td,YX];rfl)
   have hlen':((L.take j).map (fun s=>((3,0,s):Nat×Int×List Nat))).length<=100000:=by rw[YD,YH];omega
   rw[fD]at bn;generalize L[j]=s at *;generalize (L.take j).map (fun s=>((3,0,s):Nat×Int×List Nat))=LL at *;go_wp2_with (first | (at_builtin;refine df rfl _ _ rfl w1.heap.size _ _ (3,0,s) LL rfl (HO.o.kept (aj _ _)) rfl (aX _ _ _) hlen' ?c2 ?_))
   case c2=>first | omega | (rw[YB];omega)
   intro v' w5 o5 b5;have cQ:=ae o5;have aJ:=ae ((HB.o.alloc bM _).trans b5);clear o5 b5;go_wp2_with fail;go_roundw
   case rel=>exact⟨j+1,by omega,by go_num,by rw[jz.o];exact cQ.o,aJ.o⟩
   case measure=>simp[intOf];omega
  ·obtain rfl:j=L.length:=by omega
   rw[YK]at HO;have eO:¬ ((L.length:Nat):Int)<(L.length:Int):=(by omega);have Gw:=ae (gI.o.kept HB.o gI.o.lt);have lz:=ae (eB.o.trans (Fr.of_below (p:=p) (HB.o.mono cG)));generalize L.map (fun s=>((3,0,s):Nat×Int×List Nat))=X at *;go_wp2_with fail;refine(ut Gw.o).mono ?_;rintro e w5 ⟨rfl,lD,gD⟩;have cQ:jaH (OwnV w5 w1.heap.size _ X):=ae (gD.own HO.o (by omega));have om:=ae lD;have Gx:=ae (lz.o.trans (gD.mono (by omega)));clear lD gD;go_wp2_with fail;go_ret
   exact⟨X,_,_,⟨_,rfl,bE cQ.o cG⟩,om.o,Fv.o,Gx.o⟩
theorem gw:∀(t:List Nat) (s:List (Nat×Int×List Nat)),(fO t s).length=t.length
 | [],s=>rfl
 | x::t,s=>by
  unfold fO;split
  ·rw[YI,YI,gw t s]
  ·rw[YI,YI,gw t s.tail]
theorem qO:∀{t:List Nat} {s:List (Nat×Int×List Nat)} {j:Nat},(∀ x∈t,x<2)->(h:j<t.length)->(fO t s)[j]?=some (if t[j]=0 then nul else s.getD (t.take j).sum nul)
 | x::t,s,0,h2,h=>by
  unfold fO;by_cases hx:x=0
  ·simp[hx]
  ·cases s<;>simp[hx]
 | x::t,s,j+1,h2,h=>by
  have ht:∀ y∈t,y<2:=fun y hy=>h2 y (by simp[hy])
  unfold fO;by_cases hx:x=0
  ·have:=qO (s:=s) ht (show j<t.length by simpa using h)
   simp[hx,this]
  ·have Cz:x=1:=by have:=h2 x (by simp);omega
   have:=qO (s:=s.tail) ht (show j<t.length by simpa using h);rw[Yx hx,List.getElem?_cons_succ,this]
   have e:s.tail.getD (t.take j).sum nul=s.getD (1+(t.take j).sum) nul:=by
    cases s with
    | nil=>simp
    | cons c s=>simp[List.getD_eq_getElem?_getD,Nat.add_comm 1]
   simp only[e,Cz,List.getElem_cons_succ,jax,List.sum_cons]
theorem Eu{z:Value}{l:List Value}{i:Nat}(h:i<l.length)(he:l[i]=z):cI z l (i+1)=cI z l i:=by
 rw[← kH h,he]
 have hg:(cI z l i)[i]?=some z:=by
  unfold cI;rw[List.getElem?_append_right (by rw[YH];omega),YH,ZG (by omega),jai,List.getElem?_replicate,Yy (by omega)]
 apply List.ext_getElem?
 intro k;rw[List.getElem?_set];by_cases hk:i=k
 ·subst hk
  rw[Yy rfl,hg,Yy (by rw[gq (by omega)];exact h)]
 ·rw[Yx hk]
theorem Ev{w:World}{vt vs:Value}{t:List Nat}{s:List (Nat×Int×List Nat)}(ht:Sv w vt (az .u64 t))(h2:∀ x∈t,x<2)(hl:t.length<=256)(hs:Sv w vs (aC s))(mQ:s.length=t.sum)(hnz:∀ c∈s,c.1≠0) :
  Calls Tryz.prog 265 #[vt,vs] w fun e w'=>(∃ v',e=.returned v'/\OwnV w' w.heap.size v' (fO t s))/\Below w.heap.size w w':=by
 obtain⟨i0,hi,bN,hz1',bh⟩:=YW qi;have HT:=ae ht;have HS:=ae hs;have H2:=ae h2;have HNZ:=ae hnz;obtain⟨a,cap,rfl,aV,bw⟩:=ht.form1;obtain⟨a2,cap2,rfl,BZ,pR⟩:=hs.form1;rw[am]at *;rw[ax]at *;have hcm':cap<=9223372036854775807:=by unfold maxLen at bw;omega
 have hcm2':cap2<=9223372036854775807:=by unfold maxLen at pR;omega
 have Ub:=ae (pB h2);obtain⟨D,hD⟩:∃ D,fO t s=D:=⟨_,rfl⟩;have hDl:D.length=t.length:=by rw[← hD,gw]
 have QB:jaH (∀ k (h:k<t.length),(aC D)[k]?=some (cp (if t[k]=0 then nul else s.getD (t.take k).sum nul))):=ae (fun k h=>by
  have:=qO (s:=s) h2 h;rw[hD]at this;simp[aC,this])
 rw[hD];have ln:=ae hDl;have HSUM:=ae mQ;clear ht hs bw pR hD hDl h2 hnz;go_enter Tryz.func265,Tryz.ntmps265
 go_wp2_with (first | (refine ZJ _ rfl _ _ 79 rfl w.heap.size 78 i0 .nilIface 1 Tryz.underlying79 hi bN hz1' .i64 .i64 _ _ t.length rfl rfl ?m1 ?m2 ?m3 ?m4 ?m5 ?_))
 case m1=>rfl
 case m2=>rfl
 case m3=>rw[bh];omega
 case m4=>unfold maxLen;omega
 case m5=>omega
 intro w4 fC gH;have bm:Below w.heap.size w w4:=(Yz _ _).grown gH (YA _) (fun k hk=>by cases hk)
 have ho4':w4.ownsRow w.heap.size 78 1 (.slice (some ⟨w.heap.size,0,none⟩) t.length t.length) t.length (cI .nilIface (aC D) 0):=by
  rw[kY,ax,ln.o,← jal];simpa using fC
 have fU:=ae ho4';have cA:=ae bm;clear fC gH bm ho4';go_wp2_with fail;go_loopw [6,14] (fun o i wr=>∃ k:Nat,o=.int .i64 ((t.take k).sum:Int)/\i=.int .i64 (k:Int)/\k<=t.length/\wr.ownsRow w.heap.size 78 1 (.slice (some ⟨w.heap.size,0,none⟩) t.length t.length) t.length (cI .nilIface (aC D) k)/\Below w.heap.size w wr) (fun _ i _=>t.length-(intOf i).toNat)
 case atStart=>exact⟨0,rfl,rfl,by omega,fU.o,cA.o⟩
 case round =>
  obtain⟨k,rfl,rfl,hk,how,ao⟩:=hrel;have HB:=ae ao;have HO:=ae how;have bM:=ao.size;clear ao how;by_cases ar:k<t.length
  ·have hkD:k<(aC D).length:=by rw[ax,ln.o];exact ar
   have hval:(aC D)[k]=cp (if t[k]=0 then nul else s.getD (t.take k).sum nul):=by
    have:=QB.o k ar;rw[List.getElem?_eq_getElem hkD]at this;exact Option.some.inj this
   obtain⟨b,off,rfl,hb,ek⟩:=(HT.o.kept HB.o).at1 (bG ar);have Rh:=H2.o t[k] (YF ar);have sj:=ae (nj ar);have hlt':(k:Int)<(t.length:Int):=(by omega)
   have hsk:(t.take k).sum<=256:=by
    have:=pB (l:=t.take k) fun x hx=>H2.o x (ZA hx)
    rw[YH]at this;omega
   by_cases hx:t[k]=0
   ·rw[Yy hx]at hval
    have uV:=ae (Eu (z:=.nilIface) hkD hval);rw[hx]at ek sj;clear hval hx Rh;generalize (t.take k).sum=sm at *;go_wp2_with fail;go_roundw
    case rel=>exact⟨k+1,by rw[sj.o,ZL],by go_num,by omega,by rw[uV.o];exact HO.o,HB.o⟩
    case measure=>simp[intOf];omega
   ·have Cz:t[k]=1:=by omega
    rw[Yx hx]at hval
    have et:(t.take k).sum<s.length:=by
     have h1:(t.take (k+1)).sum<=t.sum:=by
      conv=>rhs;rw[← ZZ (k+1) t,List.sum_append]
      omega
     rw[sj.o,Cz]at h1;rw[HSUM.o];omega
    have dO:s.getD (t.take k).sum nul=s[(t.take k).sum]:=by rw[List.getD_eq_getElem?_getD,List.getElem?_eq_getElem et];rfl
    rw[dO]at hval;obtain⟨b2,off2,rfl,ay,Rn⟩:=(HS.o.kept HB.o).at1 (cd et);obtain⟨tt,uu,hvv⟩:=iP s[(t.take k).sum] (HNZ.o _ (YF et));rw[hvv]at Rn hval;rw[Cz]at ek sj;have ja:k<(cI .nilIface (aC D) k).length:=by rw[gq (by omega)];exact hkD
    have uV:=ae (kH (z:=.nilIface) hkD);rw[hval]at uV;have eo:=HO.o;have Ca:=(eo.cellAt k (by omega)).trans (List.getElem?_eq_getElem ja);have Cb:=eo.frozenAt k;have hST:=eo.stored k (.iface tt uu);rw[uV.o]at hST;have co:=ae hST;have Qf:=(eo.lt w.heap.size rfl).2;clear hST eo hval hvv dO hx Cz Rh;generalize (cI .nilIface (aC D) k)[k]=y at *;generalize (t.take k).sum=sm at *;have hsl':(sm:Int)<(s.length:Int):=(by omega);go_wp2_with fail;go_roundw
    case rel=>exact⟨k+1,by rw[sj.o];go_num,by go_num,by omega,co.o.1,cH HB.o (YA _) _⟩
    case measure=>simp[intOf];omega
  ·obtain rfl:k=t.length:=by omega
   have e:cI .nilIface (aC D) t.length=aC D:=by
    have:=mB .nilIface (aC D);rwa[ax,ln.o]at this
   rw[e]at HO
   have HO':jaH (OwnV wr w.heap.size (.slice (some ⟨w.heap.size,0,none⟩) t.length t.length) D):=ae (by
    unfold OwnV;rw[ln.o];exact HO.o)
   have eO:¬ ((t.length:Nat):Int)<(t.length:Int):=(by omega);clear HO e;go_wp2_with fail;go_ret
   exact⟨⟨_,rfl,HO'.o⟩,HB.o⟩
def pC(n k:Nat):List Nat:=(le4 n).take k++List.replicate (4-k) 0
theorem JM(n:Nat){k:Nat}(h:k<=4):(pC n k).length=4:=by
 unfold pC;simp[le4]
 omega
theorem JN(n:Nat){k:Nat}(h:k<4):(pC n k).set k (n / 2 ^ (8*k) % 256)=pC n (k+1):=by
 have hk:k=0∨k=1∨k=2∨k=3:=by omega
 rcases hk with rfl | rfl | rfl | rfl<;>simp[pC,le4]
theorem JO(n:Nat)(hn:n<9223372036854775808)(w:World):Calls Tryz.prog 85 #[.int .i64 (n:Int)] w (dJ w (le4 n)):=by
 obtain⟨i0,hi,bN,hz1',bh⟩:=YW lF;go_enter Tryz.func85,Tryz.ntmps85
 go_wp2_with (first | (refine ZJ _ rfl _ _ 30 rfl w.heap.size 5 i0 (.int .u8 0) 1 Tryz.underlying30 hi bN hz1' .i64 .i64 _ _ 4 rfl rfl ?m1 ?m2 ?m3 ?m4 ?m5 ?_))
 case m1=>rfl
 case m2=>rfl
 case m3=>rw[bh];omega
 case m4=>unfold maxLen;omega
 case m5=>omega
 intro w4 fC gH;have bm:Below w.heap.size w w4:=(Yz _ _).grown gH (YA _) (fun k hk=>by cases hk)
 have fU:jaH (aG w4 w.heap.size (.slice (some ⟨w.heap.size,0,none⟩) 4 4) (pC n 0)):=ae (by
  unfold aG;have h9:=fC;rw[iV]at h9;exact h9)
 have cA:=ae bm;clear fC gH bm;go_wp2_with fail;go_loopw [8] (fun i wr=>∃ k:Nat,k<=4/\i=.int .i64 (k:Int)/\aG wr w.heap.size (.slice (some ⟨w.heap.size,0,none⟩) 4 4) (pC n k)/\Below w.heap.size w wr) (fun i _=>4-(intOf i).toNat)
 case atStart=>exact⟨0,by omega,rfl,fU.o,cA.o⟩
 case round =>
  obtain⟨k,hk,rfl,aw,ao⟩:=hrel;have HO:=ae aw;have HB:=ae ao;have bM:=ao.size;clear aw ao;by_cases ar:k<4
  ·have hlt':(k:Int)<4:=by omega
   have bg:(pC n k).length=4:=JM n hk;obtain⟨hc,hf⟩:=HO.o.at (j:=k) (by omega);have co:=ae (HO.o.stored k (n / 2 ^ (8*k) % 256));have uV:=ae (JN n ar);rw[uV.o]at co;have xv:((n / 2 ^ (8*k) % 256:Nat):Int)=(n:Int) / 2 ^ (8*k) % 256:=by simp
   rw[xv]at co;clear uV xv;go_wp2_with fail;go_roundw
   case rel=>exact⟨k+1,by omega,by go_num,co.o,cH HB.o (YA _) _⟩
   case measure=>simp[intOf];omega
  ·obtain rfl:k=4:=by omega
   have eO:¬ ((4:Nat):Int)<4:=(by omega);go_wp2_with fail;go_ret
   refine⟨⟨_,rfl,?_⟩,HB.o⟩;simpa [pC,le4]using HO.o
end Go.Proofs.YtpljdjmpamjkhaaGreatDoor
