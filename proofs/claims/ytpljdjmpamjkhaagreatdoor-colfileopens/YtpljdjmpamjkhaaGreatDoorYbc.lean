import Derived.Test.YtpljdjmpamjkhaaGreatDoorYbb
set_option linter.unusedVariables false
set_option linter.unusedSimpArgs false
set_option maxRecDepth 100000
set_option maxHeartbeats 4000000
namespace Go.Proofs.YtpljdjmpamjkhaaGreatDoor
open Go.Lib
def Er(f:Nat):Prop:=f=0∨f=30∨f=31∨f=32∨f=40∨f=50
theorem Er.orf{f e:Nat}(h:Er f)(h2:Er e):Er (orf f e):=by
 unfold YtpljdjmpamjkhaaGreatDoor.orf;split
 ·exact h2
 ·exact h
theorem bD{f e:Nat}(h:orf f e=0):f=0/\e=0:=by
 unfold orf at h;split at h
 ·next h1=>exact⟨h1,h⟩
 ·next h1=>exact absurd h h1
def Es{α : Type}(d:List Nat->Except Nat (α×List Nat)):Prop:=∀ b e,d b=.error e->Er e
theorem Es.bind{α β : Type}{d:List Nat->Except Nat (α×List Nat)}{f:α->List Nat->Except Nat (β×List Nat)}(h1:Es d)(h2:∀ x,Es (f x)):Es (aA d f):=by
 intro b e h;unfold aA at h;split at h
 ·next x r _=>exact h2 x r e h
 ·next e' he =>
  cases h
  exact h1 b _ he
theorem Es.ok{α : Type}{x:List Nat->α×List Nat}:Es (fun r=>(.ok (x r):Except Nat (α×List Nat))):=fun b e h=>by cases h
theorem Es.err{α : Type}{e:Nat}(h:Er e):Es (fun _=>(.error e:Except Nat (α×List Nat))):=fun b e' h'=>by cases h';exact h
theorem Es.ite{α : Type}{c:Prop}[Decidable c]{d1 d2:List Nat->Except Nat (α×List Nat)}(h1:Es d1)(h2:¬ c->Es d2):Es (if c then d1 else d2):=by
 split
 ·exact h1
 ·next h=>exact h2 h
theorem DC(b:List Nat):Er (gt b).2.2:=by
 obtain⟨_,_,_,h | ⟨h | h,_⟩⟩:=fQ b
 ·exact Or.inl h
 ·exact Or.inr (Or.inl h)
 ·exact Or.inr (Or.inr (Or.inl h))
theorem DD:Es wh:=fun b e h=>by
 unfold wh at h;split at h
 ·cases h
 ·cases h
  exact DC b
theorem AP:Es num:=fun b e h=>by
 unfold num at h;split at h
 ·cases h
 ·cases h
  exact DC b
theorem Gt{b:List Nat}{n w:Nat}(hn:n<=256)(hw:w<=64):Er (unE b n w):=by
 unfold unE;rw[if_pos (by omega)];split
 ·exact Or.inl rfl
 ·exact Or.inr (Or.inr (Or.inr (Or.inr (Or.inl rfl))))
theorem Qm{n w:Nat}(hn:n<=256)(hw:w<=64):Es (pkd n w):=fun b e h=>by
 unfold pkd at h;split at h
 ·cases h
  exact Or.inr (Or.inl rfl)
 ·split at h
  ·cases h
   exact Or.inr (Or.inr (Or.inr (Or.inl rfl)))
  ·split at h
   ·cases h
   ·cases h
    exact Gt hn hw
theorem ub:Er 40:=Or.inr (Or.inr (Or.inr (Or.inr (Or.inl rfl))))
theorem er32:Er 32:=Or.inr (Or.inr (Or.inr (Or.inl rfl)))
theorem TZ:Er 30:=Or.inr (Or.inl rfl)
theorem er50:Er 50:=Or.inr (Or.inr (Or.inr (Or.inr (Or.inr rfl))))
theorem er0:Er 0:=Or.inl rfl
theorem Qn:∀ n,Es (rd0 n)
 | 0=>fun b e h=>by cases h
 | n+1=>by
  have:=(DD).bind (f:=fun x=>aA (rd0 n) (fun l r=>.ok (x::l,r))) (fun x=>(Qn n).bind (fun l=>Es.ok));exact this
theorem Qo:∀ n last,Es (rd1 n last)
 | 0,_=>fun b e h=>by cases h
 | n+1,last=>by
  have:=(DD).bind (f:=fun d=>aA (rd1 n (w64 (last+d))) (fun l r=>.ok (w64 (last+d)::l,r))) (fun d=>(Qo n _).bind (fun l=>Es.ok));exact this
theorem Qp:∀ f n,Es (rd2 f n)
 | 0,_=>fun b e h=>by cases h
 | f+1,n=>fun b e h=>by
  unfold rd2 at h;split at h
  ·cases h
  ·exact(DD.bind (fun x=>AP.bind (fun k=>Es.ite (Es.err ub) (fun _=>(Qp f (n-k)).bind (fun l=>Es.ok))))) b e h
theorem Qq:∀ m last,Es (rdU m last)
 | 0,_=>fun b e h=>by cases h
 | m+1,last=>fun b e h=>by
  unfold rdU at h;exact(AP.bind (fun d=>Es.ite (Es.err ub) (fun _=>(Qq m _).bind (fun l=>Es.ok)))) b e h
theorem Xe{n:Nat}(hn:n<=256):Es (rd3 n):=fun b e h=>by
 unfold rd3 at h;refine(AP.bind (fun many=>Es.ite (Es.err ub) (fun hm=>Es.ite Es.ok (fun h0=>DD.bind (fun x=>(Qq _ x).bind (fun u=>(Qm hn ?_).bind (fun p r e he=>?_))))))) b e h
 ·rw[eI]
  have:many-1<2 ^ 64:=by
   have:(2:Nat) ^ 64=18446744073709551616:=by decide
   omega
  exact this
 ·unfold picked at he
  split at he
  ·cases he
  ·cases he
   exact ub
theorem Xf{n:Nat}(hn:n<=256):Es (rd4 n):=fun b e h=>by
 unfold rd4 at h;split at h
 ·cases h
 ·exact(DD.bind (fun x=>AP.bind (fun w=>Es.ite (Es.err ub) (fun hw=>(Qm hn (by omega)).bind (fun p=>Es.ok))))) b e h
theorem Xg{c n:Nat}(hn:n<=256):Es (rdC c n):=by
 unfold rdC;split
 ·exact Qn n
 ·exact Qo n 0
 ·exact Qp n n
 ·exact Xe hn
 ·exact Xf hn
theorem qU{b:List Nat}{n:Nat}(hn:n<=256):Er (bn b n).2:=by
 unfold bn;rw[if_pos (by omega)];split
 ·exact TZ
 ·next c t =>
  split
  ·exact er50
  ·split
   ·exact er0
   ·next e he =>
    unfold mJ at he;split at he
    ·next e' he' =>
     cases he
     exact Xg (by omega) _ _ he'
    ·split at he
     ·split at he
      ·cases he
      ·cases he
       exact ub
     ·cases he
      exact er32
theorem pS{b:List Nat}{n:Nat}(hb:Bs b)(hn:n<=256):Is (bn b n).1/\(bn b n).1.length<=n:=by
 by_cases h:(bn b n).2=0
 ·obtain⟨h1,h2⟩:=iT hb h
  exact⟨h2,by omega⟩
 ·have:(bn b n).1=[]:=by
   unfold bn at h ⊢;rw[if_pos (by omega)]at h ⊢;split
   ·rfl
   ·next c t =>
    split
    ·rfl
    ·next h4 =>
     simp only[if_neg h4]at h;split
     ·next l hl =>
      rw[hl]at h;exact absurd rfl h
     ·rfl
  rw[this];exact⟨fun x hx=>by simp at hx,by simp⟩
def RP{α : Type}(Ok:α->Prop)(G:α->List Nat->Prop)(f:Nat)(x:α)(b':List Nat)(f':Nat):Prop :=
 Er f'/\(f'=0->f=0/\Ok x)/\∀ y r,f=0->Ok y->G y r->f'=0/\x=y/\b'=r
def Ni(n:Nat)(l:List Int):Prop:=l.length=n/\Is l
def Nt(n:Nat)(l:List (List Nat)):Prop:=l.length=n/\Ts l
theorem gA{a r:List Nat}(f:Nat):tkB a.length (a++r)=a/\tkR a.length (a++r)=r/\tkF a.length (a++r) f=f:=by
 have h:¬ (a++r).length<a.length:=by rw[ZT];omega
 refine⟨?_,?_,?_⟩
 ·unfold tkB;rw[if_neg h,jaF]
 ·unfold tkR;rw[if_neg h,jas]
 ·unfold tkF;rw[if_neg h]
theorem AQ{c:Nat}{b:List Nat}{f:Nat}(h:Er f):Er (tkF c b f):=by
 unfold tkF;split
 ·exact h.orf TZ
 ·exact h
theorem qV{c:Nat}{b:List Nat}{f:Nat}(h:tkF c b f=0):f=0/\¬ b.length<c:=by
 unfold tkF at h;split at h
 ·have:=(bD h).2
  omega
 ·next h1=>exact⟨h,h1⟩
theorem Gu{b:List Nat}{f n:Nat}(hb:Bs b)(hn:n<=256)(hf:Er f) :
  RP (Ni n) (fun l r=>b=cnt l++r) f (bn (tkB (gt b).1 (b.drop (gt b).2.1)) n).1 (tkR (gt b).1 (b.drop (gt b).2.1)) (orf (tkF (gt b).1 (b.drop (gt b).2.1) (orf f (gt b).2.2)) (bn (tkB (gt b).1 (b.drop (gt b).2.1)) n).2):=by
 refine⟨(AQ (hf.orf (DC b))).orf (qU hn),fun h=>?_,fun l r h0 hl hg=>?_⟩
 ·obtain⟨h1,h2⟩:=bD h
  obtain⟨h3,h4⟩:=iT (sK (hb.drop _)) h2;exact⟨(bD (qV h1).1).1,by omega,h4⟩
 ·obtain⟨VM,Bo⟩:=hl
  have hs:=(jR Bo (by omega)).1
  have uF:gt b=((cN l).length,(uv (cN l).length).length,0):=by
   rw[hg];unfold cnt;rw[Z4];exact mh _ (by omega) _
  have hd:b.drop (uv (cN l).length).length=cN l++r:=by
   rw[hg];unfold cnt;rw[Z4,jas]
  have MA:=jQ Bo (by omega);rw[VM]at MA;rw[uF];simp only;rw[hd,(gA (a:=cN l) (r:=r) 0).1,(gA (a:=cN l) (r:=r) 0).2.1,(gA (a:=cN l) (r:=r) (orf f 0)).2.2,MA,h0];exact⟨rfl,rfl,rfl⟩
open Go.RowKit
theorem Sv.keptFr{W W':World}{p B:Nat}{v:Value}{xs:List Value}(h:Sv W v xs)(hv:∀ k,v.ownBlock=some k->k<B/\k≠p)(hf:Fr p B W W'):Sv W' v xs:=by
 obtain⟨a,cap,rfl,h1,h2,h3,h4⟩:=h;refine⟨a,cap,rfl,h1,h2,h3,fun h0=>?_⟩;obtain⟨b,off,rfl,h5,h6⟩:=h4 h0;have hb:=hv b rfl;exact⟨b,off,rfl,Z9 h5 hf.size,fun j x hj=>(World.cell?_of_block (w:=W) (a:=⟨b,off+j,none⟩) (hf.block b hb.1 hb.2)).trans (h6 j x hj)⟩
def LI(sz:List Int)(b1:List Nat)(f1 j:Nat)(l:List (List Nat))(bj:List Nat)(fj:Nat):Prop :=
 l.length=j/\Ts l/\Er fj/\(fj=0->f1=0)/\∀ y r,f1=0->Ts y->dY y=sz->b1=y.flatten++r->fj=0/\l=y.take j/\bj=(y.drop j).flatten++r
theorem LI.start{sz:List Int}{b1:List Nat}{f1:Nat}(hf:Er f1):LI sz b1 f1 0 [] b1 f1 :=
 ⟨rfl,fun s hs=>by simp at hs,hf,fun h=>h,fun y r h1 _ _ h4=>⟨h1,by simp,by simpa using h4⟩⟩
theorem T0{c:Nat}{b:List Nat}:(tkB c b).length<=c:=by
 unfold tkB;split
 ·simp
 ·rw[ZX];omega
theorem LI.step{sz:List Int}{b1:List Nat}{f1 j:Nat}{l:List (List Nat)}{bj:List Nat}{fj:Nat}(h:LI sz b1 f1 j l bj fj)(hb:Bs bj)(hj:j<sz.length)(h0:0<=sz[j])(kC:sz[j]<=64) :
  LI sz b1 f1 (j+1) (l++[tkB sz[j].toNat bj]) (tkR sz[j].toNat bj) (tkF sz[j].toNat bj fj):=by
 obtain⟨h1,h2,h3,h4,h5⟩:=h;have hl:=T0 (c:=sz[j].toNat) (b:=bj);refine⟨by simp[h1],fun s hs=>?_,AQ h3,fun h=>h4 (qV h).1,fun y r a1 a2 a3 a4=>?_⟩
 ·rcases jaj.1 hs with hs | hs
  ·exact h2 s hs
  ·have:s=tkB sz[j].toNat bj:=by simpa using hs
   subst this;exact⟨by omega,sK hb⟩
 ·obtain⟨c1,c2,c3⟩:=h5 y r a1 a2 a3 a4
  have hy:j<y.length:=by rw[← a3,bG]at hj;exact hj
  have hz:sz[j]=(y[j].length:Int):=by
   have:(dY y)[j]?=some (y[j].length:Int):=by simp[dY,hy]
   rw[a3,List.getElem?_eq_getElem hj]at this;exact Option.some.inj this
  have hd:y.drop j=y[j]::y.drop (j+1):=jar hy;rw[hd,ja3,Z4]at c3;rw[hz,jah,c3,(gA (a:=y[j]) fj).1,(gA (a:=y[j]) fj).2.1,(gA (a:=y[j]) fj).2.2,c2,Z5 hy];exact⟨c1,rfl,rfl⟩
theorem LI.bad{sz:List Int}{b b1 bz:List Nat}{f f1 j n:Nat}{l:List (List Nat)}{bj:List Nat}{fj:Nat}(hc:RP (Ni n) (fun l r=>b=cnt l++r) f sz b1 f1)(h:LI sz b1 f1 j l bj fj)(hj:j<sz.length)(hw:sz[j]<0∨64<sz[j]) :
  RP (Nt n) (fun l r=>b=fx l++r) f [] bz (orf fj 40):=by
 obtain⟨h1,h2,h3,h4,h5⟩:=h;refine⟨h3.orf ub,fun h=>absurd (bD h).2 (by omega),fun y r a1 a2 a3=>?_⟩;obtain⟨d1,d2,d3⟩:=hc.2.2 (dY y) (y.flatten++r) a1 ⟨by rw[bG];exact a2.1,gQ a2.2⟩ (by rw[a3];unfold fx;rw[Z4]);have hy:j<y.length:=by rw[d2,bG]at hj;exact hj
 have hz:sz[j]=(y[j].length:Int):=by
  have:(dY y)[j]?=some (y[j].length:Int):=by simp[dY,hy]
  rw[← d2,List.getElem?_eq_getElem hj]at this;exact Option.some.inj this
 have:=(a2.2 _ (ZV hy)).1;omega
theorem LI.done{sz:List Int}{b b1:List Nat}{f f1 n:Nat}{l:List (List Nat)}{bj:List Nat}{fj:Nat}(hc:RP (Ni n) (fun l r=>b=cnt l++r) f sz b1 f1)(h:LI sz b1 f1 sz.length l bj fj) :
  RP (Nt n) (fun l r=>b=fx l++r) f l bj fj:=by
 obtain⟨h1,h2,h3,h4,h5⟩:=h;refine⟨h3,fun h=>?_,fun y r a1 a2 a3=>?_⟩
 ·obtain⟨e1,e2⟩:=hc.2.1 (h4 h)
  exact⟨e1,by rw[h1];exact e2.1,h2⟩
 ·obtain⟨d1,d2,d3⟩:=hc.2.2 (dY y) (y.flatten++r) a1 ⟨by rw[bG];exact a2.1,gQ a2.2⟩ (by rw[a3];unfold fx;rw[Z4])
  obtain⟨c1,c2,c3⟩:=h5 y r d1 a2.2 d2.symm d3;have ya:sz.length=y.length:=by rw[d2,bG]
  rw[ya]at c2 c3;rw[ZY]at c2;rw[jaE]at c3;exact⟨c1,c2,by simpa using c3⟩
def Qr(n:Nat)(G:List (List Nat)->List Nat->Prop)(p f:Nat)(w:World)(r:Ending)(w':World):Prop :=
 ∃ l b' f',(∃ v,r=.returned v/\eD w' w.heap.size v l)/\Ts l/\l.length<=n/\Rs w' p b' f'/\RP (Nt n) G f l b' f'/\Fr p w.heap.size w w'
theorem DE{w:World}{p f:Nat}{b:List Nat}(h:Rs w p b f)(hf:Er f)(n:Nat)(hn:n<=256) :
  Calls Tryz.prog 298 #[.pointer (some ⟨p,0,none⟩),.int .i64 (n:Int)] w (Qr n (fun l r=>b=fx l++r) p f w):=by
 have aB:=h.lt;have mP:=ae (pR h n);have Jc:=ae (Gu h.bs hn hf);have Kc:=ae (pS (sK (c:=(gt b).1) (h.bs.drop (gt b).2.1)) hn);clear h;generalize (bn (tkB (gt b).1 (b.drop (gt b).2.1)) n).1=sz at *;generalize (orf (tkF (gt b).1 (b.drop (gt b).2.1) (orf f (gt b).2.2)) (bn (tkB (gt b).1 (b.drop (gt b).2.1)) n).2)=f1 at *;generalize tkR (gt b).1 (b.drop (gt b).2.1)=b1 at *;have hszl:=Kc.out.2;go_enter Tryz.func298,Tryz.ntmps298
 go_wp2_with fail;refine mP.out.mono ?_;rintro e w1 ⟨⟨v1,rfl,eG⟩,eg,dt⟩;have iM:=ae eg;have gd:=ae dt;have cW:=dt.size;have Mt:=ae eG.sv
 have xA:Hid (∀ k,v1.ownBlock=some k->k<w1.heap.size/\k≠p):=ae (fun k hk=>by
  have:=eG.lt k hk;exact⟨this.2,by omega⟩)
 obtain⟨a1,c1,rfl,lp,xp⟩:=aM eG;have hcm1':c1<=9223372036854775807:=by unfold maxLen at xp;omega
 clear eg dt eG xp;go_wp2_with fail;go_loopw [5,12] (fun o i wr=>∃(j:Nat) (l:List (List Nat)) (bj:List Nat) (fj:Nat),j<=sz.length/\i=.int .i64 (j:Int)/\eD wr w1.heap.size o l/\LI sz b1 f1 j l bj fj/\Rs wr p bj fj/\Fr p w1.heap.size w1 wr) (fun _ i _=>sz.length-(intOf i).toNat)
 case atStart=>exact⟨0,[],b1,f1,by omega,rfl,eD.nil _ _,LI.start Jc.out.1,iM.out,Fr.refl _ _ _⟩
 case round =>
  obtain⟨j,l,bj,fj,hj,rfl,az,hli,hsj,hfj⟩:=hrel;have HO:=ae az;have ry:=ae hli;have Zx:=ae hsj;have HFJ:=ae hfj;have bO:=hfj.size;have zQ:l.length=j:=hli.1;clear az hli hsj hfj;by_cases rF:j<sz.length
  ·obtain⟨g,off,rfl,hg,bo⟩:=(Mt.out.keptFr xA.out HFJ.out).at rF
   have cP:=ae (ry.out.step Zx.out.bs rF);have sW:=ae (fun bz hw=>ry.out.bad (bz:=bz) Jc.out rF hw);have hjl':(j:Int)<(sz.length:Int):=by omega
   generalize sz[j]=z at *;by_cases ce:z<0
   ·go_wp2_with fail
    refine(cB Zx.out 40).mono ?_;rintro e w3 ⟨rfl,kX,ix⟩;have m7:=ae kX;have p7:=ae (gd.out.trans ((HFJ.out.trans (ix.mono bO)).mono cW));clear kX ix;go_wp2_with fail;go_ret
    exact⟨[],_,_,⟨_,rfl,eD.nil _ _⟩,fun s hs=>by simp at hs,by simp,m7.out,sW.out _ (Or.inl ce),p7.out⟩
   ·by_cases hz64:z > 64
    ·go_wp2_with fail
     refine(cB Zx.out 40).mono ?_;rintro e w3 ⟨rfl,kX,ix⟩;have m7:=ae kX;have p7:=ae (gd.out.trans ((HFJ.out.trans (ix.mono bO)).mono cW));clear kX ix;go_wp2_with fail;go_ret
     exact⟨[],_,_,⟨_,rfl,eD.nil _ _⟩,fun s hs=>by simp at hs,by simp,m7.out,sW.out _ (Or.inr (by omega)),p7.out⟩
    ·obtain⟨zn,rfl⟩:∃ zn:Nat,z=(zn:Int):=⟨z.toNat,by omega⟩
     have HST':=ae (cP.out (by omega) (by omega));rw[jah]at HST';have ru:=ae (ot Zx.out zn (by omega));have Bz:=ae (sK (c:=zn) Zx.out.bs);clear cP sW;generalize tkB zn bj=tb at *;generalize tkR zn bj=tr at *;generalize tkF zn bj fj=tf at *;go_wp2_with fail;refine ru.out.mono ?_;rintro e w3 ⟨⟨v3,rfl,hv3⟩,kX,ix⟩;have uk:=hv3.conv Bz.out;have m7:=ae kX;have p7:=ae (HFJ.out.trans (ix.mono bO));have iB:=ix.size;have cX:Hid (eD w3 w1.heap.size _ l):=ae (ix.own HO.out (by omega));clear kX ix hv3;unfold txt at uk;have hlen':l.length<=100000:=by omega
     go_wp2_with (first | (at_builtin;refine bW rfl _ _ rfl w1.heap.size _ _ tb l rfl (cX.out.kept (ak _ _)) rfl (aK _ _ _) hlen' ?c2 ?_))
     case c2=>first | omega | (rw[ZS];omega)
     intro v' w4 o4 b4;have eP:=ae o4;have bv:=((ak w3 (.cells #[txt tb] 9)).mono (show w1.heap.size<=w3.heap.size by omega)).trans b4;have um:=ae (m7.out.kept bv (by omega));have xx:=ae (p7.out.then bv);clear o4 b4 bv;go_wp2_with fail;go_roundw
     case rel=>exact⟨j+1,l++[tb],tr,tf,by omega,by go_num,eP.out,HST'.out,um.out,xx.out⟩
     case measure=>simp[intOf];omega
  ·have:j=sz.length:=by omega
   subst this;have HDN:=ae (ry.out.done Jc.out);have rx:=ae ry.out.2.1;have gJ:¬ ((sz.length:Nat):Int)<(sz.length:Int):=by omega
   have Ho:=ae (gd.out.trans (HFJ.out.mono cW));go_wp2_with fail;go_ret
   exact⟨l,bj,fj,⟨_,rfl,aZ HO.out cW⟩,rx.out,by omega,Zx.out,HDN.out,Ho.out⟩
def byP(b:List Nat)(l:List (List Nat))(r:List Nat):Prop:=b=uv (tuq l).length++(fx (tuq l)++cN (cI l))/\r=[]
theorem DF{b r:List Nat}{y:List (List Nat)}{n:Nat}(hn:n<=256)(hy:Nt n y)(hg:byP b y r):gt b=((tuq y).length,(uv (tuq y).length).length,0)/\b.drop (uv (tuq y).length).length=fx (tuq y)++cN (cI y)/\(tuq y).length<=n:=by
 have hl:=fE y;have h1:=hy.1;refine⟨?_,?_,by omega⟩
 ·rw[hg.1]
  exact mh _ (by omega) _
 ·rw[hg.1,jas]
theorem Qs{b bz:List Nat}{f n:Nat}(hn:n<=256)(hf:Er f)(h:n<(gt b).1):RP (Nt n) (byP b) f [] bz (orf (orf f (gt b).2.2) 40):=by
 refine⟨(hf.orf (DC b)).orf ub,fun h=>absurd (bD h).2 (by omega),fun y r a1 a2 a3=>?_⟩;obtain⟨h1,h2,h3⟩:=DF hn a2 a3;rw[h1]at h;exact absurd h (by simp only;omega)
theorem DG{b:List Nat}{f n:Nat}{u:List (List Nat)}{b2:List Nat}{f2:Nat}(hn:n<=256)(hc:RP (Nt (gt b).1) (fun l r=>b.drop (gt b).2.1=fx l++r) (orf f (gt b).2.2) u b2 f2){y:List (List Nat)}{r:List Nat}(h0:f=0)(hy:Nt n y)(hg:byP b y r) :
  f2=0/\u=tuq y/\bn b2 n=(cI y,0):=by
 obtain⟨h1,h2,h3⟩:=DF hn hy hg;rw[h1]at hc;simp only at hc;rw[h2,h0]at hc;obtain⟨d1,d2,d3⟩:=hc.2.2 (tuq y) (cN (cI y)) rfl ⟨rfl,li hy.2⟩ rfl;have hb:=jQ (dZ (l:=y) (by have:=hy.1;omega)) (by rw[bU];have:=hy.1;omega);rw[bU,hy.1]at hb;exact⟨d1,d2,by rw[d3];exact hb⟩
theorem T1{b bz:List Nat}{f n j:Nat}{u:List (List Nat)}{b2:List Nat}{f2:Nat}(hn:n<=256)(hc:RP (Nt (gt b).1) (fun l r=>b.drop (gt b).2.1=fx l++r) (orf f (gt b).2.2) u b2 f2)
  (hj:j<(bn b2 n).1.length) (hw:(bn b2 n).1[j]<0∨(u.length:Int)<=(bn b2 n).1[j]):RP (Nt n) (byP b) f [] bz (orf (orf f2 (bn b2 n).2) 40):=by
 refine⟨(hc.1.orf (qU hn)).orf ub,fun h=>absurd (bD h).2 (by omega),fun y r a1 a2 a3=>?_⟩;obtain⟨h1,h2,h3⟩:=DG hn hc a1 a2 a3
 have hm:∀ q∈(bn b2 n).1,q∈cI y:=fun q hq=>by
  rw[h3]at hq;exact hq
 have:=pB _ (hm _ (ZV hj));rw[← h2]at this;omega
theorem Qt{b:List Nat}{f n:Nat}{u:List (List Nat)}{b2:List Nat}{f2:Nat}(hn:n<=256)(aD:Bs b2)(hu:Ts u)(hc:RP (Nt (gt b).1) (fun l r=>b.drop (gt b).2.1=fx l++r) (orf f (gt b).2.2) u b2 f2)
  (cU:∀ q∈(bn b2 n).1,0<=q/\q<(u.length:Int)):RP (Nt n) (byP b) f ((bn b2 n).1.map fun q=>u.getD q.toNat []) [] (orf f2 (bn b2 n).2):=by
 refine⟨hc.1.orf (qU hn),fun h=>?_,fun y r a1 a2 a3=>?_⟩
 ·obtain⟨h1,h2⟩:=bD h
  obtain⟨h3,h4⟩:=hc.2.1 h1;obtain⟨h5,h6⟩:=iT aD h2;refine⟨(bD h3).1,by rw[ZU];omega,fun s hs=>?_⟩;obtain⟨q,hq,rfl⟩:=jaa.1 hs;have mS:=cU q hq;have aB:q.toNat<u.length:=by omega
  rw[List.getD_eq_getElem?_getD,List.getElem?_eq_getElem aB];exact hu _ (ZV aB)
 ·obtain⟨h1,h2,h3⟩:=DG hn hc a1 a2 a3
  rw[h3,h1,h2];exact⟨rfl,qq y,a3.2.symm⟩
theorem T4{u:List (List Nat)}(hu:Ts u)(q:Nat):(u.getD q []).length<=64/\Bs (u.getD q []):=by
 rcases jae q u.length with h | h
 ·rw[List.getD_eq_getElem?_getD,List.getElem?_eq_getElem h]
  exact hu _ (ZV h)
 ·rw[List.getD_eq_getElem?_getD,List.getElem?_eq_none h]
  exact⟨by simp,fun x hx=>by simp at hx⟩
theorem qW{w:World}{p f:Nat}{b:List Nat}(h:Rs w p b f)(hf:Er f)(n:Nat)(hn:n<=256) :
  Calls Tryz.prog 297 #[.pointer (some ⟨p,0,none⟩),.int .i64 (n:Int)] w (Qr n (byP b) p f w):=by
 have aB:=h.lt;have HN:=ae (tC h);have g1:=(fQ b).1;have HMANY:=ae (fun bz h=>Qs (b:=b) (bz:=bz) (f:=f) hn hf h);have sW:=ae (fun bz j u b2 f2 hc hj hw=>T1 (b:=b) (bz:=bz) (f:=f) (j:=j) (u:=u) (b2:=b2) (f2:=f2) hn hc hj hw);have VZ:=ae (fun u b2 f2 aD hu hc cU=>Qt (b:=b) (f:=f) (u:=u) (b2:=b2) (f2:=f2) hn aD hu hc cU);have VW:=ae (hf.orf (DC b));clear h;generalize (gt b).1=c at *;generalize b.drop (gt b).2.1=b1 at *;generalize orf f (gt b).2.2=f1 at *;go_enter Tryz.func297,Tryz.ntmps297
 go_wp2_with fail;refine HN.out.mono ?_;rintro e w1 ⟨rfl,eg,dt⟩;have iM:=ae eg;have gd:=ae dt;have cW:=dt.size;clear eg dt;by_cases hmany:n<c
 ·have hm':(c:Int) > (n:Int):=by omega
  go_wp2_with fail;refine(cB iM.out 40).mono ?_;rintro e w2 ⟨rfl,ef,dM⟩;have gC:=ae ef;have gB:=ae (gd.out.trans (dM.mono cW));clear ef dM;go_wp2_with fail;go_ret
  exact⟨[],_,_,⟨_,rfl,eD.nil _ _⟩,fun s hs=>by simp at hs,by simp,gC.out,HMANY.out _ hmany,gB.out⟩
 ·have hm':¬ (c:Int) > (n:Int):=by omega
  have HL:=ae (DE iM.out VW.out c (by omega));go_wp2_with fail;refine HL.out.mono ?_;rintro e w2 ⟨u,b2,f2,⟨v2,rfl,fq⟩,Hc,uj,ef,hrp2,dM⟩;have dr:=ae fq;have rx:=ae Hc;have HRP2:=ae hrp2;have gB:=ae (gd.out.trans (dM.mono cW));have bm:=dM.size;have aN:=ae ef.bs;have J0:=ae (mO ef n);have Kc:=ae (pS ef.bs hn);have HU2:=ae fq.sv;obtain⟨au,cu,rfl,UQ,hcmu⟩:=aM fq;have hcmu':cu<=9223372036854775807:=by unfold maxLen at hcmu;omega
  have HUB:Hid (∀ k,(Value.slice au u.length cu).ownBlock=some k->k<w2.heap.size/\k≠p):=ae (fun k hk=>by
   have:=fq.lt k hk;exact⟨this.2,by omega⟩)
  clear fq Hc ef hrp2 dM hcmu;have HBAD2:=ae (fun bz j hj hw=>sW.out bz j u b2 f2 HRP2.out hj hw);have Yg:=ae (fun cU=>VZ.out u b2 f2 aN.out rx.out HRP2.out cU);clear sW VZ;generalize (bn b2 n).1=pl at *;generalize orf f2 (bn b2 n).2=f3 at *;have hpll:=Kc.out.2;go_wp2_with fail;refine J0.out.mono ?_;rintro e w3 ⟨⟨v3,rfl,fN⟩,kX,ix⟩;have m7:=ae kX;have p7:=ae (gB.out.trans (ix.mono (ZZ cW bm)));have iB:=ix.size;have HU3:=ae (HU2.out.keptFr HUB.out ix);have HV3:=ae fN.sv;have xA:Hid (∀ k,v3.ownBlock=some k->k<w3.heap.size):=ae (fun k hk=>(fN.lt k hk).2);have HUB3:Hid (∀ k,(Value.slice au u.length cu).ownBlock=some k->k<w3.heap.size):=ae (fun k hk=>by have:=(HUB.out k hk).1;omega);obtain⟨a3,c3,rfl,Hw,XJ⟩:=aM fN;have hcm3':c3<=9223372036854775807:=by unfold maxLen at XJ;omega
  clear fN kX ix XJ;go_wp2_with fail;go_loopw [7,26] (fun o i wr=>∃ j:Nat,j<=pl.length/\i=.int .i64 (j:Int)/\eD wr w3.heap.size o ((pl.take j).map fun q=>u.getD q.toNat [])/\(∀ q∈pl.take j,0<=q/\q<(u.length:Int))/\Below w3.heap.size w3 wr) (fun _ i _=>pl.length-(intOf i).toNat)
  case atStart=>exact⟨0,by omega,rfl,eD.nil _ _,fun q hq=>by simp at hq,ZQ _ _⟩
  case round =>
   obtain⟨j,hj,rfl,az,cU,ay⟩:=hrel;have HO:=ae az;have MB:=ae cU;have xo:=ae ay;have bO:=ay.size;have Et:=ae (m7.out.kept ay m7.out.lt);clear az cU ay;by_cases rF:j<pl.length
   ·obtain⟨g,off,rfl,hg,bo⟩:=(HV3.out.keptB xA.out xo.out).at rF
    have ER:=ae (fun bz hw=>HBAD2.out bz j rF hw);have hjl':(j:Int)<(pl.length:Int):=by omega
    have ru:Hid (pl.take (j+1)=pl.take j++[pl[j]]):=ae (Z5 rF);generalize pl[j]=z at *;by_cases ce:z<0
    ·go_wp2_with fail
     refine(cB Et.out 40).mono ?_;rintro e w4 ⟨rfl,xn,pj⟩;have um:=ae xn;have xx:=ae (p7.out.trans ((Fr.of_below (xo.out.mono (show w.heap.size<=w3.heap.size by omega))).trans (pj.mono (by omega))));clear xn pj;go_wp2_with fail;go_ret
     exact⟨[],_,_,⟨_,rfl,eD.nil _ _⟩,fun s hs=>by simp at hs,by simp,um.out,ER.out _ (Or.inl ce),xx.out⟩
    ·by_cases hzu:z>=(u.length:Int)
     ·go_wp2_with fail
      refine(cB Et.out 40).mono ?_;rintro e w4 ⟨rfl,xn,pj⟩;have um:=ae xn;have xx:=ae (p7.out.trans ((Fr.of_below (xo.out.mono (show w.heap.size<=w3.heap.size by omega))).trans (pj.mono (by omega))));clear xn pj;go_wp2_with fail;go_ret
      exact⟨[],_,_,⟨_,rfl,eD.nil _ _⟩,fun s hs=>by simp at hs,by simp,um.out,ER.out _ (Or.inr hzu),xx.out⟩
     ·obtain⟨zn,rfl⟩:∃ zn:Nat,z=(zn:Int):=⟨z.toNat,by omega⟩
      have hzn:zn<u.length:=by omega
      obtain⟨gu,offu,rfl,Zy,RQ⟩:=(HU3.out.keptB HUB3.out xo.out).at1 (cJ hzn);have ee:u.getD zn []=u[zn]:=by rw[List.getD_eq_getElem?_getD,List.getElem?_eq_getElem hzn];rfl
      have mV:Hid ((pl.take (j+1)).map (fun q=>u.getD q.toNat [])=((pl.take j).map fun q=>u.getD q.toNat [])++[u[zn]]):=ae (by
       rw[ru.out,Z8,jal,jaG,jah,ee])
      have Kd:Hid (∀ q∈pl.take (j+1),0<=q/\q<(u.length:Int)):=ae (fun q hq=>by
       rw[ru.out]at hq;rcases jaj.1 hq with hq | hq
       ·exact MB.out q hq
       ·have:q=(zn:Int):=by simpa using hq
        omega)
      have hlen':((pl.take j).map fun q=>u.getD q.toNat []).length<=100000:=by rw[ZU,ZX];omega
      rw[ek]at RQ;clear ER ru ee;generalize ((pl.take j).map fun q=>u.getD q.toNat [])=L at *;generalize u[zn]=x at *;go_wp2_with (first | (at_builtin;refine bW rfl _ _ rfl w3.heap.size _ _ x L rfl (HO.out.kept (ak _ _)) rfl (aK _ _ _) hlen' ?c2 ?_))
      case c2=>first | omega | (rw[ZS];omega)
      intro v' w5 o5 b5;have dH:=ae o5;have aR:=ae ((xo.out.alloc bO (.cells #[txt x] 9)).trans b5);clear o5 b5;go_wp2_with fail;go_roundw
      case rel=>exact⟨j+1,by omega,by go_num,by rw[mV.out];exact dH.out,Kd.out,aR.out⟩
      case measure=>simp[intOf];omega
   ·have:j=pl.length:=by omega
    subst this;rw[ZY]at HO MB;have HDN:=ae (Yg.out MB.out);have gJ:¬ ((pl.length:Nat):Int)<(pl.length:Int):=by omega
    have Ho:=ae (p7.out.trans (Fr.of_below (p:=p) (xo.out.mono (show w.heap.size<=w3.heap.size by omega))))
    have RM:Hid (Ts (pl.map fun q=>u.getD q.toNat [])):=ae (fun s hs=>by
     obtain⟨q,_,rfl⟩:=jaa.1 hs;exact T4 rx.out q.toNat)
    have zQ:(pl.map fun q=>u.getD q.toNat []).length<=n:=by rw[ZU];omega
    generalize (pl.map fun q=>u.getD q.toNat [])=L at *;go_wp2_with fail;go_ret
    exact⟨L,[],f3,⟨_,rfl,aZ HO.out (by omega)⟩,RM.out,zQ,Et.out,HDN.out,Ho.out⟩
def byW(b:List Nat)(l:List (List Nat))(r:List Nat):Prop:=b=eJ l/\r=[]
theorem Gv{w:World}{p f:Nat}{b:List Nat}(h:Rs w p b f)(hf:Er f)(n:Nat)(hn:n<=256) :
  Calls Tryz.prog 279 #[.pointer (some ⟨p,0,none⟩),.int .i64 (n:Int)] w (Qr n (byW b) p f w):=by
 have HC:=ae (wN h)
 have hef:Er (chF b f):=by
  unfold chF;split
  ·exact hf.orf TZ
  ·split
   ·exact hf
   ·exact hf.orf ub
 have Zz:=ae hef
 have SG:chX b<=1:=by
  unfold chX;split
  ·omega
  ·split<;>omega
 have zO:Hid (chX b=1->∀ l b' f',RP (Nt n) (byP b.tail) (chF b f) l b' f'->RP (Nt n) (byW b) f l b' f'):=ae (fun hx l b' f' hr=>by
  obtain⟨r1,r2,r3⟩:=hr;cases b with
  | nil=>simp[chX]at hx
  | cons x t =>
   have ES:x=1:=by
    unfold chX at hx;simp only at hx;split at hx<;>omega
   subst ES;have Yh:chF (1::t) f=f:=by simp[chF]
   rw[Yh]at r2 r3;refine⟨r1,r2,fun y r a1 a2 a3=>r3 y r a1 a2 ⟨?_,a3.2⟩⟩;have h3:=a3.1;unfold eJ at h3;split at h3
   ·unfold dh at h3
    simpa using h3
   ·unfold plain at h3
    simp at h3)
 have ZA:Hid (chX b≠1->∀ l b' f',RP (Nt n) (fun l r=>b.tail=fx l++r) (chF b f) l b' f'->RP (Nt n) (byW b) f l b' f'):=ae (fun hx l b' f' hr=>by
  obtain⟨r1,r2,r3⟩:=hr;refine⟨r1,fun h=>?_,fun y r a1 a2 a3=>?_⟩
  ·obtain⟨e1,e2⟩:=r2 h
   refine⟨?_,e2⟩;unfold chF at e1;split at e1
   ·exact(bD e1).1
   ·split at e1
    ·exact e1
    ·exact(bD e1).1
  ·have h3:=a3.1
   unfold eJ at h3;split at h3
   ·unfold dh at h3
    rw[h3]at hx;exact absurd rfl hx
   ·unfold plain at h3
    have Yh:chF b f=f:=by rw[h3];simp[chF]
    have ht:b.tail=fx y:=by rw[h3];rfl
    rw[Yh]at r3;have:=r3 y [] a1 a2 (by show b.tail=fx y++[];rw[ht,Z7]);rw[a3.2];exact this)
 clear h;generalize chX b=x at *;generalize chF b f=f1 at *;by_cases hx:x=1
 ·have na:=ae (zO.out hx)
  clear zO ZA;subst hx;go_enter Tryz.func279,Tryz.ntmps279
  go_wp2_with fail;refine HC.out.mono ?_;rintro e w1 ⟨rfl,eg,dt⟩;have gd:=ae dt;have cW:=dt.size;have HT:=ae (qW eg Zz.out n hn);clear eg dt;go_wp2_with fail;refine HT.out.mono ?_;rintro e w2 ⟨l,b2,f2,⟨v2,rfl,fq⟩,Hc,zQ,ef,Zj,dM⟩;have dr:=ae (aZ fq cW);have rx:=ae Hc;have gC:=ae ef;have Jc:=ae (na.out l b2 f2 Zj);have gB:=ae (gd.out.trans (dM.mono cW));clear fq Hc ef Zj dM;go_wp2_with fail;go_ret
  exact⟨l,b2,f2,⟨_,rfl,dr.out⟩,rx.out,zQ,gC.out,Jc.out,gB.out⟩
 ·have na:=ae (ZA.out hx)
  clear zO ZA;obtain rfl:x=0:=by omega
  go_enter Tryz.func279,Tryz.ntmps279
  go_wp2_with fail;refine HC.out.mono ?_;rintro e w1 ⟨rfl,eg,dt⟩;have gd:=ae dt;have cW:=dt.size;have HT:=ae (DE eg Zz.out n hn);clear eg dt;go_wp2_with fail;refine HT.out.mono ?_;rintro e w2 ⟨l,b2,f2,⟨v2,rfl,fq⟩,Hc,zQ,ef,Zj,dM⟩;have dr:=ae (aZ fq cW);have rx:=ae Hc;have gC:=ae ef;have Jc:=ae (na.out l b2 f2 Zj);have gB:=ae (gd.out.trans (dM.mono cW));clear fq Hc ef Zj dM;go_wp2_with fail;go_ret
  exact⟨l,b2,f2,⟨_,rfl,dr.out⟩,rx.out,zQ,gC.out,Jc.out,gB.out⟩
end Go.Proofs.YtpljdjmpamjkhaaGreatDoor
