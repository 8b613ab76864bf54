import Derived.Test.YtpljdjmpamjkhaaGreatDoorUaw
import Derived.Laws.CopyOwn
set_option linter.unusedVariables false
set_option linter.unusedSimpArgs false
set_option maxRecDepth 100000
set_option maxHeartbeats 4000000
namespace Go.Proofs.YtpljdjmpamjkhaaGreatDoor
open Go.Lib
def Er(f:Nat):Prop:=f=0∨f=30∨f=31∨f=32∨f=40∨f=50
theorem Er.orf{f e:Nat}(h:Er f)(h2:Er e):Er (orf f e):=by
 unfold YtpljdjmpamjkhaaGreatDoor.orf;split
 ·exact h2
 ·exact h
theorem bE{f e:Nat}(h:orf f e=0):f=0/\e=0:=by
 unfold orf at h;split at h
 ·next h1=>exact⟨h1,h⟩
 ·next h1=>exact absurd h h1
def Es{α : Type}(d:List Nat->Except Nat (α×List Nat)):Prop:=∀ b e,d b=.error e->Er e
theorem Es.bind{α β : Type}{d:List Nat->Except Nat (α×List Nat)}{f:α->List Nat->Except Nat (β×List Nat)}(h1:Es d)(h2:∀ x,Es (f x)):Es (aB d f):=by
 intro b e h;unfold aB at h;split at h
 ·next x r _=>exact h2 x r e h
 ·next e' he =>
  cases h
  exact h1 b _ he
theorem Es.ok{α : Type}{x:List Nat->α×List Nat}:Es (fun r=>(.ok (x r):Except Nat (α×List Nat))):=fun b e h=>by cases h
theorem Es.err{α : Type}{e:Nat}(h:Er e):Es (fun _=>(.error e:Except Nat (α×List Nat))):=fun b e' h'=>by cases h';exact h
theorem Es.ite{α : Type}{c:Prop}[Decidable c]{d1 d2:List Nat->Except Nat (α×List Nat)}(h1:Es d1)(h2:¬ c->Es d2):Es (if c then d1 else d2):=by
 split
 ·exact h1
 ·next h=>exact h2 h
theorem Ew(b:List Nat):Er (gt b).2.2:=by
 obtain⟨_,_,_,h | ⟨h | h,_⟩⟩:=fS b
 ·exact Or.inl h
 ·exact Or.inr (Or.inl h)
 ·exact Or.inr (Or.inr (Or.inl h))
theorem Ex:Es wh:=fun b e h=>by
 unfold wh at h;split at h
 ·cases h
 ·cases h
  exact Ew b
theorem Br:Es num:=fun b e h=>by
 unfold num at h;split at h
 ·cases h
 ·cases h
  exact Ew b
theorem Jm{b:List Nat}{n w:Nat}(hn:n<=256)(hw:w<=64):Er (unE b n w):=by
 unfold unE;rw[jdf (by omega)];split
 ·exact Or.inl rfl
 ·exact Or.inr (Or.inr (Or.inr (Or.inr (Or.inl rfl))))
theorem Td{n w:Nat}(hn:n<=256)(hw:w<=64):Es (pkd n w):=fun b e h=>by
 unfold pkd at h;split at h
 ·cases h
  exact Or.inr (Or.inl rfl)
 ·split at h
  ·cases h
   exact Or.inr (Or.inr (Or.inr (Or.inl rfl)))
  ·split at h
   ·cases h
   ·cases h
    exact Jm hn hw
theorem uD:Er 40:=Or.inr (Or.inr (Or.inr (Or.inr (Or.inl rfl))))
theorem er32:Er 32:=Or.inr (Or.inr (Or.inr (Or.inl rfl)))
theorem WY:Er 30:=Or.inr (Or.inl rfl)
theorem er50:Er 50:=Or.inr (Or.inr (Or.inr (Or.inr (Or.inr rfl))))
theorem er0:Er 0:=Or.inl rfl
theorem Te:∀ n,Es (rd0 n)
 | 0=>fun b e h=>by cases h
 | n+1=>by
  have:=(Ex).bind (f:=fun x=>aB (rd0 n) (fun l r=>.ok (x::l,r))) (fun x=>(Te n).bind (fun l=>Es.ok));exact this
theorem Tf:∀ n last,Es (rd1 n last)
 | 0,_=>fun b e h=>by cases h
 | n+1,last=>by
  have:=(Ex).bind (f:=fun d=>aB (rd1 n (w64 (last+d))) (fun l r=>.ok (w64 (last+d)::l,r))) (fun d=>(Tf n _).bind (fun l=>Es.ok));exact this
theorem Tg:∀ f n,Es (rd2 f n)
 | 0,_=>fun b e h=>by cases h
 | f+1,n=>fun b e h=>by
  unfold rd2 at h;split at h
  ·cases h
  ·exact(Ex.bind (fun x=>Br.bind (fun k=>Es.ite (Es.err uD) (fun _=>(Tg f (n-k)).bind (fun l=>Es.ok))))) b e h
theorem Th:∀ m last,Es (rdU m last)
 | 0,_=>fun b e h=>by cases h
 | m+1,last=>fun b e h=>by
  unfold rdU at h;exact(Br.bind (fun d=>Es.ite (Es.err uD) (fun _=>(Th m _).bind (fun l=>Es.ok)))) b e h
theorem jaC{n:Nat}(hn:n<=256):Es (rd3 n):=fun b e h=>by
 unfold rd3 at h;refine(Br.bind (fun many=>Es.ite (Es.err uD) (fun hm=>Es.ite Es.ok (fun h0=>Ex.bind (fun x=>(Th _ x).bind (fun u=>(Td hn ?_).bind (fun p r e he=>?_))))))) b e h
 ·rw[eK]
  have:many-1<2 ^ 64:=by
   have:(2:Nat) ^ 64=18446744073709551616:=by decide
   omega
  exact this
 ·unfold picked at he
  split at he
  ·cases he
  ·cases he
   exact uD
theorem jaD{n:Nat}(hn:n<=256):Es (rd4 n):=fun b e h=>by
 unfold rd4 at h;split at h
 ·cases h
 ·exact(Ex.bind (fun x=>Br.bind (fun w=>Es.ite (Es.err uD) (fun hw=>(Td hn (by omega)).bind (fun p=>Es.ok))))) b e h
theorem jaE{c n:Nat}(hn:n<=256):Es (rdC c n):=by
 unfold rdC;split
 ·exact Te n
 ·exact Tf n 0
 ·exact Tg n n
 ·exact jaC hn
 ·exact jaD hn
theorem rz{b:List Nat}{n:Nat}(hn:n<=256):Er (bo b n).2:=by
 unfold bo;rw[jdf (by omega)];split
 ·exact WY
 ·next c t =>
  split
  ·exact er50
  ·split
   ·exact er0
   ·next e he =>
    unfold mS at he;split at he
    ·next e' he' =>
     cases he
     exact jaE (by omega) _ _ he'
    ·split at he
     ·split at he
      ·cases he
      ·cases he
       exact uD
     ·cases he
      exact er32
theorem qg{b:List Nat}{n:Nat}(hb:Bs b)(hn:n<=256):Is (bo b n).1/\(bo b n).1.length<=n:=by
 by_cases h:(bo b n).2=0
 ·obtain⟨h1,h2⟩:=iV hb h
  exact⟨h2,by omega⟩
 ·have:(bo b n).1=[]:=by
   unfold bo at h ⊢;rw[jdf (by omega)]at h ⊢;split
   ·rfl
   ·next c t =>
    split
    ·rfl
    ·next h4 =>
     simp only[jde h4]at h;split
     ·next l hl =>
      rw[hl]at h;exact absurd rfl h
     ·rfl
  rw[this];exact⟨fun x hx=>by simp at hx,by simp⟩
def RP{α : Type}(Ok:α->Prop)(G:α->List Nat->Prop)(f:Nat)(x:α)(b':List Nat)(f':Nat):Prop :=
 Er f'/\(f'=0->f=0/\Ok x)/\∀ y r,f=0->Ok y->G y r->f'=0/\x=y/\b'=r
def Ni(n:Nat)(l:List Int):Prop:=l.length=n/\Is l
def Nt(n:Nat)(l:List (List Nat)):Prop:=l.length=n/\Ts l
theorem gC{a r:List Nat}(f:Nat):tkB a.length (a++r)=a/\tkR a.length (a++r)=r/\tkF a.length (a++r) f=f:=by
 have h:¬ (a++r).length<a.length:=by rw[jdj];omega
 refine⟨?_,?_,?_⟩
 ·unfold tkB;rw[jde h,jec]
 ·unfold tkR;rw[jde h,jdY]
 ·unfold tkF;rw[jde h]
theorem Bt{c:Nat}{b:List Nat}{f:Nat}(h:Er f):Er (tkF c b f):=by
 unfold tkF;split
 ·exact h.orf WY
 ·exact h
theorem rB{c:Nat}{b:List Nat}{f:Nat}(h:tkF c b f=0):f=0/\¬ b.length<c:=by
 unfold tkF at h;split at h
 ·have:=(bE h).2
  omega
 ·next h1=>exact⟨h,h1⟩
theorem Jn{b:List Nat}{f n:Nat}(hb:Bs b)(hn:n<=256)(hf:Er f) :
  RP (Ni n) (fun l r=>b=cnt l++r) f (bo (tkB (gt b).1 (b.drop (gt b).2.1)) n).1 (tkR (gt b).1 (b.drop (gt b).2.1)) (orf (tkF (gt b).1 (b.drop (gt b).2.1) (orf f (gt b).2.2)) (bo (tkB (gt b).1 (b.drop (gt b).2.1)) n).2):=by
 refine⟨(Bt (hf.orf (Ew b))).orf (rz hn),fun h=>?_,fun l r h0 hl hg=>?_⟩
 ·obtain⟨h1,h2⟩:=bE h
  obtain⟨h3,h4⟩:=iV (td (hb.drop _)) h2;exact⟨(bE (rB h1).1).1,by omega,h4⟩
 ·obtain⟨Za,BZ⟩:=hl
  have hs:=(jY BZ (by omega)).1
  have ve:gt b=((cP l).length,(uv (cP l).length).length,0):=by
   rw[hg];unfold cnt;rw[jdw];exact mu _ (by omega) _
  have hd:b.drop (uv (cP l).length).length=cP l++r:=by
   rw[hg];unfold cnt;rw[jdw,jdY]
  have PH:=jX BZ (by omega);rw[Za]at PH;rw[ve];simp only;rw[hd,(gC (a:=cP l) (r:=r) 0).1,(gC (a:=cP l) (r:=r) 0).2.1,(gC (a:=cP l) (r:=r) (orf f 0)).2.2,PH,h0];exact⟨rfl,rfl,rfl⟩
open Go.RowKit
theorem Sv.keptFr{W W':World}{p B:Nat}{v:Value}{xs:List Value}(h:Sv W v xs)(hv:∀ k,v.ownBlock=some k->k<B/\k≠p)(hf:Fr p B W W'):Sv W' v xs:=by
 obtain⟨a,cap,rfl,h1,h2,h3,h4⟩:=h;refine⟨a,cap,rfl,h1,h2,h3,fun h0=>?_⟩;obtain⟨b,off,rfl,h5,h6⟩:=h4 h0;have hb:=hv b rfl;exact⟨b,off,rfl,jdD h5 hf.size,fun j x hj=>(World.cell?_of_block (w:=W) (a:=⟨b,off+j,none⟩) (hf.block b hb.1 hb.2)).trans (h6 j x hj)⟩
def LI(sz:List Int)(b1:List Nat)(f1 j:Nat)(l:List (List Nat))(bj:List Nat)(fj:Nat):Prop :=
 l.length=j/\Ts l/\Er fj/\(fj=0->f1=0)/\∀ y r,f1=0->Ts y->ea y=sz->b1=y.flatten++r->fj=0/\l=y.take j/\bj=(y.drop j).flatten++r
theorem LI.start{sz:List Int}{b1:List Nat}{f1:Nat}(hf:Er f1):LI sz b1 f1 0 [] b1 f1 :=
 ⟨rfl,fun s hs=>by simp at hs,hf,fun h=>h,fun y r h1 _ _ h4=>⟨h1,by simp,by simpa using h4⟩⟩
theorem WZ{c:Nat}{b:List Nat}:(tkB c b).length<=c:=by
 unfold tkB;split
 ·simp
 ·rw[jdo];omega
theorem LI.step{sz:List Int}{b1:List Nat}{f1 j:Nat}{l:List (List Nat)}{bj:List Nat}{fj:Nat}(h:LI sz b1 f1 j l bj fj)(hb:Bs bj)(hj:j<sz.length)(h0:0<=sz[j])(kJ:sz[j]<=64) :
  LI sz b1 f1 (j+1) (l++[tkB sz[j].toNat bj]) (tkR sz[j].toNat bj) (tkF sz[j].toNat bj fj):=by
 obtain⟨h1,h2,h3,h4,h5⟩:=h;have hl:=WZ (c:=sz[j].toNat) (b:=bj);refine⟨by simp[h1],fun s hs=>?_,Bt h3,fun h=>h4 (rB h).1,fun y r a1 a2 a3 a4=>?_⟩
 ·rcases jdO.1 hs with hs | hs
  ·exact h2 s hs
  ·have:s=tkB sz[j].toNat bj:=by simpa using hs
   subst this;exact⟨by omega,td hb⟩
 ·obtain⟨c1,c2,c3⟩:=h5 y r a1 a2 a3 a4
  have hy:j<y.length:=by rw[← a3,bH]at hj;exact hj
  have hz:sz[j]=(y[j].length:Int):=by
   have:(ea y)[j]?=some (y[j].length:Int):=by simp[ea,hy]
   rw[a3,List.getElem?_eq_getElem hj]at this;exact Option.some.inj this
  have hd:y.drop j=y[j]::y.drop (j+1):=jdX hy;rw[hd,jeB,jdw]at c3;rw[hz,jdM,c3,(gC (a:=y[j]) fj).1,(gC (a:=y[j]) fj).2.1,(gC (a:=y[j]) fj).2.2,c2,jdx hy];exact⟨c1,rfl,rfl⟩
theorem LI.bad{sz:List Int}{b b1 bz:List Nat}{f f1 j n:Nat}{l:List (List Nat)}{bj:List Nat}{fj:Nat}(hc:RP (Ni n) (fun l r=>b=cnt l++r) f sz b1 f1)(h:LI sz b1 f1 j l bj fj)(hj:j<sz.length)(hw:sz[j]<0∨64<sz[j]) :
  RP (Nt n) (fun l r=>b=fA l++r) f [] bz (orf fj 40):=by
 obtain⟨h1,h2,h3,h4,h5⟩:=h;refine⟨h3.orf uD,fun h=>absurd (bE h).2 (by omega),fun y r a1 a2 a3=>?_⟩;obtain⟨d1,d2,d3⟩:=hc.2.2 (ea y) (y.flatten++r) a1 ⟨by rw[bH];exact a2.1,gS a2.2⟩ (by rw[a3];unfold fA;rw[jdw]);have hy:j<y.length:=by rw[d2,bH]at hj;exact hj
 have hz:sz[j]=(y[j].length:Int):=by
  have:(ea y)[j]?=some (y[j].length:Int):=by simp[ea,hy]
  rw[← d2,List.getElem?_eq_getElem hj]at this;exact Option.some.inj this
 have:=(a2.2 _ (jdl hy)).1;omega
theorem LI.done{sz:List Int}{b b1:List Nat}{f f1 n:Nat}{l:List (List Nat)}{bj:List Nat}{fj:Nat}(hc:RP (Ni n) (fun l r=>b=cnt l++r) f sz b1 f1)(h:LI sz b1 f1 sz.length l bj fj) :
  RP (Nt n) (fun l r=>b=fA l++r) f l bj fj:=by
 obtain⟨h1,h2,h3,h4,h5⟩:=h;refine⟨h3,fun h=>?_,fun y r a1 a2 a3=>?_⟩
 ·obtain⟨e1,e2⟩:=hc.2.1 (h4 h)
  exact⟨e1,by rw[h1];exact e2.1,h2⟩
 ·obtain⟨d1,d2,d3⟩:=hc.2.2 (ea y) (y.flatten++r) a1 ⟨by rw[bH];exact a2.1,gS a2.2⟩ (by rw[a3];unfold fA;rw[jdw])
  obtain⟨c1,c2,c3⟩:=h5 y r d1 a2.2 d2.symm d3;have yx:sz.length=y.length:=by rw[d2,bH]
  rw[yx]at c2 c3;rw[jdp]at c2;rw[jeb]at c3;exact⟨c1,c2,by simpa using c3⟩
def Ti(n:Nat)(G:List (List Nat)->List Nat->Prop)(p f:Nat)(w:World)(r:Ending)(w':World):Prop :=
 ∃ l b' f',(∃ v,r=.returned v/\eF w' w.heap.size v l)/\Ts l/\l.length<=n/\Rs w' p b' f'/\RP (Nt n) G f l b' f'/\Fr p w.heap.size w w'
theorem Ey{w:World}{p f:Nat}{b:List Nat}(h:Rs w p b f)(hf:Er f)(n:Nat)(hn:n<=256) :
  Calls Tryz.prog 298 #[.pointer (some ⟨p,0,none⟩),.int .i64 (n:Int)] w (Ti n (fun l r=>b=fA l++r) p f w):=by
 have aC:=h.lt;have mY:=ae (qf h n);have KE:=ae (Jn h.bs hn hf);have LS:=ae (qg (td (c:=(gt b).1) (h.bs.drop (gt b).2.1)) hn);clear h;generalize (bo (tkB (gt b).1 (b.drop (gt b).2.1)) n).1=sz at *;generalize (orf (tkF (gt b).1 (b.drop (gt b).2.1) (orf f (gt b).2.2)) (bo (tkB (gt b).1 (b.drop (gt b).2.1)) n).2)=f1 at *;generalize tkR (gt b).1 (b.drop (gt b).2.1)=b1 at *;have hszl:=LS.o.2;go_enter Tryz.func298,Tryz.ntmps298
 go_wp2_with fail;refine mY.o.mono ?_;rintro e w1 ⟨⟨v1,rfl,eI⟩,ek,dv⟩;have iO:=ae ek;have gg:=ae dv;have cY:=dv.size;have Pz:=ae eI.sv
 have xW:jfb (∀ k,v1.ownBlock=some k->k<w1.heap.size/\k≠p):=ae (fun k hk=>by
  have:=eI.lt k hk;exact⟨this.2,by omega⟩)
 obtain⟨a1,c1,rfl,ly,xM⟩:=aN eI;have hcm1':c1<=9223372036854775807:=by unfold maxLen at xM;omega
 clear ek dv eI xM;go_wp2_with fail;go_loopw [5,12] (fun o i wr=>∃(j:Nat) (l:List (List Nat)) (bj:List Nat) (fj:Nat),j<=sz.length/\i=.int .i64 (j:Int)/\eF wr w1.heap.size o l/\LI sz b1 f1 j l bj fj/\Rs wr p bj fj/\Fr p w1.heap.size w1 wr) (fun _ i _=>sz.length-(intOf i).toNat)
 case atStart=>exact⟨0,[],b1,f1,by omega,rfl,eF.nil _ _,LI.start KE.o.1,iO.o,Fr.refl _ _ _⟩
 case round =>
  obtain⟨j,l,bj,fj,hj,rfl,aA,hli,hsj,hfj⟩:=hrel;have HO:=ae aA;have rR:=ae hli;have HSJ:=ae hsj;have HFJ:=ae hfj;have bP:=hfj.size;have Am:l.length=j:=hli.1;clear aA hli hsj hfj;by_cases rX:j<sz.length
  ·obtain⟨g,off,rfl,hg,bq⟩:=(Pz.o.keptFr xW.o HFJ.o).at rX
   have cT:=ae (rR.o.step HSJ.o.bs rX);have tv:=ae (fun bz hw=>rR.o.bad (bz:=bz) KE.o rX hw);have hjl':(j:Int)<(sz.length:Int):=(by omega);generalize sz[j]=z at *;by_cases cm:z<0
   ·go_wp2_with fail
    refine(cD HSJ.o 40).mono ?_;rintro e w3 ⟨rfl,ll,iz⟩;have no:=ae ll;have qp:=ae (gg.o.trans ((HFJ.o.trans (iz.mono bP)).mono cY));clear ll iz;go_wp2_with fail;go_ret
    exact⟨[],_,_,⟨_,rfl,eF.nil _ _⟩,fun s hs=>by simp at hs,by simp,no.o,tv.o _ (Or.inl cm),qp.o⟩
   ·by_cases hz64:z > 64
    ·go_wp2_with fail
     refine(cD HSJ.o 40).mono ?_;rintro e w3 ⟨rfl,ll,iz⟩;have no:=ae ll;have qp:=ae (gg.o.trans ((HFJ.o.trans (iz.mono bP)).mono cY));clear ll iz;go_wp2_with fail;go_ret
     exact⟨[],_,_,⟨_,rfl,eF.nil _ _⟩,fun s hs=>by simp at hs,by simp,no.o,tv.o _ (Or.inr (by omega)),qp.o⟩
    ·obtain⟨zn,rfl⟩:∃ zn:Nat,z=(zn:Int):=⟨z.toNat,by omega⟩
     have HST':=ae (cT.o (by omega) (by omega));rw[jdM]at HST';have rP:=ae (oM HSJ.o zn (by omega));have Ci:=ae (td (c:=zn) HSJ.o.bs);clear cT tv;generalize tkB zn bj=tb at *;generalize tkR zn bj=tr at *;generalize tkF zn bj fj=tf at *;go_wp2_with fail;refine rP.o.mono ?_;rintro e w3 ⟨⟨v3,rfl,hv3⟩,ll,iz⟩;have uL:=hv3.conv Ci.o;have no:=ae ll;have qp:=ae (HFJ.o.trans (iz.mono bP));have iD:=iz.size;have cZ:jfb (eF w3 w1.heap.size _ l):=ae (iz.own HO.o (by omega));clear ll iz hv3;unfold txt at uL;have hlen':l.length<=100000:=(by omega);go_wp2_with (first | (at_builtin;refine bX rfl _ _ rfl w1.heap.size _ _ tb l rfl (cZ.o.kept (ak _ _)) rfl (aL _ _ _) hlen' ?c2 ?_))
     case c2=>first | omega | (rw[jdi];omega)
     intro v' w4 o4 b4;have eR:=ae o4;have bw:=((ak w3 (.cells #[txt tb] 9)).mono (show w1.heap.size<=w3.heap.size by omega)).trans b4;have uM:=ae (no.o.kept bw (by omega));have xT:=ae (qp.o.then bw);clear o4 b4 bw;go_wp2_with fail;go_roundw
     case rel=>exact⟨j+1,l++[tb],tr,tf,by omega,by go_num,eR.o,HST'.o,uM.o,xT.o⟩
     case measure=>simp[intOf];omega
  ·have:j=sz.length:=by omega
   subst this;have HDN:=ae (rR.o.done KE.o);have rQ:=ae rR.o.2.1;have gL:¬ ((sz.length:Nat):Int)<(sz.length:Int):=(by omega);have Ko:=ae (gg.o.trans (HFJ.o.mono cY));go_wp2_with fail;go_ret
   exact⟨l,bj,fj,⟨_,rfl,be HO.o cY⟩,rQ.o,by omega,HSJ.o,HDN.o,Ko.o⟩
def byP(b:List Nat)(l:List (List Nat))(r:List Nat):Prop:=b=uv (tuq l).length++(fA (tuq l)++cP (cK l))/\r=[]
theorem Ez{b r:List Nat}{y:List (List Nat)}{n:Nat}(hn:n<=256)(hy:Nt n y)(hg:byP b y r):gt b=((tuq y).length,(uv (tuq y).length).length,0)/\b.drop (uv (tuq y).length).length=fA (tuq y)++cP (cK y)/\(tuq y).length<=n:=by
 have hl:=fG y;have h1:=hy.1;refine⟨?_,?_,by omega⟩
 ·rw[hg.1]
  exact mu _ (by omega) _
 ·rw[hg.1,jdY]
theorem Tj{b bz:List Nat}{f n:Nat}(hn:n<=256)(hf:Er f)(h:n<(gt b).1):RP (Nt n) (byP b) f [] bz (orf (orf f (gt b).2.2) 40):=by
 refine⟨(hf.orf (Ew b)).orf uD,fun h=>absurd (bE h).2 (by omega),fun y r a1 a2 a3=>?_⟩;obtain⟨h1,h2,h3⟩:=Ez hn a2 a3;rw[h1]at h;exact absurd h (by simp only;omega)
theorem EA{b:List Nat}{f n:Nat}{u:List (List Nat)}{b2:List Nat}{f2:Nat}(hn:n<=256)(hc:RP (Nt (gt b).1) (fun l r=>b.drop (gt b).2.1=fA l++r) (orf f (gt b).2.2) u b2 f2){y:List (List Nat)}{r:List Nat}(h0:f=0)(hy:Nt n y)(hg:byP b y r) :
  f2=0/\u=tuq y/\bo b2 n=(cK y,0):=by
 obtain⟨h1,h2,h3⟩:=Ez hn hy hg;rw[h1]at hc;simp only at hc;rw[h2,h0]at hc;obtain⟨d1,d2,d3⟩:=hc.2.2 (tuq y) (cP (cK y)) rfl ⟨rfl,lr hy.2⟩ rfl;have hb:=jX (eb (l:=y) (by have:=hy.1;omega)) (by rw[bV];have:=hy.1;omega);rw[bV,hy.1]at hb;exact⟨d1,d2,by rw[d3];exact hb⟩
theorem Xa{b bz:List Nat}{f n j:Nat}{u:List (List Nat)}{b2:List Nat}{f2:Nat}(hn:n<=256)(hc:RP (Nt (gt b).1) (fun l r=>b.drop (gt b).2.1=fA l++r) (orf f (gt b).2.2) u b2 f2)
  (hj:j<(bo b2 n).1.length) (hw:(bo b2 n).1[j]<0∨(u.length:Int)<=(bo b2 n).1[j]):RP (Nt n) (byP b) f [] bz (orf (orf f2 (bo b2 n).2) 40):=by
 refine⟨(hc.1.orf (rz hn)).orf uD,fun h=>absurd (bE h).2 (by omega),fun y r a1 a2 a3=>?_⟩;obtain⟨h1,h2,h3⟩:=EA hn hc a1 a2 a3
 have hm:∀ q∈(bo b2 n).1,q∈cK y:=fun q hq=>by
  rw[h3]at hq;exact hq
 have:=pP _ (hm _ (jdl hj));rw[← h2]at this;omega
theorem Tk{b:List Nat}{f n:Nat}{u:List (List Nat)}{b2:List Nat}{f2:Nat}(hn:n<=256)(aE:Bs b2)(hu:Ts u)(hc:RP (Nt (gt b).1) (fun l r=>b.drop (gt b).2.1=fA l++r) (orf f (gt b).2.2) u b2 f2)
  (cW:∀ q∈(bo b2 n).1,0<=q/\q<(u.length:Int)):RP (Nt n) (byP b) f ((bo b2 n).1.map fun q=>u.getD q.toNat []) [] (orf f2 (bo b2 n).2):=by
 refine⟨hc.1.orf (rz hn),fun h=>?_,fun y r a1 a2 a3=>?_⟩
 ·obtain⟨h1,h2⟩:=bE h
  obtain⟨h3,h4⟩:=hc.2.1 h1;obtain⟨h5,h6⟩:=iV aE h2;refine⟨(bE h3).1,by rw[jdk];omega,fun s hs=>?_⟩;obtain⟨q,hq,rfl⟩:=jdE.1 hs;have nc:=cW q hq;have aC:q.toNat<u.length:=by omega
  rw[List.getD_eq_getElem?_getD,List.getElem?_eq_getElem aC];exact hu _ (jdl aC)
 ·obtain⟨h1,h2,h3⟩:=EA hn hc a1 a2 a3
  rw[h3,h1,h2];exact⟨rfl,qI y,a3.2.symm⟩
theorem Xb{u:List (List Nat)}(hu:Ts u)(q:Nat):(u.getD q []).length<=64/\Bs (u.getD q []):=by
 rcases jdJ q u.length with h | h
 ·rw[List.getD_eq_getElem?_getD,List.getElem?_eq_getElem h]
  exact hu _ (jdl h)
 ·rw[List.getD_eq_getElem?_getD,List.getElem?_eq_none h]
  exact⟨by simp,fun x hx=>by simp at hx⟩
theorem rC{w:World}{p f:Nat}{b:List Nat}(h:Rs w p b f)(hf:Er f)(n:Nat)(hn:n<=256) :
  Calls Tryz.prog 297 #[.pointer (some ⟨p,0,none⟩),.int .i64 (n:Int)] w (Ti n (byP b) p f w):=by
 have aC:=h.lt;have HN:=ae (tX h);have g1:=(fS b).1;have HMANY:=ae (fun bz h=>Tj (b:=b) (bz:=bz) (f:=f) hn hf h);have tv:=ae (fun bz j u b2 f2 hc hj hw=>Xa (b:=b) (bz:=bz) (f:=f) (j:=j) (u:=u) (b2:=b2) (f2:=f2) hn hc hj hw);have Zn:=ae (fun u b2 f2 aE hu hc cW=>Tk (b:=b) (f:=f) (u:=u) (b2:=b2) (f2:=f2) hn aE hu hc cW);have Zk:=ae (hf.orf (Ew b));clear h;generalize (gt b).1=c at *;generalize b.drop (gt b).2.1=b1 at *;generalize orf f (gt b).2.2=f1 at *;go_enter Tryz.func297,Tryz.ntmps297
 go_wp2_with fail;refine HN.o.mono ?_;rintro e w1 ⟨rfl,ek,dv⟩;have iO:=ae ek;have gg:=ae dv;have cY:=dv.size;clear ek dv;by_cases hmany:n<c
 ·have hm':(c:Int) > (n:Int):=by omega
  go_wp2_with fail;refine(cD iO.o 40).mono ?_;rintro e w2 ⟨rfl,ei,dO⟩;have gE:=ae ei;have gD:=ae (gg.o.trans (dO.mono cY));clear ei dO;go_wp2_with fail;go_ret
  exact⟨[],_,_,⟨_,rfl,eF.nil _ _⟩,fun s hs=>by simp at hs,by simp,gE.o,HMANY.o _ hmany,gD.o⟩
 ·have hm':¬ (c:Int) > (n:Int):=by omega
  have HL:=ae (Ey iO.o Zk.o c (by omega));go_wp2_with fail;refine HL.o.mono ?_;rintro e w2 ⟨u,b2,f2,⟨v2,rfl,fx⟩,Kc,uK,ei,hrp2,dO⟩;have du:=ae fx;have rQ:=ae Kc;have HRP2:=ae hrp2;have gD:=ae (gg.o.trans (dO.mono cY));have bn:=dO.size;have aO:=ae ei.bs;have LD:=ae (mX ei n);have LS:=ae (qg ei.bs hn);have HU2:=ae fx.sv;obtain⟨au,cu,rfl,XW,hcmu⟩:=aN fx;have hcmu':cu<=9223372036854775807:=by unfold maxLen at hcmu;omega
  have HUB:jfb (∀ k,(Value.slice au u.length cu).ownBlock=some k->k<w2.heap.size/\k≠p):=ae (fun k hk=>by
   have:=fx.lt k hk;exact⟨this.2,by omega⟩)
  clear fx Kc ei hrp2 dO hcmu;have HBAD2:=ae (fun bz j hj hw=>tv.o bz j u b2 f2 HRP2.o hj hw);have jbE:=ae (fun cW=>Zn.o u b2 f2 aO.o rQ.o HRP2.o cW);clear tv Zn;generalize (bo b2 n).1=pl at *;generalize orf f2 (bo b2 n).2=f3 at *;have hpll:=LS.o.2;go_wp2_with fail;refine LD.o.mono ?_;rintro e w3 ⟨⟨v3,rfl,fP⟩,ll,iz⟩;have no:=ae ll;have qp:=ae (gD.o.trans (iz.mono (jdq cY bn)));have iD:=iz.size;have HU3:=ae (HU2.o.keptFr HUB.o iz);have HV3:=ae fP.sv;have xW:jfb (∀ k,v3.ownBlock=some k->k<w3.heap.size):=ae (fun k hk=>(fP.lt k hk).2);have HUB3:jfb (∀ k,(Value.slice au u.length cu).ownBlock=some k->k<w3.heap.size):=ae (fun k hk=>by have:=(HUB.o k hk).1;omega);obtain⟨a3,c3,rfl,Kw,ja7⟩:=aN fP;have hcm3':c3<=9223372036854775807:=by unfold maxLen at ja7;omega
  clear fP ll iz ja7;go_wp2_with fail;go_loopw [7,26] (fun o i wr=>∃ j:Nat,j<=pl.length/\i=.int .i64 (j:Int)/\eF wr w3.heap.size o ((pl.take j).map fun q=>u.getD q.toNat [])/\(∀ q∈pl.take j,0<=q/\q<(u.length:Int))/\Below w3.heap.size w3 wr) (fun _ i _=>pl.length-(intOf i).toNat)
  case atStart=>exact⟨0,by omega,rfl,eF.nil _ _,fun q hq=>by simp at hq,jdg _ _⟩
  case round =>
   obtain⟨j,hj,rfl,aA,cW,az⟩:=hrel;have HO:=ae aA;have PI:=ae cW;have xL:=ae az;have bP:=az.size;have Fy:=ae (no.o.kept az no.o.lt);clear aA cW az;by_cases rX:j<pl.length
   ·obtain⟨g,off,rfl,hg,bq⟩:=(HV3.o.keptB xW.o xL.o).at rX
    have FY:=ae (fun bz hw=>HBAD2.o bz j rX hw);have hjl':(j:Int)<(pl.length:Int):=(by omega);have rP:jfb (pl.take (j+1)=pl.take j++[pl[j]]):=ae (jdx rX);generalize pl[j]=z at *;by_cases cm:z<0
    ·go_wp2_with fail
     refine(cD Fy.o 40).mono ?_;rintro e w4 ⟨rfl,xK,pE⟩;have uM:=ae xK;have xT:=ae (qp.o.trans ((Fr.of_below (xL.o.mono (show w.heap.size<=w3.heap.size by omega))).trans (pE.mono (by omega))));clear xK pE;go_wp2_with fail;go_ret
     exact⟨[],_,_,⟨_,rfl,eF.nil _ _⟩,fun s hs=>by simp at hs,by simp,uM.o,FY.o _ (Or.inl cm),xT.o⟩
    ·by_cases hzu:z>=(u.length:Int)
     ·go_wp2_with fail
      refine(cD Fy.o 40).mono ?_;rintro e w4 ⟨rfl,xK,pE⟩;have uM:=ae xK;have xT:=ae (qp.o.trans ((Fr.of_below (xL.o.mono (show w.heap.size<=w3.heap.size by omega))).trans (pE.mono (by omega))));clear xK pE;go_wp2_with fail;go_ret
      exact⟨[],_,_,⟨_,rfl,eF.nil _ _⟩,fun s hs=>by simp at hs,by simp,uM.o,FY.o _ (Or.inr hzu),xT.o⟩
     ·obtain⟨zn,rfl⟩:∃ zn:Nat,z=(zn:Int):=⟨z.toNat,by omega⟩
      have hzn:zn<u.length:=(by omega);obtain⟨gu,offu,rfl,hgu,UN⟩:=(HU3.o.keptB HUB3.o xL.o).at1 (cL hzn);have eg:u.getD zn []=u[zn]:=by rw[List.getD_eq_getElem?_getD,List.getElem?_eq_getElem hzn];rfl
      have nh:jfb ((pl.take (j+1)).map (fun q=>u.getD q.toNat [])=((pl.take j).map fun q=>u.getD q.toNat [])++[u[zn]]):=ae (by
       rw[rP.o,jdC,jdQ,jed,jdM,eg])
      have LT:jfb (∀ q∈pl.take (j+1),0<=q/\q<(u.length:Int)):=ae (fun q hq=>by
       rw[rP.o]at hq;rcases jdO.1 hq with hq | hq
       ·exact PI.o q hq
       ·have:q=(zn:Int):=by simpa using hq
        omega)
      have hlen':((pl.take j).map fun q=>u.getD q.toNat []).length<=100000:=by rw[jdk,jdo];omega
      rw[en]at UN;clear FY rP eg;generalize ((pl.take j).map fun q=>u.getD q.toNat [])=L at *;generalize u[zn]=x at *;go_wp2_with (first | (at_builtin;refine bX rfl _ _ rfl w3.heap.size _ _ x L rfl (HO.o.kept (ak _ _)) rfl (aL _ _ _) hlen' ?c2 ?_))
      case c2=>first | omega | (rw[jdi];omega)
      intro v' w5 o5 b5;have dJ:=ae o5;have aS:=ae ((xL.o.alloc bP (.cells #[txt x] 9)).trans b5);clear o5 b5;go_wp2_with fail;go_roundw
      case rel=>exact⟨j+1,by omega,by go_num,by rw[nh.o];exact dJ.o,LT.o,aS.o⟩
      case measure=>simp[intOf];omega
   ·have:j=pl.length:=by omega
    subst this;rw[jdp]at HO PI;have HDN:=ae (jbE.o PI.o);have gL:¬ ((pl.length:Nat):Int)<(pl.length:Int):=(by omega);have Ko:=ae (qp.o.trans (Fr.of_below (p:=p) (xL.o.mono (show w.heap.size<=w3.heap.size by omega))))
    have UK:jfb (Ts (pl.map fun q=>u.getD q.toNat [])):=ae (fun s hs=>by
     obtain⟨q,_,rfl⟩:=jdE.1 hs;exact Xb rQ.o q.toNat)
    have Am:(pl.map fun q=>u.getD q.toNat []).length<=n:=by rw[jdk];omega
    generalize (pl.map fun q=>u.getD q.toNat [])=L at *;go_wp2_with fail;go_ret
    exact⟨L,[],f3,⟨_,rfl,be HO.o (by omega)⟩,UK.o,Am,Fy.o,HDN.o,Ko.o⟩
def byW(b:List Nat)(l:List (List Nat))(r:List Nat):Prop:=b=eL l/\r=[]
theorem Jo{w:World}{p f:Nat}{b:List Nat}(h:Rs w p b f)(hf:Er f)(n:Nat)(hn:n<=256) :
  Calls Tryz.prog 279 #[.pointer (some ⟨p,0,none⟩),.int .i64 (n:Int)] w (Ti n (byW b) p f w):=by
 have HC:=ae (xn h)
 have hef:Er (chF b f):=by
  unfold chF;split
  ·exact hf.orf WY
  ·split
   ·exact hf
   ·exact hf.orf uD
 have HEF:=ae hef
 have Vy:chX b<=1:=by
  unfold chX;split
  ·omega
  ·split<;>omega
 have Ak:jfb (chX b=1->∀ l b' f',RP (Nt n) (byP b.tail) (chF b f) l b' f'->RP (Nt n) (byW b) f l b' f'):=ae (fun hx l b' f' hr=>by
  obtain⟨r1,r2,r3⟩:=hr;cases b with
  | nil=>simp[chX]at hx
  | cons x t =>
   have FZ:x=1:=by
    unfold chX at hx;simp only at hx;split at hx<;>omega
   subst FZ;have hcf:chF (1::t) f=f:=by simp[chF]
   rw[hcf]at r2 r3;refine⟨r1,r2,fun y r a1 a2 a3=>r3 y r a1 a2 ⟨?_,a3.2⟩⟩;have h3:=a3.1;unfold eL at h3;split at h3
   ·unfold dj at h3
    simpa using h3
   ·unfold plain at h3
    simp at h3)
 have HW0:jfb (chX b≠1->∀ l b' f',RP (Nt n) (fun l r=>b.tail=fA l++r) (chF b f) l b' f'->RP (Nt n) (byW b) f l b' f'):=ae (fun hx l b' f' hr=>by
  obtain⟨r1,r2,r3⟩:=hr;refine⟨r1,fun h=>?_,fun y r a1 a2 a3=>?_⟩
  ·obtain⟨e1,e2⟩:=r2 h
   refine⟨?_,e2⟩;unfold chF at e1;split at e1
   ·exact(bE e1).1
   ·split at e1
    ·exact e1
    ·exact(bE e1).1
  ·have h3:=a3.1
   unfold eL at h3;split at h3
   ·unfold dj at h3
    rw[h3]at hx;exact absurd rfl hx
   ·unfold plain at h3
    have hcf:chF b f=f:=by rw[h3];simp[chF]
    have ht:b.tail=fA y:=by rw[h3];rfl
    rw[hcf]at r3;have:=r3 y [] a1 a2 (by show b.tail=fA y++[];rw[ht,jdB]);rw[a3.2];exact this)
 clear h;generalize chX b=x at *;generalize chF b f=f1 at *;by_cases hx:x=1
 ·have nt:=ae (Ak.o hx)
  clear Ak HW0;subst hx;go_enter Tryz.func279,Tryz.ntmps279
  go_wp2_with fail;refine HC.o.mono ?_;rintro e w1 ⟨rfl,ek,dv⟩;have gg:=ae dv;have cY:=dv.size;have HT:=ae (rC ek HEF.o n hn);clear ek dv;go_wp2_with fail;refine HT.o.mono ?_;rintro e w2 ⟨l,b2,f2,⟨v2,rfl,fx⟩,Kc,Am,ei,hrp,dO⟩;have du:=ae (be fx cY);have rQ:=ae Kc;have gE:=ae ei;have KE:=ae (nt.o l b2 f2 hrp);have gD:=ae (gg.o.trans (dO.mono cY));clear fx Kc ei hrp dO;go_wp2_with fail;go_ret
  exact⟨l,b2,f2,⟨_,rfl,du.o⟩,rQ.o,Am,gE.o,KE.o,gD.o⟩
 ·have nt:=ae (HW0.o hx)
  clear Ak HW0;obtain rfl:x=0:=by omega
  go_enter Tryz.func279,Tryz.ntmps279
  go_wp2_with fail;refine HC.o.mono ?_;rintro e w1 ⟨rfl,ek,dv⟩;have gg:=ae dv;have cY:=dv.size;have HT:=ae (Ey ek HEF.o n hn);clear ek dv;go_wp2_with fail;refine HT.o.mono ?_;rintro e w2 ⟨l,b2,f2,⟨v2,rfl,fx⟩,Kc,Am,ei,hrp,dO⟩;have du:=ae (be fx cY);have rQ:=ae Kc;have gE:=ae ei;have KE:=ae (nt.o l b2 f2 hrp);have gD:=ae (gg.o.trans (dO.mono cY));clear fx Kc ei hrp dO;go_wp2_with fail;go_ret
  exact⟨l,b2,f2,⟨_,rfl,du.o⟩,rQ.o,Am,gE.o,KE.o,gD.o⟩
def nQ(n m:Nat):List Value:=List.replicate m (.int .u64 1)++List.replicate (n-m) (.int .u64 0)
theorem tZ{n m:Nat}(h:m<=n):(nQ n m).length=n:=by simp[nQ];omega
theorem EB{n m c:Nat}(h:m+c<=n):splice (nQ n m) m (List.replicate c (.int .u64 1))=nQ n (m+c):=by
 unfold splice nQ
 have h1:(List.replicate m (Value.int .u64 1)++List.replicate (n-m) (Value.int .u64 0)).take m=List.replicate m (Value.int .u64 1):=by
  rw[List.take_append_of_le_length (by simp)];exact jdZ (by simp)
 have h2:(List.replicate m (Value.int .u64 1)++List.replicate (n-m) (Value.int .u64 0)).drop (m+(List.replicate c (Value.int .u64 1)).length)=List.replicate (n-(m+c)) (Value.int .u64 0):=by
  rw[List.drop_append,jeX (by simp)];simp
  omega
 rw[h1,h2,← jdw,List.replicate_append_replicate]
theorem ED(n:Nat)(hn:n<=256)(w:World):Calls Tryz.prog 295 #[.int .u64 1,.int .u64 (n:Int)] w fun e w'=>e=.returned (.tuple #[.int .u64 0,.int .u64 (n:Int)])/\w'=w:=by
 have:=Any.bits_Mul Wr 1 n (by omega) (by omega) w;have h1:1*n / 18446744073709551616=0:=by omega
 have h2:1*n % 18446744073709551616=n:=by omega
 rw[h1,h2]at this;exact this
theorem jaF:(Tryz.prog.info? 92).map (·.size)=some 1:=by kernel_rfl
theorem EE{W:World}{T n m sl dl sc dc c:Nat}{ad:Addr}(jV:W.heap[T]?=some (.cells (nQ n m).toArray 92 (0,0)))(hc:c=Nat.min sl dl)(dA:m+c<=n)(jbG:∀ j,j<c->W.cell? (ad.add j)=some (.int .u64 1)) :
  ∃ W',(Builtin.copy_ #[142,142] 3 #[.slice (some ⟨T,m,none⟩) dl dc,.slice (some ad) sl sc]).run Tryz.prog W=.ok (.int .i64 (c:Int)) W'/\W'.heap[T]?=some (.cells (nQ n (m+c)).toArray 92 (0,0))/\Below T W W'/\W'.heap.size=W.heap.size:=by
 have hl:(List.replicate c (Value.int .u64 1)).length=c:=List.length_replicate
 have FG:=run_copy_row (P:=Tryz.prog) W 142 142 3 92 T m dl dc ad sl sc (nQ n m).toArray 92 (List.replicate c (.int .u64 1)) Tryz.underlying142 jaF jV (by rw[hl];exact hc) (fun j v hj=>by
  rw[List.getElem?_replicate]at hj;split at hj
  ·next h =>
   cases hj
   exact jbG j h
  ·cases hj) (by rw[hl];simp[tZ (show m<=n by omega)];exact dA) (fun v hv=>by rw[je1 hv];rfl)
 have hs:=EB dA;unfold splice at hs;rw[hl]at FG hs;rw[← jdw]at hs;simp only[List.toList_toArray]at FG;rw[hs]at FG;refine⟨_,FG,?_,below_setRow (jdg _ _) (jdh _) _,by simp[World.setRow]⟩;exact setRow_heap W T _ _ 92 _ jV
theorem Jp{w:World}{g:Nat}(hc:w.cell? ⟨g,0,none⟩=some (.int .u64 1))(n:Nat)(hn:n<=256) :
  Calls Tryz.prog 277 #[.slice (some ⟨g,0,none⟩) 1 1,.int .i64 (n:Int)] w fun e w'=>(∃ v,e=.returned v/\dD w' w.heap.size v (List.replicate n 1))/\Below w.heap.size w w':=by
 obtain⟨i0,hi,cm,hz1',bn⟩:=jdA pL;have HC:=ae hc;have hg:=World.block_lt_of_cell? w _ hc;simp only at hg;have HM:=ae (ED n hn);have Zb:¬ (n:Int)<0:=by omega
 have PJ:¬ (n:Int) > 9223372036854775807:=by omega
 clear hc;go_enter Tryz.func277,Tryz.ntmps277
 go_wp2_with fail;refine(HM.o _).mono ?_;rintro e w1 ⟨rfl,rfl⟩;go_wp2_with (first | (refine jek _ rfl _ _ 142 rfl w1.heap.size 92 i0 (.int .u64 0) 1 Tryz.underlying142 hi cm hz1' .i64 .i64 _ _ n rfl rfl ?m1 ?m2 ?m3 ?m4 ?m5 ?_))
 case m1=>rfl
 case m2=>rfl
 case m3=>rw[bn];omega
 case m4=>unfold maxLen;omega
 case m5=>omega
 intro w4 gF iN;have bw:Below w1.heap.size w1 w4:=(jdg _ _).grown iN (jdh _) (fun k hk=>by cases hk)
 have jV:w4.heap[w1.heap.size]?=some (.cells (nQ n 0).toArray 92 (0,0)):=by
  obtain⟨h0,⟨h,_⟩ | ⟨g',cap',cur,h1,h2,h3,h4,h5,h6,h7⟩⟩:=gF
  ·cases h
  ·cases h1
   rw[h3]
   have e1:cur=(nQ n 0).toArray:=by
    apply Array.toList_inj.1
    rw[jdZ (by simp;omega)]at h7;rw[h7,jeK];simp[nQ]
   rw[e1]
 have UO:=(bw.cell (p:=⟨g,0,none⟩) hg).trans HC.o
 obtain⟨w5,VP,Qo,br,vk⟩:=EE (c:=Nat.min 1 n) (sl:=1) (dl:=n) (sc:=1) (dc:=n) (ad:=⟨g,0,none⟩) jV rfl (by have:=Nat.min_le_right 1 n;show 0+min 1 n<=n;omega) (fun j hj=>by
  have:j=0:=by have:=Nat.min_le_left 1 n;have h:j<min 1 n:=hj;omega
  subst this;rw[mq];exact UO)
 rw[jdK]at Qo;have uR:=ae Qo;have aS:=ae (bw.trans br);have UA:Nat.min 1 n<=n:=Nat.min_le_right 1 n
 have hmn1:n=0∨1<=Nat.min 1 n:=by
  rcases jd4 n with h | h
  ·exact Or.inl h
  ·right
   show 1<=min 1 n
   omega
 have HMN:=ae hmn1;clear gF iN bw jV UO Qo br vk hmn1;generalize Nat.min 1 n=mm at *;go_wp2_with fail;go_loopw [8] (fun i wr=>∃ m:Nat,i=.int .i64 (m:Int)/\m<=n/\(n=0∨1<=m)/\wr.heap[w1.heap.size]?=some (.cells (nQ n m).toArray 92 (0,0))/\Below w1.heap.size w1 wr) (fun i _=>n-(intOf i).toNat)
 case atStart=>exact⟨mm,rfl,UA,HMN.o,uR.o,aS.o⟩
 case round =>
  obtain⟨m,rfl,hm,Kv,jV,az⟩:=hrel;have HR:=ae jV;have HB:=ae az;have PM:=ae Kv;clear jV az Kv VP;by_cases aC:m<n
  ·have hm0:1<=m:=by have:=PM.o;omega
   have hlt':(m:Int)<(n:Int):=(by omega);have hRd:wr.drew.heap[w1.heap.size]?=some (.cells (nQ n m).toArray 92 (0,0)):=HR.o;have hBd:Below w1.heap.size wr wr.drew:=⟨rfl,rfl,rfl,jdh _,fun _ _=>rfl⟩
   obtain⟨w6,VP,UP,dP,FB⟩:=EE (W:=wr.drew) (c:=Nat.min m (n-m)) (sl:=m) (dl:=n-m) (sc:=n) (dc:=n-m) (ad:=⟨w1.heap.size,0,none⟩) hRd rfl (by show m+min m (n-m)<=n;omega) (fun j hj=>by
    have h:j<min m (n-m):=hj;rw[mq,ay hRd];unfold nQ;rw[List.getElem?_toArray,List.getElem?_append_left (by rw[List.length_replicate];omega),List.getElem?_replicate,jdf (by omega)])
   have ly:1<=Nat.min m (n-m):=by show 1<=min m (n-m);omega
   have kF:m+Nat.min m (n-m)<=n:=by show m+min m (n-m)<=n;omega
   have Ga:=ae UP;have jc:=ae ((HB.o.trans hBd).trans dP);have fQ:¬ n=m:=(by omega);clear UP dP FB hRd hBd;generalize Nat.min m (n-m)=c at *;have hwrap:IntKind.i64.wrap ((m:Int)+(c:Int))=(m:Int)+(c:Int):=by rw[jdR];omega
   go_wp2_with fail;go_region
   go_wp2_with fail;go_roundw
   case rel=>exact⟨m+c,by go_num,kF,Or.inr (by omega),Ga.o,jc.o⟩
   case measure=>simp[intOf];omega
  ·obtain rfl:m=n:=by omega
   have HO:jfb (dD wr w1.heap.size (.slice (some ⟨w1.heap.size,0,none⟩) m m) (List.replicate m 1)):=ae (by
    unfold dD;refine⟨by rw[ap];simp,Or.inr ⟨w1.heap.size,m,(nQ m m).toArray,by simp,jdh _,HR.o,by simp,by unfold maxLen;omega,by simp[tZ (jdh m)],?_⟩⟩;have:nQ m m=aF .u64 (List.replicate m 1):=by simp[nQ,aF]
    rw[this];simp[aF])
   have gL:¬ ((m:Nat):Int)<(m:Int):=(by omega);go_wp2_with fail;go_ret
   exact⟨⟨_,rfl,HO.o⟩,HB.o⟩
def Nu(n:Nat)(l:List Nat):Prop:=l.length=n/\∀ x∈l,x<2
def byH(b:List Nat)(n:Nat)(x r:List Nat):Prop:=∃ l:List (Nat×Int×List Nat),l.length=n/\x=bK l/\b=dF l++r
theorem Ny{b:List Nat}{f n:Nat}(hf:Er f)(hn:n<=256)(hx:chX b=1):RP (Nu n) (byH b n) f (unR (tkB (by8 n) b.tail) n 1) (tkR (by8 n) b.tail) (orf (tkF (by8 n) b.tail (chF b f)) (unE (tkB (by8 n) b.tail) n 1)):=by
 have hb:∃ t,b=1::t/\chF b f=f:=by
  cases b with
  | nil=>simp[chX]at hx
  | cons x t =>
   have:x=1:=by
    unfold chX at hx;simp only at hx;split at hx<;>omega
   subst this;exact⟨t,rfl,by simp[chF]⟩
 obtain⟨t,rfl,hcf⟩:=hb;rw[hcf,List.tail_cons];refine⟨(Bt hf).orf (show Er (unE _ n ((1:Nat):Int)) from Jm hn (by omega)),fun h=>?_,fun y r a1 a2 a3=>?_⟩
 ·obtain⟨h1,h2⟩:=bE h
  exact⟨(rB h1).1,kT h2⟩
 ·obtain⟨l,rfl,rfl,a6⟩:=a3
  unfold dF at a6;split at a6
  ·have h2:=dW l
   have hl:=eH h2 (by rw[bi];exact hn);have PH:=oC h2 (by rw[bi];exact hn);rw[bi]at hl PH;have ht:t=bg (bK l) 1++r:=by simpa using a6
   rw[ht,← hl,(gC (a:=bg (bK l) 1) f).1,(gC (a:=bg (bK l) 1) f).2.1,(gC (a:=bg (bK l) 1) f).2.2,PH.1,PH.2,a1];exact⟨rfl,rfl,rfl⟩
  ·simp at a6
theorem Jq{b:List Nat}{f n:Nat}(hf:Er f)(hn:n<=256)(hx:chX b≠1):RP (Nu n) (byH b n) f (List.replicate n 1) b.tail (chF b f):=by
 have hef:Er (chF b f)/\(chF b f=0->f=0):=by
  unfold chF;split
  ·exact⟨hf.orf WY,fun h=>(bE h).1⟩
  ·split
   ·exact⟨hf,fun h=>h⟩
   ·exact⟨hf.orf uD,fun h=>(bE h).1⟩
 refine⟨hef.1,fun h=>⟨hef.2 h,by simp,fun x hx=>by have:=je1 hx;omega⟩,fun y r a1 a2 a3=>?_⟩;obtain⟨l,rfl,rfl,a6⟩:=a3;unfold dF at a6;split at a6
 ·rw[a6]at hx
  exact absurd rfl hx
 ·next h0 =>
  have hcf:chF b f=f:=by rw[a6];simp[chF]
  rw[hcf,a6];exact⟨a1,(wm h0).symm,rfl⟩
theorem Nz{w:World}{p f:Nat}{b:List Nat}(h:Rs w p b f)(hf:Er f)(n:Nat)(hn:n<=256) :
  Calls Tryz.prog 262 #[.pointer (some ⟨p,0,none⟩),.int .i64 (n:Int)] w fun r w'=>∃ l b' f',(∃ v,r=.returned v/\dD w' w.heap.size v l)/\(∀ x∈l,x<2)/\l.length<=n/\Rs w' p b' f'/\RP (Nu n) (byH b n) f l b' f'/\Fr p w.heap.size w w':=by
 have HC:=ae (xn h);have aC:=h.lt;have H1:=ae (fun hx=>Ny (b:=b) hf hn hx);have H0:=ae (fun hx=>Jq (b:=b) hf hn hx)
 have Vy:chX b<=1:=by
  unfold chX;split
  ·omega
  ·split<;>omega
 clear h;generalize chX b=x at *;generalize chF b f=f1 at *;generalize b.tail=b1 at *;by_cases hx:x=1
 ·have HR:=ae (H1.o hx)
  clear H1 H0;subst hx;go_enter Tryz.func262,Tryz.ntmps262
  go_wp2_with fail;refine HC.o.mono ?_;rintro e w1 ⟨rfl,ek,dv⟩;have gg:=ae dv;have cY:=dv.size;have HP:=ae (tY ek n hn);clear ek dv;go_wp2_with fail;refine HP.o.mono ?_;rintro e w2 ⟨⟨v2,rfl,fx⟩,ei,dO⟩;have du:=ae (be fx cY);have gE:=ae ei;have gD:=ae (gg.o.trans (dO.mono cY));clear fx ei dO
  have Zo:(∀ x∈unR (tkB (by8 n) b1) n 1,x<2)/\(unR (tkB (by8 n) b1) n 1).length<=n:=by
   by_cases h0:unE (tkB (by8 n) b1) n 1=0
   ·exact⟨(kT h0).2,Nat.le_of_eq (kT h0).1⟩
   ·rw[wE h0]
    exact⟨fun x hx=>by simp at hx,by simp⟩
  have LS:=ae Zo;clear Zo;go_wp2_with fail;go_ret
  exact⟨_,_,_,⟨_,rfl,du.o⟩,LS.o.1,LS.o.2,gE.o,HR.o,gD.o⟩
 ·have HR:=ae (H0.o hx)
  clear H1 H0;obtain rfl:x=0:=by omega
  go_enter Tryz.func262,Tryz.ntmps262
  go_wp2_with fail;refine HC.o.mono ?_;rintro e w1 ⟨rfl,ek,dv⟩;have gg:=ae dv;have cY:=dv.size;have iO:=ae ek;have HP:=ae (Jp (aL w1 (.int .u64 1) 92) n hn);have bn:=jdi w1 (.cells #[.int .u64 1] 92);have aR:=ae (ak w1 (.cells #[.int .u64 1] 92));clear ek dv;go_wp2_with fail;refine HP.o.mono ?_;rintro e w2 ⟨⟨v2,rfl,fx⟩,aE⟩;have du:=ae (be (B:=w.heap.size) fx (by omega));have aQ:=aR.o.trans (aE.mono (by omega));have gE:=ae (iO.o.kept aQ iO.o.lt);have gD:=ae (gg.o.trans (Fr.of_below (aQ.mono cY)));clear fx aE aQ;go_wp2_with fail;go_ret
  exact⟨_,_,_,⟨_,rfl,du.o⟩,fun x hx=>by have:=je1 hx;omega,by simp,gE.o,HR.o,gD.o⟩
theorem pr{l:List Nat}{k:Nat}(h:k<l.length):(l.take (k+1)).sum=(l.take k).sum+l[k]:=by
 rw[jdx h,List.sum_append];simp
theorem rD:∀{l:List Nat},(∀ x∈l,x<2)->l.sum<=l.length
 | [],_=>by simp
 | x::t,h=>by
  have ih:=rD (l:=t) fun y hy=>h y (by simp[hy])
  have:=h x (by simp);rw[List.sum_cons,jdn];omega
theorem Tl{w:World}{v:Value}{l:List Nat}(hs:Sv w v (aF .u64 l))(h2:∀ x∈l,x<2)(hl:l.length<=256) :
  Calls Tryz.prog 264 #[v] w fun e w'=>e=.returned (.int .i64 (l.sum:Int))/\w'=w:=by
 have HS:=ae hs;have H2:=ae h2;obtain⟨a,cap,rfl,aY,bx⟩:=hs.form1;rw[ap]at *;have hcm':cap<=9223372036854775807:=by unfold maxLen at bx;omega
 clear hs h2 bx;go_enter Tryz.func264,Tryz.ntmps264
 go_wp2_with fail;go_loopw [3,8] (fun o i wr=>∃ k:Nat,k<=l.length/\o=.int .i64 ((l.take k).sum:Int)/\i=.int .i64 (k:Int)/\wr=w) (fun _ i _=>l.length-(intOf i).toNat)
 case atStart=>exact⟨0,by omega,rfl,rfl,rfl⟩
 case round =>
  obtain⟨k,hk,rfl,rfl,rfl⟩:=hrel
  have nV:(l.take k).sum<=256:=by
   have:=rD (l:=l.take k) fun x hx=>H2.o x (jd3 hx)
   rw[jdo]at this;omega
  by_cases aC:k<l.length
  ·obtain⟨b,off,rfl,hb,dR⟩:=HS.o.at1 (bS aC)
   have HT:=ae (pr aC);have hx:=H2.o l[k] (jdl aC);have hlt':(k:Int)<(l.length:Int):=(by omega);generalize l[k]=x at *;generalize (l.take k).sum=s at *;go_wp2_with fail;go_roundw
   case rel=>exact⟨k+1,by omega,by rw[HT.o];go_num,by go_num,trivial⟩
   case measure=>simp[intOf];omega
  ·obtain rfl:k=l.length:=by omega
   rw[jdp];have gL:¬ ((l.length:Nat):Int)<(l.length:Int):=(by omega);go_wp2_with fail;go_ret
   exact⟨rfl,rfl⟩
end Go.Proofs.YtpljdjmpamjkhaaGreatDoor
