import Derived.Test.YtpljdjmpamjkhaaGreatDoorSao
import Derived.RangeFuncNested
import Derived.RangeFuncBound
import Derived.Lib.SlBytesConst
set_option linter.all false
set_option maxRecDepth 100000
set_option maxHeartbeats 4000000
namespace Go.Proofs.YtpljdjmpamjkhaaGreatDoor
open Tryz
open Go.RowKit Go.Lib
def Nv(k n:Nat)(l:jgv):Prop:=l.length=n/\∀ c∈l,gM k c/\c.1≠0
def byT(k:Nat)(b:List Nat)(l:jgv)(r:List Nat):Prop:=b=jI k l/\r=[]
def xO{l:jgv}(h:∀ c∈l,c.1≠0):bP l=l:=by
 unfold bP;rw[List.filter_eq_self];intro c hc;simpa using h c hc
def Ve{f:Nat}{b:List Nat}(h:Er f):Er (orf f (if b.length=0 then 0 else 32)):=by
 refine h.orf ?_;split
 ·exact er0
 ·exact er32
def jcm{b:List Nat}{f n:Nat}(hb:Bs b)(hf:Er f)(hn:n<=256):RP (Nv 1 n) (byT 1 b) f ((aU b n).1.map λz=>(1,z,[])) [] (orf f (aU b n).2):=by
 refine⟨hf.orf (rI hn),λh=>?_,λy r a1 a2 a3=>?_⟩
 ·obtain⟨h1,h2⟩:=bm h
  obtain⟨h3,h4⟩:=iK hb h2;refine⟨h1,by rw[jeE];omega,λc hc=>?_⟩;obtain⟨z,hz,rfl⟩:=jeN.1 hc;exact⟨Or.inr (Or.inl ⟨rfl,z,rfl,h4 z hz⟩),by simp⟩
 ·have ho:=xO λc hc=>(a2.2 c hc).2
  have qu:=lM λc hc=>(a2.2 c hc).1
  rw[ho]at qu;have ap:b=dx (y.map λc=>c.2.1):=by rw[a3.1,Bx,ho]
  have Rb:=jX qu.1 (by rw[jeE];have:=a2.1;omega);rw[jeE,a2.1]at Rb;rw[ap,Rb,a1,a3.2];exact⟨rfl,qu.2,rfl⟩
def jcn{b:List Nat}{f n:Nat}(hf:Er f)(hn:n<=256):RP (Nv 2 n) (byT 2 b) f ((unR (tkB (by8 n) b) n 1).map λ(x:Nat)=>(2,(x:Int),[])) (tkR (by8 n) b) (orf (orf (tkF (by8 n) b f) (unE (tkB (by8 n) b) n 1)) (if (tkR (by8 n) b).length=0 then 0 else 32)):=by
 refine⟨Ve ((Ci hf).orf (show Er (unE _ n ((1:Nat):Int)) from Ke hn (by omega))),λh=>?_,λy r a1 a2 a3=>?_⟩
 ·obtain⟨h1,h2⟩:=bm (bm h).1
  obtain⟨h3,h4⟩:=lf h2;refine⟨(rJ h1).1,by rw[jeE];exact h3,λc hc=>?_⟩;obtain⟨z,hz,rfl⟩:=jeN.1 hc;exact⟨Or.inr (Or.inr (Or.inl ⟨rfl,z,rfl,h4 z hz⟩)),by simp⟩
 ·have ho:=xO λc hc=>(a2.2 c hc).2
  have qu:=jg λc hc=>(a2.2 c hc).1
  rw[ho]at qu;have ap:b=bi (y.map λc=>c.2.1.toNat) 1++[]:=by rw[a3.1,Bz,ho,jeS]
  have hm:(y.map λc=>c.2.1.toNat).length<=256:=by rw[jeE];have:=a2.1;omega
  have hl:=em qu.1 hm;have Rb:=oo qu.1 hm;rw[jeE,a2.1]at hl Rb;rw[ap,<- hl,(gq (a:=bi (y.map λc=>c.2.1.toNat) 1) (r:=[]) f).1,(gq (a:=bi (y.map λc=>c.2.1.toNat) 1) (r:=[]) f).2.1,(gq (a:=bi (y.map λc=>c.2.1.toNat) 1) (r:=[]) f).2.2,Rb.1,Rb.2,a1,a3.2];exact⟨rfl,qu.2,rfl⟩
def jco{b b1:List Nat}{f f1 n:Nat}{l:List (List Nat)}(h:RP (Nt n) (byW b) f l b1 f1):RP (Nv 3 n) (byT 3 b) f (l.map λs=>(3,0,s)) b1 (orf f1 (if b1.length=0 then 0 else 32)):=by
 obtain⟨r1,r2,r3⟩:=h;refine⟨Ve r1,λh=>?_,λy r a1 a2 a3=>?_⟩
 ·obtain⟨h1,h2,h3⟩:=r2 (bm h).1
  refine⟨h1,by rw[jeE];exact h2,λc hc=>?_⟩;obtain⟨s,hs,rfl⟩:=jeN.1 hc;exact⟨Or.inr (Or.inr (Or.inr ⟨rfl,s,rfl,h3 s hs⟩)),by simp⟩
 ·have ho:=xO λc hc=>(a2.2 c hc).2
  have qu:=kq λc hc=>(a2.2 c hc).1
  rw[ho]at qu;obtain⟨d1,d2,d3⟩:=r3 (y.map λc=>c.2.2) [] a1 ⟨by rw[jeE];exact a2.1,qu.1⟩ ⟨by rw[a3.1,BA,ho],rfl⟩;rw[d2,d3,d1,a3.2];exact⟨rfl,qu.2,rfl⟩
def Mj(k n:Nat)(b:List Nat)(p f:Nat)(w:World)(r:Ending)(w':World):Prop :=
 ∃ l b' f',(∃ v,r=.returned v/\OwnV w' w.heap.size v l)/\Rs w' p b' f'/\RP (Nv k n) (byT k b) f l b' f'/\Fr p w.heap.size w w'
def Vf{w:World}{p f:Nat}{b:List Nat}(h:Rs w p b f)(hf:Er f)(n:Nat)(hn:n<=256) :
  Calls prog 263 #[.pointer (some ⟨p,0,none⟩),.int .u8 1,.int .i64 (n:Int)] w (Mj 1 n b p f w):=by
 have ar:=h.lt;have HN:=ae (mS h n);have Ln:=ae (jcm h.bs hf hn);have Lo:=ae (pX h.bs hn);clear h;generalize (aU b n).1=L at *;generalize orf f (aU b n).2=f1 at *;have jE:=Lo.o.2;go_enter func263,ntmps263
 go_wp2_with fail;refine HN.o.mono ?_;rintro e w1 ⟨⟨v1,rfl,dM⟩,dr,cm⟩;have iW:=ae dr;have dN:=ae cm;have bW:=cm.size;have WI:=ae (Sv.of_own dM);have Rc:jgt (∀ j,v1.ownBlock=some j->j<w1.heap.size):=ae (λj hj=>(dM.lt j hj).2);obtain⟨a1,c1,rfl,ju,sw⟩:=aZ dM;have hcm1':c1<=9223372036854775807:=by unfold maxLen at sw;omega
 clear dr cm dM sw;go_wp2_with fail;go_loopw [7,21] (λo i wr=>∃ j:Nat,j<=L.length/\i=.int .i64 (j:Int)/\OwnV wr w1.heap.size o ((L.take j).map (λz=>((1,z,[]):jgw)))/\jgu w1 wr) (λ_ i _=>L.length-(intOf i).toNat)
 case atStart=>exact⟨0,by omega,rfl,OwnV.nil _ _,jez _ _⟩
 case round =>
  obtain⟨j,hj,rfl,ax,ao⟩:=hrel;have HO:=ae ax;have HB:=ae ao;have bF:=ao.size;clear ax ao;by_cases vG:j<L.length
  ·obtain⟨g,off,rfl,hg,bC⟩:=(WI.o.keptB Rc.o HB.o).at1 (ov vG)
   have hjl':(j:Int)<(L.length:Int):=(by omega)
   have mf:jgt ((L.take (j+1)).map (λz=>((1,z,[]):jgw))=(L.take j).map (λz=>((1,z,[]):jgw))++[(λz=>((1,z,[]):jgw)) L[j]]):=ae (by
    rw[jeO vG,jeR];rfl)
   have hlen':((L.take j).map (λz=>((1,z,[]):jgw))).length<=100000:=by rw[jeE,jeH];omega
   generalize L[j]=z at *;generalize (L.take j).map (λz=>((1,z,[]):jgw))=LL at *;go_wp2_with (first | (at_builtin;refine du rfl _ _ rfl w1.heap.size _ _ (1,z,[]) LL rfl (HO.o.kept (aj _ _)) rfl (aV _ _ _) hlen' ?c2 ?_))
   case c2=>first | omega | (rw[jeB];omega)
   intro v' w5 o5 b5;have dK:=ae o5;have bq:=ae ((HB.o.alloc bF _).trans b5);clear o5 b5;go_wp2_with fail;go_roundw
   case rel=>exact⟨j+1,by omega,by go_num,by rw[mf.o];exact dK.o,bq.o⟩
   case measure=>simp[intOf];omega
  ·obtain rfl:j=L.length:=by omega
   rw[jeJ]at HO;have ed:¬ ((L.length:Nat):Int)<(L.length:Int):=(by omega);have sg:=ae (iW.o.kept HB.o iW.o.lt);have iy:=ae (dN.o.trans (Fr.of_below (p:=p) (HB.o.mono bW)));generalize L.map (λz=>((1,z,[]):jgw))=X at *;go_wp2_with fail;refine(xM sg.o).mono ?_;rintro e w5 ⟨rfl,kT,iX⟩;have dK:jgt (OwnV w5 w1.heap.size _ X):=ae (iX.own HO.o (by omega));have oK:=ae kT;have Gp:=ae (iy.o.trans (iX.mono (by omega)));clear kT iX;go_wp2_with fail;go_ret
   exact⟨X,_,_,⟨_,rfl,bL dK.o bW⟩,oK.o,(by rw[show orf f1 (if ([]:List Nat).length=0 then 0 else 32)=f1 by unfold orf;split<;>simp_all];exact Ln.o),Gp.o⟩
def Vg{w:World}{p f:Nat}{b:List Nat}(h:Rs w p b f)(hf:Er f)(n:Nat)(hn:n<=256) :
  Calls prog 263 #[.pointer (some ⟨p,0,none⟩),.int .u8 2,.int .i64 (n:Int)] w (Mj 2 n b p f w):=by
 have ar:=h.lt;have HN:=ae (uH h n hn);have Ln:=ae (jcn (b:=b) hf hn)
 have Lo:jgt ((∀ x∈unR (tkB (by8 n) b) n 1,x<2)/\(unR (tkB (by8 n) b) n 1).length<=n):=ae (by
  by_cases h0:unE (tkB (by8 n) b) n 1=0
  ·exact⟨(lf h0).2,Nat.le_of_eq (lf h0).1⟩
  ·rw[wT h0]
   exact⟨λx hx=>by simp at hx,by simp⟩)
 clear h;generalize unR (tkB (by8 n) b) n 1=L at *;generalize orf (tkF (by8 n) b f) (unE (tkB (by8 n) b) n 1)=f1 at *;generalize tkR (by8 n) b=b1 at *;have jE:=Lo.o.2;go_enter func263,ntmps263
 go_wp2_with fail;refine HN.o.mono ?_;rintro e w1 ⟨⟨v1,rfl,dM⟩,dr,cm⟩;have iW:=ae dr;have dN:=ae cm;have bW:=cm.size;have WI:=ae (Sv.of_own dM);have Rc:jgt (∀ j,v1.ownBlock=some j->j<w1.heap.size):=ae (λj hj=>(dM.lt j hj).2);obtain⟨a1,c1,rfl,ju,sw⟩:=aZ dM;have hcm1':c1<=9223372036854775807:=by unfold maxLen at sw;omega
 clear dr cm dM sw;go_wp2_with fail;go_loopw [7,37] (λo i wr=>∃ j:Nat,j<=L.length/\i=.int .i64 (j:Int)/\OwnV wr w1.heap.size o ((L.take j).map (λ(x:Nat)=>((2,(x:Int),[]):jgw)))/\jgu w1 wr) (λ_ i _=>L.length-(intOf i).toNat)
 case atStart=>exact⟨0,by omega,rfl,OwnV.nil _ _,jez _ _⟩
 case round =>
  obtain⟨j,hj,rfl,ax,ao⟩:=hrel;have HO:=ae ax;have HB:=ae ao;have bF:=ao.size;clear ax ao;by_cases vG:j<L.length
  ·obtain⟨g,off,rfl,hg,bC⟩:=(WI.o.keptB Rc.o HB.o).at1 (bN vG)
   have hjl':(j:Int)<(L.length:Int):=(by omega)
   have mf:jgt ((L.take (j+1)).map (λ(x:Nat)=>((2,(x:Int),[]):jgw))=(L.take j).map (λ(x:Nat)=>((2,(x:Int),[]):jgw))++[(λ(x:Nat)=>((2,(x:Int),[]):jgw)) L[j]]):=ae (by
    rw[jeO vG,jeR];rfl)
   have hlen':((L.take j).map (λ(x:Nat)=>((2,(x:Int),[]):jgw))).length<=100000:=by rw[jeE,jeH];omega
   have Xv:=Lo.o.1 L[j] (jeD vG);generalize L[j]=x at *;generalize (L.take j).map (λ(x:Nat)=>((2,(x:Int),[]):jgw))=LL at *;obtain rfl | rfl:x=0∨x=1:=by omega
   ·skip
    go_wp2_with (first | (at_builtin;refine du rfl _ _ rfl w1.heap.size _ _ (2,((0:Nat):Int),[]) LL rfl (HO.o.kept (aj _ _)) rfl (aV _ _ _) hlen' ?c2 ?_))
    case c2=>first | omega | (rw[jeB];omega)
    intro v' w5 o5 b5;have dK:=ae o5;have bq:=ae ((HB.o.alloc bF _).trans b5);clear o5 b5;go_wp2_with fail;go_roundw
    case rel=>exact⟨j+1,by omega,by go_num,by rw[mf.o];exact dK.o,bq.o⟩
    case measure=>simp[intOf];omega
   ·skip
    go_wp2_with (first | (at_builtin;refine du rfl _ _ rfl w1.heap.size _ _ (2,((1:Nat):Int),[]) LL rfl (HO.o.kept (aj _ _)) rfl (aV _ _ _) hlen' ?c2 ?_))
    case c2=>first | omega | (rw[jeB];omega)
    intro v' w5 o5 b5;have dK:=ae o5;have bq:=ae ((HB.o.alloc bF _).trans b5);clear o5 b5;go_wp2_with fail;go_roundw
    case rel=>exact⟨j+1,by omega,by go_num,by rw[mf.o];exact dK.o,bq.o⟩
    case measure=>simp[intOf];omega
  ·obtain rfl:j=L.length:=by omega
   rw[jeJ]at HO;have ed:¬ ((L.length:Nat):Int)<(L.length:Int):=(by omega);have sg:=ae (iW.o.kept HB.o iW.o.lt);have iy:=ae (dN.o.trans (Fr.of_below (p:=p) (HB.o.mono bW)));generalize L.map (λ(x:Nat)=>((2,(x:Int),[]):jgw))=X at *;go_wp2_with fail;refine(xM sg.o).mono ?_;rintro e w5 ⟨rfl,kT,iX⟩;have dK:jgt (OwnV w5 w1.heap.size _ X):=ae (iX.own HO.o (by omega));have oK:=ae kT;have Gp:=ae (iy.o.trans (iX.mono (by omega)));clear kT iX;go_wp2_with fail;go_ret
   exact⟨X,_,_,⟨_,rfl,bL dK.o bW⟩,oK.o,Ln.o,Gp.o⟩
def Vh{w:World}{p f:Nat}{b:List Nat}(h:Rs w p b f)(hf:Er f)(n:Nat)(hn:n<=256) :
  Calls prog 263 #[.pointer (some ⟨p,0,none⟩),.int .u8 3,.int .i64 (n:Int)] w (Mj 3 n b p f w):=by
 have ar:=h.lt;have HN:=ae (Kg h hf n hn);clear h;go_enter func263,ntmps263
 go_wp2_with fail;refine HN.o.mono ?_;rintro e w1 ⟨L,b1,f1,⟨v1,rfl,dM⟩,GK,jE,dr,Rf,cm⟩;have Ln:=ae (jco Rf);clear GK Rf;have iW:=ae dr;have dN:=ae cm;have bW:=cm.size;have WI:=ae (Sv.of_own dM);have Rc:jgt (∀ j,v1.ownBlock=some j->j<w1.heap.size):=ae (λj hj=>(dM.lt j hj).2);obtain⟨a1,c1,rfl,ju,sw⟩:=aZ dM;have hcm1':c1<=9223372036854775807:=by unfold maxLen at sw;omega
 clear dr cm dM sw;go_wp2_with fail;go_loopw [7,54] (λo i wr=>∃ j:Nat,j<=L.length/\i=.int .i64 (j:Int)/\OwnV wr w1.heap.size o ((L.take j).map (λs=>((3,0,s):jgw)))/\jgu w1 wr) (λ_ i _=>L.length-(intOf i).toNat)
 case atStart=>exact⟨0,by omega,rfl,OwnV.nil _ _,jez _ _⟩
 case round =>
  obtain⟨j,hj,rfl,ax,ao⟩:=hrel;have HO:=ae ax;have HB:=ae ao;have bF:=ao.size;clear ax ao;by_cases vG:j<L.length
  ·obtain⟨g,off,rfl,hg,bC⟩:=(WI.o.keptB Rc.o HB.o).at1 (gF vG)
   have hjl':(j:Int)<(L.length:Int):=(by omega)
   have mf:jgt ((L.take (j+1)).map (λs=>((3,0,s):jgw))=(L.take j).map (λs=>((3,0,s):jgw))++[(λs=>((3,0,s):jgw)) L[j]]):=ae (by
    rw[jeO vG,jeR];rfl)
   have hlen':((L.take j).map (λs=>((3,0,s):jgw))).length<=100000:=by rw[jeE,jeH];omega
   rw[gB]at bC;generalize L[j]=s at *;generalize (L.take j).map (λs=>((3,0,s):jgw))=LL at *;go_wp2_with (first | (at_builtin;refine du rfl _ _ rfl w1.heap.size _ _ (3,0,s) LL rfl (HO.o.kept (aj _ _)) rfl (aV _ _ _) hlen' ?c2 ?_))
   case c2=>first | omega | (rw[jeB];omega)
   intro v' w5 o5 b5;have dK:=ae o5;have bq:=ae ((HB.o.alloc bF _).trans b5);clear o5 b5;go_wp2_with fail;go_roundw
   case rel=>exact⟨j+1,by omega,by go_num,by rw[mf.o];exact dK.o,bq.o⟩
   case measure=>simp[intOf];omega
  ·obtain rfl:j=L.length:=by omega
   rw[jeJ]at HO;have ed:¬ ((L.length:Nat):Int)<(L.length:Int):=(by omega);have sg:=ae (iW.o.kept HB.o iW.o.lt);have iy:=ae (dN.o.trans (Fr.of_below (p:=p) (HB.o.mono bW)));generalize L.map (λs=>((3,0,s):jgw))=X at *;go_wp2_with fail;refine(xM sg.o).mono ?_;rintro e w5 ⟨rfl,kT,iX⟩;have dK:jgt (OwnV w5 w1.heap.size _ X):=ae (iX.own HO.o (by omega));have oK:=ae kT;have Gp:=ae (iy.o.trans (iX.mono (by omega)));clear kT iX;go_wp2_with fail;go_ret
   exact⟨X,_,_,⟨_,rfl,bL dK.o bW⟩,oK.o,Ln.o,Gp.o⟩
def iu:∀(t:List Nat) (s:jgv),(gN t s).length=t.length
 | [],s=>rfl
 | x::t,s=>by
  unfold gN;split
  ·rw[jeI,jeI,iu t s]
  ·rw[jeI,jeI,iu t s.tail]
def tC:∀{t:List Nat} {s:jgv} {j:Nat},(∀ x∈t,x<2)->(h:j<t.length)->(gN t s)[j]?=some (if t[j]=0 then nul else s.getD (t.take j).sum nul)
 | x::t,s,0,h2,h=>by
  unfold gN;by_cases hx:x=0
  ·simp[hx]
  ·cases s<;>simp[hx]
 | x::t,s,j+1,h2,h=>by
  have ht:∀ y∈t,y<2:=λy hy=>h2 y (by simp[hy])
  unfold gN;by_cases hx:x=0
  ·have:=tC (s:=s) ht (show j<t.length by simpa using h)
   simp[hx,this]
  ·have Ra:x=1:=by have:=h2 x (by simp);omega
   have:=tC (s:=s.tail) ht (show j<t.length by simpa using h);rw[jex hx,List.getElem?_cons_succ,this]
   have e:s.tail.getD (t.take j).sum nul=s.getD (1+(t.take j).sum) nul:=by
    cases s with
    | nil=>simp
    | cons c s=>simp[List.getD_eq_getElem?_getD,Nat.add_comm 1]
   simp only[e,Ra,List.getElem_cons_succ,jf2,List.sum_cons]
def Kj{z:Value}{l:List Value}{i:Nat}(h:i<l.length)(he:l[i]=z):cT z l (i+1)=cT z l i:=by
 rw[<- lW h,he]
 have hg:(cT z l i)[i]?=some z:=by
  unfold cT;rw[List.getElem?_append_right (by rw[jeH];omega),jeH,jfp (by omega),jf4,List.getElem?_replicate,jey (by omega)]
 apply List.ext_getElem?
 intro k;rw[List.getElem?_set];by_cases hk:i=k
 ·subst hk
  rw[jey rfl,hg,jey (by rw[ir (by omega)];exact h)]
 ·rw[jex hk]
def Kk{w:World}{vt vs:Value}{t:List Nat}{s:jgv}(ht:Sv w vt (aA .u64 t))(h2:∀ x∈t,x<2)(hl:t.length<=256)(hs:Sv w vs (aE s))(oU:s.length=t.sum)(hnz:∀ c∈s,c.1≠0) :
  Calls prog 265 #[vt,vs] w λe w'=>(∃ v',e=.returned v'/\OwnV w' w.heap.size v' (gN t s))/\jgu w w':=by
 obtain⟨i0,hi,bR,hz1',aX⟩:=jeT wB;have HT:=ae ht;have HS:=ae hs;have H2:=ae h2;have HNZ:=ae hnz;obtain⟨a,cap,rfl,bg,bx⟩:=ht.form1;obtain⟨a2,cap2,rfl,MG,tO⟩:=hs.form1;rw[am]at *;rw[ay]at *;have hcm':cap<=9223372036854775807:=by unfold maxLen at bx;omega
 have hcm2':cap2<=9223372036854775807:=by unfold maxLen at tO;omega
 have jas:=ae (rL h2);obtain⟨D,hD⟩:∃ D,gN t s=D:=⟨_,rfl⟩;have hDl:D.length=t.length:=by rw[<- hD,iu]
 have WS:jgt (∀ k (h:k<t.length),(aE D)[k]?=some (cz (if t[k]=0 then nul else s.getD (t.take k).sum nul))):=ae (λk h=>by
  have:=tC (s:=s) h2 h;rw[hD]at this;simp[aE,this])
 rw[hD];have mI:=ae hDl;have HSUM:=ae oU;clear ht hs bx tO hD hDl h2 hnz;go_enter func265,ntmps265
 go_wp2_with (first | (refine jft _ rfl _ _ 79 rfl w.heap.size 78 i0 .nilIface 1 underlying79 hi bR hz1' .i64 .i64 _ _ t.length rfl rfl ?m1 ?m2 ?m3 ?m4 ?m5 ?_))
 case m1=>rfl
 case m2=>rfl
 case m3=>rw[aX];omega
 case m4=>unfold maxLen;omega
 case m5=>omega
 intro w4 gz iE;have bD:jgu w w4:=(jez _ _).grown iE (jeA _) (λk hk=>by cases hk)
 have ho4':w4.ownsRow w.heap.size 78 1 (.slice (some ⟨w.heap.size,0,none⟩) t.length t.length) t.length (cT .nilIface (aE D) 0):=by
  rw[mA,ay,mI.o,<- jfZ];simpa using gz
 have gT:=ae ho4';have cL:=ae bD;clear gz iE bD ho4';go_wp2_with fail;go_loopw [6,14] (λo i wr=>∃ k:Nat,o=.int .i64 ((t.take k).sum:Int)/\i=.int .i64 (k:Int)/\k<=t.length/\wr.ownsRow w.heap.size 78 1 (.slice (some ⟨w.heap.size,0,none⟩) t.length t.length) t.length (cT .nilIface (aE D) k)/\jgu w wr) (λ_ i _=>t.length-(intOf i).toNat)
 case atStart=>exact⟨0,rfl,rfl,by omega,gT.o,cL.o⟩
 case round =>
  obtain⟨k,rfl,rfl,hk,how,ao⟩:=hrel;have HB:=ae ao;have HO:=ae how;have bF:=ao.size;clear ao how;by_cases ar:k<t.length
  ·have hkD:k<(aE D).length:=by rw[ay,mI.o];exact ar
   have hval:(aE D)[k]=cz (if t[k]=0 then nul else s.getD (t.take k).sum nul):=by
    have:=WS.o k ar;rw[List.getElem?_eq_getElem hkD]at this;exact Option.some.inj this
   obtain⟨b,off,rfl,hb,eP⟩:=(HT.o.kept HB.o).at1 (bN ar);have Xv:=H2.o t[k] (jeD ar);have ye:=ae (pi ar);have hlt':(k:Int)<(t.length:Int):=(by omega)
   have hsk:(t.take k).sum<=256:=by
    have:=rL (l:=t.take k) λx hx=>H2.o x (jfn hx)
    rw[jeH]at this;omega
   by_cases hx:t[k]=0
   ·rw[jey hx]at hval
    have yq:=ae (Kj (z:=.nilIface) hkD hval);rw[hx]at eP ye;clear hval hx Xv;generalize (t.take k).sum=sm at *;go_wp2_with fail;go_roundw
    case rel=>exact⟨k+1,by rw[ye.o,jfk],by go_num,by omega,by rw[yq.o];exact HO.o,HB.o⟩
    case measure=>simp[intOf];omega
   ·have Ra:t[k]=1:=by omega
    rw[jex hx]at hval
    have eg:(t.take k).sum<s.length:=by
     have h1:(t.take (k+1)).sum<=t.sum:=by
      conv=>rhs;rw[<- jfz (k+1) t,List.sum_append]
      omega
     rw[ye.o,Ra]at h1;rw[HSUM.o];omega
    have ef:s.getD (t.take k).sum nul=s[(t.take k).sum]:=by rw[List.getD_eq_getElem?_getD,List.getElem?_eq_getElem eg];rfl
    rw[ef]at hval;obtain⟨b2,off2,rfl,ap,CZ⟩:=(HS.o.kept HB.o).at1 (cw eg);obtain⟨tt,uu,MP⟩:=jU s[(t.take k).sum] (HNZ.o _ (jeD eg));rw[MP]at CZ hval;rw[Ra]at eP ye;have eI:k<(cT .nilIface (aE D) k).length:=by rw[ir (by omega)];exact hkD
    have yq:=ae (lW (z:=.nilIface) hkD);rw[hval]at yq;have eQ:=HO.o;have Gm:=(eQ.cellAt k (by omega)).trans (List.getElem?_eq_getElem eI);have Gn:=eQ.frozenAt k;have hST:=eQ.stored k (.iface tt uu);rw[yq.o]at hST;have cF:=ae hST;have RD:=(eQ.lt w.heap.size rfl).2;clear hST eQ hval MP ef hx Ra Xv;generalize (cT .nilIface (aE D) k)[k]=y at *;generalize (t.take k).sum=sm at *;have hsl':(sm:Int)<(s.length:Int):=(by omega);go_wp2_with fail;go_roundw
    case rel=>exact⟨k+1,by rw[ye.o];go_num,by go_num,by omega,cF.o.1,cP HB.o (jeA _) _⟩
    case measure=>simp[intOf];omega
  ·obtain rfl:k=t.length:=by omega
   have e:cT .nilIface (aE D) t.length=aE D:=by
    have:=oD .nilIface (aE D);rwa[ay,mI.o]at this
   rw[e]at HO
   have HO':jgt (OwnV wr w.heap.size (.slice (some ⟨w.heap.size,0,none⟩) t.length t.length) D):=ae (by
    unfold OwnV;rw[mI.o];exact HO.o)
   have ed:¬ ((t.length:Nat):Int)<(t.length:Int):=(by omega);clear HO e;go_wp2_with fail;go_ret
   exact⟨⟨_,rfl,HO'.o⟩,HB.o⟩
def rM(n k:Nat):List Nat:=(le4 n).take k++List.replicate (4-k) 0
def PU(n:Nat){k:Nat}(h:k<=4):(rM n k).length=4:=by
 unfold rM;simp[le4]
 omega
def PW(n:Nat){k:Nat}(h:k<4):(rM n k).set k (n / 2 ^ (8*k) % 256)=rM n (k+1):=by
 have hk:k=0∨k=1∨k=2∨k=3:=by omega
 rcases hk with rfl | rfl | rfl | rfl<;>simp[rM,le4]
def PX(n:Nat)(hn:n<9223372036854775808)(w:World):Calls prog 85 #[.int .i64 (n:Int)] w (ee w (le4 n)):=by
 obtain⟨i0,hi,bR,hz1',aX⟩:=jeT nl;go_enter func85,ntmps85
 go_wp2_with (first | (refine jft _ rfl _ _ 30 rfl w.heap.size 5 i0 (.int .u8 0) 1 underlying30 hi bR hz1' .i64 .i64 _ _ 4 rfl rfl ?m1 ?m2 ?m3 ?m4 ?m5 ?_))
 case m1=>rfl
 case m2=>rfl
 case m3=>rw[aX];omega
 case m4=>unfold maxLen;omega
 case m5=>omega
 intro w4 gz iE;have bD:jgu w w4:=(jez _ _).grown iE (jeA _) (λk hk=>by cases hk)
 have gT:jgt (aM w4 w.heap.size (.slice (some ⟨w.heap.size,0,none⟩) 4 4) (rM n 0)):=ae (by
  unfold aM;have h9:=gz;rw[kf]at h9;exact h9)
 have cL:=ae bD;clear gz iE bD;go_wp2_with fail;go_loopw [8] (λi wr=>∃ k:Nat,k<=4/\i=.int .i64 (k:Int)/\aM wr w.heap.size (.slice (some ⟨w.heap.size,0,none⟩) 4 4) (rM n k)/\jgu w wr) (λi _=>4-(intOf i).toNat)
 case atStart=>exact⟨0,by omega,rfl,gT.o,cL.o⟩
 case round =>
  obtain⟨k,hk,rfl,ax,ao⟩:=hrel;have HO:=ae ax;have HB:=ae ao;have bF:=ao.size;clear ax ao;by_cases ar:k<4
  ·have hlt':(k:Int)<4:=by omega
   have bH:(rM n k).length=4:=PU n hk;obtain⟨hc,hf⟩:=HO.o.at (j:=k) (by omega);have cF:=ae (HO.o.stored k (n / 2 ^ (8*k) % 256));have yq:=ae (PW n ar);rw[yq.o]at cF;have AK:((n / 2 ^ (8*k) % 256:Nat):Int)=(n:Int) / 2 ^ (8*k) % 256:=by simp
   rw[AK]at cF;clear yq AK;go_wp2_with fail;go_roundw
   case rel=>exact⟨k+1,by omega,by go_num,cF.o,cP HB.o (jeA _) _⟩
   case measure=>simp[intOf];omega
  ·obtain rfl:k=4:=by omega
   have ed:¬ ((4:Nat):Int)<4:=(by omega);go_wp2_with fail;go_ret
   refine⟨⟨_,rfl,?_⟩,HB.o⟩;simpa [rM,le4]using HO.o
def Rv(W:World)(v:Value)(rs:List Row):Prop :=
 ∃ a cap,v=.slice a rs.length cap/\rs.length<=cap/\cap<=maxLen/\(a=none->cap=0)/\(0<rs.length->∃ b off,a=some ⟨b,off,none⟩/\b<W.heap.size/\∀ j (h:j<rs.length),∃ rv,W.cell? ⟨b,off+j,none⟩=some rv/\Sv W rv (aE rs[j]))
def Rv.kept{W W':World}{v:Value}{rs:List Row}(h:Rv W v rs)(hb:jgu W W'):Rv W' v rs:=by
 obtain⟨a,cap,h1,h2,h3,h4,h5⟩:=h;refine⟨a,cap,h1,h2,h3,h4,λh0=>?_⟩;obtain⟨b,off,h6,h7,h8⟩:=h5 h0;refine⟨b,off,h6,jeY h7 hb.size,λj hj=>?_⟩;obtain⟨rv,h9,vJ⟩:=h8 j hj;exact⟨rv,(hb.cell (p:=⟨b,off+j,none⟩) h7).trans h9,vJ.kept hb⟩
def Rv.nil(W:World):Rv W (.slice none 0 0) []:=⟨none,0,rfl,jeA _,by unfold maxLen;omega,λ_=>rfl,λh=>by simp at h⟩
def Rv.form{W:World}{v:Value}{rs:List Row}(h:Rv W v rs):∃ a cap,v=.slice a rs.length cap/\rs.length<=cap/\cap<=9223372036854775807/\(a=none->cap=0):=by
 obtain⟨a,cap,h1,h2,h3,h4,_⟩:=h;exact⟨a,cap,h1,h2,by unfold maxLen at h3;omega,h4⟩
def Rv.at{W:World}{a:Option Addr}{n cap:Nat}{rs:List Row}(h:Rv W (.slice a n cap) rs){k:Nat}(hk:k<rs.length) :
  ∃ b off rv,a=some ⟨b,off,none⟩/\b<W.heap.size/\W.cell? ⟨b,off+k,none⟩=some rv/\Sv W rv (aE rs[k]):=by
 obtain⟨a',cap',e,h1,h2,h3,h4⟩:=h;simp only[Value.slice.injEq]at e;obtain⟨rfl,_,_⟩:=e;obtain⟨b,off,rfl,h5,h6⟩:=h4 (by omega);obtain⟨rv,h7,h8⟩:=h6 k hk;exact⟨b,off,rv,rfl,h5,h7,h8⟩
def xP(c:Cl):cz c=.nilIface∨∃ t u,cz c=.iface t u:=by
 unfold cz;split
 ·exact Or.inl rfl
 ·split
  ·exact Or.inr ⟨_,_,rfl⟩
  ·split<;>exact Or.inr ⟨_,_,rfl⟩
def Cj{w:World}{v:Value}{rs:List Row}(hs:Rv w v rs)(hl:rs.length<=1000){c:Nat}(hc:∀ r∈rs,c<r.length) :
  Calls prog 58 #[v,.int .i64 (c:Int)] w λe w'=>(∃ v',e=.returned v'/\OwnV w' w.heap.size v' (cx rs c))/\jgu w w':=by
 obtain⟨i0,hi,bR,hz1',aX⟩:=jeT wB;have HS:=ae hs;obtain⟨a,cap,rfl,bg,bx,_⟩:=hs.form;obtain⟨D,hD⟩:∃ D,cx rs c=D:=⟨_,rfl⟩;have hDl:D.length=rs.length:=by rw[<- hD,cK]
 have WS:jgt (∀ k (h:k<rs.length),(aE rs[k])[c]?=some (cz (rs[k].getD c nul))/\∃ h2:k<(aE D).length,(aE D)[k]=cz (rs[k].getD c nul)):=ae (λk h=>by
  have h3:=hc _ (jeD h);refine⟨by simp[aE,List.getD_eq_getElem?_getD,List.getElem?_eq_getElem h3],by rw[ay];omega,?_⟩;simp[aE,<- hD,cx])
 rw[hD];have mI:=ae hDl;clear hs hD hDl hc;go_enter func58,ntmps58
 go_wp2_with (first | (refine jft _ rfl _ _ 79 rfl w.heap.size 78 i0 .nilIface 1 underlying79 hi bR hz1' .i64 .i64 _ _ rs.length rfl rfl ?m1 ?m2 ?m3 ?m4 ?m5 ?_))
 case m1=>rfl
 case m2=>rfl
 case m3=>rw[aX];omega
 case m4=>unfold maxLen;omega
 case m5=>omega
 intro w4 gz iE;have bD:jgu w w4:=(jez _ _).grown iE (jeA _) (λk hk=>by cases hk)
 have ho4':w4.ownsRow w.heap.size 78 1 (.slice (some ⟨w.heap.size,0,none⟩) rs.length rs.length) rs.length (cT .nilIface (aE D) 0):=by
  rw[mA,ay,mI.o,<- jfZ];simpa using gz
 have gT:=ae ho4';have cL:=ae bD;clear gz iE bD ho4';go_wp2_with fail;go_loopw [13] (λi wr=>∃ k:Nat,i=.int .i64 (k:Int)/\k<=rs.length/\wr.ownsRow w.heap.size 78 1 (.slice (some ⟨w.heap.size,0,none⟩) rs.length rs.length) rs.length (cT .nilIface (aE D) k)/\jgu w wr) (λi _=>rs.length-(intOf i).toNat)
 case atStart=>exact⟨0,rfl,by omega,gT.o,cL.o⟩
 case round =>
  obtain⟨k,rfl,hk,how,ao⟩:=hrel;have HB:=ae ao;have HO:=ae how;have bF:=ao.size;clear ao how;by_cases ar:k<rs.length
  ·obtain⟨hval,hkD,MR⟩:=WS.o k ar
   obtain⟨b,off,rv,rfl,hb,eP,iF⟩:=(HS.o.kept HB.o).at ar;have hvl:=ay rs[k];obtain⟨ra,rcap,rfl,Rg,CT⟩:=iF.form1;obtain⟨b2,off2,rfl,ap,CZ⟩:=iF.at1 hval;have hclt:=(List.getElem?_eq_some_iff.1 hval).1;have hlt':(k:Int)<(rs.length:Int):=(by omega);have hclt':(c:Int)<((aE rs[k]).length:Int):=(by omega);have eI:k<(cT .nilIface (aE D) k).length:=by rw[ir (by omega)];exact hkD
   have hrc2':rcap<=9223372036854775807:=by unfold maxLen at CT;omega
   rcases xP (rs[k].getD c nul)with h0 | ⟨tt,uu,h0⟩
   all_goals rw[h0]at CZ MR
   all_goals have yq:=ae (lW (z:=.nilIface) hkD)
   all_goals rw[MR]at yq
   all_goals have eQ:=HO.o
   all_goals have Gm:=(eQ.cellAt k (by omega)).trans (List.getElem?_eq_getElem eI)
   all_goals have Gn:=eQ.frozenAt k
   ·have hST:=eQ.stored k .nilIface
    rw[yq.o]at hST;have cF:=ae hST;clear hST eQ hval MR iF h0 hvl;generalize (cT .nilIface (aE D) k)[k]=y at *;generalize (aE rs[k]).length=m at *;go_wp2_with fail;go_roundw
    case rel=>exact⟨k+1,by go_num,by omega,cF.o.1,cP HB.o (jeA _) _⟩
    case measure=>simp[intOf];omega
   ·have hST:=eQ.stored k (.iface tt uu)
    rw[yq.o]at hST;have cF:=ae hST;clear hST eQ hval MR iF h0 hvl;generalize (cT .nilIface (aE D) k)[k]=y at *;generalize (aE rs[k]).length=m at *;go_wp2_with fail;go_roundw
    case rel=>exact⟨k+1,by go_num,by omega,cF.o.1,cP HB.o (jeA _) _⟩
    case measure=>simp[intOf];omega
  ·obtain rfl:k=rs.length:=by omega
   have e:cT .nilIface (aE D) rs.length=aE D:=by
    have:=oD .nilIface (aE D);rwa[ay,mI.o]at this
   rw[e]at HO
   have HO':jgt (OwnV wr w.heap.size (.slice (some ⟨w.heap.size,0,none⟩) rs.length rs.length) D):=ae (by
    unfold OwnV;rw[mI.o];exact HO.o)
   have ed:¬ ((rs.length:Nat):Int)<(rs.length:Int):=(by omega);clear HO e;go_wp2_with fail;go_ret
   exact⟨⟨_,rfl,HO'.o⟩,HB.o⟩
def bX(g:Nat)(rs:List Row)(j:Nat):(prt g rs j).length=min (rs.length-j*g) g:=by
 unfold prt;rw[jeH,jeX];omega
def gG(fs:List Fd)(rs:List Row):Prop:=∀ r∈rs,iY fs r=0/\∀ c∈r,aI c
def gG.part{fs:List Fd}{rs:List Row}(h:gG fs rs)(g j:Nat):gG fs (prt g rs j):=λr hr=>h r (jgi (jfn hr))
def Fq:∀{fs:List Fd} {r:Row} {k:Nat},qx fs r=0->r.length=fs.length->∀(h:k<fs.length) (h2:k<r.length),qw fs[k] r[k]=0
 | f::t,c::r,k,h,hl,h1,h2=>by
  unfold qx at h;by_cases hm:qw f c=0
  ·rw[jey hm]at h
   cases k with
   | zero=>exact hm
   | succ k=>exact Fq (k:=k) h (by simpa using hl) (by simpa using h1) (by simpa using h2)
  ·rw[jex hm]at h
   exact absurd h hm
 | [],r,k,h,hl,h1,h2=>by simp at h1
 | f::t,[],k,h,hl,h1,h2=>by simp at h2
def PY{f:Fd}{c:Cl}(h:qw f c=0):c.1=0∨c.1=f.2.2.1:=by
 unfold qw at h;by_cases h0:c.1=0
 ·exact Or.inl h0
 ·rw[jex h0]at h
  by_cases h1:c.1≠f.2.2.1
  ·rw[jey h1]at h
   cases h
  ·exact Or.inr (by omega)
def fG{fs:List Fd}{p:List Row}(h:gG fs p)(hk:∀ f∈fs,1<=f.2.2.1/\f.2.2.1<=3)(hl:p.length<=256){k:Nat}(uS:k<fs.length):Col (mW fs k) (cx p k):=by
 rw[nK uS];refine⟨hk _ (jeD uS),by rw[cK];exact hl,λc hc=>?_⟩;obtain⟨r,hr,rfl⟩:=jeN.1 hc;obtain⟨h1,h2⟩:=h r hr;have h3:=ob h1;have ar:k<r.length:=by omega
 rw[List.getD_eq_getElem?_getD,List.getElem?_eq_getElem ar]
 have hf:qx fs r=0:=by
  unfold iY at h1;rwa[jex (by omega)]at h1
 exact(h2 _ (jeD ar)).cellk (PY (Fq hf h3 uS ar))
def Zn{k n:Nat}{l:List Cl}(hc:Col k l)(hn:l.length=n)(c b:List Nat):ip k n (es k l++c,uv (es k l).length++b,false)=(l,c,b,false):=by
 have hs:=(jh hc).1;obtain⟨h1,h2,h3⟩:=pQ (lo:=0) (hi:=(es k l++c).length) (n:=(es k l).length) (jfl _) (by simp) (by omega) b;unfold ip;simp only[h1,h2,h3];rw[jfo,jfc,<- hn,Hx hc];rfl
def Vi{fs:List Fd}{p:List Row}{n:Nat}(gl:∀ k,k<fs.length->Col (mW fs k) (cx p k))(hn:p.length=n):∀{k:Nat},k<=fs.length->∀ c b:List Nat,
  grK fs n (gh fs p k++c,ftK fs p k++b,false) k=(fF n ((List.range k).map (cx p)),((List.range k).map λi=>bO (cx p i)),(c,b,false)):=by
 intro k;induction k with
 | zero =>
  intro _ c b;show (List.replicate n ([]:Row),([]:List Stt),_)=_
  simp[xI,gh,ftK]
 | succ k ih =>
  intro hk c b;rw[rC (by omega),oB,rz,jeQ,jeQ,jeQ,ih (by omega)];have bH:(cx p k).length=n:=by rw[cK];exact hn
  have hc:=gl k (by omega);rw[nK (by omega)]at hc;unfold grS;simp only[nK (show k<fs.length by omega)];rw[Zn hc bH];simp only[Ze];rw[xJ bH,jfL,jeR,jeR];rfl
def grp(fs:List Fd)(p:List Row):Gr:=(p,(List.range fs.length).map λi=>bO (cx p i))
def Vj{fs:List Fd}{g:Nat}{rs:List Row}(hr:gG fs rs)(hk:∀ f∈fs,1<=f.2.2.1/\f.2.2.1<=3)(hg:g<=64):∀(j:Nat) (c b:List Nat),
  fiJ fs g rs.length (oS fs g rs j++c,ftJ fs g rs j++b,false) j=((List.range j).map λi=>grp fs (prt g rs i),(c,b,false)):=by
 intro j;induction j with
 | zero=>intro c b;rfl
 | succ j ih =>
  intro c b;have hp:=hr.part g j;have hl:=bX g rs j;have h1:=Vi (fs:=fs) (p:=prt g rs j) (λk uS=>fG hp hk (by omega) uS) rfl (jeA _) c b;rw[hl]at h1
  have h0:fiJ fs g rs.length (oS fs g rs (j+1)++c,ftJ fs g rs (j+1)++b,false) j=((List.range j).map λi=>grp fs (prt g rs i),(gh fs (prt g rs j) fs.length++c,ftK fs (prt g rs j) fs.length++b,false)):=by
   rw[Ao,EL,jeQ,jeQ];exact ih _ _
  have ft:fF (min (rs.length-j*g) g) ((List.range fs.length).map (cx (prt g rs j)))=prt g rs j:=by
   rw[<- hl];exact EN (λr qt=>ob (hp r qt).1)
  show ((fiJ fs g rs.length _ j).1++[_],_)=_
  rw[h0];simp only;rw[h1,ft,jfL,jeR];rfl
def Vk(g:Nat)(hg:0<g):nps g 0=0:=by
 unfold nps;rw[jeU,Nat.div_eq_of_lt (by omega)]
def kH{g n j:Nat}(hg:0<g):j<nps g n↔j*g<n:=by
 unfold nps;constructor
 ·intro h
  have h1:=(Nat.le_div_iff_mul_le hg).1 (show j+1<=(n+g-1) / g by omega);rw[jfd]at h1;omega
 ·intro h
  have:j+1<=(n+g-1) / g:=(Nat.le_div_iff_mul_le hg).2 (by rw[jfd];omega);omega
def As{g:Nat}{rs:List Row}:∀ j:Nat,((List.range j).map (prt g rs)).flatten=rs.take (j*g)
 | 0=>by simp
 | j+1=>by
  rw[jfL,jeR,jgg,As j];simp only[je4,jfr,jfO,List.flatten_nil,jeS];unfold prt;rw[jfd,jfT,List.take_add]
def rN{g:Nat}(hg:0<g)(rs:List Row):(xF g rs).flatten=rs:=by
 unfold xF;rw[As];apply jfi
 have h:=(kH (n:=rs.length) (j:=nps g rs.length) hg);omega
def Fs(fs:List Fd){g:Nat}(hg:0<g)(rs:List Row):bJ ((List.range (nps g rs.length)).map λi=>grp fs (prt g rs i))=rs:=by
 unfold bJ;rw[jfa];exact rN hg rs
def Ft:∀{l a:List Fd},fe a l=0->∀ f∈l,1<=f.2.2.1/\f.2.2.1<=3
 | [],_,_=>λf hf=>by simp at hf
 | f::t,a,h=>by
  unfold fe at h;by_cases hm:fS a f=0
  ·rw[jey hm]at h
   intro x hx;rcases jeL.1 hx with rfl | hx
   ·unfold fS at hm
    unfold kW at hm;simp only[jfU]at hm;repeat' (split at hm)
    all_goals first | (cases hm;done) | omega
   ·exact Ft h x hx
  ·rw[jex hm]at h
   exact absurd h hm
def gR{id:Nat}{l:List Fd}(h:chk id l=0):∀ f∈l,1<=f.2.2.1/\f.2.2.1<=3:=by
 unfold chk at h;split at h
 ·cases h
 ·exact Ft h
def Kl{id:Nat}{fs:List Fd}{rs:List Row}{g:Nat}(pq:id<4294967296)(ho:∀ f∈fs,Okf f)(hc:chk id fs=0)(hr:gG fs rs)(hl:rs.length<=256)(dP:1<=g)(fY:g<=64)
  (lA:(jp id fs rs g).length<4294967296):jq (lU id fs rs g)=some (id,fs,g,(List.range (nps g rs.length)).map λi=>grp fs (prt g rs i)):=by
 obtain⟨hrise,h0,h8,hi0⟩:=qA hc
 have hz:szs fs<5000:=by
  have fR:fe [] fs=0:=by
   unfold chk at hc;rw[jex (by omega)]at hc;exact hc
  have hn:=qB fR
  have:∀ m:List Fd,(∀ f∈m,f.2.1.size<=16)->szs m<=16*m.length:=by
   intro m;induction m with
   | nil=>intro _;simp[szs]
   | cons x t ih =>
    intro hx;have h1:=ih (λf hf=>hx f (jfS _ hf));have h2:=hx x (List.mem_cons_self ..);unfold szs at *;simp only[je4,List.sum_cons,jeI];omega
  have:=this fs hn;omega
 have bH:(lU id fs rs g).length-4=(oS fs g rs (nps g rs.length)++jp id fs rs g).length:=by
  unfold lU;rw[jeC];simp[le4]
 have h4:¬ (lU id fs rs g).length<4:=by
  unfold lU;rw[jeC];simp[le4]
 have hd:(lU id fs rs g).drop ((lU id fs rs g).length-4)=le4 (jp id fs rs g).length:=by
  rw[bH];unfold lU;rw[jfc]
 have ht:(lU id fs rs g).take ((lU id fs rs g).length-4)=oS fs g rs (nps g rs.length)++jp id fs rs g:=by
  rw[bH];unfold lU;rw[jfo]
 have Wq:leN (le4 (jp id fs rs g).length)=(jp id fs rs g).length:=BZ lA
 have hcut:(lU id fs rs g).length-4-(jp id fs rs g).length=(oS fs g rs (nps g rs.length)).length:=by
  rw[bH,jeC];omega
 have Wn:(lU id fs rs g).take (oS fs g rs (nps g rs.length)).length=oS fs g rs (nps g rs.length):=by
  unfold lU;rw[jeQ,jfo]
 unfold jq;rw[jex h4,hd,Wq,jex (by rw[bH,jeC];omega),ht,hcut,jfc,Wn]
 have hun:cD (jp id fs rs g)=.ok ((id,fs),uv rs.length++(uv g++ftJ fs g rs (nps g rs.length))):=by
  unfold jp;rw[jeQ,jeQ];have h1:=Dz pq ho hz (by omega) (uv rs.length++(uv g++ftJ fs g rs (nps g rs.length)));rw[jey hc]at h1;exact h1
 rw[hun];simp only;obtain⟨a1,a2,a3⟩:=pQ (lo:=0) (hi:=256) (n:=rs.length) (jfl _) hl (by omega) (uv g++ftJ fs g rs (nps g rs.length));obtain⟨b1,b2,b3⟩:=pQ (lo:=1) (hi:=64) (n:=g) dP fY (by omega) (ftJ fs g rs (nps g rs.length))
 have hrest:gQ fs (oS fs g rs (nps g rs.length)) (uv rs.length++(uv g++ftJ fs g rs (nps g rs.length)))=((List.range (nps g rs.length)).map λi=>grp fs (prt g rs i),([],[],false)):=by
  unfold gQ;rw[a1,a2,a3,b1,b2,b3];have:=Vj hr (gR hc) fY (nps g rs.length) [] [];rw[jeS,jeS]at this;exact this
 rw[hrest,a3,b2];rfl
open Go.Shelf
attribute [local go_sem] Oper.semAt_some
def Au(b off n g j:Nat):Value:=if j*g<n then .slice (some ⟨b,off+j*g,none⟩) (min g (n-j*g)) (min g (n-j*g)) else .slice none 0 0
def KC(p q:Nat)(A B:World):Prop:=B.heap[p]?=A.heap[p]?/\B.heap[q]?=A.heap[q]?
def KC.refl(p q:Nat)(A:World):KC p q A A:=⟨rfl,rfl⟩
def KC.trans{p q:Nat}{A B C:World}(h:KC p q A B)(k:KC p q B C):KC p q A C:=⟨k.1.trans h.1,k.2.trans h.2⟩
def KC.drewN{p q:Nat}{A B:World}(h:KC p q A B)(n:Nat):KC p q A (B.drewN n):=h
def KC.cells{p q:Nat}{A B:World}(h:KC p q A B):(∀ i,B.cell? ⟨p,i,none⟩=A.cell? ⟨p,i,none⟩)/\∀ i,B.cell? ⟨q,i,none⟩=A.cell? ⟨q,i,none⟩ :=
 ⟨λi=>by simp only[World.cell?,h.1],λi=>by simp only[World.cell?,h.2]⟩
def PZ(m:Nat)(hm:1<=m)(l Bs Bn b off n cap g:Nat)(dP:1<=g)(fY:g<=64)(hn:n<=256)(ju:n<=cap)(jv:cap<=9223372036854775807)(J Jx:List Nat->World->Prop)
  (hY:∀ pre x W,J pre W->pre.length<nps g n->YieldAt Fence.wide (m-1) prog l #[Au b off n g x] W λe W' =>
   (e=.returned (.bool true)/\J (pre++[x]) W'/\KC Bs Bn W W')∨(e=.returned (.bool false)/\Jx (pre++[x]) W'))
  (hJd:∀ pre W k,J pre W->J pre (World.drewN W k))
  (W:World) (hBs:W.cell? ⟨Bs,0,none⟩=some (.slice (some ⟨b,off,none⟩) n cap)) (hBn:W.cell? ⟨Bn,0,none⟩=some (.int .i64 (g:Int))) (h0:J [] W) :
  CallsIn Fence.wide m prog 121 #[.func (.yield l) #[] #[],.pointer (some ⟨Bs,0,none⟩),.pointer (some ⟨Bn,0,none⟩)] W λe W'=>(∃ v,e=.returned v) /\
   ((∃ ys,ys=List.range (nps g n)/\J ys W')∨(∃ pre,(∃ k,pre=List.range k)/\Jx pre W')):=by
 refine callsIn_of_wp func121 rfl trivial ?_ rfl;simp only[ntmps121,List.size_toArray,jeI,jeZ,Nat.reduceAdd,Nat.reduceSub,Array.replicate_succ,Array.replicate_zero,List.push_toArray,List.append_toArray,jfu,je5];have XK:jgt (∀ k,k<nps g n↔k*g<n):=ae (λk=>kH (by omega));gi_wp2
 gi_loopw [4] (λi wr=>∃ k:Nat,k<=nps g n/\i=.int .i64 ((k*g:Nat):Int)/\J (List.range k) wr/\KC Bs Bn W wr)
  (λi _=>n+64-(intOf i).toNat)
 case atStart=>exact⟨0,jfl _,by simp,h0,KC.refl _ _ _⟩
 case round =>
  obtain⟨k,hk,rfl,hJs,yo⟩:=hrel;have HJS:=ae hJs;have mf:=ae yo;have CZ:wr.cell? ⟨Bs,0,none⟩=some (.slice (some ⟨b,off,none⟩) n cap):=(yo.cells.1 0).trans hBs;have vI:wr.cell? ⟨Bn,0,none⟩=some (.int .i64 (g:Int)):=(yo.cells.2 0).trans hBn;have ix:jgt (∀ W',KC Bs Bn wr W'->W'.cell? ⟨Bn,0,none⟩=some (.int .i64 (g:Int))):=ae (λW' h=>(h.cells.2 0).trans vI);have HJD:=ae hJd;clear hJs yo hJd;by_cases ar:k*g<n
  ·have CX:k<nps g n:=(XK.o k).2 ar
   have Rh:jgt (k+1<=nps g n/\(k+1)*g=k*g+g):=ae ⟨CX,by rw[jfd,jfT]⟩;have HY:=ae (λq=>hY _ k _ (HJD.o _ wr q HJS.o) (by simpa using CX));have HP:jgt (Au b off n g k=.slice (some ⟨b,off+k*g,none⟩) (min g (n-k*g)) (min g (n-k*g))):=ae (by unfold Au;rw[jey ar]);have HRK:jgt (List.range (k+1)=List.range k++[k]):=ae jfL;have hkg:k*g<=256:=(by omega);clear hY CX hk;generalize hi:k*g=i at *;have h1:(0:Int)<=(i:Int):=(by omega);have h2:(i:Int)<=(n:Int):=(by omega);have h3:(i:Int)<=(cap:Int):=(by omega);have h4:(i:Int).toNat=i:=(by omega);have hlt':(i:Int)<(n:Int):=(by omega);have hE:min (g:Int) ((n-i:Nat):Int)=((min g (n-i):Nat):Int):=(by omega);have hE1:1<=min g (n-i):=(by omega);have hE2:min g (n-i)<=n-i:=(by omega);gi_wp2
   gi_quiet (fail)
   clear hE;generalize min g (n-i)=E at *;obtain⟨fn,tmps,assign,body,hy,hR⟩:=HY.o nq;rw[HP.o]at hy;have HR:=ae hR;clear hR HY HP;have hcs2:(wr.drewN nq).cell? ⟨Bs,0,none⟩=some (.slice (some ⟨b,off,none⟩) n cap):=CZ;have h5:(i:Int)+(E:Int)<=(cap:Int):=(by omega);have h6:(i:Int)<=(i:Int)+(E:Int):=(by omega);have h7:IntKind.i64.wrap ((i:Int)+(E:Int))=(i:Int)+(E:Int):=by rw[jfq];omega
   have h8:((i:Int)+(E:Int)).toNat=i+E:=(by omega);have h9:(0:Int)<=(i:Int)+(E:Int):=(by omega);have vJ:¬ E=0:=(by omega);gi_wp2
   refine HR.o.mono ?_;rintro e W3 (⟨rfl,hJ3,hk3⟩ | ⟨rfl,hJx3⟩)
   ·have hcn3:=ix.o _ (((KC.refl Bs Bn wr).drewN nq).trans hk3)
    have HJ3:=ae hJ3;have HK3:=ae hk3;clear hJ3 hk3 CZ vI hcs2;gi_wp2
    go_roundw
    case rel=>exact⟨k+1,Rh.o.1,by rw[Rh.o.2];go_num,by rw[HRK.o];exact HJ3.o,(mf.o.drewN nq).trans HK3.o⟩
    case measure=>simp[intOf];omega
   ·gi_wp2
    refine bodyPost_ret (results_none rfl _ _ _) rfl ?_;exact⟨⟨_,rfl⟩,.inr ⟨_,⟨k+1,HRK.o.symm⟩,hJx3⟩⟩
  ·have GM:k=nps g n:=by
    have:=XK.o k;omega
   subst GM;have hlt':¬ (((nps g n*g:Nat)):Int)<(n:Int):=(by omega);clear XK ar hk;generalize nps g n*g=q at *;gi_wp2
   go_end0
   exact⟨⟨_,rfl⟩,.inl HJS.o⟩
def Qa(a:Option Addr)(n cap g:Nat)(hg:1<=g)(w:World) :
  Calls prog 82 #[.slice a n cap,.int .i64 (g:Int)] w λe w'=>e=.returned (.func (.func 121) #[] #[.pointer (some ⟨w.heap.size,0,none⟩),.pointer (some ⟨w.heap.size+1,0,none⟩)])/\w'=(w.alloc (.cells #[.slice a n cap] 34)).alloc (.cells #[.int .i64 (g:Int)] 3):=by
 have ar:¬ (g:Int)<1:=by omega
 go_enter func82,ntmps82
 go_wp2_with fail;go_ret
 simp
def Rv.part{W:World}{b off cap g:Nat}{rs:List Row}(h:Rv W (.slice (some ⟨b,off,none⟩) rs.length cap) rs)(hl:rs.length<=256)(j:Nat):Rv W (Au b off rs.length g j) (prt g rs j):=by
 obtain⟨a',cap',e,h1,h2,h3,h4⟩:=h;simp only[Value.slice.injEq]at e;obtain⟨rfl,_,rfl⟩:=e;have mT:=bX g rs j;unfold Au;by_cases ar:j*g<rs.length
 ·rw[jey ar]
  obtain⟨b',off',e,h5,h6⟩:=h4 (by omega);cases e
  refine⟨some ⟨b,off+j*g,none⟩,min g (rs.length-j*g),by rw[mT,Nat.min_comm],by rw[mT,Nat.min_comm];exact jeA _,by unfold maxLen;omega,λh=>(by cases h),λh0=>⟨b,off+j*g,rfl,h5,λk hk=>?_⟩⟩;rw[mT]at hk;obtain⟨rv,h7,h8⟩:=h6 (j*g+k) (by omega);refine⟨rv,by rw[jfG];exact h7,?_⟩;have:(prt g rs j)[k]'(by rw[mT];exact hk)=rs[j*g+k]'(by omega):=by simp[prt]
  rw[this];exact h8
 ·rw[jex ar]
  have:prt g rs j=[]:=jeW (by rw[mT];omega);rw[this];exact Rv.nil W
def LitM(W:World)(base:Nat)(v:Value)(l:List Nat):Prop:=l=[67,70,49]/\∃ g,v=.slice (some ⟨g,0,none⟩) 3 3/\base<=g/\W.heap[g]?=some (.cells #[.int .u8 67,.int .u8 70,.int .u8 49] 5 (3,4))
def gH(W:World)(base:Nat)(v:Value)(l:List Nat):Prop:=aM W base v l∨LitM W base v l
def gH.grown{W W':World}{base:Nat}{row:Option Nat}{v:Value}{l:List Nat}(h:gH W base v l)(hg:W.grownBy W' row)(dC:v.ownBlock=none∨v.ownBlock≠row):gH W' base v l:=by
 rcases h with h | ⟨h1,g,rfl,h2,h3⟩
 ·exact Or.inl (World.ownsRow.kept h hg dC)
 ·refine Or.inr ⟨h1,g,rfl,h2,?_⟩
  have ar:=(Array.getElem?_eq_some_iff.1 h3).1
  rw[hg.block g ar (by
   rcases dC with h | h
   ·simp[Value.ownBlock]at h
   ·simpa [Value.ownBlock]using h)]
  exact h3
def gH.kept{W W':World}{base:Nat}{v:Value}{l:List Nat}(h:gH W base v l)(hb:jgu W W'):gH W' base v l:=by
 rcases h with h | ⟨h1,g,rfl,h2,h3⟩
 ·exact Or.inl (h.kept hb)
 ·exact Or.inr ⟨h1,g,rfl,h2,(hb.block g (Array.getElem?_eq_some_iff.1 h3).1).trans h3⟩
def gH.lt{W:World}{base:Nat}{v:Value}{l:List Nat}(h:gH W base v l):∀ k,v.ownBlock=some k->base<=k/\k<W.heap.size:=by
 intro k hk;rcases h with h | ⟨h1,g,rfl,h2,h3⟩
 ·exact World.ownsRow.lt h k hk
 ·simp[Value.ownBlock]at hk
  subst hk;exact⟨h2,(Array.getElem?_eq_some_iff.1 h3).1⟩
def gH.block{W:World}{base:Nat}{v:Value}{l:List Nat}(h:gH W base v l):∀ k,v.ownBlock=some k->∃ cur fz,W.heap[k]?=some (.cells cur 5 fz):=by
 intro k hk;rcases h with h | ⟨h1,g,rfl,h2,h3⟩
 ·rcases h.2 with ⟨rfl,_⟩ | ⟨g,cap,cur,rfl,_,GR,_⟩
  ·simp[Value.ownBlock]at hk
  ·simp[Value.ownBlock]at hk
   subst hk;exact⟨_,_,GR⟩
 ·simp[Value.ownBlock]at hk
  subst hk;exact⟨_,_,h3⟩
def gH.slice{W:World}{base:Nat}{v:Value}{l:List Nat}(h:gH W base v l):∃ a cap,v=.slice a l.length cap:=by
 rcases h with h | ⟨rfl,g,rfl,_⟩
 ·obtain⟨a,cap,e,_⟩:=aZ h
  exact⟨a,cap,e⟩
 ·exact⟨_,_,rfl⟩
def gH.sv{W:World}{base:Nat}{v:Value}{l:List Nat}(h:gH W base v l):Sv W v (aA .u8 l):=by
 rcases h with h | ⟨rfl,g,rfl,_,h3⟩
 ·exact h.sv
 ·refine⟨_,3,rfl,jeA _,by unfold maxLen;omega,λh=>(by cases h),λ_=>⟨g,0,rfl,(Array.getElem?_eq_some_iff.1 h3).1,λj x hj=>?_⟩⟩
  rw[an h3,jeU];simpa [aA]using hj
def rO{W:World}{B:Nat}{t:TypeId}{u:Value}(hB:Boxed W B t u)(ht:t≠5){base:Nat}{v:Value}{l:List Nat}(h:gH W base v l):some B≠v.ownBlock:=λe=>by
 obtain⟨cur,fz,h1⟩:=h.block B e.symm;have:=(show W.heap[B]?=_ from hB).symm.trans h1;simp at this
 exact ht this.2.1
def rP{w:World}(ty:TypeId)(base:Nat)(v vx:Value)(l0 l:List Nat)(ax:gH w base v l0)(eg:Sv w vx (aA .u8 l))(hp:0<l.length)(hbytes:l0.length+l.length<=140737488355328)(aF:base<=w.heap.size) :
  ∃ v' w',(Builtin.append_ #[30,30] ty #[v,vx]).run prog w=.ok v' w'/\aM w' base v' (l0++l)/\w.grownBy w' v.ownBlock/\(v'.ownBlock=v.ownBlock∨v'.ownBlock=some w.heap.size):=by
 rcases ax with ax | ⟨rfl,g,rfl,hg,lC⟩
 ·exact ph ty base v vx l0 l ax eg hbytes aF
 ·obtain⟨i0,hi,bR,hz1',aX⟩:=jeT nl
  obtain⟨ad,cap,rfl,h1,h2,h3,h4⟩:=eg;rw[am]at *;obtain⟨b,off,rfl,h5,h6⟩:=h4 hp
  have jde:∀ j u,(aA .u8 l)[j]?=some u->w.cell? ((⟨b,off,none⟩:Addr).add j)=some u:=λj u hu=>by
   rw[kP];exact h6 j u hu
  have hold:∀ j u,(aA .u8 [67,70,49])[j]?=some u->w.cell? ((⟨g,0,none⟩:Addr).add j)=some u:=λj u hu=>by
   rw[kP,jeU,an lC];simpa [aA]using hu
  have MT:([67,70,49]:List Nat).length=3:=rfl
  have hr:=run_append_grow (P:=prog) w 30 ty 5 i0 (.int .u8 0) underlying30 hi bR ⟨g,0,none⟩ 3 3 (aA .u8 [67,70,49]) (by rw[hz1'];rfl) hold ⟨b,off,none⟩ l.length cap (aA .u8 l) (by rw[am,hz1',Nat.mul_one]) jde (by omega) (by omega)
   (by rw[aX];exact growslice_fits (by omega) (by omega))
  refine⟨_,_,hr,?_,⟨rfl,rfl,rfl,by simp,λk hk _=>Below.heap_alloc w.drew _ k hk⟩,Or.inr rfl⟩;have ed:=grownCap_ge w (3+l.length) 3 5;have bx:grownCap w (3+l.length) 3 5<=maxLen:=grownCap_le_maxLen w (3+l.length) 3 5 (by unfold maxLen;omega);unfold aM;rw[jeC,MT];refine⟨by rw[am,jeC,MT];omega,.inr ⟨w.heap.size,_,_,rfl,aF,je2 w.drew _,ed,bx,?_,?_⟩⟩
  ·simp only[Array.size_append,List.size_toArray,size_zeroCells,am,MT,Value.cells]
   simp
   omega
  ·simp only[Array.toList_append,jeQ]
   rw[<- jeQ,<- ek];have hl4:(3+l.length)*1=(aA .u8 ([67,70,49]++l)).length:=by rw[am,jeC,MT];omega
   rw[hl4];exact jfo
def uJ{w:World}{o:Oper}{a:Act}{K:Act->World->Prop}{Q:Exit->Act->World->Prop}(s x:Operand)
  (ho:o.op=.call { callee:=.builtin .append,args:=#[s,x],argTypes:=#[30,30] })
  (base:Nat) (v vx:Value) (l0 l:List Nat) (hs:a.eval s=v) (ax:gH w base v l0) (hx:a.eval x=vx) (eg:Sv w vx (aA .u8 l)) (hp:0<l.length) (hbytes:l0.length+l.length<=140737488355328) (aF:base<=w.heap.size)
  (h:∀ v' w',aM w' base v' (l0++l)->w.grownBy w' v.ownBlock->(v'.ownBlock=v.ownBlock∨v'.ownBlock=some w.heap.size)->K (a.put o.dst v') w'):Oper.wp prog o a w K Q:=by
 obtain⟨v',w',hr,h2,h3,h4⟩:=rP o.type base v vx l0 l ax eg hp hbytes aF;unfold Oper.wp execOp;simp only[ho,resolve,invoke,builtin,Sem.run_bind,Sem.run_pure,Result.andThen_ok,jfN,je4,jfr,hs,hx,hr];exact h v' w' h2 h3 h4
def lx{w:World}{ops:Array Oper}{o:Oper}{a:Act}{K:Act->World->Prop}{Q:Exit->Act->World->Prop}{E:Prop}(ef:o.guard=none)(s x:Operand)
  (ho:o.op=.call { callee:=.builtin .append,args:=#[s,x],argTypes:=#[30,30] })
  (base:Nat) (v vx:Value) (l0 l:List Nat) (hs:a.eval s=v) (ax:gH w base v l0) (hx:a.eval x=vx) (eg:Sv w vx (aA .u8 l)) (hp:0<l.length) (hbytes:l0.length+l.length<=140737488355328) (aF:base<=w.heap.size)
  (h:∀ v' w',aM w' base v' (l0++l)->w.grownBy w' v.ownBlock->(v'.ownBlock=v.ownBlock∨v'.ownBlock=some w.heap.size)->K (a.put o.dst v') w') :
  if Region.wanted o (yielded ops a.tmps)=true then Oper.wp prog o a w K Q else E:=by
 have hw:Region.wanted o (yielded ops a.tmps)=true:=by simp[Region.wanted,ef]
 rw[jey hw];exact uJ s x ho base v vx l0 l hs ax hx eg hp hbytes aF h
def vz{w:World}{ops:Array Oper}{rest:List Oper}{o:Oper}{a:Act}{Q:Exit->Act->World->Prop}(ef:o.guard=none)(s x:Operand)
  (ho:o.op=.call { callee:=.builtin .append,args:=#[s,x],argTypes:=#[30,30] })
  (base:Nat) (v vx:Value) (l0 l:List Nat) (hs:a.eval s=v) (ax:gH w base v l0) (hx:a.eval x=vx) (eg:Sv w vx (aA .u8 l)) (hp:0<l.length) (hbytes:l0.length+l.length<=140737488355328) (aF:base<=w.heap.size)
  (h:∀ v' w',aM w' base v' (l0++l)->w.grownBy w' v.ownBlock->(v'.ownBlock=v.ownBlock∨v'.ownBlock=some w.heap.size)->wpList prog ops Q rest (a.put o.dst v') w') :
  wpList prog ops Q (o::rest) a w :=
 wpList_plain ef λK hK=>uJ s x ho base v vx l0 l hs ax hx eg hp hbytes aF λv' w' h1 h2 h3=>hK _ _ (h v' w' h1 h2 h3)
def ly{F:Fence}{n:Nat}{w:World}{o:Oper}{a:Act}{K:Act->World->Prop}{Q:Exit->Act->World->Prop}(s x:Operand)
  (ho:o.op=.call { callee:=.builtin .append,args:=#[s,x],argTypes:=#[30,30] })
  (base:Nat) (v vx:Value) (l0 l:List Nat) (hs:a.eval s=v) (ax:gH w base v l0) (hx:a.eval x=vx) (eg:Sv w vx (aA .u8 l)) (hp:0<l.length) (hbytes:l0.length+l.length<=140737488355328) (aF:base<=w.heap.size)
  (h:∀ v' w',aM w' base v' (l0++l)->w.grownBy w' v.ownBlock->(v'.ownBlock=v.ownBlock∨v'.ownBlock=some w.heap.size)->K (a.put o.dst v') w'):Oper.wpIn F n prog o a w K Q:=by
 obtain⟨v',w',hr,h2,h3,h4⟩:=rP o.type base v vx l0 l ax eg hp hbytes aF;unfold Oper.wpIn;refine⟨by simp[Oper.about,ho,resolve,Target.leads,Sem.run_pure],?_⟩;rw[Oper.semAt_plain F _ _ (by rw[ho];intro c hc';cases hc')];simp[execOp,ho,resolve,invoke,builtin,hs,hx,hr,Result.andThen]
 exact h v' w' h2 h3 h4
def rQ{F:Fence}{n:Nat}{w:World}{ops:Array Oper}{rest:List Oper}{o:Oper}{a:Act}{Q:Exit->Act->World->Prop}(ef:o.guard=none)(s x:Operand)
  (ho:o.op=.call { callee:=.builtin .append,args:=#[s,x],argTypes:=#[30,30] })
  (base:Nat) (v vx:Value) (l0 l:List Nat) (hs:a.eval s=v) (ax:gH w base v l0) (hx:a.eval x=vx) (eg:Sv w vx (aA .u8 l)) (hp:0<l.length) (hbytes:l0.length+l.length<=140737488355328) (aF:base<=w.heap.size)
  (h:∀ v' w',aM w' base v' (l0++l)->w.grownBy w' v.ownBlock->(v'.ownBlock=v.ownBlock∨v'.ownBlock=some w.heap.size)->wpListIn F n prog ops Q rest (a.put o.dst v') w') :
  wpListIn F n prog ops Q (o::rest) a w :=
 wpListIn_plain ef λK hK=>ly s x ho base v vx l0 l hs ax hx eg hp hbytes aF λv' w' h1 h2 h3=>hK _ _ (h v' w' h1 h2 h3)
def Bx2(W:World)(base B1 B2:Nat)(v1 v2:Value)(l1 l2:List Nat):Prop :=
 Boxed W B1 30 v1/\Boxed W B2 30 v2/\B1≠B2/\gH W base v1 l1/\gH W base v2 l2/\pd v1 v2/\base<=B1/\base<=B2
def Bx2.swap{W:World}{base B1 B2:Nat}{v1 v2:Value}{l1 l2:List Nat}(h:Bx2 W base B1 B2 v1 v2 l1 l2):Bx2 W base B2 B1 v2 v1 l2 l1:=by
 obtain⟨a,b,c,d,e,f,g,i⟩:=h;exact⟨b,a,c.symm,e,d,f.symm,i,g⟩
def Bx2.kept{W W':World}{base B1 B2:Nat}{v1 v2:Value}{l1 l2:List Nat}(h:Bx2 W base B1 B2 v1 v2 l1 l2)(hb:jgu W W'):Bx2 W' base B1 B2 v1 v2 l1 l2:=by
 obtain⟨a,b,c,d,e,f,g,i⟩:=h;exact⟨(hb.block B1 a.lt).trans a,(hb.block B2 b.lt).trans b,c,d.kept hb,e.kept hb,f,g,i⟩
def Bx2.cells{W:World}{base B1 B2:Nat}{v1 v2:Value}{l1 l2:List Nat}(h:Bx2 W base B1 B2 v1 v2 l1 l2):(W.cell? ⟨B1,0,none⟩=some v1/\W.frozen? ⟨B1,0,none⟩=false)/\(W.cell? ⟨B2,0,none⟩=some v2/\W.frozen? ⟨B2,0,none⟩=false) :=
 ⟨⟨h.1.cell,h.1.frozen⟩,h.2.1.cell,h.2.1.frozen⟩
def Bx2.app{W w1:World}{base B1 B2:Nat}{v1 v2 v':Value}{l1 l2 l':List Nat}(h:Bx2 W base B1 B2 v1 v2 l1 l2)(aF:base<=W.heap.size)
  (ho:aM w1 base v' l') (hg:W.grownBy w1 v1.ownBlock) (he:v'.ownBlock=v1.ownBlock∨v'.ownBlock=some W.heap.size) :
  (w1.cell? ⟨B1,0,none⟩=some v1/\w1.frozen? ⟨B1,0,none⟩=false)/\Bx2 (w1.setCell ⟨B1,0,none⟩ v') base B1 B2 v' v2 l' l2/\Below base W (w1.setCell ⟨B1,0,none⟩ v'):=by
 obtain⟨a,b,c,d,e,f,g,i⟩:=h;have Dk:Boxed w1 B1 30 v1:=a.kept hg (rO a (by decide) d);have hv2:Boxed w1 B2 30 v2:=b.kept hg (rO b (by decide) d);have h2:gH w1 base v2 l2:=e.grown hg f.symm.ne;have hb:Below base W w1:=(jez base W).grown hg aF (λk hk=>(d.lt k hk).1)
 refine⟨⟨Dk.cell,Dk.frozen⟩,⟨Dk.set v',hv2.kept (grownBy_setCell' w1 B1 v') (by intro e;exact c (by cases e;rfl)),c,Or.inl (World.ownsRow.kept ho (grownBy_setCell' w1 B1 v') (Or.inr (Dk.not_row (by decide) ho).symm)),
  h2.grown (grownBy_setCell' w1 B1 v') (Or.inr (rO Dk (by decide) h2).symm),f.grow he (λk hk=>(e.lt k hk).2),g,i⟩,?_⟩
 exact hb.setCell (p:=⟨B1,0,none⟩) g v'
def nP{W W':World}(h:jgu W W'):KeepsOthers W W':=by
 refine KeepsOthers.of_grownBy (row:=none) ⟨h.os,h.tape,h.output,h.size,λk hk _=>h.block k hk⟩ (λj o e=>by cases e)
def Bx2.keeps{W w1:World}{base B1 B2:Nat}{v1 v2 v':Value}{l1 l2:List Nat}(h:Bx2 W base B1 B2 v1 v2 l1 l2)(hg:W.grownBy w1 v1.ownBlock):KeepsOthers W (w1.setCell ⟨B1,0,none⟩ v'):=by
 obtain⟨a,b,c,d,e,f,g,i⟩:=h;refine(KeepsOthers.of_grownBy hg λj o ej hj=>?_).trans (KeepsOthers.setCell _ _ _);obtain⟨cur,fz,h1⟩:=d.block j ej;rw[h1]at hj;cases hj
 rfl
def Bx2.other{W w1:World}{base B1 B2 p:Nat}{v1 v2 v':Value}{l1 l2:List Nat}(h:Bx2 W base B1 B2 v1 v2 l1 l2)(hg:W.grownBy w1 v1.ownBlock){t:TypeId}{u:Value}(hp:Boxed W p t u)(ht:t≠5)(La:t≠30):Boxed (w1.setCell ⟨B1,0,none⟩ v') p t u:=by
 obtain⟨a,b,c,d,e,f,g,i⟩:=h;have h1:Boxed w1 p t u:=hp.kept hg (rO hp ht d);refine h1.kept (grownBy_setCell' w1 B1 v') (λe=>?_);cases e
 have:=(show _=_ from hp).symm.trans (show _=_ from a);simp at this
 exact La this.2
def Bx2.turned{W W':World}{base B1 B2:Nat}{v1 v2:Value}{l1 l2:List Nat}{row:Option Nat}(h:Bx2 W base B1 B2 v1 v2 l1 l2)(hg:W.grownBy W' row)(hr:∀ r,row=some r->∃ o:Obj,W.heap[r]?=some o/\o.isCells=false):Bx2 W' base B1 B2 v1 v2 l1 l2:=by
 obtain⟨a,b,c,d,e,f,g,i⟩:=h
 have hbox:∀{p t v},Boxed W p t v->some p≠row:=λhp e=>by
  obtain⟨o,h1,h2⟩:=hr _ e.symm;rw[show W.heap[_]?=_ from hp]at h1;cases h1
  cases h2
 have ft:∀{v l},gH W base v l->v.ownBlock=none∨v.ownBlock≠row:=λ{v l} hv=>by
  cases hb:v.ownBlock with
  | none=>exact Or.inl rfl
  | some k =>
   refine Or.inr λe=>?_
   obtain⟨o,h1,h2⟩:=hr _ e.symm;obtain⟨cur,fz,h3⟩:=hv.block k hb;rw[h3]at h1;cases h1
   cases h2
 exact⟨a.kept hg (hbox a),b.kept hg (hbox b),c,d.grown hg (ft d),e.grown hg (ft e),f,g,i⟩
def gH.deferred{W W':World}{base D:Nat}{v:Value}{l:List Nat}{o:Obj}(h:gH W base v l)(hg:W.grownBy W' v.ownBlock)(hD:W.heap[D]?=some o)(ho:o.isCells=false):W'.heap[D]?=some o:=by
 refine(hg.block D (Array.getElem?_eq_some_iff.1 hD).1 (λe=>?_)).trans hD;obtain⟨cur,fz,h1⟩:=h.block D e.symm;rw[h1]at hD;cases hD
 cases ho
def Bx2.keepV{W w1:World}{base B1 B2:Nat}{v1 v2 v':Value}{l1 l2:List Nat}(h:Bx2 W base B1 B2 v1 v2 l1 l2)(hg:W.grownBy w1 v1.ownBlock){B e size n:Nat}{u:Value}{xs:List Value}(hv:W.ownsRow B e size u n xs)(he:e≠5)(he2:e≠30):(w1.setCell ⟨B1,0,none⟩ v').ownsRow B e size u n xs:=by
 obtain⟨a,b,c,d,e',f,g,i⟩:=h
 have h1:w1.ownsRow B e size u n xs:=hv.kept hg (by
  cases hb:u.ownBlock with
  | none=>exact Or.inl rfl
  | some k =>
   refine Or.inr λe1=>?_
   obtain⟨cur,fz,h3⟩:=d.block k e1.symm;rcases hv.2 with ⟨rfl,_⟩ | ⟨g,cap,cur2,rfl,_,GR,_⟩
   ·simp[Value.ownBlock]at hb
   ·simp[Value.ownBlock]at hb
    subst hb;rw[h3]at GR;simp at GR
    exact he GR.2.1.symm)
 have Dk:Boxed w1 B1 30 v1:=a.kept hg (rO a (by decide) d);exact h1.kept (grownBy_setCell' w1 B1 v') (Or.inr (Dk.not_row (λe1=>he2 e1.symm) h1).symm)
def Qb{W W':World}{D:Nat}{o:Obj}(hb:jgu W W')(hD:W.heap[D]?=some o):W'.heap[D]?=some o:=(hb.block D (Array.getElem?_eq_some_iff.1 hD).1).trans hD
def gH.below{W W':World}{base:Nat}{v:Value}{l:List Nat}(h:gH W base v l)(hg:W.grownBy W' v.ownBlock)(hb:base<=W.heap.size):Below base W W':=(jez base W).grown hg hb (λk hk=>(h.lt k hk).1)
attribute [local go_sem] Oper.semAt_some
def nQ(cs:List Cl):∃ n:Nat,(bO cs).nulls=(n:Int)/\n<=cs.length:=by
 unfold bO;split
 ·exact⟨cs.length,rfl,jeA _⟩
 ·next x r h =>
  have hl:(aR cs).length<=cs.length:=jgd _ _;rw[h]at hl;exact⟨cs.length-(x::r).length,by show (cs.length:Int)-_=_;omega,by omega⟩
def fO{fs:List Fd}{p:List Row}(h:gG fs p)(k:Nat):∀ c∈cx p k,aI c:=λc hc=>by
 obtain⟨r,hr,rfl⟩:=jeN.1 hc;rw[List.getD_eq_getElem?_getD];cases hg:r[k]? with
 | none=>exact Or.inl rfl
 | some y=>exact(h r hr).2 y (List.mem_of_getElem? hg)
def tD{st:Stt}(h1:aI st.lo)(h2:aI st.hi)(hn:∃ n:Nat,st.nulls=(n:Int)/\n<=1000000):(fQ st).length<=160/\Bs (fQ st):=by
 obtain⟨n,hn,vY⟩:=hn;have hu:=cG (n:=n) (by omega);have b1:=rE h1;have b2:=rE h2
 have hb:∀{c:Cl},aI c->Bs (jC c):=λ{c} hc=>by
  unfold jC;split
  ·exact gL
  ·split
   ·intro x hx
    have:=je9.1 hx;omega
   ·refine Bs.app gL ?_
    rcases hc with rfl | ⟨m,rfl,_⟩ | ⟨m,rfl,_⟩ | ⟨s,rfl,_,h8⟩
    ·exact λx hx=>by simp[nul]at hx
    ·exact λx hx=>by simp at hx
    ·exact λx hx=>by simp at hx
    ·exact h8
 unfold fQ;rw[hn,je3];refine⟨?_,Bs.app (Bs.app gL (λx hx=>?_)) (Bs.app ?_ ?_)⟩
 ·simp only[jeC,je7]
  split<;>split<;>(try simp only[jeZ])<;>omega
 ·have:=je9.1 hx
  have:=Zf st;omega
 ·split
  ·exact hb h1
  ·exact λx hx=>by simp at hx
 ·split
  ·exact hb h2
  ·exact λx hx=>by simp at hx
def Mk{fs:List Fd}{p:List Row}(h:gG fs p)(hl:p.length<=256)(k:Nat):aI (bO (cx p k)).lo/\aI (bO (cx p k)).hi/\∃ n:Nat,(bO (cx p k)).nulls=(n:Int)/\n<=1000000:=by
 obtain⟨h1,h2⟩:=gE (fO h k);obtain⟨n,h3,h4⟩:=nQ (cx p k);rw[cK]at h4;exact⟨h1,h2,n,h3,by omega⟩
def rR{fs:List Fd}{p:List Row}(gl:∀ k,k<fs.length->Col (mW fs k) (cx p k)):∀{k:Nat},k<=fs.length->(gh fs p k).length<=21600*k/\Bs (gh fs p k):=by
 intro k;induction k with
 | zero=>exact λ_=>⟨by simp[gh],λx hx=>by simp[gh]at hx⟩
 | succ k ih =>
  intro hk;obtain⟨h1,h2⟩:=ih (by omega);obtain⟨h3,h4⟩:=jh (gl k (by omega));rw[oB];exact⟨by rw[jeC];omega,Bs.app h2 h4⟩
def vW{fs:List Fd}{p:List Row}(h:gG fs p)(hl:p.length<=256)(gl:∀ k,k<fs.length->Col (mW fs k) (cx p k)):∀{k:Nat},k<=fs.length->(ftK fs p k).length<=170*k/\Bs (ftK fs p k):=by
 intro k;induction k with
 | zero=>exact λ_=>⟨by simp[ftK],λx hx=>by simp[ftK]at hx⟩
 | succ k ih =>
  intro hk;obtain⟨h1,h2⟩:=ih (by omega);obtain⟨h3,h4⟩:=jh (gl k (by omega));obtain⟨a1,a2,a3⟩:=Mk h hl k;obtain⟨b1,b2⟩:=tD a1 a2 a3;have hu:=cG (n:=(es (mW fs k) (cx p k)).length) (by omega);rw[rz];exact⟨by simp only[jeC];omega,Bs.app h2 (Bs.app gL b2)⟩
def kI{f:Nat->List Nat}{m:Nat}(h:∀ j,(f j).length<=m):∀ pre:List Nat,(pre.flatMap f).length<=m*pre.length
 | []=>by simp
 | j::t=>by
  have:=kI h t;have:=h j;rw[jfQ,jeC,jeI,jfI];omega
def Ck{f:Nat->List Nat}(h:∀ j,Bs (f j)):∀ pre:List Nat,Bs (pre.flatMap f)
 | []=>λx hx=>by simp at hx
 | j::t=>by
  rw[jfQ];exact Bs.app (h j) (Ck h t)
def iO{g n:Nat}(hg:1<=g)(hn:n<=256):nps g n<=256:=by
 rcases je0 256 (nps g n)with h | h
 ·have:=(kH (j:=256) (show 0<g by omega)).1 h
  have:256*1<=256*g:=jfJ _ hg;omega
 ·exact h
def Fu(m:Nat)(hm:1<=m)(l Bs Bn cap:Nat)(a:Option Addr)(J:List Nat->World->Prop)(W:World)(hBs:W.cell? ⟨Bs,0,none⟩=some (.slice a 0 cap))(h0:J [] W) :
  CallsIn Fence.wide m prog 121 #[.func (.yield l) #[] #[],.pointer (some ⟨Bs,0,none⟩),.pointer (some ⟨Bn,0,none⟩)] W λe W'=>(∃ v,e=.returned v)/\J [] W':=by
 refine callsIn_of_wp func121 rfl trivial ?_ rfl;simp only[ntmps121,List.size_toArray,jeI,jeZ,Nat.reduceAdd,Nat.reduceSub,Array.replicate_succ,Array.replicate_zero,List.push_toArray,List.append_toArray,jfu,je5];gi_wp2
 gi_loopw [4] (λi wr=>i=.int .i64 0/\wr=W) (λ_ _=>0)
 case atStart=>exact⟨rfl,rfl⟩
 case round =>
  obtain⟨rfl,rfl⟩:=hrel;gi_wp2
  go_end0
  exact⟨⟨_,rfl⟩,h0⟩
def Qc{w:World}{ra:Option Addr}{rcap:Nat}{rs:List Row}(hr:Rv w (.slice ra rs.length rcap) rs)(hl:rs.length<=256){g:Nat}(dP:1<=g)(fY:g<=64)(m:Nat)(hm:1<=m) :
  ∃ PV:Nat->Value,(∀ W,Rv W (.slice ra rs.length rcap) rs->∀ j,Rv W (PV j) (prt g rs j))/\∀(p q:Nat) (Z:World),Z.cell? ⟨p,0,none⟩=some (.slice ra rs.length rcap)->Z.cell? ⟨q,0,none⟩=some (.int .i64 (g:Int))->p<Z.heap.size->q<Z.heap.size ->
   SeqStopsK Fence.wide m prog 121 #[.pointer (some ⟨p,0,none⟩),.pointer (some ⟨q,0,none⟩)] (λj=>#[PV j]) (KC p q) (λys=>ys=List.range (nps g rs.length)) (λpre=>∃ k,pre=List.range k) (nps g rs.length) Z:=by
 obtain⟨a',cap',e,h1,h2,h3,h4⟩:=hr;simp only[Value.slice.injEq]at e;obtain⟨rfl,_,rfl⟩:=e;have bx:rcap<=9223372036854775807:=by unfold maxLen at h2;omega
 rcases jfs rs.length with h0 | h0
 ·have hrs:rs=[]:=jeW h0
  subst hrs;refine⟨λ_=>.slice none 0 0,λW _ j=>?_,λp q Z hp hq hp2 nc l J Jx W hW hJ hJx hY h00=>?_⟩
  ·have:prt g ([]:List Row) j=[]:=by simp[prt]
   rw[this];exact Rv.nil W
  ·have hn:nps g ([]:List Row).length=0:=Vk g (by omega)
   rw[hn];refine(Fu m hm l p q rcap ra J W ((hW.cell (p:=⟨p,0,none⟩) hp2).trans hp) h00).mono ?_;rintro e W' ⟨he,hj⟩;exact⟨he,.inl ⟨[],rfl,hj⟩⟩
 ·obtain⟨b,off,rfl,h5,h6⟩:=h4 h0
  refine⟨Au b off rs.length g,λW hW j=>hW.part hl j,λp q Z hp hq hp2 nc l J Jx W hW hJ hJx hY h00=>?_⟩;refine(PZ m hm l p q b off rs.length rcap g dP fY hl h1 bx J Jx hY (λpre U k hU=>hJ pre U _ none hU ⟨rfl,rfl,rfl,jeA _,λ_ _ _=>rfl⟩ (λr e=>by cases e)) W ((hW.cell (p:=⟨p,0,none⟩) hp2).trans hp) ((hW.cell (p:=⟨q,0,none⟩) nc).trans hq) h00).mono ?_;rintro e W' ⟨he,⟨ys,rfl,hj⟩ | ⟨pre,hk,hj⟩⟩
  ·exact⟨he,.inl ⟨_,rfl,hj⟩⟩
  ·exact⟨he,.inr ⟨_,hk,hj⟩⟩
end Go.Proofs.YtpljdjmpamjkhaaGreatDoor
