import Derived.Test.YtpljdjmpamjkhaaGreatDoorWal
set_option linter.unusedVariables false
set_option linter.unusedSimpArgs false
set_option maxRecDepth 100000
set_option maxHeartbeats 4000000
namespace Go.Proofs.YtpljdjmpamjkhaaGreatDoor
open Go.RowKit Go.Lib
def cm(l:List (List Nat)):List Value:=l.map txt
theorem ei(l:List (List Nat)):(cm l).length=l.length:=YD _
theorem vB(a b:List (List Nat)):cm (a++b)=cm a++cm b:=YX
theorem fI{l:List (List Nat)}{j:Nat}(h:j<l.length):(cm l)[j]?=some (txt l[j]):=by simp[cm,h]
def ij(W:World)(B:Nat)(v:Value)(l:List (List Nat)):Prop:=W.ownsRow B 9 1 v l.length (cm l)
theorem ij.nil(W:World)(B:Nat):ij W B (.slice none 0 0) []:=Zx _ _ _ _
theorem ij.kept{w w':World}{B:Nat}{v:Value}{l:List (List Nat)}(h:ij w B v l)(hb:Below w.heap.size w w'):ij w' B v l:=bP h hb
theorem ij.sv{W:World}{B:Nat}{v:Value}{l:List (List Nat)}(h:ij W B v l):Sv W v (cm l):=Sv.of_own h
theorem info9:(Tryz.prog.info? 9).map (fun i=>(i.zero,i.size,i.bytes))=some (some (.string ⟨#[]⟩),1,16):=by kernel_rfl
theorem iz{w:World}{ops:Array Oper}{rest:List Oper}{o:Oper}{a:Act}{Q:Exit->Act->World->Prop}(dO:o.guard=none)(s x:Operand)
  (ho:o.op=.call { callee:=.builtin .append,args:=#[s,x],argTypes:=#[144,144] })
  (base:Nat) (v:Value) (g:Nat) (z:List Nat) (l0:List (List Nat)) (hs:a.eval s=v) (aw:ij w base v l0) (hx:a.eval x=.slice (some ⟨g,0,none⟩) 1 1) (hc:w.cell? ⟨g,0,none⟩=some (txt z))
  (hbytes:l0.length<=100000) (aD:base<=w.heap.size)
  (h:∀ v' w',ij w' base v' (l0++[z])->Below base w w'->wpList Tryz.prog ops Q rest (a.put o.dst v') w') :
  wpList Tryz.prog ops Q (o::rest) a w:=by
 obtain⟨i0,hi,bN,hz1',bh⟩:=YW info9;unfold ij at *
 refine ZI (w:=w) dO s x 144 ho base 9 i0 (.string ⟨#[]⟩) 1 16 Tryz.underlying144 hi bN hz1' bh rfl (by decide) v l0.length (cm l0) hs aw ⟨g,0,none⟩ 1 1 [txt z] hx rfl ?_ (fun u hu=>by
  have:u=txt z:=by simpa using hu
  subst this;rfl) (by unfold maxLen;omega) (by omega) aD ?_
 ·intro j u hu
  rw[oz];cases j with
  | zero =>
   simp only[List.getElem?_cons_zero,Option.some.injEq]at hu;rw[← hu];exact hc
  | succ j=>simp at hu
 ·intro v' w' o1 g1 _ _
  refine h v' w' ?_ ((Yz base w).grown g1 aD (fun k hk=>(aw.lt k hk).1));rw[vB,YC];exact o1
theorem Jw{l:List Int}(hl:l.length<=256):NB l=dm l:=Yy hl
theorem qG{w:World}{v:Value}{l:List Int}(hs:Sv w v (aH l))(hl:l.length<=256)(hi:Is l):Calls Tryz.prog 126 #[v] w (dJ w (dm l)):=by
 have HB:=ae (ND hs hi);rw[Jw hl]at HB;clear hs hi;generalize dm l=bs at *;go_enter Tryz.func126,Tryz.ntmps126
 go_wp2_with fail;refine HB.o.mono ?_;rintro e w1 ⟨⟨v1,rfl,dI⟩,aA⟩;have fK:=ae dI;have aN:=ae aA;clear dI aA;go_wp2_with fail;go_ret
 exact⟨⟨_,rfl,fK.o⟩,aN.o⟩
theorem xa{w:World}{v:Value}{l:List Nat}(hs:Sv w v (az .u64 l))(h2:∀ x∈l,x<2):Calls Tryz.prog 128 #[v] w (dJ w (aY l 1)):=by
 have HB:=ae (wK hs.sx (fun x hx=>by have:=h2 x hx;omega) 1);clear hs h2;generalize aY l 1=bs at *;generalize can l 1=bb at *;go_enter Tryz.func128,Tryz.ntmps128
 go_wp2_with fail;refine HB.o.mono ?_;rintro e w1 ⟨v1,rfl,dI,aA⟩;have fK:=ae dI;have aN:=ae aA;clear dI aA;go_wp2_with fail;go_ret
 exact⟨⟨_,rfl,fK.o⟩,aN.o⟩
theorem uj(b:Bool)(w:World):Calls Tryz.prog 169 #[.bool b] w fun e w'=>e=.returned (.int .u64 (if b then 1 else 0))/\w'=w:=by
 cases b
 all_goals
  go_enter Tryz.func169,Tryz.ntmps169
  go_wp2;go_ret
  exact⟨rfl,rfl⟩
theorem gU(k:Nat)(w:World):Calls Tryz.prog 167 #[.int .u8 (k:Int)] w fun e w'=>e=.returned (.bool (decide (1<=k/\k<=3)))/\w'=w:=by
 by_cases h1:((k:Int)==1)=true
 ·have hk:k=1:=by have:(k:Int)=1:=(by simpa using h1);omega
  subst hk;go_enter Tryz.func167,Tryz.ntmps167
  go_wp2;go_ret
  exact⟨rfl,rfl⟩
 ·by_cases h2:((k:Int)==2)=true
  ·have hk:k=2:=by have:(k:Int)=2:=(by simpa using h2);omega
   subst hk;go_enter Tryz.func167,Tryz.ntmps167
   go_wp2;go_ret
   exact⟨rfl,rfl⟩
  ·by_cases h3:((k:Int)==3)=true
   ·have hk:k=3:=by have:(k:Int)=3:=(by simpa using h3);omega
    subst hk;go_enter Tryz.func167,Tryz.ntmps167
    go_wp2;go_ret
    exact⟨rfl,rfl⟩
   ·have h1':((k:Int)==1)=false:=by simpa using h1
    have h2':((k:Int)==2)=false:=by simpa using h2
    have h3':((k:Int)==3)=false:=by simpa using h3
    have HN:jaH (decide (1<=k/\k<=3)=false):=ae (by
     have a1:(k:Int)≠1:=by simpa using h1
     have a2:(k:Int)≠2:=by simpa using h2
     have a3:(k:Int)≠3:=by simpa using h3
     exact YO (by omega))
    rw[HN.o];clear h1 h2 h3;go_enter Tryz.func167,Tryz.ntmps167
    go_wp2;go_ret
    exact⟨rfl,rfl⟩
theorem fN.fine{k:Nat}{c:Nat×Int×List Nat}(h:fN k c):aI c:=by
 rcases h with h | ⟨_,h⟩ | ⟨_,h⟩ | ⟨_,h⟩
 ·exact Or.inl h
 ·exact Or.inr (Or.inl h)
 ·exact Or.inr (Or.inr (Or.inl h))
 ·exact Or.inr (Or.inr (Or.inr h))
theorem aI.cellk{k:Nat}{c:Nat×Int×List Nat}(h:aI c)(hk:c.1=0∨c.1=k):fN k c:=by
 rcases h with h | ⟨n,rfl,h⟩ | ⟨n,rfl,h⟩ | ⟨n,rfl,h⟩
 ·exact Or.inl h
 ·have:k=1:=by simp at hk;omega
  exact Or.inr (Or.inl ⟨this,n,rfl,h⟩)
 ·have:k=2:=by simp at hk;omega
  exact Or.inr (Or.inr (Or.inl ⟨this,n,rfl,h⟩))
 ·have:k=3:=by simp at hk;omega
  exact Or.inr (Or.inr (Or.inr ⟨this,n,rfl,h⟩))
theorem jt{l:List (Nat×Int×List Nat)}{j:Nat}(h:j<l.length):bH (l.take (j+1))=bH (l.take j)++(if l[j].1=0 then [] else [l[j]]):=by
 unfold bH;rw[YP h,jaq];congr 1
 by_cases h0:l[j].1=0
 ·simp[h0]
 ·simp[h0]
theorem kf(l:List (Nat×Int×List Nat))(j:Nat):(bH (l.take j)).length<=l.length:=by
 have:=ib (l.take j);rw[YH]at this;omega
theorem DS{w:World}{v:Value}{l:List (Nat×Int×List Nat)}(hs:Sv w v (aC l))(hl:l.length<=256)(hc:∀ c∈l,fN 1 c) :
  Calls Tryz.prog 127 #[v] w fun e w'=>(∃ v',e=.returned v'/\bU w' w.heap.size v' ((bH l).map fun c=>c.2.1))/\Below w.heap.size w w':=by
 have HS:=ae hs;have HC:=ae hc;obtain⟨a,cap,rfl,aV,bw⟩:=hs.form1;rw[ax]at *;have t1:=xI;have t2:=CJ;have hcm':cap<=9223372036854775807:=by unfold maxLen at bw;omega
 clear hs hc bw;go_enter Tryz.func127,Tryz.ntmps127
 go_wp2_with fail;go_loopw [3,10] (fun o i wr=>∃ j:Nat,j<=l.length/\i=.int .i64 (j:Int)/\bU wr w.heap.size o ((bH (l.take j)).map fun c=>c.2.1)/\Below w.heap.size w wr) (fun _ i _=>l.length-(intOf i).toNat)
 case atStart=>exact⟨0,by omega,rfl,bU.nil _ _,Yz _ _⟩
 case round =>
  obtain⟨j,hj,rfl,aw,ao⟩:=hrel;have HO:=ae aw;have HB:=ae ao;have bM:=ao.size;clear aw ao;by_cases ar:j<l.length
  ·obtain⟨b,off,rfl,hb,bn⟩:=HS.o.at1 (cd ar)
   have hcell':=(HB.o.cell (p:=⟨b,off+j,none⟩) hb).trans bn;have HT:=ae (jt ar);have bg:=kf l j;have ek:=HC.o l[j] (YF ar);have hlt':(j:Int)<(l.length:Int):=(by omega);clear bn;generalize l[j]=c at *;rcases ek with rfl | ⟨_,n,rfl,hn⟩ | ⟨hk,_⟩ | ⟨hk,_⟩
   ·simp only[nul,cp,if_true]at hcell'
    have HT':jaH (bH (l.take (j+1))=bH (l.take j)):=ae (by
     have:=HT.o;simpa [nul]using this)
    clear HT;go_wp2_with fail;go_roundw
    case rel=>exact⟨j+1,by omega,by go_num,by rw[HT'.o];exact HO.o,HB.o⟩
    case measure=>simp[intOf];omega
   ·simp only[cp]at hcell'
    have HT':jaH ((bH (l.take (j+1))).map (fun c=>c.2.1)=((bH (l.take j)).map fun c=>c.2.1)++[n]):=ae (by
     have:=HT.o;simp only[show (1:Nat)≠0 from by omega,if_false]at this;rw[this,YX];rfl)
    have hlen':((bH (l.take j)).map fun c=>c.2.1).length<=100000:=by rw[YD];omega
    clear HT;generalize ((bH (l.take j)).map fun c=>c.2.1)=L at *;go_wp2_with (first | (at_builtin;refine dh rfl _ _ rfl w.heap.size _ _ n L rfl (HO.o.kept (aj _ _)) rfl (aX _ _ _) hlen' ?c2 ?_))
    case c2=>first | omega | (rw[YB];omega)
    intro v' w2 o2 b2;have ec:=ae o2;have aK:=ae ((HB.o.alloc bM _).trans b2);clear o2 b2;go_wp2_with fail;go_roundw
    case rel=>exact⟨j+1,by omega,by go_num,by rw[HT'.o];exact ec.o,aK.o⟩
    case measure=>simp[intOf];omega
   ·omega
   ·omega
  ·have:j=l.length:=by omega
   subst this;have eO:¬ ((l.length:Nat):Int)<(l.length:Int):=(by omega);rw[YK]at HO;go_wp2_with fail;go_ret
   exact⟨⟨_,rfl,HO.o⟩,HB.o⟩
theorem DT{w:World}{v:Value}{l:List (Nat×Int×List Nat)}(hs:Sv w v (aC l))(hl:l.length<=256)(hc:∀ c∈l,fN 3 c) :
  Calls Tryz.prog 131 #[v] w fun e w'=>(∃ v',e=.returned v'/\ij w' w.heap.size v' ((bH l).map fun c=>c.2.2))/\Below w.heap.size w w':=by
 have HS:=ae hs;have HC:=ae hc;obtain⟨a,cap,rfl,aV,bw⟩:=hs.form1;rw[ax]at *;have t1:=xK;have t2:=CL;have hcm':cap<=9223372036854775807:=by unfold maxLen at bw;omega
 clear hs hc bw;go_enter Tryz.func131,Tryz.ntmps131
 go_wp2_with fail;go_loopw [3,10] (fun o i wr=>∃ j:Nat,j<=l.length/\i=.int .i64 (j:Int)/\ij wr w.heap.size o ((bH (l.take j)).map fun c=>c.2.2)/\Below w.heap.size w wr) (fun _ i _=>l.length-(intOf i).toNat)
 case atStart=>exact⟨0,by omega,rfl,ij.nil _ _,Yz _ _⟩
 case round =>
  obtain⟨j,hj,rfl,aw,ao⟩:=hrel;have HO:=ae aw;have HB:=ae ao;have bM:=ao.size;clear aw ao;by_cases ar:j<l.length
  ·obtain⟨b,off,rfl,hb,bn⟩:=HS.o.at1 (cd ar)
   have hcell':=(HB.o.cell (p:=⟨b,off+j,none⟩) hb).trans bn;have HT:=ae (jt ar);have bg:=kf l j;have ek:=HC.o l[j] (YF ar);have hlt':(j:Int)<(l.length:Int):=(by omega);clear bn;generalize l[j]=c at *;rcases ek with rfl | ⟨hk,_⟩ | ⟨hk,_⟩ | ⟨_,n,rfl,hn⟩
   ·simp only[nul,cp,if_true]at hcell'
    have HT':jaH (bH (l.take (j+1))=bH (l.take j)):=ae (by
     have:=HT.o;simpa [nul]using this)
    clear HT;go_wp2_with fail;go_roundw
    case rel=>exact⟨j+1,by omega,by go_num,by rw[HT'.o];exact HO.o,HB.o⟩
    case measure=>simp[intOf];omega
   ·omega
   ·omega
   ·simp only[cp,fD,show (3:Nat)≠0 from by omega,show (3:Nat)≠1 from by omega,show (3:Nat)≠2 from by omega,if_false]at hcell'
    have HT':jaH ((bH (l.take (j+1))).map (fun c=>c.2.2)=((bH (l.take j)).map fun c=>c.2.2)++[n]):=ae (by
     have:=HT.o;simp only[show (3:Nat)≠0 from by omega,if_false]at this;rw[this,YX];rfl)
    have hlen':((bH (l.take j)).map fun c=>c.2.2).length<=100000:=by rw[YD];omega
    clear HT;generalize ((bH (l.take j)).map fun c=>c.2.2)=L at *;go_wp2_with (first | (at_builtin;refine iz rfl _ _ rfl w.heap.size _ _ n L rfl (HO.o.kept (aj _ _)) rfl (aX _ _ _) hlen' ?c2 ?_))
    case c2=>first | omega | (rw[YB];omega)
    intro v' w2 o2 b2;have ec:=ae o2;have aK:=ae ((HB.o.alloc bM _).trans b2);clear o2 b2;go_wp2_with fail;go_roundw
    case rel=>exact⟨j+1,by omega,by go_num,by rw[HT'.o];exact ec.o,aK.o⟩
    case measure=>simp[intOf];omega
  ·have:j=l.length:=by omega
   subst this;have eO:¬ ((l.length:Nat):Int)<(l.length:Int):=(by omega);rw[YK]at HO;go_wp2_with fail;go_ret
   exact⟨⟨_,rfl,HO.o⟩,HB.o⟩
theorem DU{w:World}{v:Value}{l:List (Nat×Int×List Nat)}(hs:Sv w v (aC l))(hl:l.length<=256)(hc:∀ c∈l,fN 2 c) :
  Calls Tryz.prog 129 #[v] w fun e w'=>(∃ v',e=.returned v'/\em w' w.heap.size v' ((bH l).map fun c=>c.2.1.toNat))/\Below w.heap.size w w':=by
 have HS:=ae hs;have HC:=ae hc;obtain⟨a,cap,rfl,aV,bw⟩:=hs.form1;rw[ax]at *;have t1:=xJ;have t2:=CK;have hcm':cap<=9223372036854775807:=by unfold maxLen at bw;omega
 clear hs hc bw;go_enter Tryz.func129,Tryz.ntmps129
 go_wp2_with fail;go_loopw [3,10] (fun o i wr=>∃ j:Nat,j<=l.length/\i=.int .i64 (j:Int)/\em wr w.heap.size o ((bH (l.take j)).map fun c=>c.2.1.toNat)/\Below w.heap.size w wr) (fun _ i _=>l.length-(intOf i).toNat)
 case atStart=>exact⟨0,by omega,rfl,em.nil _ _,Yz _ _⟩
 case round =>
  obtain⟨j,hj,rfl,aw,ao⟩:=hrel;have HO:=ae aw;have HB:=ae ao;have bM:=ao.size;clear aw ao;by_cases ar:j<l.length
  ·obtain⟨b,off,rfl,hb,bn⟩:=HS.o.at1 (cd ar)
   have hcell':=(HB.o.cell (p:=⟨b,off+j,none⟩) hb).trans bn;have HT:=ae (jt ar);have bg:=kf l j;have ek:=HC.o l[j] (YF ar);have hlt':(j:Int)<(l.length:Int):=(by omega);clear bn;generalize l[j]=c at *;rcases ek with rfl | ⟨hk,_⟩ | ⟨_,n,rfl,hn⟩ | ⟨hk,_⟩
   ·simp only[nul,cp,if_true]at hcell'
    have HT':jaH (bH (l.take (j+1))=bH (l.take j)):=ae (by
     have:=HT.o;simpa [nul]using this)
    clear HT;go_wp2_with fail;go_roundw
    case rel=>exact⟨j+1,by omega,by go_num,by rw[HT'.o];exact HO.o,HB.o⟩
    case measure=>simp[intOf];omega
   ·omega
   ·simp only[cp,show (2:Nat)≠0 from by omega,show (2:Nat)≠1 from by omega,if_false,if_true]at hcell'
    have KD:jaH (∀ W:World,Calls Tryz.prog 169 #[.bool (decide ((n:Int)=1))] W fun e w'=>e=.returned (.int .u64 (n:Int))/\w'=W):=ae (fun W=>by
     have:=uj (decide ((n:Int)=1)) W;obtain rfl | rfl:n=0∨n=1:=by omega
     ·exact this
     ·exact this)
    generalize decide ((n:Int)=1)=bb at *
    have HT':jaH ((bH (l.take (j+1))).map (fun c=>c.2.1.toNat)=((bH (l.take j)).map fun c=>c.2.1.toNat)++[n]):=ae (by
     have:=HT.o;simp only[show (2:Nat)≠0 from by omega,if_false]at this;rw[this,YX];simp)
    have hlen':((bH (l.take j)).map fun c=>c.2.1.toNat).length<=100000:=by rw[YD];omega
    clear HT;generalize ((bH (l.take j)).map fun c=>c.2.1.toNat)=L at *;go_wp2_with fail;refine(KD.o _).mono ?_;rintro e wq ⟨rfl,rfl⟩;go_wp2_with (first | (at_builtin;refine sG rfl _ _ rfl w.heap.size _ _ n L rfl (HO.o.kept (aj _ _)) rfl (aX _ _ _) hlen' ?c2 ?_))
    case c2=>first | omega | (rw[YB];omega)
    intro v' w2 o2 b2;have ec:=ae o2;have aK:=ae ((HB.o.alloc bM _).trans b2);clear o2 b2;go_wp2_with fail;go_roundw
    case rel=>exact⟨j+1,by omega,by go_num,by rw[HT'.o];exact ec.o,aK.o⟩
    case measure=>simp[intOf];omega
   ·omega
  ·have:j=l.length:=by omega
   subst this;have eO:¬ ((l.length:Nat):Int)<(l.length:Int):=(by omega);rw[YK]at HO;go_wp2_with fail;go_ret
   exact⟨⟨_,rfl,HO.o⟩,HB.o⟩
theorem xb{k:Nat}{l:List (Nat×Int×List Nat)}(h:¬ (1<=k/\k<=3/\∀ c∈l,c.1=0∨c.1=k)):(eW k l).2=10:=by
 unfold eW;rw[Yx h]
theorem DV{k:Nat}{l:List (Nat×Int×List Nat)}(hk:1<=k/\k<=3)(hf:∀ c∈l,aI c)(h:∀ c∈l,c.1=0∨c.1=k):(eW k l).2=if 256<l.length then 5 else 0:=by
 unfold eW;rw[Yy ⟨hk.1,hk.2,h⟩];by_cases h2:256<l.length
 ·rw[Yx (by omega),Yy h2]
 ·rw[Yy ⟨by omega,fun c hc=>((hf c hc).cellk (h c hc)).short⟩,Yx h2]
theorem aI.size{c:Nat×Int×List Nat}(h:aI c):c.1<=3/\c.2.2.length<=64:=by
 rcases h with rfl | ⟨n,rfl,_⟩ | ⟨n,rfl,_⟩ | ⟨s,rfl,hs,_⟩
 ·simp[nul]
 ·simp
 ·simp
 ·exact⟨by simp,hs⟩
theorem DW{w:World}{v:Value}{l:List (Nat×Int×List Nat)}(hs:Sv w v (aC l))(hf:∀ c∈l,aI c)(k:Nat) :
  Calls Tryz.prog 122 #[.int .u8 (k:Int),v] w fun e w'=>e=.returned (.int .i64 ((eW k l).2:Int))/\Below w.heap.size w w':=by
 have HS:=ae hs;have HF:=ae hf;obtain⟨a,cap,rfl,aV,bw⟩:=hs.form1;rw[ax]at *;have hcm':cap<=9223372036854775807:=by unfold maxLen at bw;omega
 have HK:=ae (gU k);by_cases hk:1<=k/\k<=3
 ·rw[YT hk]at HK
  have HE:=ae (DV (l:=l) hk hf);have HN:=ae (xb (k:=k) (l:=l));clear hs hf bw hk
  have HL:jaH (decide ((l.length:Int) > 256)=decide (256<l.length)):=ae (by
   by_cases h:256<l.length
   ·rw[YT h,YT (by omega)]
   ·rw[YO h,YO (by omega)])
  go_enter Tryz.func122,Tryz.ntmps122
  go_wp2_with fail;refine(HK.o _).mono ?_;rintro e w1 ⟨rfl,rfl⟩;go_wp2_with fail;rw[HL.o];generalize UQ:decide (256<l.length)=lg;have UF:=ae UQ;clear UQ;go_loopw [5,18] (fun o i wr=>∃ j:Nat,j<=l.length/\o=.bool lg/\i=.int .i64 (j:Int)/\(∀ c∈l.take j,c.1=0∨c.1=k)/\Below w1.heap.size w1 wr) (fun _ i _=>l.length-(intOf i).toNat)
  case atStart=>exact⟨0,by omega,rfl,rfl,fun c hc=>by simp at hc,Yz _ _⟩
  case round =>
   obtain⟨j,hj,rfl,rfl,cz,ao⟩:=hrel;have HA:=ae cz;have HB:=ae ao;have bM:=ao.size;clear cz ao;by_cases ar:j<l.length
   ·obtain⟨b,off,rfl,hb,bn⟩:=HS.o.at1 (cd ar)
    have hcell':=(HB.o.cell (p:=⟨b,off+j,none⟩) hb).trans bn;have Qw:=HF.o l[j] (YF ar);have HM:=ae (YF ar)
    have HT:jaH (∀ c,c∈l.take (j+1)->c∈l.take j∨c=l[j]):=ae (fun c hc=>by
     rw[YP ar]at hc;rcases Zg.1 hc with h | h
     ·exact Or.inl h
     ·exact Or.inr (by simpa using h))
    have hlt':(j:Int)<(l.length:Int):=(by omega);obtain⟨TZ,hc64⟩:=Qw.size;have hnot64:¬ 64<((ai l[j].2.2).size:Int):=by rw[bx];omega
    have HV:=ae (fun W=>kr Qw.val W);clear bn Qw hc64;generalize l[j]=c at *;obtain⟨ck,cn,cs⟩:=c;simp only at *;generalize cp (ck,cn,cs)=vc at *;generalize ai cs=S at *;by_cases h0:((ck:Int) != 0)=true
    ·by_cases h1:((ck:Int) != (k:Int))=true
     ·have HN':jaH ((eW k l).2=10):=ae (HN.o (fun h=>by
       have:=h.2.2 _ HM.o;simp at h0 h1 this
       omega))
      go_wp2_with fail;refine(HV.o _).mono ?_;rintro e w2 ⟨rfl,ay⟩;have aK:=ae ay;have bh:=ay.size;clear ay;go_wp2_with fail;go_ret
      rw[HN'.o];exact⟨rfl,(HB.o.trans (aK.o.mono bM)).alloc (by omega) _⟩
     ·have h1':((ck:Int) != (k:Int))=false:=by simpa using h1
      have ek:ck=k:=by
       have:(ck:Int)=(k:Int):=by simpa using h1
       omega
      have oo:=ae ek;clear h1 ek;go_wp2_with fail;refine(HV.o _).mono ?_;rintro e w2 ⟨rfl,ay⟩;have aK:=ae ay;have bh:=ay.size;clear ay;cases lg
      ·go_wp2_with fail
       go_roundw
       case rel=>exact⟨j+1,by omega,YE Value.bool (YO (by omega)),by go_num,fun c hc=>(HT.o c hc).elim (HA.o c) (fun e=>by rw[e];exact Or.inr oo.o),(HB.o.trans (aK.o.mono bM)).alloc (by omega) _⟩
       case measure=>simp[intOf];omega
      ·go_wp2_with fail
       go_roundw
       case rel=>exact⟨j+1,by omega,rfl,by go_num,fun c hc=>(HT.o c hc).elim (HA.o c) (fun e=>by rw[e];exact Or.inr oo.o),(HB.o.trans (aK.o.mono bM)).alloc (by omega) _⟩
       case measure=>simp[intOf];omega
    ·have h0':((ck:Int) != 0)=false:=by simpa using h0
     have ek:ck=0:=by
      have:(ck:Int)=0:=by simpa using h0
      omega
     have oo:=ae ek;clear h0 ek;go_wp2_with fail;refine(HV.o _).mono ?_;rintro e w2 ⟨rfl,ay⟩;have aK:=ae ay;have bh:=ay.size;clear ay;cases lg
     ·go_wp2_with fail
      go_roundw
      case rel=>exact⟨j+1,by omega,YE Value.bool (YO (by omega)),by go_num,fun c hc=>(HT.o c hc).elim (HA.o c) (fun e=>by rw[e];exact Or.inl oo.o),(HB.o.trans (aK.o.mono bM)).alloc (by omega) _⟩
      case measure=>simp[intOf];omega
     ·go_wp2_with fail
      go_roundw
      case rel=>exact⟨j+1,by omega,rfl,by go_num,fun c hc=>(HT.o c hc).elim (HA.o c) (fun e=>by rw[e];exact Or.inl oo.o),(HB.o.trans (aK.o.mono bM)).alloc (by omega) _⟩
      case measure=>simp[intOf];omega
   ·have:j=l.length:=by omega
    subst this;rw[YK]at HA;have HE':=ae (HE.o HA.o);have eO:¬ ((l.length:Nat):Int)<(l.length:Int):=(by omega);cases lg
    ·have hn:¬ 256<l.length:=of_decide_eq_false UF.o
     rw[Yx hn]at HE';go_wp2_with fail;go_ret
     rw[HE'.o];exact⟨rfl,HB.o⟩
    ·have hn:256<l.length:=of_decide_eq_true UF.o
     rw[Yy hn]at HE';go_wp2_with fail;go_ret
     rw[HE'.o];exact⟨rfl,HB.o⟩
 ·rw[YO hk]at HK
  have HN:jaH ((eW k l).2=10):=ae (xb (fun h=>hk ⟨h.1,h.2.1⟩));clear hs hf bw hk;go_enter Tryz.func122,Tryz.ntmps122
  go_wp2_with fail;refine(HK.o _).mono ?_;rintro e w1 ⟨rfl,rfl⟩;go_wp2_with fail;go_ret
  rw[HN.o];exact⟨rfl,Yz _ _⟩
def stp(c:Nat):Nat:=c / 2 ^^^ (if c % 2=1 then 3988292384 else 0)
def ez:Nat->Nat->Nat
 | 0,c=>c
 | n+1,c=>ez n (stp c)
theorem NE{c:Nat}(h:c<4294967296):stp c<4294967296:=by
 have:stp c<2 ^ 32:=by
  unfold stp;apply jaB
  ·omega
  ·split<;>omega
 omega
theorem SN(a b:Nat):(a ^^^ b) % 2=(a+b) % 2:=by
 have h:(a ^^^ b).testBit 0=((a.testBit 0) ^^ (b.testBit 0)):=Nat.testBit_xor _ _ _;simp only[Nat.testBit_zero]at h;have ha:a % 2=0∨a % 2=1:=by omega
 have hb:b % 2=0∨b % 2=1:=by omega
 have hc:(a ^^^ b) % 2=0∨(a ^^^ b) % 2=1:=by omega
 generalize (a ^^^ b) % 2=z at *;rcases ha with ha | ha<;>rcases hb with hb | hb<;>rcases hc with hc | hc<;>simp[ha,hb,hc]at h<;>omega
theorem Az{a b:Nat}(h:a ^^^ b=0):a=b:=by
 have:=YE (fun z=>z ^^^ b) h;simpa only[ZN,Nat.xor_self,Nat.xor_zero,Nat.zero_xor]using this
theorem SO(a b:Nat):stp (a ^^^ b)=stp a ^^^ stp b:=by
 unfold stp;have h1:(a ^^^ b) / 2=a / 2 ^^^ b / 2:=Nat.xor_div_two;have h2:(a ^^^ b) % 2=(a+b) % 2:=SN a b;rw[h1];have ha:a % 2=0∨a % 2=1:=by omega
 have hb:b % 2=0∨b % 2=1:=by omega
 rcases ha with ha | ha<;>rcases hb with hb | hb
 ·have h3:(a ^^^ b) % 2=0:=by omega
  simp[ha,hb,h3]
 ·have h3:(a ^^^ b) % 2=1:=by omega
  simp[ha,hb,h3,ZN]
 ·have h3:(a ^^^ b) % 2=1:=by omega
  simp[ha,hb,h3,ZN]
  rw[Nat.xor_comm (b / 2)]
 ·have h3:(a ^^^ b) % 2=0:=by omega
  simp only[ha,hb,h3];simp only[Yy,Nat.xor_zero,Nat.zero_ne_one,if_false];generalize 3988292384=p;rw[ZN,Nat.xor_comm (b / 2) p,← ZN p,Nat.xor_self,Nat.zero_xor]
theorem NF(x:Nat):stp (2*x)=x:=by
 unfold stp;rw[Yx (by omega)];simp
theorem NG{c:Nat}(h:c<4294967296)(h0:stp c=0):c=0:=by
 unfold stp at h0;by_cases hc:c % 2=1
 ·rw[Yy hc]at h0
  have:c / 2=3988292384:=Az h0;omega
 ·rw[Yx hc,Nat.xor_zero]at h0
  omega
theorem ta:∀(n:Nat) {c:Nat},c<4294967296->ez n c<4294967296
 | 0,_,h=>h
 | n+1,_,h=>ta n (NE h)
theorem pg:∀(n a b:Nat),ez n (a ^^^ b)=ez n a ^^^ ez n b
 | 0,_,_=>rfl
 | n+1,a,b=>by rw[ez,ez,ez,SO,pg n]
theorem ph:∀(m n c:Nat),ez (m+n) c=ez n (ez m c)
 | 0,n,c=>by rw[YY];rfl
 | m+1,n,c=>by rw[Nat.add_right_comm,ez,ez,ph m n]
theorem kW:∀(n x:Nat),ez n (2 ^ n*x)=x
 | 0,x=>by simp[ez]
 | n+1,x=>by
  rw[ez,Nat.pow_succ,Zi (2 ^ n) 2,ZW,NF,kW n]
theorem xc:∀(n:Nat) {c:Nat},c<4294967296->ez n c=0->c=0
 | 0,_,_,h0=>h0
 | n+1,_,h,h0=>NG h (xc n (NE h) h0)
theorem iW{a r n:Nat}(h:a<2 ^ n):a+2 ^ n*r=a ^^^ (2 ^ n*r):=by
 apply Nat.eq_of_testBit_eq
 intro i;rw[Nat.testBit_xor,Nat.add_comm,Nat.testBit_two_pow_mul_add _ h,Nat.testBit_two_pow_mul];by_cases hi:i<n
 ·rw[Yy hi]
  simp[show ¬ n<=i by omega]
 ·rw[Yx hi]
  have h1:a.testBit i=false:=Nat.testBit_lt_two_pow (Za h (jag (by omega) (by omega)));simp[h1,show n<=i by omega]
theorem Jy(n c:Nat):ez n c=ez n (c % 2 ^ n) ^^^ c / 2 ^ n:=by
 have h:c=c % 2 ^ n ^^^ (2 ^ n*(c / 2 ^ n)):=by
  rw[← iW (Nat.mod_lt _ (ZC n))];exact(Nat.mod_add_div c (2 ^ n)).symm
 conv=>lhs;rw[h]
 rw[pg,kW]
def byt(c x:Nat):Nat:=ez 8 (c ^^^ x)
def run(c:Nat)(b:List Nat):Nat:=b.foldl byt c
def qH(c:Nat)(b:List Nat):Nat:=run (c ^^^ 4294967295) b ^^^ 4294967295
theorem AA(c x:Nat)(b:List Nat):run c (x::b)=run (byt c x) b:=rfl
theorem DX(c:Nat)(a b:List Nat):run c (a++b)=run (run c a) b:=List.foldl_append
theorem NH(c x:Nat)(b:List Nat):run c (b++[x])=byt (run c b) x:=by rw[DX];rfl
theorem lQ{a b:Nat}(ha:a<4294967296)(hb:b<4294967296):a ^^^ b<4294967296:=by
 have:a ^^^ b<2 ^ 32:=jaB (by omega) (by omega);omega
theorem VX{c x:Nat}(h:c<4294967296)(hx:x<256):byt c x<4294967296:=ta 8 (lQ h (by omega))
theorem yq:∀{b:List Nat} {c:Nat},c<4294967296->(∀ x∈b,x<256)->run c b<4294967296
 | [],_,h,_=>h
 | x::b,c,h,hb=>by
  rw[AA];exact yq (VX h (hb x (by simp))) fun y hy=>hb y (by simp[hy])
theorem yr{b:List Nat}{c:Nat}(h:c<4294967296)(hb:∀ x∈b,x<256):qH c b<4294967296:=lQ (yq (lQ h (by omega)) hb) (by omega)
theorem NI(a p:Nat):a ^^^ p ^^^ p=a:=by rw[ZN,Nat.xor_self,Nat.xor_zero]
def leN:List Nat->Nat
 | []=>0
 | x::b=>x+256*leN b
theorem DY:∀{b:List Nat},(∀ x∈b,x<256)->leN b<2 ^ (8*b.length)
 | [],_=>by simp[leN]
 | x::b,h=>by
  have h1:=DY (b:=b) fun y hy=>h y (by simp[hy])
  have h2:=h x (by simp);rw[leN,YI,ZQ,ZM];omega
theorem yt:∀{b:List Nat} (c:Nat),(∀ x∈b,x<256)->run c b=ez (8*b.length) (c ^^^ leN b)
 | [],c,_=>by simp[run,leN,ez]
 | x::b,c,h=>by
  have hx:x<2 ^ 8:=h x (by simp);rw[AA,yt (byt c x) fun y hy=>h y (by simp[hy]),YI,ZQ,Nat.add_comm (8*b.length),ph,leN];congr 1
  have e:x+256*leN b=x ^^^ (2 ^ 8*leN b):=iW hx;rw[e,← ZN,pg,kW];rfl
theorem Jz{a b:List Nat}{c X f:Nat}(ha:∀ x∈a,x<256)(hb:∀ x∈b,x<256)(hl:a.length=b.length)(hX:X<4294967296)(hf:f<=8*a.length)
  (h:leN b=leN a ^^^ (2 ^ f*X)) (he:run c a=run c b):X=0:=by
 rw[yt c ha,yt c hb,← hl,h,← ZN,pg _ (c ^^^ leN a)]at he
 have h0:ez (8*a.length) (2 ^ f*X)=0:=by
  have:=YE (fun z=>ez (8*a.length) (c ^^^ leN a) ^^^ z) he;simp only[Nat.xor_self,← ZN,Nat.zero_xor]at this;exact this.symm
 rw[show 8*a.length=f+(8*a.length-f) by omega,ph,kW]at h0;exact xc _ hX h0
theorem DZ{a b:List Nat}{c X f:Nat}(ha:∀ x∈a,x<256)(hb:∀ x∈b,x<256)(hl:a.length=b.length)(hX:X<4294967296)(hf:f<=8*a.length)
  (h:leN b=leN a ^^^ (2 ^ f*X)) (he:qH c a=qH c b):X=0:=by
 refine Jz (c:=c ^^^ 4294967295) ha hb hl hX hf h ?_;have:=YE (fun z=>z ^^^ 4294967295) he;unfold qH at this;simpa only[NI]using this
theorem Ga:∀{b:List Nat} {j y:Nat} (hj:j<b.length),(∀ x∈b,x<256)->y<256->leN (b.set j (b[j] ^^^ y))=leN b ^^^ (2 ^ (8*j)*y)
 | [],j,y,hj,_,_=>by simp at hj
 | x::b,0,y,_,h,hy=>by
  have hx:x<2 ^ 8:=h x (by simp);have XP:x ^^^ y<2 ^ 8:=jaB hx hy;simp only[YJ,jar,leN];have e1:x+256*leN b=x ^^^ (2 ^ 8*leN b):=iW hx;have e2:(x ^^^ y)+256*leN b=(x ^^^ y) ^^^ (2 ^ 8*leN b):=iW XP;rw[e1,e2,Nat.mul_zero,Nat.pow_zero,jad,ZN,Nat.xor_comm y,← ZN]
 | x::b,j+1,y,hj,h,hy=>by
  have hx:x<2 ^ 8:=h x (by simp);have ih:=Ga (b:=b) (j:=j) (y:=y) (by simpa using hj) (fun z hz=>h z (by simp[hz])) hy;simp only[YL,List.getElem_cons_succ,leN];rw[ih];have e1:x+256*leN b=x ^^^ (2 ^ 8*leN b):=iW hx;have e2:x+256*(leN b ^^^ 2 ^ (8*j)*y)=x ^^^ (2 ^ 8*(leN b ^^^ 2 ^ (8*j)*y)):=iW hx;rw[e1,e2,ZN];congr 1
  have e3:2 ^ 8*(leN b ^^^ 2 ^ (8*j)*y)=2 ^ 8*leN b ^^^ 2 ^ 8*(2 ^ (8*j)*y):=by
   apply Nat.eq_of_testBit_eq
   intro i;simp only[Nat.testBit_xor,Nat.testBit_two_pow_mul];cases decide (i>=8)<;>simp
  rw[e3,← ZW,← ZM,ZQ,Nat.add_comm 8]
def le4(s:Nat):List Nat:=[s % 256,s / 256 % 256,s / 65536 % 256,s / 16777216 % 256]
theorem qI(s:Nat):∀ x∈le4 s,x<256:=by
 intro x hx;simp[le4]at hx
 omega
theorem yu{s:Nat}(h:s<4294967296):leN (le4 s)=s:=by
 simp[le4,leN]
 omega
theorem SP{s t:Nat}(hs:s<4294967296)(ht:t<4294967296)(h:le4 s=le4 t):s=t:=by
 rw[← yu hs,← yu ht,h]
def br(b:List Nat):List Nat:=b++le4 (qH 0 b)
theorem iX(b:List Nat):(br b).length=b.length+4:=by simp[br,le4]
def ik(b:List Nat):Option (List Nat) :=
 if 4<=b.length/\br (b.take (b.length-4))=b then some (b.take (b.length-4)) else none
theorem Ea(b:List Nat):ik (br b)=some b:=by
 unfold ik
 have h:(br b).take ((br b).length-4)=b:=by
  rw[iX,Nat.add_sub_cancel];unfold br;rw[ZB]
 rw[h,Yy ⟨by rw[iX];omega,rfl⟩]
theorem yv{b:List Nat}{j y:Nat}(hb:∀ x∈b,x<256)(hj:j<(br b).length)(hy:y<256)(h0:y≠0):ik ((br b).set j ((br b)[j] ^^^ y))=none:=by
 unfold ik;rw[Yx];rintro⟨_,h⟩;have et:=iX b;rw[jak,et,Nat.add_sub_cancel]at h
 have hsb:∀ x∈br b,x<256:=by
  intro x hx;rcases Zg.1 hx with hx | hx
  ·exact hb x hx
  ·exact qI _ x hx
 have hv:(br b)[j] ^^^ y<256:=by
  have:(br b)[j] ^^^ y<2 ^ 8:=jaB (hsb _ (YF hj)) hy;omega
 have fb:(br b)[j] ^^^ y≠(br b)[j]:=by
  intro e;have:=YE (fun z=>(br b)[j] ^^^ z) e;simp only[← ZN,Nat.xor_self,Nat.zero_xor]at this;exact h0 this
 by_cases hjb:j<b.length
 ·have e1:(br b).set j ((br b)[j] ^^^ y)=b.set j (b[j] ^^^ y)++le4 (qH 0 b):=by
   have hg:(br b)[j]=b[j]:=jaD hjb;rw[hg];unfold br;rw[List.set_append_left _ _ hjb]
  have gV:(b.set j (b[j] ^^^ y)).length=b.length:=jak;rw[e1,List.take_append_of_le_length (by rw[gV];exact YA _),Zo (by rw[gV];exact YA _)]at h;unfold br at h;have h2:=List.append_cancel_left h
  have ay:∀ x∈b.set j (b[j] ^^^ y),x<256:=by
   intro x hx;rcases List.mem_or_eq_of_mem_set hx with hx | rfl
   ·exact hb x hx
   ·have:b[j] ^^^ y<2 ^ 8:=jaB (hb _ (YF hjb)) hy
    omega
  have h3:=SP (yr (by omega) ay) (yr (by omega) hb) h2;exact h0 (DZ (c:=0) (X:=y) (f:=8*j) hb ay gV.symm (by omega) (by omega) (Ga hjb hb hy) h3.symm)
 ·have e1:((br b).set j ((br b)[j] ^^^ y)).take b.length=b:=by
   rw[List.take_set_of_le (by omega)];unfold br;rw[ZB]
  rw[e1]at h;have:=YE (fun l:List Nat=>l[j]?) h;simp only[List.getElem?_set_self hj,List.getElem?_eq_getElem hj,Option.some.injEq]at this;exact fb this.symm
abbrev Row:=List Cl
def bq(rs:List Row)(k:Nat):List Cl:=rs.map fun r=>r.getD k nul
def lA(fs:List Fd)(k:Nat):Nat:=(fs.map fun f=>f.2.2.1).getD k 0
theorem lR{fs:List Fd}{k:Nat}(h:k<fs.length):lA fs k=fs[k].2.2.1:=by
 unfold lA;rw[List.getD_eq_getElem?_getD,List.getElem?_map,List.getElem?_eq_getElem h];rfl
theorem bR(rs:List Row)(k:Nat):(bq rs k).length=rs.length:=YD _
def iA(c:Cl):List Nat:=if c.1=1 then uv (zigzag c.2.1) else if c.1=2 then [(c.2.1 % 256).toNat] else uv c.2.2.length++c.2.2
def AB(st:Stt):Nat:=(if st.some=true then 1 else 0)+(if st.high=true then 2 else 0)
def eS(st:Stt):List Nat:=uv st.nulls.toNat++[AB st]++((if st.some=true then iA st.lo else [])++(if st.high=true then iA st.hi else []))
def nps(g n:Nat):Nat:=(n+g-1) / g
def prt(g:Nat)(rs:List Row)(j:Nat):List Row:=(rs.drop (j*g)).take g
def prts(g:Nat)(rs:List Row):List (List Row):=(List.range (nps g rs.length)).map (prt g rs)
def fq(fs:List Fd)(p:List Row)(k:Nat):List Nat:=(List.range k).flatMap fun i=>dS (lA fs i) (bq p i)
def ftK(fs:List Fd)(p:List Row)(k:Nat):List Nat:=(List.range k).flatMap fun i=>uv (dS (lA fs i) (bq p i)).length++eS (bJ (bq p i))
def mN(fs:List Fd)(g:Nat)(rs:List Row)(j:Nat):List Nat:=(List.range j).flatMap fun i=>fq fs (prt g rs i) fs.length
def ftJ(fs:List Fd)(g:Nat)(rs:List Row)(j:Nat):List Nat:=(List.range j).flatMap fun i=>ftK fs (prt g rs i) fs.length
def il(id:Nat)(fs:List Fd)(rs:List Row)(g:Nat):List Nat:=ep id fs++uv rs.length++uv g++ftJ fs g rs (nps g rs.length)
def kF(id:Nat)(fs:List Fd)(rs:List Row)(g:Nat):List Nat:=mN fs g rs (nps g rs.length)++il id fs rs g++le4 (il id fs rs g).length
def dw(id:Nat)(fs:List Fd)(rs:List Row)(g:Nat):List Nat:=[67,70,49]++kF id fs rs g
theorem mz(fs:List Fd)(p:List Row)(k:Nat):fq fs p (k+1)=fq fs p k++dS (lA fs k) (bq p k):=by
 unfold fq;rw[jac,ZS];simp
theorem pi(fs:List Fd)(p:List Row)(k:Nat):ftK fs p (k+1)=ftK fs p k++(uv (dS (lA fs k) (bq p k)).length++eS (bJ (bq p k))):=by
 unfold ftK;rw[jac,ZS];simp
theorem xd(fs:List Fd)(g:Nat)(rs:List Row)(j:Nat):mN fs g rs (j+1)=mN fs g rs j++fq fs (prt g rs j) fs.length:=by
 unfold mN;rw[jac,ZS];simp
theorem AC(fs:List Fd)(g:Nat)(rs:List Row)(j:Nat):ftJ fs g rs (j+1)=ftJ fs g rs j++ftK fs (prt g rs j) fs.length:=by
 unfold ftJ;rw[jac,ZS];simp
def lS(fs:List Fd):List Row->Nat
 | []=>0
 | r::t=>if gW fs r=0 then lS fs t else gW fs r
def en(id:Nat)(fs:List Fd)(rs:List Row)(g:Int):Nat :=
 if chk id fs≠0 then chk id fs else if g<1∨64<g then 1 else if 256<rs.length then 5 else lS fs rs
def dG(id:Nat)(fs:List Fd)(rs:List Row)(g:Int):List Nat×Nat :=
 if en id fs rs g≠0 then ([],en id fs rs g) else if 65536<(br (dw id fs rs g.toNat)).length then ([],4) else (br (dw id fs rs g.toNat),0)
abbrev S3:=List Nat×List Nat×Bool
def kG(lo hi:Nat)(b:List Nat):Bool:=!decide ((gt b).2.2=0/\lo<=(gt b).1/\(gt b).1<=hi)
def eY(lo hi:Nat)(b:List Nat):Nat:=if kG lo hi b=true then 0 else (gt b).1
def cN(b:List Nat):List Nat:=b.drop (gt b).2.1
theorem pj(lo hi:Nat)(b:List Nat):eY lo hi b<=hi:=by
 unfold eY kG;split
 ·omega
 ·next h =>
  simp only[Bool.not_eq_true',jat,Decidable.not_not]at h;exact h.2.2
theorem Gb{lo hi:Nat}{b:List Nat}(h:kG lo hi b=false):lo<=eY lo hi b:=by
 unfold eY;rw[Yx (by rw[h];decide)];unfold kG at h;simp only[Bool.not_eq_false',Zu]at h;exact h.2.1
theorem nP{lo hi n:Nat}(h1:lo<=n)(h2:n<=hi)(h3:n<18446744073709551616)(r:List Nat):kG lo hi (uv n++r)=false/\eY lo hi (uv n++r)=n/\cN (uv n++r)=r:=by
 have hg:=kP n h3 r
 have hb:kG lo hi (uv n++r)=false:=by
  unfold kG;rw[hg];simp[h1,h2]
 refine⟨hb,?_,?_⟩
 ·unfold eY
  rw[hb,hg];rfl
 ·unfold cN
  rw[hg,Zn]
def gm(k n:Nat)(s:S3):List Cl×S3 :=
 ((fh k (s.1.take (eY 0 s.1.length s.2.1)) n).getD [],
  (s.1.drop (eY 0 s.1.length s.2.1),cN s.2.1,(s.2.2 || kG 0 s.1.length s.2.1) || (fh k (s.1.take (eY 0 s.1.length s.2.1)) n).isNone))
def nQ(l:List Cl)(s:S3):S3:=if (eS (bJ l)).isPrefixOf s.2.1=true then (s.1,s.2.1.drop (eS (bJ l)).length,s.2.2) else (s.1,s.2.1,true)
def psh(rs:List Row)(l:List Cl):List Row:=rs.mapIdx fun i r=>r++(l[i]?).toList
def grS(n:Nat)(st:List Row×List Stt×S3)(f:Fd):List Row×List Stt×S3 :=
 (psh st.1 (gm f.2.2.1 n st.2.2).1,st.2.1++[bJ (gm f.2.2.1 n st.2.2).1],nQ (gm f.2.2.1 n st.2.2).1 (gm f.2.2.1 n st.2.2).2)
def grK(fs:List Fd)(n:Nat)(s:S3)(k:Nat):List Row×List Stt×S3:=(fs.take k).foldl (grS n) (List.replicate n [],[],s)
theorem uk(fs:List Fd)(n:Nat)(s:S3):grK fs n s 0=(List.replicate n [],[],s):=rfl
theorem pm{fs:List Fd}{k:Nat}(h:k<fs.length)(n:Nat)(s:S3):grK fs n s (k+1)=grS n (grK fs n s k) fs[k]:=by
 unfold grK;rw[YP h,List.foldl_append];rfl
abbrev Gr:=List Row×List Stt
def fiJ(fs:List Fd)(g tot:Nat)(s:S3):Nat->List Gr×S3
 | 0=>([],s)
 | j+1=>((fiJ fs g tot s j).1++[((grK fs (min (tot-j*g) g) (fiJ fs g tot s j).2 fs.length).1,(grK fs (min (tot-j*g) g) (fiJ fs g tot s j).2 fs.length).2.1)],
   (grK fs (min (tot-j*g) g) (fiJ fs g tot s j).2 fs.length).2.2)
def fR(fs:List Fd)(c r:List Nat):List Gr×S3 :=
 fiJ fs (eY 1 64 (cN r)) (eY 0 256 r) (c,cN (cN r),kG 0 256 r || kG 1 64 (cN r)) (nps (eY 1 64 (cN r)) (eY 0 256 r))
def im(b:List Nat):Option (Nat×List Fd×Nat×List Gr) :=
 if b.length<4 then none else
 if b.length-4<leN (b.drop (b.length-4)) then none else
 match cw ((b.take (b.length-4)).drop (b.length-4-leN (b.drop (b.length-4))))with
 | .error _=>none
 | .ok ((id,fs),r)=>if (fR fs (b.take (b.length-4-leN (b.drop (b.length-4)))) r).2.2.2=true then none
  else some (id,fs,eY 1 64 (cN r),(fR fs (b.take (b.length-4-leN (b.drop (b.length-4)))) r).1)
def aZ(gs:List Gr):List Row:=(gs.map Prod.fst).flatten
def pn(b:List Nat):Except Nat (Nat×List Fd×Nat×List Gr) :=
 match ik b with
 | none=>.error 101
 | some t=>if t.take 3=[67,70,49] then (match im (t.drop 3)with
   | none=>.error 102
   | some x=>if dG x.1 x.2.1 (aZ x.2.2.2) x.2.2.1=(b,0) then .ok x else .error 102) else .error 100
theorem rN{l:List Cl}{s:S3}(h:(nQ l s).2.2=false):s.2.2=false/\s.2.1=eS (bJ l)++(nQ l s).2.1/\(nQ l s).1=s.1:=by
 unfold nQ at *;split at h
 ·next hp =>
  rw[Yy hp];refine⟨h,?_,rfl⟩;obtain⟨t,ht⟩:=ZV.1 hp;show _=_++List.drop _ _
  rw[← ht,Zn]
 ·cases h
theorem SQ{l:List Cl}{c b:List Nat}{fl:Bool}:nQ l (c,eS (bJ l)++b,fl)=(c,b,fl):=by
 unfold nQ;rw[Yy (ZV.2 ⟨b,rfl⟩),Zn]
theorem rO{k n:Nat}{s:S3}(h:(gm k n s).2.2.2=false):s.2.2=false/\∃ l c,(gm k n s).1=l/\fh k c n=some l/\s.1=c++(gm k n s).2.1:=by
 unfold gm at *;simp only[Bool.or_eq_false_iff]at h;refine⟨h.1.1,?_⟩;cases hr:fh k (s.1.take (eY 0 s.1.length s.2.1)) n with
 | none=>rw[hr]at h;simp at h
 | some l=>exact⟨l,_,rfl,hr,(ZZ _ _).symm⟩
theorem um{n:Nat}{st:List Row×List Stt×S3}{f:Fd}(h:(grS n st f).2.2.2.2=false):st.2.2.2.2=false/\(gm f.2.2.1 n st.2.2).2.2.2=false:=by
 unfold grS at h;have h1:=(rN h).1;exact⟨(rO h1).1,h1⟩
theorem rP{n:Nat}:∀{fs:List Fd} {st:List Row×List Stt×S3},(fs.foldl (grS n) st).2.2.2.2=false->st.2.2.2.2=false
 | [],_,h=>h
 | f::t,st,h=>(um (rP (fs:=t) h)).1
theorem Eb{fs:List Fd}{n:Nat}{s:S3}{k:Nat}(h:(grK fs n s k).2.2.2.2=false):s.2.2=false:=rP (st:=(List.replicate n [],[],s)) h
theorem nR{fs:List Fd}{g tot:Nat}{s:S3}:∀{m j:Nat},j<=m->(fiJ fs g tot s m).2.2.2=false->(fiJ fs g tot s j).2.2.2=false:=by
 intro m;induction m with
 | zero =>
  intro j hj h;obtain rfl:j=0:=by omega
  exact h
 | succ m ih =>
  intro j hj h;rcases Zd m j with h1 | h1
  ·obtain rfl:j=m+1:=by omega
   exact h
  ·exact ih h1 (Eb (k:=fs.length) h)
def eD(n:Nat)(cols:List (List Cl)):List Row:=(List.range n).map fun i=>cols.map fun l=>l.getD i nul
theorem un(n:Nat):eD n []=List.replicate n []:=by
 unfold eD;apply List.ext_getElem?
 intro i;by_cases h:i<n
 ·simp[h]
 ·simp[h]
theorem ft(n:Nat)(cols:List (List Cl)):(eD n cols).length=n:=by simp[eD]
theorem kX{n:Nat}{cols:List (List Cl)}{i:Nat}(h:i<n):(eD n cols)[i]?=some (cols.map fun l=>l.getD i nul):=by
 unfold eD;simp[h]
theorem uo{n:Nat}{cols:List (List Cl)}{l:List Cl}(h:l.length=n):psh (eD n cols) l=eD n (cols++[l]):=by
 unfold psh;apply List.ext_getElem?
 intro i;rw[List.getElem?_mapIdx];by_cases hi:i<n
 ·rw[kX hi,kX hi,List.getElem?_eq_getElem (by omega)]
  simp[List.getD_eq_getElem?_getD,List.getElem?_eq_getElem (show i<l.length by omega)]
 ·rw[List.getElem?_eq_none (l:=eD n cols) (by rw[ft];omega),List.getElem?_eq_none (l:=eD n (cols++[l])) (by rw[ft];omega)]
  rfl
theorem AD{n:Nat}{cols:List (List Cl)}{k:Nat}(hk:k<cols.length)(h:cols[k].length=n):bq (eD n cols) k=cols[k]:=by
 unfold bq;apply List.ext_getElem?
 intro i;rw[List.getElem?_map];by_cases hi:i<n
 ·rw[kX hi,List.getElem?_eq_getElem (show i<cols[k].length by omega)]
  simp[List.getD_eq_getElem?_getD,List.getElem?_eq_getElem hk,List.getElem?_eq_getElem (show i<cols[k].length by omega)]
 ·rw[List.getElem?_eq_none (by rw[ft];omega),List.getElem?_eq_none (by omega)]
  rfl
theorem AE{p:List Row}{m:Nat}(h:∀ r∈p,r.length=m):eD p.length ((List.range m).map (bq p))=p:=by
 apply List.ext_getElem?
 intro i;by_cases hi:i<p.length
 ·rw[kX hi,List.getElem?_eq_getElem hi,Zk]
  congr 1
  have hm:=h _ (YF hi);apply List.ext_getElem?
  intro k;rw[List.getElem?_map];by_cases hk:k<m
  ·rw[List.getElem?_range hk,List.getElem?_eq_getElem (by omega)]
   simp[bq,List.getD_eq_getElem?_getD,List.getElem?_eq_getElem hi,List.getElem?_eq_getElem (show k<p[i].length by omega)]
  ·rw[List.getElem?_eq_none (by simp;omega),List.getElem?_eq_none (by omega)]
   rfl
 ·rw[List.getElem?_eq_none (by rw[ft];omega),List.getElem?_eq_none (by omega)]
def Whl(fs:List Fd)(n:Nat)(cols:List (List Cl)):Prop:=∀ i (h:i<cols.length),Col (lA fs i) cols[i]/\cols[i].length=n
theorem JA{fs:List Fd}{n:Nat}{s:S3}(hn:n<=64)(hk:∀ f∈fs,1<=f.2.2.1/\f.2.2.1<=3)(hb:Bs s.1):∀{k:Nat},k<=fs.length->(grK fs n s k).2.2.2.2=false ->
  ∃ cols,cols.length=k/\Whl fs n cols/\(grK fs n s k).1=eD n cols/\(grK fs n s k).2.1=cols.map bJ/\Bs (grK fs n s k).2.2.1:=by
 intro k;induction k with
 | zero=>exact fun _ _=>⟨[],rfl,fun i h=>by simp at h,(un n).symm,rfl,hb⟩
 | succ k ih =>
  intro te h;rw[pm (by omega)]at h ⊢;obtain⟨h1,h2⟩:=um h;obtain⟨cols,hc,hw,hr,hs,sd⟩:=ih (by omega) h1;obtain⟨_,l,c,e1,e2,e3⟩:=rO h2;have Ri:Bs c:=fun x hx=>sd x (by rw[e3];exact List.mem_append_left _ hx)
  have Rm:=hk _ (YF (show k<fs.length by omega));obtain⟨q1,q2,_⟩:=(kA Rm (by omega) Ri).1 e2;refine⟨cols++[l],by simp[hc],?_,?_,?_,?_⟩
  ·intro i hi
   rcases Zd i cols.length with h3 | h3
   ·rw[jaD h3]
    exact hw i h3
   ·obtain rfl:i=cols.length:=by simp at hi;omega
    rw[List.getElem_append_right (YA _)];simp only[jai,jar];rw[hc,lR (by omega)];exact⟨q1,q2⟩
  ·unfold grS
   simp only[e1,hr];exact uo q2
  ·unfold grS
   simp only[e1,hs,YX,Zh,Zs]
  ·have h4:=(rN (l:=(gm fs[k].2.2.1 n (grK fs n s k).2.2).1) (s:=(gm fs[k].2.2.1 n (grK fs n s k).2.2).2) h).2.2
   unfold grS;simp only;rw[h4];exact fun x hx=>sd x (by rw[e3];exact List.mem_append_right _ hx)
theorem nS(n:Nat)(hn:n<9223372036854775808)(w:World):Calls Tryz.prog 81 #[.int .i64 (n:Int)] w (dJ w (uv n)):=by
 have HV:=ae (cU n (by omega));have UJ:IntKind.u64.wrap (n:Int)=(n:Int):=by rw[Zr];omega
 go_enter Tryz.func81,Tryz.ntmps81
 go_wp2_with fail;refine(HV.o _).mono ?_;rintro e w1 ⟨⟨v1,rfl,o1⟩,aA⟩;go_wp2_with fail;go_ret
 exact⟨⟨_,rfl,o1⟩,aA⟩
theorem yw{l:List Nat}(h:Bs l):dX (ai l)=l:=by
 unfold dX;rw[ee];exact jL h
theorem AF{s:List Nat}(c:Nat)(n:Int)(hc:(c:Int)≠1)(jH:(c:Int)≠2)(hl:s.length<=64)(h8:Bs s)(w:World) :
  Calls Tryz.prog 133 #[.agg #[.int .u8 (c:Int),.int .i64 n,.string (ai s)]] w (dJ w (uv s.length++s)):=by
 have HE:=ae (yw h8);have ll:(ai s).size=s.length:=bx s;have HV:=ae (nS s.length (by omega));have Kw:=cC (n:=s.length) (by omega);have h1:((c:Int)==1)=false:=YN.2 hc;have h2:((c:Int)==2)=false:=YN.2 jH;obtain⟨x0,x1,x2⟩:=dC w (.int .u8 (c:Int)) (.int .i64 n) (.string (ai s)) 52;have hz:w.heap.size<(w.alloc (.cells #[.int .u8 (c:Int),.int .i64 n,.string (ai s)] 52)).heap.size:=by rw[YB];omega
 have bV:=ae (aj w (.cells #[.int .u8 (c:Int),.int .i64 n,.string (ai s)] 52));generalize hW:w.alloc (.cells #[.int .u8 (c:Int),.int .i64 n,.string (ai s)] 52)=W at *
 have eG:jaH (∀ n W',Below W.heap.size (W.drewN n) W'->W'.cell? ⟨w.heap.size,2,none⟩=some (.string (ai s))/\Below W.heap.size W W'/\W.heap.size<=W'.heap.size):=ae (fun n W' h=>by
  have hb':Below W.heap.size W W':=(ak (Yz _ _) n).trans h;exact⟨(hb'.cell (p:=⟨w.heap.size,2,none⟩) hz).trans x2,hb',hb'.size⟩)
 generalize hP:uv s.length=P at *;have hPp:0<P.length:=by rw[← hP];exact tz _
 clear hP hc jH h8;go_enter Tryz.func133,Tryz.ntmps133
 go_wp2_with fail;try rw[hW]
 clear hW
 go_region_held3 (fun w'=>w'.cell? ⟨w.heap.size,2,none⟩=some (.string (ai s))) (go_keep) (first
  | (go_at_call 81;refine(HV.o _).mono ?_;rintro e w2 ⟨⟨v2,rfl,fx⟩,ay⟩;obtain⟨Ua,uS,hm3⟩:=eG.o _ _ ay;have KJ:=ae uS;have ec:=ae fx;clear ay uS fx)
  | (refine sH (by rfl) _ _ (by rfl) W.heap.size _ P (ai s) (by rfl) ?_ (by rfl) ?_ ?_ ?_;exact(bE ec.o (by simp));omega;omega;intro v3 w3 o3 b3;have re:=(b3.cell (p:=⟨w.heap.size,2,none⟩) hz).trans Ua;have dx:=ae o3;have bT:=ae (KJ.o.trans b3);clear o3 b3))
 all_goals go_wp2_with fail
 all_goals go_ret
 all_goals rw[HE.o]at dx
 all_goals exact⟨⟨_,rfl,bE dx.o bV.o.size⟩,ag bV.o bT.o⟩
theorem JB{n:Int}(h:I64 n)(w:World):Calls Tryz.prog 133 #[.agg #[.int .u8 1,.int .i64 n,.string ⟨#[]⟩]] w (dJ w (wv n)):=by
 have HV:=ae (fQ h);obtain⟨x0,x1,x2⟩:=dC w (.int .u8 1) (.int .i64 n) (.string ⟨#[]⟩) 52;have bV:=ae (aj w (.cells #[.int .u8 1,.int .i64 n,.string ⟨#[]⟩] 52));go_enter Tryz.func133,Tryz.ntmps133
 go_wp2_with fail;refine(HV.o _).mono ?_;rintro e w1 ⟨⟨v1,rfl,o1⟩,aA⟩;have HO:=ae o1;have HB:=ae aA;clear o1 aA;go_wp2_with fail;go_ret
 exact⟨⟨_,rfl,bE HO.o bV.o.size⟩,ag bV.o HB.o⟩
theorem JC{n:Nat}(h:n<2)(w:World):Calls Tryz.prog 133 #[.agg #[.int .u8 2,.int .i64 (n:Int),.string ⟨#[]⟩]] w (dJ w [n]):=by
 obtain⟨x0,x1,x2⟩:=dC w (.int .u8 2) (.int .i64 (n:Int)) (.string ⟨#[]⟩) 52;have UJ:IntKind.u8.wrap (n:Int)=(n:Int):=by rw[IntKind.wrap_u8];omega
 have bV:=ae (aj w (.cells #[.int .u8 2,.int .i64 (n:Int),.string ⟨#[]⟩] 52));have HL:=ae (gl (w.alloc (.cells #[.int .u8 2,.int .i64 (n:Int),.string ⟨#[]⟩] 52)) n);have aN:=ae (aj (w.alloc (.cells #[.int .u8 2,.int .i64 (n:Int),.string ⟨#[]⟩] 52)) (.cells #[.int .u8 (n:Int)] 5));have hz:(w.alloc (.cells #[.int .u8 2,.int .i64 (n:Int),.string ⟨#[]⟩] 52)).heap.size=w.heap.size+1:=YB _ _;go_enter Tryz.func133,Tryz.ntmps133
 go_wp2_with fail;go_ret
 have H1:=bE HL.o bV.o.size;rw[hz]at H1;exact⟨⟨_,rfl,H1⟩,ag bV.o aN.o⟩
theorem AG{c:Cl}(h:aI c)(w:World):Calls Tryz.prog 133 #[.agg #[.int .u8 (c.1:Int),.int .i64 c.2.1,.string (ai c.2.2)]] w (dJ w (iA c)):=by
 rcases h with rfl | ⟨n,rfl,h1⟩ | ⟨n,rfl,h1⟩ | ⟨s,rfl,h1,h2⟩
 ·have:=AF (s:=[]) 0 0 (by decide) (by decide) (by simp) (fun x hx=>by simp at hx) w
  exact this
 ·have:=JB h1 w
  exact this
 ·have:=JC h1 w
  have e:iA ((2,(n:Int),[]):Cl)=[n]:=by
   unfold iA;rw[Yx (by simp),Yy (by simp)];simp only;congr 1
   omega
  rw[e];exact this
 ·have:=AF (s:=s) 3 0 (by decide) (by decide) h1 h2 w
  exact this
theorem AH(st:Stt)(w:World):Calls Tryz.prog 132 #[kU st] w fun e w'=>e=.returned (.int .u8 (AB st:Int))/\Below w.heap.size w w':=by
 obtain⟨r,n,so,hi,lo,hh⟩:=st;unfold kU AB
 have hc:∀ i,i<10->(w.alloc (.cells #[.int .i64 r,.int .i64 n,.bool so,.bool hi,.int .u8 (lo.1:Int),.int .i64 lo.2.1,.string (ai lo.2.2),.int .u8 (hh.1:Int),.int .i64 hh.2.1,.string (ai hh.2.2)] 54)).cell? ⟨w.heap.size,i,none⟩=(celS ⟨r,n,so,hi,lo,hh⟩)[i]?:=fun i hi=>by
  rw[an (Zb w _)];simp[celS]
 have c2:=hc 2 (by omega);have c3:=hc 3 (by omega);simp only[celS,List.getElem?_cons_succ,List.getElem?_cons_zero]at c2 c3;have HB:=ae (aj w (.cells #[.int .i64 r,.int .i64 n,.bool so,.bool hi,.int .u8 (lo.1:Int),.int .i64 lo.2.1,.string (ai lo.2.2),.int .u8 (hh.1:Int),.int .i64 hh.2.1,.string (ai hh.2.2)] 54));clear hc;cases so<;>cases hi
 all_goals
  go_enter Tryz.func132,Tryz.ntmps132
  go_wp2_with fail;go_ret
  exact⟨by first | rfl | kernel_rfl,HB.o⟩
theorem xe{w:World}{v:Value}{l:List Fd}(hs:Sf w v l)(id:Nat):Calls Tryz.prog 77 #[.agg #[.int .u32 (id:Int),v]] w fun e w'=>e=.returned (.int .i64 (chk id l:Int))/\Below w.heap.size w w':=by
 obtain⟨a,cap,rfl,aV,bw⟩:=hs.form;have bV:=ae (aj w (.cells #[.int .u32 (id:Int),.slice a l.length cap] 25));have HS:=ae (hs.kept (aj w (.cells #[.int .u32 (id:Int),.slice a l.length cap] 25)));obtain⟨c0,c1⟩:=aR w (.int .u32 (id:Int)) (.slice a l.length cap) 25;have hz:w.heap.size<(w.alloc (.cells #[.int .u32 (id:Int),.slice a l.length cap] 25)).heap.size:=by rw[YB];omega
 clear hs;by_cases h1:id=0∨l.length=0∨8<l.length
 ·have HR:jaH (chk id l=1):=ae (Yy h1)
  clear c0 c1 hz HS;by_cases q1:id=0
  ·subst q1
   go_enter Tryz.func77,Tryz.ntmps77
   go_wp2_with fail;go_ret
   rw[HR.o];exact⟨rfl,bV.o⟩
  ·have q1':((id:Int)==0)=false:=by simp[q1]
   by_cases q2:l.length=0
   ·have q2':((l.length:Int)==0)=true:=by simp[q2]
    clear h1 q1 q2;go_enter Tryz.func77,Tryz.ntmps77
    go_wp2_with fail;go_ret
    rw[HR.o];exact⟨rfl,bV.o⟩
   ·have q2':((l.length:Int)==0)=false:=by simp[q2]
    have q3:(l.length:Int) > 8:=(by omega);clear h1 q1 q2;go_enter Tryz.func77,Tryz.ntmps77
    go_wp2_with fail;go_ret
    rw[HR.o];exact⟨rfl,bV.o⟩
 ·have HR:jaH (chk id l=fe (l.take 0) (l.drop 0)):=ae (Yx h1)
  have q1':((id:Int)==0)=false:=YN.2 (by omega);have q2':((l.length:Int)==0)=false:=YN.2 (by omega);have q3:¬ (l.length:Int) > 8:=by omega
  have hl8:l.length<=8:=by omega
  clear h1;generalize hW:w.alloc (.cells #[.int .u32 (id:Int),.slice a l.length cap] 25)=W at *;go_enter Tryz.func77,Tryz.ntmps77
  go_wp2_with fail;try rw[hW]
  clear hW;go_loopw [24] (fun i wr=>∃ k:Nat,k<=l.length/\i=.int .i64 (k:Int)/\chk id l=fe (l.take k) (l.drop k)/\Below W.heap.size W wr) (fun i _=>l.length-(intOf i).toNat)
  case atStart=>exact⟨0,by omega,rfl,HR.o,Yz _ _⟩
  case round =>
   obtain⟨k,hk,rfl,kJ,ao⟩:=hrel;have HF:=ae kJ;have HB:=ae ao;have bM:=ao.size;clear kJ ao HR;by_cases ar:k<l.length
   ·obtain⟨b,off,rfl,hb,x0,x1,x2,x3⟩:=(HS.o.kept HB.o).at ar
    have HT:=ae (HF.o.trans (FB ar));have hlt':(k:Int)<(l.length:Int):=(by omega);have hkc:(k:Int)<=(cap:Int):=(by omega);have WO:(0:Int)<=(k:Int):=(by omega);have hktn:((k:Int)).toNat=k:=(by omega);have hdcap:¬ cap=0:=(by omega);have co:=ae (HS.o.take (k:=k) (by omega));generalize l[k]=f at *;obtain⟨f0,f1,f2,f3⟩:=f;simp only at *;have d1:=(HB.o.cell (p:=⟨w.heap.size,1,none⟩) hz).trans c1;have se:=aj wr (.cells #[.int .u32 (f0:Int),.string f1,.int .u8 (f2:Int),.bool f3] 81);have e1:=(se.cell (p:=⟨w.heap.size,1,none⟩) (Za hz bM)).trans d1;obtain⟨g0,g1,g2,g3⟩:=gN wr (.int .u32 (f0:Int)) (.string f1) (.int .u8 (f2:Int)) (.bool f3) 81;have aK:=ae (HB.o.trans (se.mono bM));have Lh:=ae (fun m=>DC (tX ((co.o.kept HB.o).kept se) m) (f0,f1,f2,f3));unfold nM at Lh;simp only at Lh;generalize eU (l.take k) (f0,f1,f2,f3)=R at *;have ll:(wr.alloc (.cells #[.int .u32 (f0:Int),.string f1,.int .u8 (f2:Int),.bool f3] 81)).heap.size=wr.heap.size+1:=YB _ _;clear se;go_wp2_with fail;generalize hV:wr.alloc (.cells #[.int .u32 (f0:Int),.string f1,.int .u8 (f2:Int),.bool f3] 81)=V at *;clear hV x0 x1 x2 x3
    have eG:jaH (∀ n W',Below V.heap.size (V.drewN n) W'->(W'.cell? ⟨w.heap.size,1,none⟩=some (.slice (some ⟨b,off,none⟩) l.length cap)/\W'.cell? ⟨wr.heap.size,0,none⟩=some (.int .u32 (f0:Int))/\W'.cell? ⟨wr.heap.size,1,none⟩=some (.string f1)/\W'.cell? ⟨wr.heap.size,2,none⟩=some (.int .u8 (f2:Int))/\W'.cell? ⟨wr.heap.size,3,none⟩=some (.bool f3))/\Below W.heap.size W W'):=ae (fun n W' h=>by
     have hb':Below V.heap.size V W':=(ak (Yz _ _) n).trans h;exact⟨⟨(hb'.cell (p:=⟨w.heap.size,1,none⟩) (show w.heap.size<_ by omega)).trans e1,(hb'.cell (p:=⟨wr.heap.size,0,none⟩) (show wr.heap.size<_ by omega)).trans g0,(hb'.cell (p:=⟨wr.heap.size,1,none⟩) (show wr.heap.size<_ by omega)).trans g1,(hb'.cell (p:=⟨wr.heap.size,2,none⟩) (show wr.heap.size<_ by omega)).trans g2,(hb'.cell (p:=⟨wr.heap.size,3,none⟩) (show wr.heap.size<_ by omega)).trans g3⟩,aK.o.trans (hb'.mono aK.o.size)⟩)
    go_region_held3 (fun w'=>w'.cell? ⟨w.heap.size,1,none⟩=some (.slice (some ⟨b,off,none⟩) l.length cap)/\w'.cell? ⟨wr.heap.size,0,none⟩=some (.int .u32 (f0:Int))/\w'.cell? ⟨wr.heap.size,1,none⟩=some (.string f1)/\w'.cell? ⟨wr.heap.size,2,none⟩=some (.int .u8 (f2:Int))/\w'.cell? ⟨wr.heap.size,3,none⟩=some (.bool f3)) (first | assumption | go_keep) (first | (go_at_call 116;refine(Lh.o _).mono ?_;rintro e w2 ⟨rfl,ay⟩;obtain⟨Rm,sd⟩:=eG.o _ _ ay;have fW:=ae sd;clear sd ay))
    clear Rm e1 g0 g1 g2 g3 d1 c0 c1;by_cases hR:R=0
    ·rw[Yy hR]at HT
     subst hR;go_wp2_with fail;go_roundw
     case rel=>exact⟨k+1,by omega,by go_num,HT.o,fW.o⟩
     case measure=>simp[intOf];omega
    ·rw[Yx hR]at HT
     have hR':((R:Int) != 0)=true:=by simp[hR]
     clear hR;go_wp2_with fail;go_ret
     rw[HT.o];exact⟨rfl,ag bV.o fW.o⟩
   ·obtain rfl:k=l.length:=by omega
    have eO:¬ ((l.length:Nat):Int)<(l.length:Int):=(by omega);have HT:=ae (HF.o.trans (Lx l));clear HF;go_wp2_with fail;go_ret
    rw[HT.o];exact⟨rfl,ag bV.o HB.o⟩
theorem Ec{w:World}{v:Value}{l:List Fd}(hs:Sf w v l)(hl:l.length<=1000) :
  Calls Tryz.prog 55 #[v] w fun e w'=>(∃ v',e=.returned v'/\de w' w.heap.size v' l)/\Below w.heap.size w w':=by
 have HS:=ae hs;obtain⟨ad,cap,rfl,h1,h2,h3,_⟩:=hs;cases ad with
 | none =>
  have hc:=h3 rfl;subst hc;have sQ:l=[]:=YU (by omega);subst sQ;have hq:(binOp .eql 23 (.slice none 0 0) (.slice none 0 0)).run Tryz.prog w=.ok (.bool true) w:=jam w 23 81 none 0 0 0 0 Tryz.underlying23;go_enter Tryz.func55,Tryz.ntmps55
  go_wp2_with fail;go_ret
  exact⟨⟨_,rfl,de.nil _ _⟩,Yz _ _⟩
 | some ad =>
  have HN:jaH (de (w.alloc (.cells #[] 81)) w.heap.size (.slice (some ⟨w.heap.size,0,none⟩) 0 0) []):=ae (nN w [] (by unfold maxLen;simp));have eP:=ae (HS.o.kept (aj w (.cells #[] 81)));clear h3;have hq:(binOp .eql 23 (.slice (some ad) l.length cap) (.slice none 0 0)).run Tryz.prog w=.ok (.bool false) w:=jam w 23 81 (some ad) l.length cap 0 0 Tryz.underlying23;go_enter Tryz.func55,Tryz.ntmps55
  go_wp2_with (first | (at_builtin;refine qx rfl _ _ rfl w.heap.size _ _ [] l rfl ?q1 rfl ?q2 ?c1 ?c2 ?_))
  case q1=>exact HN.o
  case q2=>exact eP.o
  case c1=>simp;omega
  case c2=>rw[YB];omega
  intro v3 w3 o3 aO;have dx:=ae o3;have bT:=ae ((aj w (.cells #[] 81)).trans aO);clear o3 aO;go_wp2_with fail;go_ret
  exact⟨⟨_,rfl,dx.o⟩,bT.o⟩
theorem kg{w:World}{ops:Array Oper}{o:Oper}{a:Act}{K:Act->World->Prop}{Q:Exit->Act->World->Prop}{E:Prop}(dO:o.guard=none)(s x:Operand)
  (ho:o.op=.call { callee:=.builtin .append,args:=#[s,x],argTypes:=#[23,23] })
  (base B2:Nat) (v vx:Value) (l0 l:List Fd) (hs:a.eval s=v) (aw:de w base v l0) (hx:a.eval x=vx) (et:de w B2 vx l) (hp:0<l.length)
  (hbytes:l0.length+l.length<=100000) (aD:base<=w.heap.size)
  (h:∀ v' w',de w' base v' (l0++l)->Below base w w'->K (a.put o.dst v') w') :
  if Region.wanted o (yielded ops a.tmps)=true then Oper.wp Tryz.prog o a w K Q else E:=by
 obtain⟨i0,hi,bN,hz1',bh⟩:=YW MX;unfold de at et;obtain⟨g,cap,rfl,hB,hg⟩:=World.ownsRow.form et hp;have hc:∀ j u,(dE l)[j]?=some u->w.cell? ((⟨g,0,none⟩:Addr).add j)=some u:=fun j u hj=>et.cells (g:=g) rfl j u hj
 unfold de at aw;refine step_append_lies (P:=Tryz.prog) w dO s x 23 ho base 81 i0 (.agg #[.int .u32 0,.string ⟨#[]⟩,.int .u8 0,.bool false]) 4 32 Tryz.underlying23 hi bN hz1' bh rfl (by decide) v l0.length (dE l0) hs aw ⟨g,0,none⟩ l.length cap (dE l) hx (by rw[eM]) hc (nc _) hp (by unfold maxLen;omega) (by omega) aD _ rfl ?_;intro g' cap' w' o1 g1 _ _;refine h _ w' ?_ ((Yz base w).grown g1 aD (fun k hk=>(aw.lt k hk).1));unfold de;rw[oZ,YC];exact o1
theorem po{B:Nat}{w:World}(h:B<=w.heap.size)(o:Obj):B<=(w.alloc o).heap.size:=by rw[YB];omega
theorem nT{w w1:World}{B p:Nat}(h:Below B w w1)(hp:B<=p)(x y:Value):Below B w ((w1.setCell ⟨p,0,none⟩ x).setCell ⟨p,1,none⟩ y):=(h.setCell hp _).setCell hp _
theorem AJ{w1:World}{B p:Nat}{v:Value}{l:List Fd}(h:de w1 B v l)(hp:p<B)(x y:Value):de ((w1.setCell ⟨p,0,none⟩ x).setCell ⟨p,1,none⟩ y) B v l :=
 Fr.own (((Fr.refl p w1.heap.size w1).set 0 x).set 1 y) h hp
end Go.Proofs.YtpljdjmpamjkhaaGreatDoor
