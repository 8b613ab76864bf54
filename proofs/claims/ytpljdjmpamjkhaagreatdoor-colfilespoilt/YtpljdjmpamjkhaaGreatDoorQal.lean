import Derived.Test.YtpljdjmpamjkhaaGreatDoorQak
set_option linter.unusedVariables false
set_option linter.unusedSimpArgs false
set_option maxRecDepth 100000
set_option maxHeartbeats 8000000
namespace Go.Proofs.YtpljdjmpamjkhaaGreatDoor
open Go.RowKit Go.Lib
def cC(l:List (List Nat)):List Value:=l.map txt
theorem dP(l:List (List Nat)):(cC l).length=l.length:=jen _
theorem pN(a b:List (List Nat)):cC (a++b)=cC a++cC b:=jeE
theorem cO{l:List (List Nat)}{j:Nat}(h:j<l.length):(cC l)[j]?=some (txt l[j]):=by simp[cC,h]
def eL(W:World)(B:Nat)(v:Value)(l:List (List Nat)):Prop:=W.ownsRow B 9 1 v l.length (cC l)
theorem eL.nil(W:World)(B:Nat):eL W B (.slice none 0 0) []:=jfb _ _ _ _
theorem eL.kept{w w':World}{B:Nat}{v:Value}{l:List (List Nat)}(h:eL w B v l)(hb:Below w.heap.size w w'):eL w' B v l:=bJ h hb
theorem eL.sv{W:World}{B:Nat}{v:Value}{l:List (List Nat)}(h:eL W B v l):Sv W v (cC l):=Sv.of_own h
theorem ZS:(Tryz.prog.info? 9).map (fun i=>(i.zero,i.size,i.bytes))=some (some (.string ⟨#[]⟩),1,16):=by kernel_rfl
theorem cd{w:World}{ops:Array Oper}{rest:List Oper}{o:Oper}{a:Act}{Q:Exit->Act->World->Prop}(dY:o.guard=none)(s x:Operand)
  (ho:o.op=.call { callee:=.builtin .append,args:=#[s,x],argTypes:=#[144,144] })
  (base:Nat) (v:Value) (g:Nat) (z:List Nat) (l0:List (List Nat)) (hs:a.eval s=v) (aA:eL w base v l0) (hx:a.eval x=.slice (some ⟨g,0,none⟩) 1 1) (hc:w.cell? ⟨g,0,none⟩=some (txt z))
  (hbytes:l0.length<=100000) (aI:base<=w.heap.size)
  (h:∀ v' w',eL w' base v' (l0++[z])->Below base w w'->wpList Tryz.prog ops Q rest (a.put o.dst v') w') :
  wpList Tryz.prog ops Q (o::rest) a w:=by
 obtain⟨i0,hi,ch,hz1',bv⟩:=jeD ZS;unfold eL at *
 refine jeY (w:=w) dY s x 144 ho base 9 i0 (.string ⟨#[]⟩) 1 16 Tryz.underlying144 hi ch hz1' bv rfl (by decide) v l0.length (cC l0) hs aA ⟨g,0,none⟩ 1 1 [txt z] hx rfl ?_ (fun u hu=>by
  have:u=txt z:=by simpa using hu
  subst this;rfl) (by unfold maxLen;omega) (by omega) aI ?_
 ·intro j u hu
  rw[mC];cases j with
  | zero =>
   simp only[List.getElem?_cons_zero,Option.some.injEq]at hu;rw[← hu];exact hc
  | succ j=>simp at hu
 ·intro v' w' o1 g1 _ _
  refine h v' w' ?_ ((jej base w).grown g1 aI (fun k hk=>(aA.lt k hk).1));rw[pN,jem];exact o1
theorem kp{l:List Int}(hl:l.length<=256):EJ l=cV l:=jei hl
theorem tv{w:World}{v:Value}{l:List Int}(hs:Sv w v (aL l))(hl:l.length<=256)(hi:Is l):Calls Tryz.prog 126 #[v] w (dA w (cV l)):=by
 have HB:=ae (TO hs hi);rw[kp hl]at HB;clear hs hi;generalize cV l=bs at *;go_enter Tryz.func126,Tryz.ntmps126
 go_wp2_with fail;refine HB.o.mono ?_;rintro e w1 ⟨⟨v1,rfl,ei⟩,aH⟩;have eO:=ae ei;have aP:=ae aH;clear ei aH;go_wp2_with fail;go_ret
 exact⟨⟨_,rfl,eO.o⟩,aP.o⟩
theorem Ar{w:World}{v:Value}{l:List Nat}(hs:Sv w v (aF .u64 l))(h2:∀ x∈l,x<2):Calls Tryz.prog 128 #[v] w (dA w (bm l 1)):=by
 have HB:=ae (zU hs.sx (fun x hx=>by have:=h2 x hx;omega) 1);clear hs h2;generalize bm l 1=bs at *;generalize can l 1=bb at *;go_enter Tryz.func128,Tryz.ntmps128
 go_wp2_with fail;refine HB.o.mono ?_;rintro e w1 ⟨v1,rfl,ei,aH⟩;have eO:=ae ei;have aP:=ae aH;clear ei aH;go_wp2_with fail;go_ret
 exact⟨⟨_,rfl,eO.o⟩,aP.o⟩
theorem xF(b:Bool)(w:World):Calls Tryz.prog 169 #[.bool b] w fun e w'=>e=.returned (.int .u64 (if b then 1 else 0))/\w'=w:=by
 cases b
 all_goals
  go_enter Tryz.func169,Tryz.ntmps169
  go_wp2;go_ret
  exact⟨rfl,rfl⟩
theorem js(k:Nat)(w:World):Calls Tryz.prog 167 #[.int .u8 (k:Int)] w fun e w'=>e=.returned (.bool (decide (1<=k/\k<=3)))/\w'=w:=by
 by_cases h1:((k:Int)==1)=true
 ·have hk:k=1:=by have:(k:Int)=1:=(by simpa using h1);omega
  subst hk;go_enter Tryz.func167,Tryz.ntmps167
  go_wp2;go_ret
  exact⟨rfl,rfl⟩
 ·by_cases h2:((k:Int)==2)=true
  ·have hk:k=2:=by have:(k:Int)=2:=(by simpa using h2);omega
   subst hk;go_enter Tryz.func167,Tryz.ntmps167
   go_wp2;go_ret
   exact⟨rfl,rfl⟩
  ·by_cases h3:((k:Int)==3)=true
   ·have hk:k=3:=by have:(k:Int)=3:=(by simpa using h3);omega
    subst hk;go_enter Tryz.func167,Tryz.ntmps167
    go_wp2;go_ret
    exact⟨rfl,rfl⟩
   ·have h1':((k:Int)==1)=false:=by simpa using h1
    have h2':((k:Int)==2)=false:=by simpa using h2
    have h3':((k:Int)==3)=false:=by simpa using h3
    have HN:jgf (decide (1<=k/\k<=3)=false):=ae (by
     have a1:(k:Int)≠1:=by simpa using h1
     have a2:(k:Int)≠2:=by simpa using h2
     have a3:(k:Int)≠3:=by simpa using h3
     exact jeu (by omega))
    rw[HN.o];clear h1 h2 h3;go_enter Tryz.func167,Tryz.ntmps167
    go_wp2;go_ret
    exact⟨rfl,rfl⟩
theorem gD.fine{k:Nat}{c:Nat×Int×List Nat}(h:gD k c):aT c:=by
 rcases h with h | ⟨_,h⟩ | ⟨_,h⟩ | ⟨_,h⟩
 ·exact Or.inl h
 ·exact Or.inr (Or.inl h)
 ·exact Or.inr (Or.inr (Or.inl h))
 ·exact Or.inr (Or.inr (Or.inr h))
theorem aT.cellk{k:Nat}{c:Nat×Int×List Nat}(h:aT c)(hk:c.1=0∨c.1=k):gD k c:=by
 rcases h with h | ⟨n,rfl,h⟩ | ⟨n,rfl,h⟩ | ⟨n,rfl,h⟩
 ·exact Or.inl h
 ·have:k=1:=by simp at hk;omega
  exact Or.inr (Or.inl ⟨this,n,rfl,h⟩)
 ·have:k=2:=by simp at hk;omega
  exact Or.inr (Or.inr (Or.inl ⟨this,n,rfl,h⟩))
 ·have:k=3:=by simp at hk;omega
  exact Or.inr (Or.inr (Or.inr ⟨this,n,rfl,h⟩))
theorem fR{l:List (Nat×Int×List Nat)}{j:Nat}(h:j<l.length):bV (l.take (j+1))=bV (l.take j)++(if l[j].1=0 then [] else [l[j]]):=by
 unfold bV;rw[jeA h,jfX];congr 1
 by_cases h0:l[j].1=0
 ·simp[h0]
 ·simp[h0]
theorem jt(l:List (Nat×Int×List Nat))(j:Nat):(bV (l.take j)).length<=l.length:=by
 have:=ik (l.take j);rw[jeq]at this;omega
theorem JD{w:World}{v:Value}{l:List (Nat×Int×List Nat)}(hs:Sv w v (aJ l))(hl:l.length<=256)(hc:∀ c∈l,gD 1 c) :
  Calls Tryz.prog 127 #[v] w fun e w'=>(∃ v',e=.returned v'/\bF w' w.heap.size v' ((bV l).map fun c=>c.2.1))/\Below w.heap.size w w':=by
 have HS:=ae hs;have HC:=ae hc;obtain⟨a,cap,rfl,aW,bC⟩:=hs.form1;rw[aG]at *;have t1:=Bp;have t2:=GW;have hcm':cap<=9223372036854775807:=by unfold maxLen at bC;omega
 clear hs hc bC;go_enter Tryz.func127,Tryz.ntmps127
 go_wp2_with fail;go_loopw [3,10] (fun o i wr=>∃ j:Nat,j<=l.length/\i=.int .i64 (j:Int)/\bF wr w.heap.size o ((bV (l.take j)).map fun c=>c.2.1)/\Below w.heap.size w wr) (fun _ i _=>l.length-(intOf i).toNat)
 case atStart=>exact⟨0,by omega,rfl,bF.nil _ _,jej _ _⟩
 case round =>
  obtain⟨j,hj,rfl,aA,az⟩:=hrel;have HO:=ae aA;have HB:=ae az;have bH:=az.size;clear aA az;by_cases aB:j<l.length
  ·obtain⟨b,off,rfl,hb,bn⟩:=HS.o.at1 (cQ aB)
   have hcell':=(HB.o.cell (p:=⟨b,off+j,none⟩) hb).trans bn;have HT:=ae (fR aB);have bR:=jt l j;have dN:=HC.o l[j] (jeo aB);have hlt':(j:Int)<(l.length:Int):=(by omega);clear bn;generalize l[j]=c at *;rcases dN with rfl | ⟨_,n,rfl,hn⟩ | ⟨hk,_⟩ | ⟨hk,_⟩
   ·simp only[nul,da,if_true]at hcell'
    have HT':jgf (bV (l.take (j+1))=bV (l.take j)):=ae (by
     have:=HT.o;simpa [nul]using this)
    clear HT;go_wp2_with fail;go_roundw
    case rel=>exact⟨j+1,by omega,by go_num,by rw[HT'.o];exact HO.o,HB.o⟩
    case measure=>simp[intOf];omega
   ·simp only[da]at hcell'
    have HT':jgf ((bV (l.take (j+1))).map (fun c=>c.2.1)=((bV (l.take j)).map fun c=>c.2.1)++[n]):=ae (by
     have:=HT.o;simp only[show (1:Nat)≠0 from by omega,if_false]at this;rw[this,jeE];rfl)
    have hlen':((bV (l.take j)).map fun c=>c.2.1).length<=100000:=by rw[jen];omega
    clear HT;generalize ((bV (l.take j)).map fun c=>c.2.1)=L at *;go_wp2_with (first | (at_builtin;refine aY rfl _ _ rfl w.heap.size _ _ n L rfl (HO.o.kept (ak _ _)) rfl (aK _ _ _) hlen' ?c2 ?_))
    case c2=>first | omega | (rw[jel];omega)
    intro v' w2 o2 b2;have dz:=ae o2;have aN:=ae ((HB.o.alloc bH _).trans b2);clear o2 b2;go_wp2_with fail;go_roundw
    case rel=>exact⟨j+1,by omega,by go_num,by rw[HT'.o];exact dz.o,aN.o⟩
    case measure=>simp[intOf];omega
   ·omega
   ·omega
  ·have:j=l.length:=by omega
   subst this;have gi:¬ ((l.length:Nat):Int)<(l.length:Int):=(by omega);rw[jes]at HO;go_wp2_with fail;go_ret
   exact⟨⟨_,rfl,HO.o⟩,HB.o⟩
theorem JE{w:World}{v:Value}{l:List (Nat×Int×List Nat)}(hs:Sv w v (aJ l))(hl:l.length<=256)(hc:∀ c∈l,gD 3 c) :
  Calls Tryz.prog 131 #[v] w fun e w'=>(∃ v',e=.returned v'/\eL w' w.heap.size v' ((bV l).map fun c=>c.2.2))/\Below w.heap.size w w':=by
 have HS:=ae hs;have HC:=ae hc;obtain⟨a,cap,rfl,aW,bC⟩:=hs.form1;rw[aG]at *;have t1:=Br;have t2:=GY;have hcm':cap<=9223372036854775807:=by unfold maxLen at bC;omega
 clear hs hc bC;go_enter Tryz.func131,Tryz.ntmps131
 go_wp2_with fail;go_loopw [3,10] (fun o i wr=>∃ j:Nat,j<=l.length/\i=.int .i64 (j:Int)/\eL wr w.heap.size o ((bV (l.take j)).map fun c=>c.2.2)/\Below w.heap.size w wr) (fun _ i _=>l.length-(intOf i).toNat)
 case atStart=>exact⟨0,by omega,rfl,eL.nil _ _,jej _ _⟩
 case round =>
  obtain⟨j,hj,rfl,aA,az⟩:=hrel;have HO:=ae aA;have HB:=ae az;have bH:=az.size;clear aA az;by_cases aB:j<l.length
  ·obtain⟨b,off,rfl,hb,bn⟩:=HS.o.at1 (cQ aB)
   have hcell':=(HB.o.cell (p:=⟨b,off+j,none⟩) hb).trans bn;have HT:=ae (fR aB);have bR:=jt l j;have dN:=HC.o l[j] (jeo aB);have hlt':(j:Int)<(l.length:Int):=(by omega);clear bn;generalize l[j]=c at *;rcases dN with rfl | ⟨hk,_⟩ | ⟨hk,_⟩ | ⟨_,n,rfl,hn⟩
   ·simp only[nul,da,if_true]at hcell'
    have HT':jgf (bV (l.take (j+1))=bV (l.take j)):=ae (by
     have:=HT.o;simpa [nul]using this)
    clear HT;go_wp2_with fail;go_roundw
    case rel=>exact⟨j+1,by omega,by go_num,by rw[HT'.o];exact HO.o,HB.o⟩
    case measure=>simp[intOf];omega
   ·omega
   ·omega
   ·simp only[da,dM,show (3:Nat)≠0 from by omega,show (3:Nat)≠1 from by omega,show (3:Nat)≠2 from by omega,if_false]at hcell'
    have HT':jgf ((bV (l.take (j+1))).map (fun c=>c.2.2)=((bV (l.take j)).map fun c=>c.2.2)++[n]):=ae (by
     have:=HT.o;simp only[show (3:Nat)≠0 from by omega,if_false]at this;rw[this,jeE];rfl)
    have hlen':((bV (l.take j)).map fun c=>c.2.2).length<=100000:=by rw[jen];omega
    clear HT;generalize ((bV (l.take j)).map fun c=>c.2.2)=L at *;go_wp2_with (first | (at_builtin;refine cd rfl _ _ rfl w.heap.size _ _ n L rfl (HO.o.kept (ak _ _)) rfl (aK _ _ _) hlen' ?c2 ?_))
    case c2=>first | omega | (rw[jel];omega)
    intro v' w2 o2 b2;have dz:=ae o2;have aN:=ae ((HB.o.alloc bH _).trans b2);clear o2 b2;go_wp2_with fail;go_roundw
    case rel=>exact⟨j+1,by omega,by go_num,by rw[HT'.o];exact dz.o,aN.o⟩
    case measure=>simp[intOf];omega
  ·have:j=l.length:=by omega
   subst this;have gi:¬ ((l.length:Nat):Int)<(l.length:Int):=(by omega);rw[jes]at HO;go_wp2_with fail;go_ret
   exact⟨⟨_,rfl,HO.o⟩,HB.o⟩
theorem JF{w:World}{v:Value}{l:List (Nat×Int×List Nat)}(hs:Sv w v (aJ l))(hl:l.length<=256)(hc:∀ c∈l,gD 2 c) :
  Calls Tryz.prog 129 #[v] w fun e w'=>(∃ v',e=.returned v'/\dJ w' w.heap.size v' ((bV l).map fun c=>c.2.1.toNat))/\Below w.heap.size w w':=by
 have HS:=ae hs;have HC:=ae hc;obtain⟨a,cap,rfl,aW,bC⟩:=hs.form1;rw[aG]at *;have t1:=Bq;have t2:=GX;have hcm':cap<=9223372036854775807:=by unfold maxLen at bC;omega
 clear hs hc bC;go_enter Tryz.func129,Tryz.ntmps129
 go_wp2_with fail;go_loopw [3,10] (fun o i wr=>∃ j:Nat,j<=l.length/\i=.int .i64 (j:Int)/\dJ wr w.heap.size o ((bV (l.take j)).map fun c=>c.2.1.toNat)/\Below w.heap.size w wr) (fun _ i _=>l.length-(intOf i).toNat)
 case atStart=>exact⟨0,by omega,rfl,dJ.nil _ _,jej _ _⟩
 case round =>
  obtain⟨j,hj,rfl,aA,az⟩:=hrel;have HO:=ae aA;have HB:=ae az;have bH:=az.size;clear aA az;by_cases aB:j<l.length
  ·obtain⟨b,off,rfl,hb,bn⟩:=HS.o.at1 (cQ aB)
   have hcell':=(HB.o.cell (p:=⟨b,off+j,none⟩) hb).trans bn;have HT:=ae (fR aB);have bR:=jt l j;have dN:=HC.o l[j] (jeo aB);have hlt':(j:Int)<(l.length:Int):=(by omega);clear bn;generalize l[j]=c at *;rcases dN with rfl | ⟨hk,_⟩ | ⟨_,n,rfl,hn⟩ | ⟨hk,_⟩
   ·simp only[nul,da,if_true]at hcell'
    have HT':jgf (bV (l.take (j+1))=bV (l.take j)):=ae (by
     have:=HT.o;simpa [nul]using this)
    clear HT;go_wp2_with fail;go_roundw
    case rel=>exact⟨j+1,by omega,by go_num,by rw[HT'.o];exact HO.o,HB.o⟩
    case measure=>simp[intOf];omega
   ·omega
   ·simp only[da,show (2:Nat)≠0 from by omega,show (2:Nat)≠1 from by omega,if_false,if_true]at hcell'
    have Qw:jgf (∀ W:World,Calls Tryz.prog 169 #[.bool (decide ((n:Int)=1))] W fun e w'=>e=.returned (.int .u64 (n:Int))/\w'=W):=ae (fun W=>by
     have:=xF (decide ((n:Int)=1)) W;obtain rfl | rfl:n=0∨n=1:=by omega
     ·exact this
     ·exact this)
    generalize decide ((n:Int)=1)=bb at *
    have HT':jgf ((bV (l.take (j+1))).map (fun c=>c.2.1.toNat)=((bV (l.take j)).map fun c=>c.2.1.toNat)++[n]):=ae (by
     have:=HT.o;simp only[show (2:Nat)≠0 from by omega,if_false]at this;rw[this,jeE];simp)
    have hlen':((bV (l.take j)).map fun c=>c.2.1.toNat).length<=100000:=by rw[jen];omega
    clear HT;generalize ((bV (l.take j)).map fun c=>c.2.1.toNat)=L at *;go_wp2_with fail;refine(Qw.o _).mono ?_;rintro e wq ⟨rfl,rfl⟩;go_wp2_with (first | (at_builtin;refine jO rfl _ _ rfl w.heap.size _ _ n L rfl (HO.o.kept (ak _ _)) rfl (aK _ _ _) hlen' ?c2 ?_))
    case c2=>first | omega | (rw[jel];omega)
    intro v' w2 o2 b2;have dz:=ae o2;have aN:=ae ((HB.o.alloc bH _).trans b2);clear o2 b2;go_wp2_with fail;go_roundw
    case rel=>exact⟨j+1,by omega,by go_num,by rw[HT'.o];exact dz.o,aN.o⟩
    case measure=>simp[intOf];omega
   ·omega
  ·have:j=l.length:=by omega
   subst this;have gi:¬ ((l.length:Nat):Int)<(l.length:Int):=(by omega);rw[jes]at HO;go_wp2_with fail;go_ret
   exact⟨⟨_,rfl,HO.o⟩,HB.o⟩
theorem As{k:Nat}{l:List (Nat×Int×List Nat)}(h:¬ (1<=k/\k<=3/\∀ c∈l,c.1=0∨c.1=k)):(dZ k l).2=10:=by
 unfold dZ;rw[jeh h]
theorem JG{k:Nat}{l:List (Nat×Int×List Nat)}(hk:1<=k/\k<=3)(hf:∀ c∈l,aT c)(h:∀ c∈l,c.1=0∨c.1=k):(dZ k l).2=if 256<l.length then 5 else 0:=by
 unfold dZ;rw[jei ⟨hk.1,hk.2,h⟩];by_cases h2:256<l.length
 ·rw[jeh (by omega),jei h2]
 ·rw[jei ⟨by omega,fun c hc=>((hf c hc).cellk (h c hc)).short⟩,jeh h2]
theorem aT.size{c:Nat×Int×List Nat}(h:aT c):c.1<=3/\c.2.2.length<=64:=by
 rcases h with rfl | ⟨n,rfl,_⟩ | ⟨n,rfl,_⟩ | ⟨s,rfl,hs,_⟩
 ·simp[nul]
 ·simp
 ·simp
 ·exact⟨by simp,hs⟩
theorem JH{w:World}{v:Value}{l:List (Nat×Int×List Nat)}(hs:Sv w v (aJ l))(hf:∀ c∈l,aT c)(k:Nat) :
  Calls Tryz.prog 122 #[.int .u8 (k:Int),v] w fun e w'=>e=.returned (.int .i64 ((dZ k l).2:Int))/\Below w.heap.size w w':=by
 have HS:=ae hs;have HF:=ae hf;obtain⟨a,cap,rfl,aW,bC⟩:=hs.form1;rw[aG]at *;have hcm':cap<=9223372036854775807:=by unfold maxLen at bC;omega
 have HK:=ae (js k);by_cases hk:1<=k/\k<=3
 ·rw[jeB hk]at HK
  have HE:=ae (JG (l:=l) hk hf);have HN:=ae (As (k:=k) (l:=l));clear hs hf bC hk
  have HL:jgf (decide ((l.length:Int) > 256)=decide (256<l.length)):=ae (by
   by_cases h:256<l.length
   ·rw[jeB h,jeB (by omega)]
   ·rw[jeu h,jeu (by omega)])
  go_enter Tryz.func122,Tryz.ntmps122
  go_wp2_with fail;refine(HK.o _).mono ?_;rintro e w1 ⟨rfl,rfl⟩;go_wp2_with fail;rw[HL.o];generalize jap:decide (256<l.length)=lg;have HLG:=ae jap;clear jap;go_loopw [5,18] (fun o i wr=>∃ j:Nat,j<=l.length/\o=.bool lg/\i=.int .i64 (j:Int)/\(∀ c∈l.take j,c.1=0∨c.1=k)/\Below w1.heap.size w1 wr) (fun _ i _=>l.length-(intOf i).toNat)
  case atStart=>exact⟨0,by omega,rfl,rfl,fun c hc=>by simp at hc,jej _ _⟩
  case round =>
   obtain⟨j,hj,rfl,rfl,cZ,az⟩:=hrel;have HA:=ae cZ;have HB:=ae az;have bH:=az.size;clear cZ az;by_cases aB:j<l.length
   ·obtain⟨b,off,rfl,hb,bn⟩:=HS.o.at1 (cQ aB)
    have hcell':=(HB.o.cell (p:=⟨b,off+j,none⟩) hb).trans bn;have VH:=HF.o l[j] (jeo aB);have HM:=ae (jeo aB)
    have HT:jgf (∀ c,c∈l.take (j+1)->c∈l.take j∨c=l[j]):=ae (fun c hc=>by
     rw[jeA aB]at hc;rcases jeN.1 hc with h | h
     ·exact Or.inl h
     ·exact Or.inr (by simpa using h))
    have hlt':(j:Int)<(l.length:Int):=(by omega);obtain⟨Lk,hc64⟩:=VH.size;have hnot64:¬ 64<((am l[j].2.2).size:Int):=by rw[bi];omega
    have HV:=ae (fun W=>lS VH.val W);clear bn VH hc64;generalize l[j]=c at *;obtain⟨ck,cn,cs⟩:=c;simp only at *;generalize da (ck,cn,cs)=vc at *;generalize am cs=S at *;by_cases h0:((ck:Int) != 0)=true
    ·by_cases h1:((ck:Int) != (k:Int))=true
     ·have HN':jgf ((dZ k l).2=10):=ae (HN.o (fun h=>by
       have:=h.2.2 _ HM.o;simp at h0 h1 this
       omega))
      go_wp2_with fail;refine(HV.o _).mono ?_;rintro e w2 ⟨rfl,aE⟩;have aN:=ae aE;have bv:=aE.size;clear aE;go_wp2_with fail;go_ret
      rw[HN'.o];exact⟨rfl,(HB.o.trans (aN.o.mono bH)).alloc (by omega) _⟩
     ·have h1':((ck:Int) != (k:Int))=false:=by simpa using h1
      have dN:ck=k:=by
       have:(ck:Int)=(k:Int):=by simpa using h1
       omega
      have lA:=ae dN;clear h1 dN;go_wp2_with fail;refine(HV.o _).mono ?_;rintro e w2 ⟨rfl,aE⟩;have aN:=ae aE;have bv:=aE.size;clear aE;cases lg
      ·go_wp2_with fail
       go_roundw
       case rel=>exact⟨j+1,by omega,jep Value.bool (jeu (by omega)),by go_num,fun c hc=>(HT.o c hc).elim (HA.o c) (fun e=>by rw[e];exact Or.inr lA.o),(HB.o.trans (aN.o.mono bH)).alloc (by omega) _⟩
       case measure=>simp[intOf];omega
      ·go_wp2_with fail
       go_roundw
       case rel=>exact⟨j+1,by omega,rfl,by go_num,fun c hc=>(HT.o c hc).elim (HA.o c) (fun e=>by rw[e];exact Or.inr lA.o),(HB.o.trans (aN.o.mono bH)).alloc (by omega) _⟩
       case measure=>simp[intOf];omega
    ·have h0':((ck:Int) != 0)=false:=by simpa using h0
     have dN:ck=0:=by
      have:(ck:Int)=0:=by simpa using h0
      omega
     have lA:=ae dN;clear h0 dN;go_wp2_with fail;refine(HV.o _).mono ?_;rintro e w2 ⟨rfl,aE⟩;have aN:=ae aE;have bv:=aE.size;clear aE;cases lg
     ·go_wp2_with fail
      go_roundw
      case rel=>exact⟨j+1,by omega,jep Value.bool (jeu (by omega)),by go_num,fun c hc=>(HT.o c hc).elim (HA.o c) (fun e=>by rw[e];exact Or.inl lA.o),(HB.o.trans (aN.o.mono bH)).alloc (by omega) _⟩
      case measure=>simp[intOf];omega
     ·go_wp2_with fail
      go_roundw
      case rel=>exact⟨j+1,by omega,rfl,by go_num,fun c hc=>(HT.o c hc).elim (HA.o c) (fun e=>by rw[e];exact Or.inl lA.o),(HB.o.trans (aN.o.mono bH)).alloc (by omega) _⟩
      case measure=>simp[intOf];omega
   ·have:j=l.length:=by omega
    subst this;rw[jes]at HA;have HE':=ae (HE.o HA.o);have gi:¬ ((l.length:Nat):Int)<(l.length:Int):=(by omega);cases lg
    ·have hn:¬ 256<l.length:=of_decide_eq_false HLG.o
     rw[jeh hn]at HE';go_wp2_with fail;go_ret
     rw[HE'.o];exact⟨rfl,HB.o⟩
    ·have hn:256<l.length:=of_decide_eq_true HLG.o
     rw[jei hn]at HE';go_wp2_with fail;go_ret
     rw[HE'.o];exact⟨rfl,HB.o⟩
 ·rw[jeu hk]at HK
  have HN:jgf ((dZ k l).2=10):=ae (As (fun h=>hk ⟨h.1,h.2.1⟩));clear hs hf bC hk;go_enter Tryz.func122,Tryz.ntmps122
  go_wp2_with fail;refine(HK.o _).mono ?_;rintro e w1 ⟨rfl,rfl⟩;go_wp2_with fail;go_ret
  rw[HN.o];exact⟨rfl,jej _ _⟩
def stp(c:Nat):Nat:=c / 2 ^^^ (if c % 2=1 then 3988292384 else 0)
def eE:Nat->Nat->Nat
 | 0,c=>c
 | n+1,c=>eE n (stp c)
theorem TP{c:Nat}(h:c<4294967296):stp c<4294967296:=by
 have:stp c<2 ^ 32:=by
  unfold stp;apply jfY
  ·omega
  ·split<;>omega
 omega
theorem XW(a b:Nat):(a ^^^ b) % 2=(a+b) % 2:=by
 have h:(a ^^^ b).testBit 0=((a.testBit 0) ^^ (b.testBit 0)):=Nat.testBit_xor _ _ _;simp only[Nat.testBit_zero]at h;have ha:a % 2=0∨a % 2=1:=by omega
 have hb:b % 2=0∨b % 2=1:=by omega
 have hc:(a ^^^ b) % 2=0∨(a ^^^ b) % 2=1:=by omega
 generalize (a ^^^ b) % 2=z at *;rcases ha with ha | ha<;>rcases hb with hb | hb<;>rcases hc with hc | hc<;>simp[ha,hb,hc]at h<;>omega
theorem EK{a b:Nat}(h:a ^^^ b=0):a=b:=by
 have:=jep (fun z=>z ^^^ b) h;simpa only[jfq,Nat.xor_self,Nat.xor_zero,Nat.zero_xor]using this
theorem XX(a b:Nat):stp (a ^^^ b)=stp a ^^^ stp b:=by
 unfold stp;have h1:(a ^^^ b) / 2=a / 2 ^^^ b / 2:=Nat.xor_div_two;have h2:(a ^^^ b) % 2=(a+b) % 2:=XW a b;rw[h1];have ha:a % 2=0∨a % 2=1:=by omega
 have hb:b % 2=0∨b % 2=1:=by omega
 rcases ha with ha | ha<;>rcases hb with hb | hb
 ·have h3:(a ^^^ b) % 2=0:=by omega
  simp[ha,hb,h3]
 ·have h3:(a ^^^ b) % 2=1:=by omega
  simp[ha,hb,h3,jfq]
 ·have h3:(a ^^^ b) % 2=1:=by omega
  simp[ha,hb,h3,jfq]
  rw[Nat.xor_comm (b / 2)]
 ·have h3:(a ^^^ b) % 2=0:=by omega
  simp only[ha,hb,h3];simp only[jei,Nat.xor_zero,Nat.zero_ne_one,if_false];generalize 3988292384=p;rw[jfq,Nat.xor_comm (b / 2) p,← jfq p,Nat.xor_self,Nat.zero_xor]
theorem TQ(x:Nat):stp (2*x)=x:=by
 unfold stp;rw[jeh (by omega)];simp
theorem TR{c:Nat}(h:c<4294967296)(h0:stp c=0):c=0:=by
 unfold stp at h0;by_cases hc:c % 2=1
 ·rw[jei hc]at h0
  have:c / 2=3988292384:=EK h0;omega
 ·rw[jeh hc,Nat.xor_zero]at h0
  omega
theorem rK:∀(n:Nat) {c:Nat},c<4294967296->eE n c<4294967296
 | 0,_,h=>h
 | n+1,_,h=>rK n (TP h)
theorem rL:∀(n a b:Nat),eE n (a ^^^ b)=eE n a ^^^ eE n b
 | 0,_,_=>rfl
 | n+1,a,b=>by rw[eE,eE,eE,XX,rL n]
theorem nY:∀(m n c:Nat),eE (m+n) c=eE n (eE m c)
 | 0,n,c=>by rw[jeO];rfl
 | m+1,n,c=>by rw[Nat.add_right_comm,eE,eE,nY m n]
theorem Pg(n c:Nat):eE (n+1) c=stp (eE n c):=nY n 1 c
theorem mQ:∀(n x:Nat),eE n (2 ^ n*x)=x
 | 0,x=>by simp[eE]
 | n+1,x=>by
  rw[eE,Nat.pow_succ,jeU (2 ^ n) 2,jfz,TQ,mQ n]
theorem Au:∀(n:Nat) {c:Nat},c<4294967296->eE n c=0->c=0
 | 0,_,_,h0=>h0
 | n+1,_,h,h0=>TR h (Au n (TP h) h0)
theorem kq{a r n:Nat}(h:a<2 ^ n):a+2 ^ n*r=a ^^^ (2 ^ n*r):=by
 apply Nat.eq_of_testBit_eq
 intro i;rw[Nat.testBit_xor,Nat.add_comm,Nat.testBit_two_pow_mul_add _ h,Nat.testBit_two_pow_mul];by_cases hi:i<n
 ·rw[jei hi]
  simp[show ¬ n<=i by omega]
 ·rw[jeh hi]
  have h1:a.testBit i=false:=Nat.testBit_lt_two_pow (jeH h (jfA (by omega) (by omega)));simp[h1,show n<=i by omega]
theorem Ph(n c:Nat):eE n c=eE n (c % 2 ^ n) ^^^ c / 2 ^ n:=by
 have h:c=c % 2 ^ n ^^^ (2 ^ n*(c / 2 ^ n)):=by
  rw[← kq (Nat.mod_lt _ (jfe n))];exact(Nat.mod_add_div c (2 ^ n)).symm
 conv=>lhs;rw[h]
 rw[rL,mQ]
def byt(c x:Nat):Nat:=eE 8 (c ^^^ x)
def run(c:Nat)(b:List Nat):Nat:=b.foldl byt c
def nt(c:Nat)(b:List Nat):Nat:=run (c ^^^ 4294967295) b ^^^ 4294967295
theorem EL(c x:Nat)(b:List Nat):run c (x::b)=run (byt c x) b:=rfl
theorem JI(c:Nat)(a b:List Nat):run c (a++b)=run (run c a) b:=List.foldl_append
theorem TS(c x:Nat)(b:List Nat):run c (b++[x])=byt (run c b) x:=by rw[JI];rfl
theorem kK{a b:Nat}(ha:a<4294967296)(hb:b<4294967296):a ^^^ b<4294967296:=by
 have:a ^^^ b<2 ^ 32:=jfY (by omega) (by omega);omega
theorem jbw{c x:Nat}(h:c<4294967296)(hx:x<256):byt c x<4294967296:=rK 8 (kK h (by omega))
theorem tw:∀{b:List Nat} {c:Nat},c<4294967296->(∀ x∈b,x<256)->run c b<4294967296
 | [],_,h,_=>h
 | x::b,c,h,hb=>by
  rw[EL];exact tw (jbw h (hb x (by simp))) fun y hy=>hb y (by simp[hy])
theorem vX{b:List Nat}{c:Nat}(h:c<4294967296)(hb:∀ x∈b,x<256):nt c b<4294967296:=kK (tw (kK h (by omega)) hb) (by omega)
theorem TT(a p:Nat):a ^^^ p ^^^ p=a:=by rw[jfq,Nat.xor_self,Nat.xor_zero]
def leN:List Nat->Nat
 | []=>0
 | x::b=>x+256*leN b
theorem JJ:∀{b:List Nat},(∀ x∈b,x<256)->leN b<2 ^ (8*b.length)
 | [],_=>by simp[leN]
 | x::b,h=>by
  have h1:=JJ (b:=b) fun y hy=>h y (by simp[hy])
  have h2:=h x (by simp);rw[leN,jer,jft,jfl];omega
theorem BZ:∀{b:List Nat} (c:Nat),(∀ x∈b,x<256)->run c b=eE (8*b.length) (c ^^^ leN b)
 | [],c,_=>by simp[run,leN,eE]
 | x::b,c,h=>by
  have hx:x<2 ^ 8:=h x (by simp);rw[EL,BZ (byt c x) fun y hy=>h y (by simp[hy]),jer,jft,Nat.add_comm (8*b.length),nY,leN];congr 1
  have e:x+256*leN b=x ^^^ (2 ^ 8*leN b):=kq hx;rw[e,← jfq,rL,mQ];rfl
theorem Pi{a b:List Nat}{c X f:Nat}(ha:∀ x∈a,x<256)(hb:∀ x∈b,x<256)(hl:a.length=b.length)(hX:X<4294967296)(hf:f<=8*a.length)
  (h:leN b=leN a ^^^ (2 ^ f*X)) (he:run c a=run c b):X=0:=by
 rw[BZ c ha,BZ c hb,← hl,h,← jfq,rL _ (c ^^^ leN a)]at he
 have h0:eE (8*a.length) (2 ^ f*X)=0:=by
  have:=jep (fun z=>eE (8*a.length) (c ^^^ leN a) ^^^ z) he;simp only[Nat.xor_self,← jfq,Nat.zero_xor]at this;exact this.symm
 rw[show 8*a.length=f+(8*a.length-f) by omega,nY,mQ]at h0;exact Au _ hX h0
theorem JK{a b:List Nat}{c X f:Nat}(ha:∀ x∈a,x<256)(hb:∀ x∈b,x<256)(hl:a.length=b.length)(hX:X<4294967296)(hf:f<=8*a.length)
  (h:leN b=leN a ^^^ (2 ^ f*X)) (he:nt c a=nt c b):X=0:=by
 refine Pi (c:=c ^^^ 4294967295) ha hb hl hX hf h ?_;have:=jep (fun z=>z ^^^ 4294967295) he;unfold nt at this;simpa only[TT]using this
theorem Md:∀{b:List Nat} {j y:Nat} (hj:j<b.length),(∀ x∈b,x<256)->y<256->leN (b.set j (b[j] ^^^ y))=leN b ^^^ (2 ^ (8*j)*y)
 | [],j,y,hj,_,_=>by simp at hj
 | x::b,0,y,_,h,hy=>by
  have hx:x<2 ^ 8:=h x (by simp);have Di:x ^^^ y<2 ^ 8:=jfY hx hy;simp only[jew,jfZ,leN];have e1:x+256*leN b=x ^^^ (2 ^ 8*leN b):=kq hx;have e2:(x ^^^ y)+256*leN b=(x ^^^ y) ^^^ (2 ^ 8*leN b):=kq Di;rw[e1,e2,Nat.mul_zero,Nat.pow_zero,jfp,jfq,Nat.xor_comm y,← jfq]
 | x::b,j+1,y,hj,h,hy=>by
  have hx:x<2 ^ 8:=h x (by simp);have ih:=Md (b:=b) (j:=j) (y:=y) (by simpa using hj) (fun z hz=>h z (by simp[hz])) hy;simp only[jex,List.getElem_cons_succ,leN];rw[ih];have e1:x+256*leN b=x ^^^ (2 ^ 8*leN b):=kq hx;have e2:x+256*(leN b ^^^ 2 ^ (8*j)*y)=x ^^^ (2 ^ 8*(leN b ^^^ 2 ^ (8*j)*y)):=kq hx;rw[e1,e2,jfq];congr 1
  have e3:2 ^ 8*(leN b ^^^ 2 ^ (8*j)*y)=2 ^ 8*leN b ^^^ 2 ^ 8*(2 ^ (8*j)*y):=by
   apply Nat.eq_of_testBit_eq
   intro i;simp only[Nat.testBit_xor,Nat.testBit_two_pow_mul];cases decide (i>=8)<;>simp
  rw[e3,← jfz,← jfl,jft,Nat.add_comm 8]
def le4(s:Nat):List Nat:=[s % 256,s / 256 % 256,s / 65536 % 256,s / 16777216 % 256]
theorem tz(s:Nat):∀ x∈le4 s,x<256:=by
 intro x hx;simp[le4]at hx
 omega
theorem Ca{s:Nat}(h:s<4294967296):leN (le4 s)=s:=by
 simp[le4,leN]
 omega
theorem XY{s t:Nat}(hs:s<4294967296)(ht:t<4294967296)(h:le4 s=le4 t):s=t:=by
 rw[← Ca hs,← Ca ht,h]
def bE(b:List Nat):List Nat:=b++le4 (nt 0 b)
theorem jh(b:List Nat):(bE b).length=b.length+4:=by simp[bE,le4]
def eC(b:List Nat):Option (List Nat) :=
 if 4<=b.length/\bE (b.take (b.length-4))=b then some (b.take (b.length-4)) else none
theorem xG(b:List Nat):eC (bE b)=some b:=by
 unfold eC
 have h:(bE b).take ((bE b).length-4)=b:=by
  rw[jh,jgc];unfold bE;rw[jfh]
 rw[h,jei ⟨by rw[jh];omega,rfl⟩]
theorem Cb{b:List Nat}{j y:Nat}(hb:∀ x∈b,x<256)(hj:j<(bE b).length)(hy:y<256)(h0:y≠0):eC ((bE b).set j ((bE b)[j] ^^^ y))=none:=by
 unfold eC;rw[jeh];rintro⟨_,h⟩;have eN:=jh b;rw[jfD,eN,jgc]at h
 have hsb:∀ x∈bE b,x<256:=by
  intro x hx;rcases jeN.1 hx with hx | hx
  ·exact hb x hx
  ·exact tz _ x hx
 have hv:(bE b)[j] ^^^ y<256:=by
  have:(bE b)[j] ^^^ y<2 ^ 8:=jfY (hsb _ (jeo hj)) hy;omega
 have fJ:(bE b)[j] ^^^ y≠(bE b)[j]:=by
  intro e;have:=jep (fun z=>(bE b)[j] ^^^ z) e;simp only[← jfq,Nat.xor_self,Nat.zero_xor]at this;exact h0 this
 by_cases hjb:j<b.length
 ·have e1:(bE b).set j ((bE b)[j] ^^^ y)=b.set j (b[j] ^^^ y)++le4 (nt 0 b):=by
   have hg:(bE b)[j]=b[j]:=jf9 hjb;rw[hg];unfold bE;rw[List.set_append_left _ _ hjb]
  have fK:(b.set j (b[j] ^^^ y)).length=b.length:=jfD;rw[e1,List.take_append_of_le_length (by rw[fK];exact jek _),je4 (by rw[fK];exact jek _)]at h;unfold bE at h;have h2:=List.append_cancel_left h
  have aE:∀ x∈b.set j (b[j] ^^^ y),x<256:=by
   intro x hx;rcases jgd hx with hx | rfl
   ·exact hb x hx
   ·have:b[j] ^^^ y<2 ^ 8:=jfY (hb _ (jeo hjb)) hy
    omega
  have h3:=XY (vX (by omega) aE) (vX (by omega) hb) h2;exact h0 (JK (c:=0) (X:=y) (f:=8*j) hb aE fK.symm (by omega) (by omega) (Md hjb hb hy) h3.symm)
 ·have e1:((bE b).set j ((bE b)[j] ^^^ y)).take b.length=b:=by
   rw[List.take_set_of_le (by omega)];unfold bE;rw[jfh]
  rw[e1]at h;have:=jep (fun l:List Nat=>l[j]?) h;simp only[List.getElem?_set_self hj,List.getElem?_eq_getElem hj,Option.some.injEq]at this;exact fJ this.symm
abbrev Row:=List Cl
def cY(rs:List Row)(k:Nat):List Cl:=rs.map fun r=>r.getD k nul
def mj(fs:List Fd)(k:Nat):Nat:=(fs.map fun f=>f.2.2.1).getD k 0
theorem ml{fs:List Fd}{k:Nat}(h:k<fs.length):mj fs k=fs[k].2.2.1:=by
 unfold mj;rw[List.getD_eq_getElem?_getD,List.getElem?_map,List.getElem?_eq_getElem h];rfl
theorem dx(rs:List Row)(k:Nat):(cY rs k).length=rs.length:=jen _
def gJ(c:Cl):List Nat:=if c.1=1 then uv (zigzag c.2.1) else if c.1=2 then [(c.2.1 % 256).toNat] else uv c.2.2.length++c.2.2
def yR(st:Stt):Nat:=(if st.some=true then 1 else 0)+(if st.high=true then 2 else 0)
def eD(st:Stt):List Nat:=uv st.nulls.toNat++[yR st]++((if st.some=true then gJ st.lo else [])++(if st.high=true then gJ st.hi else []))
def nps(g n:Nat):Nat:=(n+g-1) / g
def prt(g:Nat)(rs:List Row)(j:Nat):List Row:=(rs.drop (j*g)).take g
def JL(g:Nat)(rs:List Row):List (List Row):=(List.range (nps g rs.length)).map (prt g rs)
def eU(fs:List Fd)(p:List Row)(k:Nat):List Nat:=(List.range k).flatMap fun i=>ey (mj fs i) (cY p i)
def ftK(fs:List Fd)(p:List Row)(k:Nat):List Nat:=(List.range k).flatMap fun i=>uv (ey (mj fs i) (cY p i)).length++eD (cA (cY p i))
def iD(fs:List Fd)(g:Nat)(rs:List Row)(j:Nat):List Nat:=(List.range j).flatMap fun i=>eU fs (prt g rs i) fs.length
def ftJ(fs:List Fd)(g:Nat)(rs:List Row)(j:Nat):List Nat:=(List.range j).flatMap fun i=>ftK fs (prt g rs i) fs.length
def gm(id:Nat)(fs:List Fd)(rs:List Row)(g:Nat):List Nat:=dH id fs++uv rs.length++uv g++ftJ fs g rs (nps g rs.length)
def mn(id:Nat)(fs:List Fd)(rs:List Row)(g:Nat):List Nat:=iD fs g rs (nps g rs.length)++gm id fs rs g++le4 (gm id fs rs g).length
def dy(id:Nat)(fs:List Fd)(rs:List Row)(g:Nat):List Nat:=[67,70,49]++mn id fs rs g
theorem mo(fs:List Fd)(p:List Row)(k:Nat):eU fs p (k+1)=eU fs p k++ey (mj fs k) (cY p k):=by
 unfold eU;rw[jfC,jfw];simp
theorem nZ(fs:List Fd)(p:List Row)(k:Nat):ftK fs p (k+1)=ftK fs p k++(uv (ey (mj fs k) (cY p k)).length++eD (cA (cY p k))):=by
 unfold ftK;rw[jfC,jfw];simp
theorem tA(fs:List Fd)(g:Nat)(rs:List Row)(j:Nat):iD fs g rs (j+1)=iD fs g rs j++eU fs (prt g rs j) fs.length:=by
 unfold iD;rw[jfC,jfw];simp
theorem xH(fs:List Fd)(g:Nat)(rs:List Row)(j:Nat):ftJ fs g rs (j+1)=ftJ fs g rs j++ftK fs (prt g rs j) fs.length:=by
 unfold ftJ;rw[jfC,jfw];simp
def kL(fs:List Fd):List Row->Nat
 | []=>0
 | r::t=>if iO fs r=0 then kL fs t else iO fs r
def eb(id:Nat)(fs:List Fd)(rs:List Row)(g:Int):Nat :=
 if chk id fs≠0 then chk id fs else if g<1∨64<g then 1 else if 256<rs.length then 5 else kL fs rs
def bW(id:Nat)(fs:List Fd)(rs:List Row)(g:Int):List Nat×Nat :=
 if eb id fs rs g≠0 then ([],eb id fs rs g) else if 65536<(bE (dy id fs rs g.toNat)).length then ([],4) else (bE (dy id fs rs g.toNat),0)
abbrev S3:=List Nat×List Nat×Bool
def mq(lo hi:Nat)(b:List Nat):Bool:=!decide ((gt b).2.2=0/\lo<=(gt b).1/\(gt b).1<=hi)
def gy(lo hi:Nat)(b:List Nat):Nat:=if mq lo hi b=true then 0 else (gt b).1
def dK(b:List Nat):List Nat:=b.drop (gt b).2.1
theorem rM(lo hi:Nat)(b:List Nat):gy lo hi b<=hi:=by
 unfold gy mq;split
 ·omega
 ·next h =>
  simp only[Bool.not_eq_true',jfP,Decidable.not_not]at h;exact h.2.2
theorem Me{lo hi:Nat}{b:List Nat}(h:mq lo hi b=false):lo<=gy lo hi b:=by
 unfold gy;rw[jeh (by rw[h];decide)];unfold mq at h;simp only[Bool.not_eq_false',je7]at h;exact h.2.1
theorem qn{lo hi n:Nat}(h1:lo<=n)(h2:n<=hi)(h3:n<18446744073709551616)(r:List Nat):mq lo hi (uv n++r)=false/\gy lo hi (uv n++r)=n/\dK (uv n++r)=r:=by
 have hg:=mH n h3 r
 have hb:mq lo hi (uv n++r)=false:=by
  unfold mq;rw[hg];simp[h1,h2]
 refine⟨hb,?_,?_⟩
 ·unfold gy
  rw[hb,hg];rfl
 ·unfold dK
  rw[hg,je3]
def iE(k n:Nat)(s:S3):List Cl×S3 :=
 ((gF k (s.1.take (gy 0 s.1.length s.2.1)) n).getD [],
  (s.1.drop (gy 0 s.1.length s.2.1),dK s.2.1,(s.2.2 || mq 0 s.1.length s.2.1) || (gF k (s.1.take (gy 0 s.1.length s.2.1)) n).isNone))
def qo(l:List Cl)(s:S3):S3:=if (eD (cA l)).isPrefixOf s.2.1=true then (s.1,s.2.1.drop (eD (cA l)).length,s.2.2) else (s.1,s.2.1,true)
def psh(rs:List Row)(l:List Cl):List Row:=rs.mapIdx fun i r=>r++(l[i]?).toList
def grS(n:Nat)(st:List Row×List Stt×S3)(f:Fd):List Row×List Stt×S3 :=
 (psh st.1 (iE f.2.2.1 n st.2.2).1,st.2.1++[cA (iE f.2.2.1 n st.2.2).1],qo (iE f.2.2.1 n st.2.2).1 (iE f.2.2.1 n st.2.2).2)
def grK(fs:List Fd)(n:Nat)(s:S3)(k:Nat):List Row×List Stt×S3:=(fs.take k).foldl (grS n) (List.replicate n [],[],s)
theorem xI(fs:List Fd)(n:Nat)(s:S3):grK fs n s 0=(List.replicate n [],[],s):=rfl
theorem rN{fs:List Fd}{k:Nat}(h:k<fs.length)(n:Nat)(s:S3):grK fs n s (k+1)=grS n (grK fs n s k) fs[k]:=by
 unfold grK;rw[jeA h,List.foldl_append];rfl
abbrev Gr:=List Row×List Stt
def fiJ(fs:List Fd)(g tot:Nat)(s:S3):Nat->List Gr×S3
 | 0=>([],s)
 | j+1=>((fiJ fs g tot s j).1++[((grK fs (min (tot-j*g) g) (fiJ fs g tot s j).2 fs.length).1,(grK fs (min (tot-j*g) g) (fiJ fs g tot s j).2 fs.length).2.1)],
   (grK fs (min (tot-j*g) g) (fiJ fs g tot s j).2 fs.length).2.2)
def io(fs:List Fd)(c r:List Nat):List Gr×S3 :=
 fiJ fs (gy 1 64 (dK r)) (gy 0 256 r) (c,dK (dK r),mq 0 256 r || mq 1 64 (dK r)) (nps (gy 1 64 (dK r)) (gy 0 256 r))
def iW(b:List Nat):Option (Nat×List Fd×Nat×List Gr) :=
 if b.length<4 then none else
 if b.length-4<leN (b.drop (b.length-4)) then none else
 match di ((b.take (b.length-4)).drop (b.length-4-leN (b.drop (b.length-4))))with
 | .error _=>none
 | .ok ((id,fs),r)=>if (io fs (b.take (b.length-4-leN (b.drop (b.length-4)))) r).2.2.2=true then none
  else some (id,fs,gy 1 64 (dK r),(io fs (b.take (b.length-4-leN (b.drop (b.length-4)))) r).1)
def bT(gs:List Gr):List Row:=(gs.map Prod.fst).flatten
def jB(b:List Nat):Except Nat (Nat×List Fd×Nat×List Gr) :=
 match eC b with
 | none=>.error 101
 | some t=>if t.take 3=[67,70,49] then (match iW (t.drop 3)with
   | none=>.error 102
   | some x=>if bW x.1 x.2.1 (bT x.2.2.2) x.2.2.1=(b,0) then .ok x else .error 102) else .error 100
theorem uz{l:List Cl}{s:S3}(h:(qo l s).2.2=false):s.2.2=false/\s.2.1=eD (cA l)++(qo l s).2.1/\(qo l s).1=s.1:=by
 unfold qo at *;split at h
 ·next hp =>
  rw[jei hp];refine⟨h,?_,rfl⟩;obtain⟨t,ht⟩:=jfy.1 hp;show _=_++List.drop _ _
  rw[← ht,je3]
 ·cases h
theorem XZ{l:List Cl}{c b:List Nat}{fl:Bool}:qo l (c,eD (cA l)++b,fl)=(c,b,fl):=by
 unfold qo;rw[jei (jfy.2 ⟨b,rfl⟩),je3]
theorem uA{k n:Nat}{s:S3}(h:(iE k n s).2.2.2=false):s.2.2=false/\∃ l c,(iE k n s).1=l/\gF k c n=some l/\s.1=c++(iE k n s).2.1:=by
 unfold iE at *;simp only[Bool.or_eq_false_iff]at h;refine⟨h.1.1,?_⟩;cases hr:gF k (s.1.take (gy 0 s.1.length s.2.1)) n with
 | none=>rw[hr]at h;simp at h
 | some l=>exact⟨l,_,rfl,hr,(jfF _ _).symm⟩
theorem xJ{n:Nat}{st:List Row×List Stt×S3}{f:Fd}(h:(grS n st f).2.2.2.2=false):st.2.2.2.2=false/\(iE f.2.2.1 n st.2.2).2.2.2=false:=by
 unfold grS at h;have h1:=(uz h).1;exact⟨(uA h1).1,h1⟩
theorem uB{n:Nat}:∀{fs:List Fd} {st:List Row×List Stt×S3},(fs.foldl (grS n) st).2.2.2.2=false->st.2.2.2.2=false
 | [],_,h=>h
 | f::t,st,h=>(xJ (uB (fs:=t) h)).1
theorem JM{fs:List Fd}{n:Nat}{s:S3}{k:Nat}(h:(grK fs n s k).2.2.2.2=false):s.2.2=false:=uB (st:=(List.replicate n [],[],s)) h
theorem qp{fs:List Fd}{g tot:Nat}{s:S3}:∀{m j:Nat},j<=m->(fiJ fs g tot s m).2.2.2=false->(fiJ fs g tot s j).2.2.2=false:=by
 intro m;induction m with
 | zero =>
  intro j hj h;obtain rfl:j=0:=by omega
  exact h
 | succ m ih =>
  intro j hj h;rcases jeM m j with h1 | h1
  ·obtain rfl:j=m+1:=by omega
   exact h
  ·exact ih h1 (JM (k:=fs.length) h)
def fS(n:Nat)(cols:List (List Cl)):List Row:=(List.range n).map fun i=>cols.map fun l=>l.getD i nul
theorem xK(n:Nat):fS n []=List.replicate n []:=by
 unfold fS;apply List.ext_getElem?
 intro i;by_cases h:i<n
 ·simp[h]
 ·simp[h]
theorem gK(n:Nat)(cols:List (List Cl)):(fS n cols).length=n:=by simp[fS]
theorem mR{n:Nat}{cols:List (List Cl)}{i:Nat}(h:i<n):(fS n cols)[i]?=some (cols.map fun l=>l.getD i nul):=by
 unfold fS;simp[h]
theorem xL{n:Nat}{cols:List (List Cl)}{l:List Cl}(h:l.length=n):psh (fS n cols) l=fS n (cols++[l]):=by
 unfold psh;apply List.ext_getElem?
 intro i;rw[List.getElem?_mapIdx];by_cases hi:i<n
 ·rw[mR hi,mR hi,List.getElem?_eq_getElem (by omega)]
  simp[List.getD_eq_getElem?_getD,List.getElem?_eq_getElem (show i<l.length by omega)]
 ·rw[List.getElem?_eq_none (l:=fS n cols) (by rw[gK];omega),List.getElem?_eq_none (l:=fS n (cols++[l])) (by rw[gK];omega)]
  rfl
theorem EM{n:Nat}{cols:List (List Cl)}{k:Nat}(hk:k<cols.length)(h:cols[k].length=n):cY (fS n cols) k=cols[k]:=by
 unfold cY;apply List.ext_getElem?
 intro i;rw[List.getElem?_map];by_cases hi:i<n
 ·rw[mR hi,List.getElem?_eq_getElem (show i<cols[k].length by omega)]
  simp[List.getD_eq_getElem?_getD,List.getElem?_eq_getElem hk,List.getElem?_eq_getElem (show i<cols[k].length by omega)]
 ·rw[List.getElem?_eq_none (by rw[gK];omega),List.getElem?_eq_none (by omega)]
  rfl
theorem EN{p:List Row}{m:Nat}(h:∀ r∈p,r.length=m):fS p.length ((List.range m).map (cY p))=p:=by
 apply List.ext_getElem?
 intro i;by_cases hi:i<p.length
 ·rw[mR hi,List.getElem?_eq_getElem hi,jeW]
  congr 1
  have hm:=h _ (jeo hi);apply List.ext_getElem?
  intro k;rw[List.getElem?_map];by_cases hk:k<m
  ·rw[List.getElem?_range hk,List.getElem?_eq_getElem (by omega)]
   simp[cY,List.getD_eq_getElem?_getD,List.getElem?_eq_getElem hi,List.getElem?_eq_getElem (show k<p[i].length by omega)]
  ·rw[List.getElem?_eq_none (by simp;omega),List.getElem?_eq_none (by omega)]
   rfl
 ·rw[List.getElem?_eq_none (by rw[gK];omega),List.getElem?_eq_none (by omega)]
def Whl(fs:List Fd)(n:Nat)(cols:List (List Cl)):Prop:=∀ i (h:i<cols.length),Col (mj fs i) cols[i]/\cols[i].length=n
theorem Pj{fs:List Fd}{n:Nat}{s:S3}(hn:n<=64)(hk:∀ f∈fs,1<=f.2.2.1/\f.2.2.1<=3)(hb:Bs s.1):∀{k:Nat},k<=fs.length->(grK fs n s k).2.2.2.2=false ->
  ∃ cols,cols.length=k/\Whl fs n cols/\(grK fs n s k).1=fS n cols/\(grK fs n s k).2.1=cols.map cA/\Bs (grK fs n s k).2.2.1:=by
 intro k;induction k with
 | zero=>exact fun _ _=>⟨[],rfl,fun i h=>by simp at h,(xK n).symm,rfl,hb⟩
 | succ k ih =>
  intro oF h;rw[rN (by omega)]at h ⊢;obtain⟨h1,h2⟩:=xJ h;obtain⟨cols,hc,hw,hr,hs,yx⟩:=ih (by omega) h1;obtain⟨_,l,c,e1,e2,e3⟩:=uA h2;have WF:Bs c:=fun x hx=>yx x (by rw[e3];exact List.mem_append_left _ hx)
  have GH:=hk _ (jeo (show k<fs.length by omega));obtain⟨q1,q2,_⟩:=(md GH (by omega) WF).1 e2;refine⟨cols++[l],by simp[hc],?_,?_,?_,?_⟩
  ·intro i hi
   rcases jeM i cols.length with h3 | h3
   ·rw[jf9 h3]
    exact hw i h3
   ·obtain rfl:i=cols.length:=by simp at hi;omega
    rw[List.getElem_append_right (jek _)];simp only[jfM,jfZ];rw[hc,ml (by omega)];exact⟨q1,q2⟩
  ·unfold grS
   simp only[e1,hr];exact xL q2
  ·unfold grS
   simp only[e1,hs,jeE,jeT,je8]
  ·have h4:=(uz (l:=(iE fs[k].2.2.1 n (grK fs n s k).2.2).1) (s:=(iE fs[k].2.2.1 n (grK fs n s k).2.2).2) h).2.2
   unfold grS;simp only;rw[h4];exact fun x hx=>yx x (by rw[e3];exact List.mem_append_right _ hx)
theorem qq(n:Nat)(hn:n<9223372036854775808)(w:World):Calls Tryz.prog 81 #[.int .i64 (n:Int)] w (dA w (uv n)):=by
 have HV:=ae (dQ n (by omega));have KW:IntKind.u64.wrap (n:Int)=(n:Int):=by rw[jeP];omega
 go_enter Tryz.func81,Tryz.ntmps81
 go_wp2_with fail;refine(HV.o _).mono ?_;rintro e w1 ⟨⟨v1,rfl,o1⟩,aH⟩;go_wp2_with fail;go_ret
 exact⟨⟨_,rfl,o1⟩,aH⟩
theorem rO{l:List Nat}(h:Bs l):de (am l)=l:=by
 unfold de;rw[bI];exact fE h
theorem EO{s:List Nat}(c:Nat)(n:Int)(hc:(c:Int)≠1)(ke:(c:Int)≠2)(hl:s.length<=64)(h8:Bs s)(w:World) :
  Calls Tryz.prog 133 #[.agg #[.int .u8 (c:Int),.int .i64 n,.string (am s)]] w (dA w (uv s.length++s)):=by
 have HE:=ae (rO h8);have jG:(am s).size=s.length:=bi s;have HV:=ae (qq s.length (by omega));have vK:=bO (n:=s.length) (by omega);have h1:((c:Int)==1)=false:=jev.2 hc;have h2:((c:Int)==2)=false:=jev.2 ke;obtain⟨x0,x1,x2⟩:=dB w (.int .u8 (c:Int)) (.int .i64 n) (.string (am s)) 52;have hz:w.heap.size<(w.alloc (.cells #[.int .u8 (c:Int),.int .i64 n,.string (am s)] 52)).heap.size:=by rw[jel];omega
 have ce:=ae (ak w (.cells #[.int .u8 (c:Int),.int .i64 n,.string (am s)] 52));generalize hW:w.alloc (.cells #[.int .u8 (c:Int),.int .i64 n,.string (am s)] 52)=W at *
 have et:jgf (∀ n W',Below W.heap.size (W.drewN n) W'->W'.cell? ⟨w.heap.size,2,none⟩=some (.string (am s))/\Below W.heap.size W W'/\W.heap.size<=W'.heap.size):=ae (fun n W' h=>by
  have hb':Below W.heap.size W W':=(ar (jej _ _) n).trans h;exact⟨(hb'.cell (p:=⟨w.heap.size,2,none⟩) hz).trans x2,hb',hb'.size⟩)
 generalize hP:uv s.length=P at *;have hPp:0<P.length:=by rw[← hP];exact mG _
 clear hP hc ke h8;go_enter Tryz.func133,Tryz.ntmps133
 go_wp2_with fail;try rw[hW]
 clear hW
 go_region_held3 (fun w'=>w'.cell? ⟨w.heap.size,2,none⟩=some (.string (am s))) (go_keep) (first
  | (go_at_call 81;refine(HV.o _).mono ?_;rintro e w2 ⟨⟨v2,rfl,cB⟩,aE⟩;obtain⟨Lj,oD,hm3⟩:=et.o _ _ aE;have Lo:=ae oD;have dz:=ae cB;clear aE oD cB)
  | (refine nj (by rfl) _ _ (by rfl) W.heap.size _ P (am s) (by rfl) ?_ (by rfl) ?_ ?_ ?_;exact(bg dz.o (by simp));omega;omega;intro v3 w3 o3 b3;have sN:=(b3.cell (p:=⟨w.heap.size,2,none⟩) hz).trans Lj;have dd:=ae o3;have bN:=ae (Lo.o.trans b3);clear o3 b3))
 all_goals go_wp2_with fail
 all_goals go_ret
 all_goals rw[HE.o]at dd
 all_goals exact⟨⟨_,rfl,bg dd.o ce.o.size⟩,ai ce.o bN.o⟩
theorem Pk{n:Int}(h:I64 n)(w:World):Calls Tryz.prog 133 #[.agg #[.int .u8 1,.int .i64 n,.string ⟨#[]⟩]] w (dA w (wv n)):=by
 have HV:=ae (im h);obtain⟨x0,x1,x2⟩:=dB w (.int .u8 1) (.int .i64 n) (.string ⟨#[]⟩) 52;have ce:=ae (ak w (.cells #[.int .u8 1,.int .i64 n,.string ⟨#[]⟩] 52));go_enter Tryz.func133,Tryz.ntmps133
 go_wp2_with fail;refine(HV.o _).mono ?_;rintro e w1 ⟨⟨v1,rfl,o1⟩,aH⟩;have HO:=ae o1;have HB:=ae aH;clear o1 aH;go_wp2_with fail;go_ret
 exact⟨⟨_,rfl,bg HO.o ce.o.size⟩,ai ce.o HB.o⟩
theorem Pm{n:Nat}(h:n<2)(w:World):Calls Tryz.prog 133 #[.agg #[.int .u8 2,.int .i64 (n:Int),.string ⟨#[]⟩]] w (dA w [n]):=by
 obtain⟨x0,x1,x2⟩:=dB w (.int .u8 2) (.int .i64 (n:Int)) (.string ⟨#[]⟩) 52;have KW:IntKind.u8.wrap (n:Int)=(n:Int):=by rw[IntKind.wrap_u8];omega
 have ce:=ae (ak w (.cells #[.int .u8 2,.int .i64 (n:Int),.string ⟨#[]⟩] 52));have HL:=ae (cH (w.alloc (.cells #[.int .u8 2,.int .i64 (n:Int),.string ⟨#[]⟩] 52)) n);have aP:=ae (ak (w.alloc (.cells #[.int .u8 2,.int .i64 (n:Int),.string ⟨#[]⟩] 52)) (.cells #[.int .u8 (n:Int)] 5));have hz:(w.alloc (.cells #[.int .u8 2,.int .i64 (n:Int),.string ⟨#[]⟩] 52)).heap.size=w.heap.size+1:=jel _ _;go_enter Tryz.func133,Tryz.ntmps133
 go_wp2_with fail;go_ret
 have H1:=bg HL.o ce.o.size;rw[hz]at H1;exact⟨⟨_,rfl,H1⟩,ai ce.o aP.o⟩
theorem EP{c:Cl}(h:aT c)(w:World):Calls Tryz.prog 133 #[.agg #[.int .u8 (c.1:Int),.int .i64 c.2.1,.string (am c.2.2)]] w (dA w (gJ c)):=by
 rcases h with rfl | ⟨n,rfl,h1⟩ | ⟨n,rfl,h1⟩ | ⟨s,rfl,h1,h2⟩
 ·have:=EO (s:=[]) 0 0 (by decide) (by decide) (by simp) (fun x hx=>by simp at hx) w
  exact this
 ·have:=Pk h1 w
  exact this
 ·have:=Pm h1 w
  have e:gJ ((2,(n:Int),[]):Cl)=[n]:=by
   unfold gJ;rw[jeh (by simp),jei (by simp)];simp only;congr 1
   omega
  rw[e];exact this
 ·have:=EO (s:=s) 3 0 (by decide) (by decide) h1 h2 w
  exact this
theorem EQ(st:Stt)(w:World):Calls Tryz.prog 132 #[vC st] w fun e w'=>e=.returned (.int .u8 (yR st:Int))/\Below w.heap.size w w':=by
 obtain⟨r,n,so,hi,lo,hh⟩:=st;unfold vC yR
 have hc:∀ i,i<10->(w.alloc (.cells #[.int .i64 r,.int .i64 n,.bool so,.bool hi,.int .u8 (lo.1:Int),.int .i64 lo.2.1,.string (am lo.2.2),.int .u8 (hh.1:Int),.int .i64 hh.2.1,.string (am hh.2.2)] 54)).cell? ⟨w.heap.size,i,none⟩=(celS ⟨r,n,so,hi,lo,hh⟩)[i]?:=fun i hi=>by
  rw[ay (jeK w _)];simp[celS]
 have c2:=hc 2 (by omega);have c3:=hc 3 (by omega);simp only[celS,List.getElem?_cons_succ,List.getElem?_cons_zero]at c2 c3;have HB:=ae (ak w (.cells #[.int .i64 r,.int .i64 n,.bool so,.bool hi,.int .u8 (lo.1:Int),.int .i64 lo.2.1,.string (am lo.2.2),.int .u8 (hh.1:Int),.int .i64 hh.2.1,.string (am hh.2.2)] 54));clear hc;cases so<;>cases hi
 all_goals
  go_enter Tryz.func132,Tryz.ntmps132
  go_wp2_with fail;go_ret
  exact⟨by first | rfl | kernel_rfl,HB.o⟩
theorem Av{w:World}{v:Value}{l:List Fd}(hs:Sf w v l)(id:Nat):Calls Tryz.prog 77 #[.agg #[.int .u32 (id:Int),v]] w fun e w'=>e=.returned (.int .i64 (chk id l:Int))/\Below w.heap.size w w':=by
 obtain⟨a,cap,rfl,aW,bC⟩:=hs.form;have ce:=ae (ak w (.cells #[.int .u32 (id:Int),.slice a l.length cap] 25));have HS:=ae (hs.kept (ak w (.cells #[.int .u32 (id:Int),.slice a l.length cap] 25)));obtain⟨c0,c1⟩:=bx w (.int .u32 (id:Int)) (.slice a l.length cap) 25;have hz:w.heap.size<(w.alloc (.cells #[.int .u32 (id:Int),.slice a l.length cap] 25)).heap.size:=by rw[jel];omega
 clear hs;by_cases h1:id=0∨l.length=0∨8<l.length
 ·have HR:jgf (chk id l=1):=ae (jei h1)
  clear c0 c1 hz HS;by_cases q1:id=0
  ·subst q1
   go_enter Tryz.func77,Tryz.ntmps77
   go_wp2_with fail;go_ret
   rw[HR.o];exact⟨rfl,ce.o⟩
  ·have q1':((id:Int)==0)=false:=by simp[q1]
   by_cases q2:l.length=0
   ·have q2':((l.length:Int)==0)=true:=by simp[q2]
    clear h1 q1 q2;go_enter Tryz.func77,Tryz.ntmps77
    go_wp2_with fail;go_ret
    rw[HR.o];exact⟨rfl,ce.o⟩
   ·have q2':((l.length:Int)==0)=false:=by simp[q2]
    have q3:(l.length:Int) > 8:=(by omega);clear h1 q1 q2;go_enter Tryz.func77,Tryz.ntmps77
    go_wp2_with fail;go_ret
    rw[HR.o];exact⟨rfl,ce.o⟩
 ·have HR:jgf (chk id l=fe (l.take 0) (l.drop 0)):=ae (jeh h1)
  have q1':((id:Int)==0)=false:=jev.2 (by omega);have q2':((l.length:Int)==0)=false:=jev.2 (by omega);have q3:¬ (l.length:Int) > 8:=by omega
  have hl8:l.length<=8:=by omega
  clear h1;generalize hW:w.alloc (.cells #[.int .u32 (id:Int),.slice a l.length cap] 25)=W at *;go_enter Tryz.func77,Tryz.ntmps77
  go_wp2_with fail;try rw[hW]
  clear hW;go_loopw [24] (fun i wr=>∃ k:Nat,k<=l.length/\i=.int .i64 (k:Int)/\chk id l=fe (l.take k) (l.drop k)/\Below W.heap.size W wr) (fun i _=>l.length-(intOf i).toNat)
  case atStart=>exact⟨0,by omega,rfl,HR.o,jej _ _⟩
  case round =>
   obtain⟨k,hk,rfl,kT,az⟩:=hrel;have HF:=ae kT;have HB:=ae az;have bH:=az.size;clear kT az HR;by_cases aB:k<l.length
   ·obtain⟨b,off,rfl,hb,x0,x1,x2,x3⟩:=(HS.o.kept HB.o).at aB
    have HT:=ae (HF.o.trans (LC aB));have hlt':(k:Int)<(l.length:Int):=(by omega);have hkc:(k:Int)<=(cap:Int):=(by omega);have jco:(0:Int)<=(k:Int):=(by omega);have hktn:((k:Int)).toNat=k:=(by omega);have hdcap:¬ cap=0:=(by omega);have cP:=ae (HS.o.take (k:=k) (by omega));generalize l[k]=f at *;obtain⟨f0,f1,f2,f3⟩:=f;simp only at *;have d1:=(HB.o.cell (p:=⟨w.heap.size,1,none⟩) hz).trans c1;have qJ:=ak wr (.cells #[.int .u32 (f0:Int),.string f1,.int .u8 (f2:Int),.bool f3] 81);have e1:=(qJ.cell (p:=⟨w.heap.size,1,none⟩) (jeH hz bH)).trans d1;obtain⟨g0,g1,g2,g3⟩:=jg wr (.int .u32 (f0:Int)) (.string f1) (.int .u8 (f2:Int)) (.bool f3) 81;have aN:=ae (HB.o.trans (qJ.mono bH));have Lb:=ae (fun m=>Jn (xt ((cP.o.kept HB.o).kept qJ) m) (f0,f1,f2,f3));unfold qk at Lb;simp only at Lb;generalize gq (l.take k) (f0,f1,f2,f3)=R at *;have jG:(wr.alloc (.cells #[.int .u32 (f0:Int),.string f1,.int .u8 (f2:Int),.bool f3] 81)).heap.size=wr.heap.size+1:=jel _ _;clear qJ;go_wp2_with fail;generalize hV:wr.alloc (.cells #[.int .u32 (f0:Int),.string f1,.int .u8 (f2:Int),.bool f3] 81)=V at *;clear hV x0 x1 x2 x3
    have et:jgf (∀ n W',Below V.heap.size (V.drewN n) W'->(W'.cell? ⟨w.heap.size,1,none⟩=some (.slice (some ⟨b,off,none⟩) l.length cap)/\W'.cell? ⟨wr.heap.size,0,none⟩=some (.int .u32 (f0:Int))/\W'.cell? ⟨wr.heap.size,1,none⟩=some (.string f1)/\W'.cell? ⟨wr.heap.size,2,none⟩=some (.int .u8 (f2:Int))/\W'.cell? ⟨wr.heap.size,3,none⟩=some (.bool f3))/\Below W.heap.size W W'):=ae (fun n W' h=>by
     have hb':Below V.heap.size V W':=(ar (jej _ _) n).trans h;exact⟨⟨(hb'.cell (p:=⟨w.heap.size,1,none⟩) (show w.heap.size<_ by omega)).trans e1,(hb'.cell (p:=⟨wr.heap.size,0,none⟩) (show wr.heap.size<_ by omega)).trans g0,(hb'.cell (p:=⟨wr.heap.size,1,none⟩) (show wr.heap.size<_ by omega)).trans g1,(hb'.cell (p:=⟨wr.heap.size,2,none⟩) (show wr.heap.size<_ by omega)).trans g2,(hb'.cell (p:=⟨wr.heap.size,3,none⟩) (show wr.heap.size<_ by omega)).trans g3⟩,aN.o.trans (hb'.mono aN.o.size)⟩)
    go_region_held3 (fun w'=>w'.cell? ⟨w.heap.size,1,none⟩=some (.slice (some ⟨b,off,none⟩) l.length cap)/\w'.cell? ⟨wr.heap.size,0,none⟩=some (.int .u32 (f0:Int))/\w'.cell? ⟨wr.heap.size,1,none⟩=some (.string f1)/\w'.cell? ⟨wr.heap.size,2,none⟩=some (.int .u8 (f2:Int))/\w'.cell? ⟨wr.heap.size,3,none⟩=some (.bool f3)) (first | assumption | go_keep) (first | (go_at_call 116;refine(Lb.o _).mono ?_;rintro e w2 ⟨rfl,aE⟩;obtain⟨GH,yx⟩:=et.o _ _ aE;have fX:=ae yx;clear yx aE))
    clear GH e1 g0 g1 g2 g3 d1 c0 c1;by_cases hR:R=0
    ·rw[jei hR]at HT
     subst hR;go_wp2_with fail;go_roundw
     case rel=>exact⟨k+1,by omega,by go_num,HT.o,fX.o⟩
     case measure=>simp[intOf];omega
    ·rw[jeh hR]at HT
     have hR':((R:Int) != 0)=true:=by simp[hR]
     clear hR;go_wp2_with fail;go_ret
     rw[HT.o];exact⟨rfl,ai ce.o fX.o⟩
   ·obtain rfl:k=l.length:=by omega
    have gi:¬ ((l.length:Nat):Int)<(l.length:Int):=(by omega);have HT:=ae (HF.o.trans (Rx l));clear HF;go_wp2_with fail;go_ret
    rw[HT.o];exact⟨rfl,ai ce.o HB.o⟩
theorem JN{w:World}{v:Value}{l:List Fd}(hs:Sf w v l)(hl:l.length<=1000) :
  Calls Tryz.prog 55 #[v] w fun e w'=>(∃ v',e=.returned v'/\ea w' w.heap.size v' l)/\Below w.heap.size w w':=by
 have HS:=ae hs;obtain⟨ad,cap,rfl,h1,h2,h3,_⟩:=hs;cases ad with
 | none =>
  have hc:=h3 rfl;subst hc;have qC:l=[]:=jeI (by omega);subst qC;have hq:(binOp .eql 23 (.slice none 0 0) (.slice none 0 0)).run Tryz.prog w=.ok (.bool true) w:=jfQ w 23 81 none 0 0 0 0 Tryz.underlying23;go_enter Tryz.func55,Tryz.ntmps55
  go_wp2_with fail;go_ret
  exact⟨⟨_,rfl,ea.nil _ _⟩,jej _ _⟩
 | some ad =>
  have HN:jgf (ea (w.alloc (.cells #[] 81)) w.heap.size (.slice (some ⟨w.heap.size,0,none⟩) 0 0) []):=ae (ql w [] (by unfold maxLen;simp));have gj:=ae (HS.o.kept (ak w (.cells #[] 81)));clear h3;have hq:(binOp .eql 23 (.slice (some ad) l.length cap) (.slice none 0 0)).run Tryz.prog w=.ok (.bool false) w:=jfQ w 23 81 (some ad) l.length cap 0 0 Tryz.underlying23;go_enter Tryz.func55,Tryz.ntmps55
  go_wp2_with (first | (at_builtin;refine tj rfl _ _ rfl w.heap.size _ _ [] l rfl ?q1 rfl ?q2 ?c1 ?c2 ?_))
  case q1=>exact HN.o
  case q2=>exact gj.o
  case c1=>simp;omega
  case c2=>rw[jel];omega
  intro v3 w3 o3 aS;have dd:=ae o3;have bN:=ae ((ak w (.cells #[] 81)).trans aS);clear o3 aS;go_wp2_with fail;go_ret
  exact⟨⟨_,rfl,dd.o⟩,bN.o⟩
theorem lI{w:World}{ops:Array Oper}{o:Oper}{a:Act}{K:Act->World->Prop}{Q:Exit->Act->World->Prop}{E:Prop}(dY:o.guard=none)(s x:Operand)
  (ho:o.op=.call { callee:=.builtin .append,args:=#[s,x],argTypes:=#[23,23] })
  (base B2:Nat) (v vx:Value) (l0 l:List Fd) (hs:a.eval s=v) (aA:ea w base v l0) (hx:a.eval x=vx) (eN:ea w B2 vx l) (hp:0<l.length)
  (hbytes:l0.length+l.length<=100000) (aI:base<=w.heap.size)
  (h:∀ v' w',ea w' base v' (l0++l)->Below base w w'->K (a.put o.dst v') w') :
  if Region.wanted o (yielded ops a.tmps)=true then Oper.wp Tryz.prog o a w K Q else E:=by
 obtain⟨i0,hi,ch,hz1',bv⟩:=jeD Tn;unfold ea at eN;obtain⟨g,cap,rfl,hB,hg⟩:=World.ownsRow.form eN hp;have hc:∀ j u,(eJ l)[j]?=some u->w.cell? ((⟨g,0,none⟩:Addr).add j)=some u:=fun j u hj=>eN.cells (g:=g) rfl j u hj
 unfold ea at aA;refine step_append_lies (P:=Tryz.prog) w dY s x 23 ho base 81 i0 (.agg #[.int .u32 0,.string ⟨#[]⟩,.int .u8 0,.bool false]) 4 32 Tryz.underlying23 hi ch hz1' bv rfl (by decide) v l0.length (eJ l0) hs aA ⟨g,0,none⟩ l.length cap (eJ l) hx (by rw[gh]) hc (pJ _) hp (by unfold maxLen;omega) (by omega) aI _ rfl ?_;intro g' cap' w' o1 g1 _ _;refine h _ w' ?_ ((jej base w).grown g1 aI (fun k hk=>(aA.lt k hk).1));unfold ea;rw[rD,jem];exact o1
theorem rP{B:Nat}{w:World}(h:B<=w.heap.size)(o:Obj):B<=(w.alloc o).heap.size:=by rw[jel];omega
theorem qr{w w1:World}{B p:Nat}(h:Below B w w1)(hp:B<=p)(x y:Value):Below B w ((w1.setCell ⟨p,0,none⟩ x).setCell ⟨p,1,none⟩ y):=(h.setCell hp _).setCell hp _
theorem ER{w1:World}{B p:Nat}{v:Value}{l:List Fd}(h:ea w1 B v l)(hp:p<B)(x y:Value):ea ((w1.setCell ⟨p,0,none⟩ x).setCell ⟨p,1,none⟩ y) B v l :=
 Fr.own (((Fr.refl p w1.heap.size w1).set 0 x).set 1 y) h hp
theorem mr{c:Cl}(h:aT c):(gJ c).length<=74:=by
 have hl:=h.size;unfold gJ;split
 ·rcases h with rfl | ⟨n,rfl,h1⟩ | ⟨n,rfl,h1⟩ | ⟨s,rfl,h1,h2⟩<;>first | (have:=fC h1;unfold wv at this;simp only;omega) | (simp_all [nul])
 ·split
  ·simp
  ·have:=bO (n:=c.2.2.length) (by omega)
   rw[jem];omega
theorem Ya(st:Stt):yR st<4:=by unfold yR;split<;>split<;>omega
theorem oe{st:Stt}(h1:aT st.lo)(h2:aT st.hi)(hn:∃ n:Nat,st.nulls=(n:Int)/\n<=1000000)(w:World):Calls Tryz.prog 84 #[vC st] w (dA w (eD st)):=by
 obtain⟨n,hn,Mt⟩:=hn;obtain⟨r,nu,so,hi,lo,hh⟩:=st;simp only at hn h1 h2;subst hn;have HC0:=ae (qq n (by omega));have Rl:=ae (EQ ⟨r,(n:Int),so,hi,lo,hh⟩);have HL0:=ae (EP h1);have HH0:=ae (EP h2);have Rf:=mr h1;have AO:=mr h2;have hu:=bO (n:=n) (by omega);have HE:jgf (eD ⟨r,(n:Int),so,hi,lo,hh⟩=uv n++[yR ⟨r,(n:Int),so,hi,lo,hh⟩]++((if so=true then gJ lo else [])++(if hi=true then gJ hh else []))):=ae (by unfold eD;rw[jeQ]);unfold vC at Rl ⊢;have ce:=ae (ak w (.cells #[.int .i64 r,.int .i64 (n:Int),.bool so,.bool hi,.int .u8 (lo.1:Int),.int .i64 lo.2.1,.string (am lo.2.2),.int .u8 (hh.1:Int),.int .i64 hh.2.1,.string (am hh.2.2)] 54));have hz:w.heap.size<(w.alloc (.cells #[.int .i64 r,.int .i64 (n:Int),.bool so,.bool hi,.int .u8 (lo.1:Int),.int .i64 lo.2.1,.string (am lo.2.2),.int .u8 (hh.1:Int),.int .i64 hh.2.1,.string (am hh.2.2)] 54)).heap.size:=by rw[jel];omega
 have kh:=jeK w (.cells #[.int .i64 r,.int .i64 (n:Int),.bool so,.bool hi,.int .u8 (lo.1:Int),.int .i64 lo.2.1,.string (am lo.2.2),.int .u8 (hh.1:Int),.int .i64 hh.2.1,.string (am hh.2.2)] 54);generalize hW:w.alloc (.cells #[.int .i64 r,.int .i64 (n:Int),.bool so,.bool hi,.int .u8 (lo.1:Int),.int .i64 lo.2.1,.string (am lo.2.2),.int .u8 (hh.1:Int),.int .i64 hh.2.1,.string (am hh.2.2)] 54)=W at *;generalize lo.1=l0 at *;generalize lo.2.1=l1 at *;generalize am lo.2.2=l2 at *;generalize hh.1=h0 at *;generalize hh.2.1=h1' at *;generalize am hh.2.2=h2' at *
 have HT:jgf (∀ U,Below W.heap.size W U->U.cell? ⟨w.heap.size,0,none⟩=some (.int .i64 r)/\U.cell? ⟨w.heap.size,1,none⟩=some (.int .i64 (n:Int))/\U.cell? ⟨w.heap.size,2,none⟩=some (.bool so)/\U.cell? ⟨w.heap.size,3,none⟩=some (.bool hi)/\U.cell? ⟨w.heap.size,4,none⟩=some (.int .u8 (l0:Int))/\U.cell? ⟨w.heap.size,5,none⟩=some (.int .i64 l1)/\U.cell? ⟨w.heap.size,6,none⟩=some (.string l2)/\U.cell? ⟨w.heap.size,7,none⟩=some (.int .u8 (h0:Int))/\U.cell? ⟨w.heap.size,8,none⟩=some (.int .i64 h1')/\U.cell? ⟨w.heap.size,9,none⟩=some (.string h2')):=ae (fun U hb=>by
  have hU:=(hb.block w.heap.size hz).trans kh;refine⟨?_,?_,?_,?_,?_,?_,?_,?_,?_,?_⟩<;>(rw[ay hU];rfl))
 clear kh
 have HC:jgf (∀ U,Below W.heap.size W U->Calls Tryz.prog 81 #[.int .i64 (n:Int)] U fun e w'=>∃ v,e=.returned v/\aD w' W.heap.size v (uv n)/\Below U.heap.size U w'/\Below W.heap.size W w'/\(w'.cell? ⟨w.heap.size,0,none⟩=some (.int .i64 r)/\w'.cell? ⟨w.heap.size,1,none⟩=some (.int .i64 (n:Int))/\w'.cell? ⟨w.heap.size,2,none⟩=some (.bool so)/\w'.cell? ⟨w.heap.size,3,none⟩=some (.bool hi)/\w'.cell? ⟨w.heap.size,4,none⟩=some (.int .u8 (l0:Int))/\w'.cell? ⟨w.heap.size,5,none⟩=some (.int .i64 l1)/\w'.cell? ⟨w.heap.size,6,none⟩=some (.string l2)/\w'.cell? ⟨w.heap.size,7,none⟩=some (.int .u8 (h0:Int))/\w'.cell? ⟨w.heap.size,8,none⟩=some (.int .i64 h1')/\w'.cell? ⟨w.heap.size,9,none⟩=some (.string h2'))):=ae (fun U hU=>by
  refine(HC0.o U).mono ?_;rintro e w' ⟨⟨v,rfl,ho⟩,hb⟩;have aE:=ai hU hb;exact⟨v,rfl,bg ho hU.size,hb,aE,HT.o _ aE⟩)
 have HF:jgf (∀ U,Below W.heap.size W U->Calls Tryz.prog 132 #[.agg #[.int .i64 r,.int .i64 (n:Int),.bool so,.bool hi,.int .u8 (l0:Int),.int .i64 l1,.string l2,.int .u8 (h0:Int),.int .i64 h1',.string h2']] U fun e w'=>e=.returned (.int .u8 (yR ⟨r,(n:Int),so,hi,lo,hh⟩:Int))/\Below U.heap.size U w'/\Below W.heap.size W w'/\(w'.cell? ⟨w.heap.size,0,none⟩=some (.int .i64 r)/\w'.cell? ⟨w.heap.size,1,none⟩=some (.int .i64 (n:Int))/\w'.cell? ⟨w.heap.size,2,none⟩=some (.bool so)/\w'.cell? ⟨w.heap.size,3,none⟩=some (.bool hi)/\w'.cell? ⟨w.heap.size,4,none⟩=some (.int .u8 (l0:Int))/\w'.cell? ⟨w.heap.size,5,none⟩=some (.int .i64 l1)/\w'.cell? ⟨w.heap.size,6,none⟩=some (.string l2)/\w'.cell? ⟨w.heap.size,7,none⟩=some (.int .u8 (h0:Int))/\w'.cell? ⟨w.heap.size,8,none⟩=some (.int .i64 h1')/\w'.cell? ⟨w.heap.size,9,none⟩=some (.string h2'))):=ae (fun U hU=>by
  refine(Rl.o U).mono ?_;rintro e w' ⟨rfl,hb⟩;have aE:=ai hU hb;exact⟨rfl,hb,aE,HT.o _ aE⟩)
 clear HC0 Rl;generalize yR ⟨r,(n:Int),so,hi,lo,hh⟩=fg at *;generalize uv n=P at *;obtain⟨x0,x1,x2,x3,x4,x5,x6,x7,x8,x9⟩:=HT.o W (jej _ _);go_enter Tryz.func84,Tryz.ntmps84
 go_wp2_with fail;try rw[hW]
 clear hW;have hBW:Below W.heap.size W W:=jej _ _
 go_region_held3 (fun w'=>w'.cell? ⟨w.heap.size,0,none⟩=some (.int .i64 r)/\w'.cell? ⟨w.heap.size,1,none⟩=some (.int .i64 (n:Int))/\w'.cell? ⟨w.heap.size,2,none⟩=some (.bool so)/\w'.cell? ⟨w.heap.size,3,none⟩=some (.bool hi)/\w'.cell? ⟨w.heap.size,4,none⟩=some (.int .u8 (l0:Int))/\w'.cell? ⟨w.heap.size,5,none⟩=some (.int .i64 l1)/\w'.cell? ⟨w.heap.size,6,none⟩=some (.string l2)/\w'.cell? ⟨w.heap.size,7,none⟩=some (.int .u8 (h0:Int))/\w'.cell? ⟨w.heap.size,8,none⟩=some (.int .i64 h1')/\w'.cell? ⟨w.heap.size,9,none⟩=some (.string h2')) (first | (refine⟨?_,?_,?_,?_,?_,?_,?_,?_,?_,?_⟩<;>assumption) | go_keep) (first
  | (go_at_call 81;refine(HC.o _ ?_).mono ?_;(first | exact ar hBW _ | exact ar Lp _ | exact Lp);rintro e w2 ⟨v2,rfl,ft,aE,VI,⟨y0,y1,y2,y3,y4,y5,y6,y7,y8,y9⟩⟩;have dz:=ae ft;clear ft)
  | (go_at_call 132;refine(HF.o _ ?_).mono ?_;(first | exact ar VI _ | exact VI);rintro e w3 ⟨rfl,aS,Lp,⟨z0,z1,z2,z3,z4,z5,z6,z7,z8,z9⟩⟩;have dd:=ae (dz.o.kept aS);clear dz aS)
  | (go_at_call 132;refine(HF.o _ ?_).mono ?_;(first | exact ar hBW _ | exact ar VI _ | exact VI);rintro e w3 ⟨rfl,aS,Lp,⟨z0,z1,z2,z3,z4,z5,z6,z7,z8,z9⟩⟩)
  | (refine xw (by rfl) _ _ (by rfl) W.heap.size _ _ P [fg] (by rfl) ?_ (by rfl) ?_ ?_ ?_ ?_;exact dd.o.kept (ak _ _);exact(cH _ fg).sv;(simp only[jeS];omega);exact jet Lp.size (rP (jek _) _);intro v4 w4 o4 b4 g4 e4;have bG:=(Lp.alloc Lp.size _).trans b4;obtain⟨q0,q1,q2,q3,q4,q5,q6,q7,q8,q9⟩:=HT.o _ bG;have eY:=ae o4;have cp:=ae bG;clear g4 e4 b4 bG o4)
  | fail)
 clear y0 y1 y2 y3 y4 y5 y6 y7 y8 y9 z0 z1 z2 z3 z4 z5 z6 z7 z8 z9 x0 x1 x2 x3 x4 x5 x6 x7 x8 x9 aE VI Lp HC HF dd;have hPl:P.length<=10:=hu
 have CW:jgf (∀(so' hi':Bool) v' w',so=so'->hi=hi'->aD w' W.heap.size v' (P++[fg]++(if so'=true then gJ lo else [])++(if hi'=true then gJ hh else []))->Below W.heap.size W w'->dA w (eD ⟨r,(n:Int),so,hi,lo,hh⟩) (.returned v') w'):=ae (fun so' hi' v' w' e1 e2 ho hb=>by
  rw[HE.o,e1,e2];refine⟨⟨_,rfl,bg ?_ ce.o.size⟩,ai ce.o hb⟩;have h9:=ho;rw[jez]at h9;exact h9)
 have hx:(so=true∨so=false):=by cases so<;>simp
 rcases hx with VJ | VJ
 all_goals (have hy:(hi=true∨hi=false):=by cases hi<;>simp)
 all_goals rcases hy with KY | KY
 ·rw[VJ]at q2
  rw[KY]at q3;go_wp2_with fail;refine(HL0.o _).mono ?_;rintro e w5 ⟨⟨v5,rfl,o5⟩,bD⟩;have df:=ae (eY.o.kept bD);have qF:=ae o5.sv;have aQ:=ae (ai cp.o bD);clear o5 bD q0 q1 q2 q3 q4 q5 q6 q7 q8 q9;go_wp2_with (first | (at_builtin;refine aV rfl _ _ rfl W.heap.size _ _ (P++[fg]) (gJ lo) rfl df.o rfl qF.o ?d1a ?d1b ?_))
  case d1a=>simp only[jem,jeS];omega
  case d1b=>exact aQ.o.size
  intro v6 w6 o6 b6 _ _;have dW:=aQ.o.trans b6;obtain⟨q0,q1,q2,q3,q4,q5,q6,q7,q8,q9⟩:=HT.o _ dW;have my:jgf (aD w6 W.heap.size v6 (P++[fg]++gJ lo)):=ae (by simpa using o6);have gW:=ae dW;clear o6 b6 dW;rw[KY]at q3;go_wp2_with fail;refine(HH0.o _).mono ?_;rintro e w7 ⟨⟨v7,rfl,o7⟩,iR⟩;have iI:=ae (my.o.kept iR);have Lc:=ae o7.sv;have ir:=ae (ai gW.o iR);clear o7 iR q0 q1 q2 q3 q4 q5 q6 q7 q8 q9;go_wp2_with (first | (at_builtin;refine aV rfl _ _ rfl W.heap.size _ _ (P++[fg]++gJ lo) (gJ hh) rfl iI.o rfl Lc.o ?d2a ?d2b ?_))
  case d2a=>simp only[jem,jeS];omega
  case d2b=>exact ir.o.size
  intro v8 w8 o8 b8 _ _;have kR:=ir.o.trans b8;obtain⟨q0,q1,q2,q3,q4,q5,q6,q7,q8,q9⟩:=HT.o _ kR;have Qv:jgf (aD w8 W.heap.size v8 (P++[fg]++gJ lo++gJ hh)):=ae (by simpa using o8);have qD:=ae kR;clear o8 b8 kR;go_wp2_with fail;go_ret
  refine CW.o true true _ _ VJ KY ?_ qD.o;have h9:=Qv.o;simpa using h9
 ·rw[VJ]at q2
  rw[KY]at q3;go_wp2_with fail;refine(HL0.o _).mono ?_;rintro e w5 ⟨⟨v5,rfl,o5⟩,bD⟩;have df:=ae (eY.o.kept bD);have qF:=ae o5.sv;have aQ:=ae (ai cp.o bD);clear o5 bD q0 q1 q2 q3 q4 q5 q6 q7 q8 q9;go_wp2_with (first | (at_builtin;refine aV rfl _ _ rfl W.heap.size _ _ (P++[fg]) (gJ lo) rfl df.o rfl qF.o ?d3a ?d3b ?_))
  case d3a=>simp only[jem,jeS];omega
  case d3b=>exact aQ.o.size
  intro v6 w6 o6 b6 _ _;have dW:=aQ.o.trans b6;obtain⟨q0,q1,q2,q3,q4,q5,q6,q7,q8,q9⟩:=HT.o _ dW;have my:jgf (aD w6 W.heap.size v6 (P++[fg]++gJ lo)):=ae (by simpa using o6);have gW:=ae dW;clear o6 b6 dW;rw[KY]at q3;go_wp2_with fail;go_ret
  refine CW.o true false _ _ VJ KY ?_ gW.o;have h9:=my.o;simpa using h9
 ·rw[VJ]at q2
  rw[KY]at q3;go_wp2_with fail;refine(HH0.o _).mono ?_;rintro e w5 ⟨⟨v5,rfl,o5⟩,bD⟩;have df:=ae (eY.o.kept bD);have qF:=ae o5.sv;have aQ:=ae (ai cp.o bD);clear o5 bD q0 q1 q2 q3 q4 q5 q6 q7 q8 q9;go_wp2_with (first | (at_builtin;refine aV rfl _ _ rfl W.heap.size _ _ (P++[fg]) (gJ hh) rfl df.o rfl qF.o ?d4a ?d4b ?_))
  case d4a=>simp only[jem,jeS];omega
  case d4b=>exact aQ.o.size
  intro v6 w6 o6 b6 _ _;have dW:=aQ.o.trans b6;obtain⟨q0,q1,q2,q3,q4,q5,q6,q7,q8,q9⟩:=HT.o _ dW;have my:jgf (aD w6 W.heap.size v6 (P++[fg]++gJ hh)):=ae (by simpa using o6);have gW:=ae dW;clear o6 b6 dW;go_wp2_with fail;go_ret
  refine CW.o false true _ _ VJ KY ?_ gW.o;have h9:=my.o;simpa using h9
 ·rw[VJ]at q2
  rw[KY]at q3;go_wp2_with fail;go_ret
  refine CW.o false false _ _ VJ KY ?_ cp.o;have h9:=eY.o;simpa using h9
end Go.Proofs.YtpljdjmpamjkhaaGreatDoor
