import Derived.Test.YtpljdjmpamjkhaaGreatDoorUar
set_option linter.unusedVariables false
set_option linter.unusedSimpArgs false
set_option maxRecDepth 100000
set_option maxHeartbeats 2000000
namespace Go.Proofs.YtpljdjmpamjkhaaGreatDoor
open Go.RowKit Go.Lib
theorem YJ:(Tryz.prog.info? 9).map (fun i=>(i.zero,i.size,i.bytes))=some (some (.string ⟨#[]⟩),1,16):=by kernel_rfl
theorem bX{w:World}{ops:Array Oper}{rest:List Oper}{o:Oper}{a:Act}{Q:Exit->Act->World->Prop}(eg:o.guard=none)(s x:Operand)
  (ho:o.op=.call { callee:=.builtin .append,args:=#[s,x],argTypes:=#[144,144] })
  (base:Nat) (v:Value) (g:Nat) (z:List Nat) (l0:List (List Nat)) (hs:a.eval s=v) (aA:eF w base v l0) (hx:a.eval x=.slice (some ⟨g,0,none⟩) 1 1) (hc:w.cell? ⟨g,0,none⟩=some (txt z))
  (hbytes:l0.length<=100000) (aI:base<=w.heap.size)
  (h:∀ v' w',eF w' base v' (l0++[z])->Below base w w'->wpList Tryz.prog ops Q rest (a.put o.dst v') w') :
  wpList Tryz.prog ops Q (o::rest) a w:=by
 obtain⟨i0,hi,cm,hz1',bn⟩:=jdA YJ;unfold eF at *
 refine jdU (w:=w) eg s x 144 ho base 9 i0 (.string ⟨#[]⟩) 1 16 Tryz.underlying144 hi cm hz1' bn rfl (by decide) v l0.length (cA l0) hs aA ⟨g,0,none⟩ 1 1 [txt z] hx rfl ?_ (fun u hu=>by
  have:u=txt z:=by simpa using hu
  subst this;rfl) (by unfold maxLen;omega) (by omega) aI ?_
 ·intro j u hu
  rw[mq];cases j with
  | zero =>
   simp only[List.getElem?_cons_zero,Option.some.injEq]at hu;rw[← hu];exact hc
  | succ j=>simp at hu
 ·intro v' w' o1 g1 _ _
  refine h v' w' ?_ ((jdg base w).grown g1 aI (fun k hk=>(aA.lt k hk).1));rw[pq,jdj];exact o1
theorem kb{l:List Int}(hl:l.length<=256):DV l=cP l:=jdf hl
theorem sU{w:World}{v:Value}{l:List Int}(hs:Sv w v (aK l))(hl:l.length<=256)(hi:Is l):Calls Tryz.prog 126 #[v] w (dw w (cP l)):=by
 have HB:=ae (SL hs hi);rw[kb hl]at HB;clear hs hi;generalize cP l=bs at *;go_enter Tryz.func126,Tryz.ntmps126
 go_wp2_with fail;refine HB.o.mono ?_;rintro e w1 ⟨⟨v1,rfl,eI⟩,aH⟩;have fC:=ae eI;have aR:=ae aH;clear eI aH;go_wp2_with fail;go_ret
 exact⟨⟨_,rfl,fC.o⟩,aR.o⟩
theorem zI{w:World}{v:Value}{l:List Nat}(hs:Sv w v (aF .u64 l))(h2:∀ x∈l,x<2):Calls Tryz.prog 128 #[v] w (dw w (bg l 1)):=by
 have HB:=ae (zi hs.sx (fun x hx=>by have:=h2 x hx;omega) 1);clear hs h2;generalize bg l 1=bs at *;generalize can l 1=bb at *;go_enter Tryz.func128,Tryz.ntmps128
 go_wp2_with fail;refine HB.o.mono ?_;rintro e w1 ⟨v1,rfl,eI,aH⟩;have fC:=ae eI;have aR:=ae aH;clear eI aH;go_wp2_with fail;go_ret
 exact⟨⟨_,rfl,fC.o⟩,aR.o⟩
theorem xd(b:Bool)(w:World):Calls Tryz.prog 169 #[.bool b] w fun e w'=>e=.returned (.int .u64 (if b then 1 else 0))/\w'=w:=by
 cases b
 all_goals
  go_enter Tryz.func169,Tryz.ntmps169
  go_wp2;go_ret
  exact⟨rfl,rfl⟩
theorem ji(k:Nat)(w:World):Calls Tryz.prog 167 #[.int .u8 (k:Int)] w fun e w'=>e=.returned (.bool (decide (1<=k/\k<=3)))/\w'=w:=by
 by_cases h1:((k:Int)==1)=true
 ·have hk:k=1:=by have:(k:Int)=1:=(by simpa using h1);omega
  subst hk;go_enter Tryz.func167,Tryz.ntmps167
  go_wp2;go_ret
  exact⟨rfl,rfl⟩
 ·by_cases h2:((k:Int)==2)=true
  ·have hk:k=2:=by have:(k:Int)=2:=(by simpa using h2);omega
   subst hk;go_enter Tryz.func167,Tryz.ntmps167
   go_wp2;go_ret
   exact⟨rfl,rfl⟩
  ·by_cases h3:((k:Int)==3)=true
   ·have hk:k=3:=by have:(k:Int)=3:=(by simpa using h3);omega
    subst hk;go_enter Tryz.func167,Tryz.ntmps167
    go_wp2;go_ret
    exact⟨rfl,rfl⟩
   ·have h1':((k:Int)==1)=false:=by simpa using h1
    have h2':((k:Int)==2)=false:=by simpa using h2
    have h3':((k:Int)==3)=false:=by simpa using h3
    have HN:jfb (decide (1<=k/\k<=3)=false):=ae (by
     have a1:(k:Int)≠1:=by simpa using h1
     have a2:(k:Int)≠2:=by simpa using h2
     have a3:(k:Int)≠3:=by simpa using h3
     exact jds (by omega))
    rw[HN.o];clear h1 h2 h3;go_enter Tryz.func167,Tryz.ntmps167
    go_wp2;go_ret
    exact⟨rfl,rfl⟩
theorem gj.fine{k:Nat}{c:Nat×Int×List Nat}(h:gj k c):aV c:=by
 rcases h with h | ⟨_,h⟩ | ⟨_,h⟩ | ⟨_,h⟩
 ·exact Or.inl h
 ·exact Or.inr (Or.inl h)
 ·exact Or.inr (Or.inr (Or.inl h))
 ·exact Or.inr (Or.inr (Or.inr h))
theorem aV.cellk{k:Nat}{c:Nat×Int×List Nat}(h:aV c)(hk:c.1=0∨c.1=k):gj k c:=by
 rcases h with h | ⟨n,rfl,h⟩ | ⟨n,rfl,h⟩ | ⟨n,rfl,h⟩
 ·exact Or.inl h
 ·have:k=1:=by simp at hk;omega
  exact Or.inr (Or.inl ⟨this,n,rfl,h⟩)
 ·have:k=2:=by simp at hk;omega
  exact Or.inr (Or.inr (Or.inl ⟨this,n,rfl,h⟩))
 ·have:k=3:=by simp at hk;omega
  exact Or.inr (Or.inr (Or.inr ⟨this,n,rfl,h⟩))
theorem fJ{l:List (Nat×Int×List Nat)}{j:Nat}(h:j<l.length):bT (l.take (j+1))=bT (l.take j)++(if l[j].1=0 then [] else [l[j]]):=by
 unfold bT;rw[jdx h,jeU];congr 1
 by_cases h0:l[j].1=0
 ·simp[h0]
 ·simp[h0]
theorem jj(l:List (Nat×Int×List Nat))(j:Nat):(bT (l.take j)).length<=l.length:=by
 have:=gU (l.take j);rw[jdo]at this;omega
theorem Hr{w:World}{v:Value}{l:List (Nat×Int×List Nat)}(hs:Sv w v (aJ l))(hl:l.length<=256)(hc:∀ c∈l,gj 1 c) :
  Calls Tryz.prog 127 #[v] w fun e w'=>(∃ v',e=.returned v'/\bv w' w.heap.size v' ((bT l).map fun c=>c.2.1))/\Below w.heap.size w w':=by
 have HS:=ae hs;have HC:=ae hc;obtain⟨a,cap,rfl,aY,bx⟩:=hs.form1;rw[aG]at *;have t1:=Az;have t2:=Gi;have hcm':cap<=9223372036854775807:=by unfold maxLen at bx;omega
 clear hs hc bx;go_enter Tryz.func127,Tryz.ntmps127
 go_wp2_with fail;go_loopw [3,10] (fun o i wr=>∃ j:Nat,j<=l.length/\i=.int .i64 (j:Int)/\bv wr w.heap.size o ((bT (l.take j)).map fun c=>c.2.1)/\Below w.heap.size w wr) (fun _ i _=>l.length-(intOf i).toNat)
 case atStart=>exact⟨0,by omega,rfl,bv.nil _ _,jdg _ _⟩
 case round =>
  obtain⟨j,hj,rfl,aA,az⟩:=hrel;have HO:=ae aA;have HB:=ae az;have bP:=az.size;clear aA az;by_cases aC:j<l.length
  ·obtain⟨b,off,rfl,hb,bq⟩:=HS.o.at1 (cM aC)
   have hcell':=(HB.o.cell (p:=⟨b,off+j,none⟩) hb).trans bq;have HT:=ae (fJ aC);have bR:=jj l j;have dR:=HC.o l[j] (jdl aC);have hlt':(j:Int)<(l.length:Int):=(by omega);clear bq;generalize l[j]=c at *;rcases dR with rfl | ⟨_,n,rfl,hn⟩ | ⟨hk,_⟩ | ⟨hk,_⟩
   ·simp only[nul,dh,if_true]at hcell'
    have HT':jfb (bT (l.take (j+1))=bT (l.take j)):=ae (by
     have:=HT.o;simpa [nul]using this)
    clear HT;go_wp2_with fail;go_roundw
    case rel=>exact⟨j+1,by omega,by go_num,by rw[HT'.o];exact HO.o,HB.o⟩
    case measure=>simp[intOf];omega
   ·simp only[dh]at hcell'
    have HT':jfb ((bT (l.take (j+1))).map (fun c=>c.2.1)=((bT (l.take j)).map fun c=>c.2.1)++[n]):=ae (by
     have:=HT.o;simp only[show (1:Nat)≠0 from by omega,if_false]at this;rw[this,jdC];rfl)
    have hlen':((bT (l.take j)).map fun c=>c.2.1).length<=100000:=by rw[jdk];omega
    clear HT;generalize ((bT (l.take j)).map fun c=>c.2.1)=L at *;go_wp2_with (first | (at_builtin;refine aX rfl _ _ rfl w.heap.size _ _ n L rfl (HO.o.kept (ak _ _)) rfl (aL _ _ _) hlen' ?c2 ?_))
    case c2=>first | omega | (rw[jdi];omega)
    intro v' w2 o2 b2;have du:=ae o2;have aO:=ae ((HB.o.alloc bP _).trans b2);clear o2 b2;go_wp2_with fail;go_roundw
    case rel=>exact⟨j+1,by omega,by go_num,by rw[HT'.o];exact du.o,aO.o⟩
    case measure=>simp[intOf];omega
   ·omega
   ·omega
  ·have:j=l.length:=by omega
   subst this;have gL:¬ ((l.length:Nat):Int)<(l.length:Int):=(by omega);rw[jdp]at HO;go_wp2_with fail;go_ret
   exact⟨⟨_,rfl,HO.o⟩,HB.o⟩
theorem Hs{w:World}{v:Value}{l:List (Nat×Int×List Nat)}(hs:Sv w v (aJ l))(hl:l.length<=256)(hc:∀ c∈l,gj 3 c) :
  Calls Tryz.prog 131 #[v] w fun e w'=>(∃ v',e=.returned v'/\eF w' w.heap.size v' ((bT l).map fun c=>c.2.2))/\Below w.heap.size w w':=by
 have HS:=ae hs;have HC:=ae hc;obtain⟨a,cap,rfl,aY,bx⟩:=hs.form1;rw[aG]at *;have t1:=AB;have t2:=Gk;have hcm':cap<=9223372036854775807:=by unfold maxLen at bx;omega
 clear hs hc bx;go_enter Tryz.func131,Tryz.ntmps131
 go_wp2_with fail;go_loopw [3,10] (fun o i wr=>∃ j:Nat,j<=l.length/\i=.int .i64 (j:Int)/\eF wr w.heap.size o ((bT (l.take j)).map fun c=>c.2.2)/\Below w.heap.size w wr) (fun _ i _=>l.length-(intOf i).toNat)
 case atStart=>exact⟨0,by omega,rfl,eF.nil _ _,jdg _ _⟩
 case round =>
  obtain⟨j,hj,rfl,aA,az⟩:=hrel;have HO:=ae aA;have HB:=ae az;have bP:=az.size;clear aA az;by_cases aC:j<l.length
  ·obtain⟨b,off,rfl,hb,bq⟩:=HS.o.at1 (cM aC)
   have hcell':=(HB.o.cell (p:=⟨b,off+j,none⟩) hb).trans bq;have HT:=ae (fJ aC);have bR:=jj l j;have dR:=HC.o l[j] (jdl aC);have hlt':(j:Int)<(l.length:Int):=(by omega);clear bq;generalize l[j]=c at *;rcases dR with rfl | ⟨hk,_⟩ | ⟨hk,_⟩ | ⟨_,n,rfl,hn⟩
   ·simp only[nul,dh,if_true]at hcell'
    have HT':jfb (bT (l.take (j+1))=bT (l.take j)):=ae (by
     have:=HT.o;simpa [nul]using this)
    clear HT;go_wp2_with fail;go_roundw
    case rel=>exact⟨j+1,by omega,by go_num,by rw[HT'.o];exact HO.o,HB.o⟩
    case measure=>simp[intOf];omega
   ·omega
   ·omega
   ·simp only[dh,en,show (3:Nat)≠0 from by omega,show (3:Nat)≠1 from by omega,show (3:Nat)≠2 from by omega,if_false]at hcell'
    have HT':jfb ((bT (l.take (j+1))).map (fun c=>c.2.2)=((bT (l.take j)).map fun c=>c.2.2)++[n]):=ae (by
     have:=HT.o;simp only[show (3:Nat)≠0 from by omega,if_false]at this;rw[this,jdC];rfl)
    have hlen':((bT (l.take j)).map fun c=>c.2.2).length<=100000:=by rw[jdk];omega
    clear HT;generalize ((bT (l.take j)).map fun c=>c.2.2)=L at *;go_wp2_with (first | (at_builtin;refine bX rfl _ _ rfl w.heap.size _ _ n L rfl (HO.o.kept (ak _ _)) rfl (aL _ _ _) hlen' ?c2 ?_))
    case c2=>first | omega | (rw[jdi];omega)
    intro v' w2 o2 b2;have du:=ae o2;have aO:=ae ((HB.o.alloc bP _).trans b2);clear o2 b2;go_wp2_with fail;go_roundw
    case rel=>exact⟨j+1,by omega,by go_num,by rw[HT'.o];exact du.o,aO.o⟩
    case measure=>simp[intOf];omega
  ·have:j=l.length:=by omega
   subst this;have gL:¬ ((l.length:Nat):Int)<(l.length:Int):=(by omega);rw[jdp]at HO;go_wp2_with fail;go_ret
   exact⟨⟨_,rfl,HO.o⟩,HB.o⟩
theorem Ht{w:World}{v:Value}{l:List (Nat×Int×List Nat)}(hs:Sv w v (aJ l))(hl:l.length<=256)(hc:∀ c∈l,gj 2 c) :
  Calls Tryz.prog 129 #[v] w fun e w'=>(∃ v',e=.returned v'/\dD w' w.heap.size v' ((bT l).map fun c=>c.2.1.toNat))/\Below w.heap.size w w':=by
 have HS:=ae hs;have HC:=ae hc;obtain⟨a,cap,rfl,aY,bx⟩:=hs.form1;rw[aG]at *;have t1:=AA;have t2:=Gj;have hcm':cap<=9223372036854775807:=by unfold maxLen at bx;omega
 clear hs hc bx;go_enter Tryz.func129,Tryz.ntmps129
 go_wp2_with fail;go_loopw [3,10] (fun o i wr=>∃ j:Nat,j<=l.length/\i=.int .i64 (j:Int)/\dD wr w.heap.size o ((bT (l.take j)).map fun c=>c.2.1.toNat)/\Below w.heap.size w wr) (fun _ i _=>l.length-(intOf i).toNat)
 case atStart=>exact⟨0,by omega,rfl,dD.nil _ _,jdg _ _⟩
 case round =>
  obtain⟨j,hj,rfl,aA,az⟩:=hrel;have HO:=ae aA;have HB:=ae az;have bP:=az.size;clear aA az;by_cases aC:j<l.length
  ·obtain⟨b,off,rfl,hb,bq⟩:=HS.o.at1 (cM aC)
   have hcell':=(HB.o.cell (p:=⟨b,off+j,none⟩) hb).trans bq;have HT:=ae (fJ aC);have bR:=jj l j;have dR:=HC.o l[j] (jdl aC);have hlt':(j:Int)<(l.length:Int):=(by omega);clear bq;generalize l[j]=c at *;rcases dR with rfl | ⟨hk,_⟩ | ⟨_,n,rfl,hn⟩ | ⟨hk,_⟩
   ·simp only[nul,dh,if_true]at hcell'
    have HT':jfb (bT (l.take (j+1))=bT (l.take j)):=ae (by
     have:=HT.o;simpa [nul]using this)
    clear HT;go_wp2_with fail;go_roundw
    case rel=>exact⟨j+1,by omega,by go_num,by rw[HT'.o];exact HO.o,HB.o⟩
    case measure=>simp[intOf];omega
   ·omega
   ·simp only[dh,show (2:Nat)≠0 from by omega,show (2:Nat)≠1 from by omega,if_false,if_true]at hcell'
    have Pv:jfb (∀ W:World,Calls Tryz.prog 169 #[.bool (decide ((n:Int)=1))] W fun e w'=>e=.returned (.int .u64 (n:Int))/\w'=W):=ae (fun W=>by
     have:=xd (decide ((n:Int)=1)) W;obtain rfl | rfl:n=0∨n=1:=by omega
     ·exact this
     ·exact this)
    generalize decide ((n:Int)=1)=bb at *
    have HT':jfb ((bT (l.take (j+1))).map (fun c=>c.2.1.toNat)=((bT (l.take j)).map fun c=>c.2.1.toNat)++[n]):=ae (by
     have:=HT.o;simp only[show (2:Nat)≠0 from by omega,if_false]at this;rw[this,jdC];simp)
    have hlen':((bT (l.take j)).map fun c=>c.2.1.toNat).length<=100000:=by rw[jdk];omega
    clear HT;generalize ((bT (l.take j)).map fun c=>c.2.1.toNat)=L at *;go_wp2_with fail;refine(Pv.o _).mono ?_;rintro e wq ⟨rfl,rfl⟩;go_wp2_with (first | (at_builtin;refine jE rfl _ _ rfl w.heap.size _ _ n L rfl (HO.o.kept (ak _ _)) rfl (aL _ _ _) hlen' ?c2 ?_))
    case c2=>first | omega | (rw[jdi];omega)
    intro v' w2 o2 b2;have du:=ae o2;have aO:=ae ((HB.o.alloc bP _).trans b2);clear o2 b2;go_wp2_with fail;go_roundw
    case rel=>exact⟨j+1,by omega,by go_num,by rw[HT'.o];exact du.o,aO.o⟩
    case measure=>simp[intOf];omega
   ·omega
  ·have:j=l.length:=by omega
   subst this;have gL:¬ ((l.length:Nat):Int)<(l.length:Int):=(by omega);rw[jdp]at HO;go_wp2_with fail;go_ret
   exact⟨⟨_,rfl,HO.o⟩,HB.o⟩
theorem zJ{k:Nat}{l:List (Nat×Int×List Nat)}(h:¬ (1<=k/\k<=3/\∀ c∈l,c.1=0∨c.1=k)):(dS k l).2=10:=by
 unfold dS;rw[jde h]
theorem Hu{k:Nat}{l:List (Nat×Int×List Nat)}(hk:1<=k/\k<=3)(hf:∀ c∈l,aV c)(h:∀ c∈l,c.1=0∨c.1=k):(dS k l).2=if 256<l.length then 5 else 0:=by
 unfold dS;rw[jdf ⟨hk.1,hk.2,h⟩];by_cases h2:256<l.length
 ·rw[jde (by omega),jdf h2]
 ·rw[jdf ⟨by omega,fun c hc=>((hf c hc).cellk (h c hc)).short⟩,jde h2]
theorem aV.size{c:Nat×Int×List Nat}(h:aV c):c.1<=3/\c.2.2.length<=64:=by
 rcases h with rfl | ⟨n,rfl,_⟩ | ⟨n,rfl,_⟩ | ⟨s,rfl,hs,_⟩
 ·simp[nul]
 ·simp
 ·simp
 ·exact⟨by simp,hs⟩
theorem Hv{w:World}{v:Value}{l:List (Nat×Int×List Nat)}(hs:Sv w v (aJ l))(hf:∀ c∈l,aV c)(k:Nat) :
  Calls Tryz.prog 122 #[.int .u8 (k:Int),v] w fun e w'=>e=.returned (.int .i64 ((dS k l).2:Int))/\Below w.heap.size w w':=by
 have HS:=ae hs;have HF:=ae hf;obtain⟨a,cap,rfl,aY,bx⟩:=hs.form1;rw[aG]at *;have hcm':cap<=9223372036854775807:=by unfold maxLen at bx;omega
 have HK:=ae (ji k);by_cases hk:1<=k/\k<=3
 ·rw[jdy hk]at HK
  have HE:=ae (Hu (l:=l) hk hf);have HN:=ae (zJ (k:=k) (l:=l));clear hs hf bx hk
  have HL:jfb (decide ((l.length:Int) > 256)=decide (256<l.length)):=ae (by
   by_cases h:256<l.length
   ·rw[jdy h,jdy (by omega)]
   ·rw[jds h,jds (by omega)])
  go_enter Tryz.func122,Tryz.ntmps122
  go_wp2_with fail;refine(HK.o _).mono ?_;rintro e w1 ⟨rfl,rfl⟩;go_wp2_with fail;rw[HL.o];generalize Zh:decide (256<l.length)=lg;have YR:=ae Zh;clear Zh;go_loopw [5,18] (fun o i wr=>∃ j:Nat,j<=l.length/\o=.bool lg/\i=.int .i64 (j:Int)/\(∀ c∈l.take j,c.1=0∨c.1=k)/\Below w1.heap.size w1 wr) (fun _ i _=>l.length-(intOf i).toNat)
  case atStart=>exact⟨0,by omega,rfl,rfl,fun c hc=>by simp at hc,jdg _ _⟩
  case round =>
   obtain⟨j,hj,rfl,rfl,cW,az⟩:=hrel;have HA:=ae cW;have HB:=ae az;have bP:=az.size;clear cW az;by_cases aC:j<l.length
   ·obtain⟨b,off,rfl,hb,bq⟩:=HS.o.at1 (cM aC)
    have hcell':=(HB.o.cell (p:=⟨b,off+j,none⟩) hb).trans bq;have UD:=HF.o l[j] (jdl aC);have HM:=ae (jdl aC)
    have HT:jfb (∀ c,c∈l.take (j+1)->c∈l.take j∨c=l[j]):=ae (fun c hc=>by
     rw[jdx aC]at hc;rcases jdO.1 hc with h | h
     ·exact Or.inl h
     ·exact Or.inr (by simpa using h))
    have hlt':(j:Int)<(l.length:Int):=(by omega);obtain⟨Kw,hc64⟩:=UD.size;have hnot64:¬ 64<((am l[j].2.2).size:Int):=by rw[bm];omega
    have HV:=ae (fun W=>lF UD.val W);clear bq UD hc64;generalize l[j]=c at *;obtain⟨ck,cn,cs⟩:=c;simp only at *;generalize dh (ck,cn,cs)=vc at *;generalize am cs=S at *;by_cases h0:((ck:Int) != 0)=true
    ·by_cases h1:((ck:Int) != (k:Int))=true
     ·have HN':jfb ((dS k l).2=10):=ae (HN.o (fun h=>by
       have:=h.2.2 _ HM.o;simp at h0 h1 this
       omega))
      go_wp2_with fail;refine(HV.o _).mono ?_;rintro e w2 ⟨rfl,aE⟩;have aO:=ae aE;have bn:=aE.size;clear aE;go_wp2_with fail;go_ret
      rw[HN'.o];exact⟨rfl,(HB.o.trans (aO.o.mono bP)).alloc (by omega) _⟩
     ·have h1':((ck:Int) != (k:Int))=false:=by simpa using h1
      have dR:ck=k:=by
       have:(ck:Int)=(k:Int):=by simpa using h1
       omega
      have nf:=ae dR;clear h1 dR;go_wp2_with fail;refine(HV.o _).mono ?_;rintro e w2 ⟨rfl,aE⟩;have aO:=ae aE;have bn:=aE.size;clear aE;cases lg
      ·go_wp2_with fail
       go_roundw
       case rel=>exact⟨j+1,by omega,jdm Value.bool (jds (by omega)),by go_num,fun c hc=>(HT.o c hc).elim (HA.o c) (fun e=>by rw[e];exact Or.inr nf.o),(HB.o.trans (aO.o.mono bP)).alloc (by omega) _⟩
       case measure=>simp[intOf];omega
      ·go_wp2_with fail
       go_roundw
       case rel=>exact⟨j+1,by omega,rfl,by go_num,fun c hc=>(HT.o c hc).elim (HA.o c) (fun e=>by rw[e];exact Or.inr nf.o),(HB.o.trans (aO.o.mono bP)).alloc (by omega) _⟩
       case measure=>simp[intOf];omega
    ·have h0':((ck:Int) != 0)=false:=by simpa using h0
     have dR:ck=0:=by
      have:(ck:Int)=0:=by simpa using h0
      omega
     have nf:=ae dR;clear h0 dR;go_wp2_with fail;refine(HV.o _).mono ?_;rintro e w2 ⟨rfl,aE⟩;have aO:=ae aE;have bn:=aE.size;clear aE;cases lg
     ·go_wp2_with fail
      go_roundw
      case rel=>exact⟨j+1,by omega,jdm Value.bool (jds (by omega)),by go_num,fun c hc=>(HT.o c hc).elim (HA.o c) (fun e=>by rw[e];exact Or.inl nf.o),(HB.o.trans (aO.o.mono bP)).alloc (by omega) _⟩
      case measure=>simp[intOf];omega
     ·go_wp2_with fail
      go_roundw
      case rel=>exact⟨j+1,by omega,rfl,by go_num,fun c hc=>(HT.o c hc).elim (HA.o c) (fun e=>by rw[e];exact Or.inl nf.o),(HB.o.trans (aO.o.mono bP)).alloc (by omega) _⟩
      case measure=>simp[intOf];omega
   ·have:j=l.length:=by omega
    subst this;rw[jdp]at HA;have HE':=ae (HE.o HA.o);have gL:¬ ((l.length:Nat):Int)<(l.length:Int):=(by omega);cases lg
    ·have hn:¬ 256<l.length:=of_decide_eq_false YR.o
     rw[jde hn]at HE';go_wp2_with fail;go_ret
     rw[HE'.o];exact⟨rfl,HB.o⟩
    ·have hn:256<l.length:=of_decide_eq_true YR.o
     rw[jdf hn]at HE';go_wp2_with fail;go_ret
     rw[HE'.o];exact⟨rfl,HB.o⟩
 ·rw[jds hk]at HK
  have HN:jfb ((dS k l).2=10):=ae (zJ (fun h=>hk ⟨h.1,h.2.1⟩));clear hs hf bx hk;go_enter Tryz.func122,Tryz.ntmps122
  go_wp2_with fail;refine(HK.o _).mono ?_;rintro e w1 ⟨rfl,rfl⟩;go_wp2_with fail;go_ret
  rw[HN.o];exact⟨rfl,jdg _ _⟩
def stp(c:Nat):Nat:=c / 2 ^^^ (if c % 2=1 then 3988292384 else 0)
def ey:Nat->Nat->Nat
 | 0,c=>c
 | n+1,c=>ey n (stp c)
theorem SN{c:Nat}(h:c<4294967296):stp c<4294967296:=by
 have:stp c<2 ^ 32:=by
  unfold stp;apply je3
  ·omega
  ·split<;>omega
 omega
theorem WQ(a b:Nat):(a ^^^ b) % 2=(a+b) % 2:=by
 have h:(a ^^^ b).testBit 0=((a.testBit 0) ^^ (b.testBit 0)):=Nat.testBit_xor _ _ _;simp only[Nat.testBit_zero]at h;have ha:a % 2=0∨a % 2=1:=by omega
 have hb:b % 2=0∨b % 2=1:=by omega
 have hc:(a ^^^ b) % 2=0∨(a ^^^ b) % 2=1:=by omega
 generalize (a ^^^ b) % 2=z at *;rcases ha with ha | ha<;>rcases hb with hb | hb<;>rcases hc with hc | hc<;>simp[ha,hb,hc]at h<;>omega
theorem DW{a b:Nat}(h:a ^^^ b=0):a=b:=by
 have:=jdm (fun z=>z ^^^ b) h;simpa only[jen,Nat.xor_self,Nat.xor_zero,Nat.zero_xor]using this
theorem WR(a b:Nat):stp (a ^^^ b)=stp a ^^^ stp b:=by
 unfold stp;have h1:(a ^^^ b) / 2=a / 2 ^^^ b / 2:=Nat.xor_div_two;have h2:(a ^^^ b) % 2=(a+b) % 2:=WQ a b;rw[h1];have ha:a % 2=0∨a % 2=1:=by omega
 have hb:b % 2=0∨b % 2=1:=by omega
 rcases ha with ha | ha<;>rcases hb with hb | hb
 ·have h3:(a ^^^ b) % 2=0:=by omega
  simp[ha,hb,h3]
 ·have h3:(a ^^^ b) % 2=1:=by omega
  simp[ha,hb,h3,jen]
 ·have h3:(a ^^^ b) % 2=1:=by omega
  simp[ha,hb,h3,jen]
  rw[Nat.xor_comm (b / 2)]
 ·have h3:(a ^^^ b) % 2=0:=by omega
  simp only[ha,hb,h3];simp only[jdf,Nat.xor_zero,Nat.zero_ne_one,if_false];generalize 3988292384=p;rw[jen,Nat.xor_comm (b / 2) p,← jen p,Nat.xor_self,Nat.zero_xor]
theorem SO(x:Nat):stp (2*x)=x:=by
 unfold stp;rw[jde (by omega)];simp
theorem SP{c:Nat}(h:c<4294967296)(h0:stp c=0):c=0:=by
 unfold stp at h0;by_cases hc:c % 2=1
 ·rw[jdf hc]at h0
  have:c / 2=3988292384:=DW h0;omega
 ·rw[jde hc,Nat.xor_zero]at h0
  omega
theorem rp:∀(n:Nat) {c:Nat},c<4294967296->ey n c<4294967296
 | 0,_,h=>h
 | n+1,_,h=>rp n (SN h)
theorem rq:∀(n a b:Nat),ey n (a ^^^ b)=ey n a ^^^ ey n b
 | 0,_,_=>rfl
 | n+1,a,b=>by rw[ey,ey,ey,WR,rq n]
theorem nL:∀(m n c:Nat),ey (m+n) c=ey n (ey m c)
 | 0,n,c=>by rw[jdK];rfl
 | m+1,n,c=>by rw[Nat.add_right_comm,ey,ey,nL m n]
theorem Nh(n c:Nat):ey (n+1) c=stp (ey n c):=nL n 1 c
theorem mD:∀(n x:Nat),ey n (2 ^ n*x)=x
 | 0,x=>by simp[ey]
 | n+1,x=>by
  rw[ey,Nat.pow_succ,jdP (2 ^ n) 2,jev,SO,mD n]
theorem zK:∀(n:Nat) {c:Nat},c<4294967296->ey n c=0->c=0
 | 0,_,_,h0=>h0
 | n+1,_,h,h0=>SP h (zK n (SN h) h0)
theorem ke{a r n:Nat}(h:a<2 ^ n):a+2 ^ n*r=a ^^^ (2 ^ n*r):=by
 apply Nat.eq_of_testBit_eq
 intro i;rw[Nat.testBit_xor,Nat.add_comm,Nat.testBit_two_pow_mul_add _ h,Nat.testBit_two_pow_mul];by_cases hi:i<n
 ·rw[jdf hi]
  simp[show ¬ n<=i by omega]
 ·rw[jde hi]
  have h1:a.testBit i=false:=Nat.testBit_lt_two_pow (jdD h (jew (by omega) (by omega)));simp[h1,show n<=i by omega]
theorem Nj(n c:Nat):ey n c=ey n (c % 2 ^ n) ^^^ c / 2 ^ n:=by
 have h:c=c % 2 ^ n ^^^ (2 ^ n*(c / 2 ^ n)):=by
  rw[← ke (Nat.mod_lt _ (jea n))];exact(Nat.mod_add_div c (2 ^ n)).symm
 conv=>lhs;rw[h]
 rw[rq,mD]
def byt(c x:Nat):Nat:=ey 8 (c ^^^ x)
def run(c:Nat)(b:List Nat):Nat:=b.foldl byt c
def mZ(c:Nat)(b:List Nat):Nat:=run (c ^^^ 4294967295) b ^^^ 4294967295
theorem DX(c x:Nat)(b:List Nat):run c (x::b)=run (byt c x) b:=rfl
theorem Hw(c:Nat)(a b:List Nat):run c (a++b)=run (run c a) b:=List.foldl_append
theorem SQ(c x:Nat)(b:List Nat):run c (b++[x])=byt (run c b) x:=by rw[Hw];rfl
theorem kA{a b:Nat}(ha:a<4294967296)(hb:b<4294967296):a ^^^ b<4294967296:=by
 have:a ^^^ b<2 ^ 32:=je3 (by omega) (by omega);omega
theorem jaA{c x:Nat}(h:c<4294967296)(hx:x<256):byt c x<4294967296:=rp 8 (kA h (by omega))
theorem sV:∀{b:List Nat} {c:Nat},c<4294967296->(∀ x∈b,x<256)->run c b<4294967296
 | [],_,h,_=>h
 | x::b,c,h,hb=>by
  rw[DX];exact sV (jaA h (hb x (by simp))) fun y hy=>hb y (by simp[hy])
theorem uY{b:List Nat}{c:Nat}(h:c<4294967296)(hb:∀ x∈b,x<256):mZ c b<4294967296:=kA (sV (kA h (by omega)) hb) (by omega)
theorem SR(a p:Nat):a ^^^ p ^^^ p=a:=by rw[jen,Nat.xor_self,Nat.xor_zero]
def leN:List Nat->Nat
 | []=>0
 | x::b=>x+256*leN b
theorem Hx:∀{b:List Nat},(∀ x∈b,x<256)->leN b<2 ^ (8*b.length)
 | [],_=>by simp[leN]
 | x::b,h=>by
  have h1:=Hx (b:=b) fun y hy=>h y (by simp[hy])
  have h2:=h x (by simp);rw[leN,jdn,jep,jeh];omega
theorem Bi:∀{b:List Nat} (c:Nat),(∀ x∈b,x<256)->run c b=ey (8*b.length) (c ^^^ leN b)
 | [],c,_=>by simp[run,leN,ey]
 | x::b,c,h=>by
  have hx:x<2 ^ 8:=h x (by simp);rw[DX,Bi (byt c x) fun y hy=>h y (by simp[hy]),jdn,jep,Nat.add_comm (8*b.length),nL,leN];congr 1
  have e:x+256*leN b=x ^^^ (2 ^ 8*leN b):=ke hx;rw[e,← jen,rq,mD];rfl
theorem Nk{a b:List Nat}{c X f:Nat}(ha:∀ x∈a,x<256)(hb:∀ x∈b,x<256)(hl:a.length=b.length)(hX:X<4294967296)(hf:f<=8*a.length)
  (h:leN b=leN a ^^^ (2 ^ f*X)) (he:run c a=run c b):X=0:=by
 rw[Bi c ha,Bi c hb,← hl,h,← jen,rq _ (c ^^^ leN a)]at he
 have h0:ey (8*a.length) (2 ^ f*X)=0:=by
  have:=jdm (fun z=>ey (8*a.length) (c ^^^ leN a) ^^^ z) he;simp only[Nat.xor_self,← jen,Nat.zero_xor]at this;exact this.symm
 rw[show 8*a.length=f+(8*a.length-f) by omega,nL,mD]at h0;exact zK _ hX h0
theorem Hy{a b:List Nat}{c X f:Nat}(ha:∀ x∈a,x<256)(hb:∀ x∈b,x<256)(hl:a.length=b.length)(hX:X<4294967296)(hf:f<=8*a.length)
  (h:leN b=leN a ^^^ (2 ^ f*X)) (he:mZ c a=mZ c b):X=0:=by
 refine Nk (c:=c ^^^ 4294967295) ha hb hl hX hf h ?_;have:=jdm (fun z=>z ^^^ 4294967295) he;unfold mZ at this;simpa only[SR]using this
theorem Ll:∀{b:List Nat} {j y:Nat} (hj:j<b.length),(∀ x∈b,x<256)->y<256->leN (b.set j (b[j] ^^^ y))=leN b ^^^ (2 ^ (8*j)*y)
 | [],j,y,hj,_,_=>by simp at hj
 | x::b,0,y,_,h,hy=>by
  have hx:x<2 ^ 8:=h x (by simp);have Ct:x ^^^ y<2 ^ 8:=je3 hx hy;simp only[jdr,jeV,leN];have e1:x+256*leN b=x ^^^ (2 ^ 8*leN b):=ke hx;have e2:(x ^^^ y)+256*leN b=(x ^^^ y) ^^^ (2 ^ 8*leN b):=ke Ct;rw[e1,e2,Nat.mul_zero,Nat.pow_zero,jem,jen,Nat.xor_comm y,← jen]
 | x::b,j+1,y,hj,h,hy=>by
  have hx:x<2 ^ 8:=h x (by simp);have ih:=Ll (b:=b) (j:=j) (y:=y) (by simpa using hj) (fun z hz=>h z (by simp[hz])) hy;simp only[jdu,List.getElem_cons_succ,leN];rw[ih];have e1:x+256*leN b=x ^^^ (2 ^ 8*leN b):=ke hx;have e2:x+256*(leN b ^^^ 2 ^ (8*j)*y)=x ^^^ (2 ^ 8*(leN b ^^^ 2 ^ (8*j)*y)):=ke hx;rw[e1,e2,jen];congr 1
  have e3:2 ^ 8*(leN b ^^^ 2 ^ (8*j)*y)=2 ^ 8*leN b ^^^ 2 ^ 8*(2 ^ (8*j)*y):=by
   apply Nat.eq_of_testBit_eq
   intro i;simp only[Nat.testBit_xor,Nat.testBit_two_pow_mul];cases decide (i>=8)<;>simp
  rw[e3,← jev,← jeh,jep,Nat.add_comm 8]
def le4(s:Nat):List Nat:=[s % 256,s / 256 % 256,s / 65536 % 256,s / 16777216 % 256]
theorem sW(s:Nat):∀ x∈le4 s,x<256:=by
 intro x hx;simp[le4]at hx
 omega
theorem Bj{s:Nat}(h:s<4294967296):leN (le4 s)=s:=by
 simp[le4,leN]
 omega
theorem WS{s t:Nat}(hs:s<4294967296)(ht:t<4294967296)(h:le4 s=le4 t):s=t:=by
 rw[← Bj hs,← Bj ht,h]
def bL(b:List Nat):List Nat:=b++le4 (mZ 0 b)
theorem kf(b:List Nat):(bL b).length=b.length+4:=by simp[bL,le4]
def et(b:List Nat):Option (List Nat) :=
 if 4<=b.length/\bL (b.take (b.length-4))=b then some (b.take (b.length-4)) else none
theorem Hz(b:List Nat):et (bL b)=some b:=by
 unfold et
 have h:(bL b).take ((bL b).length-4)=b:=by
  rw[kf,je9];unfold bL;rw[jec]
 rw[h,jdf ⟨by rw[kf];omega,rfl⟩]
theorem Bk{b:List Nat}{j y:Nat}(hb:∀ x∈b,x<256)(hj:j<(bL b).length)(hy:y<256)(h0:y≠0):et ((bL b).set j ((bL b)[j] ^^^ y))=none:=by
 unfold et;rw[jde];rintro⟨_,h⟩;have ft:=kf b;rw[jeC,ft,je9]at h
 have hsb:∀ x∈bL b,x<256:=by
  intro x hx;rcases jdO.1 hx with hx | hx
  ·exact hb x hx
  ·exact sW _ x hx
 have hv:(bL b)[j] ^^^ y<256:=by
  have:(bL b)[j] ^^^ y<2 ^ 8:=je3 (hsb _ (jdl hj)) hy;omega
 have fQ:(bL b)[j] ^^^ y≠(bL b)[j]:=by
  intro e;have:=jdm (fun z=>(bL b)[j] ^^^ z) e;simp only[← jen,Nat.xor_self,Nat.zero_xor]at this;exact h0 this
 by_cases YT:j<b.length
 ·have e1:(bL b).set j ((bL b)[j] ^^^ y)=b.set j (b[j] ^^^ y)++le4 (mZ 0 b):=by
   have hg:(bL b)[j]=b[j]:=je6 YT;rw[hg];unfold bL;rw[List.set_append_left _ _ YT]
  have fO:(b.set j (b[j] ^^^ y)).length=b.length:=jeC;rw[e1,List.take_append_of_le_length (by rw[fO];exact jdh _),jdZ (by rw[fO];exact jdh _)]at h;unfold bL at h;have h2:=List.append_cancel_left h
  have aE:∀ x∈b.set j (b[j] ^^^ y),x<256:=by
   intro x hx;rcases List.mem_or_eq_of_mem_set hx with hx | rfl
   ·exact hb x hx
   ·have:b[j] ^^^ y<2 ^ 8:=je3 (hb _ (jdl YT)) hy
    omega
  have h3:=WS (uY (by omega) aE) (uY (by omega) hb) h2;exact h0 (Hy (c:=0) (X:=y) (f:=8*j) hb aE fO.symm (by omega) (by omega) (Ll YT hb hy) h3.symm)
 ·have e1:((bL b).set j ((bL b)[j] ^^^ y)).take b.length=b:=by
   rw[List.take_set_of_le (by omega)];unfold bL;rw[jec]
  rw[e1]at h;have:=jdm (fun l:List Nat=>l[j]?) h;simp only[List.getElem?_set_self hj,List.getElem?_eq_getElem hj,Option.some.injEq]at this;exact fQ this.symm
end Go.Proofs.YtpljdjmpamjkhaaGreatDoor
