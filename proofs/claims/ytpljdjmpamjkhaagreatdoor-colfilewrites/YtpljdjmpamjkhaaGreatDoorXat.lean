import Derived.Test.YtpljdjmpamjkhaaGreatDoorXas
set_option linter.unusedVariables false
set_option linter.unusedSimpArgs false
set_option maxRecDepth 100000
set_option maxHeartbeats 2000000
namespace Go.Proofs.YtpljdjmpamjkhaaGreatDoor
open Go.RowKit Go.Lib
theorem YZ:(Tryz.prog.info? 9).map (fun i=>(i.zero,i.size,i.bytes))=some (some (.string ⟨#[]⟩),1,16):=by kernel_rfl
theorem bY{w:World}{ops:Array Oper}{rest:List Oper}{o:Oper}{a:Act}{Q:Exit->Act->World->Prop}(ex:o.guard=none)(s x:Operand)
  (ho:o.op=.call { callee:=.builtin .append,args:=#[s,x],argTypes:=#[144,144] })
  (base:Nat) (v:Value) (g:Nat) (z:List Nat) (l0:List (List Nat)) (hs:a.eval s=v) (aA:eF w base v l0) (hx:a.eval x=.slice (some ⟨g,0,none⟩) 1 1) (hc:w.cell? ⟨g,0,none⟩=some (txt z))
  (hbytes:l0.length<=100000) (aJ:base<=w.heap.size)
  (h:∀ v' w',eF w' base v' (l0++[z])->Below base w w'->wpList Tryz.prog ops Q rest (a.put o.dst v') w') :
  wpList Tryz.prog ops Q (o::rest) a w:=by
 obtain⟨i0,hi,ct,hz1',bv⟩:=jdP YZ;unfold eF at *
 refine jeb (w:=w) ex s x 144 ho base 9 i0 (.string ⟨#[]⟩) 1 16 Tryz.underlying144 hi ct hz1' bv rfl (by decide) v l0.length (cC l0) hs aA ⟨g,0,none⟩ 1 1 [txt z] hx rfl ?_ (fun u hu=>by
  have:u=txt z:=by simpa using hu
  subst this;rfl) (by unfold maxLen;omega) (by omega) aJ ?_
 ·intro j u hu
  rw[mv];cases j with
  | zero =>
   simp only[List.getElem?_cons_zero,Option.some.injEq]at hu;rw[← hu];exact hc
  | succ j=>simp at hu
 ·intro v' w' o1 g1 _ _
  refine h v' w' ?_ ((jdv base w).grown g1 aJ (fun k hk=>(aA.lt k hk).1));rw[pt,jdy];exact o1
theorem kg{l:List Int}(hl:l.length<=256):DR l=cQ l:=jdu hl
theorem sS{w:World}{v:Value}{l:List Int}(hs:Sv w v (aL l))(hl:l.length<=256)(hi:Is l):Calls Tryz.prog 126 #[v] w (dw w (cQ l)):=by
 have HB:=ae (Te hs hi);rw[kg hl]at HB;clear hs hi;generalize cQ l=bs at *;go_enter Tryz.func126,Tryz.ntmps126
 go_wp2_with fail;refine HB.o.mono ?_;rintro e w1 ⟨⟨v1,rfl,eH⟩,aH⟩;have eY:=ae eH;have aQ:=ae aH;clear eH aH;go_wp2_with fail;go_ret
 exact⟨⟨_,rfl,eY.o⟩,aQ.o⟩
theorem zF{w:World}{v:Value}{l:List Nat}(hs:Sv w v (aF .u64 l))(h2:∀ x∈l,x<2):Calls Tryz.prog 128 #[v] w (dw w (bi l 1)):=by
 have HB:=ae (zh hs.sx (fun x hx=>by have:=h2 x hx;omega) 1);clear hs h2;generalize bi l 1=bs at *;generalize can l 1=bb at *;go_enter Tryz.func128,Tryz.ntmps128
 go_wp2_with fail;refine HB.o.mono ?_;rintro e w1 ⟨v1,rfl,eH,aH⟩;have eY:=ae eH;have aQ:=ae aH;clear eH aH;go_wp2_with fail;go_ret
 exact⟨⟨_,rfl,eY.o⟩,aQ.o⟩
theorem wV(b:Bool)(w:World):Calls Tryz.prog 169 #[.bool b] w fun e w'=>e=.returned (.int .u64 (if b then 1 else 0))/\w'=w:=by
 cases b
 all_goals
  go_enter Tryz.func169,Tryz.ntmps169
  go_wp2;go_ret
  exact⟨rfl,rfl⟩
theorem jg(k:Nat)(w:World):Calls Tryz.prog 167 #[.int .u8 (k:Int)] w fun e w'=>e=.returned (.bool (decide (1<=k/\k<=3)))/\w'=w:=by
 by_cases h1:((k:Int)==1)=true
 ·have hk:k=1:=by have:(k:Int)=1:=(by simpa using h1);omega
  subst hk;go_enter Tryz.func167,Tryz.ntmps167
  go_wp2;go_ret
  exact⟨rfl,rfl⟩
 ·by_cases h2:((k:Int)==2)=true
  ·have hk:k=2:=by have:(k:Int)=2:=(by simpa using h2);omega
   subst hk;go_enter Tryz.func167,Tryz.ntmps167
   go_wp2;go_ret
   exact⟨rfl,rfl⟩
  ·by_cases h3:((k:Int)==3)=true
   ·have hk:k=3:=by have:(k:Int)=3:=(by simpa using h3);omega
    subst hk;go_enter Tryz.func167,Tryz.ntmps167
    go_wp2;go_ret
    exact⟨rfl,rfl⟩
   ·have h1':((k:Int)==1)=false:=by simpa using h1
    have h2':((k:Int)==2)=false:=by simpa using h2
    have h3':((k:Int)==3)=false:=by simpa using h3
    have HN:jfp (decide (1<=k/\k<=3)=false):=ae (by
     have a1:(k:Int)≠1:=by simpa using h1
     have a2:(k:Int)≠2:=by simpa using h2
     have a3:(k:Int)≠3:=by simpa using h3
     exact jdK (by omega))
    rw[HN.o];clear h1 h2 h3;go_enter Tryz.func167,Tryz.ntmps167
    go_wp2;go_ret
    exact⟨rfl,rfl⟩
theorem gA.fine{k:Nat}{c:Nat×Int×List Nat}(h:gA k c):aT c:=by
 rcases h with h | ⟨_,h⟩ | ⟨_,h⟩ | ⟨_,h⟩
 ·exact Or.inl h
 ·exact Or.inr (Or.inl h)
 ·exact Or.inr (Or.inr (Or.inl h))
 ·exact Or.inr (Or.inr (Or.inr h))
theorem aT.cellk{k:Nat}{c:Nat×Int×List Nat}(h:aT c)(hk:c.1=0∨c.1=k):gA k c:=by
 rcases h with h | ⟨n,rfl,h⟩ | ⟨n,rfl,h⟩ | ⟨n,rfl,h⟩
 ·exact Or.inl h
 ·have:k=1:=by simp at hk;omega
  exact Or.inr (Or.inl ⟨this,n,rfl,h⟩)
 ·have:k=2:=by simp at hk;omega
  exact Or.inr (Or.inr (Or.inl ⟨this,n,rfl,h⟩))
 ·have:k=3:=by simp at hk;omega
  exact Or.inr (Or.inr (Or.inr ⟨this,n,rfl,h⟩))
theorem fO{l:List (Nat×Int×List Nat)}{j:Nat}(h:j<l.length):bS (l.take (j+1))=bS (l.take j)++(if l[j].1=0 then [] else [l[j]]):=by
 unfold bS;rw[jdM h,je6];congr 1
 by_cases h0:l[j].1=0
 ·simp[h0]
 ·simp[h0]
theorem jh(l:List (Nat×Int×List Nat))(j:Nat):(bS (l.take j)).length<=l.length:=by
 have:=ia (l.take j);rw[jdC]at this;omega
theorem Hv{w:World}{v:Value}{l:List (Nat×Int×List Nat)}(hs:Sv w v (aI l))(hl:l.length<=256)(hc:∀ c∈l,gA 1 c) :
  Calls Tryz.prog 127 #[v] w fun e w'=>(∃ v',e=.returned v'/\bC w' w.heap.size v' ((bS l).map fun c=>c.2.1))/\Below w.heap.size w w':=by
 have HS:=ae hs;have HC:=ae hc;obtain⟨a,cap,rfl,aW,bw⟩:=hs.form1;rw[aG]at *;have t1:=Av;have t2:=Gk;have hcm':cap<=9223372036854775807:=by unfold maxLen at bw;omega
 clear hs hc bw;go_enter Tryz.func127,Tryz.ntmps127
 go_wp2_with fail;go_loopw [3,10] (fun o i wr=>∃ j:Nat,j<=l.length/\i=.int .i64 (j:Int)/\bC wr w.heap.size o ((bS (l.take j)).map fun c=>c.2.1)/\Below w.heap.size w wr) (fun _ i _=>l.length-(intOf i).toNat)
 case atStart=>exact⟨0,by omega,rfl,bC.nil _ _,jdv _ _⟩
 case round =>
  obtain⟨j,hj,rfl,aA,az⟩:=hrel;have HO:=ae aA;have HB:=ae az;have bF:=az.size;clear aA az;by_cases aB:j<l.length
  ·obtain⟨b,off,rfl,hb,br⟩:=HS.o.at1 (cN aB)
   have hcell':=(HB.o.cell (p:=⟨b,off+j,none⟩) hb).trans br;have HT:=ae (fO aB);have bR:=jh l j;have ek:=HC.o l[j] (jdA aB);have hlt':(j:Int)<(l.length:Int):=(by omega);clear br;generalize l[j]=c at *;rcases ek with rfl | ⟨_,n,rfl,hn⟩ | ⟨hk,_⟩ | ⟨hk,_⟩
   ·simp only[nul,cY,if_true]at hcell'
    have HT':jfp (bS (l.take (j+1))=bS (l.take j)):=ae (by
     have:=HT.o;simpa [nul]using this)
    clear HT;go_wp2_with fail;go_roundw
    case rel=>exact⟨j+1,by omega,by go_num,by rw[HT'.o];exact HO.o,HB.o⟩
    case measure=>simp[intOf];omega
   ·simp only[cY]at hcell'
    have HT':jfp ((bS (l.take (j+1))).map (fun c=>c.2.1)=((bS (l.take j)).map fun c=>c.2.1)++[n]):=ae (by
     have:=HT.o;simp only[show (1:Nat)≠0 from by omega,if_false]at this;rw[this,jdQ];rfl)
    have hlen':((bS (l.take j)).map fun c=>c.2.1).length<=100000:=by rw[jdz];omega
    clear HT;generalize ((bS (l.take j)).map fun c=>c.2.1)=L at *;go_wp2_with (first | (at_builtin;refine aY rfl _ _ rfl w.heap.size _ _ n L rfl (HO.o.kept (am _ _)) rfl (aK _ _ _) hlen' ?c2 ?_))
    case c2=>first | omega | (rw[jdx];omega)
    intro v' w2 o2 b2;have du:=ae o2;have aO:=ae ((HB.o.alloc bF _).trans b2);clear o2 b2;go_wp2_with fail;go_roundw
    case rel=>exact⟨j+1,by omega,by go_num,by rw[HT'.o];exact du.o,aO.o⟩
    case measure=>simp[intOf];omega
   ·omega
   ·omega
  ·have:j=l.length:=by omega
   subst this;have gj:¬ ((l.length:Nat):Int)<(l.length:Int):=(by omega);rw[jdE]at HO;go_wp2_with fail;go_ret
   exact⟨⟨_,rfl,HO.o⟩,HB.o⟩
theorem Hw{w:World}{v:Value}{l:List (Nat×Int×List Nat)}(hs:Sv w v (aI l))(hl:l.length<=256)(hc:∀ c∈l,gA 3 c) :
  Calls Tryz.prog 131 #[v] w fun e w'=>(∃ v',e=.returned v'/\eF w' w.heap.size v' ((bS l).map fun c=>c.2.2))/\Below w.heap.size w w':=by
 have HS:=ae hs;have HC:=ae hc;obtain⟨a,cap,rfl,aW,bw⟩:=hs.form1;rw[aG]at *;have t1:=Ax;have t2:=Gm;have hcm':cap<=9223372036854775807:=by unfold maxLen at bw;omega
 clear hs hc bw;go_enter Tryz.func131,Tryz.ntmps131
 go_wp2_with fail;go_loopw [3,10] (fun o i wr=>∃ j:Nat,j<=l.length/\i=.int .i64 (j:Int)/\eF wr w.heap.size o ((bS (l.take j)).map fun c=>c.2.2)/\Below w.heap.size w wr) (fun _ i _=>l.length-(intOf i).toNat)
 case atStart=>exact⟨0,by omega,rfl,eF.nil _ _,jdv _ _⟩
 case round =>
  obtain⟨j,hj,rfl,aA,az⟩:=hrel;have HO:=ae aA;have HB:=ae az;have bF:=az.size;clear aA az;by_cases aB:j<l.length
  ·obtain⟨b,off,rfl,hb,br⟩:=HS.o.at1 (cN aB)
   have hcell':=(HB.o.cell (p:=⟨b,off+j,none⟩) hb).trans br;have HT:=ae (fO aB);have bR:=jh l j;have ek:=HC.o l[j] (jdA aB);have hlt':(j:Int)<(l.length:Int):=(by omega);clear br;generalize l[j]=c at *;rcases ek with rfl | ⟨hk,_⟩ | ⟨hk,_⟩ | ⟨_,n,rfl,hn⟩
   ·simp only[nul,cY,if_true]at hcell'
    have HT':jfp (bS (l.take (j+1))=bS (l.take j)):=ae (by
     have:=HT.o;simpa [nul]using this)
    clear HT;go_wp2_with fail;go_roundw
    case rel=>exact⟨j+1,by omega,by go_num,by rw[HT'.o];exact HO.o,HB.o⟩
    case measure=>simp[intOf];omega
   ·omega
   ·omega
   ·simp only[cY,dJ,show (3:Nat)≠0 from by omega,show (3:Nat)≠1 from by omega,show (3:Nat)≠2 from by omega,if_false]at hcell'
    have HT':jfp ((bS (l.take (j+1))).map (fun c=>c.2.2)=((bS (l.take j)).map fun c=>c.2.2)++[n]):=ae (by
     have:=HT.o;simp only[show (3:Nat)≠0 from by omega,if_false]at this;rw[this,jdQ];rfl)
    have hlen':((bS (l.take j)).map fun c=>c.2.2).length<=100000:=by rw[jdz];omega
    clear HT;generalize ((bS (l.take j)).map fun c=>c.2.2)=L at *;go_wp2_with (first | (at_builtin;refine bY rfl _ _ rfl w.heap.size _ _ n L rfl (HO.o.kept (am _ _)) rfl (aK _ _ _) hlen' ?c2 ?_))
    case c2=>first | omega | (rw[jdx];omega)
    intro v' w2 o2 b2;have du:=ae o2;have aO:=ae ((HB.o.alloc bF _).trans b2);clear o2 b2;go_wp2_with fail;go_roundw
    case rel=>exact⟨j+1,by omega,by go_num,by rw[HT'.o];exact du.o,aO.o⟩
    case measure=>simp[intOf];omega
  ·have:j=l.length:=by omega
   subst this;have gj:¬ ((l.length:Nat):Int)<(l.length:Int):=(by omega);rw[jdE]at HO;go_wp2_with fail;go_ret
   exact⟨⟨_,rfl,HO.o⟩,HB.o⟩
theorem Hx{w:World}{v:Value}{l:List (Nat×Int×List Nat)}(hs:Sv w v (aI l))(hl:l.length<=256)(hc:∀ c∈l,gA 2 c) :
  Calls Tryz.prog 129 #[v] w fun e w'=>(∃ v',e=.returned v'/\dH w' w.heap.size v' ((bS l).map fun c=>c.2.1.toNat))/\Below w.heap.size w w':=by
 have HS:=ae hs;have HC:=ae hc;obtain⟨a,cap,rfl,aW,bw⟩:=hs.form1;rw[aG]at *;have t1:=Aw;have t2:=Gl;have hcm':cap<=9223372036854775807:=by unfold maxLen at bw;omega
 clear hs hc bw;go_enter Tryz.func129,Tryz.ntmps129
 go_wp2_with fail;go_loopw [3,10] (fun o i wr=>∃ j:Nat,j<=l.length/\i=.int .i64 (j:Int)/\dH wr w.heap.size o ((bS (l.take j)).map fun c=>c.2.1.toNat)/\Below w.heap.size w wr) (fun _ i _=>l.length-(intOf i).toNat)
 case atStart=>exact⟨0,by omega,rfl,dH.nil _ _,jdv _ _⟩
 case round =>
  obtain⟨j,hj,rfl,aA,az⟩:=hrel;have HO:=ae aA;have HB:=ae az;have bF:=az.size;clear aA az;by_cases aB:j<l.length
  ·obtain⟨b,off,rfl,hb,br⟩:=HS.o.at1 (cN aB)
   have hcell':=(HB.o.cell (p:=⟨b,off+j,none⟩) hb).trans br;have HT:=ae (fO aB);have bR:=jh l j;have ek:=HC.o l[j] (jdA aB);have hlt':(j:Int)<(l.length:Int):=(by omega);clear br;generalize l[j]=c at *;rcases ek with rfl | ⟨hk,_⟩ | ⟨_,n,rfl,hn⟩ | ⟨hk,_⟩
   ·simp only[nul,cY,if_true]at hcell'
    have HT':jfp (bS (l.take (j+1))=bS (l.take j)):=ae (by
     have:=HT.o;simpa [nul]using this)
    clear HT;go_wp2_with fail;go_roundw
    case rel=>exact⟨j+1,by omega,by go_num,by rw[HT'.o];exact HO.o,HB.o⟩
    case measure=>simp[intOf];omega
   ·omega
   ·simp only[cY,show (2:Nat)≠0 from by omega,show (2:Nat)≠1 from by omega,if_false,if_true]at hcell'
    have PM:jfp (∀ W:World,Calls Tryz.prog 169 #[.bool (decide ((n:Int)=1))] W fun e w'=>e=.returned (.int .u64 (n:Int))/\w'=W):=ae (fun W=>by
     have:=wV (decide ((n:Int)=1)) W;obtain rfl | rfl:n=0∨n=1:=by omega
     ·exact this
     ·exact this)
    generalize decide ((n:Int)=1)=bb at *
    have HT':jfp ((bS (l.take (j+1))).map (fun c=>c.2.1.toNat)=((bS (l.take j)).map fun c=>c.2.1.toNat)++[n]):=ae (by
     have:=HT.o;simp only[show (2:Nat)≠0 from by omega,if_false]at this;rw[this,jdQ];simp)
    have hlen':((bS (l.take j)).map fun c=>c.2.1.toNat).length<=100000:=by rw[jdz];omega
    clear HT;generalize ((bS (l.take j)).map fun c=>c.2.1.toNat)=L at *;go_wp2_with fail;refine(PM.o _).mono ?_;rintro e wq ⟨rfl,rfl⟩;go_wp2_with (first | (at_builtin;refine jF rfl _ _ rfl w.heap.size _ _ n L rfl (HO.o.kept (am _ _)) rfl (aK _ _ _) hlen' ?c2 ?_))
    case c2=>first | omega | (rw[jdx];omega)
    intro v' w2 o2 b2;have du:=ae o2;have aO:=ae ((HB.o.alloc bF _).trans b2);clear o2 b2;go_wp2_with fail;go_roundw
    case rel=>exact⟨j+1,by omega,by go_num,by rw[HT'.o];exact du.o,aO.o⟩
    case measure=>simp[intOf];omega
   ·omega
  ·have:j=l.length:=by omega
   subst this;have gj:¬ ((l.length:Nat):Int)<(l.length:Int):=(by omega);rw[jdE]at HO;go_wp2_with fail;go_ret
   exact⟨⟨_,rfl,HO.o⟩,HB.o⟩
theorem zG{k:Nat}{l:List (Nat×Int×List Nat)}(h:¬ (1<=k/\k<=3/\∀ c∈l,c.1=0∨c.1=k)):(dU k l).2=10:=by
 unfold dU;rw[jdt h]
theorem Hy{k:Nat}{l:List (Nat×Int×List Nat)}(hk:1<=k/\k<=3)(hf:∀ c∈l,aT c)(h:∀ c∈l,c.1=0∨c.1=k):(dU k l).2=if 256<l.length then 5 else 0:=by
 unfold dU;rw[jdu ⟨hk.1,hk.2,h⟩];by_cases h2:256<l.length
 ·rw[jdt (by omega),jdu h2]
 ·rw[jdu ⟨by omega,fun c hc=>((hf c hc).cellk (h c hc)).short⟩,jdt h2]
theorem aT.size{c:Nat×Int×List Nat}(h:aT c):c.1<=3/\c.2.2.length<=64:=by
 rcases h with rfl | ⟨n,rfl,_⟩ | ⟨n,rfl,_⟩ | ⟨s,rfl,hs,_⟩
 ·simp[nul]
 ·simp
 ·simp
 ·exact⟨by simp,hs⟩
theorem Hz{w:World}{v:Value}{l:List (Nat×Int×List Nat)}(hs:Sv w v (aI l))(hf:∀ c∈l,aT c)(k:Nat) :
  Calls Tryz.prog 122 #[.int .u8 (k:Int),v] w fun e w'=>e=.returned (.int .i64 ((dU k l).2:Int))/\Below w.heap.size w w':=by
 have HS:=ae hs;have HF:=ae hf;obtain⟨a,cap,rfl,aW,bw⟩:=hs.form1;rw[aG]at *;have hcm':cap<=9223372036854775807:=by unfold maxLen at bw;omega
 have HK:=ae (jg k);by_cases hk:1<=k/\k<=3
 ·rw[jdO hk]at HK
  have HE:=ae (Hy (l:=l) hk hf);have HN:=ae (zG (k:=k) (l:=l));clear hs hf bw hk
  have HL:jfp (decide ((l.length:Int) > 256)=decide (256<l.length)):=ae (by
   by_cases h:256<l.length
   ·rw[jdO h,jdO (by omega)]
   ·rw[jdK h,jdK (by omega)])
  go_enter Tryz.func122,Tryz.ntmps122
  go_wp2_with fail;refine(HK.o _).mono ?_;rintro e w1 ⟨rfl,rfl⟩;go_wp2_with fail;rw[HL.o];generalize Zv:decide (256<l.length)=lg;have Zi:=ae Zv;clear Zv;go_loopw [5,18] (fun o i wr=>∃ j:Nat,j<=l.length/\o=.bool lg/\i=.int .i64 (j:Int)/\(∀ c∈l.take j,c.1=0∨c.1=k)/\Below w1.heap.size w1 wr) (fun _ i _=>l.length-(intOf i).toNat)
  case atStart=>exact⟨0,by omega,rfl,rfl,fun c hc=>by simp at hc,jdv _ _⟩
  case round =>
   obtain⟨j,hj,rfl,rfl,cX,az⟩:=hrel;have HA:=ae cX;have HB:=ae az;have bF:=az.size;clear cX az;by_cases aB:j<l.length
   ·obtain⟨b,off,rfl,hb,br⟩:=HS.o.at1 (cN aB)
    have hcell':=(HB.o.cell (p:=⟨b,off+j,none⟩) hb).trans br;have UU:=HF.o l[j] (jdA aB);have HM:=ae (jdA aB)
    have HT:jfp (∀ c,c∈l.take (j+1)->c∈l.take j∨c=l[j]):=ae (fun c hc=>by
     rw[jdM aB]at hc;rcases jd2.1 hc with h | h
     ·exact Or.inl h
     ·exact Or.inr (by simpa using h))
    have hlt':(j:Int)<(l.length:Int):=(by omega);obtain⟨Qw,hc64⟩:=UU.size;have hnot64:¬ 64<((ak l[j].2.2).size:Int):=by rw[bg];omega
    have HV:=ae (fun W=>lK UU.val W);clear br UU hc64;generalize l[j]=c at *;obtain⟨ck,cn,cs⟩:=c;simp only at *;generalize cY (ck,cn,cs)=vc at *;generalize ak cs=S at *;by_cases h0:((ck:Int) != 0)=true
    ·by_cases h1:((ck:Int) != (k:Int))=true
     ·have HN':jfp ((dU k l).2=10):=ae (HN.o (fun h=>by
       have:=h.2.2 _ HM.o;simp at h0 h1 this
       omega))
      go_wp2_with fail;refine(HV.o _).mono ?_;rintro e w2 ⟨rfl,aE⟩;have aO:=ae aE;have bv:=aE.size;clear aE;go_wp2_with fail;go_ret
      rw[HN'.o];exact⟨rfl,(HB.o.trans (aO.o.mono bF)).alloc (by omega) _⟩
     ·have h1':((ck:Int) != (k:Int))=false:=by simpa using h1
      have ek:ck=k:=by
       have:(ck:Int)=(k:Int):=by simpa using h1
       omega
      have nk:=ae ek;clear h1 ek;go_wp2_with fail;refine(HV.o _).mono ?_;rintro e w2 ⟨rfl,aE⟩;have aO:=ae aE;have bv:=aE.size;clear aE;cases lg
      ·go_wp2_with fail
       go_roundw
       case rel=>exact⟨j+1,by omega,jdB Value.bool (jdK (by omega)),by go_num,fun c hc=>(HT.o c hc).elim (HA.o c) (fun e=>by rw[e];exact Or.inr nk.o),(HB.o.trans (aO.o.mono bF)).alloc (by omega) _⟩
       case measure=>simp[intOf];omega
      ·go_wp2_with fail
       go_roundw
       case rel=>exact⟨j+1,by omega,rfl,by go_num,fun c hc=>(HT.o c hc).elim (HA.o c) (fun e=>by rw[e];exact Or.inr nk.o),(HB.o.trans (aO.o.mono bF)).alloc (by omega) _⟩
       case measure=>simp[intOf];omega
    ·have h0':((ck:Int) != 0)=false:=by simpa using h0
     have ek:ck=0:=by
      have:(ck:Int)=0:=by simpa using h0
      omega
     have nk:=ae ek;clear h0 ek;go_wp2_with fail;refine(HV.o _).mono ?_;rintro e w2 ⟨rfl,aE⟩;have aO:=ae aE;have bv:=aE.size;clear aE;cases lg
     ·go_wp2_with fail
      go_roundw
      case rel=>exact⟨j+1,by omega,jdB Value.bool (jdK (by omega)),by go_num,fun c hc=>(HT.o c hc).elim (HA.o c) (fun e=>by rw[e];exact Or.inl nk.o),(HB.o.trans (aO.o.mono bF)).alloc (by omega) _⟩
      case measure=>simp[intOf];omega
     ·go_wp2_with fail
      go_roundw
      case rel=>exact⟨j+1,by omega,rfl,by go_num,fun c hc=>(HT.o c hc).elim (HA.o c) (fun e=>by rw[e];exact Or.inl nk.o),(HB.o.trans (aO.o.mono bF)).alloc (by omega) _⟩
      case measure=>simp[intOf];omega
   ·have:j=l.length:=by omega
    subst this;rw[jdE]at HA;have HE':=ae (HE.o HA.o);have gj:¬ ((l.length:Nat):Int)<(l.length:Int):=(by omega);cases lg
    ·have hn:¬ 256<l.length:=of_decide_eq_false Zi.o
     rw[jdt hn]at HE';go_wp2_with fail;go_ret
     rw[HE'.o];exact⟨rfl,HB.o⟩
    ·have hn:256<l.length:=of_decide_eq_true Zi.o
     rw[jdu hn]at HE';go_wp2_with fail;go_ret
     rw[HE'.o];exact⟨rfl,HB.o⟩
 ·rw[jdK hk]at HK
  have HN:jfp ((dU k l).2=10):=ae (zG (fun h=>hk ⟨h.1,h.2.1⟩));clear hs hf bw hk;go_enter Tryz.func122,Tryz.ntmps122
  go_wp2_with fail;refine(HK.o _).mono ?_;rintro e w1 ⟨rfl,rfl⟩;go_wp2_with fail;go_ret
  rw[HN.o];exact⟨rfl,jdv _ _⟩
def stp(c:Nat):Nat:=c / 2 ^^^ (if c % 2=1 then 3988292384 else 0)
def ez:Nat->Nat->Nat
 | 0,c=>c
 | n+1,c=>ez n (stp c)
theorem Tf{c:Nat}(h:c<4294967296):stp c<4294967296:=by
 have:stp c<2 ^ 32:=by
  unfold stp;apply jfh
  ·omega
  ·split<;>omega
 omega
theorem Xg(a b:Nat):(a ^^^ b) % 2=(a+b) % 2:=by
 have h:(a ^^^ b).testBit 0=((a.testBit 0) ^^ (b.testBit 0)):=Nat.testBit_xor _ _ _;simp only[Nat.testBit_zero]at h;have ha:a % 2=0∨a % 2=1:=by omega
 have hb:b % 2=0∨b % 2=1:=by omega
 have hc:(a ^^^ b) % 2=0∨(a ^^^ b) % 2=1:=by omega
 generalize (a ^^^ b) % 2=z at *;rcases ha with ha | ha<;>rcases hb with hb | hb<;>rcases hc with hc | hc<;>simp[ha,hb,hc]at h<;>omega
theorem DS{a b:Nat}(h:a ^^^ b=0):a=b:=by
 have:=jdB (fun z=>z ^^^ b) h;simpa only[jeC,Nat.xor_self,Nat.xor_zero,Nat.zero_xor]using this
theorem Xh(a b:Nat):stp (a ^^^ b)=stp a ^^^ stp b:=by
 unfold stp;have h1:(a ^^^ b) / 2=a / 2 ^^^ b / 2:=Nat.xor_div_two;have h2:(a ^^^ b) % 2=(a+b) % 2:=Xg a b;rw[h1];have ha:a % 2=0∨a % 2=1:=by omega
 have hb:b % 2=0∨b % 2=1:=by omega
 rcases ha with ha | ha<;>rcases hb with hb | hb
 ·have h3:(a ^^^ b) % 2=0:=by omega
  simp[ha,hb,h3]
 ·have h3:(a ^^^ b) % 2=1:=by omega
  simp[ha,hb,h3,jeC]
 ·have h3:(a ^^^ b) % 2=1:=by omega
  simp[ha,hb,h3,jeC]
  rw[Nat.xor_comm (b / 2)]
 ·have h3:(a ^^^ b) % 2=0:=by omega
  simp only[ha,hb,h3];simp only[jdu,Nat.xor_zero,Nat.zero_ne_one,if_false];generalize 3988292384=p;rw[jeC,Nat.xor_comm (b / 2) p,← jeC p,Nat.xor_self,Nat.zero_xor]
theorem Tg(x:Nat):stp (2*x)=x:=by
 unfold stp;rw[jdt (by omega)];simp
theorem Th{c:Nat}(h:c<4294967296)(h0:stp c=0):c=0:=by
 unfold stp at h0;by_cases hc:c % 2=1
 ·rw[jdu hc]at h0
  have:c / 2=3988292384:=DS h0;omega
 ·rw[jdt hc,Nat.xor_zero]at h0
  omega
theorem ro:∀(n:Nat) {c:Nat},c<4294967296->ez n c<4294967296
 | 0,_,h=>h
 | n+1,_,h=>ro n (Tf h)
theorem rp:∀(n a b:Nat),ez n (a ^^^ b)=ez n a ^^^ ez n b
 | 0,_,_=>rfl
 | n+1,a,b=>by rw[ez,ez,ez,Xh,rp n]
theorem nQ:∀(m n c:Nat),ez (m+n) c=ez n (ez m c)
 | 0,n,c=>by rw[jdZ];rfl
 | m+1,n,c=>by rw[Nat.add_right_comm,ez,ez,nQ m n]
theorem Ny(n c:Nat):ez (n+1) c=stp (ez n c):=nQ n 1 c
theorem mJ:∀(n x:Nat),ez n (2 ^ n*x)=x
 | 0,x=>by simp[ez]
 | n+1,x=>by
  rw[ez,Nat.pow_succ,jd4 (2 ^ n) 2,jeK,Tg,mJ n]
theorem zH:∀(n:Nat) {c:Nat},c<4294967296->ez n c=0->c=0
 | 0,_,_,h0=>h0
 | n+1,_,h,h0=>Th h (zH n (Tf h) h0)
theorem kh{a r n:Nat}(h:a<2 ^ n):a+2 ^ n*r=a ^^^ (2 ^ n*r):=by
 apply Nat.eq_of_testBit_eq
 intro i;rw[Nat.testBit_xor,Nat.add_comm,Nat.testBit_two_pow_mul_add _ h,Nat.testBit_two_pow_mul];by_cases hi:i<n
 ·rw[jdu hi]
  simp[show ¬ n<=i by omega]
 ·rw[jdt hi]
  have h1:a.testBit i=false:=Nat.testBit_lt_two_pow (jdS h (jeL (by omega) (by omega)));simp[h1,show n<=i by omega]
theorem Nz(n c:Nat):ez n c=ez n (c % 2 ^ n) ^^^ c / 2 ^ n:=by
 have h:c=c % 2 ^ n ^^^ (2 ^ n*(c / 2 ^ n)):=by
  rw[← kh (Nat.mod_lt _ (jep n))];exact(Nat.mod_add_div c (2 ^ n)).symm
 conv=>lhs;rw[h]
 rw[rp,mJ]
def byt(c x:Nat):Nat:=ez 8 (c ^^^ x)
def run(c:Nat)(b:List Nat):Nat:=b.foldl byt c
def ni(c:Nat)(b:List Nat):Nat:=run (c ^^^ 4294967295) b ^^^ 4294967295
theorem DT(c x:Nat)(b:List Nat):run c (x::b)=run (byt c x) b:=rfl
theorem Ja(c:Nat)(a b:List Nat):run c (a++b)=run (run c a) b:=List.foldl_append
theorem Ti(c x:Nat)(b:List Nat):run c (b++[x])=byt (run c b) x:=by rw[Ja];rfl
theorem kE{a b:Nat}(ha:a<4294967296)(hb:b<4294967296):a ^^^ b<4294967296:=by
 have:a ^^^ b<2 ^ 32:=jfh (by omega) (by omega);omega
theorem jaJ{c x:Nat}(h:c<4294967296)(hx:x<256):byt c x<4294967296:=ro 8 (kE h (by omega))
theorem sT:∀{b:List Nat} {c:Nat},c<4294967296->(∀ x∈b,x<256)->run c b<4294967296
 | [],_,h,_=>h
 | x::b,c,h,hb=>by
  rw[DT];exact sT (jaJ h (hb x (by simp))) fun y hy=>hb y (by simp[hy])
theorem uQ{b:List Nat}{c:Nat}(h:c<4294967296)(hb:∀ x∈b,x<256):ni c b<4294967296:=kE (sT (kE h (by omega)) hb) (by omega)
theorem Tj(a p:Nat):a ^^^ p ^^^ p=a:=by rw[jeC,Nat.xor_self,Nat.xor_zero]
def leN:List Nat->Nat
 | []=>0
 | x::b=>x+256*leN b
theorem Jb:∀{b:List Nat},(∀ x∈b,x<256)->leN b<2 ^ (8*b.length)
 | [],_=>by simp[leN]
 | x::b,h=>by
  have h1:=Jb (b:=b) fun y hy=>h y (by simp[hy])
  have h2:=h x (by simp);rw[leN,jdD,jeE,jex];omega
theorem Bd:∀{b:List Nat} (c:Nat),(∀ x∈b,x<256)->run c b=ez (8*b.length) (c ^^^ leN b)
 | [],c,_=>by simp[run,leN,ez]
 | x::b,c,h=>by
  have hx:x<2 ^ 8:=h x (by simp);rw[DT,Bd (byt c x) fun y hy=>h y (by simp[hy]),jdD,jeE,Nat.add_comm (8*b.length),nQ,leN];congr 1
  have e:x+256*leN b=x ^^^ (2 ^ 8*leN b):=kh hx;rw[e,← jeC,rp,mJ];rfl
theorem NA{a b:List Nat}{c X f:Nat}(ha:∀ x∈a,x<256)(hb:∀ x∈b,x<256)(hl:a.length=b.length)(hX:X<4294967296)(hf:f<=8*a.length)
  (h:leN b=leN a ^^^ (2 ^ f*X)) (he:run c a=run c b):X=0:=by
 rw[Bd c ha,Bd c hb,← hl,h,← jeC,rp _ (c ^^^ leN a)]at he
 have h0:ez (8*a.length) (2 ^ f*X)=0:=by
  have:=jdB (fun z=>ez (8*a.length) (c ^^^ leN a) ^^^ z) he;simp only[Nat.xor_self,← jeC,Nat.zero_xor]at this;exact this.symm
 rw[show 8*a.length=f+(8*a.length-f) by omega,nQ,mJ]at h0;exact zH _ hX h0
theorem Jc{a b:List Nat}{c X f:Nat}(ha:∀ x∈a,x<256)(hb:∀ x∈b,x<256)(hl:a.length=b.length)(hX:X<4294967296)(hf:f<=8*a.length)
  (h:leN b=leN a ^^^ (2 ^ f*X)) (he:ni c a=ni c b):X=0:=by
 refine NA (c:=c ^^^ 4294967295) ha hb hl hX hf h ?_;have:=jdB (fun z=>z ^^^ 4294967295) he;unfold ni at this;simpa only[Tj]using this
theorem Lo:∀{b:List Nat} {j y:Nat} (hj:j<b.length),(∀ x∈b,x<256)->y<256->leN (b.set j (b[j] ^^^ y))=leN b ^^^ (2 ^ (8*j)*y)
 | [],j,y,hj,_,_=>by simp at hj
 | x::b,0,y,_,h,hy=>by
  have hx:x<2 ^ 8:=h x (by simp);have Cn:x ^^^ y<2 ^ 8:=jfh hx hy;simp only[jdH,je7,leN];have e1:x+256*leN b=x ^^^ (2 ^ 8*leN b):=kh hx;have e2:(x ^^^ y)+256*leN b=(x ^^^ y) ^^^ (2 ^ 8*leN b):=kh Cn;rw[e1,e2,Nat.mul_zero,Nat.pow_zero,jeB,jeC,Nat.xor_comm y,← jeC]
 | x::b,j+1,y,hj,h,hy=>by
  have hx:x<2 ^ 8:=h x (by simp);have ih:=Lo (b:=b) (j:=j) (y:=y) (by simpa using hj) (fun z hz=>h z (by simp[hz])) hy;simp only[jdI,List.getElem_cons_succ,leN];rw[ih];have e1:x+256*leN b=x ^^^ (2 ^ 8*leN b):=kh hx;have e2:x+256*(leN b ^^^ 2 ^ (8*j)*y)=x ^^^ (2 ^ 8*(leN b ^^^ 2 ^ (8*j)*y)):=kh hx;rw[e1,e2,jeC];congr 1
  have e3:2 ^ 8*(leN b ^^^ 2 ^ (8*j)*y)=2 ^ 8*leN b ^^^ 2 ^ 8*(2 ^ (8*j)*y):=by
   apply Nat.eq_of_testBit_eq
   intro i;simp only[Nat.testBit_xor,Nat.testBit_two_pow_mul];cases decide (i>=8)<;>simp
  rw[e3,← jeK,← jex,jeE,Nat.add_comm 8]
def le4(s:Nat):List Nat:=[s % 256,s / 256 % 256,s / 65536 % 256,s / 16777216 % 256]
theorem sU(s:Nat):∀ x∈le4 s,x<256:=by
 intro x hx;simp[le4]at hx
 omega
theorem Be{s:Nat}(h:s<4294967296):leN (le4 s)=s:=by
 simp[le4,leN]
 omega
theorem Xi{s t:Nat}(hs:s<4294967296)(ht:t<4294967296)(h:le4 s=le4 t):s=t:=by
 rw[← Be hs,← Be ht,h]
def bX(b:List Nat):List Nat:=b++le4 (ni 0 b)
theorem lZ(b:List Nat):(bX b).length=b.length+4:=by simp[bX,le4]
def jq(b:List Nat):Option (List Nat) :=
 if 4<=b.length/\bX (b.take (b.length-4))=b then some (b.take (b.length-4)) else none
theorem Jd(b:List Nat):jq (bX b)=some b:=by
 unfold jq
 have h:(bX b).take ((bX b).length-4)=b:=by
  rw[lZ,Nat.add_sub_cancel];unfold bX;rw[jet]
 rw[h,jdu ⟨by rw[lZ];omega,rfl⟩]
theorem Bh{b:List Nat}{j y:Nat}(hb:∀ x∈b,x<256)(hj:j<(bX b).length)(hy:y<256)(h0:y≠0):jq ((bX b).set j ((bX b)[j] ^^^ y))=none:=by
 unfold jq;rw[jdt];rintro⟨_,h⟩;have fG:=lZ b;rw[jeS,fG,Nat.add_sub_cancel]at h
 have hsb:∀ x∈bX b,x<256:=by
  intro x hx;rcases jd2.1 hx with hx | hx
  ·exact hb x hx
  ·exact sU _ x hx
 have hv:(bX b)[j] ^^^ y<256:=by
  have:(bX b)[j] ^^^ y<2 ^ 8:=jfh (hsb _ (jdA hj)) hy;omega
 have fF:(bX b)[j] ^^^ y≠(bX b)[j]:=by
  intro e;have:=jdB (fun z=>(bX b)[j] ^^^ z) e;simp only[← jeC,Nat.xor_self,Nat.zero_xor]at this;exact h0 this
 by_cases Zj:j<b.length
 ·have e1:(bX b).set j ((bX b)[j] ^^^ y)=b.set j (b[j] ^^^ y)++le4 (ni 0 b):=by
   have hg:(bX b)[j]=b[j]:=jfl Zj;rw[hg];unfold bX;rw[List.set_append_left _ _ Zj]
  have fT:(b.set j (b[j] ^^^ y)).length=b.length:=jeS;rw[e1,List.take_append_of_le_length (by rw[fT];exact jdw _),jee (by rw[fT];exact jdw _)]at h;unfold bX at h;have h2:=List.append_cancel_left h
  have aE:∀ x∈b.set j (b[j] ^^^ y),x<256:=by
   intro x hx;rcases List.mem_or_eq_of_mem_set hx with hx | rfl
   ·exact hb x hx
   ·have:b[j] ^^^ y<2 ^ 8:=jfh (hb _ (jdA Zj)) hy
    omega
  have h3:=Xi (uQ (by omega) aE) (uQ (by omega) hb) h2;exact h0 (Jc (c:=0) (X:=y) (f:=8*j) hb aE fT.symm (by omega) (by omega) (Lo Zj hb hy) h3.symm)
 ·have e1:((bX b).set j ((bX b)[j] ^^^ y)).take b.length=b:=by
   rw[List.take_set_of_le (by omega)];unfold bX;rw[jet]
  rw[e1]at h;have:=jdB (fun l:List Nat=>l[j]?) h;simp only[List.getElem?_set_self hj,List.getElem?_eq_getElem hj,Option.some.injEq]at this;exact fF this.symm
end Go.Proofs.YtpljdjmpamjkhaaGreatDoor
