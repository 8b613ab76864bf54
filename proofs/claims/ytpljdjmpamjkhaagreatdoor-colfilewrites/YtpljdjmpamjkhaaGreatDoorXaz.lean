import Derived.Test.YtpljdjmpamjkhaaGreatDoorXay
import Derived.Test.YtpljdjmpamjkhaaGreatDoorXau
set_option linter.unusedVariables false
set_option linter.unusedSimpArgs false
set_option maxRecDepth 100000
set_option maxHeartbeats 4000000
namespace Go.Proofs.YtpljdjmpamjkhaaGreatDoor
open Go.RowKit Go.Lib
def Nv(k n:Nat)(l:List (Nat×Int×List Nat)):Prop:=l.length=n/\∀ c∈l,gA k c/\c.1≠0
def byT(k:Nat)(b:List Nat)(l:List (Nat×Int×List Nat))(r:List Nat):Prop:=b=gB k l/\r=[]
theorem xi{l:List (Nat×Int×List Nat)}(h:∀ c∈l,c.1≠0):bS l=l:=by
 unfold bS;rw[List.filter_eq_self];intro c hc;simpa using h c hc
theorem TE{f:Nat}{b:List Nat}(h:Er f):Er (orf f (if b.length=0 then 0 else 32)):=by
 refine h.orf ?_;split
 ·exact er0
 ·exact er32
theorem jaP{b:List Nat}{f n:Nat}(hb:Bs b)(hf:Er f)(hn:n<=256):RP (Nv 1 n) (byT 1 b) f ((bq b n).1.map fun z=>(1,z,[])) [] (orf f (bq b n).2):=by
 refine⟨hf.orf (rz hn),fun h=>?_,fun y r a1 a2 a3=>?_⟩
 ·obtain⟨h1,h2⟩:=bH h
  obtain⟨h3,h4⟩:=iT hb h2;refine⟨h1,by rw[jdz];omega,fun c hc=>?_⟩;obtain⟨z,hz,rfl⟩:=jdR.1 hc;exact⟨Or.inr (Or.inl ⟨rfl,z,rfl,h4 z hz⟩),by simp⟩
 ·have ho:=xi fun c hc=>(a2.2 c hc).2
  have jj:=iS fun c hc=>(a2.2 c hc).1
  rw[ho]at jj;have aE:b=cQ (y.map fun c=>c.2.1):=by rw[a3.1,vV,ho]
  have PZ:=kb jj.1 (by rw[jdz];have:=a2.1;omega);rw[jdz,a2.1]at PZ;rw[aE,PZ,a1,a3.2];exact⟨rfl,jj.2,rfl⟩
theorem jaQ{b:List Nat}{f n:Nat}(hf:Er f)(hn:n<=256):RP (Nv 2 n) (byT 2 b) f ((unR (tkB (by8 n) b) n 1).map fun(x:Nat)=>(2,(x:Int),[])) (tkR (by8 n) b) (orf (orf (tkF (by8 n) b f) (unE (tkB (by8 n) b) n 1)) (if (tkR (by8 n) b).length=0 then 0 else 32)):=by
 refine⟨TE ((Bp hf).orf (show Er (unE _ n ((1:Nat):Int)) from Jp hn (by omega))),fun h=>?_,fun y r a1 a2 a3=>?_⟩
 ·obtain⟨h1,h2⟩:=bH (bH h).1
  obtain⟨h3,h4⟩:=kW h2;refine⟨(rB h1).1,by rw[jdz];exact h3,fun c hc=>?_⟩;obtain⟨z,hz,rfl⟩:=jdR.1 hc;exact⟨Or.inr (Or.inr (Or.inl ⟨rfl,z,rfl,h4 z hz⟩)),by simp⟩
 ·have ho:=xi fun c hc=>(a2.2 c hc).2
  have jj:=fM fun c hc=>(a2.2 c hc).1
  rw[ho]at jj;have aE:b=bi (y.map fun c=>c.2.1.toNat) 1++[]:=by rw[a3.1,vW,ho,jdT]
  have hm:(y.map fun c=>c.2.1.toNat).length<=256:=by rw[jdz];have:=a2.1;omega
  have hl:=eI jj.1 hm;have PZ:=oF jj.1 hm;rw[jdz,a2.1]at hl PZ;rw[aE,← hl,(gK (a:=bi (y.map fun c=>c.2.1.toNat) 1) (r:=[]) f).1,(gK (a:=bi (y.map fun c=>c.2.1.toNat) 1) (r:=[]) f).2.1,(gK (a:=bi (y.map fun c=>c.2.1.toNat) 1) (r:=[]) f).2.2,PZ.1,PZ.2,a1,a3.2];exact⟨rfl,jj.2,rfl⟩
theorem jaR{b b1:List Nat}{f f1 n:Nat}{l:List (List Nat)}(h:RP (Nt n) (byW b) f l b1 f1):RP (Nv 3 n) (byT 3 b) f (l.map fun s=>(3,0,s)) b1 (orf f1 (if b1.length=0 then 0 else 32)):=by
 obtain⟨r1,r2,r3⟩:=h;refine⟨TE r1,fun h=>?_,fun y r a1 a2 a3=>?_⟩
 ·obtain⟨h1,h2,h3⟩:=r2 (bH h).1
  refine⟨h1,by rw[jdz];exact h2,fun c hc=>?_⟩;obtain⟨s,hs,rfl⟩:=jdR.1 hc;exact⟨Or.inr (Or.inr (Or.inr ⟨rfl,s,rfl,h3 s hs⟩)),by simp⟩
 ·have ho:=xi fun c hc=>(a2.2 c hc).2
  have jj:=gO fun c hc=>(a2.2 c hc).1
  rw[ho]at jj;obtain⟨d1,d2,d3⟩:=r3 (y.map fun c=>c.2.2) [] a1 ⟨by rw[jdz];exact a2.1,jj.1⟩ ⟨by rw[a3.1,vX,ho],rfl⟩;rw[d2,d3,d1,a3.2];exact⟨rfl,jj.2,rfl⟩
def Lq(k n:Nat)(b:List Nat)(p f:Nat)(w:World)(r:Ending)(w':World):Prop :=
 ∃ l b' f',(∃ v,r=.returned v/\OwnV w' w.heap.size v l)/\Rs w' p b' f'/\RP (Nv k n) (byT k b) f l b' f'/\Fr p w.heap.size w w'
theorem TF{w:World}{p f:Nat}{b:List Nat}(h:Rs w p b f)(hf:Er f)(n:Nat)(hn:n<=256) :
  Calls Tryz.prog 263 #[.pointer (some ⟨p,0,none⟩),.int .u8 1,.int .i64 (n:Int)] w (Lq 1 n b p f w):=by
 have aB:=h.lt;have HN:=ae (nf h n);have KE:=ae (jaP h.bs hf hn);have LZ:=ae (qg h.bs hn);clear h;generalize (bq b n).1=L at *;generalize orf f (bq b n).2=f1 at *;have mU:=LZ.o.2;go_enter Tryz.func263,Tryz.ntmps263
 go_wp2_with fail;refine HN.o.mono ?_;rintro e w1 ⟨⟨v1,rfl,eH⟩,ea,dv⟩;have jy:=ae ea;have gp:=ae dv;have cP:=dv.size;have PQ:=ae (Sv.of_own eH);have xR:jfp (∀ j,v1.ownBlock=some j->j<w1.heap.size):=ae (fun j hj=>(eH.lt j hj).2);obtain⟨a1,c1,rfl,lp,xI⟩:=aM eH;have hcm1':c1<=9223372036854775807:=by unfold maxLen at xI;omega
 clear ea dv eH xI;go_wp2_with fail;go_loopw [7,21] (fun o i wr=>∃ j:Nat,j<=L.length/\i=.int .i64 (j:Int)/\OwnV wr w1.heap.size o ((L.take j).map (fun z=>((1,z,[]):Nat×Int×List Nat)))/\Below w1.heap.size w1 wr) (fun _ i _=>L.length-(intOf i).toNat)
 case atStart=>exact⟨0,by omega,rfl,OwnV.nil _ _,jdv _ _⟩
 case round =>
  obtain⟨j,hj,rfl,aA,az⟩:=hrel;have HO:=ae aA;have HB:=ae az;have bF:=az.size;clear aA az;by_cases uS:j<L.length
  ·obtain⟨g,off,rfl,hg,br⟩:=(PQ.o.keptB xR.o HB.o).at1 (oK uS)
   have hjl':(j:Int)<(L.length:Int):=(by omega)
   have lE:jfp ((L.take (j+1)).map (fun z=>((1,z,[]):Nat×Int×List Nat))=(L.take j).map (fun z=>((1,z,[]):Nat×Int×List Nat))++[(fun z=>((1,z,[]):Nat×Int×List Nat)) L[j]]):=ae (by
    rw[jdM uS,jdQ];rfl)
   have hlen':((L.take j).map (fun z=>((1,z,[]):Nat×Int×List Nat))).length<=100000:=by rw[jdz,jdC];omega
   generalize L[j]=z at *;generalize (L.take j).map (fun z=>((1,z,[]):Nat×Int×List Nat))=LL at *;go_wp2_with (first | (at_builtin;refine dX rfl _ _ rfl w1.heap.size _ _ (1,z,[]) LL rfl (HO.o.kept (am _ _)) rfl (aK _ _ _) hlen' ?c2 ?_))
   case c2=>first | omega | (rw[jdx];omega)
   intro v' w5 o5 b5;have dE:=ae o5;have aR:=ae ((HB.o.alloc bF _).trans b5);clear o5 b5;go_wp2_with fail;go_roundw
   case rel=>exact⟨j+1,by omega,by go_num,by rw[lE.o];exact dE.o,aR.o⟩
   case measure=>simp[intOf];omega
  ·obtain rfl:j=L.length:=by omega
   rw[jdE]at HO;have gj:¬ ((L.length:Nat):Int)<(L.length:Int):=(by omega);have FA:=ae (jy.o.kept HB.o jy.o.lt);have ng:=ae (gp.o.trans (Fr.of_below (p:=p) (HB.o.mono cP)));generalize L.map (fun z=>((1,z,[]):Nat×Int×List Nat))=X at *;go_wp2_with fail;refine(xg FA.o).mono ?_;rintro e w5 ⟨rfl,nz,jV⟩;have dE:jfp (OwnV w5 w1.heap.size _ X):=ae (jV.own HO.o (by omega));have rZ:=ae nz;have BU:=ae (ng.o.trans (jV.mono (by omega)));clear nz jV;go_wp2_with fail;go_ret
   exact⟨X,_,_,⟨_,rfl,be dE.o cP⟩,rZ.o,(by rw[show orf f1 (if ([]:List Nat).length=0 then 0 else 32)=f1 by unfold orf;split<;>simp_all];exact KE.o),BU.o⟩
theorem TG{w:World}{p f:Nat}{b:List Nat}(h:Rs w p b f)(hf:Er f)(n:Nat)(hn:n<=256) :
  Calls Tryz.prog 263 #[.pointer (some ⟨p,0,none⟩),.int .u8 2,.int .i64 (n:Int)] w (Lq 2 n b p f w):=by
 have aB:=h.lt;have HN:=ae (tX h n hn);have KE:=ae (jaQ (b:=b) hf hn)
 have LZ:jfp ((∀ x∈unR (tkB (by8 n) b) n 1,x<2)/\(unR (tkB (by8 n) b) n 1).length<=n):=ae (by
  by_cases h0:unE (tkB (by8 n) b) n 1=0
  ·exact⟨(kW h0).2,Nat.le_of_eq (kW h0).1⟩
  ·rw[wm h0]
   exact⟨fun x hx=>by simp at hx,by simp⟩)
 clear h;generalize unR (tkB (by8 n) b) n 1=L at *;generalize orf (tkF (by8 n) b f) (unE (tkB (by8 n) b) n 1)=f1 at *;generalize tkR (by8 n) b=b1 at *;have mU:=LZ.o.2;go_enter Tryz.func263,Tryz.ntmps263
 go_wp2_with fail;refine HN.o.mono ?_;rintro e w1 ⟨⟨v1,rfl,eH⟩,ea,dv⟩;have jy:=ae ea;have gp:=ae dv;have cP:=dv.size;have PQ:=ae (Sv.of_own eH);have xR:jfp (∀ j,v1.ownBlock=some j->j<w1.heap.size):=ae (fun j hj=>(eH.lt j hj).2);obtain⟨a1,c1,rfl,lp,xI⟩:=aM eH;have hcm1':c1<=9223372036854775807:=by unfold maxLen at xI;omega
 clear ea dv eH xI;go_wp2_with fail;go_loopw [7,37] (fun o i wr=>∃ j:Nat,j<=L.length/\i=.int .i64 (j:Int)/\OwnV wr w1.heap.size o ((L.take j).map (fun(x:Nat)=>((2,(x:Int),[]):Nat×Int×List Nat)))/\Below w1.heap.size w1 wr) (fun _ i _=>L.length-(intOf i).toNat)
 case atStart=>exact⟨0,by omega,rfl,OwnV.nil _ _,jdv _ _⟩
 case round =>
  obtain⟨j,hj,rfl,aA,az⟩:=hrel;have HO:=ae aA;have HB:=ae az;have bF:=az.size;clear aA az;by_cases uS:j<L.length
  ·obtain⟨g,off,rfl,hg,br⟩:=(PQ.o.keptB xR.o HB.o).at1 (bU uS)
   have hjl':(j:Int)<(L.length:Int):=(by omega)
   have lE:jfp ((L.take (j+1)).map (fun(x:Nat)=>((2,(x:Int),[]):Nat×Int×List Nat))=(L.take j).map (fun(x:Nat)=>((2,(x:Int),[]):Nat×Int×List Nat))++[(fun(x:Nat)=>((2,(x:Int),[]):Nat×Int×List Nat)) L[j]]):=ae (by
    rw[jdM uS,jdQ];rfl)
   have hlen':((L.take j).map (fun(x:Nat)=>((2,(x:Int),[]):Nat×Int×List Nat))).length<=100000:=by rw[jdz,jdC];omega
   have VN:=LZ.o.1 L[j] (jdA uS);generalize L[j]=x at *;generalize (L.take j).map (fun(x:Nat)=>((2,(x:Int),[]):Nat×Int×List Nat))=LL at *;obtain rfl | rfl:x=0∨x=1:=by omega
   ·skip
    go_wp2_with (first | (at_builtin;refine dX rfl _ _ rfl w1.heap.size _ _ (2,((0:Nat):Int),[]) LL rfl (HO.o.kept (am _ _)) rfl (aK _ _ _) hlen' ?c2 ?_))
    case c2=>first | omega | (rw[jdx];omega)
    intro v' w5 o5 b5;have dE:=ae o5;have aR:=ae ((HB.o.alloc bF _).trans b5);clear o5 b5;go_wp2_with fail;go_roundw
    case rel=>exact⟨j+1,by omega,by go_num,by rw[lE.o];exact dE.o,aR.o⟩
    case measure=>simp[intOf];omega
   ·skip
    go_wp2_with (first | (at_builtin;refine dX rfl _ _ rfl w1.heap.size _ _ (2,((1:Nat):Int),[]) LL rfl (HO.o.kept (am _ _)) rfl (aK _ _ _) hlen' ?c2 ?_))
    case c2=>first | omega | (rw[jdx];omega)
    intro v' w5 o5 b5;have dE:=ae o5;have aR:=ae ((HB.o.alloc bF _).trans b5);clear o5 b5;go_wp2_with fail;go_roundw
    case rel=>exact⟨j+1,by omega,by go_num,by rw[lE.o];exact dE.o,aR.o⟩
    case measure=>simp[intOf];omega
  ·obtain rfl:j=L.length:=by omega
   rw[jdE]at HO;have gj:¬ ((L.length:Nat):Int)<(L.length:Int):=(by omega);have FA:=ae (jy.o.kept HB.o jy.o.lt);have ng:=ae (gp.o.trans (Fr.of_below (p:=p) (HB.o.mono cP)));generalize L.map (fun(x:Nat)=>((2,(x:Int),[]):Nat×Int×List Nat))=X at *;go_wp2_with fail;refine(xg FA.o).mono ?_;rintro e w5 ⟨rfl,nz,jV⟩;have dE:jfp (OwnV w5 w1.heap.size _ X):=ae (jV.own HO.o (by omega));have rZ:=ae nz;have BU:=ae (ng.o.trans (jV.mono (by omega)));clear nz jV;go_wp2_with fail;go_ret
   exact⟨X,_,_,⟨_,rfl,be dE.o cP⟩,rZ.o,KE.o,BU.o⟩
theorem TH{w:World}{p f:Nat}{b:List Nat}(h:Rs w p b f)(hf:Er f)(n:Nat)(hn:n<=256) :
  Calls Tryz.prog 263 #[.pointer (some ⟨p,0,none⟩),.int .u8 3,.int .i64 (n:Int)] w (Lq 3 n b p f w):=by
 have aB:=h.lt;have HN:=ae (Jr h hf n hn);clear h;go_enter Tryz.func263,Tryz.ntmps263
 go_wp2_with fail;refine HN.o.mono ?_;rintro e w1 ⟨L,b1,f1,⟨v1,rfl,eH⟩,Kg,mU,ea,Qb,dv⟩;have KE:=ae (jaR Qb);clear Kg Qb;have jy:=ae ea;have gp:=ae dv;have cP:=dv.size;have PQ:=ae (Sv.of_own eH);have xR:jfp (∀ j,v1.ownBlock=some j->j<w1.heap.size):=ae (fun j hj=>(eH.lt j hj).2);obtain⟨a1,c1,rfl,lp,xI⟩:=aM eH;have hcm1':c1<=9223372036854775807:=by unfold maxLen at xI;omega
 clear ea dv eH xI;go_wp2_with fail;go_loopw [7,54] (fun o i wr=>∃ j:Nat,j<=L.length/\i=.int .i64 (j:Int)/\OwnV wr w1.heap.size o ((L.take j).map (fun s=>((3,0,s):Nat×Int×List Nat)))/\Below w1.heap.size w1 wr) (fun _ i _=>L.length-(intOf i).toNat)
 case atStart=>exact⟨0,by omega,rfl,OwnV.nil _ _,jdv _ _⟩
 case round =>
  obtain⟨j,hj,rfl,aA,az⟩:=hrel;have HO:=ae aA;have HB:=ae az;have bF:=az.size;clear aA az;by_cases uS:j<L.length
  ·obtain⟨g,off,rfl,hg,br⟩:=(PQ.o.keptB xR.o HB.o).at1 (cM uS)
   have hjl':(j:Int)<(L.length:Int):=(by omega)
   have lE:jfp ((L.take (j+1)).map (fun s=>((3,0,s):Nat×Int×List Nat))=(L.take j).map (fun s=>((3,0,s):Nat×Int×List Nat))++[(fun s=>((3,0,s):Nat×Int×List Nat)) L[j]]):=ae (by
    rw[jdM uS,jdQ];rfl)
   have hlen':((L.take j).map (fun s=>((3,0,s):Nat×Int×List Nat))).length<=100000:=by rw[jdz,jdC];omega
   rw[dJ]at br;generalize L[j]=s at *;generalize (L.take j).map (fun s=>((3,0,s):Nat×Int×List Nat))=LL at *;go_wp2_with (first | (at_builtin;refine dX rfl _ _ rfl w1.heap.size _ _ (3,0,s) LL rfl (HO.o.kept (am _ _)) rfl (aK _ _ _) hlen' ?c2 ?_))
   case c2=>first | omega | (rw[jdx];omega)
   intro v' w5 o5 b5;have dE:=ae o5;have aR:=ae ((HB.o.alloc bF _).trans b5);clear o5 b5;go_wp2_with fail;go_roundw
   case rel=>exact⟨j+1,by omega,by go_num,by rw[lE.o];exact dE.o,aR.o⟩
   case measure=>simp[intOf];omega
  ·obtain rfl:j=L.length:=by omega
   rw[jdE]at HO;have gj:¬ ((L.length:Nat):Int)<(L.length:Int):=(by omega);have FA:=ae (jy.o.kept HB.o jy.o.lt);have ng:=ae (gp.o.trans (Fr.of_below (p:=p) (HB.o.mono cP)));generalize L.map (fun s=>((3,0,s):Nat×Int×List Nat))=X at *;go_wp2_with fail;refine(xg FA.o).mono ?_;rintro e w5 ⟨rfl,nz,jV⟩;have dE:jfp (OwnV w5 w1.heap.size _ X):=ae (jV.own HO.o (by omega));have rZ:=ae nz;have BU:=ae (ng.o.trans (jV.mono (by omega)));clear nz jV;go_wp2_with fail;go_ret
   exact⟨X,_,_,⟨_,rfl,be dE.o cP⟩,rZ.o,KE.o,BU.o⟩
theorem iB:∀(t:List Nat) (s:List (Nat×Int×List Nat)),(hO t s).length=t.length
 | [],s=>rfl
 | x::t,s=>by
  unfold hO;split
  ·rw[jdD,jdD,iB t s]
  ·rw[jdD,jdD,iB t s.tail]
theorem tc:∀{t:List Nat} {s:List (Nat×Int×List Nat)} {j:Nat},(∀ x∈t,x<2)->(h:j<t.length)->(hO t s)[j]?=some (if t[j]=0 then nul else s.getD (t.take j).sum nul)
 | x::t,s,0,h2,h=>by
  unfold hO;by_cases hx:x=0
  ·simp[hx]
  ·cases s<;>simp[hx]
 | x::t,s,j+1,h2,h=>by
  have ht:∀ y∈t,y<2:=fun y hy=>h2 y (by simp[hy])
  unfold hO;by_cases hx:x=0
  ·have:=tc (s:=s) ht (show j<t.length by simpa using h)
   simp[hx,this]
  ·have Gc:x=1:=by have:=h2 x (by simp);omega
   have:=tc (s:=s.tail) ht (show j<t.length by simpa using h);rw[jdt hx,List.getElem?_cons_succ,this]
   have e:s.tail.getD (t.take j).sum nul=s.getD (1+(t.take j).sum) nul:=by
    cases s with
    | nil=>simp
    | cons c s=>simp[List.getD_eq_getElem?_getD,Nat.add_comm 1]
   simp only[e,Gc,List.getElem_cons_succ,jfd,List.sum_cons]
theorem Ju{z:Value}{l:List Value}{i:Nat}(h:i<l.length)(he:l[i]=z):dz z l (i+1)=dz z l i:=by
 rw[← mh h,he]
 have hg:(dz z l i)[i]?=some z:=by
  unfold dz;rw[List.getElem?_append_right (by rw[jdC];omega),jdC,jew (by omega),jeW,List.getElem?_replicate,jdu (by omega)]
 apply List.ext_getElem?
 intro k;rw[List.getElem?_set];by_cases hk:i=k
 ·subst hk
  rw[jdu rfl,hg,jdu (by rw[iA (by omega)];exact h)]
 ·rw[jdt hk]
theorem Jv{w:World}{vt vs:Value}{t:List Nat}{s:List (Nat×Int×List Nat)}(ht:Sv w vt (aF .u64 t))(h2:∀ x∈t,x<2)(hl:t.length<=256)(hs:Sv w vs (aI s))(nZ:s.length=t.sum)(hnz:∀ c∈s,c.1≠0) :
  Calls Tryz.prog 265 #[vt,vs] w fun e w'=>(∃ v',e=.returned v'/\OwnV w' w.heap.size v' (hO t s))/\Below w.heap.size w w':=by
 obtain⟨i0,hi,ct,hz1',bv⟩:=jdP vE;have HT:=ae ht;have HS:=ae hs;have H2:=ae h2;have HNZ:=ae hnz;obtain⟨a,cap,rfl,aW,bw⟩:=ht.form1;obtain⟨a2,cap2,rfl,UF,yx⟩:=hs.form1;rw[ar]at *;rw[aG]at *;have hcm':cap<=9223372036854775807:=by unfold maxLen at bw;omega
 have hcm2':cap2<=9223372036854775807:=by unfold maxLen at yx;omega
 have Qc:=ae (rD h2);obtain⟨D,hD⟩:∃ D,hO t s=D:=⟨_,rfl⟩;have hDl:D.length=t.length:=by rw[← hD,iB]
 have PY:jfp (∀ k (h:k<t.length),(aI D)[k]?=some (cY (if t[k]=0 then nul else s.getD (t.take k).sum nul))):=ae (fun k h=>by
  have:=tc (s:=s) h2 h;rw[hD]at this;simp[aI,this])
 rw[hD];have kQ:=ae hDl;have HSUM:=ae nZ;clear ht hs bw yx hD hDl h2 hnz;go_enter Tryz.func265,Tryz.ntmps265
 go_wp2_with (first | (refine jeA _ rfl _ _ 79 rfl w.heap.size 78 i0 .nilIface 1 Tryz.underlying79 hi ct hz1' .i64 .i64 _ _ t.length rfl rfl ?m1 ?m2 ?m3 ?m4 ?m5 ?_))
 case m1=>rfl
 case m2=>rfl
 case m3=>rw[bv];omega
 case m4=>unfold maxLen;omega
 case m5=>omega
 intro w4 gN iN;have bK:Below w.heap.size w w4:=(jdv _ _).grown iN (jdw _) (fun k hk=>by cases hk)
 have ho4':w4.ownsRow w.heap.size 78 1 (.slice (some ⟨w.heap.size,0,none⟩) t.length t.length) t.length (dz .nilIface (aI D) 0):=by
  rw[mL,aG,kQ.o,← jeZ];simpa using gN
 have eR:=ae ho4';have cx:=ae bK;clear gN iN bK ho4';go_wp2_with fail;go_loopw [6,14] (fun o i wr=>∃ k:Nat,o=.int .i64 ((t.take k).sum:Int)/\i=.int .i64 (k:Int)/\k<=t.length/\wr.ownsRow w.heap.size 78 1 (.slice (some ⟨w.heap.size,0,none⟩) t.length t.length) t.length (dz .nilIface (aI D) k)/\Below w.heap.size w wr) (fun _ i _=>t.length-(intOf i).toNat)
 case atStart=>exact⟨0,rfl,rfl,by omega,eR.o,cx.o⟩
 case round =>
  obtain⟨k,rfl,rfl,hk,how,az⟩:=hrel;have HB:=ae az;have HO:=ae how;have bF:=az.size;clear az how;by_cases aB:k<t.length
  ·have hkD:k<(aI D).length:=by rw[aG,kQ.o];exact aB
   have hval:(aI D)[k]=cY (if t[k]=0 then nul else s.getD (t.take k).sum nul):=by
    have:=PY.o k aB;rw[List.getElem?_eq_getElem hkD]at this;exact Option.some.inj this
   obtain⟨b,off,rfl,hb,ek⟩:=(HT.o.kept HB.o).at1 (bU aB);have VN:=H2.o t[k] (jdA aB);have rQ:=ae (pu aB);have hlt':(k:Int)<(t.length:Int):=(by omega)
   have hsk:(t.take k).sum<=256:=by
    have:=rD (l:=t.take k) fun x hx=>H2.o x (jek hx)
    rw[jdC]at this;omega
   by_cases hx:t[k]=0
   ·rw[jdu hx]at hval
    have tq:=ae (Ju (z:=.nilIface) hkD hval);rw[hx]at ek rQ;clear hval hx VN;generalize (t.take k).sum=sm at *;go_wp2_with fail;go_roundw
    case rel=>exact⟨k+1,by rw[rQ.o,jej],by go_num,by omega,by rw[tq.o];exact HO.o,HB.o⟩
    case measure=>simp[intOf];omega
   ·have Gc:t[k]=1:=by omega
    rw[jdt hx]at hval
    have fG:(t.take k).sum<s.length:=by
     have h1:(t.take (k+1)).sum<=t.sum:=by
      conv=>rhs;rw[← jeP (k+1) t,List.sum_append]
      omega
     rw[rQ.o,Gc]at h1;rw[HSUM.o];omega
    have ex:s.getD (t.take k).sum nul=s[(t.take k).sum]:=by rw[List.getD_eq_getElem?_getD,List.getElem?_eq_getElem fG];rfl
    rw[ex]at hval;obtain⟨b2,off2,rfl,aE,PG⟩:=(HS.o.kept HB.o).at1 (cN fG);obtain⟨tt,uu,hvv⟩:=jY s[(t.take k).sum] (HNZ.o _ (jdA fG));rw[hvv]at PG hval;rw[Gc]at ek rQ;have kj:k<(dz .nilIface (aI D) k).length:=by rw[iA (by omega)];exact hkD
    have tq:=ae (mh (z:=.nilIface) hkD);rw[hval]at tq;have fZ:=HO.o;have FB:=(fZ.cellAt k (by omega)).trans (List.getElem?_eq_getElem kj);have FC:=fZ.frozenAt k;have hST:=fZ.stored k (.iface tt uu);rw[tq.o]at hST;have cU:=ae hST;have PC:=(fZ.lt w.heap.size rfl).2;clear hST fZ hval hvv ex hx Gc VN;generalize (dz .nilIface (aI D) k)[k]=y at *;generalize (t.take k).sum=sm at *;have hsl':(sm:Int)<(s.length:Int):=(by omega);go_wp2_with fail;go_roundw
    case rel=>exact⟨k+1,by rw[rQ.o];go_num,by go_num,by omega,cU.o.1,cO HB.o (jdw _) _⟩
    case measure=>simp[intOf];omega
  ·obtain rfl:k=t.length:=by omega
   have e:dz .nilIface (aI D) t.length=aI D:=by
    have:=oO .nilIface (aI D);rwa[aG,kQ.o]at this
   rw[e]at HO
   have HO':jfp (OwnV wr w.heap.size (.slice (some ⟨w.heap.size,0,none⟩) t.length t.length) D):=ae (by
    unfold OwnV;rw[kQ.o];exact HO.o)
   have gj:¬ ((t.length:Nat):Int)<(t.length:Int):=(by omega);clear HO e;go_wp2_with fail;go_ret
   exact⟨⟨_,rfl,HO'.o⟩,HB.o⟩
def rE(n k:Nat):List Nat:=(le4 n).take k++List.replicate (4-k) 0
theorem NM(n:Nat){k:Nat}(h:k<=4):(rE n k).length=4:=by
 unfold rE;simp[le4]
 omega
theorem NN(n:Nat){k:Nat}(h:k<4):(rE n k).set k (n / 2 ^ (8*k) % 256)=rE n (k+1):=by
 have hk:k=0∨k=1∨k=2∨k=3:=by omega
 rcases hk with rfl | rfl | rfl | rfl<;>simp[rE,le4]
theorem NO(n:Nat)(hn:n<9223372036854775808)(w:World):Calls Tryz.prog 85 #[.int .i64 (n:Int)] w (dw w (le4 n)):=by
 obtain⟨i0,hi,ct,hz1',bv⟩:=jdP jk;go_enter Tryz.func85,Tryz.ntmps85
 go_wp2_with (first | (refine jeA _ rfl _ _ 30 rfl w.heap.size 5 i0 (.int .u8 0) 1 Tryz.underlying30 hi ct hz1' .i64 .i64 _ _ 4 rfl rfl ?m1 ?m2 ?m3 ?m4 ?m5 ?_))
 case m1=>rfl
 case m2=>rfl
 case m3=>rw[bv];omega
 case m4=>unfold maxLen;omega
 case m5=>omega
 intro w4 gN iN;have bK:Below w.heap.size w w4:=(jdv _ _).grown iN (jdw _) (fun k hk=>by cases hk)
 have eR:jfp (aD w4 w.heap.size (.slice (some ⟨w.heap.size,0,none⟩) 4 4) (rE n 0)):=ae (by
  unfold aD;have h9:=gN;rw[kf]at h9;exact h9)
 have cx:=ae bK;clear gN iN bK;go_wp2_with fail;go_loopw [8] (fun i wr=>∃ k:Nat,k<=4/\i=.int .i64 (k:Int)/\aD wr w.heap.size (.slice (some ⟨w.heap.size,0,none⟩) 4 4) (rE n k)/\Below w.heap.size w wr) (fun i _=>4-(intOf i).toNat)
 case atStart=>exact⟨0,by omega,rfl,eR.o,cx.o⟩
 case round =>
  obtain⟨k,hk,rfl,aA,az⟩:=hrel;have HO:=ae aA;have HB:=ae az;have bF:=az.size;clear aA az;by_cases aB:k<4
  ·have hlt':(k:Int)<4:=by omega
   have bR:(rE n k).length=4:=NM n hk;obtain⟨hc,hf⟩:=HO.o.at (j:=k) (by omega);have cU:=ae (HO.o.stored k (n / 2 ^ (8*k) % 256));have tq:=ae (NN n aB);rw[tq.o]at cU;have Ae:((n / 2 ^ (8*k) % 256:Nat):Int)=(n:Int) / 2 ^ (8*k) % 256:=by simp
   rw[Ae]at cU;clear tq Ae;go_wp2_with fail;go_roundw
   case rel=>exact⟨k+1,by omega,by go_num,cU.o,cO HB.o (jdw _) _⟩
   case measure=>simp[intOf];omega
  ·obtain rfl:k=4:=by omega
   have gj:¬ ((4:Nat):Int)<4:=(by omega);go_wp2_with fail;go_ret
   refine⟨⟨_,rfl,?_⟩,HB.o⟩;simpa [rE,le4]using HO.o
def Rv(W:World)(v:Value)(rs:List Row):Prop :=
 ∃ a cap,v=.slice a rs.length cap/\rs.length<=cap/\cap<=maxLen/\(a=none->cap=0)/\(0<rs.length->∃ b off,a=some ⟨b,off,none⟩/\b<W.heap.size/\∀ j (h:j<rs.length),∃ rv,W.cell? ⟨b,off+j,none⟩=some rv/\Sv W rv (aI rs[j]))
theorem Rv.kept{W W':World}{v:Value}{rs:List Row}(h:Rv W v rs)(hb:Below W.heap.size W W'):Rv W' v rs:=by
 obtain⟨a,cap,h1,h2,h3,h4,h5⟩:=h;refine⟨a,cap,h1,h2,h3,h4,fun h0=>?_⟩;obtain⟨b,off,h6,h7,h8⟩:=h5 h0;refine⟨b,off,h6,jdS h7 hb.size,fun j hj=>?_⟩;obtain⟨rv,h9,no⟩:=h8 j hj;exact⟨rv,(hb.cell (p:=⟨b,off+j,none⟩) h7).trans h9,no.kept hb⟩
theorem Rv.nil(W:World):Rv W (.slice none 0 0) []:=⟨none,0,rfl,jdw _,by unfold maxLen;omega,fun _=>rfl,fun h=>by simp at h⟩
theorem Rv.form{W:World}{v:Value}{rs:List Row}(h:Rv W v rs):∃ a cap,v=.slice a rs.length cap/\rs.length<=cap/\cap<=9223372036854775807/\(a=none->cap=0):=by
 obtain⟨a,cap,h1,h2,h3,h4,_⟩:=h;exact⟨a,cap,h1,h2,by unfold maxLen at h3;omega,h4⟩
theorem Rv.at{W:World}{a:Option Addr}{n cap:Nat}{rs:List Row}(h:Rv W (.slice a n cap) rs){k:Nat}(hk:k<rs.length) :
  ∃ b off rv,a=some ⟨b,off,none⟩/\b<W.heap.size/\W.cell? ⟨b,off+k,none⟩=some rv/\Sv W rv (aI rs[k]):=by
 obtain⟨a',cap',e,h1,h2,h3,h4⟩:=h;simp only[Value.slice.injEq]at e;obtain⟨rfl,_,_⟩:=e;obtain⟨b,off,rfl,h5,h6⟩:=h4 (by omega);obtain⟨rv,h7,h8⟩:=h6 k hk;exact⟨b,off,rv,rfl,h5,h7,h8⟩
theorem xk(c:Cl):cY c=.nilIface∨∃ t u,cY c=.iface t u:=by
 unfold cY;split
 ·exact Or.inl rfl
 ·split
  ·exact Or.inr ⟨_,_,rfl⟩
  ·split<;>exact Or.inr ⟨_,_,rfl⟩
theorem Bq{w:World}{v:Value}{rs:List Row}(hs:Rv w v rs)(hl:rs.length<=1000){c:Nat}(hc:∀ r∈rs,c<r.length) :
  Calls Tryz.prog 58 #[v,.int .i64 (c:Int)] w fun e w'=>(∃ v',e=.returned v'/\OwnV w' w.heap.size v' (cW rs c))/\Below w.heap.size w w':=by
 obtain⟨i0,hi,ct,hz1',bv⟩:=jdP vE;have HS:=ae hs;obtain⟨a,cap,rfl,aW,bw,_⟩:=hs.form;obtain⟨D,hD⟩:∃ D,cW rs c=D:=⟨_,rfl⟩;have hDl:D.length=rs.length:=by rw[← hD,dr]
 have PY:jfp (∀ k (h:k<rs.length),(aI rs[k])[c]?=some (cY (rs[k].getD c nul))/\∃ h2:k<(aI D).length,(aI D)[k]=cY (rs[k].getD c nul)):=ae (fun k h=>by
  have h3:=hc _ (jdA h);refine⟨by simp[aI,List.getD_eq_getElem?_getD,List.getElem?_eq_getElem h3],by rw[aG];omega,?_⟩;simp[aI,← hD,cW])
 rw[hD];have kQ:=ae hDl;clear hs hD hDl hc;go_enter Tryz.func58,Tryz.ntmps58
 go_wp2_with (first | (refine jeA _ rfl _ _ 79 rfl w.heap.size 78 i0 .nilIface 1 Tryz.underlying79 hi ct hz1' .i64 .i64 _ _ rs.length rfl rfl ?m1 ?m2 ?m3 ?m4 ?m5 ?_))
 case m1=>rfl
 case m2=>rfl
 case m3=>rw[bv];omega
 case m4=>unfold maxLen;omega
 case m5=>omega
 intro w4 gN iN;have bK:Below w.heap.size w w4:=(jdv _ _).grown iN (jdw _) (fun k hk=>by cases hk)
 have ho4':w4.ownsRow w.heap.size 78 1 (.slice (some ⟨w.heap.size,0,none⟩) rs.length rs.length) rs.length (dz .nilIface (aI D) 0):=by
  rw[mL,aG,kQ.o,← jeZ];simpa using gN
 have eR:=ae ho4';have cx:=ae bK;clear gN iN bK ho4';go_wp2_with fail;go_loopw [13] (fun i wr=>∃ k:Nat,i=.int .i64 (k:Int)/\k<=rs.length/\wr.ownsRow w.heap.size 78 1 (.slice (some ⟨w.heap.size,0,none⟩) rs.length rs.length) rs.length (dz .nilIface (aI D) k)/\Below w.heap.size w wr) (fun i _=>rs.length-(intOf i).toNat)
 case atStart=>exact⟨0,rfl,by omega,eR.o,cx.o⟩
 case round =>
  obtain⟨k,rfl,hk,how,az⟩:=hrel;have HB:=ae az;have HO:=ae how;have bF:=az.size;clear az how;by_cases aB:k<rs.length
  ·obtain⟨hval,hkD,Mb⟩:=PY.o k aB
   obtain⟨b,off,rv,rfl,hb,ek,iO⟩:=(HS.o.kept HB.o).at aB;have hvl:=aG rs[k];obtain⟨ra,rcap,rfl,Vg,FI⟩:=iO.form1;obtain⟨b2,off2,rfl,aE,PG⟩:=iO.at1 hval;have hclt:=(List.getElem?_eq_some_iff.1 hval).1;have hlt':(k:Int)<(rs.length:Int):=(by omega);have hclt':(c:Int)<((aI rs[k]).length:Int):=(by omega);have kj:k<(dz .nilIface (aI D) k).length:=by rw[iA (by omega)];exact hkD
   have hrc2':rcap<=9223372036854775807:=by unfold maxLen at FI;omega
   rcases xk (rs[k].getD c nul)with h0 | ⟨tt,uu,h0⟩
   all_goals rw[h0]at PG Mb
   all_goals have tq:=ae (mh (z:=.nilIface) hkD)
   all_goals rw[Mb]at tq
   all_goals have fZ:=HO.o
   all_goals have FB:=(fZ.cellAt k (by omega)).trans (List.getElem?_eq_getElem kj)
   all_goals have FC:=fZ.frozenAt k
   ·have hST:=fZ.stored k .nilIface
    rw[tq.o]at hST;have cU:=ae hST;clear hST fZ hval Mb iO h0 hvl;generalize (dz .nilIface (aI D) k)[k]=y at *;generalize (aI rs[k]).length=m at *;go_wp2_with fail;go_roundw
    case rel=>exact⟨k+1,by go_num,by omega,cU.o.1,cO HB.o (jdw _) _⟩
    case measure=>simp[intOf];omega
   ·have hST:=fZ.stored k (.iface tt uu)
    rw[tq.o]at hST;have cU:=ae hST;clear hST fZ hval Mb iO h0 hvl;generalize (dz .nilIface (aI D) k)[k]=y at *;generalize (aI rs[k]).length=m at *;go_wp2_with fail;go_roundw
    case rel=>exact⟨k+1,by go_num,by omega,cU.o.1,cO HB.o (jdw _) _⟩
    case measure=>simp[intOf];omega
  ·obtain rfl:k=rs.length:=by omega
   have e:dz .nilIface (aI D) rs.length=aI D:=by
    have:=oO .nilIface (aI D);rwa[aG,kQ.o]at this
   rw[e]at HO
   have HO':jfp (OwnV wr w.heap.size (.slice (some ⟨w.heap.size,0,none⟩) rs.length rs.length) D):=ae (by
    unfold OwnV;rw[kQ.o];exact HO.o)
   have gj:¬ ((rs.length:Nat):Int)<(rs.length:Int):=(by omega);clear HO e;go_wp2_with fail;go_ret
   exact⟨⟨_,rfl,HO'.o⟩,HB.o⟩
theorem bZ(g:Nat)(rs:List Row)(j:Nat):(prt g rs j).length=min (rs.length-j*g) g:=by
 unfold prt;rw[jdC,jd3];omega
def jQ(fs:List Fd)(rs:List Row):Prop:=∀ r∈rs,jK fs r=0/\∀ c∈r,aT c
theorem jQ.part{fs:List Fd}{rs:List Row}(h:jQ fs rs)(g j:Nat):jQ fs (prt g rs j):=fun r hr=>h r (jfb (jek hr))
theorem EB:∀{fs:List Fd} {r:Row} {k:Nat},qv fs r=0->r.length=fs.length->∀(h:k<fs.length) (h2:k<r.length),qu fs[k] r[k]=0
 | f::t,c::r,k,h,hl,h1,h2=>by
  unfold qv at h;by_cases hm:qu f c=0
  ·rw[jdu hm]at h
   cases k with
   | zero=>exact hm
   | succ k=>exact EB (k:=k) h (by simpa using hl) (by simpa using h1) (by simpa using h2)
  ·rw[jdt hm]at h
   exact absurd h hm
 | [],r,k,h,hl,h1,h2=>by simp at h1
 | f::t,[],k,h,hl,h1,h2=>by simp at h2
theorem NP{f:Fd}{c:Cl}(h:qu f c=0):c.1=0∨c.1=f.2.2.1:=by
 unfold qu at h;by_cases h0:c.1=0
 ·exact Or.inl h0
 ·rw[jdt h0]at h
  by_cases h1:c.1≠f.2.2.1
  ·rw[jdu h1]at h
   cases h
  ·exact Or.inr (by omega)
theorem eX{fs:List Fd}{p:List Row}(h:jQ fs p)(hk:∀ f∈fs,1<=f.2.2.1/\f.2.2.1<=3)(hl:p.length<=256){k:Nat}(pC:k<fs.length):Col (mb fs k) (cW p k):=by
 rw[mc pC];refine⟨hk _ (jdA pC),by rw[dr];exact hl,fun c hc=>?_⟩;obtain⟨r,hr,rfl⟩:=jdR.1 hc;obtain⟨h1,h2⟩:=h r hr;have h3:=qy h1;have aB:k<r.length:=by omega
 rw[List.getD_eq_getElem?_getD,List.getElem?_eq_getElem aB]
 have hf:qv fs r=0:=by
  unfold jK at h1;rwa[jdt (by omega)]at h1
 exact(h2 _ (jdA aB)).cellk (NP (EB hf h3 pC aB))
theorem Xs{k n:Nat}{l:List Cl}(hc:Col k l)(hn:l.length=n)(c b:List Nat):iz k n (eo k l++c,uv (eo k l).length++b,false)=(l,c,b,false):=by
 have hs:=(iw hc).1;obtain⟨h1,h2,h3⟩:=pZ (lo:=0) (hi:=(eo k l++c).length) (n:=(eo k l).length) (jeh _) (by simp) (by omega) b;unfold iz;simp only[h1,h2,h3];rw[jet,jed,← hn,GK hc];rfl
theorem TI{fs:List Fd}{p:List Row}{n:Nat}(dW:∀ k,k<fs.length->Col (mb fs k) (cW p k))(hn:p.length=n):∀{k:Nat},k<=fs.length->∀ c b:List Nat,
  grK fs n (eN fs p k++c,ftK fs p k++b,false) k=(fP n ((List.range k).map (cW p)),((List.range k).map fun i=>cA (cW p i)),(c,b,false)):=by
 intro k;induction k with
 | zero =>
  intro _ c b;show (List.replicate n ([]:Row),([]:List Stt),_)=_
  simp[wZ,eN,ftK]
 | succ k ih =>
  intro hk c b;rw[rr (by omega),me,nR,jdL,jdL,jdL,ih (by omega)];have bR:(cW p k).length=n:=by rw[dr];exact hn
  have hc:=dW k (by omega);rw[mc (by omega)]at hc;unfold grS;simp only[mc (show k<fs.length by omega)];rw[Xs hc bR];simp only[Xj];rw[xd bR,jeN,jdQ,jdQ];rfl
def grp(fs:List Fd)(p:List Row):Gr:=(p,(List.range fs.length).map fun i=>cA (cW p i))
theorem TJ{fs:List Fd}{g:Nat}{rs:List Row}(hr:jQ fs rs)(hk:∀ f∈fs,1<=f.2.2.1/\f.2.2.1<=3)(hg:g<=64):∀(j:Nat) (c b:List Nat),
  fiJ fs g rs.length (iy fs g rs j++c,ftJ fs g rs j++b,false) j=((List.range j).map fun i=>grp fs (prt g rs i),(c,b,false)):=by
 intro j;induction j with
 | zero=>intro c b;rfl
 | succ j ih =>
  intro c b;have hp:=hr.part g j;have hl:=bZ g rs j;have h1:=TI (fs:=fs) (p:=prt g rs j) (fun k pC=>eX hp hk (by omega) pC) rfl (jdw _) c b;rw[hl]at h1
  have h0:fiJ fs g rs.length (iy fs g rs (j+1)++c,ftJ fs g rs (j+1)++b,false) j=((List.range j).map fun i=>grp fs (prt g rs i),(eN fs (prt g rs j) fs.length++c,ftK fs (prt g rs j) fs.length++b,false)):=by
   rw[sV,wW,jdL,jdL];exact ih _ _
  have jX:fP (min (rs.length-j*g) g) ((List.range fs.length).map (cW (prt g rs j)))=prt g rs j:=by
   rw[← hl];exact DV (fun r BT=>qy (hp r BT).1)
  show ((fiJ fs g rs.length _ j).1++[_],_)=_
  rw[h0];simp only;rw[h1,jX,jeN,jdQ];rfl
theorem TK(g:Nat)(hg:0<g):nps g 0=0:=by
 unfold nps;rw[jdZ,Nat.div_eq_of_lt (by omega)]
theorem kH{g n j:Nat}(hg:0<g):j<nps g n↔j*g<n:=by
 unfold nps;constructor
 ·intro h
  have h1:=(Nat.le_div_iff_mul_le hg).1 (show j+1<=(n+g-1) / g by omega);rw[jd9]at h1;omega
 ·intro h
  have:j+1<=(n+g-1) / g:=(Nat.le_div_iff_mul_le hg).2 (by rw[jd9];omega);omega
theorem zL{g:Nat}{rs:List Row}:∀ j:Nat,((List.range j).map (prt g rs)).flatten=rs.take (j*g)
 | 0=>by simp
 | j+1=>by
  rw[jeN,jdQ,je8,zL j];simp only[jd5,jes,jeR,List.flatten_nil,jdT];unfold prt;rw[jd9,jeB,List.take_add]
theorem Br{g:Nat}(hg:0<g)(rs:List Row):(Je g rs).flatten=rs:=by
 unfold Je;rw[zL];apply jee
 have h:=(kH (n:=rs.length) (j:=nps g rs.length) hg);omega
theorem TL(fs:List Fd){g:Nat}(hg:0<g)(rs:List Row):cp ((List.range (nps g rs.length)).map fun i=>grp fs (prt g rs i))=rs:=by
 unfold cp;rw[jd8];exact Br hg rs
theorem ED:∀{l a:List Fd},fe a l=0->∀ f∈l,1<=f.2.2.1/\f.2.2.1<=3
 | [],_,_=>fun f hf=>by simp at hf
 | f::t,a,h=>by
  unfold fe at h;by_cases hm:gg a f=0
  ·rw[jdu hm]at h
   intro x hx;rcases jdN.1 hx with rfl | hx
   ·unfold gg at hm
    unfold kS at hm;simp only[je0]at hm;repeat' (split at hm)
    all_goals first | (cases hm;done) | omega
   ·exact ED h x hx
  ·rw[jdt hm]at h
   exact absurd h hm
theorem ig{id:Nat}{l:List Fd}(h:chk id l=0):∀ f∈l,1<=f.2.2.1/\f.2.2.1<=3:=by
 unfold chk at h;split at h
 ·cases h
 ·exact ED h
theorem Jw{id:Nat}{fs:List Fd}{rs:List Row}{g:Nat}(np:id<4294967296)(ho:∀ f∈fs,Okf f)(hc:chk id fs=0)(hr:jQ fs rs)(hl:rs.length<=256)(eS:1<=g)(ik:g<=64)
  (jw:(ge id fs rs g).length<4294967296):jr (md id fs rs g)=some (id,fs,g,(List.range (nps g rs.length)).map fun i=>grp fs (prt g rs i)):=by
 obtain⟨hrise,h0,h8,hi0⟩:=qx hc
 have hz:szs fs<5000:=by
  have kL:fe [] fs=0:=by
   unfold chk at hc;rw[jdt (by omega)]at hc;exact hc
  have hn:=qz kL
  have:∀ m:List Fd,(∀ f∈m,f.2.1.size<=16)->szs m<=16*m.length:=by
   intro m;induction m with
   | nil=>intro _;simp[szs]
   | cons x t ih =>
    intro hx;have h1:=ih (fun f hf=>hx f (jeM _ hf));have h2:=hx x (List.mem_cons_self ..);unfold szs at *;simp only[jd5,List.sum_cons,jdD];omega
  have:=this fs hn;omega
 have bR:(md id fs rs g).length-4=(iy fs g rs (nps g rs.length)++ge id fs rs g).length:=by
  unfold md;rw[jdy];simp[le4]
 have h4:¬ (md id fs rs g).length<4:=by
  unfold md;rw[jdy];simp[le4]
 have hd:(md id fs rs g).drop ((md id fs rs g).length-4)=le4 (ge id fs rs g).length:=by
  rw[bR];unfold md;rw[jed]
 have ht:(md id fs rs g).take ((md id fs rs g).length-4)=iy fs g rs (nps g rs.length)++ge id fs rs g:=by
  rw[bR];unfold md;rw[jet]
 have UA:leN (le4 (ge id fs rs g).length)=(ge id fs rs g).length:=Be jw
 have hcut:(md id fs rs g).length-4-(ge id fs rs g).length=(iy fs g rs (nps g rs.length)).length:=by
  rw[bR,jdy];omega
 have XV:(md id fs rs g).take (iy fs g rs (nps g rs.length)).length=iy fs g rs (nps g rs.length):=by
  unfold md;rw[jdL,jet]
 unfold jr;rw[jdt h4,hd,UA,jdt (by rw[bR,jdy];omega),ht,hcut,jed,XV]
 have hun:db (ge id fs rs g)=.ok ((id,fs),uv rs.length++(uv g++ftJ fs g rs (nps g rs.length))):=by
  unfold ge;rw[jdL,jdL];have h1:=CO np ho hz (by omega) (uv rs.length++(uv g++ftJ fs g rs (nps g rs.length)));rw[jdu hc]at h1;exact h1
 rw[hun];simp only;obtain⟨a1,a2,a3⟩:=pZ (lo:=0) (hi:=256) (n:=rs.length) (jeh _) hl (by omega) (uv g++ftJ fs g rs (nps g rs.length));obtain⟨b1,b2,b3⟩:=pZ (lo:=1) (hi:=64) (n:=g) eS ik (by omega) (ftJ fs g rs (nps g rs.length))
 have hrest:ie fs (iy fs g rs (nps g rs.length)) (uv rs.length++(uv g++ftJ fs g rs (nps g rs.length)))=((List.range (nps g rs.length)).map fun i=>grp fs (prt g rs i),([],[],false)):=by
  unfold ie;rw[a1,a2,a3,b1,b2,b3];have:=TJ hr (ig hc) ik (nps g rs.length) [] [];rw[jdT,jdT]at this;exact this
 rw[hrest,a3,b2];rfl
end Go.Proofs.YtpljdjmpamjkhaaGreatDoor
