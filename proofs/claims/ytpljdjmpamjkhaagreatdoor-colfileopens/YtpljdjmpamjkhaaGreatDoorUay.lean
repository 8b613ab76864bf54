import Derived.Test.YtpljdjmpamjkhaaGreatDoorUax
import Derived.Test.YtpljdjmpamjkhaaGreatDoorUat
set_option linter.unusedVariables false
set_option linter.unusedSimpArgs false
set_option maxRecDepth 100000
set_option maxHeartbeats 4000000
namespace Go.Proofs.YtpljdjmpamjkhaaGreatDoor
open Go.RowKit Go.Lib
def Nv(k n:Nat)(l:List (Nat×Int×List Nat)):Prop:=l.length=n/\∀ c∈l,gj k c/\c.1≠0
def byT(k:Nat)(b:List Nat)(l:List (Nat×Int×List Nat))(r:List Nat):Prop:=b=gl k l/\r=[]
theorem xo{l:List (Nat×Int×List Nat)}(h:∀ c∈l,c.1≠0):bT l=l:=by
 unfold bT;rw[List.filter_eq_self];intro c hc;simpa using h c hc
theorem Tm{f:Nat}{b:List Nat}(h:Er f):Er (orf f (if b.length=0 then 0 else 32)):=by
 refine h.orf ?_;split
 ·exact er0
 ·exact er32
theorem jaG{b:List Nat}{f n:Nat}(hb:Bs b)(hf:Er f)(hn:n<=256):RP (Nv 1 n) (byT 1 b) f ((bo b n).1.map fun z=>(1,z,[])) [] (orf f (bo b n).2):=by
 refine⟨hf.orf (rz hn),fun h=>?_,fun y r a1 a2 a3=>?_⟩
 ·obtain⟨h1,h2⟩:=bE h
  obtain⟨h3,h4⟩:=iV hb h2;refine⟨h1,by rw[jdk];omega,fun c hc=>?_⟩;obtain⟨z,hz,rfl⟩:=jdE.1 hc;exact⟨Or.inr (Or.inl ⟨rfl,z,rfl,h4 z hz⟩),by simp⟩
 ·have ho:=xo fun c hc=>(a2.2 c hc).2
  have jl:=iU fun c hc=>(a2.2 c hc).1
  rw[ho]at jl;have aE:b=cP (y.map fun c=>c.2.1):=by rw[a3.1,wn,ho]
  have PH:=jX jl.1 (by rw[jdk];have:=a2.1;omega);rw[jdk,a2.1]at PH;rw[aE,PH,a1,a3.2];exact⟨rfl,jl.2,rfl⟩
theorem jaH{b:List Nat}{f n:Nat}(hf:Er f)(hn:n<=256):RP (Nv 2 n) (byT 2 b) f ((unR (tkB (by8 n) b) n 1).map fun(x:Nat)=>(2,(x:Int),[])) (tkR (by8 n) b) (orf (orf (tkF (by8 n) b f) (unE (tkB (by8 n) b) n 1)) (if (tkR (by8 n) b).length=0 then 0 else 32)):=by
 refine⟨Tm ((Bt hf).orf (show Er (unE _ n ((1:Nat):Int)) from Jm hn (by omega))),fun h=>?_,fun y r a1 a2 a3=>?_⟩
 ·obtain⟨h1,h2⟩:=bE (bE h).1
  obtain⟨h3,h4⟩:=kT h2;refine⟨(rB h1).1,by rw[jdk];exact h3,fun c hc=>?_⟩;obtain⟨z,hz,rfl⟩:=jdE.1 hc;exact⟨Or.inr (Or.inr (Or.inl ⟨rfl,z,rfl,h4 z hz⟩)),by simp⟩
 ·have ho:=xo fun c hc=>(a2.2 c hc).2
  have jl:=fH fun c hc=>(a2.2 c hc).1
  rw[ho]at jl;have aE:b=bg (y.map fun c=>c.2.1.toNat) 1++[]:=by rw[a3.1,wo,ho,jdB]
  have hm:(y.map fun c=>c.2.1.toNat).length<=256:=by rw[jdk];have:=a2.1;omega
  have hl:=eH jl.1 hm;have PH:=oC jl.1 hm;rw[jdk,a2.1]at hl PH;rw[aE,← hl,(gC (a:=bg (y.map fun c=>c.2.1.toNat) 1) (r:=[]) f).1,(gC (a:=bg (y.map fun c=>c.2.1.toNat) 1) (r:=[]) f).2.1,(gC (a:=bg (y.map fun c=>c.2.1.toNat) 1) (r:=[]) f).2.2,PH.1,PH.2,a1,a3.2];exact⟨rfl,jl.2,rfl⟩
theorem jaI{b b1:List Nat}{f f1 n:Nat}{l:List (List Nat)}(h:RP (Nt n) (byW b) f l b1 f1):RP (Nv 3 n) (byT 3 b) f (l.map fun s=>(3,0,s)) b1 (orf f1 (if b1.length=0 then 0 else 32)):=by
 obtain⟨r1,r2,r3⟩:=h;refine⟨Tm r1,fun h=>?_,fun y r a1 a2 a3=>?_⟩
 ·obtain⟨h1,h2,h3⟩:=r2 (bE h).1
  refine⟨h1,by rw[jdk];exact h2,fun c hc=>?_⟩;obtain⟨s,hs,rfl⟩:=jdE.1 hc;exact⟨Or.inr (Or.inr (Or.inr ⟨rfl,s,rfl,h3 s hs⟩)),by simp⟩
 ·have ho:=xo fun c hc=>(a2.2 c hc).2
  have jl:=gG fun c hc=>(a2.2 c hc).1
  rw[ho]at jl;obtain⟨d1,d2,d3⟩:=r3 (y.map fun c=>c.2.2) [] a1 ⟨by rw[jdk];exact a2.1,jl.1⟩ ⟨by rw[a3.1,ws,ho],rfl⟩;rw[d2,d3,d1,a3.2];exact⟨rfl,jl.2,rfl⟩
def Ln(k n:Nat)(b:List Nat)(p f:Nat)(w:World)(r:Ending)(w':World):Prop :=
 ∃ l b' f',(∃ v,r=.returned v/\OwnV w' w.heap.size v l)/\Rs w' p b' f'/\RP (Nv k n) (byT k b) f l b' f'/\Fr p w.heap.size w w'
theorem Tn{w:World}{p f:Nat}{b:List Nat}(h:Rs w p b f)(hf:Er f)(n:Nat)(hn:n<=256) :
  Calls Tryz.prog 263 #[.pointer (some ⟨p,0,none⟩),.int .u8 1,.int .i64 (n:Int)] w (Ln 1 n b p f w):=by
 have aC:=h.lt;have HN:=ae (mX h n);have KE:=ae (jaG h.bs hf hn);have LS:=ae (qg h.bs hn);clear h;generalize (bo b n).1=L at *;generalize orf f (bo b n).2=f1 at *;have Am:=LS.o.2;go_enter Tryz.func263,Tryz.ntmps263
 go_wp2_with fail;refine HN.o.mono ?_;rintro e w1 ⟨⟨v1,rfl,eI⟩,ek,dv⟩;have iO:=ae ek;have gg:=ae dv;have cY:=dv.size;have Pz:=ae (Sv.of_own eI);have xW:jfb (∀ j,v1.ownBlock=some j->j<w1.heap.size):=ae (fun j hj=>(eI.lt j hj).2);obtain⟨a1,c1,rfl,ly,xM⟩:=aN eI;have hcm1':c1<=9223372036854775807:=by unfold maxLen at xM;omega
 clear ek dv eI xM;go_wp2_with fail;go_loopw [7,21] (fun o i wr=>∃ j:Nat,j<=L.length/\i=.int .i64 (j:Int)/\OwnV wr w1.heap.size o ((L.take j).map (fun z=>((1,z,[]):Nat×Int×List Nat)))/\Below w1.heap.size w1 wr) (fun _ i _=>L.length-(intOf i).toNat)
 case atStart=>exact⟨0,by omega,rfl,OwnV.nil _ _,jdg _ _⟩
 case round =>
  obtain⟨j,hj,rfl,aA,az⟩:=hrel;have HO:=ae aA;have HB:=ae az;have bP:=az.size;clear aA az;by_cases rX:j<L.length
  ·obtain⟨g,off,rfl,hg,bq⟩:=(Pz.o.keptB xW.o HB.o).at1 (oH rX)
   have hjl':(j:Int)<(L.length:Int):=(by omega)
   have nh:jfb ((L.take (j+1)).map (fun z=>((1,z,[]):Nat×Int×List Nat))=(L.take j).map (fun z=>((1,z,[]):Nat×Int×List Nat))++[(fun z=>((1,z,[]):Nat×Int×List Nat)) L[j]]):=ae (by
    rw[jdx rX,jdC];rfl)
   have hlen':((L.take j).map (fun z=>((1,z,[]):Nat×Int×List Nat))).length<=100000:=by rw[jdk,jdo];omega
   generalize L[j]=z at *;generalize (L.take j).map (fun z=>((1,z,[]):Nat×Int×List Nat))=LL at *;go_wp2_with (first | (at_builtin;refine gB rfl _ _ rfl w1.heap.size _ _ (1,z,[]) LL rfl (HO.o.kept (ak _ _)) rfl (aL _ _ _) hlen' ?c2 ?_))
   case c2=>first | omega | (rw[jdi];omega)
   intro v' w5 o5 b5;have dJ:=ae o5;have aS:=ae ((HB.o.alloc bP _).trans b5);clear o5 b5;go_wp2_with fail;go_roundw
   case rel=>exact⟨j+1,by omega,by go_num,by rw[nh.o];exact dJ.o,aS.o⟩
   case measure=>simp[intOf];omega
  ·obtain rfl:j=L.length:=by omega
   rw[jdp]at HO;have gL:¬ ((L.length:Nat):Int)<(L.length:Int):=(by omega);have Fy:=ae (iO.o.kept HB.o iO.o.lt);have np:=ae (gg.o.trans (Fr.of_below (p:=p) (HB.o.mono cY)));generalize L.map (fun z=>((1,z,[]):Nat×Int×List Nat))=X at *;go_wp2_with fail;refine(xm Fy.o).mono ?_;rintro e w5 ⟨rfl,nW,jz⟩;have dJ:jfb (OwnV w5 w1.heap.size _ X):=ae (jz.own HO.o (by omega));have sd:=ae nW;have xU:=ae (np.o.trans (jz.mono (by omega)));clear nW jz;go_wp2_with fail;go_ret
   exact⟨X,_,_,⟨_,rfl,be dJ.o cY⟩,sd.o,(by rw[show orf f1 (if ([]:List Nat).length=0 then 0 else 32)=f1 by unfold orf;split<;>simp_all];exact KE.o),xU.o⟩
theorem To{w:World}{p f:Nat}{b:List Nat}(h:Rs w p b f)(hf:Er f)(n:Nat)(hn:n<=256) :
  Calls Tryz.prog 263 #[.pointer (some ⟨p,0,none⟩),.int .u8 2,.int .i64 (n:Int)] w (Ln 2 n b p f w):=by
 have aC:=h.lt;have HN:=ae (tY h n hn);have KE:=ae (jaH (b:=b) hf hn)
 have LS:jfb ((∀ x∈unR (tkB (by8 n) b) n 1,x<2)/\(unR (tkB (by8 n) b) n 1).length<=n):=ae (by
  by_cases h0:unE (tkB (by8 n) b) n 1=0
  ·exact⟨(kT h0).2,Nat.le_of_eq (kT h0).1⟩
  ·rw[wE h0]
   exact⟨fun x hx=>by simp at hx,by simp⟩)
 clear h;generalize unR (tkB (by8 n) b) n 1=L at *;generalize orf (tkF (by8 n) b f) (unE (tkB (by8 n) b) n 1)=f1 at *;generalize tkR (by8 n) b=b1 at *;have Am:=LS.o.2;go_enter Tryz.func263,Tryz.ntmps263
 go_wp2_with fail;refine HN.o.mono ?_;rintro e w1 ⟨⟨v1,rfl,eI⟩,ek,dv⟩;have iO:=ae ek;have gg:=ae dv;have cY:=dv.size;have Pz:=ae (Sv.of_own eI);have xW:jfb (∀ j,v1.ownBlock=some j->j<w1.heap.size):=ae (fun j hj=>(eI.lt j hj).2);obtain⟨a1,c1,rfl,ly,xM⟩:=aN eI;have hcm1':c1<=9223372036854775807:=by unfold maxLen at xM;omega
 clear ek dv eI xM;go_wp2_with fail;go_loopw [7,37] (fun o i wr=>∃ j:Nat,j<=L.length/\i=.int .i64 (j:Int)/\OwnV wr w1.heap.size o ((L.take j).map (fun(x:Nat)=>((2,(x:Int),[]):Nat×Int×List Nat)))/\Below w1.heap.size w1 wr) (fun _ i _=>L.length-(intOf i).toNat)
 case atStart=>exact⟨0,by omega,rfl,OwnV.nil _ _,jdg _ _⟩
 case round =>
  obtain⟨j,hj,rfl,aA,az⟩:=hrel;have HO:=ae aA;have HB:=ae az;have bP:=az.size;clear aA az;by_cases rX:j<L.length
  ·obtain⟨g,off,rfl,hg,bq⟩:=(Pz.o.keptB xW.o HB.o).at1 (bS rX)
   have hjl':(j:Int)<(L.length:Int):=(by omega)
   have nh:jfb ((L.take (j+1)).map (fun(x:Nat)=>((2,(x:Int),[]):Nat×Int×List Nat))=(L.take j).map (fun(x:Nat)=>((2,(x:Int),[]):Nat×Int×List Nat))++[(fun(x:Nat)=>((2,(x:Int),[]):Nat×Int×List Nat)) L[j]]):=ae (by
    rw[jdx rX,jdC];rfl)
   have hlen':((L.take j).map (fun(x:Nat)=>((2,(x:Int),[]):Nat×Int×List Nat))).length<=100000:=by rw[jdk,jdo];omega
   have Vy:=LS.o.1 L[j] (jdl rX);generalize L[j]=x at *;generalize (L.take j).map (fun(x:Nat)=>((2,(x:Int),[]):Nat×Int×List Nat))=LL at *;obtain rfl | rfl:x=0∨x=1:=by omega
   ·skip
    go_wp2_with (first | (at_builtin;refine gB rfl _ _ rfl w1.heap.size _ _ (2,((0:Nat):Int),[]) LL rfl (HO.o.kept (ak _ _)) rfl (aL _ _ _) hlen' ?c2 ?_))
    case c2=>first | omega | (rw[jdi];omega)
    intro v' w5 o5 b5;have dJ:=ae o5;have aS:=ae ((HB.o.alloc bP _).trans b5);clear o5 b5;go_wp2_with fail;go_roundw
    case rel=>exact⟨j+1,by omega,by go_num,by rw[nh.o];exact dJ.o,aS.o⟩
    case measure=>simp[intOf];omega
   ·skip
    go_wp2_with (first | (at_builtin;refine gB rfl _ _ rfl w1.heap.size _ _ (2,((1:Nat):Int),[]) LL rfl (HO.o.kept (ak _ _)) rfl (aL _ _ _) hlen' ?c2 ?_))
    case c2=>first | omega | (rw[jdi];omega)
    intro v' w5 o5 b5;have dJ:=ae o5;have aS:=ae ((HB.o.alloc bP _).trans b5);clear o5 b5;go_wp2_with fail;go_roundw
    case rel=>exact⟨j+1,by omega,by go_num,by rw[nh.o];exact dJ.o,aS.o⟩
    case measure=>simp[intOf];omega
  ·obtain rfl:j=L.length:=by omega
   rw[jdp]at HO;have gL:¬ ((L.length:Nat):Int)<(L.length:Int):=(by omega);have Fy:=ae (iO.o.kept HB.o iO.o.lt);have np:=ae (gg.o.trans (Fr.of_below (p:=p) (HB.o.mono cY)));generalize L.map (fun(x:Nat)=>((2,(x:Int),[]):Nat×Int×List Nat))=X at *;go_wp2_with fail;refine(xm Fy.o).mono ?_;rintro e w5 ⟨rfl,nW,jz⟩;have dJ:jfb (OwnV w5 w1.heap.size _ X):=ae (jz.own HO.o (by omega));have sd:=ae nW;have xU:=ae (np.o.trans (jz.mono (by omega)));clear nW jz;go_wp2_with fail;go_ret
   exact⟨X,_,_,⟨_,rfl,be dJ.o cY⟩,sd.o,KE.o,xU.o⟩
theorem Tp{w:World}{p f:Nat}{b:List Nat}(h:Rs w p b f)(hf:Er f)(n:Nat)(hn:n<=256) :
  Calls Tryz.prog 263 #[.pointer (some ⟨p,0,none⟩),.int .u8 3,.int .i64 (n:Int)] w (Ln 3 n b p f w):=by
 have aC:=h.lt;have HN:=ae (Jo h hf n hn);clear h;go_enter Tryz.func263,Tryz.ntmps263
 go_wp2_with fail;refine HN.o.mono ?_;rintro e w1 ⟨L,b1,f1,⟨v1,rfl,eI⟩,Kc,Am,ek,PN,dv⟩;have KE:=ae (jaI PN);clear Kc PN;have iO:=ae ek;have gg:=ae dv;have cY:=dv.size;have Pz:=ae (Sv.of_own eI);have xW:jfb (∀ j,v1.ownBlock=some j->j<w1.heap.size):=ae (fun j hj=>(eI.lt j hj).2);obtain⟨a1,c1,rfl,ly,xM⟩:=aN eI;have hcm1':c1<=9223372036854775807:=by unfold maxLen at xM;omega
 clear ek dv eI xM;go_wp2_with fail;go_loopw [7,54] (fun o i wr=>∃ j:Nat,j<=L.length/\i=.int .i64 (j:Int)/\OwnV wr w1.heap.size o ((L.take j).map (fun s=>((3,0,s):Nat×Int×List Nat)))/\Below w1.heap.size w1 wr) (fun _ i _=>L.length-(intOf i).toNat)
 case atStart=>exact⟨0,by omega,rfl,OwnV.nil _ _,jdg _ _⟩
 case round =>
  obtain⟨j,hj,rfl,aA,az⟩:=hrel;have HO:=ae aA;have HB:=ae az;have bP:=az.size;clear aA az;by_cases rX:j<L.length
  ·obtain⟨g,off,rfl,hg,bq⟩:=(Pz.o.keptB xW.o HB.o).at1 (cL rX)
   have hjl':(j:Int)<(L.length:Int):=(by omega)
   have nh:jfb ((L.take (j+1)).map (fun s=>((3,0,s):Nat×Int×List Nat))=(L.take j).map (fun s=>((3,0,s):Nat×Int×List Nat))++[(fun s=>((3,0,s):Nat×Int×List Nat)) L[j]]):=ae (by
    rw[jdx rX,jdC];rfl)
   have hlen':((L.take j).map (fun s=>((3,0,s):Nat×Int×List Nat))).length<=100000:=by rw[jdk,jdo];omega
   rw[en]at bq;generalize L[j]=s at *;generalize (L.take j).map (fun s=>((3,0,s):Nat×Int×List Nat))=LL at *;go_wp2_with (first | (at_builtin;refine gB rfl _ _ rfl w1.heap.size _ _ (3,0,s) LL rfl (HO.o.kept (ak _ _)) rfl (aL _ _ _) hlen' ?c2 ?_))
   case c2=>first | omega | (rw[jdi];omega)
   intro v' w5 o5 b5;have dJ:=ae o5;have aS:=ae ((HB.o.alloc bP _).trans b5);clear o5 b5;go_wp2_with fail;go_roundw
   case rel=>exact⟨j+1,by omega,by go_num,by rw[nh.o];exact dJ.o,aS.o⟩
   case measure=>simp[intOf];omega
  ·obtain rfl:j=L.length:=by omega
   rw[jdp]at HO;have gL:¬ ((L.length:Nat):Int)<(L.length:Int):=(by omega);have Fy:=ae (iO.o.kept HB.o iO.o.lt);have np:=ae (gg.o.trans (Fr.of_below (p:=p) (HB.o.mono cY)));generalize L.map (fun s=>((3,0,s):Nat×Int×List Nat))=X at *;go_wp2_with fail;refine(xm Fy.o).mono ?_;rintro e w5 ⟨rfl,nW,jz⟩;have dJ:jfb (OwnV w5 w1.heap.size _ X):=ae (jz.own HO.o (by omega));have sd:=ae nW;have xU:=ae (np.o.trans (jz.mono (by omega)));clear nW jz;go_wp2_with fail;go_ret
   exact⟨X,_,_,⟨_,rfl,be dJ.o cY⟩,sd.o,KE.o,xU.o⟩
theorem iw:∀(t:List Nat) (s:List (Nat×Int×List Nat)),(gT t s).length=t.length
 | [],s=>rfl
 | x::t,s=>by
  unfold gT;split
  ·rw[jdn,jdn,iw t s]
  ·rw[jdn,jdn,iw t s.tail]
theorem te:∀{t:List Nat} {s:List (Nat×Int×List Nat)} {j:Nat},(∀ x∈t,x<2)->(h:j<t.length)->(gT t s)[j]?=some (if t[j]=0 then nul else s.getD (t.take j).sum nul)
 | x::t,s,0,h2,h=>by
  unfold gT;by_cases hx:x=0
  ·simp[hx]
  ·cases s<;>simp[hx]
 | x::t,s,j+1,h2,h=>by
  have ht:∀ y∈t,y<2:=fun y hy=>h2 y (by simp[hy])
  unfold gT;by_cases hx:x=0
  ·have:=te (s:=s) ht (show j<t.length by simpa using h)
   simp[hx,this]
  ·have FZ:x=1:=by have:=h2 x (by simp);omega
   have:=te (s:=s.tail) ht (show j<t.length by simpa using h);rw[jde hx,List.getElem?_cons_succ,this]
   have e:s.tail.getD (t.take j).sum nul=s.getD (1+(t.take j).sum) nul:=by
    cases s with
    | nil=>simp
    | cons c s=>simp[List.getD_eq_getElem?_getD,Nat.add_comm 1]
   simp only[e,FZ,List.getElem_cons_succ,jeZ,List.sum_cons]
theorem Jr{z:Value}{l:List Value}{i:Nat}(h:i<l.length)(he:l[i]=z):dx z l (i+1)=dx z l i:=by
 rw[← mc h,he]
 have hg:(dx z l i)[i]?=some z:=by
  unfold dx;rw[List.getElem?_append_right (by rw[jdo];omega),jdo,jeg (by omega),jeH,List.getElem?_replicate,jdf (by omega)]
 apply List.ext_getElem?
 intro k;rw[List.getElem?_set];by_cases hk:i=k
 ·subst hk
  rw[jdf rfl,hg,jdf (by rw[iv (by omega)];exact h)]
 ·rw[jde hk]
theorem Js{w:World}{vt vs:Value}{t:List Nat}{s:List (Nat×Int×List Nat)}(ht:Sv w vt (aF .u64 t))(h2:∀ x∈t,x<2)(hl:t.length<=256)(hs:Sv w vs (aJ s))(nV:s.length=t.sum)(hnz:∀ c∈s,c.1≠0) :
  Calls Tryz.prog 265 #[vt,vs] w fun e w'=>(∃ v',e=.returned v'/\OwnV w' w.heap.size v' (gT t s))/\Below w.heap.size w w':=by
 obtain⟨i0,hi,cm,hz1',bn⟩:=jdA vL;have HT:=ae ht;have HS:=ae hs;have H2:=ae h2;have HNZ:=ae hnz;obtain⟨a,cap,rfl,aY,bx⟩:=ht.form1;obtain⟨a2,cap2,rfl,Uo,yz⟩:=hs.form1;rw[ap]at *;rw[aG]at *;have hcm':cap<=9223372036854775807:=by unfold maxLen at bx;omega
 have hcm2':cap2<=9223372036854775807:=by unfold maxLen at yz;omega
 have PO:=ae (rD h2);obtain⟨D,hD⟩:∃ D,gT t s=D:=⟨_,rfl⟩;have hDl:D.length=t.length:=by rw[← hD,iw]
 have PG:jfb (∀ k (h:k<t.length),(aJ D)[k]?=some (dh (if t[k]=0 then nul else s.getD (t.take k).sum nul))):=ae (fun k h=>by
  have:=te (s:=s) h2 h;rw[hD]at this;simp[aJ,this])
 rw[hD];have kM:=ae hDl;have HSUM:=ae nV;clear ht hs bx yz hD hDl h2 hnz;go_enter Tryz.func265,Tryz.ntmps265
 go_wp2_with (first | (refine jek _ rfl _ _ 79 rfl w.heap.size 78 i0 .nilIface 1 Tryz.underlying79 hi cm hz1' .i64 .i64 _ _ t.length rfl rfl ?m1 ?m2 ?m3 ?m4 ?m5 ?_))
 case m1=>rfl
 case m2=>rfl
 case m3=>rw[bn];omega
 case m4=>unfold maxLen;omega
 case m5=>omega
 intro w4 gF iN;have bw:Below w.heap.size w w4:=(jdg _ _).grown iN (jdh _) (fun k hk=>by cases hk)
 have ho4':w4.ownsRow w.heap.size 78 1 (.slice (some ⟨w.heap.size,0,none⟩) t.length t.length) t.length (dx .nilIface (aJ D) 0):=by
  rw[mF,aG,kM.o,← jeK];simpa using gF
 have eR:=ae ho4';have ce:=ae bw;clear gF iN bw ho4';go_wp2_with fail;go_loopw [6,14] (fun o i wr=>∃ k:Nat,o=.int .i64 ((t.take k).sum:Int)/\i=.int .i64 (k:Int)/\k<=t.length/\wr.ownsRow w.heap.size 78 1 (.slice (some ⟨w.heap.size,0,none⟩) t.length t.length) t.length (dx .nilIface (aJ D) k)/\Below w.heap.size w wr) (fun _ i _=>t.length-(intOf i).toNat)
 case atStart=>exact⟨0,rfl,rfl,by omega,eR.o,ce.o⟩
 case round =>
  obtain⟨k,rfl,rfl,hk,how,az⟩:=hrel;have HB:=ae az;have HO:=ae how;have bP:=az.size;clear az how;by_cases aC:k<t.length
  ·have hkD:k<(aJ D).length:=by rw[aG,kM.o];exact aC
   have hval:(aJ D)[k]=dh (if t[k]=0 then nul else s.getD (t.take k).sum nul):=by
    have:=PG.o k aC;rw[List.getElem?_eq_getElem hkD]at this;exact Option.some.inj this
   obtain⟨b,off,rfl,hb,dR⟩:=(HT.o.kept HB.o).at1 (bS aC);have Vy:=H2.o t[k] (jdl aC);have rQ:=ae (pr aC);have hlt':(k:Int)<(t.length:Int):=(by omega)
   have hsk:(t.take k).sum<=256:=by
    have:=rD (l:=t.take k) fun x hx=>H2.o x (jd3 hx)
    rw[jdo]at this;omega
   by_cases hx:t[k]=0
   ·rw[jdf hx]at hval
    have tu:=ae (Jr (z:=.nilIface) hkD hval);rw[hx]at dR rQ;clear hval hx Vy;generalize (t.take k).sum=sm at *;go_wp2_with fail;go_roundw
    case rel=>exact⟨k+1,by rw[rQ.o,jd9],by go_num,by omega,by rw[tu.o];exact HO.o,HB.o⟩
    case measure=>simp[intOf];omega
   ·have FZ:t[k]=1:=by omega
    rw[jde hx]at hval
    have ft:(t.take k).sum<s.length:=by
     have h1:(t.take (k+1)).sum<=t.sum:=by
      conv=>rhs;rw[← jeD (k+1) t,List.sum_append]
      omega
     rw[rQ.o,FZ]at h1;rw[HSUM.o];omega
    have eg:s.getD (t.take k).sum nul=s[(t.take k).sum]:=by rw[List.getD_eq_getElem?_getD,List.getElem?_eq_getElem ft];rfl
    rw[eg]at hval;obtain⟨b2,off2,rfl,aE,Kf⟩:=(HS.o.kept HB.o).at1 (cM ft);obtain⟨tt,uu,hvv⟩:=lG s[(t.take k).sum] (HNZ.o _ (jdl ft));rw[hvv]at Kf hval;rw[FZ]at dR rQ;have jT:k<(dx .nilIface (aJ D) k).length:=by rw[iv (by omega)];exact hkD
    have tu:=ae (mc (z:=.nilIface) hkD);rw[hval]at tu;have fV:=HO.o;have Fz:=(fV.cellAt k (by omega)).trans (List.getElem?_eq_getElem jT);have FA:=fV.frozenAt k;have hST:=fV.stored k (.iface tt uu);rw[tu.o]at hST;have cT:=ae hST;have Pq:=(fV.lt w.heap.size rfl).2;clear hST fV hval hvv eg hx FZ Vy;generalize (dx .nilIface (aJ D) k)[k]=y at *;generalize (t.take k).sum=sm at *;have hsl':(sm:Int)<(s.length:Int):=(by omega);go_wp2_with fail;go_roundw
    case rel=>exact⟨k+1,by rw[rQ.o];go_num,by go_num,by omega,cT.o.1,cN HB.o (jdh _) _⟩
    case measure=>simp[intOf];omega
  ·obtain rfl:k=t.length:=by omega
   have e:dx .nilIface (aJ D) t.length=aJ D:=by
    have:=oL .nilIface (aJ D);rwa[aG,kM.o]at this
   rw[e]at HO
   have HO':jfb (OwnV wr w.heap.size (.slice (some ⟨w.heap.size,0,none⟩) t.length t.length) D):=ae (by
    unfold OwnV;rw[kM.o];exact HO.o)
   have gL:¬ ((t.length:Nat):Int)<(t.length:Int):=(by omega);clear HO e;go_wp2_with fail;go_ret
   exact⟨⟨_,rfl,HO'.o⟩,HB.o⟩
def rE(n k:Nat):List Nat:=(le4 n).take k++List.replicate (4-k) 0
theorem NA(n:Nat){k:Nat}(h:k<=4):(rE n k).length=4:=by
 unfold rE;simp[le4]
 omega
theorem NB(n:Nat){k:Nat}(h:k<4):(rE n k).set k (n / 2 ^ (8*k) % 256)=rE n (k+1):=by
 have hk:k=0∨k=1∨k=2∨k=3:=by omega
 rcases hk with rfl | rfl | rfl | rfl<;>simp[rE,le4]
theorem NC(n:Nat)(hn:n<9223372036854775808)(w:World):Calls Tryz.prog 85 #[.int .i64 (n:Int)] w (dw w (le4 n)):=by
 obtain⟨i0,hi,cm,hz1',bn⟩:=jdA jm;go_enter Tryz.func85,Tryz.ntmps85
 go_wp2_with (first | (refine jek _ rfl _ _ 30 rfl w.heap.size 5 i0 (.int .u8 0) 1 Tryz.underlying30 hi cm hz1' .i64 .i64 _ _ 4 rfl rfl ?m1 ?m2 ?m3 ?m4 ?m5 ?_))
 case m1=>rfl
 case m2=>rfl
 case m3=>rw[bn];omega
 case m4=>unfold maxLen;omega
 case m5=>omega
 intro w4 gF iN;have bw:Below w.heap.size w w4:=(jdg _ _).grown iN (jdh _) (fun k hk=>by cases hk)
 have eR:jfb (aD w4 w.heap.size (.slice (some ⟨w.heap.size,0,none⟩) 4 4) (rE n 0)):=ae (by
  unfold aD;have h9:=gF;rw[jZ]at h9;exact h9)
 have ce:=ae bw;clear gF iN bw;go_wp2_with fail;go_loopw [8] (fun i wr=>∃ k:Nat,k<=4/\i=.int .i64 (k:Int)/\aD wr w.heap.size (.slice (some ⟨w.heap.size,0,none⟩) 4 4) (rE n k)/\Below w.heap.size w wr) (fun i _=>4-(intOf i).toNat)
 case atStart=>exact⟨0,by omega,rfl,eR.o,ce.o⟩
 case round =>
  obtain⟨k,hk,rfl,aA,az⟩:=hrel;have HO:=ae aA;have HB:=ae az;have bP:=az.size;clear aA az;by_cases aC:k<4
  ·have hlt':(k:Int)<4:=by omega
   have bR:(rE n k).length=4:=NA n hk;obtain⟨hc,hf⟩:=HO.o.at (j:=k) (by omega);have cT:=ae (HO.o.stored k (n / 2 ^ (8*k) % 256));have tu:=ae (NB n aC);rw[tu.o]at cT;have Af:((n / 2 ^ (8*k) % 256:Nat):Int)=(n:Int) / 2 ^ (8*k) % 256:=by simp
   rw[Af]at cT;clear tu Af;go_wp2_with fail;go_roundw
   case rel=>exact⟨k+1,by omega,by go_num,cT.o,cN HB.o (jdh _) _⟩
   case measure=>simp[intOf];omega
  ·obtain rfl:k=4:=by omega
   have gL:¬ ((4:Nat):Int)<4:=(by omega);go_wp2_with fail;go_ret
   refine⟨⟨_,rfl,?_⟩,HB.o⟩;simpa [rE,le4]using HO.o
def Rv(W:World)(v:Value)(rs:List Row):Prop :=
 ∃ a cap,v=.slice a rs.length cap/\rs.length<=cap/\cap<=maxLen/\(a=none->cap=0)/\(0<rs.length->∃ b off,a=some ⟨b,off,none⟩/\b<W.heap.size/\∀ j (h:j<rs.length),∃ rv,W.cell? ⟨b,off+j,none⟩=some rv/\Sv W rv (aJ rs[j]))
theorem Rv.kept{W W':World}{v:Value}{rs:List Row}(h:Rv W v rs)(hb:Below W.heap.size W W'):Rv W' v rs:=by
 obtain⟨a,cap,h1,h2,h3,h4,h5⟩:=h;refine⟨a,cap,h1,h2,h3,h4,fun h0=>?_⟩;obtain⟨b,off,h6,h7,h8⟩:=h5 h0;refine⟨b,off,h6,jdD h7 hb.size,fun j hj=>?_⟩;obtain⟨rv,h9,nk⟩:=h8 j hj;exact⟨rv,(hb.cell (p:=⟨b,off+j,none⟩) h7).trans h9,nk.kept hb⟩
theorem Rv.nil(W:World):Rv W (.slice none 0 0) []:=⟨none,0,rfl,jdh _,by unfold maxLen;omega,fun _=>rfl,fun h=>by simp at h⟩
theorem Rv.form{W:World}{v:Value}{rs:List Row}(h:Rv W v rs):∃ a cap,v=.slice a rs.length cap/\rs.length<=cap/\cap<=9223372036854775807/\(a=none->cap=0):=by
 obtain⟨a,cap,h1,h2,h3,h4,_⟩:=h;exact⟨a,cap,h1,h2,by unfold maxLen at h3;omega,h4⟩
theorem Rv.at{W:World}{a:Option Addr}{n cap:Nat}{rs:List Row}(h:Rv W (.slice a n cap) rs){k:Nat}(hk:k<rs.length) :
  ∃ b off rv,a=some ⟨b,off,none⟩/\b<W.heap.size/\W.cell? ⟨b,off+k,none⟩=some rv/\Sv W rv (aJ rs[k]):=by
 obtain⟨a',cap',e,h1,h2,h3,h4⟩:=h;simp only[Value.slice.injEq]at e;obtain⟨rfl,_,_⟩:=e;obtain⟨b,off,rfl,h5,h6⟩:=h4 (by omega);obtain⟨rv,h7,h8⟩:=h6 k hk;exact⟨b,off,rv,rfl,h5,h7,h8⟩
theorem xp(c:Cl):dh c=.nilIface∨∃ t u,dh c=.iface t u:=by
 unfold dh;split
 ·exact Or.inl rfl
 ·split
  ·exact Or.inr ⟨_,_,rfl⟩
  ·split<;>exact Or.inr ⟨_,_,rfl⟩
theorem Bu{w:World}{v:Value}{rs:List Row}(hs:Rv w v rs)(hl:rs.length<=1000){c:Nat}(hc:∀ r∈rs,c<r.length) :
  Calls Tryz.prog 58 #[v,.int .i64 (c:Int)] w fun e w'=>(∃ v',e=.returned v'/\OwnV w' w.heap.size v' (cV rs c))/\Below w.heap.size w w':=by
 obtain⟨i0,hi,cm,hz1',bn⟩:=jdA vL;have HS:=ae hs;obtain⟨a,cap,rfl,aY,bx,_⟩:=hs.form;obtain⟨D,hD⟩:∃ D,cV rs c=D:=⟨_,rfl⟩;have hDl:D.length=rs.length:=by rw[← hD,dr]
 have PG:jfb (∀ k (h:k<rs.length),(aJ rs[k])[c]?=some (dh (rs[k].getD c nul))/\∃ h2:k<(aJ D).length,(aJ D)[k]=dh (rs[k].getD c nul)):=ae (fun k h=>by
  have h3:=hc _ (jdl h);refine⟨by simp[aJ,List.getD_eq_getElem?_getD,List.getElem?_eq_getElem h3],by rw[aG];omega,?_⟩;simp[aJ,← hD,cV])
 rw[hD];have kM:=ae hDl;clear hs hD hDl hc;go_enter Tryz.func58,Tryz.ntmps58
 go_wp2_with (first | (refine jek _ rfl _ _ 79 rfl w.heap.size 78 i0 .nilIface 1 Tryz.underlying79 hi cm hz1' .i64 .i64 _ _ rs.length rfl rfl ?m1 ?m2 ?m3 ?m4 ?m5 ?_))
 case m1=>rfl
 case m2=>rfl
 case m3=>rw[bn];omega
 case m4=>unfold maxLen;omega
 case m5=>omega
 intro w4 gF iN;have bw:Below w.heap.size w w4:=(jdg _ _).grown iN (jdh _) (fun k hk=>by cases hk)
 have ho4':w4.ownsRow w.heap.size 78 1 (.slice (some ⟨w.heap.size,0,none⟩) rs.length rs.length) rs.length (dx .nilIface (aJ D) 0):=by
  rw[mF,aG,kM.o,← jeK];simpa using gF
 have eR:=ae ho4';have ce:=ae bw;clear gF iN bw ho4';go_wp2_with fail;go_loopw [13] (fun i wr=>∃ k:Nat,i=.int .i64 (k:Int)/\k<=rs.length/\wr.ownsRow w.heap.size 78 1 (.slice (some ⟨w.heap.size,0,none⟩) rs.length rs.length) rs.length (dx .nilIface (aJ D) k)/\Below w.heap.size w wr) (fun i _=>rs.length-(intOf i).toNat)
 case atStart=>exact⟨0,rfl,by omega,eR.o,ce.o⟩
 case round =>
  obtain⟨k,rfl,hk,how,az⟩:=hrel;have HB:=ae az;have HO:=ae how;have bP:=az.size;clear az how;by_cases aC:k<rs.length
  ·obtain⟨hval,hkD,LU⟩:=PG.o k aC
   obtain⟨b,off,rv,rfl,hb,dR,ie⟩:=(HS.o.kept HB.o).at aC;have hvl:=aG rs[k];obtain⟨ra,rcap,rfl,XY,PP⟩:=ie.form1;obtain⟨b2,off2,rfl,aE,Kf⟩:=ie.at1 hval;have hclt:=(List.getElem?_eq_some_iff.1 hval).1;have hlt':(k:Int)<(rs.length:Int):=(by omega);have hclt':(c:Int)<((aJ rs[k]).length:Int):=(by omega);have jT:k<(dx .nilIface (aJ D) k).length:=by rw[iv (by omega)];exact hkD
   have hrc2':rcap<=9223372036854775807:=by unfold maxLen at PP;omega
   rcases xp (rs[k].getD c nul)with h0 | ⟨tt,uu,h0⟩
   all_goals rw[h0]at Kf LU
   all_goals have tu:=ae (mc (z:=.nilIface) hkD)
   all_goals rw[LU]at tu
   all_goals have fV:=HO.o
   all_goals have Fz:=(fV.cellAt k (by omega)).trans (List.getElem?_eq_getElem jT)
   all_goals have FA:=fV.frozenAt k
   ·have hST:=fV.stored k .nilIface
    rw[tu.o]at hST;have cT:=ae hST;clear hST fV hval LU ie h0 hvl;generalize (dx .nilIface (aJ D) k)[k]=y at *;generalize (aJ rs[k]).length=m at *;go_wp2_with fail;go_roundw
    case rel=>exact⟨k+1,by go_num,by omega,cT.o.1,cN HB.o (jdh _) _⟩
    case measure=>simp[intOf];omega
   ·have hST:=fV.stored k (.iface tt uu)
    rw[tu.o]at hST;have cT:=ae hST;clear hST fV hval LU ie h0 hvl;generalize (dx .nilIface (aJ D) k)[k]=y at *;generalize (aJ rs[k]).length=m at *;go_wp2_with fail;go_roundw
    case rel=>exact⟨k+1,by go_num,by omega,cT.o.1,cN HB.o (jdh _) _⟩
    case measure=>simp[intOf];omega
  ·obtain rfl:k=rs.length:=by omega
   have e:dx .nilIface (aJ D) rs.length=aJ D:=by
    have:=oL .nilIface (aJ D);rwa[aG,kM.o]at this
   rw[e]at HO
   have HO':jfb (OwnV wr w.heap.size (.slice (some ⟨w.heap.size,0,none⟩) rs.length rs.length) D):=ae (by
    unfold OwnV;rw[kM.o];exact HO.o)
   have gL:¬ ((rs.length:Nat):Int)<(rs.length:Int):=(by omega);clear HO e;go_wp2_with fail;go_ret
   exact⟨⟨_,rfl,HO'.o⟩,HB.o⟩
theorem bZ(g:Nat)(rs:List Row)(j:Nat):(prt g rs j).length=min (rs.length-j*g) g:=by
 unfold prt;rw[jdo,jdN];omega
def jQ(fs:List Fd)(rs:List Row):Prop:=∀ r∈rs,jL fs r=0/\∀ c∈r,aV c
theorem jQ.part{fs:List Fd}{rs:List Row}(h:jQ fs rs)(g j:Nat):jQ fs (prt g rs j):=fun r hr=>h r (jeO (jd3 hr))
theorem EF:∀{fs:List Fd} {r:Row} {k:Nat},qv fs r=0->r.length=fs.length->∀(h:k<fs.length) (h2:k<r.length),qu fs[k] r[k]=0
 | f::t,c::r,k,h,hl,h1,h2=>by
  unfold qv at h;by_cases hm:qu f c=0
  ·rw[jdf hm]at h
   cases k with
   | zero=>exact hm
   | succ k=>exact EF (k:=k) h (by simpa using hl) (by simpa using h1) (by simpa using h2)
  ·rw[jde hm]at h
   exact absurd h hm
 | [],r,k,h,hl,h1,h2=>by simp at h1
 | f::t,[],k,h,hl,h1,h2=>by simp at h2
theorem ND{f:Fd}{c:Cl}(h:qu f c=0):c.1=0∨c.1=f.2.2.1:=by
 unfold qu at h;by_cases h0:c.1=0
 ·exact Or.inl h0
 ·rw[jde h0]at h
  by_cases h1:c.1≠f.2.2.1
  ·rw[jdf h1]at h
   cases h
  ·exact Or.inr (by omega)
theorem eX{fs:List Fd}{p:List Row}(h:jQ fs p)(hk:∀ f∈fs,1<=f.2.2.1/\f.2.2.1<=3)(hl:p.length<=256){k:Nat}(pu:k<fs.length):Col (lV fs k) (cV p k):=by
 rw[lW pu];refine⟨hk _ (jdl pu),by rw[dr];exact hl,fun c hc=>?_⟩;obtain⟨r,hr,rfl⟩:=jdE.1 hc;obtain⟨h1,h2⟩:=h r hr;have h3:=qy h1;have aC:k<r.length:=by omega
 rw[List.getD_eq_getElem?_getD,List.getElem?_eq_getElem aC]
 have hf:qv fs r=0:=by
  unfold jL at h1;rwa[jde (by omega)]at h1
 exact(h2 _ (jdl aC)).cellk (ND (EF hf h3 pu aC))
theorem Xc{k n:Nat}{l:List Cl}(hc:Col k l)(hn:l.length=n)(c b:List Nat):iu k n (eo k l++c,uv (eo k l).length++b,false)=(l,c,b,false):=by
 have hs:=(io hc).1;obtain⟨h1,h2,h3⟩:=pZ (lo:=0) (hi:=(eo k l++c).length) (n:=(eo k l).length) (jd1 _) (by simp) (by omega) b;unfold iu;simp only[h1,h2,h3];rw[jec,jdY,← hn,GF hc];rfl
theorem Tq{fs:List Fd}{p:List Row}{n:Nat}(dV:∀ k,k<fs.length->Col (lV fs k) (cV p k))(hn:p.length=n):∀{k:Nat},k<=fs.length->∀ c b:List Nat,
  grK fs n (eN fs p k++c,ftK fs p k++b,false) k=(fK n ((List.range k).map (cV p)),((List.range k).map fun i=>cy (cV p i)),(c,b,false)):=by
 intro k;induction k with
 | zero =>
  intro _ c b;show (List.replicate n ([]:Row),([]:List Stt),_)=_
  simp[xh,eN,ftK]
 | succ k ih =>
  intro hk c b;rw[rt (by omega),lY,nM,jdw,jdw,jdw,ih (by omega)];have bR:(cV p k).length=n:=by rw[dr];exact hn
  have hc:=dV k (by omega);rw[lW (by omega)]at hc;unfold grS;simp only[lW (show k<fs.length by omega)];rw[Xc hc bR];simp only[WT];rw[xi bR,jey,jdC,jdC];rfl
def grp(fs:List Fd)(p:List Row):Gr:=(p,(List.range fs.length).map fun i=>cy (cV p i))
theorem Tr{fs:List Fd}{g:Nat}{rs:List Row}(hr:jQ fs rs)(hk:∀ f∈fs,1<=f.2.2.1/\f.2.2.1<=3)(hg:g<=64):∀(j:Nat) (c b:List Nat),
  fiJ fs g rs.length (ir fs g rs j++c,ftJ fs g rs j++b,false) j=((List.range j).map fun i=>grp fs (prt g rs i),(c,b,false)):=by
 intro j;induction j with
 | zero=>intro c b;rfl
 | succ j ih =>
  intro c b;have hp:=hr.part g j;have hl:=bZ g rs j;have h1:=Tq (fs:=fs) (p:=prt g rs j) (fun k pu=>eX hp hk (by omega) pu) rfl (jdh _) c b;rw[hl]at h1
  have h0:fiJ fs g rs.length (ir fs g rs (j+1)++c,ftJ fs g rs (j+1)++b,false) j=((List.range j).map fun i=>grp fs (prt g rs i),(eN fs (prt g rs j) fs.length++c,ftK fs (prt g rs j) fs.length++b,false)):=by
   rw[sX,xe,jdw,jdw];exact ih _ _
  have jV:fK (min (rs.length-j*g) g) ((List.range fs.length).map (cV (prt g rs j)))=prt g rs j:=by
   rw[← hl];exact DZ (fun r Cb=>qy (hp r Cb).1)
  show ((fiJ fs g rs.length _ j).1++[_],_)=_
  rw[h0];simp only;rw[h1,jV,jey,jdC];rfl
theorem Tt(g:Nat)(hg:0<g):nps g 0=0:=by
 unfold nps;rw[jdK,Nat.div_eq_of_lt (by omega)]
theorem kD{g n j:Nat}(hg:0<g):j<nps g n↔j*g<n:=by
 unfold nps;constructor
 ·intro h
  have h1:=(Nat.le_div_iff_mul_le hg).1 (show j+1<=(n+g-1) / g by omega);rw[jdV]at h1;omega
 ·intro h
  have:j+1<=(n+g-1) / g:=(Nat.le_div_iff_mul_le hg).2 (by rw[jdV];omega);omega
theorem zO{g:Nat}{rs:List Row}:∀ j:Nat,((List.range j).map (prt g rs)).flatten=rs.take (j*g)
 | 0=>by simp
 | j+1=>by
  rw[jey,jdC,jeW,zO j];simp only[jdQ,jed,jeB,List.flatten_nil,jdB];unfold prt;rw[jdV,jem,List.take_add]
theorem Bv{g:Nat}(hg:0<g)(rs:List Row):(Ja g rs).flatten=rs:=by
 unfold Ja;rw[zO];apply jdZ
 have h:=(kD (n:=rs.length) (j:=nps g rs.length) hg);omega
theorem Tu(fs:List Fd){g:Nat}(hg:0<g)(rs:List Row):bQ ((List.range (nps g rs.length)).map fun i=>grp fs (prt g rs i))=rs:=by
 unfold bQ;rw[jdT];exact Bv hg rs
theorem EG:∀{l a:List Fd},fe a l=0->∀ f∈l,1<=f.2.2.1/\f.2.2.1<=3
 | [],_,_=>fun f hf=>by simp at hf
 | f::t,a,h=>by
  unfold fe at h;by_cases hm:fY a f=0
  ·rw[jdf hm]at h
   intro x hx;rcases jdz.1 hx with rfl | hx
   ·unfold fY at hm
    unfold kO at hm;simp only[jeL]at hm;repeat' (split at hm)
    all_goals first | (cases hm;done) | omega
   ·exact EG h x hx
  ·rw[jde hm]at h
   exact absurd h hm
theorem gY{id:Nat}{l:List Fd}(h:chk id l=0):∀ f∈l,1<=f.2.2.1/\f.2.2.1<=3:=by
 unfold chk at h;split at h
 ·cases h
 ·exact EG h
theorem Jt{id:Nat}{fs:List Fd}{rs:List Row}{g:Nat}(na:id<4294967296)(ho:∀ f∈fs,Okf f)(hc:chk id fs=0)(hr:jQ fs rs)(hl:rs.length<=256)(eS:1<=g)(gM:g<=64)
  (jx:(fX id fs rs g).length<4294967296):iK (lX id fs rs g)=some (id,fs,g,(List.range (nps g rs.length)).map fun i=>grp fs (prt g rs i)):=by
 obtain⟨hrise,h0,h8,hi0⟩:=qx hc
 have hz:szs fs<5000:=by
  have lz:fe [] fs=0:=by
   unfold chk at hc;rw[jde (by omega)]at hc;exact hc
  have hn:=qz lz
  have:∀ m:List Fd,(∀ f∈m,f.2.1.size<=16)->szs m<=16*m.length:=by
   intro m;induction m with
   | nil=>intro _;simp[szs]
   | cons x t ih =>
    intro hx;have h1:=ih (fun f hf=>hx f (jex _ hf));have h2:=hx x (List.mem_cons_self ..);unfold szs at *;simp only[jdQ,List.sum_cons,jdn];omega
  have:=this fs hn;omega
 have bR:(lX id fs rs g).length-4=(ir fs g rs (nps g rs.length)++fX id fs rs g).length:=by
  unfold lX;rw[jdj];simp[le4]
 have h4:¬ (lX id fs rs g).length<4:=by
  unfold lX;rw[jdj];simp[le4]
 have hd:(lX id fs rs g).drop ((lX id fs rs g).length-4)=le4 (fX id fs rs g).length:=by
  rw[bR];unfold lX;rw[jdY]
 have ht:(lX id fs rs g).take ((lX id fs rs g).length-4)=ir fs g rs (nps g rs.length)++fX id fs rs g:=by
  rw[bR];unfold lX;rw[jec]
 have Ul:leN (le4 (fX id fs rs g).length)=(fX id fs rs g).length:=Bj jx
 have hcut:(lX id fs rs g).length-4-(fX id fs rs g).length=(ir fs g rs (nps g rs.length)).length:=by
  rw[bR,jdj];omega
 have XD:(lX id fs rs g).take (ir fs g rs (nps g rs.length)).length=ir fs g rs (nps g rs.length):=by
  unfold lX;rw[jdw,jec]
 unfold iK;rw[jde h4,hd,Ul,jde (by rw[bR,jdj];omega),ht,hcut,jdY,XD]
 have hun:da (fX id fs rs g)=.ok ((id,fs),uv rs.length++(uv g++ftJ fs g rs (nps g rs.length))):=by
  unfold fX;rw[jdw,jdw];have h1:=CU na ho hz (by omega) (uv rs.length++(uv g++ftJ fs g rs (nps g rs.length)));rw[jdf hc]at h1;exact h1
 rw[hun];simp only;obtain⟨a1,a2,a3⟩:=pZ (lo:=0) (hi:=256) (n:=rs.length) (jd1 _) hl (by omega) (uv g++ftJ fs g rs (nps g rs.length));obtain⟨b1,b2,b3⟩:=pZ (lo:=1) (hi:=64) (n:=g) eS gM (by omega) (ftJ fs g rs (nps g rs.length))
 have hrest:gX fs (ir fs g rs (nps g rs.length)) (uv rs.length++(uv g++ftJ fs g rs (nps g rs.length)))=((List.range (nps g rs.length)).map fun i=>grp fs (prt g rs i),([],[],false)):=by
  unfold gX;rw[a1,a2,a3,b1,b2,b3];have:=Tr hr (gY hc) gM (nps g rs.length) [] [];rw[jdB,jdB]at this;exact this
 rw[hrest,a3,b2];rfl
end Go.Proofs.YtpljdjmpamjkhaaGreatDoor
