import Derived.Test.YtpljdjmpamjkhaaGreatDoorYba
import Derived.Test.YtpljdjmpamjkhaaGreatDoorYay
set_option linter.unusedVariables false
set_option linter.unusedSimpArgs false
set_option maxRecDepth 100000
set_option maxHeartbeats 4000000
namespace Go.Proofs.YtpljdjmpamjkhaaGreatDoor
open Go.RowKit Go.Lib
theorem xS{w:World}{B e n:Nat}{v:Value}{xs:List Value}(h:w.ownsRow B e 1 v n xs):∀ k,v.ownBlock=some k->k<w.heap.size:=fun k hk=>(h.lt k hk).2
theorem Gp{w:World}{g p q k:Nat}{v vl:Value}{l:List (Nat×Int×List Nat)}(hg:Gs w g v [])(hp:p<g)(hq:q<g)(eO:w.cell? ⟨p,0,none⟩=some vl)(dP:w.cell? ⟨q,0,none⟩=some (.int .u8 (k:Int)))
  (hs:Sv w vl (aI l)) (fU:∀ k,vl.ownBlock=some k->k<g) (hc:Col k l) :
  Calls Tryz.prog 124 #[.func (.func 168) #[] #[.pointer (some ⟨g,0,none⟩)],.pointer (some ⟨p,0,none⟩),.pointer (some ⟨q,0,none⟩)] w (jm w g (em k l)):=by
 have BB:=hg.lt;have pe:=ae eO;have mT:=ae dP;have HS:=ae hs;have rB:=ae fU;obtain⟨hk,hl,hcells⟩:=hc;have HC:=ae hcells;have hhd:=(rV (l:=l) hl).1;have Hx:Hid (em k l=dD l++gi k l):=rfl;have BM:=ae (AK hg (by simp) hs hl);have hol:=gS l;obtain⟨a,cap,rfl,_,_⟩:=hs.form1;rw[aF]at *;clear hg hs fU hcells dP;obtain rfl | rfl | rfl:k=1∨k=2∨k=3:=by omega
 ·have je:=iS HC.out
  have fM:=gx je.1 (by rw[ZU];omega);have HI:=ae je.1;have RM:=ae (vG l);clear je;go_enter Tryz.func124,Tryz.ntmps124
  go_wp2_with fail;refine BM.out.mono ?_;rintro e w1 ⟨rfl,⟨v1,eQ⟩,aG⟩;have sX:=ae eQ;have aQ:=ae aG;have RN:=eE pe.out aG hp;have RO:=eE mT.out aG hq;have zO:=ae (F5 (HS.out.keptB rB.out aG) hl HC.out);clear eQ aG eO;go_wp2_with fail;refine zO.out.mono ?_;rintro e w2 ⟨⟨v2,rfl,fq⟩,aD⟩;have Hp:=ae (sX.out.kept aD);have aN:=ae (aQ.out.trans (aD.mono (jac sX.out.lt)));have na:=ae (sy fq.sv (by rw[ZU];omega) HI.out);clear fq aD RN RO;go_wp2_with fail;refine na.out.mono ?_;rintro e w3 ⟨⟨v3,rfl,fN⟩,aP⟩;have bM:=ae (aN.out.trans (aP.mono (jac Hp.out.lt)));have Hz:=ae (eU (Hp.out.kept aP) fN.sv (by simp only[jaH];omega));clear fN aP;go_wp2_with fail;refine Hz.out.mono ?_;rintro e w4 ⟨rfl,⟨v4,iL⟩,bv,_⟩;rw[jaH,← RM.out,← Hx.out]at iL;have SW:=ae iL;have b9:=ae (bM.out.trans bv);clear iL bv;go_wp2_with fail;go_end0
  exact⟨rfl,⟨_,SW.out⟩,b9.out⟩
 ·have je:=fF HC.out
  have fM:=jn je.1 (by rw[ZU];omega);have HI:=ae je.1;have RM:=ae (vH l);clear je;go_enter Tryz.func124,Tryz.ntmps124
  go_wp2_with fail;refine BM.out.mono ?_;rintro e w1 ⟨rfl,⟨v1,eQ⟩,aG⟩;have sX:=ae eQ;have aQ:=ae aG;have RN:=eE pe.out aG hp;have RO:=eE mT.out aG hq;have zO:=ae (F7 (HS.out.keptB rB.out aG) hl HC.out);clear eQ aG eO;go_wp2_with fail;refine zO.out.mono ?_;rintro e w2 ⟨⟨v2,rfl,fq⟩,aD⟩;have Hp:=ae (sX.out.kept aD);have aN:=ae (aQ.out.trans (aD.mono (jac sX.out.lt)));have na:=ae (zj fq.sv HI.out);clear fq aD RN RO;go_wp2_with fail;refine na.out.mono ?_;rintro e w3 ⟨⟨v3,rfl,fN⟩,aP⟩;have bM:=ae (aN.out.trans (aP.mono (jac Hp.out.lt)));have Hz:=ae (eU (Hp.out.kept aP) fN.sv (by simp only[jaH];omega));clear fN aP;go_wp2_with fail;refine Hz.out.mono ?_;rintro e w4 ⟨rfl,⟨v4,iL⟩,bv,_⟩;rw[jaH,← RM.out,← Hx.out]at iL;have SW:=ae iL;have b9:=ae (bM.out.trans bv);clear iL bv;go_wp2_with fail;go_end0
  exact⟨rfl,⟨_,SW.out⟩,b9.out⟩
 ·have je:=gE HC.out
  have fM:=(mq je.1 (by rw[ZU];omega)).1;have HI:=ae je.1;have RM:=ae (vI l);clear je;go_enter Tryz.func124,Tryz.ntmps124
  go_wp2_with fail;refine BM.out.mono ?_;rintro e w1 ⟨rfl,⟨v1,eQ⟩,aG⟩;have sX:=ae eQ;have aQ:=ae aG;have RN:=eE pe.out aG hp;have RO:=eE mT.out aG hq;have zO:=ae (F6 (HS.out.keptB rB.out aG) hl HC.out);clear eQ aG eO;go_wp2_with fail;refine zO.out.mono ?_;rintro e w2 ⟨⟨v2,rfl,fq⟩,aD⟩;have Hp:=ae (sX.out.kept aD);have aN:=ae (aQ.out.trans (aD.mono (jac sX.out.lt)));have na:=ae (xR fq.sv (xS fq) (by rw[ZU];omega) HI.out);clear fq aD RN RO;go_wp2_with fail;refine na.out.mono ?_;rintro e w3 ⟨⟨v3,rfl,fN⟩,aP⟩;have bM:=ae (aN.out.trans (aP.mono (jac Hp.out.lt)));have Hz:=ae (eU (Hp.out.kept aP) fN.sv (by simp only[jaH];omega));clear fN aP;go_wp2_with fail;refine Hz.out.mono ?_;rintro e w4 ⟨rfl,⟨v4,iL⟩,bv,_⟩;rw[jaH,← RM.out,← Hx.out]at iL;have SW:=ae iL;have b9:=ae (bM.out.trans bv);clear iL bv;go_wp2_with fail;go_end0
  exact⟨rfl,⟨_,SW.out⟩,b9.out⟩
def sJ(r:List Nat×Nat)(w:World)(e:Ending)(w':World):Prop:=(∃ v,e=.returned (.tuple #[v,.int .i64 (r.2:Int)])/\aC w' w.heap.size v r.1)/\Below w.heap.size w w'
theorem Gq{k:Nat}{l:List (Nat×Int×List Nat)}(h:(dQ k l).2≠0):(dQ k l).1=[]:=by
 unfold dQ at h ⊢;split
 ·split
  ·next h1 h2 =>
   rw[if_pos h1,if_pos h2]at h;exact absurd rfl h
  ·rfl
 ·rfl
theorem DB{k:Nat}{l:List (Nat×Int×List Nat)}(hf:∀ c∈l,aU c)(h:(dQ k l).2=0):Col k l:=by
 unfold dQ at h;split at h
 ·next h1 =>
  split at h
  ·next h2=>exact⟨⟨h1.1,h1.2.1⟩,h2.1,fun c hc=>(hf c hc).cellk (h1.2.2 c hc)⟩
  ·simp at h
 ·simp at h
theorem zq{w:World}{vl:Value}{l:List (Nat×Int×List Nat)}(hs:Sv w vl (aI l))(fU:∀ k,vl.ownBlock=some k->k<w.heap.size)(hf:∀ c∈l,aU c)(k:Nat) :
  Calls Tryz.prog 83 #[.int .u8 (k:Int),vl] w (sJ (dQ k l) w):=by
 obtain⟨a,cap,rfl,_,_⟩:=hs.form1;have cW:=ZS w (.cells #[.int .u8 (k:Int)] 50);have bm:=ZS (w.alloc (.cells #[.int .u8 (k:Int)] 50)) (.cells #[.slice a (aI l).length cap] 79);have aG:=ak w (.cells #[.int .u8 (k:Int)] 50);have aD:=ak (w.alloc (.cells #[.int .u8 (k:Int)] 50)) (.cells #[.slice a (aI l).length cap] 79);have xw:=aG.trans (aD.mono (by omega));have fZ:=ae xw;have Ho:=ae (F9 (hs.kept xw) hf k);have SI:=ae (aK w (.int .u8 (k:Int)) 50);have Yf:=ae (aK (w.alloc (.cells #[.int .u8 (k:Int)] 50)) (.slice a (aI l).length cap) 79);have HC1':Hid (((w.alloc (.cells #[.int .u8 (k:Int)] 50)).alloc (.cells #[.slice a (aI l).length cap] 79)).cell? ⟨w.heap.size,0,none⟩=some (.int .u8 (k:Int))):=ae ((aD.cell (p:=⟨w.heap.size,0,none⟩) (by show w.heap.size<_;omega)).trans SI.out);have sW:=ae (Gq (k:=k) (l:=l));have zP:=ae (fun h=>DB (k:=k) (l:=l) hf h);have HWC:=ae (fun h=>kb (k:=k) (l:=l) h)
 have HGA:=ae (fun(W1:World) (hw:Below ((w.alloc (.cells #[.int .u8 (k:Int)] 50)).alloc (.cells #[.slice a (aI l).length cap] 79)).heap.size ((w.alloc (.cells #[.int .u8 (k:Int)] 50)).alloc (.cells #[.slice a (aI l).length cap] 79)) W1) (dT:Col k l)=>Qh (w:=W1) (p:=.pointer (some ⟨w.heap.size+1,0,none⟩)) (q:=.pointer (some ⟨w.heap.size,0,none⟩)) (bs:=em k l) (fun W hg hb=>by
  have jq:=hw.size;have aP:Below w.heap.size w W:=xw.trans ((hw.trans (hb.mono jq)).mono (by omega));refine Gp (vl:=.slice a (aI l).length cap) hg (by omega) (by omega) ?_ ?_ (hs.kept aP) (fun k hk=>by have:=fU k hk;omega) dT
  ·rw[hb.cell (p:=⟨w.heap.size+1,0,none⟩) (by show w.heap.size+1<_;omega),hw.cell (p:=⟨w.heap.size+1,0,none⟩) (by show w.heap.size+1<_;omega)]
   have:=Yf.out;rwa[cW]at this
  ·rw[hb.cell (p:=⟨w.heap.size,0,none⟩) (by show w.heap.size<_;omega),hw.cell (p:=⟨w.heap.size,0,none⟩) (by show w.heap.size<_;omega)]
   exact HC1'.out))
 clear hs fU hf aG aD xw;generalize dQ k l=wc at *;obtain⟨bs,er⟩:=wc;simp only at *;generalize (aI l).length=n at *;by_cases he:er=0
 ·subst he
  have dT:=zP.out rfl;have tS:Hid (bs=em k l):=ae (by have:=HWC.out dT;simpa using this);have mX:=ae dT;clear dT;go_enter Tryz.func83,Tryz.ntmps83
  go_wp2_with fail;refine Ho.out.mono ?_;rintro e w1 ⟨rfl,aG⟩;have HGA1:=ae (HGA.out w1 aG mX.out);have aQ:=ae (fZ.out.trans (aG.mono (by omega)));have iB:=aG.size;clear aG;go_wp2_with fail;refine HGA1.out.mono ?_;rintro e w2 ⟨⟨v2,rfl,fq⟩,aD⟩;have dr:=ae (fq.low (B:=w.heap.size) (by omega));have aN:=ae (aQ.out.trans (aD.mono (by omega)));clear fq aD;go_wp2_with fail;go_ret2
  rw[tS.out];exact⟨⟨_,rfl,dr.out⟩,aN.out⟩
 ·have fO:((er:Int) != 0)=true:=by simpa using he
  have tS:Hid (bs=[]):=ae (sW.out he);clear he;go_enter Tryz.func83,Tryz.ntmps83
  go_wp2_with fail;refine Ho.out.mono ?_;rintro e w1 ⟨rfl,aG⟩;have aQ:=ae (fZ.out.trans (aG.mono (by omega)));clear aG;go_wp2_with fail;go_ret2
  rw[tS.out];exact⟨⟨_,rfl,aC.nil _ _⟩,aQ.out⟩
theorem Sv.keptW{W W':World}{B:Nat}{v:Value}{xs:List Value}(h:Sv W v xs)(hv:0<xs.length->∀ k,v.ownBlock=some k->k<B)(hb:Below B W W'):Sv W' v xs:=by
 obtain⟨a,cap,rfl,h1,h2,h3,h4⟩:=h;refine⟨a,cap,rfl,h1,h2,h3,fun h0=>?_⟩;obtain⟨b,off,rfl,h5,h6⟩:=h4 h0;have hb':b<B:=hv h0 b rfl;exact⟨b,off,rfl,Z9 h5 hb.size,fun j x hj=>(hb.cell (p:=⟨b,off+j,none⟩) hb').trans (h6 j x hj)⟩
def Rs(W:World)(p:Nat)(b:List Nat)(f:Nat):Prop :=
 ∃ a cap,W.heap[p]?=some (.cells #[.slice a b.length cap,.int .i64 (f:Int)] 271 (0,0))/\Sv W (.slice a b.length cap) (aE .u8 b)/\(0<b.length->∀ k,(Value.slice a b.length cap).ownBlock=some k->k<p)/\Bs b
theorem Rs.bs{W:World}{p:Nat}{b:List Nat}{f:Nat}(h:Rs W p b f):Bs b:=by obtain⟨_,_,_,_,_,h⟩:=h;exact h
theorem Rs.lt{W:World}{p:Nat}{b:List Nat}{f:Nat}(h:Rs W p b f):p<W.heap.size:=by obtain⟨_,_,h,_⟩:=h;exact(Array.getElem?_eq_some_iff.1 h).1
theorem Rs.kept{W W':World}{p B:Nat}{b:List Nat}{f:Nat}(h:Rs W p b f)(hb:Below B W W')(hp:p<B):Rs W' p b f:=by
 obtain⟨a,cap,h1,h2,h3,h4⟩:=h;exact⟨a,cap,(hb.block p hp).trans h1,h2.keptW (fun h0 k hk=>jaq (h3 (by rwa[ap]at h0) k hk) hp) hb,h3,h4⟩
theorem Sv.dropG{W:World}{a:Option Addr}{n cap:Nat}{xs:List Value}(h:Sv W (.slice a n cap) xs){k:Nat}(hk:k<=xs.length) :
  Sv W (.slice (if cap=k then a else a.map fun x=>x.add k) (xs.length-k) (cap-k)) (xs.drop k):=by
 obtain⟨a',cap',e,h1,h2,h3,h4⟩:=h;simp only[Value.slice.injEq]at e;obtain⟨rfl,rfl,rfl⟩:=e;refine⟨_,cap-k,by rw[jai],by rw[jai];omega,by omega,fun e=>?_,fun h0=>?_⟩
 ·by_cases hc:cap=k
  ·omega
  ·rw[if_neg hc]at e
   have ha:a=none:=by cases a with | none=>rfl | some x=>simp at e
   have:=h3 ha;omega
 ·rw[jai]at h0
  obtain⟨b,off,rfl,h5,h6⟩:=h4 (by omega);refine⟨b,off+k,?_,h5,fun j x hj=>?_⟩
  ·rw[if_neg (by omega)]
   simp[pp]
  ·rw[List.getElem?_drop]at hj
   have:=h6 (k+j) x hj;rwa[← jaQ]at this
theorem jo{a:Option Addr}{n cap m k c:Nat}{p:Nat}(h:∀ i,(Value.slice a n cap).ownBlock=some i->i<p):∀ i,(Value.slice (if c=k then a else a.map fun x=>x.add k) m (cap-k)).ownBlock=some i->i<p:=by
 intro i hi;cases a with
 | none =>
  split at hi<;>cases hi
 | some x =>
  refine h i ?_;split at hi
  ·exact hi
  ·simp only[jaS,Value.ownBlock]at hi ⊢
   unfold Addr.add at hi;split at hi<;>exact hi
theorem Rs.cells{W:World}{p:Nat}{b:List Nat}{f:Nat}(h:Rs W p b f) :
  ∃ a cap,W.cell? ⟨p,0,none⟩=some (.slice a b.length cap)/\W.cell? ⟨p,1,none⟩=some (.int .i64 (f:Int))/\W.frozen? ⟨p,0,none⟩=false/\W.frozen? ⟨p,1,none⟩=false /\
   b.length<=cap/\cap<=9223372036854775807/\Sv W (.slice a b.length cap) (aE .u8 b)/\(0<b.length->∀ k,(Value.slice a b.length cap).ownBlock=some k->k<p) /\
   (∀ f':Nat,Rs (W.setCell ⟨p,1,none⟩ (.int .i64 (f':Int))) p b f') /\
   (∀ k,k<=b.length->∃ A,(if cap=k then a else a.map fun x=>x.add k)=A/\Rs (W.setCell ⟨p,0,none⟩ (.slice A (b.length-k) (cap-k))) p (b.drop k) f) /\
   Rs (W.setCell ⟨p,0,none⟩ (.slice none 0 0)) p [] f:=by
 have aB:=h.lt;obtain⟨a,cap,h1,h2,h3,h4⟩:=h;have lv:∀ i (x:Value),Below p W (W.setCell ⟨p,i,none⟩ x):=fun i x=>(ZQ p W).setCell (ZR _) x
 have bw:=h2.form1;obtain⟨a',cap',e,lp,kx⟩:=bw;rw[ap]at e lp;simp only[Value.slice.injEq]at e;obtain⟨rfl,_,rfl⟩:=e;refine⟨a,cap,by rw[ax h1];rfl,by rw[ax h1];rfl,by simp[World.frozen?,h1],by simp[World.frozen?,h1],lp,by unfold maxLen at kx;omega,h2,h3,fun f'=>?_,fun k hk=>?_,?_⟩
 ·exact⟨a,cap,by rw[cM h1];rfl,h2.keptW (fun h0=>h3 (by rwa[ap]at h0)) (lv 1 _),h3,h4⟩
 ·refine⟨_,rfl,?_⟩
  have hd:=h2.dropG (k:=k) (by rw[ap];exact hk);rw[ap]at hd;have hv:(aE .u8 b).drop k=aE .u8 (b.drop k):=by simp[aE,List.map_drop]
  rw[hv]at hd;have fM:0<b.length->∀ i,(Value.slice (if cap=k then a else a.map fun x=>x.add k) (b.length-k) (cap-k)).ownBlock=some i->i<p:=fun h0=>jo (m:=b.length-k) (k:=k) (c:=cap) (h3 h0)
  refine⟨_,cap-k,by rw[cM h1,jai];rfl,?_,?_,h4.drop k⟩
  ·rw[jai]
   exact hd.keptW (fun h0=>fM (by rw[ap,jai]at h0;omega)) (lv 0 _)
  ·rw[jai]
   exact fun h0=>fM (by omega)
 ·refine⟨none,0,by rw[cM h1];rfl,Sv.nil _,fun h0=>by simp at h0,fun x hx=>by simp at hx⟩
theorem cB{w:World}{p f:Nat}{b:List Nat}(h:Rs w p b f)(e:Nat) :
  Calls Tryz.prog 237 #[.pointer (some ⟨p,0,none⟩),.int .i64 (e:Int)] w fun r w'=>r=.returned (.tuple #[])/\Rs w' p b (orf f e)/\Fr p w.heap.size w w':=by
 have HS:=ae h;obtain⟨a,cap,h0,h1,h2,h3,h4,h5,h6,h7,h8,h9,mY⟩:=h.cells;have H8:=ae (h8 e);have HF:=ae ((Fr.refl p w.heap.size w).set 1 (.int .i64 (e:Int)));clear h h6 h7 h8 h9 mY;by_cases hf:((f:Int)==0)=true
 ·have hf':f=0:=by simpa using hf
  have HO:Hid (orf f e=e):=by show _=_;unfold orf;rw[if_pos hf']
  clear hf';go_enter Tryz.func237,Tryz.ntmps237
  go_wp2_with fail;go_end0
  rw[HO.out];exact⟨rfl,H8.out,HF.out⟩
 ·have hff:((f:Int)==0)=false:=by simpa using hf
  have HO:Hid (orf f e=f):=by show _=_;unfold orf;rw[if_neg (fun e=>hf (by simp[e]))]
  clear hf;go_enter Tryz.func237,Tryz.ntmps237
  go_wp2_with fail;go_end0
  rw[HO.out];exact⟨rfl,HS.out,Fr.refl _ _ _⟩
theorem wM{w:World}{p f:Nat}{b:List Nat}(h:Rs w p b f) :
  Calls Tryz.prog 280 #[.pointer (some ⟨p,0,none⟩)] w fun r w'=>r=.returned (.tuple #[])/\Rs w' p b (orf f (if b.length=0 then 0 else 32))/\Fr p w.heap.size w w':=by
 have HS:=ae h;obtain⟨a,cap,h0,h1,h2,h3,h4,h5,h6,h7,h8,h9,mY⟩:=h.cells;have HR:=ae (cB h 32);clear h h6 h7 h8 h9 mY;by_cases hp:(b.length:Int) > 0
 ·rw[if_neg (by omega)]
  go_enter Tryz.func280,Tryz.ntmps280
  go_wp2_with fail;refine HR.out.mono ?_;rintro e w1 ⟨rfl,eg,dt⟩;have iM:=ae eg;clear eg;go_wp2_with fail;go_end0
  exact⟨rfl,iM.out,dt⟩
 ·have dW:b.length=0:=by omega
  rw[if_pos dW];have HO:Hid (orf f 0=f):=by show _=_;unfold orf;split<;>simp_all
  clear dW;go_enter Tryz.func280,Tryz.ntmps280
  go_wp2_with fail;go_end0
  rw[HO.out];exact⟨rfl,HS.out,Fr.refl _ _ _⟩
def tkB(c:Nat)(b:List Nat):List Nat:=if b.length<c then [] else b.take c
def tkR(c:Nat)(b:List Nat):List Nat:=if b.length<c then b else b.drop c
def tkF(c:Nat)(b:List Nat)(f:Nat):Nat:=if b.length<c then orf f 30 else f
theorem ot{w:World}{p f:Nat}{b:List Nat}(h:Rs w p b f)(c:Nat)(hc:c<18446744073709551616) :
  Calls Tryz.prog 293 #[.pointer (some ⟨p,0,none⟩),.int .u64 (c:Int)] w fun r w'=>(∃ v,r=.returned v/\Sv w' v (aE .u8 (tkB c b)))/\Rs w' p (tkR c b) (tkF c b f)/\Fr p w.heap.size w w':=by
 have HS:=ae h;obtain⟨a,cap,h0,h1,h2,h3,h4,h5,h6,h7,h8,h9,mY⟩:=h.cells;have HR:=ae (cB h 30);by_cases hp:b.length<c
 ·have hp':(c:Int) > (b.length:Int):=by omega
  have HB:Hid (tkB c b=[]/\tkR c b=b/\tkF c b f=orf f 30):=⟨if_pos hp,if_pos hp,if_pos hp⟩;clear h h6 h7 h8 h9 mY hp;go_enter Tryz.func293,Tryz.ntmps293
  go_wp2_with fail;refine HR.out.mono ?_;rintro e w1 ⟨rfl,eg,dt⟩;have iM:=ae eg;have gd:=ae dt;clear eg dt;go_wp2_with fail;go_ret
  rw[HB.out.1,HB.out.2.1,HB.out.2.2];exact⟨⟨_,rfl,Sv.nil _⟩,iM.out,gd.out⟩
 ·have hp':¬ (c:Int) > (b.length:Int):=by omega
  have HB:Hid (tkB c b=b.take c/\tkR c b=b.drop c/\tkF c b f=f):=⟨if_neg hp,if_neg hp,if_neg hp⟩;obtain⟨A,hA,hSA⟩:=h9 c (by omega);have lr:=ae hSA;have HF:=ae ((Fr.refl p w.heap.size w).set 0 (.slice A (b.length-c) (cap-c)))
  have hT:Sv w (.slice a c cap) (aE .u8 (b.take c)):=by
   have:=h6.take (k:=c) (by rw[ap];omega);rwa[← yW]at this
  have hTb:0<(aE .u8 (b.take c)).length->∀ k,(Value.slice a c cap).ownBlock=some k->k<p:=fun h0 k hk=>h7 (by rw[ap,ZX]at h0;omega) k (by cases a with | none=>cases hk | some x=>exact hk)
  have HT:=ae (hT.keptW hTb ((ZQ p w).setCell (p:=⟨p,0,none⟩) (ZR _) (.slice A (b.length-c) (cap-c))));clear h h6 h7 h8 h9 mY hp hSA hT hTb;go_enter Tryz.func293,Tryz.ntmps293
  go_wp2_with fail;go_ret
  rw[HB.out.1,HB.out.2.1,HB.out.2.2];exact⟨⟨_,rfl,HT.out⟩,lr.out,HF.out⟩
theorem tC{w:World}{p f:Nat}{b:List Nat}(h:Rs w p b f) :
  Calls Tryz.prog 311 #[.pointer (some ⟨p,0,none⟩)] w fun r w'=>r=.returned (.int .u64 ((gt b).1:Int))/\Rs w' p (b.drop (gt b).2.1) (orf f (gt b).2.2)/\Fr p w.heap.size w w':=by
 have HS:=ae h;have HB:=ae h.bs;obtain⟨a,cap,h0,h1,h2,h3,h4,h5,h6,h7,h8,h9,mY⟩:=h.cells;obtain⟨g1,g2,g3,g4⟩:=fQ b;have HG:=ae (Ak HB.out h6);clear h h6 h7 h8 h9 mY g4;generalize gt b=x at *;obtain⟨n,u,c⟩:=x;simp only at *;unfold kE at HG;go_enter Tryz.func311,Tryz.ntmps311
 go_wp2_with fail;refine HG.out.mono ?_;rintro e w1 ⟨rfl,rfl⟩;go_wp2_with fail;refine(cB HS.out c).mono ?_;rintro e w2 ⟨rfl,ef,dM⟩;obtain⟨A0,Cap,k0,k1,k2,k3,k4,k5,k6,k7,k8,k9,k10⟩:=ef.cells;obtain⟨A,hA,hSA⟩:=k9 u g2;have lr:=ae hSA;have gB:=ae (dM.set 0 (.slice A (b.length-u) (Cap-u)));clear ef dM k6 k7 k8 k9 k10 hSA h0 h1 h2 h3;go_wp2_with fail;go_ret
 exact⟨rfl,lr.out,gB.out⟩
def chX:List Nat->Nat
 | []=>0
 | x::_=>if x<=1 then x else 0
def chF(b:List Nat)(f:Nat):Nat :=
 match b with
 | []=>orf f 30
 | x::_=>if x<=1 then f else orf f 40
theorem nC(x:Nat)(t:List Nat)(f:Nat):tkB 1 (x::t)=[x]/\tkR 1 (x::t)=t/\tkF 1 (x::t) f=f:=by
 refine⟨?_,?_,?_⟩
 ·unfold tkB;rw[if_neg (by simp)];rfl
 ·unfold tkR;rw[if_neg (by simp)];rfl
 ·unfold tkF;rw[if_neg (by simp)]
theorem wN{w:World}{p f:Nat}{b:List Nat}(h:Rs w p b f) :
  Calls Tryz.prog 275 #[.pointer (some ⟨p,0,none⟩),.int .u8 0,.int .u8 1] w fun r w'=>r=.returned (.int .u8 (chX b:Int))/\Rs w' p b.tail (chF b f)/\Fr p w.heap.size w w':=by
 have HT:=ae (ot h 1 (by omega));have tS:=ae h.bs;have aB:=h.lt;clear h;cases b with
 | nil =>
  have HE:Hid (tkB 1 []=[]/\tkR 1 []=[]/\tkF 1 [] f=orf f 30):=⟨rfl,rfl,rfl⟩;rw[HE.out.1,HE.out.2.1,HE.out.2.2]at HT;go_enter Tryz.func275,Tryz.ntmps275
  go_wp2_with fail;refine HT.out.mono ?_;rintro e w1 ⟨⟨v1,rfl,BT⟩,eg,dt⟩;have iM:=ae eg;have gd:=ae dt;obtain⟨a,cap,rfl,_,_⟩:=BT.form1;rw[ap]at *;clear eg dt BT;go_wp2_with fail;go_ret
  exact⟨rfl,iM.out,gd.out⟩
 | cons x t =>
  rw[(nC x t f).1,(nC x t f).2.1,(nC x t f).2.2]at HT;have hx:=tS.out x (by simp);go_enter Tryz.func275,Tryz.ntmps275
  go_wp2_with fail;refine HT.out.mono ?_;rintro e w1 ⟨⟨v1,rfl,BT⟩,eg,dt⟩;have iM:=ae eg;have gd:=ae dt;obtain⟨a,cap,rfl,_,bw⟩:=BT.form1;have hcm':cap<=9223372036854775807:=by unfold maxLen at bw;omega
  obtain⟨g,off,rfl,hg,bo⟩:=BT.at1 (k:=0) (x:=.int .u8 (x:Int)) rfl;rw[jaC]at bo;rw[ap]at *;clear BT bw;by_cases ES:x<=1
  ·have HE:Hid (chX (x::t)=x/\chF (x::t) f=f):=⟨if_pos ES,if_pos ES⟩
   obtain rfl | rfl:x=0∨x=1:=by omega
   ·clear eg dt
    go_wp2_with fail;go_ret
    rw[HE.out.1,HE.out.2];exact⟨rfl,iM.out,gd.out⟩
   ·clear eg dt
    go_wp2_with fail;go_ret
    rw[HE.out.1,HE.out.2];exact⟨rfl,iM.out,gd.out⟩
  ·have HE:Hid (chX (x::t)=0/\chF (x::t) f=orf f 40):=⟨if_neg ES,if_neg ES⟩
   have qa:((x:Int) != 0)=true:=by
    have:(x:Int)≠0:=by omega
    simpa using this
   have UM:((x:Int) != 1)=true:=by
    have:(x:Int)≠1:=by omega
    simpa using this
   have HR:=ae (cB eg 40);clear eg dt ES;go_wp2_with fail;refine HR.out.mono ?_;rintro e w2 ⟨rfl,ef,dM⟩;have gC:=ae ef;have gB:=ae (gd.out.trans (dM.mono gd.out.size));clear ef dM;go_wp2_with fail;go_ret
   rw[HE.out.1,HE.out.2];exact⟨rfl,gC.out,gB.out⟩
theorem sK{c:Nat}{b:List Nat}(h:Bs b):Bs (tkB c b):=by
 unfold tkB;split
 ·exact fun x hx=>by simp at hx
 ·exact h.take c
theorem tD{w:World}{p f:Nat}{b:List Nat}(h:Rs w p b f)(n:Nat)(hn:n<=256) :
  Calls Tryz.prog 276 #[.pointer (some ⟨p,0,none⟩),.int .i64 (n:Int)] w fun r w'=>(∃ v,r=.returned v/\dB w' w.heap.size v (unR (tkB (by8 n) b) n 1))/\Rs w' p (tkR (by8 n) b) (orf (tkF (by8 n) b f) (unE (tkB (by8 n) b) n 1))/\Fr p w.heap.size w w':=by
 have HB:=ae h.bs;have aB:=h.lt;have hby2:((n:Int)+8-1) / 8=((by8 n:Nat):Int):=by unfold by8;omega
 have fM:by8 n<=2048:=by unfold by8;omega
 have HT:=ae (ot h (by8 n) (by omega));have Mp:=ae (sK (c:=by8 n) h.bs);clear h;generalize by8 n=L at *;generalize tkB L b=tb at *;generalize tkR L b=tr at *;generalize tkF L b f=tf at *;go_enter Tryz.func276,Tryz.ntmps276
 go_wp2_with fail;refine HT.out.mono ?_;rintro e w1 ⟨⟨v1,rfl,BT⟩,eg,dt⟩;have iM:=ae eg;have gd:=ae dt;have cW:=dt.size;have HU:=ae (te BT.sx Mp.out (n:Int) 1);clear eg dt BT;go_wp2_with fail;refine HU.out.mono ?_;rintro e w2 ⟨v2,rfl,fq,aD⟩;have dr:=ae (aZ fq cW);have bm:=aD.size;have gC:=ae (iM.out.kept aD iM.out.lt);have gB:=ae (gd.out.trans (Fr.of_below (aD.mono cW)));clear fq aD;go_wp2_with fail;refine(cB gC.out _).mono ?_;rintro e w3 ⟨rfl,kX,ix⟩;have m7:=ae kX;have cX:Hid (dB w3 w.heap.size v2 (unR tb n 1)):=ae (ix.own dr.out aB);have p7:=ae (gB.out.trans (ix.mono (by omega)));clear kX ix;go_wp2_with fail;go_ret
 exact⟨⟨_,rfl,cX.out⟩,m7.out,p7.out⟩
theorem mO{w:World}{p f:Nat}{b:List Nat}(h:Rs w p b f)(n:Nat) :
  Calls Tryz.prog 278 #[.pointer (some ⟨p,0,none⟩),.int .i64 (n:Int)] w fun r w'=>(∃ v,r=.returned v/\br w' w.heap.size v (bn b n).1)/\Rs w' p [] (orf f (bn b n).2)/\Fr p w.heap.size w w':=by
 have HS:=ae h;have aB:=h.lt;obtain⟨a,cap,h0,h1,h2,h3,h4,h5,h6,h7,h8,h9,mY⟩:=h.cells;have HR:=ae (Dp h6 h.bs (n:Int));clear h h6 h7 h8 h9 mY;unfold kt at HR;generalize bn b n=rd at *;obtain⟨l,er⟩:=rd;simp only at *;go_enter Tryz.func278,Tryz.ntmps278
 go_wp2_with fail;refine HR.out.mono ?_;rintro e w1 ⟨⟨v1,rfl,eG⟩,aG⟩;have fA:=ae eG;have iM:=ae (HS.out.kept aG aB);have gd:=ae (Fr.of_below (p:=p) aG);have cW:=aG.size;clear eG aG h0 h1 h2 h3;go_wp2_with fail;refine(cB iM.out _).mono ?_;rintro e w2 ⟨rfl,ef,dM⟩;have dr:=ae (fA.out.fr dM aB);have gB:=ae (gd.out.trans (dM.mono cW));have bm:=dM.size;obtain⟨A0,Cap,k0,k1,k2,k3,k4,k5,k6,k7,k8,k9,k10⟩:=ef.cells;have m7:=ae k10;have p7:=ae (gB.out.set 0 (.slice none 0 0));have cX:=ae (dr.out.fr ((Fr.refl p w2.heap.size w2).set 0 (.slice none 0 0)) aB);clear ef dM k6 k7 k8 k9 k10;go_wp2_with fail;go_ret
 exact⟨⟨_,rfl,cX.out⟩,m7.out,p7.out⟩
theorem pR{w:World}{p f:Nat}{b:List Nat}(h:Rs w p b f)(n:Nat) :
  Calls Tryz.prog 312 #[.pointer (some ⟨p,0,none⟩),.int .i64 (n:Int)] w fun r w'=>(∃ v,r=.returned v/\br w' w.heap.size v (bn (tkB (gt b).1 (b.drop (gt b).2.1)) n).1) /\
   Rs w' p (tkR (gt b).1 (b.drop (gt b).2.1)) (orf (tkF (gt b).1 (b.drop (gt b).2.1) (orf f (gt b).2.2)) (bn (tkB (gt b).1 (b.drop (gt b).2.1)) n).2)/\Fr p w.heap.size w w':=by
 have aB:=h.lt;have HN:=ae (tC h);have g1:=(fQ b).1;have ER:=ae (sK (c:=(gt b).1) (h.bs.drop (gt b).2.1));clear h;generalize (gt b).1=sz at *;generalize b.drop (gt b).2.1=b1 at *;generalize orf f (gt b).2.2=f1 at *;have ru:=ae (fun(W:World) (hs:Rs W p b1 f1)=>ot hs sz g1);generalize tkB sz b1=tb at *;generalize tkR sz b1=tr at *;generalize tkF sz b1 f1=tf at *;have Zw:=ae (fun(W:World) (v:Value) (hv:Sv W v (aE .u8 tb))=>Dp hv ER.out (n:Int));unfold kt at Zw;generalize bn tb n=rd at *;obtain⟨l,er⟩:=rd;simp only at *;go_enter Tryz.func312,Tryz.ntmps312
 go_wp2_with fail;refine HN.out.mono ?_;rintro e w1 ⟨rfl,eg,dt⟩;have HT:=ae (ru.out _ eg);have gd:=ae dt;have cW:=dt.size;clear eg dt;go_wp2_with fail;refine HT.out.mono ?_;rintro e w2 ⟨⟨v2,rfl,X6⟩,ef,dM⟩;have gC:=ae ef;have gB:=ae (gd.out.trans (dM.mono cW));have bm:=dM.size;have HR:=ae (Zw.out _ _ X6);clear ef dM X6;go_wp2_with fail;refine HR.out.mono ?_;rintro e w3 ⟨⟨v3,rfl,fN⟩,aP⟩;have cX:=ae (aZ fN (ZZ cW bm));have m7:=ae (gC.out.kept aP gC.out.lt);have p7:=ae (gB.out.trans (Fr.of_below (aP.mono (ZZ cW bm))));have iB:=aP.size;clear fN aP;go_wp2_with fail;refine(cB m7.out _).mono ?_;rintro e w4 ⟨rfl,xn,pj⟩;have eP:Hid (br w4 w.heap.size v3 l):=ae (pj.own cX.out aB);have um:=ae xn;have xx:=ae (p7.out.trans (pj.mono (by omega)));clear xn pj;go_wp2_with fail;go_ret
 exact⟨⟨_,rfl,eP.out⟩,um.out,xx.out⟩
end Go.Proofs.YtpljdjmpamjkhaaGreatDoor
