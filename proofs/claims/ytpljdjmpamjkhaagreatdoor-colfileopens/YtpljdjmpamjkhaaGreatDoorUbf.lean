import Derived.Test.YtpljdjmpamjkhaaGreatDoorUbe
set_option linter.unusedVariables false
set_option linter.unusedSimpArgs false
set_option maxRecDepth 100000
set_option maxHeartbeats 4000000
namespace Go.Proofs.YtpljdjmpamjkhaaGreatDoor
open Go.RowKit Go.Lib
theorem xr{n:Nat}{l:List Nat}{f:Nat}(h:l.length<n):Rds (textR n) l f (am []) l (orf f 30):=by
 refine⟨fun h0=>?_,fun h0=>by unfold orf;rw[jde h0]⟩;unfold textR orf;rw[jdf h,jdf h0,jde (by omega)]
theorem EV{n:Nat}{l:List Nat}{f:Nat}(h:¬ l.length<n):Rds (textR n) l f (am (l.take n)) (l.drop n) f:=by
 refine⟨fun h0=>?_,fun _=>rfl⟩;unfold textR;rw[jde h,jdf h0]
theorem TF{w:World}{p f:Nat}{b:List Nat}(h:St 200 w p b f) :
  Calls Tryz.prog 212 #[.pointer (some ⟨p,0,none⟩)] w (JD 200 (QH 16) (fun s=>.string s) (fun s=>s.size<=16) p b f w):=by
 have HN:=ae (ja h 16 (by omega));clear h;go_enter Tryz.func212,Tryz.ntmps212
 go_wp2_with fail;refine HN.o.mono ?_;rintro e w1 ⟨n,b1,f1,rfl,hn,ek,As,dv⟩;have iO:=ae ek;have sj:=ae As;have gg:=ae dv;have aR:=ae ek.bs;obtain⟨a,cap,h0,h1,h2,h3,h4,h5,h6,h7,h8,h9⟩:=ek.cells;have Ah:=ae h6;have H9:=ae h9;have H7:=ae h7;clear ek As dv h6 h8 h9 h7 HN;by_cases Zz:b1.length<n
 ·have hsh':(n:Int) > (b1.length:Int):=by omega
  have HT:=ae (sj.o.bind (xr (f:=f1) Zz));go_wp2_with fail;refine(mJ iO.o 30).mono ?_;rintro e w2 ⟨rfl,ei,dO⟩;have gE:=ae ei;have gD:=ae (gg.o.trans (dO.mono gg.o.size));clear ei dO;go_wp2_with fail;go_ret
  exact⟨am [],b1,_,rfl,by show (am []).size<=16;rw[bm];simp,gE.o,HT.o,gD.o⟩
 ·have hsh':¬ (n:Int) > (b1.length:Int):=by omega
  have HT:=ae (sj.o.bind (EV (f:=f1) Zz));have uL:=(Ah.o.take (k:=n) (by rw[ap];omega));have e1:(aF .u8 b1).take n=aF .u8 (b1.take n):=by simp[aF,jeE]
  rw[e1]at uL;have Yg:=uL.conv (aR.o.take n);rw[en]at Yg;have FX:jfb ((am (b1.take n)).size<=16):=ae (by rw[bm,jdo];omega);have Zj:(n:Int)<=(cap:Int):=by omega
  have hnlen:(n:Int)<=(b1.length:Int):=by omega
  have Zb:(0:Int)<=(n:Int):=by omega
  have hnt:((n:Int)).toNat=n:=by omega
  clear uL e1;generalize am (b1.take n)=TX at *;rcases jd4 b1.length with hz | hp
  ·have qs:n=0:=by omega
   subst qs;cases a with
   | none =>
    have oR:=H7.o rfl;subst oR;have iM:=(H9.o none 0 (by omega) (fun _ _=>rfl) (fun h=>by omega));rw[hz]at iM;have cT:=ae iM;have gD:=ae (gg.o.set 0 (.slice none 0 0));clear iM;go_wp2_with fail;go_ret
    exact⟨TX,b1.drop 0,f1,rfl,FX.o,cT.o,HT.o,gD.o⟩
   | some ad =>
    have iM:=(H9.o (some ad) 0 (by omega) (fun _ hA'=>by cases hA') (fun h=>by omega));rw[hz]at iM;have cT:=ae iM;have gD:=ae (gg.o.set 0 (.slice (some ad) 0 cap));clear iM;go_wp2_with fail;go_ret
    exact⟨TX,b1.drop 0,f1,rfl,FX.o,cT.o,HT.o,gD.o⟩
  ·obtain⟨g,off,ha⟩:∃ g off,a=some ⟨g,off,none⟩:=by
    obtain⟨a',cap',e,_,_,_,hx⟩:=Ah.o;simp only[Value.slice.injEq]at e;obtain⟨b',off',e2,_⟩:=hx (by rw[ap];exact hp);exact⟨b',off',e.1.trans e2⟩
   subst ha;obtain⟨A,hA⟩:∃ A,(if cap=n then (some ⟨g,off,none⟩:Option Addr) else some ⟨g,off+n,none⟩)=A:=⟨_,rfl⟩
   have cT:=ae (H9.o A n (by omega) (fun hk hA'=>by
    rw[hA']at hA;split at hA<;>cases hA) (fun hk=>⟨g,off,rfl,by rw[← hA,jde (by omega)]⟩))
   have gD:=ae (gg.o.set 0 (.slice A (b1.length-n) (cap-n)));go_wp2_with fail;go_ret
   exact⟨TX,b1.drop n,f1,rfl,FX.o,cT.o,HT.o,gD.o⟩
def Mid(w:World)(p:Nat)(W:World)(b:List Nat)(f:Nat)(x0 x1 x2 x3:Value):Prop :=
 St 200 W p b f/\p<w.heap.size/\W.heap[w.heap.size]?=some (.cells #[.int .u32 0,.string ⟨#[]⟩,.int .u8 0,.bool false] 81 (0,0)) /\
 W.heap[w.heap.size+1]?=some (.cells #[x0,x1,x2,x3] 81 (0,0))/\Fr p w.heap.size w W
theorem Mid.begin{w:World}{p f:Nat}{b:List Nat}(h:St 200 w p b f) :
  Mid w p ((w.alloc (.cells #[.int .u32 0,.string ⟨#[]⟩,.int .u8 0,.bool false] 81)).alloc (.cells #[.int .u32 0,.string ⟨#[]⟩,.int .u8 0,.bool false] 81)) b f (.int .u32 0) (.string ⟨#[]⟩) (.int .u8 0) (.bool false):=by
 have hbW:=((jdg w.heap.size w).alloc (jdh _) (.cells #[.int .u32 0,.string ⟨#[]⟩,.int .u8 0,.bool false] 81)).alloc (by rw[jdi];omega) (.cells #[.int .u32 0,.string ⟨#[]⟩,.int .u8 0,.bool false] 81);have cm:(w.alloc (.cells #[.int .u32 0,.string ⟨#[]⟩,.int .u8 0,.bool false] 81)).heap.size=w.heap.size+1:=jdi _ _;have aH:=ak (w.alloc (.cells #[.int .u32 0,.string ⟨#[]⟩,.int .u8 0,.bool false] 81)) (.cells #[.int .u32 0,.string ⟨#[]⟩,.int .u8 0,.bool false] 81);have hh0:=jdH w (.cells #[.int .u32 0,.string ⟨#[]⟩,.int .u8 0,.bool false] 81);have hh:=jdH (w.alloc (.cells #[.int .u32 0,.string ⟨#[]⟩,.int .u8 0,.bool false] 81)) (.cells #[.int .u32 0,.string ⟨#[]⟩,.int .u8 0,.bool false] 81);rw[cm]at hh;exact⟨h.kept hbW h.lt,h.lt,(aH.block w.heap.size (by omega)).trans hh0,hh,Fr.of_below hbW⟩
theorem Mid.call{w W W':World}{p f f':Nat}{b b':List Nat}{x0 x1 x2 x3:Value}(h:Mid w p W b f x0 x1 x2 x3)(hs:St 200 W' p b' f')(hf:Fr p W.heap.size W W'):Mid w p W' b' f' x0 x1 x2 x3:=by
 obtain⟨h1,h2,h3,h4,h5⟩:=h;have l3:=(Array.getElem?_eq_some_iff.1 h3).1;have l4:=(Array.getElem?_eq_some_iff.1 h4).1;exact⟨hs,h2,(hf.block _ l3 (by omega)).trans h3,(hf.block _ l4 (by omega)).trans h4,h5.trans (hf.mono (by omega))⟩
theorem Mid.facts{w W:World}{p f:Nat}{b:List Nat}{x0 x1 x2 x3:Value}(h:Mid w p W b f x0 x1 x2 x3) :
  (W.cell? ⟨w.heap.size+1,0,none⟩=some x0/\W.cell? ⟨w.heap.size+1,1,none⟩=some x1/\W.cell? ⟨w.heap.size+1,2,none⟩=some x2/\W.cell? ⟨w.heap.size+1,3,none⟩=some x3) /\
  (W.frozen? ⟨w.heap.size+1,0,none⟩=false/\W.frozen? ⟨w.heap.size+1,1,none⟩=false/\W.frozen? ⟨w.heap.size+1,2,none⟩=false/\W.frozen? ⟨w.heap.size+1,3,none⟩=false) /\
  (W.cell? ⟨w.heap.size,0,none⟩=some (.int .u32 0)/\W.cell? ⟨w.heap.size,1,none⟩=some (.string ⟨#[]⟩)/\W.cell? ⟨w.heap.size,2,none⟩=some (.int .u8 0)/\W.cell? ⟨w.heap.size,3,none⟩=some (.bool false)) /\
  (W.frozen? ⟨w.heap.size,0,none⟩=false/\W.frozen? ⟨w.heap.size,1,none⟩=false/\W.frozen? ⟨w.heap.size,2,none⟩=false/\W.frozen? ⟨w.heap.size,3,none⟩=false):=by
 obtain⟨h1,h2,h3,h4,h5⟩:=h;refine⟨⟨?_,?_,?_,?_⟩,⟨?_,?_,?_,?_⟩,⟨?_,?_,?_,?_⟩,⟨?_,?_,?_,?_⟩⟩<;>first | (rw[ay h4];rfl) | (rw[ay h3];rfl) | (simp[World.frozen?,h4];done) | (simp[World.frozen?,h3];done)
theorem Mid.keep{w W:World}{p f:Nat}{b:List Nat}{x0 x1 x2 x3:Value}(h:Mid w p W b f x0 x1 x2 x3)(j:Nat)(v:Value) :
  St 200 (W.setCell ⟨w.heap.size+1,j,none⟩ v) p b f/\(W.setCell ⟨w.heap.size+1,j,none⟩ v).heap[w.heap.size]?=some (.cells #[.int .u32 0,.string ⟨#[]⟩,.int .u8 0,.bool false] 81 (0,0))/\Fr p w.heap.size w (W.setCell ⟨w.heap.size+1,j,none⟩ v):=by
 obtain⟨h1,h2,h3,h4,h5⟩:=h;have hb:Below (w.heap.size+1) W (W.setCell ⟨w.heap.size+1,j,none⟩ v):=(jdg (w.heap.size+1) W).setCell (show w.heap.size+1<=w.heap.size+1 from jdh _) _;exact⟨h1.kept hb (by omega),(hb.block _ (by omega)).trans h3,h5.then (hb.mono (by omega))⟩
theorem Mid.set0{w W:World}{p f:Nat}{b:List Nat}{x0 x1 x2 x3:Value}(h:Mid w p W b f x0 x1 x2 x3)(v:Value):Mid w p (W.setCell ⟨w.heap.size+1,0,none⟩ v) b f v x1 x2 x3 :=
 ⟨(h.keep 0 v).1,h.2.1,(h.keep 0 v).2.1,by rw[cJ h.2.2.2.1];rfl,(h.keep 0 v).2.2⟩
theorem Mid.set1{w W:World}{p f:Nat}{b:List Nat}{x0 x1 x2 x3:Value}(h:Mid w p W b f x0 x1 x2 x3)(v:Value):Mid w p (W.setCell ⟨w.heap.size+1,1,none⟩ v) b f x0 v x2 x3 :=
 ⟨(h.keep 1 v).1,h.2.1,(h.keep 1 v).2.1,by rw[cJ h.2.2.2.1];rfl,(h.keep 1 v).2.2⟩
theorem Mid.set2{w W:World}{p f:Nat}{b:List Nat}{x0 x1 x2 x3:Value}(h:Mid w p W b f x0 x1 x2 x3)(v:Value):Mid w p (W.setCell ⟨w.heap.size+1,2,none⟩ v) b f x0 x1 v x3 :=
 ⟨(h.keep 2 v).1,h.2.1,(h.keep 2 v).2.1,by rw[cJ h.2.2.2.1];rfl,(h.keep 2 v).2.2⟩
theorem Mid.set3{w W:World}{p f:Nat}{b:List Nat}{x0 x1 x2 x3:Value}(h:Mid w p W b f x0 x1 x2 x3)(v:Value):Mid w p (W.setCell ⟨w.heap.size+1,3,none⟩ v) b f x0 x1 x2 v :=
 ⟨(h.keep 3 v).1,h.2.1,(h.keep 3 v).2.1,by rw[cJ h.2.2.2.1];rfl,(h.keep 3 v).2.2⟩
theorem Mid.done{w W:World}{p f:Nat}{b:List Nat}{x0 x1 x2 x3:Value}(h:Mid w p W b f x0 x1 x2 x3)(y0 y1 y2 y3:Value) :
  St 200 ((((W.setCell ⟨w.heap.size,0,none⟩ y0).setCell ⟨w.heap.size,1,none⟩ y1).setCell ⟨w.heap.size,2,none⟩ y2).setCell ⟨w.heap.size,3,none⟩ y3) p b f /\
  Fr p w.heap.size w ((((W.setCell ⟨w.heap.size,0,none⟩ y0).setCell ⟨w.heap.size,1,none⟩ y1).setCell ⟨w.heap.size,2,none⟩ y2).setCell ⟨w.heap.size,3,none⟩ y3):=by
 obtain⟨h1,h2,h3,h4,h5⟩:=h
 have hb:Below w.heap.size W ((((W.setCell ⟨w.heap.size,0,none⟩ y0).setCell ⟨w.heap.size,1,none⟩ y1).setCell ⟨w.heap.size,2,none⟩ y2).setCell ⟨w.heap.size,3,none⟩ y3) :=
  have oV:w.heap.size<=w.heap.size:=jdh _;((((jdg w.heap.size W).setCell (p:=⟨w.heap.size,0,none⟩) oV _).setCell (p:=⟨w.heap.size,1,none⟩) oV _).setCell (p:=⟨w.heap.size,2,none⟩) oV _).setCell (p:=⟨w.heap.size,3,none⟩) oV _
 exact⟨h1.kept hb h2,h5.then hb⟩
theorem Xj{b b1 b2 b3 b4:List Nat}{f f1 f2 f3 f4 i k n:Nat}{s:ByteArray}(h1:Rds (ik 4294967295) b f i b1 f1)(h2:Rds (QH 16) b1 f1 s b2 f2)(h3:Rds (ik 255) b2 f2 k b3 f3)(h4:Rds (ik 1) b3 f3 n b4 f4) :
  Rds ux b f (i,s,k,decide (n=1)) b4 f4 :=
 h1.bind (h2.bind (h3.bind (h4.bind (Rds.pure (i,s,k,decide (n=1)) b4 f4))))
theorem NR{w:World}{p f:Nat}{b:List Nat}(h:St 200 w p b f) :
  Calls Tryz.prog 179 #[.pointer (some ⟨p,0,none⟩)] w (JD 200 ux pW (fun x=>Okf x/\x.2.1.size<=16) p b f w):=by
 have HM:=ae (Mid.begin h);have cm:(w.alloc (.cells #[.int .u32 0,.string ⟨#[]⟩,.int .u8 0,.bool false] 81)).heap.size=w.heap.size+1:=jdi _ _;clear h;generalize hW:(w.alloc (.cells #[.int .u32 0,.string ⟨#[]⟩,.int .u8 0,.bool false] 81)).alloc (.cells #[.int .u32 0,.string ⟨#[]⟩,.int .u8 0,.bool false] 81)=W at *;go_enter Tryz.func179,Tryz.ntmps179
 go_wp2_with fail;try rw[hW]
 clear hW cm;refine(ja HM.o.1 4294967295 (by omega)).mono ?_;rintro e w1 ⟨i,b1,f1,rfl,hi,ek,As,dv⟩;have PM:=ae (HM.o.call ek dv);have sj:=ae As;have HI:=ae hi;have hi':i<4294967296:=by omega
 obtain⟨⟨c0,c1,c2,c3⟩,⟨z0,z1,z2,z3⟩,_,_⟩:=PM.o.facts;clear ek As dv hi HM;go_wp2_with fail;have KA:=ae (PM.o.set0 (.int .u32 (i:Int)));clear PM c0 c1 c2 c3 z0 z1 z2 z3;generalize hX:w1.setCell ⟨w.heap.size+1,0,none⟩ (.int .u32 (i:Int))=X at *;try rw[hX]
 clear hX;refine(TF KA.o.1).mono ?_;rintro e w2 ⟨s,b2,f2,rfl,hs,ei,Cb,dO⟩;have Uw:=ae (KA.o.call ei dO);have jd:=ae Cb;have HS:=ae hs;obtain⟨⟨c0,c1,c2,c3⟩,⟨z0,z1,z2,z3⟩,_,_⟩:=Uw.o.facts;clear ei Cb dO hs KA;go_wp2_with fail;have Px:=ae (Uw.o.set1 (.string s));clear Uw c0 c1 c2 c3 z0 z1 z2 z3;generalize hX:w2.setCell ⟨w.heap.size+1,1,none⟩ (.string s)=Y at *;try rw[hX]
 clear hX;refine(ja Px.o.1 255 (by omega)).mono ?_;rintro e w3 ⟨k,b3,f3,rfl,hk,ll,Zu,iz⟩;have HM5:=ae (Px.o.call ll iz);have sk:=ae Zu;have HK:=ae hk;have hk':k<256:=by omega
 obtain⟨⟨c0,c1,c2,c3⟩,⟨z0,z1,z2,z3⟩,_,_⟩:=HM5.o.facts;clear ll Zu iz hk Px;go_wp2_with fail;have ZA:=ae (HM5.o.set2 (.int .u8 (k:Int)));clear HM5 c0 c1 c2 c3 z0 z1 z2 z3;generalize hX:w3.setCell ⟨w.heap.size+1,2,none⟩ (.int .u8 (k:Int))=Z at *;try rw[hX]
 clear hX;refine(ja ZA.o.1 1 (by omega)).mono ?_;rintro e w4 ⟨n,b4,f4,rfl,hn,xK,Zv,pE⟩;have ZB:=ae (ZA.o.call xK pE);have pG:=ae (Xj sj.o jd.o sk.o Zv);obtain⟨⟨c0,c1,c2,c3⟩,⟨z0,z1,z2,z3⟩,⟨y0,y1,y2,y3⟩,⟨u0,u1,u2,u3⟩⟩:=ZB.o.facts;clear xK Zv pE hn ZA
 have hq:((n:Int)==1)=decide (n=1):=by
  by_cases h:n=1
  ·subst h;rfl
  ·rw[jds h];exact jdt.2 (by omega)
 have HQ:=ae hq;clear hq;go_wp2_with fail;rw[HQ.o];obtain⟨d1,d2⟩:=(ZB.o.set3 (.bool (decide (n=1)))).done (.int .u32 (i:Int)) (.string s) (.int .u8 (k:Int)) (.bool (decide (n=1)));refine bodyPost_ret (v:=pW (i,s,k,decide (n=1))) (by simp[results,Tryz.results179,go_sem,pW,y0,y1,y2,y3]) rfl ?_;exact⟨_,_,_,rfl,⟨⟨by have:=HI.o;show i<4294967296;omega,by have:=HK.o;show k<256;omega⟩,HS.o⟩,d1,pG.o,d2⟩
def Sch(w:World)(p:Nat)(W:World)(b:List Nat)(f:Nat)(x0 x1:Value):Prop :=
 St 200 W p b f/\p<w.heap.size/\W.heap[w.heap.size]?=some (.cells #[.int .u32 0,.slice none 0 0] 25 (0,0)) /\
 W.heap[w.heap.size+1]?=some (.cells #[x0,x1] 25 (0,0))/\Fr p w.heap.size w W
theorem Sch.begin{w:World}{p f:Nat}{b:List Nat}(h:St 200 w p b f) :
  Sch w p ((w.alloc (.cells #[.int .u32 0,.slice none 0 0] 25)).alloc (.cells #[.int .u32 0,.slice none 0 0] 25)) b f (.int .u32 0) (.slice none 0 0):=by
 have hbW:=((jdg w.heap.size w).alloc (jdh _) (.cells #[.int .u32 0,.slice none 0 0] 25)).alloc (by rw[jdi];omega) (.cells #[.int .u32 0,.slice none 0 0] 25);have cm:(w.alloc (.cells #[.int .u32 0,.slice none 0 0] 25)).heap.size=w.heap.size+1:=jdi _ _;have aH:=ak (w.alloc (.cells #[.int .u32 0,.slice none 0 0] 25)) (.cells #[.int .u32 0,.slice none 0 0] 25);have hh0:=jdH w (.cells #[.int .u32 0,.slice none 0 0] 25);have hh:=jdH (w.alloc (.cells #[.int .u32 0,.slice none 0 0] 25)) (.cells #[.int .u32 0,.slice none 0 0] 25);rw[cm]at hh;exact⟨h.kept hbW h.lt,h.lt,(aH.block w.heap.size (by omega)).trans hh0,hh,Fr.of_below hbW⟩
theorem Sch.call{w W W':World}{p f f':Nat}{b b':List Nat}{x0 x1:Value}(h:Sch w p W b f x0 x1)(hs:St 200 W' p b' f')(hf:Fr p W.heap.size W W'):Sch w p W' b' f' x0 x1:=by
 obtain⟨h1,h2,h3,h4,h5⟩:=h;have l3:=(Array.getElem?_eq_some_iff.1 h3).1;have l4:=(Array.getElem?_eq_some_iff.1 h4).1;exact⟨hs,h2,(hf.block _ l3 (by omega)).trans h3,(hf.block _ l4 (by omega)).trans h4,h5.trans (hf.mono (by omega))⟩
theorem Sch.size{w W:World}{p f:Nat}{b:List Nat}{x0 x1:Value}(h:Sch w p W b f x0 x1):w.heap.size+2<=W.heap.size:=(Array.getElem?_eq_some_iff.1 h.2.2.2.1).1
theorem Sch.kept{w W W':World}{p f:Nat}{b:List Nat}{x0 x1:Value}(h:Sch w p W b f x0 x1)(hb:Below (w.heap.size+2) W W'):Sch w p W' b f x0 x1:=by
 obtain⟨h1,h2,h3,h4,h5⟩:=h;exact⟨h1.kept hb (by omega),h2,(hb.block _ (by omega)).trans h3,(hb.block _ (by omega)).trans h4,h5.then (hb.mono (by omega))⟩
theorem Sch.facts{w W:World}{p f:Nat}{b:List Nat}{x0 x1:Value}(h:Sch w p W b f x0 x1) :
  (W.cell? ⟨w.heap.size+1,0,none⟩=some x0/\W.cell? ⟨w.heap.size+1,1,none⟩=some x1) /\
  (W.frozen? ⟨w.heap.size+1,0,none⟩=false/\W.frozen? ⟨w.heap.size+1,1,none⟩=false) /\
  (W.cell? ⟨w.heap.size,0,none⟩=some (.int .u32 0)/\W.cell? ⟨w.heap.size,1,none⟩=some (.slice none 0 0)) /\
  (W.frozen? ⟨w.heap.size,0,none⟩=false/\W.frozen? ⟨w.heap.size,1,none⟩=false):=by
 obtain⟨h1,h2,h3,h4,h5⟩:=h;refine⟨⟨?_,?_⟩,⟨?_,?_⟩,⟨?_,?_⟩,⟨?_,?_⟩⟩<;>first | (rw[ay h4];rfl) | (rw[ay h3];rfl) | (simp[World.frozen?,h4];done) | (simp[World.frozen?,h3];done)
theorem Sch.keep{w W:World}{p f:Nat}{b:List Nat}{x0 x1:Value}(h:Sch w p W b f x0 x1)(j:Nat)(v:Value) :
  St 200 (W.setCell ⟨w.heap.size+1,j,none⟩ v) p b f/\(W.setCell ⟨w.heap.size+1,j,none⟩ v).heap[w.heap.size]?=some (.cells #[.int .u32 0,.slice none 0 0] 25 (0,0))/\Fr p w.heap.size w (W.setCell ⟨w.heap.size+1,j,none⟩ v):=by
 obtain⟨h1,h2,h3,h4,h5⟩:=h;have hb:Below (w.heap.size+1) W (W.setCell ⟨w.heap.size+1,j,none⟩ v):=(jdg (w.heap.size+1) W).setCell (show w.heap.size+1<=w.heap.size+1 from jdh _) _;exact⟨h1.kept hb (by omega),(hb.block _ (by omega)).trans h3,h5.then (hb.mono (by omega))⟩
theorem Sch.set0{w W:World}{p f:Nat}{b:List Nat}{x0 x1:Value}(h:Sch w p W b f x0 x1)(v:Value):Sch w p (W.setCell ⟨w.heap.size+1,0,none⟩ v) b f v x1 :=
 ⟨(h.keep 0 v).1,h.2.1,(h.keep 0 v).2.1,by rw[cJ h.2.2.2.1];rfl,(h.keep 0 v).2.2⟩
theorem Sch.set1{w W:World}{p f:Nat}{b:List Nat}{x0 x1:Value}(h:Sch w p W b f x0 x1)(v:Value):Sch w p (W.setCell ⟨w.heap.size+1,1,none⟩ v) b f x0 v :=
 ⟨(h.keep 1 v).1,h.2.1,(h.keep 1 v).2.1,by rw[cJ h.2.2.2.1];rfl,(h.keep 1 v).2.2⟩
theorem Sch.done{w W:World}{p f:Nat}{b:List Nat}{x0 x1:Value}(h:Sch w p W b f x0 x1)(y0 y1:Value) :
  St 200 ((W.setCell ⟨w.heap.size,0,none⟩ y0).setCell ⟨w.heap.size,1,none⟩ y1) p b f/\Fr p w.heap.size w ((W.setCell ⟨w.heap.size,0,none⟩ y0).setCell ⟨w.heap.size,1,none⟩ y1):=by
 obtain⟨h1,h2,h3,h4,h5⟩:=h;have hb:=qd (jdg w.heap.size W) (jdh w.heap.size) y0 y1;exact⟨h1.kept hb h2,h5.then hb⟩
theorem xt{k:Nat}{b b1 b2:List Nat}{f f1 f2:Nat}{x:List Fd}{y:Fd}(h1:Rds (kR k) b f x b1 f1)(h2:Rds ux b1 f1 y b2 f2):Rds (kR (k+1)) b f (x++[y]) b2 f2 :=
 h1.bind (h2.bind (Rds.pure (x++[y]) b2 f2))
def Xk(p:Nat)(b:List Nat)(f:Nat)(w:World)(r:Ending)(w':World):Prop :=
 ∃(id:Nat) (l:List Fd) (v:Value) (b':List Nat) (f':Nat),r=.returned (.agg #[.int .u32 (id:Int),v])/\dT w' w.heap.size v l/\id<4294967296/\l.length<=8/\(∀ y∈l,Okf y/\y.2.1.size<=16) /\
  St 200 w' p b' f'/\Rds CT b f (id,l) b' f'/\Fr p w.heap.size w w'
theorem Xl{b b1 b2 b3:List Nat}{f f1 f2 f3 i n:Nat}{l:List Fd}(h1:Rds (ik 4294967295) b f i b1 f1)(h2:Rds (ik 8) b1 f1 n b2 f2)(h3:Rds (kR n) b2 f2 l b3 f3):Rds CT b f (i,l) b3 f3 :=
 h1.bind (h2.bind (h3.bind (Rds.pure (i,l) b3 f3)))
theorem xu{w1:World}{B p:Nat}{v:Value}{l:List Fd}(h:dT w1 B v l)(hp:p<B)(j:Nat)(x:Value):dT (w1.setCell ⟨p,j,none⟩ x) B v l :=
 Fr.own ((Fr.refl p w1.heap.size w1).set j x) h hp
theorem JF{w:World}{p f:Nat}{b:List Nat}(h:St 200 w p b f) :
  Calls Tryz.prog 139 #[.pointer (some ⟨p,0,none⟩)] w (Xk p b f w):=by
 have HM:=ae (Sch.begin h);have cm:(w.alloc (.cells #[.int .u32 0,.slice none 0 0] 25)).heap.size=w.heap.size+1:=jdi _ _;clear h;generalize hW:(w.alloc (.cells #[.int .u32 0,.slice none 0 0] 25)).alloc (.cells #[.int .u32 0,.slice none 0 0] 25)=W at *;go_enter Tryz.func139,Tryz.ntmps139
 go_wp2_with fail;try rw[hW]
 clear hW cm;refine(ja HM.o.1 4294967295 (by omega)).mono ?_;rintro e w1 ⟨i,b1,f1,rfl,hi,ek,As,dv⟩;have PM:=ae (HM.o.call ek dv);have sj:=ae As;have HI:=ae hi;have hi':i<4294967296:=by omega
 obtain⟨⟨c0,c1⟩,⟨z0,z1⟩,_,_⟩:=PM.o.facts;clear ek As dv hi HM;go_wp2_with fail;have KA:=ae (PM.o.set0 (.int .u32 (i:Int)));clear PM c0 c1 z0 z1;generalize hX:w1.setCell ⟨w.heap.size+1,0,none⟩ (.int .u32 (i:Int))=X at *;try rw[hX]
 clear hX;refine(ja KA.o.1 8 (by omega)).mono ?_;rintro e w2 ⟨n,b2,f2,rfl,hn,ei,Cb,dO⟩;have Uw:=ae (KA.o.call ei dO);have jd:=ae Cb;clear ei Cb dO KA;go_wp2_with fail;go_loopw [10] (fun i' wr=>∃(k:Nat) (x:List Fd) (bk:List Nat) (fk:Nat) (a:Option Addr) (cap:Nat),k<=n/\i'=.int .u64 (k:Int)/\Sch w p wr bk fk (.int .u32 (i:Int)) (.slice a k cap)/\dT wr (w.heap.size+2) (.slice a k cap) x/\x.length=k/\(∀ y∈x,Okf y/\y.2.1.size<=16)/\Rds (kR k) b2 f2 x bk fk) (fun i' _=>n-(intOf i').toNat)
 case atStart=>exact⟨0,[],b2,f2,none,0,by omega,rfl,Uw.o,dT.nil _ _,rfl,(fun _ h=>absurd h (by simp)),Rds.pure [] b2 f2⟩
 case round =>
  obtain⟨k,x,bk,fk,a,cap,hk,rfl,PU,aA,YV,jy,hrk⟩:=hrel;have Px:=ae PU;have HO:=ae aA;have HXL:=ae YV;have LJ:=ae jy;have HRK:=ae hrk;clear aA YV jy hrk;by_cases aC:k<n
  ·have hlt':(k:Int)<(n:Int):=by omega
   have hwk:IntKind.u64.wrap ((k:Int)+1)=((k+1:Nat):Int):=by rw[jdL];omega
   obtain⟨⟨c0,c1⟩,⟨z0,z1⟩,_,_⟩:=PU.facts;have rS:=ae PU.size;clear PU
   have pw:jfb (∀ m,Calls Tryz.prog 179 #[.pointer (some ⟨p,0,none⟩)] (wr.drewN m) fun e w'=>∃(y0:Nat) (y1:ByteArray) (y2:Nat) (y3:Bool) (b':List Nat) (f':Nat),e=.returned (.agg #[.int .u32 (y0:Int),.string y1,.int .u8 (y2:Int),.bool y3])/\(Okf (y0,y1,y2,y3)/\y1.size<=16)/\Sch w p w' b' f' (.int .u32 (i:Int)) (.slice a k cap)/\Rds ux bk fk (y0,y1,y2,y3) b' f'/\dT w' (w.heap.size+2) (.slice a k cap) x/\w.heap.size+2<=w'.heap.size/\w'.cell? ⟨w.heap.size+1,1,none⟩=some (.slice a k cap)/\(w'.alloc (.cells #[.int .u32 (y0:Int),.string y1,.int .u8 (y2:Int),.bool y3] 81)).cell? ⟨w.heap.size+1,1,none⟩=some (.slice a k cap)):=ae (fun m=>by
    have nl:Below wr.heap.size wr (wr.drewN m):=ar (jdg wr.heap.size wr) m;refine(NR (Px.o.1.kept nl Px.o.1.lt)).mono ?_;rintro e w' ⟨⟨y0,y1,y2,y3⟩,b',f',rfl,hy,hs',hr',hf'⟩;have dO:Fr p wr.heap.size wr w':=(Fr.of_below nl).trans (hf'.mono nl.size);have hm:=Px.o.call hs' dO;obtain⟨⟨d0,d1⟩,⟨e0,e1⟩,_,_⟩:=hm.facts;have PQ:=Px.o.2.1;exact⟨y0,y1,y2,y3,b',f',rfl,hy,hm,hr',Fr.own dO HO.o (by omega),hm.size,d1,((ak w' _).cell (p:=⟨w.heap.size+1,1,none⟩) (by have:=hm.size;show w.heap.size+1<_;omega)).trans d1⟩)
   have HAP:jfb (∀ y b' f' w6 w7 v7,Sch w p w6 b' f' (.int .u32 (i:Int)) (.slice a k cap)->dT w7 (w.heap.size+2) v7 (x++[y])->Below (w.heap.size+2) w6 w7->∃ a7 cap7,v7=.slice a7 (k+1) cap7/\Sch w p w7 b' f' (.int .u32 (i:Int)) (.slice a k cap)/\(w7.cell? ⟨w.heap.size+1,1,none⟩=some (.slice a k cap)/\w7.frozen? ⟨w.heap.size+1,1,none⟩=false)):=ae (fun y b' f' w6 w7 v7 hm o7 jk=>by
    obtain⟨a7,cap7,hv,_,_⟩:=aN o7;rw[jdj,jdS,HXL.o]at hv;have Va:=hm.kept jk;obtain⟨⟨d0,d1⟩,⟨e0,e1⟩,_,_⟩:=Va.facts;exact⟨a7,cap7,hv,Va,d1,e1⟩)
   have LD:jfb (∀ y:Fd,x.length+[y].length<=100000):=ae (fun y=>by rw[jdS,HXL.o];omega);clear c0 z0 z1;go_wp2_with fail;refine wp_region_any (by kernel_rfl) ?_;change wpAny _ _ _ _ _ _ _ wr.drew
   refine wpAny_take (i := 0) (oi := { dst := some 12, op := Op.fieldAddr 25 (Operand.tmp 3) 1, type := 0, pos := "pack.go:64", after := #[], guard := none }) (v := ?_) rfl (by kernel_rfl) (by kernel_rfl) (by kernel_rfl) (fun _ _ _ h => h) (Or.inl ⟨by rfl, ?_⟩) ?_;rotate_left
   ·intro w9
    first | (go_simp;done) | (go_simp;with_reducible rfl)
   try simp only[Act.put,jdv,jdr,jdu]
   refine wpAny_take (i := 2) (oi := { dst := some 14, op := Op.move (Operand.tmp 0), type := 198, pos := "pack.go:64", after := #[], guard := none }) (v := ?_) rfl (by kernel_rfl) (by kernel_rfl) (by kernel_rfl) (fun _ _ _ h => h) (Or.inl ⟨by rfl, ?_⟩) ?_;rotate_left
   ·intro w9
    first | (go_simp;done) | (go_simp;with_reducible rfl)
   try simp only[Act.put,jdv,jdr,jdu]
   refine wpAny_ready (rs:=[1,3]) (by kernel_rfl) (by simp) ?_;refine AllReady.cons (o := { dst := some 13, op := Op.load 23 (Operand.tmp 12), type := 23, pos := "pack.go:64", after := #[{ on := 0, ground := Ground.data }], guard := none }) rfl (fun K hK => ?_) ?_
   ·have HK:=ae hK
    clear hK;go_simp
    refine HK.o _ _ ?_;clear HK K;try simp only[Act.put,jdv,jdr,jdu]
    refine wpAny_ready (rs:=[3]) (by kernel_rfl) (by simp) ?_;refine AllReady.cons (o := { dst := some 15, op := Op.call { callee := Callee.value (Operand.func 179), args := #[Operand.tmp 14], argTypes := #[198] }, type := 81, pos := "pack.go:64", after := #[{ on := 2, ground := Ground.data }], guard := none }) rfl (fun K hK => ?_) ?_
    ·have HK:=ae hK
     clear hK;go_simp
     refine(pw.o 1).mono ?_;rintro e w6 ⟨y0,y1,y2,y3,b6,f6,rfl,hy,hm6,UP,o6,yC,FV,hkk2⟩;have HY:=ae hy;have ZA:=ae hm6;have Ga:=ae UP;have ng:=ae o6;clear hy hm6 UP o6;go_wp2_with fail;refine HK.o _ _ ?_;clear HK K;try simp only[Act.put,jdv,jdr,jdu]
     refine wpAny_ready (rs:=[4]) (by kernel_rfl) (by simp) ?_;refine AllReady.cons (o := { dst := some 16, op := Op.buildSlice 23 1 #[(0, Operand.tmp 15)], type := 23, pos := "pack.go:64", after := #[{ on := 3, ground := Ground.data }], guard := none }) rfl (fun K hK => ?_) ?_
     ·have HK:=ae hK
      clear hK;go_simp
      refine HK.o _ _ ?_;clear HK K;try simp only[Act.put,jdv,jdr,jdu]
      refine wpAny_ready (rs:=[5]) (by kernel_rfl) (by simp) ?_;refine AllReady.cons (o := { dst := some 17, op := Op.call { callee := Callee.builtin Builtin.append, args := #[Operand.tmp 13, Operand.tmp 16], argTypes := #[23, 23] }, type := 23, pos := "pack.go:64", after := #[{ on := 1, ground := Ground.data }, { on := 4, ground := Ground.data }, { on := 3, ground := Ground.chain }], guard := none }) rfl (fun K hK => ?_) ?_
      ·have HK:=ae hK
       clear hK;refine lv (by rfl) _ _ (by rfl) (w.heap.size+2) w6.heap.size _ _ x [(y0,y1,y2,y3)] (by rfl) ?_ (by rfl) ?_ ?_ ?_ ?_ ?_
       ·exact ng.o.kept (ak _ _)
       ·exact AZ w6 (y0,y1,y2,y3)
       ·exact Nat.zero_lt_succ _
       ·exact LD.o _
       ·exact rx yC _
       intro v7 w7 o7 b7;obtain⟨a7,cap7,rfl,Va,hkk7,z1⟩:=HAP.o _ _ _ _ _ _ (ZA.o.kept ((jdg _ _).alloc yC _)) o7 b7;have iy:=ae o7;have ZB:=ae Va;clear o7 b7 Va;refine HK.o _ _ ?_;clear HK K;try simp only[Act.put,jdv,jdr,jdu]
       refine wpAny_ready (rs:=[6]) (by kernel_rfl) (by simp) ?_;refine AllReady.cons (o := { dst := some 18, op := Op.fieldAddr 25 (Operand.tmp 3) 1, type := 0, pos := "pack.go:64", after := #[{ on := 0, ground := Ground.phase }, { on := 1, ground := Ground.phase }, { on := 2, ground := Ground.phase }, { on := 3, ground := Ground.phase }, { on := 4, ground := Ground.phase }, { on := 5, ground := Ground.phase }], guard := none }) rfl (fun K hK => ?_) ?_
       ·have HK:=ae hK
        clear hK;go_simp
        refine HK.o _ _ ?_;clear HK K;try simp only[Act.put,jdv,jdr,jdu]
        refine wpAny_ready (rs:=[7]) (by kernel_rfl) (by simp) ?_;refine AllReady.cons (o := { dst := none, op := Op.store 23 (Operand.tmp 18) (Operand.tmp 17), type := 0, pos := "pack.go:64", after := #[{ on := 6, ground := Ground.data }, { on := 5, ground := Ground.data }, { on := 5, ground := Ground.chain }, { on := 0, ground := Ground.phase }, { on := 1, ground := Ground.phase }, { on := 2, ground := Ground.phase }, { on := 3, ground := Ground.phase }, { on := 4, ground := Ground.phase }, { on := 5, ground := Ground.phase }], guard := none }) rfl (fun K hK => ?_) ?_
        ·have HK:=ae hK
         clear hK;go_simp
         refine HK.o _ _ ?_;clear HK K;try simp only[Act.put,jdv,jdr,jdu]
         refine wpAny_done (by kernel_rfl) ?_ _;go_wp2_with fail;exact⟨⟨k+1,x++[(y0,y1,y2,y3)],b6,f6,a7,cap7,by omega,rfl,ZB.o.set1 (.slice a7 (k+1) cap7),xu iy.o (by omega) _ _,by rw[jdj,jdS,HXL.o],fun y hy=>(jdO.1 hy).elim (LJ.o y) (fun h=>by rw[jd5]at h;rw[h];exact HY.o),xt HRK.o Ga.o⟩,by simp only[intOf];omega⟩
        exact AllReady.nil
       exact AllReady.nil
      exact AllReady.nil
     exact AllReady.nil
    exact AllReady.nil
   refine AllReady.cons (o := { dst := some 15, op := Op.call { callee := Callee.value (Operand.func 179), args := #[Operand.tmp 14], argTypes := #[198] }, type := 81, pos := "pack.go:64", after := #[{ on := 2, ground := Ground.data }], guard := none }) rfl (fun K hK => ?_) ?_
   ·have HK:=ae hK
    clear hK;go_simp
    refine(pw.o 1).mono ?_;rintro e w6 ⟨y0,y1,y2,y3,b6,f6,rfl,hy,hm6,UP,o6,yC,FV,hkk2⟩;have HY:=ae hy;have ZA:=ae hm6;have Ga:=ae UP;have ng:=ae o6;clear hy hm6 UP o6;go_wp2_with fail;refine HK.o _ _ ?_;clear HK K;try simp only[Act.put,jdv,jdr,jdu]
    refine wpAny_ready (rs:=[1,4]) (by kernel_rfl) (by simp) ?_;refine AllReady.cons (o := { dst := some 13, op := Op.load 23 (Operand.tmp 12), type := 23, pos := "pack.go:64", after := #[{ on := 0, ground := Ground.data }], guard := none }) rfl (fun K hK => ?_) ?_
    ·have HK:=ae hK
     clear hK;go_simp
     refine HK.o _ _ ?_;clear HK K;try simp only[Act.put,jdv,jdr,jdu]
     refine wpAny_ready (rs:=[4]) (by kernel_rfl) (by simp) ?_;refine AllReady.cons (o := { dst := some 16, op := Op.buildSlice 23 1 #[(0, Operand.tmp 15)], type := 23, pos := "pack.go:64", after := #[{ on := 3, ground := Ground.data }], guard := none }) rfl (fun K hK => ?_) ?_
     ·have HK:=ae hK
      clear hK;go_simp
      refine HK.o _ _ ?_;clear HK K;try simp only[Act.put,jdv,jdr,jdu]
      refine wpAny_ready (rs:=[5]) (by kernel_rfl) (by simp) ?_;refine AllReady.cons (o := { dst := some 17, op := Op.call { callee := Callee.builtin Builtin.append, args := #[Operand.tmp 13, Operand.tmp 16], argTypes := #[23, 23] }, type := 23, pos := "pack.go:64", after := #[{ on := 1, ground := Ground.data }, { on := 4, ground := Ground.data }, { on := 3, ground := Ground.chain }], guard := none }) rfl (fun K hK => ?_) ?_
      ·have HK:=ae hK
       clear hK;refine lv (by rfl) _ _ (by rfl) (w.heap.size+2) w6.heap.size _ _ x [(y0,y1,y2,y3)] (by rfl) ?_ (by rfl) ?_ ?_ ?_ ?_ ?_
       ·exact ng.o.kept (ak _ _)
       ·exact AZ w6 (y0,y1,y2,y3)
       ·exact Nat.zero_lt_succ _
       ·exact LD.o _
       ·exact rx yC _
       intro v7 w7 o7 b7;obtain⟨a7,cap7,rfl,Va,hkk7,z1⟩:=HAP.o _ _ _ _ _ _ (ZA.o.kept ((jdg _ _).alloc yC _)) o7 b7;have iy:=ae o7;have ZB:=ae Va;clear o7 b7 Va;refine HK.o _ _ ?_;clear HK K;try simp only[Act.put,jdv,jdr,jdu]
       refine wpAny_ready (rs:=[6]) (by kernel_rfl) (by simp) ?_;refine AllReady.cons (o := { dst := some 18, op := Op.fieldAddr 25 (Operand.tmp 3) 1, type := 0, pos := "pack.go:64", after := #[{ on := 0, ground := Ground.phase }, { on := 1, ground := Ground.phase }, { on := 2, ground := Ground.phase }, { on := 3, ground := Ground.phase }, { on := 4, ground := Ground.phase }, { on := 5, ground := Ground.phase }], guard := none }) rfl (fun K hK => ?_) ?_
       ·have HK:=ae hK
        clear hK;go_simp
        refine HK.o _ _ ?_;clear HK K;try simp only[Act.put,jdv,jdr,jdu]
        refine wpAny_ready (rs:=[7]) (by kernel_rfl) (by simp) ?_;refine AllReady.cons (o := { dst := none, op := Op.store 23 (Operand.tmp 18) (Operand.tmp 17), type := 0, pos := "pack.go:64", after := #[{ on := 6, ground := Ground.data }, { on := 5, ground := Ground.data }, { on := 5, ground := Ground.chain }, { on := 0, ground := Ground.phase }, { on := 1, ground := Ground.phase }, { on := 2, ground := Ground.phase }, { on := 3, ground := Ground.phase }, { on := 4, ground := Ground.phase }, { on := 5, ground := Ground.phase }], guard := none }) rfl (fun K hK => ?_) ?_
        ·have HK:=ae hK
         clear hK;go_simp
         refine HK.o _ _ ?_;clear HK K;try simp only[Act.put,jdv,jdr,jdu]
         refine wpAny_done (by kernel_rfl) ?_ _;go_wp2_with fail;exact⟨⟨k+1,x++[(y0,y1,y2,y3)],b6,f6,a7,cap7,by omega,rfl,ZB.o.set1 (.slice a7 (k+1) cap7),xu iy.o (by omega) _ _,by rw[jdj,jdS,HXL.o],fun y hy=>(jdO.1 hy).elim (LJ.o y) (fun h=>by rw[jd5]at h;rw[h];exact HY.o),xt HRK.o Ga.o⟩,by simp only[intOf];omega⟩
        exact AllReady.nil
       exact AllReady.nil
      exact AllReady.nil
     exact AllReady.nil
    refine AllReady.cons (o := { dst := some 16, op := Op.buildSlice 23 1 #[(0, Operand.tmp 15)], type := 23, pos := "pack.go:64", after := #[{ on := 3, ground := Ground.data }], guard := none }) rfl (fun K hK => ?_) ?_
    ·have HK:=ae hK
     clear hK;go_simp
     refine HK.o _ _ ?_;clear HK K;try simp only[Act.put,jdv,jdr,jdu]
     refine wpAny_ready (rs:=[1]) (by kernel_rfl) (by simp) ?_;refine AllReady.cons (o := { dst := some 13, op := Op.load 23 (Operand.tmp 12), type := 23, pos := "pack.go:64", after := #[{ on := 0, ground := Ground.data }], guard := none }) rfl (fun K hK => ?_) ?_
     ·have HK:=ae hK
      clear hK;go_simp
      refine HK.o _ _ ?_;clear HK K;try simp only[Act.put,jdv,jdr,jdu]
      refine wpAny_ready (rs:=[5]) (by kernel_rfl) (by simp) ?_;refine AllReady.cons (o := { dst := some 17, op := Op.call { callee := Callee.builtin Builtin.append, args := #[Operand.tmp 13, Operand.tmp 16], argTypes := #[23, 23] }, type := 23, pos := "pack.go:64", after := #[{ on := 1, ground := Ground.data }, { on := 4, ground := Ground.data }, { on := 3, ground := Ground.chain }], guard := none }) rfl (fun K hK => ?_) ?_
      ·have HK:=ae hK
       clear hK;refine lv (by rfl) _ _ (by rfl) (w.heap.size+2) w6.heap.size _ _ x [(y0,y1,y2,y3)] (by rfl) ?_ (by rfl) ?_ ?_ ?_ ?_ ?_
       ·exact ng.o.kept (ak _ _)
       ·exact AZ w6 (y0,y1,y2,y3)
       ·exact Nat.zero_lt_succ _
       ·exact LD.o _
       ·exact rx yC _
       intro v7 w7 o7 b7;obtain⟨a7,cap7,rfl,Va,hkk7,z1⟩:=HAP.o _ _ _ _ _ _ (ZA.o.kept ((jdg _ _).alloc yC _)) o7 b7;have iy:=ae o7;have ZB:=ae Va;clear o7 b7 Va;refine HK.o _ _ ?_;clear HK K;try simp only[Act.put,jdv,jdr,jdu]
       refine wpAny_ready (rs:=[6]) (by kernel_rfl) (by simp) ?_;refine AllReady.cons (o := { dst := some 18, op := Op.fieldAddr 25 (Operand.tmp 3) 1, type := 0, pos := "pack.go:64", after := #[{ on := 0, ground := Ground.phase }, { on := 1, ground := Ground.phase }, { on := 2, ground := Ground.phase }, { on := 3, ground := Ground.phase }, { on := 4, ground := Ground.phase }, { on := 5, ground := Ground.phase }], guard := none }) rfl (fun K hK => ?_) ?_
       ·have HK:=ae hK
        clear hK;go_simp
        refine HK.o _ _ ?_;clear HK K;try simp only[Act.put,jdv,jdr,jdu]
        refine wpAny_ready (rs:=[7]) (by kernel_rfl) (by simp) ?_;refine AllReady.cons (o := { dst := none, op := Op.store 23 (Operand.tmp 18) (Operand.tmp 17), type := 0, pos := "pack.go:64", after := #[{ on := 6, ground := Ground.data }, { on := 5, ground := Ground.data }, { on := 5, ground := Ground.chain }, { on := 0, ground := Ground.phase }, { on := 1, ground := Ground.phase }, { on := 2, ground := Ground.phase }, { on := 3, ground := Ground.phase }, { on := 4, ground := Ground.phase }, { on := 5, ground := Ground.phase }], guard := none }) rfl (fun K hK => ?_) ?_
        ·have HK:=ae hK
         clear hK;go_simp
         refine HK.o _ _ ?_;clear HK K;try simp only[Act.put,jdv,jdr,jdu]
         refine wpAny_done (by kernel_rfl) ?_ _;go_wp2_with fail;exact⟨⟨k+1,x++[(y0,y1,y2,y3)],b6,f6,a7,cap7,by omega,rfl,ZB.o.set1 (.slice a7 (k+1) cap7),xu iy.o (by omega) _ _,by rw[jdj,jdS,HXL.o],fun y hy=>(jdO.1 hy).elim (LJ.o y) (fun h=>by rw[jd5]at h;rw[h];exact HY.o),xt HRK.o Ga.o⟩,by simp only[intOf];omega⟩
        exact AllReady.nil
       exact AllReady.nil
      exact AllReady.nil
     exact AllReady.nil
    exact AllReady.nil
   exact AllReady.nil
  ·obtain⟨⟨c0,c1⟩,⟨z0,z1⟩,⟨d0,d1⟩,⟨y0,y1⟩⟩:=PU.facts
   obtain rfl:k=n:=by omega
   have hlt':¬ (k:Int)<(k:Int):=(by omega);clear PU;go_wp2_with fail;obtain⟨e1,e2⟩:=Px.o.done (.int .u32 (i:Int)) (.slice a k cap);refine bodyPost_ret (v:=.agg #[.int .u32 (i:Int),.slice a k cap]) (by simp[results,Tryz.results139,go_sem,d0,d1]) rfl ?_;exact⟨i,x,_,bk,fk,rfl,(Ed HO.o (by omega) _ _).low (by omega),by have:=HI.o;omega,by have:=HXL.o;omega,LJ.o,e1,Xl sj.o jd.o HRK.o,e2⟩
end Go.Proofs.YtpljdjmpamjkhaaGreatDoor
