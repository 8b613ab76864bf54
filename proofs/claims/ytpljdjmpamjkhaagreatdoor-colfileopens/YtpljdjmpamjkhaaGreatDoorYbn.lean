import Derived.Test.YtpljdjmpamjkhaaGreatDoorYap
import Derived.Test.YtpljdjmpamjkhaaGreatDoorYax
set_option linter.unusedVariables false
set_option linter.unusedSimpArgs false
set_option maxRecDepth 100000
set_option maxHeartbeats 4000000
namespace Go.Proofs.YtpljdjmpamjkhaaGreatDoor
open Go.RowKit Go.Lib
def St(T:Nat)(W:World)(p:Nat)(b:List Nat)(f:Nat):Prop :=
 ∃ a cap,W.heap[p]?=some (.cells #[.slice a b.length cap,.int .i64 (f:Int)] T (0,0))/\b.length<=cap/\cap<=maxLen/\Bs b/\(a=none->cap=0) /\
  (0<b.length->∃ g off,a=some ⟨g,off,none⟩/\g<p/\∀ j (h:j<b.length),W.cell? ⟨g,off+j,none⟩=some (.int .u8 (b[j]:Int)))
theorem St.bs{T:Nat}{W:World}{p:Nat}{b:List Nat}{f:Nat}(h:St T W p b f):Bs b:=by obtain⟨_,_,_,_,_,h,_⟩:=h;exact h
theorem St.lt{T:Nat}{W:World}{p:Nat}{b:List Nat}{f:Nat}(h:St T W p b f):p<W.heap.size:=by obtain⟨_,_,h,_⟩:=h;exact(Array.getElem?_eq_some_iff.1 h).1
theorem St.kept{T:Nat}{W W':World}{p B:Nat}{b:List Nat}{f:Nat}(h:St T W p b f)(hb:Below B W W')(hp:p<B):St T W' p b f:=by
 obtain⟨a,cap,h1,h2,h3,h4,h5,h6⟩:=h;refine⟨a,cap,(hb.block p hp).trans h1,h2,h3,h4,h5,fun h0=>?_⟩;obtain⟨g,off,e,hg,hc⟩:=h6 h0;exact⟨g,off,e,hg,fun j hj=>(hb.cell (p:=⟨g,off+j,none⟩) (show g<B by omega)).trans (hc j hj)⟩
theorem St.cells{T:Nat}{W:World}{p:Nat}{b:List Nat}{f:Nat}(h:St T W p b f) :
  ∃ a cap,W.cell? ⟨p,0,none⟩=some (.slice a b.length cap)/\W.cell? ⟨p,1,none⟩=some (.int .i64 (f:Int))/\W.frozen? ⟨p,0,none⟩=false/\W.frozen? ⟨p,1,none⟩=false /\
   b.length<=cap/\cap<=9223372036854775807/\Sv W (.slice a b.length cap) (aE .u8 b)/\(a=none->cap=0) /\
   (∀ f':Nat,St T (W.setCell ⟨p,1,none⟩ (.int .i64 (f':Int))) p b f') /\
   (∀ A k,k<=b.length->(k=b.length->(A=none->cap-k=0))->(k<b.length->∃ g off,a=some ⟨g,off,none⟩/\A=some ⟨g,off+k,none⟩)->St T (W.setCell ⟨p,0,none⟩ (.slice A (b.length-k) (cap-k))) p (b.drop k) f):=by
 have aB:=h.lt;obtain⟨a,cap,h1,h2,h3,h4,h5,h6⟩:=h
 have ib:Sv W (.slice a b.length cap) (aE .u8 b):=by
  refine⟨a,cap,by rw[ap],by rw[ap];omega,h3,h5,fun h0=>?_⟩;rw[ap]at h0;obtain⟨g,off,e,hg,hc⟩:=h6 h0;refine⟨g,off,e,by omega,fun j x hj=>?_⟩
  have hj':j<b.length:=by
   have:=(List.getElem?_eq_some_iff.1 hj).1;rwa[ap]at this
  rw[bR hj']at hj;rw[hc j hj'];exact hj
 refine⟨a,cap,by rw[ax h1];rfl,by rw[ax h1];rfl,by simp[World.frozen?,h1],by simp[World.frozen?,h1],h2,by unfold maxLen at h3;omega,ib,h5,fun f'=>?_,fun A k hk hA0 hA1=>?_⟩
 ·refine⟨a,cap,by rw[cH h1];rfl,h2,h3,h4,h5,fun h0=>?_⟩
  obtain⟨g,off,e,hg,hc⟩:=h6 h0;refine⟨g,off,e,hg,fun j hj=>?_⟩;rw[World.cell?_of_block (w:=W) (Below.heap_setCell _ _ _ _ (show g≠p by omega))];exact hc j hj
 ·have hl:(b.drop k).length=b.length-k:=jai
  refine⟨A,cap-k,by rw[cH h1,hl];rfl,by omega,by omega,h4.drop k,fun hA=>?_,fun h0=>?_⟩
  ·rcases jae k b.length with aB | gJ
   ·obtain⟨g,off,_,e2⟩:=hA1 aB
    rw[hA]at e2;cases e2
   ·exact hA0 (by omega) hA
  ·have aB:k<b.length:=by omega
   obtain⟨g,off,e1,e2⟩:=hA1 aB;obtain⟨g',off',e,hg,hc⟩:=h6 (by omega);rw[e1]at e;simp only[Option.some.injEq,Addr.mk.injEq,and_true]at e;obtain⟨rfl,rfl⟩:=e;refine⟨g,off+k,e2,hg,fun j hj=>?_⟩;rw[World.cell?_of_block (w:=W) (Below.heap_setCell _ _ _ _ (show g≠p by omega)),jaQ,hc (k+j) (by omega)];simp
theorem mA{w:World}{p f:Nat}{b:List Nat}(h:St 200 w p b f)(e:Nat) :
  Calls Tryz.prog 140 #[.pointer (some ⟨p,0,none⟩),.int .i64 (e:Int)] w fun r w'=>r=.returned (.tuple #[])/\St 200 w' p b (orf f e)/\Fr p w.heap.size w w':=by
 have HS:=ae h;obtain⟨a,cap,h0,h1,h2,h3,h4,h5,h6,h7,h8,h9⟩:=h.cells;have H8:=ae (h8 e);have HF:=ae ((Fr.refl p w.heap.size w).set 1 (.int .i64 (e:Int)));clear h h6 h8 h9;by_cases hf:((f:Int)==0)=true
 ·have hf':f=0:=by simpa using hf
  have HO:Hid (orf f e=e):=by show _=_;unfold orf;rw[if_pos hf']
  clear hf';go_enter Tryz.func140,Tryz.ntmps140
  go_wp2_with fail;go_end0
  rw[HO.out];exact⟨rfl,H8.out,HF.out⟩
 ·have hff:((f:Int)==0)=false:=by simpa using hf
  have HO:Hid (orf f e=f):=by show _=_;unfold orf;rw[if_neg (fun e=>hf (by simp[e]))]
  clear hf;go_enter Tryz.func140,Tryz.ntmps140
  go_wp2_with fail;go_end0
  rw[HO.out];exact⟨rfl,HS.out,Fr.refl _ _ _⟩
def GK(T:Nat){α : Type}(m:List Nat->Except Nat (α×List Nat))(val:α->Value)(ok:α->Prop)(p:Nat)(b:List Nat)(f:Nat)(w:World)(r:Ending)(w':World):Prop :=
 ∃(x:α) (b':List Nat) (f':Nat),r=.returned (val x)/\ok x/\St T w' p b' f'/\Rds m b f x b' f'/\Fr p w.heap.size w w'
theorem DZ{room:Nat}{l:List Nat}{f:Nat}(hc:(gt l).2.2≠0):Rds (ig room) l f 0 l (orf f (gt l).2.2):=by
 have h:=Aj (room:=room) (l:=l) (f:=f);rw[if_pos (Or.inl hc),if_pos (Or.inl hc),if_pos hc]at h;exact h
theorem A4{room:Nat}{l:List Nat}{f:Nat}(hc:(gt l).2.2=0)(hn:room<(gt l).1):Rds (ig room) l f 0 l (orf f 40):=by
 have h:=Aj (room:=room) (l:=l) (f:=f);rw[if_pos (Or.inr hn),if_pos (Or.inr hn),if_neg (show ¬ (gt l).2.2≠0 by omega),if_pos hn]at h;exact h
theorem GL{room:Nat}{l:List Nat}{f:Nat}(hc:(gt l).2.2=0)(hn:¬ room<(gt l).1):Rds (ig room) l f (gt l).1 (l.drop (gt l).2.1) f:=by
 have h:=Aj (room:=room) (l:=l) (f:=f);have h2:¬ ((gt l).2.2≠0∨room<(gt l).1):=by omega
 rw[if_neg h2,if_neg h2,if_neg (show ¬ (gt l).2.2≠0 by omega),if_neg hn,show (if f=0 then 0 else f)=f by split<;>omega]at h;exact h
theorem Uc{b:List Nat}(h:(gt b).2.2=0)(hb:Bs b):0<(gt b).2.1/\(gt b).2.1<=b.length:=by
 obtain⟨n,u,c,hg⟩:∃ n u c,gt b=(n,u,c):=⟨_,_,_,rfl⟩;rw[hg]at h ⊢;simp only at h;subst h;obtain⟨_,h2,h3⟩:=Nr hb hg;have:=mg n;have h4:=congrArg List.length h2;simp only[ZT,jai]at h4;simp only;omega
theorem iY{w:World}{p f:Nat}{b:List Nat}(h:St 200 w p b f)(room:Nat)(hroom:room<18446744073709551616) :
  Calls Tryz.prog 178 #[.pointer (some ⟨p,0,none⟩),.int .u64 (room:Int)] w (GK 200 (ig room) (fun x=>.int .u64 ((x:Nat):Int)) (fun x=>x<=room) p b f w):=by
 have HS:=ae h;have HB:=ae h.bs;have rL:=ae (DZ (room:=room) (l:=b) (f:=f));have i6:=ae (A4 (room:=room) (l:=b) (f:=f));have rM:=ae (GL (room:=room) (l:=b) (f:=f));obtain⟨a,cap,h0,h1,h2,h3,h4,h5,h6,h7,h8,h9⟩:=h.cells;obtain⟨g1,g2,g3,g4⟩:=fQ b;have HG:=ae (Ak HB.out h6);have HU:=ae (fun e=>Uc (b:=b) e HB.out);have zL:=ae h6;have H9:=ae h9;clear h h6 h8 h9 g3;generalize gt b=x at *;obtain⟨n,u,c⟩:=x;simp only at *;unfold kE at HG;by_cases hc:c=0
 ·subst hc
  by_cases hn:room<n
  ·have hn':(n:Int) > (room:Int):=by omega
   have HR:=ae (i6.out rfl hn);clear rL i6 rM;go_enter Tryz.func178,Tryz.ntmps178
   go_wp2_with fail;refine HG.out.mono ?_;rintro e w1 ⟨rfl,rfl⟩;go_wp2_with fail;refine(mA HS.out 40).mono ?_;rintro e w2 ⟨rfl,ef,dM⟩;have gC:=ae ef;clear ef;go_wp2_with fail;go_ret
   exact⟨0,b,_,rfl,jav _,gC.out,HR.out,dM⟩
  ·have hn':¬ (n:Int) > (room:Int):=by omega
   have HR:=ae (rM.out rfl hn);clear rL i6 rM;obtain⟨U0,hu2⟩:=HU.out rfl;have fM:0<b.length:=by omega
   obtain⟨g,off,ha⟩:∃ g off,a=some ⟨g,off,none⟩:=by
    obtain⟨a',cap',e,_,_,_,hx⟩:=zL.out;simp only[Value.slice.injEq]at e;obtain⟨b',off',e2,_⟩:=hx (by rw[ap];exact fM);exact⟨b',off',e.1.trans e2⟩
   subst ha;obtain⟨A,hA⟩:∃ A,(if cap=u then (some ⟨g,off,none⟩:Option Addr) else some ⟨g,off+u,none⟩)=A:=⟨_,rfl⟩
   have cP:=ae (H9.out A u hu2 (fun hk hA'=>by
    rw[hA']at hA;split at hA<;>cases hA) (fun hk=>⟨g,off,rfl,by rw[← hA,if_neg (by omega)]⟩))
   have m8:=ae ((Fr.refl p w.heap.size w).set 0 (.slice A (b.length-u) (cap-u)));clear fM;go_enter Tryz.func178,Tryz.ntmps178
   go_wp2_with fail;refine HG.out.mono ?_;rintro e w1 ⟨rfl,rfl⟩;go_wp2_with fail;go_ret
   exact⟨n,b.drop u,f,rfl,by omega,cP.out,HR.out,m8.out⟩
 ·have hnz:n=0:=by omega
  subst hnz;have hc':((c:Int) != 0)=true:=by simp[hc]
  have hn':¬ (0:Int) > (room:Int):=by omega
  have HR:=ae (rL.out hc);clear hc rL i6 rM;go_enter Tryz.func178,Tryz.ntmps178
  go_wp2_with fail;refine HG.out.mono ?_;rintro e w1 ⟨rfl,rfl⟩;go_wp2_with fail;refine(mA HS.out c).mono ?_;rintro e w2 ⟨rfl,ef,dM⟩;have gC:=ae ef;clear ef;go_wp2_with fail;go_ret
  exact⟨0,b,_,rfl,jav _,gC.out,HR.out,dM⟩
theorem wR{n:Nat}{l:List Nat}{f:Nat}(h:l.length<n):Rds (textR n) l f (am []) l (orf f 30):=by
 refine⟨fun h0=>?_,fun h0=>by unfold orf;rw[if_neg h0]⟩;unfold textR orf;rw[if_pos h,if_pos h0,if_neg (by omega)]
theorem D0{n:Nat}{l:List Nat}{f:Nat}(h:¬ l.length<n):Rds (textR n) l f (am (l.take n)) (l.drop n) f:=by
 refine⟨fun h0=>?_,fun _=>rfl⟩;unfold textR;rw[if_neg h,if_pos h0]
theorem QN{w:World}{p f:Nat}{b:List Nat}(h:St 200 w p b f) :
  Calls Tryz.prog 212 #[.pointer (some ⟨p,0,none⟩)] w (GK 200 (Ns 16) (fun s=>.string s) (fun s=>s.size<=16) p b f w):=by
 have HN:=ae (iY h 16 (by omega));clear h;go_enter Tryz.func212,Tryz.ntmps212
 go_wp2_with fail;refine HN.out.mono ?_;rintro e w1 ⟨n,b1,f1,rfl,hn,eg,zV,dt⟩;have iM:=ae eg;have rL:=ae zV;have gd:=ae dt;have aQ:=ae eg.bs;obtain⟨a,cap,h0,h1,h2,h3,h4,h5,h6,h7,h8,h9⟩:=eg.cells;have zL:=ae h6;have H9:=ae h9;have H7:=ae h7;clear eg zV dt h6 h8 h9 h7 HN;by_cases Wc:b1.length<n
 ·have hsh':(n:Int) > (b1.length:Int):=by omega
  have HT:=ae (rL.out.bind (wR (f:=f1) Wc));go_wp2_with fail;refine(mA iM.out 30).mono ?_;rintro e w2 ⟨rfl,ef,dM⟩;have gC:=ae ef;have gB:=ae (gd.out.trans (dM.mono gd.out.size));clear ef dM;go_wp2_with fail;go_ret
  exact⟨am [],b1,_,rfl,by show (am []).size<=16;rw[bi];simp,gC.out,HT.out,gB.out⟩
 ·have hsh':¬ (n:Int) > (b1.length:Int):=by omega
  have HT:=ae (rL.out.bind (D0 (f:=f1) Wc));have uk:=(zL.out.take (k:=n) (by rw[ap];omega));have e1:(aE .u8 b1).take n=aE .u8 (b1.take n):=by simp[aE,ja6]
  rw[e1]at uk;have U1:=uk.conv (aQ.out.take n);rw[ek]at U1;have EQ:Hid ((am (b1.take n)).size<=16):=ae (by rw[bi,ZX];omega);have VV:(n:Int)<=(cap:Int):=by omega
  have hnlen:(n:Int)<=(b1.length:Int):=by omega
  have VN:(0:Int)<=(n:Int):=by omega
  have hnt:((n:Int)).toNat=n:=by omega
  clear uk e1;generalize am (b1.take n)=TX at *;rcases jax b1.length with hz | hp
  ·have qa:n=0:=by omega
   subst qa;cases a with
   | none =>
    have oD:=H7.out rfl;subst oD;have iK:=(H9.out none 0 (by omega) (fun _ _=>rfl) (fun h=>by omega));rw[hz]at iK;have cP:=ae iK;have gB:=ae (gd.out.set 0 (.slice none 0 0));clear iK;go_wp2_with fail;go_ret
    exact⟨TX,b1.drop 0,f1,rfl,EQ.out,cP.out,HT.out,gB.out⟩
   | some ad =>
    have iK:=(H9.out (some ad) 0 (by omega) (fun _ hA'=>by cases hA') (fun h=>by omega));rw[hz]at iK;have cP:=ae iK;have gB:=ae (gd.out.set 0 (.slice (some ad) 0 cap));clear iK;go_wp2_with fail;go_ret
    exact⟨TX,b1.drop 0,f1,rfl,EQ.out,cP.out,HT.out,gB.out⟩
  ·obtain⟨g,off,ha⟩:∃ g off,a=some ⟨g,off,none⟩:=by
    obtain⟨a',cap',e,_,_,_,hx⟩:=zL.out;simp only[Value.slice.injEq]at e;obtain⟨b',off',e2,_⟩:=hx (by rw[ap];exact hp);exact⟨b',off',e.1.trans e2⟩
   subst ha;obtain⟨A,hA⟩:∃ A,(if cap=n then (some ⟨g,off,none⟩:Option Addr) else some ⟨g,off+n,none⟩)=A:=⟨_,rfl⟩
   have cP:=ae (H9.out A n (by omega) (fun hk hA'=>by
    rw[hA']at hA;split at hA<;>cases hA) (fun hk=>⟨g,off,rfl,by rw[← hA,if_neg (by omega)]⟩))
   have gB:=ae (gd.out.set 0 (.slice A (b1.length-n) (cap-n)));go_wp2_with fail;go_ret
   exact⟨TX,b1.drop n,f1,rfl,EQ.out,cP.out,HT.out,gB.out⟩
def Mid(w:World)(p:Nat)(W:World)(b:List Nat)(f:Nat)(x0 x1 x2 x3:Value):Prop :=
 St 200 W p b f/\p<w.heap.size/\W.heap[w.heap.size]?=some (.cells #[.int .u32 0,.string ⟨#[]⟩,.int .u8 0,.bool false] 81 (0,0)) /\
 W.heap[w.heap.size+1]?=some (.cells #[x0,x1,x2,x3] 81 (0,0))/\Fr p w.heap.size w W
theorem Mid.begin{w:World}{p f:Nat}{b:List Nat}(h:St 200 w p b f) :
  Mid w p ((w.alloc (.cells #[.int .u32 0,.string ⟨#[]⟩,.int .u8 0,.bool false] 81)).alloc (.cells #[.int .u32 0,.string ⟨#[]⟩,.int .u8 0,.bool false] 81)) b f (.int .u32 0) (.string ⟨#[]⟩) (.int .u8 0) (.bool false):=by
 have hbW:=((ZQ w.heap.size w).alloc (ZR _) (.cells #[.int .u32 0,.string ⟨#[]⟩,.int .u8 0,.bool false] 81)).alloc (by rw[ZS];omega) (.cells #[.int .u32 0,.string ⟨#[]⟩,.int .u8 0,.bool false] 81);have ce:(w.alloc (.cells #[.int .u32 0,.string ⟨#[]⟩,.int .u8 0,.bool false] 81)).heap.size=w.heap.size+1:=ZS _ _;have aG:=ak (w.alloc (.cells #[.int .u32 0,.string ⟨#[]⟩,.int .u8 0,.bool false] 81)) (.cells #[.int .u32 0,.string ⟨#[]⟩,.int .u8 0,.bool false] 81);have ZH:=heap_alloc_new w (.cells #[.int .u32 0,.string ⟨#[]⟩,.int .u8 0,.bool false] 81);have hh:=heap_alloc_new (w.alloc (.cells #[.int .u32 0,.string ⟨#[]⟩,.int .u8 0,.bool false] 81)) (.cells #[.int .u32 0,.string ⟨#[]⟩,.int .u8 0,.bool false] 81);rw[ce]at hh;exact⟨h.kept hbW h.lt,h.lt,(aG.block w.heap.size (by omega)).trans ZH,hh,Fr.of_below hbW⟩
theorem Mid.call{w W W':World}{p f f':Nat}{b b':List Nat}{x0 x1 x2 x3:Value}(h:Mid w p W b f x0 x1 x2 x3)(hs:St 200 W' p b' f')(hf:Fr p W.heap.size W W'):Mid w p W' b' f' x0 x1 x2 x3:=by
 obtain⟨h1,h2,h3,h4,h5⟩:=h;have l3:=(Array.getElem?_eq_some_iff.1 h3).1;have l4:=(Array.getElem?_eq_some_iff.1 h4).1;exact⟨hs,h2,(hf.block _ l3 (by omega)).trans h3,(hf.block _ l4 (by omega)).trans h4,h5.trans (hf.mono (by omega))⟩
theorem Mid.facts{w W:World}{p f:Nat}{b:List Nat}{x0 x1 x2 x3:Value}(h:Mid w p W b f x0 x1 x2 x3) :
  (W.cell? ⟨w.heap.size+1,0,none⟩=some x0/\W.cell? ⟨w.heap.size+1,1,none⟩=some x1/\W.cell? ⟨w.heap.size+1,2,none⟩=some x2/\W.cell? ⟨w.heap.size+1,3,none⟩=some x3) /\
  (W.frozen? ⟨w.heap.size+1,0,none⟩=false/\W.frozen? ⟨w.heap.size+1,1,none⟩=false/\W.frozen? ⟨w.heap.size+1,2,none⟩=false/\W.frozen? ⟨w.heap.size+1,3,none⟩=false) /\
  (W.cell? ⟨w.heap.size,0,none⟩=some (.int .u32 0)/\W.cell? ⟨w.heap.size,1,none⟩=some (.string ⟨#[]⟩)/\W.cell? ⟨w.heap.size,2,none⟩=some (.int .u8 0)/\W.cell? ⟨w.heap.size,3,none⟩=some (.bool false)) /\
  (W.frozen? ⟨w.heap.size,0,none⟩=false/\W.frozen? ⟨w.heap.size,1,none⟩=false/\W.frozen? ⟨w.heap.size,2,none⟩=false/\W.frozen? ⟨w.heap.size,3,none⟩=false):=by
 obtain⟨h1,h2,h3,h4,h5⟩:=h;refine⟨⟨?_,?_,?_,?_⟩,⟨?_,?_,?_,?_⟩,⟨?_,?_,?_,?_⟩,⟨?_,?_,?_,?_⟩⟩<;>first | (rw[ax h4];rfl) | (rw[ax h3];rfl) | (simp[World.frozen?,h4];done) | (simp[World.frozen?,h3];done)
theorem Mid.keep{w W:World}{p f:Nat}{b:List Nat}{x0 x1 x2 x3:Value}(h:Mid w p W b f x0 x1 x2 x3)(j:Nat)(v:Value) :
  St 200 (W.setCell ⟨w.heap.size+1,j,none⟩ v) p b f/\(W.setCell ⟨w.heap.size+1,j,none⟩ v).heap[w.heap.size]?=some (.cells #[.int .u32 0,.string ⟨#[]⟩,.int .u8 0,.bool false] 81 (0,0))/\Fr p w.heap.size w (W.setCell ⟨w.heap.size+1,j,none⟩ v):=by
 obtain⟨h1,h2,h3,h4,h5⟩:=h;have hb:Below (w.heap.size+1) W (W.setCell ⟨w.heap.size+1,j,none⟩ v):=(ZQ (w.heap.size+1) W).setCell (show w.heap.size+1<=w.heap.size+1 from ZR _) _;exact⟨h1.kept hb (by omega),(hb.block _ (by omega)).trans h3,h5.then (hb.mono (by omega))⟩
theorem Mid.set0{w W:World}{p f:Nat}{b:List Nat}{x0 x1 x2 x3:Value}(h:Mid w p W b f x0 x1 x2 x3)(v:Value):Mid w p (W.setCell ⟨w.heap.size+1,0,none⟩ v) b f v x1 x2 x3 :=
 ⟨(h.keep 0 v).1,h.2.1,(h.keep 0 v).2.1,by rw[cH h.2.2.2.1];rfl,(h.keep 0 v).2.2⟩
theorem Mid.set1{w W:World}{p f:Nat}{b:List Nat}{x0 x1 x2 x3:Value}(h:Mid w p W b f x0 x1 x2 x3)(v:Value):Mid w p (W.setCell ⟨w.heap.size+1,1,none⟩ v) b f x0 v x2 x3 :=
 ⟨(h.keep 1 v).1,h.2.1,(h.keep 1 v).2.1,by rw[cH h.2.2.2.1];rfl,(h.keep 1 v).2.2⟩
theorem Mid.set2{w W:World}{p f:Nat}{b:List Nat}{x0 x1 x2 x3:Value}(h:Mid w p W b f x0 x1 x2 x3)(v:Value):Mid w p (W.setCell ⟨w.heap.size+1,2,none⟩ v) b f x0 x1 v x3 :=
 ⟨(h.keep 2 v).1,h.2.1,(h.keep 2 v).2.1,by rw[cH h.2.2.2.1];rfl,(h.keep 2 v).2.2⟩
theorem Mid.set3{w W:World}{p f:Nat}{b:List Nat}{x0 x1 x2 x3:Value}(h:Mid w p W b f x0 x1 x2 x3)(v:Value):Mid w p (W.setCell ⟨w.heap.size+1,3,none⟩ v) b f x0 x1 x2 v :=
 ⟨(h.keep 3 v).1,h.2.1,(h.keep 3 v).2.1,by rw[cH h.2.2.2.1];rfl,(h.keep 3 v).2.2⟩
theorem Mid.done{w W:World}{p f:Nat}{b:List Nat}{x0 x1 x2 x3:Value}(h:Mid w p W b f x0 x1 x2 x3)(y0 y1 y2 y3:Value) :
  St 200 ((((W.setCell ⟨w.heap.size,0,none⟩ y0).setCell ⟨w.heap.size,1,none⟩ y1).setCell ⟨w.heap.size,2,none⟩ y2).setCell ⟨w.heap.size,3,none⟩ y3) p b f /\
  Fr p w.heap.size w ((((W.setCell ⟨w.heap.size,0,none⟩ y0).setCell ⟨w.heap.size,1,none⟩ y1).setCell ⟨w.heap.size,2,none⟩ y2).setCell ⟨w.heap.size,3,none⟩ y3):=by
 obtain⟨h1,h2,h3,h4,h5⟩:=h
 have hb:Below w.heap.size W ((((W.setCell ⟨w.heap.size,0,none⟩ y0).setCell ⟨w.heap.size,1,none⟩ y1).setCell ⟨w.heap.size,2,none⟩ y2).setCell ⟨w.heap.size,3,none⟩ y3) :=
  have oH:w.heap.size<=w.heap.size:=ZR _;((((ZQ w.heap.size W).setCell (p:=⟨w.heap.size,0,none⟩) oH _).setCell (p:=⟨w.heap.size,1,none⟩) oH _).setCell (p:=⟨w.heap.size,2,none⟩) oH _).setCell (p:=⟨w.heap.size,3,none⟩) oH _
 exact⟨h1.kept hb h2,h5.then hb⟩
theorem Ud{b b1 b2 b3 b4:List Nat}{f f1 f2 f3 f4 i k n:Nat}{s:ByteArray}(h1:Rds (ig 4294967295) b f i b1 f1)(h2:Rds (Ns 16) b1 f1 s b2 f2)(h3:Rds (ig 255) b2 f2 k b3 f3)(h4:Rds (ig 1) b3 f3 n b4 f4) :
  Rds tV b f (i,s,k,decide (n=1)) b4 f4 :=
 h1.bind (h2.bind (h3.bind (h4.bind (Rds.pure (i,s,k,decide (n=1)) b4 f4))))
theorem LR{w:World}{p f:Nat}{b:List Nat}(h:St 200 w p b f) :
  Calls Tryz.prog 179 #[.pointer (some ⟨p,0,none⟩)] w (GK 200 tV pI (fun x=>Okf x/\x.2.1.size<=16) p b f w):=by
 have HM:=ae (Mid.begin h);have ce:(w.alloc (.cells #[.int .u32 0,.string ⟨#[]⟩,.int .u8 0,.bool false] 81)).heap.size=w.heap.size+1:=ZS _ _;clear h;generalize hW:(w.alloc (.cells #[.int .u32 0,.string ⟨#[]⟩,.int .u8 0,.bool false] 81)).alloc (.cells #[.int .u32 0,.string ⟨#[]⟩,.int .u8 0,.bool false] 81)=W at *;go_enter Tryz.func179,Tryz.ntmps179
 go_wp2_with fail;try rw[hW]
 clear hW ce;refine(iY HM.out.1 4294967295 (by omega)).mono ?_;rintro e w1 ⟨i,b1,f1,rfl,hi,eg,zV,dt⟩;have MD:=ae (HM.out.call eg dt);have rL:=ae zV;have HI:=ae hi;have hi':i<4294967296:=by omega
 obtain⟨⟨c0,c1,c2,c3⟩,⟨z0,z1,z2,z3⟩,_,_⟩:=MD.out.facts;clear eg zV dt hi HM;go_wp2_with fail;have H6:=ae (MD.out.set0 (.int .u32 (i:Int)));clear MD c0 c1 c2 c3 z0 z1 z2 z3;generalize hX:w1.setCell ⟨w.heap.size+1,0,none⟩ (.int .u32 (i:Int))=X at *;try rw[hX]
 clear hX;refine(QN H6.out.1).mono ?_;rintro e w2 ⟨s,b2,f2,rfl,hs,ef,Bq,dM⟩;have Rt:=ae (H6.out.call ef dM);have i6:=ae Bq;have HS:=ae hs;obtain⟨⟨c0,c1,c2,c3⟩,⟨z0,z1,z2,z3⟩,_,_⟩:=Rt.out.facts;clear ef Bq dM hs H6;go_wp2_with fail;have Mr:=ae (Rt.out.set1 (.string s));clear Rt c0 c1 c2 c3 z0 z1 z2 z3;generalize hX:w2.setCell ⟨w.heap.size+1,1,none⟩ (.string s)=Y at *;try rw[hX]
 clear hX;refine(iY Mr.out.1 255 (by omega)).mono ?_;rintro e w3 ⟨k,b3,f3,rfl,hk,kX,V7,ix⟩;have HM5:=ae (Mr.out.call kX ix);have rM:=ae V7;have HK:=ae hk;have hk':k<256:=by omega
 obtain⟨⟨c0,c1,c2,c3⟩,⟨z0,z1,z2,z3⟩,_,_⟩:=HM5.out.facts;clear kX V7 ix hk Mr;go_wp2_with fail;have Wd:=ae (HM5.out.set2 (.int .u8 (k:Int)));clear HM5 c0 c1 c2 c3 z0 z1 z2 z3;generalize hX:w3.setCell ⟨w.heap.size+1,2,none⟩ (.int .u8 (k:Int))=Z at *;try rw[hX]
 clear hX;refine(iY Wd.out.1 1 (by omega)).mono ?_;rintro e w4 ⟨n,b4,f4,rfl,hn,xn,V8,pj⟩;have We:=ae (Wd.out.call xn pj);have pn:=ae (Ud rL.out i6.out rM.out V8);obtain⟨⟨c0,c1,c2,c3⟩,⟨z0,z1,z2,z3⟩,⟨y0,y1,y2,y3⟩,⟨u0,u1,u2,u3⟩⟩:=We.out.facts;clear xn V8 pj hn Wd
 have hq:((n:Int)==1)=decide (n=1):=by
  by_cases h:n=1
  ·subst h;rfl
  ·rw[decide_eq_false h];exact Z1.2 (by omega)
 have HQ:=ae hq;clear hq;go_wp2_with fail;rw[HQ.out];obtain⟨d1,d2⟩:=(We.out.set3 (.bool (decide (n=1)))).done (.int .u32 (i:Int)) (.string s) (.int .u8 (k:Int)) (.bool (decide (n=1)));refine bodyPost_ret (v:=pI (i,s,k,decide (n=1))) (by simp[results,Tryz.results179,go_sem,pI,y0,y1,y2,y3]) rfl ?_;exact⟨_,_,_,rfl,⟨⟨by have:=HI.out;show i<4294967296;omega,by have:=HK.out;show k<256;omega⟩,HS.out⟩,d1,pn.out,d2⟩
end Go.Proofs.YtpljdjmpamjkhaaGreatDoor
