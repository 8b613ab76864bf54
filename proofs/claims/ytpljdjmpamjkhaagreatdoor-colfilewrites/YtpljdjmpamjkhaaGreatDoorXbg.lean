import Derived.Test.YtpljdjmpamjkhaaGreatDoorXau
set_option linter.unusedVariables false
set_option linter.unusedSimpArgs false
set_option maxRecDepth 100000
set_option maxHeartbeats 4000000
namespace Go.Proofs.YtpljdjmpamjkhaaGreatDoor
open Go.RowKit Go.Lib
def St(T:Nat)(W:World)(p:Nat)(b:List Nat)(f:Nat):Prop :=
 ∃ a cap,W.heap[p]?=some (.cells #[.slice a b.length cap,.int .i64 (f:Int)] T (0,0))/\b.length<=cap/\cap<=maxLen/\Bs b/\(a=none->cap=0) /\
  (0<b.length->∃ g off,a=some ⟨g,off,none⟩/\g<p/\∀ j (h:j<b.length),W.cell? ⟨g,off+j,none⟩=some (.int .u8 (b[j]:Int)))
theorem St.bs{T:Nat}{W:World}{p:Nat}{b:List Nat}{f:Nat}(h:St T W p b f):Bs b:=by obtain⟨_,_,_,_,_,h,_⟩:=h;exact h
theorem St.lt{T:Nat}{W:World}{p:Nat}{b:List Nat}{f:Nat}(h:St T W p b f):p<W.heap.size:=by obtain⟨_,_,h,_⟩:=h;exact(Array.getElem?_eq_some_iff.1 h).1
theorem St.kept{T:Nat}{W W':World}{p B:Nat}{b:List Nat}{f:Nat}(h:St T W p b f)(hb:Below B W W')(hp:p<B):St T W' p b f:=by
 obtain⟨a,cap,h1,h2,h3,h4,h5,h6⟩:=h;refine⟨a,cap,(hb.block p hp).trans h1,h2,h3,h4,h5,fun h0=>?_⟩;obtain⟨g,off,e,hg,hc⟩:=h6 h0;exact⟨g,off,e,hg,fun j hj=>(hb.cell (p:=⟨g,off+j,none⟩) (show g<B by omega)).trans (hc j hj)⟩
theorem St.cells{T:Nat}{W:World}{p:Nat}{b:List Nat}{f:Nat}(h:St T W p b f) :
  ∃ a cap,W.cell? ⟨p,0,none⟩=some (.slice a b.length cap)/\W.cell? ⟨p,1,none⟩=some (.int .i64 (f:Int))/\W.frozen? ⟨p,0,none⟩=false/\W.frozen? ⟨p,1,none⟩=false /\
   b.length<=cap/\cap<=9223372036854775807/\Sv W (.slice a b.length cap) (aF .u8 b)/\(a=none->cap=0) /\
   (∀ f':Nat,St T (W.setCell ⟨p,1,none⟩ (.int .i64 (f':Int))) p b f') /\
   (∀ A k,k<=b.length->(k=b.length->(A=none->cap-k=0))->(k<b.length->∃ g off,a=some ⟨g,off,none⟩/\A=some ⟨g,off+k,none⟩)->St T (W.setCell ⟨p,0,none⟩ (.slice A (b.length-k) (cap-k))) p (b.drop k) f):=by
 have aB:=h.lt;obtain⟨a,cap,h1,h2,h3,h4,h5,h6⟩:=h
 have iO:Sv W (.slice a b.length cap) (aF .u8 b):=by
  refine⟨a,cap,by rw[ar],by rw[ar];omega,h3,h5,fun h0=>?_⟩;rw[ar]at h0;obtain⟨g,off,e,hg,hc⟩:=h6 h0;refine⟨g,off,e,by omega,fun j x hj=>?_⟩
  have hj':j<b.length:=by
   have:=(List.getElem?_eq_some_iff.1 hj).1;rwa[ar]at this
  rw[bU hj']at hj;rw[hc j hj'];exact hj
 refine⟨a,cap,by rw[ay h1];rfl,by rw[ay h1];rfl,by simp[World.frozen?,h1],by simp[World.frozen?,h1],h2,by unfold maxLen at h3;omega,iO,h5,fun f'=>?_,fun A k hk hA0 hA1=>?_⟩
 ·refine⟨a,cap,by rw[cK h1];rfl,h2,h3,h4,h5,fun h0=>?_⟩
  obtain⟨g,off,e,hg,hc⟩:=h6 h0;refine⟨g,off,e,hg,fun j hj=>?_⟩;rw[World.cell?_of_block (w:=W) (Below.heap_setCell _ _ _ _ (show g≠p by omega))];exact hc j hj
 ·have hl:(b.drop k).length=b.length-k:=jd3
  refine⟨A,cap-k,by rw[cK h1,hl];rfl,by omega,by omega,h4.drop k,fun hA=>?_,fun h0=>?_⟩
  ·rcases jdY k b.length with aB | gj
   ·obtain⟨g,off,_,e2⟩:=hA1 aB
    rw[hA]at e2;cases e2
   ·exact hA0 (by omega) hA
  ·have aB:k<b.length:=by omega
   obtain⟨g,off,e1,e2⟩:=hA1 aB;obtain⟨g',off',e,hg,hc⟩:=h6 (by omega);rw[e1]at e;simp only[Option.some.injEq,Addr.mk.injEq,and_true]at e;obtain⟨rfl,rfl⟩:=e;refine⟨g,off+k,e2,hg,fun j hj=>?_⟩;rw[World.cell?_of_block (w:=W) (Below.heap_setCell _ _ _ _ (show g≠p by omega)),jeD,hc (k+j) (by omega)];simp
theorem mP{w:World}{p f:Nat}{b:List Nat}(h:St 200 w p b f)(e:Nat) :
  Calls Tryz.prog 140 #[.pointer (some ⟨p,0,none⟩),.int .i64 (e:Int)] w fun r w'=>r=.returned (.tuple #[])/\St 200 w' p b (orf f e)/\Fr p w.heap.size w w':=by
 have HS:=ae h;obtain⟨a,cap,h0,h1,h2,h3,h4,h5,h6,h7,h8,h9⟩:=h.cells;have H8:=ae (h8 e);have HF:=ae ((Fr.refl p w.heap.size w).set 1 (.int .i64 (e:Int)));clear h h6 h8 h9;by_cases hf:((f:Int)==0)=true
 ·have hf':f=0:=by simpa using hf
  have HO:jfp (orf f e=e):=by show _=_;unfold orf;rw[jdu hf']
  clear hf';go_enter Tryz.func140,Tryz.ntmps140
  go_wp2_with fail;go_end0
  rw[HO.o];exact⟨rfl,H8.o,HF.o⟩
 ·have hff:((f:Int)==0)=false:=by simpa using hf
  have HO:jfp (orf f e=f):=by show _=_;unfold orf;rw[jdt (fun e=>hf (by simp[e]))]
  clear hf;go_enter Tryz.func140,Tryz.ntmps140
  go_wp2_with fail;go_end0
  rw[HO.o];exact⟨rfl,HS.o,Fr.refl _ _ _⟩
def JH(T:Nat){α : Type}(m:List Nat->Except Nat (α×List Nat))(val:α->Value)(ok:α->Prop)(p:Nat)(b:List Nat)(f:Nat)(w:World)(r:Ending)(w':World):Prop :=
 ∃(x:α) (b':List Nat) (f':Nat),r=.returned (val x)/\ok x/\St T w' p b' f'/\Rds m b f x b' f'/\Fr p w.heap.size w w'
theorem ET{room:Nat}{l:List Nat}{f:Nat}(hc:(gt l).2.2≠0):Rds (ir room) l f 0 l (orf f (gt l).2.2):=by
 have h:=AD (room:=room) (l:=l) (f:=f);rw[jdu (Or.inl hc),jdu (Or.inl hc),jdu hc]at h;exact h
theorem BA{room:Nat}{l:List Nat}{f:Nat}(hc:(gt l).2.2=0)(hn:room<(gt l).1):Rds (ir room) l f 0 l (orf f 40):=by
 have h:=AD (room:=room) (l:=l) (f:=f);rw[jdu (Or.inr hn),jdu (Or.inr hn),jdt (show ¬ (gt l).2.2≠0 by omega),jdu hn]at h;exact h
theorem JI{room:Nat}{l:List Nat}{f:Nat}(hc:(gt l).2.2=0)(hn:¬ room<(gt l).1):Rds (ir room) l f (gt l).1 (l.drop (gt l).2.1) f:=by
 have h:=AD (room:=room) (l:=l) (f:=f);have h2:¬ ((gt l).2.2≠0∨room<(gt l).1):=by omega
 rw[jdt h2,jdt h2,jdt (show ¬ (gt l).2.2≠0 by omega),jdt hn,show (if f=0 then 0 else f)=f by split<;>omega]at h;exact h
theorem XA{b:List Nat}(h:(gt b).2.2=0)(hb:Bs b):0<(gt b).2.1/\(gt b).2.1<=b.length:=by
 obtain⟨n,u,c,hg⟩:∃ n u c,gt b=(n,u,c):=⟨_,_,_,rfl⟩;rw[hg]at h ⊢;simp only at h;subst h;obtain⟨_,h2,h3⟩:=QY hb hg;have:=mz n;have h4:=jdB List.length h2;simp only[jdy,jd3]at h4;simp only;omega
theorem iY{w:World}{p f:Nat}{b:List Nat}(h:St 200 w p b f)(room:Nat)(hroom:room<18446744073709551616) :
  Calls Tryz.prog 178 #[.pointer (some ⟨p,0,none⟩),.int .u64 (room:Int)] w (JH 200 (ir room) (fun x=>.int .u64 ((x:Nat):Int)) (fun x=>x<=room) p b f w):=by
 have HS:=ae h;have HB:=ae h.bs;have sg:=ae (ET (room:=room) (l:=b) (f:=f));have jb:=ae (BA (room:=room) (l:=b) (f:=f));have sj:=ae (JI (room:=room) (l:=b) (f:=f));obtain⟨a,cap,h0,h1,h2,h3,h4,h5,h6,h7,h8,h9⟩:=h.cells;obtain⟨g1,g2,g3,g4⟩:=fW b;have HG:=ae (AE HB.o h6);have HU:=ae (fun e=>XA (b:=b) e HB.o);have FY:=ae h6;have H9:=ae h9;clear h h6 h8 h9 g3;generalize gt b=x at *;obtain⟨n,u,c⟩:=x;simp only at *;unfold kO at HG;by_cases hc:c=0
 ·subst hc
  by_cases hn:room<n
  ·have hn':(n:Int) > (room:Int):=by omega
   have HR:=ae (jb.o rfl hn);clear sg jb sj;go_enter Tryz.func178,Tryz.ntmps178
   go_wp2_with fail;refine HG.o.mono ?_;rintro e w1 ⟨rfl,rfl⟩;go_wp2_with fail;refine(mP HS.o 40).mono ?_;rintro e w2 ⟨rfl,dN,dD⟩;have gl:=ae dN;clear dN;go_wp2_with fail;go_ret
   exact⟨0,b,_,rfl,jeh _,gl.o,HR.o,dD⟩
  ·have hn':¬ (n:Int) > (room:Int):=by omega
   have HR:=ae (sj.o rfl hn);clear sg jb sj;obtain⟨Yy,hu2⟩:=HU.o rfl;have fT:0<b.length:=(by omega)
   obtain⟨g,off,ha⟩:∃ g off,a=some ⟨g,off,none⟩:=by
    obtain⟨a',cap',e,_,_,_,hx⟩:=FY.o;simp only[Value.slice.injEq]at e;obtain⟨b',off',e2,_⟩:=hx (by rw[ar];exact fT);exact⟨b',off',e.1.trans e2⟩
   subst ha;obtain⟨A,hA⟩:∃ A,(if cap=u then (some ⟨g,off,none⟩:Option Addr) else some ⟨g,off+u,none⟩)=A:=⟨_,rfl⟩
   have cU:=ae (H9.o A u hu2 (fun hk hA'=>by
    rw[hA']at hA;split at hA<;>cases hA) (fun hk=>⟨g,off,rfl,by rw[← hA,jdt (by omega)]⟩))
   have ng:=ae ((Fr.refl p w.heap.size w).set 0 (.slice A (b.length-u) (cap-u)));clear fT;go_enter Tryz.func178,Tryz.ntmps178
   go_wp2_with fail;refine HG.o.mono ?_;rintro e w1 ⟨rfl,rfl⟩;go_wp2_with fail;go_ret
   exact⟨n,b.drop u,f,rfl,by omega,cU.o,HR.o,ng.o⟩
 ·have hnz:n=0:=by omega
  subst hnz;have hc':((c:Int) != 0)=true:=by simp[hc]
  have hn':¬ (0:Int) > (room:Int):=by omega
  have HR:=ae (sg.o hc);clear hc sg jb sj;go_enter Tryz.func178,Tryz.ntmps178
  go_wp2_with fail;refine HG.o.mono ?_;rintro e w1 ⟨rfl,rfl⟩;go_wp2_with fail;refine(mP HS.o c).mono ?_;rintro e w2 ⟨rfl,dN,dD⟩;have gl:=ae dN;clear dN;go_wp2_with fail;go_ret
  exact⟨0,b,_,rfl,jeh _,gl.o,HR.o,dD⟩
theorem xm{n:Nat}{l:List Nat}{f:Nat}(h:l.length<n):Rds (textR n) l f (ak []) l (orf f 30):=by
 refine⟨fun h0=>?_,fun h0=>by unfold orf;rw[jdt h0]⟩;unfold textR orf;rw[jdu h,jdu h0,jdt (by omega)]
theorem EU{n:Nat}{l:List Nat}{f:Nat}(h:¬ l.length<n):Rds (textR n) l f (ak (l.take n)) (l.drop n) f:=by
 refine⟨fun h0=>?_,fun _=>rfl⟩;unfold textR;rw[jdt h,jdu h0]
theorem TY{w:World}{p f:Nat}{b:List Nat}(h:St 200 w p b f) :
  Calls Tryz.prog 212 #[.pointer (some ⟨p,0,none⟩)] w (JH 200 (QZ 16) (fun s=>.string s) (fun s=>s.size<=16) p b f w):=by
 have HN:=ae (iY h 16 (by omega));clear h;go_enter Tryz.func212,Tryz.ntmps212
 go_wp2_with fail;refine HN.o.mono ?_;rintro e w1 ⟨n,b1,f1,rfl,hn,ea,Am,dv⟩;have jy:=ae ea;have sg:=ae Am;have gp:=ae dv;have aQ:=ae ea.bs;obtain⟨a,cap,h0,h1,h2,h3,h4,h5,h6,h7,h8,h9⟩:=ea.cells;have FY:=ae h6;have H9:=ae h9;have H7:=ae h7;clear ea Am dv h6 h8 h9 h7 HN;by_cases ZK:b1.length<n
 ·have hsh':(n:Int) > (b1.length:Int):=by omega
  have HT:=ae (sg.o.bind (xm (f:=f1) ZK));go_wp2_with fail;refine(mP jy.o 30).mono ?_;rintro e w2 ⟨rfl,dN,dD⟩;have gl:=ae dN;have gM:=ae (gp.o.trans (dD.mono gp.o.size));clear dN dD;go_wp2_with fail;go_ret
  exact⟨ak [],b1,_,rfl,by show (ak []).size<=16;rw[bg];simp,gl.o,HT.o,gM.o⟩
 ·have hsh':¬ (n:Int) > (b1.length:Int):=by omega
  have HT:=ae (sg.o.bind (EU (f:=f1) ZK));have LM:=(FY.o.take (k:=n) (by rw[ar];omega));have e1:(aF .u8 b1).take n=aF .u8 (b1.take n):=by simp[aF,jeT]
  rw[e1]at LM;have hcv2:=LM.conv (aQ.o.take n);rw[dJ]at hcv2;have FX:jfp ((ak (b1.take n)).size<=16):=ae (by rw[bg,jdC];omega);have hncap:(n:Int)<=(cap:Int):=by omega
  have hnlen:(n:Int)<=(b1.length:Int):=by omega
  have Zq:(0:Int)<=(n:Int):=by omega
  have hnt:((n:Int)).toNat=n:=by omega
  clear LM e1;generalize ak (b1.take n)=TX at *;rcases jel b1.length with hz | hp
  ·have qq:n=0:=by omega
   subst qq;cases a with
   | none =>
    have qk:=H7.o rfl;subst qk;have kJ:=(H9.o none 0 (by omega) (fun _ _=>rfl) (fun h=>by omega));rw[hz]at kJ;have cU:=ae kJ;have gM:=ae (gp.o.set 0 (.slice none 0 0));clear kJ;go_wp2_with fail;go_ret
    exact⟨TX,b1.drop 0,f1,rfl,FX.o,cU.o,HT.o,gM.o⟩
   | some ad =>
    have kJ:=(H9.o (some ad) 0 (by omega) (fun _ hA'=>by cases hA') (fun h=>by omega));rw[hz]at kJ;have cU:=ae kJ;have gM:=ae (gp.o.set 0 (.slice (some ad) 0 cap));clear kJ;go_wp2_with fail;go_ret
    exact⟨TX,b1.drop 0,f1,rfl,FX.o,cU.o,HT.o,gM.o⟩
  ·obtain⟨g,off,ha⟩:∃ g off,a=some ⟨g,off,none⟩:=by
    obtain⟨a',cap',e,_,_,_,hx⟩:=FY.o;simp only[Value.slice.injEq]at e;obtain⟨b',off',e2,_⟩:=hx (by rw[ar];exact hp);exact⟨b',off',e.1.trans e2⟩
   subst ha;obtain⟨A,hA⟩:∃ A,(if cap=n then (some ⟨g,off,none⟩:Option Addr) else some ⟨g,off+n,none⟩)=A:=⟨_,rfl⟩
   have cU:=ae (H9.o A n (by omega) (fun hk hA'=>by
    rw[hA']at hA;split at hA<;>cases hA) (fun hk=>⟨g,off,rfl,by rw[← hA,jdt (by omega)]⟩))
   have gM:=ae (gp.o.set 0 (.slice A (b1.length-n) (cap-n)));go_wp2_with fail;go_ret
   exact⟨TX,b1.drop n,f1,rfl,FX.o,cU.o,HT.o,gM.o⟩
def Mid(w:World)(p:Nat)(W:World)(b:List Nat)(f:Nat)(x0 x1 x2 x3:Value):Prop :=
 St 200 W p b f/\p<w.heap.size/\W.heap[w.heap.size]?=some (.cells #[.int .u32 0,.string ⟨#[]⟩,.int .u8 0,.bool false] 81 (0,0)) /\
 W.heap[w.heap.size+1]?=some (.cells #[x0,x1,x2,x3] 81 (0,0))/\Fr p w.heap.size w W
theorem Mid.begin{w:World}{p f:Nat}{b:List Nat}(h:St 200 w p b f) :
  Mid w p ((w.alloc (.cells #[.int .u32 0,.string ⟨#[]⟩,.int .u8 0,.bool false] 81)).alloc (.cells #[.int .u32 0,.string ⟨#[]⟩,.int .u8 0,.bool false] 81)) b f (.int .u32 0) (.string ⟨#[]⟩) (.int .u8 0) (.bool false):=by
 have hbW:=((jdv w.heap.size w).alloc (jdw _) (.cells #[.int .u32 0,.string ⟨#[]⟩,.int .u8 0,.bool false] 81)).alloc (by rw[jdx];omega) (.cells #[.int .u32 0,.string ⟨#[]⟩,.int .u8 0,.bool false] 81);have ct:(w.alloc (.cells #[.int .u32 0,.string ⟨#[]⟩,.int .u8 0,.bool false] 81)).heap.size=w.heap.size+1:=jdx _ _;have aH:=am (w.alloc (.cells #[.int .u32 0,.string ⟨#[]⟩,.int .u8 0,.bool false] 81)) (.cells #[.int .u32 0,.string ⟨#[]⟩,.int .u8 0,.bool false] 81);have hh0:=jdW w (.cells #[.int .u32 0,.string ⟨#[]⟩,.int .u8 0,.bool false] 81);have hh:=jdW (w.alloc (.cells #[.int .u32 0,.string ⟨#[]⟩,.int .u8 0,.bool false] 81)) (.cells #[.int .u32 0,.string ⟨#[]⟩,.int .u8 0,.bool false] 81);rw[ct]at hh;exact⟨h.kept hbW h.lt,h.lt,(aH.block w.heap.size (by omega)).trans hh0,hh,Fr.of_below hbW⟩
theorem Mid.call{w W W':World}{p f f':Nat}{b b':List Nat}{x0 x1 x2 x3:Value}(h:Mid w p W b f x0 x1 x2 x3)(hs:St 200 W' p b' f')(hf:Fr p W.heap.size W W'):Mid w p W' b' f' x0 x1 x2 x3:=by
 obtain⟨h1,h2,h3,h4,h5⟩:=h;have l3:=(Array.getElem?_eq_some_iff.1 h3).1;have l4:=(Array.getElem?_eq_some_iff.1 h4).1;exact⟨hs,h2,(hf.block _ l3 (by omega)).trans h3,(hf.block _ l4 (by omega)).trans h4,h5.trans (hf.mono (by omega))⟩
theorem Mid.facts{w W:World}{p f:Nat}{b:List Nat}{x0 x1 x2 x3:Value}(h:Mid w p W b f x0 x1 x2 x3) :
  (W.cell? ⟨w.heap.size+1,0,none⟩=some x0/\W.cell? ⟨w.heap.size+1,1,none⟩=some x1/\W.cell? ⟨w.heap.size+1,2,none⟩=some x2/\W.cell? ⟨w.heap.size+1,3,none⟩=some x3) /\
  (W.frozen? ⟨w.heap.size+1,0,none⟩=false/\W.frozen? ⟨w.heap.size+1,1,none⟩=false/\W.frozen? ⟨w.heap.size+1,2,none⟩=false/\W.frozen? ⟨w.heap.size+1,3,none⟩=false) /\
  (W.cell? ⟨w.heap.size,0,none⟩=some (.int .u32 0)/\W.cell? ⟨w.heap.size,1,none⟩=some (.string ⟨#[]⟩)/\W.cell? ⟨w.heap.size,2,none⟩=some (.int .u8 0)/\W.cell? ⟨w.heap.size,3,none⟩=some (.bool false)) /\
  (W.frozen? ⟨w.heap.size,0,none⟩=false/\W.frozen? ⟨w.heap.size,1,none⟩=false/\W.frozen? ⟨w.heap.size,2,none⟩=false/\W.frozen? ⟨w.heap.size,3,none⟩=false):=by
 obtain⟨h1,h2,h3,h4,h5⟩:=h;refine⟨⟨?_,?_,?_,?_⟩,⟨?_,?_,?_,?_⟩,⟨?_,?_,?_,?_⟩,⟨?_,?_,?_,?_⟩⟩<;>first | (rw[ay h4];rfl) | (rw[ay h3];rfl) | (simp[World.frozen?,h4];done) | (simp[World.frozen?,h3];done)
theorem Mid.keep{w W:World}{p f:Nat}{b:List Nat}{x0 x1 x2 x3:Value}(h:Mid w p W b f x0 x1 x2 x3)(j:Nat)(v:Value) :
  St 200 (W.setCell ⟨w.heap.size+1,j,none⟩ v) p b f/\(W.setCell ⟨w.heap.size+1,j,none⟩ v).heap[w.heap.size]?=some (.cells #[.int .u32 0,.string ⟨#[]⟩,.int .u8 0,.bool false] 81 (0,0))/\Fr p w.heap.size w (W.setCell ⟨w.heap.size+1,j,none⟩ v):=by
 obtain⟨h1,h2,h3,h4,h5⟩:=h;have hb:Below (w.heap.size+1) W (W.setCell ⟨w.heap.size+1,j,none⟩ v):=(jdv (w.heap.size+1) W).setCell (show w.heap.size+1<=w.heap.size+1 from jdw _) _;exact⟨h1.kept hb (by omega),(hb.block _ (by omega)).trans h3,h5.then (hb.mono (by omega))⟩
theorem Mid.set0{w W:World}{p f:Nat}{b:List Nat}{x0 x1 x2 x3:Value}(h:Mid w p W b f x0 x1 x2 x3)(v:Value):Mid w p (W.setCell ⟨w.heap.size+1,0,none⟩ v) b f v x1 x2 x3 :=
 ⟨(h.keep 0 v).1,h.2.1,(h.keep 0 v).2.1,by rw[cK h.2.2.2.1];rfl,(h.keep 0 v).2.2⟩
theorem Mid.set1{w W:World}{p f:Nat}{b:List Nat}{x0 x1 x2 x3:Value}(h:Mid w p W b f x0 x1 x2 x3)(v:Value):Mid w p (W.setCell ⟨w.heap.size+1,1,none⟩ v) b f x0 v x2 x3 :=
 ⟨(h.keep 1 v).1,h.2.1,(h.keep 1 v).2.1,by rw[cK h.2.2.2.1];rfl,(h.keep 1 v).2.2⟩
theorem Mid.set2{w W:World}{p f:Nat}{b:List Nat}{x0 x1 x2 x3:Value}(h:Mid w p W b f x0 x1 x2 x3)(v:Value):Mid w p (W.setCell ⟨w.heap.size+1,2,none⟩ v) b f x0 x1 v x3 :=
 ⟨(h.keep 2 v).1,h.2.1,(h.keep 2 v).2.1,by rw[cK h.2.2.2.1];rfl,(h.keep 2 v).2.2⟩
theorem Mid.set3{w W:World}{p f:Nat}{b:List Nat}{x0 x1 x2 x3:Value}(h:Mid w p W b f x0 x1 x2 x3)(v:Value):Mid w p (W.setCell ⟨w.heap.size+1,3,none⟩ v) b f x0 x1 x2 v :=
 ⟨(h.keep 3 v).1,h.2.1,(h.keep 3 v).2.1,by rw[cK h.2.2.2.1];rfl,(h.keep 3 v).2.2⟩
theorem Mid.done{w W:World}{p f:Nat}{b:List Nat}{x0 x1 x2 x3:Value}(h:Mid w p W b f x0 x1 x2 x3)(y0 y1 y2 y3:Value) :
  St 200 ((((W.setCell ⟨w.heap.size,0,none⟩ y0).setCell ⟨w.heap.size,1,none⟩ y1).setCell ⟨w.heap.size,2,none⟩ y2).setCell ⟨w.heap.size,3,none⟩ y3) p b f /\
  Fr p w.heap.size w ((((W.setCell ⟨w.heap.size,0,none⟩ y0).setCell ⟨w.heap.size,1,none⟩ y1).setCell ⟨w.heap.size,2,none⟩ y2).setCell ⟨w.heap.size,3,none⟩ y3):=by
 obtain⟨h1,h2,h3,h4,h5⟩:=h
 have hb:Below w.heap.size W ((((W.setCell ⟨w.heap.size,0,none⟩ y0).setCell ⟨w.heap.size,1,none⟩ y1).setCell ⟨w.heap.size,2,none⟩ y2).setCell ⟨w.heap.size,3,none⟩ y3) :=
  have pB:w.heap.size<=w.heap.size:=jdw _;((((jdv w.heap.size W).setCell (p:=⟨w.heap.size,0,none⟩) pB _).setCell (p:=⟨w.heap.size,1,none⟩) pB _).setCell (p:=⟨w.heap.size,2,none⟩) pB _).setCell (p:=⟨w.heap.size,3,none⟩) pB _
 exact⟨h1.kept hb h2,h5.then hb⟩
theorem XB{b b1 b2 b3 b4:List Nat}{f f1 f2 f3 f4 i k n:Nat}{s:ByteArray}(h1:Rds (ir 4294967295) b f i b1 f1)(h2:Rds (QZ 16) b1 f1 s b2 f2)(h3:Rds (ir 255) b2 f2 k b3 f3)(h4:Rds (ir 1) b3 f3 n b4 f4) :
  Rds uo b f (i,s,k,decide (n=1)) b4 f4 :=
 h1.bind (h2.bind (h3.bind (h4.bind (Rds.pure (i,s,k,decide (n=1)) b4 f4))))
theorem Pe{w:World}{p f:Nat}{b:List Nat}(h:St 200 w p b f) :
  Calls Tryz.prog 179 #[.pointer (some ⟨p,0,none⟩)] w (JH 200 uo pX (fun x=>Okf x/\x.2.1.size<=16) p b f w):=by
 have HM:=ae (Mid.begin h);have ct:(w.alloc (.cells #[.int .u32 0,.string ⟨#[]⟩,.int .u8 0,.bool false] 81)).heap.size=w.heap.size+1:=jdx _ _;clear h;generalize hW:(w.alloc (.cells #[.int .u32 0,.string ⟨#[]⟩,.int .u8 0,.bool false] 81)).alloc (.cells #[.int .u32 0,.string ⟨#[]⟩,.int .u8 0,.bool false] 81)=W at *;go_enter Tryz.func179,Tryz.ntmps179
 go_wp2_with fail;try rw[hW]
 clear hW ct;refine(iY HM.o.1 4294967295 (by omega)).mono ?_;rintro e w1 ⟨i,b1,f1,rfl,hi,ea,Am,dv⟩;have Qa:=ae (HM.o.call ea dv);have sg:=ae Am;have HI:=ae hi;have hi':i<4294967296:=by omega
 obtain⟨⟨c0,c1,c2,c3⟩,⟨z0,z1,z2,z3⟩,_,_⟩:=Qa.o.facts;clear ea Am dv hi HM;go_wp2_with fail;have KB:=ae (Qa.o.set0 (.int .u32 (i:Int)));clear Qa c0 c1 c2 c3 z0 z1 z2 z3;generalize hX:w1.setCell ⟨w.heap.size+1,0,none⟩ (.int .u32 (i:Int))=X at *;try rw[hX]
 clear hX;refine(TY KB.o.1).mono ?_;rintro e w2 ⟨s,b2,f2,rfl,hs,dN,BT,dD⟩;have UO:=ae (KB.o.call dN dD);have jb:=ae BT;have HS:=ae hs;obtain⟨⟨c0,c1,c2,c3⟩,⟨z0,z1,z2,z3⟩,_,_⟩:=UO.o.facts;clear dN BT dD hs KB;go_wp2_with fail;have PO:=ae (UO.o.set1 (.string s));clear UO c0 c1 c2 c3 z0 z1 z2 z3;generalize hX:w2.setCell ⟨w.heap.size+1,1,none⟩ (.string s)=Y at *;try rw[hX]
 clear hX;refine(iY PO.o.1 255 (by omega)).mono ?_;rintro e w3 ⟨k,b3,f3,rfl,hk,lr,ZF,gS⟩;have HM5:=ae (PO.o.call lr gS);have sj:=ae ZF;have HK:=ae hk;have hk':k<256:=by omega
 obtain⟨⟨c0,c1,c2,c3⟩,⟨z0,z1,z2,z3⟩,_,_⟩:=HM5.o.facts;clear lr ZF gS hk PO;go_wp2_with fail;have ZL:=ae (HM5.o.set2 (.int .u8 (k:Int)));clear HM5 c0 c1 c2 c3 z0 z1 z2 z3;generalize hX:w3.setCell ⟨w.heap.size+1,2,none⟩ (.int .u8 (k:Int))=Z at *;try rw[hX]
 clear hX;refine(iY ZL.o.1 1 (by omega)).mono ?_;rintro e w4 ⟨n,b4,f4,rfl,hn,xF,ZG,pG⟩;have ZM:=ae (ZL.o.call xF pG);have pI:=ae (XB sg.o jb.o sj.o ZG);obtain⟨⟨c0,c1,c2,c3⟩,⟨z0,z1,z2,z3⟩,⟨y0,y1,y2,y3⟩,⟨u0,u1,u2,u3⟩⟩:=ZM.o.facts;clear xF ZG pG hn ZL
 have hq:((n:Int)==1)=decide (n=1):=by
  by_cases h:n=1
  ·subst h;rfl
  ·rw[jdK h];exact jdG.2 (by omega)
 have HQ:=ae hq;clear hq;go_wp2_with fail;rw[HQ.o];obtain⟨d1,d2⟩:=(ZM.o.set3 (.bool (decide (n=1)))).done (.int .u32 (i:Int)) (.string s) (.int .u8 (k:Int)) (.bool (decide (n=1)));refine bodyPost_ret (v:=pX (i,s,k,decide (n=1))) (by simp[results,Tryz.results179,go_sem,pX,y0,y1,y2,y3]) rfl ?_;exact⟨_,_,_,rfl,⟨⟨by have:=HI.o;show i<4294967296;omega,by have:=HK.o;show k<256;omega⟩,HS.o⟩,d1,pI.o,d2⟩
end Go.Proofs.YtpljdjmpamjkhaaGreatDoor
