import Derived.Test.YtpljdjmpamjkhaaGreatDoorXaq
import Derived.Test.YtpljdjmpamjkhaaGreatDoorXao
import Derived.Lib.EndianMore
set_option linter.unusedVariables false
set_option linter.unusedSimpArgs false
set_option maxRecDepth 100000
set_option maxHeartbeats 4000000
namespace Go.Proofs.YtpljdjmpamjkhaaGreatDoor
open Go.RowKit Go.Lib
def gR(W:World)(b off op f:Nat)(c:Cl)(kv:Value):Prop :=
 b<W.heap.size/\W.cell? ⟨b,off,none⟩=some (.int .u8 (op:Int))/\W.cell? ⟨b,off+1,none⟩=some (.int .u32 (f:Int))/\W.cell? ⟨b,off+2,none⟩=some (.int .u8 (c.1:Int))/\W.cell? ⟨b,off+3,none⟩=some (.int .i64 c.2.1)/\W.cell? ⟨b,off+4,none⟩=some (.string (ak c.2.2))/\W.cell? ⟨b,off+5,none⟩=some kv
theorem gR.kept{W W':World}{b off op f:Nat}{c:Cl}{kv:Value}(h:gR W b off op f c kv)(hb:Below W.heap.size W W'):gR W' b off op f c kv:=by
 obtain⟨h0,h1,h2,h3,h4,h5,h6⟩:=h;have e:∀ o,W'.cell? ⟨b,o,none⟩=W.cell? ⟨b,o,none⟩:=fun o=>(gq hb).1 b o h0
 exact⟨jdS h0 hb.size,by rw[e];exact h1,by rw[e];exact h2,by rw[e];exact h3,by rw[e];exact h4,by rw[e];exact h5,by rw[e];exact h6⟩
 mutual
def jG(W:World):Nat->Nat->PT->Prop
 | b,off,.node op f c ks=>∃ a cap,gR W b off op f c (.slice a ks.length cap)/\ks.length<=cap/\cap<=maxLen/\(0<ks.length->∃ g o,a=some ⟨g,o,none⟩/\KidsAt W g o ks)
def KidsAt(W:World):Nat->Nat->List PT->Prop
 | _,_,[]=>True
 | g,o,k::ks=>jG W g o k/\KidsAt W g (o+6) ks
 end
theorem KidsAt.mono{W W':World}:∀{ks:List PT} {g o:Nat},(∀ k∈ks,∀ b off,jG W b off k->jG W' b off k)->KidsAt W g o ks->KidsAt W' g o ks
 | [],g,o,_,_=>by simp[KidsAt]
 | k::ks,g,o,hm,h=>by
  simp only[KidsAt]at h ⊢;exact⟨hm k (by simp) _ _ h.1,KidsAt.mono (fun x hx=>hm x (by simp[hx])) h.2⟩
theorem jG.kept{W W':World}(hb:Below W.heap.size W W'):∀(t:PT) (b off:Nat),jG W b off t->jG W' b off t:=by
 refine PT.ind fun op f c ks ih b off h=>?_
 simp only[jG]at h ⊢;obtain⟨a,cap,h1,h2,h3,h4⟩:=h;refine⟨a,cap,h1.kept hb,h2,h3,fun h0=>?_⟩;obtain⟨g,o,h5,h6⟩:=h4 h0;exact⟨g,o,h5,KidsAt.mono ih h6⟩
theorem KidsAt.kept{W W':World}(hb:Below W.heap.size W W'){ks:List PT}{g o:Nat}(h:KidsAt W g o ks):KidsAt W' g o ks:=KidsAt.mono (fun k _=>jG.kept hb k) h
def sO(W:World)(v:Value)(ks:List PT):Prop:=∃ a cap,v=.slice a ks.length cap/\ks.length<=cap/\cap<=maxLen/\(0<ks.length->∃ g o,a=some ⟨g,o,none⟩/\KidsAt W g o ks)
theorem sO.kept{W W':World}{v:Value}{ks:List PT}(h:sO W v ks)(hb:Below W.heap.size W W'):sO W' v ks:=by
 obtain⟨a,cap,h1,h2,h3,h4⟩:=h;refine⟨a,cap,h1,h2,h3,fun h0=>?_⟩;obtain⟨g,o,h5,h6⟩:=h4 h0;exact⟨g,o,h5,h6.kept hb⟩
theorem sO.form{W:World}{v:Value}{ks:List PT}(h:sO W v ks):∃ a cap,v=.slice a ks.length cap/\ks.length<=cap/\cap<=maxLen:=by
 obtain⟨a,cap,h1,h2,h3,_⟩:=h;exact⟨a,cap,h1,h2,h3⟩
theorem jG.open{W:World}{b off op f:Nat}{c:Cl}{ks:List PT}(h:jG W b off (.node op f c ks)):∃ a cap,gR W b off op f c (.slice a ks.length cap)/\sO W (.slice a ks.length cap) ks:=by
 simp only[jG]at h;obtain⟨a,cap,h1,h2,h3,h4⟩:=h;exact⟨a,cap,h1,a,cap,rfl,h2,h3,h4⟩
theorem jG.shut{W:World}{b off op f:Nat}{c:Cl}{ks:List PT}{v:Value}(h:gR W b off op f c v)(hk:sO W v ks):jG W b off (.node op f c ks):=by
 obtain⟨a,cap,rfl,h2,h3,h4⟩:=hk;simp only[jG];exact⟨a,cap,h,h2,h3,h4⟩
theorem Lk{c:Cl}(hf:aT c)(w:World):Calls Tryz.prog 100 #[cY c] w fun e w'=>e=.returned (.int .u8 (c.1:Int))/\w'=w:=Hi hf.val w
theorem SV{c:Cl}(jx:Okc c)(w:World):Calls Tryz.prog 217 #[.agg #[.int .u8 (c.1:Int),.int .i64 c.2.1,.string (ak c.2.2)]] w fun e w'=>e=.returned (.tuple #[cY (bm c),.int .i64 (flt (c.1:Int) c.2.1 (ak c.2.2))])/\Below w.heap.size w w':=by
 by_cases h:flt (c.1:Int) c.2.1 (ak c.2.2)=0
 ·refine(Xa _ _ _ (by omega) h w).mono ?_
  rintro e w1 ⟨⟨v,rfl,hv⟩,hb⟩;have VV:bm c=c:=jdu h;have hf:aT c:=by have:=fV jx;rwa[VV]at this
  rw[VV,h,CI hf hv];exact⟨rfl,hb⟩
 ·refine(jaB _ _ _ (by simpa using h) w).mono ?_
  rintro e w1 ⟨rfl,hb⟩;have VV:bm c=nul:=jdt h;rw[VV];exact⟨rfl,hb⟩
theorem oL{c:Cl}(jx:Okc c)(w:World):Calls Tryz.prog 219 #[.agg #[.int .u8 (c.1:Int),.int .i64 c.2.1,.string (ak c.2.2)]] w fun e w'=>e=.returned (cY (bm c))/\Below w.heap.size w w':=by
 have HO:=ae jx;have ce:=ae (am w (.cells #[.int .u8 (c.1:Int),.int .i64 c.2.1,.string (ak c.2.2)] 52));obtain⟨c0,c1,c2⟩:=dx w (.int .u8 (c.1:Int)) (.int .i64 c.2.1) (.string (ak c.2.2)) 52;clear jx;go_enter Tryz.func219,Tryz.ntmps219
 go_wp2_with fail;refine(SV HO.o _).mono ?_;rintro e w1 ⟨rfl,hb⟩;go_wp2_with fail;go_ret
 exact⟨rfl,ai ce.o hb⟩
theorem aT.short{c:Cl}(h:aT c):(ak c.2.2).size<=64:=by
 rw[bg];rcases h with rfl | ⟨n,rfl,_⟩ | ⟨b,rfl,_⟩ | ⟨s,rfl,hs,_⟩
 ·simp[nul]
 ·simp
 ·simp
 ·exact hs
theorem Nj{c:Cl}(hf:aT c)(w:World):Calls Tryz.prog 220 #[cY c] w fun e w'=>e=.returned (.bool (sN c))/\Below w.heap.size w w':=by
 have HF:=ae hf;clear hf;go_enter Tryz.func220,Tryz.ntmps220
 go_wp2_with fail;refine(lK HF.o.val _).mono ?_;rintro e w1 ⟨rfl,hb⟩;have HB:=ae hb;clear hb;obtain⟨c0,c1,c2⟩:=dx w1 (.int .u8 (c.1:Int)) (.int .i64 c.2.1) (.string (ak c.2.2)) 52;have aQ:=ae (am w1 (.cells #[.int .u8 (c.1:Int),.int .i64 c.2.1,.string (ak c.2.2)] 52));go_wp2_with fail;refine(zb _ (by have:=HF.o.short;omega) _).mono ?_;rintro e w2 ⟨rfl,hb⟩;have HN:jfp (sN c=decide ((((V (lb (ak c.2.2))).length:Nat):Int)<4)):=ae (by unfold sN;exact decide_eq_decide.2 (by omega));generalize (V (lb (ak c.2.2))).length=n at *;go_wp2_with fail;go_ret
 exact⟨kq HN.o.symm,ai (ai HB.o aQ.o) hb⟩
theorem DO{c:Cl}(hf:aT c)(w:World):Calls Tryz.prog 102 #[cY c] w fun e w'=>e=.returned (.bool (!dP (lb (ak c.2.2))))/\Below w.heap.size w w':=by
 have HF:=ae hf;clear hf;go_enter Tryz.func102,Tryz.ntmps102
 go_wp2_with fail;refine(lK HF.o.val _).mono ?_;rintro e w1 ⟨rfl,hb⟩;have HB:=ae hb;clear hb;obtain⟨c0,c1,c2⟩:=dx w1 (.int .u8 (c.1:Int)) (.int .i64 c.2.1) (.string (ak c.2.2)) 52;have aQ:=ae (am w1 (.cells #[.int .u8 (c.1:Int),.int .i64 c.2.1,.string (ak c.2.2)] 52));go_wp2_with fail;refine(sG _ (by have:=HF.o.short;omega) _).mono ?_;rintro e w2 ⟨rfl,hb⟩;obtain⟨n,hn⟩:∃ n,n=dP (lb (ak c.2.2)):=⟨_,rfl⟩;rw[← hn];have HN:=ae hn;clear hn;go_wp2_with fail;go_ret
 exact⟨kq (by rw[HN.o]),ai (ai HB.o aQ.o) hb⟩
theorem wQ{c:Cl}(hf:aT c)(w:World):Calls Tryz.prog 99 #[cY c] w fun e w'=>e=.returned (.bool (decide (c.1=0)))/\Below w.heap.size w w':=by
 have HF:=ae hf;clear hf;go_enter Tryz.func99,Tryz.ntmps99
 go_wp2_with fail;refine(Lk HF.o _).mono ?_;rintro e w1 ⟨rfl,rfl⟩;go_wp2_with fail;go_ret
 refine⟨kq ?_,jdv _ _⟩;rw[jeX];simp
theorem Ll(b:Bool)(w:World):Calls Tryz.prog 221 #[.bool b] w fun e w'=>e=.returned (.int .u8 (isM b:Int))/\w'=w:=by
 refine(jaC b w).mono ?_;rintro e w1 ⟨rfl,rfl⟩;refine⟨?_,rfl⟩;cases b<;>rfl
def zD(W:World)(q si:Nat)(fv rv:Value)(l:List Fd)(r:List Cl):Prop :=
 q<W.heap.size/\W.cell? ⟨q,0,none⟩=some (.int .u32 (si:Int))/\W.cell? ⟨q,1,none⟩=some fv/\W.cell? ⟨q,2,none⟩=some rv/\Sf W fv l/\Sv W rv (aI r)
theorem zD.kept{W W':World}{q si:Nat}{fv rv:Value}{l:List Fd}{r:List Cl}(h:zD W q si fv rv l r)(hb:Below W.heap.size W W'):zD W' q si fv rv l r:=by
 obtain⟨h0,h1,h2,h3,h4,h5⟩:=h;have e:∀ o,W'.cell? ⟨q,o,none⟩=W.cell? ⟨q,o,none⟩:=fun o=>(gq hb).1 q o h0
 exact⟨jdS h0 hb.size,by rw[e];exact h1,by rw[e];exact h2,by rw[e];exact h3,h4.kept hb,h5.kept hb⟩
theorem Hp{l:List Fd}{r:List Cl}{op f:Nat}{c:Cl}(h:iL l f=none):pr l r op f c=1:=by unfold pr;rw[h]
theorem Hq{l:List Fd}{r:List Cl}{op f j:Nat}{c:Cl}(h:iL l f=some j)(hj:¬ j<r.length):pr l r op f c=1:=by
 unfold pr;rw[h];simp only;rw[List.getElem?_eq_none (by omega)]
theorem SW{l:List Fd}{r:List Cl}{op f j:Nat}{c:Cl}(h:iL l f=some j)(hj:j<r.length):pr l r op f c=DN op c r[j]:=by
 unfold pr;rw[h];simp only;rw[List.getElem?_eq_getElem hj]
theorem sP(w:World)(x0 x1 x2 x3 x4 x5:Value)(t:Nat):(w.alloc (.cells #[x0,x1,x2,x3,x4,x5] t)).cell? ⟨w.heap.size,0,none⟩=some x0/\(w.alloc (.cells #[x0,x1,x2,x3,x4,x5] t)).cell? ⟨w.heap.size,1,none⟩=some x1/\(w.alloc (.cells #[x0,x1,x2,x3,x4,x5] t)).cell? ⟨w.heap.size,2,none⟩=some x2/\(w.alloc (.cells #[x0,x1,x2,x3,x4,x5] t)).cell? ⟨w.heap.size,3,none⟩=some x3/\(w.alloc (.cells #[x0,x1,x2,x3,x4,x5] t)).cell? ⟨w.heap.size,4,none⟩=some x4/\(w.alloc (.cells #[x0,x1,x2,x3,x4,x5] t)).cell? ⟨w.heap.size,5,none⟩=some x5:=by
 refine⟨?_,?_,?_,?_,?_,?_⟩<;>simp[go_sem]
theorem wR(w:World)(op f:Nat)(c:Cl)(kv:Value):gR (w.alloc (.cells #[.int .u8 (op:Int),.int .u32 (f:Int),.int .u8 (c.1:Int),.int .i64 c.2.1,.string (ak c.2.2),kv] 63)) w.heap.size 0 op f c kv:=by
 obtain⟨h0,h1,h2,h3,h4,h5⟩:=sP w (.int .u8 (op:Int)) (.int .u32 (f:Int)) (.int .u8 (c.1:Int)) (.int .i64 c.2.1) (.string (ak c.2.2)) kv 63;exact⟨by rw[jdx];omega,h0,h1,h2,h3,h4,h5⟩
def b3V(b:B3):Value:=.agg #[.bool b.1,.bool b.2.1,.bool b.2.2]
def jaD(a:B3)(x:Nat):Bool:=if x=0 then a.1 else if x=1 then a.2.1 else a.2.2
def setB(x:Nat)(a:B3):B3:=if x=0 then (true,a.2.1,a.2.2) else if x=1 then (a.1,true,a.2.2) else (a.1,a.2.1,true)
def Flg(W:World)(p:Nat)(o:B3):Prop:=W.heap[p]?=some (.cells #[.bool o.1,.bool o.2.1,.bool o.2.2] 123 (0,0))
theorem Flg.facts{W:World}{p:Nat}{o:B3}(h:Flg W p o):(W.cell? ⟨p,0,none⟩=some (.bool o.1)/\W.cell? ⟨p,1,none⟩=some (.bool o.2.1)/\W.cell? ⟨p,2,none⟩=some (.bool o.2.2))/\(W.frozen? ⟨p,0,none⟩=false/\W.frozen? ⟨p,1,none⟩=false/\W.frozen? ⟨p,2,none⟩=false)/\p<W.heap.size:=by
 unfold Flg at h;refine⟨⟨by rw[ay h];rfl,by rw[ay h];rfl,by rw[ay h];rfl⟩,⟨by simp[World.frozen?,h],by simp[World.frozen?,h],by simp[World.frozen?,h]⟩,(Array.getElem?_eq_some_iff.1 h).1⟩
theorem Flg.set{W:World}{p:Nat}{o:B3}(h:Flg W p o)(x:Nat)(hx:x<=2):Flg (W.setCell ⟨p,x,none⟩ (.bool true)) p (setB x o):=by
 unfold Flg at *;rw[cK h];obtain rfl | rfl | rfl:x=0∨x=1∨x=2:=by omega
 all_goals rfl
theorem Flg.new(w:World)(o:B3):Flg (w.alloc (.cells #[.bool o.1,.bool o.2.1,.bool o.2.2] 123)) w.heap.size o:=by
 exact jdW w _
theorem Flg.kept{W W':World}{p:Nat}{o:B3}(h:Flg W p o)(hb:Below W.heap.size W W'):Flg W' p o:=by
 have hp:=h.facts.2.2;unfold Flg at *;rw[hb.block p hp];exact h
def celS(st:Stt):List Value:=[.int .i64 st.rows,.int .i64 st.nulls,.bool st.some,.bool st.high,.int .u8 (st.lo.1:Int),.int .i64 st.lo.2.1,.string (ak st.lo.2.2),.int .u8 (st.hi.1:Int),.int .i64 st.hi.2.1,.string (ak st.hi.2.2)]
def ux(st:Stt):Value:=.agg #[.int .i64 st.rows,.int .i64 st.nulls,.bool st.some,.bool st.high,.int .u8 (st.lo.1:Int),.int .i64 st.lo.2.1,.string (ak st.lo.2.2),.int .u8 (st.hi.1:Int),.int .i64 st.hi.2.1,.string (ak st.hi.2.2)]
def Stb(W:World)(q:Nat)(st:Stt):Prop:=W.heap[q]?=some (.cells #[.int .i64 st.rows,.int .i64 st.nulls,.bool st.some,.bool st.high,.int .u8 (st.lo.1:Int),.int .i64 st.lo.2.1,.string (ak st.lo.2.2),.int .u8 (st.hi.1:Int),.int .i64 st.hi.2.1,.string (ak st.hi.2.2)] 54 (0,0))
def Hr(W:World)(b off:Nat)(st:Stt):Prop:=b<W.heap.size/\(W.cell? ⟨b,off,none⟩=some (.int .i64 st.rows)/\W.cell? ⟨b,off+1,none⟩=some (.int .i64 st.nulls)/\W.cell? ⟨b,off+2,none⟩=some (.bool st.some)/\W.cell? ⟨b,off+3,none⟩=some (.bool st.high))/\(W.cell? ⟨b,off+4,none⟩=some (.int .u8 (st.lo.1:Int))/\W.cell? ⟨b,off+5,none⟩=some (.int .i64 st.lo.2.1)/\W.cell? ⟨b,off+6,none⟩=some (.string (ak st.lo.2.2)))/\(W.cell? ⟨b,off+7,none⟩=some (.int .u8 (st.hi.1:Int))/\W.cell? ⟨b,off+8,none⟩=some (.int .i64 st.hi.2.1)/\W.cell? ⟨b,off+9,none⟩=some (.string (ak st.hi.2.2)))
theorem Hr.kept{W W':World}{b off:Nat}{st:Stt}(h:Hr W b off st)(hb:Below W.heap.size W W'):Hr W' b off st:=by
 obtain⟨h0,⟨a1,a2,a3,a4⟩,⟨a5,a6,a7⟩,a8,a9,a10⟩:=h;have e:∀ o,W'.cell? ⟨b,o,none⟩=W.cell? ⟨b,o,none⟩:=fun o=>(gq hb).1 b o h0
 exact⟨jdS h0 hb.size,⟨by rw[e];exact a1,by rw[e];exact a2,by rw[e];exact a3,by rw[e];exact a4⟩,⟨by rw[e];exact a5,by rw[e];exact a6,by rw[e];exact a7⟩,by rw[e];exact a8,by rw[e];exact a9,by rw[e];exact a10⟩
theorem Stb.at{W:World}{q:Nat}{st:Stt}(h:Stb W q st):Hr W q 0 st:=by
 unfold Stb at h;exact⟨(Array.getElem?_eq_some_iff.1 h).1,⟨by rw[ay h];rfl,by rw[ay h];rfl,by rw[ay h];rfl,by rw[ay h];rfl⟩,⟨by rw[ay h];rfl,by rw[ay h];rfl,by rw[ay h];rfl⟩,by rw[ay h];rfl,by rw[ay h];rfl,by rw[ay h];rfl⟩
theorem Stb.new(w:World)(st:Stt):Stb (w.alloc (.cells #[.int .i64 st.rows,.int .i64 st.nulls,.bool st.some,.bool st.high,.int .u8 (st.lo.1:Int),.int .i64 st.lo.2.1,.string (ak st.lo.2.2),.int .u8 (st.hi.1:Int),.int .i64 st.hi.2.1,.string (ak st.hi.2.2)] 54)) w.heap.size st:=jdW w _
def Oks(st:Stt):Prop:=Okc st.lo/\Okc st.hi
theorem set3{B:Nat}{w W:World}(h:Below B w W){p:Nat}(hp:B<=p)(x y z:Value):Below B w (((W.setCell ⟨p,0,none⟩ x).setCell ⟨p,1,none⟩ y).setCell ⟨p,2,none⟩ z) :=
 ((h.setCell (p:=⟨p,0,none⟩) hp _).setCell (p:=⟨p,1,none⟩) hp _).setCell (p:=⟨p,2,none⟩) hp _
theorem jaE(u:Bool)(c:Cl)(st:Stt):na u 1 c st=(!(st.high && decide (cT (bm c) (bm st.lo)=0) && decide (cT (bm c) (bm st.hi)=0) && sN (bm c)),u,decide (0<=cT (bm c) (bm st.lo)) && !(st.high && decide (0<cT (bm c) (bm st.hi)))):=rfl
theorem jaF(u:Bool)(c:Cl)(st:Stt):na u 2 c st=(!(st.high && decide (0<cT (bm c) (bm st.hi))),u,decide (0<cT (bm c) (bm st.lo))):=rfl
theorem jaG(u:Bool)(c:Cl)(st:Stt):na u 3 c st=(!(st.high && decide (0<=cT (bm c) (bm st.hi))),u,decide (0<=cT (bm c) (bm st.lo))):=rfl
theorem jaH(u:Bool)(c:Cl)(st:Stt):na u 4 c st=(true,u,true):=rfl
theorem jaI(u:Bool)(op:Nat)(c:Cl)(st:Stt)(h:¬ (1<=op/\op<=4)):na u op c st=(true,true,true):=by
 unfold na;rw[jdt (by omega),jdt (by omega),jdt (by omega),jdt (by omega)]
def SX(w X:World)(b off op f:Nat)(c:Cl)(kv:Value)(u:Bool)(st:Stt):Prop:=Below w.heap.size w X/\Flg X w.heap.size (false,u,false)/\Stb X (w.heap.size+1) st/\Flg X (w.heap.size+1+1) (false,false,false)/\gR X b off op f c kv
theorem SX.kept{w X Y:World}{b off op f:Nat}{c:Cl}{kv:Value}{u:Bool}{st:Stt}(h:SX w X b off op f c kv u st)(hb:Below X.heap.size X Y):SX w Y b off op f c kv u st:=by
 obtain⟨h1,h2,h3,h4,h5⟩:=h;refine⟨ai h1 hb,h2.kept hb,?_,h4.kept hb,h5.kept hb⟩;unfold Stb at *;rw[hb.block _ ((Array.getElem?_eq_some_iff.1 h3).1)];exact h3
theorem Nk(a b:Cl):cT b a=- cT a b:=Xc _ _ _ _ _ _
theorem Hs(a b:Cl):cT a b=-1∨cT a b=0∨cT a b=1:=SP _ _ _ _ _ _
def Lm(P:Cl->Bool)(cs:List Cl)(z:Int):Prop:=(z=-1/\∀ j (h:j<cs.length),P cs[j]=false)∨(∃ k,∃(h:k<cs.length),z=(k:Int)/\P cs[k]=true/\∀ j (h:j<cs.length),j<k->P cs[j]=false)
theorem DP{w:World}{v:Value}{cs:List Cl}(hs:Sv w v (aI cs))(hf:∀ c∈cs,aT c):Calls Tryz.prog 143 #[v,.func (.func 99) #[] #[]] w fun e w'=>(∃ z:Int,e=.returned (.int .i64 z)/\Lm (fun c=>decide (c.1=0)) cs z)/\Below w.heap.size w w':=by
 have HS:=ae hs;have HF:=ae hf;obtain⟨a,cap,rfl,aW,bw⟩:=hs.form1;rw[aG]at *;have hcm':cap<=9223372036854775807:=by unfold maxLen at bw;omega
 clear hs hf bw;go_enter Tryz.func143,Tryz.ntmps143
 go_wp2_with fail;go_loopw [8] (fun i wr=>∃ k:Nat,k<=cs.length/\i=.int .i64 (k:Int)/\(∀ j (h:j<cs.length),j<k->(fun c:Cl=>decide (c.1=0)) cs[j]=false)/\Below w.heap.size w wr) (fun i _=>cs.length-(intOf i).toNat)
 case atStart=>exact⟨0,by omega,rfl,fun j h hj=>by omega,jdv _ _⟩
 case round =>
  obtain⟨k,hk,rfl,cX,az⟩:=hrel;have HA:=ae cX;have HB:=ae az;clear cX az;by_cases aB:k<cs.length
  ·obtain⟨b,off,rfl,hb,z⟩:=(HS.o.kept HB.o).at1 (cN aB)
   have hlt':(k:Int)<(cs.length:Int):=(by omega);have HC:=ae (wQ (HF.o cs[k] (jdA aB)));have HP:jfp ((fun c:Cl=>decide (c.1=0)) cs[k]=(fun c:Cl=>decide (c.1=0)) cs[k]):=ae rfl;obtain⟨pv,hpv⟩:∃ pv,pv=(fun c:Cl=>decide (c.1=0)) cs[k]:=⟨_,rfl⟩;have VW:=ae hpv;rw[show (decide (cs[k].1=0))=pv from hpv.symm]at HC;clear hpv HP;generalize ek:cs[k]=c at *;have nk:=ae ek;clear ek;go_wp2_with fail;refine(HC.o _).mono ?_;rintro e w2 ⟨rfl,aE⟩;have aO:=ae (ai HB.o aE);clear aE;cases pv
   ·go_wp2_with fail
    go_roundw
    case rel=>exact⟨k+1,by omega,by go_num,fun j h hj=>by
     by_cases hjk:j=k
     ·subst hjk
      rw[nk.o];exact VW.o.symm
     ·exact HA.o j h (by omega),aO.o⟩
    case measure=>simp[intOf];omega
   ·go_wp2_with fail
    go_ret
    exact⟨⟨(k:Int),rfl,Or.inr ⟨k,aB,rfl,by rw[nk.o];exact VW.o.symm,HA.o⟩⟩,aO.o⟩
  ·obtain rfl:k=cs.length:=by omega
   have gj:¬ ((cs.length:Nat):Int)<(cs.length:Int):=(by omega);go_wp2_with fail;go_ret
   exact⟨⟨-1,rfl,Or.inl ⟨rfl,fun j h=>HA.o j h h⟩⟩,HB.o⟩
theorem wS{w:World}{v:Value}{cs:List Cl}(hs:Sv w v (aI cs))(hf:∀ c∈cs,aT c):Calls Tryz.prog 143 #[v,.func (.func 102) #[] #[]] w fun e w'=>(∃ z:Int,e=.returned (.int .i64 z)/\Lm (fun c=>!dP (lb (ak c.2.2))) cs z)/\Below w.heap.size w w':=by
 have HS:=ae hs;have HF:=ae hf;obtain⟨a,cap,rfl,aW,bw⟩:=hs.form1;rw[aG]at *;have hcm':cap<=9223372036854775807:=by unfold maxLen at bw;omega
 clear hs hf bw;go_enter Tryz.func143,Tryz.ntmps143
 go_wp2_with fail;go_loopw [8] (fun i wr=>∃ k:Nat,k<=cs.length/\i=.int .i64 (k:Int)/\(∀ j (h:j<cs.length),j<k->(fun c:Cl=>!dP (lb (ak c.2.2))) cs[j]=false)/\Below w.heap.size w wr) (fun i _=>cs.length-(intOf i).toNat)
 case atStart=>exact⟨0,by omega,rfl,fun j h hj=>by omega,jdv _ _⟩
 case round =>
  obtain⟨k,hk,rfl,cX,az⟩:=hrel;have HA:=ae cX;have HB:=ae az;clear cX az;by_cases aB:k<cs.length
  ·obtain⟨b,off,rfl,hb,z⟩:=(HS.o.kept HB.o).at1 (cN aB)
   have hlt':(k:Int)<(cs.length:Int):=(by omega);have HC:=ae (DO (HF.o cs[k] (jdA aB)));have HP:jfp ((fun c:Cl=>!dP (lb (ak c.2.2))) cs[k]=(fun c:Cl=>!dP (lb (ak c.2.2))) cs[k]):=ae rfl;obtain⟨pv,hpv⟩:∃ pv,pv=(fun c:Cl=>!dP (lb (ak c.2.2))) cs[k]:=⟨_,rfl⟩;have VW:=ae hpv;rw[show (!dP (lb (ak cs[k].2.2)))=pv from hpv.symm]at HC;clear hpv HP;generalize ek:cs[k]=c at *;have nk:=ae ek;clear ek;go_wp2_with fail;refine(HC.o _).mono ?_;rintro e w2 ⟨rfl,aE⟩;have aO:=ae (ai HB.o aE);clear aE;cases pv
   ·go_wp2_with fail
    go_roundw
    case rel=>exact⟨k+1,by omega,by go_num,fun j h hj=>by
     by_cases hjk:j=k
     ·subst hjk
      rw[nk.o];exact VW.o.symm
     ·exact HA.o j h (by omega),aO.o⟩
    case measure=>simp[intOf];omega
   ·go_wp2_with fail
    go_ret
    exact⟨⟨(k:Int),rfl,Or.inr ⟨k,aB,rfl,by rw[nk.o];exact VW.o.symm,HA.o⟩⟩,aO.o⟩
  ·obtain rfl:k=cs.length:=by omega
   have gj:¬ ((cs.length:Nat):Int)<(cs.length:Int):=(by omega);go_wp2_with fail;go_ret
   exact⟨⟨-1,rfl,Or.inl ⟨rfl,fun j h=>HA.o j h h⟩⟩,HB.o⟩
theorem sQ{w:World}{ops:Array Oper}{rest:List Oper}{o:Oper}{a:Act}{Q:Exit->Act->World->Prop}(ex:o.guard=none)(s x:Operand)
  (ho:o.op=.call { callee:=.builtin .append,args:=#[s,x],argTypes:=#[79,79] })
  (base:Nat) (v:Value) (ad:Addr) (cap:Nat) (l0 l:List Cl) (hs:a.eval s=v) (aA:OwnV w base v l0) (hx:a.eval x=.slice (some ad) l.length cap) (fG:Sv w (.slice (some ad) l.length cap) (aI l))
  (hbytes:l0.length+l.length<=100000) (aJ:base<=w.heap.size)
  (h:∀ v' w',OwnV w' base v' (l0++l)->Below base w w'->wpList Tryz.prog ops Q rest (a.put o.dst v') w') :
  wpList Tryz.prog ops Q (o::rest) a w:=by
 obtain⟨i0,hi,ct,hz1',bv⟩:=jdP vE;unfold OwnV at *;obtain⟨ad',cap',Zs,h1,h2,h3,h4⟩:=fG;simp only[Value.slice.injEq]at Zs;obtain⟨rfl,_,rfl⟩:=Zs;rw[aG]at *;refine jeb (w:=w) ex s x 79 ho base 78 i0 .nilIface 1 16 Tryz.underlying79 hi ct hz1' bv rfl (by decide) v l0.length (aI l0) hs aA ad l.length cap (aI l) hx (by rw[aG];omega) ?_ (xW l) (by unfold maxLen;omega) (by omega) aJ ?_
 ·intro j u hu
  have hj:j<l.length:=by
   have:=(List.getElem?_eq_some_iff.1 hu).1;rwa[aG]at this
  obtain⟨b,off,h5,_,h6⟩:=h4 (by omega);cases h5
  rw[nh];exact h6 j u hu
 ·intro v' w' o1 g1 _ _
  refine h v' w' ?_ ((jdv base w).grown g1 aJ (fun k hk=>(aA.lt k hk).1));rw[mw,jdy];exact o1
theorem pY{w:World}{v:Value}{cs:List Cl}(hs:Sv w v (aI cs))(hl:cs.length<=1000):Calls Tryz.prog 57 #[v] w fun e w'=>(∃ v',e=.returned v'/\OwnV w' w.heap.size v' cs)/\Below w.heap.size w w':=by
 have HS:=ae hs;obtain⟨ad,cap,rfl,h1,h2,h3,h4⟩:=hs;rw[aG]at *;cases ad with
 | none =>
  have hc:=h3 rfl;subst hc;have rR:cs=[]:=jdV (by omega);subst rR;have hq:(binOp .eql 79 (.slice none 0 0) (.slice none 0 0)).run Tryz.prog w=.ok (.bool true) w:=jfk w 79 78 none 0 0 0 0 Tryz.underlying79;go_enter Tryz.func57,Tryz.ntmps57
  go_wp2_with fail;go_ret
  exact⟨⟨_,rfl,OwnV.nil _ _⟩,jdv _ _⟩
 | some ad =>
  have HN:jfp (OwnV (w.alloc (.cells #[] 78)) w.heap.size (.slice (some ⟨w.heap.size,0,none⟩) 0 0) []):=ae (jeG (e:=78) (size:=1) w #[] 0 (base:=w.heap.size) (jdw _) (by unfold maxLen;omega) rfl);have gl:=ae (HS.o.kept (am w (.cells #[] 78)));clear h3 h4;have hq:(binOp .eql 79 (.slice (some ad) cs.length cap) (.slice none 0 0)).run Tryz.prog w=.ok (.bool false) w:=jfk w 79 78 (some ad) cs.length cap 0 0 Tryz.underlying79;go_enter Tryz.func57,Tryz.ntmps57
  go_wp2_with (first | (at_builtin;refine sQ rfl _ _ rfl w.heap.size _ ad cap [] cs rfl ?q1 rfl ?q2 ?c1 ?c2 ?_))
  case q1=>exact HN.o
  case q2=>exact gl.o
  case c1=>simp;omega
  case c2=>rw[jdx];omega
  intro v3 w3 o3 aS;have dh:=ae o3;have bP:=ae ((am w (.cells #[] 78)).trans aS);clear o3 aS;go_wp2_with fail;go_ret
  exact⟨⟨_,rfl,dh.o⟩,bP.o⟩
def aZ(cs:List Cl):List Cl:=cs.filter fun c=>!decide (c.1=0)
theorem DQ{cs:List Cl}(h:∀ j (h:j<cs.length),decide (cs[j].1=0)=false):aZ cs=cs:=by
 unfold aZ;rw[List.filter_eq_self];intro c hc;obtain⟨j,hj,rfl⟩:=List.mem_iff_getElem.1 hc;rw[h j hj];rfl
theorem sR{cs:List Cl}{j:Nat}(h:j<cs.length):aZ (cs.take (j+1))=aZ (cs.take j)++(if cs[j].1=0 then [] else [cs[j]]):=by
 unfold aZ;rw[List.take_add_one,List.getElem?_eq_getElem h,je6];congr 1
 by_cases hc:cs[j].1=0
 ·simp[hc]
 ·simp[hc]
def Del(cs:List Cl)(xs:List Value)(i j:Nat):Prop:=xs.length=cs.length/\i<j/\j<=cs.length/\xs.take i=aI (aZ (cs.take j))/\xs.drop j=aI (cs.drop j)
theorem Del.skip{cs:List Cl}{xs:List Value}{i j:Nat}(h:Del cs xs i j)(hj:j<cs.length)(hn:cs[j].1=0):Del cs xs i (j+1):=by
 obtain⟨h1,h2,h3,h4,h5⟩:=h;refine⟨h1,by omega,by omega,?_,?_⟩
 ·rw[sR hj,jdu hn,jdT]
  exact h4
 ·rw[← je1,h5]
  unfold aI;rw[← List.map_drop,je1]
theorem Del.keep{cs:List Cl}{xs:List Value}{i j:Nat}(h:Del cs xs i j)(hj:j<cs.length)(hn:¬ cs[j].1=0):Del cs (xs.set i (cY cs[j])) (i+1) (j+1):=by
 obtain⟨h1,h2,h3,h4,h5⟩:=h;refine⟨by rw[jeS];exact h1,by omega,by omega,?_,?_⟩
 ·rw[sR hj,jdt hn,mw,← h4,List.take_add_one,List.take_set_of_le (by omega),List.getElem?_set_self (by omega)]
  rfl
 ·rw[List.drop_set_of_lt (by omega),← je1,h5]
  unfold aI;rw[← List.map_drop,je1]
theorem Del.get{cs:List Cl}{xs:List Value}{i j:Nat}(h:Del cs xs i j)(hj:j<cs.length):xs[j]?=some (cY cs[j]):=by
 obtain⟨h1,h2,h3,h4,h5⟩:=h;have:=jdB (fun l=>l[0]?) h5;simp only[List.getElem?_drop,jej]at this;rw[this];unfold aI;rw[List.getElem?_map,List.getElem?_drop,jej,List.getElem?_eq_getElem hj];rfl
theorem Del.start{cs:List Cl}{k:Nat}(hk:k<cs.length)(hn:cs[k].1=0)(cX:∀ j (h:j<cs.length),j<k->decide (cs[j].1=0)=false):Del cs (aI cs) k (k+1):=by
 refine⟨aG _,by omega,by omega,?_,?_⟩
 ·rw[sR hk,jdu hn,jdT,DQ (cs:=cs.take k)]
  ·unfold aI
   rw[jeT]
  ·intro j hj
   rw[List.getElem_take];exact cX j (by rw[jdC]at hj;omega) (by rw[jdC]at hj;omega)
 ·unfold aI
  rw[List.map_drop]
theorem Del.len{cs:List Cl}{xs:List Value}{i j:Nat}(h:Del cs xs i j):(aZ (cs.take j)).length=i:=by
 obtain⟨h1,h2,h3,h4,h5⟩:=h;have:=jdB List.length h4;rw[aG,jdC]at this;omega
theorem wT{w:World}{B:Nat}{v:Value}{cs:List Cl}(ho:OwnV w B v cs)(hf:∀ c∈cs,aT c)(hBw:B<=w.heap.size):Calls Tryz.prog 98 #[v,.func (.func 99) #[] #[]] w fun e w'=>(∃ v',e=.returned v'/\Sv w' v' (aI (aZ cs)))/\Below B w w':=by
 have HO:=ae ho;have HF:=ae hf;obtain⟨a,cap,rfl,aW,bw⟩:=aM ho;have hcm':cap<=9223372036854775807:=by unfold maxLen at bw;omega
 have HI:=ae (DP ho.sv hf);have Ky:=ae bw;clear ho hf bw;go_enter Tryz.func98,Tryz.ntmps98
 go_wp2_with fail;refine HI.o.mono ?_;rintro e w1 ⟨⟨z,rfl,hz⟩,aH⟩;have aQ:=ae (aH.mono hBw);have eY:=ae (HO.o.kept aH);clear aH HI HO;rcases hz with ⟨rfl,cX⟩ | ⟨k0,ql,rfl,hp,cX⟩
 ·have HN:=ae (DQ cX)
  clear cX;go_wp2_with fail;go_ret
  refine⟨⟨_,rfl,?_⟩,aQ.o⟩;rw[HN.o];exact eY.o.sv
 ·have HDS:=ae (Del.start ql (by simpa using hp) cX)
  obtain⟨g,cap',gj,eS,ik,_⟩:=(sk eY.o).2 (by omega);simp only[Value.slice.injEq]at gj;obtain⟨rfl,_,rfl⟩:=gj;have qq:((k0:Int)==-1)=false:=jdG.2 (by omega);clear hp cX;go_wp2_with fail;go_loopw [5,6] (fun a b wr=>∃(i j:Nat) (xs:List Value),a=.int .i64 (i:Int)/\b=.int .i64 (j:Int)/\Del cs xs i j/\wr.ownsRow B 78 1 (.slice (some ⟨g,0,none⟩) cs.length cap) cs.length xs/\Below B w wr) (fun _ b _=>cs.length-(intOf b).toNat)
  case atStart=>exact⟨k0,k0+1,_,rfl,by go_num,HDS.o,eY.o,aQ.o⟩
  case round =>
   obtain⟨i,j,xs,rfl,rfl,uJ,how,az⟩:=hrel;have HD:=ae uJ;have HO:=ae how;have HB:=ae az;have PN:=uJ.2.1;have hjn:=uJ.2.2.1;by_cases aB:j<cs.length
   ·have hlt':(j:Int)<(cs.length:Int):=by omega
    have cj:=(how.cellAt j (by omega)).trans (uJ.get aB);have fi:=how.frozenAt i
    obtain⟨ci,hci⟩:∃ u,wr.cell? ⟨g,i,none⟩=some u:=by
     refine⟨xs[i]'(by have:=uJ.1;omega),?_⟩;rw[how.cellAt i (by omega),List.getElem?_eq_getElem]
    have HC:=ae (wQ (HF.o cs[j] (jdA aB)));have HSK:=ae (uJ.skip aB);have HKP:=ae (uJ.keep aB);clear uJ how az;generalize ek:cs[j]=c at *;clear ek;have jj:(i:Int)<(cs.length:Int):=(by omega);go_wp2_with fail;refine(HC.o _).mono ?_;rintro e w3 ⟨rfl,aS⟩;have bP:=ae (HB.o.trans (aS.mono (jdF hBw HB.o.size)));have dh:=ae (bL HO.o aS);have fi3:=dh.o.frozenAt i;have ci3:=(aS.cell (p:=⟨g,i,none⟩) (show g<wr.heap.size by have:=HO.o.lt g rfl;omega)).trans hci;clear aS fi cj hci;by_cases qk:c.1=0
    ·rw[show decide (c.1=0)=true from jdO qk]
     have yG:=ae (HSK.o qk);go_wp2_with fail;go_roundw
     case rel=>exact⟨i,j+1,xs,rfl,by go_num,yG.o,dh.o,bP.o⟩
     case measure=>simp[intOf];omega
    ·rw[show decide (c.1=0)=false from jdK qk]
     have yG:=ae (HKP.o qk);obtain⟨ty,u,hvc⟩:=jY c qk;rw[hvc]at yG ⊢;clear hvc HC HKP HSK;go_wp2_with fail;go_roundw
     case rel=>exact⟨i+1,j+1,_,by go_num,by go_num,yG.o,(dh.o.stored i _).1,bP.o.setCell (p:=⟨g,i,none⟩) ik _⟩
     case measure=>simp[intOf];omega
   ·obtain rfl:j=cs.length:=by omega
    have gj:¬ ((cs.length:Nat):Int)<(cs.length:Int):=(by omega);have LO:jfp ((aZ cs).length=i):=ae (by have:=uJ.len;rwa[jdE]at this);have rP:jfp (xs.take i=aI (aZ cs)):=ae (by have:=uJ.2.2.2.1;rwa[jdE]at this);have jj:(i:Int)<=(cs.length:Int):=(by omega);have hin2:i<=cs.length:=(by omega);have Zl:=uJ.1;have hz61:∀ w,(zeroValue 78).run Tryz.prog w=.ok .nilIface w:=fun w=>by kernel_rfl
    have eQ:∀ ty,(Builtin.clear_ #[79] ty #[.slice (some ⟨g,i,none⟩) (cs.length-i) (cap-i)]).run Tryz.prog wr=.ok (.tuple #[]) (wr.setCells g i (List.replicate (cs.length-i) .nilIface)):=fun ty=>run_clear_slice wr 79 78 ty .nilIface Tryz.underlying79 hz61 rfl rfl g i (cs.length-i) (cap-i) (by omega) (fun t ht=>by
     rw[how.cellAt (i+t) (by omega),List.getElem?_eq_getElem (by omega)];rfl) (fun t ht=>how.frozenAt (i+t))
    clear hz61
    have FY:jfp (Sv (wr.setCells g i (List.replicate (cs.length-i) .nilIface)) (.slice (some ⟨g,0,none⟩) i cap) (aI (aZ cs))):=ae ⟨some ⟨g,0,none⟩,cap,by rw[aG,LO.o],by rw[aG,LO.o];omega,Ky.o,fun h=>by simp at h,fun h0=>⟨g,0,rfl,by
     have:=(below_setCells_w (B:=0) (g:=g) (jeh _) (List.replicate (cs.length-i) .nilIface) i wr).size;have:=how.lt g rfl;omega,fun t x hx=>by
     have ht:t<i:=by
      have:=(List.getElem?_eq_some_iff.1 hx).1;rw[aG,LO.o]at this;exact this
     rw[jdZ,World.cell?_setCells_out g _ i wr ⟨g,t,none⟩ (fun _ _=>Or.inl ht),how.cellAt t (by omega)];rw[← rP.o,List.getElem?_take_of_lt ht]at hx;exact hx⟩⟩
    have uK:=ae (HB.o.trans (below_setCells_w ik (List.replicate (cs.length-i) .nilIface) i wr));clear uJ how az Zl;go_wp2_with fail;go_ret
    exact⟨⟨_,rfl,FY.o⟩,uK.o⟩
theorem Lm.any{P:Cl->Bool}{cs:List Cl}{z:Int}(h:Lm P cs z):decide (z>=0)=cs.any P:=by
 rcases h with ⟨rfl,h⟩ | ⟨k,hk,rfl,h,_⟩
 ·rw[show decide ((-1:Int)>=0)=false from rfl,eq_comm,List.any_eq_false]
  intro c hc;obtain⟨j,hj,rfl⟩:=List.mem_iff_getElem.1 hc;simp[h j hj]
 ·rw[show decide ((k:Int)>=0)=true from jdO (by omega),eq_comm,List.any_eq_true]
  exact⟨cs[k],jdA hk,h⟩
def eM(c:Cl):Bool:=dP (lb (ak c.2.2))
theorem wU{w:World}{v:Value}{cs:List Cl}(hs:Sv w v (aI cs))(hf:∀ c∈cs,aT c):Calls Tryz.prog 101 #[v,.func (.func 102) #[] #[]] w fun e w'=>e=.returned (.bool (!cs.all eM))/\Below w.heap.size w w':=by
 have HC:=ae (wS hs hf);obtain⟨a,cap,rfl,aW,bw⟩:=hs.form1;clear hs hf;go_enter Tryz.func101,Tryz.ntmps101
 go_wp2_with fail;refine HC.o.mono ?_;rintro e w1 ⟨⟨z,rfl,hz⟩,hb⟩
 have HZ:jfp (decide (z>=0)=!cs.all eM):=ae (by
  rw[hz.any,List.not_all_eq_any_not];rfl)
 clear hz;go_wp2_with fail;go_ret
 rw[← HZ.o];exact⟨rfl,hb⟩
def gh(m:Cl):List Cl->Cl
 | []=>m
 | x::r=>gh (if cT x m<0 then x else m) r
def eE(m:Cl):List Cl->Cl
 | []=>m
 | x::r=>eE (if 0<cT x m then x else m) r
theorem Nl{m:Cl}{cs:List Cl}{i:Nat}(h:i<cs.length):gh m (cs.drop i)=gh (if cT cs[i] m<0 then cs[i] else m) (cs.drop (i+1)):=by
 rw[jec h];rfl
theorem Nm{m:Cl}{cs:List Cl}{i:Nat}(h:i<cs.length):eE m (cs.drop i)=eE (if 0<cT cs[i] m then cs[i] else m) (cs.drop (i+1)):=by
 rw[jec h];rfl
theorem SY{m:Cl}{cs:List Cl}:gh m (cs.drop cs.length)=m:=by rw[jer];rfl
theorem SZ{m:Cl}{cs:List Cl}:eE m (cs.drop cs.length)=m:=by rw[jer];rfl
theorem lY{P:Cl->Prop}:∀{cs:List Cl} {m:Cl},P m->(∀ c∈cs,P c)->P (gh m cs)
 | [],m,h,_=>h
 | x::r,m,h,hr=>by
  unfold gh;refine lY ?_ fun c hc=>hr c (by simp[hc])
  split
  ·exact hr x (by simp)
  ·exact h
theorem nO{P:Cl->Prop}:∀{cs:List Cl} {m:Cl},P m->(∀ c∈cs,P c)->P (eE m cs)
 | [],m,h,_=>h
 | x::r,m,h,hr=>by
  unfold eE;refine nO ?_ fun c hc=>hr c (by simp[hc])
  split
  ·exact hr x (by simp)
  ·exact h
theorem Ta{w:World}{v:Value}{cs:List Cl}(hs:Sv w v (aI cs))(hf:∀ c∈cs,aT c)(fF:0<cs.length):Calls Tryz.prog 104 #[v,.func (.func 105) #[] #[]] w fun e w'=>e=.returned (cY (gh cs[0] (cs.drop 1)))/\Below w.heap.size w w':=by
 have HS:=ae hs;have HF:=ae hf;have HR:jfp (∃ R,R=gh cs[0] (cs.drop 1)):=ae ⟨_,rfl⟩;obtain⟨R,hR⟩:=HR.o;have jb:=ae hR;rw[← hR];clear hR HR;obtain⟨a,cap,rfl,aW,bw⟩:=hs.form1;rw[aG]at *;obtain⟨b0,off0,rfl,dO,z0⟩:=hs.at1 (cN fF);have hcm':cap<=9223372036854775807:=by unfold maxLen at bw;omega
 have QC:=ae (hf cs[0] (jdA fF));have hge1:¬ (cs.length:Int)<1:=by omega
 have hlt0:(0:Int)<(cs.length:Int):=by omega
 rw[jej]at z0;clear hs hf bw;generalize qk:cs[0]=c0 at *;clear qk;go_enter Tryz.func104,Tryz.ntmps104
 go_wp2_with fail;clear z0;go_loopw [5,6] (fun s i wr=>∃(k:Nat) (m:Cl),1<=k/\k<=cs.length/\i=.int .i64 (k:Int)/\s=cY m/\aT m/\R=gh m (cs.drop k)/\Below w.heap.size w wr) (fun _ i _=>cs.length-(intOf i).toNat)
 case atStart=>exact⟨1,c0,by omega,by omega,rfl,rfl,QC.o,jb.o,jdv _ _⟩
 case round =>
  obtain⟨k,m,qp,hk,rfl,rfl,VX,kL,az⟩:=hrel;have lI:=ae VX;have HE:=ae kL;have HB:=ae az;clear VX kL az jb;by_cases aB:k<cs.length
  ·obtain⟨b,off,he,hb,z⟩:=(HS.o.kept HB.o).at1 (cN aB)
   simp only[Option.some.injEq,Addr.mk.injEq,and_true]at he;obtain⟨rfl,rfl⟩:=he;have hlt':(k:Int)<(cs.length:Int):=(by omega);have Ca:=ae (HF.o cs[k] (jdA aB));have HT:=ae (HE.o.trans (Nl aB));generalize cs[k]=c at *;have HC:=ae (fun W=>kB Ca.o.val lI.o.val W);rw[show cv (c.1:Int) c.2.1 (ak c.2.2) (m.1:Int) m.2.1 (ak m.2.2)=cT c m from rfl]at HC;generalize cT c m=q at *;clear HE;go_wp2_with fail;refine(HC.o _).mono ?_;rintro e w2 ⟨rfl,aE⟩;have aO:=ae (ai HB.o aE);have z2:=(aE.cell (p:=⟨b0,off0+k,none⟩) hb).trans z;clear aE z;by_cases hq:q<0
   ·rw[jdu hq]at HT
    go_wp2_with fail;go_roundw
    case rel=>exact⟨k+1,c,by omega,by omega,by go_num,rfl,Ca.o,HT.o,aO.o⟩
    case measure=>simp[intOf];omega
   ·rw[jdt hq]at HT
    go_wp2_with fail;go_roundw
    case rel=>exact⟨k+1,m,by omega,by omega,by go_num,rfl,lI.o,HT.o,aO.o⟩
    case measure=>simp[intOf];omega
  ·obtain rfl:k=cs.length:=by omega
   have gj:¬ ((cs.length:Nat):Int)<(cs.length:Int):=(by omega);have HT:=ae (HE.o.trans SY);clear HE;go_wp2_with fail;go_ret
   rw[HT.o];exact⟨rfl,HB.o⟩
theorem Tb{w:World}{v:Value}{cs:List Cl}(hs:Sv w v (aI cs))(hf:∀ c∈cs,aT c)(fF:0<cs.length):Calls Tryz.prog 107 #[v,.func (.func 105) #[] #[]] w fun e w'=>e=.returned (cY (eE cs[0] (cs.drop 1)))/\Below w.heap.size w w':=by
 have HS:=ae hs;have HF:=ae hf;have HR:jfp (∃ R,R=eE cs[0] (cs.drop 1)):=ae ⟨_,rfl⟩;obtain⟨R,hR⟩:=HR.o;have jb:=ae hR;rw[← hR];clear hR HR;obtain⟨a,cap,rfl,aW,bw⟩:=hs.form1;rw[aG]at *;obtain⟨b0,off0,rfl,dO,z0⟩:=hs.at1 (cN fF);have hcm':cap<=9223372036854775807:=by unfold maxLen at bw;omega
 have QC:=ae (hf cs[0] (jdA fF));have hge1:¬ (cs.length:Int)<1:=by omega
 have hlt0:(0:Int)<(cs.length:Int):=by omega
 rw[jej]at z0;clear hs hf bw;generalize qk:cs[0]=c0 at *;clear qk;go_enter Tryz.func107,Tryz.ntmps107
 go_wp2_with fail;clear z0;go_loopw [5,6] (fun s i wr=>∃(k:Nat) (m:Cl),1<=k/\k<=cs.length/\i=.int .i64 (k:Int)/\s=cY m/\aT m/\R=eE m (cs.drop k)/\Below w.heap.size w wr) (fun _ i _=>cs.length-(intOf i).toNat)
 case atStart=>exact⟨1,c0,by omega,by omega,rfl,rfl,QC.o,jb.o,jdv _ _⟩
 case round =>
  obtain⟨k,m,qp,hk,rfl,rfl,VX,kL,az⟩:=hrel;have lI:=ae VX;have HE:=ae kL;have HB:=ae az;clear VX kL az jb;by_cases aB:k<cs.length
  ·obtain⟨b,off,he,hb,z⟩:=(HS.o.kept HB.o).at1 (cN aB)
   simp only[Option.some.injEq,Addr.mk.injEq,and_true]at he;obtain⟨rfl,rfl⟩:=he;have hlt':(k:Int)<(cs.length:Int):=(by omega);have Ca:=ae (HF.o cs[k] (jdA aB));have HT:=ae (HE.o.trans (Nm aB));generalize cs[k]=c at *;have HC:=ae (fun W=>kB Ca.o.val lI.o.val W);rw[show cv (c.1:Int) c.2.1 (ak c.2.2) (m.1:Int) m.2.1 (ak m.2.2)=cT c m from rfl]at HC;generalize cT c m=q at *;clear HE;go_wp2_with fail;refine(HC.o _).mono ?_;rintro e w2 ⟨rfl,aE⟩;have aO:=ae (ai HB.o aE);have z2:=(aE.cell (p:=⟨b0,off0+k,none⟩) hb).trans z;clear aE z;by_cases hq:0<q
   ·rw[jdu hq]at HT
    go_wp2_with fail;go_roundw
    case rel=>exact⟨k+1,c,by omega,by omega,by go_num,rfl,Ca.o,HT.o,aO.o⟩
    case measure=>simp[intOf];omega
   ·rw[jdt hq]at HT
    go_wp2_with fail;go_roundw
    case rel=>exact⟨k+1,m,by omega,by omega,by go_num,rfl,lI.o,HT.o,aO.o⟩
    case measure=>simp[intOf];omega
  ·obtain rfl:k=cs.length:=by omega
   have gj:¬ ((cs.length:Nat):Int)<(cs.length:Int):=(by omega);have HT:=ae (HE.o.trans SZ);clear HE;go_wp2_with fail;go_ret
   rw[HT.o];exact⟨rfl,HB.o⟩
end Go.Proofs.YtpljdjmpamjkhaaGreatDoor
