import Derived.Test.YtpljdjmpamjkhaaGreatDoorQaj
import Derived.Lib.EndianMore
set_option linter.unusedVariables false
set_option linter.unusedSimpArgs false
set_option maxRecDepth 100000
set_option maxHeartbeats 8000000
namespace Go.Proofs.YtpljdjmpamjkhaaGreatDoor
open Go.RowKit Go.Lib
def gU(W:World)(b off op f:Nat)(c:Cl)(kv:Value):Prop :=
 b<W.heap.size/\W.cell? ⟨b,off,none⟩=some (.int .u8 (op:Int))/\W.cell? ⟨b,off+1,none⟩=some (.int .u32 (f:Int))/\W.cell? ⟨b,off+2,none⟩=some (.int .u8 (c.1:Int))/\W.cell? ⟨b,off+3,none⟩=some (.int .i64 c.2.1)/\W.cell? ⟨b,off+4,none⟩=some (.string (am c.2.2))/\W.cell? ⟨b,off+5,none⟩=some kv
theorem gU.kept{W W':World}{b off op f:Nat}{c:Cl}{kv:Value}(h:gU W b off op f c kv)(hb:Below W.heap.size W W'):gU W' b off op f c kv:=by
 obtain⟨h0,h1,h2,h3,h4,h5,h6⟩:=h;have e:∀ o,W'.cell? ⟨b,o,none⟩=W.cell? ⟨b,o,none⟩:=fun o=>(gz hb).1 b o h0
 exact⟨jeH h0 hb.size,by rw[e];exact h1,by rw[e];exact h2,by rw[e];exact h3,by rw[e];exact h4,by rw[e];exact h5,by rw[e];exact h6⟩
 mutual
def jP(W:World):Nat->Nat->PT->Prop
 | b,off,.node op f c ks=>∃ a cap,gU W b off op f c (.slice a ks.length cap)/\ks.length<=cap/\cap<=maxLen/\(0<ks.length->∃ g o,a=some ⟨g,o,none⟩/\KidsAt W g o ks)
def KidsAt(W:World):Nat->Nat->List PT->Prop
 | _,_,[]=>True
 | g,o,k::ks=>jP W g o k/\KidsAt W g (o+6) ks
 end
theorem KidsAt.mono{W W':World}:∀{ks:List PT} {g o:Nat},(∀ k∈ks,∀ b off,jP W b off k->jP W' b off k)->KidsAt W g o ks->KidsAt W' g o ks
 | [],g,o,_,_=>by simp[KidsAt]
 | k::ks,g,o,hm,h=>by
  simp only[KidsAt]at h ⊢;exact⟨hm k (by simp) _ _ h.1,KidsAt.mono (fun x hx=>hm x (by simp[hx])) h.2⟩
theorem jP.kept{W W':World}(hb:Below W.heap.size W W'):∀(t:PT) (b off:Nat),jP W b off t->jP W' b off t:=by
 refine PT.ind fun op f c ks ih b off h=>?_
 simp only[jP]at h ⊢;obtain⟨a,cap,h1,h2,h3,h4⟩:=h;refine⟨a,cap,h1.kept hb,h2,h3,fun h0=>?_⟩;obtain⟨g,o,h5,h6⟩:=h4 h0;exact⟨g,o,h5,KidsAt.mono ih h6⟩
theorem KidsAt.kept{W W':World}(hb:Below W.heap.size W W'){ks:List PT}{g o:Nat}(h:KidsAt W g o ks):KidsAt W' g o ks:=KidsAt.mono (fun k _=>jP.kept hb k) h
def tp(W:World)(v:Value)(ks:List PT):Prop:=∃ a cap,v=.slice a ks.length cap/\ks.length<=cap/\cap<=maxLen/\(0<ks.length->∃ g o,a=some ⟨g,o,none⟩/\KidsAt W g o ks)
theorem tp.kept{W W':World}{v:Value}{ks:List PT}(h:tp W v ks)(hb:Below W.heap.size W W'):tp W' v ks:=by
 obtain⟨a,cap,h1,h2,h3,h4⟩:=h;refine⟨a,cap,h1,h2,h3,fun h0=>?_⟩;obtain⟨g,o,h5,h6⟩:=h4 h0;exact⟨g,o,h5,h6.kept hb⟩
theorem tp.form{W:World}{v:Value}{ks:List PT}(h:tp W v ks):∃ a cap,v=.slice a ks.length cap/\ks.length<=cap/\cap<=maxLen:=by
 obtain⟨a,cap,h1,h2,h3,_⟩:=h;exact⟨a,cap,h1,h2,h3⟩
theorem jP.open{W:World}{b off op f:Nat}{c:Cl}{ks:List PT}(h:jP W b off (.node op f c ks)):∃ a cap,gU W b off op f c (.slice a ks.length cap)/\tp W (.slice a ks.length cap) ks:=by
 simp only[jP]at h;obtain⟨a,cap,h1,h2,h3,h4⟩:=h;exact⟨a,cap,h1,a,cap,rfl,h2,h3,h4⟩
theorem jP.shut{W:World}{b off op f:Nat}{c:Cl}{ks:List PT}{v:Value}(h:gU W b off op f c v)(hk:tp W v ks):jP W b off (.node op f c ks):=by
 obtain⟨a,cap,rfl,h2,h3,h4⟩:=hk;simp only[jP];exact⟨a,cap,h,h2,h3,h4⟩
theorem LZ{c:Cl}(hf:aT c)(w:World):Calls Tryz.prog 100 #[da c] w fun e w'=>e=.returned (.int .u8 (c.1:Int))/\w'=w:=Jp hf.val w
theorem TF{c:Cl}(iY:Okc c)(w:World):Calls Tryz.prog 217 #[.agg #[.int .u8 (c.1:Int),.int .i64 c.2.1,.string (am c.2.2)]] w fun e w'=>e=.returned (.tuple #[da (bq c),.int .i64 (flt (c.1:Int) c.2.1 (am c.2.2))])/\Below w.heap.size w w':=by
 by_cases h:flt (c.1:Int) c.2.1 (am c.2.2)=0
 ·refine(XQ _ _ _ (by omega) h w).mono ?_
  rintro e w1 ⟨⟨v,rfl,hv⟩,hb⟩;have WN:bq c=c:=jei h;have hf:aT c:=by have:=fZ iY;rwa[WN]at this
  rw[WN,h,DA hf hv];exact⟨rfl,hb⟩
 ·refine(jbo _ _ _ (by simpa using h) w).mono ?_
  rintro e w1 ⟨rfl,hb⟩;have WN:bq c=nul:=jeh h;rw[WN];exact⟨rfl,hb⟩
theorem pd{c:Cl}(iY:Okc c)(w:World):Calls Tryz.prog 219 #[.agg #[.int .u8 (c.1:Int),.int .i64 c.2.1,.string (am c.2.2)]] w fun e w'=>e=.returned (da (bq c))/\Below w.heap.size w w':=by
 have HO:=ae iY;have ce:=ae (ak w (.cells #[.int .u8 (c.1:Int),.int .i64 c.2.1,.string (am c.2.2)] 52));obtain⟨c0,c1,c2⟩:=dB w (.int .u8 (c.1:Int)) (.int .i64 c.2.1) (.string (am c.2.2)) 52;clear iY;go_enter Tryz.func219,Tryz.ntmps219
 go_wp2_with fail;refine(TF HO.o _).mono ?_;rintro e w1 ⟨rfl,hb⟩;go_wp2_with fail;go_ret
 exact⟨rfl,ai ce.o hb⟩
theorem aT.short{c:Cl}(h:aT c):(am c.2.2).size<=64:=by
 rw[bi];rcases h with rfl | ⟨n,rfl,_⟩ | ⟨b,rfl,_⟩ | ⟨s,rfl,hs,_⟩
 ·simp[nul]
 ·simp
 ·simp
 ·exact hs
theorem NV{c:Cl}(hf:aT c)(w:World):Calls Tryz.prog 220 #[da c] w fun e w'=>e=.returned (.bool (tn c))/\Below w.heap.size w w':=by
 have HF:=ae hf;clear hf;go_enter Tryz.func220,Tryz.ntmps220
 go_wp2_with fail;refine(lS HF.o.val _).mono ?_;rintro e w1 ⟨rfl,hb⟩;have HB:=ae hb;clear hb;obtain⟨c0,c1,c2⟩:=dB w1 (.int .u8 (c.1:Int)) (.int .i64 c.2.1) (.string (am c.2.2)) 52;have aP:=ae (ak w1 (.cells #[.int .u8 (c.1:Int),.int .i64 c.2.1,.string (am c.2.2)] 52));go_wp2_with fail;refine(zO _ (by have:=HF.o.short;omega) _).mono ?_;rintro e w2 ⟨rfl,hb⟩;have HN:jgf (tn c=decide ((((V (lb (am c.2.2))).length:Nat):Int)<4)):=ae (by unfold tn;exact decide_eq_decide.2 (by omega));generalize (V (lb (am c.2.2))).length=n at *;go_wp2_with fail;go_ret
 exact⟨kz HN.o.symm,ai (ai HB.o aP.o) hb⟩
theorem EG{c:Cl}(hf:aT c)(w:World):Calls Tryz.prog 102 #[da c] w fun e w'=>e=.returned (.bool (!dS (lb (am c.2.2))))/\Below w.heap.size w w':=by
 have HF:=ae hf;clear hf;go_enter Tryz.func102,Tryz.ntmps102
 go_wp2_with fail;refine(lS HF.o.val _).mono ?_;rintro e w1 ⟨rfl,hb⟩;have HB:=ae hb;clear hb;obtain⟨c0,c1,c2⟩:=dB w1 (.int .u8 (c.1:Int)) (.int .i64 c.2.1) (.string (am c.2.2)) 52;have aP:=ae (ak w1 (.cells #[.int .u8 (c.1:Int),.int .i64 c.2.1,.string (am c.2.2)] 52));go_wp2_with fail;refine(tc _ (by have:=HF.o.short;omega) _).mono ?_;rintro e w2 ⟨rfl,hb⟩;obtain⟨n,hn⟩:∃ n,n=dS (lb (am c.2.2)):=⟨_,rfl⟩;rw[← hn];have HN:=ae hn;clear hn;go_wp2_with fail;go_ret
 exact⟨kz (by rw[HN.o]),ai (ai HB.o aP.o) hb⟩
theorem xA{c:Cl}(hf:aT c)(w:World):Calls Tryz.prog 99 #[da c] w fun e w'=>e=.returned (.bool (decide (c.1=0)))/\Below w.heap.size w w':=by
 have HF:=ae hf;clear hf;go_enter Tryz.func99,Tryz.ntmps99
 go_wp2_with fail;refine(LZ HF.o _).mono ?_;rintro e w1 ⟨rfl,rfl⟩;go_wp2_with fail;go_ret
 refine⟨kz ?_,jej _ _⟩;rw[jfN];simp
theorem Ma(b:Bool)(w:World):Calls Tryz.prog 221 #[.bool b] w fun e w'=>e=.returned (.int .u8 (isM b:Int))/\w'=w:=by
 refine(jbp b w).mono ?_;rintro e w1 ⟨rfl,rfl⟩;refine⟨?_,rfl⟩;cases b<;>rfl
def Ao(W:World)(q si:Nat)(fv rv:Value)(l:List Fd)(r:List Cl):Prop :=
 q<W.heap.size/\W.cell? ⟨q,0,none⟩=some (.int .u32 (si:Int))/\W.cell? ⟨q,1,none⟩=some fv/\W.cell? ⟨q,2,none⟩=some rv/\Sf W fv l/\Sv W rv (aJ r)
theorem Ao.kept{W W':World}{q si:Nat}{fv rv:Value}{l:List Fd}{r:List Cl}(h:Ao W q si fv rv l r)(hb:Below W.heap.size W W'):Ao W' q si fv rv l r:=by
 obtain⟨h0,h1,h2,h3,h4,h5⟩:=h;have e:∀ o,W'.cell? ⟨q,o,none⟩=W.cell? ⟨q,o,none⟩:=fun o=>(gz hb).1 q o h0
 exact⟨jeH h0 hb.size,by rw[e];exact h1,by rw[e];exact h2,by rw[e];exact h3,h4.kept hb,h5.kept hb⟩
theorem Jw{l:List Fd}{r:List Cl}{op f:Nat}{c:Cl}(h:iV l f=none):pM l r op f c=1:=by unfold pM;rw[h]
theorem Jy{l:List Fd}{r:List Cl}{op f j:Nat}{c:Cl}(h:iV l f=some j)(hj:¬ j<r.length):pM l r op f c=1:=by
 unfold pM;rw[h];simp only;rw[List.getElem?_eq_none (by omega)]
theorem TG{l:List Fd}{r:List Cl}{op f j:Nat}{c:Cl}(h:iV l f=some j)(hj:j<r.length):pM l r op f c=EF op c r[j]:=by
 unfold pM;rw[h];simp only;rw[List.getElem?_eq_getElem hj]
theorem tq(w:World)(x0 x1 x2 x3 x4 x5:Value)(t:Nat):(w.alloc (.cells #[x0,x1,x2,x3,x4,x5] t)).cell? ⟨w.heap.size,0,none⟩=some x0/\(w.alloc (.cells #[x0,x1,x2,x3,x4,x5] t)).cell? ⟨w.heap.size,1,none⟩=some x1/\(w.alloc (.cells #[x0,x1,x2,x3,x4,x5] t)).cell? ⟨w.heap.size,2,none⟩=some x2/\(w.alloc (.cells #[x0,x1,x2,x3,x4,x5] t)).cell? ⟨w.heap.size,3,none⟩=some x3/\(w.alloc (.cells #[x0,x1,x2,x3,x4,x5] t)).cell? ⟨w.heap.size,4,none⟩=some x4/\(w.alloc (.cells #[x0,x1,x2,x3,x4,x5] t)).cell? ⟨w.heap.size,5,none⟩=some x5:=by
 refine⟨?_,?_,?_,?_,?_,?_⟩<;>simp[go_sem]
theorem xB(w:World)(op f:Nat)(c:Cl)(kv:Value):gU (w.alloc (.cells #[.int .u8 (op:Int),.int .u32 (f:Int),.int .u8 (c.1:Int),.int .i64 c.2.1,.string (am c.2.2),kv] 63)) w.heap.size 0 op f c kv:=by
 obtain⟨h0,h1,h2,h3,h4,h5⟩:=tq w (.int .u8 (op:Int)) (.int .u32 (f:Int)) (.int .u8 (c.1:Int)) (.int .i64 c.2.1) (.string (am c.2.2)) kv 63;exact⟨by rw[jel];omega,h0,h1,h2,h3,h4,h5⟩
def b3V(b:B3):Value:=.agg #[.bool b.1,.bool b.2.1,.bool b.2.2]
def jbq(a:B3)(x:Nat):Bool:=if x=0 then a.1 else if x=1 then a.2.1 else a.2.2
def setB(x:Nat)(a:B3):B3:=if x=0 then (true,a.2.1,a.2.2) else if x=1 then (a.1,true,a.2.2) else (a.1,a.2.1,true)
def Flg(W:World)(p:Nat)(o:B3):Prop:=W.heap[p]?=some (.cells #[.bool o.1,.bool o.2.1,.bool o.2.2] 123 (0,0))
theorem Flg.facts{W:World}{p:Nat}{o:B3}(h:Flg W p o):(W.cell? ⟨p,0,none⟩=some (.bool o.1)/\W.cell? ⟨p,1,none⟩=some (.bool o.2.1)/\W.cell? ⟨p,2,none⟩=some (.bool o.2.2))/\(W.frozen? ⟨p,0,none⟩=false/\W.frozen? ⟨p,1,none⟩=false/\W.frozen? ⟨p,2,none⟩=false)/\p<W.heap.size:=by
 unfold Flg at h;refine⟨⟨by rw[ay h];rfl,by rw[ay h];rfl,by rw[ay h];rfl⟩,⟨by simp[World.frozen?,h],by simp[World.frozen?,h],by simp[World.frozen?,h]⟩,(Array.getElem?_eq_some_iff.1 h).1⟩
theorem Flg.set{W:World}{p:Nat}{o:B3}(h:Flg W p o)(x:Nat)(hx:x<=2):Flg (W.setCell ⟨p,x,none⟩ (.bool true)) p (setB x o):=by
 unfold Flg at *;rw[cM h];obtain rfl | rfl | rfl:x=0∨x=1∨x=2:=by omega
 all_goals rfl
theorem Flg.new(w:World)(o:B3):Flg (w.alloc (.cells #[.bool o.1,.bool o.2.1,.bool o.2.2] 123)) w.heap.size o:=by
 exact jeK w _
theorem Flg.kept{W W':World}{p:Nat}{o:B3}(h:Flg W p o)(hb:Below W.heap.size W W'):Flg W' p o:=by
 have hp:=h.facts.2.2;unfold Flg at *;rw[hb.block p hp];exact h
def celS(st:Stt):List Value:=[.int .i64 st.rows,.int .i64 st.nulls,.bool st.some,.bool st.high,.int .u8 (st.lo.1:Int),.int .i64 st.lo.2.1,.string (am st.lo.2.2),.int .u8 (st.hi.1:Int),.int .i64 st.hi.2.1,.string (am st.hi.2.2)]
def vC(st:Stt):Value:=.agg #[.int .i64 st.rows,.int .i64 st.nulls,.bool st.some,.bool st.high,.int .u8 (st.lo.1:Int),.int .i64 st.lo.2.1,.string (am st.lo.2.2),.int .u8 (st.hi.1:Int),.int .i64 st.hi.2.1,.string (am st.hi.2.2)]
def Stb(W:World)(q:Nat)(st:Stt):Prop:=W.heap[q]?=some (.cells #[.int .i64 st.rows,.int .i64 st.nulls,.bool st.some,.bool st.high,.int .u8 (st.lo.1:Int),.int .i64 st.lo.2.1,.string (am st.lo.2.2),.int .u8 (st.hi.1:Int),.int .i64 st.hi.2.1,.string (am st.hi.2.2)] 54 (0,0))
def Jz(W:World)(b off:Nat)(st:Stt):Prop:=b<W.heap.size/\(W.cell? ⟨b,off,none⟩=some (.int .i64 st.rows)/\W.cell? ⟨b,off+1,none⟩=some (.int .i64 st.nulls)/\W.cell? ⟨b,off+2,none⟩=some (.bool st.some)/\W.cell? ⟨b,off+3,none⟩=some (.bool st.high))/\(W.cell? ⟨b,off+4,none⟩=some (.int .u8 (st.lo.1:Int))/\W.cell? ⟨b,off+5,none⟩=some (.int .i64 st.lo.2.1)/\W.cell? ⟨b,off+6,none⟩=some (.string (am st.lo.2.2)))/\(W.cell? ⟨b,off+7,none⟩=some (.int .u8 (st.hi.1:Int))/\W.cell? ⟨b,off+8,none⟩=some (.int .i64 st.hi.2.1)/\W.cell? ⟨b,off+9,none⟩=some (.string (am st.hi.2.2)))
theorem Jz.kept{W W':World}{b off:Nat}{st:Stt}(h:Jz W b off st)(hb:Below W.heap.size W W'):Jz W' b off st:=by
 obtain⟨h0,⟨a1,a2,a3,a4⟩,⟨a5,a6,a7⟩,a8,a9,a10⟩:=h;have e:∀ o,W'.cell? ⟨b,o,none⟩=W.cell? ⟨b,o,none⟩:=fun o=>(gz hb).1 b o h0
 exact⟨jeH h0 hb.size,⟨by rw[e];exact a1,by rw[e];exact a2,by rw[e];exact a3,by rw[e];exact a4⟩,⟨by rw[e];exact a5,by rw[e];exact a6,by rw[e];exact a7⟩,by rw[e];exact a8,by rw[e];exact a9,by rw[e];exact a10⟩
theorem Stb.at{W:World}{q:Nat}{st:Stt}(h:Stb W q st):Jz W q 0 st:=by
 unfold Stb at h;exact⟨(Array.getElem?_eq_some_iff.1 h).1,⟨by rw[ay h];rfl,by rw[ay h];rfl,by rw[ay h];rfl,by rw[ay h];rfl⟩,⟨by rw[ay h];rfl,by rw[ay h];rfl,by rw[ay h];rfl⟩,by rw[ay h];rfl,by rw[ay h];rfl,by rw[ay h];rfl⟩
theorem Stb.new(w:World)(st:Stt):Stb (w.alloc (.cells #[.int .i64 st.rows,.int .i64 st.nulls,.bool st.some,.bool st.high,.int .u8 (st.lo.1:Int),.int .i64 st.lo.2.1,.string (am st.lo.2.2),.int .u8 (st.hi.1:Int),.int .i64 st.hi.2.1,.string (am st.hi.2.2)] 54)) w.heap.size st:=jeK w _
def Oks(st:Stt):Prop:=Okc st.lo/\Okc st.hi
theorem set3{B:Nat}{w W:World}(h:Below B w W){p:Nat}(hp:B<=p)(x y z:Value):Below B w (((W.setCell ⟨p,0,none⟩ x).setCell ⟨p,1,none⟩ y).setCell ⟨p,2,none⟩ z) :=
 ((h.setCell (p:=⟨p,0,none⟩) hp _).setCell (p:=⟨p,1,none⟩) hp _).setCell (p:=⟨p,2,none⟩) hp _
theorem jbr(u:Bool)(c:Cl)(st:Stt):nk u 1 c st=(!(st.high && decide (cW (bq c) (bq st.lo)=0) && decide (cW (bq c) (bq st.hi)=0) && tn (bq c)),u,decide (0<=cW (bq c) (bq st.lo)) && !(st.high && decide (0<cW (bq c) (bq st.hi)))):=rfl
theorem jbs(u:Bool)(c:Cl)(st:Stt):nk u 2 c st=(!(st.high && decide (0<cW (bq c) (bq st.hi))),u,decide (0<cW (bq c) (bq st.lo))):=rfl
theorem jbt(u:Bool)(c:Cl)(st:Stt):nk u 3 c st=(!(st.high && decide (0<=cW (bq c) (bq st.hi))),u,decide (0<=cW (bq c) (bq st.lo))):=rfl
theorem jbu(u:Bool)(c:Cl)(st:Stt):nk u 4 c st=(true,u,true):=rfl
theorem jbv(u:Bool)(op:Nat)(c:Cl)(st:Stt)(h:¬ (1<=op/\op<=4)):nk u op c st=(true,true,true):=by
 unfold nk;rw[jeh (by omega),jeh (by omega),jeh (by omega),jeh (by omega)]
def TH(w X:World)(b off op f:Nat)(c:Cl)(kv:Value)(u:Bool)(st:Stt):Prop:=Below w.heap.size w X/\Flg X w.heap.size (false,u,false)/\Stb X (w.heap.size+1) st/\Flg X (w.heap.size+1+1) (false,false,false)/\gU X b off op f c kv
theorem TH.kept{w X Y:World}{b off op f:Nat}{c:Cl}{kv:Value}{u:Bool}{st:Stt}(h:TH w X b off op f c kv u st)(hb:Below X.heap.size X Y):TH w Y b off op f c kv u st:=by
 obtain⟨h1,h2,h3,h4,h5⟩:=h;refine⟨ai h1 hb,h2.kept hb,?_,h4.kept hb,h5.kept hb⟩;unfold Stb at *;rw[hb.block _ ((Array.getElem?_eq_some_iff.1 h3).1)];exact h3
theorem NW(a b:Cl):cW b a=- cW a b:=XS _ _ _ _ _ _
theorem JA(a b:Cl):cW a b=-1∨cW a b=0∨cW a b=1:=TA _ _ _ _ _ _
def Mb(P:Cl->Bool)(cs:List Cl)(z:Int):Prop:=(z=-1/\∀ j (h:j<cs.length),P cs[j]=false)∨(∃ k,∃(h:k<cs.length),z=(k:Int)/\P cs[k]=true/\∀ j (h:j<cs.length),j<k->P cs[j]=false)
theorem EH{w:World}{v:Value}{cs:List Cl}(hs:Sv w v (aJ cs))(hf:∀ c∈cs,aT c):Calls Tryz.prog 143 #[v,.func (.func 99) #[] #[]] w fun e w'=>(∃ z:Int,e=.returned (.int .i64 z)/\Mb (fun c=>decide (c.1=0)) cs z)/\Below w.heap.size w w':=by
 have HS:=ae hs;have HF:=ae hf;obtain⟨a,cap,rfl,aW,bC⟩:=hs.form1;rw[aG]at *;have hcm':cap<=9223372036854775807:=by unfold maxLen at bC;omega
 clear hs hf bC;go_enter Tryz.func143,Tryz.ntmps143
 go_wp2_with fail;go_loopw [8] (fun i wr=>∃ k:Nat,k<=cs.length/\i=.int .i64 (k:Int)/\(∀ j (h:j<cs.length),j<k->(fun c:Cl=>decide (c.1=0)) cs[j]=false)/\Below w.heap.size w wr) (fun i _=>cs.length-(intOf i).toNat)
 case atStart=>exact⟨0,by omega,rfl,fun j h hj=>by omega,jej _ _⟩
 case round =>
  obtain⟨k,hk,rfl,cZ,az⟩:=hrel;have HA:=ae cZ;have HB:=ae az;clear cZ az;by_cases aB:k<cs.length
  ·obtain⟨b,off,rfl,hb,z⟩:=(HS.o.kept HB.o).at1 (cQ aB)
   have hlt':(k:Int)<(cs.length:Int):=(by omega);have HC:=ae (xA (HF.o cs[k] (jeo aB)));have HP:jgf ((fun c:Cl=>decide (c.1=0)) cs[k]=(fun c:Cl=>decide (c.1=0)) cs[k]):=ae rfl;obtain⟨pv,hpv⟩:∃ pv,pv=(fun c:Cl=>decide (c.1=0)) cs[k]:=⟨_,rfl⟩;have WO:=ae hpv;rw[show (decide (cs[k].1=0))=pv from hpv.symm]at HC;clear hpv HP;generalize dN:cs[k]=c at *;have lA:=ae dN;clear dN;go_wp2_with fail;refine(HC.o _).mono ?_;rintro e w2 ⟨rfl,aE⟩;have aN:=ae (ai HB.o aE);clear aE;cases pv
   ·go_wp2_with fail
    go_roundw
    case rel=>exact⟨k+1,by omega,by go_num,fun j h hj=>by
     by_cases hjk:j=k
     ·subst hjk
      rw[lA.o];exact WO.o.symm
     ·exact HA.o j h (by omega),aN.o⟩
    case measure=>simp[intOf];omega
   ·go_wp2_with fail
    go_ret
    exact⟨⟨(k:Int),rfl,Or.inr ⟨k,aB,rfl,by rw[lA.o];exact WO.o.symm,HA.o⟩⟩,aN.o⟩
  ·obtain rfl:k=cs.length:=by omega
   have gi:¬ ((cs.length:Nat):Int)<(cs.length:Int):=(by omega);go_wp2_with fail;go_ret
   exact⟨⟨-1,rfl,Or.inl ⟨rfl,fun j h=>HA.o j h h⟩⟩,HB.o⟩
theorem xC{w:World}{v:Value}{cs:List Cl}(hs:Sv w v (aJ cs))(hf:∀ c∈cs,aT c):Calls Tryz.prog 143 #[v,.func (.func 102) #[] #[]] w fun e w'=>(∃ z:Int,e=.returned (.int .i64 z)/\Mb (fun c=>!dS (lb (am c.2.2))) cs z)/\Below w.heap.size w w':=by
 have HS:=ae hs;have HF:=ae hf;obtain⟨a,cap,rfl,aW,bC⟩:=hs.form1;rw[aG]at *;have hcm':cap<=9223372036854775807:=by unfold maxLen at bC;omega
 clear hs hf bC;go_enter Tryz.func143,Tryz.ntmps143
 go_wp2_with fail;go_loopw [8] (fun i wr=>∃ k:Nat,k<=cs.length/\i=.int .i64 (k:Int)/\(∀ j (h:j<cs.length),j<k->(fun c:Cl=>!dS (lb (am c.2.2))) cs[j]=false)/\Below w.heap.size w wr) (fun i _=>cs.length-(intOf i).toNat)
 case atStart=>exact⟨0,by omega,rfl,fun j h hj=>by omega,jej _ _⟩
 case round =>
  obtain⟨k,hk,rfl,cZ,az⟩:=hrel;have HA:=ae cZ;have HB:=ae az;clear cZ az;by_cases aB:k<cs.length
  ·obtain⟨b,off,rfl,hb,z⟩:=(HS.o.kept HB.o).at1 (cQ aB)
   have hlt':(k:Int)<(cs.length:Int):=(by omega);have HC:=ae (EG (HF.o cs[k] (jeo aB)));have HP:jgf ((fun c:Cl=>!dS (lb (am c.2.2))) cs[k]=(fun c:Cl=>!dS (lb (am c.2.2))) cs[k]):=ae rfl;obtain⟨pv,hpv⟩:∃ pv,pv=(fun c:Cl=>!dS (lb (am c.2.2))) cs[k]:=⟨_,rfl⟩;have WO:=ae hpv;rw[show (!dS (lb (am cs[k].2.2)))=pv from hpv.symm]at HC;clear hpv HP;generalize dN:cs[k]=c at *;have lA:=ae dN;clear dN;go_wp2_with fail;refine(HC.o _).mono ?_;rintro e w2 ⟨rfl,aE⟩;have aN:=ae (ai HB.o aE);clear aE;cases pv
   ·go_wp2_with fail
    go_roundw
    case rel=>exact⟨k+1,by omega,by go_num,fun j h hj=>by
     by_cases hjk:j=k
     ·subst hjk
      rw[lA.o];exact WO.o.symm
     ·exact HA.o j h (by omega),aN.o⟩
    case measure=>simp[intOf];omega
   ·go_wp2_with fail
    go_ret
    exact⟨⟨(k:Int),rfl,Or.inr ⟨k,aB,rfl,by rw[lA.o];exact WO.o.symm,HA.o⟩⟩,aN.o⟩
  ·obtain rfl:k=cs.length:=by omega
   have gi:¬ ((cs.length:Nat):Int)<(cs.length:Int):=(by omega);go_wp2_with fail;go_ret
   exact⟨⟨-1,rfl,Or.inl ⟨rfl,fun j h=>HA.o j h h⟩⟩,HB.o⟩
theorem ts{w:World}{ops:Array Oper}{rest:List Oper}{o:Oper}{a:Act}{Q:Exit->Act->World->Prop}(dY:o.guard=none)(s x:Operand)
  (ho:o.op=.call { callee:=.builtin .append,args:=#[s,x],argTypes:=#[79,79] })
  (base:Nat) (v:Value) (ad:Addr) (cap:Nat) (l0 l:List Cl) (hs:a.eval s=v) (aA:OwnV w base v l0) (hx:a.eval x=.slice (some ad) l.length cap) (eN:Sv w (.slice (some ad) l.length cap) (aJ l))
  (hbytes:l0.length+l.length<=100000) (aI:base<=w.heap.size)
  (h:∀ v' w',OwnV w' base v' (l0++l)->Below base w w'->wpList Tryz.prog ops Q rest (a.put o.dst v') w') :
  wpList Tryz.prog ops Q (o::rest) a w:=by
 obtain⟨i0,hi,ch,hz1',bv⟩:=jeD wG;unfold OwnV at *;obtain⟨ad',cap',hse,h1,h2,h3,h4⟩:=eN;simp only[Value.slice.injEq]at hse;obtain⟨rfl,_,rfl⟩:=hse;rw[aG]at *;refine jeY (w:=w) dY s x 79 ho base 78 i0 .nilIface 1 16 Tryz.underlying79 hi ch hz1' bv rfl (by decide) v l0.length (aJ l0) hs aA ad l.length cap (aJ l) hx (by rw[aG];omega) ?_ (yH l) (by unfold maxLen;omega) (by omega) aI ?_
 ·intro j u hu
  have hj:j<l.length:=by
   have:=(List.getElem?_eq_some_iff.1 hu).1;rwa[aG]at this
  obtain⟨b,off,h5,_,h6⟩:=h4 (by omega);cases h5
  rw[lR];exact h6 j u hu
 ·intro v' w' o1 g1 _ _
  refine h v' w' ?_ ((jej base w).grown g1 aI (fun k hk=>(aA.lt k hk).1));rw[mD,jem];exact o1
theorem qm{w:World}{v:Value}{cs:List Cl}(hs:Sv w v (aJ cs))(hl:cs.length<=1000):Calls Tryz.prog 57 #[v] w fun e w'=>(∃ v',e=.returned v'/\OwnV w' w.heap.size v' cs)/\Below w.heap.size w w':=by
 have HS:=ae hs;obtain⟨ad,cap,rfl,h1,h2,h3,h4⟩:=hs;rw[aG]at *;cases ad with
 | none =>
  have hc:=h3 rfl;subst hc;have qC:cs=[]:=jeI (by omega);subst qC;have hq:(binOp .eql 79 (.slice none 0 0) (.slice none 0 0)).run Tryz.prog w=.ok (.bool true) w:=jfQ w 79 78 none 0 0 0 0 Tryz.underlying79;go_enter Tryz.func57,Tryz.ntmps57
  go_wp2_with fail;go_ret
  exact⟨⟨_,rfl,OwnV.nil _ _⟩,jej _ _⟩
 | some ad =>
  have HN:jgf (OwnV (w.alloc (.cells #[] 78)) w.heap.size (.slice (some ⟨w.heap.size,0,none⟩) 0 0) []):=ae (jfv (e:=78) (size:=1) w #[] 0 (base:=w.heap.size) (jek _) (by unfold maxLen;omega) rfl);have gj:=ae (HS.o.kept (ak w (.cells #[] 78)));clear h3 h4;have hq:(binOp .eql 79 (.slice (some ad) cs.length cap) (.slice none 0 0)).run Tryz.prog w=.ok (.bool false) w:=jfQ w 79 78 (some ad) cs.length cap 0 0 Tryz.underlying79;go_enter Tryz.func57,Tryz.ntmps57
  go_wp2_with (first | (at_builtin;refine ts rfl _ _ rfl w.heap.size _ ad cap [] cs rfl ?q1 rfl ?q2 ?c1 ?c2 ?_))
  case q1=>exact HN.o
  case q2=>exact gj.o
  case c1=>simp;omega
  case c2=>rw[jel];omega
  intro v3 w3 o3 aS;have dd:=ae o3;have bN:=ae ((ak w (.cells #[] 78)).trans aS);clear o3 aS;go_wp2_with fail;go_ret
  exact⟨⟨_,rfl,dd.o⟩,bN.o⟩
def aZ(cs:List Cl):List Cl:=cs.filter fun c=>!decide (c.1=0)
theorem EI{cs:List Cl}(h:∀ j (h:j<cs.length),decide (cs[j].1=0)=false):aZ cs=cs:=by
 unfold aZ;rw[List.filter_eq_self];intro c hc;obtain⟨j,hj,rfl⟩:=List.mem_iff_getElem.1 hc;rw[h j hj];rfl
theorem tu{cs:List Cl}{j:Nat}(h:j<cs.length):aZ (cs.take (j+1))=aZ (cs.take j)++(if cs[j].1=0 then [] else [cs[j]]):=by
 unfold aZ;rw[List.take_add_one,List.getElem?_eq_getElem h,jfX];congr 1
 by_cases hc:cs[j].1=0
 ·simp[hc]
 ·simp[hc]
def Del(cs:List Cl)(xs:List Value)(i j:Nat):Prop:=xs.length=cs.length/\i<j/\j<=cs.length/\xs.take i=aJ (aZ (cs.take j))/\xs.drop j=aJ (cs.drop j)
theorem Del.skip{cs:List Cl}{xs:List Value}{i j:Nat}(h:Del cs xs i j)(hj:j<cs.length)(hn:cs[j].1=0):Del cs xs i (j+1):=by
 obtain⟨h1,h2,h3,h4,h5⟩:=h;refine⟨h1,by omega,by omega,?_,?_⟩
 ·rw[tu hj,jei hn,jeG]
  exact h4
 ·rw[← jfR,h5]
  unfold aJ;rw[← List.map_drop,jfR]
theorem Del.keep{cs:List Cl}{xs:List Value}{i j:Nat}(h:Del cs xs i j)(hj:j<cs.length)(hn:¬ cs[j].1=0):Del cs (xs.set i (da cs[j])) (i+1) (j+1):=by
 obtain⟨h1,h2,h3,h4,h5⟩:=h;refine⟨by rw[jfD];exact h1,by omega,by omega,?_,?_⟩
 ·rw[tu hj,jeh hn,mD,← h4,List.take_add_one,List.take_set_of_le (by omega),List.getElem?_set_self (by omega)]
  rfl
 ·rw[List.drop_set_of_lt (by omega),← jfR,h5]
  unfold aJ;rw[← List.map_drop,jfR]
theorem Del.get{cs:List Cl}{xs:List Value}{i j:Nat}(h:Del cs xs i j)(hj:j<cs.length):xs[j]?=some (da cs[j]):=by
 obtain⟨h1,h2,h3,h4,h5⟩:=h;have:=jep (fun l=>l[0]?) h5;simp only[List.getElem?_drop,je9]at this;rw[this];unfold aJ;rw[List.getElem?_map,List.getElem?_drop,je9,List.getElem?_eq_getElem hj];rfl
theorem Del.start{cs:List Cl}{k:Nat}(hk:k<cs.length)(hn:cs[k].1=0)(cZ:∀ j (h:j<cs.length),j<k->decide (cs[j].1=0)=false):Del cs (aJ cs) k (k+1):=by
 refine⟨aG _,by omega,by omega,?_,?_⟩
 ·rw[tu hk,jei hn,jeG,EI (cs:=cs.take k)]
  ·unfold aJ
   rw[jfJ]
  ·intro j hj
   rw[List.getElem_take];exact cZ j (by rw[jeq]at hj;omega) (by rw[jeq]at hj;omega)
 ·unfold aJ
  rw[List.map_drop]
theorem Del.len{cs:List Cl}{xs:List Value}{i j:Nat}(h:Del cs xs i j):(aZ (cs.take j)).length=i:=by
 obtain⟨h1,h2,h3,h4,h5⟩:=h;have:=jep List.length h4;rw[aG,jeq]at this;omega
theorem xD{w:World}{B:Nat}{v:Value}{cs:List Cl}(ho:OwnV w B v cs)(hf:∀ c∈cs,aT c)(hBw:B<=w.heap.size):Calls Tryz.prog 98 #[v,.func (.func 99) #[] #[]] w fun e w'=>(∃ v',e=.returned v'/\Sv w' v' (aJ (aZ cs)))/\Below B w w':=by
 have HO:=ae ho;have HF:=ae hf;obtain⟨a,cap,rfl,aW,bC⟩:=aO ho;have hcm':cap<=9223372036854775807:=by unfold maxLen at bC;omega
 have HI:=ae (EH ho.sv hf);have Ll:=ae bC;clear ho hf bC;go_enter Tryz.func98,Tryz.ntmps98
 go_wp2_with fail;refine HI.o.mono ?_;rintro e w1 ⟨⟨z,rfl,hz⟩,aH⟩;have aP:=ae (aH.mono hBw);have eO:=ae (HO.o.kept aH);clear aH HI HO;rcases hz with ⟨rfl,cZ⟩ | ⟨k0,qB,rfl,hp,cZ⟩
 ·have HN:=ae (EI cZ)
  clear cZ;go_wp2_with fail;go_ret
  refine⟨⟨_,rfl,?_⟩,aP.o⟩;rw[HN.o];exact eO.o.sv
 ·have HDS:=ae (Del.start qB (by simpa using hp) cZ)
  obtain⟨g,cap',gi,eZ,gY,_⟩:=(sS eO.o).2 (by omega);simp only[Value.slice.injEq]at gi;obtain⟨rfl,_,rfl⟩:=gi;have qI:((k0:Int)==-1)=false:=jev.2 (by omega);clear hp cZ;go_wp2_with fail;go_loopw [5,6] (fun a b wr=>∃(i j:Nat) (xs:List Value),a=.int .i64 (i:Int)/\b=.int .i64 (j:Int)/\Del cs xs i j/\wr.ownsRow B 78 1 (.slice (some ⟨g,0,none⟩) cs.length cap) cs.length xs/\Below B w wr) (fun _ b _=>cs.length-(intOf b).toNat)
  case atStart=>exact⟨k0,k0+1,_,rfl,by go_num,HDS.o,eO.o,aP.o⟩
  case round =>
   obtain⟨i,j,xs,rfl,rfl,vQ,how,az⟩:=hrel;have HD:=ae vQ;have HO:=ae how;have HB:=ae az;have Qx:=vQ.2.1;have hjn:=vQ.2.2.1;by_cases aB:j<cs.length
   ·have hlt':(j:Int)<(cs.length:Int):=by omega
    have cj:=(how.cellAt j (by omega)).trans (vQ.get aB);have fi:=how.frozenAt i
    obtain⟨ci,hci⟩:∃ u,wr.cell? ⟨g,i,none⟩=some u:=by
     refine⟨xs[i]'(by have:=vQ.1;omega),?_⟩;rw[how.cellAt i (by omega),List.getElem?_eq_getElem]
    have HC:=ae (xA (HF.o cs[j] (jeo aB)));have HSK:=ae (vQ.skip aB);have HKP:=ae (vQ.keep aB);clear vQ how az;generalize dN:cs[j]=c at *;clear dN;have ju:(i:Int)<(cs.length:Int):=(by omega);go_wp2_with fail;refine(HC.o _).mono ?_;rintro e w3 ⟨rfl,aS⟩;have bN:=ae (HB.o.trans (aS.mono (jet hBw HB.o.size)));have dd:=ae (bJ HO.o aS);have fi3:=dd.o.frozenAt i;have ci3:=(aS.cell (p:=⟨g,i,none⟩) (show g<wr.heap.size by have:=HO.o.lt g rfl;omega)).trans hci;clear aS fi cj hci;by_cases oE:c.1=0
    ·rw[show decide (c.1=0)=true from jeB oE]
     have zt:=ae (HSK.o oE);go_wp2_with fail;go_roundw
     case rel=>exact⟨i,j+1,xs,rfl,by go_num,zt.o,dd.o,bN.o⟩
     case measure=>simp[intOf];omega
    ·rw[show decide (c.1=0)=false from jeu oE]
     have zt:=ae (HKP.o oE);obtain⟨ty,u,hvc⟩:=kj c oE;rw[hvc]at zt ⊢;clear hvc HC HKP HSK;go_wp2_with fail;go_roundw
     case rel=>exact⟨i+1,j+1,_,by go_num,by go_num,zt.o,(dd.o.stored i _).1,bN.o.setCell (p:=⟨g,i,none⟩) gY _⟩
     case measure=>simp[intOf];omega
   ·obtain rfl:j=cs.length:=by omega
    have gi:¬ ((cs.length:Nat):Int)<(cs.length:Int):=(by omega);have CL:jgf ((aZ cs).length=i):=ae (by have:=vQ.len;rwa[jes]at this);have sy:jgf (xs.take i=aJ (aZ cs)):=ae (by have:=vQ.2.2.2.1;rwa[jes]at this);have ju:(i:Int)<=(cs.length:Int):=(by omega);have hin2:i<=cs.length:=(by omega);have hxl:=vQ.1;have hz61:∀ w,(zeroValue 78).run Tryz.prog w=.ok .nilIface w:=fun w=>by kernel_rfl
    have eX:∀ ty,(Builtin.clear_ #[79] ty #[.slice (some ⟨g,i,none⟩) (cs.length-i) (cap-i)]).run Tryz.prog wr=.ok (.tuple #[]) (wr.setCells g i (List.replicate (cs.length-i) .nilIface)):=fun ty=>run_clear_slice wr 79 78 ty .nilIface Tryz.underlying79 hz61 rfl rfl g i (cs.length-i) (cap-i) (by omega) (fun t ht=>by
     rw[how.cellAt (i+t) (by omega),List.getElem?_eq_getElem (by omega)];rfl) (fun t ht=>how.frozenAt (i+t))
    clear hz61
    have yk:jgf (Sv (wr.setCells g i (List.replicate (cs.length-i) .nilIface)) (.slice (some ⟨g,0,none⟩) i cap) (aJ (aZ cs))):=ae ⟨some ⟨g,0,none⟩,cap,by rw[aG,CL.o],by rw[aG,CL.o];omega,Ll.o,fun h=>by simp at h,fun h0=>⟨g,0,rfl,by
     have:=(below_setCells_w (B:=0) (g:=g) (je6 _) (List.replicate (cs.length-i) .nilIface) i wr).size;have:=how.lt g rfl;omega,fun t x hx=>by
     have ht:t<i:=by
      have:=(List.getElem?_eq_some_iff.1 hx).1;rw[aG,CL.o]at this;exact this
     rw[jeO,World.cell?_setCells_out g _ i wr ⟨g,t,none⟩ (fun _ _=>Or.inl ht),how.cellAt t (by omega)];rw[← sy.o,List.getElem?_take_of_lt ht]at hx;exact hx⟩⟩
    have sO:=ae (HB.o.trans (below_setCells_w gY (List.replicate (cs.length-i) .nilIface) i wr));clear vQ how az hxl;go_wp2_with fail;go_ret
    exact⟨⟨_,rfl,yk.o⟩,sO.o⟩
theorem Mb.any{P:Cl->Bool}{cs:List Cl}{z:Int}(h:Mb P cs z):decide (z>=0)=cs.any P:=by
 rcases h with ⟨rfl,h⟩ | ⟨k,hk,rfl,h,_⟩
 ·rw[show decide ((-1:Int)>=0)=false from rfl,eq_comm,List.any_eq_false]
  intro c hc;obtain⟨j,hj,rfl⟩:=List.mem_iff_getElem.1 hc;simp[h j hj]
 ·rw[show decide ((k:Int)>=0)=true from jeB (by omega),eq_comm,List.any_eq_true]
  exact⟨cs[k],jeo hk,h⟩
def eT(c:Cl):Bool:=dS (lb (am c.2.2))
theorem xE{w:World}{v:Value}{cs:List Cl}(hs:Sv w v (aJ cs))(hf:∀ c∈cs,aT c):Calls Tryz.prog 101 #[v,.func (.func 102) #[] #[]] w fun e w'=>e=.returned (.bool (!cs.all eT))/\Below w.heap.size w w':=by
 have HC:=ae (xC hs hf);obtain⟨a,cap,rfl,aW,bC⟩:=hs.form1;clear hs hf;go_enter Tryz.func101,Tryz.ntmps101
 go_wp2_with fail;refine HC.o.mono ?_;rintro e w1 ⟨⟨z,rfl,hz⟩,hb⟩
 have HZ:jgf (decide (z>=0)=!cs.all eT):=ae (by
  rw[hz.any,List.not_all_eq_any_not];rfl)
 clear hz;go_wp2_with fail;go_ret
 rw[← HZ.o];exact⟨rfl,hb⟩
def gx(m:Cl):List Cl->Cl
 | []=>m
 | x::r=>gx (if cW x m<0 then x else m) r
def eK(m:Cl):List Cl->Cl
 | []=>m
 | x::r=>eK (if 0<cW x m then x else m) r
theorem NX{m:Cl}{cs:List Cl}{i:Nat}(h:i<cs.length):gx m (cs.drop i)=gx (if cW cs[i] m<0 then cs[i] else m) (cs.drop (i+1)):=by
 rw[je1 h];rfl
theorem NY{m:Cl}{cs:List Cl}{i:Nat}(h:i<cs.length):eK m (cs.drop i)=eK (if 0<cW cs[i] m then cs[i] else m) (cs.drop (i+1)):=by
 rw[je1 h];rfl
theorem TI{m:Cl}{cs:List Cl}:gx m (cs.drop cs.length)=m:=by rw[jfg];rfl
theorem TJ{m:Cl}{cs:List Cl}:eK m (cs.drop cs.length)=m:=by rw[jfg];rfl
theorem mh{P:Cl->Prop}:∀{cs:List Cl} {m:Cl},P m->(∀ c∈cs,P c)->P (gx m cs)
 | [],m,h,_=>h
 | x::r,m,h,hr=>by
  unfold gx;refine mh ?_ fun c hc=>hr c (by simp[hc])
  split
  ·exact hr x (by simp)
  ·exact h
theorem nW{P:Cl->Prop}:∀{cs:List Cl} {m:Cl},P m->(∀ c∈cs,P c)->P (eK m cs)
 | [],m,h,_=>h
 | x::r,m,h,hr=>by
  unfold eK;refine nW ?_ fun c hc=>hr c (by simp[hc])
  split
  ·exact hr x (by simp)
  ·exact h
theorem TK{w:World}{v:Value}{cs:List Cl}(hs:Sv w v (aJ cs))(hf:∀ c∈cs,aT c)(fJ:0<cs.length):Calls Tryz.prog 104 #[v,.func (.func 105) #[] #[]] w fun e w'=>e=.returned (da (gx cs[0] (cs.drop 1)))/\Below w.heap.size w w':=by
 have HS:=ae hs;have HF:=ae hf;have HR:jgf (∃ R,R=gx cs[0] (cs.drop 1)):=ae ⟨_,rfl⟩;obtain⟨R,hR⟩:=HR.o;have jn:=ae hR;rw[← hR];clear hR HR;obtain⟨a,cap,rfl,aW,bC⟩:=hs.form1;rw[aG]at *;obtain⟨b0,off0,rfl,dL,z0⟩:=hs.at1 (cQ fJ);have hcm':cap<=9223372036854775807:=by unfold maxLen at bC;omega
 have Rl:=ae (hf cs[0] (jeo fJ));have hge1:¬ (cs.length:Int)<1:=by omega
 have hlt0:(0:Int)<(cs.length:Int):=by omega
 rw[je9]at z0;clear hs hf bC;generalize oE:cs[0]=c0 at *;clear oE;go_enter Tryz.func104,Tryz.ntmps104
 go_wp2_with fail;clear z0;go_loopw [5,6] (fun s i wr=>∃(k:Nat) (m:Cl),1<=k/\k<=cs.length/\i=.int .i64 (k:Int)/\s=da m/\aT m/\R=gx m (cs.drop k)/\Below w.heap.size w wr) (fun _ i _=>cs.length-(intOf i).toNat)
 case atStart=>exact⟨1,c0,by omega,by omega,rfl,rfl,Rl.o,jn.o,jej _ _⟩
 case round =>
  obtain⟨k,m,qA,hk,rfl,rfl,WP,kT,az⟩:=hrel;have lP:=ae WP;have HE:=ae kT;have HB:=ae az;clear WP kT az jn;by_cases aB:k<cs.length
  ·obtain⟨b,off,he,hb,z⟩:=(HS.o.kept HB.o).at1 (cQ aB)
   simp only[Option.some.injEq,Addr.mk.injEq,and_true]at he;obtain⟨rfl,rfl⟩:=he;have hlt':(k:Int)<(cs.length:Int):=(by omega);have CX:=ae (HF.o cs[k] (jeo aB));have HT:=ae (HE.o.trans (NX aB));generalize cs[k]=c at *;have HC:=ae (fun W=>kH CX.o.val lP.o.val W);rw[show cv (c.1:Int) c.2.1 (am c.2.2) (m.1:Int) m.2.1 (am m.2.2)=cW c m from rfl]at HC;generalize cW c m=q at *;clear HE;go_wp2_with fail;refine(HC.o _).mono ?_;rintro e w2 ⟨rfl,aE⟩;have aN:=ae (ai HB.o aE);have z2:=(aE.cell (p:=⟨b0,off0+k,none⟩) hb).trans z;clear aE z;by_cases hq:q<0
   ·rw[jei hq]at HT
    go_wp2_with fail;go_roundw
    case rel=>exact⟨k+1,c,by omega,by omega,by go_num,rfl,CX.o,HT.o,aN.o⟩
    case measure=>simp[intOf];omega
   ·rw[jeh hq]at HT
    go_wp2_with fail;go_roundw
    case rel=>exact⟨k+1,m,by omega,by omega,by go_num,rfl,lP.o,HT.o,aN.o⟩
    case measure=>simp[intOf];omega
  ·obtain rfl:k=cs.length:=by omega
   have gi:¬ ((cs.length:Nat):Int)<(cs.length:Int):=(by omega);have HT:=ae (HE.o.trans TI);clear HE;go_wp2_with fail;go_ret
   rw[HT.o];exact⟨rfl,HB.o⟩
theorem TL{w:World}{v:Value}{cs:List Cl}(hs:Sv w v (aJ cs))(hf:∀ c∈cs,aT c)(fJ:0<cs.length):Calls Tryz.prog 107 #[v,.func (.func 105) #[] #[]] w fun e w'=>e=.returned (da (eK cs[0] (cs.drop 1)))/\Below w.heap.size w w':=by
 have HS:=ae hs;have HF:=ae hf;have HR:jgf (∃ R,R=eK cs[0] (cs.drop 1)):=ae ⟨_,rfl⟩;obtain⟨R,hR⟩:=HR.o;have jn:=ae hR;rw[← hR];clear hR HR;obtain⟨a,cap,rfl,aW,bC⟩:=hs.form1;rw[aG]at *;obtain⟨b0,off0,rfl,dL,z0⟩:=hs.at1 (cQ fJ);have hcm':cap<=9223372036854775807:=by unfold maxLen at bC;omega
 have Rl:=ae (hf cs[0] (jeo fJ));have hge1:¬ (cs.length:Int)<1:=by omega
 have hlt0:(0:Int)<(cs.length:Int):=by omega
 rw[je9]at z0;clear hs hf bC;generalize oE:cs[0]=c0 at *;clear oE;go_enter Tryz.func107,Tryz.ntmps107
 go_wp2_with fail;clear z0;go_loopw [5,6] (fun s i wr=>∃(k:Nat) (m:Cl),1<=k/\k<=cs.length/\i=.int .i64 (k:Int)/\s=da m/\aT m/\R=eK m (cs.drop k)/\Below w.heap.size w wr) (fun _ i _=>cs.length-(intOf i).toNat)
 case atStart=>exact⟨1,c0,by omega,by omega,rfl,rfl,Rl.o,jn.o,jej _ _⟩
 case round =>
  obtain⟨k,m,qA,hk,rfl,rfl,WP,kT,az⟩:=hrel;have lP:=ae WP;have HE:=ae kT;have HB:=ae az;clear WP kT az jn;by_cases aB:k<cs.length
  ·obtain⟨b,off,he,hb,z⟩:=(HS.o.kept HB.o).at1 (cQ aB)
   simp only[Option.some.injEq,Addr.mk.injEq,and_true]at he;obtain⟨rfl,rfl⟩:=he;have hlt':(k:Int)<(cs.length:Int):=(by omega);have CX:=ae (HF.o cs[k] (jeo aB));have HT:=ae (HE.o.trans (NY aB));generalize cs[k]=c at *;have HC:=ae (fun W=>kH CX.o.val lP.o.val W);rw[show cv (c.1:Int) c.2.1 (am c.2.2) (m.1:Int) m.2.1 (am m.2.2)=cW c m from rfl]at HC;generalize cW c m=q at *;clear HE;go_wp2_with fail;refine(HC.o _).mono ?_;rintro e w2 ⟨rfl,aE⟩;have aN:=ae (ai HB.o aE);have z2:=(aE.cell (p:=⟨b0,off0+k,none⟩) hb).trans z;clear aE z;by_cases hq:0<q
   ·rw[jei hq]at HT
    go_wp2_with fail;go_roundw
    case rel=>exact⟨k+1,c,by omega,by omega,by go_num,rfl,CX.o,HT.o,aN.o⟩
    case measure=>simp[intOf];omega
   ·rw[jeh hq]at HT
    go_wp2_with fail;go_roundw
    case rel=>exact⟨k+1,m,by omega,by omega,by go_num,rfl,lP.o,HT.o,aN.o⟩
    case measure=>simp[intOf];omega
  ·obtain rfl:k=cs.length:=by omega
   have gi:¬ ((cs.length:Nat):Int)<(cs.length:Int):=(by omega);have HT:=ae (HE.o.trans TJ);clear HE;go_wp2_with fail;go_ret
   rw[HT.o];exact⟨rfl,HB.o⟩
def nb(l:List UInt8):List Nat:=l.map UInt8.toNat
theorem NZ(l:List UInt8):am (nb l)=⟨l.toArray⟩:=by
 unfold am nb;congr 1
 rw[jeW];have:(Nat.toUInt8 ∘ UInt8.toNat)=id:=by funext x;simp
 rw[this,jfj]
theorem lb_nb(l:List UInt8):lb (am (nb l))=l:=by rw[NZ];rfl
theorem Mc{t:ByteArray}{l:List UInt8}(h:lb t=l):t=am (nb l):=Ht (by rw[lb_nb,h])
theorem ZR(l:List UInt8):Bs (nb l):=fun x hx=>by
 unfold nb at hx;obtain⟨y,_,rfl⟩:=jeF.1 hx;exact UInt8.toNat_lt y
def nX(x:Cl)(cl:Bool):Cl:=if x.1=3/\cl=false then (3,0,[]) else (x.1,x.2.1,nb (bZ (lb (am x.2.2)) 4))
def gI(x:Cl)(cl:Bool):Cl×Bool:=if x.1=3 then (match gT (lb (am x.2.2)) 4 with
 | none=>(nul,false)
 | some a=>if cl=true then ((3,0,nb a),true) else (nul,false)) else (x,true)
def Ceb(W:World)(p:Nat)(x y z:Value):Prop:=W.heap[p]?=some (.cells #[x,y,z] 52 (0,0))
theorem Ceb.facts{W:World}{p:Nat}{x y z:Value}(h:Ceb W p x y z):(W.cell? ⟨p,0,none⟩=some x/\W.cell? ⟨p,1,none⟩=some y/\W.cell? ⟨p,2,none⟩=some z)/\(W.frozen? ⟨p,0,none⟩=false/\W.frozen? ⟨p,1,none⟩=false/\W.frozen? ⟨p,2,none⟩=false)/\p<W.heap.size:=by
 unfold Ceb at h;refine⟨⟨by rw[ay h];rfl,by rw[ay h];rfl,by rw[ay h];rfl⟩,⟨by simp[World.frozen?,h],by simp[World.frozen?,h],by simp[World.frozen?,h]⟩,(Array.getElem?_eq_some_iff.1 h).1⟩
theorem Ceb.kept{W W':World}{p:Nat}{x y z:Value}(h:Ceb W p x y z)(hb:Below W.heap.size W W'):Ceb W' p x y z:=by
 have hp:=h.facts.2.2;unfold Ceb at *;rw[hb.block p hp];exact h
theorem Ceb.new(w:World)(x y z:Value):Ceb (w.alloc (.cells #[x,y,z] 52)) w.heap.size x y z:=jeK w _
theorem BX{x:Cl}(hf:aT x)(cl:Bool)(w:World):Calls Tryz.prog 103 #[da x,.bool cl] w fun e w'=>e=.returned (.agg #[.int .u8 ((nX x cl).1:Int),.int .i64 (nX x cl).2.1,.string (am (nX x cl).2.2)])/\Below w.heap.size w w':=by
 have HF:=ae hf;have hr:=Ceb.new w (.int .u8 0) (.int .i64 0) (.string ⟨#[]⟩);have dL:=ak w (.cells #[.int .u8 0,.int .i64 0,.string ⟨#[]⟩] 52);have HD:jgf (nX x cl=if x.1=3/\cl=false then (3,0,[]) else (x.1,x.2.1,nb (bZ (lb (am x.2.2)) 4))):=ae rfl;generalize nX x cl=R at *;have HR:=ae hr;have ce:=ae dL;have HZ:jgf (w.heap.size<(w.alloc (.cells #[.int .u8 0,.int .i64 0,.string ⟨#[]⟩] 52)).heap.size):=ae hr.facts.2.2;clear hf hr dL;go_enter Tryz.func103,Tryz.ntmps103
 go_wp2_with fail;refine(lS HF.o.val _).mono ?_;rintro e w1 ⟨rfl,aH⟩;have aP:=ae (ai ce.o aH);have sP:=ae (HR.o.kept aH);have cK:w.heap.size<w1.heap.size:=jeH HZ.o aH.size;clear aH HR;have AM:=Ceb.new w1 (.int .u8 (x.1:Int)) (.int .i64 x.2.1) (.string (am x.2.2));have aE:=ak w1 (.cells #[.int .u8 (x.1:Int),.int .i64 x.2.1,.string (am x.2.2)] 52);have kf:=ae AM;have jn:=ae (sP.o.kept aE);have aN:=ae (ai aP.o aE);obtain⟨⟨d0,d1,d2⟩,⟨f0,f1,f2⟩,_⟩:=AM.facts;obtain⟨⟨r0,r1,r2⟩,⟨s0,s1,s2⟩,_⟩:=jn.o.facts;have fJ:¬ w1.heap.size=w.heap.size:=by omega
 have zq:¬ w.heap.size=w1.heap.size:=by omega
 clear AM aE sP;generalize hW:w1.alloc (.cells #[.int .u8 (x.1:Int),.int .i64 x.2.1,.string (am x.2.2)] 52)=W at *;by_cases h3:x.1=3/\cl=false
 ·rw[jei h3]at HD
  obtain⟨h3a,rfl⟩:=h3;have h3':((x.1:Int)==3)=true:=by rw[h3a];rfl
  clear h3a;go_wp2_with fail;refine bodyPost_ret (v:=.agg #[.int .u8 3,.int .i64 0,.string ⟨#[]⟩]) (by simp[results,Tryz.results103,go_sem,r0,r1,r2]) rfl ⟨?_,set3 aN.o (jek _) _ _ _⟩;rw[HD.o];rfl
 ·rw[jeh h3]at HD
  have GL:=ae (zP (am x.2.2) 4 (by have:=HF.o.short;omega))
  have yA:((x.1:Int)==3)=false∨(((x.1:Int)==3)=true/\cl=true):=by
   by_cases hx:x.1=3
   ·right
    refine⟨by rw[hx];rfl,?_⟩;cases cl
    ·exact absurd ⟨hx,rfl⟩ h3
    ·rfl
   ·left
    exact jev.2 (by omega)
  clear h3;rcases yA with h3' | ⟨h3',rfl⟩
  all_goals
   go_wp2_with fail;refine(GL.o _).mono ?_;rintro e w3 ⟨⟨t,rfl,ht⟩,aS⟩;have yo:=ae (Mc ht);obtain⟨⟨d0',d1',d2'⟩,⟨f0',f1',f2'⟩,_⟩:=(kf.o.kept aS).facts;obtain⟨⟨r0',r1',r2'⟩,⟨s0',s1',s2'⟩,_⟩:=(jn.o.kept aS).facts;have bN:=ae (ai aN.o aS);have HZZ:jgf (w.heap.size<=w1.heap.size):=ae (by omega);clear aS ht d0 d1 d2 f0 f1 f2 r0 r1 r2 s0 s1 s2 hW;go_wp2_with fail;refine bodyPost_ret (v:=.agg #[.int .u8 (x.1:Int),.int .i64 x.2.1,.string t]) (by simp[results,Tryz.results103,go_sem,r0',r1',r2',fJ,zq]) rfl ⟨?_,set3 (bN.o.setCell (p:=⟨w1.heap.size,2,none⟩) HZZ.o _) (jek _) _ _ _⟩;rw[HD.o,yo.o]
theorem yQ{x:Cl}(hf:aT x)(cl:Bool)(w:World):Calls Tryz.prog 106 #[da x,.bool cl] w fun e w'=>e=.returned (.tuple #[.agg #[.int .u8 ((gI x cl).1.1:Int),.int .i64 (gI x cl).1.2.1,.string (am (gI x cl).1.2.2)],.bool (gI x cl).2])/\Below w.heap.size w w':=by
 have HF:=ae hf;have hr:=Ceb.new w (.int .u8 0) (.int .i64 0) (.string ⟨#[]⟩);have dL:=ak w (.cells #[.int .u8 0,.int .i64 0,.string ⟨#[]⟩] 52)
 have HD:jgf (gI x cl=if x.1=3 then (match gT (lb (am x.2.2)) 4 with
  | none=>(nul,false)
  | some a=>if cl=true then ((3,0,nb a),true) else (nul,false)) else (x,true)):=ae rfl
 generalize gI x cl=R at *;have HR:=ae hr;have ce:=ae dL;have HZ:jgf (w.heap.size<(w.alloc (.cells #[.int .u8 0,.int .i64 0,.string ⟨#[]⟩] 52)).heap.size):=ae hr.facts.2.2;clear hf hr dL;go_enter Tryz.func106,Tryz.ntmps106
 go_wp2_with fail;refine(lS HF.o.val _).mono ?_;rintro e w1 ⟨rfl,aH⟩;have aP:=ae (ai ce.o aH);have sP:=ae (HR.o.kept aH);have cK:w.heap.size<w1.heap.size:=jeH HZ.o aH.size;clear aH HR;have AM:=Ceb.new w1 (.int .u8 (x.1:Int)) (.int .i64 x.2.1) (.string (am x.2.2));have aE:=ak w1 (.cells #[.int .u8 (x.1:Int),.int .i64 x.2.1,.string (am x.2.2)] 52);have kf:=ae AM;have jn:=ae (sP.o.kept aE);have aN:=ae (ai aP.o aE);obtain⟨⟨d0,d1,d2⟩,⟨f0,f1,f2⟩,_⟩:=AM.facts;obtain⟨⟨r0,r1,r2⟩,⟨s0,s1,s2⟩,_⟩:=jn.o.facts;clear AM aE sP;generalize hW:w1.alloc (.cells #[.int .u8 (x.1:Int),.int .i64 x.2.1,.string (am x.2.2)] 52)=W at *;by_cases h3:x.1=3
 ·rw[jei h3]at HD
  have h3':((x.1:Int) != 3)=false:=by rw[h3];rfl
  have HAB:=ae (NA (am x.2.2) 4 (by have:=HF.o.short;omega));clear h3;go_wp2_with fail;refine(HAB.o _).mono ?_;rintro e w3 ⟨⟨t,o,rfl,ho,ht⟩,aS⟩;obtain⟨⟨r0',r1',r2'⟩,⟨s0',s1',s2'⟩,_⟩:=(jn.o.kept aS).facts;have bN:=ae (ai aN.o aS);clear aS d0 d1 d2 f0 f1 f2 r0 r1 r2 s0 s1 s2 hW;cases ha:gT (lb (am x.2.2)) 4 with
  | none =>
   rw[ha]at HD ho;have ho':o=false:=ho;subst ho';clear ha ho ht;simp only at HD;go_wp2_with fail;refine bodyPost_ret (v:=.tuple #[.agg #[.int .u8 0,.int .i64 0,.string ⟨#[]⟩],.bool false]) (by simp[results,Tryz.results106,go_sem,r0',r1',r2']) rfl ⟨?_,set3 bN.o (jek _) _ _ _⟩;rw[HD.o];rfl
  | some av =>
   rw[ha]at HD ho ht;have ho':o=true:=ho;subst ho';have yo:=ae (Mc (show lb t=av from ht));clear ha ho ht;simp only at HD;cases cl
   ·go_wp2_with fail
    refine bodyPost_ret (v:=.tuple #[.agg #[.int .u8 0,.int .i64 0,.string ⟨#[]⟩],.bool false]) (by simp[results,Tryz.results106,go_sem,r0',r1',r2']) rfl ⟨?_,set3 bN.o (jek _) _ _ _⟩;rw[HD.o];rfl
   ·go_wp2_with fail
    refine bodyPost_ret (v:=.tuple #[.agg #[.int .u8 3,.int .i64 0,.string t],.bool true]) (by simp[results,Tryz.results106,go_sem,r0',r1',r2']) rfl ⟨?_,set3 bN.o (jek _) _ _ _⟩;rw[HD.o,yo.o];rfl
 ·rw[jeh h3]at HD
  have h3':((x.1:Int) != 3)=true:=by simp;omega
  clear h3;go_wp2_with fail;refine bodyPost_ret (v:=.tuple #[.agg #[.int .u8 (x.1:Int),.int .i64 x.2.1,.string (am x.2.2)],.bool true]) (by simp[results,Tryz.results106,go_sem,r0,r1,r2]) rfl ⟨?_,set3 aN.o (jek _) _ _ _⟩;rw[HD.o]
def cA(cs:List Cl):Stt:=match aZ cs with
 | []=>⟨cs.length,cs.length,false,false,nul,nul⟩
 | x::r=>⟨cs.length,(cs.length:Int)-((x::r).length:Nat),true,(gI (eK x r) ((x::r).all eT)).2,nX (gx x r) ((x::r).all eT),(gI (eK x r) ((x::r).all eT)).1⟩
theorem Stb.kept{W W':World}{p:Nat}{st:Stt}(h:Stb W p st)(hb:Below W.heap.size W W'):Stb W' p st:=by
 have hp:=h.at.1;unfold Stb at *;rw[hb.block p hp];exact h
theorem Stb.frozen{W:World}{p:Nat}{st:Stt}(h:Stb W p st)(i:Nat):W.frozen? ⟨p,i,none⟩=false:=by
 unfold Stb at h;simp[World.frozen?,h]
theorem Stb.lo{W:World}{p:Nat}{st:Stt}(h:Stb W p st)(c:Cl):Stb (((W.setCell ⟨p,4,none⟩ (.int .u8 (c.1:Int))).setCell ⟨p,5,none⟩ (.int .i64 c.2.1)).setCell ⟨p,6,none⟩ (.string (am c.2.2))) p { st with lo:=c }:=by
 unfold Stb at *;rw[cM (cM (cM h 4 _) 5 _) 6 _];rfl
theorem Stb.other{W:World}{p q:Nat}{st:Stt}(h:Stb W q st)(hn:q≠p)(i:Nat)(v:Value):Stb (W.setCell ⟨p,i,none⟩ v) q st:=by
 unfold Stb at *;rw[heap_setCell_other _ ⟨p,i,none⟩ q _ hn];exact h
theorem fF{B:Nat}{w W:World}(h:Below B w W){p:Nat}(hp:B<=p)(i:Nat)(x:Value):Below B w (W.setCell ⟨p,i,none⟩ x):=h.setCell (p:=⟨p,i,none⟩) hp _
theorem TM{B:Nat}{w W:World}(h:Below B w W){p:Nat}(hp:B<=p)(x0 x1 x2 x3 x4 x5 x6 x7 x8 x9:Value):Below B w ((((((((((W.setCell ⟨p,0,none⟩ x0).setCell ⟨p,1,none⟩ x1).setCell ⟨p,2,none⟩ x2).setCell ⟨p,3,none⟩ x3).setCell ⟨p,4,none⟩ x4).setCell ⟨p,5,none⟩ x5).setCell ⟨p,6,none⟩ x6).setCell ⟨p,7,none⟩ x7).setCell ⟨p,8,none⟩ x8).setCell ⟨p,9,none⟩ x9) :=
 fF (fF (fF (fF (fF (fF (fF (fF (fF (fF h hp _ _) hp _ _) hp _ _) hp _ _) hp _ _) hp _ _) hp _ _) hp _ _) hp _ _) hp _ _
def stZ:Stt:=⟨0,0,false,false,nul,nul⟩
theorem Aq{w:World}{v:Value}{cs:List Cl}(hs:Sv w v (aJ cs))(hf:∀ c∈cs,aT c)(hl:cs.length<=1000):Calls Tryz.prog 59 #[v] w fun e w'=>e=.returned (vC (cA cs))/\Below w.heap.size w w':=by
 have HF:=ae hf;have ch:=Stb.new w stZ;have dL:=ak w (.cells #[.int .i64 0,.int .i64 0,.bool false,.bool false,.int .u8 0,.int .i64 0,.string ⟨#[]⟩,.int .u8 0,.int .i64 0,.string ⟨#[]⟩] 54);have hz0':Stb (w.alloc (.cells #[.int .i64 0,.int .i64 0,.bool false,.bool false,.int .u8 0,.int .i64 0,.string ⟨#[]⟩,.int .u8 0,.int .i64 0,.string ⟨#[]⟩] 54)) w.heap.size stZ:=ch;have lN:=ae (hs.kept dL);obtain⟨a,cap,rfl,aW,bC⟩:=hs.form1;rw[aG]at *;have WQ:=ae hz0';have ce:=ae dL;have sA:(w.alloc (.cells #[.int .i64 0,.int .i64 0,.bool false,.bool false,.int .u8 0,.int .i64 0,.string ⟨#[]⟩,.int .u8 0,.int .i64 0,.string ⟨#[]⟩] 54)).heap.size=w.heap.size+1:=jel _ _;have qG:=ae sA;clear hs hf ch dL hz0' sA;generalize hA:w.alloc (.cells #[.int .i64 0,.int .i64 0,.bool false,.bool false,.int .u8 0,.int .i64 0,.string ⟨#[]⟩,.int .u8 0,.int .i64 0,.string ⟨#[]⟩] 54)=A at *;have HL:=ae hl;clear hl;go_enter Tryz.func59,Tryz.ntmps59
 go_wp2_with fail;try rw[hA]
 refine(qm lN.o HL.o).mono ?_;rintro e w1 ⟨⟨v1,rfl,ei⟩,aH⟩;have eO:=ae ei;have aP:=ae aH;clear ei aH hA;go_wp2_with fail;refine(xD eO.o HF.o aP.o.size).mono ?_;rintro e w2 ⟨⟨v2,rfl,dR⟩,aE⟩;have aN:=ae (aP.o.trans aE);have gj:=ae dR;have QC:jgf (∀ c∈aZ cs,aT c):=ae (fun c hc=>HF.o c (by unfold aZ at hc;exact(jf6.1 hc).1));obtain⟨a2,cap2,rfl,Vs,zh⟩:=dR.form1;rw[aG]at *
 have cP:jgf (cA cs=match aZ cs with
  | []=>⟨cs.length,cs.length,false,false,nul,nul⟩
  | x::r=>⟨cs.length,(cs.length:Int)-((x::r).length:Nat),true,(gI (eK x r) ((x::r).all eT)).2,nX (gx x r) ((x::r).all eT),(gI (eK x r) ((x::r).all eT)).1⟩):=ae rfl
 have HNL:jgf ((aZ cs).length<=cs.length):=ae (jfV _ _);clear aE dR eO aP lN;generalize aZ cs=ns at *;have MB:=ae (WQ.o.kept aN.o);have nH:=ae (ai ce.o aN.o);have nI:jgf (w.heap.size<w2.heap.size):=ae MB.o.at.1;clear WQ ce aN bC zh;cases ns with
 | nil =>
  simp only at cP;simp only[jeL]at *;have hSb:=Stb.new w2 ⟨cs.length,cs.length,false,false,nul,nul⟩;have hSb':Stb (w2.alloc (.cells #[.int .i64 (cs.length:Int),.int .i64 (cs.length:Int),.bool false,.bool false,.int .u8 0,.int .i64 0,.string ⟨#[]⟩,.int .u8 0,.int .i64 0,.string ⟨#[]⟩] 54)) w2.heap.size ⟨cs.length,cs.length,false,false,nul,nul⟩:=hSb;clear hSb;have HSb:=ae hSb';have hbG:=ak w2 (.cells #[.int .i64 (cs.length:Int),.int .i64 (cs.length:Int),.bool false,.bool false,.int .u8 0,.int .i64 0,.string ⟨#[]⟩,.int .u8 0,.int .i64 0,.string ⟨#[]⟩] 54);have hZG:=MB.o.kept hbG;have KW:wrap64 (cs.length:Int)=(cs.length:Int):=by have:=HL.o;unfold wrap64;omega
  obtain⟨_,⟨r0,r1,r2,r3⟩,⟨r4,r5,r6⟩,r7,r8,r9⟩:=MB.o.at;obtain⟨_,⟨q0,q1,q2,q3⟩,⟨q4,q5,q6⟩,q7,q8,q9⟩:=hZG.at;simp only[jeO]at r0 r1 r2 r3 r4 r5 r6 r7 r8 r9 q0 q1 q2 q3 q4 q5 q6 q7 q8 q9;have fz:=MB.o.frozen;have fg:=hZG.frozen;have pR:=nI.o;have yh:∀(X:World) (o:Obj) (i:Nat),w.heap.size<X.heap.size->(X.alloc o).cell? ⟨w.heap.size,i,none⟩=X.cell? ⟨w.heap.size,i,none⟩:=fun X o i h=>(ak X o).cell h
  have Lm:=TM nH.o (jek _) (.int .i64 (cs.length:Int)) (.int .i64 (cs.length:Int)) (.bool false) (.bool false) (.int .u8 0) (.int .i64 0) (.string ⟨#[]⟩) (.int .u8 0) (.int .i64 0) (.string ⟨#[]⟩);have HSET:=ae Lm;clear hSb' Lm hbG hZG;go_wp2_with fail;refine bodyPost_ret (v:=.agg #[.int .i64 (cs.length:Int),.int .i64 (cs.length:Int),.bool false,.bool false,.int .u8 0,.int .i64 0,.string ⟨#[]⟩,.int .u8 0,.int .i64 0,.string ⟨#[]⟩]) (by simp[results,Tryz.results59,go_sem,yh,pR,r0,r1,r2,r3,r4,r5,r6,r7,r8,r9]) rfl ⟨?_,?_⟩
  ·rw[cP.o]
   rfl
  ·exact HSET.o.alloc HSET.o.size _
 | cons x r =>
  simp only at cP;have hmp:(0:Int)<((x::r).length:Int):=by simp only[jer];omega
  have QB:Stb (w2.alloc (.cells #[.int .i64 (cs.length:Int),.int .i64 ((cs.length:Int)-((x::r).length:Int)),.bool true,.bool false,.int .u8 0,.int .i64 0,.string ⟨#[]⟩,.int .u8 0,.int .i64 0,.string ⟨#[]⟩] 54)) w2.heap.size ⟨cs.length,(cs.length:Int)-((x::r).length:Int),true,false,nul,nul⟩:=Stb.new w2 ⟨cs.length,(cs.length:Int)-((x::r).length:Int),true,false,nul,nul⟩;have hbG:=ak w2 (.cells #[.int .i64 (cs.length:Int),.int .i64 ((cs.length:Int)-((x::r).length:Int)),.bool true,.bool false,.int .u8 0,.int .i64 0,.string ⟨#[]⟩,.int .u8 0,.int .i64 0,.string ⟨#[]⟩] 54);have HGB:=ae QB;have HBG:=ae hbG;have KW:wrap64 ((cs.length:Int)-((x::r).length:Int))=(cs.length:Int)-((x::r).length:Int):=by have:=HL.o;have:=HNL.o;unfold wrap64;omega
  have HSG:jgf (∀ U,Below w2.heap.size w2 U->Sv U (.slice a2 (x::r).length cap2) (aJ (x::r))/\Stb U w.heap.size stZ):=ae (fun U h=>⟨gj.o.kept h,MB.o.kept h⟩);have Rl:jgf (aT x):=ae (QC.o x (by simp));have np:jgf (∀ c∈r,aT c):=ae (fun c hc=>QC.o c (by simp[hc]));have HFMI:jgf (aT (gx x r)):=ae (mh Rl.o np.o);have HFMA:jgf (aT (eK x r)):=ae (nW Rl.o np.o);have QD:=ae (fun U (h:Below w2.heap.size w2 U)=>xE (HSG.o U h).1 QC.o);have HMI:jgf (∀ U,Below w2.heap.size w2 U->Calls Tryz.prog 104 #[.slice a2 (x::r).length cap2,.func (.func 105) #[] #[]] U fun e w'=>e=.returned (da (gx x r))/\Below U.heap.size U w'):=ae (fun U h=>TK (HSG.o U h).1 QC.o (by simp));have HMA:jgf (∀ U,Below w2.heap.size w2 U->Calls Tryz.prog 107 #[.slice a2 (x::r).length cap2,.func (.func 105) #[] #[]] U fun e w'=>e=.returned (da (eK x r))/\Below U.heap.size U w'):=ae (fun U h=>TL (HSG.o U h).1 QC.o (by simp));obtain⟨cl,eX⟩:∃ cl,cl=(x::r).all eT:=⟨_,rfl⟩;rw[← eX]at cP QD;clear eX QB hbG;generalize gx x r=mi at *;generalize eK x r=ma at *;have HLO:=ae (BX HFMI.o cl);have HHI:=ae (yQ HFMA.o cl);generalize nX mi cl=lo at *;generalize gI ma cl=hi at *;obtain⟨hi,hib⟩:=hi;simp only at cP HHI;generalize hmm:(x::r).length=m at *;have Rh:0<m:=by omega
  have hmd:decide (0<m)=true:=jeB Rh;clear hmm;obtain⟨_,⟨g0,g1,g2,g3⟩,⟨g4,g5,g6⟩,g7,g8,g9⟩:=HGB.o.at;simp only[jeO]at g0 g1 g2 g3 g4 g5 g6 g7 g8 g9;go_wp2_with fail;refine(QD.o _ HBG.o).mono ?_;rintro e w3 ⟨rfl,aS⟩;have bN:=ae (ai HBG.o aS);have YY:=ae (HGB.o.kept aS);clear aS g0 g1 g2 g3 g4 g5 g6 g7 g8 g9;go_wp2_with fail;refine(HMI.o _ bN.o).mono ?_;rintro e w4 ⟨rfl,bG⟩;have cp:=ae (ai bN.o bG);have WR:=ae (YY.o.kept bG);clear bG;go_wp2_with fail;refine(HLO.o _).mono ?_;rintro e w5 ⟨rfl,bD⟩;have aQ:=ae (ai cp.o bD);have QE:=ae (WR.o.kept bD);clear bD;obtain⟨_,⟨g0,g1,g2,g3⟩,⟨g4,g5,g6⟩,g7,g8,g9⟩:=QE.o.at;simp only[jeO]at g0 g1 g2 g3 g4 g5 g6 g7 g8 g9;have fg:=QE.o.frozen;go_wp2_with fail;have dW:Below w2.heap.size w2 (((w5.setCell ⟨w2.heap.size,4,none⟩ (.int .u8 (lo.1:Int))).setCell ⟨w2.heap.size,5,none⟩ (.int .i64 lo.2.1)).setCell ⟨w2.heap.size,6,none⟩ (.string (am lo.2.2))):=fF (fF (fF aQ.o (jek _) _ _) (jek _) _ _) (jek _) _ _;have gW:=ae dW;have kS:=ae (QE.o.lo lo);clear dW fg g0 g1 g2 g3 g4 g5 g6 g7 g8 g9;refine(HMA.o _ gW.o).mono ?_;rintro e w7 ⟨rfl,iR⟩;have ir:=ae (ai gW.o iR);have HG7:=ae (kS.o.kept iR);clear iR;go_wp2_with fail;refine(HHI.o _).mono ?_;rintro e w8 ⟨rfl,kR⟩;have qD:=ae (ai ir.o kR);have HG8:=ae (HG7.o.kept kR);clear kR;obtain⟨_,⟨g0,g1,g2,g3⟩,⟨g4,g5,g6⟩,g7,g8,g9⟩:=HG8.o.at;obtain⟨_,⟨r0,r1,r2,r3⟩,⟨r4,r5,r6⟩,r7,r8,r9⟩:=(HSG.o _ qD.o).2.at;simp only[jeO]at g0 g1 g2 g3 g4 g5 g6 g7 g8 g9 r0 r1 r2 r3 r4 r5 r6 r7 r8 r9;have fg:=HG8.o.frozen;have fz:=(HSG.o _ qD.o).2.frozen;have fJ:¬ w2.heap.size=w.heap.size:=by have:=nI.o;omega
  have zq:¬ w.heap.size=w2.heap.size:=by have:=nI.o;omega
  have tS:=ae (ai nH.o qD.o);have vJ:jgf (w.heap.size<=w2.heap.size):=ae (by have:=nI.o;omega);go_wp2_with fail;refine bodyPost_ret (v:=.agg #[.int .i64 (cs.length:Int),.int .i64 ((cs.length:Int)-(m:Int)),.bool true,.bool hib,.int .u8 (lo.1:Int),.int .i64 lo.2.1,.string (am lo.2.2),.int .u8 (hi.1:Int),.int .i64 hi.2.1,.string (am hi.2.2)]) (by simp[results,Tryz.results59,go_sem,fJ,zq,r0,r1,r2,r3,r4,r5,r6,r7,r8,r9]) rfl ⟨?_,?_⟩
  ·rw[cP.o]
   rfl
  ·exact TM (fF (fF (fF (fF tS.o vJ.o _ _) vJ.o _ _) vJ.o _ _) vJ.o _ _) (jek _) _ _ _ _ _ _ _ _ _ _
theorem pe(l:List UInt8):(nb l).length=l.length:=by simp[nb]
theorem rJ{rs:List Nat}:∀ i,eQ (rs.map eu) i<=4*i
 | 0=>by simp
 | i+1=>by
  have:=rJ (rs:=rs) i;by_cases h:i<rs.length
  ·have hd:(rs.map eu).drop i=eu rs[i]::(rs.map eu).drop (i+1):=by
    rw[je1 (by simpa using h)];simp
   rw[zx hd];have:=iw rs[i];have h2:(eu rs[i]).2=(dX rs[i]).length:=rfl;omega
  ·have h1:=re (rs.map eu) i (by simp;omega)
   have h2:=re (rs.map eu) (i+1) (by simp;omega);omega
theorem JB{l a:List UInt8}(h:gT l 4=some a)(hl:l.length<=64):a.length<=64:=by
 have h0:=h;rw[xz]at h;unfold ef at h;split at h
 ·split at h
  ·obtain rfl:=Option.some.inj h;omega
  ·split at h
   ·cases h
   ·next hc _ _ =>
    have hv:=Bk hc;unfold upL at h;cases hg:il (V l) (4:Int).toNat with
    | none=>rw[hg]at h;cases h
    | some i =>
     rw[hg]at h;have hi:=(rh hg).1;simp only[jfu,Option.some.injEq]at h;subst h;have:=iw (nx ((V l).getD i (0,0)).1);have:=rJ (rs:=iU l) i;rw[← hv]at this;have h4:(4:Int).toNat=4:=rfl;simp only[jem,jeq];omega
 ·cases h
theorem Pa{x:Cl}(hf:aT x)(cl:Bool):aT (nX x cl):=by
 unfold nX;by_cases h:x.1=3/\cl=false
 ·rw[jei h]
  exact Or.inr (Or.inr (Or.inr ⟨[],rfl,by simp,fun x hx=>by simp at hx⟩))
 ·rw[jeh h]
  have he:nb (bZ (lb (am ([]:List Nat))) 4)=[]:=by
   have:lb (am ([]:List Nat))=[]:=rfl;rw[this];simp[bZ,nb]
  rcases hf with rfl | ⟨n,rfl,hn⟩ | ⟨n,rfl,hn⟩ | ⟨s,rfl,hl,hs⟩
  ·refine Or.inl ?_
   show ((0:Nat),(0:Int),nb (bZ (lb (am ([]:List Nat))) 4))=nul
   rw[he];rfl
  ·refine Or.inr (Or.inl ⟨n,?_,hn⟩)
   show ((1:Nat),n,nb (bZ (lb (am ([]:List Nat))) 4))=_
   rw[he]
  ·refine Or.inr (Or.inr (Or.inl ⟨n,?_,hn⟩))
   show ((2:Nat),(n:Int),nb (bZ (lb (am ([]:List Nat))) 4))=_
   rw[he]
  ·refine Or.inr (Or.inr (Or.inr ⟨_,rfl,?_,ZR _⟩))
   rw[pe];show (bZ (lb (am s)) 4).length<=64
   have:=qf (lb (am s)) 4;have h2:(lb (am s)).length=s.length:=by rw[cL,bi]
   omega
theorem JC{x:Cl}(hf:aT x)(cl:Bool):aT (gI x cl).1:=by
 unfold gI;by_cases h:x.1=3
 ·rw[jei h]
  cases ha:gT (lb (am x.2.2)) 4 with
  | none=>exact Or.inl rfl
  | some a =>
   simp only;cases cl
   ·exact Or.inl rfl
   ·refine Or.inr (Or.inr (Or.inr ⟨_,rfl,?_,ZR _⟩))
    rw[pe];refine JB ha ?_;rw[cL];exact hf.short
 ·rw[jeh h]
  exact hf
theorem kJ{cs:List Cl}(hf:∀ c∈cs,aT c):aT (cA cs).lo/\aT (cA cs).hi:=by
 have MC:∀ c∈aZ cs,aT c:=fun c hc=>hf c (by unfold aZ at hc;exact(jf6.1 hc).1)
 unfold cA;cases hn:aZ cs with
 | nil=>exact⟨Or.inl rfl,Or.inl rfl⟩
 | cons y r =>
  rw[hn]at MC;have hy:=MC y (by simp);have hr:∀ c∈r,aT c:=fun c hc=>MC c (by simp[hc])
  exact⟨Pa (mh hy hr) _,JC (nW hy hr) _⟩
def bst(l:List Int):Nat->List Nat
 | 0=>[]
 | k+1=>jL l k
def EJ(l:List Int):List Nat:=if l.length<=256 then jL l 4 else []
theorem cH(w:World)(x:Nat):aD (w.alloc (.cells #[.int .u8 (x:Int)] 5)) w.heap.size (.slice (some ⟨w.heap.size,0,none⟩) 1 1) [x] :=
 jfv w #[.int .u8 (x:Int)] 1 (jek _) (by unfold maxLen;omega) rfl
theorem Pb(l:List Int):bst l 1=[0]++gB l:=rfl
theorem Pc(l:List Int):bst l 2=if (iP 0 l).length+1<(bst l 1).length then [1]++iP 0 l else bst l 1:=rfl
theorem Pd(l:List Int):bst l 3=if (iA l).length+1<(bst l 2).length then [2]++iA l else bst l 2:=rfl
theorem Pe(l:List Int):bst l 4=if (qc l).length+1<(bst l 3).length then [3]++qc l else bst l 3:=rfl
theorem Pf(l:List Int):bst l 5=if (lZ l).length+1<(bst l 4).length then [4]++lZ l else bst l 4:=rfl
theorem TN{w:World}{v:Value}{l:List Int}(hs:Sv w v (aL l))(hl:l.length<=256)(hi:Is l) :
  Calls Tryz.prog 170 #[v] w fun e w'=>(∃ v',e=.returned (.tuple #[v',.bool true])/\aD w' w.heap.size v' (jL l 4))/\Below w.heap.size w w':=by
 have HS:=ae hs;have HI:=ae hi;obtain⟨a,cap,rfl,aW,bC⟩:=hs.form;have vZ:¬ (l.length:Int) > 256:=by omega
 have qG:jgf (∀ k,(bst l k).length<=5131):=by
  intro k;cases k with
  | zero=>simp[bst]
  | succ k =>
   obtain⟨c,_,e⟩:=jx l k;rw[bst,e];have:=(eI c hi hl).1;simp
   omega
 have i0:∀ w,(Instr.index 246 (.agg #[.func (.func 226) #[] #[],.func (.func 227) #[] #[],.func (.func 228) #[] #[],.func (.func 229) #[] #[],.func (.func 230) #[] #[]]) (.int .i64 0)).run Tryz.prog w=.ok (.func (.func 226) #[] #[]) w:=fun _=>by kernel_rfl
 have hz_0:=(eI 0 hi hl).1;have HP0:jgf (∀ W,Sv W (.slice a l.length cap) (aL l)->Calls Tryz.prog 226 #[.slice a l.length cap] W (dA W (gB l))):=fun W h=>uj h hl HI.o
 have i1:∀ w,(Instr.index 246 (.agg #[.func (.func 226) #[] #[],.func (.func 227) #[] #[],.func (.func 228) #[] #[],.func (.func 229) #[] #[],.func (.func 230) #[] #[]]) (.int .i64 1)).run Tryz.prog w=.ok (.func (.func 227) #[] #[]) w:=fun _=>by kernel_rfl
 have hz_1:=(eI 1 hi hl).1;have Dj:jgf (∀ W,Sv W (.slice a l.length cap) (aL l)->Calls Tryz.prog 227 #[.slice a l.length cap] W (dA W (iP 0 l))):=fun W h=>rC h hl HI.o
 have i2:∀ w,(Instr.index 246 (.agg #[.func (.func 226) #[] #[],.func (.func 227) #[] #[],.func (.func 228) #[] #[],.func (.func 229) #[] #[],.func (.func 230) #[] #[]]) (.int .i64 2)).run Tryz.prog w=.ok (.func (.func 228) #[] #[]) w:=fun _=>by kernel_rfl
 have hz_2:=(eI 2 hi hl).1;have Gj:jgf (∀ W,Sv W (.slice a l.length cap) (aL l)->Calls Tryz.prog 228 #[.slice a l.length cap] W (dA W (iA l))):=fun W h=>um h hl HI.o
 have i3:∀ w,(Instr.index 246 (.agg #[.func (.func 226) #[] #[],.func (.func 227) #[] #[],.func (.func 228) #[] #[],.func (.func 229) #[] #[],.func (.func 230) #[] #[]]) (.int .i64 3)).run Tryz.prog w=.ok (.func (.func 229) #[] #[]) w:=fun _=>by kernel_rfl
 have hz_3:=(eI 3 hi hl).1;have Ln:jgf (∀ W,Sv W (.slice a l.length cap) (aL l)->Calls Tryz.prog 229 #[.slice a l.length cap] W (dA W (qc l))):=fun W h=>pH h hl HI.o
 have i4:∀ w,(Instr.index 246 (.agg #[.func (.func 226) #[] #[],.func (.func 227) #[] #[],.func (.func 228) #[] #[],.func (.func 229) #[] #[],.func (.func 230) #[] #[]]) (.int .i64 4)).run Tryz.prog w=.ok (.func (.func 230) #[] #[]) w:=fun _=>by kernel_rfl
 have hz_4:=(eI 4 hi hl).1;have HP4:jgf (∀ W,Sv W (.slice a l.length cap) (aL l)->Calls Tryz.prog 230 #[.slice a l.length cap] W (dA W (lZ l))):=fun W h=>nU h hl HI.o
 clear hs aW bC hi;go_enter Tryz.func170,Tryz.ntmps170
 go_wp2_with fail;refine(gg _).mono ?_;rintro e w1 ⟨rfl,aH⟩;have aP:=ae aH;have cK:=aH.size;clear aH;go_wp2_with fail;go_loopw [4,12] (fun b i wr=>∃ k:Nat,k<=5/\i=.int .i64 (k:Int)/\aD wr w.heap.size b (bst l k)/\Below w.heap.size w wr) (fun _ i _=>5-(intOf i).toNat)
 case atStart=>exact⟨0,by omega,rfl,aD.nil _ _,aP.o⟩
 case round =>
  obtain⟨k,hk,rfl,aA,az⟩:=hrel;have HO:=ae aA;have HB:=ae az;have bH:=az.size;obtain⟨ab,cb,rfl⟩:=aA.len;have fK:=qG.o k;clear aA az;obtain rfl | rfl | rfl | rfl | rfl | rfl:k=0∨k=1∨k=2∨k=3∨k=4∨k=5:=by omega
  ·have HT:=ae (Pb l)
   have WS:=ae (HS.o.kept (HB.o.alloc bH (.cells #[.int .u8 0] 5)));have nz:=ae (cH wr 0);have fx:=ae ((jej wr.heap.size wr).alloc (jek _) (.cells #[.int .u8 0] 5));have AW:(gB l).length<=5130:=hz_0;clear hz_0 hz_1 hz_2 hz_3 hz_4;generalize bst l 0=B0 at *;generalize gB l=EC at *;go_wp2_with fail;refine(HP0.o _ WS.o).mono ?_;rintro e w3 ⟨⟨v3,rfl,fW⟩,aS⟩;have dd:=ae fW;have VG:=ae (nz.o.kept aS);have bN:=ae (fx.o.trans (aS.mono (by simp)));have iN:=aS.size;rw[jel]at iN;clear fW aS;go_wp2_with (first | (at_builtin;refine ax rfl _ _ rfl wr.heap.size _ _ [0] EC rfl VG.o rfl dd.o.sv ?c1 ?c2 ?_))
   case c1=>simp;omega
   case c2=>omega
   intro v4 w4 o4 b4;have eY:=ae (o4.low bH);have cp:=ae (bN.o.trans b4);have fX:=ae (HB.o.trans (cp.o.mono bH));have AV:=ae (HO.o.kept cp.o);obtain⟨a4,c4,rfl⟩:=o4.len;clear o4 b4;go_wp2_with fail;go_roundw
   case rel=>exact⟨1,by omega,by go_num,by rw[HT.o];exact eY.o,fX.o⟩
   case measure=>simp[intOf]
  ·have HT:=ae (Pc l)
   have WS:=ae (HS.o.kept (HB.o.alloc bH (.cells #[.int .u8 1] 5)));have nz:=ae (cH wr 1);have fx:=ae ((jej wr.heap.size wr).alloc (jek _) (.cells #[.int .u8 1] 5));have AW:(iP 0 l).length<=5130:=hz_1;clear hz_0 hz_1 hz_2 hz_3 hz_4;generalize bst l 1=B0 at *;generalize iP 0 l=EC at *;go_wp2_with fail;refine(Dj.o _ WS.o).mono ?_;rintro e w3 ⟨⟨v3,rfl,fW⟩,aS⟩;have dd:=ae fW;have VG:=ae (nz.o.kept aS);have bN:=ae (fx.o.trans (aS.mono (by simp)));have iN:=aS.size;rw[jel]at iN;clear fW aS;go_wp2_with (first | (at_builtin;refine ax rfl _ _ rfl wr.heap.size _ _ [1] EC rfl VG.o rfl dd.o.sv ?c1 ?c2 ?_))
   case c1=>simp;omega
   case c2=>omega
   intro v4 w4 o4 b4;have eY:=ae (o4.low bH);have cp:=ae (bN.o.trans b4);have fX:=ae (HB.o.trans (cp.o.mono bH));have AV:=ae (HO.o.kept cp.o);obtain⟨a4,c4,rfl⟩:=o4.len;clear o4 b4;by_cases aB:EC.length+1<B0.length
   ·rw[jei aB]at HT
    have CY:(EC.length:Int)+1<(B0.length:Int):=(by omega);clear aB;go_wp2_with fail;go_roundw
    case rel=>exact⟨2,by omega,by go_num,by rw[HT.o];exact eY.o,fX.o⟩
    case measure=>simp[intOf]
   ·rw[jeh aB]at HT
    have CY:¬ (EC.length:Int)+1<(B0.length:Int):=(by omega);clear aB;go_wp2_with fail;go_roundw
    case rel=>exact⟨2,by omega,by go_num,by rw[HT.o];exact AV.o,fX.o⟩
    case measure=>simp[intOf]
  ·have HT:=ae (Pd l)
   have WS:=ae (HS.o.kept (HB.o.alloc bH (.cells #[.int .u8 2] 5)));have nz:=ae (cH wr 2);have fx:=ae ((jej wr.heap.size wr).alloc (jek _) (.cells #[.int .u8 2] 5));have AW:(iA l).length<=5130:=hz_2;clear hz_0 hz_1 hz_2 hz_3 hz_4;generalize bst l 2=B0 at *;generalize iA l=EC at *;go_wp2_with fail;refine(Gj.o _ WS.o).mono ?_;rintro e w3 ⟨⟨v3,rfl,fW⟩,aS⟩;have dd:=ae fW;have VG:=ae (nz.o.kept aS);have bN:=ae (fx.o.trans (aS.mono (by simp)));have iN:=aS.size;rw[jel]at iN;clear fW aS;go_wp2_with (first | (at_builtin;refine ax rfl _ _ rfl wr.heap.size _ _ [2] EC rfl VG.o rfl dd.o.sv ?c1 ?c2 ?_))
   case c1=>simp;omega
   case c2=>omega
   intro v4 w4 o4 b4;have eY:=ae (o4.low bH);have cp:=ae (bN.o.trans b4);have fX:=ae (HB.o.trans (cp.o.mono bH));have AV:=ae (HO.o.kept cp.o);obtain⟨a4,c4,rfl⟩:=o4.len;clear o4 b4;by_cases aB:EC.length+1<B0.length
   ·rw[jei aB]at HT
    have CY:(EC.length:Int)+1<(B0.length:Int):=(by omega);clear aB;go_wp2_with fail;go_roundw
    case rel=>exact⟨3,by omega,by go_num,by rw[HT.o];exact eY.o,fX.o⟩
    case measure=>simp[intOf]
   ·rw[jeh aB]at HT
    have CY:¬ (EC.length:Int)+1<(B0.length:Int):=(by omega);clear aB;go_wp2_with fail;go_roundw
    case rel=>exact⟨3,by omega,by go_num,by rw[HT.o];exact AV.o,fX.o⟩
    case measure=>simp[intOf]
  ·have HT:=ae (Pe l)
   have WS:=ae (HS.o.kept (HB.o.alloc bH (.cells #[.int .u8 3] 5)));have nz:=ae (cH wr 3);have fx:=ae ((jej wr.heap.size wr).alloc (jek _) (.cells #[.int .u8 3] 5));have AW:(qc l).length<=5130:=hz_3;clear hz_0 hz_1 hz_2 hz_3 hz_4;generalize bst l 3=B0 at *;generalize qc l=EC at *;go_wp2_with fail;refine(Ln.o _ WS.o).mono ?_;rintro e w3 ⟨⟨v3,rfl,fW⟩,aS⟩;have dd:=ae fW;have VG:=ae (nz.o.kept aS);have bN:=ae (fx.o.trans (aS.mono (by simp)));have iN:=aS.size;rw[jel]at iN;clear fW aS;go_wp2_with (first | (at_builtin;refine ax rfl _ _ rfl wr.heap.size _ _ [3] EC rfl VG.o rfl dd.o.sv ?c1 ?c2 ?_))
   case c1=>simp;omega
   case c2=>omega
   intro v4 w4 o4 b4;have eY:=ae (o4.low bH);have cp:=ae (bN.o.trans b4);have fX:=ae (HB.o.trans (cp.o.mono bH));have AV:=ae (HO.o.kept cp.o);obtain⟨a4,c4,rfl⟩:=o4.len;clear o4 b4;by_cases aB:EC.length+1<B0.length
   ·rw[jei aB]at HT
    have CY:(EC.length:Int)+1<(B0.length:Int):=(by omega);clear aB;go_wp2_with fail;go_roundw
    case rel=>exact⟨4,by omega,by go_num,by rw[HT.o];exact eY.o,fX.o⟩
    case measure=>simp[intOf]
   ·rw[jeh aB]at HT
    have CY:¬ (EC.length:Int)+1<(B0.length:Int):=(by omega);clear aB;go_wp2_with fail;go_roundw
    case rel=>exact⟨4,by omega,by go_num,by rw[HT.o];exact AV.o,fX.o⟩
    case measure=>simp[intOf]
  ·have HT:=ae (Pf l)
   have WS:=ae (HS.o.kept (HB.o.alloc bH (.cells #[.int .u8 4] 5)));have nz:=ae (cH wr 4);have fx:=ae ((jej wr.heap.size wr).alloc (jek _) (.cells #[.int .u8 4] 5));have AW:(lZ l).length<=5130:=hz_4;clear hz_0 hz_1 hz_2 hz_3 hz_4;generalize bst l 4=B0 at *;generalize lZ l=EC at *;go_wp2_with fail;refine(HP4.o _ WS.o).mono ?_;rintro e w3 ⟨⟨v3,rfl,fW⟩,aS⟩;have dd:=ae fW;have VG:=ae (nz.o.kept aS);have bN:=ae (fx.o.trans (aS.mono (by simp)));have iN:=aS.size;rw[jel]at iN;clear fW aS;go_wp2_with (first | (at_builtin;refine ax rfl _ _ rfl wr.heap.size _ _ [4] EC rfl VG.o rfl dd.o.sv ?c1 ?c2 ?_))
   case c1=>simp;omega
   case c2=>omega
   intro v4 w4 o4 b4;have eY:=ae (o4.low bH);have cp:=ae (bN.o.trans b4);have fX:=ae (HB.o.trans (cp.o.mono bH));have AV:=ae (HO.o.kept cp.o);obtain⟨a4,c4,rfl⟩:=o4.len;clear o4 b4;by_cases aB:EC.length+1<B0.length
   ·rw[jei aB]at HT
    have CY:(EC.length:Int)+1<(B0.length:Int):=(by omega);clear aB;go_wp2_with fail;go_roundw
    case rel=>exact⟨5,by omega,by go_num,by rw[HT.o];exact eY.o,fX.o⟩
    case measure=>simp[intOf]
   ·rw[jeh aB]at HT
    have CY:¬ (EC.length:Int)+1<(B0.length:Int):=(by omega);clear aB;go_wp2_with fail;go_roundw
    case rel=>exact⟨5,by omega,by go_num,by rw[HT.o];exact AV.o,fX.o⟩
    case measure=>simp[intOf]
  ·go_wp2_with fail
   go_ret2
   exact⟨⟨_,rfl,HO.o⟩,HB.o⟩
theorem XV{w:World}{v:Value}{l:List Int}(hs:Sv w v (aL l))(hl:¬ l.length<=256) :
  Calls Tryz.prog 170 #[v] w fun e w'=>(∃ v',e=.returned (.tuple #[v',.bool false])/\aD w' w.heap.size v' [])/\Below w.heap.size w w':=by
 obtain⟨a,cap,rfl,aW,bC⟩:=hs.form;have hm:l.length<=9223372036854775807:=by unfold maxLen at bC;omega
 have vZ:(l.length:Int) > 256:=by omega
 clear hs aW bC hl;go_enter Tryz.func170,Tryz.ntmps170
 go_wp2_with fail;go_ret2
 exact⟨⟨_,rfl,aD.nil _ _⟩,jej _ _⟩
theorem TO{w:World}{v:Value}{l:List Int}(hs:Sv w v (aL l))(hi:Is l) :
  Calls Tryz.prog 170 #[v] w fun e w'=>(∃ v',e=.returned (.tuple #[v',.bool (decide (l.length<=256))])/\aD w' w.heap.size v' (EJ l))/\Below w.heap.size w w':=by
 unfold EJ;by_cases h:l.length<=256
 ·rw[jeB h,jei h]
  exact TN hs h hi
 ·rw[jeu h,jeh h]
  exact XV hs h
end Go.Proofs.YtpljdjmpamjkhaaGreatDoor
